/- PlaceClean answers true for every number and every slice of numbers, and leaves what was in memory. -/
import Derived.Test.YtbhjokfgajjoiaaPlaceRows
namespace Go.Proofs.Ytbhjokfgajjoiaa
open Go.RowKit

set_option maxRecDepth 20000 in
set_option maxHeartbeats 4000000 in
theorem placeClean_any (chunks : Int) (ao : Option Addr) (N cap : Nat) (z : Nat → Int) (w : World) (hr : IntsAt .i64 w ao N z) :
    Calls Try.prog 7 #[.int .i64 chunks, .slice ao N cap] w fun e w' => e = .returned (.bool true) ∧ Below w.heap.size w w' := by
  have HR : Hid (IntsAt .i64 w ao N z) := hr
  clear hr
  obtain ⟨k, hk, hk1, hk8⟩ := lowAt chunks 7 3 1 (by decide) (by decide)
  have hk' : (1 : Int) + bits .and .i64 chunks 7 = (k : Int) := hk
  clear hk
  have hG : Good 2 3 k 20 100 600 3 := goodp (by omega) (by omega) (by omega) (by omega)
  have HG : Hid (Good 2 3 k 20 100 600 3) := hG
  have AR := fun w => arena07 hG w
  clear hG
  go_enter Try.func7, Try.ntmps7
  go_wp2_with (first
    | (go_at_call 8; refine (AR _).mono ?_; rintro e w1 ⟨L, s, rfl, m1, y1, b1, f1⟩; obtain ⟨p1, pa⟩ := Plot.first HG.out m1 y1 b1 f1)
    | (go_at_call 9; refine (awake07_any _).mono ?_; rintro e w2 ⟨rfl, b2⟩; have p2 := p1.grown b2; have z7 := p2.v.c7; obtain ⟨K, hK⟩ : ∃ K, s.n = K := ⟨_, rfl⟩; have hKL : K ≤ 1048576 := by { rw [← hK]; exact p2.mm.len }; have hmk := run_make_row' (P := Try.prog) 61 41 (.int .u64 0) 8 Try.underlying61 Try.infoW41 rfl .i64 .i64 K (by omega) (by omega))
    | (go_at_call 25; refine (len_is p2.mm K hK).mono ?_; rintro e w4 ⟨rfl, rfl⟩))
  have FA : Hid (PlotApart w L w1.heap.size 2 3 k 20) := pa
  obtain ⟨E, hE⟩ : ∃ E, w1.heap.size = E := ⟨_, rfl⟩
  rw [hE] at FA p2 ⊢
  obtain ⟨B, hB⟩ : ∃ B, B = w4.heap.size := ⟨_, rfl⟩
  have hrow := World.rowIs_made w4 (.int .u64 0) K 41
  have f4 := p2.alloc (.cells (madeCells #[.int .u64 0] K) 41)
  have hLB : Hid (¬ L.has B) := fun h => by have := p2.mm.lt B h; omega
  have hBw : Hid (w.heap.size ≤ B) := by unfold Hid; have := p2.b.size; omega
  have hBe : Hid (E ≠ B) := by unfold Hid; have := p2.ltE; omega
  have hK' : Hid (s.n = K) := hK
  rw [← hB] at hrow ⊢
  have A4 : Hid (Plot w (w4.alloc (.cells (madeCells #[.int .u64 0] K) 41)) L E 2 3 k 20 s 7 Y.new ∧ (w4.alloc (.cells (madeCells #[.int .u64 0] K) 41)).rowIs B 41 K (fun i => .int .u64 (if i < 0 then s.wd i else 0))) := ⟨f4, hrow⟩
  clear hB p2 p1 pa f4 hrow hK hmk z7 m1 y1 b1 f1 b2 AR hE
  go_loopw [8] (fun j wr => ∃ (q : Nat), q ≤ K ∧ j = .int .i64 q ∧ Plot w wr L E 2 3 k 20 s 7 Y.new ∧ wr.rowIs B 41 K (fun i => .int .u64 (if i < q then s.wd i else 0))) (fun j _ => K - (intOf j).toNat)
  case atStart => exact ⟨0, Nat.zero_le _, rfl, A4.out.1, A4.out.2⟩
  case round =>
    clear A4
    obtain ⟨q, hq, rfl, f, hrow⟩ := hrel
    by_cases hqK : q < K
    · have hc := hrow.cell hqK
      have hf := hrow.frozen q
      have hqK' : (q : Int) < (K : Int) := by omega
      have y7 := f.v.c7
      go_wp2_with (go_at_call 14; refine (peek_in f.mm _ (by rw [hK'.out]; exact hqK)).mono ?_; rintro e w5 ⟨rfl, rfl⟩)
      go_roundw
      case rel => exact ⟨q + 1, by omega, by go_num, f.setIn hBw.out hBe.out hLB.out _ _, row_more hrow hqK⟩
      case measure => simp [intOf]; omega
    · have hqK' : ¬ (q : Int) < (K : Int) := by omega
      have hjj : q = K := by omega
      rw [hjj] at hrow
      have A5 : Hid (Plot w wr L E 2 3 k 20 s 7 Y.new ∧ wr.rowIs B 41 K (fun i => .int .u64 (s.wd i))) := ⟨f, row_all hrow⟩
      clear hrow hjj f
      go_wp2
      clear hqK hqK' hq
      go_loopw [9] (fun j wr => ∃ (r : Nat) (s2 : Mm) (σ nx : Nat) (y : Y), r ≤ 30 ∧ j = .int .i64 r ∧ σ ≤ 7 + 300 * r ∧ Plot w wr L E 2 3 k 20 s2 σ y ∧ Alone k y nx ∧ Kept 2 3 k s s2 ∧ wr.rowIs B 41 K (fun i => .int .u64 (s.wd i))) (fun j _ => 30 - (intOf j).toNat)
      case atStart => exact ⟨0, s, 7, 0, _, by omega, rfl, by omega, A5.out.1, alone0 k, Kept.refl _ _ _ _, A5.out.2⟩
      case round =>
        clear A5
        obtain ⟨r, s2, σ, nx, y, hr30, rfl, hσ, f, A, kp, hrow⟩ := hrel
        by_cases hr' : r < N ∧ r < 30
        · obtain ⟨hrN, hr3⟩ := hr'
          have hr3' : (r : Int) < 30 := by omega
          have hrN' : (r : Int) < (N : Int) := by omega
          obtain ⟨zb, zo, rfl, hz0⟩ := HR.out r hrN
          have hz := keep' f.b hz0
          obtain ⟨κ, hκ, hκ4⟩ := bits3 (z r)
          have HA : Hid (Alone k y nx) := A
          have HKp : Hid (Kept 2 3 k s s2) := kp
          obtain ⟨M, y', nx', τ', hM, go, g⟩ := alone_goes (m := 20) (bs := base 2 3 k 20) A hκ4 (by omega) hk1 (by omega)
          obtain ⟨xa, xi, xd, ht⟩ : ∃ xa xi xd, τ'.told = (xa, xi, xd) := ⟨_, _, _, rfl⟩
          have HGt : Hid (Got k 20 κ (base 2 3 k 20) y nx y' nx' τ') := g
          have HT : Hid (τ'.told = (xa, xi, xd)) := ht
          have Hf : Hid (Plot w wr L E 2 3 k 20 s2 σ y) := f
          have Hr : Hid (wr.rowIs B 41 K (fun i => .int .u64 (s.wd i))) := hrow
          clear hz0 A kp go g ht f hrow
          go_wp2
          refine wp_region_rely_tail Grown 6 [.val (.agg #[.int .i64 2, .int .i64 3, .int .i64 k, .int .i64 20, .int .i64 100, .int .i64 600, .int .i64 3, .pointer (some ⟨L.p, 0, none⟩), .int .i64 0]), .val (.slice (some ⟨zb, zo, none⟩) N cap), .val (.int .i64 r), .val (.pointer (some ⟨zb, zo + r, none⟩)), .val (.int .i64 (z r)), .val (.int .i64 κ)] (by kernel_rfl) Grown.refl Grown.trans (by decide) (by kernel_rfl) (by kernel_rfl) (by kernel_rfl) (by kernel_rfl) (by kernel_rfl) (by kernel_rfl) ?_
          simp only [List.take_succ_cons, List.take_zero, relyAll, Act.put, List.setIfInBounds_toArray, List.set_cons_zero, List.set_cons_succ]
          refine ⟨?_, ?_, ?_, ?_, ?_, ?_, ?_⟩
          · intro w' hg _
            refine Or.inl ⟨rfl, ?_⟩
            have vv := (Hf.out.drew.grown hg).v
            have y0 := vv.c0
            have y1 := vv.c1
            have y2 := vv.c2
            have y3 := vv.c3
            have y4 := vv.c4
            have y5 := vv.c5
            have y6 := vv.c6
            have y7 := vv.c7
            have y8 := vv.c8
            go_simp
            exact ⟨Grown.refl _, rfl⟩
          · intro w' hg _
            refine Or.inl ⟨rfl, ?_⟩
            go_simp
            exact ⟨Grown.refl _, rfl⟩
          · intro w' hg _
            refine Or.inl ⟨rfl, ?_⟩
            go_simp
            exact ⟨Grown.refl _, rfl⟩
          · intro w' hg _
            refine Or.inl ⟨rfl, ?_⟩
            go_simp
            exact ⟨Grown.refl _, rfl⟩
          · intro w' hg _
            refine Or.inl ⟨rfl, ?_⟩
            have hz1 := keep' hg (show wr.drew.cell? ⟨zb, zo + r, none⟩ = some (.int .i64 (z r)) from hz)
            go_simp
            exact ⟨Grown.refl _, rfl⟩
          · intro w' hg _
            refine Or.inl ⟨rfl, ?_⟩
            go_simp
            exact ⟨Grown.refl _, rfl⟩
          intro w5 hg _
          have f5 := Hf.out.drew.grown hg
          have r5 : w5.rowIs B 41 K (fun i => .int .u64 (s.wd i)) := Hr.out.of_block (show w5.heap[B]? = wr.heap[B]? from hg.block _ (show B < wr.drew.heap.size from Hr.out.lt))
          have H5 : Hid (w5.rowIs B 41 K (fun i => .int .u64 (s.wd i))) := r5
          clear hg Hf Hr hz r5
          go_wp2_with (go_at_call 11; refine (f5.get FA.out hκ4 (by omega) HA.out HGt.out xa xi xd HT.out).mono ?_; rintro e w6 ⟨rfl, s6, σ6, hσ6, f6, o6, kp6⟩)
          go_roundw
          case rel => exact ⟨r + 1, s6, σ6, nx', y', by omega, by go_num, by omega, f6, HGt.out.alone HA.out hκ4, HKp.out.trans kp6, H5.out.of_block (o6.block _ H5.out.lt hLB.out)⟩
          case measure => simp [intOf]; omega
        · by_cases hrN : r < N
          · have hrN' : (r : Int) < (N : Int) := by omega
            have hr3' : ¬ (r : Int) < 30 := by omega
            have A6 : Hid (∃ s2 σ y, Plot w wr L E 2 3 k 20 s2 σ y ∧ Kept 2 3 k s s2 ∧ wr.rowIs B 41 K (fun i => .int .u64 (s.wd i))) := ⟨s2, σ, y, f, kp, hrow⟩
            clear f kp hrow A hr' hr30 hσ
            go_wp2
            clear hrN hrN' hr3'
            go_loopw [10] (fun j wr => ∃ (q : Nat) (s2 : Mm) (σ : Nat) (y : Y), q ≤ K ∧ j = .int .i64 q ∧ Plot w wr L E 2 3 k 20 s2 σ y ∧ Kept 2 3 k s s2 ∧ wr.rowIs B 41 K (fun i => .int .u64 (s.wd i))) (fun j _ => K - (intOf j).toNat)
            case atStart =>
              obtain ⟨s2, σ, y, h⟩ := A6.out
              exact ⟨0, s2, σ, y, Nat.zero_le _, rfl, h⟩
            case round =>
              clear A6
              obtain ⟨q, s2, σ, y, hq, rfl, f, kp, hrow⟩ := hrel
              by_cases hqK : q < K
              · have hqK' : (q : Int) < (K : Int) := by omega
                have HQ : Hid (q < s2.n) := by unfold Hid; rw [kp.1, hK'.out]; exact hqK
                obtain ⟨kd, ki, kx, hkd⟩ := KindIs.some (t := 2) (s := 3) (k := (k : Int)) (n := 20) HG.out.arena (by omega) (q : Int)
                have HKD : Hid (KindIs 2 3 k 20 q kd ki kx) := hkd
                have ck := fun w => rkind_is (m := (k : Int) * 20) 100 600 3 w HG.out.arena (by omega) rfl (by omega) (by omega) (by omega) hkd
                have CK : Hid (∀ w, Calls Try.prog 23 #[.agg #[.int .i64 2, .int .i64 3, .int .i64 k, .int .i64 20, .int .i64 100, .int .i64 600, .int .i64 3], .int .i64 q] w fun e w' => e = .returned (.tuple #[.int .i64 kd, .int .i64 ki, .int .i64 kx]) ∧ Below w.heap.size w w') := ck
                have y0 := f.v.c0
                have y1 := f.v.c1
                have y2 := f.v.c2
                have y3 := f.v.c3
                have y4 := f.v.c4
                have y5 := f.v.c5
                have y6 := f.v.c6
                have HF : Hid (Plot w wr L E 2 3 k 20 s2 σ y ∧ wr.rowIs B 41 K (fun i => .int .u64 (s.wd i))) := ⟨f, hrow⟩
                have HKp : Hid (Kept 2 3 k s s2) := kp
                clear hkd ck kp f hrow
                go_wp2_with (go_at_call 23; refine (CK.out _).mono ?_; rintro e w5 ⟨rfl, b5⟩)
                have f5 := HF.out.1.grown b5
                have r5 := HF.out.2.of_block (b5.block _ HF.out.2.lt)
                refine wp_over (fun W => Plot w W L E 2 3 k 20 s2 σ y ∧ W.rowIs B 41 K (fun i => .int .u64 (s.wd i))) ⟨f5, r5⟩ ?_
                clear f5 r5 b5 HF y0 y1 y2 y3 y4 y5 y6
                rintro W ⟨f, hrow⟩
                have hc := hrow.cell hqK
                have y7 := f.v.c7
                by_cases h2 : kd = 2
                · have g2 : (kd != 2) = false := by simp [h2]
                  clear h2
                  go_quiet (fail)
                  go_wp2
                  go_roundw
                  case rel => exact ⟨q + 1, s2, σ, y, by omega, by go_num, ⟨f.mm.drewN _, f.yd, f.v.grown (below_drewN (Below.refl _ _) _), below_drewN f.b _⟩, HKp.out, hrow⟩
                  case measure => simp [intOf]; omega
                · by_cases h6 : kd = 6
                  · have g2 : (kd != 2) = true := by simp [h2]
                    have g6 : (kd != 6) = false := by simp [h6]
                    clear h2 h6
                    go_quiet (fail)
                    go_wp2
                    go_roundw
                    case rel => exact ⟨q + 1, s2, σ, y, by omega, by go_num, ⟨f.mm.drewN _, f.yd, f.v.grown (below_drewN (Below.refl _ _) _), below_drewN f.b _⟩, HKp.out, hrow⟩
                    case measure => simp [intOf]; omega
                  · have g2 : (kd != 2) = true := by simp [h2]
                    have g6 : (kd != 6) = true := by simp [h6]
                    have HW : Hid (s2.wd q = s.wd q) := kind_kept HG.out HKp.out HKD.out h2 h6
                    clear h2 h6
                    go_quiet ((go_at_call 14; exact Calls.quiet_of_same (peek_is (f.mm.drewN _) q HQ.out (s.wd q) HW.out)))
                    go_wp2
                    go_roundw
                    case rel => exact ⟨q + 1, s2, σ, y, by omega, by go_num, ⟨f.mm.drewN _, f.yd, f.v.grown (below_drewN (Below.refl _ _) _), below_drewN f.b _⟩, HKp.out, hrow⟩
                    case measure => simp [intOf]; omega
              · have hqK' : ¬ (q : Int) < (K : Int) := by omega
                have B9 := f.b
                clear f hrow kp
                go_wp2
                go_ret
                exact ⟨rfl, B9⟩
          · have hrN' : ¬ (r : Int) < (N : Int) := by omega
            have A6 : Hid (∃ s2 σ y, Plot w wr L E 2 3 k 20 s2 σ y ∧ Kept 2 3 k s s2 ∧ wr.rowIs B 41 K (fun i => .int .u64 (s.wd i))) := ⟨s2, σ, y, f, kp, hrow⟩
            clear f kp hrow A hr' hr30 hσ
            go_wp2
            clear hrN hrN'
            go_loopw [10] (fun j wr => ∃ (q : Nat) (s2 : Mm) (σ : Nat) (y : Y), q ≤ K ∧ j = .int .i64 q ∧ Plot w wr L E 2 3 k 20 s2 σ y ∧ Kept 2 3 k s s2 ∧ wr.rowIs B 41 K (fun i => .int .u64 (s.wd i))) (fun j _ => K - (intOf j).toNat)
            case atStart =>
              obtain ⟨s2, σ, y, h⟩ := A6.out
              exact ⟨0, s2, σ, y, Nat.zero_le _, rfl, h⟩
            case round =>
              clear A6
              obtain ⟨q, s2, σ, y, hq, rfl, f, kp, hrow⟩ := hrel
              by_cases hqK : q < K
              · have hqK' : (q : Int) < (K : Int) := by omega
                have HQ : Hid (q < s2.n) := by unfold Hid; rw [kp.1, hK'.out]; exact hqK
                obtain ⟨kd, ki, kx, hkd⟩ := KindIs.some (t := 2) (s := 3) (k := (k : Int)) (n := 20) HG.out.arena (by omega) (q : Int)
                have HKD : Hid (KindIs 2 3 k 20 q kd ki kx) := hkd
                have ck := fun w => rkind_is (m := (k : Int) * 20) 100 600 3 w HG.out.arena (by omega) rfl (by omega) (by omega) (by omega) hkd
                have CK : Hid (∀ w, Calls Try.prog 23 #[.agg #[.int .i64 2, .int .i64 3, .int .i64 k, .int .i64 20, .int .i64 100, .int .i64 600, .int .i64 3], .int .i64 q] w fun e w' => e = .returned (.tuple #[.int .i64 kd, .int .i64 ki, .int .i64 kx]) ∧ Below w.heap.size w w') := ck
                have y0 := f.v.c0
                have y1 := f.v.c1
                have y2 := f.v.c2
                have y3 := f.v.c3
                have y4 := f.v.c4
                have y5 := f.v.c5
                have y6 := f.v.c6
                have HF : Hid (Plot w wr L E 2 3 k 20 s2 σ y ∧ wr.rowIs B 41 K (fun i => .int .u64 (s.wd i))) := ⟨f, hrow⟩
                have HKp : Hid (Kept 2 3 k s s2) := kp
                clear hkd ck kp f hrow
                go_wp2_with (go_at_call 23; refine (CK.out _).mono ?_; rintro e w5 ⟨rfl, b5⟩)
                have f5 := HF.out.1.grown b5
                have r5 := HF.out.2.of_block (b5.block _ HF.out.2.lt)
                refine wp_over (fun W => Plot w W L E 2 3 k 20 s2 σ y ∧ W.rowIs B 41 K (fun i => .int .u64 (s.wd i))) ⟨f5, r5⟩ ?_
                clear f5 r5 b5 HF y0 y1 y2 y3 y4 y5 y6
                rintro W ⟨f, hrow⟩
                have hc := hrow.cell hqK
                have y7 := f.v.c7
                by_cases h2 : kd = 2
                · have g2 : (kd != 2) = false := by simp [h2]
                  clear h2
                  go_quiet (fail)
                  go_wp2
                  go_roundw
                  case rel => exact ⟨q + 1, s2, σ, y, by omega, by go_num, ⟨f.mm.drewN _, f.yd, f.v.grown (below_drewN (Below.refl _ _) _), below_drewN f.b _⟩, HKp.out, hrow⟩
                  case measure => simp [intOf]; omega
                · by_cases h6 : kd = 6
                  · have g2 : (kd != 2) = true := by simp [h2]
                    have g6 : (kd != 6) = false := by simp [h6]
                    clear h2 h6
                    go_quiet (fail)
                    go_wp2
                    go_roundw
                    case rel => exact ⟨q + 1, s2, σ, y, by omega, by go_num, ⟨f.mm.drewN _, f.yd, f.v.grown (below_drewN (Below.refl _ _) _), below_drewN f.b _⟩, HKp.out, hrow⟩
                    case measure => simp [intOf]; omega
                  · have g2 : (kd != 2) = true := by simp [h2]
                    have g6 : (kd != 6) = true := by simp [h6]
                    have HW : Hid (s2.wd q = s.wd q) := kind_kept HG.out HKp.out HKD.out h2 h6
                    clear h2 h6
                    go_quiet ((go_at_call 14; exact Calls.quiet_of_same (peek_is (f.mm.drewN _) q HQ.out (s.wd q) HW.out)))
                    go_wp2
                    go_roundw
                    case rel => exact ⟨q + 1, s2, σ, y, by omega, by go_num, ⟨f.mm.drewN _, f.yd, f.v.grown (below_drewN (Below.refl _ _) _), below_drewN f.b _⟩, HKp.out, hrow⟩
                    case measure => simp [intOf]; omega
              · have hqK' : ¬ (q : Int) < (K : Int) := by omega
                have B9 := f.b
                clear f hrow kp
                go_wp2
                go_ret
                exact ⟨rfl, B9⟩

end Go.Proofs.Ytbhjokfgajjoiaa
