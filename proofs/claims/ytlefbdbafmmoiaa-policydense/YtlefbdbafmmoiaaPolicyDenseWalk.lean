/- PolicyDense answers true for every slice of chunks, and leaves what was in memory. -/
import Derived.Test.YtlefbdbafmmoiaaPolSmall
namespace Go.Proofs.Ytlefbdbafmmoiaa
open Go.RowKit

/-- one more is looked at -/
theorem more_some {A : Nat → Sn} {n : Int} {k : Nat} {σ m : Bool} (h : (σ = true) ↔ ∃ i, i < k ∧ (A i).cut.may n = true) (hm : (A k).cut.may n = m) : ((σ || m) = true) ↔ ∃ i, i < k + 1 ∧ (A i).cut.may n = true := by
  rw [Bool.or_eq_true, h]
  constructor
  · rintro (⟨i, hi, e⟩ | e)
    · exact ⟨i, by omega, e⟩
    · exact ⟨k, by omega, hm.trans e⟩
  · rintro ⟨i, hi, e⟩
    by_cases e' : i = k
    · subst e'; exact Or.inr (hm ▸ e)
    · exact Or.inl ⟨i, by omega, e⟩

/-- a block of one's own stays when another slice is appended to -/
theorem own_kept {wr w2 w3 : World} {b cap : Nat} {l : List Sn} {c : Array Value} {T : TypeId} {o2 : Obj} (h : Sns wr b cap l) (b2 : Below wr.heap.size wr w2) (O : Only (fun k => k = b) ((w2.alloc (.cells c T)).alloc o2) w3) : w3.heap[w2.heap.size]? = some (.cells c T (0, 0)) :=
  (O.block _ (by rw [Go.Deep.nblk_alloc, Go.Deep.nblk_alloc]; omega) (fun e => by have := h.lt; have := b2.size; omega)).trans ((Go.Deep.blk_alloc_lt _ _ _ (by rw [Go.Deep.nblk_alloc]; omega)).trans (Go.Deep.blk_alloc_new _ _))
theorem cfg_kept {wr w2 w3 : World} {b C : Nat} {x o1 o2 : Obj} (h : wr.heap[C]? = some x) (b2 : Below wr.heap.size wr w2) (O : Only (fun k => k = b) ((w2.alloc o1).alloc o2) w3) (hb : C < b) : w3.heap[C]? = some x := by
  have h0 := blk_lt h
  have h1 := b2.size
  refine (O.block _ (by rw [Go.Deep.nblk_alloc, Go.Deep.nblk_alloc]; omega) (fun e => by omega)).trans ((Go.Deep.blk_alloc_lt _ _ _ (by rw [Go.Deep.nblk_alloc]; omega)).trans ((Go.Deep.blk_alloc_lt _ _ _ (by omega)).trans ((b2.block _ h0).trans h)))

set_option maxRecDepth 20000 in
set_option maxHeartbeats 4000000 in
theorem policyDense_false (ao : Option Addr) (N cap : Nat) (A : Nat → Sn) (hA : ∀ i, i < N → SnFit (A i)) (w : World) (hr : SnsAt w ao N A) :
    Calls Try.prog 5 #[.slice ao N cap, .bool false] w fun e w' => e = .returned (.bool true) ∧ Below w.heap.size w w' := by
  have HR : Hid (SnsAt w ao N A) := hr
  have HA : Hid (∀ i, i < N → SnFit (A i)) := hA
  clear hr hA
  go_enter Try.func5, Try.ntmps5
  go_wp2
  have S0 : Hid (Sns ((w.alloc (.cells #[.int .i64 0, .int .i64 0, .int .i64 0, .int .i64 0, .int .i64 0, .int .i64 0, .int .i64 0] 30)).alloc (.cells #[] 25)) (w.heap.size + 1) 0 (sq A 0)) := by
    have := Sns.zero (w.alloc (.cells #[.int .i64 0, .int .i64 0, .int .i64 0, .int .i64 0, .int .i64 0, .int .i64 0, .int .i64 0] 30))
    rw [Go.Deep.nblk_alloc] at this
    exact this
  have C0 : Hid (((w.alloc (.cells #[.int .i64 0, .int .i64 0, .int .i64 0, .int .i64 0, .int .i64 0, .int .i64 0, .int .i64 0] 30)).alloc (.cells #[] 25)).heap[w.heap.size]? = some (.cells #[.int .i64 0, .int .i64 0, .int .i64 0, .int .i64 0, .int .i64 0, .int .i64 0, .int .i64 0] 30 (0, 0))) := (Go.Deep.blk_alloc_lt _ _ _ (by rw [Go.Deep.nblk_alloc]; omega)).trans (Go.Deep.blk_alloc_new _ _)
  go_loopw [6, 7, 8] (fun s6 s7 s8 wr => ∃ (k b cap2 : Nat) (σ : Bool), k ≤ N ∧ k ≤ 64 ∧ s8 = .int .i64 k ∧ s6 = .slice (some ⟨b, 0, none⟩) k cap2 ∧ s7 = .bool σ ∧ Hid (Sns wr b cap2 (sq A k)) ∧ Hid (w.heap.size + 1 ≤ b) ∧ Hid ((σ = true) ↔ ∃ i, i < k ∧ (A i).cut.may 0 = true) ∧ Hid (wr.heap[w.heap.size]? = some (.cells #[.int .i64 0, .int .i64 0, .int .i64 0, .int .i64 0, .int .i64 0, .int .i64 0, .int .i64 0] 30 (0, 0))) ∧ Hid (Below w.heap.size w wr)) (fun _ _ s8 _ => 64 - (intOf s8).toNat)
  case atStart => exact ⟨0, w.heap.size + 1, 0, false, Nat.zero_le _, by omega, rfl, rfl, rfl, S0, Nat.le_refl _, ⟨(fun h => by cases h), fun ⟨i, hi, _⟩ => by omega⟩, C0, grow_alloc (grow_alloc (Below.refl _ _) _) _⟩
  case round =>
    clear S0 C0
    obtain ⟨k, b, cap2, σ, hkN, hk6, rfl, rfl, rfl, HS, Hb, HX, HC, HB⟩ := hrel
    by_cases h1 : k < N
    · by_cases h2 : k < 64
      · have h1' : (k : Int) < (N : Int) := by omega
        have h2' : (k : Int) < 64 := by omega
        obtain ⟨xb, xo, rfl, t0, t1, t2, t3, t4, t5⟩ := HR.out k h1
        have x0 := keep' HB.out t0
        have x1 := keep' HB.out t1
        have x2 := keep' HB.out t2
        have x3 := keep' HB.out t3
        have x4 := keep' HB.out t4
        have x5 := keep' HB.out t5
        clear t0 t1 t2 t3 t4 t5
        have hSm := Sn.cut_small (HA.out k h1)
        obtain ⟨c, hc⟩ : ∃ c, (A k).cut = c := ⟨_, rfl⟩
        rw [hc] at hSm
        have SE := fun w => seen_is hc w
        have HCk : Hid ((A k).cut = c) := hc
        have hov : wrap64 ((k : Int) + 1) = ((k + 1 : Nat) : Int) := by unfold wrap64; omega
        have HO : Hid (wrap64 ((k : Int) + 1) = ((k + 1 : Nat) : Int)) := hov
        have HF : Hid (∀ m : Bool, c.may 0 = m → (((σ || m) = true) ↔ ∃ i, i < k + 1 ∧ (A i).cut.may 0 = true)) := fun m hm => more_some HX.out (hc ▸ hm)
        obtain ⟨st, cl, us, sm, lv, op⟩ := c
        obtain ⟨-, g0, g1, g2, g3⟩ := hSm
        simp only at SE g0 g1 g2 g3
        clear hov hc HX
        by_cases s1 : st = 1
        · have s1' : (st == 1) = true := by simpa using s1
          cases op
          · by_cases u1 : 0 < us
            · have u1' : decide (0 < us) = true := decide_eq_true u1
              by_cases l1 : lv ≤ 0
              · have l1' : decide (lv ≤ 0) = true := decide_eq_true l1
                cases σ
                · have HX : Hid (((true : Bool) = true) ↔ ∃ i, i < k + 1 ∧ (A i).cut.may 0 = true) := HF.out true (by first | (simp [Sn.may, *]; done) | (simp [Sn.may]; omega) | (simp only [Sn.may]; rw [decide_eq_true_iff]; omega) | (simp only [Sn.may]; rw [decide_eq_false_iff_not]; omega))
                  clear HF s1
                  go_wp2_with (first
                    | (go_at_call 8; refine (SE _).mono ?_; rintro e w2 ⟨rfl, b2⟩; obtain ⟨b3, cap3, w3, hrun, S3, O3, hb3⟩ := Sns.more (((HS.out.grown b2).alloc (.cells #[.int .i64 st, .int .i64 cl, .int .i64 us, .int .i64 sm, .int .i64 lv, .bool false] 25)).alloc (.cells #[.int .i64 st, .int .i64 cl, .int .i64 us, .int .i64 sm, .int .i64 lv, .bool false] 25)) (sq_len A k) (Sns.one _ ⟨st, cl, us, sm, lv, false⟩) (by omega) 32; rw [Go.Deep.nblk_alloc] at hrun)
                    | (at_builtin; refine wpList_ran rfl (.tmp 30) (.tmp 32) rfl rfl rfl hrun ?_; have hG := own_kept HS.out b2 O3; have z0 := blk_cell (o := 0) hG rfl; have z1 := blk_cell (o := 1) hG rfl; have z2 := blk_cell (o := 2) hG rfl; have z3 := blk_cell (o := 3) hG rfl; have z4 := blk_cell (o := 4) hG rfl; have z5 := blk_cell (o := 5) hG rfl))
                  have HB3 : Hid (Below w.heap.size w w3) := below_own (grow_alloc (grow_alloc (grow HB.out b2) _) _) O3 (by have := Hb.out; omega)
                  have Hb3 : Hid (w.heap.size + 1 ≤ b3) := by
                    have e1 := (grow HB.out b2).size
                    have e2 := Hb.out
                    have e4 := HS.out.lt
                    have e5 := b2.size
                    unfold Hid
                    rw [Go.Deep.nblk_alloc, Go.Deep.nblk_alloc] at hb3
                    omega
                  have HC3 : Hid (w3.heap[w.heap.size]? = some (.cells #[.int .i64 0, .int .i64 0, .int .i64 0, .int .i64 0, .int .i64 0, .int .i64 0, .int .i64 0] 30 (0, 0))) := cfg_kept HC.out b2 O3 (by have := Hb.out; omega)
                  have HS3 : Hid (Sns w3 b3 cap3 (sq A (k + 1))) := by
                    rw [sq_succ, HCk.out]; exact S3
                  go_roundw
                  case rel => exact ⟨k + 1, b3, cap3, true, by omega, by omega, by first | rfl | (exact congrArg (Value.int .i64) HO.out) | go_num, rfl, rfl, HS3, Hb3, (by have := HX.out; unfold Hid; simpa using this), HC3, HB3⟩
                  case measure => simp [intOf]; omega
                · have HX : Hid (((true : Bool) = true) ↔ ∃ i, i < k + 1 ∧ (A i).cut.may 0 = true) := HF.out true (by first | (simp [Sn.may, *]; done) | (simp [Sn.may]; omega) | (simp only [Sn.may]; rw [decide_eq_true_iff]; omega) | (simp only [Sn.may]; rw [decide_eq_false_iff_not]; omega))
                  clear HF s1
                  go_wp2_with (first
                    | (go_at_call 8; refine (SE _).mono ?_; rintro e w2 ⟨rfl, b2⟩; obtain ⟨b3, cap3, w3, hrun, S3, O3, hb3⟩ := Sns.more (((HS.out.grown b2).alloc (.cells #[.int .i64 st, .int .i64 cl, .int .i64 us, .int .i64 sm, .int .i64 lv, .bool false] 25)).alloc (.cells #[.int .i64 st, .int .i64 cl, .int .i64 us, .int .i64 sm, .int .i64 lv, .bool false] 25)) (sq_len A k) (Sns.one _ ⟨st, cl, us, sm, lv, false⟩) (by omega) 32; rw [Go.Deep.nblk_alloc] at hrun)
                    | (at_builtin; refine wpList_ran rfl (.tmp 30) (.tmp 32) rfl rfl rfl hrun ?_; have hG := own_kept HS.out b2 O3; have z0 := blk_cell (o := 0) hG rfl; have z1 := blk_cell (o := 1) hG rfl; have z2 := blk_cell (o := 2) hG rfl; have z3 := blk_cell (o := 3) hG rfl; have z4 := blk_cell (o := 4) hG rfl; have z5 := blk_cell (o := 5) hG rfl))
                  have HB3 : Hid (Below w.heap.size w w3) := below_own (grow_alloc (grow_alloc (grow HB.out b2) _) _) O3 (by have := Hb.out; omega)
                  have Hb3 : Hid (w.heap.size + 1 ≤ b3) := by
                    have e1 := (grow HB.out b2).size
                    have e2 := Hb.out
                    have e4 := HS.out.lt
                    have e5 := b2.size
                    unfold Hid
                    rw [Go.Deep.nblk_alloc, Go.Deep.nblk_alloc] at hb3
                    omega
                  have HC3 : Hid (w3.heap[w.heap.size]? = some (.cells #[.int .i64 0, .int .i64 0, .int .i64 0, .int .i64 0, .int .i64 0, .int .i64 0, .int .i64 0] 30 (0, 0))) := cfg_kept HC.out b2 O3 (by have := Hb.out; omega)
                  have HS3 : Hid (Sns w3 b3 cap3 (sq A (k + 1))) := by
                    rw [sq_succ, HCk.out]; exact S3
                  go_roundw
                  case rel => exact ⟨k + 1, b3, cap3, true, by omega, by omega, by first | rfl | (exact congrArg (Value.int .i64) HO.out) | go_num, rfl, rfl, HS3, Hb3, (by have := HX.out; unfold Hid; simpa using this), HC3, HB3⟩
                  case measure => simp [intOf]; omega
              · have l1' : decide (lv ≤ 0) = false := decide_eq_false l1
                cases σ
                · have HX : Hid (((false : Bool) = true) ↔ ∃ i, i < k + 1 ∧ (A i).cut.may 0 = true) := HF.out false (by first | (simp [Sn.may, *]; done) | (simp [Sn.may]; omega) | (simp only [Sn.may]; rw [decide_eq_true_iff]; omega) | (simp only [Sn.may]; rw [decide_eq_false_iff_not]; omega))
                  clear HF s1
                  go_wp2_with (first
                    | (go_at_call 8; refine (SE _).mono ?_; rintro e w2 ⟨rfl, b2⟩; obtain ⟨b3, cap3, w3, hrun, S3, O3, hb3⟩ := Sns.more (((HS.out.grown b2).alloc (.cells #[.int .i64 st, .int .i64 cl, .int .i64 us, .int .i64 sm, .int .i64 lv, .bool false] 25)).alloc (.cells #[.int .i64 st, .int .i64 cl, .int .i64 us, .int .i64 sm, .int .i64 lv, .bool false] 25)) (sq_len A k) (Sns.one _ ⟨st, cl, us, sm, lv, false⟩) (by omega) 32; rw [Go.Deep.nblk_alloc] at hrun)
                    | (at_builtin; refine wpList_ran rfl (.tmp 30) (.tmp 32) rfl rfl rfl hrun ?_; have hG := own_kept HS.out b2 O3; have z0 := blk_cell (o := 0) hG rfl; have z1 := blk_cell (o := 1) hG rfl; have z2 := blk_cell (o := 2) hG rfl; have z3 := blk_cell (o := 3) hG rfl; have z4 := blk_cell (o := 4) hG rfl; have z5 := blk_cell (o := 5) hG rfl))
                  have HB3 : Hid (Below w.heap.size w w3) := below_own (grow_alloc (grow_alloc (grow HB.out b2) _) _) O3 (by have := Hb.out; omega)
                  have Hb3 : Hid (w.heap.size + 1 ≤ b3) := by
                    have e1 := (grow HB.out b2).size
                    have e2 := Hb.out
                    have e4 := HS.out.lt
                    have e5 := b2.size
                    unfold Hid
                    rw [Go.Deep.nblk_alloc, Go.Deep.nblk_alloc] at hb3
                    omega
                  have HC3 : Hid (w3.heap[w.heap.size]? = some (.cells #[.int .i64 0, .int .i64 0, .int .i64 0, .int .i64 0, .int .i64 0, .int .i64 0, .int .i64 0] 30 (0, 0))) := cfg_kept HC.out b2 O3 (by have := Hb.out; omega)
                  have HS3 : Hid (Sns w3 b3 cap3 (sq A (k + 1))) := by
                    rw [sq_succ, HCk.out]; exact S3
                  go_roundw
                  case rel => exact ⟨k + 1, b3, cap3, false, by omega, by omega, by first | rfl | (exact congrArg (Value.int .i64) HO.out) | go_num, rfl, rfl, HS3, Hb3, (by have := HX.out; unfold Hid; simpa using this), HC3, HB3⟩
                  case measure => simp [intOf]; omega
                · have HX : Hid (((true : Bool) = true) ↔ ∃ i, i < k + 1 ∧ (A i).cut.may 0 = true) := HF.out false (by first | (simp [Sn.may, *]; done) | (simp [Sn.may]; omega) | (simp only [Sn.may]; rw [decide_eq_true_iff]; omega) | (simp only [Sn.may]; rw [decide_eq_false_iff_not]; omega))
                  clear HF s1
                  go_wp2_with (first
                    | (go_at_call 8; refine (SE _).mono ?_; rintro e w2 ⟨rfl, b2⟩; obtain ⟨b3, cap3, w3, hrun, S3, O3, hb3⟩ := Sns.more (((HS.out.grown b2).alloc (.cells #[.int .i64 st, .int .i64 cl, .int .i64 us, .int .i64 sm, .int .i64 lv, .bool false] 25)).alloc (.cells #[.int .i64 st, .int .i64 cl, .int .i64 us, .int .i64 sm, .int .i64 lv, .bool false] 25)) (sq_len A k) (Sns.one _ ⟨st, cl, us, sm, lv, false⟩) (by omega) 32; rw [Go.Deep.nblk_alloc] at hrun)
                    | (at_builtin; refine wpList_ran rfl (.tmp 30) (.tmp 32) rfl rfl rfl hrun ?_; have hG := own_kept HS.out b2 O3; have z0 := blk_cell (o := 0) hG rfl; have z1 := blk_cell (o := 1) hG rfl; have z2 := blk_cell (o := 2) hG rfl; have z3 := blk_cell (o := 3) hG rfl; have z4 := blk_cell (o := 4) hG rfl; have z5 := blk_cell (o := 5) hG rfl))
                  have HB3 : Hid (Below w.heap.size w w3) := below_own (grow_alloc (grow_alloc (grow HB.out b2) _) _) O3 (by have := Hb.out; omega)
                  have Hb3 : Hid (w.heap.size + 1 ≤ b3) := by
                    have e1 := (grow HB.out b2).size
                    have e2 := Hb.out
                    have e4 := HS.out.lt
                    have e5 := b2.size
                    unfold Hid
                    rw [Go.Deep.nblk_alloc, Go.Deep.nblk_alloc] at hb3
                    omega
                  have HC3 : Hid (w3.heap[w.heap.size]? = some (.cells #[.int .i64 0, .int .i64 0, .int .i64 0, .int .i64 0, .int .i64 0, .int .i64 0, .int .i64 0] 30 (0, 0))) := cfg_kept HC.out b2 O3 (by have := Hb.out; omega)
                  have HS3 : Hid (Sns w3 b3 cap3 (sq A (k + 1))) := by
                    rw [sq_succ, HCk.out]; exact S3
                  go_roundw
                  case rel => exact ⟨k + 1, b3, cap3, true, by omega, by omega, by first | rfl | (exact congrArg (Value.int .i64) HO.out) | go_num, rfl, rfl, HS3, Hb3, (by have := HX.out; unfold Hid; simpa using this), HC3, HB3⟩
                  case measure => simp [intOf]; omega
            · have u1' : decide (0 < us) = false := decide_eq_false u1
              cases σ
              · have HX : Hid (((false : Bool) = true) ↔ ∃ i, i < k + 1 ∧ (A i).cut.may 0 = true) := HF.out false (by first | (simp [Sn.may, *]; done) | (simp [Sn.may]; omega) | (simp only [Sn.may]; rw [decide_eq_true_iff]; omega) | (simp only [Sn.may]; rw [decide_eq_false_iff_not]; omega))
                clear HF s1
                go_wp2_with (first
                  | (go_at_call 8; refine (SE _).mono ?_; rintro e w2 ⟨rfl, b2⟩; obtain ⟨b3, cap3, w3, hrun, S3, O3, hb3⟩ := Sns.more (((HS.out.grown b2).alloc (.cells #[.int .i64 st, .int .i64 cl, .int .i64 us, .int .i64 sm, .int .i64 lv, .bool false] 25)).alloc (.cells #[.int .i64 st, .int .i64 cl, .int .i64 us, .int .i64 sm, .int .i64 lv, .bool false] 25)) (sq_len A k) (Sns.one _ ⟨st, cl, us, sm, lv, false⟩) (by omega) 32; rw [Go.Deep.nblk_alloc] at hrun)
                  | (at_builtin; refine wpList_ran rfl (.tmp 30) (.tmp 32) rfl rfl rfl hrun ?_; have hG := own_kept HS.out b2 O3; have z0 := blk_cell (o := 0) hG rfl; have z1 := blk_cell (o := 1) hG rfl; have z2 := blk_cell (o := 2) hG rfl; have z3 := blk_cell (o := 3) hG rfl; have z4 := blk_cell (o := 4) hG rfl; have z5 := blk_cell (o := 5) hG rfl))
                have HB3 : Hid (Below w.heap.size w w3) := below_own (grow_alloc (grow_alloc (grow HB.out b2) _) _) O3 (by have := Hb.out; omega)
                have Hb3 : Hid (w.heap.size + 1 ≤ b3) := by
                  have e1 := (grow HB.out b2).size
                  have e2 := Hb.out
                  have e4 := HS.out.lt
                  have e5 := b2.size
                  unfold Hid
                  rw [Go.Deep.nblk_alloc, Go.Deep.nblk_alloc] at hb3
                  omega
                have HC3 : Hid (w3.heap[w.heap.size]? = some (.cells #[.int .i64 0, .int .i64 0, .int .i64 0, .int .i64 0, .int .i64 0, .int .i64 0, .int .i64 0] 30 (0, 0))) := cfg_kept HC.out b2 O3 (by have := Hb.out; omega)
                have HS3 : Hid (Sns w3 b3 cap3 (sq A (k + 1))) := by
                  rw [sq_succ, HCk.out]; exact S3
                go_roundw
                case rel => exact ⟨k + 1, b3, cap3, false, by omega, by omega, by first | rfl | (exact congrArg (Value.int .i64) HO.out) | go_num, rfl, rfl, HS3, Hb3, (by have := HX.out; unfold Hid; simpa using this), HC3, HB3⟩
                case measure => simp [intOf]; omega
              · have HX : Hid (((true : Bool) = true) ↔ ∃ i, i < k + 1 ∧ (A i).cut.may 0 = true) := HF.out false (by first | (simp [Sn.may, *]; done) | (simp [Sn.may]; omega) | (simp only [Sn.may]; rw [decide_eq_true_iff]; omega) | (simp only [Sn.may]; rw [decide_eq_false_iff_not]; omega))
                clear HF s1
                go_wp2_with (first
                  | (go_at_call 8; refine (SE _).mono ?_; rintro e w2 ⟨rfl, b2⟩; obtain ⟨b3, cap3, w3, hrun, S3, O3, hb3⟩ := Sns.more (((HS.out.grown b2).alloc (.cells #[.int .i64 st, .int .i64 cl, .int .i64 us, .int .i64 sm, .int .i64 lv, .bool false] 25)).alloc (.cells #[.int .i64 st, .int .i64 cl, .int .i64 us, .int .i64 sm, .int .i64 lv, .bool false] 25)) (sq_len A k) (Sns.one _ ⟨st, cl, us, sm, lv, false⟩) (by omega) 32; rw [Go.Deep.nblk_alloc] at hrun)
                  | (at_builtin; refine wpList_ran rfl (.tmp 30) (.tmp 32) rfl rfl rfl hrun ?_; have hG := own_kept HS.out b2 O3; have z0 := blk_cell (o := 0) hG rfl; have z1 := blk_cell (o := 1) hG rfl; have z2 := blk_cell (o := 2) hG rfl; have z3 := blk_cell (o := 3) hG rfl; have z4 := blk_cell (o := 4) hG rfl; have z5 := blk_cell (o := 5) hG rfl))
                have HB3 : Hid (Below w.heap.size w w3) := below_own (grow_alloc (grow_alloc (grow HB.out b2) _) _) O3 (by have := Hb.out; omega)
                have Hb3 : Hid (w.heap.size + 1 ≤ b3) := by
                  have e1 := (grow HB.out b2).size
                  have e2 := Hb.out
                  have e4 := HS.out.lt
                  have e5 := b2.size
                  unfold Hid
                  rw [Go.Deep.nblk_alloc, Go.Deep.nblk_alloc] at hb3
                  omega
                have HC3 : Hid (w3.heap[w.heap.size]? = some (.cells #[.int .i64 0, .int .i64 0, .int .i64 0, .int .i64 0, .int .i64 0, .int .i64 0, .int .i64 0] 30 (0, 0))) := cfg_kept HC.out b2 O3 (by have := Hb.out; omega)
                have HS3 : Hid (Sns w3 b3 cap3 (sq A (k + 1))) := by
                  rw [sq_succ, HCk.out]; exact S3
                go_roundw
                case rel => exact ⟨k + 1, b3, cap3, true, by omega, by omega, by first | rfl | (exact congrArg (Value.int .i64) HO.out) | go_num, rfl, rfl, HS3, Hb3, (by have := HX.out; unfold Hid; simpa using this), HC3, HB3⟩
                case measure => simp [intOf]; omega
          · cases σ
            · have HX : Hid (((false : Bool) = true) ↔ ∃ i, i < k + 1 ∧ (A i).cut.may 0 = true) := HF.out false (by first | (simp [Sn.may, *]; done) | (simp [Sn.may]; omega) | (simp only [Sn.may]; rw [decide_eq_true_iff]; omega) | (simp only [Sn.may]; rw [decide_eq_false_iff_not]; omega))
              clear HF s1
              go_wp2_with (first
                | (go_at_call 8; refine (SE _).mono ?_; rintro e w2 ⟨rfl, b2⟩; obtain ⟨b3, cap3, w3, hrun, S3, O3, hb3⟩ := Sns.more (((HS.out.grown b2).alloc (.cells #[.int .i64 st, .int .i64 cl, .int .i64 us, .int .i64 sm, .int .i64 lv, .bool true] 25)).alloc (.cells #[.int .i64 st, .int .i64 cl, .int .i64 us, .int .i64 sm, .int .i64 lv, .bool true] 25)) (sq_len A k) (Sns.one _ ⟨st, cl, us, sm, lv, true⟩) (by omega) 32; rw [Go.Deep.nblk_alloc] at hrun)
                | (at_builtin; refine wpList_ran rfl (.tmp 30) (.tmp 32) rfl rfl rfl hrun ?_; have hG := own_kept HS.out b2 O3; have z0 := blk_cell (o := 0) hG rfl; have z1 := blk_cell (o := 1) hG rfl; have z2 := blk_cell (o := 2) hG rfl; have z3 := blk_cell (o := 3) hG rfl; have z4 := blk_cell (o := 4) hG rfl; have z5 := blk_cell (o := 5) hG rfl))
              have HB3 : Hid (Below w.heap.size w w3) := below_own (grow_alloc (grow_alloc (grow HB.out b2) _) _) O3 (by have := Hb.out; omega)
              have Hb3 : Hid (w.heap.size + 1 ≤ b3) := by
                have e1 := (grow HB.out b2).size
                have e2 := Hb.out
                have e4 := HS.out.lt
                have e5 := b2.size
                unfold Hid
                rw [Go.Deep.nblk_alloc, Go.Deep.nblk_alloc] at hb3
                omega
              have HC3 : Hid (w3.heap[w.heap.size]? = some (.cells #[.int .i64 0, .int .i64 0, .int .i64 0, .int .i64 0, .int .i64 0, .int .i64 0, .int .i64 0] 30 (0, 0))) := cfg_kept HC.out b2 O3 (by have := Hb.out; omega)
              have HS3 : Hid (Sns w3 b3 cap3 (sq A (k + 1))) := by
                rw [sq_succ, HCk.out]; exact S3
              go_roundw
              case rel => exact ⟨k + 1, b3, cap3, false, by omega, by omega, by first | rfl | (exact congrArg (Value.int .i64) HO.out) | go_num, rfl, rfl, HS3, Hb3, (by have := HX.out; unfold Hid; simpa using this), HC3, HB3⟩
              case measure => simp [intOf]; omega
            · have HX : Hid (((true : Bool) = true) ↔ ∃ i, i < k + 1 ∧ (A i).cut.may 0 = true) := HF.out false (by first | (simp [Sn.may, *]; done) | (simp [Sn.may]; omega) | (simp only [Sn.may]; rw [decide_eq_true_iff]; omega) | (simp only [Sn.may]; rw [decide_eq_false_iff_not]; omega))
              clear HF s1
              go_wp2_with (first
                | (go_at_call 8; refine (SE _).mono ?_; rintro e w2 ⟨rfl, b2⟩; obtain ⟨b3, cap3, w3, hrun, S3, O3, hb3⟩ := Sns.more (((HS.out.grown b2).alloc (.cells #[.int .i64 st, .int .i64 cl, .int .i64 us, .int .i64 sm, .int .i64 lv, .bool true] 25)).alloc (.cells #[.int .i64 st, .int .i64 cl, .int .i64 us, .int .i64 sm, .int .i64 lv, .bool true] 25)) (sq_len A k) (Sns.one _ ⟨st, cl, us, sm, lv, true⟩) (by omega) 32; rw [Go.Deep.nblk_alloc] at hrun)
                | (at_builtin; refine wpList_ran rfl (.tmp 30) (.tmp 32) rfl rfl rfl hrun ?_; have hG := own_kept HS.out b2 O3; have z0 := blk_cell (o := 0) hG rfl; have z1 := blk_cell (o := 1) hG rfl; have z2 := blk_cell (o := 2) hG rfl; have z3 := blk_cell (o := 3) hG rfl; have z4 := blk_cell (o := 4) hG rfl; have z5 := blk_cell (o := 5) hG rfl))
              have HB3 : Hid (Below w.heap.size w w3) := below_own (grow_alloc (grow_alloc (grow HB.out b2) _) _) O3 (by have := Hb.out; omega)
              have Hb3 : Hid (w.heap.size + 1 ≤ b3) := by
                have e1 := (grow HB.out b2).size
                have e2 := Hb.out
                have e4 := HS.out.lt
                have e5 := b2.size
                unfold Hid
                rw [Go.Deep.nblk_alloc, Go.Deep.nblk_alloc] at hb3
                omega
              have HC3 : Hid (w3.heap[w.heap.size]? = some (.cells #[.int .i64 0, .int .i64 0, .int .i64 0, .int .i64 0, .int .i64 0, .int .i64 0, .int .i64 0] 30 (0, 0))) := cfg_kept HC.out b2 O3 (by have := Hb.out; omega)
              have HS3 : Hid (Sns w3 b3 cap3 (sq A (k + 1))) := by
                rw [sq_succ, HCk.out]; exact S3
              go_roundw
              case rel => exact ⟨k + 1, b3, cap3, true, by omega, by omega, by first | rfl | (exact congrArg (Value.int .i64) HO.out) | go_num, rfl, rfl, HS3, Hb3, (by have := HX.out; unfold Hid; simpa using this), HC3, HB3⟩
              case measure => simp [intOf]; omega
        · have s1' : (st == 1) = false := by simpa using s1
          cases σ
          · have HX : Hid (((false : Bool) = true) ↔ ∃ i, i < k + 1 ∧ (A i).cut.may 0 = true) := HF.out false (by first | (simp [Sn.may, *]; done) | (simp [Sn.may]; omega) | (simp only [Sn.may]; rw [decide_eq_true_iff]; omega) | (simp only [Sn.may]; rw [decide_eq_false_iff_not]; omega))
            clear HF
            go_wp2_with (first
              | (go_at_call 8; refine (SE _).mono ?_; rintro e w2 ⟨rfl, b2⟩; obtain ⟨b3, cap3, w3, hrun, S3, O3, hb3⟩ := Sns.more (((HS.out.grown b2).alloc (.cells #[.int .i64 st, .int .i64 cl, .int .i64 us, .int .i64 sm, .int .i64 lv, .bool op] 25)).alloc (.cells #[.int .i64 st, .int .i64 cl, .int .i64 us, .int .i64 sm, .int .i64 lv, .bool op] 25)) (sq_len A k) (Sns.one _ ⟨st, cl, us, sm, lv, op⟩) (by omega) 32; rw [Go.Deep.nblk_alloc] at hrun)
              | (at_builtin; refine wpList_ran rfl (.tmp 30) (.tmp 32) rfl rfl rfl hrun ?_; have hG := own_kept HS.out b2 O3; have z0 := blk_cell (o := 0) hG rfl; have z1 := blk_cell (o := 1) hG rfl; have z2 := blk_cell (o := 2) hG rfl; have z3 := blk_cell (o := 3) hG rfl; have z4 := blk_cell (o := 4) hG rfl; have z5 := blk_cell (o := 5) hG rfl))
            have HB3 : Hid (Below w.heap.size w w3) := below_own (grow_alloc (grow_alloc (grow HB.out b2) _) _) O3 (by have := Hb.out; omega)
            have Hb3 : Hid (w.heap.size + 1 ≤ b3) := by
              have e1 := (grow HB.out b2).size
              have e2 := Hb.out
              have e4 := HS.out.lt
              have e5 := b2.size
              unfold Hid
              rw [Go.Deep.nblk_alloc, Go.Deep.nblk_alloc] at hb3
              omega
            have HC3 : Hid (w3.heap[w.heap.size]? = some (.cells #[.int .i64 0, .int .i64 0, .int .i64 0, .int .i64 0, .int .i64 0, .int .i64 0, .int .i64 0] 30 (0, 0))) := cfg_kept HC.out b2 O3 (by have := Hb.out; omega)
            have HS3 : Hid (Sns w3 b3 cap3 (sq A (k + 1))) := by
              rw [sq_succ, HCk.out]; exact S3
            go_roundw
            case rel => exact ⟨k + 1, b3, cap3, false, by omega, by omega, by first | rfl | (exact congrArg (Value.int .i64) HO.out) | go_num, rfl, rfl, HS3, Hb3, (by have := HX.out; unfold Hid; simpa using this), HC3, HB3⟩
            case measure => simp [intOf]; omega
          · have HX : Hid (((true : Bool) = true) ↔ ∃ i, i < k + 1 ∧ (A i).cut.may 0 = true) := HF.out false (by first | (simp [Sn.may, *]; done) | (simp [Sn.may]; omega) | (simp only [Sn.may]; rw [decide_eq_true_iff]; omega) | (simp only [Sn.may]; rw [decide_eq_false_iff_not]; omega))
            clear HF
            go_wp2_with (first
              | (go_at_call 8; refine (SE _).mono ?_; rintro e w2 ⟨rfl, b2⟩; obtain ⟨b3, cap3, w3, hrun, S3, O3, hb3⟩ := Sns.more (((HS.out.grown b2).alloc (.cells #[.int .i64 st, .int .i64 cl, .int .i64 us, .int .i64 sm, .int .i64 lv, .bool op] 25)).alloc (.cells #[.int .i64 st, .int .i64 cl, .int .i64 us, .int .i64 sm, .int .i64 lv, .bool op] 25)) (sq_len A k) (Sns.one _ ⟨st, cl, us, sm, lv, op⟩) (by omega) 32; rw [Go.Deep.nblk_alloc] at hrun)
              | (at_builtin; refine wpList_ran rfl (.tmp 30) (.tmp 32) rfl rfl rfl hrun ?_; have hG := own_kept HS.out b2 O3; have z0 := blk_cell (o := 0) hG rfl; have z1 := blk_cell (o := 1) hG rfl; have z2 := blk_cell (o := 2) hG rfl; have z3 := blk_cell (o := 3) hG rfl; have z4 := blk_cell (o := 4) hG rfl; have z5 := blk_cell (o := 5) hG rfl))
            have HB3 : Hid (Below w.heap.size w w3) := below_own (grow_alloc (grow_alloc (grow HB.out b2) _) _) O3 (by have := Hb.out; omega)
            have Hb3 : Hid (w.heap.size + 1 ≤ b3) := by
              have e1 := (grow HB.out b2).size
              have e2 := Hb.out
              have e4 := HS.out.lt
              have e5 := b2.size
              unfold Hid
              rw [Go.Deep.nblk_alloc, Go.Deep.nblk_alloc] at hb3
              omega
            have HC3 : Hid (w3.heap[w.heap.size]? = some (.cells #[.int .i64 0, .int .i64 0, .int .i64 0, .int .i64 0, .int .i64 0, .int .i64 0, .int .i64 0] 30 (0, 0))) := cfg_kept HC.out b2 O3 (by have := Hb.out; omega)
            have HS3 : Hid (Sns w3 b3 cap3 (sq A (k + 1))) := by
              rw [sq_succ, HCk.out]; exact S3
            go_roundw
            case rel => exact ⟨k + 1, b3, cap3, true, by omega, by omega, by first | rfl | (exact congrArg (Value.int .i64) HO.out) | go_num, rfl, rfl, HS3, Hb3, (by have := HX.out; unfold Hid; simpa using this), HC3, HB3⟩
            case measure => simp [intOf]; omega
      · have h1' : (k : Int) < (N : Int) := by omega
        have h2' : ¬ (k : Int) < 64 := by omega
        obtain ⟨r, hr⟩ := Pick.some k (fun i => (A i).cut.may 0) (fun i => (A i).cut.lv)
        have HPs : Hid (∀ W, SnsAt W (some ⟨b, 0, none⟩) k (fun i => (A i).cut) → Calls Try.prog 12 #[.agg #[.int .i64 0, .int .i64 0, .int .i64 0, .int .i64 0, .int .i64 0, .int .i64 0, .int .i64 0], .slice (some ⟨b, 0, none⟩) k cap2] W fun e w' => e = .returned (.int .i64 r) ∧ Below W.heap.size W w') := fun W h => choose_any 0 0 0 0 0 0 0 (by unfold Fit; omega) (some ⟨b, 0, none⟩) k cap2 (by omega) (fun i => (A i).cut) (fun i hi => (Sn.cut_small (HA.out i (by omega))).1) hr W h
        obtain ⟨er, hE⟩ : ∃ e, decide (0 ≤ r) = e := ⟨_, rfl⟩
        have hrs : (er == σ) = true := by
          subst hE
          rcases hr with ⟨rfl, h⟩ | ⟨i, hi, rfl, h, -⟩
          · have : σ = false := by
              cases σ
              · rfl
              · obtain ⟨i, hi, e⟩ := HX.out.1 rfl
                have h' : (A i).cut.may 0 = false := h i hi
                rw [h'] at e; cases e
            rw [this]; rfl
          · have : σ = true := HX.out.2 ⟨i, hi, h⟩
            rw [this]; simp
        have hse : er = σ := by simpa using hrs
        have HSE : Hid (er = σ) := hse
        clear hrs hse hr
        go_wp2_with (first
          | (go_at_call 9; refine (awake12_any _).mono ?_; rintro e w5 ⟨rfl, b5⟩; have S5 := ((HS.out.grown b5).sns (sq_is A k)); rw [sq_len] at S5; have y0 := keep' b5 (blk_cell (o := 0) HC.out rfl); have y1 := keep' b5 (blk_cell (o := 1) HC.out rfl); have y2 := keep' b5 (blk_cell (o := 2) HC.out rfl); have y3 := keep' b5 (blk_cell (o := 3) HC.out rfl); have y4 := keep' b5 (blk_cell (o := 4) HC.out rfl); have y5 := keep' b5 (blk_cell (o := 5) HC.out rfl); have y6 := keep' b5 (blk_cell (o := 6) HC.out rfl))
          | (go_at_call 12; refine (HPs.out _ S5).mono ?_; rintro e w6 ⟨rfl, b6⟩))
        go_ret
        refine ⟨?_, grow (grow HB.out b5) b6⟩
        rw [HSE.out]
        cases σ <;> rfl
    · have h1' : ¬ (k : Int) < (N : Int) := by omega
      obtain ⟨r, hr⟩ := Pick.some k (fun i => (A i).cut.may 0) (fun i => (A i).cut.lv)
      have HPs : Hid (∀ W, SnsAt W (some ⟨b, 0, none⟩) k (fun i => (A i).cut) → Calls Try.prog 12 #[.agg #[.int .i64 0, .int .i64 0, .int .i64 0, .int .i64 0, .int .i64 0, .int .i64 0, .int .i64 0], .slice (some ⟨b, 0, none⟩) k cap2] W fun e w' => e = .returned (.int .i64 r) ∧ Below W.heap.size W w') := fun W h => choose_any 0 0 0 0 0 0 0 (by unfold Fit; omega) (some ⟨b, 0, none⟩) k cap2 (by omega) (fun i => (A i).cut) (fun i hi => (Sn.cut_small (HA.out i (by omega))).1) hr W h
      obtain ⟨er, hE⟩ : ∃ e, decide (0 ≤ r) = e := ⟨_, rfl⟩
      have hrs : (er == σ) = true := by
        subst hE
        rcases hr with ⟨rfl, h⟩ | ⟨i, hi, rfl, h, -⟩
        · have : σ = false := by
            cases σ
            · rfl
            · obtain ⟨i, hi, e⟩ := HX.out.1 rfl
              have h' : (A i).cut.may 0 = false := h i hi
              rw [h'] at e; cases e
          rw [this]; rfl
        · have : σ = true := HX.out.2 ⟨i, hi, h⟩
          rw [this]; simp
      have hse : er = σ := by simpa using hrs
      have HSE : Hid (er = σ) := hse
      clear hrs hse hr
      go_wp2_with (first
        | (go_at_call 9; refine (awake12_any _).mono ?_; rintro e w5 ⟨rfl, b5⟩; have S5 := ((HS.out.grown b5).sns (sq_is A k)); rw [sq_len] at S5; have y0 := keep' b5 (blk_cell (o := 0) HC.out rfl); have y1 := keep' b5 (blk_cell (o := 1) HC.out rfl); have y2 := keep' b5 (blk_cell (o := 2) HC.out rfl); have y3 := keep' b5 (blk_cell (o := 3) HC.out rfl); have y4 := keep' b5 (blk_cell (o := 4) HC.out rfl); have y5 := keep' b5 (blk_cell (o := 5) HC.out rfl); have y6 := keep' b5 (blk_cell (o := 6) HC.out rfl))
        | (go_at_call 12; refine (HPs.out _ S5).mono ?_; rintro e w6 ⟨rfl, b6⟩))
      go_ret
      refine ⟨?_, grow (grow HB.out b5) b6⟩
      rw [HSE.out]
      cases σ <;> rfl

set_option maxRecDepth 20000 in
set_option maxHeartbeats 4000000 in
theorem policyDense_true (ao : Option Addr) (N cap : Nat) (A : Nat → Sn) (hA : ∀ i, i < N → SnFit (A i)) (w : World) (hr : SnsAt w ao N A) :
    Calls Try.prog 5 #[.slice ao N cap, .bool true] w fun e w' => e = .returned (.bool true) ∧ Below w.heap.size w w' := by
  have HR : Hid (SnsAt w ao N A) := hr
  have HA : Hid (∀ i, i < N → SnFit (A i)) := hA
  clear hr hA
  go_enter Try.func5, Try.ntmps5
  go_wp2
  have S0 : Hid (Sns ((w.alloc (.cells #[.int .i64 0, .int .i64 0, .int .i64 0, .int .i64 0, .int .i64 0, .int .i64 1000, .int .i64 0] 30)).alloc (.cells #[] 25)) (w.heap.size + 1) 0 (sq A 0)) := by
    have := Sns.zero (w.alloc (.cells #[.int .i64 0, .int .i64 0, .int .i64 0, .int .i64 0, .int .i64 0, .int .i64 1000, .int .i64 0] 30))
    rw [Go.Deep.nblk_alloc] at this
    exact this
  have C0 : Hid (((w.alloc (.cells #[.int .i64 0, .int .i64 0, .int .i64 0, .int .i64 0, .int .i64 0, .int .i64 1000, .int .i64 0] 30)).alloc (.cells #[] 25)).heap[w.heap.size]? = some (.cells #[.int .i64 0, .int .i64 0, .int .i64 0, .int .i64 0, .int .i64 0, .int .i64 1000, .int .i64 0] 30 (0, 0))) := (Go.Deep.blk_alloc_lt _ _ _ (by rw [Go.Deep.nblk_alloc]; omega)).trans (Go.Deep.blk_alloc_new _ _)
  go_loopw [6, 7, 8] (fun s6 s7 s8 wr => ∃ (k b cap2 : Nat) (σ : Bool), k ≤ N ∧ k ≤ 64 ∧ s8 = .int .i64 k ∧ s6 = .slice (some ⟨b, 0, none⟩) k cap2 ∧ s7 = .bool σ ∧ Hid (Sns wr b cap2 (sq A k)) ∧ Hid (w.heap.size + 1 ≤ b) ∧ Hid ((σ = true) ↔ ∃ i, i < k ∧ (A i).cut.may 1000 = true) ∧ Hid (wr.heap[w.heap.size]? = some (.cells #[.int .i64 0, .int .i64 0, .int .i64 0, .int .i64 0, .int .i64 0, .int .i64 1000, .int .i64 0] 30 (0, 0))) ∧ Hid (Below w.heap.size w wr)) (fun _ _ s8 _ => 64 - (intOf s8).toNat)
  case atStart => exact ⟨0, w.heap.size + 1, 0, false, Nat.zero_le _, by omega, rfl, rfl, rfl, S0, Nat.le_refl _, ⟨(fun h => by cases h), fun ⟨i, hi, _⟩ => by omega⟩, C0, grow_alloc (grow_alloc (Below.refl _ _) _) _⟩
  case round =>
    clear S0 C0
    obtain ⟨k, b, cap2, σ, hkN, hk6, rfl, rfl, rfl, HS, Hb, HX, HC, HB⟩ := hrel
    by_cases h1 : k < N
    · by_cases h2 : k < 64
      · have h1' : (k : Int) < (N : Int) := by omega
        have h2' : (k : Int) < 64 := by omega
        obtain ⟨xb, xo, rfl, t0, t1, t2, t3, t4, t5⟩ := HR.out k h1
        have x0 := keep' HB.out t0
        have x1 := keep' HB.out t1
        have x2 := keep' HB.out t2
        have x3 := keep' HB.out t3
        have x4 := keep' HB.out t4
        have x5 := keep' HB.out t5
        clear t0 t1 t2 t3 t4 t5
        have hSm := Sn.cut_small (HA.out k h1)
        obtain ⟨c, hc⟩ : ∃ c, (A k).cut = c := ⟨_, rfl⟩
        rw [hc] at hSm
        have SE := fun w => seen_is hc w
        have HCk : Hid ((A k).cut = c) := hc
        have hov : wrap64 ((k : Int) + 1) = ((k + 1 : Nat) : Int) := by unfold wrap64; omega
        have HO : Hid (wrap64 ((k : Int) + 1) = ((k + 1 : Nat) : Int)) := hov
        have HF : Hid (∀ m : Bool, c.may 1000 = m → (((σ || m) = true) ↔ ∃ i, i < k + 1 ∧ (A i).cut.may 1000 = true)) := fun m hm => more_some HX.out (hc ▸ hm)
        obtain ⟨st, cl, us, sm, lv, op⟩ := c
        obtain ⟨-, g0, g1, g2, g3⟩ := hSm
        simp only at SE g0 g1 g2 g3
        clear hov hc HX
        by_cases s1 : st = 1
        · have s1' : (st == 1) = true := by simpa using s1
          cases op
          · by_cases u1 : 0 < us
            · have u1' : decide (0 < us) = true := decide_eq_true u1
              by_cases l1 : lv ≤ 0
              · have l1' : decide (lv ≤ 0) = true := decide_eq_true l1
                cases σ
                · have HX : Hid (((true : Bool) = true) ↔ ∃ i, i < k + 1 ∧ (A i).cut.may 1000 = true) := HF.out true (by first | (simp [Sn.may, *]; done) | (simp [Sn.may]; omega) | (simp only [Sn.may]; rw [decide_eq_true_iff]; omega) | (simp only [Sn.may]; rw [decide_eq_false_iff_not]; omega))
                  clear HF s1
                  go_wp2_with (first
                    | (go_at_call 8; refine (SE _).mono ?_; rintro e w2 ⟨rfl, b2⟩; obtain ⟨b3, cap3, w3, hrun, S3, O3, hb3⟩ := Sns.more (((HS.out.grown b2).alloc (.cells #[.int .i64 st, .int .i64 cl, .int .i64 us, .int .i64 sm, .int .i64 lv, .bool false] 25)).alloc (.cells #[.int .i64 st, .int .i64 cl, .int .i64 us, .int .i64 sm, .int .i64 lv, .bool false] 25)) (sq_len A k) (Sns.one _ ⟨st, cl, us, sm, lv, false⟩) (by omega) 32; rw [Go.Deep.nblk_alloc] at hrun)
                    | (at_builtin; refine wpList_ran rfl (.tmp 30) (.tmp 32) rfl rfl rfl hrun ?_; have hG := own_kept HS.out b2 O3; have z0 := blk_cell (o := 0) hG rfl; have z1 := blk_cell (o := 1) hG rfl; have z2 := blk_cell (o := 2) hG rfl; have z3 := blk_cell (o := 3) hG rfl; have z4 := blk_cell (o := 4) hG rfl; have z5 := blk_cell (o := 5) hG rfl))
                  have HB3 : Hid (Below w.heap.size w w3) := below_own (grow_alloc (grow_alloc (grow HB.out b2) _) _) O3 (by have := Hb.out; omega)
                  have Hb3 : Hid (w.heap.size + 1 ≤ b3) := by
                    have e1 := (grow HB.out b2).size
                    have e2 := Hb.out
                    have e4 := HS.out.lt
                    have e5 := b2.size
                    unfold Hid
                    rw [Go.Deep.nblk_alloc, Go.Deep.nblk_alloc] at hb3
                    omega
                  have HC3 : Hid (w3.heap[w.heap.size]? = some (.cells #[.int .i64 0, .int .i64 0, .int .i64 0, .int .i64 0, .int .i64 0, .int .i64 1000, .int .i64 0] 30 (0, 0))) := cfg_kept HC.out b2 O3 (by have := Hb.out; omega)
                  have HS3 : Hid (Sns w3 b3 cap3 (sq A (k + 1))) := by
                    rw [sq_succ, HCk.out]; exact S3
                  go_roundw
                  case rel => exact ⟨k + 1, b3, cap3, true, by omega, by omega, by first | rfl | (exact congrArg (Value.int .i64) HO.out) | go_num, rfl, rfl, HS3, Hb3, (by have := HX.out; unfold Hid; simpa using this), HC3, HB3⟩
                  case measure => simp [intOf]; omega
                · have HX : Hid (((true : Bool) = true) ↔ ∃ i, i < k + 1 ∧ (A i).cut.may 1000 = true) := HF.out true (by first | (simp [Sn.may, *]; done) | (simp [Sn.may]; omega) | (simp only [Sn.may]; rw [decide_eq_true_iff]; omega) | (simp only [Sn.may]; rw [decide_eq_false_iff_not]; omega))
                  clear HF s1
                  go_wp2_with (first
                    | (go_at_call 8; refine (SE _).mono ?_; rintro e w2 ⟨rfl, b2⟩; obtain ⟨b3, cap3, w3, hrun, S3, O3, hb3⟩ := Sns.more (((HS.out.grown b2).alloc (.cells #[.int .i64 st, .int .i64 cl, .int .i64 us, .int .i64 sm, .int .i64 lv, .bool false] 25)).alloc (.cells #[.int .i64 st, .int .i64 cl, .int .i64 us, .int .i64 sm, .int .i64 lv, .bool false] 25)) (sq_len A k) (Sns.one _ ⟨st, cl, us, sm, lv, false⟩) (by omega) 32; rw [Go.Deep.nblk_alloc] at hrun)
                    | (at_builtin; refine wpList_ran rfl (.tmp 30) (.tmp 32) rfl rfl rfl hrun ?_; have hG := own_kept HS.out b2 O3; have z0 := blk_cell (o := 0) hG rfl; have z1 := blk_cell (o := 1) hG rfl; have z2 := blk_cell (o := 2) hG rfl; have z3 := blk_cell (o := 3) hG rfl; have z4 := blk_cell (o := 4) hG rfl; have z5 := blk_cell (o := 5) hG rfl))
                  have HB3 : Hid (Below w.heap.size w w3) := below_own (grow_alloc (grow_alloc (grow HB.out b2) _) _) O3 (by have := Hb.out; omega)
                  have Hb3 : Hid (w.heap.size + 1 ≤ b3) := by
                    have e1 := (grow HB.out b2).size
                    have e2 := Hb.out
                    have e4 := HS.out.lt
                    have e5 := b2.size
                    unfold Hid
                    rw [Go.Deep.nblk_alloc, Go.Deep.nblk_alloc] at hb3
                    omega
                  have HC3 : Hid (w3.heap[w.heap.size]? = some (.cells #[.int .i64 0, .int .i64 0, .int .i64 0, .int .i64 0, .int .i64 0, .int .i64 1000, .int .i64 0] 30 (0, 0))) := cfg_kept HC.out b2 O3 (by have := Hb.out; omega)
                  have HS3 : Hid (Sns w3 b3 cap3 (sq A (k + 1))) := by
                    rw [sq_succ, HCk.out]; exact S3
                  go_roundw
                  case rel => exact ⟨k + 1, b3, cap3, true, by omega, by omega, by first | rfl | (exact congrArg (Value.int .i64) HO.out) | go_num, rfl, rfl, HS3, Hb3, (by have := HX.out; unfold Hid; simpa using this), HC3, HB3⟩
                  case measure => simp [intOf]; omega
              · have l1' : decide (lv ≤ 0) = false := decide_eq_false l1
                by_cases l2 : lv < us
                · have l2' : decide (lv < us) = true := decide_eq_true l2
                  cases σ
                  · have HX : Hid (((true : Bool) = true) ↔ ∃ i, i < k + 1 ∧ (A i).cut.may 1000 = true) := HF.out true (by first | (simp [Sn.may, *]; done) | (simp [Sn.may]; omega) | (simp only [Sn.may]; rw [decide_eq_true_iff]; omega) | (simp only [Sn.may]; rw [decide_eq_false_iff_not]; omega))
                    clear HF s1
                    go_wp2_with (first
                      | (go_at_call 8; refine (SE _).mono ?_; rintro e w2 ⟨rfl, b2⟩; obtain ⟨b3, cap3, w3, hrun, S3, O3, hb3⟩ := Sns.more (((HS.out.grown b2).alloc (.cells #[.int .i64 st, .int .i64 cl, .int .i64 us, .int .i64 sm, .int .i64 lv, .bool false] 25)).alloc (.cells #[.int .i64 st, .int .i64 cl, .int .i64 us, .int .i64 sm, .int .i64 lv, .bool false] 25)) (sq_len A k) (Sns.one _ ⟨st, cl, us, sm, lv, false⟩) (by omega) 32; rw [Go.Deep.nblk_alloc] at hrun)
                      | (at_builtin; refine wpList_ran rfl (.tmp 30) (.tmp 32) rfl rfl rfl hrun ?_; have hG := own_kept HS.out b2 O3; have z0 := blk_cell (o := 0) hG rfl; have z1 := blk_cell (o := 1) hG rfl; have z2 := blk_cell (o := 2) hG rfl; have z3 := blk_cell (o := 3) hG rfl; have z4 := blk_cell (o := 4) hG rfl; have z5 := blk_cell (o := 5) hG rfl))
                    have HB3 : Hid (Below w.heap.size w w3) := below_own (grow_alloc (grow_alloc (grow HB.out b2) _) _) O3 (by have := Hb.out; omega)
                    have Hb3 : Hid (w.heap.size + 1 ≤ b3) := by
                      have e1 := (grow HB.out b2).size
                      have e2 := Hb.out
                      have e4 := HS.out.lt
                      have e5 := b2.size
                      unfold Hid
                      rw [Go.Deep.nblk_alloc, Go.Deep.nblk_alloc] at hb3
                      omega
                    have HC3 : Hid (w3.heap[w.heap.size]? = some (.cells #[.int .i64 0, .int .i64 0, .int .i64 0, .int .i64 0, .int .i64 0, .int .i64 1000, .int .i64 0] 30 (0, 0))) := cfg_kept HC.out b2 O3 (by have := Hb.out; omega)
                    have HS3 : Hid (Sns w3 b3 cap3 (sq A (k + 1))) := by
                      rw [sq_succ, HCk.out]; exact S3
                    go_roundw
                    case rel => exact ⟨k + 1, b3, cap3, true, by omega, by omega, by first | rfl | (exact congrArg (Value.int .i64) HO.out) | go_num, rfl, rfl, HS3, Hb3, (by have := HX.out; unfold Hid; simpa using this), HC3, HB3⟩
                    case measure => simp [intOf]; omega
                  · have HX : Hid (((true : Bool) = true) ↔ ∃ i, i < k + 1 ∧ (A i).cut.may 1000 = true) := HF.out true (by first | (simp [Sn.may, *]; done) | (simp [Sn.may]; omega) | (simp only [Sn.may]; rw [decide_eq_true_iff]; omega) | (simp only [Sn.may]; rw [decide_eq_false_iff_not]; omega))
                    clear HF s1
                    go_wp2_with (first
                      | (go_at_call 8; refine (SE _).mono ?_; rintro e w2 ⟨rfl, b2⟩; obtain ⟨b3, cap3, w3, hrun, S3, O3, hb3⟩ := Sns.more (((HS.out.grown b2).alloc (.cells #[.int .i64 st, .int .i64 cl, .int .i64 us, .int .i64 sm, .int .i64 lv, .bool false] 25)).alloc (.cells #[.int .i64 st, .int .i64 cl, .int .i64 us, .int .i64 sm, .int .i64 lv, .bool false] 25)) (sq_len A k) (Sns.one _ ⟨st, cl, us, sm, lv, false⟩) (by omega) 32; rw [Go.Deep.nblk_alloc] at hrun)
                      | (at_builtin; refine wpList_ran rfl (.tmp 30) (.tmp 32) rfl rfl rfl hrun ?_; have hG := own_kept HS.out b2 O3; have z0 := blk_cell (o := 0) hG rfl; have z1 := blk_cell (o := 1) hG rfl; have z2 := blk_cell (o := 2) hG rfl; have z3 := blk_cell (o := 3) hG rfl; have z4 := blk_cell (o := 4) hG rfl; have z5 := blk_cell (o := 5) hG rfl))
                    have HB3 : Hid (Below w.heap.size w w3) := below_own (grow_alloc (grow_alloc (grow HB.out b2) _) _) O3 (by have := Hb.out; omega)
                    have Hb3 : Hid (w.heap.size + 1 ≤ b3) := by
                      have e1 := (grow HB.out b2).size
                      have e2 := Hb.out
                      have e4 := HS.out.lt
                      have e5 := b2.size
                      unfold Hid
                      rw [Go.Deep.nblk_alloc, Go.Deep.nblk_alloc] at hb3
                      omega
                    have HC3 : Hid (w3.heap[w.heap.size]? = some (.cells #[.int .i64 0, .int .i64 0, .int .i64 0, .int .i64 0, .int .i64 0, .int .i64 1000, .int .i64 0] 30 (0, 0))) := cfg_kept HC.out b2 O3 (by have := Hb.out; omega)
                    have HS3 : Hid (Sns w3 b3 cap3 (sq A (k + 1))) := by
                      rw [sq_succ, HCk.out]; exact S3
                    go_roundw
                    case rel => exact ⟨k + 1, b3, cap3, true, by omega, by omega, by first | rfl | (exact congrArg (Value.int .i64) HO.out) | go_num, rfl, rfl, HS3, Hb3, (by have := HX.out; unfold Hid; simpa using this), HC3, HB3⟩
                    case measure => simp [intOf]; omega
                · have l2' : decide (lv < us) = false := decide_eq_false l2
                  cases σ
                  · have HX : Hid (((false : Bool) = true) ↔ ∃ i, i < k + 1 ∧ (A i).cut.may 1000 = true) := HF.out false (by first | (simp [Sn.may, *]; done) | (simp [Sn.may]; omega) | (simp only [Sn.may]; rw [decide_eq_true_iff]; omega) | (simp only [Sn.may]; rw [decide_eq_false_iff_not]; omega))
                    clear HF s1
                    go_wp2_with (first
                      | (go_at_call 8; refine (SE _).mono ?_; rintro e w2 ⟨rfl, b2⟩; obtain ⟨b3, cap3, w3, hrun, S3, O3, hb3⟩ := Sns.more (((HS.out.grown b2).alloc (.cells #[.int .i64 st, .int .i64 cl, .int .i64 us, .int .i64 sm, .int .i64 lv, .bool false] 25)).alloc (.cells #[.int .i64 st, .int .i64 cl, .int .i64 us, .int .i64 sm, .int .i64 lv, .bool false] 25)) (sq_len A k) (Sns.one _ ⟨st, cl, us, sm, lv, false⟩) (by omega) 32; rw [Go.Deep.nblk_alloc] at hrun)
                      | (at_builtin; refine wpList_ran rfl (.tmp 30) (.tmp 32) rfl rfl rfl hrun ?_; have hG := own_kept HS.out b2 O3; have z0 := blk_cell (o := 0) hG rfl; have z1 := blk_cell (o := 1) hG rfl; have z2 := blk_cell (o := 2) hG rfl; have z3 := blk_cell (o := 3) hG rfl; have z4 := blk_cell (o := 4) hG rfl; have z5 := blk_cell (o := 5) hG rfl))
                    have HB3 : Hid (Below w.heap.size w w3) := below_own (grow_alloc (grow_alloc (grow HB.out b2) _) _) O3 (by have := Hb.out; omega)
                    have Hb3 : Hid (w.heap.size + 1 ≤ b3) := by
                      have e1 := (grow HB.out b2).size
                      have e2 := Hb.out
                      have e4 := HS.out.lt
                      have e5 := b2.size
                      unfold Hid
                      rw [Go.Deep.nblk_alloc, Go.Deep.nblk_alloc] at hb3
                      omega
                    have HC3 : Hid (w3.heap[w.heap.size]? = some (.cells #[.int .i64 0, .int .i64 0, .int .i64 0, .int .i64 0, .int .i64 0, .int .i64 1000, .int .i64 0] 30 (0, 0))) := cfg_kept HC.out b2 O3 (by have := Hb.out; omega)
                    have HS3 : Hid (Sns w3 b3 cap3 (sq A (k + 1))) := by
                      rw [sq_succ, HCk.out]; exact S3
                    go_roundw
                    case rel => exact ⟨k + 1, b3, cap3, false, by omega, by omega, by first | rfl | (exact congrArg (Value.int .i64) HO.out) | go_num, rfl, rfl, HS3, Hb3, (by have := HX.out; unfold Hid; simpa using this), HC3, HB3⟩
                    case measure => simp [intOf]; omega
                  · have HX : Hid (((true : Bool) = true) ↔ ∃ i, i < k + 1 ∧ (A i).cut.may 1000 = true) := HF.out false (by first | (simp [Sn.may, *]; done) | (simp [Sn.may]; omega) | (simp only [Sn.may]; rw [decide_eq_true_iff]; omega) | (simp only [Sn.may]; rw [decide_eq_false_iff_not]; omega))
                    clear HF s1
                    go_wp2_with (first
                      | (go_at_call 8; refine (SE _).mono ?_; rintro e w2 ⟨rfl, b2⟩; obtain ⟨b3, cap3, w3, hrun, S3, O3, hb3⟩ := Sns.more (((HS.out.grown b2).alloc (.cells #[.int .i64 st, .int .i64 cl, .int .i64 us, .int .i64 sm, .int .i64 lv, .bool false] 25)).alloc (.cells #[.int .i64 st, .int .i64 cl, .int .i64 us, .int .i64 sm, .int .i64 lv, .bool false] 25)) (sq_len A k) (Sns.one _ ⟨st, cl, us, sm, lv, false⟩) (by omega) 32; rw [Go.Deep.nblk_alloc] at hrun)
                      | (at_builtin; refine wpList_ran rfl (.tmp 30) (.tmp 32) rfl rfl rfl hrun ?_; have hG := own_kept HS.out b2 O3; have z0 := blk_cell (o := 0) hG rfl; have z1 := blk_cell (o := 1) hG rfl; have z2 := blk_cell (o := 2) hG rfl; have z3 := blk_cell (o := 3) hG rfl; have z4 := blk_cell (o := 4) hG rfl; have z5 := blk_cell (o := 5) hG rfl))
                    have HB3 : Hid (Below w.heap.size w w3) := below_own (grow_alloc (grow_alloc (grow HB.out b2) _) _) O3 (by have := Hb.out; omega)
                    have Hb3 : Hid (w.heap.size + 1 ≤ b3) := by
                      have e1 := (grow HB.out b2).size
                      have e2 := Hb.out
                      have e4 := HS.out.lt
                      have e5 := b2.size
                      unfold Hid
                      rw [Go.Deep.nblk_alloc, Go.Deep.nblk_alloc] at hb3
                      omega
                    have HC3 : Hid (w3.heap[w.heap.size]? = some (.cells #[.int .i64 0, .int .i64 0, .int .i64 0, .int .i64 0, .int .i64 0, .int .i64 1000, .int .i64 0] 30 (0, 0))) := cfg_kept HC.out b2 O3 (by have := Hb.out; omega)
                    have HS3 : Hid (Sns w3 b3 cap3 (sq A (k + 1))) := by
                      rw [sq_succ, HCk.out]; exact S3
                    go_roundw
                    case rel => exact ⟨k + 1, b3, cap3, true, by omega, by omega, by first | rfl | (exact congrArg (Value.int .i64) HO.out) | go_num, rfl, rfl, HS3, Hb3, (by have := HX.out; unfold Hid; simpa using this), HC3, HB3⟩
                    case measure => simp [intOf]; omega
            · have u1' : decide (0 < us) = false := decide_eq_false u1
              cases σ
              · have HX : Hid (((false : Bool) = true) ↔ ∃ i, i < k + 1 ∧ (A i).cut.may 1000 = true) := HF.out false (by first | (simp [Sn.may, *]; done) | (simp [Sn.may]; omega) | (simp only [Sn.may]; rw [decide_eq_true_iff]; omega) | (simp only [Sn.may]; rw [decide_eq_false_iff_not]; omega))
                clear HF s1
                go_wp2_with (first
                  | (go_at_call 8; refine (SE _).mono ?_; rintro e w2 ⟨rfl, b2⟩; obtain ⟨b3, cap3, w3, hrun, S3, O3, hb3⟩ := Sns.more (((HS.out.grown b2).alloc (.cells #[.int .i64 st, .int .i64 cl, .int .i64 us, .int .i64 sm, .int .i64 lv, .bool false] 25)).alloc (.cells #[.int .i64 st, .int .i64 cl, .int .i64 us, .int .i64 sm, .int .i64 lv, .bool false] 25)) (sq_len A k) (Sns.one _ ⟨st, cl, us, sm, lv, false⟩) (by omega) 32; rw [Go.Deep.nblk_alloc] at hrun)
                  | (at_builtin; refine wpList_ran rfl (.tmp 30) (.tmp 32) rfl rfl rfl hrun ?_; have hG := own_kept HS.out b2 O3; have z0 := blk_cell (o := 0) hG rfl; have z1 := blk_cell (o := 1) hG rfl; have z2 := blk_cell (o := 2) hG rfl; have z3 := blk_cell (o := 3) hG rfl; have z4 := blk_cell (o := 4) hG rfl; have z5 := blk_cell (o := 5) hG rfl))
                have HB3 : Hid (Below w.heap.size w w3) := below_own (grow_alloc (grow_alloc (grow HB.out b2) _) _) O3 (by have := Hb.out; omega)
                have Hb3 : Hid (w.heap.size + 1 ≤ b3) := by
                  have e1 := (grow HB.out b2).size
                  have e2 := Hb.out
                  have e4 := HS.out.lt
                  have e5 := b2.size
                  unfold Hid
                  rw [Go.Deep.nblk_alloc, Go.Deep.nblk_alloc] at hb3
                  omega
                have HC3 : Hid (w3.heap[w.heap.size]? = some (.cells #[.int .i64 0, .int .i64 0, .int .i64 0, .int .i64 0, .int .i64 0, .int .i64 1000, .int .i64 0] 30 (0, 0))) := cfg_kept HC.out b2 O3 (by have := Hb.out; omega)
                have HS3 : Hid (Sns w3 b3 cap3 (sq A (k + 1))) := by
                  rw [sq_succ, HCk.out]; exact S3
                go_roundw
                case rel => exact ⟨k + 1, b3, cap3, false, by omega, by omega, by first | rfl | (exact congrArg (Value.int .i64) HO.out) | go_num, rfl, rfl, HS3, Hb3, (by have := HX.out; unfold Hid; simpa using this), HC3, HB3⟩
                case measure => simp [intOf]; omega
              · have HX : Hid (((true : Bool) = true) ↔ ∃ i, i < k + 1 ∧ (A i).cut.may 1000 = true) := HF.out false (by first | (simp [Sn.may, *]; done) | (simp [Sn.may]; omega) | (simp only [Sn.may]; rw [decide_eq_true_iff]; omega) | (simp only [Sn.may]; rw [decide_eq_false_iff_not]; omega))
                clear HF s1
                go_wp2_with (first
                  | (go_at_call 8; refine (SE _).mono ?_; rintro e w2 ⟨rfl, b2⟩; obtain ⟨b3, cap3, w3, hrun, S3, O3, hb3⟩ := Sns.more (((HS.out.grown b2).alloc (.cells #[.int .i64 st, .int .i64 cl, .int .i64 us, .int .i64 sm, .int .i64 lv, .bool false] 25)).alloc (.cells #[.int .i64 st, .int .i64 cl, .int .i64 us, .int .i64 sm, .int .i64 lv, .bool false] 25)) (sq_len A k) (Sns.one _ ⟨st, cl, us, sm, lv, false⟩) (by omega) 32; rw [Go.Deep.nblk_alloc] at hrun)
                  | (at_builtin; refine wpList_ran rfl (.tmp 30) (.tmp 32) rfl rfl rfl hrun ?_; have hG := own_kept HS.out b2 O3; have z0 := blk_cell (o := 0) hG rfl; have z1 := blk_cell (o := 1) hG rfl; have z2 := blk_cell (o := 2) hG rfl; have z3 := blk_cell (o := 3) hG rfl; have z4 := blk_cell (o := 4) hG rfl; have z5 := blk_cell (o := 5) hG rfl))
                have HB3 : Hid (Below w.heap.size w w3) := below_own (grow_alloc (grow_alloc (grow HB.out b2) _) _) O3 (by have := Hb.out; omega)
                have Hb3 : Hid (w.heap.size + 1 ≤ b3) := by
                  have e1 := (grow HB.out b2).size
                  have e2 := Hb.out
                  have e4 := HS.out.lt
                  have e5 := b2.size
                  unfold Hid
                  rw [Go.Deep.nblk_alloc, Go.Deep.nblk_alloc] at hb3
                  omega
                have HC3 : Hid (w3.heap[w.heap.size]? = some (.cells #[.int .i64 0, .int .i64 0, .int .i64 0, .int .i64 0, .int .i64 0, .int .i64 1000, .int .i64 0] 30 (0, 0))) := cfg_kept HC.out b2 O3 (by have := Hb.out; omega)
                have HS3 : Hid (Sns w3 b3 cap3 (sq A (k + 1))) := by
                  rw [sq_succ, HCk.out]; exact S3
                go_roundw
                case rel => exact ⟨k + 1, b3, cap3, true, by omega, by omega, by first | rfl | (exact congrArg (Value.int .i64) HO.out) | go_num, rfl, rfl, HS3, Hb3, (by have := HX.out; unfold Hid; simpa using this), HC3, HB3⟩
                case measure => simp [intOf]; omega
          · cases σ
            · have HX : Hid (((false : Bool) = true) ↔ ∃ i, i < k + 1 ∧ (A i).cut.may 1000 = true) := HF.out false (by first | (simp [Sn.may, *]; done) | (simp [Sn.may]; omega) | (simp only [Sn.may]; rw [decide_eq_true_iff]; omega) | (simp only [Sn.may]; rw [decide_eq_false_iff_not]; omega))
              clear HF s1
              go_wp2_with (first
                | (go_at_call 8; refine (SE _).mono ?_; rintro e w2 ⟨rfl, b2⟩; obtain ⟨b3, cap3, w3, hrun, S3, O3, hb3⟩ := Sns.more (((HS.out.grown b2).alloc (.cells #[.int .i64 st, .int .i64 cl, .int .i64 us, .int .i64 sm, .int .i64 lv, .bool true] 25)).alloc (.cells #[.int .i64 st, .int .i64 cl, .int .i64 us, .int .i64 sm, .int .i64 lv, .bool true] 25)) (sq_len A k) (Sns.one _ ⟨st, cl, us, sm, lv, true⟩) (by omega) 32; rw [Go.Deep.nblk_alloc] at hrun)
                | (at_builtin; refine wpList_ran rfl (.tmp 30) (.tmp 32) rfl rfl rfl hrun ?_; have hG := own_kept HS.out b2 O3; have z0 := blk_cell (o := 0) hG rfl; have z1 := blk_cell (o := 1) hG rfl; have z2 := blk_cell (o := 2) hG rfl; have z3 := blk_cell (o := 3) hG rfl; have z4 := blk_cell (o := 4) hG rfl; have z5 := blk_cell (o := 5) hG rfl))
              have HB3 : Hid (Below w.heap.size w w3) := below_own (grow_alloc (grow_alloc (grow HB.out b2) _) _) O3 (by have := Hb.out; omega)
              have Hb3 : Hid (w.heap.size + 1 ≤ b3) := by
                have e1 := (grow HB.out b2).size
                have e2 := Hb.out
                have e4 := HS.out.lt
                have e5 := b2.size
                unfold Hid
                rw [Go.Deep.nblk_alloc, Go.Deep.nblk_alloc] at hb3
                omega
              have HC3 : Hid (w3.heap[w.heap.size]? = some (.cells #[.int .i64 0, .int .i64 0, .int .i64 0, .int .i64 0, .int .i64 0, .int .i64 1000, .int .i64 0] 30 (0, 0))) := cfg_kept HC.out b2 O3 (by have := Hb.out; omega)
              have HS3 : Hid (Sns w3 b3 cap3 (sq A (k + 1))) := by
                rw [sq_succ, HCk.out]; exact S3
              go_roundw
              case rel => exact ⟨k + 1, b3, cap3, false, by omega, by omega, by first | rfl | (exact congrArg (Value.int .i64) HO.out) | go_num, rfl, rfl, HS3, Hb3, (by have := HX.out; unfold Hid; simpa using this), HC3, HB3⟩
              case measure => simp [intOf]; omega
            · have HX : Hid (((true : Bool) = true) ↔ ∃ i, i < k + 1 ∧ (A i).cut.may 1000 = true) := HF.out false (by first | (simp [Sn.may, *]; done) | (simp [Sn.may]; omega) | (simp only [Sn.may]; rw [decide_eq_true_iff]; omega) | (simp only [Sn.may]; rw [decide_eq_false_iff_not]; omega))
              clear HF s1
              go_wp2_with (first
                | (go_at_call 8; refine (SE _).mono ?_; rintro e w2 ⟨rfl, b2⟩; obtain ⟨b3, cap3, w3, hrun, S3, O3, hb3⟩ := Sns.more (((HS.out.grown b2).alloc (.cells #[.int .i64 st, .int .i64 cl, .int .i64 us, .int .i64 sm, .int .i64 lv, .bool true] 25)).alloc (.cells #[.int .i64 st, .int .i64 cl, .int .i64 us, .int .i64 sm, .int .i64 lv, .bool true] 25)) (sq_len A k) (Sns.one _ ⟨st, cl, us, sm, lv, true⟩) (by omega) 32; rw [Go.Deep.nblk_alloc] at hrun)
                | (at_builtin; refine wpList_ran rfl (.tmp 30) (.tmp 32) rfl rfl rfl hrun ?_; have hG := own_kept HS.out b2 O3; have z0 := blk_cell (o := 0) hG rfl; have z1 := blk_cell (o := 1) hG rfl; have z2 := blk_cell (o := 2) hG rfl; have z3 := blk_cell (o := 3) hG rfl; have z4 := blk_cell (o := 4) hG rfl; have z5 := blk_cell (o := 5) hG rfl))
              have HB3 : Hid (Below w.heap.size w w3) := below_own (grow_alloc (grow_alloc (grow HB.out b2) _) _) O3 (by have := Hb.out; omega)
              have Hb3 : Hid (w.heap.size + 1 ≤ b3) := by
                have e1 := (grow HB.out b2).size
                have e2 := Hb.out
                have e4 := HS.out.lt
                have e5 := b2.size
                unfold Hid
                rw [Go.Deep.nblk_alloc, Go.Deep.nblk_alloc] at hb3
                omega
              have HC3 : Hid (w3.heap[w.heap.size]? = some (.cells #[.int .i64 0, .int .i64 0, .int .i64 0, .int .i64 0, .int .i64 0, .int .i64 1000, .int .i64 0] 30 (0, 0))) := cfg_kept HC.out b2 O3 (by have := Hb.out; omega)
              have HS3 : Hid (Sns w3 b3 cap3 (sq A (k + 1))) := by
                rw [sq_succ, HCk.out]; exact S3
              go_roundw
              case rel => exact ⟨k + 1, b3, cap3, true, by omega, by omega, by first | rfl | (exact congrArg (Value.int .i64) HO.out) | go_num, rfl, rfl, HS3, Hb3, (by have := HX.out; unfold Hid; simpa using this), HC3, HB3⟩
              case measure => simp [intOf]; omega
        · have s1' : (st == 1) = false := by simpa using s1
          cases σ
          · have HX : Hid (((false : Bool) = true) ↔ ∃ i, i < k + 1 ∧ (A i).cut.may 1000 = true) := HF.out false (by first | (simp [Sn.may, *]; done) | (simp [Sn.may]; omega) | (simp only [Sn.may]; rw [decide_eq_true_iff]; omega) | (simp only [Sn.may]; rw [decide_eq_false_iff_not]; omega))
            clear HF
            go_wp2_with (first
              | (go_at_call 8; refine (SE _).mono ?_; rintro e w2 ⟨rfl, b2⟩; obtain ⟨b3, cap3, w3, hrun, S3, O3, hb3⟩ := Sns.more (((HS.out.grown b2).alloc (.cells #[.int .i64 st, .int .i64 cl, .int .i64 us, .int .i64 sm, .int .i64 lv, .bool op] 25)).alloc (.cells #[.int .i64 st, .int .i64 cl, .int .i64 us, .int .i64 sm, .int .i64 lv, .bool op] 25)) (sq_len A k) (Sns.one _ ⟨st, cl, us, sm, lv, op⟩) (by omega) 32; rw [Go.Deep.nblk_alloc] at hrun)
              | (at_builtin; refine wpList_ran rfl (.tmp 30) (.tmp 32) rfl rfl rfl hrun ?_; have hG := own_kept HS.out b2 O3; have z0 := blk_cell (o := 0) hG rfl; have z1 := blk_cell (o := 1) hG rfl; have z2 := blk_cell (o := 2) hG rfl; have z3 := blk_cell (o := 3) hG rfl; have z4 := blk_cell (o := 4) hG rfl; have z5 := blk_cell (o := 5) hG rfl))
            have HB3 : Hid (Below w.heap.size w w3) := below_own (grow_alloc (grow_alloc (grow HB.out b2) _) _) O3 (by have := Hb.out; omega)
            have Hb3 : Hid (w.heap.size + 1 ≤ b3) := by
              have e1 := (grow HB.out b2).size
              have e2 := Hb.out
              have e4 := HS.out.lt
              have e5 := b2.size
              unfold Hid
              rw [Go.Deep.nblk_alloc, Go.Deep.nblk_alloc] at hb3
              omega
            have HC3 : Hid (w3.heap[w.heap.size]? = some (.cells #[.int .i64 0, .int .i64 0, .int .i64 0, .int .i64 0, .int .i64 0, .int .i64 1000, .int .i64 0] 30 (0, 0))) := cfg_kept HC.out b2 O3 (by have := Hb.out; omega)
            have HS3 : Hid (Sns w3 b3 cap3 (sq A (k + 1))) := by
              rw [sq_succ, HCk.out]; exact S3
            go_roundw
            case rel => exact ⟨k + 1, b3, cap3, false, by omega, by omega, by first | rfl | (exact congrArg (Value.int .i64) HO.out) | go_num, rfl, rfl, HS3, Hb3, (by have := HX.out; unfold Hid; simpa using this), HC3, HB3⟩
            case measure => simp [intOf]; omega
          · have HX : Hid (((true : Bool) = true) ↔ ∃ i, i < k + 1 ∧ (A i).cut.may 1000 = true) := HF.out false (by first | (simp [Sn.may, *]; done) | (simp [Sn.may]; omega) | (simp only [Sn.may]; rw [decide_eq_true_iff]; omega) | (simp only [Sn.may]; rw [decide_eq_false_iff_not]; omega))
            clear HF
            go_wp2_with (first
              | (go_at_call 8; refine (SE _).mono ?_; rintro e w2 ⟨rfl, b2⟩; obtain ⟨b3, cap3, w3, hrun, S3, O3, hb3⟩ := Sns.more (((HS.out.grown b2).alloc (.cells #[.int .i64 st, .int .i64 cl, .int .i64 us, .int .i64 sm, .int .i64 lv, .bool op] 25)).alloc (.cells #[.int .i64 st, .int .i64 cl, .int .i64 us, .int .i64 sm, .int .i64 lv, .bool op] 25)) (sq_len A k) (Sns.one _ ⟨st, cl, us, sm, lv, op⟩) (by omega) 32; rw [Go.Deep.nblk_alloc] at hrun)
              | (at_builtin; refine wpList_ran rfl (.tmp 30) (.tmp 32) rfl rfl rfl hrun ?_; have hG := own_kept HS.out b2 O3; have z0 := blk_cell (o := 0) hG rfl; have z1 := blk_cell (o := 1) hG rfl; have z2 := blk_cell (o := 2) hG rfl; have z3 := blk_cell (o := 3) hG rfl; have z4 := blk_cell (o := 4) hG rfl; have z5 := blk_cell (o := 5) hG rfl))
            have HB3 : Hid (Below w.heap.size w w3) := below_own (grow_alloc (grow_alloc (grow HB.out b2) _) _) O3 (by have := Hb.out; omega)
            have Hb3 : Hid (w.heap.size + 1 ≤ b3) := by
              have e1 := (grow HB.out b2).size
              have e2 := Hb.out
              have e4 := HS.out.lt
              have e5 := b2.size
              unfold Hid
              rw [Go.Deep.nblk_alloc, Go.Deep.nblk_alloc] at hb3
              omega
            have HC3 : Hid (w3.heap[w.heap.size]? = some (.cells #[.int .i64 0, .int .i64 0, .int .i64 0, .int .i64 0, .int .i64 0, .int .i64 1000, .int .i64 0] 30 (0, 0))) := cfg_kept HC.out b2 O3 (by have := Hb.out; omega)
            have HS3 : Hid (Sns w3 b3 cap3 (sq A (k + 1))) := by
              rw [sq_succ, HCk.out]; exact S3
            go_roundw
            case rel => exact ⟨k + 1, b3, cap3, true, by omega, by omega, by first | rfl | (exact congrArg (Value.int .i64) HO.out) | go_num, rfl, rfl, HS3, Hb3, (by have := HX.out; unfold Hid; simpa using this), HC3, HB3⟩
            case measure => simp [intOf]; omega
      · have h1' : (k : Int) < (N : Int) := by omega
        have h2' : ¬ (k : Int) < 64 := by omega
        obtain ⟨r, hr⟩ := Pick.some k (fun i => (A i).cut.may 1000) (fun i => (A i).cut.lv)
        have HPs : Hid (∀ W, SnsAt W (some ⟨b, 0, none⟩) k (fun i => (A i).cut) → Calls Try.prog 12 #[.agg #[.int .i64 0, .int .i64 0, .int .i64 0, .int .i64 0, .int .i64 0, .int .i64 1000, .int .i64 0], .slice (some ⟨b, 0, none⟩) k cap2] W fun e w' => e = .returned (.int .i64 r) ∧ Below W.heap.size W w') := fun W h => choose_any 0 0 0 0 0 1000 0 (by unfold Fit; omega) (some ⟨b, 0, none⟩) k cap2 (by omega) (fun i => (A i).cut) (fun i hi => (Sn.cut_small (HA.out i (by omega))).1) hr W h
        obtain ⟨er, hE⟩ : ∃ e, decide (0 ≤ r) = e := ⟨_, rfl⟩
        have hrs : (er == σ) = true := by
          subst hE
          rcases hr with ⟨rfl, h⟩ | ⟨i, hi, rfl, h, -⟩
          · have : σ = false := by
              cases σ
              · rfl
              · obtain ⟨i, hi, e⟩ := HX.out.1 rfl
                have h' : (A i).cut.may 1000 = false := h i hi
                rw [h'] at e; cases e
            rw [this]; rfl
          · have : σ = true := HX.out.2 ⟨i, hi, h⟩
            rw [this]; simp
        have hse : er = σ := by simpa using hrs
        have HSE : Hid (er = σ) := hse
        clear hrs hse hr
        go_wp2_with (first
          | (go_at_call 9; refine (awake12_any _).mono ?_; rintro e w5 ⟨rfl, b5⟩; have S5 := ((HS.out.grown b5).sns (sq_is A k)); rw [sq_len] at S5; have y0 := keep' b5 (blk_cell (o := 0) HC.out rfl); have y1 := keep' b5 (blk_cell (o := 1) HC.out rfl); have y2 := keep' b5 (blk_cell (o := 2) HC.out rfl); have y3 := keep' b5 (blk_cell (o := 3) HC.out rfl); have y4 := keep' b5 (blk_cell (o := 4) HC.out rfl); have y5 := keep' b5 (blk_cell (o := 5) HC.out rfl); have y6 := keep' b5 (blk_cell (o := 6) HC.out rfl))
          | (go_at_call 12; refine (HPs.out _ S5).mono ?_; rintro e w6 ⟨rfl, b6⟩))
        go_ret
        refine ⟨?_, grow (grow HB.out b5) b6⟩
        rw [HSE.out]
        cases σ <;> rfl
    · have h1' : ¬ (k : Int) < (N : Int) := by omega
      obtain ⟨r, hr⟩ := Pick.some k (fun i => (A i).cut.may 1000) (fun i => (A i).cut.lv)
      have HPs : Hid (∀ W, SnsAt W (some ⟨b, 0, none⟩) k (fun i => (A i).cut) → Calls Try.prog 12 #[.agg #[.int .i64 0, .int .i64 0, .int .i64 0, .int .i64 0, .int .i64 0, .int .i64 1000, .int .i64 0], .slice (some ⟨b, 0, none⟩) k cap2] W fun e w' => e = .returned (.int .i64 r) ∧ Below W.heap.size W w') := fun W h => choose_any 0 0 0 0 0 1000 0 (by unfold Fit; omega) (some ⟨b, 0, none⟩) k cap2 (by omega) (fun i => (A i).cut) (fun i hi => (Sn.cut_small (HA.out i (by omega))).1) hr W h
      obtain ⟨er, hE⟩ : ∃ e, decide (0 ≤ r) = e := ⟨_, rfl⟩
      have hrs : (er == σ) = true := by
        subst hE
        rcases hr with ⟨rfl, h⟩ | ⟨i, hi, rfl, h, -⟩
        · have : σ = false := by
            cases σ
            · rfl
            · obtain ⟨i, hi, e⟩ := HX.out.1 rfl
              have h' : (A i).cut.may 1000 = false := h i hi
              rw [h'] at e; cases e
          rw [this]; rfl
        · have : σ = true := HX.out.2 ⟨i, hi, h⟩
          rw [this]; simp
      have hse : er = σ := by simpa using hrs
      have HSE : Hid (er = σ) := hse
      clear hrs hse hr
      go_wp2_with (first
        | (go_at_call 9; refine (awake12_any _).mono ?_; rintro e w5 ⟨rfl, b5⟩; have S5 := ((HS.out.grown b5).sns (sq_is A k)); rw [sq_len] at S5; have y0 := keep' b5 (blk_cell (o := 0) HC.out rfl); have y1 := keep' b5 (blk_cell (o := 1) HC.out rfl); have y2 := keep' b5 (blk_cell (o := 2) HC.out rfl); have y3 := keep' b5 (blk_cell (o := 3) HC.out rfl); have y4 := keep' b5 (blk_cell (o := 4) HC.out rfl); have y5 := keep' b5 (blk_cell (o := 5) HC.out rfl); have y6 := keep' b5 (blk_cell (o := 6) HC.out rfl))
        | (go_at_call 12; refine (HPs.out _ S5).mono ?_; rintro e w6 ⟨rfl, b6⟩))
      go_ret
      refine ⟨?_, grow (grow HB.out b5) b6⟩
      rw [HSE.out]
      cases σ <;> rfl

theorem policyDense_any (all : Bool) (ao : Option Addr) (N cap : Nat) (A : Nat → Sn) (hA : ∀ i, i < N → SnFit (A i)) (w : World) (hr : SnsAt w ao N A) :
    Calls Try.prog 5 #[.slice ao N cap, .bool all] w fun e w' => e = .returned (.bool true) ∧ Below w.heap.size w w' := by
  cases all
  · exact policyDense_false ao N cap A hA w hr
  · exact policyDense_true ao N cap A hA w hr

end Go.Proofs.Ytlefbdbafmmoiaa
