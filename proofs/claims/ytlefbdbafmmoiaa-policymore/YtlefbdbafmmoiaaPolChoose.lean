/- Which chunk is chosen: of those that may be evacuated the one of which the fewest words live, the first of several. No condition but that numbers are numbers. -/
import Derived.Test.YtlefbdbafmmoiaaPolRow
import Derived.Deep.LoopGhost
namespace Go.Proofs.Ytlefbdbafmmoiaa
open Go.RowKit

set_option maxRecDepth 20000 in
set_option maxHeartbeats 4000000 in
theorem choose_any (c0 c1 c2 c3 c4 sp c6 : Int) (hp : Fit sp) (ao : Option Addr) (n cap : Nat) (hn : n ≤ 9223372036854775807) (A : Nat → Sn) (hA : ∀ i, i < n → SnFit (A i)) {r : Int} (hr : Pick n (fun i => (A i).may sp) (fun i => (A i).lv) r) (w : World) (h : SnsAt w ao n A) :
    Calls Try.prog 12 #[.agg #[.int .i64 c0, .int .i64 c1, .int .i64 c2, .int .i64 c3, .int .i64 c4, .int .i64 sp, .int .i64 c6], .slice ao n cap] w fun e w' => e = .returned (.int .i64 r) ∧ Below w.heap.size w w' := by
  have HA : Hid (∀ i, i < n → SnFit (A i)) := hA
  have HR : Hid (Pick n (fun i => (A i).may sp) (fun i => (A i).lv) r) := hr
  have HN : Hid (n ≤ 9223372036854775807) := hn
  have HS : Hid (SnsAt (w.alloc (.cells #[.int .i64 c0, .int .i64 c1, .int .i64 c2, .int .i64 c3, .int .i64 c4, .int .i64 sp, .int .i64 c6] 30)) ao n A) := h.grown (grow_alloc (Below.refl _ _) _)
  clear hA hr h hn
  go_enter Try.func12, Try.ntmps12
  go_wp2
  go_step3
  go_wp2
  go_step3
  go_wp2_with fail
  obtain ⟨B, hB⟩ : ∃ B, w.heap.size = B := ⟨_, rfl⟩
  refine wp_over (fun W => Hid (SnsAt W ao n A) ∧ Below w.heap.size w W ∧ W.heap[w.heap.size]? = some (.cells #[.int .i64 c0, .int .i64 c1, .int .i64 c2, .int .i64 c3, .int .i64 c4, .int .i64 sp, .int .i64 c6] 30 (0, 0))) ⟨HS, grow_alloc (Below.refl _ _) _, Go.Deep.blk_alloc_new _ _⟩ ?_
  intro W1 ⟨HS1, hB1, hx⟩
  rw [hB] at hB1 hx ⊢
  clear HS
  have y0 := blk_cell (o := 0) hx rfl
  have y1 := blk_cell (o := 1) hx rfl
  have y2 := blk_cell (o := 2) hx rfl
  have y3 := blk_cell (o := 3) hx rfl
  have y4 := blk_cell (o := 4) hx rfl
  have y5 := blk_cell (o := 5) hx rfl
  have y6 := blk_cell (o := 6) hx rfl
  have HB : Hid (w.heap.size = B ∧ Below B w W1) := ⟨hB, hB1⟩
  clear hB hB1 hx
  go_loopg [5] n (fun g s5 wx => ∃ (i : Nat), i + g = n ∧ s5 = .int .i64 i ∧ Hid (Seek n i (fun i => (A i).may sp) (fun i => (A i).lv)) ∧ Grown W1 wx)
  case atStart => exact ⟨0, by omega, rfl, Seek.zero _ _ _, Grown.refl _⟩
  case round =>
    obtain ⟨i, hig, rfl, HI, hg1⟩ := hrel
    have x0 := keep' hg1 y0
    have x1 := keep' hg1 y1
    have x2 := keep' hg1 y2
    have x3 := keep' hg1 y3
    have x4 := keep' hg1 y4
    have x5 := keep' hg1 y5
    have x6 := keep' hg1 y6
    cases gk with
    | zero =>
      have hin : ¬ ((i : Int) < (n : Int)) := by omega
      obtain rfl : i = n := by omega
      have HP : Hid (Pick i (fun i => (A i).may sp) (fun i => (A i).lv) (-1)) := Seek.out HI.out
      go_wp2
      try rw [Exit.noGoto_ret]
      go_ret
      obtain ⟨e1, e2⟩ := HB.out
      rw [e1, HR.out.same HP.out]
      exact ⟨rfl, e2.trans (Below.mono hg1 (by rw [← e1]; exact e2.size))⟩
    | succ g =>
      have hin : (i : Int) < (n : Int) := by omega
      have hin' : i < n := by omega
      obtain ⟨b, off, rfl, t0, t1, t2, t3, t4, t5⟩ := HS1.out i hin'
      have k0 := keep' hg1 t0
      have k1 := keep' hg1 t1
      have k2 := keep' hg1 t2
      have k3 := keep' hg1 t3
      have k4 := keep' hg1 t4
      have k5 := keep' hg1 t5
      have Mi := fun w => may_any c0 c1 c2 c3 c4 sp c6 hp (A i) (HA.out i hin') w
      cases hm : (A i).may sp
      · rw [hm] at Mi
        have HM : Hid ((A i).may sp = false) := hm
        clear hm
        go_wp2_with fail
        refine wp_region_rely Grown [.val (.agg #[.int .i64 c0, .int .i64 c1, .int .i64 c2, .int .i64 c3, .int .i64 c4, .int .i64 sp, .int .i64 c6]), .val (.slice (some ⟨b, off, none⟩) n cap), .val (.int .i64 i), .val (.pointer (some ⟨b, off + i * 6, none⟩)), .val (.agg #[.int .i64 (A i).st, .int .i64 (A i).cl, .int .i64 (A i).us, .int .i64 (A i).sm, .int .i64 (A i).lv, .bool (A i).op]), .val (.bool false), .val (.bool true)] (by kernel_rfl) Grown.refl Grown.trans (by kernel_rfl) (by kernel_rfl) (by kernel_rfl) ?_
        simp only [relyAll, Act.put, List.setIfInBounds_toArray, List.set_cons_zero, List.set_cons_succ]
        refine ⟨?_, ?_, ?_, ?_, ?_, ?_, ?_, ?_⟩
        · intro w' hg _
          refine Or.inl ⟨rfl, ?_⟩
          have z0 := keep' hg x0
          have z1 := keep' hg x1
          have z2 := keep' hg x2
          have z3 := keep' hg x3
          have z4 := keep' hg x4
          have z5 := keep' hg x5
          have z6 := keep' hg x6
          go_simp
          exact ⟨Grown.refl _, rfl⟩
        · intro w' hg _
          refine Or.inl ⟨rfl, ?_⟩
          go_simp
          exact ⟨Grown.refl _, rfl⟩
        · intro w' hg _
          refine Or.inl ⟨rfl, ?_⟩
          go_simp
          exact ⟨Grown.refl _, rfl⟩
        · intro w' hg _
          refine Or.inl ⟨rfl, ?_⟩
          go_simp
          exact ⟨Grown.refl _, rfl⟩
        · intro w' hg _
          refine Or.inl ⟨rfl, ?_⟩
          have z0 := keep' hg k0
          have z1 := keep' hg k1
          have z2 := keep' hg k2
          have z3 := keep' hg k3
          have z4 := keep' hg k4
          have z5 := keep' hg k5
          go_simp
          exact ⟨Grown.refl _, rfl⟩
        · intro w' hg _
          refine Or.inl ⟨rfl, ?_⟩
          go_simp
          refine (Mi _).mono ?_
          rintro e w'' ⟨rfl, b9⟩
          exact ⟨_, rfl, b9, rfl⟩
        · intro w' hg _
          refine Or.inl ⟨rfl, ?_⟩
          go_simp
          exact ⟨Grown.refl _, rfl⟩
        intro w2 hg _

        have hg2 : Grown W1 w2 := Grown.trans _ _ _ hg1 (Grown.trans _ _ _ (Grown.drew _) hg)
        have hov : wrap64 ((i : Int) + 1) = ((i + 1 : Nat) : Int) := by have := HN.out; unfold wrap64; omega
        have HO : Hid (wrap64 ((i : Int) + 1) = ((i + 1 : Nat) : Int)) := hov
        clear hov
        go_wp2
        go_roundg g
        case measure => omega
        case rel => exact ⟨i + 1, by omega, by first | rfl | (exact congrArg (Value.int .i64) HO.out) | simp, Seek.over HI.out HM.out, hg2⟩
      · rw [hm] at Mi
        have HM : Hid ((A i).may sp = true) := hm
        clear hm
        go_wp2_with fail
        refine wp_region_rely Grown [.val (.agg #[.int .i64 c0, .int .i64 c1, .int .i64 c2, .int .i64 c3, .int .i64 c4, .int .i64 sp, .int .i64 c6]), .val (.slice (some ⟨b, off, none⟩) n cap), .val (.int .i64 i), .val (.pointer (some ⟨b, off + i * 6, none⟩)), .val (.agg #[.int .i64 (A i).st, .int .i64 (A i).cl, .int .i64 (A i).us, .int .i64 (A i).sm, .int .i64 (A i).lv, .bool (A i).op]), .val (.bool true), .val (.bool false)] (by kernel_rfl) Grown.refl Grown.trans (by kernel_rfl) (by kernel_rfl) (by kernel_rfl) ?_
        simp only [relyAll, Act.put, List.setIfInBounds_toArray, List.set_cons_zero, List.set_cons_succ]
        refine ⟨?_, ?_, ?_, ?_, ?_, ?_, ?_, ?_⟩
        · intro w' hg _
          refine Or.inl ⟨rfl, ?_⟩
          have z0 := keep' hg x0
          have z1 := keep' hg x1
          have z2 := keep' hg x2
          have z3 := keep' hg x3
          have z4 := keep' hg x4
          have z5 := keep' hg x5
          have z6 := keep' hg x6
          go_simp
          exact ⟨Grown.refl _, rfl⟩
        · intro w' hg _
          refine Or.inl ⟨rfl, ?_⟩
          go_simp
          exact ⟨Grown.refl _, rfl⟩
        · intro w' hg _
          refine Or.inl ⟨rfl, ?_⟩
          go_simp
          exact ⟨Grown.refl _, rfl⟩
        · intro w' hg _
          refine Or.inl ⟨rfl, ?_⟩
          go_simp
          exact ⟨Grown.refl _, rfl⟩
        · intro w' hg _
          refine Or.inl ⟨rfl, ?_⟩
          have z0 := keep' hg k0
          have z1 := keep' hg k1
          have z2 := keep' hg k2
          have z3 := keep' hg k3
          have z4 := keep' hg k4
          have z5 := keep' hg k5
          go_simp
          exact ⟨Grown.refl _, rfl⟩
        · intro w' hg _
          refine Or.inl ⟨rfl, ?_⟩
          go_simp
          refine (Mi _).mono ?_
          rintro e w'' ⟨rfl, b9⟩
          exact ⟨_, rfl, b9, rfl⟩
        · intro w' hg _
          refine Or.inl ⟨rfl, ?_⟩
          go_simp
          exact ⟨Grown.refl _, rfl⟩
        intro w2 hg _

        have hg2 : Grown W1 w2 := Grown.trans _ _ _ hg1 (Grown.trans _ _ _ (Grown.drew _) hg)
        have hov : wrap64 ((i : Int) + 1) = ((i + 1 : Nat) : Int) := by have := HN.out; unfold wrap64; omega
        have HO : Hid (wrap64 ((i : Int) + 1) = ((i + 1 : Nat) : Int)) := hov
        clear hov x0 x1 x2 x3 x4 x5 x6 k0 k1 k2 k3 k4 k5 hg
        go_wp2
        go_loopg [5, 6] g (fun g2 s5 s6 wy => ∃ (k : Nat), i < k ∧ k + g2 = n ∧ s5 = .int .i64 i ∧ s6 = .int .i64 k ∧ Hid (∀ j, i < j → j < k → (A j).may sp = true → (A i).lv ≤ (A j).lv) ∧ Grown W1 wy)
        case atStart => exact ⟨i + 1, by omega, by omega, rfl, by first | rfl | (exact congrArg (Value.int .i64) HO.out) | simp, fun j h1 h2 _ => by omega, hg2⟩
        case round =>
          clear hg2
          obtain ⟨k, hik, hkg, rfl, rfl, HK, hg3⟩ := hrel
          have x0 := keep' hg3 y0
          have x1 := keep' hg3 y1
          have x2 := keep' hg3 y2
          have x3 := keep' hg3 y3
          have x4 := keep' hg3 y4
          have x5 := keep' hg3 y5
          have x6 := keep' hg3 y6
          cases gk with
          | zero =>
            have hkn : ¬ ((k : Int) < (n : Int)) := by omega
            have HE : Hid (k = n) := by unfold Hid; omega
            go_wp2
            try rw [Exit.noGoto_ret]
            go_ret
            obtain ⟨e1, e2⟩ := HB.out
            have HP : Pick n (fun i => (A i).may sp) (fun i => (A i).lv) i := Seek.done HI.out hin' HM.out (fun j h1 h2 h3 => HK.out j h1 (by rw [HE.out]; exact h2) h3)
            rw [e1, HR.out.same HP]
            exact ⟨rfl, e2.trans (Below.mono hg3 (by rw [← e1]; exact e2.size))⟩
          | succ g2 =>
            have hkn : (k : Int) < (n : Int) := by omega
            have hkn' : k < n := by omega
            obtain ⟨b', off', eq, s0, s1, s2, s3, s4, s5⟩ := HS1.out k hkn'
            cases eq
            have k4 := keep' hg3 t4
            have q0 := keep' hg3 s0
            have q1 := keep' hg3 s1
            have q2 := keep' hg3 s2
            have q3 := keep' hg3 s3
            have q4 := keep' hg3 s4
            have q5 := keep' hg3 s5
            have hov : wrap64 ((k : Int) + 1) = ((k + 1 : Nat) : Int) := by have := HN.out; unfold wrap64; omega
            have HOk : Hid (wrap64 ((k : Int) + 1) = ((k + 1 : Nat) : Int)) := hov
            have Mk := fun w => may_any c0 c1 c2 c3 c4 sp c6 hp (A k) (HA.out k hkn') w
            clear hov
            cases hm : (A k).may sp
            · rw [hm] at Mk
              have HMk : Hid ((A k).may sp = false) := hm
              clear hm
              go_wp2_with fail
              refine wp_region_rely Grown [.val (.agg #[.int .i64 c0, .int .i64 c1, .int .i64 c2, .int .i64 c3, .int .i64 c4, .int .i64 sp, .int .i64 c6]), .val (.slice (some ⟨b, off, none⟩) n cap), .val (.int .i64 k), .val (.pointer (some ⟨b, off + k * 6, none⟩)), .val (.agg #[.int .i64 (A k).st, .int .i64 (A k).cl, .int .i64 (A k).us, .int .i64 (A k).sm, .int .i64 (A k).lv, .bool (A k).op]), .val (.bool false), .val (.bool false), .val undef, .val undef, .val undef, .val undef, .val undef, .val undef, .val undef, .val undef, .val undef, .val undef, .val undef, .val (.bool false)] (by kernel_rfl) Grown.refl Grown.trans (by kernel_rfl) (by kernel_rfl) (by kernel_rfl) ?_
              simp only [relyAll, Act.put, List.setIfInBounds_toArray, List.set_cons_zero, List.set_cons_succ]
              refine ⟨?_, ?_, ?_, ?_, ?_, ?_, ?_, ?_, ?_, ?_, ?_, ?_, ?_, ?_, ?_, ?_, ?_, ?_, ?_, ?_⟩
              · intro w' hg _
                refine Or.inl ⟨rfl, ?_⟩
                have z0 := keep' hg x0
                have z1 := keep' hg x1
                have z2 := keep' hg x2
                have z3 := keep' hg x3
                have z4 := keep' hg x4
                have z5 := keep' hg x5
                have z6 := keep' hg x6
                go_simp
                exact ⟨Grown.refl _, rfl⟩
              · intro w' hg _
                refine Or.inl ⟨rfl, ?_⟩
                go_simp
                exact ⟨Grown.refl _, rfl⟩
              · intro w' hg _
                refine Or.inl ⟨rfl, ?_⟩
                go_simp
                exact ⟨Grown.refl _, rfl⟩
              · intro w' hg _
                refine Or.inl ⟨rfl, ?_⟩
                go_simp
                exact ⟨Grown.refl _, rfl⟩
              · intro w' hg _
                refine Or.inl ⟨rfl, ?_⟩
                have z0 := keep' hg q0
                have z1 := keep' hg q1
                have z2 := keep' hg q2
                have z3 := keep' hg q3
                have z4 := keep' hg q4
                have z5 := keep' hg q5
                go_simp
                exact ⟨Grown.refl _, rfl⟩
              · intro w' hg _
                refine Or.inl ⟨rfl, ?_⟩
                go_simp
                refine (Mk _).mono ?_
                rintro e w'' ⟨rfl, b9⟩
                exact ⟨_, rfl, b9, rfl⟩
              · intro w' hg _
                refine Or.inl ⟨rfl, ?_⟩
                go_simp
                exact ⟨Grown.refl _, rfl⟩
              · intro w' hg _
                exact Or.inr ⟨rfl, rfl⟩
              · intro w' hg _
                exact Or.inr ⟨rfl, rfl⟩
              · intro w' hg _
                exact Or.inr ⟨rfl, rfl⟩
              · intro w' hg _
                exact Or.inr ⟨rfl, rfl⟩
              · intro w' hg _
                exact Or.inr ⟨rfl, rfl⟩
              · intro w' hg _
                exact Or.inr ⟨rfl, rfl⟩
              · intro w' hg _
                exact Or.inr ⟨rfl, rfl⟩
              · intro w' hg _
                exact Or.inr ⟨rfl, rfl⟩
              · intro w' hg _
                exact Or.inr ⟨rfl, rfl⟩
              · intro w' hg _
                exact Or.inr ⟨rfl, rfl⟩
              · intro w' hg _
                exact Or.inr ⟨rfl, rfl⟩
              · intro w' hg _
                refine Or.inl ⟨rfl, ?_⟩
                go_simp
                exact ⟨Grown.refl _, rfl⟩
              intro w2 hg _

              have hg4 : Grown W1 w2 := Grown.trans _ _ _ hg3 (Grown.trans _ _ _ (Grown.drew _) hg)
              go_wp2
              go_roundg g2
              case measure => omega
              case rel => exact ⟨k + 1, by omega, by omega, rfl, by first | rfl | (exact congrArg (Value.int .i64) HOk.out) | simp, fun j h1 h2 h3 => by
                by_cases e : j = k
                · subst e; rw [HMk.out] at h3; cases h3
                · exact HK.out j h1 (by omega) h3, hg4⟩
            · rw [hm] at Mk
              have HMk : Hid ((A k).may sp = true) := hm
              clear hm
              by_cases hl : (A k).lv < (A i).lv
              · have hd : decide ((A k).lv < (A i).lv) = true := decide_eq_true hl
                go_wp2_with fail
                refine wp_region_rely Grown [.val (.agg #[.int .i64 c0, .int .i64 c1, .int .i64 c2, .int .i64 c3, .int .i64 c4, .int .i64 sp, .int .i64 c6]), .val (.slice (some ⟨b, off, none⟩) n cap), .val (.int .i64 k), .val (.pointer (some ⟨b, off + k * 6, none⟩)), .val (.agg #[.int .i64 (A k).st, .int .i64 (A k).cl, .int .i64 (A k).us, .int .i64 (A k).sm, .int .i64 (A k).lv, .bool (A k).op]), .val (.bool true), .val (.bool true), .val (.slice (some ⟨b, off, none⟩) n cap), .val (.int .i64 k), .val (.pointer (some ⟨b, off + k * 6, none⟩)), .val (.pointer (some ⟨b, off + k * 6 + 4, none⟩)), .val (.int .i64 (A k).lv), .val (.slice (some ⟨b, off, none⟩) n cap), .val (.int .i64 i), .val (.pointer (some ⟨b, off + i * 6, none⟩)), .val (.pointer (some ⟨b, off + i * 6 + 4, none⟩)), .val (.int .i64 (A i).lv), .val (.bool true), .val (.bool true)] (by kernel_rfl) Grown.refl Grown.trans (by kernel_rfl) (by kernel_rfl) (by kernel_rfl) ?_
                simp only [relyAll, Act.put, List.setIfInBounds_toArray, List.set_cons_zero, List.set_cons_succ]
                refine ⟨?_, ?_, ?_, ?_, ?_, ?_, ?_, ?_, ?_, ?_, ?_, ?_, ?_, ?_, ?_, ?_, ?_, ?_, ?_, ?_⟩
                · intro w' hg _
                  refine Or.inl ⟨rfl, ?_⟩
                  have z0 := keep' hg x0
                  have z1 := keep' hg x1
                  have z2 := keep' hg x2
                  have z3 := keep' hg x3
                  have z4 := keep' hg x4
                  have z5 := keep' hg x5
                  have z6 := keep' hg x6
                  go_simp
                  exact ⟨Grown.refl _, rfl⟩
                · intro w' hg _
                  refine Or.inl ⟨rfl, ?_⟩
                  go_simp
                  exact ⟨Grown.refl _, rfl⟩
                · intro w' hg _
                  refine Or.inl ⟨rfl, ?_⟩
                  go_simp
                  exact ⟨Grown.refl _, rfl⟩
                · intro w' hg _
                  refine Or.inl ⟨rfl, ?_⟩
                  go_simp
                  exact ⟨Grown.refl _, rfl⟩
                · intro w' hg _
                  refine Or.inl ⟨rfl, ?_⟩
                  have z0 := keep' hg q0
                  have z1 := keep' hg q1
                  have z2 := keep' hg q2
                  have z3 := keep' hg q3
                  have z4 := keep' hg q4
                  have z5 := keep' hg q5
                  go_simp
                  exact ⟨Grown.refl _, rfl⟩
                · intro w' hg _
                  refine Or.inl ⟨rfl, ?_⟩
                  go_simp
                  refine (Mk _).mono ?_
                  rintro e w'' ⟨rfl, b9⟩
                  exact ⟨_, rfl, b9, rfl⟩
                · intro w' hg _
                  refine Or.inl ⟨rfl, ?_⟩
                  go_simp
                  exact ⟨Grown.refl _, rfl⟩
                · intro w' hg _
                  refine Or.inl ⟨rfl, ?_⟩
                  go_simp
                  exact ⟨Grown.refl _, rfl⟩
                · intro w' hg _
                  refine Or.inl ⟨rfl, ?_⟩
                  go_simp
                  exact ⟨Grown.refl _, rfl⟩
                · intro w' hg _
                  refine Or.inl ⟨rfl, ?_⟩
                  go_simp
                  exact ⟨Grown.refl _, rfl⟩
                · intro w' hg _
                  refine Or.inl ⟨rfl, ?_⟩
                  go_simp
                  exact ⟨Grown.refl _, rfl⟩
                · intro w' hg _
                  refine Or.inl ⟨rfl, ?_⟩
                  have z0 := keep' hg q4
                  go_simp
                  exact ⟨Grown.refl _, rfl⟩
                · intro w' hg _
                  refine Or.inl ⟨rfl, ?_⟩
                  go_simp
                  exact ⟨Grown.refl _, rfl⟩
                · intro w' hg _
                  refine Or.inl ⟨rfl, ?_⟩
                  go_simp
                  exact ⟨Grown.refl _, rfl⟩
                · intro w' hg _
                  refine Or.inl ⟨rfl, ?_⟩
                  go_simp
                  exact ⟨Grown.refl _, rfl⟩
                · intro w' hg _
                  refine Or.inl ⟨rfl, ?_⟩
                  go_simp
                  exact ⟨Grown.refl _, rfl⟩
                · intro w' hg _
                  refine Or.inl ⟨rfl, ?_⟩
                  have z0 := keep' hg k4
                  go_simp
                  exact ⟨Grown.refl _, rfl⟩
                · intro w' hg _
                  refine Or.inl ⟨rfl, ?_⟩
                  go_simp
                  exact ⟨Grown.refl _, rfl⟩
                · intro w' hg _
                  refine Or.inl ⟨rfl, ?_⟩
                  go_simp
                  exact ⟨Grown.refl _, rfl⟩
                intro w2 hg _

                have hg4 : Grown W1 w2 := Grown.trans _ _ _ hg3 (Grown.trans _ _ _ (Grown.drew _) hg)
                go_wp2
                go_roundg (n - k)
                case measure => omega
                case rel => exact ⟨k, by omega, by first | rfl | simp, Seek.jump HI.out HK.out hkn' HMk.out hl, hg4⟩
              · have hd : decide ((A k).lv < (A i).lv) = false := decide_eq_false hl
                go_wp2_with fail
                refine wp_region_rely Grown [.val (.agg #[.int .i64 c0, .int .i64 c1, .int .i64 c2, .int .i64 c3, .int .i64 c4, .int .i64 sp, .int .i64 c6]), .val (.slice (some ⟨b, off, none⟩) n cap), .val (.int .i64 k), .val (.pointer (some ⟨b, off + k * 6, none⟩)), .val (.agg #[.int .i64 (A k).st, .int .i64 (A k).cl, .int .i64 (A k).us, .int .i64 (A k).sm, .int .i64 (A k).lv, .bool (A k).op]), .val (.bool true), .val (.bool true), .val (.slice (some ⟨b, off, none⟩) n cap), .val (.int .i64 k), .val (.pointer (some ⟨b, off + k * 6, none⟩)), .val (.pointer (some ⟨b, off + k * 6 + 4, none⟩)), .val (.int .i64 (A k).lv), .val (.slice (some ⟨b, off, none⟩) n cap), .val (.int .i64 i), .val (.pointer (some ⟨b, off + i * 6, none⟩)), .val (.pointer (some ⟨b, off + i * 6 + 4, none⟩)), .val (.int .i64 (A i).lv), .val (.bool false), .val (.bool false)] (by kernel_rfl) Grown.refl Grown.trans (by kernel_rfl) (by kernel_rfl) (by kernel_rfl) ?_
                simp only [relyAll, Act.put, List.setIfInBounds_toArray, List.set_cons_zero, List.set_cons_succ]
                refine ⟨?_, ?_, ?_, ?_, ?_, ?_, ?_, ?_, ?_, ?_, ?_, ?_, ?_, ?_, ?_, ?_, ?_, ?_, ?_, ?_⟩
                · intro w' hg _
                  refine Or.inl ⟨rfl, ?_⟩
                  have z0 := keep' hg x0
                  have z1 := keep' hg x1
                  have z2 := keep' hg x2
                  have z3 := keep' hg x3
                  have z4 := keep' hg x4
                  have z5 := keep' hg x5
                  have z6 := keep' hg x6
                  go_simp
                  exact ⟨Grown.refl _, rfl⟩
                · intro w' hg _
                  refine Or.inl ⟨rfl, ?_⟩
                  go_simp
                  exact ⟨Grown.refl _, rfl⟩
                · intro w' hg _
                  refine Or.inl ⟨rfl, ?_⟩
                  go_simp
                  exact ⟨Grown.refl _, rfl⟩
                · intro w' hg _
                  refine Or.inl ⟨rfl, ?_⟩
                  go_simp
                  exact ⟨Grown.refl _, rfl⟩
                · intro w' hg _
                  refine Or.inl ⟨rfl, ?_⟩
                  have z0 := keep' hg q0
                  have z1 := keep' hg q1
                  have z2 := keep' hg q2
                  have z3 := keep' hg q3
                  have z4 := keep' hg q4
                  have z5 := keep' hg q5
                  go_simp
                  exact ⟨Grown.refl _, rfl⟩
                · intro w' hg _
                  refine Or.inl ⟨rfl, ?_⟩
                  go_simp
                  refine (Mk _).mono ?_
                  rintro e w'' ⟨rfl, b9⟩
                  exact ⟨_, rfl, b9, rfl⟩
                · intro w' hg _
                  refine Or.inl ⟨rfl, ?_⟩
                  go_simp
                  exact ⟨Grown.refl _, rfl⟩
                · intro w' hg _
                  refine Or.inl ⟨rfl, ?_⟩
                  go_simp
                  exact ⟨Grown.refl _, rfl⟩
                · intro w' hg _
                  refine Or.inl ⟨rfl, ?_⟩
                  go_simp
                  exact ⟨Grown.refl _, rfl⟩
                · intro w' hg _
                  refine Or.inl ⟨rfl, ?_⟩
                  go_simp
                  exact ⟨Grown.refl _, rfl⟩
                · intro w' hg _
                  refine Or.inl ⟨rfl, ?_⟩
                  go_simp
                  exact ⟨Grown.refl _, rfl⟩
                · intro w' hg _
                  refine Or.inl ⟨rfl, ?_⟩
                  have z0 := keep' hg q4
                  go_simp
                  exact ⟨Grown.refl _, rfl⟩
                · intro w' hg _
                  refine Or.inl ⟨rfl, ?_⟩
                  go_simp
                  exact ⟨Grown.refl _, rfl⟩
                · intro w' hg _
                  refine Or.inl ⟨rfl, ?_⟩
                  go_simp
                  exact ⟨Grown.refl _, rfl⟩
                · intro w' hg _
                  refine Or.inl ⟨rfl, ?_⟩
                  go_simp
                  exact ⟨Grown.refl _, rfl⟩
                · intro w' hg _
                  refine Or.inl ⟨rfl, ?_⟩
                  go_simp
                  exact ⟨Grown.refl _, rfl⟩
                · intro w' hg _
                  refine Or.inl ⟨rfl, ?_⟩
                  have z0 := keep' hg k4
                  go_simp
                  exact ⟨Grown.refl _, rfl⟩
                · intro w' hg _
                  refine Or.inl ⟨rfl, ?_⟩
                  go_simp
                  exact ⟨Grown.refl _, rfl⟩
                · intro w' hg _
                  refine Or.inl ⟨rfl, ?_⟩
                  go_simp
                  exact ⟨Grown.refl _, rfl⟩
                intro w2 hg _

                have hg4 : Grown W1 w2 := Grown.trans _ _ _ hg3 (Grown.trans _ _ _ (Grown.drew _) hg)
                go_wp2
                go_roundg g2
                case measure => omega
                case rel => exact ⟨k + 1, by omega, by omega, rfl, by first | rfl | (exact congrArg (Value.int .i64) HOk.out) | simp, fun j h1 h2 h3 => by
                  by_cases e : j = k
                  · subst e; omega
                  · exact HK.out j h1 (by omega) h3, hg4⟩

end Go.Proofs.Ytlefbdbafmmoiaa
