/- EpochGoes answers true for every epoch and every slice of pins, and leaves what was in memory. -/
import Derived.Test.YtameeiabnkblmaaEpLaw
namespace Go.Proofs.Ytameeiabnkblmaa
open Go.RowKit

/-- the first pins let the epoch go on -/
def wantB (P : Nat → Int) (N : Int) (j : Nat) : Bool := decide (∀ q, q < j → stopB (P q) N = false)

theorem wantB_succ (P : Nat → Int) (N : Int) (j : Nat) : wantB P N (j + 1) = (wantB P N j && !stopB (P j) N) := by
  unfold wantB
  by_cases h : ∀ q, q < j → stopB (P q) N = false
  · rw [decide_eq_true h]
    cases hs : stopB (P j) N
    · refine decide_eq_true fun q hq => ?_
      by_cases e : q = j
      · rw [e]; exact hs
      · exact h q (by omega)
    · refine decide_eq_false fun hh => ?_
      rw [hh j (by omega)] at hs; cases hs
  · rw [decide_eq_false h, decide_eq_false (fun hh => h fun q hq => hh q (by omega))]
    rfl

/-- the memory, so many pins being laid -/
structure Laid8 (P : Nat → Int) (N : Int) (j : Nat) (s : Mm) : Prop where
  n : s.n = 39
  e : s.wd 0 = N
  p : ∀ q, q < 8 → s.wd (6 + q) = if q < j then P q else 0

theorem Laid8.next {P : Nat → Int} {N : Int} {j : Nat} {s : Mm} (h : Laid8 P N j s) (hj : j < 8) : Laid8 P N (j + 1) (s.step (6 + j) (P j)) := by
  refine ⟨h.n, ?_, fun q hq => ?_⟩
  · show upd s.wd (6 + j) (P j) 0 = N
    rw [upd_other _ _ _ _ (by omega)]; exact h.e
  · show upd s.wd (6 + j) (P j) (6 + q) = _
    by_cases e : q = j
    · subst e; rw [upd_same, if_pos (by omega)]
    · rw [upd_other _ _ _ _ (by omega), h.p q hq]
      by_cases h2 : q < j
      · rw [if_pos h2, if_pos (by omega)]
      · rw [if_neg h2, if_neg (by omega)]

theorem stop0 (N : Int) : stopB 0 N = false := rfl

theorem Laid8.goes {P : Nat → Int} {N : Int} {j : Nat} {s : Mm} (h : Laid8 P N j s) (hj : j ≤ 8) : goesB 8 s.wd = wantB P N j := by
  unfold goesB wantB
  rw [h.e]
  refine decide_eq_decide.2 ⟨fun hh q hq => ?_, fun hh q hq => ?_⟩
  · have := hh q (by omega)
    rwa [h.p q (by omega), if_pos hq] at this
  · rw [h.p q hq]
    by_cases e : q < j
    · rw [if_pos e]; exact hh q e
    · rw [if_neg e]; exact stop0 N

set_option maxRecDepth 20000 in
set_option maxHeartbeats 4000000 in
theorem epochGoes_any (a : Int) (ha : FitW a) (ao : Option Addr) (n cap : Nat) (z : Nat → Int) (w : World) (hr : IntsAt .u64 w ao n z) (hz : ∀ i, i < n → FitW (z i)) :
    Calls Try.prog 3 #[.int .u64 a, .slice ao n cap] w fun e w' => e = .returned (.bool true) ∧ Below w.heap.size w w' := by
  have HR : Hid (IntsAt .u64 w ao n z) := hr
  have HZ : Hid (∀ i, i < n → FitW (z i)) := hz
  obtain ⟨N, hN, N0, N1⟩ := low16 a ha
  clear hr hz ha
  have hg : Good 8 1 1 20 100 600 3 := by constructor <;> decide
  have hN0 : (Mm.laid 8 1 (arenaLen 8 1 1 20) 1).n = arenaLen 8 1 1 20 := Mm.laid_n _ _ _ _
  have hZ0 : ∀ a, a ≠ 1 → (a < 6 + 8 ∨ 6 + 8 + 1 * 2 ≤ a) → (Mm.laid 8 1 (arenaLen 8 1 1 20) 1).wd a = 0 := fun a h1 h2 => laid_else _ _ _ _ _ h1 h2
  have HN0 : Hid (∀ S0, Mm.laid 8 1 (arenaLen 8 1 1 20) 1 = S0 → S0.n = 39) := fun S0 h => by rw [← h, hN0]; rfl
  generalize hS : Mm.laid 8 1 (arenaLen 8 1 1 20) 1 = S0 at hN0 hZ0
  have HS : Hid (Mm.laid 8 1 (arenaLen 8 1 1 20) 1 = S0) := hS
  have SN : Hid (S0.n = 39) := HN0.out S0 hS
  have SZ : Hid (∀ a, a ≠ 1 → (a < 6 + 8 ∨ 6 + 8 + 1 * 2 ≤ a) → S0.wd a = 0) := hZ0
  clear hN0 hZ0 hS HN0
  go_enter Try.func3, Try.ntmps3
  go_wp2_with (first
    | (go_at_call 8; refine (arena04_any hg _).mono ?_; rintro e w1 ⟨L, rfl, m1, b1, f1⟩; rw [HS.out] at m1; have g1 := Gd.new (t := 8) (n := 1) (k := 1) (m' := 20) m1 b1 f1)
    | (go_at_call 9; refine (awake13_any _).mono ?_; rintro e w2 ⟨rfl, b2⟩; have g2 := g1.grown b2))
  obtain ⟨E, hE⟩ : ∃ E, w1.heap.size = E := ⟨_, rfl⟩
  rw [hE] at g2
  try rw [hE]
  refine wp_over (fun W => Gd w W L E 8 1 1 20 0 S0) g2 ?_
  clear g1 g2 b1 b2 m1 f1
  rintro W G1
  refine wp_region_rely_tail Grown 4 [.val (.pointer (some ⟨E, 7, none⟩)), .val (.pointer (some ⟨L.p, 0, none⟩)), .val (.int .i64 0), .val (.int .u64 N)] (by kernel_rfl) Grown.refl Grown.trans (by decide) (by kernel_rfl) (by kernel_rfl) (by kernel_rfl) (by kernel_rfl) (by kernel_rfl) (by kernel_rfl) ?_
  simp only [List.take_succ_cons, List.take_zero, relyAll, Act.put, List.setIfInBounds_toArray, List.set_cons_zero, List.set_cons_succ]
  refine ⟨?_, ?_, ?_, ?_, ?_⟩
  · intro w' hg _
    refine Or.inl ⟨rfl, ?_⟩
    go_simp
    exact ⟨Grown.refl _, rfl⟩
  · intro w' hg _
    refine Or.inl ⟨rfl, ?_⟩
    have vv := (G1.drew.grown hg).v
    have y0 := vv.c0
    have y1 := vv.c1
    have y2 := vv.c2
    have y3 := vv.c3
    have y4 := vv.c4
    have y5 := vv.c5
    have y6 := vv.c6
    have y7 := vv.c7
    have y8 := vv.c8
    go_simp
    exact ⟨Grown.refl _, rfl⟩
  · intro w' hg _
    refine Or.inl ⟨rfl, ?_⟩
    go_simp
    refine (lepoch_any _).mono ?_
    rintro e w'' ⟨rfl, rfl⟩
    exact ⟨_, rfl, Grown.refl _, rfl⟩
  · intro w' hg _
    refine Or.inl ⟨rfl, ?_⟩
    go_simp
    exact ⟨Grown.refl _, rfl⟩
  intro w5 hg _
  have G5 := G1.drew.grown hg
  clear hg G1
  go_wp2_with (go_at_call 10; refine (store_in G5.mm 0 (by rw [SN.out]; decide) N).mono ?_; rintro e w6 ⟨rfl, m6, o6, -⟩; have G6 := G5.mem o6 m6)
  obtain ⟨P, hP⟩ : ∃ P : Nat → Int, P = fun q => bits .and .u64 (z q) 65535 := ⟨_, rfl⟩
  have L0 : Laid8 P N 0 (S0.step 0 N) := ⟨SN.out, show upd S0.wd 0 N 0 = N from upd_same _ _ _, fun q hq => by
    rw [if_neg (by omega)]
    show upd S0.wd 0 N (6 + q) = 0
    rw [upd_other _ _ _ _ (by omega)]; exact SZ.out _ (by omega) (by omega)⟩
  have A0 : Hid (Gd w w6 L E 8 1 1 20 0 (S0.step 0 N) ∧ Laid8 P N 0 (S0.step 0 N)) := ⟨G6, L0⟩
  have HP : Hid (P = fun q => bits .and .u64 (z q) 65535) := hP
  clear L0 G6 m6 o6 G5 hP
  go_loopw [8, 9] (fun x i wr => ∃ (j : Nat) (s' : Mm) (v : Bool), i = .int .i64 j ∧ j ≤ 8 ∧ j ≤ n ∧ (x = .bool v ∧ wantB P N j = v) ∧ Laid8 P N j s' ∧ Gd w wr L E 8 1 1 20 0 s') (fun _ i _ => 8 - (intOf i).toNat)
  case atStart => exact ⟨0, _, true, rfl, by omega, by omega, ⟨rfl, decide_eq_true fun q hq => absurd hq (by omega)⟩, A0.out.2, A0.out.1⟩
  case round =>
    clear A0
    obtain ⟨j, s1, x, rfl, hj8, hjn, ⟨rfl, hw⟩, hL, g⟩ := hrel
    have LH : Hid (Laid8 P N j s1) := hL
    have HW : Hid (wantB P N j = x) := hw
    have G : Hid (Gd w wr L E 8 1 1 20 0 s1) := g
    clear hw hL
    have y0 := g.v.c0
    have y1 := g.v.c1
    have y2 := g.v.c2
    have y3 := g.v.c3
    have y4 := g.v.c4
    have y5 := g.v.c5
    have y6 := g.v.c6
    have y7 := g.v.c7
    have y8 := g.v.c8
    by_cases hlt : j < n
    · by_cases hlt8 : j < 8
      · have hlt' : (j : Int) < (n : Int) := by omega
        have hlt8' : (j : Int) < 8 := by omega
        obtain ⟨zb, zo, rfl, hk⟩ := HR.out j hlt
        have hk1 := keep' g.b hk
        obtain ⟨p, hp, p0, p1⟩ := low16 (z j) (HZ.out j hlt)
        have hPj : P j = p := by rw [HP.out]; exact hp
        have W2 := wantB_succ P N j
        rw [HW.out, hPj] at W2
        have L2 := LH.out.next hlt8
        rw [hPj] at L2
        clear hPj hk g
        have hsum : sum64 N 1 = N + 1 := Int.emod_eq_of_lt (by omega) (by omega)
        have hst : stopB p N = (p != 0 && p != N + 1) := by unfold stopB; rw [hsum]
        rw [hst] at W2
        clear hst hsum
        have W2' : Hid (wantB P N (j + 1) = (x && !(p != 0 && p != N + 1))) := W2
        clear W2
        have G1 := G.out
        have hn6 : Hid (6 + j < s1.n) := by unfold Hid; rw [LH.out.n]; omega
        go_wp2
        refine wp_over (fun W => Gd w W L E 8 1 1 20 0 s1) G1 ?_
        clear G1 y0 y1 y2 y3 y4 y5 y6 y7 y8 hk1
        rintro W G1
        refine wp_region_rely_tail Grown 5 [.val (.pointer (some ⟨E, 7, none⟩)), .val (.pointer (some ⟨L.p, 0, none⟩)), .val (.int .i64 j), .val (.int .i64 ((6 + j : Nat) : Int)), .val (.int .u64 p)] (by kernel_rfl) Grown.refl Grown.trans (by decide) (by kernel_rfl) (by kernel_rfl) (by kernel_rfl) (by kernel_rfl) (by kernel_rfl) (by kernel_rfl) ?_
        simp only [List.take_succ_cons, List.take_zero, relyAll, Act.put, List.setIfInBounds_toArray, List.set_cons_zero, List.set_cons_succ]
        refine ⟨?_, ?_, ?_, ?_, ?_, ?_⟩
        · intro w' hg _
          refine Or.inl ⟨rfl, ?_⟩
          go_simp
          exact ⟨Grown.refl _, rfl⟩
        · intro w' hg _
          refine Or.inl ⟨rfl, ?_⟩
          have vv := (G1.drew.grown hg).v
          have y0 := vv.c0
          have y1 := vv.c1
          have y2 := vv.c2
          have y3 := vv.c3
          have y4 := vv.c4
          have y5 := vv.c5
          have y6 := vv.c6
          have y7 := vv.c7
          have y8 := vv.c8
          go_simp
          exact ⟨Grown.refl _, rfl⟩
        · intro w' hg _
          refine Or.inl ⟨rfl, ?_⟩
          go_simp
          exact ⟨Grown.refl _, rfl⟩
        · intro w' hg _
          refine Or.inl ⟨rfl, ?_⟩
          go_simp
          refine (lpin_any _ _ (by omega) (by omega)).mono ?_
          rintro e w'' ⟨rfl, rfl⟩
          exact ⟨_, rfl, Grown.refl _, by first | rfl | simp [Want.pred]⟩
        · intro w' hg _
          refine Or.inl ⟨rfl, ?_⟩
          go_simp
          exact ⟨Grown.refl _, rfl⟩
        intro w5 hg _
        have G5 := G1.drew.grown hg
        clear hg G1
        have HC : (x = false ∧ wantB P N (j + 1) = false) ∨ (x = true ∧ (p == 0) = true ∧ wantB P N (j + 1) = true) ∨ (x = true ∧ (p == 0) = false ∧ (p == N + 1) = true ∧ wantB P N (j + 1) = true) ∨ (x = true ∧ (p == 0) = false ∧ (p == N + 1) = false ∧ wantB P N (j + 1) = false) := by
          have e := W2'.out
          cases x with
          | false => exact Or.inl ⟨rfl, e⟩
          | true =>
            cases q1 : (p == 0) with
            | true => rw [show (p != 0) = false from by simp [bne, q1]] at e; exact Or.inr (Or.inl ⟨rfl, rfl, e⟩)
            | false =>
              rw [show (p != 0) = true from by simp [bne, q1]] at e
              cases q2 : (p == N + 1) with
              | true => rw [show (p != N + 1) = false from by simp [bne, q2]] at e; exact Or.inr (Or.inr (Or.inl ⟨rfl, rfl, rfl, e⟩))
              | false => rw [show (p != N + 1) = true from by simp [bne, q2]] at e; exact Or.inr (Or.inr (Or.inr ⟨rfl, rfl, rfl, e⟩))
        clear W2' HW LH G
        rcases HC with ⟨rfl, e⟩ | ⟨rfl, q1, e⟩ | ⟨rfl, q1, q2, e⟩ | ⟨rfl, q1, q2, e⟩
        · have EW : Hid (wantB P N (j + 1) = false) := e
          clear e
          go_wp2_with (go_at_call 10; refine (store_in G5.mm (6 + j) hn6.out p).mono ?_; rintro e w6 ⟨rfl, m6, o6, -⟩; have G6 := G5.mem o6 m6)
          go_roundw
          case rel => exact ⟨j + 1, _, false, by go_num, by omega, by omega, ⟨rfl, EW.out⟩, L2, G6⟩
          case measure => simp [intOf]; omega
        · have EW : Hid (wantB P N (j + 1) = true) := e
          clear e
          go_wp2_with (go_at_call 10; refine (store_in G5.mm (6 + j) hn6.out p).mono ?_; rintro e w6 ⟨rfl, m6, o6, -⟩; have G6 := G5.mem o6 m6)
          go_roundw
          case rel => exact ⟨j + 1, _, true, by go_num, by omega, by omega, ⟨rfl, EW.out⟩, L2, G6⟩
          case measure => simp [intOf]; omega
        · have EW : Hid (wantB P N (j + 1) = true) := e
          clear e
          go_wp2_with (go_at_call 10; refine (store_in G5.mm (6 + j) hn6.out p).mono ?_; rintro e w6 ⟨rfl, m6, o6, -⟩; have G6 := G5.mem o6 m6)
          go_roundw
          case rel => exact ⟨j + 1, _, true, by go_num, by omega, by omega, ⟨rfl, EW.out⟩, L2, G6⟩
          case measure => simp [intOf]; omega
        · have EW : Hid (wantB P N (j + 1) = false) := e
          clear e
          go_wp2_with (go_at_call 10; refine (store_in G5.mm (6 + j) hn6.out p).mono ?_; rintro e w6 ⟨rfl, m6, o6, -⟩; have G6 := G5.mem o6 m6)
          go_roundw
          case rel => exact ⟨j + 1, _, false, by go_num, by omega, by omega, ⟨rfl, EW.out⟩, L2, G6⟩
          case measure => simp [intOf]; omega
      · have hlt8' : ¬ (j : Int) < 8 := by omega
        have hlt' : (j : Int) < (n : Int) := by omega
        clear g
        cases hx : x with
        | true =>
          subst hx
          have hgo : Hid (goesB 8 s1.wd = true) := by unfold Hid; rw [LH.out.goes (by omega)]; exact HW.out
          have hl8 : Hid (arenaLen 8 1 1 20 ≤ s1.n) := by unfold Hid; rw [LH.out.n]; decide
          go_wp2_with (go_at_call 13; refine (advance_any G.out.mm hg hl8.out 0 true hgo.out).mono ?_; rintro e w7 ⟨rfl, s7, m7, e7, o7⟩; have G7 := G.out.mem o7 m7)
          have hw7 : s7.wd 0 = N + 1 := by rw [e7.wd]; rw [if_pos rfl, upd_same, LH.out.e]; exact Int.emod_eq_of_lt (by omega) (by omega)
          have hn7 : 0 < s7.n := by rw [e7.n, LH.out.n]; decide
          clear hgo hl8 e7 m7 o7 HW LH G
          refine wp_over (fun W => Gd w W L E 8 1 1 20 0 s7) G7 ?_
          clear G7
          rintro W G1
          refine wp_region_rely Grown [.val (.bool true), .val (.bool true), .val (.bool true), .val (.bool true), .val (.pointer (some ⟨E, 7, none⟩)), .val (.pointer (some ⟨L.p, 0, none⟩)), .val (.int .i64 0), .val (.int .u64 (N + 1)), .val (.int .u64 (N + 1)), .val (.bool true), .val (.bool true), .val (.bool true)] (by kernel_rfl) Grown.refl Grown.trans (by kernel_rfl) (by kernel_rfl) (by kernel_rfl) ?_
          simp only [relyAll, Act.put, List.setIfInBounds_toArray, List.set_cons_zero, List.set_cons_succ]
          refine ⟨?_, ?_, ?_, ?_, ?_, ?_, ?_, ?_, ?_, ?_, ?_, ?_, ?_⟩
          · intro w' hg _
            refine Or.inl ⟨rfl, ?_⟩
            go_simp
            exact ⟨Grown.refl _, rfl⟩
          · intro w' hg _
            refine Or.inl ⟨rfl, ?_⟩
            go_simp
            exact ⟨Grown.refl _, rfl⟩
          · intro w' hg _
            refine Or.inl ⟨rfl, ?_⟩
            go_simp
            exact ⟨Grown.refl _, rfl⟩
          · intro w' hg _
            refine Or.inl ⟨rfl, ?_⟩
            go_simp
            exact ⟨Grown.refl _, rfl⟩
          · intro w' hg _
            refine Or.inl ⟨rfl, ?_⟩
            go_simp
            exact ⟨Grown.refl _, rfl⟩
          · intro w' hg _
            refine Or.inl ⟨rfl, ?_⟩
            have vv := (G1.drew.grown hg).v
            have y0 := vv.c0
            have y1 := vv.c1
            have y2 := vv.c2
            have y3 := vv.c3
            have y4 := vv.c4
            have y5 := vv.c5
            have y6 := vv.c6
            have y7 := vv.c7
            have y8 := vv.c8
            go_simp
            exact ⟨Grown.refl _, rfl⟩
          · intro w' hg _
            refine Or.inl ⟨rfl, ?_⟩
            go_simp
            refine (lepoch_any _).mono ?_
            rintro e w'' ⟨rfl, rfl⟩
            exact ⟨_, rfl, Grown.refl _, rfl⟩
          · intro w' hg _
            refine Or.inl ⟨rfl, ?_⟩
            go_simp
            refine (peek_is (G1.drew.grown hg).mm 0 hn7 (N + 1) (hw7)).mono ?_
            rintro e w'' ⟨rfl, rfl⟩
            exact ⟨_, rfl, Grown.refl _, rfl⟩
          · intro w' hg _
            refine Or.inl ⟨rfl, ?_⟩
            go_simp
            exact ⟨Grown.refl _, rfl⟩
          · intro w' hg _
            refine Or.inl ⟨rfl, ?_⟩
            go_simp
            exact ⟨Grown.refl _, rfl⟩
          · intro w' hg _
            refine Or.inl ⟨rfl, ?_⟩
            go_simp
            exact ⟨Grown.refl _, rfl⟩
          · intro w' hg _
            refine Or.inl ⟨rfl, ?_⟩
            go_simp
            exact ⟨Grown.refl _, rfl⟩
          intro w8 hg _
          have B8 := (G1.drew.grown hg).b
          go_wp2
          go_ret
          exact ⟨rfl, B8⟩
        | false =>
          subst hx
          have hgo : Hid (goesB 8 s1.wd = false) := by unfold Hid; rw [LH.out.goes (by omega)]; exact HW.out
          have hl8 : Hid (arenaLen 8 1 1 20 ≤ s1.n) := by unfold Hid; rw [LH.out.n]; decide
          go_wp2_with (go_at_call 13; refine (advance_any G.out.mm hg hl8.out 0 false hgo.out).mono ?_; rintro e w7 ⟨rfl, s7, m7, e7, o7⟩; have G7 := G.out.mem o7 m7)
          have hw7 : s7.wd 0 = N := by rw [e7.wd]; rw [if_neg (by decide), LH.out.e]
          have hn7 : 0 < s7.n := by rw [e7.n, LH.out.n]; decide
          clear hgo hl8 e7 m7 o7 HW LH G
          refine wp_over (fun W => Gd w W L E 8 1 1 20 0 s7) G7 ?_
          clear G7
          rintro W G1
          refine wp_region_rely Grown [.val (.bool false), .val (.bool false), .val (.bool true), .val (.bool true), .val (.pointer (some ⟨E, 7, none⟩)), .val (.pointer (some ⟨L.p, 0, none⟩)), .val (.int .i64 0), .val (.int .u64 N), .val (.int .u64 N), .val (.bool true), .val (.bool true), .val (.bool true)] (by kernel_rfl) Grown.refl Grown.trans (by kernel_rfl) (by kernel_rfl) (by kernel_rfl) ?_
          simp only [relyAll, Act.put, List.setIfInBounds_toArray, List.set_cons_zero, List.set_cons_succ]
          refine ⟨?_, ?_, ?_, ?_, ?_, ?_, ?_, ?_, ?_, ?_, ?_, ?_, ?_⟩
          · intro w' hg _
            refine Or.inl ⟨rfl, ?_⟩
            go_simp
            exact ⟨Grown.refl _, rfl⟩
          · intro w' hg _
            refine Or.inl ⟨rfl, ?_⟩
            go_simp
            exact ⟨Grown.refl _, rfl⟩
          · intro w' hg _
            refine Or.inl ⟨rfl, ?_⟩
            go_simp
            exact ⟨Grown.refl _, rfl⟩
          · intro w' hg _
            refine Or.inl ⟨rfl, ?_⟩
            go_simp
            exact ⟨Grown.refl _, rfl⟩
          · intro w' hg _
            refine Or.inl ⟨rfl, ?_⟩
            go_simp
            exact ⟨Grown.refl _, rfl⟩
          · intro w' hg _
            refine Or.inl ⟨rfl, ?_⟩
            have vv := (G1.drew.grown hg).v
            have y0 := vv.c0
            have y1 := vv.c1
            have y2 := vv.c2
            have y3 := vv.c3
            have y4 := vv.c4
            have y5 := vv.c5
            have y6 := vv.c6
            have y7 := vv.c7
            have y8 := vv.c8
            go_simp
            exact ⟨Grown.refl _, rfl⟩
          · intro w' hg _
            refine Or.inl ⟨rfl, ?_⟩
            go_simp
            refine (lepoch_any _).mono ?_
            rintro e w'' ⟨rfl, rfl⟩
            exact ⟨_, rfl, Grown.refl _, rfl⟩
          · intro w' hg _
            refine Or.inl ⟨rfl, ?_⟩
            go_simp
            refine (peek_is (G1.drew.grown hg).mm 0 hn7 N (hw7)).mono ?_
            rintro e w'' ⟨rfl, rfl⟩
            exact ⟨_, rfl, Grown.refl _, rfl⟩
          · intro w' hg _
            refine Or.inl ⟨rfl, ?_⟩
            go_simp
            exact ⟨Grown.refl _, rfl⟩
          · intro w' hg _
            refine Or.inl ⟨rfl, ?_⟩
            go_simp
            exact ⟨Grown.refl _, rfl⟩
          · intro w' hg _
            refine Or.inl ⟨rfl, ?_⟩
            go_simp
            exact ⟨Grown.refl _, rfl⟩
          · intro w' hg _
            refine Or.inl ⟨rfl, ?_⟩
            go_simp
            exact ⟨Grown.refl _, rfl⟩
          intro w8 hg _
          have B8 := (G1.drew.grown hg).b
          go_wp2
          go_ret
          exact ⟨rfl, B8⟩
    · have hlt' : ¬ (j : Int) < (n : Int) := by omega
      clear g
      cases hx : x with
      | true =>
        subst hx
        have hgo : Hid (goesB 8 s1.wd = true) := by unfold Hid; rw [LH.out.goes (by omega)]; exact HW.out
        have hl8 : Hid (arenaLen 8 1 1 20 ≤ s1.n) := by unfold Hid; rw [LH.out.n]; decide
        go_wp2_with (go_at_call 13; refine (advance_any G.out.mm hg hl8.out 0 true hgo.out).mono ?_; rintro e w7 ⟨rfl, s7, m7, e7, o7⟩; have G7 := G.out.mem o7 m7)
        have hw7 : s7.wd 0 = N + 1 := by rw [e7.wd]; rw [if_pos rfl, upd_same, LH.out.e]; exact Int.emod_eq_of_lt (by omega) (by omega)
        have hn7 : 0 < s7.n := by rw [e7.n, LH.out.n]; decide
        clear hgo hl8 e7 m7 o7 HW LH G
        refine wp_over (fun W => Gd w W L E 8 1 1 20 0 s7) G7 ?_
        clear G7
        rintro W G1
        refine wp_region_rely Grown [.val (.bool true), .val (.bool true), .val (.bool true), .val (.bool true), .val (.pointer (some ⟨E, 7, none⟩)), .val (.pointer (some ⟨L.p, 0, none⟩)), .val (.int .i64 0), .val (.int .u64 (N + 1)), .val (.int .u64 (N + 1)), .val (.bool true), .val (.bool true), .val (.bool true)] (by kernel_rfl) Grown.refl Grown.trans (by kernel_rfl) (by kernel_rfl) (by kernel_rfl) ?_
        simp only [relyAll, Act.put, List.setIfInBounds_toArray, List.set_cons_zero, List.set_cons_succ]
        refine ⟨?_, ?_, ?_, ?_, ?_, ?_, ?_, ?_, ?_, ?_, ?_, ?_, ?_⟩
        · intro w' hg _
          refine Or.inl ⟨rfl, ?_⟩
          go_simp
          exact ⟨Grown.refl _, rfl⟩
        · intro w' hg _
          refine Or.inl ⟨rfl, ?_⟩
          go_simp
          exact ⟨Grown.refl _, rfl⟩
        · intro w' hg _
          refine Or.inl ⟨rfl, ?_⟩
          go_simp
          exact ⟨Grown.refl _, rfl⟩
        · intro w' hg _
          refine Or.inl ⟨rfl, ?_⟩
          go_simp
          exact ⟨Grown.refl _, rfl⟩
        · intro w' hg _
          refine Or.inl ⟨rfl, ?_⟩
          go_simp
          exact ⟨Grown.refl _, rfl⟩
        · intro w' hg _
          refine Or.inl ⟨rfl, ?_⟩
          have vv := (G1.drew.grown hg).v
          have y0 := vv.c0
          have y1 := vv.c1
          have y2 := vv.c2
          have y3 := vv.c3
          have y4 := vv.c4
          have y5 := vv.c5
          have y6 := vv.c6
          have y7 := vv.c7
          have y8 := vv.c8
          go_simp
          exact ⟨Grown.refl _, rfl⟩
        · intro w' hg _
          refine Or.inl ⟨rfl, ?_⟩
          go_simp
          refine (lepoch_any _).mono ?_
          rintro e w'' ⟨rfl, rfl⟩
          exact ⟨_, rfl, Grown.refl _, rfl⟩
        · intro w' hg _
          refine Or.inl ⟨rfl, ?_⟩
          go_simp
          refine (peek_is (G1.drew.grown hg).mm 0 hn7 (N + 1) (hw7)).mono ?_
          rintro e w'' ⟨rfl, rfl⟩
          exact ⟨_, rfl, Grown.refl _, rfl⟩
        · intro w' hg _
          refine Or.inl ⟨rfl, ?_⟩
          go_simp
          exact ⟨Grown.refl _, rfl⟩
        · intro w' hg _
          refine Or.inl ⟨rfl, ?_⟩
          go_simp
          exact ⟨Grown.refl _, rfl⟩
        · intro w' hg _
          refine Or.inl ⟨rfl, ?_⟩
          go_simp
          exact ⟨Grown.refl _, rfl⟩
        · intro w' hg _
          refine Or.inl ⟨rfl, ?_⟩
          go_simp
          exact ⟨Grown.refl _, rfl⟩
        intro w8 hg _
        have B8 := (G1.drew.grown hg).b
        go_wp2
        go_ret
        exact ⟨rfl, B8⟩
      | false =>
        subst hx
        have hgo : Hid (goesB 8 s1.wd = false) := by unfold Hid; rw [LH.out.goes (by omega)]; exact HW.out
        have hl8 : Hid (arenaLen 8 1 1 20 ≤ s1.n) := by unfold Hid; rw [LH.out.n]; decide
        go_wp2_with (go_at_call 13; refine (advance_any G.out.mm hg hl8.out 0 false hgo.out).mono ?_; rintro e w7 ⟨rfl, s7, m7, e7, o7⟩; have G7 := G.out.mem o7 m7)
        have hw7 : s7.wd 0 = N := by rw [e7.wd]; rw [if_neg (by decide), LH.out.e]
        have hn7 : 0 < s7.n := by rw [e7.n, LH.out.n]; decide
        clear hgo hl8 e7 m7 o7 HW LH G
        refine wp_over (fun W => Gd w W L E 8 1 1 20 0 s7) G7 ?_
        clear G7
        rintro W G1
        refine wp_region_rely Grown [.val (.bool false), .val (.bool false), .val (.bool true), .val (.bool true), .val (.pointer (some ⟨E, 7, none⟩)), .val (.pointer (some ⟨L.p, 0, none⟩)), .val (.int .i64 0), .val (.int .u64 N), .val (.int .u64 N), .val (.bool true), .val (.bool true), .val (.bool true)] (by kernel_rfl) Grown.refl Grown.trans (by kernel_rfl) (by kernel_rfl) (by kernel_rfl) ?_
        simp only [relyAll, Act.put, List.setIfInBounds_toArray, List.set_cons_zero, List.set_cons_succ]
        refine ⟨?_, ?_, ?_, ?_, ?_, ?_, ?_, ?_, ?_, ?_, ?_, ?_, ?_⟩
        · intro w' hg _
          refine Or.inl ⟨rfl, ?_⟩
          go_simp
          exact ⟨Grown.refl _, rfl⟩
        · intro w' hg _
          refine Or.inl ⟨rfl, ?_⟩
          go_simp
          exact ⟨Grown.refl _, rfl⟩
        · intro w' hg _
          refine Or.inl ⟨rfl, ?_⟩
          go_simp
          exact ⟨Grown.refl _, rfl⟩
        · intro w' hg _
          refine Or.inl ⟨rfl, ?_⟩
          go_simp
          exact ⟨Grown.refl _, rfl⟩
        · intro w' hg _
          refine Or.inl ⟨rfl, ?_⟩
          go_simp
          exact ⟨Grown.refl _, rfl⟩
        · intro w' hg _
          refine Or.inl ⟨rfl, ?_⟩
          have vv := (G1.drew.grown hg).v
          have y0 := vv.c0
          have y1 := vv.c1
          have y2 := vv.c2
          have y3 := vv.c3
          have y4 := vv.c4
          have y5 := vv.c5
          have y6 := vv.c6
          have y7 := vv.c7
          have y8 := vv.c8
          go_simp
          exact ⟨Grown.refl _, rfl⟩
        · intro w' hg _
          refine Or.inl ⟨rfl, ?_⟩
          go_simp
          refine (lepoch_any _).mono ?_
          rintro e w'' ⟨rfl, rfl⟩
          exact ⟨_, rfl, Grown.refl _, rfl⟩
        · intro w' hg _
          refine Or.inl ⟨rfl, ?_⟩
          go_simp
          refine (peek_is (G1.drew.grown hg).mm 0 hn7 N (hw7)).mono ?_
          rintro e w'' ⟨rfl, rfl⟩
          exact ⟨_, rfl, Grown.refl _, rfl⟩
        · intro w' hg _
          refine Or.inl ⟨rfl, ?_⟩
          go_simp
          exact ⟨Grown.refl _, rfl⟩
        · intro w' hg _
          refine Or.inl ⟨rfl, ?_⟩
          go_simp
          exact ⟨Grown.refl _, rfl⟩
        · intro w' hg _
          refine Or.inl ⟨rfl, ?_⟩
          go_simp
          exact ⟨Grown.refl _, rfl⟩
        · intro w' hg _
          refine Or.inl ⟨rfl, ?_⟩
          go_simp
          exact ⟨Grown.refl _, rfl⟩
        intro w8 hg _
        have B8 := (G1.drew.grown hg).b
        go_wp2
        go_ret
        exact ⟨rfl, B8⟩

end Go.Proofs.Ytameeiabnkblmaa
