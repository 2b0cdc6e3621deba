/- EpochPinned answers true for every number of tries and every slice of bools, and leaves what was in memory. -/
import Derived.Test.YtameeiabnkblmaaEpPin
import Derived.Test.YtameeiabnkblmaaBools
namespace Go.Proofs.Ytameeiabnkblmaa
open Go.RowKit

/-- the memory while thread 1 has pinned epoch 0 -/
structure Pw (s : Mm) : Prop where
  n : s.n = 35
  e : s.wd 0 = 0 ∨ s.wd 0 = 1
  p : s.wd 7 = 1

theorem Pw.adv {s s' : Mm} {x : Bool} (h : Pw s) (k : AdEnd 4 s s' x) : Pw s' := by
  refine ⟨k.n.trans h.n, ?_, ?_⟩
  · cases x with
    | false => rw [k.wd, if_neg (by decide)]; exact h.e
    | true =>
      rw [k.wd, if_pos rfl, upd_same]
      rcases h.e with e | e
      · rw [e]; exact Or.inr rfl
      · exfalso
        have hg : goesB 4 s.wd = true := k.is.symm
        have := of_decide_eq_true hg 1 (by decide)
        rw [show s.wd (6 + 1) = 1 from h.p, e] at this
        revert this
        decide
  · cases x with
    | false => rw [k.wd, if_neg (by decide)]; exact h.p
    | true => rw [k.wd, if_pos rfl, upd_other _ _ _ _ (by decide)]; exact h.p

theorem Pw.out2 {s : Mm} (h : Pw s) : Pw ((s.by ((2 : Nat) : Int)).step (6 + 2) 0) := by
  refine ⟨h.n, ?_, ?_⟩
  · show upd s.wd (6 + 2) 0 0 = 0 ∨ upd s.wd (6 + 2) 0 0 = 1
    rw [upd_other _ _ _ _ (by decide)]; exact h.e
  · show upd s.wd (6 + 2) 0 7 = 1
    rw [upd_other _ _ _ _ (by decide)]; exact h.p

set_option maxRecDepth 20000 in
set_option maxHeartbeats 4000000 in
theorem epochPinned_any (a : Int) (ao : Option Addr) (n cap : Nat) (z : Nat → Bool) (w : World) (hr : BoolsAt w ao n z) :
    Calls Try.prog 4 #[.int .i64 a, .slice ao n cap] w fun e w' => e = .returned (.bool true) ∧ Below w.heap.size w w' := by
  have HR : Hid (BoolsAt w ao n z) := hr
  clear hr
  obtain ⟨T, hT, hT1⟩ := low0 a 31 5 (by decide) (by decide)
  have hg : Good 4 1 1 20 100 600 3 := by constructor <;> decide
  have hN0 : (Mm.laid 4 1 (arenaLen 4 1 1 20) 1).n = arenaLen 4 1 1 20 := Mm.laid_n _ _ _ _
  have hZ0 : ∀ a, a ≠ 1 → (a < 6 + 4 ∨ 6 + 4 + 1 * 2 ≤ a) → (Mm.laid 4 1 (arenaLen 4 1 1 20) 1).wd a = 0 := fun a h1 h2 => laid_else _ _ _ _ _ h1 h2
  have HN0 : Hid (∀ S0, Mm.laid 4 1 (arenaLen 4 1 1 20) 1 = S0 → S0.n = 35) := fun S0 h => by rw [← h, hN0]; rfl
  generalize hS : Mm.laid 4 1 (arenaLen 4 1 1 20) 1 = S0 at hN0 hZ0
  have HS : Hid (Mm.laid 4 1 (arenaLen 4 1 1 20) 1 = S0) := hS
  have SN : Hid (S0.n = 35) := HN0.out S0 hS
  have SZ : Hid (∀ a, a ≠ 1 → (a < 6 + 4 ∨ 6 + 4 + 1 * 2 ≤ a) → S0.wd a = 0) := hZ0
  clear hN0 hZ0 hS HN0
  go_enter Try.func4, Try.ntmps4
  go_wp2_with (first
    | (go_at_call 8; refine (arena04_any hg _).mono ?_; rintro e w1 ⟨L, rfl, m1, b1, f1⟩; rw [HS.out] at m1; have g1 := Gd.new (t := 4) (n := 1) (k := 1) (m' := 20) m1 b1 f1)
    | (go_at_call 9; refine (awake13_any _).mono ?_; rintro e w2 ⟨rfl, b2⟩; have g2 := g1.grown b2; have yf := (g2.grown (gro1 _ (.cells #[.int .i64 0, .int .u64 0] 42))).fz; have y8 := (g2.grown (gro1 _ (.cells #[.int .i64 0, .int .u64 0] 42))).v.c8))
  have PS := (Pn.startAs g2 1)
  have hn6 : Hid (6 + 1 < S0.n) := by unfold Hid; rw [SN.out]; decide
  obtain ⟨E, hE⟩ : ∃ E, w1.heap.size = E := ⟨_, rfl⟩
  obtain ⟨X, hX⟩ : ∃ X, w2.heap.size = X := ⟨_, rfl⟩
  rw [hE, hX] at PS
  try rw [hE]
  try rw [hX]
  have PS : Hid (Pn w _ L E X 4 1 1 20 1 S0 0) := PS
  clear g1 g2 b1 b2 m1 f1 yf y8 hE hX
  go_loopw [8] (fun i wr => ∃ j : Nat, i = .int .i64 j ∧ Pn w wr L E X 4 1 1 20 1 S0 j) (fun i _ => 9 - (intOf i).toNat)
  case atStart => exact ⟨0, rfl, PS.out⟩
  case round =>
    clear PS
    obtain ⟨jp, rfl, PP⟩ := hrel
    have hj2 := PP.le
    have hj9 : (jp : Int) < 9 := by omega
    have y0 := PP.v.c0
    have y1 := PP.v.c1
    have y2 := PP.v.c2
    have y3 := PP.v.c3
    have y4 := PP.v.c4
    have y5 := PP.v.c5
    have y6 := PP.v.c6
    have y7 := PP.v.c7
    have y8 := PP.v.c8
    by_cases hj : jp = 2
    · have st := PP.step (by decide) (by decide) hn6.out true (by simp [hj])
      go_wp2_with (go_at_call 15; refine st.mono ?_; rintro e w4 ⟨rfl, -, hq⟩; obtain ⟨s4, g4, p4⟩ := hq rfl)
      have WS : Hid (Pw s4) := by
        refine ⟨p4.1.trans SN.out, ?_, ?_⟩
        · rw [p4.2, upd_other _ _ _ _ (by decide)]; exact Or.inl (SZ.out _ (by decide) (by decide))
        · rw [p4.2, show (6 + 1 : Nat) = 7 from rfl, upd_same, SZ.out 0 (by decide) (by decide)]; rfl
      have he4 : Hid (s4.wd 0 = 0) := by unfold Hid; rw [p4.2, upd_other _ _ _ _ (by decide)]; exact SZ.out _ (by decide) (by decide)
      have hn4 : Hid (0 < s4.n) := by unfold Hid; rw [WS.out.n]; decide
      clear p4
      refine wp_over (fun W => Gd w W L E 4 1 1 20 ((1 : Nat) : Int) s4) g4 ?_
      clear g4 y0 y1 y2 y3 y4 y5 y6 y7 y8
      rintro W G1
      refine wp_region_rely Grown [.val (.pointer (some ⟨E, 7, none⟩)), .val (.pointer (some ⟨L.p, 0, none⟩)), .val (.int .i64 0), .val (.int .u64 0), .val (.int .u64 0)] (by kernel_rfl) Grown.refl Grown.trans (by kernel_rfl) (by kernel_rfl) (by kernel_rfl) ?_
      simp only [relyAll, Act.put, List.setIfInBounds_toArray, List.set_cons_zero, List.set_cons_succ]
      refine ⟨?_, ?_, ?_, ?_, ?_, ?_⟩
      · intro w' hg _
        refine Or.inl ⟨rfl, ?_⟩
        go_simp
        exact ⟨Grown.refl _, rfl⟩
      · intro w' hg _
        refine Or.inl ⟨rfl, ?_⟩
        have vv := (G1.drew.grown hg).v
        have y0 := vv.c0
        have y1 := vv.c1
        have y2 := vv.c2
        have y3 := vv.c3
        have y4 := vv.c4
        have y5 := vv.c5
        have y6 := vv.c6
        have y7 := vv.c7
        have y8 := vv.c8
        go_simp
        exact ⟨Grown.refl _, rfl⟩
      · intro w' hg _
        refine Or.inl ⟨rfl, ?_⟩
        go_simp
        refine (lepoch_any _).mono ?_
        rintro e w'' ⟨rfl, rfl⟩
        exact ⟨_, rfl, Grown.refl _, rfl⟩
      · intro w' hg _
        refine Or.inl ⟨rfl, ?_⟩
        go_simp
        refine (peek_is (G1.drew.grown hg).mm 0 hn4.out 0 (he4.out)).mono ?_
        rintro e w'' ⟨rfl, rfl⟩
        exact ⟨_, rfl, Grown.refl _, rfl⟩
      · intro w' hg _
        refine Or.inl ⟨rfl, ?_⟩
        go_simp
        exact ⟨Grown.refl _, rfl⟩
      intro w8 hg _
      have A1 : Hid (Pw s4 ∧ Gd w w8 L E 4 1 1 20 ((1 : Nat) : Int) s4) := ⟨WS.out, G1.drew.grown hg⟩
      clear hg G1 WS he4 hn4
      go_wp2
      have hg : Good 4 1 1 20 100 600 3 := by constructor <;> decide
      go_loopw [10] (fun i wr => ∃ (j : Nat) (s' : Mm) (who : Int), i = .int .i64 j ∧ j ≤ T ∧ Pw s' ∧ Gd w wr L E 4 1 1 20 who s') (fun i _ => T - (intOf i).toNat)
      case atStart => exact ⟨0, _, _, rfl, by omega, A1.out.1, A1.out.2⟩
      case round =>
        clear A1
        obtain ⟨j, s0, who0, rfl, hjT, hM, g⟩ := hrel
        have y0 := g.v.c0
        have y1 := g.v.c1
        have y2 := g.v.c2
        have y3 := g.v.c3
        have y4 := g.v.c4
        have y5 := g.v.c5
        have y6 := g.v.c6
        have y7 := g.v.c7
        have y8 := g.v.c8
        have yf := g.fz
        by_cases hj : j < T
        · have hj' : (j : Int) < (T : Int) := by omega
          have gw := g.who_ (-1)
          have hl1 : Hid (arenaLen 4 1 1 20 ≤ s0.n) := by unfold Hid; rw [hM.n]; decide
          have HM : Hid (Pw s0) := hM
          obtain ⟨xg, hxg⟩ : ∃ x, goesB 4 s0.wd = x := ⟨_, rfl⟩
          have HXg : Hid (goesB 4 s0.wd = xg) := hxg
          have x0 := gw.v.c0
          have x1 := gw.v.c1
          have x2 := gw.v.c2
          have x3 := gw.v.c3
          have x4 := gw.v.c4
          have x5 := gw.v.c5
          have x6 := gw.v.c6
          have x7 := gw.v.c7
          have x8 := gw.v.c8
          clear hM g hxg
          have AD : ∀ W, Gd w W L E 4 1 1 20 (-1) s0 → Calls Try.prog 13 #[.agg #[.int .i64 ((4 : Nat) : Int), .int .i64 ((1 : Nat) : Int), .int .i64 ((1 : Nat) : Int), .int .i64 ((20 : Nat) : Int), .int .i64 100, .int .i64 600, .int .i64 3, .pointer (some ⟨L.p, 0, none⟩), .int .i64 (-1)]] W fun e w' => e = .returned (.bool xg) ∧ ∃ s', Gd w w' L E 4 1 1 20 (-1) s' ∧ Pw s' := fun W gW => by
            refine (advance_any gW.mm hg hl1.out (-1) xg HXg.out).mono ?_
            rintro e w7 ⟨rfl, s7, m7, e7, o7⟩
            exact ⟨rfl, s7, gW.mem o7 m7, HM.out.adv e7⟩
          by_cases hlt : j < n
          · have hlt' : (j : Int) < (n : Int) := by omega
            obtain ⟨zb, zo, rfl, hk⟩ := HR.out j hlt
            cases hz : z j with
            | true =>
              rw [hz] at hk
              go_wp2_with ((go_at_call 13; refine (AD _ gw).mono ?_; rintro e w3 ⟨rfl, s3, g3, hW3⟩; have g5 := g3.who_ 2; have z0 := g3.v.c0; have z1 := g3.v.c1; have z2 := g3.v.c2; have z3 := g3.v.c3; have z4 := g3.v.c4; have z5 := g3.v.c5; have z6 := g3.v.c6; have z7 := g3.v.c7; have z8 := g3.v.c8; have zf := g3.fz; have v0 := g5.v.c0; have v1 := g5.v.c1; have v2 := g5.v.c2; have v3 := g5.v.c3; have v4 := g5.v.c4; have v5 := g5.v.c5; have v6 := g5.v.c6; have v7 := g5.v.c7; have v8 := g5.v.c8; have hk3 := keep' g3.b hk; have hk5 := keep' g5.b hk))
              have WS : Hid (Pw s3) := hW3
              have hn6 : Hid (6 + 2 < s3.n) := by unfold Hid; rw [hW3.n]; decide
              have PS := Pn.start g5
              obtain ⟨X, hX⟩ : ∃ X, (w3.setCell ⟨E, 8, none⟩ (.int .i64 2)).heap.size = X := ⟨_, rfl⟩
              have hX' : w3.heap.size = X := by rw [← hX]; simp
              rw [hX] at PS
              try rw [hX']
              have PS : Hid (Pn w _ L E X 4 1 1 20 2 s3 0) := PS
              clear hW3 g3 g5 gw AD hk3 hk5 hk zf yf hX hX' x0 x1 x2 x3 x4 x5 x6 x7 x8 y0 y1 y2 y3 y4 y5 y6 y7 y8 z0 z1 z2 z3 z4 z5 z6 z7 z8 v0 v1 v2 v3 v4 v5 v6 v7 v8
              go_loopw [12] (fun i wr => ∃ j : Nat, i = .int .i64 j ∧ Pn w wr L E X 4 1 1 20 2 s3 j) (fun i _ => 9 - (intOf i).toNat)
              case atStart => exact ⟨0, rfl, PS.out⟩
              case round =>
                clear PS
                obtain ⟨jp, rfl, PP⟩ := hrel
                have hj2 := PP.le
                have hj9 : (jp : Int) < 9 := by omega
                have y0 := PP.v.c0
                have y1 := PP.v.c1
                have y2 := PP.v.c2
                have y3 := PP.v.c3
                have y4 := PP.v.c4
                have y5 := PP.v.c5
                have y6 := PP.v.c6
                have y7 := PP.v.c7
                have y8 := PP.v.c8
                by_cases hj : jp = 2
                · have st := PP.step (by decide) (by decide) hn6.out true (by simp [hj])
                  go_wp2_with (go_at_call 15; refine st.mono ?_; rintro e w4 ⟨rfl, -, hq⟩; obtain ⟨s4, g4, p4⟩ := hq rfl)
                  have hw : Hid (Pw s4) := by
                    refine ⟨p4.1.trans WS.out.n, ?_, ?_⟩
                    · rw [p4.2, upd_other _ _ _ _ (by decide)]; exact WS.out.e
                    · rw [p4.2, upd_other _ _ _ _ (by decide)]; exact WS.out.p
                  clear p4
                  go_roundw
                  case rel => exact ⟨j + 1, s4, _, by go_num, by omega, hw.out, g4⟩
                  case measure => simp [intOf]; omega
                · have st := PP.step (by decide) (by decide) hn6.out false (decide_eq_false hj).symm
                  go_wp2_with (go_at_call 15; refine st.mono ?_; rintro e w4 ⟨rfl, hq, -⟩; have P4 := hq rfl)
                  go_roundw
                  case rel => exact ⟨jp + 1, by go_num, P4⟩
                  case measure => simp [intOf]; omega
            | false =>
              rw [hz] at hk
              go_wp2_with (first
                | (go_at_call 13; refine (AD _ gw).mono ?_; rintro e w3 ⟨rfl, s3, g3, hW3⟩; have g5 := g3.who_ 2; have z0 := g3.v.c0; have z1 := g3.v.c1; have z2 := g3.v.c2; have z3 := g3.v.c3; have z4 := g3.v.c4; have z5 := g3.v.c5; have z6 := g3.v.c6; have z7 := g3.v.c7; have z8 := g3.v.c8; have zf := g3.fz; have v0 := g5.v.c0; have v1 := g5.v.c1; have v2 := g5.v.c2; have v3 := g5.v.c3; have v4 := g5.v.c4; have v5 := g5.v.c5; have v6 := g5.v.c6; have v7 := g5.v.c7; have v8 := g5.v.c8; have hk3 := keep' g3.b hk; have hk5 := keep' g5.b hk)
                | (go_at_call 16; refine (g5.out (who := 2) (by decide) (by decide) (by rw [hW3.n]; decide)).mono ?_; rintro e w4 ⟨rfl, g4⟩))
              have hw4 : Hid (Pw ((s3.by ((2 : Nat) : Int)).step (6 + 2) 0)) := hW3.out2
              clear hW3
              go_roundw
              case rel => exact ⟨j + 1, _, _, by go_num, by omega, hw4.out, g4⟩
              case measure => simp [intOf]; omega
          · have hlt' : ¬ (j : Int) < (n : Int) := by omega
            go_wp2_with ((go_at_call 13; refine (AD _ gw).mono ?_; rintro e w3 ⟨rfl, s3, g3, hW3⟩; have g5 := g3.who_ 2; have z0 := g3.v.c0; have z1 := g3.v.c1; have z2 := g3.v.c2; have z3 := g3.v.c3; have z4 := g3.v.c4; have z5 := g3.v.c5; have z6 := g3.v.c6; have z7 := g3.v.c7; have z8 := g3.v.c8; have zf := g3.fz; have v0 := g5.v.c0; have v1 := g5.v.c1; have v2 := g5.v.c2; have v3 := g5.v.c3; have v4 := g5.v.c4; have v5 := g5.v.c5; have v6 := g5.v.c6; have v7 := g5.v.c7; have v8 := g5.v.c8))
            have hw4 : Hid (Pw s3) := hW3
            clear hW3
            go_roundw
            case rel => exact ⟨j + 1, _, _, by go_num, by omega, hw4.out, g3⟩
            case measure => simp [intOf]; omega
        · have hj' : ¬ (j : Int) < (T : Int) := by omega
          have HM : Hid (Pw s0) := hM
          have hn0 : Hid (0 < s0.n ∧ 7 < s0.n) := by unfold Hid; rw [hM.n]; decide
          obtain ⟨ee, hee⟩ : ∃ x, s0.wd 0 = x := ⟨_, rfl⟩
          have HE : Hid (s0.wd 0 = ee) := hee
          have hle : Hid (ee = 0 ∨ ee = 1) := by unfold Hid; rw [← hee]; exact hM.e
          clear hM hee
          have GG := g
          clear g y0 y1 y2 y3 y4 y5 y6 y7 y8 yf
          go_wp2
          refine wp_over (fun W => Gd w W L E 4 1 1 20 who0 s0) GG ?_
          clear GG
          rintro W G1
          refine wp_region_rely Grown [.val (.pointer (some ⟨E, 7, none⟩)), .val (.pointer (some ⟨L.p, 0, none⟩)), .val (.int .i64 0), .val (.int .u64 ee), .val (.int .u64 0), .val (.int .u64 1), .val (.bool true), .val (.bool true), .val (.pointer (some ⟨E, 7, none⟩)), .val (.pointer (some ⟨L.p, 0, none⟩)), .val (.int .i64 ((7 : Nat) : Int)), .val (.int .u64 1), .val (.int .u64 0), .val (.int .u64 1), .val (.bool true), .val (.bool true), .val (.bool true)] (by kernel_rfl) Grown.refl Grown.trans (by kernel_rfl) (by kernel_rfl) (by kernel_rfl) ?_
          simp only [relyAll, Act.put, List.setIfInBounds_toArray, List.set_cons_zero, List.set_cons_succ]
          refine ⟨?_, ?_, ?_, ?_, ?_, ?_, ?_, ?_, ?_, ?_, ?_, ?_, ?_, ?_, ?_, ?_, ?_, ?_⟩
          · intro w' hg _
            refine Or.inl ⟨rfl, ?_⟩
            go_simp
            exact ⟨Grown.refl _, rfl⟩
          · intro w' hg _
            refine Or.inl ⟨rfl, ?_⟩
            have vv := (G1.drew.grown hg).v
            have y0 := vv.c0
            have y1 := vv.c1
            have y2 := vv.c2
            have y3 := vv.c3
            have y4 := vv.c4
            have y5 := vv.c5
            have y6 := vv.c6
            have y7 := vv.c7
            have y8 := vv.c8
            go_simp
            exact ⟨Grown.refl _, rfl⟩
          · intro w' hg _
            refine Or.inl ⟨rfl, ?_⟩
            go_simp
            refine (lepoch_any _).mono ?_
            rintro e w'' ⟨rfl, rfl⟩
            exact ⟨_, rfl, Grown.refl _, rfl⟩
          · intro w' hg _
            refine Or.inl ⟨rfl, ?_⟩
            go_simp
            refine (peek_is (G1.drew.grown hg).mm 0 hn0.out.1 ee (HE.out)).mono ?_
            rintro e w'' ⟨rfl, rfl⟩
            exact ⟨_, rfl, Grown.refl _, rfl⟩
          · intro w' hg _
            refine Or.inl ⟨rfl, ?_⟩
            go_simp
            exact ⟨Grown.refl _, rfl⟩
          · intro w' hg _
            refine Or.inl ⟨rfl, ?_⟩
            go_simp
            exact ⟨Grown.refl _, rfl⟩
          · intro w' hg _
            refine Or.inl ⟨rfl, ?_⟩
            go_simp
            exact ⟨Grown.refl _, congrArg Value.bool (decide_eq_true (by have := hle.out; omega))⟩
          · intro w' hg _
            refine Or.inl ⟨rfl, ?_⟩
            go_simp
            exact ⟨Grown.refl _, rfl⟩
          · intro w' hg _
            refine Or.inl ⟨rfl, ?_⟩
            go_simp
            exact ⟨Grown.refl _, rfl⟩
          · intro w' hg _
            refine Or.inl ⟨rfl, ?_⟩
            have vv := (G1.drew.grown hg).v
            have y0 := vv.c0
            have y1 := vv.c1
            have y2 := vv.c2
            have y3 := vv.c3
            have y4 := vv.c4
            have y5 := vv.c5
            have y6 := vv.c6
            have y7 := vv.c7
            have y8 := vv.c8
            go_simp
            exact ⟨Grown.refl _, rfl⟩
          · intro w' hg _
            refine Or.inl ⟨rfl, ?_⟩
            go_simp
            refine (lpin_any 1 _ (by decide) (by decide)).mono ?_
            rintro e w'' ⟨rfl, rfl⟩
            exact ⟨_, rfl, Grown.refl _, rfl⟩
          · intro w' hg _
            refine Or.inl ⟨rfl, ?_⟩
            go_simp
            refine (peek_is (G1.drew.grown hg).mm 7 hn0.out.2 1 (HM.out.p)).mono ?_
            rintro e w'' ⟨rfl, rfl⟩
            exact ⟨_, rfl, Grown.refl _, rfl⟩
          · intro w' hg _
            refine Or.inl ⟨rfl, ?_⟩
            go_simp
            exact ⟨Grown.refl _, rfl⟩
          · intro w' hg _
            refine Or.inl ⟨rfl, ?_⟩
            go_simp
            exact ⟨Grown.refl _, rfl⟩
          · intro w' hg _
            refine Or.inl ⟨rfl, ?_⟩
            go_simp
            exact ⟨Grown.refl _, rfl⟩
          · intro w' hg _
            refine Or.inl ⟨rfl, ?_⟩
            go_simp
            exact ⟨Grown.refl _, rfl⟩
          · intro w' hg _
            refine Or.inl ⟨rfl, ?_⟩
            go_simp
            exact ⟨Grown.refl _, rfl⟩
          intro w8 hg _
          have B8 := (G1.drew.grown hg).b
          go_wp2
          go_ret
          exact ⟨rfl, B8⟩
    · have st := PP.step (by decide) (by decide) hn6.out false (decide_eq_false hj).symm
      go_wp2_with (go_at_call 15; refine st.mono ?_; rintro e w4 ⟨rfl, hq, -⟩; have P4 := hq rfl)
      go_roundw
      case rel => exact ⟨jp + 1, by go_num, P4⟩
      case measure => simp [intOf]; omega

end Go.Proofs.Ytameeiabnkblmaa
