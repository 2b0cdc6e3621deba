/- EpochMany answers true for every number of times, whether one pins or not, and leaves what was in memory. -/
import Derived.Test.YtameeiabnkblmaaEpPin
namespace Go.Proofs.Ytameeiabnkblmaa
open Go.RowKit

/-- the memory behind so many epochs -/
structure Mw (bb : Bool) (s : Mm) (j : Nat) : Prop where
  n : s.n = 33
  e : s.wd 0 = (j : Int)
  p7 : s.wd 7 = 0
  p6 : bb = false → s.wd 6 = 0

set_option maxRecDepth 20000 in
set_option maxHeartbeats 4000000 in
theorem epochMany_any (a : Int) (bb : Bool) (w : World) :
    Calls Try.prog 7 #[.int .i64 a, .bool bb] w fun e w' => e = .returned (.bool true) ∧ Below w.heap.size w w' := by
  obtain ⟨T, hT, hT1⟩ := low0 a 63 6 (by decide) (by decide)
  have hg : Good 2 1 1 20 100 600 3 := by constructor <;> decide
  have hN0 : (Mm.laid 2 1 (arenaLen 2 1 1 20) 1).n = arenaLen 2 1 1 20 := Mm.laid_n _ _ _ _
  have hZ0 : ∀ a, a ≠ 1 → (a < 6 + 2 ∨ 6 + 2 + 1 * 2 ≤ a) → (Mm.laid 2 1 (arenaLen 2 1 1 20) 1).wd a = 0 := fun a h1 h2 => laid_else _ _ _ _ _ h1 h2
  have HN0 : Hid (∀ S0, Mm.laid 2 1 (arenaLen 2 1 1 20) 1 = S0 → S0.n = 33) := fun S0 h => by rw [← h, hN0]; rfl
  generalize hS : Mm.laid 2 1 (arenaLen 2 1 1 20) 1 = S0 at hN0 hZ0
  have HS : Hid (Mm.laid 2 1 (arenaLen 2 1 1 20) 1 = S0) := hS
  have SN : Hid (S0.n = 33) := HN0.out S0 hS
  have SZ : Hid (∀ a, a ≠ 1 → (a < 6 + 2 ∨ 6 + 2 + 1 * 2 ≤ a) → S0.wd a = 0) := hZ0
  clear hN0 hZ0 hS HN0
  go_enter Try.func7, Try.ntmps7
  go_wp2_with (first
    | (go_at_call 8; refine (arena04_any hg _).mono ?_; rintro e w1 ⟨L, rfl, m1, b1, f1⟩; rw [HS.out] at m1; have g1 := Gd.new (t := 2) (n := 1) (k := 1) (m' := 20) m1 b1 f1)
    | (go_at_call 9; refine (awake13_any _).mono ?_; rintro e w2 ⟨rfl, b2⟩; have g2 := g1.grown b2))
  obtain ⟨E, hE⟩ : ∃ E, w1.heap.size = E := ⟨_, rfl⟩
  rw [hE] at g2
  try rw [hE]
  have A0 : Hid (Gd w w2 L E 2 1 1 20 0 S0 ∧ Mw bb S0 0) := ⟨g2, SN.out, SZ.out _ (by decide) (by decide), SZ.out _ (by decide) (by decide), fun _ => SZ.out _ (by decide) (by decide)⟩
  clear g1 g2 b1 b2 m1 f1
  go_loopw [8] (fun i wr => ∃ (j : Nat) (s' : Mm), i = .int .i64 j ∧ j ≤ T ∧ Mw bb s' j ∧ Gd w wr L E 2 1 1 20 0 s') (fun i _ => T - (intOf i).toNat)
  case atStart => exact ⟨0, _, rfl, by omega, A0.out.2, A0.out.1⟩
  case round =>
    clear A0
    obtain ⟨j, s0, rfl, hjT, hM, g⟩ := hrel
    have G0 : Hid (Gd w wr L E 2 1 1 20 0 s0) := g
    have y0 := g.v.c0
    have y1 := g.v.c1
    have y2 := g.v.c2
    have y3 := g.v.c3
    have y4 := g.v.c4
    have y5 := g.v.c5
    have y6 := g.v.c6
    have y7 := g.v.c7
    have y8 := g.v.c8
    have yf := g.fz
    by_cases hj : j < T
    · have hj' : (j : Int) < (T : Int) := by omega
      have gw := g.who_ 0
      have x0 := gw.v.c0
      clear g x0
      cases bb with
      | false =>
        have W6 : false = false → s0.wd 6 = 0 := hM.p6
        have N1 : Hid (s0.n = 33) := hM.n
        have W0 : Hid (s0.wd 0 = (j : Int)) := hM.e
        have W7 : Hid (s0.wd 7 = 0) := hM.p7
        have W6' : Hid (s0.wd 6 = 0) := hM.p6 rfl
        clear hM W6
        go_wp2
        have GG := gw
        clear gw y0 y1 y2 y3 y4 y5 y6 y7 y8 yf G0
        have HGo : Hid (goesB 2 s0.wd = true) := by
          unfold Hid
          refine decide_eq_true fun q hq => ?_
          rw [W0.out]
          obtain rfl | rfl : q = 0 ∨ q = 1 := by omega
          · rw [show s0.wd (6 + 0) = 0 from W6'.out]; rfl
          · rw [show s0.wd (6 + 1) = 0 from W7.out]; rfl
        have hl1 : Hid (arenaLen 2 1 1 20 ≤ s0.n) := by unfold Hid; rw [N1.out]; decide
        have hn1 : Hid (0 < s0.n) := by unfold Hid; rw [N1.out]; decide
        have HPk : Hid (∀ s2, AdEnd 2 s0 s2 true → s2.wd 0 = ((j + 1 : Nat) : Int)) := fun s2 e2 => by
          rw [e2.wd, if_pos rfl, upd_same, W0.out]
          exact Int.emod_eq_of_lt (by omega) (by omega)
        refine wp_over (fun W => Gd w W L E 2 1 1 20 0 s0) GG ?_
        clear GG
        rintro W G1
        have v1 := G1.v
        have hbE := G1.ne
        refine wp_region_phase (Only L.has) Grown (phGo L 2 s0 true) [1, 7] [.val (.agg #[.int .i64 2, .int .i64 1, .int .i64 1, .int .i64 20, .int .i64 100, .int .i64 600, .int .i64 3, .pointer (some ⟨L.p, 0, none⟩), .int .i64 0]), .val (.bool true), .val (.bool false), .val (.bool false), .val (.pointer (some ⟨E, 7, none⟩)), .val (.pointer (some ⟨L.p, 0, none⟩)), .val (.int .i64 0), .val (.int .u64 ((j + 1 : Nat) : Int)), .val (.int .i64 j), .val (.int .i64 ((j + 1 : Nat) : Int)), .val (.int .u64 ((j + 1 : Nat) : Int)), .val (.bool false), .val (.bool false)]
          (by kernel_rfl) (Only.refl _) (fun _ _ _ h k => h.trans k) (fun x y h => Only.ofGrown h) (phGo_grown) G1.mm.drew (by kernel_rfl) (by kernel_rfl) (by kernel_rfl) (by kernel_rfl) (by kernel_rfl) ?_
        simp only [phaseAll, Act.put, List.setIfInBounds_toArray, List.set_cons_zero, List.set_cons_succ]
        refine ⟨?_, ⟨?_, ⟨?_, ⟨?_, ⟨?_, ⟨?_, ⟨?_, ⟨?_, ⟨?_, ⟨?_, ⟨?_, ⟨?_, ⟨?_, ?_⟩⟩⟩⟩⟩⟩⟩⟩⟩⟩⟩⟩⟩
        · intro w' hR _
          refine Or.inl ⟨rfl, ?_⟩
          have vv := (v1.grown ((Below.refl _ _).drew)).only hR hbE
          have y0 := vv.c0
          have y1 := vv.c1
          have y2 := vv.c2
          have y3 := vv.c3
          have y4 := vv.c4
          have y5 := vv.c5
          have y6 := vv.c6
          have y7 := vv.c7
          have y8 := vv.c8
          go_simp
          exact ⟨Grown.refl _, rfl⟩
        · intro w' hR _ hP
          refine Or.inl ⟨rfl, ?_⟩
          have hP' : MemAt w' L s0 := hP
          go_simp
          refine (advance_any hP' hg hl1.out (0) true HGo.out).mono ?_
          rintro e w'' ⟨rfl, s2, m2, e2, o2⟩
          exact ⟨_, rfl, ⟨o2, s2, m2, e2⟩, rfl⟩
        · intro w' hR _
          refine Or.inl ⟨rfl, ?_⟩
          go_simp
          exact ⟨Grown.refl _, rfl⟩
        · intro w' hR _
          refine Or.inl ⟨rfl, ?_⟩
          go_simp
          exact ⟨Grown.refl _, rfl⟩
        · intro w' hR _
          refine Or.inl ⟨rfl, ?_⟩
          go_simp
          exact ⟨Grown.refl _, rfl⟩
        · intro w' hR _
          refine Or.inl ⟨rfl, ?_⟩
          have vv := (v1.grown ((Below.refl _ _).drew)).only hR hbE
          have y0 := vv.c0
          have y1 := vv.c1
          have y2 := vv.c2
          have y3 := vv.c3
          have y4 := vv.c4
          have y5 := vv.c5
          have y6 := vv.c6
          have y7 := vv.c7
          have y8 := vv.c8
          go_simp
          exact ⟨Grown.refl _, rfl⟩
        · intro w' hR _
          refine Or.inl ⟨rfl, ?_⟩
          go_simp
          refine (lepoch_any _).mono ?_
          rintro e w'' ⟨rfl, rfl⟩
          exact ⟨_, rfl, Grown.refl _, rfl⟩
        · intro w' hR _ hP
          refine Or.inl ⟨rfl, ?_⟩
          obtain ⟨s2, m2, e2⟩ := hP
          go_simp
          refine (peek_is m2 0 (by rw [e2.n]; exact hn1.out) ((j + 1 : Nat) : Int) (HPk.out s2 e2)).mono ?_
          rintro e w'' ⟨rfl, rfl⟩
          exact ⟨_, rfl, ⟨Only.refl _ _, s2, m2, e2⟩, rfl⟩
        · intro w' hR _
          refine Or.inl ⟨rfl, ?_⟩
          go_simp
          exact ⟨Grown.refl _, rfl⟩
        · intro w' hR _
          refine Or.inl ⟨rfl, ?_⟩
          go_simp
          exact ⟨Grown.refl _, congrArg (Value.int .i64) (by rw [IntKind.wrap_i64]; omega)⟩
        · intro w' hR _
          refine Or.inl ⟨rfl, ?_⟩
          go_simp
          exact ⟨Grown.refl _, congrArg (Value.int .u64) (wrapU _ (by omega) (by omega))⟩
        · intro w' hR _
          refine Or.inl ⟨rfl, ?_⟩
          go_simp
          exact ⟨Grown.refl _, rfl⟩
        · intro w' hR _
          refine Or.inl ⟨rfl, ?_⟩
          go_simp
          exact ⟨Grown.refl _, rfl⟩
        intro w7 hR hP _
        obtain ⟨s7, m7, e7⟩ : ∃ s7, MemAt w7 L s7 ∧ AdEnd 2 s0 s7 true := hP
        have G7 := G1.drew.mem hR m7
        have hw7 : Hid (Mw false s7 (j + 1)) := by
          refine ⟨e7.n.trans N1.out, HPk.out s7 e7, ?_, ?_⟩
          · rw [e7.wd, if_pos rfl, upd_other _ _ _ _ (by decide)]; exact W7.out
          · intro hb; rw [e7.wd, if_pos rfl, upd_other _ _ _ _ (by decide)]; exact W6'.out
        clear hR e7 m7 G1 v1 hbE
        go_wp2
        go_roundw
        case rel => exact ⟨j + 1, s7, by go_num, by omega, hw7.out, G7⟩
        case measure => simp [intOf]; omega
      | true =>
        have N0 : Hid (s0.n = 33) := hM.n
        have V0 : Hid (s0.wd 0 = (j : Int)) := hM.e
        have V7 : Hid (s0.wd 7 = 0) := hM.p7
        have hn6 : Hid (6 + 0 < s0.n) := by unfold Hid; rw [N0.out]; decide
        clear hM
        go_wp2
        have PS := Pn.start gw
        obtain ⟨X, hX⟩ : ∃ X, (wr.setCell ⟨E, 8, none⟩ (.int .i64 0)).heap.size = X := ⟨_, rfl⟩
        rw [hX] at PS
        have hX' : wr.heap.size = X := by rw [← hX]; simp
        try rw [hX']
        have PS : Hid (Pn w _ L E X 2 1 1 20 0 s0 0) := PS
        clear gw hX hX' y0 y1 y2 y3 y4 y5 y6 y7 y8 yf G0
        go_loopw [10] (fun i wr => ∃ j : Nat, i = .int .i64 j ∧ Pn w wr L E X 2 1 1 20 0 s0 j) (fun i _ => 9 - (intOf i).toNat)
        case atStart => exact ⟨0, rfl, PS.out⟩
        case round =>
          clear PS
          obtain ⟨jp, rfl, PP⟩ := hrel
          have hj2 := PP.le
          have hj9 : (jp : Int) < 9 := by omega
          have y0 := PP.v.c0
          have y1 := PP.v.c1
          have y2 := PP.v.c2
          have y3 := PP.v.c3
          have y4 := PP.v.c4
          have y5 := PP.v.c5
          have y6 := PP.v.c6
          have y7 := PP.v.c7
          have y8 := PP.v.c8
          by_cases hj : jp = 2
          · have st := PP.step (by decide) (by decide) hn6.out true (by simp [hj])
            go_wp2_with (go_at_call 15; refine st.mono ?_; rintro e w4 ⟨rfl, -, hq⟩; obtain ⟨s4, g4, p4⟩ := hq rfl)
            obtain ⟨s1, hs1⟩ : ∃ s1, s4 = s1 := ⟨_, rfl⟩
            rw [hs1] at g4 p4
            have N1 : Hid (s1.n = 33) := p4.1.trans N0.out
            have W0 : Hid (s1.wd 0 = (j : Int)) := by unfold Hid; rw [p4.2, upd_other _ _ _ _ (by decide)]; exact V0.out
            have W7 : Hid (s1.wd 7 = 0) := by unfold Hid; rw [p4.2, upd_other _ _ _ _ (by decide)]; exact V7.out
            have W6' : Hid (s1.wd 6 = ((j + 1 : Nat) : Int)) := by
              unfold Hid
              rw [p4.2, V0.out]
              show upd s0.wd 6 _ 6 = _
              rw [upd_same]
              exact Int.emod_eq_of_lt (by omega) (by omega)
            clear p4 hs1 s4
            have GG := g4
            clear g4
            have HGo : Hid (goesB 2 s1.wd = true) := by
              unfold Hid
              refine decide_eq_true fun q hq => ?_
              rw [W0.out]
              obtain rfl | rfl : q = 0 ∨ q = 1 := by omega
              · rw [show s1.wd (6 + 0) = ((j + 1 : Nat) : Int) from W6'.out]
                have e : sum64 (j : Int) 1 = ((j + 1 : Nat) : Int) := Int.emod_eq_of_lt (by omega) (by omega)
                unfold stopB
                rw [e]
                simp
              · rw [show s1.wd (6 + 1) = 0 from W7.out]; rfl
            have hl1 : Hid (arenaLen 2 1 1 20 ≤ s1.n) := by unfold Hid; rw [N1.out]; decide
            have hn1 : Hid (0 < s1.n) := by unfold Hid; rw [N1.out]; decide
            have HPk : Hid (∀ s2, AdEnd 2 s1 s2 true → s2.wd 0 = ((j + 1 : Nat) : Int)) := fun s2 e2 => by
              rw [e2.wd, if_pos rfl, upd_same, W0.out]
              exact Int.emod_eq_of_lt (by omega) (by omega)
            refine wp_over (fun W => Gd w W L E 2 1 1 20 0 s1) GG ?_
            clear GG
            rintro W G1
            have v1 := G1.v
            have hbE := G1.ne
            refine wp_region_phase (Only L.has) Grown (phGo L 2 s1 true) [1, 7] [.val (.agg #[.int .i64 2, .int .i64 1, .int .i64 1, .int .i64 20, .int .i64 100, .int .i64 600, .int .i64 3, .pointer (some ⟨L.p, 0, none⟩), .int .i64 0]), .val (.bool true), .val (.bool false), .val (.bool false), .val (.pointer (some ⟨E, 7, none⟩)), .val (.pointer (some ⟨L.p, 0, none⟩)), .val (.int .i64 0), .val (.int .u64 ((j + 1 : Nat) : Int)), .val (.int .i64 j), .val (.int .i64 ((j + 1 : Nat) : Int)), .val (.int .u64 ((j + 1 : Nat) : Int)), .val (.bool false), .val (.bool false)]
              (by kernel_rfl) (Only.refl _) (fun _ _ _ h k => h.trans k) (fun x y h => Only.ofGrown h) (phGo_grown) G1.mm.drew (by kernel_rfl) (by kernel_rfl) (by kernel_rfl) (by kernel_rfl) (by kernel_rfl) ?_
            simp only [phaseAll, Act.put, List.setIfInBounds_toArray, List.set_cons_zero, List.set_cons_succ]
            refine ⟨?_, ⟨?_, ⟨?_, ⟨?_, ⟨?_, ⟨?_, ⟨?_, ⟨?_, ⟨?_, ⟨?_, ⟨?_, ⟨?_, ⟨?_, ?_⟩⟩⟩⟩⟩⟩⟩⟩⟩⟩⟩⟩⟩
            · intro w' hR _
              refine Or.inl ⟨rfl, ?_⟩
              have vv := (v1.grown ((Below.refl _ _).drew)).only hR hbE
              have y0 := vv.c0
              have y1 := vv.c1
              have y2 := vv.c2
              have y3 := vv.c3
              have y4 := vv.c4
              have y5 := vv.c5
              have y6 := vv.c6
              have y7 := vv.c7
              have y8 := vv.c8
              go_simp
              exact ⟨Grown.refl _, rfl⟩
            · intro w' hR _ hP
              refine Or.inl ⟨rfl, ?_⟩
              have hP' : MemAt w' L s1 := hP
              go_simp
              refine (advance_any hP' hg hl1.out (0) true HGo.out).mono ?_
              rintro e w'' ⟨rfl, s2, m2, e2, o2⟩
              exact ⟨_, rfl, ⟨o2, s2, m2, e2⟩, rfl⟩
            · intro w' hR _
              refine Or.inl ⟨rfl, ?_⟩
              go_simp
              exact ⟨Grown.refl _, rfl⟩
            · intro w' hR _
              refine Or.inl ⟨rfl, ?_⟩
              go_simp
              exact ⟨Grown.refl _, rfl⟩
            · intro w' hR _
              refine Or.inl ⟨rfl, ?_⟩
              go_simp
              exact ⟨Grown.refl _, rfl⟩
            · intro w' hR _
              refine Or.inl ⟨rfl, ?_⟩
              have vv := (v1.grown ((Below.refl _ _).drew)).only hR hbE
              have y0 := vv.c0
              have y1 := vv.c1
              have y2 := vv.c2
              have y3 := vv.c3
              have y4 := vv.c4
              have y5 := vv.c5
              have y6 := vv.c6
              have y7 := vv.c7
              have y8 := vv.c8
              go_simp
              exact ⟨Grown.refl _, rfl⟩
            · intro w' hR _
              refine Or.inl ⟨rfl, ?_⟩
              go_simp
              refine (lepoch_any _).mono ?_
              rintro e w'' ⟨rfl, rfl⟩
              exact ⟨_, rfl, Grown.refl _, rfl⟩
            · intro w' hR _ hP
              refine Or.inl ⟨rfl, ?_⟩
              obtain ⟨s2, m2, e2⟩ := hP
              go_simp
              refine (peek_is m2 0 (by rw [e2.n]; exact hn1.out) ((j + 1 : Nat) : Int) (HPk.out s2 e2)).mono ?_
              rintro e w'' ⟨rfl, rfl⟩
              exact ⟨_, rfl, ⟨Only.refl _ _, s2, m2, e2⟩, rfl⟩
            · intro w' hR _
              refine Or.inl ⟨rfl, ?_⟩
              go_simp
              exact ⟨Grown.refl _, rfl⟩
            · intro w' hR _
              refine Or.inl ⟨rfl, ?_⟩
              go_simp
              exact ⟨Grown.refl _, congrArg (Value.int .i64) (by rw [IntKind.wrap_i64]; omega)⟩
            · intro w' hR _
              refine Or.inl ⟨rfl, ?_⟩
              go_simp
              exact ⟨Grown.refl _, congrArg (Value.int .u64) (wrapU _ (by omega) (by omega))⟩
            · intro w' hR _
              refine Or.inl ⟨rfl, ?_⟩
              go_simp
              exact ⟨Grown.refl _, rfl⟩
            · intro w' hR _
              refine Or.inl ⟨rfl, ?_⟩
              go_simp
              exact ⟨Grown.refl _, rfl⟩
            intro w7 hR hP _
            obtain ⟨s7, m7, e7⟩ : ∃ s7, MemAt w7 L s7 ∧ AdEnd 2 s1 s7 true := hP
            have G7 := G1.drew.mem hR m7
            have hw7 : Hid (Mw true s7 (j + 1)) := by
              refine ⟨e7.n.trans N1.out, HPk.out s7 e7, ?_, ?_⟩
              · rw [e7.wd, if_pos rfl, upd_other _ _ _ _ (by decide)]; exact W7.out
              · intro hb; rw [e7.wd, if_pos rfl, upd_other _ _ _ _ (by decide)]; cases hb
            clear hR e7 m7 G1 v1 hbE
            go_wp2
            go_roundw
            case rel => exact ⟨j + 1, s7, by go_num, by omega, hw7.out, G7⟩
            case measure => simp [intOf]; omega
          · have st := PP.step (by decide) (by decide) hn6.out false (decide_eq_false hj).symm
            go_wp2_with (go_at_call 15; refine st.mono ?_; rintro e w4 ⟨rfl, hq, -⟩; have P4 := hq rfl)
            go_roundw
            case rel => exact ⟨jp + 1, by go_num, P4⟩
            case measure => simp [intOf]; omega
    · have hj' : ¬ (j : Int) < (T : Int) := by omega
      go_wp2
      go_ret
      exact ⟨rfl, G0.out.b⟩

end Go.Proofs.Ytameeiabnkblmaa
