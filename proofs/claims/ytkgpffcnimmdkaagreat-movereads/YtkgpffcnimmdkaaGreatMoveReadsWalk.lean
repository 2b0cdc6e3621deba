/- MoveReads, walked. -/
import Derived.Test.YtkgpffcnimmdkaaGreatMovAwake
import Derived.Test.YtkgpffcnimmdkaaGreatMovReader
import Derived.Test.YtkgpffcnimmdkaaGreatArgs
namespace Go.Proofs.YtkgpffcnimmdkaaGreat
open Go.RowKit

theorem bit2 (i : Nat) : bits .and .i64 (i : Int) 1 = ((i % 2 : Nat) : Int) := by
  have h := i64_low (i : Int) 1 1 (by decide) (by decide)
  rw [h]; omega
theorem bit1 (z : Int) : ∃ K : Nat, bits .and .i64 z 1 = (K : Int) ∧ (K = 0 ∨ K = 1) := by
  obtain ⟨y, h1, h2⟩ := low0 z 1 1 (by decide) (by decide)
  exact ⟨y, h1, by omega⟩

set_option maxHeartbeats 8000000 in
set_option maxRecDepth 20000 in
theorem moveReads_any (a : Int) (ao : Option Addr) (N cap : Nat) (z : Nat → Int) (po_ : Option Addr) (N2 cap2 : Nat) (p : Nat → Int) (w : World) (hz : IntsAt .i64 w ao N z) (hpz : IntsAt .i64 w po_ N2 p) (hN2 : N2 ≤ 17592186044416) :
    Calls Tryz.prog 5 #[.int .i64 a, .slice ao N cap, .slice po_ N2 cap2] w fun e w' => e = .returned (.bool true) ∧ Below w.heap.size w w' := by
  obtain ⟨Z, hZ, z1, z2⟩ := size15 a
  have HZ : Hid ((1 : Int) + bits .and .i64 a 15 = (Z : Int)) := hZ
  have HR : Hid (IntsAt .i64 w ao N z) := hz
  have HP : Hid (IntsAt .i64 w po_ N2 p) := hpz
  clear hz hpz
  clear hZ
  go_enter Tryz.func5, Tryz.ntmps5
  go_wp2_with (first
    | (go_at_call 9; refine (begun_any a ao N cap z w HR.out HZ.out z1 z2).mono ?_; rintro e w1 ⟨L, s, σ, q, rfl, hσ, m1, t1, a1, hyq, b1, l1⟩; obtain ⟨sc1, sa⟩ := sc_new (Z := Z) m1 t1 b1 l1)
    | (go_at_call 10; refine (awake11_any _).mono ?_; rintro e w2 ⟨rfl, b2⟩; have sc2 := sc1.grown b2; have y0 := sc2.sp.v.c0; have y1 := sc2.sp.v.c1; have y2 := sc2.sp.v.c2; have y3 := sc2.sp.v.c3; have y4 := sc2.sp.v.c4; have y5 := sc2.sp.v.c5; have y6 := sc2.sp.v.c6; have y7 := sc2.sp.v.c7; have y8 := sc2.sp.v.c8; obtain ⟨_, hd⟩ := sc2.hd; have g0 := hd.at0 0 rfl; have g1 := hd.at0 1 rfl; have g2 := hd.at0 2 rfl; have g3 := hd.at0 3 rfl; have g4 := hd.at0 4 rfl)
    | (go_at_call 11; refine (new0 z1 z2 _).mono ?_; rintro e w3 ⟨W3, rfl, rfl, b3⟩; obtain ⟨sm, sma⟩ := scm_new (wr := false) (sc2.grown b3) sa 2 (bgn_mi false a1 hyq)))
  obtain ⟨E, hE⟩ : ∃ E, w1.heap.size = E := ⟨_, rfl⟩
  rw [hE] at sm sma
  try rw [hE]
  obtain ⟨H, hH⟩ : ∃ H, E + 1 = H := ⟨_, rfl⟩
  rw [hH] at sm sma
  try rw [hH]
  obtain ⟨M, hM⟩ : ∃ M, W3.heap.size = M := ⟨_, rfl⟩
  rw [hM] at sm sma
  try rw [hM]
  have A0 : Hid (ScM w _ L E H M Z s σ q false 0 0 (vals N z Z) (yE (mw Z 0).κ) 9 (.see .see 0)) := sm
  have SA : Hid (ScMA w L E H M) := sma
  clear sc1 sc2 m1 t1 b1 l1 b2 hd hE hH g0 g1 g2 g3 g4 y0 y1 y2 y3 y4 y5 y6 y7 y8 sm sma sa a1 hyq b3 hM
  go_loopw [13, 14, 15, 16] (fun mv av tv iv wr => ∃ (r at_ : Nat) (s' : Mm) (σ' : Nat) (q' : Q) (μ : Mv) (rr : Nat), mv = .bool μ.over? ∧ tv = .int .i64 at_ ∧ iv = .int .i64 r ∧ r ≤ 800 ∧ at_ ≤ r ∧ σ' ≤ 1000 + r ∧ PotR (min N2 400) r (mpot false Z 0 rr q' μ) ∧ ScM w wr L E H M Z s' σ' q' false 0 0 (vals N z Z) (yE (mw Z 0).κ) rr μ ∧ RdI w wr L E H M Z (vals N z Z) q' at_ av) (fun _ _ _ i _ => 800 - (intOf i).toNat)
  case atStart => exact ⟨0, 0, s, σ, q, .see .see 0, 9, rfl, rfl, rfl, by omega, by omega, by omega, Or.inr ⟨by simp [mpot, rst]; omega, by simp [mpot, rst]; omega⟩, A0.out, Or.inl rfl⟩
  case round =>
    clear A0
    obtain ⟨r, at_, s1, σ1, q1, μ, rr, rfl, rfl, rfl, hr8, hat, hσ1, hpot, f, rd⟩ := hrel
    have y0 := f.sc.sp.v.c0
    have y1 := f.sc.sp.v.c1
    have y2 := f.sc.sp.v.c2
    have y3 := f.sc.sp.v.c3
    have y4 := f.sc.sp.v.c4
    have y5 := f.sc.sp.v.c5
    have y6 := f.sc.sp.v.c6
    have y7 := f.sc.sp.v.c7
    have y8 := f.sc.sp.v.c8
    obtain ⟨_, hd⟩ := f.sc.hd
    have hd1 := hd.at0 1 rfl
    have hZ0 : ((Z : Int) == 0) = false := by simp; omega
    have hZn : ¬ (Z : Int) = 0 := by omega
    have htm := tmod_nat at_ Z
    have hb2 := bit2 r
    have hwr : IntKind.i64.wrap ((N2 : Int) + 300) = (N2 : Int) + 300 := by rw [IntKind.wrap_i64]; omega
    by_cases hr1 : r < N2 + 300
    · have hr1' : (r : Int) < (N2 : Int) + 300 := by omega
      by_cases hr2 : r < 800
      · have hr2' : (r : Int) < 800 := by omega
        by_cases hrN : r < N2
        · have hrN' : (r : Int) < (N2 : Int) := by omega
          by_cases hr4 : r < 400
          · have hr4' : (r : Int) < 400 := by omega
            obtain ⟨pb, po, rfl, hpk⟩ := HP.out r hrN
            have hpc := keep' f.sc.sp.b hpk
            have hrb : (0 : Int) ≤ (r : Int) := by omega
            obtain ⟨K, hK, hK01⟩ := bit1 (p r)
            rcases hK01 with rfl | rfl
            · cases hmo : μ.over? with
              | true =>
                have hmp : mpot false Z 0 rr q1 μ = 0 := by obtain ⟨o, τ, rfl⟩ := Mv.is_over hmo; rfl
                as_aux_lemma =>
                  go_wp2
                  go_roundw
                  case rel => exact ⟨r + 1, at_, s1, σ1, q1, μ, rr, by rw [hmo], by go_num, by go_num, by omega, by omega, by omega, (Or.inl hmp), f, rd⟩
                  case measure => simp [intOf]; omega
              | false =>
                as_aux_lemma =>
                  obtain ⟨q2, μ2, r2, ht, hp, mi, hrr, k⟩ := f.step SA.out (by omega) hmo
                  cases hov : μ2.over? with
                  | false =>
                    have k := k false hov
                    go_wp2_with (go_at_call 12; refine k.mono ?_; rintro e w2 ⟨rfl, s2, f2, o2, -⟩)
                    go_roundw
                    case rel => exact ⟨r + 1, at_, s2, (σ1 + 1), q2, μ2, r2, by rw [hov], by go_num, by go_num, by omega, by omega, by omega, hpot.step hp, f2, rd.mv o2 f.mi ht⟩
                    case measure => simp [intOf]; omega
                  | true =>
                    have k := k true hov
                    go_wp2_with (go_at_call 12; refine k.mono ?_; rintro e w2 ⟨rfl, s2, f2, o2, -⟩)
                    go_roundw
                    case rel => exact ⟨r + 1, at_, s2, (σ1 + 1), q2, μ2, r2, by rw [hov], by go_num, by go_num, by omega, by omega, by omega, hpot.step hp, f2, rd.mv o2 f.mi ht⟩
                    case measure => simp [intOf]; omega
            · rcases rd with e | ⟨X, α, e, AX, az, ho3, I⟩
              · subst e
                as_aux_lemma =>
                  obtain ⟨⟨q3, α3⟩, ht3⟩ : ∃ x, acTurn (wtD ((at_ % Z : Nat) : Int)) false 0 1 σ1 q1 .see = x := ⟨_, rfl⟩
                  obtain ⟨rfl, gd, RI3⟩ := ri_step f.mi.ph (Nat.mod_lt _ (by omega)) (show RI Z 0 0 (at_ % Z) (vals N z Z) q1 .see from trivial) rfl ht3
                  have hov3 : α3.over? = false := by
                    have e : α3 = (if lifeB (q3.sw 0 % 8) && decide (genOf (q3.sw 0) = 1) then Ac.ask (q3.sw 0) (σ1 + 1) else .over 3 0 (σ1 + 1)) := (Prod.mk.inj ht3).2.symm
                    rw [e] at RI3 ⊢
                    split
                    · rfl
                    · rename_i hh
                      rw [if_neg hh] at RI3
                      obtain ⟨h1, -⟩ : (3 : Int) = 0 ∧ _ := RI3
                      omega
                  have na := fun W => new1 (at_ % Z) W
                  go_wp2_with (first
                    | (go_at_call 24; refine (na _).mono ?_; rintro e w4 ⟨X, rfl, hX, az, b4⟩; have AX := f.apart hX; have fz := f.grown b4; have x0 := fz.sc.sp.v.c0; have x1 := fz.sc.sp.v.c1; have x2 := fz.sc.sp.v.c2; have x3 := fz.sc.sp.v.c3; have x4 := fz.sc.sp.v.c4; have x5 := fz.sc.sp.v.c5; have x6 := fz.sc.sp.v.c6; have x7 := fz.sc.sp.v.c7; have x8 := fz.sc.sp.v.c8)
                    | (go_at_call 25; refine (fz.acc SA.out az AX (by omega) (wtD_ok _) rfl rfl gd ht3 fz.mi false hov3).mono ?_; rintro e w5 ⟨rfl, s5, f5, a5, o5⟩))
                  go_roundw
                  case rel => exact ⟨r + 1, at_, s5, (σ1 + 1), q3, μ, rr, rfl, by go_num, by go_num, by omega, by omega, by omega, hpot.idle (Or.inl (by omega)), f5, Or.inr ⟨X, α3, rfl, AX, a5, hov3, RI3⟩⟩
                  case measure => simp [intOf]; omega
              · subst e
                have fz := f
                as_aux_lemma =>
                  obtain ⟨⟨q3, α3⟩, ht3⟩ : ∃ x, acTurn (wtD ((at_ % Z : Nat) : Int)) false 0 1 σ1 q1 α = x := ⟨_, rfl⟩
                  obtain ⟨rfl, gd, RI3⟩ := ri_step f.mi.ph (Nat.mod_lt _ (by omega)) I ho3 ht3
                  have f' := f
                  cases hov3 : α3.over? with
                  | false =>
                    have k := fun (W : World) (g : ScM w W L E H M Z s1 σ1 q3 false 0 0 (vals N z Z) (yE (mw Z 0).κ) rr μ) (ac : AcO W X (wtD ((at_ % Z : Nat) : Int)) α) => g.acc SA.out ac AX (by omega) (wtD_ok _) rfl ho3 gd ht3 g.mi false hov3
                    go_wp2_with (first
                      | (go_at_call 25; refine (k _ fz az).mono ?_; rintro e w5 ⟨rfl, s5, f5, a5, o5⟩))
                    go_roundw
                    case rel => exact ⟨r + 1, at_, s5, (σ1 + 1), q3, μ, rr, rfl, by go_num, by go_num, by omega, by omega, by omega, hpot.idle (Or.inl (by omega)), f5, Or.inr ⟨X, α3, rfl, AX, a5, hov3, RI3⟩⟩
                    case measure => simp [intOf]; omega
                  | true =>
                    obtain ⟨Er, x, st, rfl⟩ : ∃ Er x st, α3 = .over Er x st := by
                      cases α3 with
                      | over a b c => exact ⟨a, b, c, rfl⟩
                      | _ => cases hov3
                    obtain ⟨rfl, hx⟩ : Er = 0 ∧ x = vals N z Z (at_ % Z) := RI3
                    have k := fun (W : World) (g : ScM w W L E H M Z s1 σ1 q3 false 0 0 (vals N z Z) (yE (mw Z 0).κ) rr μ) (ac : AcO W X (wtD ((at_ % Z : Nat) : Int)) α) => g.acc SA.out ac AX (by omega) (wtD_ok _) rfl ho3 gd ht3 g.mi true hov3
                    by_cases hjN : at_ % Z < N
                    · have hjN' : ((at_ % Z : Nat) : Int) < (N : Int) := by omega
                      obtain ⟨zb, zo, rfl, hk⟩ := HR.out (at_ % Z) hjN
                      have hxx : x = bits .and .i64 (z (at_ % Z)) 65535 := by rw [hx]; unfold vals; rw [if_pos ⟨Nat.mod_lt _ (by omega), hjN⟩]; rfl
                      subst hxx
                      clear hx
                      have hjb : (0 : Int) ≤ ((at_ % Z : Nat) : Int) := by omega
                      go_wp2_with (first
                        | (go_at_call 25; refine (k _ fz az).mono ?_; rintro e w5 ⟨rfl, s5, f5, a5, o5⟩; have hk5 := keep' f5.sc.sp.b hk; obtain ⟨_, hd5⟩ := f5.sc.hd; have e51 := hd5.at0 1 rfl)
                        | (go_at_call 26; refine a5.done.mono ?_; rintro e w6 ⟨rfl, b6⟩; have d6 := At.new w6 48 [.int .i64 0, .int .u64 0, .int .i64 (bits .and .i64 (z (at_ % Z)) 65535), .int .i64 st]; have t0 := d6.at0 0 rfl; have t2 := d6.at0 2 rfl))
                      go_roundw
                      case rel => exact ⟨r + 1, (at_ + 1), s5, (σ1 + 1), q3, μ, rr, rfl, by go_num, by go_num, by omega, by omega, by omega, hpot.idle (Or.inl (by omega)), (f5.grown b6).grown (grow1 _ _), Or.inl rfl⟩
                      case measure => simp [intOf]; omega
                    · have hjN' : ¬ ((at_ % Z : Nat) : Int) < (N : Int) := by omega
                      have hxx : x = 0 := by rw [hx]; unfold vals; rw [if_neg (fun h => hjN h.2)]
                      subst hxx
                      clear hx
                      go_wp2_with (first
                        | (go_at_call 25; refine (k _ fz az).mono ?_; rintro e w5 ⟨rfl, s5, f5, a5, o5⟩; obtain ⟨_, hd5⟩ := f5.sc.hd; have e51 := hd5.at0 1 rfl)
                        | (go_at_call 26; refine a5.done.mono ?_; rintro e w6 ⟨rfl, b6⟩; have d6 := At.new w6 48 [.int .i64 0, .int .u64 0, .int .i64 0, .int .i64 st]; have t0 := d6.at0 0 rfl; have t2 := d6.at0 2 rfl))
                      go_roundw
                      case rel => exact ⟨r + 1, (at_ + 1), s5, (σ1 + 1), q3, μ, rr, rfl, by go_num, by go_num, by omega, by omega, by omega, hpot.idle (Or.inl (by omega)), (f5.grown b6).grown (grow1 _ _), Or.inl rfl⟩
                      case measure => simp [intOf]; omega
          · have hr4' : ¬ (r : Int) < 400 := by omega
            obtain ⟨K, hK, hK01⟩ : ∃ K : Nat, r % 2 = K ∧ (K = 0 ∨ K = 1) := ⟨_, rfl, by omega⟩
            rw [hK] at hb2
            rcases hK01 with rfl | rfl
            · cases hmo : μ.over? with
              | true =>
                have hmp : mpot false Z 0 rr q1 μ = 0 := by obtain ⟨o, τ, rfl⟩ := Mv.is_over hmo; rfl
                as_aux_lemma =>
                  go_wp2
                  go_roundw
                  case rel => exact ⟨r + 1, at_, s1, σ1, q1, μ, rr, by rw [hmo], by go_num, by go_num, by omega, by omega, by omega, (Or.inl hmp), f, rd⟩
                  case measure => simp [intOf]; omega
              | false =>
                as_aux_lemma =>
                  obtain ⟨q2, μ2, r2, ht, hp, mi, hrr, k⟩ := f.step SA.out (by omega) hmo
                  cases hov : μ2.over? with
                  | false =>
                    have k := k false hov
                    go_wp2_with (go_at_call 12; refine k.mono ?_; rintro e w2 ⟨rfl, s2, f2, o2, -⟩)
                    go_roundw
                    case rel => exact ⟨r + 1, at_, s2, (σ1 + 1), q2, μ2, r2, by rw [hov], by go_num, by go_num, by omega, by omega, by omega, hpot.step hp, f2, rd.mv o2 f.mi ht⟩
                    case measure => simp [intOf]; omega
                  | true =>
                    have k := k true hov
                    go_wp2_with (go_at_call 12; refine k.mono ?_; rintro e w2 ⟨rfl, s2, f2, o2, -⟩)
                    go_roundw
                    case rel => exact ⟨r + 1, at_, s2, (σ1 + 1), q2, μ2, r2, by rw [hov], by go_num, by go_num, by omega, by omega, by omega, hpot.step hp, f2, rd.mv o2 f.mi ht⟩
                    case measure => simp [intOf]; omega
            · rcases rd with e | ⟨X, α, e, AX, az, ho3, I⟩
              · subst e
                as_aux_lemma =>
                  obtain ⟨⟨q3, α3⟩, ht3⟩ : ∃ x, acTurn (wtD ((at_ % Z : Nat) : Int)) false 0 1 σ1 q1 .see = x := ⟨_, rfl⟩
                  obtain ⟨rfl, gd, RI3⟩ := ri_step f.mi.ph (Nat.mod_lt _ (by omega)) (show RI Z 0 0 (at_ % Z) (vals N z Z) q1 .see from trivial) rfl ht3
                  have hov3 : α3.over? = false := by
                    have e : α3 = (if lifeB (q3.sw 0 % 8) && decide (genOf (q3.sw 0) = 1) then Ac.ask (q3.sw 0) (σ1 + 1) else .over 3 0 (σ1 + 1)) := (Prod.mk.inj ht3).2.symm
                    rw [e] at RI3 ⊢
                    split
                    · rfl
                    · rename_i hh
                      rw [if_neg hh] at RI3
                      obtain ⟨h1, -⟩ : (3 : Int) = 0 ∧ _ := RI3
                      omega
                  have na := fun W => new1 (at_ % Z) W
                  go_wp2_with (first
                    | (go_at_call 24; refine (na _).mono ?_; rintro e w4 ⟨X, rfl, hX, az, b4⟩; have AX := f.apart hX; have fz := f.grown b4; have x0 := fz.sc.sp.v.c0; have x1 := fz.sc.sp.v.c1; have x2 := fz.sc.sp.v.c2; have x3 := fz.sc.sp.v.c3; have x4 := fz.sc.sp.v.c4; have x5 := fz.sc.sp.v.c5; have x6 := fz.sc.sp.v.c6; have x7 := fz.sc.sp.v.c7; have x8 := fz.sc.sp.v.c8)
                    | (go_at_call 25; refine (fz.acc SA.out az AX (by omega) (wtD_ok _) rfl rfl gd ht3 fz.mi false hov3).mono ?_; rintro e w5 ⟨rfl, s5, f5, a5, o5⟩))
                  go_roundw
                  case rel => exact ⟨r + 1, at_, s5, (σ1 + 1), q3, μ, rr, rfl, by go_num, by go_num, by omega, by omega, by omega, hpot.idle (Or.inr hK), f5, Or.inr ⟨X, α3, rfl, AX, a5, hov3, RI3⟩⟩
                  case measure => simp [intOf]; omega
              · subst e
                have fz := f
                as_aux_lemma =>
                  obtain ⟨⟨q3, α3⟩, ht3⟩ : ∃ x, acTurn (wtD ((at_ % Z : Nat) : Int)) false 0 1 σ1 q1 α = x := ⟨_, rfl⟩
                  obtain ⟨rfl, gd, RI3⟩ := ri_step f.mi.ph (Nat.mod_lt _ (by omega)) I ho3 ht3
                  have f' := f
                  cases hov3 : α3.over? with
                  | false =>
                    have k := fun (W : World) (g : ScM w W L E H M Z s1 σ1 q3 false 0 0 (vals N z Z) (yE (mw Z 0).κ) rr μ) (ac : AcO W X (wtD ((at_ % Z : Nat) : Int)) α) => g.acc SA.out ac AX (by omega) (wtD_ok _) rfl ho3 gd ht3 g.mi false hov3
                    go_wp2_with (first
                      | (go_at_call 25; refine (k _ fz az).mono ?_; rintro e w5 ⟨rfl, s5, f5, a5, o5⟩))
                    go_roundw
                    case rel => exact ⟨r + 1, at_, s5, (σ1 + 1), q3, μ, rr, rfl, by go_num, by go_num, by omega, by omega, by omega, hpot.idle (Or.inr hK), f5, Or.inr ⟨X, α3, rfl, AX, a5, hov3, RI3⟩⟩
                    case measure => simp [intOf]; omega
                  | true =>
                    obtain ⟨Er, x, st, rfl⟩ : ∃ Er x st, α3 = .over Er x st := by
                      cases α3 with
                      | over a b c => exact ⟨a, b, c, rfl⟩
                      | _ => cases hov3
                    obtain ⟨rfl, hx⟩ : Er = 0 ∧ x = vals N z Z (at_ % Z) := RI3
                    have k := fun (W : World) (g : ScM w W L E H M Z s1 σ1 q3 false 0 0 (vals N z Z) (yE (mw Z 0).κ) rr μ) (ac : AcO W X (wtD ((at_ % Z : Nat) : Int)) α) => g.acc SA.out ac AX (by omega) (wtD_ok _) rfl ho3 gd ht3 g.mi true hov3
                    by_cases hjN : at_ % Z < N
                    · have hjN' : ((at_ % Z : Nat) : Int) < (N : Int) := by omega
                      obtain ⟨zb, zo, rfl, hk⟩ := HR.out (at_ % Z) hjN
                      have hxx : x = bits .and .i64 (z (at_ % Z)) 65535 := by rw [hx]; unfold vals; rw [if_pos ⟨Nat.mod_lt _ (by omega), hjN⟩]; rfl
                      subst hxx
                      clear hx
                      have hjb : (0 : Int) ≤ ((at_ % Z : Nat) : Int) := by omega
                      go_wp2_with (first
                        | (go_at_call 25; refine (k _ fz az).mono ?_; rintro e w5 ⟨rfl, s5, f5, a5, o5⟩; have hk5 := keep' f5.sc.sp.b hk; obtain ⟨_, hd5⟩ := f5.sc.hd; have e51 := hd5.at0 1 rfl)
                        | (go_at_call 26; refine a5.done.mono ?_; rintro e w6 ⟨rfl, b6⟩; have d6 := At.new w6 48 [.int .i64 0, .int .u64 0, .int .i64 (bits .and .i64 (z (at_ % Z)) 65535), .int .i64 st]; have t0 := d6.at0 0 rfl; have t2 := d6.at0 2 rfl))
                      go_roundw
                      case rel => exact ⟨r + 1, (at_ + 1), s5, (σ1 + 1), q3, μ, rr, rfl, by go_num, by go_num, by omega, by omega, by omega, hpot.idle (Or.inr hK), (f5.grown b6).grown (grow1 _ _), Or.inl rfl⟩
                      case measure => simp [intOf]; omega
                    · have hjN' : ¬ ((at_ % Z : Nat) : Int) < (N : Int) := by omega
                      have hxx : x = 0 := by rw [hx]; unfold vals; rw [if_neg (fun h => hjN h.2)]
                      subst hxx
                      clear hx
                      go_wp2_with (first
                        | (go_at_call 25; refine (k _ fz az).mono ?_; rintro e w5 ⟨rfl, s5, f5, a5, o5⟩; obtain ⟨_, hd5⟩ := f5.sc.hd; have e51 := hd5.at0 1 rfl)
                        | (go_at_call 26; refine a5.done.mono ?_; rintro e w6 ⟨rfl, b6⟩; have d6 := At.new w6 48 [.int .i64 0, .int .u64 0, .int .i64 0, .int .i64 st]; have t0 := d6.at0 0 rfl; have t2 := d6.at0 2 rfl))
                      go_roundw
                      case rel => exact ⟨r + 1, (at_ + 1), s5, (σ1 + 1), q3, μ, rr, rfl, by go_num, by go_num, by omega, by omega, by omega, hpot.idle (Or.inr hK), (f5.grown b6).grown (grow1 _ _), Or.inl rfl⟩
                      case measure => simp [intOf]; omega
        · have hrN' : ¬ (r : Int) < (N2 : Int) := by omega
          obtain ⟨K, hK, hK01⟩ : ∃ K : Nat, r % 2 = K ∧ (K = 0 ∨ K = 1) := ⟨_, rfl, by omega⟩
          rw [hK] at hb2
          rcases hK01 with rfl | rfl
          · cases hmo : μ.over? with
            | true =>
              have hmp : mpot false Z 0 rr q1 μ = 0 := by obtain ⟨o, τ, rfl⟩ := Mv.is_over hmo; rfl
              as_aux_lemma =>
                go_wp2
                go_roundw
                case rel => exact ⟨r + 1, at_, s1, σ1, q1, μ, rr, by rw [hmo], by go_num, by go_num, by omega, by omega, by omega, (Or.inl hmp), f, rd⟩
                case measure => simp [intOf]; omega
            | false =>
              as_aux_lemma =>
                obtain ⟨q2, μ2, r2, ht, hp, mi, hrr, k⟩ := f.step SA.out (by omega) hmo
                cases hov : μ2.over? with
                | false =>
                  have k := k false hov
                  go_wp2_with (go_at_call 12; refine k.mono ?_; rintro e w2 ⟨rfl, s2, f2, o2, -⟩)
                  go_roundw
                  case rel => exact ⟨r + 1, at_, s2, (σ1 + 1), q2, μ2, r2, by rw [hov], by go_num, by go_num, by omega, by omega, by omega, hpot.step hp, f2, rd.mv o2 f.mi ht⟩
                  case measure => simp [intOf]; omega
                | true =>
                  have k := k true hov
                  go_wp2_with (go_at_call 12; refine k.mono ?_; rintro e w2 ⟨rfl, s2, f2, o2, -⟩)
                  go_roundw
                  case rel => exact ⟨r + 1, at_, s2, (σ1 + 1), q2, μ2, r2, by rw [hov], by go_num, by go_num, by omega, by omega, by omega, hpot.step hp, f2, rd.mv o2 f.mi ht⟩
                  case measure => simp [intOf]; omega
          · rcases rd with e | ⟨X, α, e, AX, az, ho3, I⟩
            · subst e
              as_aux_lemma =>
                obtain ⟨⟨q3, α3⟩, ht3⟩ : ∃ x, acTurn (wtD ((at_ % Z : Nat) : Int)) false 0 1 σ1 q1 .see = x := ⟨_, rfl⟩
                obtain ⟨rfl, gd, RI3⟩ := ri_step f.mi.ph (Nat.mod_lt _ (by omega)) (show RI Z 0 0 (at_ % Z) (vals N z Z) q1 .see from trivial) rfl ht3
                have hov3 : α3.over? = false := by
                  have e : α3 = (if lifeB (q3.sw 0 % 8) && decide (genOf (q3.sw 0) = 1) then Ac.ask (q3.sw 0) (σ1 + 1) else .over 3 0 (σ1 + 1)) := (Prod.mk.inj ht3).2.symm
                  rw [e] at RI3 ⊢
                  split
                  · rfl
                  · rename_i hh
                    rw [if_neg hh] at RI3
                    obtain ⟨h1, -⟩ : (3 : Int) = 0 ∧ _ := RI3
                    omega
                have na := fun W => new1 (at_ % Z) W
                go_wp2_with (first
                  | (go_at_call 24; refine (na _).mono ?_; rintro e w4 ⟨X, rfl, hX, az, b4⟩; have AX := f.apart hX; have fz := f.grown b4; have x0 := fz.sc.sp.v.c0; have x1 := fz.sc.sp.v.c1; have x2 := fz.sc.sp.v.c2; have x3 := fz.sc.sp.v.c3; have x4 := fz.sc.sp.v.c4; have x5 := fz.sc.sp.v.c5; have x6 := fz.sc.sp.v.c6; have x7 := fz.sc.sp.v.c7; have x8 := fz.sc.sp.v.c8)
                  | (go_at_call 25; refine (fz.acc SA.out az AX (by omega) (wtD_ok _) rfl rfl gd ht3 fz.mi false hov3).mono ?_; rintro e w5 ⟨rfl, s5, f5, a5, o5⟩))
                go_roundw
                case rel => exact ⟨r + 1, at_, s5, (σ1 + 1), q3, μ, rr, rfl, by go_num, by go_num, by omega, by omega, by omega, hpot.idle (Or.inr hK), f5, Or.inr ⟨X, α3, rfl, AX, a5, hov3, RI3⟩⟩
                case measure => simp [intOf]; omega
            · subst e
              have fz := f
              as_aux_lemma =>
                obtain ⟨⟨q3, α3⟩, ht3⟩ : ∃ x, acTurn (wtD ((at_ % Z : Nat) : Int)) false 0 1 σ1 q1 α = x := ⟨_, rfl⟩
                obtain ⟨rfl, gd, RI3⟩ := ri_step f.mi.ph (Nat.mod_lt _ (by omega)) I ho3 ht3
                have f' := f
                cases hov3 : α3.over? with
                | false =>
                  have k := fun (W : World) (g : ScM w W L E H M Z s1 σ1 q3 false 0 0 (vals N z Z) (yE (mw Z 0).κ) rr μ) (ac : AcO W X (wtD ((at_ % Z : Nat) : Int)) α) => g.acc SA.out ac AX (by omega) (wtD_ok _) rfl ho3 gd ht3 g.mi false hov3
                  go_wp2_with (first
                    | (go_at_call 25; refine (k _ fz az).mono ?_; rintro e w5 ⟨rfl, s5, f5, a5, o5⟩))
                  go_roundw
                  case rel => exact ⟨r + 1, at_, s5, (σ1 + 1), q3, μ, rr, rfl, by go_num, by go_num, by omega, by omega, by omega, hpot.idle (Or.inr hK), f5, Or.inr ⟨X, α3, rfl, AX, a5, hov3, RI3⟩⟩
                  case measure => simp [intOf]; omega
                | true =>
                  obtain ⟨Er, x, st, rfl⟩ : ∃ Er x st, α3 = .over Er x st := by
                    cases α3 with
                    | over a b c => exact ⟨a, b, c, rfl⟩
                    | _ => cases hov3
                  obtain ⟨rfl, hx⟩ : Er = 0 ∧ x = vals N z Z (at_ % Z) := RI3
                  have k := fun (W : World) (g : ScM w W L E H M Z s1 σ1 q3 false 0 0 (vals N z Z) (yE (mw Z 0).κ) rr μ) (ac : AcO W X (wtD ((at_ % Z : Nat) : Int)) α) => g.acc SA.out ac AX (by omega) (wtD_ok _) rfl ho3 gd ht3 g.mi true hov3
                  by_cases hjN : at_ % Z < N
                  · have hjN' : ((at_ % Z : Nat) : Int) < (N : Int) := by omega
                    obtain ⟨zb, zo, rfl, hk⟩ := HR.out (at_ % Z) hjN
                    have hxx : x = bits .and .i64 (z (at_ % Z)) 65535 := by rw [hx]; unfold vals; rw [if_pos ⟨Nat.mod_lt _ (by omega), hjN⟩]; rfl
                    subst hxx
                    clear hx
                    have hjb : (0 : Int) ≤ ((at_ % Z : Nat) : Int) := by omega
                    go_wp2_with (first
                      | (go_at_call 25; refine (k _ fz az).mono ?_; rintro e w5 ⟨rfl, s5, f5, a5, o5⟩; have hk5 := keep' f5.sc.sp.b hk; obtain ⟨_, hd5⟩ := f5.sc.hd; have e51 := hd5.at0 1 rfl)
                      | (go_at_call 26; refine a5.done.mono ?_; rintro e w6 ⟨rfl, b6⟩; have d6 := At.new w6 48 [.int .i64 0, .int .u64 0, .int .i64 (bits .and .i64 (z (at_ % Z)) 65535), .int .i64 st]; have t0 := d6.at0 0 rfl; have t2 := d6.at0 2 rfl))
                    go_roundw
                    case rel => exact ⟨r + 1, (at_ + 1), s5, (σ1 + 1), q3, μ, rr, rfl, by go_num, by go_num, by omega, by omega, by omega, hpot.idle (Or.inr hK), (f5.grown b6).grown (grow1 _ _), Or.inl rfl⟩
                    case measure => simp [intOf]; omega
                  · have hjN' : ¬ ((at_ % Z : Nat) : Int) < (N : Int) := by omega
                    have hxx : x = 0 := by rw [hx]; unfold vals; rw [if_neg (fun h => hjN h.2)]
                    subst hxx
                    clear hx
                    go_wp2_with (first
                      | (go_at_call 25; refine (k _ fz az).mono ?_; rintro e w5 ⟨rfl, s5, f5, a5, o5⟩; obtain ⟨_, hd5⟩ := f5.sc.hd; have e51 := hd5.at0 1 rfl)
                      | (go_at_call 26; refine a5.done.mono ?_; rintro e w6 ⟨rfl, b6⟩; have d6 := At.new w6 48 [.int .i64 0, .int .u64 0, .int .i64 0, .int .i64 st]; have t0 := d6.at0 0 rfl; have t2 := d6.at0 2 rfl))
                    go_roundw
                    case rel => exact ⟨r + 1, (at_ + 1), s5, (σ1 + 1), q3, μ, rr, rfl, by go_num, by go_num, by omega, by omega, by omega, hpot.idle (Or.inr hK), (f5.grown b6).grown (grow1 _ _), Or.inl rfl⟩
                    case measure => simp [intOf]; omega
      · have hr2' : ¬ (r : Int) < 800 := by omega
        as_aux_lemma =>
          have hov : μ.over? = true := by
            rcases hpot with h | ⟨h1, h2⟩
            · exact mpot_over h
            · omega
          obtain ⟨o, τ, rfl⟩ := Mv.is_over hov
          have mi := f.mi
          rcases mi with ⟨rfl, hB, rfl, hy⟩ | ⟨h, -⟩
          · clear hB hy
            go_wp2_with (go_at_call 16; refine f.out.mono ?_; rintro e w9 ⟨rfl, rfl⟩)
            go_ret
            exact ⟨rfl, f.sc.sp.b⟩
          · cases h
    · have hr1' : ¬ (r : Int) < (N2 : Int) + 300 := by omega
      as_aux_lemma =>
        have hov : μ.over? = true := by
          rcases hpot with h | ⟨h1, h2⟩
          · exact mpot_over h
          · omega
        obtain ⟨o, τ, rfl⟩ := Mv.is_over hov
        have mi := f.mi
        rcases mi with ⟨rfl, hB, rfl, hy⟩ | ⟨h, -⟩
        · clear hB hy
          go_wp2_with (go_at_call 16; refine f.out.mono ?_; rintro e w9 ⟨rfl, rfl⟩)
          go_ret
          exact ⟨rfl, f.sc.sp.b⟩
        · cases h

end Go.Proofs.YtkgpffcnimmdkaaGreat
