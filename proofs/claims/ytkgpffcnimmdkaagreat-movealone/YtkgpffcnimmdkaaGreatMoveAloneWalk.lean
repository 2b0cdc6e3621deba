/- MoveAlone, walked. -/
import Derived.Test.YtkgpffcnimmdkaaGreatMovAwake
import Derived.Test.YtkgpffcnimmdkaaGreatArgs
namespace Go.Proofs.YtkgpffcnimmdkaaGreat
open Go.RowKit

theorem of58 (w : World) : Calls Tryz.prog 15 #[.agg #[.int .i64 4, .int .i64 8, .int .i64 4, .int .i64 20, .int .i64 100, .int .i64 600, .int .i64 3], .int .i64 58] w fun e w' => e = .returned (.int .i64 1) ∧ Below w.heap.size w w' := by
  have h := lof_any good11 58 (by decide) w
  have e := chunkOf_in (t := 4) (n := 8) (k := 4) (m := 20) (i := 1) (u := 0) (by decide) (by decide)
  have e' : chunkOf 4 8 4 20 58 = 1 := e
  rw [e'] at h
  exact h

theorem head_eq (Z : Nat) (w : World) : (binOp .eql 30 (.agg #[.int .i64 2, .int .i64 Z, .int .i64 0, .int .i64 1, .bool false]) (.agg #[.int .i64 2, .int .i64 Z, .int .i64 0, .int .i64 1, .bool false])).run Tryz.prog w = .ok (.bool true) w := by
  go_simp

theorem spot58 {w0 W : World} {L : Loc} {E H M Z σ : Nat} {s : Mm} {q : Q} {wr : Bool} {V r : Nat} {val : Nat → Int} {yE : Y} {o : Int} (f : ScM w0 W L E H M Z s σ q wr 0 V val yE r (.over o (.won (base 4 8 4 20 (0 + 1)) (0 + 1)))) :
    Calls Tryz.prog 13 #[.pointer (some ⟨M, 0, none⟩)] W fun e w' => e = .returned (.tuple #[.agg #[.int .i64 58, .int .i64 1], .bool true]) ∧ Below W.heap.size W w' := f.spot (A := base 4 8 4 20 (0 + 1)) (i := 0 + 1) (d := true) rfl

set_option maxHeartbeats 4000000 in
set_option maxRecDepth 20000 in
theorem moveAlone_any (a : Int) (ao : Option Addr) (N cap : Nat) (z : Nat → Int) (w : World) (hz : IntsAt .i64 w ao N z) :
    Calls Tryz.prog 3 #[.int .i64 a, .slice ao N cap] w fun e w' => e = .returned (.bool true) ∧ Below w.heap.size w w' := by
  obtain ⟨Z, hZ, z1, z2⟩ := size15 a
  have HZ : Hid ((1 : Int) + bits .and .i64 a 15 = (Z : Int)) := hZ
  have HR : Hid (IntsAt .i64 w ao N z) := hz
  clear hz
  clear hZ
  go_enter Tryz.func3, Tryz.ntmps3
  go_wp2_with (first
    | (go_at_call 9; refine (begun_any a ao N cap z w HR.out HZ.out z1 z2).mono ?_; rintro e w1 ⟨L, s, σ, q, rfl, hσ, m1, t1, a1, hyq, b1, l1⟩; obtain ⟨sc1, sa⟩ := sc_new (Z := Z) m1 t1 b1 l1)
    | (go_at_call 10; refine (awake11_any _).mono ?_; rintro e w2 ⟨rfl, b2⟩; have sc2 := sc1.grown b2; have y0 := sc2.sp.v.c0; have y1 := sc2.sp.v.c1; have y2 := sc2.sp.v.c2; have y3 := sc2.sp.v.c3; have y4 := sc2.sp.v.c4; have y5 := sc2.sp.v.c5; have y6 := sc2.sp.v.c6; have y7 := sc2.sp.v.c7; have y8 := sc2.sp.v.c8; obtain ⟨_, hd⟩ := sc2.hd; have g0 := hd.at0 0 rfl; have g1 := hd.at0 1 rfl; have g2 := hd.at0 2 rfl; have g3 := hd.at0 3 rfl; have g4 := hd.at0 4 rfl)
    | (go_at_call 11; refine (new0 z1 z2 _).mono ?_; rintro e w3 ⟨W3, rfl, rfl, b3⟩; obtain ⟨sm, sma⟩ := scm_new (wr := false) (sc2.grown b3) sa 2 (bgn_mi false a1 hyq)))
  obtain ⟨E, hE⟩ : ∃ E, w1.heap.size = E := ⟨_, rfl⟩
  rw [hE] at sm sma
  try rw [hE]
  obtain ⟨H, hH⟩ : ∃ H, E + 1 = H := ⟨_, rfl⟩
  rw [hH] at sm sma
  try rw [hH]
  obtain ⟨M, hM⟩ : ∃ M, W3.heap.size = M := ⟨_, rfl⟩
  rw [hM] at sm sma
  try rw [hM]
  have A0 : Hid (ScM w _ L E H M Z s σ q false 0 0 (vals N z Z) (yE (mw Z 0).κ) 9 (.see .see 0)) := sm
  have SA : Hid (ScMA w L E H M) := sma
  clear sc1 sc2 m1 t1 b1 l1 b2 hd hE hH g0 g1 g2 g3 g4 y0 y1 y2 y3 y4 y5 y6 y7 y8 sm sma sa a1 hyq b3 hM
  go_loopw [11] (fun i wr => ∃ (j : Nat) (s' : Mm) (σ' : Nat) (q' : Q) (μ : Mv) (r : Nat), i = .int .i64 j ∧ j + mpot false Z 0 r q' μ ≤ 3 * Z + 18 ∧ μ.over? = false ∧ σ' ≤ 1000 + j ∧ ScM w wr L E H M Z s' σ' q' false 0 0 (vals N z Z) (yE (mw Z 0).κ) r μ) (fun i _ => 200 - (intOf i).toNat)
  case atStart => exact ⟨0, s, σ, q, .see .see 0, 9, rfl, by simp [mpot, rst] <;> omega, rfl, by omega, A0.out⟩
  case round =>
    clear A0
    obtain ⟨j, s1, σ1, q1, μ, r, rfl, hj, ho, hσ1, f⟩ := hrel
    have hj3 : (j : Int) < 200 := by omega
    obtain ⟨q2, μ2, r2, ht, hp, mi, hrr, k⟩ := f.step SA.out (by omega) ho
    have y0 := f.sc.sp.v.c0
    have y1 := f.sc.sp.v.c1
    have y2 := f.sc.sp.v.c2
    have y3 := f.sc.sp.v.c3
    have y4 := f.sc.sp.v.c4
    have y5 := f.sc.sp.v.c5
    have y6 := f.sc.sp.v.c6
    have y7 := f.sc.sp.v.c7
    have y8 := f.sc.sp.v.c8
    cases hov : μ2.over? with
    | false =>
      have k := k false hov
      go_wp2_with (go_at_call 12; refine k.mono ?_; rintro e w2 ⟨rfl, s2, f2, o2, -⟩)
      go_roundw
      case rel => exact ⟨j + 1, s2, σ1 + 1, q2, μ2, r2, by go_num, by omega, hov, by omega, f2⟩
      case measure => simp [intOf]; omega
    | true =>
      have k := k true hov
      obtain ⟨o, τ, rfl⟩ := Mv.is_over hov
      rcases mi with ⟨rfl, hB, rfl, hy⟩ | ⟨h, -⟩
      · clear hov ht hp
        have hw : Wo (q2.sw 0) 1 58 1 := hB.sw
        have HB : Hid (AtB Z 0 0 2 0 0 (vals N z Z) q2) := hB
        have HY : Hid (q2.y = yE (mw Z 0).κ) := hy
        have HRD : Hid (∀ j, j < Z → ∀ σ, ARuns 4 8 4 20 (wtD j) false 0 1 true 4 σ q2 .see q2 (.over 0 (vals N z Z j) (σ + 3))) := fun j hj σ => hB.read (h := 2) (by decide) hj σ
        have HWD : Hid (∀ a, Wd (q2.dw a)) := hB.cm.wd
        clear hB hy
        go_wp2_with (first
          | (go_at_call 12; refine k.mono ?_; rintro e w2 ⟨rfl, s2, f2, o2, -⟩; have zc0 := f2.sc.sp.v.c0; have zc1 := f2.sc.sp.v.c1; have zc2 := f2.sc.sp.v.c2; have zc3 := f2.sc.sp.v.c3; have zc4 := f2.sc.sp.v.c4; have zc5 := f2.sc.sp.v.c5; have zc6 := f2.sc.sp.v.c6; have zc7 := f2.sc.sp.v.c7; have zc8 := f2.sc.sp.v.c8)
          | (go_at_call 13; refine (spot58 f2).mono ?_; rintro e w3 ⟨rfl, b3⟩; have f3 := (f2.grown b3).grown (grow1 _ (.cells #[.int .i64 58, .int .i64 1] 38)); have p3 := At.new w3 38 [.int .i64 58, .int .i64 1]; have u0 := f3.sc.sp.v.c0; have u1 := f3.sc.sp.v.c1; have u2 := f3.sc.sp.v.c2; have u3 := f3.sc.sp.v.c3; have u4 := f3.sc.sp.v.c4; have u5 := f3.sc.sp.v.c5; have u6 := f3.sc.sp.v.c6; have u7 := f3.sc.sp.v.c7; have u8 := f3.sc.sp.v.c8)
          | (go_at_call 14; refine (f3.sc.where hw).mono ?_; rintro e w4 ⟨rfl, b4⟩; have f4 := (f3.grown b4).grown (grow1 _ (.cells #[.int .i64 1, .int .i64 58, .int .i64 1, .int .i64 1] 42)); have p4 := (p3.grown b4).grown (grow1 _ (.cells #[.int .i64 1, .int .i64 58, .int .i64 1, .int .i64 1] 42)); have n4 := At.new w4 42 [.int .i64 1, .int .i64 58, .int .i64 1, .int .i64 1]; have n1 := n4.at0 1 rfl; have v0 := f4.sc.sp.v.c0; have v1 := f4.sc.sp.v.c1; have v2 := f4.sc.sp.v.c2; have v3 := f4.sc.sp.v.c3; have v4 := f4.sc.sp.v.c4; have v5 := f4.sc.sp.v.c5; have v6 := f4.sc.sp.v.c6; have v7 := f4.sc.sp.v.c7; have v8 := f4.sc.sp.v.c8)
          | (go_at_call_of 15 (Value.int IntKind.i64 58); refine (of58 _).mono ?_; rintro e w5 ⟨rfl, b5⟩; have f5 := f4.grown b5; have p5 := p4.grown b5; have n5 := n4.grown b5; have m0 := n5.at0 0 rfl; have m1 := n5.at0 1 rfl; have m2 := n5.at0 2 rfl; have m3 := n5.at0 3 rfl; have pq0 := p5.at0 0 rfl; have pq1 := p5.at0 1 rfl; obtain ⟨_, hd5⟩ := f5.sc.hd; have e3 := hd5.at0 3 rfl; have e1 := hd5.at0 1 rfl; have t0 := f5.sc.sp.v.c0; have t1 := f5.sc.sp.v.c1; have t2 := f5.sc.sp.v.c2; have t3 := f5.sc.sp.v.c3; have t4 := f5.sc.sp.v.c4; have t5 := f5.sc.sp.v.c5; have t6 := f5.sc.sp.v.c6; have t7 := f5.sc.sp.v.c7; have t8 := f5.sc.sp.v.c8)
          | (go_at_call 16; refine f5.out.mono ?_; rintro e w9 ⟨rfl, rfl⟩)
          | (go_at_call 15; refine (of38 _).mono ?_; rintro e w6 ⟨rfl, b6⟩; have f6 := f5.grown b6; have p6 := p5.grown b6))
        obtain ⟨P, hP⟩ : ∃ P, w3.heap.size = P := ⟨_, rfl⟩
        have hPL : Hid (¬ L.has P) := fun hh => by have := f2.sc.sp.mm.lt _ hh; have := b3.size; omega
        rw [hP] at p6
        try rw [hP]
        have A1 : Hid (Sc w w6 L E H Z s2 (σ1 + 1) q2 ∧ At w6 P 0 38 _ [.int .i64 58, .int .i64 1]) := ⟨f6.sc, p6⟩
        clear f f2 f3 f4 f5 f6 b3 b4 b5 b6 p3 p4 p5 p6 n4 n5 n1 m0 m1 m2 m3 pq0 pq1 e3 e1 hd5 hP hw k y0 zc0 u0 v0 t0 y1 zc1 u1 v1 t1 y2 zc2 u2 v2 t2 y3 zc3 u3 v3 t3 y4 zc4 u4 v4 t4 y5 zc5 u5 v5 t5 y6 zc6 u6 v6 t6 y7 zc7 u7 v7 t7 y8 zc8 u8 v8 t8
        go_loopw [16] (fun i wr => ∃ (j : Nat) (s' : Mm) (σ' : Nat), i = .int .i64 j ∧ j ≤ Z ∧ σ' ≤ 1200 + 4 * j ∧ Sc w wr L E H Z s' σ' q2 ∧ At wr P 0 38 _ [.int .i64 58, .int .i64 1]) (fun i _ => 16 - (intOf i).toNat)
        case atStart => exact ⟨0, _, _, rfl, by omega, by omega, A1.out⟩
        case round =>
          clear A1
          obtain ⟨j, s3, σ3, rfl, hjZ, hσ3, f, pp⟩ := hrel
          have y0 := f.sp.v.c0
          have y1 := f.sp.v.c1
          have y2 := f.sp.v.c2
          have y3 := f.sp.v.c3
          have y4 := f.sp.v.c4
          have y5 := f.sp.v.c5
          have y6 := f.sp.v.c6
          have y7 := f.sp.v.c7
          have y8 := f.sp.v.c8
          obtain ⟨_, hd⟩ := f.hd
          have hd1 := hd.at0 1 rfl
          by_cases hj : j < Z
          · have hj' : (j : Int) < (Z : Int) := by omega
            have rd := HRD.out j hj σ3
            by_cases hjN : j < N
            · have hjN' : (j : Int) < (N : Int) := by omega
              obtain ⟨zb, zo, rfl, hk⟩ := HR.out j hjN
              have hk1 := keep' f.sp.b hk
              rw [show vals N z Z j = bits .and .i64 (z j) 65535 from by unfold vals; rw [if_pos ⟨hj, hjN⟩]; rfl] at rd
              go_wp2_with (go_at_call 17; refine (f.read SA.out.sa HWD.out (by omega) (by decide) rd).mono ?_; rintro e w4 ⟨rfl, s4, f4, o4⟩; have d4 := At.new w4 48 [.int .i64 0, .int .u64 0, .int .i64 (bits .and .i64 (z j) 65535), .int .i64 ((σ3 + 3 : Nat) : Int)]; have t0 := d4.at0 0 rfl; have t2 := d4.at0 2 rfl)
              go_roundw
              case rel => exact ⟨j + 1, s4, σ3 + 4, by go_num, by omega, by omega, f4.grown (grow1 _ _), (pp.only o4 hPL.out).grown (grow1 _ _)⟩
              case measure => simp [intOf]; omega
            · have hjN' : ¬ (j : Int) < (N : Int) := by omega
              rw [show vals N z Z j = 0 from by unfold vals; rw [if_neg (fun h => hjN h.2)]] at rd
              go_wp2_with (go_at_call 17; refine (f.read SA.out.sa HWD.out (by omega) (by decide) rd).mono ?_; rintro e w4 ⟨rfl, s4, f4, o4⟩; have d4 := At.new w4 48 [.int .i64 0, .int .u64 0, .int .i64 0, .int .i64 ((σ3 + 3 : Nat) : Int)]; have t0 := d4.at0 0 rfl; have t2 := d4.at0 2 rfl)
              go_roundw
              case rel => exact ⟨j + 1, s4, σ3 + 4, by go_num, by omega, by omega, f4.grown (grow1 _ _), (pp.only o4 hPL.out).grown (grow1 _ _)⟩
              case measure => simp [intOf]; omega
          · have hj' : ¬ (j : Int) < (Z : Int) := by omega
            obtain ⟨κ, hκe⟩ : ∃ κ, (mw Z 0).κ = κ := ⟨_, rfl⟩
            have k4 : κ < 4 := by rw [← hκe]; exact (mw_ok (c := 0) z1 z2 (by decide)).k4
            have hcl : classOf Z = κ := by rw [← hκe]; exact (class_room z1 z2).1
            have hrb := room_bd κ
            have cl := fun w => lclass_any (Z : Int) w
            rw [hcl] at cl
            have rm := fun w => lroom_w κ k4 w
            have hcv : IntKind.u64.wrap (room κ : Int) = (room κ : Int) := by rw [IntKind.wrap_u64]; omega
            have hB := HB.out
            have hyy := HY.out
            have tw := f.sp.tw
            have hn : s3.n = 118 := tw.len
            obtain ⟨hw, hhw⟩ : ∃ x, (mw Z 0).hw 2 = x := ⟨_, rfl⟩
            have HW : Hid (s3.wd 58 = hw) := by
              unfold Hid
              have e := tw.dwv 58 (by decide)
              rw [e, ← hhw]
              exact hB.hB
            have hdI : HeadIs hw 2 Z 0 1 false := by
              have wd : Wd hw := by rw [← hhw]; exact Mw.hw_wd _ _
              have d0 := hw_full (c := 0) z2
              rw [hhw] at d0
              exact ⟨wd.1, wd.2, d0.1, d0.2.1, d0.2.2.1, d0.2.2.2.1, d0.2.2.2.2⟩
            have hdc := hdI.call
            have HL1 : Hid (s3.wd 30 = (room κ : Int)) := by
              unfold Hid
              have e := tw.lvv (by omega) 1 (by decide) (hB.lv 1 (by decide)).2
              rw [(hB.lv 1 (by decide)).1, if_pos rfl, hκe] at e
              exact e
            have HL0 : Hid (s3.wd 27 = 0) := by
              unfold Hid
              have e := tw.lvv (by omega) 0 (by decide) (hB.lv 0 (by decide)).2
              rw [(hB.lv 0 (by decide)).1] at e
              exact e
            obtain ⟨ckw, hckw⟩ : ∃ x, (⟨1, κ, room κ, 1⟩ : Ck).w = x := ⟨_, rfl⟩
            have HCK : Hid (s3.wd 29 = ckw) := by
              unfold Hid
              have e := tw.yard.ckv 1 (by decide)
              rw [hyy, hκe] at e
              rw [← hckw]
              exact e
            have ckc := fun w => chunk_w ⟨1, κ, room κ, 1⟩ 1 ⟨by simp only; omega, by simp only; omega, by simp only; omega, by simp only; omega⟩ (by decide) w
            rw [hckw] at ckc
            have heq := fun w : World => head_eq Z w
            have ffC : ∀ (a1 a2 a3 a4 : Value) (w : World), (Instr.field 54 (.agg #[a1, a2, a3, a4]) 1).run Tryz.prog w = .ok a2 w := fun a1 a2 a3 a4 w => by kernel_rfl
            have bw := f.sp.b
            clear hhw hckw hdI hκe hcl hB hyy tw
            go_wp2_with (first
              | (go_at_call 19; refine (cl _).mono ?_; rintro e w5 ⟨rfl, rfl⟩)
              | (go_at_call 18; refine (rm _).mono ?_; rintro e w5 ⟨rfl, rfl⟩))
            refine wp_over (fun W => Sc w W L E H Z s3 σ3 q2 ∧ At W P 0 38 _ [.int .i64 58, .int .i64 1]) ⟨f, pp⟩ ?_
            clear f pp hd hd1 y0 y1 y2 y3 y4 y5 y6 y7 y8
            rintro W ⟨f1, p1⟩
            refine wp_region_rely Grown [.val (.pointer (some ⟨E, 0, none⟩)), .val (.agg #[.int .i64 4, .int .i64 8, .int .i64 4, .int .i64 20, .int .i64 100, .int .i64 600, .int .i64 3]), .val (.pointer (some ⟨E, 0, none⟩)), .val (.agg #[.int .i64 4, .int .i64 8, .int .i64 4, .int .i64 20, .int .i64 100, .int .i64 600, .int .i64 3]), .val (.int .i64 38), .val (.int .i64 0), .val (.int .i64 26), .val (.int .i64 26)] (by kernel_rfl) Grown.refl Grown.trans (by kernel_rfl) (by kernel_rfl) (by kernel_rfl) ?_
            simp only [relyAll, Act.put, List.setIfInBounds_toArray, List.set_cons_zero, List.set_cons_succ]
            refine ⟨?_, ?_, ?_, ?_, ?_, ?_, ?_, ?_, ?_⟩
            · intro w' hg _
              refine Or.inl ⟨rfl, ?_⟩
              go_simp
              exact ⟨Grown.refl _, rfl⟩
            · intro w' hg _
              refine Or.inl ⟨rfl, ?_⟩
              have vv := (f1.sp.v.grown ((Below.refl _ _).drew)).grown hg
              have y0 := vv.c0
              have y1 := vv.c1
              have y2 := vv.c2
              have y3 := vv.c3
              have y4 := vv.c4
              have y5 := vv.c5
              have y6 := vv.c6
              have y7 := vv.c7
              have y8 := vv.c8
              go_simp
              exact ⟨Grown.refl _, rfl⟩
            · intro w' hg _
              refine Or.inl ⟨rfl, ?_⟩
              go_simp
              exact ⟨Grown.refl _, rfl⟩
            · intro w' hg _
              refine Or.inl ⟨rfl, ?_⟩
              have vv := (f1.sp.v.grown ((Below.refl _ _).drew)).grown hg
              have y0 := vv.c0
              have y1 := vv.c1
              have y2 := vv.c2
              have y3 := vv.c3
              have y4 := vv.c4
              have y5 := vv.c5
              have y6 := vv.c6
              have y7 := vv.c7
              have y8 := vv.c8
              go_simp
              exact ⟨Grown.refl _, rfl⟩
            · intro w' hg _
              refine Or.inl ⟨rfl, ?_⟩
              go_simp
              exact ⟨Grown.refl _, rfl⟩
            · intro w' hg _
              refine Or.inl ⟨rfl, ?_⟩
              go_simp
              refine (of38 _).mono ?_
              rintro e w'' ⟨rfl, b9⟩
              exact ⟨_, rfl, b9, rfl⟩
            · intro w' hg _
              refine Or.inl ⟨rfl, ?_⟩
              go_simp
              refine (lchunk_any _ _ _ _ _ _ _ 0 _ good11.arena (by omega) (by omega)).mono ?_
              rintro e w'' ⟨rfl, b9⟩
              exact ⟨_, rfl, b9, congrArg (Value.int .i64) (by omega)⟩
            · intro w' hg _
              refine Or.inl ⟨rfl, ?_⟩
              go_simp
              exact ⟨Grown.refl _, rfl⟩
            intro w5 hg _
            have f5 := f1.drew.grown hg
            have p5 := p1.drew.grown hg
            clear hg f1 p1
            go_wp2
            refine wp_over (fun W => Sc w W L E H Z s3 σ3 q2 ∧ At W P 0 38 _ [.int .i64 58, .int .i64 1]) ⟨f5, p5⟩ ?_
            clear f5 p5
            rintro W ⟨f1, p1⟩
            obtain ⟨_, h1⟩ := f1.hd
            refine wp_region_rely Grown [.val (.pointer (some ⟨E, 7, none⟩)), .val (.pointer (some ⟨L.p, 0, none⟩)), .val (.pointer (some ⟨P, 0, none⟩)), .val (.int .i64 58), .val (.int .u64 hw), .val (.agg #[.int .i64 2, .int .i64 Z, .int .i64 0, .int .i64 1, .bool false]), .val (.agg #[.int .i64 2, .int .i64 Z, .int .i64 0, .int .i64 1, .bool false]), .val (.bool true), .val (.bool true), .val (.pointer (some ⟨E, 7, none⟩)), .val (.pointer (some ⟨L.p, 0, none⟩)), .val (.pointer (some ⟨E, 0, none⟩)), .val (.agg #[.int .i64 4, .int .i64 8, .int .i64 4, .int .i64 20, .int .i64 100, .int .i64 600, .int .i64 3]), .val (.int .i64 1), .val (.int .i64 29), .val (.int .i64 (30)), .val (.int .u64 (room κ : Nat)), .val (.int .u64 (room κ : Nat)), .val (.bool true), .val (.bool true), .val (.bool true), .val (.pointer (some ⟨E, 7, none⟩)), .val (.pointer (some ⟨L.p, 0, none⟩)), .val (.int .i64 26), .val (.int .i64 (27)), .val (.int .u64 0), .val (.bool true), .val (.bool true), .val (.bool true), .val (.pointer (some ⟨E, 7, none⟩)), .val (.pointer (some ⟨L.p, 0, none⟩)), .val (.pointer (some ⟨E, 0, none⟩)), .val (.agg #[.int .i64 4, .int .i64 8, .int .i64 4, .int .i64 20, .int .i64 100, .int .i64 600, .int .i64 3]), .val (.int .i64 1), .val (.int .i64 29), .val (.int .u64 ckw), .val (.agg #[.int .i64 1, .int .i64 κ, .int .i64 (room κ), .int .i64 1]), .val (.int .i64 κ), .val (.pointer (some ⟨H, 1, none⟩)), .val (.int .i64 Z), .val (.int .i64 κ), .val (.bool true), .val (.bool true), .val (.bool true)] (by kernel_rfl) Grown.refl Grown.trans (by kernel_rfl) (by kernel_rfl) (by kernel_rfl) ?_
            simp only [relyAll, Act.put, List.setIfInBounds_toArray, List.set_cons_zero, List.set_cons_succ]
            refine ⟨?_, ?_, ?_, ?_, ?_, ?_, ?_, ?_, ?_, ?_, ?_, ?_, ?_, ?_, ?_, ?_, ?_, ?_, ?_, ?_, ?_, ?_, ?_, ?_, ?_, ?_, ?_, ?_, ?_, ?_, ?_, ?_, ?_, ?_, ?_, ?_, ?_, ?_, ?_, ?_, ?_, ?_, ?_, ?_, ?_⟩
            · intro w' hg _
              refine Or.inl ⟨rfl, ?_⟩
              go_simp
              exact ⟨Grown.refl _, rfl⟩
            · intro w' hg _
              refine Or.inl ⟨rfl, ?_⟩
              have vv := (f1.sp.v.grown ((Below.refl _ _).drew)).grown hg
              have y0 := vv.c0
              have y1 := vv.c1
              have y2 := vv.c2
              have y3 := vv.c3
              have y4 := vv.c4
              have y5 := vv.c5
              have y6 := vv.c6
              have y7 := vv.c7
              have y8 := vv.c8
              go_simp
              exact ⟨Grown.refl _, rfl⟩
            · intro w' hg _
              refine Or.inl ⟨rfl, ?_⟩
              go_simp
              exact ⟨Grown.refl _, rfl⟩
            · intro w' hg _
              refine Or.inl ⟨rfl, ?_⟩
              have z0 := (p1.drew.grown hg).at0 0 rfl
              go_simp
              exact ⟨Grown.refl _, rfl⟩
            · intro w' hg _
              refine Or.inl ⟨rfl, ?_⟩
              go_simp
              refine (peek_is (f1.sp.mm.drew.below hg) 58 (by omega) hw HW.out).mono ?_
              rintro e w'' ⟨rfl, rfl⟩
              exact ⟨_, rfl, Grown.refl _, rfl⟩
            · intro w' hg _
              refine Or.inl ⟨rfl, ?_⟩
              go_simp
              refine (hdc _).mono ?_
              rintro e w'' ⟨rfl, b9⟩
              exact ⟨_, rfl, b9, rfl⟩
            · intro w' hg _
              refine Or.inl ⟨rfl, ?_⟩
              have z0 := (h1.drew.grown hg).at0 0 rfl
              have z1 := (h1.drew.grown hg).at0 1 rfl
              have z2 := (h1.drew.grown hg).at0 2 rfl
              have z3 := (h1.drew.grown hg).at0 3 rfl
              have z4 := (h1.drew.grown hg).at0 4 rfl
              go_simp
              exact ⟨Grown.refl _, rfl⟩
            · intro w' hg _
              refine Or.inl ⟨rfl, ?_⟩
              have z := heq w'
              go_simp
              exact ⟨Grown.refl _, rfl⟩
            · intro w' hg _
              refine Or.inl ⟨rfl, ?_⟩
              go_simp
              exact ⟨Grown.refl _, rfl⟩
            · intro w' hg _
              refine Or.inl ⟨rfl, ?_⟩
              go_simp
              exact ⟨Grown.refl _, rfl⟩
            · intro w' hg _
              refine Or.inl ⟨rfl, ?_⟩
              have vv := (f1.sp.v.grown ((Below.refl _ _).drew)).grown hg
              have y0 := vv.c0
              have y1 := vv.c1
              have y2 := vv.c2
              have y3 := vv.c3
              have y4 := vv.c4
              have y5 := vv.c5
              have y6 := vv.c6
              have y7 := vv.c7
              have y8 := vv.c8
              go_simp
              exact ⟨Grown.refl _, rfl⟩
            · intro w' hg _
              refine Or.inl ⟨rfl, ?_⟩
              go_simp
              exact ⟨Grown.refl _, rfl⟩
            · intro w' hg _
              refine Or.inl ⟨rfl, ?_⟩
              have vv := (f1.sp.v.grown ((Below.refl _ _).drew)).grown hg
              have y0 := vv.c0
              have y1 := vv.c1
              have y2 := vv.c2
              have y3 := vv.c3
              have y4 := vv.c4
              have y5 := vv.c5
              have y6 := vv.c6
              have y7 := vv.c7
              have y8 := vv.c8
              go_simp
              exact ⟨Grown.refl _, rfl⟩
            · intro w' hg _
              refine Or.inl ⟨rfl, ?_⟩
              go_simp
              exact ⟨Grown.refl _, rfl⟩
            · intro w' hg _
              refine Or.inl ⟨rfl, ?_⟩
              go_simp
              refine (lchunk_any _ _ _ _ _ _ _ 1 _ good11.arena (by omega) (by omega)).mono ?_
              rintro e w'' ⟨rfl, b9⟩
              exact ⟨_, rfl, b9, congrArg (Value.int .i64) (by omega)⟩
            · intro w' hg _
              refine Or.inl ⟨rfl, ?_⟩
              go_simp
              exact ⟨Grown.refl _, congrArg (Value.int .i64) (by rw [IntKind.wrap_i64]; omega)⟩
            · intro w' hg _
              refine Or.inl ⟨rfl, ?_⟩
              go_simp
              refine (peek_is (f1.sp.mm.drew.below hg) 30 (by omega) _ HL1.out).mono ?_
              rintro e w'' ⟨rfl, rfl⟩
              exact ⟨_, rfl, Grown.refl _, rfl⟩
            · intro w' hg _
              refine Or.inl ⟨rfl, ?_⟩
              go_simp
              exact ⟨Grown.refl _, rfl⟩
            · intro w' hg _
              refine Or.inl ⟨rfl, ?_⟩
              go_simp
              refine ⟨Grown.refl _, ?_⟩
              first
                | rfl
                | (simp [Want.pred]; done)
            · intro w' hg _
              refine Or.inl ⟨rfl, ?_⟩
              go_simp
              exact ⟨Grown.refl _, rfl⟩
            · intro w' hg _
              refine Or.inl ⟨rfl, ?_⟩
              go_simp
              exact ⟨Grown.refl _, rfl⟩
            · intro w' hg _
              refine Or.inl ⟨rfl, ?_⟩
              go_simp
              exact ⟨Grown.refl _, rfl⟩
            · intro w' hg _
              refine Or.inl ⟨rfl, ?_⟩
              have vv := (f1.sp.v.grown ((Below.refl _ _).drew)).grown hg
              have y0 := vv.c0
              have y1 := vv.c1
              have y2 := vv.c2
              have y3 := vv.c3
              have y4 := vv.c4
              have y5 := vv.c5
              have y6 := vv.c6
              have y7 := vv.c7
              have y8 := vv.c8
              go_simp
              exact ⟨Grown.refl _, rfl⟩
            · intro w' hg _
              refine Or.inl ⟨rfl, ?_⟩
              go_simp
              exact ⟨Grown.refl _, rfl⟩
            · intro w' hg _
              refine Or.inl ⟨rfl, ?_⟩
              go_simp
              exact ⟨Grown.refl _, congrArg (Value.int .i64) (by rw [IntKind.wrap_i64]; omega)⟩
            · intro w' hg _
              refine Or.inl ⟨rfl, ?_⟩
              go_simp
              refine (peek_is (f1.sp.mm.drew.below hg) 27 (by omega) _ HL0.out).mono ?_
              rintro e w'' ⟨rfl, rfl⟩
              exact ⟨_, rfl, Grown.refl _, rfl⟩
            · intro w' hg _
              refine Or.inl ⟨rfl, ?_⟩
              go_simp
              refine ⟨Grown.refl _, ?_⟩
              first
                | rfl
                | (simp [Want.pred]; done)
            · intro w' hg _
              refine Or.inl ⟨rfl, ?_⟩
              go_simp
              exact ⟨Grown.refl _, rfl⟩
            · intro w' hg _
              refine Or.inl ⟨rfl, ?_⟩
              go_simp
              exact ⟨Grown.refl _, rfl⟩
            · intro w' hg _
              refine Or.inl ⟨rfl, ?_⟩
              go_simp
              exact ⟨Grown.refl _, rfl⟩
            · intro w' hg _
              refine Or.inl ⟨rfl, ?_⟩
              have vv := (f1.sp.v.grown ((Below.refl _ _).drew)).grown hg
              have y0 := vv.c0
              have y1 := vv.c1
              have y2 := vv.c2
              have y3 := vv.c3
              have y4 := vv.c4
              have y5 := vv.c5
              have y6 := vv.c6
              have y7 := vv.c7
              have y8 := vv.c8
              go_simp
              exact ⟨Grown.refl _, rfl⟩
            · intro w' hg _
              refine Or.inl ⟨rfl, ?_⟩
              go_simp
              exact ⟨Grown.refl _, rfl⟩
            · intro w' hg _
              refine Or.inl ⟨rfl, ?_⟩
              have vv := (f1.sp.v.grown ((Below.refl _ _).drew)).grown hg
              have y0 := vv.c0
              have y1 := vv.c1
              have y2 := vv.c2
              have y3 := vv.c3
              have y4 := vv.c4
              have y5 := vv.c5
              have y6 := vv.c6
              have y7 := vv.c7
              have y8 := vv.c8
              go_simp
              exact ⟨Grown.refl _, rfl⟩
            · intro w' hg _
              refine Or.inl ⟨rfl, ?_⟩
              go_simp
              exact ⟨Grown.refl _, rfl⟩
            · intro w' hg _
              refine Or.inl ⟨rfl, ?_⟩
              go_simp
              refine (lchunk_any _ _ _ _ _ _ _ 1 _ good11.arena (by omega) (by omega)).mono ?_
              rintro e w'' ⟨rfl, b9⟩
              exact ⟨_, rfl, b9, congrArg (Value.int .i64) (by omega)⟩
            · intro w' hg _
              refine Or.inl ⟨rfl, ?_⟩
              go_simp
              refine (peek_is (f1.sp.mm.drew.below hg) 29 (by omega) _ HCK.out).mono ?_
              rintro e w'' ⟨rfl, rfl⟩
              exact ⟨_, rfl, Grown.refl _, rfl⟩
            · intro w' hg _
              refine Or.inl ⟨rfl, ?_⟩
              go_simp
              refine (ckc _).mono ?_
              rintro e w'' ⟨rfl, b9⟩
              exact ⟨_, rfl, b9, rfl⟩
            · intro w' hg _
              refine Or.inl ⟨rfl, ?_⟩
              go_simp
              exact ⟨Grown.refl _, rfl⟩
            · intro w' hg _
              refine Or.inl ⟨rfl, ?_⟩
              go_simp
              exact ⟨Grown.refl _, rfl⟩
            · intro w' hg _
              refine Or.inl ⟨rfl, ?_⟩
              have z0 := (h1.drew.grown hg).at0 1 rfl
              go_simp
              exact ⟨Grown.refl _, rfl⟩
            · intro w' hg _
              refine Or.inl ⟨rfl, ?_⟩
              go_simp
              refine (cl _).mono ?_
              rintro e w'' ⟨rfl, rfl⟩
              exact ⟨_, rfl, Grown.refl _, rfl⟩
            · intro w' hg _
              refine Or.inl ⟨rfl, ?_⟩
              go_simp
              refine ⟨Grown.refl _, ?_⟩
              first
                | rfl
                | (simp [Want.pred]; done)
            · intro w' hg _
              refine Or.inl ⟨rfl, ?_⟩
              go_simp
              exact ⟨Grown.refl _, rfl⟩
            · intro w' hg _
              refine Or.inl ⟨rfl, ?_⟩
              go_simp
              exact ⟨Grown.refl _, rfl⟩
            intro w6 hg _
            have f6 := f1.drew.grown hg
            go_wp2
            go_ret
            exact ⟨rfl, f6.sp.b⟩
      · cases h

end Go.Proofs.YtkgpffcnimmdkaaGreat
