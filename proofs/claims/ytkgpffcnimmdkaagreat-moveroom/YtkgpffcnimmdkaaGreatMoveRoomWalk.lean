/- MoveRoom, walked. -/
import Derived.Test.YtkgpffcnimmdkaaGreatMovAwake
import Derived.Test.YtkgpffcnimmdkaaGreatMovRoom
import Derived.Test.YtkgpffcnimmdkaaGreatArgs
namespace Go.Proofs.YtkgpffcnimmdkaaGreat
open Go.RowKit

theorem slot_eq (w : World) : (binOp .eql 42 (.agg #[.int .i64 1, .int .i64 38, .int .i64 1, .int .i64 0]) (.agg #[.int .i64 1, .int .i64 38, .int .i64 1, .int .i64 0])).run Tryz.prog w = .ok (.bool true) w := by
  go_simp

set_option maxHeartbeats 4000000 in
set_option maxRecDepth 20000 in
theorem moveRoom_any (a : Int) (ao : Option Addr) (N cap : Nat) (z : Nat → Int) (wrong : Bool) (w : World) (hz : IntsAt .i64 w ao N z) :
    Calls Tryz.prog 7 #[.int .i64 a, .slice ao N cap, .bool wrong] w fun e w' => e = .returned (.bool true) ∧ Below w.heap.size w w' := by
  obtain ⟨Z, hZ, z1, z2⟩ := size15 a
  have HZ : Hid ((1 : Int) + bits .and .i64 a 15 = (Z : Int)) := hZ
  have HR : Hid (IntsAt .i64 w ao N z) := hz
  clear hz
  clear hZ
  cases wrong with
  | false =>
    go_enter Tryz.func7, Tryz.ntmps7
    go_wp2_with (first
      | (go_at_call 9; refine (begun_any a ao N cap z w HR.out HZ.out z1 z2).mono ?_; rintro e w1 ⟨L, s, σ, q, rfl, hσ, m1, t1, a1, hyq, b1, l1⟩; obtain ⟨sc1, sa⟩ := sc_new (Z := Z) m1 t1 b1 l1)
      | (go_at_call 10; refine (awake11_any _).mono ?_; rintro e w2 ⟨rfl, b2⟩; have sc2 := sc1.grown b2; have y0 := sc2.sp.v.c0; have y1 := sc2.sp.v.c1; have y2 := sc2.sp.v.c2; have y3 := sc2.sp.v.c3; have y4 := sc2.sp.v.c4; have y5 := sc2.sp.v.c5; have y6 := sc2.sp.v.c6; have y7 := sc2.sp.v.c7; have y8 := sc2.sp.v.c8; obtain ⟨_, hd⟩ := sc2.hd; have g0 := hd.at0 0 rfl; have g1 := hd.at0 1 rfl; have g2 := hd.at0 2 rfl; have g3 := hd.at0 3 rfl; have g4 := hd.at0 4 rfl; have hf3 := (At.new w2 30 [.int .i64 2, .int .i64 Z, .int .i64 0, .int .i64 1, .bool false]).fz; have gx3 := (hd.grown (grow1 _ (.cells #[.int .i64 2, .int .i64 Z, .int .i64 0, .int .i64 1, .bool false] 30))).at0 3 rfl))
    have h0 := At.new w2 30 [.int .i64 2, .int .i64 Z, .int .i64 0, .int .i64 1, .bool false]
    obtain ⟨E, hE⟩ : ∃ E, w1.heap.size = E := ⟨_, rfl⟩
    have hXL : ¬ L.has w2.heap.size := fun hh => by have := sc2.sp.mm.lt _ hh; omega
    rw [hE] at sc2 sa
    try rw [hE]
    obtain ⟨H, hH⟩ : ∃ H, E + 1 = H := ⟨_, rfl⟩
    rw [hH] at sc2 sa
    try rw [hH]
    obtain ⟨X, hX⟩ : ∃ X, w2.heap.size = X := ⟨_, rfl⟩
    rw [hX] at h0 hXL
    try rw [hX]
    have HX : Hid (¬ L.has X) := hXL
    have SA0 : Hid (ScA w L E H) := sa
    have A0 : Hid (Sc w _ L E H Z s σ q ∧ AtA Z 0 0 1 (vals N z Z) q ∧ q.y = yQ (mw Z 0).κ 0 ∧ At _ X 0 30 _ [.int .i64 2, .int .i64 Z, .int .i64 0, .int .i64 1, .bool false]) := ⟨sc2.grown (grow1 _ (.cells #[.int .i64 2, .int .i64 Z, .int .i64 0, .int .i64 1, .bool false] 30)), a1, hyq.trans (yQ_0 _).symm, h0⟩
    clear sc1 sc2 m1 t1 b1 l1 b2 hd hE hH hX hXL h0 sa a1 hyq g0 g1 g2 g3 g4 gx3 hf3 y0 y1 y2 y3 y4 y5 y6 y7 y8
    go_loopw [14] (fun iv wr => ∃ (i : Nat) (s' : Mm) (σ' : Nat) (q' : Q), iv = .int .i64 i ∧ i ≤ 4 ∧ σ' ≤ 1000 + i ∧ Sc w wr L E H Z s' σ' q' ∧ AtA Z 0 0 1 (vals N z Z) q' ∧ q'.y = yQ (mw Z 0).κ i ∧ At wr X 0 30 _ [.int .i64 2, .int .i64 Z, .int .i64 0, .int .i64 1, .bool false]) (fun i _ => 5 - (intOf i).toNat)
    case atStart => exact ⟨0, s, σ, q, rfl, by omega, by omega, A0.out⟩
    case round =>
      clear A0
      obtain ⟨i, s0, σ0, q0, rfl, hi, hσ0, f, AT, hyq, pp⟩ := hrel
      have y0 := f.sp.v.c0
      have y1 := f.sp.v.c1
      have y2 := f.sp.v.c2
      have y3 := f.sp.v.c3
      have y4 := f.sp.v.c4
      have y5 := f.sp.v.c5
      have y6 := f.sp.v.c6
      have y7 := f.sp.v.c7
      have y8 := f.sp.v.c8
      by_cases hi4 : i < 4
      · have hi4' : (i : Int) < 4 := by omega
        by_cases hi0 : i = 0
        · have HI0 : Hid (i = 0) := hi0
          as_aux_lemma =>
            obtain ⟨κ, hκe⟩ : ∃ κ, (mw Z 0).κ = κ := ⟨_, rfl⟩
            have k4 : κ < 4 := by rw [← hκe]; exact (mw_ok (c := 0) z1 z2 (by decide)).k4
            have hrb := room_bd κ
            obtain ⟨ad, had⟩ : ∃ ad : Nat, 26 + i * 3 = ad := ⟨_, rfl⟩
            have lc := fun w => chunkAt11 i ad had (by omega) w
            have cw := fun w => chunk_w ⟨2, κ, room κ, 2⟩ 2 ⟨by simp only; omega, by simp only; omega, by simp only; omega, by simp only; omega⟩ (by decide) w
            obtain ⟨cka, hcka⟩ : ∃ x, (⟨2, κ, room κ, 2⟩ : Ck).w = x := ⟨_, rfl⟩
            rw [hcka] at cw
            have HCW : Hid (s0.wd ad = cka) := by
              unfold Hid
              have e := f.sp.tw.yard.ckv 0 (by decide)
              rw [hyq, yQ_ck0, hκe, hcka] at e
              rw [show ad = 26 by omega]
              exact e
            have hn : ad < s0.n := by have : s0.n = 118 := f.sp.tw.len; omega
            clear hcka hκe hi0
            go_wp2_with (first
              | (go_at_call 20; refine (lc _).mono ?_; rintro e w4 ⟨rfl, b4⟩; have f4 := f.grown b4; have u0 := f4.sp.v.c0; have u1 := f4.sp.v.c1; have u2 := f4.sp.v.c2; have u3 := f4.sp.v.c3; have u4 := f4.sp.v.c4; have u5 := f4.sp.v.c5; have u6 := f4.sp.v.c6; have u7 := f4.sp.v.c7; have u8 := f4.sp.v.c8)
              | (go_at_call 22; refine (peek_is f4.sp.mm ad hn cka HCW.out).mono ?_; rintro e w7 ⟨rfl, rfl⟩)
              | (go_at_call 23; refine (cw _).mono ?_; rintro e w7 ⟨rfl, b7⟩; have q7 := At.new w7 54 [.int .i64 2, .int .i64 κ, .int .i64 (room κ), .int .i64 2]; have t0 := q7.at0 0 rfl))
            go_roundw
            case rel => exact ⟨i + 1, _, _, _, by go_num, by omega, by omega, (f4.grown b7).grown (grow1 _ _), AT, by rw [HI0.out] at hyq ⊢; rw [hyq, yQ_0, yQ_1], ((pp.grown b4).grown b7).grown (grow1 _ _)⟩
            case measure => simp [intOf]; omega
        · have hi1 : 1 ≤ i := by omega
          as_aux_lemma =>
            obtain ⟨ad, had⟩ : ∃ ad : Nat, 26 + i * 3 = ad := ⟨_, rfl⟩
            have lc := fun w => chunkAt11 i ad had (by omega) w
            obtain ⟨hcw, hn, tw'⟩ := quiet_town f.sp.tw (by omega) hi1 hi4 hyq had
            have cw := fun w => chunk_w ⟨0, 0, 0, 0⟩ 1 ⟨by decide, by decide, by decide, by decide⟩ (by decide) w
            have pc := fun w => putChunk_w ⟨3, 0, 0, 0⟩ 1 ⟨by decide, by decide, by decide, by decide⟩ (by decide) 3 0 0 0 rfl rfl rfl rfl w
            obtain ⟨cka, hcka⟩ : ∃ x, (⟨0, 0, 0, 0⟩ : Ck).w = x := ⟨_, rfl⟩
            obtain ⟨ck, hck⟩ : ∃ x, (⟨3, 0, 0, 0⟩ : Ck).w = x := ⟨_, rfl⟩
            rw [hcka] at cw hcw
            rw [hck] at pc tw'
            have HCW : Hid (s0.wd ad = cka) := hcw
            have FIN : Hid (Town 4 8 4 20 (s0.step ad ck) (σ0 + 1) { q0 with y := yQ (mw Z 0).κ (i + 1) } ∧ AtA Z 0 0 1 (vals N z Z) { q0 with y := yQ (mw Z 0).κ (i + 1) }) := ⟨tw', AT.withY' _⟩
            clear hck hcka tw' hcw AT hyq
            have cw : ∀ w, Calls Tryz.prog 23 #[.int .u64 cka] w fun e w' => e = .returned (.agg #[.int .i64 0, .int .i64 0, .int .i64 0, .int .i64 0]) ∧ Below w.heap.size w w' := cw
            go_wp2_with (first
              | (go_at_call 20; refine (lc _).mono ?_; rintro e w4 ⟨rfl, b4⟩; have f4 := f.grown b4; have u0 := f4.sp.v.c0; have u1 := f4.sp.v.c1; have u2 := f4.sp.v.c2; have u3 := f4.sp.v.c3; have u4 := f4.sp.v.c4; have u5 := f4.sp.v.c5; have u6 := f4.sp.v.c6; have u7 := f4.sp.v.c7; have u8 := f4.sp.v.c8)
              | (go_at_call 22; refine (peek_is f4.sp.mm ad hn cka HCW.out).mono ?_; rintro e w7 ⟨rfl, rfl⟩)
              | (go_at_call 23; refine (cw _).mono ?_; rintro e w7 ⟨rfl, b7⟩; have q7 := At.new w7 54 [.int .i64 0, .int .i64 0, .int .i64 0, .int .i64 0]; have t0 := q7.at0 0 rfl; have tf := q7.fz))
            have q8 := At.new w7 54 [.int .i64 3, .int .i64 0, .int .i64 0, .int .i64 0]
            obtain ⟨C, hC⟩ : ∃ C, w7.heap.size = C := ⟨_, rfl⟩
            rw [hC] at q8
            try rw [hC]
            refine wp_over (fun W => Sc w W L E H Z s0 σ0 q0 ∧ At W C 0 54 _ [.int .i64 3, .int .i64 0, .int .i64 0, .int .i64 0] ∧ At W X 0 30 _ [.int .i64 2, .int .i64 Z, .int .i64 0, .int .i64 1, .bool false]) ⟨(f4.grown b7).grown (grow1 _ _), q8, ((pp.grown b4).grown b7).grown (grow1 _ _)⟩ ?_
            clear f f4 q7 q8 t0 tf b4 b7 hC cw lc pp y0 y1 y2 y3 y4 y5 y6 y7 y8 u0 u1 u2 u3 u4 u5 u6 u7 u8
            rintro W ⟨f1, c1, p1⟩
            refine wp_region_rely_tail Grown 5 [.val (.pointer (some ⟨E, 7, none⟩)), .val (.pointer (some ⟨L.p, 0, none⟩)), .val (.int .i64 ad), .val (.agg #[.int .i64 3, .int .i64 0, .int .i64 0, .int .i64 0]), .val (.int .u64 ck)] (by kernel_rfl) Grown.refl Grown.trans (by decide) (by kernel_rfl) (by kernel_rfl) (by kernel_rfl) (by kernel_rfl) (by kernel_rfl) (by kernel_rfl) ?_
            simp only [List.take_succ_cons, List.take_zero, relyAll, Act.put, List.setIfInBounds_toArray, List.set_cons_zero, List.set_cons_succ]
            refine ⟨?_, ?_, ?_, ?_, ?_, ?_⟩
            · intro w' hg _
              refine Or.inl ⟨rfl, ?_⟩
              go_simp
              exact ⟨Grown.refl _, rfl⟩
            · intro w' hg _
              refine Or.inl ⟨rfl, ?_⟩
              have vv := (f1.sp.v.grown ((Below.refl _ _).drew)).grown hg
              have y0 := vv.c0
              have y1 := vv.c1
              have y2 := vv.c2
              have y3 := vv.c3
              have y4 := vv.c4
              have y5 := vv.c5
              have y6 := vv.c6
              have y7 := vv.c7
              have y8 := vv.c8
              go_simp
              exact ⟨Grown.refl _, rfl⟩
            · intro w' hg _
              refine Or.inl ⟨rfl, ?_⟩
              go_simp
              exact ⟨Grown.refl _, rfl⟩
            · intro w' hg _
              refine Or.inl ⟨rfl, ?_⟩
              have z0 := (c1.drew.grown hg).at0 0 rfl
              have z1 := (c1.drew.grown hg).at0 1 rfl
              have z2 := (c1.drew.grown hg).at0 2 rfl
              have z3 := (c1.drew.grown hg).at0 3 rfl
              go_simp
              exact ⟨Grown.refl _, rfl⟩
            · intro w' hg _
              refine Or.inl ⟨rfl, ?_⟩
              go_simp
              refine (pc _).mono ?_
              rintro e w'' ⟨rfl, b9⟩
              exact ⟨_, rfl, b9, rfl⟩
            intro w8 hg _
            have f8 := f1.drew.grown hg
            have p8 := p1.drew.grown hg
            clear hg f1 c1 p1 pc
            go_wp2_with (go_at_call 28; refine (store_in f8.sp.mm ad hn ck).mono ?_; rintro e w9 ⟨rfl, m9, o9, z9⟩)
            go_roundw
            case rel => exact ⟨i + 1, _, _, _, by go_num, by omega, by omega, f8.only SA0.out o9 m9 FIN.out.1, FIN.out.2, rfl, p8.only o9 HX.out⟩
            case measure => simp [intOf]; omega
      · have hi4' : ¬ (i : Int) < 4 := by omega
        as_aux_lemma =>
          have hw : Wo (q0.sw 0) 1 38 0 := AT.sw
          have hwd : ∀ a, Wd (q0.dw a) := AT.cm.wd
          have hy4 : q0.y = yQ (mwg Z 1).κ 4 := by
            have e : i = 4 := by omega
            rw [e] at hyq
            exact hyq
          have x0 := pp.at0 0 rfl
          have x1 := pp.at0 1 rfl
          have x2 := pp.at0 2 rfl
          have x3 := pp.at0 3 rfl
          have x4 := pp.at0 4 rfl
          have nw := fun W => newG (Z := Z) (G := 1) z1 z2 W
          go_wp2_with (first
            | (go_at_call 14; refine (f.where hw).mono ?_; rintro e w4 ⟨rfl, b4⟩; have f4 := (f.grown b4).grown (grow1 _ (.cells #[.int .i64 1, .int .i64 38, .int .i64 1, .int .i64 0] 42)); have p4 := (pp.grown b4).grown (grow1 _ (.cells #[.int .i64 1, .int .i64 38, .int .i64 1, .int .i64 0] 42)); have n4 := At.new w4 42 [.int .i64 1, .int .i64 38, .int .i64 1, .int .i64 0]; have v0 := p4.at0 0 rfl; have v1 := p4.at0 1 rfl; have v2 := p4.at0 2 rfl; have v3 := p4.at0 3 rfl; have v4 := p4.at0 4 rfl)
            | (go_at_call 11; refine (nw _).mono ?_; rintro e w5 ⟨W3, rfl, rfl, b5⟩; obtain ⟨sm, sma⟩ := scv_new (f4.grown b5) SA0.out 2 (mwg Z 1); have n5 := (n4.grown b5).grown (grow1 _ (mov0 (mwg Z 1).A 2 (mwg Z 1).Z (mwg Z 1).x (mwg Z 1).G (mwg Z 1).own (mwg Z 1).κ))))
          obtain ⟨M, hM⟩ : ∃ M, W3.heap.size = M := ⟨_, rfl⟩
          obtain ⟨S, hS⟩ : ∃ S, w4.heap.size = S := ⟨_, rfl⟩
          have hSL : ¬ L.has S := fun hh => by have := f.sp.mm.lt _ hh; have := b4.size; omega
          have hSM : ¬ S = M := fun e => by
            have h1 := b5.size
            have h2 : (w4.alloc (.cells #[.int .i64 1, .int .i64 38, .int .i64 1, .int .i64 0] 42)).heap.size = w4.heap.size + 1 := Go.Deep.nblk_alloc _ _
            omega
          have HS : Hid (¬ L.has S ∧ ¬ S = M) := ⟨hSL, hSM⟩
          rw [hM] at sm sma
          rw [hS] at n5
          try rw [hM]
          try rw [hS]
          have A2 : Hid (ScV w _ L E H M Z s0 σ0 q0 (mwg Z 1) (.see .see 0) ∧ RmI (mwg Z 1).κ 1 0 q0 (.see .see 0) ∧ Wo (q0.sw 0) 1 (base 4 8 4 20 0) 0 ∧ (∀ a, Wd (q0.dw a)) ∧ At _ S 0 42 _ [.int .i64 1, .int .i64 38, .int .i64 1, .int .i64 0]) := ⟨sm, ⟨rfl, rfl, hy4⟩, hw, hwd, n5⟩
          have SA : Hid (ScMA w L E H M) := sma
          clear sm sma n5 hM hS hSL hSM f f4 p4 n4 b4 b5 pp AT hyq hw hwd hy4 nw y0 y1 y2 y3 y4 y5 y6 y7 y8 x0 x1 x2 x3 x4 v0 v1 v2 v3 v4
          go_loopw [19] (fun iv wr => ∃ (j : Nat) (s' : Mm) (σ' : Nat) (q' : Q) (μ : Mv) (r : Nat), iv = .int .i64 j ∧ j + rpot r μ ≤ 8 ∧ μ.over? = false ∧ σ' ≤ 1100 + j ∧ ScV w wr L E H M Z s' σ' q' (mwg Z 1) μ ∧ RmI (mwg Z 1).κ 1 r q' μ ∧ Wo (q'.sw 0) 1 (base 4 8 4 20 0) 0 ∧ (∀ a, Wd (q'.dw a)) ∧ At wr S 0 42 _ [.int .i64 1, .int .i64 38, .int .i64 1, .int .i64 0]) (fun i _ => 100 - (intOf i).toNat)
          case atStart => exact ⟨0, s0, σ0, q0, .see .see 0, 0, rfl, by decide, rfl, by omega, A2.out⟩
          case round =>
            clear A2
            obtain ⟨j, s1, σ1, q1, μ, r, rfl, hj, hmo, hσ1, f, rm, hw, hwd, pp⟩ := hrel
            have y0 := f.sc.sp.v.c0
            have y1 := f.sc.sp.v.c1
            have y2 := f.sc.sp.v.c2
            have y3 := f.sc.sp.v.c3
            have y4 := f.sc.sp.v.c4
            have y5 := f.sc.sp.v.c5
            have y6 := f.sc.sp.v.c6
            have y7 := f.sc.sp.v.c7
            have y8 := f.sc.sp.v.c8
            have hj2 : (j : Int) < 100 := by omega
            obtain ⟨⟨q2, μ2⟩, ht⟩ : ∃ x, mvTurn (mwg Z 1) 4 20 (base 4 8 4 20) q1 μ = x := ⟨_, rfl⟩
            obtain ⟨gd, hq2, r2, rm2, hp⟩ := rm_step (Z := Z) (G := 1) (Or.inl rfl) hw rm hmo ht σ1 (fun v τ fl e => by have := f.pg; rw [e] at this; exact this)
            have k0 := f.step SA.out (by omega) hwd (mwg_ok z1 z2 (by decide)) rfl gd hmo ht
            cases hov : μ2.over? with
            | false =>
              have k := k0 false hov
              go_wp2_with (go_at_call 12; refine k.mono ?_; rintro e w2 ⟨rfl, s2, f2, o2, -⟩)
              go_roundw
              case rel => exact ⟨j + 1, s2, σ1 + 1, q2, μ2, r2, by go_num, by omega, hov, by omega, f2, rm2, by rw [hq2.1]; exact hw, by rw [hq2.2]; exact hwd, pp.only o2 (fun hh => hh.elim HS.out.1 HS.out.2)⟩
              case measure => simp [intOf]; omega
            | true =>
              have k := k0 true hov
              obtain ⟨o, τ, rfl⟩ := Mv.is_over hov
              obtain ⟨rfl, rfl⟩ : o = 4 ∧ τ = .none := by
                rcases rm2 with ⟨e, h1, h2⟩ | ⟨e, h1, h2⟩
                · exact ⟨h1, h2⟩
                · omega
              clear k0 hov rm rm2 gd ht hp hmo
              go_wp2_with (first
                | (go_at_call 12; refine k.mono ?_; rintro e w2 ⟨rfl, s2, f2, o2, -⟩)
                | (go_at_call_of 13 (Value.pointer none); refine (mspot_nil _).mono ?_; rintro e w4 ⟨rfl, b4⟩)
                | (go_at_call 13; refine (f2.spot (A := 0) (i := 0) (d := false) (μ := .over 4 .none) rfl).mono ?_; rintro e w3 ⟨rfl, b3⟩))
              have f4 := ((((f2.grown b3).grown (grow1 _ (.cells #[.int .i64 0, .int .i64 0] 38)))).grown b4).grown (grow1 _ (.cells #[.int .i64 0, .int .i64 0] 38))
              have p4 := (((((pp.only o2 (fun hh => hh.elim HS.out.1 HS.out.2)).grown b3).grown (grow1 _ (.cells #[.int .i64 0, .int .i64 0] 38)))).grown b4).grown (grow1 _ (.cells #[.int .i64 0, .int .i64 0] 38))
              have HW : Hid (Wo (q2.sw 0) 1 38 0) := by
                unfold Hid
                rw [hq2.1]
                exact hw
              have seq := fun w : World => slot_eq w
              refine wp_over (fun W => ScV w W L E H M Z s2 (σ1 + 1) q2 (mwg Z 1) (.over 4 .none) ∧ At W S 0 42 _ [.int .i64 1, .int .i64 38, .int .i64 1, .int .i64 0]) ⟨f4, p4⟩ ?_
              clear f f2 f4 pp p4 b3 b4 o2 k hw hq2 hwd y0 y1 y2 y3 y4 y5 y6 y7 y8
              rintro W ⟨f1, s1⟩
              refine wp_region_rely_tail Grown 24 [.val (.pointer (some ⟨M, 0, none⟩)), .val (.int .i64 4), .val (.int .i64 4), .val (.bool true), .val (.bool true), .val (.bool false), .val (.bool true), .val (.bool true), .val (.bool true), .val (.agg #[.int .i64 4, .int .i64 8, .int .i64 4, .int .i64 20, .int .i64 100, .int .i64 600, .int .i64 3, .pointer (some ⟨L.p, 0, none⟩), .int .i64 0]), .val (.int .u64 65536), .val (.agg #[.int .i64 1, .int .i64 38, .int .i64 1, .int .i64 0]), .val (.agg #[.int .i64 1, .int .i64 38, .int .i64 1, .int .i64 0]), .val (.bool true), .val (.bool true), .val (.bool true), .val (.pointer none), .val (.int .i64 0), .val (.bool true), .val (.bool true), .val (.bool true), .val (.bool false), .val (.bool true), .val (.bool true)] (by kernel_rfl) Grown.refl Grown.trans (by decide) (by kernel_rfl) (by kernel_rfl) (by kernel_rfl) (by kernel_rfl) (by kernel_rfl) (by kernel_rfl) ?_
              simp only [List.take_succ_cons, List.take_zero, relyAll, Act.put, List.setIfInBounds_toArray, List.set_cons_zero, List.set_cons_succ]
              refine ⟨?_, ?_, ?_, ?_, ?_, ?_, ?_, ?_, ?_, ?_, ?_, ?_, ?_, ?_, ?_, ?_, ?_, ?_, ?_, ?_, ?_, ?_, ?_, ?_, ?_⟩
              · intro w' hg _
                refine Or.inl ⟨rfl, ?_⟩
                go_simp
                exact ⟨Grown.refl _, rfl⟩
              · intro w' hg _
                refine Or.inl ⟨rfl, ?_⟩
                go_simp
                refine (((f1.grown ((Below.refl _ _).drew)).grown hg).out).mono ?_
                rintro e w'' ⟨rfl, rfl⟩
                exact ⟨_, rfl, Grown.refl _, rfl⟩
              · intro w' hg _
                refine Or.inl ⟨rfl, ?_⟩
                go_simp
                exact ⟨Grown.refl _, rfl⟩
              · intro w' hg _
                refine Or.inl ⟨rfl, ?_⟩
                go_simp
                refine ⟨Grown.refl _, ?_⟩
                first
                  | rfl
                  | (simp [Want.pred]; done)
              · intro w' hg _
                refine Or.inl ⟨rfl, ?_⟩
                go_simp
                exact ⟨Grown.refl _, rfl⟩
              · intro w' hg _
                refine Or.inl ⟨rfl, ?_⟩
                go_simp
                exact ⟨Grown.refl _, rfl⟩
              · intro w' hg _
                refine Or.inl ⟨rfl, ?_⟩
                go_simp
                exact ⟨Grown.refl _, rfl⟩
              · intro w' hg _
                refine Or.inl ⟨rfl, ?_⟩
                go_simp
                exact ⟨Grown.refl _, rfl⟩
              · intro w' hg _
                refine Or.inl ⟨rfl, ?_⟩
                go_simp
                exact ⟨Grown.refl _, rfl⟩
              · intro w' hg _
                refine Or.inl ⟨rfl, ?_⟩
                have vv := (f1.sc.sp.v.grown ((Below.refl _ _).drew)).grown hg
                have y0 := vv.c0
                have y1 := vv.c1
                have y2 := vv.c2
                have y3 := vv.c3
                have y4 := vv.c4
                have y5 := vv.c5
                have y6 := vv.c6
                have y7 := vv.c7
                have y8 := vv.c8
                go_simp
                exact ⟨Grown.refl _, rfl⟩
              · intro w' hg _
                refine Or.inl ⟨rfl, ?_⟩
                go_simp
                exact ⟨Grown.refl _, rfl⟩
              · intro w' hg _
                refine Or.inl ⟨rfl, ?_⟩
                go_simp
                refine ((((f1.grown ((Below.refl _ _).drew)).grown hg).sc.where HW.out)).mono ?_
                rintro e w'' ⟨rfl, b9⟩
                exact ⟨_, rfl, b9, rfl⟩
              · intro w' hg _
                refine Or.inl ⟨rfl, ?_⟩
                have z0 := (s1.drew.grown hg).at0 0 rfl
                have z1 := (s1.drew.grown hg).at0 1 rfl
                have z2 := (s1.drew.grown hg).at0 2 rfl
                have z3 := (s1.drew.grown hg).at0 3 rfl
                go_simp
                exact ⟨Grown.refl _, rfl⟩
              · intro w' hg _
                refine Or.inl ⟨rfl, ?_⟩
                have z := seq w'
                go_simp
                exact ⟨Grown.refl _, rfl⟩
              · intro w' hg _
                refine Or.inl ⟨rfl, ?_⟩
                go_simp
                exact ⟨Grown.refl _, rfl⟩
              · intro w' hg _
                refine Or.inl ⟨rfl, ?_⟩
                go_simp
                exact ⟨Grown.refl _, rfl⟩
              · intro w' hg _
                refine Or.inl ⟨rfl, ?_⟩
                go_simp
                exact ⟨Grown.refl _, rfl⟩
              · intro w' hg _
                refine Or.inl ⟨rfl, ?_⟩
                go_simp
                refine (mout_nil _).mono ?_
                rintro e w'' ⟨rfl, rfl⟩
                exact ⟨_, rfl, Grown.refl _, rfl⟩
              · intro w' hg _
                refine Or.inl ⟨rfl, ?_⟩
                go_simp
                refine ⟨Grown.refl _, ?_⟩
                first
                  | rfl
                  | (simp [Want.pred]; done)
              · intro w' hg _
                refine Or.inl ⟨rfl, ?_⟩
                go_simp
                exact ⟨Grown.refl _, rfl⟩
              · intro w' hg _
                refine Or.inl ⟨rfl, ?_⟩
                go_simp
                exact ⟨Grown.refl _, rfl⟩
              · intro w' hg _
                refine Or.inl ⟨rfl, ?_⟩
                go_simp
                exact ⟨Grown.refl _, rfl⟩
              · intro w' hg _
                refine Or.inl ⟨rfl, ?_⟩
                go_simp
                exact ⟨Grown.refl _, rfl⟩
              · intro w' hg _
                refine Or.inl ⟨rfl, ?_⟩
                go_simp
                exact ⟨Grown.refl _, rfl⟩
              intro w6 hg _
              have f6 := (f1.grown ((Below.refl _ _).drew)).grown hg
              go_wp2
              go_ret
              exact ⟨rfl, f6.sc.sp.b⟩
  | true =>
    go_enter Tryz.func7, Tryz.ntmps7
    go_wp2_with (first
      | (go_at_call 9; refine (begun_any a ao N cap z w HR.out HZ.out z1 z2).mono ?_; rintro e w1 ⟨L, s, σ, q, rfl, hσ, m1, t1, a1, hyq, b1, l1⟩; obtain ⟨sc1, sa⟩ := sc_new (Z := Z) m1 t1 b1 l1)
      | (go_at_call 10; refine (awake11_any _).mono ?_; rintro e w2 ⟨rfl, b2⟩; have sc2 := sc1.grown b2; have y0 := sc2.sp.v.c0; have y1 := sc2.sp.v.c1; have y2 := sc2.sp.v.c2; have y3 := sc2.sp.v.c3; have y4 := sc2.sp.v.c4; have y5 := sc2.sp.v.c5; have y6 := sc2.sp.v.c6; have y7 := sc2.sp.v.c7; have y8 := sc2.sp.v.c8; obtain ⟨_, hd⟩ := sc2.hd; have g0 := hd.at0 0 rfl; have g1 := hd.at0 1 rfl; have g2 := hd.at0 2 rfl; have g3 := hd.at0 3 rfl; have g4 := hd.at0 4 rfl; have hf3 := (At.new w2 30 [.int .i64 2, .int .i64 Z, .int .i64 0, .int .i64 1, .bool false]).fz; have gx3 := (hd.grown (grow1 _ (.cells #[.int .i64 2, .int .i64 Z, .int .i64 0, .int .i64 1, .bool false] 30))).at0 3 rfl))
    have h0 := At.new w2 30 [.int .i64 2, .int .i64 Z, .int .i64 0, .int .i64 2, .bool false]
    obtain ⟨E, hE⟩ : ∃ E, w1.heap.size = E := ⟨_, rfl⟩
    have hXL : ¬ L.has w2.heap.size := fun hh => by have := sc2.sp.mm.lt _ hh; omega
    rw [hE] at sc2 sa
    try rw [hE]
    obtain ⟨H, hH⟩ : ∃ H, E + 1 = H := ⟨_, rfl⟩
    rw [hH] at sc2 sa
    try rw [hH]
    obtain ⟨X, hX⟩ : ∃ X, w2.heap.size = X := ⟨_, rfl⟩
    rw [hX] at h0 hXL
    try rw [hX]
    have HX : Hid (¬ L.has X) := hXL
    have SA0 : Hid (ScA w L E H) := sa
    have A0 : Hid (Sc w _ L E H Z s σ q ∧ AtA Z 0 0 1 (vals N z Z) q ∧ q.y = yQ (mw Z 0).κ 0 ∧ At _ X 0 30 _ [.int .i64 2, .int .i64 Z, .int .i64 0, .int .i64 2, .bool false]) := ⟨sc2.grown (grow1 _ (.cells #[.int .i64 2, .int .i64 Z, .int .i64 0, .int .i64 2, .bool false] 30)), a1, hyq.trans (yQ_0 _).symm, h0⟩
    clear sc1 sc2 m1 t1 b1 l1 b2 hd hE hH hX hXL h0 sa a1 hyq g0 g1 g2 g3 g4 gx3 hf3 y0 y1 y2 y3 y4 y5 y6 y7 y8
    go_loopw [14] (fun iv wr => ∃ (i : Nat) (s' : Mm) (σ' : Nat) (q' : Q), iv = .int .i64 i ∧ i ≤ 4 ∧ σ' ≤ 1000 + i ∧ Sc w wr L E H Z s' σ' q' ∧ AtA Z 0 0 1 (vals N z Z) q' ∧ q'.y = yQ (mw Z 0).κ i ∧ At wr X 0 30 _ [.int .i64 2, .int .i64 Z, .int .i64 0, .int .i64 2, .bool false]) (fun i _ => 5 - (intOf i).toNat)
    case atStart => exact ⟨0, s, σ, q, rfl, by omega, by omega, A0.out⟩
    case round =>
      clear A0
      obtain ⟨i, s0, σ0, q0, rfl, hi, hσ0, f, AT, hyq, pp⟩ := hrel
      have y0 := f.sp.v.c0
      have y1 := f.sp.v.c1
      have y2 := f.sp.v.c2
      have y3 := f.sp.v.c3
      have y4 := f.sp.v.c4
      have y5 := f.sp.v.c5
      have y6 := f.sp.v.c6
      have y7 := f.sp.v.c7
      have y8 := f.sp.v.c8
      by_cases hi4 : i < 4
      · have hi4' : (i : Int) < 4 := by omega
        by_cases hi0 : i = 0
        · have HI0 : Hid (i = 0) := hi0
          as_aux_lemma =>
            obtain ⟨κ, hκe⟩ : ∃ κ, (mw Z 0).κ = κ := ⟨_, rfl⟩
            have k4 : κ < 4 := by rw [← hκe]; exact (mw_ok (c := 0) z1 z2 (by decide)).k4
            have hrb := room_bd κ
            obtain ⟨ad, had⟩ : ∃ ad : Nat, 26 + i * 3 = ad := ⟨_, rfl⟩
            have lc := fun w => chunkAt11 i ad had (by omega) w
            have cw := fun w => chunk_w ⟨2, κ, room κ, 2⟩ 2 ⟨by simp only; omega, by simp only; omega, by simp only; omega, by simp only; omega⟩ (by decide) w
            obtain ⟨cka, hcka⟩ : ∃ x, (⟨2, κ, room κ, 2⟩ : Ck).w = x := ⟨_, rfl⟩
            rw [hcka] at cw
            have HCW : Hid (s0.wd ad = cka) := by
              unfold Hid
              have e := f.sp.tw.yard.ckv 0 (by decide)
              rw [hyq, yQ_ck0, hκe, hcka] at e
              rw [show ad = 26 by omega]
              exact e
            have hn : ad < s0.n := by have : s0.n = 118 := f.sp.tw.len; omega
            clear hcka hκe hi0
            go_wp2_with (first
              | (go_at_call 20; refine (lc _).mono ?_; rintro e w4 ⟨rfl, b4⟩; have f4 := f.grown b4; have u0 := f4.sp.v.c0; have u1 := f4.sp.v.c1; have u2 := f4.sp.v.c2; have u3 := f4.sp.v.c3; have u4 := f4.sp.v.c4; have u5 := f4.sp.v.c5; have u6 := f4.sp.v.c6; have u7 := f4.sp.v.c7; have u8 := f4.sp.v.c8)
              | (go_at_call 22; refine (peek_is f4.sp.mm ad hn cka HCW.out).mono ?_; rintro e w7 ⟨rfl, rfl⟩)
              | (go_at_call 23; refine (cw _).mono ?_; rintro e w7 ⟨rfl, b7⟩; have q7 := At.new w7 54 [.int .i64 2, .int .i64 κ, .int .i64 (room κ), .int .i64 2]; have t0 := q7.at0 0 rfl))
            go_roundw
            case rel => exact ⟨i + 1, _, _, _, by go_num, by omega, by omega, (f4.grown b7).grown (grow1 _ _), AT, by rw [HI0.out] at hyq ⊢; rw [hyq, yQ_0, yQ_1], ((pp.grown b4).grown b7).grown (grow1 _ _)⟩
            case measure => simp [intOf]; omega
        · have hi1 : 1 ≤ i := by omega
          as_aux_lemma =>
            obtain ⟨ad, had⟩ : ∃ ad : Nat, 26 + i * 3 = ad := ⟨_, rfl⟩
            have lc := fun w => chunkAt11 i ad had (by omega) w
            obtain ⟨hcw, hn, tw'⟩ := quiet_town f.sp.tw (by omega) hi1 hi4 hyq had
            have cw := fun w => chunk_w ⟨0, 0, 0, 0⟩ 1 ⟨by decide, by decide, by decide, by decide⟩ (by decide) w
            have pc := fun w => putChunk_w ⟨3, 0, 0, 0⟩ 1 ⟨by decide, by decide, by decide, by decide⟩ (by decide) 3 0 0 0 rfl rfl rfl rfl w
            obtain ⟨cka, hcka⟩ : ∃ x, (⟨0, 0, 0, 0⟩ : Ck).w = x := ⟨_, rfl⟩
            obtain ⟨ck, hck⟩ : ∃ x, (⟨3, 0, 0, 0⟩ : Ck).w = x := ⟨_, rfl⟩
            rw [hcka] at cw hcw
            rw [hck] at pc tw'
            have HCW : Hid (s0.wd ad = cka) := hcw
            have FIN : Hid (Town 4 8 4 20 (s0.step ad ck) (σ0 + 1) { q0 with y := yQ (mw Z 0).κ (i + 1) } ∧ AtA Z 0 0 1 (vals N z Z) { q0 with y := yQ (mw Z 0).κ (i + 1) }) := ⟨tw', AT.withY' _⟩
            clear hck hcka tw' hcw AT hyq
            have cw : ∀ w, Calls Tryz.prog 23 #[.int .u64 cka] w fun e w' => e = .returned (.agg #[.int .i64 0, .int .i64 0, .int .i64 0, .int .i64 0]) ∧ Below w.heap.size w w' := cw
            go_wp2_with (first
              | (go_at_call 20; refine (lc _).mono ?_; rintro e w4 ⟨rfl, b4⟩; have f4 := f.grown b4; have u0 := f4.sp.v.c0; have u1 := f4.sp.v.c1; have u2 := f4.sp.v.c2; have u3 := f4.sp.v.c3; have u4 := f4.sp.v.c4; have u5 := f4.sp.v.c5; have u6 := f4.sp.v.c6; have u7 := f4.sp.v.c7; have u8 := f4.sp.v.c8)
              | (go_at_call 22; refine (peek_is f4.sp.mm ad hn cka HCW.out).mono ?_; rintro e w7 ⟨rfl, rfl⟩)
              | (go_at_call 23; refine (cw _).mono ?_; rintro e w7 ⟨rfl, b7⟩; have q7 := At.new w7 54 [.int .i64 0, .int .i64 0, .int .i64 0, .int .i64 0]; have t0 := q7.at0 0 rfl; have tf := q7.fz))
            have q8 := At.new w7 54 [.int .i64 3, .int .i64 0, .int .i64 0, .int .i64 0]
            obtain ⟨C, hC⟩ : ∃ C, w7.heap.size = C := ⟨_, rfl⟩
            rw [hC] at q8
            try rw [hC]
            refine wp_over (fun W => Sc w W L E H Z s0 σ0 q0 ∧ At W C 0 54 _ [.int .i64 3, .int .i64 0, .int .i64 0, .int .i64 0] ∧ At W X 0 30 _ [.int .i64 2, .int .i64 Z, .int .i64 0, .int .i64 2, .bool false]) ⟨(f4.grown b7).grown (grow1 _ _), q8, ((pp.grown b4).grown b7).grown (grow1 _ _)⟩ ?_
            clear f f4 q7 q8 t0 tf b4 b7 hC cw lc pp y0 y1 y2 y3 y4 y5 y6 y7 y8 u0 u1 u2 u3 u4 u5 u6 u7 u8
            rintro W ⟨f1, c1, p1⟩
            refine wp_region_rely_tail Grown 5 [.val (.pointer (some ⟨E, 7, none⟩)), .val (.pointer (some ⟨L.p, 0, none⟩)), .val (.int .i64 ad), .val (.agg #[.int .i64 3, .int .i64 0, .int .i64 0, .int .i64 0]), .val (.int .u64 ck)] (by kernel_rfl) Grown.refl Grown.trans (by decide) (by kernel_rfl) (by kernel_rfl) (by kernel_rfl) (by kernel_rfl) (by kernel_rfl) (by kernel_rfl) ?_
            simp only [List.take_succ_cons, List.take_zero, relyAll, Act.put, List.setIfInBounds_toArray, List.set_cons_zero, List.set_cons_succ]
            refine ⟨?_, ?_, ?_, ?_, ?_, ?_⟩
            · intro w' hg _
              refine Or.inl ⟨rfl, ?_⟩
              go_simp
              exact ⟨Grown.refl _, rfl⟩
            · intro w' hg _
              refine Or.inl ⟨rfl, ?_⟩
              have vv := (f1.sp.v.grown ((Below.refl _ _).drew)).grown hg
              have y0 := vv.c0
              have y1 := vv.c1
              have y2 := vv.c2
              have y3 := vv.c3
              have y4 := vv.c4
              have y5 := vv.c5
              have y6 := vv.c6
              have y7 := vv.c7
              have y8 := vv.c8
              go_simp
              exact ⟨Grown.refl _, rfl⟩
            · intro w' hg _
              refine Or.inl ⟨rfl, ?_⟩
              go_simp
              exact ⟨Grown.refl _, rfl⟩
            · intro w' hg _
              refine Or.inl ⟨rfl, ?_⟩
              have z0 := (c1.drew.grown hg).at0 0 rfl
              have z1 := (c1.drew.grown hg).at0 1 rfl
              have z2 := (c1.drew.grown hg).at0 2 rfl
              have z3 := (c1.drew.grown hg).at0 3 rfl
              go_simp
              exact ⟨Grown.refl _, rfl⟩
            · intro w' hg _
              refine Or.inl ⟨rfl, ?_⟩
              go_simp
              refine (pc _).mono ?_
              rintro e w'' ⟨rfl, b9⟩
              exact ⟨_, rfl, b9, rfl⟩
            intro w8 hg _
            have f8 := f1.drew.grown hg
            have p8 := p1.drew.grown hg
            clear hg f1 c1 p1 pc
            go_wp2_with (go_at_call 28; refine (store_in f8.sp.mm ad hn ck).mono ?_; rintro e w9 ⟨rfl, m9, o9, z9⟩)
            go_roundw
            case rel => exact ⟨i + 1, _, _, _, by go_num, by omega, by omega, f8.only SA0.out o9 m9 FIN.out.1, FIN.out.2, rfl, p8.only o9 HX.out⟩
            case measure => simp [intOf]; omega
      · have hi4' : ¬ (i : Int) < 4 := by omega
        as_aux_lemma =>
          have hw : Wo (q0.sw 0) 1 38 0 := AT.sw
          have hwd : ∀ a, Wd (q0.dw a) := AT.cm.wd
          have hy4 : q0.y = yQ (mwg Z 2).κ 4 := by
            have e : i = 4 := by omega
            rw [e] at hyq
            exact hyq
          have x0 := pp.at0 0 rfl
          have x1 := pp.at0 1 rfl
          have x2 := pp.at0 2 rfl
          have x3 := pp.at0 3 rfl
          have x4 := pp.at0 4 rfl
          have nw := fun W => newG (Z := Z) (G := 2) z1 z2 W
          go_wp2_with (first
            | (go_at_call 14; refine (f.where hw).mono ?_; rintro e w4 ⟨rfl, b4⟩; have f4 := (f.grown b4).grown (grow1 _ (.cells #[.int .i64 1, .int .i64 38, .int .i64 1, .int .i64 0] 42)); have p4 := (pp.grown b4).grown (grow1 _ (.cells #[.int .i64 1, .int .i64 38, .int .i64 1, .int .i64 0] 42)); have n4 := At.new w4 42 [.int .i64 1, .int .i64 38, .int .i64 1, .int .i64 0]; have v0 := p4.at0 0 rfl; have v1 := p4.at0 1 rfl; have v2 := p4.at0 2 rfl; have v3 := p4.at0 3 rfl; have v4 := p4.at0 4 rfl)
            | (go_at_call 11; refine (nw _).mono ?_; rintro e w5 ⟨W3, rfl, rfl, b5⟩; obtain ⟨sm, sma⟩ := scv_new (f4.grown b5) SA0.out 2 (mwg Z 2); have n5 := (n4.grown b5).grown (grow1 _ (mov0 (mwg Z 2).A 2 (mwg Z 2).Z (mwg Z 2).x (mwg Z 2).G (mwg Z 2).own (mwg Z 2).κ))))
          obtain ⟨M, hM⟩ : ∃ M, W3.heap.size = M := ⟨_, rfl⟩
          obtain ⟨S, hS⟩ : ∃ S, w4.heap.size = S := ⟨_, rfl⟩
          have hSL : ¬ L.has S := fun hh => by have := f.sp.mm.lt _ hh; have := b4.size; omega
          have hSM : ¬ S = M := fun e => by
            have h1 := b5.size
            have h2 : (w4.alloc (.cells #[.int .i64 1, .int .i64 38, .int .i64 1, .int .i64 0] 42)).heap.size = w4.heap.size + 1 := Go.Deep.nblk_alloc _ _
            omega
          have HS : Hid (¬ L.has S ∧ ¬ S = M) := ⟨hSL, hSM⟩
          rw [hM] at sm sma
          rw [hS] at n5
          try rw [hM]
          try rw [hS]
          have A2 : Hid (ScV w _ L E H M Z s0 σ0 q0 (mwg Z 2) (.see .see 0) ∧ RmI (mwg Z 2).κ 2 0 q0 (.see .see 0) ∧ Wo (q0.sw 0) 1 (base 4 8 4 20 0) 0 ∧ (∀ a, Wd (q0.dw a)) ∧ At _ S 0 42 _ [.int .i64 1, .int .i64 38, .int .i64 1, .int .i64 0]) := ⟨sm, ⟨rfl, rfl, hy4⟩, hw, hwd, n5⟩
          have SA : Hid (ScMA w L E H M) := sma
          clear sm sma n5 hM hS hSL hSM f f4 p4 n4 b4 b5 pp AT hyq hw hwd hy4 nw y0 y1 y2 y3 y4 y5 y6 y7 y8 x0 x1 x2 x3 x4 v0 v1 v2 v3 v4
          go_loopw [19] (fun iv wr => ∃ (j : Nat) (s' : Mm) (σ' : Nat) (q' : Q) (μ : Mv) (r : Nat), iv = .int .i64 j ∧ j + rpot r μ ≤ 8 ∧ μ.over? = false ∧ σ' ≤ 1100 + j ∧ ScV w wr L E H M Z s' σ' q' (mwg Z 2) μ ∧ RmI (mwg Z 2).κ 2 r q' μ ∧ Wo (q'.sw 0) 1 (base 4 8 4 20 0) 0 ∧ (∀ a, Wd (q'.dw a)) ∧ At wr S 0 42 _ [.int .i64 1, .int .i64 38, .int .i64 1, .int .i64 0]) (fun i _ => 100 - (intOf i).toNat)
          case atStart => exact ⟨0, s0, σ0, q0, .see .see 0, 0, rfl, by decide, rfl, by omega, A2.out⟩
          case round =>
            clear A2
            obtain ⟨j, s1, σ1, q1, μ, r, rfl, hj, hmo, hσ1, f, rm, hw, hwd, pp⟩ := hrel
            have y0 := f.sc.sp.v.c0
            have y1 := f.sc.sp.v.c1
            have y2 := f.sc.sp.v.c2
            have y3 := f.sc.sp.v.c3
            have y4 := f.sc.sp.v.c4
            have y5 := f.sc.sp.v.c5
            have y6 := f.sc.sp.v.c6
            have y7 := f.sc.sp.v.c7
            have y8 := f.sc.sp.v.c8
            have hj2 : (j : Int) < 100 := by omega
            obtain ⟨⟨q2, μ2⟩, ht⟩ : ∃ x, mvTurn (mwg Z 2) 4 20 (base 4 8 4 20) q1 μ = x := ⟨_, rfl⟩
            obtain ⟨gd, hq2, r2, rm2, hp⟩ := rm_step (Z := Z) (G := 2) (Or.inr rfl) hw rm hmo ht σ1 (fun v τ fl e => by have := f.pg; rw [e] at this; exact this)
            have k0 := f.step SA.out (by omega) hwd (mwg_ok z1 z2 (by decide)) rfl gd hmo ht
            cases hov : μ2.over? with
            | false =>
              have k := k0 false hov
              go_wp2_with (go_at_call 12; refine k.mono ?_; rintro e w2 ⟨rfl, s2, f2, o2, -⟩)
              go_roundw
              case rel => exact ⟨j + 1, s2, σ1 + 1, q2, μ2, r2, by go_num, by omega, hov, by omega, f2, rm2, by rw [hq2.1]; exact hw, by rw [hq2.2]; exact hwd, pp.only o2 (fun hh => hh.elim HS.out.1 HS.out.2)⟩
              case measure => simp [intOf]; omega
            | true =>
              have k := k0 true hov
              obtain ⟨o, τ, rfl⟩ := Mv.is_over hov
              obtain ⟨rfl, rfl⟩ : o = 2 ∧ τ = .see := by
                rcases rm2 with ⟨e, h1, h2⟩ | ⟨e, h1, h2⟩
                · omega
                · exact ⟨h1, h2⟩
              clear k0 hov rm rm2 gd ht hp hmo
              go_wp2_with (first
                | (go_at_call 12; refine k.mono ?_; rintro e w2 ⟨rfl, s2, f2, o2, -⟩)
                | (go_at_call_of 13 (Value.pointer none); refine (mspot_nil _).mono ?_; rintro e w4 ⟨rfl, b4⟩)
                | (go_at_call 13; refine (f2.spot (A := 0) (i := 0) (d := false) (μ := .over 2 .see) rfl).mono ?_; rintro e w3 ⟨rfl, b3⟩))
              have f4 := ((((f2.grown b3).grown (grow1 _ (.cells #[.int .i64 0, .int .i64 0] 38)))).grown b4).grown (grow1 _ (.cells #[.int .i64 0, .int .i64 0] 38))
              have p4 := (((((pp.only o2 (fun hh => hh.elim HS.out.1 HS.out.2)).grown b3).grown (grow1 _ (.cells #[.int .i64 0, .int .i64 0] 38)))).grown b4).grown (grow1 _ (.cells #[.int .i64 0, .int .i64 0] 38))
              have HW : Hid (Wo (q2.sw 0) 1 38 0) := by
                unfold Hid
                rw [hq2.1]
                exact hw
              have seq := fun w : World => slot_eq w
              refine wp_over (fun W => ScV w W L E H M Z s2 (σ1 + 1) q2 (mwg Z 2) (.over 2 .see) ∧ At W S 0 42 _ [.int .i64 1, .int .i64 38, .int .i64 1, .int .i64 0]) ⟨f4, p4⟩ ?_
              clear f f2 f4 pp p4 b3 b4 o2 k hw hq2 hwd y0 y1 y2 y3 y4 y5 y6 y7 y8
              rintro W ⟨f1, s1⟩
              refine wp_region_rely_tail Grown 24 [.val (.pointer (some ⟨M, 0, none⟩)), .val (.int .i64 2), .val (.int .i64 2), .val (.bool true), .val (.bool true), .val (.bool false), .val (.bool true), .val (.bool true), .val (.bool true), .val (.agg #[.int .i64 4, .int .i64 8, .int .i64 4, .int .i64 20, .int .i64 100, .int .i64 600, .int .i64 3, .pointer (some ⟨L.p, 0, none⟩), .int .i64 0]), .val (.int .u64 65536), .val (.agg #[.int .i64 1, .int .i64 38, .int .i64 1, .int .i64 0]), .val (.agg #[.int .i64 1, .int .i64 38, .int .i64 1, .int .i64 0]), .val (.bool true), .val (.bool true), .val (.bool true), .val (.pointer none), .val (.int .i64 0), .val (.bool true), .val (.bool true), .val (.bool true), .val (.bool false), .val (.bool true), .val (.bool true)] (by kernel_rfl) Grown.refl Grown.trans (by decide) (by kernel_rfl) (by kernel_rfl) (by kernel_rfl) (by kernel_rfl) (by kernel_rfl) (by kernel_rfl) ?_
              simp only [List.take_succ_cons, List.take_zero, relyAll, Act.put, List.setIfInBounds_toArray, List.set_cons_zero, List.set_cons_succ]
              refine ⟨?_, ?_, ?_, ?_, ?_, ?_, ?_, ?_, ?_, ?_, ?_, ?_, ?_, ?_, ?_, ?_, ?_, ?_, ?_, ?_, ?_, ?_, ?_, ?_, ?_⟩
              · intro w' hg _
                refine Or.inl ⟨rfl, ?_⟩
                go_simp
                exact ⟨Grown.refl _, rfl⟩
              · intro w' hg _
                refine Or.inl ⟨rfl, ?_⟩
                go_simp
                refine (((f1.grown ((Below.refl _ _).drew)).grown hg).out).mono ?_
                rintro e w'' ⟨rfl, rfl⟩
                exact ⟨_, rfl, Grown.refl _, rfl⟩
              · intro w' hg _
                refine Or.inl ⟨rfl, ?_⟩
                go_simp
                exact ⟨Grown.refl _, rfl⟩
              · intro w' hg _
                refine Or.inl ⟨rfl, ?_⟩
                go_simp
                refine ⟨Grown.refl _, ?_⟩
                first
                  | rfl
                  | (simp [Want.pred]; done)
              · intro w' hg _
                refine Or.inl ⟨rfl, ?_⟩
                go_simp
                exact ⟨Grown.refl _, rfl⟩
              · intro w' hg _
                refine Or.inl ⟨rfl, ?_⟩
                go_simp
                exact ⟨Grown.refl _, rfl⟩
              · intro w' hg _
                refine Or.inl ⟨rfl, ?_⟩
                go_simp
                exact ⟨Grown.refl _, rfl⟩
              · intro w' hg _
                refine Or.inl ⟨rfl, ?_⟩
                go_simp
                exact ⟨Grown.refl _, rfl⟩
              · intro w' hg _
                refine Or.inl ⟨rfl, ?_⟩
                go_simp
                exact ⟨Grown.refl _, rfl⟩
              · intro w' hg _
                refine Or.inl ⟨rfl, ?_⟩
                have vv := (f1.sc.sp.v.grown ((Below.refl _ _).drew)).grown hg
                have y0 := vv.c0
                have y1 := vv.c1
                have y2 := vv.c2
                have y3 := vv.c3
                have y4 := vv.c4
                have y5 := vv.c5
                have y6 := vv.c6
                have y7 := vv.c7
                have y8 := vv.c8
                go_simp
                exact ⟨Grown.refl _, rfl⟩
              · intro w' hg _
                refine Or.inl ⟨rfl, ?_⟩
                go_simp
                exact ⟨Grown.refl _, rfl⟩
              · intro w' hg _
                refine Or.inl ⟨rfl, ?_⟩
                go_simp
                refine ((((f1.grown ((Below.refl _ _).drew)).grown hg).sc.where HW.out)).mono ?_
                rintro e w'' ⟨rfl, b9⟩
                exact ⟨_, rfl, b9, rfl⟩
              · intro w' hg _
                refine Or.inl ⟨rfl, ?_⟩
                have z0 := (s1.drew.grown hg).at0 0 rfl
                have z1 := (s1.drew.grown hg).at0 1 rfl
                have z2 := (s1.drew.grown hg).at0 2 rfl
                have z3 := (s1.drew.grown hg).at0 3 rfl
                go_simp
                exact ⟨Grown.refl _, rfl⟩
              · intro w' hg _
                refine Or.inl ⟨rfl, ?_⟩
                have z := seq w'
                go_simp
                exact ⟨Grown.refl _, rfl⟩
              · intro w' hg _
                refine Or.inl ⟨rfl, ?_⟩
                go_simp
                exact ⟨Grown.refl _, rfl⟩
              · intro w' hg _
                refine Or.inl ⟨rfl, ?_⟩
                go_simp
                exact ⟨Grown.refl _, rfl⟩
              · intro w' hg _
                refine Or.inl ⟨rfl, ?_⟩
                go_simp
                exact ⟨Grown.refl _, rfl⟩
              · intro w' hg _
                refine Or.inl ⟨rfl, ?_⟩
                go_simp
                refine (mout_nil _).mono ?_
                rintro e w'' ⟨rfl, rfl⟩
                exact ⟨_, rfl, Grown.refl _, rfl⟩
              · intro w' hg _
                refine Or.inl ⟨rfl, ?_⟩
                go_simp
                refine ⟨Grown.refl _, ?_⟩
                first
                  | rfl
                  | (simp [Want.pred]; done)
              · intro w' hg _
                refine Or.inl ⟨rfl, ?_⟩
                go_simp
                exact ⟨Grown.refl _, rfl⟩
              · intro w' hg _
                refine Or.inl ⟨rfl, ?_⟩
                go_simp
                exact ⟨Grown.refl _, rfl⟩
              · intro w' hg _
                refine Or.inl ⟨rfl, ?_⟩
                go_simp
                exact ⟨Grown.refl _, rfl⟩
              · intro w' hg _
                refine Or.inl ⟨rfl, ?_⟩
                go_simp
                exact ⟨Grown.refl _, rfl⟩
              · intro w' hg _
                refine Or.inl ⟨rfl, ?_⟩
                go_simp
                exact ⟨Grown.refl _, rfl⟩
              intro w6 hg _
              have f6 := (f1.grown ((Below.refl _ _).drew)).grown hg
              go_wp2
              go_ret
              exact ⟨rfl, f6.sc.sp.b⟩

end Go.Proofs.YtkgpffcnimmdkaaGreat
