/- MoveAgain, walked. -/
import Derived.Test.YtkgpffcnimmdkaaGreatMovAwake
import Derived.Test.YtkgpffcnimmdkaaGreatArgs
namespace Go.Proofs.YtkgpffcnimmdkaaGreat
open Go.RowKit

/-- the chunks behind a move out of a chunk, and when the next one is to be evacuated -/
def yEof (κ n : Nat) (y : Y) : Y := ⟨upd y.ck (n + 1) ⟨1, κ, room κ, (y.ck (n + 1)).sp + 1⟩, upd y.op κ (n + 1 + 1)⟩
def Yn (κ : Nat) : Nat → Y
  | 0 => yB κ
  | n + 1 => ⟨upd (yEof κ n (Yn κ n)).ck (n + 1) ⟨2, κ, room κ, 2⟩, (yEof κ n (Yn κ n)).op⟩

theorem yEof_ck0 (κ : Nat) : (yEof κ 0 (Yn κ 0)).ck 1 = ⟨1, κ, room κ, 1⟩ := upd_same (Yn κ 0).ck 1 ⟨1, κ, room κ, 1⟩
theorem yEof_ck1 (κ : Nat) : (yEof κ 1 (Yn κ 1)).ck 2 = ⟨1, κ, room κ, 1⟩ := upd_same (Yn κ 1).ck 2 ⟨1, κ, room κ, 1⟩

theorem goesC (κ : Nat) : Goes 4 20 κ (base 4 8 4 20) 10 (Yn κ 1) .see (yEof κ 1 (Yn κ 1)) (.won (base 4 8 4 20 2) 2) := by
  have hr := room_bd κ
  have ho : (Yn κ 1).op κ = 2 := upd_same (Yn κ 0).op κ 2
  have h1 : (Yn κ 1).ck 1 = ⟨2, κ, room κ, 2⟩ := upd_same (yEof κ 0 (Yn κ 0)).ck 1 ⟨2, κ, room κ, 2⟩
  have h0 : (Yn κ 1).ck 0 = ⟨2, κ, room κ, 2⟩ := rfl
  have h2 : (Yn κ 1).ck 2 = ⟨0, 0, 0, 0⟩ := rfl
  refine .more (y1 := Yn κ 1) (τ1 := .ask 1) rfl (by simp [turn, ho]) rfl ?_
  refine .more (y1 := Yn κ 1) (τ1 := .look 2 0) rfl (by simp [turn, h1, adv]) rfl ?_
  refine .more (y1 := Yn κ 1) (τ1 := .look 2 1) rfl (by simp [turn, h0, adv]) rfl ?_
  refine .more (y1 := Yn κ 1) (τ1 := .look 2 2) rfl (by simp [turn, h1, adv]) rfl ?_
  exact goes_take (by omega) ho (by rw [h2])

theorem again_mi0 {Z : Nat} {val : Nat → Int} {q : Q} (h : AtA Z 0 0 1 val q) (hy : q.y = Yn (mw Z 0).κ 0) : MI false Z 0 0 val (yEof (mw Z 0).κ 0 (Yn (mw Z 0).κ 0)) 9 q (.see .see 0) := bgn_mi false h hy
theorem again_mi1 {Z : Nat} {val : Nat → Int} {q : Q} (h : AtA Z 1 1 1 val q) (hy : q.y = Yn (mw Z 0).κ 1) : MI false Z 1 1 val (yEof (mw Z 0).κ 1 (Yn (mw Z 0).κ 1)) 10 q (.see .see 0) :=
  ⟨h, ⟨by decide, by decide, fun e => (by cases e), fun _ => rfl⟩, Or.inl ⟨rfl, by rw [hy]; exact goesC _⟩⟩

theorem AtB.next {Z c V : Nat} {val : Nat → Int} {q : Q} (B : AtB Z c V 2 0 0 val q) (hc : c + 1 ≤ 2) : AtA Z (c + 1) (V + 1) 1 val q := by
  refine ⟨⟨B.cm.z1, B.cm.z2, hc, B.cm.wd, B.hB, B.cm.nf, B.cm.vb⟩, B.sw, fun j hj => ?_, fun i hi => ⟨?_, ?_⟩⟩
  · obtain ⟨-, hv, hf⟩ := val_cell (B.cm.vb j hj)
    rw [B.cl j hj, hv, hf]
    exact ⟨rfl, fun e => by cases e⟩
  · rw [(B.lv i hi).1]
    by_cases e : i = c + 1
    · rw [if_pos e, if_pos e]; rfl
    · rw [if_neg e, if_neg e]; split <;> rfl
  · rw [(B.lv i hi).2]; split <;> rfl

theorem AtA.withY {Z c V st : Nat} {val : Nat → Int} {q : Q} (h : AtA Z c V st val q) (y : Y) : AtA Z c V st val { q with y := y } :=
  ⟨⟨h.cm.z1, h.cm.z2, h.cm.c2, h.cm.wd, h.cm.hA, h.cm.nf, h.cm.vb⟩, h.sw, h.cl, h.lv⟩

theorem of58 (w : World) : Calls Tryz.prog 15 #[.agg #[.int .i64 4, .int .i64 8, .int .i64 4, .int .i64 20, .int .i64 100, .int .i64 600, .int .i64 3], .int .i64 58] w fun e w' => e = .returned (.int .i64 1) ∧ Below w.heap.size w w' := by
  have h := lof_any good11 58 (by decide) w
  have e := chunkOf_in (t := 4) (n := 8) (k := 4) (m := 20) (i := 1) (u := 0) (by decide) (by decide)
  have e' : chunkOf 4 8 4 20 58 = 1 := e
  rw [e'] at h
  exact h
theorem of78 (w : World) : Calls Tryz.prog 15 #[.agg #[.int .i64 4, .int .i64 8, .int .i64 4, .int .i64 20, .int .i64 100, .int .i64 600, .int .i64 3], .int .i64 78] w fun e w' => e = .returned (.int .i64 2) ∧ Below w.heap.size w w' := by
  have h := lof_any good11 78 (by decide) w
  have e := chunkOf_in (t := 4) (n := 8) (k := 4) (m := 20) (i := 2) (u := 0) (by decide) (by decide)
  have e' : chunkOf 4 8 4 20 78 = 2 := e
  rw [e'] at h
  exact h

theorem new38 {Z : Nat} (z1 : 1 ≤ Z) (z2 : Z ≤ 16) (w : World) :
    Calls Tryz.prog 11 #[.int .i64 38, .agg #[.int .i64 2, .int .i64 Z, .int .i64 0, .int .i64 1, .bool false]] w fun e w' => ∃ W, e = .returned (.pointer (some ⟨W.heap.size, 0, none⟩)) ∧ w' = W.alloc (mov0 (mw Z 0).A 2 (mw Z 0).Z (mw Z 0).x (mw Z 0).G (mw Z 0).own (mw Z 0).κ) ∧ Below w.heap.size w W := new11 (c := 0) z1 z2 w
theorem new58 {Z : Nat} (z1 : 1 ≤ Z) (z2 : Z ≤ 16) (w : World) :
    Calls Tryz.prog 11 #[.int .i64 58, .agg #[.int .i64 2, .int .i64 Z, .int .i64 0, .int .i64 1, .bool false]] w fun e w' => ∃ W, e = .returned (.pointer (some ⟨W.heap.size, 0, none⟩)) ∧ w' = W.alloc (mov0 (mw Z 1).A 2 (mw Z 1).Z (mw Z 1).x (mw Z 1).G (mw Z 1).own (mw Z 1).κ) ∧ Below w.heap.size w W := new11 (c := 1) z1 z2 w

set_option maxHeartbeats 8000000 in
set_option maxRecDepth 20000 in
theorem moveAgain_any (a : Int) (tm : Int) (ao : Option Addr) (N cap : Nat) (z : Nat → Int) (w : World) (hz : IntsAt .i64 w ao N z) :
    Calls Tryz.prog 8 #[.int .i64 a, .int .i64 tm, .slice ao N cap] w fun e w' => e = .returned (.bool true) ∧ Below w.heap.size w w' := by
  obtain ⟨Z, hZ, z1, z2⟩ := size15 a
  have HZ : Hid ((1 : Int) + bits .and .i64 a 15 = (Z : Int)) := hZ
  have HR : Hid (IntsAt .i64 w ao N z) := hz
  clear hz
  clear hZ
  have ffS : ∀ (a1 a2 a3 a4 : Value) (w : World), (Instr.field 42 (.agg #[a1, a2, a3, a4]) 1).run Tryz.prog w = .ok a2 w := fun a1 a2 a3 a4 w => by kernel_rfl
  obtain ⟨n, hn1, hn2⟩ : ∃ n : Nat, bits .and .i64 tm 1 = (n : Int) ∧ (n = 0 ∨ n = 1) := by
    obtain ⟨y, h1, h2⟩ := low0 tm 1 1 (by decide) (by decide)
    exact ⟨y, h1, by omega⟩
  go_enter Tryz.func8, Tryz.ntmps8
  go_wp2_with (first
    | (go_at_call 9; refine (begun_any a ao N cap z w HR.out HZ.out z1 z2).mono ?_; rintro e w1 ⟨L, s, σ, q, rfl, hσ, m1, t1, a1, hyq, b1, l1⟩; obtain ⟨sc1, sa⟩ := sc_new (Z := Z) m1 t1 b1 l1)
    | (go_at_call 10; refine (awake11_any _).mono ?_; rintro e w2 ⟨rfl, b2⟩; have sc2 := sc1.grown b2; have y0 := sc2.sp.v.c0; have y1 := sc2.sp.v.c1; have y2 := sc2.sp.v.c2; have y3 := sc2.sp.v.c3; have y4 := sc2.sp.v.c4; have y5 := sc2.sp.v.c5; have y6 := sc2.sp.v.c6; have y7 := sc2.sp.v.c7; have y8 := sc2.sp.v.c8; obtain ⟨_, hd⟩ := sc2.hd; have g0 := hd.at0 0 rfl; have g1 := hd.at0 1 rfl; have g2 := hd.at0 2 rfl; have g3 := hd.at0 3 rfl; have g4 := hd.at0 4 rfl))
  obtain ⟨E, hE⟩ : ∃ E, w1.heap.size = E := ⟨_, rfl⟩
  rw [hE] at sc2 sa
  try rw [hE]
  obtain ⟨H, hH⟩ : ∃ H, E + 1 = H := ⟨_, rfl⟩
  rw [hH] at sc2 sa
  try rw [hH]
  have A0 : Hid (Sc w _ L E H Z s σ q ∧ AtA Z 0 0 1 (vals N z Z) q ∧ q.y = Yn (mw Z 0).κ 0) := ⟨sc2, a1, hyq⟩
  have SA0 : Hid (ScA w L E H) := sa
  clear sc1 sc2 m1 t1 b1 l1 b2 hd hE hH g0 g1 g2 g3 g4 sa a1 hyq y0 y1 y2 y3 y4 y5 y6 y7 y8
  go_loopw [9, 13] (fun av iv wr => ∃ (i : Nat) (s' : Mm) (σ' : Nat) (q' : Q), av = .int .i64 (base 4 8 4 20 i : Nat) ∧ iv = .int .i64 i ∧ i ≤ n + 1 ∧ σ' ≤ 1000 + 100 * i ∧ Sc w wr L E H Z s' σ' q' ∧ AtA Z i i 1 (vals N z Z) q' ∧ q'.y = Yn (mw Z 0).κ i) (fun _ i _ => 3 - (intOf i).toNat)
  case atStart => exact ⟨0, s, σ, q, rfl, rfl, by omega, by omega, A0.out.1, A0.out.2.1, A0.out.2.2⟩
  case round =>
    clear A0
    obtain ⟨i, s0, σ0, q0, rfl, rfl, hin, hσ0, f, AT, hyq⟩ := hrel
    have y0 := f.sp.v.c0
    have y1 := f.sp.v.c1
    have y2 := f.sp.v.c2
    have y3 := f.sp.v.c3
    have y4 := f.sp.v.c4
    have y5 := f.sp.v.c5
    have y6 := f.sp.v.c6
    have y7 := f.sp.v.c7
    have y8 := f.sp.v.c8
    by_cases hi : i ≤ n
    · have hi' : (i : Int) ≤ (n : Int) := by omega
      have HI : Hid (i + 1 ≤ n + 1) := by unfold Hid; omega
      obtain rfl | rfl : i = 0 ∨ i = 1 := by omega
      · as_aux_lemma =>
          obtain ⟨_, hd⟩ := f.hd
          have g0 := hd.at0 0 rfl
          have g1 := hd.at0 1 rfl
          have g2 := hd.at0 2 rfl
          have g3 := hd.at0 3 rfl
          have g4 := hd.at0 4 rfl
          have nw := fun W => new38 z1 z2 W
          go_wp2_with (go_at_call 11; refine (nw _).mono ?_; rintro e w3 ⟨W3, rfl, rfl, b3⟩; obtain ⟨sm, sma⟩ := scm_new (wr := false) (c := 0) (f.grown b3) SA0.out 2 (again_mi0 AT hyq))
          obtain ⟨M, hM⟩ : ∃ M, W3.heap.size = M := ⟨_, rfl⟩
          rw [hM] at sm sma
          try rw [hM]
          have A0 : Hid (ScM w _ L E H M Z s0 σ0 q0 false 0 0 (vals N z Z) (yEof (mw Z 0).κ 0 (Yn (mw Z 0).κ 0)) 9 (.see .see 0)) := sm
          have SA : Hid (ScMA w L E H M) := sma
          clear sm sma b3 hM hd g0 g1 g2 g3 g4 f AT hyq y0 y1 y2 y3 y4 y5 y6 y7 y8
          go_loopw [15] (fun i wr => ∃ (j : Nat) (s' : Mm) (σ' : Nat) (q' : Q) (μ : Mv) (r : Nat), i = .int .i64 j ∧ j + mpot false Z 0 r q' μ ≤ 3 * Z + 18 ∧ μ.over? = false ∧ σ' ≤ 1000 + j ∧ ScM w wr L E H M Z s' σ' q' false 0 0 (vals N z Z) (yEof (mw Z 0).κ 0 (Yn (mw Z 0).κ 0)) r μ) (fun i _ => 200 - (intOf i).toNat)
          case atStart => exact ⟨0, s0, σ0, q0, .see .see 0, 9, rfl, by simp [mpot, rst] <;> omega, rfl, by omega, A0.out⟩
          case round =>
            clear A0
            obtain ⟨j, s1, σ1, q1, μ, r, rfl, hj, ho, hσ1, f⟩ := hrel
            have hj3 : (j : Int) < 200 := by omega
            obtain ⟨q2, μ2, r2, ht, hp, mi, hrr, k⟩ := f.step SA.out (by omega) ho
            have y0 := f.sc.sp.v.c0
            have y1 := f.sc.sp.v.c1
            have y2 := f.sc.sp.v.c2
            have y3 := f.sc.sp.v.c3
            have y4 := f.sc.sp.v.c4
            have y5 := f.sc.sp.v.c5
            have y6 := f.sc.sp.v.c6
            have y7 := f.sc.sp.v.c7
            have y8 := f.sc.sp.v.c8
            cases hov : μ2.over? with
            | false =>
              have k := k false hov
              go_wp2_with (go_at_call 12; refine k.mono ?_; rintro e w2 ⟨rfl, s2, f2, o2, -⟩)
              go_roundw
              case rel => exact ⟨j + 1, s2, σ1 + 1, q2, μ2, r2, by go_num, by omega, hov, by omega, f2⟩
              case measure => simp [intOf]; omega
            | true =>
              have k := k true hov
              obtain ⟨o, τ, rfl⟩ := Mv.is_over hov
              rcases mi with ⟨rfl, hB, rfl, hy⟩ | ⟨h, -⟩
              · clear hov ht hp
                have hw : Wo (q2.sw 0) 1 58 1 := hB.sw
                have AT : Hid (AtA Z 1 1 1 (vals N z Z) q2) := hB.next (by decide)
                clear hB
                go_wp2_with (first
                  | (go_at_call 12; refine k.mono ?_; rintro e w2 ⟨rfl, s2, f2, o2, -⟩; have zc0 := f2.sc.sp.v.c0; have zc1 := f2.sc.sp.v.c1; have zc2 := f2.sc.sp.v.c2; have zc3 := f2.sc.sp.v.c3; have zc4 := f2.sc.sp.v.c4; have zc5 := f2.sc.sp.v.c5; have zc6 := f2.sc.sp.v.c6; have zc7 := f2.sc.sp.v.c7; have zc8 := f2.sc.sp.v.c8)
                  | (go_at_call 16; refine f2.out.mono ?_; rintro e w9 ⟨rfl, rfl⟩)
                  | (go_at_call 14; refine (f2.sc.where hw).mono ?_; rintro e w4 ⟨rfl, b4⟩))
                obtain ⟨κ, hκe⟩ : ∃ κ, (mw Z 0).κ = κ := ⟨_, rfl⟩
                have k4 : κ < 4 := by rw [← hκe]; exact (mw_ok (c := 0) z1 z2 (by decide)).k4
                have hrb := room_bd κ
                have tw := f2.sc.sp.tw
                have hn : s2.n = 118 := tw.len
                have hnA : 29 < s2.n := by omega
                have okA : (⟨1, κ, room κ, 1⟩ : Ck).ok 1 := ⟨by simp only; omega, by simp only; omega, by simp only; omega, by simp only; omega⟩
                have okB : (⟨2, κ, room κ, 2⟩ : Ck).ok 2 := ⟨by simp only; omega, by simp only; omega, by simp only; omega, by simp only; omega⟩
                have hcw : s2.wd 29 = (⟨1, κ, room κ, 1⟩ : Ck).w := by
                  have e := tw.yard.ckv 1 (by decide)
                  rw [hy, yEof_ck0 (mw Z 0).κ, hκe] at e
                  exact e
                have cw := fun w => chunk_w ⟨1, κ, room κ, 1⟩ 1 okA (by decide) w
                have pc := fun w => putChunk_w ⟨2, κ, room κ, 2⟩ 2 okB (by decide) 2 κ (room κ) 2 rfl rfl rfl rfl w
                have h2s : 2 ≤ σ1 + 1 + 1 := by
                  have e := (tw.yard.ok 1 (by decide)).sp
                  rw [hy, yEof_ck0 (mw Z 0).κ] at e
                  have e' : 1 ≤ σ1 + 1 := e
                  omega
                have tw' : Town 4 8 4 20 (s2.step 29 (⟨2, κ, room κ, 2⟩ : Ck).w) (σ1 + 1 + 1) { q2 with y := Yn κ 1 } := by
                  have yd := tw.yard.lay (by omega) s2.who (i := 1) (by decide) ⟨2, κ, room κ, 2⟩ ⟨by simp only; omega, by simp only; omega, by simp only; omega, by simp only; omega⟩
                  rw [hy, hκe] at yd
                  exact tw.chunks (by omega) s2.who (κ := 0) (by decide) 29 _ (Or.inr ⟨1, by decide, rfl⟩) yd
                obtain ⟨ck, hck⟩ : ∃ x, (⟨2, κ, room κ, 2⟩ : Ck).w = x := ⟨_, rfl⟩
                rw [hck] at tw' pc
                obtain ⟨cka, hcka⟩ : ∃ x, (⟨1, κ, room κ, 1⟩ : Ck).w = x := ⟨_, rfl⟩
                rw [hcka] at cw hcw
                have HCW : Hid (s2.wd 29 = cka) := hcw
                have FIN : Hid (Town 4 8 4 20 (s2.step 29 ck) (σ1 + 1 + 1) { q2 with y := Yn κ 1 } ∧ AtA Z 1 1 1 (vals N z Z) { q2 with y := Yn κ 1 } ∧ (mw Z 0).κ = κ) := ⟨tw', AT.out.withY _, hκe⟩
                have f4 := f2.sc.grown b4
                clear hck hcka hκe tw' hcw okA okB hy tw hw k AT f f2 b4 y0 zc0 y1 zc1 y2 zc2 y3 zc3 y4 zc4 y5 zc5 y6 zc6 y7 zc7 y8 zc8 h2s
                refine wp_over (fun W => Sc w W L E H Z s2 (σ1 + 1) q2) f4 ?_
                clear f4
                intro W f1
                refine wp_region_rely Grown [.val (.pointer (some ⟨E, 0, none⟩)), .val (.agg #[.int .i64 4, .int .i64 8, .int .i64 4, .int .i64 20, .int .i64 100, .int .i64 600, .int .i64 3]), .val (.pointer (some ⟨E, 0, none⟩)), .val (.agg #[.int .i64 4, .int .i64 8, .int .i64 4, .int .i64 20, .int .i64 100, .int .i64 600, .int .i64 3]), .val (.int .i64 58), .val (.int .i64 1), .val (.int .i64 29), .val (.int .i64 29)] (by kernel_rfl) Grown.refl Grown.trans (by kernel_rfl) (by kernel_rfl) (by kernel_rfl) ?_
                simp only [relyAll, Act.put, List.setIfInBounds_toArray, List.set_cons_zero, List.set_cons_succ]
                refine ⟨?_, ?_, ?_, ?_, ?_, ?_, ?_, ?_, ?_⟩
                · intro w' hg _
                  refine Or.inl ⟨rfl, ?_⟩
                  go_simp
                  exact ⟨Grown.refl _, rfl⟩
                · intro w' hg _
                  refine Or.inl ⟨rfl, ?_⟩
                  have vv := (f1.sp.v.grown ((Below.refl _ _).drew)).grown hg
                  have y0 := vv.c0
                  have y1 := vv.c1
                  have y2 := vv.c2
                  have y3 := vv.c3
                  have y4 := vv.c4
                  have y5 := vv.c5
                  have y6 := vv.c6
                  have y7 := vv.c7
                  have y8 := vv.c8
                  go_simp
                  exact ⟨Grown.refl _, rfl⟩
                · intro w' hg _
                  refine Or.inl ⟨rfl, ?_⟩
                  go_simp
                  exact ⟨Grown.refl _, rfl⟩
                · intro w' hg _
                  refine Or.inl ⟨rfl, ?_⟩
                  have vv := (f1.sp.v.grown ((Below.refl _ _).drew)).grown hg
                  have y0 := vv.c0
                  have y1 := vv.c1
                  have y2 := vv.c2
                  have y3 := vv.c3
                  have y4 := vv.c4
                  have y5 := vv.c5
                  have y6 := vv.c6
                  have y7 := vv.c7
                  have y8 := vv.c8
                  go_simp
                  exact ⟨Grown.refl _, rfl⟩
                · intro w' hg _
                  refine Or.inl ⟨rfl, ?_⟩
                  go_simp
                  exact ⟨Grown.refl _, rfl⟩
                · intro w' hg _
                  refine Or.inl ⟨rfl, ?_⟩
                  go_simp
                  refine (of58 _).mono ?_
                  rintro e w'' ⟨rfl, b9⟩
                  exact ⟨_, rfl, b9, rfl⟩
                · intro w' hg _
                  refine Or.inl ⟨rfl, ?_⟩
                  go_simp
                  refine (lchunk_any _ _ _ _ _ _ _ 1 _ good11.arena (by omega) (by omega)).mono ?_
                  rintro e w'' ⟨rfl, b9⟩
                  exact ⟨_, rfl, b9, congrArg (Value.int .i64) (by omega)⟩
                · intro w' hg _
                  refine Or.inl ⟨rfl, ?_⟩
                  go_simp
                  exact ⟨Grown.refl _, rfl⟩
                intro w6 hg _
                have f6 := f1.drew.grown hg
                clear hg f1
                have y0 := f6.sp.v.c0
                have y1 := f6.sp.v.c1
                have y2 := f6.sp.v.c2
                have y3 := f6.sp.v.c3
                have y4 := f6.sp.v.c4
                have y5 := f6.sp.v.c5
                have y6 := f6.sp.v.c6
                have y7 := f6.sp.v.c7
                have y8 := f6.sp.v.c8
                go_wp2_with (first
                  | (go_at_call 22; refine (peek_is f6.sp.mm 29 hnA cka HCW.out).mono ?_; rintro e w7 ⟨rfl, rfl⟩)
                  | (go_at_call 23; refine (cw _).mono ?_; rintro e w7 ⟨rfl, b7⟩; have q7 := At.new w7 54 [.int .i64 1, .int .i64 κ, .int .i64 (room κ), .int .i64 1]; have t0 := q7.at0 0 rfl; have t3 := q7.at0 3 rfl; have tf := q7.fz))
                have q8 := At.new w7 54 [.int .i64 2, .int .i64 κ, .int .i64 (room κ), .int .i64 2]
                obtain ⟨C, hC⟩ : ∃ C, w7.heap.size = C := ⟨_, rfl⟩
                rw [hC] at q8
                try rw [hC]
                refine wp_over (fun W => Sc w W L E H Z s2 (σ1 + 1) q2 ∧ At W C 0 54 _ [.int .i64 2, .int .i64 κ, .int .i64 (room κ), .int .i64 2]) ⟨(f6.grown b7).grown (grow1 _ _), q8⟩ ?_
                clear f6 q7 q8 t0 t3 tf b7 hC cw y0 y1 y2 y3 y4 y5 y6 y7 y8
                rintro W ⟨f1, c1⟩
                refine wp_region_rely_tail Grown 5 [.val (.pointer (some ⟨E, 7, none⟩)), .val (.pointer (some ⟨L.p, 0, none⟩)), .val (.int .i64 29), .val (.agg #[.int .i64 2, .int .i64 κ, .int .i64 (room κ), .int .i64 2]), .val (.int .u64 ck)] (by kernel_rfl) Grown.refl Grown.trans (by decide) (by kernel_rfl) (by kernel_rfl) (by kernel_rfl) (by kernel_rfl) (by kernel_rfl) (by kernel_rfl) ?_
                simp only [List.take_succ_cons, List.take_zero, relyAll, Act.put, List.setIfInBounds_toArray, List.set_cons_zero, List.set_cons_succ]
                refine ⟨?_, ?_, ?_, ?_, ?_, ?_⟩
                · intro w' hg _
                  refine Or.inl ⟨rfl, ?_⟩
                  go_simp
                  exact ⟨Grown.refl _, rfl⟩
                · intro w' hg _
                  refine Or.inl ⟨rfl, ?_⟩
                  have vv := (f1.sp.v.grown ((Below.refl _ _).drew)).grown hg
                  have y0 := vv.c0
                  have y1 := vv.c1
                  have y2 := vv.c2
                  have y3 := vv.c3
                  have y4 := vv.c4
                  have y5 := vv.c5
                  have y6 := vv.c6
                  have y7 := vv.c7
                  have y8 := vv.c8
                  go_simp
                  exact ⟨Grown.refl _, rfl⟩
                · intro w' hg _
                  refine Or.inl ⟨rfl, ?_⟩
                  go_simp
                  exact ⟨Grown.refl _, rfl⟩
                · intro w' hg _
                  refine Or.inl ⟨rfl, ?_⟩
                  have z0 := (c1.drew.grown hg).at0 0 rfl
                  have z1 := (c1.drew.grown hg).at0 1 rfl
                  have z2 := (c1.drew.grown hg).at0 2 rfl
                  have z3 := (c1.drew.grown hg).at0 3 rfl
                  go_simp
                  exact ⟨Grown.refl _, rfl⟩
                · intro w' hg _
                  refine Or.inl ⟨rfl, ?_⟩
                  go_simp
                  refine (pc _).mono ?_
                  rintro e w'' ⟨rfl, b9⟩
                  exact ⟨_, rfl, b9, rfl⟩
                intro w8 hg _
                have f8 := f1.drew.grown hg
                clear hg f1 c1 pc
                go_wp2_with (go_at_call 28; refine (store_in f8.sp.mm 29 hnA ck).mono ?_; rintro e w9 ⟨rfl, m9, o9, z9⟩)
                go_roundw
                case rel => exact ⟨1, _, _, _, rfl, rfl, HI.out, by omega, f8.only SA0.out o9 m9 FIN.out.1, FIN.out.2.1, by rw [FIN.out.2.2]⟩
                case measure => simp [intOf]
              · cases h
      · as_aux_lemma =>
          obtain ⟨_, hd⟩ := f.hd
          have g0 := hd.at0 0 rfl
          have g1 := hd.at0 1 rfl
          have g2 := hd.at0 2 rfl
          have g3 := hd.at0 3 rfl
          have g4 := hd.at0 4 rfl
          have nw := fun W => new58 z1 z2 W
          go_wp2_with (go_at_call 11; refine (nw _).mono ?_; rintro e w3 ⟨W3, rfl, rfl, b3⟩; obtain ⟨sm, sma⟩ := scm_new (wr := false) (c := 1) (f.grown b3) SA0.out 2 (again_mi1 AT hyq))
          obtain ⟨M, hM⟩ : ∃ M, W3.heap.size = M := ⟨_, rfl⟩
          rw [hM] at sm sma
          try rw [hM]
          have A0 : Hid (ScM w _ L E H M Z s0 σ0 q0 false 1 1 (vals N z Z) (yEof (mw Z 0).κ 1 (Yn (mw Z 0).κ 1)) 10 (.see .see 0)) := sm
          have SA : Hid (ScMA w L E H M) := sma
          clear sm sma b3 hM hd g0 g1 g2 g3 g4 f AT hyq y0 y1 y2 y3 y4 y5 y6 y7 y8
          go_loopw [15] (fun i wr => ∃ (j : Nat) (s' : Mm) (σ' : Nat) (q' : Q) (μ : Mv) (r : Nat), i = .int .i64 j ∧ j + mpot false Z 1 r q' μ ≤ 3 * Z + 19 ∧ μ.over? = false ∧ σ' ≤ 1100 + j ∧ ScM w wr L E H M Z s' σ' q' false 1 1 (vals N z Z) (yEof (mw Z 0).κ 1 (Yn (mw Z 0).κ 1)) r μ) (fun i _ => 200 - (intOf i).toNat)
          case atStart => exact ⟨0, s0, σ0, q0, .see .see 0, 10, rfl, by simp [mpot, rst] <;> omega, rfl, by omega, A0.out⟩
          case round =>
            clear A0
            obtain ⟨j, s1, σ1, q1, μ, r, rfl, hj, ho, hσ1, f⟩ := hrel
            have hj3 : (j : Int) < 200 := by omega
            obtain ⟨q2, μ2, r2, ht, hp, mi, hrr, k⟩ := f.step SA.out (by omega) ho
            have y0 := f.sc.sp.v.c0
            have y1 := f.sc.sp.v.c1
            have y2 := f.sc.sp.v.c2
            have y3 := f.sc.sp.v.c3
            have y4 := f.sc.sp.v.c4
            have y5 := f.sc.sp.v.c5
            have y6 := f.sc.sp.v.c6
            have y7 := f.sc.sp.v.c7
            have y8 := f.sc.sp.v.c8
            cases hov : μ2.over? with
            | false =>
              have k := k false hov
              go_wp2_with (go_at_call 12; refine k.mono ?_; rintro e w2 ⟨rfl, s2, f2, o2, -⟩)
              go_roundw
              case rel => exact ⟨j + 1, s2, σ1 + 1, q2, μ2, r2, by go_num, by omega, hov, by omega, f2⟩
              case measure => simp [intOf]; omega
            | true =>
              have k := k true hov
              obtain ⟨o, τ, rfl⟩ := Mv.is_over hov
              rcases mi with ⟨rfl, hB, rfl, hy⟩ | ⟨h, -⟩
              · clear hov ht hp
                have hw : Wo (q2.sw 0) 1 78 2 := hB.sw
                have AT : Hid (AtA Z 2 2 1 (vals N z Z) q2) := hB.next (by decide)
                clear hB
                go_wp2_with (first
                  | (go_at_call 12; refine k.mono ?_; rintro e w2 ⟨rfl, s2, f2, o2, -⟩; have zc0 := f2.sc.sp.v.c0; have zc1 := f2.sc.sp.v.c1; have zc2 := f2.sc.sp.v.c2; have zc3 := f2.sc.sp.v.c3; have zc4 := f2.sc.sp.v.c4; have zc5 := f2.sc.sp.v.c5; have zc6 := f2.sc.sp.v.c6; have zc7 := f2.sc.sp.v.c7; have zc8 := f2.sc.sp.v.c8)
                  | (go_at_call 16; refine f2.out.mono ?_; rintro e w9 ⟨rfl, rfl⟩)
                  | (go_at_call 14; refine (f2.sc.where hw).mono ?_; rintro e w4 ⟨rfl, b4⟩))
                obtain ⟨κ, hκe⟩ : ∃ κ, (mw Z 0).κ = κ := ⟨_, rfl⟩
                have k4 : κ < 4 := by rw [← hκe]; exact (mw_ok (c := 0) z1 z2 (by decide)).k4
                have hrb := room_bd κ
                have tw := f2.sc.sp.tw
                have hn : s2.n = 118 := tw.len
                have hnA : 32 < s2.n := by omega
                have okA : (⟨1, κ, room κ, 1⟩ : Ck).ok 1 := ⟨by simp only; omega, by simp only; omega, by simp only; omega, by simp only; omega⟩
                have okB : (⟨2, κ, room κ, 2⟩ : Ck).ok 2 := ⟨by simp only; omega, by simp only; omega, by simp only; omega, by simp only; omega⟩
                have hcw : s2.wd 32 = (⟨1, κ, room κ, 1⟩ : Ck).w := by
                  have e := tw.yard.ckv 2 (by decide)
                  rw [hy, yEof_ck1 (mw Z 0).κ, hκe] at e
                  exact e
                have cw := fun w => chunk_w ⟨1, κ, room κ, 1⟩ 1 okA (by decide) w
                have pc := fun w => putChunk_w ⟨2, κ, room κ, 2⟩ 2 okB (by decide) 2 κ (room κ) 2 rfl rfl rfl rfl w
                have h2s : 2 ≤ σ1 + 1 + 1 := by
                  have e := (tw.yard.ok 2 (by decide)).sp
                  rw [hy, yEof_ck1 (mw Z 0).κ] at e
                  have e' : 1 ≤ σ1 + 1 := e
                  omega
                have tw' : Town 4 8 4 20 (s2.step 32 (⟨2, κ, room κ, 2⟩ : Ck).w) (σ1 + 1 + 1) { q2 with y := Yn κ 2 } := by
                  have yd := tw.yard.lay (by omega) s2.who (i := 2) (by decide) ⟨2, κ, room κ, 2⟩ ⟨by simp only; omega, by simp only; omega, by simp only; omega, by simp only; omega⟩
                  rw [hy, hκe] at yd
                  exact tw.chunks (by omega) s2.who (κ := 0) (by decide) 32 _ (Or.inr ⟨2, by decide, rfl⟩) yd
                obtain ⟨ck, hck⟩ : ∃ x, (⟨2, κ, room κ, 2⟩ : Ck).w = x := ⟨_, rfl⟩
                rw [hck] at tw' pc
                obtain ⟨cka, hcka⟩ : ∃ x, (⟨1, κ, room κ, 1⟩ : Ck).w = x := ⟨_, rfl⟩
                rw [hcka] at cw hcw
                have HCW : Hid (s2.wd 32 = cka) := hcw
                have FIN : Hid (Town 4 8 4 20 (s2.step 32 ck) (σ1 + 1 + 1) { q2 with y := Yn κ 2 } ∧ AtA Z 2 2 1 (vals N z Z) { q2 with y := Yn κ 2 } ∧ (mw Z 0).κ = κ) := ⟨tw', AT.out.withY _, hκe⟩
                have f4 := f2.sc.grown b4
                clear hck hcka hκe tw' hcw okA okB hy tw hw k AT f f2 b4 y0 zc0 y1 zc1 y2 zc2 y3 zc3 y4 zc4 y5 zc5 y6 zc6 y7 zc7 y8 zc8 h2s
                refine wp_over (fun W => Sc w W L E H Z s2 (σ1 + 1) q2) f4 ?_
                clear f4
                intro W f1
                refine wp_region_rely Grown [.val (.pointer (some ⟨E, 0, none⟩)), .val (.agg #[.int .i64 4, .int .i64 8, .int .i64 4, .int .i64 20, .int .i64 100, .int .i64 600, .int .i64 3]), .val (.pointer (some ⟨E, 0, none⟩)), .val (.agg #[.int .i64 4, .int .i64 8, .int .i64 4, .int .i64 20, .int .i64 100, .int .i64 600, .int .i64 3]), .val (.int .i64 78), .val (.int .i64 2), .val (.int .i64 32), .val (.int .i64 32)] (by kernel_rfl) Grown.refl Grown.trans (by kernel_rfl) (by kernel_rfl) (by kernel_rfl) ?_
                simp only [relyAll, Act.put, List.setIfInBounds_toArray, List.set_cons_zero, List.set_cons_succ]
                refine ⟨?_, ?_, ?_, ?_, ?_, ?_, ?_, ?_, ?_⟩
                · intro w' hg _
                  refine Or.inl ⟨rfl, ?_⟩
                  go_simp
                  exact ⟨Grown.refl _, rfl⟩
                · intro w' hg _
                  refine Or.inl ⟨rfl, ?_⟩
                  have vv := (f1.sp.v.grown ((Below.refl _ _).drew)).grown hg
                  have y0 := vv.c0
                  have y1 := vv.c1
                  have y2 := vv.c2
                  have y3 := vv.c3
                  have y4 := vv.c4
                  have y5 := vv.c5
                  have y6 := vv.c6
                  have y7 := vv.c7
                  have y8 := vv.c8
                  go_simp
                  exact ⟨Grown.refl _, rfl⟩
                · intro w' hg _
                  refine Or.inl ⟨rfl, ?_⟩
                  go_simp
                  exact ⟨Grown.refl _, rfl⟩
                · intro w' hg _
                  refine Or.inl ⟨rfl, ?_⟩
                  have vv := (f1.sp.v.grown ((Below.refl _ _).drew)).grown hg
                  have y0 := vv.c0
                  have y1 := vv.c1
                  have y2 := vv.c2
                  have y3 := vv.c3
                  have y4 := vv.c4
                  have y5 := vv.c5
                  have y6 := vv.c6
                  have y7 := vv.c7
                  have y8 := vv.c8
                  go_simp
                  exact ⟨Grown.refl _, rfl⟩
                · intro w' hg _
                  refine Or.inl ⟨rfl, ?_⟩
                  go_simp
                  exact ⟨Grown.refl _, rfl⟩
                · intro w' hg _
                  refine Or.inl ⟨rfl, ?_⟩
                  go_simp
                  refine (of78 _).mono ?_
                  rintro e w'' ⟨rfl, b9⟩
                  exact ⟨_, rfl, b9, rfl⟩
                · intro w' hg _
                  refine Or.inl ⟨rfl, ?_⟩
                  go_simp
                  refine (lchunk_any _ _ _ _ _ _ _ 2 _ good11.arena (by omega) (by omega)).mono ?_
                  rintro e w'' ⟨rfl, b9⟩
                  exact ⟨_, rfl, b9, congrArg (Value.int .i64) (by omega)⟩
                · intro w' hg _
                  refine Or.inl ⟨rfl, ?_⟩
                  go_simp
                  exact ⟨Grown.refl _, rfl⟩
                intro w6 hg _
                have f6 := f1.drew.grown hg
                clear hg f1
                have y0 := f6.sp.v.c0
                have y1 := f6.sp.v.c1
                have y2 := f6.sp.v.c2
                have y3 := f6.sp.v.c3
                have y4 := f6.sp.v.c4
                have y5 := f6.sp.v.c5
                have y6 := f6.sp.v.c6
                have y7 := f6.sp.v.c7
                have y8 := f6.sp.v.c8
                go_wp2_with (first
                  | (go_at_call 22; refine (peek_is f6.sp.mm 32 hnA cka HCW.out).mono ?_; rintro e w7 ⟨rfl, rfl⟩)
                  | (go_at_call 23; refine (cw _).mono ?_; rintro e w7 ⟨rfl, b7⟩; have q7 := At.new w7 54 [.int .i64 1, .int .i64 κ, .int .i64 (room κ), .int .i64 1]; have t0 := q7.at0 0 rfl; have t3 := q7.at0 3 rfl; have tf := q7.fz))
                have q8 := At.new w7 54 [.int .i64 2, .int .i64 κ, .int .i64 (room κ), .int .i64 2]
                obtain ⟨C, hC⟩ : ∃ C, w7.heap.size = C := ⟨_, rfl⟩
                rw [hC] at q8
                try rw [hC]
                refine wp_over (fun W => Sc w W L E H Z s2 (σ1 + 1) q2 ∧ At W C 0 54 _ [.int .i64 2, .int .i64 κ, .int .i64 (room κ), .int .i64 2]) ⟨(f6.grown b7).grown (grow1 _ _), q8⟩ ?_
                clear f6 q7 q8 t0 t3 tf b7 hC cw y0 y1 y2 y3 y4 y5 y6 y7 y8
                rintro W ⟨f1, c1⟩
                refine wp_region_rely_tail Grown 5 [.val (.pointer (some ⟨E, 7, none⟩)), .val (.pointer (some ⟨L.p, 0, none⟩)), .val (.int .i64 32), .val (.agg #[.int .i64 2, .int .i64 κ, .int .i64 (room κ), .int .i64 2]), .val (.int .u64 ck)] (by kernel_rfl) Grown.refl Grown.trans (by decide) (by kernel_rfl) (by kernel_rfl) (by kernel_rfl) (by kernel_rfl) (by kernel_rfl) (by kernel_rfl) ?_
                simp only [List.take_succ_cons, List.take_zero, relyAll, Act.put, List.setIfInBounds_toArray, List.set_cons_zero, List.set_cons_succ]
                refine ⟨?_, ?_, ?_, ?_, ?_, ?_⟩
                · intro w' hg _
                  refine Or.inl ⟨rfl, ?_⟩
                  go_simp
                  exact ⟨Grown.refl _, rfl⟩
                · intro w' hg _
                  refine Or.inl ⟨rfl, ?_⟩
                  have vv := (f1.sp.v.grown ((Below.refl _ _).drew)).grown hg
                  have y0 := vv.c0
                  have y1 := vv.c1
                  have y2 := vv.c2
                  have y3 := vv.c3
                  have y4 := vv.c4
                  have y5 := vv.c5
                  have y6 := vv.c6
                  have y7 := vv.c7
                  have y8 := vv.c8
                  go_simp
                  exact ⟨Grown.refl _, rfl⟩
                · intro w' hg _
                  refine Or.inl ⟨rfl, ?_⟩
                  go_simp
                  exact ⟨Grown.refl _, rfl⟩
                · intro w' hg _
                  refine Or.inl ⟨rfl, ?_⟩
                  have z0 := (c1.drew.grown hg).at0 0 rfl
                  have z1 := (c1.drew.grown hg).at0 1 rfl
                  have z2 := (c1.drew.grown hg).at0 2 rfl
                  have z3 := (c1.drew.grown hg).at0 3 rfl
                  go_simp
                  exact ⟨Grown.refl _, rfl⟩
                · intro w' hg _
                  refine Or.inl ⟨rfl, ?_⟩
                  go_simp
                  refine (pc _).mono ?_
                  rintro e w'' ⟨rfl, b9⟩
                  exact ⟨_, rfl, b9, rfl⟩
                intro w8 hg _
                have f8 := f1.drew.grown hg
                clear hg f1 c1 pc
                go_wp2_with (go_at_call 28; refine (store_in f8.sp.mm 32 hnA ck).mono ?_; rintro e w9 ⟨rfl, m9, o9, z9⟩)
                go_roundw
                case rel => exact ⟨2, _, _, _, rfl, rfl, HI.out, by omega, f8.only SA0.out o9 m9 FIN.out.1, FIN.out.2.1, by rw [FIN.out.2.2]⟩
                case measure => simp [intOf]
              · cases h
    · have hi' : ¬ (i : Int) ≤ (n : Int) := by omega
      obtain ⟨I, hI⟩ : ∃ I, i = I := ⟨_, rfl⟩
      have HIn : Hid ((I : Int) = (n : Int) + 1) := by unfold Hid; omega
      have HAT : Hid (AtA Z I I 1 (vals N z Z) q0) := by rw [hI] at AT; exact AT
      obtain ⟨q2, hq2⟩ : ∃ q2, q0 = q2 := ⟨_, rfl⟩
      rw [hq2] at f HAT
      have HRD : Hid (∀ j, j < Z → ∀ σ, ARuns 4 8 4 20 (wtD j) false 0 1 true 4 σ q2 .see q2 (.over 0 (vals N z Z j) (σ + 3))) := fun j hj σ => HAT.out.read hj σ
      have HWD : Hid (∀ a, Wd (q2.dw a)) := HAT.out.cm.wd
      go_wp2
      have A1 : Hid (Sc w wr L E H Z s0 σ0 q2) := f
      clear f AT hyq y0 y1 y2 y3 y4 y5 y6 y7 y8
      as_aux_lemma =>
        go_loopw [18] (fun i wr => ∃ (j : Nat) (s' : Mm) (σ' : Nat), i = .int .i64 j ∧ j ≤ Z ∧ σ' ≤ 1300 + 4 * j ∧ Sc w wr L E H Z s' σ' q2) (fun i _ => 16 - (intOf i).toNat)
        case atStart => exact ⟨0, _, _, rfl, by omega, by omega, A1.out⟩
        case round =>
          clear A1
          obtain ⟨j, s3, σ3, rfl, hjZ, hσ3, f⟩ := hrel
          have y0 := f.sp.v.c0
          have y1 := f.sp.v.c1
          have y2 := f.sp.v.c2
          have y3 := f.sp.v.c3
          have y4 := f.sp.v.c4
          have y5 := f.sp.v.c5
          have y6 := f.sp.v.c6
          have y7 := f.sp.v.c7
          have y8 := f.sp.v.c8
          obtain ⟨_, hd⟩ := f.hd
          have hd1 := hd.at0 1 rfl
          by_cases hj : j < Z
          · have hj' : (j : Int) < (Z : Int) := by omega
            have rd := HRD.out j hj σ3
            by_cases hjN : j < N
            · have hjN' : (j : Int) < (N : Int) := by omega
              obtain ⟨zb, zo, rfl, hk⟩ := HR.out j hjN
              have hk1 := keep' f.sp.b hk
              rw [show vals N z Z j = bits .and .i64 (z j) 65535 from by unfold vals; rw [if_pos ⟨hj, hjN⟩]; rfl] at rd
              go_wp2_with (go_at_call 17; refine (f.read SA0.out HWD.out (by omega) (by decide) rd).mono ?_; rintro e w4 ⟨rfl, s4, f4, o4⟩; have d4 := At.new w4 48 [.int .i64 0, .int .u64 0, .int .i64 (bits .and .i64 (z j) 65535), .int .i64 ((σ3 + 3 : Nat) : Int)]; have t0 := d4.at0 0 rfl; have t2 := d4.at0 2 rfl)
              go_roundw
              case rel => exact ⟨j + 1, s4, σ3 + 4, by go_num, by omega, by omega, f4.grown (grow1 _ _)⟩
              case measure => simp [intOf]; omega
            · have hjN' : ¬ (j : Int) < (N : Int) := by omega
              rw [show vals N z Z j = 0 from by unfold vals; rw [if_neg (fun h => hjN h.2)]] at rd
              go_wp2_with (go_at_call 17; refine (f.read SA0.out HWD.out (by omega) (by decide) rd).mono ?_; rintro e w4 ⟨rfl, s4, f4, o4⟩; have d4 := At.new w4 48 [.int .i64 0, .int .u64 0, .int .i64 0, .int .i64 ((σ3 + 3 : Nat) : Int)]; have t0 := d4.at0 0 rfl; have t2 := d4.at0 2 rfl)
              go_roundw
              case rel => exact ⟨j + 1, s4, σ3 + 4, by go_num, by omega, by omega, f4.grown (grow1 _ _)⟩
              case measure => simp [intOf]; omega
          · have hj' : ¬ (j : Int) < (Z : Int) := by omega
            have hw : Wo (q2.sw 0) 1 (base 4 8 4 20 I) I := HAT.out.sw
            have ffV : ∀ (a1 a2 a3 a4 : Value) (w : World), (Instr.field 42 (.agg #[a1, a2, a3, a4]) 3).run Tryz.prog w = .ok a4 w := fun a1 a2 a3 a4 w => by kernel_rfl
            go_wp2_with (go_at_call 14; refine (f.where hw).mono ?_; rintro e w4 ⟨rfl, b4⟩)
            go_ret
            exact ⟨by first | rfl | (rw [HIn.out]; simp), (f.grown b4).sp.b⟩

end Go.Proofs.YtkgpffcnimmdkaaGreat
