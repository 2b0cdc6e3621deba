/- MoveVersions, walked. -/
import Derived.Test.YtkgpffcnimmdkabGreatMovAwake
import Derived.Test.YtkgpffcnimmdkabGreatMovFree
import Derived.Test.YtkgpffcnimmdkabGreatArgs
namespace Go.Proofs.YtkgpffcnimmdkabGreat
open Go.RowKit

/-- the version is laid by hand -/
theorem AtA.vers {Z V : Nat} {val : Nat → Int} {q : Q} (h : AtA Z 0 0 1 val q) (hV : V ≤ 4194303) : AtA Z 0 V 1 val { q with sw := upd q.sw 0 (packS ((1 : Nat) : Int) ((38 : Nat) : Int) ((1 : Nat) : Int) ((V : Nat) : Int)) } := by
  have d := packS_dec (st := 1) (A := 38) (G := 1) (V := V) (by decide) (by decide) (by decide) hV
  have e : upd q.sw 0 (packS ((1 : Nat) : Int) ((38 : Nat) : Int) ((1 : Nat) : Int) ((V : Nat) : Int)) 0 = packS ((1 : Nat) : Int) ((38 : Nat) : Int) ((1 : Nat) : Int) ((V : Nat) : Int) := upd_same _ _ _
  refine ⟨⟨h.cm.z1, h.cm.z2, h.cm.c2, h.cm.wd, h.cm.hA, h.cm.nf, h.cm.vb⟩, ?_, fun j hj => ⟨(h.cl j hj).1, fun hf => ?_⟩, h.lv⟩
  · show Wo (upd q.sw 0 (packS ((1 : Nat) : Int) ((38 : Nat) : Int) ((1 : Nat) : Int) ((V : Nat) : Int)) 0) 1 (base 4 8 4 20 0) V
    rw [e]
    exact ⟨packS_wd _ _ _ _, d.1, d.2.1, d.2.2.1, d.2.2.2⟩
  · have x := ((h.cl j hj).2 hf).2 rfl
    have x' : crOf (q.dw (base 4 8 4 20 0 + 1 + j)) < 0 := x
    show crOf (q.dw (base 4 8 4 20 0 + 1 + j)) ≤ (V : Int) ∧ (1 = 1 → crOf (q.dw (base 4 8 4 20 0 + 1 + j)) < (V : Int))
    exact ⟨by omega, fun _ => by omega⟩

theorem vers_mi {Z V : Nat} {val : Nat → Int} {q : Q} (h : AtA Z 0 V 1 val q) (hy : q.y = yB (mw Z 0).κ) (hV : V ≤ 4194301) : MI false Z 0 V val (yE (mw Z 0).κ) 9 q (.see .see 0) :=
  ⟨h, ⟨hV, by decide, fun e => (by cases e), fun _ => rfl⟩, Or.inl ⟨rfl, by rw [hy]; exact goesB _⟩⟩

theorem kept_turn {Z V : Nat} {val : Nat → Int} {q : Q} (h : AtA Z 0 V 1 val q) (hV : 4194302 ≤ V) : mvTurn (mw Z 0) 4 20 (base 4 8 4 20) q (.see .see 0) = (q, .over 3 .see) := by
  have hw := h.sw
  have hs4 : ¬ q.sw 0 % 8 = 4 := by rw [hw.s]; decide
  have hh : (mw Z 0).here (q.sw 0) = true := by
    unfold Mw.here
    rw [decide_eq_true (show genOf (q.sw 0) = (mw Z 0).G from hw.g), decide_eq_true (show adOf (q.sw 0) = (mw Z 0).A from hw.a)]
    rfl
  have e : mvSee (mw Z 0) (q.sw 0) .see 0 = .over 3 .see := by
    unfold mvSee
    rw [decide_eq_false hs4, Bool.and_false, if_neg (by decide), hh, decide_eq_true (show q.sw 0 % 8 = 1 from hw.s), if_pos (show (true && true) = true from rfl), if_pos (by rw [hw.r]; exact hV)]
    rfl
  show (q, mvSee (mw Z 0) (q.sw 0) .see 0) = _
  rw [e]

theorem scv_new0 {w0 W1 : World} {L : Loc} {E H Z σ : Nat} {s : Mm} {q : Q} (f : Sc w0 W1 L E H Z s σ q) (A : ScA w0 L E H) (kd : Int) :
    ScV w0 (W1.alloc (mov0 (mw Z 0).A kd (mw Z 0).Z (mw Z 0).x (mw Z 0).G (mw Z 0).own (mw Z 0).κ)) L E H W1.heap.size Z s σ q (mw Z 0) (.see .see 0) ∧ ScMA w0 L E H W1.heap.size := by
  obtain ⟨cs, k⟩ := mov0_at (mw Z 0).A kd (mw Z 0).Z (mw Z 0).x (mw Z 0).G (mw Z 0).own (mw Z 0).κ W1
  exact ⟨⟨f.grown (grow1 _ _), ⟨cs, _, k, mv0_is (mw Z 0) kd⟩, trivial⟩, ⟨A, fun hh => by have := f.sp.mm.lt _ hh; omega, f.sp.b.size, by have := f.sp.ltE; omega, by have := f.ltH; omega⟩⟩

theorem slot_eqV (V : Nat) (w : World) : (binOp .eql 49 (.agg #[.int .i64 1, .int .i64 38, .int .i64 1, .int .i64 V]) (.agg #[.int .i64 1, .int .i64 38, .int .i64 1, .int .i64 V])).run Tryz.prog w = .ok (.bool true) w := by
  go_simp

theorem read0 {w0 W : World} {L : Loc} {E H M Z σ : Nat} {s : Mm} {q : Q} {Wm : Mw} {μ : Mv} {x : Int} (f : ScV w0 W L E H M Z s σ q Wm μ) (A : ScMA w0 L E H M) (hdw : ∀ a, Wd (q.dw a)) (hσ : σ + 200 < 1000000) (g : ARuns 4 8 4 20 (wtD 0) false 0 1 true 4 σ q .see q (.over 0 x (σ + 3))) :
    Calls Tryz.prog 18 #[.agg #[.int .i64 4, .int .i64 8, .int .i64 4, .int .i64 20, .int .i64 100, .int .i64 600, .int .i64 3, .pointer (some ⟨L.p, 0, none⟩), .int .i64 0], .int .u64 65536, .int .i64 0] W fun e w' => e = .returned (.agg #[.int .i64 0, .int .u64 0, .int .i64 x, .int .i64 ((σ + 3 : Nat) : Int)]) ∧ Below w0.heap.size w0 w' := by
  have k := f.sc.read A.sa hdw hσ (j := 0) (by decide) g
  refine Calls.mono k ?_
  rintro e w' ⟨rfl, s', f', o'⟩
  exact ⟨rfl, f'.sp.b⟩

set_option maxHeartbeats 4000000 in
set_option maxRecDepth 20000 in
theorem moveVersions_any (a : Int) (b : Int) (w : World) :
    Calls Tryz.prog 4 #[.int .i64 a, .int .i64 b] w fun e w' => e = .returned (.bool true) ∧ Below w.heap.size w w' := by
  obtain ⟨Z, hZ, z1, z2⟩ := size15 a
  have HZ : Hid ((1 : Int) + bits .and .i64 a 15 = (Z : Int)) := hZ
  clear hZ
  obtain ⟨bn, hbn, hbb⟩ : ∃ n : Nat, bits .and .i64 b 3 = (n : Int) ∧ n ≤ 3 := by
    obtain ⟨y, h1, h2⟩ := low0 b 3 2 (by decide) (by decide)
    exact ⟨y, h1, by omega⟩
  obtain ⟨V, hV⟩ : ∃ V : Nat, 4194303 - bn = V := ⟨_, rfl⟩
  have hVw : IntKind.i64.wrap (4194303 - (bn : Int)) = (V : Int) := by rw [IntKind.wrap_i64]; omega
  have ffV : ∀ (a1 a2 a3 a4 : Value) (w : World), (Instr.field 49 (.agg #[a1, a2, a3, a4]) 3).run Tryz.prog w = .ok a4 w := fun a1 a2 a3 a4 w => by kernel_rfl
  have ffD : ∀ (a1 a2 a3 a4 : Value) (w : World), (Instr.field 56 (.agg #[a1, a2, a3, a4]) 0).run Tryz.prog w = .ok a1 w := fun a1 a2 a3 a4 w => by kernel_rfl
  go_enter Tryz.func4, Tryz.ntmps4
  go_wp2_with (first
    | (go_at_call 5; refine (begun_any a none 0 0 (fun _ => 0) w (fun i hi => absurd hi (by omega)) HZ.out z1 z2).mono ?_; rintro e w1 ⟨L, s, σ, q, rfl, hσ, m1, t1, a1, hyq, b1, l1⟩; obtain ⟨sc1, sa⟩ := sc_new (Z := Z) m1 t1 b1 l1)
    | (go_at_call 6; refine (awake11_any _).mono ?_; rintro e w2 ⟨rfl, b2⟩; have sc2 := sc1.grown b2; have y0 := sc2.sp.v.c0; have y1 := sc2.sp.v.c1; have y2 := sc2.sp.v.c2; have y3 := sc2.sp.v.c3; have y4 := sc2.sp.v.c4; have y5 := sc2.sp.v.c5; have y6 := sc2.sp.v.c6; have y7 := sc2.sp.v.c7; have y8 := sc2.sp.v.c8; obtain ⟨_, hd⟩ := sc2.hd; have g0 := hd.at0 0 rfl; have g1 := hd.at0 1 rfl; have g2 := hd.at0 2 rfl; have g3 := hd.at0 3 rfl; have g4 := hd.at0 4 rfl)
    | (go_at_call 14; have hw0 : Wo (q.sw 0) 1 38 0 := a1.sw; refine (sc2.where hw0).mono ?_; rintro e w3 ⟨rfl, b3⟩; have sc3 := sc2.grown b3; have t0f := (At.new w3 49 [.int .i64 1, .int .i64 38, .int .i64 1, .int .i64 0]).fz))
  have h0 := At.new w3 49 [.int .i64 1, .int .i64 38, .int .i64 1, .int .i64 V]
  obtain ⟨E, hE⟩ : ∃ E, w1.heap.size = E := ⟨_, rfl⟩
  have hSL : ¬ L.has w3.heap.size := fun hh => by have := sc3.sp.mm.lt _ hh; omega
  rw [hE] at sc3 sa
  try rw [hE]
  obtain ⟨H, hH⟩ : ∃ H, E + 1 = H := ⟨_, rfl⟩
  rw [hH] at sc3 sa
  try rw [hH]
  obtain ⟨S, hS⟩ : ∃ S, w3.heap.size = S := ⟨_, rfl⟩
  rw [hS] at h0 hSL
  try rw [hS]
  have SA0 : Hid (ScA w L E H) := sa
  obtain ⟨sv, hsv⟩ : ∃ x, packS ((1 : Nat) : Int) ((38 : Nat) : Int) ((1 : Nat) : Int) ((V : Nat) : Int) = x := ⟨_, rfl⟩
  have PS : Hid (∀ w : World, Calls Tryz.prog 17 #[.agg #[.int .i64 1, .int .i64 38, .int .i64 1, .int .i64 V]] w fun e w' => e = .returned (.int .u64 sv) ∧ Below w.heap.size w w') := fun w => by
    have k := putSlot_any ((1 : Nat) : Int) ((38 : Nat) : Int) ((1 : Nat) : Int) ((V : Nat) : Int) w ⟨by decide, by decide⟩ ⟨by decide, by decide⟩ ⟨by decide, by decide⟩ ⟨by omega, by omega⟩
    rw [← hsv]
    exact k
  have hn : 10 < s.n := by have : s.n = 118 := t1.len; omega
  have TW : Hid (Town 4 8 4 20 (s.step 10 sv) (σ + 1) { q with sw := upd q.sw 0 sv }) := by
    have wd := packS_wd ((1 : Nat) : Int) ((38 : Nat) : Int) ((1 : Nat) : Int) ((V : Nat) : Int)
    rw [hsv] at wd
    exact t1.shows (by omega) s.who (x := 0) (by decide) sv wd.1 wd.2
  have AT1 : Hid (AtA Z 0 V 1 (vals 0 (fun _ => 0) Z) { q with sw := upd q.sw 0 sv }) := by
    unfold Hid
    rw [← hsv]
    exact a1.vers (by omega)
  have HY : Hid (q.y = yB (mw Z 0).κ) := hyq
  refine wp_over (fun W => Sc w W L E H Z s σ q ∧ At W S 0 49 _ [.int .i64 1, .int .i64 38, .int .i64 1, .int .i64 V]) ⟨sc3.grown (grow1 _ (.cells #[.int .i64 1, .int .i64 38, .int .i64 1, .int .i64 V] 49)), h0⟩ ?_
  clear sc1 sc2 sc3 m1 t1 b1 l1 b2 b3 hd hE hH hS h0 sa a1 hyq hsv hw0 g0 g1 g2 g3 g4 y0 y1 y2 y3 y4 y5 y6 y7 y8 t0f
  rintro W ⟨f1, s1⟩
  obtain ⟨_, h1⟩ := f1.hd
  refine wp_region_rely_tail Grown 9 [.val (.pointer (some ⟨E, 7, none⟩)), .val (.pointer (some ⟨L.p, 0, none⟩)), .val (.pointer (some ⟨E, 0, none⟩)), .val (.agg #[.int .i64 4, .int .i64 8, .int .i64 4, .int .i64 20, .int .i64 100, .int .i64 600, .int .i64 3]), .val (.pointer (some ⟨H, 2, none⟩)), .val (.int .i64 0), .val (.int .i64 10), .val (.agg #[.int .i64 1, .int .i64 38, .int .i64 1, .int .i64 V]), .val (.int .u64 sv)] (by kernel_rfl) Grown.refl Grown.trans (by decide) (by kernel_rfl) (by kernel_rfl) (by kernel_rfl) (by kernel_rfl) (by kernel_rfl) (by kernel_rfl) ?_
  simp only [List.take_succ_cons, List.take_zero, relyAll, Act.put, List.setIfInBounds_toArray, List.set_cons_zero, List.set_cons_succ]
  refine ⟨?_, ?_, ?_, ?_, ?_, ?_, ?_, ?_, ?_, ?_⟩
  · intro w' hg _
    refine Or.inl ⟨rfl, ?_⟩
    go_simp
    exact ⟨Grown.refl _, rfl⟩
  · intro w' hg _
    refine Or.inl ⟨rfl, ?_⟩
    have vv := (f1.sp.v.grown ((Below.refl _ _).drew)).grown hg
    have y0 := vv.c0
    have y1 := vv.c1
    have y2 := vv.c2
    have y3 := vv.c3
    have y4 := vv.c4
    have y5 := vv.c5
    have y6 := vv.c6
    have y7 := vv.c7
    have y8 := vv.c8
    go_simp
    exact ⟨Grown.refl _, rfl⟩
  · intro w' hg _
    refine Or.inl ⟨rfl, ?_⟩
    go_simp
    exact ⟨Grown.refl _, rfl⟩
  · intro w' hg _
    refine Or.inl ⟨rfl, ?_⟩
    have vv := (f1.sp.v.grown ((Below.refl _ _).drew)).grown hg
    have y0 := vv.c0
    have y1 := vv.c1
    have y2 := vv.c2
    have y3 := vv.c3
    have y4 := vv.c4
    have y5 := vv.c5
    have y6 := vv.c6
    have y7 := vv.c7
    have y8 := vv.c8
    go_simp
    exact ⟨Grown.refl _, rfl⟩
  · intro w' hg _
    refine Or.inl ⟨rfl, ?_⟩
    go_simp
    exact ⟨Grown.refl _, rfl⟩
  · intro w' hg _
    refine Or.inl ⟨rfl, ?_⟩
    have z0 := (h1.drew.grown hg).at0 2 rfl
    go_simp
    exact ⟨Grown.refl _, rfl⟩
  · intro w' hg _
    refine Or.inl ⟨rfl, ?_⟩
    go_simp
    refine (lslot_any _ _ _ _ _ _ _ 0 _ good11.arena (by omega) (by omega)).mono ?_
    rintro e w'' ⟨rfl, b9⟩
    exact ⟨_, rfl, b9, congrArg (Value.int .i64) (by omega)⟩
  · intro w' hg _
    refine Or.inl ⟨rfl, ?_⟩
    have z0 := (s1.drew.grown hg).at0 0 rfl
    have z1 := (s1.drew.grown hg).at0 1 rfl
    have z2 := (s1.drew.grown hg).at0 2 rfl
    have z3 := (s1.drew.grown hg).at0 3 rfl
    go_simp
    exact ⟨Grown.refl _, rfl⟩
  · intro w' hg _
    refine Or.inl ⟨rfl, ?_⟩
    go_simp
    refine (PS.out _).mono ?_
    rintro e w'' ⟨rfl, b9⟩
    exact ⟨_, rfl, b9, rfl⟩
  intro w4 hg _
  have f4 := f1.drew.grown hg
  have p4 := s1.drew.grown hg
  clear hg f1 s1 h1
  have y0 := f4.sp.v.c0
  have y1 := f4.sp.v.c1
  have y2 := f4.sp.v.c2
  have y3 := f4.sp.v.c3
  have y4 := f4.sp.v.c4
  have y5 := f4.sp.v.c5
  have y6 := f4.sp.v.c6
  have y7 := f4.sp.v.c7
  have y8 := f4.sp.v.c8
  have nw := fun W => new0 (Z := Z) z1 z2 W
  go_wp2_with (first
    | (go_at_call 15; refine (store_in f4.sp.mm 10 hn sv).mono ?_; rintro e w5 ⟨rfl, m5, o5, z5⟩; have f5 := f4.only SA0.out o5 m5 TW.out; have p5 := p4.only o5 hSL; have u0 := f5.sp.v.c0; have u1 := f5.sp.v.c1; have u2 := f5.sp.v.c2; have u3 := f5.sp.v.c3; have u4 := f5.sp.v.c4; have u5 := f5.sp.v.c5; have u6 := f5.sp.v.c6; have u7 := f5.sp.v.c7; have u8 := f5.sp.v.c8; obtain ⟨_, hd5⟩ := f5.hd; have g0 := hd5.at0 0 rfl; have g1 := hd5.at0 1 rfl; have g2 := hd5.at0 2 rfl; have g3 := hd5.at0 3 rfl; have g4 := hd5.at0 4 rfl)
    | (go_at_call 7; refine (nw _).mono ?_; rintro e w6 ⟨W3, rfl, rfl, b6⟩))
  obtain ⟨M, hM⟩ : ∃ M, W3.heap.size = M := ⟨_, rfl⟩
  have hSM : ¬ S = M := fun e => by
    have h1 := b6.size
    have h2 := p5.lt
    omega
  have HS : Hid (¬ L.has S ∧ ¬ S = M) := ⟨hSL, hSM⟩
  obtain ⟨s1, hs1⟩ : ∃ x, s.step 10 sv = x := ⟨_, rfl⟩
  obtain ⟨q1, hq1⟩ : ∃ x, { q with sw := upd q.sw 0 sv } = x := ⟨_, rfl⟩
  have hy1 : q1.y = yB (mw Z 0).κ := by rw [← hq1]; exact HY.out
  rw [hs1, hq1] at f5
  rw [hq1] at AT1
  obtain ⟨σ1, hσe⟩ : ∃ x, σ + 1 = x := ⟨_, rfl⟩
  have hσ1 : σ1 ≤ 1001 := by omega
  rw [hσe] at f5
  have p6 := (p5.grown b6).grown (grow1 _ (mov0 (mw Z 0).A 2 (mw Z 0).Z (mw Z 0).x (mw Z 0).G (mw Z 0).own (mw Z 0).κ))
  by_cases hb2 : bn < 2
  · have hb2' : (bn : Int) < 2 := by omega
    obtain ⟨sm, sma⟩ := scv_new0 (f5.grown b6) SA0.out 2
    rw [hM] at sm sma
    try rw [hM]
    have SA : Hid (ScMA w L E H M) := sma
    have A1 : Hid (ScV w _ L E H M Z s1 σ1 q1 (mw Z 0) (.see .see 0) ∧ At _ S 0 49 _ [.int .i64 1, .int .i64 38, .int .i64 1, .int .i64 V]) := ⟨sm, p6⟩
    clear sm sma hM hSM hSL hs1 hq1 hσe f4 f5 p4 p5 p6 m5 o5 z5 b6 hd5 g0 g1 g2 g3 g4 nw TW PS HY hy1 y0 y1 y2 y3 y4 y5 y6 y7 y8 u0 u1 u2 u3 u4 u5 u6 u7 u8
    as_aux_lemma =>
      have hvs : 4194302 ≤ V := by omega
      have ht : mvTurn (mw Z 0) 4 20 (base 4 8 4 20) q1 (.see .see 0) = (q1, .over 3 .see) := kept_turn AT1.out hvs
      have AQ := AT1.out
      have hw : Wo (q1.sw 0) 1 38 V := AQ.sw
      go_loopw [12] (fun iv wr => iv = .int .i64 0 ∧ ScV w wr L E H M Z s1 σ1 q1 (mw Z 0) (.see .see 0) ∧ At wr S 0 49 _ [.int .i64 1, .int .i64 38, .int .i64 1, .int .i64 V]) (fun _ _ => 0)
      case atStart => exact ⟨rfl, A1.out.1, A1.out.2⟩
      case round =>
        clear A1
        obtain ⟨rfl, f, pp⟩ := hrel
        have y0 := f.sc.sp.v.c0
        have y1 := f.sc.sp.v.c1
        have y2 := f.sc.sp.v.c2
        have y3 := f.sc.sp.v.c3
        have y4 := f.sc.sp.v.c4
        have y5 := f.sc.sp.v.c5
        have y6 := f.sc.sp.v.c6
        have y7 := f.sc.sp.v.c7
        have y8 := f.sc.sp.v.c8
        have k := f.step SA.out (by omega) AQ.cm.wd (mw_ok (c := 0) z1 z2 (by decide)) rfl (show Mv.good 4 8 4 20 σ1 (mw Z 0) q1 (.see .see 0) from ⟨Or.inl rfl, by omega⟩) rfl ht true rfl
        go_wp2_with (go_at_call 9; refine k.mono ?_; rintro e w2 ⟨rfl, s2, f2, o2, -⟩)
        have p2 := pp.only o2 (fun hh => hh.elim HS.out.1 HS.out.2)
        have HW : Hid (Wo (q1.sw 0) 1 38 V) := hw
        have seq := fun w : World => slot_eqV V w
        refine wp_over (fun W => ScV w W L E H M Z s2 (σ1 + 1) q1 (mw Z 0) (.over 3 .see) ∧ At W S 0 49 _ [.int .i64 1, .int .i64 38, .int .i64 1, .int .i64 V]) ⟨f2, p2⟩ ?_
        clear f f2 pp p2 o2 k hw ht AQ y0 y1 y2 y3 y4 y5 y6 y7 y8
        rintro W ⟨f1, s1⟩
        refine wp_region_rely_tail Grown 10 [.val (.pointer (some ⟨M, 0, none⟩)), .val (.int .i64 3), .val (.bool true), .val (.bool true), .val (.agg #[.int .i64 4, .int .i64 8, .int .i64 4, .int .i64 20, .int .i64 100, .int .i64 600, .int .i64 3, .pointer (some ⟨L.p, 0, none⟩), .int .i64 0]), .val (.int .u64 65536), .val (.agg #[.int .i64 1, .int .i64 38, .int .i64 1, .int .i64 V]), .val (.agg #[.int .i64 1, .int .i64 38, .int .i64 1, .int .i64 V]), .val (.bool true), .val (.bool true)] (by kernel_rfl) Grown.refl Grown.trans (by decide) (by kernel_rfl) (by kernel_rfl) (by kernel_rfl) (by kernel_rfl) (by kernel_rfl) (by kernel_rfl) ?_
        simp only [List.take_succ_cons, List.take_zero, relyAll, Act.put, List.setIfInBounds_toArray, List.set_cons_zero, List.set_cons_succ]
        refine ⟨?_, ?_, ?_, ?_, ?_, ?_, ?_, ?_, ?_, ?_, ?_⟩
        · intro w' hg _
          refine Or.inl ⟨rfl, ?_⟩
          go_simp
          exact ⟨Grown.refl _, rfl⟩
        · intro w' hg _
          refine Or.inl ⟨rfl, ?_⟩
          go_simp
          refine (((f1.grown ((Below.refl _ _).drew)).grown hg).out).mono ?_
          rintro e w'' ⟨rfl, rfl⟩
          exact ⟨_, rfl, Grown.refl _, rfl⟩
        · intro w' hg _
          refine Or.inl ⟨rfl, ?_⟩
          go_simp
          refine ⟨Grown.refl _, ?_⟩
          first
            | rfl
            | (simp [Want.pred]; done)
        · intro w' hg _
          refine Or.inl ⟨rfl, ?_⟩
          go_simp
          exact ⟨Grown.refl _, rfl⟩
        · intro w' hg _
          refine Or.inl ⟨rfl, ?_⟩
          have vv := (f1.sc.sp.v.grown ((Below.refl _ _).drew)).grown hg
          have y0 := vv.c0
          have y1 := vv.c1
          have y2 := vv.c2
          have y3 := vv.c3
          have y4 := vv.c4
          have y5 := vv.c5
          have y6 := vv.c6
          have y7 := vv.c7
          have y8 := vv.c8
          go_simp
          exact ⟨Grown.refl _, rfl⟩
        · intro w' hg _
          refine Or.inl ⟨rfl, ?_⟩
          go_simp
          exact ⟨Grown.refl _, rfl⟩
        · intro w' hg _
          refine Or.inl ⟨rfl, ?_⟩
          go_simp
          refine ((((f1.grown ((Below.refl _ _).drew)).grown hg).sc.where HW.out)).mono ?_
          rintro e w'' ⟨rfl, b9⟩
          exact ⟨_, rfl, b9, rfl⟩
        · intro w' hg _
          refine Or.inl ⟨rfl, ?_⟩
          have z0 := (s1.drew.grown hg).at0 0 rfl
          have z1 := (s1.drew.grown hg).at0 1 rfl
          have z2 := (s1.drew.grown hg).at0 2 rfl
          have z3 := (s1.drew.grown hg).at0 3 rfl
          go_simp
          exact ⟨Grown.refl _, rfl⟩
        · intro w' hg _
          refine Or.inl ⟨rfl, ?_⟩
          have z := seq w'
          go_simp
          exact ⟨Grown.refl _, rfl⟩
        · intro w' hg _
          refine Or.inl ⟨rfl, ?_⟩
          go_simp
          exact ⟨Grown.refl _, rfl⟩
        intro w6 hg _
        have f6 := (f1.grown ((Below.refl _ _).drew)).grown hg
        go_wp2
        go_ret
        exact ⟨rfl, f6.sc.sp.b⟩
  · have hb2' : ¬ (bn : Int) < 2 := by omega
    obtain ⟨sm, sma⟩ := scm_new (wr := false) (c := 0) (V := V) (val := (vals 0 (fun _ => 0) Z)) (yE := yE (mw Z 0).κ) (r := 9) (f5.grown b6) SA0.out 2 (vers_mi AT1.out hy1 (by omega))
    rw [hM] at sm sma
    try rw [hM]
    have SA : Hid (ScMA w L E H M) := sma
    have A1 : Hid (ScM w _ L E H M Z s1 σ1 q1 false 0 V (vals 0 (fun _ => 0) Z) (yE (mw Z 0).κ) 9 (.see .see 0) ∧ At _ S 0 49 _ [.int .i64 1, .int .i64 38, .int .i64 1, .int .i64 V]) := ⟨sm, p6⟩
    clear sm sma hM hSM hSL hs1 hq1 hσe f4 f5 p4 p5 p6 m5 o5 z5 b6 hd5 g0 g1 g2 g3 g4 nw TW PS HY hy1 y0 y1 y2 y3 y4 y5 y6 y7 y8 u0 u1 u2 u3 u4 u5 u6 u7 u8
    as_aux_lemma =>
      have hvs : V ≤ 4194301 := by omega
      have AQ := AT1.out
      have A0 : Hid (ScM w _ L E H M Z s1 σ1 q1 false 0 V (vals 0 (fun _ => 0) Z) (yE (mw Z 0).κ) 9 (.see .see 0) ∧ At _ S 0 49 _ [.int .i64 1, .int .i64 38, .int .i64 1, .int .i64 V]) := ⟨A1.out.1, A1.out.2⟩
      clear A1
      go_loopw [12] (fun i wr => ∃ (j : Nat) (s' : Mm) (σ' : Nat) (q' : Q) (μ : Mv) (r : Nat), i = .int .i64 j ∧ j + mpot false Z 0 r q' μ ≤ 3 * Z + 18 ∧ μ.over? = false ∧ σ' ≤ 1002 + j ∧ ScM w wr L E H M Z s' σ' q' false 0 V (vals 0 (fun _ => 0) Z) (yE (mw Z 0).κ) r μ ∧ At wr S 0 49 _ [.int .i64 1, .int .i64 38, .int .i64 1, .int .i64 V]) (fun i _ => 200 - (intOf i).toNat)
      case atStart => exact ⟨0, s1, σ1, q1, .see .see 0, 9, rfl, by simp [mpot, rst] <;> omega, rfl, by omega, A0.out⟩
      case round =>
        clear A0
        obtain ⟨j, s1', σ1', q1', μ, r, rfl, hj, ho, hσ1', f, pp⟩ := hrel
        have hj3 : (j : Int) < 200 := by omega
        obtain ⟨q2, μ2, r2, ht, hp, mi, hrr, k⟩ := f.step SA.out (by omega) ho
        have y0 := f.sc.sp.v.c0
        have y1 := f.sc.sp.v.c1
        have y2 := f.sc.sp.v.c2
        have y3 := f.sc.sp.v.c3
        have y4 := f.sc.sp.v.c4
        have y5 := f.sc.sp.v.c5
        have y6 := f.sc.sp.v.c6
        have y7 := f.sc.sp.v.c7
        have y8 := f.sc.sp.v.c8
        cases hov : μ2.over? with
        | false =>
          have k := k false hov
          go_wp2_with (go_at_call 9; refine k.mono ?_; rintro e w2 ⟨rfl, s2, f2, o2, -⟩)
          go_roundw
          case rel => exact ⟨j + 1, s2, σ1' + 1, q2, μ2, r2, by go_num, by omega, hov, by omega, f2, pp.only o2 (fun hh => hh.elim HS.out.1 HS.out.2)⟩
          case measure => simp [intOf]; omega
        | true =>
          have k := k true hov
          obtain ⟨o, τ, rfl⟩ := Mv.is_over hov
          rcases mi with ⟨rfl, hB, rfl, hy⟩ | ⟨h, -⟩
          · clear hov ht hp
            have hw : Wo (q2.sw 0) 1 58 (V + 1) := hB.sw
            obtain ⟨V1, hV1⟩ : ∃ x, V + 1 = x := ⟨_, rfl⟩
            rw [hV1] at hw
            have HW : Hid (Wo (q2.sw 0) 1 58 V1) := hw
            have HWD : Hid (∀ a, Wd (q2.dw a)) := hB.cm.wd
            have HRD : Hid (∀ σ, ARuns 4 8 4 20 (wtD 0) false 0 1 true 4 σ q2 .see q2 (.over 0 ((vals 0 (fun _ => 0) Z) 0) (σ + 3))) := fun σ => hB.read (h := 2) (by decide) (j := 0) (by omega) σ
            clear hB hy hw
            go_wp2_with (first
              | (go_at_call 9; refine k.mono ?_; rintro e w2 ⟨rfl, s2, f2, o2, -⟩; have zc0 := f2.sc.sp.v.c0; have zc1 := f2.sc.sp.v.c1; have zc2 := f2.sc.sp.v.c2; have zc3 := f2.sc.sp.v.c3; have zc4 := f2.sc.sp.v.c4; have zc5 := f2.sc.sp.v.c5; have zc6 := f2.sc.sp.v.c6; have zc7 := f2.sc.sp.v.c7; have zc8 := f2.sc.sp.v.c8))
            have p2 := pp.only o2 (fun hh => hh.elim HS.out.1 HS.out.2)
            refine wp_over (fun W => ScV w W L E H M Z s2 (σ1' + 1) q2 (mw Z 0) (.over 1 (.won (base 4 8 4 20 (0 + 1)) (0 + 1))) ∧ At W S 0 49 _ [.int .i64 1, .int .i64 38, .int .i64 1, .int .i64 V]) ⟨f2.free, p2⟩ ?_
            clear f f2 pp p2 o2 k y0 y1 y2 y3 y4 y5 y6 y7 y8 zc0 zc1 zc2 zc3 zc4 zc5 zc6 zc7 zc8
            rintro W ⟨f1, s1⟩
            refine wp_region_rely_tail Grown 16 [.val (.pointer (some ⟨M, 0, none⟩)), .val (.int .i64 1), .val (.bool true), .val (.bool true), .val (.agg #[.int .i64 4, .int .i64 8, .int .i64 4, .int .i64 20, .int .i64 100, .int .i64 600, .int .i64 3, .pointer (some ⟨L.p, 0, none⟩), .int .i64 0]), .val (.int .u64 65536), .val (.agg #[.int .i64 1, .int .i64 58, .int .i64 1, .int .i64 V1]), .val (.int .i64 V1), .val (.pointer (some ⟨S, 3, none⟩)), .val (.int .i64 V), .val (.int .i64 ((V1 : Int))), .val (.bool true), .val (.bool true), .val (.bool true), .val (.agg #[.int .i64 4, .int .i64 8, .int .i64 4, .int .i64 20, .int .i64 100, .int .i64 600, .int .i64 3, .pointer (some ⟨L.p, 0, none⟩), .int .i64 0]), .val (.int .u64 65536)] (by kernel_rfl) Grown.refl Grown.trans (by decide) (by kernel_rfl) (by kernel_rfl) (by kernel_rfl) (by kernel_rfl) (by kernel_rfl) (by kernel_rfl) ?_
            simp only [List.take_succ_cons, List.take_zero, relyAll, Act.put, List.setIfInBounds_toArray, List.set_cons_zero, List.set_cons_succ]
            refine ⟨?_, ?_, ?_, ?_, ?_, ?_, ?_, ?_, ?_, ?_, ?_, ?_, ?_, ?_, ?_, ?_, ?_⟩
            · intro w' hg _
              refine Or.inl ⟨rfl, ?_⟩
              go_simp
              exact ⟨Grown.refl _, rfl⟩
            · intro w' hg _
              refine Or.inl ⟨rfl, ?_⟩
              go_simp
              refine (((f1.grown ((Below.refl _ _).drew)).grown hg).out).mono ?_
              rintro e w'' ⟨rfl, rfl⟩
              exact ⟨_, rfl, Grown.refl _, rfl⟩
            · intro w' hg _
              refine Or.inl ⟨rfl, ?_⟩
              go_simp
              refine ⟨Grown.refl _, ?_⟩
              first
                | rfl
                | (simp [Want.pred]; done)
            · intro w' hg _
              refine Or.inl ⟨rfl, ?_⟩
              go_simp
              exact ⟨Grown.refl _, rfl⟩
            · intro w' hg _
              refine Or.inl ⟨rfl, ?_⟩
              have vv := (f1.sc.sp.v.grown ((Below.refl _ _).drew)).grown hg
              have y0 := vv.c0
              have y1 := vv.c1
              have y2 := vv.c2
              have y3 := vv.c3
              have y4 := vv.c4
              have y5 := vv.c5
              have y6 := vv.c6
              have y7 := vv.c7
              have y8 := vv.c8
              go_simp
              exact ⟨Grown.refl _, rfl⟩
            · intro w' hg _
              refine Or.inl ⟨rfl, ?_⟩
              go_simp
              exact ⟨Grown.refl _, rfl⟩
            · intro w' hg _
              refine Or.inl ⟨rfl, ?_⟩
              go_simp
              refine ((((f1.grown ((Below.refl _ _).drew)).grown hg).sc.where HW.out)).mono ?_
              rintro e w'' ⟨rfl, b9⟩
              exact ⟨_, rfl, b9, rfl⟩
            · intro w' hg _
              refine Or.inl ⟨rfl, ?_⟩
              go_simp
              exact ⟨Grown.refl _, rfl⟩
            · intro w' hg _
              refine Or.inl ⟨rfl, ?_⟩
              go_simp
              exact ⟨Grown.refl _, rfl⟩
            · intro w' hg _
              refine Or.inl ⟨rfl, ?_⟩
              have z0 := (s1.drew.grown hg).at0 3 rfl
              go_simp
              exact ⟨Grown.refl _, rfl⟩
            · intro w' hg _
              refine Or.inl ⟨rfl, ?_⟩
              go_simp
              exact ⟨Grown.refl _, congrArg (Value.int .i64) (by rw [IntKind.wrap_i64]; omega)⟩
            · intro w' hg _
              refine Or.inl ⟨rfl, ?_⟩
              go_simp
              refine ⟨Grown.refl _, ?_⟩
              first
                | rfl
                | (simp [Want.pred]; done)
            · intro w' hg _
              refine Or.inl ⟨rfl, ?_⟩
              go_simp
              exact ⟨Grown.refl _, rfl⟩
            · intro w' hg _
              refine Or.inl ⟨rfl, ?_⟩
              go_simp
              exact ⟨Grown.refl _, rfl⟩
            · intro w' hg _
              refine Or.inl ⟨rfl, ?_⟩
              have vv := (f1.sc.sp.v.grown ((Below.refl _ _).drew)).grown hg
              have y0 := vv.c0
              have y1 := vv.c1
              have y2 := vv.c2
              have y3 := vv.c3
              have y4 := vv.c4
              have y5 := vv.c5
              have y6 := vv.c6
              have y7 := vv.c7
              have y8 := vv.c8
              go_simp
              exact ⟨Grown.refl _, rfl⟩
            · intro w' hg _
              refine Or.inl ⟨rfl, ?_⟩
              go_simp
              exact ⟨Grown.refl _, rfl⟩
            intro w6 hg _
            have f6 := (f1.grown ((Below.refl _ _).drew)).grown hg
            have y0 := f6.sc.sp.v.c0
            have y1 := f6.sc.sp.v.c1
            have y2 := f6.sc.sp.v.c2
            have y3 := f6.sc.sp.v.c3
            have y4 := f6.sc.sp.v.c4
            have y5 := f6.sc.sp.v.c5
            have y6 := f6.sc.sp.v.c6
            have y7 := f6.sc.sp.v.c7
            have y8 := f6.sc.sp.v.c8
            have rd := HRD.out (σ1' + 1)
            have k6 := read0 f6 SA.out HWD.out (by omega) rd
            go_wp2_with (go_at_call 18; refine k6.mono ?_; rintro e w7 ⟨rfl, b7⟩)
            go_ret
            exact ⟨rfl, b7⟩
          · cases h

end Go.Proofs.YtkgpffcnimmdkabGreat
