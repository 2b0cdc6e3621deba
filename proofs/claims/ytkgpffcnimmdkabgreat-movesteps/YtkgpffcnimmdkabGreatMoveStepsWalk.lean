/- MoveSteps, walked. -/
import Derived.Test.YtkgpffcnimmdkabGreatMovAwake
import Derived.Test.YtkgpffcnimmdkabGreatMovFree
import Derived.Test.YtkgpffcnimmdkabGreatLayRef
import Derived.Test.YtkgpffcnimmdkabGreatAllocAt
import Derived.Test.YtkgpffcnimmdkabGreatArgs
namespace Go.Proofs.YtkgpffcnimmdkabGreat
open Go.RowKit

theorem last_is {w : World} {L : Loc} {s : Mm} (h : MemAt w L s) (la lw : Int) (lc : Bool) (h1 : s.la = la) (h2 : s.lw = lw) (h3 : s.lc = lc) :
    Calls Tryz.prog 10 #[.pointer (some ⟨L.p, 0, none⟩)] w fun e w' => e = .returned (.agg #[.int .i64 la, .int .i64 lw, .bool lc]) ∧ Below w.heap.size w w' := by
  have k := last_any h
  rwa [h1, h2, h3] at k

/-- whether a chunk's word is another one -/
theorem lc_is {s s2 : Mm} {σ σ2 A : Nat} {q q2 : Q} {v : Int} (T : Town 4 8 4 20 s σ q) (T2 : Town 4 8 4 20 s2 σ2 q2) (hA : 38 ≤ A) (e : s2 = (s.by 0).step A v) : s2.lc = !decide (q.dw A = q2.dw A) ∧ s2.la = (A : Int) := by
  have h1 := T.dwv A hA
  have h2 := T2.dwv A hA
  subst e
  have h3 : upd s.wd A v A = q2.dw A := h2
  rw [upd_same] at h3
  refine ⟨?_, rfl⟩
  show (!decide (s.wd A = v)) = _
  rw [h1, h3]

theorem kind_low (A : Nat) (h : A < 38) : ∃ K I X, K ≠ 9 ∧ KindIs 4 8 4 20 A K I X := by
  obtain ⟨K, I, X, hK⟩ := KindIs.some (t := 4) (s := 8) (k := 4) (n := 20) good11.arena (by omega) A
  refine ⟨K, I, X, fun e => ?_, hK⟩
  subst e
  cases hK with
  | word i x i0 i1 x0 x1 e => omega

/-- which word a step touches -/
theorem MI.at_ok {Z r σ : Nat} {val : Nat → Int} {yE : Y} {q q' : Q} {μ μ' : Mv} (h : MI false Z 0 0 val yE r q μ) (ho : μ.over? = false) (ht : mvTurn (mw Z 0) 4 20 (base 4 8 4 20) q μ = (q', μ')) (hpg : ∀ v τ f, μ = .place v τ f → τ.good 4 20 (mw Z 0).κ σ) :
    μ.at 4 8 (mw Z 0) < 38 ∨ (38 < μ.at 4 8 (mw Z 0) ∧ μ.at 4 8 (mw Z 0) ≤ 38 + Z ∧ μ'.pl.told = (58, 1, true) ∧ μ'.over? = false) ∨ (58 ≤ μ.at 4 8 (mw Z 0) ∧ μ.at 4 8 (mw Z 0) ≤ 58 + Z ∧ μ'.pl.told = (58, 1, true) ∧ μ'.over? = false) := by
  have k4 : (mw Z 0).κ < 4 := (mw_ok (c := 0) h.com.z1 h.com.z2 (by decide)).k4
  cases μ with
  | see τ f => exact Or.inl (by show 6 + 4 + 0 * 2 < 38; decide)
  | place v τ f =>
    have gd := hpg _ _ _ rfl
    refine Or.inl ?_
    show τ.at 4 8 (mw Z 0).κ < 38
    cases τ with
    | ask i => have : i < 4 := gd; show 6 + 4 + 8 * 2 + i * 3 < 38; omega
    | grow i c => have : i < 4 := gd.1; show 6 + 4 + 8 * 2 + i * 3 < 38; omega
    | look sn i => have : i < 4 := gd.1; show 6 + 4 + 8 * 2 + i * 3 < 38; omega
    | take sn i c => have : i < 4 := gd.1; show 6 + 4 + 8 * 2 + i * 3 < 38; omega
    | fre sn i c => have : i < 4 := gd.1; show 6 + 4 + 8 * 2 + i * 3 < 38; omega
    | see => show 2 + (mw Z 0).κ < 38; omega
    | opn sn i c => show 2 + (mw Z 0).κ < 38; omega
    | won a i => show 2 + (mw Z 0).κ < 38; omega
    | none => show 2 + (mw Z 0).κ < 38; omega
  | head v a i f =>
    obtain ⟨hA, -, hL, rfl, rfl, hy⟩ := h
    obtain ⟨rfl, rfl⟩ := Prod.mk.inj ht
    exact Or.inr (Or.inr ⟨by show 58 ≤ 58; omega, by show 58 ≤ 58 + Z; omega, rfl, rfl⟩)
  | mark v a i f => exact Or.inl (by show 6 + 4 + 0 * 2 < 38; decide)
  | load v a i j f =>
    obtain ⟨hR, C, hj⟩ := h
    obtain ⟨rfl, hμ⟩ := Prod.mk.inj ht
    have ea : a = 58 := C.a
    have ei : i = 1 := C.i
    refine Or.inr (Or.inl ⟨by show 38 < 38 + 1 + j; omega, by show 38 + 1 + j ≤ 38 + Z; omega, ?_, ?_⟩) <;> subst hμ <;> subst ea <;> subst ei <;> split <;> rfl
  | freeze v u a i j f =>
    obtain ⟨hR, C, hj, wu⟩ := h
    have ea : a = 58 := C.a
    have ei : i = 1 := C.i
    have hμ := (Prod.mk.inj ht)
    have ht' : (if q.dw (base 4 8 4 20 0 + 1 + j) = u then ({ q with dw := upd q.dw (base 4 8 4 20 0 + 1 + j) (froze u (verOf' v)) }, Mv.copy v u a i j f) else (q, Mv.load v a i j f)) = (q', μ') := ht
    subst ea; subst ei
    refine Or.inr (Or.inl ⟨by show 38 < 38 + 1 + j; omega, by show 38 + 1 + j ≤ 38 + Z; omega, ?_, ?_⟩)
    · split at ht' <;> (obtain ⟨-, rfl⟩ := Prod.mk.inj ht'; rfl)
    · split at ht' <;> (obtain ⟨-, rfl⟩ := Prod.mk.inj ht'; rfl)
  | copy v u a i j f =>
    obtain ⟨hR, C, hj, wu, -⟩ := h
    have ea : a = 58 := C.a
    have ei : i = 1 := C.i
    subst ea; subst ei
    have ht' : ({ q with dw := upd q.dw (58 + 1 + j) (packX (vOf u) false 0) }, if Z ≤ j + 1 then Mv.shw v 58 1 f else Mv.load v 58 1 (j + 1) f) = (q', μ') := ht
    obtain ⟨-, hμ⟩ := Prod.mk.inj ht'
    refine Or.inr (Or.inr ⟨by show 58 ≤ 58 + 1 + j; omega, by show 58 + 1 + j ≤ 58 + Z; omega, ?_, ?_⟩) <;> subst hμ <;> split <;> rfl
  | shw v a i f => exact Or.inl (by show 6 + 4 + 0 * 2 < 38; decide)
  | ready a i =>
    obtain ⟨hB, rfl, rfl, hy⟩ := h
    obtain ⟨rfl, rfl⟩ := Prod.mk.inj ht
    exact Or.inr (Or.inr ⟨by show 58 ≤ 58; omega, by show 58 ≤ 58 + Z; omega, rfl, rfl⟩)
  | grow a i =>
    obtain ⟨hB, rfl, rfl, hy⟩ := h
    exact Or.inl (by show 6 + 4 + 8 * 2 + (0 + 1) * 3 + 1 < 38; decide)
  | fall a i => exact Or.inl (by show 6 + 4 + 8 * 2 + 0 * 3 + 1 < 38; decide)
  | bury o a i => cases h.1
  | over o τ => cases ho

set_option maxHeartbeats 4000000 in
set_option maxRecDepth 20000 in
theorem moveSteps_any (a : Int) (ao : Option Addr) (N cap : Nat) (z : Nat → Int) (w : World) (hz : IntsAt .i64 w ao N z) :
    Calls Tryz.prog 3 #[.int .i64 a, .slice ao N cap] w fun e w' => e = .returned (.bool true) ∧ Below w.heap.size w w' := by
  obtain ⟨Z, hZ, z1, z2⟩ := size15 a
  have HZ : Hid ((1 : Int) + bits .and .i64 a 15 = (Z : Int)) := hZ
  have HR : Hid (IntsAt .i64 w ao N z) := hz
  clear hz
  clear hZ
  go_enter Tryz.func3, Tryz.ntmps3
  go_wp2_with (first
    | (go_at_call 5; refine (begun_any a ao N cap z w HR.out HZ.out z1 z2).mono ?_; rintro e w1 ⟨L, s, σ, q, rfl, hσ, m1, t1, a1, hyq, b1, l1⟩; obtain ⟨sc1, sa⟩ := sc_new (Z := Z) m1 t1 b1 l1)
    | (go_at_call 6; refine (awake11_any _).mono ?_; rintro e w2 ⟨rfl, b2⟩; have sc2 := sc1.grown b2; have y0 := sc2.sp.v.c0; have y1 := sc2.sp.v.c1; have y2 := sc2.sp.v.c2; have y3 := sc2.sp.v.c3; have y4 := sc2.sp.v.c4; have y5 := sc2.sp.v.c5; have y6 := sc2.sp.v.c6; have y7 := sc2.sp.v.c7; have y8 := sc2.sp.v.c8; obtain ⟨_, hd⟩ := sc2.hd; have g0 := hd.at0 0 rfl; have g1 := hd.at0 1 rfl; have g2 := hd.at0 2 rfl; have g3 := hd.at0 3 rfl; have g4 := hd.at0 4 rfl)
    | (go_at_call 7; refine (new0 z1 z2 _).mono ?_; rintro e w3 ⟨W3, rfl, rfl, b3⟩; obtain ⟨sm, sma⟩ := scm_new (wr := false) (sc2.grown b3) sa 2 (bgn_mi false a1 hyq)))
  obtain ⟨E, hE⟩ : ∃ E, w1.heap.size = E := ⟨_, rfl⟩
  rw [hE] at sm sma
  try rw [hE]
  obtain ⟨H, hH⟩ : ∃ H, E + 1 = H := ⟨_, rfl⟩
  rw [hH] at sm sma
  try rw [hH]
  obtain ⟨M, hM⟩ : ∃ M, W3.heap.size = M := ⟨_, rfl⟩
  rw [hM] at sm sma
  try rw [hM]
  have A0 : Hid (ScM w _ L E H M Z s σ q false 0 0 (vals N z Z) (yE (mw Z 0).κ) 9 (.see .see 0)) := sm
  have SA : Hid (ScMA w L E H M) := sma
  clear sc1 sc2 m1 t1 b1 l1 b2 hd hE hH g0 g1 g2 g3 g4 y0 y1 y2 y3 y4 y5 y6 y7 y8 sm sma sa a1 hyq b3 hM
  go_loopw [11] (fun iv wr => ∃ (j : Nat) (s' : Mm) (σ' : Nat) (q' : Q) (μ : Mv) (r : Nat), iv = .int .i64 j ∧ j + mpot false Z 0 r q' μ ≤ 3 * Z + 18 ∧ μ.over? = false ∧ σ' ≤ 1000 + j ∧ ScV w wr L E H M Z s' σ' q' (mw Z 0) μ ∧ MI false Z 0 0 (vals N z Z) (yE (mw Z 0).κ) r q' μ) (fun i _ => 200 - (intOf i).toNat)
  case atStart => exact ⟨0, s, σ, q, .see .see 0, 9, rfl, by simp [mpot, rst] <;> omega, rfl, by omega, A0.out.free, A0.out.mi⟩
  case round =>
    clear A0
    obtain ⟨j, s1, σ1, q1, μ, r, rfl, hj, hmo, hσ1, f, mi0⟩ := hrel
    have hj3 : (j : Int) < 200 := by omega
    have y0 := f.sc.sp.v.c0
    have y1 := f.sc.sp.v.c1
    have y2 := f.sc.sp.v.c2
    have y3 := f.sc.sp.v.c3
    have y4 := f.sc.sp.v.c4
    have y5 := f.sc.sp.v.c5
    have y6 := f.sc.sp.v.c6
    have y7 := f.sc.sp.v.c7
    have y8 := f.sc.sp.v.c8
    obtain ⟨⟨q2, μ2⟩, ht⟩ : ∃ x, mvTurn (mw Z 0) 4 20 (base 4 8 4 20) q1 μ = x := ⟨_, rfl⟩
    have hpg : ∀ v τ fl, μ = .place v τ fl → τ.good 4 20 (mw Z 0).κ σ1 := fun v τ fl e => by have := f.pg; rw [e] at this; exact this
    obtain ⟨gd, r2, hrr, mi, hp⟩ := mi_step mi0 hmo ht σ1 hpg
    have hat := mi0.at_ok hmo ht hpg
    have hwd := mi0.com.wd
    have k0 := fun (d : Bool) (hd : μ2.over? = d) (W : World) (g : ScV w W L E H M Z s1 σ1 q1 (mw Z 0) μ) => g.step SA.out (by omega) hwd (mw_ok (c := 0) z1 z2 (by decide)) rfl gd hmo ht d hd
    obtain ⟨A, hA⟩ : ∃ A, μ.at 4 8 (mw Z 0) = A := ⟨_, rfl⟩
    rw [hA] at hat
    have HAT : Hid (μ.at 4 8 (mw Z 0) = A) := hA
    have hw1 : IntKind.i64.wrap ((σ1 : Int) + 1) = ((σ1 + 1 : Nat) : Int) := by rw [IntKind.wrap_i64]; omega
    have hw2 : IntKind.i64.wrap ((38 : Int) + (Z : Int)) = (38 : Int) + (Z : Int) := by rw [IntKind.wrap_i64]; omega
    have hw3 : IntKind.i64.wrap ((58 : Int) + (Z : Int)) = (58 : Int) + (Z : Int) := by rw [IntKind.wrap_i64]; omega
    clear hA gd
    rcases hat with hlow | ⟨ha1, ha2, hsp, hov⟩ | ⟨ha1, ha2, hsp, hov⟩
    · obtain ⟨K, I, X, hK9, hKK⟩ := kind_low A hlow
      have KK : Hid (∀ w : World, Calls Tryz.prog 12 #[.agg #[.int .i64 4, .int .i64 8, .int .i64 4, .int .i64 20, .int .i64 100, .int .i64 600, .int .i64 3], .int .i64 (A : Int)] w fun e w' => e = .returned (.tuple #[.int .i64 K, .int .i64 I, .int .i64 X]) ∧ Below w.heap.size w w') := fun w => rkind_is (m := 80) 100 600 3 w good11.arena (by omega) (by decide) (by omega) (by omega) (by omega) hKK
      have hK9' : (K == 9) = false := by simpa using hK9
      obtain ⟨sa, si, sd, hsp⟩ : ∃ sa si sd, μ2.pl.told = (sa, si, sd) := ⟨_, _, _, rfl⟩
      clear hKK
      cases hov : μ2.over? with
      | false =>
        as_aux_lemma =>
          have k := k0 false hov
          go_wp2_with (first
            | (go_at_call 8; refine (now_any f.sc.sp.mm _ _ _ _ _ _ _ _ σ1 f.sc.sp.tw.pile.st).mono ?_; rintro e w4 ⟨rfl, b4⟩; have f4 := f.grown b4; have u0 := f4.sc.sp.v.c0; have u1 := f4.sc.sp.v.c1; have u2 := f4.sc.sp.v.c2; have u3 := f4.sc.sp.v.c3; have u4 := f4.sc.sp.v.c4; have u5 := f4.sc.sp.v.c5; have u6 := f4.sc.sp.v.c6; have u7 := f4.sc.sp.v.c7; have u8 := f4.sc.sp.v.c8)
            | (go_at_call 9; refine (k _ f4).mono ?_; rintro e w5 ⟨rfl, s2, f5, o5, v5, hs5⟩; rw [HAT.out] at hs5; obtain ⟨lc, hlc⟩ : ∃ x, s2.lc = x := ⟨_, rfl⟩; have hla : s2.la = (A : Int) := (by rw [hs5]; rfl); obtain ⟨lw, hlw⟩ : ∃ x, s2.lw = x := ⟨_, rfl⟩; clear hs5; have v0 := f5.sc.sp.v.c0; have v1 := f5.sc.sp.v.c1; have v2 := f5.sc.sp.v.c2; have v3 := f5.sc.sp.v.c3; have v4 := f5.sc.sp.v.c4; have v5 := f5.sc.sp.v.c5; have v6 := f5.sc.sp.v.c6; have v7 := f5.sc.sp.v.c7; have v8 := f5.sc.sp.v.c8)
            | (go_at_call 10; refine (last_is f5.sc.sp.mm (A : Int) lw lc hla hlw hlc).mono ?_; rintro e w6 ⟨rfl, b6⟩; have f6 := (f5.grown b6).grown (grow1 _ (.cells #[.int .i64 (A : Int), .int .i64 lw, .bool lc] 39)); have t6 := At.new w6 39 [.int .i64 (A : Int), .int .i64 lw, .bool lc]; have x0 := f6.sc.sp.v.c0; have x1 := f6.sc.sp.v.c1; have x2 := f6.sc.sp.v.c2; have x3 := f6.sc.sp.v.c3; have x4 := f6.sc.sp.v.c4; have x5 := f6.sc.sp.v.c5; have x6 := f6.sc.sp.v.c6; have x7 := f6.sc.sp.v.c7; have x8 := f6.sc.sp.v.c8)
            | (go_at_call 8; refine (now_any f6.sc.sp.mm _ _ _ _ _ _ _ _ (σ1 + 1) f6.sc.sp.tw.pile.st).mono ?_; rintro e w7 ⟨rfl, b7⟩; have f7 := f6.grown b7)
            | (go_at_call 11; refine (f7.spot hsp).mono ?_; rintro e w8 ⟨rfl, b8⟩; have f8 := (f7.grown b8).grown (grow1 _ (.cells #[.int .i64 (sa : Nat), .int .i64 (si : Nat)] 42)); have t8 := ((t6.grown b7).grown b8).grown (grow1 _ (.cells #[.int .i64 (sa : Nat), .int .i64 (si : Nat)] 42)); have q8 := At.new w8 42 [.int .i64 (sa : Nat), .int .i64 (si : Nat)]; have t80 := t8.at0 0 rfl; have p0 := f8.sc.sp.v.c0; have p1 := f8.sc.sp.v.c1; have p2 := f8.sc.sp.v.c2; have p3 := f8.sc.sp.v.c3; have p4 := f8.sc.sp.v.c4; have p5 := f8.sc.sp.v.c5; have p6 := f8.sc.sp.v.c6; have p7 := f8.sc.sp.v.c7; have p8 := f8.sc.sp.v.c8)
            | (go_at_call 12; refine (KK.out _).mono ?_; rintro e w10 ⟨rfl, b10⟩; have f10 := f8.grown b10; have t10 := t8.grown b10; have q10 := q8.grown b10; have ta := t10.at0 0 rfl; have tc := t10.at0 2 rfl; have qa := q10.at0 0 rfl; obtain ⟨_, hd10⟩ := f10.sc.hd; have hz1 := hd10.at0 1 rfl)
            | (go_at_call 13; refine f10.out.mono ?_; rintro e w11 ⟨rfl, rfl⟩))
          go_roundw
          case rel => exact ⟨j + 1, s2, σ1 + 1, q2, μ2, r2, by go_num, by omega, hov, by omega, f10, mi⟩
          case measure => simp [intOf]; omega
      | true =>
        obtain ⟨o, τ, rfl⟩ := Mv.is_over hov
        obtain rfl : o = 1 := by
          rcases mi with ⟨h, -⟩ | ⟨h, -⟩
          · exact h
          · cases h
        as_aux_lemma =>
          have k := k0 true hov
          go_wp2_with (first
            | (go_at_call 8; refine (now_any f.sc.sp.mm _ _ _ _ _ _ _ _ σ1 f.sc.sp.tw.pile.st).mono ?_; rintro e w4 ⟨rfl, b4⟩; have f4 := f.grown b4; have u0 := f4.sc.sp.v.c0; have u1 := f4.sc.sp.v.c1; have u2 := f4.sc.sp.v.c2; have u3 := f4.sc.sp.v.c3; have u4 := f4.sc.sp.v.c4; have u5 := f4.sc.sp.v.c5; have u6 := f4.sc.sp.v.c6; have u7 := f4.sc.sp.v.c7; have u8 := f4.sc.sp.v.c8)
            | (go_at_call 9; refine (k _ f4).mono ?_; rintro e w5 ⟨rfl, s2, f5, o5, v5, hs5⟩; rw [HAT.out] at hs5; obtain ⟨lc, hlc⟩ : ∃ x, s2.lc = x := ⟨_, rfl⟩; have hla : s2.la = (A : Int) := (by rw [hs5]; rfl); obtain ⟨lw, hlw⟩ : ∃ x, s2.lw = x := ⟨_, rfl⟩; clear hs5; have v0 := f5.sc.sp.v.c0; have v1 := f5.sc.sp.v.c1; have v2 := f5.sc.sp.v.c2; have v3 := f5.sc.sp.v.c3; have v4 := f5.sc.sp.v.c4; have v5 := f5.sc.sp.v.c5; have v6 := f5.sc.sp.v.c6; have v7 := f5.sc.sp.v.c7; have v8 := f5.sc.sp.v.c8)
            | (go_at_call 10; refine (last_is f5.sc.sp.mm (A : Int) lw lc hla hlw hlc).mono ?_; rintro e w6 ⟨rfl, b6⟩; have f6 := (f5.grown b6).grown (grow1 _ (.cells #[.int .i64 (A : Int), .int .i64 lw, .bool lc] 39)); have t6 := At.new w6 39 [.int .i64 (A : Int), .int .i64 lw, .bool lc]; have x0 := f6.sc.sp.v.c0; have x1 := f6.sc.sp.v.c1; have x2 := f6.sc.sp.v.c2; have x3 := f6.sc.sp.v.c3; have x4 := f6.sc.sp.v.c4; have x5 := f6.sc.sp.v.c5; have x6 := f6.sc.sp.v.c6; have x7 := f6.sc.sp.v.c7; have x8 := f6.sc.sp.v.c8)
            | (go_at_call 8; refine (now_any f6.sc.sp.mm _ _ _ _ _ _ _ _ (σ1 + 1) f6.sc.sp.tw.pile.st).mono ?_; rintro e w7 ⟨rfl, b7⟩; have f7 := f6.grown b7)
            | (go_at_call 11; refine (f7.spot hsp).mono ?_; rintro e w8 ⟨rfl, b8⟩; have f8 := (f7.grown b8).grown (grow1 _ (.cells #[.int .i64 (sa : Nat), .int .i64 (si : Nat)] 42)); have t8 := ((t6.grown b7).grown b8).grown (grow1 _ (.cells #[.int .i64 (sa : Nat), .int .i64 (si : Nat)] 42)); have q8 := At.new w8 42 [.int .i64 (sa : Nat), .int .i64 (si : Nat)]; have t80 := t8.at0 0 rfl; have p0 := f8.sc.sp.v.c0; have p1 := f8.sc.sp.v.c1; have p2 := f8.sc.sp.v.c2; have p3 := f8.sc.sp.v.c3; have p4 := f8.sc.sp.v.c4; have p5 := f8.sc.sp.v.c5; have p6 := f8.sc.sp.v.c6; have p7 := f8.sc.sp.v.c7; have p8 := f8.sc.sp.v.c8)
            | (go_at_call 12; refine (KK.out _).mono ?_; rintro e w10 ⟨rfl, b10⟩; have f10 := f8.grown b10; have t10 := t8.grown b10; have q10 := q8.grown b10; have ta := t10.at0 0 rfl; have tc := t10.at0 2 rfl; have qa := q10.at0 0 rfl; obtain ⟨_, hd10⟩ := f10.sc.hd; have hz1 := hd10.at0 1 rfl)
            | (go_at_call 13; refine f10.out.mono ?_; rintro e w11 ⟨rfl, rfl⟩))
          go_ret
          exact ⟨rfl, f10.sc.sp.b⟩
    · have KK : Hid (∀ w : World, Calls Tryz.prog 12 #[.agg #[.int .i64 4, .int .i64 8, .int .i64 4, .int .i64 20, .int .i64 100, .int .i64 600, .int .i64 3], .int .i64 (A : Int)] w fun e w' => e = .returned (.tuple #[.int .i64 9, .int .i64 0, .int .i64 ((A : Int) - 38)]) ∧ Below w.heap.size w w') := fun w => rkind_is (m := 80) 100 600 3 w good11.arena (by omega) (by decide) (by omega) (by omega) (by omega) (.word 0 ((A : Int) - 38) (by omega) (by omega) (by omega) (by omega) (by omega))
      have HA38 : Hid (38 ≤ A) := by unfold Hid; omega
      have ha1' : (38 : Int) < (A : Int) := by omega
      have ha2' : (A : Int) ≤ (38 : Int) + (Z : Int) := by omega
      have ha3' : ¬ (58 : Int) ≤ (A : Int) := by omega
      have ha4' : ¬ (A : Int) ≥ (58 : Int) := by omega
      cases hch : (!decide (q1.dw A = q2.dw A)) with
      | false =>
        have HCH : Hid ((!decide (q1.dw A = q2.dw A)) = false) := hch
        clear hch
        as_aux_lemma =>
          have k := k0 false hov
          go_wp2_with (first
            | (go_at_call 8; refine (now_any f.sc.sp.mm _ _ _ _ _ _ _ _ σ1 f.sc.sp.tw.pile.st).mono ?_; rintro e w4 ⟨rfl, b4⟩; have f4 := f.grown b4; have u0 := f4.sc.sp.v.c0; have u1 := f4.sc.sp.v.c1; have u2 := f4.sc.sp.v.c2; have u3 := f4.sc.sp.v.c3; have u4 := f4.sc.sp.v.c4; have u5 := f4.sc.sp.v.c5; have u6 := f4.sc.sp.v.c6; have u7 := f4.sc.sp.v.c7; have u8 := f4.sc.sp.v.c8)
            | (go_at_call 9; refine (k _ f4).mono ?_; rintro e w5 ⟨rfl, s2, f5, o5, v5, hs5⟩; rw [HAT.out] at hs5; obtain ⟨hlc, hla⟩ := lc_is f4.sc.sp.tw f5.sc.sp.tw HA38.out hs5; rw [HCH.out] at hlc; obtain ⟨lw, hlw⟩ : ∃ x, s2.lw = x := ⟨_, rfl⟩; clear hs5; have v0 := f5.sc.sp.v.c0; have v1 := f5.sc.sp.v.c1; have v2 := f5.sc.sp.v.c2; have v3 := f5.sc.sp.v.c3; have v4 := f5.sc.sp.v.c4; have v5 := f5.sc.sp.v.c5; have v6 := f5.sc.sp.v.c6; have v7 := f5.sc.sp.v.c7; have v8 := f5.sc.sp.v.c8)
            | (go_at_call 10; refine (last_is f5.sc.sp.mm (A : Int) lw false hla hlw hlc).mono ?_; rintro e w6 ⟨rfl, b6⟩; have f6 := (f5.grown b6).grown (grow1 _ (.cells #[.int .i64 (A : Int), .int .i64 lw, .bool false] 39)); have t6 := At.new w6 39 [.int .i64 (A : Int), .int .i64 lw, .bool false]; have x0 := f6.sc.sp.v.c0; have x1 := f6.sc.sp.v.c1; have x2 := f6.sc.sp.v.c2; have x3 := f6.sc.sp.v.c3; have x4 := f6.sc.sp.v.c4; have x5 := f6.sc.sp.v.c5; have x6 := f6.sc.sp.v.c6; have x7 := f6.sc.sp.v.c7; have x8 := f6.sc.sp.v.c8)
            | (go_at_call 8; refine (now_any f6.sc.sp.mm _ _ _ _ _ _ _ _ (σ1 + 1) f6.sc.sp.tw.pile.st).mono ?_; rintro e w7 ⟨rfl, b7⟩; have f7 := f6.grown b7)
            | (go_at_call 11; refine (f7.spot hsp).mono ?_; rintro e w8 ⟨rfl, b8⟩; have f8 := (f7.grown b8).grown (grow1 _ (.cells #[.int .i64 58, .int .i64 1] 42)); have t8 := ((t6.grown b7).grown b8).grown (grow1 _ (.cells #[.int .i64 58, .int .i64 1] 42)); have q8 := At.new w8 42 [.int .i64 58, .int .i64 1]; have t80 := t8.at0 0 rfl; have p0 := f8.sc.sp.v.c0; have p1 := f8.sc.sp.v.c1; have p2 := f8.sc.sp.v.c2; have p3 := f8.sc.sp.v.c3; have p4 := f8.sc.sp.v.c4; have p5 := f8.sc.sp.v.c5; have p6 := f8.sc.sp.v.c6; have p7 := f8.sc.sp.v.c7; have p8 := f8.sc.sp.v.c8)
            | (go_at_call 12; refine (KK.out _).mono ?_; rintro e w10 ⟨rfl, b10⟩; have f10 := f8.grown b10; have t10 := t8.grown b10; have q10 := q8.grown b10; have ta := t10.at0 0 rfl; have tc := t10.at0 2 rfl; have qa := q10.at0 0 rfl; obtain ⟨_, hd10⟩ := f10.sc.hd; have hz1 := hd10.at0 1 rfl)
            | (go_at_call 13; refine f10.out.mono ?_; rintro e w11 ⟨rfl, rfl⟩))
          go_roundw
          case rel => exact ⟨j + 1, s2, σ1 + 1, q2, μ2, r2, by go_num, by omega, hov, by omega, f10, mi⟩
          case measure => simp [intOf]; omega
      | true =>
        have HCH : Hid ((!decide (q1.dw A = q2.dw A)) = true) := hch
        clear hch
        as_aux_lemma =>
          have k := k0 false hov
          go_wp2_with (first
            | (go_at_call 8; refine (now_any f.sc.sp.mm _ _ _ _ _ _ _ _ σ1 f.sc.sp.tw.pile.st).mono ?_; rintro e w4 ⟨rfl, b4⟩; have f4 := f.grown b4; have u0 := f4.sc.sp.v.c0; have u1 := f4.sc.sp.v.c1; have u2 := f4.sc.sp.v.c2; have u3 := f4.sc.sp.v.c3; have u4 := f4.sc.sp.v.c4; have u5 := f4.sc.sp.v.c5; have u6 := f4.sc.sp.v.c6; have u7 := f4.sc.sp.v.c7; have u8 := f4.sc.sp.v.c8)
            | (go_at_call 9; refine (k _ f4).mono ?_; rintro e w5 ⟨rfl, s2, f5, o5, v5, hs5⟩; rw [HAT.out] at hs5; obtain ⟨hlc, hla⟩ := lc_is f4.sc.sp.tw f5.sc.sp.tw HA38.out hs5; rw [HCH.out] at hlc; obtain ⟨lw, hlw⟩ : ∃ x, s2.lw = x := ⟨_, rfl⟩; clear hs5; have v0 := f5.sc.sp.v.c0; have v1 := f5.sc.sp.v.c1; have v2 := f5.sc.sp.v.c2; have v3 := f5.sc.sp.v.c3; have v4 := f5.sc.sp.v.c4; have v5 := f5.sc.sp.v.c5; have v6 := f5.sc.sp.v.c6; have v7 := f5.sc.sp.v.c7; have v8 := f5.sc.sp.v.c8)
            | (go_at_call 10; refine (last_is f5.sc.sp.mm (A : Int) lw true hla hlw hlc).mono ?_; rintro e w6 ⟨rfl, b6⟩; have f6 := (f5.grown b6).grown (grow1 _ (.cells #[.int .i64 (A : Int), .int .i64 lw, .bool true] 39)); have t6 := At.new w6 39 [.int .i64 (A : Int), .int .i64 lw, .bool true]; have x0 := f6.sc.sp.v.c0; have x1 := f6.sc.sp.v.c1; have x2 := f6.sc.sp.v.c2; have x3 := f6.sc.sp.v.c3; have x4 := f6.sc.sp.v.c4; have x5 := f6.sc.sp.v.c5; have x6 := f6.sc.sp.v.c6; have x7 := f6.sc.sp.v.c7; have x8 := f6.sc.sp.v.c8)
            | (go_at_call 8; refine (now_any f6.sc.sp.mm _ _ _ _ _ _ _ _ (σ1 + 1) f6.sc.sp.tw.pile.st).mono ?_; rintro e w7 ⟨rfl, b7⟩; have f7 := f6.grown b7)
            | (go_at_call 11; refine (f7.spot hsp).mono ?_; rintro e w8 ⟨rfl, b8⟩; have f8 := (f7.grown b8).grown (grow1 _ (.cells #[.int .i64 58, .int .i64 1] 42)); have t8 := ((t6.grown b7).grown b8).grown (grow1 _ (.cells #[.int .i64 58, .int .i64 1] 42)); have q8 := At.new w8 42 [.int .i64 58, .int .i64 1]; have t80 := t8.at0 0 rfl; have p0 := f8.sc.sp.v.c0; have p1 := f8.sc.sp.v.c1; have p2 := f8.sc.sp.v.c2; have p3 := f8.sc.sp.v.c3; have p4 := f8.sc.sp.v.c4; have p5 := f8.sc.sp.v.c5; have p6 := f8.sc.sp.v.c6; have p7 := f8.sc.sp.v.c7; have p8 := f8.sc.sp.v.c8)
            | (go_at_call 12; refine (KK.out _).mono ?_; rintro e w10 ⟨rfl, b10⟩; have f10 := f8.grown b10; have t10 := t8.grown b10; have q10 := q8.grown b10; have ta := t10.at0 0 rfl; have tc := t10.at0 2 rfl; have qa := q10.at0 0 rfl; obtain ⟨_, hd10⟩ := f10.sc.hd; have hz1 := hd10.at0 1 rfl)
            | (go_at_call 13; refine f10.out.mono ?_; rintro e w11 ⟨rfl, rfl⟩))
          go_roundw
          case rel => exact ⟨j + 1, s2, σ1 + 1, q2, μ2, r2, by go_num, by omega, hov, by omega, f10, mi⟩
          case measure => simp [intOf]; omega
    · have KK : Hid (∀ w : World, Calls Tryz.prog 12 #[.agg #[.int .i64 4, .int .i64 8, .int .i64 4, .int .i64 20, .int .i64 100, .int .i64 600, .int .i64 3], .int .i64 (A : Int)] w fun e w' => e = .returned (.tuple #[.int .i64 9, .int .i64 1, .int .i64 ((A : Int) - 58)]) ∧ Below w.heap.size w w') := fun w => rkind_is (m := 80) 100 600 3 w good11.arena (by omega) (by decide) (by omega) (by omega) (by omega) (.word 1 ((A : Int) - 58) (by omega) (by omega) (by omega) (by omega) (by omega))
      have HA38 : Hid (38 ≤ A) := by unfold Hid; omega
      have ha1' : (38 : Int) < (A : Int) := by omega
      have ha2' : ¬ (A : Int) ≤ (38 : Int) + (Z : Int) := by omega
      have ha3' : (58 : Int) ≤ (A : Int) := by omega
      have ha4' : (A : Int) ≤ (58 : Int) + (Z : Int) := by omega
      cases hch : (!decide (q1.dw A = q2.dw A)) with
      | false =>
        have HCH : Hid ((!decide (q1.dw A = q2.dw A)) = false) := hch
        clear hch
        as_aux_lemma =>
          have k := k0 false hov
          go_wp2_with (first
            | (go_at_call 8; refine (now_any f.sc.sp.mm _ _ _ _ _ _ _ _ σ1 f.sc.sp.tw.pile.st).mono ?_; rintro e w4 ⟨rfl, b4⟩; have f4 := f.grown b4; have u0 := f4.sc.sp.v.c0; have u1 := f4.sc.sp.v.c1; have u2 := f4.sc.sp.v.c2; have u3 := f4.sc.sp.v.c3; have u4 := f4.sc.sp.v.c4; have u5 := f4.sc.sp.v.c5; have u6 := f4.sc.sp.v.c6; have u7 := f4.sc.sp.v.c7; have u8 := f4.sc.sp.v.c8)
            | (go_at_call 9; refine (k _ f4).mono ?_; rintro e w5 ⟨rfl, s2, f5, o5, v5, hs5⟩; rw [HAT.out] at hs5; obtain ⟨hlc, hla⟩ := lc_is f4.sc.sp.tw f5.sc.sp.tw HA38.out hs5; rw [HCH.out] at hlc; obtain ⟨lw, hlw⟩ : ∃ x, s2.lw = x := ⟨_, rfl⟩; clear hs5; have v0 := f5.sc.sp.v.c0; have v1 := f5.sc.sp.v.c1; have v2 := f5.sc.sp.v.c2; have v3 := f5.sc.sp.v.c3; have v4 := f5.sc.sp.v.c4; have v5 := f5.sc.sp.v.c5; have v6 := f5.sc.sp.v.c6; have v7 := f5.sc.sp.v.c7; have v8 := f5.sc.sp.v.c8)
            | (go_at_call 10; refine (last_is f5.sc.sp.mm (A : Int) lw false hla hlw hlc).mono ?_; rintro e w6 ⟨rfl, b6⟩; have f6 := (f5.grown b6).grown (grow1 _ (.cells #[.int .i64 (A : Int), .int .i64 lw, .bool false] 39)); have t6 := At.new w6 39 [.int .i64 (A : Int), .int .i64 lw, .bool false]; have x0 := f6.sc.sp.v.c0; have x1 := f6.sc.sp.v.c1; have x2 := f6.sc.sp.v.c2; have x3 := f6.sc.sp.v.c3; have x4 := f6.sc.sp.v.c4; have x5 := f6.sc.sp.v.c5; have x6 := f6.sc.sp.v.c6; have x7 := f6.sc.sp.v.c7; have x8 := f6.sc.sp.v.c8)
            | (go_at_call 8; refine (now_any f6.sc.sp.mm _ _ _ _ _ _ _ _ (σ1 + 1) f6.sc.sp.tw.pile.st).mono ?_; rintro e w7 ⟨rfl, b7⟩; have f7 := f6.grown b7)
            | (go_at_call 11; refine (f7.spot hsp).mono ?_; rintro e w8 ⟨rfl, b8⟩; have f8 := (f7.grown b8).grown (grow1 _ (.cells #[.int .i64 58, .int .i64 1] 42)); have t8 := ((t6.grown b7).grown b8).grown (grow1 _ (.cells #[.int .i64 58, .int .i64 1] 42)); have q8 := At.new w8 42 [.int .i64 58, .int .i64 1]; have t80 := t8.at0 0 rfl; have p0 := f8.sc.sp.v.c0; have p1 := f8.sc.sp.v.c1; have p2 := f8.sc.sp.v.c2; have p3 := f8.sc.sp.v.c3; have p4 := f8.sc.sp.v.c4; have p5 := f8.sc.sp.v.c5; have p6 := f8.sc.sp.v.c6; have p7 := f8.sc.sp.v.c7; have p8 := f8.sc.sp.v.c8)
            | (go_at_call 12; refine (KK.out _).mono ?_; rintro e w10 ⟨rfl, b10⟩; have f10 := f8.grown b10; have t10 := t8.grown b10; have q10 := q8.grown b10; have ta := t10.at0 0 rfl; have tc := t10.at0 2 rfl; have qa := q10.at0 0 rfl; obtain ⟨_, hd10⟩ := f10.sc.hd; have hz1 := hd10.at0 1 rfl)
            | (go_at_call 13; refine f10.out.mono ?_; rintro e w11 ⟨rfl, rfl⟩))
          go_roundw
          case rel => exact ⟨j + 1, s2, σ1 + 1, q2, μ2, r2, by go_num, by omega, hov, by omega, f10, mi⟩
          case measure => simp [intOf]; omega
      | true =>
        have HCH : Hid ((!decide (q1.dw A = q2.dw A)) = true) := hch
        clear hch
        as_aux_lemma =>
          have k := k0 false hov
          go_wp2_with (first
            | (go_at_call 8; refine (now_any f.sc.sp.mm _ _ _ _ _ _ _ _ σ1 f.sc.sp.tw.pile.st).mono ?_; rintro e w4 ⟨rfl, b4⟩; have f4 := f.grown b4; have u0 := f4.sc.sp.v.c0; have u1 := f4.sc.sp.v.c1; have u2 := f4.sc.sp.v.c2; have u3 := f4.sc.sp.v.c3; have u4 := f4.sc.sp.v.c4; have u5 := f4.sc.sp.v.c5; have u6 := f4.sc.sp.v.c6; have u7 := f4.sc.sp.v.c7; have u8 := f4.sc.sp.v.c8)
            | (go_at_call 9; refine (k _ f4).mono ?_; rintro e w5 ⟨rfl, s2, f5, o5, v5, hs5⟩; rw [HAT.out] at hs5; obtain ⟨hlc, hla⟩ := lc_is f4.sc.sp.tw f5.sc.sp.tw HA38.out hs5; rw [HCH.out] at hlc; obtain ⟨lw, hlw⟩ : ∃ x, s2.lw = x := ⟨_, rfl⟩; clear hs5; have v0 := f5.sc.sp.v.c0; have v1 := f5.sc.sp.v.c1; have v2 := f5.sc.sp.v.c2; have v3 := f5.sc.sp.v.c3; have v4 := f5.sc.sp.v.c4; have v5 := f5.sc.sp.v.c5; have v6 := f5.sc.sp.v.c6; have v7 := f5.sc.sp.v.c7; have v8 := f5.sc.sp.v.c8)
            | (go_at_call 10; refine (last_is f5.sc.sp.mm (A : Int) lw true hla hlw hlc).mono ?_; rintro e w6 ⟨rfl, b6⟩; have f6 := (f5.grown b6).grown (grow1 _ (.cells #[.int .i64 (A : Int), .int .i64 lw, .bool true] 39)); have t6 := At.new w6 39 [.int .i64 (A : Int), .int .i64 lw, .bool true]; have x0 := f6.sc.sp.v.c0; have x1 := f6.sc.sp.v.c1; have x2 := f6.sc.sp.v.c2; have x3 := f6.sc.sp.v.c3; have x4 := f6.sc.sp.v.c4; have x5 := f6.sc.sp.v.c5; have x6 := f6.sc.sp.v.c6; have x7 := f6.sc.sp.v.c7; have x8 := f6.sc.sp.v.c8)
            | (go_at_call 8; refine (now_any f6.sc.sp.mm _ _ _ _ _ _ _ _ (σ1 + 1) f6.sc.sp.tw.pile.st).mono ?_; rintro e w7 ⟨rfl, b7⟩; have f7 := f6.grown b7)
            | (go_at_call 11; refine (f7.spot hsp).mono ?_; rintro e w8 ⟨rfl, b8⟩; have f8 := (f7.grown b8).grown (grow1 _ (.cells #[.int .i64 58, .int .i64 1] 42)); have t8 := ((t6.grown b7).grown b8).grown (grow1 _ (.cells #[.int .i64 58, .int .i64 1] 42)); have q8 := At.new w8 42 [.int .i64 58, .int .i64 1]; have t80 := t8.at0 0 rfl; have p0 := f8.sc.sp.v.c0; have p1 := f8.sc.sp.v.c1; have p2 := f8.sc.sp.v.c2; have p3 := f8.sc.sp.v.c3; have p4 := f8.sc.sp.v.c4; have p5 := f8.sc.sp.v.c5; have p6 := f8.sc.sp.v.c6; have p7 := f8.sc.sp.v.c7; have p8 := f8.sc.sp.v.c8)
            | (go_at_call 12; refine (KK.out _).mono ?_; rintro e w10 ⟨rfl, b10⟩; have f10 := f8.grown b10; have t10 := t8.grown b10; have q10 := q8.grown b10; have ta := t10.at0 0 rfl; have tc := t10.at0 2 rfl; have qa := q10.at0 0 rfl; obtain ⟨_, hd10⟩ := f10.sc.hd; have hz1 := hd10.at0 1 rfl)
            | (go_at_call 13; refine f10.out.mono ?_; rintro e w11 ⟨rfl, rfl⟩))
          go_roundw
          case rel => exact ⟨j + 1, s2, σ1 + 1, q2, μ2, r2, by go_num, by omega, hov, by omega, f10, mi⟩
          case measure => simp [intOf]; omega

end Go.Proofs.YtkgpffcnimmdkabGreat
