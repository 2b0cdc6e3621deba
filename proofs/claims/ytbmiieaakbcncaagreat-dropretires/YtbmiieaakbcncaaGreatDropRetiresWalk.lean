/- DropRetires answers true for all numbers, and leaves what was in memory. -/
import Derived.Test.YtbmiieaakbcncaaGreatDropAwake
namespace Go.Proofs.YtbmiieaakbcncaaGreat
open Go.RowKit

theorem done_0 (a b c d : Value) (w : World) : (Instr.field 39 (.agg #[a, b, c, d]) 0).run Tryz.prog w = .ok a w := by kernel_rfl

theorem Farm.regens {w0 w1 w2 : World} {L : Loc} {t n k m : Nat} {s : Mm} {σ : Nat} {q : Q} {nx : Nat} {gen : Nat → Nat} {ls : List Ox} {N : Int} (f : Farm w0 w2 L w1.heap.size t n k m 100 s σ q nx gen ls) (b : Below (w1.alloc (.cells #[.int .i64 t, .int .i64 n, .int .i64 k, .int .i64 m, .int .i64 100, .int .i64 600, .int .i64 3, .pointer (some ⟨L.p, 0, none⟩), .int .i64 0] 27)).heap.size (w1.alloc (.cells #[.int .i64 t, .int .i64 n, .int .i64 k, .int .i64 m, .int .i64 100, .int .i64 600, .int .i64 3, .pointer (some ⟨L.p, 0, none⟩), .int .i64 0] 27)) w2) (a : FarmApart w0 L w1.heap.size t n k m 100) (g1 : 1 ≤ N) (g2 : N ≤ 65535) :
    Farm w0 (w2.setCell ⟨w1.heap.size, 4, none⟩ (.int .i64 N)) L w1.heap.size t n k m N s σ q nx gen ls ∧ FarmApart w0 L w1.heap.size t n k m N := by
  have x := ((At.new w1 27 [.int .i64 t, .int .i64 n, .int .i64 k, .int .i64 m, .int .i64 100, .int .i64 600, .int .i64 3, .pointer (some ⟨L.p, 0, none⟩), .int .i64 0]).grown b).put0 4 (.int .i64 N)
  obtain ⟨t0, t1, n0, n1, k0, k1, m0, m1, _, _, p0, p1, r0, r1⟩ := a.g
  exact ⟨⟨f.mm.setIn a.e _ _, f.tw, f.tm, ⟨x.at0 0 rfl, x.at0 1 rfl, x.at0 2 rfl, x.at0 3 rfl, x.at0 4 rfl, x.at0 5 rfl, x.at0 6 rfl, x.at0 7 rfl, x.at0 8 rfl⟩, below_setIn f.b a.e0 _ _⟩, ⟨a.l0, a.e, a.e0, ⟨t0, t1, n0, n1, k0, k1, m0, m1, g1, g2, p0, p1, r0, r1⟩⟩⟩

theorem shl16 (i : Nat) (h : i ≤ 65535) : IntKind.u64.wrap (IntKind.u64.wrap (i : Int) * 2 ^ 16) = (i : Int) * 65536 := by
  rw [wrap_small (i : Int) (by omega) (by omega), wrap_small _ (by omega) (by omega)]
  rfl

/-- there is room -/
theorem got_some {k m κ nx : Nat} {bs : Nat → Nat} {y : Y} (A : Alone k y nx) (hκ : κ < 4) (hm : 17 ≤ m) (k0 : 1 ≤ k) (k1 : k ≤ 64) (hnx : nx < k) : ∃ y' nx' A' i, nx' ≤ nx + 1 ∧ Got k m κ bs y nx y' nx' (.won A' i) := by
  obtain ⟨N, y', nx', τ', -, -, g⟩ := alone_goes (bs := bs) A hκ hm k0 k1
  cases g with
  | fit i h hu => exact ⟨_, _, _, _, Nat.le_succ _, .fit i h hu⟩
  | new hno h => exact ⟨_, _, _, _, Nat.le_refl _, .new hno h⟩
  | none hno h => omega

set_option maxRecDepth 20000 in
set_option maxHeartbeats 4000000 in
theorem dropRetires_any (gens : Int) (w : World) :
    Calls Tryz.prog 6 #[.int .i64 gens] w fun e w' => e = .returned (.bool true) ∧ Below w.heap.size w w' := by
  obtain ⟨N, hN, hN1, hN32⟩ := lowAt gens 31 5 1 (by decide) (by decide)
  have hN' : (1 : Int) + bits .and .i64 gens 31 = (N : Int) := hN
  clear hN
  have hG : Good 1 1 60 40 100 600 3 := goodp (by omega) (by omega) (by omega) (by omega)
  have AR := fun w => arena08 hG (by omega) w
  have hfe := done_0
  go_enter Tryz.func6, Tryz.ntmps6
  go_wp2_with (first
    | (go_at_call 9; refine (AR _).mono ?_; rintro e w1 ⟨L, s, rfl, m1, t1, b1, f1⟩; obtain ⟨c1, pa⟩ := Farm.first hG m1 t1 b1 f1)
    | (go_at_call 10; refine (awake09_any _).mono ?_; rintro e w2 ⟨rfl, b2⟩; have c2 := c1.grown b2; obtain ⟨c3, pb⟩ := Farm.regens (N := (N : Int)) c2 b2 pa (by omega) (by omega); have z4 := c2.v.c4; have bx := (At.new w1 27 [.int .i64 ((1 : Nat) : Int), .int .i64 ((1 : Nat) : Int), .int .i64 ((60 : Nat) : Int), .int .i64 ((40 : Nat) : Int), .int .i64 100, .int .i64 600, .int .i64 3, .pointer (some ⟨L.p, 0, none⟩), .int .i64 0]).grown b2; have bf := bx.fz))
  obtain ⟨E, hE⟩ : ∃ E, w1.heap.size = E := ⟨_, rfl⟩
  rw [hE] at c3 pb ⊢
  have PB : Hid (FarmApart w L E 1 1 60 40 (N : Int)) := pb
  have A3 : Hid (Farm w (w2.setCell ⟨E, 4, none⟩ (.int .i64 N)) L E 1 1 60 40 (N : Int) s 3 (Q.new 1) 0 (fun _ => 1) []) := c3
  clear c1 c2 c3 pa pb b2 z4 bx bf m1 t1 b1 f1 AR hE
  go_loopw [6] (fun i wr => ∃ (j : Nat) (s' : Mm) (σ' : Nat) (q : Q) (nx : Nat) (gen : Nat → Nat), i = .int .i64 j ∧ 1 ≤ j ∧ j ≤ N + 1 ∧ nx < j ∧ σ' ≤ 3 + 150 * j ∧ Farm w wr L E 1 1 60 40 (N : Int) s' σ' q nx gen [] ∧ ((j ≤ N ∧ q.F = [0] ∧ gen 0 = j) ∨ (j = N + 1 ∧ q.F = [] ∧ q.sw 0 = packS ((3 : Nat) : Int) ((0 : Nat) : Int) N ((0 : Nat) : Int)))) (fun i _ => N + 1 - (intOf i).toNat)
  case atStart => exact ⟨1, s, 3, Q.new 1, 0, fun _ => 1, rfl, by omega, by omega, by omega, by omega, A3.out, Or.inl ⟨by omega, rfl, rfl⟩⟩
  case round =>
    clear A3
    obtain ⟨j, s', σ', q, nx, gen, rfl, j1, jN, hnx, hσ, c, hw⟩ := hrel
    have z0 := c.v.c0
    have z1 := c.v.c1
    have z2 := c.v.c2
    have z3 := c.v.c3
    have z4 := c.v.c4
    have z5 := c.v.c5
    have z6 := c.v.c6
    have z7 := c.v.c7
    have z8 := c.v.c8
    rcases hw with ⟨hj, hF, hgn⟩ | ⟨hj, hF, hsw⟩
    · have hj' : (j : Int) ≤ (N : Int) := by omega
      obtain ⟨y', nx', A, i, hnx', g⟩ := got_some (bs := base 1 1 60 40) c.tm.al (κ := 0) (m := 40) (by decide) (by decide) (by decide) (by decide) (by omega)
      have MK := c.ok (own := false) PB.out (Z := 2) (κ := 0) (by decide) (by decide) rfl (by decide) hF g (by omega)
      have hH : packH ((0 : Nat) : Int) ((gen 0 : Nat) : Int) = (j : Int) * 65536 := by rw [hgn, packH_is 0 j (by decide) (by omega)]; omega
      rw [hH] at MK
      have hsh := shl16 j (by omega)
      have G : Hid (Got 60 40 0 (base 1 1 60 40) q.y nx y' nx' (.won A i)) := g
      clear g
      have hne : ¬ ((j : Int) * 65536 ≠ (j : Int) * 65536) := fun h => h rfl
      by_cases hlt : j < N
      · have DR := fun (w' : World) (s1 : Mm) (σ1 : Nat) (h1 : σ1 ≤ σ' + 100) (f : Farm w w' L E 1 1 60 40 (N : Int) s1 σ1 (q.made 0 [] y' A i 0 ((2 : Nat) : Int) false) nx' gen (q.ox gen 0 A i 2 0 false :: [])) => Farm.gone (l1 := []) (l2 := []) f PB.out (show ((gen 0 : Nat) : Int) < N by omega) (by omega)
        rw [show packH (((q.ox gen 0 A i 2 0 false).x : Nat) : Int) (((q.ox gen 0 A i 2 0 false).g : Nat) : Int) = (j : Int) * 65536 from hH] at DR
        go_wp2_with (first
          | (go_at_call 11; refine MK.mono ?_; rintro e w4 ⟨st4, s4, σ4, rfl, h41, h42, h43, c4, o4⟩; have c5 := c4.alloc (.cells #[.int .i64 0, .int .u64 ((j : Int) * 65536), .int .i64 0, .int .i64 st4] 39); have y0 := c5.v.c0; have y1 := c5.v.c1; have y2 := c5.v.c2; have y3 := c5.v.c3; have y4 := c5.v.c4; have y5 := c5.v.c5; have y6 := c5.v.c6; have y7 := c5.v.c7; have y8 := c5.v.c8)
          | (go_at_call 14; refine (DR _ s4 σ4 h43 c5).mono ?_; rintro e w6 ⟨st6, s6, σ6, rfl, h61, c6, o6⟩))
        go_roundw
        case rel => exact ⟨j + 1, s6, σ6, _, nx', _, by go_num, by omega, by omega, by omega, by omega, c6, Or.inl ⟨by omega, rfl, by show upd gen 0 (gen 0 + 1) 0 = _; rw [upd_same, hgn]⟩⟩
        case measure => simp [intOf]; omega
      · have DR := fun (w' : World) (s1 : Mm) (σ1 : Nat) (h1 : σ1 ≤ σ' + 100) (f : Farm w w' L E 1 1 60 40 (N : Int) s1 σ1 (q.made 0 [] y' A i 0 ((2 : Nat) : Int) false) nx' gen (q.ox gen 0 A i 2 0 false :: [])) => Farm.last (l1 := []) (l2 := []) f PB.out (show (N : Int) ≤ ((gen 0 : Nat) : Int) by omega) (by omega)
        rw [show packH (((q.ox gen 0 A i 2 0 false).x : Nat) : Int) (((q.ox gen 0 A i 2 0 false).g : Nat) : Int) = (j : Int) * 65536 from hH] at DR
        go_wp2_with (first
          | (go_at_call 11; refine MK.mono ?_; rintro e w4 ⟨st4, s4, σ4, rfl, h41, h42, h43, c4, o4⟩; have c5 := c4.alloc (.cells #[.int .i64 0, .int .u64 ((j : Int) * 65536), .int .i64 0, .int .i64 st4] 39); have y0 := c5.v.c0; have y1 := c5.v.c1; have y2 := c5.v.c2; have y3 := c5.v.c3; have y4 := c5.v.c4; have y5 := c5.v.c5; have y6 := c5.v.c6; have y7 := c5.v.c7; have y8 := c5.v.c8)
          | (go_at_call 14; refine (DR _ s4 σ4 h43 c5).mono ?_; rintro e w6 ⟨st6, s6, σ6, rfl, h61, c6, o6⟩))
        go_roundw
        case rel =>
          have I := c5.tm.is PB.out.g (by decide) (o := q.ox gen 0 A i 2 0 false) (by simp)
          have hgn' : genOf ((q.made 0 [] y' A i 0 ((2 : Nat) : Int) false).sw 0) = N := by have := I.gn; rw [show (q.ox gen 0 A i 2 0 false).g = gen 0 from rfl, hgn] at this; exact this.trans (by omega)
          refine ⟨j + 1, s6, σ6, _, nx', _, by go_num, by omega, by omega, by omega, by omega, c6, Or.inr ⟨by omega, rfl, ?_⟩⟩
          show upd (q.made 0 [] y' A i 0 ((2 : Nat) : Int) false).sw 0 (behindW N ((q.made 0 [] y' A i 0 ((2 : Nat) : Int) false).sw 0)) 0 = _
          rw [upd_same]
          unfold behindW
          rw [hgn', if_pos (Int.le_refl _)]
          rfl
        case measure => simp [intOf]; omega
    · have hj' : ¬ (j : Int) ≤ (N : Int) := by omega
      have dec := packS_dec (st := 3) (A := 0) (G := N) (V := 0) (by decide) (by decide) (by omega) (by decide)
      obtain ⟨v, hv⟩ : ∃ v, packS ((3 : Nat) : Int) ((0 : Nat) : Int) N ((0 : Nat) : Int) = v := ⟨_, rfl⟩
      have wv : Wd v := by rw [← hv]; exact packS_wd _ _ _ _
      rw [hv] at dec hsw
      have hdead : (lifeB (q.sw 0 % 8) && decide (genOf (q.sw 0) = N)) = false := by rw [hsw, dec.1]; rfl
      have IS : SlotIs v 3 0 N 0 := by
        have := slotIs v wv
        rw [dec.1, dec.2.1, dec.2.2.1, dec.2.2.2] at this
        exact this
      have HV : Hid (s'.wd 7 = v) := by have := c.tw.swv 0 (by decide); rw [hsw] at this; exact this
      have hpk : 7 < s'.n := by have := c.tw.len; omega
      have HD : Hid ((lifeB (q.sw 0 % 8) && decide (genOf (q.sw 0) = N)) = false) := hdead
      have hh := handIs (x := 0) (G := N) (by decide) (by omega) (by omega)
      have hH : packH ((0 : Nat) : Int) (N : Int) = (N : Int) * 65536 := by rw [packH_is 0 N (by decide) (by omega)]; omega
      rw [hH] at hh
      have HH : Hid (HandIs ((N : Int) * 65536) 0 N) := hh
      have hsh := shl16 N (by omega)
      have hσ5 : σ' ≤ 6000 := by omega
      clear hv dec hdead hh hsw hj hH jN j1 hnx hσ
      go_wp2
      refine wp_over (fun W => Farm w W L E 1 1 60 40 (N : Int) s' σ' q nx gen []) c ?_
      clear c z0 z1 z2 z3 z4 z5 z6 z7 z8
      intro W c
      have m1 := c.mm
      have v1 := c.v
      obtain ⟨Sz, hSz⟩ : ∃ Sz, W.heap.size = Sz := ⟨_, rfl⟩
      refine wp_region_rely_tail Grown 8 [.val (.pointer (some ⟨E, 7, none⟩)), .val (.pointer (some ⟨L.p, 0, none⟩)), .val (.pointer (some ⟨E, 0, none⟩)), .val (.agg #[.int .i64 1, .int .i64 1, .int .i64 60, .int .i64 40, .int .i64 N, .int .i64 600, .int .i64 3]), .val (.int .i64 ((7 : Nat) : Int)), .val (.int .u64 v), .val (.agg #[.int .i64 3, .int .i64 0, .int .i64 N, .int .i64 0]), .that (fun w' v => ∃ X, v = .pointer (some ⟨X, 0, none⟩) ∧ Sz ≤ X ∧ At w' X 0 48 #[.int .i64 0, .int .i64 0, .int .i64 0, .int .i64 0] [.int .i64 0, .int .i64 0, .int .i64 0, .int .i64 0]) ?_] (by kernel_rfl) Grown.refl Grown.trans (by decide) (by kernel_rfl) (by kernel_rfl) (by kernel_rfl) (by kernel_rfl) (by kernel_rfl) (by kernel_rfl) ?_
      · rintro x1 y1 v hg ⟨X, hv, hb, hr⟩
        exact ⟨X, hv, hb, hr.grown hg⟩
      simp only [List.take_succ_cons, List.take_zero, relyAll, Act.put, List.setIfInBounds_toArray, List.set_cons_zero, List.set_cons_succ]
      refine ⟨?_, ?_, ?_, ?_, ?_, ?_, ?_, ?_, ?_⟩
      · intro w' hg _
        refine Or.inl ⟨rfl, ?_⟩
        go_simp
        exact ⟨Grown.refl _, rfl⟩
      · intro w' hg _
        refine Or.inl ⟨rfl, ?_⟩
        have vv := (v1.grown ((Below.refl _ _).drew)).grown hg
        have y0 := vv.c0
        have y1 := vv.c1
        have y2 := vv.c2
        have y3 := vv.c3
        have y4 := vv.c4
        have y5 := vv.c5
        have y6 := vv.c6
        have y7 := vv.c7
        have y8 := vv.c8
        go_simp
        exact ⟨Grown.refl _, rfl⟩
      · intro w' hg _
        refine Or.inl ⟨rfl, ?_⟩
        go_simp
        exact ⟨Grown.refl _, rfl⟩
      · intro w' hg _
        refine Or.inl ⟨rfl, ?_⟩
        have vv := (v1.grown ((Below.refl _ _).drew)).grown hg
        have y0 := vv.c0
        have y1 := vv.c1
        have y2 := vv.c2
        have y3 := vv.c3
        have y4 := vv.c4
        have y5 := vv.c5
        have y6 := vv.c6
        have y7 := vv.c7
        have y8 := vv.c8
        go_simp
        exact ⟨Grown.refl _, rfl⟩
      · intro w' hg _
        refine Or.inl ⟨rfl, ?_⟩
        go_simp
        refine (lslot_any _ _ _ _ _ _ _ 0 _ PB.out.g.arena (by omega) (by omega)).mono ?_
        rintro e w'' ⟨rfl, b9⟩
        exact ⟨_, rfl, b9, congrArg (Value.int .i64) (by omega)⟩
      · intro w' hg _
        refine Or.inl ⟨rfl, ?_⟩
        go_simp
        refine (peek_is (m1.drew.below hg) (7) hpk v HV.out).mono ?_
        rintro e w'' ⟨rfl, rfl⟩
        exact ⟨_, rfl, Grown.refl _, rfl⟩
      · intro w' hg _
        refine Or.inl ⟨rfl, ?_⟩
        go_simp
        refine (IS.call _).mono ?_
        rintro e w'' ⟨rfl, b9⟩
        exact ⟨_, rfl, b9, rfl⟩
      · intro w' hg _
        refine Or.inl ⟨rfl, ?_⟩
        have hz : Sz ≤ w'.heap.size := by have := hg.size; have e : W.drew.heap.size = W.heap.size := rfl; omega
        have q := At.new w' 48 [.int .i64 0, .int .i64 0, .int .i64 0, .int .i64 0]
        go_simp
        exact ⟨grow_alloc (Below.refl _ _) _, _, rfl, hz, q⟩
      intro vX w8 hg hf
      obtain ⟨S, rfl, hXS, q8⟩ := hf.1
      have q0 := q8.at0 0 rfl
      have q1 := q8.at0 1 rfl
      have q2 := q8.at0 2 rfl
      have q3 := q8.at0 3 rfl
      have qf := q8.fz
      have hLS : ¬ L.has S := fun hh => by have := c.mm.lt _ hh; omega
      have hES : E ≠ S := by have := c.ltE; omega
      have hwS : w.heap.size ≤ S := by have := c.b.size; omega
      have c9 := ((((((c.drew.grown hg)).setIn hwS hES hLS 0 (.int .i64 3)).setIn hwS hES hLS 1 (.int .i64 0)).setIn hwS hES hLS 2 (.int .i64 N)).setIn hwS hES hLS 3 (.int .i64 0))
      have y0 := c9.v.c0
      have y1 := c9.v.c1
      have y2 := c9.v.c2
      have y3 := c9.v.c3
      have y4 := c9.v.c4
      have y5 := c9.v.c5
      have y6 := c9.v.c6
      have y7 := c9.v.c7
      have y8 := c9.v.c8
      clear hf hg hXS hSz c m1 v1
      go_wp2_with (first
        | (go_at_call 11; refine (c9.empty (own := false) PB.out (Z := 2) (κ := 0) (by decide) rfl (by decide) hF (by omega)).mono ?_; rintro e w4 ⟨st4, s4, rfl, c4, o4⟩; have x0 := c4.v.c0; have x1 := c4.v.c1; have x2 := c4.v.c2; have x3 := c4.v.c3; have x4 := c4.v.c4; have x5 := c4.v.c5; have x6 := c4.v.c6; have x7 := c4.v.c7; have x8 := c4.v.c8)
        | (go_at_call 14; refine (c4.dead (own := false) PB.out HH.out (by decide) HD.out (by omega)).mono ?_; rintro e w6 ⟨st6, s6, rfl, c6, o6, -⟩))
      go_ret
      exact ⟨rfl, c6.b⟩

end Go.Proofs.YtbmiieaakbcncaaGreat
