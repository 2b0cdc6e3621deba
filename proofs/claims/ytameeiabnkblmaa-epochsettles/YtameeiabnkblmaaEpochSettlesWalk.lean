/- EpochSettles answers true for every chunk and every two epochs, and leaves what was in memory. -/
import Derived.Test.YtameeiabnkblmaaEpSettle
import Derived.Test.YtameeiabnkblmaaEpLaw
namespace Go.Proofs.Ytameeiabnkblmaa
open Go.RowKit

/-- the memory ahead of the chunk's settling, so many of its words being laid -/
structure Sw (c : Ck) (A B : Int) (j : Nat) (s : Mm) : Prop where
  n : s.n = 75
  c : s.wd 12 = c.w
  l : s.wd 13 = 7
  a : s.wd 14 = A
  e : s.wd 0 = B
  z : ∀ q, q < j → s.wd (45 + q) = 9

theorem Sw.next {c : Ck} {A B : Int} {j : Nat} {s : Mm} (h : Sw c A B j s) : Sw c A B (j + 1) (s.step (45 + j) 9) := by
  have e : ∀ a, a < 45 → (s.step (45 + j) 9).wd a = s.wd a := fun a ha => upd_other _ _ _ _ (by omega)
  refine ⟨h.n, (e _ (by decide)).trans h.c, (e _ (by decide)).trans h.l, (e _ (by decide)).trans h.a, (e _ (by decide)).trans h.e, fun q hq => ?_⟩
  show upd s.wd (45 + j) 9 (45 + q) = 9
  by_cases e : q = j
  · subst e; exact upd_same _ _ _
  · rw [upd_other _ _ _ _ (by omega)]; exact h.z q (by omega)

/-- the memory behind it -/
structure Fw (U : Nat) (nx cell z : Int) (s : Mm) : Prop where
  n : s.n = 75
  c : s.wd 12 = nx
  l : s.wd 13 = z
  z : ∀ q, q < U → s.wd (45 + q) = cell

theorem Sw.seh {c : Ck} {A B : Int} {s : Mm} (h : Sw c A B c.us s) (hc : c.ok 100000) (hu : c.us ≤ 16) (a0 : 0 ≤ A) (b1 : B ≤ 255) : SeH 1 1 2 30 1 s c :=
  ⟨by decide, h.c, hc.up (by decide), by omega, by have := hc.sp; omega, by rw [h.e]; omega, by rw [show ckAt 1 1 1 + 2 = 14 from rfl, h.a]; exact a0⟩

theorem Sw.ripe {c : Ck} {A B : Int} {s : Mm} (h : Sw c A B c.us s) : Ripe 1 1 1 s c ↔ c.st = 3 ∧ A + 2 ≤ B := by
  unfold Ripe
  rw [show ckAt 1 1 1 + 2 = 14 from rfl, h.a, h.e]

theorem Sw.yes {c : Ck} {A B : Int} {s s' : Mm} (h : Sw c A B c.us s) (e : SeEnd 1 1 2 30 1 s c s' true) : Fw c.us (Ck.mk 0 0 0 (c.sp + 1)).w 0 0 s' := by
  obtain ⟨-, hw⟩ := e.yes rfl
  have hw' : s'.wd = upd (upd (zer s.wd 45 c.us) 13 0) 12 (Ck.mk 0 0 0 (c.sp + 1)).w := hw
  refine ⟨e.len.trans h.n, ?_, ?_, fun q hq => ?_⟩
  · rw [hw', upd_same]
  · rw [hw', upd_other _ _ _ _ (by decide), upd_same]
  · rw [hw', upd_other _ _ _ _ (by omega), upd_other _ _ _ _ (by omega)]; exact zer_in _ hq

theorem Sw.no {c : Ck} {A B : Int} {s s' : Mm} (h : Sw c A B c.us s) (e : SeEnd 1 1 2 30 1 s c s' false) : Fw c.us c.w 9 7 s' := by
  obtain ⟨-, hw⟩ := e.no rfl
  exact ⟨e.len.trans h.n, by rw [hw]; exact h.c, by rw [hw]; exact h.l, fun q hq => by rw [hw]; exact h.z q hq⟩

/-- the lowest bits of a word -/
theorem low8 (x : Int) (hx : FitW x) : ∃ y : Int, bits .and .u64 x 255 = y ∧ 0 ≤ y ∧ y ≤ 255 := by
  have e := and_most x 8 hx.1 (by have := hx.2; omega) (by decide)
  exact ⟨_, e, by omega, by omega⟩

set_option maxRecDepth 20000 in
set_option maxHeartbeats 8000000 in
theorem epochSettles_any (c1 c2 c3 c4 a1 a2 : Int) (ha1 : FitW a1) (ha2 : FitW a2) (w : World) :
    Calls Try.prog 5 #[.agg #[.int .i64 c1, .int .i64 c2, .int .i64 c3, .int .i64 c4], .int .u64 a1, .int .u64 a2] w fun e w' => e = .returned (.bool true) ∧ Below w.heap.size w w' := by
  obtain ⟨St, hSt, hSt1⟩ := low0 c1 3 2 (by decide) (by decide)
  obtain ⟨Cl, hCl, hCl1⟩ := low0 c2 3 2 (by decide) (by decide)
  obtain ⟨U, hU, hU0, hU1⟩ := lowAt c3 15 4 1 (by decide) (by decide)
  have hU : (1 : Int) + bits .and .i64 c3 15 = (U : Int) := hU
  obtain ⟨P, hP, hP1⟩ := low0 c4 65535 16 (by decide) (by decide)
  obtain ⟨A, hA, hA0, hA1⟩ := low8 a1 ha1
  obtain ⟨B, hB, hB0, hB1⟩ := low8 a2 ha2
  clear ha1 ha2
  have hok : (Ck.mk St Cl U P).ok 100000 := ⟨by simp only; omega, by simp only; omega, by simp only; omega, by simp only; omega⟩
  have hokf : (Ck.mk 0 0 0 (P + 1)).ok 100000 := ⟨by simp, by simp, by simp, by simp only; omega⟩
  have pc := fun w => putChunk_w ⟨St, Cl, U, P⟩ 100000 hok (by decide) St Cl U P rfl rfl rfl rfl w
  have pf := fun w => putChunk_w ⟨0, 0, 0, P + 1⟩ 100000 hokf (by decide) 0 0 0 ((P : Int) + 1) rfl rfl rfl (by simp) w
  have HSH : Hid (∀ s, Sw ⟨St, Cl, U, P⟩ A B U s → SeH 1 1 2 30 1 s ⟨St, Cl, U, P⟩) := fun s h => Sw.seh (c := ⟨St, Cl, U, P⟩) h hok (by simp only; omega) hA0 hB1
  obtain ⟨cw, hcw⟩ : ∃ x, (Ck.mk St Cl U P).w = x := ⟨_, rfl⟩
  obtain ⟨fw, hfw⟩ : ∃ x, (Ck.mk 0 0 0 (P + 1)).w = x := ⟨_, rfl⟩
  have HFt : Hid (∀ s s', Sw ⟨St, Cl, U, P⟩ A B U s → SeEnd 1 1 2 30 1 s ⟨St, Cl, U, P⟩ s' true → Fw U fw 0 0 s') := fun s s' h e => by rw [← hfw]; exact Sw.yes (c := ⟨St, Cl, U, P⟩) h e
  have HFf : Hid (∀ s s', Sw ⟨St, Cl, U, P⟩ A B U s → SeEnd 1 1 2 30 1 s ⟨St, Cl, U, P⟩ s' false → Fw U cw 9 7 s') := fun s s' h e => by rw [← hcw]; exact Sw.no (c := ⟨St, Cl, U, P⟩) h e
  have HW : ((St : Int) == 3) = true ∧ decide (B ≥ A + 2) = true ∧ Hid (∀ s, Sw ⟨St, Cl, U, P⟩ A B U s → decide (Ripe 1 1 1 s ⟨St, Cl, U, P⟩) = true) ∨ ((St : Int) == 3) = true ∧ decide (B ≥ A + 2) = false ∧ Hid (∀ s, Sw ⟨St, Cl, U, P⟩ A B U s → decide (Ripe 1 1 1 s ⟨St, Cl, U, P⟩) = false) ∨ ((St : Int) == 3) = false ∧ Hid (∀ s, Sw ⟨St, Cl, U, P⟩ A B U s → decide (Ripe 1 1 1 s ⟨St, Cl, U, P⟩) = false) := by
    by_cases h3 : St = 3
    · by_cases hAB : A + 2 ≤ B
      · exact Or.inl ⟨by simp [h3], decide_eq_true hAB, fun s h => decide_eq_true ((Sw.ripe (c := ⟨St, Cl, U, P⟩) h).2 ⟨h3, hAB⟩)⟩
      · exact Or.inr (Or.inl ⟨by simp [h3], decide_eq_false hAB, fun s h => decide_eq_false fun r => hAB ((Sw.ripe (c := ⟨St, Cl, U, P⟩) h).1 r).2⟩)
    · exact Or.inr (Or.inr ⟨by simp; omega, fun s h => decide_eq_false fun r => h3 ((Sw.ripe (c := ⟨St, Cl, U, P⟩) h).1 r).1⟩)
  rw [hcw] at pc
  rw [hfw] at pf
  have HCW : Hid ((Ck.mk St Cl U P).w = cw) := hcw
  clear hok hokf hcw hfw
  have hg : Good 1 1 2 30 100 600 3 := by constructor <;> decide
  have hN0 : (Mm.laid 1 1 (arenaLen 1 1 2 30) 1).n = arenaLen 1 1 2 30 := Mm.laid_n _ _ _ _
  have hZ0 : ∀ a, a ≠ 1 → (a < 6 + 1 ∨ 6 + 1 + 1 * 2 ≤ a) → (Mm.laid 1 1 (arenaLen 1 1 2 30) 1).wd a = 0 := fun a h1 h2 => laid_else _ _ _ _ _ h1 h2
  have HN0 : Hid (∀ S0, Mm.laid 1 1 (arenaLen 1 1 2 30) 1 = S0 → S0.n = 75) := fun S0 h => by rw [← h, hN0]; rfl
  generalize hS : Mm.laid 1 1 (arenaLen 1 1 2 30) 1 = S0 at hN0 hZ0
  have HS : Hid (Mm.laid 1 1 (arenaLen 1 1 2 30) 1 = S0) := hS
  have SN : Hid (S0.n = 75) := HN0.out S0 hS
  have SZ : Hid (∀ a, a ≠ 1 → (a < 6 + 1 ∨ 6 + 1 + 1 * 2 ≤ a) → S0.wd a = 0) := hZ0
  clear hN0 hZ0 hS HN0
  have hGd := hg
  have ck12 := fun w => lchunk_any 1 1 2 30 100 600 3 1 w hg.arena (by decide) (by decide)
  have pb := At.new w 47 [.int .i64 c1, .int .i64 c2, .int .i64 c3, .int .i64 c4]
  go_enter Try.func5, Try.ntmps5
  go_wp2_with (first
    | (go_at_call 8; refine (arena04_any hg _).mono ?_; rintro e w1 ⟨L, rfl, m1, b1, f1⟩; rw [HS.out] at m1; have g1 := Gd.new (w0 := w) (t := 1) (n := 1) (k := 2) (m' := 30) m1 (grow (gro1 _ _) b1) (fun q hq => by have := f1 q hq; rw [Go.Deep.nblk_alloc] at this; omega); have pb1 := (pb.grown b1).grown (gro1 _ (.cells #[.int .i64 1, .int .i64 1, .int .i64 2, .int .i64 30, .int .i64 100, .int .i64 600, .int .i64 3, .pointer (some ⟨L.p, 0, none⟩), .int .i64 0] 28)))
    | (go_at_call 9; refine (awake13_any _).mono ?_; rintro e w2 ⟨rfl, b2⟩; have g2 := g1.grown b2; have pb2 := pb1.grown b2; have u0 := pb2.at0 0 rfl; have u1 := pb2.at0 1 rfl; have u2 := pb2.at0 2 rfl; have u3 := pb2.at0 3 rfl; have x1 := At.new w2 47 [.int .i64 St, .int .i64 Cl, .int .i64 U, .int .i64 P]; have g3 := g2.grown (gro1 _ (.cells #[.int .i64 St, .int .i64 Cl, .int .i64 U, .int .i64 P] 47)); have y0 := g3.v.c0; have y1 := g3.v.c1; have y2 := g3.v.c2; have y3 := g3.v.c3; have y4 := g3.v.c4; have y5 := g3.v.c5; have y6 := g3.v.c6; have y7 := g3.v.c7; have y8 := g3.v.c8)
    | (go_at_call 17; refine (ck12 _).mono ?_; rintro e w3 ⟨rfl, b3⟩))
  have GG := g3.grown b3
  have xx := x1.grown b3
  obtain ⟨E, hE⟩ : ∃ E, w1.heap.size = E := ⟨_, rfl⟩
  rw [hE] at GG
  try rw [hE]
  obtain ⟨X, hXe⟩ : ∃ X, w2.heap.size = X := ⟨_, rfl⟩
  have hX : ¬ L.has X := fun hh => by have := g2.mm.lt _ hh; omega
  rw [hXe] at xx
  try rw [hXe]
  clear pb pb1 pb2 u0 u1 u2 u3 x1 g1 g2 g3 b1 b2 b3 m1 f1 hE hXe ck12
  refine wp_over (fun W => Gd w W L E 1 1 2 30 0 S0 ∧ At W X 0 47 #[.int .i64 St, .int .i64 Cl, .int .i64 U, .int .i64 P] [.int .i64 St, .int .i64 Cl, .int .i64 U, .int .i64 P]) ⟨GG, xx⟩ ?_
  clear GG xx y0 y1 y2 y3 y4 y5 y6 y7 y8
  rintro W ⟨G1, x1⟩
  refine wp_region_rely_tail Grown 5 [.val (.pointer (some ⟨E, 7, none⟩)), .val (.pointer (some ⟨L.p, 0, none⟩)), .val (.int .i64 12), .val (.agg #[.int .i64 St, .int .i64 Cl, .int .i64 U, .int .i64 P]), .val (.int .u64 cw)] (by kernel_rfl) Grown.refl Grown.trans (by decide) (by kernel_rfl) (by kernel_rfl) (by kernel_rfl) (by kernel_rfl) (by kernel_rfl) (by kernel_rfl) ?_
  simp only [List.take_succ_cons, List.take_zero, relyAll, Act.put, List.setIfInBounds_toArray, List.set_cons_zero, List.set_cons_succ]
  refine ⟨?_, ?_, ?_, ?_, ?_, ?_⟩
  · intro w' hg _
    refine Or.inl ⟨rfl, ?_⟩
    go_simp
    exact ⟨Grown.refl _, rfl⟩
  · intro w' hg _
    refine Or.inl ⟨rfl, ?_⟩
    have vv := (G1.drew.grown hg).v
    have y0 := vv.c0
    have y1 := vv.c1
    have y2 := vv.c2
    have y3 := vv.c3
    have y4 := vv.c4
    have y5 := vv.c5
    have y6 := vv.c6
    have y7 := vv.c7
    have y8 := vv.c8
    go_simp
    exact ⟨Grown.refl _, rfl⟩
  · intro w' hg _
    refine Or.inl ⟨rfl, ?_⟩
    go_simp
    exact ⟨Grown.refl _, rfl⟩
  · intro w' hg _
    refine Or.inl ⟨rfl, ?_⟩
    have z0 := (x1.drew.grown hg).at0 0 rfl
    have z1 := (x1.drew.grown hg).at0 1 rfl
    have z2 := (x1.drew.grown hg).at0 2 rfl
    have z3 := (x1.drew.grown hg).at0 3 rfl
    go_simp
    exact ⟨Grown.refl _, rfl⟩
  · intro w' hg _
    refine Or.inl ⟨rfl, ?_⟩
    go_simp
    refine (pc _).mono ?_
    rintro e w'' ⟨rfl, b9⟩
    exact ⟨_, rfl, b9, rfl⟩
  intro w5 hg _
  have GG := G1.drew.grown hg
  have xx := x1.drew.grown hg
  clear hg G1 x1
  have y0 := GG.v.c0
  have y1 := GG.v.c1
  have y2 := GG.v.c2
  have y3 := GG.v.c3
  have y4 := GG.v.c4
  have y5 := GG.v.c5
  have y6 := GG.v.c6
  have y7 := GG.v.c7
  have y8 := GG.v.c8
  have N0 : Hid (S0.n = 75) := SN.out
  go_wp2_with (first
    | (go_at_call_of 10 (Value.int IntKind.i64 12); refine (store_in GG.mm 12 (show 12 < S0.n by rw [SN.out]; decide) (cw)).mono ?_; rintro e w6 ⟨rfl, m6, o6, -⟩; have GG := GG.mem o6 m6; have xx := xx.only o6 hX; have y0 := GG.v.c0; have y1 := GG.v.c1; have y2 := GG.v.c2; have y3 := GG.v.c3; have y4 := GG.v.c4; have y5 := GG.v.c5; have y6 := GG.v.c6; have y7 := GG.v.c7; have y8 := GG.v.c8; clear m6 o6)
    | (go_at_call_of 10 (Value.int IntKind.i64 13); refine (store_in GG.mm 13 (show 13 < S0.n by rw [SN.out]; decide) (7)).mono ?_; rintro e w6 ⟨rfl, m6, o6, -⟩; have GG := GG.mem o6 m6; have xx := xx.only o6 hX; have y0 := GG.v.c0; have y1 := GG.v.c1; have y2 := GG.v.c2; have y3 := GG.v.c3; have y4 := GG.v.c4; have y5 := GG.v.c5; have y6 := GG.v.c6; have y7 := GG.v.c7; have y8 := GG.v.c8; clear m6 o6)
    | (go_at_call_of 10 (Value.int IntKind.i64 14); refine (store_in GG.mm 14 (show 14 < S0.n by rw [SN.out]; decide) (A)).mono ?_; rintro e w6 ⟨rfl, m6, o6, -⟩; have GG := GG.mem o6 m6; have xx := xx.only o6 hX; have y0 := GG.v.c0; have y1 := GG.v.c1; have y2 := GG.v.c2; have y3 := GG.v.c3; have y4 := GG.v.c4; have y5 := GG.v.c5; have y6 := GG.v.c6; have y7 := GG.v.c7; have y8 := GG.v.c8; clear m6 o6))
  refine wp_over (fun W => Gd w W L E 1 1 2 30 0 (((S0.step 12 cw).step 13 7).step 14 A) ∧ At W X 0 47 #[.int .i64 St, .int .i64 Cl, .int .i64 U, .int .i64 P] [.int .i64 St, .int .i64 Cl, .int .i64 U, .int .i64 P]) ⟨GG, xx⟩ ?_
  clear GG xx y0 y1 y2 y3 y4 y5 y6 y7 y8
  rintro W ⟨G1, x1⟩
  refine wp_region_rely_tail Grown 4 [.val (.pointer (some ⟨E, 7, none⟩)), .val (.pointer (some ⟨L.p, 0, none⟩)), .val (.int .i64 0), .val (.int .u64 B)] (by kernel_rfl) Grown.refl Grown.trans (by decide) (by kernel_rfl) (by kernel_rfl) (by kernel_rfl) (by kernel_rfl) (by kernel_rfl) (by kernel_rfl) ?_
  simp only [List.take_succ_cons, List.take_zero, relyAll, Act.put, List.setIfInBounds_toArray, List.set_cons_zero, List.set_cons_succ]
  refine ⟨?_, ?_, ?_, ?_, ?_⟩
  · intro w' hg _
    refine Or.inl ⟨rfl, ?_⟩
    go_simp
    exact ⟨Grown.refl _, rfl⟩
  · intro w' hg _
    refine Or.inl ⟨rfl, ?_⟩
    have vv := (G1.drew.grown hg).v
    have y0 := vv.c0
    have y1 := vv.c1
    have y2 := vv.c2
    have y3 := vv.c3
    have y4 := vv.c4
    have y5 := vv.c5
    have y6 := vv.c6
    have y7 := vv.c7
    have y8 := vv.c8
    go_simp
    exact ⟨Grown.refl _, rfl⟩
  · intro w' hg _
    refine Or.inl ⟨rfl, ?_⟩
    go_simp
    refine (lepoch_any _).mono ?_
    rintro e w'' ⟨rfl, rfl⟩
    exact ⟨_, rfl, Grown.refl _, rfl⟩
  · intro w' hg _
    refine Or.inl ⟨rfl, ?_⟩
    go_simp
    exact ⟨Grown.refl _, rfl⟩
  intro w5 hg _
  have GG := G1.drew.grown hg
  have xx := x1.drew.grown hg
  clear hg G1 x1
  go_wp2_with (go_at_call 10; refine (store_in GG.mm 0 (show 0 < S0.n by rw [SN.out]; decide) B).mono ?_; rintro e w6 ⟨rfl, m6, o6, -⟩; have GG := GG.mem o6 m6; have xx := xx.only o6 hX)
  have A1 : Hid (Sw ⟨St, Cl, U, P⟩ A B 0 ((((S0.step 12 cw).step 13 7).step 14 A).step 0 B) ∧ Gd w w6 L E 1 1 2 30 0 ((((S0.step 12 cw).step 13 7).step 14 A).step 0 B) ∧ At w6 X 0 47 #[.int .i64 St, .int .i64 Cl, .int .i64 U, .int .i64 P] [.int .i64 St, .int .i64 Cl, .int .i64 U, .int .i64 P]) := by
    refine ⟨⟨SN.out, ?_, rfl, rfl, rfl, fun q hq => absurd hq (Nat.not_lt_zero _)⟩, GG, xx⟩
    rw [HCW.out]; rfl
  clear GG xx m6 o6 N0
  go_loopw [13] (fun i wr => ∃ (j : Nat) (s' : Mm), i = .int .i64 j ∧ j ≤ U ∧ Sw ⟨St, Cl, U, P⟩ A B j s' ∧ Gd w wr L E 1 1 2 30 0 s' ∧ At wr X 0 47 #[.int .i64 St, .int .i64 Cl, .int .i64 U, .int .i64 P] [.int .i64 St, .int .i64 Cl, .int .i64 U, .int .i64 P]) (fun i _ => U - (intOf i).toNat)
  case atStart => exact ⟨0, _, rfl, by omega, A1.out.1, A1.out.2.1, A1.out.2.2⟩
  case round =>
    clear A1
    obtain ⟨j, s1, rfl, hjU, SW, GG, xx⟩ := hrel
    have x2 := xx.at0 2 rfl
    have y0 := GG.v.c0
    have y1 := GG.v.c1
    have y2 := GG.v.c2
    have y3 := GG.v.c3
    have y4 := GG.v.c4
    have y5 := GG.v.c5
    have y6 := GG.v.c6
    have y7 := GG.v.c7
    have y8 := GG.v.c8
    by_cases hj : j < U
    · have hj' : (j : Int) < (U : Int) := by omega
      have S2 := SW.next (j := j)
      have hn1 : Hid (45 + j < s1.n) := by unfold Hid; rw [SW.n]; omega
      clear SW
      go_wp2
      refine wp_over (fun W => Gd w W L E 1 1 2 30 0 s1 ∧ At W X 0 47 #[.int .i64 St, .int .i64 Cl, .int .i64 U, .int .i64 P] [.int .i64 St, .int .i64 Cl, .int .i64 U, .int .i64 P]) ⟨GG, xx⟩ ?_
      clear GG xx y0 y1 y2 y3 y4 y5 y6 y7 y8 x2
      rintro W ⟨G1, x1⟩
      refine wp_region_rely_tail Grown 7 [.val (.pointer (some ⟨E, 7, none⟩)), .val (.pointer (some ⟨L.p, 0, none⟩)), .val (.pointer (some ⟨E, 0, none⟩)), .val (.agg #[.int .i64 1, .int .i64 1, .int .i64 2, .int .i64 30, .int .i64 100, .int .i64 600, .int .i64 3]), .val (.int .i64 45), .val (.int .i64 j), .val (.int .i64 ((45 + j : Nat) : Int))] (by kernel_rfl) Grown.refl Grown.trans (by decide) (by kernel_rfl) (by kernel_rfl) (by kernel_rfl) (by kernel_rfl) (by kernel_rfl) (by kernel_rfl) ?_
      simp only [List.take_succ_cons, List.take_zero, relyAll, Act.put, List.setIfInBounds_toArray, List.set_cons_zero, List.set_cons_succ]
      refine ⟨?_, ?_, ?_, ?_, ?_, ?_, ?_, ?_⟩
      · intro w' hg _
        refine Or.inl ⟨rfl, ?_⟩
        go_simp
        exact ⟨Grown.refl _, rfl⟩
      · intro w' hg _
        refine Or.inl ⟨rfl, ?_⟩
        have vv := (G1.drew.grown hg).v
        have y0 := vv.c0
        have y1 := vv.c1
        have y2 := vv.c2
        have y3 := vv.c3
        have y4 := vv.c4
        have y5 := vv.c5
        have y6 := vv.c6
        have y7 := vv.c7
        have y8 := vv.c8
        go_simp
        exact ⟨Grown.refl _, rfl⟩
      · intro w' hg _
        refine Or.inl ⟨rfl, ?_⟩
        go_simp
        exact ⟨Grown.refl _, rfl⟩
      · intro w' hg _
        refine Or.inl ⟨rfl, ?_⟩
        have vv := (G1.drew.grown hg).v
        have y0 := vv.c0
        have y1 := vv.c1
        have y2 := vv.c2
        have y3 := vv.c3
        have y4 := vv.c4
        have y5 := vv.c5
        have y6 := vv.c6
        have y7 := vv.c7
        have y8 := vv.c8
        go_simp
        exact ⟨Grown.refl _, rfl⟩
      · intro w' hg _
        refine Or.inl ⟨rfl, ?_⟩
        go_simp
        refine (lbase_any _ _ _ _ _ _ _ 1 30 _ hGd.arena (by decide) (by decide) (by decide)).mono ?_
        rintro e w'' ⟨rfl, b9⟩
        exact ⟨_, rfl, b9, congrArg (Value.int .i64) (by omega)⟩
      · intro w' hg _
        refine Or.inl ⟨rfl, ?_⟩
        go_simp
        exact ⟨Grown.refl _, rfl⟩
      · intro w' hg _
        refine Or.inl ⟨rfl, ?_⟩
        go_simp
        exact ⟨Grown.refl _, congrArg (Value.int .i64) (by rw [IntKind.wrap_i64]; omega)⟩
      intro w5 hg _
      have GG := G1.drew.grown hg
      have xx := x1.drew.grown hg
      clear hg G1 x1
      go_wp2_with (go_at_call 10; refine (store_in GG.mm (45 + j) hn1.out 9).mono ?_; rintro e w6 ⟨rfl, m6, o6, -⟩; have GG := GG.mem o6 m6; have xx := xx.only o6 hX)
      go_roundw
      case rel => exact ⟨j + 1, _, by go_num, by omega, S2, GG, xx⟩
      case measure => simp [intOf]; omega
    · have hj' : ¬ (j : Int) < (U : Int) := by omega
      have hjU2 : j = U := by omega
      rw [hjU2] at SW
      clear hjU2
      have x0 := xx.at0 0 rfl
      rcases HW with ⟨h3, hAB, HRp⟩ | ⟨h3, hAB, HRp⟩ | ⟨h3, HRp⟩
      · have HFin := HFt
        have hRp : Hid (decide (Ripe 1 1 1 s1 ⟨St, Cl, U, P⟩) = true) := HRp.out s1 SW
        have hH : Hid (SeH 1 1 2 30 1 s1 ⟨St, Cl, U, P⟩) := HSH.out s1 SW
        have hl1 : Hid (arenaLen 1 1 2 30 ≤ s1.n) := by unfold Hid; rw [SW.n]; decide
        have HEnd : Hid (∀ s7, SeEnd 1 1 2 30 1 s1 ⟨St, Cl, U, P⟩ s7 true → Fw U fw 0 0 s7) := fun s7 e7 => HFin.out s1 s7 SW e7
        clear SW
        go_wp2_with (first
          | (go_at_call 20; refine (settle_any GG.mm hg hl1.out 0 hH.out true hRp.out).mono ?_; rintro e w7 ⟨rfl, s7, m7, e7, o7⟩; have GG := GG.mem o7 m7; have xx := xx.only o7 hX; have q0 := xx.at0 0 rfl; have q1 := xx.at0 1 rfl; have q2 := xx.at0 2 rfl; have q3 := xx.at0 3 rfl)
          | (go_at_call_of 18 (Value.agg #[Value.int IntKind.i64 (St : Int), Value.int IntKind.i64 (Cl : Int), Value.int IntKind.i64 (U : Int), Value.int IntKind.i64 (P : Int)]); refine (pc _).mono ?_; rintro e w8 ⟨rfl, b8⟩; have GG := GG.grown b8; have xx := xx.grown b8; have q3 := xx.at0 3 rfl; have q2 := xx.at0 2 rfl)
          | (go_at_call 18; refine (pf _).mono ?_; rintro e w9 ⟨rfl, b9⟩; have GG := GG.grown b9; have xx := xx.grown b9; have q2 := xx.at0 2 rfl))
        have HF : Hid (Fw U fw 0 0 s7) := HEnd.out s7 e7
        have A2 : Hid (Gd w _ L E 1 1 2 30 0 s7 ∧ At _ X 0 47 #[.int .i64 St, .int .i64 Cl, .int .i64 U, .int .i64 P] [.int .i64 St, .int .i64 Cl, .int .i64 U, .int .i64 P]) := ⟨GG, xx⟩
        clear GG xx hRp hH hl1 HEnd e7
        go_loopw [17] (fun i wr => ∃ j : Nat, i = .int .i64 j ∧ j ≤ U ∧ Gd w wr L E 1 1 2 30 0 s7 ∧ At wr X 0 47 #[.int .i64 St, .int .i64 Cl, .int .i64 U, .int .i64 P] [.int .i64 St, .int .i64 Cl, .int .i64 U, .int .i64 P]) (fun i _ => U - (intOf i).toNat)
        case atStart => exact ⟨0, rfl, by omega, A2.out.1, A2.out.2⟩
        case round =>
          clear A2
          obtain ⟨j, rfl, hjU, GG, xx⟩ := hrel
          have x2 := xx.at0 2 rfl
          have y0 := GG.v.c0
          have y1 := GG.v.c1
          have y2 := GG.v.c2
          have y3 := GG.v.c3
          have y4 := GG.v.c4
          have y5 := GG.v.c5
          have y6 := GG.v.c6
          have y7 := GG.v.c7
          have y8 := GG.v.c8
          by_cases hj : j < U
          · have hj' : (j : Int) < (U : Int) := by omega
            go_wp2
            refine wp_over (fun W => Gd w W L E 1 1 2 30 0 s7 ∧ At W X 0 47 #[.int .i64 St, .int .i64 Cl, .int .i64 U, .int .i64 P] [.int .i64 St, .int .i64 Cl, .int .i64 U, .int .i64 P]) ⟨GG, xx⟩ ?_
            clear GG xx y0 y1 y2 y3 y4 y5 y6 y7 y8 x2
            rintro W ⟨G1, x1⟩
            refine wp_region_rely Grown [.val (.pointer (some ⟨E, 7, none⟩)), .val (.pointer (some ⟨L.p, 0, none⟩)), .val (.pointer (some ⟨E, 0, none⟩)), .val (.agg #[.int .i64 1, .int .i64 1, .int .i64 2, .int .i64 30, .int .i64 100, .int .i64 600, .int .i64 3]), .val (.int .i64 45), .val (.int .i64 j), .val (.int .i64 ((45 + j : Nat) : Int)), .val (.int .u64 0), .val (.int .u64 0), .val (.bool false)] (by kernel_rfl) Grown.refl Grown.trans (by kernel_rfl) (by kernel_rfl) (by kernel_rfl) ?_
            simp only [relyAll, Act.put, List.setIfInBounds_toArray, List.set_cons_zero, List.set_cons_succ]
            refine ⟨?_, ?_, ?_, ?_, ?_, ?_, ?_, ?_, ?_, ?_, ?_⟩
            · intro w' hg _
              refine Or.inl ⟨rfl, ?_⟩
              go_simp
              exact ⟨Grown.refl _, rfl⟩
            · intro w' hg _
              refine Or.inl ⟨rfl, ?_⟩
              have vv := (G1.drew.grown hg).v
              have y0 := vv.c0
              have y1 := vv.c1
              have y2 := vv.c2
              have y3 := vv.c3
              have y4 := vv.c4
              have y5 := vv.c5
              have y6 := vv.c6
              have y7 := vv.c7
              have y8 := vv.c8
              go_simp
              exact ⟨Grown.refl _, rfl⟩
            · intro w' hg _
              refine Or.inl ⟨rfl, ?_⟩
              go_simp
              exact ⟨Grown.refl _, rfl⟩
            · intro w' hg _
              refine Or.inl ⟨rfl, ?_⟩
              have vv := (G1.drew.grown hg).v
              have y0 := vv.c0
              have y1 := vv.c1
              have y2 := vv.c2
              have y3 := vv.c3
              have y4 := vv.c4
              have y5 := vv.c5
              have y6 := vv.c6
              have y7 := vv.c7
              have y8 := vv.c8
              go_simp
              exact ⟨Grown.refl _, rfl⟩
            · intro w' hg _
              refine Or.inl ⟨rfl, ?_⟩
              go_simp
              refine (lbase_any _ _ _ _ _ _ _ 1 30 _ hGd.arena (by decide) (by decide) (by decide)).mono ?_
              rintro e w'' ⟨rfl, b9⟩
              exact ⟨_, rfl, b9, congrArg (Value.int .i64) (by omega)⟩
            · intro w' hg _
              refine Or.inl ⟨rfl, ?_⟩
              go_simp
              exact ⟨Grown.refl _, rfl⟩
            · intro w' hg _
              refine Or.inl ⟨rfl, ?_⟩
              go_simp
              exact ⟨Grown.refl _, congrArg (Value.int .i64) (by rw [IntKind.wrap_i64]; omega)⟩
            · intro w' hg _
              refine Or.inl ⟨rfl, ?_⟩
              go_simp
              refine (peek_is (G1.drew.grown hg).mm (45 + j) (by rw [HF.out.n]; omega) 0 (HF.out.z j (by omega))).mono ?_
              rintro e w'' ⟨rfl, rfl⟩
              exact ⟨_, rfl, Grown.refl _, rfl⟩
            · intro w' hg _
              refine Or.inl ⟨rfl, ?_⟩
              go_simp
              exact ⟨Grown.refl _, rfl⟩
            · intro w' hg _
              refine Or.inl ⟨rfl, ?_⟩
              go_simp
              exact ⟨Grown.refl _, rfl⟩
            intro w9 hg _
            have GG := G1.drew.grown hg
            have xx := x1.drew.grown hg
            clear hg G1 x1
            go_wp2
            go_roundw
            case rel => exact ⟨j + 1, by go_num, by omega, GG, xx⟩
            case measure => simp [intOf]; omega
          · have hj' : ¬ (j : Int) < (U : Int) := by omega
            go_wp2_with (first
              | (go_at_call_of 14 (Value.int IntKind.i64 12); refine (peek_is GG.mm 12 (by rw [HF.out.n]; decide) fw HF.out.c).mono ?_; rintro e w8 ⟨rfl, rfl⟩)
              | (go_at_call_of 14 (Value.int IntKind.i64 13); refine (peek_is GG.mm 13 (by rw [HF.out.n]; decide) 0 HF.out.l).mono ?_; rintro e w8 ⟨rfl, rfl⟩))
            go_ret
            exact ⟨rfl, GG.b⟩
      · have HFin := HFf
        have hRp : Hid (decide (Ripe 1 1 1 s1 ⟨St, Cl, U, P⟩) = false) := HRp.out s1 SW
        have hH : Hid (SeH 1 1 2 30 1 s1 ⟨St, Cl, U, P⟩) := HSH.out s1 SW
        have hl1 : Hid (arenaLen 1 1 2 30 ≤ s1.n) := by unfold Hid; rw [SW.n]; decide
        have HEnd : Hid (∀ s7, SeEnd 1 1 2 30 1 s1 ⟨St, Cl, U, P⟩ s7 false → Fw U cw 9 7 s7) := fun s7 e7 => HFin.out s1 s7 SW e7
        clear SW
        go_wp2_with (first
          | (go_at_call 20; refine (settle_any GG.mm hg hl1.out 0 hH.out false hRp.out).mono ?_; rintro e w7 ⟨rfl, s7, m7, e7, o7⟩; have GG := GG.mem o7 m7; have xx := xx.only o7 hX; have q0 := xx.at0 0 rfl; have q1 := xx.at0 1 rfl; have q2 := xx.at0 2 rfl; have q3 := xx.at0 3 rfl)
          | (go_at_call_of 18 (Value.agg #[Value.int IntKind.i64 (St : Int), Value.int IntKind.i64 (Cl : Int), Value.int IntKind.i64 (U : Int), Value.int IntKind.i64 (P : Int)]); refine (pc _).mono ?_; rintro e w8 ⟨rfl, b8⟩; have GG := GG.grown b8; have xx := xx.grown b8; have q3 := xx.at0 3 rfl; have q2 := xx.at0 2 rfl))
        have HF : Hid (Fw U cw 9 7 s7) := HEnd.out s7 e7
        have A2 : Hid (Gd w _ L E 1 1 2 30 0 s7 ∧ At _ X 0 47 #[.int .i64 St, .int .i64 Cl, .int .i64 U, .int .i64 P] [.int .i64 St, .int .i64 Cl, .int .i64 U, .int .i64 P]) := ⟨GG, xx⟩
        clear GG xx hRp hH hl1 HEnd e7
        go_loopw [17] (fun i wr => ∃ j : Nat, i = .int .i64 j ∧ j ≤ U ∧ Gd w wr L E 1 1 2 30 0 s7 ∧ At wr X 0 47 #[.int .i64 St, .int .i64 Cl, .int .i64 U, .int .i64 P] [.int .i64 St, .int .i64 Cl, .int .i64 U, .int .i64 P]) (fun i _ => U - (intOf i).toNat)
        case atStart => exact ⟨0, rfl, by omega, A2.out.1, A2.out.2⟩
        case round =>
          clear A2
          obtain ⟨j, rfl, hjU, GG, xx⟩ := hrel
          have x2 := xx.at0 2 rfl
          have y0 := GG.v.c0
          have y1 := GG.v.c1
          have y2 := GG.v.c2
          have y3 := GG.v.c3
          have y4 := GG.v.c4
          have y5 := GG.v.c5
          have y6 := GG.v.c6
          have y7 := GG.v.c7
          have y8 := GG.v.c8
          by_cases hj : j < U
          · have hj' : (j : Int) < (U : Int) := by omega
            go_wp2
            refine wp_over (fun W => Gd w W L E 1 1 2 30 0 s7 ∧ At W X 0 47 #[.int .i64 St, .int .i64 Cl, .int .i64 U, .int .i64 P] [.int .i64 St, .int .i64 Cl, .int .i64 U, .int .i64 P]) ⟨GG, xx⟩ ?_
            clear GG xx y0 y1 y2 y3 y4 y5 y6 y7 y8 x2
            rintro W ⟨G1, x1⟩
            refine wp_region_rely Grown [.val (.pointer (some ⟨E, 7, none⟩)), .val (.pointer (some ⟨L.p, 0, none⟩)), .val (.pointer (some ⟨E, 0, none⟩)), .val (.agg #[.int .i64 1, .int .i64 1, .int .i64 2, .int .i64 30, .int .i64 100, .int .i64 600, .int .i64 3]), .val (.int .i64 45), .val (.int .i64 j), .val (.int .i64 ((45 + j : Nat) : Int)), .val (.int .u64 9), .val (.int .u64 9), .val (.bool false)] (by kernel_rfl) Grown.refl Grown.trans (by kernel_rfl) (by kernel_rfl) (by kernel_rfl) ?_
            simp only [relyAll, Act.put, List.setIfInBounds_toArray, List.set_cons_zero, List.set_cons_succ]
            refine ⟨?_, ?_, ?_, ?_, ?_, ?_, ?_, ?_, ?_, ?_, ?_⟩
            · intro w' hg _
              refine Or.inl ⟨rfl, ?_⟩
              go_simp
              exact ⟨Grown.refl _, rfl⟩
            · intro w' hg _
              refine Or.inl ⟨rfl, ?_⟩
              have vv := (G1.drew.grown hg).v
              have y0 := vv.c0
              have y1 := vv.c1
              have y2 := vv.c2
              have y3 := vv.c3
              have y4 := vv.c4
              have y5 := vv.c5
              have y6 := vv.c6
              have y7 := vv.c7
              have y8 := vv.c8
              go_simp
              exact ⟨Grown.refl _, rfl⟩
            · intro w' hg _
              refine Or.inl ⟨rfl, ?_⟩
              go_simp
              exact ⟨Grown.refl _, rfl⟩
            · intro w' hg _
              refine Or.inl ⟨rfl, ?_⟩
              have vv := (G1.drew.grown hg).v
              have y0 := vv.c0
              have y1 := vv.c1
              have y2 := vv.c2
              have y3 := vv.c3
              have y4 := vv.c4
              have y5 := vv.c5
              have y6 := vv.c6
              have y7 := vv.c7
              have y8 := vv.c8
              go_simp
              exact ⟨Grown.refl _, rfl⟩
            · intro w' hg _
              refine Or.inl ⟨rfl, ?_⟩
              go_simp
              refine (lbase_any _ _ _ _ _ _ _ 1 30 _ hGd.arena (by decide) (by decide) (by decide)).mono ?_
              rintro e w'' ⟨rfl, b9⟩
              exact ⟨_, rfl, b9, congrArg (Value.int .i64) (by omega)⟩
            · intro w' hg _
              refine Or.inl ⟨rfl, ?_⟩
              go_simp
              exact ⟨Grown.refl _, rfl⟩
            · intro w' hg _
              refine Or.inl ⟨rfl, ?_⟩
              go_simp
              exact ⟨Grown.refl _, congrArg (Value.int .i64) (by rw [IntKind.wrap_i64]; omega)⟩
            · intro w' hg _
              refine Or.inl ⟨rfl, ?_⟩
              go_simp
              refine (peek_is (G1.drew.grown hg).mm (45 + j) (by rw [HF.out.n]; omega) 9 (HF.out.z j (by omega))).mono ?_
              rintro e w'' ⟨rfl, rfl⟩
              exact ⟨_, rfl, Grown.refl _, rfl⟩
            · intro w' hg _
              refine Or.inl ⟨rfl, ?_⟩
              go_simp
              exact ⟨Grown.refl _, rfl⟩
            · intro w' hg _
              refine Or.inl ⟨rfl, ?_⟩
              go_simp
              exact ⟨Grown.refl _, rfl⟩
            intro w9 hg _
            have GG := G1.drew.grown hg
            have xx := x1.drew.grown hg
            clear hg G1 x1
            go_wp2
            go_roundw
            case rel => exact ⟨j + 1, by go_num, by omega, GG, xx⟩
            case measure => simp [intOf]; omega
          · have hj' : ¬ (j : Int) < (U : Int) := by omega
            go_wp2_with (first
              | (go_at_call_of 14 (Value.int IntKind.i64 12); refine (peek_is GG.mm 12 (by rw [HF.out.n]; decide) cw HF.out.c).mono ?_; rintro e w8 ⟨rfl, rfl⟩)
              | (go_at_call_of 14 (Value.int IntKind.i64 13); refine (peek_is GG.mm 13 (by rw [HF.out.n]; decide) 7 HF.out.l).mono ?_; rintro e w8 ⟨rfl, rfl⟩))
            go_ret
            exact ⟨rfl, GG.b⟩
      · have HFin := HFf
        have hRp : Hid (decide (Ripe 1 1 1 s1 ⟨St, Cl, U, P⟩) = false) := HRp.out s1 SW
        have hH : Hid (SeH 1 1 2 30 1 s1 ⟨St, Cl, U, P⟩) := HSH.out s1 SW
        have hl1 : Hid (arenaLen 1 1 2 30 ≤ s1.n) := by unfold Hid; rw [SW.n]; decide
        have HEnd : Hid (∀ s7, SeEnd 1 1 2 30 1 s1 ⟨St, Cl, U, P⟩ s7 false → Fw U cw 9 7 s7) := fun s7 e7 => HFin.out s1 s7 SW e7
        clear SW
        go_wp2_with (first
          | (go_at_call 20; refine (settle_any GG.mm hg hl1.out 0 hH.out false hRp.out).mono ?_; rintro e w7 ⟨rfl, s7, m7, e7, o7⟩; have GG := GG.mem o7 m7; have xx := xx.only o7 hX; have q0 := xx.at0 0 rfl; have q1 := xx.at0 1 rfl; have q2 := xx.at0 2 rfl; have q3 := xx.at0 3 rfl)
          | (go_at_call_of 18 (Value.agg #[Value.int IntKind.i64 (St : Int), Value.int IntKind.i64 (Cl : Int), Value.int IntKind.i64 (U : Int), Value.int IntKind.i64 (P : Int)]); refine (pc _).mono ?_; rintro e w8 ⟨rfl, b8⟩; have GG := GG.grown b8; have xx := xx.grown b8; have q3 := xx.at0 3 rfl; have q2 := xx.at0 2 rfl))
        have HF : Hid (Fw U cw 9 7 s7) := HEnd.out s7 e7
        have A2 : Hid (Gd w _ L E 1 1 2 30 0 s7 ∧ At _ X 0 47 #[.int .i64 St, .int .i64 Cl, .int .i64 U, .int .i64 P] [.int .i64 St, .int .i64 Cl, .int .i64 U, .int .i64 P]) := ⟨GG, xx⟩
        clear GG xx hRp hH hl1 HEnd e7
        go_loopw [17] (fun i wr => ∃ j : Nat, i = .int .i64 j ∧ j ≤ U ∧ Gd w wr L E 1 1 2 30 0 s7 ∧ At wr X 0 47 #[.int .i64 St, .int .i64 Cl, .int .i64 U, .int .i64 P] [.int .i64 St, .int .i64 Cl, .int .i64 U, .int .i64 P]) (fun i _ => U - (intOf i).toNat)
        case atStart => exact ⟨0, rfl, by omega, A2.out.1, A2.out.2⟩
        case round =>
          clear A2
          obtain ⟨j, rfl, hjU, GG, xx⟩ := hrel
          have x2 := xx.at0 2 rfl
          have y0 := GG.v.c0
          have y1 := GG.v.c1
          have y2 := GG.v.c2
          have y3 := GG.v.c3
          have y4 := GG.v.c4
          have y5 := GG.v.c5
          have y6 := GG.v.c6
          have y7 := GG.v.c7
          have y8 := GG.v.c8
          by_cases hj : j < U
          · have hj' : (j : Int) < (U : Int) := by omega
            go_wp2
            refine wp_over (fun W => Gd w W L E 1 1 2 30 0 s7 ∧ At W X 0 47 #[.int .i64 St, .int .i64 Cl, .int .i64 U, .int .i64 P] [.int .i64 St, .int .i64 Cl, .int .i64 U, .int .i64 P]) ⟨GG, xx⟩ ?_
            clear GG xx y0 y1 y2 y3 y4 y5 y6 y7 y8 x2
            rintro W ⟨G1, x1⟩
            refine wp_region_rely Grown [.val (.pointer (some ⟨E, 7, none⟩)), .val (.pointer (some ⟨L.p, 0, none⟩)), .val (.pointer (some ⟨E, 0, none⟩)), .val (.agg #[.int .i64 1, .int .i64 1, .int .i64 2, .int .i64 30, .int .i64 100, .int .i64 600, .int .i64 3]), .val (.int .i64 45), .val (.int .i64 j), .val (.int .i64 ((45 + j : Nat) : Int)), .val (.int .u64 9), .val (.int .u64 9), .val (.bool false)] (by kernel_rfl) Grown.refl Grown.trans (by kernel_rfl) (by kernel_rfl) (by kernel_rfl) ?_
            simp only [relyAll, Act.put, List.setIfInBounds_toArray, List.set_cons_zero, List.set_cons_succ]
            refine ⟨?_, ?_, ?_, ?_, ?_, ?_, ?_, ?_, ?_, ?_, ?_⟩
            · intro w' hg _
              refine Or.inl ⟨rfl, ?_⟩
              go_simp
              exact ⟨Grown.refl _, rfl⟩
            · intro w' hg _
              refine Or.inl ⟨rfl, ?_⟩
              have vv := (G1.drew.grown hg).v
              have y0 := vv.c0
              have y1 := vv.c1
              have y2 := vv.c2
              have y3 := vv.c3
              have y4 := vv.c4
              have y5 := vv.c5
              have y6 := vv.c6
              have y7 := vv.c7
              have y8 := vv.c8
              go_simp
              exact ⟨Grown.refl _, rfl⟩
            · intro w' hg _
              refine Or.inl ⟨rfl, ?_⟩
              go_simp
              exact ⟨Grown.refl _, rfl⟩
            · intro w' hg _
              refine Or.inl ⟨rfl, ?_⟩
              have vv := (G1.drew.grown hg).v
              have y0 := vv.c0
              have y1 := vv.c1
              have y2 := vv.c2
              have y3 := vv.c3
              have y4 := vv.c4
              have y5 := vv.c5
              have y6 := vv.c6
              have y7 := vv.c7
              have y8 := vv.c8
              go_simp
              exact ⟨Grown.refl _, rfl⟩
            · intro w' hg _
              refine Or.inl ⟨rfl, ?_⟩
              go_simp
              refine (lbase_any _ _ _ _ _ _ _ 1 30 _ hGd.arena (by decide) (by decide) (by decide)).mono ?_
              rintro e w'' ⟨rfl, b9⟩
              exact ⟨_, rfl, b9, congrArg (Value.int .i64) (by omega)⟩
            · intro w' hg _
              refine Or.inl ⟨rfl, ?_⟩
              go_simp
              exact ⟨Grown.refl _, rfl⟩
            · intro w' hg _
              refine Or.inl ⟨rfl, ?_⟩
              go_simp
              exact ⟨Grown.refl _, congrArg (Value.int .i64) (by rw [IntKind.wrap_i64]; omega)⟩
            · intro w' hg _
              refine Or.inl ⟨rfl, ?_⟩
              go_simp
              refine (peek_is (G1.drew.grown hg).mm (45 + j) (by rw [HF.out.n]; omega) 9 (HF.out.z j (by omega))).mono ?_
              rintro e w'' ⟨rfl, rfl⟩
              exact ⟨_, rfl, Grown.refl _, rfl⟩
            · intro w' hg _
              refine Or.inl ⟨rfl, ?_⟩
              go_simp
              exact ⟨Grown.refl _, rfl⟩
            · intro w' hg _
              refine Or.inl ⟨rfl, ?_⟩
              go_simp
              exact ⟨Grown.refl _, rfl⟩
            intro w9 hg _
            have GG := G1.drew.grown hg
            have xx := x1.drew.grown hg
            clear hg G1 x1
            go_wp2
            go_roundw
            case rel => exact ⟨j + 1, by go_num, by omega, GG, xx⟩
            case measure => simp [intOf]; omega
          · have hj' : ¬ (j : Int) < (U : Int) := by omega
            go_wp2_with (first
              | (go_at_call_of 14 (Value.int IntKind.i64 12); refine (peek_is GG.mm 12 (by rw [HF.out.n]; decide) cw HF.out.c).mono ?_; rintro e w8 ⟨rfl, rfl⟩)
              | (go_at_call_of 14 (Value.int IntKind.i64 13); refine (peek_is GG.mm 13 (by rw [HF.out.n]; decide) 7 HF.out.l).mono ?_; rintro e w8 ⟨rfl, rfl⟩))
            go_ret
            exact ⟨rfl, GG.b⟩

end Go.Proofs.Ytameeiabnkblmaa
