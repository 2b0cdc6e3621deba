/- Three who want words of classes, whoever is picked, and the words that were given out: what is true at each round. -/
import Derived.Test.YtbhjokfgajjoiaaPlaceGiven
namespace Go.Proofs.Ytbhjokfgajjoiaa
open Go.RowKit

/-- the three, their classes (C), the words that were given out (G); all but the x-th are not done -/
structure Share (x : Nat) (w0 W : World) (L : Loc) (E A C G M k K : Nat) (s : Mm) (σ : Nat) (y : Y) (θ : Nat → Who) (cl : Nat → Nat) (g : Nat → Bool) : Prop where
  tr : Trio w0 W L E A M 4 1 k 20 s σ y θ
  cr : W.rowIs C 46 3 (fun i => .int .i64 (cl i))
  gr : W.rowIs G 4 K (fun i => .bool (g i))
  on : ∀ i, i < 3 → i ≠ x → ∀ b κ τ, θ i = .at b κ τ → τ.over = false ∧ cl i = κ
  gv : Given k y g
  sz : M ≤ W.heap.size

structure ShareApart (w0 : World) (L : Loc) (E A C G M k : Nat) : Prop where
  ta : TrioApart w0 L E A M 4 1 k 20
  cl : ¬ L.has C
  gl : ¬ L.has G
  ec : E ≠ C
  eg : E ≠ G
  ac : A ≠ C
  ag : A ≠ G
  cg : C ≠ G
  c0 : w0.heap.size ≤ C
  g0 : w0.heap.size ≤ G
  cm : C < M
  gm : G < M

section
variable {x : Nat} {w0 W W' : World} {L : Loc} {E A C G M k K σ : Nat} {s : Mm} {y : Y} {θ : Nat → Who} {cl : Nat → Nat} {g : Nat → Bool}

theorem Share.grown (h : Share x w0 W L E A C G M k K s σ y θ cl g) (b : Below W.heap.size W W') : Share x w0 W' L E A C G M k K s σ y θ cl g :=
  ⟨h.tr.grown b, h.cr.of_block (b.block _ h.cr.lt), h.gr.of_block (b.block _ h.gr.lt), h.on, h.gv, Nat.le_trans h.sz b.size⟩

/-- the picked one begins, with a class -/
theorem Share.begin (h : Share 3 w0 W L E A C G M k K s σ y θ cl g) (p : ShareApart w0 L E A C G M k) {j κ : Nat} (hκ : κ < 4) :
    Share 3 w0 (((W.setCell ⟨C, j, none⟩ (.int .i64 κ)).alloc (place0 κ)).setCell ⟨A, j, none⟩ (.pointer (some ⟨(W.setCell ⟨C, j, none⟩ (.int .i64 κ)).heap.size, 0, none⟩))) L E A C G M k K s σ y (upd θ j (.at (W.setCell ⟨C, j, none⟩ (.int .i64 κ)).heap.size κ .see)) (upd cl j κ) g := by
  have t1 := h.tr.setLow p.c0 p.ec p.ac p.cl p.cm j (.int .i64 κ)
  have t2 := t1.start (j := j) p.ta (by rw [Go.Deep.nblk_setCell]; exact h.sz) hκ
  refine ⟨t2, ?_, ?_, fun i hi hx b κ' τ e => ?_, h.gv, ?_⟩
  · refine (((h.cr.set j _).alloc _).setOther (fun e => p.ac (by simpa using e.symm)) _).congr fun i _ => ?_
    by_cases e : i = j
    · subst e; rw [upd_same]; simp
    · rw [upd_other _ _ _ _ e, if_neg e]
  · exact (((h.gr.setOther (fun e => p.cg (by simpa using e.symm)) _).alloc _).setOther (fun e => p.ag (by simpa using e.symm)) _)
  · by_cases ei : i = j
    · subst ei
      rw [upd_same] at e
      cases e
      exact ⟨rfl, upd_same _ _ _⟩
    · rw [upd_other _ _ _ _ ei] at e
      obtain ⟨h1, h2⟩ := h.on i hi hx b κ' τ e
      exact ⟨h1, by rw [upd_other _ _ _ _ ei]; exact h2⟩
  · rw [Go.Deep.nblk_setCell, Go.Deep.nblk_alloc, Go.Deep.nblk_setCell]
    have := h.sz
    omega

/-- a step of the picked one -/
theorem Share.step {j b κ : Nat} {τ : Pl} (h : Share 3 w0 W L E A C G M k K s σ y θ cl g) (p : ShareApart w0 L E A C G M k) (hj : j < 3) (hθ : θ j = .at b κ τ) (hσ : σ < 1000000) (y' : Y) (τ' : Pl) (ht : turn k 20 κ (base 4 1 k 20) y τ = (y', τ')) (d : Bool) (hd : τ'.over = d) :
    Calls Try.prog 18 #[.pointer (some ⟨b, 0, none⟩), .agg #[.int .i64 4, .int .i64 1, .int .i64 k, .int .i64 20, .int .i64 100, .int .i64 600, .int .i64 3, .pointer (some ⟨L.p, 0, none⟩), .int .i64 0]] W fun e w' => e = .returned (.bool d) ∧ ∃ s', Share j w0 w' L E A C G M k K s' (σ + 1) y' (upd θ j (.at b κ τ')) cl g := by
  obtain ⟨ho, _⟩ := h.on j hj (by omega) b κ τ hθ
  obtain ⟨⟨cs, _⟩, hgd, _, hM⟩ := h.tr.th j hj b κ τ hθ
  have hbC : C ≠ b := by have := p.cm; omega
  have hbG : G ≠ b := by have := p.gm; omega
  refine (h.tr.step p.ta hj hθ ho hσ y' τ' ht d hd).mono ?_
  rintro e w' ⟨rfl, s', t', o', -⟩
  have hv := h.gv.onward hgd
  rw [ht] at hv
  refine ⟨rfl, s', t', h.cr.of_block (o'.block _ h.cr.lt (fun hh => hh.elim p.cl hbC)), h.gr.of_block (o'.block _ h.gr.lt (fun hh => hh.elim p.gl hbG)), fun i hi hx b' κ' τ'' e => ?_, hv, Nat.le_trans h.sz o'.size⟩
  rw [upd_other _ _ _ _ hx] at e
  exact h.on i hi (by omega) b' κ' τ'' e

/-- it is not done -/
theorem Share.again {j b κ : Nat} {τ : Pl} (h : Share j w0 W L E A C G M k K s σ y θ cl g) (hθ : θ j = .at b κ τ) (ho : τ.over = false) (hc : cl j = κ) : Share 3 w0 W L E A C G M k K s σ y θ cl g :=
  ⟨h.tr, h.cr, h.gr, fun i hi _ b' κ' τ' e => by
    by_cases ei : i = j
    · subst ei
      rw [hθ] at e
      cases e
      exact ⟨ho, hc⟩
    · exact h.on i hi ei b' κ' τ' e, h.gv, h.sz⟩

/-- it is done, and nobody any more -/
theorem Share.drop {j : Nat} (h : Share j w0 W L E A C G M k K s σ y θ cl g) (p : ShareApart w0 L E A C G M k) : Share 3 w0 (W.setCell ⟨A, j, none⟩ (.pointer none)) L E A C G M k K s σ y (upd θ j .nil) cl g := by
  refine ⟨h.tr.drop p.ta, h.cr.setOther (fun e => p.ac (by simpa using e.symm)) _, h.gr.setOther (fun e => p.ag (by simpa using e.symm)) _, fun i hi _ b κ τ e => ?_, h.gv, by rw [Go.Deep.nblk_setCell]; exact h.sz⟩
  by_cases ei : i = j
  · subst ei; rw [upd_same] at e; cases e
  · rw [upd_other _ _ _ _ ei] at e
    exact h.on i hi ei b κ τ e

/-- a cell of a block that is none of theirs is written -/
theorem Share.setNew (h : Share x w0 W L E A C G M k K s σ y θ cl g) (p : ShareApart w0 L E A C G M k) {b : Nat} (hb : M ≤ b) (hT : ∀ j, j < 3 → ∀ b' κ τ, θ j = .at b' κ τ → b' ≠ b) (i : Nat) (v : Value) : Share x w0 (W.setCell ⟨b, i, none⟩ v) L E A C G M k K s σ y θ cl g := by
  have h1 := p.ta.em
  have h2 := p.ta.am
  have h3 := p.cm
  have h4 := p.gm
  have h5 := p.ta.m0
  exact ⟨h.tr.setIn (by omega) (by omega) (by omega) (fun hh => by have := p.ta.lm _ hh; omega) hT i v, h.cr.setOther (fun e => by have : C = b := e; omega) _, h.gr.setOther (fun e => by have : G = b := e; omega) _, h.on, h.gv, by rw [Go.Deep.nblk_setCell]; exact h.sz⟩

theorem Given.mono {g' : Nat → Bool} (h : Given k y g) (hg : ∀ a, g' a = true → g a = true) : Given k y g' := ⟨h.us, fun a ha => h.ins a (hg a ha)⟩

/-- the words behind a, so many of them -/
def marked (g : Nat → Bool) (a q : Nat) : Nat → Bool := fun x => g x || decide (a ≤ x ∧ x < a + q)

theorem marked0 (g : Nat → Bool) (a : Nat) : marked g a 0 = g := by
  funext x
  have : decide (a ≤ x ∧ x < a + 0) = false := decide_eq_false (by omega)
  unfold marked
  rw [this, Bool.or_false]

/-- one more word is given out -/
theorem Share.mark {a q : Nat} (h : Share 3 w0 W L E A C G M k K s σ y θ cl (marked g a q)) (p : ShareApart w0 L E A C G M k) (hv : Given k y (marked g a (q + 1))) : Share 3 w0 (W.setCell ⟨G, a + q, none⟩ (.bool true)) L E A C G M k K s σ y θ cl (marked g a (q + 1)) := by
  refine ⟨h.tr.setLow p.g0 p.eg p.ag p.gl p.gm _ _, h.cr.setOther p.cg _, (h.gr.set (a + q) _).congr fun i _ => ?_, h.on, hv, by rw [Go.Deep.nblk_setCell]; exact h.sz⟩
  by_cases e : i = a + q
  · subst e
    have : decide (a ≤ a + q ∧ a + q < a + (q + 1)) = true := decide_eq_true (by omega)
    simp only [marked]
    rw [this, Bool.or_true]
    simp
  · rw [if_neg e]
    have : decide (a ≤ i ∧ i < a + q) = decide (a ≤ i ∧ i < a + (q + 1)) := by
      by_cases h1 : a ≤ i ∧ i < a + q
      · rw [decide_eq_true h1, decide_eq_true (by omega)]
      · rw [decide_eq_false h1, decide_eq_false (by omega)]
    simp only [marked]
    rw [this]
end

end Go.Proofs.Ytbhjokfgajjoiaa
