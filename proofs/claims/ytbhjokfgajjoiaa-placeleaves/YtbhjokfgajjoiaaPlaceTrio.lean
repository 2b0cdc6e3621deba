/- Three who want words, whoever is picked: where they lie, and what each step leaves. -/
import Derived.Test.YtbhjokfgajjoiaaPlaceRows
namespace Go.Proofs.Ytbhjokfgajjoiaa
open Go.RowKit

/-- one of three: nobody, or one who wants words of a class -/
inductive Who where
  | nil
  | at (b κ : Nat) (τ : Pl)

/-- what stands in the array -/
def Who.v : Who → Value
  | .nil => .pointer none
  | .at b _ _ => .pointer (some ⟨b, 0, none⟩)

/-- the three lie behind M; their arena, and the array A -/
structure Trio (w0 W : World) (L : Loc) (E A M t n k m : Nat) (s : Mm) (σ : Nat) (y : Y) (θ : Nat → Who) : Prop where
  f : Plot w0 W L E t n k m s σ y
  a : W.rowIs A 45 3 (fun j => (θ j).v)
  th : ∀ j, j < 3 → ∀ b κ τ, θ j = .at b κ τ → (∃ cs, PlAt W b 0 71 cs κ τ) ∧ τ.good k m κ σ ∧ κ < 4 ∧ M ≤ b
  dif : ∀ i j, i < 3 → j < 3 → i ≠ j → ∀ b κ τ b' κ' τ', θ i = .at b κ τ → θ j = .at b' κ' τ' → b ≠ b'

structure TrioApart (w0 : World) (L : Loc) (E A M t n k m : Nat) : Prop where
  pa : PlotApart w0 L E t n k m
  al : ¬ L.has A
  ea : E ≠ A
  a0 : w0.heap.size ≤ A
  lm : ∀ k, L.has k → k < M
  em : E < M
  am : A < M
  m0 : w0.heap.size ≤ M

section
variable {w0 W W' : World} {L : Loc} {E A M t n k m σ : Nat} {s : Mm} {y : Y} {θ : Nat → Who}

theorem Trio.grown (h : Trio w0 W L E A M t n k m s σ y θ) (g : Below W.heap.size W W') : Trio w0 W' L E A M t n k m s σ y θ :=
  ⟨h.f.grown g, h.a.of_block (g.block _ h.a.lt), fun j hj b κ τ e => by
    obtain ⟨⟨cs, h1⟩, h2⟩ := h.th j hj b κ τ e
    exact ⟨⟨cs, h1.grown g⟩, h2⟩, h.dif⟩

/-- a cell of a block is written that is none of theirs -/
theorem Trio.setIn (h : Trio w0 W L E A M t n k m s σ y θ) {b : Nat} (hb : w0.heap.size ≤ b) (hE : E ≠ b) (hA : A ≠ b) (hL : ¬ L.has b) (hT : ∀ j, j < 3 → ∀ b' κ τ, θ j = .at b' κ τ → b' ≠ b) (i : Nat) (v : Value) : Trio w0 (W.setCell ⟨b, i, none⟩ v) L E A M t n k m s σ y θ :=
  ⟨h.f.setIn hb hE hL i v, h.a.setOther hA _, fun j hj b' κ τ e => by
    obtain ⟨⟨cs, h1⟩, h2⟩ := h.th j hj b' κ τ e
    have := hT j hj b' κ τ e
    exact ⟨⟨cs, h1.of_block (Go.Deep.blk_setCell_other _ _ _ _ (by simpa using this))⟩, h2⟩, h.dif⟩

/-- a cell of a block ahead of M is written -/
theorem Trio.setLow (h : Trio w0 W L E A M t n k m s σ y θ) {b : Nat} (hb : w0.heap.size ≤ b) (hE : E ≠ b) (hA : A ≠ b) (hL : ¬ L.has b) (hM : b < M) (i : Nat) (v : Value) : Trio w0 (W.setCell ⟨b, i, none⟩ v) L E A M t n k m s σ y θ :=
  h.setIn hb hE hA hL (fun j hj b' κ τ e => by have := (h.th j hj b' κ τ e).2.2.2; omega) i v

/-- the picked one is nobody any more -/
theorem Trio.drop (h : Trio w0 W L E A M t n k m s σ y θ) (p : TrioApart w0 L E A M t n k m) {j : Nat} : Trio w0 (W.setCell ⟨A, j, none⟩ (.pointer none)) L E A M t n k m s σ y (upd θ j .nil) := by
  refine ⟨h.f.setIn p.a0 p.ea p.al _ _, (h.a.set j _).congr fun i _ => ?_, fun i hi b κ τ e => ?_, fun i i' hi hi' hne b κ τ b' κ' τ' e e' => ?_⟩
  · by_cases ei : i = j
    · subst ei; rw [upd_same]; simp [Who.v]
    · rw [upd_other _ _ _ _ ei, if_neg ei]
  · by_cases ei : i = j
    · subst ei; rw [upd_same] at e; cases e
    · rw [upd_other _ _ _ _ ei] at e
      obtain ⟨⟨cs, h1⟩, h2⟩ := h.th i hi b κ τ e
      have hb : b ≠ A := by have := h2.2.2; have := p.am; omega
      exact ⟨⟨cs, h1.of_block (Go.Deep.blk_setCell_other _ _ _ _ (by simpa using hb))⟩, h2⟩
  · by_cases ei : i = j
    · subst ei; rw [upd_same] at e; cases e
    · by_cases ei' : i' = j
      · subst ei'; rw [upd_same] at e'; cases e'
      · rw [upd_other _ _ _ _ ei] at e; rw [upd_other _ _ _ _ ei'] at e'
        exact h.dif i i' hi hi' hne b κ τ b' κ' τ' e e'

/-- one begins -/
theorem Trio.start (h : Trio w0 W L E A M t n k m s σ y θ) (p : TrioApart w0 L E A M t n k m) (hM : M ≤ W.heap.size) {j : Nat} {κ : Nat} (hκ : κ < 4) : Trio w0 ((W.alloc (place0 κ)).setCell ⟨A, j, none⟩ (.pointer (some ⟨W.heap.size, 0, none⟩))) L E A M t n k m s σ y (upd θ j (.at W.heap.size κ .see)) := by
  have hne : W.heap.size ≠ A := by have := p.am; omega
  refine ⟨(h.f.alloc _).setIn p.a0 p.ea p.al _ _, ((h.a.alloc _).set j _).congr fun i _ => ?_, fun i hi b κ' τ e => ?_, fun i i' hi hi' hni b κ1 τ b' κ' τ' e e' => ?_⟩
  · by_cases ei : i = j
    · subst ei; rw [upd_same]; simp [Who.v]
    · rw [upd_other _ _ _ _ ei, if_neg ei]
  · by_cases ei : i = j
    · subst ei
      rw [upd_same] at e
      cases e
      exact ⟨⟨_, (place0_at κ W).of_block (Go.Deep.blk_setCell_other _ _ _ _ (by simpa using hne))⟩, trivial, hκ, hM⟩
    · rw [upd_other _ _ _ _ ei] at e
      obtain ⟨⟨cs, h1⟩, h2⟩ := h.th i hi b κ' τ e
      have hb : b ≠ A := by have := h2.2.2; have := p.am; omega
      exact ⟨⟨cs, (h1.grown (grow_alloc (Below.refl _ _) _)).of_block (Go.Deep.blk_setCell_other _ _ _ _ (by simpa using hb))⟩, h2⟩
  · have old : ∀ i, i < 3 → ∀ b κ τ, θ i = .at b κ τ → b < W.heap.size := fun i hi b κ τ e => by
      obtain ⟨⟨cs, h1⟩, _⟩ := h.th i hi b κ τ e
      exact h1.lt
    by_cases ei : i = j
    · subst ei
      rw [upd_same] at e
      rw [upd_other _ _ _ _ (Ne.symm hni)] at e'
      cases e
      have := old i' hi' b' κ' τ' e'
      omega
    · rw [upd_other _ _ _ _ ei] at e
      by_cases ei' : i' = j
      · subst ei'
        rw [upd_same] at e'
        cases e'
        have := old i hi b κ1 τ e
        omega
      · rw [upd_other _ _ _ _ ei'] at e'
        exact h.dif i i' hi hi' hni b κ1 τ b' κ' τ' e e'

/-- a step of the picked one -/
theorem Trio.step {j b κ : Nat} {τ : Pl} (h : Trio w0 W L E A M t n k m s σ y θ) (p : TrioApart w0 L E A M t n k m) (hj : j < 3) (hθ : θ j = .at b κ τ) (ho : τ.over = false) (hσ : σ < 1000000) (y' : Y) (τ' : Pl) (ht : turn k m κ (base t n k m) y τ = (y', τ')) (d : Bool) (hd : τ'.over = d) :
    Calls Try.prog 18 #[.pointer (some ⟨b, 0, none⟩), .agg #[.int .i64 t, .int .i64 n, .int .i64 k, .int .i64 m, .int .i64 100, .int .i64 600, .int .i64 3, .pointer (some ⟨L.p, 0, none⟩), .int .i64 0]] W fun e w' => e = .returned (.bool d) ∧ ∃ s', Trio w0 w' L E A M t n k m s' (σ + 1) y' (upd θ j (.at b κ τ')) ∧ Only (L.and b) W w' ∧ Kept t n k s s' := by
  obtain ⟨⟨cs, hi⟩, hg, hκ, hM⟩ := h.th j hj b κ τ hθ
  have hbE : E ≠ b := by have := p.em; omega
  have hbL : ¬ L.has b := fun hh => by have := p.lm _ hh; omega
  refine (h.f.step p.pa hbL hbE (by have := p.m0; omega) hσ hκ hi hg ho y' τ' ht d hd).mono ?_
  rintro e w' ⟨rfl, s', cs', f', i', g', o', k', -⟩
  have hbA : b ≠ A := by have := p.am; omega
  refine ⟨rfl, s', ⟨f', (h.a.of_block (o'.block _ h.a.lt (fun hh => hh.elim p.al (fun e => hbA e.symm)))).congr fun i _ => ?_, fun i hi' b' κ' τ'' e => ?_, fun i i' hi1 hi2 hni b1 κ1 τ1 b2 κ2 τ2 e e' => ?_⟩, o', k'⟩
  · by_cases ei : i = j
    · subst ei; rw [upd_same, hθ]; rfl
    · rw [upd_other _ _ _ _ ei]
  · by_cases ei : i = j
    · subst ei
      rw [upd_same] at e
      cases e
      exact ⟨⟨cs', i'⟩, g', hκ, hM⟩
    · rw [upd_other _ _ _ _ ei] at e
      obtain ⟨⟨cs2, h1⟩, h2, h3, h4⟩ := h.th i hi' b' κ' τ'' e
      have hne := h.dif i j hi' hj ei b' κ' τ'' b κ τ e hθ
      have hbL' : ¬ L.has b' := fun hh => by have := p.lm _ hh; omega
      exact ⟨⟨cs2, h1.only o' (fun hh => hh.elim hbL' hne)⟩, h2.up (by omega), h3, h4⟩
  · by_cases ei : i = j
    · subst ei
      rw [upd_same] at e
      rw [upd_other _ _ _ _ (Ne.symm hni)] at e'
      cases e
      exact h.dif i i' hi1 hi2 hni _ _ _ _ _ _ hθ e'
    · rw [upd_other _ _ _ _ ei] at e
      by_cases ei' : i' = j
      · subst ei'
        rw [upd_same] at e'
        cases e'
        exact h.dif i i' hi1 hi2 hni _ _ _ _ _ _ e hθ
      · rw [upd_other _ _ _ _ ei'] at e'
        exact h.dif i i' hi1 hi2 hni _ _ _ _ _ _ e e'
end

theorem rroom_v (κ : Nat) (h : κ < 4) (w : World) : Calls Try.prog 10 #[.int .i64 κ] w fun e w' => e = .returned (.int .i64 (room κ)) ∧ Below w.heap.size w w' := by
  have k := rroom_any (κ : Int) w (by omega) (by omega)
  have e : 2 * 2 ^ ((κ : Int)).toNat + 1 = ((room κ : Nat) : Int) := by
    match κ, h with
    | 0, _ => rfl
    | 1, _ => rfl
    | 2, _ => rfl
    | 3, _ => rfl
  rwa [e] at k

theorem rem3 (k : Nat) : ∃ K : Nat, (k : Int).tmod 3 = (K : Int) ∧ K < 3 ∧ K = k % 3 :=
  ⟨k % 3, by rw [Int.tmod_eq_emod_of_nonneg (by omega)]; omega, by omega, rfl⟩

theorem pick3 (x : Int) : ∃ K : Nat, (x.tmod 3 + 3).tmod 3 = (K : Int) ∧ (x.tmod 3 + 3) % 3 = (K : Int) ∧ K < 3 ∧ -3 < x.tmod 3 ∧ x.tmod 3 < 3 := by
  have h1 : -3 < x.tmod 3 := Int.lt_tmod_of_pos x (by decide)
  have h3 : x.tmod 3 < 3 := Int.tmod_lt_of_pos x (by decide)
  have h4 := Int.emod_nonneg (x.tmod 3 + 3) (b := 3) (by omega)
  have h5 := Int.emod_lt_of_pos (x.tmod 3 + 3) (b := 3) (by omega)
  exact ⟨((x.tmod 3 + 3) % 3).toNat, by rw [Int.tmod_eq_emod_of_nonneg (by omega)]; omega, by omega, by omega, h1, h3⟩

end Go.Proofs.Ytbhjokfgajjoiaa
