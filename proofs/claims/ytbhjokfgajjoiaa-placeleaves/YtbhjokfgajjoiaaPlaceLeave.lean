/- Three who want words of one class, picked as the statement picks them: how near each is to its end, round by round. -/
import Derived.Test.YtbhjokfgajjoiaaPlaceFairStep
namespace Go.Proofs.Ytbhjokfgajjoiaa
open Go.RowKit

/-- behind r rounds: who is not done has so few steps left that its turn comes often enough -/
def Near (r : Nat) (τ : Nat → Pl) (P : Nat → Nat) : Prop := ∀ X, X < 3 → (τ X).over = true ∨ (P X ≤ 63 ∧ (100 ≤ r → 3 * P X + r ≤ 292 + (r + 2 - X) % 3))

theorem near0 (τ : Nat → Pl) : Near 0 τ (fun _ => 63) := fun _ _ => .inr ⟨Nat.le_refl _, fun h => by omega⟩

theorem Near.skip {r n : Nat} {τ : Nat → Pl} {P : Nat → Nat} (h : Near r τ P) (hn : (τ n).over = true) (hp : 100 ≤ r → n = r % 3) : Near (r + 1) τ P := fun X hX => by
  by_cases e : X = n
  · subst e; exact .inl hn
  · rcases h X hX with h1 | ⟨h1, h2⟩
    · exact .inl h1
    · refine .inr ⟨h1, fun hr => ?_⟩
      by_cases h100 : 100 ≤ r
      · have h3 := h2 h100
        have h4 := hp h100
        omega
      · omega

theorem Near.step {r n : Nat} {τ : Nat → Pl} {P : Nat → Nat} (h : Near r τ P) (hn : (τ n).over = false) (hn3 : n < 3) (hP : 1 ≤ P n) (hp : 100 ≤ r → n = r % 3) (τ' : Pl) : Near (r + 1) (upd τ n τ') (upd P n (P n - 1)) := fun X hX => by
  by_cases e : X = n
  · subst e
    rw [upd_same, upd_same]
    rcases h X hX with h1 | ⟨h1, h2⟩
    · rw [hn] at h1; cases h1
    · refine .inr ⟨by omega, fun hr => ?_⟩
      by_cases h100 : 100 ≤ r
      · have h3 := h2 h100
        have h4 := hp h100
        omega
      · omega
  · rw [upd_other _ _ _ _ e, upd_other _ _ _ _ e]
    rcases h X hX with h1 | ⟨h1, h2⟩
    · exact .inl h1
    · refine .inr ⟨h1, fun hr => ?_⟩
      by_cases h100 : 100 ≤ r
      · have h3 := h2 h100
        have h4 := hp h100
        omega
      · omega

theorem Near.ends {τ : Nat → Pl} {P : Nat → Nat} (h : Near 300 τ P) (X : Nat) (hX : X < 3) : (τ X).over = true := by
  rcases h X hX with h1 | ⟨_, h2⟩
  · exact h1
  · have := h2 (by omega); omega

/-- the three, as they lie -/
def trioOf (β : Nat → Nat) (κ : Nat) (τ : Nat → Pl) : Nat → Who := fun j => .at (β j) κ (τ j)

theorem trioOf_upd (β : Nat → Nat) (κ : Nat) (τ : Nat → Pl) (n : Nat) (τ' : Pl) : upd (trioOf β κ τ) n (.at (β n) κ τ') = trioOf β κ (upd τ n τ') := by
  funext j
  by_cases e : j = n
  · subst e; simp [trioOf, upd_same]
  · simp [trioOf, upd_other _ _ _ _ e]

/-- all that is true at a round -/
structure Leave (w0 W : World) (L : Loc) (E A D M κ r : Nat) (s : Mm) (σ : Nat) (y : Y) (β : Nat → Nat) (τ : Nat → Pl) : Prop where
  tr : Trio w0 W L E A M 4 1 6 20 s σ y (trioOf β κ τ)
  dr : W.rowIs D 53 3 (fun j => .bool (τ j).over)
  fa : ∃ o sq g W' s' t P, Fair κ y τ o sq g W' s' t P ∧ Near r τ P

structure LeaveApart (w0 : World) (L : Loc) (E A D M : Nat) : Prop where
  ta : TrioApart w0 L E A M 4 1 6 20
  dl : ¬ L.has D
  ed : E ≠ D
  ad : A ≠ D
  d0 : w0.heap.size ≤ D
  dm : D < M

/-- what may be written while one does a step, and its end is noted -/
def stepSet (L : Loc) (b D : Nat) : Nat → Prop := fun x => (L.and b) x ∨ x = D

section
variable {w0 W W' : World} {L : Loc} {E A D M κ r σ n : Nat} {s : Mm} {y : Y} {β : Nat → Nat} {τ : Nat → Pl}

theorem Leave.grown (h : Leave w0 W L E A D M κ r s σ y β τ) (b : Below W.heap.size W W') : Leave w0 W' L E A D M κ r s σ y β τ :=
  ⟨h.tr.grown b, h.dr.of_block (b.block _ h.dr.lt), h.fa⟩

/-- it was done already -/
theorem Leave.skip (h : Leave w0 W L E A D M κ r s σ y β τ) (hn : (τ n).over = true) (hp : 100 ≤ r → n = r % 3) : Leave w0 W L E A D M κ (r + 1) s σ y β τ := by
  obtain ⟨o, sq, g, W', s', t, P, f, nr⟩ := h.fa
  exact ⟨h.tr, h.dr, o, sq, g, W', s', t, P, f, nr.skip hn hp⟩

/-- while a step is done, and noted -/
def phLeave (w0 : World) (L : Loc) (E A D M κ n : Nat) (s : Mm) (σ : Nat) (y y' : Y) (β : Nat → Nat) (τ : Nat → Pl) (τ' : Pl) : Nat → World → Prop
  | 0, W => Trio w0 W L E A M 4 1 6 20 s σ y (trioOf β κ τ) ∧ W.rowIs D 53 3 (fun j => .bool (τ j).over)
  | 1, W => (∃ s', Trio w0 W L E A M 4 1 6 20 s' (σ + 1) y' (trioOf β κ (upd τ n τ'))) ∧ W.rowIs D 53 3 (fun j => .bool (τ j).over)
  | _, W => (∃ s', Trio w0 W L E A M 4 1 6 20 s' (σ + 1) y' (trioOf β κ (upd τ n τ'))) ∧ W.rowIs D 53 3 (fun j => .bool (upd τ n τ' j).over)

theorem phLeave_grown {y' : Y} {τ' : Pl} (x z : World) (p : Nat) (g : Grown x z) (k : phLeave w0 L E A D M κ n s σ y y' β τ τ' p x) : phLeave w0 L E A D M κ n s σ y y' β τ τ' p z := by
  match p, k with
  | 0, k => exact ⟨k.1.grown g, k.2.of_block (g.block _ k.2.lt)⟩
  | 1, ⟨⟨s', k1⟩, k2⟩ => exact ⟨⟨s', k1.grown g⟩, k2.of_block (g.block _ k2.lt)⟩
  | p + 2, ⟨⟨s', k1⟩, k2⟩ => exact ⟨⟨s', k1.grown g⟩, k2.of_block (g.block _ k2.lt)⟩

/-- behind a step -/
theorem Leave.next {y' : Y} {τ' : Pl} {bs : Nat → Nat} (h : ∃ o sq g W' s' t P, Fair κ y τ o sq g W' s' t P ∧ Near r τ P) (hn3 : n < 3) (ho : (τ n).over = false) (hp : 100 ≤ r → n = r % 3) (ht : turn 6 20 κ bs y (τ n) = (y', τ')) (k : phLeave w0 L E A D M κ n s σ y y' β τ τ' 2 W) : ∃ s', Leave w0 W L E A D M κ (r + 1) s' (σ + 1) y' β (upd τ n τ') := by
  obtain ⟨o, sq, g, W', s', t, P, f, nr⟩ := h
  obtain ⟨hP, o2, sq2, g2, W2, s2, t2, f2⟩ := f.step (bs := bs) hn3 ho
  rw [ht] at f2
  obtain ⟨⟨s3, k1⟩, k2⟩ : (∃ s', Trio w0 W L E A M 4 1 6 20 s' (σ + 1) y' (trioOf β κ (upd τ n τ'))) ∧ W.rowIs D 53 3 (fun j => .bool (upd τ n τ' j).over) := k
  exact ⟨s3, k1, k2, o2, sq2, g2, W2, s2, t2, _, f2, nr.step ho hn3 hP hp τ'⟩
end

/-- a sum of the first ones -/
def sumTo (f : Nat → Nat) : Nat → Nat
  | 0 => 0
  | q + 1 => sumTo f q + f q

theorem sumTo6 (f : Nat → Nat) : sumTo f 6 = sum6 f := by simp [sumTo, sum6]

end Go.Proofs.Ytbhjokfgajjoiaa
