/- Which words were given out: all of them lie in open chunks, in what is used of them; whoever gets words gets new ones. -/
import Derived.Test.YtbhjokfgajjoiaaPlaceTrio
namespace Go.Proofs.Ytbhjokfgajjoiaa
open Go.RowKit

/-- words that were given out, in an arena of k chunks of 20 words -/
structure Given (k : Nat) (y : Y) (g : Nat → Bool) : Prop where
  us : ∀ i, i < k → (y.ck i).us ≤ 20
  ins : ∀ a, g a = true → ∃ c, c < k ∧ (y.ck c).st = 1 ∧ base 4 1 k 20 c ≤ a ∧ a < base 4 1 k 20 c + (y.ck c).us

theorem given0 (k : Nat) : Given k Y.new (fun _ => false) := ⟨fun _ _ => Nat.zero_le _, fun _ h => by cases h⟩

section
variable {k κ σ : Nat} {y : Y} {g : Nat → Bool} {τ : Pl}

/-- a chunk that has no words given out, or that has as many as before, is made another one -/
theorem Given.put (h : Given k y g) (i : Nat) (c : Ck) (hc : c.us ≤ 20) (hk : (y.ck i).st = 1 → 0 < (y.ck i).us → c.st = 1 ∧ (y.ck i).us ≤ c.us) (op : Nat → Nat) : Given k ⟨upd y.ck i c, op⟩ g := by
  refine ⟨fun j hj => ?_, fun a ha => ?_⟩
  · by_cases e : j = i
    · subst e; simp only [upd_same]; exact hc
    · simp only [upd_other _ _ _ _ e]; exact h.us j hj
  · obtain ⟨d, h1, h2, h3, h4⟩ := h.ins a ha
    refine ⟨d, h1, ?_⟩
    by_cases e : d = i
    · subst e
      simp only [upd_same]
      obtain ⟨k1, k2⟩ := hk h2 (by omega)
      exact ⟨k1, h3, by omega⟩
    · simp only [upd_other _ _ _ _ e]; exact ⟨h2, h3, h4⟩

theorem Given.onward (h : Given k y g) (hg : τ.good k 20 κ σ) : Given k (turn k 20 κ (base 4 1 k 20) y τ).1 g := by
  cases τ with
  | see => exact h
  | ask i => exact h
  | grow i c =>
    obtain ⟨hik, hc, h1, h2, h3⟩ := hg
    simp only [turn]
    split
    · rename_i e
      exact h.put i ⟨c.st, c.cl, c.us + room κ, c.sp⟩ h3 (fun _ _ => ⟨h1, by rw [e]; simp⟩) _
    · exact h
  | look sn i => exact h
  | take sn i c =>
    obtain ⟨hik, hsn, hc, h0⟩ := hg
    simp only [turn]
    split
    · rename_i e
      exact h.put i _ (Nat.zero_le _) (fun hs _ => by rw [e, h0] at hs; cases hs) _
    · exact h
  | opn sn i c =>
    simp only [turn]
    split
    · exact ⟨h.us, h.ins⟩
    · exact h
  | fre sn i c =>
    obtain ⟨hik, hsn, hc, h0, h1, h2⟩ := hg
    simp only [turn]
    split
    · rename_i e
      exact h.put i _ (Nat.zero_le _) (fun _ hu => by rw [e, h2] at hu; cases hu) _
    · exact h
  | won a i => exact h
  | none => exact h

/-- whoever gets words gets new ones, of a chunk of the class -/
structure Prize (k κ : Nat) (y y' : Y) (g : Nat → Bool) (a i u sp : Nat) : Prop where
  lt : i < k
  is : a = 12 + k * 3 + i * 20 + u
  fit : u + room κ ≤ 20
  ck : y'.ck i = ⟨1, κ, u + room κ, sp⟩
  new : ∀ x, a ≤ x → x < a + room κ → g x = false
  given : Given k y' (fun x => g x || decide (a ≤ x ∧ x < a + room κ))

theorem Given.won (h : Given k y g) (hg : τ.good k 20 κ σ) (ho : τ.over = false) {y' : Y} {a i : Nat} (ht : turn k 20 κ (base 4 1 k 20) y τ = (y', .won a i)) : ∃ u sp, Prize k κ y y' g a i u sp := by
  cases τ with
  | see =>
    simp only [turn, adv] at ht
    split at ht
    · split at ht <;> cases ht
    · cases ht
  | ask j =>
    simp only [turn, adv] at ht
    split at ht
    · cases ht
    · split at ht <;> cases ht
  | grow j c =>
    obtain ⟨hik, hc, h1, h2, h3⟩ := hg
    have hT := Given.onward (τ := .grow j c) h ⟨hik, hc, h1, h2, h3⟩
    simp only [turn] at ht hT
    split at ht
    · rename_i e
      rw [if_pos e] at hT
      obtain ⟨rfl, rfl, rfl⟩ : _ = y' ∧ base 4 1 k 20 j + c.us = a ∧ j = i := by simpa using ht
      clear ht
      have ha : base 4 1 k 20 j + c.us = 12 + k * 3 + j * 20 + c.us := by unfold base; omega
      refine ⟨c.us, c.sp, hik, ha, h3, by simp only [upd_same]; rw [h1, h2], fun x hx1 hx2 => ?_, ⟨hT.us, fun x hx => ?_⟩⟩
      · cases hgx : g x with
        | false => rfl
        | true =>
          obtain ⟨d, d1, d2, d3, d4⟩ := h.ins x hgx
          have hdu := h.us d d1
          by_cases ed : d = j
          · subst ed; rw [e] at d4; omega
          · exfalso
            unfold base at d3 d4 hx1 hx2
            omega
      · by_cases hgx : g x = true
        · exact hT.ins x hgx
        · have hx' : base 4 1 k 20 j + c.us ≤ x ∧ x < base 4 1 k 20 j + c.us + room κ := by simpa [hgx] using hx
          exact ⟨j, hik, by simp only [upd_same]; exact h1, by omega, by simp only [upd_same]; omega⟩
    · cases ht
  | look sn j =>
    simp only [turn, adv] at ht
    split at ht
    · cases ht
    · split at ht <;> cases ht
  | take sn j c =>
    simp only [turn, adv] at ht
    split at ht
    · cases ht
    · split at ht <;> cases ht
  | opn sn j c =>
    simp only [turn] at ht
    split at ht <;> cases ht
  | fre sn j c =>
    simp only [turn] at ht
    split at ht <;> cases ht
  | won a j => cases ho
  | none => cases ho
end

/-- who has just begun is not done at the first step -/
theorem see_on {k m κ : Nat} {bs : Nat → Nat} {y : Y} (hk : 1 ≤ k) : (turn k m κ bs y .see).2.over = false := by
  simp only [turn, adv]
  split
  · rw [if_pos (by omega)]; rfl
  · rfl

end Go.Proofs.Ytbhjokfgajjoiaa
