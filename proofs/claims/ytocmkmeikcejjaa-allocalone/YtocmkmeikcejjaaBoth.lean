/- Slots and chunks in one memory: a step at a word of neither kind keeps both. -/
import Derived.Test.YtocmkmeikcejjaaSlotPile
import Derived.Test.YtocmkmeikcejjaaPlaceYard
namespace Go.Proofs.Ytocmkmeikcejjaa
open Go.RowKit

/-- a step at a word that is none of the free slots': not the first one's, no link -/
theorem Pile.off {t n : Nat} {s : Mm} {σ c : Nat} {lk : Nat → Nat} {F : List Nat} (h : Pile t n s σ c lk F) (hσ : σ < 1000000) (who : Int) (a : Nat) (v : Int) (h1 : a ≠ 1) (h2 : ∀ i, i < n → a ≠ 6 + t + i * 2 + 1) : Pile t n ((s.by who).step a v) (σ + 1) c lk F := by
  refine ⟨h.len, h.big, ?_, by have := h.cs; omega, ?_, fun i hi => ?_, h.lkle, h.chain, h.nd, h.lt⟩
  · show wrap64 (s.steps + 1) = _
    rw [h.st, h.wrapS hσ]
  · show upd s.wd a v 1 = _
    rw [upd_other _ _ _ _ (Ne.symm h1)]; exact h.top
  · show upd s.wd a v _ = _
    rw [upd_other _ _ _ _ (Ne.symm (h2 i hi))]; exact h.lkv i hi

/-- a step at a word that is no open chunk's place and no chunk's word -/
theorem Yard.off {t n k m : Nat} {s : Mm} {σ : Nat} {y : Y} (h : Yard t n k m s σ y) (hσ : σ < 1000000) (who : Int) (a : Nat) (v : Int) (h1 : ¬ (2 ≤ a ∧ a < 6)) (h2 : ∀ i, i < k → a ≠ 6 + t + n * 2 + i * 3) : Yard t n k m ((s.by who).step a v) (σ + 1) y := by
  refine ⟨h.len, ?_, fun i hi => ?_, fun c hc => ?_, fun i hi => (h.ok i hi).up (by omega), h.opk⟩
  · show wrap64 (s.steps + 1) = _
    rw [h.st, h.wrapS hσ]
  · show upd s.wd a v _ = _
    rw [upd_other _ _ _ _ (Ne.symm (h2 i hi))]; exact h.ckv i hi
  · show upd s.wd a v _ = _
    rw [upd_other _ _ _ _ (by omega)]; exact h.opv c hc

/-- where one who wants words does a step there is no slot -/
theorem Pl.at_off {t n k m κ σ : Nat} {τ : Pl} (hκ : κ < 4) (h : τ.good k m κ σ) : τ.at t n κ ≠ 1 ∧ ∀ i, i < n → τ.at t n κ ≠ 6 + t + i * 2 + 1 := by
  have hop : 2 + κ ≠ 1 ∧ ∀ i, i < n → 2 + κ ≠ 6 + t + i * 2 + 1 := ⟨by omega, fun i hi => by omega⟩
  have hch : ∀ j, 6 + t + n * 2 + j * 3 ≠ 1 ∧ ∀ i, i < n → 6 + t + n * 2 + j * 3 ≠ 6 + t + i * 2 + 1 := fun j => ⟨by omega, fun i hi => by omega⟩
  cases τ with
  | see => exact hop
  | ask i => exact hch i
  | grow i c => exact hch i
  | look sn i => exact hch i
  | take sn i c => exact hch i
  | opn sn i c => exact hop
  | fre sn i c => exact hch i
  | won a i => exact hop
  | none => exact hop

end Go.Proofs.Ytocmkmeikcejjaa
