/- What an argument that is a slice of ints looks like. -/
import Derived.Test.YtemembcefplgcaaShapes
import Derived.Test.YtemembcefplgcaaArgs
namespace Go.Proofs.Ytemembcefplgcaa
open Go.ChangeShapes Go.WideShapes Go.ChangeAt Go.RowKit

theorem addr_add {a : Addr} (h : a.spot = none) (i : Nat) : a.add i = ⟨a.block, a.off + i, none⟩ := by
  cases i with
  | zero => obtain ⟨b, o, s⟩ := a; simp at h; subst h; simp [Addr.add]
  | succ n => rw [Addr.add_succ']

set_option maxRecDepth 20000 in
theorem shape_ints {H : Type} {enc : TypeId × Value → H} {W : World} {base : Nat} {v : Value} {d : DataW H} {p : List MemPlace} (hv : Value.okWide Try.prog W .any base 22 v) (h : DataW.Trod enc Try.prog W 0 (fun _ => true) true 22 v d p) :
    ∃ ao n cap z, v = .slice ao n cap ∧ IntsAt .i64 W ao n z ∧ n ≤ 9223372036854775807 ∧ ∀ i, i < n → Fit (z i) := by
  obtain ⟨a0, len, cap, rfl⟩ := okWide_slice Try.underlying22 hv
  obtain ⟨fuel, hf⟩ := h
  rcases open_ints Try.underlying22 Try.underlying3 Try.cells3 hf with ⟨hcs, _⟩ | ⟨a, len', cap', zs, hcs, _, hl, hm, hz, _, hcell, hwz⟩
  · simp [Value.cells] at hcs
    obtain ⟨rfl, rfl, rfl⟩ := hcs
    exact ⟨none, 0, 0, fun _ => 0, rfl, fun i hi => by omega, by omega, fun i hi => by omega⟩
  · simp [Value.cells] at hcs
    obtain ⟨rfl, rfl, rfl⟩ := hcs
    simp only [if_pos] at hz
    refine ⟨some a, len, cap, fun i => zs.getD i 0, rfl, fun i hi => ?_, by unfold maxLen at hm; omega, fun i hi => ?_⟩
    · have hs : a.spot = none := by
        have := hcell 0 (by omega)
        simpa [Addr.add] using World.cell?_spot this
      refine ⟨a.block, a.off, by obtain ⟨b, o, s⟩ := a; simp at hs; subst hs; rfl, ?_⟩
      rw [← addr_add hs]
      exact hcell i (by omega)
    · have hi' : i < zs.length := by omega
      have := hwz (zs.getD i 0) (by rw [List.getD_eq_getElem?_getD, List.getElem?_eq_getElem hi']; simp)
      exact bounds_i64 this
end Go.Proofs.Ytemembcefplgcaa
