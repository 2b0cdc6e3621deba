/- What an argument that is a slice of words looks like. -/
import Derived.Test.YtameeiabnkblmaaShapes
import Derived.Test.YtameeiabnkblmaaArgs
namespace Go.Proofs.Ytameeiabnkblmaa
open Go.ChangeShapes Go.WideShapes Go.ChangeAt Go.RowKit

theorem addr_add {a : Addr} (h : a.spot = none) (i : Nat) : a.add i = ⟨a.block, a.off + i, none⟩ := by
  cases i with
  | zero => obtain ⟨b, o, s⟩ := a; simp at h; subst h; simp [Addr.add]
  | succ n => rw [Addr.add_succ']

theorem Try.cells22 : Try.prog.cellsOf 22 = 1 := by kernel_rfl

theorem shape_u64s {H : Type} {enc : TypeId × Value → H} {W : World} {base : Nat} {v : Value} {d : DataW H} {p : List MemPlace} (hv : Value.okWide Try.prog W .any base 23 v) (h : DataW.Trod enc Try.prog W 0 (fun _ => true) true 23 v d p) :
    ∃ ao n cap z, v = .slice ao n cap ∧ IntsAt .u64 W ao n z ∧ n ≤ 9223372036854775807 ∧ ∀ i, i < n → FitW (z i) := by
  obtain ⟨a0, len, cap, rfl⟩ := okWide_slice Try.underlying23 hv
  obtain ⟨fuel, hf⟩ := h
  rcases open_ints Try.underlying23 Try.underlying22 Try.cells22 hf with ⟨hcs, _⟩ | ⟨a, len', cap', zs, hcs, _, hl, hm, hz, _, hcell, hwz⟩
  · simp [Value.cells] at hcs
    obtain ⟨rfl, rfl, rfl⟩ := hcs
    exact ⟨none, 0, 0, fun _ => 0, rfl, fun i hi => by omega, by omega, fun i hi => by omega⟩
  · simp [Value.cells] at hcs
    obtain ⟨rfl, rfl, rfl⟩ := hcs
    simp only [if_pos] at hz
    refine ⟨some a, len, cap, fun i => zs.getD i 0, rfl, fun i hi => ?_, by unfold maxLen at hm; omega, fun i hi => ?_⟩
    · have hs : a.spot = none := by
        have := hcell 0 (by omega)
        simpa [Addr.add] using World.cell?_spot this
      refine ⟨a.block, a.off, by obtain ⟨b, o, s⟩ := a; simp at hs; subst hs; rfl, ?_⟩
      rw [← addr_add hs]
      exact hcell i (by omega)
    · have hi' : i < zs.length := by omega
      have := hwz (zs.getD i 0) (by rw [List.getD_eq_getElem?_getD, List.getElem?_eq_getElem hi']; simp)
      exact bounds_u64 this
end Go.Proofs.Ytameeiabnkblmaa
