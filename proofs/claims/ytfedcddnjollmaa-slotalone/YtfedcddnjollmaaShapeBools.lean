/- What an argument that is a slice of bools looks like. -/
import Derived.Test.YtfedcddnjollmaaShapeInts
import Derived.Test.YtfedcddnjollmaaBools
import Derived.Deep.Slices
namespace Go.Proofs.Ytfedcddnjollmaa
open Go.ChangeShapes Go.WideShapes Go.ChangeAt Go.RowKit Go.Deep

set_option maxRecDepth 100000 in
theorem shape_bools {H : Type} {enc : TypeId × Value → H} {W : World} {base : Nat} {v : Value} {d : DataW H} {p : List MemPlace} (hv : Value.okWide Try.prog W .any base 22 v) (h : DataW.Trod enc Try.prog W 0 (fun _ => true) true 22 v d p) :
    ∃ ao n cap z, v = .slice ao n cap ∧ BoolsAt W ao n z ∧ n ≤ 9223372036854775807 := by
  obtain ⟨a0, len, cap, rfl⟩ := okWide_slice Try.underlying22 hv
  obtain ⟨fuel, hf⟩ := h
  rcases open_slice Try.underlying22 hf with ⟨hcs, _⟩ | ⟨a, len', cap', m, n, D, Pl, hcs, _, hl, hm, hmm, _, hx⟩
  · simp [Value.cells] at hcs
    obtain ⟨rfl, rfl, rfl⟩ := hcs
    exact ⟨none, 0, 0, fun _ => false, rfl, fun i hi => by omega, by omega⟩
  · simp [Value.cells] at hcs
    obtain ⟨rfl, rfl, rfl⟩ := hcs
    simp only [if_pos] at hmm
    subst hmm
    rw [Try.cells4] at hx
    have each : ∀ i, i < len → ∃ q : Bool, a.spot = none ∧ W.cell? ⟨a.block, a.off + i, none⟩ = some (.bool q) := by
      intro i hi
      have cell : ∀ j, j < len → ∃ q : Bool, W.cell? (a.add j) = some (.bool q) := by
        intro j hj
        obtain ⟨cs', h1, h2⟩ := hx j (by omega)
        obtain ⟨_, hlen, hc⟩ := World.cells?_some h1
        obtain ⟨q, h3, _⟩ := DataW.trod_bool Try.underlying4 h2
        subst h3
        have := hc 0 (by simp)
        simp [Addr.add] at this
        exact ⟨q, by simpa [Addr.add] using this⟩
      obtain ⟨q0, h0⟩ := cell 0 (by omega)
      have hsp : a.spot = none := by simpa [Addr.add] using World.cell?_spot h0
      obtain ⟨q, hq⟩ := cell i hi
      rw [addr_add hsp] at hq
      exact ⟨q, hsp, hq⟩
    obtain ⟨Q, hQ⟩ := choose_lt (n := len) (α := Bool) (p := fun i q => a.spot = none ∧ W.cell? ⟨a.block, a.off + i, none⟩ = some (.bool q)) each
    refine ⟨some a, len, m, Q, rfl, fun i hi => ?_, by unfold maxLen at hm; omega⟩
    obtain ⟨hsp, k0⟩ := hQ i hi
    exact ⟨a.block, a.off, by obtain ⟨b, o, s⟩ := a; simp at hsp; subst hsp; rfl, k0⟩
end Go.Proofs.Ytfedcddnjollmaa
