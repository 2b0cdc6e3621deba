/- What an argument of type api.Cell looks like: a number that fits, yes or no, and a number that fits. -/
import Derived.Test.YtpeglmhlooecpaaShapes
namespace Go.Proofs.Ytpeglmhlooecpaa
open Go.ChangeShapes Go.WideShapes Go.ChangeAt Go.RowKit
theorem Try.cells48 : Try.prog.cellsOf 48 = 3 := by kernel_rfl
theorem shape_Cell {H : Type} {enc : TypeId × Value → H} {W : World} {base : Nat} {v : Value} {d : DataW H} {p : List MemPlace} (hv : Value.okWide Try.prog W .any base 48 v) (h : DataW.Trod enc Try.prog W 0 (fun _ => true) true 48 v d p) :
    ∃ a b c, v = .agg #[.int .i64 a, .bool b, .int .i64 c] ∧ Fit a ∧ Fit c := by
  obtain ⟨cs, rfl, hsz⟩ := okWide_struct Try.underlying48 hv
  obtain ⟨c0, c1, c2, rfl⟩ := array3 (hsz.trans Try.cells48)
  obtain ⟨fuel, hf⟩ := h
  obtain ⟨xs, n, _, _, _, hlen, hff⟩ := DataW.trod_struct Try.underlying48 hf
  obtain ⟨a, rfl, fa⟩ := field_int 0 0 _ hff hlen rfl rfl rfl c0 rfl
  obtain ⟨b, rfl⟩ := field_bool 1 1 _ hff hlen rfl rfl rfl c1 rfl
  obtain ⟨c, rfl, fc⟩ := field_int 2 2 _ hff hlen rfl rfl rfl c2 rfl
  exact ⟨a, b, c, rfl, fa, fc⟩
end Go.Proofs.Ytpeglmhlooecpaa
