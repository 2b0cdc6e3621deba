/- What an argument of type api.Handle looks like: two numbers that fit. -/
import Derived.Test.YtpeglmhlooecpaaShapes
namespace Go.Proofs.Ytpeglmhlooecpaa
open Go.ChangeShapes Go.WideShapes Go.ChangeAt Go.RowKit
theorem Try.cells23 : Try.prog.cellsOf 23 = 2 := by kernel_rfl
theorem shape_Handle {H : Type} {enc : TypeId × Value → H} {W : World} {base : Nat} {v : Value} {d : DataW H} {p : List MemPlace} (hv : Value.okWide Try.prog W .any base 23 v) (h : DataW.Trod enc Try.prog W 0 (fun _ => true) true 23 v d p) :
    ∃ a b, v = .agg #[.int .i64 a, .int .i64 b] ∧ Fit a ∧ Fit b := by
  obtain ⟨cs, rfl, hsz⟩ := okWide_struct Try.underlying23 hv
  obtain ⟨c0, c1, rfl⟩ := array2 (hsz.trans Try.cells23)
  obtain ⟨fuel, hf⟩ := h
  obtain ⟨xs, n, _, _, _, hlen, hff⟩ := DataW.trod_struct Try.underlying23 hf
  obtain ⟨a, rfl, fa⟩ := field_int 0 0 _ hff hlen rfl rfl rfl c0 rfl
  obtain ⟨b, rfl, fb⟩ := field_int 1 1 _ hff hlen rfl rfl rfl c1 rfl
  exact ⟨a, b, rfl, fa, fb⟩
end Go.Proofs.Ytpeglmhlooecpaa
