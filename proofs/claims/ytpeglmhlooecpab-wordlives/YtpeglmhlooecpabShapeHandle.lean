/- What an argument of type api.Handle looks like: two numbers that fit. -/
import Derived.Test.YtpeglmhlooecpabShapes
namespace Go.Proofs.Ytpeglmhlooecpab
open Go.ChangeShapes Go.WideShapes Go.ChangeAt Go.RowKit
theorem Try.cells37 : Try.prog.cellsOf 37 = 2 := by kernel_rfl
theorem shape_Handle {H : Type} {enc : TypeId × Value → H} {W : World} {base : Nat} {v : Value} {d : DataW H} {p : List MemPlace} (hv : Value.okWide Try.prog W .any base 37 v) (h : DataW.Trod enc Try.prog W 0 (fun _ => true) true 37 v d p) :
    ∃ a b, v = .agg #[.int .i64 a, .int .i64 b] ∧ Fit a ∧ Fit b := by
  obtain ⟨cs, rfl, hsz⟩ := okWide_struct Try.underlying37 hv
  obtain ⟨c0, c1, rfl⟩ := array2 (hsz.trans Try.cells37)
  obtain ⟨fuel, hf⟩ := h
  obtain ⟨xs, n, _, _, _, hlen, hff⟩ := DataW.trod_struct Try.underlying37 hf
  obtain ⟨a, rfl, fa⟩ := field_int 0 0 _ hff hlen rfl rfl rfl c0 rfl
  obtain ⟨b, rfl, fb⟩ := field_int 1 1 _ hff hlen rfl rfl rfl c1 rfl
  exact ⟨a, b, rfl, fa, fb⟩
end Go.Proofs.Ytpeglmhlooecpab
