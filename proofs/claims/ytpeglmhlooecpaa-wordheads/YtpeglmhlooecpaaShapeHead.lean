/- What an argument of type api.Head looks like: four numbers that fit, and yes or no. -/
import Derived.Test.YtpeglmhlooecpaaShapes
namespace Go.Proofs.Ytpeglmhlooecpaa
open Go.ChangeShapes Go.WideShapes Go.ChangeAt Go.RowKit
theorem Try.cells43 : Try.prog.cellsOf 43 = 5 := by kernel_rfl
theorem shape_Head {H : Type} {enc : TypeId × Value → H} {W : World} {base : Nat} {v : Value} {d : DataW H} {p : List MemPlace} (hv : Value.okWide Try.prog W .any base 43 v) (h : DataW.Trod enc Try.prog W 0 (fun _ => true) true 43 v d p) :
    ∃ a b c d e, v = .agg #[.int .i64 a, .int .i64 b, .int .i64 c, .int .i64 d, .bool e] ∧ Fit a ∧ Fit b ∧ Fit c ∧ Fit d := by
  obtain ⟨cs, rfl, hsz⟩ := okWide_struct Try.underlying43 hv
  obtain ⟨c0, c1, c2, c3, c4, rfl⟩ := array5 (hsz.trans Try.cells43)
  obtain ⟨fuel, hf⟩ := h
  obtain ⟨xs, n, _, _, _, hlen, hff⟩ := DataW.trod_struct Try.underlying43 hf
  obtain ⟨a, rfl, fa⟩ := field_int 0 0 _ hff hlen rfl rfl rfl c0 rfl
  obtain ⟨b, rfl, fb⟩ := field_int 1 1 _ hff hlen rfl rfl rfl c1 rfl
  obtain ⟨c, rfl, fc⟩ := field_int 2 2 _ hff hlen rfl rfl rfl c2 rfl
  obtain ⟨d, rfl, fd⟩ := field_int 3 3 _ hff hlen rfl rfl rfl c3 rfl
  obtain ⟨e, rfl⟩ := field_bool 4 4 _ hff hlen rfl rfl rfl c4 rfl
  exact ⟨a, b, c, d, e, rfl, fa, fb, fc, fd⟩
end Go.Proofs.Ytpeglmhlooecpaa
