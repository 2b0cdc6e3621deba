/- What an argument of type api.Slot looks like: four numbers that fit. -/
import Derived.Test.YtpeglmhlooecpabShapes
namespace Go.Proofs.Ytpeglmhlooecpab
open Go.ChangeShapes Go.WideShapes Go.ChangeAt Go.RowKit
theorem Try.cells23 : Try.prog.cellsOf 23 = 4 := by kernel_rfl
theorem shape_Slot {H : Type} {enc : TypeId × Value → H} {W : World} {base : Nat} {v : Value} {d : DataW H} {p : List MemPlace} (hv : Value.okWide Try.prog W .any base 23 v) (h : DataW.Trod enc Try.prog W 0 (fun _ => true) true 23 v d p) :
    ∃ a b c d, v = .agg #[.int .i64 a, .int .i64 b, .int .i64 c, .int .i64 d] ∧ Fit a ∧ Fit b ∧ Fit c ∧ Fit d := by
  obtain ⟨cs, rfl, hsz⟩ := okWide_struct Try.underlying23 hv
  obtain ⟨c0, c1, c2, c3, rfl⟩ := array4 (hsz.trans Try.cells23)
  obtain ⟨fuel, hf⟩ := h
  obtain ⟨xs, n, _, _, _, hlen, hff⟩ := DataW.trod_struct Try.underlying23 hf
  obtain ⟨a, rfl, fa⟩ := field_int 0 0 _ hff hlen rfl rfl rfl c0 rfl
  obtain ⟨b, rfl, fb⟩ := field_int 1 1 _ hff hlen rfl rfl rfl c1 rfl
  obtain ⟨c, rfl, fc⟩ := field_int 2 2 _ hff hlen rfl rfl rfl c2 rfl
  obtain ⟨d, rfl, fd⟩ := field_int 3 3 _ hff hlen rfl rfl rfl c3 rfl
  exact ⟨a, b, c, d, rfl, fa, fb, fc, fd⟩
end Go.Proofs.Ytpeglmhlooecpab
