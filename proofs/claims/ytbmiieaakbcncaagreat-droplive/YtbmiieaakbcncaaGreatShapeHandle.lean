/- What an argument of type api.Handle looks like: two numbers that fit. -/
import Derived.Test.YtbmiieaakbcncaaGreatShapeSlot
namespace Go.Proofs.YtbmiieaakbcncaaGreat
open Go.ChangeShapes Go.WideShapes Go.ChangeAt Go.RowKit
theorem Tryz.cells44 : Tryz.prog.cellsOf 44 = 2 := by kernel_rfl
set_option maxRecDepth 100000 in
theorem shape_Handle {H : Type} {enc : TypeId × Value → H} {W : World} {base : Nat} {v : Value} {d : DataW H} {p : List MemPlace} (hv : Value.okWide Tryz.prog W .any base 44 v) (h : DataW.Trod enc Tryz.prog W 0 (fun _ => true) true 44 v d p) :
    ∃ a b, v = .agg #[.int .i64 a, .int .i64 b] ∧ Fit a ∧ Fit b := by
  obtain ⟨cs, rfl, hsz⟩ := okWide_struct Tryz.underlying44 hv
  obtain ⟨c0, c1, rfl⟩ := array2 (hsz.trans Tryz.cells44)
  obtain ⟨fuel, hf⟩ := h
  obtain ⟨xs, n, _, _, _, hlen, hff⟩ := DataW.trod_struct Tryz.underlying44 hf
  obtain ⟨a, rfl, fa⟩ := field_int 0 0 _ hff hlen rfl rfl rfl c0 rfl
  obtain ⟨b, rfl, fb⟩ := field_int 1 1 _ hff hlen rfl rfl rfl c1 rfl
  exact ⟨a, b, rfl, fa, fb⟩
end Go.Proofs.YtbmiieaakbcncaaGreat
