/- What an argument of type api.Chunk looks like: four numbers that fit. -/
import Derived.Test.YtameeiabnkblmaaShapes
namespace Go.Proofs.Ytameeiabnkblmaa
open Go.ChangeShapes Go.WideShapes Go.ChangeAt Go.RowKit
theorem Try.cells47 : Try.prog.cellsOf 47 = 4 := by kernel_rfl
set_option maxRecDepth 100000 in
theorem shape_Chunk {H : Type} {enc : TypeId × Value → H} {W : World} {base : Nat} {v : Value} {d : DataW H} {p : List MemPlace} (hv : Value.okWide Try.prog W .any base 47 v) (h : DataW.Trod enc Try.prog W 0 (fun _ => true) true 47 v d p) :
    ∃ a b c d, v = .agg #[.int .i64 a, .int .i64 b, .int .i64 c, .int .i64 d] ∧ Fit a ∧ Fit b ∧ Fit c ∧ Fit d := by
  obtain ⟨cs, rfl, hsz⟩ := okWide_struct Try.underlying47 hv
  obtain ⟨c0, c1, c2, c3, rfl⟩ := array4 (hsz.trans Try.cells47)
  obtain ⟨fuel, hf⟩ := h
  obtain ⟨xs, n, _, _, _, hlen, hff⟩ := DataW.trod_struct Try.underlying47 hf
  obtain ⟨a, rfl, fa⟩ := field_int 0 0 _ hff hlen rfl rfl rfl c0 rfl
  obtain ⟨b, rfl, fb⟩ := field_int 1 1 _ hff hlen rfl rfl rfl c1 rfl
  obtain ⟨c, rfl, fc⟩ := field_int 2 2 _ hff hlen rfl rfl rfl c2 rfl
  obtain ⟨d, rfl, fd⟩ := field_int 3 3 _ hff hlen rfl rfl rfl c3 rfl
  exact ⟨a, b, c, d, rfl, fa, fb, fc, fd⟩
end Go.Proofs.Ytameeiabnkblmaa
