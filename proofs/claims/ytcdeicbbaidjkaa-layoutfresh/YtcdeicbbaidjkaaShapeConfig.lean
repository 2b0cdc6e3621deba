/- What an argument of type api.Config looks like: seven numbers that fit. -/
import Derived.Test.YtcdeicbbaidjkaaShapes
namespace Go.Proofs.Ytcdeicbbaidjkaa
open Go.ChangeShapes Go.WideShapes Go.ChangeAt Go.RowKit
theorem array7 {α : Type} {cs : Array α} (h : cs.size = 7) : ∃ c0 c1 c2 c3 c4 c5 c6, cs = #[c0, c1, c2, c3, c4, c5, c6] := by
  obtain ⟨l⟩ := cs
  match l, h with
  | [c0, c1, c2, c3, c4, c5, c6], _ => exact ⟨c0, c1, c2, c3, c4, c5, c6, rfl⟩
theorem Try.cells23 : Try.prog.cellsOf 23 = 7 := by kernel_rfl
theorem shape_Config {H : Type} {enc : TypeId × Value → H} {W : World} {base : Nat} {v : Value} {d : DataW H} {p : List MemPlace} (hv : Value.okWide Try.prog W .any base 23 v) (h : DataW.Trod enc Try.prog W 0 (fun _ => true) true 23 v d p) :
    ∃ t s k n g p r, v = .agg #[.int .i64 t, .int .i64 s, .int .i64 k, .int .i64 n, .int .i64 g, .int .i64 p, .int .i64 r] ∧ Fit t ∧ Fit s ∧ Fit k ∧ Fit n ∧ Fit g ∧ Fit p ∧ Fit r := by
  obtain ⟨cs, rfl, hsz⟩ := okWide_struct Try.underlying23 hv
  obtain ⟨c0, c1, c2, c3, c4, c5, c6, rfl⟩ := array7 (hsz.trans Try.cells23)
  obtain ⟨fuel, hf⟩ := h
  obtain ⟨xs, n, _, _, _, hlen, hff⟩ := DataW.trod_struct Try.underlying23 hf
  obtain ⟨a0, rfl, f0⟩ := field_int 0 0 _ hff hlen rfl rfl rfl c0 rfl
  obtain ⟨a1, rfl, f1⟩ := field_int 1 1 _ hff hlen rfl rfl rfl c1 rfl
  obtain ⟨a2, rfl, f2⟩ := field_int 2 2 _ hff hlen rfl rfl rfl c2 rfl
  obtain ⟨a3, rfl, f3⟩ := field_int 3 3 _ hff hlen rfl rfl rfl c3 rfl
  obtain ⟨a4, rfl, f4⟩ := field_int 4 4 _ hff hlen rfl rfl rfl c4 rfl
  obtain ⟨a5, rfl, f5⟩ := field_int 5 5 _ hff hlen rfl rfl rfl c5 rfl
  obtain ⟨a6, rfl, f6⟩ := field_int 6 6 _ hff hlen rfl rfl rfl c6 rfl
  exact ⟨a0, a1, a2, a3, a4, a5, a6, rfl, f0, f1, f2, f3, f4, f5, f6⟩
end Go.Proofs.Ytcdeicbbaidjkaa
