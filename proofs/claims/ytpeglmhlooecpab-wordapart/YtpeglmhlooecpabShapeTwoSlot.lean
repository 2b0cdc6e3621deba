/- What an argument of type [2]api.Slot looks like: twice what one of type api.Slot is. -/
import Derived.Test.YtpeglmhlooecpabShapes
namespace Go.Proofs.Ytpeglmhlooecpab
open Go.ChangeShapes Go.WideShapes Go.ChangeAt Go.RowKit

theorem array8 {α : Type} {cs : Array α} (h : cs.size = 8) : ∃ c0 c1 c2 c3 c4 c5 c6 c7, cs = #[c0, c1, c2, c3, c4, c5, c6, c7] := by
  obtain ⟨l⟩ := cs
  match l, h with
  | [c0, c1, c2, c3, c4, c5, c6, c7], _ => exact ⟨c0, c1, c2, c3, c4, c5, c6, c7, rfl⟩

theorem Try.cellsTwoSlot : Try.prog.cellsOf 24 = 8 := by kernel_rfl
theorem Try.cellsOneSlot : Try.prog.cellsOf 23 = 4 := by kernel_rfl

theorem shape_TwoSlot {H : Type} {enc : TypeId × Value → H} {W : World} {base : Nat} {v : Value} {d : DataW H} {p : List MemPlace} (hv : Value.okWide Try.prog W .any base 24 v) (h : DataW.Trod enc Try.prog W 0 (fun _ => true) true 24 v d p) :
    ∃ a1 b1 c1 d1 a2 b2 c2 d2, v = .agg #[.int .i64 a1, .int .i64 b1, .int .i64 c1, .int .i64 d1, .int .i64 a2, .int .i64 b2, .int .i64 c2, .int .i64 d2] ∧ Fit a1 ∧ Fit b1 ∧ Fit c1 ∧ Fit d1 ∧ Fit a2 ∧ Fit b2 ∧ Fit c2 ∧ Fit d2 := by
  obtain ⟨cs, rfl, hsz⟩ : ∃ cs, v = .agg cs ∧ cs.size = Try.prog.cellsOf 24 := by
    simp only [Value.okWide, Try.underlying24] at hv
    obtain ⟨cs, h1, h2, _⟩ := hv
    exact ⟨cs, h1, h2⟩
  obtain ⟨c0, c1, c2, c3, c4, c5, c6, c7, rfl⟩ := array8 (hsz.trans Try.cellsTwoSlot)
  obtain ⟨fuel, hf⟩ := h
  obtain ⟨xs, m, _, _, _, hlen, hff⟩ := DataW.trod_array Try.underlying24 hf
  have q0 := hff 0 (by decide)
  have q1 := hff 1 (by decide)
  rw [Try.cellsOneSlot, List.getElem?_eq_getElem (by omega)] at q0 q1
  obtain ⟨ys, _, _, _, _, hl0, g0⟩ := DataW.trod_struct Try.underlying23 q0
  obtain ⟨zs, _, _, _, _, hl1, g1⟩ := DataW.trod_struct Try.underlying23 q1
  obtain ⟨a1, rfl, fa1⟩ := field_int 0 0 _ g0 hl0 rfl rfl rfl c0 rfl
  obtain ⟨b1, rfl, fb1⟩ := field_int 1 1 _ g0 hl0 rfl rfl rfl c1 rfl
  obtain ⟨c1, rfl, fc1⟩ := field_int 2 2 _ g0 hl0 rfl rfl rfl c2 rfl
  obtain ⟨d1, rfl, fd1⟩ := field_int 3 3 _ g0 hl0 rfl rfl rfl c3 rfl
  obtain ⟨a2, rfl, fa2⟩ := field_int 0 0 _ g1 hl1 rfl rfl rfl c4 rfl
  obtain ⟨b2, rfl, fb2⟩ := field_int 1 1 _ g1 hl1 rfl rfl rfl c5 rfl
  obtain ⟨c2, rfl, fc2⟩ := field_int 2 2 _ g1 hl1 rfl rfl rfl c6 rfl
  obtain ⟨d2, rfl, fd2⟩ := field_int 3 3 _ g1 hl1 rfl rfl rfl c7 rfl
  exact ⟨a1, b1, c1, d1, a2, b2, c2, d2, rfl, fa1, fb1, fc1, fd1, fa2, fb2, fc2, fd2⟩

end Go.Proofs.Ytpeglmhlooecpab
