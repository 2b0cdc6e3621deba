/- What an argument of type api.Want looks like: four numbers that fit, and a word. -/
import Derived.Test.YtcdmokbamakomabGreatShapes
namespace Go.Proofs.YtcdmokbamakomabGreat
open Go.ChangeShapes Go.WideShapes Go.ChangeAt Go.RowKit
/-- a field that is a word -/
theorem field_word {H : Type} {enc : TypeId × Value → H} {W : World} {fs : Array Field} {fuel : Nat} {xs : List (DataW H × List MemPlace)} {cs : List Value} (i o : Nat) (f : Field)
    (hf : ∀ (i : Nat) (f : Field), fs[i]? = some f → DataW.trod enc Tryz.prog W 0 (fun _ => true) true fuel f.type (List.take (Tryz.prog.cellsOf f.type) (List.drop f.offset cs)) = xs[i]?)
    (hl : xs.length = fs.size) (hi : fs[i]? = some f) (ho : f.offset = o) (ht : f.type = 32) (c : Value) (hc : cs[o]? = some c) : ∃ n, c = .int .u64 n ∧ 0 ≤ n ∧ n ≤ 18446744073709551615 := by
  have h := hf i f hi
  have hlt : i < xs.length := by rw [hl]; exact (Array.getElem?_eq_some_iff.1 hi).1
  have c1 : Tryz.prog.cellsOf 32 = 1 := by kernel_rfl
  rw [ht, ho, c1, List.getElem?_eq_getElem hlt] at h
  obtain ⟨n, h1, _, h2⟩ := DataW.trod_int Tryz.underlying32 h
  have h3 : List.take 1 (List.drop o cs) = [c] := by
    obtain ⟨hlo, hce⟩ := List.getElem?_eq_some_iff.1 hc
    rw [List.drop_eq_getElem_cons hlo, hce]; simp
  rw [h3] at h1
  simp at h1
  exact ⟨n, h1, bounds_u64 h2⟩

theorem Tryz.cells37 : Tryz.prog.cellsOf 37 = 5 := by kernel_rfl
set_option maxRecDepth 100000 in
theorem shape_Want {H : Type} {enc : TypeId × Value → H} {W : World} {base : Nat} {v : Value} {d : DataW H} {p : List MemPlace} (hv : Value.okWide Tryz.prog W .any base 37 v) (h : DataW.Trod enc Tryz.prog W 0 (fun _ => true) true 37 v d p) :
    ∃ a b c d e, v = .agg #[.int .i64 a, .int .u64 b, .int .i64 c, .int .i64 d, .int .i64 e] ∧ Fit a ∧ (0 ≤ b ∧ b ≤ 18446744073709551615) ∧ Fit c ∧ Fit d ∧ Fit e := by
  obtain ⟨cs, rfl, hsz⟩ := okWide_struct Tryz.underlying37 hv
  obtain ⟨c0, c1, c2, c3, c4, rfl⟩ := array5 (hsz.trans Tryz.cells37)
  obtain ⟨fuel, hf⟩ := h
  obtain ⟨xs, n, _, _, _, hlen, hff⟩ := DataW.trod_struct Tryz.underlying37 hf
  obtain ⟨a, rfl, fa⟩ := field_int 0 0 _ hff hlen rfl rfl rfl c0 rfl
  obtain ⟨b, rfl, fb⟩ := field_word 1 1 _ hff hlen rfl rfl rfl c1 rfl
  obtain ⟨c, rfl, fc⟩ := field_int 2 2 _ hff hlen rfl rfl rfl c2 rfl
  obtain ⟨d, rfl, fd⟩ := field_int 3 3 _ hff hlen rfl rfl rfl c3 rfl
  obtain ⟨e, rfl, fe⟩ := field_int 4 4 _ hff hlen rfl rfl rfl c4 rfl
  exact ⟨a, b, c, d, e, rfl, fa, fb, fc, fd, fe⟩
end Go.Proofs.YtcdmokbamakomabGreat
