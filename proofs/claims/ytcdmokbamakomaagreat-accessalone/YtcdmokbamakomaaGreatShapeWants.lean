/- What an argument of type api.Want looks like: four numbers that fit, and a word. -/
import Derived.Test.YtcdmokbamakomaaGreatShapes
import Derived.Test.YtcdmokbamakomaaGreatAccArgs
import Derived.Deep.Slices
namespace Go.Proofs.YtcdmokbamakomaaGreat
open Go.ChangeShapes Go.WideShapes Go.ChangeAt Go.RowKit
/-- a field that is a word -/
theorem field_word {H : Type} {enc : TypeId × Value → H} {W : World} {fs : Array Field} {fuel : Nat} {xs : List (DataW H × List MemPlace)} {cs : List Value} (i o : Nat) (f : Field)
    (hf : ∀ (i : Nat) (f : Field), fs[i]? = some f → DataW.trod enc Tryz.prog W 0 (fun _ => true) true fuel f.type (List.take (Tryz.prog.cellsOf f.type) (List.drop f.offset cs)) = xs[i]?)
    (hl : xs.length = fs.size) (hi : fs[i]? = some f) (ho : f.offset = o) (ht : f.type = 35) (c : Value) (hc : cs[o]? = some c) : ∃ n, c = .int .u64 n ∧ 0 ≤ n ∧ n ≤ 18446744073709551615 := by
  have h := hf i f hi
  have hlt : i < xs.length := by rw [hl]; exact (Array.getElem?_eq_some_iff.1 hi).1
  have c1 : Tryz.prog.cellsOf 35 = 1 := by kernel_rfl
  rw [ht, ho, c1, List.getElem?_eq_getElem hlt] at h
  obtain ⟨n, h1, _, h2⟩ := DataW.trod_int Tryz.underlying35 h
  have h3 : List.take 1 (List.drop o cs) = [c] := by
    obtain ⟨hlo, hce⟩ := List.getElem?_eq_some_iff.1 hc
    rw [List.drop_eq_getElem_cons hlo, hce]; simp
  rw [h3] at h1
  simp at h1
  exact ⟨n, h1, bounds_u64 h2⟩

theorem Tryz.cells40 : Tryz.prog.cellsOf 40 = 5 := by kernel_rfl
end Go.Proofs.YtcdmokbamakomaaGreat

/- What an argument that is a slice of things wanted (api.Want) looks like. -/
namespace Go.Proofs.YtcdmokbamakomaaGreat
open Go.ChangeShapes Go.WideShapes Go.ChangeAt Go.RowKit Go.Deep

section
variable {H : Type} {enc : TypeId × Value → H} {W : World} {base : Nat} {v : Value} {d : DataW H} {p : List MemPlace}

theorem addr_add10 {a : Addr} (h : a.spot = none) (j : Nat) : a.add j = ⟨a.block, a.off + j, none⟩ := by
  cases j with
  | zero => obtain ⟨b, o, s⟩ := a; simp at h; subst h; simp [Addr.add]
  | succ n => rw [Addr.add_succ']

theorem list5 {α : Type} {cs : List α} (h : cs.length = 5) : ∃ c0 c1 c2 c3 c4, cs = [c0, c1, c2, c3, c4] := by
  match cs, h with
  | [c0, c1, c2, c3, c4], _ => exact ⟨c0, c1, c2, c3, c4, rfl⟩

set_option maxRecDepth 100000 in
theorem shape_wants (hv : Value.okWide Tryz.prog W .any base 23 v) (h : DataW.Trod enc Tryz.prog W 0 (fun _ => true) true 23 v d p) :
    ∃ ao n cap A, v = .slice ao n cap ∧ WantsAt W ao n A ∧ n ≤ 9223372036854775807 ∧ ∀ i, i < n → WantFit (A i) := by
  obtain ⟨a0, len, cap, rfl⟩ := okWide_slice Tryz.underlying23 hv
  obtain ⟨fuel, hf⟩ := h
  rcases open_slice Tryz.underlying23 hf with ⟨hcs, _⟩ | ⟨a, len', cap', m, n, D, Pl, hcs, _, hl, hm, hmm, _, hx⟩
  · simp [Value.cells] at hcs
    obtain ⟨rfl, rfl, rfl⟩ := hcs
    exact ⟨none, 0, 0, fun _ => ⟨0, 0, 0, 0, 0⟩, rfl, fun i hi => by omega, by omega, fun i hi => by omega⟩
  · simp [Value.cells] at hcs
    obtain ⟨rfl, rfl, rfl⟩ := hcs
    simp only [if_pos] at hmm
    subst hmm
    rw [Tryz.cells40] at hx
    have each : ∀ i, i < len → ∃ q : Wt, WantFit q ∧ a.spot = none ∧ W.cell? ⟨a.block, a.off + i * 5, none⟩ = some (.int .i64 q.kd) ∧ W.cell? ⟨a.block, a.off + i * 5 + 1, none⟩ = some (.int .u64 q.nu) ∧
        W.cell? ⟨a.block, a.off + i * 5 + 2, none⟩ = some (.int .i64 q.ix) ∧ W.cell? ⟨a.block, a.off + i * 5 + 3, none⟩ = some (.int .i64 q.vl) ∧ W.cell? ⟨a.block, a.off + i * 5 + 4, none⟩ = some (.int .i64 q.ol) := by
      have hs : 0 < len → a.spot = none := by
        intro h0
        obtain ⟨cs', h1, _⟩ := hx 0 (by omega)
        obtain ⟨_, hlen, hc⟩ := World.cells?_some h1
        obtain ⟨c0, c1, c2, c3, c4, rfl⟩ := list5 hlen
        have := hc 0 (by omega)
        simp only [Nat.zero_mul] at this
        have := World.cell?_spot this
        simpa [Addr.add] using this
      intro i hi
      have hsp := hs (by omega)
      obtain ⟨cs', h1, h2⟩ := hx i (by omega)
      obtain ⟨_, hlen, hc⟩ := World.cells?_some h1
      obtain ⟨c0, c1, c2, c3, c4, rfl⟩ := list5 hlen
      obtain ⟨xs, n', _, _, _, hlen', hff⟩ := DataW.trod_struct Tryz.underlying40 h2
      obtain ⟨q0, rfl, f0⟩ := field_int 0 0 _ hff hlen' rfl rfl rfl c0 rfl
      obtain ⟨q1, rfl, f1⟩ := field_word 1 1 _ hff hlen' rfl rfl rfl c1 rfl
      obtain ⟨q2, rfl, f2⟩ := field_int 2 2 _ hff hlen' rfl rfl rfl c2 rfl
      obtain ⟨q3, rfl, f3⟩ := field_int 3 3 _ hff hlen' rfl rfl rfl c3 rfl
      obtain ⟨q4, rfl, f4⟩ := field_int 4 4 _ hff hlen' rfl rfl rfl c4 rfl
      have e : ∀ j, (a.add (i * 5)).add j = ⟨a.block, a.off + i * 5 + j, none⟩ := fun j => by
        rw [addr_add10 hsp, addr_add10 rfl]
      refine ⟨⟨q0, q1, q2, q3, q4⟩, ⟨f0, f1, f2, f3, f4⟩, hsp, ?_, ?_, ?_, ?_, ?_⟩
      · have := hc 0 (by omega); rw [e] at this; exact this
      · have := hc 1 (by omega); rw [e] at this; exact this
      · have := hc 2 (by omega); rw [e] at this; exact this
      · have := hc 3 (by omega); rw [e] at this; exact this
      · have := hc 4 (by omega); rw [e] at this; exact this
    haveI : Inhabited Wt := ⟨⟨0, 0, 0, 0, 0⟩⟩
    obtain ⟨Q, hQ⟩ := choose_lt (n := len) (α := Wt) (p := fun i q => WantFit q ∧ a.spot = none ∧ W.cell? ⟨a.block, a.off + i * 5, none⟩ = some (.int .i64 q.kd) ∧ W.cell? ⟨a.block, a.off + i * 5 + 1, none⟩ = some (.int .u64 q.nu) ∧
        W.cell? ⟨a.block, a.off + i * 5 + 2, none⟩ = some (.int .i64 q.ix) ∧ W.cell? ⟨a.block, a.off + i * 5 + 3, none⟩ = some (.int .i64 q.vl) ∧ W.cell? ⟨a.block, a.off + i * 5 + 4, none⟩ = some (.int .i64 q.ol)) each
    refine ⟨some a, len, m, Q, rfl, fun i hi => ?_, by unfold maxLen at hm; omega, fun i hi => (hQ i hi).1⟩
    obtain ⟨_, hsp, k0, k1, k2, k3, k4⟩ := hQ i hi
    exact ⟨a.block, a.off, by obtain ⟨b, o, s⟩ := a; simp at hsp; subst hsp; rfl, k0, k1, k2, k3, k4⟩
end
end Go.Proofs.YtcdmokbamakomaaGreat
