/- What an argument of type api.Seen, and a slice of them, look like. -/
import Derived.Test.YtlefbdbafmmoiaaPolRow
import Derived.Test.YtlefbdbafmmoiaaShapes
import Derived.Deep.Slices
namespace Go.Proofs.Ytlefbdbafmmoiaa
open Go.ChangeShapes Go.WideShapes Go.ChangeAt Go.RowKit Go.Deep

theorem array6 {α : Type} {cs : Array α} (h : cs.size = 6) : ∃ c0 c1 c2 c3 c4 c5, cs = #[c0, c1, c2, c3, c4, c5] := by
  obtain ⟨l⟩ := cs
  match l, h with
  | [c0, c1, c2, c3, c4, c5], _ => exact ⟨c0, c1, c2, c3, c4, c5, rfl⟩
theorem Try.cells25 : Try.prog.cellsOf 25 = 6 := by kernel_rfl
theorem Try.cells23 : Try.prog.cellsOf 23 = 4 := by kernel_rfl

section
variable {H : Type} {enc : TypeId × Value → H} {W : World} {base : Nat} {v : Value} {d : DataW H} {p : List MemPlace}

theorem addr_add12 {a : Addr} (h : a.spot = none) (j : Nat) : a.add j = ⟨a.block, a.off + j, none⟩ := by
  cases j with
  | zero => obtain ⟨b, o, s⟩ := a; simp at h; subst h; simp [Addr.add]
  | succ n => rw [Addr.add_succ']

theorem list6 {α : Type} {cs : List α} (h : cs.length = 6) : ∃ c0 c1 c2 c3 c4 c5, cs = [c0, c1, c2, c3, c4, c5] := by
  match cs, h with
  | [c0, c1, c2, c3, c4, c5], _ => exact ⟨c0, c1, c2, c3, c4, c5, rfl⟩

/-- a field that is a chunk's word -/
theorem field_chunk {fs : Array Field} {fuel : Nat} {xs : List (DataW H × List MemPlace)} {c0 c1 c2 c3 c4 c5 : Value} (f : Field)
    (hf : ∀ (i : Nat) (f : Field), fs[i]? = some f → DataW.trod enc Try.prog W 0 (fun _ => true) true fuel f.type (List.take (Try.prog.cellsOf f.type) (List.drop f.offset [c0, c1, c2, c3, c4, c5])) = xs[i]?)
    (hl : xs.length = fs.size) (hi : fs[0]? = some f) (ho : f.offset = 0) (ht : f.type = 23) : ∃ a0 a1 a2 a3, (c0 = .int .i64 a0 ∧ Fit a0) ∧ (c1 = .int .i64 a1 ∧ Fit a1) ∧ (c2 = .int .i64 a2 ∧ Fit a2) ∧ (c3 = .int .i64 a3 ∧ Fit a3) := by
  have h := hf 0 f hi
  have hlt : 0 < xs.length := by rw [hl]; exact (Array.getElem?_eq_some_iff.1 hi).1
  rw [ht, ho, Try.cells23, List.getElem?_eq_getElem hlt] at h
  simp only [List.drop_zero, List.take_succ_cons, List.take_zero] at h
  obtain ⟨ys, n, _, _, _, hlen, hff⟩ := DataW.trod_struct Try.underlying23 h
  obtain ⟨a0, rfl, f0⟩ := field_int 0 0 _ hff hlen rfl rfl rfl c0 rfl
  obtain ⟨a1, rfl, f1⟩ := field_int 1 1 _ hff hlen rfl rfl rfl c1 rfl
  obtain ⟨a2, rfl, f2⟩ := field_int 2 2 _ hff hlen rfl rfl rfl c2 rfl
  obtain ⟨a3, rfl, f3⟩ := field_int 3 3 _ hff hlen rfl rfl rfl c3 rfl
  exact ⟨a0, a1, a2, a3, ⟨rfl, f0⟩, ⟨rfl, f1⟩, ⟨rfl, f2⟩, ⟨rfl, f3⟩⟩

set_option maxRecDepth 100000 in
theorem shape_seen (hv : Value.okWide Try.prog W .any base 25 v) (h : DataW.Trod enc Try.prog W 0 (fun _ => true) true 25 v d p) :
    ∃ q : Sn, v = .agg #[.int .i64 q.st, .int .i64 q.cl, .int .i64 q.us, .int .i64 q.sm, .int .i64 q.lv, .bool q.op] ∧ SnFit q := by
  obtain ⟨cs, rfl, hsz⟩ := okWide_struct Try.underlying25 hv
  obtain ⟨c0, c1, c2, c3, c4, c5, rfl⟩ := array6 (hsz.trans Try.cells25)
  obtain ⟨fuel, hf⟩ := h
  obtain ⟨xs, n, _, _, _, hlen, hff⟩ := DataW.trod_struct Try.underlying25 hf
  obtain ⟨a0, a1, a2, a3, ⟨rfl, f0⟩, ⟨rfl, f1⟩, ⟨rfl, f2⟩, ⟨rfl, f3⟩⟩ := field_chunk _ hff hlen rfl rfl rfl
  obtain ⟨a4, rfl, f4⟩ := field_int 1 4 _ hff hlen rfl rfl rfl c4 rfl
  obtain ⟨a5, rfl⟩ := field_bool 2 5 _ hff hlen rfl rfl rfl c5 rfl
  exact ⟨⟨a0, a1, a2, a3, a4, a5⟩, rfl, f0, f1, f2, f3, f4⟩

set_option maxRecDepth 100000 in
theorem shape_seens (hv : Value.okWide Try.prog W .any base 32 v) (h : DataW.Trod enc Try.prog W 0 (fun _ => true) true 32 v d p) :
    ∃ ao n cap A, v = .slice ao n cap ∧ SnsAt W ao n A ∧ n ≤ 9223372036854775807 ∧ ∀ i, i < n → SnFit (A i) := by
  obtain ⟨a0, len, cap, rfl⟩ := okWide_slice Try.underlying32 hv
  obtain ⟨fuel, hf⟩ := h
  rcases open_slice Try.underlying32 hf with ⟨hcs, _⟩ | ⟨a, len', cap', m, n, D, Pl, hcs, _, hl, hm, hmm, _, hx⟩
  · simp [Value.cells] at hcs
    obtain ⟨rfl, rfl, rfl⟩ := hcs
    exact ⟨none, 0, 0, fun _ => ⟨0, 0, 0, 0, 0, false⟩, rfl, fun i hi => by omega, by omega, fun i hi => by omega⟩
  · simp [Value.cells] at hcs
    obtain ⟨rfl, rfl, rfl⟩ := hcs
    simp only [if_pos] at hmm
    subst hmm
    rw [Try.cells25] at hx
    have each : ∀ i, i < len → ∃ q : Sn, SnFit q ∧ a.spot = none ∧ W.cell? ⟨a.block, a.off + i * 6, none⟩ = some (.int .i64 q.st) ∧ W.cell? ⟨a.block, a.off + i * 6 + 1, none⟩ = some (.int .i64 q.cl) ∧
        W.cell? ⟨a.block, a.off + i * 6 + 2, none⟩ = some (.int .i64 q.us) ∧ W.cell? ⟨a.block, a.off + i * 6 + 3, none⟩ = some (.int .i64 q.sm) ∧ W.cell? ⟨a.block, a.off + i * 6 + 4, none⟩ = some (.int .i64 q.lv) ∧ W.cell? ⟨a.block, a.off + i * 6 + 5, none⟩ = some (.bool q.op) := by
      have hs : 0 < len → a.spot = none := by
        intro h0
        obtain ⟨cs', h1, _⟩ := hx 0 (by omega)
        obtain ⟨_, hlen, hc⟩ := World.cells?_some h1
        obtain ⟨c0, c1, c2, c3, c4, c5, rfl⟩ := list6 hlen
        have := hc 0 (by omega)
        simp only [Nat.zero_mul] at this
        have := World.cell?_spot this
        simpa [Addr.add] using this
      intro i hi
      have hsp := hs (by omega)
      obtain ⟨cs', h1, h2⟩ := hx i (by omega)
      obtain ⟨_, hlen, hc⟩ := World.cells?_some h1
      obtain ⟨c0, c1, c2, c3, c4, c5, rfl⟩ := list6 hlen
      obtain ⟨xs, n', _, _, _, hlen', hff⟩ := DataW.trod_struct Try.underlying25 h2
      obtain ⟨q0, q1, q2, q3, ⟨rfl, f0⟩, ⟨rfl, f1⟩, ⟨rfl, f2⟩, ⟨rfl, f3⟩⟩ := field_chunk _ hff hlen' rfl rfl rfl
      obtain ⟨q4, rfl, f4⟩ := field_int 1 4 _ hff hlen' rfl rfl rfl c4 rfl
      obtain ⟨q5, rfl⟩ := field_bool 2 5 _ hff hlen' rfl rfl rfl c5 rfl
      have e : ∀ j, (a.add (i * 6)).add j = ⟨a.block, a.off + i * 6 + j, none⟩ := fun j => by
        rw [addr_add12 hsp, addr_add12 rfl]
      refine ⟨⟨q0, q1, q2, q3, q4, q5⟩, ⟨f0, f1, f2, f3, f4⟩, hsp, ?_, ?_, ?_, ?_, ?_, ?_⟩
      · have := hc 0 (by omega); rw [e] at this; exact this
      · have := hc 1 (by omega); rw [e] at this; exact this
      · have := hc 2 (by omega); rw [e] at this; exact this
      · have := hc 3 (by omega); rw [e] at this; exact this
      · have := hc 4 (by omega); rw [e] at this; exact this
      · have := hc 5 (by omega); rw [e] at this; exact this
    haveI : Inhabited Sn := ⟨⟨0, 0, 0, 0, 0, false⟩⟩
    obtain ⟨Q, hQ⟩ := choose_lt (n := len) (α := Sn) (p := fun i q => SnFit q ∧ a.spot = none ∧ W.cell? ⟨a.block, a.off + i * 6, none⟩ = some (.int .i64 q.st) ∧ W.cell? ⟨a.block, a.off + i * 6 + 1, none⟩ = some (.int .i64 q.cl) ∧
        W.cell? ⟨a.block, a.off + i * 6 + 2, none⟩ = some (.int .i64 q.us) ∧ W.cell? ⟨a.block, a.off + i * 6 + 3, none⟩ = some (.int .i64 q.sm) ∧ W.cell? ⟨a.block, a.off + i * 6 + 4, none⟩ = some (.int .i64 q.lv) ∧ W.cell? ⟨a.block, a.off + i * 6 + 5, none⟩ = some (.bool q.op)) each
    refine ⟨some a, len, m, Q, rfl, fun i hi => ?_, by unfold maxLen at hm; omega, fun i hi => (hQ i hi).1⟩
    obtain ⟨_, hsp, k0, k1, k2, k3, k4, k5⟩ := hQ i hi
    exact ⟨a.block, a.off, by obtain ⟨b, o, s⟩ := a; simp at hsp; subst hsp; rfl, k0, k1, k2, k3, k4, k5⟩
end
end Go.Proofs.Ytlefbdbafmmoiaa
