/- What an argument that is a slice of things to be done (Act of package footlockerlaw04) looks like. -/
import Derived.Test.YtcdeicbbaidjkaaShapeU64s
import Derived.Deep.Slices
namespace Go.Proofs.Ytcdeicbbaidjkaa
open Go.ChangeShapes Go.WideShapes Go.ChangeAt Go.RowKit Go.Deep

/-- things to be done: kind, word, who, a number, a word -/
structure Acts where
  kind : Nat → Int
  at_ : Nat → Int
  who : Nat → Int
  d : Nat → Int
  w : Nat → Int

/-- the first n things behind the address are those of A -/
def ActsAt (w : World) (ao : Option Addr) (n : Nat) (A : Acts) : Prop :=
  ∀ i, i < n → ∃ b off, ao = some ⟨b, off, none⟩ ∧ w.cell? ⟨b, off + i * 5, none⟩ = some (.int .i64 (A.kind i)) ∧ w.cell? ⟨b, off + i * 5 + 1, none⟩ = some (.int .i64 (A.at_ i)) ∧
    w.cell? ⟨b, off + i * 5 + 2, none⟩ = some (.int .i64 (A.who i)) ∧ w.cell? ⟨b, off + i * 5 + 3, none⟩ = some (.int .i64 (A.d i)) ∧ w.cell? ⟨b, off + i * 5 + 4, none⟩ = some (.int .u64 (A.w i))

def ActsFit (n : Nat) (A : Acts) : Prop := ∀ i, i < n → Fit (A.kind i) ∧ Fit (A.at_ i) ∧ Fit (A.who i) ∧ Fit (A.d i) ∧ FitW (A.w i)

theorem Try.cells47 : Try.prog.cellsOf 47 = 5 := by kernel_rfl

section
variable {H : Type} {enc : TypeId × Value → H} {W : World} {base : Nat} {v : Value} {d : DataW H} {p : List MemPlace}

/-- a field that is a word -/
theorem field_u64 {fs : Array Field} {fuel : Nat} {xs : List (DataW H × List MemPlace)} {cs : List Value} (i o : Nat) (f : Field)
    (hf : ∀ (i : Nat) (f : Field), fs[i]? = some f → DataW.trod enc Try.prog W 0 (fun _ => true) true fuel f.type (List.take (Try.prog.cellsOf f.type) (List.drop f.offset cs)) = xs[i]?)
    (hl : xs.length = fs.size) (hi : fs[i]? = some f) (ho : f.offset = o) (ht : f.type = 39) (c : Value) (hc : cs[o]? = some c) : ∃ n, c = .int .u64 n ∧ FitW n := by
  have h := hf i f hi
  have hlt : i < xs.length := by rw [hl]; exact (Array.getElem?_eq_some_iff.1 hi).1
  rw [ht, ho, Try.cells39, List.getElem?_eq_getElem hlt] at h
  obtain ⟨n, h1, _, h2⟩ := DataW.trod_int Try.underlying39 h
  have h3 : List.take 1 (List.drop o cs) = [c] := by
    obtain ⟨hlo, hce⟩ := List.getElem?_eq_some_iff.1 hc
    rw [List.drop_eq_getElem_cons hlo, hce]; simp
  rw [h3] at h1
  simp at h1
  exact ⟨n, h1, bounds_u64 h2⟩

theorem list5 {α : Type} {cs : List α} (h : cs.length = 5) : ∃ c0 c1 c2 c3 c4, cs = [c0, c1, c2, c3, c4] := by
  match cs, h with
  | [c0, c1, c2, c3, c4], _ => exact ⟨c0, c1, c2, c3, c4, rfl⟩

theorem shape_acts (hv : Value.okWide Try.prog W .any base 45 v) (h : DataW.Trod enc Try.prog W 0 (fun _ => true) true 45 v d p) :
    ∃ ao n cap A, v = .slice ao n cap ∧ ActsAt W ao n A ∧ n ≤ 9223372036854775807 ∧ ActsFit n A := by
  obtain ⟨a0, len, cap, rfl⟩ := okWide_slice Try.underlying45 hv
  obtain ⟨fuel, hf⟩ := h
  rcases open_slice Try.underlying45 hf with ⟨hcs, _⟩ | ⟨a, len', cap', m, n, D, Pl, hcs, _, hl, hm, hmm, _, hx⟩
  · simp [Value.cells] at hcs
    obtain ⟨rfl, rfl, rfl⟩ := hcs
    exact ⟨none, 0, 0, ⟨fun _ => 0, fun _ => 0, fun _ => 0, fun _ => 0, fun _ => 0⟩, rfl, fun i hi => by omega, by omega, fun i hi => by omega⟩
  · simp [Value.cells] at hcs
    obtain ⟨rfl, rfl, rfl⟩ := hcs
    simp only [if_pos] at hmm
    subst hmm
    rw [Try.cells47] at hx
    have each : ∀ i, i < len → ∃ q : Int × Int × Int × Int × Int, (Fit q.1 ∧ Fit q.2.1 ∧ Fit q.2.2.1 ∧ Fit q.2.2.2.1 ∧ FitW q.2.2.2.2) ∧ a.spot = none ∧ W.cell? ⟨a.block, a.off + i * 5, none⟩ = some (.int .i64 q.1) ∧ W.cell? ⟨a.block, a.off + i * 5 + 1, none⟩ = some (.int .i64 q.2.1) ∧
        W.cell? ⟨a.block, a.off + i * 5 + 2, none⟩ = some (.int .i64 q.2.2.1) ∧ W.cell? ⟨a.block, a.off + i * 5 + 3, none⟩ = some (.int .i64 q.2.2.2.1) ∧ W.cell? ⟨a.block, a.off + i * 5 + 4, none⟩ = some (.int .u64 q.2.2.2.2) := by
      have hs : 0 < len → a.spot = none := by
        intro h0
        obtain ⟨cs', h1, _⟩ := hx 0 (by omega)
        obtain ⟨_, hlen, hc⟩ := World.cells?_some h1
        obtain ⟨c0, c1, c2, c3, c4, rfl⟩ := list5 hlen
        have := hc 0 (by omega)
        simp only [Nat.zero_mul] at this
        have := World.cell?_spot this
        simpa [Addr.add] using this
      intro i hi
      have hsp := hs (by omega)
      obtain ⟨cs', h1, h2⟩ := hx i (by omega)
      obtain ⟨_, hlen, hc⟩ := World.cells?_some h1
      obtain ⟨c0, c1, c2, c3, c4, rfl⟩ := list5 hlen
      obtain ⟨xs, n', _, _, _, hlen', hff⟩ := DataW.trod_struct Try.underlying47 h2
      obtain ⟨q0, rfl, f0⟩ := field_int 0 0 _ hff hlen' rfl rfl rfl c0 rfl
      obtain ⟨q1, rfl, f1⟩ := field_int 1 1 _ hff hlen' rfl rfl rfl c1 rfl
      obtain ⟨q2, rfl, f2⟩ := field_int 2 2 _ hff hlen' rfl rfl rfl c2 rfl
      obtain ⟨q3, rfl, f3⟩ := field_int 3 3 _ hff hlen' rfl rfl rfl c3 rfl
      obtain ⟨q4, rfl, f4⟩ := field_u64 4 4 _ hff hlen' rfl rfl rfl c4 rfl
      have e : ∀ j, (a.add (i * 5)).add j = ⟨a.block, a.off + i * 5 + j, none⟩ := fun j => by
        rw [addr_add hsp, addr_add rfl]
      refine ⟨(q0, q1, q2, q3, q4), ⟨f0, f1, f2, f3, f4⟩, hsp, ?_, ?_, ?_, ?_, ?_⟩
      · have := hc 0 (by omega); rw [e] at this; exact this
      · have := hc 1 (by omega); rw [e] at this; exact this
      · have := hc 2 (by omega); rw [e] at this; exact this
      · have := hc 3 (by omega); rw [e] at this; exact this
      · have := hc 4 (by omega); rw [e] at this; exact this
    obtain ⟨Q, hQ⟩ := choose_lt (n := len) (α := Int × Int × Int × Int × Int) (p := fun i q => (Fit q.1 ∧ Fit q.2.1 ∧ Fit q.2.2.1 ∧ Fit q.2.2.2.1 ∧ FitW q.2.2.2.2) ∧ a.spot = none ∧ W.cell? ⟨a.block, a.off + i * 5, none⟩ = some (.int .i64 q.1) ∧ W.cell? ⟨a.block, a.off + i * 5 + 1, none⟩ = some (.int .i64 q.2.1) ∧
        W.cell? ⟨a.block, a.off + i * 5 + 2, none⟩ = some (.int .i64 q.2.2.1) ∧ W.cell? ⟨a.block, a.off + i * 5 + 3, none⟩ = some (.int .i64 q.2.2.2.1) ∧ W.cell? ⟨a.block, a.off + i * 5 + 4, none⟩ = some (.int .u64 q.2.2.2.2)) each
    refine ⟨some a, len, m, ⟨fun i => (Q i).1, fun i => (Q i).2.1, fun i => (Q i).2.2.1, fun i => (Q i).2.2.2.1, fun i => (Q i).2.2.2.2⟩, rfl, fun i hi => ?_, by unfold maxLen at hm; omega, fun i hi => (hQ i hi).1⟩
    obtain ⟨_, hsp, k0, k1, k2, k3, k4⟩ := hQ i hi
    exact ⟨a.block, a.off, by obtain ⟨b, o, s⟩ := a; simp at hsp; subst hsp; rfl, k0, k1, k2, k3, k4⟩
end
end Go.Proofs.Ytcdeicbbaidjkaa
