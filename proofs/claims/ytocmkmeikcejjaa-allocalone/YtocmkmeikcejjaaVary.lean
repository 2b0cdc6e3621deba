/- A block of its own type is made and filled within a region that draws its order, while other operations make memory: what stays true meanwhile. -/
import Derived.Test.YtocmkmeikcejjaaPhase
import Derived.Test.YtocmkmeikcejjaaStruct
namespace Go.Proofs.Ytocmkmeikcejjaa
open Go.RowKit

/-- a block's type -/
def isT (T : TypeId) (w : World) (b : Nat) : Prop := ∃ c, w.heap[b]? = some (.cells c T (0, 0))

/-- of the blocks that were there none was written but those of type T, from S on -/
structure Vary (T : TypeId) (S : Nat) (x y : World) : Prop where
  os : y.os = x.os
  tape : y.tape = x.tape
  output : y.output = x.output
  size : x.heap.size ≤ y.heap.size
  block : ∀ b, b < x.heap.size → ¬ (S ≤ b ∧ isT T x b) → y.heap[b]? = x.heap[b]?
  ist : ∀ b, isT T x b → isT T y b

/-- memory was made, none of type T -/
def Made (T : TypeId) (x y : World) : Prop := Grown x y ∧ ∀ b, x.heap.size ≤ b → ¬ isT T y b

section
variable {T : TypeId} {S : Nat} {x y z : World}

theorem isT.lt (h : isT T x S) : S < x.heap.size := by obtain ⟨c, h⟩ := h; exact blk_lt h
theorem isT.of {w w' : World} {b : Nat} (e : w'.heap[b]? = w.heap[b]?) (h : isT T w b) : isT T w' b := h.imp fun _ k => e.trans k

theorem Vary.refl (x : World) : Vary T S x x := ⟨rfl, rfl, rfl, Nat.le_refl _, fun _ _ _ => rfl, fun _ h => h⟩
theorem Vary.trans (x y z : World) (h : Vary T S x y) (k : Vary T S y z) : Vary T S x z :=
  ⟨k.os.trans h.os, k.tape.trans h.tape, k.output.trans h.output, Nat.le_trans h.size k.size, fun b hb hn => by
    have e := h.block b hb hn
    rw [k.block b (Nat.lt_of_lt_of_le hb h.size) (fun hh => hn ⟨hh.1, hh.2.of e.symm⟩), e], fun b hb => k.ist b (h.ist b hb)⟩
theorem Vary.ofMade (x y : World) (h : Made T x y) : Vary T S x y :=
  ⟨h.1.os, h.1.tape, h.1.output, h.1.size, fun b hb _ => h.1.block b hb, fun b hb => hb.of (h.1.block b hb.lt)⟩
theorem Vary.below (h : Vary T S x y) (hS : x.heap.size ≤ S) : Below x.heap.size x y :=
  ⟨h.os, h.tape, h.output, h.size, fun b hb => h.block b hb (fun hh => by omega)⟩
theorem Made.refl (x : World) : Made T x x := ⟨Grown.refl _, fun b hb h => by have := h.lt; omega⟩

/-- while the block is made, and filled: its cells are a, then b -/
def phVary (T : TypeId) (S n : Nat) (a b : Value) : Nat → World → Prop
  | 0, w => ∀ i, S ≤ i → ¬ isT T w i
  | 1, w => ∃ O, S ≤ O ∧ w.rowIs O T n (fun _ => a) ∧ ∀ i, S ≤ i → isT T w i → i = O
  | _, w => ∃ O, S ≤ O ∧ w.rowIs O T n (fun _ => b) ∧ ∀ i, S ≤ i → isT T w i → i = O

theorem Made.back {i : Nat} (h : Made T x y) (hi : isT T y i) : isT T x i := by
  by_cases hb : i < x.heap.size
  · exact hi.of (h.1.block i hb).symm
  · exact absurd hi (h.2 i (by omega))

theorem phVary_made {n : Nat} {a b : Value} (x y : World) (p : Nat) (g : Made T x y) (k : phVary T S n a b p x) : phVary T S n a b p y := by
  match p, k with
  | 0, k => exact fun i hi h => k i hi (g.back h)
  | 1, ⟨O, h1, h2, h3⟩ => exact ⟨O, h1, h2.of_block (g.1.block _ h2.lt), fun i hi h => h3 i hi (g.back h)⟩
  | p + 2, ⟨O, h1, h2, h3⟩ => exact ⟨O, h1, h2.of_block (g.1.block _ h2.lt), fun i hi h => h3 i hi (g.back h)⟩

/-- the block is made -/
theorem vary_alloc {n : Nat} {a b : Value} {w : World} (c : Array Value) (hc : c.size = n) (hv : ∀ i, i < n → c[i]? = some a) (hS : S ≤ w.heap.size) (k : phVary T S n a b 0 w) : Vary T S w (w.alloc (.cells c T)) ∧ phVary T S n a b 1 (w.alloc (.cells c T)) ∧ isT T (w.alloc (.cells c T)) w.heap.size := by
  subst hc
  refine ⟨⟨rfl, rfl, rfl, by rw [Go.Deep.nblk_alloc]; omega, fun i hi _ => Go.Deep.blk_alloc_lt _ _ _ hi, fun i hi => hi.of (Go.Deep.blk_alloc_lt _ _ _ hi.lt)⟩, ⟨w.heap.size, hS, World.rowIs_alloc w c T _ hv, fun i hi h => ?_⟩, ⟨c, Go.Deep.blk_alloc_new _ _⟩⟩
  by_cases hlt : i < w.heap.size
  · exact absurd (h.of (Go.Deep.blk_alloc_lt _ _ _ hlt).symm) (k i hi)
  · have := h.lt
    rw [Go.Deep.nblk_alloc] at this
    omega
/-- of the block a cell is written -/
theorem vary_set {n : Nat} {w : World} {O : Nat} {f : Nat → Value} (hO : S ≤ O) (r : w.rowIs O T n f) (i : Nat) (v : Value) : Vary T S w (w.setCell ⟨O, i, none⟩ v) := by
  have tO : isT T w O := by obtain ⟨c, hc, _⟩ := r; exact ⟨c, hc⟩
  refine ⟨rfl, rfl, rfl, by rw [Go.Deep.nblk_setCell]; omega, fun b _ hn => Go.Deep.blk_setCell_other _ _ _ _ (fun e => ?_), fun b hb => ?_⟩
  · have e' : b = O := e
    subst e'
    exact hn ⟨hO, tO⟩
  · by_cases e : b = O
    · subst e
      obtain ⟨c, hc⟩ := hb
      exact ⟨_, blk_setCell _ _ _ _ _ _ hc⟩
    · exact hb.of (Go.Deep.blk_setCell_other _ _ _ _ (by simpa using e))
theorem isT.back {w : World} {O i b : Nat} {v : Value} (h : isT T (w.setCell ⟨O, i, none⟩ v) b) : b = O ∨ isT T w b := by
  by_cases e : b = O
  · exact .inl e
  · exact .inr (h.of (Go.Deep.blk_setCell_other _ _ _ _ (by simpa using e)).symm)

end

end Go.Proofs.Ytocmkmeikcejjaa
