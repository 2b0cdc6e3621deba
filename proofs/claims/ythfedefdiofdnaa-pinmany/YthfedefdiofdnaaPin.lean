/- What package pin's functions come to: each step of a thread that pins, and what it leaves. -/
import Derived.Test.YthfedefdiofdnaaBox
import Derived.Test.YthfedefdiofdnaaPhase
namespace Go.Proofs.Ythfedefdiofdnaa
open Go.RowKit

theorem haspin_any (L : Loc) (c0 c1 c2 c3 c4 c5 c6 who : Int) (h0 : 0 ≤ who) (h1 : who < c0) (w : World) :
    Calls Try.prog 17 #[.agg #[.int .i64 c0, .int .i64 c1, .int .i64 c2, .int .i64 c3, .int .i64 c4, .int .i64 c5, .int .i64 c6, .pointer (some ⟨L.p, 0, none⟩), .int .i64 who]] w fun e w' => e = .returned (.bool true) ∧ Below w.heap.size w w' := by
  go_enter Try.func17, Try.ntmps17
  go_wp2
  go_ret
  exact ⟨rfl, grow_alloc (Below.refl _ _) _⟩

/-- a thread that pins lies in a block: what it does next, and the epoch that it loaded last -/
structure InAt (w : World) (b o : Nat) (T : TypeId) (c : Array Value) (nx ep : Int) : Prop where
  obj : w.heap[b]? = some (.cells c T (0, 0))
  h0 : c[o]? = some (.int .i64 nx)
  h1 : c[o + 1]? = some (.int .u64 ep)

/-- all cells but the two are as they were -/
def Same2 (o : Nat) (c c' : Array Value) : Prop := c'.size = c.size ∧ ∀ i, i ≠ o → i ≠ o + 1 → c'[i]? = c[i]?

section
variable {w w' : World} {b o : Nat} {T : TypeId} {c : Array Value} {nx ep : Int}

theorem Same2.refl : Same2 o c c := ⟨rfl, fun _ _ _ => rfl⟩
theorem Same2.trans {c' c'' : Array Value} (h : Same2 o c c') (k : Same2 o c' c'') : Same2 o c c'' := ⟨k.1.trans h.1, fun i h1 h2 => (k.2 i h1 h2).trans (h.2 i h1 h2)⟩
theorem Same2.set0 (v : Value) : Same2 o c (c.setIfInBounds o v) := ⟨by simp, fun i h1 _ => by simp [Ne.symm h1]⟩
theorem Same2.set1 (v : Value) : Same2 o c (c.setIfInBounds (o + 1) v) := ⟨by simp, fun i _ h2 => by simp [Ne.symm h2]⟩

theorem InAt.c0 (h : InAt w b o T c nx ep) : w.cell? ⟨b, o, none⟩ = some (.int .i64 nx) := blk_cell h.obj h.h0
theorem InAt.c1 (h : InAt w b o T c nx ep) : w.cell? ⟨b, o + 1, none⟩ = some (.int .u64 ep) := blk_cell h.obj h.h1
theorem InAt.fz (h : InAt w b o T c nx ep) (i : Nat) : w.frozen? ⟨b, i, none⟩ = false := blk_frozen h.obj i
theorem InAt.lt (h : InAt w b o T c nx ep) : b < w.heap.size := blk_lt h.obj
theorem InAt.lt0 (h : InAt w b o T c nx ep) : o < c.size := (Array.getElem?_eq_some_iff.1 h.h0).1
theorem InAt.lt1 (h : InAt w b o T c nx ep) : o + 1 < c.size := (Array.getElem?_eq_some_iff.1 h.h1).1

theorem InAt.of_block (h : InAt w b o T c nx ep) (e : w'.heap[b]? = w.heap[b]?) : InAt w' b o T c nx ep := ⟨e.trans h.obj, h.h0, h.h1⟩
theorem InAt.grown (h : InAt w b o T c nx ep) (g : Below w.heap.size w w') : InAt w' b o T c nx ep := h.of_block (g.block _ h.lt)
theorem InAt.only {S : Nat → Prop} (h : InAt w b o T c nx ep) (g : Only S w w') (hs : ¬ S b) : InAt w' b o T c nx ep := h.of_block (g.block _ h.lt hs)

theorem InAt.set0 (h : InAt w b o T c nx ep) (n : Int) : InAt (w.setCell ⟨b, o, none⟩ (.int .i64 n)) b o T (c.setIfInBounds o (.int .i64 n)) n ep :=
  ⟨blk_setCell _ _ _ _ _ _ h.obj, by simp [h.lt0], by rw [Array.getElem?_setIfInBounds_ne (by omega)]; exact h.h1⟩
theorem InAt.set1 (h : InAt w b o T c nx ep) (n : Int) : InAt (w.setCell ⟨b, o + 1, none⟩ (.int .u64 n)) b o T (c.setIfInBounds (o + 1) (.int .u64 n)) nx n :=
  ⟨blk_setCell _ _ _ _ _ _ h.obj, by rw [Array.getElem?_setIfInBounds_ne (by omega)]; exact h.h0, by simp [h.lt1]⟩
end

end Go.Proofs.Ythfedefdiofdnaa
