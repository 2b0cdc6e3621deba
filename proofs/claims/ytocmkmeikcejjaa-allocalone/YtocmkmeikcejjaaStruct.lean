/- A struct in a block (its cells as a list), and regions that read it, write one of its cells, and do a step in a memory. -/
import Derived.Test.YtocmkmeikcejjaaLayEnv
import Derived.Test.YtocmkmeikcejjaaBox
import Derived.Test.YtocmkmeikcejjaaPhase
import Derived.Test.YtocmkmeikcejjaaUnword
namespace Go.Proofs.Ytocmkmeikcejjaa
open Go.RowKit

/-- a struct lies in a block, from a place on: its cells -/
structure At (w : World) (b o : Nat) (T : TypeId) (c : Array Value) (l : List Value) : Prop where
  obj : w.heap[b]? = some (.cells c T (0, 0))
  is : ∀ i v, l[i]? = some v → c[o + i]? = some v

/-- all cells but those of the struct are as they were -/
def Same (o k : Nat) (c c' : Array Value) : Prop := c'.size = c.size ∧ ∀ i, ¬ (o ≤ i ∧ i < o + k) → c'[i]? = c[i]?

theorem Same.refl {o k : Nat} {c : Array Value} : Same o k c c := ⟨rfl, fun _ _ => rfl⟩
theorem Same.set {o k : Nat} {c c' : Array Value} (h : Same o k c c') {j : Nat} (hj : o ≤ j ∧ j < o + k) (v : Value) : Same o k c (c'.setIfInBounds j v) :=
  ⟨by rw [Array.size_setIfInBounds]; exact h.1, fun i hi => by rw [Array.getElem?_setIfInBounds_ne (fun e => hi (by rw [← e]; exact hj))]; exact h.2 i hi⟩
theorem Same.trans {o k : Nat} {c c' c'' : Array Value} (h : Same o k c c') (g : Same o k c' c'') : Same o k c c'' := ⟨g.1.trans h.1, fun i hi => (g.2 i hi).trans (h.2 i hi)⟩

namespace At
variable {w w' : World} {b o : Nat} {T : TypeId} {c : Array Value} {l : List Value}

theorem cell (h : At w b o T c l) (i : Nat) {v : Value} (hv : l[i]? = some v) : w.cell? ⟨b, o + i, none⟩ = some v := blk_cell h.obj (h.is i v hv)
theorem cell0 (h : At w b o T c l) {v : Value} (hv : l[0]? = some v) : w.cell? ⟨b, o, none⟩ = some v := h.cell 0 hv
theorem at0 (h : At w b 0 T c l) (i : Nat) {v : Value} (hv : l[i]? = some v) : w.cell? ⟨b, i, none⟩ = some v := by
  have := h.cell i hv
  rwa [Nat.zero_add] at this
theorem fz (h : At w b o T c l) (i : Nat) : w.frozen? ⟨b, i, none⟩ = false := blk_frozen h.obj i
theorem lt (h : At w b o T c l) : b < w.heap.size := blk_lt h.obj
theorem of_block (h : At w b o T c l) (e : w'.heap[b]? = w.heap[b]?) : At w' b o T c l := ⟨e.trans h.obj, h.is⟩
theorem grown (h : At w b o T c l) (g : Below w.heap.size w w') : At w' b o T c l := h.of_block (g.block _ h.lt)
theorem drew (h : At w b o T c l) : At w.drew b o T c l := h.of_block rfl
theorem only {S : Nat → Prop} (h : At w b o T c l) (g : Only S w w') (hs : ¬ S b) : At w' b o T c l := h.of_block (g.block _ h.lt hs)
theorem other (h : At w b o T c l) {k : Nat} (hk : b ≠ k) (i : Nat) (v : Value) : At (w.setCell ⟨k, i, none⟩ v) b o T c l := h.of_block (Go.Deep.blk_setCell_other _ _ _ _ (by simpa using hk))
theorem ltc (h : At w b o T c l) {i : Nat} (hi : i < l.length) : o + i < c.size := by
  have := h.is i _ (List.getElem?_eq_getElem hi)
  exact (Array.getElem?_eq_some_iff.1 this).1
theorem set (h : At w b o T c l) (i : Nat) (v : Value) : At (w.setCell ⟨b, o + i, none⟩ v) b o T (c.setIfInBounds (o + i) v) (l.set i v) :=
  ⟨blk_setCell _ _ _ _ _ _ h.obj, fun j u hj => by
    rw [List.getElem?_set] at hj
    by_cases hij : i = j
    · subst hij
      rw [if_pos rfl] at hj
      by_cases hl : i < l.length
      · rw [if_pos hl] at hj
        rw [Array.getElem?_setIfInBounds_self_of_lt (h.ltc hl)]; exact hj
      · rw [if_neg hl] at hj; cases hj
    · rw [if_neg hij] at hj
      rw [Array.getElem?_setIfInBounds_ne (by omega)]; exact h.is j u hj⟩
theorem put0 (h : At w b 0 T c l) (i : Nat) (v : Value) : At (w.setCell ⟨b, i, none⟩ v) b 0 T (c.setIfInBounds i v) (l.set i v) := by
  have := h.set i v
  rwa [Nat.zero_add] at this
theorem set0 (h : At w b o T c l) (v : Value) : At (w.setCell ⟨b, o, none⟩ v) b o T (c.setIfInBounds o v) (l.set 0 v) := h.set 0 v
theorem new (w : World) (T : TypeId) (l : List Value) : At (w.alloc (.cells l.toArray T)) w.heap.size 0 T l.toArray l :=
  ⟨Go.Deep.blk_alloc_new _ _, fun i v hv => by simpa using hv⟩
end At

theorem Only.andL {L : Loc} {b : Nat} {w w' : World} (h : Only L.has w w') : Only (L.and b) w w' := h.mono fun _ _ k => Or.inl k
theorem Only.set {L : Loc} {b : Nat} {w w' : World} (h : Only (L.and b) w w') (i : Nat) (v : Value) : Only (L.and b) w (w'.setCell ⟨b, i, none⟩ v) := h.setCell (fun _ => Or.inr rfl) v
theorem Only.ofGrown {S : Nat → Prop} {w w' : World} (h : Below w.heap.size w w') : Only S w w' := (Only.ofBelow h).mono fun i hi k => absurd k (by omega)
theorem MemAt.setIn {L : Loc} {s : Mm} {b : Nat} {w : World} (h : MemAt w L s) (hb : ¬ L.has b) (i : Nat) (v : Value) : MemAt (w.setCell ⟨b, i, none⟩ v) L s := h.other hb v
theorem below_setIn {w w' : World} {b : Nat} (h : Below w.heap.size w w') (hb : w.heap.size ≤ b) (i : Nat) (v : Value) : Below w.heap.size w (w'.setCell ⟨b, i, none⟩ v) :=
  ⟨h.os, h.tape, h.output, by rw [Go.Deep.nblk_setCell]; exact h.size, fun k hk => by
    rw [Go.Deep.blk_setCell_other _ _ _ _ (fun e => by simp only at e; omega)]; exact h.block k hk⟩

theorem BoxV.setIn {w : World} {B P : Nat} {c0 c1 c2 c3 c4 c5 c6 who : Int} (h : BoxV w B c0 c1 c2 c3 c4 c5 c6 P who) {b : Nat} (hb : ¬ B = b) (i : Nat) (v : Value) : BoxV (w.setCell ⟨b, i, none⟩ v) B c0 c1 c2 c3 c4 c5 c6 P who :=
  h.only (S := fun k => k = b) (Only.setCell (a := ⟨b, i, none⟩) (Only.refl (fun k => k = b) _) (fun _ => rfl) _) hb

theorem BoxV.newB {w : World} {P : Nat} {c0 c1 c2 c3 c4 c5 c6 who : Int} {T : TypeId} (O : Obj) : BoxV ((w.alloc (.cells #[.int .i64 c0, .int .i64 c1, .int .i64 c2, .int .i64 c3, .int .i64 c4, .int .i64 c5, .int .i64 c6, .pointer (some ⟨P, 0, none⟩), .int .i64 who] T)).alloc O) w.heap.size c0 c1 c2 c3 c4 c5 c6 P who := BoxV.new.grown (grow_alloc (Below.refl _ _) _)

/-- the memory and a struct, while a step is done and what it told is noted -/
def phAt (L : Loc) (b o : Nat) (T : TypeId) (c c' : Array Value) (s s' : Mm) (l l' : List Value) : Nat → World → Prop
  | 0, w => MemAt w L s ∧ At w b o T c l
  | 1, w => MemAt w L s' ∧ At w b o T c l
  | _, w => MemAt w L s' ∧ At w b o T c' l'

theorem phAt_grown {L : Loc} {b o : Nat} {T : TypeId} {c c' : Array Value} {s s' : Mm} {l l' : List Value} (x y : World) (p : Nat) (g : Grown x y) (k : phAt L b o T c c' s s' l l' p x) : phAt L b o T c c' s s' l l' p y := by
  match p, k with
  | 0, k => exact ⟨k.1.below g, k.2.grown g⟩
  | 1, k => exact ⟨k.1.below g, k.2.grown g⟩
  | p + 2, k => exact ⟨k.1.below g, k.2.grown g⟩

/-- of the blocks that were there only the memory's and b were written, and of b only the cell f -/
structure OnlyBut (L : Loc) (b f : Nat) (x y : World) : Prop where
  only : Only (L.and b) x y
  cell : ∀ j, j ≠ f → b < x.heap.size → y.cell? ⟨b, j, none⟩ = x.cell? ⟨b, j, none⟩

namespace OnlyBut
variable {L : Loc} {b f : Nat} {x y z : World}
theorem refl (x : World) : OnlyBut L b f x x := ⟨Only.refl _ _, fun _ _ _ => rfl⟩
theorem trans (x y z : World) (h : OnlyBut L b f x y) (k : OnlyBut L b f y z) : OnlyBut L b f x z :=
  ⟨h.only.trans k.only, fun j hj hb => (k.cell j hj (Nat.lt_of_lt_of_le hb h.only.size)).trans (h.cell j hj hb)⟩
theorem ofGrown (x y : World) (h : Grown x y) : OnlyBut L b f x y := ⟨Only.ofGrown h, fun j _ hb => h.cell (p := ⟨b, j, none⟩) hb⟩
theorem ofOnly (h : Only L.has x y) (hb : ¬ L.has b) : OnlyBut L b f x y := ⟨h.andL, fun j _ hl => h.cell (p := ⟨b, j, none⟩) hl hb⟩
theorem set (x : World) (v : Value) : OnlyBut L b f x (x.setCell ⟨b, f, none⟩ v) := ⟨(Only.refl _ _).set _ _, fun j hj _ => World.cell?_setCell_other _ _ _ _ (fun e => hj (by cases e; rfl))⟩
theorem keep (h : OnlyBut L b f x y) {j : Nat} {v : Value} (hj : j ≠ f) (hc : x.cell? ⟨b, j, none⟩ = some v) : y.cell? ⟨b, j, none⟩ = some v :=
  (h.cell j hj (World.block_lt_of_cell? x _ hc)).trans hc
end OnlyBut

end Go.Proofs.Ytocmkmeikcejjaa
