/- One who lets an object go: its cells in a block, and what each write leaves. -/
import Derived.Test.YtcdmokbamakomabGreatDropHelp
import Derived.Test.YtcdmokbamakomabGreatAllocCamp
namespace Go.Proofs.YtcdmokbamakomabGreat
open Go.RowKit

/-- what stands in the cells of one who lets an object go: what is next; the handle, as what; the slot's word, the chunk, the size; one who helps, one who gives; to what it came -/
structure DV where
  nx : Int
  nu : Int
  own : Bool
  se : Int
  ch : Int
  sz : Int
  hl : List Value
  gl : List Value
  E : Int
  H : Int
  V : Int
  St : Int

/-- they lie in a block, from a place on -/
structure DpAt (w : World) (b o : Nat) (T : TypeId) (c : Array Value) (a : DV) : Prop where
  obj : w.heap[b]? = some (.cells c T (0, 0))
  lhl : a.hl.length = 8
  lgl : a.gl.length = 3
  hl : ∀ i v, a.hl[i]? = some v → c[o + 6 + i]? = some v
  gl : ∀ i v, a.gl[i]? = some v → c[o + 14 + i]? = some v
  nx : c[o]? = some (.int .i64 a.nx)
  nu : c[o + 1]? = some (.int .u64 a.nu)
  own : c[o + 2]? = some (.bool a.own)
  se : c[o + 3]? = some (.int .u64 a.se)
  ch : c[o + 4]? = some (.int .i64 a.ch)
  sz : c[o + 5]? = some (.int .i64 a.sz)
  E : c[o + 17]? = some (.int .i64 a.E)
  H : c[o + 18]? = some (.int .u64 a.H)
  V : c[o + 19]? = some (.int .i64 a.V)
  St : c[o + 20]? = some (.int .i64 a.St)

namespace DpAt
variable {w w' : World} {b o : Nat} {T : TypeId} {c c' : Array Value} {a : DV}

theorem lt (h : DpAt w b o T c a) : b < w.heap.size := blk_lt h.obj
theorem fz (h : DpAt w b o T c a) (i : Nat) : w.frozen? ⟨b, i, none⟩ = false := blk_frozen h.obj i
theorem of_block (h : DpAt w b o T c a) (e : w'.heap[b]? = w.heap[b]?) : DpAt w' b o T c a := { h with obj := e.trans h.obj }
theorem grown (h : DpAt w b o T c a) (g : Below w.heap.size w w') : DpAt w' b o T c a := h.of_block (g.block _ h.lt)
theorem drew (h : DpAt w b o T c a) : DpAt w.drew b o T c a := h.of_block rfl
theorem only {S : Nat → Prop} (h : DpAt w b o T c a) (g : Only S w w') (hs : ¬ S b) : DpAt w' b o T c a := h.of_block (g.block _ h.lt hs)
theorem other (h : DpAt w b o T c a) {k : Nat} (hk : b ≠ k) (i : Nat) (v : Value) : DpAt (w.setCell ⟨k, i, none⟩ v) b o T c a := h.of_block (Go.Deep.blk_setCell_other _ _ _ _ (by simpa using hk))
theorem hlAt (h : DpAt w b o T c a) : At w b (o + 6) T c a.hl := ⟨h.obj, h.hl⟩
theorem glAt (h : DpAt w b o T c a) : At w b (o + 14) T c a.gl := ⟨h.obj, h.gl⟩
theorem c_nx (h : DpAt w b o T c a) : w.cell? ⟨b, o, none⟩ = some (.int .i64 a.nx) := blk_cell h.obj h.nx
theorem c_nu (h : DpAt w b o T c a) : w.cell? ⟨b, o + 1, none⟩ = some (.int .u64 a.nu) := blk_cell h.obj h.nu
theorem c_own (h : DpAt w b o T c a) : w.cell? ⟨b, o + 2, none⟩ = some (.bool a.own) := blk_cell h.obj h.own
theorem c_se (h : DpAt w b o T c a) : w.cell? ⟨b, o + 3, none⟩ = some (.int .u64 a.se) := blk_cell h.obj h.se
theorem c_ch (h : DpAt w b o T c a) : w.cell? ⟨b, o + 4, none⟩ = some (.int .i64 a.ch) := blk_cell h.obj h.ch
theorem c_sz (h : DpAt w b o T c a) : w.cell? ⟨b, o + 5, none⟩ = some (.int .i64 a.sz) := blk_cell h.obj h.sz
theorem c_E (h : DpAt w b o T c a) : w.cell? ⟨b, o + 17, none⟩ = some (.int .i64 a.E) := blk_cell h.obj h.E
theorem c_H (h : DpAt w b o T c a) : w.cell? ⟨b, o + 18, none⟩ = some (.int .u64 a.H) := blk_cell h.obj h.H
theorem c_V (h : DpAt w b o T c a) : w.cell? ⟨b, o + 19, none⟩ = some (.int .i64 a.V) := blk_cell h.obj h.V
theorem c_St (h : DpAt w b o T c a) : w.cell? ⟨b, o + 20, none⟩ = some (.int .i64 a.St) := blk_cell h.obj h.St
theorem c_hl0 (h : DpAt w b o T c a) : ∃ v, w.cell? ⟨b, o + 6, none⟩ = some v := ⟨_, blk_cell (o := o + 6 + 0) h.obj (h.hl 0 _ (List.getElem?_eq_getElem (by rw [h.lhl]; decide)))⟩
theorem c_hl1 (h : DpAt w b o T c a) : ∃ v, w.cell? ⟨b, o + 7, none⟩ = some v := ⟨_, blk_cell (o := o + 6 + 1) h.obj (h.hl 1 _ (List.getElem?_eq_getElem (by rw [h.lhl]; decide)))⟩
theorem c_hl2 (h : DpAt w b o T c a) : ∃ v, w.cell? ⟨b, o + 8, none⟩ = some v := ⟨_, blk_cell (o := o + 6 + 2) h.obj (h.hl 2 _ (List.getElem?_eq_getElem (by rw [h.lhl]; decide)))⟩
theorem c_hl3 (h : DpAt w b o T c a) : ∃ v, w.cell? ⟨b, o + 9, none⟩ = some v := ⟨_, blk_cell (o := o + 6 + 3) h.obj (h.hl 3 _ (List.getElem?_eq_getElem (by rw [h.lhl]; decide)))⟩
theorem c_hl4 (h : DpAt w b o T c a) : ∃ v, w.cell? ⟨b, o + 10, none⟩ = some v := ⟨_, blk_cell (o := o + 6 + 4) h.obj (h.hl 4 _ (List.getElem?_eq_getElem (by rw [h.lhl]; decide)))⟩
theorem c_hl5 (h : DpAt w b o T c a) : ∃ v, w.cell? ⟨b, o + 11, none⟩ = some v := ⟨_, blk_cell (o := o + 6 + 5) h.obj (h.hl 5 _ (List.getElem?_eq_getElem (by rw [h.lhl]; decide)))⟩
theorem c_hl6 (h : DpAt w b o T c a) : ∃ v, w.cell? ⟨b, o + 12, none⟩ = some v := ⟨_, blk_cell (o := o + 6 + 6) h.obj (h.hl 6 _ (List.getElem?_eq_getElem (by rw [h.lhl]; decide)))⟩
theorem c_hl7 (h : DpAt w b o T c a) : ∃ v, w.cell? ⟨b, o + 13, none⟩ = some v := ⟨_, blk_cell (o := o + 6 + 7) h.obj (h.hl 7 _ (List.getElem?_eq_getElem (by rw [h.lhl]; decide)))⟩
theorem c_gl0 (h : DpAt w b o T c a) : ∃ v, w.cell? ⟨b, o + 14, none⟩ = some v := ⟨_, blk_cell (o := o + 14 + 0) h.obj (h.gl 0 _ (List.getElem?_eq_getElem (by rw [h.lgl]; decide)))⟩
theorem c_gl1 (h : DpAt w b o T c a) : ∃ v, w.cell? ⟨b, o + 15, none⟩ = some v := ⟨_, blk_cell (o := o + 14 + 1) h.obj (h.gl 1 _ (List.getElem?_eq_getElem (by rw [h.lgl]; decide)))⟩
theorem c_gl2 (h : DpAt w b o T c a) : ∃ v, w.cell? ⟨b, o + 16, none⟩ = some v := ⟨_, blk_cell (o := o + 14 + 2) h.obj (h.gl 2 _ (List.getElem?_eq_getElem (by rw [h.lgl]; decide)))⟩
theorem set_nx (h : DpAt w b o T c a) (x : Int) : DpAt (w.setCell ⟨b, o, none⟩ (.int .i64 x)) b o T (c.setIfInBounds (o) (.int .i64 x)) { a with nx := x } :=
  ⟨blk_setCell _ _ _ _ _ _ h.obj, h.lhl, h.lgl, rowskip h.hl _ (by have := h.lhl; omega), rowskip h.gl _ (by have := h.lgl; omega), putc _ h.nx, keepc h.nu (by omega), keepc h.own (by omega), keepc h.se (by omega), keepc h.ch (by omega), keepc h.sz (by omega), keepc h.E (by omega), keepc h.H (by omega), keepc h.V (by omega), keepc h.St (by omega)⟩
theorem set_nu (h : DpAt w b o T c a) (x : Int) : DpAt (w.setCell ⟨b, o + 1, none⟩ (.int .u64 x)) b o T (c.setIfInBounds (o + 1) (.int .u64 x)) { a with nu := x } :=
  ⟨blk_setCell _ _ _ _ _ _ h.obj, h.lhl, h.lgl, rowskip h.hl _ (by have := h.lhl; omega), rowskip h.gl _ (by have := h.lgl; omega), keepc h.nx (by omega), putc _ h.nu, keepc h.own (by omega), keepc h.se (by omega), keepc h.ch (by omega), keepc h.sz (by omega), keepc h.E (by omega), keepc h.H (by omega), keepc h.V (by omega), keepc h.St (by omega)⟩
theorem set_own (h : DpAt w b o T c a) (x : Bool) : DpAt (w.setCell ⟨b, o + 2, none⟩ (.bool x)) b o T (c.setIfInBounds (o + 2) (.bool x)) { a with own := x } :=
  ⟨blk_setCell _ _ _ _ _ _ h.obj, h.lhl, h.lgl, rowskip h.hl _ (by have := h.lhl; omega), rowskip h.gl _ (by have := h.lgl; omega), keepc h.nx (by omega), keepc h.nu (by omega), putc _ h.own, keepc h.se (by omega), keepc h.ch (by omega), keepc h.sz (by omega), keepc h.E (by omega), keepc h.H (by omega), keepc h.V (by omega), keepc h.St (by omega)⟩
theorem set_se (h : DpAt w b o T c a) (x : Int) : DpAt (w.setCell ⟨b, o + 3, none⟩ (.int .u64 x)) b o T (c.setIfInBounds (o + 3) (.int .u64 x)) { a with se := x } :=
  ⟨blk_setCell _ _ _ _ _ _ h.obj, h.lhl, h.lgl, rowskip h.hl _ (by have := h.lhl; omega), rowskip h.gl _ (by have := h.lgl; omega), keepc h.nx (by omega), keepc h.nu (by omega), keepc h.own (by omega), putc _ h.se, keepc h.ch (by omega), keepc h.sz (by omega), keepc h.E (by omega), keepc h.H (by omega), keepc h.V (by omega), keepc h.St (by omega)⟩
theorem set_ch (h : DpAt w b o T c a) (x : Int) : DpAt (w.setCell ⟨b, o + 4, none⟩ (.int .i64 x)) b o T (c.setIfInBounds (o + 4) (.int .i64 x)) { a with ch := x } :=
  ⟨blk_setCell _ _ _ _ _ _ h.obj, h.lhl, h.lgl, rowskip h.hl _ (by have := h.lhl; omega), rowskip h.gl _ (by have := h.lgl; omega), keepc h.nx (by omega), keepc h.nu (by omega), keepc h.own (by omega), keepc h.se (by omega), putc _ h.ch, keepc h.sz (by omega), keepc h.E (by omega), keepc h.H (by omega), keepc h.V (by omega), keepc h.St (by omega)⟩
theorem set_sz (h : DpAt w b o T c a) (x : Int) : DpAt (w.setCell ⟨b, o + 5, none⟩ (.int .i64 x)) b o T (c.setIfInBounds (o + 5) (.int .i64 x)) { a with sz := x } :=
  ⟨blk_setCell _ _ _ _ _ _ h.obj, h.lhl, h.lgl, rowskip h.hl _ (by have := h.lhl; omega), rowskip h.gl _ (by have := h.lgl; omega), keepc h.nx (by omega), keepc h.nu (by omega), keepc h.own (by omega), keepc h.se (by omega), keepc h.ch (by omega), putc _ h.sz, keepc h.E (by omega), keepc h.H (by omega), keepc h.V (by omega), keepc h.St (by omega)⟩
theorem set_E (h : DpAt w b o T c a) (x : Int) : DpAt (w.setCell ⟨b, o + 17, none⟩ (.int .i64 x)) b o T (c.setIfInBounds (o + 17) (.int .i64 x)) { a with E := x } :=
  ⟨blk_setCell _ _ _ _ _ _ h.obj, h.lhl, h.lgl, rowskip h.hl _ (by have := h.lhl; omega), rowskip h.gl _ (by have := h.lgl; omega), keepc h.nx (by omega), keepc h.nu (by omega), keepc h.own (by omega), keepc h.se (by omega), keepc h.ch (by omega), keepc h.sz (by omega), putc _ h.E, keepc h.H (by omega), keepc h.V (by omega), keepc h.St (by omega)⟩
theorem set_H (h : DpAt w b o T c a) (x : Int) : DpAt (w.setCell ⟨b, o + 18, none⟩ (.int .u64 x)) b o T (c.setIfInBounds (o + 18) (.int .u64 x)) { a with H := x } :=
  ⟨blk_setCell _ _ _ _ _ _ h.obj, h.lhl, h.lgl, rowskip h.hl _ (by have := h.lhl; omega), rowskip h.gl _ (by have := h.lgl; omega), keepc h.nx (by omega), keepc h.nu (by omega), keepc h.own (by omega), keepc h.se (by omega), keepc h.ch (by omega), keepc h.sz (by omega), keepc h.E (by omega), putc _ h.H, keepc h.V (by omega), keepc h.St (by omega)⟩
theorem set_V (h : DpAt w b o T c a) (x : Int) : DpAt (w.setCell ⟨b, o + 19, none⟩ (.int .i64 x)) b o T (c.setIfInBounds (o + 19) (.int .i64 x)) { a with V := x } :=
  ⟨blk_setCell _ _ _ _ _ _ h.obj, h.lhl, h.lgl, rowskip h.hl _ (by have := h.lhl; omega), rowskip h.gl _ (by have := h.lgl; omega), keepc h.nx (by omega), keepc h.nu (by omega), keepc h.own (by omega), keepc h.se (by omega), keepc h.ch (by omega), keepc h.sz (by omega), keepc h.E (by omega), keepc h.H (by omega), putc _ h.V, keepc h.St (by omega)⟩
theorem set_St (h : DpAt w b o T c a) (x : Int) : DpAt (w.setCell ⟨b, o + 20, none⟩ (.int .i64 x)) b o T (c.setIfInBounds (o + 20) (.int .i64 x)) { a with St := x } :=
  ⟨blk_setCell _ _ _ _ _ _ h.obj, h.lhl, h.lgl, rowskip h.hl _ (by have := h.lhl; omega), rowskip h.gl _ (by have := h.lgl; omega), keepc h.nx (by omega), keepc h.nu (by omega), keepc h.own (by omega), keepc h.se (by omega), keepc h.ch (by omega), keepc h.sz (by omega), keepc h.E (by omega), keepc h.H (by omega), keepc h.V (by omega), putc _ h.St⟩
theorem set_hl0 (h : DpAt w b o T c a) (x : Value) : DpAt (w.setCell ⟨b, o + 6, none⟩ x) b o T (c.setIfInBounds (o + 6) x) { a with hl := a.hl.set 0 x } :=
  ⟨blk_setCell _ _ _ _ _ _ h.obj, (by rw [List.length_set]; exact h.lhl), h.lgl, rowset h.hl 0 x, rowskip h.gl _ (by have := h.lgl; omega), keepc h.nx (by omega), keepc h.nu (by omega), keepc h.own (by omega), keepc h.se (by omega), keepc h.ch (by omega), keepc h.sz (by omega), keepc h.E (by omega), keepc h.H (by omega), keepc h.V (by omega), keepc h.St (by omega)⟩
theorem set_hl1 (h : DpAt w b o T c a) (x : Value) : DpAt (w.setCell ⟨b, o + 7, none⟩ x) b o T (c.setIfInBounds (o + 7) x) { a with hl := a.hl.set 1 x } :=
  ⟨blk_setCell _ _ _ _ _ _ h.obj, (by rw [List.length_set]; exact h.lhl), h.lgl, rowset h.hl 1 x, rowskip h.gl _ (by have := h.lgl; omega), keepc h.nx (by omega), keepc h.nu (by omega), keepc h.own (by omega), keepc h.se (by omega), keepc h.ch (by omega), keepc h.sz (by omega), keepc h.E (by omega), keepc h.H (by omega), keepc h.V (by omega), keepc h.St (by omega)⟩
theorem set_hl2 (h : DpAt w b o T c a) (x : Value) : DpAt (w.setCell ⟨b, o + 8, none⟩ x) b o T (c.setIfInBounds (o + 8) x) { a with hl := a.hl.set 2 x } :=
  ⟨blk_setCell _ _ _ _ _ _ h.obj, (by rw [List.length_set]; exact h.lhl), h.lgl, rowset h.hl 2 x, rowskip h.gl _ (by have := h.lgl; omega), keepc h.nx (by omega), keepc h.nu (by omega), keepc h.own (by omega), keepc h.se (by omega), keepc h.ch (by omega), keepc h.sz (by omega), keepc h.E (by omega), keepc h.H (by omega), keepc h.V (by omega), keepc h.St (by omega)⟩
theorem set_hl3 (h : DpAt w b o T c a) (x : Value) : DpAt (w.setCell ⟨b, o + 9, none⟩ x) b o T (c.setIfInBounds (o + 9) x) { a with hl := a.hl.set 3 x } :=
  ⟨blk_setCell _ _ _ _ _ _ h.obj, (by rw [List.length_set]; exact h.lhl), h.lgl, rowset h.hl 3 x, rowskip h.gl _ (by have := h.lgl; omega), keepc h.nx (by omega), keepc h.nu (by omega), keepc h.own (by omega), keepc h.se (by omega), keepc h.ch (by omega), keepc h.sz (by omega), keepc h.E (by omega), keepc h.H (by omega), keepc h.V (by omega), keepc h.St (by omega)⟩
theorem set_hl4 (h : DpAt w b o T c a) (x : Value) : DpAt (w.setCell ⟨b, o + 10, none⟩ x) b o T (c.setIfInBounds (o + 10) x) { a with hl := a.hl.set 4 x } :=
  ⟨blk_setCell _ _ _ _ _ _ h.obj, (by rw [List.length_set]; exact h.lhl), h.lgl, rowset h.hl 4 x, rowskip h.gl _ (by have := h.lgl; omega), keepc h.nx (by omega), keepc h.nu (by omega), keepc h.own (by omega), keepc h.se (by omega), keepc h.ch (by omega), keepc h.sz (by omega), keepc h.E (by omega), keepc h.H (by omega), keepc h.V (by omega), keepc h.St (by omega)⟩
theorem set_hl5 (h : DpAt w b o T c a) (x : Value) : DpAt (w.setCell ⟨b, o + 11, none⟩ x) b o T (c.setIfInBounds (o + 11) x) { a with hl := a.hl.set 5 x } :=
  ⟨blk_setCell _ _ _ _ _ _ h.obj, (by rw [List.length_set]; exact h.lhl), h.lgl, rowset h.hl 5 x, rowskip h.gl _ (by have := h.lgl; omega), keepc h.nx (by omega), keepc h.nu (by omega), keepc h.own (by omega), keepc h.se (by omega), keepc h.ch (by omega), keepc h.sz (by omega), keepc h.E (by omega), keepc h.H (by omega), keepc h.V (by omega), keepc h.St (by omega)⟩
theorem set_hl6 (h : DpAt w b o T c a) (x : Value) : DpAt (w.setCell ⟨b, o + 12, none⟩ x) b o T (c.setIfInBounds (o + 12) x) { a with hl := a.hl.set 6 x } :=
  ⟨blk_setCell _ _ _ _ _ _ h.obj, (by rw [List.length_set]; exact h.lhl), h.lgl, rowset h.hl 6 x, rowskip h.gl _ (by have := h.lgl; omega), keepc h.nx (by omega), keepc h.nu (by omega), keepc h.own (by omega), keepc h.se (by omega), keepc h.ch (by omega), keepc h.sz (by omega), keepc h.E (by omega), keepc h.H (by omega), keepc h.V (by omega), keepc h.St (by omega)⟩
theorem set_hl7 (h : DpAt w b o T c a) (x : Value) : DpAt (w.setCell ⟨b, o + 13, none⟩ x) b o T (c.setIfInBounds (o + 13) x) { a with hl := a.hl.set 7 x } :=
  ⟨blk_setCell _ _ _ _ _ _ h.obj, (by rw [List.length_set]; exact h.lhl), h.lgl, rowset h.hl 7 x, rowskip h.gl _ (by have := h.lgl; omega), keepc h.nx (by omega), keepc h.nu (by omega), keepc h.own (by omega), keepc h.se (by omega), keepc h.ch (by omega), keepc h.sz (by omega), keepc h.E (by omega), keepc h.H (by omega), keepc h.V (by omega), keepc h.St (by omega)⟩
theorem set_gl0 (h : DpAt w b o T c a) (x : Value) : DpAt (w.setCell ⟨b, o + 14, none⟩ x) b o T (c.setIfInBounds (o + 14) x) { a with gl := a.gl.set 0 x } :=
  ⟨blk_setCell _ _ _ _ _ _ h.obj, h.lhl, (by rw [List.length_set]; exact h.lgl), rowskip h.hl _ (by have := h.lhl; omega), rowset h.gl 0 x, keepc h.nx (by omega), keepc h.nu (by omega), keepc h.own (by omega), keepc h.se (by omega), keepc h.ch (by omega), keepc h.sz (by omega), keepc h.E (by omega), keepc h.H (by omega), keepc h.V (by omega), keepc h.St (by omega)⟩
theorem set_gl1 (h : DpAt w b o T c a) (x : Value) : DpAt (w.setCell ⟨b, o + 15, none⟩ x) b o T (c.setIfInBounds (o + 15) x) { a with gl := a.gl.set 1 x } :=
  ⟨blk_setCell _ _ _ _ _ _ h.obj, h.lhl, (by rw [List.length_set]; exact h.lgl), rowskip h.hl _ (by have := h.lhl; omega), rowset h.gl 1 x, keepc h.nx (by omega), keepc h.nu (by omega), keepc h.own (by omega), keepc h.se (by omega), keepc h.ch (by omega), keepc h.sz (by omega), keepc h.E (by omega), keepc h.H (by omega), keepc h.V (by omega), keepc h.St (by omega)⟩
theorem set_gl2 (h : DpAt w b o T c a) (x : Value) : DpAt (w.setCell ⟨b, o + 16, none⟩ x) b o T (c.setIfInBounds (o + 16) x) { a with gl := a.gl.set 2 x } :=
  ⟨blk_setCell _ _ _ _ _ _ h.obj, h.lhl, (by rw [List.length_set]; exact h.lgl), rowskip h.hl _ (by have := h.lhl; omega), rowset h.gl 2 x, keepc h.nx (by omega), keepc h.nu (by omega), keepc h.own (by omega), keepc h.se (by omega), keepc h.ch (by omega), keepc h.sz (by omega), keepc h.E (by omega), keepc h.H (by omega), keepc h.V (by omega), keepc h.St (by omega)⟩
theorem step_hl (h : DpAt w b o T c a) {l : List Value} (hA : At w' b (o + 6) T c' l) (hl : l.length = 8) (sm : Same (o + 6) 8 c c') : DpAt w' b o T c' { a with hl := l } :=
  ⟨hA.obj, hl, h.lgl, hA.is, fun i v hv => (sm.2 _ (by have := lt_of_some (l := a.gl) hv; have := h.lgl; omega)).trans (h.gl i v hv), (sm.2 _ (by omega)).trans h.nx, (sm.2 _ (by omega)).trans h.nu, (sm.2 _ (by omega)).trans h.own, (sm.2 _ (by omega)).trans h.se, (sm.2 _ (by omega)).trans h.ch, (sm.2 _ (by omega)).trans h.sz, (sm.2 _ (by omega)).trans h.E, (sm.2 _ (by omega)).trans h.H, (sm.2 _ (by omega)).trans h.V, (sm.2 _ (by omega)).trans h.St⟩
theorem step_gl (h : DpAt w b o T c a) {l : List Value} (hA : At w' b (o + 14) T c' l) (hl : l.length = 3) (sm : Same (o + 14) 3 c c') : DpAt w' b o T c' { a with gl := l } :=
  ⟨hA.obj, h.lhl, hl, fun i v hv => (sm.2 _ (by have := lt_of_some (l := a.hl) hv; have := h.lhl; omega)).trans (h.hl i v hv), hA.is, (sm.2 _ (by omega)).trans h.nx, (sm.2 _ (by omega)).trans h.nu, (sm.2 _ (by omega)).trans h.own, (sm.2 _ (by omega)).trans h.se, (sm.2 _ (by omega)).trans h.ch, (sm.2 _ (by omega)).trans h.sz, (sm.2 _ (by omega)).trans h.E, (sm.2 _ (by omega)).trans h.H, (sm.2 _ (by omega)).trans h.V, (sm.2 _ (by omega)).trans h.St⟩
end DpAt

theorem len8 {l : List Value} (h : l.length = 8) : ∃ a b c d e f g i, l = [a, b, c, d, e, f, g, i] := by
  match l, h with
  | [a, b, c, d, e, f, g, i], _ => exact ⟨a, b, c, d, e, f, g, i, rfl⟩

/-- the memory and the cells behind a step of one who lets an object go -/
def Dact (L : Loc) (b o : Nat) (T : TypeId) (cs : Array Value) (w w' : World) (X : Mm → DV → Prop) : Prop :=
  ∃ s' cs' a', MemAt w' L s' ∧ Only (L.and b) w w' ∧ DpAt w' b o T cs' a' ∧ Same o 21 cs cs' ∧ X s' a'

/-- the memory and one who lets an object go, while a step is done and what it told is noted -/
def phDp (L : Loc) (b o : Nat) (T : TypeId) (c c' : Array Value) (s s' : Mm) (a a' : DV) : Nat → World → Prop
  | 0, w => MemAt w L s ∧ DpAt w b o T c a
  | 1, w => MemAt w L s' ∧ DpAt w b o T c a
  | _, w => MemAt w L s' ∧ DpAt w b o T c' a'

theorem phDp_grown {L : Loc} {b o : Nat} {T : TypeId} {c c' : Array Value} {s s' : Mm} {a a' : DV} (x y : World) (p : Nat) (g : Grown x y) (k : phDp L b o T c c' s s' a a' p x) : phDp L b o T c c' s s' a a' p y := by
  match p, k with
  | 0, k => exact ⟨k.1.below g, k.2.grown g⟩
  | 1, k => exact ⟨k.1.below g, k.2.grown g⟩
  | p + 2, k => exact ⟨k.1.below g, k.2.grown g⟩

/-- one who begins -/
def dv0 (H : Int) (own : Bool) : DV := ⟨0, H, own, 0, 0, 0, HpV 0 0 0 0 0 false false false, GvV 0 0 0, 0, 0, 0, 0⟩

end Go.Proofs.YtcdmokbamakomabGreat

/- What a step of one who lets an object go comes to (package drop), method by method. -/
namespace Go.Proofs.YtcdmokbamakomabGreat
open Go.RowKit

end Go.Proofs.YtcdmokbamakomabGreat
