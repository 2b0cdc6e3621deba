/- One who lets an object go: its cells in a block, and what each write leaves. -/
import Derived.Test.YtcdmokbamakomaaGreatDropHelp
import Derived.Test.YtcdmokbamakomaaGreatAllocCamp
namespace Go.Proofs.YtcdmokbamakomaaGreat
open Go.RowKit

/-- what stands in the cells of one who lets an object go: what is next; the handle, as what; the slot's word, the chunk, the size; one who helps, one who gives; to what it came -/
structure DV where
  nx : Int
  nu : Int
  own : Bool
  se : Int
  ch : Int
  sz : Int
  hl : List Value
  gl : List Value
  E : Int
  H : Int
  V : Int
  St : Int

/-- they lie in a block, from a place on -/
structure DpAt (w : World) (b o : Nat) (T : TypeId) (c : Array Value) (a : DV) : Prop where
  obj : w.heap[b]? = some (.cells c T (0, 0))
  lhl : a.hl.length = 8
  lgl : a.gl.length = 3
  hl : ∀ i v, a.hl[i]? = some v → c[o + 6 + i]? = some v
  gl : ∀ i v, a.gl[i]? = some v → c[o + 14 + i]? = some v
  nx : c[o]? = some (.int .i64 a.nx)
  nu : c[o + 1]? = some (.int .u64 a.nu)
  own : c[o + 2]? = some (.bool a.own)
  se : c[o + 3]? = some (.int .u64 a.se)
  ch : c[o + 4]? = some (.int .i64 a.ch)
  sz : c[o + 5]? = some (.int .i64 a.sz)
  E : c[o + 17]? = some (.int .i64 a.E)
  H : c[o + 18]? = some (.int .u64 a.H)
  V : c[o + 19]? = some (.int .i64 a.V)
  St : c[o + 20]? = some (.int .i64 a.St)

namespace DpAt
variable {w w' : World} {b o : Nat} {T : TypeId} {c c' : Array Value} {a : DV}

theorem lt (h : DpAt w b o T c a) : b < w.heap.size := blk_lt h.obj
theorem fz (h : DpAt w b o T c a) (i : Nat) : w.frozen? ⟨b, i, none⟩ = false := blk_frozen h.obj i
theorem of_block (h : DpAt w b o T c a) (e : w'.heap[b]? = w.heap[b]?) : DpAt w' b o T c a := { h with obj := e.trans h.obj }
theorem grown (h : DpAt w b o T c a) (g : Below w.heap.size w w') : DpAt w' b o T c a := h.of_block (g.block _ h.lt)
theorem drew (h : DpAt w b o T c a) : DpAt w.drew b o T c a := h.of_block rfl
theorem only {S : Nat → Prop} (h : DpAt w b o T c a) (g : Only S w w') (hs : ¬ S b) : DpAt w' b o T c a := h.of_block (g.block _ h.lt hs)
theorem hlAt (h : DpAt w b o T c a) : At w b (o + 6) T c a.hl := ⟨h.obj, h.hl⟩
theorem glAt (h : DpAt w b o T c a) : At w b (o + 14) T c a.gl := ⟨h.obj, h.gl⟩
theorem c_nx (h : DpAt w b o T c a) : w.cell? ⟨b, o, none⟩ = some (.int .i64 a.nx) := blk_cell h.obj h.nx
theorem c_nu (h : DpAt w b o T c a) : w.cell? ⟨b, o + 1, none⟩ = some (.int .u64 a.nu) := blk_cell h.obj h.nu
theorem c_own (h : DpAt w b o T c a) : w.cell? ⟨b, o + 2, none⟩ = some (.bool a.own) := blk_cell h.obj h.own
theorem c_se (h : DpAt w b o T c a) : w.cell? ⟨b, o + 3, none⟩ = some (.int .u64 a.se) := blk_cell h.obj h.se
theorem c_ch (h : DpAt w b o T c a) : w.cell? ⟨b, o + 4, none⟩ = some (.int .i64 a.ch) := blk_cell h.obj h.ch
theorem c_sz (h : DpAt w b o T c a) : w.cell? ⟨b, o + 5, none⟩ = some (.int .i64 a.sz) := blk_cell h.obj h.sz
theorem c_E (h : DpAt w b o T c a) : w.cell? ⟨b, o + 17, none⟩ = some (.int .i64 a.E) := blk_cell h.obj h.E
theorem c_H (h : DpAt w b o T c a) : w.cell? ⟨b, o + 18, none⟩ = some (.int .u64 a.H) := blk_cell h.obj h.H
theorem c_V (h : DpAt w b o T c a) : w.cell? ⟨b, o + 19, none⟩ = some (.int .i64 a.V) := blk_cell h.obj h.V
theorem c_St (h : DpAt w b o T c a) : w.cell? ⟨b, o + 20, none⟩ = some (.int .i64 a.St) := blk_cell h.obj h.St
theorem c_hl0 (h : DpAt w b o T c a) : ∃ v, w.cell? ⟨b, o + 6, none⟩ = some v := ⟨_, blk_cell (o := o + 6 + 0) h.obj (h.hl 0 _ (List.getElem?_eq_getElem (by rw [h.lhl]; decide)))⟩
theorem c_hl1 (h : DpAt w b o T c a) : ∃ v, w.cell? ⟨b, o + 7, none⟩ = some v := ⟨_, blk_cell (o := o + 6 + 1) h.obj (h.hl 1 _ (List.getElem?_eq_getElem (by rw [h.lhl]; decide)))⟩
theorem c_hl2 (h : DpAt w b o T c a) : ∃ v, w.cell? ⟨b, o + 8, none⟩ = some v := ⟨_, blk_cell (o := o + 6 + 2) h.obj (h.hl 2 _ (List.getElem?_eq_getElem (by rw [h.lhl]; decide)))⟩
theorem c_hl3 (h : DpAt w b o T c a) : ∃ v, w.cell? ⟨b, o + 9, none⟩ = some v := ⟨_, blk_cell (o := o + 6 + 3) h.obj (h.hl 3 _ (List.getElem?_eq_getElem (by rw [h.lhl]; decide)))⟩
theorem c_hl4 (h : DpAt w b o T c a) : ∃ v, w.cell? ⟨b, o + 10, none⟩ = some v := ⟨_, blk_cell (o := o + 6 + 4) h.obj (h.hl 4 _ (List.getElem?_eq_getElem (by rw [h.lhl]; decide)))⟩
theorem c_hl5 (h : DpAt w b o T c a) : ∃ v, w.cell? ⟨b, o + 11, none⟩ = some v := ⟨_, blk_cell (o := o + 6 + 5) h.obj (h.hl 5 _ (List.getElem?_eq_getElem (by rw [h.lhl]; decide)))⟩
theorem c_hl6 (h : DpAt w b o T c a) : ∃ v, w.cell? ⟨b, o + 12, none⟩ = some v := ⟨_, blk_cell (o := o + 6 + 6) h.obj (h.hl 6 _ (List.getElem?_eq_getElem (by rw [h.lhl]; decide)))⟩
theorem c_hl7 (h : DpAt w b o T c a) : ∃ v, w.cell? ⟨b, o + 13, none⟩ = some v := ⟨_, blk_cell (o := o + 6 + 7) h.obj (h.hl 7 _ (List.getElem?_eq_getElem (by rw [h.lhl]; decide)))⟩
theorem c_gl0 (h : DpAt w b o T c a) : ∃ v, w.cell? ⟨b, o + 14, none⟩ = some v := ⟨_, blk_cell (o := o + 14 + 0) h.obj (h.gl 0 _ (List.getElem?_eq_getElem (by rw [h.lgl]; decide)))⟩
theorem c_gl1 (h : DpAt w b o T c a) : ∃ v, w.cell? ⟨b, o + 15, none⟩ = some v := ⟨_, blk_cell (o := o + 14 + 1) h.obj (h.gl 1 _ (List.getElem?_eq_getElem (by rw [h.lgl]; decide)))⟩
theorem c_gl2 (h : DpAt w b o T c a) : ∃ v, w.cell? ⟨b, o + 16, none⟩ = some v := ⟨_, blk_cell (o := o + 14 + 2) h.obj (h.gl 2 _ (List.getElem?_eq_getElem (by rw [h.lgl]; decide)))⟩
theorem set_nx (h : DpAt w b o T c a) (x : Int) : DpAt (w.setCell ⟨b, o, none⟩ (.int .i64 x)) b o T (c.setIfInBounds (o) (.int .i64 x)) { a with nx := x } :=
  ⟨blk_setCell _ _ _ _ _ _ h.obj, h.lhl, h.lgl, rowskip h.hl _ (by have := h.lhl; omega), rowskip h.gl _ (by have := h.lgl; omega), putc _ h.nx, keepc h.nu (by omega), keepc h.own (by omega), keepc h.se (by omega), keepc h.ch (by omega), keepc h.sz (by omega), keepc h.E (by omega), keepc h.H (by omega), keepc h.V (by omega), keepc h.St (by omega)⟩
theorem set_se (h : DpAt w b o T c a) (x : Int) : DpAt (w.setCell ⟨b, o + 3, none⟩ (.int .u64 x)) b o T (c.setIfInBounds (o + 3) (.int .u64 x)) { a with se := x } :=
  ⟨blk_setCell _ _ _ _ _ _ h.obj, h.lhl, h.lgl, rowskip h.hl _ (by have := h.lhl; omega), rowskip h.gl _ (by have := h.lgl; omega), keepc h.nx (by omega), keepc h.nu (by omega), keepc h.own (by omega), putc _ h.se, keepc h.ch (by omega), keepc h.sz (by omega), keepc h.E (by omega), keepc h.H (by omega), keepc h.V (by omega), keepc h.St (by omega)⟩
theorem set_ch (h : DpAt w b o T c a) (x : Int) : DpAt (w.setCell ⟨b, o + 4, none⟩ (.int .i64 x)) b o T (c.setIfInBounds (o + 4) (.int .i64 x)) { a with ch := x } :=
  ⟨blk_setCell _ _ _ _ _ _ h.obj, h.lhl, h.lgl, rowskip h.hl _ (by have := h.lhl; omega), rowskip h.gl _ (by have := h.lgl; omega), keepc h.nx (by omega), keepc h.nu (by omega), keepc h.own (by omega), keepc h.se (by omega), putc _ h.ch, keepc h.sz (by omega), keepc h.E (by omega), keepc h.H (by omega), keepc h.V (by omega), keepc h.St (by omega)⟩
theorem set_sz (h : DpAt w b o T c a) (x : Int) : DpAt (w.setCell ⟨b, o + 5, none⟩ (.int .i64 x)) b o T (c.setIfInBounds (o + 5) (.int .i64 x)) { a with sz := x } :=
  ⟨blk_setCell _ _ _ _ _ _ h.obj, h.lhl, h.lgl, rowskip h.hl _ (by have := h.lhl; omega), rowskip h.gl _ (by have := h.lgl; omega), keepc h.nx (by omega), keepc h.nu (by omega), keepc h.own (by omega), keepc h.se (by omega), keepc h.ch (by omega), putc _ h.sz, keepc h.E (by omega), keepc h.H (by omega), keepc h.V (by omega), keepc h.St (by omega)⟩
theorem set_E (h : DpAt w b o T c a) (x : Int) : DpAt (w.setCell ⟨b, o + 17, none⟩ (.int .i64 x)) b o T (c.setIfInBounds (o + 17) (.int .i64 x)) { a with E := x } :=
  ⟨blk_setCell _ _ _ _ _ _ h.obj, h.lhl, h.lgl, rowskip h.hl _ (by have := h.lhl; omega), rowskip h.gl _ (by have := h.lgl; omega), keepc h.nx (by omega), keepc h.nu (by omega), keepc h.own (by omega), keepc h.se (by omega), keepc h.ch (by omega), keepc h.sz (by omega), putc _ h.E, keepc h.H (by omega), keepc h.V (by omega), keepc h.St (by omega)⟩
theorem set_H (h : DpAt w b o T c a) (x : Int) : DpAt (w.setCell ⟨b, o + 18, none⟩ (.int .u64 x)) b o T (c.setIfInBounds (o + 18) (.int .u64 x)) { a with H := x } :=
  ⟨blk_setCell _ _ _ _ _ _ h.obj, h.lhl, h.lgl, rowskip h.hl _ (by have := h.lhl; omega), rowskip h.gl _ (by have := h.lgl; omega), keepc h.nx (by omega), keepc h.nu (by omega), keepc h.own (by omega), keepc h.se (by omega), keepc h.ch (by omega), keepc h.sz (by omega), keepc h.E (by omega), putc _ h.H, keepc h.V (by omega), keepc h.St (by omega)⟩
theorem set_V (h : DpAt w b o T c a) (x : Int) : DpAt (w.setCell ⟨b, o + 19, none⟩ (.int .i64 x)) b o T (c.setIfInBounds (o + 19) (.int .i64 x)) { a with V := x } :=
  ⟨blk_setCell _ _ _ _ _ _ h.obj, h.lhl, h.lgl, rowskip h.hl _ (by have := h.lhl; omega), rowskip h.gl _ (by have := h.lgl; omega), keepc h.nx (by omega), keepc h.nu (by omega), keepc h.own (by omega), keepc h.se (by omega), keepc h.ch (by omega), keepc h.sz (by omega), keepc h.E (by omega), keepc h.H (by omega), putc _ h.V, keepc h.St (by omega)⟩
theorem set_St (h : DpAt w b o T c a) (x : Int) : DpAt (w.setCell ⟨b, o + 20, none⟩ (.int .i64 x)) b o T (c.setIfInBounds (o + 20) (.int .i64 x)) { a with St := x } :=
  ⟨blk_setCell _ _ _ _ _ _ h.obj, h.lhl, h.lgl, rowskip h.hl _ (by have := h.lhl; omega), rowskip h.gl _ (by have := h.lgl; omega), keepc h.nx (by omega), keepc h.nu (by omega), keepc h.own (by omega), keepc h.se (by omega), keepc h.ch (by omega), keepc h.sz (by omega), keepc h.E (by omega), keepc h.H (by omega), keepc h.V (by omega), putc _ h.St⟩
theorem set_hl0 (h : DpAt w b o T c a) (x : Value) : DpAt (w.setCell ⟨b, o + 6, none⟩ x) b o T (c.setIfInBounds (o + 6) x) { a with hl := a.hl.set 0 x } :=
  ⟨blk_setCell _ _ _ _ _ _ h.obj, (by rw [List.length_set]; exact h.lhl), h.lgl, rowset h.hl 0 x, rowskip h.gl _ (by have := h.lgl; omega), keepc h.nx (by omega), keepc h.nu (by omega), keepc h.own (by omega), keepc h.se (by omega), keepc h.ch (by omega), keepc h.sz (by omega), keepc h.E (by omega), keepc h.H (by omega), keepc h.V (by omega), keepc h.St (by omega)⟩
theorem set_hl1 (h : DpAt w b o T c a) (x : Value) : DpAt (w.setCell ⟨b, o + 7, none⟩ x) b o T (c.setIfInBounds (o + 7) x) { a with hl := a.hl.set 1 x } :=
  ⟨blk_setCell _ _ _ _ _ _ h.obj, (by rw [List.length_set]; exact h.lhl), h.lgl, rowset h.hl 1 x, rowskip h.gl _ (by have := h.lgl; omega), keepc h.nx (by omega), keepc h.nu (by omega), keepc h.own (by omega), keepc h.se (by omega), keepc h.ch (by omega), keepc h.sz (by omega), keepc h.E (by omega), keepc h.H (by omega), keepc h.V (by omega), keepc h.St (by omega)⟩
theorem set_hl2 (h : DpAt w b o T c a) (x : Value) : DpAt (w.setCell ⟨b, o + 8, none⟩ x) b o T (c.setIfInBounds (o + 8) x) { a with hl := a.hl.set 2 x } :=
  ⟨blk_setCell _ _ _ _ _ _ h.obj, (by rw [List.length_set]; exact h.lhl), h.lgl, rowset h.hl 2 x, rowskip h.gl _ (by have := h.lgl; omega), keepc h.nx (by omega), keepc h.nu (by omega), keepc h.own (by omega), keepc h.se (by omega), keepc h.ch (by omega), keepc h.sz (by omega), keepc h.E (by omega), keepc h.H (by omega), keepc h.V (by omega), keepc h.St (by omega)⟩
theorem set_hl3 (h : DpAt w b o T c a) (x : Value) : DpAt (w.setCell ⟨b, o + 9, none⟩ x) b o T (c.setIfInBounds (o + 9) x) { a with hl := a.hl.set 3 x } :=
  ⟨blk_setCell _ _ _ _ _ _ h.obj, (by rw [List.length_set]; exact h.lhl), h.lgl, rowset h.hl 3 x, rowskip h.gl _ (by have := h.lgl; omega), keepc h.nx (by omega), keepc h.nu (by omega), keepc h.own (by omega), keepc h.se (by omega), keepc h.ch (by omega), keepc h.sz (by omega), keepc h.E (by omega), keepc h.H (by omega), keepc h.V (by omega), keepc h.St (by omega)⟩
theorem set_hl4 (h : DpAt w b o T c a) (x : Value) : DpAt (w.setCell ⟨b, o + 10, none⟩ x) b o T (c.setIfInBounds (o + 10) x) { a with hl := a.hl.set 4 x } :=
  ⟨blk_setCell _ _ _ _ _ _ h.obj, (by rw [List.length_set]; exact h.lhl), h.lgl, rowset h.hl 4 x, rowskip h.gl _ (by have := h.lgl; omega), keepc h.nx (by omega), keepc h.nu (by omega), keepc h.own (by omega), keepc h.se (by omega), keepc h.ch (by omega), keepc h.sz (by omega), keepc h.E (by omega), keepc h.H (by omega), keepc h.V (by omega), keepc h.St (by omega)⟩
theorem set_hl5 (h : DpAt w b o T c a) (x : Value) : DpAt (w.setCell ⟨b, o + 11, none⟩ x) b o T (c.setIfInBounds (o + 11) x) { a with hl := a.hl.set 5 x } :=
  ⟨blk_setCell _ _ _ _ _ _ h.obj, (by rw [List.length_set]; exact h.lhl), h.lgl, rowset h.hl 5 x, rowskip h.gl _ (by have := h.lgl; omega), keepc h.nx (by omega), keepc h.nu (by omega), keepc h.own (by omega), keepc h.se (by omega), keepc h.ch (by omega), keepc h.sz (by omega), keepc h.E (by omega), keepc h.H (by omega), keepc h.V (by omega), keepc h.St (by omega)⟩
theorem set_hl6 (h : DpAt w b o T c a) (x : Value) : DpAt (w.setCell ⟨b, o + 12, none⟩ x) b o T (c.setIfInBounds (o + 12) x) { a with hl := a.hl.set 6 x } :=
  ⟨blk_setCell _ _ _ _ _ _ h.obj, (by rw [List.length_set]; exact h.lhl), h.lgl, rowset h.hl 6 x, rowskip h.gl _ (by have := h.lgl; omega), keepc h.nx (by omega), keepc h.nu (by omega), keepc h.own (by omega), keepc h.se (by omega), keepc h.ch (by omega), keepc h.sz (by omega), keepc h.E (by omega), keepc h.H (by omega), keepc h.V (by omega), keepc h.St (by omega)⟩
theorem set_hl7 (h : DpAt w b o T c a) (x : Value) : DpAt (w.setCell ⟨b, o + 13, none⟩ x) b o T (c.setIfInBounds (o + 13) x) { a with hl := a.hl.set 7 x } :=
  ⟨blk_setCell _ _ _ _ _ _ h.obj, (by rw [List.length_set]; exact h.lhl), h.lgl, rowset h.hl 7 x, rowskip h.gl _ (by have := h.lgl; omega), keepc h.nx (by omega), keepc h.nu (by omega), keepc h.own (by omega), keepc h.se (by omega), keepc h.ch (by omega), keepc h.sz (by omega), keepc h.E (by omega), keepc h.H (by omega), keepc h.V (by omega), keepc h.St (by omega)⟩
theorem set_gl0 (h : DpAt w b o T c a) (x : Value) : DpAt (w.setCell ⟨b, o + 14, none⟩ x) b o T (c.setIfInBounds (o + 14) x) { a with gl := a.gl.set 0 x } :=
  ⟨blk_setCell _ _ _ _ _ _ h.obj, h.lhl, (by rw [List.length_set]; exact h.lgl), rowskip h.hl _ (by have := h.lhl; omega), rowset h.gl 0 x, keepc h.nx (by omega), keepc h.nu (by omega), keepc h.own (by omega), keepc h.se (by omega), keepc h.ch (by omega), keepc h.sz (by omega), keepc h.E (by omega), keepc h.H (by omega), keepc h.V (by omega), keepc h.St (by omega)⟩
theorem set_gl1 (h : DpAt w b o T c a) (x : Value) : DpAt (w.setCell ⟨b, o + 15, none⟩ x) b o T (c.setIfInBounds (o + 15) x) { a with gl := a.gl.set 1 x } :=
  ⟨blk_setCell _ _ _ _ _ _ h.obj, h.lhl, (by rw [List.length_set]; exact h.lgl), rowskip h.hl _ (by have := h.lhl; omega), rowset h.gl 1 x, keepc h.nx (by omega), keepc h.nu (by omega), keepc h.own (by omega), keepc h.se (by omega), keepc h.ch (by omega), keepc h.sz (by omega), keepc h.E (by omega), keepc h.H (by omega), keepc h.V (by omega), keepc h.St (by omega)⟩
theorem set_gl2 (h : DpAt w b o T c a) (x : Value) : DpAt (w.setCell ⟨b, o + 16, none⟩ x) b o T (c.setIfInBounds (o + 16) x) { a with gl := a.gl.set 2 x } :=
  ⟨blk_setCell _ _ _ _ _ _ h.obj, h.lhl, (by rw [List.length_set]; exact h.lgl), rowskip h.hl _ (by have := h.lhl; omega), rowset h.gl 2 x, keepc h.nx (by omega), keepc h.nu (by omega), keepc h.own (by omega), keepc h.se (by omega), keepc h.ch (by omega), keepc h.sz (by omega), keepc h.E (by omega), keepc h.H (by omega), keepc h.V (by omega), keepc h.St (by omega)⟩
theorem step_hl (h : DpAt w b o T c a) {l : List Value} (hA : At w' b (o + 6) T c' l) (hl : l.length = 8) (sm : Same (o + 6) 8 c c') : DpAt w' b o T c' { a with hl := l } :=
  ⟨hA.obj, hl, h.lgl, hA.is, fun i v hv => (sm.2 _ (by have := lt_of_some (l := a.gl) hv; have := h.lgl; omega)).trans (h.gl i v hv), (sm.2 _ (by omega)).trans h.nx, (sm.2 _ (by omega)).trans h.nu, (sm.2 _ (by omega)).trans h.own, (sm.2 _ (by omega)).trans h.se, (sm.2 _ (by omega)).trans h.ch, (sm.2 _ (by omega)).trans h.sz, (sm.2 _ (by omega)).trans h.E, (sm.2 _ (by omega)).trans h.H, (sm.2 _ (by omega)).trans h.V, (sm.2 _ (by omega)).trans h.St⟩
theorem step_gl (h : DpAt w b o T c a) {l : List Value} (hA : At w' b (o + 14) T c' l) (hl : l.length = 3) (sm : Same (o + 14) 3 c c') : DpAt w' b o T c' { a with gl := l } :=
  ⟨hA.obj, h.lhl, hl, fun i v hv => (sm.2 _ (by have := lt_of_some (l := a.hl) hv; have := h.lhl; omega)).trans (h.hl i v hv), hA.is, (sm.2 _ (by omega)).trans h.nx, (sm.2 _ (by omega)).trans h.nu, (sm.2 _ (by omega)).trans h.own, (sm.2 _ (by omega)).trans h.se, (sm.2 _ (by omega)).trans h.ch, (sm.2 _ (by omega)).trans h.sz, (sm.2 _ (by omega)).trans h.E, (sm.2 _ (by omega)).trans h.H, (sm.2 _ (by omega)).trans h.V, (sm.2 _ (by omega)).trans h.St⟩
end DpAt

theorem len8 {l : List Value} (h : l.length = 8) : ∃ a b c d e f g i, l = [a, b, c, d, e, f, g, i] := by
  match l, h with
  | [a, b, c, d, e, f, g, i], _ => exact ⟨a, b, c, d, e, f, g, i, rfl⟩

/-- the memory and the cells behind a step of one who lets an object go -/
def Dact (L : Loc) (b o : Nat) (T : TypeId) (cs : Array Value) (w w' : World) (X : Mm → DV → Prop) : Prop :=
  ∃ s' cs' a', MemAt w' L s' ∧ Only (L.and b) w w' ∧ DpAt w' b o T cs' a' ∧ Same o 21 cs cs' ∧ X s' a'

/-- the memory and one who lets an object go, while a step is done and what it told is noted -/
def phDp (L : Loc) (b o : Nat) (T : TypeId) (c c' : Array Value) (s s' : Mm) (a a' : DV) : Nat → World → Prop
  | 0, w => MemAt w L s ∧ DpAt w b o T c a
  | 1, w => MemAt w L s' ∧ DpAt w b o T c a
  | _, w => MemAt w L s' ∧ DpAt w b o T c' a'

theorem phDp_grown {L : Loc} {b o : Nat} {T : TypeId} {c c' : Array Value} {s s' : Mm} {a a' : DV} (x y : World) (p : Nat) (g : Grown x y) (k : phDp L b o T c c' s s' a a' p x) : phDp L b o T c c' s s' a a' p y := by
  match p, k with
  | 0, k => exact ⟨k.1.below g, k.2.grown g⟩
  | 1, k => exact ⟨k.1.below g, k.2.grown g⟩
  | p + 2, k => exact ⟨k.1.below g, k.2.grown g⟩

/-- one who begins -/
def dv0 (H : Int) (own : Bool) : DV := ⟨0, H, own, 0, 0, 0, HpV 0 0 0 0 0 false false false, GvV 0 0 0, 0, 0, 0, 0⟩

def drop0 (H : Int) (own : Bool) : Obj := .cells #[.int .i64 0, .int .u64 H, .bool own, .int .u64 0, .int .i64 0, .int .i64 0, .int .i64 0, .int .u64 0, .int .i64 0, .int .i64 0, .int .u64 0, .bool false, .bool false, .bool false, .int .i64 0, .int .i64 0, .int .u64 0, .int .i64 0, .int .u64 0, .int .i64 0, .int .i64 0] 113

theorem newDrop_any (H : Int) (own : Bool) (w : World) :
    Calls Tryz.prog 37 #[.int .u64 H, .bool own] w fun e w' => e = .returned (.pointer (some ⟨w.heap.size, 0, none⟩)) ∧ w' = w.alloc (drop0 H own) := by
  unfold drop0
  go_enter Tryz.func37, Tryz.ntmps37
  go_wp2
  go_ret
  exact ⟨rfl, rfl⟩

theorem drop0_at (H : Int) (own : Bool) (w : World) : ∃ cs, DpAt (w.alloc (drop0 H own)) w.heap.size 0 113 cs (dv0 H own) := by
  refine ⟨_, Go.Deep.blk_alloc_new _ _, rfl, rfl, fun i v hv => ?_, fun i v hv => ?_, rfl, rfl, rfl, rfl, rfl, rfl, rfl, rfl, rfl, rfl⟩
  · have hl : i < 8 := lt_of_some hv
    match i, hl with
    | 0, _ => exact hv
    | 1, _ => exact hv
    | 2, _ => exact hv
    | 3, _ => exact hv
    | 4, _ => exact hv
    | 5, _ => exact hv
    | 6, _ => exact hv
    | 7, _ => exact hv
  · have hl : i < 3 := lt_of_some hv
    match i, hl with
    | 0, _ => exact hv
    | 1, _ => exact hv
    | 2, _ => exact hv

theorem ddone_over {w : World} {b o : Nat} {T : TypeId} {cs : Array Value} {a : DV} (hi : DpAt w b o T cs a) (hnx : a.nx = 7) :
    Calls Tryz.prog 39 #[.pointer (some ⟨b, o, none⟩)] w fun e w' => e = .returned (.agg #[.int .i64 a.E, .int .u64 a.H, .int .i64 a.V, .int .i64 a.St]) ∧ Below w.heap.size w w' := by
  have i1 := hi.grown (grow1 _ (.cells #[.int .i64 0, .int .u64 0, .int .i64 0, .int .i64 0] 37))
  have k0 := i1.c_nx
  rw [hnx] at k0
  have k1 := i1.c_E
  have k2 := i1.c_H
  have k3 := i1.c_V
  have k4 := i1.c_St
  go_enter Tryz.func39, Tryz.ntmps39
  go_wp2
  exact bodyPost_ret (v := .agg #[.int .i64 a.E, .int .u64 a.H, .int .i64 a.V, .int .i64 a.St]) (by simp [results, Tryz.results39, go_sem]) rfl ⟨rfl, grow_alloc (Below.refl _ _) _⟩

end Go.Proofs.YtcdmokbamakomaaGreat

/- What a step of one who lets an object go comes to (package drop), method by method. -/
namespace Go.Proofs.YtcdmokbamakomaaGreat
open Go.RowKit

theorem drefuse {w : World} {L : Loc} {s : Mm} {b o : Nat} {T : TypeId} {cs : Array Value} {t n k m : Nat} {g p r : Int} {a : DV} (h : MemAt w L s) (hb : ¬ L.has b) (hi : DpAt w b o T cs a) (who : Int) (hnx : a.nx < 5) (σ : Nat) (hσ : s.steps = σ) :
    Calls Tryz.prog 66 #[.pointer (some ⟨b, o, none⟩), .agg #[.int .i64 t, .int .i64 n, .int .i64 k, .int .i64 m, .int .i64 g, .int .i64 p, .int .i64 r, .pointer (some ⟨L.p, 0, none⟩), .int .i64 who]] w fun e w' => e = .returned (.tuple #[]) ∧ Dact L b o T cs w w' (fun s' a' => s' = s ∧ a' = { a with nx := 7, E := 3, H := 0, V := 0, St := σ }) := by
  have HS : Hid (s.steps = σ) := hσ
  clear hσ
  have i0 := hi.grown (grow1 _ (.cells #[.int .i64 t, .int .i64 n, .int .i64 k, .int .i64 m, .int .i64 g, .int .i64 p, .int .i64 r, .pointer (some ⟨L.p, 0, none⟩), .int .i64 who] 28))
  have k0 := i0.c_nx
  go_enter Tryz.func66, Tryz.ntmps66
  go_wp2_with (go_at_call 14; refine (now_any (h.alloc _) _ _ _ _ _ _ _ _ σ HS.out).mono ?_; rintro e w1 ⟨rfl, b1⟩; have i1 := i0.grown b1; have m1 := (h.alloc (.cells #[.int .i64 t, .int .i64 n, .int .i64 k, .int .i64 m, .int .i64 g, .int .i64 p, .int .i64 r, .pointer (some ⟨L.p, 0, none⟩), .int .i64 who] 28)).below b1; have k1 := i1.c_E; have k2 := i1.c_H; have k3 := i1.c_V; have k4 := i1.c_St; have k5 := i1.c_nx; have kf := i1.fz)
  go_end0
  exact ⟨rfl, s, _, _, ((((m1.setIn hb _ _).setIn hb _ _).setIn hb _ _).setIn hb _ _).setIn hb _ _, (((((((Only.refl _ _).alloc _).trans (Only.ofGrown b1)).set _ _).set _ _).set _ _).set _ _).set _ _, ((((i1.set_E 3).set_H 0).set_V 0).set_St σ).set_nx 7, ((((Same.refl.set (by omega) _).set (by omega) _).set (by omega) _).set (by omega) _).set (by omega) _, rfl, rfl⟩

set_option maxHeartbeats 400000 in
theorem dsee_no {w : World} {L : Loc} {s : Mm} {b o : Nat} {T : TypeId} {cs : Array Value} {t n k m : Nat} {g p r : Int} {a : DV} (h : MemAt w L s) (hb : ¬ L.has b) (hi : DpAt w b o T cs a) (who : Int) (hG : Good t n k m g p r) {x : Nat} {G : Int} (hx : x < n) (hn : (6 + t + x * 2) < s.n) {v st : Int} {A : Nat} {Gs V : Int} (hv : s.wd (6 + t + x * 2) = v) (hs : SlotIs v st A Gs V) {ci : Int} (hci : chunkOf t n k m A = ci) (hl : (lifeB st && Gs == G) = false) (hnx : a.nx < 5) {σ : Nat} (hσ : wrap64 (s.steps + 1) = σ) :
    Calls Tryz.prog 67 #[.pointer (some ⟨b, o, none⟩), .agg #[.int .i64 t, .int .i64 n, .int .i64 k, .int .i64 m, .int .i64 g, .int .i64 p, .int .i64 r, .pointer (some ⟨L.p, 0, none⟩), .int .i64 who], .agg #[.int .i64 x, .int .i64 G]] w fun e w' => e = .returned (.tuple #[]) ∧ Dact L b o T cs w w' (fun s' a' => s' = ((s.by who).step (6 + t + x * 2) (s.wd (6 + t + x * 2))) ∧ a' = { a with se := v, ch := ci, nx := 7, E := 3, H := 0, V := 0, St := σ }) := by
  have HU : Hid (s.wd (6 + t + x * 2) = v) := hv
  have sw := hs.call
  have hs1 := hG.s1
  have ab : (A : Int) ≤ 1048575 := by have := hs.ad; omega
  have of1 := fun w => lof_any hG (A : Int) (by omega) w
  rw [hci] at of1
  have dl := fun w => dlive_any st A Gs V x G w
  rw [hl] at dl
  clear hv hs hci hl
  have HS : Hid ((((s.by who).step (6 + t + x * 2) (s.wd (6 + t + x * 2)))).steps = σ) := hσ
  clear hσ
  have hbv : ¬ L.has w.heap.size := fun hh => by have := h.lt _ hh; omega
  have hbb : ¬ w.heap.size = b := fun hh => by have := hi.lt; omega
  have hbv1 : ¬ L.has (w.heap.size + 1) := fun hh => by have := h.lt _ hh; omega
  have hbb1 : ¬ w.heap.size + 1 = b := fun hh => by have := hi.lt; omega
  go_enter Tryz.func67, Tryz.ntmps67
  go_wp2
  refine wp_over (fun W => MemAt W L s ∧ DpAt W b o T cs a ∧ BoxV W w.heap.size t n k m g p r L.p who ∧ At W (w.heap.size + 1) 0 77 #[.int .i64 x, .int .i64 G] [.int .i64 x, .int .i64 G] ∧ Only (L.and b) w W) ⟨(h.alloc _).alloc _, (hi.grown (grow1 _ _)).grown (grow1 _ _), BoxV.newB _, At.new2 _ _ _ _, ((Only.refl _ _).alloc _).alloc _⟩ ?_
  rintro W ⟨m1, i1, v1, x1, o1⟩
  refine wp_region_phase (OnlyBut L b (o + 3)) Grown (phDp L b o T cs (cs.setIfInBounds (o + 3) (.int .u64 v)) s ((s.by who).step (6 + t + x * 2) (s.wd (6 + t + x * 2))) a { a with se := v }) [7, 10] [.val (.pointer (some ⟨b, o, none⟩)), .val (.agg #[.int .i64 t, .int .i64 n, .int .i64 k, .int .i64 m, .int .i64 g, .int .i64 p, .int .i64 r, .pointer (some ⟨L.p, 0, none⟩), .int .i64 who]), .val (.pointer (some ⟨w.heap.size, 0, none⟩)), .val (.agg #[.int .i64 t, .int .i64 n, .int .i64 k, .int .i64 m, .int .i64 g, .int .i64 p, .int .i64 r]), .val (.pointer (some ⟨w.heap.size + 1, 0, none⟩)), .val (.int .i64 (x : Nat)), .val (.int .i64 (((6 + t + x * 2) : Nat) : Int)), .val (.int .u64 v), .val (.pointer (some ⟨b, o, none⟩)), .val (.pointer (some ⟨b, o + 3, none⟩)), .that (fun _ _ => True) (fun _ _ _ _ _ => trivial)]
    (by kernel_rfl) OnlyBut.refl OnlyBut.trans OnlyBut.ofGrown phDp_grown ⟨m1.drew, i1.drew⟩ (by kernel_rfl) (by kernel_rfl) (by kernel_rfl) (by kernel_rfl) (by kernel_rfl) ?_
  simp only [phaseAll, Act.put, List.setIfInBounds_toArray, List.set_cons_zero, List.set_cons_succ]
  refine ⟨?_, ?_, ?_, ?_, ?_, ?_, ?_, ?_, ?_, ?_, ?_, ?_⟩
  · intro w' hR _
    refine Or.inl ⟨rfl, ?_⟩
    go_simp
    exact ⟨Grown.refl _, rfl⟩
  · intro w' hR _
    refine Or.inl ⟨rfl, ?_⟩
    have vv := (v1.grown ((Below.refl _ _).drew)).only hR.only (fun hh => hh.elim hbv hbb)
    have y0 := vv.c0
    have y1 := vv.c1
    have y2 := vv.c2
    have y3 := vv.c3
    have y4 := vv.c4
    have y5 := vv.c5
    have y6 := vv.c6
    have y7 := vv.c7
    have y8 := vv.c8
    go_simp
    exact ⟨Grown.refl _, rfl⟩
  · intro w' hR _
    refine Or.inl ⟨rfl, ?_⟩
    go_simp
    exact ⟨Grown.refl _, rfl⟩
  · intro w' hR _
    refine Or.inl ⟨rfl, ?_⟩
    have vv := (v1.grown ((Below.refl _ _).drew)).only hR.only (fun hh => hh.elim hbv hbb)
    have y0 := vv.c0
    have y1 := vv.c1
    have y2 := vv.c2
    have y3 := vv.c3
    have y4 := vv.c4
    have y5 := vv.c5
    have y6 := vv.c6
    have y7 := vv.c7
    have y8 := vv.c8
    go_simp
    exact ⟨Grown.refl _, rfl⟩
  · intro w' hR _
    refine Or.inl ⟨rfl, ?_⟩
    go_simp
    exact ⟨Grown.refl _, rfl⟩
  · intro w' hR _
    refine Or.inl ⟨rfl, ?_⟩
    have z := (x1.drew.only hR.only (fun hh => hh.elim hbv1 hbb1)).at0 0 rfl
    go_simp
    exact ⟨Grown.refl _, rfl⟩
  · intro w' hR _
    refine Or.inl ⟨rfl, ?_⟩
    go_simp
    refine (lslot_any _ _ _ _ _ _ _ (x : Int) _ hG.arena (by omega) (by omega)).mono ?_
    rintro e w'' ⟨rfl, b9⟩
    exact ⟨_, rfl, b9, congrArg (Value.int .i64) (by omega)⟩
  · intro w' hR _ hP
    refine Or.inl ⟨rfl, ?_⟩
    go_simp
    refine (eload_in (s := s) hP.1 _ _ _ _ _ _ _ _ (6 + t + x * 2) hn).mono ?_
    rintro e w'' ⟨rfl, m2, o2⟩
    exact ⟨_, rfl, ⟨OnlyBut.ofOnly o2 hb, m2, hP.2.only o2 hb⟩, by simp [Want.pred, HU.out]⟩
  · intro w' hR _
    refine Or.inl ⟨rfl, ?_⟩
    go_simp
    exact ⟨Grown.refl _, rfl⟩
  · intro w' hR _
    refine Or.inl ⟨rfl, ?_⟩
    go_simp
    exact ⟨Grown.refl _, rfl⟩
  · intro w' hR _ hP
    refine Or.inl ⟨rfl, ?_⟩
    have z0 := hP.2.c_se
    have z1 := hP.2.fz
    go_simp
    exact ⟨⟨OnlyBut.set _ _, hP.1.setIn hb _ _, hP.2.set_se _⟩, trivial⟩
  intro vv w2 hR hP _
  obtain ⟨m2, i2⟩ : MemAt w2 L ((s.by who).step (6 + t + x * 2) (s.wd (6 + t + x * 2))) ∧ DpAt w2 b o T (cs.setIfInBounds (o + 3) (.int .u64 v)) { a with se := v } := hP
  have o2 : Only (L.and b) w w2 := o1.drew.trans hR.only
  have x2 := x1.drew.only hR.only (fun hh => hh.elim hbv1 hbb1)
  have v2 := (v1.grown ((Below.refl _ _).drew)).only hR.only (fun hh => hh.elim hbv hbb)
  have s2 : Same o 21 cs (cs.setIfInBounds (o + 3) (.int .u64 v)) := Same.refl.set (by omega) _
  have k3 : w2.cell? ⟨b, o + 3, none⟩ = some (.int .u64 v) := i2.c_se
  clear hR o1 v1 m1 i1 x1
  go_wp2_with (first
    | (go_at_call 22; refine (sw _).mono ?_; rintro e w3 ⟨rfl, b3⟩; have i4 := (i2.grown b3).grown (grow1 _ (.cells #[.int .i64 st, .int .i64 A, .int .i64 Gs, .int .i64 V] 58)); have x4 := (x2.grown b3).grown (grow1 _ (.cells #[.int .i64 st, .int .i64 A, .int .i64 Gs, .int .i64 V] 58)); have v4 := (v2.grown b3).grown (grow1 _ (.cells #[.int .i64 st, .int .i64 A, .int .i64 Gs, .int .i64 V] 58)); have m4 := (m2.below b3).alloc (.cells #[.int .i64 st, .int .i64 A, .int .i64 Gs, .int .i64 V] 58); have o4 := (o2.trans (Only.ofGrown b3)).alloc (.cells #[.int .i64 st, .int .i64 A, .int .i64 Gs, .int .i64 V] 58); have q4 := At.new w3 58 [.int .i64 st, .int .i64 A, .int .i64 Gs, .int .i64 V]; have y0 := v4.c0; have y1 := v4.c1; have y2 := v4.c2; have y3 := v4.c3; have y4 := v4.c4; have y5 := v4.c5; have y6 := v4.c6; have y7 := v4.c7; have y8 := v4.c8; have q0 := q4.at0 0 rfl)
    | (go_at_call 92; refine (of1 _).mono ?_; rintro e w5 ⟨rfl, b5⟩; have i5 := i4.grown b5; have x5 := x4.grown b5; have v5 := v4.grown b5; have m5 := m4.below b5; have q5 := q4.grown b5; have k4 := i5.c_ch; have kf := i5.fz; have i6 := i5.set_ch ci; have hw3 : w.heap.size + 1 < w3.heap.size := (by have := x2.lt; have := b3.size; omega); have hb3 : b < w3.heap.size := (by have := i2.lt; have := b3.size; omega); have x6 := x5.other (k := b) (by omega) (o + 4) (.int .i64 ci); have v6 := v5.setIn (b := b) hbb (o + 4) (.int .i64 ci); have q6 := q5.other (k := b) (by omega) (o + 4) (.int .i64 ci); have m6 := m5.setIn hb (o + 4) (.int .i64 ci); have z0 := q6.at0 0 rfl; have z1 := q6.at0 1 rfl; have z2 := q6.at0 2 rfl; have z3 := q6.at0 3 rfl; have u0 := x6.at0 0 rfl; have u1 := x6.at0 1 rfl; have r0 := v6.c0; have r1 := v6.c1; have r2 := v6.c2; have r3 := v6.c3; have r4 := v6.c4; have r5 := v6.c5; have r6 := v6.c6; have r7 := v6.c7; have r8 := v6.c8)
    | (go_at_call 91; refine (dl _).mono ?_; rintro e w7 ⟨rfl, b7⟩; have i7 := i6.grown b7; have m7 := m6.below b7; have v7 := v6.grown b7; have o7 := ((o4.trans (Only.ofGrown b5)).set (o + 4) (.int .i64 ci)).trans (Only.ofGrown b7); have l4 : w7.cell? ⟨b, o + 4, none⟩ = some (.int .i64 ci) := i7.c_ch; have l0 := i7.c_nx; have lf := i7.fz; have e0 := v7.c0; have e1 := v7.c1; have e2 := v7.c2; have e3 := v7.c3; have e4 := v7.c4; have e5 := v7.c5; have e6 := v7.c6; have e7 := v7.c7; have e8 := v7.c8)
    | (go_at_call 66; refine (drefuse m7 hb i7 who hnx σ HS.out).mono ?_; rintro e w8 ⟨rfl, s8, cs8, a8, m8, o8, i8, q8, rfl, rfl⟩))
  refine bodyPost_ret (results_none rfl _ _ _) rfl ?_
  exact ⟨rfl, _, _, _, m8, o7.trans o8, i8, (s2.set (by omega) _).trans q8, rfl, rfl⟩

set_option maxHeartbeats 400000 in
theorem dsee_yes {w : World} {L : Loc} {s : Mm} {b o : Nat} {T : TypeId} {cs : Array Value} {t n k m : Nat} {g p r : Int} {a : DV} (h : MemAt w L s) (hb : ¬ L.has b) (hi : DpAt w b o T cs a) (who : Int) (hG : Good t n k m g p r) {x : Nat} {G : Int} (hx : x < n) (hn : (6 + t + x * 2) < s.n) {v st : Int} {A : Nat} {Gs V : Int} (hv : s.wd (6 + t + x * 2) = v) (hs : SlotIs v st A Gs V) {ci : Int} (hci : chunkOf t n k m A = ci) (hl : (lifeB st && Gs == G) = true) (hc0 : 0 ≤ ci) :
    Calls Tryz.prog 67 #[.pointer (some ⟨b, o, none⟩), .agg #[.int .i64 t, .int .i64 n, .int .i64 k, .int .i64 m, .int .i64 g, .int .i64 p, .int .i64 r, .pointer (some ⟨L.p, 0, none⟩), .int .i64 who], .agg #[.int .i64 x, .int .i64 G]] w fun e w' => e = .returned (.tuple #[]) ∧ Dact L b o T cs w w' (fun s' a' => s' = ((s.by who).step (6 + t + x * 2) (s.wd (6 + t + x * 2))) ∧ a' = { a with se := v, ch := ci, nx := 1 }) := by
  have HU : Hid (s.wd (6 + t + x * 2) = v) := hv
  have sw := hs.call
  have hs1 := hG.s1
  have ab : (A : Int) ≤ 1048575 := by have := hs.ad; omega
  have of1 := fun w => lof_any hG (A : Int) (by omega) w
  rw [hci] at of1
  have dl := fun w => dlive_any st A Gs V x G w
  rw [hl] at dl
  clear hv hs hci hl
  have hbv : ¬ L.has w.heap.size := fun hh => by have := h.lt _ hh; omega
  have hbb : ¬ w.heap.size = b := fun hh => by have := hi.lt; omega
  have hbv1 : ¬ L.has (w.heap.size + 1) := fun hh => by have := h.lt _ hh; omega
  have hbb1 : ¬ w.heap.size + 1 = b := fun hh => by have := hi.lt; omega
  go_enter Tryz.func67, Tryz.ntmps67
  go_wp2
  refine wp_over (fun W => MemAt W L s ∧ DpAt W b o T cs a ∧ BoxV W w.heap.size t n k m g p r L.p who ∧ At W (w.heap.size + 1) 0 77 #[.int .i64 x, .int .i64 G] [.int .i64 x, .int .i64 G] ∧ Only (L.and b) w W) ⟨(h.alloc _).alloc _, (hi.grown (grow1 _ _)).grown (grow1 _ _), BoxV.newB _, At.new2 _ _ _ _, ((Only.refl _ _).alloc _).alloc _⟩ ?_
  rintro W ⟨m1, i1, v1, x1, o1⟩
  refine wp_region_phase (OnlyBut L b (o + 3)) Grown (phDp L b o T cs (cs.setIfInBounds (o + 3) (.int .u64 v)) s ((s.by who).step (6 + t + x * 2) (s.wd (6 + t + x * 2))) a { a with se := v }) [7, 10] [.val (.pointer (some ⟨b, o, none⟩)), .val (.agg #[.int .i64 t, .int .i64 n, .int .i64 k, .int .i64 m, .int .i64 g, .int .i64 p, .int .i64 r, .pointer (some ⟨L.p, 0, none⟩), .int .i64 who]), .val (.pointer (some ⟨w.heap.size, 0, none⟩)), .val (.agg #[.int .i64 t, .int .i64 n, .int .i64 k, .int .i64 m, .int .i64 g, .int .i64 p, .int .i64 r]), .val (.pointer (some ⟨w.heap.size + 1, 0, none⟩)), .val (.int .i64 (x : Nat)), .val (.int .i64 (((6 + t + x * 2) : Nat) : Int)), .val (.int .u64 v), .val (.pointer (some ⟨b, o, none⟩)), .val (.pointer (some ⟨b, o + 3, none⟩)), .that (fun _ _ => True) (fun _ _ _ _ _ => trivial)]
    (by kernel_rfl) OnlyBut.refl OnlyBut.trans OnlyBut.ofGrown phDp_grown ⟨m1.drew, i1.drew⟩ (by kernel_rfl) (by kernel_rfl) (by kernel_rfl) (by kernel_rfl) (by kernel_rfl) ?_
  simp only [phaseAll, Act.put, List.setIfInBounds_toArray, List.set_cons_zero, List.set_cons_succ]
  refine ⟨?_, ?_, ?_, ?_, ?_, ?_, ?_, ?_, ?_, ?_, ?_, ?_⟩
  · intro w' hR _
    refine Or.inl ⟨rfl, ?_⟩
    go_simp
    exact ⟨Grown.refl _, rfl⟩
  · intro w' hR _
    refine Or.inl ⟨rfl, ?_⟩
    have vv := (v1.grown ((Below.refl _ _).drew)).only hR.only (fun hh => hh.elim hbv hbb)
    have y0 := vv.c0
    have y1 := vv.c1
    have y2 := vv.c2
    have y3 := vv.c3
    have y4 := vv.c4
    have y5 := vv.c5
    have y6 := vv.c6
    have y7 := vv.c7
    have y8 := vv.c8
    go_simp
    exact ⟨Grown.refl _, rfl⟩
  · intro w' hR _
    refine Or.inl ⟨rfl, ?_⟩
    go_simp
    exact ⟨Grown.refl _, rfl⟩
  · intro w' hR _
    refine Or.inl ⟨rfl, ?_⟩
    have vv := (v1.grown ((Below.refl _ _).drew)).only hR.only (fun hh => hh.elim hbv hbb)
    have y0 := vv.c0
    have y1 := vv.c1
    have y2 := vv.c2
    have y3 := vv.c3
    have y4 := vv.c4
    have y5 := vv.c5
    have y6 := vv.c6
    have y7 := vv.c7
    have y8 := vv.c8
    go_simp
    exact ⟨Grown.refl _, rfl⟩
  · intro w' hR _
    refine Or.inl ⟨rfl, ?_⟩
    go_simp
    exact ⟨Grown.refl _, rfl⟩
  · intro w' hR _
    refine Or.inl ⟨rfl, ?_⟩
    have z := (x1.drew.only hR.only (fun hh => hh.elim hbv1 hbb1)).at0 0 rfl
    go_simp
    exact ⟨Grown.refl _, rfl⟩
  · intro w' hR _
    refine Or.inl ⟨rfl, ?_⟩
    go_simp
    refine (lslot_any _ _ _ _ _ _ _ (x : Int) _ hG.arena (by omega) (by omega)).mono ?_
    rintro e w'' ⟨rfl, b9⟩
    exact ⟨_, rfl, b9, congrArg (Value.int .i64) (by omega)⟩
  · intro w' hR _ hP
    refine Or.inl ⟨rfl, ?_⟩
    go_simp
    refine (eload_in (s := s) hP.1 _ _ _ _ _ _ _ _ (6 + t + x * 2) hn).mono ?_
    rintro e w'' ⟨rfl, m2, o2⟩
    exact ⟨_, rfl, ⟨OnlyBut.ofOnly o2 hb, m2, hP.2.only o2 hb⟩, by simp [Want.pred, HU.out]⟩
  · intro w' hR _
    refine Or.inl ⟨rfl, ?_⟩
    go_simp
    exact ⟨Grown.refl _, rfl⟩
  · intro w' hR _
    refine Or.inl ⟨rfl, ?_⟩
    go_simp
    exact ⟨Grown.refl _, rfl⟩
  · intro w' hR _ hP
    refine Or.inl ⟨rfl, ?_⟩
    have z0 := hP.2.c_se
    have z1 := hP.2.fz
    go_simp
    exact ⟨⟨OnlyBut.set _ _, hP.1.setIn hb _ _, hP.2.set_se _⟩, trivial⟩
  intro vv w2 hR hP _
  obtain ⟨m2, i2⟩ : MemAt w2 L ((s.by who).step (6 + t + x * 2) (s.wd (6 + t + x * 2))) ∧ DpAt w2 b o T (cs.setIfInBounds (o + 3) (.int .u64 v)) { a with se := v } := hP
  have o2 : Only (L.and b) w w2 := o1.drew.trans hR.only
  have x2 := x1.drew.only hR.only (fun hh => hh.elim hbv1 hbb1)
  have v2 := (v1.grown ((Below.refl _ _).drew)).only hR.only (fun hh => hh.elim hbv hbb)
  have s2 : Same o 21 cs (cs.setIfInBounds (o + 3) (.int .u64 v)) := Same.refl.set (by omega) _
  have k3 : w2.cell? ⟨b, o + 3, none⟩ = some (.int .u64 v) := i2.c_se
  clear hR o1 v1 m1 i1 x1
  go_wp2_with (first
    | (go_at_call 22; refine (sw _).mono ?_; rintro e w3 ⟨rfl, b3⟩; have i4 := (i2.grown b3).grown (grow1 _ (.cells #[.int .i64 st, .int .i64 A, .int .i64 Gs, .int .i64 V] 58)); have x4 := (x2.grown b3).grown (grow1 _ (.cells #[.int .i64 st, .int .i64 A, .int .i64 Gs, .int .i64 V] 58)); have v4 := (v2.grown b3).grown (grow1 _ (.cells #[.int .i64 st, .int .i64 A, .int .i64 Gs, .int .i64 V] 58)); have m4 := (m2.below b3).alloc (.cells #[.int .i64 st, .int .i64 A, .int .i64 Gs, .int .i64 V] 58); have o4 := (o2.trans (Only.ofGrown b3)).alloc (.cells #[.int .i64 st, .int .i64 A, .int .i64 Gs, .int .i64 V] 58); have q4 := At.new w3 58 [.int .i64 st, .int .i64 A, .int .i64 Gs, .int .i64 V]; have y0 := v4.c0; have y1 := v4.c1; have y2 := v4.c2; have y3 := v4.c3; have y4 := v4.c4; have y5 := v4.c5; have y6 := v4.c6; have y7 := v4.c7; have y8 := v4.c8; have q0 := q4.at0 0 rfl)
    | (go_at_call 92; refine (of1 _).mono ?_; rintro e w5 ⟨rfl, b5⟩; have i5 := i4.grown b5; have x5 := x4.grown b5; have v5 := v4.grown b5; have m5 := m4.below b5; have q5 := q4.grown b5; have k4 := i5.c_ch; have kf := i5.fz; have i6 := i5.set_ch ci; have hw3 : w.heap.size + 1 < w3.heap.size := (by have := x2.lt; have := b3.size; omega); have hb3 : b < w3.heap.size := (by have := i2.lt; have := b3.size; omega); have x6 := x5.other (k := b) (by omega) (o + 4) (.int .i64 ci); have v6 := v5.setIn (b := b) hbb (o + 4) (.int .i64 ci); have q6 := q5.other (k := b) (by omega) (o + 4) (.int .i64 ci); have m6 := m5.setIn hb (o + 4) (.int .i64 ci); have z0 := q6.at0 0 rfl; have z1 := q6.at0 1 rfl; have z2 := q6.at0 2 rfl; have z3 := q6.at0 3 rfl; have u0 := x6.at0 0 rfl; have u1 := x6.at0 1 rfl; have r0 := v6.c0; have r1 := v6.c1; have r2 := v6.c2; have r3 := v6.c3; have r4 := v6.c4; have r5 := v6.c5; have r6 := v6.c6; have r7 := v6.c7; have r8 := v6.c8)
    | (go_at_call 91; refine (dl _).mono ?_; rintro e w7 ⟨rfl, b7⟩; have i7 := i6.grown b7; have m7 := m6.below b7; have v7 := v6.grown b7; have o7 := ((o4.trans (Only.ofGrown b5)).set (o + 4) (.int .i64 ci)).trans (Only.ofGrown b7); have l4 : w7.cell? ⟨b, o + 4, none⟩ = some (.int .i64 ci) := i7.c_ch; have l0 := i7.c_nx; have lf := i7.fz; have e0 := v7.c0; have e1 := v7.c1; have e2 := v7.c2; have e3 := v7.c3; have e4 := v7.c4; have e5 := v7.c5; have e6 := v7.c6; have e7 := v7.c7; have e8 := v7.c8))
  go_end0
  exact ⟨rfl, _, _, _, m7.setIn hb _ _, o7.set _ _, i7.set_nx 1, (s2.set (by omega) _).set (by omega) _, rfl, rfl⟩

end Go.Proofs.YtcdmokbamakomaaGreat
