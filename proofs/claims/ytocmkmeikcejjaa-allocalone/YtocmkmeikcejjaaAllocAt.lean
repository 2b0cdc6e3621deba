/- One who makes an object: its cells in a block, and what each write leaves. -/
import Derived.Test.YtocmkmeikcejjaaBoth
import Derived.Test.YtocmkmeikcejjaaSlotTurnS
import Derived.Test.YtocmkmeikcejjaaPlaceField
namespace Go.Proofs.Ytocmkmeikcejjaa
open Go.RowKit

/-- what stands in the cells of one who makes an object: what is next; one who takes, one who wants words, one who gives; the head; the spot; to what it came -/
structure AV where
  nx : Int
  tk : List Value
  pl : List Value
  gv : List Value
  kd : Int
  sz : Int
  sl : Int
  gn : Int
  own : Bool
  sa : Int
  sc : Int
  E : Int
  H : Int
  V : Int
  St : Int

/-- they lie in a block, from a place on -/
structure AlAt (w : World) (b o : Nat) (T : TypeId) (c : Array Value) (a : AV) : Prop where
  obj : w.heap[b]? = some (.cells c T (0, 0))
  ltk : a.tk.length = 4
  lpl : a.pl.length = 7
  lgv : a.gv.length = 3
  nx : c[o]? = some (.int .i64 a.nx)
  tk : ∀ i v, a.tk[i]? = some v → c[o + 1 + i]? = some v
  pl : ∀ i v, a.pl[i]? = some v → c[o + 5 + i]? = some v
  gv : ∀ i v, a.gv[i]? = some v → c[o + 12 + i]? = some v
  kd : c[o + 15]? = some (.int .i64 a.kd)
  sz : c[o + 16]? = some (.int .i64 a.sz)
  sl : c[o + 17]? = some (.int .i64 a.sl)
  gn : c[o + 18]? = some (.int .i64 a.gn)
  own : c[o + 19]? = some (.bool a.own)
  sa : c[o + 20]? = some (.int .i64 a.sa)
  sc : c[o + 21]? = some (.int .i64 a.sc)
  E : c[o + 22]? = some (.int .i64 a.E)
  H : c[o + 23]? = some (.int .u64 a.H)
  V : c[o + 24]? = some (.int .i64 a.V)
  St : c[o + 25]? = some (.int .i64 a.St)

theorem keepc {c : Array Value} {i j : Nat} {v x : Value} (h : c[i]? = some x) (hn : j ≠ i) : (c.setIfInBounds j v)[i]? = some x := by
  rw [Array.getElem?_setIfInBounds_ne hn]; exact h
theorem putc {c : Array Value} {i : Nat} {x : Value} (v : Value) (h : c[i]? = some x) : (c.setIfInBounds i v)[i]? = some v :=
  Array.getElem?_setIfInBounds_self_of_lt (Array.getElem?_eq_some_iff.1 h).1

theorem lt_of_some {α : Type} {l : List α} {i : Nat} {v : α} (h : l[i]? = some v) : i < l.length := (List.getElem?_eq_some_iff.1 h).1

/-- a row of cells of which one is written -/
theorem rowset {c : Array Value} {l : List Value} {p : Nat} (h : ∀ i v, l[i]? = some v → c[p + i]? = some v) (i : Nat) (v : Value) : ∀ j u, (l.set i v)[j]? = some u → (c.setIfInBounds (p + i) v)[p + j]? = some u := by
  intro j u hj
  by_cases e : i = j
  · subst e
    have hl : i < l.length := by have := lt_of_some hj; rwa [List.length_set] at this
    rw [List.getElem?_set_self hl] at hj
    have h1 := h i _ (List.getElem?_eq_getElem hl)
    rw [← hj]
    exact putc v h1
  · rw [List.getElem?_set_ne e] at hj
    exact keepc (h j u hj) (by omega)

/-- a row of cells, and one that is none of them is written -/
theorem rowskip {c : Array Value} {l : List Value} {p q : Nat} (h : ∀ i v, l[i]? = some v → c[p + i]? = some v) (v : Value) (hq : q < p ∨ p + l.length ≤ q) : ∀ j u, l[j]? = some u → (c.setIfInBounds q v)[p + j]? = some u :=
  fun j u hj => keepc (h j u hj) (by have := lt_of_some hj; omega)

namespace AlAt
variable {w w' : World} {b o : Nat} {T : TypeId} {c c' : Array Value} {a : AV}

theorem lt (h : AlAt w b o T c a) : b < w.heap.size := blk_lt h.obj
theorem fz (h : AlAt w b o T c a) (i : Nat) : w.frozen? ⟨b, i, none⟩ = false := blk_frozen h.obj i
theorem of_block (h : AlAt w b o T c a) (e : w'.heap[b]? = w.heap[b]?) : AlAt w' b o T c a :=
  { h with obj := e.trans h.obj }
theorem grown (h : AlAt w b o T c a) (g : Below w.heap.size w w') : AlAt w' b o T c a := h.of_block (g.block _ h.lt)
theorem drew (h : AlAt w b o T c a) : AlAt w.drew b o T c a := h.of_block rfl
theorem only {S : Nat → Prop} (h : AlAt w b o T c a) (g : Only S w w') (hs : ¬ S b) : AlAt w' b o T c a := h.of_block (g.block _ h.lt hs)
theorem other (h : AlAt w b o T c a) {k : Nat} (hk : b ≠ k) (i : Nat) (v : Value) : AlAt (w.setCell ⟨k, i, none⟩ v) b o T c a := h.of_block (Go.Deep.blk_setCell_other _ _ _ _ (by simpa using hk))

theorem tkAt (h : AlAt w b o T c a) : At w b (o + 1) T c a.tk := ⟨h.obj, h.tk⟩
theorem plAt (h : AlAt w b o T c a) : At w b (o + 5) T c a.pl := ⟨h.obj, h.pl⟩
theorem gvAt (h : AlAt w b o T c a) : At w b (o + 12) T c a.gv := ⟨h.obj, h.gv⟩
theorem c_nx (h : AlAt w b o T c a) : w.cell? ⟨b, o, none⟩ = some (.int .i64 a.nx) := blk_cell h.obj h.nx
theorem c_kd (h : AlAt w b o T c a) : w.cell? ⟨b, o + 15, none⟩ = some (.int .i64 a.kd) := blk_cell h.obj h.kd
theorem c_sz (h : AlAt w b o T c a) : w.cell? ⟨b, o + 16, none⟩ = some (.int .i64 a.sz) := blk_cell h.obj h.sz
theorem c_sl (h : AlAt w b o T c a) : w.cell? ⟨b, o + 17, none⟩ = some (.int .i64 a.sl) := blk_cell h.obj h.sl
theorem c_gn (h : AlAt w b o T c a) : w.cell? ⟨b, o + 18, none⟩ = some (.int .i64 a.gn) := blk_cell h.obj h.gn
theorem c_own (h : AlAt w b o T c a) : w.cell? ⟨b, o + 19, none⟩ = some (.bool a.own) := blk_cell h.obj h.own
theorem c_sa (h : AlAt w b o T c a) : w.cell? ⟨b, o + 20, none⟩ = some (.int .i64 a.sa) := blk_cell h.obj h.sa
theorem c_sc (h : AlAt w b o T c a) : w.cell? ⟨b, o + 21, none⟩ = some (.int .i64 a.sc) := blk_cell h.obj h.sc
theorem c_E (h : AlAt w b o T c a) : w.cell? ⟨b, o + 22, none⟩ = some (.int .i64 a.E) := blk_cell h.obj h.E
theorem c_H (h : AlAt w b o T c a) : w.cell? ⟨b, o + 23, none⟩ = some (.int .u64 a.H) := blk_cell h.obj h.H
theorem c_V (h : AlAt w b o T c a) : w.cell? ⟨b, o + 24, none⟩ = some (.int .i64 a.V) := blk_cell h.obj h.V
theorem c_St (h : AlAt w b o T c a) : w.cell? ⟨b, o + 25, none⟩ = some (.int .i64 a.St) := blk_cell h.obj h.St
theorem c_pl0 (h : AlAt w b o T c a) : ∃ v, w.cell? ⟨b, o + 5, none⟩ = some v := ⟨_, blk_cell (o := o + 5 + 0) h.obj (h.pl 0 _ (List.getElem?_eq_getElem (by rw [h.lpl]; decide)))⟩
theorem c_pl1 (h : AlAt w b o T c a) : ∃ v, w.cell? ⟨b, o + 6, none⟩ = some v := ⟨_, blk_cell (o := o + 5 + 1) h.obj (h.pl 1 _ (List.getElem?_eq_getElem (by rw [h.lpl]; decide)))⟩
theorem c_pl2 (h : AlAt w b o T c a) : ∃ v, w.cell? ⟨b, o + 7, none⟩ = some v := ⟨_, blk_cell (o := o + 5 + 2) h.obj (h.pl 2 _ (List.getElem?_eq_getElem (by rw [h.lpl]; decide)))⟩
theorem c_pl3 (h : AlAt w b o T c a) : ∃ v, w.cell? ⟨b, o + 8, none⟩ = some v := ⟨_, blk_cell (o := o + 5 + 3) h.obj (h.pl 3 _ (List.getElem?_eq_getElem (by rw [h.lpl]; decide)))⟩
theorem c_pl4 (h : AlAt w b o T c a) : ∃ v, w.cell? ⟨b, o + 9, none⟩ = some v := ⟨_, blk_cell (o := o + 5 + 4) h.obj (h.pl 4 _ (List.getElem?_eq_getElem (by rw [h.lpl]; decide)))⟩
theorem c_pl5 (h : AlAt w b o T c a) : ∃ v, w.cell? ⟨b, o + 10, none⟩ = some v := ⟨_, blk_cell (o := o + 5 + 5) h.obj (h.pl 5 _ (List.getElem?_eq_getElem (by rw [h.lpl]; decide)))⟩
theorem c_pl6 (h : AlAt w b o T c a) : ∃ v, w.cell? ⟨b, o + 11, none⟩ = some v := ⟨_, blk_cell (o := o + 5 + 6) h.obj (h.pl 6 _ (List.getElem?_eq_getElem (by rw [h.lpl]; decide)))⟩
theorem c_gv0 (h : AlAt w b o T c a) : ∃ v, w.cell? ⟨b, o + 12, none⟩ = some v := ⟨_, blk_cell (o := o + 12 + 0) h.obj (h.gv 0 _ (List.getElem?_eq_getElem (by rw [h.lgv]; decide)))⟩
theorem c_gv1 (h : AlAt w b o T c a) : ∃ v, w.cell? ⟨b, o + 13, none⟩ = some v := ⟨_, blk_cell (o := o + 12 + 1) h.obj (h.gv 1 _ (List.getElem?_eq_getElem (by rw [h.lgv]; decide)))⟩
theorem c_gv2 (h : AlAt w b o T c a) : ∃ v, w.cell? ⟨b, o + 14, none⟩ = some v := ⟨_, blk_cell (o := o + 12 + 2) h.obj (h.gv 2 _ (List.getElem?_eq_getElem (by rw [h.lgv]; decide)))⟩
theorem set_nx (h : AlAt w b o T c a) (x : Int) : AlAt (w.setCell ⟨b, o, none⟩ (.int .i64 x)) b o T (c.setIfInBounds (o) (.int .i64 x)) { a with nx := x } :=
  ⟨blk_setCell _ _ _ _ _ _ h.obj, h.ltk, h.lpl, h.lgv, putc _ h.nx, rowskip h.tk _ (by have := h.ltk; omega), rowskip h.pl _ (by have := h.lpl; omega), rowskip h.gv _ (by have := h.lgv; omega), keepc h.kd (by omega), keepc h.sz (by omega), keepc h.sl (by omega), keepc h.gn (by omega), keepc h.own (by omega), keepc h.sa (by omega), keepc h.sc (by omega), keepc h.E (by omega), keepc h.H (by omega), keepc h.V (by omega), keepc h.St (by omega)⟩
theorem set_kd (h : AlAt w b o T c a) (x : Int) : AlAt (w.setCell ⟨b, o + 15, none⟩ (.int .i64 x)) b o T (c.setIfInBounds (o + 15) (.int .i64 x)) { a with kd := x } :=
  ⟨blk_setCell _ _ _ _ _ _ h.obj, h.ltk, h.lpl, h.lgv, keepc h.nx (by omega), rowskip h.tk _ (by have := h.ltk; omega), rowskip h.pl _ (by have := h.lpl; omega), rowskip h.gv _ (by have := h.lgv; omega), putc _ h.kd, keepc h.sz (by omega), keepc h.sl (by omega), keepc h.gn (by omega), keepc h.own (by omega), keepc h.sa (by omega), keepc h.sc (by omega), keepc h.E (by omega), keepc h.H (by omega), keepc h.V (by omega), keepc h.St (by omega)⟩
theorem set_sl (h : AlAt w b o T c a) (x : Int) : AlAt (w.setCell ⟨b, o + 17, none⟩ (.int .i64 x)) b o T (c.setIfInBounds (o + 17) (.int .i64 x)) { a with sl := x } :=
  ⟨blk_setCell _ _ _ _ _ _ h.obj, h.ltk, h.lpl, h.lgv, keepc h.nx (by omega), rowskip h.tk _ (by have := h.ltk; omega), rowskip h.pl _ (by have := h.lpl; omega), rowskip h.gv _ (by have := h.lgv; omega), keepc h.kd (by omega), keepc h.sz (by omega), putc _ h.sl, keepc h.gn (by omega), keepc h.own (by omega), keepc h.sa (by omega), keepc h.sc (by omega), keepc h.E (by omega), keepc h.H (by omega), keepc h.V (by omega), keepc h.St (by omega)⟩
theorem set_gn (h : AlAt w b o T c a) (x : Int) : AlAt (w.setCell ⟨b, o + 18, none⟩ (.int .i64 x)) b o T (c.setIfInBounds (o + 18) (.int .i64 x)) { a with gn := x } :=
  ⟨blk_setCell _ _ _ _ _ _ h.obj, h.ltk, h.lpl, h.lgv, keepc h.nx (by omega), rowskip h.tk _ (by have := h.ltk; omega), rowskip h.pl _ (by have := h.lpl; omega), rowskip h.gv _ (by have := h.lgv; omega), keepc h.kd (by omega), keepc h.sz (by omega), keepc h.sl (by omega), putc _ h.gn, keepc h.own (by omega), keepc h.sa (by omega), keepc h.sc (by omega), keepc h.E (by omega), keepc h.H (by omega), keepc h.V (by omega), keepc h.St (by omega)⟩
theorem set_sa (h : AlAt w b o T c a) (x : Int) : AlAt (w.setCell ⟨b, o + 20, none⟩ (.int .i64 x)) b o T (c.setIfInBounds (o + 20) (.int .i64 x)) { a with sa := x } :=
  ⟨blk_setCell _ _ _ _ _ _ h.obj, h.ltk, h.lpl, h.lgv, keepc h.nx (by omega), rowskip h.tk _ (by have := h.ltk; omega), rowskip h.pl _ (by have := h.lpl; omega), rowskip h.gv _ (by have := h.lgv; omega), keepc h.kd (by omega), keepc h.sz (by omega), keepc h.sl (by omega), keepc h.gn (by omega), keepc h.own (by omega), putc _ h.sa, keepc h.sc (by omega), keepc h.E (by omega), keepc h.H (by omega), keepc h.V (by omega), keepc h.St (by omega)⟩
theorem set_sc (h : AlAt w b o T c a) (x : Int) : AlAt (w.setCell ⟨b, o + 21, none⟩ (.int .i64 x)) b o T (c.setIfInBounds (o + 21) (.int .i64 x)) { a with sc := x } :=
  ⟨blk_setCell _ _ _ _ _ _ h.obj, h.ltk, h.lpl, h.lgv, keepc h.nx (by omega), rowskip h.tk _ (by have := h.ltk; omega), rowskip h.pl _ (by have := h.lpl; omega), rowskip h.gv _ (by have := h.lgv; omega), keepc h.kd (by omega), keepc h.sz (by omega), keepc h.sl (by omega), keepc h.gn (by omega), keepc h.own (by omega), keepc h.sa (by omega), putc _ h.sc, keepc h.E (by omega), keepc h.H (by omega), keepc h.V (by omega), keepc h.St (by omega)⟩
theorem set_E (h : AlAt w b o T c a) (x : Int) : AlAt (w.setCell ⟨b, o + 22, none⟩ (.int .i64 x)) b o T (c.setIfInBounds (o + 22) (.int .i64 x)) { a with E := x } :=
  ⟨blk_setCell _ _ _ _ _ _ h.obj, h.ltk, h.lpl, h.lgv, keepc h.nx (by omega), rowskip h.tk _ (by have := h.ltk; omega), rowskip h.pl _ (by have := h.lpl; omega), rowskip h.gv _ (by have := h.lgv; omega), keepc h.kd (by omega), keepc h.sz (by omega), keepc h.sl (by omega), keepc h.gn (by omega), keepc h.own (by omega), keepc h.sa (by omega), keepc h.sc (by omega), putc _ h.E, keepc h.H (by omega), keepc h.V (by omega), keepc h.St (by omega)⟩
theorem set_H (h : AlAt w b o T c a) (x : Int) : AlAt (w.setCell ⟨b, o + 23, none⟩ (.int .u64 x)) b o T (c.setIfInBounds (o + 23) (.int .u64 x)) { a with H := x } :=
  ⟨blk_setCell _ _ _ _ _ _ h.obj, h.ltk, h.lpl, h.lgv, keepc h.nx (by omega), rowskip h.tk _ (by have := h.ltk; omega), rowskip h.pl _ (by have := h.lpl; omega), rowskip h.gv _ (by have := h.lgv; omega), keepc h.kd (by omega), keepc h.sz (by omega), keepc h.sl (by omega), keepc h.gn (by omega), keepc h.own (by omega), keepc h.sa (by omega), keepc h.sc (by omega), keepc h.E (by omega), putc _ h.H, keepc h.V (by omega), keepc h.St (by omega)⟩
theorem set_V (h : AlAt w b o T c a) (x : Int) : AlAt (w.setCell ⟨b, o + 24, none⟩ (.int .i64 x)) b o T (c.setIfInBounds (o + 24) (.int .i64 x)) { a with V := x } :=
  ⟨blk_setCell _ _ _ _ _ _ h.obj, h.ltk, h.lpl, h.lgv, keepc h.nx (by omega), rowskip h.tk _ (by have := h.ltk; omega), rowskip h.pl _ (by have := h.lpl; omega), rowskip h.gv _ (by have := h.lgv; omega), keepc h.kd (by omega), keepc h.sz (by omega), keepc h.sl (by omega), keepc h.gn (by omega), keepc h.own (by omega), keepc h.sa (by omega), keepc h.sc (by omega), keepc h.E (by omega), keepc h.H (by omega), putc _ h.V, keepc h.St (by omega)⟩
theorem set_St (h : AlAt w b o T c a) (x : Int) : AlAt (w.setCell ⟨b, o + 25, none⟩ (.int .i64 x)) b o T (c.setIfInBounds (o + 25) (.int .i64 x)) { a with St := x } :=
  ⟨blk_setCell _ _ _ _ _ _ h.obj, h.ltk, h.lpl, h.lgv, keepc h.nx (by omega), rowskip h.tk _ (by have := h.ltk; omega), rowskip h.pl _ (by have := h.lpl; omega), rowskip h.gv _ (by have := h.lgv; omega), keepc h.kd (by omega), keepc h.sz (by omega), keepc h.sl (by omega), keepc h.gn (by omega), keepc h.own (by omega), keepc h.sa (by omega), keepc h.sc (by omega), keepc h.E (by omega), keepc h.H (by omega), keepc h.V (by omega), putc _ h.St⟩
theorem set_pl0 (h : AlAt w b o T c a) (x : Value) : AlAt (w.setCell ⟨b, o + 5, none⟩ x) b o T (c.setIfInBounds (o + 5) x) { a with pl := a.pl.set 0 x } :=
  ⟨blk_setCell _ _ _ _ _ _ h.obj, h.ltk, (by rw [List.length_set]; exact h.lpl), h.lgv, keepc h.nx (by omega), rowskip h.tk _ (by have := h.ltk; omega), rowset h.pl 0 x, rowskip h.gv _ (by have := h.lgv; omega), keepc h.kd (by omega), keepc h.sz (by omega), keepc h.sl (by omega), keepc h.gn (by omega), keepc h.own (by omega), keepc h.sa (by omega), keepc h.sc (by omega), keepc h.E (by omega), keepc h.H (by omega), keepc h.V (by omega), keepc h.St (by omega)⟩
theorem set_pl1 (h : AlAt w b o T c a) (x : Value) : AlAt (w.setCell ⟨b, o + 6, none⟩ x) b o T (c.setIfInBounds (o + 6) x) { a with pl := a.pl.set 1 x } :=
  ⟨blk_setCell _ _ _ _ _ _ h.obj, h.ltk, (by rw [List.length_set]; exact h.lpl), h.lgv, keepc h.nx (by omega), rowskip h.tk _ (by have := h.ltk; omega), rowset h.pl 1 x, rowskip h.gv _ (by have := h.lgv; omega), keepc h.kd (by omega), keepc h.sz (by omega), keepc h.sl (by omega), keepc h.gn (by omega), keepc h.own (by omega), keepc h.sa (by omega), keepc h.sc (by omega), keepc h.E (by omega), keepc h.H (by omega), keepc h.V (by omega), keepc h.St (by omega)⟩
theorem set_pl2 (h : AlAt w b o T c a) (x : Value) : AlAt (w.setCell ⟨b, o + 7, none⟩ x) b o T (c.setIfInBounds (o + 7) x) { a with pl := a.pl.set 2 x } :=
  ⟨blk_setCell _ _ _ _ _ _ h.obj, h.ltk, (by rw [List.length_set]; exact h.lpl), h.lgv, keepc h.nx (by omega), rowskip h.tk _ (by have := h.ltk; omega), rowset h.pl 2 x, rowskip h.gv _ (by have := h.lgv; omega), keepc h.kd (by omega), keepc h.sz (by omega), keepc h.sl (by omega), keepc h.gn (by omega), keepc h.own (by omega), keepc h.sa (by omega), keepc h.sc (by omega), keepc h.E (by omega), keepc h.H (by omega), keepc h.V (by omega), keepc h.St (by omega)⟩
theorem set_pl3 (h : AlAt w b o T c a) (x : Value) : AlAt (w.setCell ⟨b, o + 8, none⟩ x) b o T (c.setIfInBounds (o + 8) x) { a with pl := a.pl.set 3 x } :=
  ⟨blk_setCell _ _ _ _ _ _ h.obj, h.ltk, (by rw [List.length_set]; exact h.lpl), h.lgv, keepc h.nx (by omega), rowskip h.tk _ (by have := h.ltk; omega), rowset h.pl 3 x, rowskip h.gv _ (by have := h.lgv; omega), keepc h.kd (by omega), keepc h.sz (by omega), keepc h.sl (by omega), keepc h.gn (by omega), keepc h.own (by omega), keepc h.sa (by omega), keepc h.sc (by omega), keepc h.E (by omega), keepc h.H (by omega), keepc h.V (by omega), keepc h.St (by omega)⟩
theorem set_pl4 (h : AlAt w b o T c a) (x : Value) : AlAt (w.setCell ⟨b, o + 9, none⟩ x) b o T (c.setIfInBounds (o + 9) x) { a with pl := a.pl.set 4 x } :=
  ⟨blk_setCell _ _ _ _ _ _ h.obj, h.ltk, (by rw [List.length_set]; exact h.lpl), h.lgv, keepc h.nx (by omega), rowskip h.tk _ (by have := h.ltk; omega), rowset h.pl 4 x, rowskip h.gv _ (by have := h.lgv; omega), keepc h.kd (by omega), keepc h.sz (by omega), keepc h.sl (by omega), keepc h.gn (by omega), keepc h.own (by omega), keepc h.sa (by omega), keepc h.sc (by omega), keepc h.E (by omega), keepc h.H (by omega), keepc h.V (by omega), keepc h.St (by omega)⟩
theorem set_pl5 (h : AlAt w b o T c a) (x : Value) : AlAt (w.setCell ⟨b, o + 10, none⟩ x) b o T (c.setIfInBounds (o + 10) x) { a with pl := a.pl.set 5 x } :=
  ⟨blk_setCell _ _ _ _ _ _ h.obj, h.ltk, (by rw [List.length_set]; exact h.lpl), h.lgv, keepc h.nx (by omega), rowskip h.tk _ (by have := h.ltk; omega), rowset h.pl 5 x, rowskip h.gv _ (by have := h.lgv; omega), keepc h.kd (by omega), keepc h.sz (by omega), keepc h.sl (by omega), keepc h.gn (by omega), keepc h.own (by omega), keepc h.sa (by omega), keepc h.sc (by omega), keepc h.E (by omega), keepc h.H (by omega), keepc h.V (by omega), keepc h.St (by omega)⟩
theorem set_pl6 (h : AlAt w b o T c a) (x : Value) : AlAt (w.setCell ⟨b, o + 11, none⟩ x) b o T (c.setIfInBounds (o + 11) x) { a with pl := a.pl.set 6 x } :=
  ⟨blk_setCell _ _ _ _ _ _ h.obj, h.ltk, (by rw [List.length_set]; exact h.lpl), h.lgv, keepc h.nx (by omega), rowskip h.tk _ (by have := h.ltk; omega), rowset h.pl 6 x, rowskip h.gv _ (by have := h.lgv; omega), keepc h.kd (by omega), keepc h.sz (by omega), keepc h.sl (by omega), keepc h.gn (by omega), keepc h.own (by omega), keepc h.sa (by omega), keepc h.sc (by omega), keepc h.E (by omega), keepc h.H (by omega), keepc h.V (by omega), keepc h.St (by omega)⟩
theorem set_gv0 (h : AlAt w b o T c a) (x : Value) : AlAt (w.setCell ⟨b, o + 12, none⟩ x) b o T (c.setIfInBounds (o + 12) x) { a with gv := a.gv.set 0 x } :=
  ⟨blk_setCell _ _ _ _ _ _ h.obj, h.ltk, h.lpl, (by rw [List.length_set]; exact h.lgv), keepc h.nx (by omega), rowskip h.tk _ (by have := h.ltk; omega), rowskip h.pl _ (by have := h.lpl; omega), rowset h.gv 0 x, keepc h.kd (by omega), keepc h.sz (by omega), keepc h.sl (by omega), keepc h.gn (by omega), keepc h.own (by omega), keepc h.sa (by omega), keepc h.sc (by omega), keepc h.E (by omega), keepc h.H (by omega), keepc h.V (by omega), keepc h.St (by omega)⟩
theorem set_gv1 (h : AlAt w b o T c a) (x : Value) : AlAt (w.setCell ⟨b, o + 13, none⟩ x) b o T (c.setIfInBounds (o + 13) x) { a with gv := a.gv.set 1 x } :=
  ⟨blk_setCell _ _ _ _ _ _ h.obj, h.ltk, h.lpl, (by rw [List.length_set]; exact h.lgv), keepc h.nx (by omega), rowskip h.tk _ (by have := h.ltk; omega), rowskip h.pl _ (by have := h.lpl; omega), rowset h.gv 1 x, keepc h.kd (by omega), keepc h.sz (by omega), keepc h.sl (by omega), keepc h.gn (by omega), keepc h.own (by omega), keepc h.sa (by omega), keepc h.sc (by omega), keepc h.E (by omega), keepc h.H (by omega), keepc h.V (by omega), keepc h.St (by omega)⟩
theorem set_gv2 (h : AlAt w b o T c a) (x : Value) : AlAt (w.setCell ⟨b, o + 14, none⟩ x) b o T (c.setIfInBounds (o + 14) x) { a with gv := a.gv.set 2 x } :=
  ⟨blk_setCell _ _ _ _ _ _ h.obj, h.ltk, h.lpl, (by rw [List.length_set]; exact h.lgv), keepc h.nx (by omega), rowskip h.tk _ (by have := h.ltk; omega), rowskip h.pl _ (by have := h.lpl; omega), rowset h.gv 2 x, keepc h.kd (by omega), keepc h.sz (by omega), keepc h.sl (by omega), keepc h.gn (by omega), keepc h.own (by omega), keepc h.sa (by omega), keepc h.sc (by omega), keepc h.E (by omega), keepc h.H (by omega), keepc h.V (by omega), keepc h.St (by omega)⟩
theorem step_tk (h : AlAt w b o T c a) {l : List Value} (hA : At w' b (o + 1) T c' l) (hl : l.length = 4) (sm : Same (o + 1) 4 c c') : AlAt w' b o T c' { a with tk := l } :=
  ⟨hA.obj, hl, h.lpl, h.lgv, (sm.2 _ (by omega)).trans h.nx, hA.is, fun i v hv => (sm.2 _ (by have := lt_of_some (l := a.pl) hv; have := h.lpl; omega)).trans (h.pl i v hv), fun i v hv => (sm.2 _ (by have := lt_of_some (l := a.gv) hv; have := h.lgv; omega)).trans (h.gv i v hv), (sm.2 _ (by omega)).trans h.kd, (sm.2 _ (by omega)).trans h.sz, (sm.2 _ (by omega)).trans h.sl, (sm.2 _ (by omega)).trans h.gn, (sm.2 _ (by omega)).trans h.own, (sm.2 _ (by omega)).trans h.sa, (sm.2 _ (by omega)).trans h.sc, (sm.2 _ (by omega)).trans h.E, (sm.2 _ (by omega)).trans h.H, (sm.2 _ (by omega)).trans h.V, (sm.2 _ (by omega)).trans h.St⟩
theorem step_pl (h : AlAt w b o T c a) {l : List Value} (hA : At w' b (o + 5) T c' l) (hl : l.length = 7) (sm : Same (o + 5) 7 c c') : AlAt w' b o T c' { a with pl := l } :=
  ⟨hA.obj, h.ltk, hl, h.lgv, (sm.2 _ (by omega)).trans h.nx, fun i v hv => (sm.2 _ (by have := lt_of_some (l := a.tk) hv; have := h.ltk; omega)).trans (h.tk i v hv), hA.is, fun i v hv => (sm.2 _ (by have := lt_of_some (l := a.gv) hv; have := h.lgv; omega)).trans (h.gv i v hv), (sm.2 _ (by omega)).trans h.kd, (sm.2 _ (by omega)).trans h.sz, (sm.2 _ (by omega)).trans h.sl, (sm.2 _ (by omega)).trans h.gn, (sm.2 _ (by omega)).trans h.own, (sm.2 _ (by omega)).trans h.sa, (sm.2 _ (by omega)).trans h.sc, (sm.2 _ (by omega)).trans h.E, (sm.2 _ (by omega)).trans h.H, (sm.2 _ (by omega)).trans h.V, (sm.2 _ (by omega)).trans h.St⟩
theorem step_gv (h : AlAt w b o T c a) {l : List Value} (hA : At w' b (o + 12) T c' l) (hl : l.length = 3) (sm : Same (o + 12) 3 c c') : AlAt w' b o T c' { a with gv := l } :=
  ⟨hA.obj, h.ltk, h.lpl, hl, (sm.2 _ (by omega)).trans h.nx, fun i v hv => (sm.2 _ (by have := lt_of_some (l := a.tk) hv; have := h.ltk; omega)).trans (h.tk i v hv), fun i v hv => (sm.2 _ (by have := lt_of_some (l := a.pl) hv; have := h.lpl; omega)).trans (h.pl i v hv), hA.is, (sm.2 _ (by omega)).trans h.kd, (sm.2 _ (by omega)).trans h.sz, (sm.2 _ (by omega)).trans h.sl, (sm.2 _ (by omega)).trans h.gn, (sm.2 _ (by omega)).trans h.own, (sm.2 _ (by omega)).trans h.sa, (sm.2 _ (by omega)).trans h.sc, (sm.2 _ (by omega)).trans h.E, (sm.2 _ (by omega)).trans h.H, (sm.2 _ (by omega)).trans h.V, (sm.2 _ (by omega)).trans h.St⟩
end AlAt

theorem Same.wide {o o' k k' : Nat} {c c' : Array Value} (h : Same o' k' c c') (h1 : o ≤ o') (h2 : o' + k' ≤ o + k) : Same o k c c' := ⟨h.1, fun i hi => h.2 i (by omega)⟩

theorem len7 {l : List Value} (h : l.length = 7) : ∃ a b c d e f g, l = [a, b, c, d, e, f, g] := by
  match l, h with
  | [a, b, c, d, e, f, g], _ => exact ⟨a, b, c, d, e, f, g, rfl⟩
theorem len3 {l : List Value} (h : l.length = 3) : ∃ a b c, l = [a, b, c] := by
  match l, h with
  | [a, b, c], _ => exact ⟨a, b, c, rfl⟩

theorem Tk.cells_len {τ : Tk} {l : List Value} (h : τ.cells l) : l.length = 4 := by
  cases τ with
  | idle => obtain ⟨_, _, _, rfl⟩ := h; rfl
  | saw => obtain ⟨_, rfl⟩ := h; rfl
  | lnk => have h' : l = _ := h; subst h'; rfl
  | won => obtain ⟨_, _, rfl⟩ := h; rfl
  | none => obtain ⟨_, _, _, rfl⟩ := h; rfl
theorem Gv.cells_len {x : Nat} {γ : Gv} {l : List Value} (h : γ.cells x l) : l.length = 3 := by
  cases γ with
  | idle => obtain ⟨_, rfl⟩ := h; rfl
  | saw => have h' : l = _ := h; subst h'; rfl
  | lnk => have h' : l = _ := h; subst h'; rfl
  | over => obtain ⟨_, rfl⟩ := h; rfl
theorem Pl.cells_len {κ : Nat} {τ : Pl} {l : List Value} (h : τ.cells κ l) : l.length = 7 := by
  cases τ with
  | see => obtain ⟨_, _, _, _, _, rfl⟩ := h; rfl
  | ask => obtain ⟨_, _, _, rfl⟩ := h; rfl
  | grow => obtain ⟨_, _, _, rfl⟩ := h; rfl
  | look => obtain ⟨_, _, _, rfl⟩ := h; rfl
  | take => obtain ⟨_, _, rfl⟩ := h; rfl
  | opn => obtain ⟨_, _, rfl⟩ := h; rfl
  | fre => obtain ⟨_, _, rfl⟩ := h; rfl
  | won => obtain ⟨_, _, _, rfl⟩ := h; rfl
  | none => obtain ⟨_, _, _, _, _, rfl⟩ := h; rfl

end Go.Proofs.Ytocmkmeikcejjaa
