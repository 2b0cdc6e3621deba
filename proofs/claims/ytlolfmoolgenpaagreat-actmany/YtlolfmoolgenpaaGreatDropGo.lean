import Derived.Test.YtlolfmoolgenpaaGreatDropHelp
import Derived.Test.YtlolfmoolgenpaaGreatAllocCamp
namespace Go.Proofs.YtlolfmoolgenpaaGreat
open Go.RowKit
structure DV where
 nx : Int
 nu : Int
 own : Bool
 se : Int
 ch : Int
 sz : Int
 hl : List Value
 gl : List Value
 E : Int
 H : Int
 V : Int
 St : Int
structure DpAt (w : World) (b o : Nat) (T : TypeId) (c : Array Value) (a : DV) : Prop where
 obj : w.heap[b]? = some (.cells c T (0,0))
 lhl : a.hl.length = 8
 lgl : a.gl.length = 3
 hl : ∀ i v,a.hl[i]? = some v -> c[o + 6 + i]? = some v
 gl : ∀ i v,a.gl[i]? = some v -> c[o + 14 + i]? = some v
 nx : c[o]? = some (.int .i64 a.nx)
 nu : c[o + 1]? = some (.int .u64 a.nu)
 own : c[o + 2]? = some (.bool a.own)
 se : c[o + 3]? = some (.int .u64 a.se)
 ch : c[o + 4]? = some (.int .i64 a.ch)
 sz : c[o + 5]? = some (.int .i64 a.sz)
 E : c[o + 17]? = some (.int .i64 a.E)
 H : c[o + 18]? = some (.int .u64 a.H)
 V : c[o + 19]? = some (.int .i64 a.V)
 St : c[o + 20]? = some (.int .i64 a.St)
namespace DpAt
variable {w w' : World} {b o : Nat} {T : TypeId} {c c' : Array Value} {a : DV}
theorem lt (h : DpAt w b o T c a) : b < w.heap.size:=blk_lt h.obj
theorem fz (h : DpAt w b o T c a) (i : Nat) : w.frozen? ⟨b,i,none⟩ = false:=blk_frozen h.obj i
theorem of_block (h : DpAt w b o T c a) (e : w'.heap[b]? = w.heap[b]?) : DpAt w' b o T c a:={ h with obj:=e.trans h.obj }
theorem grown (h : DpAt w b o T c a) (g : Below w.heap.size w w') : DpAt w' b o T c a:=h.of_block (g.block _ h.lt)
theorem drew (h : DpAt w b o T c a) : DpAt w.drew b o T c a:=h.of_block rfl
theorem only {S : Nat -> Prop} (h : DpAt w b o T c a) (g : Only S w w') (hs : ¬ S b) : DpAt w' b o T c a:=h.of_block (g.block _ h.lt hs)
theorem hlAt (h : DpAt w b o T c a) : At w b (o + 6) T c a.hl:=⟨h.obj,h.hl⟩
theorem glAt (h : DpAt w b o T c a) : At w b (o + 14) T c a.gl:=⟨h.obj,h.gl⟩
theorem c_nx (h : DpAt w b o T c a) : w.cell? ⟨b,o,none⟩ = some (.int .i64 a.nx):=blk_cell h.obj h.nx
theorem c_nu (h : DpAt w b o T c a) : w.cell? ⟨b,o + 1,none⟩ = some (.int .u64 a.nu):=blk_cell h.obj h.nu
theorem c_own (h : DpAt w b o T c a) : w.cell? ⟨b,o + 2,none⟩ = some (.bool a.own):=blk_cell h.obj h.own
theorem c_se (h : DpAt w b o T c a) : w.cell? ⟨b,o + 3,none⟩ = some (.int .u64 a.se):=blk_cell h.obj h.se
theorem c_ch (h : DpAt w b o T c a) : w.cell? ⟨b,o + 4,none⟩ = some (.int .i64 a.ch):=blk_cell h.obj h.ch
theorem c_sz (h : DpAt w b o T c a) : w.cell? ⟨b,o + 5,none⟩ = some (.int .i64 a.sz):=blk_cell h.obj h.sz
theorem c_E (h : DpAt w b o T c a) : w.cell? ⟨b,o + 17,none⟩ = some (.int .i64 a.E):=blk_cell h.obj h.E
theorem c_H (h : DpAt w b o T c a) : w.cell? ⟨b,o + 18,none⟩ = some (.int .u64 a.H):=blk_cell h.obj h.H
theorem c_V (h : DpAt w b o T c a) : w.cell? ⟨b,o + 19,none⟩ = some (.int .i64 a.V):=blk_cell h.obj h.V
theorem c_St (h : DpAt w b o T c a) : w.cell? ⟨b,o + 20,none⟩ = some (.int .i64 a.St):=blk_cell h.obj h.St
theorem c_hl0 (h : DpAt w b o T c a) : ∃ v,w.cell? ⟨b,o + 6,none⟩ = some v:=⟨_,blk_cell (o:=o + 6 + 0) h.obj (h.hl 0 _ (List.getElem?_eq_getElem (by rw [h.lhl];decide)))⟩
theorem c_hl1 (h : DpAt w b o T c a) : ∃ v,w.cell? ⟨b,o + 7,none⟩ = some v:=⟨_,blk_cell (o:=o + 6 + 1) h.obj (h.hl 1 _ (List.getElem?_eq_getElem (by rw [h.lhl];decide)))⟩
theorem c_hl2 (h : DpAt w b o T c a) : ∃ v,w.cell? ⟨b,o + 8,none⟩ = some v:=⟨_,blk_cell (o:=o + 6 + 2) h.obj (h.hl 2 _ (List.getElem?_eq_getElem (by rw [h.lhl];decide)))⟩
theorem c_hl3 (h : DpAt w b o T c a) : ∃ v,w.cell? ⟨b,o + 9,none⟩ = some v:=⟨_,blk_cell (o:=o + 6 + 3) h.obj (h.hl 3 _ (List.getElem?_eq_getElem (by rw [h.lhl];decide)))⟩
theorem c_hl4 (h : DpAt w b o T c a) : ∃ v,w.cell? ⟨b,o + 10,none⟩ = some v:=⟨_,blk_cell (o:=o + 6 + 4) h.obj (h.hl 4 _ (List.getElem?_eq_getElem (by rw [h.lhl];decide)))⟩
theorem c_hl5 (h : DpAt w b o T c a) : ∃ v,w.cell? ⟨b,o + 11,none⟩ = some v:=⟨_,blk_cell (o:=o + 6 + 5) h.obj (h.hl 5 _ (List.getElem?_eq_getElem (by rw [h.lhl];decide)))⟩
theorem c_hl6 (h : DpAt w b o T c a) : ∃ v,w.cell? ⟨b,o + 12,none⟩ = some v:=⟨_,blk_cell (o:=o + 6 + 6) h.obj (h.hl 6 _ (List.getElem?_eq_getElem (by rw [h.lhl];decide)))⟩
theorem c_hl7 (h : DpAt w b o T c a) : ∃ v,w.cell? ⟨b,o + 13,none⟩ = some v:=⟨_,blk_cell (o:=o + 6 + 7) h.obj (h.hl 7 _ (List.getElem?_eq_getElem (by rw [h.lhl];decide)))⟩
theorem c_gl0 (h : DpAt w b o T c a) : ∃ v,w.cell? ⟨b,o + 14,none⟩ = some v:=⟨_,blk_cell (o:=o + 14 + 0) h.obj (h.gl 0 _ (List.getElem?_eq_getElem (by rw [h.lgl];decide)))⟩
theorem c_gl1 (h : DpAt w b o T c a) : ∃ v,w.cell? ⟨b,o + 15,none⟩ = some v:=⟨_,blk_cell (o:=o + 14 + 1) h.obj (h.gl 1 _ (List.getElem?_eq_getElem (by rw [h.lgl];decide)))⟩
theorem c_gl2 (h : DpAt w b o T c a) : ∃ v,w.cell? ⟨b,o + 16,none⟩ = some v:=⟨_,blk_cell (o:=o + 14 + 2) h.obj (h.gl 2 _ (List.getElem?_eq_getElem (by rw [h.lgl];decide)))⟩
theorem set_nx (h : DpAt w b o T c a) (x : Int) : DpAt (w.setCell ⟨b,o,none⟩ (.int .i64 x)) b o T (c.setIfInBounds (o) (.int .i64 x)) { a with nx:=x } :=
 ⟨blk_setCell _ _ _ _ _ _ h.obj,h.lhl,h.lgl,rowskip h.hl _ (by have:=h.lhl;omega),rowskip h.gl _ (by have:=h.lgl;omega),putc _ h.nx,keepc h.nu (by omega),keepc h.own (by omega),keepc h.se (by omega),keepc h.ch (by omega),keepc h.sz (by omega),keepc h.E (by omega),keepc h.H (by omega),keepc h.V (by omega),keepc h.St (by omega)⟩
theorem set_se (h : DpAt w b o T c a) (x : Int) : DpAt (w.setCell ⟨b,o + 3,none⟩ (.int .u64 x)) b o T (c.setIfInBounds (o + 3) (.int .u64 x)) { a with se:=x } :=
 ⟨blk_setCell _ _ _ _ _ _ h.obj,h.lhl,h.lgl,rowskip h.hl _ (by have:=h.lhl;omega),rowskip h.gl _ (by have:=h.lgl;omega),keepc h.nx (by omega),keepc h.nu (by omega),keepc h.own (by omega),putc _ h.se,keepc h.ch (by omega),keepc h.sz (by omega),keepc h.E (by omega),keepc h.H (by omega),keepc h.V (by omega),keepc h.St (by omega)⟩
theorem set_ch (h : DpAt w b o T c a) (x : Int) : DpAt (w.setCell ⟨b,o + 4,none⟩ (.int .i64 x)) b o T (c.setIfInBounds (o + 4) (.int .i64 x)) { a with ch:=x } :=
 ⟨blk_setCell _ _ _ _ _ _ h.obj,h.lhl,h.lgl,rowskip h.hl _ (by have:=h.lhl;omega),rowskip h.gl _ (by have:=h.lgl;omega),keepc h.nx (by omega),keepc h.nu (by omega),keepc h.own (by omega),keepc h.se (by omega),putc _ h.ch,keepc h.sz (by omega),keepc h.E (by omega),keepc h.H (by omega),keepc h.V (by omega),keepc h.St (by omega)⟩
theorem set_sz (h : DpAt w b o T c a) (x : Int) : DpAt (w.setCell ⟨b,o + 5,none⟩ (.int .i64 x)) b o T (c.setIfInBounds (o + 5) (.int .i64 x)) { a with sz:=x } :=
 ⟨blk_setCell _ _ _ _ _ _ h.obj,h.lhl,h.lgl,rowskip h.hl _ (by have:=h.lhl;omega),rowskip h.gl _ (by have:=h.lgl;omega),keepc h.nx (by omega),keepc h.nu (by omega),keepc h.own (by omega),keepc h.se (by omega),keepc h.ch (by omega),putc _ h.sz,keepc h.E (by omega),keepc h.H (by omega),keepc h.V (by omega),keepc h.St (by omega)⟩
theorem set_E (h : DpAt w b o T c a) (x : Int) : DpAt (w.setCell ⟨b,o + 17,none⟩ (.int .i64 x)) b o T (c.setIfInBounds (o + 17) (.int .i64 x)) { a with E:=x } :=
 ⟨blk_setCell _ _ _ _ _ _ h.obj,h.lhl,h.lgl,rowskip h.hl _ (by have:=h.lhl;omega),rowskip h.gl _ (by have:=h.lgl;omega),keepc h.nx (by omega),keepc h.nu (by omega),keepc h.own (by omega),keepc h.se (by omega),keepc h.ch (by omega),keepc h.sz (by omega),putc _ h.E,keepc h.H (by omega),keepc h.V (by omega),keepc h.St (by omega)⟩
theorem set_H (h : DpAt w b o T c a) (x : Int) : DpAt (w.setCell ⟨b,o + 18,none⟩ (.int .u64 x)) b o T (c.setIfInBounds (o + 18) (.int .u64 x)) { a with H:=x } :=
 ⟨blk_setCell _ _ _ _ _ _ h.obj,h.lhl,h.lgl,rowskip h.hl _ (by have:=h.lhl;omega),rowskip h.gl _ (by have:=h.lgl;omega),keepc h.nx (by omega),keepc h.nu (by omega),keepc h.own (by omega),keepc h.se (by omega),keepc h.ch (by omega),keepc h.sz (by omega),keepc h.E (by omega),putc _ h.H,keepc h.V (by omega),keepc h.St (by omega)⟩
theorem set_V (h : DpAt w b o T c a) (x : Int) : DpAt (w.setCell ⟨b,o + 19,none⟩ (.int .i64 x)) b o T (c.setIfInBounds (o + 19) (.int .i64 x)) { a with V:=x } :=
 ⟨blk_setCell _ _ _ _ _ _ h.obj,h.lhl,h.lgl,rowskip h.hl _ (by have:=h.lhl;omega),rowskip h.gl _ (by have:=h.lgl;omega),keepc h.nx (by omega),keepc h.nu (by omega),keepc h.own (by omega),keepc h.se (by omega),keepc h.ch (by omega),keepc h.sz (by omega),keepc h.E (by omega),keepc h.H (by omega),putc _ h.V,keepc h.St (by omega)⟩
theorem set_St (h : DpAt w b o T c a) (x : Int) : DpAt (w.setCell ⟨b,o + 20,none⟩ (.int .i64 x)) b o T (c.setIfInBounds (o + 20) (.int .i64 x)) { a with St:=x } :=
 ⟨blk_setCell _ _ _ _ _ _ h.obj,h.lhl,h.lgl,rowskip h.hl _ (by have:=h.lhl;omega),rowskip h.gl _ (by have:=h.lgl;omega),keepc h.nx (by omega),keepc h.nu (by omega),keepc h.own (by omega),keepc h.se (by omega),keepc h.ch (by omega),keepc h.sz (by omega),keepc h.E (by omega),keepc h.H (by omega),keepc h.V (by omega),putc _ h.St⟩
theorem set_hl0 (h : DpAt w b o T c a) (x : Value) : DpAt (w.setCell ⟨b,o + 6,none⟩ x) b o T (c.setIfInBounds (o + 6) x) { a with hl:=a.hl.set 0 x } :=
 ⟨blk_setCell _ _ _ _ _ _ h.obj,(by rw [List.length_set];exact h.lhl),h.lgl,rowset h.hl 0 x,rowskip h.gl _ (by have:=h.lgl;omega),keepc h.nx (by omega),keepc h.nu (by omega),keepc h.own (by omega),keepc h.se (by omega),keepc h.ch (by omega),keepc h.sz (by omega),keepc h.E (by omega),keepc h.H (by omega),keepc h.V (by omega),keepc h.St (by omega)⟩
theorem set_hl1 (h : DpAt w b o T c a) (x : Value) : DpAt (w.setCell ⟨b,o + 7,none⟩ x) b o T (c.setIfInBounds (o + 7) x) { a with hl:=a.hl.set 1 x } :=
 ⟨blk_setCell _ _ _ _ _ _ h.obj,(by rw [List.length_set];exact h.lhl),h.lgl,rowset h.hl 1 x,rowskip h.gl _ (by have:=h.lgl;omega),keepc h.nx (by omega),keepc h.nu (by omega),keepc h.own (by omega),keepc h.se (by omega),keepc h.ch (by omega),keepc h.sz (by omega),keepc h.E (by omega),keepc h.H (by omega),keepc h.V (by omega),keepc h.St (by omega)⟩
theorem set_hl2 (h : DpAt w b o T c a) (x : Value) : DpAt (w.setCell ⟨b,o + 8,none⟩ x) b o T (c.setIfInBounds (o + 8) x) { a with hl:=a.hl.set 2 x } :=
 ⟨blk_setCell _ _ _ _ _ _ h.obj,(by rw [List.length_set];exact h.lhl),h.lgl,rowset h.hl 2 x,rowskip h.gl _ (by have:=h.lgl;omega),keepc h.nx (by omega),keepc h.nu (by omega),keepc h.own (by omega),keepc h.se (by omega),keepc h.ch (by omega),keepc h.sz (by omega),keepc h.E (by omega),keepc h.H (by omega),keepc h.V (by omega),keepc h.St (by omega)⟩
theorem set_hl3 (h : DpAt w b o T c a) (x : Value) : DpAt (w.setCell ⟨b,o + 9,none⟩ x) b o T (c.setIfInBounds (o + 9) x) { a with hl:=a.hl.set 3 x } :=
 ⟨blk_setCell _ _ _ _ _ _ h.obj,(by rw [List.length_set];exact h.lhl),h.lgl,rowset h.hl 3 x,rowskip h.gl _ (by have:=h.lgl;omega),keepc h.nx (by omega),keepc h.nu (by omega),keepc h.own (by omega),keepc h.se (by omega),keepc h.ch (by omega),keepc h.sz (by omega),keepc h.E (by omega),keepc h.H (by omega),keepc h.V (by omega),keepc h.St (by omega)⟩
theorem set_hl4 (h : DpAt w b o T c a) (x : Value) : DpAt (w.setCell ⟨b,o + 10,none⟩ x) b o T (c.setIfInBounds (o + 10) x) { a with hl:=a.hl.set 4 x } :=
 ⟨blk_setCell _ _ _ _ _ _ h.obj,(by rw [List.length_set];exact h.lhl),h.lgl,rowset h.hl 4 x,rowskip h.gl _ (by have:=h.lgl;omega),keepc h.nx (by omega),keepc h.nu (by omega),keepc h.own (by omega),keepc h.se (by omega),keepc h.ch (by omega),keepc h.sz (by omega),keepc h.E (by omega),keepc h.H (by omega),keepc h.V (by omega),keepc h.St (by omega)⟩
theorem set_hl5 (h : DpAt w b o T c a) (x : Value) : DpAt (w.setCell ⟨b,o + 11,none⟩ x) b o T (c.setIfInBounds (o + 11) x) { a with hl:=a.hl.set 5 x } :=
 ⟨blk_setCell _ _ _ _ _ _ h.obj,(by rw [List.length_set];exact h.lhl),h.lgl,rowset h.hl 5 x,rowskip h.gl _ (by have:=h.lgl;omega),keepc h.nx (by omega),keepc h.nu (by omega),keepc h.own (by omega),keepc h.se (by omega),keepc h.ch (by omega),keepc h.sz (by omega),keepc h.E (by omega),keepc h.H (by omega),keepc h.V (by omega),keepc h.St (by omega)⟩
theorem set_hl6 (h : DpAt w b o T c a) (x : Value) : DpAt (w.setCell ⟨b,o + 12,none⟩ x) b o T (c.setIfInBounds (o + 12) x) { a with hl:=a.hl.set 6 x } :=
 ⟨blk_setCell _ _ _ _ _ _ h.obj,(by rw [List.length_set];exact h.lhl),h.lgl,rowset h.hl 6 x,rowskip h.gl _ (by have:=h.lgl;omega),keepc h.nx (by omega),keepc h.nu (by omega),keepc h.own (by omega),keepc h.se (by omega),keepc h.ch (by omega),keepc h.sz (by omega),keepc h.E (by omega),keepc h.H (by omega),keepc h.V (by omega),keepc h.St (by omega)⟩
theorem set_hl7 (h : DpAt w b o T c a) (x : Value) : DpAt (w.setCell ⟨b,o + 13,none⟩ x) b o T (c.setIfInBounds (o + 13) x) { a with hl:=a.hl.set 7 x } :=
 ⟨blk_setCell _ _ _ _ _ _ h.obj,(by rw [List.length_set];exact h.lhl),h.lgl,rowset h.hl 7 x,rowskip h.gl _ (by have:=h.lgl;omega),keepc h.nx (by omega),keepc h.nu (by omega),keepc h.own (by omega),keepc h.se (by omega),keepc h.ch (by omega),keepc h.sz (by omega),keepc h.E (by omega),keepc h.H (by omega),keepc h.V (by omega),keepc h.St (by omega)⟩
theorem set_gl0 (h : DpAt w b o T c a) (x : Value) : DpAt (w.setCell ⟨b,o + 14,none⟩ x) b o T (c.setIfInBounds (o + 14) x) { a with gl:=a.gl.set 0 x } :=
 ⟨blk_setCell _ _ _ _ _ _ h.obj,h.lhl,(by rw [List.length_set];exact h.lgl),rowskip h.hl _ (by have:=h.lhl;omega),rowset h.gl 0 x,keepc h.nx (by omega),keepc h.nu (by omega),keepc h.own (by omega),keepc h.se (by omega),keepc h.ch (by omega),keepc h.sz (by omega),keepc h.E (by omega),keepc h.H (by omega),keepc h.V (by omega),keepc h.St (by omega)⟩
theorem set_gl1 (h : DpAt w b o T c a) (x : Value) : DpAt (w.setCell ⟨b,o + 15,none⟩ x) b o T (c.setIfInBounds (o + 15) x) { a with gl:=a.gl.set 1 x } :=
 ⟨blk_setCell _ _ _ _ _ _ h.obj,h.lhl,(by rw [List.length_set];exact h.lgl),rowskip h.hl _ (by have:=h.lhl;omega),rowset h.gl 1 x,keepc h.nx (by omega),keepc h.nu (by omega),keepc h.own (by omega),keepc h.se (by omega),keepc h.ch (by omega),keepc h.sz (by omega),keepc h.E (by omega),keepc h.H (by omega),keepc h.V (by omega),keepc h.St (by omega)⟩
theorem set_gl2 (h : DpAt w b o T c a) (x : Value) : DpAt (w.setCell ⟨b,o + 16,none⟩ x) b o T (c.setIfInBounds (o + 16) x) { a with gl:=a.gl.set 2 x } :=
 ⟨blk_setCell _ _ _ _ _ _ h.obj,h.lhl,(by rw [List.length_set];exact h.lgl),rowskip h.hl _ (by have:=h.lhl;omega),rowset h.gl 2 x,keepc h.nx (by omega),keepc h.nu (by omega),keepc h.own (by omega),keepc h.se (by omega),keepc h.ch (by omega),keepc h.sz (by omega),keepc h.E (by omega),keepc h.H (by omega),keepc h.V (by omega),keepc h.St (by omega)⟩
theorem step_hl (h : DpAt w b o T c a) {l : List Value} (hA : At w' b (o + 6) T c' l) (hl : l.length = 8) (sm : Same (o + 6) 8 c c') : DpAt w' b o T c' { a with hl:=l } :=
 ⟨hA.obj,hl,h.lgl,hA.is,fun i v hv=>(sm.2 _ (by have:=lt_of_some (l:=a.gl) hv;have:=h.lgl;omega)).trans (h.gl i v hv),(sm.2 _ (by omega)).trans h.nx,(sm.2 _ (by omega)).trans h.nu,(sm.2 _ (by omega)).trans h.own,(sm.2 _ (by omega)).trans h.se,(sm.2 _ (by omega)).trans h.ch,(sm.2 _ (by omega)).trans h.sz,(sm.2 _ (by omega)).trans h.E,(sm.2 _ (by omega)).trans h.H,(sm.2 _ (by omega)).trans h.V,(sm.2 _ (by omega)).trans h.St⟩
theorem step_gl (h : DpAt w b o T c a) {l : List Value} (hA : At w' b (o + 14) T c' l) (hl : l.length = 3) (sm : Same (o + 14) 3 c c') : DpAt w' b o T c' { a with gl:=l } :=
 ⟨hA.obj,h.lhl,hl,fun i v hv=>(sm.2 _ (by have:=lt_of_some (l:=a.hl) hv;have:=h.lhl;omega)).trans (h.hl i v hv),hA.is,(sm.2 _ (by omega)).trans h.nx,(sm.2 _ (by omega)).trans h.nu,(sm.2 _ (by omega)).trans h.own,(sm.2 _ (by omega)).trans h.se,(sm.2 _ (by omega)).trans h.ch,(sm.2 _ (by omega)).trans h.sz,(sm.2 _ (by omega)).trans h.E,(sm.2 _ (by omega)).trans h.H,(sm.2 _ (by omega)).trans h.V,(sm.2 _ (by omega)).trans h.St⟩
end DpAt
theorem len8 {l : List Value} (h : l.length = 8) : ∃ a b c d e f g i,l = [a,b,c,d,e,f,g,i]:=by
 match l,h with
 | [a,b,c,d,e,f,g,i],_=>exact ⟨a,b,c,d,e,f,g,i,rfl⟩
def Dact (L : Loc) (b o : Nat) (T : TypeId) (cs : Array Value) (w w' : World) (X : Mm -> DV -> Prop) : Prop :=
 ∃ s' cs' a',MemAt w' L s' /\ Only (L.and b) w w' /\ DpAt w' b o T cs' a' /\ Same o 21 cs cs' /\ X s' a'
def phDp (L : Loc) (b o : Nat) (T : TypeId) (c c' : Array Value) (s s' : Mm) (a a' : DV) : Nat -> World -> Prop
 | 0,w=>MemAt w L s /\ DpAt w b o T c a
 | 1,w=>MemAt w L s' /\ DpAt w b o T c a
 | _,w=>MemAt w L s' /\ DpAt w b o T c' a'
theorem phDp_grown {L : Loc} {b o : Nat} {T : TypeId} {c c' : Array Value} {s s' : Mm} {a a' : DV} (x y : World) (p : Nat) (g : Grown x y) (k : phDp L b o T c c' s s' a a' p x) : phDp L b o T c c' s s' a a' p y:=by
 match p,k with
 | 0,k=>exact ⟨k.1.below g,k.2.grown g⟩
 | 1,k=>exact ⟨k.1.below g,k.2.grown g⟩
 | p + 2,k=>exact ⟨k.1.below g,k.2.grown g⟩
def dv0 (H : Int) (own : Bool) : DV:=⟨0,H,own,0,0,0,HpV 0 0 0 0 0 false false false,GvV 0 0 0,0,0,0,0⟩
def drop0 (H : Int) (own : Bool) : Obj:=.cells #[.int .i64 0,.int .u64 H,.bool own,.int .u64 0,.int .i64 0,.int .i64 0,.int .i64 0,.int .u64 0,.int .i64 0,.int .i64 0,.int .u64 0,.bool false,.bool false,.bool false,.int .i64 0,.int .i64 0,.int .u64 0,.int .i64 0,.int .u64 0,.int .i64 0,.int .i64 0] 112
theorem newDrop_any (H : Int) (own : Bool) (w : World) :
 Calls Tryz.prog 36 #[.int .u64 H,.bool own] w fun e w'=>e = .returned (.pointer (some ⟨w.heap.size,0,none⟩)) /\ w' = w.alloc (drop0 H own):=by
 unfold drop0
 go_enter Tryz.func36,Tryz.ntmps36
 go_wp2
 go_ret
 exact ⟨rfl,rfl⟩
theorem drop0_at (H : Int) (own : Bool) (w : World) : ∃ cs,DpAt (w.alloc (drop0 H own)) w.heap.size 0 112 cs (dv0 H own):=by
 refine ⟨_,Go.Deep.blk_alloc_new _ _,rfl,rfl,fun i v hv=>?_,fun i v hv=>?_,rfl,rfl,rfl,rfl,rfl,rfl,rfl,rfl,rfl,rfl⟩
 · have hl : i < 8:=lt_of_some hv
   match i,hl with
   | 0,_=>exact hv
   | 1,_=>exact hv
   | 2,_=>exact hv
   | 3,_=>exact hv
   | 4,_=>exact hv
   | 5,_=>exact hv
   | 6,_=>exact hv
   | 7,_=>exact hv
 · have hl : i < 3:=lt_of_some hv
   match i,hl with
   | 0,_=>exact hv
   | 1,_=>exact hv
   | 2,_=>exact hv
theorem ddone_over {w : World} {b o : Nat} {T : TypeId} {cs : Array Value} {a : DV} (hi : DpAt w b o T cs a) (hnx : a.nx = 7) :
 Calls Tryz.prog 115 #[.pointer (some ⟨b,o,none⟩)] w fun e w'=>e = .returned (.agg #[.int .i64 a.E,.int .u64 a.H,.int .i64 a.V,.int .i64 a.St]) /\ Below w.heap.size w w':=by
 have i1:=hi.grown (grow1 _ (.cells #[.int .i64 0,.int .u64 0,.int .i64 0,.int .i64 0] 40))
 have k0:=i1.c_nx
 rw [hnx] at k0
 have k1:=i1.c_E
 have k2:=i1.c_H
 have k3:=i1.c_V
 have k4:=i1.c_St
 go_enter Tryz.func115,Tryz.ntmps115
 go_wp2
 exact bodyPost_ret (v:=.agg #[.int .i64 a.E,.int .u64 a.H,.int .i64 a.V,.int .i64 a.St]) (by simp [results,Tryz.results115,go_sem]) rfl ⟨rfl,grow_alloc (Below.refl _ _) _⟩
end Go.Proofs.YtlolfmoolgenpaaGreat

namespace Go.Proofs.YtlolfmoolgenpaaGreat
open Go.RowKit
set_option maxRecDepth 20000
theorem drefuse {w : World} {L : Loc} {s : Mm} {b o : Nat} {T : TypeId} {cs : Array Value} {t n k m : Nat} {g p r : Int} {a : DV} (h : MemAt w L s) (hb : ¬ L.has b) (hi : DpAt w b o T cs a) (who : Int) (hnx : a.nx < 5) (σ : Nat) (hσ : s.steps = σ) :
 Calls Tryz.prog 119 #[.pointer (some ⟨b,o,none⟩),.agg #[.int .i64 t,.int .i64 n,.int .i64 k,.int .i64 m,.int .i64 g,.int .i64 p,.int .i64 r,.pointer (some ⟨L.p,0,none⟩),.int .i64 who]] w fun e w'=>e = .returned (.tuple #[]) /\ Dact L b o T cs w w' (fun s' a'=>s' = s /\ a' = { a with nx:=7,E:=3,H:=0,V:=0,St:=σ }):=by
 have HS : Hid (s.steps = σ):=hσ
 clear hσ
 have i0:=hi.grown (grow1 _ (.cells #[.int .i64 t,.int .i64 n,.int .i64 k,.int .i64 m,.int .i64 g,.int .i64 p,.int .i64 r,.pointer (some ⟨L.p,0,none⟩),.int .i64 who] 27))
 have k0:=i0.c_nx
 go_enter Tryz.func119,Tryz.ntmps119
 go_wp2_with (go_at_call 17;refine (now_any (h.alloc _) _ _ _ _ _ _ _ _ σ HS.out).mono ?_;rintro e w1 ⟨rfl,b1⟩;have i1:=i0.grown b1;have m1:=(h.alloc (.cells #[.int .i64 t,.int .i64 n,.int .i64 k,.int .i64 m,.int .i64 g,.int .i64 p,.int .i64 r,.pointer (some ⟨L.p,0,none⟩),.int .i64 who] 27)).below b1;have k1:=i1.c_E;have k2:=i1.c_H;have k3:=i1.c_V;have k4:=i1.c_St;have k5:=i1.c_nx;have kf:=i1.fz)
 go_end0
 exact ⟨rfl,s,_,_,((((m1.setIn hb _ _).setIn hb _ _).setIn hb _ _).setIn hb _ _).setIn hb _ _,(((((((Only.refl _ _).alloc _).trans (Only.ofGrown b1)).set _ _).set _ _).set _ _).set _ _).set _ _,((((i1.set_E 3).set_H 0).set_V 0).set_St σ).set_nx 7,((((Same.refl.set (by omega) _).set (by omega) _).set (by omega) _).set (by omega) _).set (by omega) _,rfl,rfl⟩
set_option maxHeartbeats 400000 in
theorem dsee_no {w : World} {L : Loc} {s : Mm} {b o : Nat} {T : TypeId} {cs : Array Value} {t n k m : Nat} {g p r : Int} {a : DV} (h : MemAt w L s) (hb : ¬ L.has b) (hi : DpAt w b o T cs a) (who : Int) (hG : Good t n k m g p r) {x : Nat} {G : Int} (hx : x < n) (hn : (6 + t + x * 2) < s.n) {v st : Int} {A : Nat} {Gs V : Int} (hv : s.wd (6 + t + x * 2) = v) (hs : SlotIs v st A Gs V) {ci : Int} (hci : chunkOf t n k m A = ci) (hl : (lifeB st && Gs == G) = false) (hnx : a.nx < 5) {σ : Nat} (hσ : wrap64 (s.steps + 1) = σ) :
 Calls Tryz.prog 120 #[.pointer (some ⟨b,o,none⟩),.agg #[.int .i64 t,.int .i64 n,.int .i64 k,.int .i64 m,.int .i64 g,.int .i64 p,.int .i64 r,.pointer (some ⟨L.p,0,none⟩),.int .i64 who],.agg #[.int .i64 x,.int .i64 G]] w fun e w'=>e = .returned (.tuple #[]) /\ Dact L b o T cs w w' (fun s' a'=>s' = ((s.by who).step (6 + t + x * 2) (s.wd (6 + t + x * 2))) /\ a' = { a with se:=v,ch:=ci,nx:=7,E:=3,H:=0,V:=0,St:=σ }):=by
 have HU : Hid (s.wd (6 + t + x * 2) = v):=hv
 have sw:=hs.call
 have hs1:=hG.s1
 have ab : (A : Int) <= 1048575:=by have:=hs.ad;omega
 have of1:=fun w=>lof_any hG (A : Int) (by omega) w
 rw [hci] at of1
 have dl:=fun w=>dlive_any st A Gs V x G w
 rw [hl] at dl
 clear hv hs hci hl
 have HS : Hid ((((s.by who).step (6 + t + x * 2) (s.wd (6 + t + x * 2)))).steps = σ):=hσ
 clear hσ
 have hbv : ¬ L.has w.heap.size:=fun hh=>by have:=h.lt _ hh;omega
 have hbb : ¬ w.heap.size = b:=fun hh=>by have:=hi.lt;omega
 have hbv1 : ¬ L.has (w.heap.size + 1):=fun hh=>by have:=h.lt _ hh;omega
 have hbb1 : ¬ w.heap.size + 1 = b:=fun hh=>by have:=hi.lt;omega
 go_enter Tryz.func120,Tryz.ntmps120
 go_wp2
 refine wp_over (fun W=>MemAt W L s /\ DpAt W b o T cs a /\ BoxV W w.heap.size t n k m g p r L.p who /\ At W (w.heap.size + 1) 0 154 #[.int .i64 x,.int .i64 G] [.int .i64 x,.int .i64 G] /\ Only (L.and b) w W) ⟨(h.alloc _).alloc _,(hi.grown (grow1 _ _)).grown (grow1 _ _),BoxV.newB _,At.new2 _ _ _ _,((Only.refl _ _).alloc _).alloc _⟩ ?_
 rintro W ⟨m1,i1,v1,x1,o1⟩
 refine wp_region_phase (OnlyBut L b (o + 3)) Grown (phDp L b o T cs (cs.setIfInBounds (o + 3) (.int .u64 v)) s ((s.by who).step (6 + t + x * 2) (s.wd (6 + t + x * 2))) a { a with se:=v }) [7,10] [.val (.pointer (some ⟨b,o,none⟩)),.val (.agg #[.int .i64 t,.int .i64 n,.int .i64 k,.int .i64 m,.int .i64 g,.int .i64 p,.int .i64 r,.pointer (some ⟨L.p,0,none⟩),.int .i64 who]),.val (.pointer (some ⟨w.heap.size,0,none⟩)),.val (.agg #[.int .i64 t,.int .i64 n,.int .i64 k,.int .i64 m,.int .i64 g,.int .i64 p,.int .i64 r]),.val (.pointer (some ⟨w.heap.size + 1,0,none⟩)),.val (.int .i64 (x : Nat)),.val (.int .i64 (((6 + t + x * 2) : Nat) : Int)),.val (.int .u64 v),.val (.pointer (some ⟨b,o,none⟩)),.val (.pointer (some ⟨b,o + 3,none⟩)),.that (fun _ _=>True) (fun _ _ _ _ _=>trivial)]
  (by kernel_rfl) OnlyBut.refl OnlyBut.trans OnlyBut.ofGrown phDp_grown ⟨m1.drew,i1.drew⟩ (by kernel_rfl) (by kernel_rfl) (by kernel_rfl) (by kernel_rfl) (by kernel_rfl) ?_
 simp only [phaseAll,Act.put,List.setIfInBounds_toArray,List.set_cons_zero,List.set_cons_succ]
 refine ⟨?_,?_,?_,?_,?_,?_,?_,?_,?_,?_,?_,?_⟩
 · intros;apply ol;go_simp;exact gl
 · intro w' hR _
   apply ol
   obtain ⟨y0,y1,y2,y3,y4,y5,y6,y7,y8⟩:=(v1.grown ((Below.refl _ _).drew)).only hR.only (fun hh=>hh.elim hbv hbb)
   go_simp
   exact gl
 · intros;apply ol;go_simp;exact gl
 · intro w' hR _
   apply ol
   obtain ⟨y0,y1,y2,y3,y4,y5,y6,y7,y8⟩:=(v1.grown ((Below.refl _ _).drew)).only hR.only (fun hh=>hh.elim hbv hbb)
   go_simp
   exact gl
 · intros;apply ol;go_simp;exact gl
 · intro w' hR _
   apply ol
   have z:=(x1.drew.only hR.only (fun hh=>hh.elim hbv1 hbb1)).at0 0 rfl
   go_simp
   exact gl
 · intro w' hR _
   apply ol
   go_simp
   refine (lslot_any _ _ _ _ _ _ _ (x : Int) _ hG.arena (by omega) (by omega)).mono ?_
   rintro e w'' ⟨rfl,b9⟩
   exact ⟨_,rfl,b9,congrArg (Value.int .i64) (by omega)⟩
 · intro w' hR _ hP
   apply ol
   go_simp
   refine (eload_in (s:=s) hP.1 _ _ _ _ _ _ _ _ (6 + t + x * 2) hn).mono ?_
   rintro e w'' ⟨rfl,m2,o2⟩
   exact ⟨_,rfl,⟨OnlyBut.ofOnly o2 hb,m2,hP.2.only o2 hb⟩,by simp [Want.pred,HU.out]⟩
 · intros;apply ol;go_simp;exact gl
 · intros;apply ol;go_simp;exact gl
 · intro w' hR _ hP
   apply ol
   have z0:=hP.2.c_se
   have z1:=hP.2.fz
   go_simp
   exact ⟨⟨OnlyBut.set _ _,hP.1.setIn hb _ _,hP.2.set_se _⟩,trivial⟩
 intro vv w2 hR hP _
 obtain ⟨m2,i2⟩ : MemAt w2 L ((s.by who).step (6 + t + x * 2) (s.wd (6 + t + x * 2))) /\ DpAt w2 b o T (cs.setIfInBounds (o + 3) (.int .u64 v)) { a with se:=v }:=hP
 have o2 : Only (L.and b) w w2:=o1.drew.trans hR.only
 have x2:=x1.drew.only hR.only (fun hh=>hh.elim hbv1 hbb1)
 have v2:=(v1.grown ((Below.refl _ _).drew)).only hR.only (fun hh=>hh.elim hbv hbb)
 have s2 : Same o 21 cs (cs.setIfInBounds (o + 3) (.int .u64 v)):=Same.refl.set (by omega) _
 have k3 : w2.cell? ⟨b,o + 3,none⟩ = some (.int .u64 v):=i2.c_se
 clear hR o1 v1 m1 i1 x1
 go_wp2_with (first
  | (go_at_call 82;refine (sw _).mono ?_;rintro e w3 ⟨rfl,b3⟩;have i4:=(i2.grown b3).grown (grow1 _ (.cells #[.int .i64 st,.int .i64 A,.int .i64 Gs,.int .i64 V] 87));have x4:=(x2.grown b3).grown (grow1 _ (.cells #[.int .i64 st,.int .i64 A,.int .i64 Gs,.int .i64 V] 87));have v4:=(v2.grown b3).grown (grow1 _ (.cells #[.int .i64 st,.int .i64 A,.int .i64 Gs,.int .i64 V] 87));have m4:=(m2.below b3).alloc (.cells #[.int .i64 st,.int .i64 A,.int .i64 Gs,.int .i64 V] 87);have o4:=(o2.trans (Only.ofGrown b3)).alloc (.cells #[.int .i64 st,.int .i64 A,.int .i64 Gs,.int .i64 V] 87);have q4:=At.new w3 87 [.int .i64 st,.int .i64 A,.int .i64 Gs,.int .i64 V];obtain ⟨y0,y1,y2,y3,y4,y5,y6,y7,y8⟩:=id v4;have q0:=q4.at0 0 rfl)
  | (go_at_call 126;refine (of1 _).mono ?_;rintro e w5 ⟨rfl,b5⟩;have i5:=i4.grown b5;have x5:=x4.grown b5;have v5:=v4.grown b5;have m5:=m4.below b5;have q5:=q4.grown b5;have k4:=i5.c_ch;have kf:=i5.fz;have i6:=i5.set_ch ci;have hw3 : w.heap.size + 1 < w3.heap.size:=(by have:=x2.lt;have:=b3.size;omega);have hb3 : b < w3.heap.size:=(by have:=i2.lt;have:=b3.size;omega);have x6:=x5.other (k:=b) (by omega) (o + 4) (.int .i64 ci);have v6:=v5.setIn (b:=b) hbb (o + 4) (.int .i64 ci);have q6:=q5.other (k:=b) (by omega) (o + 4) (.int .i64 ci);have m6:=m5.setIn hb (o + 4) (.int .i64 ci);have z0:=q6.at0 0 rfl;have z1:=q6.at0 1 rfl;have z2:=q6.at0 2 rfl;have z3:=q6.at0 3 rfl;have u0:=x6.at0 0 rfl;have u1:=x6.at0 1 rfl;obtain ⟨r0,r1,r2,r3,r4,r5,r6,r7,r8⟩:=id v6)
  | (go_at_call 127;refine (dl _).mono ?_;rintro e w7 ⟨rfl,b7⟩;have i7:=i6.grown b7;have m7:=m6.below b7;have v7:=v6.grown b7;have o7:=((o4.trans (Only.ofGrown b5)).set (o + 4) (.int .i64 ci)).trans (Only.ofGrown b7);have l4 : w7.cell? ⟨b,o + 4,none⟩ = some (.int .i64 ci):=i7.c_ch;have l0:=i7.c_nx;have lf:=i7.fz;obtain ⟨e0,e1,e2,e3,e4,e5,e6,e7,e8⟩:=id v7)
  | (go_at_call 119;refine (drefuse m7 hb i7 who hnx σ HS.out).mono ?_;rintro e w8 ⟨rfl,s8,cs8,a8,m8,o8,i8,q8,rfl,rfl⟩))
 refine bodyPost_ret (results_none rfl _ _ _) rfl ?_
 exact ⟨rfl,_,_,_,m8,o7.trans o8,i8,(s2.set (by omega) _).trans q8,rfl,rfl⟩
set_option maxHeartbeats 400000 in
theorem dsee_yes {w : World} {L : Loc} {s : Mm} {b o : Nat} {T : TypeId} {cs : Array Value} {t n k m : Nat} {g p r : Int} {a : DV} (h : MemAt w L s) (hb : ¬ L.has b) (hi : DpAt w b o T cs a) (who : Int) (hG : Good t n k m g p r) {x : Nat} {G : Int} (hx : x < n) (hn : (6 + t + x * 2) < s.n) {v st : Int} {A : Nat} {Gs V : Int} (hv : s.wd (6 + t + x * 2) = v) (hs : SlotIs v st A Gs V) {ci : Int} (hci : chunkOf t n k m A = ci) (hl : (lifeB st && Gs == G) = true) (hc0 : 0 <= ci) :
 Calls Tryz.prog 120 #[.pointer (some ⟨b,o,none⟩),.agg #[.int .i64 t,.int .i64 n,.int .i64 k,.int .i64 m,.int .i64 g,.int .i64 p,.int .i64 r,.pointer (some ⟨L.p,0,none⟩),.int .i64 who],.agg #[.int .i64 x,.int .i64 G]] w fun e w'=>e = .returned (.tuple #[]) /\ Dact L b o T cs w w' (fun s' a'=>s' = ((s.by who).step (6 + t + x * 2) (s.wd (6 + t + x * 2))) /\ a' = { a with se:=v,ch:=ci,nx:=1 }):=by
 have HU : Hid (s.wd (6 + t + x * 2) = v):=hv
 have sw:=hs.call
 have hs1:=hG.s1
 have ab : (A : Int) <= 1048575:=by have:=hs.ad;omega
 have of1:=fun w=>lof_any hG (A : Int) (by omega) w
 rw [hci] at of1
 have dl:=fun w=>dlive_any st A Gs V x G w
 rw [hl] at dl
 clear hv hs hci hl
 have hbv : ¬ L.has w.heap.size:=fun hh=>by have:=h.lt _ hh;omega
 have hbb : ¬ w.heap.size = b:=fun hh=>by have:=hi.lt;omega
 have hbv1 : ¬ L.has (w.heap.size + 1):=fun hh=>by have:=h.lt _ hh;omega
 have hbb1 : ¬ w.heap.size + 1 = b:=fun hh=>by have:=hi.lt;omega
 go_enter Tryz.func120,Tryz.ntmps120
 go_wp2
 refine wp_over (fun W=>MemAt W L s /\ DpAt W b o T cs a /\ BoxV W w.heap.size t n k m g p r L.p who /\ At W (w.heap.size + 1) 0 154 #[.int .i64 x,.int .i64 G] [.int .i64 x,.int .i64 G] /\ Only (L.and b) w W) ⟨(h.alloc _).alloc _,(hi.grown (grow1 _ _)).grown (grow1 _ _),BoxV.newB _,At.new2 _ _ _ _,((Only.refl _ _).alloc _).alloc _⟩ ?_
 rintro W ⟨m1,i1,v1,x1,o1⟩
 refine wp_region_phase (OnlyBut L b (o + 3)) Grown (phDp L b o T cs (cs.setIfInBounds (o + 3) (.int .u64 v)) s ((s.by who).step (6 + t + x * 2) (s.wd (6 + t + x * 2))) a { a with se:=v }) [7,10] [.val (.pointer (some ⟨b,o,none⟩)),.val (.agg #[.int .i64 t,.int .i64 n,.int .i64 k,.int .i64 m,.int .i64 g,.int .i64 p,.int .i64 r,.pointer (some ⟨L.p,0,none⟩),.int .i64 who]),.val (.pointer (some ⟨w.heap.size,0,none⟩)),.val (.agg #[.int .i64 t,.int .i64 n,.int .i64 k,.int .i64 m,.int .i64 g,.int .i64 p,.int .i64 r]),.val (.pointer (some ⟨w.heap.size + 1,0,none⟩)),.val (.int .i64 (x : Nat)),.val (.int .i64 (((6 + t + x * 2) : Nat) : Int)),.val (.int .u64 v),.val (.pointer (some ⟨b,o,none⟩)),.val (.pointer (some ⟨b,o + 3,none⟩)),.that (fun _ _=>True) (fun _ _ _ _ _=>trivial)]
  (by kernel_rfl) OnlyBut.refl OnlyBut.trans OnlyBut.ofGrown phDp_grown ⟨m1.drew,i1.drew⟩ (by kernel_rfl) (by kernel_rfl) (by kernel_rfl) (by kernel_rfl) (by kernel_rfl) ?_
 simp only [phaseAll,Act.put,List.setIfInBounds_toArray,List.set_cons_zero,List.set_cons_succ]
 refine ⟨?_,?_,?_,?_,?_,?_,?_,?_,?_,?_,?_,?_⟩
 · intros;apply ol;go_simp;exact gl
 · intro w' hR _
   apply ol
   obtain ⟨y0,y1,y2,y3,y4,y5,y6,y7,y8⟩:=(v1.grown ((Below.refl _ _).drew)).only hR.only (fun hh=>hh.elim hbv hbb)
   go_simp
   exact gl
 · intros;apply ol;go_simp;exact gl
 · intro w' hR _
   apply ol
   obtain ⟨y0,y1,y2,y3,y4,y5,y6,y7,y8⟩:=(v1.grown ((Below.refl _ _).drew)).only hR.only (fun hh=>hh.elim hbv hbb)
   go_simp
   exact gl
 · intros;apply ol;go_simp;exact gl
 · intro w' hR _
   apply ol
   have z:=(x1.drew.only hR.only (fun hh=>hh.elim hbv1 hbb1)).at0 0 rfl
   go_simp
   exact gl
 · intro w' hR _
   apply ol
   go_simp
   refine (lslot_any _ _ _ _ _ _ _ (x : Int) _ hG.arena (by omega) (by omega)).mono ?_
   rintro e w'' ⟨rfl,b9⟩
   exact ⟨_,rfl,b9,congrArg (Value.int .i64) (by omega)⟩
 · intro w' hR _ hP
   apply ol
   go_simp
   refine (eload_in (s:=s) hP.1 _ _ _ _ _ _ _ _ (6 + t + x * 2) hn).mono ?_
   rintro e w'' ⟨rfl,m2,o2⟩
   exact ⟨_,rfl,⟨OnlyBut.ofOnly o2 hb,m2,hP.2.only o2 hb⟩,by simp [Want.pred,HU.out]⟩
 · intros;apply ol;go_simp;exact gl
 · intros;apply ol;go_simp;exact gl
 · intro w' hR _ hP
   apply ol
   have z0:=hP.2.c_se
   have z1:=hP.2.fz
   go_simp
   exact ⟨⟨OnlyBut.set _ _,hP.1.setIn hb _ _,hP.2.set_se _⟩,trivial⟩
 intro vv w2 hR hP _
 obtain ⟨m2,i2⟩ : MemAt w2 L ((s.by who).step (6 + t + x * 2) (s.wd (6 + t + x * 2))) /\ DpAt w2 b o T (cs.setIfInBounds (o + 3) (.int .u64 v)) { a with se:=v }:=hP
 have o2 : Only (L.and b) w w2:=o1.drew.trans hR.only
 have x2:=x1.drew.only hR.only (fun hh=>hh.elim hbv1 hbb1)
 have v2:=(v1.grown ((Below.refl _ _).drew)).only hR.only (fun hh=>hh.elim hbv hbb)
 have s2 : Same o 21 cs (cs.setIfInBounds (o + 3) (.int .u64 v)):=Same.refl.set (by omega) _
 have k3 : w2.cell? ⟨b,o + 3,none⟩ = some (.int .u64 v):=i2.c_se
 clear hR o1 v1 m1 i1 x1
 go_wp2_with (first
  | (go_at_call 82;refine (sw _).mono ?_;rintro e w3 ⟨rfl,b3⟩;have i4:=(i2.grown b3).grown (grow1 _ (.cells #[.int .i64 st,.int .i64 A,.int .i64 Gs,.int .i64 V] 87));have x4:=(x2.grown b3).grown (grow1 _ (.cells #[.int .i64 st,.int .i64 A,.int .i64 Gs,.int .i64 V] 87));have v4:=(v2.grown b3).grown (grow1 _ (.cells #[.int .i64 st,.int .i64 A,.int .i64 Gs,.int .i64 V] 87));have m4:=(m2.below b3).alloc (.cells #[.int .i64 st,.int .i64 A,.int .i64 Gs,.int .i64 V] 87);have o4:=(o2.trans (Only.ofGrown b3)).alloc (.cells #[.int .i64 st,.int .i64 A,.int .i64 Gs,.int .i64 V] 87);have q4:=At.new w3 87 [.int .i64 st,.int .i64 A,.int .i64 Gs,.int .i64 V];obtain ⟨y0,y1,y2,y3,y4,y5,y6,y7,y8⟩:=id v4;have q0:=q4.at0 0 rfl)
  | (go_at_call 126;refine (of1 _).mono ?_;rintro e w5 ⟨rfl,b5⟩;have i5:=i4.grown b5;have x5:=x4.grown b5;have v5:=v4.grown b5;have m5:=m4.below b5;have q5:=q4.grown b5;have k4:=i5.c_ch;have kf:=i5.fz;have i6:=i5.set_ch ci;have hw3 : w.heap.size + 1 < w3.heap.size:=(by have:=x2.lt;have:=b3.size;omega);have hb3 : b < w3.heap.size:=(by have:=i2.lt;have:=b3.size;omega);have x6:=x5.other (k:=b) (by omega) (o + 4) (.int .i64 ci);have v6:=v5.setIn (b:=b) hbb (o + 4) (.int .i64 ci);have q6:=q5.other (k:=b) (by omega) (o + 4) (.int .i64 ci);have m6:=m5.setIn hb (o + 4) (.int .i64 ci);have z0:=q6.at0 0 rfl;have z1:=q6.at0 1 rfl;have z2:=q6.at0 2 rfl;have z3:=q6.at0 3 rfl;have u0:=x6.at0 0 rfl;have u1:=x6.at0 1 rfl;obtain ⟨r0,r1,r2,r3,r4,r5,r6,r7,r8⟩:=id v6)
  | (go_at_call 127;refine (dl _).mono ?_;rintro e w7 ⟨rfl,b7⟩;have i7:=i6.grown b7;have m7:=m6.below b7;have v7:=v6.grown b7;have o7:=((o4.trans (Only.ofGrown b5)).set (o + 4) (.int .i64 ci)).trans (Only.ofGrown b7);have l4 : w7.cell? ⟨b,o + 4,none⟩ = some (.int .i64 ci):=i7.c_ch;have l0:=i7.c_nx;have lf:=i7.fz;obtain ⟨e0,e1,e2,e3,e4,e5,e6,e7,e8⟩:=id v7))
 go_end0
 exact ⟨rfl,_,_,_,m7.setIn hb _ _,o7.set _ _,i7.set_nx 1,(s2.set (by omega) _).set (by omega) _,rfl,rfl⟩
end Go.Proofs.YtlolfmoolgenpaaGreat

namespace Go.Proofs.YtlolfmoolgenpaaGreat
open Go.RowKit
set_option maxRecDepth 20000
structure HeadIs (u kd Z sl gn : Int) (ow : Bool) : Prop where
 u0 : 0 <= u
 u1 : u <= 18446744073709551615
 kd : u % 4 = kd
 sz : u / 4 % 65536 = Z
 sl : u / 262144 % 65536 = sl
 gn : u / 17179869184 % 65536 = gn
 ow : decide (u / 1125899906842624 % 2 = 1) = ow
theorem HeadIs.call {u kd Z sl gn : Int} {ow : Bool} (h : HeadIs u kd Z sl gn ow) (w : World) :
 Calls Tryz.prog 128 #[.int .u64 u] w fun e w'=>e = .returned (.agg #[.int .i64 kd,.int .i64 Z,.int .i64 sl,.int .i64 gn,.bool ow]) /\ Below w.heap.size w w':=by
 have e:=head_any u w h.u0 h.u1
 rwa [h.kd,h.sz,h.sl,h.gn,h.ow] at e
set_option maxHeartbeats 1000000 in
theorem dask_no {w : World} {L : Loc} {s : Mm} {b o : Nat} {T : TypeId} {cs : Array Value} {t n k m : Nat} {g p r : Int} {a : DV} (h : MemAt w L s) (hb : ¬ L.has b) (hi : DpAt w b o T cs a) (who : Int) {x : Nat} {G : Int} {st : Int} {A : Nat} {Gs V : Int} (hs : SlotIs a.se st A Gs V) (hn : A < s.n) {u kd Z sl gn : Int} {ow : Bool} (hu : s.wd A = u) (hh : HeadIs u kd Z sl gn ow) (hnx : a.nx < 5) (ho : (ow == a.own) = false) {σ : Nat} (hσ : wrap64 (s.steps + 1) = σ) :
 Calls Tryz.prog 121 #[.pointer (some ⟨b,o,none⟩),.agg #[.int .i64 t,.int .i64 n,.int .i64 k,.int .i64 m,.int .i64 g,.int .i64 p,.int .i64 r,.pointer (some ⟨L.p,0,none⟩),.int .i64 who],.agg #[.int .i64 x,.int .i64 G]] w fun e w'=>e = .returned (.tuple #[]) /\ Dact L b o T cs w w' (fun s' a'=>s' = ((s.by who).step A (s.wd A)) /\ a' = { a with nx:=7,E:=3,H:=0,V:=0,St:=σ }):=by
 have HU : Hid (s.wd A = u):=hu
 have sw:=hs.call
 have hw:=hh.call
 clear hu hs hh
 have HS : Hid ((((s.by who).step A (s.wd A))).steps = σ):=hσ
 have HO : Hid ((ow == a.own) = false):=ho
 clear hσ ho
 have hbv : ¬ L.has w.heap.size:=fun hh=>by have:=h.lt _ hh;omega
 have hbb : ¬ w.heap.size = b:=fun hh=>by have:=hi.lt;omega
 have hbv1 : ¬ L.has (w.heap.size + 1):=fun hh=>by have:=h.lt _ hh;omega
 have hbb1 : ¬ w.heap.size + 1 = b:=fun hh=>by have:=hi.lt;omega
 have i0:=(hi.grown (grow1 _ (.cells #[.int .i64 t,.int .i64 n,.int .i64 k,.int .i64 m,.int .i64 g,.int .i64 p,.int .i64 r,.pointer (some ⟨L.p,0,none⟩),.int .i64 who] 27))).grown (grow1 _ (.cells #[.int .i64 x,.int .i64 G] 154))
 have k3:=i0.c_se
 go_enter Tryz.func121,Tryz.ntmps121
 go_wp2_with (first
  | (go_at_call 82;refine (sw _).mono ?_;rintro e w3 ⟨rfl,b3⟩;have i3:=(i0.grown b3).grown (grow1 _ (.cells #[.int .i64 st,.int .i64 A,.int .i64 Gs,.int .i64 V] 87));have x3:=((At.new2 _ _ _ [.int .i64 (x : Nat),.int .i64 G]).grown b3).grown (grow1 _ (.cells #[.int .i64 st,.int .i64 A,.int .i64 Gs,.int .i64 V] 87));have v3:=((BoxV.newB _).grown b3).grown (grow1 _ (.cells #[.int .i64 st,.int .i64 A,.int .i64 Gs,.int .i64 V] 87));have m3:=(((h.alloc _).alloc _).below b3).alloc (.cells #[.int .i64 st,.int .i64 A,.int .i64 Gs,.int .i64 V] 87);have o3 : Only (L.and b) w (w3.alloc (.cells #[.int .i64 st,.int .i64 A,.int .i64 Gs,.int .i64 V] 87)):=((((Only.refl _ _).alloc _).alloc _).trans (Only.ofGrown b3)).alloc (.cells #[.int .i64 st,.int .i64 A,.int .i64 Gs,.int .i64 V] 87);have q3:=At.new w3 87 [.int .i64 st,.int .i64 A,.int .i64 Gs,.int .i64 V];obtain ⟨e0,e1,e2,e3,e4,e5,e6,e7,e8⟩:=id v3;have q0:=q3.at0 1 rfl)
  | (go_at_call 64;refine (eload_in m3 _ _ _ _ _ _ _ _ A hn).mono ?_;rintro e w5 ⟨rfl,m5,o5⟩;rw [HU.out])
  | (go_at_call 128;refine (hw _).mono ?_;rintro e w6 ⟨rfl,b6⟩))
 obtain ⟨S,hS⟩ : ∃ S,w3.heap.size = S:=⟨_,rfl⟩
 have y0:=At.new w6 98 [.int .i64 kd,.int .i64 Z,.int .i64 sl,.int .i64 gn,.bool ow]
 obtain ⟨Hh,hH⟩ : ∃ Hh,w6.heap.size = Hh:=⟨_,rfl⟩
 have lS : ¬ L.has S:=fun hh=>by have:=h.lt _ hh;have:=b3.size;simp only [Go.Deep.nblk_alloc] at this;omega
 have bS : b ≠ S:=by have:=hi.lt;have:=b3.size;simp only [Go.Deep.nblk_alloc] at this;omega
 have bH : b ≠ Hh:=by have:=hi.lt;have:=b3.size;have:=o5.size;have:=b6.size;simp only [Go.Deep.nblk_alloc] at *;omega
 rw [hS] at q3 ⊢
 rw [hH] at y0 ⊢
 refine wp_over (fun W=>MemAt W L ((s.by who).step A (s.wd A)) /\ DpAt W b o T cs a /\ BoxV W w.heap.size t n k m g p r L.p who /\ At W (w.heap.size + 1) 0 154 #[.int .i64 x,.int .i64 G] [.int .i64 x,.int .i64 G] /\ At W S 0 87 _ [.int .i64 st,.int .i64 A,.int .i64 Gs,.int .i64 V] /\ At W Hh 0 98 _ [.int .i64 kd,.int .i64 Z,.int .i64 sl,.int .i64 gn,.bool ow] /\ Only (L.and b) w W) ⟨(m5.below b6).alloc _,((i3.only o5 hb).grown b6).grown (grow1 _ _),((v3.only o5 hbv).grown b6).grown (grow1 _ _),((x3.only o5 hbv1).grown b6).grown (grow1 _ _),((q3.only o5 lS).grown b6).grown (grow1 _ _),y0,((o3.trans (o5.andL (b:=b))).trans (Only.ofGrown b6)).alloc _⟩ ?_
 clear b3 b6 m3 m5 o5 o3 q3 q0 y0 i3 v3 x3 i0 k3 hS hH sw hw
 rintro W ⟨m1,i1,v1,x1,q1,y1,o1⟩
 refine wp_region_rely Grown [.val (.pointer (some ⟨Hh,4,none⟩)),.val (.bool ow),.val (.pointer (some ⟨b,o,none⟩)),.val (.pointer (some ⟨b,o,none⟩)),.val (.pointer (some ⟨b,o + 2,none⟩)),.val (.bool a.own),.val (.bool true)] (by kernel_rfl) Grown.refl Grown.trans (by kernel_rfl) (by kernel_rfl) (by kernel_rfl) ?_
 simp only [relyAll,Act.put,List.setIfInBounds_toArray,List.set_cons_zero,List.set_cons_succ]
 refine ⟨?_,?_,?_,?_,?_,?_,?_,?_⟩
 · intros;apply ol;go_simp;exact gl
 · intro w' hg _
   apply ol
   have z:=(y1.drew.grown hg).at0 4 rfl
   go_simp
   exact gl
 · intros;apply ol;go_simp;exact gl
 · intros;apply ol;go_simp;exact gl
 · intros;apply ol;go_simp;exact gl
 · intro w' hg _
   apply ol
   have z:=(i1.drew.grown hg).c_own
   go_simp
   exact gl
 · intro w' hg _
   apply ol
   go_simp
   exact ⟨Grown.refl _,congrArg Value.bool (by rw [HO.out];rfl)⟩
 intro w7 hg _
 have m7:=m1.drew.below hg
 have i7:=i1.drew.grown hg
 have v7:=(v1.grown ((Below.refl _ _).drew)).grown hg
 have x7:=x1.drew.grown hg
 have q7:=q1.drew.grown hg
 have yh:=y1.drew.grown hg
 have o7 : Only (L.and b) w w7:=o1.drew.trans (Only.ofGrown hg)
 clear hg m1 i1 v1 x1 q1 y1 o1
 have kz:=yh.at0 1 rfl
 have k5:=i7.c_sz
 have k0:=i7.c_nx
 have kf:=i7.fz
 obtain ⟨y0,y1,y2,y3,y4,y5,y6,y7,y8⟩:=id v7
 go_wp2_with (go_at_call 119;refine (drefuse m7 hb i7 who hnx σ HS.out).mono ?_;rintro e w8 ⟨rfl,s8,cs8,a8,m8,o8,i8,q8,rfl,rfl⟩)
 refine bodyPost_ret (results_none rfl _ _ _) rfl ?_
 exact ⟨rfl,_,_,_,m8,o7.trans o8,i8,q8,rfl,rfl⟩
set_option maxHeartbeats 1000000 in
theorem dask_go {w : World} {L : Loc} {s : Mm} {b o : Nat} {T : TypeId} {cs : Array Value} {t n k m : Nat} {g p r : Int} {a : DV} (h : MemAt w L s) (hb : ¬ L.has b) (hi : DpAt w b o T cs a) (who : Int) {x : Nat} {G : Int} {st : Int} {A : Nat} {Gs V : Int} (hs : SlotIs a.se st A Gs V) (hn : A < s.n) {u kd Z sl gn : Int} {ow : Bool} (hu : s.wd A = u) (hh : HeadIs u kd Z sl gn ow) (ho : (ow == a.own) = true) (h4 : st ≠ 4) :
 Calls Tryz.prog 121 #[.pointer (some ⟨b,o,none⟩),.agg #[.int .i64 t,.int .i64 n,.int .i64 k,.int .i64 m,.int .i64 g,.int .i64 p,.int .i64 r,.pointer (some ⟨L.p,0,none⟩),.int .i64 who],.agg #[.int .i64 x,.int .i64 G]] w fun e w'=>e = .returned (.tuple #[]) /\ Dact L b o T cs w w' (fun s' a'=>s' = ((s.by who).step A (s.wd A)) /\ a' = { a with sz:=Z,nx:=2 }):=by
 have HU : Hid (s.wd A = u):=hu
 have sw:=hs.call
 have hw:=hh.call
 clear hu hs hh
 have HO : Hid ((ow == a.own) = true):=ho
 clear ho
 have hbv : ¬ L.has w.heap.size:=fun hh=>by have:=h.lt _ hh;omega
 have hbb : ¬ w.heap.size = b:=fun hh=>by have:=hi.lt;omega
 have hbv1 : ¬ L.has (w.heap.size + 1):=fun hh=>by have:=h.lt _ hh;omega
 have hbb1 : ¬ w.heap.size + 1 = b:=fun hh=>by have:=hi.lt;omega
 have i0:=(hi.grown (grow1 _ (.cells #[.int .i64 t,.int .i64 n,.int .i64 k,.int .i64 m,.int .i64 g,.int .i64 p,.int .i64 r,.pointer (some ⟨L.p,0,none⟩),.int .i64 who] 27))).grown (grow1 _ (.cells #[.int .i64 x,.int .i64 G] 154))
 have k3:=i0.c_se
 go_enter Tryz.func121,Tryz.ntmps121
 go_wp2_with (first
  | (go_at_call 82;refine (sw _).mono ?_;rintro e w3 ⟨rfl,b3⟩;have i3:=(i0.grown b3).grown (grow1 _ (.cells #[.int .i64 st,.int .i64 A,.int .i64 Gs,.int .i64 V] 87));have x3:=((At.new2 _ _ _ [.int .i64 (x : Nat),.int .i64 G]).grown b3).grown (grow1 _ (.cells #[.int .i64 st,.int .i64 A,.int .i64 Gs,.int .i64 V] 87));have v3:=((BoxV.newB _).grown b3).grown (grow1 _ (.cells #[.int .i64 st,.int .i64 A,.int .i64 Gs,.int .i64 V] 87));have m3:=(((h.alloc _).alloc _).below b3).alloc (.cells #[.int .i64 st,.int .i64 A,.int .i64 Gs,.int .i64 V] 87);have o3 : Only (L.and b) w (w3.alloc (.cells #[.int .i64 st,.int .i64 A,.int .i64 Gs,.int .i64 V] 87)):=((((Only.refl _ _).alloc _).alloc _).trans (Only.ofGrown b3)).alloc (.cells #[.int .i64 st,.int .i64 A,.int .i64 Gs,.int .i64 V] 87);have q3:=At.new w3 87 [.int .i64 st,.int .i64 A,.int .i64 Gs,.int .i64 V];obtain ⟨e0,e1,e2,e3,e4,e5,e6,e7,e8⟩:=id v3;have q0:=q3.at0 1 rfl)
  | (go_at_call 64;refine (eload_in m3 _ _ _ _ _ _ _ _ A hn).mono ?_;rintro e w5 ⟨rfl,m5,o5⟩;rw [HU.out])
  | (go_at_call 128;refine (hw _).mono ?_;rintro e w6 ⟨rfl,b6⟩))
 obtain ⟨S,hS⟩ : ∃ S,w3.heap.size = S:=⟨_,rfl⟩
 have y0:=At.new w6 98 [.int .i64 kd,.int .i64 Z,.int .i64 sl,.int .i64 gn,.bool ow]
 obtain ⟨Hh,hH⟩ : ∃ Hh,w6.heap.size = Hh:=⟨_,rfl⟩
 have lS : ¬ L.has S:=fun hh=>by have:=h.lt _ hh;have:=b3.size;simp only [Go.Deep.nblk_alloc] at this;omega
 have bS : b ≠ S:=by have:=hi.lt;have:=b3.size;simp only [Go.Deep.nblk_alloc] at this;omega
 have bH : b ≠ Hh:=by have:=hi.lt;have:=b3.size;have:=o5.size;have:=b6.size;simp only [Go.Deep.nblk_alloc] at *;omega
 rw [hS] at q3 ⊢
 rw [hH] at y0 ⊢
 refine wp_over (fun W=>MemAt W L ((s.by who).step A (s.wd A)) /\ DpAt W b o T cs a /\ BoxV W w.heap.size t n k m g p r L.p who /\ At W (w.heap.size + 1) 0 154 #[.int .i64 x,.int .i64 G] [.int .i64 x,.int .i64 G] /\ At W S 0 87 _ [.int .i64 st,.int .i64 A,.int .i64 Gs,.int .i64 V] /\ At W Hh 0 98 _ [.int .i64 kd,.int .i64 Z,.int .i64 sl,.int .i64 gn,.bool ow] /\ Only (L.and b) w W) ⟨(m5.below b6).alloc _,((i3.only o5 hb).grown b6).grown (grow1 _ _),((v3.only o5 hbv).grown b6).grown (grow1 _ _),((x3.only o5 hbv1).grown b6).grown (grow1 _ _),((q3.only o5 lS).grown b6).grown (grow1 _ _),y0,((o3.trans (o5.andL (b:=b))).trans (Only.ofGrown b6)).alloc _⟩ ?_
 clear b3 b6 m3 m5 o5 o3 q3 q0 y0 i3 v3 x3 i0 k3 hS hH sw hw
 rintro W ⟨m1,i1,v1,x1,q1,y1,o1⟩
 refine wp_region_rely Grown [.val (.pointer (some ⟨Hh,4,none⟩)),.val (.bool ow),.val (.pointer (some ⟨b,o,none⟩)),.val (.pointer (some ⟨b,o,none⟩)),.val (.pointer (some ⟨b,o + 2,none⟩)),.val (.bool a.own),.val (.bool false)] (by kernel_rfl) Grown.refl Grown.trans (by kernel_rfl) (by kernel_rfl) (by kernel_rfl) ?_
 simp only [relyAll,Act.put,List.setIfInBounds_toArray,List.set_cons_zero,List.set_cons_succ]
 refine ⟨?_,?_,?_,?_,?_,?_,?_,?_⟩
 · intros;apply ol;go_simp;exact gl
 · intro w' hg _
   apply ol
   have z:=(y1.drew.grown hg).at0 4 rfl
   go_simp
   exact gl
 · intros;apply ol;go_simp;exact gl
 · intros;apply ol;go_simp;exact gl
 · intros;apply ol;go_simp;exact gl
 · intro w' hg _
   apply ol
   have z:=(i1.drew.grown hg).c_own
   go_simp
   exact gl
 · intro w' hg _
   apply ol
   go_simp
   exact ⟨Grown.refl _,congrArg Value.bool (by rw [HO.out];rfl)⟩
 intro w7 hg _
 have m7:=m1.drew.below hg
 have i7:=i1.drew.grown hg
 have v7:=(v1.grown ((Below.refl _ _).drew)).grown hg
 have x7:=x1.drew.grown hg
 have q7:=q1.drew.grown hg
 have yh:=y1.drew.grown hg
 have o7 : Only (L.and b) w w7:=o1.drew.trans (Only.ofGrown hg)
 clear hg m1 i1 v1 x1 q1 y1 o1
 have kz:=yh.at0 1 rfl
 have k5:=i7.c_sz
 have k0:=i7.c_nx
 have kf:=i7.fz
 obtain ⟨y0,y1,y2,y3,y4,y5,y6,y7,y8⟩:=id v7
 have q8:=(q7.other bS.symm (o + 5) (.int .i64 Z)).other bS.symm o (.int .i64 2)
 have z0:=q8.at0 0 rfl
 go_wp2
 go_end0
 exact ⟨rfl,_,_,_,(m7.setIn hb _ _).setIn hb _ _,(o7.set _ _).set _ _,(i7.set_sz Z).set_nx 2,(Same.refl.set (by omega) _).set (by omega) _,rfl,rfl⟩
set_option maxHeartbeats 1000000 in
theorem dask_help {w : World} {L : Loc} {s : Mm} {b o : Nat} {T : TypeId} {cs : Array Value} {t n k m : Nat} {g p r : Int} {a : DV} (h : MemAt w L s) (hb : ¬ L.has b) (hi : DpAt w b o T cs a) (who : Int) {x : Nat} {G : Int} {st : Int} {A : Nat} {Gs V : Int} (hs : SlotIs a.se st A Gs V) (hn : A < s.n) {u kd Z sl gn : Int} {ow : Bool} (hu : s.wd A = u) (hh : HeadIs u kd Z sl gn ow) (ho : (ow == a.own) = true) (h4 : st = 4) :
 Calls Tryz.prog 121 #[.pointer (some ⟨b,o,none⟩),.agg #[.int .i64 t,.int .i64 n,.int .i64 k,.int .i64 m,.int .i64 g,.int .i64 p,.int .i64 r,.pointer (some ⟨L.p,0,none⟩),.int .i64 who],.agg #[.int .i64 x,.int .i64 G]] w fun e w'=>e = .returned (.tuple #[]) /\ Dact L b o T cs w w' (fun s' a'=>s' = ((s.by who).step A (s.wd A)) /\ a' = { a with sz:=Z,hl:=HpV x a.se Z 0 0 false false false,nx:=3 }):=by
 have HU : Hid (s.wd A = u):=hu
 have sw:=hs.call
 have hw:=hh.call
 clear hu hs hh
 have HO : Hid ((ow == a.own) = true):=ho
 subst h4
 clear ho
 have hbv : ¬ L.has w.heap.size:=fun hh=>by have:=h.lt _ hh;omega
 have hbb : ¬ w.heap.size = b:=fun hh=>by have:=hi.lt;omega
 have hbv1 : ¬ L.has (w.heap.size + 1):=fun hh=>by have:=h.lt _ hh;omega
 have hbb1 : ¬ w.heap.size + 1 = b:=fun hh=>by have:=hi.lt;omega
 have i0:=(hi.grown (grow1 _ (.cells #[.int .i64 t,.int .i64 n,.int .i64 k,.int .i64 m,.int .i64 g,.int .i64 p,.int .i64 r,.pointer (some ⟨L.p,0,none⟩),.int .i64 who] 27))).grown (grow1 _ (.cells #[.int .i64 x,.int .i64 G] 154))
 have k3:=i0.c_se
 go_enter Tryz.func121,Tryz.ntmps121
 go_wp2_with (first
  | (go_at_call 82;refine (sw _).mono ?_;rintro e w3 ⟨rfl,b3⟩;have i3:=(i0.grown b3).grown (grow1 _ (.cells #[.int .i64 4,.int .i64 A,.int .i64 Gs,.int .i64 V] 87));have x3:=((At.new2 _ _ _ [.int .i64 (x : Nat),.int .i64 G]).grown b3).grown (grow1 _ (.cells #[.int .i64 4,.int .i64 A,.int .i64 Gs,.int .i64 V] 87));have v3:=((BoxV.newB _).grown b3).grown (grow1 _ (.cells #[.int .i64 4,.int .i64 A,.int .i64 Gs,.int .i64 V] 87));have m3:=(((h.alloc _).alloc _).below b3).alloc (.cells #[.int .i64 4,.int .i64 A,.int .i64 Gs,.int .i64 V] 87);have o3 : Only (L.and b) w (w3.alloc (.cells #[.int .i64 4,.int .i64 A,.int .i64 Gs,.int .i64 V] 87)):=((((Only.refl _ _).alloc _).alloc _).trans (Only.ofGrown b3)).alloc (.cells #[.int .i64 4,.int .i64 A,.int .i64 Gs,.int .i64 V] 87);have q3:=At.new w3 87 [.int .i64 4,.int .i64 A,.int .i64 Gs,.int .i64 V];obtain ⟨e0,e1,e2,e3,e4,e5,e6,e7,e8⟩:=id v3;have q0:=q3.at0 1 rfl)
  | (go_at_call 64;refine (eload_in m3 _ _ _ _ _ _ _ _ A hn).mono ?_;rintro e w5 ⟨rfl,m5,o5⟩;rw [HU.out])
  | (go_at_call 128;refine (hw _).mono ?_;rintro e w6 ⟨rfl,b6⟩))
 obtain ⟨S,hS⟩ : ∃ S,w3.heap.size = S:=⟨_,rfl⟩
 have y0:=At.new w6 98 [.int .i64 kd,.int .i64 Z,.int .i64 sl,.int .i64 gn,.bool ow]
 obtain ⟨Hh,hH⟩ : ∃ Hh,w6.heap.size = Hh:=⟨_,rfl⟩
 have lS : ¬ L.has S:=fun hh=>by have:=h.lt _ hh;have:=b3.size;simp only [Go.Deep.nblk_alloc] at this;omega
 have bS : b ≠ S:=by have:=hi.lt;have:=b3.size;simp only [Go.Deep.nblk_alloc] at this;omega
 have bH : b ≠ Hh:=by have:=hi.lt;have:=b3.size;have:=o5.size;have:=b6.size;simp only [Go.Deep.nblk_alloc] at *;omega
 rw [hS] at q3 ⊢
 rw [hH] at y0 ⊢
 refine wp_over (fun W=>MemAt W L ((s.by who).step A (s.wd A)) /\ DpAt W b o T cs a /\ BoxV W w.heap.size t n k m g p r L.p who /\ At W (w.heap.size + 1) 0 154 #[.int .i64 x,.int .i64 G] [.int .i64 x,.int .i64 G] /\ At W S 0 87 _ [.int .i64 4,.int .i64 A,.int .i64 Gs,.int .i64 V] /\ At W Hh 0 98 _ [.int .i64 kd,.int .i64 Z,.int .i64 sl,.int .i64 gn,.bool ow] /\ Only (L.and b) w W) ⟨(m5.below b6).alloc _,((i3.only o5 hb).grown b6).grown (grow1 _ _),((v3.only o5 hbv).grown b6).grown (grow1 _ _),((x3.only o5 hbv1).grown b6).grown (grow1 _ _),((q3.only o5 lS).grown b6).grown (grow1 _ _),y0,((o3.trans (o5.andL (b:=b))).trans (Only.ofGrown b6)).alloc _⟩ ?_
 clear b3 b6 m3 m5 o5 o3 q3 q0 y0 i3 v3 x3 i0 k3 hS hH sw hw
 rintro W ⟨m1,i1,v1,x1,q1,y1,o1⟩
 refine wp_region_rely Grown [.val (.pointer (some ⟨Hh,4,none⟩)),.val (.bool ow),.val (.pointer (some ⟨b,o,none⟩)),.val (.pointer (some ⟨b,o,none⟩)),.val (.pointer (some ⟨b,o + 2,none⟩)),.val (.bool a.own),.val (.bool false)] (by kernel_rfl) Grown.refl Grown.trans (by kernel_rfl) (by kernel_rfl) (by kernel_rfl) ?_
 simp only [relyAll,Act.put,List.setIfInBounds_toArray,List.set_cons_zero,List.set_cons_succ]
 refine ⟨?_,?_,?_,?_,?_,?_,?_,?_⟩
 · intros;apply ol;go_simp;exact gl
 · intro w' hg _
   apply ol
   have z:=(y1.drew.grown hg).at0 4 rfl
   go_simp
   exact gl
 · intros;apply ol;go_simp;exact gl
 · intros;apply ol;go_simp;exact gl
 · intros;apply ol;go_simp;exact gl
 · intro w' hg _
   apply ol
   have z:=(i1.drew.grown hg).c_own
   go_simp
   exact gl
 · intro w' hg _
   apply ol
   go_simp
   exact ⟨Grown.refl _,congrArg Value.bool (by rw [HO.out];rfl)⟩
 intro w7 hg _
 have m7:=m1.drew.below hg
 have i7:=i1.drew.grown hg
 have v7:=(v1.grown ((Below.refl _ _).drew)).grown hg
 have x7:=x1.drew.grown hg
 have q7:=q1.drew.grown hg
 have yh:=y1.drew.grown hg
 have o7 : Only (L.and b) w w7:=o1.drew.trans (Only.ofGrown hg)
 clear hg m1 i1 v1 x1 q1 y1 o1
 have kz:=yh.at0 1 rfl
 have k5:=i7.c_sz
 have k0:=i7.c_nx
 have kf:=i7.fz
 obtain ⟨y0,y1,y2,y3,y4,y5,y6,y7,y8⟩:=id v7
 have q8:=(q7.other bS.symm (o + 5) (.int .i64 Z)).other bS.symm o (.int .i64 2)
 have z0:=q8.at0 0 rfl
 go_wp2
 refine wp_over (fun W=>MemAt W L ((s.by who).step A (s.wd A)) /\ DpAt W b o T ((cs.setIfInBounds (o + 5) (.int .i64 Z)).setIfInBounds o (.int .i64 2)) { a with sz:=Z,nx:=2 } /\ At W (w.heap.size + 1) 0 154 #[.int .i64 x,.int .i64 G] [.int .i64 x,.int .i64 G] /\ Only (L.and b) w W) ⟨(m7.setIn hb _ _).setIn hb _ _,(i7.set_sz Z).set_nx 2,(x7.other hbb1 _ _).other hbb1 _ _,(o7.set _ _).set _ _⟩ ?_
 clear m7 i7 v7 x7 q7 yh o7 kz k5 k0 kf q8 z0 y0 y1 y2 y3 y4 y5 y6 y7 y8
 rintro W ⟨m1,i1,x1,o1⟩
 refine wp_region_rely_tail Grown 16 [.val (.pointer (some ⟨b,o,none⟩)),.val (.pointer (some ⟨w.heap.size + 1,0,none⟩)),.val (.int .i64 (x : Nat)),.val (.pointer (some ⟨b,o,none⟩)),.val (.pointer (some ⟨b,o,none⟩)),.val (.pointer (some ⟨b,o + 3,none⟩)),.val (.int .u64 a.se),.val (.pointer (some ⟨b,o,none⟩)),.val (.pointer (some ⟨b,o,none⟩)),.val (.pointer (some ⟨b,o + 5,none⟩)),.val (.int .i64 Z),.that (fun w' v=>∃ X,v = .pointer (some ⟨X,0,none⟩) /\ At w' X 0 110 (HpV x a.se Z 0 0 false false false).toArray (HpV x a.se Z 0 0 false false false)) (fun _ _ _ hg h=>h.imp fun X k=>⟨k.1,k.2.grown hg⟩),.that (fun w' v=>∃ X,v = .pointer (some ⟨X,0,none⟩) /\ At w' X 0 110 (HpV x a.se Z 0 0 false false false).toArray (HpV x a.se Z 0 0 false false false)) (fun _ _ _ hg h=>h.imp fun X k=>⟨k.1,k.2.grown hg⟩),.val (.agg #[.int .i64 x,.int .u64 a.se,.int .i64 Z,.int .i64 0,.int .u64 0,.bool false,.bool false,.bool false]),.val (.pointer (some ⟨b,o,none⟩)),.val (.pointer (some ⟨b,o + 6,none⟩))] (by kernel_rfl) Grown.refl Grown.trans (by decide) (by kernel_rfl) (by kernel_rfl) (by kernel_rfl) (by kernel_rfl) (by kernel_rfl) (by kernel_rfl) ?_
 simp only [List.take_succ_cons,List.take_zero,relyAll,Act.put,List.setIfInBounds_toArray,List.set_cons_zero,List.set_cons_succ]
 refine ⟨?_,?_,?_,?_,?_,?_,?_,?_,?_,?_,?_,?_,fun v1=>⟨?_,fun v2=>⟨?_,?_,?_,?_⟩⟩⟩
 · intros;apply ol;go_simp;exact gl
 · intros;apply ol;go_simp;exact gl
 · intro w' hg _
   apply ol
   have z:=(x1.drew.grown hg).at0 0 rfl
   go_simp
   exact gl
 · intros;apply ol;go_simp;exact gl
 · intros;apply ol;go_simp;exact gl
 · intros;apply ol;go_simp;exact gl
 · intro w' hg _
   apply ol
   have z:=(i1.drew.grown hg).c_se
   go_simp
   exact gl
 · intros;apply ol;go_simp;exact gl
 · intros;apply ol;go_simp;exact gl
 · intros;apply ol;go_simp;exact gl
 · intro w' hg _
   apply ol
   have z:=(i1.drew.grown hg).c_sz
   go_simp
   exact gl
 · intro w' hg _
   apply ol
   have q:=At.new w' 110 (HpV x a.se Z 0 0 false false false)
   go_simp
   refine (newHelp_any x a.se Z _).mono ?_
   rintro e w'' ⟨rfl,rfl⟩
   exact ⟨_,rfl,grow1 _ _,_,rfl,q⟩
 · intro w' hg hf
   apply ol
   obtain ⟨X,rfl,q⟩:=hf.1 (by kernel_rfl)
   go_simp
   exact ⟨Grown.refl _,X,rfl,q⟩
 · intro w' hg hf
   apply ol
   obtain ⟨X,rfl,q⟩:=hf.1 (by kernel_rfl)
   have z0:=q.at0 0 rfl
   have z1:=q.at0 1 rfl
   have z2:=q.at0 2 rfl
   have z3:=q.at0 3 rfl
   have z4:=q.at0 4 rfl
   have z5:=q.at0 5 rfl
   have z6:=q.at0 6 rfl
   have z7:=q.at0 7 rfl
   go_simp
   exact gl
 · intros;apply ol;go_simp;exact gl
 · intros;apply ol;go_simp;exact gl
 intro w9 hg _
 have m10:=m1.drew.below hg
 have i10:=i1.drew.grown hg
 have o10 : Only (L.and b) w w9:=o1.drew.trans (Only.ofGrown hg)
 clear hg m1 i1 x1 o1
 obtain ⟨l0,p0⟩:=i10.c_hl0
 obtain ⟨l1,p1⟩:=i10.c_hl1
 obtain ⟨l2,p2⟩:=i10.c_hl2
 obtain ⟨l3,p3⟩:=i10.c_hl3
 obtain ⟨l4,p4⟩:=i10.c_hl4
 obtain ⟨l5,p5⟩:=i10.c_hl5
 obtain ⟨l6,p6⟩:=i10.c_hl6
 obtain ⟨l7,p7⟩:=i10.c_hl7
 have kf:=i10.fz
 have k0:=i10.c_nx
 go_wp2
 go_end0
 obtain ⟨y0,y1,y2,y3,y4,y5,y6,y7,hl⟩:=len8 hi.lhl
 exact ⟨rfl,_,_,_,(((((((((m10.setIn hb _ _).setIn hb _ _).setIn hb _ _).setIn hb _ _).setIn hb _ _).setIn hb _ _).setIn hb _ _).setIn hb _ _).setIn hb _ _),(((((((((o10.set _ _).set _ _).set _ _).set _ _).set _ _).set _ _).set _ _).set _ _).set _ _),((((((((i10.set_hl0 _).set_hl1 _).set_hl2 _).set_hl3 _).set_hl4 _).set_hl5 _).set_hl6 _).set_hl7 _).set_nx 3,(((((((((((Same.refl.set (by omega) _).set (by omega) _).set (by omega) _).set (by omega) _).set (by omega) _).set (by omega) _).set (by omega) _).set (by omega) _).set (by omega) _).set (by omega) _).set (by omega) _),rfl,by simp [hl,HpV]⟩
end Go.Proofs.YtlolfmoolgenpaaGreat

namespace Go.Proofs.YtlolfmoolgenpaaGreat
open Go.RowKit
set_option maxRecDepth 20000
set_option maxHeartbeats 1000000 in
theorem dmark_no {w : World} {L : Loc} {s : Mm} {b o : Nat} {T : TypeId} {cs : Array Value} {t n k m : Nat} {g p r : Int} {a : DV} (h : MemAt w L s) (hb : ¬ L.has b) (hi : DpAt w b o T cs a) (who : Int) (hG : Good t n k m g p r) {x : Nat} {G : Int} (hx : x < n) (hn : (6 + t + x * 2) < s.n) {st : Int} {A : Nat} {Gs V : Int} (hs : SlotIs a.se st A Gs V) (hd : decide (s.wd (6 + t + x * 2) = a.se) = false) :
 Calls Tryz.prog 122 #[.pointer (some ⟨b,o,none⟩),.agg #[.int .i64 t,.int .i64 n,.int .i64 k,.int .i64 m,.int .i64 g,.int .i64 p,.int .i64 r,.pointer (some ⟨L.p,0,none⟩),.int .i64 who],.agg #[.int .i64 x,.int .i64 G]] w fun e w'=>e = .returned (.tuple #[]) /\ Dact L b o T cs w w' (fun s' a'=>s' = ((s.by who).cas (6 + t + x * 2) a.se (packS 4 A Gs (V + 1))) /\ a' = { a with nx:=0 }):=by
 have HD : Hid (decide (s.wd (6 + t + x * 2) = a.se) = false):=hd
 have sw:=hs.call
 have hs1:=hG.s1
 have ab : (A : Int) <= 1048575:=by have:=hs.ad;omega
 have gb : 0 <= Gs /\ Gs <= 65535:=by have:=hs.gn;omega
 have vb : 0 <= V /\ V <= 4194303:=by have:=hs.vr;omega
 have ps:=fun w=>putSlot_any 4 A Gs (V + 1) w ⟨by omega,by omega⟩ ⟨by omega,by omega⟩ ⟨by omega,by omega⟩ ⟨by omega,by omega⟩
 have hvw : IntKind.i64.wrap (V + 1) = V + 1:=by rw [IntKind.wrap_i64];omega
 clear hd hs
 have hbv : ¬ L.has w.heap.size:=fun hh=>by have:=h.lt _ hh;omega
 have hbb : ¬ w.heap.size = b:=fun hh=>by have:=hi.lt;omega
 have hbv1 : ¬ L.has (w.heap.size + 1):=fun hh=>by have:=h.lt _ hh;omega
 have hbb1 : ¬ w.heap.size + 1 = b:=fun hh=>by have:=hi.lt;omega
 have i0:=(hi.grown (grow1 _ (.cells #[.int .i64 t,.int .i64 n,.int .i64 k,.int .i64 m,.int .i64 g,.int .i64 p,.int .i64 r,.pointer (some ⟨L.p,0,none⟩),.int .i64 who] 27))).grown (grow1 _ (.cells #[.int .i64 x,.int .i64 G] 154))
 have k3:=i0.c_se
 go_enter Tryz.func122,Tryz.ntmps122
 go_wp2_with (first
  | (go_at_call 82;refine (sw _).mono ?_;rintro e w3 ⟨rfl,b3⟩)
  | (go_at_call 33;refine (ps _).mono ?_;rintro e w5 ⟨rfl,b5⟩))
 refine wp_over (fun W=>MemAt W L s /\ DpAt W b o T cs a /\ BoxV W w.heap.size t n k m g p r L.p who /\ At W (w.heap.size + 1) 0 154 #[.int .i64 x,.int .i64 G] [.int .i64 x,.int .i64 G] /\ Only (L.and b) w W) ⟨((((h.alloc _).alloc _).below b3).alloc _).below b5,((i0.grown b3).grown (grow1 _ _)).grown b5,(((BoxV.newB _).grown b3).grown (grow1 _ _)).grown b5,(((At.new2 _ _ _ [.int .i64 (x : Nat),.int .i64 G]).grown b3).grown (grow1 _ _)).grown b5,(((((Only.refl _ _).alloc _).alloc _).trans (Only.ofGrown b3)).alloc _).trans (Only.ofGrown b5)⟩ ?_
 clear b3 b5 i0 k3 sw ps
 rintro W ⟨m1,i1,v1,x1,o1⟩
 refine wp_region_rely_tail Grown 11 [.val (.agg #[.int .i64 t,.int .i64 n,.int .i64 k,.int .i64 m,.int .i64 g,.int .i64 p,.int .i64 r,.pointer (some ⟨L.p,0,none⟩),.int .i64 who]),.val (.pointer (some ⟨w.heap.size,0,none⟩)),.val (.agg #[.int .i64 t,.int .i64 n,.int .i64 k,.int .i64 m,.int .i64 g,.int .i64 p,.int .i64 r]),.val (.pointer (some ⟨w.heap.size + 1,0,none⟩)),.val (.int .i64 (x : Nat)),.val (.int .i64 (((6 + t + x * 2) : Nat) : Int)),.val (.pointer (some ⟨b,o,none⟩)),.val (.pointer (some ⟨b,o,none⟩)),.val (.pointer (some ⟨b,o + 3,none⟩)),.val (.int .u64 a.se),.val (.int .u64 (packS 4 A Gs (V + 1)))] (by kernel_rfl) Grown.refl Grown.trans (by decide) (by kernel_rfl) (by kernel_rfl) (by kernel_rfl) (by kernel_rfl) (by kernel_rfl) (by kernel_rfl) ?_
 simp only [List.take_succ_cons,List.take_zero,relyAll,Act.put,List.setIfInBounds_toArray,List.set_cons_zero,List.set_cons_succ]
 refine ⟨?_,?_,?_,?_,?_,?_,?_,?_,?_,?_,?_,?_⟩
 · intro w' hg _
   apply ol
   obtain ⟨y0,y1,y2,y3,y4,y5,y6,y7,y8⟩:=(v1.grown ((Below.refl _ _).drew)).grown hg
   go_simp
   exact gl
 · intros;apply ol;go_simp;exact gl
 · intro w' hg _
   apply ol
   obtain ⟨y0,y1,y2,y3,y4,y5,y6,y7,y8⟩:=(v1.grown ((Below.refl _ _).drew)).grown hg
   go_simp
   exact gl
 · intros;apply ol;go_simp;exact gl
 · intro w' hg _
   apply ol
   have z:=(x1.drew.grown hg).at0 0 rfl
   go_simp
   exact gl
 · intro w' hg _
   apply ol
   go_simp
   refine (lslot_any _ _ _ _ _ _ _ (x : Int) _ hG.arena (by omega) (by omega)).mono ?_
   rintro e w'' ⟨rfl,b9⟩
   exact ⟨_,rfl,b9,congrArg (Value.int .i64) (by omega)⟩
 · intros;apply ol;go_simp;exact gl
 · intros;apply ol;go_simp;exact gl
 · intros;apply ol;go_simp;exact gl
 · intro w' hg _
   apply ol
   have z:=(i1.drew.grown hg).c_se
   go_simp
   exact gl
 · intros;apply ol;go_simp;exact gl
 intro w7 hg _
 have m7:=m1.drew.below hg
 have i7:=i1.drew.grown hg
 have x7:=x1.drew.grown hg
 have o7 : Only (L.and b) w w7:=o1.drew.trans (Only.ofGrown hg)
 clear hg m1 i1 v1 x1 o1
 go_wp2_with (go_at_call 107;refine (ecas_in m7 _ _ _ _ _ _ _ _ (6 + t + x * 2) hn _ _).mono ?_;rintro e w8 ⟨rfl,m8,o8⟩;rw [HD.out];have i8:=i7.only o8 hb;have k0:=i8.c_nx;have kf:=i8.fz)
 refine bodyPost_ret (results_none rfl _ _ _) rfl ?_
 exact ⟨rfl,_,_,_,m8.setIn hb _ _,(o7.trans (o8.andL (b:=b))).set _ _,i8.set_nx 0,Same.refl.set (by omega) _,rfl,rfl⟩
set_option maxHeartbeats 1000000 in
theorem dmark_yes {w : World} {L : Loc} {s : Mm} {b o : Nat} {T : TypeId} {cs : Array Value} {t n k m : Nat} {g p r : Int} {a : DV} (h : MemAt w L s) (hb : ¬ L.has b) (hi : DpAt w b o T cs a) (who : Int) (hG : Good t n k m g p r) {x : Nat} {G : Int} (hx : x < n) (hn : (6 + t + x * 2) < s.n) {Z : Int} (hz : a.sz = Z) {st : Int} {A : Nat} {Gs V : Int} (hs : SlotIs a.se st A Gs V) (hd : decide (s.wd (6 + t + x * 2) = a.se) = true) :
 Calls Tryz.prog 122 #[.pointer (some ⟨b,o,none⟩),.agg #[.int .i64 t,.int .i64 n,.int .i64 k,.int .i64 m,.int .i64 g,.int .i64 p,.int .i64 r,.pointer (some ⟨L.p,0,none⟩),.int .i64 who],.agg #[.int .i64 x,.int .i64 G]] w fun e w'=>e = .returned (.tuple #[]) /\ Dact L b o T cs w w' (fun s' a'=>s' = ((s.by who).cas (6 + t + x * 2) a.se (packS 4 A Gs (V + 1))) /\ a' = { a with hl:=HpV x (packS 4 A Gs (V + 1)) Z 0 0 false false false,nx:=4 }):=by
 have HD : Hid (decide (s.wd (6 + t + x * 2) = a.se) = true):=hd
 have sw:=hs.call
 have hs1:=hG.s1
 have ab : (A : Int) <= 1048575:=by have:=hs.ad;omega
 have gb : 0 <= Gs /\ Gs <= 65535:=by have:=hs.gn;omega
 have vb : 0 <= V /\ V <= 4194303:=by have:=hs.vr;omega
 have ps:=fun w=>putSlot_any 4 A Gs (V + 1) w ⟨by omega,by omega⟩ ⟨by omega,by omega⟩ ⟨by omega,by omega⟩ ⟨by omega,by omega⟩
 have hvw : IntKind.i64.wrap (V + 1) = V + 1:=by rw [IntKind.wrap_i64];omega
 have HZ : Hid (a.sz = Z):=hz
 clear hd hs hz
 have hbv : ¬ L.has w.heap.size:=fun hh=>by have:=h.lt _ hh;omega
 have hbb : ¬ w.heap.size = b:=fun hh=>by have:=hi.lt;omega
 have hbv1 : ¬ L.has (w.heap.size + 1):=fun hh=>by have:=h.lt _ hh;omega
 have hbb1 : ¬ w.heap.size + 1 = b:=fun hh=>by have:=hi.lt;omega
 have i0:=(hi.grown (grow1 _ (.cells #[.int .i64 t,.int .i64 n,.int .i64 k,.int .i64 m,.int .i64 g,.int .i64 p,.int .i64 r,.pointer (some ⟨L.p,0,none⟩),.int .i64 who] 27))).grown (grow1 _ (.cells #[.int .i64 x,.int .i64 G] 154))
 have k3:=i0.c_se
 go_enter Tryz.func122,Tryz.ntmps122
 go_wp2_with (first
  | (go_at_call 82;refine (sw _).mono ?_;rintro e w3 ⟨rfl,b3⟩)
  | (go_at_call 33;refine (ps _).mono ?_;rintro e w5 ⟨rfl,b5⟩))
 refine wp_over (fun W=>MemAt W L s /\ DpAt W b o T cs a /\ BoxV W w.heap.size t n k m g p r L.p who /\ At W (w.heap.size + 1) 0 154 #[.int .i64 x,.int .i64 G] [.int .i64 x,.int .i64 G] /\ Only (L.and b) w W) ⟨((((h.alloc _).alloc _).below b3).alloc _).below b5,((i0.grown b3).grown (grow1 _ _)).grown b5,(((BoxV.newB _).grown b3).grown (grow1 _ _)).grown b5,(((At.new2 _ _ _ [.int .i64 (x : Nat),.int .i64 G]).grown b3).grown (grow1 _ _)).grown b5,(((((Only.refl _ _).alloc _).alloc _).trans (Only.ofGrown b3)).alloc _).trans (Only.ofGrown b5)⟩ ?_
 clear b3 b5 i0 k3 sw ps
 rintro W ⟨m1,i1,v1,x1,o1⟩
 refine wp_region_rely_tail Grown 11 [.val (.agg #[.int .i64 t,.int .i64 n,.int .i64 k,.int .i64 m,.int .i64 g,.int .i64 p,.int .i64 r,.pointer (some ⟨L.p,0,none⟩),.int .i64 who]),.val (.pointer (some ⟨w.heap.size,0,none⟩)),.val (.agg #[.int .i64 t,.int .i64 n,.int .i64 k,.int .i64 m,.int .i64 g,.int .i64 p,.int .i64 r]),.val (.pointer (some ⟨w.heap.size + 1,0,none⟩)),.val (.int .i64 (x : Nat)),.val (.int .i64 (((6 + t + x * 2) : Nat) : Int)),.val (.pointer (some ⟨b,o,none⟩)),.val (.pointer (some ⟨b,o,none⟩)),.val (.pointer (some ⟨b,o + 3,none⟩)),.val (.int .u64 a.se),.val (.int .u64 (packS 4 A Gs (V + 1)))] (by kernel_rfl) Grown.refl Grown.trans (by decide) (by kernel_rfl) (by kernel_rfl) (by kernel_rfl) (by kernel_rfl) (by kernel_rfl) (by kernel_rfl) ?_
 simp only [List.take_succ_cons,List.take_zero,relyAll,Act.put,List.setIfInBounds_toArray,List.set_cons_zero,List.set_cons_succ]
 refine ⟨?_,?_,?_,?_,?_,?_,?_,?_,?_,?_,?_,?_⟩
 · intro w' hg _
   apply ol
   obtain ⟨y0,y1,y2,y3,y4,y5,y6,y7,y8⟩:=(v1.grown ((Below.refl _ _).drew)).grown hg
   go_simp
   exact gl
 · intros;apply ol;go_simp;exact gl
 · intro w' hg _
   apply ol
   obtain ⟨y0,y1,y2,y3,y4,y5,y6,y7,y8⟩:=(v1.grown ((Below.refl _ _).drew)).grown hg
   go_simp
   exact gl
 · intros;apply ol;go_simp;exact gl
 · intro w' hg _
   apply ol
   have z:=(x1.drew.grown hg).at0 0 rfl
   go_simp
   exact gl
 · intro w' hg _
   apply ol
   go_simp
   refine (lslot_any _ _ _ _ _ _ _ (x : Int) _ hG.arena (by omega) (by omega)).mono ?_
   rintro e w'' ⟨rfl,b9⟩
   exact ⟨_,rfl,b9,congrArg (Value.int .i64) (by omega)⟩
 · intros;apply ol;go_simp;exact gl
 · intros;apply ol;go_simp;exact gl
 · intros;apply ol;go_simp;exact gl
 · intro w' hg _
   apply ol
   have z:=(i1.drew.grown hg).c_se
   go_simp
   exact gl
 · intros;apply ol;go_simp;exact gl
 intro w7 hg _
 have m7:=m1.drew.below hg
 have i7:=i1.drew.grown hg
 have x7:=x1.drew.grown hg
 have o7 : Only (L.and b) w w7:=o1.drew.trans (Only.ofGrown hg)
 clear hg m1 i1 v1 x1 o1
 go_wp2_with (go_at_call 107;refine (ecas_in m7 _ _ _ _ _ _ _ _ (6 + t + x * 2) hn _ _).mono ?_;rintro e w8 ⟨rfl,m8,o8⟩;rw [HD.out];have i8:=i7.only o8 hb;have k0:=i8.c_nx;have kf:=i8.fz)
 refine wp_over (fun W=>MemAt W L ((s.by who).cas (6 + t + x * 2) a.se (packS 4 A Gs (V + 1))) /\ DpAt W b o T cs a /\ At W (w.heap.size + 1) 0 154 #[.int .i64 x,.int .i64 G] [.int .i64 x,.int .i64 G] /\ Only (L.and b) w W) ⟨m8,i8,x7.only o8 hbv1,o7.trans (o8.andL (b:=b))⟩ ?_
 clear m7 i7 x7 o7 m8 i8 o8 k0 kf
 rintro W ⟨m1,i1,x1,o1⟩
 refine wp_region_rely_tail Grown 13 [.val (.pointer (some ⟨b,o,none⟩)),.val (.pointer (some ⟨w.heap.size + 1,0,none⟩)),.val (.int .i64 (x : Nat)),.val (.int .u64 (packS 4 A Gs (V + 1))),.val (.pointer (some ⟨b,o,none⟩)),.val (.pointer (some ⟨b,o,none⟩)),.val (.pointer (some ⟨b,o + 5,none⟩)),.val (.int .i64 Z),.that (fun w' v=>∃ X,v = .pointer (some ⟨X,0,none⟩) /\ At w' X 0 110 (HpV x (packS 4 A Gs (V + 1)) Z 0 0 false false false).toArray (HpV x (packS 4 A Gs (V + 1)) Z 0 0 false false false)) (fun _ _ _ hg h=>h.imp fun X k=>⟨k.1,k.2.grown hg⟩),.that (fun w' v=>∃ X,v = .pointer (some ⟨X,0,none⟩) /\ At w' X 0 110 (HpV x (packS 4 A Gs (V + 1)) Z 0 0 false false false).toArray (HpV x (packS 4 A Gs (V + 1)) Z 0 0 false false false)) (fun _ _ _ hg h=>h.imp fun X k=>⟨k.1,k.2.grown hg⟩),.val (.agg #[.int .i64 x,.int .u64 (packS 4 A Gs (V + 1)),.int .i64 Z,.int .i64 0,.int .u64 0,.bool false,.bool false,.bool false]),.val (.pointer (some ⟨b,o,none⟩)),.val (.pointer (some ⟨b,o + 6,none⟩))] (by kernel_rfl) Grown.refl Grown.trans (by decide) (by kernel_rfl) (by kernel_rfl) (by kernel_rfl) (by kernel_rfl) (by kernel_rfl) (by kernel_rfl) ?_
 simp only [List.take_succ_cons,List.take_zero,relyAll,Act.put,List.setIfInBounds_toArray,List.set_cons_zero,List.set_cons_succ]
 refine ⟨?_,?_,?_,?_,?_,?_,?_,?_,?_,fun v1=>⟨?_,fun v2=>⟨?_,?_,?_,?_⟩⟩⟩
 · intros;apply ol;go_simp;exact gl
 · intros;apply ol;go_simp;exact gl
 · intro w' hg _
   apply ol
   have z:=(x1.drew.grown hg).at0 0 rfl
   go_simp
   exact gl
 · intros;apply ol;go_simp;exact gl
 · intros;apply ol;go_simp;exact gl
 · intros;apply ol;go_simp;exact gl
 · intros;apply ol;go_simp;exact gl
 · intro w' hg _
   apply ol
   have z:=(i1.drew.grown hg).c_sz
   rw [HZ.out] at z
   go_simp
   exact gl
 · intro w' hg _
   apply ol
   have q:=At.new w' 110 (HpV x (packS 4 A Gs (V + 1)) Z 0 0 false false false)
   go_simp
   refine (newHelp_any x (packS 4 A Gs (V + 1)) Z _).mono ?_
   rintro e w'' ⟨rfl,rfl⟩
   exact ⟨_,rfl,grow1 _ _,_,rfl,q⟩
 · intro w' hg hf
   apply ol
   obtain ⟨X,rfl,q⟩:=hf.1 (by kernel_rfl)
   go_simp
   exact ⟨Grown.refl _,X,rfl,q⟩
 · intro w' hg hf
   apply ol
   obtain ⟨X,rfl,q⟩:=hf.1 (by kernel_rfl)
   have z0:=q.at0 0 rfl
   have z1:=q.at0 1 rfl
   have z2:=q.at0 2 rfl
   have z3:=q.at0 3 rfl
   have z4:=q.at0 4 rfl
   have z5:=q.at0 5 rfl
   have z6:=q.at0 6 rfl
   have z7:=q.at0 7 rfl
   go_simp
   exact gl
 · intros;apply ol;go_simp;exact gl
 · intros;apply ol;go_simp;exact gl
 intro w9 hg _
 have m10:=m1.drew.below hg
 have i10:=i1.drew.grown hg
 have o10 : Only (L.and b) w w9:=o1.drew.trans (Only.ofGrown hg)
 clear hg m1 i1 x1 o1
 obtain ⟨l0,p0⟩:=i10.c_hl0
 obtain ⟨l1,p1⟩:=i10.c_hl1
 obtain ⟨l2,p2⟩:=i10.c_hl2
 obtain ⟨l3,p3⟩:=i10.c_hl3
 obtain ⟨l4,p4⟩:=i10.c_hl4
 obtain ⟨l5,p5⟩:=i10.c_hl5
 obtain ⟨l6,p6⟩:=i10.c_hl6
 obtain ⟨l7,p7⟩:=i10.c_hl7
 have kf:=i10.fz
 have k0:=i10.c_nx
 go_wp2
 go_end0
 obtain ⟨y0,y1,y2,y3,y4,y5,y6,y7,hl⟩:=len8 hi.lhl
 exact ⟨rfl,_,_,_,(((((((((m10.setIn hb _ _).setIn hb _ _).setIn hb _ _).setIn hb _ _).setIn hb _ _).setIn hb _ _).setIn hb _ _).setIn hb _ _).setIn hb _ _),(((((((((o10.set _ _).set _ _).set _ _).set _ _).set _ _).set _ _).set _ _).set _ _).set _ _),((((((((i10.set_hl0 _).set_hl1 _).set_hl2 _).set_hl3 _).set_hl4 _).set_hl5 _).set_hl6 _).set_hl7 _).set_nx 4,(((((((((Same.refl.set (by omega) _).set (by omega) _).set (by omega) _).set (by omega) _).set (by omega) _).set (by omega) _).set (by omega) _).set (by omega) _).set (by omega) _),rfl,by simp [hl,HpV]⟩
set_option maxHeartbeats 1000000 in
theorem dend_on {w : World} {L : Loc} {s : Mm} {b o : Nat} {T : TypeId} {cs : Array Value} {t n k m : Nat} {g p r : Int} {a : DV} (h : MemAt w L s) (hi : DpAt w b o T cs a) (who : Int) {x : Nat} {G : Int} (X : Mm -> List Value -> Prop) (hX : ∀ s' l',X s' l' -> l'.length = 8)
 (hc : ∀ w1 : World,MemAt w1 L s -> At w1 b (o + 6) T cs a.hl -> Calls Tryz.prog 123 #[.pointer (some ⟨b,o + 6,none⟩),.agg #[.int .i64 t,.int .i64 n,.int .i64 k,.int .i64 m,.int .i64 g,.int .i64 p,.int .i64 r,.pointer (some ⟨L.p,0,none⟩),.int .i64 who]] w1 fun e w'=>e = .returned (.bool false) /\ Hact L b (o + 6) T cs w1 w' X) :
 Calls Tryz.prog 124 #[.pointer (some ⟨b,o,none⟩),.agg #[.int .i64 t,.int .i64 n,.int .i64 k,.int .i64 m,.int .i64 g,.int .i64 p,.int .i64 r,.pointer (some ⟨L.p,0,none⟩),.int .i64 who],.agg #[.int .i64 x,.int .i64 G]] w fun e w'=>e = .returned (.tuple #[]) /\ Dact L b o T cs w w' (fun s' a'=>∃ l',X s' l' /\ a' = { a with hl:=l' }):=by
 have hbv : ¬ L.has w.heap.size:=fun hh=>by have:=h.lt _ hh;omega
 have hbb : ¬ w.heap.size = b:=fun hh=>by have:=hi.lt;omega
 have hbv1 : ¬ L.has (w.heap.size + 1):=fun hh=>by have:=h.lt _ hh;omega
 have hbb1 : ¬ w.heap.size + 1 = b:=fun hh=>by have:=hi.lt;omega
 go_enter Tryz.func124,Tryz.ntmps124
 go_wp2
 refine wp_over (fun W=>MemAt W L s /\ DpAt W b o T cs a /\ BoxV W w.heap.size t n k m g p r L.p who /\ At W (w.heap.size + 1) 0 154 #[.int .i64 x,.int .i64 G] [.int .i64 x,.int .i64 G] /\ Only (L.and b) w W) ⟨(h.alloc _).alloc _,(hi.grown (grow1 _ _)).grown (grow1 _ _),BoxV.newB _,At.new2 _ _ _ _,((Only.refl _ _).alloc _).alloc _⟩ ?_
 rintro W ⟨m1,i1,v1,x1,o1⟩
 refine wp_region_rely_tail Grown 4 [.val (.pointer (some ⟨b,o,none⟩)),.val (.pointer (some ⟨b,o,none⟩)),.val (.pointer (some ⟨b,o + 6,none⟩)),.val (.agg #[.int .i64 t,.int .i64 n,.int .i64 k,.int .i64 m,.int .i64 g,.int .i64 p,.int .i64 r,.pointer (some ⟨L.p,0,none⟩),.int .i64 who])] (by kernel_rfl) Grown.refl Grown.trans (by decide) (by kernel_rfl) (by kernel_rfl) (by kernel_rfl) (by kernel_rfl) (by kernel_rfl) (by kernel_rfl) ?_
 simp only [List.take_succ_cons,List.take_zero,relyAll,Act.put,List.setIfInBounds_toArray,List.set_cons_zero,List.set_cons_succ]
 refine ⟨?_,?_,?_,?_,?_⟩
 · intros;apply ol;go_simp;exact gl
 · intros;apply ol;go_simp;exact gl
 · intros;apply ol;go_simp;exact gl
 · intro w' hg _
   apply ol
   obtain ⟨y0,y1,y2,y3,y4,y5,y6,y7,y8⟩:=(v1.grown ((Below.refl _ _).drew)).grown hg
   go_simp
   exact gl
 intro w5 hg _
 have m5:=m1.drew.below hg
 have i5:=i1.drew.grown hg
 have v5:=(v1.grown ((Below.refl _ _).drew)).grown hg
 have x5:=x1.drew.grown hg
 have o5 : Only (L.and b) w w5:=o1.drew.trans (Only.ofGrown hg)
 clear hg m1 i1 v1 x1 o1
 go_wp2_with (go_at_call 123;refine (hc _ m5 i5.hlAt).mono ?_;rintro e w6 ⟨rfl,s6,cs6,l6,m6,o6,i6,q6,p6⟩;have i7:=i5.step_hl i6 (hX _ _ p6) q6;have o7:=o5.trans o6;have q7 : Same o 21 cs cs6:=q6.wide (by omega) (by omega))
 refine bodyPost_ret (results_none rfl _ _ _) rfl ?_
 exact ⟨rfl,s6,_,_,m6,o7,i7,q7,l6,p6,rfl⟩
set_option maxHeartbeats 1000000 in
theorem dend_done {w : World} {L : Loc} {s : Mm} {b o : Nat} {T : TypeId} {cs : Array Value} {t n k m : Nat} {g p r : Int} {a : DV} (h : MemAt w L s) (hb : ¬ L.has b) (hi : DpAt w b o T cs a) (who : Int) (hG : Good t n k m g p r) {x : Nat} {G : Int} (hx : x < n) (X : Mm -> List Value -> Prop) (hX : ∀ s' l',X s' l' -> l'.length = 8) (hn : ∀ s' l',X s' l' -> (6 + t + x * 2) < s'.n)
 (hc : ∀ w1 : World,MemAt w1 L s -> At w1 b (o + 6) T cs a.hl -> Calls Tryz.prog 123 #[.pointer (some ⟨b,o + 6,none⟩),.agg #[.int .i64 t,.int .i64 n,.int .i64 k,.int .i64 m,.int .i64 g,.int .i64 p,.int .i64 r,.pointer (some ⟨L.p,0,none⟩),.int .i64 who]] w1 fun e w'=>e = .returned (.bool true) /\ Hact L b (o + 6) T cs w1 w' X) :
 Calls Tryz.prog 124 #[.pointer (some ⟨b,o,none⟩),.agg #[.int .i64 t,.int .i64 n,.int .i64 k,.int .i64 m,.int .i64 g,.int .i64 p,.int .i64 r,.pointer (some ⟨L.p,0,none⟩),.int .i64 who],.agg #[.int .i64 x,.int .i64 G]] w fun e w'=>e = .returned (.tuple #[]) /\ Dact L b o T cs w w' (fun s' a'=>∃ l',X s' l' /\ a' = { a with hl:=l',St:=s'.wn (6 + t + x * 2),nx:=5 }):=by
 have hs1:=hG.s1
 have hbv : ¬ L.has w.heap.size:=fun hh=>by have:=h.lt _ hh;omega
 have hbb : ¬ w.heap.size = b:=fun hh=>by have:=hi.lt;omega
 have hbv1 : ¬ L.has (w.heap.size + 1):=fun hh=>by have:=h.lt _ hh;omega
 have hbb1 : ¬ w.heap.size + 1 = b:=fun hh=>by have:=hi.lt;omega
 go_enter Tryz.func124,Tryz.ntmps124
 go_wp2
 refine wp_over (fun W=>MemAt W L s /\ DpAt W b o T cs a /\ BoxV W w.heap.size t n k m g p r L.p who /\ At W (w.heap.size + 1) 0 154 #[.int .i64 x,.int .i64 G] [.int .i64 x,.int .i64 G] /\ Only (L.and b) w W) ⟨(h.alloc _).alloc _,(hi.grown (grow1 _ _)).grown (grow1 _ _),BoxV.newB _,At.new2 _ _ _ _,((Only.refl _ _).alloc _).alloc _⟩ ?_
 rintro W ⟨m1,i1,v1,x1,o1⟩
 refine wp_region_rely_tail Grown 4 [.val (.pointer (some ⟨b,o,none⟩)),.val (.pointer (some ⟨b,o,none⟩)),.val (.pointer (some ⟨b,o + 6,none⟩)),.val (.agg #[.int .i64 t,.int .i64 n,.int .i64 k,.int .i64 m,.int .i64 g,.int .i64 p,.int .i64 r,.pointer (some ⟨L.p,0,none⟩),.int .i64 who])] (by kernel_rfl) Grown.refl Grown.trans (by decide) (by kernel_rfl) (by kernel_rfl) (by kernel_rfl) (by kernel_rfl) (by kernel_rfl) (by kernel_rfl) ?_
 simp only [List.take_succ_cons,List.take_zero,relyAll,Act.put,List.setIfInBounds_toArray,List.set_cons_zero,List.set_cons_succ]
 refine ⟨?_,?_,?_,?_,?_⟩
 · intros;apply ol;go_simp;exact gl
 · intros;apply ol;go_simp;exact gl
 · intros;apply ol;go_simp;exact gl
 · intro w' hg _
   apply ol
   obtain ⟨y0,y1,y2,y3,y4,y5,y6,y7,y8⟩:=(v1.grown ((Below.refl _ _).drew)).grown hg
   go_simp
   exact gl
 intro w5 hg _
 have m5:=m1.drew.below hg
 have i5:=i1.drew.grown hg
 have v5:=(v1.grown ((Below.refl _ _).drew)).grown hg
 have x5:=x1.drew.grown hg
 have o5 : Only (L.and b) w w5:=o1.drew.trans (Only.ofGrown hg)
 clear hg m1 i1 v1 x1 o1
 go_wp2_with (go_at_call 123;refine (hc _ m5 i5.hlAt).mono ?_;rintro e w6 ⟨rfl,s6,cs6,l6,m6,o6,i6,q6,p6⟩;have i7:=i5.step_hl i6 (hX _ _ p6) q6;have o7:=o5.trans o6;have q7 : Same o 21 cs cs6:=q6.wide (by omega) (by omega))
 refine wp_over (fun W=>MemAt W L s6 /\ DpAt W b o T cs6 { a with hl:=l6 } /\ BoxV W w.heap.size t n k m g p r L.p who /\ At W (w.heap.size + 1) 0 154 #[.int .i64 x,.int .i64 G] [.int .i64 x,.int .i64 G] /\ Only (L.and b) w W) ⟨m6,i7,v5.only o6 (fun hh=>hh.elim hbv hbb),x5.only o6 (fun hh=>hh.elim hbv1 hbb1),o7⟩ ?_
 clear m5 i5 v5 x5 o5 m6 i6 i7 o6 o7 q6
 rintro W ⟨m1,i1,v1,x1,o1⟩
 refine wp_region_rely_tail Grown 12 [.val (.pointer (some ⟨b,o,none⟩)),.val (.pointer (some ⟨w.heap.size,7,none⟩)),.val (.pointer (some ⟨L.p,0,none⟩)),.val (.pointer (some ⟨w.heap.size,0,none⟩)),.val (.agg #[.int .i64 t,.int .i64 n,.int .i64 k,.int .i64 m,.int .i64 g,.int .i64 p,.int .i64 r]),.val (.pointer (some ⟨w.heap.size + 1,0,none⟩)),.val (.int .i64 (x : Nat)),.val (.int .i64 (((6 + t + x * 2) : Nat) : Int)),.val (.int .i64 (s6.wn (6 + t + x * 2))),.val (.pointer (some ⟨b,o,none⟩)),.val (.pointer (some ⟨b,o + 17,none⟩)),.val (.pointer (some ⟨b,o + 20,none⟩))] (by kernel_rfl) Grown.refl Grown.trans (by decide) (by kernel_rfl) (by kernel_rfl) (by kernel_rfl) (by kernel_rfl) (by kernel_rfl) (by kernel_rfl) ?_
 simp only [List.take_succ_cons,List.take_zero,relyAll,Act.put,List.setIfInBounds_toArray,List.set_cons_zero,List.set_cons_succ]
 refine ⟨?_,?_,?_,?_,?_,?_,?_,?_,?_,?_,?_,?_,?_⟩
 · intros;apply ol;go_simp;exact gl
 · intros;apply ol;go_simp;exact gl
 · intro w' hg _
   apply ol
   obtain ⟨y0,y1,y2,y3,y4,y5,y6,y7,y8⟩:=(v1.grown ((Below.refl _ _).drew)).grown hg
   go_simp
   exact gl
 · intros;apply ol;go_simp;exact gl
 · intro w' hg _
   apply ol
   obtain ⟨y0,y1,y2,y3,y4,y5,y6,y7,y8⟩:=(v1.grown ((Below.refl _ _).drew)).grown hg
   go_simp
   exact gl
 · intros;apply ol;go_simp;exact gl
 · intro w' hg _
   apply ol
   have z:=(x1.drew.grown hg).at0 0 rfl
   go_simp
   exact gl
 · intro w' hg _
   apply ol
   go_simp
   refine (lslot_any _ _ _ _ _ _ _ (x : Int) _ hG.arena (by omega) (by omega)).mono ?_
   rintro e w'' ⟨rfl,b9⟩
   exact ⟨_,rfl,b9,congrArg (Value.int .i64) (by omega)⟩
 · intro w' hg _
   apply ol
   go_simp
   refine (when_in (m1.drew.below hg) (6 + t + x * 2) (hn _ _ p6)).mono ?_
   rintro e w'' ⟨rfl,rfl⟩
   exact ⟨_,rfl,Grown.refl _,rfl⟩
 · intros;apply ol;go_simp;exact gl
 · intros;apply ol;go_simp;exact gl
 · intros;apply ol;go_simp;exact gl
 intro w8 hg _
 have m8:=m1.drew.below hg
 have i8:=i1.drew.grown hg
 have o8 : Only (L.and b) w w8:=o1.drew.trans (Only.ofGrown hg)
 clear hg m1 i1 v1 x1 o1
 have k1:=i8.c_St
 have k0:=i8.c_nx
 have kf:=i8.fz
 go_wp2
 go_end0
 exact ⟨rfl,s6,_,_,(m8.setIn hb _ _).setIn hb _ _,(o8.set _ _).set _ _,(i8.set_St _).set_nx 5,(q7.set (by omega) _).set (by omega) _,l6,p6,rfl⟩
set_option maxHeartbeats 1000000 in
theorem dcount_next {w : World} {L : Loc} {s : Mm} {b o : Nat} {T : TypeId} {cs : Array Value} {t n k m : Nat} {g p r : Int} {a : DV} (h : MemAt w L s) (hb : ¬ L.has b) (hi : DpAt w b o T cs a) (who : Int) (hG : Good t n k m g p r) {x : Nat} {G : Int} {i : Nat} (hc : a.ch = i) (hik : i < k) {Z : Int} (hz : a.sz = Z) {κ : Nat} (hzk : classOf Z = κ) (hκ : κ < 4) (hn : (6 + t + n * 2 + i * 3 + 1) < s.n) (hl : G < g) :
 Calls Tryz.prog 125 #[.pointer (some ⟨b,o,none⟩),.agg #[.int .i64 t,.int .i64 n,.int .i64 k,.int .i64 m,.int .i64 g,.int .i64 p,.int .i64 r,.pointer (some ⟨L.p,0,none⟩),.int .i64 who],.agg #[.int .i64 x,.int .i64 G]] w fun e w'=>e = .returned (.tuple #[]) /\ Dact L b o T cs w w' (fun s' a'=>s' = ((s.by who).step (6 + t + n * 2 + i * 3 + 1) (sum64 (s.wd (6 + t + n * 2 + i * 3 + 1)) (word64 (-(room κ : Int))))) /\ a' = { a with gl:=GvV 0 x 0,nx:=6 }):=by
 have HZ : Hid (a.sz = Z):=hz
 have HC : Hid (a.ch = i):=hc
 have lc:=fun w=>lclass_any Z w
 rw [hzk] at lc
 have hk1:=hG.k1
 have ht1:=hG.t1
 have hn1:=hG.s1
 have hr:=room_bd κ
 have la:=fun w=>dlast_any t n k m g p r G w
 rw [decide_eq_false (by omega)] at la
 clear hz hc hzk
 have hbv : ¬ L.has w.heap.size:=fun hh=>by have:=h.lt _ hh;omega
 have hbb : ¬ w.heap.size = b:=fun hh=>by have:=hi.lt;omega
 have hbv1 : ¬ L.has (w.heap.size + 1):=fun hh=>by have:=h.lt _ hh;omega
 have hbb1 : ¬ w.heap.size + 1 = b:=fun hh=>by have:=hi.lt;omega
 go_enter Tryz.func125,Tryz.ntmps125
 go_wp2
 refine wp_over (fun W=>MemAt W L s /\ DpAt W b o T cs a /\ BoxV W w.heap.size t n k m g p r L.p who /\ At W (w.heap.size + 1) 0 154 #[.int .i64 x,.int .i64 G] [.int .i64 x,.int .i64 G] /\ Only (L.and b) w W) ⟨(h.alloc _).alloc _,(hi.grown (grow1 _ _)).grown (grow1 _ _),BoxV.newB _,At.new2 _ _ _ _,((Only.refl _ _).alloc _).alloc _⟩ ?_
 rintro W ⟨m1,i1,v1,x1,o1⟩
 refine wp_region_rely_tail Grown 16 [.val (.agg #[.int .i64 t,.int .i64 n,.int .i64 k,.int .i64 m,.int .i64 g,.int .i64 p,.int .i64 r,.pointer (some ⟨L.p,0,none⟩),.int .i64 who]),.val (.pointer (some ⟨w.heap.size,0,none⟩)),.val (.agg #[.int .i64 t,.int .i64 n,.int .i64 k,.int .i64 m,.int .i64 g,.int .i64 p,.int .i64 r]),.val (.pointer (some ⟨b,o,none⟩)),.val (.pointer (some ⟨b,o,none⟩)),.val (.pointer (some ⟨b,o + 4,none⟩)),.val (.int .i64 (i : Nat)),.val (.int .i64 (6 + t + n * 2 + (i : Int) * 3)),.val (.int .i64 (((6 + t + n * 2 + i * 3 + 1) : Nat) : Int)),.val (.pointer (some ⟨b,o,none⟩)),.val (.pointer (some ⟨b,o,none⟩)),.val (.pointer (some ⟨b,o + 5,none⟩)),.val (.int .i64 Z),.val (.int .i64 (κ : Nat)),.val (.int .i64 (room κ : Nat)),.val (.int .i64 (-(room κ : Int)))] (by kernel_rfl) Grown.refl Grown.trans (by decide) (by kernel_rfl) (by kernel_rfl) (by kernel_rfl) (by kernel_rfl) (by kernel_rfl) (by kernel_rfl) ?_
 simp only [List.take_succ_cons,List.take_zero,relyAll,Act.put,List.setIfInBounds_toArray,List.set_cons_zero,List.set_cons_succ]
 refine ⟨?_,?_,?_,?_,?_,?_,?_,?_,?_,?_,?_,?_,?_,?_,?_,?_,?_⟩
 · intro w' hg _
   apply ol
   obtain ⟨y0,y1,y2,y3,y4,y5,y6,y7,y8⟩:=(v1.grown ((Below.refl _ _).drew)).grown hg
   go_simp
   exact gl
 · intros;apply ol;go_simp;exact gl
 · intro w' hg _
   apply ol
   obtain ⟨y0,y1,y2,y3,y4,y5,y6,y7,y8⟩:=(v1.grown ((Below.refl _ _).drew)).grown hg
   go_simp
   exact gl
 · intros;apply ol;go_simp;exact gl
 · intros;apply ol;go_simp;exact gl
 · intros;apply ol;go_simp;exact gl
 · intro w' hg _
   apply ol
   have z:=(i1.drew.grown hg).c_ch
   rw [HC.out] at z
   go_simp
   exact gl
 · intro w' hg _
   apply ol
   go_simp
   refine (lchunk_any _ _ _ _ _ _ _ (i : Int) _ hG.arena (by omega) (by omega)).mono ?_
   rintro e w'' ⟨rfl,b9⟩
   exact ⟨_,rfl,b9,rfl⟩
 · intro w' hg _
   apply ol
   go_simp
   exact ⟨Grown.refl _,congrArg (Value.int .i64) (by rw [IntKind.wrap_i64];omega)⟩
 · intros;apply ol;go_simp;exact gl
 · intros;apply ol;go_simp;exact gl
 · intros;apply ol;go_simp;exact gl
 · intro w' hg _
   apply ol
   have z:=(i1.drew.grown hg).c_sz
   rw [HZ.out] at z
   go_simp
   exact gl
 · intro w' hg _
   apply ol
   go_simp
   refine (lc _).mono ?_
   rintro e w'' ⟨rfl,rfl⟩
   exact ⟨_,rfl,Grown.refl _,rfl⟩
 · intro w' hg _
   apply ol
   go_simp
   refine (lroom_w κ hκ _).mono ?_
   rintro e w'' ⟨rfl,rfl⟩
   exact ⟨_,rfl,Grown.refl _,rfl⟩
 · intro w' hg _
   apply ol
   go_simp
   exact ⟨Grown.refl _,congrArg (Value.int .i64) (by rw [IntKind.wrap_i64];omega)⟩
 intro w5 hg _
 have m5:=m1.drew.below hg
 have i5:=i1.drew.grown hg
 have v5:=(v1.grown ((Below.refl _ _).drew)).grown hg
 have x5:=x1.drew.grown hg
 have o5 : Only (L.and b) w w5:=o1.drew.trans (Only.ofGrown hg)
 clear hg m1 i1 v1 x1 o1
 obtain ⟨z0,z1,z2,hgl⟩:=len3 hi.lgl
 go_wp2_with (first
  | (go_at_call 87;refine (eadd_in m5 _ _ _ _ _ _ _ _ (6 + t + n * 2 + i * 3 + 1) hn _).mono ?_;rintro e w6 ⟨rfl,m6,o6⟩;have x6:=x5.only o6 hbv1;have v6:=v5.only o6 hbv;have i6:=i5.only o6 hb;have u0:=x6.at0 0 rfl;have o7:=o5.trans (o6.andL (b:=b)))
  | (go_at_call 86;refine (newGive_any x _).mono ?_;rintro e w8 ⟨rfl,rfl⟩;have i8:=i6.grown (grow1 _ (.cells #[.int .i64 0,.int .i64 x,.int .u64 0] 106));have x8:=x6.grown (grow1 _ (.cells #[.int .i64 0,.int .i64 x,.int .u64 0] 106));have v8:=v6.grown (grow1 _ (.cells #[.int .i64 0,.int .i64 x,.int .u64 0] 106));have m8:=m6.alloc (.cells #[.int .i64 0,.int .i64 x,.int .u64 0] 106);have o8:=o7.alloc (.cells #[.int .i64 0,.int .i64 x,.int .u64 0] 106);obtain ⟨p0,k1⟩:=i8.c_gl0;obtain ⟨p1,k2⟩:=i8.c_gl1;obtain ⟨p2,k3⟩:=i8.c_gl2;have k0:=i8.c_nx;have kf:=i8.fz;have i9:=(((i8.set_gl0 (.int .i64 0)).set_gl1 (.int .i64 x)).set_gl2 (.int .u64 0)).set_nx 6;have x9:=(((x8.other hbb1 (o + 14) (.int .i64 0)).other hbb1 (o + 15) (.int .i64 x)).other hbb1 (o + 16) (.int .u64 0)).other hbb1 o (.int .i64 6);have v9:=(((v8.setIn hbb (o + 14) (.int .i64 0)).setIn hbb (o + 15) (.int .i64 x)).setIn hbb (o + 16) (.int .u64 0)).setIn hbb o (.int .i64 6);have u1:=x9.at0 1 rfl;obtain ⟨y0,y1,y2,y3,y4,y5,y6,y7,y8⟩:=id v9)
  | (go_at_call 136;refine (la _).mono ?_;rintro e w9 ⟨rfl,b9⟩;have i10:=i9.grown b9;have t0:=i10.c_nx;have tf:=i10.fz))
 go_end0
 exact ⟨rfl,_,_,_,(((((m8.setIn hb _ _).setIn hb _ _).setIn hb _ _).setIn hb _ _).below b9),(((((o8.set _ _).set _ _).set _ _).set _ _).trans (Only.ofGrown b9)),i10,((((Same.refl.set (by omega) _).set (by omega) _).set (by omega) _).set (by omega) _),rfl,by simp [hgl,GvV]⟩
set_option maxHeartbeats 1000000 in
theorem dcount_last {w : World} {L : Loc} {s : Mm} {b o : Nat} {T : TypeId} {cs : Array Value} {t n k m : Nat} {g p r : Int} {a : DV} (h : MemAt w L s) (hb : ¬ L.has b) (hi : DpAt w b o T cs a) (who : Int) (hG : Good t n k m g p r) {x : Nat} {G : Int} {i : Nat} (hc : a.ch = i) (hik : i < k) {Z : Int} (hz : a.sz = Z) {κ : Nat} (hzk : classOf Z = κ) (hκ : κ < 4) (hn : (6 + t + n * 2 + i * 3 + 1) < s.n) (hl : g <= G) :
 Calls Tryz.prog 125 #[.pointer (some ⟨b,o,none⟩),.agg #[.int .i64 t,.int .i64 n,.int .i64 k,.int .i64 m,.int .i64 g,.int .i64 p,.int .i64 r,.pointer (some ⟨L.p,0,none⟩),.int .i64 who],.agg #[.int .i64 x,.int .i64 G]] w fun e w'=>e = .returned (.tuple #[]) /\ Dact L b o T cs w w' (fun s' a'=>s' = ((s.by who).step (6 + t + n * 2 + i * 3 + 1) (sum64 (s.wd (6 + t + n * 2 + i * 3 + 1)) (word64 (-(room κ : Int))))) /\ a' = { a with gl:=GvV 0 x 0,nx:=7 }):=by
 have HZ : Hid (a.sz = Z):=hz
 have HC : Hid (a.ch = i):=hc
 have lc:=fun w=>lclass_any Z w
 rw [hzk] at lc
 have hk1:=hG.k1
 have ht1:=hG.t1
 have hn1:=hG.s1
 have hr:=room_bd κ
 have la:=fun w=>dlast_any t n k m g p r G w
 rw [decide_eq_true hl] at la
 clear hz hc hzk
 have hbv : ¬ L.has w.heap.size:=fun hh=>by have:=h.lt _ hh;omega
 have hbb : ¬ w.heap.size = b:=fun hh=>by have:=hi.lt;omega
 have hbv1 : ¬ L.has (w.heap.size + 1):=fun hh=>by have:=h.lt _ hh;omega
 have hbb1 : ¬ w.heap.size + 1 = b:=fun hh=>by have:=hi.lt;omega
 go_enter Tryz.func125,Tryz.ntmps125
 go_wp2
 refine wp_over (fun W=>MemAt W L s /\ DpAt W b o T cs a /\ BoxV W w.heap.size t n k m g p r L.p who /\ At W (w.heap.size + 1) 0 154 #[.int .i64 x,.int .i64 G] [.int .i64 x,.int .i64 G] /\ Only (L.and b) w W) ⟨(h.alloc _).alloc _,(hi.grown (grow1 _ _)).grown (grow1 _ _),BoxV.newB _,At.new2 _ _ _ _,((Only.refl _ _).alloc _).alloc _⟩ ?_
 rintro W ⟨m1,i1,v1,x1,o1⟩
 refine wp_region_rely_tail Grown 16 [.val (.agg #[.int .i64 t,.int .i64 n,.int .i64 k,.int .i64 m,.int .i64 g,.int .i64 p,.int .i64 r,.pointer (some ⟨L.p,0,none⟩),.int .i64 who]),.val (.pointer (some ⟨w.heap.size,0,none⟩)),.val (.agg #[.int .i64 t,.int .i64 n,.int .i64 k,.int .i64 m,.int .i64 g,.int .i64 p,.int .i64 r]),.val (.pointer (some ⟨b,o,none⟩)),.val (.pointer (some ⟨b,o,none⟩)),.val (.pointer (some ⟨b,o + 4,none⟩)),.val (.int .i64 (i : Nat)),.val (.int .i64 (6 + t + n * 2 + (i : Int) * 3)),.val (.int .i64 (((6 + t + n * 2 + i * 3 + 1) : Nat) : Int)),.val (.pointer (some ⟨b,o,none⟩)),.val (.pointer (some ⟨b,o,none⟩)),.val (.pointer (some ⟨b,o + 5,none⟩)),.val (.int .i64 Z),.val (.int .i64 (κ : Nat)),.val (.int .i64 (room κ : Nat)),.val (.int .i64 (-(room κ : Int)))] (by kernel_rfl) Grown.refl Grown.trans (by decide) (by kernel_rfl) (by kernel_rfl) (by kernel_rfl) (by kernel_rfl) (by kernel_rfl) (by kernel_rfl) ?_
 simp only [List.take_succ_cons,List.take_zero,relyAll,Act.put,List.setIfInBounds_toArray,List.set_cons_zero,List.set_cons_succ]
 refine ⟨?_,?_,?_,?_,?_,?_,?_,?_,?_,?_,?_,?_,?_,?_,?_,?_,?_⟩
 · intro w' hg _
   apply ol
   obtain ⟨y0,y1,y2,y3,y4,y5,y6,y7,y8⟩:=(v1.grown ((Below.refl _ _).drew)).grown hg
   go_simp
   exact gl
 · intros;apply ol;go_simp;exact gl
 · intro w' hg _
   apply ol
   obtain ⟨y0,y1,y2,y3,y4,y5,y6,y7,y8⟩:=(v1.grown ((Below.refl _ _).drew)).grown hg
   go_simp
   exact gl
 · intros;apply ol;go_simp;exact gl
 · intros;apply ol;go_simp;exact gl
 · intros;apply ol;go_simp;exact gl
 · intro w' hg _
   apply ol
   have z:=(i1.drew.grown hg).c_ch
   rw [HC.out] at z
   go_simp
   exact gl
 · intro w' hg _
   apply ol
   go_simp
   refine (lchunk_any _ _ _ _ _ _ _ (i : Int) _ hG.arena (by omega) (by omega)).mono ?_
   rintro e w'' ⟨rfl,b9⟩
   exact ⟨_,rfl,b9,rfl⟩
 · intro w' hg _
   apply ol
   go_simp
   exact ⟨Grown.refl _,congrArg (Value.int .i64) (by rw [IntKind.wrap_i64];omega)⟩
 · intros;apply ol;go_simp;exact gl
 · intros;apply ol;go_simp;exact gl
 · intros;apply ol;go_simp;exact gl
 · intro w' hg _
   apply ol
   have z:=(i1.drew.grown hg).c_sz
   rw [HZ.out] at z
   go_simp
   exact gl
 · intro w' hg _
   apply ol
   go_simp
   refine (lc _).mono ?_
   rintro e w'' ⟨rfl,rfl⟩
   exact ⟨_,rfl,Grown.refl _,rfl⟩
 · intro w' hg _
   apply ol
   go_simp
   refine (lroom_w κ hκ _).mono ?_
   rintro e w'' ⟨rfl,rfl⟩
   exact ⟨_,rfl,Grown.refl _,rfl⟩
 · intro w' hg _
   apply ol
   go_simp
   exact ⟨Grown.refl _,congrArg (Value.int .i64) (by rw [IntKind.wrap_i64];omega)⟩
 intro w5 hg _
 have m5:=m1.drew.below hg
 have i5:=i1.drew.grown hg
 have v5:=(v1.grown ((Below.refl _ _).drew)).grown hg
 have x5:=x1.drew.grown hg
 have o5 : Only (L.and b) w w5:=o1.drew.trans (Only.ofGrown hg)
 clear hg m1 i1 v1 x1 o1
 obtain ⟨z0,z1,z2,hgl⟩:=len3 hi.lgl
 go_wp2_with (first
  | (go_at_call 87;refine (eadd_in m5 _ _ _ _ _ _ _ _ (6 + t + n * 2 + i * 3 + 1) hn _).mono ?_;rintro e w6 ⟨rfl,m6,o6⟩;have x6:=x5.only o6 hbv1;have v6:=v5.only o6 hbv;have i6:=i5.only o6 hb;have u0:=x6.at0 0 rfl;have o7:=o5.trans (o6.andL (b:=b)))
  | (go_at_call 86;refine (newGive_any x _).mono ?_;rintro e w8 ⟨rfl,rfl⟩;have i8:=i6.grown (grow1 _ (.cells #[.int .i64 0,.int .i64 x,.int .u64 0] 106));have x8:=x6.grown (grow1 _ (.cells #[.int .i64 0,.int .i64 x,.int .u64 0] 106));have v8:=v6.grown (grow1 _ (.cells #[.int .i64 0,.int .i64 x,.int .u64 0] 106));have m8:=m6.alloc (.cells #[.int .i64 0,.int .i64 x,.int .u64 0] 106);have o8:=o7.alloc (.cells #[.int .i64 0,.int .i64 x,.int .u64 0] 106);obtain ⟨p0,k1⟩:=i8.c_gl0;obtain ⟨p1,k2⟩:=i8.c_gl1;obtain ⟨p2,k3⟩:=i8.c_gl2;have k0:=i8.c_nx;have kf:=i8.fz;have i9:=(((i8.set_gl0 (.int .i64 0)).set_gl1 (.int .i64 x)).set_gl2 (.int .u64 0)).set_nx 6;have x9:=(((x8.other hbb1 (o + 14) (.int .i64 0)).other hbb1 (o + 15) (.int .i64 x)).other hbb1 (o + 16) (.int .u64 0)).other hbb1 o (.int .i64 6);have v9:=(((v8.setIn hbb (o + 14) (.int .i64 0)).setIn hbb (o + 15) (.int .i64 x)).setIn hbb (o + 16) (.int .u64 0)).setIn hbb o (.int .i64 6);have u1:=x9.at0 1 rfl;obtain ⟨y0,y1,y2,y3,y4,y5,y6,y7,y8⟩:=id v9)
  | (go_at_call 136;refine (la _).mono ?_;rintro e w9 ⟨rfl,b9⟩;have i10:=i9.grown b9;have t0:=i10.c_nx;have tf:=i10.fz))
 go_end0
 exact ⟨rfl,_,_,_,(((((m8.setIn hb _ _).setIn hb _ _).setIn hb _ _).setIn hb _ _).below b9).setIn hb _ _,(((((o8.set _ _).set _ _).set _ _).set _ _).trans (Only.ofGrown b9)).set _ _,i10.set_nx 7,((((Same.refl.set (by omega) _).set (by omega) _).set (by omega) _).set (by omega) _).set (by omega) _,rfl,by simp [hgl,GvV]⟩
end Go.Proofs.YtlolfmoolgenpaaGreat

namespace Go.Proofs.YtlolfmoolgenpaaGreat
open Go.RowKit
set_option maxRecDepth 20000
structure HandIs (nu : Int) (x : Nat) (G : Int) : Prop where
 lo : 65536 <= nu
 hi : nu <= 4294967295
 x : nu % 65536 = x
 g : nu / 65536 = G
theorem HandIs.call {nu : Int} {x : Nat} {G : Int} (h : HandIs nu x G) (w : World) :
 Calls Tryz.prog 117 #[.int .u64 nu] w fun e w'=>e = .returned (.tuple #[.agg #[.int .i64 x,.int .i64 G],.bool true]) /\ Below w.heap.size w w':=by
 have e:=handle_yes nu w h.lo h.hi
 rwa [h.x,h.g] at e
set_option maxHeartbeats 400000 in
theorem dstep_see {w : World} {L : Loc} {s : Mm} {b o : Nat} {T : TypeId} {cs : Array Value} {t n k m : Nat} {g p r : Int} {a : DV} (h : MemAt w L s) (hi : DpAt w b o T cs a) (who : Int) (hG : Good t n k m g p r) (hlen : arenaLen t n k m <= s.n) {x : Nat} {G : Int} (hh : HandIs a.nu x G) (hx : x < n) (hnx : a.nx = 0) (X : Mm -> DV -> Prop) (d : Bool) (hX : ∀ s' a',X s' a' -> (a'.nx == 7) = d)
 (hc : ∀ w1 : World,MemAt w1 L s -> DpAt w1 b o T cs a -> Calls Tryz.prog 120 #[.pointer (some ⟨b,o,none⟩),.agg #[.int .i64 t,.int .i64 n,.int .i64 k,.int .i64 m,.int .i64 g,.int .i64 p,.int .i64 r,.pointer (some ⟨L.p,0,none⟩),.int .i64 who],.agg #[.int .i64 x,.int .i64 G]] w1 fun e w'=>e = .returned (.tuple #[]) /\ Dact L b o T cs w1 w' X) :
 Calls Tryz.prog 116 #[.pointer (some ⟨b,o,none⟩),.agg #[.int .i64 t,.int .i64 n,.int .i64 k,.int .i64 m,.int .i64 g,.int .i64 p,.int .i64 r,.pointer (some ⟨L.p,0,none⟩),.int .i64 who]] w fun e w'=>e = .returned (.bool d) /\ Dact L b o T cs w w' X:=by
 have hw:=hh.call
 have ds:=fun (w' : World) (m' : MemAt w' L s)=>dstands_any (x:=x) m' hG hlen who
 rw [decide_eq_true (by omega)] at ds
 have i0:=hi.grown (grow1 _ (.cells #[.int .i64 t,.int .i64 n,.int .i64 k,.int .i64 m,.int .i64 g,.int .i64 p,.int .i64 r,.pointer (some ⟨L.p,0,none⟩),.int .i64 who] 27))
 have k0:=i0.c_nx
 have k1:=i0.c_nu
 rw [hnx] at k0
 clear hh
 go_enter Tryz.func116,Tryz.ntmps116
 go_wp2_with (first
  | (go_at_call 117;refine (hw _).mono ?_;rintro e w1 ⟨rfl,b1⟩;have i1:=(i0.grown b1).grown (grow1 _ (.cells #[.int .i64 x,.int .i64 G] 154));have v1:=(BoxV.new.grown b1).grown (grow1 _ (.cells #[.int .i64 x,.int .i64 G] 154));have m1:=((h.alloc _).below b1).alloc (.cells #[.int .i64 x,.int .i64 G] 154);have o1 : Only (L.and b) w (w1.alloc (.cells #[.int .i64 x,.int .i64 G] 154)):=(((Only.refl _ _).alloc _).trans (Only.ofGrown b1)).alloc (.cells #[.int .i64 x,.int .i64 G] 154);have x1:=At.new w1 154 [.int .i64 (x : Nat),.int .i64 G];have u0:=x1.at0 0 rfl;obtain ⟨y0,y1,y2,y3,y4,y5,y6,y7,y8⟩:=id v1)
  | (go_at_call 118;refine (ds _ m1).mono ?_;rintro e w2 ⟨rfl,b2⟩;have i2:=i1.grown b2;have v2:=v1.grown b2;have m2:=m1.below b2;have x2:=x1.grown b2;have o2:=o1.trans (Only.ofGrown b2);have q0:=x2.at0 0 rfl;have q1:=x2.at0 1 rfl;have k2:=i2.c_nx;rw [hnx] at k2;obtain ⟨z0,z1,z2,z3,z4,z5,z6,z7,z8⟩:=id v2;have kf:=i2.fz)
  | (go_at_call 120;refine (hc _ m2 i2).mono ?_;rintro e w3 ⟨rfl,s3,cs3,a3,m3,o3,i3,q3,p3⟩;have k3:=i3.c_nx))
 go_ret
 exact ⟨ret_bool (hX _ _ p3),s3,cs3,a3,m3,o2.trans o3,i3,q3,p3⟩
set_option maxHeartbeats 400000 in
theorem dstep_ask {w : World} {L : Loc} {s : Mm} {b o : Nat} {T : TypeId} {cs : Array Value} {t n k m : Nat} {g p r : Int} {a : DV} (h : MemAt w L s) (hi : DpAt w b o T cs a) (who : Int) (hG : Good t n k m g p r) (hlen : arenaLen t n k m <= s.n) {x : Nat} {G : Int} (hh : HandIs a.nu x G) (hx : x < n) (hnx : a.nx = 1) (X : Mm -> DV -> Prop) (d : Bool) (hX : ∀ s' a',X s' a' -> (a'.nx == 7) = d)
 (hc : ∀ w1 : World,MemAt w1 L s -> DpAt w1 b o T cs a -> Calls Tryz.prog 121 #[.pointer (some ⟨b,o,none⟩),.agg #[.int .i64 t,.int .i64 n,.int .i64 k,.int .i64 m,.int .i64 g,.int .i64 p,.int .i64 r,.pointer (some ⟨L.p,0,none⟩),.int .i64 who],.agg #[.int .i64 x,.int .i64 G]] w1 fun e w'=>e = .returned (.tuple #[]) /\ Dact L b o T cs w1 w' X) :
 Calls Tryz.prog 116 #[.pointer (some ⟨b,o,none⟩),.agg #[.int .i64 t,.int .i64 n,.int .i64 k,.int .i64 m,.int .i64 g,.int .i64 p,.int .i64 r,.pointer (some ⟨L.p,0,none⟩),.int .i64 who]] w fun e w'=>e = .returned (.bool d) /\ Dact L b o T cs w w' X:=by
 have hw:=hh.call
 have ds:=fun (w' : World) (m' : MemAt w' L s)=>dstands_any (x:=x) m' hG hlen who
 rw [decide_eq_true (by omega)] at ds
 have i0:=hi.grown (grow1 _ (.cells #[.int .i64 t,.int .i64 n,.int .i64 k,.int .i64 m,.int .i64 g,.int .i64 p,.int .i64 r,.pointer (some ⟨L.p,0,none⟩),.int .i64 who] 27))
 have k0:=i0.c_nx
 have k1:=i0.c_nu
 rw [hnx] at k0
 clear hh
 go_enter Tryz.func116,Tryz.ntmps116
 go_wp2_with (first
  | (go_at_call 117;refine (hw _).mono ?_;rintro e w1 ⟨rfl,b1⟩;have i1:=(i0.grown b1).grown (grow1 _ (.cells #[.int .i64 x,.int .i64 G] 154));have v1:=(BoxV.new.grown b1).grown (grow1 _ (.cells #[.int .i64 x,.int .i64 G] 154));have m1:=((h.alloc _).below b1).alloc (.cells #[.int .i64 x,.int .i64 G] 154);have o1 : Only (L.and b) w (w1.alloc (.cells #[.int .i64 x,.int .i64 G] 154)):=(((Only.refl _ _).alloc _).trans (Only.ofGrown b1)).alloc (.cells #[.int .i64 x,.int .i64 G] 154);have x1:=At.new w1 154 [.int .i64 (x : Nat),.int .i64 G];have u0:=x1.at0 0 rfl;obtain ⟨y0,y1,y2,y3,y4,y5,y6,y7,y8⟩:=id v1)
  | (go_at_call 118;refine (ds _ m1).mono ?_;rintro e w2 ⟨rfl,b2⟩;have i2:=i1.grown b2;have v2:=v1.grown b2;have m2:=m1.below b2;have x2:=x1.grown b2;have o2:=o1.trans (Only.ofGrown b2);have q0:=x2.at0 0 rfl;have q1:=x2.at0 1 rfl;have k2:=i2.c_nx;rw [hnx] at k2;obtain ⟨z0,z1,z2,z3,z4,z5,z6,z7,z8⟩:=id v2;have kf:=i2.fz)
  | (go_at_call 121;refine (hc _ m2 i2).mono ?_;rintro e w3 ⟨rfl,s3,cs3,a3,m3,o3,i3,q3,p3⟩;have k3:=i3.c_nx))
 go_ret
 exact ⟨ret_bool (hX _ _ p3),s3,cs3,a3,m3,o2.trans o3,i3,q3,p3⟩
set_option maxHeartbeats 400000 in
theorem dstep_mark {w : World} {L : Loc} {s : Mm} {b o : Nat} {T : TypeId} {cs : Array Value} {t n k m : Nat} {g p r : Int} {a : DV} (h : MemAt w L s) (hi : DpAt w b o T cs a) (who : Int) (hG : Good t n k m g p r) (hlen : arenaLen t n k m <= s.n) {x : Nat} {G : Int} (hh : HandIs a.nu x G) (hx : x < n) (hnx : a.nx = 2) (X : Mm -> DV -> Prop) (d : Bool) (hX : ∀ s' a',X s' a' -> (a'.nx == 7) = d)
 (hc : ∀ w1 : World,MemAt w1 L s -> DpAt w1 b o T cs a -> Calls Tryz.prog 122 #[.pointer (some ⟨b,o,none⟩),.agg #[.int .i64 t,.int .i64 n,.int .i64 k,.int .i64 m,.int .i64 g,.int .i64 p,.int .i64 r,.pointer (some ⟨L.p,0,none⟩),.int .i64 who],.agg #[.int .i64 x,.int .i64 G]] w1 fun e w'=>e = .returned (.tuple #[]) /\ Dact L b o T cs w1 w' X) :
 Calls Tryz.prog 116 #[.pointer (some ⟨b,o,none⟩),.agg #[.int .i64 t,.int .i64 n,.int .i64 k,.int .i64 m,.int .i64 g,.int .i64 p,.int .i64 r,.pointer (some ⟨L.p,0,none⟩),.int .i64 who]] w fun e w'=>e = .returned (.bool d) /\ Dact L b o T cs w w' X:=by
 have hw:=hh.call
 have ds:=fun (w' : World) (m' : MemAt w' L s)=>dstands_any (x:=x) m' hG hlen who
 rw [decide_eq_true (by omega)] at ds
 have i0:=hi.grown (grow1 _ (.cells #[.int .i64 t,.int .i64 n,.int .i64 k,.int .i64 m,.int .i64 g,.int .i64 p,.int .i64 r,.pointer (some ⟨L.p,0,none⟩),.int .i64 who] 27))
 have k0:=i0.c_nx
 have k1:=i0.c_nu
 rw [hnx] at k0
 clear hh
 go_enter Tryz.func116,Tryz.ntmps116
 go_wp2_with (first
  | (go_at_call 117;refine (hw _).mono ?_;rintro e w1 ⟨rfl,b1⟩;have i1:=(i0.grown b1).grown (grow1 _ (.cells #[.int .i64 x,.int .i64 G] 154));have v1:=(BoxV.new.grown b1).grown (grow1 _ (.cells #[.int .i64 x,.int .i64 G] 154));have m1:=((h.alloc _).below b1).alloc (.cells #[.int .i64 x,.int .i64 G] 154);have o1 : Only (L.and b) w (w1.alloc (.cells #[.int .i64 x,.int .i64 G] 154)):=(((Only.refl _ _).alloc _).trans (Only.ofGrown b1)).alloc (.cells #[.int .i64 x,.int .i64 G] 154);have x1:=At.new w1 154 [.int .i64 (x : Nat),.int .i64 G];have u0:=x1.at0 0 rfl;obtain ⟨y0,y1,y2,y3,y4,y5,y6,y7,y8⟩:=id v1)
  | (go_at_call 118;refine (ds _ m1).mono ?_;rintro e w2 ⟨rfl,b2⟩;have i2:=i1.grown b2;have v2:=v1.grown b2;have m2:=m1.below b2;have x2:=x1.grown b2;have o2:=o1.trans (Only.ofGrown b2);have q0:=x2.at0 0 rfl;have q1:=x2.at0 1 rfl;have k2:=i2.c_nx;rw [hnx] at k2;obtain ⟨z0,z1,z2,z3,z4,z5,z6,z7,z8⟩:=id v2;have kf:=i2.fz)
  | (go_at_call 122;refine (hc _ m2 i2).mono ?_;rintro e w3 ⟨rfl,s3,cs3,a3,m3,o3,i3,q3,p3⟩;have k3:=i3.c_nx))
 go_ret
 exact ⟨ret_bool (hX _ _ p3),s3,cs3,a3,m3,o2.trans o3,i3,q3,p3⟩
set_option maxHeartbeats 400000 in
theorem dstep_end {w : World} {L : Loc} {s : Mm} {b o : Nat} {T : TypeId} {cs : Array Value} {t n k m : Nat} {g p r : Int} {a : DV} (h : MemAt w L s) (hi : DpAt w b o T cs a) (who : Int) (hG : Good t n k m g p r) (hlen : arenaLen t n k m <= s.n) {x : Nat} {G : Int} (hh : HandIs a.nu x G) (hx : x < n) (hnx : a.nx = 4) (X : Mm -> DV -> Prop) (d : Bool) (hX : ∀ s' a',X s' a' -> (a'.nx == 7) = d)
 (hc : ∀ w1 : World,MemAt w1 L s -> DpAt w1 b o T cs a -> Calls Tryz.prog 124 #[.pointer (some ⟨b,o,none⟩),.agg #[.int .i64 t,.int .i64 n,.int .i64 k,.int .i64 m,.int .i64 g,.int .i64 p,.int .i64 r,.pointer (some ⟨L.p,0,none⟩),.int .i64 who],.agg #[.int .i64 x,.int .i64 G]] w1 fun e w'=>e = .returned (.tuple #[]) /\ Dact L b o T cs w1 w' X) :
 Calls Tryz.prog 116 #[.pointer (some ⟨b,o,none⟩),.agg #[.int .i64 t,.int .i64 n,.int .i64 k,.int .i64 m,.int .i64 g,.int .i64 p,.int .i64 r,.pointer (some ⟨L.p,0,none⟩),.int .i64 who]] w fun e w'=>e = .returned (.bool d) /\ Dact L b o T cs w w' X:=by
 have hw:=hh.call
 have ds:=fun (w' : World) (m' : MemAt w' L s)=>dstands_any (x:=x) m' hG hlen who
 rw [decide_eq_true (by omega)] at ds
 have i0:=hi.grown (grow1 _ (.cells #[.int .i64 t,.int .i64 n,.int .i64 k,.int .i64 m,.int .i64 g,.int .i64 p,.int .i64 r,.pointer (some ⟨L.p,0,none⟩),.int .i64 who] 27))
 have k0:=i0.c_nx
 have k1:=i0.c_nu
 rw [hnx] at k0
 clear hh
 go_enter Tryz.func116,Tryz.ntmps116
 go_wp2_with (first
  | (go_at_call 117;refine (hw _).mono ?_;rintro e w1 ⟨rfl,b1⟩;have i1:=(i0.grown b1).grown (grow1 _ (.cells #[.int .i64 x,.int .i64 G] 154));have v1:=(BoxV.new.grown b1).grown (grow1 _ (.cells #[.int .i64 x,.int .i64 G] 154));have m1:=((h.alloc _).below b1).alloc (.cells #[.int .i64 x,.int .i64 G] 154);have o1 : Only (L.and b) w (w1.alloc (.cells #[.int .i64 x,.int .i64 G] 154)):=(((Only.refl _ _).alloc _).trans (Only.ofGrown b1)).alloc (.cells #[.int .i64 x,.int .i64 G] 154);have x1:=At.new w1 154 [.int .i64 (x : Nat),.int .i64 G];have u0:=x1.at0 0 rfl;obtain ⟨y0,y1,y2,y3,y4,y5,y6,y7,y8⟩:=id v1)
  | (go_at_call 118;refine (ds _ m1).mono ?_;rintro e w2 ⟨rfl,b2⟩;have i2:=i1.grown b2;have v2:=v1.grown b2;have m2:=m1.below b2;have x2:=x1.grown b2;have o2:=o1.trans (Only.ofGrown b2);have q0:=x2.at0 0 rfl;have q1:=x2.at0 1 rfl;have k2:=i2.c_nx;rw [hnx] at k2;obtain ⟨z0,z1,z2,z3,z4,z5,z6,z7,z8⟩:=id v2;have kf:=i2.fz)
  | (go_at_call 124;refine (hc _ m2 i2).mono ?_;rintro e w3 ⟨rfl,s3,cs3,a3,m3,o3,i3,q3,p3⟩;have k3:=i3.c_nx))
 go_ret
 exact ⟨ret_bool (hX _ _ p3),s3,cs3,a3,m3,o2.trans o3,i3,q3,p3⟩
set_option maxHeartbeats 400000 in
theorem dstep_count {w : World} {L : Loc} {s : Mm} {b o : Nat} {T : TypeId} {cs : Array Value} {t n k m : Nat} {g p r : Int} {a : DV} (h : MemAt w L s) (hi : DpAt w b o T cs a) (who : Int) (hG : Good t n k m g p r) (hlen : arenaLen t n k m <= s.n) {x : Nat} {G : Int} (hh : HandIs a.nu x G) (hx : x < n) (hnx : a.nx = 5) (X : Mm -> DV -> Prop) (d : Bool) (hX : ∀ s' a',X s' a' -> (a'.nx == 7) = d)
 (hc : ∀ w1 : World,MemAt w1 L s -> DpAt w1 b o T cs a -> Calls Tryz.prog 125 #[.pointer (some ⟨b,o,none⟩),.agg #[.int .i64 t,.int .i64 n,.int .i64 k,.int .i64 m,.int .i64 g,.int .i64 p,.int .i64 r,.pointer (some ⟨L.p,0,none⟩),.int .i64 who],.agg #[.int .i64 x,.int .i64 G]] w1 fun e w'=>e = .returned (.tuple #[]) /\ Dact L b o T cs w1 w' X) :
 Calls Tryz.prog 116 #[.pointer (some ⟨b,o,none⟩),.agg #[.int .i64 t,.int .i64 n,.int .i64 k,.int .i64 m,.int .i64 g,.int .i64 p,.int .i64 r,.pointer (some ⟨L.p,0,none⟩),.int .i64 who]] w fun e w'=>e = .returned (.bool d) /\ Dact L b o T cs w w' X:=by
 have hw:=hh.call
 have ds:=fun (w' : World) (m' : MemAt w' L s)=>dstands_any (x:=x) m' hG hlen who
 rw [decide_eq_true (by omega)] at ds
 have i0:=hi.grown (grow1 _ (.cells #[.int .i64 t,.int .i64 n,.int .i64 k,.int .i64 m,.int .i64 g,.int .i64 p,.int .i64 r,.pointer (some ⟨L.p,0,none⟩),.int .i64 who] 27))
 have k0:=i0.c_nx
 have k1:=i0.c_nu
 rw [hnx] at k0
 clear hh
 go_enter Tryz.func116,Tryz.ntmps116
 go_wp2_with (first
  | (go_at_call 117;refine (hw _).mono ?_;rintro e w1 ⟨rfl,b1⟩;have i1:=(i0.grown b1).grown (grow1 _ (.cells #[.int .i64 x,.int .i64 G] 154));have v1:=(BoxV.new.grown b1).grown (grow1 _ (.cells #[.int .i64 x,.int .i64 G] 154));have m1:=((h.alloc _).below b1).alloc (.cells #[.int .i64 x,.int .i64 G] 154);have o1 : Only (L.and b) w (w1.alloc (.cells #[.int .i64 x,.int .i64 G] 154)):=(((Only.refl _ _).alloc _).trans (Only.ofGrown b1)).alloc (.cells #[.int .i64 x,.int .i64 G] 154);have x1:=At.new w1 154 [.int .i64 (x : Nat),.int .i64 G];have u0:=x1.at0 0 rfl;obtain ⟨y0,y1,y2,y3,y4,y5,y6,y7,y8⟩:=id v1)
  | (go_at_call 118;refine (ds _ m1).mono ?_;rintro e w2 ⟨rfl,b2⟩;have i2:=i1.grown b2;have v2:=v1.grown b2;have m2:=m1.below b2;have x2:=x1.grown b2;have o2:=o1.trans (Only.ofGrown b2);have q0:=x2.at0 0 rfl;have q1:=x2.at0 1 rfl;have k2:=i2.c_nx;rw [hnx] at k2;obtain ⟨z0,z1,z2,z3,z4,z5,z6,z7,z8⟩:=id v2;have kf:=i2.fz)
  | (go_at_call 125;refine (hc _ m2 i2).mono ?_;rintro e w3 ⟨rfl,s3,cs3,a3,m3,o3,i3,q3,p3⟩;have k3:=i3.c_nx))
 go_ret
 exact ⟨ret_bool (hX _ _ p3),s3,cs3,a3,m3,o2.trans o3,i3,q3,p3⟩
theorem dstep_out {w : World} {L : Loc} {s : Mm} {b o : Nat} {T : TypeId} {cs : Array Value} {t n k m : Nat} {g p r : Int} {a : DV} (h : MemAt w L s) (hi : DpAt w b o T cs a) (who : Int) (hG : Good t n k m g p r) (hlen : arenaLen t n k m <= s.n) {x : Nat} {G : Int} (hh : HandIs a.nu x G) (hb : ¬ L.has b) (hx : n <= x) (hnx : a.nx = 0) {σ : Nat} (hσ : s.steps = σ) :
 Calls Tryz.prog 116 #[.pointer (some ⟨b,o,none⟩),.agg #[.int .i64 t,.int .i64 n,.int .i64 k,.int .i64 m,.int .i64 g,.int .i64 p,.int .i64 r,.pointer (some ⟨L.p,0,none⟩),.int .i64 who]] w fun e w'=>e = .returned (.bool true) /\ Dact L b o T cs w w' (fun s' a'=>s' = s /\ a' = { a with nx:=7,E:=3,H:=0,V:=0,St:=σ }):=by
 have hnx5 : a.nx < 5:=by omega
 have hw:=hh.call
 have ds:=fun (w' : World) (m' : MemAt w' L s)=>dstands_any (x:=x) m' hG hlen who
 rw [decide_eq_false (by omega)] at ds
 have i0:=hi.grown (grow1 _ (.cells #[.int .i64 t,.int .i64 n,.int .i64 k,.int .i64 m,.int .i64 g,.int .i64 p,.int .i64 r,.pointer (some ⟨L.p,0,none⟩),.int .i64 who] 27))
 have k0:=i0.c_nx
 have k1:=i0.c_nu
 rw [hnx] at k0
 clear hh
 go_enter Tryz.func116,Tryz.ntmps116
 go_wp2_with (first
  | (go_at_call 117;refine (hw _).mono ?_;rintro e w1 ⟨rfl,b1⟩;have i1:=(i0.grown b1).grown (grow1 _ (.cells #[.int .i64 x,.int .i64 G] 154));have v1:=(BoxV.new.grown b1).grown (grow1 _ (.cells #[.int .i64 x,.int .i64 G] 154));have m1:=((h.alloc _).below b1).alloc (.cells #[.int .i64 x,.int .i64 G] 154);have o1 : Only (L.and b) w (w1.alloc (.cells #[.int .i64 x,.int .i64 G] 154)):=(((Only.refl _ _).alloc _).trans (Only.ofGrown b1)).alloc (.cells #[.int .i64 x,.int .i64 G] 154);have x1:=At.new w1 154 [.int .i64 (x : Nat),.int .i64 G];have u0:=x1.at0 0 rfl;obtain ⟨y0,y1,y2,y3,y4,y5,y6,y7,y8⟩:=id v1)
  | (go_at_call 118;refine (ds _ m1).mono ?_;rintro e w2 ⟨rfl,b2⟩;have i2:=i1.grown b2;have v2:=v1.grown b2;have m2:=m1.below b2;have x2:=x1.grown b2;have o2:=o1.trans (Only.ofGrown b2);have q0:=x2.at0 0 rfl;have q1:=x2.at0 1 rfl;obtain ⟨z0,z1,z2,z3,z4,z5,z6,z7,z8⟩:=id v2;have kf:=i2.fz)
  | (go_at_call 119;refine (drefuse m2 hb i2 who hnx5 σ hσ).mono ?_;rintro e w3 ⟨rfl,s3,cs3,a3,m3,o3,i3,q3,rfl,rfl⟩))
 go_ret
 exact ⟨rfl,_,cs3,_,m3,o2.trans o3,i3,q3,rfl,rfl⟩
theorem dstep_none {w : World} {L : Loc} {s : Mm} {b o : Nat} {T : TypeId} {cs : Array Value} {t n k m : Nat} {g p r : Int} {a : DV} (h : MemAt w L s) (hb : ¬ L.has b) (hi : DpAt w b o T cs a) (who : Int) (h0 : 0 <= a.nu) (h1 : a.nu <= 18446744073709551615) (hn : a.nu < 65536 \/ 4294967296 <= a.nu) (hnx : a.nx = 0) {σ : Nat} (hσ : s.steps = σ) :
 Calls Tryz.prog 116 #[.pointer (some ⟨b,o,none⟩),.agg #[.int .i64 t,.int .i64 n,.int .i64 k,.int .i64 m,.int .i64 g,.int .i64 p,.int .i64 r,.pointer (some ⟨L.p,0,none⟩),.int .i64 who]] w fun e w'=>e = .returned (.bool true) /\ Dact L b o T cs w w' (fun s' a'=>s' = s /\ a' = { a with nx:=7,E:=3,H:=0,V:=0,St:=σ }):=by
 have hnx5 : a.nx < 5:=by omega
 have hw:=fun w=>handle_no a.nu w h0 h1 hn
 have i0:=hi.grown (grow1 _ (.cells #[.int .i64 t,.int .i64 n,.int .i64 k,.int .i64 m,.int .i64 g,.int .i64 p,.int .i64 r,.pointer (some ⟨L.p,0,none⟩),.int .i64 who] 27))
 have k0:=i0.c_nx
 have k1:=i0.c_nu
 rw [hnx] at k0
 clear hn
 go_enter Tryz.func116,Tryz.ntmps116
 go_wp2_with (first
  | (go_at_call 117;refine (hw _).mono ?_;rintro e w1 ⟨rfl,b1⟩;have i1:=(i0.grown b1).grown (grow1 _ (.cells #[.int .i64 0,.int .i64 0] 154));have v1:=(BoxV.new.grown b1).grown (grow1 _ (.cells #[.int .i64 0,.int .i64 0] 154));have m1:=((h.alloc _).below b1).alloc (.cells #[.int .i64 0,.int .i64 0] 154);have o1 : Only (L.and b) w (w1.alloc (.cells #[.int .i64 0,.int .i64 0] 154)):=(((Only.refl _ _).alloc _).trans (Only.ofGrown b1)).alloc (.cells #[.int .i64 0,.int .i64 0] 154);have x1:=At.new w1 154 [.int .i64 0,.int .i64 0];have u0:=x1.at0 0 rfl;obtain ⟨y0,y1,y2,y3,y4,y5,y6,y7,y8⟩:=id v1)
  | (go_at_call 119;refine (drefuse m1 hb i1 who hnx5 σ hσ).mono ?_;rintro e w3 ⟨rfl,s3,cs3,a3,m3,o3,i3,q3,rfl,rfl⟩))
 go_ret
 exact ⟨rfl,_,cs3,_,m3,o1.trans o3,i3,q3,rfl,rfl⟩
set_option maxHeartbeats 400000 in
theorem dstep_help_on {w : World} {L : Loc} {s : Mm} {b o : Nat} {T : TypeId} {cs : Array Value} {t n k m : Nat} {g p r : Int} {a : DV} (h : MemAt w L s) (hi : DpAt w b o T cs a) (who : Int) (hG : Good t n k m g p r) (hlen : arenaLen t n k m <= s.n) {x : Nat} {G : Int} (hh : HandIs a.nu x G) (hx : x < n) (hnx : a.nx = 3) (X : Mm -> List Value -> Prop) (hX : ∀ s' l',X s' l' -> l'.length = 8)
 (hc : ∀ w1 : World,MemAt w1 L s -> At w1 b (o + 6) T cs a.hl -> Calls Tryz.prog 123 #[.pointer (some ⟨b,o + 6,none⟩),.agg #[.int .i64 t,.int .i64 n,.int .i64 k,.int .i64 m,.int .i64 g,.int .i64 p,.int .i64 r,.pointer (some ⟨L.p,0,none⟩),.int .i64 who]] w1 fun e w'=>e = .returned (.bool false) /\ Hact L b (o + 6) T cs w1 w' X) :
 Calls Tryz.prog 116 #[.pointer (some ⟨b,o,none⟩),.agg #[.int .i64 t,.int .i64 n,.int .i64 k,.int .i64 m,.int .i64 g,.int .i64 p,.int .i64 r,.pointer (some ⟨L.p,0,none⟩),.int .i64 who]] w fun e w'=>e = .returned (.bool false) /\ Dact L b o T cs w w' (fun s' a'=>∃ l',X s' l' /\ a' = { a with hl:=l' }):=by
 have hw:=hh.call
 have ds:=fun (w' : World) (m' : MemAt w' L s)=>dstands_any (x:=x) m' hG hlen who
 rw [decide_eq_true (by omega)] at ds
 have i0:=hi.grown (grow1 _ (.cells #[.int .i64 t,.int .i64 n,.int .i64 k,.int .i64 m,.int .i64 g,.int .i64 p,.int .i64 r,.pointer (some ⟨L.p,0,none⟩),.int .i64 who] 27))
 have k0:=i0.c_nx
 have k1:=i0.c_nu
 rw [hnx] at k0
 clear hh
 have hbv : ¬ L.has w.heap.size:=fun hh=>by have:=h.lt _ hh;omega
 have hbb : ¬ w.heap.size = b:=fun hh=>by have:=hi.lt;omega
 have hbv1 : ¬ L.has (w.heap.size + 1):=fun hh=>by have:=h.lt _ hh;omega
 have hbb1 : ¬ w.heap.size + 1 = b:=fun hh=>by have:=hi.lt;omega
 go_enter Tryz.func116,Tryz.ntmps116
 go_wp2_with (first
  | (go_at_call 117;refine (hw _).mono ?_;rintro e w1 ⟨rfl,b1⟩;have i1:=(i0.grown b1).grown (grow1 _ (.cells #[.int .i64 x,.int .i64 G] 154));have v1:=(BoxV.new.grown b1).grown (grow1 _ (.cells #[.int .i64 x,.int .i64 G] 154));have m1:=((h.alloc _).below b1).alloc (.cells #[.int .i64 x,.int .i64 G] 154);have o1 : Only (L.and b) w (w1.alloc (.cells #[.int .i64 x,.int .i64 G] 154)):=(((Only.refl _ _).alloc _).trans (Only.ofGrown b1)).alloc (.cells #[.int .i64 x,.int .i64 G] 154);have x1:=At.new w1 154 [.int .i64 (x : Nat),.int .i64 G];have u0:=x1.at0 0 rfl;obtain ⟨y0,y1,y2,y3,y4,y5,y6,y7,y8⟩:=id v1)
  | (go_at_call 118;refine (ds _ m1).mono ?_;rintro e w2 ⟨rfl,b2⟩;have i2:=i1.grown b2;have v2:=v1.grown b2;have m2:=m1.below b2;have x2:=x1.grown b2;have o2:=o1.trans (Only.ofGrown b2);have q0:=x2.at0 0 rfl;have q1:=x2.at0 1 rfl;have k2:=i2.c_nx;rw [hnx] at k2;obtain ⟨z0,z1,z2,z3,z4,z5,z6,z7,z8⟩:=id v2;have kf:=i2.fz))
 refine wp_over (fun W=>MemAt W L s /\ DpAt W b o T cs a /\ BoxV W w.heap.size t n k m g p r L.p who /\ Only (L.and b) w W) ⟨m2,i2,v2,o2⟩ ?_
 clear b1 b2 i0 i1 i2 v1 v2 m1 m2 x1 x2 o1 o2 u0 q0 q1 k0 k1 k2 kf y0 z0 y1 z1 y2 z2 y3 z3 y4 z4 y5 z5 y6 z6 y7 z7 y8 z8
 rintro W ⟨m1,i1,v1,o1⟩
 refine wp_region_rely_tail Grown 4 [.val (.pointer (some ⟨b,o,none⟩)),.val (.pointer (some ⟨b,o,none⟩)),.val (.pointer (some ⟨b,o + 6,none⟩)),.val (.agg #[.int .i64 t,.int .i64 n,.int .i64 k,.int .i64 m,.int .i64 g,.int .i64 p,.int .i64 r,.pointer (some ⟨L.p,0,none⟩),.int .i64 who])] (by kernel_rfl) Grown.refl Grown.trans (by decide) (by kernel_rfl) (by kernel_rfl) (by kernel_rfl) (by kernel_rfl) (by kernel_rfl) (by kernel_rfl) ?_
 simp only [List.take_succ_cons,List.take_zero,relyAll,Act.put,List.setIfInBounds_toArray,List.set_cons_zero,List.set_cons_succ]
 refine ⟨?_,?_,?_,?_,?_⟩
 · intros;apply ol;go_simp;exact gl
 · intros;apply ol;go_simp;exact gl
 · intros;apply ol;go_simp;exact gl
 · intro w' hg _
   apply ol
   obtain ⟨y0,y1,y2,y3,y4,y5,y6,y7,y8⟩:=(v1.grown ((Below.refl _ _).drew)).grown hg
   go_simp
   exact gl
 intro w5 hg _
 have m5:=m1.drew.below hg
 have i5:=i1.drew.grown hg
 have o5 : Only (L.and b) w w5:=o1.drew.trans (Only.ofGrown hg)
 clear hg m1 i1 v1 o1
 go_wp2_with (go_at_call 123;refine (hc _ m5 i5.hlAt).mono ?_;rintro e w6 ⟨rfl,s6,cs6,l6,m6,o6,i6,q6,p6⟩;have i7:=i5.step_hl i6 (hX _ _ p6) q6;have o7:=o5.trans o6;have q7 : Same o 21 cs cs6:=q6.wide (by omega) (by omega);have k0:=i7.c_nx;rw [show ({ a with hl:=l6 } : DV).nx = 3 from hnx] at k0;have kf:=i7.fz)
 go_ret
 exact ⟨rfl,s6,cs6,_,m6,o7,i7,q7,l6,p6,rfl⟩
set_option maxHeartbeats 400000 in
theorem dstep_help_done {w : World} {L : Loc} {s : Mm} {b o : Nat} {T : TypeId} {cs : Array Value} {t n k m : Nat} {g p r : Int} {a : DV} (h : MemAt w L s) (hi : DpAt w b o T cs a) (who : Int) (hG : Good t n k m g p r) (hlen : arenaLen t n k m <= s.n) {x : Nat} {G : Int} (hh : HandIs a.nu x G) (hb : ¬ L.has b) (hx : x < n) (hnx : a.nx = 3) (X : Mm -> List Value -> Prop) (hX : ∀ s' l',X s' l' -> l'.length = 8)
 (hc : ∀ w1 : World,MemAt w1 L s -> At w1 b (o + 6) T cs a.hl -> Calls Tryz.prog 123 #[.pointer (some ⟨b,o + 6,none⟩),.agg #[.int .i64 t,.int .i64 n,.int .i64 k,.int .i64 m,.int .i64 g,.int .i64 p,.int .i64 r,.pointer (some ⟨L.p,0,none⟩),.int .i64 who]] w1 fun e w'=>e = .returned (.bool true) /\ Hact L b (o + 6) T cs w1 w' X) :
 Calls Tryz.prog 116 #[.pointer (some ⟨b,o,none⟩),.agg #[.int .i64 t,.int .i64 n,.int .i64 k,.int .i64 m,.int .i64 g,.int .i64 p,.int .i64 r,.pointer (some ⟨L.p,0,none⟩),.int .i64 who]] w fun e w'=>e = .returned (.bool false) /\ Dact L b o T cs w w' (fun s' a'=>∃ l',X s' l' /\ a' = { a with hl:=l',nx:=0 }):=by
 have hw:=hh.call
 have ds:=fun (w' : World) (m' : MemAt w' L s)=>dstands_any (x:=x) m' hG hlen who
 rw [decide_eq_true (by omega)] at ds
 have i0:=hi.grown (grow1 _ (.cells #[.int .i64 t,.int .i64 n,.int .i64 k,.int .i64 m,.int .i64 g,.int .i64 p,.int .i64 r,.pointer (some ⟨L.p,0,none⟩),.int .i64 who] 27))
 have k0:=i0.c_nx
 have k1:=i0.c_nu
 rw [hnx] at k0
 clear hh
 have hbv : ¬ L.has w.heap.size:=fun hh=>by have:=h.lt _ hh;omega
 have hbb : ¬ w.heap.size = b:=fun hh=>by have:=hi.lt;omega
 have hbv1 : ¬ L.has (w.heap.size + 1):=fun hh=>by have:=h.lt _ hh;omega
 have hbb1 : ¬ w.heap.size + 1 = b:=fun hh=>by have:=hi.lt;omega
 go_enter Tryz.func116,Tryz.ntmps116
 go_wp2_with (first
  | (go_at_call 117;refine (hw _).mono ?_;rintro e w1 ⟨rfl,b1⟩;have i1:=(i0.grown b1).grown (grow1 _ (.cells #[.int .i64 x,.int .i64 G] 154));have v1:=(BoxV.new.grown b1).grown (grow1 _ (.cells #[.int .i64 x,.int .i64 G] 154));have m1:=((h.alloc _).below b1).alloc (.cells #[.int .i64 x,.int .i64 G] 154);have o1 : Only (L.and b) w (w1.alloc (.cells #[.int .i64 x,.int .i64 G] 154)):=(((Only.refl _ _).alloc _).trans (Only.ofGrown b1)).alloc (.cells #[.int .i64 x,.int .i64 G] 154);have x1:=At.new w1 154 [.int .i64 (x : Nat),.int .i64 G];have u0:=x1.at0 0 rfl;obtain ⟨y0,y1,y2,y3,y4,y5,y6,y7,y8⟩:=id v1)
  | (go_at_call 118;refine (ds _ m1).mono ?_;rintro e w2 ⟨rfl,b2⟩;have i2:=i1.grown b2;have v2:=v1.grown b2;have m2:=m1.below b2;have x2:=x1.grown b2;have o2:=o1.trans (Only.ofGrown b2);have q0:=x2.at0 0 rfl;have q1:=x2.at0 1 rfl;have k2:=i2.c_nx;rw [hnx] at k2;obtain ⟨z0,z1,z2,z3,z4,z5,z6,z7,z8⟩:=id v2;have kf:=i2.fz))
 refine wp_over (fun W=>MemAt W L s /\ DpAt W b o T cs a /\ BoxV W w.heap.size t n k m g p r L.p who /\ Only (L.and b) w W) ⟨m2,i2,v2,o2⟩ ?_
 clear b1 b2 i0 i1 i2 v1 v2 m1 m2 x1 x2 o1 o2 u0 q0 q1 k0 k1 k2 kf y0 z0 y1 z1 y2 z2 y3 z3 y4 z4 y5 z5 y6 z6 y7 z7 y8 z8
 rintro W ⟨m1,i1,v1,o1⟩
 refine wp_region_rely_tail Grown 4 [.val (.pointer (some ⟨b,o,none⟩)),.val (.pointer (some ⟨b,o,none⟩)),.val (.pointer (some ⟨b,o + 6,none⟩)),.val (.agg #[.int .i64 t,.int .i64 n,.int .i64 k,.int .i64 m,.int .i64 g,.int .i64 p,.int .i64 r,.pointer (some ⟨L.p,0,none⟩),.int .i64 who])] (by kernel_rfl) Grown.refl Grown.trans (by decide) (by kernel_rfl) (by kernel_rfl) (by kernel_rfl) (by kernel_rfl) (by kernel_rfl) (by kernel_rfl) ?_
 simp only [List.take_succ_cons,List.take_zero,relyAll,Act.put,List.setIfInBounds_toArray,List.set_cons_zero,List.set_cons_succ]
 refine ⟨?_,?_,?_,?_,?_⟩
 · intros;apply ol;go_simp;exact gl
 · intros;apply ol;go_simp;exact gl
 · intros;apply ol;go_simp;exact gl
 · intro w' hg _
   apply ol
   obtain ⟨y0,y1,y2,y3,y4,y5,y6,y7,y8⟩:=(v1.grown ((Below.refl _ _).drew)).grown hg
   go_simp
   exact gl
 intro w5 hg _
 have m5:=m1.drew.below hg
 have i5:=i1.drew.grown hg
 have o5 : Only (L.and b) w w5:=o1.drew.trans (Only.ofGrown hg)
 clear hg m1 i1 v1 o1
 go_wp2_with (go_at_call 123;refine (hc _ m5 i5.hlAt).mono ?_;rintro e w6 ⟨rfl,s6,cs6,l6,m6,o6,i6,q6,p6⟩;have i7:=i5.step_hl i6 (hX _ _ p6) q6;have o7:=o5.trans o6;have q7 : Same o 21 cs cs6:=q6.wide (by omega) (by omega);have k0:=i7.c_nx;rw [show ({ a with hl:=l6 } : DV).nx = 3 from hnx] at k0;have kf:=i7.fz)
 go_ret
 exact ⟨rfl,s6,_,_,m6.setIn hb _ _,o7.set _ _,i7.set_nx 0,q7.set (by omega) _,l6,p6,rfl⟩
set_option maxHeartbeats 400000 in
theorem dstep_give_on {w : World} {L : Loc} {s : Mm} {b o : Nat} {T : TypeId} {cs : Array Value} {t n k m : Nat} {g p r : Int} {a : DV} (h : MemAt w L s) (hi : DpAt w b o T cs a) (who : Int) (hG : Good t n k m g p r) (hlen : arenaLen t n k m <= s.n) {x : Nat} {G : Int} (hh : HandIs a.nu x G) (hx : x < n) (hnx : a.nx = 6) {σ c c' : Nat} {lk lk' : Nat -> Nat} {F F' : List Nat} {γ γ' : Gv}
 (hc : ∀ w1 : World,MemAt w1 L s -> At w1 b (o + 14) T cs a.gl -> Calls Tryz.prog 91 #[.pointer (some ⟨b,o + 14,none⟩),.agg #[.int .i64 t,.int .i64 n,.int .i64 k,.int .i64 m,.int .i64 g,.int .i64 p,.int .i64 r,.pointer (some ⟨L.p,0,none⟩),.int .i64 who]] w1 fun e w'=>e = .returned (.bool false) /\ ∃ s' cs',Gave w1 L s b (o + 14) T cs t n σ c lk F x who γ w' s' cs' c' lk' F' γ') :
 Calls Tryz.prog 116 #[.pointer (some ⟨b,o,none⟩),.agg #[.int .i64 t,.int .i64 n,.int .i64 k,.int .i64 m,.int .i64 g,.int .i64 p,.int .i64 r,.pointer (some ⟨L.p,0,none⟩),.int .i64 who]] w fun e w'=>e = .returned (.bool false) /\ Dact L b o T cs w w' (fun s' a'=>Pile t n s' (σ + 1) c' lk' F' /\ (∃ v,s' = (s.by who).step (γ.at t x) v) /\ γ'.good n c' lk' F' x /\ ∃ l',γ'.cells x l' /\ a' = { a with gl:=l' }):=by
 have hw:=hh.call
 have ds:=fun (w' : World) (m' : MemAt w' L s)=>dstands_any (x:=x) m' hG hlen who
 rw [decide_eq_true (by omega)] at ds
 have i0:=hi.grown (grow1 _ (.cells #[.int .i64 t,.int .i64 n,.int .i64 k,.int .i64 m,.int .i64 g,.int .i64 p,.int .i64 r,.pointer (some ⟨L.p,0,none⟩),.int .i64 who] 27))
 have k0:=i0.c_nx
 have k1:=i0.c_nu
 rw [hnx] at k0
 clear hh
 have hbv : ¬ L.has w.heap.size:=fun hh=>by have:=h.lt _ hh;omega
 have hbb : ¬ w.heap.size = b:=fun hh=>by have:=hi.lt;omega
 have hbv1 : ¬ L.has (w.heap.size + 1):=fun hh=>by have:=h.lt _ hh;omega
 have hbb1 : ¬ w.heap.size + 1 = b:=fun hh=>by have:=hi.lt;omega
 go_enter Tryz.func116,Tryz.ntmps116
 go_wp2_with (first
  | (go_at_call 117;refine (hw _).mono ?_;rintro e w1 ⟨rfl,b1⟩;have i1:=(i0.grown b1).grown (grow1 _ (.cells #[.int .i64 x,.int .i64 G] 154));have v1:=(BoxV.new.grown b1).grown (grow1 _ (.cells #[.int .i64 x,.int .i64 G] 154));have m1:=((h.alloc _).below b1).alloc (.cells #[.int .i64 x,.int .i64 G] 154);have o1 : Only (L.and b) w (w1.alloc (.cells #[.int .i64 x,.int .i64 G] 154)):=(((Only.refl _ _).alloc _).trans (Only.ofGrown b1)).alloc (.cells #[.int .i64 x,.int .i64 G] 154);have x1:=At.new w1 154 [.int .i64 (x : Nat),.int .i64 G];have u0:=x1.at0 0 rfl;obtain ⟨y0,y1,y2,y3,y4,y5,y6,y7,y8⟩:=id v1)
  | (go_at_call 118;refine (ds _ m1).mono ?_;rintro e w2 ⟨rfl,b2⟩;have i2:=i1.grown b2;have v2:=v1.grown b2;have m2:=m1.below b2;have x2:=x1.grown b2;have o2:=o1.trans (Only.ofGrown b2);have q0:=x2.at0 0 rfl;have q1:=x2.at0 1 rfl;have k2:=i2.c_nx;rw [hnx] at k2;obtain ⟨z0,z1,z2,z3,z4,z5,z6,z7,z8⟩:=id v2;have kf:=i2.fz))
 refine wp_over (fun W=>MemAt W L s /\ DpAt W b o T cs a /\ BoxV W w.heap.size t n k m g p r L.p who /\ Only (L.and b) w W) ⟨m2,i2,v2,o2⟩ ?_
 clear b1 b2 i0 i1 i2 v1 v2 m1 m2 x1 x2 o1 o2 u0 q0 q1 k0 k1 k2 kf y0 z0 y1 z1 y2 z2 y3 z3 y4 z4 y5 z5 y6 z6 y7 z7 y8 z8
 rintro W ⟨m1,i1,v1,o1⟩
 refine wp_region_rely_tail Grown 4 [.val (.pointer (some ⟨b,o,none⟩)),.val (.pointer (some ⟨b,o,none⟩)),.val (.pointer (some ⟨b,o + 14,none⟩)),.val (.agg #[.int .i64 t,.int .i64 n,.int .i64 k,.int .i64 m,.int .i64 g,.int .i64 p,.int .i64 r,.pointer (some ⟨L.p,0,none⟩),.int .i64 who])] (by kernel_rfl) Grown.refl Grown.trans (by decide) (by kernel_rfl) (by kernel_rfl) (by kernel_rfl) (by kernel_rfl) (by kernel_rfl) (by kernel_rfl) ?_
 simp only [List.take_succ_cons,List.take_zero,relyAll,Act.put,List.setIfInBounds_toArray,List.set_cons_zero,List.set_cons_succ]
 refine ⟨?_,?_,?_,?_,?_⟩
 · intros;apply ol;go_simp;exact gl
 · intros;apply ol;go_simp;exact gl
 · intros;apply ol;go_simp;exact gl
 · intro w' hg _
   apply ol
   obtain ⟨y0,y1,y2,y3,y4,y5,y6,y7,y8⟩:=(v1.grown ((Below.refl _ _).drew)).grown hg
   go_simp
   exact gl
 intro w5 hg _
 have m5:=m1.drew.below hg
 have i5:=i1.drew.grown hg
 have o5 : Only (L.and b) w w5:=o1.drew.trans (Only.ofGrown hg)
 clear hg m1 i1 v1 o1
 go_wp2_with (go_at_call 91;refine (hc _ m5 i5.glAt).mono ?_;rintro e w6 ⟨rfl,s6,cs6,P⟩;obtain ⟨l6,i6,q6⟩:=P.a;have i7:=i5.step_gl i6 (Gv.cells_len q6) P.same;have o7:=o5.trans P.only;have q7 : Same o 21 cs cs6:=P.same.wide (by omega) (by omega);have k0:=i7.c_nx;rw [show ({ a with gl:=l6 } : DV).nx = 6 from hnx] at k0;have kf:=i7.fz)
 go_ret
 exact ⟨rfl,s6,cs6,_,P.m,o7,i7,q7,P.p,P.st,P.good,l6,q6,rfl⟩
set_option maxHeartbeats 400000 in
theorem dstep_give_over {w : World} {L : Loc} {s : Mm} {b o : Nat} {T : TypeId} {cs : Array Value} {t n k m : Nat} {g p r : Int} {a : DV} (h : MemAt w L s) (hi : DpAt w b o T cs a) (who : Int) (hG : Good t n k m g p r) (hlen : arenaLen t n k m <= s.n) {x : Nat} {G : Int} (hh : HandIs a.nu x G) (hb : ¬ L.has b) (hx : x < n) (hnx : a.nx = 6) {σ c c' : Nat} {lk lk' : Nat -> Nat} {F F' : List Nat} {γ γ' : Gv}
 (hc : ∀ w1 : World,MemAt w1 L s -> At w1 b (o + 14) T cs a.gl -> Calls Tryz.prog 91 #[.pointer (some ⟨b,o + 14,none⟩),.agg #[.int .i64 t,.int .i64 n,.int .i64 k,.int .i64 m,.int .i64 g,.int .i64 p,.int .i64 r,.pointer (some ⟨L.p,0,none⟩),.int .i64 who]] w1 fun e w'=>e = .returned (.bool true) /\ ∃ s' cs',Gave w1 L s b (o + 14) T cs t n σ c lk F x who γ w' s' cs' c' lk' F' γ') :
 Calls Tryz.prog 116 #[.pointer (some ⟨b,o,none⟩),.agg #[.int .i64 t,.int .i64 n,.int .i64 k,.int .i64 m,.int .i64 g,.int .i64 p,.int .i64 r,.pointer (some ⟨L.p,0,none⟩),.int .i64 who]] w fun e w'=>e = .returned (.bool true) /\ Dact L b o T cs w w' (fun s' a'=>Pile t n s' (σ + 1) c' lk' F' /\ (∃ v,s' = (s.by who).step (γ.at t x) v) /\ γ'.good n c' lk' F' x /\ ∃ l',γ'.cells x l' /\ a' = { a with gl:=l',nx:=7 }):=by
 have hw:=hh.call
 have ds:=fun (w' : World) (m' : MemAt w' L s)=>dstands_any (x:=x) m' hG hlen who
 rw [decide_eq_true (by omega)] at ds
 have i0:=hi.grown (grow1 _ (.cells #[.int .i64 t,.int .i64 n,.int .i64 k,.int .i64 m,.int .i64 g,.int .i64 p,.int .i64 r,.pointer (some ⟨L.p,0,none⟩),.int .i64 who] 27))
 have k0:=i0.c_nx
 have k1:=i0.c_nu
 rw [hnx] at k0
 clear hh
 have hbv : ¬ L.has w.heap.size:=fun hh=>by have:=h.lt _ hh;omega
 have hbb : ¬ w.heap.size = b:=fun hh=>by have:=hi.lt;omega
 have hbv1 : ¬ L.has (w.heap.size + 1):=fun hh=>by have:=h.lt _ hh;omega
 have hbb1 : ¬ w.heap.size + 1 = b:=fun hh=>by have:=hi.lt;omega
 go_enter Tryz.func116,Tryz.ntmps116
 go_wp2_with (first
  | (go_at_call 117;refine (hw _).mono ?_;rintro e w1 ⟨rfl,b1⟩;have i1:=(i0.grown b1).grown (grow1 _ (.cells #[.int .i64 x,.int .i64 G] 154));have v1:=(BoxV.new.grown b1).grown (grow1 _ (.cells #[.int .i64 x,.int .i64 G] 154));have m1:=((h.alloc _).below b1).alloc (.cells #[.int .i64 x,.int .i64 G] 154);have o1 : Only (L.and b) w (w1.alloc (.cells #[.int .i64 x,.int .i64 G] 154)):=(((Only.refl _ _).alloc _).trans (Only.ofGrown b1)).alloc (.cells #[.int .i64 x,.int .i64 G] 154);have x1:=At.new w1 154 [.int .i64 (x : Nat),.int .i64 G];have u0:=x1.at0 0 rfl;obtain ⟨y0,y1,y2,y3,y4,y5,y6,y7,y8⟩:=id v1)
  | (go_at_call 118;refine (ds _ m1).mono ?_;rintro e w2 ⟨rfl,b2⟩;have i2:=i1.grown b2;have v2:=v1.grown b2;have m2:=m1.below b2;have x2:=x1.grown b2;have o2:=o1.trans (Only.ofGrown b2);have q0:=x2.at0 0 rfl;have q1:=x2.at0 1 rfl;have k2:=i2.c_nx;rw [hnx] at k2;obtain ⟨z0,z1,z2,z3,z4,z5,z6,z7,z8⟩:=id v2;have kf:=i2.fz))
 refine wp_over (fun W=>MemAt W L s /\ DpAt W b o T cs a /\ BoxV W w.heap.size t n k m g p r L.p who /\ Only (L.and b) w W) ⟨m2,i2,v2,o2⟩ ?_
 clear b1 b2 i0 i1 i2 v1 v2 m1 m2 x1 x2 o1 o2 u0 q0 q1 k0 k1 k2 kf y0 z0 y1 z1 y2 z2 y3 z3 y4 z4 y5 z5 y6 z6 y7 z7 y8 z8
 rintro W ⟨m1,i1,v1,o1⟩
 refine wp_region_rely_tail Grown 4 [.val (.pointer (some ⟨b,o,none⟩)),.val (.pointer (some ⟨b,o,none⟩)),.val (.pointer (some ⟨b,o + 14,none⟩)),.val (.agg #[.int .i64 t,.int .i64 n,.int .i64 k,.int .i64 m,.int .i64 g,.int .i64 p,.int .i64 r,.pointer (some ⟨L.p,0,none⟩),.int .i64 who])] (by kernel_rfl) Grown.refl Grown.trans (by decide) (by kernel_rfl) (by kernel_rfl) (by kernel_rfl) (by kernel_rfl) (by kernel_rfl) (by kernel_rfl) ?_
 simp only [List.take_succ_cons,List.take_zero,relyAll,Act.put,List.setIfInBounds_toArray,List.set_cons_zero,List.set_cons_succ]
 refine ⟨?_,?_,?_,?_,?_⟩
 · intros;apply ol;go_simp;exact gl
 · intros;apply ol;go_simp;exact gl
 · intros;apply ol;go_simp;exact gl
 · intro w' hg _
   apply ol
   obtain ⟨y0,y1,y2,y3,y4,y5,y6,y7,y8⟩:=(v1.grown ((Below.refl _ _).drew)).grown hg
   go_simp
   exact gl
 intro w5 hg _
 have m5:=m1.drew.below hg
 have i5:=i1.drew.grown hg
 have o5 : Only (L.and b) w w5:=o1.drew.trans (Only.ofGrown hg)
 clear hg m1 i1 v1 o1
 go_wp2_with (go_at_call 91;refine (hc _ m5 i5.glAt).mono ?_;rintro e w6 ⟨rfl,s6,cs6,P⟩;obtain ⟨l6,i6,q6⟩:=P.a;have i7:=i5.step_gl i6 (Gv.cells_len q6) P.same;have o7:=o5.trans P.only;have q7 : Same o 21 cs cs6:=P.same.wide (by omega) (by omega);have k0:=i7.c_nx;rw [show ({ a with gl:=l6 } : DV).nx = 6 from hnx] at k0;have kf:=i7.fz)
 go_ret
 exact ⟨rfl,s6,_,_,P.m.setIn hb _ _,o7.set _ _,i7.set_nx 7,q7.set (by omega) _,P.p,P.st,P.good,l6,q6,rfl⟩
end Go.Proofs.YtlolfmoolgenpaaGreat
