import Derived.Test.YtpbghmeikcphnaaGreatDropHelp
import Derived.Test.YtpbghmeikcphnaaGreatAllocCamp
namespace Go.Proofs.YtpbghmeikcphnaaGreat
open Go.RowKit
structure DV where
 nx:Int
 nu:Int
 own:Bool
 se:Int
 ch:Int
 sz:Int
 hl:List Value
 gl:List Value
 E:Int
 H:Int
 V:Int
 St:Int
structure ZK (w:World) (b o:Nat) (T:TypeId) (c:Array Value) (a:DV):Prop where
 obj:w.heap[b]?=some (.cells c T (0,0))
 X4:a.hl.length=8
 Wl:a.gl.length=3
 hl:∀ i v,a.hl[i]?=some v->c[o+6+i]?=some v
 gl:∀ i v,a.gl[i]?=some v->c[o+14+i]?=some v
 nx:c[o]?=some (iV a.nx)
 nu:c[o+1]?=some (.int .u64 a.nu)
 own:c[o+2]?=some (.bool a.own)
 se:c[o+3]?=some (.int .u64 a.se)
 ch:c[o+4]?=some (iV a.ch)
 sz:c[o+5]?=some (iV a.sz)
 E:c[o+17]?=some (iV a.E)
 H:c[o+18]?=some (.int .u64 a.H)
 V:c[o+19]?=some (iV a.V)
 St:c[o+20]?=some (iV a.St)
namespace ZK
variable {w w':World} {b o:Nat} {T:TypeId} {c c':Array Value} {a:DV}
theorem lt (h:ZK w b o T c a):b<w.heap.size:=UA h.obj
theorem fz (h:ZK w b o T c a) (i:Nat):w.frozen? ⟨b,i,none⟩=false:=Ym h.obj i
theorem of_block (h:ZK w b o T c a) (e:w'.heap[b]?=w.heap[b]?):ZK w' b o T c a:={ h with obj:=e.trans h.obj }
theorem grown (h:ZK w b o T c a) (g:Below w.heap.size w w'):ZK w' b o T c a:=h.of_block (g.block _ h.lt)
theorem drew (h:ZK w b o T c a):ZK w.drew b o T c a:=h.of_block rfl
theorem only {S:Nat->Prop} (h:ZK w b o T c a) (g:Only S w w') (hs:¬ S b):ZK w' b o T c a:=h.of_block (g.block _ h.lt hs)
theorem hlAt (h:ZK w b o T c a):At w b (o+6) T c a.hl:=⟨h.obj,h.hl⟩
theorem uC (h:ZK w b o T c a):At w b (o+14) T c a.gl:=⟨h.obj,h.gl⟩
theorem Zz (h:ZK w b o T c a):w.cell? ⟨b,o,none⟩=some (iV a.nx):=ZR h.obj h.nx
theorem Uz (h:ZK w b o T c a):w.cell? ⟨b,o+1,none⟩=some (.int .u64 a.nu):=ZR h.obj h.nu
theorem TZ (h:ZK w b o T c a):w.cell? ⟨b,o+2,none⟩=some (.bool a.own):=ZR h.obj h.own
theorem Yc (h:ZK w b o T c a):w.cell? ⟨b,o+3,none⟩=some (.int .u64 a.se):=ZR h.obj h.se
theorem Ha (h:ZK w b o T c a):w.cell? ⟨b,o+4,none⟩=some (iV a.ch):=ZR h.obj h.ch
theorem Xh (h:ZK w b o T c a):w.cell? ⟨b,o+5,none⟩=some (iV a.sz):=ZR h.obj h.sz
theorem BR (h:ZK w b o T c a):w.cell? ⟨b,o+17,none⟩=some (iV a.E):=ZR h.obj h.E
theorem Cm (h:ZK w b o T c a):w.cell? ⟨b,o+18,none⟩=some (.int .u64 a.H):=ZR h.obj h.H
theorem BQ (h:ZK w b o T c a):w.cell? ⟨b,o+19,none⟩=some (iV a.V):=ZR h.obj h.V
theorem Q5 (h:ZK w b o T c a):w.cell? ⟨b,o+20,none⟩=some (iV a.St):=ZR h.obj h.St
theorem zD (h:ZK w b o T c a):∃ v,w.cell? ⟨b,o+6,none⟩=some v:=⟨_,ZR (o:=o+6+0) h.obj (h.hl 0 _ (List.getElem?_eq_getElem (by rw[h.X4];decide)))⟩
theorem zC (h:ZK w b o T c a):∃ v,w.cell? ⟨b,o+7,none⟩=some v:=⟨_,ZR (o:=o+6+1) h.obj (h.hl 1 _ (List.getElem?_eq_getElem (by rw[h.X4];decide)))⟩
theorem zB (h:ZK w b o T c a):∃ v,w.cell? ⟨b,o+8,none⟩=some v:=⟨_,ZR (o:=o+6+2) h.obj (h.hl 2 _ (List.getElem?_eq_getElem (by rw[h.X4];decide)))⟩
theorem zA (h:ZK w b o T c a):∃ v,w.cell? ⟨b,o+9,none⟩=some v:=⟨_,ZR (o:=o+6+3) h.obj (h.hl 3 _ (List.getElem?_eq_getElem (by rw[h.X4];decide)))⟩
theorem zy (h:ZK w b o T c a):∃ v,w.cell? ⟨b,o+10,none⟩=some v:=⟨_,ZR (o:=o+6+4) h.obj (h.hl 4 _ (List.getElem?_eq_getElem (by rw[h.X4];decide)))⟩
theorem zx (h:ZK w b o T c a):∃ v,w.cell? ⟨b,o+11,none⟩=some v:=⟨_,ZR (o:=o+6+5) h.obj (h.hl 5 _ (List.getElem?_eq_getElem (by rw[h.X4];decide)))⟩
theorem zt (h:ZK w b o T c a):∃ v,w.cell? ⟨b,o+12,none⟩=some v:=⟨_,ZR (o:=o+6+6) h.obj (h.hl 6 _ (List.getElem?_eq_getElem (by rw[h.X4];decide)))⟩
theorem zo (h:ZK w b o T c a):∃ v,w.cell? ⟨b,o+13,none⟩=some v:=⟨_,ZR (o:=o+6+7) h.obj (h.hl 7 _ (List.getElem?_eq_getElem (by rw[h.X4];decide)))⟩
theorem zn (h:ZK w b o T c a):∃ v,w.cell? ⟨b,o+14,none⟩=some v:=⟨_,ZR (o:=o+14+0) h.obj (h.gl 0 _ (List.getElem?_eq_getElem (by rw[h.Wl];decide)))⟩
theorem zl (h:ZK w b o T c a):∃ v,w.cell? ⟨b,o+15,none⟩=some v:=⟨_,ZR (o:=o+14+1) h.obj (h.gl 1 _ (List.getElem?_eq_getElem (by rw[h.Wl];decide)))⟩
theorem zi (h:ZK w b o T c a):∃ v,w.cell? ⟨b,o+16,none⟩=some v:=⟨_,ZR (o:=o+14+2) h.obj (h.gl 2 _ (List.getElem?_eq_getElem (by rw[h.Wl];decide)))⟩
theorem Zh (h:ZK w b o T c a) (x:Int):ZK (w.setCell ⟨b,o,none⟩ (iV x)) b o T (c.setIfInBounds (o) (iV x)) { a with nx:=x } :=
 ⟨ZT _ _ _ _ _ _ h.obj,h.X4,h.Wl,ZQ h.hl _ (by have:=h.X4;omega),ZQ h.gl _ (by have:=h.Wl;omega),XV _ h.nx,Z8 h.nu (by omega),Z8 h.own (by omega),Z8 h.se (by omega),Z8 h.ch (by omega),Z8 h.sz (by omega),Z8 h.E (by omega),Z8 h.H (by omega),Z8 h.V (by omega),Z8 h.St (by omega)⟩
theorem Q4 (h:ZK w b o T c a) (x:Int):ZK (w.setCell ⟨b,o+3,none⟩ (.int .u64 x)) b o T (c.setIfInBounds (o+3) (.int .u64 x)) { a with se:=x } :=
 ⟨ZT _ _ _ _ _ _ h.obj,h.X4,h.Wl,ZQ h.hl _ (by have:=h.X4;omega),ZQ h.gl _ (by have:=h.Wl;omega),Z8 h.nx (by omega),Z8 h.nu (by omega),Z8 h.own (by omega),XV _ h.se,Z8 h.ch (by omega),Z8 h.sz (by omega),Z8 h.E (by omega),Z8 h.H (by omega),Z8 h.V (by omega),Z8 h.St (by omega)⟩
theorem EE (h:ZK w b o T c a) (x:Int):ZK (w.setCell ⟨b,o+4,none⟩ (iV x)) b o T (c.setIfInBounds (o+4) (iV x)) { a with ch:=x } :=
 ⟨ZT _ _ _ _ _ _ h.obj,h.X4,h.Wl,ZQ h.hl _ (by have:=h.X4;omega),ZQ h.gl _ (by have:=h.Wl;omega),Z8 h.nx (by omega),Z8 h.nu (by omega),Z8 h.own (by omega),Z8 h.se (by omega),XV _ h.ch,Z8 h.sz (by omega),Z8 h.E (by omega),Z8 h.H (by omega),Z8 h.V (by omega),Z8 h.St (by omega)⟩
theorem SS (h:ZK w b o T c a) (x:Int):ZK (w.setCell ⟨b,o+5,none⟩ (iV x)) b o T (c.setIfInBounds (o+5) (iV x)) { a with sz:=x } :=
 ⟨ZT _ _ _ _ _ _ h.obj,h.X4,h.Wl,ZQ h.hl _ (by have:=h.X4;omega),ZQ h.gl _ (by have:=h.Wl;omega),Z8 h.nx (by omega),Z8 h.nu (by omega),Z8 h.own (by omega),Z8 h.se (by omega),Z8 h.ch (by omega),XV _ h.sz,Z8 h.E (by omega),Z8 h.H (by omega),Z8 h.V (by omega),Z8 h.St (by omega)⟩
theorem N8 (h:ZK w b o T c a) (x:Int):ZK (w.setCell ⟨b,o+17,none⟩ (iV x)) b o T (c.setIfInBounds (o+17) (iV x)) { a with E:=x } :=
 ⟨ZT _ _ _ _ _ _ h.obj,h.X4,h.Wl,ZQ h.hl _ (by have:=h.X4;omega),ZQ h.gl _ (by have:=h.Wl;omega),Z8 h.nx (by omega),Z8 h.nu (by omega),Z8 h.own (by omega),Z8 h.se (by omega),Z8 h.ch (by omega),Z8 h.sz (by omega),XV _ h.E,Z8 h.H (by omega),Z8 h.V (by omega),Z8 h.St (by omega)⟩
theorem PV (h:ZK w b o T c a) (x:Int):ZK (w.setCell ⟨b,o+18,none⟩ (.int .u64 x)) b o T (c.setIfInBounds (o+18) (.int .u64 x)) { a with H:=x } :=
 ⟨ZT _ _ _ _ _ _ h.obj,h.X4,h.Wl,ZQ h.hl _ (by have:=h.X4;omega),ZQ h.gl _ (by have:=h.Wl;omega),Z8 h.nx (by omega),Z8 h.nu (by omega),Z8 h.own (by omega),Z8 h.se (by omega),Z8 h.ch (by omega),Z8 h.sz (by omega),Z8 h.E (by omega),XV _ h.H,Z8 h.V (by omega),Z8 h.St (by omega)⟩
theorem N7 (h:ZK w b o T c a) (x:Int):ZK (w.setCell ⟨b,o+19,none⟩ (iV x)) b o T (c.setIfInBounds (o+19) (iV x)) { a with V:=x } :=
 ⟨ZT _ _ _ _ _ _ h.obj,h.X4,h.Wl,ZQ h.hl _ (by have:=h.X4;omega),ZQ h.gl _ (by have:=h.Wl;omega),Z8 h.nx (by omega),Z8 h.nu (by omega),Z8 h.own (by omega),Z8 h.se (by omega),Z8 h.ch (by omega),Z8 h.sz (by omega),Z8 h.E (by omega),Z8 h.H (by omega),XV _ h.V,Z8 h.St (by omega)⟩
theorem Uy (h:ZK w b o T c a) (x:Int):ZK (w.setCell ⟨b,o+20,none⟩ (iV x)) b o T (c.setIfInBounds (o+20) (iV x)) { a with St:=x } :=
 ⟨ZT _ _ _ _ _ _ h.obj,h.X4,h.Wl,ZQ h.hl _ (by have:=h.X4;omega),ZQ h.gl _ (by have:=h.Wl;omega),Z8 h.nx (by omega),Z8 h.nu (by omega),Z8 h.own (by omega),Z8 h.se (by omega),Z8 h.ch (by omega),Z8 h.sz (by omega),Z8 h.E (by omega),Z8 h.H (by omega),Z8 h.V (by omega),XV _ h.St⟩
theorem Jd (h:ZK w b o T c a) (x:Value):ZK (w.setCell ⟨b,o+6,none⟩ x) b o T (c.setIfInBounds (o+6) x) { a with hl:=a.hl.set 0 x } :=
 ⟨ZT _ _ _ _ _ _ h.obj,(by rw[List.length_set];exact h.X4),h.Wl,YH h.hl 0 x,ZQ h.gl _ (by have:=h.Wl;omega),Z8 h.nx (by omega),Z8 h.nu (by omega),Z8 h.own (by omega),Z8 h.se (by omega),Z8 h.ch (by omega),Z8 h.sz (by omega),Z8 h.E (by omega),Z8 h.H (by omega),Z8 h.V (by omega),Z8 h.St (by omega)⟩
theorem Jc (h:ZK w b o T c a) (x:Value):ZK (w.setCell ⟨b,o+7,none⟩ x) b o T (c.setIfInBounds (o+7) x) { a with hl:=a.hl.set 1 x } :=
 ⟨ZT _ _ _ _ _ _ h.obj,(by rw[List.length_set];exact h.X4),h.Wl,YH h.hl 1 x,ZQ h.gl _ (by have:=h.Wl;omega),Z8 h.nx (by omega),Z8 h.nu (by omega),Z8 h.own (by omega),Z8 h.se (by omega),Z8 h.ch (by omega),Z8 h.sz (by omega),Z8 h.E (by omega),Z8 h.H (by omega),Z8 h.V (by omega),Z8 h.St (by omega)⟩
theorem Ja (h:ZK w b o T c a) (x:Value):ZK (w.setCell ⟨b,o+8,none⟩ x) b o T (c.setIfInBounds (o+8) x) { a with hl:=a.hl.set 2 x } :=
 ⟨ZT _ _ _ _ _ _ h.obj,(by rw[List.length_set];exact h.X4),h.Wl,YH h.hl 2 x,ZQ h.gl _ (by have:=h.Wl;omega),Z8 h.nx (by omega),Z8 h.nu (by omega),Z8 h.own (by omega),Z8 h.se (by omega),Z8 h.ch (by omega),Z8 h.sz (by omega),Z8 h.E (by omega),Z8 h.H (by omega),Z8 h.V (by omega),Z8 h.St (by omega)⟩
theorem I9 (h:ZK w b o T c a) (x:Value):ZK (w.setCell ⟨b,o+9,none⟩ x) b o T (c.setIfInBounds (o+9) x) { a with hl:=a.hl.set 3 x } :=
 ⟨ZT _ _ _ _ _ _ h.obj,(by rw[List.length_set];exact h.X4),h.Wl,YH h.hl 3 x,ZQ h.gl _ (by have:=h.Wl;omega),Z8 h.nx (by omega),Z8 h.nu (by omega),Z8 h.own (by omega),Z8 h.se (by omega),Z8 h.ch (by omega),Z8 h.sz (by omega),Z8 h.E (by omega),Z8 h.H (by omega),Z8 h.V (by omega),Z8 h.St (by omega)⟩
theorem I8 (h:ZK w b o T c a) (x:Value):ZK (w.setCell ⟨b,o+10,none⟩ x) b o T (c.setIfInBounds (o+10) x) { a with hl:=a.hl.set 4 x } :=
 ⟨ZT _ _ _ _ _ _ h.obj,(by rw[List.length_set];exact h.X4),h.Wl,YH h.hl 4 x,ZQ h.gl _ (by have:=h.Wl;omega),Z8 h.nx (by omega),Z8 h.nu (by omega),Z8 h.own (by omega),Z8 h.se (by omega),Z8 h.ch (by omega),Z8 h.sz (by omega),Z8 h.E (by omega),Z8 h.H (by omega),Z8 h.V (by omega),Z8 h.St (by omega)⟩
theorem I7 (h:ZK w b o T c a) (x:Value):ZK (w.setCell ⟨b,o+11,none⟩ x) b o T (c.setIfInBounds (o+11) x) { a with hl:=a.hl.set 5 x } :=
 ⟨ZT _ _ _ _ _ _ h.obj,(by rw[List.length_set];exact h.X4),h.Wl,YH h.hl 5 x,ZQ h.gl _ (by have:=h.Wl;omega),Z8 h.nx (by omega),Z8 h.nu (by omega),Z8 h.own (by omega),Z8 h.se (by omega),Z8 h.ch (by omega),Z8 h.sz (by omega),Z8 h.E (by omega),Z8 h.H (by omega),Z8 h.V (by omega),Z8 h.St (by omega)⟩
theorem I5 (h:ZK w b o T c a) (x:Value):ZK (w.setCell ⟨b,o+12,none⟩ x) b o T (c.setIfInBounds (o+12) x) { a with hl:=a.hl.set 6 x } :=
 ⟨ZT _ _ _ _ _ _ h.obj,(by rw[List.length_set];exact h.X4),h.Wl,YH h.hl 6 x,ZQ h.gl _ (by have:=h.Wl;omega),Z8 h.nx (by omega),Z8 h.nu (by omega),Z8 h.own (by omega),Z8 h.se (by omega),Z8 h.ch (by omega),Z8 h.sz (by omega),Z8 h.E (by omega),Z8 h.H (by omega),Z8 h.V (by omega),Z8 h.St (by omega)⟩
theorem I4 (h:ZK w b o T c a) (x:Value):ZK (w.setCell ⟨b,o+13,none⟩ x) b o T (c.setIfInBounds (o+13) x) { a with hl:=a.hl.set 7 x } :=
 ⟨ZT _ _ _ _ _ _ h.obj,(by rw[List.length_set];exact h.X4),h.Wl,YH h.hl 7 x,ZQ h.gl _ (by have:=h.Wl;omega),Z8 h.nx (by omega),Z8 h.nu (by omega),Z8 h.own (by omega),Z8 h.se (by omega),Z8 h.ch (by omega),Z8 h.sz (by omega),Z8 h.E (by omega),Z8 h.H (by omega),Z8 h.V (by omega),Z8 h.St (by omega)⟩
theorem IZ (h:ZK w b o T c a) (x:Value):ZK (w.setCell ⟨b,o+14,none⟩ x) b o T (c.setIfInBounds (o+14) x) { a with gl:=a.gl.set 0 x } :=
 ⟨ZT _ _ _ _ _ _ h.obj,h.X4,(by rw[List.length_set];exact h.Wl),ZQ h.hl _ (by have:=h.X4;omega),YH h.gl 0 x,Z8 h.nx (by omega),Z8 h.nu (by omega),Z8 h.own (by omega),Z8 h.se (by omega),Z8 h.ch (by omega),Z8 h.sz (by omega),Z8 h.E (by omega),Z8 h.H (by omega),Z8 h.V (by omega),Z8 h.St (by omega)⟩
theorem IY (h:ZK w b o T c a) (x:Value):ZK (w.setCell ⟨b,o+15,none⟩ x) b o T (c.setIfInBounds (o+15) x) { a with gl:=a.gl.set 1 x } :=
 ⟨ZT _ _ _ _ _ _ h.obj,h.X4,(by rw[List.length_set];exact h.Wl),ZQ h.hl _ (by have:=h.X4;omega),YH h.gl 1 x,Z8 h.nx (by omega),Z8 h.nu (by omega),Z8 h.own (by omega),Z8 h.se (by omega),Z8 h.ch (by omega),Z8 h.sz (by omega),Z8 h.E (by omega),Z8 h.H (by omega),Z8 h.V (by omega),Z8 h.St (by omega)⟩
theorem IX (h:ZK w b o T c a) (x:Value):ZK (w.setCell ⟨b,o+16,none⟩ x) b o T (c.setIfInBounds (o+16) x) { a with gl:=a.gl.set 2 x } :=
 ⟨ZT _ _ _ _ _ _ h.obj,h.X4,(by rw[List.length_set];exact h.Wl),ZQ h.hl _ (by have:=h.X4;omega),YH h.gl 2 x,Z8 h.nx (by omega),Z8 h.nu (by omega),Z8 h.own (by omega),Z8 h.se (by omega),Z8 h.ch (by omega),Z8 h.sz (by omega),Z8 h.E (by omega),Z8 h.H (by omega),Z8 h.V (by omega),Z8 h.St (by omega)⟩
theorem Rk (h:ZK w b o T c a) {l:List Value} (hA:At w' b (o+6) T c' l) (hl:l.length=8) (sm:Same (o+6) 8 c c'):ZK w' b o T c' { a with hl:=l } :=
 ⟨hA.obj,hl,h.Wl,hA.is,fun i v hv=>(sm.2 _ (by have:=lt_of_some (l:=a.gl) hv;have:=h.Wl;omega)).trans (h.gl i v hv),(sm.2 _ (by omega)).trans h.nx,(sm.2 _ (by omega)).trans h.nu,(sm.2 _ (by omega)).trans h.own,(sm.2 _ (by omega)).trans h.se,(sm.2 _ (by omega)).trans h.ch,(sm.2 _ (by omega)).trans h.sz,(sm.2 _ (by omega)).trans h.E,(sm.2 _ (by omega)).trans h.H,(sm.2 _ (by omega)).trans h.V,(sm.2 _ (by omega)).trans h.St⟩
theorem IW (h:ZK w b o T c a) {l:List Value} (hA:At w' b (o+14) T c' l) (hl:l.length=3) (sm:Same (o+14) 3 c c'):ZK w' b o T c' { a with gl:=l } :=
 ⟨hA.obj,h.X4,hl,fun i v hv=>(sm.2 _ (by have:=lt_of_some (l:=a.hl) hv;have:=h.X4;omega)).trans (h.hl i v hv),hA.is,(sm.2 _ (by omega)).trans h.nx,(sm.2 _ (by omega)).trans h.nu,(sm.2 _ (by omega)).trans h.own,(sm.2 _ (by omega)).trans h.se,(sm.2 _ (by omega)).trans h.ch,(sm.2 _ (by omega)).trans h.sz,(sm.2 _ (by omega)).trans h.E,(sm.2 _ (by omega)).trans h.H,(sm.2 _ (by omega)).trans h.V,(sm.2 _ (by omega)).trans h.St⟩
end ZK
theorem len8 {l:List Value} (h:l.length=8):∃ a b c d e f g i,l=[a,b,c,d,e,f,g,i]:=by
 match l,h with
 | [a,b,c,d,e,f,g,i],_=>exact⟨a,b,c,d,e,f,g,i,rfl⟩
def XO (L:Loc) (b o:Nat) (T:TypeId) (cs:Array Value) (w w':World) (X:Mm->DV->Prop):Prop :=
 ∃ s' cs' a',Z9 w' L s'/\Only (L.and b) w w'/\ZK w' b o T cs' a'/\Same o 21 cs cs'/\X s' a'
def AO (L:Loc) (b o:Nat) (T:TypeId) (c c':Array Value) (s s':Mm) (a a':DV):Nat->World->Prop
 | 0,w=>Z9 w L s/\ZK w b o T c a
 | 1,w=>Z9 w L s'/\ZK w b o T c a
 | _,w=>Z9 w L s'/\ZK w b o T c' a'
theorem QP {L:Loc} {b o:Nat} {T:TypeId} {c c':Array Value} {s s':Mm} {a a':DV} (x y:World) (p:Nat) (g:Grown x y) (k:AO L b o T c c' s s' a a' p x):AO L b o T c c' s s' a a' p y:=by
 match p,k with
 | 0,k=>exact⟨k.1.below g,k.2.grown g⟩
 | 1,k=>exact⟨k.1.below g,k.2.grown g⟩
 | p+2,k=>exact⟨k.1.below g,k.2.grown g⟩
def qP (H:Int) (own:Bool):DV:=⟨0,H,own,0,0,0,Yr 0 0 0 0 0 false false false,Vy 0 0 0,0,0,0,0⟩
def Jg (H:Int) (own:Bool):Obj:=.cells #[iV 0,.int .u64 H,.bool own,.int .u64 0,iV 0,iV 0,iV 0,.int .u64 0,iV 0,iV 0,.int .u64 0,.bool false,.bool false,.bool false,iV 0,iV 0,.int .u64 0,iV 0,.int .u64 0,iV 0,iV 0] 158
theorem NL (H:Int) (own:Bool) (w:World) :
 Calls Tryz.prog 82 #[.int .u64 H,.bool own] w fun e w'=>e=.returned (pP w.heap.size 0)/\w'=w.alloc (Jg H own):=by
 unfold Jg
 go_enter Tryz.func82,Tryz.ntmps82
 go_wp2
 go_ret
 exact⟨rfl,rfl⟩
theorem NQ (H:Int) (own:Bool) (w:World):∃ cs,ZK (w.alloc (Jg H own)) w.heap.size 0 158 cs (qP H own):=by
 refine⟨_,Go.Deep.blk_alloc_new _ _,rfl,rfl,fun i v hv=>?_,fun i v hv=>?_,rfl,rfl,rfl,rfl,rfl,rfl,rfl,rfl,rfl,rfl⟩
 . have hl:i<8:=lt_of_some hv
   match i,hl with
   | 0,_=>exact hv
   | 1,_=>exact hv
   | 2,_=>exact hv
   | 3,_=>exact hv
   | 4,_=>exact hv
   | 5,_=>exact hv
   | 6,_=>exact hv
   | 7,_=>exact hv
 . have hl:i<3:=lt_of_some hv
   match i,hl with
   | 0,_=>exact hv
   | 1,_=>exact hv
   | 2,_=>exact hv
theorem QV {w:World} {b o:Nat} {T:TypeId} {cs:Array Value} {a:DV} (hi:ZK w b o T cs a) (hnx:a.nx=7) :
 Calls Tryz.prog 155 #[pP b o] w fun e w'=>e=.returned (.agg #[iV a.E,.int .u64 a.H,iV a.V,iV a.St])/\Below w.heap.size w w':=by
 have i1:=hi.grown (ZY _ (.cells #[iV 0,.int .u64 0,iV 0,iV 0] 37))
 have k0:=i1.Zz
 rw[hnx] at k0
 have k1:=i1.BR
 have k2:=i1.Cm
 have k3:=i1.BQ
 have k4:=i1.Q5
 go_enter Tryz.func155,Tryz.ntmps155
 go_wp2
 exact bodyPost_ret (v:=.agg #[iV a.E,.int .u64 a.H,iV a.V,iV a.St]) (by simp[results,Tryz.results155,go_sem]) rfl ⟨rfl,Z4 (Below.refl _ _) _⟩
end Go.Proofs.YtpbghmeikcphnaaGreat
