import Derived.Test.YtpbghmeikcphnabGreatDropHelp
import Derived.Test.YtpbghmeikcphnabGreatAllocCamp
namespace Go.Proofs.YtpbghmeikcphnabGreat
open Go.RowKit
structure DV where
 nx:Int
 nu:Int
 own:Bool
 se:Int
 ch:Int
 sz:Int
 hl:List Value
 gl:List Value
 E:Int
 H:Int
 V:Int
 St:Int
structure ZK (w:World) (b o:Nat) (T:TypeId) (c:Array Value) (a:DV):Prop where
 obj:w.heap[b]?=some (.cells c T (0,0))
 X3:a.hl.length=8
 V5:a.gl.length=3
 hl:∀ i v,a.hl[i]?=some v->c[o+6+i]?=some v
 gl:∀ i v,a.gl[i]?=some v->c[o+14+i]?=some v
 nx:c[o]?=some (iV a.nx)
 nu:c[o+1]?=some (.int .u64 a.nu)
 own:c[o+2]?=some (.bool a.own)
 se:c[o+3]?=some (.int .u64 a.se)
 ch:c[o+4]?=some (iV a.ch)
 sz:c[o+5]?=some (iV a.sz)
 E:c[o+17]?=some (iV a.E)
 H:c[o+18]?=some (.int .u64 a.H)
 V:c[o+19]?=some (iV a.V)
 St:c[o+20]?=some (iV a.St)
namespace ZK
variable {w w':World} {b o:Nat} {T:TypeId} {c c':Array Value} {a:DV}
theorem lt (h:ZK w b o T c a):b<w.heap.size:=WY h.obj
theorem fz (h:ZK w b o T c a) (i:Nat):w.frozen? ⟨b,i,none⟩=false:=Ym h.obj i
theorem of_block (h:ZK w b o T c a) (e:w'.heap[b]?=w.heap[b]?):ZK w' b o T c a:={ h with obj:=e.trans h.obj }
theorem grown (h:ZK w b o T c a) (g:Below w.heap.size w w'):ZK w' b o T c a:=h.of_block (g.block _ h.lt)
theorem drew (h:ZK w b o T c a):ZK w.drew b o T c a:=h.of_block rfl
theorem only {S:Nat->Prop} (h:ZK w b o T c a) (g:Only S w w') (hs:¬ S b):ZK w' b o T c a:=h.of_block (g.block _ h.lt hs)
theorem hlAt (h:ZK w b o T c a):At w b (o+6) T c a.hl:=⟨h.obj,h.hl⟩
theorem tK (h:ZK w b o T c a):At w b (o+14) T c a.gl:=⟨h.obj,h.gl⟩
theorem Zz (h:ZK w b o T c a):w.cell? ⟨b,o,none⟩=some (iV a.nx):=ZU h.obj h.nx
theorem Ul (h:ZK w b o T c a):w.cell? ⟨b,o+1,none⟩=some (.int .u64 a.nu):=ZU h.obj h.nu
theorem TM (h:ZK w b o T c a):w.cell? ⟨b,o+2,none⟩=some (.bool a.own):=ZU h.obj h.own
theorem Ya (h:ZK w b o T c a):w.cell? ⟨b,o+3,none⟩=some (.int .u64 a.se):=ZU h.obj h.se
theorem G5 (h:ZK w b o T c a):w.cell? ⟨b,o+4,none⟩=some (iV a.ch):=ZU h.obj h.ch
theorem WX (h:ZK w b o T c a):w.cell? ⟨b,o+5,none⟩=some (iV a.sz):=ZU h.obj h.sz
theorem BF (h:ZK w b o T c a):w.cell? ⟨b,o+17,none⟩=some (iV a.E):=ZU h.obj h.E
theorem BP (h:ZK w b o T c a):w.cell? ⟨b,o+18,none⟩=some (.int .u64 a.H):=ZU h.obj h.H
theorem BD (h:ZK w b o T c a):w.cell? ⟨b,o+19,none⟩=some (iV a.V):=ZU h.obj h.V
theorem QV (h:ZK w b o T c a):w.cell? ⟨b,o+20,none⟩=some (iV a.St):=ZU h.obj h.St
theorem yZ (h:ZK w b o T c a):∃ v,w.cell? ⟨b,o+6,none⟩=some v:=⟨_,ZU (o:=o+6+0) h.obj (h.hl 0 _ (List.getElem?_eq_getElem (by rw[h.X3];decide)))⟩
theorem yY (h:ZK w b o T c a):∃ v,w.cell? ⟨b,o+7,none⟩=some v:=⟨_,ZU (o:=o+6+1) h.obj (h.hl 1 _ (List.getElem?_eq_getElem (by rw[h.X3];decide)))⟩
theorem yX (h:ZK w b o T c a):∃ v,w.cell? ⟨b,o+8,none⟩=some v:=⟨_,ZU (o:=o+6+2) h.obj (h.hl 2 _ (List.getElem?_eq_getElem (by rw[h.X3];decide)))⟩
theorem yV (h:ZK w b o T c a):∃ v,w.cell? ⟨b,o+9,none⟩=some v:=⟨_,ZU (o:=o+6+3) h.obj (h.hl 3 _ (List.getElem?_eq_getElem (by rw[h.X3];decide)))⟩
theorem yU (h:ZK w b o T c a):∃ v,w.cell? ⟨b,o+10,none⟩=some v:=⟨_,ZU (o:=o+6+4) h.obj (h.hl 4 _ (List.getElem?_eq_getElem (by rw[h.X3];decide)))⟩
theorem yT (h:ZK w b o T c a):∃ v,w.cell? ⟨b,o+11,none⟩=some v:=⟨_,ZU (o:=o+6+5) h.obj (h.hl 5 _ (List.getElem?_eq_getElem (by rw[h.X3];decide)))⟩
theorem yS (h:ZK w b o T c a):∃ v,w.cell? ⟨b,o+12,none⟩=some v:=⟨_,ZU (o:=o+6+6) h.obj (h.hl 6 _ (List.getElem?_eq_getElem (by rw[h.X3];decide)))⟩
theorem yR (h:ZK w b o T c a):∃ v,w.cell? ⟨b,o+13,none⟩=some v:=⟨_,ZU (o:=o+6+7) h.obj (h.hl 7 _ (List.getElem?_eq_getElem (by rw[h.X3];decide)))⟩
theorem yQ (h:ZK w b o T c a):∃ v,w.cell? ⟨b,o+14,none⟩=some v:=⟨_,ZU (o:=o+14+0) h.obj (h.gl 0 _ (List.getElem?_eq_getElem (by rw[h.V5];decide)))⟩
theorem yP (h:ZK w b o T c a):∃ v,w.cell? ⟨b,o+15,none⟩=some v:=⟨_,ZU (o:=o+14+1) h.obj (h.gl 1 _ (List.getElem?_eq_getElem (by rw[h.V5];decide)))⟩
theorem yO (h:ZK w b o T c a):∃ v,w.cell? ⟨b,o+16,none⟩=some v:=⟨_,ZU (o:=o+14+2) h.obj (h.gl 2 _ (List.getElem?_eq_getElem (by rw[h.V5];decide)))⟩
theorem Zh (h:ZK w b o T c a) (x:Int):ZK (w.setCell ⟨b,o,none⟩ (iV x)) b o T (c.setIfInBounds (o) (iV x)) { a with nx:=x } :=
 ⟨ZT _ _ _ _ _ _ h.obj,h.X3,h.V5,ZQ h.hl _ (by have:=h.X3;omega),ZQ h.gl _ (by have:=h.V5;omega),XR _ h.nx,Z9 h.nu (by omega),Z9 h.own (by omega),Z9 h.se (by omega),Z9 h.ch (by omega),Z9 h.sz (by omega),Z9 h.E (by omega),Z9 h.H (by omega),Z9 h.V (by omega),Z9 h.St (by omega)⟩
theorem QU (h:ZK w b o T c a) (x:Int):ZK (w.setCell ⟨b,o+3,none⟩ (.int .u64 x)) b o T (c.setIfInBounds (o+3) (.int .u64 x)) { a with se:=x } :=
 ⟨ZT _ _ _ _ _ _ h.obj,h.X3,h.V5,ZQ h.hl _ (by have:=h.X3;omega),ZQ h.gl _ (by have:=h.V5;omega),Z9 h.nx (by omega),Z9 h.nu (by omega),Z9 h.own (by omega),XR _ h.se,Z9 h.ch (by omega),Z9 h.sz (by omega),Z9 h.E (by omega),Z9 h.H (by omega),Z9 h.V (by omega),Z9 h.St (by omega)⟩
theorem Es (h:ZK w b o T c a) (x:Int):ZK (w.setCell ⟨b,o+4,none⟩ (iV x)) b o T (c.setIfInBounds (o+4) (iV x)) { a with ch:=x } :=
 ⟨ZT _ _ _ _ _ _ h.obj,h.X3,h.V5,ZQ h.hl _ (by have:=h.X3;omega),ZQ h.gl _ (by have:=h.V5;omega),Z9 h.nx (by omega),Z9 h.nu (by omega),Z9 h.own (by omega),Z9 h.se (by omega),XR _ h.ch,Z9 h.sz (by omega),Z9 h.E (by omega),Z9 h.H (by omega),Z9 h.V (by omega),Z9 h.St (by omega)⟩
theorem SE (h:ZK w b o T c a) (x:Int):ZK (w.setCell ⟨b,o+5,none⟩ (iV x)) b o T (c.setIfInBounds (o+5) (iV x)) { a with sz:=x } :=
 ⟨ZT _ _ _ _ _ _ h.obj,h.X3,h.V5,ZQ h.hl _ (by have:=h.X3;omega),ZQ h.gl _ (by have:=h.V5;omega),Z9 h.nx (by omega),Z9 h.nu (by omega),Z9 h.own (by omega),Z9 h.se (by omega),Z9 h.ch (by omega),XR _ h.sz,Z9 h.E (by omega),Z9 h.H (by omega),Z9 h.V (by omega),Z9 h.St (by omega)⟩
theorem NU (h:ZK w b o T c a) (x:Int):ZK (w.setCell ⟨b,o+17,none⟩ (iV x)) b o T (c.setIfInBounds (o+17) (iV x)) { a with E:=x } :=
 ⟨ZT _ _ _ _ _ _ h.obj,h.X3,h.V5,ZQ h.hl _ (by have:=h.X3;omega),ZQ h.gl _ (by have:=h.V5;omega),Z9 h.nx (by omega),Z9 h.nu (by omega),Z9 h.own (by omega),Z9 h.se (by omega),Z9 h.ch (by omega),Z9 h.sz (by omega),XR _ h.E,Z9 h.H (by omega),Z9 h.V (by omega),Z9 h.St (by omega)⟩
theorem PT (h:ZK w b o T c a) (x:Int):ZK (w.setCell ⟨b,o+18,none⟩ (.int .u64 x)) b o T (c.setIfInBounds (o+18) (.int .u64 x)) { a with H:=x } :=
 ⟨ZT _ _ _ _ _ _ h.obj,h.X3,h.V5,ZQ h.hl _ (by have:=h.X3;omega),ZQ h.gl _ (by have:=h.V5;omega),Z9 h.nx (by omega),Z9 h.nu (by omega),Z9 h.own (by omega),Z9 h.se (by omega),Z9 h.ch (by omega),Z9 h.sz (by omega),Z9 h.E (by omega),XR _ h.H,Z9 h.V (by omega),Z9 h.St (by omega)⟩
theorem NT (h:ZK w b o T c a) (x:Int):ZK (w.setCell ⟨b,o+19,none⟩ (iV x)) b o T (c.setIfInBounds (o+19) (iV x)) { a with V:=x } :=
 ⟨ZT _ _ _ _ _ _ h.obj,h.X3,h.V5,ZQ h.hl _ (by have:=h.X3;omega),ZQ h.gl _ (by have:=h.V5;omega),Z9 h.nx (by omega),Z9 h.nu (by omega),Z9 h.own (by omega),Z9 h.se (by omega),Z9 h.ch (by omega),Z9 h.sz (by omega),Z9 h.E (by omega),Z9 h.H (by omega),XR _ h.V,Z9 h.St (by omega)⟩
theorem Uk (h:ZK w b o T c a) (x:Int):ZK (w.setCell ⟨b,o+20,none⟩ (iV x)) b o T (c.setIfInBounds (o+20) (iV x)) { a with St:=x } :=
 ⟨ZT _ _ _ _ _ _ h.obj,h.X3,h.V5,ZQ h.hl _ (by have:=h.X3;omega),ZQ h.gl _ (by have:=h.V5;omega),Z9 h.nx (by omega),Z9 h.nu (by omega),Z9 h.own (by omega),Z9 h.se (by omega),Z9 h.ch (by omega),Z9 h.sz (by omega),Z9 h.E (by omega),Z9 h.H (by omega),Z9 h.V (by omega),XR _ h.St⟩
theorem IZ (h:ZK w b o T c a) (x:Value):ZK (w.setCell ⟨b,o+6,none⟩ x) b o T (c.setIfInBounds (o+6) x) { a with hl:=a.hl.set 0 x } :=
 ⟨ZT _ _ _ _ _ _ h.obj,(by rw[List.length_set];exact h.X3),h.V5,YG h.hl 0 x,ZQ h.gl _ (by have:=h.V5;omega),Z9 h.nx (by omega),Z9 h.nu (by omega),Z9 h.own (by omega),Z9 h.se (by omega),Z9 h.ch (by omega),Z9 h.sz (by omega),Z9 h.E (by omega),Z9 h.H (by omega),Z9 h.V (by omega),Z9 h.St (by omega)⟩
theorem IY (h:ZK w b o T c a) (x:Value):ZK (w.setCell ⟨b,o+7,none⟩ x) b o T (c.setIfInBounds (o+7) x) { a with hl:=a.hl.set 1 x } :=
 ⟨ZT _ _ _ _ _ _ h.obj,(by rw[List.length_set];exact h.X3),h.V5,YG h.hl 1 x,ZQ h.gl _ (by have:=h.V5;omega),Z9 h.nx (by omega),Z9 h.nu (by omega),Z9 h.own (by omega),Z9 h.se (by omega),Z9 h.ch (by omega),Z9 h.sz (by omega),Z9 h.E (by omega),Z9 h.H (by omega),Z9 h.V (by omega),Z9 h.St (by omega)⟩
theorem IX (h:ZK w b o T c a) (x:Value):ZK (w.setCell ⟨b,o+8,none⟩ x) b o T (c.setIfInBounds (o+8) x) { a with hl:=a.hl.set 2 x } :=
 ⟨ZT _ _ _ _ _ _ h.obj,(by rw[List.length_set];exact h.X3),h.V5,YG h.hl 2 x,ZQ h.gl _ (by have:=h.V5;omega),Z9 h.nx (by omega),Z9 h.nu (by omega),Z9 h.own (by omega),Z9 h.se (by omega),Z9 h.ch (by omega),Z9 h.sz (by omega),Z9 h.E (by omega),Z9 h.H (by omega),Z9 h.V (by omega),Z9 h.St (by omega)⟩
theorem IW (h:ZK w b o T c a) (x:Value):ZK (w.setCell ⟨b,o+9,none⟩ x) b o T (c.setIfInBounds (o+9) x) { a with hl:=a.hl.set 3 x } :=
 ⟨ZT _ _ _ _ _ _ h.obj,(by rw[List.length_set];exact h.X3),h.V5,YG h.hl 3 x,ZQ h.gl _ (by have:=h.V5;omega),Z9 h.nx (by omega),Z9 h.nu (by omega),Z9 h.own (by omega),Z9 h.se (by omega),Z9 h.ch (by omega),Z9 h.sz (by omega),Z9 h.E (by omega),Z9 h.H (by omega),Z9 h.V (by omega),Z9 h.St (by omega)⟩
theorem IV (h:ZK w b o T c a) (x:Value):ZK (w.setCell ⟨b,o+10,none⟩ x) b o T (c.setIfInBounds (o+10) x) { a with hl:=a.hl.set 4 x } :=
 ⟨ZT _ _ _ _ _ _ h.obj,(by rw[List.length_set];exact h.X3),h.V5,YG h.hl 4 x,ZQ h.gl _ (by have:=h.V5;omega),Z9 h.nx (by omega),Z9 h.nu (by omega),Z9 h.own (by omega),Z9 h.se (by omega),Z9 h.ch (by omega),Z9 h.sz (by omega),Z9 h.E (by omega),Z9 h.H (by omega),Z9 h.V (by omega),Z9 h.St (by omega)⟩
theorem IU (h:ZK w b o T c a) (x:Value):ZK (w.setCell ⟨b,o+11,none⟩ x) b o T (c.setIfInBounds (o+11) x) { a with hl:=a.hl.set 5 x } :=
 ⟨ZT _ _ _ _ _ _ h.obj,(by rw[List.length_set];exact h.X3),h.V5,YG h.hl 5 x,ZQ h.gl _ (by have:=h.V5;omega),Z9 h.nx (by omega),Z9 h.nu (by omega),Z9 h.own (by omega),Z9 h.se (by omega),Z9 h.ch (by omega),Z9 h.sz (by omega),Z9 h.E (by omega),Z9 h.H (by omega),Z9 h.V (by omega),Z9 h.St (by omega)⟩
theorem IQ (h:ZK w b o T c a) (x:Value):ZK (w.setCell ⟨b,o+12,none⟩ x) b o T (c.setIfInBounds (o+12) x) { a with hl:=a.hl.set 6 x } :=
 ⟨ZT _ _ _ _ _ _ h.obj,(by rw[List.length_set];exact h.X3),h.V5,YG h.hl 6 x,ZQ h.gl _ (by have:=h.V5;omega),Z9 h.nx (by omega),Z9 h.nu (by omega),Z9 h.own (by omega),Z9 h.se (by omega),Z9 h.ch (by omega),Z9 h.sz (by omega),Z9 h.E (by omega),Z9 h.H (by omega),Z9 h.V (by omega),Z9 h.St (by omega)⟩
theorem IP (h:ZK w b o T c a) (x:Value):ZK (w.setCell ⟨b,o+13,none⟩ x) b o T (c.setIfInBounds (o+13) x) { a with hl:=a.hl.set 7 x } :=
 ⟨ZT _ _ _ _ _ _ h.obj,(by rw[List.length_set];exact h.X3),h.V5,YG h.hl 7 x,ZQ h.gl _ (by have:=h.V5;omega),Z9 h.nx (by omega),Z9 h.nu (by omega),Z9 h.own (by omega),Z9 h.se (by omega),Z9 h.ch (by omega),Z9 h.sz (by omega),Z9 h.E (by omega),Z9 h.H (by omega),Z9 h.V (by omega),Z9 h.St (by omega)⟩
theorem IM (h:ZK w b o T c a) (x:Value):ZK (w.setCell ⟨b,o+14,none⟩ x) b o T (c.setIfInBounds (o+14) x) { a with gl:=a.gl.set 0 x } :=
 ⟨ZT _ _ _ _ _ _ h.obj,h.X3,(by rw[List.length_set];exact h.V5),ZQ h.hl _ (by have:=h.X3;omega),YG h.gl 0 x,Z9 h.nx (by omega),Z9 h.nu (by omega),Z9 h.own (by omega),Z9 h.se (by omega),Z9 h.ch (by omega),Z9 h.sz (by omega),Z9 h.E (by omega),Z9 h.H (by omega),Z9 h.V (by omega),Z9 h.St (by omega)⟩
theorem IL (h:ZK w b o T c a) (x:Value):ZK (w.setCell ⟨b,o+15,none⟩ x) b o T (c.setIfInBounds (o+15) x) { a with gl:=a.gl.set 1 x } :=
 ⟨ZT _ _ _ _ _ _ h.obj,h.X3,(by rw[List.length_set];exact h.V5),ZQ h.hl _ (by have:=h.X3;omega),YG h.gl 1 x,Z9 h.nx (by omega),Z9 h.nu (by omega),Z9 h.own (by omega),Z9 h.se (by omega),Z9 h.ch (by omega),Z9 h.sz (by omega),Z9 h.E (by omega),Z9 h.H (by omega),Z9 h.V (by omega),Z9 h.St (by omega)⟩
theorem IK (h:ZK w b o T c a) (x:Value):ZK (w.setCell ⟨b,o+16,none⟩ x) b o T (c.setIfInBounds (o+16) x) { a with gl:=a.gl.set 2 x } :=
 ⟨ZT _ _ _ _ _ _ h.obj,h.X3,(by rw[List.length_set];exact h.V5),ZQ h.hl _ (by have:=h.X3;omega),YG h.gl 2 x,Z9 h.nx (by omega),Z9 h.nu (by omega),Z9 h.own (by omega),Z9 h.se (by omega),Z9 h.ch (by omega),Z9 h.sz (by omega),Z9 h.E (by omega),Z9 h.H (by omega),Z9 h.V (by omega),Z9 h.St (by omega)⟩
theorem Q4 (h:ZK w b o T c a) {l:List Value} (hA:At w' b (o+6) T c' l) (hl:l.length=8) (sm:Same (o+6) 8 c c'):ZK w' b o T c' { a with hl:=l } :=
 ⟨hA.obj,hl,h.V5,hA.is,fun i v hv=>(sm.2 _ (by have:=lt_of_some (l:=a.gl) hv;have:=h.V5;omega)).trans (h.gl i v hv),(sm.2 _ (by omega)).trans h.nx,(sm.2 _ (by omega)).trans h.nu,(sm.2 _ (by omega)).trans h.own,(sm.2 _ (by omega)).trans h.se,(sm.2 _ (by omega)).trans h.ch,(sm.2 _ (by omega)).trans h.sz,(sm.2 _ (by omega)).trans h.E,(sm.2 _ (by omega)).trans h.H,(sm.2 _ (by omega)).trans h.V,(sm.2 _ (by omega)).trans h.St⟩
theorem IJ (h:ZK w b o T c a) {l:List Value} (hA:At w' b (o+14) T c' l) (hl:l.length=3) (sm:Same (o+14) 3 c c'):ZK w' b o T c' { a with gl:=l } :=
 ⟨hA.obj,h.X3,hl,fun i v hv=>(sm.2 _ (by have:=lt_of_some (l:=a.hl) hv;have:=h.X3;omega)).trans (h.hl i v hv),hA.is,(sm.2 _ (by omega)).trans h.nx,(sm.2 _ (by omega)).trans h.nu,(sm.2 _ (by omega)).trans h.own,(sm.2 _ (by omega)).trans h.se,(sm.2 _ (by omega)).trans h.ch,(sm.2 _ (by omega)).trans h.sz,(sm.2 _ (by omega)).trans h.E,(sm.2 _ (by omega)).trans h.H,(sm.2 _ (by omega)).trans h.V,(sm.2 _ (by omega)).trans h.St⟩
end ZK
theorem len8 {l:List Value} (h:l.length=8):∃ a b c d e f g i,l=[a,b,c,d,e,f,g,i]:=by
 match l,h with
 | [a,b,c,d,e,f,g,i],_=>exact⟨a,b,c,d,e,f,g,i,rfl⟩
def XJ (L:Loc) (b o:Nat) (T:TypeId) (cs:Array Value) (w w':World) (X:Mm->DV->Prop):Prop :=
 ∃ s' cs' a',Z8 w' L s'/\Only (L.and b) w w'/\ZK w' b o T cs' a'/\Same o 21 cs cs'/\X s' a'
def Aj (L:Loc) (b o:Nat) (T:TypeId) (c c':Array Value) (s s':Mm) (a a':DV):Nat->World->Prop
 | 0,w=>Z8 w L s/\ZK w b o T c a
 | 1,w=>Z8 w L s'/\ZK w b o T c a
 | _,w=>Z8 w L s'/\ZK w b o T c' a'
theorem QI {L:Loc} {b o:Nat} {T:TypeId} {c c':Array Value} {s s':Mm} {a a':DV} (x y:World) (p:Nat) (g:Grown x y) (k:Aj L b o T c c' s s' a a' p x):Aj L b o T c c' s s' a a' p y:=by
 match p,k with
 | 0,k=>exact⟨k.1.below g,k.2.grown g⟩
 | 1,k=>exact⟨k.1.below g,k.2.grown g⟩
 | p+2,k=>exact⟨k.1.below g,k.2.grown g⟩
def pG (H:Int) (own:Bool):DV:=⟨0,H,own,0,0,0,Yr 0 0 0 0 0 false false false,Vl 0 0 0,0,0,0,0⟩
def I7 (H:Int) (own:Bool):Obj:=.cells #[iV 0,.int .u64 H,.bool own,.int .u64 0,iV 0,iV 0,iV 0,.int .u64 0,iV 0,iV 0,.int .u64 0,.bool false,.bool false,.bool false,iV 0,iV 0,.int .u64 0,iV 0,.int .u64 0,iV 0,iV 0] 132
theorem NF (H:Int) (own:Bool) (w:World) :
 Calls Tryz.prog 71 #[.int .u64 H,.bool own] w fun e w'=>e=.returned (pP w.heap.size 0)/\w'=w.alloc (I7 H own):=by
 unfold I7
 go_enter Tryz.func71,Tryz.ntmps71
 go_wp2
 go_ret
 exact⟨rfl,rfl⟩
theorem NI (H:Int) (own:Bool) (w:World):∃ cs,ZK (w.alloc (I7 H own)) w.heap.size 0 132 cs (pG H own):=by
 refine⟨_,Go.Deep.blk_alloc_new _ _,rfl,rfl,fun i v hv=>?_,fun i v hv=>?_,rfl,rfl,rfl,rfl,rfl,rfl,rfl,rfl,rfl,rfl⟩
 . have hl:i<8:=lt_of_some hv
   match i,hl with
   | 0,_=>exact hv
   | 1,_=>exact hv
   | 2,_=>exact hv
   | 3,_=>exact hv
   | 4,_=>exact hv
   | 5,_=>exact hv
   | 6,_=>exact hv
   | 7,_=>exact hv
 . have hl:i<3:=lt_of_some hv
   match i,hl with
   | 0,_=>exact hv
   | 1,_=>exact hv
   | 2,_=>exact hv
theorem QO {w:World} {b o:Nat} {T:TypeId} {cs:Array Value} {a:DV} (hi:ZK w b o T cs a) (hnx:a.nx=7) :
 Calls Tryz.prog 147 #[pP b o] w fun e w'=>e=.returned (.agg #[iV a.E,.int .u64 a.H,iV a.V,iV a.St])/\Below w.heap.size w w':=by
 have i1:=hi.grown (ZY _ (.cells #[iV 0,.int .u64 0,iV 0,iV 0] 33))
 have k0:=i1.Zz
 rw[hnx] at k0
 have k1:=i1.BF
 have k2:=i1.BP
 have k3:=i1.BD
 have k4:=i1.QV
 go_enter Tryz.func147,Tryz.ntmps147
 go_wp2
 exact bodyPost_ret (v:=.agg #[iV a.E,.int .u64 a.H,iV a.V,iV a.St]) (by simp[results,Tryz.results147,go_sem]) rfl ⟨rfl,Z4 (Below.refl _ _) _⟩
end Go.Proofs.YtpbghmeikcphnabGreat
