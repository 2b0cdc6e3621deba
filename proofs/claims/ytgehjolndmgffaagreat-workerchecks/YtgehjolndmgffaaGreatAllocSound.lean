import Derived.Test.YtgehjolndmgffaaGreatPlaceSee
import Derived.Test.YtgehjolndmgffaaGreatStruct
import Derived.Test.YtgehjolndmgffaaGreatPlaceTurn
import Derived.Test.YtgehjolndmgffaaGreatBoth
import Derived.Test.YtgehjolndmgffaaGreatSlotTurnS
import Derived.Test.YtgehjolndmgffaaGreatLayRef
namespace Go.Proofs.YtgehjolndmgffaaGreat
open Go.RowKit
section
set_option maxHeartbeats 1000000 in
theorem NZ {t n k m:Nat} (hg:Good t n k m 100 600 3) (w:World) :
 Calls Tryz.prog 20 #[iV t,iV n,iV k,iV m] w fun e w'=>∃ L:Loc,e=.returned (.tuple #[eV t n k m 100 600 3 L.p 0,.bool true])/\Z8 w' L (Mm.laid t n (ZI t n k m) n)/\Below w.heap.size w w'/\∀ k,L.has k->w.heap.size<=k:=by
 have HG:Hid (Good t n k m 100 600 3):=hg
 clear hg
 go_enter Tryz.func20,Tryz.ntmps20
 go_wp2_with (go_at_call 36;refine(LV HG.out _).mono ?_;rintro e w2 ⟨L,rfl,m2,b2,f2⟩;have cc:=XR.new.grown b2;rw[Go.Deep.nblk_alloc] at cc;have x0:=cc.c0;have x1:=cc.c1;have x2:=cc.c2;have x3:=cc.c3;have x4:=cc.c4;have x5:=cc.c5;have x6:=cc.c6;have hk:w2.heap[w.heap.size]?=some (.cells #[iV 0,iV 0,iV 0,iV 0,iV 0,iV 0,iV 0,.pointer none,iV 0] 27 (0,0)):=(b2.block _ (by rw[Go.Deep.nblk_alloc,Go.Deep.nblk_alloc];omega)).trans ((Go.Deep.blk_alloc_lt _ _ _ (by rw[Go.Deep.nblk_alloc];omega)).trans (Go.Deep.blk_alloc_new _ _));have q0:=ZW (o:=0) hk rfl;have q1:=ZW (o:=1) hk rfl;have q2:=ZW (o:=2) hk rfl;have q3:=ZW (o:=3) hk rfl;have q4:=ZW (o:=4) hk rfl;have q5:=ZW (o:=5) hk rfl;have q6:=ZW (o:=6) hk rfl;have q7:=ZW (o:=7) hk rfl;have q8:=ZW (o:=8) hk rfl;have kf:=YV hk)
 have hb:¬ L.has w.heap.size:=fun hh=>by have:=f2 _ hh;rw[Go.Deep.nblk_alloc,Go.Deep.nblk_alloc] at this;omega
 have B2:Below w.heap.size w w2:=grow (Z7 (Z7 (Below.refl _ _) _) _) b2
 refine bodyPost_ret (v:=.tuple #[eV t n k m 100 600 3 L.p 0,.bool true]) (by simp[results,Tryz.results20,go_sem,q0,q1,q2,q3,q4,q5,q6,q7,q8]) rfl ⟨L,rfl,(((((((((m2.ZY hb _ _).ZY hb _ _).ZY hb _ _).ZY hb _ _).ZY hb _ _).ZY hb _ _).ZY hb _ _).ZY hb _ _).ZY hb _ _),?_,fun k hk=>?_⟩
 . exact(Z4 (Z4 (Z4 (Z4 (Z4 (Z4 (Z4 (Z4 (Z4 B2 (Nat.le_refl _) _ _) (Nat.le_refl _) _ _) (Nat.le_refl _) _ _) (Nat.le_refl _) _ _) (Nat.le_refl _) _ _) (Nat.le_refl _) _ _) (Nat.le_refl _) _ _) (Nat.le_refl _) _ _) (Nat.le_refl _) _ _)
 . have:=f2 _ hk;rw[Go.Deep.nblk_alloc,Go.Deep.nblk_alloc] at this;omega
theorem Yk {w:World} {L:Loc} {s:Mm} (h:Z8 w L s) (c0 c1 c2 c3 c4 c5 c6 who:Int) (x:Nat) (hx:s.steps=x) :
 Calls Tryz.prog 11 #[eV c0 c1 c2 c3 c4 c5 c6 L.p who] w fun e w'=>e=.returned (iV x)/\Below w.heap.size w w':=by
 have k:=FP h c0 c1 c2 c3 c4 c5 c6 who
 rwa [hx] at k
theorem uu (x m:Int) (b:Nat) (hb:b<63) (hm:m=2 ^ b - 1):∃ y:Nat,bits .and .i64 x m=(y:Int)/\(y:Int)<=m:=by
 obtain⟨y,h1,_,h2⟩:=uq x m b 0 hb hm
 exact⟨y,by simpa using h1,by simpa using h2⟩
end
section
section
variable {w0 w w':World} {L:Loc} {bE t n k m σ:Nat} {s:Mm} {y:Y}
def Pl.told:Pl->Nat × Nat × Bool
 | .XO a i=>(a,i,true)
 | _=>(0,0,false)
theorem Og {b o:Nat} {T:TypeId} {cs:Array Value} {κ:Nat} {τ:Pl} (hi:EJ w b o T cs κ τ) (a i:Nat) (d:Bool) (ht:τ.told=(a,i,d)) :
 Calls Tryz.prog 148 #[pP b o] w fun e w'=>e=.returned (.tuple #[.agg #[iV a,iV i],.bool d])/\Below w.heap.size w w':=by
 obtain⟨l,ha,hl⟩:=hi
 by_cases hw:∃ x j,τ=.XO x j
 . obtain⟨x,j,rfl⟩:=hw
   obtain⟨rfl,rfl,rfl⟩:x=a/\j=i/\true=d:=by simpa [Pl.told] using ht
   obtain⟨sn,ch,ws,rfl⟩:=hl
   have i1:=ha.grown (Z7 (Below.refl _ _) (.cells #[iV 0,iV 0] 151))
   have k0:=i1.cell0 rfl
   have k5:=i1.cell 5 rfl
   have k6:=i1.cell 6 rfl
   go_enter Tryz.func148,Tryz.ntmps148
   go_wp2
   refine bodyPost_ret (v:=.tuple #[.agg #[iV x,iV j],.bool true]) (by simp[results,Tryz.results148,go_sem]) rfl ?_
   exact⟨rfl,Z7 (Below.refl _ _) _⟩
 . have hn:∃ nx:Int,(nx != 7)=true/\∃ sn ch ws sa sb,l=Yw nx κ sn ch ws sa sb:=by
    cases τ with
    | see=>obtain⟨sn,ch,ws,sa,sb,rfl⟩:=hl;exact⟨0,rfl,sn,ch,ws,sa,sb,rfl⟩
    | ask i=>obtain⟨ws,sa,sb,rfl⟩:=hl;exact⟨1,rfl,_,_,_,_,_,rfl⟩
    | grow i c=>obtain⟨sn,sa,sb,rfl⟩:=hl;exact⟨2,rfl,_,_,_,_,_,rfl⟩
    | look sn i=>obtain⟨ws,sa,sb,rfl⟩:=hl;exact⟨3,rfl,_,_,_,_,_,rfl⟩
    | take sn i c=>obtain⟨sa,sb,rfl⟩:=hl;exact⟨4,rfl,_,_,_,_,_,rfl⟩
    | opn sn i c=>obtain⟨sa,sb,rfl⟩:=hl;exact⟨5,rfl,_,_,_,_,_,rfl⟩
    | Tc sn i c=>obtain⟨sa,sb,rfl⟩:=hl;exact⟨6,rfl,_,_,_,_,_,rfl⟩
    | XO x j=>exact absurd ⟨x,j,rfl⟩ hw
    | none=>obtain⟨sn,ch,ws,sa,sb,rfl⟩:=hl;exact⟨8,rfl,_,_,_,_,_,rfl⟩
   have ht':τ.told=(0,0,false):=by
    cases τ with
    | XO x j=>exact absurd ⟨x,j,rfl⟩ hw
    | _=>rfl
   rw[ht'] at ht
   obtain⟨rfl,rfl,rfl⟩:0=a/\0=i/\false=d:=by simpa using ht
   obtain⟨nx,hnx,sn,ch,ws,sa,sb,rfl⟩:=hn
   clear ht ht' hw hl
   have i1:=ha.grown (Z7 (Below.refl _ _) (.cells #[iV 0,iV 0] 151))
   have k0:=i1.cell0 rfl
   go_enter Tryz.func148,Tryz.ntmps148
   go_wp2
   refine bodyPost_ret (v:=.tuple #[.agg #[iV 0,iV 0],.bool false]) (by simp[results,Tryz.results148,go_sem]) rfl ?_
   exact⟨rfl,Z7 (Below.refl _ _) _⟩
def L9 (κ:Nat):Obj:=.cells #[iV 0,iV κ,.int .u64 0,iV 0,.int .u64 0,iV 0,iV 0] 153
theorem PI (κ:Nat) (w:World) :
 Calls Tryz.prog 146 #[iV κ] w fun e w'=>e=.returned (pP w.heap.size 0)/\w'=w.alloc (L9 κ):=by
 unfold L9
 go_enter Tryz.func146,Tryz.ntmps146
 go_wp2
 go_ret
 exact⟨rfl,rfl⟩
end
inductive Goes (k m κ:Nat) (bs:Nat->Nat):Nat->Y->Pl->Y->Pl->Prop where
 | one {y:Y} {τ:Pl} {y':Y} {τ':Pl} (ho:τ.over=false) (ht:turn k m κ bs y τ=(y',τ')) (h:τ'.over=true):Goes k m κ bs 1 y τ y' τ'
 | more {N:Nat} {y:Y} {τ:Pl} {y1:Y} {τ1:Pl} {y':Y} {τ':Pl} (ho:τ.over=false) (ht:turn k m κ bs y τ=(y1,τ1)) (h:τ1.over=false) (g:Goes k m κ bs N y1 τ1 y' τ'):Goes k m κ bs (N+1) y τ y' τ'
end
section
structure AV where
 nx:Int
 tk:List Value
 pl:List Value
 gv:List Value
 kd:Int
 sz:Int
 sl:Int
 gn:Int
 own:Bool
 sa:Int
 sc:Int
 E:Int
 H:Int
 V:Int
 St:Int
structure ZM (w:World) (b o:Nat) (T:TypeId) (c:Array Value) (a:AV):Prop where
 obj:w.heap[b]?=some (.cells c T (0,0))
 Xj:a.tk.length=4
 Xn:a.pl.length=7
 Xm:a.gv.length=3
 nx:c[o]?=some (iV a.nx)
 tk:∀ i v,a.tk[i]?=some v->c[o+1+i]?=some v
 pl:∀ i v,a.pl[i]?=some v->c[o+5+i]?=some v
 gv:∀ i v,a.gv[i]?=some v->c[o+12+i]?=some v
 kd:c[o+15]?=some (iV a.kd)
 sz:c[o+16]?=some (iV a.sz)
 sl:c[o+17]?=some (iV a.sl)
 gn:c[o+18]?=some (iV a.gn)
 own:c[o+19]?=some (.bool a.own)
 sa:c[o+20]?=some (iV a.sa)
 sc:c[o+21]?=some (iV a.sc)
 E:c[o+22]?=some (iV a.E)
 H:c[o+23]?=some (.int .u64 a.H)
 V:c[o+24]?=some (iV a.V)
 St:c[o+25]?=some (iV a.St)
theorem Z9 {c:Array Value} {i j:Nat} {v x:Value} (h:c[i]?=some x) (hn:j≠i):(c.setIfInBounds j v)[i]?=some x:=by
 rw[Array.getElem?_setIfInBounds_ne hn];exact h
theorem Yl {c:Array Value} {i:Nat} {x:Value} (v:Value) (h:c[i]?=some x):(c.setIfInBounds i v)[i]?=some v :=
 Array.getElem?_setIfInBounds_self_of_lt (Array.getElem?_eq_some_iff.1 h).1
theorem lt_of_some {α:Type} {l:List α} {i:Nat} {v:α} (h:l[i]?=some v):i<l.length:=(List.getElem?_eq_some_iff.1 h).1
theorem YU {c:Array Value} {l:List Value} {p:Nat} (h:∀ i v,l[i]?=some v->c[p+i]?=some v) (i:Nat) (v:Value):∀ j u,(l.set i v)[j]?=some u->(c.setIfInBounds (p+i) v)[p+j]?=some u:=by
 intro j u hj
 by_cases e:i=j
 . subst e
   have hl:i<l.length:=by have:=lt_of_some hj;rwa [List.length_set] at this
   rw[List.getElem?_set_self hl] at hj
   have h1:=h i _ (List.getElem?_eq_getElem hl)
   rw[<- hj]
   exact Yl v h1
 . rw[List.getElem?_set_ne e] at hj
   exact Z9 (h j u hj) (by omega)
theorem ZU {c:Array Value} {l:List Value} {p q:Nat} (h:∀ i v,l[i]?=some v->c[p+i]?=some v) (v:Value) (hq:q<p\/p+l.length<=q):∀ j u,l[j]?=some u->(c.setIfInBounds q v)[p+j]?=some u :=
 fun j u hj=>Z9 (h j u hj) (by have:=lt_of_some hj;omega)
namespace ZM
variable {w w':World} {b o:Nat} {T:TypeId} {c c':Array Value} {a:AV}
theorem lt (h:ZM w b o T c a):b<w.heap.size:=XP h.obj
theorem fz (h:ZM w b o T c a) (i:Nat):w.frozen? ⟨b,i,none⟩=false:=YV h.obj i
theorem of_block (h:ZM w b o T c a) (e:w'.heap[b]?=w.heap[b]?):ZM w' b o T c a :=
 { h with obj:=e.trans h.obj }
theorem grown (h:ZM w b o T c a) (g:Below w.heap.size w w'):ZM w' b o T c a:=h.of_block (g.block _ h.lt)
theorem drew (h:ZM w b o T c a):ZM w.drew b o T c a:=h.of_block rfl
theorem only {S:Nat->Prop} (h:ZM w b o T c a) (g:Only S w w') (hs:¬ S b):ZM w' b o T c a:=h.of_block (g.block _ h.lt hs)
theorem zT (h:ZM w b o T c a):At w b (o+1) T c a.tk:=⟨h.obj,h.tk⟩
theorem zS (h:ZM w b o T c a):At w b (o+5) T c a.pl:=⟨h.obj,h.pl⟩
theorem xM (h:ZM w b o T c a):At w b (o+12) T c a.gv:=⟨h.obj,h.gv⟩
theorem Zr (h:ZM w b o T c a):w.cell? ⟨b,o,none⟩=some (iV a.nx):=ZW h.obj h.nx
theorem P6 (h:ZM w b o T c a):w.cell? ⟨b,o+15,none⟩=some (iV a.kd):=ZW h.obj h.kd
theorem WO (h:ZM w b o T c a):w.cell? ⟨b,o+16,none⟩=some (iV a.sz):=ZW h.obj h.sz
theorem Oi (h:ZM w b o T c a):w.cell? ⟨b,o+17,none⟩=some (iV a.sl):=ZW h.obj h.sl
theorem Dx (h:ZM w b o T c a):w.cell? ⟨b,o+18,none⟩=some (iV a.gn):=ZW h.obj h.gn
theorem QF (h:ZM w b o T c a):w.cell? ⟨b,o+19,none⟩=some (.bool a.own):=ZW h.obj h.own
theorem zQ (h:ZM w b o T c a):w.cell? ⟨b,o+20,none⟩=some (iV a.sa):=ZW h.obj h.sa
theorem xK (h:ZM w b o T c a):w.cell? ⟨b,o+21,none⟩=some (iV a.sc):=ZW h.obj h.sc
theorem D8 (h:ZM w b o T c a):w.cell? ⟨b,o+22,none⟩=some (iV a.E):=ZW h.obj h.E
theorem Eg (h:ZM w b o T c a):w.cell? ⟨b,o+23,none⟩=some (.int .u64 a.H):=ZW h.obj h.H
theorem D7 (h:ZM w b o T c a):w.cell? ⟨b,o+24,none⟩=some (iV a.V):=ZW h.obj h.V
theorem SN (h:ZM w b o T c a):w.cell? ⟨b,o+25,none⟩=some (iV a.St):=ZW h.obj h.St
theorem xJ (h:ZM w b o T c a):∃ v,w.cell? ⟨b,o+5,none⟩=some v:=⟨_,ZW (o:=o+5+0) h.obj (h.pl 0 _ (List.getElem?_eq_getElem (by rw[h.Xn];decide)))⟩
theorem xI (h:ZM w b o T c a):∃ v,w.cell? ⟨b,o+6,none⟩=some v:=⟨_,ZW (o:=o+5+1) h.obj (h.pl 1 _ (List.getElem?_eq_getElem (by rw[h.Xn];decide)))⟩
theorem xH (h:ZM w b o T c a):∃ v,w.cell? ⟨b,o+7,none⟩=some v:=⟨_,ZW (o:=o+5+2) h.obj (h.pl 2 _ (List.getElem?_eq_getElem (by rw[h.Xn];decide)))⟩
theorem xG (h:ZM w b o T c a):∃ v,w.cell? ⟨b,o+8,none⟩=some v:=⟨_,ZW (o:=o+5+3) h.obj (h.pl 3 _ (List.getElem?_eq_getElem (by rw[h.Xn];decide)))⟩
theorem xE (h:ZM w b o T c a):∃ v,w.cell? ⟨b,o+9,none⟩=some v:=⟨_,ZW (o:=o+5+4) h.obj (h.pl 4 _ (List.getElem?_eq_getElem (by rw[h.Xn];decide)))⟩
theorem xC (h:ZM w b o T c a):∃ v,w.cell? ⟨b,o+10,none⟩=some v:=⟨_,ZW (o:=o+5+5) h.obj (h.pl 5 _ (List.getElem?_eq_getElem (by rw[h.Xn];decide)))⟩
theorem xB (h:ZM w b o T c a):∃ v,w.cell? ⟨b,o+11,none⟩=some v:=⟨_,ZW (o:=o+5+6) h.obj (h.pl 6 _ (List.getElem?_eq_getElem (by rw[h.Xn];decide)))⟩
theorem xA (h:ZM w b o T c a):∃ v,w.cell? ⟨b,o+12,none⟩=some v:=⟨_,ZW (o:=o+12+0) h.obj (h.gv 0 _ (List.getElem?_eq_getElem (by rw[h.Xm];decide)))⟩
theorem xy (h:ZM w b o T c a):∃ v,w.cell? ⟨b,o+13,none⟩=some v:=⟨_,ZW (o:=o+12+1) h.obj (h.gv 1 _ (List.getElem?_eq_getElem (by rw[h.Xm];decide)))⟩
theorem xx (h:ZM w b o T c a):∃ v,w.cell? ⟨b,o+14,none⟩=some v:=⟨_,ZW (o:=o+12+2) h.obj (h.gv 2 _ (List.getElem?_eq_getElem (by rw[h.Xm];decide)))⟩
theorem Zl (h:ZM w b o T c a) (x:Int):ZM (w.setCell ⟨b,o,none⟩ (iV x)) b o T (c.setIfInBounds (o) (iV x)) { a with nx:=x } :=
 ⟨ZV _ _ _ _ _ _ h.obj,h.Xj,h.Xn,h.Xm,Yl _ h.nx,ZU h.tk _ (by have:=h.Xj;omega),ZU h.pl _ (by have:=h.Xn;omega),ZU h.gv _ (by have:=h.Xm;omega),Z9 h.kd (by omega),Z9 h.sz (by omega),Z9 h.sl (by omega),Z9 h.gn (by omega),Z9 h.own (by omega),Z9 h.sa (by omega),Z9 h.sc (by omega),Z9 h.E (by omega),Z9 h.H (by omega),Z9 h.V (by omega),Z9 h.St (by omega)⟩
theorem zO (h:ZM w b o T c a) (x:Int):ZM (w.setCell ⟨b,o+15,none⟩ (iV x)) b o T (c.setIfInBounds (o+15) (iV x)) { a with kd:=x } :=
 ⟨ZV _ _ _ _ _ _ h.obj,h.Xj,h.Xn,h.Xm,Z9 h.nx (by omega),ZU h.tk _ (by have:=h.Xj;omega),ZU h.pl _ (by have:=h.Xn;omega),ZU h.gv _ (by have:=h.Xm;omega),Yl _ h.kd,Z9 h.sz (by omega),Z9 h.sl (by omega),Z9 h.gn (by omega),Z9 h.own (by omega),Z9 h.sa (by omega),Z9 h.sc (by omega),Z9 h.E (by omega),Z9 h.H (by omega),Z9 h.V (by omega),Z9 h.St (by omega)⟩
theorem zN (h:ZM w b o T c a) (x:Int):ZM (w.setCell ⟨b,o+17,none⟩ (iV x)) b o T (c.setIfInBounds (o+17) (iV x)) { a with sl:=x } :=
 ⟨ZV _ _ _ _ _ _ h.obj,h.Xj,h.Xn,h.Xm,Z9 h.nx (by omega),ZU h.tk _ (by have:=h.Xj;omega),ZU h.pl _ (by have:=h.Xn;omega),ZU h.gv _ (by have:=h.Xm;omega),Z9 h.kd (by omega),Z9 h.sz (by omega),Yl _ h.sl,Z9 h.gn (by omega),Z9 h.own (by omega),Z9 h.sa (by omega),Z9 h.sc (by omega),Z9 h.E (by omega),Z9 h.H (by omega),Z9 h.V (by omega),Z9 h.St (by omega)⟩
theorem zM (h:ZM w b o T c a) (x:Int):ZM (w.setCell ⟨b,o+18,none⟩ (iV x)) b o T (c.setIfInBounds (o+18) (iV x)) { a with gn:=x } :=
 ⟨ZV _ _ _ _ _ _ h.obj,h.Xj,h.Xn,h.Xm,Z9 h.nx (by omega),ZU h.tk _ (by have:=h.Xj;omega),ZU h.pl _ (by have:=h.Xn;omega),ZU h.gv _ (by have:=h.Xm;omega),Z9 h.kd (by omega),Z9 h.sz (by omega),Z9 h.sl (by omega),Yl _ h.gn,Z9 h.own (by omega),Z9 h.sa (by omega),Z9 h.sc (by omega),Z9 h.E (by omega),Z9 h.H (by omega),Z9 h.V (by omega),Z9 h.St (by omega)⟩
theorem zL (h:ZM w b o T c a) (x:Int):ZM (w.setCell ⟨b,o+20,none⟩ (iV x)) b o T (c.setIfInBounds (o+20) (iV x)) { a with sa:=x } :=
 ⟨ZV _ _ _ _ _ _ h.obj,h.Xj,h.Xn,h.Xm,Z9 h.nx (by omega),ZU h.tk _ (by have:=h.Xj;omega),ZU h.pl _ (by have:=h.Xn;omega),ZU h.gv _ (by have:=h.Xm;omega),Z9 h.kd (by omega),Z9 h.sz (by omega),Z9 h.sl (by omega),Z9 h.gn (by omega),Z9 h.own (by omega),Yl _ h.sa,Z9 h.sc (by omega),Z9 h.E (by omega),Z9 h.H (by omega),Z9 h.V (by omega),Z9 h.St (by omega)⟩
theorem zK (h:ZM w b o T c a) (x:Int):ZM (w.setCell ⟨b,o+21,none⟩ (iV x)) b o T (c.setIfInBounds (o+21) (iV x)) { a with sc:=x } :=
 ⟨ZV _ _ _ _ _ _ h.obj,h.Xj,h.Xn,h.Xm,Z9 h.nx (by omega),ZU h.tk _ (by have:=h.Xj;omega),ZU h.pl _ (by have:=h.Xn;omega),ZU h.gv _ (by have:=h.Xm;omega),Z9 h.kd (by omega),Z9 h.sz (by omega),Z9 h.sl (by omega),Z9 h.gn (by omega),Z9 h.own (by omega),Z9 h.sa (by omega),Yl _ h.sc,Z9 h.E (by omega),Z9 h.H (by omega),Z9 h.V (by omega),Z9 h.St (by omega)⟩
theorem OJ (h:ZM w b o T c a) (x:Int):ZM (w.setCell ⟨b,o+22,none⟩ (iV x)) b o T (c.setIfInBounds (o+22) (iV x)) { a with E:=x } :=
 ⟨ZV _ _ _ _ _ _ h.obj,h.Xj,h.Xn,h.Xm,Z9 h.nx (by omega),ZU h.tk _ (by have:=h.Xj;omega),ZU h.pl _ (by have:=h.Xn;omega),ZU h.gv _ (by have:=h.Xm;omega),Z9 h.kd (by omega),Z9 h.sz (by omega),Z9 h.sl (by omega),Z9 h.gn (by omega),Z9 h.own (by omega),Z9 h.sa (by omega),Z9 h.sc (by omega),Yl _ h.E,Z9 h.H (by omega),Z9 h.V (by omega),Z9 h.St (by omega)⟩
theorem QE (h:ZM w b o T c a) (x:Int):ZM (w.setCell ⟨b,o+23,none⟩ (.int .u64 x)) b o T (c.setIfInBounds (o+23) (.int .u64 x)) { a with H:=x } :=
 ⟨ZV _ _ _ _ _ _ h.obj,h.Xj,h.Xn,h.Xm,Z9 h.nx (by omega),ZU h.tk _ (by have:=h.Xj;omega),ZU h.pl _ (by have:=h.Xn;omega),ZU h.gv _ (by have:=h.Xm;omega),Z9 h.kd (by omega),Z9 h.sz (by omega),Z9 h.sl (by omega),Z9 h.gn (by omega),Z9 h.own (by omega),Z9 h.sa (by omega),Z9 h.sc (by omega),Z9 h.E (by omega),Yl _ h.H,Z9 h.V (by omega),Z9 h.St (by omega)⟩
theorem OI (h:ZM w b o T c a) (x:Int):ZM (w.setCell ⟨b,o+24,none⟩ (iV x)) b o T (c.setIfInBounds (o+24) (iV x)) { a with V:=x } :=
 ⟨ZV _ _ _ _ _ _ h.obj,h.Xj,h.Xn,h.Xm,Z9 h.nx (by omega),ZU h.tk _ (by have:=h.Xj;omega),ZU h.pl _ (by have:=h.Xn;omega),ZU h.gv _ (by have:=h.Xm;omega),Z9 h.kd (by omega),Z9 h.sz (by omega),Z9 h.sl (by omega),Z9 h.gn (by omega),Z9 h.own (by omega),Z9 h.sa (by omega),Z9 h.sc (by omega),Z9 h.E (by omega),Z9 h.H (by omega),Yl _ h.V,Z9 h.St (by omega)⟩
theorem Vs (h:ZM w b o T c a) (x:Int):ZM (w.setCell ⟨b,o+25,none⟩ (iV x)) b o T (c.setIfInBounds (o+25) (iV x)) { a with St:=x } :=
 ⟨ZV _ _ _ _ _ _ h.obj,h.Xj,h.Xn,h.Xm,Z9 h.nx (by omega),ZU h.tk _ (by have:=h.Xj;omega),ZU h.pl _ (by have:=h.Xn;omega),ZU h.gv _ (by have:=h.Xm;omega),Z9 h.kd (by omega),Z9 h.sz (by omega),Z9 h.sl (by omega),Z9 h.gn (by omega),Z9 h.own (by omega),Z9 h.sa (by omega),Z9 h.sc (by omega),Z9 h.E (by omega),Z9 h.H (by omega),Z9 h.V (by omega),Yl _ h.St⟩
theorem Dv (h:ZM w b o T c a) (x:Value):ZM (w.setCell ⟨b,o+5,none⟩ x) b o T (c.setIfInBounds (o+5) x) { a with pl:=a.pl.set 0 x } :=
 ⟨ZV _ _ _ _ _ _ h.obj,h.Xj,(by rw[List.length_set];exact h.Xn),h.Xm,Z9 h.nx (by omega),ZU h.tk _ (by have:=h.Xj;omega),YU h.pl 0 x,ZU h.gv _ (by have:=h.Xm;omega),Z9 h.kd (by omega),Z9 h.sz (by omega),Z9 h.sl (by omega),Z9 h.gn (by omega),Z9 h.own (by omega),Z9 h.sa (by omega),Z9 h.sc (by omega),Z9 h.E (by omega),Z9 h.H (by omega),Z9 h.V (by omega),Z9 h.St (by omega)⟩
theorem Du (h:ZM w b o T c a) (x:Value):ZM (w.setCell ⟨b,o+6,none⟩ x) b o T (c.setIfInBounds (o+6) x) { a with pl:=a.pl.set 1 x } :=
 ⟨ZV _ _ _ _ _ _ h.obj,h.Xj,(by rw[List.length_set];exact h.Xn),h.Xm,Z9 h.nx (by omega),ZU h.tk _ (by have:=h.Xj;omega),YU h.pl 1 x,ZU h.gv _ (by have:=h.Xm;omega),Z9 h.kd (by omega),Z9 h.sz (by omega),Z9 h.sl (by omega),Z9 h.gn (by omega),Z9 h.own (by omega),Z9 h.sa (by omega),Z9 h.sc (by omega),Z9 h.E (by omega),Z9 h.H (by omega),Z9 h.V (by omega),Z9 h.St (by omega)⟩
theorem Dt (h:ZM w b o T c a) (x:Value):ZM (w.setCell ⟨b,o+7,none⟩ x) b o T (c.setIfInBounds (o+7) x) { a with pl:=a.pl.set 2 x } :=
 ⟨ZV _ _ _ _ _ _ h.obj,h.Xj,(by rw[List.length_set];exact h.Xn),h.Xm,Z9 h.nx (by omega),ZU h.tk _ (by have:=h.Xj;omega),YU h.pl 2 x,ZU h.gv _ (by have:=h.Xm;omega),Z9 h.kd (by omega),Z9 h.sz (by omega),Z9 h.sl (by omega),Z9 h.gn (by omega),Z9 h.own (by omega),Z9 h.sa (by omega),Z9 h.sc (by omega),Z9 h.E (by omega),Z9 h.H (by omega),Z9 h.V (by omega),Z9 h.St (by omega)⟩
theorem Dq (h:ZM w b o T c a) (x:Value):ZM (w.setCell ⟨b,o+8,none⟩ x) b o T (c.setIfInBounds (o+8) x) { a with pl:=a.pl.set 3 x } :=
 ⟨ZV _ _ _ _ _ _ h.obj,h.Xj,(by rw[List.length_set];exact h.Xn),h.Xm,Z9 h.nx (by omega),ZU h.tk _ (by have:=h.Xj;omega),YU h.pl 3 x,ZU h.gv _ (by have:=h.Xm;omega),Z9 h.kd (by omega),Z9 h.sz (by omega),Z9 h.sl (by omega),Z9 h.gn (by omega),Z9 h.own (by omega),Z9 h.sa (by omega),Z9 h.sc (by omega),Z9 h.E (by omega),Z9 h.H (by omega),Z9 h.V (by omega),Z9 h.St (by omega)⟩
theorem Dn (h:ZM w b o T c a) (x:Value):ZM (w.setCell ⟨b,o+9,none⟩ x) b o T (c.setIfInBounds (o+9) x) { a with pl:=a.pl.set 4 x } :=
 ⟨ZV _ _ _ _ _ _ h.obj,h.Xj,(by rw[List.length_set];exact h.Xn),h.Xm,Z9 h.nx (by omega),ZU h.tk _ (by have:=h.Xj;omega),YU h.pl 4 x,ZU h.gv _ (by have:=h.Xm;omega),Z9 h.kd (by omega),Z9 h.sz (by omega),Z9 h.sl (by omega),Z9 h.gn (by omega),Z9 h.own (by omega),Z9 h.sa (by omega),Z9 h.sc (by omega),Z9 h.E (by omega),Z9 h.H (by omega),Z9 h.V (by omega),Z9 h.St (by omega)⟩
theorem Dl (h:ZM w b o T c a) (x:Value):ZM (w.setCell ⟨b,o+10,none⟩ x) b o T (c.setIfInBounds (o+10) x) { a with pl:=a.pl.set 5 x } :=
 ⟨ZV _ _ _ _ _ _ h.obj,h.Xj,(by rw[List.length_set];exact h.Xn),h.Xm,Z9 h.nx (by omega),ZU h.tk _ (by have:=h.Xj;omega),YU h.pl 5 x,ZU h.gv _ (by have:=h.Xm;omega),Z9 h.kd (by omega),Z9 h.sz (by omega),Z9 h.sl (by omega),Z9 h.gn (by omega),Z9 h.own (by omega),Z9 h.sa (by omega),Z9 h.sc (by omega),Z9 h.E (by omega),Z9 h.H (by omega),Z9 h.V (by omega),Z9 h.St (by omega)⟩
theorem Dk (h:ZM w b o T c a) (x:Value):ZM (w.setCell ⟨b,o+11,none⟩ x) b o T (c.setIfInBounds (o+11) x) { a with pl:=a.pl.set 6 x } :=
 ⟨ZV _ _ _ _ _ _ h.obj,h.Xj,(by rw[List.length_set];exact h.Xn),h.Xm,Z9 h.nx (by omega),ZU h.tk _ (by have:=h.Xj;omega),YU h.pl 6 x,ZU h.gv _ (by have:=h.Xm;omega),Z9 h.kd (by omega),Z9 h.sz (by omega),Z9 h.sl (by omega),Z9 h.gn (by omega),Z9 h.own (by omega),Z9 h.sa (by omega),Z9 h.sc (by omega),Z9 h.E (by omega),Z9 h.H (by omega),Z9 h.V (by omega),Z9 h.St (by omega)⟩
theorem Dj (h:ZM w b o T c a) (x:Value):ZM (w.setCell ⟨b,o+12,none⟩ x) b o T (c.setIfInBounds (o+12) x) { a with gv:=a.gv.set 0 x } :=
 ⟨ZV _ _ _ _ _ _ h.obj,h.Xj,h.Xn,(by rw[List.length_set];exact h.Xm),Z9 h.nx (by omega),ZU h.tk _ (by have:=h.Xj;omega),ZU h.pl _ (by have:=h.Xn;omega),YU h.gv 0 x,Z9 h.kd (by omega),Z9 h.sz (by omega),Z9 h.sl (by omega),Z9 h.gn (by omega),Z9 h.own (by omega),Z9 h.sa (by omega),Z9 h.sc (by omega),Z9 h.E (by omega),Z9 h.H (by omega),Z9 h.V (by omega),Z9 h.St (by omega)⟩
theorem Di (h:ZM w b o T c a) (x:Value):ZM (w.setCell ⟨b,o+13,none⟩ x) b o T (c.setIfInBounds (o+13) x) { a with gv:=a.gv.set 1 x } :=
 ⟨ZV _ _ _ _ _ _ h.obj,h.Xj,h.Xn,(by rw[List.length_set];exact h.Xm),Z9 h.nx (by omega),ZU h.tk _ (by have:=h.Xj;omega),ZU h.pl _ (by have:=h.Xn;omega),YU h.gv 1 x,Z9 h.kd (by omega),Z9 h.sz (by omega),Z9 h.sl (by omega),Z9 h.gn (by omega),Z9 h.own (by omega),Z9 h.sa (by omega),Z9 h.sc (by omega),Z9 h.E (by omega),Z9 h.H (by omega),Z9 h.V (by omega),Z9 h.St (by omega)⟩
theorem Dh (h:ZM w b o T c a) (x:Value):ZM (w.setCell ⟨b,o+14,none⟩ x) b o T (c.setIfInBounds (o+14) x) { a with gv:=a.gv.set 2 x } :=
 ⟨ZV _ _ _ _ _ _ h.obj,h.Xj,h.Xn,(by rw[List.length_set];exact h.Xm),Z9 h.nx (by omega),ZU h.tk _ (by have:=h.Xj;omega),ZU h.pl _ (by have:=h.Xn;omega),YU h.gv 2 x,Z9 h.kd (by omega),Z9 h.sz (by omega),Z9 h.sl (by omega),Z9 h.gn (by omega),Z9 h.own (by omega),Z9 h.sa (by omega),Z9 h.sc (by omega),Z9 h.E (by omega),Z9 h.H (by omega),Z9 h.V (by omega),Z9 h.St (by omega)⟩
theorem PL (h:ZM w b o T c a) {l:List Value} (hA:At w' b (o+1) T c' l) (hl:l.length=4) (sm:Same (o+1) 4 c c'):ZM w' b o T c' { a with tk:=l } :=
 ⟨hA.obj,hl,h.Xn,h.Xm,(sm.2 _ (by omega)).trans h.nx,hA.is,fun i v hv=>(sm.2 _ (by have:=lt_of_some (l:=a.pl) hv;have:=h.Xn;omega)).trans (h.pl i v hv),fun i v hv=>(sm.2 _ (by have:=lt_of_some (l:=a.gv) hv;have:=h.Xm;omega)).trans (h.gv i v hv),(sm.2 _ (by omega)).trans h.kd,(sm.2 _ (by omega)).trans h.sz,(sm.2 _ (by omega)).trans h.sl,(sm.2 _ (by omega)).trans h.gn,(sm.2 _ (by omega)).trans h.own,(sm.2 _ (by omega)).trans h.sa,(sm.2 _ (by omega)).trans h.sc,(sm.2 _ (by omega)).trans h.E,(sm.2 _ (by omega)).trans h.H,(sm.2 _ (by omega)).trans h.V,(sm.2 _ (by omega)).trans h.St⟩
theorem PK (h:ZM w b o T c a) {l:List Value} (hA:At w' b (o+5) T c' l) (hl:l.length=7) (sm:Same (o+5) 7 c c'):ZM w' b o T c' { a with pl:=l } :=
 ⟨hA.obj,h.Xj,hl,h.Xm,(sm.2 _ (by omega)).trans h.nx,fun i v hv=>(sm.2 _ (by have:=lt_of_some (l:=a.tk) hv;have:=h.Xj;omega)).trans (h.tk i v hv),hA.is,fun i v hv=>(sm.2 _ (by have:=lt_of_some (l:=a.gv) hv;have:=h.Xm;omega)).trans (h.gv i v hv),(sm.2 _ (by omega)).trans h.kd,(sm.2 _ (by omega)).trans h.sz,(sm.2 _ (by omega)).trans h.sl,(sm.2 _ (by omega)).trans h.gn,(sm.2 _ (by omega)).trans h.own,(sm.2 _ (by omega)).trans h.sa,(sm.2 _ (by omega)).trans h.sc,(sm.2 _ (by omega)).trans h.E,(sm.2 _ (by omega)).trans h.H,(sm.2 _ (by omega)).trans h.V,(sm.2 _ (by omega)).trans h.St⟩
theorem JX (h:ZM w b o T c a) {l:List Value} (hA:At w' b (o+12) T c' l) (hl:l.length=3) (sm:Same (o+12) 3 c c'):ZM w' b o T c' { a with gv:=l } :=
 ⟨hA.obj,h.Xj,h.Xn,hl,(sm.2 _ (by omega)).trans h.nx,fun i v hv=>(sm.2 _ (by have:=lt_of_some (l:=a.tk) hv;have:=h.Xj;omega)).trans (h.tk i v hv),fun i v hv=>(sm.2 _ (by have:=lt_of_some (l:=a.pl) hv;have:=h.Xn;omega)).trans (h.pl i v hv),hA.is,(sm.2 _ (by omega)).trans h.kd,(sm.2 _ (by omega)).trans h.sz,(sm.2 _ (by omega)).trans h.sl,(sm.2 _ (by omega)).trans h.gn,(sm.2 _ (by omega)).trans h.own,(sm.2 _ (by omega)).trans h.sa,(sm.2 _ (by omega)).trans h.sc,(sm.2 _ (by omega)).trans h.E,(sm.2 _ (by omega)).trans h.H,(sm.2 _ (by omega)).trans h.V,(sm.2 _ (by omega)).trans h.St⟩
end ZM
theorem Same.wide {o o' k k':Nat} {c c':Array Value} (h:Same o' k' c c') (h1:o<=o') (h2:o'+k'<=o+k):Same o k c c':=⟨h.1,fun i hi=>h.2 i (by omega)⟩
theorem uB {l:List Value} (h:l.length=7):∃ a b c d e f g,l=[a,b,c,d,e,f,g]:=by
 match l,h with
 | [a,b,c,d,e,f,g],_=>exact⟨a,b,c,d,e,f,g,rfl⟩
theorem xw {l:List Value} (h:l.length=3):∃ a b c,l=[a,b,c]:=by
 match l,h with
 | [a,b,c],_=>exact⟨a,b,c,rfl⟩
theorem Tk.Zu {τ:Tk} {l:List Value} (h:τ.cells l):l.length=4:=by
 cases τ with
 | idle=>obtain⟨_,_,_,rfl⟩:=h;rfl
 | Vl=>obtain⟨_,rfl⟩:=h;rfl
 | TL=>have h':l=_:=h;subst h';rfl
 | XO=>obtain⟨_,_,rfl⟩:=h;rfl
 | none=>obtain⟨_,_,_,rfl⟩:=h;rfl
theorem Gv.Zu {x:Nat} {γ:Gv} {l:List Value} (h:γ.cells x l):l.length=3:=by
 cases γ with
 | idle=>obtain⟨_,rfl⟩:=h;rfl
 | Vl=>have h':l=_:=h;subst h';rfl
 | TL=>have h':l=_:=h;subst h';rfl
 | over=>obtain⟨_,rfl⟩:=h;rfl
theorem Pl.Zu {κ:Nat} {τ:Pl} {l:List Value} (h:τ.cells κ l):l.length=7:=by
 cases τ with
 | see=>obtain⟨_,_,_,_,_,rfl⟩:=h;rfl
 | ask=>obtain⟨_,_,_,rfl⟩:=h;rfl
 | grow=>obtain⟨_,_,_,rfl⟩:=h;rfl
 | look=>obtain⟨_,_,_,rfl⟩:=h;rfl
 | take=>obtain⟨_,_,rfl⟩:=h;rfl
 | opn=>obtain⟨_,_,rfl⟩:=h;rfl
 | Tc=>obtain⟨_,_,rfl⟩:=h;rfl
 | XO=>obtain⟨_,_,_,rfl⟩:=h;rfl
 | none=>obtain⟨_,_,_,_,_,rfl⟩:=h;rfl
end
section
set_option maxRecDepth 20000
def Yb (L:Loc) (b o:Nat) (T:TypeId) (cs:Array Value) (w w':World) (X:Mm->AV->Prop):Prop :=
 ∃ s' cs' a',Z8 w' L s'/\Only (L.and b) w w'/\ZM w' b o T cs' a'/\Same o 26 cs cs'/\X s' a'
def YF (c:Nat) (lk:Nat->Nat) (F:List Nat):Tk->Nat × List Nat × Tk
 | .idle=>match F with | []=>(c,[],.none) | x :: F=>(c,x :: F,.Vl x c)
 | .Vl h c'=>(c,F,.TL h c' (lk h))
 | .TL h c' _=>if c'=c then (c+1,F.tail,.XO h) else (c,F,.idle)
 | τ=>(c,F,τ)
theorem I8 {n c:Nat} {lk:Nat->Nat} {F:List Nat} {τ:Tk} {c':Nat} {F':List Nat} {τ':Tk} (h:Vh n c lk F τ c' F' τ'):YF c lk F τ=(c',F',τ'):=by
 cases h with
 | none=>rfl
 | Vl=>rfl
 | link=>rfl
 | took=>simp[YF]
 | FX _ _ _ _ hc=>simp[YF,Nat.ne_of_lt hc]
def YM (c:Nat) (lk:Nat->Nat) (F:List Nat) (x:Nat):Gv->Nat × (Nat->Nat) × List Nat × Gv
 | .idle=>(c,lk,F,.Vl (hd F) c)
 | .Vl h c'=>(c,upd lk x h,F,.TL h c')
 | .TL _ c'=>if c'=c then (c+1,lk,x :: F,.over) else (c,lk,F,.idle)
 | .over=>(c,lk,F,.over)
theorem I7 {n c x:Nat} {lk:Nat->Nat} {F:List Nat} {γ:Gv} {c':Nat} {lk':Nat->Nat} {F':List Nat} {γ':Gv} (h:Ug n c x lk F γ c' lk' F' γ'):YM c lk F x γ=(c',lk',F',γ'):=by
 cases h with
 | load=>rfl
 | lay=>rfl
 | gave=>simp[YM]
 | FX _ _ hc=>simp[YM,Nat.ne_of_lt hc]
section
variable {w:World} {L:Loc} {s:Mm} {b o:Nat} {T:TypeId} {cs:Array Value} {t n σ c:Nat} {lk:Nat->Nat} {F:List Nat}
theorem Uf (h:Z8 w L s) (hb:¬ L.has b) (hp:YH t n s σ c lk F) (hσ:σ<1000000) (SY:t<=8) (τ:Tk) (hi:FW w b o T cs τ) (hg:τ.good n c lk F) (ho:τ.over=false) (c2 c3 c4 c5 c6 who:Int) (c':Nat) (F':List Nat) (τ':Tk) (ht:YF c lk F τ=(c',F',τ')) (d:Bool) (hd:τ'.over=d) :
 Calls Tryz.prog 142 #[pP b o,eV t n c2 c3 c4 c5 c6 L.p who] w fun e w'=>e=.returned (.bool d)/\∃ s' cs',xq w L s b o T cs t n σ c lk F who τ w' s' cs' c' F' τ':=by
 refine(I5 h hb hp hσ SY τ hi hg ho c2 c3 c4 c5 c6 who).mono ?_
 rintro e w' ⟨s',cs',c1,F1,τ1,rfl,P⟩
 have e1:=I8 P.turn
 rw[ht] at e1
 simp only[Prod.mk.injEq] at e1
 obtain⟨rfl,rfl,rfl⟩:=e1
 exact⟨by rw[hd],s',cs',P⟩
theorem VI (h:Z8 w L s) (hb:¬ L.has b) (hp:YH t n s σ c lk F) (hσ:σ<1000000) (SY:t<=8) {x:Nat} (hx:x<n) (hF:x∉F) (γ:Gv) (hi:zH w b o T cs x γ) (hg:γ.good n c lk F x) (ho:γ.done=false) (c2 c3 c4 c5 c6 who:Int) (c':Nat) (lk':Nat->Nat) (F':List Nat) (γ':Gv) (ht:YM c lk F x γ=(c',lk',F',γ')) (d:Bool) (hd:γ'.done=d) :
 Calls Tryz.prog 154 #[pP b o,eV t n c2 c3 c4 c5 c6 L.p who] w fun e w'=>e=.returned (.bool d)/\∃ s' cs',Dc w L s b o T cs t n σ c lk F x who γ w' s' cs' c' lk' F' γ':=by
 refine(I4 h hb hp hσ SY hx hF γ hi hg ho c2 c3 c4 c5 c6 who).mono ?_
 rintro e w' ⟨s',cs',c1,vz,F1,γ1,rfl,P⟩
 have e1:=I7 P.turn
 rw[ht] at e1
 simp only[Prod.mk.injEq] at e1
 obtain⟨rfl,rfl,rfl,rfl⟩:=e1
 exact⟨by rw[hd],s',cs',P⟩
end
theorem X6 {w:World} {b o:Nat} (z K:Int) (hK:ZR z=K) (hz:w.cell? ⟨b,o+16,none⟩=some (iV z)) :
 Calls Tryz.prog 133 #[pP b o] w fun e w'=>e=.returned (iV K)/\w'=w:=by
 subst hK
 go_enter Tryz.func133,Tryz.ntmps133
 go_wp2_with (go_at_call 144;refine(WM _ _).mono ?_;rintro e w' ⟨rfl,rfl⟩)
 go_ret
 exact⟨rfl,rfl⟩
theorem PH {w:World} {L:Loc} {s:Mm} {b o:Nat} {T:TypeId} {cs:Array Value} {a:AV} {t n k m:Nat} {g p r:Int} (h:Z8 w L s) (hb:¬ L.has b) (hi:ZM w b o T cs a) (who:Int) (why:Int) (x:Nat) (hx:s.steps=x) :
 Calls Tryz.prog 141 #[pP b o,eV t n k m g p r L.p who,iV why] w fun e w'=>e=.returned (.tuple #[])/\Yb L b o T cs w w' (fun s' a'=>s'=s/\a'={ a with nx:=8,E:=why,H:=0,V:=0,St:=x }):=by
 have HS:Hid (s.steps=x):=hx
 clear hx
 go_enter Tryz.func141,Tryz.ntmps141
 go_wp2_with (go_at_call 11;refine(Yk (h.alloc _) _ _ _ _ _ _ _ _ x HS.out).mono ?_;rintro e w1 ⟨rfl,b1⟩;have i1:=(hi.grown (Z7 (Below.refl _ _) (.cells #[iV t,iV n,iV k,iV m,iV g,iV p,iV r,pP L.p 0,iV who] 27))).grown b1;have m1:=(h.alloc (.cells #[iV t,iV n,iV k,iV m,iV g,iV p,iV r,pP L.p 0,iV who] 27)).below b1;have k1:=i1.D8;have k2:=i1.Eg;have k3:=i1.D7;have k4:=i1.SN;have k5:=i1.Zr;have kf:=i1.fz)
 go_end0
 exact⟨rfl,s,_,_,((((m1.ZY hb _ _).ZY hb _ _).ZY hb _ _).ZY hb _ _).ZY hb _ _,(((((((Only.refl _ _).alloc _).trans (Only.Z5 b1)).set _ _).set _ _).set _ _).set _ _).set _ _,((((i1.OJ why).QE 0).OI 0).Vs x).Zl 8,((((Same.refl.set (by omega) _).set (by omega) _).set (by omega) _).set (by omega) _).set (by omega) _,rfl,rfl⟩
theorem Jg {w:World} {L:Loc} {s:Mm} {b o:Nat} {T:TypeId} {cs:Array Value} {a:AV} {t n k m:Nat} {g p r:Int} (h:Z8 w L s) (hb:¬ L.has b) (hi:ZM w b o T cs a) (who:Int) (hK:ZR a.sz<0) (x:Nat) (hx:s.steps=x) :
 Calls Tryz.prog 134 #[pP b o,eV t n k m g p r L.p who] w fun e w'=>e=.returned (.tuple #[])/\Yb L b o T cs w w' (fun s' a'=>s'=s/\a'={ a with nx:=8,E:=5,H:=0,V:=0,St:=x }):=by
 obtain⟨K,hK'⟩:∃ K,ZR a.sz=K:=⟨_,rfl⟩
 rw[hK'] at hK
 have HK:Hid (ZR a.sz=K):=hK'
 clear hK'
 have i1:=hi.grown (Z7 (Below.refl _ _) (.cells #[iV t,iV n,iV k,iV m,iV g,iV p,iV r,pP L.p 0,iV who] 27))
 go_enter Tryz.func134,Tryz.ntmps134
 go_wp2_with (first
  | (go_at_call 133;refine(X6 _ _ HK.out i1.WO).mono ?_;rintro e w1 ⟨rfl,rfl⟩)
  | (go_at_call 141;refine(PH (h.alloc _) hb i1 _ _ x hx).mono ?_;rintro e w1 ⟨rfl,s2,cs2,a2,m2,o2,i2,q2,rfl,rfl⟩))
 refine bodyPost_ret (results_none rfl _ _ _) rfl ?_
 exact⟨rfl,_,cs2,_,m2,((Only.refl _ _).alloc _).trans o2,i2,q2,rfl,rfl⟩
theorem FV {w:World} {L:Loc} {s:Mm} {b o:Nat} {T:TypeId} {cs:Array Value} {a:AV} {t n k m:Nat} {g p r:Int} (h:Z8 w L s) (hb:¬ L.has b) (hi:ZM w b o T cs a) (who:Int) {σ c:Nat} {lk:Nat->Nat} {F:List Nat} (hp:YH t n s σ c lk F) (hσ:σ<1000000) (SY:t<=8) (K:Nat) (hK:ZR a.sz=K) (τ:Tk) (htk:τ.cells a.tk) (hg:τ.good n c lk F) (ho:τ.over=false) (c':Nat) (F':List Nat) (τ':Tk) (ht:YF c lk F τ=(c',F',τ')) (hd:τ'.over=false) :
 Calls Tryz.prog 134 #[pP b o,eV t n k m g p r L.p who] w fun e w'=>e=.returned (.tuple #[])/\Yb L b o T cs w w' (fun s' a'=>YH t n s' (σ+1) c' lk F'/\(∃ v,s'=(s.by who).step (τ.at t) v)/\τ'.good n c' lk F'/\∃ l,τ'.cells l/\a'={ a with tk:=l }):=by
 obtain⟨hbv,hbb⟩:=nb h hi.lt
 have HK:Hid (ZR a.sz=K):=hK
 have HT:Hid (YF c lk F τ=(c',F',τ')):=ht
 have HO:Hid (τ.over=false):=ho
 clear hK ht ho
 have j1:=hi.grown (Z7 (Below.refl _ _) (.cells #[iV t,iV n,iV k,iV m,iV g,iV p,iV r,pP L.p 0,iV who] 27))
 go_enter Tryz.func134,Tryz.ntmps134
 go_wp2_with (go_at_call 133;refine(X6 _ _ HK.out j1.WO).mono ?_;rintro e w1 ⟨rfl,rfl⟩)
 clear j1
 refine wo b h (fun _ g=>hi.grown g) ?_
 rintro W ⟨m1,i1,v1,o1⟩
 apply Xy 4;. kernel_rfl
 iterate 3 (apply rV;. intros;apply ol;go_simp;exact gl)
 apply XW;. intro w' hg _;apply ol;have y:=(v1.dg hg).yy;go_simp;exact gl
 try simp only[pu,s0,s1]
 intro w5 hg _
 have m5:=m1.drew.below hg
 have i5:=i1.drew.grown hg
 have v5:=v1.dg hg
 have o5:=o1.og hg
 clear hg m1 i1 v1 o1
 go_wp2_with (first
  | (go_at_call 142;refine(Uf m5 hb hp hσ SY τ ⟨_,i5.zT,htk⟩ hg HO.out _ _ _ _ _ _ c' F' τ' HT.out false hd).mono ?_;rintro e w6 ⟨rfl,s6,WR,P⟩;obtain⟨l6,a6,q6⟩:=P.a;have i6:=i5.PL a6 (Tk.Zu q6) P.same;have v6:=v5.only P.only (fun hh=>hh.elim hbv hbb);have o6:=o5.trans P.only;have L8:Same o 26 cs WR:=P.same.wide (by omega) (by omega);obtain⟨z0,z1,z2,z3,z4,z5,z6,z7,z8⟩:=id v6;have k0:=i6.Zr;have k1:=i6.Oi;have kf:=i6.fz))
 refine bodyPost_ret (results_none rfl _ _ _) rfl ?_
 exact⟨rfl,s6,WR,_,P.m,o6,i6,L8,P.p,P.st,P.good,l6,q6,rfl⟩
theorem IZ {w:World} {L:Loc} {s:Mm} {b o:Nat} {T:TypeId} {cs:Array Value} {a:AV} {t n k m:Nat} {g p r:Int} (h:Z8 w L s) (hb:¬ L.has b) (hi:ZM w b o T cs a) (who:Int) {σ c:Nat} {lk:Nat->Nat} {F:List Nat} (hp:YH t n s σ c lk F) (hσ:σ<1000000) (SY:t<=8) (K:Nat) (hK:ZR a.sz=K) (τ:Tk) (htk:τ.cells a.tk) (hg:τ.good n c lk F) (ho:τ.over=false) (c':Nat) (F':List Nat) (τ':Tk) (ht:YF c lk F τ=(c',F',τ')) (x:Nat) (hd:τ'=.XO x) :
 Calls Tryz.prog 134 #[pP b o,eV t n k m g p r L.p who] w fun e w'=>e=.returned (.tuple #[])/\Yb L b o T cs w w' (fun s' a'=>YH t n s' (σ+1) c' lk F'/\(∃ v,s'=(s.by who).step (τ.at t) v)/\x<n/\∃ l,l.length=4/\a'={ a with tk:=l,sl:=x,nx:=1 }):=by
 obtain⟨hbv,hbb⟩:=nb h hi.lt
 have HK:Hid (ZR a.sz=K):=hK
 have HT:Hid (YF c lk F τ=(c',F',τ')):=ht
 have HO:Hid (τ.over=false):=ho
 clear hK ht ho
 have j1:=hi.grown (Z7 (Below.refl _ _) (.cells #[iV t,iV n,iV k,iV m,iV g,iV p,iV r,pP L.p 0,iV who] 27))
 go_enter Tryz.func134,Tryz.ntmps134
 go_wp2_with (go_at_call 133;refine(X6 _ _ HK.out j1.WO).mono ?_;rintro e w1 ⟨rfl,rfl⟩)
 clear j1
 refine wo b h (fun _ g=>hi.grown g) ?_
 rintro W ⟨m1,i1,v1,o1⟩
 apply Xy 4;. kernel_rfl
 iterate 3 (apply rV;. intros;apply ol;go_simp;exact gl)
 apply XW;. intro w' hg _;apply ol;have y:=(v1.dg hg).yy;go_simp;exact gl
 try simp only[pu,s0,s1]
 intro w5 hg _
 have m5:=m1.drew.below hg
 have i5:=i1.drew.grown hg
 have v5:=v1.dg hg
 have o5:=o1.og hg
 clear hg m1 i1 v1 o1
 go_wp2_with (first
  | (go_at_call 142;refine(Uf m5 hb hp hσ SY τ ⟨_,i5.zT,htk⟩ hg HO.out _ _ _ _ _ _ c' F' τ' HT.out true (by rw[hd];rfl)).mono ?_;rintro e w6 ⟨rfl,s6,WR,P⟩;obtain⟨l6,a6,q6⟩:=P.a;have i6:=i5.PL a6 (Tk.Zu q6) P.same;have v6:=v5.only P.only (fun hh=>hh.elim hbv hbb);have o6:=o5.trans P.only;have L8:Same o 26 cs WR:=P.same.wide (by omega) (by omega);obtain⟨z0,z1,z2,z3,z4,z5,z6,z7,z8⟩:=id v6;have k0:=i6.Zr;have k1:=i6.Oi;have kf:=i6.fz)
  | (go_at_call 143;refine(FU P.a x hd).mono ?_;rintro e w7 ⟨rfl,rfl⟩))
 go_end0
 exact⟨rfl,s6,_,_,(P.m.ZY hb _ _).ZY hb _ _,(o6.set _ _).set _ _,(i6.zN x).Zl 1,(L8.set (by omega) _).set (by omega) _,P.p,P.st,(by have:=P.good;rw[hd] at this;exact this),l6,Tk.Zu q6,rfl⟩
theorem LW {w:World} {L:Loc} {s:Mm} {b o:Nat} {T:TypeId} {cs:Array Value} {a:AV} {t n k m:Nat} {g p r:Int} (h:Z8 w L s) (hb:¬ L.has b) (hi:ZM w b o T cs a) (who:Int) {σ c:Nat} {lk:Nat->Nat} {F:List Nat} (hp:YH t n s σ c lk F) (hσ:σ<1000000) (SY:t<=8) (K:Nat) (hK:ZR a.sz=K) (τ:Tk) (htk:τ.cells a.tk) (hg:τ.good n c lk F) (ho:τ.over=false) (c':Nat) (F':List Nat) (τ':Tk) (ht:YF c lk F τ=(c',F',τ')) (hd:τ'=.none) :
 Calls Tryz.prog 134 #[pP b o,eV t n k m g p r L.p who] w fun e w'=>e=.returned (.tuple #[])/\Yb L b o T cs w w' (fun s' a'=>YH t n s' (σ+1) c' lk F'/\(∃ v,s'=(s.by who).step (τ.at t) v)/\∃ l,l.length=4/\a'={ a with tk:=l,nx:=8,E:=7,H:=0,V:=0,St:=((σ+1:Nat):Int) }):=by
 obtain⟨hbv,hbb⟩:=nb h hi.lt
 have HK:Hid (ZR a.sz=K):=hK
 have HT:Hid (YF c lk F τ=(c',F',τ')):=ht
 have HO:Hid (τ.over=false):=ho
 clear hK ht ho
 have j1:=hi.grown (Z7 (Below.refl _ _) (.cells #[iV t,iV n,iV k,iV m,iV g,iV p,iV r,pP L.p 0,iV who] 27))
 go_enter Tryz.func134,Tryz.ntmps134
 go_wp2_with (go_at_call 133;refine(X6 _ _ HK.out j1.WO).mono ?_;rintro e w1 ⟨rfl,rfl⟩)
 clear j1
 refine wo b h (fun _ g=>hi.grown g) ?_
 rintro W ⟨m1,i1,v1,o1⟩
 apply Xy 4;. kernel_rfl
 iterate 3 (apply rV;. intros;apply ol;go_simp;exact gl)
 apply XW;. intro w' hg _;apply ol;have y:=(v1.dg hg).yy;go_simp;exact gl
 try simp only[pu,s0,s1]
 intro w5 hg _
 have m5:=m1.drew.below hg
 have i5:=i1.drew.grown hg
 have v5:=v1.dg hg
 have o5:=o1.og hg
 clear hg m1 i1 v1 o1
 go_wp2_with (first
  | (go_at_call 142;refine(Uf m5 hb hp hσ SY τ ⟨_,i5.zT,htk⟩ hg HO.out _ _ _ _ _ _ c' F' τ' HT.out true (by rw[hd];rfl)).mono ?_;rintro e w6 ⟨rfl,s6,WR,P⟩;obtain⟨l6,a6,q6⟩:=P.a;have i6:=i5.PL a6 (Tk.Zu q6) P.same;have v6:=v5.only P.only (fun hh=>hh.elim hbv hbb);have o6:=o5.trans P.only;have L8:Same o 26 cs WR:=P.same.wide (by omega) (by omega);obtain⟨z0,z1,z2,z3,z4,z5,z6,z7,z8⟩:=id v6;have k0:=i6.Zr;have k1:=i6.Oi;have kf:=i6.fz)
  | (go_at_call 143;refine(IY P.a hd).mono ?_;rintro e w7 ⟨rfl,rfl⟩)
  | (go_at_call 141;refine(PH P.m hb i6 _ _ (σ+1) P.p.st).mono ?_;rintro e w8 ⟨rfl,s8,yD,a8,m8,o8,i8,q8,rfl,rfl⟩))
 refine bodyPost_ret (results_none rfl _ _ _) rfl ?_
 exact⟨rfl,_,yD,_,m8,o6.trans o8,i8,L8.trans q8,P.p,P.st,l6,Tk.Zu q6,rfl⟩
end
section
set_option maxRecDepth 20000
def zJ (L:Loc) (b o:Nat) (T:TypeId) (c c':Array Value) (s s':Mm) (a a':AV):Nat->World->Prop
 | 0,w=>Z8 w L s/\ZM w b o T c a
 | 1,w=>Z8 w L s'/\ZM w b o T c a
 | _,w=>Z8 w L s'/\ZM w b o T c' a'
theorem Mc {L:Loc} {b o:Nat} {T:TypeId} {c c':Array Value} {s s':Mm} {a a':AV} (x y:World) (p:Nat) (g:Grown x y) (k:zJ L b o T c c' s s' a a' p x):zJ L b o T c c' s s' a a' p y:=by
 match p,k with
 | 0,k=>exact⟨k.1.below g,k.2.grown g⟩
 | 1,k=>exact⟨k.1.below g,k.2.grown g⟩
 | p+2,k=>exact⟨k.1.below g,k.2.grown g⟩
set_option maxHeartbeats 400000 in
theorem uA {w:World} {L:Loc} {s:Mm} {b o:Nat} {T:TypeId} {cs:Array Value} {a:AV} {t n k m:Nat} {g p r:Int} (h:Z8 w L s) (hb:¬ L.has b) (hi:ZM w b o T cs a) (who:Int) (ar:Yu t n k m) (x:Nat) (hx:a.sl=x) (ni:x<=1000000) (hn:6+t+x * 2<s.n) (v:Int) (hv:s.wd (6+t+x * 2)=v) (v0:0<=v) (v1:v<=18446744073709551615) (G:Nat) (hG:v / 8388608 % 65536=G) (K:Nat) (hK:ZR a.sz=K) :
 Calls Tryz.prog 135 #[pP b o,eV t n k m g p r L.p who] w fun e w'=>e=.returned (.tuple #[])/\Yb L b o T cs w w' (fun s' a'=>s'=(s.by who).step (6+t+x * 2) (s.wd (6+t+x * 2))/\a'={ a with gn:=G,pl:=Yw 0 K 0 0 0 0 0,nx:=2 }):=by
 obtain⟨hbv,hbb⟩:=nb h hi.lt
 have sw:=fun w=>Oh v w v0 v1
 rw[hG] at sw
 have HV:Hid (s.wd (6+t+x * 2)=v):=hv
 have HK:Hid (ZR a.sz=K):=hK
 have HX:Hid (a.sl=x):=hx
 have fl:∀ (a1 a2 a3 a4:Value) (w:World),(Instr.field 108 (.agg #[a1,a2,a3,a4]) 2).run Tryz.prog w=.ok a3 w:=fun a1 a2 a3 a4 w=>by kernel_rfl
 have np:=fun w=>PI K w
 unfold L9 at np
 clear hv hK hG v0 v1 hx
 go_enter Tryz.func135,Tryz.ntmps135
 go_wp2
 refine wo b h (fun _ g=>hi.grown g) ?_
 rintro W ⟨m1,i1,v1,o1⟩
 apply QO (R:=ZO L b (o+18)) (zJ L b o T cs (cs.setIfInBounds (o+18) (iV G)) s ((s.by who).step (6+t+x * 2) (s.wd (6+t+x * 2))) a { a with gn:=G }) [10,16] MQ Mc ⟨m1.drew,i1.drew⟩;. kernel_rfl
 apply pV;. intros;apply ol;go_simp;exact gl
 apply pV;. intro w' hR _;apply ol;have y:=(v1.dn hR.only hbv hbb).yy;go_simp;exact gl
 apply pV;. intros;apply ol;go_simp;exact gl
 apply pV;. intro w' hR _;apply ol;have y:=(v1.dn hR.only hbv hbb).yy;go_simp;exact gl
 iterate 2 (apply pV;. intros;apply ol;go_simp;exact gl)
 try simp only[pu,s0,s1]
 iterate 2 (apply pV;. intros;apply ol;go_simp;exact gl)
 apply pV;. intro w' hR _;apply ol;have z:=hR.keep (j:=o+17) (by omega) i1.drew.Oi;rw[HX.out] at z;go_simp;exact gl
 apply pV (c:=iV ((6+t+x * 2:Nat):Int));. intro w' hR _;apply ol;go_simp;refine(Y4 _ _ _ _ _ _ _ (x:Int) _ ar (by omega) (by omega)).mono ?_;rintro e w'' ⟨rfl,b9⟩;exact⟨_,rfl,b9,congrArg (Value.int .i64) (by omega)⟩
 apply pV (c:=.int .u64 v);. intro w' hR _ hP;apply ol;go_simp;refine(Zj (s:=s) hP.1 _ _ _ _ _ _ _ _ (6+t+x * 2) hn).mono ?_;rintro e w'' ⟨rfl,m2,o2⟩;exact⟨_,rfl,⟨ZO.Yq o2 hb,m2,hP.2.only o2 hb⟩,by simp[Want.pred,HV.out]⟩
 apply pV;. intro w' hR _;apply ol;go_simp;exact cb (sw _)
 try simp only[pu,s0,s1]
 iterate 4 (apply pV;. intros;apply ol;go_simp;exact gl)
 apply OE;. intro w' hR _ hP;apply ol;have z0:=hP.2.Dx;have z1:=hP.2.fz;go_simp;exact⟨⟨ZO.set _ _,hP.1.ZY hb _ _,hP.2.zM _⟩,trivial⟩
 try simp only[pu,s0,s1]
 try simp only[pn]
 intro vv w2 hR hP _
 obtain⟨m2,i2⟩:Z8 w2 L ((s.by who).step (6+t+x * 2) (s.wd (6+t+x * 2)))/\ZM w2 b o T (cs.setIfInBounds (o+18) (iV G)) { a with gn:=G }:=hP
 have o2:Only (L.and b) w w2:=o1.drew.trans hR.only
 have s2:Same o 26 cs (cs.setIfInBounds (o+18) (iV G)):=Same.refl.set (by omega) _
 clear hR o1 v1 m1 i1 sw fl
 go_wp2_with (first
  | (go_at_call 133;refine(X6 _ _ HK.out i2.WO).mono ?_;rintro e w1 ⟨rfl,rfl⟩)
  | (go_at_call 146;refine(np _).mono ?_;rintro e w1 ⟨rfl,rfl⟩;have i3:=i2.grown (Z7 (Below.refl _ _) (.cells #[iV 0,iV K,.int .u64 0,iV 0,.int .u64 0,iV 0,iV 0] 153));obtain⟨x0,q0⟩:=i3.xJ;obtain⟨x1,q1⟩:=i3.xI;obtain⟨x2,q2⟩:=i3.xH;obtain⟨x3,q3⟩:=i3.xG;obtain⟨x4,q4⟩:=i3.xE;obtain⟨x5,q5⟩:=i3.xC;obtain⟨x6,q6⟩:=i3.xB;have q7:=i3.Zr;have qf:=i3.fz))
 go_end0
 obtain⟨y0,y1,y2,y3,y4,y5,y6,hl⟩:=uB hi.Xn
 exact⟨rfl,_,_,_,(((((((((m2.alloc _).ZY hb _ _).ZY hb _ _).ZY hb _ _).ZY hb _ _).ZY hb _ _).ZY hb _ _).ZY hb _ _).ZY hb _ _),(((((((((o2.alloc _).set _ _).set _ _).set _ _).set _ _).set _ _).set _ _).set _ _).set _ _),(((((((i3.Dv (iV 0)).Du (iV K)).Dt (.int .u64 0)).Dq (iV 0)).Dn (.int .u64 0)).Dl (iV 0)).Dk (iV 0)).Zl 2,((((((((s2.set (by omega) _).set (by omega) _).set (by omega) _).set (by omega) _).set (by omega) _).set (by omega) _).set (by omega) _).set (by omega) _),rfl,by simp[hl,Yw]⟩
set_option maxHeartbeats 400000 in
theorem Jb {w:World} {L:Loc} {s:Mm} {b o:Nat} {T:TypeId} {cs:Array Value} {a:AV} {t n k m:Nat} {g p r:Int} (h:Z8 w L s) (hb:¬ L.has b) (hi:ZM w b o T cs a) (who:Int) {σ K:Nat} {y:Y} (hy:XG t n k m s σ y) (hG:Good t n k m g p r) (hσ:σ<1000000) (hκ:K<4) (τ:Pl) (hpl:τ.cells K a.pl) (hg:τ.good k m K σ) (ho:τ.over=false) (y':Y) (τ':Pl) (ht:turn k m K (base t n k m) y τ=(y',τ')) (hd:τ'.over=false) :
 Calls Tryz.prog 136 #[pP b o,eV t n k m g p r L.p who] w fun e w'=>e=.returned (.tuple #[])/\Yb L b o T cs w w' (fun s' a'=>XG t n k m s' (σ+1) y'/\(∃ v,s'=(s.by who).step (τ.at t n K) v)/\τ'.good k m K (σ+1)/\∃ l,τ'.cells K l/\a'={ a with pl:=l }):=by
 obtain⟨hbv,hbb⟩:=nb h hi.lt
 have HT:Hid (turn k m K (base t n k m) y τ=(y',τ')):=ht
 have HO:Hid (τ.over=false):=ho
 have HG:Hid (Good t n k m g p r):=hG
 clear ht ho hG
 go_enter Tryz.func136,Tryz.ntmps136
 go_wp2
 refine wo b h (fun _ g=>hi.grown g) ?_
 rintro W ⟨m1,i1,v1,o1⟩
 apply Xy 4;. kernel_rfl
 iterate 3 (apply rV;. intros;apply ol;go_simp;exact gl)
 apply XW;. intro w' hg _;apply ol;have y:=(v1.dg hg).yy;go_simp;exact gl
 try simp only[pu,s0,s1]
 intro w5 hg _
 have m5:=m1.drew.below hg
 have i5:=i1.drew.grown hg
 have v5:=v1.dg hg
 have o5:=o1.og hg
 clear hg m1 i1 v1 o1
 go_wp2_with (first
  | (go_at_call 147;refine(Vk m5 hb hy HG.out hσ hκ τ ⟨_,i5.zS,hpl⟩ hg HO.out who y' τ' HT.out false hd).mono ?_;rintro e w6 ⟨rfl,s6,WR,P⟩;obtain⟨l6,a6,q6⟩:=P.a;have i6:=i5.PK a6 (Pl.Zu q6) P.same;have v6:=v5.only P.only (fun hh=>hh.elim hbv hbb);have o6:=o5.trans P.only;have L8:Same o 26 cs WR:=P.same.wide (by omega) (by omega)))
 refine bodyPost_ret (results_none rfl _ _ _) rfl ?_
 exact⟨rfl,s6,WR,_,P.mm,o6,i6,L8,P.yd,P.st,P.good,l6,q6,rfl⟩
set_option maxHeartbeats 400000 in
theorem L6 {w:World} {L:Loc} {s:Mm} {b o:Nat} {T:TypeId} {cs:Array Value} {a:AV} {t n k m:Nat} {g p r:Int} (h:Z8 w L s) (hb:¬ L.has b) (hi:ZM w b o T cs a) (who:Int) {σ K:Nat} {y:Y} (hy:XG t n k m s σ y) (hG:Good t n k m g p r) (hσ:σ<1000000) (hκ:K<4) (τ:Pl) (hpl:τ.cells K a.pl) (hg:τ.good k m K σ) (ho:τ.over=false) (y':Y) (τ':Pl) (ht:turn k m K (base t n k m) y τ=(y',τ')) (A i:Nat) (hd:τ'=.XO A i) :
 Calls Tryz.prog 136 #[pP b o,eV t n k m g p r L.p who] w fun e w'=>e=.returned (.tuple #[])/\Yb L b o T cs w w' (fun s' a'=>XG t n k m s' (σ+1) y'/\(∃ v,s'=(s.by who).step (τ.at t n K) v)/\∃ l,l.length=7/\a'={ a with pl:=l,sa:=A,sc:=i,nx:=3 }):=by
 obtain⟨hbv,hbb⟩:=nb h hi.lt
 have HT:Hid (turn k m K (base t n k m) y τ=(y',τ')):=ht
 have HO:Hid (τ.over=false):=ho
 have HG:Hid (Good t n k m g p r):=hG
 clear ht ho hG
 go_enter Tryz.func136,Tryz.ntmps136
 go_wp2
 refine wo b h (fun _ g=>hi.grown g) ?_
 rintro W ⟨m1,i1,v1,o1⟩
 apply Xy 4;. kernel_rfl
 iterate 3 (apply rV;. intros;apply ol;go_simp;exact gl)
 apply XW;. intro w' hg _;apply ol;have y:=(v1.dg hg).yy;go_simp;exact gl
 try simp only[pu,s0,s1]
 intro w5 hg _
 have m5:=m1.drew.below hg
 have i5:=i1.drew.grown hg
 have v5:=v1.dg hg
 have o5:=o1.og hg
 clear hg m1 i1 v1 o1
 go_wp2_with (first
  | (go_at_call 147;refine(Vk m5 hb hy HG.out hσ hκ τ ⟨_,i5.zS,hpl⟩ hg HO.out who y' τ' HT.out true (by rw[hd];rfl)).mono ?_;rintro e w6 ⟨rfl,s6,WR,P⟩;obtain⟨l6,a6,q6⟩:=P.a;have i6:=i5.PK a6 (Pl.Zu q6) P.same;have v6:=v5.only P.only (fun hh=>hh.elim hbv hbb);have o6:=o5.trans P.only;have L8:Same o 26 cs WR:=P.same.wide (by omega) (by omega))
  | (go_at_call 148;refine(Og P.a A i true (by rw[hd];rfl)).mono ?_;rintro e w7 ⟨rfl,b7⟩;have i7:=i6.grown b7;have i9:=i7.grown (Z7 (Below.refl _ _) (.cells #[iV A,iV i] 151));have k0:=i9.Zr;have k1:=i9.zQ;have k2:=i9.xK;have kf:=i9.fz))
 go_end0
 have o7:Only (L.and b) w w7:=o6.trans (Only.Z5 b7)
 exact⟨rfl,s6,_,_,((((P.mm.below b7).alloc _).ZY hb _ _).ZY hb _ _).ZY hb _ _,(((o7.alloc _).set _ _).set _ _).set _ _,((i9.zL A).zK i).Zl 3,((L8.set (by omega) _).set (by omega) _).set (by omega) _,P.yd,P.st,l6,Pl.Zu q6,rfl⟩
set_option maxHeartbeats 400000 in
theorem Oe {w:World} {L:Loc} {s:Mm} {b o:Nat} {T:TypeId} {cs:Array Value} {a:AV} {t n k m:Nat} {g p r:Int} (h:Z8 w L s) (hb:¬ L.has b) (hi:ZM w b o T cs a) (who:Int) {σ K:Nat} {y:Y} (hy:XG t n k m s σ y) (hG:Good t n k m g p r) (hσ:σ<1000000) (hκ:K<4) (τ:Pl) (hpl:τ.cells K a.pl) (hg:τ.good k m K σ) (ho:τ.over=false) (y':Y) (τ':Pl) (ht:turn k m K (base t n k m) y τ=(y',τ')) (x:Nat) (hx:a.sl=x) (hd:τ'=.none) :
 Calls Tryz.prog 136 #[pP b o,eV t n k m g p r L.p who] w fun e w'=>e=.returned (.tuple #[])/\Yb L b o T cs w w' (fun s' a'=>XG t n k m s' (σ+1) y'/\(∃ v,s'=(s.by who).step (τ.at t n K) v)/\∃ l,l.length=7/\a'={ a with pl:=l,gv:=U3 0 x 0,nx:=7 }):=by
 obtain⟨hbv,hbb⟩:=nb h hi.lt
 have HT:Hid (turn k m K (base t n k m) y τ=(y',τ')):=ht
 have HO:Hid (τ.over=false):=ho
 have HG:Hid (Good t n k m g p r):=hG
 clear ht ho hG
 have HX:Hid (a.sl=x):=hx
 clear hx
 go_enter Tryz.func136,Tryz.ntmps136
 go_wp2
 refine wo b h (fun _ g=>hi.grown g) ?_
 rintro W ⟨m1,i1,v1,o1⟩
 apply Xy 4;. kernel_rfl
 iterate 3 (apply rV;. intros;apply ol;go_simp;exact gl)
 apply XW;. intro w' hg _;apply ol;have y:=(v1.dg hg).yy;go_simp;exact gl
 try simp only[pu,s0,s1]
 intro w5 hg _
 have m5:=m1.drew.below hg
 have i5:=i1.drew.grown hg
 have v5:=v1.dg hg
 have o5:=o1.og hg
 clear hg m1 i1 v1 o1
 go_wp2_with (first
  | (go_at_call 147;refine(Vk m5 hb hy HG.out hσ hκ τ ⟨_,i5.zS,hpl⟩ hg HO.out who y' τ' HT.out true (by rw[hd];rfl)).mono ?_;rintro e w6 ⟨rfl,s6,WR,P⟩;obtain⟨l6,a6,q6⟩:=P.a;have i6:=i5.PK a6 (Pl.Zu q6) P.same;have v6:=v5.only P.only (fun hh=>hh.elim hbv hbb);have o6:=o5.trans P.only;have L8:Same o 26 cs WR:=P.same.wide (by omega) (by omega))
  | (go_at_call 148;refine(Og P.a 0 0 false (by rw[hd];rfl)).mono ?_;rintro e w7 ⟨rfl,b7⟩;have i7:=i6.grown b7;have i9:=i7.grown (Z7 (Below.refl _ _) (.cells #[iV 0,iV 0] 151));have k3:=i9.Oi;rw[show ({ a with pl:=l6 }:AV).sl=x from HX.out] at k3)
  | (go_at_call 149;refine(TK x _).mono ?_;rintro e w8 ⟨rfl,rfl⟩;have i10:=i9.grown (Z7 (Below.refl _ _) (.cells #[iV 0,iV x,.int .u64 0] 155));have k0:=i10.Zr;obtain⟨x0,k1⟩:=i10.xA;obtain⟨x1,k2⟩:=i10.xy;obtain⟨x2,k4⟩:=i10.xx;have kf:=i10.fz))
 refine bodyPost_ret (results_none rfl _ _ _) rfl ?_
 have o7:Only (L.and b) w w7:=o6.trans (Only.Z5 b7)
 obtain⟨z0,z1,z2,hl⟩:=xw hi.Xm
 exact⟨rfl,s6,_,_,((((((P.mm.below b7).alloc _).alloc _).ZY hb _ _).ZY hb _ _).ZY hb _ _).ZY hb _ _,(((((o7.alloc _).alloc _).set _ _).set _ _).set _ _).set _ _,(((i10.Dj _).Di _).Dh _).Zl 7,(((L8.set (by omega) _).set (by omega) _).set (by omega) _).set (by omega) _,P.yd,P.st,l6,Pl.Zu q6,by simp[hl,U3]⟩
end
section
set_option maxRecDepth 20000
set_option maxHeartbeats 400000 in
theorem zI {w:World} {L:Loc} {s:Mm} {b o:Nat} {T:TypeId} {cs:Array Value} {a:AV} {t n k m:Nat} {g p r:Int} (h:Z8 w L s) (hb:¬ L.has b) (hi:ZM w b o T cs a) (who:Int) (ar:Yu t n k m) (hn1:n<=65536) (ht1:t<=8) (i:Nat) (hx:a.sc=i) (hin:i<=64) (hn:6+t+n * 2+i * 3+1<s.n) (K:Nat) (hκ:K<4) (hK:ZR a.sz=K) :
 Calls Tryz.prog 137 #[pP b o,eV t n k m g p r L.p who] w fun e w'=>e=.returned (.tuple #[])/\Yb L b o T cs w w' (fun s' a'=>s'=(s.by who).step (6+t+n * 2+i * 3+1) (sum64 (s.wd (6+t+n * 2+i * 3+1)) (Xv (room K)))/\a'={ a with nx:=4 }):=by
 have HK:Hid (ZR a.sz=K):=hK
 have HI:Hid (a.sc=i):=hx
 clear hK hx
 obtain⟨hbv,hbb⟩:=nb h hi.lt
 go_enter Tryz.func137,Tryz.ntmps137
 go_wp2
 refine wo b h (fun _ g=>hi.grown g) ?_
 rintro W ⟨m1,i1,v1,o1⟩
 apply Xy 13;. kernel_rfl
 apply rV;. intro w' hg _;apply ol;have y:=(v1.dg hg).yy;go_simp;exact gl
 apply rV;. intros;apply ol;go_simp;exact gl
 apply rV;. intro w' hg _;apply ol;have y:=(v1.dg hg).yy;go_simp;exact gl
 iterate 3 (apply rV;. intros;apply ol;go_simp;exact gl)
 try simp only[pu,s0,s1]
 apply rV;. intros;apply ol;go_simp;exact gl
 apply rV;. intro w' hg _;apply ol;have z:=(i1.drew.grown hg).xK;rw[HI.out] at z;go_simp;exact gl
 apply rV (c:=iV ((6+t+n * 2+i * 3:Nat):Int));. intro w' hg _;apply ol;go_simp;refine(WI _ _ _ _ _ _ _ (i:Int) _ ar (by omega) (by omega)).mono ?_;rintro e w'' ⟨rfl,b9⟩;exact⟨_,rfl,b9,congrArg (Value.int .i64) (by omega)⟩
 apply rV (c:=iV ((6+t+n * 2+i * 3+1:Nat):Int));. intro w' hg _;apply ol;go_simp;exact⟨Grown.refl _,congrArg (Value.int .i64) (by rw[IntKind.wrap_i64];omega)⟩
 apply rV;. intros;apply ol;go_simp;exact gl
 apply rV;. intro w' hg _;apply ol;go_simp;exact cc (X6 _ _ HK.out (i1.drew.grown hg).WO)
 try simp only[pu,s0,s1]
 apply XW;. intro w' hg _;apply ol;go_simp;exact cc (VJ K hκ _)
 try simp only[pu,s0,s1]
 intro w5 hg _
 have m5:=m1.drew.below hg
 have i5:=i1.drew.grown hg
 have v5:=v1.dg hg
 have o5:=o1.og hg
 clear hg m1 i1 v1 o1
 go_wp2_with (go_at_call 150;refine(JW m5 _ _ _ _ _ _ _ _ (6+t+n * 2+i * 3+1) hn _).mono ?_;rintro e w6 ⟨rfl,m6,o6⟩;have i6:=i5.only o6 hb;have k0:=i6.Zr;have kf:=i6.fz)
 go_end0
 exact⟨rfl,_,_,_,m6.ZY hb _ _,(o5.trans o6.XH).set _ _,i6.Zl 4,Same.refl.set (by omega) _,rfl,rfl⟩
set_option maxHeartbeats 400000 in
theorem ahead {w:World} {L:Loc} {s:Mm} {b o:Nat} {T:TypeId} {cs:Array Value} {a:AV} {t n k m:Nat} {g p r:Int} (h:Z8 w L s) (hb:¬ L.has b) (hi:ZM w b o T cs a) (who:Int) (kd:Int) (fk:Fit kd) (z:Int) (fz:Fit z) (hz:a.sz=z) (x G A:Nat) (hx:a.sl=x) (hG:a.gn=G) (hA:a.sa=A) (ow:Bool) (hw:a.own=ow) (xb:x<=1000000) (gb:G<=1000000) (hn:A<s.n) :
 Calls Tryz.prog 138 #[pP b o,eV t n k m g p r L.p who,iV kd] w fun e w'=>e=.returned (.tuple #[])/\Yb L b o T cs w w' (fun s' a'=>s'=(s.by who).step A (Zg kd z x G ow)/\a'={ a with kd:=kd }):=by
 have HX:Hid (a.sl=x):=hx
 have HG:Hid (a.gn=G):=hG
 have HA:Hid (a.sa=A):=hA
 have HW:Hid (a.own=ow):=hw
 have HZ:Hid (a.sz=z):=hz
 clear hx hG hA hw hz
 obtain⟨hbv,hbb⟩:=nb h hi.lt
 have j1:=hi.grown (Z7 (Below.refl _ _) (.cells #[iV t,iV n,iV k,iV m,iV g,iV p,iV r,pP L.p 0,iV who] 27))
 have k0:=j1.P6
 have kf:=j1.fz
 have j2:=j1.zO kd
 go_enter Tryz.func138,Tryz.ntmps138
 go_wp2
 refine ZT (fun W=>Z8 W L s/\ZM W b o T (cs.setIfInBounds (o+15) (iV kd)) { a with kd:=kd }/\ZP W w.heap.size t n k m g p r L.p who/\Only (L.and b) w W) ⟨(h.alloc _).ZY hb _ _,j2,ZP.new.ZY hbb _ _,((Only.refl _ _).alloc _).set _ _⟩ ?_
 clear j1 j2 k0 kf
 rintro W ⟨m1,i1,v1,o1⟩
 apply Xy 11;. kernel_rfl
 apply rV;. intro w' hg _;apply ol;have y:=(v1.dg hg).yy;go_simp;exact gl
 iterate 4 (apply rV;. intros;apply ol;go_simp;exact gl)
 apply rV;. intro w' hg _;apply ol;have z:=(i1.drew.grown hg).zQ;rw[show ({ a with kd:=kd }:AV).sa=A from HA.out] at z;go_simp;exact gl
 try simp only[pu,s0,s1]
 iterate 3 (apply rV;. intros;apply ol;go_simp;exact gl)
 apply rV;. intro w' hg _;apply ol;have z0:=(i1.drew.grown hg).P6;have z1:=(i1.drew.grown hg).WO;have z2:=(i1.drew.grown hg).Oi;have z3:=(i1.drew.grown hg).Dx;have z4:=(i1.drew.grown hg).QF;rw[show ({ a with kd:=kd }:AV).sz=z from HZ.out] at z1;rw[show ({ a with kd:=kd }:AV).sl=x from HX.out] at z2;rw[show ({ a with kd:=kd }:AV).gn=G from HG.out] at z3;rw[show ({ a with kd:=kd }:AV).own=ow from HW.out] at z4;go_simp;exact gl
 apply XW;. intro w' hg _;apply ol;go_simp;exact cb (Oa kd z x G ow _ fk fz ⟨by omega,by omega⟩ ⟨by omega,by omega⟩)
 try simp only[pu,s0,s1]
 intro w5 hg _
 have m5:=m1.drew.below hg
 have i5:=i1.drew.grown hg
 have v5:=v1.dg hg
 have o5:=o1.og hg
 clear hg m1 i1 v1 o1
 go_wp2_with (go_at_call 128;refine(WX m5 _ _ _ _ _ _ _ _ A hn _).mono ?_;rintro e w6 ⟨rfl,m6,o6⟩)
 go_end0
 exact⟨rfl,_,_,_,m6,o5.trans o6.XH,i5.only o6 hb,Same.refl.set (by omega) _,rfl,rfl⟩
set_option maxHeartbeats 1000000 in
theorem xu {w:World} {L:Loc} {s:Mm} {b o:Nat} {T:TypeId} {cs:Array Value} {a:AV} {t n k m:Nat} {g p r:Int} (h:Z8 w L s) (hb:¬ L.has b) (hi:ZM w b o T cs a) (who:Int) (ar:Yu t n k m) (x G A:Nat) (hx:a.sl=x) (hG:a.gn=G) (hA:a.sa=A) (xb:x<=1000000) (gb:G<=1000000) (ab:A<=1000000) (hn:6+t+x * 2<s.n) (st:Nat) (hst:wrap64 (s.steps+1)=st) :
 Calls Tryz.prog 139 #[pP b o,eV t n k m g p r L.p who] w fun e w'=>e=.returned (.tuple #[])/\Yb L b o T cs w w' (fun s' a'=>s'=(s.by who).step (6+t+x * 2) (Zq 1 A G 0)/\a'={ a with H:=Zc x G,St:=st,nx:=6 }):=by
 have HX:Hid (a.sl=x):=hx
 have HG:Hid (a.gn=G):=hG
 have HA:Hid (a.sa=A):=hA
 have HS:Hid (wrap64 (s.steps+1)=st):=hst
 clear hx hG hA hst
 obtain⟨hbv,hbb⟩:=nb h hi.lt
 go_enter Tryz.func139,Tryz.ntmps139
 go_wp2
 refine wo b h (fun _ g=>hi.grown g) ?_
 rintro W ⟨m1,i1,v1,o1⟩
 apply Xy 21;. kernel_rfl
 apply rV;. intro w' hg _;apply ol;have y:=(v1.dg hg).yy;go_simp;exact gl
 apply rV;. intros;apply ol;go_simp;exact gl
 apply rV;. intro w' hg _;apply ol;have y:=(v1.dg hg).yy;go_simp;exact gl
 iterate 3 (apply rV;. intros;apply ol;go_simp;exact gl)
 try simp only[pu,s0,s1]
 apply rV;. intros;apply ol;go_simp;exact gl
 apply rV;. intro w' hg _;apply ol;have z:=(i1.drew.grown hg).Oi;rw[HX.out] at z;go_simp;exact gl
 apply rV (c:=iV ((6+t+x * 2:Nat):Int));. intro w' hg _;apply ol;go_simp;refine(Y4 _ _ _ _ _ _ _ (x:Int) _ ar (by omega) (by omega)).mono ?_;rintro e w'' ⟨rfl,b9⟩;exact⟨_,rfl,b9,congrArg (Value.int .i64) (by omega)⟩
 iterate 3 (apply rV;. intros;apply ol;go_simp;exact gl)
 try simp only[pu,s0,s1]
 apply rV;. intros;apply ol;go_simp;exact gl
 apply rV;. intro w' hg _;apply ol;have z:=(i1.drew.grown hg).zQ;rw[HA.out] at z;go_simp;exact gl
 iterate 4 (apply rV;. intros;apply ol;go_simp;exact gl)
 try simp only[pu,s0,s1]
 apply rV;. intro w' hg _;apply ol;have z:=(i1.drew.grown hg).Dx;rw[HG.out] at z;go_simp;exact gl
 apply rV;. intros;apply ol;go_simp;exact gl
 apply XW;. intro w' hg _;apply ol;go_simp;exact cb (Yo 1 A G 0 _ ⟨by omega,by omega⟩ ⟨by omega,by omega⟩ ⟨by omega,by omega⟩ ⟨by omega,by omega⟩)
 try simp only[pu,s0,s1]
 intro w5 hg _
 have m5:=m1.drew.below hg
 have i5:=i1.drew.grown hg
 have v5:=v1.dg hg
 have o5:=o1.og hg
 clear hg m1 i1 v1 o1
 go_wp2_with (go_at_call 128;refine(WX m5 _ _ _ _ _ _ _ _ (6+t+x * 2) hn _).mono ?_;rintro e w6 ⟨rfl,m6,o6⟩)
 have m1:=m6
 have i1:=i5.only o6 hb
 have v1:=v5.only o6 hbv
 have o1:=o5.trans (o6.XH (b:=b))
 clear m6 m5 i5 v5 o5 o6
 apply Xy 16;. kernel_rfl
 iterate 5 (apply rV;. intros;apply ol;go_simp;exact gl)
 apply rV;. intro w' hg _;apply ol;have z:=(i1.drew.grown hg).Oi;rw[HX.out] at z;go_simp;exact gl
 try simp only[pu,s0,s1]
 iterate 4 (apply rV;. intros;apply ol;go_simp;exact gl)
 apply rV;. intro w' hg _;apply ol;have z:=(i1.drew.grown hg).Dx;rw[HG.out] at z;go_simp;exact gl
 apply rV;. intros;apply ol;go_simp;exact gl
 try simp only[pu,s0,s1]
 apply rV;. intro w' hg _;apply ol;go_simp;exact cb (QM x G _ ⟨by omega,by omega⟩ ⟨by omega,by omega⟩)
 iterate 2 (apply rV;. intros;apply ol;go_simp;exact gl)
 apply XW;. intros;apply ol;go_simp;exact gl
 try simp only[pu,s0,s1]
 intro w7 hg _
 have m5:=m1.drew.below hg
 have i5:=i1.drew.grown hg
 have v5:=v1.dg hg
 have o5:Only (L.and b) w w7:=o1.drew.trans (Only.Z5 hg)
 clear hg m1 i1 v1 o1
 have k0:=i5.Eg
 have kf:=i5.fz
 have i8:=i5.QE (Zc x G)
 have m8:=m5.ZY hb (o+23) (.int .u64 (Zc x G))
 have v8:=v5.ZY hbb (o+23) (.int .u64 (Zc x G))
 have o8:=o5.set (o+23) (.int .u64 (Zc x G))
 obtain⟨z0,z1,z2,z3,z4,z5,z6,z7,z8⟩:=id v8
 go_wp2_with (go_at_call 11;refine(Yk m8 _ _ _ _ _ _ _ _ st HS.out).mono ?_;rintro e w9 ⟨rfl,b9⟩;have i9:=i8.grown b9;have k1:=i9.SN;have k2:=i9.Zr;have kg:=i9.fz)
 go_end0
 exact⟨rfl,_,_,_,((m8.below b9).ZY hb _ _).ZY hb _ _,((o8.trans (Only.Z5 b9)).set _ _).set _ _,(i9.Vs st).Zl 6,((Same.refl.set (by omega) _).set (by omega) _).set (by omega) _,rfl,rfl⟩
theorem FY {w:World} {L:Loc} {s:Mm} {b o:Nat} {T:TypeId} {cs:Array Value} {a:AV} {t n k m:Nat} {g p r:Int} (h:Z8 w L s) (hb:¬ L.has b) (hi:ZM w b o T cs a) (who:Int) {σ c:Nat} {lk:Nat->Nat} {F:List Nat} (hp:YH t n s σ c lk F) (hσ:σ<1000000) (SY:t<=8) {x:Nat} (hx:x<n) (hF:x∉F) (γ:Gv) (hgv:γ.cells x a.gv) (hg:γ.good n c lk F x) (ho:γ.done=false) (c':Nat) (lk':Nat->Nat) (F':List Nat) (γ':Gv) (ht:YM c lk F x γ=(c',lk',F',γ')) (hd:γ'.done=false) :
 Calls Tryz.prog 140 #[pP b o,eV t n k m g p r L.p who] w fun e w'=>e=.returned (.tuple #[])/\Yb L b o T cs w w' (fun s' a'=>YH t n s' (σ+1) c' lk' F'/\(∃ v,s'=(s.by who).step (γ.at t x) v)/\γ'.good n c' lk' F' x/\∃ l,γ'.cells x l/\a'={ a with gv:=l }):=by
 obtain⟨hbv,hbb⟩:=nb h hi.lt
 have HT:Hid (YM c lk F x γ=(c',lk',F',γ')):=ht
 have HO:Hid (γ.done=false):=ho
 clear ht ho
 go_enter Tryz.func140,Tryz.ntmps140
 go_wp2
 refine wo b h (fun _ g=>hi.grown g) ?_
 rintro W ⟨m1,i1,v1,o1⟩
 apply Xy 4;. kernel_rfl
 iterate 3 (apply rV;. intros;apply ol;go_simp;exact gl)
 apply XW;. intro w' hg _;apply ol;have y:=(v1.dg hg).yy;go_simp;exact gl
 try simp only[pu,s0,s1]
 intro w5 hg _
 have m5:=m1.drew.below hg
 have i5:=i1.drew.grown hg
 have v5:=v1.dg hg
 have o5:=o1.og hg
 clear hg m1 i1 v1 o1
 go_wp2_with (first
  | (go_at_call 154;refine(VI m5 hb hp hσ SY hx hF γ ⟨_,i5.xM,hgv⟩ hg HO.out _ _ _ _ _ _ c' lk' F' γ' HT.out false hd).mono ?_;rintro e w6 ⟨rfl,s6,WR,P⟩;obtain⟨l6,a6,q6⟩:=P.a;have i6:=i5.JX a6 (Gv.Zu q6) P.same;have v6:=v5.only P.only (fun hh=>hh.elim hbv hbb);have o6:=o5.trans P.only;have L8:Same o 26 cs WR:=P.same.wide (by omega) (by omega);obtain⟨z0,z1,z2,z3,z4,z5,z6,z7,z8⟩:=id v6))
 go_end0
 exact⟨rfl,s6,WR,_,P.m,o6,i6,L8,P.p,P.st,P.good,l6,q6,rfl⟩
theorem LX {w:World} {L:Loc} {s:Mm} {b o:Nat} {T:TypeId} {cs:Array Value} {a:AV} {t n k m:Nat} {g p r:Int} (h:Z8 w L s) (hb:¬ L.has b) (hi:ZM w b o T cs a) (who:Int) {σ c:Nat} {lk:Nat->Nat} {F:List Nat} (hp:YH t n s σ c lk F) (hσ:σ<1000000) (SY:t<=8) {x:Nat} (hx:x<n) (hF:x∉F) (γ:Gv) (hgv:γ.cells x a.gv) (hg:γ.good n c lk F x) (ho:γ.done=false) (c':Nat) (lk':Nat->Nat) (F':List Nat) (γ':Gv) (ht:YM c lk F x γ=(c',lk',F',γ')) (hd:γ'.done=true) :
 Calls Tryz.prog 140 #[pP b o,eV t n k m g p r L.p who] w fun e w'=>e=.returned (.tuple #[])/\Yb L b o T cs w w' (fun s' a'=>YH t n s' (σ+1) c' lk' F'/\(∃ v,s'=(s.by who).step (γ.at t x) v)/\∃ l,l.length=3/\a'={ a with gv:=l,nx:=8,E:=6,H:=0,V:=0,St:=((σ+1:Nat):Int) }):=by
 obtain⟨hbv,hbb⟩:=nb h hi.lt
 have HT:Hid (YM c lk F x γ=(c',lk',F',γ')):=ht
 have HO:Hid (γ.done=false):=ho
 clear ht ho
 go_enter Tryz.func140,Tryz.ntmps140
 go_wp2
 refine wo b h (fun _ g=>hi.grown g) ?_
 rintro W ⟨m1,i1,v1,o1⟩
 apply Xy 4;. kernel_rfl
 iterate 3 (apply rV;. intros;apply ol;go_simp;exact gl)
 apply XW;. intro w' hg _;apply ol;have y:=(v1.dg hg).yy;go_simp;exact gl
 try simp only[pu,s0,s1]
 intro w5 hg _
 have m5:=m1.drew.below hg
 have i5:=i1.drew.grown hg
 have v5:=v1.dg hg
 have o5:=o1.og hg
 clear hg m1 i1 v1 o1
 go_wp2_with (first
  | (go_at_call 154;refine(VI m5 hb hp hσ SY hx hF γ ⟨_,i5.xM,hgv⟩ hg HO.out _ _ _ _ _ _ c' lk' F' γ' HT.out true hd).mono ?_;rintro e w6 ⟨rfl,s6,WR,P⟩;obtain⟨l6,a6,q6⟩:=P.a;have i6:=i5.JX a6 (Gv.Zu q6) P.same;have v6:=v5.only P.only (fun hh=>hh.elim hbv hbb);have o6:=o5.trans P.only;have L8:Same o 26 cs WR:=P.same.wide (by omega) (by omega);obtain⟨z0,z1,z2,z3,z4,z5,z6,z7,z8⟩:=id v6)
  | (go_at_call 141;refine(PH P.m hb i6 _ _ (σ+1) P.p.st).mono ?_;rintro e w8 ⟨rfl,s8,yD,a8,m8,o8,i8,q8,rfl,rfl⟩))
 go_end0
 exact⟨rfl,_,yD,_,m8,o6.trans o8,i8,L8.trans q8,P.p,P.st,l6,Gv.Zu q6,rfl⟩
end
section
theorem WJ {w:World} {L:Loc} {s:Mm} {b o:Nat} {T:TypeId} {cs:Array Value} {a:AV} {t n k m:Nat} {g p r:Int} (h:Z8 w L s) (hi:ZM w b o T cs a) (who:Int) (hnx:a.nx=0) (X:Mm->AV->Prop) (d:Bool) (hX:∀ s' a',X s' a'->(a'.nx == 8)=d)
 (hc:∀ w1:World,Z8 w1 L s->ZM w1 b o T cs a->Calls Tryz.prog 134 #[pP b o,eV t n k m g p r L.p who] w1 fun e w'=>e=.returned (.tuple #[])/\Yb L b o T cs w1 w' X) :
 Calls Tryz.prog 132 #[pP b o,eV t n k m g p r L.p who] w fun e w'=>e=.returned (.bool d)/\Yb L b o T cs w w' X:=by
 have i1:=hi.grown (Z7 (Below.refl _ _) (.cells #[iV t,iV n,iV k,iV m,iV g,iV p,iV r,pP L.p 0,iV who] 27))
 have m1:=h.alloc (.cells #[iV t,iV n,iV k,iV m,iV g,iV p,iV r,pP L.p 0,iV who] 27)
 have k0:=i1.Zr
 rw[hnx] at k0
 go_enter Tryz.func132,Tryz.ntmps132
 go_wp2_with (go_at_call 134;refine(hc _ m1 i1).mono ?_;rintro e w2 ⟨rfl,s2,cs2,a2,m2,o2,i2,q2,x2⟩;have k2:=i2.Zr)
 go_ret
 exact⟨XV (hX _ _ x2),s2,cs2,a2,m2,((Only.refl _ _).alloc _).trans o2,i2,q2,x2⟩
theorem Ja {w:World} {L:Loc} {s:Mm} {b o:Nat} {T:TypeId} {cs:Array Value} {a:AV} {t n k m:Nat} {g p r:Int} (h:Z8 w L s) (hi:ZM w b o T cs a) (who:Int) (hnx:a.nx=1) (X:Mm->AV->Prop) (d:Bool) (hX:∀ s' a',X s' a'->(a'.nx == 8)=d)
 (hc:∀ w1:World,Z8 w1 L s->ZM w1 b o T cs a->Calls Tryz.prog 135 #[pP b o,eV t n k m g p r L.p who] w1 fun e w'=>e=.returned (.tuple #[])/\Yb L b o T cs w1 w' X) :
 Calls Tryz.prog 132 #[pP b o,eV t n k m g p r L.p who] w fun e w'=>e=.returned (.bool d)/\Yb L b o T cs w w' X:=by
 have i1:=hi.grown (Z7 (Below.refl _ _) (.cells #[iV t,iV n,iV k,iV m,iV g,iV p,iV r,pP L.p 0,iV who] 27))
 have m1:=h.alloc (.cells #[iV t,iV n,iV k,iV m,iV g,iV p,iV r,pP L.p 0,iV who] 27)
 have k0:=i1.Zr
 rw[hnx] at k0
 go_enter Tryz.func132,Tryz.ntmps132
 go_wp2_with (go_at_call 135;refine(hc _ m1 i1).mono ?_;rintro e w2 ⟨rfl,s2,cs2,a2,m2,o2,i2,q2,x2⟩;have k2:=i2.Zr)
 go_ret
 exact⟨XV (hX _ _ x2),s2,cs2,a2,m2,((Only.refl _ _).alloc _).trans o2,i2,q2,x2⟩
theorem Wi {w:World} {L:Loc} {s:Mm} {b o:Nat} {T:TypeId} {cs:Array Value} {a:AV} {t n k m:Nat} {g p r:Int} (h:Z8 w L s) (hi:ZM w b o T cs a) (who:Int) (hnx:a.nx=2) (X:Mm->AV->Prop) (d:Bool) (hX:∀ s' a',X s' a'->(a'.nx == 8)=d)
 (hc:∀ w1:World,Z8 w1 L s->ZM w1 b o T cs a->Calls Tryz.prog 136 #[pP b o,eV t n k m g p r L.p who] w1 fun e w'=>e=.returned (.tuple #[])/\Yb L b o T cs w1 w' X) :
 Calls Tryz.prog 132 #[pP b o,eV t n k m g p r L.p who] w fun e w'=>e=.returned (.bool d)/\Yb L b o T cs w w' X:=by
 have i1:=hi.grown (Z7 (Below.refl _ _) (.cells #[iV t,iV n,iV k,iV m,iV g,iV p,iV r,pP L.p 0,iV who] 27))
 have m1:=h.alloc (.cells #[iV t,iV n,iV k,iV m,iV g,iV p,iV r,pP L.p 0,iV who] 27)
 have k0:=i1.Zr
 rw[hnx] at k0
 go_enter Tryz.func132,Tryz.ntmps132
 go_wp2_with (go_at_call 136;refine(hc _ m1 i1).mono ?_;rintro e w2 ⟨rfl,s2,cs2,a2,m2,o2,i2,q2,x2⟩;have k2:=i2.Zr)
 go_ret
 exact⟨XV (hX _ _ x2),s2,cs2,a2,m2,((Only.refl _ _).alloc _).trans o2,i2,q2,x2⟩
theorem Oc {w:World} {L:Loc} {s:Mm} {b o:Nat} {T:TypeId} {cs:Array Value} {a:AV} {t n k m:Nat} {g p r:Int} (h:Z8 w L s) (hi:ZM w b o T cs a) (who:Int) (hnx:a.nx=3) (X:Mm->AV->Prop) (d:Bool) (hX:∀ s' a',X s' a'->(a'.nx == 8)=d)
 (hc:∀ w1:World,Z8 w1 L s->ZM w1 b o T cs a->Calls Tryz.prog 137 #[pP b o,eV t n k m g p r L.p who] w1 fun e w'=>e=.returned (.tuple #[])/\Yb L b o T cs w1 w' X) :
 Calls Tryz.prog 132 #[pP b o,eV t n k m g p r L.p who] w fun e w'=>e=.returned (.bool d)/\Yb L b o T cs w w' X:=by
 have i1:=hi.grown (Z7 (Below.refl _ _) (.cells #[iV t,iV n,iV k,iV m,iV g,iV p,iV r,pP L.p 0,iV who] 27))
 have m1:=h.alloc (.cells #[iV t,iV n,iV k,iV m,iV g,iV p,iV r,pP L.p 0,iV who] 27)
 have k0:=i1.Zr
 rw[hnx] at k0
 go_enter Tryz.func132,Tryz.ntmps132
 go_wp2_with (go_at_call 137;refine(hc _ m1 i1).mono ?_;rintro e w2 ⟨rfl,s2,cs2,a2,m2,o2,i2,q2,x2⟩;have k2:=i2.Zr)
 go_ret
 exact⟨XV (hX _ _ x2),s2,cs2,a2,m2,((Only.refl _ _).alloc _).trans o2,i2,q2,x2⟩
theorem LZ {w:World} {L:Loc} {s:Mm} {b o:Nat} {T:TypeId} {cs:Array Value} {a:AV} {t n k m:Nat} {g p r:Int} (h:Z8 w L s) (hi:ZM w b o T cs a) (who:Int) (hnx:a.nx=5) (X:Mm->AV->Prop) (d:Bool) (hX:∀ s' a',X s' a'->(a'.nx == 8)=d)
 (hc:∀ w1:World,Z8 w1 L s->ZM w1 b o T cs a->Calls Tryz.prog 139 #[pP b o,eV t n k m g p r L.p who] w1 fun e w'=>e=.returned (.tuple #[])/\Yb L b o T cs w1 w' X) :
 Calls Tryz.prog 132 #[pP b o,eV t n k m g p r L.p who] w fun e w'=>e=.returned (.bool d)/\Yb L b o T cs w w' X:=by
 have i1:=hi.grown (Z7 (Below.refl _ _) (.cells #[iV t,iV n,iV k,iV m,iV g,iV p,iV r,pP L.p 0,iV who] 27))
 have m1:=h.alloc (.cells #[iV t,iV n,iV k,iV m,iV g,iV p,iV r,pP L.p 0,iV who] 27)
 have k0:=i1.Zr
 rw[hnx] at k0
 go_enter Tryz.func132,Tryz.ntmps132
 go_wp2_with (go_at_call 139;refine(hc _ m1 i1).mono ?_;rintro e w2 ⟨rfl,s2,cs2,a2,m2,o2,i2,q2,x2⟩;have k2:=i2.Zr)
 go_ret
 exact⟨XV (hX _ _ x2),s2,cs2,a2,m2,((Only.refl _ _).alloc _).trans o2,i2,q2,x2⟩
theorem RU {w:World} {L:Loc} {s:Mm} {b o:Nat} {T:TypeId} {cs:Array Value} {a:AV} {t n k m:Nat} {g p r:Int} (h:Z8 w L s) (hi:ZM w b o T cs a) (who:Int) (hnx:a.nx=7) (X:Mm->AV->Prop) (d:Bool) (hX:∀ s' a',X s' a'->(a'.nx == 8)=d)
 (hc:∀ w1:World,Z8 w1 L s->ZM w1 b o T cs a->Calls Tryz.prog 140 #[pP b o,eV t n k m g p r L.p who] w1 fun e w'=>e=.returned (.tuple #[])/\Yb L b o T cs w1 w' X) :
 Calls Tryz.prog 132 #[pP b o,eV t n k m g p r L.p who] w fun e w'=>e=.returned (.bool d)/\Yb L b o T cs w w' X:=by
 have i1:=hi.grown (Z7 (Below.refl _ _) (.cells #[iV t,iV n,iV k,iV m,iV g,iV p,iV r,pP L.p 0,iV who] 27))
 have m1:=h.alloc (.cells #[iV t,iV n,iV k,iV m,iV g,iV p,iV r,pP L.p 0,iV who] 27)
 have k0:=i1.Zr
 rw[hnx] at k0
 go_enter Tryz.func132,Tryz.ntmps132
 go_wp2_with (go_at_call 140;refine(hc _ m1 i1).mono ?_;rintro e w2 ⟨rfl,s2,cs2,a2,m2,o2,i2,q2,x2⟩;have k2:=i2.Zr)
 go_ret
 exact⟨XV (hX _ _ x2),s2,cs2,a2,m2,((Only.refl _ _).alloc _).trans o2,i2,q2,x2⟩
theorem LY {w:World} {L:Loc} {s:Mm} {b o:Nat} {T:TypeId} {cs:Array Value} {a:AV} {t n k m:Nat} {g p r:Int} (h:Z8 w L s) (hb:¬ L.has b) (hi:ZM w b o T cs a) (who:Int) (hnx:a.nx=4) (z:Int) (fz:Fit z) (hz:a.sz=z) (x G A:Nat) (hx:a.sl=x) (hG:a.gn=G) (hA:a.sa=A) (ow:Bool) (hw:a.own=ow) (xb:x<=1000000) (gb:G<=1000000) (hn:A<s.n) :
 Calls Tryz.prog 132 #[pP b o,eV t n k m g p r L.p who] w fun e w'=>e=.returned (.bool false)/\Yb L b o T cs w w' (fun s' a'=>s'=(s.by who).step A (Zg 1 z x G ow)/\a'={ a with kd:=1,nx:=5 }):=by
 have i1:=hi.grown (Z7 (Below.refl _ _) (.cells #[iV t,iV n,iV k,iV m,iV g,iV p,iV r,pP L.p 0,iV who] 27))
 have m1:=h.alloc (.cells #[iV t,iV n,iV k,iV m,iV g,iV p,iV r,pP L.p 0,iV who] 27)
 have k0:=i1.Zr
 rw[hnx] at k0
 have hc:=fun(w1:World) (mm:Z8 w1 L s) (i:ZM w1 b o T cs a)=>ahead (g:=g) (p:=p) (r:=r) (t:=t) (n:=n) (k:=k) (m:=m) mm hb i who 1 ⟨by decide,by decide⟩ z fz hz x G A hx hG hA ow hw xb gb hn
 go_enter Tryz.func132,Tryz.ntmps132
 go_wp2_with (go_at_call 138;refine(hc _ m1 i1).mono ?_;rintro e w2 ⟨rfl,s2,cs2,a2,m2,o2,i2,q2,rfl,rfl⟩;have k2:=i2.Zr;have kf:=i2.fz)
 go_ret
 exact⟨rfl,_,_,_,m2.ZY hb _ _,(((Only.refl _ _).alloc _).trans o2).set _ _,i2.Zl 5,q2.set (by omega) _,rfl,rfl⟩
theorem Ob {w:World} {L:Loc} {s:Mm} {b o:Nat} {T:TypeId} {cs:Array Value} {a:AV} {t n k m:Nat} {g p r:Int} (h:Z8 w L s) (hb:¬ L.has b) (hi:ZM w b o T cs a) (who:Int) (hnx:a.nx=6) (z:Int) (fz:Fit z) (hz:a.sz=z) (x G A:Nat) (hx:a.sl=x) (hG:a.gn=G) (hA:a.sa=A) (ow:Bool) (hw:a.own=ow) (xb:x<=1000000) (gb:G<=1000000) (hn:A<s.n) :
 Calls Tryz.prog 132 #[pP b o,eV t n k m g p r L.p who] w fun e w'=>e=.returned (.bool true)/\Yb L b o T cs w w' (fun s' a'=>s'=(s.by who).step A (Zg 2 z x G ow)/\a'={ a with kd:=2,nx:=8 }):=by
 have i1:=hi.grown (Z7 (Below.refl _ _) (.cells #[iV t,iV n,iV k,iV m,iV g,iV p,iV r,pP L.p 0,iV who] 27))
 have m1:=h.alloc (.cells #[iV t,iV n,iV k,iV m,iV g,iV p,iV r,pP L.p 0,iV who] 27)
 have k0:=i1.Zr
 rw[hnx] at k0
 have hc:=fun(w1:World) (mm:Z8 w1 L s) (i:ZM w1 b o T cs a)=>ahead (g:=g) (p:=p) (r:=r) (t:=t) (n:=n) (k:=k) (m:=m) mm hb i who 2 ⟨by decide,by decide⟩ z fz hz x G A hx hG hA ow hw xb gb hn
 go_enter Tryz.func132,Tryz.ntmps132
 go_wp2_with (go_at_call 138;refine(hc _ m1 i1).mono ?_;rintro e w2 ⟨rfl,s2,cs2,a2,m2,o2,i2,q2,rfl,rfl⟩;have k2:=i2.Zr;have kf:=i2.fz)
 go_ret
 exact⟨rfl,_,_,_,m2.ZY hb _ _,(((Only.refl _ _).alloc _).trans o2).set _ _,i2.Zl 8,q2.set (by omega) _,rfl,rfl⟩
def av0 (z:Int) (own:Bool):AV:=⟨0,Uo 0 0 0 0,Yw 0 0 0 0 0 0 0,U3 0 0 0,0,z,0,0,own,0,0,0,0,0,0⟩
def PQ (z:Int) (own:Bool):Obj:=.cells #[iV 0,iV 0,.int .u64 0,iV 0,iV 0,iV 0,iV 0,.int .u64 0,iV 0,.int .u64 0,iV 0,iV 0,iV 0,iV 0,.int .u64 0,iV 0,iV z,iV 0,iV 0,.bool own,iV 0,iV 0,iV 0,.int .u64 0,iV 0,iV 0] 157
theorem PO (z:Int) (own:Bool) (w:World) :
 Calls Tryz.prog 70 #[iV z,.bool own] w fun e w'=>e=.returned (pP w.heap.size 0)/\w'=w.alloc (PQ z own):=by
 unfold PQ
 go_enter Tryz.func70,Tryz.ntmps70
 go_wp2
 go_ret
 exact⟨rfl,rfl⟩
theorem Qz (z:Int) (own:Bool) (w:World):∃ cs,ZM (w.alloc (PQ z own)) w.heap.size 0 157 cs (av0 z own):=by
 refine⟨_,Go.Deep.blk_alloc_new _ _,rfl,rfl,rfl,rfl,fun i v hv=>?_,fun i v hv=>?_,fun i v hv=>?_,rfl,rfl,rfl,rfl,rfl,rfl,rfl,rfl,rfl,rfl,rfl⟩
 . have hl:i<4:=lt_of_some hv
   match i,hl with
   | 0,_=>exact hv
   | 1,_=>exact hv
   | 2,_=>exact hv
   | 3,_=>exact hv
 . have hl:i<7:=lt_of_some hv
   match i,hl with
   | 0,_=>exact hv
   | 1,_=>exact hv
   | 2,_=>exact hv
   | 3,_=>exact hv
   | 4,_=>exact hv
   | 5,_=>exact hv
   | 6,_=>exact hv
 . have hl:i<3:=lt_of_some hv
   match i,hl with
   | 0,_=>exact hv
   | 1,_=>exact hv
   | 2,_=>exact hv
theorem RY {w:World} {b o:Nat} {T:TypeId} {cs:Array Value} {a:AV} (hi:ZM w b o T cs a) (hnx:a.nx=8) :
 Calls Tryz.prog 131 #[pP b o] w fun e w'=>e=.returned (.agg #[iV a.E,.int .u64 a.H,iV a.V,iV a.St])/\Below w.heap.size w w':=by
 have i1:=hi.grown (Z7 (Below.refl _ _) (.cells #[iV 0,.int .u64 0,iV 0,iV 0] 53))
 have k0:=i1.Zr
 rw[hnx] at k0
 have k1:=i1.D8
 have k2:=i1.Eg
 have k3:=i1.D7
 have k4:=i1.SN
 go_enter Tryz.func131,Tryz.ntmps131
 go_wp2
 refine bodyPost_ret (v:=.agg #[iV a.E,.int .u64 a.H,iV a.V,iV a.St]) (by simp[results,Tryz.results131,go_sem]) rfl ?_
 refine⟨rfl,?_⟩
 first
  | exact Z7 (Below.refl _ _) _
  | exact Z4 (Z4 (Z4 (Z4 (Z7 (Below.refl _ _) _) (Nat.le_refl _) _ _) (Nat.le_refl _) _ _) (Nat.le_refl _) _ _) (Nat.le_refl _) _ _
end
section
structure Q where
 c:Nat
 lk:Nat->Nat
 F:List Nat
 y:Y
 lv:Nat->Nat
 sw:Nat->Int
 dw:Nat->Int
 db:Nat->Nat:=fun _=>0
def IX (a d:Nat):Int:=((a:Int) - (d:Int)) % 18446744073709551616
theorem C9 (a d r:Nat):sum64 (IX a d) (Xv (r:Int))=IX (a+r) d:=by unfold sum64 Xv IX;omega
theorem CZ (a d r:Nat) (h:r<=a):sum64 (IX a d) (Xv (-(r:Int)))=IX (a - r) d:=by unfold sum64 Xv IX;omega
structure Y9 (t n k m:Nat) (s:Mm) (σ:Nat) (q:Q):Prop where
 pile:YH t n s σ q.c q.lk q.F
 Sm:XG t n k m s σ q.y
 Ee:∀ i,i<k->s.wd (6+t+n * 2+i * 3+1)=IX (q.lv i) (q.db i)
 Ed:∀ i,i<k->q.lv i<=17 * σ
 QA:∀ x,x<n->s.wd (6+t+x * 2)=q.sw x
 Gz:∀ x,x<n->0<=q.sw x/\q.sw x<=18446744073709551615
 Jp:∀ a,6+t+n * 2+k * 3<=a->s.wd a=q.dw a
 ep:0<=s.wd 0/\s.wd 0<=18446744073709551615
inductive Al where
 | take (τ:Tk)
 | ask (x:Nat)
 | place (x g:Nat) (τ:Pl)
 | count (x g a i:Nat)
 | head (x g a i:Nat)
 | shw (x g a i:Nat)
 | ready (x g a i st:Nat)
 | give (x g:Nat) (γ:Gv)
 | over (E H:Int) (st:Nat)
def Al.ZB:Al->Bool
 | .over _ _ _=>true
 | _=>false
def ZE (v:Int):Nat:=(v / 8388608 % 65536).toNat
def Vm (q:Q) (σ:Nat):Nat × List Nat × Tk->Q × Al
 | (c',F',.XO x)=>({ q with c:=c',F:=F' },.ask x)
 | (c',F',.none)=>({ q with c:=c',F:=F' },.over 7 0 (σ+1))
 | (c',F',τ')=>({ q with c:=c',F:=F' },.take τ')
def VN (q:Q) (x g:Nat):Y × Pl->Q × Al
 | (y',.XO a i)=>({ q with y:=y' },.count x g a i)
 | (y',.none)=>({ q with y:=y' },.give x g .idle)
 | (y',τ')=>({ q with y:=y' },.place x g τ')
def PU (q:Q) (σ x g:Nat):Nat × (Nat->Nat) × List Nat × Gv->Q × Al
 | (c',lk',F',.over)=>({ q with c:=c',lk:=lk',F:=F' },.over 6 0 (σ+1))
 | (c',lk',F',γ')=>({ q with c:=c',lk:=lk',F:=F' },.give x g γ')
def YP (t n k m κ:Nat) (z:Int) (own:Bool) (σ:Nat) (q:Q):Al->Q × Al
 | .take τ=>Vm q σ (YF q.c q.lk q.F τ)
 | .ask x=>(q,.place x (ZE (q.sw x)) .see)
 | .place x g τ=>VN q x g (turn k m κ (base t n k m) q.y τ)
 | .count x g a i=>({ q with lv:=upd q.lv i (q.lv i+room κ) },.head x g a i)
 | .head x g a i=>({ q with dw:=upd q.dw a (Zg 1 z x g own) },.shw x g a i)
 | .shw x g a i=>({ q with sw:=upd q.sw x (Zq 1 a g 0) },.ready x g a i (σ+1))
 | .ready x g a _ st=>({ q with dw:=upd q.dw a (Zg 2 z x g own) },.over 0 (Zc x g) st)
 | .give x g γ=>PU q σ x g (YM q.c q.lk q.F x γ)
 | .over E H st=>(q,.over E H st)
def Al.good (t n k m κ σ:Nat) (q:Q):Al->Prop
 | .take τ=>τ.good n q.c q.lk q.F/\τ.over=false
 | .ask x=>x<n/\x∉q.F
 | .place x g τ=>x<n/\x∉q.F/\g<=65535/\τ.good k m κ σ/\τ.over=false
 | .count x g a i=>x<n/\x∉q.F/\g<=65535/\i<k/\6+t+n * 2+k * 3<=a/\a<6+t+n * 2+k * 3+k * m
 | .head x g a i=>x<n/\x∉q.F/\g<=65535/\i<k/\6+t+n * 2+k * 3<=a/\a<6+t+n * 2+k * 3+k * m
 | .shw x g a i=>x<n/\x∉q.F/\g<=65535/\i<k/\6+t+n * 2+k * 3<=a/\a<6+t+n * 2+k * 3+k * m
 | .ready x g a i _=>x<n/\x∉q.F/\g<=65535/\i<k/\6+t+n * 2+k * 3<=a/\a<6+t+n * 2+k * 3+k * m
 | .give x _ γ=>x<n/\x∉q.F/\γ.good n q.c q.lk q.F x/\γ.done=false
 | .over _ _ _=>True
def Al.at (t n κ:Nat):Al->Nat
 | .take τ=>τ.at t
 | .ask x=>6+t+x * 2
 | .place _ _ τ=>τ.at t n κ
 | .count _ _ _ i=>6+t+n * 2+i * 3+1
 | .head _ _ a _=>a
 | .shw x _ _ _=>6+t+x * 2
 | .ready _ _ a _ _=>a
 | .give x _ γ=>γ.at t x
 | .over _ _ _=>0
def Al.nx:Al->Int
 | .take _=>0
 | .ask _=>1
 | .place _ _ _=>2
 | .count _ _ _ _=>3
 | .head _ _ _ _=>4
 | .shw _ _ _ _=>5
 | .ready _ _ _ _ _=>6
 | .give _ _ _=>7
 | .over _ _ _=>8
theorem Al.U1 (α:Al):(α.nx == 8)=α.ZB:=by cases α <;> rfl
def Al.qc:Al->List Value->Prop
 | .take τ,l=>τ.cells l
 | _,_=>True
def Al.pY (κ:Nat):Al->List Value->Prop
 | .place _ _ τ,l=>τ.cells κ l
 | _,_=>True
def Al.pX:Al->List Value->Prop
 | .give x _ γ,l=>γ.cells x l
 | _,_=>True
def Al.pW:Al->Int->Int->Prop
 | .take _,_,_=>True
 | .ask x,s,_=>s=x
 | .place x g _,s,h=>s=x/\h=g
 | .count x g _ _,s,h=>s=x/\h=g
 | .head x g _ _,s,h=>s=x/\h=g
 | .shw x g _ _,s,h=>s=x/\h=g
 | .ready x g _ _ _,s,h=>s=x/\h=g
 | .give x g _,s,h=>s=x/\h=g
 | .over _ _ _,_,_=>True
def Al.pU:Al->Int->Int->Prop
 | .count _ _ a i,s,c=>s=a/\c=i
 | .head _ _ a i,s,c=>s=a/\c=i
 | .shw _ _ a i,s,c=>s=a/\c=i
 | .ready _ _ a i _,s,c=>s=a/\c=i
 | _,_,_=>True
def Al.pR:Al->Int->Int->Int->Int->Prop
 | .over E H st,e,h,v,s=>e=E/\h=H/\v=0/\s=st
 | .ready x g _ _ st,e,h,v,s=>e=0/\h=Zc x g/\v=0/\s=st
 | _,e,h,v,s=>e=0/\h=0/\v=0/\s=0
structure Dz (z:Int) (own:Bool) (κ:Nat) (α:Al) (a:AV):Prop where
 nx:a.nx=α.nx
 sz:a.sz=z
 ow:a.own=own
 tk:α.qc a.tk
 pl:α.pY κ a.pl
 gv:α.pX a.gv
 sl:α.pW a.sl a.gn
 sp:α.pU a.sa a.sc
 cm:α.pR a.E a.H a.V a.St
theorem Ad (z:Int) (own:Bool) (κ:Nat):Dz z own κ (.take .idle) (av0 z own):=⟨rfl,rfl,rfl,⟨0,0,0,rfl⟩,trivial,trivial,trivial,trivial,rfl,rfl,rfl,rfl⟩
theorem FT (v:Int):v / 8388608 % 65536=(ZE v:Int):=by unfold ZE;omega
theorem UO (v:Int):ZE v<=65535:=by unfold ZE;omega
theorem Pl.at_in {t n k m κ σ:Nat} {τ:Pl} (h:τ.good k m κ σ):τ.at t n κ=2+κ\/∃ i,i<k/\τ.at t n κ=6+t+n * 2+i * 3:=by
 cases τ with
 | see=>exact Or.inl rfl
 | ask i=>exact Or.inr ⟨i,h,rfl⟩
 | grow i c=>exact Or.inr ⟨i,h.1,rfl⟩
 | look sn i=>exact Or.inr ⟨i,h.1,rfl⟩
 | take sn i c=>exact Or.inr ⟨i,h.1,rfl⟩
 | opn sn i c=>exact Or.inl rfl
 | Tc sn i c=>exact Or.inr ⟨i,h.1,rfl⟩
 | XO a i=>exact Or.inl rfl
 | none=>exact Or.inl rfl
theorem Tk.at_in {t n c:Nat} {lk:Nat->Nat} {F:List Nat} {τ:Tk} (h:τ.good n c lk F):τ.at t=1\/∃ x,x<n/\τ.at t=6+t+x * 2+1:=by
 cases τ with
 | Vl x c'=>exact Or.inr ⟨x,h.1,rfl⟩
 | _=>exact Or.inl rfl
theorem Gv.at_in {t n x:Nat} (hx:x<n) (γ:Gv):γ.at t x=1\/∃ y,y<n/\γ.at t x=6+t+y * 2+1:=by
 cases γ with
 | Vl h c'=>exact Or.inr ⟨x,hx,rfl⟩
 | _=>exact Or.inl rfl
namespace Y9
variable {t n k m:Nat} {s:Mm} {σ:Nat} {q:Q}
theorem len (h:Y9 t n k m s σ q):s.n=6+t+n * 2+k * 3+k * m:=h.Sm.len
theorem Zx (who:Int) (a x:Nat) (v:Int) (h:x≠a):((s.by who).step a v).wd x=s.wd x:=ZX s.wd a x v h
theorem VK (who:Int) (a:Nat) (v:Int):((s.by who).step a v).wd a=v:=upd_same s.wd a v
theorem slots (h:Y9 t n k m s σ q) (hσ:σ<1000000) (who:Int) (a:Nat) (v:Int) (ha:a=1\/∃ x,x<n/\a=6+t+x * 2+1) {c':Nat} {lk':Nat->Nat} {F':List Nat} (hp:YH t n ((s.by who).step a v) (σ+1) c' lk' F') :
 Y9 t n k m ((s.by who).step a v) (σ+1) { q with c:=c',lk:=lk',F:=F' }:=by
 have hne:∀ b,b≠1->(∀ x,x<n->b≠6+t+x * 2+1)->b≠a:=fun b h1 h2 e=>by
  rcases ha with ha | ⟨x,hx,ha⟩
  . omega
  . exact h2 x hx (by omega)
 refine⟨hp,h.Sm.off hσ who a v ?_ ?_,fun i hi=>?_,fun i hi=>?_,fun x hx=>?_,h.Gz,fun b hb=>?_,?_⟩
 . rcases ha with ha | ⟨x,hx,ha⟩ <;> omega
 . intro i hi
   rcases ha with ha | ⟨x,hx,ha⟩ <;> omega
 . rw[Zx who a _ v (hne _ (by omega) (fun x hx=>by omega))];exact h.Ee i hi
 . have:=h.Ed i hi;show q.lv i<=17 * (σ+1);omega
 . rw[Zx who a _ v (hne _ (by omega) (fun y hy=>by omega))];exact h.QA x hx
 . rw[Zx who a _ v (hne _ (by omega) (fun y hy=>by omega))];exact h.Jp b hb
 . rw[Zx who a _ v (hne 0 (by omega) (fun y hy=>by omega))];exact h.ep
theorem chunks (h:Y9 t n k m s σ q) (hσ:σ<1000000) (who:Int) {κ:Nat} (hκ:κ<4) (a:Nat) (v:Int) (ha:a=2+κ\/∃ i,i<k/\a=6+t+n * 2+i * 3) {y':Y} (hy:XG t n k m ((s.by who).step a v) (σ+1) y') :
 Y9 t n k m ((s.by who).step a v) (σ+1) { q with y:=y' }:=by
 have hne:∀ b,¬ (2<=b/\b<6)->(∀ i,i<k->b≠6+t+n * 2+i * 3)->b≠a:=fun b h1 h2 e=>by
  rcases ha with ha | ⟨i,hi,ha⟩
  . omega
  . exact h2 i hi (by omega)
 refine⟨h.pile.off hσ who a v ?_ ?_,hy,fun i hi=>?_,fun i hi=>?_,fun x hx=>?_,h.Gz,fun b hb=>?_,?_⟩
 . rcases ha with ha | ⟨i,hi,ha⟩ <;> omega
 . intro i hi
   rcases ha with ha | ⟨j,hj,ha⟩ <;> omega
 . rw[Zx who a _ v (hne _ (by omega) (fun x hx=>by omega))];exact h.Ee i hi
 . have:=h.Ed i hi;show q.lv i<=17 * (σ+1);omega
 . rw[Zx who a _ v (hne _ (by omega) (fun y hy=>by omega))];exact h.QA x hx
 . rw[Zx who a _ v (hne _ (by omega) (fun y hy=>by omega))];exact h.Jp b hb
 . rw[Zx who a _ v (hne 0 (by omega) (fun y hy=>by omega))];exact h.ep
theorem same (h:Y9 t n k m s σ q) (hσ:σ<1000000) (who:Int) (a:Nat):Y9 t n k m ((s.by who).step a (s.wd a)) (σ+1) q:=by
 have e:((s.by who).step a (s.wd a)).wd=s.wd:=Vg _ _
 refine⟨h.pile.same hσ who a,h.Sm.same hσ who a,fun i hi=>by rw[e];exact h.Ee i hi,fun i hi=>?_,fun x hx=>by rw[e];exact h.QA x hx,h.Gz,fun b hb=>by rw[e];exact h.Jp b hb,by rw[e];exact h.ep⟩
 have:=h.Ed i hi;omega
theorem counts (h:Y9 t n k m s σ q) (hσ:σ<1000000) (who:Int) {i r:Nat} (hi:i<k) (hr:r<=17) :
 Y9 t n k m ((s.by who).step (6+t+n * 2+i * 3+1) (sum64 (s.wd (6+t+n * 2+i * 3+1)) (Xv r))) (σ+1) { q with lv:=upd q.lv i (q.lv i+r) }:=by
 have hb:=h.Ed i hi
 have hv:sum64 (s.wd (6+t+n * 2+i * 3+1)) (Xv r)=IX (q.lv i+r) (q.db i):=by
  rw[h.Ee i hi];exact C9 _ _ _
 refine⟨h.pile.off hσ who _ _ (by omega) (fun x hx=>by omega),h.Sm.off hσ who _ _ (by omega) (fun j hj=>by omega),fun j hj=>?_,fun j hj=>?_,fun x hx=>?_,h.Gz,fun b hb=>?_,?_⟩
 . by_cases e:j=i
   . subst e
     rw[VK,hv]
     show _=IX (upd q.lv j (q.lv j+r) j) (q.db j)
     rw[upd_same]
   . rw[Zx who _ _ _ (by omega)]
     show _=IX (upd q.lv i (q.lv i+r) j) (q.db j)
     rw[ZX _ _ _ _ e];exact h.Ee j hj
 . show upd q.lv i (q.lv i+r) j<=17 * (σ+1)
   by_cases e:j=i
   . subst e;rw[upd_same];omega
   . rw[ZX _ _ _ _ e];have:=h.Ed j hj;omega
 . rw[Zx who _ _ _ (by omega)];exact h.QA x hx
 . rw[Zx who _ _ _ (by omega)];exact h.Jp b hb
 . rw[Zx who _ _ _ (by omega)];exact h.ep
theorem lays (h:Y9 t n k m s σ q) (hσ:σ<1000000) (who:Int) {a:Nat} (ha:6+t+n * 2+k * 3<=a) (v:Int) :
 Y9 t n k m ((s.by who).step a v) (σ+1) { q with dw:=upd q.dw a v }:=by
 refine⟨h.pile.off hσ who _ _ (by omega) (fun x hx=>by omega),h.Sm.off hσ who _ _ (by omega) (fun j hj=>by omega),fun j hj=>?_,fun j hj=>?_,fun x hx=>?_,h.Gz,fun b hb=>?_,?_⟩
 . rw[Zx who _ _ _ (by omega)];exact h.Ee j hj
 . have:=h.Ed j hj;show q.lv j<=17 * (σ+1);omega
 . rw[Zx who _ _ _ (by omega)];exact h.QA x hx
 . show _=upd q.dw a v b
   by_cases e:b=a
   . subst e;rw[VK,upd_same]
   . rw[Zx who _ _ _ e,ZX _ _ _ _ e];exact h.Jp b hb
 . rw[Zx who _ _ _ (by omega)];exact h.ep
theorem shows (h:Y9 t n k m s σ q) (hσ:σ<1000000) (who:Int) {x:Nat} (hx:x<n) (v:Int) (v0:0<=v) (v1:v<=18446744073709551615) :
 Y9 t n k m ((s.by who).step (6+t+x * 2) v) (σ+1) { q with sw:=upd q.sw x v }:=by
 refine⟨h.pile.off hσ who _ _ (by omega) (fun x hx=>by omega),h.Sm.off hσ who _ _ (by omega) (fun j hj=>by omega),fun j hj=>?_,fun j hj=>?_,fun y hy=>?_,fun y hy=>?_,fun b hb=>?_,?_⟩
 . rw[Zx who _ _ _ (by omega)];exact h.Ee j hj
 . have:=h.Ed j hj;show q.lv j<=17 * (σ+1);omega
 . show _=upd q.sw x v y
   by_cases e:y=x
   . subst e;rw[VK,upd_same]
   . rw[Zx who _ _ _ (by omega),ZX _ _ _ _ e];exact h.QA y hy
 . show 0<=upd q.sw x v y/\upd q.sw x v y<=_
   by_cases e:y=x
   . subst e;rw[upd_same];exact⟨v0,v1⟩
   . rw[ZX _ _ _ _ e];exact h.Gz y hy
 . rw[Zx who _ _ _ (by omega)];exact h.Jp b hb
 . rw[Zx who _ _ _ (by omega)];exact h.ep
end Y9
def Q.new (n:Nat):Q:=⟨0,N9 n,YB n n,Y.new,fun _=>0,fun _=>8388608,fun _=>0,fun _=>0⟩
theorem xm {t n k m:Nat} {g p r:Int} (hG:Good t n k m g p r) (hn:n<=65535):Y9 t n k m (Mm.laid t n (ZI t n k m) n) (1+2 * n) (Q.new n):=by
 have hs:=hG.s0
 have hs1:=hG.s1
 refine⟨xk t n _ hs hn (by unfold ZI;omega),xh t n k m hs1,fun i hi=>?_,fun i hi=>Nat.zero_le _,fun x hx=>IW _ _ _ _ _ hx,fun x hx=>⟨by simp[Q.new],by simp[Q.new]⟩,fun a ha=>?_,?_⟩
 . rw[X5 _ _ _ _ _ (by omega) (Or.inr (by omega))];rfl
 . rw[X5 _ _ _ _ _ (by omega) (Or.inr (by omega))];rfl
 . rw[X5 _ _ _ _ _ (by omega) (Or.inl (by omega))];exact⟨by decide,by decide⟩
theorem FQ {k m κ σ:Nat} {bs:Nat->Nat} {y y':Y} {τ:Pl} {a i:Nat} (hg:τ.good k m κ σ) (ho:τ.over=false) (ht:turn k m κ bs y τ=(y',.XO a i)):∃ c:Ck,τ=.grow i c/\i<k/\y.ck i=c/\a=bs i+c.us/\c.us+room κ<=m/\c.st=1/\c.cl=κ/\y'=⟨upd y.ck i ⟨c.st,c.cl,c.us+room κ,c.sp⟩,y.op⟩:=by
 cases τ with
 | see =>
  simp only[turn,Tu] at ht
  split at ht
  . split at ht <;> cases ht
  . cases ht
 | ask j =>
  simp only[turn,Tu] at ht
  split at ht
  . cases ht
  . split at ht <;> cases ht
 | grow j c =>
  obtain⟨hik,hc,h1,h2,h3⟩:=hg
  simp only[turn] at ht
  split at ht
  . rename_i e
    obtain⟨rfl,rfl,rfl⟩:_=y'/\bs j+c.us=a/\j=i:=by simpa using ht
    exact⟨c,rfl,hik,e,rfl,h3,h1,h2,rfl⟩
  . cases ht
 | look sn j =>
  simp only[turn,Tu] at ht
  split at ht
  . cases ht
  . split at ht <;> cases ht
 | take sn j c =>
  simp only[turn,Tu] at ht
  split at ht
  . cases ht
  . split at ht <;> cases ht
 | opn sn j c =>
  simp only[turn] at ht
  split at ht <;> cases ht
 | Tc sn j c =>
  simp only[turn] at ht
  split at ht <;> cases ht
 | XO a j=>cases ho
 | none=>cases ho
theorem PG {t n k m i u r:Nat} (hi:i<k) (hu:u+r<=m):6+t+n * 2+k * 3<=base t n k m i+u/\base t n k m i+u+r<=6+t+n * 2+k * 3+k * m:=by
 unfold base
 have:i * m+m<=k * m:=by
  have:=Nat.mul_le_mul_right m (Nat.succ_le_of_lt hi)
  rw[Nat.succ_mul] at this
  exact this
 omega
end
section
structure pO (w:World) (L:Loc) (s:Mm) (b o:Nat) (T:TypeId) (cs:Array Value) (t n k m σ κ:Nat) (z:Int) (own:Bool) (who:Int) (α:Al) (q':Q) (α':Al) (w':World) (s':Mm) (cs':Array Value) (a':AV):Prop where
 mm:Z8 w' L s'
 tw:Y9 t n k m s' (σ+1) q'
 al:ZM w' b o T cs' a'
 is:Dz z own κ α' a'
 good:α'.good t n k m κ (σ+1) q'
 same:Same o 26 cs cs'
 only:Only (L.and b) w w'
 st:∃ v,s'=(s.by who).step (α.at t n κ) v
theorem CY (τ:Tk):(τ.over=false)\/(∃ x,τ=.XO x)\/τ=.none:=by
 cases τ with
 | XO x=>exact Or.inr (Or.inl ⟨x,rfl⟩)
 | none=>exact Or.inr (Or.inr rfl)
 | _=>exact Or.inl rfl
theorem PT (τ:Pl):(τ.over=false)\/(∃ a i,τ=.XO a i)\/τ=.none:=by
 cases τ with
 | XO a i=>exact Or.inr (Or.inl ⟨a,i,rfl⟩)
 | none=>exact Or.inr (Or.inr rfl)
 | _=>exact Or.inl rfl
theorem IV {q:Q} {σ c':Nat} {F':List Nat} {τ':Tk} (h:τ'.over=false):Vm q σ (c',F',τ')=({ q with c:=c',F:=F' },.take τ'):=by
 cases τ' with
 | XO=>cases h
 | none=>cases h
 | _=>rfl
theorem RQ {q:Q} {x g:Nat} {y':Y} {τ':Pl} (h:τ'.over=false):VN q x g (y',τ')=({ q with y:=y' },.place x g τ'):=by
 cases τ' with
 | XO=>cases h
 | none=>cases h
 | _=>rfl
theorem IU {q:Q} {σ x g c':Nat} {lk':Nat->Nat} {F':List Nat} {γ':Gv} (h:γ'.done=false):PU q σ x g (c',lk',F',γ')=({ q with c:=c',lk:=lk',F:=F' },.give x g γ'):=by
 cases γ' with
 | over=>cases h
 | _=>rfl
theorem Gv.UM {γ:Gv} (h:γ.done=true):γ=.over:=by
 cases γ with
 | over=>rfl
 | _=>cases h
section
variable {w:World} {L:Loc} {s:Mm} {b o:Nat} {T:TypeId} {cs:Array Value} {a:AV} {t n k m σ κ:Nat} {g p r:Int} {z:Int} {own:Bool} {q:Q}
set_option maxHeartbeats 400000 in
theorem MF (h:Z8 w L s) (hb:¬ L.has b) (hT:Y9 t n k m s σ q) (hG:Good t n k m g p r) (hσ:σ<1000000) (fz:Fit z) (hz:ZR z=κ) (hκ:κ<4) (α:Al) (hi:ZM w b o T cs a) (his:Dz z own κ α a) (hg:α.good t n k m κ σ q) (ho:α.ZB=false) (who:Int) (q':Q) (α':Al) (hq:YP t n k m κ z own σ q α=(q',α')) (d:Bool) (hd:α'.ZB=d) :
 Calls Tryz.prog 132 #[pP b o,eV t n k m g p r L.p who] w fun e w'=>e=.returned (.bool d)/\∃ s' cs' a',pO w L s b o T cs t n k m σ κ z own who α q' α' w' s' cs' a':=by
 have hG':=hG
 obtain⟨t0,t1,n0,n1,k0,k1,m0,m1,g0,g1,p0,p1,r0,r1⟩:=hG
 have hmk:k * m<=64 * 256:=Nat.mul_le_mul k1 m1
 have har:=hG'.arena
 have hlen:=hT.len
 have hbig:=hT.pile.big
 have hst:wrap64 (s.steps+1)=((σ+1:Nat):Int):=by rw[hT.pile.st];exact hT.pile.Xk hσ
 obtain⟨Yx,SC,Ya,uy,vw,uw,N8,Bf,Gy⟩:=his
 have hK:ZR a.sz=κ:=by rw[SC];exact hz
 have hdn:=Al.U1 α'
 rw[hd] at hdn
 cases α with
 | over E H st=>cases ho
 | take τ =>
  obtain⟨gt,go⟩:=hg
  obtain⟨c',F',τ',ht⟩:∃ c' F' τ',YF q.c q.lk q.F τ=(c',F',τ'):=⟨_,_,_,rfl⟩
  have hat:=Tk.at_in (t:=t) gt
  simp only[YP,ht] at hq
  rcases CY τ' with hf | ⟨x,hf⟩ | hf
  . rw[IV hf] at hq
    obtain⟨rfl,rfl⟩:=Prod.mk.inj hq
    refine(WJ h hi who Yx _ d ?_ (fun w1 m1 i1=>FV m1 hb i1 who hT.pile hσ t1 κ hK τ uy gt go c' F' τ' ht hf)).mono ?_
    . rintro s' a' ⟨_,_,_,l,_,rfl⟩
      rw[<- hdn]
      show (a.nx == 8)=_
      rw[Yx];rfl
    . rintro e w' ⟨rfl,s',cs',a',m',o',i',sm,p',⟨v,rfl⟩,g',l,hl,rfl⟩
      exact⟨rfl,_,cs',_,m',hT.slots hσ who _ v hat p',i',⟨Yx,SC,Ya,hl,vw,uw,N8,Bf,Gy⟩,⟨g',hf⟩,sm,o',v,rfl⟩
  . subst hf
    have hq':({ q with c:=c',F:=F' },Al.ask x)=(q',α'):=hq
    obtain⟨rfl,rfl⟩:=Prod.mk.inj hq'
    have Vw:x∉F':=by
     cases τ with
     | idle =>
      simp only[YF] at ht
      split at ht <;> cases ht
     | Vl=>cases ht
     | TL y c0 q0 =>
      simp only[YF] at ht
      split at ht
      . rename_i e
        obtain⟨_,rfl,hyx⟩:_/\q.F.tail=F'/\Tk.XO y=Tk.XO x:=by simpa using ht
        cases hyx
        have hh:=(gt.2.2.2 e).1
        have nd:=hT.pile.nd
        intro hm
        cases hF:q.F with
        | nil=>rw[hF] at hh;simp[Go.Proofs.YtgehjolndmgffaaGreat.hd] at hh
        | cons u F2 =>
         rw[hF] at hh hm nd
         have:u=x:=by simpa [Go.Proofs.YtgehjolndmgffaaGreat.hd] using hh
         subst this
         exact(List.nodup_cons.1 nd).1 hm
      . cases ht
     | XO=>cases go
     | none=>cases go
    refine(WJ h hi who Yx _ d ?_ (fun w1 m1 i1=>IZ m1 hb i1 who hT.pile hσ t1 κ hK τ uy gt go c' F' _ ht x rfl)).mono ?_
    . rintro s' a' ⟨_,_,_,l,_,rfl⟩
      rw[<- hdn];rfl
    . rintro e w' ⟨rfl,s',cs',a',m',o',i',sm,p',⟨v,rfl⟩,hx,l,hl,rfl⟩
      exact⟨rfl,_,cs',_,m',hT.slots hσ who _ v hat p',i',⟨rfl,SC,Ya,trivial,trivial,trivial,rfl,trivial,Gy⟩,⟨hx,Vw⟩,sm,o',v,rfl⟩
  . subst hf
    have hq':({ q with c:=c',F:=F' },Al.over 7 0 (σ+1))=(q',α'):=hq
    obtain⟨rfl,rfl⟩:=Prod.mk.inj hq'
    refine(WJ h hi who Yx _ d ?_ (fun w1 m1 i1=>LW m1 hb i1 who hT.pile hσ t1 κ hK τ uy gt go c' F' _ ht rfl)).mono ?_
    . rintro s' a' ⟨_,_,l,_,rfl⟩
      rw[<- hdn];rfl
    . rintro e w' ⟨rfl,s',cs',a',m',o',i',sm,p',⟨v,rfl⟩,l,hl,rfl⟩
      exact⟨rfl,_,cs',_,m',hT.slots hσ who _ v hat p',i',⟨rfl,SC,Ya,trivial,trivial,trivial,trivial,trivial,rfl,rfl,rfl,rfl⟩,trivial,sm,o',v,rfl⟩
 | ask x =>
  obtain⟨hx,Vw⟩:=hg
  have hq':(q,Al.place x (ZE (q.sw x)) .see)=(q',α'):=hq
  obtain⟨rfl,rfl⟩:=Prod.mk.inj hq'
  obtain⟨v0,v1⟩:=hT.Gz x hx
  refine(Ja h hi who Yx _ d ?_ (fun w1 m1 i1=>uA m1 hb i1 who har x N8 (by omega) (by omega) (q.sw x) (hT.QA x hx) v0 v1 (ZE (q.sw x)) (FT _) κ hK)).mono ?_
  . rintro s' a' ⟨_,rfl⟩
    rw[<- hdn];rfl
  . rintro e w' ⟨rfl,s',cs',a',m',o',i',sm,rfl,rfl⟩
    exact⟨rfl,_,cs',_,m',hT.same hσ who _,i',⟨rfl,SC,Ya,trivial,⟨_,_,_,_,_,rfl⟩,trivial,⟨N8,rfl⟩,trivial,Gy⟩,⟨hx,Vw,UO _,trivial,rfl⟩,sm,o',_,rfl⟩
 | place x G τ =>
  obtain⟨hx,Vw,hGb,gt,go⟩:=hg
  obtain⟨y',τ',ht⟩:∃ y' τ',turn k m κ (base t n k m) q.y τ=(y',τ'):=⟨_,_,rfl⟩
  have hat:=Pl.at_in (t:=t) (n:=n) gt
  simp only[YP,ht] at hq
  rcases PT τ' with hf | ⟨A,i,hf⟩ | hf
  . rw[RQ hf] at hq
    obtain⟨rfl,rfl⟩:=Prod.mk.inj hq
    refine(Wi h hi who Yx _ d ?_ (fun w1 m1 i1=>Jb m1 hb i1 who hT.Sm hG' hσ hκ τ vw gt go y' τ' ht hf)).mono ?_
    . rintro s' a' ⟨_,_,_,l,_,rfl⟩
      rw[<- hdn]
      show (a.nx == 8)=_
      rw[Yx];rfl
    . rintro e w' ⟨rfl,s',cs',a',m',o',i',sm,p',⟨v,rfl⟩,g',l,hl,rfl⟩
      exact⟨rfl,_,cs',_,m',hT.chunks hσ who hκ _ v hat p',i',⟨Yx,SC,Ya,trivial,hl,trivial,N8,trivial,Gy⟩,⟨hx,Vw,hGb,g',hf⟩,sm,o',v,rfl⟩
  . subst hf
    have hq':({ q with y:=y' },Al.count x G A i)=(q',α'):=hq
    obtain⟨rfl,rfl⟩:=Prod.mk.inj hq'
    obtain⟨c,-,hik,-,rfl,hu,-⟩:=FQ gt go ht
    have hin:=PG (t:=t) (n:=n) hik hu
    have hr:=Yg κ
    refine(Wi h hi who Yx _ d ?_ (fun w1 m1 i1=>L6 m1 hb i1 who hT.Sm hG' hσ hκ τ vw gt go y' _ ht _ i rfl)).mono ?_
    . rintro s' a' ⟨_,_,l,_,rfl⟩
      rw[<- hdn];rfl
    . rintro e w' ⟨rfl,s',cs',a',m',o',i',sm,p',⟨v,rfl⟩,l,hl,rfl⟩
      exact⟨rfl,_,cs',_,m',hT.chunks hσ who hκ _ v hat p',i',⟨rfl,SC,Ya,trivial,trivial,trivial,N8,⟨rfl,rfl⟩,Gy⟩,⟨hx,Vw,hGb,hik,hin.1,by omega⟩,sm,o',v,rfl⟩
  . subst hf
    have hq':({ q with y:=y' },Al.give x G .idle)=(q',α'):=hq
    obtain⟨rfl,rfl⟩:=Prod.mk.inj hq'
    refine(Wi h hi who Yx _ d ?_ (fun w1 m1 i1=>Oe m1 hb i1 who hT.Sm hG' hσ hκ τ vw gt go y' _ ht x N8.1 rfl)).mono ?_
    . rintro s' a' ⟨_,_,l,_,rfl⟩
      rw[<- hdn];rfl
    . rintro e w' ⟨rfl,s',cs',a',m',o',i',sm,p',⟨v,rfl⟩,l,hl,rfl⟩
      exact⟨rfl,_,cs',_,m',hT.chunks hσ who hκ _ v hat p',i',⟨rfl,SC,Ya,trivial,trivial,⟨_,rfl⟩,N8,trivial,Gy⟩,⟨hx,Vw,trivial,rfl⟩,sm,o',v,rfl⟩
 | count x G A i =>
  obtain⟨hx,Vw,hGb,hik,ha0,ha1⟩:=hg
  have hq':({ q with lv:=upd q.lv i (q.lv i+room κ) },Al.head x G A i)=(q',α'):=hq
  obtain⟨rfl,rfl⟩:=Prod.mk.inj hq'
  refine(Oc h hi who Yx _ d ?_ (fun w1 m1 i1=>zI m1 hb i1 who har n1 t1 i Bf.2 (by omega) (by omega) κ hκ hK)).mono ?_
  . rintro s' a' ⟨_,rfl⟩
    rw[<- hdn];rfl
  . rintro e w' ⟨rfl,s',cs',a',m',o',i',sm,rfl,rfl⟩
    exact⟨rfl,_,cs',_,m',hT.counts hσ who hik (Yg κ).2,i',⟨rfl,SC,Ya,trivial,trivial,trivial,N8,Bf,Gy⟩,⟨hx,Vw,hGb,hik,ha0,ha1⟩,sm,o',_,rfl⟩
 | head x G A i =>
  obtain⟨hx,Vw,hGb,hik,ha0,ha1⟩:=hg
  have hq':({ q with dw:=upd q.dw A (Zg 1 z x G own) },Al.shw x G A i)=(q',α'):=hq
  obtain⟨rfl,rfl⟩:=Prod.mk.inj hq'
  refine(LY h hb hi who Yx z fz SC x G A N8.1 N8.2 Bf.1 own Ya (by omega) (by omega) (by omega)).mono ?_
  rintro e w' ⟨rfl,s',cs',a',m',o',i',sm,rfl,rfl⟩
  exact⟨by rw[<- hd];rfl,_,cs',_,m',hT.lays hσ who ha0 _,i',⟨rfl,SC,Ya,trivial,trivial,trivial,N8,Bf,Gy⟩,⟨hx,Vw,hGb,hik,ha0,ha1⟩,sm,o',_,rfl⟩
 | shw x G A i =>
  obtain⟨hx,Vw,hGb,hik,ha0,ha1⟩:=hg
  have hq':({ q with sw:=upd q.sw x (Zq 1 A G 0) },Al.ready x G A i (σ+1))=(q',α'):=hq
  obtain⟨rfl,rfl⟩:=Prod.mk.inj hq'
  have hbd:=RP 1 A G 0
  refine(LZ h hi who Yx _ d ?_ (fun w1 m1 i1=>xu m1 hb i1 who har x G A N8.1 N8.2 Bf.1 (by omega) (by omega) (by omega) (by omega) (σ+1) hst)).mono ?_
  . rintro s' a' ⟨_,rfl⟩
    rw[<- hdn];rfl
  . rintro e w' ⟨rfl,s',cs',a',m',o',i',sm,rfl,rfl⟩
    exact⟨rfl,_,cs',_,m',hT.shows hσ who hx _ hbd.1 (Int.le_trans hbd.2 (by decide)),i',⟨rfl,SC,Ya,trivial,trivial,trivial,N8,Bf,⟨Gy.1,rfl,Gy.2.2.1,rfl⟩⟩,⟨hx,Vw,hGb,hik,ha0,ha1⟩,sm,o',_,rfl⟩
 | ready x G A i st =>
  obtain⟨hx,Vw,hGb,hik,ha0,ha1⟩:=hg
  have hq':({ q with dw:=upd q.dw A (Zg 2 z x G own) },Al.over 0 (Zc x G) st)=(q',α'):=hq
  obtain⟨rfl,rfl⟩:=Prod.mk.inj hq'
  refine(Ob h hb hi who Yx z fz SC x G A N8.1 N8.2 Bf.1 own Ya (by omega) (by omega) (by omega)).mono ?_
  rintro e w' ⟨rfl,s',cs',a',m',o',i',sm,rfl,rfl⟩
  exact⟨by rw[<- hd];rfl,_,cs',_,m',hT.lays hσ who ha0 _,i',⟨rfl,SC,Ya,trivial,trivial,trivial,trivial,trivial,Gy⟩,trivial,sm,o',_,rfl⟩
 | give x G γ =>
  obtain⟨hx,Vw,gt,go⟩:=hg
  obtain⟨c',lk',F',γ',ht⟩:∃ c' lk' F' γ',YM q.c q.lk q.F x γ=(c',lk',F',γ'):=⟨_,_,_,_,rfl⟩
  have hat:=Gv.at_in (t:=t) hx γ
  simp only[YP,ht] at hq
  cases hf:γ'.done with
  | false =>
   rw[IU hf] at hq
   obtain⟨rfl,rfl⟩:=Prod.mk.inj hq
   have pM:F'=q.F:=by
    cases γ with
    | idle =>
     obtain⟨_,_,rfl,_⟩:q.c=c'/\q.lk=lk'/\q.F=F'/\_=γ':=by simpa [YM] using ht
     rfl
    | Vl hh cc =>
     obtain⟨_,_,rfl,_⟩:q.c=c'/\_=lk'/\q.F=F'/\_=γ':=by simpa [YM] using ht
     rfl
    | TL hh cc =>
     simp only[YM] at ht
     split at ht
     . obtain⟨_,_,_,rfl⟩:_/\_/\_/\Gv.over=γ':=by simpa using ht
       cases hf
     . obtain⟨_,_,rfl,_⟩:q.c=c'/\q.lk=lk'/\q.F=F'/\_=γ':=by simpa using ht
       rfl
    | over=>cases go
   refine(RU h hi who Yx _ d ?_ (fun w1 m1 i1=>FY m1 hb i1 who hT.pile hσ t1 hx Vw γ uw gt go c' lk' F' γ' ht hf)).mono ?_
   . rintro s' a' ⟨_,_,_,l,_,rfl⟩
     rw[<- hdn]
     show (a.nx == 8)=_
     rw[Yx];rfl
   . rintro e w' ⟨rfl,s',cs',a',m',o',i',sm,p',⟨v,rfl⟩,g',l,hl,rfl⟩
     exact⟨rfl,_,cs',_,m',hT.slots hσ who _ v hat p',i',⟨Yx,SC,Ya,trivial,trivial,hl,N8,trivial,Gy⟩,⟨hx,(by rw[<- pM] at Vw;exact Vw),g',hf⟩,sm,o',v,rfl⟩
  | true =>
   have:=Gv.UM hf
   subst this
   have hq':({ q with c:=c',lk:=lk',F:=F' },Al.over 6 0 (σ+1))=(q',α'):=hq
   obtain⟨rfl,rfl⟩:=Prod.mk.inj hq'
   refine(RU h hi who Yx _ d ?_ (fun w1 m1 i1=>LX m1 hb i1 who hT.pile hσ t1 hx Vw γ uw gt go c' lk' F' _ ht rfl)).mono ?_
   . rintro s' a' ⟨_,_,l,_,rfl⟩
     rw[<- hdn];rfl
   . rintro e w' ⟨rfl,s',cs',a',m',o',i',sm,p',⟨v,rfl⟩,l,hl,rfl⟩
     exact⟨rfl,_,cs',_,m',hT.slots hσ who _ v hat p',i',⟨rfl,SC,Ya,trivial,trivial,trivial,trivial,trivial,rfl,rfl,rfl,rfl⟩,trivial,sm,o',v,rfl⟩
end
end
section
inductive Tz (t n k m κ:Nat) (z:Int) (own:Bool):Nat->Nat->Q->Al->Q->Al->Prop where
 | one {σ:Nat} {q:Q} {α:Al} {q':Q} {α':Al} (ho:α.ZB=false) (ht:YP t n k m κ z own σ q α=(q',α')) (h:α'.ZB=true):Tz t n k m κ z own 1 σ q α q' α'
 | more {N σ:Nat} {q:Q} {α:Al} {q1:Q} {α1:Al} {q':Q} {α':Al} (ho:α.ZB=false) (ht:YP t n k m κ z own σ q α=(q1,α1)) (h:α1.ZB=false) (g:Tz t n k m κ z own N (σ+1) q1 α1 q' α'):Tz t n k m κ z own (N+1) σ q α q' α'
section
variable {w:World} {L:Loc} {t n k m σ κ:Nat} {s:Mm} {q:Q} {z:Int} {own:Bool}
end
end
section
theorem XT (x G:Nat) (hx:x<=65535) (hG:G<=65535):Zc x G=x+G * 65536:=by
 unfold Zc
 rw[Ze x 16 (by omega) (by simp;omega),Ze G 16 (by omega) (by simp;omega)]
theorem I9 (kd Z x G:Nat) (own:Bool) (hk:kd<=3) (hZ:Z<=65535) (hx:x<=65535) (hG:G<=65535):Zg kd Z x G own=kd+Z * 4+x * 262144+G * 17179869184+(if own then 1125899906842624 else 0):=by
 unfold Zg UN
 rw[Ze kd 2 (by omega) (by simp;omega),Ze Z 16 (by omega) (by simp;omega),Ze x 16 (by omega) (by simp;omega),Ze G 16 (by omega) (by simp;omega)]
 cases own <;> simp
theorem Yv {Z κ:Nat} (h1:1<=Z) (hK:ZR Z=κ):Z+1<=room κ:=by
 have:(Z<=2/\κ=0)\/(Z<=4/\κ=1)\/(Z<=8/\κ=2)\/(Z<=16/\κ=3):=by
  unfold ZR at hK
  repeat' split at hK
  all_goals omega
 rcases this with⟨h,rfl⟩ | ⟨h,rfl⟩ | ⟨h,rfl⟩ | ⟨h,rfl⟩ <;> simp only[room] <;> omega
end
end Go.Proofs.YtgehjolndmgffaaGreat
