import Derived.Test.YtpbghmeikcphnabGreatLstMany
import Derived.Test.YtpbghmeikcphnabGreatLstCount
import Derived.Test.YtpbghmeikcphnabGreatLstBegun
import Derived.Test.YtpbghmeikcphnabGreatLstAwake
namespace Go.Proofs.YtpbghmeikcphnabGreat
open Go.RowKit
def Xn (Jm:Nat) (L:Loc) (J M:Nat) (z:Nat->Bool) (w:World):Prop:=∃ s σ q pn h jb F u ts,Rest 4 30 L 0 Jm J w s σ q pn h jb 0 F u ts/\h.H 0=65536/\σ<=M/\∀ i:Nat,i<8->(u.S σ (i:Int)↔z i=true)
section
variable {Jm J J' M M':Nat} {L:Loc} {w w':World} {z z':Nat->Bool}
theorem Xn.only {S:Nat->Prop} (A:Xn Jm L J M z w) (o:Only S w w') (hs:∀ x,L.has x->¬ S x):Xn Jm L J M z w':=by
 obtain⟨s,σ,q,pn,h,jb,F,u,ts,R,k⟩:=A
 exact⟨s,σ,q,pn,h,jb,F,u,ts,⟨R.mm.only o hs,R.vl,R.lc,R.nn,R.room,R.hJ,R.pn,R.td⟩,k⟩
theorem Xn.grown (A:Xn Jm L J M z w) (g:Below w.heap.size w w'):Xn Jm L J M z w':=by
 obtain⟨s,σ,q,pn,h,jb,F,u,ts,R,k⟩:=A
 exact⟨s,σ,q,pn,h,jb,F,u,ts,⟨R.mm.below g,R.vl,R.lc,R.nn,R.room,R.hJ,R.pn,R.td⟩,k⟩
theorem Xn.lt (A:Xn Jm L J M z w) {x:Nat} (hx:L.has x):x<w.heap.size:=by
 obtain⟨s,σ,q,pn,h,jb,F,u,ts,R,k⟩:=A
 exact R.mm.lt x hx
theorem Xn.up (A:Xn Jm L J M z w) (hJ:J<=J') (hM:M<=M'):Xn Jm L J' M' z w:=by
 obtain⟨s,σ,q,pn,h,jb,F,u,ts,R,e1,e2,e3⟩:=A
 exact⟨s,σ,q,pn,h,jb,F,u,ts,⟨R.mm,R.vl,R.lc,R.nn,R.room,Nat.le_trans R.hJ hJ,R.pn,R.td⟩,e1,Nat.le_trans e2 hM,e3⟩
theorem Xn.as (A:Xn Jm L J M z w) (e:∀ i,i<8->z i=z' i):Xn Jm L J M z' w:=by
 obtain⟨s,σ,q,pn,h,jb,F,u,ts,R,e1,e2,e3⟩:=A
 exact⟨s,σ,q,pn,h,jb,F,u,ts,R,e1,e2,fun i hi=>by rw[e3 i hi,e i hi]⟩
def FK (z:Nat->Bool) (kd:Int) (k:Nat):Nat->Bool:=if kd=1 then z else upd z k (decide (kd=2))
theorem Pz {k:Nat}:FK z 1 k=z:=if_pos rfl
theorem yK {k:Nat}:FK z 2 k=upd z k true:=if_neg (by decide)
theorem rG {k:Nat}:FK z 3 k=upd z k false:=if_neg (by decide)
theorem Xn.ask (A:Xn Jm L J M z w) (hJ:J+1<=Jm) (uZ:Jm<=97) (hJ':J<=25) (hM:M+1950<1000000) {kd v:Int} {k:Nat} {b:Bool} (hk:kd=1\/kd=2\/kd=3) (k1:k<8) (hz:z k=b) (hv:(if b=decide (kd≠2) then 1 else 0)=v) (hz':FK z kd k=z') :
 Calls Tryz.prog 7 #[Ri 4 30 12 40 100 600 3 L.p 0,.int .u64 65536,.int .i64 kd,.int .i64 k] w fun e w'=>∃ st:Nat,e=.returned (.agg #[.int .i64 0,.int .u64 0,.int .i64 v,.int .i64 st])/\Only L.has w w'/\Xn Jm L (J+(if kd=2 then 1 else 0)) (M+1950) z' w':=by
 obtain⟨s,σ,q,pn,h,jb,F,u,ts,R,e1,e2,e3⟩:=A
 refine(IE (kd:=kd) (key:=k) R (Py (n:=30) (by decide) (by decide)) (by decide) hJ uZ (by decide) (by decide) (by decide) (by omega) hk (by omega) (by omega) e1).mono ?_
 rintro e w' ⟨E,v',st,s',σ',q',YF,h',PZ,F',u',ts',rfl,R',fin,-,hs,on,hH⟩
 have hj':J+(if kd=2 then 1 else 0)<=J+1:=Nat.add_le_add_left (by split <;> decide) _
 have E0:E=0:=by
  refine Classical.byContradiction fun hE=>?_
  exact R'.e7 (by decide) (by omega) (fin.no hE).2.2.2.1
 obtain⟨f1,f2⟩:=fin.yes E0
 have ek:=e3 k k1
 rw[hz] at ek
 subst E0
 have ev:v'=v:=by
  rw[<- hv]
  rcases f1 with⟨a,b'⟩ | ⟨a,b'⟩
  . rw[a,if_pos]
    by_cases c:kd=2
    . rw[decide_eq_false (fun h=>h c)]
      cases hb:b with
      | false=>rfl
      | true=>exact absurd c (b'.1 (ek.2 hb))
    . rw[decide_eq_true c];exact ek.1 (b'.2 c)
  . rw[a,if_neg]
    intro hb
    refine b' ⟨fun e c=>?_,fun c=>?_⟩
    . rw[ek.1 e,decide_eq_false (fun h=>h c)] at hb;cases hb
    . rw[decide_eq_true c] at hb;exact ek.2 hb
 refine⟨st,by rw[ev],on,s',σ',q',YF,h',PZ,F',u',ts',R',hH,by omega,fun i hi=>?_⟩
 rw[f2 i (by omega),<- hz']
 unfold FK
 by_cases c1:kd=1
 . rw[if_pos c1,if_neg (fun h=>h.1 c1)];exact e3 i hi
 . rw[if_neg c1]
   by_cases c2:i=k
   . rw[if_pos ⟨c1,by rw[c2]⟩,c2,upd_same]
     exact⟨fun h=>decide_eq_true h,fun h=>of_decide_eq_true h⟩
   . rw[if_neg (fun h=>c2 (by have:=h.2;omega)),Z7 _ _ _ _ c2];exact e3 i hi
def zV (L:Loc) (k M b:Nat) (z:Nat->Bool) (w0 w:World):Prop:=∃ s σ q pn h jb F u ts C rs S a ph,Z8 w L s/\Vf 4 30 12 40 s σ q pn/\Lc 4 30 12 40 q σ h jb 0 F u ts/\ts 0=none/\FZ 4 q h jb/\pn 0=0/\h.H 0=65536/\σ<=M/\ts 3=some (C,rs)/\Cal 4 30 12 40 w L σ q pn h 0 3 (jb 3) C rs S b a ph/\(jb 3).gives=false/\h.J+NW C (jb 3)<=6/\C.k=k/\(∀ i:Nat,i<8->i≠k->(u.S σ (i:Int)↔z i=true))/\(∀ x,Oy b a x->w0.heap.size<=x)/\Only L.has w0 w
def zU (L:Loc) (k M:Nat) (z:Nat->Bool) (w:World):Prop:=∃ zk,Xn 12 L 6 M (upd z k zk) w
theorem zU.of {s:Mm} {σ k:Nat} {q:Q} {pn:Nat->Int} {h:Gh} {jb:Nat->Jb} {F:List Nat} {u:Hi} {ts:Nat->Option (Cl × Option Rs)} (R:Rest 4 30 L 0 12 6 w s σ q pn h jb 0 F u ts) (e1:h.H 0=65536) (e2:σ<=M) (e3:∀ i:Nat,i<8->i≠k->(u.S σ (i:Int)↔z i=true)):zU L k M z w:=by
 have key:∀ b,(u.S σ (k:Int)↔b=true)->zU L k M z w:=fun b hb=>⟨b,s,σ,q,pn,h,jb,F,u,ts,R,e1,e2,fun i hi=>by
  by_cases e:i=k
  . rw[e,upd_same];exact hb
  . rw[Z7 _ _ _ _ e];exact e3 i hi e⟩
 by_cases c:u.S σ (k:Int)
 . exact key true ⟨fun _=>rfl,fun _=>c⟩
 . exact key false ⟨fun h=>absurd h c,fun h=>by cases h⟩
variable {k b:Nat} {w0 w1:World}
theorem zV.left (A:zV L k M b z w0 w):zU L k M z w:=by
 obtain⟨s,σ,q,pn,h,jb,F,u,ts,C,rs,S,a,ph,mm,vl,X,t0,Ro,p0,eH,hs,t3,hc,ng,mj,ek,e3,hown,on⟩:=A
 obtain⟨tk,O,Fl,rF⟩:=Ro
 exact zU.of ⟨mm,vl,X,t0,⟨tk,O,Fl,rF,Or.inr (Nat.le_refl _)⟩,Nat.le_trans (Nat.le_add_right _ _) mj,p0,fun hm=>absurd hm (by decide)⟩ eH hs e3
theorem Xn.stk (A:Xn 97 L 5 M z w) {kd:Int} (hk:kd=1\/kd=2\/kd=3) (k1:k<8) (g1:Below w.heap.size w w1) (hb:w.heap.size<=b) (lr:ZB w1 b (.pointer none) (xx kd k 65536)):zV L k M b z w w1:=by
 obtain⟨s,σ,q,pn,h,jb,F,u,ts,R,e1,e2,e3⟩:=A
 have X:=R.lc
 obtain⟨T,id⟩:=R.td (by decide)
 obtain⟨j3,t3,p3⟩:=id 3
 have hJ:=R.hJ
 rw[<- e1] at lr
 have X1:=X.start (K:=3) (kd:=kd) (key:=k) (Py (n:=30) (by decide) (by decide)) (by decide) (by omega) (by decide) t3 (by omega) (by omega)
 obtain⟨tk,O,Fl,rF,-⟩:=R.room
 refine⟨s,σ,q,pn,h,_,F,u,_,_,none,_,none,0,R.mm.below g1,R.vl,X1,?_,?_,R.pn,e1,e2,upd_same _ _ _,by rw[upd_same];exact X.sH hk (Tq R.mm hb) p3 lr,by rw[upd_same];rfl,?_,rfl,fun i hi _=>e3 i hi,fun x hx=>?_,Only.ZZ g1⟩
 . rw[Z7 _ _ _ _ (by decide)];exact R.nn
 . exact FZ.same ⟨tk,O,Fl,rF⟩ rfl rfl (U6 (by rw[j3];rfl))
 . have:=rO ⟨kd,k,σ,none,.first⟩ (upd jb 3 (Cl.WA h 0 ⟨kd,k,σ,none,.first⟩) 3)
   omega
 . rcases hx with e | ⟨R,e,hR⟩
   . rw[e];exact hb
   . cases e
theorem zV.step (A:zV L k M b z w0 w) (hM:M+1<1000000) (hb:w0.heap.size<=b) :
 Calls Tryz.prog 9 #[.pointer (some ⟨b,0,none⟩),Ri 4 30 12 40 100 600 3 L.p 3] w fun e w'=>∃ d,e=.returned (.bool d)/\Only L.has w0 w'/\((d=false/\zV L k (M+1) b z w0 w')\/(d=true/\zU L k (M+1) z w')):=by
 obtain⟨s,σ,q,pn,h,jb,F,u,ts,C,rs,S,a,ph,mm,vl,X,t0,Ro,p0,eH,hs,t3,hc,ng,mj,ek,e3,hown,on⟩:=A
 have hG:Good 4 30 12 40 100 600 3:=Py (by decide) (by decide)
 have hJ:h.J<=6:=Nat.le_trans (Nat.le_add_right _ _) mj
 refine(X.yI mm vl hG (by decide) (by omega) (by omega) (by omega) (by decide) (by decide) t3 hc).mono ?_
 rintro e w' ⟨s',h',q',u',F',C1,r1,b1,YF,XH,P,O⟩
 have hN:(4=3/\h.J<=31)\/(4=4/\h.J<=12):=Or.inr ⟨rfl,by omega⟩
 obtain⟨nH,jA,iG⟩:=Ro.go hN (by decide) X t3 ng hc.is P.go
 have on':Only L.has w0 w':=by
  refine on.grow P.on (fun i hi hh=>hh.elim id (fun ho=>?_))
  have:=hown i ho
  omega
 have sm:=P.go.same
 have xq:h'.H 0=65536:=(Gp P.go.nd.2 hc.bd.h).trans eH
 have p0':YF 0=0:=by
  rcases P.pn with⟨e,-⟩ | ⟨e,-⟩ | ⟨e,-⟩
  . rw[e];exact p0
  . rw[e,Z7 _ _ _ _ (by decide)];exact p0
  . rw[e,Z7 _ _ _ _ (by decide)];exact p0
 have e3':∀ i:Nat,i<8->i≠k->(u'.S (σ+1) (i:Int)↔z i=true):=fun i hi hik=>by
  rcases X.claims P.lc t3 P.go with⟨-,-,c3⟩ | ⟨-,-,b',c3,-⟩
  . rw[c3];exact e3 i hi hik
  . rw[c3,U4]
    have hne:(i:Int)≠C.k:=by rw[ek];omega
    constructor
    . rintro(⟨-,x⟩ | ⟨x,-⟩)
      . exact(e3 i hi hik).1 x
      . exact absurd x hne
    . exact fun x=>Or.inl ⟨hne,(e3 i hi hik).2 x⟩
 have t0':∀ x,upd ts 3 x 0=none:=fun x=>by rw[Z7 _ _ _ _ (by decide)];exact t0
 rcases O with⟨n5,e1,a',hc',hB⟩ | ⟨p5,pk,R,S2,C2,hr,N,lr2,I2,O⟩
 . refine⟨false,e1,on',Or.inl ⟨rfl,s',σ+1,q',YF,h',_,F',u',_,C1,r1,S,some a',XH,P.mm,P.vl,P.lc,t0' _,nH,p0',xq,by omega,upd_same _ _ _,by rw[upd_same];exact hc',by rw[upd_same];exact jA,by rw[upd_same];omega,sm.2.1.trans ek,e3',fun x hx=>?_,on'⟩⟩
   rcases hx with e | ⟨R,e,hR⟩
   . rw[e];exact hb
   . injection e with e
     subst e
     rcases hB x hR with ho | hx
     . exact hown x ho
     . exact Nat.le_trans on.size hx
 . subst hr p5
   have Gm:upd ts 3 (some (C1,some R)) 3=some (C1,some R):=upd_same _ _ _
   have T1:=P.lc.t 3 C1 _ Gm
   obtain⟨I1,-⟩:=hc.is.go1 hc.bd P.go
   obtain⟨lU,jy,jw⟩:=nH.next P.lc Gm I1 N
   rw[upd_same] at jw
   have qm:=N.same
   rcases O with⟨E,v,st,e1,e2,rfl⟩ | ⟨G,ho,rfl,X2,hc2⟩
   . refine⟨true,rfl,on',Or.inr ⟨rfl,?_⟩⟩
     obtain⟨tk,O,Fl,rF⟩:=nH
     have b0:b1=.nil:=by have:=(T1.told R rfl).1;rw[upd_same] at this;exact this
     refine zU.of ⟨P.mm,P.vl,P.lc.end_ (T1.told R rfl).1,?_,⟨tk,O,Fl,rF,Or.inr (Nat.le_refl _)⟩,by omega,p0',fun hm=>absurd hm (by decide)⟩ xq (by omega) e3'
     rw[Wp];exact t0' _
   . rw[Wp] at lU
     refine⟨false,rfl,on',Or.inl ⟨rfl,s',σ+1,q',YF,h',_,F',u',_,C2,none,S2,none,0,P.mm,P.vl,X2,t0' _,lU,p0',xq,by omega,upd_same _ _ _,by rw[upd_same];exact hc2,by rw[upd_same];exact jy,by rw[upd_same];omega,qm.2.1.trans (sm.2.1.trans ek),e3',fun x hx=>?_,on'⟩⟩
     rcases hx with e | ⟨R,e,hR⟩
     . rw[e];exact hb
     . cases e
end
def XY (w:World) (b:Nat) (c0 c1 c2 c3 c4 c5 c6:Int) (P:Nat) (who:Int):Prop :=
 w.heap[b]?=some (.cells #[.int .i64 c0,.int .i64 c1,.int .i64 c2,.int .i64 c3,.int .i64 c4,.int .i64 c5,.int .i64 c6,.pointer (some ⟨P,0,none⟩),.int .i64 who] 26 (0,0))
section
variable {w w':World} {b P:Nat} {c0 c1 c2 c3 c4 c5 c6 who:Int}
theorem XY.v (h:XY w b c0 c1 c2 c3 c4 c5 c6 P who):ZR w b c0 c1 c2 c3 c4 c5 c6 P who :=
 ⟨ZU h rfl,ZU h rfl,ZU h rfl,ZU h rfl,ZU h rfl,ZU h rfl,ZU h rfl,ZU h rfl,ZU h rfl⟩
theorem XY.fz (h:XY w b c0 c1 c2 c3 c4 c5 c6 P who) (o:Nat):w.frozen? ⟨b,o,none⟩=false:=Ym h o
theorem XY.grown (h:XY w b c0 c1 c2 c3 c4 c5 c6 P who) (g:Below w.heap.size w w'):XY w' b c0 c1 c2 c3 c4 c5 c6 P who:=(g.block _ (WY h)).trans h
theorem XY.only {S:Nat->Prop} (h:XY w b c0 c1 c2 c3 c4 c5 c6 P who) (g:Only S w w') (hs:¬ S b):XY w' b c0 c1 c2 c3 c4 c5 c6 P who:=(g.block _ (WY h) hs).trans h
theorem XY.set (h:XY w b c0 c1 c2 c3 c4 c5 c6 P who) (x:Int):XY (w.setCell ⟨b,8,none⟩ (.int .i64 x)) b c0 c1 c2 c3 c4 c5 c6 P x:=ZT _ _ _ _ _ _ h
end
def VA (i:Nat):Nat->Bool:=fun x=>decide (x % 2=1/\x<i)
theorem zY (i:Nat):VA i i=false:=decide_eq_false (fun h=>Nat.lt_irrefl _ h.2)
theorem zX {i:Nat} (hi:i % 2=1):∀ x,x<8->upd (VA i) i true x=VA (i+2) x:=fun x _=>by
 by_cases e:x=i
 . rw[e,upd_same];exact(decide_eq_true (by omega)).symm
 . rw[Z7 _ _ _ _ e]
   unfold VA
   exact decide_eq_decide.2 (by omega)
def N7 (z:Nat->Bool) (k:Nat):Nat->Nat->Bool
 | 0=>z
 | 1=>upd z k true
 | 2=>upd z k true
 | _=>upd (upd z k true) k false
def rE:Nat->Nat
 | 0=>6
 | _=>7
def Xu (L:Loc) (z:Nat->Bool) (k M:Nat) (p:Nat) (w:World):Prop:=Xn 12 L (rE p) (M+p * 1950) (N7 z k p) w
theorem Vz (L:Loc) (z:Nat->Bool) (k M:Nat) (x y:World) (p:Nat) (g:Grown x y) (h:Xu L z k M p x):Xu L z k M p y:=Xn.grown h g
section
variable {L:Loc} {z:Nat->Bool} {k M:Nat} {w:World}
theorem Og {p:Nat} {kd v:Int} {b:Bool} (h:Xu L z k M p w) (hp:p<4) (hM:M+20000<1000000) (hk:kd=1\/kd=2\/kd=3) (k1:k<8) (hz:N7 z k p k=b) (hv:(if b=decide (kd≠2) then 1 else 0)=v) (hz':FK (N7 z k p) kd k=N7 z k (p+1)) (hJ:rE p+(if kd=2 then 1 else 0)<=rE (p+1)) :
 Calls Tryz.prog 7 #[Ri 4 30 12 40 100 600 3 L.p 0,.int .u64 65536,.int .i64 kd,.int .i64 k] w fun e w'=>∃ st:Int,e=.returned (.agg #[.int .i64 0,.int .u64 0,.int .i64 v,.int .i64 st])/\Xu L z k M (p+1) w'/\Only L.has w w':=by
 have j7:rE p<=7:=by unfold rE;split <;> decide
 refine(Xn.ask (Jm:=12) h (by omega) (by decide) (by omega) (by omega) hk k1 hz hv hz').mono ?_
 rintro e w' ⟨st,rfl,o,a⟩
 exact⟨st,rfl,a.up hJ (by omega),o⟩
theorem D7 {zk:Bool} {va:Int} (k1:k<8) (hM:M+20000<1000000) (hz:z k=zk) (hv:(if zk=decide ((2:Int)≠2) then (1:Int) else 0)=va) (h:Xu L z k M 0 w):Calls Tryz.prog 7 #[Ri 4 30 12 40 100 600 3 L.p 0,.int .u64 65536,.int .i64 2,.int .i64 k] w fun e w'=>∃ st:Int,e=.returned (.agg #[.int .i64 0,.int .u64 0,.int .i64 va,.int .i64 st])/\Xu L z k M 1 w'/\Only L.has w w' :=
 Og h (by decide) hM (Or.inr (Or.inl rfl)) k1 hz hv yK (by decide)
theorem D6 (k1:k<8) (hM:M+20000<1000000) (h:Xu L z k M 1 w):Calls Tryz.prog 7 #[Ri 4 30 12 40 100 600 3 L.p 0,.int .u64 65536,.int .i64 1,.int .i64 k] w fun e w'=>∃ st:Int,e=.returned (.agg #[.int .i64 0,.int .u64 0,.int .i64 1,.int .i64 st])/\Xu L z k M 2 w'/\Only L.has w w' :=
 Og (b:=true) h (by decide) hM (Or.inl rfl) k1 (upd_same _ _ _) (by decide) Pz (by decide)
theorem D5 (k1:k<8) (hM:M+20000<1000000) (h:Xu L z k M 2 w):Calls Tryz.prog 7 #[Ri 4 30 12 40 100 600 3 L.p 0,.int .u64 65536,.int .i64 3,.int .i64 k] w fun e w'=>∃ st:Int,e=.returned (.agg #[.int .i64 0,.int .u64 0,.int .i64 1,.int .i64 st])/\Xu L z k M 3 w'/\Only L.has w w' :=
 Og (b:=true) h (by decide) hM (Or.inr (Or.inr rfl)) k1 (upd_same _ _ _) (by decide) rG (by decide)
theorem DZ (k1:k<8) (hM:M+20000<1000000) (h:Xu L z k M 3 w):Calls Tryz.prog 7 #[Ri 4 30 12 40 100 600 3 L.p 0,.int .u64 65536,.int .i64 1,.int .i64 k] w fun e w'=>∃ st:Int,e=.returned (.agg #[.int .i64 0,.int .u64 0,.int .i64 0,.int .i64 st])/\Xu L z k M 4 w'/\Only L.has w w' :=
 Og (b:=false) h (by decide) hM (Or.inl rfl) k1 (upd_same _ _ _) (by decide) Pz (by decide)
end
theorem XV {S:Nat->Prop} {w w':World} {X:Nat} (o:Only S w w') (h:S X) (v0 v1 v2 v3:Value):Only S w ((((w'.setCell ⟨X,0,none⟩ v0).setCell ⟨X,1,none⟩ v1).setCell ⟨X,2,none⟩ v2).setCell ⟨X,3,none⟩ v3) :=
 (((o.setCell (a:=⟨X,0,none⟩) (fun _=>h) v0).setCell (a:=⟨X,1,none⟩) (fun _=>h) v1).setCell (a:=⟨X,2,none⟩) (fun _=>h) v2).setCell (a:=⟨X,3,none⟩) (fun _=>h) v3
theorem Wl {w:World} {X:Nat} {T:TypeId} {c:Array Value} {a0 a1 a2 a3:Value} (h:At w X 0 T c [a0,a1,a2,a3]) (v0 v1 v2 v3:Value):∃ c',At ((((w.setCell ⟨X,0,none⟩ v0).setCell ⟨X,1,none⟩ v1).setCell ⟨X,2,none⟩ v2).setCell ⟨X,3,none⟩ v3) X 0 T c' [v0,v1,v2,v3] :=
 ⟨_,(((h.ZP 0 v0).ZP 1 v1).ZP 2 v2).ZP 3 v3⟩
theorem Zx {w:World} {X Y:Nat} {T:TypeId} {c:Array Value} {l:List Value} (h:At w X 0 T c l) (n:X≠Y) (v0 v1 v2 v3:Value):At ((((w.setCell ⟨Y,0,none⟩ v0).setCell ⟨Y,1,none⟩ v1).setCell ⟨Y,2,none⟩ v2).setCell ⟨Y,3,none⟩ v3) X 0 T c l :=
 (((h.other n 0 v0).other n 1 v1).other n 2 v2).other n 3 v3
structure OA (w:World) (Xw Xa Xb Xc Xd:Nat) (v0 va:Int):Prop where
 w0:w.cell? ⟨Xw,0,none⟩=some (.int .i64 0)
 w2:w.cell? ⟨Xw,2,none⟩=some (.int .i64 v0)
 a0:w.cell? ⟨Xa,0,none⟩=some (.int .i64 0)
 a2:w.cell? ⟨Xa,2,none⟩=some (.int .i64 va)
 b2:w.cell? ⟨Xb,2,none⟩=some (.int .i64 1)
 c2:w.cell? ⟨Xc,2,none⟩=some (.int .i64 1)
 d2:w.cell? ⟨Xd,2,none⟩=some (.int .i64 0)
theorem OA.only {w w':World} {Xw Xa Xb Xc Xd:Nat} {v0 va:Int} {S:Nat->Prop} (h:OA w Xw Xa Xb Xc Xd v0 va) (o:Only S w w') (n:¬ S Xw/\¬ S Xa/\¬ S Xb/\¬ S Xc/\¬ S Xd):OA w' Xw Xa Xb Xc Xd v0 va :=
 ⟨o.keep n.1 h.w0,o.keep n.1 h.w2,o.keep n.2.1 h.a0,o.keep n.2.1 h.a2,o.keep n.2.2.1 h.b2,o.keep n.2.2.2.1 h.c2,o.keep n.2.2.2.2 h.d2⟩
theorem Kr {w w1:World} {E P:Nat} {c0 c1 c2 c3 c4 c5 c6 who x:Int} (g:Below w.heap.size w w1) (v:XY w E c0 c1 c2 c3 c4 c5 c6 P who) (v1:XY w1 E c0 c1 c2 c3 c4 c5 c6 P who):Below (w.setCell ⟨E,8,none⟩ (.int .i64 x)).heap.size (w.setCell ⟨E,8,none⟩ (.int .i64 x)) (w1.setCell ⟨E,8,none⟩ (.int .i64 x)):=by
 have o:=Only.setCell (a:=⟨E,8,none⟩) (Only.refl (fun y=>y=E) w) (fun _=>rfl) (.int .i64 x)
 have o1:=Only.setCell (a:=⟨E,8,none⟩) (Only.refl (fun y=>y=E) w1) (fun _=>rfl) (.int .i64 x)
 have e:(w.setCell ⟨E,8,none⟩ (.int .i64 x)).heap.size=w.heap.size:=by simp
 rw[e]
 refine⟨o1.os.trans (g.os.trans o.os.symm),o1.tape.trans (g.tape.trans o.tape.symm),o1.output.trans (g.output.trans o.output.symm),?_,fun i hi=>?_⟩
 . rw[e];exact Nat.le_trans g.size o1.size
 . by_cases ei:i=E
   . rw[ei];exact(v1.set x).trans (v.set x).symm
   . exact(o1.block i (Nat.lt_of_lt_of_le hi g.size) ei).trans ((g.block i hi).trans (o.block i hi ei).symm)
end Go.Proofs.YtpbghmeikcphnabGreat
