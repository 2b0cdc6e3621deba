import Derived.Test.YtibmjlefcaonnaaGreatLstSole
import Derived.Test.YtibmjlefcaonnaaGreatLstKept
namespace Go.Proofs.YtibmjlefcaonnaaGreat
open Go.RowKit
section
@[reducible] def Dt (t n k m:Nat) (g p r:Int) (P:Nat) (K:Nat):Value:=(eV t n k m g p r P K)
theorem Ym.blt {t n k m:Nat} {w:World} {L:Loc} {B:Bk} {σ0:Nat} {A:As} (h:Ym t n k m w L B σ0 A) (hp:A.ph<=2):∀ x,B.has x->x<w.heap.size:=fun x hx=>by
 obtain⟨c,ka⟩:=h.at_.a
 obtain⟨c',kl⟩:=h.at_.l
 obtain⟨c'',ki⟩:=h.pin hp
 rcases hx with rfl | rfl | rfl | rfl
 . exact ka.lt
 . exact kl.lt
 . exact ki.lt
 . exact h.dw.lt
structure BJ (t n k m:Nat) (g:Int) (L:Loc) (B:Bk) (σ0 σ:Nat) (q:Q) (h:Gh) (jb:Nat->Jb) (hd:Nat) (F:List Nat) (u:Hi) (ts:Nat->Option (Cl × Option Rs)) (K:Nat) (C:Cl) (rs:Option Rs) (S:Lr) (b ph:Nat) (pn:Nat->Int) (w0 w6:World) (s':Mm) (h':Gh) (q':Q) (u':Hi) (F':List Nat) (C1:Cl) (r1:Option Rs) (b1:Jb) (Yu:Nat->Int) (X3:Nat) (δ1:Dw):Prop where
 mm:Z7 w6 L s'
 vl:XF t n k m s' (σ+1) q' Yu
 th:Ym t n k m w6 L B σ0 ⟨σ+1,q',Yu,X3,δ1⟩
 on:Only (LB L B) w0 w6
 lc:Lc t n k m q' (σ+1) h' (upd jb K b1) hd F' u' (upd ts K (some (C1,r1)))
 sg:LM h' b1 r1 X3 δ1
 dc:δ1.c=C1.po.c
 go:SN t n k m g h σ q u F K C rs (jb K) h' q' u' F' C1 r1 b1 (decide (ph≠3))
 pn:(Yu=pn/\ph≠1/\ph≠4)\/(Yu=upd pn K 1/\ph=1)\/(Yu=upd pn K 0/\ph=4)
 la:ph≠3->s'.la<6+t
 q1:ph<3->X3=ph+1
 q2:ph=3->X3=if r1=none then 3 else 4
 q3:ph=4->X3=5
 lr:ZH w6 b (pP B.A 0) S
 is:Xq h' hd C1 r1 S
 bd:C1.bd h'.J hd
section
variable {t n k m σ K:Nat} {q:Q} {h:Gh} {jb:Nat->Jb} {hd:Nat} {F:List Nat} {u:Hi} {ts:Nat->Option (Cl × Option Rs)} {g p r:Int} {C C':Cl} {rs:Option Rs} {R:Rs} {S:Lr} {w:World} {L:Loc} {s:Mm} {pn:Nat->Int} {b ph:Nat} {a:Option Rn} {B:Bk} {σ0:Nat} {δ:Dw} {H V St:Int}
theorem Og.n13 {po:Po} (ip:Og h C S po) (ho:∀ E v st,po≠.over E v st):S.nx≠13:=by
 cases po with
 | over E v st=>exact absurd rfl (ho E v st)
 | _=>have:=ip.1;omega
theorem MC.BI {bj:Jb} (T:MC h hd σ u K C rs bj):∀ E v st,C.po≠.over E v st:=fun E v st e=>by
 cases rs with
 | none=>have:=(T.run rfl).2.1;rw[e] at this;exact this
 | some r0=>have:=(T.told r0 rfl).2;rw[e] at this;exact this
theorem FZ {r':Rs} (hc:δ.c=C.po.c) (hh:(∃ W x g,δ=.ac W true x g (.over r'.E r'.V r'.St))/\H=0/\V=r'.V/\St=(r'.St:Int)\/δ=.al 2 true 0 (.over r'.E r'.V r'.St)/\H=r'.V/\V=0/\St=(r'.St:Int)\/(∃ nu x g,δ=.dp nu true x g (.over 0))/\H=0/\V=0):QL C r' H V St:=by
 unfold QL
 revert hc
 rcases hh with⟨⟨W,x,g,e⟩,-,h2,h3⟩ | ⟨e,h2,-,h3⟩ | ⟨⟨nu,x,g,e⟩,-,-⟩ <;> rw[e] <;> intro hc
 . have hc:2=C.po.c:=hc
   revert hc
   cases C.po with
   | make=>intro hc;exact absurd hc (by simp[Po.c])
   | drop=>exact fun _=>trivial
   | Zo=>exact fun _=>trivial
   | Zk=>exact fun _=>trivial
   | _=>exact fun _=>⟨h2,h3⟩
 . have hc:0=C.po.c:=hc
   revert hc
   cases C.po with
   | make=>exact fun _=>⟨h2,h3⟩
   | drop=>exact fun _=>trivial
   | Zo=>exact fun _=>trivial
   | Zk=>exact fun _=>trivial
   | _=>intro hc;exact absurd hc (by simp[Po.c])
 . have hc:1=C.po.c:=hc
   revert hc
   cases C.po with
   | drop=>exact fun _=>trivial
   | Zo=>exact fun _=>trivial
   | Zk=>exact fun _=>trivial
   | _=>intro hc;exact absurd hc (by simp[Po.c])
theorem NZ (a:Xg h hd σ u K C C.po R) (I:Xq h hd C (some R) S) (hT:QL C R H V St) (hc:S.nx=0\/S.nx=1) (hE:R.E=0):0<=V/\V<8589934592:=by
 have key:=Xg.Dj a I hc hE
 have ip:=I.po
 unfold QL at hT
 revert hT ip
 cases C.po with
 | first=>intro hT _;rw[hT.1];exact key
 | link=>intro hT _;rw[hT.1];exact key
 | make=>intro _ ip;have:=ip.1;omega
 | drop=>intro _ ip;have:=ip.1;omega
 | Zo=>intro _ ip;have:=ip.1;omega
 | Zk=>intro _ ip;have:=ip.1;omega
 | past=>intro _ ip;have:=ip.1;omega
 | key=>intro _ ip;have:=ip.1;omega
 | wkey=>intro _ ip;have:=ip.1;omega
 | YL=>intro _ ip;have:=ip.1;omega
 | put=>intro _ ip;have:=ip.1;omega
 | mark=>intro _ ip;have:=ip.1;omega
 | lead=>intro _ ip;have:=ip.1;omega
 | over=>intro _ ip;have:=ip.1;omega
theorem Lc.core (X:Lc t n k m q σ h jb hd F u ts) (hm:Z7 w L s) (hV:XF t n k m s σ q pn) (hG:Good t n k m g p r) (hn:n<=65535) (hJ:h.J<=60000) (hcg:(h.J:Int)+2<=g) (hσ:σ<1000000) (hK4:K<4) (hKt:K<t) (hts:ts K=some (C,rs)) (lr:ZH w b (pP B.A 0) S) (ok:S.ok) (I:Xq h hd C rs S) (bd:C.bd h.J hd) (nb:¬ L.has b) (p4:ph<=4) (th:Ym t n k m w L B σ0 ⟨σ,q,pn,ph,δ⟩) (sg:LM h (jb K) rs ph δ) (nB:¬ B.has b) (dc:δ.c=C.po.c) :
 (∀ w1,Below w.heap.size w w1->Calls Tryz.prog 26 #[pP B.A 0,Dt t n k m g p r L.p K] w1 fun e w'=>∃ d,e=.returned (.bool d)/\ZH w' b (pP B.A 0) S/\∃ s' h' q' u' F' C1 r1 b1 Yu X3 δ1,d=(X3 == 5)/\BJ t n k m g L B σ0 σ q h jb hd F u ts K C rs S b ph pn w w' s' h' q' u' F' C1 r1 b1 Yu X3 δ1)
/\(∀ w6,(∃ s' h' q' u' F' C1 r1 b1 Yu X3 δ1,true=(X3 == 5)/\BJ t n k m g L B σ0 σ q h jb hd F u ts K C rs S b ph pn w w6 s' h' q' u' F' C1 r1 b1 Yu X3 δ1)->∀ w1,Below w6.heap.size w6 w1->Calls Tryz.prog 27 #[pP B.A 0] w1 fun e w'=>∃ E H V St,e=.returned (.agg #[iV E,.int .u64 H,iV V,iV St])/\Below w1.heap.size w1 w'/\∃ s' h' q' u' F' C1 R b1 Yu δ1,BJ t n k m g L B σ0 σ q h jb hd F u ts K C rs S b ph pn w w6 s' h' q' u' F' C1 (some R) b1 Yu 5 δ1/\E=R.E/\QL C1 R H V St)
/\(∀ E H V St w6,(∃ s' h' q' u' F' C1 R b1 Yu δ1,BJ t n k m g L B σ0 σ q h jb hd F u ts K C rs S b ph pn w w6 s' h' q' u' F' C1 (some R) b1 Yu 5 δ1/\E=R.E/\QL C1 R H V St)->∀ w1,ZH w1 b (.pointer none) S->Calls Tryz.prog 28 #[pP b 0,.agg #[iV E,.int .u64 H,iV V,iV St]] w1 fun e w'=>e=.returned (.tuple #[])/\ZH w' b (.pointer none) (S.go E H V St)/\Only (B1 b) w1 w'):=by
 refine⟨fun w1 g1=>?_,?_,?_⟩
 . refine(X.Dh (hm.below g1) hV hG hn hJ hcg hσ hK4 hKt hts sg (by omega) (th.grown g1)).mono ?_
   rintro e w' ⟨s',h',q',u',F',C1,r1,b1,Yu,X3,δ1,rfl,m',v',Ns,o',X',qx,dc',go,qw,la,-,q3,q1,q2⟩
   have wI:=(lr.grown g1).only o' (fun hh=>hh.elim nb nB)
   obtain⟨I',qp⟩:=I.go1 bd go
   exact⟨_,rfl,wI,s',h',q',u',F',C1,r1,b1,Yu,X3,δ1,rfl,m',v',Ns,(Only.ZZ g1).trans o',X',qx,by rw[dc',dc,go.same.1],go,qw,la,q1,q2,q3,wI,I',qp⟩
 . rintro w6 ⟨s',h',q',u',F',C1,r1,b1,Yu,X3,δ1,e5,A⟩ w1 g1
   have e5:X3=5:=by simpa using e5.symm
   subst e5
   obtain⟨R,hr⟩:∃ R,r1=some R:=by
    rcases A.sg with⟨-,h3,-⟩ | ⟨R,hr,-⟩
    . omega
    . exact⟨R,hr⟩
   subst hr
   obtain⟨H,V,St,hh,hc⟩:=FY A.th A.sg
   refine(hc w1 g1).mono ?_
   rintro e w' ⟨rfl,g2⟩
   exact⟨_,_,_,_,rfl,g2,s',h',q',u',F',C1,R,b1,Yu,δ1,A,rfl,FZ A.dc hh⟩
 . rintro E H V St w6 ⟨s',h',q',u',F',C1,R,b1,Yu,δ1,A,rfl,hT⟩ w1 lr1
   have T:=A.lc.t K C1 _ (upd_same _ _ _)
   exact FX lr1 _ _ _ _ ok (A.is.po.n13 T.BI) (fun hc hE=>NZ (T.told R rfl).2 A.is hT hc hE)
structure Stp (t n k m:Nat) (g:Int) (L:Loc) (σ:Nat) (q:Q) (h:Gh) (jb:Nat->Jb) (hd:Nat) (F:List Nat) (u:Hi) (ts:Nat->Option (Cl × Option Rs)) (K:Nat) (C:Cl) (rs:Option Rs) (b:Nat) (a:Option Rn) (ph:Nat) (pn:Nat->Int) (w w':World) (s':Mm) (h':Gh) (q':Q) (u':Hi) (F':List Nat) (C1:Cl) (r1:Option Rs) (b1:Jb) (Yu:Nat->Int) (X3:Nat):Prop where
 mm:Z7 w' L s'
 vl:XF t n k m s' (σ+1) q' Yu
 on:Only (fun x=>L.has x\/Oj b a x) w w'
 lc:Lc t n k m q' (σ+1) h' (upd jb K b1) hd F' u' (upd ts K (some (C1,r1)))
 go:SN t n k m g h σ q u F K C rs (jb K) h' q' u' F' C1 r1 b1 (decide (ph≠3))
 pn:(Yu=pn/\ph≠1/\ph≠4)\/(Yu=upd pn K 1/\ph=1)\/(Yu=upd pn K 0/\ph=4)
 la:ph≠3->s'.la<6+t
 q1:ph<3->X3=ph+1
 q2:ph=3->X3=if r1=none then 3 else 4
 q3:ph=4->X3=5
def FW (t n k m:Nat) (L:Loc) (σ:Nat) (jb:Nat->Jb) (hd:Nat) (ts:Nat->Option (Cl × Option Rs)) (K:Nat) (S:Lr) (b:Nat) (a:Option Rn) (w:World) (e:Ending) (w':World) (h':Gh) (q':Q) (u':Hi) (F':List Nat) (C1:Cl) (r1:Option Rs) (b1:Jb) (Yu:Nat->Int) (X3:Nat):Prop :=
 (X3≠5/\e=.returned (.bool false)/\∃ a',Cal t n k m w' L (σ+1) q' Yu h' hd K b1 C1 r1 S b (some a') X3/\∀ x,a'.B.has x->Oj b a x\/(w.heap.size<=x/\x<w'.heap.size))
\/(X3=5/\Yu K=0/\∃ R S2 C2,r1=some R/\Ae h' hd C1 R C2 C1.po/\ZH w' b (.pointer none) S2/\Xq h' hd C2 none S2/\((∃ E v st,C2.po=.over E v st/\Qx (σ+1) u' C1 R E v st/\e=.returned (.bool true))\/(QM h' hd (σ+1) u' K C1 C2 R/\(∀ E v st,C2.po≠.over E v st)/\e=.returned (.bool false)/\Lc t n k m q' (σ+1) h' (upd jb K (C2.Wj h' hd)) hd F' u' (upd ts K (some (C2,none)))/\Cal t n k m w' L (σ+1) q' Yu h' hd K (C2.Wj h' hd) C2 none S2 b none 0)))
theorem Lc.last (hG:Good t n k m g p r) (hn:n<=65535) (hJ:h.J+1<=60000) (hK4:K<4) (ok:S.ok) (nb:¬ L.has b) (pk:pn K=if ph<=1 then 0 else 1) (p4:ph<=4) (nB:¬ B.has b) (qo:∀ x,x<w.heap.size->B.has x->Oj b a x) {w0:World} (ow:Only (fun x=>L.has x\/Oj b a x) w w0) (wH:(∀ x,B.has x->Oj b a x)\/(ph=0/\∀ x,B.has x->w.heap.size<=x))
 {e:Ending} {w':World} (O:PG (fun d w6=>∃ s' h' q' u' F' C1 r1 b1 Yu X3 δ1,d=(X3 == 5)/\BJ t n k m g L B σ0 σ q h jb hd F u ts K C rs S b ph pn w0 w6 s' h' q' u' F' C1 r1 b1 Yu X3 δ1) (fun w6 E H V St=>∃ s' h' q' u' F' C1 R b1 Yu δ1,BJ t n k m g L B σ0 σ q h jb hd F u ts K C rs S b ph pn w0 w6 s' h' q' u' F' C1 (some R) b1 Yu 5 δ1/\E=R.E/\QL C1 R H V St) b S e w') :
 ∃ s' h' q' u' F' C1 r1 b1 Yu X3,Stp t n k m g L σ q h jb hd F u ts K C rs b a ph pn w w' s' h' q' u' F' C1 r1 b1 Yu X3/\FW t n k m L σ jb hd ts K S b a w e w' h' q' u' F' C1 r1 b1 Yu X3:=by
 have Df:∀ {w6},Only (LB L B) w0 w6->Only (fun x=>L.has x\/Oj b a x) w w6:=fun o=>by
  refine⟨o.os.trans ow.os,o.tape.trans ow.tape,o.output.trans ow.output,Nat.le_trans ow.size o.size,fun i hi hs=>?_⟩
  exact(o.block i (Nat.lt_of_lt_of_le hi ow.size) (fun hh=>hs (hh.elim Or.inl (fun hb=>Or.inr (qo i hi hb))))).trans (ow.block i hi hs)
 have p0:∀ {X3:Nat} {Yu:Nat->Int} {r1:Option Rs},((Yu=pn/\ph≠1/\ph≠4)\/(Yu=upd pn K 1/\ph=1)\/(Yu=upd pn K 0/\ph=4))->(ph<3->X3=ph+1)->(ph=3->X3=if r1=none then 3 else 4)->(ph=4->X3=5)->(X3≠5->(Yu K=if X3<=1 then 0 else 1)/\X3<=4)/\(X3=5->Yu K=0):=fun {X3 Yu r1} hp q1 q2 q3=>by
  have qm:ph=3->X3=3\/X3=4:=fun e=>by
   rw[q2 e];split
   . exact Or.inl rfl
   . exact Or.inr rfl
  rcases hp with⟨e,n1,n4⟩ | ⟨e,e1⟩ | ⟨e,e4⟩
  . by_cases h0:ph=0
    . have:=q1 (by omega)
      rw[if_pos (by omega)] at pk
      exact⟨fun _=>⟨by rw[e,pk,if_pos (by omega)],by omega⟩,fun h=>by omega⟩
    . rw[if_neg (by omega)] at pk
      by_cases h2:ph=2
      . have:=q1 (by omega)
        exact⟨fun _=>⟨by rw[e,pk,if_neg (by omega)],by omega⟩,fun h=>by omega⟩
      . have:=qm (by omega)
        exact⟨fun _=>⟨by rw[e,pk,if_neg (by omega)],by omega⟩,fun h=>by omega⟩
  . have:=q1 (by omega)
    exact⟨fun _=>⟨by rw[e,upd_same,if_neg (by omega)],by omega⟩,fun h=>by omega⟩
  . have:=q3 e4
    exact⟨fun h=>absurd this h,fun _=>by rw[e,upd_same]⟩
 obtain⟨d,w6,hz,hh⟩:=O
 rcases hh with⟨rfl,rfl,rfl⟩ | ⟨rfl,E,H,V,St,hy,rfl,lr2,o2⟩
 . obtain⟨s',h',q',u',F',C1,r1,b1,Yu,X3,δ1,e5,A⟩:=hz
   have e5:X3≠5:=by simpa using e5.symm
   refine⟨s',h',q',u',F',C1,r1,b1,Yu,X3,⟨A.mm,A.vl,Df A.on,A.lc,A.go,A.pn,A.la,A.q1,A.q2,A.q3⟩,Or.inl ⟨e5,rfl,⟨B,δ1,σ0⟩,⟨A.lr,ok,A.is,A.bd,nb,?_,?_,(fun e=>by cases e),fun R e=>?_⟩,fun x hx=>?_⟩⟩
   . exact((p0 A.pn A.q1 A.q2 A.q3).1 e5).1
   . exact((p0 A.pn A.q1 A.q2 A.q3).1 e5).2
   . injection e with e;subst e;exact⟨A.th,A.sg,nB,A.dc⟩
   . rcases wH with h | ⟨h0,h⟩
     . exact Or.inl (h x hx)
     . exact Or.inr ⟨h x hx,A.th.blt (by have:=A.q1 (by omega);show X3<=2;omega) x hx⟩
 . obtain⟨s',h',q',u',F',C1,R,b1,Yu,δ1,A,rfl,hT⟩:=hy
   have hJ':h'.J<=60000:=Nat.le_trans A.go.J hJ
   have T:=A.lc.t K C1 _ (upd_same _ _ _)
   obtain⟨C2,N,I2⟩:=A.lc.ql hG hn hJ' (upd_same _ _ _) A.is hT
   refine⟨s',h',q',u',F',C1,some R,b1,Yu,5,⟨A.mm.only o2 (fun x hx e=>nb (by rw[<- show x=b from e];exact hx)),A.vl,(Df A.on).trans (o2.mono fun x _ hx=>Or.inr (Or.inl hx)),A.lc,A.go,A.pn,A.la,A.q1,A.q2,A.q3⟩,Or.inr ⟨rfl,?_,R,_,C2,rfl,N,lr2,I2,?_⟩⟩
   . exact(p0 A.pn A.q1 A.q2 A.q3).2 rfl
   . rcases A.lc.going hG hn hJ' (upd_same _ _ _) A.is N with⟨E,v,st,e1,e2⟩ | ⟨ho,G⟩
     . refine Or.inl ⟨E,v,st,e1,e2,?_⟩
       have ip:=I2.po
       rw[e1] at ip
       rw[ip.1];rfl
     . have X2:=A.lc.next hG hn hJ' hK4 (upd_same _ _ _) N.same ho G
       rw[Vz,Vz] at X2
       refine Or.inr ⟨G,ho,?_,X2,⟨lr2,ok.go (fun hc hE=>NZ (T.told R rfl).2 A.is hT hc hE),I2,G.bd A.lc,nb,?_,Nat.zero_le _,fun _=>⟨rfl,rfl,rfl⟩,fun R e=>by cases e⟩⟩
       . have:=I2.po.n13 ho
         rw[show ((S.go R.E H V St).nx == 13)=false by simpa using this]
       . exact((p0 A.pn A.q1 A.q2 A.q3).2 rfl)
theorem Lc.xJ (X:Lc t n k m q σ h jb hd F u ts) (hm:Z7 w L s) (hV:XF t n k m s σ q pn) (hG:Good t n k m g p r) (hn:n<=65535) (hJ:h.J+1<=60000) (hcg:(h.J:Int)+2<=g) (hσ:σ<1000000) (hK4:K<4) (hKt:K<t) (hts:ts K=some (C,rs)) (hc:Cal t n k m w L σ q pn h hd K (jb K) C rs S b a ph) :
 Calls Tryz.prog 17 #[pP b 0,Dt t n k m g p r L.p K] w fun e w'=>∃ s' h' q' u' F' C1 r1 b1 Yu X3,Stp t n k m g L σ q h jb hd F u ts K C rs b a ph pn w w' s' h' q' u' F' C1 r1 b1 Yu X3/\FW t n k m L σ jb hd ts K S b a w e w' h' q' u' F' C1 r1 b1 Yu X3:=by
 have T:=X.t K C _ hts
 have k0:S.kd≠0:=by rw[hc.is.kd];have:=hc.is.k13;omega
 have hnx:S.nx≠13:=hc.is.po.n13 T.BI
 cases a with
 | some A =>
  obtain⟨th,sg,nB,dc⟩:=hc.th A rfl
  obtain⟨hS,hD,hO⟩:=X.core (s:=s) hm hV hG hn (by omega) hcg hσ hK4 hKt hts hc.lr hc.ok hc.is hc.bd hc.nb hc.p4 th sg nB dc
  refine(IP (P:=L.p) t n k m g p r K hc.lr k0 hnx _ _ hS hD (fun E H V St w6 _=>hO E H V St w6)).mono ?_
  intro e w' O
  exact Lc.last hG hn hJ hK4 hc.ok hc.nb hc.pk hc.p4 nB (fun x _ hx=>Or.inr ⟨A,rfl,hx⟩) (Only.refl _ _) (Or.inl (fun x hx=>Or.inr ⟨A,rfl,hx⟩)) O
 | none =>
  obtain⟨e0,er,ej⟩:=hc.no rfl
  subst e0 er
  obtain⟨may,st,nn,dc,m0,m1,-⟩:=X.wants hG hn (by omega) hts ej hc.is
  have hb:=hc.lr.lt
  have xH:∀ (B:Bk) (w2:World),(∀ y,B.has y->w.heap.size<=y)->Ym t n k m w2 L B σ ⟨σ,q,pn,0,(jb K).dw h⟩->LM h (jb K) none 0 ((jb K).dw h)->Below w.heap.size w w2->¬ B.has b/\Only (fun x=>L.has x\/Oj b none x) w (w2.setCell ⟨b,4,none⟩ (pP B.A 0))/\_:=fun B w2 b2 b3 b4 b5=>by
   have nB:¬ B.has b:=fun hx=>by have:=b2 b hx;omega
   have o2:Only (B1 b) w2 (w2.setCell ⟨b,4,none⟩ (pP B.A 0)):=Zv (Only.refl _ _) _ _
   have lr2:ZH (w2.setCell ⟨b,4,none⟩ (pP B.A 0)) b (pP B.A 0) S:=by
    obtain⟨c,hl⟩:=hc.lr.grown b5
    exact⟨_,hl.ZO 4 _⟩
   exact⟨nB,(Only.ZZ b5).trans (o2.mono fun x _ hx=>Or.inr (Or.inl hx)),X.core (s:=s) ((hm.below b5).ZX hc.nb _ _) hV hG hn (by omega) hcg hσ hK4 hKt hts lr2 hc.ok hc.is hc.bd hc.nb hc.p4 (b3.only o2 (fun x hx e=>nB (by rw[<- show x=b from e];exact hx))) b4 nB dc⟩
  refine(IM (P:=L.p) t n k m g p r K hc.lr k0 hnx (fun A w2=>∃ B:Bk,A=B.A/\(∀ y,B.has y->w.heap.size<=y)/\Ym t n k m w2 L B σ ⟨σ,q,pn,0,(jb K).dw h⟩/\LM h (jb K) none 0 ((jb K).dw h)/\Below w.heap.size w w2) (fun A w2 d w6=>∃ B:Bk,A=B.A/\(∀ y,B.has y->w.heap.size<=y)/\Ym t n k m w2 L B σ ⟨σ,q,pn,0,(jb K).dw h⟩/\LM h (jb K) none 0 ((jb K).dw h)/\Below w.heap.size w w2/\∃ s' h' q' u' F' C1 r1 b1 Yu X3 δ1,d=(X3 == 5)/\BJ t n k m g L B σ σ q h jb hd F u ts K C none S b 0 pn (w2.setCell ⟨b,4,none⟩ (pP B.A 0)) w6 s' h' q' u' F' C1 r1 b1 Yu X3 δ1) (fun A w2 w6 E H V St=>∃ B:Bk,A=B.A/\(∀ y,B.has y->w.heap.size<=y)/\Ym t n k m w2 L B σ ⟨σ,q,pn,0,(jb K).dw h⟩/\LM h (jb K) none 0 ((jb K).dw h)/\Below w.heap.size w w2/\∃ s' h' q' u' F' C1 R b1 Yu δ1,BJ t n k m g L B σ σ q h jb hd F u ts K C none S b 0 pn (w2.setCell ⟨b,4,none⟩ (pP B.A 0)) w6 s' h' q' u' F' C1 (some R) b1 Yu 5 δ1/\E=R.E/\QL C1 R H V St) (fun w1 g1=>?_) ?_).mono ?_
  . refine(LU (hc.lr.grown g1) hc.ok hnx m0 m1 (fun A w2 w'=>∃ B:Bk,A=B.A/\(∀ y,B.has y->w2.heap.size<=y)/\Ym t n k m w' L B σ ⟨σ,q,pn,0,(jb K).dw h⟩/\LM h (jb K) none 0 ((jb K).dw h)/\Below w2.heap.size w2 w') (fun w2 g2=>?_)).mono ?_
    . refine(zX (t:=t) (k:=k) (m:=m) (σ:=σ) (q:=q) (hm.below (grow g1 g2)) may st nn pn).mono ?_
      rintro e w' ⟨B,rfl,b1,b2,b3,b4⟩
      exact⟨B.A,rfl,B,rfl,b2,b3,b4,b1⟩
    . rintro e w' ⟨A,w2,rfl,g2,B,rfl,b2,b3,b4,b5⟩
      exact⟨_,rfl,grow g2 b5,B,rfl,fun y hy=>Nat.le_trans (grow g1 g2).size (b2 y hy),b3,b4,grow g1 (grow g2 b5)⟩
  . rintro A w2 ⟨B,rfl,b2,b3,b4,b5⟩
    obtain⟨nB,oW,hS,-,-⟩:=xH B w2 b2 b3 b4 b5
    refine⟨fun w1 g1=>(hS w1 g1).mono ?_,?_,?_⟩
    . rintro e w' ⟨d,rfl,wI,z⟩
      exact⟨d,rfl,wI,B,rfl,b2,b3,b4,b5,z⟩
    . rintro w6 ⟨B',eB,c2,c3,c4,c5,z⟩ w1 g1
      obtain⟨-,-,-,hD,-⟩:=xH B' w2 c2 c3 c4 c5
      rw[eB]
      refine(hD w6 z w1 g1).mono ?_
      rintro e w' ⟨E,H,V,St,rfl,g2,y⟩
      exact⟨E,H,V,St,rfl,g2,B',rfl,c2,c3,c4,c5,y⟩
    . rintro E H V St w6 - ⟨B',eB,c2,c3,c4,c5,y⟩ w1 lr1
      obtain⟨-,-,-,-,hO⟩:=xH B' w2 c2 c3 c4 c5
      exact hO E H V St w6 y w1 lr1
  . rintro e w' ⟨A,w2,-,d,w6,⟨B,eB,c2,c3,c4,c5,z⟩,hh⟩
    obtain⟨nB,oW,-⟩:=xH B w2 c2 c3 c4 c5
    rcases hh with⟨e1,e2,e3⟩ | ⟨e1,E,H,V,St,⟨B',nM,c2',c3',qj,qi,y⟩,e2,lr2,o2⟩
    . exact Lc.last hG hn hJ hK4 hc.ok hc.nb hc.pk hc.p4 nB (fun x hx hb'=>by have:=c2 x hb';omega) oW (Or.inr ⟨rfl,fun x hx=>c2 x hx⟩) ⟨d,w6,z,Or.inl ⟨e1,e2,e3⟩⟩
    . obtain⟨qh,qc,-⟩:=xH B' w2 c2' c3' qj qi
      refine Lc.last hG hn hJ hK4 hc.ok hc.nb hc.pk hc.p4 qh (fun x hx hb'=>by have:=c2' x hb';omega) qc (Or.inr ⟨rfl,fun x hx=>c2' x hx⟩) ⟨d,w6,?_,Or.inr ⟨e1,E,H,V,St,y,e2,lr2,o2⟩⟩
      obtain⟨s',h',q',u',F',C1,R,b1,Yu,δ1,A1,-⟩:=y
      exact⟨s',h',q',u',F',C1,some R,b1,Yu,5,δ1,by rw[e1];rfl,A1⟩
end
end
section
structure Rest (t n k:Nat) (L:Loc) (K Jm J:Nat) (w:World) (s:Mm) (σ:Nat) (q:Q) (pv:Nat->Int) (h:Gh) (jb:Nat->Jb) (hd:Nat) (F:List Nat) (u:Hi) (ts:Nat->Option (Cl × Option Rs)):Prop where
 mm:Z7 w L s
 vl:XF t n k 40 s σ q pv
 lc:Lc t n k 40 q σ h jb hd F u ts
 room:Roomy k K Jm q h jb
 hJ:h.J<=J
 al:∀ K',jb K'=.nil/\ts K'=none/\pv K'=0
def IX (t n k:Nat) (L:Loc) (K Jm J:Nat) (S0:Int->Prop) (kd key H:Int) (hd b M0 σ0:Nat) (w0:World) (h0:Gh) (j:Nat) (w:World):Prop :=
 ∃ s σ q pn h jb F u ts C rs S a ph,Z7 w L s/\XF t n k 40 s σ q pn/\Lc t n k 40 q σ h jb hd F u ts/\ts K=some (C,rs)/\Cal t n k 40 w L σ q pn h hd K (jb K) C rs S b a ph/\Du k K Jm (J+(if kd=2 then 1 else 0)) S0 σ q h jb hd u C rs ph/\j+EL k 40 (2 * k+110) q F C rs ph (jb K)<=M0/\σ=σ0+j/\C.kd=kd/\C.k=key/\(∀ x,Oj b a x->w0.heap.size<=x)/\Only L.has w0 w/\h.H hd=H/\(j=0\/s.la<6+t\/pn K=1)/\(∀ K',K'≠K->jb K'=.nil/\ts K'=none/\pn K'=0)/\Oi h0 h K
def xK (t n k:Nat) (L:Loc) (K Jm J:Nat) (S0:Int->Prop) (kd key H:Int) (hd b M0 σ0 j:Nat) (w0:World) (h0:Gh) (w:World):Prop :=
 ∃ s σ q pn h jb F u ts S E v st,Rest t n k L K Jm (J+(if kd=2 then 1 else 0)) w s σ q pn h jb hd F u ts/\ZH w b (.pointer none) S/\S.kd≠0/\S.nx=13/\S.cE=E/\S.cH=0/\S.cV=v/\S.cS=(st:Nat)/\Fin1 S0 (u.S σ) kd key E v q/\σ0<σ/\σ<=σ0+M0/\Only L.has w0 w/\h.H hd=H/\s.la<6+t/\σ=σ0+j+1/\Oi h0 h K
section
variable {t n k K Jm J:Nat} {L:Loc} {g p r:Int} {S0:Int->Prop} {kd key H:Int} {hd b M0 σ0 j:Nat} {w0 w:World} {h0:Gh}
theorem IX.step (I:IX t n k L K Jm J S0 kd key H hd b M0 σ0 w0 h0 j w) (hG:Good t n k 40 g p r) (hn:n<=65535) (EK:Jm<=97) (hg:99<=g) (hK4:K<4) (hKt:K<t) (hσ:σ0+M0<1000000) (hb:w0.heap.size<=b) :
 Calls Tryz.prog 17 #[pP b 0,Dt t n k 40 g p r L.p K] w fun e w'=>(e=.returned (.bool false)/\j+1<M0/\IX t n k L K Jm J S0 kd key H hd b M0 σ0 w0 h0 (j+1) w')\/(e=.returned (.bool true)/\xK t n k L K Jm J S0 kd key H hd b M0 σ0 j w0 h0 w'):=by
 obtain⟨s,σ,q,pn,h,jb,F,u,ts,C,rs,S,a,ph,mm,vl,X,hts,hc,A,hj,hs,ek,ey,hown,on,eH,-,ot,kp⟩:=I
 have hJ:h.J<=J+1:=Nat.le_trans (Nat.le_trans (Nat.le_add_right _ _) A.mj) (Nat.add_le_add_left (by split <;> decide) _)
 have hjm:=A.jm
 have qI:h.J<=Jm:=Nat.le_trans (Nat.le_trans (Nat.le_add_right _ _) A.mj) A.jm
 refine(X.xJ mm vl hG hn (by omega) (by omega) (by omega) hK4 hKt hts hc).mono ?_
 rintro e w' ⟨s',h',q',u',F',C1,r1,b1,Yu,X3,P,O⟩
 have h5:ph≠5:=by have:=hc.p4;omega
 obtain⟨A1,rk⟩:=A.go X P.lc hG hn (by omega) hK4 (by omega) hts h5 (by have:=hc.p4;omega) P.go P.q1 P.q2 P.q3
 have on':Only L.has w0 w':=by
  refine on.grow P.on (fun i hi hh=>hh.elim id (fun ho=>?_))
  have:=hown i ho
  omega
 have sm:=P.go.same
 have uX:h'.H hd=H:=(Gi P.go.nd.2 hc.bd.h).trans eH
 have lk:ph≠3\/Yu K=1:=by
  by_cases h3:ph=3
  . rcases P.pn with⟨e,-⟩ | ⟨-,e⟩ | ⟨-,e⟩
    . exact Or.inr (by rw[e,hc.pk,if_neg (by omega)])
    . omega
    . omega
  . exact Or.inl h3
 have lk':s'.la<6+t\/Yu K=1:=lk.imp P.la id
 have uV:Oi h0 h' K:=kp.trans (P.go.kept X hts)
 have qH:∀ K',K'≠K->Yu K'=pn K':=fun K' hK=>by
  rcases P.pn with⟨e,-⟩ | ⟨e,-⟩ | ⟨e,-⟩
  . rw[e]
  . rw[e,Z8 _ _ _ _ hK]
  . rw[e,Z8 _ _ _ _ hK]
 have tj:∀ b x,∀ K',K'≠K->upd jb K b K'=.nil/\upd ts K x K'=none/\Yu K'=0:=fun b x K' hK=>by rw[Z8 _ _ _ _ hK,Z8 _ _ _ _ hK,qH K' hK];exact ot K' hK
 rcases O with⟨n5,e1,a',hc',hB⟩ | ⟨p5,pk,R,S2,C2,hr,N,lr2,I2,O⟩
 . subst e1
   have qG:1<=EL k 40 (2 * k+110) q' F' C1 r1 X3 (upd jb K b1 K):=by
    have:1<=rem k 40 q' X3 (upd jb K b1 K):=by
     unfold rem
     rw[if_pos (show X3<=4 from hc'.p4)];omega
    unfold EL
    cases r1 <;> simp only <;> omega
   refine Or.inl ⟨rfl,by omega,s',σ+1,q',Yu,h',_,F',u',_,C1,r1,S,some a',X3,P.mm,P.vl,P.lc,upd_same _ _ _,by rw[upd_same];exact hc',A1,by omega,by omega,sm.2.2.1.trans ek,sm.2.1.trans ey,fun x hx=>?_,on',uX,Or.inr lk',tj _ _,uV⟩
   rcases hx with e | ⟨R,e,hR⟩
   . rw[e];exact hb
   . injection e with e
     subst e
     rcases hB x hR with ho | ⟨hx,-⟩
     . exact hown x ho
     . exact Nat.le_trans on.size hx
 . subst hr p5
   have Ag:upd ts K (some (C1,some R)) K=some (C1,some R):=upd_same _ _ _
   have T1:=P.lc.t K C1 _ Ag
   have b0:b1=.nil:=by have:=(T1.told R rfl).1;rw[upd_same] at this;exact this
   have tn:∀ K',upd jb K b1 K'=.nil/\upd (upd ts K (some (C1,some R))) K none K'=none/\Yu K'=0:=fun K'=>by
    by_cases hK:K'=K
    . rw[hK,upd_same,upd_same];exact⟨b0,rfl,pk⟩
    . rw[Vz];exact tj _ _ K' hK
   rcases O with⟨E,v,st,e1,e2,rfl⟩ | ⟨G,ho,rfl,X2,hc2⟩
   . refine Or.inr ⟨rfl,?_⟩
     have fin:=A1.ends P.lc Ag e2
     have ip:=I2.po
     rw[e1] at ip
     obtain⟨i1,i2,i3,i4,i5⟩:=ip
     have hk:S2.kd≠0:=by have h1:=I2.kd;have h2:=I2.k13;omega
     refine⟨s',σ+1,q',Yu,h',_,F',u',upd (upd ts K (some (C1,some R))) K none,S2,E,v,st,⟨P.mm,P.vl,P.lc.end_ (T1.told R rfl).1,A1.room,Nat.le_trans (Nat.le_add_right _ _) A1.mj,tn⟩,lr2,hk,i1,i2,i3,i4,i5,?_,by omega,by omega,on',uX,lk'.resolve_right (by rw[pk];decide),by omega,uV⟩
     rw[<- ek,<- ey,<- sm.2.2.1,<- sm.2.1];exact fin
   . obtain⟨A2,qF⟩:=A1.next P.lc Ag N ho G
     rw[Vz] at A2 qF
     have sK:=N.same
     have qG:1<=EL k 40 (2 * k+110) q' F' C2 none 0 (upd jb K (C2.Wj h' hd) K):=by
      show 1<=WS _ F' C2.po+(3+_+1)
      omega
     refine Or.inl ⟨rfl,by omega,s',σ+1,q',Yu,h',_,F',u',_,C2,none,S2,none,0,P.mm,P.vl,X2,upd_same _ _ _,by rw[upd_same];exact hc2,A2,by omega,by omega,sK.1.trans (sm.2.2.1.trans ek),sK.2.1.trans (sm.2.1.trans ey),fun x hx=>?_,on',uX,Or.inr lk',tj _ _,uV⟩
     rcases hx with e | ⟨R,e,hR⟩
     . rw[e];exact hb
     . cases e
theorem Lc.len {q:Q} {σ:Nat} {h:Gh} {jb:Nat->Jb} {F:List Nat} {u:Hi} {ts:Nat->Option (Cl × Option Rs)} {m:Nat} (X:Lc t n k m q σ h jb hd F u ts):F.length<=n:=by
 have h1:=Oh (k:=h.J) (c:=1) F h.live X.l.l.nd (fun i hi=>⟨X.l.pJ i (X.l.l.pb i hi),by unfold Gh.live;rw[X.l.f3 i hi];decide⟩)
 have h2:=X.m.sum
 omega
variable {s:Mm} {σ:Nat} {q:Q} {pn:Nat->Int} {h:Gh} {jb:Nat->Jb} {F:List Nat} {u:Hi} {ts:Nat->Option (Cl × Option Rs)}
theorem Lc.start {m:Nat} (X:Lc t n k m q σ h jb hd F u ts) (hG:Good t n k m g p r) (hn:n<=65535) (hJ:h.J<=60000) (hK4:K<4) (hts:ts K=none) (k0:0<=key) (k1:key<1073741824) :
 Lc t n k m q σ h (upd jb K (Cl.Wj h hd ⟨kd,key,σ,none,.first⟩)) hd F u (upd ts K (some (⟨kd,key,σ,none,.first⟩,none))):=by
 have hhd:h.ZL hd=true:=X.l.l.pb hd (by obtain⟨D,e⟩:=X.l.l.hf;rw[e];exact List.mem_cons_self)
 refine X.begin hK4 (X.n K hts) ⟨(fun d e=>by cases e),k0,by show key<1099511627776;omega,Nat.le_refl _,(fun e=>absurd rfl e),fun _=>⟨trivial,⟨_,_,rfl,rfl,rfl⟩,trivial⟩,fun r' e=>by cases e⟩ ?_ rfl (fun j α e=>by cases e)
 exact X.Tt (W:=⟨1,h.H hd,1,0,0⟩) hG hn hJ hhd rfl (Or.inr rfl) (show Val 0 from⟨by decide,by decide⟩) (Or.inl rfl)
theorem Lc.uU {m:Nat} (X:Lc t n k m q σ h jb hd F u ts) (hk:kd=1\/kd=2\/kd=3) (nb:¬ L.has b) (hp:pn K=0) (lr:ZH w b (.pointer none) (Af kd key (h.H hd))) :
 Cal t n k m w L σ q pn h hd K (Cl.Wj h hd ⟨kd,key,σ,none,.first⟩) ⟨kd,key,σ,none,.first⟩ none (Af kd key (h.H hd)) b none 0:=by
 have hhd:h.ZL hd=true:=X.l.l.pb hd (by obtain⟨D,e⟩:=X.l.l.hf;rw[e];exact List.mem_cons_self)
 exact⟨lr,⟨by show (0:Int)<=0;decide,by show (0:Int)<8589934592;decide,by show (0:Int)<=0;decide,by show (0:Int)<8589934592;decide,by show (0:Int)<=0;decide,by show (0:Int)<=13;decide⟩,⟨rfl,rfl,rfl,hk,fun _=>rfl,⟨rfl,rfl⟩,fun p s nx d e=>by cases e⟩,⟨X.l.pJ hd hhd,(fun d e=>by cases e),trivial⟩,nb,hp,by decide,fun _=>⟨rfl,rfl,rfl⟩,fun R e=>by cases e⟩
theorem Rest.begin {w1:World} (R:Rest t n k L K Jm J w s σ q pn h jb hd F u ts) (hG:Good t n k 40 g p r) (hn:n<=65535) (EK:J+1<=Jm) (IW:Jm<=97) (hK4:K<4) (hM:60 * F.length+2 * k+126<=M0) (hk:kd=1\/kd=2\/kd=3) (k0:0<=key) (k1:key<1073741824) (g1:Below w.heap.size w w1) (hb:w.heap.size<=b) (nb:¬ L.has b) (lr:ZH w1 b (.pointer none) (Af kd key (h.H hd))) :
 IX t n k L K Jm J (u.S σ) kd key (h.H hd) hd b M0 σ w h 0 w1:=by
 have X:=R.lc
 have hJ:=R.hJ
 have X1:=X.start (kd:=kd) hG hn (by omega) hK4 (R.al K).2.1 k0 k1
 have hst:h.st hd<=4:=by rw[X.l.f3 hd (by obtain⟨D,e⟩:=X.l.l.hf;rw[e];exact List.mem_cons_self)];decide
 refine⟨s,σ,q,pn,h,_,F,u,_,_,none,_,none,0,R.mm.below g1,R.vl,X1,upd_same _ _ _,by rw[upd_same];exact X.uU hk nb (R.al K).2.2 lr,⟨?_,Sem.first rfl rfl (fun _ _=>Iff.rfl),R.room.same rfl rfl (PK (by rw[(R.al K).1];rfl)),Nat.le_trans (Nat.add_le_add_left (by split <;> decide) _) EK,by rw[upd_same];rfl,?_,⟨fun _=>by decide,fun _=>rfl⟩,fun R a s nx e=>by cases e⟩,?_,rfl,rfl,rfl,fun x hx=>?_,Only.ZZ g1,rfl,Or.inl rfl,fun K' hK=>by rw[Z8 _ _ _ _ hK,Z8 _ _ _ _ hK];exact R.al K',Oi.refl h K⟩
 . rw[upd_same];exact⟨fun _=>⟨trivial,hst⟩,fun r' e=>by cases e⟩
 . show h.J+(if kd=2 then 1 else 0)<=J+(if kd=2 then 1 else 0)
   exact Nat.add_le_add_right hJ _
 . rw[upd_same]
   show 0+(60 * F.length+(2 * k+110)+1+(3+5+1))<=M0
   omega
 . rcases hx with e | ⟨R,e,hR⟩
   . rw[e];exact hb
   . cases e
end
end
section
def Gh.view (h:Gh) (p:Nat->Bool):Gh:={ h with ZL:=p,ma:=fun j=>if p j then 0 else 3 }
structure Bl (h:Gh) (p:Nat->Bool) (hd:Nat) (F:List Nat) (S:Int->Prop):Prop where
 l:VU p (h.ky hd) h.lk h.H hd F
 S:∀ x,0<=x->(S x↔O6 (h.ky hd) h.lk F x)
 f3:∀ j,j∈F->h.st j=3
 pJ:∀ j,p j=true->j<h.J
 kp:∀ j,p j=true->j≠hd->0<=h.cv j 0
 pf:∀ j,p j=true->3<=h.st j/\(4<=h.st j->4294967296<=h.cv j 1)
def hi1 (S:Int->Prop):Hi:=⟨fun _=>S,fun _=>none,fun _=>none⟩
section
variable {t n k m σ:Nat} {q:Q} {h h':Gh} {jb:Nat->Jb} {hd:Nat} {F:List Nat} {p:Nat->Bool} {S:Int->Prop}
theorem WA.look (M:WA t n k m q σ h jb) (hn:∀ K,jb K=.nil) {σ':Nat} (p:Nat->Bool) (c:Nat->Nat) (pf:∀ j,j<h.J->p j=true->3<=h.st j/\(4<=h.st j->4294967296<=h.cv j 1)):WA t n k m q σ' { h with ZL:=p,ma:=c } (fun _=>.nil):=by
 have s3:∀ j,j<h.J->3<=h.st j:=fun j hj=>by
  refine Classical.byContradiction fun hh=>?_
  obtain⟨α,e,-⟩:=M.bz j hj (by omega)
  rw[hn] at e;cases e
 refine⟨⟨fun j hj=>?_,M.g.hn,M.g.fr,M.g.fw,M.g.sn,M.g.gb,M.g.lv,M.g.us,M.g.ins,M.g.nz,M.g.wd⟩,fun _=>trivial,(fun K K' j α α' e=>by cases e),fun j hj h2=>?_,?_⟩
 . have N:=M.g.nk j hj
   refine⟨N.ik,N.ex,N.ck,N.ow,N.xn,N.g1,N.g4,N.g5,fun h1=>?_,N.s2,N.w3,N.w4,N.hw,N.cw,N.z3,N.z5,N.z2,N.vl,pf j hj,N.s6⟩
   have h1':h.st j<=1:=h1
   have:=s3 j hj
   omega
 . have h2':h.st j<=2:=h2
   have:=s3 j hj
   omega
 . have:=M.sum
   rw[Xn (f:=fun K=>(jb K).g) (g:=fun _=>(Jb.nil).g) (fun K _=>by rw[hn])]
   exact this
theorem Bl.kept (A:Bl h p hd F S) (J:h.J<=h'.J) (e:∀ j,p j=true->h'.nd j=h.nd j/\h'.st j=h.st j/\h'.cv j=h.cv j):Bl h' p hd F S:=by
 obtain⟨l1,l2⟩:=A.l.FO (zg:=h'.ky hd) (lk':=h'.lk) (H':=h'.H) (fun j hj=>by
  obtain⟨e1,-,e3⟩:=e j hj
  exact⟨by unfold Gh.ky;rw[e3],by unfold Gh.lk;rw[e3],by unfold Gh.H;rw[e1]⟩)
 exact⟨l1,fun x hx=>(A.S x hx).trans (l2 x).symm,fun j hj=>(e j (A.l.pb j hj)).2.1.trans (A.f3 j hj),fun j hj=>Nat.lt_of_lt_of_le (A.pJ j hj) J,fun j hj hne=>by rw[(e j hj).2.2];exact A.kp j hj hne,fun j hj=>by rw[(e j hj).2.1,(e j hj).2.2];exact A.pf j hj⟩
theorem Bl.lw (A:Bl h p hd F S):Lw (h.view p) hd σ F (hi1 S) :=
 ⟨A.l,A.S,A.f3,A.pJ,(fun c K e=>by cases e),A.kp,fun _ _=>rfl,fun _ _ _ _ _=>Iff.rfl,(fun s key b _ e=>by cases e)⟩
theorem Lc.nV {u:Hi} {ts:Nat->Option (Cl × Option Rs)} (X:Lc t n k m q σ h jb hd F u ts):Bl h h.ZL hd F (u.S σ) :=
 ⟨X.l.l,X.l.S,X.l.f3,X.l.pJ,X.l.kp,fun j hj=>(X.m.g.nk j (X.l.pJ j hj)).pf hj⟩
end
structure O9 (t n k:Nat) (L:Loc) (K Jm J:Nat) (w:World) (s:Mm) (σ:Nat) (q:Q) (pv:Nat->Int) (h:Gh) (N:Nat) (hd:Nat->Nat) (P:Nat->Nat->Bool) (F:Nat->List Nat) (S:Nat->Int->Prop):Prop where
 mm:Z7 w L s
 vl:XF t n k 40 s σ q pv
 nU:∀ K',pv K'=0
 m:WA t n k 40 q σ h (fun _=>.nil)
 ls:∀ i,i<N->Bl h (P i) (hd i) (F i) (S i)
 dj:∀ i i' j,i<N->i'<N->i≠i'->P i j=true->P i' j=false
 room:Roomy k K Jm q h (fun _=>.nil)
 hJ:h.J<=J
section
variable {t n k K Jm J J':Nat} {L:Loc} {w w':World} {s s':Mm} {σ σ':Nat} {q q':Q} {pv pv':Nat->Int} {h h':Gh} {N i:Nat} {hd:Nat->Nat} {P:Nat->Nat->Bool} {F:Nat->List Nat} {S:Nat->Int->Prop} {CY:Nat->Jb} {F':List Nat} {u':Hi} {ts':Nat->Option (Cl × Option Rs)}
theorem O9.rest (A:O9 t n k L K Jm J w s σ q pv h N hd P F S) (hi:i<N):Rest t n k L K Jm J w s σ q pv (h.view (P i)) (fun _=>.nil) (hd i) (F i) (hi1 (S i)) (fun _=>none) :=
 ⟨A.mm,A.vl,⟨A.m.look (fun _=>rfl) _ _ (fun j _ hj=>(A.ls i hi).pf j hj),(A.ls i hi).lw,(fun K C r e=>by cases e),fun _ _=>rfl⟩,A.room.same rfl rfl (fun _=>rfl),A.hJ,fun K'=>⟨rfl,rfl,A.nU K'⟩⟩
theorem O9.back (A:O9 t n k L K Jm J w s σ q pv h N hd P F S) (hi:i<N) (hK:K≠3) (R:Rest t n k L K Jm J' w' s' σ' q' pv' h' CY (hd i) F' u' ts') (kp:Oi (h.view (P i)) h' K):O9 t n k L K Jm J' w' s' σ' q' pv' h' N hd (upd P i h'.ZL) (upd F i F') (upd S i (u'.S σ')):=by
 have hn:=fun K'=>(R.al K').1
 have Qd:∀ i',i'<N->i'≠i->∀ j,P i' j=true->h'.ZL j=false/\h'.st j=h.st j/\h'.cv j=h.cv j/\h'.nd j=h.nd j:=fun i' hi' ne j hj=>by
  have hJ:=(A.ls i' hi').pJ j hj
  have hp:=A.dj i' i j hi' hi ne hj
  obtain⟨a1,a2,a3⟩:=kp.no j hJ hp (by show (if P i j=true then 0 else 3)≠K;rw[hp];simp;omega)
  exact⟨a1,a2,a3,kp.nd j hJ⟩
 refine⟨R.mm,R.vl,fun K'=>(R.al K').2.2,R.lc.m.look hn h'.ZL h'.ma (fun j hj hp=>(R.lc.m.g.nk j hj).pf hp),fun i' hi'=>?_,fun a b j ha hb hne=>?_,R.room.same rfl rfl (fun K'=>by rw[hn]),R.hJ⟩
 . by_cases e:i'=i
   . subst e
     rw[upd_same,upd_same,upd_same];exact R.lc.nV
   . rw[Z8 _ _ _ _ e,Z8 _ _ _ _ e,Z8 _ _ _ _ e]
     exact(A.ls i' hi').kept kp.J (fun j hj=>⟨(Qd i' hi' e j hj).2.2.2,(Qd i' hi' e j hj).2.1,(Qd i' hi' e j hj).2.2.1⟩)
 . by_cases e1:a=i
   . subst e1
     have e2:b≠a:=fun e=>hne e.symm
     rw[upd_same,Z8 _ _ _ _ e2]
     intro hj
     cases hb':P b j with
     | false=>rfl
     | true=>rw[(Qd b hb e2 j hb').1] at hj;cases hj
   . rw[Z8 _ _ _ _ e1]
     intro hj
     by_cases e2:b=i
     . subst e2;rw[upd_same];exact(Qd a ha e1 j hj).1
     . rw[Z8 _ _ _ _ e2];exact A.dj a b j ha hb hne hj
theorem O9.heads (A:O9 t n k L K Jm J w s σ q pv h N hd P F S) {a:Nat} (ha:a<N) (kp:Oi (h.view (P i)) h' K):h'.H (hd a)=h.H (hd a):=by
 have hp:P a (hd a)=true:=(A.ls a ha).l.pb (hd a) (by obtain⟨D,e⟩:=(A.ls a ha).l.hf;rw[e];exact List.mem_cons_self)
 unfold Gh.H
 rw[kp.nd _ ((A.ls a ha).pJ _ hp)];rfl
end
end
end Go.Proofs.YtibmjlefcaonnaaGreat
