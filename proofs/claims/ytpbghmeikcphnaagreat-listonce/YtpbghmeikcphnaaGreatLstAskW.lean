import Derived.Test.YtpbghmeikcphnaaGreatLstOnc
import Derived.Test.YtpbghmeikcphnaaGreatLstTidy
namespace Go.Proofs.YtpbghmeikcphnaaGreat
open Go.RowKit
section
@[reducible] def KC (t n k m:Nat) (g p r:Int) (P:Nat) (K:Nat):Value:=(eV t n k m g p r P K)
theorem Yr.blt {t n k m:Nat} {w:World} {L:Loc} {B:Bk} {σ0:Nat} {A:As} (h:Yr t n k m w L B σ0 A) (hp:A.ph<=2):∀ x,B.has x->x<w.heap.size:=fun x hx=>by
 obtain⟨c,ka⟩:=h.at_.a
 obtain⟨c',kl⟩:=h.at_.l
 obtain⟨c'',ki⟩:=h.pin hp
 rcases hx with rfl | rfl | rfl | rfl
 . exact ka.lt
 . exact kl.lt
 . exact ki.lt
 . exact h.dw.lt
structure zC (t n k m:Nat) (g:Int) (L:Loc) (B:Bk) (σ0 σ:Nat) (q:Q) (h:Gh) (jb:Nat->Jb) (hd:Nat) (F:List Nat) (u:Hi) (ts:Nat->Option (Cl × Option Rs)) (K:Nat) (C:Cl) (rs:Option Rs) (S:Lr) (b ph:Nat) (pn:Nat->Int) (w0 w6:World) (s':Mm) (h':Gh) (q':Q) (u':Hi) (F':List Nat) (C1:Cl) (r1:Option Rs) (b1:Jb) (YT:Nat->Int) (Yk:Nat) (δ1:Dw):Prop where
 mm:Z5 w6 L s'
 vl:VC t n k m s' (σ+1) q' YT
 th:Yr t n k m w6 L B σ0 ⟨σ+1,q',YT,Yk,δ1⟩
 on:Only (LB L B) w0 w6
 lc:Lc t n k m q' (σ+1) h' (upd jb K b1) hd F' u' (upd ts K (some (C1,r1)))
 sg:Oo h' b1 r1 Yk δ1
 dc:δ1.c=C1.po.c
 go:UE t n k m g h σ q u F K C rs (jb K) h' q' u' F' C1 r1 b1 (decide (ph≠3))
 pn:(YT=pn/\ph≠1/\ph≠4)\/(YT=upd pn K 1/\ph=1)\/(YT=upd pn K 0/\ph=4)
 la:ph≠3->s'.la<6+t
 q1:ph<3->Yk=ph+1
 q2:ph=3->Yk=if r1=none then 3 else 4
 q3:ph=4->Yk=5
 lr:ZH w6 b (pP B.A 0) S
 is:XL h' hd C1 r1 S
 bd:C1.bd h'.J hd
section
variable {t n k m σ K:Nat} {q:Q} {h:Gh} {jb:Nat->Jb} {hd:Nat} {F:List Nat} {u:Hi} {ts:Nat->Option (Cl × Option Rs)} {g p r:Int} {C C':Cl} {rs:Option Rs} {R:Rs} {S:Lr} {w:World} {L:Loc} {s:Mm} {pn:Nat->Int} {b ph:Nat} {a:Option Rn} {B:Bk} {σ0:Nat} {δ:Dw} {H V St:Int}
theorem MR.n13 {po:Po} (ip:MR h C S po) (ho:∀ E v st,po≠.over E v st):S.nx≠13:=by
 cases po with
 | over E v st=>exact absurd rfl (ho E v st)
 | _=>have:=ip.1;omega
theorem KE.zB {bj:Jb} (T:KE h hd σ u K C rs bj):∀ E v st,C.po≠.over E v st:=fun E v st e=>by
 cases rs with
 | none=>have:=(T.run rfl).2.1;rw[e] at this;exact this
 | some r0=>have:=(T.told r0 rfl).2;rw[e] at this;exact this
theorem Ej {r':Rs} (hc:δ.c=C.po.c) (hh:(∃ W x g,δ=.ac W true x g (.over r'.E r'.V r'.St))/\H=0/\V=r'.V/\St=(r'.St:Int)\/δ=.al 2 true 0 (.over r'.E r'.V r'.St)/\H=r'.V/\V=0/\St=(r'.St:Int)\/(∃ nu x g,δ=.dp nu true x g (.over 0))/\H=0/\V=0):PU C r' H V St:=by
 unfold PU
 revert hc
 rcases hh with⟨⟨W,x,g,e⟩,-,h2,h3⟩ | ⟨e,h2,-,h3⟩ | ⟨⟨nu,x,g,e⟩,-,-⟩ <;> rw[e] <;> intro hc
 . have hc:2=C.po.c:=hc
   revert hc
   cases C.po with
   | make=>intro hc;exact absurd hc (by simp[Po.c])
   | drop=>exact fun _=>trivial
   | Zz=>exact fun _=>trivial
   | Zu=>exact fun _=>trivial
   | _=>exact fun _=>⟨h2,h3⟩
 . have hc:0=C.po.c:=hc
   revert hc
   cases C.po with
   | make=>exact fun _=>⟨h2,h3⟩
   | drop=>exact fun _=>trivial
   | Zz=>exact fun _=>trivial
   | Zu=>exact fun _=>trivial
   | _=>intro hc;exact absurd hc (by simp[Po.c])
 . have hc:1=C.po.c:=hc
   revert hc
   cases C.po with
   | drop=>exact fun _=>trivial
   | Zz=>exact fun _=>trivial
   | Zu=>exact fun _=>trivial
   | _=>intro hc;exact absurd hc (by simp[Po.c])
theorem MJ (a:WS h hd σ u K C C.po R) (I:XL h hd C (some R) S) (hT:PU C R H V St) (hc:S.nx=0\/S.nx=1) (hE:R.E=0):0<=V/\V<8589934592:=by
 have key:=WS.AQ a I hc hE
 have ip:=I.po
 unfold PU at hT
 revert hT ip
 cases C.po with
 | first=>intro hT _;rw[hT.1];exact key
 | link=>intro hT _;rw[hT.1];exact key
 | make=>intro _ ip;have:=ip.1;omega
 | drop=>intro _ ip;have:=ip.1;omega
 | Zz=>intro _ ip;have:=ip.1;omega
 | Zu=>intro _ ip;have:=ip.1;omega
 | past=>intro _ ip;have:=ip.1;omega
 | key=>intro _ ip;have:=ip.1;omega
 | wkey=>intro _ ip;have:=ip.1;omega
 | Y3=>intro _ ip;have:=ip.1;omega
 | put=>intro _ ip;have:=ip.1;omega
 | mark=>intro _ ip;have:=ip.1;omega
 | lead=>intro _ ip;have:=ip.1;omega
 | over=>intro _ ip;have:=ip.1;omega
theorem Lc.core (X:Lc t n k m q σ h jb hd F u ts) (hm:Z5 w L s) (hV:VC t n k m s σ q pn) (hG:Good t n k m g p r) (hn:n<=65535) (hJ:h.J<=60000) (hcg:(h.J:Int)+2<=g) (hσ:σ<1000000) (hK4:K<4) (hKt:K<t) (hts:ts K=some (C,rs)) (lr:ZH w b (pP B.A 0) S) (ok:S.ok) (I:XL h hd C rs S) (bd:C.bd h.J hd) (nb:¬ L.has b) (p4:ph<=4) (th:Yr t n k m w L B σ0 ⟨σ,q,pn,ph,δ⟩) (sg:Oo h (jb K) rs ph δ) (nB:¬ B.has b) (dc:δ.c=C.po.c) :
 (∀ w1,Below w.heap.size w w1->Calls Tryz.prog 33 #[pP B.A 0,KC t n k m g p r L.p K] w1 fun e w'=>∃ d,e=.returned (.bool d)/\ZH w' b (pP B.A 0) S/\∃ s' h' q' u' F' C1 r1 b1 YT Yk δ1,d=(Yk == 5)/\zC t n k m g L B σ0 σ q h jb hd F u ts K C rs S b ph pn w w' s' h' q' u' F' C1 r1 b1 YT Yk δ1)
/\(∀ w6,(∃ s' h' q' u' F' C1 r1 b1 YT Yk δ1,true=(Yk == 5)/\zC t n k m g L B σ0 σ q h jb hd F u ts K C rs S b ph pn w w6 s' h' q' u' F' C1 r1 b1 YT Yk δ1)->∀ w1,Below w6.heap.size w6 w1->Calls Tryz.prog 34 #[pP B.A 0] w1 fun e w'=>∃ E H V St,e=.returned (.agg #[iV E,.int .u64 H,iV V,iV St])/\Below w1.heap.size w1 w'/\∃ s' h' q' u' F' C1 R b1 YT δ1,zC t n k m g L B σ0 σ q h jb hd F u ts K C rs S b ph pn w w6 s' h' q' u' F' C1 (some R) b1 YT 5 δ1/\E=R.E/\PU C1 R H V St)
/\(∀ E H V St w6,(∃ s' h' q' u' F' C1 R b1 YT δ1,zC t n k m g L B σ0 σ q h jb hd F u ts K C rs S b ph pn w w6 s' h' q' u' F' C1 (some R) b1 YT 5 δ1/\E=R.E/\PU C1 R H V St)->∀ w1,ZH w1 b (.pointer none) S->Calls Tryz.prog 35 #[pP b 0,.agg #[iV E,.int .u64 H,iV V,iV St]] w1 fun e w'=>e=.returned (.tuple #[])/\ZH w' b (.pointer none) (S.go E H V St)/\Only (B1 b) w1 w'):=by
 refine⟨fun w1 g1=>?_,?_,?_⟩
 . refine(X.AP (hm.below g1) hV hG hn hJ hcg hσ hK4 hKt hts sg (by omega) (th.grown g1)).mono ?_
   rintro e w' ⟨s',h',q',u',F',C1,r1,b1,YT,Yk,δ1,rfl,m',v',LG,o',X',tH,dc',go,jE,la,-,q3,q1,q2⟩
   have qW:=(lr.grown g1).only o' (fun hh=>hh.elim nb nB)
   obtain⟨I',jD⟩:=I.go1 bd go
   exact⟨_,rfl,qW,s',h',q',u',F',C1,r1,b1,YT,Yk,δ1,rfl,m',v',LG,(Only.ZZ g1).trans o',X',tH,by rw[dc',dc,go.same.1],go,jE,la,q1,q2,q3,qW,I',jD⟩
 . rintro w6 ⟨s',h',q',u',F',C1,r1,b1,YT,Yk,δ1,e5,A⟩ w1 g1
   have e5:Yk=5:=by simpa using e5.symm
   subst e5
   obtain⟨R,hr⟩:∃ R,r1=some R:=by
    rcases A.sg with⟨-,h3,-⟩ | ⟨R,hr,-⟩
    . omega
    . exact⟨R,hr⟩
   subst hr
   obtain⟨H,V,St,hh,hc⟩:=Ei A.th A.sg
   refine(hc w1 g1).mono ?_
   rintro e w' ⟨rfl,g2⟩
   exact⟨_,_,_,_,rfl,g2,s',h',q',u',F',C1,R,b1,YT,δ1,A,rfl,Ej A.dc hh⟩
 . rintro E H V St w6 ⟨s',h',q',u',F',C1,R,b1,YT,δ1,A,rfl,hT⟩ w1 lr1
   have T:=A.lc.t K C1 _ (upd_same _ _ _)
   exact Eh lr1 _ _ _ _ ok (A.is.po.n13 T.zB) (fun hc hE=>MJ (T.told R rfl).2 A.is hT hc hE)
structure Stp (t n k m:Nat) (g:Int) (L:Loc) (σ:Nat) (q:Q) (h:Gh) (jb:Nat->Jb) (hd:Nat) (F:List Nat) (u:Hi) (ts:Nat->Option (Cl × Option Rs)) (K:Nat) (C:Cl) (rs:Option Rs) (b:Nat) (a:Option Rn) (ph:Nat) (pn:Nat->Int) (w w':World) (s':Mm) (h':Gh) (q':Q) (u':Hi) (F':List Nat) (C1:Cl) (r1:Option Rs) (b1:Jb) (YT:Nat->Int) (Yk:Nat):Prop where
 mm:Z5 w' L s'
 vl:VC t n k m s' (σ+1) q' YT
 on:Only (fun x=>L.has x\/UC b a x) w w'
 lc:Lc t n k m q' (σ+1) h' (upd jb K b1) hd F' u' (upd ts K (some (C1,r1)))
 go:UE t n k m g h σ q u F K C rs (jb K) h' q' u' F' C1 r1 b1 (decide (ph≠3))
 pn:(YT=pn/\ph≠1/\ph≠4)\/(YT=upd pn K 1/\ph=1)\/(YT=upd pn K 0/\ph=4)
 la:ph≠3->s'.la<6+t
 q1:ph<3->Yk=ph+1
 q2:ph=3->Yk=if r1=none then 3 else 4
 q3:ph=4->Yk=5
def Eg (t n k m:Nat) (L:Loc) (σ:Nat) (jb:Nat->Jb) (hd:Nat) (ts:Nat->Option (Cl × Option Rs)) (K:Nat) (S:Lr) (b:Nat) (a:Option Rn) (w:World) (e:Ending) (w':World) (h':Gh) (q':Q) (u':Hi) (F':List Nat) (C1:Cl) (r1:Option Rs) (b1:Jb) (YT:Nat->Int) (Yk:Nat):Prop :=
 (Yk≠5/\e=.returned (.bool false)/\∃ a',Cal t n k m w' L (σ+1) q' YT h' hd K b1 C1 r1 S b (some a') Yk/\∀ x,a'.B.has x->UC b a x\/(w.heap.size<=x/\x<w'.heap.size))
\/(Yk=5/\YT K=0/\∃ R S2 C2,r1=some R/\FT h' hd C1 R C2 C1.po/\ZH w' b (.pointer none) S2/\XL h' hd C2 none S2/\((∃ E v st,C2.po=.over E v st/\Qy (σ+1) u' C1 R E v st/\e=.returned (.bool true))\/(Rt h' hd (σ+1) u' K C1 C2 R/\(∀ E v st,C2.po≠.over E v st)/\e=.returned (.bool false)/\Lc t n k m q' (σ+1) h' (upd jb K (C2.YF h' hd)) hd F' u' (upd ts K (some (C2,none)))/\Cal t n k m w' L (σ+1) q' YT h' hd K (C2.YF h' hd) C2 none S2 b none 0)))
theorem Lc.last (hG:Good t n k m g p r) (hn:n<=65535) (hJ:h.J+1<=60000) (hK4:K<4) (ok:S.ok) (nb:¬ L.has b) (pk:pn K=if ph<=1 then 0 else 1) (p4:ph<=4) (nB:¬ B.has b) (jC:∀ x,x<w.heap.size->B.has x->UC b a x) {w0:World} (ow:Only (fun x=>L.has x\/UC b a x) w w0) (rD:(∀ x,B.has x->UC b a x)\/(ph=0/\∀ x,B.has x->w.heap.size<=x))
 {e:Ending} {w':World} (O:Oq (fun d w6=>∃ s' h' q' u' F' C1 r1 b1 YT Yk δ1,d=(Yk == 5)/\zC t n k m g L B σ0 σ q h jb hd F u ts K C rs S b ph pn w0 w6 s' h' q' u' F' C1 r1 b1 YT Yk δ1) (fun w6 E H V St=>∃ s' h' q' u' F' C1 R b1 YT δ1,zC t n k m g L B σ0 σ q h jb hd F u ts K C rs S b ph pn w0 w6 s' h' q' u' F' C1 (some R) b1 YT 5 δ1/\E=R.E/\PU C1 R H V St) b S e w') :
 ∃ s' h' q' u' F' C1 r1 b1 YT Yk,Stp t n k m g L σ q h jb hd F u ts K C rs b a ph pn w w' s' h' q' u' F' C1 r1 b1 YT Yk/\Eg t n k m L σ jb hd ts K S b a w e w' h' q' u' F' C1 r1 b1 YT Yk:=by
 have AO:∀ {w6},Only (LB L B) w0 w6->Only (fun x=>L.has x\/UC b a x) w w6:=fun o=>by
  refine⟨o.os.trans ow.os,o.tape.trans ow.tape,o.output.trans ow.output,Nat.le_trans ow.size o.size,fun i hi hs=>?_⟩
  exact(o.block i (Nat.lt_of_lt_of_le hi ow.size) (fun hh=>hs (hh.elim Or.inl (fun hb=>Or.inr (jC i hi hb))))).trans (ow.block i hi hs)
 have p0:∀ {Yk:Nat} {YT:Nat->Int} {r1:Option Rs},((YT=pn/\ph≠1/\ph≠4)\/(YT=upd pn K 1/\ph=1)\/(YT=upd pn K 0/\ph=4))->(ph<3->Yk=ph+1)->(ph=3->Yk=if r1=none then 3 else 4)->(ph=4->Yk=5)->(Yk≠5->(YT K=if Yk<=1 then 0 else 1)/\Yk<=4)/\(Yk=5->YT K=0):=fun {Yk YT r1} hp q1 q2 q3=>by
  have jB:ph=3->Yk=3\/Yk=4:=fun e=>by
   rw[q2 e];split
   . exact Or.inl rfl
   . exact Or.inr rfl
  rcases hp with⟨e,n1,n4⟩ | ⟨e,e1⟩ | ⟨e,e4⟩
  . by_cases h0:ph=0
    . have:=q1 (by omega)
      rw[if_pos (by omega)] at pk
      exact⟨fun _=>⟨by rw[e,pk,if_pos (by omega)],by omega⟩,fun h=>by omega⟩
    . rw[if_neg (by omega)] at pk
      by_cases h2:ph=2
      . have:=q1 (by omega)
        exact⟨fun _=>⟨by rw[e,pk,if_neg (by omega)],by omega⟩,fun h=>by omega⟩
      . have:=jB (by omega)
        exact⟨fun _=>⟨by rw[e,pk,if_neg (by omega)],by omega⟩,fun h=>by omega⟩
  . have:=q1 (by omega)
    exact⟨fun _=>⟨by rw[e,upd_same,if_neg (by omega)],by omega⟩,fun h=>by omega⟩
  . have:=q3 e4
    exact⟨fun h=>absurd this h,fun _=>by rw[e,upd_same]⟩
 obtain⟨d,w6,hz,hh⟩:=O
 rcases hh with⟨rfl,rfl,rfl⟩ | ⟨rfl,E,H,V,St,hy,rfl,lr2,o2⟩
 . obtain⟨s',h',q',u',F',C1,r1,b1,YT,Yk,δ1,e5,A⟩:=hz
   have e5:Yk≠5:=by simpa using e5.symm
   refine⟨s',h',q',u',F',C1,r1,b1,YT,Yk,⟨A.mm,A.vl,AO A.on,A.lc,A.go,A.pn,A.la,A.q1,A.q2,A.q3⟩,Or.inl ⟨e5,rfl,⟨B,δ1,σ0⟩,⟨A.lr,ok,A.is,A.bd,nb,?_,?_,(fun e=>by cases e),fun R e=>?_⟩,fun x hx=>?_⟩⟩
   . exact((p0 A.pn A.q1 A.q2 A.q3).1 e5).1
   . exact((p0 A.pn A.q1 A.q2 A.q3).1 e5).2
   . injection e with e;subst e;exact⟨A.th,A.sg,nB,A.dc⟩
   . rcases rD with h | ⟨h0,h⟩
     . exact Or.inl (h x hx)
     . exact Or.inr ⟨h x hx,A.th.blt (by have:=A.q1 (by omega);show Yk<=2;omega) x hx⟩
 . obtain⟨s',h',q',u',F',C1,R,b1,YT,δ1,A,rfl,hT⟩:=hy
   have hJ':h'.J<=60000:=Nat.le_trans A.go.J hJ
   have T:=A.lc.t K C1 _ (upd_same _ _ _)
   obtain⟨C2,N,I2⟩:=A.lc.jA hG hn hJ' (upd_same _ _ _) A.is hT
   refine⟨s',h',q',u',F',C1,some R,b1,YT,5,⟨A.mm.only o2 (fun x hx e=>nb (by rw[<- show x=b from e];exact hx)),A.vl,(AO A.on).trans (o2.mono fun x _ hx=>Or.inr (Or.inl hx)),A.lc,A.go,A.pn,A.la,A.q1,A.q2,A.q3⟩,Or.inr ⟨rfl,?_,R,_,C2,rfl,N,lr2,I2,?_⟩⟩
   . exact(p0 A.pn A.q1 A.q2 A.q3).2 rfl
   . rcases A.lc.going hG hn hJ' (upd_same _ _ _) A.is N with⟨E,v,st,e1,e2⟩ | ⟨ho,G⟩
     . refine Or.inl ⟨E,v,st,e1,e2,?_⟩
       have ip:=I2.po
       rw[e1] at ip
       rw[ip.1];rfl
     . have X2:=A.lc.next hG hn hJ' hK4 (upd_same _ _ _) N.same ho G
       rw[XI,XI] at X2
       refine Or.inr ⟨G,ho,?_,X2,⟨lr2,ok.go (fun hc hE=>MJ (T.told R rfl).2 A.is hT hc hE),I2,G.bd A.lc,nb,?_,Nat.zero_le _,fun _=>⟨rfl,rfl,rfl⟩,fun R e=>by cases e⟩⟩
       . have:=I2.po.n13 ho
         rw[show ((S.go R.E H V St).nx == 13)=false by simpa using this]
       . exact((p0 A.pn A.q1 A.q2 A.q3).2 rfl)
theorem Lc.zG (X:Lc t n k m q σ h jb hd F u ts) (hm:Z5 w L s) (hV:VC t n k m s σ q pn) (hG:Good t n k m g p r) (hn:n<=65535) (hJ:h.J+1<=60000) (hcg:(h.J:Int)+2<=g) (hσ:σ<1000000) (hK4:K<4) (hKt:K<t) (hts:ts K=some (C,rs)) (hc:Cal t n k m w L σ q pn h hd K (jb K) C rs S b a ph) :
 Calls Tryz.prog 15 #[pP b 0,KC t n k m g p r L.p K] w fun e w'=>∃ s' h' q' u' F' C1 r1 b1 YT Yk,Stp t n k m g L σ q h jb hd F u ts K C rs b a ph pn w w' s' h' q' u' F' C1 r1 b1 YT Yk/\Eg t n k m L σ jb hd ts K S b a w e w' h' q' u' F' C1 r1 b1 YT Yk:=by
 have T:=X.t K C _ hts
 have k0:S.kd≠0:=by rw[hc.is.kd];have:=hc.is.k13;omega
 have hnx:S.nx≠13:=hc.is.po.n13 T.zB
 cases a with
 | some A =>
  obtain⟨th,sg,nB,dc⟩:=hc.th A rfl
  obtain⟨hS,hD,hO⟩:=X.core (s:=s) hm hV hG hn (by omega) hcg hσ hK4 hKt hts hc.lr hc.ok hc.is hc.bd hc.nb hc.p4 th sg nB dc
  refine(GY (P:=L.p) t n k m g p r K hc.lr k0 hnx _ _ hS hD (fun E H V St w6 _=>hO E H V St w6)).mono ?_
  intro e w' O
  exact Lc.last hG hn hJ hK4 hc.ok hc.nb hc.pk hc.p4 nB (fun x _ hx=>Or.inr ⟨A,rfl,hx⟩) (Only.refl _ _) (Or.inl (fun x hx=>Or.inr ⟨A,rfl,hx⟩)) O
 | none =>
  obtain⟨e0,er,ej⟩:=hc.no rfl
  subst e0 er
  obtain⟨may,st,nn,dc,m0,m1,-⟩:=X.wants hG hn (by omega) hts ej hc.is
  have hb:=hc.lr.lt
  have tC:∀ (B:Bk) (w2:World),(∀ y,B.has y->w.heap.size<=y)->Yr t n k m w2 L B σ ⟨σ,q,pn,0,(jb K).dw h⟩->Oo h (jb K) none 0 ((jb K).dw h)->Below w.heap.size w w2->¬ B.has b/\Only (fun x=>L.has x\/UC b none x) w (w2.setCell ⟨b,4,none⟩ (pP B.A 0))/\_:=fun B w2 b2 b3 b4 b5=>by
   have nB:¬ B.has b:=fun hx=>by have:=b2 b hx;omega
   have o2:Only (B1 b) w2 (w2.setCell ⟨b,4,none⟩ (pP B.A 0)):=Zx (Only.refl _ _) _ _
   have lr2:ZH (w2.setCell ⟨b,4,none⟩ (pP B.A 0)) b (pP B.A 0) S:=by
    obtain⟨c,hl⟩:=hc.lr.grown b5
    exact⟨_,hl.ZO 4 _⟩
   exact⟨nB,(Only.ZZ b5).trans (o2.mono fun x _ hx=>Or.inr (Or.inl hx)),X.core (s:=s) ((hm.below b5).ZX hc.nb _ _) hV hG hn (by omega) hcg hσ hK4 hKt hts lr2 hc.ok hc.is hc.bd hc.nb hc.p4 (b3.only o2 (fun x hx e=>nB (by rw[<- show x=b from e];exact hx))) b4 nB dc⟩
  refine(GX (P:=L.p) t n k m g p r K hc.lr k0 hnx (fun A w2=>∃ B:Bk,A=B.A/\(∀ y,B.has y->w.heap.size<=y)/\Yr t n k m w2 L B σ ⟨σ,q,pn,0,(jb K).dw h⟩/\Oo h (jb K) none 0 ((jb K).dw h)/\Below w.heap.size w w2) (fun A w2 d w6=>∃ B:Bk,A=B.A/\(∀ y,B.has y->w.heap.size<=y)/\Yr t n k m w2 L B σ ⟨σ,q,pn,0,(jb K).dw h⟩/\Oo h (jb K) none 0 ((jb K).dw h)/\Below w.heap.size w w2/\∃ s' h' q' u' F' C1 r1 b1 YT Yk δ1,d=(Yk == 5)/\zC t n k m g L B σ σ q h jb hd F u ts K C none S b 0 pn (w2.setCell ⟨b,4,none⟩ (pP B.A 0)) w6 s' h' q' u' F' C1 r1 b1 YT Yk δ1) (fun A w2 w6 E H V St=>∃ B:Bk,A=B.A/\(∀ y,B.has y->w.heap.size<=y)/\Yr t n k m w2 L B σ ⟨σ,q,pn,0,(jb K).dw h⟩/\Oo h (jb K) none 0 ((jb K).dw h)/\Below w.heap.size w w2/\∃ s' h' q' u' F' C1 R b1 YT δ1,zC t n k m g L B σ σ q h jb hd F u ts K C none S b 0 pn (w2.setCell ⟨b,4,none⟩ (pP B.A 0)) w6 s' h' q' u' F' C1 (some R) b1 YT 5 δ1/\E=R.E/\PU C1 R H V St) (fun w1 g1=>?_) ?_).mono ?_
  . refine(J7 (hc.lr.grown g1) hc.ok hnx m0 m1 (fun A w2 w'=>∃ B:Bk,A=B.A/\(∀ y,B.has y->w2.heap.size<=y)/\Yr t n k m w' L B σ ⟨σ,q,pn,0,(jb K).dw h⟩/\Oo h (jb K) none 0 ((jb K).dw h)/\Below w2.heap.size w2 w') (fun w2 g2=>?_)).mono ?_
    . refine(xA (t:=t) (k:=k) (m:=m) (σ:=σ) (q:=q) (hm.below (grow g1 g2)) may st nn pn).mono ?_
      rintro e w' ⟨B,rfl,b1,b2,b3,b4⟩
      exact⟨B.A,rfl,B,rfl,b2,b3,b4,b1⟩
    . rintro e w' ⟨A,w2,rfl,g2,B,rfl,b2,b3,b4,b5⟩
      exact⟨_,rfl,grow g2 b5,B,rfl,fun y hy=>Nat.le_trans (grow g1 g2).size (b2 y hy),b3,b4,grow g1 (grow g2 b5)⟩
  . rintro A w2 ⟨B,rfl,b2,b3,b4,b5⟩
    obtain⟨nB,oW,hS,-,-⟩:=tC B w2 b2 b3 b4 b5
    refine⟨fun w1 g1=>(hS w1 g1).mono ?_,?_,?_⟩
    . rintro e w' ⟨d,rfl,qW,z⟩
      exact⟨d,rfl,qW,B,rfl,b2,b3,b4,b5,z⟩
    . rintro w6 ⟨B',eB,c2,c3,c4,c5,z⟩ w1 g1
      obtain⟨-,-,-,hD,-⟩:=tC B' w2 c2 c3 c4 c5
      rw[eB]
      refine(hD w6 z w1 g1).mono ?_
      rintro e w' ⟨E,H,V,St,rfl,g2,y⟩
      exact⟨E,H,V,St,rfl,g2,B',rfl,c2,c3,c4,c5,y⟩
    . rintro E H V St w6 - ⟨B',eB,c2,c3,c4,c5,y⟩ w1 lr1
      obtain⟨-,-,-,-,hO⟩:=tC B' w2 c2 c3 c4 c5
      exact hO E H V St w6 y w1 lr1
  . rintro e w' ⟨A,w2,-,d,w6,⟨B,eB,c2,c3,c4,c5,z⟩,hh⟩
    obtain⟨nB,oW,-⟩:=tC B w2 c2 c3 c4 c5
    rcases hh with⟨e1,e2,e3⟩ | ⟨e1,E,H,V,St,⟨B',eU,c2',c3',jy,jw,y⟩,e2,lr2,o2⟩
    . exact Lc.last hG hn hJ hK4 hc.ok hc.nb hc.pk hc.p4 nB (fun x hx hb'=>by have:=c2 x hb';omega) oW (Or.inr ⟨rfl,fun x hx=>c2 x hx⟩) ⟨d,w6,z,Or.inl ⟨e1,e2,e3⟩⟩
    . obtain⟨jv,jr,-⟩:=tC B' w2 c2' c3' jy jw
      refine Lc.last hG hn hJ hK4 hc.ok hc.nb hc.pk hc.p4 jv (fun x hx hb'=>by have:=c2' x hb';omega) jr (Or.inr ⟨rfl,fun x hx=>c2' x hx⟩) ⟨d,w6,?_,Or.inr ⟨e1,E,H,V,St,y,e2,lr2,o2⟩⟩
      obtain⟨s',h',q',u',F',C1,R,b1,YT,δ1,A1,-⟩:=y
      exact⟨s',h',q',u',F',C1,some R,b1,YT,5,δ1,by rw[e1];rfl,A1⟩
end
end
section
structure Rest (t n:Nat) (L:Loc) (K Jm J:Nat) (w:World) (s:Mm) (σ:Nat) (q:Q) (pv:Nat->Int) (h:Gh) (jb:Nat->Jb) (hd:Nat) (F:List Nat) (u:Hi) (ts:Nat->Option (Cl × Option Rs)):Prop where
 mm:Z5 w L s
 vl:VC t n 12 40 s σ q pv
 lc:Lc t n 12 40 q σ h jb hd F u ts
 nn:ts K=none
 room:Roomy K Jm q h jb
 hJ:h.J<=J
 pn:pv K=0
 td:12<Jm->Tidy h/\∀ K',jb K'=.nil/\ts K'=none/\pv K'=0
 od:Ord h hd
def Ew (t n:Nat) (L:Loc) (K Jm J:Nat) (S0:Int->Prop) (kd key H:Int) (hd b M0 σ0:Nat) (w0:World) (j:Nat) (w:World):Prop :=
 ∃ s σ q pn h jb F u ts C rs S a ph,Z5 w L s/\VC t n 12 40 s σ q pn/\Lc t n 12 40 q σ h jb hd F u ts/\ts K=some (C,rs)/\Cal t n 12 40 w L σ q pn h hd K (jb K) C rs S b a ph/\Ba K Jm (J+(if kd=2 then 1 else 0)) S0 σ q h jb hd u C rs ph/\j+CZ 12 40 (2 * 12+110) q F C rs ph (jb K)<=M0/\σ=σ0+j/\C.kd=kd/\C.k=key/\(∀ x,UC b a x->w0.heap.size<=x)/\Only L.has w0 w/\h.H hd=H/\(j=0\/s.la<6+t\/pn K=1)/\(12<Jm->RH h C rs (jb K)/\∀ K',K'≠K->jb K'=.nil/\ts K'=none/\pn K'=0)/\Ord h hd
def oV (t n:Nat) (L:Loc) (K Jm J:Nat) (S0:Int->Prop) (kd key H:Int) (hd b M0 σ0 j:Nat) (w0:World) (w:World):Prop :=
 ∃ s σ q pn h jb F u ts S E v st,Rest t n L K Jm (J+(if kd=2 then 1 else 0)) w s σ q pn h jb hd F u ts/\ZH w b (.pointer none) S/\S.kd≠0/\S.nx=13/\S.cE=E/\S.cH=0/\S.cV=v/\S.cS=(st:Nat)/\Fin1 S0 (u.S σ) kd key E v q/\σ0<σ/\σ<=σ0+M0/\Only L.has w0 w/\h.H hd=H/\s.la<6+t/\σ=σ0+j+1
section
variable {t n K Jm J:Nat} {L:Loc} {g p r:Int} {S0:Int->Prop} {kd key H:Int} {hd b M0 σ0 j:Nat} {w0 w:World}
theorem Ew.step (I:Ew t n L K Jm J S0 kd key H hd b M0 σ0 w0 j w) (hG:Good t n 12 40 g p r) (hn:n<=65535) (wE:Jm<=97) (hg:99<=g) (hK4:K<4) (hKt:K<t) (hσ:σ0+M0<1000000) (hb:w0.heap.size<=b) :
 Calls Tryz.prog 15 #[pP b 0,KC t n 12 40 g p r L.p K] w fun e w'=>(e=.returned (.bool false)/\j+1<M0/\Ew t n L K Jm J S0 kd key H hd b M0 σ0 w0 (j+1) w')\/(e=.returned (.bool true)/\oV t n L K Jm J S0 kd key H hd b M0 σ0 j w0 w'):=by
 obtain⟨s,σ,q,pn,h,jb,F,u,ts,C,rs,S,a,ph,mm,vl,X,hts,hc,A,hj,hs,ek,ey,hown,on,eH,-,td,od⟩:=I
 have hJ:h.J<=J+1:=Nat.le_trans (Nat.le_trans (Nat.le_add_right _ _) A.mj) (Nat.add_le_add_left (by split <;> decide) _)
 have hjm:=A.jm
 have jZ:h.J<=Jm:=Nat.le_trans (Nat.le_trans (Nat.le_add_right _ _) A.mj) A.jm
 refine(X.zG mm vl hG hn (by omega) (by omega) (by omega) hK4 hKt hts hc).mono ?_
 rintro e w' ⟨s',h',q',u',F',C1,r1,b1,YT,Yk,P,O⟩
 have h5:ph≠5:=by have:=hc.p4;omega
 obtain⟨A1,rk⟩:=A.go X P.lc hG hn (by omega) hK4 (by omega) hts h5 (by have:=hc.p4;omega) P.go P.q1 P.q2 P.q3
 have on':Only L.has w0 w':=by
  refine on.grow P.on (fun i hi hh=>hh.elim id (fun ho=>?_))
  have:=hown i ho
  omega
 have sm:=P.go.same
 have oU:h'.H hd=H:=(UD P.go.nd.2 hc.bd.h).trans eH
 have lk:ph≠3\/YT K=1:=by
  by_cases h3:ph=3
  . rcases P.pn with⟨e,-⟩ | ⟨-,e⟩ | ⟨-,e⟩
    . exact Or.inr (by rw[e,hc.pk,if_neg (by omega)])
    . omega
    . omega
  . exact Or.inl h3
 have lk':s'.la<6+t\/YT K=1:=lk.imp P.la id
 have oQ:Ord h' hd:=od.go X hG hn (by omega) hts P.go
 have lT:12<Jm->RH h' C1 r1 b1:=fun hm=>(td hm).1.go X hG hn (by omega) hts P.go
 have qX:∀ K',K'≠K->YT K'=pn K':=fun K' hK=>by
  rcases P.pn with⟨e,-⟩ | ⟨e,-⟩ | ⟨e,-⟩
  . rw[e]
  . rw[e,Z9 _ _ _ _ hK]
  . rw[e,Z9 _ _ _ _ hK]
 have tj:∀ b x,12<Jm->∀ K',K'≠K->upd jb K b K'=.nil/\upd ts K x K'=none/\YT K'=0:=fun b x hm K' hK=>by rw[Z9 _ _ _ _ hK,Z9 _ _ _ _ hK,qX K' hK];exact(td hm).2 K' hK
 rcases O with⟨n5,e1,a',hc',hB⟩ | ⟨p5,pk,R,S2,C2,hr,N,lr2,I2,O⟩
 . subst e1
   have jY:1<=CZ 12 40 (2 * 12+110) q' F' C1 r1 Yk (upd jb K b1 K):=by
    have:1<=rem 12 40 q' Yk (upd jb K b1 K):=by
     unfold rem
     rw[if_pos (show Yk<=4 from hc'.p4)];omega
    unfold CZ
    cases r1 <;> simp only <;> omega
   refine Or.inl ⟨rfl,by omega,s',σ+1,q',YT,h',_,F',u',_,C1,r1,S,some a',Yk,P.mm,P.vl,P.lc,upd_same _ _ _,by rw[upd_same];exact hc',A1,by omega,by omega,sm.2.2.1.trans ek,sm.2.1.trans ey,fun x hx=>?_,on',oU,Or.inr lk',fun hm=>⟨by rw[upd_same];exact lT hm,tj _ _ hm⟩,oQ⟩
   rcases hx with e | ⟨R,e,hR⟩
   . rw[e];exact hb
   . injection e with e
     subst e
     rcases hB x hR with ho | ⟨hx,-⟩
     . exact hown x ho
     . exact Nat.le_trans on.size hx
 . subst hr p5
   have KA:upd ts K (some (C1,some R)) K=some (C1,some R):=upd_same _ _ _
   have T1:=P.lc.t K C1 _ KA
   have b0:b1=.nil:=by have:=(T1.told R rfl).1;rw[upd_same] at this;exact this
   have tn:12<Jm->∀ K',upd jb K b1 K'=.nil/\upd (upd ts K (some (C1,some R))) K none K'=none/\YT K'=0:=fun hm K'=>by
    by_cases hK:K'=K
    . rw[hK,upd_same,upd_same];exact⟨b0,rfl,pk⟩
    . rw[XI];exact tj _ _ hm K' hK
   have hJ':h'.J<=60000:=by have:=A1.mj;have:=A1.jm;omega
   have lQ:∀ b,12<Jm->RH h' C2 none b:=fun b hm=>(show RH h' C1 (some R) .nil from b0 ▸ lT hm).next P.lc.m.g hG hn hJ' T1.kd (A1.tY.told R rfl) N
   rcases O with⟨E,v,st,e1,e2,rfl⟩ | ⟨G,ho,rfl,X2,hc2⟩
   . refine Or.inr ⟨rfl,?_⟩
     have fin:=A1.ends P.lc KA e2
     have ip:=I2.po
     rw[e1] at ip
     obtain⟨i1,i2,i3,i4,i5⟩:=ip
     have hk:S2.kd≠0:=by have h1:=I2.kd;have h2:=I2.k13;omega
     refine⟨s',σ+1,q',YT,h',_,F',u',upd (upd ts K (some (C1,some R))) K none,S2,E,v,st,⟨P.mm,P.vl,P.lc.end_ (T1.told R rfl).1,upd_same _ _ _,A1.room,Nat.le_trans (Nat.le_add_right _ _) A1.mj,pk,fun hm=>⟨(lQ .nil hm).tidy e1,tn hm⟩,oQ⟩,lr2,hk,i1,i2,i3,i4,i5,?_,by omega,by omega,on',oU,lk'.resolve_right (by rw[pk];decide),by omega⟩
     rw[<- ek,<- ey,<- sm.2.2.1,<- sm.2.1];exact fin
   . obtain⟨A2,jX⟩:=A1.next P.lc KA N ho G
     rw[XI] at A2 jX
     have oP:=N.same
     have jY:1<=CZ 12 40 (2 * 12+110) q' F' C2 none 0 (upd jb K (C2.YF h' hd) K):=by
      show 1<=Wh _ F' C2.po+(3+_+1)
      omega
     refine Or.inl ⟨rfl,by omega,s',σ+1,q',YT,h',_,F',u',_,C2,none,S2,none,0,P.mm,P.vl,X2,upd_same _ _ _,by rw[upd_same];exact hc2,A2,by omega,by omega,oP.1.trans (sm.2.2.1.trans ek),oP.2.1.trans (sm.2.1.trans ey),fun x hx=>?_,on',oU,Or.inr lk',fun hm=>⟨by rw[upd_same];exact lQ _ hm,tj _ _ hm⟩,oQ⟩
     rcases hx with e | ⟨R,e,hR⟩
     . rw[e];exact hb
     . cases e
theorem Lc.len {q:Q} {σ:Nat} {h:Gh} {jb:Nat->Jb} {F:List Nat} {u:Hi} {ts:Nat->Option (Cl × Option Rs)} {k m:Nat} (X:Lc t n k m q σ h jb hd F u ts):F.length<=n:=by
 have h1:=MS (k:=h.J) (c:=1) F h.live X.l.l.nd (fun i hi=>⟨X.l.pJ i (X.l.l.pb i hi),by unfold Gh.live;rw[X.l.f3 i hi];decide⟩)
 have h2:=X.m.sum
 omega
variable {s:Mm} {σ:Nat} {q:Q} {pn:Nat->Int} {h:Gh} {jb:Nat->Jb} {F:List Nat} {u:Hi} {ts:Nat->Option (Cl × Option Rs)}
theorem Lc.start {k m:Nat} (X:Lc t n k m q σ h jb hd F u ts) (hG:Good t n k m g p r) (hn:n<=65535) (hJ:h.J<=60000) (hK4:K<4) (hts:ts K=none) (k0:0<=key) (k1:key<1073741824) :
 Lc t n k m q σ h (upd jb K (Cl.YF h hd ⟨kd,key,σ,none,.first⟩)) hd F u (upd ts K (some (⟨kd,key,σ,none,.first⟩,none))):=by
 have hhd:h.ZL hd=true:=X.l.l.pb hd (by obtain⟨D,e⟩:=X.l.l.hf;rw[e];exact List.mem_cons_self)
 refine X.begin hK4 (X.n K hts) ⟨(fun d e=>by cases e),k0,by show key<1099511627776;omega,Nat.le_refl _,(fun e=>absurd rfl e),fun _=>⟨trivial,⟨_,_,rfl,rfl,rfl⟩,trivial⟩,fun r' e=>by cases e⟩ ?_ rfl (fun j α e=>by cases e)
 exact X.RG (W:=⟨1,h.H hd,1,0,0⟩) hG hn hJ hhd rfl (Or.inr rfl) (show Val 0 from⟨by decide,by decide⟩) (Or.inl rfl)
theorem Lc.tX {k m:Nat} (X:Lc t n k m q σ h jb hd F u ts) (hk:kd=1\/kd=2\/kd=3) (nb:¬ L.has b) (hp:pn K=0) (lr:ZH w b (.pointer none) (zF kd key (h.H hd))) :
 Cal t n k m w L σ q pn h hd K (Cl.YF h hd ⟨kd,key,σ,none,.first⟩) ⟨kd,key,σ,none,.first⟩ none (zF kd key (h.H hd)) b none 0:=by
 have hhd:h.ZL hd=true:=X.l.l.pb hd (by obtain⟨D,e⟩:=X.l.l.hf;rw[e];exact List.mem_cons_self)
 exact⟨lr,⟨by show (0:Int)<=0;decide,by show (0:Int)<8589934592;decide,by show (0:Int)<=0;decide,by show (0:Int)<8589934592;decide,by show (0:Int)<=0;decide,by show (0:Int)<=13;decide⟩,⟨rfl,rfl,rfl,hk,fun _=>rfl,⟨rfl,rfl⟩,fun p s nx d e=>by cases e⟩,⟨X.l.pJ hd hhd,(fun d e=>by cases e),trivial⟩,nb,hp,by decide,fun _=>⟨rfl,rfl,rfl⟩,fun R e=>by cases e⟩
theorem Rest.begin {w1:World} (R:Rest t n L K Jm J w s σ q pn h jb hd F u ts) (hG:Good t n 12 40 g p r) (hn:n<=65535) (wE:J+1<=Jm) (xM:Jm<=97) (hK4:K<4) (hk:kd=1\/kd=2\/kd=3) (k0:0<=key) (k1:key<1073741824) (g1:Below w.heap.size w w1) (hb:w.heap.size<=b) (nb:¬ L.has b) (lr:ZH w1 b (.pointer none) (zF kd key (h.H hd))) :
 Ew t n L K Jm J (u.S σ) kd key (h.H hd) hd b (60 * n+150) σ w 0 w1:=by
 have X:=R.lc
 have hJ:=R.hJ
 have X1:=X.start (kd:=kd) hG hn (by omega) hK4 R.nn k0 k1
 have len:=X.len
 have hst:h.st hd<=4:=by rw[X.l.f3 hd (by obtain⟨D,e⟩:=X.l.l.hf;rw[e];exact List.mem_cons_self)];decide
 refine⟨s,σ,q,pn,h,_,F,u,_,_,none,_,none,0,R.mm.below g1,R.vl,X1,upd_same _ _ _,by rw[upd_same];exact X.tX hk nb R.pn lr,⟨?_,Sem.first rfl rfl (fun _ _=>Iff.rfl),R.room.same rfl rfl (Uh (by rw[X.n K R.nn];rfl)),Nat.le_trans (Nat.add_le_add_left (by split <;> decide) _) wE,by rw[upd_same];rfl,?_,⟨fun _=>by decide,fun _=>rfl⟩,fun R a s nx e=>by cases e⟩,?_,rfl,rfl,rfl,fun x hx=>?_,Only.ZZ g1,rfl,Or.inl rfl,fun hm=>⟨(R.td hm).1.start,fun K' hK=>by rw[Z9 _ _ _ _ hK,Z9 _ _ _ _ hK];exact(R.td hm).2 K'⟩,R.od⟩
 . rw[upd_same];exact⟨fun _=>⟨trivial,hst⟩,fun r' e=>by cases e⟩
 . show h.J+(if kd=2 then 1 else 0)<=J+(if kd=2 then 1 else 0)
   exact Nat.add_le_add_right hJ _
 . rw[upd_same]
   show 0+(60 * F.length+(2 * 12+110)+1+(3+5+1))<=60 * n+150
   omega
 . rcases hx with e | ⟨R,e,hR⟩
   . rw[e];exact hb
   . cases e
end
end
section
set_option maxRecDepth 20000
section
variable {t n K Jm J:Nat} {L:Loc} {g p r:Int} {kd key:Int} {hd:Nat} {w:World} {s:Mm} {σ:Nat} {q:Q} {pn:Nat->Int} {h:Gh} {jb:Nat->Jb} {F:List Nat} {u:Hi} {ts:Nat->Option (Cl × Option Rs)}
theorem I8 (hk:kd=1\/kd=2\/kd=3) (k0:0<=key) (k1:key<1073741824):Uj kd key=true:=by
 unfold Uj
 rw[decide_eq_true (by omega:1<=kd),decide_eq_true (by omega:kd<=3),decide_eq_true k0,decide_eq_true k1];rfl
theorem Q9 {b:Nat} (hm:Z5 w L s) (hb:w.heap.size<=b):¬ L.has b:=fun h=>by have:=hm.lt b h;omega
set_option maxRecDepth 20000 in
set_option maxHeartbeats 1000000 in
theorem Eu {w:World} (c0 c1 c2 c3 c4 c5 c6 who:Int) (P:Nat) (kd key H:Int) (Lh:Nat->Prop) (hL:∀ b,w.heap.size<=b->¬ Lh b) (M:Nat) (hM:M<=20000) (hm:Uj kd key=true)
 (I:World->Nat->Nat->World->Prop) (D:World->Nat->Lr->World->Prop)
 (hI:∀ W w1 b,Below w.heap.size w W->Below W.heap.size W w1->W.heap.size<=b->ZH w1 b (.pointer none) (zF kd key H)->I W b 0 w1/\0<M)
 (hS:∀ W j b w1,W.heap.size<=b->I W b j w1->Calls Tryz.prog 15 #[.pointer (some ⟨b,0,none⟩),.agg #[.int .i64 c0,.int .i64 c1,.int .i64 c2,.int .i64 c3,.int .i64 c4,.int .i64 c5,.int .i64 c6,.pointer (some ⟨P,0,none⟩),.int .i64 who]] w1 fun e w'=>(e=.returned (.bool false)/\j+1<M/\I W b (j+1) w')\/(e=.returned (.bool true)/\∃ S,D W b S w'/\ZH w' b (.pointer none) S/\S.kd≠0/\S.nx=13))
 (hO:∀ W j b w1,I W b j w1->Only Lh W w1) (hP:∀ W b S w1,D W b S w1->Only Lh W w1) :
 Calls Tryz.prog 11 #[.agg #[.int .i64 c0,.int .i64 c1,.int .i64 c2,.int .i64 c3,.int .i64 c4,.int .i64 c5,.int .i64 c6,.pointer (some ⟨P,0,none⟩),.int .i64 who],.int .u64 H,.int .i64 kd,.int .i64 key] w fun e w'=>∃ (W:World) (b:Nat) (S:Lr) (w1:World),D W b S w1/\Below w.heap.size w W/\e=.returned (.agg #[.int .i64 S.cE,.int .u64 S.cH,.int .i64 S.cV,.int .i64 S.cS])/\Only (B1 (w.heap.size+1)) w1 w':=by
 have hN:=fun w1=>MW kd key H hm w1
 clear hm
 have v0:=(ZM.Wx (w:=w) (P:=P) (c0:=c0) (c1:=c1) (c2:=c2) (c3:=c3) (c4:=c4) (c5:=c5) (c6:=c6) (who:=who) (T:=27) (.cells #[.int .i64 0,.int .u64 0,.int .i64 0,.int .i64 0] 37))
 have d0:=At.WW w (.cells #[.int .i64 c0,.int .i64 c1,.int .i64 c2,.int .i64 c3,.int .i64 c4,.int .i64 c5,.int .i64 c6,.pointer (some ⟨P,0,none⟩),.int .i64 who] 27) 37 [.int .i64 0,.int .u64 0,.int .i64 0,.int .i64 0]
 have gW:Below w.heap.size w ((w.alloc (.cells #[.int .i64 c0,.int .i64 c1,.int .i64 c2,.int .i64 c3,.int .i64 c4,.int .i64 c5,.int .i64 c6,.pointer (some ⟨P,0,none⟩),.int .i64 who] 27)).alloc (.cells #[.int .i64 0,.int .u64 0,.int .i64 0,.int .i64 0] 37)):=Z4 (Z4 (Below.refl _ _) _) _
 have L0:Hid (¬ Lh w.heap.size/\¬ Lh (w.heap.size+1)):=⟨hL _ (Nat.le_refl _),hL _ (Nat.le_succ _)⟩
 clear hL
 go_enter Tryz.func11,Tryz.ntmps11
 go_wp2_with (go_at_call 13;refine(hN _).mono ?_;rintro e w1 ⟨b,rfl,lr,g1,eb⟩)
 obtain⟨W,hW⟩:∃ W,W=((w.alloc (.cells #[.int .i64 c0,.int .i64 c1,.int .i64 c2,.int .i64 c3,.int .i64 c4,.int .i64 c5,.int .i64 c6,.pointer (some ⟨P,0,none⟩),.int .i64 who] 27)).alloc (.cells #[.int .i64 0,.int .u64 0,.int .i64 0,.int .i64 0] 37)):=⟨_,rfl⟩
 rw[<- hW] at v0 d0 gW g1 eb
 have HI:=hI W
 have HS:=hS W
 have HO:=hO W
 have HP:=hP W
 clear hI hS hO hP hN
 have hbW:W.heap.size<=b:=eb
 clear eb
 obtain⟨i0,hM0⟩:=HI w1 b gW g1 hbW lr
 clear HI lr hW
 go_loopw [11] (fun i wr=>∃ (j:Nat),i=.int .i64 j/\j<M/\I W b j wr) (fun i _=>20000 - (intOf i).toNat)
 case atStart=>exact⟨0,rfl,hM0,i0⟩
 case round =>
  clear i0 g1
  obtain⟨j,rfl,hj,ii⟩:=hrel
  have hj3:(j:Int)<20000:=by omega
  have oo:=HO j b wr ii
  have v:=v0.only oo L0.out.1
  obtain⟨y0,y1,y2,y3,y4,y5,y6,y7,y8⟩:=id v
  have hst:=HS j b wr hbW ii
  clear ii
  go_wp2_with (go_at_call 15;refine hst.mono ?_;rintro e w2 (⟨rfl,hj1,i2⟩ | ⟨rfl,S,dd,lr,hk,hn⟩))
  . go_roundw
    case rel=>exact⟨j+1,by go_num,hj1,i2⟩
    case measure=>simp[intOf];omega
  . have HD:Hid (D W b S w2):=dd
    have hdn:=PD lr hk hn
    have o2:=HP b S w2 dd
    have d2:=d0.only o2 L0.out.2
    clear dd hst lr
    go_wp2_with (go_at_call 16;refine hdn.mono ?_;rintro e w3 ⟨rfl,b3⟩;have j3:=d2.grown b3;have z0:=j3.at0 0 rfl;have z1:=j3.at0 1 rfl;have z2:=j3.at0 2 rfl;have z3:=j3.at0 3 rfl;have qf:=j3.fz)
    refine bodyPost_ret (v:=.agg #[.int .i64 S.cE,.int .u64 S.cH,.int .i64 S.cV,.int .i64 S.cS]) (by simp[results,Tryz.results11,go_sem,z0,z1,z2,z3]) rfl ?_
    exact⟨W,b,S,w2,HD.out,gW,rfl,Zx (Zx (Zx (Zx (Only.ZZ b3) _ _) _ _) _ _) _ _⟩
theorem I4 (R:Rest t n L K Jm J w s σ q pn h jb hd F u ts) (hG:Good t n 12 40 g p r) (hn:n<=40) (wE:J+1<=Jm) (xM:Jm<=97) (hg:99<=g) (hK4:K<4) (hKt:K<t) (hσ:σ+(60 * n+150)<1000000) (hk:kd=1\/kd=2\/kd=3) (k0:0<=key) (k1:key<1073741824) {H:Int} (hH:h.H hd=H) :
 Calls Tryz.prog 11 #[KC t n 12 40 g p r L.p K,.int .u64 H,.int .i64 kd,.int .i64 key] w fun e w'=>∃ (E v:Int) (st:Nat) (s':Mm) (σ':Nat) (q':Q) (YT:Nat->Int) (h':Gh) (PV:Nat->Jb) (F':List Nat) (u':Hi) (ts':Nat->Option (Cl × Option Rs)),e=.returned (.agg #[.int .i64 E,.int .u64 0,.int .i64 v,.int .i64 st])/\Rest t n L K Jm (J+(if kd=2 then 1 else 0)) w' s' σ' q' YT h' PV hd F' u' ts'/\Fin1 (u.S σ) (u'.S σ') kd key E v q'/\σ<σ'/\σ'<=σ+(60 * n+150)/\Only L.has w w'/\h'.H hd=H:=by
 subst hH
 have hm:=R.mm
 refine(Eu t n (12:Nat) (40:Nat) g p r K L.p kd key (h.H hd) L.has (fun b hb=>Q9 hm hb) (60 * n+150) (by omega) (I8 hk k0 k1) (fun W b j w1=>Ew t n L K Jm J (u.S σ) kd key (h.H hd) hd b (60 * n+150) σ W j w1) (fun W b S w1=>∃ s' σ' q' YT h' PV F' u' ts' E v,∃ st:Nat,Rest t n L K Jm (J+(if kd=2 then 1 else 0)) w1 s' σ' q' YT h' PV hd F' u' ts'/\S.cE=E/\S.cH=0/\S.cV=v/\S.cS=st/\Fin1 (u.S σ) (u'.S σ') kd key E v q'/\σ<σ'/\σ'<=σ+(60 * n+150)/\Only L.has W w1/\h'.H hd=h.H hd) (fun W w1 b gW g1 hb lr=>⟨?_,by omega⟩) (fun W j b w1 hb I=>?_) (fun W j b w1 I=>?_) (fun W b S w1 D=>?_)).mono ?_
 . exact Rest.begin ⟨R.mm.below gW,R.vl,R.lc,R.nn,R.room,R.hJ,R.pn,R.td,R.od⟩ hG (by omega) wE xM hK4 hk k0 k1 g1 hb (Q9 (R.mm.below gW) hb) lr
 . refine(I.step hG (by omega) xM hg hK4 hKt hσ hb).mono ?_
   rintro e w' (⟨h1,h2,h3⟩ | ⟨h1,s',σ',q',YT,h',PV,F',u',ts',S,E,v,st,R',lr,hk',hn',a1,a2,a3,a4,a5,a6,a7,a8,a9,-⟩)
   . exact Or.inl ⟨h1,h2,h3⟩
   . exact Or.inr ⟨h1,S,⟨s',σ',q',YT,h',PV,F',u',ts',E,v,st,R',a1,a2,a3,a4,a5,a6,a7,a8,a9⟩,lr,hk',hn'⟩
 . obtain⟨s',σ',q',YT,h',PV,F',u',ts',C,rs,S,a,ph,-,-,-,-,-,-,-,-,-,-,-,on,-⟩:=I
   exact on
 . obtain⟨s',σ',q',YT,h',PV,F',u',ts',E,v,st,-,-,-,-,-,-,-,-,on,-⟩:=D
   exact on
 . rintro e w' ⟨W,b,S,w1,⟨s',σ',q',YT,h',PV,F',u',ts',E,v,st,R',a1,a2,a3,a4,a5,a6,a7,a8,a9⟩,gW,rfl,o1⟩
   refine⟨E,v,st,s',σ',q',YT,h',PV,F',u',ts',by rw[a1,a2,a3,a4],⟨R'.mm.only o1 (fun x hx e=>Q9 (w:=w) (b:=w.heap.size+1) hm (by omega) (by rw[<- show x=w.heap.size+1 from e];exact hx)),R'.vl,R'.lc,R'.nn,R'.room,R'.hJ,R'.pn,R'.td,R'.od⟩,a5,a6,a7,?_,a9⟩
   exact((Only.ZZ gW).trans a8).grow o1 (fun i hi e=>by have:i=w.heap.size+1:=e;omega)
end
end
end Go.Proofs.YtpbghmeikcphnaaGreat
