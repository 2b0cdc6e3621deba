import Derived.Test.YtibmjlefcaonnaaGreatAccTurn
import Derived.Test.YtibmjlefcaonnaaGreatAccTown
import Derived.Test.YtibmjlefcaonnaaGreatLstChain
namespace Go.Proofs.YtibmjlefcaonnaaGreat
open Go.RowKit
section
def Val (c:Int):Prop:=0<=c/\c<=1099511627775
section
variable {t n k m x G i σ:Nat} {v c:Int} {q q':Q} {W:Wt}
end
end
section
def tot (f:Nat->Nat):Nat->Nat
 | 0=>0
 | J+1=>tot f J+f J
theorem Xn {f g:Nat->Nat} {J:Nat} (h:∀ j,j<J->g j=f j):tot g J=tot f J:=by
 induction J with
 | zero=>rfl
 | succ J ih=>show tot g J+g J=tot f J+f J;rw[ih (fun j hj=>h j (by omega)),h J (by omega)]
theorem YO {f g:Nat->Nat} {J j:Nat} (hj:j<J) (h:∀ i,i<J->i≠j->g i=f i):tot g J+f j=tot f J+g j:=by
 induction J with
 | zero=>omega
 | succ J ih =>
  show tot g J+g J+f j=tot f J+f J+g j
  by_cases e:j=J
  . subst e
    rw[Xn (fun i hi=>h i (by omega) (by omega))];omega
  . have:=ih (by omega) (fun i hi=>h i (by omega))
    rw[h J (by omega) (fun e'=>e e'.symm)];omega
theorem zM {f:Nat->Nat} {J j:Nat} (hj:j<J):f j<=tot f J:=by
 induction J with
 | zero=>omega
 | succ J ih =>
  show f j<=tot f J+f J
  by_cases e:j=J
  . subst e;omega
  . have:=ih (by omega);omega
theorem UR {f:Nat->Nat} {J:Nat} (h:∀ j,j<J->f j<=1):tot f J<=J:=by
 induction J with
 | zero=>exact Nat.le_refl _
 | succ J ih =>
  show tot f J+f J<=J+1
  have:=ih (fun j hj=>h j (by omega))
  have:=h J (by omega)
  omega
structure Nd where
 x:Nat
 g:Nat
 a:Nat
 i:Nat
def Nd.w (d:Nd):Int:=Zw 1 d.a d.g 0
inductive Ow where
 | free
 | X9 (K:Nat)
 | node (j:Nat)
structure Gh where
 J:Nat
 nd:Nat->Nd
 st:Nat->Nat
 cv:Nat->Nat->Int
 fz:Nat->Nat
 ZL:Nat->Bool
 ma:Nat->Nat
 so:Nat->Ow
 gen:Nat->Nat
 ow:Nat->Nat
def Gh.cw (h:Gh) (j c:Nat):Int:=if c<h.fz j then froze (h.cv j c) 1 else h.cv j c
structure Pq (t n k m:Nat) (q:Q) (h:Gh) (j:Nat):Prop where
 ik:(h.nd j).i<k
 ex:∃ u,(h.nd j).a=base t n k m (h.nd j).i+u/\u+3<=(q.y.ck (h.nd j).i).us
 ck:(q.y.ck (h.nd j).i).st=1
 ow:∀ d,(h.nd j).a<=d->d<(h.nd j).a+3->h.ow d=j+1
 xn:(h.nd j).x<n
 g1:1<=(h.nd j).g
 g4:h.st j<=4->(h.nd j).g=h.gen (h.nd j).x
 g5:5<=h.st j->(h.nd j).g<h.gen (h.nd j).x
 s1:h.st j<=1->h.so (h.nd j).x=.X9 (h.ma j)
 s2:2<=h.st j->h.st j<=4->h.so (h.nd j).x=.node j
 w3:2<=h.st j->h.st j<=3->q.sw (h.nd j).x=(h.nd j).w
 w4:h.st j=4->q.sw (h.nd j).x=XU (h.nd j).w
 hw:3<=h.st j->q.dw (h.nd j).a=Zj 2 (2:Nat) (h.nd j).x (h.nd j).g true
 cw:∀ c,c<2->q.dw ((h.nd j).a+1+c)=h.cw j c
 z3:h.st j<=3->h.fz j=0
 z5:5<=h.st j->h.fz j=2
 z2:h.fz j<=2
 vl:∀ c,c<2->Val (h.cv j c)
 pf:h.ZL j=true->3<=h.st j/\(4<=h.st j->4294967296<=h.cv j 1)
 s6:h.st j<=6
def Xm (k:Nat) (y y':Y):Prop:=∀ i,i<k->(y.ck i).st=1->0<(y.ck i).us->(y'.ck i).st=1/\(y.ck i).us<=(y'.ck i).us
theorem Xm.refl (k:Nat) (y:Y):Xm k y y:=fun _ _ h _=>⟨h,Nat.le_refl _⟩
theorem Pq.keep {t n k m:Nat} {q q':Q} {h h':Gh} {j:Nat} (N:Pq t n k m q h j) (hk:Xm k q.y q'.y) (nd:h'.nd j=h.nd j) (st:h'.st j=h.st j) (cv:h'.cv j=h.cv j) (fz:h'.fz j=h.fz j) (ZL:h'.ZL j=h.ZL j) (ma:h'.ma j=h.ma j) (ow:∀ d,h.ow d=j+1->h'.ow d=j+1) (so:h.st j<=4->h'.so (h.nd j).x=h.so (h.nd j).x/\h'.gen (h.nd j).x=h.gen (h.nd j).x) (ge:h.gen (h.nd j).x<=h'.gen (h.nd j).x) (sw:2<=h.st j->h.st j<=4->q'.sw (h.nd j).x=q.sw (h.nd j).x) (dw:∀ d,h.ow d=j+1->q'.dw d=q.dw d):Pq t n k m q' h' j:=by
 obtain⟨u,e1,e2⟩:=N.ex
 obtain⟨k1,k2⟩:=hk _ N.ik N.ck (by omega)
 have hcw:∀ c,h'.cw j c=h.cw j c:=fun c=>by unfold Gh.cw;rw[fz,cv]
 constructor
 . rw[nd];exact N.ik
 . rw[nd];exact⟨u,e1,by omega⟩
 . rw[nd];exact k1
 . rw[nd];exact fun d h1 h2=>ow d (N.ow d h1 h2)
 . rw[nd];exact N.xn
 . rw[nd];exact N.g1
 . rw[nd,st];exact fun hs=>by rw[(so hs).2];exact N.g4 hs
 . rw[nd,st];exact fun hs=>Nat.lt_of_lt_of_le (N.g5 hs) ge
 . rw[nd,st,ma];exact fun hs=>by rw[(so (by omega)).1];exact N.s1 hs
 . rw[nd,st];exact fun h1 h2=>by rw[(so h2).1];exact N.s2 h1 h2
 . rw[nd,st];exact fun h1 h2=>by rw[sw h1 (by omega)];exact N.w3 h1 h2
 . rw[nd,st];exact fun h1=>by rw[sw (by omega) (by omega)];exact N.w4 h1
 . rw[nd,st];exact fun h1=>by rw[dw _ (N.ow _ (Nat.le_refl _) (by omega))];exact N.hw h1
 . rw[nd];exact fun c hc=>by rw[dw _ (N.ow _ (by omega) (by omega)),hcw];exact N.cw c hc
 . rw[st,fz];exact N.z3
 . rw[st,fz];exact N.z5
 . rw[fz];exact N.z2
 . rw[cv];exact N.vl
 . rw[ZL,st,cv];exact N.pf
 . rw[st];exact N.s6
def Gh.Ud (h:Gh) (i j:Nat):Nat:=if (h.nd j).i=i/\1<=h.st j/\h.st j<=5 then 3 else 0
def Gh.dead (h:Gh) (j:Nat):Nat:=if 5<=h.st j then 1 else 0
def Gh.live (h:Gh) (j:Nat):Nat:=if 2<=h.st j/\h.st j<=4 then 1 else 0
structure Ground (t n k m:Nat) (q:Q) (h:Gh):Prop where
 nk:∀ j,j<h.J->Pq t n k m q h j
 hn:∀ j j',j<h.J->j'<h.J->(h.nd j).x=(h.nd j').x->(h.nd j).g=(h.nd j').g->j=j'
 fr:∀ x,x<n->(h.so x=.free↔x∈q.F)
 fw:∀ x,x<n->(∀ j,h.so x≠.node j)->q.sw x=Zw 0 0 (h.gen x) 0
 sn:∀ x j,x<n->h.so x=.node j->j<h.J/\(h.nd j).x=x/\2<=h.st j/\h.st j<=4
 gb:∀ x,x<n->1<=h.gen x/\h.gen x<=1+tot h.dead h.J
 lv:∀ i,i<k->q.lv i=tot (h.Ud i) h.J
 us:∀ i,i<k->(q.y.ck i).us<=m
 ins:∀ d,h.ow d≠0->∃ c,c<k/\(q.y.ck c).st=1/\base t n k m c<=d/\d<base t n k m c+(q.y.ck c).us
 nz:∀ d,h.ow d=0->q.dw d=0
 wd:∀ a,Wd (q.dw a)
def Gh.alt (h:Gh) (j s:Nat) (C:Nat->Int) (z:Nat) (S:Ow) (g:Nat):Gh:={ h with st:=upd h.st j s,cv:=upd h.cv j C,fz:=upd h.fz j z,so:=upd h.so (h.nd j).x S,gen:=upd h.gen (h.nd j).x g }
theorem Yd {h:Gh} {j s:Nat} {C:Nat->Int} {z:Nat} {S:Ow} {g:Nat} (hj:j<h.J):tot (h.alt j s C z S g).live (h.alt j s C z S g).J+h.live j=tot h.live h.J+(if 2<=s/\s<=4 then 1 else 0):=by
 have:=YO (f:=h.live) (g:=(h.alt j s C z S g).live) hj (fun i _ hi=>by unfold Gh.live;rw[show (h.alt j s C z S g).st i=h.st i from Z8 _ _ _ _ hi])
 rw[show (h.alt j s C z S g).live j=(if 2<=s/\s<=4 then 1 else 0) by unfold Gh.live;rw[show (h.alt j s C z S g).st j=s from upd_same _ _ _]] at this
 exact this
section
variable {t n k m:Nat} {q q':Q} {h:Gh} {j:Nat}
theorem Ground.one (G:Ground t n k m q h) {i:Nat} (hj:j<h.J) (hi:i<h.J) (h1:h.st j<=4) (h2:h.st i<=4) (e:(h.nd j).x=(h.nd i).x):j=i :=
 G.hn j i hj hi e (by rw[(G.nk j hj).g4 h1,(G.nk i hi).g4 h2,e])
theorem Ground.alter (G:Ground t n k m q h) {s z g:Nat} {C:Nat->Int} {S:Ow} (hj:j<h.J) (hy:q'.y=q.y) (hF:q'.F=q.F)
 (hdw:∀ d,h.ow d≠j+1->q'.dw d=q.dw d) (hwd:∀ d,Wd (q'.dw d)) (hsw:∀ y,y≠(h.nd j).x->q'.sw y=q.sw y)
 (hx:h.st j<=4\/(S=h.so (h.nd j).x/\g=h.gen (h.nd j).x/\q'.sw (h.nd j).x=q.sw (h.nd j).x)) (hg:h.gen (h.nd j).x<=g)
 (N:Pq t n k m q' (h.alt j s C z S g) j) (hf:S=.free↔h.so (h.nd j).x=.free)
 (hfw:(∀ i,S≠.node i)->q'.sw (h.nd j).x=Zw 0 0 g 0) (hsn:∀ i,S=.node i->(i=j/\2<=s/\s<=4)\/(i≠j/\S=h.so (h.nd j).x))
 (hgb:g+h.dead j<=h.gen (h.nd j).x+(if 5<=s then 1 else 0)) (hd:h.dead j<=(if 5<=s then 1 else 0))
 (hlv:∀ i,i<k->q'.lv i+h.Ud i j=q.lv i+(if (h.nd j).i=i/\1<=s/\s<=5 then 3 else 0)):Ground t n k m q' (h.alt j s C z S g):=by
 have hother:∀ i,i<h.J->i≠j->h.st i<=4->(h.nd i).x=(h.nd j).x->S=h.so (h.nd j).x/\g=h.gen (h.nd j).x/\q'.sw (h.nd j).x=q.sw (h.nd j).x:=fun i hi hne h4 e=>by
  rcases hx with hx | hx
  . exact absurd (G.one hi hj h4 hx e) hne
  . exact hx
 have hst:∀ i,i≠j->(h.alt j s C z S g).st i=h.st i:=fun i hi=>Z8 _ _ _ _ hi
 have xg:∀ i,i≠j->(h.alt j s C z S g).dead i=h.dead i:=fun i hi=>by unfold Gh.dead;rw[hst i hi]
 have hdj:(h.alt j s C z S g).dead j=if 5<=s then 1 else 0:=by unfold Gh.dead;rw[show (h.alt j s C z S g).st j=s from upd_same _ _ _]
 have htd:=YO (f:=h.dead) (g:=(h.alt j s C z S g).dead) hj (fun i _ hi=>xg i hi)
 rw[hdj] at htd
 refine⟨fun i hi=>?_,G.hn,fun x Kv=>?_,fun x Kv hno=>?_,fun x i Kv e=>?_,fun x Kv=>?_,fun i hi=>?_,fun i hi=>by rw[hy];exact G.us i hi,fun d hd=>by rw[hy];exact G.ins d hd,fun d hd=>?_,hwd⟩
 . by_cases e:i=j
   . subst e;exact N
   . have Ni:=G.nk i hi
     refine Ni.keep (by rw[hy];exact Xm.refl k q.y) rfl (hst i e) (Z8 _ _ _ _ e) (Z8 _ _ _ _ e) rfl rfl (fun d hd=>hd) (fun h4=>?_) ?_ (fun h2 h4=>?_) (fun d hd=>hdw d (by rw[hd];omega))
     . by_cases ex:(h.nd i).x=(h.nd j).x
       . obtain⟨a1,a2,-⟩:=hother i hi e h4 ex
         rw[ex]
         exact⟨(upd_same _ _ _).trans a1,(upd_same _ _ _).trans a2⟩
       . exact⟨Z8 _ _ _ _ ex,Z8 _ _ _ _ ex⟩
     . by_cases ex:(h.nd i).x=(h.nd j).x
       . rw[ex];show _<=upd h.gen _ g _;rw[upd_same];exact hg
       . show _<=upd h.gen _ g _;rw[Z8 _ _ _ _ ex];exact Nat.le_refl _
     . by_cases ex:(h.nd i).x=(h.nd j).x
       . rw[ex];exact(hother i hi e h4 ex).2.2
       . exact hsw _ ex
 . show upd h.so _ S x=.free↔x∈q'.F
   rw[hF]
   by_cases ex:x=(h.nd j).x
   . subst ex;rw[upd_same,hf];exact G.fr _ Kv
   . rw[Z8 _ _ _ _ ex];exact G.fr x Kv
 . by_cases ex:x=(h.nd j).x
   . subst ex
     have e1:(h.alt j s C z S g).so (h.nd j).x=S:=upd_same _ _ _
     have e2:(h.alt j s C z S g).gen (h.nd j).x=g:=upd_same _ _ _
     rw[e1] at hno
     rw[e2]
     exact hfw hno
   . have e1:(h.alt j s C z S g).so x=h.so x:=Z8 _ _ _ _ ex
     have e2:(h.alt j s C z S g).gen x=h.gen x:=Z8 _ _ _ _ ex
     rw[e1] at hno
     rw[e2,hsw x ex]
     exact G.fw x Kv hno
 . by_cases ex:x=(h.nd j).x
   . subst ex
     have e1:(h.alt j s C z S g).so (h.nd j).x=S:=upd_same _ _ _
     rw[e1] at e
     rcases hsn i e with⟨rfl,h1,h2⟩ | ⟨hne,h1⟩
     . exact⟨hj,rfl,by rw[show (h.alt i s C z S g).st i=s from upd_same _ _ _];exact h1,by rw[show (h.alt i s C z S g).st i=s from upd_same _ _ _];exact h2⟩
     . rw[hst i hne];exact G.sn _ i Kv (h1 ▸ e)
   . have e1:(h.alt j s C z S g).so x=h.so x:=Z8 _ _ _ _ ex
     rw[e1] at e
     obtain⟨a1,a2,a3⟩:=G.sn x i Kv e
     have hne:i≠j:=fun e'=>ex (by rw[<- e'];exact a2.symm)
     rw[hst i hne]
     exact⟨a1,a2,a3⟩
 . show 1<=upd h.gen _ g x/\upd h.gen _ g x<=1+tot (h.alt j s C z S g).dead h.J
   have hb:=G.gb x Kv
   by_cases ex:x=(h.nd j).x
   . subst ex;rw[upd_same];omega
   . rw[Z8 _ _ _ _ ex];omega
 . have ht:=YO (f:=h.Ud i) (g:=(h.alt j s C z S g).Ud i) hj (fun l _ hl=>by unfold Gh.Ud;rw[hst l hl];rfl)
   have e:(h.alt j s C z S g).Ud i j=if (h.nd j).i=i/\1<=s/\s<=5 then 3 else 0:=by unfold Gh.Ud;rw[show (h.alt j s C z S g).st j=s from upd_same _ _ _];rfl
   rw[e] at ht
   have:=hlv i hi
   rw[G.lv i hi] at this
   show q'.lv i=tot _ h.J
   omega
 . have hd':h.ow d=0:=hd
   rw[hdw d (by omega)];exact G.nz d hd'
end
end
section
inductive Jb where
 | nil
 | al (j:Nat) (α:Al)
 | dp (j:Nat) (α:Dp)
 | ac (W:Wt) (j:Nat) (α:Ac)
def Al.La:Al->Nat
 | .take _=>0
 | .ready _ _ _ _ _=>0
 | .over _ _ _=>0
 | _=>1
def Dp.La:Dp->Nat
 | .count _ _=>1
 | .give _=>1
 | _=>0
def Jb.g:Jb->Nat
 | .al _ α=>α.La
 | .dp _ α=>α.La
 | _=>0
def Al.late:Al->Bool
 | .count _ _ _ _=>true
 | .head _ _ _ _=>true
 | .shw _ _ _ _=>true
 | .ready _ _ _ _ _=>true
 | _=>false
def uk (h:Gh) (K j:Nat):Al->Prop
 | .take _=>True
 | .ask x=>h.so x=.X9 K
 | .place x g _=>h.so x=.X9 K/\g=h.gen x
 | .count x g a i=>j<h.J/\h.nd j=⟨x,g,a,i⟩/\h.st j=0/\h.ma j=K
 | .head x g a i=>j<h.J/\h.nd j=⟨x,g,a,i⟩/\h.st j=1/\h.ma j=K
 | .shw x g a i=>j<h.J/\h.nd j=⟨x,g,a,i⟩/\h.st j=1/\h.ma j=K
 | .ready x g a i _=>j<h.J/\h.nd j=⟨x,g,a,i⟩/\h.st j=2/\h.ma j=K
 | .give x _ _=>h.so x=.X9 K
 | .over _ _ _=>False
def wY (n:Nat) (q:Q) (h:Gh) (K j:Nat):Dp->Prop
 | .see=>h.st j=3
 | .ask v=>h.st j=3/\v=(h.nd j).w
 | .mark v Z=>h.st j=3/\v=(h.nd j).w/\Z=2
 | .fin Z i (.go v Z' c u)=>h.st j=4/\Z=2/\Z'=2/\i=(h.nd j).i/\v=XU (h.nd j).w/\c=h.fz j/\∀ u',u=some u'->c<2/\u'=h.cv j c
 | .count Z i=>h.st j=5/\Z=2/\i=(h.nd j).i/\h.so (h.nd j).x=.X9 K
 | .give γ=>h.st j=6/\h.so (h.nd j).x=.X9 K/\γ.good n q.c q.lk q.F (h.nd j).x/\γ.done=false
 | _=>False
def EH (h:Gh) (j:Nat) (v:Int):Prop:=v=(h.nd j).w\/(v=XU (h.nd j).w/\4<=h.st j)
def uj (h:Gh) (W:Wt) (j:Nat):Ac->Prop
 | .see=>True
 | .ask v _=>EH h j v
 | .load v Z=>EH h j v/\Z=2
 | .check v c _=>EH h j v/\Wd c/\W.reads c=true
 | .lay v c=>v=(h.nd j).w/\Val c/\W.reads c=false
 | .stop _=>False
 | .over _ _ _=>False
structure oO (h:Gh) (K:Nat) (W:Wt) (j:Nat):Prop where
 nu:YZ W.nu (h.nd j).x (h.nd j).g
 ix:W.ix=0\/W.ix=1
 vl:Val W.vl
 kd:W.kd=1\/(W.kd=3/\W.ix=1/\0<=W.ol/\W.ol<4294967296)\/(W.kd=2/\h.ZL j=false)
 pv:h.ZL j=true\/(h.ma j=K/\h.st j=3)
 s3:3<=h.st j
def UT (t n k m:Nat) (q:Q) (σ:Nat) (h:Gh) (K:Nat):Jb->Prop
 | .nil=>True
 | .al j α=>α.good t n k m 0 σ q/\uk h K j α
 | .dp j α=>j<h.J/\(h.ZL j=true\/h.ma j=K)/\(h.ZL j=true->4294967296<=h.cv j 1)/\wY n q h K j α
 | .ac W j α=>j<h.J/\oO h K W j/\uj h W j α
structure WA (t n k m:Nat) (q:Q) (σ:Nat) (h:Gh) (jb:Nat->Jb):Prop where
 g:Ground t n k m q h
 jk:∀ K,UT t n k m q σ h K (jb K)
 dd:∀ K K' j α α',jb K=.dp j α->jb K'=.dp j α'->K=K'
 bz:∀ j,j<h.J->h.st j<=2->∃ α,jb (h.ma j)=.al j α/\α.late=true
 sum:q.F.length+tot (fun K=>(jb K).g) 4+tot h.live h.J=n
structure YX (n K:Nat) (jb:Nat->Jb) (q q':Q) (h h':Gh):Prop where
 J:h.J<=h'.J
 nd:∀ j,j<h.J->h'.nd j=h.nd j
 ma:∀ j,j<h.J->h'.ma j=h.ma j
 ZL:∀ j,j<h.J->h'.ZL j=h.ZL j
 st:∀ j,j<h.J->h.st j<=h'.st j
 so:∀ x K',K'≠K->h.so x=.X9 K'->h'.so x=.X9 K'/\h'.gen x=h.gen x
 mine:∀ j,j<h.J->h.st j<=2->h.ma j≠K->h'.st j=h.st j
 dp:∀ j K' α,j<h.J->K'≠K->jb K'=.dp j α->h'.st j=h.st j/\h'.fz j=h.fz j/\h'.cv j=h.cv j
 pv:∀ j,j<h.J->h.ZL j=false->h.ma j≠K->h'.st j=h.st j
 fx:∀ j,j<h.J->h.ZL j=true->4294967296<=h.cv j 1->4294967296<=h'.cv j 1
 tk:∀ τ:Tk,τ.good n q.c q.lk q.F->τ.good n q'.c q'.lk q'.F
 gv:∀ x (γ:Gv),h.so x≠.X9 K->γ.good n q.c q.lk q.F x->γ.good n q'.c q'.lk q'.F x
 nf:∀ x,h.so x≠.X9 K->x∉q.F->x∉q'.F
theorem TG {K K':Nat} {S:Ow} (h:S=.X9 K') (hne:K'≠K):S≠.X9 K:=fun e=>by
 rw[h] at e;injection e with e;exact hne e
theorem CP {K j:Nat} {S:Ow} (h:S=.node j):S≠.X9 K:=fun e=>by rw[h] at e;cases e
section
variable {t n k m σ σ' K K':Nat} {q q':Q} {h h':Gh} {jb:Nat->Jb}
theorem WA.other (M:WA t n k m q σ h jb) (V:YX n K jb q q' h h') (hs:σ<=σ') (hK:K'≠K):UT t n k m q' σ' h' K' (jb K'):=by
 have O:=M.jk K'
 cases hj:jb K' with
 | nil=>trivial
 | al j α =>
  rw[hj] at O
  obtain⟨gd,A⟩:=O
  have late:∀ x g a i,h.nd j=⟨x,g,a,i⟩->j<h.J->h.st j<=2->h.ma j=K'->x∉q.F->x∉q'.F/\j<h'.J/\h'.nd j=⟨x,g,a,i⟩/\h'.st j=h.st j/\h'.ma j=K':=fun x g a i e hJ h2 hm hx=>by
   have N:=M.g.nk j hJ
   have hne:h.so x≠.X9 K:=by
    have ex:(h.nd j).x=x:=by rw[e]
    by_cases h1:h.st j<=1
    . exact TG (by rw[<- ex];exact(N.s1 h1).trans (by rw[hm])) hK
    . exact CP (by rw[<- ex];exact N.s2 (by omega) (by omega))
   exact⟨V.nf x hne hx,Nat.lt_of_lt_of_le hJ V.J,(V.nd j hJ).trans e,V.mine j hJ h2 (by rw[hm];exact hK),(V.ma j hJ).trans hm⟩
  cases α with
  | take τ=>exact⟨⟨V.tk τ gd.1,gd.2⟩,trivial⟩
  | ask x=>exact⟨⟨gd.1,V.nf x (TG A hK) gd.2⟩,(V.so x K' hK A).1⟩
  | place x g τ=>exact⟨⟨gd.1,V.nf x (TG A.1 hK) gd.2.1,gd.2.2.1,gd.2.2.2.1.up hs,gd.2.2.2.2⟩,(V.so x K' hK A.1).1,A.2.trans (V.so x K' hK A.1).2.symm⟩
  | count x g a i =>
   obtain⟨a1,a2,a3,a4⟩:=A
   obtain⟨b1,b2,b3,b4,b5⟩:=late x g a i a2 a1 (by omega) a4 gd.2.1
   exact⟨⟨gd.1,b1,gd.2.2⟩,b2,b3,b4.trans a3,b5⟩
  | head x g a i =>
   obtain⟨a1,a2,a3,a4⟩:=A
   obtain⟨b1,b2,b3,b4,b5⟩:=late x g a i a2 a1 (by omega) a4 gd.2.1
   exact⟨⟨gd.1,b1,gd.2.2⟩,b2,b3,b4.trans a3,b5⟩
  | shw x g a i =>
   obtain⟨a1,a2,a3,a4⟩:=A
   obtain⟨b1,b2,b3,b4,b5⟩:=late x g a i a2 a1 (by omega) a4 gd.2.1
   exact⟨⟨gd.1,b1,gd.2.2⟩,b2,b3,b4.trans a3,b5⟩
  | ready x g a i st =>
   obtain⟨a1,a2,a3,a4⟩:=A
   obtain⟨b1,b2,b3,b4,b5⟩:=late x g a i a2 a1 (by omega) a4 gd.2.1
   exact⟨⟨gd.1,b1,gd.2.2⟩,b2,b3,b4.trans a3,b5⟩
  | give x g γ=>exact⟨⟨gd.1,V.nf x (TG A hK) gd.2.1,V.gv x γ (TG A hK) gd.2.2.1,gd.2.2.2⟩,(V.so x K' hK A).1⟩
  | over=>exact A.elim
 | dp j α =>
  rw[hj] at O
  obtain⟨hJ,hp,hf,D⟩:=O
  obtain⟨e1,e2,e3⟩:=V.dp j K' α hJ hK hj
  have en:=V.nd j hJ
  refine⟨Nat.lt_of_lt_of_le hJ V.J,by rw[V.ZL j hJ,V.ma j hJ];exact hp,fun h1=>by rw[e3];exact hf (by rw[<- V.ZL j hJ];exact h1),?_⟩
  cases α with
  | see=>exact e1.trans D
  | ask v=>exact⟨e1.trans D.1,by rw[en];exact D.2⟩
  | mark v Z=>exact⟨e1.trans D.1,by rw[en];exact D.2⟩
  | Ve η=>exact D.elim
  | fin Z i η =>
   cases η with
   | go v Z' c u=>exact⟨e1.trans D.1,by rw[en,e2,e3];exact D.2⟩
   | over=>exact D.elim
  | count Z i=>exact⟨e1.trans D.1,by rw[en];exact⟨D.2.1,D.2.2.1,(V.so _ K' hK D.2.2.2).1⟩⟩
  | give γ=>exact⟨e1.trans D.1,by rw[en];exact⟨(V.so _ K' hK D.2.1).1,V.gv _ γ (TG D.2.1 hK) D.2.2.1,D.2.2.2⟩⟩
  | over=>exact D.elim
 | ac W j α =>
  rw[hj] at O
  obtain⟨hJ,WK,A⟩:=O
  have en:=V.nd j hJ
  have ep:=V.ZL j hJ
  have em:=V.ma j hJ
  have es:=V.st j hJ
  have XL:∀ v,EH h j v->EH h' j v:=fun v hv=>by
   rcases hv with hv | ⟨hv,h4⟩
   . exact Or.inl (by rw[en];exact hv)
   . exact Or.inr ⟨by rw[en];exact hv,by omega⟩
  refine⟨Nat.lt_of_lt_of_le hJ V.J,⟨by rw[en];exact WK.nu,WK.ix,WK.vl,by rw[ep];exact WK.kd,?_,Nat.le_trans WK.s3 es⟩,?_⟩
  . rw[ep,em]
    rcases WK.pv with h1 | ⟨h1,h2⟩
    . exact Or.inl h1
    . cases hp:h.ZL j with
      | true=>exact Or.inl rfl
      | false=>exact Or.inr ⟨h1,(V.pv j hJ hp (by rw[h1];exact hK)).trans h2⟩
  . cases α with
    | see=>trivial
    | ask v a=>exact XL v A
    | load v Z=>exact⟨XL v A.1,A.2⟩
    | check v c ld=>exact⟨XL v A.1,A.2⟩
    | stop=>exact A.elim
    | lay v c=>exact⟨by rw[en];exact A.1,A.2⟩
    | over=>exact A.elim
theorem WA.put (M:WA t n k m q σ h jb) (V:YX n K jb q q' h h') (hs:σ<=σ') (G:Ground t n k m q' h') {b:Jb} (hb:UT t n k m q' σ' h' K b) (hdd:∀ j α,b=.dp j α->∀ K' α',jb K'=.dp j α'->K'=K) (hbz:∀ j,j<h'.J->h'.st j<=2->h'.ma j=K->∃ α,b=.al j α/\α.late=true) (hJ:∀ j,j<h'.J->h'.ma j≠K->j<h.J) (hK:K<4) (hsum:q'.F.length+b.g+tot h'.live h'.J=q.F.length+(jb K).g+tot h.live h.J):WA t n k m q' σ' h' (upd jb K b):=by
 refine⟨G,fun K'=>?_,fun K1 K2 j α α' e1 e2=>?_,fun j hj h2=>?_,?_⟩
 . by_cases e:K'=K
   . subst e;rw[upd_same];exact hb
   . rw[Z8 _ _ _ _ e];exact M.other V hs e
 . by_cases c1:K1=K
   . subst c1
     rw[upd_same] at e1
     by_cases c2:K2=K1
     . exact c2.symm
     . rw[Z8 _ _ _ _ c2] at e2;exact(hdd j α e1 K2 α' e2).symm
   . rw[Z8 _ _ _ _ c1] at e1
     by_cases c2:K2=K
     . subst c2
       rw[upd_same] at e2
       exact hdd j α' e2 K1 α e1
     . rw[Z8 _ _ _ _ c2] at e2;exact M.dd K1 K2 j α α' e1 e2
 . by_cases e:h'.ma j=K
   . rw[e,upd_same];exact hbz j hj h2 e
   . have hj0:=hJ j hj e
     rw[Z8 _ _ _ _ e,V.ma j hj0]
     exact M.bz j hj0 (Nat.le_trans (V.st j hj0) h2)
 . have h1:=YO (f:=fun K=>(jb K).g) (g:=fun K'=>(upd jb K b K').g) hK (fun i _ hi=>by rw[Z8 _ _ _ _ hi])
   simp only[upd_same] at h1
   have:=M.sum
   omega
end
end
section
structure su (t n k m:Nat) (d:Nd):Prop where
 o:UJ t n k m d.w 2 d.i
 st:d.w % 8=1
 ad:ZB d.w=d.a
 gn:Zy d.w=d.g
 vr:Y3 d.w=0
 mo:UJ t n k m (XU d.w) 2 d.i
 ms:XU d.w % 8=4
 ma:ZB (XU d.w)=d.a
 mg:Zy (XU d.w)=d.g
 mv:Y3 (XU d.w)=1
 xb:d.x<=65535
 gb:d.g<=65535
theorem YX.refl (n K:Nat) (jb:Nat->Jb) (q:Q) (h:Gh):YX n K jb q q h h :=
 ⟨Nat.le_refl _,fun _ _=>rfl,fun _ _=>rfl,fun _ _=>rfl,fun _ _=>Nat.le_refl _,fun _ _ _ e=>⟨e,rfl⟩,fun _ _ _ _=>rfl,fun _ _ _ _ _ _=>⟨rfl,rfl,rfl⟩,fun _ _ _ _=>rfl,fun _ _ _ e=>e,fun _ e=>e,fun _ _ _ e=>e,fun _ _ e=>e⟩
theorem Qs (z:Int) (V:Nat) (h0:0<=z) (h1:z<=1099511627775) (hV:V<=4194303):SB (Yt z true V)=z/\Be (Yt z true V)=true/\Nc (Yt z true V)=V:=by
 have e:Yt z true V=z+V * 1099511627776+9223372036854775808:=by
  unfold Yt
  rw[if_pos rfl,Y8 z 40 h0 (by simp;omega),Y8 V 22 (by omega) (by simp;omega)]
 rw[e]
 unfold SB Be Nc
 exact⟨by omega,decide_eq_true (by omega),by rw[if_pos (by omega)];omega⟩
theorem Ip {z:Int} (h:Val z):SB (froze z 1)=z:=by
 unfold froze
 rw[show z % 1099511627776=z by have:=h.1;have:=h.2;omega]
 exact(Qs z 1 h.1 h.2 (by decide)).1
theorem Io {z:Int} (h:Val z):9223372036854775808<=froze z 1:=by
 unfold froze
 rw[show z % 1099511627776=z by have:=h.1;have:=h.2;omega]
 exact of_decide_eq_true (Qs z 1 h.1 h.2 (by decide)).2.1
inductive Td (h:Gh) (W:Wt) (j σ:Nat):Ac->Ac->Gh->Prop where
 | seen (v:Int):Td h W j σ .see (.ask v (σ+1)) h
 | asked (v:Int) (a:Nat):Td h W j σ (.ask v a) (.load v 2) h
 | loaded (v c:Int) (hc:SB c=h.cv j W.ix.toNat) (hr:W.reads c=true):Td h W j σ (.load v 2) (.check v c (σ+1)) h
 | open_ (v:Int) (hr:W.reads (h.cv j W.ix.toNat)=false) (h3:h.st j=3):Td h W j σ (.load v 2) (.lay v (h.cv j W.ix.toNat)) h
 | told (v c:Int) (ld:Nat) (h4:h.st j<=4):Td h W j σ (.check v c ld) (.over (if W.other c then 8 else 0) (SB c) ld) h
 | gone (α:Ac) (h5:5<=h.st j):Td h W j σ α (.over 3 0 (σ+1)) h
 | laid (v:Int) (hr:W.reads (h.cv j W.ix.toNat)=false) (h3:h.st j=3):Td h W j σ (.lay v (h.cv j W.ix.toNat)) (.over 0 (h.cv j W.ix.toNat) (σ+1)) (h.alt j 3 (upd (h.cv j) W.ix.toNat W.vl) 0 (.node j) (h.gen (h.nd j).x))
 | RX (v c:Int) (hc:c≠h.cv j W.ix.toNat):Td h W j σ (.lay v c) .see h
section
variable {t n k m σ K j:Nat} {q q':Q} {h:Gh} {jb:Nat->Jb} {cg p r:Int} {W:Wt}
theorem Ground.FU (G:Ground t n k m q h) (hG:Good t n k m cg p r) (hn:n<=65535) (hJ:h.J<=60000) (hj:j<h.J):su t n k m (h.nd j):=by
 have N:=G.nk j hj
 obtain⟨u,e1,e2⟩:=N.ex
 have hus:=G.us _ N.ik
 have hin:=PT (t:=t) (n:=n) (k:=k) (m:=m) (u:=u) (r:=3) N.ik (by omega)
 have hmk:k * m<=64 * 256:=Nat.mul_le_mul hG.k1 hG.n1
 have ht:=hG.t1
 have hk:=hG.k1
 have Kv:=N.xn
 have Fv:=G.gb _ N.xn
 have htl:tot h.dead h.J<=h.J:=UR (fun i _=>by unfold Gh.dead;split <;> omega)
 have hg:(h.nd j).g<=h.gen (h.nd j).x:=by
  by_cases h4:h.st j<=4
  . rw[N.g4 h4];exact Nat.le_refl _
  . exact Nat.le_of_lt (N.g5 (by omega))
 have e:(h.nd j).w=Zw ((1:Nat):Int) (h.nd j).a (h.nd j).g ((0:Nat):Int):=rfl
 have dec:=WU (st:=1) (A:=(h.nd j).a) (G:=(h.nd j).g) (V:=0) (by decide) (by omega) (by omega) (by decide)
 rw[<- e] at dec
 obtain⟨d1,d2,d3,d4⟩:=dec
 have mk:=GL (v:=(h.nd j).w) (by rw[d4];decide)
 obtain⟨m1,m2,m3,m4⟩:=mk
 rw[d2] at m2
 rw[d3] at m3
 rw[d4] at m4
 exact⟨⟨by rw[e];exact WX _ _ _ _,by rw[d1];rfl,by decide,by decide,N.ik,u,by omega,by rw[d2];exact e1⟩,d1,d2,d3,d4,⟨WX _ _ _ _,by rw[m1];rfl,by decide,by decide,N.ik,u,by omega,by rw[m2];exact e1⟩,m1,m2,m3,m4,by omega,by omega⟩
theorem Ground.see (G:Ground t n k m q h) (hG:Good t n k m cg p r) (hn:n<=65535) (hJ:h.J<=60000) (hj:j<h.J) (h3:3<=h.st j) :
 (5<=h.st j/\(YU (q.sw (h.nd j).x % 8) && decide (Zy (q.sw (h.nd j).x)=(h.nd j).g))=false)\/(h.st j<=4/\EH h j (q.sw (h.nd j).x)/\(YU (q.sw (h.nd j).x % 8) && decide (Zy (q.sw (h.nd j).x)=(h.nd j).g))=true):=by
 have N:=G.nk j hj
 have D:=G.FU hG hn hJ hj
 by_cases h5:5<=h.st j
 . refine Or.inl ⟨h5,?_⟩
   have hlt:=N.g5 h5
   have live:∀ i,h.so (h.nd j).x=.node i->Zy (q.sw (h.nd j).x)=h.gen (h.nd j).x:=fun i e=>by
    obtain⟨a1,a2,a3,a4⟩:=G.sn _ i N.xn e
    have Ni:=G.nk i a1
    have Di:=G.FU hG hn hJ a1
    have eg:=Ni.g4 a4
    rw[a2] at eg
    by_cases e4:h.st i=4
    . have:=Ni.w4 e4
      rw[a2] at this
      rw[this,Di.mg,eg]
    . have:=Ni.w3 a3 (by omega)
      rw[a2] at this
      rw[this,Di.gn,eg]
   have hgb:=G.gb _ N.xn
   have htl:tot h.dead h.J<=h.J:=UR (fun i _=>by unfold Gh.dead;split <;> omega)
   cases hso:h.so (h.nd j).x with
   | node i=>rw[live i hso,decide_eq_false (by omega),Bool.and_false]
   | free =>
    rw[G.fw _ N.xn (fun i e=>by rw[hso] at e;cases e)]
    have:=(WU (st:=0) (A:=0) (G:=h.gen (h.nd j).x) (V:=0) (by decide) (by decide) (by omega) (by decide)).1
    rw[show Zw 0 0 (h.gen (h.nd j).x:Int) 0 % 8=0 from this];rfl
   | X9 K' =>
    rw[G.fw _ N.xn (fun i e=>by rw[hso] at e;cases e)]
    have:=(WU (st:=0) (A:=0) (G:=h.gen (h.nd j).x) (V:=0) (by decide) (by decide) (by omega) (by decide)).1
    rw[show Zw 0 0 (h.gen (h.nd j).x:Int) 0 % 8=0 from this];rfl
 . refine Or.inr ⟨by omega,?_⟩
   by_cases e4:h.st j=4
   . rw[N.w4 e4]
     exact⟨Or.inr ⟨rfl,by omega⟩,by rw[D.ms,D.mg,decide_eq_true rfl];rfl⟩
   . rw[N.w3 (by omega) (by omega)]
     exact⟨Or.inl rfl,by rw[D.st,D.gn,decide_eq_true rfl];rfl⟩
theorem EH.ad {v:Int} (s:EH h j v) (D:su t n k m (h.nd j)):ZB v=(h.nd j).a/\UJ t n k m v 2 (h.nd j).i:=by
 rcases s with e | ⟨e,-⟩
 . rw[e];exact⟨D.ad,D.o⟩
 . rw[e];exact⟨D.ma,D.mo⟩
theorem WA.stay (M:WA t n k m q σ h jb) (hK:K<4) {b:Jb} (hb:UT t n k m q (σ+1) h K b) (hdd:∀ j α,b=.dp j α->∃ α0,jb K=.dp j α0) (hbz:(∃ j α,jb K=.al j α/\α.late=true)->∃ j α α',jb K=.al j α/\b=.al j α'/\α'.late=true) (hg:b.g=(jb K).g):WA t n k m q (σ+1) h (upd jb K b):=by
 refine M.put (YX.refl n K jb q h) (Nat.le_succ _) M.g hb (fun j α e K' α' e'=>?_) (fun j hj h2 hm=>?_) (fun j hj _=>hj) hK (by rw[hg])
 . obtain⟨α0,e0⟩:=hdd j α e
   exact M.dd K' K j α' α0 e' e0
 . obtain⟨α,e,hl⟩:=M.bz j hj h2
   rw[hm] at e
   obtain⟨j',α0,α',e1,e2,e3⟩:=hbz ⟨j,α,e,hl⟩
   rw[e] at e1
   injection e1 with e1 _
   subst e1
   exact⟨α',e2,e3⟩
theorem YX.alt {s z g:Nat} {C:Nat->Int} {S:Ow} (hs:h.st j<=s) (hso:∀ K',K'≠K->h.so (h.nd j).x=.X9 K'->S=.X9 K'/\g=h.gen (h.nd j).x) (hm:h.st j<=2->h.ma j≠K->s=h.st j) (hdp:∀ K' α,K'≠K->jb K'=.dp j α->s=h.st j/\z=h.fz j/\C=h.cv j) (hpv:h.ZL j=false->h.ma j≠K->s=h.st j) (hfx:h.ZL j=true->4294967296<=h.cv j 1->4294967296<=C 1) (hc:q'.c=q.c) (hl:q'.lk=q.lk) (hF:q'.F=q.F):YX n K jb q q' h (h.alt j s C z S g):=by
 have rZ:∀ i,(i=j->s=h.st j)->(h.alt j s C z S g).st i=h.st i:=fun i e=>by
  show upd h.st j s i=_
  by_cases ei:i=j
  . rw[ei,upd_same];exact e ei
  . exact Z8 _ _ _ _ ei
 refine⟨Nat.le_refl _,fun _ _=>rfl,fun _ _=>rfl,fun _ _=>rfl,fun i _=>?_,fun x K' hK e=>?_,fun i _ h2 uz=>rZ i (fun e=>hm (e ▸ h2) (e ▸ uz)),fun i K' α _ hK e=>?_,fun i _ hp uz=>rZ i (fun e=>hpv (e ▸ hp) (e ▸ uz)),fun i _ hp hb=>?_,fun τ e=>by rw[hc,hl,hF];exact e,fun x γ _ e=>by rw[hc,hl,hF];exact e,fun x _ e=>by rw[hF];exact e⟩
 . show _<=upd h.st j s i
   by_cases ei:i=j
   . rw[ei,upd_same];exact hs
   . rw[Z8 _ _ _ _ ei];exact Nat.le_refl _
 . show upd h.so _ S x=_/\upd h.gen _ g x=_
   by_cases ex:x=(h.nd j).x
   . rw[ex] at e ⊢
     rw[upd_same,upd_same];exact hso K' hK e
   . rw[Z8 _ _ _ _ ex,Z8 _ _ _ _ ex];exact⟨e,rfl⟩
 . show upd h.st j s i=_/\upd h.fz j z i=_/\upd h.cv j C i=_
   by_cases ei:i=j
   . rw[ei] at e ⊢
     rw[upd_same,upd_same,upd_same];exact hdp K' α hK e
   . rw[Z8 _ _ _ _ ei,Z8 _ _ _ _ ei,Z8 _ _ _ _ ei];exact⟨rfl,rfl,rfl⟩
 . show _<=upd h.cv j C i 1
   by_cases ei:i=j
   . rw[ei] at hp hb ⊢
     rw[upd_same];exact hfx hp hb
   . rw[Z8 _ _ _ _ ei];exact hb
theorem Gh.uy {c:Nat} (N:Pq t n k m q h j) (hc:c<2):SB (h.cw j c)=h.cv j c:=by
 have V:=N.vl c hc
 unfold Gh.cw
 split
 . exact Ip V
 . exact UI V.1 V.2
theorem WA.ac (M:WA t n k m q σ h jb) (hG:Good t n k m cg p r) (hn:n<=65535) (hJ:h.J<=60000) (hK4:K<4) {α α':Ac} (hjb:jb K=.ac W j α) (ht:Y9 W true (h.nd j).x (h.nd j).g σ q α=(q',α')) :
 α.good t n k m W (h.nd j).x (h.nd j).g q/\∃ h',WA t n k m q' (σ+1) h' (upd jb K (if α'.ZR then .nil else .ac W j α'))/\Td h W j σ α α' h':=by
 have O:=M.jk K
 rw[hjb] at O
 obtain⟨hj,WK,A⟩:=O
 have N:=M.g.nk j hj
 have D:=M.g.FU hG hn hJ hj
 have zL:¬ ∃ j α,jb K=.al j α/\α.late=true:=fun⟨_,_,e,_⟩=>by rw[hjb] at e;cases e
 have stay:∀ b:Jb,UT t n k m q (σ+1) h K b->(∀ j α,b≠.dp j α)->b.g=0->WA t n k m q (σ+1) h (upd jb K b):=fun b hb hne hg=>M.stay hK4 hb (fun j α e=>absurd e (hne j α)) (fun e=>absurd e zL) (by rw[hg,hjb];rfl)
 have J3:W.ix.toNat<2/\(0:Int)<=W.ix/\W.ix<2:=by rcases WK.ix with e | e <;> rw[e] <;> decide
 have hsz:=U0 (Z:=2) (x:=(h.nd j).x) (G:=(h.nd j).g) (own:=true) (by decide) D.xb D.gb
 rw[<- N.hw WK.s3] at hsz
 have rY:∀ v,EH h j v->q.dw (W.at v)=h.cw j W.ix.toNat:=fun v hv=>by
  unfold Wt.at
  rw[(hv.ad D).1]
  exact N.cw _ J3.1
 cases α with
 | over=>exact A.elim
 | stop=>exact A.elim
 | see =>
  rcases M.g.see hG hn hJ hj WK.s3 with⟨h5,hl⟩ | ⟨h4,sw,hl⟩
  . simp only[Y9,hl,Bool.false_eq_true,if_false] at ht
    obtain⟨rfl,rfl⟩:=Prod.mk.inj ht
    refine⟨fun h1 h2=>?_,h,stay .nil trivial (fun _ _=>by simp) rfl,.gone _ h5⟩
    rw[h1,h2,decide_eq_true rfl] at hl
    cases hl
  . simp only[Y9,hl,if_true] at ht
    obtain⟨rfl,rfl⟩:=Prod.mk.inj ht
    have sa:=sw.ad D
    exact⟨fun _ _=>⟨(h.nd j).i,by rw[sa.1,hsz.1];exact sa.2⟩,h,stay (.ac W j (.ask _ _)) ⟨hj,WK,sw⟩ (fun _ _=>by simp) rfl,.seen _⟩
 | ask v a =>
  have sa:=EH.ad A D
  have e:Y9 W true (h.nd j).x (h.nd j).g σ q (.ask v a)=(q,.load v 2):=by
   simp only[Y9,OW,sa.1,hsz.1,hsz.2,beq_self_eq_true,if_true]
   rw[if_pos ⟨J3.2.1,by have:=J3.2.2;omega⟩]
  rw[e] at ht
  obtain⟨rfl,rfl⟩:=Prod.mk.inj ht
  exact⟨⟨(h.nd j).i,by rw[sa.1,hsz.1];exact sa.2⟩,h,stay (.ac W j (.load v 2)) ⟨hj,WK,A,rfl⟩ (fun _ _=>by simp) rfl,.asked _ _⟩
 | load v Z =>
  obtain⟨sw,rfl⟩:=A
  have sa:=sw.ad D
  have hc:=rY v sw
  have hv:=Gh.uy N J3.1
  have hwd:Wd (h.cw j W.ix.toNat):=by rw[<- hc];exact M.g.wd _
  simp only[Y9,hc] at ht
  obtain⟨rfl,hα⟩:=Prod.mk.inj ht
  cases hr:W.reads (h.cw j W.ix.toNat) with
  | true =>
   simp only[TZ,hr,if_true] at hα
   subst hα
   exact⟨⟨⟨_,sa.2⟩,J3.2.1,J3.2.2,Or.inr (by rw[hc];exact hr)⟩,h,stay (.ac W j (.check v _ _)) ⟨hj,WK,sw,hwd,hr⟩ (fun _ _=>by simp) rfl,.loaded v _ hv hr⟩
  | false =>
   have h3:h.st j=3:=by
    rcases WK.pv with hp | hp
    . have pf:=N.pf hp
      by_cases h4:4<=h.st j
      . exfalso
        have hbig:=pf.2 h4
        rcases WK.kd with k1 | ⟨k1,k2,k3,k4⟩ | ⟨k1,k2⟩
        . unfold Wt.reads at hr;rw[k1] at hr;simp at hr
        . have:W.ix.toNat=1:=by rw[k2];rfl
          rw[this] at hr hv
          unfold Wt.reads Wt.other at hr
          rw[k1,hv,decide_eq_true (show h.cv j 1≠W.ol by omega)] at hr
          simp at hr
        . rw[hp] at k2;cases k2
      . omega
    . exact hp.2
   have hz:=N.z3 (by omega)
   have hcw:h.cw j W.ix.toNat=h.cv j W.ix.toNat:=by unfold Gh.cw;rw[hz,if_neg (by omega)]
   have hvw:v=(h.nd j).w:=by
    rcases sw with e | ⟨-,e⟩
    . exact e
    . omega
   rw[hcw] at hr hα hwd
   have V:=N.vl _ J3.1
   simp only[TZ,hr,Et V.2,Bool.false_and,Bool.false_eq_true,if_false] at hα
   subst hα
   exact⟨⟨⟨_,sa.2⟩,J3.2.1,J3.2.2,Or.inl (by rw[hvw,D.st];decide)⟩,h,stay (.ac W j (.lay v _)) ⟨hj,WK,hvw,V,hr⟩ (fun _ _=>by simp) rfl,.open_ v hr h3⟩
 | check v c ld =>
  obtain⟨sw,wc,hr⟩:=A
  have sa:=sw.ad D
  have gd:Ac.good t n k m W (h.nd j).x (h.nd j).g q (.check v c ld):=⟨sa.2.wd,wc⟩
  rcases M.g.see hG hn hJ hj WK.s3 with⟨h5,hl⟩ | ⟨h4,oQ,hl⟩
  . simp only[Y9,VC,hl,Bool.false_eq_true,if_false] at ht
    obtain⟨rfl,rfl⟩:=Prod.mk.inj ht
    exact⟨gd,h,stay .nil trivial (fun _ _=>by simp) rfl,.gone _ h5⟩
  . have ea:ZB (q.sw (h.nd j).x)=ZB v:=by rw[(oQ.ad D).1,sa.1]
    have e:Y9 W true (h.nd j).x (h.nd j).g σ q (.check v c ld)=(q,.over (if W.other c then 8 else 0) (SB c) ld):=by
     simp only[Y9,VC,hl,ea,if_true]
     split <;> rfl
    rw[e] at ht
    obtain⟨rfl,rfl⟩:=Prod.mk.inj ht
    exact⟨gd,h,stay .nil trivial (fun _ _=>by simp) rfl,.told v c ld h4⟩
 | lay v c =>
  obtain⟨hvw,V,hr⟩:=A
  have gd:Ac.good t n k m W (h.nd j).x (h.nd j).g q (.lay v c):=⟨⟨2,_,by rw[hvw];exact D.o,J3.2.2⟩,J3.2.1,V.1,by have:=V.2;omega⟩
  have hc:=rY v (Or.inl hvw)
  simp only[Y9,hc] at ht
  have uw:W.kd≠1:=fun k1=>by unfold Wt.reads at hr;rw[k1] at hr;simp at hr
  have xe:W.kd=3->c=W.ol:=fun k3=>by
   unfold Wt.reads Wt.other at hr
   rw[k3,UI V.1 V.2] at hr
   simp at hr
   exact hr
  have rX:h.cv j W.ix.toNat=c->h.st j=3:=fun hcv=>by
   rcases WK.pv with hp | hp
   . have pf:=N.pf hp
     by_cases h4:4<=h.st j
     . exfalso
       have hbig:=pf.2 h4
       rcases WK.kd with k1 | ⟨k1,k2,k3,k4⟩ | ⟨k1,k2⟩
       . exact uw k1
       . have e1:W.ix.toNat=1:=by rw[k2];rfl
         have:=xe k1
         rw[e1] at hcv
         omega
       . rw[hp] at k2;cases k2
     . omega
   . exact hp.2
  by_cases e:h.cw j W.ix.toNat=c
  . have hsmall:c<9223372036854775808:=by have:=V.2;omega
    have hz:h.cw j W.ix.toNat=h.cv j W.ix.toNat:=by
     unfold Gh.cw at e ⊢
     split
     . rename_i hlt
       rw[if_pos hlt] at e
       have:=Io (N.vl _ J3.1)
       omega
     . rfl
    have hcv:h.cv j W.ix.toNat=c:=hz.symm.trans e
    have h3:=rX hcv
    replace xe:W.kd=3->h.cv j W.ix.toNat=W.ol:=fun k=>hcv.trans (xe k)
    rw[if_pos e] at ht
    obtain⟨rfl,rfl⟩:=Prod.mk.inj ht
    rw[UI V.1 V.2,<- hcv]
    have hat:W.at v=(h.nd j).a+1+W.ix.toNat:=by unfold Wt.at;rw[hvw,D.ad]
    have oP:W.w=W.vl:=JM WK.vl.1 WK.vl.2
    have hso:=N.s2 (by omega) (by omega)
    have hown:∀ d,h.ow d≠j+1->d≠W.at v:=fun d hd e'=>hd (by rw[e',hat];exact N.ow _ (by omega) (by omega))
    have hz0:=N.z3 (by omega)
    have G':Ground t n k m { q with dw:=upd q.dw (W.at v) W.w } (h.alt j 3 (upd (h.cv j) W.ix.toNat W.vl) 0 (.node j) (h.gen (h.nd j).x)):=by
     refine M.g.alter hj rfl rfl (fun d hd=>Z8 _ _ _ _ (hown d hd)) (fun d=>?_) (fun y _=>rfl) (Or.inl (by omega)) (Nat.le_refl _) ?_ (by simp[hso]) (fun hno=>absurd rfl (hno j)) (fun i e=>Or.inl ⟨by injection e with e;exact e.symm,by omega,by omega⟩) (by simp[Gh.dead,h3]) (by simp[Gh.dead,h3]) (fun i _=>by simp[Gh.Ud,h3])
     . show Wd (upd q.dw _ _ d)
       by_cases e':d=W.at v
       . rw[e',upd_same];exact W.yR
       . rw[Z8 _ _ _ _ e'];exact M.g.wd d
     . have hs':(h.alt j 3 (upd (h.cv j) W.ix.toNat W.vl) 0 (.node j) (h.gen (h.nd j).x)).st j=3:=upd_same _ _ _
       have hf':(h.alt j 3 (upd (h.cv j) W.ix.toNat W.vl) 0 (.node j) (h.gen (h.nd j).x)).fz j=0:=upd_same _ _ _
       have hc':(h.alt j 3 (upd (h.cv j) W.ix.toNat W.vl) 0 (.node j) (h.gen (h.nd j).x)).cv j=upd (h.cv j) W.ix.toNat W.vl:=upd_same _ _ _
       have uu:(h.alt j 3 (upd (h.cv j) W.ix.toNat W.vl) 0 (.node j) (h.gen (h.nd j).x)).so (h.nd j).x=.node j:=upd_same _ _ _
       have hge':(h.alt j 3 (upd (h.cv j) W.ix.toNat W.vl) 0 (.node j) (h.gen (h.nd j).x)).gen (h.nd j).x=h.gen (h.nd j).x:=upd_same _ _ _
       refine⟨N.ik,N.ex,N.ck,N.ow,N.xn,N.g1,fun _=>by rw[show ((h.alt j 3 (upd (h.cv j) W.ix.toNat W.vl) 0 (.node j) (h.gen (h.nd j).x)).nd j)=h.nd j from rfl,hge'];exact N.g4 (by omega),fun h5=>(by rw[hs'] at h5;omega),fun h1=>(by rw[hs'] at h1;omega),fun _ _=>uu,fun _ _=>N.w3 (by omega) (by omega),fun h4=>(by rw[hs'] at h4;omega),fun _=>?_,fun c hc=>?_,fun _=>hf',fun h5=>(by rw[hs'] at h5;omega),by rw[hf'];omega,fun c hc=>?_,fun hp=>⟨by rw[hs'];omega,fun h4=>(by rw[hs'] at h4;omega)⟩,by rw[hs'];omega⟩
       . show upd q.dw _ _ (h.nd j).a=_
         rw[hat,Z8 _ _ _ _ (by omega)];exact N.hw WK.s3
       . show upd q.dw _ _ ((h.nd j).a+1+c)=_
         unfold Gh.cw
         rw[hf',if_neg (by omega),hc',hat]
         by_cases ec:c=W.ix.toNat
         . rw[ec,upd_same,upd_same];exact oP
         . rw[Z8 _ _ _ _ (by omega),Z8 _ _ _ _ ec]
           have:=N.cw c hc
           unfold Gh.cw at this
           rw[hz0,if_neg (by omega)] at this
           exact this
       . rw[hc']
         by_cases ec:c=W.ix.toNat
         . rw[ec,upd_same];exact WK.vl
         . rw[Z8 _ _ _ _ ec];exact N.vl c hc
    refine⟨by rw[hcv];exact gd,h.alt j 3 (upd (h.cv j) W.ix.toNat W.vl) 0 (.node j) (h.gen (h.nd j).x),?_,.laid _ (by rw[hcv];exact hr) h3⟩
    have V':YX n K jb q { q with dw:=upd q.dw (W.at v) W.w } h (h.alt j 3 (upd (h.cv j) W.ix.toNat W.vl) 0 (.node j) (h.gen (h.nd j).x)):=by
     refine YX.alt (by omega) (fun K' _ e'=>(by rw[hso] at e';cases e')) (fun h2 _=>(by omega)) (fun K' β hK e'=>?_) (fun _ _=>h3.symm) (fun hp hbig=>?_) rfl rfl rfl
     . exfalso
       have O':=M.jk K'
       rw[e'] at O'
       obtain⟨-,hp',hf',-⟩:=O'
       rcases WK.kd with k1 | ⟨k1,k2,k3,k4⟩ | ⟨k1,k2⟩
       . exact uw k1
       . have e1:W.ix.toNat=1:=by rw[k2];rfl
         have:=xe k1
         rw[e1] at this
         rcases WK.pv with hp | ⟨hp,-⟩
         . have:=hf' hp;omega
         . rcases hp' with Le | Le
           . have:=hf' Le;omega
           . exact hK (Le.symm.trans hp)
       . rcases WK.pv with hp | ⟨hp,-⟩
         . rw[hp] at k2;cases k2
         . rcases hp' with Le | Le
           . rw[Le] at k2;cases k2
           . exact hK (Le.symm.trans hp)
     . rcases WK.kd with k1 | ⟨k1,k2,k3,k4⟩ | ⟨k1,k2⟩
       . exact absurd k1 uw
       . have e1:W.ix.toNat=1:=by rw[k2];rfl
         have:=xe k1
         rw[e1] at this
         omega
       . rw[hp] at k2;cases k2
    refine M.put V' (Nat.le_succ _) G' trivial (fun i β e=>by cases e) (fun i hi h2 hm=>?_) (fun i hi _=>hi) hK4 ?_
    rotate_left
    . have:=Yd (h:=h) (s:=3) (C:=upd (h.cv j) W.ix.toNat W.vl) (z:=0) (S:=.node j) (g:=h.gen (h.nd j).x) hj
      rw[hjb]
      simp[Gh.live,h3] at this
      show q.F.length+0+_=q.F.length+0+_
      omega
    have h2':h.st i<=2:=Nat.le_trans (V'.st i hi) h2
    obtain⟨β,e',hl⟩:=M.bz i hi h2'
    have hm':h.ma i=K:=hm
    rw[hm'] at e'
    exact absurd ⟨i,β,e',hl⟩ zL
  . rw[if_neg e] at ht
    obtain⟨rfl,rfl⟩:=Prod.mk.inj ht
    refine⟨gd,h,stay (.ac W j .see) ⟨hj,WK,trivial⟩ (fun _ _=>by simp) rfl,.RX _ c (fun e'=>?_)⟩
    have h3:=rX e'.symm
    apply e
    unfold Gh.cw
    rw[N.z3 (by omega),if_neg (by omega),e']
end
end
section
theorem Tk.Yg {n c c':Nat} {lk lk':Nat->Nat} {F F':List Nat} {τ:Tk} (h:τ.good n c lk F) (hc:c<c'):τ.good n c' lk' F':=by
 cases τ with
 | idle=>trivial
 | XL x c0=>exact⟨h.1,by have:=h.2.1;omega,fun e=>by have:=h.2.1;omega⟩
 | XP x c0 q=>exact⟨h.1,h.2.1,by have:=h.2.2.1;omega,fun e=>by have:=h.2.2.1;omega⟩
 | YF x=>exact h
 | none=>trivial
theorem Gv.Yg {n c c':Nat} {lk:Nat->Nat} {F F':List Nat} {x:Nat} {γ:Gv} (h:γ.good n c lk F x) (hc:c<c'):γ.good n c' lk F' x:=by
 cases γ with
 | idle=>trivial
 | XL q c0=>exact⟨h.1,by have:=h.2.1;omega,fun e=>by have:=h.2.1;omega⟩
 | XP q c0=>exact⟨h.1,h.2.1,by have:=h.2.2.1;omega,fun e=>by have:=h.2.2.1;omega⟩
 | over=>trivial
theorem Tk.VK {n c:Nat} {lk:Nat->Nat} {F:List Nat} {τ:Tk} (h:τ.good n c lk F) {x:Nat} (hx:x∉F) (q:Nat):τ.good n c (upd lk x q) F:=by
 cases τ with
 | idle=>trivial
 | XL y c0=>exact h
 | XP y c0 q' =>
  refine⟨h.1,h.2.1,h.2.2.1,fun e=>⟨(h.2.2.2 e).1,?_⟩⟩
  have hy:y∈F:=by
   have:=(h.2.2.2 e).1
   cases F with
   | nil=>simp[hd] at this
   | cons z F=>simp[hd] at this;subst this;simp
  rw[Z8 lk x y q (fun e'=>hx (by rw[<- e'];exact hy))]
  exact(h.2.2.2 e).2
 | YF x=>exact h
 | none=>trivial
theorem Gv.VK {n c:Nat} {lk:Nat->Nat} {F:List Nat} {y:Nat} {γ:Gv} (h:γ.good n c lk F y) {x:Nat} (hx:y≠x) (q:Nat):γ.good n c (upd lk x q) F y:=by
 cases γ with
 | idle=>trivial
 | XL q' c0=>exact h
 | XP q' c0=>exact⟨h.1,by rw[Z8 _ _ _ _ hx];exact h.2.1,h.2.2⟩
 | over=>trivial
structure YP (h h':Gh) (j:Nat):Prop where
 J:h'.J=h.J
 nd:h'.nd=h.nd
 cv:h'.cv=h.cv
 ZL:h'.ZL=h.ZL
 ma:h'.ma=h.ma
 st:∀ i,i≠j->h'.st i=h.st i
 up:h.st j<=h'.st j
theorem YP.refl (h:Gh) (j:Nat):YP h h j:=⟨rfl,rfl,rfl,rfl,rfl,fun _ _=>rfl,Nat.le_refl _⟩
theorem YP.alt {h:Gh} {j s z g:Nat} {S:Ow} (hs:h.st j<=s):YP h (h.alt j s (h.cv j) z S g) j :=
 ⟨rfl,rfl,YD _ _,rfl,rfl,fun i hi=>Z8 _ _ _ _ hi,by show _<=upd h.st j s j;rw[upd_same];exact hs⟩
theorem YP.slot {h:Gh} {j x:Nat} {S:Ow}:YP h { h with so:=upd h.so x S } j:=⟨rfl,rfl,rfl,rfl,rfl,fun _ _=>rfl,Nat.le_refl _⟩
section
variable {t n k m σ K j:Nat} {q q':Q} {h:Gh} {jb:Nat->Jb} {cg p r:Int}
theorem Ground.slot (G:Ground t n k m q h) {x:Nat} {S:Ow} (hy:q'.y=q.y) (hsw:q'.sw=q.sw) (hdw:q'.dw=q.dw) (hlv:q'.lv=q.lv) (hno:∀ i,i<h.J->h.st i<=4->(h.nd i).x≠x) (hS:∀ i,S≠.node i) (h0:∀ i,h.so x≠.node i) (hF:∀ y,y≠x->(y∈q'.F↔y∈q.F)) (hFx:S=.free↔x∈q'.F):Ground t n k m q' { h with so:=upd h.so x S }:=by
 refine⟨fun i hi=>?_,G.hn,fun y hy'=>?_,fun y hy' hno'=>?_,fun y i hy' e=>?_,G.gb,fun i hi=>by rw[hlv];exact G.lv i hi,fun i hi=>by rw[hy];exact G.us i hi,fun d hd=>by rw[hy];exact G.ins d hd,fun d hd=>by rw[hdw];exact G.nz d hd,fun d=>by rw[hdw];exact G.wd d⟩
 . exact(G.nk i hi).keep (by rw[hy];exact Xm.refl k q.y) rfl rfl rfl rfl rfl rfl (fun _ e=>e) (fun h4=>⟨Z8 _ _ _ _ (hno i hi h4),rfl⟩) (Nat.le_refl _) (fun _ _=>by rw[hsw]) (fun d _=>by rw[hdw])
 . show upd h.so x S y=.free↔_
   by_cases e:y=x
   . rw[e,upd_same];exact hFx
   . rw[Z8 _ _ _ _ e,hF y e];exact G.fr y hy'
 . rw[hsw]
   refine G.fw y hy' (fun i e'=>?_)
   by_cases e:y=x
   . rw[e] at e';exact h0 i e'
   . exact hno' i ((Z8 _ _ _ _ e).trans e')
 . have e':upd h.so x S y=.node i:=e
   by_cases ex:y=x
   . rw[ex,upd_same] at e';exact absurd e' (hS i)
   . rw[Z8 _ _ _ _ ex] at e';exact G.sn y i hy' e'
theorem YX.slot {x:Nat} {S:Ow} (hx:∀ K',K'≠K->h.so x≠.X9 K') (tk:∀ τ:Tk,τ.good n q.c q.lk q.F->τ.good n q'.c q'.lk q'.F) (gv:∀ y (γ:Gv),y≠x->γ.good n q.c q.lk q.F y->γ.good n q'.c q'.lk q'.F y) (nf:∀ y,h.so y≠.X9 K->y∉q.F->y∉q'.F) (hxy:∀ γ:Gv,h.so x≠.X9 K->γ.good n q.c q.lk q.F x->γ.good n q'.c q'.lk q'.F x):YX n K jb q q' h { h with so:=upd h.so x S } :=
 ⟨Nat.le_refl _,fun _ _=>rfl,fun _ _=>rfl,fun _ _=>rfl,fun _ _=>Nat.le_refl _,fun y K' hK e=>⟨(Z8 _ _ _ _ (fun e'=>hx K' hK (by rw[<- e'];exact e))).trans e,rfl⟩,fun _ _ _ _=>rfl,fun _ _ _ _ _ _=>⟨rfl,rfl,rfl⟩,fun _ _ _ _=>rfl,fun _ _ _ e=>e,tk,fun y γ hne g=>by
  by_cases e:y=x
  . rw[e] at hne g ⊢;exact hxy γ hne g
  . exact gv y γ e g,nf⟩
theorem WA.dp (M:WA t n k m q σ h jb) (hG:Good t n k m cg p r) (hn:n<=65535) (hJ:h.J<=60000) (hcg:(h.J:Int)+2<=cg) (hF:∀ x,x∈q.F->x<n) (hK4:K<4) {α α':Dp} (hjb:jb K=.dp j α) (ht:ZK t n k m cg true (h.nd j).x (h.nd j).g q α=(q',α')) :
 (α.good t n k m (h.nd j).x (h.nd j).g q/\∀ Z i η,α=.fin Z i η->α'=.count Z i->q'.sw (h.nd j).x≠q.sw (h.nd j).x)/\∃ h',WA t n k m q' (σ+1) h' (upd jb K (if α'.ZR then .nil else .dp j α'))/\YP h h' j/\∀ E,α'=.over E->E=0:=by
 have O:=M.jk K
 rw[hjb] at O
 obtain⟨hj,hpm,Fp,A⟩:=O
 have N:=M.g.nk j hj
 have D:=M.g.FU hG hn hJ hj
 have zL:¬ ∃ j α,jb K=.al j α/\α.late=true:=fun⟨_,_,e,_⟩=>by rw[hjb] at e;cases e
 have stay:∀ β:Dp,wY n q h K j β->β.La=α.La->WA t n k m q (σ+1) h (upd jb K (.dp j β)):=fun β hb hh=>M.stay hK4 ⟨hj,hpm,Fp,hb⟩ (fun j' β' e=>by injection e with e1 e2;subst e1;exact⟨α,hjb⟩) (fun e=>absurd e zL) (by rw[hjb];exact hh)
 have put:∀ {q1:Q} {h1:Gh} {b:Jb},YX n K jb q q1 h h1->Ground t n k m q1 h1->h1.J=h.J->h1.ma=h.ma->UT t n k m q1 (σ+1) h1 K b->(∀ j' β,b=.dp j' β->j'=j)->(q1.F.length+b.g+tot h1.live h1.J=q.F.length+α.La+tot h.live h.J)->WA t n k m q1 (σ+1) h1 (upd jb K b):=fun {q1 h1 b} V G eJ eM hb hd hs=>by
  refine M.put V (Nat.le_succ _) G hb (fun j' β e K' β' e'=>?_) (fun i hi h2 hm=>?_) (fun i hi _=>by rw[<- eJ];exact hi) hK4 (by rw[hjb];exact hs)
  . have:=hd j' β e
    subst this
    exact M.dd K' K _ β' α e' hjb
  . rw[eJ] at hi
    obtain⟨β,e',hl⟩:=M.bz i hi (Nat.le_trans (V.st i hi) h2)
    rw[eM] at hm
    rw[hm] at e'
    exact absurd ⟨i,β,e',hl⟩ zL
 have hsz:3<=h.st j->U5 (q.dw (h.nd j).a)=2/\Xy (q.dw (h.nd j).a)=true:=fun h3=>by
  rw[N.hw h3];exact U0 (Z:=2) (x:=(h.nd j).x) (G:=(h.nd j).g) (own:=true) (by decide) D.xb D.gb
 have htl:tot h.dead h.J<=h.J:=UR (fun i _=>by unfold Gh.dead;split <;> omega)
 have hgb:=M.g.gb _ N.xn
 have alone:∀ K' β,K'≠K->jb K'=.dp j β->False:=fun K' β hK e=>hK (M.dd K' K j β α e hjb)
 cases α with
 | Ve η=>exact A.elim
 | over E=>exact A.elim
 | see =>
  have h3:h.st j=3:=A
  have hw:=N.w3 (by omega) (by omega)
  have hs:=hsz (by omega)
  have e:ZK t n k m cg true (h.nd j).x (h.nd j).g q .see=(q,.ask (h.nd j).w):=by
   simp only[ZK,hw,D.st,D.gn,decide_true]
   rfl
  rw[e] at ht
  obtain⟨rfl,rfl⟩:=Prod.mk.inj ht
  exact⟨⟨fun _ _=>⟨(h.nd j).i,by rw[hw,D.ad,hs.1];exact D.o⟩,(fun Z i η e=>by cases e)⟩,h,stay _ ⟨h3,rfl⟩ rfl,YP.refl h j,(fun E e=>by cases e)⟩
 | ask v =>
  obtain⟨h3,hv⟩:=A
  have hs:=hsz (by omega)
  have e:ZK t n k m cg true (h.nd j).x (h.nd j).g q (.ask v)=(q,.mark v 2):=by
   simp only[ZK,Sl,hv,D.ad,hs.1,hs.2,D.st,beq_self_eq_true,if_true]
   rfl
  rw[e] at ht
  obtain⟨rfl,rfl⟩:=Prod.mk.inj ht
  exact⟨⟨⟨(h.nd j).i,by rw[hv,D.ad,hs.1];exact D.o⟩,(fun Z i η e=>by cases e)⟩,h,stay _ ⟨h3,hv,rfl⟩ rfl,YP.refl h j,(fun E e=>by cases e)⟩
 | mark v Z =>
  obtain⟨h3,hv,rfl⟩:=A
  have hw:=N.w3 (by omega) (by omega)
  have hso:=N.s2 (by omega) (by omega)
  have hz0:=N.z3 (by omega)
  have hch:(Za t n k m (ZB v)).toNat=(h.nd j).i:=by rw[hv,D.o.c1];rfl
  simp only[ZK,hw,hv,if_true] at ht
  rw[<- hv,hch] at ht
  obtain⟨rfl,rfl⟩:=Prod.mk.inj ht
  refine⟨⟨⟨(h.nd j).i,by rw[hv];exact D.o⟩,(fun Z i η e=>by cases e)⟩,h.alt j 4 (h.cv j) 0 (.node j) (h.gen (h.nd j).x),?_,YP.alt (by omega),(fun E e=>by cases e)⟩
  have SL:(h.alt j 4 (h.cv j) 0 (.node j) (h.gen (h.nd j).x)).st j=4:=upd_same _ _ _
  have Ue:(h.alt j 4 (h.cv j) 0 (.node j) (h.gen (h.nd j).x)).cv=h.cv:=YD _ _
  have fz0:(h.alt j 4 (h.cv j) 0 (.node j) (h.gen (h.nd j).x)).fz j=0:=upd_same _ _ _
  have EG:(h.alt j 4 (h.cv j) 0 (.node j) (h.gen (h.nd j).x)).so (h.nd j).x=.node j:=upd_same _ _ _
  have CU:(h.alt j 4 (h.cv j) 0 (.node j) (h.gen (h.nd j).x)).gen (h.nd j).x=h.gen (h.nd j).x:=upd_same _ _ _
  refine put (YX.alt (by omega) (fun K' _ e'=>(by rw[hso] at e';cases e')) (fun h2 _=>(by omega)) (fun K' β hK e'=>(alone K' β hK e').elim) (fun hp hm=>?_) (fun _ hb=>hb) rfl rfl rfl) ?_ rfl rfl ⟨hj,hpm,by rw[Ue];exact Fp,SL,rfl,rfl,rfl,by rw[hv];rfl,fz0.symm,(fun u' e=>by cases e)⟩ (fun j' β e=>by injection e with e1 _;exact e1.symm) (by have hl:=Yd (h:=h) (s:=4) (C:=h.cv j) (z:=0) (S:=.node j) (g:=h.gen (h.nd j).x) hj;simp[Gh.live,h3] at hl;show q.F.length+0+_=q.F.length+0+_;omega)
  . rcases hpm with hp' | hp'
    . rw[hp'] at hp;cases hp
    . exact absurd hp' hm
  . refine M.g.alter hj rfl rfl (fun d _=>rfl) M.g.wd (fun y hy=>Z8 _ _ _ _ hy) (Or.inl (by omega)) (Nat.le_refl _) ?_ (by simp[hso]) (fun hno=>absurd rfl (hno j)) (fun i e=>Or.inl ⟨by injection e with e;exact e.symm,by omega,by omega⟩) (by simp[Gh.dead,h3]) (by simp[Gh.dead,h3]) (fun i _=>by simp[Gh.Ud,h3])
    refine⟨N.ik,N.ex,N.ck,N.ow,N.xn,N.g1,fun _=>(N.g4 (by omega)).trans CU.symm,fun h5=>(by rw[SL] at h5;omega),fun h1=>(by rw[SL] at h1;omega),fun _ _=>EG,fun _ h4=>(by rw[SL] at h4;omega),fun _=>?_,fun _=>N.hw (by omega),fun c hc=>?_,fun h4=>(by rw[SL] at h4;omega),fun h5=>(by rw[SL] at h5;omega),by rw[fz0];omega,by rw[Ue];exact N.vl,fun hp=>⟨by rw[SL];omega,fun _=>by rw[Ue];exact Fp hp⟩,by rw[SL];omega⟩
    . show upd q.sw _ _ (h.nd j).x=XU (h.nd j).w
      rw[upd_same,hv]
    . have:=N.cw c hc
      unfold Gh.cw at this ⊢
      rw[hz0,if_neg (by omega)] at this
      rw[fz0,if_neg (by omega),Ue]
      exact this
 | fin Z i η =>
  cases η with
  | over wn=>exact A.elim
  | go v Z' c u =>
   obtain⟨h4,rfl,rfl,rfl,hv,hc,hu⟩:=A
   have hso:=N.s2 (by omega) (by omega)
   have hw4:=N.w4 h4
   have hz2:=N.z2
   have gd:Dp.good t n k m (h.nd j).x (h.nd j).g q (.fin 2 (h.nd j).i (.go v 2 c u)):=by
    refine⟨⟨⟨(h.nd j).i,by rw[hv];exact D.mo⟩,fun u' e=>?_⟩,rfl⟩
    obtain⟨h1,h2⟩:=hu u' e
    have V:=N.vl c h1
    rw[h2];exact⟨V.1,by have:=V.2;omega⟩
   have had:ZB v=(h.nd j).a:=by rw[hv];exact D.ma
   have um:Y3 v=1:=by rw[hv];exact D.mv
   by_cases c2:2<=c
   . -- the slot's word is laid
     have e0:Zl cg (h.nd j).x q (.go v 2 c u)=({ q with sw:=upd q.sw (h.nd j).x (Yq cg v) },.over true):=by
      cases u <;> simp only[Zl,c2,if_true,VX,hw4,hv]
     simp only[ZK,e0,V5] at ht
     obtain⟨rfl,rfl⟩:=Prod.mk.inj ht
     have hg4:=N.g4 (by omega)
     have hbw:Yq cg v=Zw 0 0 ((h.gen (h.nd j).x+1:Nat):Int) 0:=by
      unfold Yq
      rw[hv,D.mg,if_neg (by omega),hg4]
      rfl
     have hfz:h.fz j=2:=by omega
     have hne:(Zw 0 0 ((h.gen (h.nd j).x+1:Nat):Int) 0) % 8=0:=(WU (st:=0) (A:=0) (G:=h.gen (h.nd j).x+1) (V:=0) (by decide) (by decide) (by omega) (by decide)).1
     have CS:(h.alt j 5 (h.cv j) 2 (.X9 K) (h.gen (h.nd j).x+1)).st j=5:=upd_same _ _ _
     have Ue:(h.alt j 5 (h.cv j) 2 (.X9 K) (h.gen (h.nd j).x+1)).cv=h.cv:=YD _ _
     have Ld:(h.alt j 5 (h.cv j) 2 (.X9 K) (h.gen (h.nd j).x+1)).fz j=2:=upd_same _ _ _
     have EG:(h.alt j 5 (h.cv j) 2 (.X9 K) (h.gen (h.nd j).x+1)).so (h.nd j).x=.X9 K:=upd_same _ _ _
     have CU:(h.alt j 5 (h.cv j) 2 (.X9 K) (h.gen (h.nd j).x+1)).gen (h.nd j).x=h.gen (h.nd j).x+1:=upd_same _ _ _
     refine⟨⟨gd,fun Z i η _ _=>?_⟩,h.alt j 5 (h.cv j) 2 (.X9 K) (h.gen (h.nd j).x+1),?_,YP.alt (by omega),(fun E e=>by cases e)⟩
     . show upd q.sw _ _ (h.nd j).x≠_
       rw[upd_same,hbw,hw4]
       intro e
       have:=D.ms
       rw[<- e,hne] at this
       exact absurd this (by decide)
     . have hb:∀ q1,UT t n k m q1 (σ+1) (h.alt j 5 (h.cv j) 2 (.X9 K) (h.gen (h.nd j).x+1)) K (.dp j (.count 2 (h.nd j).i)):=fun _=>⟨hj,hpm,by rw[Ue];exact Fp,CS,rfl,rfl,EG⟩
       have V:YX n K jb q { q with sw:=upd q.sw (h.nd j).x (Yq cg v) } h (h.alt j 5 (h.cv j) 2 (.X9 K) (h.gen (h.nd j).x+1)):=by
        refine YX.alt (by omega) (fun K' _ e'=>(by rw[hso] at e';cases e')) (fun h2 _=>(by omega)) (fun K' β hK e'=>(alone K' β hK e').elim) (fun hp hm=>?_) (fun _ hb=>hb) rfl rfl rfl
        rcases hpm with hp' | hp'
        . rw[hp'] at hp;cases hp
        . exact absurd hp' hm
       have G':Ground t n k m { q with sw:=upd q.sw (h.nd j).x (Yq cg v) } (h.alt j 5 (h.cv j) 2 (.X9 K) (h.gen (h.nd j).x+1)):=by
        refine M.g.alter hj rfl rfl (fun d _=>rfl) M.g.wd (fun y hy=>Z8 _ _ _ _ hy) (Or.inl (by omega)) (by omega) ?_ (by simp[hso]) (fun _=>?_) (fun i e=>by cases e) (by simp[Gh.dead,h4]) (by simp[Gh.dead,h4]) (fun i _=>by simp[Gh.Ud,h4])
        . refine⟨N.ik,N.ex,N.ck,N.ow,N.xn,N.g1,fun h5=>(by rw[CS] at h5;omega),fun _=>?_,fun h1=>(by rw[CS] at h1;omega),fun _ h5=>(by rw[CS] at h5;omega),fun _ h5=>(by rw[CS] at h5;omega),fun h5=>(by rw[CS] at h5;omega),fun _=>N.hw (by omega),fun c hc=>?_,fun h5=>(by rw[CS] at h5;omega),fun _=>Ld,by rw[Ld];omega,by rw[Ue];exact N.vl,fun hp=>⟨by rw[CS];omega,fun _=>by rw[Ue];exact Fp hp⟩,by rw[CS];omega⟩
          . show (h.nd j).g<(h.alt j 5 (h.cv j) 2 (.X9 K) (h.gen (h.nd j).x+1)).gen (h.nd j).x
            rw[CU];omega
          . have:=N.cw c hc
            unfold Gh.cw at this ⊢
            rw[Ld,Ue,<- hfz]
            exact this
        . show upd q.sw _ _ (h.nd j).x=_
          rw[upd_same,hbw]
       exact put V G' rfl rfl (hb _) (fun j' β e=>by cases e;rfl) (by have hl:=Yd (h:=h) (s:=5) (C:=h.cv j) (z:=2) (S:=.X9 K) (g:=h.gen (h.nd j).x+1) hj;simp[Gh.live,h4] at hl;show q.F.length+1+_=q.F.length+0+_;omega)
   . have hpl:q.dw ((h.nd j).a+1+c)=h.cv j c:=by
      have:=N.cw c (by omega)
      unfold Gh.cw at this
      rw[if_neg (by omega)] at this
      exact this
     have V:=N.vl c (by omega)
     cases u with
     | none =>
      have e0:Zl cg (h.nd j).x q (.go v 2 c none)=(q,.go v 2 c (some (h.cv j c))):=by
       simp only[Zl,if_neg c2,had,hpl,UD V.2,Bool.false_eq_true,if_false]
      simp only[ZK,e0,V5] at ht
      obtain⟨rfl,rfl⟩:=Prod.mk.inj ht
      exact⟨⟨gd,(fun Z i η _ e=>by cases e)⟩,h,stay _ ⟨h4,rfl,rfl,rfl,hv,hc,fun u' e=>by injection e with e;exact⟨by omega,e.symm⟩⟩ rfl,YP.refl h j,(fun E e=>by cases e)⟩
     | some u' =>
      obtain⟨-,hu2⟩:=hu u' rfl
      have e0:Zl cg (h.nd j).x q (.go v 2 c (some u'))=({ q with dw:=upd q.dw ((h.nd j).a+1+c) (froze (h.cv j c) 1) },.go v 2 (c+1) none):=by
       simp only[Zl,if_neg c2,had,hpl,hu2,if_true,um]
      simp only[ZK,e0,V5] at ht
      obtain⟨rfl,rfl⟩:=Prod.mk.inj ht
      have SL:(h.alt j 4 (h.cv j) (c+1) (.node j) (h.gen (h.nd j).x)).st j=4:=upd_same _ _ _
      have Ue:(h.alt j 4 (h.cv j) (c+1) (.node j) (h.gen (h.nd j).x)).cv=h.cv:=YD _ _
      have Ld:(h.alt j 4 (h.cv j) (c+1) (.node j) (h.gen (h.nd j).x)).fz j=c+1:=upd_same _ _ _
      have EG:(h.alt j 4 (h.cv j) (c+1) (.node j) (h.gen (h.nd j).x)).so (h.nd j).x=.node j:=upd_same _ _ _
      have CU:(h.alt j 4 (h.cv j) (c+1) (.node j) (h.gen (h.nd j).x)).gen (h.nd j).x=h.gen (h.nd j).x:=upd_same _ _ _
      refine⟨⟨gd,(fun Z i η _ e=>by cases e)⟩,h.alt j 4 (h.cv j) (c+1) (.node j) (h.gen (h.nd j).x),?_,YP.alt (by omega),(fun E e=>by cases e)⟩
      refine put (YX.alt (by omega) (fun K' _ e'=>(by rw[hso] at e';cases e')) (fun h2 _=>(by omega)) (fun K' β hK e'=>(alone K' β hK e').elim) (fun hp hm=>h4.symm) (fun _ hb=>hb) rfl rfl rfl) ?_ rfl rfl ⟨hj,hpm,by rw[Ue];exact Fp,SL,rfl,rfl,rfl,hv,Ld.symm,(fun u' e=>by cases e)⟩ (fun j' β e=>by injection e with e1 _;exact e1.symm) (by have hl:=Yd (h:=h) (s:=4) (C:=h.cv j) (z:=c+1) (S:=.node j) (g:=h.gen (h.nd j).x) hj;simp[Gh.live,h4] at hl;show q.F.length+0+_=q.F.length+0+_;omega)
      refine M.g.alter hj rfl rfl (fun d hd=>?_) (fun d=>?_) (fun y hy=>rfl) (Or.inl (by omega)) (Nat.le_refl _) ?_ (by simp[hso]) (fun hno=>absurd rfl (hno j)) (fun i e=>Or.inl ⟨by injection e with e;exact e.symm,by omega,by omega⟩) (by simp[Gh.dead,h4]) (by simp[Gh.dead,h4]) (fun i _=>by simp[Gh.Ud,h4])
      . exact Z8 _ _ _ _ (fun e'=>hd (by rw[e'];exact N.ow _ (by omega) (by omega)))
      . show Wd (upd q.dw _ _ d)
        by_cases e':d=(h.nd j).a+1+c
        . rw[e',upd_same];exact Oq _ _
        . rw[Z8 _ _ _ _ e'];exact M.g.wd d
      . refine⟨N.ik,N.ex,N.ck,N.ow,N.xn,N.g1,fun _=>(N.g4 (by omega)).trans CU.symm,fun h5=>(by rw[SL] at h5;omega),fun h1=>(by rw[SL] at h1;omega),fun _ _=>EG,fun _ h4=>(by rw[SL] at h4;omega),fun _=>hw4,fun _=>?_,fun c' hc'=>?_,fun h4=>(by rw[SL] at h4;omega),fun h5=>(by rw[SL] at h5;omega),by rw[Ld];omega,by rw[Ue];exact N.vl,fun hp=>⟨by rw[SL];omega,fun _=>by rw[Ue];exact Fp hp⟩,by rw[SL];omega⟩
        . show upd q.dw _ _ (h.nd j).a=_
          rw[Z8 _ _ _ _ (by omega)];exact N.hw (by omega)
        . show upd q.dw _ _ ((h.nd j).a+1+c')=_
          have:=N.cw c' hc'
          unfold Gh.cw at this ⊢
          rw[Ld,Ue]
          by_cases ec:c'=c
          . rw[ec,upd_same,if_pos (by omega)]
          . rw[Z8 _ _ _ _ (by omega),this,<- hc]
            by_cases hlt:c'<c
            . rw[if_pos hlt,if_pos (by omega)]
            . rw[if_neg hlt,if_neg (by omega)]
 | count Z i =>
  obtain⟨h5,rfl,rfl,hso⟩:=A
  have hr:room (ZI ((2:Nat):Int)).toNat=3:=by decide
  have hl:=M.g.lv _ N.ik
  have hge:=zM (f:=h.Ud (h.nd j).i) hj
  have h3:h.Ud (h.nd j).i j=3:=by simp[Gh.Ud,h5]
  have hg5:=N.g5 (by omega)
  have e:ZK t n k m cg true (h.nd j).x (h.nd j).g q (.count 2 (h.nd j).i)=({ q with lv:=upd q.lv (h.nd j).i (q.lv (h.nd j).i - 3) },.give .idle):=by
   simp only[ZK,hr]
   rw[if_neg (by omega)]
  rw[e] at ht
  obtain⟨rfl,rfl⟩:=Prod.mk.inj ht
  have CQ:(h.alt j 6 (h.cv j) 2 (.X9 K) (h.gen (h.nd j).x)).st j=6:=upd_same _ _ _
  have Ue:(h.alt j 6 (h.cv j) 2 (.X9 K) (h.gen (h.nd j).x)).cv=h.cv:=YD _ _
  have Ld:(h.alt j 6 (h.cv j) 2 (.X9 K) (h.gen (h.nd j).x)).fz j=2:=upd_same _ _ _
  have EG:(h.alt j 6 (h.cv j) 2 (.X9 K) (h.gen (h.nd j).x)).so (h.nd j).x=.X9 K:=upd_same _ _ _
  have CU:(h.alt j 6 (h.cv j) 2 (.X9 K) (h.gen (h.nd j).x)).gen (h.nd j).x=h.gen (h.nd j).x:=upd_same _ _ _
  refine⟨⟨⟨by decide,by decide,N.ik,by rw[hr];omega⟩,(fun Z i η e=>by cases e)⟩,h.alt j 6 (h.cv j) 2 (.X9 K) (h.gen (h.nd j).x),?_,YP.alt (by omega),(fun E e=>by cases e)⟩
  refine put (YX.alt (by omega) (fun K' hK e'=>(by rw[hso] at e';injection e' with e';exact absurd e'.symm hK)) (fun h2 _=>(by omega)) (fun K' β hK e'=>(alone K' β hK e').elim) (fun hp hm=>?_) (fun _ hb=>hb) rfl rfl rfl) ?_ rfl rfl ⟨hj,hpm,by rw[Ue];exact Fp,CQ,EG,trivial,rfl⟩ (fun j' β e=>by injection e with e1 _;exact e1.symm) (by have hl:=Yd (h:=h) (s:=6) (C:=h.cv j) (z:=2) (S:=.X9 K) (g:=h.gen (h.nd j).x) hj;simp[Gh.live,h5] at hl;show q.F.length+1+_=q.F.length+1+_;omega)
  . rcases hpm with hp' | hp'
    . rw[hp'] at hp;cases hp
    . exact absurd hp' hm
  . refine M.g.alter hj rfl rfl (fun d _=>rfl) M.g.wd (fun y hy=>rfl) (Or.inr ⟨hso.symm,rfl,rfl⟩) (Nat.le_refl _) ?_ (by simp[hso]) (fun _=>M.g.fw _ N.xn (fun i e=>by rw[hso] at e;cases e)) (fun i e=>by cases e) (by simp[Gh.dead,h5]) (by simp[Gh.dead,h5]) (fun i hi=>?_)
    . refine⟨N.ik,N.ex,N.ck,N.ow,N.xn,N.g1,fun h6=>(by rw[CQ] at h6;omega),fun _=>?_,fun h1=>(by rw[CQ] at h1;omega),fun _ h6=>(by rw[CQ] at h6;omega),fun _ h6=>(by rw[CQ] at h6;omega),fun h6=>(by rw[CQ] at h6;omega),fun _=>N.hw (by omega),fun c hc=>?_,fun h6=>(by rw[CQ] at h6;omega),fun _=>Ld,by rw[Ld];omega,by rw[Ue];exact N.vl,fun hp=>⟨by rw[CQ];omega,fun _=>by rw[Ue];exact Fp hp⟩,by rw[CQ];omega⟩
      . show (h.nd j).g<(h.alt j 6 (h.cv j) 2 (.X9 K) (h.gen (h.nd j).x)).gen (h.nd j).x
        rw[CU];exact hg5
      . have:=N.cw c hc
        unfold Gh.cw at this ⊢
        rw[Ld,Ue,<- N.z5 (by omega)]
        exact this
    . show upd q.lv _ _ i+_=_
      by_cases ei:i=(h.nd j).i
      . rw[ei,upd_same,h3];simp;omega
      . rw[Z8 _ _ _ _ ei];simp[Gh.Ud,Ne.symm ei]
 | give γ =>
  obtain⟨h6,hso,gg,yZ⟩:=A
  have UE:(h.nd j).x∉q.F:=fun e=>by have:=(M.g.fr _ N.xn).2 e;rw[hso] at this;cases this
  have gd:Dp.good t n k m (h.nd j).x (h.nd j).g q (.give γ):=⟨UE,gg,yZ⟩
  have hdn:hd q.F<=n:=by
   cases hF':q.F with
   | nil=>simp[hd]
   | cons y F=>simp[hd];have:=hF y (by rw[hF'];simp);omega
  cases γ with
  | over=>cases yZ
  | idle =>
   simp only[ZK,Zd,Xv] at ht
   obtain⟨rfl,rfl⟩:=Prod.mk.inj ht
   exact⟨⟨gd,(fun Z i η e=>by cases e)⟩,h,stay (.give (.XL (hd q.F) q.c)) ⟨h6,hso,⟨hdn,Nat.le_refl _,fun _=>rfl⟩,rfl⟩ rfl,YP.refl h j,(fun E e=>by cases e)⟩
  | XL y c0 =>
   simp only[ZK,Zd,Xv] at ht
   obtain⟨rfl,rfl⟩:=Prod.mk.inj ht
   refine⟨⟨gd,(fun Z i η e=>by cases e)⟩,{ h with so:=upd h.so (h.nd j).x (.X9 K) },?_,YP.slot,(fun E e=>by cases e)⟩
   refine put (YX.slot (fun K' hK e=>by rw[hso] at e;injection e with e;exact hK e.symm) (fun τ g=>Tk.VK g UE _) (fun y γ hy g=>Gv.VK g hy _) (fun _ _ e=>e) (fun γ e=>absurd hso e)) (M.g.slot rfl rfl rfl rfl (fun i hi h4 e=>?_) (fun i e=>by cases e) (fun i e=>by rw[hso] at e;cases e) (fun _ _=>Iff.rfl) ⟨(fun e=>by cases e),fun e=>absurd e UE⟩) rfl rfl ⟨hj,hpm,Fp,h6,upd_same _ _ _,⟨gg.1,upd_same _ _ _,gg.2⟩,rfl⟩ (fun j' β e=>by injection e with e1 _;exact e1.symm) rfl
   have Ni:=M.g.nk i hi
   by_cases h1:h.st i<=1
   . have e1:=Ni.s1 h1
     rw[e,hso] at e1
     injection e1 with e1
     obtain⟨β,e',hl⟩:=M.bz i hi (by omega)
     rw[<- e1] at e'
     exact zL ⟨i,β,e',hl⟩
   . have e1:=Ni.s2 (by omega) h4
     rw[e,hso] at e1
     cases e1
  | XP y c0 =>
   simp only[ZK,Zd] at ht
   split at ht
   . simp only[Xv] at ht
     obtain⟨rfl,rfl⟩:=Prod.mk.inj ht
     refine⟨⟨gd,(fun Z i η e=>by cases e)⟩,{ h with so:=upd h.so (h.nd j).x .free },?_,YP.slot,fun E e=>by injection e with e;exact e.symm⟩
     refine put (b:=.nil) (YX.slot (fun K' hK e=>by rw[hso] at e;injection e with e;exact hK e.symm) (fun τ g=>Tk.Yg g (Nat.lt_succ_self _)) (fun y γ _ g=>Gv.Yg g (Nat.lt_succ_self _)) (fun y hy hy' hm=>?_) (fun γ e=>absurd hso e)) (M.g.slot rfl rfl rfl rfl (fun i hi h4 e=>?_) (fun i e=>by cases e) (fun i e=>by rw[hso] at e;cases e) (fun y hy=>?_) ⟨fun _=>by simp,fun _=>rfl⟩) rfl rfl trivial (fun j' β e=>by cases e) (by show (q.F.length+1)+0+_=q.F.length+1+_;rfl)
     . rcases List.mem_cons.1 hm with e | e
       . rw[e] at hy;exact hy hso
       . exact hy' e
     . have Ni:=M.g.nk i hi
       by_cases h1:h.st i<=1
       . have e1:=Ni.s1 h1
         rw[e,hso] at e1
         injection e1 with e1
         obtain⟨β,e',hl⟩:=M.bz i hi (by omega)
         rw[<- e1] at e'
         exact zL ⟨i,β,e',hl⟩
       . have e1:=Ni.s2 (by omega) h4
         rw[e,hso] at e1
         cases e1
     . simp[hy]
   . simp only[Xv] at ht
     obtain⟨rfl,rfl⟩:=Prod.mk.inj ht
     exact⟨⟨gd,(fun Z i η e=>by cases e)⟩,h,stay (.give .idle) ⟨h6,hso,trivial,rfl⟩ rfl,YP.refl h j,(fun E e=>by cases e)⟩
end
end
section
def Gh.born (h:Gh) (d:Nd) (K:Nat):Gh:={ h with J:=h.J+1,nd:=upd h.nd h.J d,st:=upd h.st h.J 0,cv:=upd h.cv h.J (fun _=>0),fz:=upd h.fz h.J 0,ZL:=upd h.ZL h.J false,ma:=upd h.ma h.J K,ow:=fun e=>if d.a<=e/\e<d.a+3 then h.J+1 else h.ow e }
theorem NP {k m κ σ:Nat} {bs:Nat->Nat} {y:Y} {τ:Pl} (hg:τ.good k m κ σ):Xm k y (turn k m κ bs y τ).1:=by
 intro i hi h1 h2
 have Xl:∀ (j:Nat) (c:Ck),(i=j->c.st=1/\(y.ck i).us<=c.us)->(upd y.ck j c i).st=1/\(y.ck i).us<=(upd y.ck j c i).us:=fun j c hc=>by
  by_cases e:i=j
  . subst e;rw[upd_same];exact hc rfl
  . rw[Z8 _ _ _ _ e];exact⟨h1,Nat.le_refl _⟩
 have same:(y.ck i).st=1/\(y.ck i).us<=(y.ck i).us:=⟨h1,Nat.le_refl _⟩
 cases τ with
 | see=>exact same
 | ask j=>exact same
 | grow j c =>
  obtain⟨hik,hc,k1,k2,k3⟩:=hg
  simp only[turn]
  split
  . rename_i e
    refine Xl j _ (fun ij=>?_)
    subst ij
    rw[e]
    exact⟨k1,Nat.le_add_right _ _⟩
  . exact same
 | look sn j=>exact same
 | take sn j c =>
  obtain⟨hik,hsn,hc,h0⟩:=hg
  simp only[turn]
  split
  . rename_i e
    refine Xl j _ (fun ij=>?_)
    subst ij
    rw[e,h0] at h1;cases h1
  . exact same
 | opn sn j c =>
  simp only[turn]
  split <;> exact same
 | Wh sn j c =>
  obtain⟨hik,hsn,hc,k0,k1,k2⟩:=hg
  simp only[turn]
  split
  . rename_i e
    refine Xl j _ (fun ij=>?_)
    subst ij
    rw[e,k2] at h2;cases h2
  . exact same
 | YF a j=>exact same
 | none=>exact same
theorem Fq {k m κ σ:Nat} {bs:Nat->Nat} {y:Y} {τ:Pl} (hg:τ.good k m κ σ) (hu:∀ i,i<k->(y.ck i).us<=m):∀ i,i<k->((turn k m κ bs y τ).1.ck i).us<=m:=by
 intro i hi
 have Xl:∀ (j:Nat) (c:Ck),c.us<=m->(upd y.ck j c i).us<=m:=fun j c hc=>by
  by_cases e:i=j
  . subst e;rw[upd_same];exact hc
  . rw[Z8 _ _ _ _ e];exact hu i hi
 cases τ with
 | see=>exact hu i hi
 | ask j=>exact hu i hi
 | grow j c =>
  simp only[turn]
  split
  . exact Xl _ _ hg.2.2.2.2
  . exact hu i hi
 | look sn j=>exact hu i hi
 | take sn j c =>
  simp only[turn]
  split
  . exact Xl _ _ (Nat.zero_le _)
  . exact hu i hi
 | opn sn j c =>
  simp only[turn]
  split <;> exact hu i hi
 | Wh sn j c =>
  simp only[turn]
  split
  . exact Xl _ _ (Nat.zero_le _)
  . exact hu i hi
 | YF a j=>exact hu i hi
 | none=>exact hu i hi
inductive QN (h:Gh) (K j σ:Nat) (q:Q):Al->Nat->Al->Gh->Prop where
 | on {α α':Al} {h':Gh} (c:YP h h' j) (hs:h'.st j=h.st j\/(j<h.J/\h.st j<=2/\h.ma j=K)) (ho:α'.ZR=false) (hl:α'.late=true->α.late=true):QN h K j σ q α j α' h'
 | YF {x g a i:Nat} {τ:Pl}:QN h K j σ q (.place x g τ) h.J (.count x g a i) (h.born ⟨x,g,a,i⟩ K)
 | made {x g a i st:Nat} {h':Gh} (hj:j<h.J) (hd:h.nd j=⟨x,g,a,i⟩) (hm:h.ma j=K) (h2:h.st j=2) (h3:h'.st j=3) (c:YP h h' j):QN h K j σ q (.ready x g a i st) j (.over 0 (Yi x g) st) h'
 | none {α:Al} (hF:q.F=[]):QN h K j σ q α j (.over 7 0 (σ+1)) h
 | full {α:Al} {h':Gh} (c:YP h h' j) (hs:h'.st j=h.st j):QN h K j σ q α j (.over 6 0 (σ+1)) h'
section
variable {t n k m σ K j:Nat} {q q':Q} {h:Gh} {jb:Nat->Jb} {cg p r:Int}
theorem YX.same (hc:q'.c=q.c) (hl:q'.lk=q.lk) (hF:q'.F=q.F):YX n K jb q q' h h :=
 ⟨Nat.le_refl _,fun _ _=>rfl,fun _ _=>rfl,fun _ _=>rfl,fun _ _=>Nat.le_refl _,fun _ _ _ e=>⟨e,rfl⟩,fun _ _ _ _=>rfl,fun _ _ _ _ _ _=>⟨rfl,rfl,rfl⟩,fun _ _ _ _=>rfl,fun _ _ _ e=>e,fun _ e=>by rw[hc,hl,hF];exact e,fun _ _ _ e=>by rw[hc,hl,hF];exact e,fun _ _ e=>by rw[hF];exact e⟩
theorem Ground.of (G:Ground t n k m q h) (hy:q'.y=q.y) (hs:q'.sw=q.sw) (hd:q'.dw=q.dw) (hl:q'.lv=q.lv) (hF:q'.F=q.F):Ground t n k m q' h :=
 ⟨fun i hi=>(G.nk i hi).keep (by rw[hy];exact Xm.refl k q.y) rfl rfl rfl rfl rfl rfl (fun _ e=>e) (fun _=>⟨rfl,rfl⟩) (Nat.le_refl _) (fun _ _=>by rw[hs]) (fun _ _=>by rw[hd]),G.hn,by rw[hF];exact G.fr,by rw[hs];exact G.fw,G.sn,G.gb,by rw[hl];exact G.lv,by rw[hy];exact G.us,by rw[hy];exact G.ins,by rw[hd];exact G.nz,by rw[hd];exact G.wd⟩
theorem Pq.grow (N:Pq t n k m q h j) {s:Nat} {S:Ow} (h2:h.st j<=2) (h3:s<=3) (hy:q'.y=q.y) (hS1:s<=1->S=.X9 (h.ma j)) (hS2:2<=s->S=.node j/\q'.sw (h.nd j).x=(h.nd j).w) (hw:3<=s->q'.dw (h.nd j).a=Zj 2 (2:Nat) (h.nd j).x (h.nd j).g true) (hc:∀ c,c<2->q'.dw ((h.nd j).a+1+c)=q.dw ((h.nd j).a+1+c)):Pq t n k m q' (h.alt j s (h.cv j) 0 S (h.gen (h.nd j).x)) j:=by
 have NW:(h.alt j s (h.cv j) 0 S (h.gen (h.nd j).x)).st j=s:=upd_same _ _ _
 have Ue:(h.alt j s (h.cv j) 0 S (h.gen (h.nd j).x)).cv=h.cv:=YD _ _
 have Ld:(h.alt j s (h.cv j) 0 S (h.gen (h.nd j).x)).fz j=0:=upd_same _ _ _
 have EG:(h.alt j s (h.cv j) 0 S (h.gen (h.nd j).x)).so (h.nd j).x=S:=upd_same _ _ _
 have CU:(h.alt j s (h.cv j) 0 S (h.gen (h.nd j).x)).gen (h.nd j).x=h.gen (h.nd j).x:=upd_same _ _ _
 have hz0:=N.z3 (by omega)
 refine⟨N.ik,by rw[hy];exact N.ex,by rw[hy];exact N.ck,N.ow,N.xn,N.g1,fun _=>(N.g4 (by omega)).trans CU.symm,fun h5=>(by rw[NW] at h5;omega),fun h1=>EG.trans (hS1 (by rw[NW] at h1;exact h1)),fun h1 _=>EG.trans (hS2 (by rw[NW] at h1;exact h1)).1,fun h1 _=>(hS2 (by rw[NW] at h1;exact h1)).2,fun h4=>(by rw[NW] at h4;omega),fun h1=>hw (by rw[NW] at h1;exact h1),fun c hc'=>?_,fun _=>Ld,fun h5=>(by rw[NW] at h5;omega),by rw[Ld];omega,by rw[Ue];exact N.vl,fun hp=>?_,by rw[NW];omega⟩
 . show q'.dw ((h.nd j).a+1+c)=_
   rw[hc c hc',N.cw c hc']
   unfold Gh.cw
   rw[hz0,Ld,Ue]
 . have:=(N.pf hp).1
   omega
theorem Ground.U3 (G:Ground t n k m q h) {y':Y} (hk:Xm k q.y y') (hu:∀ i,i<k->(y'.ck i).us<=m):Ground t n k m { q with y:=y' } h:=by
 refine⟨fun i hi=>(G.nk i hi).keep hk rfl rfl rfl rfl rfl rfl (fun _ e=>e) (fun _=>⟨rfl,rfl⟩) (Nat.le_refl _) (fun _ _=>rfl) (fun _ _=>rfl),G.hn,G.fr,G.fw,G.sn,G.gb,G.lv,hu,fun d hd=>?_,G.nz,G.wd⟩
 obtain⟨c,h1,h2,h3,h4⟩:=G.ins d hd
 obtain⟨k1,k2⟩:=hk c h1 h2 (by omega)
 exact⟨c,h1,k1,h3,by show d<_+(y'.ck c).us;omega⟩
theorem Zz (d:Nd) {i:Nat} (hi:i<h.J):(h.born d K).nd i=h.nd i/\(h.born d K).st i=h.st i/\(h.born d K).cv i=h.cv i/\(h.born d K).fz i=h.fz i/\(h.born d K).ZL i=h.ZL i/\(h.born d K).ma i=h.ma i :=
 ⟨Z8 _ _ _ _ (by omega),Z8 _ _ _ _ (by omega),Z8 _ _ _ _ (by omega),Z8 _ _ _ _ (by omega),Z8 _ _ _ _ (by omega),Z8 _ _ _ _ (by omega)⟩
theorem Ro (d:Nd):(h.born d K).nd h.J=d/\(h.born d K).st h.J=0/\(h.born d K).cv h.J=(fun _=>0)/\(h.born d K).fz h.J=0/\(h.born d K).ZL h.J=false/\(h.born d K).ma h.J=K :=
 ⟨upd_same _ _ _,upd_same _ _ _,upd_same _ _ _,upd_same _ _ _,upd_same _ _ _,upd_same _ _ _⟩
theorem Ground.born (G:Ground t n k m q h) {y':Y} {x a i:Nat} {c:Ck} (hk:Xm k q.y y') (hu:∀ i,i<k->(y'.ck i).us<=m) (hi:i<k) (hc:q.y.ck i=c) (ha:a=base t n k m i+c.us) (nC:c.us+3<=m) (h1:c.st=1) (hc':y'.ck i=⟨c.st,c.cl,c.us+3,c.sp⟩) (hx:x<n) (hso:h.so x=.X9 K) (hno:∀ j,j<h.J->h.st j<=4->(h.nd j).x≠x):Ground t n k m { q with y:=y' } (h.born ⟨x,h.gen x,a,i⟩ K):=by
 have fresh:∀ d,a<=d->d<a+3->h.ow d=0:=fun d e1 e2=>by
  by_cases hd:h.ow d=0
  . exact hd
  . exfalso
    obtain⟨c',k1,k2,k3,k4⟩:=G.ins d hd
    have hu':=G.us c' k1
    by_cases ec:c'=i
    . subst ec;rw[hc] at k4;omega
    . exact ML (t:=t) (n:=n) (k:=k) (m:=m) (i:=c') (j:=i) (u:=d - base t n k m c') (v:=d - base t n k m i) (by omega) (by omega) (Ne.symm ec) (by omega)
 have G1:=G.U3 hk hu
 obtain⟨n1,n2,n3,n4,n5,n6⟩:=Ro (h:=h) (K:=K) ⟨x,h.gen x,a,i⟩
 have hlt:∀ j',j'<h.J+1->j'<h.J\/j'=h.J:=fun j' hj'=>by omega
 refine⟨fun j' hj'=>?_,fun j1 j2 h1' h2' ex eg=>?_,G.fr,G.fw,fun y j' hy e=>?_,fun y hy=>?_,fun l hl=>?_,hu,fun d hd=>?_,fun d hd=>?_,G.wd⟩
 . rcases hlt j' hj' with hj' | hj'
   . obtain⟨o1,o2,o3,o4,o5,o6⟩:=Zz (h:=h) (K:=K) ⟨x,h.gen x,a,i⟩ hj'
     refine(G1.nk j' hj').keep (Xm.refl _ _) o1 o2 o3 o4 o5 o6 (fun d hd=>?_) (fun _=>⟨rfl,rfl⟩) (Nat.le_refl _) (fun _ _=>rfl) (fun _ _=>rfl)
     show (if a<=d/\d<a+3 then h.J+1 else h.ow d)=j'+1
     rw[if_neg (fun e=>by have:=fresh d e.1 e.2;omega)];exact hd
   . subst hj'
     have hg:=G.gb x hx
     constructor
     . rw[n1];exact hi
     . rw[n1];exact⟨c.us,ha,by show c.us+3<=(y'.ck i).us;rw[hc'];exact Nat.le_refl _⟩
     . rw[n1];show (y'.ck i).st=1;rw[hc'];exact h1
     . rw[n1];exact fun d e1 e2=>if_pos ⟨e1,e2⟩
     . rw[n1];exact hx
     . rw[n1];exact hg.1
     . rw[n1];exact fun _=>rfl
     . rw[n2];intro h5;omega
     . rw[n1,n6];exact fun _=>hso
     . rw[n2];intro h5;omega
     . rw[n2];intro h5;omega
     . rw[n2];intro h5;omega
     . rw[n2];intro h5;omega
     . intro c2 hc2
       rw[n1]
       show q.dw (a+1+c2)=_
       unfold Gh.cw
       rw[n4,n3,if_neg (by omega)]
       exact G.nz _ (fresh _ (by omega) (by omega))
     . exact fun _=>n4
     . rw[n2];intro h5;omega
     . rw[n4];omega
     . rw[n3];exact fun _ _=>⟨Int.le_refl _,show (0:Int)<=1099511627775 by decide⟩
     . rw[n5];intro e;cases e
     . rw[n2];omega
 . have J1:j1<h.J+1:=h1'
   have J2:j2<h.J+1:=h2'
   have lone:∀ j',j'<h.J->(h.nd j').x=x->(h.nd j').g≠h.gen x:=fun j' hj' e1 e2=>by
    by_cases h4:h.st j'<=4
    . exact hno j' hj' h4 e1
    . have:=(G.nk j' hj').g5 (by omega)
      rw[e1] at this;omega
   rcases hlt j1 J1 with q1 | q1 <;> rcases hlt j2 J2 with q2 | q2
   . rw[(Zz _ q1).1,(Zz _ q2).1] at ex eg
     exact G.hn j1 j2 q1 q2 ex eg
   . subst q2
     rw[(Zz _ q1).1,n1] at ex eg
     exact absurd eg (lone j1 q1 ex)
   . subst q1
     rw[(Zz _ q2).1,n1] at ex eg
     exact absurd eg.symm (lone j2 q2 ex.symm)
   . omega
 . obtain⟨a1,a2,a3,a4⟩:=G.sn y j' hy e
   obtain⟨o1,o2,-⟩:=Zz (h:=h) (K:=K) ⟨x,h.gen x,a,i⟩ a1
   refine⟨?_,by rw[o1];exact a2,by rw[o2];exact a3,by rw[o2];exact a4⟩
   show j'<h.J+1;omega
 . have hb:=G.gb y hy
   have e1:tot (h.born ⟨x,h.gen x,a,i⟩ K).dead h.J=tot h.dead h.J:=Xn (fun j' hj'=>by unfold Gh.dead;rw[(Zz _ hj').2.1])
   show 1<=h.gen y/\h.gen y<=1+(tot (h.born ⟨x,h.gen x,a,i⟩ K).dead h.J+(h.born ⟨x,h.gen x,a,i⟩ K).dead h.J)
   rw[e1];omega
 . have e1:tot ((h.born ⟨x,h.gen x,a,i⟩ K).Ud l) h.J=tot (h.Ud l) h.J:=Xn (fun j' hj'=>by unfold Gh.Ud;rw[(Zz _ hj').1,(Zz _ hj').2.1])
   have e2:(h.born ⟨x,h.gen x,a,i⟩ K).Ud l h.J=0:=by unfold Gh.Ud;rw[n2,if_neg (by omega)]
   show q.lv l=tot ((h.born ⟨x,h.gen x,a,i⟩ K).Ud l) h.J+(h.born ⟨x,h.gen x,a,i⟩ K).Ud l h.J
   rw[e1,e2];exact G.lv l hl
 . by_cases e:a<=d/\d<a+3
   . exact⟨i,hi,by show (y'.ck i).st=1;rw[hc'];exact h1,by omega,by show d<_+(y'.ck i).us;rw[hc'];show d<_+(c.us+3);omega⟩
   . have hd':(if a<=d/\d<a+3 then h.J+1 else h.ow d)≠0:=hd
     rw[if_neg e] at hd'
     exact G1.ins d hd'
 . have hd':(if a<=d/\d<a+3 then h.J+1 else h.ow d)=0:=hd
   by_cases e:a<=d/\d<a+3
   . rw[if_pos e] at hd';omega
   . rw[if_neg e] at hd';exact G.nz d hd'
theorem WA.al (M:WA t n k m q σ h jb) (hJ:h.J<=60000) (hK4:K<4) {α α':Al} (hjb:jb K=.al j α) (ho:α.ZR=false) (ht:ZN t n k m 0 2 true σ q α=(q',α')) (hg':α'.good t n k m 0 (σ+1) q') :
 ∃ h' j',WA t n k m q' (σ+1) h' (upd jb K (if α'.ZR then .nil else .al j' α'))/\QN h K j σ q α j' α' h':=by
 have O:=M.jk K
 rw[hjb] at O
 obtain⟨gd,A⟩:=O
 have mine:∀ i,i<h.J->h.st i<=2->h.ma i=K->i=j/\α.late=true:=fun i hi h2 hm=>by
  obtain⟨β,e,hl⟩:=M.bz i hi h2
  rw[hm,hjb] at e
  injection e with e1 e2
  rw[e2]
  exact⟨e1.symm,hl⟩
 have put:∀ {q1:Q} {h1:Gh} {b:Jb},YX n K jb q q1 h h1->Ground t n k m q1 h1->h1.J=h.J->h1.ma=h.ma->UT t n k m q1 (σ+1) h1 K b->(∀ j' β,b≠.dp j' β)->(h1.st j<=2->α.late=true->∃ β,b=.al j β/\β.late=true)->(q1.F.length+b.g+tot h1.live h1.J=q.F.length+α.La+tot h.live h.J)->WA t n k m q1 (σ+1) h1 (upd jb K b):=fun {q1 h1 b} V G eJ eM hb hd hz hs=>by
  refine M.put V (Nat.le_succ _) G hb (fun j' β e=>absurd e (hd j' β)) (fun i hi h2 hm=>?_) (fun i hi _=>by rw[<- eJ];exact hi) hK4 (by rw[hjb];exact hs)
  rw[eJ] at hi
  rw[eM] at hm
  obtain⟨e1,e2⟩:=mine i hi (Nat.le_trans (V.st i hi) h2) hm
  rw[e1] at h2 ⊢
  exact hz h2 e2
 have free:∀ x,α.late=false->h.so x=.X9 K->∀ i,i<h.J->h.st i<=4->(h.nd i).x≠x:=fun x hl hso i hi h4 e=>by
  have Ni:=M.g.nk i hi
  by_cases h1:h.st i<=1
  . have e1:=Ni.s1 h1
    rw[e,hso] at e1
    injection e1 with e1
    have:=(mine i hi (by omega) e1.symm).2
    rw[hl] at this;cases this
  . have e1:=Ni.s2 (by omega) h4
    rw[e,hso] at e1
    cases e1
 cases α with
 | over E H st=>cases ho
 | take τ =>
  cases τ with
  | YF x=>cases gd.2
  | none=>cases gd.2
  | idle =>
   cases hF:q.F with
   | nil =>
    simp only[ZN,Zn,hF,Y7,Prod.mk.injEq] at ht
    obtain⟨rfl,rfl⟩:=ht
    exact⟨h,j,put (b:=.nil) (YX.same rfl rfl hF.symm) (M.g.of rfl rfl rfl rfl hF.symm) rfl rfl trivial (fun _ _ e=>by cases e) (fun _ e=>by cases e) (by show ([]:List Nat).length+0+_=q.F.length+0+_;rw[hF]),.none hF⟩
   | cons x F =>
    simp only[ZN,Zn,hF,Y7,Prod.mk.injEq] at ht
    obtain⟨rfl,rfl⟩:=ht
    exact⟨h,j,put (YX.same rfl rfl hF.symm) (M.g.of rfl rfl rfl rfl hF.symm) rfl rfl ⟨hg',trivial⟩ (fun _ _ e=>by cases e) (fun _ e=>by cases e) (by show (x :: F).length+0+_=q.F.length+0+_;rw[hF]),.on (YP.refl h j) (Or.inl rfl) rfl (fun e=>by cases e)⟩
  | XL x c0 =>
   simp only[ZN,Zn,Y7,Prod.mk.injEq] at ht
   obtain⟨rfl,rfl⟩:=ht
   exact⟨h,j,put (YX.same rfl rfl rfl) M.g rfl rfl ⟨hg',trivial⟩ (fun _ _ e=>by cases e) (fun _ e=>by cases e) rfl,.on (YP.refl h j) (Or.inl rfl) rfl (fun e=>by cases e)⟩
  | XP x c0 q0 =>
   simp only[ZN,Zn] at ht
   split at ht
   . rename_i e
     simp only[Y7,Prod.mk.injEq] at ht
     obtain⟨rfl,rfl⟩:=ht
     have hh:=(gd.1.2.2.2 e).1
     obtain⟨F2,hF⟩:∃ F2,q.F=x :: F2:=by
      cases hF:q.F with
      | nil=>rw[hF] at hh;simp[hd] at hh
      | cons u F2=>rw[hF] at hh;simp[hd] at hh;subst hh;exact⟨F2,rfl⟩
     have hmem:x∈q.F:=by rw[hF];simp
     have Kv:x<n:=gd.1.1
     have hfr:=(M.g.fr x Kv).2 hmem
     have hnd':x∉q.F.tail:=hg'.2
     have G':Ground t n k m { q with c:=q.c+1,F:=q.F.tail } { h with so:=upd h.so x (.X9 K) }:=by
      refine M.g.slot rfl rfl rfl rfl (fun i hi h4 e'=>?_) (fun i e=>by cases e) (fun i e=>by rw[hfr] at e;cases e) (fun y hy=>?_) ⟨(fun e=>by cases e),fun e=>absurd e hnd'⟩
      . have Ni:=M.g.nk i hi
        by_cases h1:h.st i<=1
        . have e1:=Ni.s1 h1
          rw[e',hfr] at e1;cases e1
        . have e1:=Ni.s2 (by omega) h4
          rw[e',hfr] at e1;cases e1
      . rw[hF];simp[hy]
     have V':YX n K jb q { q with c:=q.c+1,F:=q.F.tail } h { h with so:=upd h.so x (.X9 K) }:=YX.slot (fun K' _ e=>by rw[hfr] at e;cases e) (fun τ g=>Tk.Yg g (Nat.lt_succ_self _)) (fun y γ _ g=>Gv.Yg g (Nat.lt_succ_self _)) (fun y _ hy hm=>hy (List.mem_of_mem_tail hm)) (fun γ _ g=>Gv.Yg g (Nat.lt_succ_self _))
     exact⟨_,j,put V' G' rfl rfl ⟨hg',upd_same _ _ _⟩ (fun _ _ e=>by cases e) (fun _ e=>by cases e) (by show q.F.tail.length+1+_=q.F.length+0+_;rw[hF];rfl),.on YP.slot (Or.inl rfl) rfl (fun e=>by cases e)⟩
   . simp only[Y7,Prod.mk.injEq] at ht
     obtain⟨rfl,rfl⟩:=ht
     exact⟨h,j,put (YX.same rfl rfl rfl) M.g rfl rfl ⟨hg',trivial⟩ (fun _ _ e=>by cases e) (fun _ e=>by cases e) rfl,.on (YP.refl h j) (Or.inl rfl) rfl (fun e=>by cases e)⟩
 | ask x =>
  have hso:h.so x=.X9 K:=A
  have hsw:=M.g.fw x gd.1 (fun i e=>by rw[hso] at e;cases e)
  have hgb:=M.g.gb x gd.1
  simp only[ZN,Prod.mk.injEq] at ht
  obtain⟨rfl,rfl⟩:=ht
  have Fv:Zy (q.sw x)=h.gen x:=by
   rw[hsw]
   have htl:tot h.dead h.J<=h.J:=UR (fun i _=>by unfold Gh.dead;split <;> omega)
   exact Gz (by omega)
  exact⟨h,j,put (YX.same rfl rfl rfl) M.g rfl rfl ⟨hg',hso,Fv⟩ (fun _ _ e=>by cases e) (fun _ e=>by cases e) rfl,.on (YP.refl h j) (Or.inl rfl) rfl (fun e=>by cases e)⟩
 | place x g τ =>
  obtain⟨hso,Fv⟩:=A
  have gt:=gd.2.2.2.1
  have go:=gd.2.2.2.2
  obtain⟨y',τ',e⟩:∃ y' τ',turn k m 0 (base t n k m) q.y τ=(y',τ'):=⟨_,_,rfl⟩
  have hkp:Xm k q.y y':=by have:=NP (y:=q.y) (bs:=base t n k m) gt;rw[e] at this;exact this
  have hus:∀ i,i<k->(y'.ck i).us<=m:=by have:=Fq (y:=q.y) (bs:=base t n k m) gt M.g.us;rw[e] at this;exact this
  simp only[ZN,e] at ht
  rcases SY τ' with hf | ⟨a,i,rfl⟩ | rfl
  . rw[Xt hf] at ht
    obtain⟨rfl,rfl⟩:=Prod.mk.inj ht
    exact⟨h,j,put (YX.same rfl rfl rfl) (M.g.U3 hkp hus) rfl rfl ⟨hg',hso,Fv⟩ (fun _ _ e=>by cases e) (fun _ e=>by cases e) rfl,.on (YP.refl h j) (Or.inl rfl) rfl (fun e=>by cases e)⟩
  . have ht':({ q with y:=y' },Al.count x g a i)=(q',α'):=ht
    obtain⟨rfl,rfl⟩:=Prod.mk.inj ht'
    obtain⟨c,-,hik,hck,ha,hu,hc1,hc2,hy⟩:=OB gt go e
    have hcy:y'.ck i=⟨c.st,c.cl,c.us+3,c.sp⟩:=by rw[hy];exact upd_same _ _ _
    subst Fv
    have G':=M.g.born (K:=K) hkp hus hik hck ha hu hc1 hcy gd.1 hso (free x rfl hso)
    obtain⟨n1,n2,n3,n4,n5,n6⟩:=Ro (h:=h) (K:=K) ⟨x,h.gen x,a,i⟩
    refine⟨h.born ⟨x,h.gen x,a,i⟩ K,h.J,?_,.YF⟩
    have V':YX n K jb q { q with y:=y' } h (h.born ⟨x,h.gen x,a,i⟩ K):=⟨by show h.J<=h.J+1;omega,fun i hi=>(Zz _ hi).1,fun i hi=>(Zz _ hi).2.2.2.2.2,fun i hi=>(Zz _ hi).2.2.2.2.1,fun i hi=>by rw[(Zz _ hi).2.1];exact Nat.le_refl _,fun _ _ _ e=>⟨e,rfl⟩,fun i hi _ _=>(Zz _ hi).2.1,fun i K' β hi _ _=>⟨(Zz _ hi).2.1,(Zz _ hi).2.2.2.1,(Zz _ hi).2.2.1⟩,fun i hi _ _=>(Zz _ hi).2.1,fun i hi _ e=>by rw[(Zz _ hi).2.2.1];exact e,fun _ e=>e,fun _ _ _ e=>e,fun _ _ e=>e⟩
    refine M.put V' (Nat.le_succ _) G' ⟨hg',Nat.lt_succ_self _,n1,n2,n6⟩ (fun _ _ e=>by cases e) (fun i' hi' h2 hm=>?_) (fun i' hi' hne=>?_) hK4 ?_
    rotate_right
    . have e1:tot (h.born ⟨x,h.gen x,a,i⟩ K).live h.J=tot h.live h.J:=Xn (fun j' hj'=>by unfold Gh.live;rw[(Zz _ hj').2.1])
      have e2:(h.born ⟨x,h.gen x,a,i⟩ K).live h.J=0:=by unfold Gh.live;rw[n2,if_neg (by omega)]
      rw[hjb]
      show q.F.length+1+(tot (h.born ⟨x,h.gen x,a,i⟩ K).live h.J+(h.born ⟨x,h.gen x,a,i⟩ K).live h.J)=q.F.length+1+_
      rw[e1,e2];rfl
    . have uq:i'<h.J+1:=hi'
      by_cases e':i'=h.J
      . rw[e'];exact⟨_,rfl,rfl⟩
      . have hlt:i'<h.J:=by omega
        rw[(Zz _ hlt).2.2.2.2.2] at hm
        rw[(Zz _ hlt).2.1] at h2
        have:=(mine i' hlt h2 hm).2
        cases this
    . have uq:i'<h.J+1:=hi'
      by_cases e':i'=h.J
      . rw[e',n6] at hne;exact absurd rfl hne
      . omega
  . have ht':({ q with y:=y' },Al.give x g .idle)=(q',α'):=ht
    obtain⟨rfl,rfl⟩:=Prod.mk.inj ht'
    exact⟨h,j,put (YX.same rfl rfl rfl) (M.g.U3 hkp hus) rfl rfl ⟨hg',hso⟩ (fun _ _ e=>by cases e) (fun _ e=>by cases e) rfl,.on (YP.refl h j) (Or.inl rfl) rfl (fun e=>by cases e)⟩
 | count x g a i =>
  obtain⟨hj,hd,h0,hm⟩:=A
  have N:=M.g.nk j hj
  have hso:=N.s1 (by omega)
  have ei:(h.nd j).i=i:=by rw[hd]
  have hz0:=N.z3 (by omega)
  simp only[ZN,Prod.mk.injEq] at ht
  obtain⟨rfl,rfl⟩:=ht
  have G':Ground t n k m { q with lv:=upd q.lv i (q.lv i+room 0) } (h.alt j 1 (h.cv j) 0 (.X9 (h.ma j)) (h.gen (h.nd j).x)):=by
   refine M.g.alter hj rfl rfl (fun d _=>rfl) M.g.wd (fun y hy=>rfl) (Or.inl (by omega)) (Nat.le_refl _) (N.grow (by omega) (by omega) rfl (fun _=>rfl) (fun h=>by omega) (fun h=>by omega) (fun _ _=>rfl)) (by simp[hso]) (fun _=>M.g.fw _ N.xn (fun i e=>by rw[hso] at e;cases e)) (fun i e=>by cases e) (by simp[Gh.dead,h0]) (by simp[Gh.dead,h0]) (fun l hl=>?_)
   show upd q.lv i _ l+_=_
   by_cases e:l=i
   . rw[e,upd_same,ei];simp[Gh.Ud,h0,room]
   . rw[Z8 _ _ _ _ e];simp[Gh.Ud,h0,ei,Ne.symm e]
  have V':YX n K jb q { q with lv:=upd q.lv i (q.lv i+room 0) } h (h.alt j 1 (h.cv j) 0 (.X9 (h.ma j)) (h.gen (h.nd j).x)):=by
   refine YX.alt (by omega) (fun K' hK e'=>(by rw[hso,hm] at e';injection e' with e';exact absurd e'.symm hK)) (fun _ hne=>absurd hm hne) (fun K' β hK e'=>?_) (fun _ hne=>absurd hm hne) (fun _ e=>e) rfl rfl rfl
   have O':=M.jk K'
   rw[e'] at O'
   obtain⟨-,hp',-⟩:=O'
   rcases hp' with hp' | hp'
   . have:=(N.pf hp').1;omega
   . exact absurd (hp'.symm.trans hm) hK
  exact⟨_,j,put V' G' rfl rfl ⟨hg',hj,hd,upd_same _ _ _,hm⟩ (fun _ _ e=>by cases e) (fun _ _=>⟨_,rfl,rfl⟩) (by have hl:=Yd (h:=h) (s:=1) (C:=h.cv j) (z:=0) (S:=.X9 (h.ma j)) (g:=h.gen (h.nd j).x) hj;simp[Gh.live,h0] at hl;show q.F.length+1+_=q.F.length+1+_;omega),.on (YP.alt (by omega)) (Or.inr ⟨hj,by omega,hm⟩) rfl (fun _=>rfl)⟩
 | head x g a i =>
  obtain⟨hj,hd,h1,hm⟩:=A
  have N:=M.g.nk j hj
  have hso:=N.s1 (by omega)
  have ea:(h.nd j).a=a:=by rw[hd]
  simp only[ZN,Prod.mk.injEq] at ht
  obtain⟨rfl,rfl⟩:=ht
  have G':Ground t n k m { q with dw:=upd q.dw a (Zj 1 2 x g true) } (h.alt j 1 (h.cv j) 0 (.X9 (h.ma j)) (h.gen (h.nd j).x)):=by
   refine M.g.alter hj rfl rfl (fun d hd'=>Z8 _ _ _ _ (fun e=>hd' (N.ow d (by omega) (by omega)))) (fun d=>?_) (fun y hy=>rfl) (Or.inl (by omega)) (Nat.le_refl _) (N.grow (by omega) (by omega) rfl (fun _=>rfl) (fun h=>by omega) (fun h=>by omega) (fun c _=>Z8 _ _ _ _ (by omega))) (by simp[hso]) (fun _=>M.g.fw _ N.xn (fun i e=>by rw[hso] at e;cases e)) (fun i e=>by cases e) (by simp[Gh.dead,h1]) (by simp[Gh.dead,h1]) (fun l hl=>by simp[Gh.Ud,h1])
   show Wd (upd q.dw _ _ d)
   by_cases e:d=a
   . rw[e,upd_same];exact Vu _ _ _ _ _
   . rw[Z8 _ _ _ _ e];exact M.g.wd d
  have V':YX n K jb q { q with dw:=upd q.dw a (Zj 1 2 x g true) } h (h.alt j 1 (h.cv j) 0 (.X9 (h.ma j)) (h.gen (h.nd j).x)):=by
   refine YX.alt (by omega) (fun K' hK e'=>(by rw[hso,hm] at e';injection e' with e';exact absurd e'.symm hK)) (fun _ hne=>absurd hm hne) (fun K' β hK e'=>?_) (fun _ hne=>absurd hm hne) (fun _ e=>e) rfl rfl rfl
   have O':=M.jk K'
   rw[e'] at O'
   obtain⟨-,hp',-⟩:=O'
   rcases hp' with hp' | hp'
   . have:=(N.pf hp').1;omega
   . exact absurd (hp'.symm.trans hm) hK
  exact⟨_,j,put V' G' rfl rfl ⟨hg',hj,hd,upd_same _ _ _,hm⟩ (fun _ _ e=>by cases e) (fun _ _=>⟨_,rfl,rfl⟩) (by have hl:=Yd (h:=h) (s:=1) (C:=h.cv j) (z:=0) (S:=.X9 (h.ma j)) (g:=h.gen (h.nd j).x) hj;simp[Gh.live,h1] at hl;show q.F.length+1+_=q.F.length+1+_;omega),.on (YP.alt (by omega)) (Or.inr ⟨hj,by omega,hm⟩) rfl (fun _=>rfl)⟩
 | shw x g a i =>
  obtain⟨hj,hd,h1,hm⟩:=A
  have N:=M.g.nk j hj
  have hso:=N.s1 (by omega)
  have ex:(h.nd j).x=x:=by rw[hd]
  have ew:(h.nd j).w=Zw 1 a g 0:=by rw[hd];rfl
  simp only[ZN,Prod.mk.injEq] at ht
  obtain⟨rfl,rfl⟩:=ht
  have G':Ground t n k m { q with sw:=upd q.sw x (Zw 1 a g 0) } (h.alt j 2 (h.cv j) 0 (.node j) (h.gen (h.nd j).x)):=by
   refine M.g.alter hj rfl rfl (fun d _=>rfl) M.g.wd (fun y hy=>Z8 _ _ _ _ (by rw[<- ex];exact hy)) (Or.inl (by omega)) (Nat.le_refl _) (N.grow (by omega) (by omega) rfl (fun h=>by omega) (fun _=>⟨rfl,by rw[ex,ew];exact upd_same _ _ _⟩) (fun h=>by omega) (fun _ _=>rfl)) (by simp[hso]) (fun hno=>absurd rfl (hno j)) (fun i e=>Or.inl ⟨(Ow.node.inj e).symm,by omega,by omega⟩) (by simp[Gh.dead,h1]) (by simp[Gh.dead,h1]) (fun l hl=>by simp[Gh.Ud,h1])
  have V':YX n K jb q { q with sw:=upd q.sw x (Zw 1 a g 0) } h (h.alt j 2 (h.cv j) 0 (.node j) (h.gen (h.nd j).x)):=by
   refine YX.alt (by omega) (fun K' hK e'=>(by rw[hso,hm] at e';injection e' with e';exact absurd e'.symm hK)) (fun _ hne=>absurd hm hne) (fun K' β hK e'=>?_) (fun _ hne=>absurd hm hne) (fun _ e=>e) rfl rfl rfl
   have O':=M.jk K'
   rw[e'] at O'
   obtain⟨-,hp',-⟩:=O'
   rcases hp' with hp' | hp'
   . have:=(N.pf hp').1;omega
   . exact absurd (hp'.symm.trans hm) hK
  exact⟨_,j,put V' G' rfl rfl ⟨hg',hj,hd,upd_same _ _ _,hm⟩ (fun _ _ e=>by cases e) (fun _ _=>⟨_,rfl,rfl⟩) (by have hl:=Yd (h:=h) (s:=2) (C:=h.cv j) (z:=0) (S:=.node j) (g:=h.gen (h.nd j).x) hj;simp[Gh.live,h1] at hl;show q.F.length+0+_=q.F.length+1+_;omega),.on (YP.alt (by omega)) (Or.inr ⟨hj,by omega,hm⟩) rfl (fun _=>rfl)⟩
 | ready x g a i st =>
  obtain⟨hj,hd,h2,hm⟩:=A
  have N:=M.g.nk j hj
  have hso:=N.s2 (by omega) (by omega)
  have ea:(h.nd j).a=a:=by rw[hd]
  have hw3:=N.w3 (by omega) (by omega)
  simp only[ZN,Prod.mk.injEq] at ht
  obtain⟨rfl,rfl⟩:=ht
  have hst3:(h.alt j 3 (h.cv j) 0 (.node j) (h.gen (h.nd j).x)).st j=3:=upd_same _ _ _
  have G':Ground t n k m { q with dw:=upd q.dw a (Zj 2 2 x g true) } (h.alt j 3 (h.cv j) 0 (.node j) (h.gen (h.nd j).x)):=by
   refine M.g.alter hj rfl rfl (fun d hd'=>Z8 _ _ _ _ (fun e=>hd' (N.ow d (by omega) (by omega)))) (fun d=>?_) (fun y hy=>rfl) (Or.inl (by omega)) (Nat.le_refl _) (N.grow (by omega) (by omega) rfl (fun h=>by omega) (fun _=>⟨rfl,hw3⟩) (fun _=>?_) (fun c _=>Z8 _ _ _ _ (by omega))) (by simp[hso]) (fun hno=>absurd rfl (hno j)) (fun i e=>Or.inl ⟨(Ow.node.inj e).symm,by omega,by omega⟩) (by simp[Gh.dead,h2]) (by simp[Gh.dead,h2]) (fun l hl=>by simp[Gh.Ud,h2])
   . show Wd (upd q.dw _ _ d)
     by_cases e:d=a
     . rw[e,upd_same];exact Vu _ _ _ _ _
     . rw[Z8 _ _ _ _ e];exact M.g.wd d
   . show upd q.dw a _ (h.nd j).a=_
     rw[ea,upd_same,hd];rfl
  have V':YX n K jb q { q with dw:=upd q.dw a (Zj 2 2 x g true) } h (h.alt j 3 (h.cv j) 0 (.node j) (h.gen (h.nd j).x)):=by
   refine YX.alt (by omega) (fun K' hK e'=>(by rw[hso] at e';cases e')) (fun _ hne=>absurd hm hne) (fun K' β hK e'=>?_) (fun _ hne=>absurd hm hne) (fun _ e=>e) rfl rfl rfl
   have O':=M.jk K'
   rw[e'] at O'
   obtain⟨-,hp',-⟩:=O'
   rcases hp' with hp' | hp'
   . have:=(N.pf hp').1;omega
   . exact absurd (hp'.symm.trans hm) hK
  exact⟨_,j,put (b:=.nil) V' G' rfl rfl trivial (fun _ _ e=>by cases e) (fun e=>by rw[hst3] at e;omega) (by have hl:=Yd (h:=h) (s:=3) (C:=h.cv j) (z:=0) (S:=.node j) (g:=h.gen (h.nd j).x) hj;simp[Gh.live,h2] at hl;show q.F.length+0+_=q.F.length+0+_;omega),.made hj hd hm h2 hst3 (YP.alt (by omega))⟩
 | give x g γ =>
  have hso:h.so x=.X9 K:=A
  obtain⟨Kv,UE,gg,yZ⟩:=gd
  have hno:=free x rfl hso
  cases γ with
  | over=>cases yZ
  | idle =>
   simp only[ZN,Zd,U4,Prod.mk.injEq] at ht
   obtain⟨rfl,rfl⟩:=ht
   exact⟨h,j,put (YX.same rfl rfl rfl) M.g rfl rfl ⟨hg',hso⟩ (fun _ _ e=>by cases e) (fun _ e=>by cases e) rfl,.on (YP.refl h j) (Or.inl rfl) rfl (fun e=>by cases e)⟩
  | XL y c0 =>
   simp only[ZN,Zd,U4,Prod.mk.injEq] at ht
   obtain⟨rfl,rfl⟩:=ht
   have G':Ground t n k m { q with lk:=upd q.lk x y } { h with so:=upd h.so x (.X9 K) }:=M.g.slot rfl rfl rfl rfl hno (fun i e=>by cases e) (fun i e=>by rw[hso] at e;cases e) (fun _ _=>Iff.rfl) ⟨(fun e=>by cases e),fun e=>absurd e UE⟩
   have V':YX n K jb q { q with lk:=upd q.lk x y } h { h with so:=upd h.so x (.X9 K) }:=YX.slot (fun K' hK e=>by rw[hso] at e;injection e with e;exact hK e.symm) (fun τ g=>Tk.VK g UE _) (fun y γ hy g=>Gv.VK g hy _) (fun _ _ e=>e) (fun γ e=>absurd hso e)
   exact⟨_,j,put V' G' rfl rfl ⟨hg',upd_same _ _ _⟩ (fun _ _ e=>by cases e) (fun _ e=>by cases e) rfl,.on YP.slot (Or.inl rfl) rfl (fun e=>by cases e)⟩
  | XP y c0 =>
   simp only[ZN,Zd] at ht
   split at ht
   . simp only[U4,Prod.mk.injEq] at ht
     obtain⟨rfl,rfl⟩:=ht
     have G':Ground t n k m { q with c:=q.c+1,F:=x :: q.F } { h with so:=upd h.so x .free }:=M.g.slot rfl rfl rfl rfl hno (fun i e=>by cases e) (fun i e=>by rw[hso] at e;cases e) (fun y hy=>by simp[hy]) ⟨fun _=>by simp,fun _=>rfl⟩
     have V':YX n K jb q { q with c:=q.c+1,F:=x :: q.F } h { h with so:=upd h.so x .free }:=by
      refine YX.slot (fun K' hK e=>by rw[hso] at e;injection e with e;exact hK e.symm) (fun τ g=>Tk.Yg g (Nat.lt_succ_self _)) (fun y γ _ g=>Gv.Yg g (Nat.lt_succ_self _)) (fun y hy hy' hm=>?_) (fun γ e=>absurd hso e)
      rcases List.mem_cons.1 hm with e | e
      . rw[e] at hy;exact hy hso
      . exact hy' e
     exact⟨_,j,put (b:=.nil) V' G' rfl rfl trivial (fun _ _ e=>by cases e) (fun _ e=>by cases e) (by show (q.F.length+1)+0+_=q.F.length+1+_;rfl),.full YP.slot rfl⟩
   . simp only[U4,Prod.mk.injEq] at ht
     obtain⟨rfl,rfl⟩:=ht
     exact⟨h,j,put (YX.same rfl rfl rfl) M.g rfl rfl ⟨hg',hso⟩ (fun _ _ e=>by cases e) (fun _ e=>by cases e) rfl,.on (YP.refl h j) (Or.inl rfl) rfl (fun e=>by cases e)⟩
end
end
section
def Gh.H (h:Gh) (j:Nat):Int:=Yi (h.nd j).x (h.nd j).g
def Gh.ky (h:Gh) (hd j:Nat):Int:=if j=hd then -1 else h.cv j 0
def Gh.lk (h:Gh) (j:Nat):Int:=h.cv j 1
inductive Po where
 | first
 | link (p s c:Nat)
 | past (p s c:Nat) (nx:Int)
 | drop (p s c:Nat) (nx:Int)
 | key (p s c:Nat) (nx:Int) (s2:Nat)
 | make (p s:Nat) (nx:Int)
 | wkey (p s:Nat) (nx:Int) (d:Nat)
 | YL (p s:Nat) (nx:Int) (d:Nat)
 | put (p s:Nat) (nx:Int) (d:Nat)
 | mark (p s c:Nat) (nx:Int) (s2:Nat)
 | lead (p c:Nat) (nx:Int) (st:Nat)
 | Zo (c st:Nat)
 | Zk (d:Nat) (v:Int) (st:Nat)
 | over (E v:Int) (st:Nat)
structure Hi where
 S:Nat->Int->Prop
 ev:Nat->Option (Int × Bool)
 dr:Nat->Option Nat
structure Cl where
 kd:Int
 k:Int
 b:Nat
 my:Option Nat
 po:Po
section
variable (h:Gh) (hd σ:Nat) (u:Hi)
def Tc (nx:Int):Prop:=0<=nx/\nx<4294967296/\(nx=0\/∃ c,h.ZL c=true/\nx=h.H c/\c≠hd)
def LK (k:Int) (s:Nat) (nx:Int):Prop:=(nx=0\/∃ c,h.ZL c=true/\nx=h.H c/\k<h.ky hd c)->¬ u.S s k
structure Ahead (k:Int) (b p s:Nat) (nx:Int):Prop where
 pp:h.ZL p=true
 kp:h.ky hd p<k
 bb:b<s
 ss:s<=σ
 NY:Tc h hd nx
 aw:LK h hd u k s nx
 en:u.ev s=none
structure Own (K d:Nat):Prop where
 dJ:d<h.J
 pu:h.ZL d=false
 ma:h.ma d=K
 st:h.st d=3
 nh:d≠hd
structure Node (c:Nat):Prop where
 dJ:c<h.J
 pu:h.ZL c=true
 nh:c≠hd
def Gone (c:Nat) (nx:Int):Prop:=h.lk c=nx+4294967296/\0<=nx/\nx<4294967296
def Right (kd k:Int) (b:Nat) (v:Int) (st:Nat):Prop:=b<st/\st<=σ/\((v=1/\((kd=1/\u.S st k/\u.ev st=none)\/(kd=2/\u.ev st=some (k,true))\/(kd=3/\u.ev st=some (k,false))))\/(v=0/\u.ev st=none/\((kd=2/\u.S st k)\/(kd≠2/\¬ u.S st k))))
def Kn (K:Nat) (C:Cl):Po->Prop
 | .first=>True
 | .link p s c=>Ahead h hd σ u C.k C.b p s (h.H c)/\Node h hd c
 | .past p s c nx=>Ahead h hd σ u C.k C.b p s (h.H c)/\Node h hd c/\Gone h c nx
 | .drop p s c nx=>Ahead h hd σ u C.k C.b p s nx/\Node h hd c/\(∃ nx',Gone h c nx')/\u.dr c=some K
 | .key p s c nx s2=>Ahead h hd σ u C.k C.b p s (h.H c)/\Node h hd c/\Tc h hd nx/\C.b<s2/\s2<=σ/\u.S s2 (h.ky hd c)/\(h.ky hd c<C.k->LK h hd u C.k s2 nx)/\u.ev s2=none
 | .make p s nx=>Ahead h hd σ u C.k C.b p s nx/\(nx=0\/∃ c,h.ZL c=true/\nx=h.H c/\C.k<h.ky hd c)
 | .wkey p s nx d=>Ahead h hd σ u C.k C.b p s nx/\(nx=0\/∃ c,h.ZL c=true/\nx=h.H c/\C.k<h.ky hd c)/\Own h hd K d
 | .YL p s nx d=>Ahead h hd σ u C.k C.b p s nx/\(nx=0\/∃ c,h.ZL c=true/\nx=h.H c/\C.k<h.ky hd c)/\Own h hd K d/\h.cv d 0=C.k
 | .put p s nx d=>Ahead h hd σ u C.k C.b p s nx/\(nx=0\/∃ c,h.ZL c=true/\nx=h.H c/\C.k<h.ky hd c)/\Own h hd K d/\h.cv d 0=C.k/\h.cv d 1=nx
 | .mark p _ c nx _=>h.ZL p=true/\Node h hd c/\h.ky hd c=C.k/\Tc h hd nx
 | .lead p c nx st=>h.ZL p=true/\Node h hd c/\Gone h c nx/\Right σ u C.kd C.k C.b 1 st
 | .Zo c st=>Node h hd c/\(∃ nx,Gone h c nx)/\u.dr c=some K/\Right σ u C.kd C.k C.b 1 st
 | .Zk d v st=>d<h.J/\h.ZL d=false/\h.ma d=K/\C.my=none/\Right σ u C.kd C.k C.b v st
 | .over E v st=>E=0->Right σ u C.kd C.k C.b v st
def Rd (b j:Nat) (ix V:Int) (st:Nat):Prop:=b<st/\st<=σ/\u.ev st=none/\(ix=0->V=h.cv j 0)/\(ix=1->(V<4294967296->Tc h hd V/\(0<=h.ky hd j->u.S st (h.ky hd j))/\∀ k,0<=k->h.ky hd j<k->LK h hd u k st V)/\(4294967296<=V->Gone h j (V - 4294967296)))
end
structure WZ (h:Gh) (hd σ:Nat) (u:Hi) (K:Nat) (h':Gh) (σ':Nat) (u':Hi):Prop where
 J:h.J<=h'.J
 nd:∀ j,j<h.J->h'.nd j=h.nd j
 ZL:∀ j,h.ZL j=true->h'.ZL j=true
 pJ:∀ j,h.ZL j=true->j<h.J
 uM:∀ j,h'.ZL j=true->h.ZL j=true\/∀ i,h.ZL i=true->h'.H j≠h.H i
 ky:∀ j,h.ZL j=true->h'.cv j 0=h.cv j 0
 lk:∀ j,h.ZL j=true->4294967296<=h.lk j->h'.lk j=h.lk j
 own:∀ d,d<h.J->h.ZL d=false->h.ma d=K->h'.ZL d=false/\h'.ma d=K/\h'.st d=h.st d/\h'.cv d=h.cv d
 up:σ<=σ'
 S:∀ s k,s<=σ->(u'.S s k↔u.S s k)
 ev:∀ s,s<=σ->u'.ev s=u.ev s
 dr:∀ c,u.dr c=some K->u'.dr c=some K/\h'.st c=h.st c
section
variable {h h':Gh} {hd σ σ' K:Nat} {u u':Hi}
theorem WZ.H (o:WZ h hd σ u K h' σ' u') {j:Nat} (hj:h.ZL j=true):h'.H j=h.H j:=by unfold Gh.H;rw[o.nd j (o.pJ j hj)]
theorem WZ.zh (o:WZ h hd σ u K h' σ' u') {j:Nat} (hj:h.ZL j=true):h'.ky hd j=h.ky hd j:=by unfold Gh.ky;rw[o.ky j hj]
theorem Tc.on {nx:Int} (o:WZ h hd σ u K h' σ' u') (n:Tc h hd nx):Tc h' hd nx:=by
 obtain⟨a,b,c⟩:=n
 refine⟨a,b,c.imp id ?_⟩
 rintro⟨c,h1,h2,h3⟩
 exact⟨c,o.ZL c h1,by rw[o.H h1];exact h2,h3⟩
theorem VS {nx k:Int} (o:WZ h hd σ u K h' σ' u') (n:nx=0\/∃ c,h.ZL c=true/\nx=h.H c/\k<h.ky hd c):nx=0\/∃ c,h'.ZL c=true/\nx=h'.H c/\k<h'.ky hd c:=by
 refine n.imp id ?_
 rintro⟨c,h1,h2,h3⟩
 exact⟨c,o.ZL c h1,by rw[o.H h1];exact h2,by rw[o.zh h1];exact h3⟩
theorem Dc {nx k:Int} (o:WZ h hd σ u K h' σ' u') (m:Tc h hd nx) (n:nx=0\/∃ c,h'.ZL c=true/\nx=h'.H c/\k<h'.ky hd c):nx=0\/∃ c,h.ZL c=true/\nx=h.H c/\k<h.ky hd c:=by
 rcases n with n | ⟨c,h1,h2,h3⟩
 . exact Or.inl n
 . rcases m.2.2 with m | ⟨i,m1,m2,m3⟩
   . exact Or.inl m
   . rcases o.uM c h1 with hc | hc
     . exact Or.inr ⟨c,hc,by rw[<- o.H hc];exact h2,by rw[<- o.zh hc];exact h3⟩
     . exact absurd (h2.symm.trans m2) (hc i m1)
theorem LK.on {k:Int} {s:Nat} {nx:Int} (o:WZ h hd σ u K h' σ' u') (m:Tc h hd nx) (hs:s<=σ) (a:LK h hd u k s nx):LK h' hd u' k s nx:=fun f hS=>a (Dc o m f) ((o.S s k hs).1 hS)
theorem Ahead.on {k:Int} {b p s:Nat} {nx:Int} (o:WZ h hd σ u K h' σ' u') (a:Ahead h hd σ u k b p s nx):Ahead h' hd σ' u' k b p s nx :=
 ⟨o.ZL p a.pp,by rw[o.zh a.pp];exact a.kp,a.bb,Nat.le_trans a.ss o.up,a.NY.on o,a.aw.on o a.NY a.ss,(o.ev s a.ss).trans a.en⟩
theorem Own.on {d:Nat} (o:WZ h hd σ u K h' σ' u') (a:Own h hd K d):Own h' hd K d:=by
 obtain⟨e1,e2,e3,-⟩:=o.own d a.dJ a.pu a.ma
 exact⟨Nat.lt_of_lt_of_le a.dJ o.J,e1,e2,e3.trans a.st,a.nh⟩
theorem Node.on {c:Nat} (o:WZ h hd σ u K h' σ' u') (a:Node h hd c):Node h' hd c:=⟨Nat.lt_of_lt_of_le a.dJ o.J,o.ZL c a.pu,a.nh⟩
theorem Gone.on {c:Nat} {nx:Int} (o:WZ h hd σ u K h' σ' u') (hc:h.ZL c=true) (a:Gone h c nx):Gone h' c nx:=by
 unfold Gone
 rw[o.lk c hc (by rw[a.1];have:=a.2.1;omega)]
 exact a
theorem Right.on {kd k:Int} {b:Nat} {v:Int} {st:Nat} (o:WZ h hd σ u K h' σ' u') (a:Right σ u kd k b v st):Right σ' u' kd k b v st:=by
 obtain⟨h1,h2,h3⟩:=a
 unfold Right
 rw[o.ev st h2,o.S st k h2]
 exact⟨h1,Nat.le_trans h2 o.up,h3⟩
theorem Kn.on {C:Cl} {po:Po} (o:WZ h hd σ u K h' σ' u') (a:Kn h hd σ u K C po):Kn h' hd σ' u' K C po:=by
 cases po with
 | first=>trivial
 | link p s c =>
  obtain⟨a1,a2⟩:=a
  exact⟨by rw[o.H a2.pu];exact a1.on o,a2.on o⟩
 | past p s c nx =>
  obtain⟨a1,a2,a3⟩:=a
  exact⟨by rw[o.H a2.pu];exact a1.on o,a2.on o,a3.on o a2.pu⟩
 | drop p s c nx =>
  obtain⟨a1,a2,⟨nx',a3⟩,a4⟩:=a
  exact⟨a1.on o,a2.on o,⟨nx',a3.on o a2.pu⟩,(o.dr c a4).1⟩
 | key p s c nx s2 =>
  obtain⟨a1,a2,a3,a4,a5,a6,a7,a9⟩:=a
  have e:=o.zh a2.pu
  exact⟨by rw[o.H a2.pu];exact a1.on o,a2.on o,a3.on o,a4,Nat.le_trans a5 o.up,by rw[e];exact(o.S s2 _ a5).2 a6,fun hk=>(a7 (by rw[<- e];exact hk)).on o a3 a5,(o.ev s2 a5).trans a9⟩
 | make p s nx=>exact⟨a.1.on o,VS o a.2⟩
 | wkey p s nx d=>exact⟨a.1.on o,VS o a.2.1,a.2.2.on o⟩
 | YL p s nx d =>
  obtain⟨a1,a2,a3,a4⟩:=a
  exact⟨a1.on o,VS o a2,a3.on o,by rw[(o.own d a3.dJ a3.pu a3.ma).2.2.2];exact a4⟩
 | put p s nx d =>
  obtain⟨a1,a2,a3,a4⟩:=a
  exact⟨a1.on o,VS o a2,a3.on o,by rw[(o.own d a3.dJ a3.pu a3.ma).2.2.2];exact a4⟩
 | mark p s c nx s2 =>
  obtain⟨a1,a2,a3,a4⟩:=a
  exact⟨o.ZL p a1,a2.on o,by rw[o.zh a2.pu];exact a3,a4.on o⟩
 | lead p c nx st =>
  obtain⟨a1,a2,a3,a4⟩:=a
  exact⟨o.ZL p a1,a2.on o,a3.on o a2.pu,a4.on o⟩
 | Zo c st =>
  obtain⟨a1,⟨nx,a2⟩,a3,a4⟩:=a
  exact⟨a1.on o,⟨nx,a2.on o a1.pu⟩,(o.dr c a3).1,a4.on o⟩
 | Zk d v st =>
  obtain⟨a1,a2,a3,a4,a5⟩:=a
  obtain⟨e1,e2,-⟩:=o.own d a1 a2 a3
  exact⟨Nat.lt_of_lt_of_le a1 o.J,e1,e2,a4,a5.on o⟩
 | over E v st=>exact fun e=>(a e).on o
theorem Rd.on {b j:Nat} {ix V:Int} {st:Nat} (o:WZ h hd σ u K h' σ' u') (hj:h.ZL j=true) (a:Rd h hd σ u b j ix V st):Rd h' hd σ' u' b j ix V st:=by
 obtain⟨a1,a2,a3,a4,a5⟩:=a
 refine⟨a1,Nat.le_trans a2 o.up,(o.ev st a2).trans a3,fun e=>by rw[o.ky j hj];exact a4 e,fun e=>⟨fun hV=>?_,fun hV=>((a5 e).2 hV).on o hj⟩⟩
 obtain⟨b1,b2,b3⟩:=(a5 e).1 hV
 rw[o.zh hj]
 exact⟨b1.on o,fun hk=>(o.S st _ a2).2 (b2 hk),fun k h0 hk=>(b3 k h0 hk).on o b1 a2⟩
end
end
section
structure Lw (h:Gh) (hd σ:Nat) (F:List Nat) (u:Hi):Prop where
 l:VU h.ZL (h.ky hd) h.lk h.H hd F
 S:∀ k,0<=k->(u.S σ k↔O6 (h.ky hd) h.lk F k)
 f3:∀ j,j∈F->h.st j=3
 pJ:∀ j,h.ZL j=true->j<h.J
 dF:∀ c K,u.dr c=some K->c∉F/\h.ZL c=true
 kp:∀ j,h.ZL j=true->j≠hd->0<=h.cv j 0
 ev:∀ s,σ<s->u.ev s=none
 e0:∀ s,s<σ->u.ev (s+1)=none->∀ k,0<=k->(u.S (s+1) k↔u.S s k)
 e1:∀ s k b,s<σ->u.ev (s+1)=some (k,b)->(u.S (s+1) k↔b=true)/\(u.S s k↔b=false)/\∀ k',0<=k'->k'≠k->(u.S (s+1) k'↔u.S s k')
theorem Linked.FO {ZL:Nat->Bool} {lk lk' H H':Nat->Int} {L:List Nat} (hp:∀ j,j∈L->ZL j=true) (e:∀ j,ZL j=true->lk' j=lk j/\H' j=H j) (h:Linked lk H L):Linked lk' H' L:=by
 induction L with
 | nil=>trivial
 | cons p L ih =>
  have e1:=e p (hp p (by simp))
  cases L with
  | nil=>show lk' p % _=0;rw[e1.1];exact h
  | cons c L =>
   have e2:=e c (hp c (by simp))
   exact⟨by rw[e1.1,e2.2];exact h.1,ih (fun j hj=>hp j (List.mem_cons_of_mem _ hj)) h.2⟩
theorem VU.FO {ZL:Nat->Bool} {ky zg lk lk' H H':Nat->Int} {hd:Nat} {F:List Nat} (S:VU ZL ky lk H hd F) (e:∀ j,ZL j=true->zg j=ky j/\lk' j=lk j/\H' j=H j):VU ZL zg lk' H' hd F/\∀ k,O6 zg lk' F k↔O6 ky lk F k:=by
 have hh:ZL hd=true:=by obtain⟨C,hC⟩:=S.hf;exact S.pb hd (by rw[hC];simp)
 refine⟨⟨S.nd,S.hf,Linked.FO S.pb (fun j hj=>(e j hj).2) S.XP,S.pb,fun j hj hF=>by rw[(e j hj).2.1];exact S.out j hj hF,by rw[(e hd hh).2.1];exact S.hg,?_,fun j hj=>?_,fun j hj=>by rw[(e j hj).2.1];exact S.vl j hj,fun i j hi hj eH=>?_,fun j hj=>by rw[(e j hj).2.2];exact S.h0 j hj⟩,fun k=>?_⟩
 . refine List.Pairwise.imp_of_mem ?_ S.so
   intro a b ha hb h
   rw[(e a (S.pb a ha)).1,(e b (S.pb b hb)).1];exact h
 . rw[(e j hj).2.1]
   refine(S.nx j hj).imp id ?_
   rintro⟨i,a1,a2,a3⟩
   exact⟨i,a1,by rw[(e i a1).2.2];exact a2,a3⟩
 . rw[(e i hi).2.2,(e j hj).2.2] at eH
   exact S.inj i j hi hj eH
 . constructor
   . rintro⟨c,h1,h2,h3⟩
     have:=e c (S.pb c h1)
     exact⟨c,h1,by rw[<- this.1];exact h2,by rw[<- this.2.1];exact h3⟩
   . rintro⟨c,h1,h2,h3⟩
     have:=e c (S.pb c h1)
     exact⟨c,h1,by rw[this.1];exact h2,by rw[this.2.1];exact h3⟩
def Hi.tick (u:Hi) (σ:Nat):Hi:={ u with S:=upd u.S (σ+1) (u.S σ) }
def Hi.turn (u:Hi) (σ:Nat) (k:Int) (b:Bool):Hi:={ u with S:=upd u.S (σ+1) (fun k'=>(k'≠k/\u.S σ k')\/(k'=k/\b=true)),ev:=upd u.ev (σ+1) (some (k,b)) }
section
variable {h h':Gh} {hd σ K:Nat} {u:Hi} {F F':List Nat}
theorem YC (u:Hi) {s σ:Nat} (hs:s<=σ):(u.tick σ).S s=u.S s:=Z8 _ _ _ _ (by omega)
theorem YM (u:Hi) (σ:Nat):(u.tick σ).S (σ+1)=u.S σ:=upd_same _ _ _
theorem Wx (u:Hi) {s σ:Nat} {k:Int} {b:Bool} (hs:s<=σ):(u.turn σ k b).S s=u.S s:=Z8 _ _ _ _ (by omega)
theorem Uy (u:Hi) (σ:Nat) (k:Int) (b:Bool) (k':Int):(u.turn σ k b).S (σ+1) k'↔(k'≠k/\u.S σ k')\/(k'=k/\b=true):=by
 unfold Hi.turn
 show upd u.S (σ+1) _ (σ+1) k'↔_
 rw[upd_same]
theorem Uz (u:Hi) {s σ:Nat} {k:Int} {b:Bool} (hs:s<=σ):(u.turn σ k b).ev s=u.ev s:=Z8 _ _ _ _ (by omega)
theorem Uw (u:Hi) (σ:Nat) (k:Int) (b:Bool):(u.turn σ k b).ev (σ+1)=some (k,b):=upd_same _ _ _
theorem Lw.tick (L:Lw h hd σ F u) {dr:Nat->Option Nat} (l:VU h'.ZL (h'.ky hd) h'.lk h'.H hd F') (hi:∀ k,O6 (h'.ky hd) h'.lk F' k↔O6 (h.ky hd) h.lk F k) (f3:∀ j,j∈F'->h'.st j=3) (pJ:∀ j,h'.ZL j=true->j<h'.J) (dF:∀ c K,dr c=some K->c∉F'/\h'.ZL c=true) (kp:∀ j,h'.ZL j=true->j≠hd->0<=h'.cv j 0):Lw h' hd (σ+1) F' { u.tick σ with dr:=dr }:=by
 refine⟨l,fun k hk=>?_,f3,pJ,dF,kp,fun s hs=>L.ev s (by omega),fun s hs he k hk=>?_,fun s k b hs he=>?_⟩
 . show (u.tick σ).S (σ+1) k↔_
   rw[YM,hi];exact L.S k hk
 . show (u.tick σ).S (s+1) k↔(u.tick σ).S s k
   by_cases e:s=σ
   . rw[e,YM,YC u (Nat.le_refl _)]
   . rw[YC u (show s+1<=σ by omega),YC u (show s<=σ by omega)];exact L.e0 s (by omega) he k hk
 . show ((u.tick σ).S (s+1) k↔_)/\((u.tick σ).S s k↔_)/\∀ k',0<=k'->k'≠k->((u.tick σ).S (s+1) k'↔(u.tick σ).S s k')
   have hne:s≠σ:=fun e=>by
    have h1:=L.ev (s+1) (by omega)
    have h2:u.ev (s+1)=some (k,b):=he
    rw[h1] at h2;cases h2
   rw[YC u (show s+1<=σ by omega),YC u (show s<=σ by omega)]
   exact L.e1 s k b (by omega) he
theorem Lw.turn (L:Lw h hd σ F u) {k:Int} {b:Bool} (hk0:0<=k) (uB:O6 (h.ky hd) h.lk F k↔b=false) (l:VU h'.ZL (h'.ky hd) h'.lk h'.H hd F') (hi:∀ k',O6 (h'.ky hd) h'.lk F' k'↔(k'≠k/\O6 (h.ky hd) h.lk F k')\/(k'=k/\b=true)) (f3:∀ j,j∈F'->h'.st j=3) (pJ:∀ j,h'.ZL j=true->j<h'.J) (dF:∀ c K,u.dr c=some K->c∉F'/\h'.ZL c=true) (kp:∀ j,h'.ZL j=true->j≠hd->0<=h'.cv j 0):Lw h' hd (σ+1) F' (u.turn σ k b):=by
 refine⟨l,fun k' hk=>?_,f3,pJ,dF,kp,fun s hs=>?_,fun s hs he k' hk=>?_,fun s k' b' hs he=>?_⟩
 . rw[Uy,hi,L.S k' hk]
 . rw[show (u.turn σ k b).ev s=u.ev s from Z8 _ _ _ _ (by omega)];exact L.ev s (by omega)
 . by_cases e:s=σ
   . rw[e,Uw] at he;cases he
   . rw[Wx u (show s+1<=σ by omega),Wx u (show s<=σ by omega)]
     rw[Uz u (show s+1<=σ by omega)] at he
     exact L.e0 s (by omega) he k' hk
 . by_cases e:s=σ
   . rw[e,Uw] at he
     cases he
     rw[e,Wx u (Nat.le_refl _)]
     refine⟨?_,(L.S k hk0).trans uB,fun k' h0 hne=>?_⟩
     . rw[Uy]
       constructor
       . rintro(⟨h1,-⟩ | ⟨-,h1⟩)
         . exact absurd rfl h1
         . exact h1
       . exact fun h1=>Or.inr ⟨rfl,h1⟩
     . rw[Uy]
       constructor
       . rintro(⟨-,h1⟩ | ⟨h1,-⟩)
         . exact h1
         . exact absurd h1 hne
       . exact fun h1=>Or.inl ⟨hne,h1⟩
   . rw[Wx u (show s+1<=σ by omega),Wx u (show s<=σ by omega)]
     rw[Uz u (show s+1<=σ by omega)] at he
     exact L.e1 s k' b' (by omega) he
theorem WZ.of {u':Hi} (L:Lw h hd σ F u) (J:h.J<=h'.J) (nd:∀ j,j<h.J->h'.nd j=h.nd j) (ZL:∀ j,h.ZL j=true->h'.ZL j=true) (uM:∀ j,h'.ZL j=true->h.ZL j=true\/∀ i,h.ZL i=true->h'.H j≠h.H i) (ky:∀ j,h.ZL j=true->h'.cv j 0=h.cv j 0) (lk:∀ j,h.ZL j=true->4294967296<=h.lk j->h'.lk j=h.lk j) (own:∀ d,d<h.J->h.ZL d=false->h.ma d=K->h'.ZL d=false/\h'.ma d=K/\h'.st d=h.st d/\h'.cv d=h.cv d) (S:∀ s,s<=σ->u'.S s=u.S s) (ev:∀ s,s<=σ->u'.ev s=u.ev s) (dr:∀ c,u.dr c=some K->u'.dr c=some K/\h'.st c=h.st c):WZ h hd σ u K h' (σ+1) u' :=
 ⟨J,nd,ZL,L.pJ,uM,ky,lk,own,Nat.le_succ _,fun s k hs=>by rw[S s hs],ev,dr⟩
end
end
section
structure Rs where
 E:Int
 V:Int
 St:Nat
def Xc (h:Gh) (hd:Nat) (k:Int):Po->Jb->Prop
 | .first,b=>∃ W α,b=.ac W hd α/\W.kd=1/\W.ix=1
 | .link _ _ c,b=>∃ W α,b=.ac W c α/\W.kd=1/\W.ix=1
 | .past p _ c nx,b=>∃ W α,b=.ac W p α/\W.kd=3/\W.ix=1/\W.ol=h.H c/\W.vl=nx
 | .drop _ _ c _,b=>∃ α,b=.dp c α
 | .key _ _ c _ _,b=>∃ W α,b=.ac W c α/\W.kd=1/\W.ix=0
 | .make _ _ _,b=>∃ j α,b=.al j α
 | .wkey _ _ _ d,b=>∃ W α,b=.ac W d α/\W.kd=2/\W.ix=0/\W.vl=k
 | .YL _ _ nx d,b=>∃ W α,b=.ac W d α/\W.kd=2/\W.ix=1/\W.vl=nx
 | .put p _ nx d,b=>∃ W α,b=.ac W p α/\W.kd=3/\W.ix=1/\W.ol=nx/\W.vl=h.H d
 | .mark _ _ c nx _,b=>∃ W α,b=.ac W c α/\W.kd=3/\W.ix=1/\W.ol=nx/\W.vl=nx+4294967296
 | .lead p c nx _,b=>∃ W α,b=.ac W p α/\W.kd=3/\W.ix=1/\W.ol=h.H c/\W.vl=nx
 | .Zo c _,b=>∃ α,b=.dp c α
 | .Zk d _ _,b=>∃ α,b=.dp d α
 | .over _ _ _,_=>False
def LP (h:Gh) (hd σ:Nat) (u:Hi) (b:Nat):Jb->Prop
 | .ac W j (.check _ c ld)=>h.ZL j=true/\Rd h hd σ u b j W.ix (SB c) ld
 | _=>True
def Xg (h:Gh) (hd σ:Nat) (u:Hi) (K:Nat) (C:Cl):Po->Rs->Prop
 | .first,r=>r.E=0/\h.ZL hd=true/\Rd h hd σ u C.b hd 1 r.V r.St
 | .link p s c,r=>r.E=0->Ahead h hd σ u C.k C.b p s (h.H c)/\Node h hd c/\Rd h hd σ u C.b c 1 r.V r.St
 | .past p _ c nx,r=>r.E=0->Kn h hd σ u K C (.drop p r.St c nx)/\h.st c=3
 | .drop p s _ nx,_=>Ahead h hd σ u C.k C.b p s nx
 | .key p s c nx s2,r=>r.E=0->Kn h hd σ u K C (.key p s c nx s2)/\r.V=h.cv c 0
 | .make p s nx,r=>r.E=0->∃ d,r.V=h.H d/\Kn h hd σ u K C (.wkey p s nx d)
 | .wkey p s nx d,r=>r.E=0/\Kn h hd σ u K C (.YL p s nx d)
 | .YL p s nx d,r=>r.E=0/\Kn h hd σ u K C (.put p s nx d)
 | .put _ _ _ _,r=>r.E=0->Right σ u C.kd C.k C.b 1 r.St
 | .mark p _ c nx _,r=>r.E=0->Kn h hd σ u K C (.lead p c nx r.St)
 | .lead _ c _ st,r=>Right σ u C.kd C.k C.b 1 st/\(r.E=0->Kn h hd σ u K C (.Zo c st)/\h.st c=3)
 | .Zo _ st,_=>Right σ u C.kd C.k C.b 1 st
 | .Zk _ v st,_=>Right σ u C.kd C.k C.b v st
 | .over _ _ _,_=>False
def Po.kd:Po->Int
 | .make _ _ _=>2
 | .wkey _ _ _ _=>2
 | .YL _ _ _ _=>2
 | .put _ _ _ _=>2
 | .mark _ _ _ _ _=>3
 | _=>0
structure MC (h:Gh) (hd σ:Nat) (u:Hi) (K:Nat) (C:Cl) (r:Option Rs) (b:Jb):Prop where
 my:∀ d,C.my=some d->Own h hd K d/\h.cv d 0=C.k
 k0:0<=C.k
 k1:C.k<1099511627776
 bb:C.b<=σ
 kd:C.po.kd≠0->C.kd=C.po.kd
 run:r=none->Kn h hd σ u K C C.po/\Xc h hd C.k C.po b/\LP h hd σ u C.b b
 told:∀ r',r=some r'->b=.nil/\Xg h hd σ u K C C.po r'
section
variable {h h':Gh} {hd σ σ' K:Nat} {u u':Hi}
theorem WZ.HJ (o:WZ h hd σ u K h' σ' u') {j:Nat} (hj:j<h.J):h'.H j=h.H j:=by unfold Gh.H;rw[o.nd j hj]
theorem Xc.on {C:Cl} {b:Jb} (o:WZ h hd σ u K h' σ' u') (a:Kn h hd σ u K C C.po) (j:Xc h hd C.k C.po b):Xc h' hd C.k C.po b:=by
 revert a j
 cases C.po with
 | past p s c nx=>exact fun a j=>by obtain⟨W,α,e1,e2,e3,e4,e5⟩:=j;exact⟨W,α,e1,e2,e3,by rw[o.H a.2.1.pu];exact e4,e5⟩
 | put p s nx d=>exact fun a j=>by obtain⟨W,α,e1,e2,e3,e4,e5⟩:=j;exact⟨W,α,e1,e2,e3,e4,by rw[o.HJ a.2.2.1.dJ];exact e5⟩
 | lead p c nx st=>exact fun a j=>by obtain⟨W,α,e1,e2,e3,e4,e5⟩:=j;exact⟨W,α,e1,e2,e3,by rw[o.H a.2.1.pu];exact e4,e5⟩
 | first=>exact fun _ j=>j
 | link=>exact fun _ j=>j
 | drop=>exact fun _ j=>j
 | key=>exact fun _ j=>j
 | make=>exact fun _ j=>j
 | wkey=>exact fun _ j=>j
 | YL=>exact fun _ j=>j
 | mark=>exact fun _ j=>j
 | Zo=>exact fun _ j=>j
 | Zk=>exact fun _ j=>j
 | over=>exact fun _ j=>j
theorem LP.on {b:Nat} {x:Jb} (o:WZ h hd σ u K h' σ' u') (a:LP h hd σ u b x):LP h' hd σ' u' b x:=by
 cases x with
 | nil=>trivial
 | al j α=>trivial
 | dp j α=>trivial
 | ac W j α =>
  cases α with
  | check v c ld=>exact⟨o.ZL j a.1,a.2.on o a.1⟩
  | _=>trivial
theorem Xg.on {C:Cl} {po:Po} {r:Rs} (o:WZ h hd σ u K h' σ' u') (a:Xg h hd σ u K C po r):Xg h' hd σ' u' K C po r:=by
 cases po with
 | first=>exact⟨a.1,o.ZL hd a.2.1,a.2.2.on o a.2.1⟩
 | link p s c =>
  intro e
  obtain⟨a1,a2,a3⟩:=a e
  exact⟨by rw[o.H a2.pu];exact a1.on o,a2.on o,a3.on o a2.pu⟩
 | past p s c nx =>
  intro e
  obtain⟨a1,a2⟩:=a e
  exact⟨Kn.on o a1,(o.dr c a1.2.2.2).2.trans a2⟩
 | drop p s c nx=>exact Ahead.on o a
 | key p s c nx s2 =>
  intro e
  obtain⟨a1,a2⟩:=a e
  exact⟨Kn.on o a1,by rw[o.ky c a1.2.1.pu];exact a2⟩
 | make p s nx =>
  intro e
  obtain⟨d,a1,a2⟩:=a e
  exact⟨d,by rw[o.HJ a2.2.2.dJ];exact a1,Kn.on o a2⟩
 | wkey p s nx d=>exact⟨a.1,Kn.on o a.2⟩
 | YL p s nx d=>exact⟨a.1,Kn.on o a.2⟩
 | put p s nx d=>exact fun e=>(a e).on o
 | mark p s c nx s2=>exact fun e=>Kn.on o (a e)
 | lead p c nx st=>exact⟨a.1.on o,fun e=>⟨Kn.on o (a.2 e).1,(o.dr c (a.2 e).1.2.2.1).2.trans (a.2 e).2⟩⟩
 | Zo c st=>exact Right.on o a
 | Zk d v st=>exact Right.on o a
 | over=>exact a
theorem MC.on {C:Cl} {r:Option Rs} {b:Jb} (o:WZ h hd σ u K h' σ' u') (a:MC h hd σ u K C r b):MC h' hd σ' u' K C r b:=by
 refine⟨fun d hd'=>?_,a.k0,a.k1,Nat.le_trans a.bb o.up,a.kd,fun e=>?_,fun r' e=>⟨(a.told r' e).1,(a.told r' e).2.on o⟩⟩
 . obtain⟨a1,a2⟩:=a.my d hd'
   exact⟨a1.on o,by rw[(o.own d a1.dJ a1.pu a1.ma).2.2.2];exact a2⟩
 . obtain⟨a1,a2,a3⟩:=a.run e
   exact⟨Kn.on o a1,a2.on o a1,a3.on o⟩
end
end
section
structure Lc (t n k m:Nat) (q:Q) (σ:Nat) (h:Gh) (jb:Nat->Jb) (hd:Nat) (F:List Nat) (u:Hi) (ts:Nat->Option (Cl × Option Rs)):Prop where
 m:WA t n k m q σ h jb
 l:Lw h hd σ F u
 t:∀ K C r,ts K=some (C,r)->MC h hd σ u K C r (jb K)
 n:∀ K,ts K=none->jb K=.nil
def Gh.VV (h:Gh) (d:Nat):Gh:={ h with ZL:=upd h.ZL d true }
theorem WA.Dy {t n k m σ:Nat} {q:Q} {h:Gh} {jb:Nat->Jb} {d:Nat} (M:WA t n k m q σ h jb) (hp:h.ZL d=false) (h3:h.st d=3) (hn:jb (h.ma d)=.nil):WA t n k m q σ (h.VV d) jb:=by
 have QO:∀ j,j≠d->upd h.ZL d true j=h.ZL j:=fun j hj=>Z8 _ _ _ _ hj
 refine⟨⟨fun j hj=>?_,M.g.hn,M.g.fr,M.g.fw,M.g.sn,M.g.gb,M.g.lv,M.g.us,M.g.ins,M.g.nz,M.g.wd⟩,fun K=>?_,M.dd,M.bz,M.sum⟩
 . have N:=M.g.nk j hj
   refine⟨N.ik,N.ex,N.ck,N.ow,N.xn,N.g1,N.g4,N.g5,N.s1,N.s2,N.w3,N.w4,N.hw,N.cw,N.z3,N.z5,N.z2,N.vl,fun wJ=>?_,N.s6⟩
   by_cases e:j=d
   . subst e;exact⟨by show 3<=h.st j;omega,fun h4=>by have h4':4<=h.st j:=h4;omega⟩
   . have xO:upd h.ZL d true j=true:=wJ
     rw[QO j e] at xO;exact N.pf xO
 . have O:=M.jk K
   cases hj:jb K with
   | nil=>trivial
   | al j α =>
    rw[hj] at O
    refine⟨O.1,?_⟩
    have A:=O.2
    cases α <;> exact A
   | dp j α =>
    rw[hj] at O
    obtain⟨a1,a2,a3,a4⟩:=O
    have e:j≠d:=fun e=>by
     subst e
     rcases a2 with a2 | a2
     . rw[hp] at a2;cases a2
     . rw[a2,hj] at hn;cases hn
    refine⟨a1,by rw[show (h.VV d).ZL j=h.ZL j from QO j e];exact a2,by rw[show (h.VV d).ZL j=h.ZL j from QO j e];exact a3,?_⟩
    cases α with
    | fin Z i η=>cases η <;> exact a4
    | _=>exact a4
   | ac W j α =>
    rw[hj] at O
    obtain⟨a1,a2,a3⟩:=O
    have e:j≠d:=fun e=>by
     subst e
     rcases a2.pv with b | ⟨b,-⟩
     . rw[hp] at b;cases b
     . rw[b,hj] at hn;cases hn
    refine⟨a1,⟨a2.nu,a2.ix,a2.vl,by rw[show (h.VV d).ZL j=h.ZL j from QO j e];exact a2.kd,by rw[show (h.VV d).ZL j=h.ZL j from QO j e];exact a2.pv,a2.s3⟩,?_⟩
    cases α <;> exact a3
section
variable {t n k m σ K:Nat} {q q':Q} {h h':Gh} {jb:Nat->Jb} {hd:Nat} {F F':List Nat} {u u':Hi} {ts:Nat->Option (Cl × Option Rs)}
theorem Lc.put (X:Lc t n k m q σ h jb hd F u ts) {b:Jb} {C:Cl} {r:Option Rs} (M:WA t n k m q' (σ+1) h' (upd jb K b)) (L:Lw h' hd (σ+1) F' u') (o:∀ K',K'≠K->WZ h hd σ u K' h' (σ+1) u') (T:MC h' hd (σ+1) u' K C r b):Lc t n k m q' (σ+1) h' (upd jb K b) hd F' u' (upd ts K (some (C,r))):=by
 refine⟨M,L,fun K' C' r' e=>?_,fun K' e=>?_⟩
 . by_cases e':K'=K
   . subst e'
     rw[upd_same] at e
     injection e with e
     injection e with e1 e2
     subst e1 e2
     rw[upd_same];exact T
   . rw[Z8 _ _ _ _ e'] at e ⊢
     exact(X.t K' C' r' e).on (o K' e')
 . by_cases e':K'=K
   . subst e';rw[upd_same] at e;cases e
   . rw[Z8 _ _ _ _ e'] at e ⊢;exact X.n K' e
theorem Lw.still (L:Lw h hd σ F u):Lw h hd (σ+1) F (u.tick σ)/\∀ K,WZ h hd σ u K h (σ+1) (u.tick σ) :=
 ⟨L.tick (dr:=u.dr) L.l (fun _=>Iff.rfl) L.f3 L.pJ L.dF L.kp,fun _=>WZ.of L (Nat.le_refl _) (fun _ _=>rfl) (fun _ e=>e) (fun _ e=>Or.inl e) (fun _ _=>rfl) (fun _ _ _=>rfl) (fun _ _ e1 e2=>⟨e1,e2,rfl,rfl⟩) (fun _ hs=>YC u hs) (fun _ _=>rfl) (fun _ e=>⟨e,rfl⟩)⟩
theorem Lw.rd (L:Lw h hd σ F u) {b j:Nat} {ix V:Int} (hb:b<=σ) (hj:h.ZL j=true) (hV:V=h.cv j ix.toNat):Rd h hd (σ+1) (u.tick σ) b j ix V (σ+1):=by
 refine⟨by omega,Nat.le_refl _,L.ev _ (by omega),fun e=>by rw[hV,e];rfl,fun e=>?_⟩
 have hV':V=h.lk j:=by rw[hV,e];rfl
 have hv:=L.l.vl j hj
 refine⟨fun hs=>⟨⟨by omega,hs,?_⟩,fun hk=>?_,fun k h0 hk f hS=>?_⟩,fun hs=>⟨by rw[hV'];omega,by omega,by omega⟩⟩
 . have hn:=L.l.nx j hj
   rw[show h.lk j % 4294967296=V by omega] at hn
   exact hn
 . rw[YM]
   exact(L.S _ hk).2 (L.l.present hj (by omega))
 . rw[YM] at hS
   refine L.l.absent hj (by omega) hk ?_ ((L.S k h0).1 hS)
   rw[<- hV'];exact f
end
end
section
def Cl.after (C:Cl) (r:Rs):Cl :=
 match C.po with
 | .put _ _ _ _=>if r.E=0 then { C with my:=none } else C
 | _=>C
theorem Xc.next {h:Gh} {hd:Nat} {k:Int} {po:Po} {W:Wt} {j:Nat} {α:Ac} (α':Ac) (a:Xc h hd k po (.ac W j α)):Xc h hd k po (.ac W j α'):=by
 cases po with
 | first=>obtain⟨W',β,e,r⟩:=a;cases e;exact⟨W,α',rfl,r⟩
 | link=>obtain⟨W',β,e,r⟩:=a;cases e;exact⟨W,α',rfl,r⟩
 | past=>obtain⟨W',β,e,r⟩:=a;cases e;exact⟨W,α',rfl,r⟩
 | key=>obtain⟨W',β,e,r⟩:=a;cases e;exact⟨W,α',rfl,r⟩
 | wkey=>obtain⟨W',β,e,r⟩:=a;cases e;exact⟨W,α',rfl,r⟩
 | YL=>obtain⟨W',β,e,r⟩:=a;cases e;exact⟨W,α',rfl,r⟩
 | put=>obtain⟨W',β,e,r⟩:=a;cases e;exact⟨W,α',rfl,r⟩
 | mark=>obtain⟨W',β,e,r⟩:=a;cases e;exact⟨W,α',rfl,r⟩
 | lead=>obtain⟨W',β,e,r⟩:=a;cases e;exact⟨W,α',rfl,r⟩
 | drop=>obtain⟨β,e⟩:=a;cases e
 | make=>obtain⟨i,β,e⟩:=a;cases e
 | Zo=>obtain⟨β,e⟩:=a;cases e
 | Zk=>obtain⟨β,e⟩:=a;cases e
 | over=>exact a.elim
theorem Xc.ZL {h:Gh} {hd σ K:Nat} {u:Hi} {C:Cl} {W:Wt} {j:Nat} {α:Ac} (hh:h.ZL hd=true) (a:Kn h hd σ u K C C.po) (i:Xc h hd C.k C.po (.ac W j α)):W.kd=2\/h.ZL j=true:=by
 revert a i
 cases C.po with
 | first=>intro a i;obtain⟨W',β,e,r⟩:=i;cases e;exact Or.inr hh
 | link=>intro a i;obtain⟨W',β,e,r⟩:=i;cases e;exact Or.inr a.2.pu
 | past=>intro a i;obtain⟨W',β,e,r⟩:=i;cases e;exact Or.inr a.1.pp
 | key=>intro a i;obtain⟨W',β,e,r⟩:=i;cases e;exact Or.inr a.2.1.pu
 | wkey=>intro a i;obtain⟨W',β,e,r⟩:=i;cases e;exact Or.inl r.1
 | YL=>intro a i;obtain⟨W',β,e,r⟩:=i;cases e;exact Or.inl r.1
 | put=>intro a i;obtain⟨W',β,e,r⟩:=i;cases e;exact Or.inr a.1.pp
 | mark=>intro a i;obtain⟨W',β,e,r⟩:=i;cases e;exact Or.inr a.2.1.pu
 | lead=>intro a i;obtain⟨W',β,e,r⟩:=i;cases e;exact Or.inr a.1
 | drop=>intro a i;obtain⟨β,e⟩:=i;cases e
 | make=>intro a i;obtain⟨l,β,e⟩:=i;cases e
 | Zo=>intro a i;obtain⟨β,e⟩:=i;cases e
 | Zk=>intro a i;obtain⟨β,e⟩:=i;cases e
 | over=>intro a i;exact i.elim
theorem PL {W:Wt} (h:W.kd=1) (c:Int):W.reads c=true:=by unfold Wt.reads;rw[h];rfl
theorem LJ {W:Wt} (h:W.kd=2) (c:Int):W.reads c=false:=by unfold Wt.reads Wt.other;rw[h];rfl
theorem VR {W:Wt} (h:W.kd=3) {c:Int} (hc:Val c) (hr:W.reads c=false):c=W.ol:=by
 unfold Wt.reads Wt.other at hr
 rw[h,UI hc.1 hc.2] at hr
 simp at hr
 exact hr
theorem PM {W:Wt} (h:W.kd=1) (c:Int):W.other c=false:=by unfold Wt.other;rw[h];rfl
theorem TR {W:Wt} (h:W.kd=3) {c:Int} (hr:W.reads c=true):W.other c=true:=by unfold Wt.reads at hr;rw[h] at hr;simpa using hr
theorem FP {f:Nat->Bool} {d i:Nat} (e:f i=true):upd f d true i=true:=by
 by_cases hi:i=d
 . rw[hi,upd_same]
 . rw[Z8 _ _ _ _ hi];exact e
inductive pY (h h':Gh) (C:Cl) (j:Nat) (α':Ac) (F F':List Nat):Prop where
 | same (a:h'.ZL=h.ZL) (b:F'=F) (c:∀ i,h.ZL i=true->h'.lk i=h.lk i)
 | mark (p s s2:Nat) (nx V:Int) (st:Nat) (e:C.po=.mark p s j nx s2) (o:α'=.over 0 V st) (a:h'.ZL=h.ZL) (b:F'=F) (c:h'.lk=upd h.lk j (nx+4294967296)) (d:h.lk j=nx)
 | cut (c:Nat) (nx V:Int) (st:Nat) (A B:List Nat) (e:(∃ s,C.po=.past j s c nx)\/∃ st,C.po=.lead j c nx st) (o:α'=.over 0 V st) (a:h'.ZL=h.ZL) (b:F=A ++ j :: c :: B) (b':F'=A ++ j :: B) (l:h'.lk=upd h.lk j nx) (d:h.lk j=h.H c)
 | put (s d:Nat) (nx V:Int) (st:Nat) (A B:List Nat) (e:C.po=.put j s nx d) (o:α'=.over 0 V st) (a:h'.ZL=upd h.ZL d true) (b:F=A ++ j :: B) (b':F'=A ++ j :: d :: B) (l:h'.lk=upd h.lk j (h.H d)) (l0:h.lk j=nx)
structure Gm (h h':Gh) (σ:Nat) (u u':Hi) (C C':Cl) (W:Wt) (j:Nat) (α α':Ac) (r':Option Rs) (F F':List Nat):Prop where
 on:α'.ZR=false->C'=C/\r'=none/\F'=F
 end_:∀ E V st,α'=.over E V st->r'=some ⟨E,V,st⟩/\C'=C.after ⟨E,V,st⟩
 e:∃ h1,Td h W j σ α α' h1/\h'.cv=h1.cv/\h'.st=h1.st
 f:F'=F\/(∃ s c nx,C.po=.past j s c nx)\/(∃ c nx st,C.po=.lead j c nx st)\/∃ s nx d,C.po=.put j s nx d
 fp:∀ s c nx V st,C.po=.past j s c nx->α'=.over 0 V st->∃ A B,F=A ++ j :: c :: B/\F'=A ++ j :: B
 pb:(∀ i,h.ZL i=true->h'.ZL i=true)/\∀ p s nx d V st,C.po=.put p s nx d->α'=.over 0 V st->h'.ZL d=true
 J:h'.J=h.J
 nd:h'.nd=h.nd
 ma:h'.ma=h.ma
 S:∀ s,s<=σ->u'.S s=u.S s
 ev:(u'.ev=u.ev/\u'.S (σ+1)=u.S σ)\/∃ (b:Bool) (V:Int),u'=u.turn σ C.k b/\α'=.over 0 V (σ+1)/\((∃ p s nx d,C.po=.put p s nx d)/\b=true\/(∃ p s c nx s2,C.po=.mark p s c nx s2)/\b=false)
 sh:pY h h' C j α' F F'
section
variable {t n k m σ K j:Nat} {q q':Q} {h:Gh} {jb:Nat->Jb} {hd:Nat} {F:List Nat} {u:Hi} {ts:Nat->Option (Cl × Option Rs)} {cg p r:Int} {C:Cl} {W:Wt}
theorem VQ {v:Int} {c:Nat} {S:Ow} {g:Nat} (h3:h.st j=3):(h.alt j 3 (upd (h.cv j) c v) 0 S g).st=h.st:=by
 funext i
 show upd h.st j 3 i=h.st i
 by_cases e:i=j
 . rw[e,upd_same,h3]
 . exact Z8 _ _ _ _ e
theorem Yk {v:Int} {S:Ow} {g:Nat}:(h.alt j 3 (upd (h.cv j) 1 v) 0 S g).lk=upd h.lk j v:=by
 funext i
 show upd h.cv j _ i 1=upd h.lk j v i
 by_cases e:i=j
 . rw[e,upd_same,upd_same,upd_same]
 . rw[Z8 _ _ _ _ e,Z8 _ _ _ _ e];rfl
theorem VP {v:Int} {S:Ow} {g:Nat}:(h.alt j 3 (upd (h.cv j) 1 v) 0 S g).ky hd=h.ky hd:=by
 funext i
 show (if i=hd then -1 else upd h.cv j _ i 0)=if i=hd then -1 else h.cv i 0
 by_cases e:i=j
 . rw[e,upd_same,Z8 _ _ _ _ (by decide)]
 . rw[Z8 _ _ _ _ e]
theorem Vp {v:Int} {S:Ow} {g:Nat} (i:Nat):(h.alt j 3 (upd (h.cv j) 1 v) 0 S g).cv i 0=h.cv i 0:=by
 show upd h.cv j _ i 0=_
 by_cases e:i=j
 . rw[e,upd_same,Z8 _ _ _ _ (by decide)]
 . rw[Z8 _ _ _ _ e]
theorem XI {c:Nat} {v:Int} {S:Ow} {g:Nat} {i:Nat} (e:i≠j):(h.alt j 3 (upd (h.cv j) c v) 0 S g).cv i=h.cv i:=Z8 _ _ _ _ e
theorem WZ.lay {u':Hi} {v:Int} {S:Ow} {g K':Nat} (L:Lw h hd σ F u) (hj:h.ZL j=true) (h3:h.st j=3) (hl:h.lk j<4294967296) (hS:∀ s,s<=σ->u'.S s=u.S s) (hev:∀ s,s<=σ->u'.ev s=u.ev s) (hdr:∀ c,u.dr c=some K'->u'.dr c=some K'):WZ h hd σ u K' (h.alt j 3 (upd (h.cv j) 1 v) 0 S g) (σ+1) u' :=
 WZ.of L (Nat.le_refl _) (fun _ _=>rfl) (fun _ e=>e) (fun _ e=>Or.inl e) (fun i _=>Vp i) (fun i hi hb=>by
  rw[Yk]
  exact Z8 _ _ _ _ (fun e=>by rw[e] at hb;omega)) (fun d _ hp hm=>⟨hp,hm,by rw[VQ h3],XI (fun e=>by rw[e,hj] at hp;cases hp)⟩) hS hev (fun c e=>⟨hdr c e,by rw[VQ h3]⟩)
theorem Lw.unlink (L:Lw h hd σ F u) {p c:Nat} {nx:Int} {S:Ow} {g:Nat} (K:Nat) (hp:h.ZL p=true) (h3:h.st p=3) (hc:Node h hd c) (hg:Gone h c nx) (hl:h.lk p=h.H c):∃ A B u',F=A ++ p :: c :: B/\Lw (h.alt p 3 (upd (h.cv p) 1 nx) 0 S g) hd (σ+1) (A ++ p :: B) u'/\(∀ K',WZ h hd σ u K' (h.alt p 3 (upd (h.cv p) 1 nx) 0 S g) (σ+1) u')/\u'.dr c=some K/\(h.alt p 3 (upd (h.cv p) 1 nx) 0 S g).st c=3/\Gone (h.alt p 3 (upd (h.cv p) 1 nx) 0 S g) c nx/\(∀ k,0<=k->h.ky hd p<k->LK (h.alt p 3 (upd (h.cv p) 1 nx) 0 S g) hd u' k (σ+1) nx)/\Tc (h.alt p 3 (upd (h.cv p) 1 nx) 0 S g) hd nx/\u'.ev=u.ev/\u'.S=(u.tick σ).S:=by
 obtain⟨g1,g2,g3⟩:=hg
 have nK:=L.l.h0 c hc.pu
 obtain⟨A,B,eF,l1,hi1,uP,sub,cF⟩:=L.l.past hp hc.pu hl (by omega)
 have e2:h.lk c - 4294967296=nx:=by omega
 rw[e2] at l1 hi1
 have l2:VU (h.alt p 3 (upd (h.cv p) 1 nx) 0 S g).ZL ((h.alt p 3 (upd (h.cv p) 1 nx) 0 S g).ky hd) (h.alt p 3 (upd (h.cv p) 1 nx) 0 S g).lk (h.alt p 3 (upd (h.cv p) 1 nx) 0 S g).H hd (A ++ p :: B):=by
  rw[Yk,VP];exact l1
 have hpc:c≠p:=fun e=>by rw[e] at g1;omega
 have L2:Lw (h.alt p 3 (upd (h.cv p) 1 nx) 0 S g) hd (σ+1) (A ++ p :: B) { u.tick σ with dr:=upd u.dr c (some K) }:=by
  refine L.tick l2 (fun k=>by rw[Yk,VP];exact hi1 k) (fun j hj=>by rw[VQ h3];exact L.f3 j (sub j hj)) L.pJ (fun c' K' e=>?_) (fun j hj hne=>by rw[Vp];exact L.kp j hj hne)
  by_cases ec:c'=c
  . rw[ec];exact⟨uP,hc.pu⟩
  . rw[Z8 _ _ _ _ ec] at e
    obtain⟨a1,a2⟩:=L.dF c' K' e
    exact⟨fun hm=>a1 (sub c' hm),a2⟩
 have zU:(h.alt p 3 (upd (h.cv p) 1 nx) 0 S g).lk p=nx:=by rw[Yk,upd_same]
 refine⟨A,B,_,eF,L2,fun K'=>WZ.lay L hp h3 (by omega) (fun s hs=>YC u hs) (fun _ _=>rfl) (fun c' e=>?_),upd_same _ _ _,by rw[VQ h3];exact L.f3 c cF,⟨by rw[Yk,Z8 _ _ _ _ hpc];exact g1,g2,g3⟩,fun k h0 hk f hS=>?_,⟨g2,g3,?_⟩,rfl,rfl⟩
 . show upd u.dr c (some K) c'=some K'
   rw[Z8 _ _ _ _ (fun ec=>(L.dF c' K' e).1 (by rw[ec];exact cF))];exact e
 . refine l2.absent hp (by rw[zU];exact g3) (by rw[VP];exact hk) ?_ ((L2.S k h0).1 hS)
   rw[zU];exact f
 . have:=l2.nx p hp
   rw[zU,show nx % 4294967296=nx by omega] at this
   exact this
theorem Lw.marks (L:Lw h hd σ F u) {c:Nat} {nx:Int} {S:Ow} {g:Nat} (hc:Node h hd c) (h3:h.st c=3) (hl:h.lk c=nx) (hnx:Tc h hd nx):Lw (h.alt c 3 (upd (h.cv c) 1 (nx+4294967296)) 0 S g) hd (σ+1) F (u.turn σ (h.ky hd c) false)/\(∀ K',WZ h hd σ u K' (h.alt c 3 (upd (h.cv c) 1 (nx+4294967296)) 0 S g) (σ+1) (u.turn σ (h.ky hd c) false))/\Gone (h.alt c 3 (upd (h.cv c) 1 (nx+4294967296)) 0 S g) c nx:=by
 have hs:h.lk c<4294967296:=by rw[hl];exact hnx.2.1
 obtain⟨l1,hi1⟩:=L.l.mark hc.pu hc.nh hs
 rw[hl] at l1 hi1
 have l2:VU (h.alt c 3 (upd (h.cv c) 1 (nx+4294967296)) 0 S g).ZL ((h.alt c 3 (upd (h.cv c) 1 (nx+4294967296)) 0 S g).ky hd) (h.alt c 3 (upd (h.cv c) 1 (nx+4294967296)) 0 S g).lk (h.alt c 3 (upd (h.cv c) 1 (nx+4294967296)) 0 S g).H hd F:=by
  rw[Yk,VP];exact l1
 have hk0:0<=h.ky hd c:=by unfold Gh.ky;rw[if_neg hc.nh];exact L.kp c hc.pu hc.nh
 refine⟨L.turn hk0 ⟨fun _=>rfl,fun _=>L.l.present hc.pu hs⟩ l2 (fun k'=>?_) (fun j hj=>by rw[VQ h3];exact L.f3 j hj) L.pJ L.dF (fun j hj hne=>by rw[Vp];exact L.kp j hj hne),fun K'=>WZ.lay L hc.pu h3 hs (fun s hs'=>Wx u hs') (fun s hs'=>Uz u hs') (fun _ e=>e),⟨by rw[Yk,upd_same],hnx.1,hnx.2.1⟩⟩
 rw[Yk,VP,hi1]
 constructor
 . rintro⟨a1,a2⟩;exact Or.inl ⟨a2,a1⟩
 . rintro(⟨a1,a2⟩ | ⟨-,a2⟩)
   . exact⟨a2,a1⟩
   . cases a2
theorem BL {i d:Nat} (G:Ground t n k m q h) (hG:Good t n k m cg p r) (hn:n<=65535) (hJ:h.J<=60000) (hi:i<h.J) (hd':d<h.J) (e:h.H i=h.H d):i=d:=by
 have Di:=G.FU hG hn hJ hi
 have Dd:=G.FU hG hn hJ hd'
 unfold Gh.H at e
 rw[VZ _ _ Di.xb Di.gb,VZ _ _ Dd.xb Dd.gb] at e
 have a1:=Di.xb
 have a2:=Dd.xb
 exact G.hn i d hi hd' (by omega) (by omega)
theorem FT {d:Nat} (G:Ground t n k m q h) (hG:Good t n k m cg p r) (hn:n<=65535) (hJ:h.J<=60000) (hd':d<h.J):0<h.H d/\h.H d<4294967296:=by
 have Dd:=G.FU hG hn hJ hd'
 have:=PS Dd.xb (G.nk d hd').g1 Dd.gb
 unfold Gh.H
 have a1:=this.lo
 have a2:=this.hi
 omega
theorem Lw.insert (L:Lw h hd σ F u) (G:Ground t n k m q h) (hG:Good t n k m cg p r) (hn:n<=65535) (hJ:h.J<=60000) {a d:Nat} {nx key:Int} {S:Ow} {g:Nat} (hp:h.ZL a=true) (h3:h.st a=3) (hO:Own h hd K d) (hk:h.ky hd a<key) (hk0:0<=key) (hdk:h.cv d 0=key) (hdl:h.cv d 1=nx) (hl:h.lk a=nx) (hnx:Tc h hd nx) (hf:nx=0\/∃ c,h.ZL c=true/\nx=h.H c/\key<h.ky hd c):∃ A B,F=A ++ a :: B/\Lw ((h.alt a 3 (upd (h.cv a) 1 (h.H d)) 0 S g).VV d) hd (σ+1) (A ++ a :: d :: B) (u.turn σ key true)/\(∀ K',K'≠K->WZ h hd σ u K' ((h.alt a 3 (upd (h.cv a) 1 (h.H d)) 0 S g).VV d) (σ+1) (u.turn σ key true)):=by
 have hs:h.lk a<4294967296:=by rw[hl];exact hnx.2.1
 have kd:h.ky hd d=key:=by unfold Gh.ky;rw[if_neg hO.nh];exact hdk
 have fresh:∀ i,h.ZL i=true->h.H i≠h.H d:=fun i hi e=>by
  have:=BL G hG hn hJ (L.pJ i hi) hO.dJ e
  rw[this,hO.pu] at hi;cases hi
 have had:a≠d:=fun e=>by rw[e,hO.pu] at hp;cases hp
 obtain⟨A,B,eF,l1,hi1,hmem⟩:=L.l.put (d:=d) hp hs hO.pu (by rw[kd];exact hk) (by rw[kd,hl];exact hf) (hdl.trans hl.symm) (FT G hG hn hJ hO.dJ) fresh
 have l2:VU ((h.alt a 3 (upd (h.cv a) 1 (h.H d)) 0 S g).VV d).ZL (((h.alt a 3 (upd (h.cv a) 1 (h.H d)) 0 S g).VV d).ky hd) ((h.alt a 3 (upd (h.cv a) 1 (h.H d)) 0 S g).VV d).lk ((h.alt a 3 (upd (h.cv a) 1 (h.H d)) 0 S g).VV d).H hd (A ++ a :: d :: B):=by
  have e1:((h.alt a 3 (upd (h.cv a) 1 (h.H d)) 0 S g).VV d).lk=upd h.lk a (h.H d):=Yk (S:=S) (g:=g)
  have e2:((h.alt a 3 (upd (h.cv a) 1 (h.H d)) 0 S g).VV d).ky hd=h.ky hd:=VP (S:=S) (g:=g)
  rw[e1,e2];exact l1
 have PH:∀ j,upd h.ZL d true j=true->j=d\/h.ZL j=true:=fun j hj=>by
  by_cases ej:j=d
  . exact Or.inl ej
  . rw[Z8 _ _ _ _ ej] at hj;exact Or.inr hj
 have xE:∀ j,h.ZL j=true->upd h.ZL d true j=true:=fun j hj=>by
  by_cases ej:j=d
  . rw[ej,upd_same]
  . rw[Z8 _ _ _ _ ej];exact hj
 have NW:∀ j,((h.alt a 3 (upd (h.cv a) 1 (h.H d)) 0 S g).VV d).st j=h.st j:=fun j=>congrFun (VQ (v:=h.H d) (c:=1) (S:=S) (g:=g) h3) j
 have zC:∀ j,((h.alt a 3 (upd (h.cv a) 1 (h.H d)) 0 S g).VV d).cv j 0=h.cv j 0:=fun j=>Vp (v:=h.H d) (S:=S) (g:=g) j
 have e1:((h.alt a 3 (upd (h.cv a) 1 (h.H d)) 0 S g).VV d).lk=upd h.lk a (h.H d):=Yk (S:=S) (g:=g)
 have e2:((h.alt a 3 (upd (h.cv a) 1 (h.H d)) 0 S g).VV d).ky hd=h.ky hd:=VP (S:=S) (g:=g)
 have pX:¬ O6 (h.ky hd) h.lk F key:=L.l.absent hp hs hk (by rw[hl];exact hf)
 refine⟨A,B,eF,L.turn hk0 ⟨fun e=>absurd e pX,fun e=>by cases e⟩ l2 (fun k'=>?_) (fun j hj=>?_) (fun j hj=>?_) (fun c K' e=>?_) (fun j hj hne=>?_),fun K' hne=>?_⟩
 . rw[e1,e2,hi1,kd]
   constructor
   . rintro(e | e)
     . by_cases ek:k'=key
       . exact Or.inr ⟨ek,rfl⟩
       . exact Or.inl ⟨ek,e⟩
     . exact Or.inr ⟨e,rfl⟩
   . rintro(⟨-,e⟩ | ⟨e,-⟩)
     . exact Or.inl e
     . exact Or.inr e
 . rw[NW]
   rcases (hmem j).1 hj with e | e
   . rw[e];exact hO.st
   . exact L.f3 j e
 . rcases PH j hj with e | e
   . rw[e];exact hO.dJ
   . exact L.pJ j e
 . obtain⟨b1,b2⟩:=L.dF c K' e
   refine⟨fun hm=>?_,xE c b2⟩
   rcases (hmem c).1 hm with e' | e'
   . rw[e',hO.pu] at b2;cases b2
   . exact b1 e'
 . rw[zC]
   rcases PH j hj with e | e
   . rw[e,hdk];exact hk0
   . exact L.kp j e hne
 . refine WZ.of L (Nat.le_refl _) (fun _ _=>rfl) xE (fun j hj=>?_) (fun j _=>zC j) (fun j hj hb=>?_) (fun d' hd' hp' hm=>⟨?_,hm,NW d',?_⟩) (fun s hs'=>Wx u hs') (fun s hs'=>Uz u hs') (fun c e=>⟨e,NW c⟩)
   . rcases PH j hj with e | e
     . exact Or.inr (fun i hi e'=>fresh i hi (by rw[e] at e';exact e'.symm))
     . exact Or.inl e
   . rw[e1];exact Z8 _ _ _ _ (fun e=>by rw[e] at hb;omega)
   . have:d'≠d:=fun e=>hne (by rw[<- hm,e];exact hO.ma)
     show upd h.ZL d true d'=false
     rw[Z8 _ _ _ _ this];exact hp'
   . exact XI (c:=1) (v:=h.H d) (S:=S) (g:=g) (fun e=>by rw[e,hp] at hp';cases hp')
theorem Lw.own (L:Lw h hd σ F u) {d c:Nat} {v:Int} {S:Ow} {g:Nat} (hO:Own h hd K d):Lw (h.alt d 3 (upd (h.cv d) c v) 0 S g) hd (σ+1) F (u.tick σ)/\(∀ K',K'≠K->WZ h hd σ u K' (h.alt d 3 (upd (h.cv d) c v) 0 S g) (σ+1) (u.tick σ))/\∀ d',Own h hd K d'->Own (h.alt d 3 (upd (h.cv d) c v) 0 S g) hd K d':=by
 have hne:∀ i,h.ZL i=true->i≠d:=fun i hi e=>by rw[e,hO.pu] at hi;cases hi
 have Ue:∀ i,h.ZL i=true->(h.alt d 3 (upd (h.cv d) c v) 0 S g).cv i=h.cv i:=fun i hi=>XI (hne i hi)
 have NW:=VQ (v:=v) (c:=c) (S:=S) (g:=g) hO.st
 obtain⟨l2,hi2⟩:=L.l.FO (zg:=(h.alt d 3 (upd (h.cv d) c v) 0 S g).ky hd) (lk':=(h.alt d 3 (upd (h.cv d) c v) 0 S g).lk) (H':=(h.alt d 3 (upd (h.cv d) c v) 0 S g).H) (fun i hi=>⟨by unfold Gh.ky;rw[Ue i hi],by unfold Gh.lk;rw[Ue i hi],rfl⟩)
 refine⟨L.tick (dr:=u.dr) l2 hi2 (fun j hj=>by rw[NW];exact L.f3 j hj) L.pJ L.dF (fun j hj hn=>by rw[Ue j hj];exact L.kp j hj hn),fun K' hK=>WZ.of L (Nat.le_refl _) (fun _ _=>rfl) (fun _ e=>e) (fun _ e=>Or.inl e) (fun i hi=>by rw[Ue i hi]) (fun i hi _=>by unfold Gh.lk;rw[Ue i hi]) (fun d' _ hp hm=>⟨hp,hm,by rw[NW],XI (fun e=>hK (by rw[<- hm,e];exact hO.ma))⟩) (fun s hs=>YC u hs) (fun _ _=>rfl) (fun c e=>⟨e,by rw[NW]⟩),fun d' h'=>⟨h'.dJ,h'.pu,h'.ma,by rw[NW];exact h'.st,h'.nh⟩⟩
theorem Lc.ac (X:Lc t n k m q σ h jb hd F u ts) (hG:Good t n k m cg p r) (hn:n<=65535) (hJ:h.J<=60000) (hK4:K<4) {α α':Ac} (hts:ts K=some (C,none)) (hjb:jb K=.ac W j α) (ht:Y9 W true (h.nd j).x (h.nd j).g σ q α=(q',α')) :
 α.good t n k m W (h.nd j).x (h.nd j).g q/\∃ h' F' u' C' r',Lc t n k m q' (σ+1) h' (upd jb K (if α'.ZR then .nil else .ac W j α')) hd F' u' (upd ts K (some (C',r')))/\Gm h h' σ u u' C C' W j α α' r' F F':=by
 have T:=X.t K C none hts
 have O:=X.m.jk K
 rw[hjb] at T O
 obtain⟨XC,ZF,uK⟩:=T.run rfl
 obtain⟨hj,WK,AK⟩:=O
 have N:=X.m.g.nk j hj
 obtain⟨gd,h',M',Ev0⟩:=X.m.ac hG hn hJ hK4 hjb ht
 refine⟨gd,?_⟩
 have L:=X.l
 have hh:h.ZL hd=true:=by obtain⟨C0,hC⟩:=L.l.hf;exact L.l.pb hd (by rw[hC];simp)
 have pW:hd∈F:=by obtain⟨C0,hC⟩:=L.l.hf;rw[hC];simp
 have uJ:=Xc.ZL hh XC ZF
 obtain⟨L1,o1⟩:=L.still
 have T1:=T.on (o1 K)
 have quiet:∀ β:Ac,β.ZR=false->LP h hd (σ+1) (u.tick σ) C.b (.ac W j β)->α'=β->h'=h->∃ h' F' u' C' r',Lc t n k m q' (σ+1) h' (upd jb K (if α'.ZR then .nil else .ac W j α')) hd F' u' (upd ts K (some (C',r')))/\Gm h h' σ u u' C C' W j α α' r' F F':=fun β hβ hk e1 e2=>by
  subst e1 e2
  rw[hβ] at M' ⊢
  refine⟨h',F,u.tick σ,C,none,X.put M' L1 (fun K' _=>o1 K') ⟨T1.my,T1.k0,T1.k1,T1.bb,T1.kd,fun _=>⟨(T1.run rfl).1,(T1.run rfl).2.1.next _,hk⟩,fun r' e=>by cases e⟩,⟨fun _=>⟨rfl,rfl,rfl⟩,(fun E V st e=>by rw[e] at hβ;cases hβ),⟨_,Ev0,rfl,rfl⟩,Or.inl rfl,(fun s c nx V st _ e=>by rw[e] at hβ;cases hβ),⟨fun _ e=>e,fun p s nx d V st _ e=>by rw[e] at hβ;cases hβ⟩,rfl,rfl,rfl,fun s hs=>YC u hs,Or.inl ⟨rfl,YM u σ⟩,.same rfl rfl (fun _ _=>rfl)⟩⟩
 have ended:∀ {E V:Int} {st:Nat},α'=.over E V st->h'=h->Xg h hd (σ+1) (u.tick σ) K C C.po ⟨E,V,st⟩->C.after ⟨E,V,st⟩=C->(E=0->(∀ p s c nx,C.po≠.past p s c nx)/\∀ p s nx d,C.po≠.put p s nx d)->∃ h' F' u' C' r',Lc t n k m q' (σ+1) h' (upd jb K (if α'.ZR then .nil else .ac W j α')) hd F' u' (upd ts K (some (C',r')))/\Gm h h' σ u u' C C' W j α α' r' F F':=fun {E V st} e1 e2 hk ha sJ=>by
  subst e1 e2
  refine⟨h',F,u.tick σ,C,some ⟨E,V,st⟩,X.put M' L1 (fun K' _=>o1 K') ⟨T1.my,T1.k0,T1.k1,T1.bb,T1.kd,(fun e=>by cases e),fun r' e=>by injection e with e;subst e;exact⟨rfl,hk⟩⟩,⟨(fun e=>by cases e),(fun E' V' st' e=>by cases e;exact⟨rfl,ha.symm⟩),⟨_,Ev0,rfl,rfl⟩,Or.inl rfl,(fun s c nx V' st' e1 e=>absurd e1 ((sJ (Ac.over.inj e).1).1 _ _ _ _)),⟨fun _ e=>e,fun p s nx d V' st' e1 e=>absurd e1 ((sJ (Ac.over.inj e).1).2 _ _ _ _)⟩,rfl,rfl,rfl,fun s hs=>YC u hs,Or.inl ⟨rfl,YM u σ⟩,.same rfl rfl (fun _ _=>rfl)⟩⟩
 have Ru:∀ {E V:Int} {st:Nat},E≠0->C.after ⟨E,V,st⟩=C:=fun {E V st} hE=>by
  unfold Cl.after
  split
  . rw[if_neg hE]
  . rfl
 have EV:=Ev0
 cases Ev0 with
 | seen v=>exact quiet (.ask v (σ+1)) rfl trivial rfl rfl
 | asked v a=>exact quiet (.load v 2) rfl trivial rfl rfl
 | open_ v hr h3=>exact quiet (.lay v (h.cv j W.ix.toNat)) rfl trivial rfl rfl
 | RX v c hc=>exact quiet .see rfl trivial rfl rfl
 | loaded v c hc hr =>
  have wJ:h.ZL j=true:=uJ.resolve_left (fun e=>by rw[LJ e] at hr;cases hr)
  exact quiet (.check v c (σ+1)) rfl ⟨wJ,L.rd T.bb wJ hc⟩ rfl rfl
 | told v c ld h4 =>
  obtain⟨sw,wc,hr⟩:=AK
  have hrd:=uK
  have FN:=hrd.2.on (o1 K) hrd.1
  have Kn1:=(T1.run rfl).1
  cases hpo:C.po with
  | first =>
   rw[hpo] at ZF
   obtain⟨W',β,e,k1,k2⟩:=ZF
   cases e
   rw[k2] at FN
   refine ended (E:=0) (by rw[PM k1];rfl) rfl ?_ (by unfold Cl.after;rw[hpo]) (fun _=>⟨(fun _ _ _ _ e=>by rw[hpo] at e;cases e),(fun _ _ _ _ e=>by rw[hpo] at e;cases e)⟩)
   rw[hpo];exact⟨rfl,hh,FN⟩
  | link p s c' =>
   rw[hpo] at ZF Kn1
   obtain⟨W',β,e,k1,k2⟩:=ZF
   cases e
   rw[k2] at FN
   refine ended (E:=0) (by rw[PM k1];rfl) rfl ?_ (by unfold Cl.after;rw[hpo]) (fun _=>⟨(fun _ _ _ _ e=>by rw[hpo] at e;cases e),(fun _ _ _ _ e=>by rw[hpo] at e;cases e)⟩)
   rw[hpo];exact fun _=>⟨Kn1.1,Kn1.2,FN⟩
  | key p s c' nx s2 =>
   rw[hpo] at ZF Kn1
   obtain⟨W',β,e,k1,k2⟩:=ZF
   cases e
   refine ended (E:=0) (by rw[PM k1];rfl) rfl ?_ (by unfold Cl.after;rw[hpo]) (fun _=>⟨(fun _ _ _ _ e=>by rw[hpo] at e;cases e),(fun _ _ _ _ e=>by rw[hpo] at e;cases e)⟩)
   rw[hpo];exact fun _=>⟨Kn1,FN.2.2.2.1 k2⟩
  | past p s c' nx =>
   rw[hpo] at ZF
   obtain⟨W',β,e,k1,k2⟩:=ZF
   cases e
   refine ended (E:=8) (by rw[TR k1 hr];rfl) rfl ?_ (Ru (by decide)) (fun e=>absurd e (by decide))
   rw[hpo];intro e;cases e
  | put p s nx d =>
   rw[hpo] at ZF
   obtain⟨W',β,e,k1,k2⟩:=ZF
   cases e
   refine ended (E:=8) (by rw[TR k1 hr];rfl) rfl ?_ (Ru (by decide)) (fun e=>absurd e (by decide))
   rw[hpo];intro e;cases e
  | mark p s c' nx s2 =>
   rw[hpo] at ZF
   obtain⟨W',β,e,k1,k2⟩:=ZF
   cases e
   refine ended (E:=8) (by rw[TR k1 hr];rfl) rfl ?_ (Ru (by decide)) (fun e=>absurd e (by decide))
   rw[hpo];intro e;cases e
  | lead p c' nx st =>
   rw[hpo] at ZF Kn1
   obtain⟨W',β,e,k1,k2⟩:=ZF
   cases e
   refine ended (E:=8) (by rw[TR k1 hr];rfl) rfl ?_ (Ru (by decide)) (fun e=>absurd e (by decide))
   rw[hpo];exact⟨Kn1.2.2.2,fun e=>by cases e⟩
  | wkey p s nx d =>
   rw[hpo] at ZF
   obtain⟨W',β,e,k1,k2⟩:=ZF
   cases e
   rw[LJ k1] at hr;cases hr
  | YL p s nx d =>
   rw[hpo] at ZF
   obtain⟨W',β,e,k1,k2⟩:=ZF
   cases e
   rw[LJ k1] at hr;cases hr
  | drop=>rw[hpo] at ZF;obtain⟨β,e⟩:=ZF;cases e
  | make=>rw[hpo] at ZF;obtain⟨i,β,e⟩:=ZF;cases e
  | Zo=>rw[hpo] at ZF;obtain⟨β,e⟩:=ZF;cases e
  | Zk=>rw[hpo] at ZF;obtain⟨β,e⟩:=ZF;cases e
  | over=>rw[hpo] at ZF;exact ZF.elim
 | gone _ h5 =>
  have Kn1:=(T1.run rfl).1
  refine ended (E:=3) rfl rfl ?_ (Ru (by decide)) (fun e=>absurd e (by decide))
  cases hpo:C.po with
  | first =>
   rw[hpo] at ZF
   obtain⟨W',β,e,k1,k2⟩:=ZF
   cases e
   have:=L.f3 _ pW
   omega
  | link p s c'=>intro e;cases e
  | key p s c' nx s2=>intro e;cases e
  | past p s c' nx=>intro e;cases e
  | put p s nx d=>intro e;cases e
  | mark p s c' nx s2=>intro e;cases e
  | lead p c' nx st =>
   rw[hpo] at Kn1
   exact⟨Kn1.2.2.2,fun e=>by cases e⟩
  | wkey p s nx d =>
   rw[hpo] at ZF XC
   obtain⟨W',β,e,k1,k2⟩:=ZF
   cases e
   have:=XC.2.2.st
   omega
  | YL p s nx d =>
   rw[hpo] at ZF XC
   obtain⟨W',β,e,k1,k2⟩:=ZF
   cases e
   have:=XC.2.2.1.st
   omega
  | drop=>rw[hpo] at ZF;obtain⟨β,e⟩:=ZF;cases e
  | make=>rw[hpo] at ZF;obtain⟨i,β,e⟩:=ZF;cases e
  | Zo=>rw[hpo] at ZF;obtain⟨β,e⟩:=ZF;cases e
  | Zk=>rw[hpo] at ZF;obtain⟨β,e⟩:=ZF;cases e
  | over=>rw[hpo] at ZF;exact ZF.elim
 | laid v hr h3 =>
  have J3:W.ix.toNat<2:=by rcases WK.ix with e | e <;> rw[e] <;> decide
  have V0:Val (h.cv j W.ix.toNat):=N.vl _ J3
  have bb:=T.bb
  cases hpo:C.po with
  | first =>
   rw[hpo] at ZF
   obtain⟨W',β,e,k1,k2⟩:=ZF
   cases e
   rw[PL k1] at hr;cases hr
  | link p s c' =>
   rw[hpo] at ZF
   obtain⟨W',β,e,k1,k2⟩:=ZF
   cases e
   rw[PL k1] at hr;cases hr
  | key p s c' nx s2 =>
   rw[hpo] at ZF
   obtain⟨W',β,e,k1,k2⟩:=ZF
   cases e
   rw[PL k1] at hr;cases hr
  | past p s c' nx =>
   rw[hpo] at ZF XC
   obtain⟨W',β,e,k1,k2,k3,k4⟩:=ZF
   cases e
   have ei:W.ix.toNat=1:=by rw[k2];rfl
   rw[ei] at V0 hr M'
   rw[k4] at M'
   obtain⟨A0,B0,u',eF,L',o',uI,st',xC,sH,nx',ev',eS⟩:=L.unlink (S:=.node j) (g:=h.gen (h.nd j).x) K XC.1.pp h3 XC.2.1 XC.2.2 ((VR k1 V0 hr).trans k3)
   have T2:=T.on (o' K)
   refine⟨_,A0 ++ j :: B0,u',C,some ⟨0,h.cv j W.ix.toNat,σ+1⟩,X.put M' L' (fun K' _=>o' K') ⟨T2.my,T2.k0,T2.k1,T2.bb,T2.kd,(fun e=>by cases e),fun r' e=>?_⟩,⟨(fun e=>by cases e),(fun E V st e=>by cases e;exact⟨rfl,by unfold Cl.after;rw[hpo]⟩),⟨_,EV,by rw[ei,k4],by rw[ei,k4]⟩,Or.inr (Or.inl ⟨_,_,_,hpo⟩),(fun s c nx V st e _=>by rw[hpo] at e;cases e;exact⟨A0,B0,eF,rfl⟩),⟨fun _ e=>e,fun p s nx d V st e _=>by rw[hpo] at e;cases e⟩,rfl,rfl,rfl,fun s hs=>by rw[eS];exact YC u hs,Or.inl ⟨ev',by rw[eS];exact YM u σ⟩,.cut _ _ _ _ A0 B0 (Or.inl ⟨_,hpo⟩) rfl rfl eF rfl Yk ((VR k1 V0 hr).trans k3)⟩⟩
   injection e with e
   subst e
   refine⟨rfl,?_⟩
   rw[hpo]
   exact fun _=>⟨⟨⟨XC.1.pp,by rw[VP];exact XC.1.kp,show C.b<σ+1 by omega,Nat.le_refl _,nx',sH C.k T.k0 XC.1.kp,by rw[ev'];exact L.ev (σ+1) (by omega)⟩,⟨XC.2.1.dJ,XC.2.1.pu,XC.2.1.nh⟩,⟨nx,xC⟩,uI⟩,st'⟩
  | lead p c' nx st0 =>
   rw[hpo] at ZF XC
   obtain⟨W',β,e,k1,k2,k3,k4⟩:=ZF
   cases e
   have ei:W.ix.toNat=1:=by rw[k2];rfl
   rw[ei] at V0 hr M'
   rw[k4] at M'
   obtain⟨A0,B0,u',eF,L',o',uI,st',xC,sH,nx',ev',eS⟩:=L.unlink (S:=.node j) (g:=h.gen (h.nd j).x) K XC.1 h3 XC.2.1 XC.2.2.1 ((VR k1 V0 hr).trans k3)
   have T2:=T.on (o' K)
   refine⟨_,A0 ++ j :: B0,u',C,some ⟨0,h.cv j W.ix.toNat,σ+1⟩,X.put M' L' (fun K' _=>o' K') ⟨T2.my,T2.k0,T2.k1,T2.bb,T2.kd,(fun e=>by cases e),fun r' e=>?_⟩,⟨(fun e=>by cases e),(fun E V st e=>by cases e;exact⟨rfl,by unfold Cl.after;rw[hpo]⟩),⟨_,EV,by rw[ei,k4],by rw[ei,k4]⟩,Or.inr (Or.inr (Or.inl ⟨_,_,_,hpo⟩)),(fun s c nx V st e _=>by rw[hpo] at e;cases e),⟨fun _ e=>e,fun p s nx d V st e _=>by rw[hpo] at e;cases e⟩,rfl,rfl,rfl,fun s hs=>by rw[eS];exact YC u hs,Or.inl ⟨ev',by rw[eS];exact YM u σ⟩,.cut _ _ _ _ A0 B0 (Or.inr ⟨_,hpo⟩) rfl rfl eF rfl Yk ((VR k1 V0 hr).trans k3)⟩⟩
   injection e with e
   subst e
   refine⟨rfl,?_⟩
   rw[hpo]
   have R':=XC.2.2.2.on (o' K)
   exact⟨R',fun _=>⟨⟨⟨XC.2.1.dJ,XC.2.1.pu,XC.2.1.nh⟩,⟨nx,xC⟩,uI,R'⟩,st'⟩⟩
  | put p s nx d =>
   rw[hpo] at ZF XC
   obtain⟨W',β,e,k1,k2,k3,k4⟩:=ZF
   cases e
   obtain⟨A,fa,Hw,c0,c1⟩:=XC
   have ei:W.ix.toNat=1:=by rw[k2];rfl
   rw[ei] at V0 hr M'
   rw[k4] at M'
   obtain⟨A0,B0,eF,L',o'⟩:=L.insert (S:=.node j) (g:=h.gen (h.nd j).x) X.m.g hG hn hJ A.pp h3 Hw A.kp T.k0 c0 c1 ((VR k1 V0 hr).trans k3) A.NY fa
   have M2:=M'.Dy (d:=d) Hw.pu (by rw[VQ h3];exact Hw.st) (by show upd jb K _ (h.ma d)=.nil;rw[Hw.ma,upd_same];rfl)
   have pU:C.kd=2:=by have:=T.kd;rw[hpo] at this;exact this (by simp[Po.kd])
   refine⟨_,A0 ++ j :: d :: B0,_,{ C with my:=none },some ⟨0,h.cv j W.ix.toNat,σ+1⟩,X.put M2 L' o' ⟨(fun d e=>by cases e),T.k0,T.k1,by show C.b<=σ+1;omega,T.kd,(fun e=>by cases e),fun r' e=>?_⟩,⟨(fun e=>by cases e),(fun E V st e=>by cases e;exact⟨rfl,by unfold Cl.after;rw[hpo];rfl⟩),⟨_,EV,by rw[ei,k4];rfl,by rw[ei,k4];rfl⟩,Or.inr (Or.inr (Or.inr ⟨_,_,_,hpo⟩)),(fun s c nx V st e _=>by rw[hpo] at e;cases e),⟨fun i e=>FP e,fun p s nx d V st e _=>by rw[hpo] at e;cases e;exact upd_same _ _ _⟩,rfl,rfl,rfl,fun s hs=>Wx u hs,Or.inr ⟨true,_,rfl,rfl,Or.inl ⟨⟨_,_,_,_,hpo⟩,rfl⟩⟩,.put _ _ _ _ _ A0 B0 hpo rfl rfl eF rfl (Yk (S:=.node j) (g:=h.gen (h.nd j).x)) ((VR k1 V0 hr).trans k3)⟩⟩
   injection e with e
   subst e
   refine⟨rfl,?_⟩
   show Xg _ hd (σ+1) _ K { C with my:=none } C.po _
   rw[hpo]
   exact fun _=>⟨by show C.b<σ+1;omega,Nat.le_refl _,Or.inl ⟨rfl,Or.inr (Or.inl ⟨pU,Uw _ _ _ _⟩)⟩⟩
  | mark p s c' nx s2 =>
   rw[hpo] at ZF XC
   obtain⟨W',β,e,k1,k2,k3,k4⟩:=ZF
   cases e
   obtain⟨a1,a2,a3,a4⟩:=XC
   have ei:W.ix.toNat=1:=by rw[k2];rfl
   rw[ei] at V0 hr M'
   rw[k4] at M'
   obtain⟨L',o',xC⟩:=L.marks (S:=.node j) (g:=h.gen (h.nd j).x) a2 h3 ((VR k1 V0 hr).trans k3) a4
   rw[a3] at L' o'
   have pR:C.kd=3:=by have:=T.kd;rw[hpo] at this;exact this (by simp[Po.kd])
   have T2:=T.on (o' K)
   refine⟨_,F,_,C,some ⟨0,h.cv j W.ix.toNat,σ+1⟩,X.put M' L' (fun K' _=>o' K') ⟨T2.my,T2.k0,T2.k1,T2.bb,T2.kd,(fun e=>by cases e),fun r' e=>?_⟩,⟨(fun e=>by cases e),(fun E V st e=>by cases e;exact⟨rfl,by unfold Cl.after;rw[hpo]⟩),⟨_,EV,by rw[ei,k4],by rw[ei,k4]⟩,Or.inl rfl,(fun s c nx V st e _=>by rw[hpo] at e;cases e),⟨fun _ e=>e,fun p s nx d V st e _=>by rw[hpo] at e;cases e⟩,rfl,rfl,rfl,fun s hs=>Wx u hs,Or.inr ⟨false,_,rfl,rfl,Or.inr ⟨⟨_,_,_,_,_,hpo⟩,rfl⟩⟩,.mark _ _ _ _ _ _ hpo rfl rfl rfl Yk ((VR k1 V0 hr).trans k3)⟩⟩
   injection e with e
   subst e
   refine⟨rfl,?_⟩
   rw[hpo]
   exact fun _=>⟨a1,⟨a2.dJ,a2.pu,a2.nh⟩,xC,show C.b<σ+1 by omega,Nat.le_refl _,Or.inl ⟨rfl,Or.inr (Or.inr ⟨pR,Uw _ _ _ _⟩)⟩⟩
  | wkey p s nx d =>
   rw[hpo] at ZF XC
   obtain⟨W',β,e,k1,k2,k3⟩:=ZF
   cases e
   obtain⟨A,fa,Hw⟩:=XC
   have ei:W.ix.toNat=0:=by rw[k2];rfl
   rw[ei] at M'
   rw[k3] at M'
   obtain⟨L',o',xB⟩:=L.own (c:=0) (v:=C.k) (S:=.node j) (g:=h.gen (h.nd j).x) Hw
   have oX:=o' (K+1) (by omega)
   have c0:(h.alt j 3 (upd (h.cv j) 0 C.k) 0 (.node j) (h.gen (h.nd j).x)).cv j 0=C.k:=by show upd h.cv j _ j 0=_;rw[upd_same,upd_same]
   refine⟨_,F,_,C,some ⟨0,h.cv j W.ix.toNat,σ+1⟩,X.put M' L' o' ⟨fun d' e=>?_,T.k0,T.k1,by omega,T.kd,(fun e=>by cases e),fun r' e=>?_⟩,⟨(fun e=>by cases e),(fun E V st e=>by cases e;exact⟨rfl,by unfold Cl.after;rw[hpo]⟩),⟨_,EV,by rw[ei,k3],by rw[ei,k3]⟩,Or.inl rfl,(fun s c nx V st e _=>by rw[hpo] at e;cases e),⟨fun _ e=>e,fun p s nx d V st e _=>by rw[hpo] at e;cases e⟩,rfl,rfl,rfl,fun s hs=>YC u hs,Or.inl ⟨rfl,YM u σ⟩,.same rfl rfl (fun i hi=>by unfold Gh.lk;rw[XI (fun e=>by rw[e,Hw.pu] at hi;cases hi)])⟩⟩
   . obtain⟨b1,b2⟩:=T.my d' e
     refine⟨xB d' b1,?_⟩
     by_cases ed:d'=j
     . rw[ed];exact c0
     . rw[XI ed];exact b2
   . injection e with e
     subst e
     refine⟨rfl,?_⟩
     rw[hpo]
     exact⟨rfl,A.on oX,VS oX fa,xB _ Hw,c0⟩
  | YL p s nx d =>
   rw[hpo] at ZF XC
   obtain⟨W',β,e,k1,k2,k3⟩:=ZF
   cases e
   obtain⟨A,fa,Hw,c0⟩:=XC
   have ei:W.ix.toNat=1:=by rw[k2];rfl
   rw[ei] at M'
   rw[k3] at M'
   obtain⟨L',o',xB⟩:=L.own (c:=1) (v:=nx) (S:=.node j) (g:=h.gen (h.nd j).x) Hw
   have oX:=o' (K+1) (by omega)
   have c1:(h.alt j 3 (upd (h.cv j) 1 nx) 0 (.node j) (h.gen (h.nd j).x)).cv j 1=nx:=by show upd h.cv j _ j 1=_;rw[upd_same,upd_same]
   refine⟨_,F,_,C,some ⟨0,h.cv j W.ix.toNat,σ+1⟩,X.put M' L' o' ⟨fun d' e=>?_,T.k0,T.k1,by omega,T.kd,(fun e=>by cases e),fun r' e=>?_⟩,⟨(fun e=>by cases e),(fun E V st e=>by cases e;exact⟨rfl,by unfold Cl.after;rw[hpo]⟩),⟨_,EV,by rw[ei,k3],by rw[ei,k3]⟩,Or.inl rfl,(fun s c nx V st e _=>by rw[hpo] at e;cases e),⟨fun _ e=>e,fun p s nx d V st e _=>by rw[hpo] at e;cases e⟩,rfl,rfl,rfl,fun s hs=>YC u hs,Or.inl ⟨rfl,YM u σ⟩,.same rfl rfl (fun i hi=>by unfold Gh.lk;rw[XI (fun e=>by rw[e,Hw.pu] at hi;cases hi)])⟩⟩
   . obtain⟨b1,b2⟩:=T.my d' e
     exact⟨xB d' b1,by rw[Vp];exact b2⟩
   . injection e with e
     subst e
     refine⟨rfl,?_⟩
     rw[hpo]
     exact⟨rfl,A.on oX,VS oX fa,xB _ Hw,by rw[Vp];exact c0,c1⟩
  | drop=>rw[hpo] at ZF;obtain⟨β,e⟩:=ZF;cases e
  | make=>rw[hpo] at ZF;obtain⟨i,β,e⟩:=ZF;cases e
  | Zo=>rw[hpo] at ZF;obtain⟨β,e⟩:=ZF;cases e
  | Zk=>rw[hpo] at ZF;obtain⟨β,e⟩:=ZF;cases e
  | over=>rw[hpo] at ZF;exact ZF.elim
end
end
section
section
variable {t n k m σ K j:Nat} {q q':Q} {h h':Gh} {jb:Nat->Jb} {hd:Nat} {F:List Nat} {u:Hi} {ts:Nat->Option (Cl × Option Rs)} {cg p r:Int} {C:Cl}
theorem WA.later (M:WA t n k m q σ h jb) {σ':Nat} (hs:σ<=σ'):WA t n k m q σ' h jb:=by
 refine⟨M.g,fun K=>?_,M.dd,M.bz,M.sum⟩
 have O:=M.jk K
 cases hj:jb K with
 | nil=>trivial
 | al j α =>
  rw[hj] at O
  refine⟨?_,O.2⟩
  have g:=O.1
  cases α with
  | place x G τ=>exact⟨g.1,g.2.1,g.2.2.1,g.2.2.2.1.up hs,g.2.2.2.2⟩
  | _=>exact g
 | dp j α=>rw[hj] at O;exact O
 | ac W j α=>rw[hj] at O;exact O
theorem Lc.tick (X:Lc t n k m q σ h jb hd F u ts):Lc t n k m q (σ+1) h jb hd F (u.tick σ) ts:=by
 obtain⟨L1,o1⟩:=X.l.still
 exact⟨X.m.later (Nat.le_succ _),L1,fun K C r e=>(X.t K C r e).on (o1 K),X.n⟩
theorem Lw.aside (L:Lw h hd σ F u) (J:h.J<=h'.J) (nd:∀ i,i<h.J->h'.nd i=h.nd i) (cv:∀ i,i<h.J->h'.cv i=h.cv i) (ZL:∀ i,h'.ZL i=h.ZL i) (ma:∀ i,i<h.J->h'.ma i=h.ma i) (st:∀ i,i<h.J->i≠j->h'.st i=h.st i) (hF:j∈F->h'.st j=h.st j):Lw h' hd (σ+1) F (u.tick σ)/\∀ K',(h'.st j=h.st j\/(u.dr j≠some K'/\(j<h.J->h.ZL j=false->h.ma j≠K')))->WZ h hd σ u K' h' (σ+1) (u.tick σ):=by
 have hp:h'.ZL=h.ZL:=funext ZL
 obtain⟨l2,hi2⟩:=L.l.FO (zg:=h'.ky hd) (lk':=h'.lk) (H':=h'.H) (fun i hi=>⟨by unfold Gh.ky;rw[cv i (L.pJ i hi)],by unfold Gh.lk;rw[cv i (L.pJ i hi)],by unfold Gh.H;rw[nd i (L.pJ i hi)]⟩)
 refine⟨L.tick (dr:=u.dr) (by rw[hp];exact l2) hi2 (fun i hi=>?_) (fun i hi=>Nat.lt_of_lt_of_le (L.pJ i (by rw[<- ZL i];exact hi)) J) (fun c K e=>by rw[hp];exact L.dF c K e) (fun i hi hne=>by rw[ZL i] at hi;rw[cv i (L.pJ i hi)];exact L.kp i hi hne),fun K' hj=>?_⟩
 . by_cases e:i=j
   . rw[e] at hi ⊢;rw[hF hi];exact L.f3 j hi
   . rw[st i (L.pJ i (L.l.pb i hi)) e];exact L.f3 i hi
 . refine WZ.of L J nd (fun i hi=>by rw[ZL i];exact hi) (fun i hi=>Or.inl (by rw[<- ZL i];exact hi)) (fun i hi=>by rw[cv i (L.pJ i hi)]) (fun i hi _=>by unfold Gh.lk;rw[cv i (L.pJ i hi)]) (fun d hd' zY hm=>⟨by rw[ZL d];exact zY,(ma d hd').trans hm,?_,cv d hd'⟩) (fun s hs=>YC u hs) (fun _ _=>rfl) (fun c e=>⟨e,?_⟩)
   . by_cases e:d=j
     . rcases hj with hj | ⟨-,hj⟩
       . rw[e];exact hj
       . rw[e] at zY hm hd';exact absurd hm (hj hd' zY)
     . exact st d hd' e
   . by_cases e':c=j
     . rcases hj with hj | ⟨hj,-⟩
       . rw[e'];exact hj
       . rw[e'] at e;exact absurd e hj
     . exact st c (L.pJ c (L.dF c K' e).2) e'
theorem Lc.dp (X:Lc t n k m q σ h jb hd F u ts) (hG:Good t n k m cg p r) (hn:n<=65535) (hJ:h.J<=60000) (hcg:(h.J:Int)+2<=cg) (hF:∀ x,x∈q.F->x<n) (hK4:K<4) {α α':Dp} (hts:ts K=some (C,none)) (hjb:jb K=.dp j α) (ht:ZK t n k m cg true (h.nd j).x (h.nd j).g q α=(q',α')) :
 (α.good t n k m (h.nd j).x (h.nd j).g q/\∀ Z i η,α=.fin Z i η->α'=.count Z i->q'.sw (h.nd j).x≠q.sw (h.nd j).x)/\∃ h' r',Lc t n k m q' (σ+1) h' (upd jb K (if α'.ZR then .nil else .dp j α')) hd F (u.tick σ) (upd ts K (some (C,r')))/\(α'.ZR=false->r'=none)/\(∀ E,α'=.over E->E=0/\r'=some ⟨0,0,σ+1⟩)/\YP h h' j:=by
 have T:=X.t K C none hts
 rw[hjb] at T
 obtain⟨XC,ZF,-⟩:=T.run rfl
 obtain⟨gd,h',M',c,hE⟩:=X.m.dp hG hn hJ hcg hF hK4 hjb ht
 refine⟨gd,?_⟩
 have L:=X.l
 have key:j∉F/\(∀ K',K'≠K->u.dr j≠some K'/\(h.ZL j=false->h.ma j≠K'))/\(∀ d,C.my=some d->d≠j):=by
  revert XC ZF
  cases C.po with
  | drop p s c nx =>
   intro a i
   obtain⟨β,e⟩:=i
   cases e
   refine⟨(L.dF _ K a.2.2.2).1,fun K' hne=>⟨fun e=>?_,fun e=>?_⟩,fun d hd e=>?_⟩
   . rw[a.2.2.2] at e;injection e with e;exact hne e.symm
   . rw[a.2.1.pu] at e;cases e
   . have:=(T.my d hd).1.pu
     rw[e,a.2.1.pu] at this;cases this
  | Zo c st =>
   intro a i
   obtain⟨β,e⟩:=i
   cases e
   refine⟨(L.dF _ K a.2.2.1).1,fun K' hne=>⟨fun e=>?_,fun e=>?_⟩,fun d hd e=>?_⟩
   . rw[a.2.2.1] at e;injection e with e;exact hne e.symm
   . rw[a.1.pu] at e;cases e
   . have:=(T.my d hd).1.pu
     rw[e,a.1.pu] at this;cases this
  | Zk d v st =>
   intro a i
   obtain⟨β,e⟩:=i
   cases e
   obtain⟨a1,a2,a3,a4,a5⟩:=a
   refine⟨fun hm=>?_,fun K' hne=>⟨fun e=>?_,fun _ e=>hne (e.symm.trans a3)⟩,fun d hd e=>?_⟩
   . rw[L.l.pb _ hm] at a2;cases a2
   . rw[(L.dF _ K' e).2] at a2;cases a2
   . rw[a4] at hd;cases hd
  | first=>intro a i;obtain⟨W,β,e,-⟩:=i;cases e
  | link=>intro a i;obtain⟨W,β,e,-⟩:=i;cases e
  | past=>intro a i;obtain⟨W,β,e,-⟩:=i;cases e
  | key=>intro a i;obtain⟨W,β,e,-⟩:=i;cases e
  | make=>intro a i;obtain⟨l,β,e⟩:=i;cases e
  | wkey=>intro a i;obtain⟨W,β,e,-⟩:=i;cases e
  | YL=>intro a i;obtain⟨W,β,e,-⟩:=i;cases e
  | put=>intro a i;obtain⟨W,β,e,-⟩:=i;cases e
  | mark=>intro a i;obtain⟨W,β,e,-⟩:=i;cases e
  | lead=>intro a i;obtain⟨W,β,e,-⟩:=i;cases e
  | over=>intro a i;exact i.elim
 obtain⟨jF,hoth,Qy⟩:=key
 obtain⟨L',oo⟩:=L.aside (h':=h') (j:=j) (by rw[c.J];exact Nat.le_refl _) (fun i _=>by rw[c.nd]) (fun i _=>by rw[c.cv]) (fun i=>by rw[c.ZL]) (fun i _=>by rw[c.ma]) (fun i _ hi=>c.st i hi) (fun hm=>absurd hm jF)
 have oX:=oo (K+1) (Or.inr ⟨(hoth (K+1) (by omega)).1,fun _=>(hoth (K+1) (by omega)).2⟩)
 have o':∀ K',K'≠K->WZ h hd σ u K' h' (σ+1) (u.tick σ):=fun K' hne=>oo K' (Or.inr ⟨(hoth K' hne).1,fun _=>(hoth K' hne).2⟩)
 have BH:∀ d,C.my=some d->Own h' hd K d/\h'.cv d 0=C.k:=fun d hd=>by
  obtain⟨b1,b2⟩:=T.my d hd
  exact⟨⟨by rw[c.J];exact b1.dJ,by rw[c.ZL];exact b1.pu,by rw[c.ma];exact b1.ma,by rw[c.st d (Qy d hd)];exact b1.st,b1.nh⟩,by rw[c.cv];exact b2⟩
 have bb:=T.bb
 have kn:(∀ β:Dp,Kn h' hd (σ+1) (u.tick σ) K C C.po/\Xc h' hd C.k C.po (.dp j β))/\∀ r0,Xg h' hd (σ+1) (u.tick σ) K C C.po r0:=by
  revert XC ZF
  cases C.po with
  | drop p s c' nx =>
   intro a i
   obtain⟨β,e⟩:=i
   cases e
   obtain⟨a1,a2,⟨nx',a3⟩,a4⟩:=a
   exact⟨fun β=>⟨⟨a1.on oX,a2.on oX,⟨nx',a3.on oX a2.pu⟩,a4⟩,⟨β,rfl⟩⟩,fun _=>a1.on oX⟩
  | Zo c' st =>
   intro a i
   obtain⟨β,e⟩:=i
   cases e
   obtain⟨a1,⟨nx,a2⟩,a3,a4⟩:=a
   exact⟨fun β=>⟨⟨a1.on oX,⟨nx,a2.on oX a1.pu⟩,a3,a4.on oX⟩,⟨β,rfl⟩⟩,fun _=>a4.on oX⟩
  | Zk d v st =>
   intro a i
   obtain⟨β,e⟩:=i
   cases e
   obtain⟨a1,a2,a3,a4,a5⟩:=a
   exact⟨fun β=>⟨⟨by rw[c.J];exact a1,by rw[c.ZL];exact a2,by rw[c.ma];exact a3,a4,a5.on oX⟩,⟨β,rfl⟩⟩,fun _=>a5.on oX⟩
  | first=>intro a i;obtain⟨W,β,e,-⟩:=i;cases e
  | link=>intro a i;obtain⟨W,β,e,-⟩:=i;cases e
  | past=>intro a i;obtain⟨W,β,e,-⟩:=i;cases e
  | key=>intro a i;obtain⟨W,β,e,-⟩:=i;cases e
  | make=>intro a i;obtain⟨l,β,e⟩:=i;cases e
  | wkey=>intro a i;obtain⟨W,β,e,-⟩:=i;cases e
  | YL=>intro a i;obtain⟨W,β,e,-⟩:=i;cases e
  | put=>intro a i;obtain⟨W,β,e,-⟩:=i;cases e
  | mark=>intro a i;obtain⟨W,β,e,-⟩:=i;cases e
  | lead=>intro a i;obtain⟨W,β,e,-⟩:=i;cases e
  | over=>intro a i;exact i.elim
 cases hov:α'.ZR with
 | false =>
  rw[hov] at M'
  exact⟨h',none,X.put M' L' o' ⟨BH,T.k0,T.k1,by omega,T.kd,fun _=>⟨(kn.1 α').1,(kn.1 α').2,trivial⟩,fun r' e=>by cases e⟩,fun _=>rfl,(fun E e=>by rw[e] at hov;cases hov),c⟩
 | true =>
  rw[hov] at M'
  exact⟨h',some ⟨0,0,σ+1⟩,X.put M' L' o' ⟨BH,T.k0,T.k1,by omega,T.kd,(fun e=>by cases e),fun r' e=>⟨rfl,kn.2 r'⟩⟩,(fun e=>by cases e),fun E e=>⟨hE E e,rfl⟩,c⟩
theorem Lc.al (X:Lc t n k m q σ h jb hd F u ts) (hJ:h.J<=60000) (hK4:K<4) {α α':Al} (hts:ts K=some (C,none)) (hjb:jb K=.al j α) (ho:α.ZR=false) (ht:ZN t n k m 0 2 true σ q α=(q',α')) (hg':α'.good t n k m 0 (σ+1) q') :
 ∃ h' j' r',Lc t n k m q' (σ+1) h' (upd jb K (if α'.ZR then .nil else .al j' α')) hd F (u.tick σ) (upd ts K (some (C,r')))/\(α'.ZR=false->r'=none)/\(∀ E H st,α'=.over E H st->r'=some ⟨E,H,st⟩)/\QN h K j σ q α j' α' h':=by
 have T:=X.t K C none hts
 rw[hjb] at T
 obtain⟨XC,ZF,-⟩:=T.run rfl
 have bb:=T.bb
 obtain⟨h',j',M',ev⟩:=X.m.al hJ hK4 hjb ho ht hg'
 have L:=X.l
 obtain⟨a0,s0,nJ,hpo⟩:∃ a s nx,C.po=.make a s nx:=by
  revert ZF
  cases C.po with
  | make a s nx=>exact fun _=>⟨a,s,nx,rfl⟩
  | drop=>intro i;obtain⟨β,e⟩:=i;cases e
  | Zo=>intro i;obtain⟨β,e⟩:=i;cases e
  | Zk=>intro i;obtain⟨β,e⟩:=i;cases e
  | first=>intro i;obtain⟨W,β,e,-⟩:=i;cases e
  | link=>intro i;obtain⟨W,β,e,-⟩:=i;cases e
  | past=>intro i;obtain⟨W,β,e,-⟩:=i;cases e
  | key=>intro i;obtain⟨W,β,e,-⟩:=i;cases e
  | wkey=>intro i;obtain⟨W,β,e,-⟩:=i;cases e
  | YL=>intro i;obtain⟨W,β,e,-⟩:=i;cases e
  | put=>intro i;obtain⟨W,β,e,-⟩:=i;cases e
  | mark=>intro i;obtain⟨W,β,e,-⟩:=i;cases e
  | lead=>intro i;obtain⟨W,β,e,-⟩:=i;cases e
  | over=>intro i;exact i.elim
 rw[hpo] at XC
 obtain⟨A,fa⟩:=XC
 -- the picked one,behind it
 have run:∀ {h1:Gh} {j1:Nat} {β:Al},WZ h hd σ u (K+1) h1 (σ+1) (u.tick σ)->(∀ d,C.my=some d->Own h1 hd K d/\h1.cv d 0=C.k)->MC h1 hd (σ+1) (u.tick σ) K C none (.al j1 β):=fun {h1 j1 β} oX my=>⟨my,T.k0,T.k1,by omega,T.kd,fun _=>⟨by rw[hpo];exact⟨A.on oX,VS oX fa⟩,by rw[hpo];exact⟨j1,β,rfl⟩,trivial⟩,fun r' e=>by cases e⟩
 have fell:∀ {h1:Gh} {E H:Int} {st:Nat},E≠0->(∀ d,C.my=some d->Own h1 hd K d/\h1.cv d 0=C.k)->MC h1 hd (σ+1) (u.tick σ) K C (some ⟨E,H,st⟩) .nil:=fun {h1 E H st} hE my=>⟨my,T.k0,T.k1,by omega,T.kd,(fun e=>by cases e),fun r' e=>by injection e with e;subst e;exact⟨rfl,by rw[hpo];exact fun e=>absurd e hE⟩⟩
 have own':∀ {h1:Gh},h.J<=h1.J->(∀ i,i<h.J->h1.ZL i=h.ZL i/\h1.ma i=h.ma i/\h1.cv i=h.cv i)->(∀ i,i<h.J->h.st i=3->h1.st i=3)->∀ d,C.my=some d->Own h1 hd K d/\h1.cv d 0=C.k:=fun {h1} e1 e2 e3 d hd'=>by
  obtain⟨b1,b2⟩:=T.my d hd'
  obtain⟨c1,c2,c3⟩:=e2 d b1.dJ
  exact⟨⟨Nat.lt_of_lt_of_le b1.dJ e1,c1.trans b1.pu,c2.trans b1.ma,e3 d b1.dJ b1.st,b1.nh⟩,by rw[c3];exact b2⟩
 have low:∀ {h1:Gh} {i:Nat},YP h h1 i->(h1.st i=h.st i\/(i<h.J/\h.st i<=2/\h.ma i=K))->Lw h1 hd (σ+1) F (u.tick σ)/\(∀ K',K'≠K->WZ h hd σ u K' h1 (σ+1) (u.tick σ))/\(∀ d,C.my=some d->Own h1 hd K d/\h1.cv d 0=C.k):=fun {h1 i} c hs=>by
  have np:(i<h.J/\h.st i<=2/\h.ma i=K)->h.ZL i=false:=fun⟨e1,e2,_⟩=>by
   cases hp:h.ZL i with
   | false=>rfl
   | true=>have:=((X.m.g.nk i e1).pf hp).1;omega
  obtain⟨L',oo⟩:=L.aside (h':=h1) (j:=i) (by rw[c.J];exact Nat.le_refl _) (fun i _=>by rw[c.nd]) (fun i _=>by rw[c.cv]) (fun i=>by rw[c.ZL]) (fun i _=>by rw[c.ma]) (fun i' _ hi=>c.st i' hi) (fun hm=>by
   rcases hs with hs | hs
   . exact hs
   . have:=L.f3 i hm;omega)
  refine⟨L',fun K' hne=>oo K' ?_,own' (by rw[c.J];exact Nat.le_refl _) (fun i _=>⟨by rw[c.ZL],by rw[c.ma],by rw[c.cv]⟩) (fun i' hi' h3=>?_)⟩
  . rcases hs with hs | hs
    . exact Or.inl hs
    . refine Or.inr ⟨fun e=>?_,fun _ _ e=>hne (e.symm.trans hs.2.2)⟩
      have:=(L.dF i K' e).2
      rw[np hs] at this;cases this
  . by_cases e:i'=i
    . rcases hs with hs | hs
      . rw[e,hs,<- e];exact h3
      . rw[e] at h3;omega
    . rw[c.st i' e];exact h3
 cases ev with
 | on c hs hov hlt =>
  rw[hov] at M' ⊢
  obtain⟨L',o',BH⟩:=low c hs
  exact⟨h',j,none,X.put M' L' o' (run (o' (K+1) (by omega)) BH),fun _=>rfl,(fun E H st e=>by rw[e] at hov;cases hov),.on c hs hov hlt⟩
 | @YF x g a i τ =>
  obtain⟨L',oo⟩:=L.aside (h':=h.born ⟨x,g,a,i⟩ K) (j:=h.J) (by show h.J<=h.J+1;omega) (fun i hi=>(Zz _ hi).1) (fun i hi=>(Zz _ hi).2.2.1) (fun i'=>by
   by_cases e:i'=h.J
   . rw[e,(Ro _).2.2.2.2.1]
     cases hp:h.ZL h.J with
     | false=>rfl
     | true=>have:=L.pJ _ hp;omega
   . exact Z8 _ _ _ _ e) (fun i hi=>(Zz _ hi).2.2.2.2.2) (fun i hi _=>(Zz _ hi).2.1) (fun hm=>by have:=L.pJ _ (L.l.pb _ hm);omega)
  have o':∀ K',WZ h hd σ u K' (h.born ⟨x,g,a,i⟩ K) (σ+1) (u.tick σ):=fun K'=>oo K' (Or.inr ⟨fun e=>by have:=L.pJ _ (L.dF _ K' e).2;omega,fun e=>by omega⟩)
  exact⟨_,_,none,X.put M' L' (fun K' _=>o' K') (run (o' _) (own' (by show h.J<=h.J+1;omega) (fun i hi=>⟨(Zz _ hi).2.2.2.2.1,(Zz _ hi).2.2.2.2.2,(Zz _ hi).2.2.1⟩) (fun i hi h3=>by rw[(Zz _ hi).2.1];exact h3))),fun _=>rfl,(fun E H st e=>by cases e),.YF⟩
 | @made x g a i st _ hj hd' hm h2 h3 c =>
  obtain⟨L',o',BH⟩:=low c (Or.inr ⟨hj,by omega,hm⟩)
  have oX:=o' (K+1) (by omega)
  have hp:h.ZL j=false:=by
   cases hp:h.ZL j with
   | false=>rfl
   | true=>have:=((X.m.g.nk j hj).pf hp).1;omega
  have hh:h.ZL hd=true:=by obtain⟨C0,hC⟩:=L.l.hf;exact L.l.pb hd (by rw[hC];simp)
  refine⟨h',j,some ⟨0,Yi x g,st⟩,X.put M' L' o' ⟨BH,T.k0,T.k1,by omega,T.kd,(fun e=>by cases e),fun r' e=>?_⟩,(fun e=>by cases e),(fun E H st' e=>by cases e;rfl),.made hj hd' hm h2 h3 c⟩
  injection e with e
  subst e
  refine⟨rfl,?_⟩
  rw[hpo]
  exact fun _=>⟨j,by unfold Gh.H;rw[c.nd,hd'],A.on oX,VS oX fa,by rw[c.J];exact hj,by rw[c.ZL];exact hp,by rw[c.ma];exact hm,h3,fun e=>by rw[e,hh] at hp;cases hp⟩
 | none hF =>
  obtain⟨L1,o1⟩:=L.still
  exact⟨h,j,some ⟨7,0,σ+1⟩,X.put M' L1 (fun K' _=>o1 K') (fell (by decide) (T.on (o1 K)).my),(fun e=>by cases e),(fun E H st' e=>by cases e;rfl),.none hF⟩
 | full c hs =>
  obtain⟨L',o',BH⟩:=low c (Or.inl hs)
  exact⟨h',j,some ⟨6,0,σ+1⟩,X.put M' L' o' (fell (by decide) BH),(fun e=>by cases e),(fun E H st' e=>by cases e;rfl),.full c hs⟩
theorem Lc.begin (X:Lc t n k m q σ h jb hd F u ts) (hK4:K<4) (hn:jb K=.nil) {C':Cl} {b:Jb} (T:MC h hd σ u K C' none b) (hb:UT t n k m q σ h K b) (hg:b.g=0) (hd':∀ j α,b=.dp j α->h.ZL j=true/\u.dr j=some K\/h.ZL j=false/\h.ma j=K):Lc t n k m q σ h (upd jb K b) hd F u (upd ts K (some (C',none))):=by
 refine⟨X.m.put (YX.refl n K jb q h) (Nat.le_refl _) X.m.g hb (fun j α e K' α' e'=>?_) (fun j hj h2 hm=>?_) (fun j hj _=>hj) hK4 (by rw[hg,hn];rfl),X.l,fun K' C1 r1 e=>?_,fun K' e=>?_⟩
 . refine Classical.byContradiction fun hne=>?_
   cases hts:ts K' with
   | none=>rw[X.n K' hts] at e';cases e'
   | some cr =>
    obtain⟨C1,r1⟩:=cr
    have T1:=X.t K' C1 r1 hts
    cases r1 with
    | some r2=>rw[(T1.told r2 rfl).1] at e';cases e'
    | none =>
     obtain⟨k1,i1,-⟩:=T1.run rfl
     rw[e'] at i1
     have pj:u.dr j=some K'/\h.ZL j=true\/h.ZL j=false/\h.ma j=K':=by
      revert k1 i1
      cases C1.po with
      | drop p s c nx=>intro a i;obtain⟨β,e⟩:=i;cases e;exact Or.inl ⟨a.2.2.2,a.2.1.pu⟩
      | Zo c st=>intro a i;obtain⟨β,e⟩:=i;cases e;exact Or.inl ⟨a.2.2.1,a.1.pu⟩
      | Zk d v st=>intro a i;obtain⟨β,e⟩:=i;cases e;exact Or.inr ⟨a.2.1,a.2.2.1⟩
      | first=>intro a i;obtain⟨W,β,e,-⟩:=i;cases e
      | link=>intro a i;obtain⟨W,β,e,-⟩:=i;cases e
      | past=>intro a i;obtain⟨W,β,e,-⟩:=i;cases e
      | key=>intro a i;obtain⟨W,β,e,-⟩:=i;cases e
      | make=>intro a i;obtain⟨l,β,e⟩:=i;cases e
      | wkey=>intro a i;obtain⟨W,β,e,-⟩:=i;cases e
      | YL=>intro a i;obtain⟨W,β,e,-⟩:=i;cases e
      | put=>intro a i;obtain⟨W,β,e,-⟩:=i;cases e
      | mark=>intro a i;obtain⟨W,β,e,-⟩:=i;cases e
      | lead=>intro a i;obtain⟨W,β,e,-⟩:=i;cases e
      | over=>intro a i;exact i.elim
     rcases hd' j α e with⟨a1,a2⟩ | ⟨a1,a2⟩ <;> rcases pj with⟨b1,b2⟩ | ⟨b1,b2⟩
     . rw[a2] at b1;injection b1 with b1;exact hne b1.symm
     . rw[a1] at b1;cases b1
     . rw[a1] at b2;cases b2
     . exact hne (b2.symm.trans a2)
 . obtain⟨β,e,-⟩:=X.m.bz j hj h2
   rw[hm,hn] at e;cases e
 . by_cases e':K'=K
   . subst e'
     rw[upd_same] at e
     injection e with e
     injection e with e1 e2
     subst e1 e2
     rw[upd_same];exact T
   . rw[Z8 _ _ _ _ e'] at e ⊢
     exact X.t K' C1 r1 e
 . by_cases e':K'=K
   . subst e';rw[upd_same] at e;cases e
   . rw[Z8 _ _ _ _ e'] at e ⊢;exact X.n K' e
theorem Lc.end_ (X:Lc t n k m q σ h jb hd F u ts) (hn:jb K=.nil):Lc t n k m q σ h jb hd F u (upd ts K none):=by
 refine⟨X.m,X.l,fun K' C1 r1 e=>?_,fun K' e=>?_⟩
 . by_cases e':K'=K
   . subst e';rw[upd_same] at e;cases e
   . rw[Z8 _ _ _ _ e'] at e;exact X.t K' C1 r1 e
 . by_cases e':K'=K
   . rw[e'];exact hn
   . rw[Z8 _ _ _ _ e'] at e;exact X.n K' e
end
end
section
section
variable {t n k m σ K j:Nat} {q:Q} {h:Gh} {jb:Nat->Jb} {hd:Nat} {F:List Nat} {u:Hi} {ts:Nat->Option (Cl × Option Rs)} {cg p r:Int} {C:Cl} {R:Rs}
theorem Ahead.leads {key:Int} {b a s:Nat} {nx:Int} (A:Ahead h hd σ u key b a s nx) (L:Lw h hd σ F u):nx=0\/∃ c,nx=h.H c/\Node h hd c:=by
 rcases A.NY.2.2 with e | ⟨c,h1,h2,h3⟩
 . exact Or.inl e
 . exact Or.inr ⟨c,h2,L.pJ c h1,h1,h3⟩
theorem Xg.Oe (L:Lw h hd σ F u) (k0:0<=C.k) (a:Xg h hd σ u K C .first R):R.E=0/\Ahead h hd σ u C.k C.b hd R.St R.V:=by
 obtain⟨a1,a2,b1,b2,b3,-,b5⟩:=a
 refine⟨a1,?_⟩
 have hk:h.ky hd hd=-1:=by unfold Gh.ky;rw[if_pos rfl]
 have hs:R.V<4294967296:=by
  refine Classical.byContradiction fun hno=>?_
  have g:=(b5 rfl).2 (by omega)
  have:=L.l.hg
  have e:=g.1
  omega
 obtain⟨c1,-,c3⟩:=(b5 rfl).1 hs
 exact⟨a2,by rw[hk];omega,b1,b2,c1,c3 C.k k0 (by rw[hk];omega),b3⟩
theorem Xg.PI {a s c:Nat} (L:Lw h hd σ F u) (k0:0<=C.k) (x:Xg h hd σ u K C (.link a s c) R) (e:R.E=0):(4294967296<=R.V/\Kn h hd σ u K C (.past a s c (R.V - 4294967296)))\/(R.V<4294967296/\Kn h hd σ u K C (.key a s c R.V R.St)):=by
 obtain⟨A,N,b1,b2,b3,-,b5⟩:=x e
 by_cases hs:R.V<4294967296
 . obtain⟨c1,c2,c3⟩:=(b5 rfl).1 hs
   have hk0:0<=h.ky hd c:=by unfold Gh.ky;rw[if_neg N.nh];exact L.kp c N.pu N.nh
   exact Or.inr ⟨hs,A,N,c1,b1,b2,c2 hk0,fun hk=>c3 C.k k0 hk,b3⟩
 . exact Or.inl ⟨by omega,A,N,(b5 rfl).2 (by omega)⟩
theorem Kn.PD {a s c:Nat} {nx:Int} {s2:Nat} (x:Xg h hd σ u K C (.key a s c nx s2) R) (e:R.E=0):R.V=h.ky hd c:=by
 obtain⟨x1,x2⟩:=x e
 rw[x2];unfold Gh.ky;rw[if_neg x1.2.1.nh]
theorem Xg.Oc {a s c:Nat} {nx:Int} {s2:Nat} (x:Xg h hd σ u K C (.key a s c nx s2) R) (e:R.E=0) (hV:R.V<C.k):Ahead h hd σ u C.k C.b c s2 nx:=by
 have hk:=Kn.PD x e
 obtain⟨⟨A,N,c1,b1,b2,-,b4,b5⟩,-⟩:=x e
 exact⟨N.pu,by omega,b1,b2,c1,b4 (by omega),b5⟩
theorem Xg.Ob {a s c:Nat} {nx:Int} {s2:Nat} (x:Xg h hd σ u K C (.key a s c nx s2) R) (e:R.E=0) (hV:C.k<R.V):Ahead h hd σ u C.k C.b a s (h.H c)/\(h.H c=0\/∃ c',h.ZL c'=true/\h.H c=h.H c'/\C.k<h.ky hd c'):=by
 have hk:=Kn.PD x e
 obtain⟨⟨A,N,-⟩,-⟩:=x e
 exact⟨A,Or.inr ⟨c,N.pu,rfl,by omega⟩⟩
theorem Xg.Vq {a s c:Nat} {nx:Int} {s2:Nat} (x:Xg h hd σ u K C (.key a s c nx s2) R) (e:R.E=0) (hV:R.V=C.k):(C.kd=1->Right σ u C.kd C.k C.b 1 s2)/\(C.kd=2->Right σ u C.kd C.k C.b 0 s2)/\Kn h hd σ u K C (.mark a s c nx s2):=by
 have hk:=Kn.PD x e
 obtain⟨⟨A,N,c1,b1,b2,b3,b4,b5⟩,-⟩:=x e
 rw[<- hk,hV] at b3
 exact⟨fun e1=>⟨b1,b2,Or.inl ⟨rfl,Or.inl ⟨e1,b3,b5⟩⟩⟩,fun e2=>⟨b1,b2,Or.inr ⟨rfl,b5,Or.inl ⟨e2,b3⟩⟩⟩,A.pp,N,by omega,c1⟩
theorem Ahead.absent {a s:Nat} {nx:Int} (A:Ahead h hd σ u C.k C.b a s nx) (f:nx=0\/∃ c,h.ZL c=true/\nx=h.H c/\C.k<h.ky hd c) (h2:C.kd≠2):Right σ u C.kd C.k C.b 0 s :=
 ⟨A.bb,A.ss,Or.inr ⟨rfl,A.en,Or.inr ⟨h2,A.aw f⟩⟩⟩
theorem MC.next {r0:Option Rs} {b0:Jb} (T:MC h hd σ u K C r0 b0) {C':Cl} {b:Jb} (e1:C'.kd=C.kd) (e2:C'.k=C.k) (e3:C'.b=C.b) (Qy:∀ d,C'.my=some d->Own h hd K d/\h.cv d 0=C.k) (hkd:C'.po.kd≠0->C.kd=C'.po.kd) (kn:Kn h hd σ u K C' C'.po) (ji:Xc h hd C'.k C'.po b) (jk:LP h hd σ u C'.b b):MC h hd σ u K C' none b :=
 ⟨fun d hd'=>by rw[e2];exact Qy d hd',by rw[e2];exact T.k0,by rw[e2];exact T.k1,by rw[e3];exact T.bb,fun h0=>by rw[e1];exact hkd h0,fun _=>⟨kn,ji,jk⟩,fun r' e=>by cases e⟩
theorem Lc.Tt (X:Lc t n k m q σ h jb hd F u ts) (hG:Good t n k m cg p r) (hn:n<=65535) (hJ:h.J<=60000) (hj:h.ZL j=true) {W:Wt} (nu:W.nu=h.H j) (ix:W.ix=0\/W.ix=1) (vl:Val W.vl) (kd:W.kd=1\/(W.kd=3/\W.ix=1/\0<=W.ol/\W.ol<4294967296)):UT t n k m q σ h K (.ac W j .see):=by
 have uH:=X.l.pJ j hj
 have D:=X.m.g.FU hG hn hJ uH
 have N:=X.m.g.nk j uH
 refine⟨uH,⟨by rw[nu];exact PS D.xb N.g1 D.gb,ix,vl,?_,Or.inl hj,(N.pf hj).1⟩,trivial⟩
 rcases kd with e | e
 . exact Or.inl e
 . exact Or.inr (Or.inl e)
theorem Lc.FM (X:Lc t n k m q σ h jb hd F u ts) (hG:Good t n k m cg p r) (hn:n<=65535) (hJ:h.J<=60000) (hO:Own h hd K j) {W:Wt} (nu:W.nu=h.H j) (ix:W.ix=0\/W.ix=1) (vl:Val W.vl) (kd:W.kd=2):UT t n k m q σ h K (.ac W j .see):=by
 have D:=X.m.g.FU hG hn hJ hO.dJ
 have N:=X.m.g.nk j hO.dJ
 exact⟨hO.dJ,⟨by rw[nu];exact PS D.xb N.g1 D.gb,ix,vl,Or.inr (Or.inr ⟨kd,hO.pu⟩),Or.inr ⟨hO.ma,hO.st⟩,by rw[hO.st];exact Nat.le_refl _⟩,trivial⟩
theorem Lc.BG {c:Nat} (N:Node h hd c) {nx:Int} (g:Gone h c nx) (h3:h.st c=3):UT t n k m q σ h K (.dp c .see) :=
 ⟨N.dJ,Or.inl N.pu,fun _=>by have:=g.1;have:=g.2.1;show 4294967296<=h.lk c;omega,h3⟩
theorem Lc.zT (hO:Own h hd K j):UT t n k m q σ h K (.dp j .see) :=
 ⟨hO.dJ,Or.inr hO.ma,fun e=>(by rw[hO.pu] at e;cases e),hO.st⟩
theorem Lc.xy:UT t n k m q σ h K (.al j (.take .idle)):=⟨⟨trivial,rfl⟩,trivial⟩
end
end
end Go.Proofs.YtibmjlefcaonnaaGreat
