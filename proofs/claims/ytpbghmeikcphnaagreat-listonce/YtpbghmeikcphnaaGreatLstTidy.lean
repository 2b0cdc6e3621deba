import Derived.Test.YtpbghmeikcphnaaGreatLstOnc
namespace Go.Proofs.YtpbghmeikcphnaaGreat
open Go.RowKit
def L8 (h:Gh) (r:Option Rs) (b:Jb) (j:Nat):Po->Prop
 | .make _ _ _=>(∃ α,b=.al j α/\α.late=true)\/∃ R,r=some R/\R.E=0/\R.V=h.H j
 | .wkey _ _ _ d=>d=j
 | .past _ _ c _=>c=j
 | .drop _ _ c _=>c=j/\r=none
 | .mark _ _ c _ _=>c=j/\r≠none
 | .lead _ c _ _=>c=j
 | .Zz c _=>c=j/\r=none
 | .Zu d _ _=>d=j/\r=none
 | _=>False
def wW (r:Option Rs):Po->Prop
 | .make _ _ _=>True
 | .wkey _ _ _ _=>True
 | .mark _ _ _ _ _=>True
 | .lead _ _ _ _=>True
 | .Zz _ _=>True
 | .Zu _ _ _=>True
 | .over _ _ _=>True
 | .put _ _ _ _=>∃ R,r=some R/\R.E=0
 | _=>False
def DL (r:Option Rs) (d:Nat):Po->Prop
 | .Y3 _ _ _ e=>e=d
 | .put _ _ _ e=>e=d/\r=none
 | _=>False
structure RH (h:Gh) (C:Cl) (r:Option Rs) (b:Jb):Prop where
 ex:∀ j,j<h.J->2<=h.st j->h.st j<=4->(h.ZL j=true/\h.lk j<4294967296)\/C.my=some j\/L8 h r b j C.po
 m2:C.kd≠2->C.my=none
 nm:wW r C.po->C.my=none
 mp:∀ d,DL r d C.po->C.my=some d
def Tidy (h:Gh):Prop:=∀ j,j<h.J->2<=h.st j->h.st j<=4->h.ZL j=true/\h.lk j<4294967296
theorem iL {n K j:Nat} {q:Q} {h:Gh} {α:Dp} (O:DK n q h K j α):3<=h.st j:=by
 cases α with
 | see=>exact Nat.le_of_eq O.symm
 | ask v=>exact Nat.le_of_eq O.1.symm
 | mark v Z=>exact Nat.le_of_eq O.1.symm
 | VW η=>exact O.elim
 | fin Z i η =>
  cases η with
  | go v Z' c u=>have:h.st j=4:=O.1;omega
  | over w=>exact O.elim
 | count Z i=>have:h.st j=5:=O.1;omega
 | give γ=>have:h.st j=6:=O.1;omega
 | over E=>exact O.elim
theorem iK {t n k m K j x G:Nat} {cg:Int} {q q':Q} {h:Gh} {α:Dp} (O:DK n q h K j α) (ht:ZP t n k m cg true x G q α=(q',.over 0)):5<=h.st j:=by
 cases α with
 | see =>
  simp only[ZP,Prod.mk.injEq] at ht
  obtain⟨-,e⟩:=ht
  split at e
  . cases e
  . injection e with e;exact absurd e (by decide)
 | ask v =>
  simp only[ZP,TV,Prod.mk.injEq] at ht
  obtain⟨-,e⟩:=ht
  split at e
  . split at e <;> cases e
  . injection e with e;exact absurd e (by decide)
 | mark v Z =>
  simp only[ZP] at ht
  split at ht <;> cases (Prod.mk.inj ht).2
 | VW η=>exact O.elim
 | fin Z i η =>
  simp only[ZP] at ht
  generalize Zp cg x q η=z at ht
  obtain⟨q1,η1⟩:=z
  cases η1 <;> cases (Prod.mk.inj ht).2
 | count Z i=>have:h.st j=5:=O.1;omega
 | give γ=>have:h.st j=6:=O.1;omega
 | over E=>exact O.elim
theorem IQ {t n k m σ:Nat} {q q':Q} {α:Al} {E H:Int} {st:Nat} (hE:E≠0) (h:α.late=true) (ht:ZQ t n k m 0 2 true σ q α=(q',.over E H st)):False:=by
 cases α with
 | count=>simp only[ZQ,Prod.mk.injEq] at ht;cases ht.2
 | head=>simp only[ZQ,Prod.mk.injEq] at ht;cases ht.2
 | shw=>simp only[ZQ,Prod.mk.injEq] at ht;cases ht.2
 | ready=>simp only[ZQ,Prod.mk.injEq] at ht;exact hE (Al.over.inj ht.2).1.symm
 | _=>cases h
section
variable {t n k m σ K:Nat} {q q':Q} {h h':Gh} {jb:Nat->Jb} {hd:Nat} {F F':List Nat} {u u':Hi} {ts:Nat->Option (Cl × Option Rs)} {g p r:Int} {C C':Cl} {R:Rs} {rs rs':Option Rs} {b':Jb} {pb:Bool}
theorem RH.dp {j:Nat} {α α':Dp} {r':Option Rs} (A:RH h C none (.dp j α)) (ji:Yb h hd C.k C.po (.dp j α)) (O:DK n q h K j α) (ht:ZP t n k m g true (h.nd j).x (h.nd j).g q α=(q',α')) (c:YI h h' j) (h1:α'.ZT=false->r'=none) (h2:∀ E,α'=.over E->E=0/\r'=some ⟨0,0,σ+1⟩):RH h' C r' b':=by
 have lk:∀ i,h'.lk i=h.lk i:=fun i=>by unfold Gh.lk;rw[c.cv]
 have s3:=iL O
 have up:=c.up
 have ex:∀ i,i<h.J->2<=h.st i->h.st i<=4->(i=j->r'=none)->(h'.ZL i=true/\h'.lk i<4294967296)\/C.my=some i\/L8 h' r' b' i C.po:=fun i hi a b hr=>by
  rcases A.ex i hi a b with e | e | e
  . left;rw[c.ZL,lk];exact e
  . exact Or.inr (Or.inl e)
  . right;right
    revert ji e
    cases C.po with
    | drop=>intro ji e;obtain⟨_,z⟩:=ji;cases z;exact⟨e.1,hr e.1.symm⟩
    | Zz=>intro ji e;obtain⟨_,z⟩:=ji;cases z;exact⟨e.1,hr e.1.symm⟩
    | Zu=>intro ji e;obtain⟨_,z⟩:=ji;cases z;exact⟨e.1,hr e.1.symm⟩
    | make=>intro ji _;obtain⟨_,_,z⟩:=ji;cases z
    | over=>intro ji _;exact ji.elim
    | _=>intro ji _;obtain⟨_,_,z,_⟩:=ji;cases z
 refine⟨fun i hi a b=>?_,A.m2,fun e=>A.nm ?_,fun d e=>A.mp d ?_⟩
 . rw[c.J] at hi
   by_cases hij:i=j
   . subst hij
     cases ho:α'.ZT with
     | true =>
      cases α' with
      | over E =>
       obtain⟨rfl,-⟩:=h2 E rfl
       have:=iK O ht
       omega
      | _=>cases ho
     | false=>exact ex i hi (by omega) (by omega) (fun _=>h1 ho)
   . have e:=c.st i hij
     rw[e] at a b
     exact ex i hi a b (fun z=>absurd z hij)
 . revert ji e
   cases C.po with
   | put=>intro ji _;obtain⟨_,_,z,_⟩:=ji;cases z
   | _=>intro _ e;exact e
 . revert ji e
   cases C.po with
   | put=>intro ji _;obtain⟨_,_,z,_⟩:=ji;cases z
   | _=>intro _ e;exact e
theorem RH.al {j j':Nat} {α α':Al} {r':Option Rs} (A:RH h C none (.al j α)) (M:WC t n k m q σ h jb) (hjb:jb K=.al j α) (ji:Yb h hd C.k C.po (.al j α)) (ht:ZQ t n k m 0 2 true σ q α=(q',α')) (ev:QB h K j σ q α j' α' h') (h1:α'.ZT=false->r'=none) (h2:∀ E H st,α'=.over E H st->r'=some ⟨E,H,st⟩):RH h' C r' (if α'.ZT then .nil else .al j' α'):=by
 have po:∃ p s nx,C.po=.make p s nx:=by
  revert ji
  cases C.po with
  | make p s nx=>intro _;exact⟨_,_,_,rfl⟩
  | over=>intro ji;exact ji.elim
  | drop=>intro ji;obtain⟨_,z⟩:=ji;cases z
  | Zz=>intro ji;obtain⟨_,z⟩:=ji;cases z
  | Zu=>intro ji;obtain⟨_,z⟩:=ji;cases z
  | _=>intro ji;obtain⟨_,_,z,_⟩:=ji;cases z
 obtain⟨p,s,nx,po⟩:=po
 have m0:C.my=none:=A.nm (by rw[po];trivial)
 refine⟨fun i hi a b=>?_,A.m2,fun _=>m0,fun d e=>by rw[po] at e;exact e.elim⟩
 have old:i<h.J->2<=h.st i->h.st i<=4->(h.ZL i=true/\h.lk i<4294967296)\/(i=j/\α.late=true):=fun hi a b=>by
  rcases A.ex i hi a b with e | e | e
  . exact Or.inl e
  . rw[m0] at e;cases e
  . rw[po] at e
    rcases e with⟨_,z,z2⟩ | ⟨_,z,_⟩
    . cases z;exact Or.inr ⟨rfl,z2⟩
    . cases z
 rw[po]
 cases ev with
 | on c hs ho hl =>
  rw[c.J] at hi
  rw[ho]
  have lk:h'.lk i=h.lk i:=by unfold Gh.lk;rw[c.cv]
  rw[c.ZL,lk]
  by_cases hij:i=j
  . subst hij
    cases hla:α.late with
    | true =>
     rcases Ol hla ht with e | e
     . exact Or.inr (Or.inr (Or.inl ⟨_,rfl,e⟩))
     . rw[ho] at e;cases e
    | false =>
     rcases hs with e | ⟨z1,z2,z3⟩
     . rw[e] at a b
       exact(old hi a b).elim Or.inl (fun z=>by rw[hla] at z;cases z.2)
     . obtain⟨β,w1,w2⟩:=M.bz i z1 z2
       rw[z3,hjb] at w1
       cases w1
       rw[hla] at w2;cases w2
  . rw[c.st i hij] at a b
    exact(old hi a b).elim Or.inl (fun z=>absurd z.1 hij)
 | @Zi x g a0 i0 τ =>
  by_cases qN:i=h.J
  . exact Or.inr (Or.inr (Or.inl ⟨_,by rw[qN];rfl,rfl⟩))
  . have hi':i<h.J:=by have:i<h.J+1:=hi;omega
    have e1:(h.born ⟨x,g,a0,i0⟩ K).st i=h.st i:=Z9 _ _ _ _ qN
    have e2:(h.born ⟨x,g,a0,i0⟩ K).ZL i=h.ZL i:=Z9 _ _ _ _ qN
    have e3:(h.born ⟨x,g,a0,i0⟩ K).lk i=h.lk i:=congrFun (Z9 h.cv _ _ _ qN) 1
    rw[e1] at a b
    rw[e2,e3]
    exact(old hi' a b).elim Or.inl (fun z=>by cases z.2)
 | @made x g a0 i0 st h' hj hd' hm s2 s3 c =>
  rw[c.J] at hi
  have lk:h'.lk i=h.lk i:=by unfold Gh.lk;rw[c.cv]
  by_cases hij:i=j
  . refine Or.inr (Or.inr (Or.inr ⟨_,h2 _ _ _ rfl,rfl,?_⟩))
    show Yl x g=h'.H i
    unfold Gh.H
    rw[c.nd,hij,hd']
  . rw[c.st i hij] at a b
    rw[c.ZL,lk]
    exact(old hi a b).elim Or.inl (fun z=>absurd z.1 hij)
 | none hF=>exact(old hi a b).elim Or.inl (fun z=>(IQ (by decide) z.2 ht).elim)
 | full c hs =>
  rw[c.J] at hi
  have lk:h'.lk i=h.lk i:=by unfold Gh.lk;rw[c.cv]
  have st:h'.st i=h.st i:=by
   by_cases hij:i=j
   . rw[hij];exact hs
   . exact c.st i hij
  rw[st] at a b
  rw[c.ZL,lk]
  exact(old hi a b).elim Or.inl (fun z=>(IQ (by decide) z.2 ht).elim)
theorem RH.ac {W:Wt} {j:Nat} {α α':Ac} {r':Option Rs} (A:RH h C none (.ac W j α)) (G0:Ground t n k m q h) (hG:Good t n k m g p r) (hn:n<=65535) (hJ:h.J<=60000) (kn:Kn h hd σ u K C C.po) (ji:Yb h hd C.k C.po (.ac W j α)) (G:Oz h h' σ u u' C C' W j α α' r' F F'):RH h' C' r' (if α'.ZT then .nil else .ac W j α'):=by
 obtain⟨h1,ev,I5,est⟩:=G.e
 have st':h'.st=h.st:=by
  rw[est]
  cases ev with
  | laid v hr h3=>exact VL h3
  | _=>rfl
 have lk':∀ i,h'.lk i=h.lk i\/(i=j/\h'.lk j=W.vl/\W.ix=1/\α'.ZT=true/\W.kd≠1):=fun i=>by
  unfold Gh.lk
  rw[I5]
  cases ev with
  | laid v hr h3 =>
   by_cases hij:i=j
   . subst hij
     by_cases hx:W.ix.toNat=1
     . refine Or.inr ⟨rfl,?_,by omega,rfl,fun e=>by rw[Ui e] at hr;cases hr⟩
       show upd h.cv i _ i 1=W.vl
       rw[upd_same,hx,upd_same]
     . left
       show upd h.cv i _ i 1=h.cv i 1
       rw[upd_same,Z9 _ _ _ _ (fun e=>hx e.symm)]
   . left
     show upd h.cv j _ i 1=h.cv i 1
     rw[Z9 _ _ _ _ hij]
  | _=>exact Or.inl rfl
 have Hd:∀ d,d<h.J->h.H d<4294967296:=fun d hd'=>(MI G0 hG hn hJ hd').2
 cases ho:α'.ZT with
 | false =>
  obtain⟨rfl,rfl,-⟩:=G.on ho
  refine⟨fun i hi a b=>?_,A.m2,A.nm,A.mp⟩
  rw[st'] at a b
  rw[G.J] at hi
  have l:h'.lk i=h.lk i:=(lk' i).resolve_right (fun e=>by rw[ho] at e;cases e.2.2.2.1)
  rcases A.ex i hi a b with e | e | e
  . left;rw[l];exact⟨G.pb.1 i e.1,e.2⟩
  . exact Or.inr (Or.inl e)
  . right;right
    revert ji e
    cases C'.po with
    | make=>intro ji _;obtain⟨_,_,z⟩:=ji;cases z
    | _=>intro _ e;exact e
 | true =>
  cases α' with
  | over E V st =>
   obtain⟨rfl,eC⟩:=G.end_ E V st rfl
   have sm:=Uf C ⟨E,V,st⟩
   rw[<- eC] at sm
   have qM:C'.my=C.my\/(C'.my=none/\E=0/\∃ p s nx d,C.po=.put p s nx d):=by
    rw[eC]
    unfold Cl.after
    cases C.po with
    | put p s nx d =>
     by_cases e:E=0
     . right;refine⟨?_,e,_,_,_,_,rfl⟩;simp only[e,if_true]
     . left;simp only[e,if_false]
    | _=>exact Or.inl rfl
   refine⟨fun i hi a b=>?_,fun e=>?_,fun e=>?_,fun d e=>?_⟩
   . rw[st'] at a b
     rw[G.J] at hi
     rw[sm.1]
     rcases A.ex i hi a b with e | e | e
     . rcases lk' i with l | ⟨rfl,l,l1,-,l3⟩
       . left;rw[l];exact⟨G.pb.1 i e.1,e.2⟩
       . rw[l]
         have pu:=e.1
         have nG:=G.pb.1 i e.1
         revert ji kn
         cases C.po with
         | first=>intro kn ji;obtain⟨_,_,z,z1,_⟩:=ji;cases z;exact absurd z1 l3
         | link=>intro kn ji;obtain⟨_,_,z,z1,_⟩:=ji;cases z;exact absurd z1 l3
         | key=>intro kn ji;obtain⟨_,_,z,z1,_⟩:=ji;cases z;exact absurd z1 l3
         | past=>intro kn ji;obtain⟨_,_,z,_,_,_,z4⟩:=ji;cases z;left;rw[z4];exact⟨nG,kn.2.2.2.2⟩
         | lead=>intro kn ji;obtain⟨_,_,z,_,_,_,z4⟩:=ji;cases z;left;rw[z4];exact⟨nG,kn.2.2.1.2.2⟩
         | put=>intro kn ji;obtain⟨_,_,z,_,_,_,z4⟩:=ji;cases z;left;rw[z4];exact⟨nG,Hd _ kn.2.2.1.dJ⟩
         | mark=>intro kn ji;obtain⟨_,_,z,_⟩:=ji;cases z;exact Or.inr (Or.inr ⟨rfl,fun z=>by cases z⟩)
         | wkey=>intro kn ji;obtain⟨_,_,z,_,z2,_⟩:=ji;cases z;rw[z2] at l1;exact absurd l1 (by decide)
         | Y3=>intro kn ji;obtain⟨_,_,z,_⟩:=ji;cases z;rw[kn.2.2.1.pu] at pu;cases pu
         | make=>intro kn ji;obtain⟨_,_,z⟩:=ji;cases z
         | over=>intro kn ji;exact ji.elim
         | drop=>intro kn ji;obtain⟨_,z⟩:=ji;cases z
         | Zz=>intro kn ji;obtain⟨_,z⟩:=ji;cases z
         | Zu=>intro kn ji;obtain⟨_,z⟩:=ji;cases z
     . rcases qM with e0 | ⟨-,rfl,q1,s,nx,d,hpo⟩
       . exact Or.inr (Or.inl (e0.trans e))
       . have md:=A.mp d (by rw[hpo];exact⟨rfl,rfl⟩)
         rw[md] at e
         cases e
         rw[hpo] at kn ji
         obtain⟨_,_,z,_⟩:=ji
         cases z
         obtain⟨kA,-,kO,-,kl⟩:=kn
         left
         refine⟨G.pb.2 _ _ _ _ _ _ hpo rfl,?_⟩
         rw[(lk' _).resolve_right (fun z=>by have z1:=kO.pu;rw[z.1,kA.pp] at z1;cases z1)]
         show h.cv _ 1<_
         rw[kl];exact kA.Uz.2.1
     . right;right
       revert ji e
       cases C.po with
       | make=>intro ji _;obtain⟨_,_,z⟩:=ji;cases z
       | drop=>intro ji _;obtain⟨_,z⟩:=ji;cases z
       | Zz=>intro ji _;obtain⟨_,z⟩:=ji;cases z
       | Zu=>intro ji _;obtain⟨_,z⟩:=ji;cases z
       | mark=>intro _ e;exact absurd rfl e.2
       | _=>intro _ e;exact e
   . have:=A.m2 (by rw[<- sm.2.2.1];exact e)
     rcases qM with z | z
     . rw[z];exact this
     . exact z.1
   . rcases qM with z | z
     . rw[sm.1] at e
       rw[z]
       revert e z
       cases hpo:C.po with
       | put p s nx d =>
        intro e z
        obtain⟨_,z1,z2⟩:=e
        cases z1
        rw[<- z,eC]
        unfold Cl.after
        rw[hpo]
        simp only[show E=0 from z2,if_true]
       | _=>intro e _;exact A.nm (by rw[hpo];exact e)
     . exact z.1
   . rw[sm.1] at e
     rcases qM with z | ⟨-,-,p,s,nx,d',hpo⟩
     . rw[z]
       refine A.mp d ?_
       revert e
       cases C.po with
       | put=>intro e;cases e.2
       | _=>intro e;exact e
     . rw[hpo] at e;cases e.2
  | _=>cases ho
theorem RH.go (A:RH h C rs (jb K)) (X:Lc t n k m q σ h jb hd F u ts) (hG:Good t n k m g p r) (hn:n<=65535) (hJ:h.J<=60000) (hts:ts K=some (C,rs)) (G:UE t n k m g h σ q u F K C rs (jb K) h' q' u' F' C' rs' b' pb):RH h' C' rs' b':=by
 have T:=X.t K C rs hts
 cases G with
 | pin=>exact A
 | ac hb hr ht G =>
  subst hr
  obtain⟨kn,ji,-⟩:=T.run rfl
  rw[hb] at ji A
  exact A.ac X.m.g hG hn hJ kn ji G
 | dp hb hr ht c h1 h2 =>
  subst hr
  obtain⟨-,ji,-⟩:=T.run rfl
  have O:=X.m.jk K
  rw[hb] at ji A O
  exact A.dp ji O.2.2.2 ht c h1 h2
 | al hb hr ht ev h1 h2 =>
  subst hr
  obtain⟨-,ji,-⟩:=T.run rfl
  rw[hb] at ji A
  exact A.al X.m hb ji ht ev h1 h2
theorem RH.tidy {E v:Int} {st:Nat} (A:RH h C none b') (e:C.po=.over E v st):Tidy h:=fun j hj a b=>by
 rcases A.ex j hj a b with z | z | z
 . exact z
 . rw[A.nm (by rw[e];trivial)] at z;cases z
 . rw[e] at z;exact z.elim
theorem Tidy.start {kd key:Int} (T:Tidy h):RH h ⟨kd,key,σ,none,.first⟩ none b':=⟨fun j hj a b=>Or.inl (T j hj a b),fun _=>rfl,fun _=>rfl,fun _ e=>e.elim⟩
theorem Tidy.un (T:Tidy h) (X:Lc t n k m q σ h jb hd F u ts) {c:Nat} (hc:c∈F):h.lk c<4294967296 :=
 (T c (X.l.pJ c (X.l.l.pb c hc)) (by rw[X.l.f3 c hc];decide) (by rw[X.l.f3 c hc];decide)).2
theorem RH.next (A:RH h C (some R) .nil) (G:Ground t n k m q h) (hG:Good t n k m g p r) (hn:n<=65535) (hJ:h.J<=60000) (hk:C.po.kd≠0->C.kd=C.po.kd) (x:C9 h hd C.po R) (N:FT h hd C R C' C.po):RH h C' none b':=by
 have Yd:(∀ i,i<h.J->C.my=some i\/L8 h (some R) .nil i C.po->C'.my=some i\/L8 h none b' i C'.po)->(C'.kd≠2->C'.my=none)->(wW none C'.po->C'.my=none)->(∀ d,DL none d C'.po->C'.my=some d)->RH h C' none b':=fun h1 h2 h3 h4=>⟨fun i hi a b=>(A.ex i hi a b).imp id (h1 i hi),h2,h3,h4⟩
 have plain:(∀ i,C.my=some i\/L8 h (some R) .nil i C.po->C'.my=some i\/L8 h none b' i C'.po)->(C'.kd≠2->C'.my=none)->(wW none C'.po->C'.my=none)->(∀ d,DL none d C'.po->C'.my=some d)->RH h C' none b':=fun h1 h2 h3 h4=>⟨fun i hi a b=>(A.ex i hi a b).imp id (h1 i),h2,h3,h4⟩
 have miss:∀ {q s nx},PW h hd C q s nx C'->(∀ i,¬ L8 h (some R) .nil i C.po)->RH h C' none b':=fun {q s nx} M hE=>by
  rcases M.2 with⟨k2,rfl⟩ | ⟨k2,m0,rfl⟩ | ⟨d,k2,md,rfl⟩
  . exact plain (fun i e=>e.imp id (fun z=>absurd z (hE i))) A.m2 (fun _=>A.m2 k2) (fun d e=>e.elim)
  . exact plain (fun i e=>e.elim Or.inl (fun z=>absurd z (hE i))) A.m2 (fun _=>m0) (fun d e=>e.elim)
  . exact plain (fun i e=>e.elim Or.inl (fun z=>absurd z (hE i))) A.m2 (fun e=>e.elim) (fun d' e=>by rw[<- show d=d' from e];exact md)
 have reach:∀ {q s nx},Reach h hd C q s nx C'->(∀ i,¬ L8 h (some R) .nil i C.po)->RH h C' none b':=fun {q s nx} M hE=>by
  rcases M with⟨-,M⟩ | ⟨c,-,-,rfl⟩
  . exact miss M hE
  . exact plain (fun i e=>e.elim Or.inl (fun z=>absurd z (hE i))) A.m2 (fun e=>e.elim) (fun d e=>e.elim)
 have nm:=A.nm
 have mp:=A.mp
 revert nm mp miss reach plain Yd N x hk
 cases C.po with
 | first=>intro hk x N Yd plain miss reach nm mp;exact reach N.2 (fun i e=>e)
 | link p s c =>
  intro hk x N Yd plain miss reach nm mp
  rcases N with⟨e,-⟩ | ⟨-,-,rfl⟩ | ⟨-,-,rfl⟩
  . exact absurd x.1 e
  . exact plain (fun i e=>e.elim Or.inl (fun z=>z.elim)) A.m2 (fun e=>e.elim) (fun d e=>e.elim)
  . exact plain (fun i e=>e.elim Or.inl (fun z=>z.elim)) A.m2 (fun e=>e.elim) (fun d e=>e.elim)
 | past p s c nx =>
  intro hk x N Yd plain miss reach nm mp
  rcases N with⟨e,-⟩ | ⟨-,rfl⟩
  . exact absurd x.1 e
  . exact plain (fun i e=>e.imp id (fun z=>⟨z,rfl⟩)) A.m2 (fun e=>e.elim) (fun d e=>e.elim)
 | drop p s c nx=>intro hk x N Yd plain miss reach nm mp;exact reach N (fun i e=>by cases e.2)
 | key p s c nx s2 =>
  intro hk x N Yd plain miss reach nm mp
  rcases N with⟨e,-⟩ | ⟨-,-,N⟩ | ⟨-,-,N⟩ | ⟨-,-,⟨k3,rfl⟩ | ⟨k1,rfl⟩ | ⟨k2,m0,rfl⟩ | ⟨d,k2,md,rfl⟩⟩
  . exact absurd x.1 e
  . exact reach N (fun i e=>e)
  . exact miss N (fun i e=>e)
  . exact plain (fun i e=>e.elim Or.inl (fun z=>z.elim)) A.m2 (fun _=>A.m2 (by rw[k3];decide)) (fun d e=>e.elim)
  . exact plain (fun i e=>e.elim Or.inl (fun z=>z.elim)) A.m2 (fun _=>A.m2 (by rw[k1];decide)) (fun d e=>e.elim)
  . exact plain (fun i e=>e.elim Or.inl (fun z=>z.elim)) A.m2 (fun _=>m0) (fun d e=>e.elim)
  . exact plain (fun i e=>e.elim (fun z=>Or.inr ⟨by rw[md] at z;injection z,rfl⟩) (fun z=>z.elim)) (fun _=>rfl) (fun _=>rfl) (fun d e=>e.elim)
 | make p s nx =>
  intro hk x N Yd plain miss reach nm mp
  have m0:=nm trivial
  rcases N with⟨e,rfl⟩ | ⟨e,d,hd',hV,rfl⟩
  . refine plain (fun i z=>z.elim Or.inl (fun z=>?_)) A.m2 (fun _=>m0) (fun d e=>e.elim)
    rcases z with⟨_,z,_⟩ | ⟨_,z,z2,_⟩
    . cases z
    . cases z;exact absurd z2 e
  . refine Yd (fun i hi z=>z.elim Or.inl (fun z=>?_)) A.m2 (fun _=>m0) (fun d e=>e.elim)
    rcases z with⟨_,z,_⟩ | ⟨_,z,_,z2⟩
    . cases z
    . cases z
      exact Or.inr (Et G hG hn hJ hd' hi (hV.symm.trans z2))
 | wkey p s nx d =>
  intro hk x N Yd plain miss reach nm mp
  have m0:=nm trivial
  have N:C'=C.mine (some d) (.Y3 p s nx d):=N
  subst N
  exact plain (fun i z=>Or.inl (z.elim (fun z=>by rw[m0] at z;cases z) (fun z=>congrArg some z))) (fun e=>absurd (hk (by simp[Po.kd])) e) (fun e=>e.elim) (fun d' e=>congrArg some e)
 | Y3 p s nx d =>
  intro hk x N Yd plain miss reach nm mp
  have N:C'=C.at_ (.put p s nx d):=N
  subst N
  exact plain (fun i z=>z.elim Or.inl (fun z=>z.elim)) A.m2 (fun e=>by obtain⟨_,z,_⟩:=e;cases z) (fun d' e=>mp d' e.1)
 | put p s nx d =>
  intro hk x N Yd plain miss reach nm mp
  rcases N with⟨e,-⟩ | ⟨e,rfl⟩
  . exact absurd x e
  . have m0:=nm ⟨R,rfl,e⟩
    exact plain (fun i z=>z.elim (fun z=>by rw[m0] at z;cases z) (fun z=>z.elim)) (fun _=>rfl) (fun _=>rfl) (fun d e=>e.elim)
 | mark p s c nx s2 =>
  intro hk x N Yd plain miss reach nm mp
  rcases N with⟨e,-⟩ | ⟨e,rfl⟩
  . exact absurd x.1 e
  . exact plain (fun i z=>z.imp id (fun z=>z.1)) A.m2 (fun _=>nm trivial) (fun d e=>e.elim)
 | lead p c nx st =>
  intro hk x N Yd plain miss reach nm mp
  rcases N with⟨e,-⟩ | ⟨e,rfl⟩
  . exact absurd x e
  . exact plain (fun i z=>z.imp id (fun z=>⟨z,rfl⟩)) A.m2 (fun _=>nm trivial) (fun d e=>e.elim)
 | Zz c st =>
  intro hk x N Yd plain miss reach nm mp
  have N:C'=C.at_ (.over 0 1 st):=N
  subst N
  exact plain (fun i z=>z.elim Or.inl (fun z=>by cases z.2)) A.m2 (fun _=>nm trivial) (fun d e=>e.elim)
 | Zu d v st =>
  intro hk x N Yd plain miss reach nm mp
  have N:C'=C.at_ (.over 0 v st):=N
  subst N
  exact plain (fun i z=>z.elim Or.inl (fun z=>by cases z.2)) A.m2 (fun _=>nm trivial) (fun d e=>e.elim)
 | over=>intro hk x N;exact N.elim
end
end Go.Proofs.YtpbghmeikcphnaaGreat
