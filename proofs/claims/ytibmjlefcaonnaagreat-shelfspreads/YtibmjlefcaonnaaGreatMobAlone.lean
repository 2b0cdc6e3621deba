import Derived.Test.YtibmjlefcaonnaaGreatMobRoom
namespace Go.Proofs.YtibmjlefcaonnaaGreat
open Go.RowKit
def uo (k m:Nat) (y:Y):Pl->Prop
 | .see=>True
 | .ask i=>y.op 0=i+1
 | .grow i c=>y.ck i=c
 | .look sn i=>y.op 0=sn/\∃ l,i<=l/\l<k/\(y.ck l).st=0
 | .take sn i c=>y.op 0=sn/\y.ck i=c
 | .opn sn i c=>y.op 0=sn/\i<k/\y.ck i=c/\c.st=1/\c.cl=0/\c.us=0/\3<=m
 | _=>False
def roomy (m:Nat) (y:Y):Bool :=
 match y.op 0 with
 | 0=>false
 | i+1=>decide ((y.ck i).st=1/\(y.ck i).cl=0/\(y.ck i).us+3<=m)
def Hu (k m:Nat) (y:Y):Pl->Nat
 | .see=>if roomy m y then 3 else 2 * k+12
 | .ask _=>if roomy m y then 2 else 2 * k+11
 | .grow _ _=>1
 | .look _ i=>2 * (k - i)+8
 | .take _ i _=>2 * (k - i)+7
 | .opn _ _ _=>4
 | _=>0
theorem KZ {k m:Nat} {bs:Nat->Nat} {y y':Y} {τ τ':Pl} (hm:3<=m) (hf:∃ l,l<k/\(y.ck l).st=0) (x:uo k m y τ) (g:∃ σ,τ.good k m 0 σ) (e:turn k m 0 bs y τ=(y',τ')):(∃ a i,τ'=.YF a i)\/(uo k m y' τ'/\τ'.over=false/\Hu k m y' τ'+1<=Hu k m y τ):=by
 obtain⟨σ,g⟩:=g
 have wZ:∀ sn,y.op 0=sn->∃ l,Wp k sn 0=.look sn 0/\0<=l/\l<k/\(y.ck l).st=0:=fun sn _=>by
  obtain⟨l,h1,h2⟩:=hf
  refine⟨l,?_,Nat.zero_le _,h1,h2⟩
  unfold Wp;rw[if_pos (by omega)]
 cases τ with
 | see =>
  cases hop:y.op 0 with
  | zero =>
   simp only[turn,hop] at e
   obtain⟨rfl,rfl⟩:=Prod.mk.inj e
   obtain⟨l,e1,e2,e3,e4⟩:=wZ 0 hop
   have hr:roomy m y=false:=by unfold roomy;rw[hop]
   rw[e1]
   refine Or.inr ⟨⟨hop,l,e2,e3,e4⟩,rfl,?_⟩
   simp[Hu,hr]
  | succ i =>
   simp only[turn,hop] at e
   obtain⟨rfl,rfl⟩:=Prod.mk.inj e
   refine Or.inr ⟨hop,rfl,?_⟩
   simp only[Hu]
   split <;> omega
 | ask i =>
  have hop:y.op 0=i+1:=x
  simp only[turn] at e
  by_cases hc:(y.ck i).st=1/\(y.ck i).cl=0/\(y.ck i).us+room 0<=m
  . rw[if_pos hc] at e
    obtain⟨rfl,rfl⟩:=Prod.mk.inj e
    have hr:roomy m y=true:=by unfold roomy;rw[hop];exact decide_eq_true hc
    refine Or.inr ⟨rfl,rfl,?_⟩
    simp[Hu,hr]
  . rw[if_neg hc] at e
    obtain⟨rfl,rfl⟩:=Prod.mk.inj e
    have hr:roomy m y=false:=by unfold roomy;rw[hop];exact decide_eq_false hc
    obtain⟨l,e1,e2,e3,e4⟩:=wZ (i+1) hop
    rw[e1]
    refine Or.inr ⟨⟨hop,l,e2,e3,e4⟩,rfl,?_⟩
    simp[Hu,hr]
 | grow i c =>
  have hc:y.ck i=c:=x
  simp only[turn] at e
  rw[if_pos hc] at e
  obtain⟨rfl,rfl⟩:=Prod.mk.inj e
  exact Or.inl ⟨_,_,rfl⟩
 | look sn i =>
  obtain⟨hop,l,h1,h2,h3⟩:=x
  simp only[turn] at e
  by_cases hc:(y.ck i).st=0
  . rw[if_pos hc] at e
    obtain⟨rfl,rfl⟩:=Prod.mk.inj e
    refine Or.inr ⟨⟨hop,rfl⟩,rfl,?_⟩
    simp only[Hu];omega
  . rw[if_neg hc] at e
    obtain⟨rfl,rfl⟩:=Prod.mk.inj e
    have hil:i<l:=by
     rcases Nat.lt_or_ge i l with h | h
     . exact h
     . rw[show i=l by omega] at hc;exact absurd h3 hc
    have ea:Wp k sn (i+1)=.look sn (i+1):=by unfold Wp;rw[if_pos (by omega)]
    rw[ea]
    refine Or.inr ⟨⟨hop,l,hil,h2,h3⟩,rfl,?_⟩
    simp only[Hu];omega
 | take sn i c =>
  obtain⟨hop,hc⟩:=x
  obtain⟨hik,-,-,c0⟩:=g
  simp only[turn] at e
  rw[if_pos hc] at e
  obtain⟨rfl,rfl⟩:=Prod.mk.inj e
  refine Or.inr ⟨⟨hop,hik,upd_same _ _ _,rfl,rfl,rfl,hm⟩,rfl,?_⟩
  simp only[Hu];omega
 | opn sn i c =>
  obtain⟨hop,hik,hc,c1,c2,c3,c4⟩:=x
  simp only[turn] at e
  rw[if_pos hop] at e
  obtain⟨rfl,rfl⟩:=Prod.mk.inj e
  have hr:roomy m ⟨y.ck,upd y.op 0 (i+1)⟩=true:=by
   unfold roomy
   have e1:(upd y.op 0 (i+1)) 0=i+1:=upd_same _ _ _
   show (match upd y.op 0 (i+1) 0 with | 0=>false | i+1=>decide ((y.ck i).st=1/\(y.ck i).cl=0/\(y.ck i).us+3<=m))=true
   rw[e1]
   exact decide_eq_true ⟨by show (y.ck i).st=1;rw[hc];exact c1,by show (y.ck i).cl=0;rw[hc];exact c2,by show (y.ck i).us+3<=m;rw[hc,c3];omega⟩
  refine Or.inr ⟨trivial,rfl,?_⟩
  simp[Hu,hr]
 | Wh sn i c=>exact x.elim
 | YF a i=>exact x.elim
 | none=>exact x.elim
def Me (k m:Nat) (q:Q) (h:Gh):Jb->Prop
 | .nil=>True
 | .al _ (.take (.XL _ c))=>c=q.c
 | .al _ (.take (.XP _ c _))=>c=q.c
 | .al _ (.place _ _ τ)=>uo k m q.y τ
 | .al _ (.give _ _ _)=>False
 | .al _ _=>True
 | .dp _ (.give (.XL _ c))=>c=q.c
 | .dp _ (.give (.XP _ c))=>c=q.c
 | .dp _ _=>True
 | .ac W j (.check _ c _)=>h.st j<=4/\SB c=h.cv j W.ix.toNat
 | .ac W j (.lay _ c)=>h.st j<=4/\c=h.cv j W.ix.toNat
 | .ac _ j _=>h.st j<=4
def Yz (k m:Nat) (q:Q):Jb->Nat
 | .nil=>0
 | .al _ (.take .idle)=>2 * k+28
 | .al _ (.take (.XL _ _))=>2 * k+27
 | .al _ (.take _)=>2 * k+26
 | .al _ (.ask _)=>2 * k+25
 | .al _ (.place _ _ τ)=>Hu k m q.y τ+6
 | .al _ (.count _ _ _ _)=>5
 | .al _ (.head _ _ _ _)=>4
 | .al _ (.shw _ _ _ _)=>3
 | .al _ (.ready _ _ _ _ _)=>2
 | .al _ _=>1
 | .dp _ .see=>14
 | .dp _ (.ask _)=>13
 | .dp _ (.mark _ _)=>12
 | .dp _ (.fin _ _ (.go _ _ c none))=>11 - 2 * c
 | .dp _ (.fin _ _ (.go _ _ c (some _)))=>10 - 2 * c
 | .dp _ (.count _ _)=>5
 | .dp _ (.give .idle)=>4
 | .dp _ (.give (.XL _ _))=>3
 | .dp _ (.give (.XP _ _))=>2
 | .dp _ _=>1
 | .ac _ _ .see=>5
 | .ac _ _ (.ask _ _)=>4
 | .ac _ _ (.load _ _)=>3
 | .ac _ _ (.check _ _ _)=>2
 | .ac _ _ (.lay _ _)=>2
 | .ac _ _ _=>1
section
variable {t n k m σ K j:Nat} {q q':Q} {h h':Gh} {jb:Nat->Jb} {W:Wt}
theorem Gl {α α':Ac} (x:Me k m q h (.ac W j α)) (ev:Td h W j σ α α' h'):(α'.ZR=false->Me k m q' h' (.ac W j α')/\Yz k m q' (.ac W j α')+1<=Yz k m q (.ac W j α))/\1<=Yz k m q (.ac W j α)/\(∀ E V st,α'=.over E V st->V=h.cv j W.ix.toNat/\(E=0\/E=8/\W.other (h.cv j W.ix.toNat)=true)):=by
 have h4:h.st j<=4:=by cases α <;> first | exact x | exact x.1
 refine⟨fun ho=>?_,?_,fun E V st e=>?_⟩
 . cases ev with
   | seen v=>exact⟨h4,by simp[Yz]⟩
   | asked v a=>exact⟨h4,by simp[Yz]⟩
   | loaded v c hc hr=>exact⟨⟨h4,hc⟩,by simp[Yz]⟩
   | open_ v hr h3=>exact⟨⟨h4,rfl⟩,by simp[Yz]⟩
   | told=>cases ho
   | gone=>cases ho
   | laid=>cases ho
   | RX v c hc=>exact absurd x.2 hc
 . cases ev <;> simp[Yz]
   cases α <;> simp
 . cases ev with
   | told v c ld _ =>
    injection e with e1 e2 e3
    have hv:=x.2
    refine⟨by rw[<- e2];exact hv,?_⟩
    have ho:W.other c=W.other (h.cv j W.ix.toNat):=by
     have hcc:SB (h.cv j W.ix.toNat)=SB c:=by rw[<- hv];unfold SB;omega
     unfold Wt.other;rw[hcc]
    cases hw:W.other c with
    | true=>rw[hw] at e1;exact Or.inr ⟨by rw[<- e1];rfl,by rw[<- ho];exact hw⟩
    | false=>rw[hw] at e1;exact Or.inl (by rw[<- e1];rfl)
   | gone _ h5=>omega
   | laid v hr h3 =>
    injection e with e1 e2 e3
    exact⟨e2.symm,Or.inl e1.symm⟩
   | seen=>cases e
   | asked=>cases e
   | loaded=>cases e
   | open_=>cases e
   | RX=>cases e
variable {cg p r:Int}
theorem WA.FD (M:WA t n k m q σ h jb) (hG:Good t n k m cg p r) (hn:n<=65535) (hJ:h.J<=60000) (hcg:(h.J:Int)+2<=cg) {α α':Dp} (hjb:jb K=.dp j α) (x:Me k m q h (.dp j α)) (ht:ZK t n k m cg true (h.nd j).x (h.nd j).g q α=(q',α')) (h':Gh):(α'.ZR=false->Me k m q' h' (.dp j α')/\Yz k m q' (.dp j α')+1<=Yz k m q (.dp j α))/\1<=Yz k m q (.dp j α):=by
 have O:=M.jk K
 rw[hjb] at O
 obtain⟨hj,hpm,Fp,A⟩:=O
 have N:=M.g.nk j hj
 have D:=M.g.FU hG hn hJ hj
 have hsz:3<=h.st j->U5 (q.dw (h.nd j).a)=2/\Xy (q.dw (h.nd j).a)=true:=fun h3=>by
  rw[N.hw h3];exact U0 (Z:=2) (x:=(h.nd j).x) (G:=(h.nd j).g) (own:=true) (by decide) D.xb D.gb
 have htl:tot h.dead h.J<=h.J:=UR (fun i _=>by unfold Gh.dead;split <;> omega)
 have hgb:=M.g.gb _ N.xn
 cases α with
 | Ve η=>exact A.elim
 | over E=>exact A.elim
 | see =>
  have h3:h.st j=3:=A
  have hw:=N.w3 (by omega) (by omega)
  have e:ZK t n k m cg true (h.nd j).x (h.nd j).g q .see=(q,.ask (h.nd j).w):=by
   simp only[ZK,hw,D.st,D.gn,decide_true]
   rfl
  rw[e] at ht
  obtain⟨rfl,rfl⟩:=Prod.mk.inj ht
  exact⟨fun _=>⟨trivial,by simp[Yz]⟩,by simp[Yz]⟩
 | ask v =>
  obtain⟨h3,hv⟩:=A
  have hs:=hsz (by omega)
  have e:ZK t n k m cg true (h.nd j).x (h.nd j).g q (.ask v)=(q,.mark v 2):=by
   simp only[ZK,Sl,hv,D.ad,hs.1,hs.2,D.st,beq_self_eq_true,if_true]
   rfl
  rw[e] at ht
  obtain⟨rfl,rfl⟩:=Prod.mk.inj ht
  exact⟨fun _=>⟨trivial,by simp[Yz]⟩,by simp[Yz]⟩
 | mark v Z =>
  obtain⟨h3,hv,rfl⟩:=A
  have hw:=N.w3 (by omega) (by omega)
  simp only[ZK,hw,hv,if_true] at ht
  obtain⟨rfl,rfl⟩:=Prod.mk.inj ht
  exact⟨fun _=>⟨trivial,by simp[Yz]⟩,by simp[Yz]⟩
 | fin Z i η =>
  cases η with
  | over wn=>exact A.elim
  | go v Z' c u =>
   obtain⟨h4,rfl,rfl,rfl,hv,hc,hu⟩:=A
   have hw4:=N.w4 h4
   have hz2:=N.z2
   have had:ZB v=(h.nd j).a:=by rw[hv];exact D.ma
   have um:Y3 v=1:=by rw[hv];exact D.mv
   by_cases c2:2<=c
   . have e0:Zl cg (h.nd j).x q (.go v 2 c u)=({ q with sw:=upd q.sw (h.nd j).x (Yq cg v) },.over true):=by
      cases u <;> simp only[Zl,c2,if_true,VX,hw4,hv]
     simp only[ZK,e0,V5] at ht
     obtain⟨rfl,rfl⟩:=Prod.mk.inj ht
     have c2':c=2:=by omega
     subst c2'
     cases u with
     | none=>exact⟨fun _=>⟨trivial,by simp[Yz]⟩,by simp[Yz]⟩
     | some u'=>exact⟨fun _=>⟨trivial,by simp[Yz]⟩,by simp[Yz]⟩
   . have hpl:q.dw ((h.nd j).a+1+c)=h.cv j c:=by
      have:=N.cw c (by omega)
      unfold Gh.cw at this
      rw[if_neg (by omega)] at this
      exact this
     have V:=N.vl c (by omega)
     cases u with
     | none =>
      have e0:Zl cg (h.nd j).x q (.go v 2 c none)=(q,.go v 2 c (some (h.cv j c))):=by
       simp only[Zl,if_neg c2,had,hpl,UD V.2,Bool.false_eq_true,if_false]
      simp only[ZK,e0,V5] at ht
      obtain⟨rfl,rfl⟩:=Prod.mk.inj ht
      exact⟨fun _=>⟨trivial,by simp only[Yz];omega⟩,by simp only[Yz];omega⟩
     | some u' =>
      obtain⟨-,hu2⟩:=hu u' rfl
      have e0:Zl cg (h.nd j).x q (.go v 2 c (some u'))=({ q with dw:=upd q.dw ((h.nd j).a+1+c) (froze (h.cv j c) 1) },.go v 2 (c+1) none):=by
       simp only[Zl,if_neg c2,had,hpl,hu2,if_true,um]
      simp only[ZK,e0,V5] at ht
      obtain⟨rfl,rfl⟩:=Prod.mk.inj ht
      exact⟨fun _=>⟨trivial,by simp only[Yz];omega⟩,by simp only[Yz];omega⟩
 | count Z i =>
  obtain⟨h5,rfl,rfl,hso⟩:=A
  have hr:room (ZI ((2:Nat):Int)).toNat=3:=by decide
  have hg5:=N.g5 (by omega)
  have e:ZK t n k m cg true (h.nd j).x (h.nd j).g q (.count 2 (h.nd j).i)=({ q with lv:=upd q.lv (h.nd j).i (q.lv (h.nd j).i - 3) },.give .idle):=by
   simp only[ZK,hr]
   rw[if_neg (by omega)]
  rw[e] at ht
  obtain⟨rfl,rfl⟩:=Prod.mk.inj ht
  exact⟨fun _=>⟨trivial,by simp[Yz]⟩,by simp[Yz]⟩
 | give γ =>
  obtain⟨h6,hso,gg,yZ⟩:=A
  cases γ with
  | over=>cases yZ
  | idle =>
   simp only[ZK,Zd,Xv] at ht
   obtain⟨rfl,rfl⟩:=Prod.mk.inj ht
   exact⟨fun _=>⟨rfl,by simp[Yz]⟩,by simp[Yz]⟩
  | XL y c0 =>
   simp only[ZK,Zd,Xv] at ht
   obtain⟨rfl,rfl⟩:=Prod.mk.inj ht
   exact⟨fun _=>⟨x,by simp[Yz]⟩,by simp[Yz]⟩
  | XP y c0 =>
   have hx:c0=q.c:=x
   simp only[ZK,Zd] at ht
   rw[if_pos hx] at ht
   simp only[Xv] at ht
   obtain⟨rfl,rfl⟩:=Prod.mk.inj ht
   exact⟨(fun e=>by cases e),by simp[Yz]⟩
theorem WA.NR (M:WA t n k m q σ h jb) (hm:3<=m) (hf:∃ l,l<k/\(q.y.ck l).st=0) {α α':Al} (hjb:jb K=.al j α) (ho:α.ZR=false) (x:Me k m q h (.al j α)) (ht:ZN t n k m 0 2 true σ q α=(q',α')) (h':Gh) (j':Nat):(α'.ZR=false->Me k m q' h' (.al j' α')/\Yz k m q' (.al j' α')+1<=Yz k m q (.al j α))/\1<=Yz k m q (.al j α)/\(∀ E H st,α'=.over E H st->E=0\/(E=7/\q.F=[])):=by
 have O:=M.jk K
 rw[hjb] at O
 obtain⟨gd,A⟩:=O
 cases α with
 | over E H st=>cases ho
 | take τ =>
  cases τ with
  | YF x=>cases gd.2
  | none=>cases gd.2
  | idle =>
   cases hF:q.F with
   | nil =>
    simp only[ZN,Zn,hF,Y7,Prod.mk.injEq] at ht
    obtain⟨rfl,rfl⟩:=ht
    exact⟨(fun e=>by cases e),by simp[Yz],fun E H st e=>Or.inr ⟨by injection e with e;exact e.symm,rfl⟩⟩
   | cons y F =>
    simp only[ZN,Zn,hF,Y7,Prod.mk.injEq] at ht
    obtain⟨rfl,rfl⟩:=ht
    exact⟨fun _=>⟨rfl,by simp[Yz]⟩,by simp[Yz],(fun E H st e=>by cases e)⟩
  | XL y c0 =>
   simp only[ZN,Zn,Y7,Prod.mk.injEq] at ht
   obtain⟨rfl,rfl⟩:=ht
   exact⟨fun _=>⟨x,by simp[Yz]⟩,by simp[Yz],(fun E H st e=>by cases e)⟩
  | XP y c0 q0 =>
   have hx:c0=q.c:=x
   simp only[ZN,Zn] at ht
   rw[if_pos hx] at ht
   simp only[Y7,Prod.mk.injEq] at ht
   obtain⟨rfl,rfl⟩:=ht
   exact⟨fun _=>⟨trivial,by simp[Yz]⟩,by simp[Yz],(fun E H st e=>by cases e)⟩
 | ask y =>
  simp only[ZN,Prod.mk.injEq] at ht
  obtain⟨rfl,rfl⟩:=ht
  refine⟨fun _=>⟨trivial,?_⟩,by simp[Yz],(fun E H st e=>by cases e)⟩
  simp only[Yz,Hu]
  split <;> omega
 | place y g τ =>
  obtain⟨y',τ',e⟩:∃ y' τ',turn k m 0 (base t n k m) q.y τ=(y',τ'):=⟨_,_,rfl⟩
  simp only[ZN,e] at ht
  rcases KZ hm hf x ⟨σ,gd.2.2.2.1⟩ e with⟨a,i,rfl⟩ | ⟨x',hov,hr⟩
  . have ht':({ q with y:=y' },Al.count y g a i)=(q',α'):=ht
    obtain⟨rfl,rfl⟩:=Prod.mk.inj ht'
    exact⟨fun _=>⟨trivial,by simp only[Yz];omega⟩,by simp only[Yz];omega,(fun E H st e=>by cases e)⟩
  . rw[Xt hov] at ht
    obtain⟨rfl,rfl⟩:=Prod.mk.inj ht
    exact⟨fun _=>⟨x',by simp only[Yz];omega⟩,by simp only[Yz];omega,(fun E H st e=>by cases e)⟩
 | count y g a i =>
  simp only[ZN,Prod.mk.injEq] at ht
  obtain⟨rfl,rfl⟩:=ht
  exact⟨fun _=>⟨trivial,by simp[Yz]⟩,by simp[Yz],(fun E H st e=>by cases e)⟩
 | head y g a i =>
  simp only[ZN,Prod.mk.injEq] at ht
  obtain⟨rfl,rfl⟩:=ht
  exact⟨fun _=>⟨trivial,by simp[Yz]⟩,by simp[Yz],(fun E H st e=>by cases e)⟩
 | shw y g a i =>
  simp only[ZN,Prod.mk.injEq] at ht
  obtain⟨rfl,rfl⟩:=ht
  exact⟨fun _=>⟨trivial,by simp[Yz]⟩,by simp[Yz],(fun E H st e=>by cases e)⟩
 | ready y g a i st =>
  simp only[ZN,Prod.mk.injEq] at ht
  obtain⟨rfl,rfl⟩:=ht
  exact⟨(fun e=>by cases e),by simp[Yz],fun E H st e=>Or.inl (Al.over.inj e).1.symm⟩
 | give y g γ=>exact x.elim
end
end Go.Proofs.YtibmjlefcaonnaaGreat
