import Derived.Test.YtibmjlefcaonnaaGreatLstTold
import Derived.Test.YtibmjlefcaonnaaGreatMobAlone
namespace Go.Proofs.YtibmjlefcaonnaaGreat
open Go.RowKit
def O7 (h:Gh):Po->Prop
 | .link p _ c=>h.lk p=h.H c
 | .past p _ c _=>h.lk p=h.H c
 | .drop p _ _ nx=>h.lk p=nx
 | .key p _ c nx _=>h.lk p=h.H c/\h.lk c=nx
 | .make p _ nx=>h.lk p=nx
 | .wkey p _ nx _=>h.lk p=nx
 | .YL p _ nx _=>h.lk p=nx
 | .put p _ nx _=>h.lk p=nx
 | .mark p _ c nx _=>h.lk p=h.H c/\h.lk c=nx
 | .lead p c _ _=>h.lk p=h.H c
 | _=>True
def xN (h:Gh) (hd:Nat):Po->Rs->Prop
 | .first,r=>h.lk hd=r.V
 | .link p _ c,r=>r.E=0/\h.lk p=h.H c/\h.lk c=r.V
 | .past p _ _ nx,r=>r.E=0/\h.lk p=nx
 | .drop p _ _ nx,_=>h.lk p=nx
 | .key p _ c nx _,r=>r.E=0/\h.lk p=h.H c/\h.lk c=nx
 | .make p _ nx,r=>(r.E=0\/r.E=7)/\h.lk p=nx
 | .wkey p _ nx _,_=>h.lk p=nx
 | .YL p _ nx _,_=>h.lk p=nx
 | .put _ _ _ _,r=>r.E=0
 | .mark p _ c _ _,r=>r.E=0/\h.lk p=h.H c
 | .lead _ _ _ _,r=>r.E=0
 | _,_=>True
def SS:List Nat->Nat->Nat
 | [],_=>0
 | a :: L,p=>if a=p then L.length else SS L p
theorem Dx {A B:List Nat} {p:Nat} (h:p∉A):SS (A ++ p :: B) p=B.length:=by
 induction A with
 | nil=>show (if p=p then B.length else _)=_;rw[if_pos rfl]
 | cons a A ih =>
  show (if a=p then _ else SS (A ++ p :: B) p)=_
  rw[if_neg (fun e=>h (by rw[e];simp)),ih (fun e=>h (List.mem_cons_of_mem _ e))]
theorem SQ {A B:List Nat} {p:Nat} (h:(A ++ p :: B).Nodup):SS (A ++ p :: B) p=B.length :=
 Dx (fun e=>(List.nodup_append.1 h).2.2 p e p (by simp) rfl)
def WS (T:Nat) (F:List Nat):Po->Nat
 | .first=>60 * F.length+T+1
 | .link p _ _=>60 * SS F p+T - 9
 | .past p _ _ _=>60 * SS F p+T - 29
 | .drop p _ _ _=>60 * SS F p+T+1
 | .key p _ _ _ _=>60 * SS F p+T - 29
 | .make _ _ _=>70
 | .wkey _ _ _ _=>60
 | .YL _ _ _ _=>50
 | .put _ _ _ _=>40
 | .mark _ _ _ _ _=>60
 | .lead _ _ _ _=>50
 | .Zo _ _=>30
 | .Zk _ _ _=>1
 | .over _ _ _=>0
def MB (T:Nat) (F:List Nat):Po->Nat
 | .past p _ _ _=>60 * SS F p+T+19
 | po=>WS T F po
section
variable {t n k m σ K j T:Nat} {q q':Q} {h h':Gh} {jb:Nat->Jb} {hd:Nat} {F F':List Nat} {u u':Hi} {ts:Nat->Option (Cl × Option Rs)} {C C':Cl} {W:Wt} {r':Option Rs}
theorem O7.same {po:Po} (hc:h'.cv=h.cv) (hn:h'.nd=h.nd) (x:O7 h po):O7 h' po:=by
 have e1:h'.lk=h.lk:=by unfold Gh.lk;rw[hc]
 have e2:h'.H=h.H:=by funext i;unfold Gh.H;rw[hn]
 cases po <;> simp only[O7,e1,e2] at x ⊢ <;> exact x
theorem Lc.Dv (X:Lc t n k m q σ h jb hd F u ts) {α α':Ac} (hts:ts K=some (C,none)) (hjb:jb K=.ac W j α) (G:Gm h h' σ u u' C C' W j α α' r' F F') (hT:110<=T) (xl:O7 h C.po) (xj:Me k m q h (.ac W j α)) :
 (α'.ZR=false->O7 h' C.po/\Me k m q' h' (.ac W j α')/\Yz k m q' (.ac W j α')+1<=Yz k m q (.ac W j α)/\F'=F)/\(∀ E V st,α'=.over E V st->xN h' hd C.po ⟨E,V,st⟩/\MB T F' C.po<=WS T F C.po)/\1<=Yz k m q (.ac W j α):=by
 have Tk:=X.t K C none hts
 have O:=X.m.jk K
 rw[hjb] at Tk O
 obtain⟨XC,ZF,-⟩:=Tk.run rfl
 obtain⟨hj,WK,AK⟩:=O
 obtain⟨h1,ev,BM,est⟩:=G.e
 obtain⟨a1,a2,a3⟩:=Gl (k:=k) (m:=m) (q:=q) (q':=q') xj ev
 have e2:h'.H=h.H:=by funext i;unfold Gh.H;rw[G.nd]
 have exj:∀ {b:Ac},Me k m q' h1 (.ac W j b)->Me k m q' h' (.ac W j b):=fun {b} x=>by
  cases b <;> simp only[Me,BM,est] at x ⊢ <;> exact x
 refine⟨fun ho=>?_,fun E V st e=>?_,a2⟩
 . obtain⟨b1,b2⟩:=a1 ho
   have hcv:h1.cv=h.cv:=by cases ev <;> first | rfl | cases ho
   exact⟨O7.same (BM.trans hcv) G.nd xl,exj b1,b2,(G.on ho).2.2⟩
 . obtain⟨c1,c2⟩:=a3 E V st e
   have hh:h.ZL hd=true:=by obtain⟨C0,hC⟩:=X.l.l.hf;exact X.l.l.pb hd (by rw[hC];simp)
   have N:=X.m.g.nk j hj
   have V0:∀ c,c<2->Val (h.cv j c):=N.vl
   -- one that reads: nothing changed
   have rd:W.kd=1->E=0/\h'.cv=h.cv:=fun k1=>by
    refine⟨?_,BM.trans ?_⟩
    . rcases c2 with c2 | ⟨-,c2⟩
      . exact c2
      . rw[PM k1] at c2;cases c2
    . cases ev with
      | laid v hr h3=>rw[PL k1] at hr;cases hr
      | _=>rfl
   -- one that lays
   have ly:W.kd=3->W.ix=1->h.lk j=W.ol->E=0/\h'.lk=upd h.lk j W.vl:=fun k3 k1 k2=>by
    have ei:W.ix.toNat=1:=by rw[k1];rfl
    have hv:=V0 1 (by omega)
    have ho:W.other (h.cv j W.ix.toNat)=false:=by
     unfold Wt.other
     have k2':h.cv j 1=W.ol:=k2
     rw[ei,UI hv.1 hv.2,k2']
     simp
    have hE:E=0:=by
     rcases c2 with c2 | ⟨-,c2⟩
     . exact c2
     . rw[ho] at c2;cases c2
    refine⟨hE,?_⟩
    have:h1.lk=upd h.lk j W.vl:=by
     cases ev with
     | laid v hr h3=>rw[ei];exact Yk
     | told v c ld h4 =>
      have hr:=AK.2.2
      rw[TR k3 hr] at e
      have:=(Ac.over.inj e).1
      rw[hE] at this;cases this
     | gone _ h5 =>
      have:=(Ac.over.inj e).1
      rw[hE] at this;cases this
     | seen=>cases e
     | asked=>cases e
     | loaded=>cases e
     | open_=>cases e
     | RX=>cases e
    unfold Gh.lk at this ⊢
    rw[BM];exact this
   have xM:h'.cv=h.cv->h'.lk=h.lk:=fun e=>by unfold Gh.lk;rw[e]
   cases hpo:C.po with
   | first =>
    rw[hpo] at ZF
    obtain⟨W',β,e0,k1,k2⟩:=ZF
    cases e0
    obtain⟨hE,hcv⟩:=rd k1
    refine⟨?_,?_⟩
    . show h'.lk j=V
      rw[xM hcv,c1,k2];rfl
    . rcases G.f with f | ⟨_,_,_,f⟩ | ⟨_,_,_,f⟩ | ⟨_,_,_,f⟩
      . rw[f];exact Nat.le_refl _
      . rw[hpo] at f;cases f
      . rw[hpo] at f;cases f
      . rw[hpo] at f;cases f
   | link p s c' =>
    rw[hpo] at ZF xl
    obtain⟨W',β,e0,k1,k2⟩:=ZF
    cases e0
    obtain⟨hE,hcv⟩:=rd k1
    refine⟨⟨hE,?_,?_⟩,?_⟩
    . rw[xM hcv,e2];exact xl
    . show h'.lk j=V
      rw[xM hcv,c1,k2];rfl
    . rcases G.f with f | ⟨_,_,_,f⟩ | ⟨_,_,_,f⟩ | ⟨_,_,_,f⟩
      . rw[f];exact Nat.le_refl _
      . rw[hpo] at f;cases f
      . rw[hpo] at f;cases f
      . rw[hpo] at f;cases f
   | key p s c' nx s2 =>
    rw[hpo] at ZF xl
    obtain⟨W',β,e0,k1,k2⟩:=ZF
    cases e0
    obtain⟨hE,hcv⟩:=rd k1
    refine⟨⟨hE,?_,?_⟩,?_⟩
    . rw[xM hcv,e2];exact xl.1
    . rw[xM hcv];exact xl.2
    . rcases G.f with f | ⟨_,_,_,f⟩ | ⟨_,_,_,f⟩ | ⟨_,_,_,f⟩
      . rw[f];exact Nat.le_refl _
      . rw[hpo] at f;cases f
      . rw[hpo] at f;cases f
      . rw[hpo] at f;cases f
   | past p s c' nx =>
    have uY:=hpo
    rw[hpo] at ZF xl
    obtain⟨W',β,e0,k1,k2,k3,k4⟩:=ZF
    cases e0
    obtain⟨hE,hlk⟩:=ly k1 k2 (by rw[k3];exact xl)
    refine⟨⟨hE,?_⟩,?_⟩
    . rw[hlk,upd_same];exact k4
    . rw[hE] at e
      obtain⟨A,B,f1,f2⟩:=G.fp s c' nx V st uY e
      have nd:=X.l.l.nd
      rw[f1] at nd
      have b1:=SQ nd
      have qJ:(A ++ j :: B).Nodup:=by
       obtain⟨n1,n2,n3⟩:=List.nodup_append.1 nd
       obtain⟨n4,n5⟩:=List.nodup_cons.1 n2
       refine List.nodup_append.2 ⟨n1,List.nodup_cons.2 ⟨fun h=>n4 (List.mem_cons_of_mem _ h),(List.nodup_cons.1 n5).2⟩,fun a ha b hb=>n3 a ha b ?_⟩
       rcases List.mem_cons.1 hb with h | h
       . rw[h];simp
       . exact List.mem_cons_of_mem _ (List.mem_cons_of_mem _ h)
      have b2:=SQ qJ
      show 60 * SS F' j+T+19<=60 * SS F j+T - 29
      rw[f1,f2,b1,b2,List.length_cons]
      omega
   | put p s nx d =>
    rw[hpo] at ZF xl
    obtain⟨W',β,e0,k1,k2,k3,k4⟩:=ZF
    cases e0
    obtain⟨hE,hlk⟩:=ly k1 k2 (by rw[k3];exact xl)
    exact⟨hE,Nat.le_refl _⟩
   | mark p s c' nx s2 =>
    rw[hpo] at ZF xl XC
    obtain⟨W',β,e0,k1,k2,k3,k4⟩:=ZF
    cases e0
    obtain⟨hE,hlk⟩:=ly k1 k2 (by rw[k3];exact xl.2)
    refine⟨⟨hE,?_⟩,Nat.le_refl _⟩
    have hne:p≠j:=fun e'=>by
     have:=xl.1
     rw[e'] at this
     obtain⟨A,B,f,f0,f1⟩:=X.l.l.at XC.2.1.pu (by rw[this];exact(X.l.l.h0 j XC.2.1.pu).2)
     obtain⟨B',f2⟩:=f1 j XC.2.1.pu this
     have nd:=X.l.l.nd
     rw[f,f2] at nd
     exact(List.nodup_cons.1 (List.nodup_append.1 nd).2.1).1 (by simp)
    rw[hlk,Z8 _ _ _ _ hne,e2];exact xl.1
   | lead p c' nx st0 =>
    rw[hpo] at ZF xl
    obtain⟨W',β,e0,k1,k2,k3,k4⟩:=ZF
    cases e0
    obtain⟨hE,hlk⟩:=ly k1 k2 (by rw[k3];exact xl)
    exact⟨hE,Nat.le_refl _⟩
   | wkey p s nx d =>
    rw[hpo] at ZF xl XC
    obtain⟨W',β,e0,k1,k2,k3⟩:=ZF
    cases e0
    have hne:p≠j:=fun e'=>by have:=XC.1.pp;rw[e',XC.2.2.pu] at this;cases this
    refine⟨?_,Nat.le_refl _⟩
    show h'.cv p 1=nx
    have:h1.cv p=h.cv p:=by cases ev <;> first | rfl | exact XI hne
    rw[BM,this];exact xl
   | YL p s nx d =>
    rw[hpo] at ZF xl XC
    obtain⟨W',β,e0,k1,k2,k3⟩:=ZF
    cases e0
    have hne:p≠j:=fun e'=>by have:=XC.1.pp;rw[e',XC.2.2.1.pu] at this;cases this
    refine⟨?_,Nat.le_refl _⟩
    show h'.cv p 1=nx
    have:h1.cv p=h.cv p:=by cases ev <;> first | rfl | exact XI hne
    rw[BM,this];exact xl
   | drop=>rw[hpo] at ZF;obtain⟨β,e0⟩:=ZF;cases e0
   | make=>rw[hpo] at ZF;obtain⟨i,β,e0⟩:=ZF;cases e0
   | Zo=>rw[hpo] at ZF;obtain⟨β,e0⟩:=ZF;cases e0
   | Zk=>rw[hpo] at ZF;obtain⟨β,e0⟩:=ZF;cases e0
   | over=>rw[hpo] at ZF;exact ZF.elim
theorem VU.Gj {ZL:Nat->Bool} {ky lk H:Nat->Int} {p c:Nat} (S:VU ZL ky lk H hd F) (hp:ZL p=true) (hc:ZL c=true) (hl:lk p=H c):SS F p=SS F c+1:=by
 obtain⟨A,B,e,-,h2⟩:=S.at hp (by rw[hl];exact(S.h0 c hc).2)
 obtain⟨B',rfl⟩:=h2 c hc hl
 have nd:=S.nd
 rw[e] at nd ⊢
 rw[SQ nd]
 have e':A ++ p :: c :: B'=(A ++ [p]) ++ c :: B':=by simp
 rw[e'] at nd ⊢
 rw[SQ nd,List.length_cons]
theorem VU.Ah {ZL:Nat->Bool} {ky lk H:Nat->Int} (S:VU ZL ky lk H hd F):SS F hd+1=F.length:=by
 obtain⟨C0,e⟩:=S.hf
 rw[e]
 show (if hd=hd then C0.length else _)+1=_
 rw[if_pos rfl,List.length_cons]
theorem O7.dp {po:Po} {r:Rs} {β':Dp} (c:YP h h' j) (x:O7 h po) (ji:Xc h hd C.k po (.dp j β')):O7 h' po/\xN h' hd po r/\MB T F po=WS T F po:=by
 have x':=O7.same c.cv c.nd x
 refine⟨x',?_,?_⟩
 . cases po with
   | drop p s c' nx=>exact x'
   | Zo=>trivial
   | Zk=>trivial
   | first=>obtain⟨W,β,e,-⟩:=ji;cases e
   | link=>obtain⟨W,β,e,-⟩:=ji;cases e
   | past=>obtain⟨W,β,e,-⟩:=ji;cases e
   | key=>obtain⟨W,β,e,-⟩:=ji;cases e
   | make=>obtain⟨l,β,e⟩:=ji;cases e
   | wkey=>obtain⟨W,β,e,-⟩:=ji;cases e
   | YL=>obtain⟨W,β,e,-⟩:=ji;cases e
   | put=>obtain⟨W,β,e,-⟩:=ji;cases e
   | mark=>obtain⟨W,β,e,-⟩:=ji;cases e
   | lead=>obtain⟨W,β,e,-⟩:=ji;cases e
   | over=>exact ji.elim
 . cases po with
   | past=>obtain⟨W,β,e,-⟩:=ji;cases e
   | _=>rfl
theorem O7.al {p j':Nat} {nx:Int} {α α':Al} (hp:p<h.J) (x:h.lk p=nx) (ev:QN h K j σ q α j' α' h'):h'.lk p=nx:=by
 have key:h'.cv p=h.cv p->h'.lk p=nx:=fun e=>by unfold Gh.lk at x ⊢;rw[e];exact x
 cases ev with
 | on c _ _ _=>exact key (by rw[c.cv])
 | YF=>exact key (Zz _ hp).2.2.1
 | made _ _ _ _ _ c=>exact key (by rw[c.cv])
 | none _=>exact x
 | full c _=>exact key (by rw[c.cv])
structure Sem (S0:Int->Prop) (σ:Nat) (u:Hi) (C:Cl) (r:Option Rs):Prop where
 un:claim C r=none->∀ s,C.b<=s->s<=σ->∀ key,0<=key->(u.S s key↔S0 key)
 did:∀ st,claim C r=some st->(∀ s,C.b<=s->s<st->∀ key,0<=key->(u.S s key↔S0 key))/\(∀ s,st<=s->s<=σ->∀ key,0<=key->(u.S s key↔if key=C.k then C.kd=2 else S0 key))
variable {S0:Int->Prop} {r r1:Option Rs}
theorem Sem.first (hb:C.b=σ) (h0:claim C r=none) (hS:∀ key,0<=key->(u.S σ key↔S0 key)):Sem S0 σ u C r :=
 ⟨fun _ s h1 h2 key hk=>by rw[show s=σ by omega];exact hS key hk,fun st e=>by rw[h0] at e;cases e⟩
theorem Sem.tick (A:Sem S0 σ u C r) (hbs:C.b<=σ) (hcl:∀ st,claim C r=some st->st<=σ) (e1:C'.b=C.b) (e2:C'.k=C.k) (e3:C'.kd=C.kd) (hc:claim C' r1=claim C r) (hS:∀ s,s<=σ->u'.S s=u.S s) (hn:u'.S (σ+1)=u.S σ):Sem S0 (σ+1) u' C' r1:=by
 refine⟨fun h0 s h1 h2 key hk=>?_,fun st e=>⟨fun s h1 h2 key hk=>?_,fun s h1 h2 key hk=>?_⟩⟩
 . rw[hc] at h0
   rw[e1] at h1
   by_cases es:s=σ+1
   . rw[es,hn];exact A.un h0 σ hbs (Nat.le_refl _) key hk
   . rw[hS s (by omega)];exact A.un h0 s h1 (by omega) key hk
 . rw[hc] at e
   rw[e1] at h1
   have:=hcl st e
   rw[hS s (by omega)];exact(A.did st e).1 s h1 h2 key hk
 . rw[hc] at e
   have:=hcl st e
   rw[e2,e3]
   by_cases es:s=σ+1
   . rw[es,hn];exact(A.did st e).2 σ this (Nat.le_refl _) key hk
   . rw[hS s (by omega)];exact(A.did st e).2 s h1 (by omega) key hk
theorem Sem.event (A:Sem S0 σ u C r) (hbs:C.b<=σ) (h0:claim C r=none) (e1:C'.b=C.b) (e2:C'.k=C.k) (e3:C'.kd=C.kd) (hc:claim C' r1=some (σ+1)) (hS:∀ s,s<=σ->u'.S s=u.S s) (hn:∀ key,0<=key->(u'.S (σ+1) key↔if key=C.k then C.kd=2 else u.S σ key)):Sem S0 (σ+1) u' C' r1:=by
 refine⟨(fun e=>by rw[hc] at e;cases e),fun st e=>?_⟩
 rw[hc] at e
 injection e with e
 subst e
 refine⟨fun s h1 h2 key hk=>?_,fun s h1 h2 key hk=>?_⟩
 . rw[e1] at h1
   rw[hS s (by omega)];exact A.un h0 s h1 (by omega) key hk
 . rw[show s=σ+1 by omega,e2,e3,hn key hk]
   by_cases ek:key=C.k
   . rw[if_pos ek,if_pos ek]
   . rw[if_neg ek,if_neg ek];exact A.un h0 σ hbs (Nat.le_refl _) key hk
theorem Sem.next (A:Sem S0 σ u C r) (e1:C'.b=C.b) (e2:C'.k=C.k) (e3:C'.kd=C.kd) (hc:claim C' r1=claim C r):Sem S0 σ u C' r1 :=
 ⟨fun h0=>by rw[e1];exact A.un (by rw[<- hc];exact h0),fun st e=>by rw[e1,e2,e3];exact A.did st (by rw[<- hc];exact e)⟩
theorem Sem.end_ (A:Sem S0 σ u C r) (L:Lw h hd σ F u) {v:Int} {st:Nat} (k0:0<=C.k) (hbs:C.b<=σ) (R:Right σ u C.kd C.k C.b v st) (hc:claim C r=if v=1/\C.kd≠1 then some st else none) :
 (v=1/\(S0 C.k↔C.kd≠2)\/v=0/\¬ (S0 C.k↔C.kd≠2))/\∀ key,0<=key->(u.S σ key↔if C.kd≠1/\key=C.k then C.kd=2 else S0 key):=by
 obtain⟨h1,h2,h3⟩:=R
 by_cases hu:v=1/\C.kd≠1
 . rw[if_pos hu] at hc
   obtain⟨a1,a2⟩:=A.did st hc
   have hend:∀ key,0<=key->(u.S σ key↔if C.kd≠1/\key=C.k then C.kd=2 else S0 key):=fun key hk=>by
    rw[a2 σ h2 (Nat.le_refl _) key hk]
    by_cases ek:key=C.k
    . rw[if_pos ek,if_pos ⟨hu.2,ek⟩]
    . rw[if_neg ek,if_neg (fun h=>ek h.2)]
   refine⟨Or.inl ⟨hu.1,?_⟩,hend⟩
   obtain⟨s,hs⟩:∃ s,st=s+1:=⟨st - 1,by omega⟩
   have hS0:=a1 s (by omega) (by omega) C.k k0
   rcases h3 with⟨hv,h | h | h⟩ | ⟨hv,-⟩
   . exact absurd h.1 hu.2
   . have hev:=h.2
     rw[hs] at hev
     have:=(L.e1 s _ _ (by omega) hev).2.1
     refine⟨fun x=>?_,fun x=>absurd h.1 x⟩
     have y:=this.1 (hS0.2 x)
     cases y
   . have hev:=h.2
     rw[hs] at hev
     have:=(L.e1 s _ _ (by omega) hev).2.1
     exact⟨fun _=>by rw[h.1];decide,fun _=>hS0.1 (this.2 rfl)⟩
   . rw[hv] at hu;exact absurd hu.1 (by decide)
 . rw[if_neg hu] at hc
   have hun:=A.un hc
   refine⟨?_,fun key hk=>?_⟩
   . rcases h3 with⟨hv,h | h | h⟩ | ⟨hv,hev,h⟩
     . exact Or.inl ⟨hv,fun _=>by rw[h.1];decide,fun _=>(hun st (by omega) h2 C.k k0).1 h.2.1⟩
     . exact absurd ⟨hv,by rw[h.1];decide⟩ hu
     . exact absurd ⟨hv,by rw[h.1];decide⟩ hu
     . rcases h with⟨k2,h⟩ | ⟨k2,h⟩
       . exact Or.inr ⟨hv,fun hh=>hh.1 ((hun st (by omega) h2 C.k k0).1 h) k2⟩
       . exact Or.inr ⟨hv,fun hh=>h ((hun st (by omega) h2 C.k k0).2 (hh.2 k2))⟩
   . rw[hun σ hbs (Nat.le_refl _) key hk]
     by_cases ek:C.kd≠1/\key=C.k
     . rw[if_pos ek,ek.2]
       rcases h3 with⟨hv,h⟩ | ⟨hv,hev,h⟩
       . exact absurd ⟨hv,ek.1⟩ hu
       . rcases h with⟨k2,h⟩ | ⟨k2,h⟩
         . exact⟨fun _=>k2,fun _=>(hun st (by omega) h2 C.k k0).1 h⟩
         . exact⟨fun hh=>absurd ((hun st (by omega) h2 C.k k0).2 hh) h,fun hh=>absurd hh k2⟩
     . rw[if_neg ek]
end
end Go.Proofs.YtibmjlefcaonnaaGreat
