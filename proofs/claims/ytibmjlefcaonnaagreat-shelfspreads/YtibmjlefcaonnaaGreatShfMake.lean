import Derived.Test.YtibmjlefcaonnaaGreatAccLoad
import Derived.Test.YtibmjlefcaonnaaGreatLstSolo
import Derived.Test.YtibmjlefcaonnaaGreatAllocSolo
import Derived.Test.YtibmjlefcaonnaaGreatLstAlone
import Derived.Test.YtibmjlefcaonnaaGreatShfView
namespace Go.Proofs.YtibmjlefcaonnaaGreat
open Go.RowKit
section
end
section
inductive V6 (t n k m:Nat) (cg:Int):Nat->Nat->Q->Dw->Nat->Q->Dw->Prop where
 | one {σ:Nat} {q:Q} {δ:Dw} {q':Q} {δ':Dw} (hn:δ.need t n k m cg q) (ht:Zb t n k m cg σ q δ=(q',δ')) (h:δ'.ZR=true):V6 t n k m cg 1 σ q δ (σ+δ.cost) q' δ'
 | more {N σ:Nat} {q:Q} {δ:Dw} {q1:Q} {δ1:Dw} {σ':Nat} {q':Q} {δ':Dw} (hn:δ.need t n k m cg q) (ht:Zb t n k m cg σ q δ=(q1,δ1)) (h:δ1.ZR=false) (g:V6 t n k m cg N (σ+δ.cost) q1 δ1 σ' q' δ'):V6 t n k m cg (N+1) σ q δ σ' q' δ'
section
variable {t n k m:Nat} {cg:Int} {who N σ σ':Nat} {q q':Q} {δ δ':Dw} {pn:Nat->Int}
theorem Cb {q1:Q} {δ1:Dw} (ht:Zb t n k m cg σ q δ=(q1,δ1)):Xx t n k m cg who ⟨σ,q,pn,3,δ⟩=⟨σ+δ.cost,q1,pn,if δ1.ZR then 4 else 3,δ1⟩:=by
 show As.mk _ _ _ _ _=_
 rw[ht]
theorem V6.as (g:V6 t n k m cg N σ q δ σ' q' δ'):XO t n k m cg who (N+1) ⟨σ,q,pn,3,δ⟩ ⟨σ'+1,q',upd pn who 0,5,δ'⟩:=by
 induction g with
 | one hn ht h =>
  refine .more (by show 3≠5;omega) (fun _=>hn) (Cb ht) (by rw[h];show 4≠5;omega) ?_
  rw[h,if_pos rfl]
  exact .one (by show 4≠5;omega) (fun e=>absurd e (by show ¬ 4=3;omega)) rfl rfl
 | more hn ht h g ih =>
  refine .more (by show 3≠5;omega) (fun _=>hn) (Cb ht) (by rw[h];show 3≠5;omega) ?_
  rw[h,if_neg (by decide)]
  exact ih
theorem V6.all (g:V6 t n k m cg N (σ+3) q δ σ' q' δ'):XO t n k m cg who (N+4) ⟨σ,q,pn,0,δ⟩ ⟨σ'+1,q',upd pn who 0,5,δ'⟩:=by
 have r:=g.as (who:=who) (pn:=upd pn who 1)
 rw[Vz] at r
 exact .more (by show 0≠5;omega) (fun e=>absurd e (by show ¬ 0=3;omega)) rfl (by show 1≠5;omega) (.more (by show 1≠5;omega) (fun e=>absurd e (by show ¬ 1=3;omega)) rfl (by show 2≠5;omega) (.more (by show 2≠5;omega) (fun e=>absurd e (by show ¬ 2=3;omega)) rfl (by show 3≠5;omega) r))
theorem Ky {κ:Nat} {z:Int} {own:Bool} {α α':Al} (g:Sm t n k m κ z own N σ q α q' α'):V6 t n k m cg N σ q (.al z own κ α) (σ+N) q' (.al z own κ α'):=by
 induction g with
 | one ho ht h=>exact .one trivial (by simp only[Zb,ht]) h
 | more ho ht h g ih =>
  rename_i N σ q α q1 α1 q' α'
  rw[show σ+(N+1)=σ+1+N by omega]
  exact .more (q1:=q1) (δ1:=.al z own κ α1) trivial (by simp only[Zb,ht]) h ih
end
end
section
end
section
end
section
section
variable {t n k m σ:Nat} {F:List Nat}
theorem PE (N:Nat):tot (fun _=>0) N=0:=by
 induction N with
 | zero=>rfl
 | succ k ih=>show tot (fun _=>0) k+0=0;rw[ih]
variable {w0 w w':World} {L:Loc} {bE:Nat} {s:Mm}
def uN:Xa:=⟨1,2,0,0,0,0,true⟩
end
end
section
structure UN (t n k m N:Nat) (q:Q):Prop where
 le:N<=n
 F:q.F=YI n (n - N)
 rG:∀ x,x<N->q.sw x=Zw 1 (base t n k m 0+3 * x:Nat) (1:Nat) 0
 sW:∀ x,N<=x->q.sw x=8388608
 vU:∀ x,x<N->q.dw (base t n k m 0+3 * x)=Zj 2 (2:Nat) (x:Nat) (1:Nat) true
 wS:∀ d,(∀ x,x<N->d≠base t n k m 0+3 * x)->q.dw d=0
 rF:q.lv 0=3 * N
 rE:∀ i,i≠0->q.lv i=0
 op:q.y.op 0=if N=0 then 0 else 1
 sV:∀ κ,κ≠0->q.y.op κ=0
 c0:N=0->q.y.ck 0=⟨0,0,0,0⟩
 c1:N≠0->∃ sp,q.y.ck 0=⟨1,0,3 * N,sp⟩
 co:∀ i,i≠0->q.y.ck i=⟨0,0,0,0⟩
section
variable {t n k m σ N:Nat} {q:Q}
theorem hds0:UN t n k m 0 (Q.new n) :=
 ⟨Nat.zero_le _,rfl,fun x hx=>absurd hx (by omega),fun _ _=>rfl,fun x hx=>absurd hx (by omega),fun _ _=>rfl,rfl,fun _ _=>rfl,rfl,fun _ _=>rfl,fun _=>rfl,fun h=>absurd rfl h,fun _ _=>rfl⟩
theorem UN.alone (A:UN t n k m N q) (hk:1<=k):Alone k q.y (if N=0 then 0 else 1):=by
 by_cases e:N=0
 . have:=A.c0 e
   rw[if_pos e]
   refine⟨Nat.zero_le _,fun i h=>absurd h (by omega),fun i _ _=>?_,fun κ hκ i hi=>?_⟩
   . by_cases ei:i=0
     . rw[ei,this];exact⟨rfl,rfl⟩
     . rw[A.co i ei];exact⟨rfl,rfl⟩
   . by_cases eκ:κ=0
     . subst eκ;rw[A.op,if_pos e] at hi;omega
     . rw[A.sV κ eκ] at hi;omega
 . obtain⟨sp,hc⟩:=A.c1 e
   rw[if_neg e]
   refine⟨hk,fun i h=>?_,fun i h1 _=>?_,fun κ hκ i hi=>?_⟩
   . rw[show i=0 by omega,hc]
   . rw[A.co i (by omega)];exact⟨rfl,rfl⟩
   . by_cases eκ:κ=0
     . subst eκ
       rw[A.op,if_neg e] at hi
       rw[show i=0 by omega,hc];exact⟨Nat.zero_lt_one,rfl⟩
     . rw[A.sV κ eκ] at hi;omega
theorem Nz (h:N<n):YI n (n - N)=N :: YI n (n - (N+1)):=by
 obtain⟨l,e⟩:∃ l,n - N=l+1:=⟨n - N - 1,by omega⟩
 rw[e,show n - (N+1)=l by omega]
 show (n - (l+1)) :: _=_
 rw[show n - (l+1)=N by omega]
theorem UN.step (A:UN t n k m N q) (hk:1<=k) (hk1:k<=64) (hm:17<=m) (hN:N<n) (h3:3 * (N+1)<=m):∃ M y',M<=k+8/\Goes k m 0 (base t n k m) M q.y .see y' (.YF (base t n k m 0+3 * N) 0)/\Zy (q.sw N)=1/\UN t n k m (N+1) (q.made N (YI n (n - (N+1))) y' (base t n k m 0+3 * N) 0 0 2 true):=by
 obtain⟨M,y',nx',τ',hM,go,g⟩:=KU (κ:=0) (bs:=base t n k m) (A.alone hk) (by decide) hm hk hk1
 have g1:Zy (q.sw N)=1:=by rw[A.sW N (Nat.le_refl _)];exact vC
 have r0:room 0=3:=rfl
 have key:(∃ sp,y'=⟨upd q.y.ck 0 ⟨1,0,3 * (N+1),sp⟩,upd q.y.op 0 1⟩)/\τ'=.YF (base t n k m 0+3 * N) 0:=by
  by_cases e:N=0
  . have hop:=A.op
    rw[if_pos e] at hop
    cases g with
    | fit i h hu=>rw[hop] at h;omega
    | none hno h=>rw[if_pos e] at h;omega
    | new hno h =>
     rw[if_pos e,e]
     exact⟨⟨_,rfl⟩,rfl⟩
  . obtain⟨sp,hc⟩:=A.c1 e
    have hop:=A.op
    rw[if_neg e] at hop
    have vT:(q.y.ck 0).us=3 * N:=by rw[hc]
    cases g with
    | fit i h hu =>
     have ei:i=0:=by rw[hop] at h;omega
     subst ei
     refine⟨⟨(q.y.ck 0).sp,?_⟩,by rw[vT]⟩
     rw[vT,r0,show 3 * N+3=3 * (N+1) by omega,show upd q.y.op 0 1=q.y.op by rw[<- hop];exact YD _ _]
    | none hno h=>exact absurd (hno 0 hop) (by rw[vT,r0];omega)
    | new hno h=>exact absurd (hno 0 hop) (by rw[vT,r0];omega)
 obtain⟨⟨sp,ey⟩,rfl⟩:=key
 refine⟨M,y',hM,go,g1,?_⟩
 have rD:∀ x,(q.made N (YI n (n - (N+1))) y' (base t n k m 0+3 * N) 0 0 2 true).sw x=if x=N then Zw 1 (base t n k m 0+3 * N:Nat) (1:Nat) 0 else q.sw x:=fun x=>by
  show upd q.sw N (Zw 1 _ (Zy (q.sw N)) 0) x=_
  rw[g1]
  by_cases e:x=N
  . rw[e,upd_same,if_pos rfl]
  . rw[Z8 _ _ _ _ e,if_neg e]
 have rC:∀ d,(q.made N (YI n (n - (N+1))) y' (base t n k m 0+3 * N) 0 0 2 true).dw d=if d=base t n k m 0+3 * N then Zj 2 (2:Nat) (N:Nat) (1:Nat) true else q.dw d:=fun d=>by
  show upd (upd q.dw _ _) _ (Zj 2 2 N (Zy (q.sw N)) true) d=_
  rw[g1]
  by_cases e:d=base t n k m 0+3 * N
  . rw[e,upd_same,if_pos rfl];rfl
  . rw[Z8 _ _ _ _ e,Z8 _ _ _ _ e,if_neg e]
 have oG:∀ i,i≠0->y'.ck i=q.y.ck i:=fun i hi=>by rw[ey];exact Z8 _ _ _ _ hi
 refine⟨hN,rfl,fun x hx=>?_,fun x hx=>?_,fun x hx=>?_,fun d hd=>?_,?_,fun i hi=>?_,?_,fun κ hκ=>?_,fun e=>absurd e (by omega),fun _=>⟨sp,?_⟩,fun i hi=>(oG i hi).trans (A.co i hi)⟩
 . rw[rD]
   by_cases e:x=N
   . rw[if_pos e,e]
   . rw[if_neg e];exact A.rG x (by omega)
 . rw[rD,if_neg (by omega)];exact A.sW x (by omega)
 . rw[rC]
   by_cases e:x=N
   . rw[if_pos (by rw[e]),e]
   . rw[if_neg (by omega)];exact A.vU x (by omega)
 . rw[rC,if_neg (hd N (by omega))];exact A.wS d (fun x hx=>hd x (by omega))
 . show upd q.lv 0 (q.lv 0+room 0) 0=_
   rw[upd_same,A.rF,r0];omega
 . show upd q.lv 0 _ i=0
   rw[Z8 _ _ _ _ hi];exact A.rE i hi
 . show y'.op 0=_
   rw[ey,if_neg (by omega)]
   show upd q.y.op 0 1 0=1
   exact upd_same _ _ _
 . show y'.op κ=0
   rw[ey]
   exact(Z8 _ _ _ _ hκ).trans (A.sV κ hκ)
 . show y'.ck 0=_
   rw[ey]
   show upd q.y.ck 0 _ 0=_
   exact upd_same _ _ _
def yX (t n k m N:Nat):Gh:=⟨N,fun j=>⟨j,1,base t n k m 0+3 * j,0⟩,fun _=>3,fun _ _=>0,fun _=>0,fun _=>false,fun _=>3,fun x=>if x<N then .node x else .free,fun _=>1,fun d=>if base t n k m 0<=d/\d<base t n k m 0+3 * N then (d - base t n k m 0) / 3+1 else 0⟩
theorem Vf {c:Nat}:∀ J,tot (fun _=>c) J=c * J:=fun J=>by
 induction J with
 | zero=>rfl
 | succ J ih=>show tot (fun _=>c) J+c=c * (J+1);rw[ih,Nat.mul_succ]
theorem UN.oD (A:UN t n k m N q) (hk:1<=k) (h3:3 * N<=m) (hN:N≠0):WA t n k m q σ (yX t n k m N) (fun _=>.nil):=by
 obtain⟨sp,hc⟩:=A.c1 hN
 have le:=A.le
 refine⟨⟨fun j hj=>?_,fun j j' _ _ e _=>e,fun x hx=>?_,fun x hx hno=>?_,fun x j hx e=>?_,fun x hx=>⟨Nat.le_refl _,Nat.le_add_right _ _⟩,fun i hi=>?_,fun i hi=>?_,fun d hd=>?_,fun d hd=>?_,fun d=>?_⟩,fun _=>trivial,(fun K K' j α α' e=>by cases e),(fun j hj h2=>by have h2':(3:Nat)<=2:=h2;omega),?_⟩
 . have hj':j<N:=hj
   refine⟨hk,⟨3 * j,rfl,?_⟩,?_,fun d h1 h2=>?_,by show j<n;omega,Nat.le_refl _,fun _=>rfl,fun h=>?_,fun h=>?_,fun _ _=>if_pos hj',fun _ _=>A.rG j hj',fun h=>?_,fun _=>A.vU j hj',fun c hc'=>?_,fun _=>rfl,fun h=>?_,Nat.zero_le _,fun c _=>⟨Int.le_refl _,show (0:Int)<=1099511627775 by decide⟩,(fun e=>by cases e),?_⟩
   . show 3 * j+3<=(q.y.ck 0).us;rw[hc];show 3 * j+3<=3 * N;omega
   . show (q.y.ck 0).st=1;rw[hc]
   . have h1':base t n k m 0+3 * j<=d:=h1
     have h2':d<base t n k m 0+3 * j+3:=h2
     show (if base t n k m 0<=d/\d<base t n k m 0+3 * N then (d - base t n k m 0) / 3+1 else 0)=j+1
     rw[if_pos (by omega)];omega
   . have h':5<=3:=h;omega
   . have h':3<=1:=h;omega
   . have h':3=4:=h;omega
   . show q.dw (base t n k m 0+3 * j+1+c)=0
     exact A.wS _ (fun x hx=>by omega)
   . have h':5<=3:=h;omega
   . show 3<=6;omega
 . show (if x<N then Ow.node x else .free)=.free↔x∈q.F
   rw[A.F]
   by_cases e:x<N
   . rw[if_pos e]
     refine⟨(fun h=>by cases h),fun h=>?_⟩
     have:=(Wq n (n - N) (by omega) x h).1
     omega
   . rw[if_neg e]
     refine⟨fun _=>?_,fun _=>rfl⟩
     have mem:∀ l,l<=n->n - l<=x->x∈YI n l:=by
      intro l
      induction l with
      | zero=>intro h1 h2;omega
      | succ l ih =>
       intro h1 h2
       show x∈(n - (l+1)) :: YI n l
       by_cases e:x=n - (l+1)
       . rw[e];exact List.mem_cons_self
       . exact List.mem_cons_of_mem _ (ih (by omega) (by omega))
     exact mem (n - N) (by omega) (by omega)
 . have e:¬ x<N:=fun e=>hno x (if_pos e)
   rw[A.sW x (by omega)]
   show (8388608:Int)=Zw 0 0 ((1:Nat):Int) 0
   rw[QA 1 (by decide)];rfl
 . have e':(if x<N then Ow.node x else .free)=.node j:=e
   by_cases ex:x<N
   . rw[if_pos ex] at e'
     injection e' with e'
     subst e'
     exact⟨ex,rfl,by show 2<=3;omega,by show 3<=4;omega⟩
   . rw[if_neg ex] at e';cases e'
 . show q.lv i=tot _ N
   by_cases e:i=0
   . rw[e,A.rF,<- Vf N];rfl
   . rw[A.rE i e,show 0=0 * N by omega,<- Vf N]
     refine Xn (fun j _=>?_)
     unfold Gh.Ud
     rw[if_neg (fun h=>e (show i=0 from h.1.symm))]
 . by_cases e:i=0
   . rw[e,hc];exact h3
   . rw[A.co i e];exact Nat.zero_le _
 . have hd':(if base t n k m 0<=d/\d<base t n k m 0+3 * N then (d - base t n k m 0) / 3+1 else 0)≠0:=hd
   by_cases e:base t n k m 0<=d/\d<base t n k m 0+3 * N
   . exact⟨0,hk,by rw[hc],e.1,by rw[hc];exact e.2⟩
   . rw[if_neg e] at hd';exact absurd rfl hd'
 . have hd':(if base t n k m 0<=d/\d<base t n k m 0+3 * N then (d - base t n k m 0) / 3+1 else 0)=0:=hd
   refine A.wS d (fun x hx e=>?_)
   rw[if_pos (by omega)] at hd';omega
 . by_cases e:∃ x,x<N/\d=base t n k m 0+3 * x
   . obtain⟨x,hx,e⟩:=e
     rw[e,A.vU x hx];exact Vu _ _ _ _ _
   . rw[A.wS d (fun x hx h=>e ⟨x,hx,h⟩)];exact⟨Int.le_refl _,by decide⟩
 . show q.F.length+tot (fun _=>0) 4+tot _ N=n
   rw[A.F,Q3,show tot (yX t n k m N).live N=tot (fun _=>1) N from rfl,Vf,Vf]
   omega
theorem Bo {j:Nat} (hj:j<65536):(yX t n k m N).H j=65536+j:=by
 show Yi ((j:Nat):Int) ((1:Nat):Int)=_
 rw[VZ j 1 (by omega) (by decide)];omega
theorem zF {i:Nat} (hi:i<N) (hN:N<=60000):Bl (yX t n k m N) (fun j=>decide (j=i)) i [i] (fun _=>False):=by
 have pi:∀ j,decide (j=i)=true->j=i:=fun j h=>of_decide_eq_true h
 have Hi:(yX t n k m N).H i=65536+i:=Bo (by omega)
 refine⟨⟨by simp,⟨[],rfl⟩,rfl,fun j hj=>?_,fun j hj hno=>?_,?_,List.pairwise_singleton _ _,fun j hj=>Or.inl rfl,fun j hj=>⟨Int.le_refl _,show (0:Int)<8589934592 by decide⟩,fun a b ha hb _=>by rw[pi a ha,pi b hb],fun j hj=>?_⟩,fun x hx=>?_,fun j _=>rfl,fun j hj=>by rw[pi j hj];exact hi,fun j hj hne=>absurd (pi j hj) hne,fun j _=>⟨Nat.le_refl _,fun h=>?_⟩⟩
 . rw[List.mem_singleton.1 hj];exact decide_eq_true rfl
 . exact absurd (by rw[pi j hj];simp) hno
 . show (0:Int)<4294967296;decide
 . rw[pi j hj,Hi];omega
 . refine⟨False.elim,?_⟩
   rintro⟨c,h1,h2,-⟩
   rw[List.mem_singleton.1 h1] at h2
   have h2':(if i=i then (-1:Int) else 0)=x:=h2
   rw[if_pos rfl] at h2'
   omega
 . have h':4<=3:=h;omega
theorem UN.rm (A:UN t n k m N q) (hk:1<=k) (hN:N≠0):Rm 4 k m q.y (fun _=>none) N (fun i=>decide (i=0)) [0] 0:=by
 obtain⟨sp,hc⟩:=A.c1 hN
 have one:∀ {c:Nat} (f:Nat->Nat),f 0=c->(∀ i,i≠0->f i=0)->tot f k=c:=fun {c} f h0 h1=>by
  have e1:=YO (f:=fun _=>0) (g:=f) (J:=k) (j:=0) hk (fun i _ hi=>h1 i hi)
  rw[PE,h0] at e1
  omega
 refine⟨by rw[A.op,if_neg hN];rfl,fun i hi=>?_,by simp,(fun i hi=>by cases hi),fun i hi h=>?_,fun i hi h=>?_,?_,?_,?_,(fun K τ e=>by cases e),by simp,(fun K K' τ τ' i _ e=>by cases e)⟩
 . rw[List.mem_singleton.1 hi,hc]
   exact⟨hk,rfl,rfl,rfl⟩
 . rw[A.co i (of_decide_eq_false h)]
 . by_cases e:i=0
   . rw[e,hc] at h;cases h
   . rw[A.co i e]
 . exact one _ (by rw[hc]) (fun i hi=>by rw[A.co i hi])
 . rw[one (c:=1) _ rfl (fun i hi=>by simp[hi])]
   show 1<=1+0+tot (fun _=>0) 4
   omega
 . show 0+tot (fun _=>0) 4<=(4 - 1) * 0
   rw[PE];exact Nat.le_refl _
theorem UN.oC {L:Loc} {w:World} {s:Mm} {K Jm:Nat} (A:UN t n k 40 N q) (hk:1<=k) (h3:N<=13) (hN:N≠0) (mm:Z7 w L s) (vl:XF t n k 40 s σ q (fun _=>0)) (EK:3 * Jm<(k - 2) * 38) :
 O9 t n k L K Jm N w s σ q (fun _=>0) (yX t n k 40 N) N (fun i=>i) (fun i j=>decide (j=i)) (fun i=>[i]) (fun _ _=>False) :=
 ⟨mm,vl,fun _=>rfl,A.oD hk (by omega) hN,fun i hi=>zF hi (by omega),fun i i' j _ _ hne hj=>by
  rw[of_decide_eq_true hj];exact decide_eq_false hne,⟨_,[0],A.rm hk hN,fun _ _=>rfl,EK⟩,Nat.le_refl _⟩
end
end
end Go.Proofs.YtibmjlefcaonnaaGreat
