import Derived.Test.YtgehjolndmgffaaGreatFrmStep
import Derived.Test.YtgehjolndmgffaaGreatLstSole
import Derived.Test.YtgehjolndmgffaaGreatShfView
import Derived.Test.YtgehjolndmgffaaGreatFrmPlay
namespace Go.Proofs.YtgehjolndmgffaaGreat
open Go.RowKit
section
end
section
section
variable {t n k m σ:Nat} {F:List Nat}
variable {w0 w w':World} {L:Loc} {bE:Nat} {s:Mm}
def tu:Xa:=⟨1,2,0,0,0,0,true⟩
end
end
section
structure U2 (t n k m N:Nat) (q:Q):Prop where
 le:N<=n
 F:q.F=YB n (n - N)
 rC:∀ x,x<N->q.sw x=Zq 1 (base t n k m 0+3 * x:Nat) (1:Nat) 0
 ug:∀ x,N<=x->q.sw x=8388608
 vg:∀ x,x<N->q.dw (base t n k m 0+3 * x)=Zg 2 (2:Nat) (x:Nat) (1:Nat) true
 yx:∀ d,(∀ x,x<N->d≠base t n k m 0+3 * x)->q.dw d=0
 ry:q.lv 0=3 * N
 ru:∀ i,i≠0->q.lv i=0
 op:q.y.op 0=if N=0 then 0 else 1
 sS:∀ κ,κ≠0->q.y.op κ=0
 c0:N=0->q.y.ck 0=⟨0,0,0,0⟩
 c1:N≠0->∃ sp,q.y.ck 0=⟨1,0,3 * N,sp⟩
 co:∀ i,i≠0->q.y.ck i=⟨0,0,0,0⟩
section
variable {t n k m σ N:Nat} {q:Q}
theorem hds0:U2 t n k m 0 (Q.new n) :=
 ⟨Nat.zero_le _,rfl,fun x hx=>absurd hx (by omega),fun _ _=>rfl,fun x hx=>absurd hx (by omega),fun _ _=>rfl,rfl,fun _ _=>rfl,rfl,fun _ _=>rfl,fun _=>rfl,fun h=>absurd rfl h,fun _ _=>rfl⟩
theorem U2.alone (A:U2 t n k m N q) (hk:1<=k):Alone k q.y (if N=0 then 0 else 1):=by
 by_cases e:N=0
 . have:=A.c0 e
   rw[if_pos e]
   refine⟨Nat.zero_le _,fun i h=>absurd h (by omega),fun i _ _=>?_,fun κ hκ i hi=>?_⟩
   . by_cases ei:i=0
     . rw[ei,this];exact⟨rfl,rfl⟩
     . rw[A.co i ei];exact⟨rfl,rfl⟩
   . by_cases eκ:κ=0
     . subst eκ;rw[A.op,if_pos e] at hi;omega
     . rw[A.sS κ eκ] at hi;omega
 . obtain⟨sp,hc⟩:=A.c1 e
   rw[if_neg e]
   refine⟨hk,fun i h=>?_,fun i h1 _=>?_,fun κ hκ i hi=>?_⟩
   . rw[show i=0 by omega,hc]
   . rw[A.co i (by omega)];exact⟨rfl,rfl⟩
   . by_cases eκ:κ=0
     . subst eκ
       rw[A.op,if_neg e] at hi
       rw[show i=0 by omega,hc];exact⟨Nat.zero_lt_one,rfl⟩
     . rw[A.sS κ eκ] at hi;omega
theorem Nr (h:N<n):YB n (n - N)=N :: YB n (n - (N+1)):=by
 obtain⟨l,e⟩:∃ l,n - N=l+1:=⟨n - N - 1,by omega⟩
 rw[e,show n - (N+1)=l by omega]
 show (n - (l+1)) :: _=_
 rw[show n - (l+1)=N by omega]
theorem U2.step (A:U2 t n k m N q) (hk:1<=k) (hk1:k<=64) (hm:17<=m) (hN:N<n) (h3:3 * (N+1)<=m):∃ M y',M<=k+8/\Goes k m 0 (base t n k m) M q.y .see y' (.XO (base t n k m 0+3 * N) 0)/\ZE (q.sw N)=1/\U2 t n k m (N+1) (q.made N (YB n (n - (N+1))) y' (base t n k m 0+3 * N) 0 0 2 true):=by
 obtain⟨M,y',nx',τ',hM,go,g⟩:=Su (κ:=0) (bs:=base t n k m) (A.alone hk) (by decide) hm hk hk1
 have g1:ZE (q.sw N)=1:=by rw[A.ug N (Nat.le_refl _)];exact uz
 have r0:room 0=3:=rfl
 have key:(∃ sp,y'=⟨upd q.y.ck 0 ⟨1,0,3 * (N+1),sp⟩,upd q.y.op 0 1⟩)/\τ'=.XO (base t n k m 0+3 * N) 0:=by
  by_cases e:N=0
  . have hop:=A.op
    rw[if_pos e] at hop
    cases g with
    | fit i h hu=>rw[hop] at h;omega
    | none hno h=>rw[if_pos e] at h;omega
    | new hno h =>
     rw[if_pos e,e]
     exact⟨⟨_,rfl⟩,rfl⟩
  . obtain⟨sp,hc⟩:=A.c1 e
    have hop:=A.op
    rw[if_neg e] at hop
    have AX:(q.y.ck 0).us=3 * N:=by rw[hc]
    cases g with
    | fit i h hu =>
     have ei:i=0:=by rw[hop] at h;omega
     subst ei
     refine⟨⟨(q.y.ck 0).sp,?_⟩,by rw[AX]⟩
     rw[AX,r0,show 3 * N+3=3 * (N+1) by omega,show upd q.y.op 0 1=q.y.op by rw[<- hop];exact Vg _ _]
    | none hno h=>exact absurd (hno 0 hop) (by rw[AX,r0];omega)
    | new hno h=>exact absurd (hno 0 hop) (by rw[AX,r0];omega)
 obtain⟨⟨sp,ey⟩,rfl⟩:=key
 refine⟨M,y',hM,go,g1,?_⟩
 have qM:∀ x,(q.made N (YB n (n - (N+1))) y' (base t n k m 0+3 * N) 0 0 2 true).sw x=if x=N then Zq 1 (base t n k m 0+3 * N:Nat) (1:Nat) 0 else q.sw x:=fun x=>by
  show upd q.sw N (Zq 1 _ (ZE (q.sw N)) 0) x=_
  rw[g1]
  by_cases e:x=N
  . rw[e,upd_same,if_pos rfl]
  . rw[ZX _ _ _ _ e,if_neg e]
 have qL:∀ d,(q.made N (YB n (n - (N+1))) y' (base t n k m 0+3 * N) 0 0 2 true).dw d=if d=base t n k m 0+3 * N then Zg 2 (2:Nat) (N:Nat) (1:Nat) true else q.dw d:=fun d=>by
  show upd (upd q.dw _ _) _ (Zg 2 2 N (ZE (q.sw N)) true) d=_
  rw[g1]
  by_cases e:d=base t n k m 0+3 * N
  . rw[e,upd_same,if_pos rfl];rfl
  . rw[ZX _ _ _ _ e,ZX _ _ _ _ e,if_neg e]
 have oh:∀ i,i≠0->y'.ck i=q.y.ck i:=fun i hi=>by rw[ey];exact ZX _ _ _ _ hi
 refine⟨hN,rfl,fun x hx=>?_,fun x hx=>?_,fun x hx=>?_,fun d hd=>?_,?_,fun i hi=>?_,?_,fun κ hκ=>?_,fun e=>absurd e (by omega),fun _=>⟨sp,?_⟩,fun i hi=>(oh i hi).trans (A.co i hi)⟩
 . rw[qM]
   by_cases e:x=N
   . rw[if_pos e,e]
   . rw[if_neg e];exact A.rC x (by omega)
 . rw[qM,if_neg (by omega)];exact A.ug x (by omega)
 . rw[qL]
   by_cases e:x=N
   . rw[if_pos (by rw[e]),e]
   . rw[if_neg (by omega)];exact A.vg x (by omega)
 . rw[qL,if_neg (hd N (by omega))];exact A.yx d (fun x hx=>hd x (by omega))
 . show upd q.lv 0 (q.lv 0+room 0) 0=_
   rw[upd_same,A.ry,r0];omega
 . show upd q.lv 0 _ i=0
   rw[ZX _ _ _ _ hi];exact A.ru i hi
 . show y'.op 0=_
   rw[ey,if_neg (by omega)]
   show upd q.y.op 0 1 0=1
   exact upd_same _ _ _
 . show y'.op κ=0
   rw[ey]
   exact(ZX _ _ _ _ hκ).trans (A.sS κ hκ)
 . show y'.ck 0=_
   rw[ey]
   show upd q.y.ck 0 _ 0=_
   exact upd_same _ _ _
end
end
section
def LK (t n k m j:Nat):Ox:=⟨j,1,base t n k m 0+3 * j,0,3 * j,2,0,true⟩
def Ub (t n k m:Nat):Nat->List Ox
 | 0=>[]
 | N+1=>LK t n k m N :: Ub t n k m N
section
variable {t n k m N:Nat} {q:Q}
theorem Yf {o:Ox}:∀ {N:Nat},o∈Ub t n k m N↔∃ j,j<N/\o=LK t n k m j
 | 0=>by simp[Ub]
 | N+1=>by
  have ih:=Yf (o:=o) (N:=N)
  simp only[Ub,List.mem_cons,ih]
  constructor
  . rintro(h | ⟨j,hj,h⟩)
    . exact⟨N,by omega,h⟩
    . exact⟨j,by omega,h⟩
  . rintro⟨j,hj,h⟩
    by_cases e:j=N
    . exact Or.inl (e ▸ h)
    . exact Or.inr ⟨j,by omega,h⟩
theorem Qp {i:Nat}:∀ N,Xd i (Ub t n k m N)=if i=0 then 3 * N else 0
 | 0=>by simp[Ub,Xd]
 | N+1=>by
  have ih:=Qp N (i:=i)
  simp only[Ub,Xd,ih]
  show (if 0=i then room 0 else 0)+_=_
  by_cases e:i=0
  . subst e;simp only[if_true];show 3+3 * N=3 * (N+1);omega
  . rw[if_neg (Ne.symm e),if_neg e,if_neg e]
theorem U2.uh (A:U2 t n k m N q) (hk:1<=k) (h3:3 * N<=m):Zn t n k m q (if N=0 then 0 else 1) (fun _=>1) (Ub t n k m N):=by
 have le:=A.le
 have AX:(q.y.ck 0).us=3 * N:=by
  by_cases e:N=0
  . rw[A.c0 e,e]
  . obtain⟨sp,hc⟩:=A.c1 e;rw[hc]
 have pI:∀ i,i≠0->(q.y.ck i).us=0:=fun i hi=>by rw[A.co i hi]
 have pG:∀ i u,(i≠0\/3 * N<=u)->u<m->q.dw (base t n k m i+u)=0:=fun i u h hu=>by
  refine A.yx _ fun x hx e=>?_
  by_cases hi:i=0
  . subst hi
    rcases h with h | h
    . exact h rfl
    . omega
  . exact Vj (t:=t) (n:=n) (k:=k) hu (show 3 * x<m by omega) (Ne.symm hi) e
 refine⟨A.alone hk,fun i hi=>?_,fun i hi u h1 h2=>?_,fun x hx=>?_,fun x hx=>⟨Nat.le_refl _,by decide⟩,fun o ho=>?_,fun o ho=>?_,fun o ho=>?_,?_,fun i hi=>?_,fun a=>?_⟩
 . by_cases e:i=0
   . rw[e,AX];exact h3
   . rw[pI i e];exact Nat.zero_le _
 . refine pG i u ?_ h2
   by_cases e:i=0
   . right;rw[e,AX] at h1;exact h1
   . exact Or.inl e
 . rw[A.F] at hx
   have:=Xu n (n - N) (by omega) x hx
   rw[A.ug x (by omega)]
   show (8388608:Int)=Zq 0 0 ((1:Nat):Int) 0
   rw[Qr 1 (by decide)];rfl
 . obtain⟨j,hj,rfl⟩:=Yf.1 ho;rfl
 . obtain⟨j,hj,rfl⟩:=Yf.1 ho
   exact⟨by show 1<=2;decide,by show 2<=16;decide,by show ZR ((2:Nat):Int)=((0:Nat):Int);decide,by show 0<4;decide,by show j<n;omega,Nat.le_refl _,by show 1<=65535;decide,hk,by show 3 * j+3<=m;omega,rfl⟩
 . obtain⟨j,hj,rfl⟩:=Yf.1 ho
   refine⟨fun h=>?_,A.rC j hj,A.vg j hj,fun i h1 h2=>?_,?_⟩
   . rw[A.F] at h
     have:n - (n - N)<=j:=(Xu n (n - N) (by omega) j h).1
     omega
   . have h2':i<=2:=h2
     have:q.dw (base t n k m 0+3 * j+i)=0:=A.yx _ (fun x hx=>by omega)
     show 0<=q.dw (base t n k m 0+3 * j+i)/\q.dw (base t n k m 0+3 * j+i)<=1099511627775
     rw[this];exact⟨Int.le_refl _,by decide⟩
   . show 3 * j+3<=(q.y.ck 0).us;rw[AX];omega
 . have:∀ M,M<=N->(Ub t n k m M).Pairwise Ox.apart:=fun M=>by
    induction M with
    | zero=>exact fun _=>.nil
    | succ M ih =>
     intro hM
     refine List.pairwise_cons.2 ⟨fun o ho=>?_,ih (by omega)⟩
     obtain⟨j,hj,rfl⟩:=Yf.1 ho
     exact⟨by show M≠j;omega,Or.inr (Or.inr (by show 3 * j+3<=3 * M;omega))⟩
   exact this N (Nat.le_refl _)
 . rw[Qp]
   by_cases e:i=0
   . rw[e,A.ry,if_pos rfl]
   . rw[A.ru i e,if_neg e]
 . by_cases h:∃ x,x<N/\a=base t n k m 0+3 * x
   . obtain⟨x,hx,rfl⟩:=h
     rw[A.vg x hx];exact Qq _ _ _ _ _
   . rw[A.yx a (fun x hx e=>h ⟨x,hx,e⟩)];exact⟨Int.le_refl _,by show (0:Int)<=18446744073709551615;decide⟩
theorem U2.covers (A:U2 t n k m N q):X8 n q (Ub t n k m N):=fun x hx=>by
 have mem:∀ l,l<=n->n - l<=x->x∈YB n l:=by
  intro l
  induction l with
  | zero=>intro h1 h2;omega
  | succ l ih =>
   intro h1 h2
   show x∈(n - (l+1)) :: YB n l
   by_cases e:x=n - (l+1)
   . rw[e];exact List.mem_cons_self
   . exact List.mem_cons_of_mem _ (ih (by omega) (by omega))
 have le:=A.le
 by_cases h:x<N
 . exact Or.inr ⟨LK t n k m x,Yf.2 ⟨x,h,rfl⟩,rfl⟩
 . exact Or.inl (by rw[A.F];exact mem (n - N) (by omega) (by omega))
theorem wR {j:Nat} (hj:j<=65535):(LK t n k m j).h=65536+j:=by
 show Zc ((j:Nat):Int) ((1:Nat):Int)=_
 rw[XT j 1 hj (by decide)];omega
theorem U2.wk (A:U2 t n k m N q) (hk:1<=k) (h3:3 * N<=m) (lf:Int->Nat):Wk t n k m q (if N=0 then 0 else 1) (fun _=>1) (Ub t n k m N) N lf (LK t n k m) (fun _=>[])/\Tm q (Ub t n k m N) N (LK t n k m) (fun _=>[]) [] []:=by
 have AU:∀ i x,¬ Has q (LK t n k m i :: []) x:=fun i x=>by rintro⟨o,ho,-⟩;cases ho
 have own:∀ o∈Ub t n k m N,o.own=true:=fun o ho=>by obtain⟨j,hj,rfl⟩:=Yf.1 ho;rfl
 refine⟨⟨A.uh hk h3,fun i hi=>⟨fun o ho=>?_,by simp,⟨?_,trivial⟩,fun o ho=>(by cases ho),.nil⟩,fun i j hi hj hne o ho ho'=>?_,fun o ho _=>?_,fun i hi x hx=>absurd hx (AU i x)⟩,.nil,fun h ws=>?_,.nil,fun x=>?_⟩
 . rw[List.mem_singleton.1 ho]
   exact⟨Yf.2 ⟨i,hi,rfl⟩,rfl,rfl⟩
 . show q.dw (base t n k m 0+3 * i+1+1)=0
   exact A.yx _ (fun x hx=>by omega)
 . rw[List.mem_singleton.1 ho,List.mem_singleton] at ho'
   exact hne (congrArg Ox.x ho')
 . obtain⟨j,hj,rfl⟩:=Yf.1 ho
   exact⟨j,hj,by simp⟩
 . refine⟨fun h'=>(by cases h'),?_⟩
   rintro⟨o,ho,hw,-⟩
   rw[own o ho] at hw;cases hw
 . refine⟨fun h'=>(by cases h'),?_⟩
   rintro⟨i,-,hx⟩
   exact absurd hx (AU i x)
end
end
end Go.Proofs.YtgehjolndmgffaaGreat
