import Derived.Test.YtpbghmeikcphnaaGreatAccLoad
import Derived.Test.YtpbghmeikcphnaaGreatLstSolo
import Derived.Test.YtpbghmeikcphnaaGreatAllocSolo
import Derived.Test.YtpbghmeikcphnaaGreatLstAlone
import Derived.Test.YtpbghmeikcphnaaGreatLstAskW
namespace Go.Proofs.YtpbghmeikcphnaaGreat
open Go.RowKit
section
section
variable {t n k m:Nat} {cg:Int} {own:Bool} {x G:Nat}
end
end
section
inductive Vx (t n k m:Nat) (cg:Int):Nat->Nat->Q->Dw->Nat->Q->Dw->Prop where
 | one {σ:Nat} {q:Q} {δ:Dw} {q':Q} {δ':Dw} (hn:δ.need t n k m cg q) (ht:Y8 t n k m cg σ q δ=(q',δ')) (h:δ'.ZT=true):Vx t n k m cg 1 σ q δ (σ+δ.cost) q' δ'
 | more {N σ:Nat} {q:Q} {δ:Dw} {q1:Q} {δ1:Dw} {σ':Nat} {q':Q} {δ':Dw} (hn:δ.need t n k m cg q) (ht:Y8 t n k m cg σ q δ=(q1,δ1)) (h:δ1.ZT=false) (g:Vx t n k m cg N (σ+δ.cost) q1 δ1 σ' q' δ'):Vx t n k m cg (N+1) σ q δ σ' q' δ'
section
variable {t n k m:Nat} {cg:Int} {who N σ σ':Nat} {q q':Q} {δ δ':Dw} {pn:Nat->Int}
theorem zV {q1:Q} {δ1:Dw} (ht:Y8 t n k m cg σ q δ=(q1,δ1)):Xn t n k m cg who ⟨σ,q,pn,3,δ⟩=⟨σ+δ.cost,q1,pn,if δ1.ZT then 4 else 3,δ1⟩:=by
 show As.mk _ _ _ _ _=_
 rw[ht]
theorem Vx.as (g:Vx t n k m cg N σ q δ σ' q' δ'):WE t n k m cg who (N+1) ⟨σ,q,pn,3,δ⟩ ⟨σ'+1,q',upd pn who 0,5,δ'⟩:=by
 induction g with
 | one hn ht h =>
  refine .more (by show 3≠5;omega) (fun _=>hn) (zV ht) (by rw[h];show 4≠5;omega) ?_
  rw[h,if_pos rfl]
  exact .one (by show 4≠5;omega) (fun e=>absurd e (by show ¬ 4=3;omega)) rfl rfl
 | more hn ht h g ih =>
  refine .more (by show 3≠5;omega) (fun _=>hn) (zV ht) (by rw[h];show 3≠5;omega) ?_
  rw[h,if_neg (by decide)]
  exact ih
theorem Vx.all (g:Vx t n k m cg N (σ+3) q δ σ' q' δ'):WE t n k m cg who (N+4) ⟨σ,q,pn,0,δ⟩ ⟨σ'+1,q',upd pn who 0,5,δ'⟩:=by
 have r:=g.as (who:=who) (pn:=upd pn who 1)
 rw[XI] at r
 exact .more (by show 0≠5;omega) (fun e=>absurd e (by show ¬ 0=3;omega)) rfl (by show 1≠5;omega) (.more (by show 1≠5;omega) (fun e=>absurd e (by show ¬ 1=3;omega)) rfl (by show 2≠5;omega) (.more (by show 2≠5;omega) (fun e=>absurd e (by show ¬ 2=3;omega)) rfl (by show 3≠5;omega) r))
theorem BX {κ:Nat} {z:Int} {own:Bool} {α α':Al} (g:OT t n k m κ z own N σ q α q' α'):Vx t n k m cg N σ q (.al z own κ α) (σ+N) q' (.al z own κ α'):=by
 induction g with
 | one ho ht h=>exact .one trivial (by simp only[Y8,ht]) h
 | more ho ht h g ih =>
  rename_i N σ q α q1 α1 q' α'
  rw[show σ+(N+1)=σ+1+N by omega]
  exact .more (q1:=q1) (δ1:=.al z own κ α1) trivial (by simp only[Y8,ht]) h ih
end
end
section
def yO (n:Nat) (q:Q) (ls:List Ox):Prop:=∀ x,x<n->x∈q.F\/∃ o∈ls,o.x=x
section
variable {t n k m nx:Nat} {q:Q} {gen:Nat->Nat} {ls:List Ox} {cg:Int}
end
end
section
theorem Cb (n:Nat):yO n (Q.new n) []:=fun x hx=>Or.inl (by
 have:∀ k x,x<n->n<=x+k->k<=n->x∈Yn n k:=by
  intro k
  induction k with
  | zero=>intro x h1 h2;omega
  | succ k ih =>
   intro x h1 h2 h3
   show x∈(n - (k+1)) :: Yn n k
   by_cases e:x=n - (k+1)
   . rw[e];simp
   . exact List.mem_cons_of_mem _ (ih x h1 (by omega) (by omega))
 exact this n x hx (by omega) (Nat.le_refl _))
section
variable {w0 w w':World} {L:Loc} {bE t n k m σ nx:Nat} {s:Mm} {q:Q} {gen:Nat->Nat} {ls:List Ox}
end
end
section
def qH (t n k m:Nat) (F:List Nat):Q:=(Q.new n).made 0 F ⟨upd Y.new.ck 0 ⟨1,0,3,1⟩,upd Y.new.op 0 1⟩ (base t n k m 0) 0 0 2 true
def zD (t n k m:Nat):Gh:=⟨1,fun _=>⟨0,1,base t n k m 0,0⟩,fun _=>3,fun _ _=>0,fun _=>0,fun j=>decide (j=0),fun _=>0,fun x=>if x=0 then .node 0 else .free,fun _=>1,fun d=>if base t n k m 0<=d/\d<base t n k m 0+3 then 1 else 0⟩
def ru:Hi:=⟨fun _ _=>False,fun _=>none,fun _=>none⟩
section
variable {t n k m σ:Nat} {F:List Nat}
theorem xy:(qH t n k m F).sw 0=Zt 1 (base t n k m 0) 1 0:=by
 show upd (fun _=>(8388608:Int)) 0 (Zt 1 (base t n k m 0) (Zv 8388608) 0) 0=_
 rw[upd_same,yB];rfl
theorem tu {x:Nat} (h:x≠0):(qH t n k m F).sw x=8388608:=Z9 _ _ _ _ h
theorem Ef:(qH t n k m F).dw (base t n k m 0)=Zh 2 (2:Nat) (0:Nat) (1:Nat) true:=by
 show upd (upd (fun _=>(0:Int)) _ _) (base t n k m 0) (Zh 2 2 (0:Nat) (Zv 8388608) true) _=_
 rw[upd_same,yB];rfl
theorem Ed {d:Nat} (h:d≠base t n k m 0):(qH t n k m F).dw d=0:=by
 show upd (upd (fun _=>(0:Int)) _ _) (base t n k m 0) _ d=0
 rw[Z9 _ _ _ _ h,Z9 _ _ _ _ h]
theorem VN:(qH t n k m F).y.ck 0=⟨1,0,3,1⟩:=by
 show upd Y.new.ck 0 _ 0=_
 exact upd_same _ _ _
theorem IY {i:Nat} (h:i≠0):(qH t n k m F).y.ck i=⟨0,0,0,0⟩:=Z9 _ _ _ _ h
theorem jL (hk:1<=k) (hm:17<=m) (hn:1<=n) (hF:∀ x,x<n->(x∈F↔x≠0)) (hl:F.length+1=n):Lc t n k m (qH t n k m F) σ (zD t n k m) (fun _=>.nil) 0 [0] ru (fun _=>none):=by
 have tq:∀ f:Nat->Nat,tot f 1=f 0:=fun f=>by show 0+f 0=f 0;omega
 have H0:(zD t n k m).H 0=65536:=by
  show Yl ((0:Nat):Int) ((1:Nat):Int)=65536
  rw[Ws 0 1 (by decide) (by decide)];rfl
 have GV:∀ j,(zD t n k m).ZL j=true->j=0:=fun j h=>of_decide_eq_true h
 refine⟨⟨⟨fun j hj=>?_,fun j j' h1 h2 _ _=>?_,fun x hx=>?_,fun x hx hno=>?_,fun x j hx e=>?_,fun x hx=>⟨Nat.le_refl _,Nat.le_add_right _ _⟩,fun i hi=>?_,fun i hi=>?_,fun d hd=>?_,fun d hd=>?_,fun d=>?_⟩,fun _=>trivial,(fun K K' j α α' e=>by cases e),(fun j hj h2=>by have h2':(3:Nat)<=2:=h2;omega),?_⟩,⟨⟨by simp,⟨[],rfl⟩,?_,fun j hj=>?_,fun j hj hno=>?_,?_,List.pairwise_singleton _ _,fun j hj=>Or.inl ?_,fun j hj=>?_,fun i j hi hj _=>by rw[GV i hi,GV j hj],fun j hj=>?_⟩,fun key hk'=>?_,fun j _=>rfl,fun j hj=>?_,(fun c K e=>by cases e),fun j hj hne=>absurd (GV j hj) hne,fun _ _=>rfl,fun _ _ _ _ _=>Iff.rfl,(fun s key b _ e=>by cases e)⟩,(fun K C r e=>by cases e),fun _ _=>rfl⟩
 . have h0:j=0:=by have:j<1:=hj;omega
   subst h0
   refine⟨hk,⟨0,rfl,?_⟩,?_,fun d h1 h2=>if_pos ⟨h1,h2⟩,hn,Nat.le_refl _,fun _=>rfl,fun h=>?_,fun h=>?_,fun _ _=>rfl,fun _ _=>xy,fun h=>?_,fun _=>Ef,fun c hc=>?_,fun _=>rfl,fun h=>?_,Nat.zero_le _,fun c _=>⟨Int.le_refl _,show (0:Int)<=1099511627775 by decide⟩,fun _=>⟨Nat.le_refl _,fun h=>?_⟩,?_⟩
   . show 0+3<=((qH t n k m F).y.ck 0).us;rw[VN];exact Nat.le_refl _
   . show ((qH t n k m F).y.ck 0).st=1;rw[VN]
   . have h':5<=3:=h;omega
   . have h':3<=1:=h;omega
   . have h':3=4:=h;omega
   . show (qH t n k m F).dw (base t n k m 0+1+c)=0
     exact Ed (by omega)
   . have h':5<=3:=h;omega
   . have h':4<=3:=h;omega
   . show 3<=6;omega
 . have a1:j<1:=h1
   have a2:j'<1:=h2
   omega
 . show (if x=0 then Ow.node 0 else .free)=.free↔x∈F
   rw[hF x hx]
   by_cases e:x=0
   . rw[if_pos e];exact⟨(fun h=>by cases h),fun h=>absurd e h⟩
   . rw[if_neg e];exact⟨fun _=>e,fun _=>rfl⟩
 . have e:x≠0:=fun e=>hno 0 (if_pos e)
   rw[tu e]
   show (8388608:Int)=Zt 0 0 ((1:Nat):Int) 0
   rw[SG 1 (by decide)];rfl
 . have e':(if x=0 then Ow.node 0 else .free)=.node j:=e
   by_cases ex:x=0
   . rw[if_pos ex] at e'
     injection e' with e'
     subst e'
     exact⟨Nat.zero_lt_one,ex.symm,by show 2<=3;omega,by show 3<=4;omega⟩
   . rw[if_neg ex] at e';cases e'
 . show upd (fun _=>0) 0 (0+3) i=tot _ 1
   rw[tq]
   by_cases e:i=0
   . rw[e,upd_same];rfl
   . rw[Z9 _ _ _ _ e]
     unfold Gh.SY
     rw[if_neg (fun h=>e (show i=0 from h.1.symm))]
 . by_cases e:i=0
   . rw[e,VN];show 3<=m;omega
   . rw[IY e];exact Nat.zero_le _
 . have hd':(if base t n k m 0<=d/\d<base t n k m 0+3 then 1 else 0)≠0:=hd
   by_cases e:base t n k m 0<=d/\d<base t n k m 0+3
   . exact⟨0,hk,by rw[VN],e.1,by rw[VN];exact e.2⟩
   . rw[if_neg e] at hd';exact absurd rfl hd'
 . have hd':(if base t n k m 0<=d/\d<base t n k m 0+3 then 1 else 0)=0:=hd
   refine Ed (fun e=>?_)
   rw[if_pos (by omega)] at hd';cases hd'
 . by_cases e:d=base t n k m 0
   . rw[e,Ef];exact SE _ _ _ _ _
   . rw[Ed e];exact⟨Int.le_refl _,by decide⟩
 . show F.length+tot (fun _=>0) 4+tot _ 1=n
   rw[tq]
   show F.length+0+1=n
   omega
 . rfl
 . rw[List.mem_singleton.1 hj];rfl
 . exact absurd (by rw[GV j hj];simp) hno
 . show (0:Int)<4294967296;decide
 . rfl
 . exact⟨Int.le_refl _,show (0:Int)<8589934592 by decide⟩
 . rw[GV j hj,H0];exact⟨by decide,by decide⟩
 . refine⟨False.elim,?_⟩
   rintro⟨c,h1,h2,-⟩
   rw[List.mem_singleton.1 h1] at h2
   have h2':(-1:Int)=key:=h2
   omega
 . rw[GV j hj];exact Nat.zero_lt_one
theorem IX (N:Nat):tot (fun _=>0) N=0:=by
 induction N with
 | zero=>rfl
 | succ k ih=>show tot (fun _=>0) k+0=0;rw[ih]
theorem jW {N:Nat} (hk:1<=k):Rm N k m (qH t n k m F).y (fun _=>none) 1 (fun i=>decide (i=0)) [0] 0:=by
 refine⟨by show upd Y.new.op 0 1 0=0+1;exact upd_same _ _ _,fun i hi=>?_,by simp,(fun i hi=>by cases hi),fun i hi h=>?_,fun i hi h=>?_,?_,?_,?_,(fun K τ e=>by cases e),by simp,(fun K K' τ τ' i _ e=>by cases e)⟩
 . rw[List.mem_singleton.1 hi]
   exact⟨hk,by rw[VN],rfl,by rw[VN]⟩
 . rw[IY (of_decide_eq_false h)]
 . by_cases e:i=0
   . rw[e,VN] at h;cases h
   . rw[IY e]
 . have h1:=YQ (f:=fun _=>0) (g:=fun i=>((qH t n k m F).y.ck i).us) (J:=k) (j:=0) hk (fun i _ hi=>by rw[IY hi])
   have h2:tot (fun _=>0) k=0:=by
    have:=Xh (f:=fun _=>0) (J:=k) (fun _ _=>Nat.zero_le _)
    clear h1 this
    induction k with
    | zero=>rfl
    | succ k ih =>
     show tot (fun _=>0) k+0=0
     by_cases e:1<=k
     . rw[ih e]
     . rw[show k=0 by omega];rfl
   simp only[VN] at h1
   omega
 . have h1:=YQ (f:=fun _=>0) (g:=fun i=>if decide (i=0)=true then 1 else 0) (J:=k) (j:=0) hk (fun i _ hi=>by simp[hi])
   have h2:tot (fun _=>0) k=0:=by
    clear h1
    induction k with
    | zero=>rfl
    | succ k ih =>
     show tot (fun _=>0) k+0=0
     by_cases e:1<=k
     . rw[ih e]
     . rw[show k=0 by omega];rfl
   simp at h1
   show _<=1+0+tot (fun _=>0) N
   rw[IX]
   simp
   omega
 . show 0+tot (fun _=>0) N<=(N - 1) * 0
   rw[IX];exact Nat.zero_le _
variable {w0 w w':World} {L:Loc} {bE:Nat} {s:Mm}
def oM:Xa:=⟨1,2,0,0,0,0,true⟩
theorem MO (n:Nat) (hn:1<=n):∃ F,Yn n n=0 :: F/\(∀ x,x<n->(x∈F↔x≠0))/\F.length+1=n:=by
 obtain⟨l,rfl⟩:∃ l,n=l+1:=⟨n - 1,by omega⟩
 have e:Yn (l+1) (l+1)=0 :: Yn (l+1) l:=by show (l+1 - (l+1)) :: _=_;rw[Nat.sub_self]
 refine⟨_,e,fun x hx=>⟨fun h h0=>?_,fun h=>?_⟩,by rw[Qs]⟩
 . have:=(VM (l+1) l (by omega) x h).1
   omega
 . have hc:=Cb (l+1) x hx
   rcases hc with hc | ⟨o,ho,-⟩
   . have hc':x∈Yn (l+1) (l+1):=hc
     rw[e] at hc'
     rcases List.mem_cons.1 hc' with h' | h'
     . exact absurd h' h
     . exact h'
   . cases ho
end
end
section
section
variable {t n k m σ:Nat} {w:World} {L:Loc} {s:Mm}
theorem AZ (hG:Good t n k m 100 600 3) (hn:1<=n) (mm:Z5 w L s) (vl:VC t n k m s σ (Q.new n) (fun _=>0)) (wb:∀ a,Wd ((Q.new n).dw a)) (hσ:σ+500<1000000) :
 Calls Tryz.prog 23 #[.agg #[.int .i64 t,.int .i64 n,.int .i64 k,.int .i64 m,.int .i64 100,.int .i64 600,.int .i64 3,.pointer (some ⟨L.p,0,none⟩),.int .i64 0],oM.v] w fun e w'=>∃ (St:Int) (s':Mm) (σ':Nat) (F:List Nat),e=.returned (.agg #[.int .i64 0,.int .u64 65536,.int .i64 0,.int .i64 St])/\(∀ x,x<n->(x∈F↔x≠0))/\F.length+1=n/\σ'<=σ+500/\Z5 w' L s'/\VC t n k m s' σ' (qH t n k m F) (fun _=>0)/\Only L.has w w':=by
 obtain⟨F,hF,h1,h2⟩:=MO n hn
 obtain⟨N,y',nx',τ',hN,go,g⟩:=Kz (κ:=0) (bs:=base t n k m) (EM k) (by decide) hG.n0 hG.k0 hG.k1
 have hk0:=hG.k0
 have hk1:=hG.k1
 have ht0:=hG.t0
 cases g with
 | fit i h hu=>cases h
 | none hno h=>omega
 | new hno h =>
  have r:=Ih (t:=t) (n:=n) (m:=m) (z:=2) (own:=true) (q:=Q.new n) (σ:=σ+3) hF go
  have st:YY n oM (.al 2 true 0 (.take .idle)):=.al 0 rfl ⟨by decide,by decide⟩ rfl (by decide)
  refine(yP mm vl hG wb hσ oM (by decide) _ st 0 (by omega) (N:=N+4+4+4) (by omega) (BX r).all).mono ?_
  rintro e w' ⟨E',H',V',St,s',rfl,td,m',v',o'⟩
  obtain⟨e1,e2,e3,-⟩:=td
  have v2:VC t n k m s' (σ+3+(N+4+4)+1) (qH t n k m F) (fun _=>0):=by
   have e:upd (fun _=>(0:Int)) 0 0=fun _=>0:=by
    funext i;unfold upd;split <;> rfl
   rw[<- e];exact v'
  exact⟨St,s',_,F,by rw[e1,e2,e3,show Zv ((Q.new n).sw 0)=1 from yB,show Yl ((0:Nat):Int) ((1:Nat):Int)=65536 by rw[Ws 0 1 (by decide) (by decide)];rfl],h1,h2,by omega,m',v2,o'⟩
end
theorem zJ (t n k m:Nat):(zD t n k m).H 0=65536:=by
 show Yl ((0:Nat):Int) ((1:Nat):Int)=65536
 rw[Ws 0 1 (by decide) (by decide)];rfl
theorem oL (t n k m:Nat):Ord (zD t n k m) 0:=fun _ hj=>⟨hj,Or.inl rfl⟩
theorem tK {t n k m:Nat}:Tidy (zD t n k m):=fun j hj _ _=>by
 have:j=0:=by have:j<1:=hj;omega
 rw[this];exact⟨rfl,by show (0:Int)<4294967296;decide⟩
theorem xE {n K Jm:Nat} {F:List Nat} (hJ:Jm<=97):Roomy K Jm (qH 4 n 12 40 F) (zD 4 n 12 40) (fun _=>.nil) :=
 ⟨_,_,0,jW (by decide),Or.inl ⟨rfl,fun _ _=>rfl,hJ⟩⟩
theorem Pz {n:Nat} (h1:1<=n) (h2:n<=40):Good 4 n 12 40 100 600 3:=⟨by decide,by decide,by omega,by omega,by decide,by decide,by decide,by decide,by decide,by decide,by decide,by decide,by decide,by decide⟩
set_option maxRecDepth 20000 in
set_option maxHeartbeats 1000000 in
theorem PE {n:Nat} (h1:1<=n) (h2:n<=40) (w:World):Calls Tryz.prog 9 #[.int .i64 n] w fun e w'=>∃ (L:Loc) (s:Mm) (σ:Nat) (F:List Nat),e=.returned (.tuple #[KC 4 n 12 40 100 600 3 L.p 0,.int .u64 65536,.bool true])/\(∀ K Jm,Jm<=97->Rest 4 n L K Jm 1 w' s σ (qH 4 n 12 40 F) (fun _=>0) (zD 4 n 12 40) (fun _=>.nil) 0 [0] ru (fun _=>none))/\Below w.heap.size w w'/\(∀ x,L.has x->w.heap.size<=x)/\σ<=600/\F.length+1=n:=by
 have HG:Hid (Good 4 n 12 40 100 600 3):=Pz h1 h2
 have HN:Hid (1<=n/\n<=40):=⟨h1,h2⟩
 have ar:=fun w=>Nr (Pz h1 h2) w
 clear h1 h2
 have z0:=At.new w 27 [.int .i64 0,.int .i64 0,.int .i64 0,.int .i64 0,.int .i64 0,.int .i64 0,.int .i64 0,.pointer none,.int .i64 0]
 have g0:=ZY w (.cells #[.int .i64 0,.int .i64 0,.int .i64 0,.int .i64 0,.int .i64 0,.int .i64 0,.int .i64 0,.pointer none,.int .i64 0] 27)
 go_enter Tryz.func9,Tryz.ntmps9
 go_wp2_with (first
  | (go_at_call 22;refine(ar _).mono ?_;rintro e w1 ⟨L,rfl,m1,b1,l1⟩;clear ar;have z1:=z0.grown b1;have a0:=z1.at0 0 rfl;have a1:=z1.at0 1 rfl;have a2:=z1.at0 2 rfl;have a3:=z1.at0 3 rfl;have a4:=z1.at0 4 rfl;have a5:=z1.at0 5 rfl;have a6:=z1.at0 6 rfl;have a7:=z1.at0 7 rfl;have a8:=z1.at0 8 rfl;have af:=z1.fz;have nb:¬ L.has w.heap.size:=(fun hh=>by have:=l1 _ hh;rw[Go.Deep.nblk_alloc] at this;omega);have z2:At _ w.heap.size 0 27 _ [.int .i64 4,.int .i64 n,.int .i64 12,.int .i64 40,.int .i64 100,.int .i64 600,.int .i64 3,.pointer (some ⟨L.p,0,none⟩),.int .i64 0]:=(((((((((z1).ZO 0 (.int .i64 4)).ZO 1 (.int .i64 n)).ZO 2 (.int .i64 12)).ZO 3 (.int .i64 40)).ZO 4 (.int .i64 100)).ZO 5 (.int .i64 600)).ZO 6 (.int .i64 3)).ZO 7 (.pointer (some ⟨L.p,0,none⟩))).ZO 8 (.int .i64 0);have m2:=(((((((((m1).ZX nb 0 (.int .i64 4)).ZX nb 1 (.int .i64 n)).ZX nb 2 (.int .i64 12)).ZX nb 3 (.int .i64 40)).ZX nb 4 (.int .i64 100)).ZX nb 5 (.int .i64 600)).ZX nb 6 (.int .i64 3)).ZX nb 7 (.pointer (some ⟨L.p,0,none⟩))).ZX nb 8 (.int .i64 0))
  | (go_at_call 23;refine(AZ HG.out HN.out.1 m2 ⟨uG HG.out (by have:=HN.out.2;omega),XP _ _ _ _ _ (by omega) (Or.inl (by omega)),fun i hi=>XP _ _ _ _ _ (by omega) (Or.inl (by omega))⟩ (uu 4 n 12 40).wb (by have:=HN.out.2;omega)).mono ?_;rintro e w2 ⟨St,s2,σ2,F,rfl,hF1,hF2,jV,m3,v3,o3⟩;have z3:=z2.only o3 nb;have d3:=At.new w2 37 [.int .i64 0,.int .u64 65536,.int .i64 0,.int .i64 St];have z4:=z3.grown (ZY w2 (.cells #[.int .i64 0,.int .u64 65536,.int .i64 0,.int .i64 St] 37));have jU:=z4.at0 0 rfl;have jT:=z4.at0 1 rfl;have kb2:=z4.at0 2 rfl;have jS:=z4.at0 3 rfl;have jR:=z4.at0 4 rfl;have jQ:=z4.at0 5 rfl;have jP:=z4.at0 6 rfl;have jO:=z4.at0 7 rfl;have kb8:=z4.at0 8 rfl;have bf:=z4.fz;have d0:=d3.at0 0 rfl;have d1:=d3.at0 1 rfl;have lw:∀ x,L.has x->w.heap.size<=x:=(fun x hx=>by have:=l1 x hx;rw[Go.Deep.nblk_alloc] at this;omega);have jM:Below w.heap.size w w2:=UA (Z7 (Z7 (Z7 (Z7 (Z7 (Z7 (Z7 (Z7 (Z7 (grow g0 b1) (Nat.le_refl _) 0 (.int .i64 4)) (Nat.le_refl _) 1 (.int .i64 n)) (Nat.le_refl _) 2 (.int .i64 12)) (Nat.le_refl _) 3 (.int .i64 40)) (Nat.le_refl _) 4 (.int .i64 100)) (Nat.le_refl _) 5 (.int .i64 600)) (Nat.le_refl _) 6 (.int .i64 3)) (Nat.le_refl _) 7 (.pointer (some ⟨L.p,0,none⟩))) (Nat.le_refl _) 8 (.int .i64 0)) o3 lw))
 have hne:w2.heap.size≠w.heap.size:=fun e=>by have h9:=z3.lt;omega
 have d9:=(((((((((d3).other hne 0 (.int .i64 4)).other hne 1 (.int .i64 n)).other hne 2 (.int .i64 12)).other hne 3 (.int .i64 40)).other hne 4 (.int .i64 100)).other hne 5 (.int .i64 600)).other hne 6 (.int .i64 3)).other hne 7 (.pointer (some ⟨L.p,0,none⟩))).other hne 8 (.int .i64 0)
 have q0:=d9.at0 0 rfl
 have q1:=d9.at0 1 rfl
 clear d9
 go_region
 go_wp2
 have z6:At _ w.heap.size 0 27 _ [.int .i64 4,.int .i64 n,.int .i64 12,.int .i64 40,.int .i64 100,.int .i64 600,.int .i64 3,.pointer (some ⟨L.p,0,none⟩),.int .i64 0]:=((((((((((z4).ZO 0 (.int .i64 4)).ZO 1 (.int .i64 n)).ZO 2 (.int .i64 12)).ZO 3 (.int .i64 40)).ZO 4 (.int .i64 100)).ZO 5 (.int .i64 600)).ZO 6 (.int .i64 3)).ZO 7 (.pointer (some ⟨L.p,0,none⟩))).ZO 8 (.int .i64 0)).drew
 have e0:=z6.at0 0 rfl
 have e1:=z6.at0 1 rfl
 have e2:=z6.at0 2 rfl
 have e3:=z6.at0 3 rfl
 have e4:=z6.at0 4 rfl
 have e5:=z6.at0 5 rfl
 have e6:=z6.at0 6 rfl
 have e7:=z6.at0 7 rfl
 have e8:=z6.at0 8 rfl
 have gg:Below w.heap.size w (w2.alloc (.cells #[.int .i64 0,.int .u64 65536,.int .i64 0,.int .i64 St] 37)):=Z4 jM _
 have m6:=((((((((((m3.alloc (.cells #[.int .i64 0,.int .u64 65536,.int .i64 0,.int .i64 St] 37)).ZX nb 0 (.int .i64 4)).ZX nb 1 (.int .i64 n)).ZX nb 2 (.int .i64 12)).ZX nb 3 (.int .i64 40)).ZX nb 4 (.int .i64 100)).ZX nb 5 (.int .i64 600)).ZX nb 6 (.int .i64 3)).ZX nb 7 (.pointer (some ⟨L.p,0,none⟩))).ZX nb 8 (.int .i64 0)).below ((Below.refl _ _).drew)
 have g6:=grow (Z7 (Z7 (Z7 (Z7 (Z7 (Z7 (Z7 (Z7 (Z7 (gg) (Nat.le_refl _) 0 (.int .i64 4)) (Nat.le_refl _) 1 (.int .i64 n)) (Nat.le_refl _) 2 (.int .i64 12)) (Nat.le_refl _) 3 (.int .i64 40)) (Nat.le_refl _) 4 (.int .i64 100)) (Nat.le_refl _) 5 (.int .i64 600)) (Nat.le_refl _) 6 (.int .i64 3)) (Nat.le_refl _) 7 (.pointer (some ⟨L.p,0,none⟩))) (Nat.le_refl _) 8 (.int .i64 0)) ((Below.refl _ _).drew)
 clear z0 z1 z2 z3 z4 z6 d3 m2 m3 q0 q1 d0 d1 jU jT kb2 jS jR jQ jP jO kb8 bf a0 a1 a2 a3 a4 a5 a6 a7 a8 af m1
 generalize hW:((((((((((w2.alloc (.cells #[.int .i64 0,.int .u64 65536,.int .i64 0,.int .i64 St] 37)).setCell ⟨w.heap.size,0,none⟩ (.int .i64 4)).setCell ⟨w.heap.size,1,none⟩ (.int .i64 n)).setCell ⟨w.heap.size,2,none⟩ (.int .i64 12)).setCell ⟨w.heap.size,3,none⟩ (.int .i64 40)).setCell ⟨w.heap.size,4,none⟩ (.int .i64 100)).setCell ⟨w.heap.size,5,none⟩ (.int .i64 600)).setCell ⟨w.heap.size,6,none⟩ (.int .i64 3)).setCell ⟨w.heap.size,7,none⟩ (.pointer (some ⟨L.p,0,none⟩))).setCell ⟨w.heap.size,8,none⟩ (.int .i64 0)).drew=W at e0 e1 e2 e3 e4 e5 e6 e7 e8 m6 g6 ⊢
 clear hW gg
 refine bodyPost_ret (v:=.tuple #[.agg #[.int .i64 4,.int .i64 n,.int .i64 12,.int .i64 40,.int .i64 100,.int .i64 600,.int .i64 3,.pointer (some ⟨L.p,0,none⟩),.int .i64 0],.int .u64 65536,.bool true]) (by simp[results,Tryz.results9,go_sem,e0,e1,e2,e3,e4,e5,e6,e7,e8]) rfl ?_
 exact⟨L,s2,σ2,F,rfl,fun K Jm hJ=>⟨m6,v3,jL (by decide) (by decide) HN.out.1 hF1 hF2,rfl,xE hJ,Nat.le_refl _,rfl,fun _=>⟨tK,fun _=>⟨rfl,rfl,rfl⟩⟩,oL 4 n 12 40⟩,g6,lw,by have:=HN.out.2;omega,hF2⟩
end
end Go.Proofs.YtpbghmeikcphnaaGreat
