import Derived.Test.YtgehjolndmgffaaGreatAccAt
import Derived.Test.YtgehjolndmgffaaGreatWrkLeaf
import Derived.Test.YtgehjolndmgffaaGreatAllocSolo
import Derived.Test.YtgehjolndmgffaaGreatLstRec
namespace Go.Proofs.YtgehjolndmgffaaGreat
open Go.RowKit
section
theorem Je (cg v:Int):Y1 cg v % 8=0\/Y1 cg v % 8=3:=by
 unfold Y1
 have hg:=UO v
 split
 . have:=VM (st:=3) (A:=0) (G:=ZE v) (V:=0) (by decide) (by decide) hg (by decide)
   exact Or.inr this.1
 . left
   unfold Zq
   rw[Ze 0 3 (by omega) (by decide),Ze 0 20 (by omega) (by decide),Ze 0 22 (by omega) (by decide)]
   omega
inductive X7 (t n k m:Nat) (cg:Int) (own:Bool) (x G:Nat):Nat->Q->Dp->Q->Dp->Prop where
 | one {q:Q} {α:Dp} {q':Q} {α':Dp} (ho:α.ZB=false) (hg:α.good t n k m x G q) (ht:Zt t n k m cg own x G q α=(q',α')) (h:α'.ZB=true):X7 t n k m cg own x G 1 q α q' α'
 | more {N:Nat} {q:Q} {α:Dp} {q1:Q} {α1:Dp} {q':Q} {α':Dp} (ho:α.ZB=false) (hg:α.good t n k m x G q) (ht:Zt t n k m cg own x G q α=(q1,α1)) (h:α1.ZB=false) (hw:∀ Z i η,α=.fin Z i η->α1=.count Z i->q1.sw x≠q.sw x) (g:X7 t n k m cg own x G N q1 α1 q' α'):X7 t n k m cg own x G (N+1) q α q' α'
section
variable {t n k m:Nat} {cg:Int} {own:Bool} {x G:Nat}
theorem Jd {q:Q} {v:Int} {Z i:Nat} (O:∃ i,Xe t n k m v Z i) (hdw:∀ a,Wd (q.dw a)) (hc:∀ j,j<Z->frozenIn (q.dw (ZN v+1+j)) (Zz v)=false) {M:Nat} {q':Q} {α':Dp} (g:X7 t n k m cg own x G M (q.fz (ZN v) (Zz v) Z) (.fin Z i (.go v Z Z none)) q' α'):∀ d j,j+d=Z->X7 t n k m cg own x G (2 * d+M) (q.fz (ZN v) (Zz v) j) (.fin Z i (.go v Z j none)) q' α':=by
 intro d
 induction d with
 | zero =>
  intro j hj;obtain rfl:j=Z:=by omega
  rw[Nat.mul_zero,Nat.zero_add];exact g
 | succ d ih =>
  intro j hj
  have hlt:¬ Z<=j:=by omega
  rw[show 2 * (d+1)+M=(2 * d+M)+1+1 by omega]
  refine .more (q1:=q.fz (ZN v) (Zz v) j) (α1:=.fin Z i (.go v Z j (some (q.dw (ZN v+1+j))))) rfl ⟨⟨O,fun u hu=>by cases hu⟩,rfl⟩ ?_ rfl (fun _ _ _ e1 e2=>by first | (cases e1;done) | (cases e2;done)) (.more (q1:=q.fz (ZN v) (Zz v) (j+1)) (α1:=.fin Z i (.go v Z (j+1) none)) rfl ⟨⟨O,fun u hu=>by cases hu;exact hdw _⟩,rfl⟩ ?_ rfl (fun _ _ _ e1 e2=>by first | (cases e1;done) | (cases e2;done)) (ih (j+1) (by omega)))
  . have e:(q.fz (ZN v) (Zz v) j).dw (ZN v+1+j)=q.dw (ZN v+1+j):=F5 _ _ _ _
    simp only[Zt,YG,hlt,if_false,e,hc j (by omega)]
    rfl
  . have e:(q.fz (ZN v) (Zz v) j).dw (ZN v+1+j)=q.dw (ZN v+1+j):=F5 _ _ _ _
    simp only[Zt,YG,hlt,if_false,e,if_true]
    have:=FZ q.dw (ZN v) (Zz v) j
    simp only[Q.fz,Si,this]
theorem MB {q:Q} {v:Int} {Z i:Nat} (O:Xe t n k m v Z i) (hdw:∀ a,Wd (q.dw a)) (hv:Zz v<4194303) (hc:∀ j,j<Z->frozenIn (q.dw (ZN v+1+j)) (Zz v+1)=false) (hw:q.sw x=v) {M:Nat} {q':Q} {α':Dp} (g:X7 t n k m cg own x G M { q with sw:=upd q.sw x (Y1 cg v),dw:=QQ q.dw (ZN v) (Zz v+1) Z } (.count Z i) q' α'):X7 t n k m cg own x G (2 * Z+(M+1)+1) q (.mark v Z) q' α':=by
 obtain⟨d1,d2,d3,d4⟩:=RV hv
 have O':=O.mark hv
 have ci:(Zd t n k m (ZN v)).toNat=i:=by rw[O.c1];simp
 refine .more (q1:={ q with sw:=upd q.sw x (YC v) }) (α1:=.fin Z i (.go (YC v) Z 0 none)) rfl ⟨i,O⟩ ?_ rfl (fun _ _ _ e1 e2=>by first | (cases e1;done) | (cases e2;done)) ?_
 . simp only[Zt,hw,if_true,ci]
 . have f  :=Jd (cg:=cg) (own:=own) (x:=x) (G:=G) (i:=i) (q:={ q with sw:=upd q.sw x (YC v) }) (v:=YC v) (Z:=Z) ⟨i,O'⟩ hdw (fun j hj=>by rw[d2,d4];exact hc j hj) (M:=M+1) (q':=q') (α':=α') ?_ Z 0 (by omega)
   . rwa [show Q.fz { q with sw:=upd q.sw x (YC v) } (ZN (YC v)) (Zz (YC v)) 0={ q with sw:=upd q.sw x (YC v) } by unfold Q.fz;rw[uC]] at f
   . have ne:¬ upd q.sw x (Y1 cg v) x=upd q.sw x (YC v) x:=by
      rw[upd_same,upd_same]
      intro h
      have h1:=d1
      rw[<- h] at h1
      rcases Je cg v with k | k <;> omega
     refine .more (q1:={ q with sw:=upd q.sw x (Y1 cg v),dw:=QQ q.dw (ZN v) (Zz v+1) Z }) (α1:=.count Z i) rfl ⟨⟨⟨i,O'⟩,fun u hu=>by cases hu⟩,rfl⟩ ?_ rfl (fun _ _ _ _ _ h=>ne h) g
     have e:(Q.fz { q with sw:=upd q.sw x (YC v) } (ZN (YC v)) (Zz (YC v)) Z).sw x=YC v:=upd_same _ _ _
     simp only[Zt,YG,Nat.le_refl,if_true,TM,e,Si]
     simp only[Q.fz,d2,d4,PN,Ol hv]
theorem Me {q:Q} (Vw:x∉q.F) (hh:hd q.F<=n):X7 t n k m cg own x G 3 q (.give .idle) { q with c:=q.c+1,lk:=upd q.lk x (hd q.F),F:=x :: q.F } (.over 0):=by
 refine .more (q1:=q) (α1:=.give (.Vl (hd q.F) q.c)) rfl ⟨Vw,trivial,rfl⟩ rfl rfl (fun _ _ _ e1 e2=>by first | (cases e1;done) | (cases e2;done)) (.more (q1:={ q with lk:=upd q.lk x (hd q.F) }) (α1:=.give (.TL (hd q.F) q.c)) rfl ⟨Vw,⟨hh,Nat.le_refl _,fun _=>rfl⟩,rfl⟩ rfl rfl (fun _ _ _ e1 e2=>by first | (cases e1;done) | (cases e2;done)) (.one rfl ⟨Vw,⟨hh,upd_same _ _ _,Nat.le_refl _,fun _=>rfl⟩,rfl⟩ ?_ rfl))
 simp only[Zt,YM,if_true,RZ]
theorem Oj {q:Q} {Z i:Nat} (z1:1<=Z) (z2:Z<=16) (hik:i<k) (hlv:room (ZR Z).toNat<=q.lv i) (Vw:x∉q.F) (hh:hd q.F<=n) (hl:(G:Int)<cg):X7 t n k m cg own x G 4 q (.count Z i) { q with lv:=upd q.lv i (q.lv i - room (ZR Z).toNat),c:=q.c+1,lk:=upd q.lk x (hd q.F),F:=x :: q.F } (.over 0):=by
 refine .more (q1:={ q with lv:=upd q.lv i (q.lv i - room (ZR Z).toNat) }) (α1:=.give .idle) rfl ⟨z1,z2,hik,hlv⟩ ?_ rfl (fun _ _ _ e1 e2=>by first | (cases e1;done) | (cases e2;done)) (Me (q:={ q with lv:=upd q.lv i (q.lv i - room (ZR Z).toNat) }) Vw hh)
 simp only[Zt,show ¬ cg<=(G:Int) by omega,if_false]
theorem Jc {q:Q} {Z i:Nat} (O:Xe t n k m (q.sw x) Z i) (hz:Ws (q.dw (ZN (q.sw x)))=Z) (ho:Yi (q.dw (ZN (q.sw x)))=own) (hG:ZE (q.sw x)=G) (h4:q.sw x % 8≠4) {M:Nat} {q':Q} {α':Dp} (g:X7 t n k m cg own x G M q (.mark (q.sw x) Z) q' α'):X7 t n k m cg own x G (M+1+1) q .see q' α':=by
 refine .more (q1:=q) (α1:=.ask (q.sw x)) rfl (fun _ _=>⟨i,by rw[hz];exact O⟩) ?_ rfl (fun _ _ _ e1 e2=>by first | (cases e1;done) | (cases e2;done)) (.more (q1:=q) (α1:=.mark (q.sw x) Z) rfl ⟨i,by rw[hz];exact O⟩ ?_ rfl (fun _ _ _ e1 e2=>by first | (cases e1;done) | (cases e2;done)) g)
 . simp only[Zt,O.life,hG,decide_true,Bool.and_self,if_true]
 . simp only[Zt,Sj,ho,beq_self_eq_true,if_true,h4,if_false,hz]
theorem MJ {q:Q} {Z i:Nat} (O:Xe t n k m (q.sw x) Z i) (hdw:∀ a,Wd (q.dw a)) (hz:Ws (q.dw (ZN (q.sw x)))=Z) (ho:Yi (q.dw (ZN (q.sw x)))=own) (hG:ZE (q.sw x)=G) (h4:q.sw x % 8≠4) (hv:Zz (q.sw x)<4194303) (hc:∀ j,j<Z->frozenIn (q.dw (ZN (q.sw x)+1+j)) (Zz (q.sw x)+1)=false) (hlv:room (ZR Z).toNat<=q.lv i) (Vw:x∉q.F) (hh:hd q.F<=n) (hl:(G:Int)<cg):X7 t n k m cg own x G (2 * Z+8) q .see (q.gone cg x (q.sw x) Z i) (.over 0) :=
 Jc O hz ho hG h4 (MB O hdw hv hc rfl (Oj (q:={ q with sw:=upd q.sw x (Y1 cg (q.sw x)),dw:=QQ q.dw (ZN (q.sw x)) (Zz (q.sw x)+1) Z }) O.z1 O.z2 O.ik hlv Vw hh hl))
end
end
section
inductive Yh (t n k m:Nat) (cg:Int):Nat->Nat->Q->Dw->Nat->Q->Dw->Prop where
 | one {σ:Nat} {q:Q} {δ:Dw} {q':Q} {δ':Dw} (hn:δ.need t n k m cg q) (ht:YI t n k m cg σ q δ=(q',δ')) (h:δ'.ZB=true):Yh t n k m cg 1 σ q δ (σ+δ.cost) q' δ'
 | more {N σ:Nat} {q:Q} {δ:Dw} {q1:Q} {δ1:Dw} {σ':Nat} {q':Q} {δ':Dw} (hn:δ.need t n k m cg q) (ht:YI t n k m cg σ q δ=(q1,δ1)) (h:δ1.ZB=false) (g:Yh t n k m cg N (σ+δ.cost) q1 δ1 σ' q' δ'):Yh t n k m cg (N+1) σ q δ σ' q' δ'
section
variable {t n k m:Nat} {cg:Int} {who N σ σ':Nat} {q q':Q} {δ δ':Dw} {pn:Nat->Int}
theorem Bh {q1:Q} {δ1:Dw} (ht:YI t n k m cg σ q δ=(q1,δ1)):Wj t n k m cg who ⟨σ,q,pn,3,δ⟩=⟨σ+δ.cost,q1,pn,if δ1.ZB then 4 else 3,δ1⟩:=by
 show As.mk _ _ _ _ _=_
 rw[ht]
theorem Yh.as (g:Yh t n k m cg N σ q δ σ' q' δ'):X9 t n k m cg who (N+1) ⟨σ,q,pn,3,δ⟩ ⟨σ'+1,q',upd pn who 0,5,δ'⟩:=by
 induction g with
 | one hn ht h =>
  refine .more (by show 3≠5;omega) (fun _=>hn) (Bh ht) (by rw[h];show 4≠5;omega) ?_
  rw[h,if_pos rfl]
  exact .one (by show 4≠5;omega) (fun e=>absurd e (by show ¬ 4=3;omega)) rfl rfl
 | more hn ht h g ih =>
  refine .more (by show 3≠5;omega) (fun _=>hn) (Bh ht) (by rw[h];show 3≠5;omega) ?_
  rw[h,if_neg (by decide)]
  exact ih
theorem Yh.all (g:Yh t n k m cg N (σ+3) q δ σ' q' δ'):X9 t n k m cg who (N+4) ⟨σ,q,pn,0,δ⟩ ⟨σ'+1,q',upd pn who 0,5,δ'⟩:=by
 have r:=g.as (who:=who) (pn:=upd pn who 1)
 rw[PN] at r
 exact .more (by show 0≠5;omega) (fun e=>absurd e (by show ¬ 0=3;omega)) rfl (by show 1≠5;omega) (.more (by show 1≠5;omega) (fun e=>absurd e (by show ¬ 1=3;omega)) rfl (by show 2≠5;omega) (.more (by show 2≠5;omega) (fun e=>absurd e (by show ¬ 2=3;omega)) rfl (by show 3≠5;omega) r))
theorem UT {κ:Nat} {z:Int} {own:Bool} {α α':Al} (g:Tz t n k m κ z own N σ q α q' α'):Yh t n k m cg N σ q (.al z own κ α) (σ+N) q' (.al z own κ α'):=by
 induction g with
 | one ho ht h=>exact .one trivial (by simp only[YI,ht]) h
 | more ho ht h g ih =>
  rename_i N σ q α q1 α1 q' α'
  rw[show σ+(N+1)=σ+1+N by omega]
  exact .more (q1:=q1) (δ1:=.al z own κ α1) trivial (by simp only[YI,ht]) h ih
theorem DT {nu:Int} {own:Bool} {x G:Nat} {α α':Dp} (g:X7 t n k m cg own x G N q α q' α'):∀ σ,Yh t n k m cg N σ q (.dp nu own x G α) (σ+N) q' (.dp nu own x G α'):=by
 induction g with
 | one ho hg ht h=>exact fun σ=>.one ⟨hg,fun Z i η _ e=>by rw[ht] at e;simp only at e;rw[e] at h;cases h⟩ (by simp only[YI,ht]) h
 | more ho hg ht h hw g ih =>
  rename_i N q α q1 α1 q' α'
  intro σ
  rw[show σ+(N+1)=σ+1+N by omega]
  exact .more (q1:=q1) (δ1:=.dp nu own x G α1) ⟨hg,fun Z i η e1 e2=>by rw[ht] at e2 ⊢;exact hw Z i η e1 e2⟩ (by simp only[YI,ht]) h (ih (σ+1))
theorem Ou {nu:Int} {own:Bool} {x G:Nat} {α α':Dp} (g:Uh t n k m cg own x G N q α q' α'):∀ σ,Yh t n k m cg N σ q (.dp nu own x G α) (σ+N) q' (.dp nu own x G α'):=by
 induction g with
 | one ho hr hg ht h=>exact fun σ=>.one ⟨hg,fun Z i η e _=>by rw[e] at hr;cases hr⟩ (by simp only[YI,ht]) h
 | more ho hr hg ht h g ih =>
  rename_i N q α q1 α1 q' α'
  intro σ
  rw[show σ+(N+1)=σ+1+N by omega]
  exact .more (q1:=q1) (δ1:=.dp nu own x G α1) ⟨hg,fun Z i η e _=>by rw[e] at hr;cases hr⟩ (by simp only[YI,ht]) h (ih (σ+1))
theorem VL {W:Wt} {own:Bool} {x G:Nat} {b:Bool} {α α':Ac} (g:UY t n k m W own x G b N σ q α q' α'):Yh t n k m cg N σ q (.ac W own x G α) (σ+N) q' (.ac W own x G α'):=by
 induction g with
 | one hb ho hg ht h=>exact .one hg (by simp only[YI,ht]) h
 | more hb ho hg ht h g ih =>
  rename_i N σ q α q1 α1 q' α'
  rw[show σ+(N+1)=σ+1+N by omega]
  exact .more (q1:=q1) (δ1:=.ac W own x G α1) hg (by simp only[YI,ht]) h ih
theorem Sv (c:Nat) (E:Int):Yh t n k m cg 1 σ q (.bad c E) σ q (.fin c E σ):=.one trivial rfl rfl
end
end
section
def X8 (n:Nat) (q:Q) (ls:List Ox):Prop:=∀ x,x<n->x∈q.F\/∃ o∈ls,o.x=x
section
variable {t n k m nx:Nat} {q:Q} {gen:Nat->Nat} {ls:List Ox} {cg:Int}
theorem Ox.words {o o':Ox} (K:o.ok t n k m) (K':o'.ok t n k m) (h:o.apart o') {j j':Nat} (hj:j<=o.Z) (hj':j'<=o'.Z):o.a+j≠o'.a+j':=by
 have r1:=Yv K.z1 K.kz
 have r2:=Yv K'.z1 K'.kz
 have u1:=K.uk
 have u2:=K'.uk
 intro e
 rcases h.2 with h | h | h
 . refine Ox.YO K (j:=j) (i:=o'.i) (u:=o'.u+j') hj (by omega) (Or.inl h) ?_
   have:=K'.ae;omega
 . refine Ox.YO K (j:=j) (i:=o'.i) (u:=o'.u+j') hj (by omega) (Or.inr (by omega)) ?_
   have:=K'.ae;omega
 . refine Ox.YO K' (j:=j') (i:=o.i) (u:=o.u+j) hj' (by omega) (Or.inr (by omega)) ?_
   have:=K.ae;omega
theorem Zn.xX (C:Zn t n k m q nx gen ls) (hG:Good t n k m cg 600 3) (hn:n<=65535) (OO:X8 n q ls) {x G:Nat} (hx:x<n) (h:∀ o∈ls,¬ (o.x=x/\o.g=G)):(Y5 (q.sw x % 8) && decide (ZE (q.sw x)=G))=false:=by
 rcases OO x hx with hF | ⟨o,ho,rfl⟩
 . have e:=C.sw x hF
   have b:=(C.gb x hx).2
   have d:=VM (st:=0) (A:=0) (G:=gen x) (V:=0) (by decide) (by decide) b (by decide)
   rw[e,show Zq 0 0 (gen x:Int) 0=Zq ((0:Nat):Int) ((0:Nat):Int) (gen x) ((0:Nat):Int) from rfl,d.1]
   rfl
 . have I:=C.is hG hn ho
   have:¬ ZE (q.sw o.x)=G:=fun e=>h o ho ⟨rfl,by rw[<- I.gn];exact e⟩
   rw[decide_eq_false this,Bool.and_false]
theorem Zn.uniq (C:Zn t n k m q nx gen ls) {o o':Ox} (ho:o∈ls) (ho':o'∈ls) (e:o'.x=o.x):o'=o:=by
 obtain⟨l1,l2,rfl⟩:=List.append_of_mem ho
 have hap:∀ o',o'∈l1 ++ l2->o.apart o':=(List.pairwise_cons.1 ((List.pairwise_middle Ox.YN).1 C.pw)).1
 rcases List.mem_append.1 ho' with h | h
 . exact absurd e.symm (hap o' (by simp[h])).1
 . rcases List.mem_cons.1 h with h | h
   . exact h
   . exact absurd e.symm (hap o' (by simp[h])).1
theorem Zn.laid {l1 l2:List Ox} {o:Ox} (C:Zn t n k m q nx gen (l1 ++ o :: l2)) {j:Nat} (hj:j<o.Z) {v:Int} (h0:0<=v) (h1:v<=1099511627775):Zn t n k m { q with dw:=upd q.dw (o.a+1+j) v } nx gen (l1 ++ o :: l2):=by
 have ho:o∈l1 ++ o :: l2:=by simp
 have K:=C.ok o ho
 have hrm:=Yv K.z1 K.kz
 have hap:∀ o',o'∈l1 ++ l2->o.apart o':=(List.pairwise_cons.1 ((List.pairwise_middle Ox.YN).1 C.pw)).1
 have hw:∀ o',o'∈l1 ++ o :: l2->∀ j',j'<=o'.Z->o'.a+j'≠o.a+1+j\/(o'=o/\j'=1+j):=by
  intro o' h' j' hj'
  have:o'=o\/o'∈l1 ++ l2:=by
   rcases List.mem_append.1 h' with h | h
   . exact Or.inr (by simp[h])
   . rcases List.mem_cons.1 h with h | h
     . exact Or.inl h
     . exact Or.inr (by simp[h])
  rcases this with rfl | hm
  . by_cases e:j'=1+j
    . exact Or.inr ⟨rfl,e⟩
    . exact Or.inl (by omega)
  . refine Or.inl fun e=>?_
    exact Ox.words K (C.ok o' h') (hap o' hm) (j:=1+j) (by omega) hj' (by omega)
 refine⟨C.al,C.us,fun i hi u h2 h3=>?_,C.sw,C.gb,C.gn,C.ok,fun o' h'=>?_,C.pw,C.lv,fun b=>?_⟩
 . show upd q.dw _ _ _=0
   have hus:=(C.li o ho).us
   rw[ZX _ _ _ _ ?_]
   . exact C.dw i hi u h2 h3
   . intro e
     refine Ox.YO K (j:=1+j) (i:=i) (u:=u) (by omega) h3 ?_ (by omega)
     by_cases e:o.i=i
     . right;rw[e] at hus;exact Nat.le_trans hus h2
     . exact Or.inl e
 . have A:=C.li o' h'
   refine⟨A.nf,A.sw,?_,fun j' h2 h3=>?_,A.us⟩
   . show upd q.dw _ _ _=_
     rw[ZX _ _ _ _ ?_]
     . exact A.hw
     . rcases hw o' h' 0 (Nat.zero_le _) with e | ⟨_,e⟩
       . exact e
       . omega
   . show 0<=upd q.dw _ _ _/\upd q.dw _ _ _<=_
     rcases hw o' h' j' h3 with e | ⟨rfl,rfl⟩
     . rw[ZX _ _ _ _ e];exact A.nt j' h2 h3
     . rw[<- Nat.add_assoc,upd_same];exact⟨h0,h1⟩
 . show Wd (upd q.dw _ _ b)
   unfold upd
   split
   . exact⟨h0,Int.le_trans h1 (by decide)⟩
   . exact C.wb b
end
theorem YY.pack {nu:Int} {x G:Nat} (h:YY nu x G) (hx:x<=65535) (hG:G<=65535):nu=Zc x G:=by
 rw[XT x G hx hG]
 have:=h.x
 have:=h.g
 omega
theorem JZ {n:Nat} {nu:Int} (h:Wd nu):Ui n nu\/∃ x G:Nat,YY nu x G/\x<n/\G<=65535:=by
 by_cases h1:nu<65536\/4294967296<=nu
 . exact Or.inl ⟨h,Or.inl h1⟩
 . obtain⟨x,hx⟩:∃ x:Nat,nu % 65536=x:=⟨(nu % 65536).toNat,by omega⟩
   obtain⟨G,hG⟩:∃ G:Nat,nu / 65536=G:=⟨(nu / 65536).toNat,by omega⟩
   have H:YY nu x G:=⟨by omega,by omega,hx,hG⟩
   by_cases e:x<n
   . exact Or.inr ⟨x,G,H,e,by omega⟩
   . exact Or.inl ⟨h,Or.inr ⟨x,G,H,by omega⟩⟩
def XK (q q':Q) (ls:List Ox):Prop:=∀ o∈ls,∀ j,1<=j->j<=o.Z->q'.dw (o.a+j)=q.dw (o.a+j)
inductive Out (k:Nat) (X:Xa) (q:Q) (nx:Nat) (gen:Nat->Nat) (ls:List Ox):Int->Int->Int->Q->Nat->(Nat->Nat)->List Ox->Prop where
 | size (h:X.kd=1) (hz:ZR X.sz<0):Out k X q nx gen ls 5 0 0 q nx gen ls
 | empty (h:X.kd=1) (hz:0<=ZR X.sz) (hF:q.F=[]):Out k X q nx gen ls 7 0 0 q nx gen ls
 | full (h:X.kd=1) (hz:0<=ZR X.sz) (x:Nat) (F:List Nat) (hF:q.F=x :: F) (hk:nx=k):Out k X q nx gen ls 6 0 0 (q.back x F q.y) nx gen ls
 | made (h:X.kd=1) (hz:0<=ZR X.sz) (o:Ox) (q':Q) (nx':Nat) (hZ:X.sz=o.Z) (ho:o.own=X.own) (hF:q.F=o.x :: q'.F) (hg:o.g=gen o.x) (h0:∀ j,1<=j->j<=o.Z->q'.dw (o.a+j)=0) (hk:XK q q' ls) (hn:nx'<=nx+1):Out k X q nx gen ls 0 (Zc o.x o.g) 0 q' nx' gen (o :: ls)
 | dead (h:X.kd≠1) (hd:∀ o∈ls,X.nu=Zc o.x o.g->o.own≠X.own):Out k X q nx gen ls 3 0 0 q nx gen ls
 | gone (h:X.kd=2) (l1:List Ox) (o:Ox) (l2:List Ox) (e:ls=l1 ++ o :: l2) (hh:X.nu=Zc o.x o.g) (ho:o.own=X.own) (q':Q) (hF:q'.F=o.x :: q.F) (hk:XK q q' (l1 ++ l2)):Out k X q nx gen ls 0 0 0 q' nx (upd gen o.x (o.g+1)) (l1 ++ l2)
 | index (h:3<=X.kd) (o:Ox) (hm:o∈ls) (hh:X.nu=Zc o.x o.g) (ho:o.own=X.own) (hi:¬ (0<=X.ix/\X.ix<o.Z)):Out k X q nx gen ls 4 0 0 q nx gen ls
 | read (h:3<=X.kd) (o:Ox) (hm:o∈ls) (hh:X.nu=Zc o.x o.g) (ho:o.own=X.own) (j:Nat) (hj:X.ix=j) (hi:j<o.Z) (hr:X.kd=3):Out k X q nx gen ls 0 0 (q.dw (o.a+1+j)) q nx gen ls
 | other (h:3<=X.kd) (o:Ox) (hm:o∈ls) (hh:X.nu=Zc o.x o.g) (ho:o.own=X.own) (j:Nat) (hj:X.ix=j) (hi:j<o.Z) (hr:X.kd=5) (hv:q.dw (o.a+1+j)≠X.ol):Out k X q nx gen ls 8 0 (q.dw (o.a+1+j)) q nx gen ls
 | laid (h:3<=X.kd) (o:Ox) (hm:o∈ls) (hh:X.nu=Zc o.x o.g) (ho:o.own=X.own) (j:Nat) (hj:X.ix=j) (hi:j<o.Z) (hr:X.kd≠3) (hv:X.kd=5->q.dw (o.a+1+j)=X.ol):Out k X q nx gen ls 0 0 (q.dw (o.a+1+j)) { q with dw:=upd q.dw (o.a+1+j) X.vl } nx gen ls
def Ov (σ σ':Nat) (δ':Dw) (E H V:Int):Prop:=∀ (σ0 τ:Nat) (E' H' V' St:Int),σ0<σ->σ'<=τ->δ'.told σ0 τ E' H' V' St->E'=E/\H'=H/\V'=V/\(σ0:Int)<=St/\St<=(τ:Int)/\(E=0->(σ0:Int)<St)
structure xW (t n k m:Nat) (X:Xa) (σ:Nat) (q:Q) (nx:Nat) (gen:Nat->Nat) (ls:List Ox) (E H V:Int) (q':Q) (nx':Nat) (ZA:Nat->Nat) (ls':List Ox):Prop where
 out:Out k X q nx gen ls E H V q' nx' ZA ls'
 ex:∃ δ N σ' δ',YQ n X δ/\(N<=k+40/\(3<=X.kd->N<=4))/\σ'<=σ+400/\Yh t n k m 100 N σ q δ σ' q' δ'/\Ov σ σ' δ' E H V
 tm:Zn t n k m q' nx' ZA ls'
 cv:X8 n q' ls'
theorem uI {t n k m nx:Nat} {q:Q} {gen:Nat->Nat} {ls:List Ox} {s:Mm} {σ:Nat} (X:Xa) (hG:Good t n k m 100 600 3) (hT:YH t n s σ q.c q.lk q.F) (C:Zn t n k m q nx gen ls) (OO:X8 n q ls) (hg:∀ o∈ls,o.g<100) (h1:1<=X.kd) (h5:X.kd<=5) (hv:0<=X.vl/\X.vl<=1099511627775) (hz:Fit X.sz) (hu:Wd X.nu) (σ:Nat) :
 ∃ E H V q' nx' ZA ls',xW t n k m X σ q nx gen ls E H V q' nx' ZA ls':=by
 have hn:=hT.big
 by_cases k1:X.kd=1
 . by_cases hc:ZR X.sz<0
   . exact⟨5,0,0,q,nx,gen,ls,.size k1 hc,⟨_,1,σ,_,.Ag k1 hc,by omega,by omega,Sv 0 5,fun σ0 τ E' H' V' St h0 h1 ht=>by obtain⟨rfl,rfl,rfl,rfl⟩:=ht;exact⟨rfl,rfl,rfl,by omega,by omega,fun h=>by cases h⟩⟩,C,OO⟩
   . obtain⟨Z,κ,hZ,z1,z2,kz,hκ⟩:∃ Z κ:Nat,X.sz=Z/\1<=Z/\Z<=16/\ZR Z=κ/\κ<4:=by
      unfold ZR at hc
      have z0:1<=X.sz/\X.sz<=16:=by
       split at hc
       . exact absurd (by decide) hc
       . split at hc
         . omega
         . split at hc
           . omega
           . split at hc
             . omega
             . split at hc
               . omega
               . exact absurd (by decide) hc
      refine⟨X.sz.toNat,(ZR X.sz).toNat,by omega,by omega,by omega,?_,?_⟩
      . rw[show ((X.sz.toNat:Nat):Int)=X.sz by omega]
        have:0<=ZR X.sz:=by unfold ZR;omega
        omega
      . have:ZR X.sz<4:=by unfold ZR;omega
        omega
     have uH:ZR X.sz=κ:=by rw[hZ];exact kz
     have st:YQ n X (.al X.sz X.own κ (.take .idle)):=.al κ k1 hz uH hκ
     have c0:0<=ZR X.sz:=by omega
     cases hF:q.F with
     | nil =>
      exact⟨7,0,0,q,nx,gen,ls,.empty k1 c0 hF,⟨_,1,σ+1,_,st,by omega,by omega,UT (Qw hF),fun σ0 τ E' H' V' St h0 h1 ht=>by obtain⟨rfl,rfl,rfl,rfl⟩:=ht;exact⟨rfl,rfl,rfl,by omega,by omega,fun h=>by cases h⟩⟩,C,OO⟩
     | cons x F =>
      have hx:x<n:=hT.lt x (by rw[hF];simp)
      obtain⟨N,y',nx',τ',hN,go,g⟩:=Su (bs:=base t n k m) C.al hκ hG.n0 hG.k0 hG.k1
      have hk:=hG.k1
      rcases PT τ' with hf | ⟨A,i,rfl⟩ | rfl
      . cases g <;> cases hf
      . have r:=Qv (z:=X.sz) (own:=X.own) (σ:=σ) hF go
        have hgn:=C.Gf (by rw[hF];simp) hx
        rw[hgn] at r
        have C':=C.made (own:=X.own) hκ hG.n0 z1 z2 kz hF hT.nd hx g
        obtain⟨hik,ha,hu',⟨sp,hck⟩,hoth⟩:=g.F9 C.al hκ (by have:=Yg κ;have:=hG.n0;omega)
        have hrm:=Yv z1 kz
        have K:=C'.ok (q.ox gen x A i Z κ X.own) (by simp)
        have hap:=(List.pairwise_cons.1 C'.pw).1
        rw[<- hZ] at C'
        have tl:Ov σ (σ+(N+4+4)) (.al X.sz X.own κ (.over 0 (Zc x (gen x)) (σ+4+N+2+1))) 0 (Zc x (gen x)) 0:=fun σ0 τ E' H' V' St h0 h1 ht=>by
         obtain⟨e1,e2,e3,e4⟩:=ht
         exact⟨e1,e2,e3,by omega,by omega,fun _=>by omega⟩
        have ex:∃ δ N' σ' δ',YQ n X δ/\(N'<=k+40/\(3<=X.kd->N'<=4))/\σ'<=σ+400/\Yh t n k m 100 N' σ q δ σ' (q.made x F y' A i κ X.sz X.own) δ'/\Ov σ σ' δ' 0 (Zc x (gen x)) 0:=⟨_,N+4+4,σ+(N+4+4),_,st,by omega,by omega,UT r,tl⟩
        refine⟨0,Zc x (gen x),0,q.made x F y' A i κ X.sz X.own,nx',gen,q.ox gen x A i Z κ X.own :: ls,Out.made k1 c0 (q.ox gen x A i Z κ X.own) (q.made x F y' A i κ X.sz X.own) nx' hZ rfl hF rfl (fun j h1 h2=>?_) (fun o' ho' j h1 h2=>?_) (by cases g <;> omega),ex,C',fun v hv'=>?_⟩
        . have h2':j<=Z:=h2
          show upd (upd q.dw A _) A _ (A+j)=0
          rw[ZX _ _ _ _ (by omega),ZX _ _ _ _ (by omega),ha,Nat.add_assoc]
          exact C.dw i hik _ (by omega) (by omega)
        . show upd (upd q.dw A _) A _ (o'.a+j)=_
          have:=Ox.words K (C.ok o' ho') (hap o' ho') (j:=0) (j':=j) (Nat.zero_le _) h2
          have hne:o'.a+j≠A:=fun e=>this (by show A+0=_;omega)
          rw[ZX _ _ _ _ hne,ZX _ _ _ _ hne]
        . rcases OO v hv' with h | ⟨o',ho',e⟩
          . rw[hF] at h
            rcases List.mem_cons.1 h with rfl | h
            . exact Or.inr ⟨_,List.mem_cons_self,rfl⟩
            . exact Or.inl h
          . exact Or.inr ⟨o',List.mem_cons_of_mem _ ho',e⟩
      . obtain⟨qj,hnk⟩:y'=q.y/\nx=k:=by
         cases g with
         | none hno h=>exact⟨rfl,h⟩
        subst qj
        refine⟨6,0,0,q.back x F q.y,nx,gen,ls,.full k1 c0 x F hF hnk,⟨_,_,_,_,st,by omega,by omega,UT (Jj hF go),fun σ0 τ E' H' V' St h0 h1 ht=>by obtain⟨rfl,rfl,rfl,rfl⟩:=ht;exact⟨rfl,rfl,rfl,by omega,by omega,fun h=>by cases h⟩⟩,C.back hF,fun v hv'=>?_⟩
        have:=OO v hv'
        rw[hF] at this
        exact this
 . have he:∀ {x G:Nat},YY X.nu x G->x<n->G<=65535->(∃ o∈ls,o.x=x/\o.g=G)\/((Y5 (q.sw x % 8) && decide (ZE (q.sw x)=G))=false/\∀ o∈ls,X.nu=Zc o.x o.g->o.own≠X.own):=by
    intro x G hh hx hG'
    by_cases hl:∃ o∈ls,o.x=x/\o.g=G
    . exact Or.inl hl
    . have hno:∀ o∈ls,¬ (o.x=x/\o.g=G):=fun o ho e=>hl ⟨o,ho,e⟩
      refine Or.inr ⟨C.xX hG hn OO hx hno,fun o ho e=>absurd ?_ (hno o ho)⟩
      have K:=C.ok o ho
      have x1:=K.x1
      have g2:=K.g2
      have h1:=hh.x
      have h2:=hh.g
      rw[e,XT o.x o.g (by omega) g2] at h1 h2
      omega
   have ho2:∀ {o:Ox},o∈ls->X.nu=Zc o.x o.g->o.own≠X.own->∀ o'∈ls,X.nu=Zc o'.x o'.g->o'.own≠X.own:=by
    intro o ho ep hw o' ho' e
    have K:=C.ok o ho
    have K':=C.ok o' ho'
    have x1:=K.x1
    have x2:=K'.x1
    rw[ep,XT o.x o.g (by omega) K.g2,XT o'.x o'.g (by omega) K'.g2] at e
    rw[C.uniq ho ho' (by omega)]
    exact hw
   have hne:Ui n X.nu->∀ o∈ls,X.nu=Zc o.x o.g->o.own≠X.own:=by
    intro hno o ho e
    exfalso
    have K:=C.ok o ho
    have x1:=K.x1
    have g1:=K.g1
    have g2:=K.g2
    rw[XT o.x o.g (by omega) g2] at e
    rcases hno.2 with h | ⟨x,G,hh,hx⟩
    . omega
    . have:=hh.x;omega
   by_cases k2:X.kd=2
   . rcases JZ (n:=n) hu with hno | ⟨x,G,hh,hx,hG'⟩
     . exact⟨3,0,0,q,nx,gen,ls,.dead k1 (hne hno),⟨_,1,σ,_,.Af k2 hno,by omega,by omega,Sv 1 3,fun σ0 τ E' H' V' St h0 h1 ht=>by obtain⟨rfl,rfl,rfl,rfl⟩:=ht;exact⟨rfl,rfl,rfl,by omega,by omega,fun h=>by cases h⟩⟩,C,OO⟩
     . have tl:∀ (N:Nat) (E:Int),Ov σ (σ+N) (.dp X.nu X.own x G (.over E)) E 0 0:=fun N E σ0 τ E' H' V' St h0 h1 ht=>by
        obtain⟨rfl,rfl,rfl,h2,h3,h4⟩:=ht;exact⟨rfl,rfl,rfl,h2,h3,h4⟩
       rcases he hh hx hG' with⟨o,ho,rfl,rfl⟩ | ⟨hd,hd'⟩
       . have I:=C.is hG hn ho
         have hp:=hh.pack (by omega) hG'
         by_cases hw:o.own=X.own
         . obtain⟨l1,l2,rfl⟩:=List.append_of_mem ho
           have K:=C.ok o ho
           have z2:=K.z2
           have r:=MJ (cg:=100) (own:=X.own) I.obj C.wb I.sz (by rw[I.ow];exact hw) I.gn (by rw[I.st];decide) (by rw[I.vr];decide) I.cl (by rw[I.rm];exact C.room_le) (C.li o ho).nf hT.zX (by have:=hg o ho;omega)
           have hap:∀ o',o'∈l1 ++ l2->o.apart o':=(List.pairwise_cons.1 ((List.pairwise_middle Ox.YN).1 C.pw)).1
           refine⟨0,0,0,_,nx,_,_,.gone k2 l1 o l2 rfl hp hw (q.gone 100 o.x (q.sw o.x) o.Z o.i) rfl (fun o' ho' j h1 h2=>?_),⟨_,2 * o.Z+8,_,_,.dp k2 hh hx,by omega,by omega,DT r σ,tl _ 0⟩,C.gone hG hn (by have:=hg o ho;omega),fun v hv'=>?_⟩
           . have hm:o'∈l1 ++ o :: l2:=by
              rcases List.mem_append.1 ho' with h | h <;> simp[h]
             show QQ q.dw _ _ _ (o'.a+j)=_
             rw[I.ad,Tf]
             rintro⟨h3,h4⟩
             exact Ox.words K (C.ok o' hm) (hap o' ho') (j:=o'.a+j - o.a) (j':=j) (by omega) h2 (by omega)
           . show v∈o.x :: q.F\/_
             rcases OO v hv' with h | ⟨o',ho',e⟩
             . exact Or.inl (List.mem_cons_of_mem _ h)
             . rcases List.mem_append.1 ho' with h3 | h3
               . exact Or.inr ⟨o',List.mem_append_left _ h3,e⟩
               . rcases List.mem_cons.1 h3 with rfl | h3
                 . exact Or.inl (by rw[e];simp)
                 . exact Or.inr ⟨o',List.mem_append_right _ h3,e⟩
         . refine⟨3,0,0,q,nx,gen,ls,.dead k1 (fun o' ho' e=>?_),⟨_,2,_,_,.dp k2 hh hx,by omega,by omega,Ou (Ot I.obj I.sz I.gn (by rw[I.ow];exact hw)) σ,tl _ 3⟩,C,OO⟩
           exact ho2 ho hp hw o' ho' e
       . exact⟨3,0,0,q,nx,gen,ls,.dead k1 hd',⟨_,1,_,_,.dp k2 hh hx,by omega,by omega,Ou (MI hd) σ,tl _ 3⟩,C,OO⟩
   . have k3:3<=X.kd:=by omega
     have fv:Fit X.vl:=⟨by omega,by omega⟩
     rcases JZ (n:=n) hu with hno | ⟨x,G,hh,hx,hG'⟩
     . exact⟨3,0,0,q,nx,gen,ls,.dead k1 (hne hno),⟨_,1,σ,_,.Ae k3 h5 hno,by omega,by omega,Sv 2 3,fun σ0 τ E' H' V' St h0 h1 ht=>by obtain⟨rfl,rfl,rfl,rfl⟩:=ht;exact⟨rfl,rfl,rfl,by omega,by omega,fun h=>by cases h⟩⟩,C,OO⟩
     . have st:=YQ.ac (n:=n) k3 h5 fv hh hx
       have tl:∀ (N st:Nat) (E V:Int),σ<st->st<=σ+N->Ov σ (σ+N) (.ac ⟨X.kd - 2,X.nu,X.ix,X.vl,X.ol⟩ X.own x G (.over E V st)) E 0 V:=fun N st E V hs1 hs2 σ0 τ E' H' V' St h0 h1 ht=>by
        obtain⟨e1,e2,e3,e4⟩:=ht
        exact⟨e1,e2,e3,by omega,by omega,fun _=>by omega⟩
       rcases he hh hx hG' with⟨o,ho,rfl,rfl⟩ | ⟨hd,hd'⟩
       . have I:=C.is hG hn ho
         have hp:=hh.pack (by omega) hG'
         have S:=C.ql hG hn ho
         by_cases hw:o.own=X.own
         . by_cases hi:0<=X.ix/\X.ix<o.Z
           . obtain⟨j,hj⟩:∃ j:Nat,X.ix=j:=⟨X.ix.toNat,by omega⟩
             have vC:j<o.Z:=by omega
             have hat:Wt.at ⟨X.kd - 2,X.nu,X.ix,X.vl,X.ol⟩ (q.sw o.x)=o.a+1+j:=by
              show ZN (q.sw o.x)+1+X.ix.toNat=_
              rw[I.ad,hj];rfl
             have vb:=(C.li o ho).nt (1+j) (by omega) (by omega)
             rw[<- Nat.add_assoc] at vb
             obtain⟨c,hc⟩:∃ c,q.dw (o.a+1+j)=c:=⟨_,rfl⟩
             rw[hc] at vb
             have hcW:q.dw (Wt.at ⟨X.kd - 2,X.nu,X.ix,X.vl,X.ol⟩ (q.sw o.x))=c:=by rw[hat];exact hc
             have Oq:=DW vb.1 vb.2
             rw[hw] at S
             by_cases hr3:X.kd=3
             . have r:=S.reads (W:=⟨X.kd - 2,X.nu,X.ix,X.vl,X.ol⟩) (σ:=σ) hi.1 hi.2 hcW (by
                show (decide (X.kd - 2=1) || _)=true
                rw[decide_eq_true (by omega),Bool.true_or])
               have ho':Wt.other ⟨X.kd - 2,X.nu,X.ix,X.vl,X.ol⟩ c=false:=by
                show (decide (X.kd - 2=3) && _)=false
                rw[decide_eq_false (by omega),Bool.false_and]
               rw[ho',Oq,if_neg (by decide)] at r
               have O:=Out.read (k:=k) (nx:=nx) (gen:=gen) k3 o ho hp hw j hj vC hr3 (q:=q)
               rw[hc] at O
               exact⟨0,0,c,q,nx,gen,ls,O,⟨_,4,_,_,st,by omega,by omega,VL r,tl 4 _ 0 c (by omega) (by omega)⟩,C,OO⟩
             . by_cases xU:X.kd=5/\c≠X.ol
               . have ho':Wt.other ⟨X.kd - 2,X.nu,X.ix,X.vl,X.ol⟩ c=true:=by
                  show (decide (X.kd - 2=3) && decide (MX c≠X.ol))=true
                  rw[Oq,decide_eq_true (by omega),decide_eq_true xU.2];rfl
                 have r:=S.reads (W:=⟨X.kd - 2,X.nu,X.ix,X.vl,X.ol⟩) (σ:=σ) hi.1 hi.2 hcW (by
                  show (_ || Wt.other ⟨X.kd - 2,X.nu,X.ix,X.vl,X.ol⟩ c)=true
                  rw[ho',Bool.or_true])
                 rw[ho',Oq,if_pos rfl] at r
                 have O:=Out.other (k:=k) (nx:=nx) (gen:=gen) k3 o ho hp hw j hj vC xU.1 (q:=q) (by rw[hc];exact xU.2)
                 rw[hc] at O
                 exact⟨8,0,c,q,nx,gen,ls,O,⟨_,4,_,_,st,by omega,by omega,VL r,tl 4 _ 8 c (by omega) (by omega)⟩,C,OO⟩
               . have ho':Wt.other ⟨X.kd - 2,X.nu,X.ix,X.vl,X.ol⟩ c=false:=by
                  show (decide (X.kd - 2=3) && decide (MX c≠X.ol))=false
                  rw[Oq]
                  by_cases e5:X.kd=5
                  . rw[decide_eq_false (fun e=>xU ⟨e5,e⟩),Bool.and_false]
                  . rw[decide_eq_false (by omega),Bool.false_and]
                 have r:=S.lays (W:=⟨X.kd - 2,X.nu,X.ix,X.vl,X.ol⟩) (σ:=σ) hi.1 hi.2 hcW (by
                  show (decide (X.kd - 2=1) || Wt.other ⟨X.kd - 2,X.nu,X.ix,X.vl,X.ol⟩ c)=false
                  rw[ho',decide_eq_false (by omega)];rfl) (by rw[DU vb.2,Bool.false_and])
                 have hw':Wt.w ⟨X.kd - 2,X.nu,X.ix,X.vl,X.ol⟩=X.vl:=Jn hv.1 hv.2
                 rw[hat,hw',Oq] at r
                 have O:=Out.laid (k:=k) (nx:=nx) (gen:=gen) k3 o ho hp hw j hj vC hr3 (q:=q) (fun e=>by rw[hc];exact Classical.byContradiction fun h=>xU ⟨e,h⟩)
                 rw[hc] at O
                 refine⟨0,0,c,{ q with dw:=upd q.dw (o.a+1+j) X.vl },nx,gen,ls,O,⟨_,4,_,_,st,by omega,by omega,VL r,tl 4 _ 0 c (by omega) (by omega)⟩,?_,OO⟩
                 obtain⟨l1,l2,rfl⟩:=List.append_of_mem ho
                 exact C.laid vC hv.1 hv.2
           . rw[hw] at S
             have r:=S.index (W:=⟨X.kd - 2,X.nu,X.ix,X.vl,X.ol⟩) (σ:=σ) hi
             exact⟨4,0,0,q,nx,gen,ls,.index k3 o ho hp hw hi,⟨_,2,_,_,st,by omega,by omega,VL r,tl 2 _ 4 0 (by omega) (by omega)⟩,C,OO⟩
         . have r:=S.DX (W:=⟨X.kd - 2,X.nu,X.ix,X.vl,X.ol⟩) (σ:=σ) hw
           exact⟨3,0,0,q,nx,gen,ls,.dead k1 (ho2 ho hp hw),⟨_,2,_,_,st,by omega,by omega,VL r,tl 2 _ 3 0 (by omega) (by omega)⟩,C,OO⟩
       . have r:=MK (t:=t) (n:=n) (k:=k) (m:=m) (W:=⟨X.kd - 2,X.nu,X.ix,X.vl,X.ol⟩) (own:=X.own) (σ:=σ) hd
         exact⟨3,0,0,q,nx,gen,ls,.dead k1 hd',⟨_,1,_,_,st,by omega,by omega,VL r,tl 1 _ 3 0 (by omega) (by omega)⟩,C,OO⟩
end
section
def Ox.h (o:Ox):Int:=Zc o.x o.g
def Q.at (q:Q) (o:Ox) (j:Nat):Int:=q.dw (o.a+1+j)
def Q.put (q:Q) (o:Ox) (j:Nat) (v:Int):Q:={ q with dw:=upd q.dw (o.a+1+j) v }
section
variable {t n k m nx nx':Nat} {q q':Q} {gen ZA:Nat->Nat} {ls ls':List Ox} {X:Xa} {E H V:Int} {o:Ox} {j:Nat}
theorem Ox.zu (C:Zn t n k m q nx gen ls) (hn:n<=65535) (ho:o∈ls):o.h=o.x+o.g * 65536:=by
 have K:=C.ok o ho
 have:=K.x1
 exact XT o.x o.g (by omega) K.g2
theorem Zn.one (C:Zn t n k m q nx gen ls) (hn:n<=65535) {o':Ox} (ho:o∈ls) (ho':o'∈ls) (e:o'.h=o.h):o'=o:=by
 have K:=C.ok o ho
 have K':=C.ok o' ho'
 have x1:=K.x1
 have x2:=K'.x1
 rw[Ox.zu C hn ho,Ox.zu C hn ho'] at e
 exact C.uniq ho ho' (by omega)
theorem Ox.IB (C:Zn t n k m q nx gen ls) (hn:n<=65535) (ho:o∈ls):65536<=o.h/\o.h<4294967296:=by
 have K:=C.ok o ho
 have x1:=K.x1
 have g1:=K.g1
 have g2:=K.g2
 rw[Ox.zu C hn ho];omega
theorem Out.V9 (C:Zn t n k m q nx gen ls) (hn:n<=65535) (O:Out k X q nx gen ls E H V q' nx' ZA ls') (ho:o∈ls) (hX:X.kd=3) (hh:X.nu=o.h) (hw:o.own=X.own) (hj:X.ix=j) (hZ:j<o.Z):E=0/\H=0/\V=q.at o j/\q=q'/\nx=nx'/\gen=ZA/\ls=ls':=by
 cases O with
 | size h=>omega
 | empty h=>omega
 | full h=>omega
 | made h=>omega
 | dead h hd=>exact absurd hw (hd o ho hh)
 | gone h=>omega
 | index h o' hm h' ho' hi =>
  obtain rfl:=C.one hn ho hm (h'.symm.trans hh)
  omega
 | read h o' hm h' ho' j' hj' hi hr =>
  obtain rfl:=C.one hn ho hm (h'.symm.trans hh)
  obtain rfl:j'=j:=by omega
  exact⟨rfl,rfl,rfl,rfl,rfl,rfl,rfl⟩
 | other h o' hm h' ho' j' hj' hi hr=>omega
 | laid h o' hm h' ho' j' hj' hi hr=>omega
theorem Out.UK (C:Zn t n k m q nx gen ls) (hn:n<=65535) (O:Out k X q nx gen ls E H V q' nx' ZA ls') (ho:o∈ls) (hX:X.kd=4\/X.kd=5/\q.at o j=X.ol) (hh:X.nu=o.h) (hw:o.own=X.own) (hj:X.ix=j) (hZ:j<o.Z):E=0/\H=0/\V=q.at o j/\q'=q.put o j X.vl/\nx=nx'/\gen=ZA/\ls=ls':=by
 cases O with
 | size h=>omega
 | empty h=>omega
 | full h=>omega
 | made h=>omega
 | dead h hd=>exact absurd hw (hd o ho hh)
 | gone h=>omega
 | index h o' hm h' ho' hi =>
  obtain rfl:=C.one hn ho hm (h'.symm.trans hh)
  omega
 | read h o' hm h' ho' j' hj' hi hr=>omega
 | other h o' hm h' ho' j' hj' hi hr hv =>
  obtain rfl:=C.one hn ho hm (h'.symm.trans hh)
  obtain rfl:j'=j:=by omega
  rcases hX with hX | ⟨-,hX⟩
  . omega
  . exact absurd hX hv
 | laid h o' hm h' ho' j' hj' hi hr hv =>
  obtain rfl:=C.one hn ho hm (h'.symm.trans hh)
  obtain rfl:j'=j:=by omega
  exact⟨rfl,rfl,rfl,rfl,rfl,rfl,rfl⟩
theorem Out.Fz (C:Zn t n k m q nx gen ls) (hn:n<=65535) (O:Out k X q nx gen ls E H V q' nx' ZA ls') (ho:o∈ls) (hX:X.kd=2) (hh:X.nu=o.h) (hw:o.own=X.own):E=0/\H=0/\V=0/\nx'=nx/\ZA=upd gen o.x (o.g+1)/\∃ l1 l2,ls=l1 ++ o :: l2/\ls'=l1 ++ l2/\q'.F=o.x :: q.F/\XK q q' (l1 ++ l2):=by
 cases O with
 | size h=>omega
 | empty h=>omega
 | full h=>omega
 | made h=>omega
 | dead h hd=>exact absurd hw (hd o ho hh)
 | gone h l1 o' l2 e h' ho' q' hF hk =>
  obtain rfl:=C.one hn ho (by rw[e];simp) (h'.symm.trans hh)
  exact⟨rfl,rfl,rfl,rfl,rfl,l1,l2,e,rfl,hF,hk⟩
 | index h=>omega
 | read h=>omega
 | other h=>omega
 | laid h=>omega
theorem Out.make {Z:Nat} (O:Out k X q nx gen ls E H V q' nx' ZA ls') (hX:X.kd=1) (hz:X.sz=Z) (hc:0<=ZR X.sz):V=0/\gen=ZA/\(((E=6\/E=7)/\H=0/\ls=ls'/\XK q q' ls/\(q.F=[]\/nx=k))\/(E=0/\∃ o:Ox,H=o.h/\ls'=o :: ls/\o.Z=Z/\o.own=X.own/\o.g=gen o.x/\(∀ j,j<Z->q'.at o j=0)/\XK q q' ls)):=by
 cases O with
 | size h hz=>omega
 | empty h hz hF=>exact⟨rfl,rfl,Or.inl ⟨Or.inr rfl,rfl,rfl,fun _ _ _ _ _=>rfl,Or.inl hF⟩⟩
 | full h hz x F hF hk=>exact⟨rfl,rfl,Or.inl ⟨Or.inl rfl,rfl,rfl,fun _ _ _ _ _=>rfl,Or.inr hk⟩⟩
 | made h hz' o q' nx' hZ ho hF hg h0 hk hn =>
  refine⟨rfl,rfl,Or.inr ⟨rfl,o,rfl,rfl,by omega,ho,hg,fun j hj=>?_,hk⟩⟩
  have:=h0 (1+j) (by omega) (by omega)
  rw[<- Nat.add_assoc] at this
  exact this
 | dead h=>omega
 | gone h=>omega
 | index h=>omega
 | read h=>omega
 | other h=>omega
 | laid h=>omega
theorem Out.AQ (O:Out k X q nx gen ls E H V q' nx' ZA ls'):nx'<=nx+1:=by
 cases O with
 | made h hz o q' nx' hZ ho hF hg h0 hk hn=>exact hn
 | _=>exact Nat.le_succ _
theorem Out.CE (O:Out k X q nx gen ls E H V q' nx' ZA ls') (h1:X.kd≠1):nx'=nx:=by
 cases O with
 | made h=>exact absurd h h1
 | _=>rfl
theorem Zn.zt (C:Zn t n k m q nx gen ls) (C':Zn t n k m q nx' ZA ls'):nx=nx':=by
 have h1:=C.al.le
 have h2:=C'.al.le
 rcases Nat.lt_trichotomy nx nx' with h | h | h
 . have:=C'.al.CB nx h
   have:=(C.al.Tc nx (Nat.le_refl _) (by omega)).1
   omega
 . exact h
 . have:=C.al.CB nx' h
   have:=(C'.al.Tc nx' (Nat.le_refl _) (by omega)).1
   omega
def Ry (q:Q):Prop:=q.F=[]\/(q.y.ck 3).st=1
theorem Zn.tight (C:Zn t n k m q nx gen ls) (hk:4<=k) (h:q.F=[]\/nx=k):Ry q:=h.imp id fun e=>C.al.CB 3 (by omega)
theorem Zn.loose (C:Zn t n k m q nx gen ls) (hk:4<=k) (hn:nx<=3) (h:Ry q):q.F=[]:=h.resolve_right fun e=>by
 have:=(C.al.Tc 3 hn (by omega)).1
 omega
theorem Q.V8 (q:Q) (o:Ox) (j:Nat) (v:Int):(q.put o j v).at o j=v:=upd_same _ _ _
theorem Q.Pv (q:Q) (o:Ox) {j j':Nat} (h:j'≠j) (v:Int):(q.put o j v).at o j'=q.at o j':=ZX _ _ _ _ (by omega)
theorem Zn.Yn (C:Zn t n k m q nx gen ls) {o':Ox} (ho:o∈ls) (ho':o'∈ls) (hne:o'≠o) {j':Nat} (hj:j<o.Z) (hj':j'<o'.Z) (v:Int) {q2:Q}:(q2.put o j v).at o' j'=q2.at o' j':=by
 refine ZX _ _ _ _ (fun e=>?_)
 obtain⟨l1,l2,rfl⟩:=List.append_of_mem ho
 have hap:∀ o',o'∈l1 ++ l2->o.apart o':=(List.pairwise_cons.1 ((List.pairwise_middle Ox.YN).1 C.pw)).1
 have hm:o'∈l1 ++ l2:=by
  rcases List.mem_append.1 ho' with h | h
  . simp[h]
  . rcases List.mem_cons.1 h with h | h
    . exact absurd h hne
    . simp[h]
 exact Ox.words (C.ok o ho) (C.ok o' ho') (hap o' hm) (j:=1+j) (j':=1+j') (by omega) (by omega) (by omega)
theorem XK.at {q q':Q} {ls:List Ox} (h:XK q q' ls) {o:Ox} (ho:o∈ls) {j:Nat} (hj:j<o.Z):q'.at o j=q.at o j:=by
 have:=h o ho (1+j) (by omega) (by omega)
 rw[<- Nat.add_assoc] at this
 exact this
end
end
section
def Un:List Ox->Int->Int
 | [],e=>e
 | o :: _,_=>o.h
def Eb (q:Q):List Ox->Int->Prop
 | [],_=>True
 | o :: l,e=>q.at o 1=Un l e/\Eb q l e
theorem VE {q:Q} {l2:List Ox} {e:Int}:∀ {l1:List Ox},Eb q (l1 ++ l2) e↔Eb q l1 (Un l2 e)/\Eb q l2 e
 | []=>⟨fun h=>⟨trivial,h⟩,fun h=>h.2⟩
 | [o]=>by cases l2 <;> simp[Eb,Un]
 | o :: o' :: l=>by
  have ih:=VE (q:=q) (l2:=l2) (e:=e) (l1:=o' :: l)
  simp only[List.cons_append] at ih ⊢
  constructor
  . rintro⟨h1,h2⟩
    have:=ih.1 h2
    exact⟨⟨h1,this.1⟩,this.2⟩
  . rintro⟨⟨h1,h2⟩,h3⟩
    exact⟨h1,ih.2 ⟨h2,h3⟩⟩
theorem Eb.congr {q q':Q} {e:Int}:∀ {l:List Ox},Eb q l e->(∀ o∈l,q'.at o 1=q.at o 1)->Eb q' l e
 | [],_,_=>trivial
 | o :: _,h,g=>⟨(g o (by simp)).trans h.1,Eb.congr h.2 fun o' ho'=>g o' (by simp[ho'])⟩
structure Py (q:Q) (ls ch:List Ox):Prop where
 mem:∀ o∈ch,o∈ls/\o.own=true/\o.Z=2
 nd:ch.Nodup
 lk:Eb q ch 0
 kb:∀ o∈ch.tail,0<=q.at o 0/\q.at o 0<1073741824
 so:ch.tail.Pairwise (fun a b=>q.at a 0<q.at b 0)
def Has (q:Q) (ch:List Ox) (x:Int):Prop:=∃ o∈ch.tail,q.at o 0=x
theorem Py.other {q q':Q} {ls ls' ch:List Ox} (A:Py q ls ch) (h:∀ o∈ch,o∈ls'/\∀ j,j<2->q'.at o j=q.at o j):Py q' ls' ch:=by
 have ht:∀ o∈ch.tail,o∈ch:=fun o ho=>List.mem_of_mem_tail ho
 refine⟨fun o ho=>⟨(h o ho).1,(A.mem o ho).2⟩,A.nd,A.lk.congr fun o ho=>(h o ho).2 1 (by decide),fun o ho=>?_,?_⟩
 . rw[(h o (ht o ho)).2 0 (by decide)];exact A.kb o ho
 . refine A.so.imp_of_mem fun {a b} ha hb hab=>?_
   rw[(h a (ht a ha)).2 0 (by decide),(h b (ht b hb)).2 0 (by decide)];exact hab
theorem Has.other {q q':Q} {ch:List Ox} {x:Int} (h:∀ o∈ch,q'.at o 0=q.at o 0):Has q' ch x↔Has q ch x:=by
 have ht:∀ o∈ch.tail,o∈ch:=fun o ho=>List.mem_of_mem_tail ho
 constructor
 . rintro⟨o,ho,e⟩;exact⟨o,ho,(h o (ht o ho)).symm.trans e⟩
 . rintro⟨o,ho,e⟩;exact⟨o,ho,(h o (ht o ho)).trans e⟩
structure TG (q0:Q) (Zk c0:List Ox) (kd ky E v:Int) (q:Q) (ls ch:List Ox):Prop where
 cn:Py q ls ch
 hd:ch.head?=c0.head?
 ks:∀ x,Has q ch x↔if E=0/\kd≠1/\x=ky then kd=2 else Has q0 c0 x
 vl:E=0->(v=1/\(Has q0 c0 ky↔kd≠2))\/(v=0/\¬ (Has q0 c0 ky↔kd≠2))
 er:E≠0->(E=6\/E=7)/\kd=2/\Ry q0
 ot:∀ o∈Zk,o∉c0->o∈ls/\∀ j,j<o.Z->q.at o j=q0.at o j
 nw:∀ o∈ls,o∈Zk\/o∈ch
 sb:∀ o∈ch,o∈c0\/o∉Zk
 kp:∀ o∈ls,o∈c0->o∈ch
def ve (q0:Q) (Zk c0:List Ox) (kd ky:Int) (S:Lr) (q:Q) (ls:List Ox):Prop:=S.nx=13/\S.cH=0/\S.kd=kd/\∃ ch,TG q0 Zk c0 kd ky S.cE S.cV q ls ch
structure Nt (S:Lr) (kd ky nx:Int) (hd a:Ox) (l:List Ox):Prop where
 kd:S.kd=kd
 ky:S.ky=ky
 hd:S.hd=hd.h
 nx:S.nx=nx
 an:S.an=a.h
 al:S.al=Un l 0
 hn:S.hn=Un l 0
structure AP (q0:Q) (hd:Ox) (ct:List Ox) (ky:Int) (l1:List Ox) (a:Ox) (l2:List Ox):Prop where
 e:hd :: ct=l1 ++ a :: l2
 lo:∀ o∈(l1 ++ [a]).tail,q0.at o 0<ky
 up:∀ o∈l2,ky<q0.at o 0
inductive QI (k:Nat) (q0:Q) (Zk:List Ox) (hd:Ox) (ct:List Ox) (kd ky:Int):Lr->Q->List Ox->Nat->Prop where
 | first (S:Lr) (h1:S.kd=kd) (h2:S.ky=ky) (h3:S.hd=hd.h) (h4:S.nx=0) (h5:S.md=0):QI k q0 Zk hd ct kd ky S q0 Zk (16 * ct.length+8+(k+68))
 | link (S:Lr) (l1:List Ox) (a h:Ox) (l3:List Ox) (e:hd :: ct=l1 ++ a :: h :: l3) (lo:∀ o∈(l1 ++ [a]).tail,q0.at o 0<ky) (N:Nt S kd ky 1 hd a (h :: l3)) (h5:S.md=0):QI k q0 Zk hd ct kd ky S q0 Zk (16 * l3.length+16+(k+68))
 | key (S:Lr) (l1:List Ox) (a h:Ox) (l3:List Ox) (e:hd :: ct=l1 ++ a :: h :: l3) (lo:∀ o∈(l1 ++ [a]).tail,q0.at o 0<ky) (N:Nt S kd ky 4 hd a (h :: l3)) (h5:S.md=0) (h6:S.hl=Un l3 0):QI k q0 Zk hd ct kd ky S q0 Zk (16 * l3.length+8+(k+68))
 | make (S:Lr) (l1:List Ox) (a:Ox) (l2:List Ox) (g:AP q0 hd ct ky l1 a l2) (hk:kd=2) (N:Nt S kd ky 5 hd a l2) (h5:S.md=0):QI k q0 Zk hd ct kd ky S q0 Zk (k+68)
 | name (S:Lr) (l1:List Ox) (a:Ox) (l2:List Ox) (g:AP q0 hd ct ky l1 a l2) (hk:kd=2) (N:Nt S kd ky 6 hd a l2) (o:Ox) (h5:S.md=o.h) (ho:o∉Zk/\o.own=true/\o.Z=2) (q:Q) (kp:XK q0 q Zk):QI k q0 Zk hd ct kd ky S q (o :: Zk) 24
 | uY (S:Lr) (l1:List Ox) (a:Ox) (l2:List Ox) (g:AP q0 hd ct ky l1 a l2) (hk:kd=2) (N:Nt S kd ky 7 hd a l2) (o:Ox) (h5:S.md=o.h) (ho:o∉Zk/\o.own=true/\o.Z=2) (q:Q) (kp:XK q0 q Zk) (c0:q.at o 0=ky):QI k q0 Zk hd ct kd ky S q (o :: Zk) 16
 | JI (S:Lr) (l1:List Ox) (a:Ox) (l2:List Ox) (g:AP q0 hd ct ky l1 a l2) (hk:kd=2) (N:Nt S kd ky 8 hd a l2) (o:Ox) (h5:S.md=o.h) (ho:o∉Zk/\o.own=true/\o.Z=2) (q:Q) (kp:XK q0 q Zk) (c0:q.at o 0=ky) (c1:q.at o 1=Un l2 0):QI k q0 Zk hd ct kd ky S q (o :: Zk) 8
 | mark (S:Lr) (l1:List Ox) (a h:Ox) (l3:List Ox) (e:hd :: ct=l1 ++ a :: h :: l3) (hk:kd=3) (hh:q0.at h 0=ky) (N:Nt S kd ky 10 hd a (h :: l3)) (h5:S.md=0) (h6:S.hl=Un l3 0):QI k q0 Zk hd ct kd ky S q0 Zk (k+60)
 | unlink (S:Lr) (l1:List Ox) (a h:Ox) (l3:List Ox) (e:hd :: ct=l1 ++ a :: h :: l3) (hk:kd=3) (hh:q0.at h 0=ky) (N:Nt S kd ky 11 hd a (h :: l3)) (h6:S.hl=Un l3 0) (hc:S.cE=0/\S.cH=0/\S.cV=1):QI k q0 Zk hd ct kd ky S (q0.put h 1 (Un l3 0+4294967296)) Zk (k+52)
 | free (S:Lr) (l1:List Ox) (a h:Ox) (l3:List Ox) (e:hd :: ct=l1 ++ a :: h :: l3) (hk:kd=3) (hh:q0.at h 0=ky) (N:Nt S kd ky 12 hd a (h :: l3)) (hc:S.cE=0/\S.cH=0/\S.cV=1):QI k q0 Zk hd ct kd ky S ((q0.put h 1 (Un l3 0+4294967296)).put a 1 (Un l3 0)) Zk (k+44)
def cst (k:Nat) (X:Xa):Nat:=if 3<=X.kd then 8 else k+44
def tY (k:Nat) (q0:Q) (Zk:List Ox) (hd:Ox) (ct:List Ox) (kd ky:Int) (S:Lr) (q:Q) (ls:List Ox) (r:Nat):Prop:=(∃ r',r'<=r/\QI k q0 Zk hd ct kd ky S q ls r')\/ve q0 Zk (hd :: ct) kd ky S q ls
section
variable {t n k m nx:Nat} {q0:Q} {Tj:Nat->Nat} {Zk:List Ox} {hd:Ox} {ct:List Ox} {kd ky:Int} {S:Lr}
theorem Xr (l1:List Ox) (a:Ox) (l2:List Ox):(l1 ++ a :: l2).tail=(l1 ++ [a]).tail ++ l2:=by
 cases l1 <;> simp
theorem Vd (C:Zn t n k m q0 nx Tj Zk) (hn:n<=65535):∀ {l:List Ox},(∀ o∈l,o∈Zk)->0<=Un l 0/\Un l 0<4294967296/\(l≠[]->Un l 0≠0)
 | [],_=>⟨Int.le_refl _,by decide,fun h=>absurd rfl h⟩
 | o :: _,h=>by
  have b:=Ox.IB C hn (h o (by simp))
  refine⟨?_,?_,fun _=>?_⟩
  . show 0<=o.h;omega
  . show o.h<_;omega
  . show o.h≠0;omega
theorem fin_same (A:Py q0 Zk (hd :: ct)) {v:Int} (hv:(v=1/\(Has q0 (hd :: ct) ky↔kd≠2))\/(v=0/\¬ (Has q0 (hd :: ct) ky↔kd≠2))) (h2:kd=2->Has q0 (hd :: ct) ky) (h3:kd≠1->kd≠2->¬ Has q0 (hd :: ct) ky):TG q0 Zk (hd :: ct) kd ky 0 v q0 Zk (hd :: ct):=by
 refine⟨A,rfl,fun x=>?_,fun _=>hv,fun h=>absurd rfl h,fun o ho _=>⟨ho,fun _ _=>rfl⟩,fun o ho=>Or.inl ho,fun o ho=>Or.inl ho,fun _ _ h'=>h'⟩
 by_cases e:(0:Int)=0/\kd≠1/\x=ky
 . rw[if_pos e,e.2.2]
   by_cases hk:kd=2
   . exact iff_of_true (h2 hk) hk
   . exact iff_of_false (h3 e.2.1 hk) hk
 . rw[if_neg e]
theorem AP.no {l1 l2:List Ox} {a:Ox} (g:AP q0 hd ct ky l1 a l2):¬ Has q0 (hd :: ct) ky:=by
 rintro⟨o,ho,e⟩
 rw[g.e,Xr] at ho
 rcases List.mem_append.1 ho with h | h
 . have:=g.lo o h;omega
 . have:=g.up o h;omega
theorem JH (A:Py q0 Zk (hd :: ct)) {l1 l2:List Ox} {a:Ox} (g:AP q0 hd ct ky l1 a l2) {x:Int} (N:Nt S kd ky x hd a l2) (h5:S.md=0):tY k q0 Zk hd ct kd ky S.missing q0 Zk (k+68):=by
 by_cases hk:kd=2
 . have e:S.missing=S.lay 5:=by unfold Lr.missing;rw[if_pos (N.kd.trans hk),if_pos h5]
   rw[e]
   exact Or.inl ⟨_,Nat.le_refl _,.make _ l1 a l2 g hk ⟨N.kd,N.ky,N.hd,rfl,N.an,N.al,N.hn⟩ h5⟩
 . have e:S.missing=S.end_ 0 0 S.ax:=by unfold Lr.missing;rw[if_neg (fun h=>hk (N.kd.symm.trans h))]
   rw[e]
   refine Or.inr ⟨?_,rfl,N.kd,hd :: ct,fin_same A (Or.inr ⟨rfl,fun h=>g.no (h.2 hk)⟩) (fun h=>absurd h hk) (fun _ _=>g.no)⟩
   show (if S.md=0 then (13:Int) else 9)=13
   rw[if_pos h5]
theorem wP {H:Int} (a:65536<=H) (b:H<4294967296):H % 4294967296=H/\H≠0:=⟨Int.emod_eq_of_lt (by omega) b,by omega⟩
theorem NM (C:Zn t n k m q0 nx Tj Zk) (hn:n<=65535) (A:Py q0 Zk (hd :: ct)) {l1:List Ox} {a:Ox} {l:List Ox} (e:hd :: ct=l1 ++ a :: l) (lo:∀ o∈(l1 ++ [a]).tail,q0.at o 0<ky) (h1:S.kd=kd) (h2:S.ky=ky) (h3:S.hd=hd.h) (h5:S.md=0) (h6:S.an=a.h) (h7:S.al=Un l 0):tY k q0 Zk hd ct kd ky S.reach q0 Zk (16 * l.length+(k+68)):=by
 cases l with
 | nil =>
  have qX:S.al=0:=h7
  have hm:S.al % 4294967296=0:=by omega
  have er:S.reach=S.look.missing:=by unfold Lr.reach;rw[if_pos hm]
  rw[er]
  rw[show 16 * ([]:List Ox).length+(k+68)=k+68 by simp]
  exact JH (S:=S.look) A ⟨e,lo,fun o ho=>(by cases ho)⟩ (x:=S.nx) ⟨h1,h2,h3,rfl,h6,h7,hm⟩ h5
 | cons h l3 =>
  have hi:h∈Zk:=(A.mem h (by rw[e];simp)).1
  have b:=Ox.IB C hn hi
  have qX:S.al=h.h:=h7
  have hm:S.al % 4294967296=h.h:=by rw[qX];exact(wP b.1 b.2).1
  have er:S.reach=S.look.lay 1:=by unfold Lr.reach;rw[if_neg (by rw[hm];exact(wP b.1 b.2).2)]
  rw[er]
  exact Or.inl ⟨_,by simp only[List.length_cons];omega,.link _ l1 a h l3 e lo ⟨h1,h2,h3,rfl,h6,h7,hm⟩ h5⟩
theorem Py.next {l1 l2:List Ox} {a:Ox} (A:Py q0 Zk (hd :: ct)) (e:hd :: ct=l1 ++ a :: l2):q0.at a 1=Un l2 0:=by
 have h:=A.lk
 rw[e] at h
 exact(VE.1 h).2.1
theorem Py.MW (A:Py q0 Zk (hd :: ct)) {l1 l2:List Ox} {a:Ox} (e:hd :: ct=l1 ++ a :: l2):a∈Zk/\a.own=true/\a.Z=2:=A.mem a (by rw[e];simp)
theorem Cj (C:Zn t n k m q0 nx Tj Zk) (A:Py q0 Zk (hd :: ct)) {l1 l2:List Ox} {a o:Ox} (g:AP q0 hd ct ky l1 a l2) (h0:0<=ky) (h1:ky<1073741824) (ho:o∉Zk/\o.own=true/\o.Z=2) {q:Q} {nx':Nat} {ZA:Nat->Nat} (C':Zn t n k m q nx' ZA (o :: Zk)) (kp:XK q0 q Zk) (c0:q.at o 0=ky) (c1:q.at o 1=Un l2 0):TG q0 Zk (hd :: ct) 2 ky 0 1 (q.put a 1 o.h) (o :: Zk) (l1 ++ a :: o :: l2):=by
 have ha:=A.MW g.e
 have hao:a≠o:=fun e=>ho.1 (e ▸ ha.1)
 have hch:∀ x∈hd :: ct,x∈Zk:=fun x hx=>(A.mem x hx).1
 have nd:(l1 ++ a :: l2).Nodup:=by rw[<- g.e];exact A.nd
 have qW:∀ x∈l1,x≠a:=fun x hx e=>by
  subst e
  exact(List.nodup_append.1 nd).2.2 x hx x (by simp) rfl
 have oU:∀ x∈l2,x≠a:=fun x hx e=>by
  subst e
  exact(List.nodup_cons.1 (List.nodup_append.1 nd).2.1).1 hx
 have m1:∀ x∈l1,x∈hd :: ct:=fun x hx=>by rw[g.e];simp[hx]
 have m2:∀ x∈l2,x∈hd :: ct:=fun x hx=>by rw[g.e];simp[hx]
 have ma:a∈hd :: ct:=by rw[g.e];simp
 have at0:∀ x∈Zk,x.Z<=16->∀ j,j<x.Z->(x≠a\/j≠1)->(q.put a 1 o.h).at x j=q0.at x j:=fun x hx _ j hj hne=>by
  rw[<- kp.at hx hj]
  by_cases e:x=a
  . subst e
    rcases hne with h | h
    . exact absurd rfl h
    . exact Q.Pv q x h _
  . exact C'.Yn (List.mem_cons_of_mem _ ha.1) (List.mem_cons_of_mem _ hx) e (by rw[ha.2.2];decide) hj _
 have uX:∀ x∈Zk,x.Z<=16:=fun x hx=>(C.ok x hx).z2
 have Z2:∀ x∈hd :: ct,x.Z=2:=fun x hx=>(A.mem x hx).2.2
 have cc:∀ x∈hd :: ct,(q.put a 1 o.h).at x 0=q0.at x 0:=fun x hx=>at0 x (hch x hx) (uX x (hch x hx)) 0 (by rw[Z2 x hx];decide) (Or.inr (by decide))
 have o0:(q.put a 1 o.h).at o 0=ky:=by
  rw[C'.Yn (List.mem_cons_of_mem _ ha.1) List.mem_cons_self (Ne.symm hao) (by rw[ha.2.2];decide) (by rw[ho.2.2];decide)];exact c0
 have o1:(q.put a 1 o.h).at o 1=Un l2 0:=by
  rw[C'.Yn (List.mem_cons_of_mem _ ha.1) List.mem_cons_self (Ne.symm hao) (by rw[ha.2.2];decide) (by rw[ho.2.2];decide)];exact c1
 have lk:=A.lk
 rw[g.e] at lk
 obtain⟨vz,oQ,oP⟩:=VE.1 lk
 have tl:(l1 ++ a :: o :: l2).tail=(l1 ++ [a]).tail ++ o :: l2:=Xr l1 a (o :: l2)
 have Fv:ct=(l1 ++ [a]).tail ++ l2:=by
  have:=congrArg List.tail g.e
  rw[Xr] at this
  exact this
 have mt:∀ x∈(l1 ++ [a]).tail,x∈hd :: ct:=fun x hx=>by
  have:=List.mem_of_mem_tail hx
  rw[g.e]
  rcases List.mem_append.1 this with h | h
  . simp[h]
  . simp at h;simp[h]
 refine⟨⟨fun x hx=>?_,?_,?_,fun x hx=>?_,?_⟩,?_,fun x=>?_,fun _=>Or.inl ⟨rfl,?_⟩,fun h=>absurd rfl h,fun x hx hno=>⟨List.mem_cons_of_mem _ hx,fun j hj=>at0 x hx (uX x hx) j hj (Or.inl fun e=>hno (e ▸ ma))⟩,fun x hx=>?_,fun x hx=>?_,fun x _ hx=>?_⟩
 . rcases List.mem_append.1 hx with h | h
   . exact⟨List.mem_cons_of_mem _ (hch x (m1 x h)),(A.mem x (m1 x h)).2⟩
   . rcases List.mem_cons.1 h with rfl | h
     . exact⟨List.mem_cons_of_mem _ ha.1,ha.2⟩
     . rcases List.mem_cons.1 h with rfl | h
       . exact⟨List.mem_cons_self,ho.2⟩
       . exact⟨List.mem_cons_of_mem _ (hch x (m2 x h)),(A.mem x (m2 x h)).2⟩
 . have qV:=nd
   rw[List.nodup_append] at qV ⊢
   obtain⟨n1,n2,n3⟩:=qV
   rw[List.nodup_cons] at n2
   refine⟨n1,?_,fun x hx y hy=>?_⟩
   . rw[List.nodup_cons,List.nodup_cons]
     refine⟨fun h=>?_,fun h=>ho.1 (hch o (m2 o h)),n2.2⟩
     rcases List.mem_cons.1 h with h | h
     . exact hao h
     . exact n2.1 h
   . rcases List.mem_cons.1 hy with rfl | hy
     . exact qW x hx
     . rcases List.mem_cons.1 hy with rfl | hy
       . exact fun e=>ho.1 (e ▸ hch x (m1 x hx))
       . exact n3 x hx y (List.mem_cons_of_mem _ hy)
 . refine VE.2 ⟨vz.congr fun x hx=>?_,Q.V8 _ _ _ _,o1,oP.congr fun x hx=>?_⟩
   . exact at0 x (hch x (m1 x hx)) (uX x (hch x (m1 x hx))) 1 (by rw[Z2 x (m1 x hx)];decide) (Or.inl (qW x hx))
   . exact at0 x (hch x (m2 x hx)) (uX x (hch x (m2 x hx))) 1 (by rw[Z2 x (m2 x hx)];decide) (Or.inl (oU x hx))
 . rw[tl] at hx
   have kb:=A.kb
   have hct:(hd :: ct).tail=ct:=rfl
   rw[hct,Fv] at kb
   rcases List.mem_append.1 hx with h | h
   . rw[cc x (mt x h)];exact kb x (by simp[h])
   . rcases List.mem_cons.1 h with rfl | h
     . rw[o0];exact⟨h0,h1⟩
     . rw[cc x (m2 x h)];exact kb x (by simp[h])
 . rw[tl]
   have so:=A.so
   have hct:(hd :: ct).tail=ct:=rfl
   rw[hct,Fv,List.pairwise_append] at so
   obtain⟨s1,s2,s3⟩:=so
   rw[List.pairwise_append,List.pairwise_cons]
   refine⟨s1.imp_of_mem fun {x y} hx hy h=>by rw[cc x (mt x hx),cc y (mt y hy)];exact h,⟨fun y hy=>by rw[o0,cc y (m2 y hy)];exact g.up y hy,s2.imp_of_mem fun {x y} hx hy h=>by rw[cc x (m2 x hx),cc y (m2 y hy)];exact h⟩,fun x hx y hy=>?_⟩
   rw[cc x (mt x hx)]
   rcases List.mem_cons.1 hy with rfl | hy
   . rw[o0];exact g.lo x hx
   . rw[cc y (m2 y hy)];exact s3 x hx y hy
 . have e:(hd :: ct).head?=(l1 ++ a :: l2).head?:=by rw[g.e]
   rw[e]
   cases l1 <;> rfl
 . have ex:Has (q.put a 1 o.h) (l1 ++ a :: o :: l2) x↔x=ky\/Has q0 (hd :: ct) x:=by
    unfold Has
    rw[tl,show (hd :: ct).tail=ct from rfl,Fv]
    constructor
    . rintro⟨y,hy,e⟩
      rcases List.mem_append.1 hy with h | h
      . exact Or.inr ⟨y,by simp[h],by rw[<- cc y (mt y h)];exact e⟩
      . rcases List.mem_cons.1 h with rfl | h
        . exact Or.inl (by rw[<- e,o0])
        . exact Or.inr ⟨y,by simp[h],by rw[<- cc y (m2 y h)];exact e⟩
    . rintro(rfl | ⟨y,hy,e⟩)
      . exact⟨o,by simp,o0⟩
      . rcases List.mem_append.1 hy with h | h
        . exact⟨y,by simp[h],by rw[cc y (mt y h)];exact e⟩
        . exact⟨y,by simp[h],by rw[cc y (m2 y h)];exact e⟩
   rw[ex]
   by_cases hx:x=ky
   . rw[if_pos ⟨rfl,by decide,hx⟩];exact iff_of_true (Or.inl hx) rfl
   . rw[if_neg (fun h=>hx h.2.2)];exact⟨fun h=>h.resolve_left hx,Or.inr⟩
 . exact iff_of_false g.no (fun h=>h rfl)
 . rcases List.mem_cons.1 hx with rfl | hx
   . exact Or.inr (by simp)
   . exact Or.inl hx
 . rcases List.mem_append.1 hx with h | h
   . exact Or.inl (m1 x h)
   . rcases List.mem_cons.1 h with rfl | h
     . exact Or.inl ma
     . rcases List.mem_cons.1 h with rfl | h
       . exact Or.inr ho.1
       . exact Or.inl (m2 x h)
 . rw[g.e] at hx
   rcases List.mem_append.1 hx with h | h
   . simp[h]
   . rcases List.mem_cons.1 h with h | h <;> simp[h]
theorem Ci (A:Py q0 Zk (hd :: ct)) {E:Int} (hE:E=6\/E=7) (hT:Ry q0) {q:Q} (kp:XK q0 q Zk):TG q0 Zk (hd :: ct) 2 ky E 0 q Zk (hd :: ct):=by
 have hE0:E≠0:=by omega
 have h2:∀ o∈hd :: ct,o∈Zk/\∀ j,j<2->q.at o j=q0.at o j:=fun o ho=>⟨(A.mem o ho).1,fun j hj=>kp.at (A.mem o ho).1 (by rw[(A.mem o ho).2.2];exact hj)⟩
 refine⟨A.other h2,rfl,fun x=>?_,fun h=>absurd h hE0,fun _=>⟨hE,rfl,hT⟩,fun o ho _=>⟨ho,fun j hj=>kp.at ho hj⟩,fun o ho=>Or.inl ho,fun o ho=>Or.inl ho,fun _ _ h'=>h'⟩
 rw[if_neg (fun h=>hE0 h.1)]
 exact Has.other fun o ho=>(h2 o ho).2 0 (by decide)
theorem Cf (C:Zn t n k m q0 nx Tj Zk) (A:Py q0 Zk (hd :: ct)) {l1 l3:List Ox} {a h:Ox} (e:hd :: ct=l1 ++ a :: h :: l3) (hh:q0.at h 0=ky) {v:Int} {q:Q} {m1 m2:List Ox} (hm:Zk=m1 ++ h :: m2) (kp:XK ((q0.put h 1 v).put a 1 (Un l3 0)) q (m1 ++ m2)):TG q0 Zk (hd :: ct) 3 ky 0 1 q (m1 ++ m2) (l1 ++ a :: l3):=by
 have hi:=A.MW (l1:=l1 ++ [a]) (a:=h) (l2:=l3) (by rw[e];simp)
 have ha:=A.MW e
 have nd:(l1 ++ a :: h :: l3).Nodup:=by rw[<- e];exact A.nd
 have nd0:=nd
 rw[List.nodup_append] at nd0
 obtain⟨n1,n2,n3⟩:=nd0
 rw[List.nodup_cons,List.nodup_cons] at n2
 obtain⟨na,nh,nl⟩:=n2
 have hah:a≠h:=fun e=>na (by rw[e];simp)
 have ma:a∈hd :: ct:=by rw[e];simp
 have mh:h∈hd :: ct:=by rw[e];simp
 have M1:∀ x∈l1,x∈hd :: ct/\x≠a/\x≠h:=fun x hx=>⟨by rw[e];simp[hx],n3 x hx a (by simp),n3 x hx h (by simp)⟩
 have M3:∀ x∈l3,x∈hd :: ct/\x≠a/\x≠h:=fun x hx=>⟨by rw[e];simp[hx],fun e'=>na (by rw[<- e'];simp[hx]),fun e'=>nh (by rw[<- e'];exact hx)⟩
 have mem:∀ x,x∈m1 ++ m2↔x∈Zk/\x≠h:=fun x=>by
  have hap:∀ o',o'∈m1 ++ m2->h.apart o':=(List.pairwise_cons.1 ((List.pairwise_middle Ox.YN).1 (hm ▸ C.pw))).1
  constructor
  . exact fun hx=>⟨by rw[hm];rcases List.mem_append.1 hx with h | h <;> simp[h],fun e'=>(hap x hx).1 (by rw[e'])⟩
  . rintro⟨hx,hne⟩
    rw[hm] at hx
    rcases List.mem_append.1 hx with h' | h'
    . simp[h']
    . rcases List.mem_cons.1 h' with h' | h'
      . exact absurd h' hne
      . simp[h']
 have at0:∀ x∈Zk,x≠h->∀ j,j<x.Z->(x≠a\/j≠1)->q.at x j=q0.at x j:=fun x hx hne j hj hor=>by
  rw[kp.at ((mem x).2 ⟨hx,hne⟩) hj]
  have e2:(q0.put h 1 v).at x j=q0.at x j:=C.Yn hi.1 hx hne (by rw[hi.2.2];decide) hj _
  rw[<- e2]
  by_cases e':x=a
  . subst e'
    rcases hor with h' | h'
    . exact absurd rfl h'
    . exact Q.Pv _ x h' _
  . exact C.Yn (q2:=q0.put h 1 v) ha.1 hx e' (by rw[ha.2.2];decide) hj _
 have a1:q.at a 1=Un l3 0:=by
  rw[kp.at ((mem a).2 ⟨ha.1,hah⟩) (by rw[ha.2.2];decide)];exact Q.V8 _ _ _ _
 have Z2:∀ x∈hd :: ct,x∈Zk/\x.Z=2:=fun x hx=>⟨(A.mem x hx).1,(A.mem x hx).2.2⟩
 have cc:∀ x∈hd :: ct,x≠h->q.at x 0=q0.at x 0:=fun x hx hne=>at0 x (Z2 x hx).1 hne 0 (by rw[(Z2 x hx).2];decide) (Or.inr (by decide))
 have cl:∀ x∈hd :: ct,x≠h->x≠a->q.at x 1=q0.at x 1:=fun x hx hne hna=>at0 x (Z2 x hx).1 hne 1 (by rw[(Z2 x hx).2];decide) (Or.inl hna)
 have lk:=A.lk
 rw[e] at lk
 obtain⟨vz,oQ,mW,oO⟩:=VE.1 lk
 have tl:(l1 ++ a :: l3).tail=(l1 ++ [a]).tail ++ l3:=Xr l1 a l3
 have Fv:ct=(l1 ++ [a]).tail ++ h :: l3:=by
  have:=congrArg List.tail e
  rw[Xr] at this
  exact this
 have mt:∀ x∈(l1 ++ [a]).tail,x∈hd :: ct/\x≠h:=fun x hx=>by
  have:=List.mem_of_mem_tail hx
  rcases List.mem_append.1 this with h' | h'
  . exact⟨(M1 x h').1,(M1 x h').2.2⟩
  . simp at h';subst h';exact⟨ma,hah⟩
 have hct:(hd :: ct).tail=ct:=rfl
 have so:=A.so
 rw[hct,Fv,List.pairwise_append,List.pairwise_cons] at so
 obtain⟨s1,⟨s2,s3⟩,s4⟩:=so
 refine⟨⟨fun x hx=>?_,?_,?_,fun x hx=>?_,?_⟩,?_,fun x=>?_,fun _=>Or.inl ⟨rfl,?_⟩,fun h'=>absurd rfl h',fun x hx hno=>?_,fun x hx=>Or.inl ((mem x).1 hx).1,fun x hx=>Or.inl ?_,fun x hx hc=>?_⟩
 . rcases List.mem_append.1 hx with h' | h'
   . exact⟨(mem x).2 ⟨(Z2 x (M1 x h').1).1,(M1 x h').2.2⟩,(A.mem x (M1 x h').1).2⟩
   . rcases List.mem_cons.1 h' with rfl | h'
     . exact⟨(mem x).2 ⟨ha.1,hah⟩,ha.2⟩
     . exact⟨(mem x).2 ⟨(Z2 x (M3 x h').1).1,(M3 x h').2.2⟩,(A.mem x (M3 x h').1).2⟩
 . rw[List.nodup_append,List.nodup_cons]
   refine⟨n1,⟨fun h'=>na (by simp[h']),nl⟩,fun x hx y hy=>?_⟩
   rcases List.mem_cons.1 hy with rfl | hy
   . exact(M1 x hx).2.1
   . exact n3 x hx y (by simp[hy])
 . refine VE.2 ⟨vz.congr fun x hx=>cl x (M1 x hx).1 (M1 x hx).2.2 (M1 x hx).2.1,a1,oO.congr fun x hx=>cl x (M3 x hx).1 (M3 x hx).2.2 (M3 x hx).2.1⟩
 . rw[tl] at hx
   have kb:=A.kb
   rw[hct,Fv] at kb
   rcases List.mem_append.1 hx with h' | h'
   . rw[cc x (mt x h').1 (mt x h').2];exact kb x (by simp[h'])
   . rw[cc x (M3 x h').1 (M3 x h').2.2];exact kb x (by simp[h'])
 . rw[tl,List.pairwise_append]
   exact⟨s1.imp_of_mem fun {x y} hx hy h'=>by rw[cc x (mt x hx).1 (mt x hx).2,cc y (mt y hy).1 (mt y hy).2];exact h',s3.imp_of_mem fun {x y} hx hy h'=>by rw[cc x (M3 x hx).1 (M3 x hx).2.2,cc y (M3 y hy).1 (M3 y hy).2.2];exact h',fun x hx y hy=>by rw[cc x (mt x hx).1 (mt x hx).2,cc y (M3 y hy).1 (M3 y hy).2.2];exact s4 x hx y (by simp[hy])⟩
 . have e':(hd :: ct).head?=(l1 ++ a :: h :: l3).head?:=by rw[e]
   rw[e']
   cases l1 <;> rfl
 . have ex:Has q (l1 ++ a :: l3) x↔x≠ky/\Has q0 (hd :: ct) x:=by
    unfold Has
    rw[tl,hct,Fv]
    constructor
    . rintro⟨y,hy,e'⟩
      rcases List.mem_append.1 hy with h' | h'
      . rw[cc y (mt y h').1 (mt y h').2] at e'
        have:=s4 y h' h (by simp)
        exact⟨by omega,y,by simp[h'],e'⟩
      . rw[cc y (M3 y h').1 (M3 y h').2.2] at e'
        have:=s2 y h'
        exact⟨by omega,y,by simp[h'],e'⟩
    . rintro⟨hne,y,hy,e'⟩
      rcases List.mem_append.1 hy with h' | h'
      . exact⟨y,by simp[h'],by rw[cc y (mt y h').1 (mt y h').2];exact e'⟩
      . rcases List.mem_cons.1 h' with rfl | h'
        . exact absurd (e'.symm.trans hh) hne
        . exact⟨y,by simp[h'],by rw[cc y (M3 y h').1 (M3 y h').2.2];exact e'⟩
   rw[ex]
   by_cases hx:x=ky
   . rw[if_pos ⟨rfl,by decide,hx⟩];exact iff_of_false (fun h'=>h'.1 hx) (by decide)
   . rw[if_neg (fun h'=>hx h'.2.2)];exact⟨fun h'=>h'.2,fun h'=>⟨hx,h'⟩⟩
 . exact iff_of_true ⟨h,by rw[hct,Fv];simp,hh⟩ (by decide)
 . exact⟨(mem x).2 ⟨hx,fun e'=>hno (e' ▸ mh)⟩,fun j hj=>at0 x hx (fun e'=>hno (e' ▸ mh)) j hj (Or.inl fun e'=>hno (e' ▸ ma))⟩
 . rcases List.mem_append.1 hx with h' | h'
   . exact(M1 x h').1
   . rcases List.mem_cons.1 h' with rfl | h'
     . exact ma
     . exact(M3 x h').1
 . have hne:=((mem x).1 hx).2
   rw[e] at hc
   rcases List.mem_append.1 hc with h' | h'
   . simp[h']
   . rcases List.mem_cons.1 h' with h' | h'
     . simp[h']
     . rcases List.mem_cons.1 h' with h' | h'
       . exact absurd h' hne
       . simp[h']
end
end
section
theorem V7 {kd sz nu ix vl ol:Int} {own:Bool} (h1:1<=kd) (h5:kd<=5) (v0:0<=vl) (v1:vl<=1099511627775) (o0:0<=ol) (o1:ol<=1099511627775):Xa.may ⟨kd,sz,nu,ix,vl,ol,own⟩=true:=by
 simp[Xa.may,fitsV,h1,h5,v0,v1,o0,o1]
theorem zn {x:Int} (h:x<4294967296):x<=1099511627775:=Int.le_trans (Int.le_of_lt h) (by decide)
theorem qU {x:Int} (h:x<4294967296):x+4294967296<=1099511627775:=by omega
section
variable {S:Lr} {E H V St:Int}
theorem LG (h:S.nx=0):S.want true=⟨3,0,S.hd,1,0,0,true⟩:=by unfold Lr.want;simp[h]
theorem LD (h:S.nx=1):S.want true=⟨3,0,S.hn,1,0,0,true⟩:=by unfold Lr.want;simp[h]
theorem Fq (h:S.nx=4):S.want true=⟨3,0,S.hn,0,0,0,true⟩:=by unfold Lr.want;simp[h]
theorem Fp (h:S.nx=5):S.want true=⟨1,2,0,0,0,0,true⟩:=by unfold Lr.want;simp[h]
theorem Fj (h:S.nx=6):S.want true=⟨4,0,S.md,0,S.ky,0,true⟩:=by unfold Lr.want;simp[h]
theorem Fh (h:S.nx=7):S.want true=⟨4,0,S.md,1,S.hn,0,true⟩:=by unfold Lr.want;simp[h]
theorem Fg (h:S.nx=8):S.want true=⟨5,0,S.an,1,Lr.lead S.al S.md,S.al,true⟩:=by unfold Lr.want;simp[h]
theorem JG (h:S.nx=10):S.want true=⟨5,0,S.hn,1,S.hl % 4294967296+4294967296,S.hl,true⟩:=by unfold Lr.want;simp[h]
theorem JF (h:S.nx=11):S.want true=⟨5,0,S.an,1,Lr.lead S.al (S.hl % 4294967296),S.al,true⟩:=by unfold Lr.want;simp[h]
theorem JE (h:S.nx=12):S.want true=⟨2,0,S.hn,0,0,0,true⟩:=by unfold Lr.want;simp[h]
theorem tX (h:S.nx=0):S.go E H V St=S.WV E V St:=by unfold Lr.go;simp[h]
theorem tV (h:S.nx=1):S.go E H V St=S.VD E V St:=by unfold Lr.go;simp[h]
theorem tN (h:S.nx=4):S.go E H V St=S.XN E V:=by unfold Lr.go;simp[h]
theorem wO (h:S.nx=5):S.go E H V St=S.XY E H St:=by unfold Lr.go;simp[h]
theorem tK (h:S.nx=6):S.go E H V St=S.wrote E St 7:=by unfold Lr.go;simp[h]
theorem tJ (h:S.nx=7):S.go E H V St=S.wrote E St 8:=by unfold Lr.go;simp[h]
theorem tH (h:S.nx=8):S.go E H V St=S.showed E St:=by unfold Lr.go;simp[h]
theorem wM (h:S.nx=10):S.go E H V St=S.marked E St:=by unfold Lr.go;simp[h]
theorem wL (h:S.nx=11):S.go E H V St=S.Ye E:=by unfold Lr.go;simp[h]
theorem wK (h:S.nx=12):S.go E H V St=S.lay 13:=by unfold Lr.go;simp[h]
theorem zl:(0:Int)<=ZR 2:=by decide
theorem Rx {l x:Int} (h:l<4294967296):Lr.lead l x=x:=by
 unfold Lr.lead
 rw[if_neg (by omega)];omega
theorem JD {x:Int} (h0:0<=x) (h:x<4294967296):x % 4294967296=x:=Int.emod_eq_of_lt h0 h
end
section
variable {t n k m Ec:Nat} {q0:Q} {Tj:Nat->Nat} {Zk:List Ox} {hd:Ox} {ct:List Ox} {kd ky:Int} {S:Lr} {q:Q} {ls:List Ox} {r nx:Nat} {gen:Nat->Nat} {E H V:Int} {q':Q} {nx':Nat} {ZA:Nat->Nat} {ls':List Ox}
theorem XK.put {o:Ox} (C:Zn t n k m q nx gen (o :: Zk)) (kp:XK q0 q Zk) {j:Nat} (hj:j<o.Z) (v:Int):XK q0 (q.put o j v) Zk:=fun o' ho' i h1 h2=>by
 rw[<- kp o' ho' i h1 h2]
 have hne:o'≠o:=fun e=>((List.pairwise_cons.1 C.pw).1 o' ho').1 (by rw[e])
 have h:=C.Yn (List.mem_cons_self) (List.mem_cons_of_mem o ho') hne (j:=j) (j':=i - 1) hj (by omega) v (q2:=q)
 unfold Q.at at h
 rw[show o'.a+1+(i - 1)=o'.a+i by omega] at h
 exact h
set_option maxHeartbeats 1000000 in
theorem QI.step (A:Py q0 Zk (hd :: ct)) (C0:Zn t n k m q0 Ec Tj Zk) (hn:n<=65535) (hk4:4<=k) (hkd:1<=kd/\kd<=3) (h0:0<=ky) (h1:ky<1073741824) (I:QI k q0 Zk hd ct kd ky S q ls r) (C:Zn t n k m q nx gen ls) (O:Out k (S.want true) q nx gen ls E H V q' nx' ZA ls') (C':Zn t n k m q' nx' ZA ls') (St:Int) :
 cst k (S.want true)<=r/\((tY k q0 Zk hd ct kd ky (S.go E H V St) q' ls' (r - cst k (S.want true))/\∀ x,ZA x<=gen x)\/(ve q0 Zk (hd :: ct) kd ky (S.go E H V St) q' ls'/\∀ x,ZA x<=gen x+1)):=by
 have hdm:=A.mem hd (by simp)
 cases I with
 | first h1 h2 h3 h4 h5 =>
  rw[LG h4] at O ⊢
  obtain⟨rfl,-,rfl,rfl,-,rfl,rfl⟩:=O.V9 C hn hdm.1 rfl h3 hdm.2.1 (j:=1) rfl (by rw[hdm.2.2];decide)
  rw[tX h4,A.next (l1:=[]) (a:=hd) (l2:=ct) rfl]
  refine⟨by show 8<=_;omega,Or.inl ⟨?_,fun x=>Nat.le_refl _⟩⟩
  have:=NM (S:=S.Ce S.hd (Un ct 0) St) C0 hn A (l1:=[]) (a:=hd) (l:=ct) rfl (fun o ho=>by cases ho) h1 h2 h3 h5 h3 rfl
  rw[show 16 * ct.length+8+(k+68) - cst k ⟨3,0,S.hd,1,0,0,true⟩=16 * ct.length+(k+68) by show _ - 8=_;omega]
  exact this
 | link l1 a h l3 e lo N h5 =>
  have hh:=A.MW (l1:=l1 ++ [a]) (a:=h) (l2:=l3) (by rw[e];simp)
  have b:=Vd C0 hn (l:=l3) (fun o ho=>(A.mem o (by rw[e];simp[ho])).1)
  have hn':S.hn=h.h:=N.hn
  rw[LD N.nx] at O ⊢
  obtain⟨rfl,-,rfl,rfl,-,rfl,rfl⟩:=O.V9 C hn hh.1 rfl hn' hh.2.1 (j:=1) rfl (by rw[hh.2.2];decide)
  rw[tV N.nx,A.next (l1:=l1 ++ [a]) (a:=h) (l2:=l3) (by rw[e];simp)]
  refine⟨by show 8<=_;omega,Or.inl ⟨Or.inl ⟨16 * l3.length+8+(k+68),by show _<=_ - 8;omega,?_⟩,fun x=>Nat.le_refl _⟩⟩
  refine .key _ l1 a h l3 e lo ⟨N.kd,N.ky,N.hd,?_,N.an,N.al,N.hn⟩ h5 rfl
  show (if 4294967296<=Un l3 0 then (2:Int) else 4)=4
  rw[if_neg (by omega)]
 | key l1 a h l3 e lo N h5 h6 =>
  have e2:hd :: ct=(l1 ++ [a]) ++ h :: l3:=by rw[e];simp
  have hh:=A.MW e2
  have hn':S.hn=h.h:=N.hn
  rw[Fq N.nx] at O ⊢
  obtain⟨rfl,-,rfl,rfl,-,rfl,rfl⟩:=O.V9 C hn hh.1 rfl hn' hh.2.1 (j:=0) rfl (by rw[hh.2.2];decide)
  rw[tN N.nx]
  refine⟨by show 8<=_;omega,Or.inl ⟨?_,fun x=>Nat.le_refl _⟩⟩
  rw[show 16 * l3.length+8+(k+68) - cst k ⟨3,0,S.hn,0,0,0,true⟩=16 * l3.length+(k+68) by show _ - 8=_;omega]
  have Fv:ct=(l1 ++ [a]).tail ++ h :: l3:=by
   have:=congrArg List.tail e
   rw[Xr] at this
   exact this
  have so:=A.so
  rw[show (hd :: ct).tail=ct from rfl,Fv,List.pairwise_append,List.pairwise_cons] at so
  by_cases c1:q0.at h 0<ky
  . have eg:S.XN 0 (q0.at h 0)=(S.Ce S.hn S.hl S.hx).reach:=by unfold Lr.XN;rw[if_pos rfl,if_pos (by rw[N.ky];exact c1)]
    rw[eg]
    refine NM (S:=S.Ce S.hn S.hl S.hx) C0 hn A e2 (fun o ho=>?_) N.kd N.ky N.hd h5 hn' h6
    rw[show l1 ++ [a] ++ [h]=l1 ++ a :: [h] by simp,Xr] at ho
    rcases List.mem_append.1 ho with h' | h'
    . exact lo o h'
    . simp at h';rw[h'];exact c1
  . by_cases c2:q0.at h 0=ky
    . have eg:S.XN 0 (q0.at h 0)=S.found:=by unfold Lr.XN;rw[if_pos rfl,if_neg (by rw[N.ky];exact c1),if_pos (by rw[N.ky];exact c2)]
      rw[eg]
      have has:Has q0 (hd :: ct) ky:=⟨h,by rw[show (hd :: ct).tail=ct from rfl,Fv];simp,c2⟩
      unfold Lr.found
      by_cases k3:kd=3
      . rw[if_pos (by rw[N.kd];exact k3)]
        exact Or.inl ⟨k+60,by omega,.mark _ l1 a h l3 e k3 c2 ⟨N.kd,N.ky,N.hd,rfl,N.an,N.al,N.hn⟩ h5 h6⟩
      . rw[if_neg (by rw[N.kd];exact k3)]
        have wJ:∀ v st,(S.end_ 0 v st).nx=13:=fun v st=>by
         show (if S.md=0 then (13:Int) else 9)=13
         rw[if_pos h5]
        by_cases k2:kd=2
        . rw[if_pos (by rw[N.kd];exact k2)]
          exact Or.inr ⟨wJ _ _,rfl,N.kd,_,fin_same A (Or.inr ⟨rfl,fun h'=>h'.1 has k2⟩) (fun _=>has) (fun _ h'=>absurd k2 h')⟩
        . rw[if_neg (by rw[N.kd];exact k2)]
          exact Or.inr ⟨wJ _ _,rfl,N.kd,_,fin_same A (Or.inl ⟨rfl,iff_of_true has k2⟩) (fun h'=>absurd h' k2) (fun h1 h2=>by omega)⟩
    . have eg:S.XN 0 (q0.at h 0)=S.missing:=by unfold Lr.XN;rw[if_pos rfl,if_neg (by rw[N.ky];exact c1),if_neg (by rw[N.ky];exact c2)]
      rw[eg]
      rcases JH (k:=k) A (S:=S) ⟨e,lo,fun o ho=>by
       rcases List.mem_cons.1 ho with rfl | ho
       . omega
       . have:=so.2.1.1 o ho;omega⟩ N h5 with⟨r',hr,I⟩ | D
      . exact Or.inl ⟨r',by omega,I⟩
      . exact Or.inr D
 | make l1 a l2 g hk N h5 =>
  rw[Fp N.nx] at O ⊢
  obtain⟨-,eg',⟨hE,-,el,kp,hT⟩ | ⟨eE,o,eH,el,oZ,oo,-,-,kp⟩⟩:=O.make (Z:=2) rfl rfl zl <;> subst eg'
  . subst el
    rw[wO N.nx]
    refine⟨by show k+44<=_;omega,Or.inl ⟨Or.inr ?_,fun x=>Nat.le_refl _⟩⟩
    have eg:S.XY E H St=S.end_ E 0 St:=by unfold Lr.XY;rw[if_neg (by omega)]
    rw[eg]
    refine⟨?_,rfl,N.kd,hd :: ct,?_⟩
    . show (if S.md=0 then (13:Int) else 9)=13
      rw[if_pos h5]
    . subst hk
      exact Ci A hE (C.tight hk4 hT) kp
  . rw[eE,eH,wO N.nx,el]
    refine⟨by show k+44<=_;omega,Or.inl ⟨Or.inl ⟨24,by show 24<=_ - (k+44);omega,?_⟩,fun x=>Nat.le_refl _⟩⟩
    have eg:S.XY 0 o.h St={ S with md:=o.h,nx:=6 }:=by unfold Lr.XY;rw[if_pos rfl]
    rw[eg]
    exact .name { S with md:=o.h,nx:=6 } l1 a l2 g hk ⟨N.kd,N.ky,N.hd,rfl,N.an,N.al,N.hn⟩ o rfl ⟨fun h'=>((List.pairwise_cons.1 (el ▸ C'.pw)).1 o h').1 rfl,oo,oZ⟩ q' kp
 | name l1 a l2 g hk N o h5 ho _ kp =>
  rw[Fj N.nx] at O ⊢
  obtain⟨rfl,-,-,rfl,-,rfl,rfl⟩:=O.UK C hn (o:=o) List.mem_cons_self (Or.inl rfl) h5 ho.2.1 (j:=0) rfl (by rw[ho.2.2];decide)
  rw[tK N.nx]
  refine⟨by show 8<=24;decide,Or.inl ⟨Or.inl ⟨16,by show 16<=24 - 8;decide,?_⟩,fun x=>Nat.le_refl _⟩⟩
  have eg:S.wrote 0 St 7=S.lay 7:=by unfold Lr.wrote;rw[if_pos rfl]
  rw[eg]
  exact .uY (S.lay 7) l1 a l2 g hk ⟨N.kd,N.ky,N.hd,rfl,N.an,N.al,N.hn⟩ o h5 ho _ (kp.put C (by rw[ho.2.2];decide) _) ((Q.V8 _ _ _ _).trans N.ky)
 | uY l1 a l2 g hk N o h5 ho _ kp c0 =>
  rw[Fh N.nx] at O ⊢
  obtain⟨rfl,-,-,rfl,-,rfl,rfl⟩:=O.UK C hn (o:=o) List.mem_cons_self (Or.inl rfl) h5 ho.2.1 (j:=1) rfl (by rw[ho.2.2];decide)
  rw[tJ N.nx]
  refine⟨by show 8<=16;decide,Or.inl ⟨Or.inl ⟨8,by show 8<=16 - 8;decide,?_⟩,fun x=>Nat.le_refl _⟩⟩
  have eg:S.wrote 0 St 8=S.lay 8:=by unfold Lr.wrote;rw[if_pos rfl]
  rw[eg]
  exact .JI (S.lay 8) l1 a l2 g hk ⟨N.kd,N.ky,N.hd,rfl,N.an,N.al,N.hn⟩ o h5 ho _ (kp.put C (by rw[ho.2.2];decide) _) ((Q.Pv _ _ (by decide) _).trans c0) ((Q.V8 _ _ _ _).trans N.hn)
 | JI l1 a l2 g hk N o h5 ho _ kp c0 c1 =>
  have ha:=A.MW g.e
  have b:=Vd C0 hn (l:=l2) (fun o ho=>(A.mem o (by rw[g.e];simp[ho])).1)
  have wI:S.al=Un l2 0:=N.al
  rw[Fg N.nx] at O ⊢
  have hold:q.at a 1=S.al:=by rw[kp.at ha.1 (by rw[ha.2.2];decide),A.next g.e,wI]
  obtain⟨rfl,-,-,rfl,-,rfl,rfl⟩:=O.UK C hn (o:=a) (List.mem_cons_of_mem _ ha.1) (Or.inr ⟨rfl,hold⟩) N.an ha.2.1 (j:=1) rfl (by rw[ha.2.2];decide)
  rw[tH N.nx]
  refine⟨by show 8<=8;decide,Or.inl ⟨Or.inr ?_,fun x=>Nat.le_refl _⟩⟩
  have eg:S.showed 0 St={ S with md:=0,cE:=0,cH:=0,cV:=1,cS:=St,nx:=13 }:=by unfold Lr.showed;rw[if_pos rfl]
  have ev:Lr.lead S.al S.md=o.h:=by rw[Rx (wI ▸ b.2.1),h5]
  rw[eg]
  refine⟨rfl,rfl,N.kd,l1 ++ a :: o :: l2,?_⟩
  show TG q0 Zk (hd :: ct) kd ky 0 1 (q.put a 1 (Lr.lead S.al S.md)) _ _
  rw[ev,hk]
  exact Cj C0 A g h0 h1 ho C kp c0 c1
 | mark l1 a h l3 e hk hh N h5 h6 =>
  have e2:hd :: ct=(l1 ++ [a]) ++ h :: l3:=by rw[e];simp
  have hi:=A.MW e2
  have b:=Vd C0 hn (l:=l3) (fun o ho=>(A.mem o (by rw[e];simp[ho])).1)
  have hn':S.hn=h.h:=N.hn
  rw[JG N.nx] at O ⊢
  obtain⟨rfl,-,-,rfl,-,rfl,rfl⟩:=O.UK C hn (o:=h) hi.1 (Or.inr ⟨rfl,by rw[A.next e2];exact h6.symm⟩) hn' hi.2.1 (j:=1) rfl (by rw[hi.2.2];decide)
  rw[wM N.nx]
  refine⟨by show 8<=_;omega,Or.inl ⟨Or.inl ⟨k+52,by show k+52<=_ - 8;omega,?_⟩,fun x=>Nat.le_refl _⟩⟩
  have eg:S.marked 0 St={ S with cE:=0,cH:=0,cV:=1,cS:=St,nx:=11 }:=by unfold Lr.marked;rw[if_pos rfl]
  have ev:S.hl % 4294967296+4294967296=Un l3 0+4294967296:=by rw[h6,JD b.1 b.2.1]
  rw[eg]
  show QI k q0 Zk hd ct kd ky _ (q0.put h 1 (S.hl % 4294967296+4294967296)) Zk _
  rw[ev]
  exact .unlink { S with cE:=0,cH:=0,cV:=1,cS:=St,nx:=11 } l1 a h l3 e hk hh ⟨N.kd,N.ky,N.hd,rfl,N.an,N.al,N.hn⟩ h6 ⟨rfl,rfl,rfl⟩
 | unlink l1 a h l3 e hk hh N h6 hc =>
  have e2:hd :: ct=(l1 ++ [a]) ++ h :: l3:=by rw[e];simp
  have hi:=A.MW e2
  have ha:=A.MW e
  have bh:=Ox.IB C0 hn hi.1
  have b:=Vd C0 hn (l:=l3) (fun o ho=>(A.mem o (by rw[e];simp[ho])).1)
  have hah:a≠h:=fun e'=>by
   have nd:=A.nd
   rw[e,List.nodup_append,List.nodup_cons] at nd
   exact nd.2.1.1 (by rw[e'];simp)
  have wI:S.al=h.h:=N.al
  have hold:(q0.put h 1 (Un l3 0+4294967296)).at a 1=S.al:=by
   rw[C0.Yn hi.1 ha.1 hah (by rw[hi.2.2];decide) (by rw[ha.2.2];decide),A.next e,wI];rfl
  rw[JF N.nx] at O ⊢
  obtain⟨rfl,-,-,rfl,-,rfl,rfl⟩:=O.UK C hn (o:=a) ha.1 (Or.inr ⟨rfl,hold⟩) N.an ha.2.1 (j:=1) rfl (by rw[ha.2.2];decide)
  rw[wL N.nx]
  refine⟨by show 8<=_;omega,Or.inl ⟨Or.inl ⟨k+44,by show k+44<=_ - 8;omega,?_⟩,fun x=>Nat.le_refl _⟩⟩
  have eg:S.Ye 0=S.lay 12:=by unfold Lr.Ye;rw[if_pos rfl]
  have ev:Lr.lead S.al (S.hl % 4294967296)=Un l3 0:=by rw[Rx (wI ▸ bh.2),h6,JD b.1 b.2.1]
  rw[eg]
  show QI k q0 Zk hd ct kd ky _ ((q0.put h 1 (Un l3 0+4294967296)).put a 1 (Lr.lead S.al (S.hl % 4294967296))) Zk _
  rw[ev]
  exact .free (S.lay 12) l1 a h l3 e hk hh ⟨N.kd,N.ky,N.hd,rfl,N.an,N.al,N.hn⟩ hc
 | free l1 a h l3 e hk hh N hc =>
  have e2:hd :: ct=(l1 ++ [a]) ++ h :: l3:=by rw[e];simp
  have hi:=A.MW e2
  have hn':S.hn=h.h:=N.hn
  have gh:=C.gn h hi.1
  rw[JE N.nx] at O ⊢
  obtain⟨rfl,-,-,-,rfl,m1,m2,hm,rfl,-,kp⟩:=O.Fz C hn (o:=h) hi.1 rfl hn' hi.2.1
  rw[wK N.nx]
  refine⟨by show k+44<=_;omega,Or.inr ⟨⟨rfl,hc.2.1,N.kd,l1 ++ a :: l3,?_⟩,fun x=>?_⟩⟩
  . show TG q0 Zk (hd :: ct) kd ky S.cE S.cV q' (m1 ++ m2) _
    rw[hc.1,hc.2.2,hk]
    exact Cf C0 A e hh hm kp
  . show (if x=h.x then h.g+1 else gen x)<=_
    split
    . rename_i ex;rw[ex,gh];exact Nat.le_refl _
    . exact Nat.le_succ _
theorem Cc (h:(S.want true).kd=1):S.nx=5:=by
 unfold Lr.want at h
 repeat (split at h;. first | (rename_i h5;exact h5) | simp at h)
 simp at h
theorem QI.opens (C0:Zn t n k m q0 Ec Tj Zk) (I:QI k q0 Zk hd ct kd ky S q ls r) (C:Zn t n k m q nx gen ls) {G:Nat} (h0:Ec<=G) (h1:nx<=G+1) (O:Out k (S.want true) q nx gen ls E H V q' nx' ZA ls'):nx'<=G+1:=by
 by_cases h:(S.want true).kd=1
 . have h5:=Cc h
   have eq:q=q0:=by
    have no:∀ {c:Int},S.nx=c->c≠5->q=q0:=fun h' hc=>absurd (h'.symm.trans h5) hc
    cases I with
    | make=>rfl
    | first h1 h2 h3 h4 h5=>rfl
    | link=>rfl
    | key=>rfl
    | mark=>rfl
    | name l1 a l2 g hk N=>exact no N.nx (by decide)
    | uY l1 a l2 g hk N=>exact no N.nx (by decide)
    | JI l1 a l2 g hk N=>exact no N.nx (by decide)
    | unlink l1 a h l3 e hk hh N=>exact no N.nx (by decide)
    | free l1 a h l3 e hk hh N=>exact no N.nx (by decide)
   subst eq
   have:=C.zt C0
   have:=O.AQ
   omega
 . rw[O.CE h];exact h1
theorem Pq {C0:Zn t n k m q0 Ec Tj Zk} (hn:n<=65535) {o:Ox} (ho:o∈Zk) {x:Int} (e:x=o.h):Wd x:=by
 have b:=Ox.IB C0 hn ho
 rw[e]
 exact⟨Int.le_trans (by decide) b.1,Int.le_trans (Int.le_of_lt b.2) (by decide)⟩
theorem wH {x:Int} (h:x<4294967296):x<8589934592:=Int.lt_trans h (by decide)
theorem QI.facts (A:Py q0 Zk (hd :: ct)) (C0:Zn t n k m q0 Ec Tj Zk) (hn:n<=65535) (I:QI k q0 Zk hd ct kd ky S q ls r) (C:Zn t n k m q nx gen ls) :
 S.nx≠13/\S.kd=kd/\S.ky=ky/\Wd (S.want true).nu/\(S.nx=7->0<=S.hn/\S.hn<4294967296)/\(S.nx=8->0<=S.md/\S.md<4294967296)/\∀ {E H V:Int} {q':Q} {nx':Nat} {ZA:Nat->Nat} {ls':List Ox},Out k (S.want true) q nx gen ls E H V q' nx' ZA ls'->S.nx=0\/S.nx=1->E=0->0<=V/\V<8589934592:=by
 have hdm:=A.mem hd (by simp)
 have no:∀ {c:Int},S.nx=c->c≠0->c≠1->S.nx=0\/S.nx=1->False:=fun h h0 h1 hh=>by
  rcases hh with hh | hh
  . exact h0 (h.symm.trans hh)
  . exact h1 (h.symm.trans hh)
 cases I with
 | first h1 h2 h3 h4 h5 =>
  have b:=Vd C0 hn (l:=ct) (fun o ho=>(A.mem o (by simp[ho])).1)
  refine⟨by rw[h4];decide,h1,h2,by rw[LG h4];exact Pq (C0:=C0) hn hdm.1 h3,fun h=>absurd (h4.symm.trans h) (by decide),fun h=>absurd (h4.symm.trans h) (by decide),fun {E H V q' nx' ZA ls'} O _ _=>?_⟩
  rw[LG h4] at O
  obtain⟨-,-,rfl,-⟩:=O.V9 C hn hdm.1 rfl h3 hdm.2.1 (j:=1) rfl (by rw[hdm.2.2];decide)
  rw[A.next (l1:=[]) (a:=hd) (l2:=ct) rfl]
  exact⟨b.1,wH b.2.1⟩
 | link l1 a h l3 e lo N h5 =>
  have hh:=A.MW (l1:=l1 ++ [a]) (a:=h) (l2:=l3) (by rw[e];simp)
  have b:=Vd C0 hn (l:=l3) (fun o ho=>(A.mem o (by rw[e];simp[ho])).1)
  have hn':S.hn=h.h:=N.hn
  refine⟨by rw[N.nx];decide,N.kd,N.ky,by rw[LD N.nx];exact Pq (C0:=C0) hn hh.1 hn',fun h=>absurd (N.nx.symm.trans h) (by decide),fun h=>absurd (N.nx.symm.trans h) (by decide),fun {E H V q' nx' ZA ls'} O _ _=>?_⟩
  rw[LD N.nx] at O
  obtain⟨-,-,rfl,-⟩:=O.V9 C hn hh.1 rfl hn' hh.2.1 (j:=1) rfl (by rw[hh.2.2];decide)
  rw[A.next (l1:=l1 ++ [a]) (a:=h) (l2:=l3) (by rw[e];simp)]
  exact⟨b.1,wH b.2.1⟩
 | key l1 a h l3 e lo N h5 h6 =>
  have hh:=A.MW (l1:=l1 ++ [a]) (a:=h) (l2:=l3) (by rw[e];simp)
  have hn':S.hn=h.h:=N.hn
  exact⟨by rw[N.nx];decide,N.kd,N.ky,by rw[Fq N.nx];exact Pq (C0:=C0) hn hh.1 hn',fun h=>absurd (N.nx.symm.trans h) (by decide),fun h=>absurd (N.nx.symm.trans h) (by decide),fun {E H V q' nx' ZA ls'} _ h _=>(no N.nx (by decide) (by decide) h).elim⟩
 | make l1 a l2 g hk N h5 =>
  exact⟨by rw[N.nx];decide,N.kd,N.ky,by rw[Fp N.nx];exact⟨Int.le_refl _,by show (0:Int)<=18446744073709551615;decide⟩,fun h=>absurd (N.nx.symm.trans h) (by decide),fun h=>absurd (N.nx.symm.trans h) (by decide),fun {E H V q' nx' ZA ls'} _ h _=>(no N.nx (by decide) (by decide) h).elim⟩
 | name l1 a l2 g hk N o h5 ho _ kp =>
  exact⟨by rw[N.nx];decide,N.kd,N.ky,by rw[Fj N.nx];exact Pq (C0:=C) hn List.mem_cons_self h5,fun h=>absurd (N.nx.symm.trans h) (by decide),fun h=>absurd (N.nx.symm.trans h) (by decide),fun {E H V q' nx' ZA ls'} _ h _=>(no N.nx (by decide) (by decide) h).elim⟩
 | uY l1 a l2 g hk N o h5 ho _ kp c0 =>
  have b:=Vd C0 hn (l:=l2) (fun o ho=>(A.mem o (by rw[g.e];simp[ho])).1)
  exact⟨by rw[N.nx];decide,N.kd,N.ky,by rw[Fh N.nx];exact Pq (C0:=C) hn List.mem_cons_self h5,fun _=>by rw[N.hn];exact⟨b.1,b.2.1⟩,fun h=>absurd (N.nx.symm.trans h) (by decide),fun {E H V q' nx' ZA ls'} _ h _=>(no N.nx (by decide) (by decide) h).elim⟩
 | JI l1 a l2 g hk N o h5 ho _ kp c0 c1 =>
  have ha:=A.MW g.e
  have b:=Ox.IB C hn (o:=o) List.mem_cons_self
  exact⟨by rw[N.nx];decide,N.kd,N.ky,by rw[Fg N.nx];exact Pq (C0:=C0) hn ha.1 N.an,fun h=>absurd (N.nx.symm.trans h) (by decide),fun _=>by rw[h5];exact⟨Int.le_trans (by decide) b.1,b.2⟩,fun {E H V q' nx' ZA ls'} _ h _=>(no N.nx (by decide) (by decide) h).elim⟩
 | mark l1 a h l3 e hk hh N h5 h6 =>
  have hi:=A.MW (l1:=l1 ++ [a]) (a:=h) (l2:=l3) (by rw[e];simp)
  have hn':S.hn=h.h:=N.hn
  exact⟨by rw[N.nx];decide,N.kd,N.ky,by rw[JG N.nx];exact Pq (C0:=C0) hn hi.1 hn',fun h=>absurd (N.nx.symm.trans h) (by decide),fun h=>absurd (N.nx.symm.trans h) (by decide),fun {E H V q' nx' ZA ls'} _ h _=>(no N.nx (by decide) (by decide) h).elim⟩
 | unlink l1 a h l3 e hk hh N h6 hc =>
  have ha:=A.MW e
  exact⟨by rw[N.nx];decide,N.kd,N.ky,by rw[JF N.nx];exact Pq (C0:=C0) hn ha.1 N.an,fun h=>absurd (N.nx.symm.trans h) (by decide),fun h=>absurd (N.nx.symm.trans h) (by decide),fun {E H V q' nx' ZA ls'} _ h _=>(no N.nx (by decide) (by decide) h).elim⟩
 | free l1 a h l3 e hk hh N hc =>
  have hi:=A.MW (l1:=l1 ++ [a]) (a:=h) (l2:=l3) (by rw[e];simp)
  have hn':S.hn=h.h:=N.hn
  exact⟨by rw[N.nx];decide,N.kd,N.ky,by rw[JE N.nx];exact Pq (C0:=C0) hn hi.1 hn',fun h=>absurd (N.nx.symm.trans h) (by decide),fun h=>absurd (N.nx.symm.trans h) (by decide),fun {E H V q' nx' ZA ls'} _ h _=>(no N.nx (by decide) (by decide) h).elim⟩
end
theorem FB {S:Lr} (o:S.ok) (hk:0<=S.ky/\S.ky<1073741824) (m0:S.nx=7->0<=S.hn/\S.hn<4294967296) (m1:S.nx=8->0<=S.md/\S.md<4294967296):(S.want true).may=true/\Fit (S.want true).sz:=by
 have f0:Fit 0:=⟨by decide,by decide⟩
 have wG:S.al<=1099511627775:=Int.le_trans (Int.le_of_lt o.a1) (by decide)
 have tC:S.hl<=1099511627775:=Int.le_trans (Int.le_of_lt o.l1) (by decide)
 have lm:∀ x:Int,0<=x % 4294967296/\x % 4294967296<4294967296:=fun x=>⟨Int.emod_nonneg _ (by decide),Int.emod_lt_of_pos _ (by decide)⟩
 have ld:∀ x:Int,0<=x->x<4294967296->0<=Lr.lead S.al x/\Lr.lead S.al x<=1099511627775:=fun x h0 h1=>by
  unfold Lr.lead
  split
  . exact⟨by omega,qU h1⟩
  . exact⟨by omega,by rw[Int.add_zero];exact zn h1⟩
 unfold Lr.want
 split
 . exact⟨V7 (by decide) (by decide) (by decide) (by decide) (by decide) (by decide),f0⟩
 split
 . exact⟨V7 (by decide) (by decide) (by decide) (by decide) (by decide) (by decide),f0⟩
 split
 . exact⟨V7 (by decide) (by decide) (by decide) (by decide) (by decide) (by decide),f0⟩
 split
 . exact⟨V7 (by decide) (by decide) (ld _ (lm _).1 (lm _).2).1 (ld _ (lm _).1 (lm _).2).2 o.a0 wG,f0⟩
 split
 . exact⟨V7 (by decide) (by decide) (by decide) (by decide) (by decide) (by decide),f0⟩
 split
 . exact⟨V7 (by decide) (by decide) (by decide) (by decide) (by decide) (by decide),⟨by decide,by decide⟩⟩
 split
 . exact⟨V7 (by decide) (by decide) hk.1 (zn (Int.lt_trans hk.2 (by decide))) (by decide) (by decide),f0⟩
 split
 . rename_i h7
   exact⟨V7 (by decide) (by decide) (m0 h7).1 (zn (m0 h7).2) (by decide) (by decide),f0⟩
 split
 . rename_i h8
   exact⟨V7 (by decide) (by decide) (ld _ (m1 h8).1 (m1 h8).2).1 (ld _ (m1 h8).1 (m1 h8).2).2 o.a0 wG,f0⟩
 split
 . exact⟨V7 (by decide) (by decide) (by have:=(lm S.hl).1;omega) (qU (lm _).2) o.l0 tC,f0⟩
 . exact⟨V7 (by decide) (by decide) (by decide) (by decide) (by decide) (by decide),f0⟩
end
end Go.Proofs.YtgehjolndmgffaaGreat
