import Derived.Test.YtibmjlefcaonnaaGreatAllocSound
namespace Go.Proofs.YtibmjlefcaonnaaGreat
open Go.RowKit
section
theorem Vz {α:Type} (f:Nat->α) (a:Nat) (u v:α):upd (upd f a u) a v=upd f a v:=by
 funext x
 by_cases h:x=a
 . subst h;rw[upd_same,upd_same]
 . rw[Z8 _ _ _ _ h,Z8 _ _ _ _ h,Z8 _ _ _ _ h]
structure Alone (k:Nat) (y:Y) (nx:Nat):Prop where
 le:nx<=k
 wB:∀ i,i<nx->(y.ck i).st=1
 Wh:∀ i,nx<=i->i<k->(y.ck i).st=0/\(y.ck i).us=0
 opn:∀ κ,κ<4->∀ i,y.op κ=i+1->i<nx/\(y.ck i).cl=κ
inductive wz (k m κ:Nat) (bs:Nat->Nat) (y:Y) (nx:Nat):Y->Nat->Pl->Prop where
 | fit (i:Nat) (h:y.op κ=i+1) (hu:(y.ck i).us+room κ<=m):wz k m κ bs y nx ⟨upd y.ck i ⟨1,κ,(y.ck i).us+room κ,(y.ck i).sp⟩,y.op⟩ nx (.YF (bs i+(y.ck i).us) i)
 | new (hno:∀ i,y.op κ=i+1->¬ (y.ck i).us+room κ<=m) (h:nx<k):wz k m κ bs y nx ⟨upd y.ck nx ⟨1,κ,room κ,(y.ck nx).sp+1⟩,upd y.op κ (nx+1)⟩ (nx+1) (.YF (bs nx) nx)
 | none (hno:∀ i,y.op κ=i+1->¬ (y.ck i).us+room κ<=m) (h:nx=k):wz k m κ bs y nx y nx .none
section
variable {k m κ nx:Nat} {bs:Nat->Nat} {y:Y}
theorem E5 (A:Alone k y nx) (hκ:κ<4) {i:Nat} (h:y.op κ=i+1) (hu:(y.ck i).us+room κ<=m):Goes k m κ bs 3 y .see ⟨upd y.ck i ⟨1,κ,(y.ck i).us+room κ,(y.ck i).sp⟩,y.op⟩ (.YF (bs i+(y.ck i).us) i):=by
 obtain⟨hi,hc⟩:=A.opn κ hκ i h
 have h1:=A.wB i hi
 refine .more (y1:=y) (τ1:=.ask i) rfl (by simp[turn,h]) rfl (.more (y1:=y) (τ1:=.grow i (y.ck i)) rfl (by simp[turn,h1,hc,hu]) rfl (.one rfl ?_ rfl))
 simp only[turn,if_pos,h1,hc]
theorem Ij (hm:room κ<=m) {sn:Nat} (ho:y.op κ=sn) (h0:(y.ck nx).st=0):Goes k m κ bs 6 y (.look sn nx) ⟨upd y.ck nx ⟨1,κ,room κ,(y.ck nx).sp+1⟩,upd y.op κ (nx+1)⟩ (.YF (bs nx) nx):=by
 refine .more (y1:=y) (τ1:=.take sn nx (y.ck nx)) rfl (by simp[turn,h0]) rfl ?_
 refine .more (y1:=⟨upd y.ck nx ⟨1,κ,0,(y.ck nx).sp+1⟩,y.op⟩) (τ1:=.opn sn nx ⟨1,κ,0,(y.ck nx).sp+1⟩) rfl (by simp[turn]) rfl ?_
 refine .more (y1:=⟨upd y.ck nx ⟨1,κ,0,(y.ck nx).sp+1⟩,upd y.op κ (nx+1)⟩) (τ1:=.see) rfl (by simp[turn,ho]) rfl ?_
 refine .more (y1:=⟨upd y.ck nx ⟨1,κ,0,(y.ck nx).sp+1⟩,upd y.op κ (nx+1)⟩) (τ1:=.ask nx) rfl (by simp[turn,upd_same]) rfl ?_
 refine .more (y1:=⟨upd y.ck nx ⟨1,κ,0,(y.ck nx).sp+1⟩,upd y.op κ (nx+1)⟩) (τ1:=.grow nx ⟨1,κ,0,(y.ck nx).sp+1⟩) rfl (by simp[turn,upd_same,hm]) rfl ?_
 refine .one rfl ?_ rfl
 simp[turn,upd_same,Vz]
theorem Qo (A:Alone k y nx) (hm:room κ<=m) (hk:nx<k) {sn:Nat} (ho:y.op κ=sn):∀ d j,j+d=nx->Goes k m κ bs (d+6) y (.look sn j) ⟨upd y.ck nx ⟨1,κ,room κ,(y.ck nx).sp+1⟩,upd y.op κ (nx+1)⟩ (.YF (bs nx) nx)
 | 0,j,hj=>by
  obtain rfl:j=nx:=by omega
  have:=Ij (k:=k) (bs:=bs) (m:=m) hm ho (A.Wh j (Nat.le_refl _) hk).1
  simpa using this
 | d+1,j,hj=>by
  have h1:=A.wB j (by omega)
  have:=Qo A hm hk ho d (j+1) (by omega)
  refine Goes.more (y1:=y) (τ1:=.look sn (j+1)) rfl ?_ rfl this
  simp only[turn,h1,Wp]
  rw[if_neg (by omega),if_pos (by omega)]
theorem NI (A:Alone k y nx) (hk:nx=k) {sn:Nat}:∀ d j,j+d+1=k->Goes k m κ bs (d+1) y (.look sn j) y .none
 | 0,j,hj=>by
  have h1:=A.wB j (by omega)
  refine .one rfl ?_ rfl
  simp only[turn,h1,Wp]
  rw[if_neg (by omega),if_neg (by omega)]
 | d+1,j,hj=>by
  have h1:=A.wB j (by omega)
  refine Goes.more (y1:=y) (τ1:=.look sn (j+1)) rfl ?_ rfl (NI A hk d (j+1) (by omega))
  simp only[turn,h1,Wp]
  rw[if_neg (by omega),if_pos (by omega)]
theorem Qn (hk0:1<=k) (hno:∀ i,y.op κ=i+1->¬ (y.ck i).us+room κ<=m) {N:Nat} {y':Y} {τ':Pl} (g:∀ sn,y.op κ=sn->Goes k m κ bs N y (.look sn 0) y' τ'):∃ N',N'<=N+2/\Goes k m κ bs N' y .see y' τ':=by
 cases h:y.op κ with
 | zero =>
  refine⟨N+1,by omega,.more (y1:=y) (τ1:=.look 0 0) rfl ?_ rfl (g 0 h)⟩
  simp only[turn,h,Wp]
  rw[if_pos (by omega)]
 | succ i =>
  have h2:=hno i h
  refine⟨N+1+1,by omega,.more (y1:=y) (τ1:=.ask i) rfl (by simp[turn,h]) rfl (.more (y1:=y) (τ1:=.look (i+1) 0) rfl ?_ rfl (g (i+1) h))⟩
  simp only[turn,Wp]
  rw[if_neg (fun e=>h2 e.2.2),if_pos (by omega)]
theorem KU (A:Alone k y nx) (hκ:κ<4) (hm:17<=m) (hk0:1<=k) (hk:k<=64):∃ N y' nx' τ',N<=k+8/\Goes k m κ bs N y .see y' τ'/\wz k m κ bs y nx y' nx' τ':=by
 have hr:=XJ κ
 have hle:=A.le
 by_cases hf:∃ i,y.op κ=i+1/\(y.ck i).us+room κ<=m
 . obtain⟨i,h,hu⟩:=hf
   exact⟨3,_,_,_,by omega,E5 A hκ h hu,.fit i h hu⟩
 . have hno:∀ i,y.op κ=i+1->¬ (y.ck i).us+room κ<=m:=fun i h hu=>hf ⟨i,h,hu⟩
   by_cases hn:nx<k
   . obtain⟨N',hN,g⟩:=Qn hk0 hno (fun sn h=>Qo (bs:=bs) A (by omega) hn h nx 0 (by omega))
     exact⟨N',_,_,_,by omega,g,.new hno hn⟩
   . obtain⟨N',hN,g⟩:=Qn hk0 hno (fun sn h=>NI (m:=m) (κ:=κ) (bs:=bs) A (by omega) (k - 1) 0 (by omega))
     exact⟨N',_,_,_,by omega,g,.none hno (by omega)⟩
end
end
section
section
variable {t n k m κ:Nat} {z:Int} {own:Bool}
theorem RY {τ:Pl} {q:Q} {x G:Nat} {y':Y} {τ':Pl} {σ:Nat} (ht:turn k m κ (base t n k m) q.y τ=(y',τ')):ZN t n k m κ z own σ q (.place x G τ)=VA q x G (y',τ'):=by
 simp only[ZN,ht]
theorem Goes.lift {x G:Nat} {N:Nat} {y0:Y} {τ:Pl} {y':Y} {τ':Pl} (g:Goes k m κ (base t n k m) N y0 τ y' τ'):∀ {σ:Nat} {q:Q},q.y=y0->∀ {M:Nat} {q':Q} {β α':Al},(VA { q with y:=y' } x G (y',τ')).2=β->β.ZR=false->Sm t n k m κ z own M (σ+N) { q with y:=y' } β q' α'->Sm t n k m κ z own (N+M) σ q (.place x G τ) q' α':=by
 induction g with
 | @one y τ y' τ' ho ht h =>
  intro σ q hq M q' β α' hβ hb r
  subst hq
  have e:=RY (z:=z) (own:=own) (x:=x) (G:=G) (σ:=σ) ht
  have e2:VA q x G (y',τ')=({ q with y:=y' },β):=by
   subst hβ
   rcases SY τ' with hf | ⟨a,i,rfl⟩ | rfl
   . rw[h] at hf;cases hf
   . rfl
   . rfl
  rw[Nat.add_comm 1 M]
  exact .more rfl (e.trans e2) hb r
 | @more N y τ y1 τ1 y' τ' ho ht h g ih =>
  intro σ q hq M q' β α' hβ hb r
  subst hq
  have e:=RY (z:=z) (own:=own) (x:=x) (G:=G) (σ:=σ) ht
  rw[Xt h] at e
  rw[show N+1+M=N+M+1 by omega]
  exact .more rfl e rfl (ih (q:={ q with y:=y1 }) rfl (β:=β) hβ hb (by rw[show σ+1+N=σ+(N+1) by omega];exact r))
def Q.made (q:Q) (x:Nat) (F:List Nat) (y':Y) (a i κ:Nat) (z:Int) (own:Bool):Q :=
 ⟨q.c+1,q.lk,F,y',upd q.lv i (q.lv i+room κ),upd q.sw x (Zw 1 a (Zy (q.sw x)) 0),upd (upd q.dw a (Zj 1 z x (Zy (q.sw x)) own)) a (Zj 2 z x (Zy (q.sw x)) own),q.db⟩
theorem JA {q:Q} {σ:Nat} (h:q.F=[]):Sm t n k m κ z own 1 σ q (.take .idle) q (.over 7 0 (σ+1)):=by
 refine .one rfl ?_ rfl
 simp only[ZN,Zn,h,Y7]
 rw[<- h]
theorem Jz {q:Q} {σ x:Nat} {F:List Nat} (h:q.F=x :: F) {M:Nat} {q':Q} {α':Al} (g:Sm t n k m κ z own M (σ+4) { q with c:=q.c+1,F:=F } (.place x (Zy (q.sw x)) .see) q' α'):Sm t n k m κ z own (M+4) σ q (.take .idle) q' α':=by
 refine .more (q1:=q) (α1:=.take (.XL x q.c)) rfl ?_ rfl (.more (q1:=q) (α1:=.take (.XP x q.c (q.lk x))) rfl ?_ rfl (.more (q1:={ q with c:=q.c+1,F:=F }) (α1:=.ask x) rfl ?_ rfl (.more (q1:={ q with c:=q.c+1,F:=F }) (α1:=.place x (Zy (q.sw x)) .see) rfl ?_ rfl g)))
 . simp only[ZN,Zn,h,Y7]
   rw[<- h]
 . simp only[ZN,Zn,Y7]
 . simp only[ZN,Zn,h,Y7,if_true,List.tail_cons]
 . rfl
theorem JD {q:Q} {σ x:Nat} {F:List Nat} (h:q.F=x :: F) {N:Nat} {y':Y} {a i:Nat} (g:Goes k m κ (base t n k m) N q.y .see y' (.YF a i)):Sm t n k m κ z own (N+4+4) σ q (.take .idle) (q.made x F y' a i κ z own) (.over 0 (Yi x (Zy (q.sw x))) (σ+4+N+2+1)):=by
 refine Jz h ?_
 refine Goes.lift (q:={ q with c:=q.c+1,F:=F }) g rfl (β:=.count x (Zy (q.sw x)) a i) rfl rfl ?_
 exact .more (α1:=.head x (Zy (q.sw x)) a i) rfl rfl rfl (.more (α1:=.shw x (Zy (q.sw x)) a i) rfl rfl rfl (.more (α1:=.ready x (Zy (q.sw x)) a i (σ+4+N+1+1+1)) rfl rfl rfl (.one rfl rfl rfl)))
end
theorem vC:Zy 8388608=1:=by decide
theorem ML {t n k m i j u v:Nat} (hu:u<m) (hv:v<m) (hij:j≠i):base t n k m i+u≠base t n k m j+v:=by
 unfold base
 intro e
 rcases Nat.lt_or_gt_of_ne hij with h | h
 . have:=Nat.mul_le_mul_right m (Nat.succ_le_of_lt h)
   rw[Nat.succ_mul] at this
   omega
 . have:=Nat.mul_le_mul_right m (Nat.succ_le_of_lt h)
   rw[Nat.succ_mul] at this
   omega
section
variable {t n k m κ nx:Nat} {q:Q} {z:Int} {own:Bool}
end
end
end Go.Proofs.YtibmjlefcaonnaaGreat
