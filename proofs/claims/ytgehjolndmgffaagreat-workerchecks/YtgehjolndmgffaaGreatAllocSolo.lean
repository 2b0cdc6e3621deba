import Derived.Test.YtgehjolndmgffaaGreatAllocSound
namespace Go.Proofs.YtgehjolndmgffaaGreat
open Go.RowKit
section
theorem PN {α:Type} (f:Nat->α) (a:Nat) (u v:α):upd (upd f a u) a v=upd f a v:=by
 funext x
 by_cases h:x=a
 . subst h;rw[upd_same,upd_same]
 . rw[ZX _ _ _ _ h,ZX _ _ _ _ h,ZX _ _ _ _ h]
structure Alone (k:Nat) (y:Y) (nx:Nat):Prop where
 le:nx<=k
 CB:∀ i,i<nx->(y.ck i).st=1
 Tc:∀ i,nx<=i->i<k->(y.ck i).st=0/\(y.ck i).us=0
 opn:∀ κ,κ<4->∀ i,y.op κ=i+1->i<nx/\(y.ck i).cl=κ
inductive Df (k m κ:Nat) (bs:Nat->Nat) (y:Y) (nx:Nat):Y->Nat->Pl->Prop where
 | fit (i:Nat) (h:y.op κ=i+1) (hu:(y.ck i).us+room κ<=m):Df k m κ bs y nx ⟨upd y.ck i ⟨1,κ,(y.ck i).us+room κ,(y.ck i).sp⟩,y.op⟩ nx (.XO (bs i+(y.ck i).us) i)
 | new (hno:∀ i,y.op κ=i+1->¬ (y.ck i).us+room κ<=m) (h:nx<k):Df k m κ bs y nx ⟨upd y.ck nx ⟨1,κ,room κ,(y.ck nx).sp+1⟩,upd y.op κ (nx+1)⟩ (nx+1) (.XO (bs nx) nx)
 | none (hno:∀ i,y.op κ=i+1->¬ (y.ck i).us+room κ<=m) (h:nx=k):Df k m κ bs y nx y nx .none
section
variable {k m κ nx:Nat} {bs:Nat->Nat} {y:Y}
theorem EI (A:Alone k y nx) (hκ:κ<4) {i:Nat} (h:y.op κ=i+1) (hu:(y.ck i).us+room κ<=m):Goes k m κ bs 3 y .see ⟨upd y.ck i ⟨1,κ,(y.ck i).us+room κ,(y.ck i).sp⟩,y.op⟩ (.XO (bs i+(y.ck i).us) i):=by
 obtain⟨hi,hc⟩:=A.opn κ hκ i h
 have h1:=A.CB i hi
 refine .more (y1:=y) (τ1:=.ask i) rfl (by simp[turn,h]) rfl (.more (y1:=y) (τ1:=.grow i (y.ck i)) rfl (by simp[turn,h1,hc,hu]) rfl (.one rfl ?_ rfl))
 simp only[turn,if_pos,h1,hc]
theorem Hy (hm:room κ<=m) {sn:Nat} (ho:y.op κ=sn) (h0:(y.ck nx).st=0):Goes k m κ bs 6 y (.look sn nx) ⟨upd y.ck nx ⟨1,κ,room κ,(y.ck nx).sp+1⟩,upd y.op κ (nx+1)⟩ (.XO (bs nx) nx):=by
 refine .more (y1:=y) (τ1:=.take sn nx (y.ck nx)) rfl (by simp[turn,h0]) rfl ?_
 refine .more (y1:=⟨upd y.ck nx ⟨1,κ,0,(y.ck nx).sp+1⟩,y.op⟩) (τ1:=.opn sn nx ⟨1,κ,0,(y.ck nx).sp+1⟩) rfl (by simp[turn]) rfl ?_
 refine .more (y1:=⟨upd y.ck nx ⟨1,κ,0,(y.ck nx).sp+1⟩,upd y.op κ (nx+1)⟩) (τ1:=.see) rfl (by simp[turn,ho]) rfl ?_
 refine .more (y1:=⟨upd y.ck nx ⟨1,κ,0,(y.ck nx).sp+1⟩,upd y.op κ (nx+1)⟩) (τ1:=.ask nx) rfl (by simp[turn,upd_same]) rfl ?_
 refine .more (y1:=⟨upd y.ck nx ⟨1,κ,0,(y.ck nx).sp+1⟩,upd y.op κ (nx+1)⟩) (τ1:=.grow nx ⟨1,κ,0,(y.ck nx).sp+1⟩) rfl (by simp[turn,upd_same,hm]) rfl ?_
 refine .one rfl ?_ rfl
 simp[turn,upd_same,PN]
theorem Qj (A:Alone k y nx) (hm:room κ<=m) (hk:nx<k) {sn:Nat} (ho:y.op κ=sn):∀ d j,j+d=nx->Goes k m κ bs (d+6) y (.look sn j) ⟨upd y.ck nx ⟨1,κ,room κ,(y.ck nx).sp+1⟩,upd y.op κ (nx+1)⟩ (.XO (bs nx) nx)
 | 0,j,hj=>by
  obtain rfl:j=nx:=by omega
  have:=Hy (k:=k) (bs:=bs) (m:=m) hm ho (A.Tc j (Nat.le_refl _) hk).1
  simpa using this
 | d+1,j,hj=>by
  have h1:=A.CB j (by omega)
  have:=Qj A hm hk ho d (j+1) (by omega)
  refine Goes.more (y1:=y) (τ1:=.look sn (j+1)) rfl ?_ rfl this
  simp only[turn,h1,Tu]
  rw[if_neg (by omega),if_pos (by omega)]
theorem Nv (A:Alone k y nx) (hk:nx=k) {sn:Nat}:∀ d j,j+d+1=k->Goes k m κ bs (d+1) y (.look sn j) y .none
 | 0,j,hj=>by
  have h1:=A.CB j (by omega)
  refine .one rfl ?_ rfl
  simp only[turn,h1,Tu]
  rw[if_neg (by omega),if_neg (by omega)]
 | d+1,j,hj=>by
  have h1:=A.CB j (by omega)
  refine Goes.more (y1:=y) (τ1:=.look sn (j+1)) rfl ?_ rfl (Nv A hk d (j+1) (by omega))
  simp only[turn,h1,Tu]
  rw[if_neg (by omega),if_pos (by omega)]
theorem Qi (hk0:1<=k) (hno:∀ i,y.op κ=i+1->¬ (y.ck i).us+room κ<=m) {N:Nat} {y':Y} {τ':Pl} (g:∀ sn,y.op κ=sn->Goes k m κ bs N y (.look sn 0) y' τ'):∃ N',N'<=N+2/\Goes k m κ bs N' y .see y' τ':=by
 cases h:y.op κ with
 | zero =>
  refine⟨N+1,by omega,.more (y1:=y) (τ1:=.look 0 0) rfl ?_ rfl (g 0 h)⟩
  simp only[turn,h,Tu]
  rw[if_pos (by omega)]
 | succ i =>
  have h2:=hno i h
  refine⟨N+1+1,by omega,.more (y1:=y) (τ1:=.ask i) rfl (by simp[turn,h]) rfl (.more (y1:=y) (τ1:=.look (i+1) 0) rfl ?_ rfl (g (i+1) h))⟩
  simp only[turn,Tu]
  rw[if_neg (fun e=>h2 e.2.2),if_pos (by omega)]
theorem Df.alone {y':Y} {nx':Nat} {τ':Pl} (A:Alone k y nx) (hκ:κ<4) (g:Df k m κ bs y nx y' nx' τ'):Alone k y' nx':=by
 cases g with
 | fit i h hu =>
  obtain⟨hi,hc⟩:=A.opn κ hκ i h
  refine⟨A.le,fun j hj=>?_,fun j h1 h2=>?_,fun c hcc j hj=>?_⟩
  . by_cases e:j=i
    . subst e;simp[upd_same]
    . simp only[ZX _ _ _ _ e];exact A.CB j hj
  . have e:j≠i:=by omega
    simp only[ZX _ _ _ _ e];exact A.Tc j h1 h2
  . obtain⟨a1,a2⟩:=A.opn c hcc j hj
    refine⟨a1,?_⟩
    by_cases e:j=i
    . subst e;simp only[upd_same];exact hc.symm.trans a2
    . simp only[ZX _ _ _ _ e];exact a2
 | new hno h =>
  refine⟨h,fun j hj=>?_,fun j h1 h2=>?_,fun c hcc j hj=>?_⟩
  . by_cases e:j=nx
    . subst e;simp[upd_same]
    . simp only[ZX _ _ _ _ e];exact A.CB j (by omega)
  . have e:j≠nx:=by omega
    simp only[ZX _ _ _ _ e];exact A.Tc j (by omega) h2
  . by_cases ec:c=κ
    . subst ec
      simp only[upd_same] at hj
      obtain rfl:nx=j:=by omega
      exact⟨by omega,by simp[upd_same]⟩
    . simp only[ZX _ _ _ _ ec] at hj
      obtain⟨a1,a2⟩:=A.opn c hcc j hj
      have e:j≠nx:=by omega
      exact⟨by omega,by simp only[ZX _ _ _ _ e];exact a2⟩
 | none hno h=>exact A
theorem Su (A:Alone k y nx) (hκ:κ<4) (hm:17<=m) (hk0:1<=k) (hk:k<=64):∃ N y' nx' τ',N<=k+8/\Goes k m κ bs N y .see y' τ'/\Df k m κ bs y nx y' nx' τ':=by
 have hr:=Yg κ
 have hle:=A.le
 by_cases hf:∃ i,y.op κ=i+1/\(y.ck i).us+room κ<=m
 . obtain⟨i,h,hu⟩:=hf
   exact⟨3,_,_,_,by omega,EI A hκ h hu,.fit i h hu⟩
 . have hno:∀ i,y.op κ=i+1->¬ (y.ck i).us+room κ<=m:=fun i h hu=>hf ⟨i,h,hu⟩
   by_cases hn:nx<k
   . obtain⟨N',hN,g⟩:=Qi hk0 hno (fun sn h=>Qj (bs:=bs) A (by omega) hn h nx 0 (by omega))
     exact⟨N',_,_,_,by omega,g,.new hno hn⟩
   . obtain⟨N',hN,g⟩:=Qi hk0 hno (fun sn h=>Nv (m:=m) (κ:=κ) (bs:=bs) A (by omega) (k - 1) 0 (by omega))
     exact⟨N',_,_,_,by omega,g,.none hno (by omega)⟩
end
end
section
section
variable {t n k m κ:Nat} {z:Int} {own:Bool}
theorem RS {τ:Pl} {q:Q} {x G:Nat} {y':Y} {τ':Pl} {σ:Nat} (ht:turn k m κ (base t n k m) q.y τ=(y',τ')):YP t n k m κ z own σ q (.place x G τ)=VN q x G (y',τ'):=by
 simp only[YP,ht]
theorem Goes.lift {x G:Nat} {N:Nat} {y0:Y} {τ:Pl} {y':Y} {τ':Pl} (g:Goes k m κ (base t n k m) N y0 τ y' τ'):∀ {σ:Nat} {q:Q},q.y=y0->∀ {M:Nat} {q':Q} {β α':Al},(VN { q with y:=y' } x G (y',τ')).2=β->β.ZB=false->Tz t n k m κ z own M (σ+N) { q with y:=y' } β q' α'->Tz t n k m κ z own (N+M) σ q (.place x G τ) q' α':=by
 induction g with
 | @one y τ y' τ' ho ht h =>
  intro σ q hq M q' β α' hβ hb r
  subst hq
  have e:=RS (z:=z) (own:=own) (x:=x) (G:=G) (σ:=σ) ht
  have e2:VN q x G (y',τ')=({ q with y:=y' },β):=by
   subst hβ
   rcases PT τ' with hf | ⟨a,i,rfl⟩ | rfl
   . rw[h] at hf;cases hf
   . rfl
   . rfl
  rw[Nat.add_comm 1 M]
  exact .more rfl (e.trans e2) hb r
 | @more N y τ y1 τ1 y' τ' ho ht h g ih =>
  intro σ q hq M q' β α' hβ hb r
  subst hq
  have e:=RS (z:=z) (own:=own) (x:=x) (G:=G) (σ:=σ) ht
  rw[RQ h] at e
  rw[show N+1+M=N+M+1 by omega]
  exact .more rfl e rfl (ih (q:={ q with y:=y1 }) rfl (β:=β) hβ hb (by rw[show σ+1+N=σ+(N+1) by omega];exact r))
def Q.made (q:Q) (x:Nat) (F:List Nat) (y':Y) (a i κ:Nat) (z:Int) (own:Bool):Q :=
 ⟨q.c+1,q.lk,F,y',upd q.lv i (q.lv i+room κ),upd q.sw x (Zq 1 a (ZE (q.sw x)) 0),upd (upd q.dw a (Zg 1 z x (ZE (q.sw x)) own)) a (Zg 2 z x (ZE (q.sw x)) own),q.db⟩
def Q.back (q:Q) (x:Nat) (F:List Nat) (y':Y):Q:=⟨q.c+1+1,upd q.lk x (hd F),x :: F,y',q.lv,q.sw,q.dw,q.db⟩
theorem Qw {q:Q} {σ:Nat} (h:q.F=[]):Tz t n k m κ z own 1 σ q (.take .idle) q (.over 7 0 (σ+1)):=by
 refine .one rfl ?_ rfl
 simp only[YP,YF,h,Vm]
 rw[<- h]
theorem Qu {q:Q} {σ x:Nat} {F:List Nat} (h:q.F=x :: F) {M:Nat} {q':Q} {α':Al} (g:Tz t n k m κ z own M (σ+4) { q with c:=q.c+1,F:=F } (.place x (ZE (q.sw x)) .see) q' α'):Tz t n k m κ z own (M+4) σ q (.take .idle) q' α':=by
 refine .more (q1:=q) (α1:=.take (.Vl x q.c)) rfl ?_ rfl (.more (q1:=q) (α1:=.take (.TL x q.c (q.lk x))) rfl ?_ rfl (.more (q1:={ q with c:=q.c+1,F:=F }) (α1:=.ask x) rfl ?_ rfl (.more (q1:={ q with c:=q.c+1,F:=F }) (α1:=.place x (ZE (q.sw x)) .see) rfl ?_ rfl g)))
 . simp only[YP,YF,h,Vm]
   rw[<- h]
 . simp only[YP,YF,Vm]
 . simp only[YP,YF,h,Vm,if_true,List.tail_cons]
 . rfl
theorem Qv {q:Q} {σ x:Nat} {F:List Nat} (h:q.F=x :: F) {N:Nat} {y':Y} {a i:Nat} (g:Goes k m κ (base t n k m) N q.y .see y' (.XO a i)):Tz t n k m κ z own (N+4+4) σ q (.take .idle) (q.made x F y' a i κ z own) (.over 0 (Zc x (ZE (q.sw x))) (σ+4+N+2+1)):=by
 refine Qu h ?_
 refine Goes.lift (q:={ q with c:=q.c+1,F:=F }) g rfl (β:=.count x (ZE (q.sw x)) a i) rfl rfl ?_
 exact .more (α1:=.head x (ZE (q.sw x)) a i) rfl rfl rfl (.more (α1:=.shw x (ZE (q.sw x)) a i) rfl rfl rfl (.more (α1:=.ready x (ZE (q.sw x)) a i (σ+4+N+1+1+1)) rfl rfl rfl (.one rfl rfl rfl)))
theorem Jj {q:Q} {σ x:Nat} {F:List Nat} (h:q.F=x :: F) {N:Nat} {y':Y} (g:Goes k m κ (base t n k m) N q.y .see y' .none):Tz t n k m κ z own (N+3+4) σ q (.take .idle) (q.back x F y') (.over 6 0 (σ+4+N+2+1)):=by
 refine Qu h ?_
 refine Goes.lift (q:={ q with c:=q.c+1,F:=F }) g rfl (β:=.give x (ZE (q.sw x)) .idle) rfl rfl ?_
 refine .more (α1:=.give x (ZE (q.sw x)) (.Vl (hd F) (q.c+1))) rfl rfl rfl (.more (α1:=.give x (ZE (q.sw x)) (.TL (hd F) (q.c+1))) rfl rfl rfl (.one rfl ?_ rfl))
 simp only[YP,YM,if_true,PU]
 rfl
end
theorem uz:ZE 8388608=1:=by decide
theorem Df.F9 {k m κ:Nat} {bs:Nat->Nat} {y y':Y} {nx nx' a i:Nat} (A:Alone k y nx) (hκ:κ<4) (hm:room κ<=m) (g:Df k m κ bs y nx y' nx' (.XO a i)):i<k/\a=bs i+(y.ck i).us/\(y.ck i).us+room κ<=m/\(∃ sp,y'.ck i=⟨1,κ,(y.ck i).us+room κ,sp⟩)/\∀ j,j≠i->y'.ck j=y.ck j:=by
 cases g with
 | fit _ h hu =>
  have hlt:=(A.opn κ hκ i h).1
  have:=A.le
  exact⟨by omega,rfl,hu,⟨(y.ck i).sp,by simp only[upd_same]⟩,fun j hj=>by simp only[ZX _ _ _ _ hj]⟩
 | new hno h =>
  have h0:=(A.Tc nx (Nat.le_refl _) h).2
  refine⟨h,by rw[h0];rfl,by omega,⟨(y.ck nx).sp+1,by simp only[upd_same];rw[h0,Nat.zero_add]⟩,fun j hj=>by simp only[ZX _ _ _ _ hj]⟩
theorem Vj {t n k m i j u v:Nat} (hu:u<m) (hv:v<m) (hij:j≠i):base t n k m i+u≠base t n k m j+v:=by
 unfold base
 intro e
 rcases Nat.lt_or_gt_of_ne hij with h | h
 . have:=Nat.mul_le_mul_right m (Nat.succ_le_of_lt h)
   rw[Nat.succ_mul] at this
   omega
 . have:=Nat.mul_le_mul_right m (Nat.succ_le_of_lt h)
   rw[Nat.succ_mul] at this
   omega
section
variable {t n k m κ nx:Nat} {q:Q} {z:Int} {own:Bool}
end
end
end Go.Proofs.YtgehjolndmgffaaGreat
