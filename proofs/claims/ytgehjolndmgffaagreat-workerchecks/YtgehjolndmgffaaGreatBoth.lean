import Derived.Test.YtgehjolndmgffaaGreatPlaceSee
import Derived.Test.YtgehjolndmgffaaGreatLayEnv
import Derived.Test.YtgehjolndmgffaaGreatStruct
namespace Go.Proofs.YtgehjolndmgffaaGreat
open Go.RowKit
section
def ZC (h c:Nat):Int:=(h:Int)+(c:Int) * 131072
theorem Nq {h c h' c':Nat} (a:h<131072) (a':h'<131072) (e:ZC h c=ZC h' c'):h=h'/\c=c':=by
 unfold ZC at e;omega
theorem BJ (h c:Nat) (a:h<=65536) (b:c<=68719476735):Qo (h:Int) c=ZC h c:=by
 unfold Qo ZC
 rw[Ze _ 17 (by omega) (by simp;omega),Ze _ 36 (by omega) (by simp;omega)]
theorem Jw (h c:Nat) (w:World) (a:h<=65536) (b:c<=68719476735) :
 Calls Tryz.prog 156 #[.int .u64 (ZC h c)] w fun e w'=>e=.returned (.tuple #[iV ((h:Int) - 1),iV c])/\w'=w:=by
 have k:=BI (ZC h c) w (by unfold ZC;omega) (by unfold ZC;omega)
 have e1:ZC h c % 131072 - 1=(h:Int) - 1:=by unfold ZC;omega
 have e2:ZC h c / 131072 % 68719476736=(c:Int):=by unfold ZC;omega
 rwa [e1,e2] at k
theorem Np (h c:Nat) (w:World) (a:h<=65536) (b:c<=68719476735) :
 Calls Tryz.prog 50 #[iV ((h:Int) - 1),iV c] w fun e w'=>e=.returned (.int .u64 (ZC h c))/\w'=w:=by
 have k:=U9 ((h:Int) - 1) c w (by omega) (by omega) ⟨by omega,by omega⟩
 have e1:(h:Int) - 1+1=h:=by omega
 rwa [e1,BJ h c a b] at k
def hd:List Nat->Nat
 | []=>0
 | x :: _=>x+1
def Chain (lk:Nat->Nat):List Nat->Prop
 | []=>True
 | x :: F=>lk x=hd F/\Chain lk F
theorem Chain.set {lk:Nat->Nat} {F:List Nat} (h:Chain lk F) (x v:Nat) (hx:x∉F):Chain (upd lk x v) F:=by
 induction F with
 | nil=>trivial
 | cons y F ih =>
  simp only[List.mem_cons,not_or] at hx
  exact⟨by rw[ZX _ _ _ _ (fun e=>hx.1 e.symm)];exact h.1,ih h.2 hx.2⟩
structure YH (t n:Nat) (s:Mm) (σ c:Nat) (lk:Nat->Nat) (F:List Nat):Prop where
 len:6+t+n * 2<=s.n
 big:n<=65535
 st:s.steps=σ
 cs:c<=σ
 top:s.wd 1=ZC (hd F) c
 yC:∀ i,i<n->s.wd (6+t+i * 2+1)=ZC (lk i) 0
 IQ:∀ i,i<n->lk i<=n
 chain:Chain lk F
 nd:F.Nodup
 lt:∀ x,x∈F->x<n
namespace YH
variable {t n:Nat} {s:Mm} {σ c:Nat} {lk:Nat->Nat} {F:List Nat}
theorem zX (h:YH t n s σ c lk F):hd F<=n:=by
 cases F with
 | nil=>exact Nat.zero_le _
 | cons x F=>have:=h.lt x (by simp);simp only[hd];omega
theorem Xk (_:YH t n s σ c lk F) (hσ:σ<1000000):wrap64 ((σ:Int)+1)=((σ+1:Nat):Int):=by
 unfold wrap64;omega
theorem same (h:YH t n s σ c lk F) (hσ:σ<1000000) (who:Int) (a:Nat):YH t n ((s.by who).step a (s.wd a)) (σ+1) c lk F:=by
 have e:((s.by who).step a (s.wd a)).wd=s.wd:=Vg _ _
 refine⟨h.len,h.big,?_,by have:=h.cs;omega,by rw[e];exact h.top,fun i hi=>by rw[e];exact h.yC i hi,h.IQ,h.chain,h.nd,h.lt⟩
 show wrap64 (s.steps+1)=_
 rw[h.st,h.Xk hσ]
theorem pop {x:Nat} (h:YH t n s σ c lk (x :: F)) (hσ:σ<1000000) (who:Int):YH t n ((s.by who).step 1 (ZC (lk x) (c+1))) (σ+1) (c+1) lk F:=by
 refine⟨h.len,h.big,?_,by have:=h.cs;omega,?_,fun i hi=>?_,h.IQ,h.chain.2,(List.nodup_cons.1 h.nd).2,fun y hy=>h.lt y (List.mem_cons_of_mem _ hy)⟩
 . show wrap64 (s.steps+1)=_
   rw[h.st,h.Xk hσ]
 . rw[h.chain.1]
   show upd s.wd 1 (ZC (hd F) (c+1)) 1=ZC (hd F) (c+1)
   exact upd_same _ _ _
 . show upd s.wd 1 _ _=_
   rw[ZX _ _ _ _ (by omega)];exact h.yC i hi
theorem lay (h:YH t n s σ c lk F) (hσ:σ<1000000) (who:Int) {x:Nat} (hx:x<n) (hF:x∉F) (q:Nat) (hq:q<=n):YH t n ((s.by who).step (6+t+x * 2+1) (ZC q 0)) (σ+1) c (upd lk x q) F:=by
 refine⟨h.len,h.big,?_,by have:=h.cs;omega,?_,fun i hi=>?_,fun i hi=>?_,h.chain.set x q hF,h.nd,h.lt⟩
 . show wrap64 (s.steps+1)=_
   rw[h.st,h.Xk hσ]
 . show upd s.wd _ _ 1=_
   rw[ZX _ _ _ _ (by omega)];exact h.top
 . show upd s.wd _ _ _=_
   by_cases hi':i=x
   . subst hi';rw[upd_same,upd_same]
   . rw[ZX _ _ _ _ (by omega),ZX _ _ _ _ hi'];exact h.yC i hi
 . by_cases hi':i=x
   . subst hi';rw[upd_same];exact hq
   . rw[ZX _ _ _ _ hi'];exact h.IQ i hi
theorem push (h:YH t n s σ c lk F) (hσ:σ<1000000) (who:Int) {x:Nat} (hx:x<n) (hF:x∉F) (hl:lk x=hd F):YH t n ((s.by who).step 1 (ZC (x+1) (c+1))) (σ+1) (c+1) lk (x :: F):=by
 refine⟨h.len,h.big,?_,by have:=h.cs;omega,?_,fun i hi=>?_,h.IQ,⟨hl,h.chain⟩,List.nodup_cons.2 ⟨hF,h.nd⟩,fun y hy=>?_⟩
 . show wrap64 (s.steps+1)=_
   rw[h.st,h.Xk hσ]
 . show upd s.wd 1 _ 1=_
   rw[upd_same];rfl
 . show upd s.wd 1 _ _=_
   rw[ZX _ _ _ _ (by omega)];exact h.yC i hi
 . rcases List.mem_cons.1 hy with rfl | hy
   . exact hx
   . exact h.lt y hy
end YH
def YB (s:Nat):Nat->List Nat
 | 0=>[]
 | k+1=>(s - (k+1)) :: YB s k
theorem Xu (s:Nat):∀ k,k<=s->∀ x,x∈YB s k->s - k<=x/\x<s
 | 0,_,x,h=>by simp[YB] at h
 | k+1,hk,x,h=>by
  rcases List.mem_cons.1 h with rfl | h
  . omega
  . have:=Xu s k (by omega) x h;omega
theorem Uu (s:Nat):∀ k,k<=s->(YB s k).Nodup
 | 0,_=>List.nodup_nil
 | k+1,hk=>List.nodup_cons.2 ⟨fun h=>by have:=Xu s k (by omega) _ h;omega,Uu s k (by omega)⟩
def N9 (s j:Nat):Nat:=if j+1<s then j+2 else 0
theorem Ut (s:Nat):∀ k,k<=s->Chain (N9 s) (YB s k)
 | 0,_=>trivial
 | 1,hk=>⟨if_neg (show ¬ (s - (0+1)+1<s) by omega),trivial⟩
 | k+2,hk=>⟨(if_pos (show s - (k+1+1)+1<s by omega)).trans (show s - (k+1+1)+2=s - (k+1)+1 by omega),Ut s (k+1) (by omega)⟩
theorem Kz (t s len j:Nat) (hj:j<=65536):(Mm.laid t s len j).steps=((1+2 * j:Nat):Int):=by
 induction j with
 | zero=>show wrap64 (0+1)=_;unfold wrap64;omega
 | succ j ih =>
  show wrap64 (wrap64 ((Mm.laid t s len j).steps+1)+1)=_
  rw[ih (by omega)]
  unfold wrap64;omega
theorem xk (t n len:Nat) (h1:1<=n) (h2:n<=65535) (hl:6+t+n * 2<=len):YH t n (Mm.laid t n len n) (1+2 * n) 0 (N9 n) (YB n n):=by
 refine⟨by rw[Mm.Pm];exact hl,h2,Kz t n len n (by omega),Nat.zero_le _,?_,fun i hi=>?_,fun i hi=>?_,Ut n n (Nat.le_refl _),Uu n n (Nat.le_refl _),fun x hx=>(Xu n n (Nat.le_refl _) x hx).2⟩
 . rw[E5]
   cases n with
   | zero=>omega
   | succ k=>simp only[YB,hd,ZC];omega
 . rw[Iu t n len n i hi]
   unfold Va N9 ZC
   split <;> omega
 . unfold N9;split <;> omega
end
section
theorem YH.off {t n:Nat} {s:Mm} {σ c:Nat} {lk:Nat->Nat} {F:List Nat} (h:YH t n s σ c lk F) (hσ:σ<1000000) (who:Int) (a:Nat) (v:Int) (h1:a≠1) (h2:∀ i,i<n->a≠6+t+i * 2+1):YH t n ((s.by who).step a v) (σ+1) c lk F:=by
 refine⟨h.len,h.big,?_,by have:=h.cs;omega,?_,fun i hi=>?_,h.IQ,h.chain,h.nd,h.lt⟩
 . show wrap64 (s.steps+1)=_
   rw[h.st,h.Xk hσ]
 . show upd s.wd a v 1=_
   rw[ZX _ _ _ _ (Ne.symm h1)];exact h.top
 . show upd s.wd a v _=_
   rw[ZX _ _ _ _ (Ne.symm (h2 i hi))];exact h.yC i hi
theorem XG.off {t n k m:Nat} {s:Mm} {σ:Nat} {y:Y} (h:XG t n k m s σ y) (hσ:σ<1000000) (who:Int) (a:Nat) (v:Int) (h1:¬ (2<=a/\a<6)) (h2:∀ i,i<k->a≠6+t+n * 2+i * 3):XG t n k m ((s.by who).step a v) (σ+1) y:=by
 refine⟨h.len,?_,fun i hi=>?_,fun c hc=>?_,fun i hi=>(h.ok i hi).up (by omega),h.yB⟩
 . show wrap64 (s.steps+1)=_
   rw[h.st,h.Xk hσ]
 . show upd s.wd a v _=_
   rw[ZX _ _ _ _ (Ne.symm (h2 i hi))];exact h.CX i hi
 . show upd s.wd a v _=_
   rw[ZX _ _ _ _ (by omega)];exact h.yA c hc
end
end Go.Proofs.YtgehjolndmgffaaGreat
