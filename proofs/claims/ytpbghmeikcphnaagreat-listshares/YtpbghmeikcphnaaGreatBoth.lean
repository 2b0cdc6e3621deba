import Derived.Test.YtpbghmeikcphnaaGreatPlaceSee
import Derived.Test.YtpbghmeikcphnaaGreatLayEnv
import Derived.Test.YtpbghmeikcphnaaGreatStruct
namespace Go.Proofs.YtpbghmeikcphnaaGreat
open Go.RowKit
section
def ZA (h c:Nat):Int:=(h:Int)+(c:Int) * 131072
theorem Le {h c h' c':Nat} (a:h<131072) (a':h'<131072) (e:ZA h c=ZA h' c'):h=h'/\c=c':=by
 unfold ZA at e;omega
theorem zg (h c:Nat) (a:h<=65536) (b:c<=68719476735):Px (h:Int) c=ZA h c:=by
 unfold Px ZA
 rw[Y3 _ 17 (by omega) (by simp;omega),Y3 _ 36 (by omega) (by simp;omega)]
theorem H7 (h c:Nat) (w:World) (a:h<=65536) (b:c<=68719476735) :
 Calls Tryz.prog 134 #[.int .u64 (ZA h c)] w fun e w'=>e=.returned (.tuple #[iV ((h:Int) - 1),iV c])/\w'=w:=by
 have k:=yZ (ZA h c) w (by unfold ZA;omega) (by unfold ZA;omega)
 have e1:ZA h c % 131072 - 1=(h:Int) - 1:=by unfold ZA;omega
 have e2:ZA h c / 131072 % 68719476736=(c:Int):=by unfold ZA;omega
 rwa [e1,e2] at k
theorem Ld (h c:Nat) (w:World) (a:h<=65536) (b:c<=68719476735) :
 Calls Tryz.prog 57 #[iV ((h:Int) - 1),iV c] w fun e w'=>e=.returned (.int .u64 (ZA h c))/\w'=w:=by
 have k:=Uj ((h:Int) - 1) c w (by omega) (by omega) ⟨by omega,by omega⟩
 have e1:(h:Int) - 1+1=h:=by omega
 rwa [e1,zg h c a b] at k
def hd:List Nat->Nat
 | []=>0
 | x :: _=>x+1
def Chain (lk:Nat->Nat):List Nat->Prop
 | []=>True
 | x :: F=>lk x=hd F/\Chain lk F
theorem Chain.set {lk:Nat->Nat} {F:List Nat} (h:Chain lk F) (x v:Nat) (hx:x∉F):Chain (upd lk x v) F:=by
 induction F with
 | nil=>trivial
 | cons y F ih =>
  simp only[List.mem_cons,not_or] at hx
  exact⟨by rw[Z9 _ _ _ _ (fun e=>hx.1 e.symm)];exact h.1,ih h.2 hx.2⟩
structure Yw (t n:Nat) (s:Mm) (σ c:Nat) (lk:Nat->Nat) (F:List Nat):Prop where
 len:6+t+n * 2<=s.n
 big:n<=65535
 st:s.steps=σ
 cs:c<=σ
 top:s.wd 1=ZA (hd F) c
 uO:∀ i,i<n->s.wd (6+t+i * 2+1)=ZA (lk i) 0
 Gz:∀ i,i<n->lk i<=n
 chain:Chain lk F
 nd:F.Nodup
 lt:∀ x,x∈F->x<n
namespace Yw
variable {t n:Nat} {s:Mm} {σ c:Nat} {lk:Nat->Nat} {F:List Nat}
theorem pI (h:Yw t n s σ c lk F):hd F<=n:=by
 cases F with
 | nil=>exact Nat.zero_le _
 | cons x F=>have:=h.lt x (by simp);simp only[hd];omega
theorem WM (_:Yw t n s σ c lk F) (hσ:σ<1000000):wrap64 ((σ:Int)+1)=((σ+1:Nat):Int):=by
 unfold wrap64;omega
theorem same (h:Yw t n s σ c lk F) (hσ:σ<1000000) (who:Int) (a:Nat):Yw t n ((s.by who).step a (s.wd a)) (σ+1) c lk F:=by
 have e:((s.by who).step a (s.wd a)).wd=s.wd:=Yu _ _
 refine⟨h.len,h.big,?_,by have:=h.cs;omega,by rw[e];exact h.top,fun i hi=>by rw[e];exact h.uO i hi,h.Gz,h.chain,h.nd,h.lt⟩
 show wrap64 (s.steps+1)=_
 rw[h.st,h.WM hσ]
theorem pop {x:Nat} (h:Yw t n s σ c lk (x :: F)) (hσ:σ<1000000) (who:Int):Yw t n ((s.by who).step 1 (ZA (lk x) (c+1))) (σ+1) (c+1) lk F:=by
 refine⟨h.len,h.big,?_,by have:=h.cs;omega,?_,fun i hi=>?_,h.Gz,h.chain.2,(List.nodup_cons.1 h.nd).2,fun y hy=>h.lt y (List.mem_cons_of_mem _ hy)⟩
 . show wrap64 (s.steps+1)=_
   rw[h.st,h.WM hσ]
 . rw[h.chain.1]
   show upd s.wd 1 (ZA (hd F) (c+1)) 1=ZA (hd F) (c+1)
   exact upd_same _ _ _
 . show upd s.wd 1 _ _=_
   rw[Z9 _ _ _ _ (by omega)];exact h.uO i hi
theorem lay (h:Yw t n s σ c lk F) (hσ:σ<1000000) (who:Int) {x:Nat} (hx:x<n) (hF:x∉F) (q:Nat) (hq:q<=n):Yw t n ((s.by who).step (6+t+x * 2+1) (ZA q 0)) (σ+1) c (upd lk x q) F:=by
 refine⟨h.len,h.big,?_,by have:=h.cs;omega,?_,fun i hi=>?_,fun i hi=>?_,h.chain.set x q hF,h.nd,h.lt⟩
 . show wrap64 (s.steps+1)=_
   rw[h.st,h.WM hσ]
 . show upd s.wd _ _ 1=_
   rw[Z9 _ _ _ _ (by omega)];exact h.top
 . show upd s.wd _ _ _=_
   by_cases hi':i=x
   . subst hi';rw[upd_same,upd_same]
   . rw[Z9 _ _ _ _ (by omega),Z9 _ _ _ _ hi'];exact h.uO i hi
 . by_cases hi':i=x
   . subst hi';rw[upd_same];exact hq
   . rw[Z9 _ _ _ _ hi'];exact h.Gz i hi
theorem push (h:Yw t n s σ c lk F) (hσ:σ<1000000) (who:Int) {x:Nat} (hx:x<n) (hF:x∉F) (hl:lk x=hd F):Yw t n ((s.by who).step 1 (ZA (x+1) (c+1))) (σ+1) (c+1) lk (x :: F):=by
 refine⟨h.len,h.big,?_,by have:=h.cs;omega,?_,fun i hi=>?_,h.Gz,⟨hl,h.chain⟩,List.nodup_cons.2 ⟨hF,h.nd⟩,fun y hy=>?_⟩
 . show wrap64 (s.steps+1)=_
   rw[h.st,h.WM hσ]
 . show upd s.wd 1 _ 1=_
   rw[upd_same];rfl
 . show upd s.wd 1 _ _=_
   rw[Z9 _ _ _ _ (by omega)];exact h.uO i hi
 . rcases List.mem_cons.1 hy with rfl | hy
   . exact hx
   . exact h.lt y hy
end Yw
def Yj (s:Nat):Nat->List Nat
 | 0=>[]
 | k+1=>(s - (k+1)) :: Yj s k
theorem VM (s:Nat):∀ k,k<=s->∀ x,x∈Yj s k->s - k<=x/\x<s
 | 0,_,x,h=>by simp[Yj] at h
 | k+1,hk,x,h=>by
  rcases List.mem_cons.1 h with rfl | h
  . omega
  . have:=VM s k (by omega) x h;omega
theorem Tj (s:Nat):∀ k,k<=s->(Yj s k).Nodup
 | 0,_=>List.nodup_nil
 | k+1,hk=>List.nodup_cons.2 ⟨fun h=>by have:=VM s k (by omega) _ h;omega,Tj s k (by omega)⟩
theorem Qo (s:Nat):∀ k,(Yj s k).length=k
 | 0=>rfl
 | k+1=>by simp[Yj,Qo s k]
def Nk (s j:Nat):Nat:=if j+1<s then j+2 else 0
theorem Ti (s:Nat):∀ k,k<=s->Chain (Nk s) (Yj s k)
 | 0,_=>trivial
 | 1,hk=>⟨if_neg (show ¬ (s - (0+1)+1<s) by omega),trivial⟩
 | k+2,hk=>⟨(if_pos (show s - (k+1+1)+1<s by omega)).trans (show s - (k+1+1)+2=s - (k+1)+1 by omega),Ti s (k+1) (by omega)⟩
theorem IY (t s len j:Nat) (hj:j<=65536):(Mm.laid t s len j).steps=((1+2 * j:Nat):Int):=by
 induction j with
 | zero=>show wrap64 (0+1)=_;unfold wrap64;omega
 | succ j ih =>
  show wrap64 (wrap64 ((Mm.laid t s len j).steps+1)+1)=_
  rw[ih (by omega)]
  unfold wrap64;omega
theorem sD (t n len:Nat) (h1:1<=n) (h2:n<=65535) (hl:6+t+n * 2<=len):Yw t n (Mm.laid t n len n) (1+2 * n) 0 (Nk n) (Yj n n):=by
 refine⟨by rw[Mm.Ov];exact hl,h2,IY t n len n (by omega),Nat.zero_le _,?_,fun i hi=>?_,fun i hi=>?_,Ti n n (Nat.le_refl _),Tj n n (Nat.le_refl _),fun x hx=>(VM n n (Nat.le_refl _) x hx).2⟩
 . rw[D7]
   cases n with
   | zero=>omega
   | succ k=>simp only[Yj,hd,ZA];omega
 . rw[Gi t n len n i hi]
   unfold Uk Nk ZA
   split <;> omega
 . unfold Nk;split <;> omega
end
section
theorem Yw.off {t n:Nat} {s:Mm} {σ c:Nat} {lk:Nat->Nat} {F:List Nat} (h:Yw t n s σ c lk F) (hσ:σ<1000000) (who:Int) (a:Nat) (v:Int) (h1:a≠1) (h2:∀ i,i<n->a≠6+t+i * 2+1):Yw t n ((s.by who).step a v) (σ+1) c lk F:=by
 refine⟨h.len,h.big,?_,by have:=h.cs;omega,?_,fun i hi=>?_,h.Gz,h.chain,h.nd,h.lt⟩
 . show wrap64 (s.steps+1)=_
   rw[h.st,h.WM hσ]
 . show upd s.wd a v 1=_
   rw[Z9 _ _ _ _ (Ne.symm h1)];exact h.top
 . show upd s.wd a v _=_
   rw[Z9 _ _ _ _ (Ne.symm (h2 i hi))];exact h.uO i hi
theorem Xv.off {t n k m:Nat} {s:Mm} {σ:Nat} {y:Y} (h:Xv t n k m s σ y) (hσ:σ<1000000) (who:Int) (a:Nat) (v:Int) (h1:¬ (2<=a/\a<6)) (h2:∀ i,i<k->a≠6+t+n * 2+i * 3):Xv t n k m ((s.by who).step a v) (σ+1) y:=by
 refine⟨h.len,?_,fun i hi=>?_,fun c hc=>?_,fun i hi=>(h.ok i hi).up (by omega),h.uN⟩
 . show wrap64 (s.steps+1)=_
   rw[h.st,h.WM hσ]
 . show upd s.wd a v _=_
   rw[Z9 _ _ _ _ (Ne.symm (h2 i hi))];exact h.Aq i hi
 . show upd s.wd a v _=_
   rw[Z9 _ _ _ _ (by omega)];exact h.uM c hc
end
end Go.Proofs.YtpbghmeikcphnaaGreat
