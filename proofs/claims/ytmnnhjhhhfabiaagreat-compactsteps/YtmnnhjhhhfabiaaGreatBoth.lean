import Derived.Test.YtmnnhjhhhfabiaaGreatPlaceSee
import Derived.Test.YtmnnhjhhhfabiaaGreatLayEnv
import Derived.Test.YtmnnhjhhhfabiaaGreatStruct
namespace Go.Proofs.YtmnnhjhhhfabiaaGreat
open Go.RowKit
section
def ZI (h c : Nat) : Int:=(h : Int) + (c : Int) * 131072
theorem LU {h c h' c' : Nat} (a : h < 131072) (a' : h' < 131072) (e : ZI h c = ZI h' c') : h = h' /\ c = c':=by
 unfold ZI at e;omega
theorem yw (h c : Nat) (a : h <= 65536) (b : c <= 68719476735) : Pn (h : Int) c = ZI h c:=by
 unfold Pn ZI
 rw [YI _ 17 (by omega) (by simp;omega),YI _ 36 (by omega) (by simp;omega)]
theorem O1 (h c : Nat) (w : World) (a : h <= 65536) (b : c <= 68719476735) :
 Calls Tryz.prog 141 #[.int .u64 (ZI h c)] w fun e w'=>e = .returned (.tuple #[iV ((h : Int) - 1),iV c]) /\ w' = w:=by
 have k:=yu (ZI h c) w (by unfold ZI;omega) (by unfold ZI;omega)
 have e1 : ZI h c % 131072 - 1 = (h : Int) - 1:=by unfold ZI;omega
 have e2 : ZI h c / 131072 % 68719476736 = (c : Int):=by unfold ZI;omega
 rwa [e1,e2] at k
theorem LQ (h c : Nat) (w : World) (a : h <= 65536) (b : c <= 68719476735) :
 Calls Tryz.prog 70 #[iV ((h : Int) - 1),iV c] w fun e w'=>e = .returned (.int .u64 (ZI h c)) /\ w' = w:=by
 have k:=Um ((h : Int) - 1) c w (by omega) (by omega) ⟨by omega,by omega⟩
 have e1 : (h : Int) - 1 + 1 = h:=by omega
 rwa [e1,yw h c a b] at k
def hd : List Nat -> Nat
 | []=>0
 | x :: _=>x + 1
def Chain (lk : Nat -> Nat) : List Nat -> Prop
 | []=>True
 | x :: F=>lk x = hd F /\ Chain lk F
theorem Chain.set {lk : Nat -> Nat} {F : List Nat} (h : Chain lk F) (x v : Nat) (hx : x ∉ F) : Chain (upd lk x v) F:=by
 induction F with
 | nil=>trivial
 | cons y F ih =>
  simp only [List.mem_cons,not_or] at hx
  exact ⟨by rw [Z7 _ _ _ _ (fun e=>hx.1 e.symm)];exact h.1,ih h.2 hx.2⟩
structure X6 (t n : Nat) (s : Mm) (σ c : Nat) (lk : Nat -> Nat) (F : List Nat) : Prop where
 len : 6 + t + n * 2 <= s.n
 big : n <= 65535
 st : s.steps = σ
 cs : c <= σ
 top : s.wd 1 = ZI (hd F) c
 vz : ∀ i,i < n -> s.wd (6 + t + i * 2 + 1) = ZI (lk i) 0
 Ie : ∀ i,i < n -> lk i <= n
 chain : Chain lk F
 nd : F.Nodup
 lt : ∀ x,x ∈ F -> x < n
namespace X6
variable {t n : Nat} {s : Mm} {σ c : Nat} {lk : Nat -> Nat} {F : List Nat}
theorem wG (h : X6 t n s σ c lk F) : hd F <= n:=by
 cases F with
 | nil=>exact Nat.zero_le _
 | cons x F=>have:=h.lt x (by simp);simp only [hd];omega
theorem Vw (_ : X6 t n s σ c lk F) (hσ : σ < 1000000) : wrap64 ((σ : Int) + 1) = ((σ + 1 : Nat) : Int):=by
 unfold wrap64;omega
theorem same (h : X6 t n s σ c lk F) (hσ : σ < 1000000) (who : Int) (a : Nat) : X6 t n ((s.by who).step a (s.wd a)) (σ + 1) c lk F:=by
 have e : ((s.by who).step a (s.wd a)).wd = s.wd:=UA _ _
 refine ⟨h.len,h.big,?_,by have:=h.cs;omega,by rw [e];exact h.top,fun i hi=>by rw [e];exact h.vz i hi,h.Ie,h.chain,h.nd,h.lt⟩
 show wrap64 (s.steps + 1) = _
 rw [h.st,h.Vw hσ]
theorem pop {x : Nat} (h : X6 t n s σ c lk (x :: F)) (hσ : σ < 1000000) (who : Int) : X6 t n ((s.by who).step 1 (ZI (lk x) (c + 1))) (σ + 1) (c + 1) lk F:=by
 refine ⟨h.len,h.big,?_,by have:=h.cs;omega,?_,fun i hi=>?_,h.Ie,h.chain.2,(List.nodup_cons.1 h.nd).2,fun y hy=>h.lt y (List.mem_cons_of_mem _ hy)⟩
 · show wrap64 (s.steps + 1) = _
   rw [h.st,h.Vw hσ]
 · rw [h.chain.1]
   show upd s.wd 1 (ZI (hd F) (c + 1)) 1 = ZI (hd F) (c + 1)
   exact upd_same _ _ _
 · show upd s.wd 1 _ _ = _
   rw [Z7 _ _ _ _ (by omega)];exact h.vz i hi
theorem lay (h : X6 t n s σ c lk F) (hσ : σ < 1000000) (who : Int) {x : Nat} (hx : x < n) (hF : x ∉ F) (q : Nat) (hq : q <= n) : X6 t n ((s.by who).step (6 + t + x * 2 + 1) (ZI q 0)) (σ + 1) c (upd lk x q) F:=by
 refine ⟨h.len,h.big,?_,by have:=h.cs;omega,?_,fun i hi=>?_,fun i hi=>?_,h.chain.set x q hF,h.nd,h.lt⟩
 · show wrap64 (s.steps + 1) = _
   rw [h.st,h.Vw hσ]
 · show upd s.wd _ _ 1 = _
   rw [Z7 _ _ _ _ (by omega)];exact h.top
 · show upd s.wd _ _ _ = _
   by_cases hi' : i = x
   · subst hi';rw [upd_same,upd_same]
   · rw [Z7 _ _ _ _ (by omega),Z7 _ _ _ _ hi'];exact h.vz i hi
 · by_cases hi' : i = x
   · subst hi';rw [upd_same];exact hq
   · rw [Z7 _ _ _ _ hi'];exact h.Ie i hi
theorem push (h : X6 t n s σ c lk F) (hσ : σ < 1000000) (who : Int) {x : Nat} (hx : x < n) (hF : x ∉ F) (hl : lk x = hd F) : X6 t n ((s.by who).step 1 (ZI (x + 1) (c + 1))) (σ + 1) (c + 1) lk (x :: F):=by
 refine ⟨h.len,h.big,?_,by have:=h.cs;omega,?_,fun i hi=>?_,h.Ie,⟨hl,h.chain⟩,List.nodup_cons.2 ⟨hF,h.nd⟩,fun y hy=>?_⟩
 · show wrap64 (s.steps + 1) = _
   rw [h.st,h.Vw hσ]
 · show upd s.wd 1 _ 1 = _
   rw [upd_same];rfl
 · show upd s.wd 1 _ _ = _
   rw [Z7 _ _ _ _ (by omega)];exact h.vz i hi
 · rcases List.mem_cons.1 hy with rfl | hy
   · exact hx
   · exact h.lt y hy
end X6
def Xv (s : Nat) : Nat -> List Nat
 | 0=>[]
 | k + 1=>(s - (k + 1)) :: Xv s k
theorem Ui (s : Nat) : ∀ k,k <= s -> ∀ x,x ∈ Xv s k -> s - k <= x /\ x < s
 | 0,_,x,h=>by simp [Xv] at h
 | k + 1,hk,x,h=>by
  rcases List.mem_cons.1 h with rfl | h
  · omega
  · have:=Ui s k (by omega) x h;omega
theorem Tz (s : Nat) : ∀ k,k <= s -> (Xv s k).Nodup
 | 0,_=>List.nodup_nil
 | k + 1,hk=>List.nodup_cons.2 ⟨fun h=>by have:=Ui s k (by omega) _ h;omega,Tz s k (by omega)⟩
def NS (s j : Nat) : Nat:=if j + 1 < s then j + 2 else 0
theorem Tv (s : Nat) : ∀ k,k <= s -> Chain (NS s) (Xv s k)
 | 0,_=>trivial
 | 1,hk=>⟨if_neg (show ¬ (s - (0 + 1) + 1 < s) by omega),trivial⟩
 | k + 2,hk=>⟨(if_pos (show s - (k + 1 + 1) + 1 < s by omega)).trans (show s - (k + 1 + 1) + 2 = s - (k + 1) + 1 by omega),Tv s (k + 1) (by omega)⟩
theorem Js (t s len j : Nat) (hj : j <= 65536) : (Mm.laid t s len j).steps = ((1 + 2 * j : Nat) : Int):=by
 induction j with
 | zero=>show wrap64 (0 + 1) = _;unfold wrap64;omega
 | succ j ih =>
  show wrap64 (wrap64 ((Mm.laid t s len j).steps + 1) + 1) = _
  rw [ih (by omega)]
  unfold wrap64;omega
theorem uy (t n len : Nat) (h1 : 1 <= n) (h2 : n <= 65535) (hl : 6 + t + n * 2 <= len) : X6 t n (Mm.laid t n len n) (1 + 2 * n) 0 (NS n) (Xv n n):=by
 refine ⟨by rw [Mm.Ob];exact hl,h2,Js t n len n (by omega),Nat.zero_le _,?_,fun i hi=>?_,fun i hi=>?_,Tv n n (Nat.le_refl _),Tz n n (Nat.le_refl _),fun x hx=>(Ui n n (Nat.le_refl _) x hx).2⟩
 · rw [BH]
   cases n with
   | zero=>omega
   | succ k=>simp only [Xv,hd,ZI];omega
 · rw [FT t n len n i hi]
   unfold Un NS ZI
   split <;> omega
 · unfold NS;split <;> omega
end
section
theorem X6.off {t n : Nat} {s : Mm} {σ c : Nat} {lk : Nat -> Nat} {F : List Nat} (h : X6 t n s σ c lk F) (hσ : σ < 1000000) (who : Int) (a : Nat) (v : Int) (h1 : a ≠ 1) (h2 : ∀ i,i < n -> a ≠ 6 + t + i * 2 + 1) : X6 t n ((s.by who).step a v) (σ + 1) c lk F:=by
 refine ⟨h.len,h.big,?_,by have:=h.cs;omega,?_,fun i hi=>?_,h.Ie,h.chain,h.nd,h.lt⟩
 · show wrap64 (s.steps + 1) = _
   rw [h.st,h.Vw hσ]
 · show upd s.wd a v 1 = _
   rw [Z7 _ _ _ _ (Ne.symm h1)];exact h.top
 · show upd s.wd a v _ = _
   rw [Z7 _ _ _ _ (Ne.symm (h2 i hi))];exact h.vz i hi
theorem Yg.off {t n k m : Nat} {s : Mm} {σ : Nat} {y : Y} (h : Yg t n k m s σ y) (hσ : σ < 1000000) (who : Int) (a : Nat) (v : Int) (h1 : ¬ (2 <= a /\ a < 6)) (h2 : ∀ i,i < k -> a ≠ 6 + t + n * 2 + i * 3) : Yg t n k m ((s.by who).step a v) (σ + 1) y:=by
 refine ⟨h.len,?_,fun i hi=>?_,fun c hc=>?_,fun i hi=>(h.ok i hi).up (by omega),h.yl⟩
 · show wrap64 (s.steps + 1) = _
   rw [h.st,h.Vw hσ]
 · show upd s.wd a v _ = _
   rw [Z7 _ _ _ _ (Ne.symm (h2 i hi))];exact h.LG i hi
 · show upd s.wd a v _ = _
   rw [Z7 _ _ _ _ (by omega)];exact h.xe c hc
end
end Go.Proofs.YtmnnhjhhhfabiaaGreat
