import Derived.Test.YtmnnhjhhhfabiaaGreatAccCheck
import Derived.Test.YtmnnhjhhhfabiaaGreatMovSee
import Derived.Test.YtmnnhjhhhfabiaaGreatMovGo
namespace Go.Proofs.YtmnnhjhhhfabiaaGreat
open Go.RowKit
section
end
section
end
section
theorem Lr (u : Int) (h : Wd u) : CellIs u (uV u) (ry u) (xC u):=⟨h.1,h.2,rfl,rfl,rfl⟩
section
variable {w : World} {L : Loc} {s : Mm} {b o : Nat} {T : TypeId} {cs : Array Value} {t n k m σ : Nat} {g p r : Int} {q : Q} {own : Bool}
end
end
section
section
variable {w : World} {L : Loc} {t n k m σ : Nat} {s : Mm} {q : Q} {own : Bool}
end
end
section
section
variable {w0 w w' : World} {L : Loc} {bE t n k m σ nx : Nat} {s : Mm} {q : Q} {gen : Nat -> Nat} {ls : List Ox} {own : Bool}
end
section
variable {w0 w : World} {L : Loc} {bE σ : Nat} {s : Mm}
end
end
section
section
variable {q : Q} {v : Int} {A V σ : Nat}
end
end
section
def Mv.sec : Mv -> MV -> Prop
 | .see _ f,a=>a.sp = f
 | .place v _ f,a=>a.se = v /\ a.sp = f
 | .head v _ _ f,a=>a.se = v /\ a.sp = f
 | .mark v _ _ f,a=>a.se = v /\ a.sp = f
 | .load v _ _ j f,a=>a.se = v /\ a.sp = f /\ a.ce = j
 | .freeze v c _ _ j f,a=>a.se = v /\ a.sp = f /\ a.ce = j /\ a.wa = c
 | .copy v c _ _ j f,a=>a.se = v /\ a.sp = f /\ a.ce = j /\ a.wa = c
 | .shw v _ _ f,a=>a.se = v /\ a.sp = f
 | .ready _ _,a=>a.ou = 1
 | .grow _ _,a=>a.ou = 1
 | .fall _ _,a=>a.ou = 1
 | .TV o _ _,a=>a.ou = o
 | .over o _,a=>a.ou = o
structure QN (W : Mw) (μ : Mv) (a : MV) : Prop where
 nx : a.nx = μ.nx
 ad : a.ad = W.A
 sz : a.sz = W.Z
 sl : a.sl = W.x
 gn : a.gn = W.G
 ow : a.own = W.own
 pl : μ.pl.cells W.κ a.pl
 sec : μ.sec a
theorem wB (W : Mw) (kd : Int) : QN W (.see .see 0) (pq W.A kd W.Z W.x W.G W.own W.κ) :=
 ⟨rfl,rfl,rfl,rfl,rfl,rfl,⟨_,_,_,_,_,rfl⟩,rfl⟩
def Mv.pg (k m κ σ : Nat) : Mv -> Prop
 | .place _ τ _=>τ.good k m κ σ
 | _=>True
structure Bi (w : World) (L : Loc) (s : Mm) (b o : Nat) (T : TypeId) (cs : Array Value) (t n k m σ : Nat) (W : Mw) (who : Int) (μ : Mv) (q' : Q) (μ' : Mv) (w' : World) (s' : Mm) (cs' : Array Value) (a' : MV) : Prop where
 mm : Z9 w' L s'
 tw : Zm t n k m s' (σ + 1) q'
 mv : ZL w' b o T cs' a'
 is : QN W μ' a'
 same : Same o 19 cs cs'
 only : Only (L.and b) w w'
 pg : μ'.pg k m W.κ (σ + 1)
 st : ∃ v,s' = (s.by who).step (μ.at t n W) v
namespace Zm
variable {t n k m : Nat} {s : Mm} {σ : Nat} {q : Q}
theorem shown (h : Zm t n k m s σ q) (hσ : σ < 1000000) (who : Int) {x : Nat} (hx : x < n) (v : Int) (v0 : 0 <= v) (v1 : v <= 18446744073709551615) {i r : Nat} (hr : r <= 17) :
 Zm t n k m ((s.by who).step (6 + t + x * 2) v) (σ + 1) { q with sw:=upd q.sw x v,lv:=upd q.lv i (q.lv i + r),db:=upd q.db i (q.db i + r) }:=by
 have T:=h.shows hσ who hx v v0 v1
 refine ⟨T.pile,T.YN,fun j hj=>?_,fun j hj=>?_,T.Qj,T.KU,T.LH,T.ep⟩
 · rw [T.KW j hj]
   show Ub (q.lv j) (q.db j) = Ub (upd q.lv i (q.lv i + r) j) (upd q.db i (q.db i + r) j)
   by_cases e : j = i
   · subst e;rw [upd_same,upd_same,En]
   · rw [Z7 _ _ _ _ e,Z7 _ _ _ _ e]
 · show upd q.lv i (q.lv i + r) j <= 17 * (σ + 1)
   by_cases e : j = i
   · subst e;rw [upd_same];have:=h.LJ j hj;omega
   · rw [Z7 _ _ _ _ e];have:=h.LJ j hj;omega
theorem pays (h : Zm t n k m s σ q) (hσ : σ < 1000000) (who : Int) {i r : Nat} (hi : i < k) (hl : r <= q.db i) :
 Zm t n k m ((s.by who).step (6 + t + n * 2 + i * 3 + 1) (sum64 (s.wd (6 + t + n * 2 + i * 3 + 1)) (Ym (r : Int)))) (σ + 1) { q with db:=upd q.db i (q.db i - r) }:=by
 have hv : sum64 (s.wd (6 + t + n * 2 + i * 3 + 1)) (Ym (r : Int)) = Ub (q.lv i) (q.db i - r):=by
  rw [h.KW i hi];exact zN _ _ _ hl
 refine ⟨h.pile.off hσ who _ _ (by omega) (fun x hx=>by omega),h.YN.off hσ who _ _ (by omega) (fun j hj=>by omega),fun j hj=>?_,fun j hj=>?_,fun x hx=>?_,h.KU,fun b hb=>?_,?_⟩
 · by_cases e : j = i
   · subst e
     rw [Zm.WZ,hv]
     show _ = Ub (q.lv j) (upd q.db j (q.db j - r) j)
     rw [upd_same]
   · rw [Zm.ZC who _ _ _ (by omega)]
     show _ = Ub (q.lv j) (upd q.db i (q.db i - r) j)
     rw [Z7 _ _ _ _ e];exact h.KW j hj
 · have:=h.LJ j hj;show q.lv j <= 17 * (σ + 1);omega
 · rw [Zm.ZC who _ _ _ (by omega)];exact h.Qj x hx
 · rw [Zm.ZC who _ _ _ (by omega)];exact h.LH b hb
 · rw [Zm.ZC who _ _ _ (by omega)];exact h.ep
end Zm
theorem Bh (ou : Int) (τ : Pl) : (Wh ou τ).pl = τ:=by cases τ <;> rfl
theorem Bg (ou : Int) {τ : Pl} {A i : Nat} {d : Bool} (h : τ.told = (A,i,d)) : TG d = (Wh ou τ).nx:=by
 cases τ <;> (simp only [Pl.told,Prod.mk.injEq] at h;obtain ⟨-,-,rfl⟩:=h;rfl)
theorem E5 (ou : Int) (τ : Pl) (a : MV) (h : a.ou = ou) : (Wh ou τ).sec a:=by cases τ <;> exact h
theorem Bf (ou : Int) (τ : Pl) (k m κ σ : Nat) : (Wh ou τ).pg k m κ σ:=by cases τ <;> trivial
section
variable {w : World} {L : Loc} {s : Mm} {b o : Nat} {T : TypeId} {cs : Array Value} {a : MV} {t n k m σ : Nat} {g p r : Int} {q : Q} {W : Mw}
set_option maxHeartbeats 1000000 in
theorem GI (h : Z9 w L s) (hb : ¬ L.has b) (hT : Zm t n k m s σ q) (hG : Good t n k m g p r) (hσ : σ < 1000000) (hdw : ∀ a,Wd (q.dw a)) (hW : W.ok t n k m) (htr : W.tr = r) (μ : Mv) (hi : ZL w b o T cs a) (his : QN W μ a) (hg : μ.good t n k m σ W q) (ho : μ.Zy = false) (who : Int) (q' : Q) (μ' : Mv) (hq : Yo W k m (base t n k m) q μ = (q',μ')) (d : Bool) (hd : μ'.Zy = d) :
 Calls Tryz.prog 150 #[pP b o,eV t n k m g p r L.p who] w fun e w'=>e = .returned (.bool d) /\ ∃ s' cs' a',Bi w L s b o T cs t n k m σ W who μ q' μ' w' s' cs' a':=by
 have hlen : ZR t n k m <= s.n:=by rw [hT.len];exact Nat.le_refl _
 have hlen':=hT.len
 have x1:=hW.x1
 have hxs : 6 + t + W.x * 2 < s.n:=by omega
 obtain ⟨XO,UG,Xd,X4,SA,Xy,Wp,Vp⟩:=his
 have hdn:=Mv.Ua μ'
 rw [hd] at hdn
 have z1:=hW.z1
 have z2:=hW.z2
 have hs1:=hG.s1
 obtain ⟨uA,huA,Ls⟩:=hW.ad
 have pJ:=TZ (t:=t) (n:=n) (m:=m) (u:=uA) (r:=W.Z + 1) hW.ik (by omega)
 rw [<- Ls] at pJ
 have hl:=h.len
 have hA1 : W.A <= 1048575:=by omega
 have hrz:=Yb z1 hW.kz
 have F : XF t n k m a.ad a.sz (W.ia : Nat):=by
  rw [UG,Xd]
  refine ⟨by omega,by omega,by omega,by omega,by omega,?_,?_⟩
  · rw [Ls];exact VF hW.ik (by omega)
  · have : (W.A : Int) + (W.Z : Int) = ((base t n k m W.ia + (uA + W.Z) : Nat) : Int):=by rw [Ls];omega
    rw [this];exact VF hW.ik huA
 have fz : Fit a.sz:=by rw [Xd];exact ⟨by omega,by omega⟩
 have fs : Fit a.sl:=by rw [X4];exact ⟨by omega,by omega⟩
 have fg : Fit a.gn:=by rw [SA];have:=hW.g2;exact ⟨by omega,by omega⟩
 have hcl : ZM a.sz = W.κ:=by rw [Xd];exact hW.kz
 have hcp : ∀ {B i : Nat},UI t n k m W.κ B i -> i < k /\ 6 + t + n * 2 + k * 3 <= B /\ B + W.Z < s.n /\ B <= 1048575:=fun {B i} C=>by
  obtain ⟨u,hu,e⟩:=C.ad
  have:=TZ (t:=t) (n:=n) (m:=m) (u:=u) (r:=room W.κ) C.ik hu
  rw [<- e] at this
  exact ⟨C.ik,by omega,by omega,by omega⟩
 have Be : ∀ kd : Int,Zg kd a.sz a.sl a.gn a.own = W.hw kd:=fun kd=>by rw [Xd,X4,SA,Xy];rfl
 cases μ with
 | over=>cases ho
 | see τ f =>
  obtain ⟨hτ,hf⟩:=hg
  obtain ⟨v,hv⟩ : ∃ v,q.sw W.x = v:=⟨_,rfl⟩
  have hwv : s.wd (6 + t + W.x * 2) = v:=by rw [hT.Qj _ x1];exact hv
  have wv : Wd v:=by rw [<- hv];exact hT.KU _ x1
  have sl:=VE v wv
  have hq' : (q,Vt W v τ f) = (q',μ'):=by rw [<- hq,<- hv];rfl
  obtain ⟨rfl,hμ⟩:=Prod.mk.inj hq'
  obtain ⟨⟨B,i,dp⟩,hto⟩ : ∃ x,τ.told = x:=⟨_,rfl⟩
  have hsp : a.sp = f:=Vp
  have fin : ∀ {X : MV},QN W μ' X -> (∀ w1 : World,Z9 w1 L s -> ZL w1 b o T cs a -> Calls Tryz.prog 182 #[pP b o,eV t n k m g p r L.p who] w1 fun e w'=>e = .returned (.tuple #[]) /\ YV L b o T cs w1 w' (fun s' a'=>s' = (s.by who).step (6 + t + W.x * 2) (s.wd (6 + t + W.x * 2)) /\ a' = X)) -> μ'.pg k m W.κ (σ + 1) ->
   Calls Tryz.prog 150 #[pP b o,eV t n k m g p r L.p who] w fun e w'=>e = .returned (.bool d) /\ ∃ s' cs' a',Bi w L s b o T cs t n k m σ W who (.see τ f) q μ' w' s' cs' a':=by
   intro X hIs hcall rU
   refine (Fz h hi who hG hlen x1 X4 XO _ d ?_ hcall).mono ?_
   · rintro s' a' ⟨_,rfl⟩
     rw [hIs.nx];exact hdn
   · rintro e w' ⟨rfl,s',cs',a',m',o',i',sm,rfl,rfl⟩
     exact ⟨rfl,_,cs',_,m',hT.same hσ who _,i',hIs,sm,o',rU,_,rfl⟩
  have L9 : ∀ ou : Int,Wh ou τ = μ' -> QN W μ' { a with se:=v,ou:=ou,nx:=TG dp }:=fun ou e=>by
   subst e
   exact ⟨Bg ou hto,UG,Xd,X4,SA,Xy,by rw [Bh];exact Wp,E5 _ _ _ rfl⟩
  have L8 : ∀ ou : Int,Wh ou τ = μ' -> μ'.pg k m W.κ (σ + 1):=fun ou e=>by subst e;exact Bf _ _ _ _ _ _
  by_cases hgn : Zz v = W.G
  · have hgb : ((Zz v : Int) == a.gn) = true:=by rw [SA,hgn];simp
    by_cases had : ZA v = W.A
    · have hab : ((ZA v : Int) == a.ad) = true:=by rw [UG,had];simp
      have hh : W.here v = true:=by unfold Mw.here;rw [decide_eq_true hgn,decide_eq_true had];rfl
      by_cases h4 : v % 8 = 4
      · have e : Wh 3 τ = μ':=by rw [<- hμ];unfold Vt;rw [hh,decide_eq_true h4];rfl
        exact fin (L9 3 e) (fun w1 m1 i1=>Fb m1 hb i1 who hG x1 X4 hxs hwv sl Wp hto hgb hab (by rw [h4];rfl)) (L8 3 e)
      · have rD : (v % 8 == 4) = false:=by simpa using h4
        by_cases h1 : v % 8 = 1
        · have h1b : (v % 8 != 1) = false:=by rw [h1];rfl
          by_cases hV : 4194302 <= ZB v
          · have e : Wh 3 τ = μ':=by rw [<- hμ];unfold Vt;rw [hh,decide_eq_false h4,decide_eq_true h1,if_neg (by simp),if_pos (by simp),if_pos hV]
            exact fin (L9 3 e) (fun w1 m1 i1=>Bj m1 hb i1 who hG x1 X4 hxs hwv sl Wp hto hgb hab rD h1b F (decide_eq_true (by omega))) (L8 3 e)
          · have e : Bd v f τ = μ':=by rw [<- hμ];unfold Vt;rw [hh,decide_eq_false h4,decide_eq_true h1,if_neg (by simp),if_pos (by simp),if_neg hV]
            rcases hτ with rfl | ⟨B',i',rfl,C⟩
            · obtain ⟨rfl,rfl,rfl⟩ : 0 = B /\ 0 = i /\ false = dp:=by simpa [Pl.told] using hto
              subst e
              exact fin (X:={ a with se:=v,nx:=1 }) ⟨rfl,UG,Xd,X4,SA,Xy,Wp,rfl,hsp⟩ (fun w1 m1 i1=>JA m1 hb i1 who hG x1 X4 hxs hwv sl Wp hto hgb hab rD h1b F (decide_eq_false (by omega)) rfl) trivial
            · obtain ⟨rfl,rfl,rfl⟩ : B' = B /\ i' = i /\ true = dp:=by simpa [Pl.told] using hto
              subst e
              exact fin (X:={ a with se:=v,nx:=2 }) ⟨rfl,UG,Xd,X4,SA,Xy,Wp,rfl,hsp⟩ (fun w1 m1 i1=>E8 m1 hb i1 who hG x1 X4 hxs hwv sl Wp hto hgb hab rD h1b F (decide_eq_false (by omega)) rfl) trivial
        · have h1b : (v % 8 != 1) = true:=by simpa using h1
          have e : Wh 2 τ = μ':=by rw [<- hμ];unfold Vt;rw [hh,decide_eq_false h4,decide_eq_false h1,if_neg (by simp),if_neg (by simp)]
          exact fin (L9 2 e) (fun w1 m1 i1=>Fa m1 hb i1 who hG x1 X4 hxs hwv sl Wp hto hgb hab rD h1b) (L8 2 e)
    · have hab : ((ZA v : Int) == a.ad) = false:=by rw [UG];simp;omega
      have hh : W.here v = false:=by unfold Mw.here;rw [decide_eq_false had,Bool.and_false]
      have e : Wh 2 τ = μ':=by rw [<- hμ];unfold Vt;rw [hh,Bool.false_and,Bool.false_and,if_neg (by simp),if_neg (by simp)]
      exact fin (L9 2 e) (fun w1 m1 i1=>Fe m1 hb i1 who hG x1 X4 hxs hwv sl Wp hto hgb hab) (L8 2 e)
  · have hgb : ((Zz v : Int) == a.gn) = false:=by rw [SA];simp;omega
    have hh : W.here v = false:=by unfold Mw.here;rw [decide_eq_false hgn,Bool.false_and]
    have e : Wh 2 τ = μ':=by rw [<- hμ];unfold Vt;rw [hh,Bool.false_and,Bool.false_and,if_neg (by simp),if_neg (by simp)]
    exact fin (L9 2 e) (fun w1 m1 i1=>Fh m1 hb i1 who hG x1 X4 hxs hwv sl Wp hto hgb) (L8 2 e)
 | place v τ f =>
  obtain ⟨hgd,hov,wv,hf⟩:=hg
  obtain ⟨hse,hsp⟩:=Vp
  obtain ⟨⟨y',τ'⟩,ht⟩ : ∃ x,turn k m W.κ (base t n k m) q.y τ = x:=⟨_,rfl⟩
  have hq' : UZ q v f (y',τ') = (q',μ'):=by rw [<- ht];exact hq
  have hat:=Pl.at_in (t:=t) (n:=n) hgd
  have tw : ∀ (s' : Mm),Yg t n k m s' (σ + 1) y' -> (∃ u,s' = (s.by who).step (τ.at t n W.κ) u) -> Zm t n k m s' (σ + 1) { q with y:=y' }:=fun s' yd st=>by
   obtain ⟨u,rfl⟩:=st
   exact hT.chunks hσ who hW.k4 _ _ hat yd
  have fin : ∀ {X : List Value -> MV},q' = { q with y:=y' } -> (∀ l,τ'.cells W.κ l -> QN W μ' (X l)) -> (∀ w1 : World,Z9 w1 L s -> ZL w1 b o T cs a -> Calls Tryz.prog 183 #[pP b o,eV t n k m g p r L.p who] w1 fun e w'=>e = .returned (.tuple #[]) /\ YV L b o T cs w1 w' (fun s' a'=>∃ l,a' = X l /\ τ'.cells W.κ l /\ Yg t n k m s' (σ + 1) y' /\ τ'.good k m W.κ (σ + 1) /\ ∃ v,s' = (s.by who).step (τ.at t n W.κ) v)) -> (τ'.good k m W.κ (σ + 1) -> μ'.pg k m W.κ (σ + 1)) ->
   Calls Tryz.prog 150 #[pP b o,eV t n k m g p r L.p who] w fun e w'=>e = .returned (.bool d) /\ ∃ s' cs' a',Bi w L s b o T cs t n k m σ W who (.place v τ f) q' μ' w' s' cs' a':=by
   intro X hqq hIs hcall rU
   refine (Me h hi who hG hlen x1 X4 XO F _ d ?_ hcall).mono ?_
   · rintro s' a' ⟨l,rfl,hl,-⟩
     rw [(hIs l hl).nx];exact hdn
   · rintro e w' ⟨rfl,s',cs',a',m',o',i',sm,l,rfl,hl,yd,gd,st⟩
     exact ⟨rfl,_,cs',_,m',hqq ▸ tw s' yd st,i',hIs l hl,sm,o',rU gd,st⟩
  have other : τ'.over = false -> (∀ A i,τ' ≠ .Yn A i) -> τ' ≠ .none -> Calls Tryz.prog 150 #[pP b o,eV t n k m g p r L.p who] w fun e w'=>e = .returned (.bool d) /\ ∃ s' cs' a',Bi w L s b o T cs t n k m σ W who (.place v τ f) q' μ' w' s' cs' a':=by
   intro hv n1 n2
   have e : UZ q v f (y',τ') = ({ q with y:=y' },.place v τ' f):=by
    cases τ' <;> first | rfl | exact absurd rfl (n1 _ _) | exact absurd rfl n2
   rw [e] at hq'
   obtain ⟨hqq,hμ⟩:=Prod.mk.inj hq'
   refine fin (X:=fun l=>{ a with pl:=l }) hqq.symm (fun l hl=>?_) (fun w1 m1 i1=>yB m1 hb i1 who hT.YN hG hσ hW.k4 Wp hgd hov ht hv) (fun gd=>?_)
   · subst hμ;exact ⟨XO,UG,Xd,X4,SA,Xy,hl,hse,hsp⟩
   · subst hμ;exact gd
  cases τ' with
  | Yn B i =>
   obtain ⟨hqq,hμ⟩:=Prod.mk.inj (show ({ q with y:=y' },Mv.head v B i f) = (q',μ') from hq')
   refine fin (X:=fun l=>{ a with pl:=l,nx:=2 }) hqq.symm (fun l hl=>?_) (fun w1 m1 i1=>Bq m1 hb i1 who hT.YN hG hσ hW.k4 Wp hgd hov ht rfl rfl) (fun _=>?_)
   · subst hμ;exact ⟨rfl,UG,Xd,X4,SA,Xy,hl,hse,hsp⟩
   · subst hμ;trivial
  | none =>
   obtain ⟨hqq,hμ⟩:=Prod.mk.inj (show ({ q with y:=y' },Mv.over 4 .none) = (q',μ') from hq')
   refine fin (X:=fun l=>{ a with pl:=l,ou:=4,nx:=12 }) hqq.symm (fun l hl=>?_) (fun w1 m1 i1=>FH m1 hb i1 who hT.YN hG hσ hW.k4 Wp hgd hov ht rfl rfl) (fun _=>?_)
   · subst hμ;exact ⟨rfl,UG,Xd,X4,SA,Xy,hl,rfl⟩
   · subst hμ;trivial
  | see=>exact other rfl (fun _ _ e=>by cases e) (fun e=>by cases e)
  | ask _=>exact other rfl (fun _ _ e=>by cases e) (fun e=>by cases e)
  | grow _ _=>exact other rfl (fun _ _ e=>by cases e) (fun e=>by cases e)
  | look _ _=>exact other rfl (fun _ _ e=>by cases e) (fun e=>by cases e)
  | take _ _ _=>exact other rfl (fun _ _ e=>by cases e) (fun e=>by cases e)
  | opn _ _ _=>exact other rfl (fun _ _ e=>by cases e) (fun e=>by cases e)
  | UH _ _ _=>exact other rfl (fun _ _ e=>by cases e) (fun e=>by cases e)
 | head v B i f =>
  obtain ⟨C,wv,hf⟩:=hg
  obtain ⟨hik,hB0,hB1,hB2⟩:=hcp C
  obtain ⟨rfl,rfl⟩:=Prod.mk.inj hq
  have hdf : d = false:=by rw [<- hd];rfl
  subst hdf
  refine (JC h hb hi who hG hlen x1 X4 XO F (κ:=W.κ) fz fs fg Wp (B:=B) (i:=i) (dp:=true) rfl (by omega)).mono ?_
  rintro e w' ⟨rfl,s',cs',a',m',o',i',sm,rfl,rfl⟩
  rw [Be] at m'
  exact ⟨rfl,_,cs',_,m',hT.lays hσ who hB0 _,i',⟨rfl,UG,Xd,X4,SA,Xy,Wp,Vp⟩,sm,o',trivial,_,rfl⟩
 | mark v B i f =>
  obtain ⟨C,wv,hf⟩:=hg
  obtain ⟨rfl,hsp⟩:=Vp
  have sl:=VE a.se wv
  by_cases hw : q.sw W.x = a.se
  · have hw' : s.wd (6 + t + W.x * 2) = a.se:=by rw [hT.Qj _ x1];exact hw
    simp only [Yo,hw,if_true] at hq
    obtain ⟨rfl,rfl⟩:=Prod.mk.inj hq
    refine (Qv h hi who hG hlen x1 X4 XO F _ d ?_ (fun w1 m1 i1=>Fq m1 hb i1 who hG x1 X4 hxs sl (decide_eq_true hw'))).mono ?_
    · rintro s' a' ⟨_,rfl⟩;exact hdn
    · rintro e w' ⟨rfl,s',cs',a',m',o',i',sm,rfl,rfl⟩
      rw [UW hw'] at m'
      exact ⟨rfl,_,cs',_,m',hT.shows hσ who x1 _ (OG a.se).1 (OG a.se).2,i',⟨rfl,UG,Xd,X4,SA,Xy,Wp,rfl,hsp,rfl⟩,sm,o',trivial,_,rfl⟩
  · have hw' : s.wd (6 + t + W.x * 2) ≠ a.se:=by rw [hT.Qj _ x1];exact hw
    simp only [Yo,hw,if_false] at hq
    obtain ⟨rfl,rfl⟩:=Prod.mk.inj hq
    refine (Qv h hi who hG hlen x1 X4 XO F _ d ?_ (fun w1 m1 i1=>Bo m1 hb i1 who hG x1 X4 hxs sl (decide_eq_false hw'))).mono ?_
    · rintro s' a' ⟨_,rfl⟩;exact hdn
    · rintro e w' ⟨rfl,s',cs',a',m',o',i',sm,rfl,rfl⟩
      rw [Wy hw'] at m'
      exact ⟨rfl,_,cs',_,m',hT.same hσ who _,i',⟨rfl,UG,Xd,X4,SA,Xy,Wp,hsp⟩,sm,o',trivial,_,rfl⟩
 | load v B i j f =>
  obtain ⟨C,wv,hj,hf⟩:=hg
  obtain ⟨rfl,hsp,hce⟩:=Vp
  have sl:=VE a.se wv
  have hn : W.A + 1 + j < s.n:=by omega
  have Cb : s.wd (W.A + 1 + j) = q.dw (W.A + 1 + j):=hT.LH _ (by omega)
  have hc:=Lr _ (hdw (W.A + 1 + j))
  obtain ⟨u,hu⟩ : ∃ u,q.dw (W.A + 1 + j) = u:=⟨_,rfl⟩
  simp only [Yo,hu] at hq
  rw [hu] at Cb hc
  obtain ⟨rfl,hμ⟩:=Prod.mk.inj hq
  have fin : ∀ {N : Int},QN W μ' { a with wa:=u,nx:=N } -> (∀ w1 : World,Z9 w1 L s -> ZL w1 b o T cs a -> Calls Tryz.prog 186 #[pP b o,eV t n k m g p r L.p who] w1 fun e w'=>e = .returned (.tuple #[]) /\ YV L b o T cs w1 w' (fun s' a'=>s' = (s.by who).step (W.A + 1 + j) (s.wd (W.A + 1 + j)) /\ a' = { a with wa:=u,nx:=N })) -> μ'.pg k m W.κ (σ + 1) ->
   Calls Tryz.prog 150 #[pP b o,eV t n k m g p r L.p who] w fun e w'=>e = .returned (.bool d) /\ ∃ s' cs' a',Bi w L s b o T cs t n k m σ W who (.load a.se B i j f) q μ' w' s' cs' a':=by
   intro N hIs hcall rU
   refine (JG h hi who hG hlen x1 X4 XO F _ d ?_ hcall).mono ?_
   · rintro s' a' ⟨_,rfl⟩
     rw [hIs.nx];exact hdn
   · rintro e w' ⟨rfl,s',cs',a',m',o',i',sm,rfl,rfl⟩
     exact ⟨rfl,_,cs',_,m',hT.same hσ who _,i',hIs,sm,o',rU,_,rfl⟩
  cases hf' : ry u with
  | false =>
   rw [hf',Bool.false_and,if_neg (by simp)] at hμ
   subst hμ
   exact fin (N:=5) ⟨rfl,UG,Xd,X4,SA,Xy,Wp,rfl,hsp,hce,rfl⟩ (fun w1 m1 i1=>JM m1 hb i1 who UG hce hA1 (by omega) hn Cb hc sl hf') trivial
  | true =>
   rw [hf',Bool.true_and] at hμ
   by_cases hv : (ZB a.se : Int) <= xC u
   · rw [decide_eq_true hv,if_pos rfl] at hμ
     subst hμ
     exact fin (N:=6) ⟨rfl,UG,Xd,X4,SA,Xy,Wp,rfl,hsp,hce,rfl⟩ (fun w1 m1 i1=>JL m1 hb i1 who UG hce hA1 (by omega) hn Cb hc sl hf' (decide_eq_true hv)) trivial
   · rw [decide_eq_false hv,if_neg (by simp)] at hμ
     subst hμ
     exact fin (N:=5) ⟨rfl,UG,Xd,X4,SA,Xy,Wp,rfl,hsp,hce,rfl⟩ (fun w1 m1 i1=>FI m1 hb i1 who UG hce hA1 (by omega) hn Cb hc sl hf' (decide_eq_false hv)) trivial
 | freeze v c B i j f =>
  obtain ⟨C,wv,wc,hj,hf⟩:=hg
  obtain ⟨rfl,hsp,hce,rfl⟩:=Vp
  have sl:=VE a.se wv
  have hc:=Lr a.wa wc
  have hn : W.A + 1 + j < s.n:=by omega
  have Cb : s.wd (W.A + 1 + j) = q.dw (W.A + 1 + j):=hT.LH _ (by omega)
  by_cases hw : q.dw (W.A + 1 + j) = a.wa
  · have hw' : s.wd (W.A + 1 + j) = a.wa:=Cb.trans hw
    simp only [Yo,hw,if_true] at hq
    obtain ⟨rfl,rfl⟩:=Prod.mk.inj hq
    refine (TF h hi who hG hlen x1 X4 XO F _ d ?_ (fun w1 m1 i1=>MF m1 hb i1 who UG hce hA1 (by omega) hn hc sl (decide_eq_true hw'))).mono ?_
    · rintro s' a' ⟨_,rfl⟩;exact hdn
    · rintro e w' ⟨rfl,s',cs',a',m',o',i',sm,rfl,rfl⟩
      rw [UW hw'] at m'
      exact ⟨rfl,_,cs',_,m',hT.lays hσ who (by omega) _,i',⟨rfl,UG,Xd,X4,SA,Xy,Wp,rfl,hsp,hce,rfl⟩,sm,o',trivial,_,rfl⟩
  · have hw' : s.wd (W.A + 1 + j) ≠ a.wa:=by rw [Cb];exact hw
    simp only [Yo,hw,if_false] at hq
    obtain ⟨rfl,rfl⟩:=Prod.mk.inj hq
    refine (TF h hi who hG hlen x1 X4 XO F _ d ?_ (fun w1 m1 i1=>JK m1 hb i1 who UG hce hA1 (by omega) hn hc sl (decide_eq_false hw'))).mono ?_
    · rintro s' a' ⟨_,rfl⟩;exact hdn
    · rintro e w' ⟨rfl,s',cs',a',m',o',i',sm,rfl,rfl⟩
      rw [Wy hw'] at m'
      exact ⟨rfl,_,cs',_,m',hT.same hσ who _,i',⟨rfl,UG,Xd,X4,SA,Xy,Wp,rfl,hsp,hce⟩,sm,o',trivial,_,rfl⟩
 | copy v c B i j f =>
  obtain ⟨C,wv,wc,hj,hf⟩:=hg
  obtain ⟨hik,hB0,hB1,hB2⟩:=hcp C
  obtain ⟨hse,hsp,hce,rfl⟩:=Vp
  have hc:=Lr a.wa wc
  simp only [Yo] at hq
  by_cases hz : W.Z <= j + 1
  · rw [if_pos hz] at hq
    obtain ⟨rfl,rfl⟩:=Prod.mk.inj hq
    refine (Qu h hi who hG hlen x1 X4 XO F _ d ?_ (fun w1 m1 i1=>JI m1 hb i1 who hce (by omega) hc Wp (B:=B) (i:=i) (dp:=true) rfl hB2 (by omega) (decide_eq_true (by rw [Xd];omega)))).mono ?_
    · rintro s' a' ⟨_,rfl⟩;exact hdn
    · rintro e w' ⟨rfl,s',cs',a',m',o',i',sm,rfl,rfl⟩
      exact ⟨rfl,_,cs',_,m',hT.lays hσ who (by omega) _,i',⟨rfl,UG,Xd,X4,SA,Xy,Wp,hse,hsp⟩,sm,o',trivial,_,rfl⟩
  · rw [if_neg hz] at hq
    obtain ⟨rfl,rfl⟩:=Prod.mk.inj hq
    refine (Qu h hi who hG hlen x1 X4 XO F _ d ?_ (fun w1 m1 i1=>JJ m1 hb i1 who hce (by omega) hc Wp (B:=B) (i:=i) (dp:=true) rfl hB2 (by omega) (decide_eq_false (by rw [Xd];omega)))).mono ?_
    · rintro s' a' ⟨_,rfl⟩;exact hdn
    · rintro e w' ⟨rfl,s',cs',a',m',o',i',sm,rfl,rfl⟩
      exact ⟨rfl,_,cs',_,m',hT.lays hσ who (by omega) _,i',⟨rfl,UG,Xd,X4,SA,Xy,Wp,hse,hsp,by show (j : Int) + 1 = ((j + 1 : Nat) : Int);omega⟩,sm,o',trivial,_,rfl⟩
 | shw v B i f =>
  obtain ⟨C,wv,hf⟩:=hg
  obtain ⟨hik,hB0,hB1,hB2⟩:=hcp C
  obtain ⟨rfl,hsp⟩:=Vp
  have sl:=VE a.se wv
  by_cases hw : q.sw W.x = a.se
  · have hw' : s.wd (6 + t + W.x * 2) = a.se:=by rw [hT.Qj _ x1];exact hw
    simp only [Yo,hw,if_true] at hq
    obtain ⟨rfl,rfl⟩:=Prod.mk.inj hq
    refine (Ul h hi who hG hlen x1 X4 XO F _ d ?_ (fun w1 m1 i1=>Fp m1 hb i1 who hG x1 X4 hxs sl Wp (B:=B) (i:=i) (dp:=true) rfl hB2 (decide_eq_true hw'))).mono ?_
    · rintro s' a' ⟨_,rfl⟩;exact hdn
    · rintro e w' ⟨rfl,s',cs',a',m',o',i',sm,rfl,rfl⟩
      rw [UW hw'] at m'
      exact ⟨rfl,_,cs',_,m',hT.shown hσ who x1 _ (IA a.se B).1 (IA a.se B).2 (Zv _).2,i',⟨rfl,UG,Xd,X4,SA,Xy,Wp,rfl⟩,sm,o',trivial,_,rfl⟩
  · have hw' : s.wd (6 + t + W.x * 2) ≠ a.se:=by rw [hT.Qj _ x1];exact hw
    simp only [Yo,hw,if_false] at hq
    obtain ⟨rfl,hμ⟩:=Prod.mk.inj hq
    by_cases hr : W.tr <= (f : Int) + 1
    · rw [if_pos hr] at hμ
      subst hμ
      refine (Ul h hi who hG hlen x1 X4 XO F _ d ?_ (fun w1 m1 i1=>Fj m1 hb i1 who hG x1 X4 hxs sl Wp (B:=B) (i:=i) (dp:=true) rfl hB2 (decide_eq_false hw') (by omega) (by omega) (decide_eq_true (by rw [hsp,<- htr];exact hr)))).mono ?_
      · rintro s' a' ⟨_,rfl⟩;exact hdn
      · rintro e w' ⟨rfl,s',cs',a',m',o',i',sm,rfl,rfl⟩
        rw [Wy hw'] at m'
        exact ⟨rfl,_,cs',_,m',hT.same hσ who _,i',⟨rfl,UG,Xd,X4,SA,Xy,Wp,rfl⟩,sm,o',trivial,_,rfl⟩
    · rw [if_neg hr] at hμ
      subst hμ
      refine (Ul h hi who hG hlen x1 X4 XO F _ d ?_ (fun w1 m1 i1=>JB m1 hb i1 who hG x1 X4 hxs sl Wp (B:=B) (i:=i) (dp:=true) rfl hB2 (decide_eq_false hw') (by omega) (by omega) (decide_eq_false (by rw [hsp,<- htr];exact hr)))).mono ?_
      · rintro s' a' ⟨_,rfl⟩;exact hdn
      · rintro e w' ⟨rfl,s',cs',a',m',o',i',sm,rfl,rfl⟩
        rw [Wy hw'] at m'
        exact ⟨rfl,_,cs',_,m',hT.same hσ who _,i',⟨rfl,UG,Xd,X4,SA,Xy,Wp,by show a.sp + 1 = ((f + 1 : Nat) : Int);omega⟩,sm,o',trivial,_,rfl⟩
 | ready B i =>
  have C : UI t n k m W.κ B i:=hg
  obtain ⟨hik,hB0,hB1,hB2⟩:=hcp C
  obtain ⟨rfl,rfl⟩:=Prod.mk.inj hq
  refine (Md h hi who hG hlen x1 X4 XO F _ d ?_ (fun w1 m1 i1=>JH m1 hb i1 who hcl hW.k4 XO fz fs fg Wp (B:=B) (i:=i) (dp:=true) rfl (by omega))).mono ?_
  · rintro s' a' ⟨_,rfl⟩;exact hdn
  · rintro e w' ⟨rfl,s',cs',a',m',o',i',sm,rfl,rfl⟩
    rw [Be] at m'
    exact ⟨rfl,_,cs',_,m',hT.lays hσ who hB0 _,i',⟨rfl,UG,Xd,X4,SA,Xy,Wp,Vp⟩,sm,o',trivial,_,rfl⟩
 | grow B i =>
  obtain ⟨C,H8⟩:=hg
  obtain ⟨hik,hB0,hB1,hB2⟩:=hcp C
  obtain ⟨rfl,rfl⟩:=Prod.mk.inj hq
  refine (JF h hi who hG hlen x1 X4 XO F _ d ?_ (fun w1 m1 i1=>FC m1 hb i1 who hG hcl hW.k4 XO Wp (B:=B) (i:=i) (dp:=true) rfl hik (by omega))).mono ?_
  · rintro s' a' ⟨_,rfl⟩;exact hdn
  · rintro e w' ⟨rfl,s',cs',a',m',o',i',sm,rfl,rfl⟩
    exact ⟨rfl,_,cs',_,m',hT.pays hσ who hik H8,i',⟨rfl,UG,Xd,X4,SA,Xy,Wp,Vp⟩,sm,o',trivial,_,rfl⟩
 | fall B i =>
  obtain ⟨C,hlv⟩:=hg
  obtain ⟨rfl,rfl⟩:=Prod.mk.inj hq
  have hik:=hW.ik
  refine (JE h hi who hG hlen x1 X4 XO F _ d ?_ (fun w1 m1 i1=>FB m1 hb i1 who hG hcl hW.k4 XO (i:=W.ia) (by rw [UG];omega) F.c1 hik (by omega))).mono ?_
  · rintro s' a' ⟨_,rfl⟩;exact hdn
  · rintro e w' ⟨rfl,s',cs',a',m',o',i',sm,rfl,rfl⟩
    exact ⟨rfl,_,cs',_,m',hT.MR hσ who hik (Zv _).2 hlv,i',⟨rfl,UG,Xd,X4,SA,Xy,Wp,Vp⟩,sm,o',trivial,_,rfl⟩
 | TV ou B i =>
  have C : UI t n k m W.κ B i:=hg
  obtain ⟨hik,hB0,hB1,hB2⟩:=hcp C
  obtain ⟨rfl,rfl⟩:=Prod.mk.inj hq
  refine (JD h hi who hG hlen x1 X4 XO F _ d ?_ (fun w1 m1 i1=>FD m1 hb i1 who hcl hW.k4 XO fz fs fg Wp (B:=B) (i:=i) (dp:=true) rfl (by omega))).mono ?_
  · rintro s' a' ⟨_,rfl⟩;exact hdn
  · rintro e w' ⟨rfl,s',cs',a',m',o',i',sm,rfl,rfl⟩
    rw [Be] at m'
    exact ⟨rfl,_,cs',_,m',hT.lays hσ who hB0 _,i',⟨rfl,UG,Xd,X4,SA,Xy,Wp,Vp⟩,sm,o',trivial,_,rfl⟩
end
end
end Go.Proofs.YtmnnhjhhhfabiaaGreat
