import Derived.Test.YtmnnhjhhhfabiaaGreatAccCheck
import Derived.Test.YtmnnhjhhhfabiaaGreatMovSee
import Derived.Test.YtmnnhjhhhfabiaaGreatMovGo
namespace Go.Proofs.YtmnnhjhhhfabiaaGreat
open Go.RowKit
section
end
section
end
section
theorem cellIs (u : Int) (h : Wd u) : CellIs u (vOf u) (frB u) (crOf u):=⟨h.1,h.2,rfl,rfl,rfl⟩
section
variable {w : World} {L : Loc} {s : Mm} {b o : Nat} {T : TypeId} {cs : Array Value} {t n k m σ : Nat} {g p r : Int} {q : Q} {own : Bool}
end
end
section
section
variable {w : World} {L : Loc} {t n k m σ : Nat} {s : Mm} {q : Q} {own : Bool}
end
end
section
section
variable {w0 w w' : World} {L : Loc} {bE t n k m σ nx : Nat} {s : Mm} {q : Q} {gen : Nat -> Nat} {ls : List Ox} {own : Bool}
end
section
variable {w0 w : World} {L : Loc} {bE σ : Nat} {s : Mm}
end
end
section
section
variable {q : Q} {v : Int} {A V σ : Nat}
end
end
section
def Mv.sec : Mv -> MV -> Prop
 | .see _ f,a=>a.sp = f
 | .place v _ f,a=>a.se = v /\ a.sp = f
 | .head v _ _ f,a=>a.se = v /\ a.sp = f
 | .mark v _ _ f,a=>a.se = v /\ a.sp = f
 | .load v _ _ j f,a=>a.se = v /\ a.sp = f /\ a.ce = j
 | .freeze v c _ _ j f,a=>a.se = v /\ a.sp = f /\ a.ce = j /\ a.wa = c
 | .copy v c _ _ j f,a=>a.se = v /\ a.sp = f /\ a.ce = j /\ a.wa = c
 | .shw v _ _ f,a=>a.se = v /\ a.sp = f
 | .ready _ _,a=>a.ou = 1
 | .grow _ _,a=>a.ou = 1
 | .fall _ _,a=>a.ou = 1
 | .bury o _ _,a=>a.ou = o
 | .over o _,a=>a.ou = o
structure MvIs (W : Mw) (μ : Mv) (a : MV) : Prop where
 nx : a.nx = μ.nx
 ad : a.ad = W.A
 sz : a.sz = W.Z
 sl : a.sl = W.x
 gn : a.gn = W.G
 ow : a.own = W.own
 pl : μ.pl.cells W.κ a.pl
 sec : μ.sec a
theorem mv0_is (W : Mw) (kd : Int) : MvIs W (.see .see 0) (mv0 W.A kd W.Z W.x W.G W.own W.κ) :=
 ⟨rfl,rfl,rfl,rfl,rfl,rfl,⟨_,_,_,_,_,rfl⟩,rfl⟩
def Mv.pg (k m κ σ : Nat) : Mv -> Prop
 | .place _ τ _=>τ.good k m κ σ
 | _=>True
structure MDid (w : World) (L : Loc) (s : Mm) (b o : Nat) (T : TypeId) (cs : Array Value) (t n k m σ : Nat) (W : Mw) (who : Int) (μ : Mv) (q' : Q) (μ' : Mv) (w' : World) (s' : Mm) (cs' : Array Value) (a' : MV) : Prop where
 mm : MemAt w' L s'
 tw : Town t n k m s' (σ + 1) q'
 mv : MvAt w' b o T cs' a'
 is : MvIs W μ' a'
 same : Same o 19 cs cs'
 only : Only (L.and b) w w'
 pg : μ'.pg k m W.κ (σ + 1)
 st : ∃ v,s' = (s.by who).step (μ.at t n W) v
namespace Town
variable {t n k m : Nat} {s : Mm} {σ : Nat} {q : Q}
theorem shown (h : Town t n k m s σ q) (hσ : σ < 1000000) (who : Int) {x : Nat} (hx : x < n) (v : Int) (v0 : 0 <= v) (v1 : v <= 18446744073709551615) {i r : Nat} (hr : r <= 17) :
 Town t n k m ((s.by who).step (6 + t + x * 2) v) (σ + 1) { q with sw:=upd q.sw x v,lv:=upd q.lv i (q.lv i + r),db:=upd q.db i (q.db i + r) }:=by
 have T:=h.shows hσ who hx v v0 v1
 refine ⟨T.pile,T.yard,fun j hj=>?_,fun j hj=>?_,T.swv,T.swb,T.dwv,T.ep⟩
 · rw [T.lvw j hj]
   show owe (q.lv j) (q.db j) = owe (upd q.lv i (q.lv i + r) j) (upd q.db i (q.db i + r) j)
   by_cases e : j = i
   · subst e;rw [upd_same,upd_same,owe_both]
   · rw [upd_other _ _ _ _ e,upd_other _ _ _ _ e]
 · show upd q.lv i (q.lv i + r) j <= 17 * (σ + 1)
   by_cases e : j = i
   · subst e;rw [upd_same];have:=h.lvb j hj;omega
   · rw [upd_other _ _ _ _ e];have:=h.lvb j hj;omega
theorem pays (h : Town t n k m s σ q) (hσ : σ < 1000000) (who : Int) {i r : Nat} (hi : i < k) (hl : r <= q.db i) :
 Town t n k m ((s.by who).step (6 + t + n * 2 + i * 3 + 1) (sum64 (s.wd (6 + t + n * 2 + i * 3 + 1)) (word64 (r : Int)))) (σ + 1) { q with db:=upd q.db i (q.db i - r) }:=by
 have hv : sum64 (s.wd (6 + t + n * 2 + i * 3 + 1)) (word64 (r : Int)) = owe (q.lv i) (q.db i - r):=by
  rw [h.lvw i hi];exact owe_pay _ _ _ hl
 refine ⟨h.pile.off hσ who _ _ (by omega) (fun x hx=>by omega),h.yard.off hσ who _ _ (by omega) (fun j hj=>by omega),fun j hj=>?_,fun j hj=>?_,fun x hx=>?_,h.swb,fun b hb=>?_,?_⟩
 · by_cases e : j = i
   · subst e
     rw [Town.step_at,hv]
     show _ = owe (q.lv j) (upd q.db j (q.db j - r) j)
     rw [upd_same]
   · rw [Town.step_wd who _ _ _ (by omega)]
     show _ = owe (q.lv j) (upd q.db i (q.db i - r) j)
     rw [upd_other _ _ _ _ e];exact h.lvw j hj
 · have:=h.lvb j hj;show q.lv j <= 17 * (σ + 1);omega
 · rw [Town.step_wd who _ _ _ (by omega)];exact h.swv x hx
 · rw [Town.step_wd who _ _ _ (by omega)];exact h.dwv b hb
 · rw [Town.step_wd who _ _ _ (by omega)];exact h.ep
end Town
theorem mvEnd_pl (ou : Int) (τ : Pl) : (mvEnd ou τ).pl = τ:=by cases τ <;> rfl
theorem mvEnd_nx (ou : Int) {τ : Pl} {A i : Nat} {d : Bool} (h : τ.told = (A,i,d)) : endNx d = (mvEnd ou τ).nx:=by
 cases τ <;> (simp only [Pl.told,Prod.mk.injEq] at h;obtain ⟨-,-,rfl⟩:=h;rfl)
theorem mvEnd_sec (ou : Int) (τ : Pl) (a : MV) (h : a.ou = ou) : (mvEnd ou τ).sec a:=by cases τ <;> exact h
theorem mvEnd_pg (ou : Int) (τ : Pl) (k m κ σ : Nat) : (mvEnd ou τ).pg k m κ σ:=by cases τ <;> trivial
section
variable {w : World} {L : Loc} {s : Mm} {b o : Nat} {T : TypeId} {cs : Array Value} {a : MV} {t n k m σ : Nat} {g p r : Int} {q : Q} {W : Mw}
set_option maxHeartbeats 1000000 in
theorem move_step (h : MemAt w L s) (hb : ¬ L.has b) (hT : Town t n k m s σ q) (hG : Good t n k m g p r) (hσ : σ < 1000000) (hdw : ∀ a,Wd (q.dw a)) (hW : W.ok t n k m) (htr : W.tr = r) (μ : Mv) (hi : MvAt w b o T cs a) (his : MvIs W μ a) (hg : μ.good t n k m σ W q) (ho : μ.over? = false) (who : Int) (q' : Q) (μ' : Mv) (hq : mvTurn W k m (base t n k m) q μ = (q',μ')) (d : Bool) (hd : μ'.over? = d) :
 Calls Tryz.prog 150 #[pP b o,eV t n k m g p r L.p who] w fun e w'=>e = .returned (.bool d) /\ ∃ s' cs' a',MDid w L s b o T cs t n k m σ W who μ q' μ' w' s' cs' a':=by
 have hlen : arenaLen t n k m <= s.n:=by rw [hT.len];exact Nat.le_refl _
 have hlen':=hT.len
 have x1:=hW.x1
 have hxs : 6 + t + W.x * 2 < s.n:=by omega
 obtain ⟨inx,iad,isz,isl,ign,iow,ipl,isec⟩:=his
 have hdn:=Mv.nx_over μ'
 rw [hd] at hdn
 have z1:=hW.z1
 have z2:=hW.z2
 have hs1:=hG.s1
 obtain ⟨uA,huA,hAe⟩:=hW.ad
 have hAin:=base_in (t:=t) (n:=n) (m:=m) (u:=uA) (r:=W.Z + 1) hW.ik (by omega)
 rw [<- hAe] at hAin
 have hl:=h.len
 have hA1 : W.A <= 1048575:=by omega
 have hrz:=size_room z1 hW.kz
 have F : MFits t n k m a.ad a.sz (W.ia : Nat):=by
  rw [iad,isz]
  refine ⟨by omega,by omega,by omega,by omega,by omega,?_,?_⟩
  · rw [hAe];exact chunkOf_in hW.ik (by omega)
  · have : (W.A : Int) + (W.Z : Int) = ((base t n k m W.ia + (uA + W.Z) : Nat) : Int):=by rw [hAe];omega
    rw [this];exact chunkOf_in hW.ik huA
 have fz : Fit a.sz:=by rw [isz];exact ⟨by omega,by omega⟩
 have fs : Fit a.sl:=by rw [isl];exact ⟨by omega,by omega⟩
 have fg : Fit a.gn:=by rw [ign];have:=hW.g2;exact ⟨by omega,by omega⟩
 have hcl : classOf a.sz = W.κ:=by rw [isz];exact hW.kz
 have hcp : ∀ {B i : Nat},CpOk t n k m W.κ B i -> i < k /\ 6 + t + n * 2 + k * 3 <= B /\ B + W.Z < s.n /\ B <= 1048575:=fun {B i} C=>by
  obtain ⟨u,hu,e⟩:=C.ad
  have:=base_in (t:=t) (n:=n) (m:=m) (u:=u) (r:=room W.κ) C.ik hu
  rw [<- e] at this
  exact ⟨C.ik,by omega,by omega,by omega⟩
 have hpack : ∀ kd : Int,packOw kd a.sz a.sl a.gn a.own = W.hw kd:=fun kd=>by rw [isz,isl,ign,iow];rfl
 cases μ with
 | over=>cases ho
 | see τ f =>
  obtain ⟨hτ,hf⟩:=hg
  obtain ⟨v,hv⟩ : ∃ v,q.sw W.x = v:=⟨_,rfl⟩
  have hwv : s.wd (6 + t + W.x * 2) = v:=by rw [hT.swv _ x1];exact hv
  have wv : Wd v:=by rw [<- hv];exact hT.swb _ x1
  have sl:=slotIs v wv
  have hq' : (q,mvSee W v τ f) = (q',μ'):=by rw [<- hq,<- hv];rfl
  obtain ⟨rfl,hμ⟩:=Prod.mk.inj hq'
  obtain ⟨⟨B,i,dp⟩,hto⟩ : ∃ x,τ.told = x:=⟨_,rfl⟩
  have hsp : a.sp = f:=isec
  have fin : ∀ {X : MV},MvIs W μ' X -> (∀ w1 : World,MemAt w1 L s -> MvAt w1 b o T cs a -> Calls Tryz.prog 182 #[pP b o,eV t n k m g p r L.p who] w1 fun e w'=>e = .returned (.tuple #[]) /\ Mact L b o T cs w1 w' (fun s' a'=>s' = (s.by who).step (6 + t + W.x * 2) (s.wd (6 + t + W.x * 2)) /\ a' = X)) -> μ'.pg k m W.κ (σ + 1) ->
   Calls Tryz.prog 150 #[pP b o,eV t n k m g p r L.p who] w fun e w'=>e = .returned (.bool d) /\ ∃ s' cs' a',MDid w L s b o T cs t n k m σ W who (.see τ f) q μ' w' s' cs' a':=by
   intro X hIs hcall hpg
   refine (mstep_see h hi who hG hlen x1 isl inx _ d ?_ hcall).mono ?_
   · rintro s' a' ⟨_,rfl⟩
     rw [hIs.nx];exact hdn
   · rintro e w' ⟨rfl,s',cs',a',m',o',i',sm,rfl,rfl⟩
     exact ⟨rfl,_,cs',_,m',hT.same hσ who _,i',hIs,sm,o',hpg,_,rfl⟩
  have endIs : ∀ ou : Int,mvEnd ou τ = μ' -> MvIs W μ' { a with se:=v,ou:=ou,nx:=endNx dp }:=fun ou e=>by
   subst e
   exact ⟨mvEnd_nx ou hto,iad,isz,isl,ign,iow,by rw [mvEnd_pl];exact ipl,mvEnd_sec _ _ _ rfl⟩
  have endPg : ∀ ou : Int,mvEnd ou τ = μ' -> μ'.pg k m W.κ (σ + 1):=fun ou e=>by subst e;exact mvEnd_pg _ _ _ _ _ _
  by_cases hgn : genOf v = W.G
  · have hgb : ((genOf v : Int) == a.gn) = true:=by rw [ign,hgn];simp
    by_cases had : adOf v = W.A
    · have hab : ((adOf v : Int) == a.ad) = true:=by rw [iad,had];simp
      have hh : W.here v = true:=by unfold Mw.here;rw [decide_eq_true hgn,decide_eq_true had];rfl
      by_cases h4 : v % 8 = 4
      · have e : mvEnd 3 τ = μ':=by rw [<- hμ];unfold mvSee;rw [hh,decide_eq_true h4];rfl
        exact fin (endIs 3 e) (fun w1 m1 i1=>msee_drop m1 hb i1 who hG x1 isl hxs hwv sl ipl hto hgb hab (by rw [h4];rfl)) (endPg 3 e)
      · have h4b : (v % 8 == 4) = false:=by simpa using h4
        by_cases h1 : v % 8 = 1
        · have h1b : (v % 8 != 1) = false:=by rw [h1];rfl
          by_cases hV : 4194302 <= verOf' v
          · have e : mvEnd 3 τ = μ':=by rw [<- hμ];unfold mvSee;rw [hh,decide_eq_false h4,decide_eq_true h1,if_neg (by simp),if_pos (by simp),if_pos hV]
            exact fin (endIs 3 e) (fun w1 m1 i1=>msee_old m1 hb i1 who hG x1 isl hxs hwv sl ipl hto hgb hab h4b h1b F (decide_eq_true (by omega))) (endPg 3 e)
          · have e : mvNext v f τ = μ':=by rw [<- hμ];unfold mvSee;rw [hh,decide_eq_false h4,decide_eq_true h1,if_neg (by simp),if_pos (by simp),if_neg hV]
            rcases hτ with rfl | ⟨B',i',rfl,C⟩
            · obtain ⟨rfl,rfl,rfl⟩ : 0 = B /\ 0 = i /\ false = dp:=by simpa [Pl.told] using hto
              subst e
              exact fin (X:={ a with se:=v,nx:=1 }) ⟨rfl,iad,isz,isl,ign,iow,ipl,rfl,hsp⟩ (fun w1 m1 i1=>msee_place m1 hb i1 who hG x1 isl hxs hwv sl ipl hto hgb hab h4b h1b F (decide_eq_false (by omega)) rfl) trivial
            · obtain ⟨rfl,rfl,rfl⟩ : B' = B /\ i' = i /\ true = dp:=by simpa [Pl.told] using hto
              subst e
              exact fin (X:={ a with se:=v,nx:=2 }) ⟨rfl,iad,isz,isl,ign,iow,ipl,rfl,hsp⟩ (fun w1 m1 i1=>msee_copy m1 hb i1 who hG x1 isl hxs hwv sl ipl hto hgb hab h4b h1b F (decide_eq_false (by omega)) rfl) trivial
        · have h1b : (v % 8 != 1) = true:=by simpa using h1
          have e : mvEnd 2 τ = μ':=by rw [<- hμ];unfold mvSee;rw [hh,decide_eq_false h4,decide_eq_false h1,if_neg (by simp),if_neg (by simp)]
          exact fin (endIs 2 e) (fun w1 m1 i1=>msee_dead m1 hb i1 who hG x1 isl hxs hwv sl ipl hto hgb hab h4b h1b) (endPg 2 e)
    · have hab : ((adOf v : Int) == a.ad) = false:=by rw [iad];simp;omega
      have hh : W.here v = false:=by unfold Mw.here;rw [decide_eq_false had,Bool.and_false]
      have e : mvEnd 2 τ = μ':=by rw [<- hμ];unfold mvSee;rw [hh,Bool.false_and,Bool.false_and,if_neg (by simp),if_neg (by simp)]
      exact fin (endIs 2 e) (fun w1 m1 i1=>msee_else m1 hb i1 who hG x1 isl hxs hwv sl ipl hto hgb hab) (endPg 2 e)
  · have hgb : ((genOf v : Int) == a.gn) = false:=by rw [ign];simp;omega
    have hh : W.here v = false:=by unfold Mw.here;rw [decide_eq_false hgn,Bool.false_and]
    have e : mvEnd 2 τ = μ':=by rw [<- hμ];unfold mvSee;rw [hh,Bool.false_and,Bool.false_and,if_neg (by simp),if_neg (by simp)]
    exact fin (endIs 2 e) (fun w1 m1 i1=>msee_gone m1 hb i1 who hG x1 isl hxs hwv sl ipl hto hgb) (endPg 2 e)
 | place v τ f =>
  obtain ⟨hgd,hov,wv,hf⟩:=hg
  obtain ⟨hse,hsp⟩:=isec
  obtain ⟨⟨y',τ'⟩,ht⟩ : ∃ x,turn k m W.κ (base t n k m) q.y τ = x:=⟨_,rfl⟩
  have hq' : mvPlace q v f (y',τ') = (q',μ'):=by rw [<- ht];exact hq
  have hat:=Pl.at_in (t:=t) (n:=n) hgd
  have tw : ∀ (s' : Mm),Yard t n k m s' (σ + 1) y' -> (∃ u,s' = (s.by who).step (τ.at t n W.κ) u) -> Town t n k m s' (σ + 1) { q with y:=y' }:=fun s' yd st=>by
   obtain ⟨u,rfl⟩:=st
   exact hT.chunks hσ who hW.k4 _ _ hat yd
  have fin : ∀ {X : List Value -> MV},q' = { q with y:=y' } -> (∀ l,τ'.cells W.κ l -> MvIs W μ' (X l)) -> (∀ w1 : World,MemAt w1 L s -> MvAt w1 b o T cs a -> Calls Tryz.prog 183 #[pP b o,eV t n k m g p r L.p who] w1 fun e w'=>e = .returned (.tuple #[]) /\ Mact L b o T cs w1 w' (fun s' a'=>∃ l,a' = X l /\ τ'.cells W.κ l /\ Yard t n k m s' (σ + 1) y' /\ τ'.good k m W.κ (σ + 1) /\ ∃ v,s' = (s.by who).step (τ.at t n W.κ) v)) -> (τ'.good k m W.κ (σ + 1) -> μ'.pg k m W.κ (σ + 1)) ->
   Calls Tryz.prog 150 #[pP b o,eV t n k m g p r L.p who] w fun e w'=>e = .returned (.bool d) /\ ∃ s' cs' a',MDid w L s b o T cs t n k m σ W who (.place v τ f) q' μ' w' s' cs' a':=by
   intro X hqq hIs hcall hpg
   refine (mstep_place h hi who hG hlen x1 isl inx F _ d ?_ hcall).mono ?_
   · rintro s' a' ⟨l,rfl,hl,-⟩
     rw [(hIs l hl).nx];exact hdn
   · rintro e w' ⟨rfl,s',cs',a',m',o',i',sm,l,rfl,hl,yd,gd,st⟩
     exact ⟨rfl,_,cs',_,m',hqq ▸ tw s' yd st,i',hIs l hl,sm,o',hpg gd,st⟩
  have other : τ'.over = false -> (∀ A i,τ' ≠ .won A i) -> τ' ≠ .none -> Calls Tryz.prog 150 #[pP b o,eV t n k m g p r L.p who] w fun e w'=>e = .returned (.bool d) /\ ∃ s' cs' a',MDid w L s b o T cs t n k m σ W who (.place v τ f) q' μ' w' s' cs' a':=by
   intro hv n1 n2
   have e : mvPlace q v f (y',τ') = ({ q with y:=y' },.place v τ' f):=by
    cases τ' <;> first | rfl | exact absurd rfl (n1 _ _) | exact absurd rfl n2
   rw [e] at hq'
   obtain ⟨hqq,hμ⟩:=Prod.mk.inj hq'
   refine fin (X:=fun l=>{ a with pl:=l }) hqq.symm (fun l hl=>?_) (fun w1 m1 i1=>mget_on m1 hb i1 who hT.yard hG hσ hW.k4 ipl hgd hov ht hv) (fun gd=>?_)
   · subst hμ;exact ⟨inx,iad,isz,isl,ign,iow,hl,hse,hsp⟩
   · subst hμ;exact gd
  cases τ' with
  | won B i =>
   obtain ⟨hqq,hμ⟩:=Prod.mk.inj (show ({ q with y:=y' },Mv.head v B i f) = (q',μ') from hq')
   refine fin (X:=fun l=>{ a with pl:=l,nx:=2 }) hqq.symm (fun l hl=>?_) (fun w1 m1 i1=>mget_won m1 hb i1 who hT.yard hG hσ hW.k4 ipl hgd hov ht rfl rfl) (fun _=>?_)
   · subst hμ;exact ⟨rfl,iad,isz,isl,ign,iow,hl,hse,hsp⟩
   · subst hμ;trivial
  | none =>
   obtain ⟨hqq,hμ⟩:=Prod.mk.inj (show ({ q with y:=y' },Mv.over 4 .none) = (q',μ') from hq')
   refine fin (X:=fun l=>{ a with pl:=l,ou:=4,nx:=12 }) hqq.symm (fun l hl=>?_) (fun w1 m1 i1=>mget_none m1 hb i1 who hT.yard hG hσ hW.k4 ipl hgd hov ht rfl rfl) (fun _=>?_)
   · subst hμ;exact ⟨rfl,iad,isz,isl,ign,iow,hl,rfl⟩
   · subst hμ;trivial
  | see=>exact other rfl (fun _ _ e=>by cases e) (fun e=>by cases e)
  | ask _=>exact other rfl (fun _ _ e=>by cases e) (fun e=>by cases e)
  | grow _ _=>exact other rfl (fun _ _ e=>by cases e) (fun e=>by cases e)
  | look _ _=>exact other rfl (fun _ _ e=>by cases e) (fun e=>by cases e)
  | take _ _ _=>exact other rfl (fun _ _ e=>by cases e) (fun e=>by cases e)
  | opn _ _ _=>exact other rfl (fun _ _ e=>by cases e) (fun e=>by cases e)
  | fre _ _ _=>exact other rfl (fun _ _ e=>by cases e) (fun e=>by cases e)
 | head v B i f =>
  obtain ⟨C,wv,hf⟩:=hg
  obtain ⟨hik,hB0,hB1,hB2⟩:=hcp C
  obtain ⟨rfl,rfl⟩:=Prod.mk.inj hq
  have hdf : d = false:=by rw [<- hd];rfl
  subst hdf
  refine (mstep_head h hb hi who hG hlen x1 isl inx F (κ:=W.κ) fz fs fg ipl (B:=B) (i:=i) (dp:=true) rfl (by omega)).mono ?_
  rintro e w' ⟨rfl,s',cs',a',m',o',i',sm,rfl,rfl⟩
  rw [hpack] at m'
  exact ⟨rfl,_,cs',_,m',hT.lays hσ who hB0 _,i',⟨rfl,iad,isz,isl,ign,iow,ipl,isec⟩,sm,o',trivial,_,rfl⟩
 | mark v B i f =>
  obtain ⟨C,wv,hf⟩:=hg
  obtain ⟨rfl,hsp⟩:=isec
  have sl:=slotIs a.se wv
  by_cases hw : q.sw W.x = a.se
  · have hw' : s.wd (6 + t + W.x * 2) = a.se:=by rw [hT.swv _ x1];exact hw
    simp only [mvTurn,hw,if_true] at hq
    obtain ⟨rfl,rfl⟩:=Prod.mk.inj hq
    refine (mstep_mark h hi who hG hlen x1 isl inx F _ d ?_ (fun w1 m1 i1=>mmark_yes m1 hb i1 who hG x1 isl hxs sl (decide_eq_true hw'))).mono ?_
    · rintro s' a' ⟨_,rfl⟩;exact hdn
    · rintro e w' ⟨rfl,s',cs',a',m',o',i',sm,rfl,rfl⟩
      rw [cas_hit hw'] at m'
      exact ⟨rfl,_,cs',_,m',hT.shows hσ who x1 _ (movW_wd a.se).1 (movW_wd a.se).2,i',⟨rfl,iad,isz,isl,ign,iow,ipl,rfl,hsp,rfl⟩,sm,o',trivial,_,rfl⟩
  · have hw' : s.wd (6 + t + W.x * 2) ≠ a.se:=by rw [hT.swv _ x1];exact hw
    simp only [mvTurn,hw,if_false] at hq
    obtain ⟨rfl,rfl⟩:=Prod.mk.inj hq
    refine (mstep_mark h hi who hG hlen x1 isl inx F _ d ?_ (fun w1 m1 i1=>mmark_no m1 hb i1 who hG x1 isl hxs sl (decide_eq_false hw'))).mono ?_
    · rintro s' a' ⟨_,rfl⟩;exact hdn
    · rintro e w' ⟨rfl,s',cs',a',m',o',i',sm,rfl,rfl⟩
      rw [cas_miss hw'] at m'
      exact ⟨rfl,_,cs',_,m',hT.same hσ who _,i',⟨rfl,iad,isz,isl,ign,iow,ipl,hsp⟩,sm,o',trivial,_,rfl⟩
 | load v B i j f =>
  obtain ⟨C,wv,hj,hf⟩:=hg
  obtain ⟨rfl,hsp,hce⟩:=isec
  have sl:=slotIs a.se wv
  have hn : W.A + 1 + j < s.n:=by omega
  have hwu : s.wd (W.A + 1 + j) = q.dw (W.A + 1 + j):=hT.dwv _ (by omega)
  have hc:=cellIs _ (hdw (W.A + 1 + j))
  obtain ⟨u,hu⟩ : ∃ u,q.dw (W.A + 1 + j) = u:=⟨_,rfl⟩
  simp only [mvTurn,hu] at hq
  rw [hu] at hwu hc
  obtain ⟨rfl,hμ⟩:=Prod.mk.inj hq
  have fin : ∀ {N : Int},MvIs W μ' { a with wa:=u,nx:=N } -> (∀ w1 : World,MemAt w1 L s -> MvAt w1 b o T cs a -> Calls Tryz.prog 186 #[pP b o,eV t n k m g p r L.p who] w1 fun e w'=>e = .returned (.tuple #[]) /\ Mact L b o T cs w1 w' (fun s' a'=>s' = (s.by who).step (W.A + 1 + j) (s.wd (W.A + 1 + j)) /\ a' = { a with wa:=u,nx:=N })) -> μ'.pg k m W.κ (σ + 1) ->
   Calls Tryz.prog 150 #[pP b o,eV t n k m g p r L.p who] w fun e w'=>e = .returned (.bool d) /\ ∃ s' cs' a',MDid w L s b o T cs t n k m σ W who (.load a.se B i j f) q μ' w' s' cs' a':=by
   intro N hIs hcall hpg
   refine (mstep_load h hi who hG hlen x1 isl inx F _ d ?_ hcall).mono ?_
   · rintro s' a' ⟨_,rfl⟩
     rw [hIs.nx];exact hdn
   · rintro e w' ⟨rfl,s',cs',a',m',o',i',sm,rfl,rfl⟩
     exact ⟨rfl,_,cs',_,m',hT.same hσ who _,i',hIs,sm,o',hpg,_,rfl⟩
  cases hf' : frB u with
  | false =>
   rw [hf',Bool.false_and,if_neg (by simp)] at hμ
   subst hμ
   exact fin (N:=5) ⟨rfl,iad,isz,isl,ign,iow,ipl,rfl,hsp,hce,rfl⟩ (fun w1 m1 i1=>mload_open m1 hb i1 who iad hce hA1 (by omega) hn hwu hc sl hf') trivial
  | true =>
   rw [hf',Bool.true_and] at hμ
   by_cases hv : (verOf' a.se : Int) <= crOf u
   · rw [decide_eq_true hv,if_pos rfl] at hμ
     subst hμ
     exact fin (N:=6) ⟨rfl,iad,isz,isl,ign,iow,ipl,rfl,hsp,hce,rfl⟩ (fun w1 m1 i1=>mload_pass m1 hb i1 who iad hce hA1 (by omega) hn hwu hc sl hf' (decide_eq_true hv)) trivial
   · rw [decide_eq_false hv,if_neg (by simp)] at hμ
     subst hμ
     exact fin (N:=5) ⟨rfl,iad,isz,isl,ign,iow,ipl,rfl,hsp,hce,rfl⟩ (fun w1 m1 i1=>mload_old m1 hb i1 who iad hce hA1 (by omega) hn hwu hc sl hf' (decide_eq_false hv)) trivial
 | freeze v c B i j f =>
  obtain ⟨C,wv,wc,hj,hf⟩:=hg
  obtain ⟨rfl,hsp,hce,rfl⟩:=isec
  have sl:=slotIs a.se wv
  have hc:=cellIs a.wa wc
  have hn : W.A + 1 + j < s.n:=by omega
  have hwu : s.wd (W.A + 1 + j) = q.dw (W.A + 1 + j):=hT.dwv _ (by omega)
  by_cases hw : q.dw (W.A + 1 + j) = a.wa
  · have hw' : s.wd (W.A + 1 + j) = a.wa:=hwu.trans hw
    simp only [mvTurn,hw,if_true] at hq
    obtain ⟨rfl,rfl⟩:=Prod.mk.inj hq
    refine (mstep_freeze h hi who hG hlen x1 isl inx F _ d ?_ (fun w1 m1 i1=>mfreeze_yes m1 hb i1 who iad hce hA1 (by omega) hn hc sl (decide_eq_true hw'))).mono ?_
    · rintro s' a' ⟨_,rfl⟩;exact hdn
    · rintro e w' ⟨rfl,s',cs',a',m',o',i',sm,rfl,rfl⟩
      rw [cas_hit hw'] at m'
      exact ⟨rfl,_,cs',_,m',hT.lays hσ who (by omega) _,i',⟨rfl,iad,isz,isl,ign,iow,ipl,rfl,hsp,hce,rfl⟩,sm,o',trivial,_,rfl⟩
  · have hw' : s.wd (W.A + 1 + j) ≠ a.wa:=by rw [hwu];exact hw
    simp only [mvTurn,hw,if_false] at hq
    obtain ⟨rfl,rfl⟩:=Prod.mk.inj hq
    refine (mstep_freeze h hi who hG hlen x1 isl inx F _ d ?_ (fun w1 m1 i1=>mfreeze_no m1 hb i1 who iad hce hA1 (by omega) hn hc sl (decide_eq_false hw'))).mono ?_
    · rintro s' a' ⟨_,rfl⟩;exact hdn
    · rintro e w' ⟨rfl,s',cs',a',m',o',i',sm,rfl,rfl⟩
      rw [cas_miss hw'] at m'
      exact ⟨rfl,_,cs',_,m',hT.same hσ who _,i',⟨rfl,iad,isz,isl,ign,iow,ipl,rfl,hsp,hce⟩,sm,o',trivial,_,rfl⟩
 | copy v c B i j f =>
  obtain ⟨C,wv,wc,hj,hf⟩:=hg
  obtain ⟨hik,hB0,hB1,hB2⟩:=hcp C
  obtain ⟨hse,hsp,hce,rfl⟩:=isec
  have hc:=cellIs a.wa wc
  simp only [mvTurn] at hq
  by_cases hz : W.Z <= j + 1
  · rw [if_pos hz] at hq
    obtain ⟨rfl,rfl⟩:=Prod.mk.inj hq
    refine (mstep_copy h hi who hG hlen x1 isl inx F _ d ?_ (fun w1 m1 i1=>mcopy_last m1 hb i1 who hce (by omega) hc ipl (B:=B) (i:=i) (dp:=true) rfl hB2 (by omega) (decide_eq_true (by rw [isz];omega)))).mono ?_
    · rintro s' a' ⟨_,rfl⟩;exact hdn
    · rintro e w' ⟨rfl,s',cs',a',m',o',i',sm,rfl,rfl⟩
      exact ⟨rfl,_,cs',_,m',hT.lays hσ who (by omega) _,i',⟨rfl,iad,isz,isl,ign,iow,ipl,hse,hsp⟩,sm,o',trivial,_,rfl⟩
  · rw [if_neg hz] at hq
    obtain ⟨rfl,rfl⟩:=Prod.mk.inj hq
    refine (mstep_copy h hi who hG hlen x1 isl inx F _ d ?_ (fun w1 m1 i1=>mcopy_more m1 hb i1 who hce (by omega) hc ipl (B:=B) (i:=i) (dp:=true) rfl hB2 (by omega) (decide_eq_false (by rw [isz];omega)))).mono ?_
    · rintro s' a' ⟨_,rfl⟩;exact hdn
    · rintro e w' ⟨rfl,s',cs',a',m',o',i',sm,rfl,rfl⟩
      exact ⟨rfl,_,cs',_,m',hT.lays hσ who (by omega) _,i',⟨rfl,iad,isz,isl,ign,iow,ipl,hse,hsp,by show (j : Int) + 1 = ((j + 1 : Nat) : Int);omega⟩,sm,o',trivial,_,rfl⟩
 | shw v B i f =>
  obtain ⟨C,wv,hf⟩:=hg
  obtain ⟨hik,hB0,hB1,hB2⟩:=hcp C
  obtain ⟨rfl,hsp⟩:=isec
  have sl:=slotIs a.se wv
  by_cases hw : q.sw W.x = a.se
  · have hw' : s.wd (6 + t + W.x * 2) = a.se:=by rw [hT.swv _ x1];exact hw
    simp only [mvTurn,hw,if_true] at hq
    obtain ⟨rfl,rfl⟩:=Prod.mk.inj hq
    refine (mstep_show h hi who hG hlen x1 isl inx F _ d ?_ (fun w1 m1 i1=>mshow_yes m1 hb i1 who hG x1 isl hxs sl ipl (B:=B) (i:=i) (dp:=true) rfl hB2 (decide_eq_true hw'))).mono ?_
    · rintro s' a' ⟨_,rfl⟩;exact hdn
    · rintro e w' ⟨rfl,s',cs',a',m',o',i',sm,rfl,rfl⟩
      rw [cas_hit hw'] at m'
      exact ⟨rfl,_,cs',_,m',hT.shown hσ who x1 _ (shwW_wd a.se B).1 (shwW_wd a.se B).2 (room_bd _).2,i',⟨rfl,iad,isz,isl,ign,iow,ipl,rfl⟩,sm,o',trivial,_,rfl⟩
  · have hw' : s.wd (6 + t + W.x * 2) ≠ a.se:=by rw [hT.swv _ x1];exact hw
    simp only [mvTurn,hw,if_false] at hq
    obtain ⟨rfl,hμ⟩:=Prod.mk.inj hq
    by_cases hr : W.tr <= (f : Int) + 1
    · rw [if_pos hr] at hμ
      subst hμ
      refine (mstep_show h hi who hG hlen x1 isl inx F _ d ?_ (fun w1 m1 i1=>mshow_end m1 hb i1 who hG x1 isl hxs sl ipl (B:=B) (i:=i) (dp:=true) rfl hB2 (decide_eq_false hw') (by omega) (by omega) (decide_eq_true (by rw [hsp,<- htr];exact hr)))).mono ?_
      · rintro s' a' ⟨_,rfl⟩;exact hdn
      · rintro e w' ⟨rfl,s',cs',a',m',o',i',sm,rfl,rfl⟩
        rw [cas_miss hw'] at m'
        exact ⟨rfl,_,cs',_,m',hT.same hσ who _,i',⟨rfl,iad,isz,isl,ign,iow,ipl,rfl⟩,sm,o',trivial,_,rfl⟩
    · rw [if_neg hr] at hμ
      subst hμ
      refine (mstep_show h hi who hG hlen x1 isl inx F _ d ?_ (fun w1 m1 i1=>mshow_anew m1 hb i1 who hG x1 isl hxs sl ipl (B:=B) (i:=i) (dp:=true) rfl hB2 (decide_eq_false hw') (by omega) (by omega) (decide_eq_false (by rw [hsp,<- htr];exact hr)))).mono ?_
      · rintro s' a' ⟨_,rfl⟩;exact hdn
      · rintro e w' ⟨rfl,s',cs',a',m',o',i',sm,rfl,rfl⟩
        rw [cas_miss hw'] at m'
        exact ⟨rfl,_,cs',_,m',hT.same hσ who _,i',⟨rfl,iad,isz,isl,ign,iow,ipl,by show a.sp + 1 = ((f + 1 : Nat) : Int);omega⟩,sm,o',trivial,_,rfl⟩
 | ready B i =>
  have C : CpOk t n k m W.κ B i:=hg
  obtain ⟨hik,hB0,hB1,hB2⟩:=hcp C
  obtain ⟨rfl,rfl⟩:=Prod.mk.inj hq
  refine (mstep_ready h hi who hG hlen x1 isl inx F _ d ?_ (fun w1 m1 i1=>mfin_ready m1 hb i1 who hcl hW.k4 inx fz fs fg ipl (B:=B) (i:=i) (dp:=true) rfl (by omega))).mono ?_
  · rintro s' a' ⟨_,rfl⟩;exact hdn
  · rintro e w' ⟨rfl,s',cs',a',m',o',i',sm,rfl,rfl⟩
    rw [hpack] at m'
    exact ⟨rfl,_,cs',_,m',hT.lays hσ who hB0 _,i',⟨rfl,iad,isz,isl,ign,iow,ipl,isec⟩,sm,o',trivial,_,rfl⟩
 | grow B i =>
  obtain ⟨C,hdb⟩:=hg
  obtain ⟨hik,hB0,hB1,hB2⟩:=hcp C
  obtain ⟨rfl,rfl⟩:=Prod.mk.inj hq
  refine (mstep_grow h hi who hG hlen x1 isl inx F _ d ?_ (fun w1 m1 i1=>mfin_grow m1 hb i1 who hG hcl hW.k4 inx ipl (B:=B) (i:=i) (dp:=true) rfl hik (by omega))).mono ?_
  · rintro s' a' ⟨_,rfl⟩;exact hdn
  · rintro e w' ⟨rfl,s',cs',a',m',o',i',sm,rfl,rfl⟩
    exact ⟨rfl,_,cs',_,m',hT.pays hσ who hik hdb,i',⟨rfl,iad,isz,isl,ign,iow,ipl,isec⟩,sm,o',trivial,_,rfl⟩
 | fall B i =>
  obtain ⟨C,hlv⟩:=hg
  obtain ⟨rfl,rfl⟩:=Prod.mk.inj hq
  have hik:=hW.ik
  refine (mstep_fall h hi who hG hlen x1 isl inx F _ d ?_ (fun w1 m1 i1=>mfin_fall m1 hb i1 who hG hcl hW.k4 inx (i:=W.ia) (by rw [iad];omega) F.c1 hik (by omega))).mono ?_
  · rintro s' a' ⟨_,rfl⟩;exact hdn
  · rintro e w' ⟨rfl,s',cs',a',m',o',i',sm,rfl,rfl⟩
    exact ⟨rfl,_,cs',_,m',hT.uncounts hσ who hik (room_bd _).2 hlv,i',⟨rfl,iad,isz,isl,ign,iow,ipl,isec⟩,sm,o',trivial,_,rfl⟩
 | bury ou B i =>
  have C : CpOk t n k m W.κ B i:=hg
  obtain ⟨hik,hB0,hB1,hB2⟩:=hcp C
  obtain ⟨rfl,rfl⟩:=Prod.mk.inj hq
  refine (mstep_bury h hi who hG hlen x1 isl inx F _ d ?_ (fun w1 m1 i1=>mfin_bury m1 hb i1 who hcl hW.k4 inx fz fs fg ipl (B:=B) (i:=i) (dp:=true) rfl (by omega))).mono ?_
  · rintro s' a' ⟨_,rfl⟩;exact hdn
  · rintro e w' ⟨rfl,s',cs',a',m',o',i',sm,rfl,rfl⟩
    rw [hpack] at m'
    exact ⟨rfl,_,cs',_,m',hT.lays hσ who hB0 _,i',⟨rfl,iad,isz,isl,ign,iow,ipl,isec⟩,sm,o',trivial,_,rfl⟩
end
end
end Go.Proofs.YtmnnhjhhhfabiaaGreat
