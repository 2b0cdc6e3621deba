import Derived.Test.YtpbghmeikcphnaaGreatAccGo
import Derived.Test.YtpbghmeikcphnaaGreatAccTurn
namespace Go.Proofs.YtpbghmeikcphnaaGreat
open Go.RowKit
structure Wt.ok (W : Wt) : Prop where
 k : W.kd = 1 \/ W.kd = 2 \/ W.kd = 3
 v : Fit W.vl
def Ac.sec : Ac -> CV -> Prop
 | .see,_=>True
 | .ask v t,a=>a.se = v /\ a.at_ = t
 | .load v Z,a=>a.se = v /\ a.sz = Z
 | .check v c ld,a=>a.se = v /\ a.ce = c /\ a.ld = ld
 | .stop v,a=>a.se = v
 | .lay v c,a=>a.se = v /\ a.ce = c
 | .over E val st,a=>a.E = E /\ a.H = 0 /\ a.V = val /\ a.St = st
structure Fz (W : Wt) (own : Bool) (α : Ac) (a : CV) : Prop where
 nx : a.nx = α.nx
 kd : a.kd = W.kd
 nu : a.nu = W.nu
 ix : a.ix = W.ix
 vl : a.vl = W.vl
 ol : a.ol = W.ol
 ow : a.own = own
 sec : α.sec a
theorem zD (W : Wt) (own : Bool) : Fz W own .see (xK W.kd W.nu W.ix W.vl W.ol own):=⟨rfl,rfl,rfl,rfl,rfl,rfl,rfl,trivial⟩
structure xg (w : World) (L : Loc) (s : Mm) (b o : Nat) (T : TypeId) (cs : Array Value) (t n k m σ : Nat) (W : Wt) (own : Bool) (x : Nat) (who : Int) (α : Ac) (q' : Q) (α' : Ac) (w' : World) (s' : Mm) (cs' : Array Value) (a' : CV) : Prop where
 mm : Z8 w' L s'
 tw : YT t n k m s' (σ + 1) q'
 ac : ZN w' b o T cs' a'
 is : Fz W own α' a'
 same : Same o 24 cs cs'
 only : Only (L.and b) w w'
 st : ∃ v,s' = (s.by who).step (α.at t x W) v
 rd : α.reads = true -> s' = (s.by who).step (α.at t x W) (s.wd (α.at t x W))
theorem LG (u : Int) (h : Wd u) : CellIs u (Qm u) (zC u) (LD u):=⟨h.1,h.2,rfl,rfl,rfl⟩
section
variable {w : World} {L : Loc} {s : Mm} {b o : Nat} {T : TypeId} {cs : Array Value} {a : CV} {t n k m σ : Nat} {g p r : Int} {q : Q} {W : Wt} {own : Bool}
set_option maxHeartbeats 1000000 in
theorem N9 (h : Z8 w L s) (hb : ¬ L.has b) (hT : YT t n k m s σ q) (hG : Good t n k m g p r) (hσ : σ < 1000000) (hdw : ∀ a,Wd (q.dw a)) {x G : Nat} (hh : Y0 W.nu x G) (hx : x < n) (hW : W.ok) (α : Ac) (hi : ZN w b o T cs a) (his : Fz W own α a) (hg : α.good t n k m W x G q) (ho : α.ZO = false) (who : Int) (q' : Q) (α' : Ac) (hq : YY W own x G σ q α = (q',α')) (d : Bool) (hd : α'.ZO = d) :
 Calls Tryz.prog 180 #[pP b o,eV t n k m g p r L.p who] w fun e w'=>e = .returned (.bool d) /\ ∃ s' cs' a',xg w L s b o T cs t n k m σ W own x who α q' α' w' s' cs' a':=by
 have hlen : ZI t n k m <= s.n:=by rw [hT.len];exact Nat.le_refl _
 have hlen':=hT.len
 have hxs : 6 + t + x * 2 < s.n:=by omega
 have hst : wrap64 (s.steps + 1) = ((σ + 1 : Nat) : Int):=by rw [hT.pile.st];exact hT.pile.WA hσ
 obtain ⟨Yc,Qq,Vz,RU,Ql,PY,XI,Q9⟩:=his
 rw [<- Vz] at hh
 have hk : a.kd = 1 \/ a.kd = 2 \/ a.kd = 3:=by rw [Qq];exact hW.k
 have hdn:=Ac.Ue α'
 rw [hd] at hdn
 have hoth : ∀ c,a.Tm (Qm c) = W.other c:=fun c=>by unfold CV.Tm Wt.other;rw [Qq,PY]
 have uy : ∀ c,(decide (a.kd = 1) || a.Tm (Qm c)) = W.reads c:=fun c=>by rw [hoth,Qq];rfl
 cases α with
 | over=>cases ho
 | see =>
  obtain ⟨v,hv⟩ : ∃ v,q.sw x = v:=⟨_,rfl⟩
  have hwv : s.wd (6 + t + x * 2) = v:=by rw [hT.PX x hx];exact hv
  have wv : Wd v:=by rw [<- hv];exact hT.FQ x hx
  have sl:=W9 v wv
  simp only [YY,hv] at hq
  simp only [Ac.good,hv] at hg
  by_cases hl : (Y6 (v % 8) && decide (Zv v = G)) = true
  · rw [if_pos hl] at hq
    obtain ⟨rfl,rfl⟩:=Prod.mk.inj hq
    rw [Bool.and_eq_true] at hl
    obtain ⟨i,O⟩:=hg hl.1 (of_decide_eq_true hl.2)
    have hl' : (Y6 (v % 8) && ((Zv v : Int) == (G : Int))) = true:=by
     rw [hl.1,of_decide_eq_true hl.2];simp
    refine (YO h hi who hk hG hlen hh hx (by rw [Yc];decide) _ d ?_ (fun w1 m1 i1=>P6 m1 i1 who x G Yc _ (fun w1 m1 i1=>FH m1 hb i1 who hG hx hxs hwv sl hl' hst (ci:=Zd t n k m (Zx v)) rfl (by rw [O.c1];omega)))).mono ?_
    · rintro s' a' ⟨_,rfl⟩
      rw [<- hdn];rfl
    · rintro e w' ⟨rfl,s',cs',a',m',o',i',sm,rfl,rfl⟩
      exact ⟨rfl,_,cs',_,m',hT.same hσ who _,i',⟨rfl,Qq,Vz,RU,Ql,PY,XI,⟨rfl,rfl⟩⟩,sm,o',⟨_,rfl⟩,fun _=>rfl⟩
  · rw [if_neg hl] at hq
    obtain ⟨rfl,rfl⟩:=Prod.mk.inj hq
    have hl' : (Y6 (v % 8) && ((Zv v : Int) == (G : Int))) = false:=by
     rw [Bool.not_eq_true] at hl
     rw [<- hl]
     congr 1
     rw [Bool.eq_iff_iff]
     simp only [beq_iff_eq,decide_eq_true_eq]
     omega
    refine (YO h hi who hk hG hlen hh hx (by rw [Yc];decide) _ d ?_ (fun w1 m1 i1=>P6 m1 i1 who x G Yc _ (fun w1 m1 i1=>CS m1 hb i1 who hG hx hxs hwv sl hl' hst))).mono ?_
    · rintro s' a' ⟨_,rfl⟩
      rw [<- hdn];rfl
    · rintro e w' ⟨rfl,s',cs',a',m',o',i',sm,rfl,rfl⟩
      exact ⟨rfl,_,cs',_,m',hT.same hσ who _,i',⟨rfl,Qq,Vz,RU,Ql,PY,XI,⟨rfl,rfl,rfl,rfl⟩⟩,sm,o',⟨_,rfl⟩,fun _=>rfl⟩
 | ask v t0 =>
  obtain ⟨i,O⟩:=hg
  obtain ⟨rfl,qO⟩:=Q9
  have sl:=W9 a.se O.wd
  have hin:=O.Dl
  have Q8 : s.wd (Zx a.se) = q.dw (Zx a.se):=hT.IC _ hin.1
  have hd1:=Fv _ (hdw (Zx a.se))
  have hq' : (q,N8 W own σ a.se (q.dw (Zx a.se)) t0) = (q',α'):=hq
  obtain ⟨rfl,hα⟩:=Prod.mk.inj hq'
  have hnA : Zx a.se < s.n:=by omega
  by_cases hw : (WZ (q.dw (Zx a.se)) == own) = true
  · have hwo : (WZ (q.dw (Zx a.se)) == a.own) = true:=by rw [XI];exact hw
    simp only [N8,hw,if_true] at hα
    by_cases hix : 0 <= W.ix /\ W.ix < Ux (q.dw (Zx a.se))
    · rw [if_pos hix] at hα
      subst hα
      have hm:=Pg a.se
      refine (YO h hi who hk hG hlen hh hx (by rw [Yc];show ¬ (1 : Int) = 7;decide) _ d ?_ (fun w1 m1 i1=>SX m1 i1 who x G Yc _ (fun w1 m1 i1=>CP m1 hb i1 who sl hnA Q8 hd1 hwo (fun w2 c2 i2=>FB (Z:=(Ux (q.dw (Zx a.se)) : Int)) i2 _ rfl hG (by show 0 <= a.ix;rw [RU];exact hix.1) (by show a.ix < _;rw [RU];exact hix.2) (by omega) (by omega) (by have:=O.z2;omega) O.c1 O.c2)))).mono ?_
      · rintro s' a' ⟨_,rfl⟩
        rw [<- hdn];rfl
      · rintro e w' ⟨rfl,s',cs',a',m',o',i',sm,rfl,rfl⟩
        exact ⟨rfl,_,cs',_,m',hT.same hσ who _,i',⟨rfl,Qq,Vz,RU,Ql,PY,XI,⟨rfl,rfl⟩⟩,sm,o',⟨_,rfl⟩,fun _=>rfl⟩
    · rw [if_neg hix] at hα
      subst hα
      have key : ∀ (w2 : World) (c2 : Array Value),ZN w2 b o T c2 { a with sz:=(Ux (q.dw (Zx a.se)) : Int) } -> Calls Tryz.prog 191 #[pP b o,.agg #[iV t,iV n,iV k,iV m,iV g,iV p,iV r],iV (Zx a.se)] w2 fun e w'=>e = .returned (.bool false) /\ Below w2.heap.size w2 w':=fun w2 c2 i2=>by
       by_cases h0 : W.ix < 0
       · exact FC i2 _ (by show a.ix < 0;rw [RU];exact h0)
       · exact IG (Z:=(Ux (q.dw (Zx a.se)) : Int)) i2 _ rfl (by show 0 <= a.ix;rw [RU];omega) (by show _ <= a.ix;rw [RU];omega)
      refine (YO h hi who hk hG hlen hh hx (by rw [Yc];show ¬ (1 : Int) = 7;decide) _ d ?_ (fun w1 m1 i1=>SX m1 i1 who x G Yc _ (fun w1 m1 i1=>LV m1 hb i1 who sl hnA Q8 hd1 hwo key))).mono ?_
      · rintro s' a' ⟨_,rfl⟩
        rw [<- hdn];rfl
      · rintro e w' ⟨rfl,s',cs',a',m',o',i',sm,rfl,rfl⟩
        exact ⟨rfl,_,cs',_,m',hT.same hσ who _,i',⟨rfl,Qq,Vz,RU,Ql,PY,XI,⟨rfl,rfl,rfl,qO⟩⟩,sm,o',⟨_,rfl⟩,fun _=>rfl⟩
  · have hw' : (WZ (q.dw (Zx a.se)) == own) = false:=by simpa using hw
    have hwo : (WZ (q.dw (Zx a.se)) == a.own) = false:=by rw [XI];exact hw'
    simp only [N8,hw'] at hα
    subst hα
    refine (YO h hi who hk hG hlen hh hx (by rw [Yc];show ¬ (1 : Int) = 7;decide) _ d ?_ (fun w1 m1 i1=>SX m1 i1 who x G Yc _ (fun w1 m1 i1=>CQ m1 hb i1 who sl hnA Q8 hd1 hwo hst))).mono ?_
    · rintro s' a' ⟨_,rfl⟩
      rw [<- hdn];rfl
    · rintro e w' ⟨rfl,s',cs',a',m',o',i',sm,rfl,rfl⟩
      exact ⟨rfl,_,cs',_,m',hT.same hσ who _,i',⟨rfl,Qq,Vz,RU,Ql,PY,XI,⟨rfl,rfl,rfl,rfl⟩⟩,sm,o',⟨_,rfl⟩,fun _=>rfl⟩
 | load v Z =>
  obtain ⟨⟨i,O⟩,h0,h1,h4'⟩:=hg
  obtain ⟨rfl,Q7⟩:=Q9
  have sl:=W9 a.se O.wd
  have hin:=O.Dl
  have z2:=O.z2
  have O9 : a.ix = (W.ix.toNat : Int):=by rw [RU];omega
  have hjz : W.ix.toNat < Z:=by omega
  have CJ : Zx a.se + 1 + W.ix.toNat < s.n:=by omega
  have Q8 : s.wd (Zx a.se + 1 + W.ix.toNat) = q.dw (W.at a.se):=hT.IC _ (by omega)
  have hc:=LG _ (hdw (W.at a.se))
  have hq' : (q,SS W σ a.se (q.dw (W.at a.se))) = (q',α'):=hq
  obtain ⟨rfl,hα⟩:=Prod.mk.inj hq'
  obtain ⟨c,hcc⟩ : ∃ c,q.dw (W.at a.se) = c:=⟨_,rfl⟩
  have hrc:=uy c
  rw [hcc] at Q8 hc hα
  have fin : ∀ {N : Int},α'.nx = N -> Fz W own α' { a with ce:=c,ld:=((σ + 1 : Nat) : Int),nx:=N } -> (∀ w1 : World,Z8 w1 L s -> ZN w1 b o T cs a -> Calls Tryz.prog 187 #[pP b o,eV t n k m g p r L.p who,.agg #[iV x,iV G]] w1 fun e w'=>e = .returned (.tuple #[]) /\ Yq L b o T cs w1 w' (fun s' a'=>s' = (s.by who).step (Zx a.se + 1 + W.ix.toNat) (s.wd (Zx a.se + 1 + W.ix.toNat)) /\ a' = { a with ce:=c,ld:=((σ + 1 : Nat) : Int),nx:=N })) ->
   Calls Tryz.prog 180 #[pP b o,eV t n k m g p r L.p who] w fun e w'=>e = .returned (.bool d) /\ ∃ s' cs' a',xg w L s b o T cs t n k m σ W own x who (.load a.se Z) q α' w' s' cs' a':=by
   intro N hN hIs hcall
   refine (YO h hi who hk hG hlen hh hx (by rw [Yc];show ¬ (2 : Int) = 7;decide) _ d ?_ (fun w1 m1 i1=>LU m1 i1 who x G Yc _ hcall)).mono ?_
   · rintro s' a' ⟨_,rfl⟩
     rw [<- hdn,hN]
   · rintro e w' ⟨rfl,s',cs',a',m',o',i',sm,rfl,rfl⟩
     exact ⟨rfl,_,cs',_,m',hT.same hσ who _,i',hIs,sm,o',⟨_,rfl⟩,fun _=>rfl⟩
  cases hr : W.reads c with
  | true =>
   rw [hr] at hrc
   simp only [SS,hr,if_true] at hα
   subst hα
   exact fin rfl ⟨rfl,Qq,Vz,RU,Ql,PY,XI,⟨rfl,rfl,rfl⟩⟩ fun w1 m1 i1=>Oa m1 hb i1 who sl O9 (by omega) CJ Q8 hc hst hrc
  | false =>
   have h4 : a.se % 8 ≠ 4:=h4'.resolve_right (by rw [hcc,hr];decide)
   rw [hr] at hrc
   simp only [SS,hr,Bool.false_eq_true,if_false] at hα
   cases hf : zC c with
   | false =>
    simp only [hf,Bool.false_and,Bool.false_eq_true,if_false] at hα
    subst hα
    exact fin rfl ⟨rfl,Qq,Vz,RU,Ql,PY,XI,⟨rfl,rfl⟩⟩ fun w1 m1 i1=>LH m1 hb i1 who sl O9 (by omega) CJ Q8 hc hst hrc h4 hf
   | true =>
    simp only [hf,Bool.true_and] at hα
    by_cases hv : LD c = (YQ a.se : Int)
    · by_cases h2 : a.se % 8 = 2
      · simp only [hv,h2,decide_true,Bool.and_self,if_true] at hα
        subst hα
        exact fin rfl ⟨rfl,Qq,Vz,RU,Ql,PY,XI,rfl⟩ fun w1 m1 i1=>LM m1 hb i1 who sl O9 (by omega) CJ Q8 hc hst hrc h2 hf hv
      · simp only [hv,h2,decide_true,decide_false,Bool.and_false,Bool.false_eq_true,if_false,Int.le_refl,if_true] at hα
        subst hα
        exact fin rfl ⟨rfl,Qq,Vz,RU,Ql,PY,XI,trivial⟩ fun w1 m1 i1=>LK m1 hb i1 who sl O9 (by omega) CJ Q8 hc hst hrc h4 h2 hf hv
    · by_cases hge : (YQ a.se : Int) <= LD c
      · simp only [hv,hge,decide_true,decide_false,Bool.false_and,Bool.false_eq_true,if_false,if_true] at hα
        subst hα
        exact fin rfl ⟨rfl,Qq,Vz,RU,Ql,PY,XI,trivial⟩ fun w1 m1 i1=>LJ m1 hb i1 who sl O9 (by omega) CJ Q8 hc hst hrc h4 hf hv hge
      · simp only [hv,hge,decide_false,Bool.false_and,Bool.false_eq_true,if_false] at hα
        subst hα
        exact fin rfl ⟨rfl,Qq,Vz,RU,Ql,PY,XI,⟨rfl,rfl⟩⟩ fun w1 m1 i1=>IE m1 hb i1 who sl O9 (by omega) CJ Q8 hc hst hrc h4 hf hv hge
 | check v c ld =>
  obtain ⟨wv,wc⟩:=hg
  obtain ⟨rfl,rfl,rM⟩:=Q9
  obtain ⟨u,hu⟩ : ∃ u,q.sw x = u:=⟨_,rfl⟩
  have Q8 : s.wd (6 + t + x * 2) = u:=by rw [hT.PX x hx];exact hu
  have wu : Wd u:=by rw [<- hu];exact hT.FQ x hx
  have sl:=W9 u wu
  have sl0:=W9 a.se wv
  have hc:=LG a.ce wc
  have hq' : (q,U4 W G σ a.se a.ce u ld) = (q',α'):=by rw [<- hq,<- hu];rfl
  obtain ⟨rfl,hα⟩:=Prod.mk.inj hq'
  by_cases hl : (Y6 (u % 8) && decide (Zv u = G)) = true
  · have hl0:=hl
    rw [Bool.and_eq_true] at hl0
    have hl' : (Y6 (u % 8) && ((Zv u : Int) == (G : Int))) = true:=by
     rw [hl0.1,of_decide_eq_true hl0.2];simp
    simp only [U4,hl,if_true] at hα
    by_cases hA : Zx u = Zx a.se
    · rw [if_pos hA] at hα
      cases hot : W.other a.ce with
      | true =>
       rw [hot,if_pos rfl] at hα
       subst hα
       refine (YO h hi who hk hG hlen hh hx (by rw [Yc];show ¬ (3 : Int) = 7;decide) _ d ?_ (fun w1 m1 i1=>WC m1 i1 who x G Yc _ (fun w1 m1 i1=>Pj m1 hb i1 who hG hx hxs Q8 sl hl' hc sl0 (by rw [hA]) (by rw [hoth];exact hot)))).mono ?_
       · rintro s' a' ⟨_,rfl⟩
         rw [<- hdn];rfl
       · rintro e w' ⟨rfl,s',cs',a',m',o',i',sm,rfl,rfl⟩
         exact ⟨rfl,_,cs',_,m',hT.same hσ who _,i',⟨rfl,Qq,Vz,RU,Ql,PY,XI,⟨rfl,rfl,rfl,rM⟩⟩,sm,o',⟨_,rfl⟩,fun _=>rfl⟩
      | false =>
       rw [hot,if_neg (by decide)] at hα
       subst hα
       refine (YO h hi who hk hG hlen hh hx (by rw [Yc];show ¬ (3 : Int) = 7;decide) _ d ?_ (fun w1 m1 i1=>WC m1 i1 who x G Yc _ (fun w1 m1 i1=>IK m1 hb i1 who hG hx hxs Q8 sl hl' hc sl0 (by rw [hA]) (by rw [hoth];exact hot)))).mono ?_
       · rintro s' a' ⟨_,rfl⟩
         rw [<- hdn];rfl
       · rintro e w' ⟨rfl,s',cs',a',m',o',i',sm,rfl,rfl⟩
         exact ⟨rfl,_,cs',_,m',hT.same hσ who _,i',⟨rfl,Qq,Vz,RU,Ql,PY,XI,⟨rfl,rfl,rfl,rM⟩⟩,sm,o',⟨_,rfl⟩,fun _=>rfl⟩
    · rw [if_neg hA] at hα
      subst hα
      refine (YO h hi who hk hG hlen hh hx (by rw [Yc];show ¬ (3 : Int) = 7;decide) _ d ?_ (fun w1 m1 i1=>WC m1 i1 who x G Yc _ (fun w1 m1 i1=>Oc m1 hb i1 who hG hx hxs Q8 sl hl' hc sl0 (by omega)))).mono ?_
      · rintro s' a' ⟨_,rfl⟩
        rw [<- hdn];rfl
      · rintro e w' ⟨rfl,s',cs',a',m',o',i',sm,rfl,rfl⟩
        exact ⟨rfl,_,cs',_,m',hT.same hσ who _,i',⟨rfl,Qq,Vz,RU,Ql,PY,XI,trivial⟩,sm,o',⟨_,rfl⟩,fun _=>rfl⟩
  · have hl' : (Y6 (u % 8) && ((Zv u : Int) == (G : Int))) = false:=by
     rw [Bool.not_eq_true] at hl
     rw [<- hl]
     congr 1
     rw [Bool.eq_iff_iff]
     simp only [beq_iff_eq,decide_eq_true_eq]
     omega
    simp only [U4] at hα
    rw [if_neg hl] at hα
    subst hα
    refine (YO h hi who hk hG hlen hh hx (by rw [Yc];show ¬ (3 : Int) = 7;decide) _ d ?_ (fun w1 m1 i1=>WC m1 i1 who x G Yc _ (fun w1 m1 i1=>Oe m1 hb i1 who hG hx hxs Q8 sl hl' hc hst))).mono ?_
    · rintro s' a' ⟨_,rfl⟩
      rw [<- hdn];rfl
    · rintro e w' ⟨rfl,s',cs',a',m',o',i',sm,rfl,rfl⟩
      exact ⟨rfl,_,cs',_,m',hT.same hσ who _,i',⟨rfl,Qq,Vz,RU,Ql,PY,XI,⟨rfl,rfl,rfl,rfl⟩⟩,sm,o',⟨_,rfl⟩,fun _=>rfl⟩
 | stop v =>
  have wv : Wd v:=hg
  obtain rfl : a.se = v:=Q9
  have sl:=W9 a.se wv
  have hq' : ((if q.sw x = a.se then { q with sw:=upd q.sw x (Fq a.se) } else q),Ac.see) = (q',α'):=hq
  obtain ⟨hqq,rfl⟩:=Prod.mk.inj hq'
  refine (YO h hi who hk hG hlen hh hx (by rw [Yc];show ¬ (5 : Int) = 7;decide) _ d ?_ (fun w1 m1 i1=>LQ m1 i1 who x G Yc _ (fun w1 m1 i1=>IJ m1 hb i1 who hG hx hxs sl))).mono ?_
  · rintro s' a' ⟨_,rfl⟩
    rw [<- hdn];rfl
  · rintro e w' ⟨rfl,s',cs',a',m',o',i',sm,rfl,rfl⟩
    by_cases hw : q.sw x = a.se
    · have hw' : s.wd (6 + t + x * 2) = a.se:=by rw [hT.PX x hx];exact hw
      rw [if_pos hw] at hqq
      subst hqq
      rw [Ud hw'] at m'
      exact ⟨rfl,_,cs',_,m',hT.shows hσ who hx _ (N7 _).1 (N7 _).2,i',⟨rfl,Qq,Vz,RU,Ql,PY,XI,trivial⟩,sm,o',⟨_,rfl⟩,fun h=>by cases h⟩
    · have hw' : s.wd (6 + t + x * 2) ≠ a.se:=by rw [hT.PX x hx];exact hw
      rw [if_neg hw] at hqq
      subst hqq
      rw [Vu hw'] at m'
      exact ⟨rfl,_,cs',_,m',hT.same hσ who _,i',⟨rfl,Qq,Vz,RU,Ql,PY,XI,trivial⟩,sm,o',⟨_,rfl⟩,fun h=>by cases h⟩
 | lay v c =>
  obtain ⟨⟨Z,i,O,h1⟩,h0,wc⟩:=hg
  obtain ⟨rfl,rfl⟩:=Q9
  have sl:=W9 a.se O.wd
  have hc:=LG a.ce wc
  have hin:=O.Dl
  have z2:=O.z2
  have O9 : a.ix = (W.ix.toNat : Int):=by rw [RU];omega
  have CJ : Zx a.se + 1 + W.ix.toNat < s.n:=by omega
  have Q8 : s.wd (Zx a.se + 1 + W.ix.toNat) = q.dw (W.at a.se):=hT.IC _ (by omega)
  by_cases hw : q.dw (W.at a.se) = a.ce
  · have hw' : s.wd (Zx a.se + 1 + W.ix.toNat) = a.ce:=Q8.trans hw
    simp only [YY,hw,if_true] at hq
    obtain ⟨rfl,rfl⟩:=Prod.mk.inj hq
    refine (YO h hi who hk hG hlen hh hx (by rw [Yc];show ¬ (6 : Int) = 7;decide) _ d ?_ (fun w1 m1 i1=>P5 m1 i1 who x G Yc _ (fun w1 m1 i1=>FD m1 hb i1 who sl O9 (by omega) CJ Ql hW.v (decide_eq_true hw') hc hst))).mono ?_
    · rintro s' a' ⟨_,rfl⟩
      rw [<- hdn];rfl
    · rintro e w' ⟨rfl,s',cs',a',m',o',i',sm,rfl,rfl⟩
      rw [Ud hw'] at m'
      exact ⟨rfl,_,cs',_,m',hT.lays hσ who (by omega) _,i',⟨rfl,Qq,Vz,RU,Ql,PY,XI,⟨rfl,rfl,rfl,rfl⟩⟩,sm,o',⟨_,rfl⟩,fun h=>by cases h⟩
  · have hw' : s.wd (Zx a.se + 1 + W.ix.toNat) ≠ a.ce:=by rw [Q8];exact hw
    simp only [YY,hw,if_false] at hq
    obtain ⟨rfl,rfl⟩:=Prod.mk.inj hq
    refine (YO h hi who hk hG hlen hh hx (by rw [Yc];show ¬ (6 : Int) = 7;decide) _ d ?_ (fun w1 m1 i1=>P5 m1 i1 who x G Yc _ (fun w1 m1 i1=>CO m1 hb i1 who sl O9 (by omega) CJ Ql hW.v (decide_eq_false hw')))).mono ?_
    · rintro s' a' ⟨_,rfl⟩
      rw [<- hdn];rfl
    · rintro e w' ⟨rfl,s',cs',a',m',o',i',sm,rfl,rfl⟩
      rw [Vu hw'] at m'
      exact ⟨rfl,_,cs',_,m',hT.same hσ who _,i',⟨rfl,Qq,Vz,RU,Ql,PY,XI,trivial⟩,sm,o',⟨_,rfl⟩,fun h=>by cases h⟩
end
end Go.Proofs.YtpbghmeikcphnaaGreat
