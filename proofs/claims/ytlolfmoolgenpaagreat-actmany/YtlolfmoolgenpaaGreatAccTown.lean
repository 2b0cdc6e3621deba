import Derived.Test.YtlolfmoolgenpaaGreatAccGo
import Derived.Test.YtlolfmoolgenpaaGreatAccTurn
namespace Go.Proofs.YtlolfmoolgenpaaGreat
open Go.RowKit
structure Wt.ok (W : Wt) : Prop where
 k : W.kd = 1 \/ W.kd = 2 \/ W.kd = 3
 v : Fit W.vl
def Ac.sec : Ac -> CV -> Prop
 | .see,_=>True
 | .ask v t,a=>a.se = v /\ a.at_ = t
 | .load v Z,a=>a.se = v /\ a.sz = Z
 | .check v c ld,a=>a.se = v /\ a.ce = c /\ a.ld = ld
 | .stop v,a=>a.se = v
 | .lay v c,a=>a.se = v /\ a.ce = c
 | .over E val st,a=>a.E = E /\ a.H = 0 /\ a.V = val /\ a.St = st
structure AcIs (W : Wt) (own : Bool) (α : Ac) (a : CV) : Prop where
 nx : a.nx = α.nx
 kd : a.kd = W.kd
 nu : a.nu = W.nu
 ix : a.ix = W.ix
 vl : a.vl = W.vl
 ol : a.ol = W.ol
 ow : a.own = own
 sec : α.sec a
theorem ac0_is (W : Wt) (own : Bool) : AcIs W own .see (cv0 W.kd W.nu W.ix W.vl W.ol own):=⟨rfl,rfl,rfl,rfl,rfl,rfl,rfl,trivial⟩
structure CDid (w : World) (L : Loc) (s : Mm) (b o : Nat) (T : TypeId) (cs : Array Value) (t n k m σ : Nat) (W : Wt) (own : Bool) (x : Nat) (who : Int) (α : Ac) (q' : Q) (α' : Ac) (w' : World) (s' : Mm) (cs' : Array Value) (a' : CV) : Prop where
 mm : MemAt w' L s'
 tw : Town t n k m s' (σ + 1) q'
 ac : AcAt w' b o T cs' a'
 is : AcIs W own α' a'
 same : Same o 24 cs cs'
 only : Only (L.and b) w w'
 st : ∃ v,s' = (s.by who).step (α.at t x W) v
 rd : α.reads = true -> s' = (s.by who).step (α.at t x W) (s.wd (α.at t x W))
theorem cellIs (u : Int) (h : Wd u) : CellIs u (vOf u) (frB u) (crOf u):=⟨h.1,h.2,rfl,rfl,rfl⟩
section
variable {w : World} {L : Loc} {s : Mm} {b o : Nat} {T : TypeId} {cs : Array Value} {a : CV} {t n k m σ : Nat} {g p r : Int} {q : Q} {W : Wt} {own : Bool}
set_option maxHeartbeats 1000000 in
theorem access_step (h : MemAt w L s) (hb : ¬ L.has b) (hT : Town t n k m s σ q) (hG : Good t n k m g p r) (hσ : σ < 1000000) (hdw : ∀ a,Wd (q.dw a)) {x G : Nat} (hh : HandIs W.nu x G) (hx : x < n) (hW : W.ok) (α : Ac) (hi : AcAt w b o T cs a) (his : AcIs W own α a) (hg : α.good t n k m W x G q) (ho : α.over? = false) (who : Int) (q' : Q) (α' : Ac) (hq : acTurn W own x G σ q α = (q',α')) (d : Bool) (hd : α'.over? = d) :
 Calls Tryz.prog 142 #[.pointer (some ⟨b,o,none⟩),.agg #[.int .i64 t,.int .i64 n,.int .i64 k,.int .i64 m,.int .i64 g,.int .i64 p,.int .i64 r,.pointer (some ⟨L.p,0,none⟩),.int .i64 who]] w fun e w'=>e = .returned (.bool d) /\ ∃ s' cs' a',CDid w L s b o T cs t n k m σ W own x who α q' α' w' s' cs' a':=by
 have hlen : arenaLen t n k m <= s.n:=by rw [hT.len];exact Nat.le_refl _
 have hlen':=hT.len
 have hxs : 6 + t + x * 2 < s.n:=by omega
 have hst : wrap64 (s.steps + 1) = ((σ + 1 : Nat) : Int):=by rw [hT.pile.st];exact hT.pile.wrapS hσ
 obtain ⟨inx,ikd,inu,iix,ivl,iol,iow,isec⟩:=his
 rw [<- inu] at hh
 have hk : a.kd = 1 \/ a.kd = 2 \/ a.kd = 3:=by rw [ikd];exact hW.k
 have hdn:=Ac.nx_over α'
 rw [hd] at hdn
 have hoth : ∀ c,a.oth (vOf c) = W.other c:=fun c=>by unfold CV.oth Wt.other;rw [ikd,iol]
 have hrds : ∀ c,(decide (a.kd = 1) || a.oth (vOf c)) = W.reads c:=fun c=>by rw [hoth,ikd];rfl
 cases α with
 | over=>cases ho
 | see =>
  obtain ⟨v,hv⟩ : ∃ v,q.sw x = v:=⟨_,rfl⟩
  have hwv : s.wd (6 + t + x * 2) = v:=by rw [hT.swv x hx];exact hv
  have wv : Wd v:=by rw [<- hv];exact hT.swb x hx
  have sl:=slotIs v wv
  simp only [acTurn,hv] at hq
  simp only [Ac.good,hv] at hg
  by_cases hl : (lifeB (v % 8) && decide (genOf v = G)) = true
  · rw [if_pos hl] at hq
    obtain ⟨rfl,rfl⟩:=Prod.mk.inj hq
    rw [Bool.and_eq_true] at hl
    obtain ⟨i,O⟩:=hg hl.1 (of_decide_eq_true hl.2)
    have hl' : (lifeB (v % 8) && ((genOf v : Int) == (G : Int))) = true:=by
     rw [hl.1,of_decide_eq_true hl.2];simp
    refine (acstep_go h hi who hk hG hlen hh hx (by rw [inx];decide) _ d ?_ (fun w1 m1 i1=>adoes_see m1 i1 who x G inx _ (fun w1 m1 i1=>asee_yes m1 hb i1 who hG hx hxs hwv sl hl' hst (ci:=chunkOf t n k m (adOf v)) rfl (by rw [O.c1];omega)))).mono ?_
    · rintro s' a' ⟨_,rfl⟩
      rw [<- hdn];rfl
    · rintro e w' ⟨rfl,s',cs',a',m',o',i',sm,rfl,rfl⟩
      exact ⟨rfl,_,cs',_,m',hT.same hσ who _,i',⟨rfl,ikd,inu,iix,ivl,iol,iow,⟨rfl,rfl⟩⟩,sm,o',⟨_,rfl⟩,fun _=>rfl⟩
  · rw [if_neg hl] at hq
    obtain ⟨rfl,rfl⟩:=Prod.mk.inj hq
    have hl' : (lifeB (v % 8) && ((genOf v : Int) == (G : Int))) = false:=by
     rw [Bool.not_eq_true] at hl
     rw [<- hl]
     congr 1
     rw [Bool.eq_iff_iff]
     simp only [beq_iff_eq,decide_eq_true_eq]
     omega
    refine (acstep_go h hi who hk hG hlen hh hx (by rw [inx];decide) _ d ?_ (fun w1 m1 i1=>adoes_see m1 i1 who x G inx _ (fun w1 m1 i1=>asee_no m1 hb i1 who hG hx hxs hwv sl hl' hst))).mono ?_
    · rintro s' a' ⟨_,rfl⟩
      rw [<- hdn];rfl
    · rintro e w' ⟨rfl,s',cs',a',m',o',i',sm,rfl,rfl⟩
      exact ⟨rfl,_,cs',_,m',hT.same hσ who _,i',⟨rfl,ikd,inu,iix,ivl,iol,iow,⟨rfl,rfl,rfl,rfl⟩⟩,sm,o',⟨_,rfl⟩,fun _=>rfl⟩
 | ask v t0 =>
  obtain ⟨i,O⟩:=hg
  obtain ⟨rfl,iat⟩:=isec
  have sl:=slotIs a.se O.wd
  have hin:=O.inn
  have hwu : s.wd (adOf a.se) = q.dw (adOf a.se):=hT.dwv _ hin.1
  have hd1:=headIs _ (hdw (adOf a.se))
  have hq' : (q,acAsk W own σ a.se (q.dw (adOf a.se)) t0) = (q',α'):=hq
  obtain ⟨rfl,hα⟩:=Prod.mk.inj hq'
  have hnA : adOf a.se < s.n:=by omega
  by_cases hw : (ownOf (q.dw (adOf a.se)) == own) = true
  · have hwo : (ownOf (q.dw (adOf a.se)) == a.own) = true:=by rw [iow];exact hw
    simp only [acAsk,hw,if_true] at hα
    by_cases hix : 0 <= W.ix /\ W.ix < szOf (q.dw (adOf a.se))
    · rw [if_pos hix] at hα
      subst hα
      have hm:=adOf_le a.se
      refine (acstep_go h hi who hk hG hlen hh hx (by rw [inx];show ¬ (1 : Int) = 7;decide) _ d ?_ (fun w1 m1 i1=>adoes_ask m1 i1 who x G inx _ (fun w1 m1 i1=>aask_go m1 hb i1 who sl hnA hwu hd1 hwo (fun w2 c2 i2=>ahas_yes (Z:=(szOf (q.dw (adOf a.se)) : Int)) i2 _ rfl hG (by show 0 <= a.ix;rw [iix];exact hix.1) (by show a.ix < _;rw [iix];exact hix.2) (by omega) (by omega) (by have:=O.z2;omega) O.c1 O.c2)))).mono ?_
      · rintro s' a' ⟨_,rfl⟩
        rw [<- hdn];rfl
      · rintro e w' ⟨rfl,s',cs',a',m',o',i',sm,rfl,rfl⟩
        exact ⟨rfl,_,cs',_,m',hT.same hσ who _,i',⟨rfl,ikd,inu,iix,ivl,iol,iow,⟨rfl,rfl⟩⟩,sm,o',⟨_,rfl⟩,fun _=>rfl⟩
    · rw [if_neg hix] at hα
      subst hα
      have key : ∀ (w2 : World) (c2 : Array Value),AcAt w2 b o T c2 { a with sz:=(szOf (q.dw (adOf a.se)) : Int) } -> Calls Tryz.prog 153 #[.pointer (some ⟨b,o,none⟩),.agg #[.int .i64 t,.int .i64 n,.int .i64 k,.int .i64 m,.int .i64 g,.int .i64 p,.int .i64 r],.int .i64 (adOf a.se)] w2 fun e w'=>e = .returned (.bool false) /\ Below w2.heap.size w2 w':=fun w2 c2 i2=>by
       by_cases h0 : W.ix < 0
       · exact ahas_low i2 _ (by show a.ix < 0;rw [iix];exact h0)
       · exact ahas_high (Z:=(szOf (q.dw (adOf a.se)) : Int)) i2 _ rfl (by show 0 <= a.ix;rw [iix];omega) (by show _ <= a.ix;rw [iix];omega)
      refine (acstep_go h hi who hk hG hlen hh hx (by rw [inx];show ¬ (1 : Int) = 7;decide) _ d ?_ (fun w1 m1 i1=>adoes_ask m1 i1 who x G inx _ (fun w1 m1 i1=>aask_index m1 hb i1 who sl hnA hwu hd1 hwo key))).mono ?_
      · rintro s' a' ⟨_,rfl⟩
        rw [<- hdn];rfl
      · rintro e w' ⟨rfl,s',cs',a',m',o',i',sm,rfl,rfl⟩
        exact ⟨rfl,_,cs',_,m',hT.same hσ who _,i',⟨rfl,ikd,inu,iix,ivl,iol,iow,⟨rfl,rfl,rfl,iat⟩⟩,sm,o',⟨_,rfl⟩,fun _=>rfl⟩
  · have hw' : (ownOf (q.dw (adOf a.se)) == own) = false:=by simpa using hw
    have hwo : (ownOf (q.dw (adOf a.se)) == a.own) = false:=by rw [iow];exact hw'
    simp only [acAsk,hw'] at hα
    subst hα
    refine (acstep_go h hi who hk hG hlen hh hx (by rw [inx];show ¬ (1 : Int) = 7;decide) _ d ?_ (fun w1 m1 i1=>adoes_ask m1 i1 who x G inx _ (fun w1 m1 i1=>aask_no m1 hb i1 who sl hnA hwu hd1 hwo hst))).mono ?_
    · rintro s' a' ⟨_,rfl⟩
      rw [<- hdn];rfl
    · rintro e w' ⟨rfl,s',cs',a',m',o',i',sm,rfl,rfl⟩
      exact ⟨rfl,_,cs',_,m',hT.same hσ who _,i',⟨rfl,ikd,inu,iix,ivl,iol,iow,⟨rfl,rfl,rfl,rfl⟩⟩,sm,o',⟨_,rfl⟩,fun _=>rfl⟩
 | load v Z =>
  obtain ⟨⟨i,O⟩,h0,h1,h4⟩:=hg
  obtain ⟨rfl,isz⟩:=isec
  have sl:=slotIs a.se O.wd
  have hin:=O.inn
  have z2:=O.z2
  have hixn : a.ix = (W.ix.toNat : Int):=by rw [iix];omega
  have hjz : W.ix.toNat < Z:=by omega
  have hnJ : adOf a.se + 1 + W.ix.toNat < s.n:=by omega
  have hwu : s.wd (adOf a.se + 1 + W.ix.toNat) = q.dw (W.at a.se):=hT.dwv _ (by omega)
  have hc:=cellIs _ (hdw (W.at a.se))
  have hq' : (q,acLoad W σ a.se (q.dw (W.at a.se))) = (q',α'):=hq
  obtain ⟨rfl,hα⟩:=Prod.mk.inj hq'
  obtain ⟨c,hcc⟩ : ∃ c,q.dw (W.at a.se) = c:=⟨_,rfl⟩
  have hrc:=hrds c
  rw [hcc] at hwu hc hα
  have fin : ∀ {N : Int},α'.nx = N -> AcIs W own α' { a with ce:=c,ld:=((σ + 1 : Nat) : Int),nx:=N } -> (∀ w1 : World,MemAt w1 L s -> AcAt w1 b o T cs a -> Calls Tryz.prog 149 #[.pointer (some ⟨b,o,none⟩),.agg #[.int .i64 t,.int .i64 n,.int .i64 k,.int .i64 m,.int .i64 g,.int .i64 p,.int .i64 r,.pointer (some ⟨L.p,0,none⟩),.int .i64 who],.agg #[.int .i64 x,.int .i64 G]] w1 fun e w'=>e = .returned (.tuple #[]) /\ Cact L b o T cs w1 w' (fun s' a'=>s' = (s.by who).step (adOf a.se + 1 + W.ix.toNat) (s.wd (adOf a.se + 1 + W.ix.toNat)) /\ a' = { a with ce:=c,ld:=((σ + 1 : Nat) : Int),nx:=N })) ->
   Calls Tryz.prog 142 #[.pointer (some ⟨b,o,none⟩),.agg #[.int .i64 t,.int .i64 n,.int .i64 k,.int .i64 m,.int .i64 g,.int .i64 p,.int .i64 r,.pointer (some ⟨L.p,0,none⟩),.int .i64 who]] w fun e w'=>e = .returned (.bool d) /\ ∃ s' cs' a',CDid w L s b o T cs t n k m σ W own x who (.load a.se Z) q α' w' s' cs' a':=by
   intro N hN hIs hcall
   refine (acstep_go h hi who hk hG hlen hh hx (by rw [inx];show ¬ (2 : Int) = 7;decide) _ d ?_ (fun w1 m1 i1=>adoes_load m1 i1 who x G inx _ hcall)).mono ?_
   · rintro s' a' ⟨_,rfl⟩
     rw [<- hdn,hN]
   · rintro e w' ⟨rfl,s',cs',a',m',o',i',sm,rfl,rfl⟩
     exact ⟨rfl,_,cs',_,m',hT.same hσ who _,i',hIs,sm,o',⟨_,rfl⟩,fun _=>rfl⟩
  cases hr : W.reads c with
  | true =>
   rw [hr] at hrc
   simp only [acLoad,hr,if_true] at hα
   subst hα
   exact fin rfl ⟨rfl,ikd,inu,iix,ivl,iol,iow,⟨rfl,rfl,rfl⟩⟩ fun w1 m1 i1=>aload_check m1 hb i1 who sl hixn (by omega) hnJ hwu hc hst hrc
  | false =>
   rw [hr] at hrc
   simp only [acLoad,hr,Bool.false_eq_true,if_false] at hα
   cases hf : frB c with
   | false =>
    simp only [hf,Bool.false_and,Bool.false_eq_true,if_false] at hα
    subst hα
    exact fin rfl ⟨rfl,ikd,inu,iix,ivl,iol,iow,⟨rfl,rfl⟩⟩ fun w1 m1 i1=>aload_open m1 hb i1 who sl hixn (by omega) hnJ hwu hc hst hrc h4 hf
   | true =>
    simp only [hf,Bool.true_and] at hα
    by_cases hv : crOf c = (verOf' a.se : Int)
    · by_cases h2 : a.se % 8 = 2
      · simp only [hv,h2,decide_true,Bool.and_self,if_true] at hα
        subst hα
        exact fin rfl ⟨rfl,ikd,inu,iix,ivl,iol,iow,rfl⟩ fun w1 m1 i1=>aload_stop m1 hb i1 who sl hixn (by omega) hnJ hwu hc hst hrc h2 hf hv
      · simp only [hv,h2,decide_true,decide_false,Bool.and_false,Bool.false_eq_true,if_false,Int.le_refl,if_true] at hα
        subst hα
        exact fin rfl ⟨rfl,ikd,inu,iix,ivl,iol,iow,trivial⟩ fun w1 m1 i1=>aload_anew m1 hb i1 who sl hixn (by omega) hnJ hwu hc hst hrc h4 h2 hf hv
    · by_cases hge : (verOf' a.se : Int) <= crOf c
      · simp only [hv,hge,decide_true,decide_false,Bool.false_and,Bool.false_eq_true,if_false,if_true] at hα
        subst hα
        exact fin rfl ⟨rfl,ikd,inu,iix,ivl,iol,iow,trivial⟩ fun w1 m1 i1=>aload_more m1 hb i1 who sl hixn (by omega) hnJ hwu hc hst hrc h4 hf hv hge
      · simp only [hv,hge,decide_false,Bool.false_and,Bool.false_eq_true,if_false] at hα
        subst hα
        exact fin rfl ⟨rfl,ikd,inu,iix,ivl,iol,iow,⟨rfl,rfl⟩⟩ fun w1 m1 i1=>aload_old m1 hb i1 who sl hixn (by omega) hnJ hwu hc hst hrc h4 hf hv hge
 | check v c ld =>
  obtain ⟨wv,wc⟩:=hg
  obtain ⟨rfl,rfl,ild⟩:=isec
  obtain ⟨u,hu⟩ : ∃ u,q.sw x = u:=⟨_,rfl⟩
  have hwu : s.wd (6 + t + x * 2) = u:=by rw [hT.swv x hx];exact hu
  have wu : Wd u:=by rw [<- hu];exact hT.swb x hx
  have sl:=slotIs u wu
  have sl0:=slotIs a.se wv
  have hc:=cellIs a.ce wc
  have hq' : (q,acCheck W G σ a.se a.ce u ld) = (q',α'):=by rw [<- hq,<- hu];rfl
  obtain ⟨rfl,hα⟩:=Prod.mk.inj hq'
  by_cases hl : (lifeB (u % 8) && decide (genOf u = G)) = true
  · have hl0:=hl
    rw [Bool.and_eq_true] at hl0
    have hl' : (lifeB (u % 8) && ((genOf u : Int) == (G : Int))) = true:=by
     rw [hl0.1,of_decide_eq_true hl0.2];simp
    simp only [acCheck,hl,if_true] at hα
    by_cases hA : adOf u = adOf a.se
    · rw [if_pos hA] at hα
      cases hot : W.other a.ce with
      | true =>
       rw [hot,if_pos rfl] at hα
       subst hα
       refine (acstep_go h hi who hk hG hlen hh hx (by rw [inx];show ¬ (3 : Int) = 7;decide) _ d ?_ (fun w1 m1 i1=>adoes_check m1 i1 who x G inx _ (fun w1 m1 i1=>acheck_other m1 hb i1 who hG hx hxs hwu sl hl' hc sl0 (by rw [hA]) (by rw [hoth];exact hot)))).mono ?_
       · rintro s' a' ⟨_,rfl⟩
         rw [<- hdn];rfl
       · rintro e w' ⟨rfl,s',cs',a',m',o',i',sm,rfl,rfl⟩
         exact ⟨rfl,_,cs',_,m',hT.same hσ who _,i',⟨rfl,ikd,inu,iix,ivl,iol,iow,⟨rfl,rfl,rfl,ild⟩⟩,sm,o',⟨_,rfl⟩,fun _=>rfl⟩
      | false =>
       rw [hot,if_neg (by decide)] at hα
       subst hα
       refine (acstep_go h hi who hk hG hlen hh hx (by rw [inx];show ¬ (3 : Int) = 7;decide) _ d ?_ (fun w1 m1 i1=>adoes_check m1 i1 who x G inx _ (fun w1 m1 i1=>acheck_ok m1 hb i1 who hG hx hxs hwu sl hl' hc sl0 (by rw [hA]) (by rw [hoth];exact hot)))).mono ?_
       · rintro s' a' ⟨_,rfl⟩
         rw [<- hdn];rfl
       · rintro e w' ⟨rfl,s',cs',a',m',o',i',sm,rfl,rfl⟩
         exact ⟨rfl,_,cs',_,m',hT.same hσ who _,i',⟨rfl,ikd,inu,iix,ivl,iol,iow,⟨rfl,rfl,rfl,ild⟩⟩,sm,o',⟨_,rfl⟩,fun _=>rfl⟩
    · rw [if_neg hA] at hα
      subst hα
      refine (acstep_go h hi who hk hG hlen hh hx (by rw [inx];show ¬ (3 : Int) = 7;decide) _ d ?_ (fun w1 m1 i1=>adoes_check m1 i1 who x G inx _ (fun w1 m1 i1=>acheck_else m1 hb i1 who hG hx hxs hwu sl hl' hc sl0 (by omega)))).mono ?_
      · rintro s' a' ⟨_,rfl⟩
        rw [<- hdn];rfl
      · rintro e w' ⟨rfl,s',cs',a',m',o',i',sm,rfl,rfl⟩
        exact ⟨rfl,_,cs',_,m',hT.same hσ who _,i',⟨rfl,ikd,inu,iix,ivl,iol,iow,trivial⟩,sm,o',⟨_,rfl⟩,fun _=>rfl⟩
  · have hl' : (lifeB (u % 8) && ((genOf u : Int) == (G : Int))) = false:=by
     rw [Bool.not_eq_true] at hl
     rw [<- hl]
     congr 1
     rw [Bool.eq_iff_iff]
     simp only [beq_iff_eq,decide_eq_true_eq]
     omega
    simp only [acCheck] at hα
    rw [if_neg hl] at hα
    subst hα
    refine (acstep_go h hi who hk hG hlen hh hx (by rw [inx];show ¬ (3 : Int) = 7;decide) _ d ?_ (fun w1 m1 i1=>adoes_check m1 i1 who x G inx _ (fun w1 m1 i1=>acheck_dead m1 hb i1 who hG hx hxs hwu sl hl' hc hst))).mono ?_
    · rintro s' a' ⟨_,rfl⟩
      rw [<- hdn];rfl
    · rintro e w' ⟨rfl,s',cs',a',m',o',i',sm,rfl,rfl⟩
      exact ⟨rfl,_,cs',_,m',hT.same hσ who _,i',⟨rfl,ikd,inu,iix,ivl,iol,iow,⟨rfl,rfl,rfl,rfl⟩⟩,sm,o',⟨_,rfl⟩,fun _=>rfl⟩
 | stop v =>
  have wv : Wd v:=hg
  obtain rfl : a.se = v:=isec
  have sl:=slotIs a.se wv
  have hq' : ((if q.sw x = a.se then { q with sw:=upd q.sw x (stopW a.se) } else q),Ac.see) = (q',α'):=hq
  obtain ⟨hqq,rfl⟩:=Prod.mk.inj hq'
  refine (acstep_go h hi who hk hG hlen hh hx (by rw [inx];show ¬ (5 : Int) = 7;decide) _ d ?_ (fun w1 m1 i1=>adoes_stop m1 i1 who x G inx _ (fun w1 m1 i1=>astop_any m1 hb i1 who hG hx hxs sl))).mono ?_
  · rintro s' a' ⟨_,rfl⟩
    rw [<- hdn];rfl
  · rintro e w' ⟨rfl,s',cs',a',m',o',i',sm,rfl,rfl⟩
    by_cases hw : q.sw x = a.se
    · have hw' : s.wd (6 + t + x * 2) = a.se:=by rw [hT.swv x hx];exact hw
      rw [if_pos hw] at hqq
      subst hqq
      rw [cas_hit hw'] at m'
      exact ⟨rfl,_,cs',_,m',hT.shows hσ who hx _ (stopW_wd _).1 (stopW_wd _).2,i',⟨rfl,ikd,inu,iix,ivl,iol,iow,trivial⟩,sm,o',⟨_,rfl⟩,fun h=>by cases h⟩
    · have hw' : s.wd (6 + t + x * 2) ≠ a.se:=by rw [hT.swv x hx];exact hw
      rw [if_neg hw] at hqq
      subst hqq
      rw [cas_miss hw'] at m'
      exact ⟨rfl,_,cs',_,m',hT.same hσ who _,i',⟨rfl,ikd,inu,iix,ivl,iol,iow,trivial⟩,sm,o',⟨_,rfl⟩,fun h=>by cases h⟩
 | lay v c =>
  obtain ⟨⟨Z,i,O,h1⟩,h0,wc⟩:=hg
  obtain ⟨rfl,rfl⟩:=isec
  have sl:=slotIs a.se O.wd
  have hc:=cellIs a.ce wc
  have hin:=O.inn
  have z2:=O.z2
  have hixn : a.ix = (W.ix.toNat : Int):=by rw [iix];omega
  have hnJ : adOf a.se + 1 + W.ix.toNat < s.n:=by omega
  have hwu : s.wd (adOf a.se + 1 + W.ix.toNat) = q.dw (W.at a.se):=hT.dwv _ (by omega)
  by_cases hw : q.dw (W.at a.se) = a.ce
  · have hw' : s.wd (adOf a.se + 1 + W.ix.toNat) = a.ce:=hwu.trans hw
    simp only [acTurn,hw,if_true] at hq
    obtain ⟨rfl,rfl⟩:=Prod.mk.inj hq
    refine (acstep_go h hi who hk hG hlen hh hx (by rw [inx];show ¬ (6 : Int) = 7;decide) _ d ?_ (fun w1 m1 i1=>adoes_lay m1 i1 who x G inx _ (fun w1 m1 i1=>alay_yes m1 hb i1 who sl hixn (by omega) hnJ ivl hW.v (decide_eq_true hw') hc hst))).mono ?_
    · rintro s' a' ⟨_,rfl⟩
      rw [<- hdn];rfl
    · rintro e w' ⟨rfl,s',cs',a',m',o',i',sm,rfl,rfl⟩
      rw [cas_hit hw'] at m'
      exact ⟨rfl,_,cs',_,m',hT.lays hσ who (by omega) _,i',⟨rfl,ikd,inu,iix,ivl,iol,iow,⟨rfl,rfl,rfl,rfl⟩⟩,sm,o',⟨_,rfl⟩,fun h=>by cases h⟩
  · have hw' : s.wd (adOf a.se + 1 + W.ix.toNat) ≠ a.ce:=by rw [hwu];exact hw
    simp only [acTurn,hw,if_false] at hq
    obtain ⟨rfl,rfl⟩:=Prod.mk.inj hq
    refine (acstep_go h hi who hk hG hlen hh hx (by rw [inx];show ¬ (6 : Int) = 7;decide) _ d ?_ (fun w1 m1 i1=>adoes_lay m1 i1 who x G inx _ (fun w1 m1 i1=>alay_no m1 hb i1 who sl hixn (by omega) hnJ ivl hW.v (decide_eq_false hw')))).mono ?_
    · rintro s' a' ⟨_,rfl⟩
      rw [<- hdn];rfl
    · rintro e w' ⟨rfl,s',cs',a',m',o',i',sm,rfl,rfl⟩
      rw [cas_miss hw'] at m'
      exact ⟨rfl,_,cs',_,m',hT.same hσ who _,i',⟨rfl,ikd,inu,iix,ivl,iol,iow,trivial⟩,sm,o',⟨_,rfl⟩,fun h=>by cases h⟩
end
end Go.Proofs.YtlolfmoolgenpaaGreat
