import Derived.Test.YtibmjlefcaonnaaGreatAccGo
import Derived.Test.YtibmjlefcaonnaaGreatAccTurn
namespace Go.Proofs.YtibmjlefcaonnaaGreat
open Go.RowKit
structure Wt.ok (W:Wt):Prop where
 k:W.kd=1\/W.kd=2\/W.kd=3
 v:Fit W.vl
def Ac.sec:Ac->CV->Prop
 | .see,_=>True
 | .ask v t,a=>a.se=v/\a.at_=t
 | .load v Z,a=>a.se=v/\a.sz=Z
 | .check v c ld,a=>a.se=v/\a.ce=c/\a.ld=ld
 | .stop v,a=>a.se=v
 | .lay v c,a=>a.se=v/\a.ce=c
 | .over E val st,a=>a.E=E/\a.H=0/\a.V=val/\a.St=st
structure Oh (W:Wt) (own:Bool) (α:Ac) (a:CV):Prop where
 nx:a.nx=α.nx
 kd:a.kd=W.kd
 nu:a.nu=W.nu
 ix:a.ix=W.ix
 vl:a.vl=W.vl
 ol:a.ol=W.ol
 ow:a.own=own
 sec:α.sec a
theorem Kr (W:Wt) (own:Bool):Oh W own .see (Ij W.kd W.nu W.ix W.vl W.ol own):=⟨rfl,rfl,rfl,rfl,rfl,rfl,rfl,trivial⟩
structure Jq (w:World) (L:Loc) (s:Mm) (b o:Nat) (T:TypeId) (cs:Array Value) (t n k m σ:Nat) (W:Wt) (own:Bool) (x:Nat) (who:Int) (α:Ac) (q':Q) (α':Ac) (w':World) (s':Mm) (cs':Array Value) (a':CV):Prop where
 mm:Z8 w' L s'
 tw:Zo t n k m s' (σ+1) q'
 ac:ZL w' b o T cs' a'
 is:Oh W own α' a'
 same:Same o 24 cs cs'
 only:Only (L.and b) w w'
 st:∃ v,s'=(s.by who).step (α.at t x W) v
 rd:α.reads=true->s'=(s.by who).step (α.at t x W) (s.wd (α.at t x W))
theorem Rj (u:Int) (h:Wd u):CellIs u (MI u) (Iw u) (Og u):=⟨h.1,h.2,rfl,rfl,rfl⟩
section
variable {w:World} {L:Loc} {s:Mm} {b o:Nat} {T:TypeId} {cs:Array Value} {a:CV} {t n k m σ:Nat} {g p r:Int} {q:Q} {W:Wt} {own:Bool}
set_option maxHeartbeats 1000000 in
theorem SX (h:Z8 w L s) (hb:¬ L.has b) (hT:Zo t n k m s σ q) (hG:Good t n k m g p r) (hσ:σ<1000000) (hdw:∀ a,Wd (q.dw a)) {x G:Nat} (hh:Y0 W.nu x G) (hx:x<n) (hW:W.ok) (α:Ac) (hi:ZL w b o T cs a) (his:Oh W own α a) (hg:α.good t n k m W x G q) (ho:α.ZB=false) (who:Int) (q':Q) (α':Ac) (hq:XN W own x G σ q α=(q',α')) (d:Bool) (hd:α'.ZB=d) :
 Calls Tryz.prog 181 #[pP b o,eV t n k m g p r L.p who] w fun e w'=>e=.returned (.bool d)/\∃ s' cs' a',Jq w L s b o T cs t n k m σ W own x who α q' α' w' s' cs' a':=by
 have hlen:ZN t n k m<=s.n:=by rw[hT.len];exact Nat.le_refl _
 have hlen':=hT.len
 have hxs:6+t+x * 2<s.n:=by omega
 have hst:wrap64 (s.steps+1)=((σ+1:Nat):Int):=by rw[hT.pile.st];exact hT.pile.X5 hσ
 obtain⟨YW,UE,XC,VI,UA,Uo,YF,Vh⟩:=his
 rw[<- XC] at hh
 have hk:a.kd=1\/a.kd=2\/a.kd=3:=by rw[UE];exact hW.k
 have hdn:=Ac.Wv α'
 rw[hd] at hdn
 have hoth:∀ c,a.PY (MI c)=W.other c:=fun c=>by unfold CV.PY Wt.other;rw[UE,Uo]
 have Ig:∀ c,(decide (a.kd=1) || a.PY (MI c))=W.reads c:=fun c=>by rw[hoth,UE];rfl
 cases α with
 | over=>cases ho
 | see =>
  obtain⟨v,hv⟩:∃ v,q.sw x=v:=⟨_,rfl⟩
  have hwv:s.wd (6+t+x * 2)=v:=by rw[hT.Un x hx];exact hv
  have wv:Wd v:=by rw[<- hv];exact hT.Ox x hx
  have sl:=Yg v wv
  simp only[XN,hv] at hq
  simp only[Ac.good,hv] at hg
  by_cases hl:(Zb (v % 8) && decide (Zz v=G))=true
  . rw[if_pos hl] at hq
    obtain⟨rfl,rfl⟩:=Prod.mk.inj hq
    rw[Bool.and_eq_true] at hl
    obtain⟨i,O⟩:=hg hl.1 (of_decide_eq_true hl.2)
    have hl':(Zb (v % 8) && ((Zz v:Int) == (G:Int)))=true:=by
     rw[hl.1,of_decide_eq_true hl.2];simp
    refine(Zi h hi who hk hG hlen hh hx (by rw[YW];decide) _ d ?_ (fun w1 m1 i1=>Zj m1 i1 who x G YW (Or.inl ⟨rfl,rfl,rfl⟩) _ (fun w1 m1 i1=>Tc m1 hb i1 who hG hx hxs hwv sl hl' hst (ci:=Zp t n k m (ZH v)) (Or.inl ⟨rfl,rfl,(by rw[O.c1];omega),rfl⟩)))).mono ?_
    . rintro s' a' ⟨_,rfl⟩
      rw[<- hdn];rfl
    . rintro e w' ⟨rfl,s',cs',a',m',o',i',sm,rfl,rfl⟩
      exact⟨rfl,_,cs',_,m',hT.same hσ who _,i',⟨rfl,UE,XC,VI,UA,Uo,YF,⟨rfl,rfl⟩⟩,sm,o',⟨_,rfl⟩,fun _=>rfl⟩
  . rw[if_neg hl] at hq
    obtain⟨rfl,rfl⟩:=Prod.mk.inj hq
    have hl':(Zb (v % 8) && ((Zz v:Int) == (G:Int)))=false:=by
     rw[Bool.not_eq_true] at hl
     rw[<- hl]
     congr 1
     rw[Bool.eq_iff_iff]
     simp only[beq_iff_eq,decide_eq_true_eq]
     omega
    refine(Zi h hi who hk hG hlen hh hx (by rw[YW];decide) _ d ?_ (fun w1 m1 i1=>Zj m1 i1 who x G YW (Or.inl ⟨rfl,rfl,rfl⟩) _ (fun w1 m1 i1=>Tc m1 hb i1 who hG hx hxs hwv sl hl' hst (ci:=0) (Or.inr ⟨rfl,rfl⟩)))).mono ?_
    . rintro s' a' ⟨_,rfl⟩
      rw[<- hdn];rfl
    . rintro e w' ⟨rfl,s',cs',a',m',o',i',sm,rfl,rfl⟩
      exact⟨rfl,_,cs',_,m',hT.same hσ who _,i',⟨rfl,UE,XC,VI,UA,Uo,YF,⟨rfl,rfl,rfl,rfl⟩⟩,sm,o',⟨_,rfl⟩,fun _=>rfl⟩
 | ask v t0 =>
  obtain⟨i,O⟩:=hg
  obtain⟨rfl,Gt⟩:=Vh
  have sl:=Yg a.se O.wd
  have hin:=O.MR
  have Vg:s.wd (ZH a.se)=q.dw (ZH a.se):=hT.PU _ hin.1
  have hd1:=Oe _ (hdw (ZH a.se))
  have hq':(q,Qs W own σ a.se (q.dw (ZH a.se)) t0)=(q',α'):=hq
  obtain⟨rfl,hα⟩:=Prod.mk.inj hq'
  have hnA:ZH a.se<s.n:=by omega
  by_cases hw:(Xy (q.dw (ZH a.se)) == own)=true
  . have hwo:(Xy (q.dw (ZH a.se)) == a.own)=true:=by rw[YF];exact hw
    simp only[Qs,hw,if_true] at hα
    by_cases hix:0<=W.ix/\W.ix<Vf (q.dw (ZH a.se))
    . rw[if_pos hix] at hα
      subst hα
      have hm:=Qr a.se
      refine(Zi h hi who hk hG hlen hh hx (by rw[YW];show ¬ (1:Int)=7;decide) _ d ?_ (fun w1 m1 i1=>Zj m1 i1 who x G YW (Or.inr (Or.inl ⟨rfl,rfl,rfl⟩)) _ (fun w1 m1 i1=>Vj m1 hb i1 who sl hnA Vg hd1 hwo (fun _ w2 c2 i2=>Oj (Z:=(Vf (q.dw (ZH a.se)):Int)) i2 _ rfl hG (by show 0<=a.ix;rw[VI];exact hix.1) (by show a.ix<_;rw[VI];exact hix.2) (by omega) (by omega) (by have:=O.z2;omega) O.c1 O.c2) hst (Or.inr (Or.inr ⟨rfl,rfl,rfl⟩))))).mono ?_
      . rintro s' a' ⟨_,rfl⟩
        rw[<- hdn];rfl
      . rintro e w' ⟨rfl,s',cs',a',m',o',i',sm,rfl,rfl⟩
        exact⟨rfl,_,cs',_,m',hT.same hσ who _,i',⟨rfl,UE,XC,VI,UA,Uo,YF,⟨rfl,rfl⟩⟩,sm,o',⟨_,rfl⟩,fun _=>rfl⟩
    . rw[if_neg hix] at hα
      subst hα
      have key:∀ (w2:World) (c2:Array Value),ZL w2 b o T c2 { a with sz:=(Vf (q.dw (ZH a.se)):Int) }->Calls Tryz.prog 192 #[pP b o,.agg #[iV t,iV n,iV k,iV m,iV g,iV p,iV r],iV (ZH a.se)] w2 fun e w'=>e=.returned (.bool false)/\Below w2.heap.size w2 w':=fun w2 c2 i2=>by
       by_cases h0:W.ix<0
       . exact Ol i2 _ (by show a.ix<0;rw[VI];exact h0)
       . exact PV (Z:=(Vf (q.dw (ZH a.se)):Int)) i2 _ rfl (by show 0<=a.ix;rw[VI];omega) (by show _<=a.ix;rw[VI];omega)
      refine(Zi h hi who hk hG hlen hh hx (by rw[YW];show ¬ (1:Int)=7;decide) _ d ?_ (fun w1 m1 i1=>Zj m1 i1 who x G YW (Or.inr (Or.inl ⟨rfl,rfl,rfl⟩)) _ (fun w1 m1 i1=>Vj m1 hb i1 who sl hnA Vg hd1 hwo (fun _=>key) hst (Or.inr (Or.inl ⟨rfl,rfl,rfl⟩))))).mono ?_
      . rintro s' a' ⟨_,rfl⟩
        rw[<- hdn];rfl
      . rintro e w' ⟨rfl,s',cs',a',m',o',i',sm,rfl,rfl⟩
        exact⟨rfl,_,cs',_,m',hT.same hσ who _,i',⟨rfl,UE,XC,VI,UA,Uo,YF,⟨rfl,rfl,rfl,Gt⟩⟩,sm,o',⟨_,rfl⟩,fun _=>rfl⟩
  . have hw':(Xy (q.dw (ZH a.se)) == own)=false:=by simpa using hw
    have hwo:(Xy (q.dw (ZH a.se)) == a.own)=false:=by rw[YF];exact hw'
    simp only[Qs,hw'] at hα
    subst hα
    refine(Zi h hi who hk hG hlen hh hx (by rw[YW];show ¬ (1:Int)=7;decide) _ d ?_ (fun w1 m1 i1=>Zj m1 i1 who x G YW (Or.inr (Or.inl ⟨rfl,rfl,rfl⟩)) _ (fun w1 m1 i1=>Vj (hh0:=false) m1 hb i1 who sl hnA Vg hd1 hwo (fun e=>by cases e) hst (Or.inl ⟨rfl,rfl⟩)))).mono ?_
    . rintro s' a' ⟨_,rfl⟩
      rw[<- hdn];rfl
    . rintro e w' ⟨rfl,s',cs',a',m',o',i',sm,rfl,rfl⟩
      exact⟨rfl,_,cs',_,m',hT.same hσ who _,i',⟨rfl,UE,XC,VI,UA,Uo,YF,⟨rfl,rfl,rfl,rfl⟩⟩,sm,o',⟨_,rfl⟩,fun _=>rfl⟩
 | load v Z =>
  obtain⟨⟨i,O⟩,h0,h1,h4'⟩:=hg
  obtain⟨rfl,Ve⟩:=Vh
  have sl:=Yg a.se O.wd
  have hin:=O.MR
  have z2:=O.z2
  have TT:a.ix=(W.ix.toNat:Int):=by rw[VI];omega
  have hjz:W.ix.toNat<Z:=by omega
  have MH:ZH a.se+1+W.ix.toNat<s.n:=by omega
  have Vg:s.wd (ZH a.se+1+W.ix.toNat)=q.dw (W.at a.se):=hT.PU _ (by omega)
  have hc:=Rj _ (hdw (W.at a.se))
  have hq':(q,TS W σ a.se (q.dw (W.at a.se)))=(q',α'):=hq
  obtain⟨rfl,hα⟩:=Prod.mk.inj hq'
  obtain⟨c,hcc⟩:∃ c,q.dw (W.at a.se)=c:=⟨_,rfl⟩
  have hrc:=Ig c
  rw[hcc] at Vg hc hα
  have fin:∀ {N:Int},α'.nx=N->Oh W own α' { a with ce:=c,ld:=((σ+1:Nat):Int),nx:=N }->(∀ w1:World,Z8 w1 L s->ZL w1 b o T cs a->Calls Tryz.prog 188 #[pP b o,eV t n k m g p r L.p who,.agg #[iV x,iV G]] w1 fun e w'=>e=.returned (.tuple #[])/\WQ L b o T cs w1 w' (fun s' a'=>s'=(s.by who).step (ZH a.se+1+W.ix.toNat) (s.wd (ZH a.se+1+W.ix.toNat))/\a'={ a with ce:=c,ld:=((σ+1:Nat):Int),nx:=N })) ->
   Calls Tryz.prog 181 #[pP b o,eV t n k m g p r L.p who] w fun e w'=>e=.returned (.bool d)/\∃ s' cs' a',Jq w L s b o T cs t n k m σ W own x who (.load a.se Z) q α' w' s' cs' a':=by
   intro N hN hIs hcall
   refine(Zi h hi who hk hG hlen hh hx (by rw[YW];show ¬ (2:Int)=7;decide) _ d ?_ (fun w1 m1 i1=>Zj m1 i1 who x G YW (Or.inr (Or.inr (Or.inl ⟨rfl,rfl,rfl⟩))) _ hcall)).mono ?_
   . rintro s' a' ⟨_,rfl⟩
     rw[<- hdn,hN]
   . rintro e w' ⟨rfl,s',cs',a',m',o',i',sm,rfl,rfl⟩
     exact⟨rfl,_,cs',_,m',hT.same hσ who _,i',hIs,sm,o',⟨_,rfl⟩,fun _=>rfl⟩
  cases hr:W.reads c with
  | true =>
   rw[hr] at hrc
   simp only[TS,hr,if_true] at hα
   subst hα
   exact fin rfl ⟨rfl,UE,XC,VI,UA,Uo,YF,⟨rfl,rfl,rfl⟩⟩ fun w1 m1 i1=>Yl m1 hb i1 who sl TT (by omega) MH Vg hc hst hrc (Or.inl ⟨rfl,rfl⟩)
  | false =>
   have h4:a.se % 8≠4:=h4'.resolve_right (by rw[hcc,hr];decide)
   rw[hr] at hrc
   simp only[TS,hr,Bool.false_eq_true,if_false] at hα
   cases hf:Iw c with
   | false =>
    simp only[hf,Bool.false_and,Bool.false_eq_true,if_false] at hα
    subst hα
    exact fin rfl ⟨rfl,UE,XC,VI,UA,Uo,YF,⟨rfl,rfl⟩⟩ fun w1 m1 i1=>Yl m1 hb i1 who sl TT (by omega) MH Vg hc hst hrc (Or.inr ⟨rfl,h4,Or.inl ⟨hf,rfl⟩⟩)
   | true =>
    simp only[hf,Bool.true_and] at hα
    by_cases hv:Og c=(YK a.se:Int)
    . by_cases h2:a.se % 8=2
      . simp only[hv,h2,decide_true,Bool.and_self,if_true] at hα
        subst hα
        exact fin rfl ⟨rfl,UE,XC,VI,UA,Uo,YF,rfl⟩ fun w1 m1 i1=>Yl m1 hb i1 who sl TT (by omega) MH Vg hc hst hrc (Or.inr ⟨rfl,h4,Or.inr (Or.inl ⟨hf,hv,h2,rfl⟩)⟩)
      . simp only[hv,h2,decide_true,decide_false,Bool.and_false,Bool.false_eq_true,if_false,Int.le_refl,if_true] at hα
        subst hα
        exact fin rfl ⟨rfl,UE,XC,VI,UA,Uo,YF,trivial⟩ fun w1 m1 i1=>Yl m1 hb i1 who sl TT (by omega) MH Vg hc hst hrc (Or.inr ⟨rfl,h4,Or.inr (Or.inr (Or.inl ⟨hf,fun _=>h2,Int.le_of_eq hv.symm,rfl⟩))⟩)
    . by_cases hge:(YK a.se:Int)<=Og c
      . simp only[hv,hge,decide_true,decide_false,Bool.false_and,Bool.false_eq_true,if_false,if_true] at hα
        subst hα
        exact fin rfl ⟨rfl,UE,XC,VI,UA,Uo,YF,trivial⟩ fun w1 m1 i1=>Yl m1 hb i1 who sl TT (by omega) MH Vg hc hst hrc (Or.inr ⟨rfl,h4,Or.inr (Or.inr (Or.inl ⟨hf,fun e=>absurd e hv,hge,rfl⟩))⟩)
      . simp only[hv,hge,decide_false,Bool.false_and,Bool.false_eq_true,if_false] at hα
        subst hα
        exact fin rfl ⟨rfl,UE,XC,VI,UA,Uo,YF,⟨rfl,rfl⟩⟩ fun w1 m1 i1=>Yl m1 hb i1 who sl TT (by omega) MH Vg hc hst hrc (Or.inr ⟨rfl,h4,Or.inr (Or.inr (Or.inr ⟨hf,hv,hge,rfl⟩))⟩)
 | check v c ld =>
  obtain⟨wv,wc⟩:=hg
  obtain⟨rfl,rfl,G6⟩:=Vh
  obtain⟨u,hu⟩:∃ u,q.sw x=u:=⟨_,rfl⟩
  have Vg:s.wd (6+t+x * 2)=u:=by rw[hT.Un x hx];exact hu
  have wu:Wd u:=by rw[<- hu];exact hT.Ox x hx
  have sl:=Yg u wu
  have sl0:=Yg a.se wv
  have hc:=Rj a.ce wc
  have hq':(q,Vt W G σ a.se a.ce u ld)=(q',α'):=by rw[<- hq,<- hu];rfl
  obtain⟨rfl,hα⟩:=Prod.mk.inj hq'
  by_cases hl:(Zb (u % 8) && decide (Zz u=G))=true
  . have hl0:=hl
    rw[Bool.and_eq_true] at hl0
    have hl':(Zb (u % 8) && ((Zz u:Int) == (G:Int)))=true:=by
     rw[hl0.1,of_decide_eq_true hl0.2];simp
    simp only[Vt,hl,if_true] at hα
    by_cases hA:ZH u=ZH a.se
    . rw[if_pos hA] at hα
      cases hot:W.other a.ce with
      | true =>
       rw[hot,if_pos rfl] at hα
       subst hα
       refine(Zi h hi who hk hG hlen hh hx (by rw[YW];show ¬ (3:Int)=7;decide) _ d ?_ (fun w1 m1 i1=>Zj m1 i1 who x G YW (Or.inr (Or.inr (Or.inr (Or.inl ⟨rfl,rfl,rfl⟩)))) _ (fun w1 m1 i1=>XP m1 hb i1 who hG hx hxs Vg sl hl' hc (fun _=>sl0) (decide_eq_false (fun h=>h (by rw[hA]))) ((hoth _).trans hot) hst))).mono ?_
       . rintro s' a' ⟨_,rfl⟩
         rw[<- hdn];rfl
       . rintro e w' ⟨rfl,s',cs',a',m',o',i',sm,rfl,rfl⟩
         exact⟨rfl,_,cs',_,m',hT.same hσ who _,i',⟨rfl,UE,XC,VI,UA,Uo,YF,⟨rfl,rfl,rfl,G6⟩⟩,sm,o',⟨_,rfl⟩,fun _=>rfl⟩
      | false =>
       rw[hot,if_neg (by decide)] at hα
       subst hα
       refine(Zi h hi who hk hG hlen hh hx (by rw[YW];show ¬ (3:Int)=7;decide) _ d ?_ (fun w1 m1 i1=>Zj m1 i1 who x G YW (Or.inr (Or.inr (Or.inr (Or.inl ⟨rfl,rfl,rfl⟩)))) _ (fun w1 m1 i1=>XP m1 hb i1 who hG hx hxs Vg sl hl' hc (fun _=>sl0) (decide_eq_false (fun h=>h (by rw[hA]))) ((hoth _).trans hot) hst))).mono ?_
       . rintro s' a' ⟨_,rfl⟩
         rw[<- hdn];rfl
       . rintro e w' ⟨rfl,s',cs',a',m',o',i',sm,rfl,rfl⟩
         exact⟨rfl,_,cs',_,m',hT.same hσ who _,i',⟨rfl,UE,XC,VI,UA,Uo,YF,⟨rfl,rfl,rfl,G6⟩⟩,sm,o',⟨_,rfl⟩,fun _=>rfl⟩
    . rw[if_neg hA] at hα
      subst hα
      refine(Zi h hi who hk hG hlen hh hx (by rw[YW];show ¬ (3:Int)=7;decide) _ d ?_ (fun w1 m1 i1=>Zj m1 i1 who x G YW (Or.inr (Or.inr (Or.inr (Or.inl ⟨rfl,rfl,rfl⟩)))) _ (fun w1 m1 i1=>XP m1 hb i1 who hG hx hxs Vg sl hl' hc (fun _=>sl0) (decide_eq_true (by omega)) (ot:=a.PY (MI a.ce)) rfl hst))).mono ?_
      . rintro s' a' ⟨_,rfl⟩
        rw[<- hdn];rfl
      . rintro e w' ⟨rfl,s',cs',a',m',o',i',sm,rfl,rfl⟩
        exact⟨rfl,_,cs',_,m',hT.same hσ who _,i',⟨rfl,UE,XC,VI,UA,Uo,YF,trivial⟩,sm,o',⟨_,rfl⟩,fun _=>rfl⟩
  . have hl':(Zb (u % 8) && ((Zz u:Int) == (G:Int)))=false:=by
     rw[Bool.not_eq_true] at hl
     rw[<- hl]
     congr 1
     rw[Bool.eq_iff_iff]
     simp only[beq_iff_eq,decide_eq_true_eq]
     omega
    simp only[Vt] at hα
    rw[if_neg hl] at hα
    subst hα
    refine(Zi h hi who hk hG hlen hh hx (by rw[YW];show ¬ (3:Int)=7;decide) _ d ?_ (fun w1 m1 i1=>Zj m1 i1 who x G YW (Or.inr (Or.inr (Or.inr (Or.inl ⟨rfl,rfl,rfl⟩)))) _ (fun w1 m1 i1=>XP m1 hb i1 who hG hx hxs Vg sl hl' hc (st0:=0) (G0:=0) (V0:=0) (fun e=>by cases e) (ne:=true) (A0:=ZH u+1) (decide_eq_true (by omega)) (ot:=a.PY (MI a.ce)) rfl hst))).mono ?_
    . rintro s' a' ⟨_,rfl⟩
      rw[<- hdn];rfl
    . rintro e w' ⟨rfl,s',cs',a',m',o',i',sm,rfl,rfl⟩
      exact⟨rfl,_,cs',_,m',hT.same hσ who _,i',⟨rfl,UE,XC,VI,UA,Uo,YF,⟨rfl,rfl,rfl,rfl⟩⟩,sm,o',⟨_,rfl⟩,fun _=>rfl⟩
 | stop v =>
  have wv:Wd v:=hg
  obtain rfl:a.se=v:=Vh
  have sl:=Yg a.se wv
  have hq':((if q.sw x=a.se then { q with sw:=upd q.sw x (Oc a.se) } else q),Ac.see)=(q',α'):=hq
  obtain⟨hqq,rfl⟩:=Prod.mk.inj hq'
  refine(Zi h hi who hk hG hlen hh hx (by rw[YW];show ¬ (5:Int)=7;decide) _ d ?_ (fun w1 m1 i1=>Zj m1 i1 who x G YW (Or.inr (Or.inr (Or.inr (Or.inr (Or.inl ⟨rfl,rfl,rfl⟩))))) _ (fun w1 m1 i1=>PX m1 hb i1 who hG hx hxs sl))).mono ?_
  . rintro s' a' ⟨_,rfl⟩
    rw[<- hdn];rfl
  . rintro e w' ⟨rfl,s',cs',a',m',o',i',sm,rfl,rfl⟩
    by_cases hw:q.sw x=a.se
    . have hw':s.wd (6+t+x * 2)=a.se:=by rw[hT.Un x hx];exact hw
      rw[if_pos hw] at hqq
      subst hqq
      rw[Wu hw'] at m'
      exact⟨rfl,_,cs',_,m',hT.shows hσ who hx _ (SV _).1 (SV _).2,i',⟨rfl,UE,XC,VI,UA,Uo,YF,trivial⟩,sm,o',⟨_,rfl⟩,fun h=>by cases h⟩
    . have hw':s.wd (6+t+x * 2)≠a.se:=by rw[hT.Un x hx];exact hw
      rw[if_neg hw] at hqq
      subst hqq
      rw[Xx hw'] at m'
      exact⟨rfl,_,cs',_,m',hT.same hσ who _,i',⟨rfl,UE,XC,VI,UA,Uo,YF,trivial⟩,sm,o',⟨_,rfl⟩,fun h=>by cases h⟩
 | lay v c =>
  obtain⟨⟨Z,i,O,h1⟩,h0,wc⟩:=hg
  obtain⟨rfl,rfl⟩:=Vh
  have sl:=Yg a.se O.wd
  have hc:=Rj a.ce wc
  have hin:=O.MR
  have z2:=O.z2
  have TT:a.ix=(W.ix.toNat:Int):=by rw[VI];omega
  have MH:ZH a.se+1+W.ix.toNat<s.n:=by omega
  have Vg:s.wd (ZH a.se+1+W.ix.toNat)=q.dw (W.at a.se):=hT.PU _ (by omega)
  by_cases hw:q.dw (W.at a.se)=a.ce
  . have hw':s.wd (ZH a.se+1+W.ix.toNat)=a.ce:=Vg.trans hw
    simp only[XN,hw,if_true] at hq
    obtain⟨rfl,rfl⟩:=Prod.mk.inj hq
    refine(Zi h hi who hk hG hlen hh hx (by rw[YW];show ¬ (6:Int)=7;decide) _ d ?_ (fun w1 m1 i1=>Zj m1 i1 who x G YW (Or.inr (Or.inr (Or.inr (Or.inr (Or.inr ⟨rfl,rfl,rfl⟩))))) _ (fun w1 m1 i1=>Om m1 hb i1 who sl TT (by omega) MH UA hW.v (decide_eq_true hw') hc hst))).mono ?_
    . rintro s' a' ⟨_,rfl⟩
      rw[<- hdn];rfl
    . rintro e w' ⟨rfl,s',cs',a',m',o',i',sm,rfl,rfl⟩
      rw[Wu hw'] at m'
      exact⟨rfl,_,cs',_,m',hT.lays hσ who (by omega) _,i',⟨rfl,UE,XC,VI,UA,Uo,YF,⟨rfl,rfl,rfl,rfl⟩⟩,sm,o',⟨_,rfl⟩,fun h=>by cases h⟩
  . have hw':s.wd (ZH a.se+1+W.ix.toNat)≠a.ce:=by rw[Vg];exact hw
    simp only[XN,hw,if_false] at hq
    obtain⟨rfl,rfl⟩:=Prod.mk.inj hq
    refine(Zi h hi who hk hG hlen hh hx (by rw[YW];show ¬ (6:Int)=7;decide) _ d ?_ (fun w1 m1 i1=>Zj m1 i1 who x G YW (Or.inr (Or.inr (Or.inr (Or.inr (Or.inr ⟨rfl,rfl,rfl⟩))))) _ (fun w1 m1 i1=>MJ m1 hb i1 who sl TT (by omega) MH UA hW.v (decide_eq_false hw')))).mono ?_
    . rintro s' a' ⟨_,rfl⟩
      rw[<- hdn];rfl
    . rintro e w' ⟨rfl,s',cs',a',m',o',i',sm,rfl,rfl⟩
      rw[Xx hw'] at m'
      exact⟨rfl,_,cs',_,m',hT.same hσ who _,i',⟨rfl,UE,XC,VI,UA,Uo,YF,trivial⟩,sm,o',⟨_,rfl⟩,fun h=>by cases h⟩
end
end Go.Proofs.YtibmjlefcaonnaaGreat
