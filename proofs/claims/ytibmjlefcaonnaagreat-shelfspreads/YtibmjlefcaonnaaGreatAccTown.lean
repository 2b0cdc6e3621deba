import Derived.Test.YtibmjlefcaonnaaGreatAccGo
import Derived.Test.YtibmjlefcaonnaaGreatAccTurn
namespace Go.Proofs.YtibmjlefcaonnaaGreat
open Go.RowKit
structure Wt.ok (W:Wt):Prop where
 k:W.kd=1\/W.kd=2\/W.kd=3
 v:Fit W.vl
def Ac.sec:Ac->CV->Prop
 | .see,_=>True
 | .ask v t,a=>a.se=v/\a.at_=t
 | .load v Z,a=>a.se=v/\a.sz=Z
 | .check v c ld,a=>a.se=v/\a.ce=c/\a.ld=ld
 | .stop v,a=>a.se=v
 | .lay v c,a=>a.se=v/\a.ce=c
 | .over E val st,a=>a.E=E/\a.H=0/\a.V=val/\a.St=st
structure G9 (W:Wt) (own:Bool) (α:Ac) (a:CV):Prop where
 nx:a.nx=α.nx
 kd:a.kd=W.kd
 nu:a.nu=W.nu
 ix:a.ix=W.ix
 vl:a.vl=W.vl
 ol:a.ol=W.ol
 ow:a.own=own
 sec:α.sec a
theorem Bf (W:Wt) (own:Bool):G9 W own .see (zC W.kd W.nu W.ix W.vl W.ol own):=⟨rfl,rfl,rfl,rfl,rfl,rfl,rfl,trivial⟩
structure yS (w:World) (L:Loc) (s:Mm) (b o:Nat) (T:TypeId) (cs:Array Value) (t n k m σ:Nat) (W:Wt) (own:Bool) (x:Nat) (who:Int) (α:Ac) (q':Q) (α':Ac) (w':World) (s':Mm) (cs':Array Value) (a':CV):Prop where
 mm:Z7 w' L s'
 tw:Y5 t n k m s' (σ+1) q'
 ac:ZE w' b o T cs' a'
 is:G9 W own α' a'
 same:Same o 24 cs cs'
 only:Only (L.and b) w w'
 st:∃ v,s'=(s.by who).step (α.at t x W) v
 rd:α.reads=true->s'=(s.by who).step (α.at t x W) (s.wd (α.at t x W))
theorem Nh (u:Int) (h:Wd u):CellIs u (SB u) (Be u) (Nc u):=⟨h.1,h.2,rfl,rfl,rfl⟩
section
variable {w:World} {L:Loc} {s:Mm} {b o:Nat} {T:TypeId} {cs:Array Value} {a:CV} {t n k m σ:Nat} {g p r:Int} {q:Q} {W:Wt} {own:Bool}
set_option maxHeartbeats 1000000 in
theorem OX (h:Z7 w L s) (hb:¬ L.has b) (hT:Y5 t n k m s σ q) (hG:Good t n k m g p r) (hσ:σ<1000000) (hdw:∀ a,Wd (q.dw a)) {x G:Nat} (hh:YZ W.nu x G) (hx:x<n) (hW:W.ok) (α:Ac) (hi:ZE w b o T cs a) (his:G9 W own α a) (hg:α.good t n k m W x G q) (ho:α.ZR=false) (who:Int) (q':Q) (α':Ac) (hq:Y9 W own x G σ q α=(q',α')) (d:Bool) (hd:α'.ZR=d) :
 Calls Tryz.prog 181 #[pP b o,eV t n k m g p r L.p who] w fun e w'=>e=.returned (.bool d)/\∃ s' cs' a',yS w L s b o T cs t n k m σ W own x who α q' α' w' s' cs' a':=by
 have hlen:ZG t n k m<=s.n:=by rw[hT.len];exact Nat.le_refl _
 have hlen':=hT.len
 have hxs:6+t+x * 2<s.n:=by omega
 have hst:wrap64 (s.steps+1)=((σ+1:Nat):Int):=by rw[hT.pile.st];exact hT.pile.Xe hσ
 obtain⟨Yw,QW,Wl,TA,QT,QF,X7,SA⟩:=his
 rw[<- Wl] at hh
 have hk:a.kd=1\/a.kd=2\/a.kd=3:=by rw[QW];exact hW.k
 have hdn:=Ac.UL α'
 rw[hd] at hdn
 have hoth:∀ c,a.Qd (SB c)=W.other c:=fun c=>by unfold CV.Qd Wt.other;rw[QW,QF]
 have vM:∀ c,(decide (a.kd=1) || a.Qd (SB c))=W.reads c:=fun c=>by rw[hoth,QW];rfl
 cases α with
 | over=>cases ho
 | see =>
  obtain⟨v,hv⟩:∃ v,q.sw x=v:=⟨_,rfl⟩
  have hwv:s.wd (6+t+x * 2)=v:=by rw[hT.QE x hx];exact hv
  have wv:Wd v:=by rw[<- hv];exact hT.HY x hx
  have sl:=Xz v wv
  simp only[Y9,hv] at hq
  simp only[Ac.good,hv] at hg
  by_cases hl:(YU (v % 8) && decide (Zy v=G))=true
  . rw[if_pos hl] at hq
    obtain⟨rfl,rfl⟩:=Prod.mk.inj hq
    rw[Bool.and_eq_true] at hl
    obtain⟨i,O⟩:=hg hl.1 (of_decide_eq_true hl.2)
    have hl':(YU (v % 8) && ((Zy v:Int) == (G:Int)))=true:=by
     rw[hl.1,of_decide_eq_true hl.2];simp
    refine(Y0 h hi who hk hG hlen hh hx (by rw[Yw];decide) _ d ?_ (fun w1 m1 i1=>Y1 m1 i1 who x G Yw (Or.inl ⟨rfl,rfl,rfl⟩) _ (fun w1 m1 i1=>O0 m1 hb i1 who hG hx hxs hwv sl hl' hst (ci:=Za t n k m (ZB v)) (Or.inl ⟨rfl,rfl,(by rw[O.c1];omega),rfl⟩)))).mono ?_
    . rintro s' a' ⟨_,rfl⟩
      rw[<- hdn];rfl
    . rintro e w' ⟨rfl,s',cs',a',m',o',i',sm,rfl,rfl⟩
      exact⟨rfl,_,cs',_,m',hT.same hσ who _,i',⟨rfl,QW,Wl,TA,QT,QF,X7,⟨rfl,rfl⟩⟩,sm,o',⟨_,rfl⟩,fun _=>rfl⟩
  . rw[if_neg hl] at hq
    obtain⟨rfl,rfl⟩:=Prod.mk.inj hq
    have hl':(YU (v % 8) && ((Zy v:Int) == (G:Int)))=false:=by
     rw[Bool.not_eq_true] at hl
     rw[<- hl]
     congr 1
     rw[Bool.eq_iff_iff]
     simp only[beq_iff_eq,decide_eq_true_eq]
     omega
    refine(Y0 h hi who hk hG hlen hh hx (by rw[Yw];decide) _ d ?_ (fun w1 m1 i1=>Y1 m1 i1 who x G Yw (Or.inl ⟨rfl,rfl,rfl⟩) _ (fun w1 m1 i1=>O0 m1 hb i1 who hG hx hxs hwv sl hl' hst (ci:=0) (Or.inr ⟨rfl,rfl⟩)))).mono ?_
    . rintro s' a' ⟨_,rfl⟩
      rw[<- hdn];rfl
    . rintro e w' ⟨rfl,s',cs',a',m',o',i',sm,rfl,rfl⟩
      exact⟨rfl,_,cs',_,m',hT.same hσ who _,i',⟨rfl,QW,Wl,TA,QT,QF,X7,⟨rfl,rfl,rfl,rfl⟩⟩,sm,o',⟨_,rfl⟩,fun _=>rfl⟩
 | ask v t0 =>
  obtain⟨i,O⟩:=hg
  obtain⟨rfl,qV⟩:=SA
  have sl:=Xz a.se O.wd
  have hin:=O.EO
  have Sv:s.wd (ZB a.se)=q.dw (ZB a.se):=hT.JP _ hin.1
  have hd1:=G8 _ (hdw (ZB a.se))
  have hq':(q,OW W own σ a.se (q.dw (ZB a.se)) t0)=(q',α'):=hq
  obtain⟨rfl,hα⟩:=Prod.mk.inj hq'
  have hnA:ZB a.se<s.n:=by omega
  by_cases hw:(Xy (q.dw (ZB a.se)) == own)=true
  . have hwo:(Xy (q.dw (ZB a.se)) == a.own)=true:=by rw[X7];exact hw
    simp only[OW,hw,if_true] at hα
    by_cases hix:0<=W.ix/\W.ix<U5 (q.dw (ZB a.se))
    . rw[if_pos hix] at hα
      subst hα
      have hm:=Qb a.se
      refine(Y0 h hi who hk hG hlen hh hx (by rw[Yw];show ¬ (1:Int)=7;decide) _ d ?_ (fun w1 m1 i1=>Y1 m1 i1 who x G Yw (Or.inr (Or.inl ⟨rfl,rfl,rfl⟩)) _ (fun w1 m1 i1=>SC m1 hb i1 who sl hnA Sv hd1 hwo (fun _ w2 c2 i2=>He (Z:=(U5 (q.dw (ZB a.se)):Int)) i2 _ rfl hG (by show 0<=a.ix;rw[TA];exact hix.1) (by show a.ix<_;rw[TA];exact hix.2) (by omega) (by omega) (by have:=O.z2;omega) O.c1 O.c2) hst (Or.inr (Or.inr ⟨rfl,rfl,rfl⟩))))).mono ?_
      . rintro s' a' ⟨_,rfl⟩
        rw[<- hdn];rfl
      . rintro e w' ⟨rfl,s',cs',a',m',o',i',sm,rfl,rfl⟩
        exact⟨rfl,_,cs',_,m',hT.same hσ who _,i',⟨rfl,QW,Wl,TA,QT,QF,X7,⟨rfl,rfl⟩⟩,sm,o',⟨_,rfl⟩,fun _=>rfl⟩
    . rw[if_neg hix] at hα
      subst hα
      have key:∀ (w2:World) (c2:Array Value),ZE w2 b o T c2 { a with sz:=(U5 (q.dw (ZB a.se)):Int) }->Calls Tryz.prog 192 #[pP b o,.agg #[iV t,iV n,iV k,iV m,iV g,iV p,iV r],iV (ZB a.se)] w2 fun e w'=>e=.returned (.bool false)/\Below w2.heap.size w2 w':=fun w2 c2 i2=>by
       by_cases h0:W.ix<0
       . exact Hf i2 _ (by show a.ix<0;rw[TA];exact h0)
       . exact JQ (Z:=(U5 (q.dw (ZB a.se)):Int)) i2 _ rfl (by show 0<=a.ix;rw[TA];omega) (by show _<=a.ix;rw[TA];omega)
      refine(Y0 h hi who hk hG hlen hh hx (by rw[Yw];show ¬ (1:Int)=7;decide) _ d ?_ (fun w1 m1 i1=>Y1 m1 i1 who x G Yw (Or.inr (Or.inl ⟨rfl,rfl,rfl⟩)) _ (fun w1 m1 i1=>SC m1 hb i1 who sl hnA Sv hd1 hwo (fun _=>key) hst (Or.inr (Or.inl ⟨rfl,rfl,rfl⟩))))).mono ?_
      . rintro s' a' ⟨_,rfl⟩
        rw[<- hdn];rfl
      . rintro e w' ⟨rfl,s',cs',a',m',o',i',sm,rfl,rfl⟩
        exact⟨rfl,_,cs',_,m',hT.same hσ who _,i',⟨rfl,QW,Wl,TA,QT,QF,X7,⟨rfl,rfl,rfl,qV⟩⟩,sm,o',⟨_,rfl⟩,fun _=>rfl⟩
  . have hw':(Xy (q.dw (ZB a.se)) == own)=false:=by simpa using hw
    have hwo:(Xy (q.dw (ZB a.se)) == a.own)=false:=by rw[X7];exact hw'
    simp only[OW,hw'] at hα
    subst hα
    refine(Y0 h hi who hk hG hlen hh hx (by rw[Yw];show ¬ (1:Int)=7;decide) _ d ?_ (fun w1 m1 i1=>Y1 m1 i1 who x G Yw (Or.inr (Or.inl ⟨rfl,rfl,rfl⟩)) _ (fun w1 m1 i1=>SC (hh0:=false) m1 hb i1 who sl hnA Sv hd1 hwo (fun e=>by cases e) hst (Or.inl ⟨rfl,rfl⟩)))).mono ?_
    . rintro s' a' ⟨_,rfl⟩
      rw[<- hdn];rfl
    . rintro e w' ⟨rfl,s',cs',a',m',o',i',sm,rfl,rfl⟩
      exact⟨rfl,_,cs',_,m',hT.same hσ who _,i',⟨rfl,QW,Wl,TA,QT,QF,X7,⟨rfl,rfl,rfl,rfl⟩⟩,sm,o',⟨_,rfl⟩,fun _=>rfl⟩
 | load v Z =>
  obtain⟨⟨i,O⟩,h0,h1,h4'⟩:=hg
  obtain⟨rfl,Su⟩:=SA
  have sl:=Xz a.se O.wd
  have hin:=O.EO
  have z2:=O.z2
  have Qa:a.ix=(W.ix.toNat:Int):=by rw[TA];omega
  have hjz:W.ix.toNat<Z:=by omega
  have Eu:ZB a.se+1+W.ix.toNat<s.n:=by omega
  have Sv:s.wd (ZB a.se+1+W.ix.toNat)=q.dw (W.at a.se):=hT.JP _ (by omega)
  have hc:=Nh _ (hdw (W.at a.se))
  have hq':(q,TZ W σ a.se (q.dw (W.at a.se)))=(q',α'):=hq
  obtain⟨rfl,hα⟩:=Prod.mk.inj hq'
  obtain⟨c,hcc⟩:∃ c,q.dw (W.at a.se)=c:=⟨_,rfl⟩
  have hrc:=vM c
  rw[hcc] at Sv hc hα
  have fin:∀ {N:Int},α'.nx=N->G9 W own α' { a with ce:=c,ld:=((σ+1:Nat):Int),nx:=N }->(∀ w1:World,Z7 w1 L s->ZE w1 b o T cs a->Calls Tryz.prog 188 #[pP b o,eV t n k m g p r L.p who,.agg #[iV x,iV G]] w1 fun e w'=>e=.returned (.tuple #[])/\U9 L b o T cs w1 w' (fun s' a'=>s'=(s.by who).step (ZB a.se+1+W.ix.toNat) (s.wd (ZB a.se+1+W.ix.toNat))/\a'={ a with ce:=c,ld:=((σ+1:Nat):Int),nx:=N })) ->
   Calls Tryz.prog 181 #[pP b o,eV t n k m g p r L.p who] w fun e w'=>e=.returned (.bool d)/\∃ s' cs' a',yS w L s b o T cs t n k m σ W own x who (.load a.se Z) q α' w' s' cs' a':=by
   intro N hN hIs hcall
   refine(Y0 h hi who hk hG hlen hh hx (by rw[Yw];show ¬ (2:Int)=7;decide) _ d ?_ (fun w1 m1 i1=>Y1 m1 i1 who x G Yw (Or.inr (Or.inr (Or.inl ⟨rfl,rfl,rfl⟩))) _ hcall)).mono ?_
   . rintro s' a' ⟨_,rfl⟩
     rw[<- hdn,hN]
   . rintro e w' ⟨rfl,s',cs',a',m',o',i',sm,rfl,rfl⟩
     exact⟨rfl,_,cs',_,m',hT.same hσ who _,i',hIs,sm,o',⟨_,rfl⟩,fun _=>rfl⟩
  cases hr:W.reads c with
  | true =>
   rw[hr] at hrc
   simp only[TZ,hr,if_true] at hα
   subst hα
   exact fin rfl ⟨rfl,QW,Wl,TA,QT,QF,X7,⟨rfl,rfl,rfl⟩⟩ fun w1 m1 i1=>XG m1 hb i1 who sl Qa (by omega) Eu Sv hc hst hrc (Or.inl ⟨rfl,rfl⟩)
  | false =>
   have h4:a.se % 8≠4:=h4'.resolve_right (by rw[hcc,hr];decide)
   rw[hr] at hrc
   simp only[TZ,hr,Bool.false_eq_true,if_false] at hα
   cases hf:Be c with
   | false =>
    simp only[hf,Bool.false_and,Bool.false_eq_true,if_false] at hα
    subst hα
    exact fin rfl ⟨rfl,QW,Wl,TA,QT,QF,X7,⟨rfl,rfl⟩⟩ fun w1 m1 i1=>XG m1 hb i1 who sl Qa (by omega) Eu Sv hc hst hrc (Or.inr ⟨rfl,h4,Or.inl ⟨hf,rfl⟩⟩)
   | true =>
    simp only[hf,Bool.true_and] at hα
    by_cases hv:Nc c=(Y3 a.se:Int)
    . by_cases h2:a.se % 8=2
      . simp only[hv,h2,decide_true,Bool.and_self,if_true] at hα
        subst hα
        exact fin rfl ⟨rfl,QW,Wl,TA,QT,QF,X7,rfl⟩ fun w1 m1 i1=>XG m1 hb i1 who sl Qa (by omega) Eu Sv hc hst hrc (Or.inr ⟨rfl,h4,Or.inr (Or.inl ⟨hf,hv,h2,rfl⟩)⟩)
      . simp only[hv,h2,decide_true,decide_false,Bool.and_false,Bool.false_eq_true,if_false,Int.le_refl,if_true] at hα
        subst hα
        exact fin rfl ⟨rfl,QW,Wl,TA,QT,QF,X7,trivial⟩ fun w1 m1 i1=>XG m1 hb i1 who sl Qa (by omega) Eu Sv hc hst hrc (Or.inr ⟨rfl,h4,Or.inr (Or.inr (Or.inl ⟨hf,fun _=>h2,Int.le_of_eq hv.symm,rfl⟩))⟩)
    . by_cases hge:(Y3 a.se:Int)<=Nc c
      . simp only[hv,hge,decide_true,decide_false,Bool.false_and,Bool.false_eq_true,if_false,if_true] at hα
        subst hα
        exact fin rfl ⟨rfl,QW,Wl,TA,QT,QF,X7,trivial⟩ fun w1 m1 i1=>XG m1 hb i1 who sl Qa (by omega) Eu Sv hc hst hrc (Or.inr ⟨rfl,h4,Or.inr (Or.inr (Or.inl ⟨hf,fun e=>absurd e hv,hge,rfl⟩))⟩)
      . simp only[hv,hge,decide_false,Bool.false_and,Bool.false_eq_true,if_false] at hα
        subst hα
        exact fin rfl ⟨rfl,QW,Wl,TA,QT,QF,X7,⟨rfl,rfl⟩⟩ fun w1 m1 i1=>XG m1 hb i1 who sl Qa (by omega) Eu Sv hc hst hrc (Or.inr ⟨rfl,h4,Or.inr (Or.inr (Or.inr ⟨hf,hv,hge,rfl⟩))⟩)
 | check v c ld =>
  obtain⟨wv,wc⟩:=hg
  obtain⟨rfl,rfl,sQ⟩:=SA
  obtain⟨u,hu⟩:∃ u,q.sw x=u:=⟨_,rfl⟩
  have Sv:s.wd (6+t+x * 2)=u:=by rw[hT.QE x hx];exact hu
  have wu:Wd u:=by rw[<- hu];exact hT.HY x hx
  have sl:=Xz u wu
  have sl0:=Xz a.se wv
  have hc:=Nh a.ce wc
  have hq':(q,VC W G σ a.se a.ce u ld)=(q',α'):=by rw[<- hq,<- hu];rfl
  obtain⟨rfl,hα⟩:=Prod.mk.inj hq'
  by_cases hl:(YU (u % 8) && decide (Zy u=G))=true
  . have hl0:=hl
    rw[Bool.and_eq_true] at hl0
    have hl':(YU (u % 8) && ((Zy u:Int) == (G:Int)))=true:=by
     rw[hl0.1,of_decide_eq_true hl0.2];simp
    simp only[VC,hl,if_true] at hα
    by_cases hA:ZB u=ZB a.se
    . rw[if_pos hA] at hα
      cases hot:W.other a.ce with
      | true =>
       rw[hot,if_pos rfl] at hα
       subst hα
       refine(Y0 h hi who hk hG hlen hh hx (by rw[Yw];show ¬ (3:Int)=7;decide) _ d ?_ (fun w1 m1 i1=>Y1 m1 i1 who x G Yw (Or.inr (Or.inr (Or.inr (Or.inl ⟨rfl,rfl,rfl⟩)))) _ (fun w1 m1 i1=>WJ m1 hb i1 who hG hx hxs Sv sl hl' hc (fun _=>sl0) (decide_eq_false (fun h=>h (by rw[hA]))) ((hoth _).trans hot) hst))).mono ?_
       . rintro s' a' ⟨_,rfl⟩
         rw[<- hdn];rfl
       . rintro e w' ⟨rfl,s',cs',a',m',o',i',sm,rfl,rfl⟩
         exact⟨rfl,_,cs',_,m',hT.same hσ who _,i',⟨rfl,QW,Wl,TA,QT,QF,X7,⟨rfl,rfl,rfl,sQ⟩⟩,sm,o',⟨_,rfl⟩,fun _=>rfl⟩
      | false =>
       rw[hot,if_neg (by decide)] at hα
       subst hα
       refine(Y0 h hi who hk hG hlen hh hx (by rw[Yw];show ¬ (3:Int)=7;decide) _ d ?_ (fun w1 m1 i1=>Y1 m1 i1 who x G Yw (Or.inr (Or.inr (Or.inr (Or.inl ⟨rfl,rfl,rfl⟩)))) _ (fun w1 m1 i1=>WJ m1 hb i1 who hG hx hxs Sv sl hl' hc (fun _=>sl0) (decide_eq_false (fun h=>h (by rw[hA]))) ((hoth _).trans hot) hst))).mono ?_
       . rintro s' a' ⟨_,rfl⟩
         rw[<- hdn];rfl
       . rintro e w' ⟨rfl,s',cs',a',m',o',i',sm,rfl,rfl⟩
         exact⟨rfl,_,cs',_,m',hT.same hσ who _,i',⟨rfl,QW,Wl,TA,QT,QF,X7,⟨rfl,rfl,rfl,sQ⟩⟩,sm,o',⟨_,rfl⟩,fun _=>rfl⟩
    . rw[if_neg hA] at hα
      subst hα
      refine(Y0 h hi who hk hG hlen hh hx (by rw[Yw];show ¬ (3:Int)=7;decide) _ d ?_ (fun w1 m1 i1=>Y1 m1 i1 who x G Yw (Or.inr (Or.inr (Or.inr (Or.inl ⟨rfl,rfl,rfl⟩)))) _ (fun w1 m1 i1=>WJ m1 hb i1 who hG hx hxs Sv sl hl' hc (fun _=>sl0) (decide_eq_true (by omega)) (ot:=a.Qd (SB a.ce)) rfl hst))).mono ?_
      . rintro s' a' ⟨_,rfl⟩
        rw[<- hdn];rfl
      . rintro e w' ⟨rfl,s',cs',a',m',o',i',sm,rfl,rfl⟩
        exact⟨rfl,_,cs',_,m',hT.same hσ who _,i',⟨rfl,QW,Wl,TA,QT,QF,X7,trivial⟩,sm,o',⟨_,rfl⟩,fun _=>rfl⟩
  . have hl':(YU (u % 8) && ((Zy u:Int) == (G:Int)))=false:=by
     rw[Bool.not_eq_true] at hl
     rw[<- hl]
     congr 1
     rw[Bool.eq_iff_iff]
     simp only[beq_iff_eq,decide_eq_true_eq]
     omega
    simp only[VC] at hα
    rw[if_neg hl] at hα
    subst hα
    refine(Y0 h hi who hk hG hlen hh hx (by rw[Yw];show ¬ (3:Int)=7;decide) _ d ?_ (fun w1 m1 i1=>Y1 m1 i1 who x G Yw (Or.inr (Or.inr (Or.inr (Or.inl ⟨rfl,rfl,rfl⟩)))) _ (fun w1 m1 i1=>WJ m1 hb i1 who hG hx hxs Sv sl hl' hc (st0:=0) (G0:=0) (V0:=0) (fun e=>by cases e) (ne:=true) (A0:=ZB u+1) (decide_eq_true (by omega)) (ot:=a.Qd (SB a.ce)) rfl hst))).mono ?_
    . rintro s' a' ⟨_,rfl⟩
      rw[<- hdn];rfl
    . rintro e w' ⟨rfl,s',cs',a',m',o',i',sm,rfl,rfl⟩
      exact⟨rfl,_,cs',_,m',hT.same hσ who _,i',⟨rfl,QW,Wl,TA,QT,QF,X7,⟨rfl,rfl,rfl,rfl⟩⟩,sm,o',⟨_,rfl⟩,fun _=>rfl⟩
 | stop v =>
  have wv:Wd v:=hg
  obtain rfl:a.se=v:=SA
  have sl:=Xz a.se wv
  have hq':((if q.sw x=a.se then { q with sw:=upd q.sw x (G7 a.se) } else q),Ac.see)=(q',α'):=hq
  obtain⟨hqq,rfl⟩:=Prod.mk.inj hq'
  refine(Y0 h hi who hk hG hlen hh hx (by rw[Yw];show ¬ (5:Int)=7;decide) _ d ?_ (fun w1 m1 i1=>Y1 m1 i1 who x G Yw (Or.inr (Or.inr (Or.inr (Or.inr (Or.inl ⟨rfl,rfl,rfl⟩))))) _ (fun w1 m1 i1=>JS m1 hb i1 who hG hx hxs sl))).mono ?_
  . rintro s' a' ⟨_,rfl⟩
    rw[<- hdn];rfl
  . rintro e w' ⟨rfl,s',cs',a',m',o',i',sm,rfl,rfl⟩
    by_cases hw:q.sw x=a.se
    . have hw':s.wd (6+t+x * 2)=a.se:=by rw[hT.QE x hx];exact hw
      rw[if_pos hw] at hqq
      subst hqq
      rw[UK hw'] at m'
      exact⟨rfl,_,cs',_,m',hT.shows hσ who hx _ (OV _).1 (OV _).2,i',⟨rfl,QW,Wl,TA,QT,QF,X7,trivial⟩,sm,o',⟨_,rfl⟩,fun h=>by cases h⟩
    . have hw':s.wd (6+t+x * 2)≠a.se:=by rw[hT.QE x hx];exact hw
      rw[if_neg hw] at hqq
      subst hqq
      rw[V7 hw'] at m'
      exact⟨rfl,_,cs',_,m',hT.same hσ who _,i',⟨rfl,QW,Wl,TA,QT,QF,X7,trivial⟩,sm,o',⟨_,rfl⟩,fun h=>by cases h⟩
 | lay v c =>
  obtain⟨⟨Z,i,O,h1⟩,h0,wc⟩:=hg
  obtain⟨rfl,rfl⟩:=SA
  have sl:=Xz a.se O.wd
  have hc:=Nh a.ce wc
  have hin:=O.EO
  have z2:=O.z2
  have Qa:a.ix=(W.ix.toNat:Int):=by rw[TA];omega
  have Eu:ZB a.se+1+W.ix.toNat<s.n:=by omega
  have Sv:s.wd (ZB a.se+1+W.ix.toNat)=q.dw (W.at a.se):=hT.JP _ (by omega)
  by_cases hw:q.dw (W.at a.se)=a.ce
  . have hw':s.wd (ZB a.se+1+W.ix.toNat)=a.ce:=Sv.trans hw
    simp only[Y9,hw,if_true] at hq
    obtain⟨rfl,rfl⟩:=Prod.mk.inj hq
    refine(Y0 h hi who hk hG hlen hh hx (by rw[Yw];show ¬ (6:Int)=7;decide) _ d ?_ (fun w1 m1 i1=>Y1 m1 i1 who x G Yw (Or.inr (Or.inr (Or.inr (Or.inr (Or.inr ⟨rfl,rfl,rfl⟩))))) _ (fun w1 m1 i1=>Hg m1 hb i1 who sl Qa (by omega) Eu QT hW.v (decide_eq_true hw') hc hst))).mono ?_
    . rintro s' a' ⟨_,rfl⟩
      rw[<- hdn];rfl
    . rintro e w' ⟨rfl,s',cs',a',m',o',i',sm,rfl,rfl⟩
      rw[UK hw'] at m'
      exact⟨rfl,_,cs',_,m',hT.lays hσ who (by omega) _,i',⟨rfl,QW,Wl,TA,QT,QF,X7,⟨rfl,rfl,rfl,rfl⟩⟩,sm,o',⟨_,rfl⟩,fun h=>by cases h⟩
  . have hw':s.wd (ZB a.se+1+W.ix.toNat)≠a.ce:=by rw[Sv];exact hw
    simp only[Y9,hw,if_false] at hq
    obtain⟨rfl,rfl⟩:=Prod.mk.inj hq
    refine(Y0 h hi who hk hG hlen hh hx (by rw[Yw];show ¬ (6:Int)=7;decide) _ d ?_ (fun w1 m1 i1=>Y1 m1 i1 who x G Yw (Or.inr (Or.inr (Or.inr (Or.inr (Or.inr ⟨rfl,rfl,rfl⟩))))) _ (fun w1 m1 i1=>Ew m1 hb i1 who sl Qa (by omega) Eu QT hW.v (decide_eq_false hw')))).mono ?_
    . rintro s' a' ⟨_,rfl⟩
      rw[<- hdn];rfl
    . rintro e w' ⟨rfl,s',cs',a',m',o',i',sm,rfl,rfl⟩
      rw[V7 hw'] at m'
      exact⟨rfl,_,cs',_,m',hT.same hσ who _,i',⟨rfl,QW,Wl,TA,QT,QF,X7,trivial⟩,sm,o',⟨_,rfl⟩,fun h=>by cases h⟩
end
end Go.Proofs.YtibmjlefcaonnaaGreat
