import Derived.Test.YtpbghmeikcphnaaGreatAccGo
import Derived.Test.YtpbghmeikcphnaaGreatAccTurn
namespace Go.Proofs.YtpbghmeikcphnaaGreat
open Go.RowKit
structure Wt.ok (W:Wt):Prop where
 k:W.kd=1\/W.kd=2\/W.kd=3
 v:Fit W.vl
def Ac.sec:Ac->CV->Prop
 | .see,_=>True
 | .ask v t,a=>a.se=v/\a.at_=t
 | .load v Z,a=>a.se=v/\a.sz=Z
 | .check v c ld,a=>a.se=v/\a.ce=c/\a.ld=ld
 | .stop v,a=>a.se=v
 | .lay v c,a=>a.se=v/\a.ce=c
 | .over E val st,a=>a.E=E/\a.H=0/\a.V=val/\a.St=st
structure ET (W:Wt) (own:Bool) (α:Ac) (a:CV):Prop where
 nx:a.nx=α.nx
 kd:a.kd=W.kd
 nu:a.nu=W.nu
 ix:a.ix=W.ix
 vl:a.vl=W.vl
 ol:a.ol=W.ol
 ow:a.own=own
 sec:α.sec a
theorem yJ (W:Wt) (own:Bool):ET W own .see (wG W.kd W.nu W.ix W.vl W.ol own):=⟨rfl,rfl,rfl,rfl,rfl,rfl,rfl,trivial⟩
structure vH (w:World) (L:Loc) (s:Mm) (b o:Nat) (T:TypeId) (cs:Array Value) (t n k m σ:Nat) (W:Wt) (own:Bool) (x:Nat) (who:Int) (α:Ac) (q':Q) (α':Ac) (w':World) (s':Mm) (cs':Array Value) (a':CV):Prop where
 mm:Z9 w' L s'
 tw:YU t n k m s' (σ+1) q'
 ac:ZM w' b o T cs' a'
 is:ET W own α' a'
 same:Same o 24 cs cs'
 only:Only (L.and b) w w'
 st:∃ v,s'=(s.by who).step (α.at t x W) v
 rd:α.reads=true->s'=(s.by who).step (α.at t x W) (s.wd (α.at t x W))
theorem Lp (u:Int) (h:Wd u):CellIs u (Qe u) (yI u) (Lm u):=⟨h.1,h.2,rfl,rfl,rfl⟩
section
variable {w:World} {L:Loc} {s:Mm} {b o:Nat} {T:TypeId} {cs:Array Value} {a:CV} {t n k m σ:Nat} {g p r:Int} {q:Q} {W:Wt} {own:Bool}
set_option maxHeartbeats 1000000 in
theorem NU (h:Z9 w L s) (hb:¬ L.has b) (hT:YU t n k m s σ q) (hG:Good t n k m g p r) (hσ:σ<1000000) (hdw:∀ a,Wd (q.dw a)) {x G:Nat} (hh:Y1 W.nu x G) (hx:x<n) (hW:W.ok) (α:Ac) (hi:ZM w b o T cs a) (his:ET W own α a) (hg:α.good t n k m W x G q) (ho:α.ZO=false) (who:Int) (q':Q) (α':Ac) (hq:YX W own x G σ q α=(q',α')) (d:Bool) (hd:α'.ZO=d) :
 Calls Tryz.prog 180 #[pP b o,eV t n k m g p r L.p who] w fun e w'=>e=.returned (.bool d)/\∃ s' cs' a',vH w L s b o T cs t n k m σ W own x who α q' α' w' s' cs' a':=by
 have hlen:ZI t n k m<=s.n:=by rw[hT.len];exact Nat.le_refl _
 have hlen':=hT.len
 have hxs:6+t+x * 2<s.n:=by omega
 have hst:wrap64 (s.steps+1)=((σ+1:Nat):Int):=by rw[hT.pile.st];exact hT.pile.WB hσ
 obtain⟨Yd,Qj,Vw,RQ,Qd,PQ,XI,Q3⟩:=his
 rw[<- Vw] at hh
 have hk:a.kd=1\/a.kd=2\/a.kd=3:=by rw[Qj];exact hW.k
 have hdn:=Ac.TY α'
 rw[hd] at hdn
 have hoth:∀ c,a.S9 (Qe c)=W.other c:=fun c=>by unfold CV.S9 Wt.other;rw[Qj,PQ]
 have qX:∀ c,(decide (a.kd=1) || a.S9 (Qe c))=W.reads c:=fun c=>by rw[hoth,Qj];rfl
 cases α with
 | over=>cases ho
 | see =>
  obtain⟨v,hv⟩:∃ v,q.sw x=v:=⟨_,rfl⟩
  have hwv:s.wd (6+t+x * 2)=v:=by rw[hT.Qc x hx];exact hv
  have wv:Wd v:=by rw[<- hv];exact hT.Il x hx
  have sl:=Xf v wv
  simp only[YX,hv] at hq
  simp only[Ac.good,hv] at hg
  by_cases hl:(Y2 (v % 8) && decide (Zq v=G))=true
  . rw[if_pos hl] at hq
    obtain⟨rfl,rfl⟩:=Prod.mk.inj hq
    rw[Bool.and_eq_true] at hl
    obtain⟨i,O⟩:=hg hl.1 (of_decide_eq_true hl.2)
    have hl':(Y2 (v % 8) && ((Zq v:Int) == (G:Int)))=true:=by
     rw[hl.1,of_decide_eq_true hl.2];simp
    refine(YO h hi who hk hG hlen hh hx (by rw[Yd];decide) _ d ?_ (fun w1 m1 i1=>PT m1 i1 who x G Yd _ (fun w1 m1 i1=>EY m1 hb i1 who hG hx hxs hwv sl hl' hst (ci:=Za t n k m (Zx v)) rfl (by rw[O.c1];omega)))).mono ?_
    . rintro s' a' ⟨_,rfl⟩
      rw[<- hdn];rfl
    . rintro e w' ⟨rfl,s',cs',a',m',o',i',sm,rfl,rfl⟩
      exact⟨rfl,_,cs',_,m',hT.same hσ who _,i',⟨rfl,Qj,Vw,RQ,Qd,PQ,XI,⟨rfl,rfl⟩⟩,sm,o',⟨_,rfl⟩,fun _=>rfl⟩
  . rw[if_neg hl] at hq
    obtain⟨rfl,rfl⟩:=Prod.mk.inj hq
    have hl':(Y2 (v % 8) && ((Zq v:Int) == (G:Int)))=false:=by
     rw[Bool.not_eq_true] at hl
     rw[<- hl]
     congr 1
     rw[Bool.eq_iff_iff]
     simp only[beq_iff_eq,decide_eq_true_eq]
     omega
    refine(YO h hi who hk hG hlen hh hx (by rw[Yd];decide) _ d ?_ (fun w1 m1 i1=>PT m1 i1 who x G Yd _ (fun w1 m1 i1=>BP m1 hb i1 who hG hx hxs hwv sl hl' hst))).mono ?_
    . rintro s' a' ⟨_,rfl⟩
      rw[<- hdn];rfl
    . rintro e w' ⟨rfl,s',cs',a',m',o',i',sm,rfl,rfl⟩
      exact⟨rfl,_,cs',_,m',hT.same hσ who _,i',⟨rfl,Qj,Vw,RQ,Qd,PQ,XI,⟨rfl,rfl,rfl,rfl⟩⟩,sm,o',⟨_,rfl⟩,fun _=>rfl⟩
 | ask v t0 =>
  obtain⟨i,O⟩:=hg
  obtain⟨rfl,mV⟩:=Q3
  have sl:=Xf a.se O.wd
  have hin:=O.Cj
  have QZ:s.wd (Zx a.se)=q.dw (Zx a.se):=hT.Ll _ hin.1
  have hd1:=ES _ (hdw (Zx a.se))
  have hq':(q,NT W own σ a.se (q.dw (Zx a.se)) t0)=(q',α'):=hq
  obtain⟨rfl,hα⟩:=Prod.mk.inj hq'
  have hnA:Zx a.se<s.n:=by omega
  by_cases hw:(Xe (q.dw (Zx a.se)) == own)=true
  . have hwo:(Xe (q.dw (Zx a.se)) == a.own)=true:=by rw[XI];exact hw
    simp only[NT,hw,if_true] at hα
    by_cases hix:0<=W.ix/\W.ix<Us (q.dw (Zx a.se))
    . rw[if_pos hix] at hα
      subst hα
      have hm:=O5 a.se
      refine(YO h hi who hk hG hlen hh hx (by rw[Yd];show ¬ (1:Int)=7;decide) _ d ?_ (fun w1 m1 i1=>SL m1 i1 who x G Yd _ (fun w1 m1 i1=>BN m1 hb i1 who sl hnA QZ hd1 hwo (fun w2 c2 i2=>EU (Z:=(Us (q.dw (Zx a.se)):Int)) i2 _ rfl hG (by show 0<=a.ix;rw[RQ];exact hix.1) (by show a.ix<_;rw[RQ];exact hix.2) (by omega) (by omega) (by have:=O.z2;omega) O.c1 O.c2)))).mono ?_
      . rintro s' a' ⟨_,rfl⟩
        rw[<- hdn];rfl
      . rintro e w' ⟨rfl,s',cs',a',m',o',i',sm,rfl,rfl⟩
        exact⟨rfl,_,cs',_,m',hT.same hσ who _,i',⟨rfl,Qj,Vw,RQ,Qd,PQ,XI,⟨rfl,rfl⟩⟩,sm,o',⟨_,rfl⟩,fun _=>rfl⟩
    . rw[if_neg hix] at hα
      subst hα
      have key:∀ (w2:World) (c2:Array Value),ZM w2 b o T c2 { a with sz:=(Us (q.dw (Zx a.se)):Int) }->Calls Tryz.prog 191 #[pP b o,.agg #[iV t,iV n,iV k,iV m,iV g,iV p,iV r],iV (Zx a.se)] w2 fun e w'=>e=.returned (.bool false)/\Below w2.heap.size w2 w':=fun w2 c2 i2=>by
       by_cases h0:W.ix<0
       . exact EW i2 _ (by show a.ix<0;rw[RQ];exact h0)
       . exact Ip (Z:=(Us (q.dw (Zx a.se)):Int)) i2 _ rfl (by show 0<=a.ix;rw[RQ];omega) (by show _<=a.ix;rw[RQ];omega)
      refine(YO h hi who hk hG hlen hh hx (by rw[Yd];show ¬ (1:Int)=7;decide) _ d ?_ (fun w1 m1 i1=>SL m1 i1 who x G Yd _ (fun w1 m1 i1=>LJ m1 hb i1 who sl hnA QZ hd1 hwo key))).mono ?_
      . rintro s' a' ⟨_,rfl⟩
        rw[<- hdn];rfl
      . rintro e w' ⟨rfl,s',cs',a',m',o',i',sm,rfl,rfl⟩
        exact⟨rfl,_,cs',_,m',hT.same hσ who _,i',⟨rfl,Qj,Vw,RQ,Qd,PQ,XI,⟨rfl,rfl,rfl,mV⟩⟩,sm,o',⟨_,rfl⟩,fun _=>rfl⟩
  . have hw':(Xe (q.dw (Zx a.se)) == own)=false:=by simpa using hw
    have hwo:(Xe (q.dw (Zx a.se)) == a.own)=false:=by rw[XI];exact hw'
    simp only[NT,hw'] at hα
    subst hα
    refine(YO h hi who hk hG hlen hh hx (by rw[Yd];show ¬ (1:Int)=7;decide) _ d ?_ (fun w1 m1 i1=>SL m1 i1 who x G Yd _ (fun w1 m1 i1=>BO m1 hb i1 who sl hnA QZ hd1 hwo hst))).mono ?_
    . rintro s' a' ⟨_,rfl⟩
      rw[<- hdn];rfl
    . rintro e w' ⟨rfl,s',cs',a',m',o',i',sm,rfl,rfl⟩
      exact⟨rfl,_,cs',_,m',hT.same hσ who _,i',⟨rfl,Qj,Vw,RQ,Qd,PQ,XI,⟨rfl,rfl,rfl,rfl⟩⟩,sm,o',⟨_,rfl⟩,fun _=>rfl⟩
 | load v Z =>
  obtain⟨⟨i,O⟩,h0,h1,h4'⟩:=hg
  obtain⟨rfl,QY⟩:=Q3
  have sl:=Xf a.se O.wd
  have hin:=O.Cj
  have z2:=O.z2
  have O4:a.ix=(W.ix.toNat:Int):=by rw[RQ];omega
  have hjz:W.ix.toNat<Z:=by omega
  have BL:Zx a.se+1+W.ix.toNat<s.n:=by omega
  have QZ:s.wd (Zx a.se+1+W.ix.toNat)=q.dw (W.at a.se):=hT.Ll _ (by omega)
  have hc:=Lp _ (hdw (W.at a.se))
  have hq':(q,SI W σ a.se (q.dw (W.at a.se)))=(q',α'):=hq
  obtain⟨rfl,hα⟩:=Prod.mk.inj hq'
  obtain⟨c,hcc⟩:∃ c,q.dw (W.at a.se)=c:=⟨_,rfl⟩
  have hrc:=qX c
  rw[hcc] at QZ hc hα
  have fin:∀ {N:Int},α'.nx=N->ET W own α' { a with ce:=c,ld:=((σ+1:Nat):Int),nx:=N }->(∀ w1:World,Z9 w1 L s->ZM w1 b o T cs a->Calls Tryz.prog 187 #[pP b o,eV t n k m g p r L.p who,.agg #[iV x,iV G]] w1 fun e w'=>e=.returned (.tuple #[])/\Yq L b o T cs w1 w' (fun s' a'=>s'=(s.by who).step (Zx a.se+1+W.ix.toNat) (s.wd (Zx a.se+1+W.ix.toNat))/\a'={ a with ce:=c,ld:=((σ+1:Nat):Int),nx:=N })) ->
   Calls Tryz.prog 180 #[pP b o,eV t n k m g p r L.p who] w fun e w'=>e=.returned (.bool d)/\∃ s' cs' a',vH w L s b o T cs t n k m σ W own x who (.load a.se Z) q α' w' s' cs' a':=by
   intro N hN hIs hcall
   refine(YO h hi who hk hG hlen hh hx (by rw[Yd];show ¬ (2:Int)=7;decide) _ d ?_ (fun w1 m1 i1=>LH m1 i1 who x G Yd _ hcall)).mono ?_
   . rintro s' a' ⟨_,rfl⟩
     rw[<- hdn,hN]
   . rintro e w' ⟨rfl,s',cs',a',m',o',i',sm,rfl,rfl⟩
     exact⟨rfl,_,cs',_,m',hT.same hσ who _,i',hIs,sm,o',⟨_,rfl⟩,fun _=>rfl⟩
  cases hr:W.reads c with
  | true =>
   rw[hr] at hrc
   simp only[SI,hr,if_true] at hα
   subst hα
   exact fin rfl ⟨rfl,Qj,Vw,RQ,Qd,PQ,XI,⟨rfl,rfl,rfl⟩⟩ fun w1 m1 i1=>NV m1 hb i1 who sl O4 (by omega) BL QZ hc hst hrc
  | false =>
   have h4:a.se % 8≠4:=h4'.resolve_right (by rw[hcc,hr];decide)
   rw[hr] at hrc
   simp only[SI,hr,Bool.false_eq_true,if_false] at hα
   cases hf:yI c with
   | false =>
    simp only[hf,Bool.false_and,Bool.false_eq_true,if_false] at hα
    subst hα
    exact fin rfl ⟨rfl,Qj,Vw,RQ,Qd,PQ,XI,⟨rfl,rfl⟩⟩ fun w1 m1 i1=>Ls m1 hb i1 who sl O4 (by omega) BL QZ hc hst hrc h4 hf
   | true =>
    simp only[hf,Bool.true_and] at hα
    by_cases hv:Lm c=(YR a.se:Int)
    . by_cases h2:a.se % 8=2
      . simp only[hv,h2,decide_true,Bool.and_self,if_true] at hα
        subst hα
        exact fin rfl ⟨rfl,Qj,Vw,RQ,Qd,PQ,XI,rfl⟩ fun w1 m1 i1=>LC m1 hb i1 who sl O4 (by omega) BL QZ hc hst hrc h2 hf hv
      . simp only[hv,h2,decide_true,decide_false,Bool.and_false,Bool.false_eq_true,if_false,Int.le_refl,if_true] at hα
        subst hα
        exact fin rfl ⟨rfl,Qj,Vw,RQ,Qd,PQ,XI,trivial⟩ fun w1 m1 i1=>Lu m1 hb i1 who sl O4 (by omega) BL QZ hc hst hrc h4 h2 hf hv
    . by_cases hge:(YR a.se:Int)<=Lm c
      . simp only[hv,hge,decide_true,decide_false,Bool.false_and,Bool.false_eq_true,if_false,if_true] at hα
        subst hα
        exact fin rfl ⟨rfl,Qj,Vw,RQ,Qd,PQ,XI,trivial⟩ fun w1 m1 i1=>Lt m1 hb i1 who sl O4 (by omega) BL QZ hc hst hrc h4 hf hv hge
      . simp only[hv,hge,decide_false,Bool.false_and,Bool.false_eq_true,if_false] at hα
        subst hα
        exact fin rfl ⟨rfl,Qj,Vw,RQ,Qd,PQ,XI,⟨rfl,rfl⟩⟩ fun w1 m1 i1=>Io m1 hb i1 who sl O4 (by omega) BL QZ hc hst hrc h4 hf hv hge
 | check v c ld =>
  obtain⟨wv,wc⟩:=hg
  obtain⟨rfl,rfl,oH⟩:=Q3
  obtain⟨u,hu⟩:∃ u,q.sw x=u:=⟨_,rfl⟩
  have QZ:s.wd (6+t+x * 2)=u:=by rw[hT.Qc x hx];exact hu
  have wu:Wd u:=by rw[<- hu];exact hT.Il x hx
  have sl:=Xf u wu
  have sl0:=Xf a.se wv
  have hc:=Lp a.ce wc
  have hq':(q,UZ W G σ a.se a.ce u ld)=(q',α'):=by rw[<- hq,<- hu];rfl
  obtain⟨rfl,hα⟩:=Prod.mk.inj hq'
  by_cases hl:(Y2 (u % 8) && decide (Zq u=G))=true
  . have hl0:=hl
    rw[Bool.and_eq_true] at hl0
    have hl':(Y2 (u % 8) && ((Zq u:Int) == (G:Int)))=true:=by
     rw[hl0.1,of_decide_eq_true hl0.2];simp
    simp only[UZ,hl,if_true] at hα
    by_cases hA:Zx u=Zx a.se
    . rw[if_pos hA] at hα
      cases hot:W.other a.ce with
      | true =>
       rw[hot,if_pos rfl] at hα
       subst hα
       refine(YO h hi who hk hG hlen hh hx (by rw[Yd];show ¬ (3:Int)=7;decide) _ d ?_ (fun w1 m1 i1=>WE m1 i1 who x G Yd _ (fun w1 m1 i1=>O7 m1 hb i1 who hG hx hxs QZ sl hl' hc sl0 (by rw[hA]) (by rw[hoth];exact hot)))).mono ?_
       . rintro s' a' ⟨_,rfl⟩
         rw[<- hdn];rfl
       . rintro e w' ⟨rfl,s',cs',a',m',o',i',sm,rfl,rfl⟩
         exact⟨rfl,_,cs',_,m',hT.same hσ who _,i',⟨rfl,Qj,Vw,RQ,Qd,PQ,XI,⟨rfl,rfl,rfl,oH⟩⟩,sm,o',⟨_,rfl⟩,fun _=>rfl⟩
      | false =>
       rw[hot,if_neg (by decide)] at hα
       subst hα
       refine(YO h hi who hk hG hlen hh hx (by rw[Yd];show ¬ (3:Int)=7;decide) _ d ?_ (fun w1 m1 i1=>WE m1 i1 who x G Yd _ (fun w1 m1 i1=>Iu m1 hb i1 who hG hx hxs QZ sl hl' hc sl0 (by rw[hA]) (by rw[hoth];exact hot)))).mono ?_
       . rintro s' a' ⟨_,rfl⟩
         rw[<- hdn];rfl
       . rintro e w' ⟨rfl,s',cs',a',m',o',i',sm,rfl,rfl⟩
         exact⟨rfl,_,cs',_,m',hT.same hσ who _,i',⟨rfl,Qj,Vw,RQ,Qd,PQ,XI,⟨rfl,rfl,rfl,oH⟩⟩,sm,o',⟨_,rfl⟩,fun _=>rfl⟩
    . rw[if_neg hA] at hα
      subst hα
      refine(YO h hi who hk hG hlen hh hx (by rw[Yd];show ¬ (3:Int)=7;decide) _ d ?_ (fun w1 m1 i1=>WE m1 i1 who x G Yd _ (fun w1 m1 i1=>NY m1 hb i1 who hG hx hxs QZ sl hl' hc sl0 (by omega)))).mono ?_
      . rintro s' a' ⟨_,rfl⟩
        rw[<- hdn];rfl
      . rintro e w' ⟨rfl,s',cs',a',m',o',i',sm,rfl,rfl⟩
        exact⟨rfl,_,cs',_,m',hT.same hσ who _,i',⟨rfl,Qj,Vw,RQ,Qd,PQ,XI,trivial⟩,sm,o',⟨_,rfl⟩,fun _=>rfl⟩
  . have hl':(Y2 (u % 8) && ((Zq u:Int) == (G:Int)))=false:=by
     rw[Bool.not_eq_true] at hl
     rw[<- hl]
     congr 1
     rw[Bool.eq_iff_iff]
     simp only[beq_iff_eq,decide_eq_true_eq]
     omega
    simp only[UZ] at hα
    rw[if_neg hl] at hα
    subst hα
    refine(YO h hi who hk hG hlen hh hx (by rw[Yd];show ¬ (3:Int)=7;decide) _ d ?_ (fun w1 m1 i1=>WE m1 i1 who x G Yd _ (fun w1 m1 i1=>NZ m1 hb i1 who hG hx hxs QZ sl hl' hc hst))).mono ?_
    . rintro s' a' ⟨_,rfl⟩
      rw[<- hdn];rfl
    . rintro e w' ⟨rfl,s',cs',a',m',o',i',sm,rfl,rfl⟩
      exact⟨rfl,_,cs',_,m',hT.same hσ who _,i',⟨rfl,Qj,Vw,RQ,Qd,PQ,XI,⟨rfl,rfl,rfl,rfl⟩⟩,sm,o',⟨_,rfl⟩,fun _=>rfl⟩
 | stop v =>
  have wv:Wd v:=hg
  obtain rfl:a.se=v:=Q3
  have sl:=Xf a.se wv
  have hq':((if q.sw x=a.se then { q with sw:=upd q.sw x (ER a.se) } else q),Ac.see)=(q',α'):=hq
  obtain⟨hqq,rfl⟩:=Prod.mk.inj hq'
  refine(YO h hi who hk hG hlen hh hx (by rw[Yd];show ¬ (5:Int)=7;decide) _ d ?_ (fun w1 m1 i1=>LG m1 i1 who x G Yd _ (fun w1 m1 i1=>Ir m1 hb i1 who hG hx hxs sl))).mono ?_
  . rintro s' a' ⟨_,rfl⟩
    rw[<- hdn];rfl
  . rintro e w' ⟨rfl,s',cs',a',m',o',i',sm,rfl,rfl⟩
    by_cases hw:q.sw x=a.se
    . have hw':s.wd (6+t+x * 2)=a.se:=by rw[hT.Qc x hx];exact hw
      rw[if_pos hw] at hqq
      subst hqq
      rw[TW hw'] at m'
      exact⟨rfl,_,cs',_,m',hT.shows hσ who hx _ (NS _).1 (NS _).2,i',⟨rfl,Qj,Vw,RQ,Qd,PQ,XI,trivial⟩,sm,o',⟨_,rfl⟩,fun h=>by cases h⟩
    . have hw':s.wd (6+t+x * 2)≠a.se:=by rw[hT.Qc x hx];exact hw
      rw[if_neg hw] at hqq
      subst hqq
      rw[Vo hw'] at m'
      exact⟨rfl,_,cs',_,m',hT.same hσ who _,i',⟨rfl,Qj,Vw,RQ,Qd,PQ,XI,trivial⟩,sm,o',⟨_,rfl⟩,fun h=>by cases h⟩
 | lay v c =>
  obtain⟨⟨Z,i,O,h1⟩,h0,wc⟩:=hg
  obtain⟨rfl,rfl⟩:=Q3
  have sl:=Xf a.se O.wd
  have hc:=Lp a.ce wc
  have hin:=O.Cj
  have z2:=O.z2
  have O4:a.ix=(W.ix.toNat:Int):=by rw[RQ];omega
  have BL:Zx a.se+1+W.ix.toNat<s.n:=by omega
  have QZ:s.wd (Zx a.se+1+W.ix.toNat)=q.dw (W.at a.se):=hT.Ll _ (by omega)
  by_cases hw:q.dw (W.at a.se)=a.ce
  . have hw':s.wd (Zx a.se+1+W.ix.toNat)=a.ce:=QZ.trans hw
    simp only[YX,hw,if_true] at hq
    obtain⟨rfl,rfl⟩:=Prod.mk.inj hq
    refine(YO h hi who hk hG hlen hh hx (by rw[Yd];show ¬ (6:Int)=7;decide) _ d ?_ (fun w1 m1 i1=>PS m1 i1 who x G Yd _ (fun w1 m1 i1=>EX m1 hb i1 who sl O4 (by omega) BL Qd hW.v (decide_eq_true hw') hc hst))).mono ?_
    . rintro s' a' ⟨_,rfl⟩
      rw[<- hdn];rfl
    . rintro e w' ⟨rfl,s',cs',a',m',o',i',sm,rfl,rfl⟩
      rw[TW hw'] at m'
      exact⟨rfl,_,cs',_,m',hT.lays hσ who (by omega) _,i',⟨rfl,Qj,Vw,RQ,Qd,PQ,XI,⟨rfl,rfl,rfl,rfl⟩⟩,sm,o',⟨_,rfl⟩,fun h=>by cases h⟩
  . have hw':s.wd (Zx a.se+1+W.ix.toNat)≠a.ce:=by rw[QZ];exact hw
    simp only[YX,hw,if_false] at hq
    obtain⟨rfl,rfl⟩:=Prod.mk.inj hq
    refine(YO h hi who hk hG hlen hh hx (by rw[Yd];show ¬ (6:Int)=7;decide) _ d ?_ (fun w1 m1 i1=>PS m1 i1 who x G Yd _ (fun w1 m1 i1=>BM m1 hb i1 who sl O4 (by omega) BL Qd hW.v (decide_eq_false hw')))).mono ?_
    . rintro s' a' ⟨_,rfl⟩
      rw[<- hdn];rfl
    . rintro e w' ⟨rfl,s',cs',a',m',o',i',sm,rfl,rfl⟩
      rw[Vo hw'] at m'
      exact⟨rfl,_,cs',_,m',hT.same hσ who _,i',⟨rfl,Qj,Vw,RQ,Qd,PQ,XI,trivial⟩,sm,o',⟨_,rfl⟩,fun h=>by cases h⟩
end
end Go.Proofs.YtpbghmeikcphnaaGreat
