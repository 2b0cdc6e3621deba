import Derived.Test.YtpbghmeikcphnabGreatAccGo
import Derived.Test.YtpbghmeikcphnabGreatAccTurn
namespace Go.Proofs.YtpbghmeikcphnabGreat
open Go.RowKit
structure Wt.ok (W:Wt):Prop where
 k:W.kd=1\/W.kd=2\/W.kd=3
 v:Fit W.vl
def Ac.sec:Ac->CV->Prop
 | .see,_=>True
 | .ask v t,a=>a.se=v/\a.at_=t
 | .load v Z,a=>a.se=v/\a.sz=Z
 | .check v c ld,a=>a.se=v/\a.ce=c/\a.ld=ld
 | .stop v,a=>a.se=v
 | .lay v c,a=>a.se=v/\a.ce=c
 | .over E val st,a=>a.E=E/\a.H=0/\a.V=val/\a.St=st
structure Fb (W:Wt) (own:Bool) (α:Ac) (a:CV):Prop where
 nx:a.nx=α.nx
 kd:a.kd=W.kd
 nu:a.nu=W.nu
 ix:a.ix=W.ix
 vl:a.vl=W.vl
 ol:a.ol=W.ol
 ow:a.own=own
 sec:α.sec a
theorem zl (W:Wt) (own:Bool):Fb W own .see (xy W.kd W.nu W.ix W.vl W.ol own):=⟨rfl,rfl,rfl,rfl,rfl,rfl,rfl,trivial⟩
structure wR (w:World) (L:Loc) (s:Mm) (b o:Nat) (T:TypeId) (cs:Array Value) (t n k m σ:Nat) (W:Wt) (own:Bool) (x:Nat) (who:Int) (α:Ac) (q':Q) (α':Ac) (w':World) (s':Mm) (cs':Array Value) (a':CV):Prop where
 mm:Z8 w' L s'
 tw:YU t n k m s' (σ+1) q'
 ac:ZM w' b o T cs' a'
 is:Fb W own α' a'
 same:Same o 24 cs cs'
 only:Only (L.and b) w w'
 st:∃ v,s'=(s.by who).step (α.at t x W) v
 rd:α.reads=true->s'=(s.by who).step (α.at t x W) (s.wd (α.at t x W))
theorem LH (u:Int) (h:Wd u):CellIs u (Qq u) (zk u) (LG u):=⟨h.1,h.2,rfl,rfl,rfl⟩
section
variable {w:World} {L:Loc} {s:Mm} {b o:Nat} {T:TypeId} {cs:Array Value} {a:CV} {t n k m σ:Nat} {g p r:Int} {q:Q} {W:Wt} {own:Bool}
set_option maxHeartbeats 1000000 in
theorem Oc (h:Z8 w L s) (hb:¬ L.has b) (hT:YU t n k m s σ q) (hG:Good t n k m g p r) (hσ:σ<1000000) (hdw:∀ a,Wd (q.dw a)) {x G:Nat} (hh:Y1 W.nu x G) (hx:x<n) (hW:W.ok) (α:Ac) (hi:ZM w b o T cs a) (his:Fb W own α a) (hg:α.good t n k m W x G q) (ho:α.ZO=false) (who:Int) (q':Q) (α':Ac) (hq:YX W own x G σ q α=(q',α')) (d:Bool) (hd:α'.ZO=d) :
 Calls Tryz.prog 173 #[pP b o,eV t n k m g p r L.p who] w fun e w'=>e=.returned (.bool d)/\∃ s' cs' a',wR w L s b o T cs t n k m σ W own x who α q' α' w' s' cs' a':=by
 have hlen:ZH t n k m<=s.n:=by rw[hT.len];exact Nat.le_refl _
 have hlen':=hT.len
 have hxs:6+t+x * 2<s.n:=by omega
 have hst:wrap64 (s.steps+1)=((σ+1:Nat):Int):=by rw[hT.pile.st];exact hT.pile.WE hσ
 obtain⟨Ye,Qu,VA,Si,Qp,P5,XI,Rj⟩:=his
 rw[<- VA] at hh
 have hk:a.kd=1\/a.kd=2\/a.kd=3:=by rw[Qu];exact hW.k
 have hdn:=Ac.Uf α'
 rw[hd] at hdn
 have hoth:∀ c,a.Tt (Qq c)=W.other c:=fun c=>by unfold CV.Tt Wt.other;rw[Qu,P5]
 have tC:∀ c,(decide (a.kd=1) || a.Tt (Qq c))=W.reads c:=fun c=>by rw[hoth,Qu];rfl
 cases α with
 | over=>cases ho
 | see =>
  obtain⟨v,hv⟩:∃ v,q.sw x=v:=⟨_,rfl⟩
  have hwv:s.wd (6+t+x * 2)=v:=by rw[hT.PZ x hx];exact hv
  have wv:Wd v:=by rw[<- hv];exact hT.FC x hx
  have sl:=Xh v wv
  simp only[YX,hv] at hq
  simp only[Ac.good,hv] at hg
  by_cases hl:(Y2 (v % 8) && decide (Zp v=G))=true
  . rw[if_pos hl] at hq
    obtain⟨rfl,rfl⟩:=Prod.mk.inj hq
    rw[Bool.and_eq_true] at hl
    obtain⟨i,O⟩:=hg hl.1 (of_decide_eq_true hl.2)
    have hl':(Y2 (v % 8) && ((Zp v:Int) == (G:Int)))=true:=by
     rw[hl.1,of_decide_eq_true hl.2];simp
    refine(YO h hi who hk hG hlen hh hx (by rw[Ye];decide) _ d ?_ (fun w1 m1 i1=>P8 m1 i1 who x G Ye _ (fun w1 m1 i1=>Fh m1 hb i1 who hG hx hxs hwv sl hl' hst (ci:=Zb t n k m (Zv v)) rfl (by rw[O.c1];omega)))).mono ?_
    . rintro s' a' ⟨_,rfl⟩
      rw[<- hdn];rfl
    . rintro e w' ⟨rfl,s',cs',a',m',o',i',sm,rfl,rfl⟩
      exact⟨rfl,_,cs',_,m',hT.same hσ who _,i',⟨rfl,Qu,VA,Si,Qp,P5,XI,⟨rfl,rfl⟩⟩,sm,o',⟨_,rfl⟩,fun _=>rfl⟩
  . rw[if_neg hl] at hq
    obtain⟨rfl,rfl⟩:=Prod.mk.inj hq
    have hl':(Y2 (v % 8) && ((Zp v:Int) == (G:Int)))=false:=by
     rw[Bool.not_eq_true] at hl
     rw[<- hl]
     congr 1
     rw[Bool.eq_iff_iff]
     simp only[beq_iff_eq,decide_eq_true_eq]
     omega
    refine(YO h hi who hk hG hlen hh hx (by rw[Ye];decide) _ d ?_ (fun w1 m1 i1=>P8 m1 i1 who x G Ye _ (fun w1 m1 i1=>CB m1 hb i1 who hG hx hxs hwv sl hl' hst))).mono ?_
    . rintro s' a' ⟨_,rfl⟩
      rw[<- hdn];rfl
    . rintro e w' ⟨rfl,s',cs',a',m',o',i',sm,rfl,rfl⟩
      exact⟨rfl,_,cs',_,m',hT.same hσ who _,i',⟨rfl,Qu,VA,Si,Qp,P5,XI,⟨rfl,rfl,rfl,rfl⟩⟩,sm,o',⟨_,rfl⟩,fun _=>rfl⟩
 | ask v t0 =>
  obtain⟨i,O⟩:=hg
  obtain⟨rfl,oZ⟩:=Rj
  have sl:=Xh a.se O.wd
  have hin:=O.CZ
  have Ri:s.wd (Zv a.se)=q.dw (Zv a.se):=hT.Iz _ hin.1
  have hd1:=Fa _ (hdw (Zv a.se))
  have hq':(q,Ob W own σ a.se (q.dw (Zv a.se)) t0)=(q',α'):=hq
  obtain⟨rfl,hα⟩:=Prod.mk.inj hq'
  have hnA:Zv a.se<s.n:=by omega
  by_cases hw:(Xg (q.dw (Zv a.se)) == own)=true
  . have hwo:(Xg (q.dw (Zv a.se)) == a.own)=true:=by rw[XI];exact hw
    simp only[Ob,hw,if_true] at hα
    by_cases hix:0<=W.ix/\W.ix<UA (q.dw (Zv a.se))
    . rw[if_pos hix] at hα
      subst hα
      have hm:=Pn a.se
      refine(YO h hi who hk hG hlen hh hx (by rw[Ye];show ¬ (1:Int)=7;decide) _ d ?_ (fun w1 m1 i1=>Tc m1 i1 who x G Ye _ (fun w1 m1 i1=>Cj m1 hb i1 who sl hnA Ri hd1 hwo (fun w2 c2 i2=>Fe (Z:=(UA (q.dw (Zv a.se)):Int)) i2 _ rfl hG (by show 0<=a.ix;rw[Si];exact hix.1) (by show a.ix<_;rw[Si];exact hix.2) (by omega) (by omega) (by have:=O.z2;omega) O.c1 O.c2)))).mono ?_
      . rintro s' a' ⟨_,rfl⟩
        rw[<- hdn];rfl
      . rintro e w' ⟨rfl,s',cs',a',m',o',i',sm,rfl,rfl⟩
        exact⟨rfl,_,cs',_,m',hT.same hσ who _,i',⟨rfl,Qu,VA,Si,Qp,P5,XI,⟨rfl,rfl⟩⟩,sm,o',⟨_,rfl⟩,fun _=>rfl⟩
    . rw[if_neg hix] at hα
      subst hα
      have key:∀ (w2:World) (c2:Array Value),ZM w2 b o T c2 { a with sz:=(UA (q.dw (Zv a.se)):Int) }->Calls Tryz.prog 184 #[pP b o,.agg #[iV t,iV n,iV k,iV m,iV g,iV p,iV r],iV (Zv a.se)] w2 fun e w'=>e=.returned (.bool false)/\Below w2.heap.size w2 w':=fun w2 c2 i2=>by
       by_cases h0:W.ix<0
       . exact Ff i2 _ (by show a.ix<0;rw[Si];exact h0)
       . exact IB (Z:=(UA (q.dw (Zv a.se)):Int)) i2 _ rfl (by show 0<=a.ix;rw[Si];omega) (by show _<=a.ix;rw[Si];omega)
      refine(YO h hi who hk hG hlen hh hx (by rw[Ye];show ¬ (1:Int)=7;decide) _ d ?_ (fun w1 m1 i1=>Tc m1 i1 who x G Ye _ (fun w1 m1 i1=>LW m1 hb i1 who sl hnA Ri hd1 hwo key))).mono ?_
      . rintro s' a' ⟨_,rfl⟩
        rw[<- hdn];rfl
      . rintro e w' ⟨rfl,s',cs',a',m',o',i',sm,rfl,rfl⟩
        exact⟨rfl,_,cs',_,m',hT.same hσ who _,i',⟨rfl,Qu,VA,Si,Qp,P5,XI,⟨rfl,rfl,rfl,oZ⟩⟩,sm,o',⟨_,rfl⟩,fun _=>rfl⟩
  . have hw':(Xg (q.dw (Zv a.se)) == own)=false:=by simpa using hw
    have hwo:(Xg (q.dw (Zv a.se)) == a.own)=false:=by rw[XI];exact hw'
    simp only[Ob,hw'] at hα
    subst hα
    refine(YO h hi who hk hG hlen hh hx (by rw[Ye];show ¬ (1:Int)=7;decide) _ d ?_ (fun w1 m1 i1=>Tc m1 i1 who x G Ye _ (fun w1 m1 i1=>Cm m1 hb i1 who sl hnA Ri hd1 hwo hst))).mono ?_
    . rintro s' a' ⟨_,rfl⟩
      rw[<- hdn];rfl
    . rintro e w' ⟨rfl,s',cs',a',m',o',i',sm,rfl,rfl⟩
      exact⟨rfl,_,cs',_,m',hT.same hσ who _,i',⟨rfl,Qu,VA,Si,Qp,P5,XI,⟨rfl,rfl,rfl,rfl⟩⟩,sm,o',⟨_,rfl⟩,fun _=>rfl⟩
 | load v Z =>
  obtain⟨⟨i,O⟩,h0,h1,h4'⟩:=hg
  obtain⟨rfl,Rh⟩:=Rj
  have sl:=Xh a.se O.wd
  have hin:=O.CZ
  have z2:=O.z2
  have Pm:a.ix=(W.ix.toNat:Int):=by rw[Si];omega
  have hjz:W.ix.toNat<Z:=by omega
  have Cf:Zv a.se+1+W.ix.toNat<s.n:=by omega
  have Ri:s.wd (Zv a.se+1+W.ix.toNat)=q.dw (W.at a.se):=hT.Iz _ (by omega)
  have hc:=LH _ (hdw (W.at a.se))
  have hq':(q,SY W σ a.se (q.dw (W.at a.se)))=(q',α'):=hq
  obtain⟨rfl,hα⟩:=Prod.mk.inj hq'
  obtain⟨c,hcc⟩:∃ c,q.dw (W.at a.se)=c:=⟨_,rfl⟩
  have hrc:=tC c
  rw[hcc] at Ri hc hα
  have fin:∀ {N:Int},α'.nx=N->Fb W own α' { a with ce:=c,ld:=((σ+1:Nat):Int),nx:=N }->(∀ w1:World,Z8 w1 L s->ZM w1 b o T cs a->Calls Tryz.prog 180 #[pP b o,eV t n k m g p r L.p who,.agg #[iV x,iV G]] w1 fun e w'=>e=.returned (.tuple #[])/\Yr L b o T cs w1 w' (fun s' a'=>s'=(s.by who).step (Zv a.se+1+W.ix.toNat) (s.wd (Zv a.se+1+W.ix.toNat))/\a'={ a with ce:=c,ld:=((σ+1:Nat):Int),nx:=N })) ->
   Calls Tryz.prog 173 #[pP b o,eV t n k m g p r L.p who] w fun e w'=>e=.returned (.bool d)/\∃ s' cs' a',wR w L s b o T cs t n k m σ W own x who (.load a.se Z) q α' w' s' cs' a':=by
   intro N hN hIs hcall
   refine(YO h hi who hk hG hlen hh hx (by rw[Ye];show ¬ (2:Int)=7;decide) _ d ?_ (fun w1 m1 i1=>LV m1 i1 who x G Ye _ hcall)).mono ?_
   . rintro s' a' ⟨_,rfl⟩
     rw[<- hdn,hN]
   . rintro e w' ⟨rfl,s',cs',a',m',o',i',sm,rfl,rfl⟩
     exact⟨rfl,_,cs',_,m',hT.same hσ who _,i',hIs,sm,o',⟨_,rfl⟩,fun _=>rfl⟩
  cases hr:W.reads c with
  | true =>
   rw[hr] at hrc
   simp only[SY,hr,if_true] at hα
   subst hα
   exact fin rfl ⟨rfl,Qu,VA,Si,Qp,P5,XI,⟨rfl,rfl,rfl⟩⟩ fun w1 m1 i1=>Oe m1 hb i1 who sl Pm (by omega) Cf Ri hc hst hrc
  | false =>
   have h4:a.se % 8≠4:=h4'.resolve_right (by rw[hcc,hr];decide)
   rw[hr] at hrc
   simp only[SY,hr,Bool.false_eq_true,if_false] at hα
   cases hf:zk c with
   | false =>
    simp only[hf,Bool.false_and,Bool.false_eq_true,if_false] at hα
    subst hα
    exact fin rfl ⟨rfl,Qu,VA,Si,Qp,P5,XI,⟨rfl,rfl⟩⟩ fun w1 m1 i1=>LJ m1 hb i1 who sl Pm (by omega) Cf Ri hc hst hrc h4 hf
   | true =>
    simp only[hf,Bool.true_and] at hα
    by_cases hv:LG c=(YR a.se:Int)
    . by_cases h2:a.se % 8=2
      . simp only[hv,h2,decide_true,Bool.and_self,if_true] at hα
        subst hα
        exact fin rfl ⟨rfl,Qu,VA,Si,Qp,P5,XI,rfl⟩ fun w1 m1 i1=>LP m1 hb i1 who sl Pm (by omega) Cf Ri hc hst hrc h2 hf hv
      . simp only[hv,h2,decide_true,decide_false,Bool.and_false,Bool.false_eq_true,if_false,Int.le_refl,if_true] at hα
        subst hα
        exact fin rfl ⟨rfl,Qu,VA,Si,Qp,P5,XI,trivial⟩ fun w1 m1 i1=>LM m1 hb i1 who sl Pm (by omega) Cf Ri hc hst hrc h4 h2 hf hv
    . by_cases hge:(YR a.se:Int)<=LG c
      . simp only[hv,hge,decide_true,decide_false,Bool.false_and,Bool.false_eq_true,if_false,if_true] at hα
        subst hα
        exact fin rfl ⟨rfl,Qu,VA,Si,Qp,P5,XI,trivial⟩ fun w1 m1 i1=>LK m1 hb i1 who sl Pm (by omega) Cf Ri hc hst hrc h4 hf hv hge
      . simp only[hv,hge,decide_false,Bool.false_and,Bool.false_eq_true,if_false] at hα
        subst hα
        exact fin rfl ⟨rfl,Qu,VA,Si,Qp,P5,XI,⟨rfl,rfl⟩⟩ fun w1 m1 i1=>IA m1 hb i1 who sl Pm (by omega) Cf Ri hc hst hrc h4 hf hv hge
 | check v c ld =>
  obtain⟨wv,wc⟩:=hg
  obtain⟨rfl,rfl,qG⟩:=Rj
  obtain⟨u,hu⟩:∃ u,q.sw x=u:=⟨_,rfl⟩
  have Ri:s.wd (6+t+x * 2)=u:=by rw[hT.PZ x hx];exact hu
  have wu:Wd u:=by rw[<- hu];exact hT.FC x hx
  have sl:=Xh u wu
  have sl0:=Xh a.se wv
  have hc:=LH a.ce wc
  have hq':(q,U5 W G σ a.se a.ce u ld)=(q',α'):=by rw[<- hq,<- hu];rfl
  obtain⟨rfl,hα⟩:=Prod.mk.inj hq'
  by_cases hl:(Y2 (u % 8) && decide (Zp u=G))=true
  . have hl0:=hl
    rw[Bool.and_eq_true] at hl0
    have hl':(Y2 (u % 8) && ((Zp u:Int) == (G:Int)))=true:=by
     rw[hl0.1,of_decide_eq_true hl0.2];simp
    simp only[U5,hl,if_true] at hα
    by_cases hA:Zv u=Zv a.se
    . rw[if_pos hA] at hα
      cases hot:W.other a.ce with
      | true =>
       rw[hot,if_pos rfl] at hα
       subst hα
       refine(YO h hi who hk hG hlen hh hx (by rw[Ye];show ¬ (3:Int)=7;decide) _ d ?_ (fun w1 m1 i1=>WH m1 i1 who x G Ye _ (fun w1 m1 i1=>Pv m1 hb i1 who hG hx hxs Ri sl hl' hc sl0 (by rw[hA]) (by rw[hoth];exact hot)))).mono ?_
       . rintro s' a' ⟨_,rfl⟩
         rw[<- hdn];rfl
       . rintro e w' ⟨rfl,s',cs',a',m',o',i',sm,rfl,rfl⟩
         exact⟨rfl,_,cs',_,m',hT.same hσ who _,i',⟨rfl,Qu,VA,Si,Qp,P5,XI,⟨rfl,rfl,rfl,qG⟩⟩,sm,o',⟨_,rfl⟩,fun _=>rfl⟩
      | false =>
       rw[hot,if_neg (by decide)] at hα
       subst hα
       refine(YO h hi who hk hG hlen hh hx (by rw[Ye];show ¬ (3:Int)=7;decide) _ d ?_ (fun w1 m1 i1=>WH m1 i1 who x G Ye _ (fun w1 m1 i1=>IG m1 hb i1 who hG hx hxs Ri sl hl' hc sl0 (by rw[hA]) (by rw[hoth];exact hot)))).mono ?_
       . rintro s' a' ⟨_,rfl⟩
         rw[<- hdn];rfl
       . rintro e w' ⟨rfl,s',cs',a',m',o',i',sm,rfl,rfl⟩
         exact⟨rfl,_,cs',_,m',hT.same hσ who _,i',⟨rfl,Qu,VA,Si,Qp,P5,XI,⟨rfl,rfl,rfl,qG⟩⟩,sm,o',⟨_,rfl⟩,fun _=>rfl⟩
    . rw[if_neg hA] at hα
      subst hα
      refine(YO h hi who hk hG hlen hh hx (by rw[Ye];show ¬ (3:Int)=7;decide) _ d ?_ (fun w1 m1 i1=>WH m1 i1 who x G Ye _ (fun w1 m1 i1=>Oh m1 hb i1 who hG hx hxs Ri sl hl' hc sl0 (by omega)))).mono ?_
      . rintro s' a' ⟨_,rfl⟩
        rw[<- hdn];rfl
      . rintro e w' ⟨rfl,s',cs',a',m',o',i',sm,rfl,rfl⟩
        exact⟨rfl,_,cs',_,m',hT.same hσ who _,i',⟨rfl,Qu,VA,Si,Qp,P5,XI,trivial⟩,sm,o',⟨_,rfl⟩,fun _=>rfl⟩
  . have hl':(Y2 (u % 8) && ((Zp u:Int) == (G:Int)))=false:=by
     rw[Bool.not_eq_true] at hl
     rw[<- hl]
     congr 1
     rw[Bool.eq_iff_iff]
     simp only[beq_iff_eq,decide_eq_true_eq]
     omega
    simp only[U5] at hα
    rw[if_neg hl] at hα
    subst hα
    refine(YO h hi who hk hG hlen hh hx (by rw[Ye];show ¬ (3:Int)=7;decide) _ d ?_ (fun w1 m1 i1=>WH m1 i1 who x G Ye _ (fun w1 m1 i1=>Oi m1 hb i1 who hG hx hxs Ri sl hl' hc hst))).mono ?_
    . rintro s' a' ⟨_,rfl⟩
      rw[<- hdn];rfl
    . rintro e w' ⟨rfl,s',cs',a',m',o',i',sm,rfl,rfl⟩
      exact⟨rfl,_,cs',_,m',hT.same hσ who _,i',⟨rfl,Qu,VA,Si,Qp,P5,XI,⟨rfl,rfl,rfl,rfl⟩⟩,sm,o',⟨_,rfl⟩,fun _=>rfl⟩
 | stop v =>
  have wv:Wd v:=hg
  obtain rfl:a.se=v:=Rj
  have sl:=Xh a.se wv
  have hq':((if q.sw x=a.se then { q with sw:=upd q.sw x (E8 a.se) } else q),Ac.see)=(q',α'):=hq
  obtain⟨hqq,rfl⟩:=Prod.mk.inj hq'
  refine(YO h hi who hk hG hlen hh hx (by rw[Ye];show ¬ (5:Int)=7;decide) _ d ?_ (fun w1 m1 i1=>LU m1 i1 who x G Ye _ (fun w1 m1 i1=>IE m1 hb i1 who hG hx hxs sl))).mono ?_
  . rintro s' a' ⟨_,rfl⟩
    rw[<- hdn];rfl
  . rintro e w' ⟨rfl,s',cs',a',m',o',i',sm,rfl,rfl⟩
    by_cases hw:q.sw x=a.se
    . have hw':s.wd (6+t+x * 2)=a.se:=by rw[hT.PZ x hx];exact hw
      rw[if_pos hw] at hqq
      subst hqq
      rw[Ue hw'] at m'
      exact⟨rfl,_,cs',_,m',hT.shows hσ who hx _ (Oa _).1 (Oa _).2,i',⟨rfl,Qu,VA,Si,Qp,P5,XI,trivial⟩,sm,o',⟨_,rfl⟩,fun h=>by cases h⟩
    . have hw':s.wd (6+t+x * 2)≠a.se:=by rw[hT.PZ x hx];exact hw
      rw[if_neg hw] at hqq
      subst hqq
      rw[Vu hw'] at m'
      exact⟨rfl,_,cs',_,m',hT.same hσ who _,i',⟨rfl,Qu,VA,Si,Qp,P5,XI,trivial⟩,sm,o',⟨_,rfl⟩,fun h=>by cases h⟩
 | lay v c =>
  obtain⟨⟨Z,i,O,h1⟩,h0,wc⟩:=hg
  obtain⟨rfl,rfl⟩:=Rj
  have sl:=Xh a.se O.wd
  have hc:=LH a.ce wc
  have hin:=O.CZ
  have z2:=O.z2
  have Pm:a.ix=(W.ix.toNat:Int):=by rw[Si];omega
  have Cf:Zv a.se+1+W.ix.toNat<s.n:=by omega
  have Ri:s.wd (Zv a.se+1+W.ix.toNat)=q.dw (W.at a.se):=hT.Iz _ (by omega)
  by_cases hw:q.dw (W.at a.se)=a.ce
  . have hw':s.wd (Zv a.se+1+W.ix.toNat)=a.ce:=Ri.trans hw
    simp only[YX,hw,if_true] at hq
    obtain⟨rfl,rfl⟩:=Prod.mk.inj hq
    refine(YO h hi who hk hG hlen hh hx (by rw[Ye];show ¬ (6:Int)=7;decide) _ d ?_ (fun w1 m1 i1=>P7 m1 i1 who x G Ye _ (fun w1 m1 i1=>Fg m1 hb i1 who sl Pm (by omega) Cf Qp hW.v (decide_eq_true hw') hc hst))).mono ?_
    . rintro s' a' ⟨_,rfl⟩
      rw[<- hdn];rfl
    . rintro e w' ⟨rfl,s',cs',a',m',o',i',sm,rfl,rfl⟩
      rw[Ue hw'] at m'
      exact⟨rfl,_,cs',_,m',hT.lays hσ who (by omega) _,i',⟨rfl,Qu,VA,Si,Qp,P5,XI,⟨rfl,rfl,rfl,rfl⟩⟩,sm,o',⟨_,rfl⟩,fun h=>by cases h⟩
  . have hw':s.wd (Zv a.se+1+W.ix.toNat)≠a.ce:=by rw[Ri];exact hw
    simp only[YX,hw,if_false] at hq
    obtain⟨rfl,rfl⟩:=Prod.mk.inj hq
    refine(YO h hi who hk hG hlen hh hx (by rw[Ye];show ¬ (6:Int)=7;decide) _ d ?_ (fun w1 m1 i1=>P7 m1 i1 who x G Ye _ (fun w1 m1 i1=>Ci m1 hb i1 who sl Pm (by omega) Cf Qp hW.v (decide_eq_false hw')))).mono ?_
    . rintro s' a' ⟨_,rfl⟩
      rw[<- hdn];rfl
    . rintro e w' ⟨rfl,s',cs',a',m',o',i',sm,rfl,rfl⟩
      rw[Vu hw'] at m'
      exact⟨rfl,_,cs',_,m',hT.same hσ who _,i',⟨rfl,Qu,VA,Si,Qp,P5,XI,trivial⟩,sm,o',⟨_,rfl⟩,fun h=>by cases h⟩
end
end Go.Proofs.YtpbghmeikcphnabGreat
