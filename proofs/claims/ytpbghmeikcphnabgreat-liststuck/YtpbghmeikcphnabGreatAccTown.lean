import Derived.Test.YtpbghmeikcphnabGreatAccGo
import Derived.Test.YtpbghmeikcphnabGreatAccTurn
namespace Go.Proofs.YtpbghmeikcphnabGreat
open Go.RowKit
structure Wt.ok (W:Wt):Prop where
 k:W.kd=1\/W.kd=2\/W.kd=3
 v:Fit W.vl
def Ac.sec:Ac->CV->Prop
 | .see,_=>True
 | .ask v t,a=>a.se=v/\a.at_=t
 | .load v Z,a=>a.se=v/\a.sz=Z
 | .check v c ld,a=>a.se=v/\a.ce=c/\a.ld=ld
 | .stop v,a=>a.se=v
 | .lay v c,a=>a.se=v/\a.ce=c
 | .over E val st,a=>a.E=E/\a.H=0/\a.V=val/\a.St=st
structure EJ (W:Wt) (own:Bool) (α:Ac) (a:CV):Prop where
 nx:a.nx=α.nx
 kd:a.kd=W.kd
 nu:a.nu=W.nu
 ix:a.ix=W.ix
 vl:a.vl=W.vl
 ol:a.ol=W.ol
 ow:a.own=own
 sec:α.sec a
theorem yw (W:Wt) (own:Bool):EJ W own .see (vV W.kd W.nu W.ix W.vl W.ol own):=⟨rfl,rfl,rfl,rfl,rfl,rfl,rfl,trivial⟩
structure uM (w:World) (L:Loc) (s:Mm) (b o:Nat) (T:TypeId) (cs:Array Value) (t n k m σ:Nat) (W:Wt) (own:Bool) (x:Nat) (who:Int) (α:Ac) (q':Q) (α':Ac) (w':World) (s':Mm) (cs':Array Value) (a':CV):Prop where
 mm:Z8 w' L s'
 tw:YT t n k m s' (σ+1) q'
 ac:ZM w' b o T cs' a'
 is:EJ W own α' a'
 same:Same o 24 cs cs'
 only:Only (L.and b) w w'
 st:∃ v,s'=(s.by who).step (α.at t x W) v
 rd:α.reads=true->s'=(s.by who).step (α.at t x W) (s.wd (α.at t x W))
theorem KW (u:Int) (h:Wd u):CellIs u (Qc u) (yu u) (KU u):=⟨h.1,h.2,rfl,rfl,rfl⟩
section
variable {w:World} {L:Loc} {s:Mm} {b o:Nat} {T:TypeId} {cs:Array Value} {a:CV} {t n k m σ:Nat} {g p r:Int} {q:Q} {W:Wt} {own:Bool}
set_option maxHeartbeats 1000000 in
theorem NM (h:Z8 w L s) (hb:¬ L.has b) (hT:YT t n k m s σ q) (hG:Good t n k m g p r) (hσ:σ<1000000) (hdw:∀ a,Wd (q.dw a)) {x G:Nat} (hh:Y0 W.nu x G) (hx:x<n) (hW:W.ok) (α:Ac) (hi:ZM w b o T cs a) (his:EJ W own α a) (hg:α.good t n k m W x G q) (ho:α.ZO=false) (who:Int) (q':Q) (α':Ac) (hq:YW W own x G σ q α=(q',α')) (d:Bool) (hd:α'.ZO=d) :
 Calls Tryz.prog 173 #[pP b o,eV t n k m g p r L.p who] w fun e w'=>e=.returned (.bool d)/\∃ s' cs' a',uM w L s b o T cs t n k m σ W own x who α q' α' w' s' cs' a':=by
 have hlen:ZH t n k m<=s.n:=by rw[hT.len];exact Nat.le_refl _
 have hlen':=hT.len
 have hxs:6+t+x * 2<s.n:=by omega
 have hst:wrap64 (s.steps+1)=((σ+1:Nat):Int):=by rw[hT.pile.st];exact hT.pile.Wq hσ
 obtain⟨Yb,Qg,Vj,RF,Qb,PN,XE,QT⟩:=his
 rw[<- Vj] at hh
 have hk:a.kd=1\/a.kd=2\/a.kd=3:=by rw[Qg];exact hW.k
 have hdn:=Ac.TL α'
 rw[hd] at hdn
 have hoth:∀ c,a.SK (Qc c)=W.other c:=fun c=>by unfold CV.SK Wt.other;rw[Qg,PN]
 have pW:∀ c,(decide (a.kd=1) || a.SK (Qc c))=W.reads c:=fun c=>by rw[hoth,Qg];rfl
 cases α with
 | over=>cases ho
 | see =>
  obtain⟨v,hv⟩:∃ v,q.sw x=v:=⟨_,rfl⟩
  have hwv:s.wd (6+t+x * 2)=v:=by rw[hT.PM x hx];exact hv
  have wv:Wd v:=by rw[<- hv];exact hT.EX x hx
  have sl:=WV v wv
  simp only[YW,hv] at hq
  simp only[Ac.good,hv] at hg
  by_cases hl:(Y1 (v % 8) && decide (Zp v=G))=true
  . rw[if_pos hl] at hq
    obtain⟨rfl,rfl⟩:=Prod.mk.inj hq
    rw[Bool.and_eq_true] at hl
    obtain⟨i,O⟩:=hg hl.1 (of_decide_eq_true hl.2)
    have hl':(Y1 (v % 8) && ((Zp v:Int) == (G:Int)))=true:=by
     rw[hl.1,of_decide_eq_true hl.2];simp
    refine(YN h hi who hk hG hlen hh hx (by rw[Yb];decide) _ d ?_ (fun w1 m1 i1=>PR m1 i1 who x G Yb _ (fun w1 m1 i1=>EN m1 hb i1 who hG hx hxs hwv sl hl' hst (ci:=Za t n k m (Zw v)) rfl (by rw[O.c1];omega)))).mono ?_
    . rintro s' a' ⟨_,rfl⟩
      rw[<- hdn];rfl
    . rintro e w' ⟨rfl,s',cs',a',m',o',i',sm,rfl,rfl⟩
      exact⟨rfl,_,cs',_,m',hT.same hσ who _,i',⟨rfl,Qg,Vj,RF,Qb,PN,XE,⟨rfl,rfl⟩⟩,sm,o',⟨_,rfl⟩,fun _=>rfl⟩
  . rw[if_neg hl] at hq
    obtain⟨rfl,rfl⟩:=Prod.mk.inj hq
    have hl':(Y1 (v % 8) && ((Zp v:Int) == (G:Int)))=false:=by
     rw[Bool.not_eq_true] at hl
     rw[<- hl]
     congr 1
     rw[Bool.eq_iff_iff]
     simp only[beq_iff_eq,decide_eq_true_eq]
     omega
    refine(YN h hi who hk hG hlen hh hx (by rw[Yb];decide) _ d ?_ (fun w1 m1 i1=>PR m1 i1 who x G Yb _ (fun w1 m1 i1=>BC m1 hb i1 who hG hx hxs hwv sl hl' hst))).mono ?_
    . rintro s' a' ⟨_,rfl⟩
      rw[<- hdn];rfl
    . rintro e w' ⟨rfl,s',cs',a',m',o',i',sm,rfl,rfl⟩
      exact⟨rfl,_,cs',_,m',hT.same hσ who _,i',⟨rfl,Qg,Vj,RF,Qb,PN,XE,⟨rfl,rfl,rfl,rfl⟩⟩,sm,o',⟨_,rfl⟩,fun _=>rfl⟩
 | ask v t0 =>
  obtain⟨i,O⟩:=hg
  obtain⟨rfl,lI⟩:=QT
  have sl:=WV a.se O.wd
  have hin:=O.BO
  have QS:s.wd (Zw a.se)=q.dw (Zw a.se):=hT.Ie _ hin.1
  have hd1:=EI _ (hdw (Zw a.se))
  have hq':(q,NL W own σ a.se (q.dw (Zw a.se)) t0)=(q',α'):=hq
  obtain⟨rfl,hα⟩:=Prod.mk.inj hq'
  have hnA:Zw a.se<s.n:=by omega
  by_cases hw:(WU (q.dw (Zw a.se)) == own)=true
  . have hwo:(WU (q.dw (Zw a.se)) == a.own)=true:=by rw[XE];exact hw
    simp only[NL,hw,if_true] at hα
    by_cases hix:0<=W.ix/\W.ix<Uf (q.dw (Zw a.se))
    . rw[if_pos hix] at hα
      subst hα
      have hm:=O1 a.se
      refine(YN h hi who hk hG hlen hh hx (by rw[Yb];show ¬ (1:Int)=7;decide) _ d ?_ (fun w1 m1 i1=>SA m1 i1 who x G Yb _ (fun w1 m1 i1=>BA m1 hb i1 who sl hnA QS hd1 hwo (fun w2 c2 i2=>EK (Z:=(Uf (q.dw (Zw a.se)):Int)) i2 _ rfl hG (by show 0<=a.ix;rw[RF];exact hix.1) (by show a.ix<_;rw[RF];exact hix.2) (by omega) (by omega) (by have:=O.z2;omega) O.c1 O.c2)))).mono ?_
      . rintro s' a' ⟨_,rfl⟩
        rw[<- hdn];rfl
      . rintro e w' ⟨rfl,s',cs',a',m',o',i',sm,rfl,rfl⟩
        exact⟨rfl,_,cs',_,m',hT.same hσ who _,i',⟨rfl,Qg,Vj,RF,Qb,PN,XE,⟨rfl,rfl⟩⟩,sm,o',⟨_,rfl⟩,fun _=>rfl⟩
    . rw[if_neg hix] at hα
      subst hα
      have key:∀ (w2:World) (c2:Array Value),ZM w2 b o T c2 { a with sz:=(Uf (q.dw (Zw a.se)):Int) }->Calls Tryz.prog 184 #[pP b o,.agg #[iV t,iV n,iV k,iV m,iV g,iV p,iV r],iV (Zw a.se)] w2 fun e w'=>e=.returned (.bool false)/\Below w2.heap.size w2 w':=fun w2 c2 i2=>by
       by_cases h0:W.ix<0
       . exact EL i2 _ (by show a.ix<0;rw[RF];exact h0)
       . exact Ih (Z:=(Uf (q.dw (Zw a.se)):Int)) i2 _ rfl (by show 0<=a.ix;rw[RF];omega) (by show _<=a.ix;rw[RF];omega)
      refine(YN h hi who hk hG hlen hh hx (by rw[Yb];show ¬ (1:Int)=7;decide) _ d ?_ (fun w1 m1 i1=>SA m1 i1 who x G Yb _ (fun w1 m1 i1=>Ll m1 hb i1 who sl hnA QS hd1 hwo key))).mono ?_
      . rintro s' a' ⟨_,rfl⟩
        rw[<- hdn];rfl
      . rintro e w' ⟨rfl,s',cs',a',m',o',i',sm,rfl,rfl⟩
        exact⟨rfl,_,cs',_,m',hT.same hσ who _,i',⟨rfl,Qg,Vj,RF,Qb,PN,XE,⟨rfl,rfl,rfl,lI⟩⟩,sm,o',⟨_,rfl⟩,fun _=>rfl⟩
  . have hw':(WU (q.dw (Zw a.se)) == own)=false:=by simpa using hw
    have hwo:(WU (q.dw (Zw a.se)) == a.own)=false:=by rw[XE];exact hw'
    simp only[NL,hw'] at hα
    subst hα
    refine(YN h hi who hk hG hlen hh hx (by rw[Yb];show ¬ (1:Int)=7;decide) _ d ?_ (fun w1 m1 i1=>SA m1 i1 who x G Yb _ (fun w1 m1 i1=>BB m1 hb i1 who sl hnA QS hd1 hwo hst))).mono ?_
    . rintro s' a' ⟨_,rfl⟩
      rw[<- hdn];rfl
    . rintro e w' ⟨rfl,s',cs',a',m',o',i',sm,rfl,rfl⟩
      exact⟨rfl,_,cs',_,m',hT.same hσ who _,i',⟨rfl,Qg,Vj,RF,Qb,PN,XE,⟨rfl,rfl,rfl,rfl⟩⟩,sm,o',⟨_,rfl⟩,fun _=>rfl⟩
 | load v Z =>
  obtain⟨⟨i,O⟩,h0,h1,h4'⟩:=hg
  obtain⟨rfl,QR⟩:=QT
  have sl:=WV a.se O.wd
  have hin:=O.BO
  have z2:=O.z2
  have O0:a.ix=(W.ix.toNat:Int):=by rw[RF];omega
  have hjz:W.ix.toNat<Z:=by omega
  have Bv:Zw a.se+1+W.ix.toNat<s.n:=by omega
  have QS:s.wd (Zw a.se+1+W.ix.toNat)=q.dw (W.at a.se):=hT.Ie _ (by omega)
  have hc:=KW _ (hdw (W.at a.se))
  have hq':(q,Su W σ a.se (q.dw (W.at a.se)))=(q',α'):=hq
  obtain⟨rfl,hα⟩:=Prod.mk.inj hq'
  obtain⟨c,hcc⟩:∃ c,q.dw (W.at a.se)=c:=⟨_,rfl⟩
  have hrc:=pW c
  rw[hcc] at QS hc hα
  have fin:∀ {N:Int},α'.nx=N->EJ W own α' { a with ce:=c,ld:=((σ+1:Nat):Int),nx:=N }->(∀ w1:World,Z8 w1 L s->ZM w1 b o T cs a->Calls Tryz.prog 180 #[pP b o,eV t n k m g p r L.p who,.agg #[iV x,iV G]] w1 fun e w'=>e=.returned (.tuple #[])/\Yp L b o T cs w1 w' (fun s' a'=>s'=(s.by who).step (Zw a.se+1+W.ix.toNat) (s.wd (Zw a.se+1+W.ix.toNat))/\a'={ a with ce:=c,ld:=((σ+1:Nat):Int),nx:=N })) ->
   Calls Tryz.prog 173 #[pP b o,eV t n k m g p r L.p who] w fun e w'=>e=.returned (.bool d)/\∃ s' cs' a',uM w L s b o T cs t n k m σ W own x who (.load a.se Z) q α' w' s' cs' a':=by
   intro N hN hIs hcall
   refine(YN h hi who hk hG hlen hh hx (by rw[Yb];show ¬ (2:Int)=7;decide) _ d ?_ (fun w1 m1 i1=>Lj m1 i1 who x G Yb _ hcall)).mono ?_
   . rintro s' a' ⟨_,rfl⟩
     rw[<- hdn,hN]
   . rintro e w' ⟨rfl,s',cs',a',m',o',i',sm,rfl,rfl⟩
     exact⟨rfl,_,cs',_,m',hT.same hσ who _,i',hIs,sm,o',⟨_,rfl⟩,fun _=>rfl⟩
  cases hr:W.reads c with
  | true =>
   rw[hr] at hrc
   simp only[Su,hr,if_true] at hα
   subst hα
   exact fin rfl ⟨rfl,Qg,Vj,RF,Qb,PN,XE,⟨rfl,rfl,rfl⟩⟩ fun w1 m1 i1=>NP m1 hb i1 who sl O0 (by omega) Bv QS hc hst hrc
  | false =>
   have h4:a.se % 8≠4:=h4'.resolve_right (by rw[hcc,hr];decide)
   rw[hr] at hrc
   simp only[Su,hr,Bool.false_eq_true,if_false] at hα
   cases hf:yu c with
   | false =>
    simp only[hf,Bool.false_and,Bool.false_eq_true,if_false] at hα
    subst hα
    exact fin rfl ⟨rfl,Qg,Vj,RF,Qb,PN,XE,⟨rfl,rfl⟩⟩ fun w1 m1 i1=>KX m1 hb i1 who sl O0 (by omega) Bv QS hc hst hrc h4 hf
   | true =>
    simp only[hf,Bool.true_and] at hα
    by_cases hv:KU c=(YQ a.se:Int)
    . by_cases h2:a.se % 8=2
      . simp only[hv,h2,decide_true,Bool.and_self,if_true] at hα
        subst hα
        exact fin rfl ⟨rfl,Qg,Vj,RF,Qb,PN,XE,rfl⟩ fun w1 m1 i1=>La m1 hb i1 who sl O0 (by omega) Bv QS hc hst hrc h2 hf hv
      . simp only[hv,h2,decide_true,decide_false,Bool.and_false,Bool.false_eq_true,if_false,Int.le_refl,if_true] at hα
        subst hα
        exact fin rfl ⟨rfl,Qg,Vj,RF,Qb,PN,XE,trivial⟩ fun w1 m1 i1=>KZ m1 hb i1 who sl O0 (by omega) Bv QS hc hst hrc h4 h2 hf hv
    . by_cases hge:(YQ a.se:Int)<=KU c
      . simp only[hv,hge,decide_true,decide_false,Bool.false_and,Bool.false_eq_true,if_false,if_true] at hα
        subst hα
        exact fin rfl ⟨rfl,Qg,Vj,RF,Qb,PN,XE,trivial⟩ fun w1 m1 i1=>KY m1 hb i1 who sl O0 (by omega) Bv QS hc hst hrc h4 hf hv hge
      . simp only[hv,hge,decide_false,Bool.false_and,Bool.false_eq_true,if_false] at hα
        subst hα
        exact fin rfl ⟨rfl,Qg,Vj,RF,Qb,PN,XE,⟨rfl,rfl⟩⟩ fun w1 m1 i1=>Ig m1 hb i1 who sl O0 (by omega) Bv QS hc hst hrc h4 hf hv hge
 | check v c ld =>
  obtain⟨wv,wc⟩:=hg
  obtain⟨rfl,rfl,mP⟩:=QT
  obtain⟨u,hu⟩:∃ u,q.sw x=u:=⟨_,rfl⟩
  have QS:s.wd (6+t+x * 2)=u:=by rw[hT.PM x hx];exact hu
  have wu:Wd u:=by rw[<- hu];exact hT.EX x hx
  have sl:=WV u wu
  have sl0:=WV a.se wv
  have hc:=KW a.ce wc
  have hq':(q,UM W G σ a.se a.ce u ld)=(q',α'):=by rw[<- hq,<- hu];rfl
  obtain⟨rfl,hα⟩:=Prod.mk.inj hq'
  by_cases hl:(Y1 (u % 8) && decide (Zp u=G))=true
  . have hl0:=hl
    rw[Bool.and_eq_true] at hl0
    have hl':(Y1 (u % 8) && ((Zp u:Int) == (G:Int)))=true:=by
     rw[hl0.1,of_decide_eq_true hl0.2];simp
    simp only[UM,hl,if_true] at hα
    by_cases hA:Zw u=Zw a.se
    . rw[if_pos hA] at hα
      cases hot:W.other a.ce with
      | true =>
       rw[hot,if_pos rfl] at hα
       subst hα
       refine(YN h hi who hk hG hlen hh hx (by rw[Yb];show ¬ (3:Int)=7;decide) _ d ?_ (fun w1 m1 i1=>Wu m1 i1 who x G Yb _ (fun w1 m1 i1=>O4 m1 hb i1 who hG hx hxs QS sl hl' hc sl0 (by rw[hA]) (by rw[hoth];exact hot)))).mono ?_
       . rintro s' a' ⟨_,rfl⟩
         rw[<- hdn];rfl
       . rintro e w' ⟨rfl,s',cs',a',m',o',i',sm,rfl,rfl⟩
         exact⟨rfl,_,cs',_,m',hT.same hσ who _,i',⟨rfl,Qg,Vj,RF,Qb,PN,XE,⟨rfl,rfl,rfl,mP⟩⟩,sm,o',⟨_,rfl⟩,fun _=>rfl⟩
      | false =>
       rw[hot,if_neg (by decide)] at hα
       subst hα
       refine(YN h hi who hk hG hlen hh hx (by rw[Yb];show ¬ (3:Int)=7;decide) _ d ?_ (fun w1 m1 i1=>Wu m1 i1 who x G Yb _ (fun w1 m1 i1=>Ik m1 hb i1 who hG hx hxs QS sl hl' hc sl0 (by rw[hA]) (by rw[hoth];exact hot)))).mono ?_
       . rintro s' a' ⟨_,rfl⟩
         rw[<- hdn];rfl
       . rintro e w' ⟨rfl,s',cs',a',m',o',i',sm,rfl,rfl⟩
         exact⟨rfl,_,cs',_,m',hT.same hσ who _,i',⟨rfl,Qg,Vj,RF,Qb,PN,XE,⟨rfl,rfl,rfl,mP⟩⟩,sm,o',⟨_,rfl⟩,fun _=>rfl⟩
    . rw[if_neg hA] at hα
      subst hα
      refine(YN h hi who hk hG hlen hh hx (by rw[Yb];show ¬ (3:Int)=7;decide) _ d ?_ (fun w1 m1 i1=>Wu m1 i1 who x G Yb _ (fun w1 m1 i1=>NR m1 hb i1 who hG hx hxs QS sl hl' hc sl0 (by omega)))).mono ?_
      . rintro s' a' ⟨_,rfl⟩
        rw[<- hdn];rfl
      . rintro e w' ⟨rfl,s',cs',a',m',o',i',sm,rfl,rfl⟩
        exact⟨rfl,_,cs',_,m',hT.same hσ who _,i',⟨rfl,Qg,Vj,RF,Qb,PN,XE,trivial⟩,sm,o',⟨_,rfl⟩,fun _=>rfl⟩
  . have hl':(Y1 (u % 8) && ((Zp u:Int) == (G:Int)))=false:=by
     rw[Bool.not_eq_true] at hl
     rw[<- hl]
     congr 1
     rw[Bool.eq_iff_iff]
     simp only[beq_iff_eq,decide_eq_true_eq]
     omega
    simp only[UM] at hα
    rw[if_neg hl] at hα
    subst hα
    refine(YN h hi who hk hG hlen hh hx (by rw[Yb];show ¬ (3:Int)=7;decide) _ d ?_ (fun w1 m1 i1=>Wu m1 i1 who x G Yb _ (fun w1 m1 i1=>NS m1 hb i1 who hG hx hxs QS sl hl' hc hst))).mono ?_
    . rintro s' a' ⟨_,rfl⟩
      rw[<- hdn];rfl
    . rintro e w' ⟨rfl,s',cs',a',m',o',i',sm,rfl,rfl⟩
      exact⟨rfl,_,cs',_,m',hT.same hσ who _,i',⟨rfl,Qg,Vj,RF,Qb,PN,XE,⟨rfl,rfl,rfl,rfl⟩⟩,sm,o',⟨_,rfl⟩,fun _=>rfl⟩
 | stop v =>
  have wv:Wd v:=hg
  obtain rfl:a.se=v:=QT
  have sl:=WV a.se wv
  have hq':((if q.sw x=a.se then { q with sw:=upd q.sw x (EH a.se) } else q),Ac.see)=(q',α'):=hq
  obtain⟨hqq,rfl⟩:=Prod.mk.inj hq'
  refine(YN h hi who hk hG hlen hh hx (by rw[Yb];show ¬ (5:Int)=7;decide) _ d ?_ (fun w1 m1 i1=>Le m1 i1 who x G Yb _ (fun w1 m1 i1=>Ij m1 hb i1 who hG hx hxs sl))).mono ?_
  . rintro s' a' ⟨_,rfl⟩
    rw[<- hdn];rfl
  . rintro e w' ⟨rfl,s',cs',a',m',o',i',sm,rfl,rfl⟩
    by_cases hw:q.sw x=a.se
    . have hw':s.wd (6+t+x * 2)=a.se:=by rw[hT.PM x hx];exact hw
      rw[if_pos hw] at hqq
      subst hqq
      rw[TK hw'] at m'
      exact⟨rfl,_,cs',_,m',hT.shows hσ who hx _ (NK _).1 (NK _).2,i',⟨rfl,Qg,Vj,RF,Qb,PN,XE,trivial⟩,sm,o',⟨_,rfl⟩,fun h=>by cases h⟩
    . have hw':s.wd (6+t+x * 2)≠a.se:=by rw[hT.PM x hx];exact hw
      rw[if_neg hw] at hqq
      subst hqq
      rw[Ve hw'] at m'
      exact⟨rfl,_,cs',_,m',hT.same hσ who _,i',⟨rfl,Qg,Vj,RF,Qb,PN,XE,trivial⟩,sm,o',⟨_,rfl⟩,fun h=>by cases h⟩
 | lay v c =>
  obtain⟨⟨Z,i,O,h1⟩,h0,wc⟩:=hg
  obtain⟨rfl,rfl⟩:=QT
  have sl:=WV a.se O.wd
  have hc:=KW a.ce wc
  have hin:=O.BO
  have z2:=O.z2
  have O0:a.ix=(W.ix.toNat:Int):=by rw[RF];omega
  have Bv:Zw a.se+1+W.ix.toNat<s.n:=by omega
  have QS:s.wd (Zw a.se+1+W.ix.toNat)=q.dw (W.at a.se):=hT.Ie _ (by omega)
  by_cases hw:q.dw (W.at a.se)=a.ce
  . have hw':s.wd (Zw a.se+1+W.ix.toNat)=a.ce:=QS.trans hw
    simp only[YW,hw,if_true] at hq
    obtain⟨rfl,rfl⟩:=Prod.mk.inj hq
    refine(YN h hi who hk hG hlen hh hx (by rw[Yb];show ¬ (6:Int)=7;decide) _ d ?_ (fun w1 m1 i1=>PQ m1 i1 who x G Yb _ (fun w1 m1 i1=>EM m1 hb i1 who sl O0 (by omega) Bv Qb hW.v (decide_eq_true hw') hc hst))).mono ?_
    . rintro s' a' ⟨_,rfl⟩
      rw[<- hdn];rfl
    . rintro e w' ⟨rfl,s',cs',a',m',o',i',sm,rfl,rfl⟩
      rw[TK hw'] at m'
      exact⟨rfl,_,cs',_,m',hT.lays hσ who (by omega) _,i',⟨rfl,Qg,Vj,RF,Qb,PN,XE,⟨rfl,rfl,rfl,rfl⟩⟩,sm,o',⟨_,rfl⟩,fun h=>by cases h⟩
  . have hw':s.wd (Zw a.se+1+W.ix.toNat)≠a.ce:=by rw[QS];exact hw
    simp only[YW,hw,if_false] at hq
    obtain⟨rfl,rfl⟩:=Prod.mk.inj hq
    refine(YN h hi who hk hG hlen hh hx (by rw[Yb];show ¬ (6:Int)=7;decide) _ d ?_ (fun w1 m1 i1=>PQ m1 i1 who x G Yb _ (fun w1 m1 i1=>Bz m1 hb i1 who sl O0 (by omega) Bv Qb hW.v (decide_eq_false hw')))).mono ?_
    . rintro s' a' ⟨_,rfl⟩
      rw[<- hdn];rfl
    . rintro e w' ⟨rfl,s',cs',a',m',o',i',sm,rfl,rfl⟩
      rw[Ve hw'] at m'
      exact⟨rfl,_,cs',_,m',hT.same hσ who _,i',⟨rfl,Qg,Vj,RF,Qb,PN,XE,trivial⟩,sm,o',⟨_,rfl⟩,fun h=>by cases h⟩
end
end Go.Proofs.YtpbghmeikcphnabGreat
