import Derived.Test.YtpbghmeikcphnaaGreatPlaceAsk
import Derived.Test.YtpbghmeikcphnaaGreatPlaceSee
import Derived.Test.YtpbghmeikcphnaaGreatPlaceGrow
import Derived.Test.YtpbghmeikcphnaaGreatPlaceTake
import Derived.Test.YtpbghmeikcphnaaGreatStruct
import Derived.Test.YtpbghmeikcphnaaGreatLayRef
namespace Go.Proofs.YtpbghmeikcphnaaGreat
open Go.RowKit
section
set_option maxRecDepth 20000
theorem Zd {w:World} {L:Loc} {s:Mm} {b o:Nat} {T:TypeId} {cs:Array Value} {z sn ch ws sa sb nx' nY ch' ws' sa' sb':Int} {s':Mm} {κ:Nat} (h:Z5 w L s) (hi:At w b o T cs (Yn z κ sn ch ws sa sb)) (c0 c1 c2 c3 c4 c5 c6 who:Int) (hmay:may c0 c1 c2 c3 c4 c5 c6=true) (hκ:κ<4) {f:Nat} (hf:(z=0/\f=137)\/(z=1/\f=138)\/(z=2/\f=139)\/(z=3/\f=140)\/(z=4/\f=141)\/(z=5/\f=142)\/(z=6/\f=143)) (d:Bool) (hd:decide (7<=nx')=d)
 (hc:∀ w1:World,Z5 w1 L s->At w1 b o T cs (Yn z κ sn ch ws sa sb)->Calls Tryz.prog f #[pP b o,eV c0 c1 c2 c3 c4 c5 c6 L.p who] w1 fun e w'=>e=.returned (.tuple #[])/\Z5 w' L s'/\Only (L.and b) w1 w'/\∃ cs',At w' b o T cs' (Yn nx' κ nY ch' ws' sa' sb')/\Same o 7 cs cs') :
 Calls Tryz.prog 125 #[pP b o,eV c0 c1 c2 c3 c4 c5 c6 L.p who] w fun e w'=>e=.returned (.bool d)/\Z5 w' L s'/\Only (L.and b) w w'/\∃ cs',At w' b o T cs' (Yn nx' κ nY ch' ws' sa' sb')/\Same o 7 cs cs':=by
 have hq:((room κ:Int) == 0)=false:=by have:=Xu κ;simp;omega
 have cy:=fun w=>QA c0 c1 c2 c3 c4 c5 c6 w
 rw[hmay] at cy
 have i1:=hi.grown (Z4 (Below.refl _ _) (.cells #[iV c0,iV c1,iV c2,iV c3,iV c4,iV c5,iV c6,pP L.p 0,iV who] 27))
 have m1:=h.alloc (.cells #[iV c0,iV c1,iV c2,iV c3,iV c4,iV c5,iV c6,pP L.p 0,iV who] 27)
 have v1:ZP (w.alloc (.cells #[iV c0,iV c1,iV c2,iV c3,iV c4,iV c5,iV c6,pP L.p 0,iV who] 27)) w.heap.size c0 c1 c2 c3 c4 c5 c6 L.p who:=ZP.new
 have o1:Only (L.and b) w (w.alloc (.cells #[iV c0,iV c1,iV c2,iV c3,iV c4,iV c5,iV c6,pP L.p 0,iV who] 27)):=(Only.refl _ _).alloc _
 have k0:=i1.cell0 rfl
 have k1:=i1.cell 1 rfl
 rcases hf with⟨rfl,rfl⟩ | ⟨rfl,rfl⟩ | ⟨rfl,rfl⟩ | ⟨rfl,rfl⟩ | ⟨rfl,rfl⟩ | ⟨rfl,rfl⟩ | ⟨rfl,rfl⟩
 all_goals
  go_enter Tryz.func125,Tryz.ntmps125
  go_wp2_with (first
   | (go_at_call 129;refine(UT κ hκ _).mono ?_;rintro e w2 ⟨rfl,rfl⟩)
   | (go_at_call 52;refine(cy _).mono ?_;rintro e w3 ⟨rfl,b3⟩;have i3:=i1.grown b3;have m3:=m1.below b3;have v3:=v1.grown b3;obtain⟨z0,z1,z2,z3,z4,z5,z6,z7,z8⟩:=id v3;have q0:=i3.cell0 rfl)
   | (go_at_call 137;refine(hc _ m3 i3).mono ?_;rintro e w4 ⟨rfl,m4,o4,uT,i4,s4⟩;have r0:=i4.cell0 rfl) | (go_at_call 138;refine(hc _ m3 i3).mono ?_;rintro e w4 ⟨rfl,m4,o4,uT,i4,s4⟩;have r0:=i4.cell0 rfl) | (go_at_call 139;refine(hc _ m3 i3).mono ?_;rintro e w4 ⟨rfl,m4,o4,uT,i4,s4⟩;have r0:=i4.cell0 rfl) | (go_at_call 140;refine(hc _ m3 i3).mono ?_;rintro e w4 ⟨rfl,m4,o4,uT,i4,s4⟩;have r0:=i4.cell0 rfl) | (go_at_call 141;refine(hc _ m3 i3).mono ?_;rintro e w4 ⟨rfl,m4,o4,uT,i4,s4⟩;have r0:=i4.cell0 rfl) | (go_at_call 142;refine(hc _ m3 i3).mono ?_;rintro e w4 ⟨rfl,m4,o4,uT,i4,s4⟩;have r0:=i4.cell0 rfl) | (go_at_call 143;refine(hc _ m3 i3).mono ?_;rintro e w4 ⟨rfl,m4,o4,uT,i4,s4⟩;have r0:=i4.cell0 rfl))
  go_ret
  exact⟨rfl,m4,(o1.trans (Only.ZZ b3)).trans o4,uT,i4,s4⟩
end
section
def Pl.cells (κ:Nat):Pl->List Value->Prop
 | .see,l=>∃ sn ch ws sa sb,l=Yn 0 κ sn ch ws sa sb
 | .ask i,l=>∃ ws sa sb,l=Yn 1 κ ((i:Int)+1) i ws sa sb
 | .grow i c,l=>∃ sn sa sb,l=Yn 2 κ sn i c.w sa sb
 | .look sn i,l=>∃ ws sa sb,l=Yn 3 κ sn i ws sa sb
 | .take sn i c,l=>∃ sa sb,l=Yn 4 κ sn i c.w sa sb
 | .opn sn i c,l=>∃ sa sb,l=Yn 5 κ sn i c.w sa sb
 | .V4 sn i c,l=>∃ sa sb,l=Yn 6 κ sn i c.w sa sb
 | .Yx a i,l=>∃ sn ch ws,l=Yn 7 κ sn ch ws a i
 | .none,l=>∃ sn ch ws sa sb,l=Yn 8 κ sn ch ws sa sb
def Ci (w:World) (b o:Nat) (T:TypeId) (c:Array Value) (κ:Nat) (τ:Pl):Prop:=∃ l,At w b o T c l/\τ.cells κ l
def base (t n k m i:Nat):Nat:=6+t+n * 2+k * 3+i * m
structure Cb (w:World) (L:Loc) (s:Mm) (b o:Nat) (T:TypeId) (cs:Array Value) (t n k m σ κ:Nat) (who:Int) (y:Y) (τ:Pl) (w':World) (s':Mm) (cs':Array Value) (y':Y) (τ':Pl):Prop where
 mm:Z5 w' L s'
 yd:Xv t n k m s' (σ+1) y'
 a:Ci w' b o T cs' κ τ'
 good:τ'.good k m κ (σ+1)
 same:Same o 7 cs cs'
 only:Only (L.and b) w w'
 kept:Kept t n k s s'
 la:s'.la=((τ.at t n κ:Nat):Int)
 st:∃ v,s'=(s.by who).step (τ.at t n κ) v
theorem Xm {w:World} {b o:Nat} {T:TypeId} {c:Array Value} {κ k sn:Nat} (i:Nat) (I:Int) (hI:I=i) {ws sa sb:Int} (h:At w b o T c (Yn (if (k:Int)<=I then 8 else 3) κ sn I ws sa sb)):Ci w b o T c κ (VG k sn i):=by
 subst hI
 unfold VG
 split
 . rw[if_neg (by omega)] at h
   exact⟨_,h,_,_,_,rfl⟩
 . rw[if_pos (by omega)] at h
   exact⟨_,h,_,_,_,_,_,rfl⟩
theorem Tq (k sn i:Nat) (I:Int) (hI:I=i):decide ((7:Int)<=(if (k:Int)<=I then 8 else 3))=(VG k sn i).over:=by
 subst hI
 unfold VG
 split
 . rw[if_neg (by omega)];rfl
 . rw[if_pos (by omega)];rfl
section
variable {w:World} {L:Loc} {s:Mm} {b o:Nat} {T:TypeId} {cs:Array Value} {t n k m σ κ:Nat} {g p r:Int} {y:Y}
theorem I7 (h:Z5 w L s) (hb:¬ L.has b) (hy:Xv t n k m s σ y) (hG:Good t n k m g p r) (hσ:σ<1000000) (hκ:κ<4) (τ:Pl) (hi:Ci w b o T cs κ τ) (hg:τ.good k m κ σ) (ho:τ.over=false) (who:Int) :
 Calls Tryz.prog 125 #[pP b o,eV t n k m g p r L.p who] w fun e w'=>∃ s' cs',e=.returned (.bool (turn k m κ (base t n k m) y τ).2.over)/\Cb w L s b o T cs t n k m σ κ who y τ w' s' cs' (turn k m κ (base t n k m) y τ).1 (turn k m κ (base t n k m) y τ).2:=by
 have hgd:=EZ (bs:=base t n k m) hκ hy.ok hy.uN hg
 have hmay:=hG.may
 have har:=hG.arena
 have hk1:=hG.k1
 have hk0:=hG.k0
 have hm1:=hG.n1
 have ht1:=hG.t1
 have hn1:=hG.s1
 have hlen:=hy.len
 have hn:2+κ<s.n:=by omega
 have hA:∀ i,i<k->6+t+n * 2+i * 3<s.n:=fun i hi=>by omega
 have EL:∀ i:Nat,(6:Int)+(t:Int)+(n:Int) * 2+(i:Int) * 3=((6+t+n * 2+i * 3:Nat):Int):=fun i=>by omega
 obtain⟨l,ha,hl⟩:=hi
 cases τ with
 | Yx a i=>cases ho
 | none=>cases ho
 | see =>
  obtain⟨sn,ch,ws,sa,sb,rfl⟩:=hl
  have hop:=hy.uM κ hκ
  have hok:=hy.uN κ hκ
  cases ho:y.op κ with
  | zero =>
   rw[ho] at hop
   have ht:turn k m κ (base t n k m) y .see=(y,VG k 0 0):=by simp[turn,ho]
   rw[ht] at hgd ⊢
   refine(Zd h ha _ _ _ _ _ _ _ _ hmay hκ (Or.inl ⟨rfl,rfl⟩) _ (Tq k 0 0 0 rfl) (fun w1 h1 a1=>Fa h1 hb a1 _ _ _ _ _ _ _ _ hκ hn _ rfl (by simpa using hop))).mono ?_
   rintro e w' ⟨rfl,m',on,cs',a',sm⟩
   exact⟨_,cs',rfl,m',hy.same hσ who _,Xm 0 0 rfl a',hgd,sm,on,YL _ _ _ _ _ _,rfl,_,rfl⟩
  | succ i =>
   rw[ho] at hop hok
   have ht:turn k m κ (base t n k m) y .see=(y,.ask i):=by simp[turn,ho]
   rw[ht] at hgd ⊢
   refine(Zd h ha _ _ _ _ _ _ _ _ hmay hκ (Or.inl ⟨rfl,rfl⟩) false (by decide) (fun w1 h1 a1=>Fb h1 hb a1 _ _ _ _ _ _ _ _ hκ hn i (by omega) (by omega) (by simpa using hop))).mono ?_
   rintro e w' ⟨rfl,m',on,cs',a',sm⟩
   exact⟨_,cs',rfl,m',hy.same hσ who _,⟨_,a',_,_,_,rfl⟩,hgd,sm,on,YL _ _ _ _ _ _,rfl,_,rfl⟩
 | ask i =>
  obtain⟨ws,sa,sb,rfl⟩:=hl
  have hik:i<k:=hg
  have hw:=hy.Aq i hik
  have hok:=hy.ok i hik
  have hnx:=Tq k (i+1) 0 0 rfl
  by_cases h1:(y.ck i).st=1
  . by_cases h2:(y.ck i).cl=κ
    . by_cases h3:(y.ck i).us+room κ<=m
      . have ht:turn k m κ (base t n k m) y (.ask i)=(y,.grow i (y.ck i)):=by simp[turn,h1,h2,h3]
        rw[ht] at hgd ⊢
        refine(Zd h ha _ _ _ _ _ _ _ _ hmay hκ (Or.inr (Or.inl ⟨rfl,rfl⟩)) false (by decide) (fun w1 q1 a1=>Tv q1 hb a1 _ _ _ _ _ _ _ _ _ har (by omega) (EL i) (hA i hik) (y.ck i) σ hok (by omega) hw hκ (Or.inl ⟨h1,h2,by omega,rfl,rfl⟩))).mono ?_
        rintro e w' ⟨rfl,m',on,cs',a',sm⟩
        exact⟨_,cs',rfl,m',hy.same hσ who _,⟨_,a',_,_,_,rfl⟩,hgd,sm,on,YL _ _ _ _ _ _,rfl,_,rfl⟩
      . have ht:turn k m κ (base t n k m) y (.ask i)=(y,VG k (i+1) 0):=by simp[turn,h1,h2,h3]
        rw[ht] at hgd ⊢
        refine(Zd h ha _ _ _ _ _ _ _ _ hmay hκ (Or.inr (Or.inl ⟨rfl,rfl⟩)) _ hnx (fun w1 q1 a1=>Tv q1 hb a1 _ _ _ _ _ _ _ _ _ har (by omega) (EL i) (hA i hik) (y.ck i) σ hok (by omega) hw hκ (Or.inr ⟨fun hh=>absurd hh.2.2 (by omega),rfl,rfl⟩))).mono ?_
        rintro e w' ⟨rfl,m',on,cs',a',sm⟩
        exact⟨_,cs',rfl,m',hy.same hσ who _,Xm 0 0 rfl a',hgd,sm,on,YL _ _ _ _ _ _,rfl,_,rfl⟩
    . have ht:turn k m κ (base t n k m) y (.ask i)=(y,VG k (i+1) 0):=by simp[turn,h1,h2]
      rw[ht] at hgd ⊢
      refine(Zd h ha _ _ _ _ _ _ _ _ hmay hκ (Or.inr (Or.inl ⟨rfl,rfl⟩)) _ hnx (fun w1 q1 a1=>Tv q1 hb a1 _ _ _ _ _ _ _ _ _ har (by omega) (EL i) (hA i hik) (y.ck i) σ hok (by omega) hw hκ (Or.inr ⟨fun hh=>h2 hh.2.1,rfl,rfl⟩))).mono ?_
      rintro e w' ⟨rfl,m',on,cs',a',sm⟩
      exact⟨_,cs',rfl,m',hy.same hσ who _,Xm 0 0 rfl a',hgd,sm,on,YL _ _ _ _ _ _,rfl,_,rfl⟩
  . have ht:turn k m κ (base t n k m) y (.ask i)=(y,VG k (i+1) 0):=by simp[turn,h1]
    rw[ht] at hgd ⊢
    refine(Zd h ha _ _ _ _ _ _ _ _ hmay hκ (Or.inr (Or.inl ⟨rfl,rfl⟩)) _ hnx (fun w1 q1 a1=>Tv q1 hb a1 _ _ _ _ _ _ _ _ _ har (by omega) (EL i) (hA i hik) (y.ck i) σ hok (by omega) hw hκ (Or.inr ⟨fun hh=>h1 hh.1,rfl,rfl⟩))).mono ?_
    rintro e w' ⟨rfl,m',on,cs',a',sm⟩
    exact⟨_,cs',rfl,m',hy.same hσ who _,Xm 0 0 rfl a',hgd,sm,on,YL _ _ _ _ _ _,rfl,_,rfl⟩
 | grow i c =>
  obtain⟨sn,sa,sb,rfl⟩:=hl
  obtain⟨hik,hc,hc1,hc2,hc3⟩:=hg
  have hw:=hy.Aq i hik
  have hok:=hy.ok i hik
  have hr:=Xu κ
  have hmul:(i:Int) * (m:Int)=((i * m:Nat):Int):=by simp
  have hmb:i * m<=64 * 256:=Nat.mul_le_mul (by omega) hm1
  by_cases he:y.ck i=c
  . have ht:turn k m κ (base t n k m) y (.grow i c)=(⟨upd y.ck i ⟨c.st,c.cl,c.us+room κ,c.sp⟩,y.op⟩,.Yx (base t n k m i+c.us) i):=by simp[turn,he]
    rw[ht] at hgd ⊢
    rw[he] at hw
    refine(Zd h ha _ _ _ _ _ _ _ _ hmay hκ (Or.inr (Or.inr (Or.inl ⟨rfl,rfl⟩))) true (by decide) (fun w1 q1 a1=>O6 q1 hb c a1 _ _ _ _ _ _ _ _ _ har (by omega) (EL i) (hA i hik) σ hc (by omega) hκ (by omega) ((i * m:Nat):Int) hmul (by omega) (by omega) (Or.inl ⟨hw,rfl,rfl⟩) (Or.inl ⟨rfl,rfl,rfl,rfl⟩))).mono ?_
    rintro e w' ⟨rfl,m',on,cs',a',sm⟩
    refine⟨_,cs',rfl,m',hy.lay hσ who hik _ ⟨hc.st,hc.cl,show c.us+room κ<=1000 by omega,Nat.le_succ_of_le hc.sp⟩,⟨_,a',sn,i,c.w,?_⟩,hgd,sm,on,Qa _ _ _ _ _ hik _,rfl,_,rfl⟩
    exact congrArg (fun x=>Yn 7 κ sn i c.w x i) (by unfold base;omega)
  . have ht:turn k m κ (base t n k m) y (.grow i c)=(y,.see):=by simp[turn,he]
    rw[ht] at hgd ⊢
    have hne:¬ s.wd (6+t+n * 2+i * 3)=c.w:=fun e=>he (Ck.inj hok hc (hw.symm.trans e))
    refine(Zd h ha _ _ _ _ _ _ _ _ hmay hκ (Or.inr (Or.inr (Or.inl ⟨rfl,rfl⟩))) false (by decide) (fun w1 q1 a1=>O6 q1 hb c a1 _ _ _ _ _ _ _ _ _ har (by omega) (EL i) (hA i hik) σ hc (by omega) hκ (by omega) ((i * m:Nat):Int) hmul (by omega) (by omega) (Or.inr ⟨hne,rfl,rfl⟩) (Or.inr ⟨rfl,rfl,rfl,rfl⟩))).mono ?_
    rintro e w' ⟨rfl,m',on,cs',a',sm⟩
    exact⟨_,cs',rfl,m',hy.same hσ who _,⟨_,a',_,_,_,_,_,rfl⟩,hgd,sm,on,YL _ _ _ _ _ _,rfl,_,rfl⟩
 | look sn i =>
  obtain⟨ws,sa,sb,rfl⟩:=hl
  obtain⟨hik,hsn⟩:=hg
  have hw:=hy.Aq i hik
  have hok:=hy.ok i hik
  by_cases h1:(y.ck i).st=0
  . have ht:turn k m κ (base t n k m) y (.look sn i)=(y,.take sn i (y.ck i)):=by simp[turn,h1]
    rw[ht] at hgd ⊢
    refine(Zd h ha _ _ _ _ _ _ _ _ hmay hκ (Or.inr (Or.inr (Or.inr (Or.inl ⟨rfl,rfl⟩)))) false (by decide) (fun w1 q1 a1=>Lj q1 hb a1 _ _ _ _ _ _ _ _ _ har (by omega) (EL i) (hA i hik) (y.ck i) σ hok (by omega) hw h1)).mono ?_
    rintro e w' ⟨rfl,m',on,cs',a',sm⟩
    exact⟨_,cs',rfl,m',hy.same hσ who _,⟨_,a',_,_,rfl⟩,hgd,sm,on,YL _ _ _ _ _ _,rfl,_,rfl⟩
  . have ht:turn k m κ (base t n k m) y (.look sn i)=(y,VG k sn (i+1)):=by simp[turn,h1]
    rw[ht] at hgd ⊢
    refine(Zd h ha _ _ _ _ _ _ _ _ hmay hκ (Or.inr (Or.inr (Or.inr (Or.inl ⟨rfl,rfl⟩)))) _ (Tq k sn (i+1) ((i:Int)+1) (by omega)) (fun w1 q1 a1=>I8 q1 hb a1 _ _ _ _ _ _ _ _ _ har (by omega) (EL i) (hA i hik) (y.ck i) σ hok (by omega) hw h1 _ rfl)).mono ?_
    rintro e w' ⟨rfl,m',on,cs',a',sm⟩
    exact⟨_,cs',rfl,m',hy.same hσ who _,Xm (i+1) _ (by omega) a',hgd,sm,on,YL _ _ _ _ _ _,rfl,_,rfl⟩
 | take sn i c =>
  obtain⟨sa,sb,rfl⟩:=hl
  obtain⟨hik,hsn,hc,hc0⟩:=hg
  have hw:=hy.Aq i hik
  have hok:=hy.ok i hik
  by_cases he:y.ck i=c
  . have ht:turn k m κ (base t n k m) y (.take sn i c)=(⟨upd y.ck i ⟨1,κ,0,c.sp+1⟩,y.op⟩,.opn sn i ⟨1,κ,0,c.sp+1⟩):=by simp[turn,he]
    rw[ht] at hgd ⊢
    rw[he] at hw
    refine(Zd h ha _ _ _ _ _ _ _ _ hmay hκ (Or.inr (Or.inr (Or.inr (Or.inr (Or.inl ⟨rfl,rfl⟩))))) false (by decide) (fun w1 q1 a1=>E8 q1 hb c a1 _ _ _ _ _ _ _ _ _ har (by omega) (EL i) (hA i hik) σ hc (by omega) hκ hw)).mono ?_
    rintro e w' ⟨rfl,m',on,cs',a',sm⟩
    exact⟨_,cs',rfl,m',hy.lay hσ who hik _ ⟨show 1<=3 by omega,show κ<=3 by omega,Nat.zero_le _,Nat.succ_le_succ hc.sp⟩,⟨_,a',_,_,rfl⟩,hgd,sm,on,Qa _ _ _ _ _ hik _,rfl,_,rfl⟩
  . have ht:turn k m κ (base t n k m) y (.take sn i c)=(y,VG k sn (i+1)):=by simp[turn,he]
    rw[ht] at hgd ⊢
    have hne:¬ s.wd (6+t+n * 2+i * 3)=c.w:=fun e=>he (Ck.inj hok hc (hw.symm.trans e))
    refine(Zd h ha _ _ _ _ _ _ _ _ hmay hκ (Or.inr (Or.inr (Or.inr (Or.inr (Or.inl ⟨rfl,rfl⟩))))) _ (Tq k sn (i+1) ((i:Int)+1) (by omega)) (fun w1 q1 a1=>Ce q1 hb c a1 _ _ _ _ _ _ _ _ _ har (by omega) (EL i) (hA i hik) σ hc (by omega) hκ hne _ rfl)).mono ?_
    rintro e w' ⟨rfl,m',on,cs',a',sm⟩
    exact⟨_,cs',rfl,m',hy.same hσ who _,Xm (i+1) _ (by omega) a',hgd,sm,on,YL _ _ _ _ _ _,rfl,_,rfl⟩
 | opn sn i c =>
  obtain⟨sa,sb,rfl⟩:=hl
  obtain⟨hik,hsn,hc,hc0⟩:=hg
  have hop:=hy.uM κ hκ
  by_cases he:y.op κ=sn
  . have ht:turn k m κ (base t n k m) y (.opn sn i c)=(⟨y.ck,upd y.op κ (i+1)⟩,.see):=by simp[turn,he]
    rw[ht] at hgd ⊢
    rw[he] at hop
    refine(Zd h ha _ _ _ _ _ _ _ _ hmay hκ (Or.inr (Or.inr (Or.inr (Or.inr (Or.inr (Or.inl ⟨rfl,rfl⟩)))))) false (by decide) (fun w1 q1 a1=>O1 q1 hb a1 _ _ _ _ _ _ _ _ hκ hn (by omega) (Or.inl ⟨hop,rfl,rfl⟩) (Or.inl ⟨rfl,rfl⟩))).mono ?_
    rintro e w' ⟨rfl,m',on,cs',a',sm⟩
    exact⟨_,cs',rfl,m',hy.opens hσ who hκ (i+1) (by omega),⟨_,a',_,_,_,_,_,rfl⟩,hgd,sm,on,I5 _ _ _ _ _ hκ _,rfl,_,rfl⟩
  . have ht:turn k m κ (base t n k m) y (.opn sn i c)=(y,.V4 sn i c):=by simp[turn,he]
    rw[ht] at hgd ⊢
    have hne:¬ s.wd (2+κ)=sn:=fun e=>he (by rw[hop] at e;omega)
    refine(Zd h ha _ _ _ _ _ _ _ _ hmay hκ (Or.inr (Or.inr (Or.inr (Or.inr (Or.inr (Or.inl ⟨rfl,rfl⟩)))))) false (by decide) (fun w1 q1 a1=>O1 q1 hb a1 _ _ _ _ _ _ _ _ hκ hn (by omega) (Or.inr ⟨hne,rfl,rfl⟩) (Or.inr ⟨rfl,rfl⟩))).mono ?_
    rintro e w' ⟨rfl,m',on,cs',a',sm⟩
    exact⟨_,cs',rfl,m',hy.same hσ who _,⟨_,a',_,_,rfl⟩,hgd,sm,on,YL _ _ _ _ _ _,rfl,_,rfl⟩
 | V4 sn i c =>
  obtain⟨sa,sb,rfl⟩:=hl
  obtain⟨hik,hsn,hc,hc0⟩:=hg
  have hw:=hy.Aq i hik
  have hok:=hy.ok i hik
  by_cases he:y.ck i=c
  . have ht:turn k m κ (base t n k m) y (.V4 sn i c)=(⟨upd y.ck i ⟨0,0,0,c.sp+1⟩,y.op⟩,.see):=by simp[turn,he]
    rw[ht] at hgd ⊢
    rw[he] at hw
    refine(Zd h ha _ _ _ _ _ _ _ _ hmay hκ (Or.inr (Or.inr (Or.inr (Or.inr (Or.inr (Or.inr ⟨rfl,rfl⟩)))))) false (by decide) (fun w1 q1 a1=>E5 q1 hb c a1 _ _ _ _ _ _ _ _ _ har (by omega) (EL i) (hA i hik) σ hc (by omega) hw)).mono ?_
    rintro e w' ⟨rfl,m',on,cs',a',sm⟩
    exact⟨_,cs',rfl,m',hy.lay hσ who hik _ ⟨Nat.zero_le _,Nat.zero_le _,Nat.zero_le _,Nat.succ_le_succ hc.sp⟩,⟨_,a',_,_,_,_,_,rfl⟩,hgd,sm,on,Qa _ _ _ _ _ hik _,rfl,_,rfl⟩
  . have ht:turn k m κ (base t n k m) y (.V4 sn i c)=(y,.see):=by simp[turn,he]
    rw[ht] at hgd ⊢
    have hne:¬ s.wd (6+t+n * 2+i * 3)=c.w:=fun e=>he (Ck.inj hok hc (hw.symm.trans e))
    refine(Zd h ha _ _ _ _ _ _ _ _ hmay hκ (Or.inr (Or.inr (Or.inr (Or.inr (Or.inr (Or.inr ⟨rfl,rfl⟩)))))) false (by decide) (fun w1 q1 a1=>Cc q1 hb c a1 _ _ _ _ _ _ _ _ _ har (by omega) (EL i) (hA i hik) σ hc (by omega) hne)).mono ?_
    rintro e w' ⟨rfl,m',on,cs',a',sm⟩
    exact⟨_,cs',rfl,m',hy.same hσ who _,⟨_,a',_,_,_,_,_,rfl⟩,hgd,sm,on,YL _ _ _ _ _ _,rfl,_,rfl⟩
theorem Ur (h:Z5 w L s) (hb:¬ L.has b) (hy:Xv t n k m s σ y) (hG:Good t n k m g p r) (hσ:σ<1000000) (hκ:κ<4) (τ:Pl) (hi:Ci w b o T cs κ τ) (hg:τ.good k m κ σ) (ho:τ.over=false) (who:Int) (y':Y) (τ':Pl) (ht:turn k m κ (base t n k m) y τ=(y',τ')) (d:Bool) (hd:τ'.over=d) :
 Calls Tryz.prog 125 #[pP b o,eV t n k m g p r L.p who] w fun e w'=>e=.returned (.bool d)/\∃ s' cs',Cb w L s b o T cs t n k m σ κ who y τ w' s' cs' y' τ':=by
 refine(I7 h hb hy hG hσ hκ τ hi hg ho who).mono ?_
 rw[ht]
 rintro e w' ⟨s',cs',rfl,P⟩
 exact⟨by rw[hd],s',cs',P⟩
end
end
section
set_option maxRecDepth 20000
theorem At.Xl (w:World) (O:Obj) (T:TypeId) (l:List Value):At ((w.alloc O).alloc (.cells l.toArray T)) (w.heap.size+1) 0 T l.toArray l:=by
 have:=At.new (w.alloc O) T l
 rwa [Go.Deep.nblk_alloc] at this
theorem At.rP (w:World) (O O':Obj) (T:TypeId) (l:List Value):At (((w.alloc O).alloc O').alloc (.cells l.toArray T)) (w.heap.size+1+1) 0 T l.toArray l:=by
 have:=At.Xl (w.alloc O) O' T l
 rwa [Go.Deep.nblk_alloc] at this
theorem ZY (w:World) (O:Obj):Below w.heap.size w (w.alloc O):=Z4 (Below.refl _ _) _
def YM (st:Int):Bool:=st == 1 || st == 2 || st == 4
theorem MS (st:Int):(st=1/\YM st=true)\/(st≠1/\st=2/\YM st=true)\/(st≠1/\st≠2/\st=4/\YM st=true)\/(st≠1/\st≠2/\st≠4/\YM st=false):=by
 by_cases h1:st=1
 . subst h1;exact Or.inl ⟨rfl,rfl⟩
 . by_cases h2:st=2
   . subst h2;exact Or.inr (Or.inl ⟨h1,rfl,rfl⟩)
   . by_cases h4:st=4
     . subst h4;exact Or.inr (Or.inr (Or.inl ⟨h1,h2,rfl,rfl⟩))
     . exact Or.inr (Or.inr (Or.inr ⟨h1,h2,h4,by simp[YM,h1,h2,h4]⟩))
theorem Ul (st A G V:Int) (w:World) :
 Calls Tryz.prog 169 #[.agg #[iV st,iV A,iV G,iV V]] w fun e w'=>e=.returned (.bool (YM st))/\Below w.heap.size w w':=by
 rcases MS st with⟨rfl,h⟩ | ⟨h1,rfl,h⟩ | ⟨h1,h2,rfl,h⟩ | ⟨h1,h2,h4,h⟩ <;> rw[h]
 . go_enter Tryz.func169,Tryz.ntmps169
   go_wp2
   go_ret
   exact⟨rfl,Z4 (Below.refl _ _) _⟩
 . clear h1
   go_enter Tryz.func169,Tryz.ntmps169
   go_wp2
   go_ret
   exact⟨rfl,Z4 (Below.refl _ _) _⟩
 . clear h1 h2
   go_enter Tryz.func169,Tryz.ntmps169
   go_wp2
   go_ret
   exact⟨rfl,Z4 (Below.refl _ _) _⟩
 . go_enter Tryz.func169,Tryz.ntmps169
   go_wp2
   go_ret
   exact⟨rfl,Z4 (Below.refl _ _) _⟩
theorem SV (st A G V x G':Int) (w:World) :
 Calls Tryz.prog 166 #[.agg #[iV st,iV A,iV G,iV V],.agg #[iV x,iV G']] w fun e w'=>e=.returned (.bool (YM st && G == G'))/\Below w.heap.size w w':=by
 obtain⟨l,hl⟩:∃ l,YM st=l:=⟨_,rfl⟩
 rw[hl]
 have H:Hid (YM st=l):=hl
 clear hl
 cases l
 . go_enter Tryz.func166,Tryz.ntmps166
   go_wp2_with (go_at_call 169;refine(Ul st A G V _).mono ?_;rintro e w1 ⟨rfl,b1⟩;rw[H.out])
   go_ret
   exact⟨rfl,grow (Z4 (Z4 (Below.refl _ _) _) _) b1⟩
 . go_enter Tryz.func166,Tryz.ntmps166
   have x0:=(At.new w 83 [iV st,iV A,iV G,iV V]).grown (ZY _ (.cells #[iV x,iV G'] 75))
   have x1:=At.Xl w (.cells #[iV st,iV A,iV G,iV V] 83) 75 [iV x,iV G']
   go_wp2_with (go_at_call 169;refine(Ul st A G V _).mono ?_;rintro e w1 ⟨rfl,b1⟩;rw[H.out];have z0:=(x0.grown b1).at0 2 rfl;have z1:=(x1.grown b1).at0 1 rfl)
   go_ret
   exact⟨rfl,grow (Z4 (Z4 (Below.refl _ _) _) _) b1⟩
theorem SH (t n k m g p r G:Int) (w:World) :
 Calls Tryz.prog 175 #[.agg #[iV t,iV n,iV k,iV m,iV g,iV p,iV r],iV G] w fun e w'=>e=.returned (.bool (decide (g<=G)))/\Below w.heap.size w w':=by
 go_enter Tryz.func175,Tryz.ntmps175
 go_wp2
 go_ret
 exact⟨rfl,Z4 (Below.refl _ _) _⟩
theorem Oz (t n k m g p r st A G V:Int) (h:g<=G) (w:World) :
 Calls Tryz.prog 176 #[.agg #[iV t,iV n,iV k,iV m,iV g,iV p,iV r],.agg #[iV st,iV A,iV G,iV V]] w fun e w'=>e=.returned (.agg #[iV 3,iV 0,iV G,iV 0])/\Below w.heap.size w w':=by
 have hd:decide (g<=G)=true:=decide_eq_true h
 have x1:=(At.Xl w (.cells #[iV t,iV n,iV k,iV m,iV g,iV p,iV r] 24) 83 [iV st,iV A,iV G,iV V]).grown (ZY _ (.cells #[iV 0,iV 0,iV 0,iV 0] 83))
 have x2:=At.rP w (.cells #[iV t,iV n,iV k,iV m,iV g,iV p,iV r] 24) (.cells #[iV st,iV A,iV G,iV V] 83) 83 [iV 0,iV 0,iV 0,iV 0]
 go_enter Tryz.func176,Tryz.ntmps176
 go_wp2_with (go_at_call 175;refine(SH _ _ _ _ _ _ _ _ _).mono ?_;rintro e w1 ⟨rfl,b1⟩;rw[hd];have z0:=(x1.grown b1).at0 2 rfl;have x3:=x2.grown b1;have q:=x3.fz;have y0:=x3.at0 0 rfl;have y1:=x3.at0 1 rfl;have y2:=x3.at0 2 rfl;have y3:=x3.at0 3 rfl)
 refine bodyPost_ret (v:=.agg #[iV 3,iV 0,iV G,iV 0]) (by simp[results,Tryz.results176,go_sem,y0,y1,y2,y3]) rfl ⟨rfl,?_⟩
 exact Z7 (Z7 (Z7 (Z7 (grow (Z4 (Z4 (Z4 (Below.refl _ _) _) _) _) b1) (by omega) _ _) (by omega) _ _) (by omega) _ _) (by omega) _ _
theorem OA (t n k m g p r st A G V:Int) (h:G<g) (g1:g<=65535) (h0:0<=G) (w:World) :
 Calls Tryz.prog 176 #[.agg #[iV t,iV n,iV k,iV m,iV g,iV p,iV r],.agg #[iV st,iV A,iV G,iV V]] w fun e w'=>e=.returned (.agg #[iV 0,iV 0,iV (G+1),iV 0])/\Below w.heap.size w w':=by
 have hd:decide (g<=G)=false:=decide_eq_false (by omega)
 have x1:=(At.Xl w (.cells #[iV t,iV n,iV k,iV m,iV g,iV p,iV r] 24) 83 [iV st,iV A,iV G,iV V]).grown (ZY _ (.cells #[iV 0,iV 0,iV 0,iV 0] 83))
 have x2:=At.rP w (.cells #[iV t,iV n,iV k,iV m,iV g,iV p,iV r] 24) (.cells #[iV st,iV A,iV G,iV V] 83) 83 [iV 0,iV 0,iV 0,iV 0]
 go_enter Tryz.func176,Tryz.ntmps176
 go_wp2_with (go_at_call 175;refine(SH _ _ _ _ _ _ _ _ _).mono ?_;rintro e w1 ⟨rfl,b1⟩;rw[hd];have z0:=(x1.grown b1).at0 2 rfl;have x3:=x2.grown b1;have q:=x3.fz;have y0:=x3.at0 0 rfl;have y1:=x3.at0 1 rfl;have y2:=x3.at0 2 rfl;have y3:=x3.at0 3 rfl)
 refine bodyPost_ret (v:=.agg #[iV 0,iV 0,iV (G+1),iV 0]) (by simp[results,Tryz.results176,go_sem,y0,y1,y2,y3]) rfl ⟨rfl,?_⟩
 exact Z7 (Z7 (Z7 (Z7 (grow (Z4 (Z4 (Z4 (Below.refl _ _) _) _) _) b1) (by omega) _ _) (by omega) _ _) (by omega) _ _) (by omega) _ _
theorem Yt {w:World} {L:Loc} {s:Mm} {t n k m:Nat} {g p r:Int} (h:Z5 w L s) (hG:Good t n k m g p r) (hl:ZG t n k m<=s.n) (who:Int) (x:Nat) :
 Calls Tryz.prog 157 #[eV t n k m g p r L.p who,iV x] w fun e w'=>e=.returned (.bool (decide ((x:Int)<n)))/\Below w.heap.size w w':=by
 go_enter Tryz.func157,Tryz.ntmps157
 go_wp2
 refine ZT (fun W=>Z5 W L s/\ZP W w.heap.size t n k m g p r L.p who/\Below w.heap.size w W) ⟨h.alloc _,ZP.new,ZY _ _⟩ ?_
 rintro W ⟨m1,v1,o1⟩
 refine ZM Grown [.val (pP w.heap.size 0),.val (.agg #[iV t,iV n,iV k,iV m,iV g,iV p,iV r]),.val (.bool true),.val (.bool true),.val (pP w.heap.size 7),.val (pP L.p 0),.val (iV s.n),.val (pP w.heap.size 0),.val (.agg #[iV t,iV n,iV k,iV m,iV g,iV p,iV r]),.val (iV (ZG t n k m:Nat)),.val (.bool true),.val (.bool true),.val (.bool true),.val (iV x),.val (.bool true),.val (.bool true),.val (.bool true),.val (iV x),.val (pP w.heap.size 0),.val (pP w.heap.size 1),.val (iV n),.val (.bool (decide ((x:Int)<n))),.val (.bool (decide ((x:Int)<n))),.val (.bool (decide ((x:Int)<n)))] (by kernel_rfl) Grown.refl Grown.trans (by kernel_rfl) (by kernel_rfl) (by kernel_rfl) ?_
 simp only[ZH,Act.put,List.setIfInBounds_toArray,List.set_cons_zero,List.set_cons_succ]
 refine⟨?_,?_,?_,?_,?_,?_,?_,?_,?_,?_,?_,?_,?_,?_,?_,?_,?_,?_,?_,?_,?_,?_,?_,?_,?_⟩
 . intros;apply ol;go_simp;exact gl
 . intro w' hg _;apply ol;have y:=(v1.dg hg).yy;go_simp;exact gl
 . intro w' hg _;apply ol;go_simp;exact cb (Uw hG _)
 . intros;apply ol;go_simp;exact gl
 . intros;apply ol;go_simp;exact gl
 . intro w' hg _;apply ol;have y:=(v1.dg hg).yy;go_simp;exact gl
 . intro w' hg _;apply ol;go_simp;exact cc (len_any (m1.drew.below hg))
 . intros;apply ol;go_simp;exact gl
 . intro w' hg _;apply ol;have y:=(v1.dg hg).yy;go_simp;exact gl
 . intro w' hg _;apply ol;go_simp;exact cb (SQ hG _)
 . intro w' hg _;apply ol;have z:decide ((s.n:Int)≥((ZG t n k m:Nat):Int))=true:=decide_eq_true (by omega);go_simp;exact gl
 . intros;apply ol;go_simp;exact gl
 . intros;apply ol;go_simp;exact gl
 . intros;apply ol;go_simp;exact gl
 . intro w' hg _;apply ol;have z:decide ((x:Int)≥0)=true:=decide_eq_true (by omega);go_simp;exact gl
 . intros;apply ol;go_simp;exact gl
 . intros;apply ol;go_simp;exact gl
 . intros;apply ol;go_simp;exact gl
 . intros;apply ol;go_simp;exact gl
 . intros;apply ol;go_simp;exact gl
 . intro w' hg _;apply ol;have y:=(v1.dg hg).yy;go_simp;exact gl
 . intros;apply ol;go_simp;exact gl
 . intros;apply ol;go_simp;exact gl
 . intros;apply ol;go_simp;exact gl
 intro w5 hg _
 go_wp2
 go_ret
 exact⟨rfl,grow (o1.trans ((Below.refl _ _).drew)) hg⟩
def Y6 (t n k m:Nat) (a:Int):Int:=if a<6+t+n * 2+k * 3 then -1 else if (a - (6+t+n * 2+k * 3)) / m<k then (a - (6+t+n * 2+k * 3)) / m else -1
theorem UZ {t n k m:Nat} {g p r:Int} (hG:Good t n k m g p r) (a:Int) (ha:a<=9223372036854775807) (w:World) :
 Calls Tryz.prog 165 #[.agg #[iV t,iV n,iV k,iV m,iV g,iV p,iV r],iV a] w fun e w'=>e=.returned (iV (Y6 t n k m a))/\Below w.heap.size w w':=by
 have n0:=hG.n0
 unfold Y6
 by_cases h:a<6+t+n * 2+k * 3
 . rw[if_pos h]
   exact Aj _ _ _ _ _ _ _ _ _ hG.arena h
 . rw[if_neg h]
   by_cases h2:(a - (6+t+n * 2+k * 3)) / m<k
   . rw[if_pos h2]
     exact xg _ _ _ _ _ _ _ _ _ _ hG.arena (by omega) (by omega) ha rfl h2
   . rw[if_neg h2]
     exact Eh _ _ _ _ _ _ _ _ _ _ hG.arena (by omega) (by omega) ha rfl (by omega)
theorem QG {t n k m i u:Nat} (hi:i<k) (hu:u<m):Y6 t n k m ((base t n k m i+u:Nat):Int)=i:=by
 have e:(((base t n k m i+u:Nat):Int) - (6+t+n * 2+k * 3)) / m=i:=by
  have:((base t n k m i+u:Nat):Int) - (6+t+n * 2+k * 3)=u+m * (i:Int):=by
   unfold base
   have hc:(m:Int) * (i:Int)=(i:Int) * m:=Int.mul_comm _ _
   simp only[Int.natCast_add,Int.natCast_mul]
   omega
  rw[this,Int.add_mul_ediv_left _ _ (by omega),Int.ediv_eq_zero_of_lt (by omega) (by omega),Int.zero_add]
 unfold Y6
 rw[if_neg (by unfold base;omega),e,if_pos (by omega)]
theorem Ir {w:World} {b o:Nat} (st A G V j:Int) (hz:w.cell? ⟨b,o+3,none⟩=some (iV j)) (a0:0<=A) (a1:A<=1048575) (j0:0<=j) (j1:j<=65536) :
 Calls Tryz.prog 177 #[pP b o,.agg #[iV st,iV A,iV G,iV V]] w fun e w'=>e=.returned (iV (A+1+j))/\Below w.heap.size w w':=by
 go_enter Tryz.func177,Tryz.ntmps177
 go_wp2
 refine ZT (fun W=>W.cell? ⟨b,o+3,none⟩=some (iV j)/\At W w.heap.size 0 83 #[iV st,iV A,iV G,iV V] [iV st,iV A,iV G,iV V]/\Below w.heap.size w W) ⟨keep' (ZY _ _) hz,At.new _ _ _,ZY _ _⟩ ?_
 rintro W ⟨i1,x1,o1⟩
 refine ZM Grown [.val (pP w.heap.size 1),.val (iV A),.val (iV (A+1)),.val (pP b o),.val (pP b o),.val (pP b (o+3)),.val (iV j),.val (iV (A+1+j)),.val (iV (A+1+j))] (by kernel_rfl) Grown.refl Grown.trans (by kernel_rfl) (by kernel_rfl) (by kernel_rfl) ?_
 simp only[ZH,Act.put,List.setIfInBounds_toArray,List.set_cons_zero,List.set_cons_succ]
 refine⟨?_,?_,?_,?_,?_,?_,?_,?_,?_,?_⟩
 . intros;apply ol;go_simp;exact gl
 . intro w' hg _;apply ol;have z:=(x1.drew.grown hg).at0 1 rfl;go_simp;exact gl
 . intro w' hg _;apply ol;go_simp;exact⟨Grown.refl _,congrArg (Value.int .i64) (by rw[IntKind.wrap_i64];omega)⟩
 . intros;apply ol;go_simp;exact gl
 . intros;apply ol;go_simp;exact gl
 . intros;apply ol;go_simp;exact gl
 . intro w' hg _;apply ol;have z:=keep' hg (keep' ((Below.refl _ _).drew) i1);go_simp;exact gl
 . intro w' hg _;apply ol;go_simp;exact⟨Grown.refl _,congrArg (Value.int .i64) (by rw[IntKind.wrap_i64];omega)⟩
 . intros;apply ol;go_simp;exact gl
 intro w5 hg _
 go_wp2
 go_ret
 exact⟨rfl,grow (o1.trans ((Below.refl _ _).drew)) hg⟩
theorem Gw {w:World} {L:Loc} {b o:Nat} {t n k m:Nat} {g p r:Int} (hG:Good t n k m g p r) (who st A G V Z i:Int) (hz:w.cell? ⟨b,o+2,none⟩=some (iV Z)) (a0:0<=A) (a1:A<=1048575) (z0:1<=Z) (z1:Z<=16) (i0:0<=i) (h1:Y6 t n k m A=i) (h2:Y6 t n k m (A+Z)=i) :
 Calls Tryz.prog 170 #[pP b o,eV t n k m g p r L.p who,.agg #[iV st,iV A,iV G,iV V]] w fun e w'=>e=.returned (iV Z)/\Below w.heap.size w w':=by
 obtain⟨κ,hκ⟩:∃ κ,ZE Z=κ:=⟨_,rfl⟩
 have κ0:0<=κ:=by
  rw[<- hκ];unfold ZE
  rw[if_neg (by omega)]
  repeat' split
  all_goals omega
 have EJ:=fun w=>UZ hG A (by omega) w
 have ui:=fun w=>UZ hG (A+Z) (by omega) w
 have lc:=fun w=>VW Z w
 rw[h1] at EJ
 rw[h2] at ui
 rw[hκ] at lc
 clear h1 h2 hκ
 go_enter Tryz.func170,Tryz.ntmps170
 go_wp2_with (go_at_call 165;refine(EJ _).mono ?_;rintro e w1 ⟨rfl,b1⟩)
 refine ZT (fun W=>W.cell? ⟨b,o+2,none⟩=some (iV Z)/\ZP W w.heap.size t n k m g p r L.p who/\At W (w.heap.size+1) 0 83 #[iV st,iV A,iV G,iV V] [iV st,iV A,iV G,iV V]/\Below w.heap.size w W) ⟨keep' b1 (keep' (ZY _ _) (keep' (ZY _ _) hz)),(ZP.WE _).grown b1,(At.Xl _ _ _ _).grown b1,grow (Z4 (ZY _ _) _) b1⟩ ?_
 clear b1 w1
 rintro W ⟨i1,v1,x1,o1⟩
 refine ZM Grown [.val (pP b o),.val (pP b o),.val (pP b (o+2)),.val (iV Z),.val (iV κ),.val (.bool false),.val (.bool false),.val (iV i),.val (.bool false),.val (.bool false),.val (.bool false),.val (pP w.heap.size 0),.val (.agg #[iV t,iV n,iV k,iV m,iV g,iV p,iV r]),.val (.pointer (some ⟨w.heap.size+1,1,none⟩)),.val (iV A),.val (pP b o),.val (pP b o),.val (pP b (o+2)),.val (iV Z),.val (iV (A+Z)),.val (iV i),.val (iV i),.val (.bool false),.val (.bool false)] (by kernel_rfl) Grown.refl Grown.trans (by kernel_rfl) (by kernel_rfl) (by kernel_rfl) ?_
 simp only[ZH,Act.put,List.setIfInBounds_toArray,List.set_cons_zero,List.set_cons_succ]
 refine⟨?_,?_,?_,?_,?_,?_,?_,?_,?_,?_,?_,?_,?_,?_,?_,?_,?_,?_,?_,?_,?_,?_,?_,?_,?_⟩
 . intros;apply ol;go_simp;exact gl
 . intros;apply ol;go_simp;exact gl
 . intros;apply ol;go_simp;exact gl
 . intro w' hg _;apply ol;have z:=keep' hg (keep' ((Below.refl _ _).drew) i1);go_simp;exact gl
 . intro w' hg _;apply ol;go_simp;exact cc (lc _)
 . intro w' hg _;apply ol;have z:decide (κ<0)=false:=decide_eq_false (by omega);go_simp;exact gl
 . intros;apply ol;go_simp;exact gl
 . intros;apply ol;go_simp;exact gl
 . intro w' hg _;apply ol;have z:decide (i<0)=false:=decide_eq_false (by omega);go_simp;exact gl
 . intros;apply ol;go_simp;exact gl
 . intros;apply ol;go_simp;exact gl
 . intros;apply ol;go_simp;exact gl
 . intro w' hg _;apply ol;have y:=(v1.dg hg).yy;go_simp;exact gl
 . intros;apply ol;go_simp;exact gl
 . intro w' hg _;apply ol;have z:=(x1.drew.grown hg).at0 1 rfl;go_simp;exact gl
 . intros;apply ol;go_simp;exact gl
 . intros;apply ol;go_simp;exact gl
 . intros;apply ol;go_simp;exact gl
 . intro w' hg _;apply ol;have z:=keep' hg (keep' ((Below.refl _ _).drew) i1);go_simp;exact gl
 . intro w' hg _;apply ol;go_simp;exact⟨Grown.refl _,congrArg (Value.int .i64) (by rw[IntKind.wrap_i64];omega)⟩
 . intro w' hg _;apply ol;go_simp;exact cb (ui _)
 . intros;apply ol;go_simp;exact gl
 . intros;apply ol;go_simp;exact gl
 . intros;apply ol;go_simp;exact gl
 intro w5 hg _
 have z:=keep' hg (keep' ((Below.refl _ _).drew) i1)
 go_wp2
 go_ret
 exact⟨rfl,grow (o1.trans ((Below.refl _ _).drew)) hg⟩
end
section
set_option maxRecDepth 20000
def WN (x was Z j se:Int) (ld ov wn:Bool):List Value:=[iV x,.int .u64 was,iV Z,iV j,.int .u64 se,.bool ld,.bool ov,.bool wn]
def RF (L:Loc) (b o:Nat) (T:TypeId) (cs:Array Value) (w w':World) (X:Mm->List Value->Prop):Prop :=
 ∃ s' cs' l',Z5 w' L s'/\Only (L.and b) w w'/\At w' b o T cs' l'/\Same o 8 cs cs'/\X s' l'
structure CellIs (u vl:Int) (fz:Bool) (vr:Int):Prop where
 u0:0<=u
 u1:u<=18446744073709551615
 vl:u % 1099511627776=vl
 fz:decide (9223372036854775808<=u)=fz
 vr:(if 9223372036854775808<=u then u / 1099511627776 % 4194304 else 0)=vr
theorem CellIs.call {u vl vr:Int} {fz:Bool} (h:CellIs u vl fz vr) (w:World) :
 Calls Tryz.prog 26 #[.int .u64 u] w fun e w'=>e=.returned (.agg #[iV vl,.bool fz,iV vr])/\Below w.heap.size w w':=by
 have e:=QH u w h.u0 h.u1
 rwa [h.vl,h.fz,h.vr] at e
structure Yz (v st A G V:Int):Prop where
 v0:0<=v
 v1:v<=18446744073709551615
 st:v % 8=st
 ad:v / 8 % 1048576=A
 gn:v / 8388608 % 65536=G
 vr:v / 549755813888 % 4194304=V
theorem Yz.call {v st A G V:Int} (h:Yz v st A G V) (w:World) :
 Calls Tryz.prog 28 #[.int .u64 v] w fun e w'=>e=.returned (.agg #[iV st,iV A,iV G,iV V])/\Below w.heap.size w w':=by
 have e:=TW v w h.v0 h.v1
 rwa [h.st,h.ad,h.gn,h.vr] at e
theorem MW (t n k m g p r st A G V:Int) {bS bG:Int} (hB:(G<g/\bS=0/\bG=G+1)\/(g<=G/\bS=3/\bG=G)) (g1:g<=65535) (h0:0<=G) (w:World) :
 Calls Tryz.prog 176 #[.agg #[iV t,iV n,iV k,iV m,iV g,iV p,iV r],.agg #[iV st,iV A,iV G,iV V]] w fun e w'=>e=.returned (.agg #[iV bS,iV 0,iV bG,iV 0])/\Below w.heap.size w w':=by
 rcases hB with⟨h,rfl,rfl⟩ | ⟨h,rfl,rfl⟩
 . exact OA t n k m g p r st A G V h g1 h0 w
 . exact Oz t n k m g p r st A _ V h w
set_option maxHeartbeats 400000 in
theorem SI {w:World} {L:Loc} {s:Mm} {b o:Nat} {T:TypeId} {cs:Array Value} {t n k m:Nat} {g p r:Int} {x was Z se:Int} {j:Nat} {ld ov wn:Bool} (h:Z5 w L s) (hb:¬ L.has b) (hi:At w b o T cs (WN x was Z j se ld ov wn)) (who:Int) (st:Int) (A:Nat) (G V:Int) (a1:A<=1048575) (j1:j<=16) {u vl vr:Int} {fz:Bool} (hu:s.wd (A+1+j)=u) (hc:CellIs u vl fz vr) {j':Nat} {ld':Bool} (H:(fz=true/\vr=V/\j'=j+1/\ld'=ld)\/((fz=true->vr≠V)/\j'=j/\ld'=true)) (hn:(A+1+j)<s.n) :
 Calls Tryz.prog 173 #[pP b o,eV t n k m g p r L.p who,.agg #[iV st,iV A,iV G,iV V]] w fun e w'=>e=.returned (.tuple #[])/\RF L b o T cs w w' (fun s' l'=>s'=((s.by who).step (A+1+j) (s.wd (A+1+j)))/\l'=WN x was Z j' u ld' ov wn):=by
 have HU:Hid (s.wd (A+1+j)=u):=hu
 have cc:=hc.call
 clear hu hc
 obtain⟨hbv,hbb⟩:=nb h hi.lt
 have YC:¬ L.has (w.heap.size+1):=fun hh=>by have:=h.lt _ hh;omega
 have YE:¬ w.heap.size+1=b:=fun hh=>by have:=hi.lt;omega
 go_enter Tryz.func173,Tryz.ntmps173
 go_wp2
 refine ZT (fun W=>Z5 W L s/\At W b o T cs (WN x was Z j se ld ov wn)/\ZP W w.heap.size t n k m g p r L.p who/\At W (w.heap.size+1) 0 83 #[iV st,iV A,iV G,iV V] [iV st,iV A,iV G,iV V]/\Only (L.and b) w W) ⟨(h.alloc _).alloc _,(hi.grown (ZY _ _)).grown (ZY _ _),ZP.WE _,At.Xl _ _ _ _,((Only.refl _ _).alloc _).alloc _⟩ ?_
 rintro W ⟨m1,i1,v1,x1,o1⟩
 apply PY (R:=ZO L b (o+4)) (TR L b o T cs (cs.setIfInBounds (o+4) (.int .u64 u)) s ((s.by who).step (A+1+j) (s.wd (A+1+j))) (WN x was Z j se ld ov wn) (WN x was Z j u ld ov wn)) [5,8] KP YX ⟨m1.drew,i1.drew⟩;. kernel_rfl
 apply pV;. intros;apply ol;go_simp;exact gl
 apply pV;. intro w' hR _;apply ol;have y:=(v1.dn hR.only hbv hbb).yy;go_simp;exact gl
 apply pV;. intros;apply ol;go_simp;exact gl
 apply pV;. intro w' hR _;apply ol;have z0:=(x1.drew.only hR.only (fun hh=>hh.elim YC YE)).at0 0 rfl;have z1:=(x1.drew.only hR.only (fun hh=>hh.elim YC YE)).at0 1 rfl;have z2:=(x1.drew.only hR.only (fun hh=>hh.elim YC YE)).at0 2 rfl;have z3:=(x1.drew.only hR.only (fun hh=>hh.elim YC YE)).at0 3 rfl;go_simp;exact gl
 apply pV (c:=iV (((A+1+j):Nat):Int));. intro w' hR _;apply ol;go_simp;refine(Ir st A G V j (hR.keep (j:=o+3) (by omega) (i1.drew.cell 3 rfl)) (by omega) (by omega) (by omega) (by omega)).mono ?_;rintro e w'' ⟨rfl,b9⟩;exact⟨_,rfl,b9,congrArg (Value.int .i64) (by omega)⟩
 apply pV (c:=.int .u64 u);. intro w' hR _ hP;apply ol;go_simp;refine(Ze (s:=s) hP.1 _ _ _ _ _ _ _ _ (A+1+j) hn).mono ?_;rintro e w'' ⟨rfl,m2,o2⟩;exact⟨_,rfl,⟨ZO.Yf o2 hb,m2,hP.2.only o2 hb⟩,by simp[Want.pred,HU.out]⟩
 try simp only[pu,s0,s1]
 iterate 2 (apply pV;. intros;apply ol;go_simp;exact gl)
 apply NJ;. intro w' hR _ hP;apply ol;have z0:=hP.2.cell 4 rfl;have z1:=hP.2.fz;go_simp;exact⟨⟨ZO.set _ _,hP.1.ZW hb _ _,hP.2.set 4 _⟩,trivial⟩
 try simp only[pu,s0,s1]
 try simp only[pn]
 intro vv w2 hR hP _
 obtain⟨m2,i2⟩:Z5 w2 L ((s.by who).step (A+1+j) (s.wd (A+1+j)))/\At w2 b o T (cs.setIfInBounds (o+4) (.int .u64 u)) (WN x was Z j u ld ov wn):=hP
 have o2:Only (L.and b) w w2:=o1.drew.trans hR.only
 have x2:=x1.drew.only hR.only (fun hh=>hh.elim YC YE)
 have s2:Same o 8 cs (cs.setIfInBounds (o+4) (.int .u64 u)):=Same.refl.set (by omega) _
 have k4:=i2.cell 4 rfl
 clear hR o1 v1 m1 i1 x1
 go_wp2_with (fail)
 go_at_call 26
 refine(cc _).mono ?_
 rintro e w3 ⟨rfl,b3⟩
 have i4:=(i2.grown b3).grown (ZY _ (.cells #[iV vl,.bool fz,iV vr] 79))
 have x4:=(x2.grown b3).grown (ZY _ (.cells #[iV vl,.bool fz,iV vr] 79))
 have z3:=x4.at0 3 rfl
 have y3:=i4.cell 3 rfl
 have y5:=i4.cell 5 rfl
 have yf:=i4.fz
 rcases H with⟨rfl,rfl,rfl,rfl⟩ | ⟨hv,rfl,rfl⟩
 . go_wp2
   refine bodyPost_ret (results_none rfl _ _ _) rfl ?_
   exact⟨rfl,_,_,_,((m2.below b3).alloc _).ZW hb _ _,((o2.trans (Only.ZZ b3)).alloc _).set _ _,i4.set 3 _,s2.set (by omega) _,rfl,rfl⟩
 . cases fz
   . go_wp2
     go_end0
     exact⟨rfl,_,_,_,((m2.below b3).alloc _).ZW hb _ _,((o2.trans (Only.ZZ b3)).alloc _).set _ _,i4.set 5 _,s2.set (by omega) _,rfl,rfl⟩
   . have hw:=hv rfl
     clear hv
     go_wp2
     go_end0
     exact⟨rfl,_,_,_,((m2.below b3).alloc _).ZW hb _ _,((o2.trans (Only.ZZ b3)).alloc _).set _ _,i4.set 5 _,s2.set (by omega) _,rfl,rfl⟩
set_option maxHeartbeats 400000 in
theorem RP {w:World} {L:Loc} {s:Mm} {b o:Nat} {T:TypeId} {cs:Array Value} {t n k m:Nat} {g p r:Int} {x was Z se:Int} {j:Nat} {ld ov wn:Bool} (h:Z5 w L s) (hb:¬ L.has b) (hi:At w b o T cs (WN x was Z j se ld ov wn)) (who:Int) (st:Int) (A:Nat) (G V:Int) (a1:A<=1048575) (j1:j<=16) {vl vr:Int} {fz:Bool} (hc:CellIs se vl fz vr) (fv:Fit V) {d:Bool} (hd:decide (s.wd (A+1+j)=se)=d) (hn:(A+1+j)<s.n) :
 Calls Tryz.prog 172 #[pP b o,eV t n k m g p r L.p who,.agg #[iV st,iV A,iV G,iV V]] w fun e w'=>e=.returned (.tuple #[])/\RF L b o T cs w w' (fun s' l'=>s'=((s.by who).VB (A+1+j) se (Yk vl true V))/\l'=WN x was Z (if d then j+1 else j) se false ov wn):=by
 have HD:Hid (decide (s.wd (A+1+j)=se)=d):=hd
 have fl:Fit vl:=by have h1:=hc.vl;have h2:=hc.u0;constructor <;> omega
 have cc:=hc.call
 have ff:∀ (a1 a2 a3:Value) (w:World),(Instr.field 79 (.agg #[a1,a2,a3]) 0).run Tryz.prog w=.ok a1 w:=fun a1 a2 a3 w=>by kernel_rfl
 clear hd hc
 obtain⟨hbv,hbb⟩:=nb h hi.lt
 have YC:¬ L.has (w.heap.size+1):=fun hh=>by have:=h.lt _ hh;omega
 have YE:¬ w.heap.size+1=b:=fun hh=>by have:=hi.lt;omega
 go_enter Tryz.func172,Tryz.ntmps172
 go_wp2
 refine ZT (fun W=>Z5 W L s/\At W b o T cs (WN x was Z j se ld ov wn)/\ZP W w.heap.size t n k m g p r L.p who/\At W (w.heap.size+1) 0 83 #[iV st,iV A,iV G,iV V] [iV st,iV A,iV G,iV V]/\Only (L.and b) w W) ⟨(h.alloc _).alloc _,(hi.grown (ZY _ _)).grown (ZY _ _),ZP.WE _,At.Xl _ _ _ _,((Only.refl _ _).alloc _).alloc _⟩ ?_
 rintro W ⟨m1,i1,v1,x1,o1⟩
 obtain⟨Sz,hSz⟩:∃ Sz,W.heap.size=Sz:=⟨_,rfl⟩
 refine Zm Grown 10 [.val (pP b o),.val (pP b o),.val (pP b (o+4)),.val (.int .u64 se),.val (.agg #[iV vl,.bool fz,iV vr]),.val (iV vl),.val (.pointer (some ⟨w.heap.size+1,3,none⟩)),.val (iV V),.val (.agg #[iV vl,.bool true,iV V]),.that (fun w' v=>∃ X,v=(pP X 0)/\Sz<=X/\At w' X 0 79 #[iV 0,.bool false,iV 0] [iV 0,.bool false,iV 0]) ?_] (by kernel_rfl) Grown.refl Grown.trans (by decide) (by kernel_rfl) (by kernel_rfl) (by kernel_rfl) (by kernel_rfl) (by kernel_rfl) (by kernel_rfl) ?_
 . rintro x1 y1 v hg ⟨X,hv,hb,hr⟩
   exact⟨X,hv,hb,hr.grown hg⟩
 simp only[List.take_succ_cons,List.take_zero,ZH,Act.put,List.setIfInBounds_toArray,List.set_cons_zero,List.set_cons_succ]
 refine⟨?_,?_,?_,?_,?_,?_,?_,?_,?_,?_,?_⟩
 . intros;apply ol;go_simp;exact gl
 . intros;apply ol;go_simp;exact gl
 . intros;apply ol;go_simp;exact gl
 . intro w' hg _;apply ol;have z:=(i1.drew.grown hg).cell 4 rfl;go_simp;exact gl
 . intro w' hg _;apply ol;go_simp;exact cb (cc _)
 . intros;apply ol;go_simp;exact gl
 . intros;apply ol;go_simp;exact gl
 . intro w' hg _;apply ol;have z:=(x1.drew.grown hg).at0 3 rfl;go_simp;exact gl
 . intros;apply ol;go_simp;exact gl
 . intro w' hg _
   apply ol
   have hz:Sz<=w'.heap.size:=by have:=hg.size;have e:W.drew.heap.size=W.heap.size:=rfl;omega
   have q:=At.new w' 79 [iV 0,.bool false,iV 0]
   go_simp
   exact⟨Z4 (Below.refl _ _) _,_,rfl,hz,q⟩
 intro vX w8 hg hf
 obtain⟨S,rfl,nN,q8⟩:=hf.1
 have BX:¬ L.has S:=fun hh=>by have:=m1.lt _ hh;omega
 have mQ:¬ w.heap.size=S:=by have:=x1.lt;omega
 have xh:w.heap.size+1≠S:=by have:=x1.lt;omega
 have hbS:b≠S:=by have:=i1.lt;omega
 have hSw:w.heap.size<=S:=by have:=x1.lt;omega
 have q0:=q8.at0 0 rfl
 have q1:=q8.at0 1 rfl
 have q2:=q8.at0 2 rfl
 have qf:=q8.fz
 have m9:=((((m1.drew.below hg).ZW BX 0 (iV vl)).ZW BX 1 (.bool true)).ZW BX 2 (iV V))
 have v9:=((((v1.dg hg).ZW mQ 0 (iV vl)).ZW mQ 1 (.bool true)).ZW mQ 2 (iV V))
 have x9:=((((x1.drew.grown hg).other xh 0 (iV vl)).other xh 1 (.bool true)).other xh 2 (iV V))
 have i9:=((((i1.drew.grown hg).other hbS 0 (iV vl)).other hbS 1 (.bool true)).other hbS 2 (iV V))
 have c9:=(((q8.ZQ 0 (iV vl)).ZQ 1 (.bool true)).ZQ 2 (iV V))
 have o9:=((((o1.drew.trans (Only.ZZ hg)).setCell (a:=⟨S,0,none⟩) (fun hlt=>by simp only at hlt;omega) (iV vl)).setCell (a:=⟨S,1,none⟩) (fun hlt=>by simp only at hlt;omega) (.bool true)).setCell (a:=⟨S,2,none⟩) (fun hlt=>by simp only at hlt;omega) (iV V))
 clear hf hg nN hSz m1 v1 x1 i1 o1 q8
 go_wp2
 refine ZT (fun W=>Z5 W L s/\At W b o T cs (WN x was Z j se ld ov wn)/\ZP W w.heap.size t n k m g p r L.p who/\At W (w.heap.size+1) 0 83 #[iV st,iV A,iV G,iV V] [iV st,iV A,iV G,iV V]/\At W S 0 79 _ [iV vl,.bool true,iV V]/\Only (L.and b) w W) ⟨m9,i9,v9,x9,c9,o9⟩ ?_
 clear m9 i9 v9 x9 c9 o9 q0 q1 q2 qf cc ff
 rintro W ⟨m1,i1,v1,x1,q1,o1⟩
 apply WS 10;. kernel_rfl
 apply rV;. intro w' hg _;apply ol;have y:=(v1.dg hg).yy;go_simp;exact gl
 apply rV;. intros;apply ol;go_simp;exact gl
 apply rV;. intro w' hg _;apply ol;have z0:=(x1.drew.grown hg).at0 0 rfl;have z1:=(x1.drew.grown hg).at0 1 rfl;have z2:=(x1.drew.grown hg).at0 2 rfl;have z3:=(x1.drew.grown hg).at0 3 rfl;go_simp;exact gl
 apply rV (c:=iV (((A+1+j):Nat):Int));. intro w' hg _;apply ol;go_simp;refine(Ir st A G V j ((i1.drew.grown hg).cell 3 rfl) (by omega) (by omega) (by omega) (by omega)).mono ?_;rintro e w'' ⟨rfl,b9⟩;exact⟨_,rfl,b9,congrArg (Value.int .i64) (by omega)⟩
 iterate 2 (apply rV;. intros;apply ol;go_simp;exact gl)
 try simp only[pu,s0,s1]
 apply rV;. intros;apply ol;go_simp;exact gl
 apply rV;. intro w' hg _;apply ol;have z:=(i1.drew.grown hg).cell 4 rfl;go_simp;exact gl
 apply rV;. intro w' hg _;apply ol;have z0:=(q1.drew.grown hg).at0 0 rfl;have z1:=(q1.drew.grown hg).at0 1 rfl;have z2:=(q1.drew.grown hg).at0 2 rfl;go_simp;exact gl
 apply XB;. intro w' hg _;apply ol;go_simp;exact cb (Vy vl true V _ fl fv)
 try simp only[pu,s0,s1]
 intro w5 hg _
 have m5:=m1.drew.below hg
 have i5:=i1.drew.grown hg
 have o5:=o1.og hg
 clear hg m1 i1 v1 o1 x1 q1
 go_wp2_with (fail)
 go_at_call 147
 refine(X6 m5 _ _ _ _ _ _ _ _ (A+1+j) hn _ _).mono ?_
 rintro e w6 ⟨rfl,m6,o6⟩
 rw[HD.out]
 have i6:=i5.only o6 hb
 have y3:=i6.cell 3 rfl
 have y5:=i6.cell 5 rfl
 have yf:=i6.fz
 cases d
 . go_wp2
   go_end0
   exact⟨rfl,_,_,_,m6.ZW hb _ _,(o5.trans (o6.Xx (b:=b))).set _ _,i6.set 5 _,Same.refl.set (by omega) _,rfl,rfl⟩
 . go_wp2
   go_end0
   exact⟨rfl,_,_,_,(m6.ZW hb _ _).ZW hb _ _,((o5.trans (o6.Xx (b:=b))).set _ _).set _ _,(i6.set 3 _).set 5 _,(Same.refl.set (by omega) _).set (by omega) _,rfl,rfl⟩
set_option maxHeartbeats 400000 in
theorem MV {w:World} {L:Loc} {s:Mm} {b o:Nat} {T:TypeId} {cs:Array Value} {t n k m:Nat} {g p r:Int} {was Z se:Int} {x j:Nat} {ld ov wn:Bool} (h:Z5 w L s) (hb:¬ L.has b) (hi:At w b o T cs (WN x was Z j se ld ov wn)) (who:Int) (st:Int) (A:Nat) (G V:Int) (hG:Good t n k m g p r) (g0:0<=G) (g1:G<=65535) {bS bG:Int} (hB:(G<g/\bS=0/\bG=G+1)\/(g<=G/\bS=3/\bG=G)) (hx:x<n) {d:Bool} (hd:decide (s.wd (6+t+x * 2)=was)=d) (hn:6+t+x * 2<s.n) :
 Calls Tryz.prog 171 #[pP b o,eV t n k m g p r L.p who,.agg #[iV st,iV A,iV G,iV V]] w fun e w'=>e=.returned (.tuple #[])/\RF L b o T cs w w' (fun s' l'=>s'=((s.by who).VB (6+t+x * 2) was (Zv bS 0 bG 0))/\l'=WN x was Z j se ld true d):=by
 have HD:Hid (decide (s.wd (6+t+x * 2)=was)=d):=hd
 have hs1:=hG.s1
 have hg1:=hG.g1
 clear hd
 have dB:=MW t n k m g p r st A G V hB hg1 g0
 obtain⟨hbv,hbb⟩:=nb h hi.lt
 have YC:¬ L.has (w.heap.size+1):=fun hh=>by have:=h.lt _ hh;omega
 have YE:¬ w.heap.size+1=b:=fun hh=>by have:=hi.lt;omega
 go_enter Tryz.func171,Tryz.ntmps171
 go_wp2
 refine ZT (fun W=>Z5 W L s/\At W b o T cs (WN x was Z j se ld ov wn)/\ZP W w.heap.size t n k m g p r L.p who/\At W (w.heap.size+1) 0 83 #[iV st,iV A,iV G,iV V] [iV st,iV A,iV G,iV V]/\Only (L.and b) w W) ⟨(h.alloc _).alloc _,(hi.grown (ZY _ _)).grown (ZY _ _),ZP.WE _,At.Xl _ _ _ _,((Only.refl _ _).alloc _).alloc _⟩ ?_
 rintro W ⟨m1,i1,v1,x1,o1⟩
 apply PY (R:=ZO L b (o+7)) (TR L b o T cs (cs.setIfInBounds (o+7) (.bool d)) s ((s.by who).VB (6+t+x * 2) was (Zv bS 0 bG 0)) (WN x was Z j se ld ov wn) (WN x was Z j se ld ov d)) [18,21] KP YX ⟨m1.drew,i1.drew⟩;. kernel_rfl
 apply pV;. intros;apply ol;go_simp;exact gl
 apply pV;. intro w' hR _;apply ol;have y:=(v1.dn hR.only hbv hbb).yy;go_simp;exact gl
 apply pV;. intros;apply ol;go_simp;exact gl
 apply pV;. intro w' hR _;apply ol;have y:=(v1.dn hR.only hbv hbb).yy;go_simp;exact gl
 iterate 2 (apply pV;. intros;apply ol;go_simp;exact gl)
 try simp only[pu,s0,s1]
 apply pV;. intros;apply ol;go_simp;exact gl
 apply pV;. intro w' hR _;apply ol;have z:=hR.keep (j:=o) (by omega) (i1.drew.cell0 rfl);go_simp;exact gl
 apply pV (c:=iV ((6+t+x * 2:Nat):Int));. intro w' hR _;apply ol;go_simp;refine(Y9 _ _ _ _ _ _ _ (x:Int) _ hG.arena (by omega) (by omega)).mono ?_;rintro e w'' ⟨rfl,b9⟩;exact⟨_,rfl,b9,congrArg (Value.int .i64) (by omega)⟩
 iterate 3 (apply pV;. intros;apply ol;go_simp;exact gl)
 try simp only[pu,s0,s1]
 apply pV;. intro w' hR _;apply ol;have z:=hR.keep (j:=o+1) (by omega) (i1.drew.cell 1 rfl);go_simp;exact gl
 apply pV;. intros;apply ol;go_simp;exact gl
 apply pV;. intro w' hR _;apply ol;have y:=(v1.dn hR.only hbv hbb).yy;go_simp;exact gl
 apply pV;. intro w' hR _;apply ol;have z0:=(x1.drew.only hR.only (fun hh=>hh.elim YC YE)).at0 0 rfl;have z1:=(x1.drew.only hR.only (fun hh=>hh.elim YC YE)).at0 1 rfl;have z2:=(x1.drew.only hR.only (fun hh=>hh.elim YC YE)).at0 2 rfl;have z3:=(x1.drew.only hR.only (fun hh=>hh.elim YC YE)).at0 3 rfl;go_simp;exact gl
 apply pV;. intro w' hR _;apply ol;go_simp;exact cb (dB _)
 apply pV;. intro w' hR _;apply ol;go_simp;exact cb (Yc bS 0 bG 0 _ ⟨by omega,by omega⟩ ⟨by omega,by omega⟩ ⟨by omega,by omega⟩ ⟨by omega,by omega⟩)
 try simp only[pu,s0,s1]
 apply pV (c:=.bool d);. intro w' hR _ hP;apply ol;go_simp;refine(X6 (s:=s) hP.1 _ _ _ _ _ _ _ _ (6+t+x * 2) hn _ _).mono ?_;rintro e w'' ⟨rfl,m2,o2⟩;exact⟨_,rfl,⟨ZO.Yf o2 hb,m2,hP.2.only o2 hb⟩,by simp only[Want.pred];exact congrArg Value.bool HD.out⟩
 iterate 2 (apply pV;. intros;apply ol;go_simp;exact gl)
 apply NJ;. intro w' hR _ hP;apply ol;have z0:=hP.2.cell 7 rfl;have z1:=hP.2.fz;go_simp;exact⟨⟨ZO.set _ _,hP.1.ZW hb _ _,hP.2.set 7 _⟩,trivial⟩
 try simp only[pu,s0,s1]
 try simp only[pn]
 intro vv w2 hR hP _
 obtain⟨m2,i2⟩:Z5 w2 L ((s.by who).VB (6+t+x * 2) was (Zv bS 0 bG 0))/\At w2 b o T (cs.setIfInBounds (o+7) (.bool d)) (WN x was Z j se ld ov d):=hP
 have o2:Only (L.and b) w w2:=o1.drew.trans hR.only
 have s2:Same o 8 cs (cs.setIfInBounds (o+7) (.bool d)):=Same.refl.set (by omega) _
 have k4:=i2.cell 6 rfl
 have kf:=i2.fz
 clear hR o1 v1 m1 i1 x1
 go_wp2
 go_end0
 exact⟨rfl,_,_,_,m2.ZW hb _ _,o2.set _ _,i2.set 6 _,s2.set (by omega) _,rfl,rfl⟩
set_option maxHeartbeats 400000 in
theorem Xp {w:World} {L:Loc} {s:Mm} {b o:Nat} {T:TypeId} {cs:Array Value} {t n k m:Nat} {g p r:Int} {was Z se:Int} {x j:Nat} {ld wn:Bool} (h:Z5 w L s) (hi:At w b o T cs (WN x was Z j se ld false wn)) (who:Int) (hG:Good t n k m g p r) (hlen:ZG t n k m<=s.n) (hx:x<n) {st:Int} {A:Nat} {G V:Int} (hs:Yz was st A G V) (hl:YM st=true) {i:Int} (a1:A<=1048575) (z0:1<=Z) (z1:Z<=16) (i0:0<=i) (h1:Y6 t n k m A=i) (h2:Y6 t n k m (A+Z)=i) {dz:Bool} (hj:decide ((j:Int)≥Z)=dz) {f:Nat} (hf:(dz=true/\f=171)\/(dz=false/\ld=true/\f=172)\/(dz=false/\ld=false/\f=173)) (X:Mm->List Value->Prop) (d:Bool) (hX:∀ s' l',X s' l'->l'[6]?=some (.bool d))
 (hc:∀ w1:World,Z5 w1 L s->At w1 b o T cs (WN x was Z j se ld false wn)->Calls Tryz.prog f #[pP b o,eV t n k m g p r L.p who,.agg #[iV st,iV A,iV G,iV V]] w1 fun e w'=>e=.returned (.tuple #[])/\RF L b o T cs w1 w' X) :
 Calls Tryz.prog 162 #[pP b o,eV t n k m g p r L.p who] w fun e w'=>e=.returned (.bool d)/\RF L b o T cs w w' X:=by
 have HJ:Hid (decide ((j:Int)≥Z)=dz):=hj
 have sw:=hs.call
 have ds:=fun(w':World) (m':Z5 w' L s)=>Yt (x:=x) m' hG hlen who
 rw[decide_eq_true (by omega)] at ds
 have dl:=fun w=>Ul st A G V w
 rw[hl] at dl
 clear hs hl hj hlen hx
 have oZ:=hi.grown (ZY _ (.cells #[iV t,iV n,iV k,iV m,iV g,iV p,iV r,pP L.p 0,iV who] 27))
 have k1:=oZ.cell 1 rfl
 have k6:=oZ.cell 6 rfl
 go_enter Tryz.func162,Tryz.ntmps162
 go_wp2_with (go_at_call 28;refine(sw _).mono ?_;rintro e w1 ⟨rfl,b1⟩)
 have x0:=At.new w1 83 [iV st,iV A,iV G,iV V]
 obtain⟨B,hB⟩:∃ B,w1.heap.size=B:=⟨_,rfl⟩
 rw[hB] at x0 ⊢
 refine ZT (fun W=>Z5 W L s/\At W b o T cs (WN x was Z j se ld false wn)/\ZP W w.heap.size t n k m g p r L.p who/\At W B 0 83 #[iV st,iV A,iV G,iV V] [iV st,iV A,iV G,iV V]/\Only (L.and b) w W) ⟨((h.alloc _).below b1).alloc _,(oZ.grown b1).grown (ZY _ _),(ZP.new.grown b1).grown (ZY _ _),x0,(((Only.refl _ _).alloc _).trans (Only.ZZ b1)).alloc _⟩ ?_
 clear b1 hB oZ k1 k6 x0 sw h hi
 rintro W ⟨m1,i1,v1,x1,o1⟩
 apply xX;. kernel_rfl
 apply rV;. intro w' hg _;apply ol;have y:=(v1.dg hg).yy;go_simp;exact gl
 iterate 3 (apply rV;. intros;apply ol;go_simp;exact gl)
 apply rV;. intro w' hg _;apply ol;have z:=(i1.drew.grown hg).cell0 rfl;go_simp;exact gl
 apply rV;. intro w' hg _;apply ol;go_simp;exact cb (ds _ (m1.drew.below hg))
 try simp only[pu,s0,s1]
 iterate 2 (apply rV;. intros;apply ol;go_simp;exact gl)
 apply rV;. intro w' hg _;apply ol;have z0:=(x1.drew.grown hg).at0 0 rfl;have z1:=(x1.drew.grown hg).at0 1 rfl;have z2:=(x1.drew.grown hg).at0 2 rfl;have z3:=(x1.drew.grown hg).at0 3 rfl;go_simp;exact gl
 apply rV;. intro w' hg _;apply ol;go_simp;exact cb (dl _)
 iterate 2 (apply rV;. intros;apply ol;go_simp;exact gl)
 try simp only[pu,s0,s1]
 apply XB;. intros;apply ol;go_simp;exact gl
 try simp only[pu,s0,s1]
 intro w5 hg _
 go_wp2
 refine ZT (fun W=>Z5 W L s/\At W b o T cs (WN x was Z j se ld false wn)/\ZP W w.heap.size t n k m g p r L.p who/\At W B 0 83 #[iV st,iV A,iV G,iV V] [iV st,iV A,iV G,iV V]/\Only (L.and b) w W) ⟨m1.drew.below hg,i1.drew.grown hg,v1.dg hg,x1.drew.grown hg,o1.drew.trans (Only.ZZ hg)⟩ ?_
 clear hg m1 i1 v1 x1 o1 ds dl
 rintro W ⟨m1,i1,v1,x1,o1⟩
 apply xX;. kernel_rfl
 iterate 3 (apply rV;. intros;apply ol;go_simp;exact gl)
 apply rV;. intro w' hg _;apply ol;have z:=(i1.drew.grown hg).cell 3 rfl;go_simp;exact gl
 apply rV;. intros;apply ol;go_simp;exact gl
 apply rV;. intro w' hg _;apply ol;have y:=(v1.dg hg).yy;go_simp;exact gl
 try simp only[pu,s0,s1]
 apply rV;. intro w' hg _;apply ol;have z0:=(x1.drew.grown hg).at0 0 rfl;have z1:=(x1.drew.grown hg).at0 1 rfl;have z2:=(x1.drew.grown hg).at0 2 rfl;have z3:=(x1.drew.grown hg).at0 3 rfl;go_simp;exact gl
 apply rV;. intro w' hg _;apply ol;go_simp;exact cb (Gw (L:=L) hG who st A G V Z i ((i1.drew.grown hg).cell 2 rfl) (by omega) (by omega) z0 z1 i0 h1 h2)
 apply rV;. intro w' hg _;apply ol;have z:decide ((j:Int)≥Z)=dz:=HJ.out;go_simp;exact gl
 apply XB;. intros;apply ol;go_simp;exact gl
 try simp only[pu,s0,s1]
 intro w6 hg _
 have m5:=m1.drew.below hg
 have i5:=i1.drew.grown hg
 have v5:=v1.dg hg
 have x5:=x1.drew.grown hg
 have o5:Only (L.and b) w w6:=o1.drew.trans (Only.ZZ hg)
 clear hg m1 i1 v1 x1 o1
 have k5:=i5.cell 5 rfl
 obtain⟨y0,y1,y2,y3,y4,y5,y6,y7,y8⟩:=id v5
 have z0:=x5.at0 0 rfl
 have z1:=x5.at0 1 rfl
 have z2:=x5.at0 2 rfl
 have z3:=x5.at0 3 rfl
 rcases hf with⟨rfl,rfl⟩ | ⟨rfl,rfl,rfl⟩ | ⟨rfl,rfl,rfl⟩
 all_goals
  go_wp2_with (first | (go_at_call 171;refine(hc _ m5 i5).mono ?_;rintro e w7 ⟨rfl,s7,rQ,l7,m7,o7,i7,q7,x7⟩;have k6:=i7.cell 6 (hX _ _ x7)) | (go_at_call 172;refine(hc _ m5 i5).mono ?_;rintro e w7 ⟨rfl,s7,rQ,l7,m7,o7,i7,q7,x7⟩;have k6:=i7.cell 6 (hX _ _ x7)) | (go_at_call 173;refine(hc _ m5 i5).mono ?_;rintro e w7 ⟨rfl,s7,rQ,l7,m7,o7,i7,q7,x7⟩;have k6:=i7.cell 6 (hX _ _ x7)))
  go_ret
  exact⟨rfl,s7,rQ,l7,m7,o5.trans o7,i7,q7,x7⟩
theorem RQ (x was Z:Int) (w:World) :
 Calls Tryz.prog 168 #[iV x,.int .u64 was,iV Z] w fun e w'=>e=.returned (pP w.heap.size 0)/\w'=w.alloc (.cells (WN x was Z 0 0 false false false).toArray 156):=by
 unfold WN
 go_enter Tryz.func168,Tryz.ntmps168
 go_wp2
 go_ret
 exact⟨rfl,rfl⟩
end
end Go.Proofs.YtpbghmeikcphnaaGreat
