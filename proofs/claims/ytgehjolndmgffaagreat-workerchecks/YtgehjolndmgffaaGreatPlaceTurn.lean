import Derived.Test.YtgehjolndmgffaaGreatPlaceSee
import Derived.Test.YtgehjolndmgffaaGreatPlaceAsk
import Derived.Test.YtgehjolndmgffaaGreatPlaceGrow
import Derived.Test.YtgehjolndmgffaaGreatPlaceTake
import Derived.Test.YtgehjolndmgffaaGreatPlaceGo
namespace Go.Proofs.YtgehjolndmgffaaGreat
open Go.RowKit
def Pl.cells (κ:Nat):Pl->List Value->Prop
 | .see,l=>∃ sn ch ws sa sb,l=Yw 0 κ sn ch ws sa sb
 | .ask i,l=>∃ ws sa sb,l=Yw 1 κ ((i:Int)+1) i ws sa sb
 | .grow i c,l=>∃ sn sa sb,l=Yw 2 κ sn i c.w sa sb
 | .look sn i,l=>∃ ws sa sb,l=Yw 3 κ sn i ws sa sb
 | .take sn i c,l=>∃ sa sb,l=Yw 4 κ sn i c.w sa sb
 | .opn sn i c,l=>∃ sa sb,l=Yw 5 κ sn i c.w sa sb
 | .Tc sn i c,l=>∃ sa sb,l=Yw 6 κ sn i c.w sa sb
 | .XO a i,l=>∃ sn ch ws,l=Yw 7 κ sn ch ws a i
 | .none,l=>∃ sn ch ws sa sb,l=Yw 8 κ sn ch ws sa sb
def EJ (w:World) (b o:Nat) (T:TypeId) (c:Array Value) (κ:Nat) (τ:Pl):Prop:=∃ l,At w b o T c l/\τ.cells κ l
def base (t n k m i:Nat):Nat:=6+t+n * 2+k * 3+i * m
structure EF (w:World) (L:Loc) (s:Mm) (b o:Nat) (T:TypeId) (cs:Array Value) (t n k m σ κ:Nat) (who:Int) (y:Y) (τ:Pl) (w':World) (s':Mm) (cs':Array Value) (y':Y) (τ':Pl):Prop where
 mm:Z8 w' L s'
 yd:XG t n k m s' (σ+1) y'
 a:EJ w' b o T cs' κ τ'
 good:τ'.good k m κ (σ+1)
 same:Same o 7 cs cs'
 only:Only (L.and b) w w'
 kept:Kept t n k s s'
 la:s'.la=((τ.at t n κ:Nat):Int)
 st:∃ v,s'=(s.by who).step (τ.at t n κ) v
theorem Xz {w:World} {b o:Nat} {T:TypeId} {c:Array Value} {κ k sn:Nat} (i:Nat) (I:Int) (hI:I=i) {ws sa sb:Int} (h:At w b o T c (Yw (if (k:Int)<=I then 8 else 3) κ sn I ws sa sb)):EJ w b o T c κ (Tu k sn i):=by
 subst hI
 unfold Tu
 split
 . rw[if_neg (by omega)] at h
   exact⟨_,h,_,_,_,rfl⟩
 . rw[if_pos (by omega)] at h
   exact⟨_,h,_,_,_,_,_,rfl⟩
theorem UA (k sn i:Nat) (I:Int) (hI:I=i):decide ((7:Int)<=(if (k:Int)<=I then 8 else 3))=(Tu k sn i).over:=by
 subst hI
 unfold Tu
 split
 . rw[if_neg (by omega)];rfl
 . rw[if_pos (by omega)];rfl
section
variable {w:World} {L:Loc} {s:Mm} {b o:Nat} {T:TypeId} {cs:Array Value} {t n k m σ κ:Nat} {g p r:Int} {y:Y}
theorem KJ (h:Z8 w L s) (hb:¬ L.has b) (hy:XG t n k m s σ y) (hG:Good t n k m g p r) (hσ:σ<1000000) (hκ:κ<4) (τ:Pl) (hi:EJ w b o T cs κ τ) (hg:τ.good k m κ σ) (ho:τ.over=false) (who:Int) :
 Calls Tryz.prog 147 #[pP b o,eV t n k m g p r L.p who] w fun e w'=>∃ s' cs',e=.returned (.bool (turn k m κ (base t n k m) y τ).2.over)/\EF w L s b o T cs t n k m σ κ who y τ w' s' cs' (turn k m κ (base t n k m) y τ).1 (turn k m κ (base t n k m) y τ).2:=by
 have hgd:=Ho (bs:=base t n k m) hκ hy.ok hy.yB hg
 have hmay:=hG.may
 have har:=hG.arena
 have hk1:=hG.k1
 have hk0:=hG.k0
 have hm1:=hG.n1
 have ht1:=hG.t1
 have hn1:=hG.s1
 have hlen:=hy.len
 have hn:2+κ<s.n:=by omega
 have hA:∀ i,i<k->6+t+n * 2+i * 3<s.n:=fun i hi=>by omega
 have Gu:∀ i:Nat,(6:Int)+(t:Int)+(n:Int) * 2+(i:Int) * 3=((6+t+n * 2+i * 3:Nat):Int):=fun i=>by omega
 obtain⟨l,ha,hl⟩:=hi
 cases τ with
 | XO a i=>cases ho
 | none=>cases ho
 | see =>
  obtain⟨sn,ch,ws,sa,sb,rfl⟩:=hl
  have hop:=hy.yA κ hκ
  have hok:=hy.yB κ hκ
  cases ho:y.op κ with
  | zero =>
   rw[ho] at hop
   have ht:turn k m κ (base t n k m) y .see=(y,Tu k 0 0):=by simp[turn,ho]
   rw[ht] at hgd ⊢
   refine(Zh h ha _ _ _ _ _ _ _ _ hmay hκ (Or.inl ⟨rfl,rfl⟩) _ (UA k 0 0 0 rfl) (fun w1 h1 a1=>Hu h1 hb a1 _ _ _ _ _ _ _ _ hκ hn _ rfl (by simpa using hop))).mono ?_
   rintro e w' ⟨rfl,m',on,cs',a',sm⟩
   exact⟨_,cs',rfl,m',hy.same hσ who _,Xz 0 0 rfl a',hgd,sm,on,YW _ _ _ _ _ _,rfl,_,rfl⟩
  | succ i =>
   rw[ho] at hop hok
   have ht:turn k m κ (base t n k m) y .see=(y,.ask i):=by simp[turn,ho]
   rw[ht] at hgd ⊢
   refine(Zh h ha _ _ _ _ _ _ _ _ hmay hκ (Or.inl ⟨rfl,rfl⟩) false (by decide) (fun w1 h1 a1=>Hw h1 hb a1 _ _ _ _ _ _ _ _ hκ hn i (by omega) (by omega) (by simpa using hop))).mono ?_
   rintro e w' ⟨rfl,m',on,cs',a',sm⟩
   exact⟨_,cs',rfl,m',hy.same hσ who _,⟨_,a',_,_,_,rfl⟩,hgd,sm,on,YW _ _ _ _ _ _,rfl,_,rfl⟩
 | ask i =>
  obtain⟨ws,sa,sb,rfl⟩:=hl
  have hik:i<k:=hg
  have hw:=hy.CX i hik
  have hok:=hy.ok i hik
  have hnx:=UA k (i+1) 0 0 rfl
  by_cases h1:(y.ck i).st=1
  . by_cases h2:(y.ck i).cl=κ
    . by_cases h3:(y.ck i).us+room κ<=m
      . have ht:turn k m κ (base t n k m) y (.ask i)=(y,.grow i (y.ck i)):=by simp[turn,h1,h2,h3]
        rw[ht] at hgd ⊢
        refine(Zh h ha _ _ _ _ _ _ _ _ hmay hκ (Or.inr (Or.inl ⟨rfl,rfl⟩)) false (by decide) (fun w1 q1 a1=>UD q1 hb a1 _ _ _ _ _ _ _ _ _ har (by omega) (Gu i) (hA i hik) (y.ck i) σ hok (by omega) hw hκ (Or.inl ⟨h1,h2,by omega,rfl,rfl⟩))).mono ?_
        rintro e w' ⟨rfl,m',on,cs',a',sm⟩
        exact⟨_,cs',rfl,m',hy.same hσ who _,⟨_,a',_,_,_,rfl⟩,hgd,sm,on,YW _ _ _ _ _ _,rfl,_,rfl⟩
      . have ht:turn k m κ (base t n k m) y (.ask i)=(y,Tu k (i+1) 0):=by simp[turn,h1,h2,h3]
        rw[ht] at hgd ⊢
        refine(Zh h ha _ _ _ _ _ _ _ _ hmay hκ (Or.inr (Or.inl ⟨rfl,rfl⟩)) _ hnx (fun w1 q1 a1=>UD q1 hb a1 _ _ _ _ _ _ _ _ _ har (by omega) (Gu i) (hA i hik) (y.ck i) σ hok (by omega) hw hκ (Or.inr ⟨fun hh=>absurd hh.2.2 (by omega),rfl,rfl⟩))).mono ?_
        rintro e w' ⟨rfl,m',on,cs',a',sm⟩
        exact⟨_,cs',rfl,m',hy.same hσ who _,Xz 0 0 rfl a',hgd,sm,on,YW _ _ _ _ _ _,rfl,_,rfl⟩
    . have ht:turn k m κ (base t n k m) y (.ask i)=(y,Tu k (i+1) 0):=by simp[turn,h1,h2]
      rw[ht] at hgd ⊢
      refine(Zh h ha _ _ _ _ _ _ _ _ hmay hκ (Or.inr (Or.inl ⟨rfl,rfl⟩)) _ hnx (fun w1 q1 a1=>UD q1 hb a1 _ _ _ _ _ _ _ _ _ har (by omega) (Gu i) (hA i hik) (y.ck i) σ hok (by omega) hw hκ (Or.inr ⟨fun hh=>h2 hh.2.1,rfl,rfl⟩))).mono ?_
      rintro e w' ⟨rfl,m',on,cs',a',sm⟩
      exact⟨_,cs',rfl,m',hy.same hσ who _,Xz 0 0 rfl a',hgd,sm,on,YW _ _ _ _ _ _,rfl,_,rfl⟩
  . have ht:turn k m κ (base t n k m) y (.ask i)=(y,Tu k (i+1) 0):=by simp[turn,h1]
    rw[ht] at hgd ⊢
    refine(Zh h ha _ _ _ _ _ _ _ _ hmay hκ (Or.inr (Or.inl ⟨rfl,rfl⟩)) _ hnx (fun w1 q1 a1=>UD q1 hb a1 _ _ _ _ _ _ _ _ _ har (by omega) (Gu i) (hA i hik) (y.ck i) σ hok (by omega) hw hκ (Or.inr ⟨fun hh=>h1 hh.1,rfl,rfl⟩))).mono ?_
    rintro e w' ⟨rfl,m',on,cs',a',sm⟩
    exact⟨_,cs',rfl,m',hy.same hσ who _,Xz 0 0 rfl a',hgd,sm,on,YW _ _ _ _ _ _,rfl,_,rfl⟩
 | grow i c =>
  obtain⟨sn,sa,sb,rfl⟩:=hl
  obtain⟨hik,hc,hc1,hc2,hc3⟩:=hg
  have hw:=hy.CX i hik
  have hok:=hy.ok i hik
  have hr:=Yg κ
  have hmul:(i:Int) * (m:Int)=((i * m:Nat):Int):=by simp
  have hmb:i * m<=64 * 256:=Nat.mul_le_mul (by omega) hm1
  by_cases he:y.ck i=c
  . have ht:turn k m κ (base t n k m) y (.grow i c)=(⟨upd y.ck i ⟨c.st,c.cl,c.us+room κ,c.sp⟩,y.op⟩,.XO (base t n k m i+c.us) i):=by simp[turn,he]
    rw[ht] at hgd ⊢
    rw[he] at hw
    refine(Zh h ha _ _ _ _ _ _ _ _ hmay hκ (Or.inr (Or.inr (Or.inl ⟨rfl,rfl⟩))) true (by decide) (fun w1 q1 a1=>Ql q1 hb c a1 _ _ _ _ _ _ _ _ _ har (by omega) (Gu i) (hA i hik) σ hc (by omega) hκ (by omega) ((i * m:Nat):Int) hmul (by omega) (by omega) (Or.inl ⟨hw,rfl,rfl⟩) (Or.inl ⟨rfl,rfl,rfl,rfl⟩))).mono ?_
    rintro e w' ⟨rfl,m',on,cs',a',sm⟩
    refine⟨_,cs',rfl,m',hy.lay hσ who hik _ ⟨hc.st,hc.cl,show c.us+room κ<=1000 by omega,Nat.le_succ_of_le hc.sp⟩,⟨_,a',sn,i,c.w,?_⟩,hgd,sm,on,Q5 _ _ _ _ _ hik _,rfl,_,rfl⟩
    exact congrArg (fun x=>Yw 7 κ sn i c.w x i) (by unfold base;omega)
  . have ht:turn k m κ (base t n k m) y (.grow i c)=(y,.see):=by simp[turn,he]
    rw[ht] at hgd ⊢
    have hne:¬ s.wd (6+t+n * 2+i * 3)=c.w:=fun e=>he (Ck.inj hok hc (hw.symm.trans e))
    refine(Zh h ha _ _ _ _ _ _ _ _ hmay hκ (Or.inr (Or.inr (Or.inl ⟨rfl,rfl⟩))) false (by decide) (fun w1 q1 a1=>Ql q1 hb c a1 _ _ _ _ _ _ _ _ _ har (by omega) (Gu i) (hA i hik) σ hc (by omega) hκ (by omega) ((i * m:Nat):Int) hmul (by omega) (by omega) (Or.inr ⟨hne,rfl,rfl⟩) (Or.inr ⟨rfl,rfl,rfl,rfl⟩))).mono ?_
    rintro e w' ⟨rfl,m',on,cs',a',sm⟩
    exact⟨_,cs',rfl,m',hy.same hσ who _,⟨_,a',_,_,_,_,_,rfl⟩,hgd,sm,on,YW _ _ _ _ _ _,rfl,_,rfl⟩
 | look sn i =>
  obtain⟨ws,sa,sb,rfl⟩:=hl
  obtain⟨hik,hsn⟩:=hg
  have hw:=hy.CX i hik
  have hok:=hy.ok i hik
  by_cases h1:(y.ck i).st=0
  . have ht:turn k m κ (base t n k m) y (.look sn i)=(y,.take sn i (y.ck i)):=by simp[turn,h1]
    rw[ht] at hgd ⊢
    refine(Zh h ha _ _ _ _ _ _ _ _ hmay hκ (Or.inr (Or.inr (Or.inr (Or.inl ⟨rfl,rfl⟩)))) false (by decide) (fun w1 q1 a1=>Nu q1 hb a1 _ _ _ _ _ _ _ _ _ har (by omega) (Gu i) (hA i hik) (y.ck i) σ hok (by omega) hw h1)).mono ?_
    rintro e w' ⟨rfl,m',on,cs',a',sm⟩
    exact⟨_,cs',rfl,m',hy.same hσ who _,⟨_,a',_,_,rfl⟩,hgd,sm,on,YW _ _ _ _ _ _,rfl,_,rfl⟩
  . have ht:turn k m κ (base t n k m) y (.look sn i)=(y,Tu k sn (i+1)):=by simp[turn,h1]
    rw[ht] at hgd ⊢
    refine(Zh h ha _ _ _ _ _ _ _ _ hmay hκ (Or.inr (Or.inr (Or.inr (Or.inl ⟨rfl,rfl⟩)))) _ (UA k sn (i+1) ((i:Int)+1) (by omega)) (fun w1 q1 a1=>KL q1 hb a1 _ _ _ _ _ _ _ _ _ har (by omega) (Gu i) (hA i hik) (y.ck i) σ hok (by omega) hw h1 _ rfl)).mono ?_
    rintro e w' ⟨rfl,m',on,cs',a',sm⟩
    exact⟨_,cs',rfl,m',hy.same hσ who _,Xz (i+1) _ (by omega) a',hgd,sm,on,YW _ _ _ _ _ _,rfl,_,rfl⟩
 | take sn i c =>
  obtain⟨sa,sb,rfl⟩:=hl
  obtain⟨hik,hsn,hc,hc0⟩:=hg
  have hw:=hy.CX i hik
  have hok:=hy.ok i hik
  by_cases he:y.ck i=c
  . have ht:turn k m κ (base t n k m) y (.take sn i c)=(⟨upd y.ck i ⟨1,κ,0,c.sp+1⟩,y.op⟩,.opn sn i ⟨1,κ,0,c.sp+1⟩):=by simp[turn,he]
    rw[ht] at hgd ⊢
    rw[he] at hw
    refine(Zh h ha _ _ _ _ _ _ _ _ hmay hκ (Or.inr (Or.inr (Or.inr (Or.inr (Or.inl ⟨rfl,rfl⟩))))) false (by decide) (fun w1 q1 a1=>Ht q1 hb c a1 _ _ _ _ _ _ _ _ _ har (by omega) (Gu i) (hA i hik) σ hc (by omega) hκ hw)).mono ?_
    rintro e w' ⟨rfl,m',on,cs',a',sm⟩
    exact⟨_,cs',rfl,m',hy.lay hσ who hik _ ⟨show 1<=3 by omega,show κ<=3 by omega,Nat.zero_le _,Nat.succ_le_succ hc.sp⟩,⟨_,a',_,_,rfl⟩,hgd,sm,on,Q5 _ _ _ _ _ hik _,rfl,_,rfl⟩
  . have ht:turn k m κ (base t n k m) y (.take sn i c)=(y,Tu k sn (i+1)):=by simp[turn,he]
    rw[ht] at hgd ⊢
    have hne:¬ s.wd (6+t+n * 2+i * 3)=c.w:=fun e=>he (Ck.inj hok hc (hw.symm.trans e))
    refine(Zh h ha _ _ _ _ _ _ _ _ hmay hκ (Or.inr (Or.inr (Or.inr (Or.inr (Or.inl ⟨rfl,rfl⟩))))) _ (UA k sn (i+1) ((i:Int)+1) (by omega)) (fun w1 q1 a1=>EH q1 hb c a1 _ _ _ _ _ _ _ _ _ har (by omega) (Gu i) (hA i hik) σ hc (by omega) hκ hne _ rfl)).mono ?_
    rintro e w' ⟨rfl,m',on,cs',a',sm⟩
    exact⟨_,cs',rfl,m',hy.same hσ who _,Xz (i+1) _ (by omega) a',hgd,sm,on,YW _ _ _ _ _ _,rfl,_,rfl⟩
 | opn sn i c =>
  obtain⟨sa,sb,rfl⟩:=hl
  obtain⟨hik,hsn,hc,hc0⟩:=hg
  have hop:=hy.yA κ hκ
  by_cases he:y.op κ=sn
  . have ht:turn k m κ (base t n k m) y (.opn sn i c)=(⟨y.ck,upd y.op κ (i+1)⟩,.see):=by simp[turn,he]
    rw[ht] at hgd ⊢
    rw[he] at hop
    refine(Zh h ha _ _ _ _ _ _ _ _ hmay hκ (Or.inr (Or.inr (Or.inr (Or.inr (Or.inr (Or.inl ⟨rfl,rfl⟩)))))) false (by decide) (fun w1 q1 a1=>Qh q1 hb a1 _ _ _ _ _ _ _ _ hκ hn (by omega) (Or.inl ⟨hop,rfl,rfl⟩) (Or.inl ⟨rfl,rfl⟩))).mono ?_
    rintro e w' ⟨rfl,m',on,cs',a',sm⟩
    exact⟨_,cs',rfl,m',hy.opens hσ who hκ (i+1) (by omega),⟨_,a',_,_,_,_,_,rfl⟩,hgd,sm,on,KI _ _ _ _ _ hκ _,rfl,_,rfl⟩
  . have ht:turn k m κ (base t n k m) y (.opn sn i c)=(y,.Tc sn i c):=by simp[turn,he]
    rw[ht] at hgd ⊢
    have hne:¬ s.wd (2+κ)=sn:=fun e=>he (by rw[hop] at e;omega)
    refine(Zh h ha _ _ _ _ _ _ _ _ hmay hκ (Or.inr (Or.inr (Or.inr (Or.inr (Or.inr (Or.inl ⟨rfl,rfl⟩)))))) false (by decide) (fun w1 q1 a1=>Qh q1 hb a1 _ _ _ _ _ _ _ _ hκ hn (by omega) (Or.inr ⟨hne,rfl,rfl⟩) (Or.inr ⟨rfl,rfl⟩))).mono ?_
    rintro e w' ⟨rfl,m',on,cs',a',sm⟩
    exact⟨_,cs',rfl,m',hy.same hσ who _,⟨_,a',_,_,rfl⟩,hgd,sm,on,YW _ _ _ _ _ _,rfl,_,rfl⟩
 | Tc sn i c =>
  obtain⟨sa,sb,rfl⟩:=hl
  obtain⟨hik,hsn,hc,hc0⟩:=hg
  have hw:=hy.CX i hik
  have hok:=hy.ok i hik
  by_cases he:y.ck i=c
  . have ht:turn k m κ (base t n k m) y (.Tc sn i c)=(⟨upd y.ck i ⟨0,0,0,c.sp+1⟩,y.op⟩,.see):=by simp[turn,he]
    rw[ht] at hgd ⊢
    rw[he] at hw
    refine(Zh h ha _ _ _ _ _ _ _ _ hmay hκ (Or.inr (Or.inr (Or.inr (Or.inr (Or.inr (Or.inr ⟨rfl,rfl⟩)))))) false (by decide) (fun w1 q1 a1=>Hq q1 hb c a1 _ _ _ _ _ _ _ _ _ har (by omega) (Gu i) (hA i hik) σ hc (by omega) hw)).mono ?_
    rintro e w' ⟨rfl,m',on,cs',a',sm⟩
    exact⟨_,cs',rfl,m',hy.lay hσ who hik _ ⟨Nat.zero_le _,Nat.zero_le _,Nat.zero_le _,Nat.succ_le_succ hc.sp⟩,⟨_,a',_,_,_,_,_,rfl⟩,hgd,sm,on,Q5 _ _ _ _ _ hik _,rfl,_,rfl⟩
  . have ht:turn k m κ (base t n k m) y (.Tc sn i c)=(y,.see):=by simp[turn,he]
    rw[ht] at hgd ⊢
    have hne:¬ s.wd (6+t+n * 2+i * 3)=c.w:=fun e=>he (Ck.inj hok hc (hw.symm.trans e))
    refine(Zh h ha _ _ _ _ _ _ _ _ hmay hκ (Or.inr (Or.inr (Or.inr (Or.inr (Or.inr (Or.inr ⟨rfl,rfl⟩)))))) false (by decide) (fun w1 q1 a1=>EG q1 hb c a1 _ _ _ _ _ _ _ _ _ har (by omega) (Gu i) (hA i hik) σ hc (by omega) hne)).mono ?_
    rintro e w' ⟨rfl,m',on,cs',a',sm⟩
    exact⟨_,cs',rfl,m',hy.same hσ who _,⟨_,a',_,_,_,_,_,rfl⟩,hgd,sm,on,YW _ _ _ _ _ _,rfl,_,rfl⟩
theorem Vk (h:Z8 w L s) (hb:¬ L.has b) (hy:XG t n k m s σ y) (hG:Good t n k m g p r) (hσ:σ<1000000) (hκ:κ<4) (τ:Pl) (hi:EJ w b o T cs κ τ) (hg:τ.good k m κ σ) (ho:τ.over=false) (who:Int) (y':Y) (τ':Pl) (ht:turn k m κ (base t n k m) y τ=(y',τ')) (d:Bool) (hd:τ'.over=d) :
 Calls Tryz.prog 147 #[pP b o,eV t n k m g p r L.p who] w fun e w'=>e=.returned (.bool d)/\∃ s' cs',EF w L s b o T cs t n k m σ κ who y τ w' s' cs' y' τ':=by
 refine(KJ h hb hy hG hσ hκ τ hi hg ho who).mono ?_
 rw[ht]
 rintro e w' ⟨s',cs',rfl,P⟩
 exact⟨by rw[hd],s',cs',P⟩
end
end Go.Proofs.YtgehjolndmgffaaGreat
