import Derived.Test.YtmnnhjhhhfabiaaGreatEpGo
import Derived.Test.YtmnnhjhhhfabiaaGreatDropFarm
namespace Go.Proofs.YtmnnhjhhhfabiaaGreat
open Go.RowKit
section
inductive Ad where
 | first
 | ask (E : Int) (j : Nat)
 | over (x : Bool)
def Ad.Zy : Ad -> Bool
 | .over _=>true
 | _=>false
def SN (t : Nat) (who : Int) (s : Mm) : Ad -> Mm × Ad
 | .first=>((s.by who).step 0 (s.wd 0),.ask (s.wd 0) 0)
 | .ask E j=>if j < t then ((s.by who).step (6 + j) (s.wd (6 + j)),if Wj (s.wd (6 + j)) E = true then .over false else .ask E (j + 1)) else ((s.by who).Xj 0 E (sum64 E 1),.over (decide (s.wd 0 = E)))
 | .over x=>(s,.over x)
def Ad.cells : Ad -> EV -> Prop
 | .first,a=>a = ⟨false,0,0,false,false⟩
 | .ask E j,a=>a = ⟨true,E,j,false,false⟩
 | .over x,a=>a.ov = true /\ a.wt = x
def ND (w : World) (b o : Nat) (T : TypeId) (cs : Array Value) (d : Ad) : Prop:=∃ a,YE w b o T cs a /\ d.cells a
section
variable {w w' : World} {L : Loc} {s : Mm} {b o : Nat} {T : TypeId} {cs : Array Value} {t n k m : Nat} {g p r : Int} {d : Ad}
theorem ND.grown (h : ND w b o T cs d) (g : Below w.heap.size w w') : ND w' b o T cs d:=h.imp fun _ k=>⟨k.1.grown g,k.2⟩
structure qL (L : Loc) (b o : Nat) (T : TypeId) (cs : Array Value) (w w' : World) (s' : Mm) (d' : Ad) (cs' : Array Value) : Prop where
 m : Z9 w' L s'
 a : ND w' b o T cs' d'
 same : Same o 5 cs cs'
 only : Only (L.and b) w w'
theorem Nk (h : Z9 w L s) (hb : ¬ L.has b) (hi : ND w b o T cs d) (hG : Good t n k m g p r) (hl : ZR t n k m <= s.n) (who : Int) (ho : d.Zy = false) (s' : Mm) (d' : Ad) (ht : SN t who s d = (s',d')) (x : Bool) (hx : d'.Zy = x) :
 Calls Tryz.prog 107 #[pP b o,eV t n k m g p r L.p who] w fun e w'=>e = .returned (.bool x) /\ ∃ cs',qL L b o T cs w w' s' d' cs':=by
 obtain ⟨a,hi,hc⟩:=hi
 cases d with
 | first =>
  have hc : a = ⟨false,0,0,false,false⟩:=hc
  subst hc
  obtain ⟨rfl,rfl⟩ : (s.by who).step 0 (s.wd 0) = s' /\ Ad.ask (s.wd 0) 0 = d':=by simpa [SN] using ht
  obtain rfl : false = x:=hx
  refine (JY h hb hi who hG hl rfl rfl rfl).mono ?_
  rintro e w' ⟨rfl,s2,cs2,a2,m2,o2,i2,q2,rfl,rfl⟩
  exact ⟨rfl,cs2,m2,⟨_,i2,rfl⟩,q2,o2⟩
 | over x=>cases ho
 | ask E j =>
  have hc : a = ⟨true,E,j,false,false⟩:=hc
  subst hc
  simp only [SN] at ht
  by_cases hj : j < t
  · rw [if_pos hj] at ht
    obtain ⟨rfl,hd⟩:=Prod.mk.inj ht
    refine (Gf h hb hi who hG hl rfl rfl rfl hj rfl rfl).mono ?_
    rintro e w' ⟨rfl,s2,cs2,a2,m2,o2,i2,q2,rfl,rfl⟩
    by_cases hs : Wj (s.wd (6 + j)) E = true
    · rw [if_pos hs] at hd
      subst hd
      obtain rfl : true = x:=hx
      exact ⟨by rw [hs],cs2,m2,⟨_,i2,hs,rfl⟩,q2,o2⟩
    · rw [if_neg hs] at hd
      subst hd
      obtain rfl : false = x:=hx
      have hs' : Wj (s.wd (6 + j)) E = false:=by simpa using hs
      exact ⟨by rw [hs'],cs2,m2,⟨_,i2,by rw [hs'];rfl⟩,q2,o2⟩
  · rw [if_neg hj] at ht
    obtain ⟨rfl,rfl⟩:=Prod.mk.inj ht
    obtain rfl : true = x:=hx
    refine (BU h hb hi who hG hl rfl rfl (j:=j) rfl (by omega) rfl).mono ?_
    rintro e w' ⟨rfl,s2,cs2,a2,m2,o2,i2,q2,rfl,rfl⟩
    exact ⟨rfl,cs2,m2,⟨_,i2,rfl,rfl⟩,q2,o2⟩
end
inductive Se where
 | see
 | ask (c : Ck)
 | look (c : Ck) (S : Int)
 | clear (c : Ck) (j : Nat)
 | free (c : Ck)
 | over (x : Bool)
def Se.Zy : Se -> Bool
 | .over _=>true
 | _=>false
def Se.freed : Se -> Bool
 | .over x=>x
 | _=>false
def Zr (t n i : Nat) : Nat:=6 + t + n * 2 + i * 3
def tX (t n k m i : Nat) : Nat:=6 + t + n * 2 + k * 3 + i * m
def QY (t n k m i : Nat) (who : Int) (c0 : Ck) (s : Mm) : Se -> Mm × Se
 | .see=>((s.by who).step (Zr t n i) c0.w,if c0.st = 3 then .ask c0 else .over false)
 | .ask c=>((s.by who).step (Zr t n i + 2) (s.wd (Zr t n i + 2)),.look c (s.wd (Zr t n i + 2)))
 | .look c S=>((s.by who).step 0 (s.wd 0),if S + 2 <= s.wd 0 then .clear c 0 else .over false)
 | .clear c j=>if j < c.us then ((s.by who).step (tX t n k m i + j) 0,.clear c (j + 1)) else ((s.by who).step (Zr t n i + 1) 0,.free c)
 | .free c=>((s.by who).step (Zr t n i) (Ck.mk 0 0 0 (c.sp + 1)).w,.over true)
 | .over x=>(s,.over x)
def Ck.seen (c : Ck) (a : SV) : Prop:=a.st = c.st /\ a.cl = c.cl /\ a.us = c.us /\ a.sp = c.sp
def Se.cells : Se -> SV -> Prop
 | .see,a=>a.nx = 0 /\ a.cr = 0 /\ a.fr = false
 | .ask c,a=>a.nx = 1 /\ a.cr = 0 /\ a.fr = false /\ c.seen a
 | .look c S,a=>a.nx = 2 /\ a.cr = 0 /\ a.fr = false /\ c.seen a /\ a.si = S
 | .clear c j,a=>a.nx = 3 /\ a.cr = j /\ a.fr = false /\ c.seen a
 | .free c,a=>a.nx = 5 /\ a.fr = false /\ c.seen a
 | .over x,a=>a.nx = 6 /\ a.fr = x
def Se.good (m : Nat) : Se -> Prop
 | .ask c=>c.us <= m /\ c.sp < 2000000
 | .look c S=>c.us <= m /\ c.sp < 2000000 /\ 0 <= S
 | .clear c _=>c.us <= m /\ c.sp < 2000000
 | .free c=>c.sp < 2000000
 | _=>True
def RN (w : World) (b o : Nat) (T : TypeId) (cs : Array Value) (i : Nat) (d : Se) : Prop:=∃ a,Zi w b o T cs a /\ a.ch = i /\ d.cells a
section
variable {w w' : World} {L : Loc} {s : Mm} {b o : Nat} {T : TypeId} {cs : Array Value} {t n k m i : Nat} {g p r : Int} {d : Se}
theorem RN.grown (h : RN w b o T cs i d) (g : Below w.heap.size w w') : RN w' b o T cs i d:=h.imp fun _ k=>⟨k.1.grown g,k.2⟩
theorem TP (h : RN w b o T cs i d) (ho : d.Zy = true) :
 Calls Tryz.prog 110 #[pP b o] w fun e w'=>e = .returned (.bool d.freed) /\ w' = w:=by
 obtain ⟨a,hi,-,hc⟩:=h
 cases d with
 | over x =>
  have:=FX hi
  rw [hc.2] at this
  exact this
 | _=>cases ho
structure Std (L : Loc) (b o : Nat) (T : TypeId) (cs : Array Value) (i : Nat) (w w' : World) (s' : Mm) (d' : Se) (cs' : Array Value) : Prop where
 m : Z9 w' L s'
 a : RN w' b o T cs' i d'
 same : Same o 9 cs cs'
 only : Only (L.and b) w w'
theorem CX (h : Z9 w L s) (hb : ¬ L.has b) (hi : RN w b o T cs i d) (hG : Good t n k m g p r) (hl : ZR t n k m <= s.n) (hik : i < k) (who : Int) {c0 : Ck} {σ : Nat} (hc0 : s.wd (Zr t n i) = c0.w) (hok : c0.ok σ) (hσ : σ <= 2000000) (hN : s.wd 0 < 18446744073709551616)
 (hgd : d.good m) (ho : d.Zy = false) (s' : Mm) (d' : Se) (ht : QY t n k m i who c0 s d = (s',d')) (x : Bool) (hx : d'.Zy = x) :
 Calls Tryz.prog 109 #[pP b o,eV t n k m g p r L.p who] w fun e w'=>e = .returned (.bool x) /\ ∃ cs',Std L b o T cs i w w' s' d' cs':=by
 obtain ⟨a,hi,hch,hc⟩:=hi
 cases d with
 | over x=>cases ho
 | see =>
  obtain ⟨hnx,hcr,hfr⟩:=hc
  obtain ⟨rfl,hd⟩:=Prod.mk.inj ht
  by_cases hst : c0.st = 3
  · rw [if_pos hst] at hd
    subst hd
    obtain rfl : false = x:=hx
    refine (MP h hb hi who hG hik hch hl hnx hc0 hok hσ hst).mono ?_
    rintro e w' ⟨rfl,s2,cs2,a2,m2,o2,i2,q2,rfl,rfl⟩
    exact ⟨rfl,cs2,m2,⟨_,i2,hch,rfl,hcr,hfr,rfl,rfl,rfl,rfl⟩,q2,o2⟩
  · rw [if_neg hst] at hd
    subst hd
    obtain rfl : true = x:=hx
    refine (MO h hb hi who hG hik hch hl hnx hc0 hok hσ hst).mono ?_
    rintro e w' ⟨rfl,s2,cs2,a2,m2,o2,i2,q2,rfl,rfl⟩
    exact ⟨rfl,cs2,m2,⟨_,i2,hch,rfl,hfr⟩,q2,o2⟩
 | ask c =>
  obtain ⟨hnx,hcr,hfr,hsn⟩:=hc
  obtain ⟨rfl,rfl⟩:=Prod.mk.inj ht
  obtain rfl : false = x:=hx
  refine (FY h hb hi who hG hik hch hl hnx rfl).mono ?_
  rintro e w' ⟨rfl,s2,cs2,a2,m2,o2,i2,q2,rfl,rfl⟩
  exact ⟨rfl,cs2,m2,⟨_,i2,hch,rfl,hcr,hfr,hsn,rfl⟩,q2,o2⟩
 | look c S =>
  obtain ⟨hnx,hcr,hfr,hsn,hsi⟩:=hc
  obtain ⟨rfl,hd⟩:=Prod.mk.inj ht
  by_cases hst : S + 2 <= s.wd 0
  · rw [if_pos hst] at hd
    subst hd
    obtain rfl : false = x:=hx
    refine (BM h hb hi who hG hik hch hl hnx rfl (by rw [hsi];exact hgd.2.2) (by rw [hsi];exact hst) hN).mono ?_
    rintro e w' ⟨rfl,s2,cs2,a2,m2,o2,i2,q2,rfl,rfl⟩
    exact ⟨rfl,cs2,m2,⟨_,i2,hch,rfl,hcr,hfr,hsn⟩,q2,o2⟩
  · rw [if_neg hst] at hd
    subst hd
    obtain rfl : true = x:=hx
    refine (F8 h hb hi who hG hik hch hl hnx rfl (by rw [hsi];omega)).mono ?_
    rintro e w' ⟨rfl,s2,cs2,a2,m2,o2,i2,q2,rfl,rfl⟩
    exact ⟨rfl,cs2,m2,⟨_,i2,hch,rfl,hfr⟩,q2,o2⟩
 | clear c j =>
  obtain ⟨hnx,hcr,hfr,hsn⟩:=hc
  simp only [QY] at ht
  by_cases hj : j < c.us
  · rw [if_pos hj] at ht
    obtain ⟨rfl,rfl⟩:=Prod.mk.inj ht
    obtain rfl : false = x:=hx
    refine (MN h hb hi who hG hik hch hl hnx hcr hsn.2.2.1 hgd.1 hj).mono ?_
    rintro e w' ⟨rfl,s2,cs2,a2,m2,o2,i2,q2,rfl,rfl⟩
    exact ⟨rfl,cs2,m2,⟨_,i2,hch,hnx,rfl,hfr,hsn⟩,q2,o2⟩
  · rw [if_neg hj] at ht
    obtain ⟨rfl,rfl⟩:=Prod.mk.inj ht
    obtain rfl : false = x:=hx
    refine (MM h hb hi who hG hik hch hl hnx hcr hsn.2.2.1 hgd.1 (by omega)).mono ?_
    rintro e w' ⟨rfl,s2,cs2,a2,m2,o2,i2,q2,rfl,rfl⟩
    exact ⟨rfl,cs2,m2,⟨_,i2,hch,rfl,hfr,hsn⟩,q2,o2⟩
 | free c =>
  obtain ⟨hnx,hfr,hsn⟩:=hc
  obtain ⟨rfl,rfl⟩:=Prod.mk.inj ht
  obtain rfl : true = x:=hx
  refine (JU h hb hi who hG hik hch hl hnx hsn.2.2.2 hgd).mono ?_
  rintro e w' ⟨rfl,s2,cs2,a2,m2,o2,i2,q2,rfl,rfl⟩
  exact ⟨rfl,cs2,m2,⟨_,i2,hch,rfl,rfl⟩,q2,o2⟩
end
end
section
section
variable {w0 w : World} {L : Loc} {bE σ : Nat} {s : Mm}
end
end
section
structure MV where
 nx : Int
 ad : Int
 kd : Int
 sz : Int
 sl : Int
 gn : Int
 own : Bool
 pl : List Value
 se : Int
 ce : Int
 wa : Int
 sp : Int
 ou : Int
structure ZL (w : World) (b o : Nat) (T : TypeId) (c : Array Value) (a : MV) : Prop where
 obj : w.heap[b]? = some (.cells c T (0,0))
 Xz : a.pl.length = 7
 pl : ∀ i v,a.pl[i]? = some v -> c[o + 7 + i]? = some v
 nx : c[o]? = some (iV a.nx)
 ad : c[o + 1]? = some (iV a.ad)
 kd : c[o + 2]? = some (iV a.kd)
 sz : c[o + 3]? = some (iV a.sz)
 sl : c[o + 4]? = some (iV a.sl)
 gn : c[o + 5]? = some (iV a.gn)
 own : c[o + 6]? = some (.bool a.own)
 se : c[o + 14]? = some (.int .u64 a.se)
 ce : c[o + 15]? = some (iV a.ce)
 wa : c[o + 16]? = some (.int .u64 a.wa)
 sp : c[o + 17]? = some (iV a.sp)
 ou : c[o + 18]? = some (iV a.ou)
namespace ZL
variable {w w' : World} {b o : Nat} {T : TypeId} {c c' : Array Value} {a : MV}
theorem lt (h : ZL w b o T c a) : b < w.heap.size:=WO h.obj
theorem fz (h : ZL w b o T c a) (i : Nat) : w.frozen? ⟨b,i,none⟩ = false:=Zc h.obj i
theorem of_block (h : ZL w b o T c a) (e : w'.heap[b]? = w.heap[b]?) : ZL w' b o T c a:={ h with obj:=e.trans h.obj }
theorem grown (h : ZL w b o T c a) (g : Below w.heap.size w w') : ZL w' b o T c a:=h.of_block (g.block _ h.lt)
theorem drew (h : ZL w b o T c a) : ZL w.drew b o T c a:=h.of_block rfl
theorem only {S : Nat -> Prop} (h : ZL w b o T c a) (g : Only S w w') (hs : ¬ S b) : ZL w' b o T c a:=h.of_block (g.block _ h.lt hs)
theorem other (h : ZL w b o T c a) {k : Nat} (hk : b ≠ k) (i : Nat) (v : Value) : ZL (w.setCell ⟨k,i,none⟩ v) b o T c a:=h.of_block (Go.Deep.blk_setCell_other _ _ _ _ (by simpa using hk))
theorem OZ (h : ZL w b o T c a) : At w b (o + 7) T c a.pl:=⟨h.obj,h.pl⟩
theorem ZO (h : ZL w b o T c a) : w.cell? ⟨b,o,none⟩ = some (iV a.nx):=ZW h.obj h.nx
theorem TI (h : ZL w b o T c a) : w.cell? ⟨b,o + 1,none⟩ = some (iV a.ad):=ZW h.obj h.ad
theorem Af (h : ZL w b o T c a) : w.cell? ⟨b,o + 2,none⟩ = some (iV a.kd):=ZW h.obj h.kd
theorem WN (h : ZL w b o T c a) : w.cell? ⟨b,o + 3,none⟩ = some (iV a.sz):=ZW h.obj h.sz
theorem Xl (h : ZL w b o T c a) : w.cell? ⟨b,o + 4,none⟩ = some (iV a.sl):=ZW h.obj h.sl
theorem Tu (h : ZL w b o T c a) : w.cell? ⟨b,o + 5,none⟩ = some (iV a.gn):=ZW h.obj h.gn
theorem Rj (h : ZL w b o T c a) : w.cell? ⟨b,o + 6,none⟩ = some (.bool a.own):=ZW h.obj h.own
theorem Yw (h : ZL w b o T c a) : w.cell? ⟨b,o + 14,none⟩ = some (.int .u64 a.se):=ZW h.obj h.se
theorem RF (h : ZL w b o T c a) : w.cell? ⟨b,o + 15,none⟩ = some (iV a.ce):=ZW h.obj h.ce
theorem RD (h : ZL w b o T c a) : w.cell? ⟨b,o + 16,none⟩ = some (.int .u64 a.wa):=ZW h.obj h.wa
theorem Oe (h : ZL w b o T c a) : w.cell? ⟨b,o + 17,none⟩ = some (iV a.sp):=ZW h.obj h.sp
theorem BA (h : ZL w b o T c a) : w.cell? ⟨b,o + 18,none⟩ = some (iV a.ou):=ZW h.obj h.ou
theorem ZJ (h : ZL w b o T c a) (x : Int) : ZL (w.setCell ⟨b,o,none⟩ (iV x)) b o T (c.setIfInBounds (o) (iV x)) { a with nx:=x } :=
 ⟨ZU _ _ _ _ _ _ h.obj,h.Xz,ZQ h.pl _ (by have:=h.Xz;omega),Xc _ h.nx,Z8 h.ad (by omega),Z8 h.kd (by omega),Z8 h.sz (by omega),Z8 h.sl (by omega),Z8 h.gn (by omega),Z8 h.own (by omega),Z8 h.se (by omega),Z8 h.ce (by omega),Z8 h.wa (by omega),Z8 h.sp (by omega),Z8 h.ou (by omega)⟩
theorem WE (h : ZL w b o T c a) (x : Int) : ZL (w.setCell ⟨b,o + 14,none⟩ (.int .u64 x)) b o T (c.setIfInBounds (o + 14) (.int .u64 x)) { a with se:=x } :=
 ⟨ZU _ _ _ _ _ _ h.obj,h.Xz,ZQ h.pl _ (by have:=h.Xz;omega),Z8 h.nx (by omega),Z8 h.ad (by omega),Z8 h.kd (by omega),Z8 h.sz (by omega),Z8 h.sl (by omega),Z8 h.gn (by omega),Z8 h.own (by omega),Xc _ h.se,Z8 h.ce (by omega),Z8 h.wa (by omega),Z8 h.sp (by omega),Z8 h.ou (by omega)⟩
theorem JP (h : ZL w b o T c a) (x : Int) : ZL (w.setCell ⟨b,o + 15,none⟩ (iV x)) b o T (c.setIfInBounds (o + 15) (iV x)) { a with ce:=x } :=
 ⟨ZU _ _ _ _ _ _ h.obj,h.Xz,ZQ h.pl _ (by have:=h.Xz;omega),Z8 h.nx (by omega),Z8 h.ad (by omega),Z8 h.kd (by omega),Z8 h.sz (by omega),Z8 h.sl (by omega),Z8 h.gn (by omega),Z8 h.own (by omega),Z8 h.se (by omega),Xc _ h.ce,Z8 h.wa (by omega),Z8 h.sp (by omega),Z8 h.ou (by omega)⟩
theorem JO (h : ZL w b o T c a) (x : Int) : ZL (w.setCell ⟨b,o + 16,none⟩ (.int .u64 x)) b o T (c.setIfInBounds (o + 16) (.int .u64 x)) { a with wa:=x } :=
 ⟨ZU _ _ _ _ _ _ h.obj,h.Xz,ZQ h.pl _ (by have:=h.Xz;omega),Z8 h.nx (by omega),Z8 h.ad (by omega),Z8 h.kd (by omega),Z8 h.sz (by omega),Z8 h.sl (by omega),Z8 h.gn (by omega),Z8 h.own (by omega),Z8 h.se (by omega),Z8 h.ce (by omega),Xc _ h.wa,Z8 h.sp (by omega),Z8 h.ou (by omega)⟩
theorem QD (h : ZL w b o T c a) (x : Int) : ZL (w.setCell ⟨b,o + 17,none⟩ (iV x)) b o T (c.setIfInBounds (o + 17) (iV x)) { a with sp:=x } :=
 ⟨ZU _ _ _ _ _ _ h.obj,h.Xz,ZQ h.pl _ (by have:=h.Xz;omega),Z8 h.nx (by omega),Z8 h.ad (by omega),Z8 h.kd (by omega),Z8 h.sz (by omega),Z8 h.sl (by omega),Z8 h.gn (by omega),Z8 h.own (by omega),Z8 h.se (by omega),Z8 h.ce (by omega),Z8 h.wa (by omega),Xc _ h.sp,Z8 h.ou (by omega)⟩
theorem Bz (h : ZL w b o T c a) (x : Int) : ZL (w.setCell ⟨b,o + 18,none⟩ (iV x)) b o T (c.setIfInBounds (o + 18) (iV x)) { a with ou:=x } :=
 ⟨ZU _ _ _ _ _ _ h.obj,h.Xz,ZQ h.pl _ (by have:=h.Xz;omega),Z8 h.nx (by omega),Z8 h.ad (by omega),Z8 h.kd (by omega),Z8 h.sz (by omega),Z8 h.sl (by omega),Z8 h.gn (by omega),Z8 h.own (by omega),Z8 h.se (by omega),Z8 h.ce (by omega),Z8 h.wa (by omega),Z8 h.sp (by omega),Xc _ h.ou⟩
theorem VN (h : ZL w b o T c a) {l : List Value} (hA : At w' b (o + 7) T c' l) (hl : l.length = 7) (sm : Same (o + 7) 7 c c') : ZL w' b o T c' { a with pl:=l } :=
 ⟨hA.obj,hl,hA.is,(sm.2 _ (by omega)).trans h.nx,(sm.2 _ (by omega)).trans h.ad,(sm.2 _ (by omega)).trans h.kd,(sm.2 _ (by omega)).trans h.sz,(sm.2 _ (by omega)).trans h.sl,(sm.2 _ (by omega)).trans h.gn,(sm.2 _ (by omega)).trans h.own,(sm.2 _ (by omega)).trans h.se,(sm.2 _ (by omega)).trans h.ce,(sm.2 _ (by omega)).trans h.wa,(sm.2 _ (by omega)).trans h.sp,(sm.2 _ (by omega)).trans h.ou⟩
end ZL
def YV (L : Loc) (b o : Nat) (T : TypeId) (cs : Array Value) (w w' : World) (X : Mm -> MV -> Prop) : Prop :=
 ∃ s' cs' a',Z9 w' L s' /\ Only (L.and b) w w' /\ ZL w' b o T cs' a' /\ Same o 19 cs cs' /\ X s' a'
def Rz (L : Loc) (b o : Nat) (T : TypeId) (c c' : Array Value) (s s' : Mm) (a a' : MV) : Nat -> World -> Prop
 | 0,w=>Z9 w L s /\ ZL w b o T c a
 | 1,w=>Z9 w L s' /\ ZL w b o T c a
 | _,w=>Z9 w L s' /\ ZL w b o T c' a'
theorem Yv {L : Loc} {b o : Nat} {T : TypeId} {c c' : Array Value} {s s' : Mm} {a a' : MV} (x y : World) (p : Nat) (g : Grown x y) (k : Rz L b o T c c' s s' a a' p x) : Rz L b o T c c' s s' a a' p y:=by
 match p,k with
 | 0,k=>exact ⟨k.1.below g,k.2.grown g⟩
 | 1,k=>exact ⟨k.1.below g,k.2.grown g⟩
 | p + 2,k=>exact ⟨k.1.below g,k.2.grown g⟩
end
end Go.Proofs.YtmnnhjhhhfabiaaGreat
