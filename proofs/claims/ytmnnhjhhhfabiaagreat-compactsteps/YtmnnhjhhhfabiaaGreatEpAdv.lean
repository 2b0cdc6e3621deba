import Derived.Test.YtmnnhjhhhfabiaaGreatEpAt
import Derived.Test.YtmnnhjhhhfabiaaGreatPlaceSee
namespace Go.Proofs.YtmnnhjhhhfabiaaGreat
open Go.RowKit
set_option maxHeartbeats 1000000
set_option maxRecDepth 20000
variable {w : World} {L : Loc} {s : Mm} {b o : Nat} {T : TypeId} {cs : Array Value} {t n k m : Nat} {g p r : Int} {a : EV}
theorem YO (h : Z9 w L s) (hG : Good t n k m g p r) (hl : ZR t n k m <= s.n) (who : Int) :
 Calls Tryz.prog 152 #[eV t n k m g p r L.p who] w fun e w'=>e = .returned (.bool true) /\ Below w.heap.size w w':=by
 go_enter Tryz.func152,Tryz.ntmps152
 go_wp2
 refine ZY (fun W=>Z9 W L s /\ ZV W w.heap.size t n k m g p r L.p who /\ Below w.heap.size w W) ⟨h.alloc _,ZV.new,Zh _ _⟩ ?_
 rintro W ⟨m1,v1,o1⟩
 apply Xr;· kernel_rfl
 apply rV;· intros;apply ol;go_simp;exact gl
 apply rV;· intro w' hg _;apply ol;have y:=(v1.dg hg).yy;go_simp;exact gl
 apply rV;· intro w' hg _;apply ol;go_simp;exact cb (Xq hG _)
 iterate 2 (apply rV;· intros;apply ol;go_simp;exact gl)
 apply rV;· intro w' hg _;apply ol;have y:=(v1.dg hg).yy;go_simp;exact gl
 try simp only [pu,s0,s1]
 apply rV;· intro w' hg _;apply ol;go_simp;exact cc (len_any (m1.drew.below hg))
 apply rV;· intros;apply ol;go_simp;exact gl
 apply rV;· intro w' hg _;apply ol;have y:=(v1.dg hg).yy;go_simp;exact gl
 apply rV;· intro w' hg _;apply ol;go_simp;exact cb (WT hG _)
 apply rV;· intro w' hg _;apply ol;have z : decide ((s.n : Int) ≥ ((ZR t n k m : Nat) : Int)) = true:=decide_eq_true (by omega);go_simp;exact gl
 apply rV;· intros;apply ol;go_simp;exact gl
 try simp only [pu,s0,s1]
 apply Zb;· intros;apply ol;go_simp;exact gl
 try simp only [pu,s0,s1]
 intro w5 hg _
 go_wp2
 go_ret
 exact ⟨rfl,grow (o1.trans ((Below.refl _ _).drew)) hg⟩
def Wj (u ep : Int) : Bool:=u != 0 && u != sum64 ep 1
theorem BZ (h : Z9 w L s) (hb : ¬ L.has b) (hi : YE w b o T cs a) (who : Int) {j : Nat} (hj : a.qn = j) (kW : j <= 8) (hn : 6 + j < s.n) {u : Int} (hu : s.wd (6 + j) = u) {x : Bool} (hx : Wj u a.ep = x) :
 Calls Tryz.prog 153 #[pP b o,eV t n k m g p r L.p who] w fun e w'=>e = .returned (.tuple #[]) /\ BX L b o T cs w w' (fun s' a'=>s' = (s.by who).step (6 + j) u /\ a' = { a with qn:=((j + 1 : Nat) : Int),ov:=x }):=by
 have HU : Hid (s.wd (6 + j) = u):=hu
 have HJ : Hid (a.qn = (j : Int)):=hj
 clear hu hj
 obtain ⟨hbv,hbb⟩:=nb h hi.lt
 go_enter Tryz.func153,Tryz.ntmps153
 go_wp2
 refine wo b h (fun _ g=>hi.grown g) ?_
 rintro W ⟨m1,i1,v1,o1⟩
 apply Yc 6;· kernel_rfl
 apply rV;· intro w' hg _;apply ol;have y:=(v1.dg hg).yy;go_simp;exact gl
 iterate 3 (apply rV;· intros;apply ol;go_simp;exact gl)
 apply rV;· intro w' hg _;apply ol;have z:=(by have z:=(i1.drew.grown hg).Gg;rwa [HJ.out] at z);go_simp;exact gl
 apply Zb (c:=iV ((6 + j : Nat) : Int));· intro w' hg _;apply ol;go_simp;refine (QF _ _ (by omega) (by omega)).mono ?_;rintro e w'' ⟨rfl,rfl⟩;exact ⟨_,rfl,Grown.refl _,by simp [Want.pred]⟩
 try simp only [pu,s0,s1]
 intro w5 hg _
 have m5:=m1.drew.below hg
 have i5:=i1.drew.grown hg
 have v5:=v1.dg hg
 have o5:=o1.og hg
 clear hg m1 i1 v1 o1
 have k2:=i5.Gg
 rw [HJ.out] at k2
 have k1:=i5.MQ
 have kf:=i5.fz
 obtain ⟨v,hv⟩ : ∃ v,sum64 a.ep 1 = v:=⟨_,rfl⟩
 have hvk : IntKind.u64.wrap (a.ep + 1) = v:=hv
 have hst : Wj u a.ep = (u != 0 && u != v):=by rw [<- hv];rfl
 rw [hst] at hx
 clear hst hv
 have hx' : ((u != 0) = false /\ x = false) \/ ((u != 0) = true /\ (u != v) = x):=by
  cases h0 : (u != 0)
  · rw [h0] at hx;exact Or.inl ⟨rfl,hx.symm⟩
  · rw [h0] at hx;exact Or.inr ⟨rfl,hx⟩
 clear hx
 rcases hx' with ⟨h0,rfl⟩ | ⟨h0,h1⟩
 · go_wp2_with (go_at_call 53;refine (ZK m5 _ _ _ _ _ _ _ _ (6 + j) hn).mono ?_;rintro e w6 ⟨rfl,m6,o6⟩;rw [HU.out];rw [HU.out] at m6;have i6:=i5.only o6 hb;have l2:=i6.Gg;rw [HJ.out] at l2;have l1:=i6.MQ;have l3:=i6.RG;have lf:=i6.fz;have lX:=(i6.Ve ((j + 1 : Nat) : Int)).MQ;have lW:=(i6.Ve ((j + 1 : Nat) : Int)).RG;have vU:=(i6.Ve ((j + 1 : Nat) : Int)).fz)
   go_end0
   exact ⟨rfl,_,_,_,(m6.Z4 hb _ _).Z4 hb _ _,((o5.trans (o6.Y4 (b:=b))).set _ _).set _ _,(i6.Ve _).JZ _,(Same.refl.set (by omega) _).set (by omega) _,rfl,rfl⟩
 · go_wp2_with (go_at_call 53;refine (ZK m5 _ _ _ _ _ _ _ _ (6 + j) hn).mono ?_;rintro e w6 ⟨rfl,m6,o6⟩;rw [HU.out];rw [HU.out] at m6;have i6:=i5.only o6 hb;have l2:=i6.Gg;rw [HJ.out] at l2;have l1:=i6.MQ;have l3:=i6.RG;have lf:=i6.fz;have lX:=(i6.Ve ((j + 1 : Nat) : Int)).MQ;have lW:=(i6.Ve ((j + 1 : Nat) : Int)).RG;have vU:=(i6.Ve ((j + 1 : Nat) : Int)).fz)
   go_end0
   exact ⟨rfl,_,_,_,(m6.Z4 hb _ _).Z4 hb _ _,((o5.trans (o6.Y4 (b:=b))).set _ _).set _ _,(i6.Ve _).JZ _,(Same.refl.set (by omega) _).set (by omega) _,rfl,rfl⟩
theorem yP (h : Z9 w L s) (hb : ¬ L.has b) (hi : YE w b o T cs a) (who : Int) (hn : 0 < s.n) {x : Bool} (hx : decide (s.wd 0 = a.ep) = x) :
 Calls Tryz.prog 154 #[pP b o,eV t n k m g p r L.p who] w fun e w'=>e = .returned (.tuple #[]) /\ BX L b o T cs w w' (fun s' a'=>s' = ((s.by who).Xj 0 a.ep (sum64 a.ep 1)) /\ a' = { a with wt:=x,ov:=true }):=by
 have HU : Hid (decide (s.wd 0 = a.ep) = x):=hx
 clear hx
 obtain ⟨hbv,hbb⟩:=nb h hi.lt
 go_enter Tryz.func154,Tryz.ntmps154
 go_wp2
 refine wo b h (fun _ g=>hi.grown g) ?_
 rintro W ⟨m1,i1,v1,o1⟩
 apply V3 (R:=ZX L b (o + 4)) (yO L b o T cs (cs.setIfInBounds (o + 4) (.bool x)) s ((s.by who).Xj 0 a.ep (sum64 a.ep 1)) a { a with wt:=x }) [12,15] Uf QE ⟨m1.drew,i1.drew⟩;· kernel_rfl
 apply pV;· intros;apply ol;go_simp;exact gl
 apply pV;· intro w' hR _;apply ol;have y:=(v1.dn hR.only hbv hbb).yy;go_simp;exact gl
 apply pV;· intro w' hR _;apply ol;go_simp;exact cc (WI _)
 iterate 3 (apply pV;· intros;apply ol;go_simp;exact gl)
 try simp only [pu,s0,s1]
 apply pV;· intro w' hR _;apply ol;have z0:=hR.keep (j:=o + 1) (by omega) i1.drew.MQ;go_simp;exact gl
 iterate 3 (apply pV;· intros;apply ol;go_simp;exact gl)
 apply pV;· intro w' hR _;apply ol;have z0:=hR.keep (j:=o + 1) (by omega) i1.drew.MQ;go_simp;exact gl
 apply pV;· intros;apply ol;go_simp;exact gl
 try simp only [pu,s0,s1]
 apply pV (c:=.bool x);· intro w' hR _ hP;apply ol;go_simp;refine (Y3 (s:=s) hP.1 _ _ _ _ _ _ _ _ 0 hn _ _).mono ?_;rintro e w'' ⟨rfl,m2,o2⟩;exact ⟨_,rfl,⟨ZX.Zj o2 hb,m2,hP.2.only o2 hb⟩,by simp only [Want.pred,HU.out]⟩
 iterate 2 (apply pV;· intros;apply ol;go_simp;exact gl)
 apply U4;· intro w' hR _ hP;apply ol;have z0:=hP.2.pW;have z1:=hP.2.fz;go_simp;exact ⟨⟨ZX.set _ _,hP.1.Z4 hb _ _,hP.2.vT _⟩,trivial⟩
 try simp only [pu,s0,s1]
 try simp only [pn]
 intro vv w2 hR hP _
 obtain ⟨m2,i2⟩ : Z9 w2 L ((s.by who).Xj 0 a.ep (sum64 a.ep 1)) /\ YE w2 b o T (cs.setIfInBounds (o + 4) (.bool x)) { a with wt:=x }:=hP
 have o2 : Only (L.and b) w w2:=o1.drew.trans hR.only
 clear hR o1 v1 m1 i1
 have k3:=i2.RG
 have kf:=i2.fz
 go_wp2
 go_end0
 exact ⟨rfl,_,_,_,m2.Z4 hb _ _,o2.set _ _,i2.JZ true,(Same.refl.set (by omega) _).set (by omega) _,rfl,rfl⟩
theorem JY (h : Z9 w L s) (hb : ¬ L.has b) (hi : YE w b o T cs a) (who : Int) (hG : Good t n k m g p r) (hl : ZR t n k m <= s.n) (hov : a.ov = false) (hld : a.ld = false) {u : Int} (hu : s.wd 0 = u) :
 Calls Tryz.prog 107 #[pP b o,eV t n k m g p r L.p who] w fun e w'=>e = .returned (.bool false) /\ BX L b o T cs w w' (fun s' a'=>s' = ((s.by who).step 0 u) /\ a' = { a with ep:=u,ld:=true }):=by
 have HO : Hid (a.ov = false):=hov
 have HL : Hid (a.ld = false):=hld
 clear hov hld
 have st:=fun (w' : World) (m' : Z9 w' L s)=>YO m' hG hl who
 have hG1:=hG.t1
 have hal : 6 + t < s.n:=by have:=hG.k0;have : 6 + t + n * 2 + k * 3 + k * m <= s.n:=hl;omega
 have HU : Hid (s.wd 0 = u):=hu
 clear hu
 obtain ⟨hbv,hbb⟩:=nb h hi.lt
 have i0:=hi.grown (Zh _ (eO t n k m g p r L.p who))
 have m0:=h.alloc (eO t n k m g p r L.p who)
 have v0 : ZV (w.alloc (eO t n k m g p r L.p who)) w.heap.size t n k m g p r L.p who:=ZV.new
 have k3:=i0.RG
 rw [HO.out] at k3
 obtain ⟨y0,y1,y2,y3,y4,y5,y6,y7,y8⟩:=id v0
 go_enter Tryz.func107,Tryz.ntmps107
 go_wp2_with (go_at_call 152;refine (st _ m0).mono ?_;rintro e w1 ⟨rfl,b1⟩;have i9:=i0.grown b1;have k9:=i9.yN;rw [HL.out] at k9)
 refine ZY (fun W=>Z9 W L s /\ YE W b o T cs a /\ ZV W w.heap.size t n k m g p r L.p who /\ Only (L.and b) w W) ⟨m0.below b1,i9,v0.grown b1,((Only.refl _ _).alloc _).trans (Only.ZZ b1)⟩ ?_
 clear m0 i0 v0 k3 k9 i9 b1 st y0 y1 y2 y3 y4 y5 y6 y7 y8
 rintro W ⟨m1,i1,v1,o1⟩
 apply V3 (R:=ZX L b (o + 1)) (yO L b o T cs (cs.setIfInBounds (o + 1) (.int .u64 u)) s ((s.by who).step 0 u) a { a with ep:=u }) [3,6] Uf QE ⟨m1.drew,i1.drew⟩;· kernel_rfl
 apply pV;· intros;apply ol;go_simp;exact gl
 apply pV;· intro w' hR _;apply ol;have y:=(v1.dn hR.only hbv hbb).yy;go_simp;exact gl
 apply pV;· intro w' hR _;apply ol;go_simp;exact cc (WI _)
 apply pV (c:=.int .u64 u);· intro w' hR _ hP;apply ol;go_simp;refine (ZK (s:=s) hP.1 _ _ _ _ _ _ _ _ 0 (by omega)).mono ?_;rintro e w'' ⟨rfl,m2,o2⟩;rw [HU.out] at m2;exact ⟨_,rfl,⟨ZX.Zj o2 hb,m2,hP.2.only o2 hb⟩,by simp [Want.pred,HU.out]⟩
 iterate 2 (apply pV;· intros;apply ol;go_simp;exact gl)
 try simp only [pu,s0,s1]
 apply U4;· intro w' hR _ hP;apply ol;have z0:=hP.2.MQ;have z1:=hP.2.fz;go_simp;exact ⟨⟨ZX.set _ _,hP.1.Z4 hb _ _,hP.2.vS _⟩,trivial⟩
 try simp only [pn]
 intro vv w2 hR hP _
 obtain ⟨m2,i2⟩ : Z9 w2 L ((s.by who).step 0 u) /\ YE w2 b o T (cs.setIfInBounds (o + 1) (.int .u64 u)) { a with ep:=u }:=hP
 have o2 : Only (L.and b) w w2:=o1.drew.trans hR.only
 clear hR o1 v1 m1 i1
 have k0:=i2.yN
 have lV:=i2.RG
 have kf:=i2.fz
 have k3:=(i2.BV true).RG
 rw [show ({ a with ep:=u } : EV).ov = false from HO.out] at lV
 rw [show ({ ({ a with ep:=u } : EV) with ld:=true } : EV).ov = false from HO.out] at k3
 go_wp2
 go_ret
 exact ⟨rfl,_,_,_,m2.Z4 hb _ _,o2.set _ _,i2.BV true,(Same.refl.set (by omega) _).set (by omega) _,rfl,rfl⟩
theorem Gf (h : Z9 w L s) (hb : ¬ L.has b) (hi : YE w b o T cs a) (who : Int) (hG : Good t n k m g p r) (hl : ZR t n k m <= s.n) (hov : a.ov = false) (hld : a.ld = true) {j : Nat} (hj : a.qn = j) (hjt : j < t) {u : Int} (hu : s.wd (6 + j) = u) {x : Bool} (hx : Wj u a.ep = x) :
 Calls Tryz.prog 107 #[pP b o,eV t n k m g p r L.p who] w fun e w'=>e = .returned (.bool x) /\ BX L b o T cs w w' (fun s' a'=>s' = (s.by who).step (6 + j) u /\ a' = { a with qn:=((j + 1 : Nat) : Int),ov:=x }):=by
 have HO : Hid (a.ov = false):=hov
 have HL : Hid (a.ld = true):=hld
 clear hov hld
 have st:=fun (w' : World) (m' : Z9 w' L s)=>YO m' hG hl who
 have hG1:=hG.t1
 have hal : 6 + t < s.n:=by have:=hG.k0;have : 6 + t + n * 2 + k * 3 + k * m <= s.n:=hl;omega
 have HU : Hid (s.wd (6 + j) = u):=hu
 have HJ : Hid (a.qn = (j : Int)):=hj
 have HX : Hid (Wj u a.ep = x):=hx
 clear hu hj hx
 obtain ⟨hbv,hbb⟩:=nb h hi.lt
 have i0:=hi.grown (Zh _ (eO t n k m g p r L.p who))
 have m0:=h.alloc (eO t n k m g p r L.p who)
 have v0 : ZV (w.alloc (eO t n k m g p r L.p who)) w.heap.size t n k m g p r L.p who:=ZV.new
 have k3:=i0.RG
 rw [HO.out] at k3
 obtain ⟨y0,y1,y2,y3,y4,y5,y6,y7,y8⟩:=id v0
 go_enter Tryz.func107,Tryz.ntmps107
 go_wp2_with (go_at_call 152;refine (st _ m0).mono ?_;rintro e w1 ⟨rfl,b1⟩;have i9:=i0.grown b1;have k9:=i9.yN;rw [HL.out] at k9)
 refine ZY (fun W=>Z9 W L s /\ YE W b o T cs a /\ ZV W w.heap.size t n k m g p r L.p who /\ Only (L.and b) w W) ⟨m0.below b1,i9,v0.grown b1,((Only.refl _ _).alloc _).trans (Only.ZZ b1)⟩ ?_
 clear m0 i0 v0 k3 k9 i9 b1 st y0 y1 y2 y3 y4 y5 y6 y7 y8
 rintro W ⟨m1,i1,v1,o1⟩
 apply Xr;· kernel_rfl
 iterate 3 (apply rV;· intros;apply ol;go_simp;exact gl)
 apply rV;· intro w' hg _;apply ol;have z:=(by have z:=(i1.drew.grown hg).Gg;rwa [HJ.out] at z);go_simp;exact gl
 iterate 2 (apply rV;· intros;apply ol;go_simp;exact gl)
 try simp only [pu,s0,s1]
 apply rV;· intro w' hg _;apply ol;have y:=(v1.dg hg).yy;go_simp;exact gl
 apply rV;· intro w' hg _;apply ol;have z : decide ((j : Int) < (t : Int)) = true:=decide_eq_true (by omega);go_simp;exact gl
 apply Zb;· intros;apply ol;go_simp;exact gl
 try simp only [pu,s0,s1]
 intro w5 hg _
 have m5:=m1.drew.below hg
 have i5:=i1.drew.grown hg
 have v5:=v1.dg hg
 have o5:=o1.og hg
 clear hg m1 i1 v1 o1
 obtain ⟨y0,y1,y2,y3,y4,y5,y6,y7,y8⟩:=id v5
 go_wp2_with (go_at_call 153;refine (BZ m5 hb i5 who HJ.out (by omega) (by omega) HU.out HX.out).mono ?_;rintro e w6 ⟨rfl,s6,XD,a6,m6,o6,i6,q6,rfl,rfl⟩;have l3:=i6.RG)
 go_ret
 exact ⟨rfl,_,_,_,m6,o5.trans o6,i6,q6,rfl,rfl⟩
theorem BU (h : Z9 w L s) (hb : ¬ L.has b) (hi : YE w b o T cs a) (who : Int) (hG : Good t n k m g p r) (hl : ZR t n k m <= s.n) (hov : a.ov = false) (hld : a.ld = true) {j : Nat} (hj : a.qn = j) (hjt : t <= j) {x : Bool} (hx : decide (s.wd 0 = a.ep) = x) :
 Calls Tryz.prog 107 #[pP b o,eV t n k m g p r L.p who] w fun e w'=>e = .returned (.bool true) /\ BX L b o T cs w w' (fun s' a'=>s' = ((s.by who).Xj 0 a.ep (sum64 a.ep 1)) /\ a' = { a with wt:=x,ov:=true }):=by
 have HO : Hid (a.ov = false):=hov
 have HL : Hid (a.ld = true):=hld
 clear hov hld
 have st:=fun (w' : World) (m' : Z9 w' L s)=>YO m' hG hl who
 have hG1:=hG.t1
 have hal : 6 + t < s.n:=by have:=hG.k0;have : 6 + t + n * 2 + k * 3 + k * m <= s.n:=hl;omega
 have HJ : Hid (a.qn = (j : Int)):=hj
 have HX : Hid (decide (s.wd 0 = a.ep) = x):=hx
 clear hj hx
 obtain ⟨hbv,hbb⟩:=nb h hi.lt
 have i0:=hi.grown (Zh _ (eO t n k m g p r L.p who))
 have m0:=h.alloc (eO t n k m g p r L.p who)
 have v0 : ZV (w.alloc (eO t n k m g p r L.p who)) w.heap.size t n k m g p r L.p who:=ZV.new
 have k3:=i0.RG
 rw [HO.out] at k3
 obtain ⟨y0,y1,y2,y3,y4,y5,y6,y7,y8⟩:=id v0
 go_enter Tryz.func107,Tryz.ntmps107
 go_wp2_with (go_at_call 152;refine (st _ m0).mono ?_;rintro e w1 ⟨rfl,b1⟩;have i9:=i0.grown b1;have k9:=i9.yN;rw [HL.out] at k9)
 refine ZY (fun W=>Z9 W L s /\ YE W b o T cs a /\ ZV W w.heap.size t n k m g p r L.p who /\ Only (L.and b) w W) ⟨m0.below b1,i9,v0.grown b1,((Only.refl _ _).alloc _).trans (Only.ZZ b1)⟩ ?_
 clear m0 i0 v0 k3 k9 i9 b1 st y0 y1 y2 y3 y4 y5 y6 y7 y8
 rintro W ⟨m1,i1,v1,o1⟩
 apply Xr;· kernel_rfl
 iterate 3 (apply rV;· intros;apply ol;go_simp;exact gl)
 apply rV;· intro w' hg _;apply ol;have z:=(by have z:=(i1.drew.grown hg).Gg;rwa [HJ.out] at z);go_simp;exact gl
 iterate 2 (apply rV;· intros;apply ol;go_simp;exact gl)
 try simp only [pu,s0,s1]
 apply rV;· intro w' hg _;apply ol;have y:=(v1.dg hg).yy;go_simp;exact gl
 apply rV (c:=.bool false);· intro w' hg _;apply ol;go_simp;exact ⟨Grown.refl _,congrArg Value.bool (decide_eq_false (by omega))⟩
 apply Zb;· intros;apply ol;go_simp;exact gl
 try simp only [pu,s0,s1]
 intro w5 hg _
 have m5:=m1.drew.below hg
 have i5:=i1.drew.grown hg
 have v5:=v1.dg hg
 have o5:=o1.og hg
 clear hg m1 i1 v1 o1
 obtain ⟨y0,y1,y2,y3,y4,y5,y6,y7,y8⟩:=id v5
 go_wp2_with (go_at_call 154;refine (yP m5 hb i5 who (by omega) HX.out).mono ?_;rintro e w6 ⟨rfl,s6,XD,a6,m6,o6,i6,q6,rfl,rfl⟩;have l3:=i6.RG)
 go_ret
 exact ⟨rfl,_,_,_,m6,o5.trans o6,i6,q6,rfl,rfl⟩
end Go.Proofs.YtmnnhjhhhfabiaaGreat
