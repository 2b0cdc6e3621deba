import Derived.Test.YtmnnhjhhhfabiaaGreatMovSee
namespace Go.Proofs.YtmnnhjhhhfabiaaGreat
open Go.RowKit
set_option maxHeartbeats 1000000
set_option maxRecDepth 20000
variable {w : World} {L : Loc} {s : Mm} {b o : Nat} {T : TypeId} {cs : Array Value} {t n k m : Nat} {g p r : Int} {a : MV}
theorem JM (h : Z9 w L s) (hb : ¬ L.has b) (hi : ZL w b o T cs a) (who : Int) {A j : Nat} (had : a.ad = A) (hce : a.ce = j) (hA : A <= 1048575) (hj : j <= 16) (hn : (A + 1 + j) < s.n) {u z vr : Int} {fz : Bool} (hu : s.wd (A + 1 + j) = u) (hc : CellIs u z fz vr) {st : Int} {As : Nat} {Gs V : Int} (hs : Y6 a.se st As Gs V) (hf : fz = false) :
 Calls Tryz.prog 186 #[pP b o,eV t n k m g p r L.p who] w fun e w'=>e = .returned (.tuple #[]) /\ YV L b o T cs w w' (fun s' a'=>s' = ((s.by who).step (A + 1 + j) (s.wd (A + 1 + j))) /\ a' = { a with wa:=u,nx:=5 }):=by
 have HU : Hid (s.wd (A + 1 + j) = u):=hu
 have RV : Hid (a.ad = (A : Int)):=had
 have Qg : Hid (a.ce = (j : Int)):=hce
 have sw:=hs.call
 have cc:=hc.call
 have ff : ∀ (a1 a2 a3 a4 : Value) (w : World),(Instr.field 94 (.agg #[a1,a2,a3,a4]) 3).run Tryz.prog w = .ok a4 w:=fun a1 a2 a3 a4 w=>by kernel_rfl
 clear hu hs hc had hce
 subst hf
 obtain ⟨hbv,hbb⟩:=nb h hi.lt
 go_enter Tryz.func186,Tryz.ntmps186
 go_wp2
 refine wo b h (fun _ g=>hi.grown g) ?_
 rintro W ⟨m1,i1,v1,o1⟩
 apply V3 (R:=ZX L b (o + 16)) (Rz L b o T cs (cs.setIfInBounds (o + 16) (.int .u64 u)) s ((s.by who).step (A + 1 + j) (s.wd (A + 1 + j))) a { a with wa:=u }) [12,15] Uf Yv ⟨m1.drew,i1.drew⟩;· kernel_rfl
 apply pV;· intros;apply ol;go_simp;exact gl
 apply pV;· intro w' hR _;apply ol;have y:=(v1.dn hR.only hbv hbb).yy;go_simp;exact gl
 iterate 3 (apply pV;· intros;apply ol;go_simp;exact gl)
 apply pV;· intro w' hR _;apply ol;have z0:=hR.keep (j:=o + 1) (by omega) i1.drew.TI;go_simp;exact gl
 try simp only [pu,s0,s1]
 apply pV (c:=iV (a.ad + 1));· intro w' hR _;apply ol;go_simp;exact ⟨Grown.refl _,congrArg (Value.int .i64) (by rw [IntKind.wrap_i64];have:=RV.out;have:=Qg.out;omega)⟩
 iterate 3 (apply pV;· intros;apply ol;go_simp;exact gl)
 apply pV;· intro w' hR _;apply ol;have z0:=hR.keep (j:=o + 15) (by omega) i1.drew.RF;go_simp;exact gl
 apply pV (c:=iV (((A + 1 + j) : Nat)));· intro w' hR _;apply ol;go_simp;exact ⟨Grown.refl _,congrArg (Value.int .i64) (by rw [IntKind.wrap_i64];have:=RV.out;have:=Qg.out;omega)⟩
 try simp only [pu,s0,s1]
 apply pV (c:=.int .u64 u);· intro w' hR _ hP;apply ol;go_simp;refine (ZK (s:=s) hP.1 _ _ _ _ _ _ _ _ (A + 1 + j) hn).mono ?_;rintro e w'' ⟨rfl,m2,o2⟩;exact ⟨_,rfl,⟨ZX.Zj o2 hb,m2,hP.2.only o2 hb⟩,by simp [Want.pred,HU.out]⟩
 iterate 2 (apply pV;· intros;apply ol;go_simp;exact gl)
 apply U4;· intro w' hR _ hP;apply ol;have z0:=hP.2.RD;have z1:=hP.2.fz;go_simp;exact ⟨⟨ZX.set _ _,hP.1.Z4 hb _ _,hP.2.JO _⟩,trivial⟩
 try simp only [pu,s0,s1]
 try simp only [pn]
 intro vv w2 hR hP _
 obtain ⟨m2,i2⟩ : Z9 w2 L ((s.by who).step (A + 1 + j) (s.wd (A + 1 + j))) /\ ZL w2 b o T (cs.setIfInBounds (o + 16) (.int .u64 u)) { a with wa:=u }:=hP
 have o2 : Only (L.and b) w w2:=o1.drew.trans hR.only
 have k2 : w2.cell? ⟨b,o + 16,none⟩ = some (.int .u64 u):=i2.RD
 clear hR o1 v1 m1 i1
 go_wp2_with (go_at_call 172;refine (cc _).mono ?_;rintro e w3 ⟨rfl,b3⟩;have i3:=(i2.grown b3).grown (ZT _ (.cells #[iV z,.bool false,iV vr] 176));have k3 : (w3.alloc (.cells #[iV z,.bool false,iV vr] 176)).cell? ⟨b,o,none⟩ = some (iV a.nx):=i3.ZO;have f3:=i3.fz)
 have q0:=At.new w3 176 [iV z,.bool false,iV vr]
 obtain ⟨S,hS⟩ : ∃ S,w3.heap.size = S:=⟨_,rfl⟩
 have bS : S ≠ b:=by have:=i2.lt;have:=b3.size;omega
 rw [hS] at q0 ⊢
 obtain ⟨a1,ha1⟩ : ∃ z : MV,{ a with wa:=u,nx:=5 } = z:=⟨_,rfl⟩
 have e1 : Hid (a1.se = a.se):=by unfold Hid;rw [<- ha1]
 have i4 : ZL ((w3.alloc (.cells #[iV z,.bool false,iV vr] 176)).setCell ⟨b,o,none⟩ (iV 5)) b o T ((cs.setIfInBounds (o + 16) (.int .u64 u)).setIfInBounds o (iV 5)) a1:=by rw [<- ha1];exact i3.ZJ 5
 refine ZY (fun W=>Z9 W L ((s.by who).step (A + 1 + j) (s.wd (A + 1 + j))) /\ ZL W b o T ((cs.setIfInBounds (o + 16) (.int .u64 u)).setIfInBounds o (iV 5)) a1 /\ At W S 0 176 _ [iV z,.bool false,iV vr] /\ Only (L.and b) w W) ⟨((m2.below b3).alloc _).Z4 hb _ _,i4,q0.other bS _ _,((o2.trans (Only.ZZ b3)).alloc _).set _ _⟩ ?_
 clear b3 q0 hS m2 i2 i3 i4 o2 k2 k3 f3 cc
 rintro W ⟨m1,i1,q1,o1⟩
 apply Xr;· kernel_rfl
 apply rV;· intros;apply ol;go_simp;exact gl
 apply rV;· intro w' hg _;apply ol;have z0:=(q1.drew.grown hg).at0 1 rfl;go_simp;exact gl
 apply rV;· intros;apply ol;go_simp;exact gl
 iterate 3 (apply rV;· intros;exact ur)
 try simp only [pu,s0,s1]
 iterate 6 (apply rV;· intros;exact ur)
 try simp only [pu,s0,s1]
 apply Zb;· intros;apply ol;go_simp;exact gl
 try simp only [pu,s0,s1]
 intro w5 hg _
 have m5:=m1.drew.below hg
 have i5:=i1.drew.grown hg
 have o5:=o1.og hg
 clear hg m1 i1 q1 o1
 have k0:=i5.ZO
 have kf:=i5.fz
 go_wp2
 go_end0
 exact ⟨rfl,_,_,_,m5,o5,i5,(Same.refl.set (by omega) _).set (by omega) _,rfl,ha1.symm⟩
theorem FI (h : Z9 w L s) (hb : ¬ L.has b) (hi : ZL w b o T cs a) (who : Int) {A j : Nat} (had : a.ad = A) (hce : a.ce = j) (hA : A <= 1048575) (hj : j <= 16) (hn : (A + 1 + j) < s.n) {u z vr : Int} {fz : Bool} (hu : s.wd (A + 1 + j) = u) (hc : CellIs u z fz vr) {st : Int} {As : Nat} {Gs V : Int} (hs : Y6 a.se st As Gs V) (hf : fz = true) (hv : decide (vr ≥ V) = false) :
 Calls Tryz.prog 186 #[pP b o,eV t n k m g p r L.p who] w fun e w'=>e = .returned (.tuple #[]) /\ YV L b o T cs w w' (fun s' a'=>s' = ((s.by who).step (A + 1 + j) (s.wd (A + 1 + j))) /\ a' = { a with wa:=u,nx:=5 }):=by
 have HU : Hid (s.wd (A + 1 + j) = u):=hu
 have RV : Hid (a.ad = (A : Int)):=had
 have Qg : Hid (a.ce = (j : Int)):=hce
 have sw:=hs.call
 have cc:=hc.call
 have ff : ∀ (a1 a2 a3 a4 : Value) (w : World),(Instr.field 94 (.agg #[a1,a2,a3,a4]) 3).run Tryz.prog w = .ok a4 w:=fun a1 a2 a3 a4 w=>by kernel_rfl
 clear hu hs hc had hce
 subst hf
 have HV : Hid (decide (vr ≥ V) = false):=hv
 clear hv
 obtain ⟨hbv,hbb⟩:=nb h hi.lt
 go_enter Tryz.func186,Tryz.ntmps186
 go_wp2
 refine wo b h (fun _ g=>hi.grown g) ?_
 rintro W ⟨m1,i1,v1,o1⟩
 apply V3 (R:=ZX L b (o + 16)) (Rz L b o T cs (cs.setIfInBounds (o + 16) (.int .u64 u)) s ((s.by who).step (A + 1 + j) (s.wd (A + 1 + j))) a { a with wa:=u }) [12,15] Uf Yv ⟨m1.drew,i1.drew⟩;· kernel_rfl
 apply pV;· intros;apply ol;go_simp;exact gl
 apply pV;· intro w' hR _;apply ol;have y:=(v1.dn hR.only hbv hbb).yy;go_simp;exact gl
 iterate 3 (apply pV;· intros;apply ol;go_simp;exact gl)
 apply pV;· intro w' hR _;apply ol;have z0:=hR.keep (j:=o + 1) (by omega) i1.drew.TI;go_simp;exact gl
 try simp only [pu,s0,s1]
 apply pV (c:=iV (a.ad + 1));· intro w' hR _;apply ol;go_simp;exact ⟨Grown.refl _,congrArg (Value.int .i64) (by rw [IntKind.wrap_i64];have:=RV.out;have:=Qg.out;omega)⟩
 iterate 3 (apply pV;· intros;apply ol;go_simp;exact gl)
 apply pV;· intro w' hR _;apply ol;have z0:=hR.keep (j:=o + 15) (by omega) i1.drew.RF;go_simp;exact gl
 apply pV (c:=iV (((A + 1 + j) : Nat)));· intro w' hR _;apply ol;go_simp;exact ⟨Grown.refl _,congrArg (Value.int .i64) (by rw [IntKind.wrap_i64];have:=RV.out;have:=Qg.out;omega)⟩
 try simp only [pu,s0,s1]
 apply pV (c:=.int .u64 u);· intro w' hR _ hP;apply ol;go_simp;refine (ZK (s:=s) hP.1 _ _ _ _ _ _ _ _ (A + 1 + j) hn).mono ?_;rintro e w'' ⟨rfl,m2,o2⟩;exact ⟨_,rfl,⟨ZX.Zj o2 hb,m2,hP.2.only o2 hb⟩,by simp [Want.pred,HU.out]⟩
 iterate 2 (apply pV;· intros;apply ol;go_simp;exact gl)
 apply U4;· intro w' hR _ hP;apply ol;have z0:=hP.2.RD;have z1:=hP.2.fz;go_simp;exact ⟨⟨ZX.set _ _,hP.1.Z4 hb _ _,hP.2.JO _⟩,trivial⟩
 try simp only [pu,s0,s1]
 try simp only [pn]
 intro vv w2 hR hP _
 obtain ⟨m2,i2⟩ : Z9 w2 L ((s.by who).step (A + 1 + j) (s.wd (A + 1 + j))) /\ ZL w2 b o T (cs.setIfInBounds (o + 16) (.int .u64 u)) { a with wa:=u }:=hP
 have o2 : Only (L.and b) w w2:=o1.drew.trans hR.only
 have k2 : w2.cell? ⟨b,o + 16,none⟩ = some (.int .u64 u):=i2.RD
 clear hR o1 v1 m1 i1
 go_wp2_with (go_at_call 172;refine (cc _).mono ?_;rintro e w3 ⟨rfl,b3⟩;have i3:=(i2.grown b3).grown (ZT _ (.cells #[iV z,.bool true,iV vr] 176));have k3 : (w3.alloc (.cells #[iV z,.bool true,iV vr] 176)).cell? ⟨b,o,none⟩ = some (iV a.nx):=i3.ZO;have f3:=i3.fz)
 have q0:=At.new w3 176 [iV z,.bool true,iV vr]
 obtain ⟨S,hS⟩ : ∃ S,w3.heap.size = S:=⟨_,rfl⟩
 have bS : S ≠ b:=by have:=i2.lt;have:=b3.size;omega
 rw [hS] at q0 ⊢
 obtain ⟨a1,ha1⟩ : ∃ z : MV,{ a with wa:=u,nx:=5 } = z:=⟨_,rfl⟩
 have e1 : Hid (a1.se = a.se):=by unfold Hid;rw [<- ha1]
 have rZ:=sw
 rw [<- e1.out] at rZ
 have i4 : ZL ((w3.alloc (.cells #[iV z,.bool true,iV vr] 176)).setCell ⟨b,o,none⟩ (iV 5)) b o T ((cs.setIfInBounds (o + 16) (.int .u64 u)).setIfInBounds o (iV 5)) a1:=by rw [<- ha1];exact i3.ZJ 5
 refine ZY (fun W=>Z9 W L ((s.by who).step (A + 1 + j) (s.wd (A + 1 + j))) /\ ZL W b o T ((cs.setIfInBounds (o + 16) (.int .u64 u)).setIfInBounds o (iV 5)) a1 /\ At W S 0 176 _ [iV z,.bool true,iV vr] /\ Only (L.and b) w W) ⟨((m2.below b3).alloc _).Z4 hb _ _,i4,q0.other bS _ _,((o2.trans (Only.ZZ b3)).alloc _).set _ _⟩ ?_
 clear b3 q0 hS m2 i2 i3 i4 o2 k2 k3 f3 cc
 rintro W ⟨m1,i1,q1,o1⟩
 apply Xr;· kernel_rfl
 apply rV;· intros;apply ol;go_simp;exact gl
 apply rV;· intro w' hg _;apply ol;have z0:=(q1.drew.grown hg).at0 1 rfl;go_simp;exact gl
 iterate 2 (apply rV;· intros;apply ol;go_simp;exact gl)
 apply rV;· intro w' hg _;apply ol;have z0:=(q1.drew.grown hg).at0 2 rfl;go_simp;exact gl
 apply rV;· intros;apply ol;go_simp;exact gl
 try simp only [pu,s0,s1]
 iterate 2 (apply rV;· intros;apply ol;go_simp;exact gl)
 apply rV;· intro w' hg _;apply ol;have z0:=(i1.drew.grown hg).Yw;go_simp;exact gl
 apply rV;· intro w' hg _;apply ol;go_simp;exact cb (rZ _)
 apply rV;· intros;apply ol;go_simp;exact gl
 apply rV;· intro w' hg _;apply ol;have z : decide (vr ≥ V) = false:=HV.out;go_simp;exact gl
 try simp only [pu,s0,s1]
 apply Zb;· intros;apply ol;go_simp;exact gl
 try simp only [pu,s0,s1]
 intro w5 hg _
 have m5:=m1.drew.below hg
 have i5:=i1.drew.grown hg
 have o5:=o1.og hg
 clear hg m1 i1 q1 o1
 have k0:=i5.ZO
 have kf:=i5.fz
 go_wp2
 go_end0
 exact ⟨rfl,_,_,_,m5,o5,i5,(Same.refl.set (by omega) _).set (by omega) _,rfl,ha1.symm⟩
theorem JL (h : Z9 w L s) (hb : ¬ L.has b) (hi : ZL w b o T cs a) (who : Int) {A j : Nat} (had : a.ad = A) (hce : a.ce = j) (hA : A <= 1048575) (hj : j <= 16) (hn : (A + 1 + j) < s.n) {u z vr : Int} {fz : Bool} (hu : s.wd (A + 1 + j) = u) (hc : CellIs u z fz vr) {st : Int} {As : Nat} {Gs V : Int} (hs : Y6 a.se st As Gs V) (hf : fz = true) (hv : decide (vr ≥ V) = true) :
 Calls Tryz.prog 186 #[pP b o,eV t n k m g p r L.p who] w fun e w'=>e = .returned (.tuple #[]) /\ YV L b o T cs w w' (fun s' a'=>s' = ((s.by who).step (A + 1 + j) (s.wd (A + 1 + j))) /\ a' = { a with wa:=u,nx:=6 }):=by
 have HU : Hid (s.wd (A + 1 + j) = u):=hu
 have RV : Hid (a.ad = (A : Int)):=had
 have Qg : Hid (a.ce = (j : Int)):=hce
 have sw:=hs.call
 have cc:=hc.call
 have ff : ∀ (a1 a2 a3 a4 : Value) (w : World),(Instr.field 94 (.agg #[a1,a2,a3,a4]) 3).run Tryz.prog w = .ok a4 w:=fun a1 a2 a3 a4 w=>by kernel_rfl
 clear hu hs hc had hce
 subst hf
 have HV : Hid (decide (vr ≥ V) = true):=hv
 clear hv
 obtain ⟨hbv,hbb⟩:=nb h hi.lt
 go_enter Tryz.func186,Tryz.ntmps186
 go_wp2
 refine wo b h (fun _ g=>hi.grown g) ?_
 rintro W ⟨m1,i1,v1,o1⟩
 apply V3 (R:=ZX L b (o + 16)) (Rz L b o T cs (cs.setIfInBounds (o + 16) (.int .u64 u)) s ((s.by who).step (A + 1 + j) (s.wd (A + 1 + j))) a { a with wa:=u }) [12,15] Uf Yv ⟨m1.drew,i1.drew⟩;· kernel_rfl
 apply pV;· intros;apply ol;go_simp;exact gl
 apply pV;· intro w' hR _;apply ol;have y:=(v1.dn hR.only hbv hbb).yy;go_simp;exact gl
 iterate 3 (apply pV;· intros;apply ol;go_simp;exact gl)
 apply pV;· intro w' hR _;apply ol;have z0:=hR.keep (j:=o + 1) (by omega) i1.drew.TI;go_simp;exact gl
 try simp only [pu,s0,s1]
 apply pV (c:=iV (a.ad + 1));· intro w' hR _;apply ol;go_simp;exact ⟨Grown.refl _,congrArg (Value.int .i64) (by rw [IntKind.wrap_i64];have:=RV.out;have:=Qg.out;omega)⟩
 iterate 3 (apply pV;· intros;apply ol;go_simp;exact gl)
 apply pV;· intro w' hR _;apply ol;have z0:=hR.keep (j:=o + 15) (by omega) i1.drew.RF;go_simp;exact gl
 apply pV (c:=iV (((A + 1 + j) : Nat)));· intro w' hR _;apply ol;go_simp;exact ⟨Grown.refl _,congrArg (Value.int .i64) (by rw [IntKind.wrap_i64];have:=RV.out;have:=Qg.out;omega)⟩
 try simp only [pu,s0,s1]
 apply pV (c:=.int .u64 u);· intro w' hR _ hP;apply ol;go_simp;refine (ZK (s:=s) hP.1 _ _ _ _ _ _ _ _ (A + 1 + j) hn).mono ?_;rintro e w'' ⟨rfl,m2,o2⟩;exact ⟨_,rfl,⟨ZX.Zj o2 hb,m2,hP.2.only o2 hb⟩,by simp [Want.pred,HU.out]⟩
 iterate 2 (apply pV;· intros;apply ol;go_simp;exact gl)
 apply U4;· intro w' hR _ hP;apply ol;have z0:=hP.2.RD;have z1:=hP.2.fz;go_simp;exact ⟨⟨ZX.set _ _,hP.1.Z4 hb _ _,hP.2.JO _⟩,trivial⟩
 try simp only [pu,s0,s1]
 try simp only [pn]
 intro vv w2 hR hP _
 obtain ⟨m2,i2⟩ : Z9 w2 L ((s.by who).step (A + 1 + j) (s.wd (A + 1 + j))) /\ ZL w2 b o T (cs.setIfInBounds (o + 16) (.int .u64 u)) { a with wa:=u }:=hP
 have o2 : Only (L.and b) w w2:=o1.drew.trans hR.only
 have k2 : w2.cell? ⟨b,o + 16,none⟩ = some (.int .u64 u):=i2.RD
 clear hR o1 v1 m1 i1
 go_wp2_with (go_at_call 172;refine (cc _).mono ?_;rintro e w3 ⟨rfl,b3⟩;have i3:=(i2.grown b3).grown (ZT _ (.cells #[iV z,.bool true,iV vr] 176));have k3 : (w3.alloc (.cells #[iV z,.bool true,iV vr] 176)).cell? ⟨b,o,none⟩ = some (iV a.nx):=i3.ZO;have f3:=i3.fz)
 have q0:=At.new w3 176 [iV z,.bool true,iV vr]
 obtain ⟨S,hS⟩ : ∃ S,w3.heap.size = S:=⟨_,rfl⟩
 have bS : S ≠ b:=by have:=i2.lt;have:=b3.size;omega
 rw [hS] at q0 ⊢
 obtain ⟨a1,ha1⟩ : ∃ z : MV,{ a with wa:=u,nx:=5 } = z:=⟨_,rfl⟩
 have e1 : Hid (a1.se = a.se):=by unfold Hid;rw [<- ha1]
 have rZ:=sw
 rw [<- e1.out] at rZ
 have i4 : ZL ((w3.alloc (.cells #[iV z,.bool true,iV vr] 176)).setCell ⟨b,o,none⟩ (iV 5)) b o T ((cs.setIfInBounds (o + 16) (.int .u64 u)).setIfInBounds o (iV 5)) a1:=by rw [<- ha1];exact i3.ZJ 5
 refine ZY (fun W=>Z9 W L ((s.by who).step (A + 1 + j) (s.wd (A + 1 + j))) /\ ZL W b o T ((cs.setIfInBounds (o + 16) (.int .u64 u)).setIfInBounds o (iV 5)) a1 /\ At W S 0 176 _ [iV z,.bool true,iV vr] /\ Only (L.and b) w W) ⟨((m2.below b3).alloc _).Z4 hb _ _,i4,q0.other bS _ _,((o2.trans (Only.ZZ b3)).alloc _).set _ _⟩ ?_
 clear b3 q0 hS m2 i2 i3 i4 o2 k2 k3 f3 cc
 rintro W ⟨m1,i1,q1,o1⟩
 apply Xr;· kernel_rfl
 apply rV;· intros;apply ol;go_simp;exact gl
 apply rV;· intro w' hg _;apply ol;have z0:=(q1.drew.grown hg).at0 1 rfl;go_simp;exact gl
 iterate 2 (apply rV;· intros;apply ol;go_simp;exact gl)
 apply rV;· intro w' hg _;apply ol;have z0:=(q1.drew.grown hg).at0 2 rfl;go_simp;exact gl
 apply rV;· intros;apply ol;go_simp;exact gl
 try simp only [pu,s0,s1]
 iterate 2 (apply rV;· intros;apply ol;go_simp;exact gl)
 apply rV;· intro w' hg _;apply ol;have z0:=(i1.drew.grown hg).Yw;go_simp;exact gl
 apply rV;· intro w' hg _;apply ol;go_simp;exact cb (rZ _)
 apply rV;· intros;apply ol;go_simp;exact gl
 apply rV;· intro w' hg _;apply ol;have z : decide (vr ≥ V) = true:=HV.out;go_simp;exact gl
 try simp only [pu,s0,s1]
 apply Zb;· intros;apply ol;go_simp;exact gl
 try simp only [pu,s0,s1]
 intro w5 hg _
 have m5:=m1.drew.below hg
 have i5:=i1.drew.grown hg
 have o5:=o1.og hg
 clear hg m1 i1 q1 o1
 have k0:=i5.ZO
 have kf:=i5.fz
 go_wp2
 go_end0
 exact ⟨rfl,_,_,_,m5.Z4 hb _ _,o5.set _ _,i5.ZJ 6,((Same.refl.set (by omega) _).set (by omega) _).set (by omega) _,rfl,by rw [<- ha1]⟩
theorem JK (h : Z9 w L s) (hb : ¬ L.has b) (hi : ZL w b o T cs a) (who : Int) {A j : Nat} (had : a.ad = A) (hce : a.ce = j) (hA : A <= 1048575) (hj : j <= 16) (hn : (A + 1 + j) < s.n) {z vr : Int} {fz : Bool} (hc : CellIs a.wa z fz vr) {st : Int} {As : Nat} {Gs V : Int} (hs : Y6 a.se st As Gs V) (hd : decide (s.wd (A + 1 + j) = a.wa) = false) :
 Calls Tryz.prog 187 #[pP b o,eV t n k m g p r L.p who] w fun e w'=>e = .returned (.tuple #[]) /\ YV L b o T cs w w' (fun s' a'=>s' = ((s.by who).Xj (A + 1 + j) a.wa (XP z true V)) /\ a' = { a with nx:=4 }):=by
 have HD : Hid (decide (s.wd (A + 1 + j) = a.wa) = false):=hd
 have RV : Hid (a.ad = (A : Int)):=had
 have Qg : Hid (a.ce = (j : Int)):=hce
 have sw:=hs.call
 have ab : (As : Int) <= 1048575:=by have:=hs.ad;omega
 have gb : 0 <= Gs /\ Gs <= 65535:=by have:=hs.gn;omega
 have vb : 0 <= V /\ V <= 4194303:=by have:=hs.vr;omega
 have cc:=hc.call
 have zb : 0 <= z /\ z <= 1099511627775:=by have:=hc.vl;omega
 have pc:=fun w=>XG z true V w ⟨by omega,by omega⟩ ⟨by omega,by omega⟩
 have ff : ∀ (a1 a2 a3 a4 : Value) (w : World),(Instr.field 94 (.agg #[a1,a2,a3,a4]) 3).run Tryz.prog w = .ok a4 w:=fun a1 a2 a3 a4 w=>by kernel_rfl
 have fg : ∀ (a1 a2 a3 : Value) (w : World),(Instr.field 176 (.agg #[a1,a2,a3]) 0).run Tryz.prog w = .ok a1 w:=fun a1 a2 a3 w=>by kernel_rfl
 clear hs hc had hce hd
 obtain ⟨hbv,hbb⟩:=nb h hi.lt
 go_enter Tryz.func187,Tryz.ntmps187
 go_wp2
 refine wo b h (fun _ g=>hi.grown g) ?_
 rintro W ⟨m1,i1,v1,o1⟩
 obtain ⟨Sz,hSz⟩ : ∃ Sz,W.heap.size = Sz:=⟨_,rfl⟩
 refine Zx Grown 14 [.val (pP b o),.val (pP b o),.val (pP b (o + 16)),.val (.int .u64 a.wa),.val (.agg #[iV z,.bool fz,iV vr]),.val (iV z),.val (pP b o),.val (pP b o),.val (pP b (o + 14)),.val (.int .u64 a.se),.val (.agg #[iV st,iV As,iV Gs,iV V]),.val (iV V),.val (.agg #[iV z,.bool true,iV V]),.that (fun w' v=>∃ X,v = (pP X 0) /\ Sz <= X /\ At w' X 0 176 #[iV 0,.bool false,iV 0] [iV 0,.bool false,iV 0]) (fun _ _ _ hg h=>by obtain ⟨X,e,l,q⟩:=h;exact ⟨X,e,l,q.grown hg⟩)] (by kernel_rfl) Grown.refl Grown.trans (by decide) (by kernel_rfl) (by kernel_rfl) (by kernel_rfl) (by kernel_rfl) (by kernel_rfl) (by kernel_rfl) ?_
 simp only [List.take_succ_cons,List.take_zero,ZE,Act.put,List.setIfInBounds_toArray,List.set_cons_zero,List.set_cons_succ]
 refine ⟨?_,⟨?_,⟨?_,⟨?_,⟨?_,⟨?_,⟨?_,⟨?_,⟨?_,⟨?_,⟨?_,⟨?_,⟨?_,⟨?_,fun _=>?_⟩⟩⟩⟩⟩⟩⟩⟩⟩⟩⟩⟩⟩⟩
 · intros;apply ol;go_simp;exact gl
 · intros;apply ol;go_simp;exact gl
 · intros;apply ol;go_simp;exact gl
 · intro w' hg _;apply ol;have z0:=(i1.drew.grown hg).RD;go_simp;exact gl
 · intro w' hg _;apply ol;go_simp;exact cb (cc _)
 · intros;apply ol;go_simp;exact gl
 · intros;apply ol;go_simp;exact gl
 · intros;apply ol;go_simp;exact gl
 · intros;apply ol;go_simp;exact gl
 · intro w' hg _;apply ol;have z0:=(i1.drew.grown hg).Yw;go_simp;exact gl
 · intro w' hg _;apply ol;go_simp;exact cb (sw _)
 · intros;apply ol;go_simp;exact gl
 · intros;apply ol;go_simp;exact gl
 · intro w' hg _
   apply ol
   have hz : Sz <= w'.heap.size:=by have:=hg.size;have e : W.drew.heap.size = W.heap.size:=rfl;omega
   have q:=At.new w' 176 [iV 0,.bool false,iV 0]
   go_simp
   exact ⟨Z5 (Below.refl _ _) _,_,rfl,hz,q⟩
 intro w2 hg hf
 obtain ⟨S,rfl,vZ,q8⟩:=hf.1
 have q0:=q8.at0 0 rfl
 have q1:=q8.at0 1 rfl
 have q2:=q8.at0 2 rfl
 have qf:=q8.fz
 have lS : ¬ L.has S:=fun hh=>by have:=m1.lt _ hh;omega
 have bS : S ≠ b:=by have:=i1.lt;omega
 have eS : ¬ w.heap.size = S:=by have : w.heap.size < W.heap.size:=World.block_lt_of_cell? _ _ v1.c0;omega
 have hSw : w.heap.size <= S:=by have : w.heap.size < W.heap.size:=World.block_lt_of_cell? _ _ v1.c0;omega
 have m2:=(((m1.drew.below hg).Z4 lS 0 (iV z)).Z4 lS 1 (.bool true)).Z4 lS 2 (iV V)
 have i2:=(((i1.drew.grown hg).other bS.symm 0 (iV z)).other bS.symm 1 (.bool true)).other bS.symm 2 (iV V)
 have v2:=(((v1.dg hg).Z4 eS 0 (iV z)).Z4 eS 1 (.bool true)).Z4 eS 2 (iV V)
 have c2:=((q8.Yj 0 (iV z)).Yj 1 (.bool true)).Yj 2 (iV V)
 have o2 : Only (L.and b) w w2:=o1.drew.trans (Only.ZZ hg)
 have o3:=((o2.setCell (a:=⟨S,0,none⟩) (fun hlt=>by simp only at hlt;omega) (iV z)).setCell (a:=⟨S,1,none⟩) (fun hlt=>by simp only at hlt;omega) (.bool true)).setCell (a:=⟨S,2,none⟩) (fun hlt=>by simp only at hlt;omega) (iV V)
 have k0:=i2.ZO
 have kf:=i2.fz
 clear hf hg vZ hSz m1 v1 i1 o1 q8 o2
 go_wp2
 obtain ⟨a1,ha1⟩ : ∃ z : MV,{ a with nx:=4 } = z:=⟨_,rfl⟩
 have e1 : Hid (a1.ad = a.ad /\ a1.ce = a.ce /\ a1.wa = a.wa):=by unfold Hid;rw [<- ha1];exact ⟨rfl,rfl,rfl⟩
 have i4 : ZL ((((w2.setCell ⟨S,0,none⟩ (iV z)).setCell ⟨S,1,none⟩ (.bool true)).setCell ⟨S,2,none⟩ (iV V)).setCell ⟨b,o,none⟩ (iV 4)) b o T (cs.setIfInBounds o (iV 4)) a1:=by rw [<- ha1];exact i2.ZJ 4
 refine ZY (fun W=>Z9 W L s /\ ZL W b o T (cs.setIfInBounds o (iV 4)) a1 /\ ZV W w.heap.size t n k m g p r L.p who /\ At W S 0 176 _ [iV z,.bool true,iV V] /\ Only (L.and b) w W) ⟨m2.Z4 hb _ _,i4,v2.Z4 hbb _ _,c2.other bS _ _,o3.set _ _⟩ ?_
 clear m2 i2 v2 c2 o3 i4 k0 kf q0 q1 q2 qf cc sw
 rintro W ⟨m1,i1,v1,q1,o1⟩
 apply Yc 17;· kernel_rfl
 apply rV;· intro w' hg _;apply ol;have y:=(v1.dg hg).yy;go_simp;exact gl
 iterate 3 (apply rV;· intros;apply ol;go_simp;exact gl)
 apply rV;· intro w' hg _;apply ol;have z0:=(i1.drew.grown hg).TI;go_simp;exact gl
 apply rV (c:=iV (a1.ad + 1));· intro w' hg _;apply ol;go_simp;exact ⟨Grown.refl _,congrArg (Value.int .i64) (by rw [IntKind.wrap_i64];have:=e1.out;have:=RV.out;have:=Qg.out;omega)⟩
 try simp only [pu,s0,s1]
 iterate 3 (apply rV;· intros;apply ol;go_simp;exact gl)
 apply rV;· intro w' hg _;apply ol;have z0:=(i1.drew.grown hg).RF;go_simp;exact gl
 apply rV (c:=iV (((A + 1 + j) : Nat)));· intro w' hg _;apply ol;go_simp;exact ⟨Grown.refl _,congrArg (Value.int .i64) (by rw [IntKind.wrap_i64];have:=e1.out;have:=RV.out;have:=Qg.out;omega)⟩
 apply rV;· intros;apply ol;go_simp;exact gl
 try simp only [pu,s0,s1]
 iterate 2 (apply rV;· intros;apply ol;go_simp;exact gl)
 apply rV;· intro w' hg _;apply ol;have z0:=(i1.drew.grown hg).RD;go_simp;exact gl
 apply rV;· intro w' hg _;apply ol;have z0:=(q1.drew.grown hg).at0 0 rfl;have z1:=(q1.drew.grown hg).at0 1 rfl;have z2:=(q1.drew.grown hg).at0 2 rfl;go_simp;exact gl
 apply Zb;· intro w' hg _;apply ol;go_simp;exact cb (pc _)
 try simp only [pu,s0,s1]
 intro w5 hg _
 have m5:=m1.drew.below hg
 have i5:=i1.drew.grown hg
 have o5:=o1.og hg
 clear hg m1 i1 v1 q1 o1
 rw [e1.out.2.2]
 go_wp2_with (go_at_call 132;refine (Y3 m5 _ _ _ _ _ _ _ _ (A + 1 + j) hn _ _).mono ?_;rintro e w6 ⟨rfl,m6,o6⟩;rw [HD.out];have i6:=i5.only o6 hb;have k0:=i6.ZO;have kf:=i6.fz)
 go_end0
 exact ⟨rfl,_,_,_,m6,o5.trans (o6.Y4 (b:=b)),i6,Same.refl.set (by omega) _,rfl,ha1.symm⟩
theorem MF (h : Z9 w L s) (hb : ¬ L.has b) (hi : ZL w b o T cs a) (who : Int) {A j : Nat} (had : a.ad = A) (hce : a.ce = j) (hA : A <= 1048575) (hj : j <= 16) (hn : (A + 1 + j) < s.n) {z vr : Int} {fz : Bool} (hc : CellIs a.wa z fz vr) {st : Int} {As : Nat} {Gs V : Int} (hs : Y6 a.se st As Gs V) (hd : decide (s.wd (A + 1 + j) = a.wa) = true) :
 Calls Tryz.prog 187 #[pP b o,eV t n k m g p r L.p who] w fun e w'=>e = .returned (.tuple #[]) /\ YV L b o T cs w w' (fun s' a'=>s' = ((s.by who).Xj (A + 1 + j) a.wa (XP z true V)) /\ a' = { a with nx:=6 }):=by
 have HD : Hid (decide (s.wd (A + 1 + j) = a.wa) = true):=hd
 have RV : Hid (a.ad = (A : Int)):=had
 have Qg : Hid (a.ce = (j : Int)):=hce
 have sw:=hs.call
 have ab : (As : Int) <= 1048575:=by have:=hs.ad;omega
 have gb : 0 <= Gs /\ Gs <= 65535:=by have:=hs.gn;omega
 have vb : 0 <= V /\ V <= 4194303:=by have:=hs.vr;omega
 have cc:=hc.call
 have zb : 0 <= z /\ z <= 1099511627775:=by have:=hc.vl;omega
 have pc:=fun w=>XG z true V w ⟨by omega,by omega⟩ ⟨by omega,by omega⟩
 have ff : ∀ (a1 a2 a3 a4 : Value) (w : World),(Instr.field 94 (.agg #[a1,a2,a3,a4]) 3).run Tryz.prog w = .ok a4 w:=fun a1 a2 a3 a4 w=>by kernel_rfl
 have fg : ∀ (a1 a2 a3 : Value) (w : World),(Instr.field 176 (.agg #[a1,a2,a3]) 0).run Tryz.prog w = .ok a1 w:=fun a1 a2 a3 w=>by kernel_rfl
 clear hs hc had hce hd
 obtain ⟨hbv,hbb⟩:=nb h hi.lt
 go_enter Tryz.func187,Tryz.ntmps187
 go_wp2
 refine wo b h (fun _ g=>hi.grown g) ?_
 rintro W ⟨m1,i1,v1,o1⟩
 obtain ⟨Sz,hSz⟩ : ∃ Sz,W.heap.size = Sz:=⟨_,rfl⟩
 refine Zx Grown 14 [.val (pP b o),.val (pP b o),.val (pP b (o + 16)),.val (.int .u64 a.wa),.val (.agg #[iV z,.bool fz,iV vr]),.val (iV z),.val (pP b o),.val (pP b o),.val (pP b (o + 14)),.val (.int .u64 a.se),.val (.agg #[iV st,iV As,iV Gs,iV V]),.val (iV V),.val (.agg #[iV z,.bool true,iV V]),.that (fun w' v=>∃ X,v = (pP X 0) /\ Sz <= X /\ At w' X 0 176 #[iV 0,.bool false,iV 0] [iV 0,.bool false,iV 0]) (fun _ _ _ hg h=>by obtain ⟨X,e,l,q⟩:=h;exact ⟨X,e,l,q.grown hg⟩)] (by kernel_rfl) Grown.refl Grown.trans (by decide) (by kernel_rfl) (by kernel_rfl) (by kernel_rfl) (by kernel_rfl) (by kernel_rfl) (by kernel_rfl) ?_
 simp only [List.take_succ_cons,List.take_zero,ZE,Act.put,List.setIfInBounds_toArray,List.set_cons_zero,List.set_cons_succ]
 refine ⟨?_,⟨?_,⟨?_,⟨?_,⟨?_,⟨?_,⟨?_,⟨?_,⟨?_,⟨?_,⟨?_,⟨?_,⟨?_,⟨?_,fun _=>?_⟩⟩⟩⟩⟩⟩⟩⟩⟩⟩⟩⟩⟩⟩
 · intros;apply ol;go_simp;exact gl
 · intros;apply ol;go_simp;exact gl
 · intros;apply ol;go_simp;exact gl
 · intro w' hg _;apply ol;have z0:=(i1.drew.grown hg).RD;go_simp;exact gl
 · intro w' hg _;apply ol;go_simp;exact cb (cc _)
 · intros;apply ol;go_simp;exact gl
 · intros;apply ol;go_simp;exact gl
 · intros;apply ol;go_simp;exact gl
 · intros;apply ol;go_simp;exact gl
 · intro w' hg _;apply ol;have z0:=(i1.drew.grown hg).Yw;go_simp;exact gl
 · intro w' hg _;apply ol;go_simp;exact cb (sw _)
 · intros;apply ol;go_simp;exact gl
 · intros;apply ol;go_simp;exact gl
 · intro w' hg _
   apply ol
   have hz : Sz <= w'.heap.size:=by have:=hg.size;have e : W.drew.heap.size = W.heap.size:=rfl;omega
   have q:=At.new w' 176 [iV 0,.bool false,iV 0]
   go_simp
   exact ⟨Z5 (Below.refl _ _) _,_,rfl,hz,q⟩
 intro w2 hg hf
 obtain ⟨S,rfl,vZ,q8⟩:=hf.1
 have q0:=q8.at0 0 rfl
 have q1:=q8.at0 1 rfl
 have q2:=q8.at0 2 rfl
 have qf:=q8.fz
 have lS : ¬ L.has S:=fun hh=>by have:=m1.lt _ hh;omega
 have bS : S ≠ b:=by have:=i1.lt;omega
 have eS : ¬ w.heap.size = S:=by have : w.heap.size < W.heap.size:=World.block_lt_of_cell? _ _ v1.c0;omega
 have hSw : w.heap.size <= S:=by have : w.heap.size < W.heap.size:=World.block_lt_of_cell? _ _ v1.c0;omega
 have m2:=(((m1.drew.below hg).Z4 lS 0 (iV z)).Z4 lS 1 (.bool true)).Z4 lS 2 (iV V)
 have i2:=(((i1.drew.grown hg).other bS.symm 0 (iV z)).other bS.symm 1 (.bool true)).other bS.symm 2 (iV V)
 have v2:=(((v1.dg hg).Z4 eS 0 (iV z)).Z4 eS 1 (.bool true)).Z4 eS 2 (iV V)
 have c2:=((q8.Yj 0 (iV z)).Yj 1 (.bool true)).Yj 2 (iV V)
 have o2 : Only (L.and b) w w2:=o1.drew.trans (Only.ZZ hg)
 have o3:=((o2.setCell (a:=⟨S,0,none⟩) (fun hlt=>by simp only at hlt;omega) (iV z)).setCell (a:=⟨S,1,none⟩) (fun hlt=>by simp only at hlt;omega) (.bool true)).setCell (a:=⟨S,2,none⟩) (fun hlt=>by simp only at hlt;omega) (iV V)
 have k0:=i2.ZO
 have kf:=i2.fz
 clear hf hg vZ hSz m1 v1 i1 o1 q8 o2
 go_wp2
 obtain ⟨a1,ha1⟩ : ∃ z : MV,{ a with nx:=4 } = z:=⟨_,rfl⟩
 have e1 : Hid (a1.ad = a.ad /\ a1.ce = a.ce /\ a1.wa = a.wa):=by unfold Hid;rw [<- ha1];exact ⟨rfl,rfl,rfl⟩
 have i4 : ZL ((((w2.setCell ⟨S,0,none⟩ (iV z)).setCell ⟨S,1,none⟩ (.bool true)).setCell ⟨S,2,none⟩ (iV V)).setCell ⟨b,o,none⟩ (iV 4)) b o T (cs.setIfInBounds o (iV 4)) a1:=by rw [<- ha1];exact i2.ZJ 4
 refine ZY (fun W=>Z9 W L s /\ ZL W b o T (cs.setIfInBounds o (iV 4)) a1 /\ ZV W w.heap.size t n k m g p r L.p who /\ At W S 0 176 _ [iV z,.bool true,iV V] /\ Only (L.and b) w W) ⟨m2.Z4 hb _ _,i4,v2.Z4 hbb _ _,c2.other bS _ _,o3.set _ _⟩ ?_
 clear m2 i2 v2 c2 o3 i4 k0 kf q0 q1 q2 qf cc sw
 rintro W ⟨m1,i1,v1,q1,o1⟩
 apply Yc 17;· kernel_rfl
 apply rV;· intro w' hg _;apply ol;have y:=(v1.dg hg).yy;go_simp;exact gl
 iterate 3 (apply rV;· intros;apply ol;go_simp;exact gl)
 apply rV;· intro w' hg _;apply ol;have z0:=(i1.drew.grown hg).TI;go_simp;exact gl
 apply rV (c:=iV (a1.ad + 1));· intro w' hg _;apply ol;go_simp;exact ⟨Grown.refl _,congrArg (Value.int .i64) (by rw [IntKind.wrap_i64];have:=e1.out;have:=RV.out;have:=Qg.out;omega)⟩
 try simp only [pu,s0,s1]
 iterate 3 (apply rV;· intros;apply ol;go_simp;exact gl)
 apply rV;· intro w' hg _;apply ol;have z0:=(i1.drew.grown hg).RF;go_simp;exact gl
 apply rV (c:=iV (((A + 1 + j) : Nat)));· intro w' hg _;apply ol;go_simp;exact ⟨Grown.refl _,congrArg (Value.int .i64) (by rw [IntKind.wrap_i64];have:=e1.out;have:=RV.out;have:=Qg.out;omega)⟩
 apply rV;· intros;apply ol;go_simp;exact gl
 try simp only [pu,s0,s1]
 iterate 2 (apply rV;· intros;apply ol;go_simp;exact gl)
 apply rV;· intro w' hg _;apply ol;have z0:=(i1.drew.grown hg).RD;go_simp;exact gl
 apply rV;· intro w' hg _;apply ol;have z0:=(q1.drew.grown hg).at0 0 rfl;have z1:=(q1.drew.grown hg).at0 1 rfl;have z2:=(q1.drew.grown hg).at0 2 rfl;go_simp;exact gl
 apply Zb;· intro w' hg _;apply ol;go_simp;exact cb (pc _)
 try simp only [pu,s0,s1]
 intro w5 hg _
 have m5:=m1.drew.below hg
 have i5:=i1.drew.grown hg
 have o5:=o1.og hg
 clear hg m1 i1 v1 q1 o1
 rw [e1.out.2.2]
 go_wp2_with (go_at_call 132;refine (Y3 m5 _ _ _ _ _ _ _ _ (A + 1 + j) hn _ _).mono ?_;rintro e w6 ⟨rfl,m6,o6⟩;rw [HD.out];have i6:=i5.only o6 hb;have k0:=i6.ZO;have kf:=i6.fz)
 go_end0
 exact ⟨rfl,_,_,_,m6.Z4 hb _ _,(o5.trans (o6.Y4 (b:=b))).set _ _,i6.ZJ 6,(Same.refl.set (by omega) _).set (by omega) _,rfl,by rw [<- ha1]⟩
theorem JJ (h : Z9 w L s) (hb : ¬ L.has b) (hi : ZL w b o T cs a) (who : Int) {j : Nat} (hce : a.ce = j) (hj : j <= 16) {z vr : Int} {fz : Bool} (hc : CellIs a.wa z fz vr) {κ : Nat} {τ : Pl} (hp : τ.cells κ a.pl) {B i : Nat} {dp : Bool} (ht : τ.told = (B,i,dp)) (hB : B <= 1048575) (hn : (B + 1 + j) < s.n) (hv : decide ((j : Int) + 1 ≥ a.sz) = false) :
 Calls Tryz.prog 188 #[pP b o,eV t n k m g p r L.p who] w fun e w'=>e = .returned (.tuple #[]) /\ YV L b o T cs w w' (fun s' a'=>s' = ((s.by who).step (B + 1 + j) (XP z false 0)) /\ a' = { a with ce:=(j : Int) + 1,nx:=4 }):=by
 have Qg : Hid (a.ce = (j : Int)):=hce
 have MC : Hid (τ.cells κ a.pl):=hp
 have MB : Hid (τ.told = (B,i,dp)):=ht
 have HV : Hid (decide ((j : Int) + 1 ≥ a.sz) = false):=hv
 have cc:=hc.call
 have zb : 0 <= z /\ z <= 1099511627775:=by have:=hc.vl;omega
 have pc:=fun w=>XG z false 0 w ⟨by omega,by omega⟩ ⟨by omega,by omega⟩
 have lK : IntKind.i64.wrap ((j : Int) + 1) = (j : Int) + 1:=by rw [IntKind.wrap_i64];omega
 have fs:=Pm
 have fg : ∀ (a1 a2 a3 : Value) (w : World),(Instr.field 176 (.agg #[a1,a2,a3]) 0).run Tryz.prog w = .ok a1 w:=fun a1 a2 a3 w=>by kernel_rfl
 clear hc hce hp ht hv
 obtain ⟨hbv,hbb⟩:=nb h hi.lt
 go_enter Tryz.func188,Tryz.ntmps188
 go_wp2
 refine wo b h (fun _ g=>hi.grown g) ?_
 rintro W ⟨m1,i1,v1,o1⟩
 apply Yc 18;· kernel_rfl
 apply rV;· intro w' hg _;apply ol;have y:=(v1.dg hg).yy;go_simp;exact gl
 apply rV;· intros;apply ol;go_simp;exact gl
 apply rV;· intro w' hg _;apply ol;go_simp;exact cb (XU (i1.drew.grown hg) MC.out MB.out)
 apply rV;· intros;apply ol;go_simp;exact gl
 apply rV (c:=iV ((B + 1 : Nat)));· intro w' hg _;apply ol;go_simp;exact ⟨Grown.refl _,congrArg (Value.int .i64) (by rw [IntKind.wrap_i64];have:=Qg.out;omega)⟩
 apply rV;· intros;apply ol;go_simp;exact gl
 try simp only [pu,s0,s1]
 iterate 2 (apply rV;· intros;apply ol;go_simp;exact gl)
 apply rV;· intro w' hg _;apply ol;have z0:=(i1.drew.grown hg).RF;go_simp;exact gl
 apply rV (c:=iV (((B + 1 + j) : Nat)));· intro w' hg _;apply ol;go_simp;exact ⟨Grown.refl _,congrArg (Value.int .i64) (by rw [IntKind.wrap_i64];have:=Qg.out;omega)⟩
 iterate 2 (apply rV;· intros;apply ol;go_simp;exact gl)
 try simp only [pu,s0,s1]
 apply rV;· intros;apply ol;go_simp;exact gl
 apply rV;· intro w' hg _;apply ol;have z0:=(i1.drew.grown hg).RD;go_simp;exact gl
 apply rV;· intro w' hg _;apply ol;go_simp;exact cb (cc _)
 iterate 2 (apply rV;· intros;apply ol;go_simp;exact gl)
 apply Zb;· intro w' hg _;apply ol;go_simp;exact cb (pc _)
 try simp only [pu,s0,s1]
 intro w5 hg _
 have m5:=m1.drew.below hg
 have i5:=i1.drew.grown hg
 have o5:=o1.og hg
 clear hg m1 i1 v1 o1 cc pc
 go_wp2_with (go_at_call 55;refine (Yr m5 _ _ _ _ _ _ _ _ (B + 1 + j) hn _).mono ?_;rintro e w6 ⟨rfl,m6,o6⟩;have i6:=i5.only o6 hb;have k15:=i6.RF;rw [Qg.out] at k15;have kf:=i6.fz;have i7:=i6.JP ((j : Int) + 1);have k7 : (w6.setCell ⟨b,o + 15,none⟩ (iV ((j : Int) + 1))).cell? ⟨b,o,none⟩ = some (iV a.nx):=i7.ZO;have f7:=i7.fz)
 obtain ⟨a1,ha1⟩ : ∃ z : MV,{ a with ce:=(j : Int) + 1,nx:=4 } = z:=⟨_,rfl⟩
 have e1 : Hid (a1.ce = (j : Int) + 1 /\ a1.sz = a.sz):=by unfold Hid;rw [<- ha1];exact ⟨rfl,rfl⟩
 have pM : Hid (decide (a1.ce ≥ a1.sz) = false):=by unfold Hid;rw [e1.out.1,e1.out.2];exact HV.out
 have i8 : ZL ((w6.setCell ⟨b,o + 15,none⟩ (iV ((j : Int) + 1))).setCell ⟨b,o,none⟩ (iV 4)) b o T ((cs.setIfInBounds (o + 15) (iV ((j : Int) + 1))).setIfInBounds o (iV 4)) a1:=by rw [<- ha1];exact i7.ZJ 4
 refine ZY (fun W=>Z9 W L ((s.by who).step (B + 1 + j) (XP z false 0)) /\ ZL W b o T ((cs.setIfInBounds (o + 15) (iV ((j : Int) + 1))).setIfInBounds o (iV 4)) a1 /\ Only (L.and b) w W) ⟨(m6.Z4 hb _ _).Z4 hb _ _,i8,((o5.trans (o6.Y4 (b:=b))).set _ _).set _ _⟩ ?_
 clear m5 i5 o5 m6 i6 o6 i7 i8 k15 kf k7 f7
 rintro W ⟨m1,i1,o1⟩
 apply Xr;· kernel_rfl
 iterate 3 (apply rV;· intros;apply ol;go_simp;exact gl)
 apply rV;· intro w' hg _;apply ol;have z0:=(i1.drew.grown hg).RF;go_simp;exact gl
 iterate 2 (apply rV;· intros;apply ol;go_simp;exact gl)
 try simp only [pu,s0,s1]
 iterate 2 (apply rV;· intros;apply ol;go_simp;exact gl)
 apply rV;· intro w' hg _;apply ol;have z0:=(i1.drew.grown hg).WN;go_simp;exact gl
 apply Zb;· intro w' hg _;apply ol;have z : decide (a1.ce ≥ a1.sz) = false:=pM.out;go_simp;exact gl
 try simp only [pu,s0,s1]
 intro w7 hg _
 have m7:=m1.drew.below hg
 have i7:=i1.drew.grown hg
 have o7 : Only (L.and b) w w7:=o1.drew.trans (Only.ZZ hg)
 clear hg m1 i1 o1
 have k0:=i7.ZO
 have kf:=i7.fz
 go_wp2
 go_end0
 exact ⟨rfl,_,_,_,m7,o7,i7,(Same.refl.set (by omega) _).set (by omega) _,rfl,ha1.symm⟩
theorem JI (h : Z9 w L s) (hb : ¬ L.has b) (hi : ZL w b o T cs a) (who : Int) {j : Nat} (hce : a.ce = j) (hj : j <= 16) {z vr : Int} {fz : Bool} (hc : CellIs a.wa z fz vr) {κ : Nat} {τ : Pl} (hp : τ.cells κ a.pl) {B i : Nat} {dp : Bool} (ht : τ.told = (B,i,dp)) (hB : B <= 1048575) (hn : (B + 1 + j) < s.n) (hv : decide ((j : Int) + 1 ≥ a.sz) = true) :
 Calls Tryz.prog 188 #[pP b o,eV t n k m g p r L.p who] w fun e w'=>e = .returned (.tuple #[]) /\ YV L b o T cs w w' (fun s' a'=>s' = ((s.by who).step (B + 1 + j) (XP z false 0)) /\ a' = { a with ce:=(j : Int) + 1,nx:=7 }):=by
 have Qg : Hid (a.ce = (j : Int)):=hce
 have MC : Hid (τ.cells κ a.pl):=hp
 have MB : Hid (τ.told = (B,i,dp)):=ht
 have HV : Hid (decide ((j : Int) + 1 ≥ a.sz) = true):=hv
 have cc:=hc.call
 have zb : 0 <= z /\ z <= 1099511627775:=by have:=hc.vl;omega
 have pc:=fun w=>XG z false 0 w ⟨by omega,by omega⟩ ⟨by omega,by omega⟩
 have lK : IntKind.i64.wrap ((j : Int) + 1) = (j : Int) + 1:=by rw [IntKind.wrap_i64];omega
 have fs:=Pm
 have fg : ∀ (a1 a2 a3 : Value) (w : World),(Instr.field 176 (.agg #[a1,a2,a3]) 0).run Tryz.prog w = .ok a1 w:=fun a1 a2 a3 w=>by kernel_rfl
 clear hc hce hp ht hv
 obtain ⟨hbv,hbb⟩:=nb h hi.lt
 go_enter Tryz.func188,Tryz.ntmps188
 go_wp2
 refine wo b h (fun _ g=>hi.grown g) ?_
 rintro W ⟨m1,i1,v1,o1⟩
 apply Yc 18;· kernel_rfl
 apply rV;· intro w' hg _;apply ol;have y:=(v1.dg hg).yy;go_simp;exact gl
 apply rV;· intros;apply ol;go_simp;exact gl
 apply rV;· intro w' hg _;apply ol;go_simp;exact cb (XU (i1.drew.grown hg) MC.out MB.out)
 apply rV;· intros;apply ol;go_simp;exact gl
 apply rV (c:=iV ((B + 1 : Nat)));· intro w' hg _;apply ol;go_simp;exact ⟨Grown.refl _,congrArg (Value.int .i64) (by rw [IntKind.wrap_i64];have:=Qg.out;omega)⟩
 apply rV;· intros;apply ol;go_simp;exact gl
 try simp only [pu,s0,s1]
 iterate 2 (apply rV;· intros;apply ol;go_simp;exact gl)
 apply rV;· intro w' hg _;apply ol;have z0:=(i1.drew.grown hg).RF;go_simp;exact gl
 apply rV (c:=iV (((B + 1 + j) : Nat)));· intro w' hg _;apply ol;go_simp;exact ⟨Grown.refl _,congrArg (Value.int .i64) (by rw [IntKind.wrap_i64];have:=Qg.out;omega)⟩
 iterate 2 (apply rV;· intros;apply ol;go_simp;exact gl)
 try simp only [pu,s0,s1]
 apply rV;· intros;apply ol;go_simp;exact gl
 apply rV;· intro w' hg _;apply ol;have z0:=(i1.drew.grown hg).RD;go_simp;exact gl
 apply rV;· intro w' hg _;apply ol;go_simp;exact cb (cc _)
 iterate 2 (apply rV;· intros;apply ol;go_simp;exact gl)
 apply Zb;· intro w' hg _;apply ol;go_simp;exact cb (pc _)
 try simp only [pu,s0,s1]
 intro w5 hg _
 have m5:=m1.drew.below hg
 have i5:=i1.drew.grown hg
 have o5:=o1.og hg
 clear hg m1 i1 v1 o1 cc pc
 go_wp2_with (go_at_call 55;refine (Yr m5 _ _ _ _ _ _ _ _ (B + 1 + j) hn _).mono ?_;rintro e w6 ⟨rfl,m6,o6⟩;have i6:=i5.only o6 hb;have k15:=i6.RF;rw [Qg.out] at k15;have kf:=i6.fz;have i7:=i6.JP ((j : Int) + 1);have k7 : (w6.setCell ⟨b,o + 15,none⟩ (iV ((j : Int) + 1))).cell? ⟨b,o,none⟩ = some (iV a.nx):=i7.ZO;have f7:=i7.fz)
 obtain ⟨a1,ha1⟩ : ∃ z : MV,{ a with ce:=(j : Int) + 1,nx:=4 } = z:=⟨_,rfl⟩
 have e1 : Hid (a1.ce = (j : Int) + 1 /\ a1.sz = a.sz):=by unfold Hid;rw [<- ha1];exact ⟨rfl,rfl⟩
 have pM : Hid (decide (a1.ce ≥ a1.sz) = true):=by unfold Hid;rw [e1.out.1,e1.out.2];exact HV.out
 have i8 : ZL ((w6.setCell ⟨b,o + 15,none⟩ (iV ((j : Int) + 1))).setCell ⟨b,o,none⟩ (iV 4)) b o T ((cs.setIfInBounds (o + 15) (iV ((j : Int) + 1))).setIfInBounds o (iV 4)) a1:=by rw [<- ha1];exact i7.ZJ 4
 refine ZY (fun W=>Z9 W L ((s.by who).step (B + 1 + j) (XP z false 0)) /\ ZL W b o T ((cs.setIfInBounds (o + 15) (iV ((j : Int) + 1))).setIfInBounds o (iV 4)) a1 /\ Only (L.and b) w W) ⟨(m6.Z4 hb _ _).Z4 hb _ _,i8,((o5.trans (o6.Y4 (b:=b))).set _ _).set _ _⟩ ?_
 clear m5 i5 o5 m6 i6 o6 i7 i8 k15 kf k7 f7
 rintro W ⟨m1,i1,o1⟩
 apply Xr;· kernel_rfl
 iterate 3 (apply rV;· intros;apply ol;go_simp;exact gl)
 apply rV;· intro w' hg _;apply ol;have z0:=(i1.drew.grown hg).RF;go_simp;exact gl
 iterate 2 (apply rV;· intros;apply ol;go_simp;exact gl)
 try simp only [pu,s0,s1]
 iterate 2 (apply rV;· intros;apply ol;go_simp;exact gl)
 apply rV;· intro w' hg _;apply ol;have z0:=(i1.drew.grown hg).WN;go_simp;exact gl
 apply Zb;· intro w' hg _;apply ol;have z : decide (a1.ce ≥ a1.sz) = true:=pM.out;go_simp;exact gl
 try simp only [pu,s0,s1]
 intro w7 hg _
 have m7:=m1.drew.below hg
 have i7:=i1.drew.grown hg
 have o7 : Only (L.and b) w w7:=o1.drew.trans (Only.ZZ hg)
 clear hg m1 i1 o1
 have k0:=i7.ZO
 have kf:=i7.fz
 go_wp2
 go_end0
 exact ⟨rfl,_,_,_,m7.Z4 hb _ _,o7.set _ _,i7.ZJ 7,((Same.refl.set (by omega) _).set (by omega) _).set (by omega) _,rfl,by rw [<- ha1]⟩
end Go.Proofs.YtmnnhjhhhfabiaaGreat
