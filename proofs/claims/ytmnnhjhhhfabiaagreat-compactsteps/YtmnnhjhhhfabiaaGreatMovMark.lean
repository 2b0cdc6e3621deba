import Derived.Test.YtmnnhjhhhfabiaaGreatMovSee
namespace Go.Proofs.YtmnnhjhhhfabiaaGreat
open Go.RowKit
set_option maxHeartbeats 1000000
set_option maxRecDepth 20000
variable {w : World} {L : Loc} {s : Mm} {b o : Nat} {T : TypeId} {cs : Array Value} {t n k m : Nat} {g p r : Int} {a : MV}
theorem Bo (h : Z9 w L s) (hb : ¬ L.has b) (hi : ZL w b o T cs a) (who : Int) (hG : Good t n k m g p r) {x : Nat} (hx : x < n) (hsl : a.sl = x) (hn : (6 + t + x * 2) < s.n) {st : Int} {A : Nat} {Gs V : Int} (hs : Y6 a.se st A Gs V) (hd : decide (s.wd (6 + t + x * 2) = a.se) = false) :
 Calls Tryz.prog 185 #[pP b o,eV t n k m g p r L.p who] w fun e w'=>e = .returned (.tuple #[]) /\ YV L b o T cs w w' (fun s' a'=>s' = ((s.by who).Xj (6 + t + x * 2) a.se (Zp 2 A Gs V)) /\ a' = { a with nx:=0 }):=by
 have HX : Hid (a.sl = (x : Int)):=hsl
 have HD : Hid (decide (s.wd (6 + t + x * 2) = a.se) = false):=hd
 have sw:=hs.call
 have ab : (A : Int) <= 1048575:=by have:=hs.ad;omega
 have gb : 0 <= Gs /\ Gs <= 65535:=by have:=hs.gn;omega
 have vb : 0 <= V /\ V <= 4194303:=by have:=hs.vr;omega
 have ps:=fun w=>YR 2 A Gs V w ⟨by omega,by omega⟩ ⟨by omega,by omega⟩ ⟨by omega,by omega⟩ ⟨by omega,by omega⟩
 clear hs hd hsl
 obtain ⟨hbv,hbb⟩:=nb h hi.lt
 have i0:=hi.grown (ZT _ (eO t n k m g p r L.p who))
 have k3:=i0.Yw
 go_enter Tryz.func185,Tryz.ntmps185
 go_wp2_with (first
  | (go_at_call 47;refine (sw _).mono ?_;rintro e w3 ⟨rfl,b3⟩;have q3:=At.new w3 94 [iV st,iV A,iV Gs,iV V];have z0:=q3.at0 0 rfl;have qf:=q3.fz;have q4:=At.new w3 94 [iV 2,iV A,iV Gs,iV V];have y0:=q4.at0 0 rfl;have y1:=q4.at0 1 rfl;have y2:=q4.at0 2 rfl;have y3:=q4.at0 3 rfl)
  | (go_at_call 71;refine (ps _).mono ?_;rintro e w4 ⟨rfl,b4⟩))
 refine ZY (fun W=>Z9 W L s /\ ZL W b o T cs a /\ ZV W w.heap.size t n k m g p r L.p who /\ Only (L.and b) w W) ⟨(((h.alloc _).below b3).alloc _).below b4,((i0.grown b3).grown (ZT _ _)).grown b4,((ZV.new.grown b3).grown (ZT _ _)).grown b4,((((Only.refl _ _).alloc _).trans (Only.ZZ b3)).alloc _).trans (Only.ZZ b4)⟩ ?_
 clear b3 b4 i0 k3 sw ps q3 q4 z0 qf y0 y1 y2 y3
 rintro W ⟨m1,i1,v1,o1⟩
 apply Yc 9;· kernel_rfl
 apply rV;· intro w' hg _;apply ol;have y:=(v1.dg hg).yy;go_simp;exact gl
 apply rV;· intros;apply ol;go_simp;exact gl
 apply rV;· intro w' hg _;apply ol;have y:=(v1.dg hg).yy;go_simp;exact gl
 apply rV;· intro w' hg _;apply ol;go_simp;exact cb (YB (by have z:=(i1.drew.grown hg).Xl;rwa [HX.out] at z) L.p who hG hx)
 iterate 2 (apply rV;· intros;apply ol;go_simp;exact gl)
 try simp only [pu,s0,s1]
 apply rV;· intros;apply ol;go_simp;exact gl
 apply rV;· intro w' hg _;apply ol;have z0:=(i1.drew.grown hg).Yw;go_simp;exact gl
 apply Zb;· intros;apply ol;go_simp;exact gl
 try simp only [pu,s0,s1]
 intro w5 hg _
 have m5:=m1.drew.below hg
 have i5:=i1.drew.grown hg
 have o5:=o1.og hg
 clear hg m1 i1 v1 o1
 go_wp2_with (go_at_call 132;refine (Y3 m5 _ _ _ _ _ _ _ _ (6 + t + x * 2) hn _ _).mono ?_;rintro e w6 ⟨rfl,m6,o6⟩;rw [HD.out];have i6:=i5.only o6 hb;have k0:=i6.ZO;have k14:=i6.Yw;have kf:=i6.fz)
 refine bodyPost_ret (results_none rfl _ _ _) rfl ?_
 exact ⟨rfl,_,_,_,m6.Z4 hb _ _,(o5.trans (o6.Y4 (b:=b))).set _ _,i6.ZJ 0,Same.refl.set (by omega) _,rfl,rfl⟩
theorem Fq (h : Z9 w L s) (hb : ¬ L.has b) (hi : ZL w b o T cs a) (who : Int) (hG : Good t n k m g p r) {x : Nat} (hx : x < n) (hsl : a.sl = x) (hn : (6 + t + x * 2) < s.n) {st : Int} {A : Nat} {Gs V : Int} (hs : Y6 a.se st A Gs V) (hd : decide (s.wd (6 + t + x * 2) = a.se) = true) :
 Calls Tryz.prog 185 #[pP b o,eV t n k m g p r L.p who] w fun e w'=>e = .returned (.tuple #[]) /\ YV L b o T cs w w' (fun s' a'=>s' = ((s.by who).Xj (6 + t + x * 2) a.se (Zp 2 A Gs V)) /\ a' = { a with se:=(Zp 2 A Gs V),ce:=0,nx:=4 }):=by
 have HX : Hid (a.sl = (x : Int)):=hsl
 have HD : Hid (decide (s.wd (6 + t + x * 2) = a.se) = true):=hd
 have sw:=hs.call
 have ab : (A : Int) <= 1048575:=by have:=hs.ad;omega
 have gb : 0 <= Gs /\ Gs <= 65535:=by have:=hs.gn;omega
 have vb : 0 <= V /\ V <= 4194303:=by have:=hs.vr;omega
 have ps:=fun w=>YR 2 A Gs V w ⟨by omega,by omega⟩ ⟨by omega,by omega⟩ ⟨by omega,by omega⟩ ⟨by omega,by omega⟩
 clear hs hd hsl
 obtain ⟨hbv,hbb⟩:=nb h hi.lt
 have i0:=hi.grown (ZT _ (eO t n k m g p r L.p who))
 have k3:=i0.Yw
 go_enter Tryz.func185,Tryz.ntmps185
 go_wp2_with (first
  | (go_at_call 47;refine (sw _).mono ?_;rintro e w3 ⟨rfl,b3⟩;have q3:=At.new w3 94 [iV st,iV A,iV Gs,iV V];have z0:=q3.at0 0 rfl;have qf:=q3.fz;have q4:=At.new w3 94 [iV 2,iV A,iV Gs,iV V];have y0:=q4.at0 0 rfl;have y1:=q4.at0 1 rfl;have y2:=q4.at0 2 rfl;have y3:=q4.at0 3 rfl)
  | (go_at_call 71;refine (ps _).mono ?_;rintro e w4 ⟨rfl,b4⟩))
 refine ZY (fun W=>Z9 W L s /\ ZL W b o T cs a /\ ZV W w.heap.size t n k m g p r L.p who /\ Only (L.and b) w W) ⟨(((h.alloc _).below b3).alloc _).below b4,((i0.grown b3).grown (ZT _ _)).grown b4,((ZV.new.grown b3).grown (ZT _ _)).grown b4,((((Only.refl _ _).alloc _).trans (Only.ZZ b3)).alloc _).trans (Only.ZZ b4)⟩ ?_
 clear b3 b4 i0 k3 sw ps q3 q4 z0 qf y0 y1 y2 y3
 rintro W ⟨m1,i1,v1,o1⟩
 apply Yc 9;· kernel_rfl
 apply rV;· intro w' hg _;apply ol;have y:=(v1.dg hg).yy;go_simp;exact gl
 apply rV;· intros;apply ol;go_simp;exact gl
 apply rV;· intro w' hg _;apply ol;have y:=(v1.dg hg).yy;go_simp;exact gl
 apply rV;· intro w' hg _;apply ol;go_simp;exact cb (YB (by have z:=(i1.drew.grown hg).Xl;rwa [HX.out] at z) L.p who hG hx)
 iterate 2 (apply rV;· intros;apply ol;go_simp;exact gl)
 try simp only [pu,s0,s1]
 apply rV;· intros;apply ol;go_simp;exact gl
 apply rV;· intro w' hg _;apply ol;have z0:=(i1.drew.grown hg).Yw;go_simp;exact gl
 apply Zb;· intros;apply ol;go_simp;exact gl
 try simp only [pu,s0,s1]
 intro w5 hg _
 have m5:=m1.drew.below hg
 have i5:=i1.drew.grown hg
 have o5:=o1.og hg
 clear hg m1 i1 v1 o1
 go_wp2_with (go_at_call 132;refine (Y3 m5 _ _ _ _ _ _ _ _ (6 + t + x * 2) hn _ _).mono ?_;rintro e w6 ⟨rfl,m6,o6⟩;rw [HD.out];have i6:=i5.only o6 hb;have k0:=i6.ZO;have k14:=i6.Yw;have kf:=i6.fz;have i7:=i6.WE (Zp 2 A Gs V);have k7 : (w6.setCell ⟨b,o + 14,none⟩ (.int .u64 (Zp 2 A Gs V))).cell? ⟨b,o + 15,none⟩ = some (iV a.ce):=i7.RF;have f7:=i7.fz;have i8:=i7.JP 0;have k8 : ((w6.setCell ⟨b,o + 14,none⟩ (.int .u64 (Zp 2 A Gs V))).setCell ⟨b,o + 15,none⟩ (iV 0)).cell? ⟨b,o,none⟩ = some (iV a.nx):=i8.ZO;have f8:=i8.fz)
 go_end0
 exact ⟨rfl,_,_,_,((m6.Z4 hb _ _).Z4 hb _ _).Z4 hb _ _,(((o5.trans (o6.Y4 (b:=b))).set _ _).set _ _).set _ _,i8.ZJ 4,((Same.refl.set (by omega) _).set (by omega) _).set (by omega) _,rfl,rfl⟩
theorem Fp (h : Z9 w L s) (hb : ¬ L.has b) (hi : ZL w b o T cs a) (who : Int) (hG : Good t n k m g p r) {x : Nat} (hx : x < n) (hsl : a.sl = x) (hn : (6 + t + x * 2) < s.n) {st : Int} {A : Nat} {Gs V : Int} (hs : Y6 a.se st A Gs V) {κ : Nat} {τ : Pl} (hp : τ.cells κ a.pl) {B i : Nat} {dp : Bool} (ht : τ.told = (B,i,dp)) (hB : B <= 1048575) (hd : decide (s.wd (6 + t + x * 2) = a.se) = true)  :
 Calls Tryz.prog 189 #[pP b o,eV t n k m g p r L.p who] w fun e w'=>e = .returned (.tuple #[]) /\ YV L b o T cs w w' (fun s' a'=>s' = ((s.by who).Xj (6 + t + x * 2) a.se (Zp 1 B Gs (V + 1))) /\ a' = { a with ou:=1,nx:=8 }):=by
 have HX : Hid (a.sl = (x : Int)):=hsl
 have HD : Hid (decide (s.wd (6 + t + x * 2) = a.se) = true):=hd
 have sw:=hs.call
 have ab : (A : Int) <= 1048575:=by have:=hs.ad;omega
 have gb : 0 <= Gs /\ Gs <= 65535:=by have:=hs.gn;omega
 have vb : 0 <= V /\ V <= 4194303:=by have:=hs.vr;omega
 have ps:=fun w=>YR 1 B Gs (V + 1) w ⟨by omega,by omega⟩ ⟨by omega,by omega⟩ ⟨by omega,by omega⟩ ⟨by omega,by omega⟩
 have hvw : IntKind.i64.wrap (V + 1) = V + 1:=by rw [IntKind.wrap_i64];omega
 have ff:=Pm
 clear hs hd hsl
 obtain ⟨hbv,hbb⟩:=nb h hi.lt
 have i0:=hi.grown (ZT _ (eO t n k m g p r L.p who))
 have k3:=i0.Yw
 go_enter Tryz.func189,Tryz.ntmps189
 go_wp2_with (first
  | (go_at_call 47;refine (sw _).mono ?_;rintro e w3 ⟨rfl,b3⟩;have q3:=At.new w3 94 [iV st,iV A,iV Gs,iV V];have z0:=q3.at0 0 rfl;have qf:=q3.fz;have q4:=At.new w3 94 [iV 1,iV A,iV Gs,iV V];have i4:=(i0.grown b3).grown (ZT _ (.cells #[iV 1,iV A,iV Gs,iV V] 94)))
  | (go_at_call 199;refine (XU i4 hp ht).mono ?_;rintro e w4 ⟨rfl,b4⟩;have q5:=q4.grown b4;have y1:=q5.at0 1 rfl;have y3:=(q5.Yj 1 (iV B)).at0 3 rfl;have yf:=q5.fz;have rW:=(q5.Yj 1 (iV B)).fz))
 obtain ⟨S,hS⟩ : ∃ S,w3.heap.size = S:=⟨_,rfl⟩
 have lS : ¬ L.has S:=fun hh=>by have:=h.lt _ hh;have:=b3.size;simp only [Go.Deep.nblk_alloc] at this;omega
 have bS : S ≠ b:=by have:=hi.lt;have:=b3.size;simp only [Go.Deep.nblk_alloc] at this;omega
 have eS : ¬ w.heap.size = S:=by have:=b3.size;simp only [Go.Deep.nblk_alloc] at this;omega
 have q6:=(q5.Yj 1 (iV B)).Yj 3 (iV (V + 1))
 rw [hS] at q6 ⊢
 have o0 : Only (L.and b) w w4:=((((Only.refl _ _).alloc _).trans (Only.ZZ b3)).alloc _).trans (Only.ZZ b4)
 have hsz : w.heap.size <= S:=by have:=b3.size;simp only [Go.Deep.nblk_alloc] at this;omega
 refine ZY (fun W=>Z9 W L s /\ ZL W b o T cs a /\ ZV W w.heap.size t n k m g p r L.p who /\ At W S 0 94 _ [iV 1,iV B,iV Gs,iV (V + 1)] /\ Only (L.and b) w W) ⟨(((((h.alloc _).below b3).alloc _).below b4).Z4 lS _ _).Z4 lS _ _,((i4.grown b4).other bS.symm _ _).other bS.symm _ _,((((ZV.new.grown b3).grown (ZT _ _)).grown b4).Z4 eS _ _).Z4 eS _ _,q6,(o0.setCell (a:=⟨S,1,none⟩) (fun hlt=>by simp only at hlt;omega) _).setCell (a:=⟨S,3,none⟩) (fun hlt=>by simp only at hlt;omega) _⟩ ?_
 clear b3 b4 i0 i4 k3 sw q3 q4 q5 q6 z0 qf y1 y3 yf rW o0 hS
 rintro W ⟨m1,i1,v1,q1,o1⟩
 apply Yc 10;· kernel_rfl
 apply rV;· intro w' hg _;apply ol;have y:=(v1.dg hg).yy;go_simp;exact gl
 apply rV;· intros;apply ol;go_simp;exact gl
 apply rV;· intro w' hg _;apply ol;have y:=(v1.dg hg).yy;go_simp;exact gl
 apply rV;· intro w' hg _;apply ol;go_simp;exact cb (YB (by have z:=(i1.drew.grown hg).Xl;rwa [HX.out] at z) L.p who hG hx)
 iterate 2 (apply rV;· intros;apply ol;go_simp;exact gl)
 try simp only [pu,s0,s1]
 apply rV;· intros;apply ol;go_simp;exact gl
 apply rV;· intro w' hg _;apply ol;have z0:=(i1.drew.grown hg).Yw;go_simp;exact gl
 apply rV;· intro w' hg _;apply ol;have z0:=(q1.drew.grown hg).at0 0 rfl;have z1:=(q1.drew.grown hg).at0 1 rfl;have z2:=(q1.drew.grown hg).at0 2 rfl;have z3:=(q1.drew.grown hg).at0 3 rfl;go_simp;exact gl
 apply Zb;· intro w' hg _;apply ol;go_simp;exact cb (ps _)
 try simp only [pu,s0,s1]
 intro w5 hg _
 have m5:=m1.drew.below hg
 have i5:=i1.drew.grown hg
 have v5:=v1.dg hg
 have o5:=o1.og hg
 clear hg m1 i1 v1 q1 o1
 go_wp2_with (go_at_call 132;refine (Y3 m5 _ _ _ _ _ _ _ _ (6 + t + x * 2) hn _ _).mono ?_;rintro e w6 ⟨rfl,m6,o6⟩;rw [HD.out];have i6:=i5.only o6 hb;have k0:=i6.ZO;have k18:=i6.BA;have k17:=i6.Oe;have kf:=i6.fz;have i7:=i6.Bz 1;have k7 : (w6.setCell ⟨b,o + 18,none⟩ (iV 1)).cell? ⟨b,o,none⟩ = some (iV a.nx):=i7.ZO;have f7:=i7.fz)
 refine bodyPost_ret (results_none rfl _ _ _) rfl ?_
 exact ⟨rfl,_,_,_,(m6.Z4 hb _ _).Z4 hb _ _,((o5.trans (o6.Y4 (b:=b))).set _ _).set _ _,i7.ZJ 8,(Same.refl.set (by omega) _).set (by omega) _,rfl,rfl⟩
theorem JB (h : Z9 w L s) (hb : ¬ L.has b) (hi : ZL w b o T cs a) (who : Int) (hG : Good t n k m g p r) {x : Nat} (hx : x < n) (hsl : a.sl = x) (hn : (6 + t + x * 2) < s.n) {st : Int} {A : Nat} {Gs V : Int} (hs : Y6 a.se st A Gs V) {κ : Nat} {τ : Pl} (hp : τ.cells κ a.pl) {B i : Nat} {dp : Bool} (ht : τ.told = (B,i,dp)) (hB : B <= 1048575) (hd : decide (s.wd (6 + t + x * 2) = a.se) = false) (s0 : 0 <= a.sp) (s1 : a.sp <= 100000) (hr : decide (a.sp + 1 ≥ r) = false) :
 Calls Tryz.prog 189 #[pP b o,eV t n k m g p r L.p who] w fun e w'=>e = .returned (.tuple #[]) /\ YV L b o T cs w w' (fun s' a'=>s' = ((s.by who).Xj (6 + t + x * 2) a.se (Zp 1 B Gs (V + 1))) /\ a' = { a with sp:=a.sp + 1,nx:=0 }):=by
 have HX : Hid (a.sl = (x : Int)):=hsl
 have HD : Hid (decide (s.wd (6 + t + x * 2) = a.se) = false):=hd
 have sw:=hs.call
 have ab : (A : Int) <= 1048575:=by have:=hs.ad;omega
 have gb : 0 <= Gs /\ Gs <= 65535:=by have:=hs.gn;omega
 have vb : 0 <= V /\ V <= 4194303:=by have:=hs.vr;omega
 have ps:=fun w=>YR 1 B Gs (V + 1) w ⟨by omega,by omega⟩ ⟨by omega,by omega⟩ ⟨by omega,by omega⟩ ⟨by omega,by omega⟩
 have hvw : IntKind.i64.wrap (V + 1) = V + 1:=by rw [IntKind.wrap_i64];omega
 have ff:=Pm
 have hsw : IntKind.i64.wrap (a.sp + 1) = a.sp + 1:=by rw [IntKind.wrap_i64];omega
 have pK : Hid (decide (a.sp + 1 ≥ r) = false):=hr
 clear hr
 clear hs hd hsl
 obtain ⟨hbv,hbb⟩:=nb h hi.lt
 have i0:=hi.grown (ZT _ (eO t n k m g p r L.p who))
 have k3:=i0.Yw
 go_enter Tryz.func189,Tryz.ntmps189
 go_wp2_with (first
  | (go_at_call 47;refine (sw _).mono ?_;rintro e w3 ⟨rfl,b3⟩;have q3:=At.new w3 94 [iV st,iV A,iV Gs,iV V];have z0:=q3.at0 0 rfl;have qf:=q3.fz;have q4:=At.new w3 94 [iV 1,iV A,iV Gs,iV V];have i4:=(i0.grown b3).grown (ZT _ (.cells #[iV 1,iV A,iV Gs,iV V] 94)))
  | (go_at_call 199;refine (XU i4 hp ht).mono ?_;rintro e w4 ⟨rfl,b4⟩;have q5:=q4.grown b4;have y1:=q5.at0 1 rfl;have y3:=(q5.Yj 1 (iV B)).at0 3 rfl;have yf:=q5.fz;have rW:=(q5.Yj 1 (iV B)).fz))
 obtain ⟨S,hS⟩ : ∃ S,w3.heap.size = S:=⟨_,rfl⟩
 have lS : ¬ L.has S:=fun hh=>by have:=h.lt _ hh;have:=b3.size;simp only [Go.Deep.nblk_alloc] at this;omega
 have bS : S ≠ b:=by have:=hi.lt;have:=b3.size;simp only [Go.Deep.nblk_alloc] at this;omega
 have eS : ¬ w.heap.size = S:=by have:=b3.size;simp only [Go.Deep.nblk_alloc] at this;omega
 have q6:=(q5.Yj 1 (iV B)).Yj 3 (iV (V + 1))
 rw [hS] at q6 ⊢
 have o0 : Only (L.and b) w w4:=((((Only.refl _ _).alloc _).trans (Only.ZZ b3)).alloc _).trans (Only.ZZ b4)
 have hsz : w.heap.size <= S:=by have:=b3.size;simp only [Go.Deep.nblk_alloc] at this;omega
 refine ZY (fun W=>Z9 W L s /\ ZL W b o T cs a /\ ZV W w.heap.size t n k m g p r L.p who /\ At W S 0 94 _ [iV 1,iV B,iV Gs,iV (V + 1)] /\ Only (L.and b) w W) ⟨(((((h.alloc _).below b3).alloc _).below b4).Z4 lS _ _).Z4 lS _ _,((i4.grown b4).other bS.symm _ _).other bS.symm _ _,((((ZV.new.grown b3).grown (ZT _ _)).grown b4).Z4 eS _ _).Z4 eS _ _,q6,(o0.setCell (a:=⟨S,1,none⟩) (fun hlt=>by simp only at hlt;omega) _).setCell (a:=⟨S,3,none⟩) (fun hlt=>by simp only at hlt;omega) _⟩ ?_
 clear b3 b4 i0 i4 k3 sw q3 q4 q5 q6 z0 qf y1 y3 yf rW o0 hS
 rintro W ⟨m1,i1,v1,q1,o1⟩
 apply Yc 10;· kernel_rfl
 apply rV;· intro w' hg _;apply ol;have y:=(v1.dg hg).yy;go_simp;exact gl
 apply rV;· intros;apply ol;go_simp;exact gl
 apply rV;· intro w' hg _;apply ol;have y:=(v1.dg hg).yy;go_simp;exact gl
 apply rV;· intro w' hg _;apply ol;go_simp;exact cb (YB (by have z:=(i1.drew.grown hg).Xl;rwa [HX.out] at z) L.p who hG hx)
 iterate 2 (apply rV;· intros;apply ol;go_simp;exact gl)
 try simp only [pu]
 apply rV;· intros;apply ol;go_simp;exact gl
 apply rV;· intro w' hg _;apply ol;have z0:=(i1.drew.grown hg).Yw;go_simp;exact gl
 apply rV;· intro w' hg _;apply ol;have z0:=(q1.drew.grown hg).at0 0 rfl;have z1:=(q1.drew.grown hg).at0 1 rfl;have z2:=(q1.drew.grown hg).at0 2 rfl;have z3:=(q1.drew.grown hg).at0 3 rfl;go_simp;exact gl
 apply Zb;· intro w' hg _;apply ol;go_simp;exact cb (ps _)
 try simp only [pu]
 intro w5 hg _
 have m5:=m1.drew.below hg
 have i5:=i1.drew.grown hg
 have v5:=v1.dg hg
 have o5:=o1.og hg
 clear hg m1 i1 v1 q1 o1
 go_wp2_with (go_at_call 132;refine (Y3 m5 _ _ _ _ _ _ _ _ (6 + t + x * 2) hn _ _).mono ?_;rintro e w6 ⟨rfl,m6,o6⟩;rw [HD.out];have i6:=i5.only o6 hb;have k0:=i6.ZO;have k18:=i6.BA;have k17:=i6.Oe;have kf:=i6.fz;have i7:=i6.QD (a.sp + 1);have k7 : (w6.setCell ⟨b,o + 17,none⟩ (iV (a.sp + 1))).cell? ⟨b,o,none⟩ = some (iV a.nx):=i7.ZO;have f7:=i7.fz)
 have i8:=i7.ZJ 0
 obtain ⟨a2,ha2⟩ : ∃ z : MV,{ a with sp:=a.sp + 1,nx:=0 } = z:=⟨_,rfl⟩
 have e2 : Hid (a2.sp = a.sp + 1 /\ a2.pl = a.pl):=by unfold Hid;rw [<- ha2];exact ⟨rfl,rfl⟩
 have HR : Hid (decide (a2.sp ≥ r) = false):=by unfold Hid;rw [e2.out.1];exact pK.out
 have i9 : ZL ((w6.setCell ⟨b,o + 17,none⟩ (iV (a.sp + 1))).setCell ⟨b,o,none⟩ (iV 0)) b o T ((cs.setIfInBounds (o + 17) (iV (a.sp + 1))).setIfInBounds o (iV 0)) a2:=by rw [<- ha2];exact i8
 refine ZY (fun W=>Z9 W L ((s.by who).Xj (6 + t + x * 2) a.se (Zp 1 B Gs (V + 1))) /\ ZL W b o T ((cs.setIfInBounds (o + 17) (iV (a.sp + 1))).setIfInBounds o (iV 0)) a2 /\ ZV W w.heap.size t n k m g p r L.p who /\ Only (L.and b) w W) ⟨(m6.Z4 hb _ _).Z4 hb _ _,i9,((v5.only o6 hbv).Z4 hbb _ _).Z4 hbb _ _,((o5.trans (o6.Y4 (b:=b))).set _ _).set _ _⟩ ?_
 clear i5 i6 i7 i8 i9 m5 m6 o5 o6 v5 k0 k18 k17 kf k7 f7
 rintro W ⟨m1,i1,v1,o1⟩
 apply Xr;· kernel_rfl
 iterate 3 (apply rV;· intros;apply ol;go_simp;exact gl)
 apply rV;· intro w' hg _;apply ol;have z0:=(i1.drew.grown hg).Oe;go_simp;exact gl
 iterate 2 (apply rV;· intros;apply ol;go_simp;exact gl)
 try simp only [pu]
 apply rV;· intro w' hg _;apply ol;have y:=(v1.dg hg).yy;go_simp;exact gl
 apply Zb;· intro w' hg _;apply ol;have z : decide (a2.sp ≥ r) = false:=HR.out;go_simp;exact gl
 try simp only [pu]
 intro w7 hg _
 have m7:=m1.drew.below hg
 have i7:=i1.drew.grown hg
 have o7 : Only (L.and b) w w7:=o1.drew.trans (Only.ZZ hg)
 clear hg m1 i1 v1 o1
 go_wp2
 go_end0
 exact ⟨rfl,_,_,_,m7,o7,i7,(Same.refl.set (by omega) _).set (by omega) _,rfl,ha2.symm⟩
theorem Fj (h : Z9 w L s) (hb : ¬ L.has b) (hi : ZL w b o T cs a) (who : Int) (hG : Good t n k m g p r) {x : Nat} (hx : x < n) (hsl : a.sl = x) (hn : (6 + t + x * 2) < s.n) {st : Int} {A : Nat} {Gs V : Int} (hs : Y6 a.se st A Gs V) {κ : Nat} {τ : Pl} (hp : τ.cells κ a.pl) {B i : Nat} {dp : Bool} (ht : τ.told = (B,i,dp)) (hB : B <= 1048575) (hd : decide (s.wd (6 + t + x * 2) = a.se) = false) (s0 : 0 <= a.sp) (s1 : a.sp <= 100000) (hr : decide (a.sp + 1 ≥ r) = true) :
 Calls Tryz.prog 189 #[pP b o,eV t n k m g p r L.p who] w fun e w'=>e = .returned (.tuple #[]) /\ YV L b o T cs w w' (fun s' a'=>s' = ((s.by who).Xj (6 + t + x * 2) a.se (Zp 1 B Gs (V + 1))) /\ a' = { a with sp:=a.sp + 1,ou:=3,nx:=TG dp }):=by
 have HX : Hid (a.sl = (x : Int)):=hsl
 have HD : Hid (decide (s.wd (6 + t + x * 2) = a.se) = false):=hd
 have sw:=hs.call
 have ab : (A : Int) <= 1048575:=by have:=hs.ad;omega
 have gb : 0 <= Gs /\ Gs <= 65535:=by have:=hs.gn;omega
 have vb : 0 <= V /\ V <= 4194303:=by have:=hs.vr;omega
 have ps:=fun w=>YR 1 B Gs (V + 1) w ⟨by omega,by omega⟩ ⟨by omega,by omega⟩ ⟨by omega,by omega⟩ ⟨by omega,by omega⟩
 have hvw : IntKind.i64.wrap (V + 1) = V + 1:=by rw [IntKind.wrap_i64];omega
 have ff:=Pm
 have hsw : IntKind.i64.wrap (a.sp + 1) = a.sp + 1:=by rw [IntKind.wrap_i64];omega
 have pK : Hid (decide (a.sp + 1 ≥ r) = true):=hr
 clear hr
 clear hs hd hsl
 obtain ⟨hbv,hbb⟩:=nb h hi.lt
 have i0:=hi.grown (ZT _ (eO t n k m g p r L.p who))
 have k3:=i0.Yw
 go_enter Tryz.func189,Tryz.ntmps189
 go_wp2_with (first
  | (go_at_call 47;refine (sw _).mono ?_;rintro e w3 ⟨rfl,b3⟩;have q3:=At.new w3 94 [iV st,iV A,iV Gs,iV V];have z0:=q3.at0 0 rfl;have qf:=q3.fz;have q4:=At.new w3 94 [iV 1,iV A,iV Gs,iV V];have i4:=(i0.grown b3).grown (ZT _ (.cells #[iV 1,iV A,iV Gs,iV V] 94)))
  | (go_at_call 199;refine (XU i4 hp ht).mono ?_;rintro e w4 ⟨rfl,b4⟩;have q5:=q4.grown b4;have y1:=q5.at0 1 rfl;have y3:=(q5.Yj 1 (iV B)).at0 3 rfl;have yf:=q5.fz;have rW:=(q5.Yj 1 (iV B)).fz))
 obtain ⟨S,hS⟩ : ∃ S,w3.heap.size = S:=⟨_,rfl⟩
 have lS : ¬ L.has S:=fun hh=>by have:=h.lt _ hh;have:=b3.size;simp only [Go.Deep.nblk_alloc] at this;omega
 have bS : S ≠ b:=by have:=hi.lt;have:=b3.size;simp only [Go.Deep.nblk_alloc] at this;omega
 have eS : ¬ w.heap.size = S:=by have:=b3.size;simp only [Go.Deep.nblk_alloc] at this;omega
 have q6:=(q5.Yj 1 (iV B)).Yj 3 (iV (V + 1))
 rw [hS] at q6 ⊢
 have o0 : Only (L.and b) w w4:=((((Only.refl _ _).alloc _).trans (Only.ZZ b3)).alloc _).trans (Only.ZZ b4)
 have hsz : w.heap.size <= S:=by have:=b3.size;simp only [Go.Deep.nblk_alloc] at this;omega
 refine ZY (fun W=>Z9 W L s /\ ZL W b o T cs a /\ ZV W w.heap.size t n k m g p r L.p who /\ At W S 0 94 _ [iV 1,iV B,iV Gs,iV (V + 1)] /\ Only (L.and b) w W) ⟨(((((h.alloc _).below b3).alloc _).below b4).Z4 lS _ _).Z4 lS _ _,((i4.grown b4).other bS.symm _ _).other bS.symm _ _,((((ZV.new.grown b3).grown (ZT _ _)).grown b4).Z4 eS _ _).Z4 eS _ _,q6,(o0.setCell (a:=⟨S,1,none⟩) (fun hlt=>by simp only at hlt;omega) _).setCell (a:=⟨S,3,none⟩) (fun hlt=>by simp only at hlt;omega) _⟩ ?_
 clear b3 b4 i0 i4 k3 sw q3 q4 q5 q6 z0 qf y1 y3 yf rW o0 hS
 rintro W ⟨m1,i1,v1,q1,o1⟩
 apply Yc 10;· kernel_rfl
 apply rV;· intro w' hg _;apply ol;have y:=(v1.dg hg).yy;go_simp;exact gl
 apply rV;· intros;apply ol;go_simp;exact gl
 apply rV;· intro w' hg _;apply ol;have y:=(v1.dg hg).yy;go_simp;exact gl
 apply rV;· intro w' hg _;apply ol;go_simp;exact cb (YB (by have z:=(i1.drew.grown hg).Xl;rwa [HX.out] at z) L.p who hG hx)
 iterate 2 (apply rV;· intros;apply ol;go_simp;exact gl)
 try simp only [pu]
 apply rV;· intros;apply ol;go_simp;exact gl
 apply rV;· intro w' hg _;apply ol;have z0:=(i1.drew.grown hg).Yw;go_simp;exact gl
 apply rV;· intro w' hg _;apply ol;have z0:=(q1.drew.grown hg).at0 0 rfl;have z1:=(q1.drew.grown hg).at0 1 rfl;have z2:=(q1.drew.grown hg).at0 2 rfl;have z3:=(q1.drew.grown hg).at0 3 rfl;go_simp;exact gl
 apply Zb;· intro w' hg _;apply ol;go_simp;exact cb (ps _)
 try simp only [pu]
 intro w5 hg _
 have m5:=m1.drew.below hg
 have i5:=i1.drew.grown hg
 have v5:=v1.dg hg
 have o5:=o1.og hg
 clear hg m1 i1 v1 q1 o1
 go_wp2_with (go_at_call 132;refine (Y3 m5 _ _ _ _ _ _ _ _ (6 + t + x * 2) hn _ _).mono ?_;rintro e w6 ⟨rfl,m6,o6⟩;rw [HD.out];have i6:=i5.only o6 hb;have k0:=i6.ZO;have k18:=i6.BA;have k17:=i6.Oe;have kf:=i6.fz;have i7:=i6.QD (a.sp + 1);have k7 : (w6.setCell ⟨b,o + 17,none⟩ (iV (a.sp + 1))).cell? ⟨b,o,none⟩ = some (iV a.nx):=i7.ZO;have f7:=i7.fz)
 have i8:=i7.ZJ 0
 obtain ⟨a2,ha2⟩ : ∃ z : MV,{ a with sp:=a.sp + 1,nx:=0 } = z:=⟨_,rfl⟩
 have e2 : Hid (a2.sp = a.sp + 1 /\ a2.pl = a.pl):=by unfold Hid;rw [<- ha2];exact ⟨rfl,rfl⟩
 have HR : Hid (decide (a2.sp ≥ r) = true):=by unfold Hid;rw [e2.out.1];exact pK.out
 have i9 : ZL ((w6.setCell ⟨b,o + 17,none⟩ (iV (a.sp + 1))).setCell ⟨b,o,none⟩ (iV 0)) b o T ((cs.setIfInBounds (o + 17) (iV (a.sp + 1))).setIfInBounds o (iV 0)) a2:=by rw [<- ha2];exact i8
 refine ZY (fun W=>Z9 W L ((s.by who).Xj (6 + t + x * 2) a.se (Zp 1 B Gs (V + 1))) /\ ZL W b o T ((cs.setIfInBounds (o + 17) (iV (a.sp + 1))).setIfInBounds o (iV 0)) a2 /\ ZV W w.heap.size t n k m g p r L.p who /\ Only (L.and b) w W) ⟨(m6.Z4 hb _ _).Z4 hb _ _,i9,((v5.only o6 hbv).Z4 hbb _ _).Z4 hbb _ _,((o5.trans (o6.Y4 (b:=b))).set _ _).set _ _⟩ ?_
 clear i5 i6 i7 i8 i9 m5 m6 o5 o6 v5 k0 k18 k17 kf k7 f7
 rintro W ⟨m1,i1,v1,o1⟩
 apply Xr;· kernel_rfl
 iterate 3 (apply rV;· intros;apply ol;go_simp;exact gl)
 apply rV;· intro w' hg _;apply ol;have z0:=(i1.drew.grown hg).Oe;go_simp;exact gl
 iterate 2 (apply rV;· intros;apply ol;go_simp;exact gl)
 try simp only [pu]
 apply rV;· intro w' hg _;apply ol;have y:=(v1.dg hg).yy;go_simp;exact gl
 apply Zb;· intro w' hg _;apply ol;have z : decide (a2.sp ≥ r) = true:=HR.out;go_simp;exact gl
 try simp only [pu]
 intro w7 hg _
 have m7:=m1.drew.below hg
 have i7:=i1.drew.grown hg
 have o7 : Only (L.and b) w w7:=o1.drew.trans (Only.ZZ hg)
 clear hg m1 i1 v1 o1
 go_wp2_with (go_at_call 197;refine (Wx (κ:=κ) (τ:=τ) (A:=B) (i:=i) (d:=dp) m7 hb i7 3 (by rw [e2.out.2];exact hp) ht).mono ?_;rintro e w8 ⟨rfl,s8,EG,a8,m8,o8,i8,q8,rfl,rfl⟩)
 go_end0
 exact ⟨rfl,_,_,_,m8,o7.trans o8,i8,((Same.refl.set (by omega) _).set (by omega) _).trans q8,rfl,by rw [<- ha2]⟩
end Go.Proofs.YtmnnhjhhhfabiaaGreat
