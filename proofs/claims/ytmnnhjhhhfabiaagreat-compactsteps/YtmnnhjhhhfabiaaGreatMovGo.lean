import Derived.Test.YtmnnhjhhhfabiaaGreatMovSee
import Derived.Test.YtmnnhjhhhfabiaaGreatMovMark
import Derived.Test.YtmnnhjhhhfabiaaGreatMovCell
namespace Go.Proofs.YtmnnhjhhhfabiaaGreat
open Go.RowKit
set_option maxHeartbeats 1000000
set_option maxRecDepth 20000
variable {w : World} {L : Loc} {s : Mm} {b o : Nat} {T : TypeId} {cs : Array Value} {t n k m : Nat} {g p r : Int} {a : MV}
theorem JH (h : Z9 w L s) (hb : ¬ L.has b) (hi : ZL w b o T cs a) (who : Int) {κ : Nat} (hκ : ZM a.sz = κ) (k4 : κ < 4) (hnx : a.nx = 8) (fz : Fit a.sz) (fs : Fit a.sl) (fg : Fit a.gn) {τ : Pl} (hp : τ.cells κ a.pl) {B i : Nat} {dp : Bool} (ht : τ.told = (B,i,dp)) (hn : B < s.n) :
 Calls Tryz.prog 190 #[pP b o,eV t n k m g p r L.p who] w fun e w'=>e = .returned (.tuple #[]) /\ YV L b o T cs w w' (fun s' a'=>s' = (s.by who).step B (Zg 2 a.sz a.sl a.gn a.own) /\ a' = { a with nx:=9 }):=by
 have cl:=fun w=>YH a.sz w
 rw [hκ] at cl
 have rm:=fun w=>YU κ k4 w
 have m0:=h.alloc (eO t n k m g p r L.p who)
 have i0:=hi.grown (ZT _ (eO t n k m g p r L.p who))
 have o0 : Only (L.and b) w (w.alloc (eO t n k m g p r L.p who)):=(Only.refl _ _).alloc _
 have v0 : ZV (w.alloc (eO t n k m g p r L.p who)) w.heap.size t n k m g p r L.p who:=ZV.new
 have k0:=i0.ZO
 rw [hnx] at k0
 have k3:=i0.WN
 obtain ⟨y0,y1,y2,y3,y4,y5,y6,y7,y8⟩:=id v0
 go_enter Tryz.func190,Tryz.ntmps190
 go_wp2_with (first
  | (go_at_call 36;refine (cl _).mono ?_;rintro e w1 ⟨rfl,rfl⟩)
  | (go_at_call 122;refine (rm _).mono ?_;rintro e w2 ⟨rfl,rfl⟩)
  | (go_at_call 184;refine (Vz m0 i0 who (kd:=2) ⟨by decide,by decide⟩ fz fs fg hp ht hn).mono ?_;rintro e w3 ⟨rfl,m3,o3⟩;have i3:=i0.only o3 hb;have l0:=i3.ZO;have lf:=i3.fz))
 go_end0
 exact ⟨rfl,_,_,_,m3.Z4 hb _ _,(o0.trans (o3.Y4 (b:=b))).set _ _,i3.ZJ 9,Same.refl.set (by omega) _,rfl,rfl⟩
theorem FD (h : Z9 w L s) (hb : ¬ L.has b) (hi : ZL w b o T cs a) (who : Int) {κ : Nat} (hκ : ZM a.sz = κ) (k4 : κ < 4) (hnx : a.nx = 11) (fz : Fit a.sz) (fs : Fit a.sl) (fg : Fit a.gn) {τ : Pl} (hp : τ.cells κ a.pl) {B i : Nat} {dp : Bool} (ht : τ.told = (B,i,dp)) (hn : B < s.n) :
 Calls Tryz.prog 190 #[pP b o,eV t n k m g p r L.p who] w fun e w'=>e = .returned (.tuple #[]) /\ YV L b o T cs w w' (fun s' a'=>s' = (s.by who).step B (Zg 3 a.sz a.sl a.gn a.own) /\ a' = { a with nx:=12 }):=by
 have cl:=fun w=>YH a.sz w
 rw [hκ] at cl
 have rm:=fun w=>YU κ k4 w
 have m0:=h.alloc (eO t n k m g p r L.p who)
 have i0:=hi.grown (ZT _ (eO t n k m g p r L.p who))
 have o0 : Only (L.and b) w (w.alloc (eO t n k m g p r L.p who)):=(Only.refl _ _).alloc _
 have v0 : ZV (w.alloc (eO t n k m g p r L.p who)) w.heap.size t n k m g p r L.p who:=ZV.new
 have k0:=i0.ZO
 rw [hnx] at k0
 have k3:=i0.WN
 obtain ⟨y0,y1,y2,y3,y4,y5,y6,y7,y8⟩:=id v0
 go_enter Tryz.func190,Tryz.ntmps190
 go_wp2_with (first
  | (go_at_call 36;refine (cl _).mono ?_;rintro e w1 ⟨rfl,rfl⟩)
  | (go_at_call 122;refine (rm _).mono ?_;rintro e w2 ⟨rfl,rfl⟩)
  | (go_at_call 184;refine (Vz m0 i0 who (kd:=3) ⟨by decide,by decide⟩ fz fs fg hp ht hn).mono ?_;rintro e w3 ⟨rfl,m3,o3⟩;have i3:=i0.only o3 hb;have l0:=i3.ZO;have lf:=i3.fz))
 go_end0
 exact ⟨rfl,_,_,_,m3.Z4 hb _ _,(o0.trans (o3.Y4 (b:=b))).set _ _,i3.ZJ 12,Same.refl.set (by omega) _,rfl,rfl⟩
theorem FC (h : Z9 w L s) (hb : ¬ L.has b) (hi : ZL w b o T cs a) (who : Int) (hG : Good t n k m g p r) {κ : Nat} (hκ : ZM a.sz = κ) (k4 : κ < 4) (hnx : a.nx = 9)  {i : Nat} {τ : Pl} (hp : τ.cells κ a.pl) {B : Nat} {dp : Bool} (ht : τ.told = (B,i,dp)) (hik : i < k) (hn : (6 + t + n * 2 + i * 3 + 1) < s.n) :
 Calls Tryz.prog 190 #[pP b o,eV t n k m g p r L.p who] w fun e w'=>e = .returned (.tuple #[]) /\ YV L b o T cs w w' (fun s' a'=>s' = (s.by who).step (6 + t + n * 2 + i * 3 + 1) (sum64 (s.wd (6 + t + n * 2 + i * 3 + 1)) (Ym ((room κ : Int)))) /\ a' = { a with nx:=10 }):=by
 have hrb:=Zv κ
 have ff:=rY
 have cl:=fun w=>YH a.sz w
 rw [hκ] at cl
 have rm:=fun w=>YU κ k4 w
 have m0:=h.alloc (eO t n k m g p r L.p who)
 have i0:=hi.grown (ZT _ (eO t n k m g p r L.p who))
 have o0 : Only (L.and b) w (w.alloc (eO t n k m g p r L.p who)):=(Only.refl _ _).alloc _
 have v0 : ZV (w.alloc (eO t n k m g p r L.p who)) w.heap.size t n k m g p r L.p who:=ZV.new
 have k0:=i0.ZO
 rw [hnx] at k0
 have k3:=i0.WN
 obtain ⟨y0,y1,y2,y3,y4,y5,y6,y7,y8⟩:=id v0
 go_enter Tryz.func190,Tryz.ntmps190
 go_wp2_with (first
  | (go_at_call 36;refine (cl _).mono ?_;rintro e w1 ⟨rfl,rfl⟩)
  | (go_at_call 122;refine (rm _).mono ?_;rintro e w2 ⟨rfl,rfl⟩))
 refine ZY (fun W=>Z9 W L s /\ ZL W b o T cs a /\ ZV W w.heap.size t n k m g p r L.p who /\ Only (L.and b) w W) ⟨m0,i0,v0,o0⟩ ?_
 clear m0 i0 v0 o0 k0 k3 y0 y1 y2 y3 y4 y5 y6 y7 y8
 rintro W ⟨m1,i1,v1,o1⟩
 apply Yc 5;· kernel_rfl
 apply rV;· intro w' hg _;apply ol;have y:=(v1.dg hg).yy;go_simp;exact gl
 apply rV;· intros;apply ol;go_simp;exact gl
 apply rV;· intro w' hg _;apply ol;go_simp;exact cb (XU (i1.drew.grown hg) hp ht)
 apply rV;· intros;apply ol;go_simp;exact gl
 apply Zb;· intros;apply ol;go_simp;exact gl
 try simp only [pu,s0,s1]
 intro w5 hg _
 have m5:=m1.drew.below hg
 have i5:=i1.drew.grown hg
 have o5:=o1.og hg
 clear hg m1 i1 v1 o1
 go_wp2_with (go_at_call 200;refine (Qw m5 who hG hik hn ((room κ : Int))).mono ?_;rintro e w6 ⟨rfl,m6,o6⟩;have i6:=i5.only o6 hb;have l0:=i6.ZO;have lf:=i6.fz)
 go_end0
 exact ⟨rfl,_,_,_,m6.Z4 hb _ _,(o5.trans (o6.Y4 (b:=b))).set _ _,i6.ZJ 10,Same.refl.set (by omega) _,rfl,rfl⟩
theorem FB (h : Z9 w L s) (hb : ¬ L.has b) (hi : ZL w b o T cs a) (who : Int) (hG : Good t n k m g p r) {κ : Nat} (hκ : ZM a.sz = κ) (k4 : κ < 4) (hnx : a.nx = 10)  {i : Nat} (a1 : a.ad <= 1048575) (hc1 : Y9 t n k m a.ad = i) (hik : i < k) (hn : (6 + t + n * 2 + i * 3 + 1) < s.n) :
 Calls Tryz.prog 190 #[pP b o,eV t n k m g p r L.p who] w fun e w'=>e = .returned (.tuple #[]) /\ YV L b o T cs w w' (fun s' a'=>s' = (s.by who).step (6 + t + n * 2 + i * 3 + 1) (sum64 (s.wd (6 + t + n * 2 + i * 3 + 1)) (Ym (-(room κ : Int)))) /\ a' = { a with nx:=12 }):=by
 have hrb:=Zv κ
 have IG:=fun w=>VG hG a.ad (by omega) w
 rw [hc1] at IG
 have cl:=fun w=>YH a.sz w
 rw [hκ] at cl
 have rm:=fun w=>YU κ k4 w
 have m0:=h.alloc (eO t n k m g p r L.p who)
 have i0:=hi.grown (ZT _ (eO t n k m g p r L.p who))
 have o0 : Only (L.and b) w (w.alloc (eO t n k m g p r L.p who)):=(Only.refl _ _).alloc _
 have v0 : ZV (w.alloc (eO t n k m g p r L.p who)) w.heap.size t n k m g p r L.p who:=ZV.new
 have k0:=i0.ZO
 rw [hnx] at k0
 have k3:=i0.WN
 obtain ⟨y0,y1,y2,y3,y4,y5,y6,y7,y8⟩:=id v0
 go_enter Tryz.func190,Tryz.ntmps190
 go_wp2_with (first
  | (go_at_call 36;refine (cl _).mono ?_;rintro e w1 ⟨rfl,rfl⟩)
  | (go_at_call 122;refine (rm _).mono ?_;rintro e w2 ⟨rfl,rfl⟩))
 refine ZY (fun W=>Z9 W L s /\ ZL W b o T cs a /\ ZV W w.heap.size t n k m g p r L.p who /\ Only (L.and b) w W) ⟨m0,i0,v0,o0⟩ ?_
 clear m0 i0 v0 o0 k0 k3 y0 y1 y2 y3 y4 y5 y6 y7 y8
 rintro W ⟨m1,i1,v1,o1⟩
 apply Yc 10;· kernel_rfl
 apply rV;· intro w' hg _;apply ol;have y:=(v1.dg hg).yy;go_simp;exact gl
 apply rV;· intros;apply ol;go_simp;exact gl
 apply rV;· intro w' hg _;apply ol;have y:=(v1.dg hg).yy;go_simp;exact gl
 iterate 3 (apply rV;· intros;apply ol;go_simp;exact gl)
 try simp only [pu,s0,s1]
 apply rV;· intro w' hg _;apply ol;have z0:=(i1.drew.grown hg).TI;go_simp;exact gl
 apply rV;· intro w' hg _;apply ol;go_simp;exact cb (IG _)
 apply rV;· intros;apply ol;go_simp;exact gl
 apply Zb (c:=iV (-(room κ : Int)));· intro w' hg _;apply ol;go_simp;exact ⟨Grown.refl _,congrArg (Value.int .i64) (by first | rfl | (rw [IntKind.wrap_i64];omega))⟩
 try simp only [pu,s0,s1]
 intro w5 hg _
 have m5:=m1.drew.below hg
 have i5:=i1.drew.grown hg
 have o5:=o1.og hg
 clear hg m1 i1 v1 o1
 go_wp2_with (go_at_call 200;refine (Qw m5 who hG hik hn (-(room κ : Int))).mono ?_;rintro e w6 ⟨rfl,m6,o6⟩;have i6:=i5.only o6 hb;have l0:=i6.ZO;have lf:=i6.fz)
 go_end0
 exact ⟨rfl,_,_,_,m6.Z4 hb _ _,(o5.trans (o6.Y4 (b:=b))).set _ _,i6.ZJ 12,Same.refl.set (by omega) _,rfl,rfl⟩
theorem Fz (h : Z9 w L s) (hi : ZL w b o T cs a) (who : Int) (hG : Good t n k m g p r) (hlen : ZR t n k m <= s.n) {x : Nat} (hx : x < n) (hsl : a.sl = x) (hnx : a.nx = 0) (X : Mm -> MV -> Prop) (d : Bool) (hd : ∀ s' a',X s' a' -> (a'.nx == 12) = d)
 (hc : ∀ w1 : World,Z9 w1 L s -> ZL w1 b o T cs a -> Calls Tryz.prog 182 #[pP b o,eV t n k m g p r L.p who] w1 fun e w'=>e = .returned (.tuple #[]) /\ YV L b o T cs w1 w' X) :
 Calls Tryz.prog 150 #[pP b o,eV t n k m g p r L.p who] w fun e w'=>e = .returned (.bool d) /\ YV L b o T cs w w' X:=by
 have st:=fun (w' : World) (m' : Z9 w' L s) (i' : ZL w' b o T cs a)=>PS m' i' who hG hlen hx hsl hnx
 have m0:=h.alloc (eO t n k m g p r L.p who)
 have i0:=hi.grown (ZT _ (eO t n k m g p r L.p who))
 have v0 : ZV (w.alloc (eO t n k m g p r L.p who)) w.heap.size t n k m g p r L.p who:=ZV.new
 have k0:=i0.ZO
 rw [hnx] at k0
 obtain ⟨y0,y1,y2,y3,y4,y5,y6,y7,y8⟩:=id v0
 go_enter Tryz.func150,Tryz.ntmps150
 go_wp2_with (first
  | (go_at_call 180;refine (st _ m0 i0).mono ?_;rintro e w1 ⟨rfl,b1⟩;have m1:=m0.below b1;have i1:=i0.grown b1;have v1:=v0.grown b1;have k1:=i1.ZO;rw [hnx] at k1;obtain ⟨z0,z1,z2,z3,z4,z5,z6,z7,z8⟩:=id v1)
  | (go_at_call 182;refine (hc _ m1 i1).mono ?_;rintro e w3 ⟨rfl,s3,Us,a3,m3,o3,i3,q3,p3⟩;have k3:=i3.ZO;have hdd:=hd _ _ p3))
 go_ret
 exact ⟨by first | rfl | rw [hdd],s3,Us,a3,m3,(((Only.refl _ _).alloc _).trans (Only.ZZ b1)).trans o3,i3,q3,p3⟩
theorem Me (h : Z9 w L s) (hi : ZL w b o T cs a) (who : Int) (hG : Good t n k m g p r) (hlen : ZR t n k m <= s.n) {x : Nat} (hx : x < n) (hsl : a.sl = x) (hnx : a.nx = 1) {ci : Int} (hF : XF t n k m a.ad a.sz ci) (X : Mm -> MV -> Prop) (d : Bool) (hd : ∀ s' a',X s' a' -> (a'.nx == 12) = d)
 (hc : ∀ w1 : World,Z9 w1 L s -> ZL w1 b o T cs a -> Calls Tryz.prog 183 #[pP b o,eV t n k m g p r L.p who] w1 fun e w'=>e = .returned (.tuple #[]) /\ YV L b o T cs w1 w' X) :
 Calls Tryz.prog 150 #[pP b o,eV t n k m g p r L.p who] w fun e w'=>e = .returned (.bool d) /\ YV L b o T cs w w' X:=by
 have st:=fun (w' : World) (m' : Z9 w' L s) (i' : ZL w' b o T cs a)=>Y1 m' i' who hG hlen hx hsl (by rw [hnx];rfl) hF
 have m0:=h.alloc (eO t n k m g p r L.p who)
 have i0:=hi.grown (ZT _ (eO t n k m g p r L.p who))
 have v0 : ZV (w.alloc (eO t n k m g p r L.p who)) w.heap.size t n k m g p r L.p who:=ZV.new
 have k0:=i0.ZO
 rw [hnx] at k0
 obtain ⟨y0,y1,y2,y3,y4,y5,y6,y7,y8⟩:=id v0
 go_enter Tryz.func150,Tryz.ntmps150
 go_wp2_with (first
  | (go_at_call 180;refine (st _ m0 i0).mono ?_;rintro e w1 ⟨rfl,b1⟩;have m1:=m0.below b1;have i1:=i0.grown b1;have v1:=v0.grown b1;have k1:=i1.ZO;rw [hnx] at k1;obtain ⟨z0,z1,z2,z3,z4,z5,z6,z7,z8⟩:=id v1)
  | (go_at_call 183;refine (hc _ m1 i1).mono ?_;rintro e w3 ⟨rfl,s3,Us,a3,m3,o3,i3,q3,p3⟩;have k3:=i3.ZO;have hdd:=hd _ _ p3))
 go_ret
 exact ⟨by first | rfl | rw [hdd],s3,Us,a3,m3,(((Only.refl _ _).alloc _).trans (Only.ZZ b1)).trans o3,i3,q3,p3⟩
theorem Qv (h : Z9 w L s) (hi : ZL w b o T cs a) (who : Int) (hG : Good t n k m g p r) (hlen : ZR t n k m <= s.n) {x : Nat} (hx : x < n) (hsl : a.sl = x) (hnx : a.nx = 3) {ci : Int} (hF : XF t n k m a.ad a.sz ci) (X : Mm -> MV -> Prop) (d : Bool) (hd : ∀ s' a',X s' a' -> (a'.nx == 12) = d)
 (hc : ∀ w1 : World,Z9 w1 L s -> ZL w1 b o T cs a -> Calls Tryz.prog 185 #[pP b o,eV t n k m g p r L.p who] w1 fun e w'=>e = .returned (.tuple #[]) /\ YV L b o T cs w1 w' X) :
 Calls Tryz.prog 150 #[pP b o,eV t n k m g p r L.p who] w fun e w'=>e = .returned (.bool d) /\ YV L b o T cs w w' X:=by
 have st:=fun (w' : World) (m' : Z9 w' L s) (i' : ZL w' b o T cs a)=>Y1 m' i' who hG hlen hx hsl (by rw [hnx];rfl) hF
 have m0:=h.alloc (eO t n k m g p r L.p who)
 have i0:=hi.grown (ZT _ (eO t n k m g p r L.p who))
 have v0 : ZV (w.alloc (eO t n k m g p r L.p who)) w.heap.size t n k m g p r L.p who:=ZV.new
 have k0:=i0.ZO
 rw [hnx] at k0
 obtain ⟨y0,y1,y2,y3,y4,y5,y6,y7,y8⟩:=id v0
 go_enter Tryz.func150,Tryz.ntmps150
 go_wp2_with (first
  | (go_at_call 180;refine (st _ m0 i0).mono ?_;rintro e w1 ⟨rfl,b1⟩;have m1:=m0.below b1;have i1:=i0.grown b1;have v1:=v0.grown b1;have k1:=i1.ZO;rw [hnx] at k1;obtain ⟨z0,z1,z2,z3,z4,z5,z6,z7,z8⟩:=id v1)
  | (go_at_call 185;refine (hc _ m1 i1).mono ?_;rintro e w3 ⟨rfl,s3,Us,a3,m3,o3,i3,q3,p3⟩;have k3:=i3.ZO;have hdd:=hd _ _ p3))
 go_ret
 exact ⟨by first | rfl | rw [hdd],s3,Us,a3,m3,(((Only.refl _ _).alloc _).trans (Only.ZZ b1)).trans o3,i3,q3,p3⟩
theorem JG (h : Z9 w L s) (hi : ZL w b o T cs a) (who : Int) (hG : Good t n k m g p r) (hlen : ZR t n k m <= s.n) {x : Nat} (hx : x < n) (hsl : a.sl = x) (hnx : a.nx = 4) {ci : Int} (hF : XF t n k m a.ad a.sz ci) (X : Mm -> MV -> Prop) (d : Bool) (hd : ∀ s' a',X s' a' -> (a'.nx == 12) = d)
 (hc : ∀ w1 : World,Z9 w1 L s -> ZL w1 b o T cs a -> Calls Tryz.prog 186 #[pP b o,eV t n k m g p r L.p who] w1 fun e w'=>e = .returned (.tuple #[]) /\ YV L b o T cs w1 w' X) :
 Calls Tryz.prog 150 #[pP b o,eV t n k m g p r L.p who] w fun e w'=>e = .returned (.bool d) /\ YV L b o T cs w w' X:=by
 have st:=fun (w' : World) (m' : Z9 w' L s) (i' : ZL w' b o T cs a)=>Y1 m' i' who hG hlen hx hsl (by rw [hnx];rfl) hF
 have m0:=h.alloc (eO t n k m g p r L.p who)
 have i0:=hi.grown (ZT _ (eO t n k m g p r L.p who))
 have v0 : ZV (w.alloc (eO t n k m g p r L.p who)) w.heap.size t n k m g p r L.p who:=ZV.new
 have k0:=i0.ZO
 rw [hnx] at k0
 obtain ⟨y0,y1,y2,y3,y4,y5,y6,y7,y8⟩:=id v0
 go_enter Tryz.func150,Tryz.ntmps150
 go_wp2_with (first
  | (go_at_call 180;refine (st _ m0 i0).mono ?_;rintro e w1 ⟨rfl,b1⟩;have m1:=m0.below b1;have i1:=i0.grown b1;have v1:=v0.grown b1;have k1:=i1.ZO;rw [hnx] at k1;obtain ⟨z0,z1,z2,z3,z4,z5,z6,z7,z8⟩:=id v1)
  | (go_at_call 186;refine (hc _ m1 i1).mono ?_;rintro e w3 ⟨rfl,s3,Us,a3,m3,o3,i3,q3,p3⟩;have k3:=i3.ZO;have hdd:=hd _ _ p3))
 go_ret
 exact ⟨by first | rfl | rw [hdd],s3,Us,a3,m3,(((Only.refl _ _).alloc _).trans (Only.ZZ b1)).trans o3,i3,q3,p3⟩
theorem TF (h : Z9 w L s) (hi : ZL w b o T cs a) (who : Int) (hG : Good t n k m g p r) (hlen : ZR t n k m <= s.n) {x : Nat} (hx : x < n) (hsl : a.sl = x) (hnx : a.nx = 5) {ci : Int} (hF : XF t n k m a.ad a.sz ci) (X : Mm -> MV -> Prop) (d : Bool) (hd : ∀ s' a',X s' a' -> (a'.nx == 12) = d)
 (hc : ∀ w1 : World,Z9 w1 L s -> ZL w1 b o T cs a -> Calls Tryz.prog 187 #[pP b o,eV t n k m g p r L.p who] w1 fun e w'=>e = .returned (.tuple #[]) /\ YV L b o T cs w1 w' X) :
 Calls Tryz.prog 150 #[pP b o,eV t n k m g p r L.p who] w fun e w'=>e = .returned (.bool d) /\ YV L b o T cs w w' X:=by
 have st:=fun (w' : World) (m' : Z9 w' L s) (i' : ZL w' b o T cs a)=>Y1 m' i' who hG hlen hx hsl (by rw [hnx];rfl) hF
 have m0:=h.alloc (eO t n k m g p r L.p who)
 have i0:=hi.grown (ZT _ (eO t n k m g p r L.p who))
 have v0 : ZV (w.alloc (eO t n k m g p r L.p who)) w.heap.size t n k m g p r L.p who:=ZV.new
 have k0:=i0.ZO
 rw [hnx] at k0
 obtain ⟨y0,y1,y2,y3,y4,y5,y6,y7,y8⟩:=id v0
 go_enter Tryz.func150,Tryz.ntmps150
 go_wp2_with (first
  | (go_at_call 180;refine (st _ m0 i0).mono ?_;rintro e w1 ⟨rfl,b1⟩;have m1:=m0.below b1;have i1:=i0.grown b1;have v1:=v0.grown b1;have k1:=i1.ZO;rw [hnx] at k1;obtain ⟨z0,z1,z2,z3,z4,z5,z6,z7,z8⟩:=id v1)
  | (go_at_call 187;refine (hc _ m1 i1).mono ?_;rintro e w3 ⟨rfl,s3,Us,a3,m3,o3,i3,q3,p3⟩;have k3:=i3.ZO;have hdd:=hd _ _ p3))
 go_ret
 exact ⟨by first | rfl | rw [hdd],s3,Us,a3,m3,(((Only.refl _ _).alloc _).trans (Only.ZZ b1)).trans o3,i3,q3,p3⟩
theorem Qu (h : Z9 w L s) (hi : ZL w b o T cs a) (who : Int) (hG : Good t n k m g p r) (hlen : ZR t n k m <= s.n) {x : Nat} (hx : x < n) (hsl : a.sl = x) (hnx : a.nx = 6) {ci : Int} (hF : XF t n k m a.ad a.sz ci) (X : Mm -> MV -> Prop) (d : Bool) (hd : ∀ s' a',X s' a' -> (a'.nx == 12) = d)
 (hc : ∀ w1 : World,Z9 w1 L s -> ZL w1 b o T cs a -> Calls Tryz.prog 188 #[pP b o,eV t n k m g p r L.p who] w1 fun e w'=>e = .returned (.tuple #[]) /\ YV L b o T cs w1 w' X) :
 Calls Tryz.prog 150 #[pP b o,eV t n k m g p r L.p who] w fun e w'=>e = .returned (.bool d) /\ YV L b o T cs w w' X:=by
 have st:=fun (w' : World) (m' : Z9 w' L s) (i' : ZL w' b o T cs a)=>Y1 m' i' who hG hlen hx hsl (by rw [hnx];rfl) hF
 have m0:=h.alloc (eO t n k m g p r L.p who)
 have i0:=hi.grown (ZT _ (eO t n k m g p r L.p who))
 have v0 : ZV (w.alloc (eO t n k m g p r L.p who)) w.heap.size t n k m g p r L.p who:=ZV.new
 have k0:=i0.ZO
 rw [hnx] at k0
 obtain ⟨y0,y1,y2,y3,y4,y5,y6,y7,y8⟩:=id v0
 go_enter Tryz.func150,Tryz.ntmps150
 go_wp2_with (first
  | (go_at_call 180;refine (st _ m0 i0).mono ?_;rintro e w1 ⟨rfl,b1⟩;have m1:=m0.below b1;have i1:=i0.grown b1;have v1:=v0.grown b1;have k1:=i1.ZO;rw [hnx] at k1;obtain ⟨z0,z1,z2,z3,z4,z5,z6,z7,z8⟩:=id v1)
  | (go_at_call 188;refine (hc _ m1 i1).mono ?_;rintro e w3 ⟨rfl,s3,Us,a3,m3,o3,i3,q3,p3⟩;have k3:=i3.ZO;have hdd:=hd _ _ p3))
 go_ret
 exact ⟨by first | rfl | rw [hdd],s3,Us,a3,m3,(((Only.refl _ _).alloc _).trans (Only.ZZ b1)).trans o3,i3,q3,p3⟩
theorem Ul (h : Z9 w L s) (hi : ZL w b o T cs a) (who : Int) (hG : Good t n k m g p r) (hlen : ZR t n k m <= s.n) {x : Nat} (hx : x < n) (hsl : a.sl = x) (hnx : a.nx = 7) {ci : Int} (hF : XF t n k m a.ad a.sz ci) (X : Mm -> MV -> Prop) (d : Bool) (hd : ∀ s' a',X s' a' -> (a'.nx == 12) = d)
 (hc : ∀ w1 : World,Z9 w1 L s -> ZL w1 b o T cs a -> Calls Tryz.prog 189 #[pP b o,eV t n k m g p r L.p who] w1 fun e w'=>e = .returned (.tuple #[]) /\ YV L b o T cs w1 w' X) :
 Calls Tryz.prog 150 #[pP b o,eV t n k m g p r L.p who] w fun e w'=>e = .returned (.bool d) /\ YV L b o T cs w w' X:=by
 have st:=fun (w' : World) (m' : Z9 w' L s) (i' : ZL w' b o T cs a)=>Y1 m' i' who hG hlen hx hsl (by rw [hnx];rfl) hF
 have m0:=h.alloc (eO t n k m g p r L.p who)
 have i0:=hi.grown (ZT _ (eO t n k m g p r L.p who))
 have v0 : ZV (w.alloc (eO t n k m g p r L.p who)) w.heap.size t n k m g p r L.p who:=ZV.new
 have k0:=i0.ZO
 rw [hnx] at k0
 obtain ⟨y0,y1,y2,y3,y4,y5,y6,y7,y8⟩:=id v0
 go_enter Tryz.func150,Tryz.ntmps150
 go_wp2_with (first
  | (go_at_call 180;refine (st _ m0 i0).mono ?_;rintro e w1 ⟨rfl,b1⟩;have m1:=m0.below b1;have i1:=i0.grown b1;have v1:=v0.grown b1;have k1:=i1.ZO;rw [hnx] at k1;obtain ⟨z0,z1,z2,z3,z4,z5,z6,z7,z8⟩:=id v1)
  | (go_at_call 189;refine (hc _ m1 i1).mono ?_;rintro e w3 ⟨rfl,s3,Us,a3,m3,o3,i3,q3,p3⟩;have k3:=i3.ZO;have hdd:=hd _ _ p3))
 go_ret
 exact ⟨by first | rfl | rw [hdd],s3,Us,a3,m3,(((Only.refl _ _).alloc _).trans (Only.ZZ b1)).trans o3,i3,q3,p3⟩
theorem Md (h : Z9 w L s) (hi : ZL w b o T cs a) (who : Int) (hG : Good t n k m g p r) (hlen : ZR t n k m <= s.n) {x : Nat} (hx : x < n) (hsl : a.sl = x) (hnx : a.nx = 8) {ci : Int} (hF : XF t n k m a.ad a.sz ci) (X : Mm -> MV -> Prop) (d : Bool) (hd : ∀ s' a',X s' a' -> (a'.nx == 12) = d)
 (hc : ∀ w1 : World,Z9 w1 L s -> ZL w1 b o T cs a -> Calls Tryz.prog 190 #[pP b o,eV t n k m g p r L.p who] w1 fun e w'=>e = .returned (.tuple #[]) /\ YV L b o T cs w1 w' X) :
 Calls Tryz.prog 150 #[pP b o,eV t n k m g p r L.p who] w fun e w'=>e = .returned (.bool d) /\ YV L b o T cs w w' X:=by
 have st:=fun (w' : World) (m' : Z9 w' L s) (i' : ZL w' b o T cs a)=>Y1 m' i' who hG hlen hx hsl (by rw [hnx];rfl) hF
 have m0:=h.alloc (eO t n k m g p r L.p who)
 have i0:=hi.grown (ZT _ (eO t n k m g p r L.p who))
 have v0 : ZV (w.alloc (eO t n k m g p r L.p who)) w.heap.size t n k m g p r L.p who:=ZV.new
 have k0:=i0.ZO
 rw [hnx] at k0
 obtain ⟨y0,y1,y2,y3,y4,y5,y6,y7,y8⟩:=id v0
 go_enter Tryz.func150,Tryz.ntmps150
 go_wp2_with (first
  | (go_at_call 180;refine (st _ m0 i0).mono ?_;rintro e w1 ⟨rfl,b1⟩;have m1:=m0.below b1;have i1:=i0.grown b1;have v1:=v0.grown b1;have k1:=i1.ZO;rw [hnx] at k1;obtain ⟨z0,z1,z2,z3,z4,z5,z6,z7,z8⟩:=id v1)
  | (go_at_call 190;refine (hc _ m1 i1).mono ?_;rintro e w3 ⟨rfl,s3,Us,a3,m3,o3,i3,q3,p3⟩;have k3:=i3.ZO;have hdd:=hd _ _ p3))
 go_ret
 exact ⟨by first | rfl | rw [hdd],s3,Us,a3,m3,(((Only.refl _ _).alloc _).trans (Only.ZZ b1)).trans o3,i3,q3,p3⟩
theorem JF (h : Z9 w L s) (hi : ZL w b o T cs a) (who : Int) (hG : Good t n k m g p r) (hlen : ZR t n k m <= s.n) {x : Nat} (hx : x < n) (hsl : a.sl = x) (hnx : a.nx = 9) {ci : Int} (hF : XF t n k m a.ad a.sz ci) (X : Mm -> MV -> Prop) (d : Bool) (hd : ∀ s' a',X s' a' -> (a'.nx == 12) = d)
 (hc : ∀ w1 : World,Z9 w1 L s -> ZL w1 b o T cs a -> Calls Tryz.prog 190 #[pP b o,eV t n k m g p r L.p who] w1 fun e w'=>e = .returned (.tuple #[]) /\ YV L b o T cs w1 w' X) :
 Calls Tryz.prog 150 #[pP b o,eV t n k m g p r L.p who] w fun e w'=>e = .returned (.bool d) /\ YV L b o T cs w w' X:=by
 have st:=fun (w' : World) (m' : Z9 w' L s) (i' : ZL w' b o T cs a)=>Y1 m' i' who hG hlen hx hsl (by rw [hnx];rfl) hF
 have m0:=h.alloc (eO t n k m g p r L.p who)
 have i0:=hi.grown (ZT _ (eO t n k m g p r L.p who))
 have v0 : ZV (w.alloc (eO t n k m g p r L.p who)) w.heap.size t n k m g p r L.p who:=ZV.new
 have k0:=i0.ZO
 rw [hnx] at k0
 obtain ⟨y0,y1,y2,y3,y4,y5,y6,y7,y8⟩:=id v0
 go_enter Tryz.func150,Tryz.ntmps150
 go_wp2_with (first
  | (go_at_call 180;refine (st _ m0 i0).mono ?_;rintro e w1 ⟨rfl,b1⟩;have m1:=m0.below b1;have i1:=i0.grown b1;have v1:=v0.grown b1;have k1:=i1.ZO;rw [hnx] at k1;obtain ⟨z0,z1,z2,z3,z4,z5,z6,z7,z8⟩:=id v1)
  | (go_at_call 190;refine (hc _ m1 i1).mono ?_;rintro e w3 ⟨rfl,s3,Us,a3,m3,o3,i3,q3,p3⟩;have k3:=i3.ZO;have hdd:=hd _ _ p3))
 go_ret
 exact ⟨by first | rfl | rw [hdd],s3,Us,a3,m3,(((Only.refl _ _).alloc _).trans (Only.ZZ b1)).trans o3,i3,q3,p3⟩
theorem JE (h : Z9 w L s) (hi : ZL w b o T cs a) (who : Int) (hG : Good t n k m g p r) (hlen : ZR t n k m <= s.n) {x : Nat} (hx : x < n) (hsl : a.sl = x) (hnx : a.nx = 10) {ci : Int} (hF : XF t n k m a.ad a.sz ci) (X : Mm -> MV -> Prop) (d : Bool) (hd : ∀ s' a',X s' a' -> (a'.nx == 12) = d)
 (hc : ∀ w1 : World,Z9 w1 L s -> ZL w1 b o T cs a -> Calls Tryz.prog 190 #[pP b o,eV t n k m g p r L.p who] w1 fun e w'=>e = .returned (.tuple #[]) /\ YV L b o T cs w1 w' X) :
 Calls Tryz.prog 150 #[pP b o,eV t n k m g p r L.p who] w fun e w'=>e = .returned (.bool d) /\ YV L b o T cs w w' X:=by
 have st:=fun (w' : World) (m' : Z9 w' L s) (i' : ZL w' b o T cs a)=>Y1 m' i' who hG hlen hx hsl (by rw [hnx];rfl) hF
 have m0:=h.alloc (eO t n k m g p r L.p who)
 have i0:=hi.grown (ZT _ (eO t n k m g p r L.p who))
 have v0 : ZV (w.alloc (eO t n k m g p r L.p who)) w.heap.size t n k m g p r L.p who:=ZV.new
 have k0:=i0.ZO
 rw [hnx] at k0
 obtain ⟨y0,y1,y2,y3,y4,y5,y6,y7,y8⟩:=id v0
 go_enter Tryz.func150,Tryz.ntmps150
 go_wp2_with (first
  | (go_at_call 180;refine (st _ m0 i0).mono ?_;rintro e w1 ⟨rfl,b1⟩;have m1:=m0.below b1;have i1:=i0.grown b1;have v1:=v0.grown b1;have k1:=i1.ZO;rw [hnx] at k1;obtain ⟨z0,z1,z2,z3,z4,z5,z6,z7,z8⟩:=id v1)
  | (go_at_call 190;refine (hc _ m1 i1).mono ?_;rintro e w3 ⟨rfl,s3,Us,a3,m3,o3,i3,q3,p3⟩;have k3:=i3.ZO;have hdd:=hd _ _ p3))
 go_ret
 exact ⟨by first | rfl | rw [hdd],s3,Us,a3,m3,(((Only.refl _ _).alloc _).trans (Only.ZZ b1)).trans o3,i3,q3,p3⟩
theorem JD (h : Z9 w L s) (hi : ZL w b o T cs a) (who : Int) (hG : Good t n k m g p r) (hlen : ZR t n k m <= s.n) {x : Nat} (hx : x < n) (hsl : a.sl = x) (hnx : a.nx = 11) {ci : Int} (hF : XF t n k m a.ad a.sz ci) (X : Mm -> MV -> Prop) (d : Bool) (hd : ∀ s' a',X s' a' -> (a'.nx == 12) = d)
 (hc : ∀ w1 : World,Z9 w1 L s -> ZL w1 b o T cs a -> Calls Tryz.prog 190 #[pP b o,eV t n k m g p r L.p who] w1 fun e w'=>e = .returned (.tuple #[]) /\ YV L b o T cs w1 w' X) :
 Calls Tryz.prog 150 #[pP b o,eV t n k m g p r L.p who] w fun e w'=>e = .returned (.bool d) /\ YV L b o T cs w w' X:=by
 have st:=fun (w' : World) (m' : Z9 w' L s) (i' : ZL w' b o T cs a)=>Y1 m' i' who hG hlen hx hsl (by rw [hnx];rfl) hF
 have m0:=h.alloc (eO t n k m g p r L.p who)
 have i0:=hi.grown (ZT _ (eO t n k m g p r L.p who))
 have v0 : ZV (w.alloc (eO t n k m g p r L.p who)) w.heap.size t n k m g p r L.p who:=ZV.new
 have k0:=i0.ZO
 rw [hnx] at k0
 obtain ⟨y0,y1,y2,y3,y4,y5,y6,y7,y8⟩:=id v0
 go_enter Tryz.func150,Tryz.ntmps150
 go_wp2_with (first
  | (go_at_call 180;refine (st _ m0 i0).mono ?_;rintro e w1 ⟨rfl,b1⟩;have m1:=m0.below b1;have i1:=i0.grown b1;have v1:=v0.grown b1;have k1:=i1.ZO;rw [hnx] at k1;obtain ⟨z0,z1,z2,z3,z4,z5,z6,z7,z8⟩:=id v1)
  | (go_at_call 190;refine (hc _ m1 i1).mono ?_;rintro e w3 ⟨rfl,s3,Us,a3,m3,o3,i3,q3,p3⟩;have k3:=i3.ZO;have hdd:=hd _ _ p3))
 go_ret
 exact ⟨by first | rfl | rw [hdd],s3,Us,a3,m3,(((Only.refl _ _).alloc _).trans (Only.ZZ b1)).trans o3,i3,q3,p3⟩
theorem JC (h : Z9 w L s) (hb : ¬ L.has b) (hi : ZL w b o T cs a) (who : Int) (hG : Good t n k m g p r) (hlen : ZR t n k m <= s.n) {x : Nat} (hx : x < n) (hsl : a.sl = x) (hnx : a.nx = 2) {ci : Int} (hF : XF t n k m a.ad a.sz ci) {κ : Nat} (fz : Fit a.sz) (fs : Fit a.sl) (fg : Fit a.gn) {τ : Pl} (hp : τ.cells κ a.pl) {B i : Nat} {dp : Bool} (ht : τ.told = (B,i,dp)) (hn : B < s.n) :
 Calls Tryz.prog 150 #[pP b o,eV t n k m g p r L.p who] w fun e w'=>e = .returned (.bool false) /\ YV L b o T cs w w' (fun s' a'=>s' = (s.by who).step B (Zg 1 a.sz a.sl a.gn a.own) /\ a' = { a with nx:=3 }):=by
 have st:=fun (w' : World) (m' : Z9 w' L s) (i' : ZL w' b o T cs a)=>Y1 m' i' who hG hlen hx hsl (by rw [hnx];rfl) hF
 have m0:=h.alloc (eO t n k m g p r L.p who)
 have i0:=hi.grown (ZT _ (eO t n k m g p r L.p who))
 have v0 : ZV (w.alloc (eO t n k m g p r L.p who)) w.heap.size t n k m g p r L.p who:=ZV.new
 have k0:=i0.ZO
 rw [hnx] at k0
 obtain ⟨y0,y1,y2,y3,y4,y5,y6,y7,y8⟩:=id v0
 go_enter Tryz.func150,Tryz.ntmps150
 go_wp2_with (first
  | (go_at_call 180;refine (st _ m0 i0).mono ?_;rintro e w1 ⟨rfl,b1⟩;have m1:=m0.below b1;have i1:=i0.grown b1;have v1:=v0.grown b1;have k1:=i1.ZO;rw [hnx] at k1;obtain ⟨z0,z1,z2,z3,z4,z5,z6,z7,z8⟩:=id v1)
  | (go_at_call 184;refine (Vz m1 i1 who (kd:=1) ⟨by decide,by decide⟩ fz fs fg hp ht hn).mono ?_;rintro e w3 ⟨rfl,m3,o3⟩;have i3:=i1.only o3 hb;have l0:=i3.ZO;have lf:=i3.fz;have i4:=i3.ZJ 3;have l4:=i4.ZO))
 go_ret
 exact ⟨rfl,_,_,_,m3.Z4 hb _ _,((((Only.refl _ _).alloc _).trans (Only.ZZ b1)).trans (o3.Y4 (b:=b))).set _ _,i4,Same.refl.set (by omega) _,rfl,rfl⟩
end Go.Proofs.YtmnnhjhhhfabiaaGreat
