import Derived.Test.YtmnnhjhhhfabiaaGreatEpAdv
import Derived.Test.YtmnnhjhhhfabiaaGreatPlaceSee
import Derived.Test.YtmnnhjhhhfabiaaGreatDropGo
namespace Go.Proofs.YtmnnhjhhhfabiaaGreat
open Go.RowKit
set_option maxHeartbeats 1000000
set_option maxRecDepth 20000
variable {w : World} {L : Loc} {s : Mm} {b o : Nat} {T : TypeId} {cs : Array Value} {t n k m : Nat} {g p r : Int} {a : SV}
theorem FX (hi : Zi w b o T cs a) :
 Calls Tryz.prog 110 #[pP b o] w fun e w'=>e = .returned (.bool a.fr) /\ w' = w:=by
 have k4:=hi.sF
 go_enter Tryz.func110,Tryz.ntmps110
 go_wp2
 go_ret
 exact ⟨rfl,rfl⟩
def set0 (i : Int) : Obj:=.cells #[iV 0,iV i,iV 0,iV 0,iV 0,iV 0,.int .u64 0,iV 0,.bool false] 108
theorem PY (i : Int) (w : World) :
 Calls Tryz.prog 155 #[iV i] w fun e w'=>e = .returned (pP w.heap.size 0) /\ w' = w.alloc (set0 i):=by
 go_enter Tryz.func155,Tryz.ntmps155
 go_wp2
 go_ret
 exact ⟨rfl,rfl⟩
theorem TL {i : Nat} (hz : w.cell? ⟨b,o + 1,none⟩ = some (iV i)) (P : Nat) (who : Int) (hG : Good t n k m g p r) (hik : i < k) :
 Calls Tryz.prog 158 #[pP b o,eV t n k m g p r P who] w fun e w'=>e = .returned (iV (((6 + t + n * 2 + i * 3) : Nat) : Int)) /\ Below w.heap.size w w':=by
 have hk1:=hG.k1
 go_enter Tryz.func158,Tryz.ntmps158
 go_wp2
 refine ZY (fun W=>W.cell? ⟨b,o + 1,none⟩ = some (iV i) /\ ZV W w.heap.size t n k m g p r P who /\ Below w.heap.size w W) ⟨keep' (Zh _ _) hz,ZV.new,Zh _ _⟩ ?_
 rintro W ⟨i1,v1,o1⟩
 apply Xr;· kernel_rfl
 apply rV;· intros;apply ol;go_simp;exact gl
 apply rV;· intro w' hg _;apply ol;have y:=(v1.dg hg).yy;go_simp;exact gl
 iterate 3 (apply rV;· intros;apply ol;go_simp;exact gl)
 apply rV;· intro w' hg _;apply ol;have z:=keep' hg (keep' ((Below.refl _ _).drew) i1);go_simp;exact gl
 try simp only [pu,s0,s1]
 apply rV (c:=iV (((6 + t + n * 2 + i * 3) : Nat) : Int));· intro w' hg _;apply ol;go_simp;refine (Y8 _ _ _ _ _ _ _ (i : Int) _ hG.arena (by omega) (by omega)).mono ?_;rintro e w'' ⟨rfl,b9⟩;exact ⟨_,rfl,b9,congrArg (Value.int .i64) (by omega)⟩
 apply Zb;· intros;apply ol;go_simp;exact gl
 try simp only [pu,s0,s1]
 intro w5 hg _
 go_wp2
 go_ret
 exact ⟨rfl,grow (o1.trans ((Below.refl _ _).drew)) hg⟩
theorem QC {U : Nat} (hz : w.cell? ⟨b,o + 4,none⟩ = some (iV U)) (P : Nat) (who : Int) (hU : U <= m) :
 Calls Tryz.prog 156 #[pP b o,eV t n k m g p r P who] w fun e w'=>e = .returned (iV (U : Int)) /\ Below w.heap.size w w':=by
 go_enter Tryz.func156,Tryz.ntmps156
 go_wp2
 refine ZY (fun W=>W.cell? ⟨b,o + 4,none⟩ = some (iV U) /\ ZV W w.heap.size t n k m g p r P who /\ Below w.heap.size w W) ⟨keep' (Zh _ _) hz,ZV.new,Zh _ _⟩ ?_
 rintro W ⟨i1,v1,o1⟩
 apply Xr;· kernel_rfl
 iterate 4 (apply rV;· intros;apply ol;go_simp;exact gl)
 apply rV;· intro w' hg _;apply ol;have z:=keep' hg (keep' ((Below.refl _ _).drew) i1);go_simp;exact gl
 apply rV;· intros;apply ol;go_simp;exact gl
 try simp only [pu,s0,s1]
 apply rV;· intros;apply ol;go_simp;exact gl
 apply rV;· intro w' hg _;apply ol;have y:=(v1.dg hg).yy;go_simp;exact gl
 apply rV (c:=iV U)
 · intro w' hg _
   apply ol
   have z : (min (U : Int) (m : Int)) = U:=by omega
   go_simp
   refine ⟨Grown.refl _,?_⟩
   first
    | rfl
    | exact congrArg (Value.int .i64) (by omega)
 apply Zb;· intros;apply ol;go_simp;exact gl
 try simp only [pu,s0,s1]
 intro w5 hg _
 go_wp2
 go_ret
 exact ⟨rfl,grow (o1.trans ((Below.refl _ _).drew)) hg⟩
theorem JW (h : Z9 w L s) (hb : ¬ L.has b) (hi : Zi w b o T cs a) (who : Int) (hG : Good t n k m g p r) {i : Nat} (hik : i < k) (hch : a.ch = i) (hn : (6 + t + n * 2 + i * 3) < s.n) {c : Ck} {σ : Nat} (hw : s.wd (6 + t + n * 2 + i * 3) = c.w) (hok : c.ok σ) (hσ : σ <= 2000000) (hst : c.st = 3) :
 Calls Tryz.prog 157 #[pP b o,eV t n k m g p r L.p who] w fun e w'=>e = .returned (.tuple #[]) /\ SC L b o T cs w w' (fun s' a'=>s' = ((s.by who).step (6 + t + n * 2 + i * 3) c.w) /\ a' = { a with st:=c.st,cl:=c.cl,us:=c.us,sp:=c.sp,nx:=1 }):=by
 have HU : Hid (s.wd (6 + t + n * 2 + i * 3) = c.w):=hw
 have HC : Hid (a.ch = (i : Int)):=hch
 have HS : Hid (((c.st : Int) != 3) = false):=by unfold Hid;simp;omega
 clear hw hch hst
 obtain ⟨hbv,hbb⟩:=nb h hi.lt
 go_enter Tryz.func157,Tryz.ntmps157
 go_wp2
 refine wo b h (fun _ g=>hi.grown g) ?_
 rintro W ⟨m1,i1,v1,o1⟩
 refine XW (ZX L b (o + 2)) Grown (BN L b o T cs cs s ((s.by who).step (6 + t + n * 2 + i * 3) c.w) a a) 9 [5] [.val (pP b o),.val (eV t n k m g p r L.p who),.val (pP b o),.val (eV t n k m g p r L.p who),.val (iV (((6 + t + n * 2 + i * 3) : Nat) : Int)),.val (.int .u64 c.w),.val (.agg #[iV c.st,iV c.cl,iV c.us,iV c.sp]),.val (pP b o),.val (pP b (o + 2))]
  (by kernel_rfl) ZX.refl ZX.trans ZX.ZZ Uo ⟨m1.drew,i1.drew⟩ (by decide) (by kernel_rfl) (by kernel_rfl) (by kernel_rfl) (by kernel_rfl) (by kernel_rfl) (by kernel_rfl) (by kernel_rfl) (by kernel_rfl) ?_
 simp only [List.take_succ_cons,List.take_zero,Zn,Act.put,List.setIfInBounds_toArray,List.set_cons_zero,List.set_cons_succ]
 refine ⟨?_,?_,?_,?_,?_,?_,?_,?_,?_,?_⟩
 · intros;apply ol;go_simp;exact gl
 · intro w' hR _;apply ol;have y:=(v1.dn hR.only hbv hbb).yy;go_simp;exact gl
 · intros;apply ol;go_simp;exact gl
 · intro w' hR _;apply ol;have y:=(v1.dn hR.only hbv hbb).yy;go_simp;exact gl
 · intro w' hR _;apply ol;go_simp;exact cb (TL (hR.keep (j:=o + 1) (by omega) (by have z:=i1.drew.XC;rwa [HC.out] at z)) L.p who hG hik)
 · intro w' hR _ hP;apply ol;go_simp;refine (ZK (s:=s) hP.1 _ _ _ _ _ _ _ _ (6 + t + n * 2 + i * 3) hn).mono ?_;rintro e w'' ⟨rfl,m2,o2⟩;rw [HU.out] at m2;exact ⟨_,rfl,⟨ZX.Zj o2 hb,m2,hP.2.only o2 hb⟩,by simp [Want.pred,HU.out]⟩
 · intro w' hR _;apply ol;go_simp;exact cb (Yu c σ hok hσ _)
 · intros;apply ol;go_simp;exact gl
 · intros;apply ol;go_simp;exact gl
 intro w2 hR hP _
 obtain ⟨m2,i2⟩ : Z9 w2 L ((s.by who).step (6 + t + n * 2 + i * 3) c.w) /\ Zi w2 b o T cs a:=hP
 have o2 : Only (L.and b) w w2:=o1.drew.trans hR.only
 clear hR o1 v1 m1 i1
 have k2:=i2.yM
 have k3:=i2.sG
 have k4:=i2.yL
 have k5:=i2.Oe
 have k0:=i2.ZO
 have kf:=i2.fz
 have I3:=(((i2.BR c.st).BQ c.cl).BP c.us).QD c.sp
 have M3:=(((m2.Z4 hb (o + 2) (iV c.st)).Z4 hb (o + 3) (iV c.cl)).Z4 hb (o + 4) (iV c.us)).Z4 hb (o + 5) (iV c.sp)
 have O3:=(((o2.set (o + 2) (iV c.st)).set (o + 3) (iV c.cl)).set (o + 4) (iV c.us)).set (o + 5) (iV c.sp)
 have I4:=I3.ZJ 1
 have l0:=I3.ZO
 have lf:=I3.fz
 have l2:=I4.yM
 have rE:=I4.ZO
 have vU:=I4.fz
 have hs':=HS.out
 go_wp2
 go_end0
 exact ⟨rfl,_,_,_,M3.Z4 hb _ _,O3.set _ _,I4,((((Same.refl.set (by omega) _).set (by omega) _).set (by omega) _).set (by omega) _).set (by omega) _,rfl,rfl⟩
theorem JV (h : Z9 w L s) (hb : ¬ L.has b) (hi : Zi w b o T cs a) (who : Int) (hG : Good t n k m g p r) {i : Nat} (hik : i < k) (hch : a.ch = i) (hn : (6 + t + n * 2 + i * 3) < s.n) {c : Ck} {σ : Nat} (hw : s.wd (6 + t + n * 2 + i * 3) = c.w) (hok : c.ok σ) (hσ : σ <= 2000000) (hst : ¬ c.st = 3) :
 Calls Tryz.prog 157 #[pP b o,eV t n k m g p r L.p who] w fun e w'=>e = .returned (.tuple #[]) /\ SC L b o T cs w w' (fun s' a'=>s' = ((s.by who).step (6 + t + n * 2 + i * 3) c.w) /\ a' = { a with st:=c.st,cl:=c.cl,us:=c.us,sp:=c.sp,nx:=6 }):=by
 have HU : Hid (s.wd (6 + t + n * 2 + i * 3) = c.w):=hw
 have HC : Hid (a.ch = (i : Int)):=hch
 have HS : Hid (((c.st : Int) != 3) = true):=by unfold Hid;simp;omega
 clear hw hch hst
 obtain ⟨hbv,hbb⟩:=nb h hi.lt
 go_enter Tryz.func157,Tryz.ntmps157
 go_wp2
 refine wo b h (fun _ g=>hi.grown g) ?_
 rintro W ⟨m1,i1,v1,o1⟩
 refine XW (ZX L b (o + 2)) Grown (BN L b o T cs cs s ((s.by who).step (6 + t + n * 2 + i * 3) c.w) a a) 9 [5] [.val (pP b o),.val (eV t n k m g p r L.p who),.val (pP b o),.val (eV t n k m g p r L.p who),.val (iV (((6 + t + n * 2 + i * 3) : Nat) : Int)),.val (.int .u64 c.w),.val (.agg #[iV c.st,iV c.cl,iV c.us,iV c.sp]),.val (pP b o),.val (pP b (o + 2))]
  (by kernel_rfl) ZX.refl ZX.trans ZX.ZZ Uo ⟨m1.drew,i1.drew⟩ (by decide) (by kernel_rfl) (by kernel_rfl) (by kernel_rfl) (by kernel_rfl) (by kernel_rfl) (by kernel_rfl) (by kernel_rfl) (by kernel_rfl) ?_
 simp only [List.take_succ_cons,List.take_zero,Zn,Act.put,List.setIfInBounds_toArray,List.set_cons_zero,List.set_cons_succ]
 refine ⟨?_,?_,?_,?_,?_,?_,?_,?_,?_,?_⟩
 · intros;apply ol;go_simp;exact gl
 · intro w' hR _;apply ol;have y:=(v1.dn hR.only hbv hbb).yy;go_simp;exact gl
 · intros;apply ol;go_simp;exact gl
 · intro w' hR _;apply ol;have y:=(v1.dn hR.only hbv hbb).yy;go_simp;exact gl
 · intro w' hR _;apply ol;go_simp;exact cb (TL (hR.keep (j:=o + 1) (by omega) (by have z:=i1.drew.XC;rwa [HC.out] at z)) L.p who hG hik)
 · intro w' hR _ hP;apply ol;go_simp;refine (ZK (s:=s) hP.1 _ _ _ _ _ _ _ _ (6 + t + n * 2 + i * 3) hn).mono ?_;rintro e w'' ⟨rfl,m2,o2⟩;rw [HU.out] at m2;exact ⟨_,rfl,⟨ZX.Zj o2 hb,m2,hP.2.only o2 hb⟩,by simp [Want.pred,HU.out]⟩
 · intro w' hR _;apply ol;go_simp;exact cb (Yu c σ hok hσ _)
 · intros;apply ol;go_simp;exact gl
 · intros;apply ol;go_simp;exact gl
 intro w2 hR hP _
 obtain ⟨m2,i2⟩ : Z9 w2 L ((s.by who).step (6 + t + n * 2 + i * 3) c.w) /\ Zi w2 b o T cs a:=hP
 have o2 : Only (L.and b) w w2:=o1.drew.trans hR.only
 clear hR o1 v1 m1 i1
 have k2:=i2.yM
 have k3:=i2.sG
 have k4:=i2.yL
 have k5:=i2.Oe
 have k0:=i2.ZO
 have kf:=i2.fz
 have I3:=(((i2.BR c.st).BQ c.cl).BP c.us).QD c.sp
 have M3:=(((m2.Z4 hb (o + 2) (iV c.st)).Z4 hb (o + 3) (iV c.cl)).Z4 hb (o + 4) (iV c.us)).Z4 hb (o + 5) (iV c.sp)
 have O3:=(((o2.set (o + 2) (iV c.st)).set (o + 3) (iV c.cl)).set (o + 4) (iV c.us)).set (o + 5) (iV c.sp)
 have I4:=I3.ZJ 1
 have l0:=I3.ZO
 have lf:=I3.fz
 have l2:=I4.yM
 have rE:=I4.ZO
 have vU:=I4.fz
 have hs':=HS.out
 go_wp2
 go_end0
 exact ⟨rfl,_,_,_,(M3.Z4 hb _ _).Z4 hb _ _,(O3.set _ _).set _ _,I4.ZJ 6,(((((Same.refl.set (by omega) _).set (by omega) _).set (by omega) _).set (by omega) _).set (by omega) _).set (by omega) _,rfl,rfl⟩
theorem BL (h : Z9 w L s) (hb : ¬ L.has b) (hi : Zi w b o T cs a) (who : Int) (hn : 0 < s.n) {N : Int} (hu : s.wd 0 = N) (h0 : 0 <= a.si) (h1 : a.si + 2 <= N) (h2 : N < 18446744073709551616) :
 Calls Tryz.prog 159 #[pP b o,eV t n k m g p r L.p who] w fun e w'=>e = .returned (.tuple #[]) /\ SC L b o T cs w w' (fun s' a'=>s' = (s.by who).step 0 N /\ a' = { a with nx:=3 }):=by
 have HU : Hid (s.wd 0 = N):=hu
 clear hu
 have hd1 : decide (N < a.si) = false:=decide_eq_false (by omega)
 obtain ⟨D,hD⟩ : ∃ D,IntKind.u64.wrap (N - a.si) = D:=⟨_,rfl⟩
 have hd2 : decide (D < 2) = false:=decide_eq_false (by
  have e : IntKind.u64.wrap (N - a.si) = (N - a.si) % 18446744073709551616:=rfl
  rw [<- hD,e]
  omega)
 clear h0 h1 h2
 obtain ⟨hbv,hbb⟩:=nb h hi.lt
 go_enter Tryz.func159,Tryz.ntmps159
 go_wp2
 refine wo b h (fun _ g=>hi.grown g) ?_
 rintro W ⟨m1,i1,v1,o1⟩
 apply Yc 2;· kernel_rfl
 apply rV;· intro w' hg _;apply ol;have y:=(v1.dg hg).yy;go_simp;exact gl
 apply Zb;· intro w' hg _;apply ol;go_simp;exact cc (WI _)
 try simp only [pu,s0,s1]
 intro w5 hg _
 have m5:=m1.drew.below hg
 have i5:=i1.drew.grown hg
 have v5:=v1.dg hg
 have o5:=o1.og hg
 clear hg m1 i1 v1 o1
 go_wp2_with (go_at_call 53;refine (ZK m5 _ _ _ _ _ _ _ _ 0 hn).mono ?_;rintro e w6 ⟨rfl,m6,o6⟩;rw [HU.out];rw [HU.out] at m6;have i6:=i5.only o6 hb;have l0:=i6.ZO;have lf:=i6.fz;have l6:=(i6.ZJ 3).yK;have rE:=(i6.ZJ 3).ZO;have vU:=(i6.ZJ 3).fz)
 go_end0
 exact ⟨rfl,_,_,_,m6.Z4 hb _ _,(o5.trans (o6.Y4 (b:=b))).set _ _,i6.ZJ 3,Same.refl.set (by omega) _,rfl,rfl⟩
theorem F7 (h : Z9 w L s) (hb : ¬ L.has b) (hi : Zi w b o T cs a) (who : Int) (hn : 0 < s.n) {N : Int} (hu : s.wd 0 = N) (h1 : N < a.si + 2) :
 Calls Tryz.prog 159 #[pP b o,eV t n k m g p r L.p who] w fun e w'=>e = .returned (.tuple #[]) /\ SC L b o T cs w w' (fun s' a'=>s' = (s.by who).step 0 N /\ a' = { a with nx:=6 }):=by
 have HU : Hid (s.wd 0 = N):=hu
 clear hu
 obtain ⟨D,hD⟩ : ∃ D,IntKind.u64.wrap (N - a.si) = D:=⟨_,rfl⟩
 have hd : decide (N < a.si) = true \/ (decide (N < a.si) = false /\ decide (D < 2) = true):=by
  by_cases hlt : N < a.si
  · exact Or.inl (decide_eq_true hlt)
  · refine Or.inr ⟨decide_eq_false hlt,decide_eq_true ?_⟩
    have e : IntKind.u64.wrap (N - a.si) = (N - a.si) % 18446744073709551616:=rfl
    rw [<- hD,e]
    omega
 clear h1
 obtain ⟨hbv,hbb⟩:=nb h hi.lt
 go_enter Tryz.func159,Tryz.ntmps159
 go_wp2
 refine wo b h (fun _ g=>hi.grown g) ?_
 rintro W ⟨m1,i1,v1,o1⟩
 apply Yc 2;· kernel_rfl
 apply rV;· intro w' hg _;apply ol;have y:=(v1.dg hg).yy;go_simp;exact gl
 apply Zb;· intro w' hg _;apply ol;go_simp;exact cc (WI _)
 try simp only [pu,s0,s1]
 intro w5 hg _
 have m5:=m1.drew.below hg
 have i5:=i1.drew.grown hg
 have v5:=v1.dg hg
 have o5:=o1.og hg
 clear hg m1 i1 v1 o1
 rcases hd with hd1 | ⟨hd1,hd2⟩
 · go_wp2_with (go_at_call 53;refine (ZK m5 _ _ _ _ _ _ _ _ 0 hn).mono ?_;rintro e w6 ⟨rfl,m6,o6⟩;rw [HU.out];rw [HU.out] at m6;have i6:=i5.only o6 hb;have l0:=i6.ZO;have lf:=i6.fz;have l6:=(i6.ZJ 3).yK;have rE:=(i6.ZJ 3).ZO;have vU:=(i6.ZJ 3).fz)
   go_end0
   exact ⟨rfl,_,_,_,(m6.Z4 hb _ _).Z4 hb _ _,((o5.trans (o6.Y4 (b:=b))).set _ _).set _ _,(i6.ZJ 3).ZJ 6,(Same.refl.set (by omega) _).set (by omega) _,rfl,rfl⟩
 · go_wp2_with (go_at_call 53;refine (ZK m5 _ _ _ _ _ _ _ _ 0 hn).mono ?_;rintro e w6 ⟨rfl,m6,o6⟩;rw [HU.out];rw [HU.out] at m6;have i6:=i5.only o6 hb;have l0:=i6.ZO;have lf:=i6.fz;have l6:=(i6.ZJ 3).yK;have rE:=(i6.ZJ 3).ZO;have vU:=(i6.ZJ 3).fz)
   go_end0
   exact ⟨rfl,_,_,_,(m6.Z4 hb _ _).Z4 hb _ _,((o5.trans (o6.Y4 (b:=b))).set _ _).set _ _,(i6.ZJ 3).ZJ 6,(Same.refl.set (by omega) _).set (by omega) _,rfl,rfl⟩
theorem FZ (h : Z9 w L s) (hb : ¬ L.has b) (hi : Zi w b o T cs a) (who : Int) (hG : Good t n k m g p r) {i : Nat} (hik : i < k) (hch : a.ch = i) (hn : (6 + t + n * 2 + i * 3) < s.n) {S : Nat} (hsp : a.sp = S) (hS : S < 2000000) :
 Calls Tryz.prog 160 #[pP b o,eV t n k m g p r L.p who] w fun e w'=>e = .returned (.tuple #[]) /\ SC L b o T cs w w' (fun s' a'=>s' = (s.by who).step (6 + t + n * 2 + i * 3) (Ck.mk 0 0 0 (S + 1)).w /\ a' = { a with fr:=true,nx:=6 }):=by
 have HC : Hid (a.ch = (i : Int)):=hch
 have HS : Hid (a.sp = (S : Int)):=hsp
 clear hsp hch
 obtain ⟨hbv,hbb⟩:=nb h hi.lt
 go_enter Tryz.func160,Tryz.ntmps160
 go_wp2
 refine wo b h (fun _ g=>hi.grown g) ?_
 rintro W ⟨m1,i1,v1,o1⟩
 apply Yc 12;· kernel_rfl
 apply rV;· intro w' hg _;apply ol;have y:=(v1.dg hg).yy;go_simp;exact gl
 apply rV;· intros;apply ol;go_simp;exact gl
 apply rV;· intro w' hg _;apply ol;have y:=(v1.dg hg).yy;go_simp;exact gl
 apply rV;· intro w' hg _;apply ol;go_simp;exact cb (TL (by have z:=(i1.drew.grown hg).XC;rwa [HC.out] at z) L.p who hG hik)
 iterate 2 (apply rV;· intros;apply ol;go_simp;exact gl)
 try simp only [pu,s0,s1]
 iterate 2 (apply rV;· intros;apply ol;go_simp;exact gl)
 apply rV;· intro w' hg _;apply ol;have z:=(by have z:=(i1.drew.grown hg).Oe;rwa [HS.out] at z);go_simp;exact gl
 apply rV (c:=iV (((S + 1 : Nat) : Int)));· intro w' hg _;apply ol;go_simp;exact ⟨Grown.refl _,congrArg (Value.int .i64) (by rw [IntKind.wrap_i64];omega)⟩
 apply rV;· intros;apply ol;go_simp;exact gl
 apply Zb;· intro w' hg _;apply ol;go_simp;exact cb (Yl (Ck.mk 0 0 0 (S + 1)) (S + 1) ⟨by simp,by simp,by simp,by simp⟩ (by omega) _ _ _ _ rfl rfl rfl rfl _)
 try simp only [pu,s0,s1]
 intro w5 hg _
 have m5:=m1.drew.below hg
 have i5:=i1.drew.grown hg
 have v5:=v1.dg hg
 have o5:=o1.og hg
 clear hg m1 i1 v1 o1
 go_wp2_with (go_at_call 55;refine (Yr m5 _ _ _ _ _ _ _ _ (6 + t + n * 2 + i * 3) hn _).mono ?_;rintro e w6 ⟨rfl,m6,o6⟩;have i6:=i5.only o6 hb;have l8:=i6.sF;have lf:=i6.fz;have l0:=(i6.JX true).ZO;have vU:=(i6.JX true).fz)
 go_end0
 exact ⟨rfl,_,_,_,(m6.Z4 hb _ _).Z4 hb _ _,((o5.trans (o6.Y4 (b:=b))).set _ _).set _ _,(i6.JX true).ZJ 6,(Same.refl.set (by omega) _).set (by omega) _,rfl,rfl⟩
end Go.Proofs.YtmnnhjhhhfabiaaGreat
