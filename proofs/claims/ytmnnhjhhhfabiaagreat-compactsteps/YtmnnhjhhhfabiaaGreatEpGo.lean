import Derived.Test.YtmnnhjhhhfabiaaGreatEpSet
namespace Go.Proofs.YtmnnhjhhhfabiaaGreat
open Go.RowKit
set_option maxHeartbeats 1000000
set_option maxRecDepth 20000
variable {w : World} {L : Loc} {s : Mm} {b o : Nat} {T : TypeId} {cs : Array Value} {t n k m : Nat} {g p r : Int} {a : SV}
theorem MP (h : Z9 w L s) (hb : ¬ L.has b) (hi : Zi w b o T cs a) (who : Int) (hG : Good t n k m g p r) {i : Nat} (hik : i < k) (hch : a.ch = i) (hl : ZR t n k m <= s.n) (hnx : a.nx = 0) {c : Ck} {σ : Nat} (hw : s.wd (6 + t + n * 2 + i * 3) = c.w) (hok : c.ok σ) (hσ : σ <= 2000000) (hst : c.st = 3) :
 Calls Tryz.prog 109 #[pP b o,eV t n k m g p r L.p who] w fun e w'=>e = .returned (.bool false) /\ SC L b o T cs w w' (fun s' a'=>s' = ((s.by who).step (6 + t + n * 2 + i * 3) c.w) /\ a' = { a with st:=c.st,cl:=c.cl,us:=c.us,sp:=c.sp,nx:=1 }):=by
 have HC : Hid (a.ch = (i : Int)):=hch
 have HN : Hid (a.nx = 0):=hnx
 have hk1:=hG.k1
 have hlen:=h.len
 have hwd:=hG.words
 have hm1:=hG.n1
 have hal : 6 + t + n * 2 + k * 3 + k * m <= s.n:=hl
 clear hch hnx
 have HW : Hid (s.wd (6 + t + n * 2 + i * 3) = c.w):=hw
 have HO : Hid (c.ok σ):=hok
 clear hw hok
 have HS : Hid (c.st = 3):=hst
 clear hst
 obtain ⟨hbv,hbb⟩:=nb h hi.lt
 go_enter Tryz.func109,Tryz.ntmps109
 go_wp2
 refine wo b h (fun _ g=>hi.grown g) ?_
 rintro W ⟨m1,i1,v1,o1⟩
 apply Xr;· kernel_rfl
 apply rV;· intro w' hg _;apply ol;have y:=(v1.dg hg).yy;go_simp;exact gl
 apply rV;· intro w' hg _;apply ol;go_simp;exact cb (YO (m1.drew.below hg) hG hl who)
 iterate 4 (apply rV;· intros;apply ol;go_simp;exact gl)
 try simp only [pu,s0,s1]
 apply rV;· intros;apply ol;go_simp;exact gl
 apply rV;· intro w' hg _;apply ol;have z:=(by have z:=(i1.drew.grown hg).XC;rwa [HC.out] at z);go_simp;exact gl
 apply rV (c:=.bool false)
 · intro w' hg _
   apply ol
   go_simp
   refine ⟨Grown.refl _,?_⟩
   first
    | rfl
    | exact congrArg Value.bool (decide_eq_false (by omega))
 iterate 3 (apply rV;· intros;apply ol;go_simp;exact gl)
 try simp only [pu,s0,s1]
 iterate 2 (apply rV;· intros;apply ol;go_simp;exact gl)
 apply rV;· intro w' hg _;apply ol;have z:=(by have z:=(i1.drew.grown hg).XC;rwa [HC.out] at z);go_simp;exact gl
 iterate 2 (apply rV;· intros;apply ol;go_simp;exact gl)
 apply rV;· intro w' hg _;apply ol;have y:=(v1.dg hg).yy;go_simp;exact gl
 try simp only [pu,s0,s1]
 apply rV (c:=.bool false)
 · intro w' hg _
   apply ol
   go_simp
   refine ⟨Grown.refl _,?_⟩
   first
    | rfl
    | exact congrArg Value.bool (decide_eq_false (by omega))
 apply Zb;· intros;apply ol;go_simp;exact gl
 try simp only [pu,s0,s1]
 intro w5 hg _
 have m5:=m1.drew.below hg
 have i5:=i1.drew.grown hg
 have v5:=v1.dg hg
 have o5:=o1.og hg
 clear hg m1 i1 v1 o1
 go_wp2
 refine ZY (fun W=>Z9 W L s /\ Zi W b o T cs a /\ ZV W w.heap.size t n k m g p r L.p who /\ Only (L.and b) w W) ⟨m5,i5,v5,o5⟩ ?_
 clear m5 i5 v5 o5
 rintro W ⟨m1,i1,v1,o1⟩
 apply Xr;· kernel_rfl
 iterate 3 (apply rV;· intros;apply ol;go_simp;exact gl)
 apply rV;· intro w' hg _;apply ol;have z:=(by have z:=(i1.drew.grown hg).ZO;rwa [HN.out] at z);go_simp;exact gl
 iterate 2 (apply rV;· intros;apply ol;go_simp;exact gl)
 try simp only [pu,s0,s1]
 iterate 6 (apply rV;· intros;exact ur)
 try simp only [pu,s0,s1]
 iterate 2 (apply rV;· intros;exact ur)
 apply Zb;· intros;apply ol;go_simp;exact gl
 try simp only [pu,s0,s1]
 intro w5 hg _
 have m5:=m1.drew.below hg
 have i5:=i1.drew.grown hg
 have v5:=v1.dg hg
 have o5:=o1.og hg
 clear hg m1 i1 v1 o1
 have k0:=i5.ZO
 rw [HN.out] at k0
 have kf:=i5.fz
 obtain ⟨y0,y1,y2,y3,y4,y5,y6,y7,y8⟩:=id v5
 go_wp2_with (go_at_call 157;refine (JW m5 hb i5 who hG hik HC.out (by omega) HW.out HO.out hσ HS.out).mono ?_;rintro e w6 ⟨rfl,s6,XD,a6,m6,o6,i6,q6,rfl,rfl⟩;have l0:=i6.ZO)
 go_ret
 exact ⟨rfl,_,_,_,m6,o5.trans o6,i6,q6,rfl,rfl⟩
theorem MO (h : Z9 w L s) (hb : ¬ L.has b) (hi : Zi w b o T cs a) (who : Int) (hG : Good t n k m g p r) {i : Nat} (hik : i < k) (hch : a.ch = i) (hl : ZR t n k m <= s.n) (hnx : a.nx = 0) {c : Ck} {σ : Nat} (hw : s.wd (6 + t + n * 2 + i * 3) = c.w) (hok : c.ok σ) (hσ : σ <= 2000000) (hst : ¬ c.st = 3) :
 Calls Tryz.prog 109 #[pP b o,eV t n k m g p r L.p who] w fun e w'=>e = .returned (.bool true) /\ SC L b o T cs w w' (fun s' a'=>s' = ((s.by who).step (6 + t + n * 2 + i * 3) c.w) /\ a' = { a with st:=c.st,cl:=c.cl,us:=c.us,sp:=c.sp,nx:=6 }):=by
 have HC : Hid (a.ch = (i : Int)):=hch
 have HN : Hid (a.nx = 0):=hnx
 have hk1:=hG.k1
 have hlen:=h.len
 have hwd:=hG.words
 have hm1:=hG.n1
 have hal : 6 + t + n * 2 + k * 3 + k * m <= s.n:=hl
 clear hch hnx
 have HW : Hid (s.wd (6 + t + n * 2 + i * 3) = c.w):=hw
 have HO : Hid (c.ok σ):=hok
 clear hw hok
 have HS : Hid (¬ c.st = 3):=hst
 clear hst
 obtain ⟨hbv,hbb⟩:=nb h hi.lt
 go_enter Tryz.func109,Tryz.ntmps109
 go_wp2
 refine wo b h (fun _ g=>hi.grown g) ?_
 rintro W ⟨m1,i1,v1,o1⟩
 apply Xr;· kernel_rfl
 apply rV;· intro w' hg _;apply ol;have y:=(v1.dg hg).yy;go_simp;exact gl
 apply rV;· intro w' hg _;apply ol;go_simp;exact cb (YO (m1.drew.below hg) hG hl who)
 iterate 4 (apply rV;· intros;apply ol;go_simp;exact gl)
 try simp only [pu,s0,s1]
 apply rV;· intros;apply ol;go_simp;exact gl
 apply rV;· intro w' hg _;apply ol;have z:=(by have z:=(i1.drew.grown hg).XC;rwa [HC.out] at z);go_simp;exact gl
 apply rV (c:=.bool false)
 · intro w' hg _
   apply ol
   go_simp
   refine ⟨Grown.refl _,?_⟩
   first
    | rfl
    | exact congrArg Value.bool (decide_eq_false (by omega))
 iterate 3 (apply rV;· intros;apply ol;go_simp;exact gl)
 try simp only [pu,s0,s1]
 iterate 2 (apply rV;· intros;apply ol;go_simp;exact gl)
 apply rV;· intro w' hg _;apply ol;have z:=(by have z:=(i1.drew.grown hg).XC;rwa [HC.out] at z);go_simp;exact gl
 iterate 2 (apply rV;· intros;apply ol;go_simp;exact gl)
 apply rV;· intro w' hg _;apply ol;have y:=(v1.dg hg).yy;go_simp;exact gl
 try simp only [pu,s0,s1]
 apply rV (c:=.bool false)
 · intro w' hg _
   apply ol
   go_simp
   refine ⟨Grown.refl _,?_⟩
   first
    | rfl
    | exact congrArg Value.bool (decide_eq_false (by omega))
 apply Zb;· intros;apply ol;go_simp;exact gl
 try simp only [pu,s0,s1]
 intro w5 hg _
 have m5:=m1.drew.below hg
 have i5:=i1.drew.grown hg
 have v5:=v1.dg hg
 have o5:=o1.og hg
 clear hg m1 i1 v1 o1
 go_wp2
 refine ZY (fun W=>Z9 W L s /\ Zi W b o T cs a /\ ZV W w.heap.size t n k m g p r L.p who /\ Only (L.and b) w W) ⟨m5,i5,v5,o5⟩ ?_
 clear m5 i5 v5 o5
 rintro W ⟨m1,i1,v1,o1⟩
 apply Xr;· kernel_rfl
 iterate 3 (apply rV;· intros;apply ol;go_simp;exact gl)
 apply rV;· intro w' hg _;apply ol;have z:=(by have z:=(i1.drew.grown hg).ZO;rwa [HN.out] at z);go_simp;exact gl
 iterate 2 (apply rV;· intros;apply ol;go_simp;exact gl)
 try simp only [pu,s0,s1]
 iterate 6 (apply rV;· intros;exact ur)
 try simp only [pu,s0,s1]
 iterate 2 (apply rV;· intros;exact ur)
 apply Zb;· intros;apply ol;go_simp;exact gl
 try simp only [pu,s0,s1]
 intro w5 hg _
 have m5:=m1.drew.below hg
 have i5:=i1.drew.grown hg
 have v5:=v1.dg hg
 have o5:=o1.og hg
 clear hg m1 i1 v1 o1
 have k0:=i5.ZO
 rw [HN.out] at k0
 have kf:=i5.fz
 obtain ⟨y0,y1,y2,y3,y4,y5,y6,y7,y8⟩:=id v5
 go_wp2_with (go_at_call 157;refine (JV m5 hb i5 who hG hik HC.out (by omega) HW.out HO.out hσ HS.out).mono ?_;rintro e w6 ⟨rfl,s6,XD,a6,m6,o6,i6,q6,rfl,rfl⟩;have l0:=i6.ZO)
 go_ret
 exact ⟨rfl,_,_,_,m6,o5.trans o6,i6,q6,rfl,rfl⟩
theorem BM (h : Z9 w L s) (hb : ¬ L.has b) (hi : Zi w b o T cs a) (who : Int) (hG : Good t n k m g p r) {i : Nat} (hik : i < k) (hch : a.ch = i) (hl : ZR t n k m <= s.n) (hnx : a.nx = 2) {N : Int} (hu : s.wd 0 = N) (h0 : 0 <= a.si) (h1 : a.si + 2 <= N) (h2 : N < 18446744073709551616) :
 Calls Tryz.prog 109 #[pP b o,eV t n k m g p r L.p who] w fun e w'=>e = .returned (.bool false) /\ SC L b o T cs w w' (fun s' a'=>s' = (s.by who).step 0 N /\ a' = { a with nx:=3 }):=by
 have HC : Hid (a.ch = (i : Int)):=hch
 have HN : Hid (a.nx = 2):=hnx
 have hk1:=hG.k1
 have hlen:=h.len
 have hwd:=hG.words
 have hm1:=hG.n1
 have hal : 6 + t + n * 2 + k * 3 + k * m <= s.n:=hl
 clear hch hnx
 have HU : Hid (s.wd 0 = N):=hu
 clear hu
 have H1 : Hid (0 <= a.si /\ a.si + 2 <= N /\ N < 18446744073709551616):=⟨h0,h1,h2⟩
 clear h0 h1 h2
 obtain ⟨hbv,hbb⟩:=nb h hi.lt
 go_enter Tryz.func109,Tryz.ntmps109
 go_wp2
 refine wo b h (fun _ g=>hi.grown g) ?_
 rintro W ⟨m1,i1,v1,o1⟩
 apply Xr;· kernel_rfl
 apply rV;· intro w' hg _;apply ol;have y:=(v1.dg hg).yy;go_simp;exact gl
 apply rV;· intro w' hg _;apply ol;go_simp;exact cb (YO (m1.drew.below hg) hG hl who)
 iterate 4 (apply rV;· intros;apply ol;go_simp;exact gl)
 try simp only [pu,s0,s1]
 apply rV;· intros;apply ol;go_simp;exact gl
 apply rV;· intro w' hg _;apply ol;have z:=(by have z:=(i1.drew.grown hg).XC;rwa [HC.out] at z);go_simp;exact gl
 apply rV (c:=.bool false)
 · intro w' hg _
   apply ol
   go_simp
   refine ⟨Grown.refl _,?_⟩
   first
    | rfl
    | exact congrArg Value.bool (decide_eq_false (by omega))
 iterate 3 (apply rV;· intros;apply ol;go_simp;exact gl)
 try simp only [pu,s0,s1]
 iterate 2 (apply rV;· intros;apply ol;go_simp;exact gl)
 apply rV;· intro w' hg _;apply ol;have z:=(by have z:=(i1.drew.grown hg).XC;rwa [HC.out] at z);go_simp;exact gl
 iterate 2 (apply rV;· intros;apply ol;go_simp;exact gl)
 apply rV;· intro w' hg _;apply ol;have y:=(v1.dg hg).yy;go_simp;exact gl
 try simp only [pu,s0,s1]
 apply rV (c:=.bool false)
 · intro w' hg _
   apply ol
   go_simp
   refine ⟨Grown.refl _,?_⟩
   first
    | rfl
    | exact congrArg Value.bool (decide_eq_false (by omega))
 apply Zb;· intros;apply ol;go_simp;exact gl
 try simp only [pu,s0,s1]
 intro w5 hg _
 have m5:=m1.drew.below hg
 have i5:=i1.drew.grown hg
 have v5:=v1.dg hg
 have o5:=o1.og hg
 clear hg m1 i1 v1 o1
 go_wp2
 refine ZY (fun W=>Z9 W L s /\ Zi W b o T cs a /\ ZV W w.heap.size t n k m g p r L.p who /\ Only (L.and b) w W) ⟨m5,i5,v5,o5⟩ ?_
 clear m5 i5 v5 o5
 rintro W ⟨m1,i1,v1,o1⟩
 apply Xr;· kernel_rfl
 iterate 3 (apply rV;· intros;apply ol;go_simp;exact gl)
 apply rV;· intro w' hg _;apply ol;have z:=(by have z:=(i1.drew.grown hg).ZO;rwa [HN.out] at z);go_simp;exact gl
 iterate 2 (apply rV;· intros;apply ol;go_simp;exact gl)
 try simp only [pu,s0,s1]
 iterate 6 (apply rV;· intros;exact ur)
 try simp only [pu,s0,s1]
 iterate 2 (apply rV;· intros;exact ur)
 apply Zb;· intros;apply ol;go_simp;exact gl
 try simp only [pu,s0,s1]
 intro w5 hg _
 have m5:=m1.drew.below hg
 have i5:=i1.drew.grown hg
 have v5:=v1.dg hg
 have o5:=o1.og hg
 clear hg m1 i1 v1 o1
 have k0:=i5.ZO
 rw [HN.out] at k0
 have kf:=i5.fz
 obtain ⟨y0,y1,y2,y3,y4,y5,y6,y7,y8⟩:=id v5
 go_wp2_with (go_at_call 159;refine (BL m5 hb i5 who (by omega) HU.out H1.out.1 H1.out.2.1 H1.out.2.2).mono ?_;rintro e w6 ⟨rfl,s6,XD,a6,m6,o6,i6,q6,rfl,rfl⟩;have l0:=i6.ZO)
 go_ret
 exact ⟨rfl,_,_,_,m6,o5.trans o6,i6,q6,rfl,rfl⟩
theorem F8 (h : Z9 w L s) (hb : ¬ L.has b) (hi : Zi w b o T cs a) (who : Int) (hG : Good t n k m g p r) {i : Nat} (hik : i < k) (hch : a.ch = i) (hl : ZR t n k m <= s.n) (hnx : a.nx = 2) {N : Int} (hu : s.wd 0 = N) (h1 : N < a.si + 2) :
 Calls Tryz.prog 109 #[pP b o,eV t n k m g p r L.p who] w fun e w'=>e = .returned (.bool true) /\ SC L b o T cs w w' (fun s' a'=>s' = (s.by who).step 0 N /\ a' = { a with nx:=6 }):=by
 have HC : Hid (a.ch = (i : Int)):=hch
 have HN : Hid (a.nx = 2):=hnx
 have hk1:=hG.k1
 have hlen:=h.len
 have hwd:=hG.words
 have hm1:=hG.n1
 have hal : 6 + t + n * 2 + k * 3 + k * m <= s.n:=hl
 clear hch hnx
 have HU : Hid (s.wd 0 = N):=hu
 clear hu
 have H1 : Hid (N < a.si + 2):=h1
 clear h1
 obtain ⟨hbv,hbb⟩:=nb h hi.lt
 go_enter Tryz.func109,Tryz.ntmps109
 go_wp2
 refine wo b h (fun _ g=>hi.grown g) ?_
 rintro W ⟨m1,i1,v1,o1⟩
 apply Xr;· kernel_rfl
 apply rV;· intro w' hg _;apply ol;have y:=(v1.dg hg).yy;go_simp;exact gl
 apply rV;· intro w' hg _;apply ol;go_simp;exact cb (YO (m1.drew.below hg) hG hl who)
 iterate 4 (apply rV;· intros;apply ol;go_simp;exact gl)
 try simp only [pu,s0,s1]
 apply rV;· intros;apply ol;go_simp;exact gl
 apply rV;· intro w' hg _;apply ol;have z:=(by have z:=(i1.drew.grown hg).XC;rwa [HC.out] at z);go_simp;exact gl
 apply rV (c:=.bool false)
 · intro w' hg _
   apply ol
   go_simp
   refine ⟨Grown.refl _,?_⟩
   first
    | rfl
    | exact congrArg Value.bool (decide_eq_false (by omega))
 iterate 3 (apply rV;· intros;apply ol;go_simp;exact gl)
 try simp only [pu,s0,s1]
 iterate 2 (apply rV;· intros;apply ol;go_simp;exact gl)
 apply rV;· intro w' hg _;apply ol;have z:=(by have z:=(i1.drew.grown hg).XC;rwa [HC.out] at z);go_simp;exact gl
 iterate 2 (apply rV;· intros;apply ol;go_simp;exact gl)
 apply rV;· intro w' hg _;apply ol;have y:=(v1.dg hg).yy;go_simp;exact gl
 try simp only [pu,s0,s1]
 apply rV (c:=.bool false)
 · intro w' hg _
   apply ol
   go_simp
   refine ⟨Grown.refl _,?_⟩
   first
    | rfl
    | exact congrArg Value.bool (decide_eq_false (by omega))
 apply Zb;· intros;apply ol;go_simp;exact gl
 try simp only [pu,s0,s1]
 intro w5 hg _
 have m5:=m1.drew.below hg
 have i5:=i1.drew.grown hg
 have v5:=v1.dg hg
 have o5:=o1.og hg
 clear hg m1 i1 v1 o1
 go_wp2
 refine ZY (fun W=>Z9 W L s /\ Zi W b o T cs a /\ ZV W w.heap.size t n k m g p r L.p who /\ Only (L.and b) w W) ⟨m5,i5,v5,o5⟩ ?_
 clear m5 i5 v5 o5
 rintro W ⟨m1,i1,v1,o1⟩
 apply Xr;· kernel_rfl
 iterate 3 (apply rV;· intros;apply ol;go_simp;exact gl)
 apply rV;· intro w' hg _;apply ol;have z:=(by have z:=(i1.drew.grown hg).ZO;rwa [HN.out] at z);go_simp;exact gl
 iterate 2 (apply rV;· intros;apply ol;go_simp;exact gl)
 try simp only [pu,s0,s1]
 iterate 6 (apply rV;· intros;exact ur)
 try simp only [pu,s0,s1]
 iterate 2 (apply rV;· intros;exact ur)
 apply Zb;· intros;apply ol;go_simp;exact gl
 try simp only [pu,s0,s1]
 intro w5 hg _
 have m5:=m1.drew.below hg
 have i5:=i1.drew.grown hg
 have v5:=v1.dg hg
 have o5:=o1.og hg
 clear hg m1 i1 v1 o1
 have k0:=i5.ZO
 rw [HN.out] at k0
 have kf:=i5.fz
 obtain ⟨y0,y1,y2,y3,y4,y5,y6,y7,y8⟩:=id v5
 go_wp2_with (go_at_call 159;refine (F7 m5 hb i5 who (by omega) HU.out H1.out).mono ?_;rintro e w6 ⟨rfl,s6,XD,a6,m6,o6,i6,q6,rfl,rfl⟩;have l0:=i6.ZO)
 go_ret
 exact ⟨rfl,_,_,_,m6,o5.trans o6,i6,q6,rfl,rfl⟩
theorem JU (h : Z9 w L s) (hb : ¬ L.has b) (hi : Zi w b o T cs a) (who : Int) (hG : Good t n k m g p r) {i : Nat} (hik : i < k) (hch : a.ch = i) (hl : ZR t n k m <= s.n) (hnx : a.nx = 5) {S : Nat} (hsp : a.sp = S) (hS : S < 2000000) :
 Calls Tryz.prog 109 #[pP b o,eV t n k m g p r L.p who] w fun e w'=>e = .returned (.bool true) /\ SC L b o T cs w w' (fun s' a'=>s' = (s.by who).step (6 + t + n * 2 + i * 3) (Ck.mk 0 0 0 (S + 1)).w /\ a' = { a with fr:=true,nx:=6 }):=by
 have HC : Hid (a.ch = (i : Int)):=hch
 have HN : Hid (a.nx = 5):=hnx
 have hk1:=hG.k1
 have hlen:=h.len
 have hwd:=hG.words
 have hm1:=hG.n1
 have hal : 6 + t + n * 2 + k * 3 + k * m <= s.n:=hl
 clear hch hnx
 have HS : Hid (a.sp = (S : Int)):=hsp
 clear hsp
 obtain ⟨hbv,hbb⟩:=nb h hi.lt
 go_enter Tryz.func109,Tryz.ntmps109
 go_wp2
 refine wo b h (fun _ g=>hi.grown g) ?_
 rintro W ⟨m1,i1,v1,o1⟩
 apply Xr;· kernel_rfl
 apply rV;· intro w' hg _;apply ol;have y:=(v1.dg hg).yy;go_simp;exact gl
 apply rV;· intro w' hg _;apply ol;go_simp;exact cb (YO (m1.drew.below hg) hG hl who)
 iterate 4 (apply rV;· intros;apply ol;go_simp;exact gl)
 try simp only [pu,s0,s1]
 apply rV;· intros;apply ol;go_simp;exact gl
 apply rV;· intro w' hg _;apply ol;have z:=(by have z:=(i1.drew.grown hg).XC;rwa [HC.out] at z);go_simp;exact gl
 apply rV (c:=.bool false)
 · intro w' hg _
   apply ol
   go_simp
   refine ⟨Grown.refl _,?_⟩
   first
    | rfl
    | exact congrArg Value.bool (decide_eq_false (by omega))
 iterate 3 (apply rV;· intros;apply ol;go_simp;exact gl)
 try simp only [pu,s0,s1]
 iterate 2 (apply rV;· intros;apply ol;go_simp;exact gl)
 apply rV;· intro w' hg _;apply ol;have z:=(by have z:=(i1.drew.grown hg).XC;rwa [HC.out] at z);go_simp;exact gl
 iterate 2 (apply rV;· intros;apply ol;go_simp;exact gl)
 apply rV;· intro w' hg _;apply ol;have y:=(v1.dg hg).yy;go_simp;exact gl
 try simp only [pu,s0,s1]
 apply rV (c:=.bool false)
 · intro w' hg _
   apply ol
   go_simp
   refine ⟨Grown.refl _,?_⟩
   first
    | rfl
    | exact congrArg Value.bool (decide_eq_false (by omega))
 apply Zb;· intros;apply ol;go_simp;exact gl
 try simp only [pu,s0,s1]
 intro w5 hg _
 have m5:=m1.drew.below hg
 have i5:=i1.drew.grown hg
 have v5:=v1.dg hg
 have o5:=o1.og hg
 clear hg m1 i1 v1 o1
 go_wp2
 refine ZY (fun W=>Z9 W L s /\ Zi W b o T cs a /\ ZV W w.heap.size t n k m g p r L.p who /\ Only (L.and b) w W) ⟨m5,i5,v5,o5⟩ ?_
 clear m5 i5 v5 o5
 rintro W ⟨m1,i1,v1,o1⟩
 apply Xr;· kernel_rfl
 iterate 3 (apply rV;· intros;apply ol;go_simp;exact gl)
 apply rV;· intro w' hg _;apply ol;have z:=(by have z:=(i1.drew.grown hg).ZO;rwa [HN.out] at z);go_simp;exact gl
 iterate 2 (apply rV;· intros;apply ol;go_simp;exact gl)
 try simp only [pu,s0,s1]
 iterate 6 (apply rV;· intros;exact ur)
 try simp only [pu,s0,s1]
 iterate 2 (apply rV;· intros;exact ur)
 apply Zb;· intros;apply ol;go_simp;exact gl
 try simp only [pu,s0,s1]
 intro w5 hg _
 have m5:=m1.drew.below hg
 have i5:=i1.drew.grown hg
 have v5:=v1.dg hg
 have o5:=o1.og hg
 clear hg m1 i1 v1 o1
 have k0:=i5.ZO
 rw [HN.out] at k0
 have kf:=i5.fz
 obtain ⟨y0,y1,y2,y3,y4,y5,y6,y7,y8⟩:=id v5
 go_wp2_with (go_at_call 160;refine (FZ m5 hb i5 who hG hik HC.out (by omega) HS.out hS).mono ?_;rintro e w6 ⟨rfl,s6,XD,a6,m6,o6,i6,q6,rfl,rfl⟩;have l0:=i6.ZO)
 go_ret
 exact ⟨rfl,_,_,_,m6,o5.trans o6,i6,q6,rfl,rfl⟩
theorem FY (h : Z9 w L s) (hb : ¬ L.has b) (hi : Zi w b o T cs a) (who : Int) (hG : Good t n k m g p r) {i : Nat} (hik : i < k) (hch : a.ch = i) (hl : ZR t n k m <= s.n) (hnx : a.nx = 1) {u : Int} (hu : s.wd ((6 + t + n * 2 + i * 3) + 2) = u) :
 Calls Tryz.prog 109 #[pP b o,eV t n k m g p r L.p who] w fun e w'=>e = .returned (.bool false) /\ SC L b o T cs w w' (fun s' a'=>s' = ((s.by who).step ((6 + t + n * 2 + i * 3) + 2) u) /\ a' = { a with si:=u,nx:=2 }):=by
 have HC : Hid (a.ch = (i : Int)):=hch
 have HN : Hid (a.nx = 1):=hnx
 have hk1:=hG.k1
 have hlen:=h.len
 have hwd:=hG.words
 have hm1:=hG.n1
 have hal : 6 + t + n * 2 + k * 3 + k * m <= s.n:=hl
 clear hch hnx
 have HU : Hid (s.wd ((6 + t + n * 2 + i * 3) + 2) = u):=hu
 clear hu
 obtain ⟨hbv,hbb⟩:=nb h hi.lt
 go_enter Tryz.func109,Tryz.ntmps109
 go_wp2
 refine wo b h (fun _ g=>hi.grown g) ?_
 rintro W ⟨m1,i1,v1,o1⟩
 apply Xr;· kernel_rfl
 apply rV;· intro w' hg _;apply ol;have y:=(v1.dg hg).yy;go_simp;exact gl
 apply rV;· intro w' hg _;apply ol;go_simp;exact cb (YO (m1.drew.below hg) hG hl who)
 iterate 4 (apply rV;· intros;apply ol;go_simp;exact gl)
 try simp only [pu,s0,s1]
 apply rV;· intros;apply ol;go_simp;exact gl
 apply rV;· intro w' hg _;apply ol;have z:=(by have z:=(i1.drew.grown hg).XC;rwa [HC.out] at z);go_simp;exact gl
 apply rV (c:=.bool false)
 · intro w' hg _
   apply ol
   go_simp
   refine ⟨Grown.refl _,?_⟩
   first
    | rfl
    | exact congrArg Value.bool (decide_eq_false (by omega))
 iterate 3 (apply rV;· intros;apply ol;go_simp;exact gl)
 try simp only [pu,s0,s1]
 iterate 2 (apply rV;· intros;apply ol;go_simp;exact gl)
 apply rV;· intro w' hg _;apply ol;have z:=(by have z:=(i1.drew.grown hg).XC;rwa [HC.out] at z);go_simp;exact gl
 iterate 2 (apply rV;· intros;apply ol;go_simp;exact gl)
 apply rV;· intro w' hg _;apply ol;have y:=(v1.dg hg).yy;go_simp;exact gl
 try simp only [pu,s0,s1]
 apply rV (c:=.bool false)
 · intro w' hg _
   apply ol
   go_simp
   refine ⟨Grown.refl _,?_⟩
   first
    | rfl
    | exact congrArg Value.bool (decide_eq_false (by omega))
 apply Zb;· intros;apply ol;go_simp;exact gl
 try simp only [pu,s0,s1]
 intro w5 hg _
 have m5:=m1.drew.below hg
 have i5:=i1.drew.grown hg
 have v5:=v1.dg hg
 have o5:=o1.og hg
 clear hg m1 i1 v1 o1
 go_wp2
 refine ZY (fun W=>Z9 W L s /\ Zi W b o T cs a /\ ZV W w.heap.size t n k m g p r L.p who /\ Only (L.and b) w W) ⟨m5,i5,v5,o5⟩ ?_
 clear m5 i5 v5 o5
 rintro W ⟨m1,i1,v1,o1⟩
 apply Xr;· kernel_rfl
 iterate 3 (apply rV;· intros;apply ol;go_simp;exact gl)
 apply rV;· intro w' hg _;apply ol;have z:=(by have z:=(i1.drew.grown hg).ZO;rwa [HN.out] at z);go_simp;exact gl
 iterate 2 (apply rV;· intros;apply ol;go_simp;exact gl)
 try simp only [pu,s0,s1]
 iterate 6 (apply rV;· intros;exact ur)
 try simp only [pu,s0,s1]
 iterate 2 (apply rV;· intros;exact ur)
 apply Zb;· intros;apply ol;go_simp;exact gl
 try simp only [pu,s0,s1]
 intro w5 hg _
 have m5:=m1.drew.below hg
 have i5:=i1.drew.grown hg
 have v5:=v1.dg hg
 have o5:=o1.og hg
 clear hg m1 i1 v1 o1
 have k0:=i5.ZO
 rw [HN.out] at k0
 have kf:=i5.fz
 obtain ⟨y0,y1,y2,y3,y4,y5,y6,y7,y8⟩:=id v5
 go_wp2
 refine ZY (fun W=>Z9 W L s /\ Zi W b o T cs a /\ ZV W w.heap.size t n k m g p r L.p who /\ Only (L.and b) w W) ⟨m5,i5,v5,o5⟩ ?_
 clear k0 kf y0 y1 y2 y3 y4 y5 y6 y7 y8 m5 i5 v5 o5
 rintro W ⟨m1,i1,v1,o1⟩
 apply V3 (R:=ZX L b (o + 6)) (BN L b o T cs (cs.setIfInBounds (o + 6) (.int .u64 u)) s ((s.by who).step ((6 + t + n * 2 + i * 3) + 2) u) a { a with si:=u }) [6,9] Uf Uo ⟨m1.drew,i1.drew⟩;· kernel_rfl
 apply pV;· intros;apply ol;go_simp;exact gl
 apply pV;· intro w' hR _;apply ol;have y:=(v1.dn hR.only hbv hbb).yy;go_simp;exact gl
 apply pV;· intros;apply ol;go_simp;exact gl
 apply pV;· intro w' hR _;apply ol;have y:=(v1.dn hR.only hbv hbb).yy;go_simp;exact gl
 apply pV;· intro w' hR _;apply ol;go_simp;exact cb (TL (hR.keep (j:=o + 1) (by omega) (by have z:=i1.drew.XC;rwa [HC.out] at z)) L.p who hG hik)
 apply pV (c:=iV ((((6 + t + n * 2 + i * 3) + 2 : Nat) : Int)));· intro w' hR _;apply ol;go_simp;exact ⟨Grown.refl _,congrArg (Value.int .i64) (by rw [IntKind.wrap_i64];omega)⟩
 try simp only [pu,s0,s1]
 apply pV (c:=.int .u64 u);· intro w' hR _ hP;apply ol;go_simp;refine (ZK (s:=s) hP.1 _ _ _ _ _ _ _ _ ((6 + t + n * 2 + i * 3) + 2) (by omega)).mono ?_;rintro e w'' ⟨rfl,m2,o2⟩;rw [HU.out] at m2;exact ⟨_,rfl,⟨ZX.Zj o2 hb,m2,hP.2.only o2 hb⟩,by simp [Want.pred,HU.out]⟩
 iterate 2 (apply pV;· intros;apply ol;go_simp;exact gl)
 apply U4;· intro w' hR _ hP;apply ol;have z0:=hP.2.yK;have z1:=hP.2.fz;go_simp;exact ⟨⟨ZX.set _ _,hP.1.Z4 hb _ _,hP.2.vP _⟩,trivial⟩
 try simp only [pu,s0,s1]
 try simp only [pn]
 intro vv w2 hR hP _
 obtain ⟨m2,i2⟩ : Z9 w2 L ((s.by who).step ((6 + t + n * 2 + i * 3) + 2) u) /\ Zi w2 b o T (cs.setIfInBounds (o + 6) (.int .u64 u)) { a with si:=u }:=hP
 have o2 : Only (L.and b) w w2:=o1.drew.trans hR.only
 clear hR o1 v1 m1 i1
 have k0:=i2.ZO
 have kf:=i2.fz
 have l0:=(i2.ZJ 2).ZO
 go_wp2
 go_ret
 exact ⟨rfl,_,_,_,m2.Z4 hb _ _,o2.set _ _,i2.ZJ 2,(Same.refl.set (by omega) _).set (by omega) _,rfl,rfl⟩
theorem MN (h : Z9 w L s) (hb : ¬ L.has b) (hi : Zi w b o T cs a) (who : Int) (hG : Good t n k m g p r) {i : Nat} (hik : i < k) (hch : a.ch = i) (hl : ZR t n k m <= s.n) (hnx : a.nx = 3) {J U : Nat} (hcr : a.cr = J) (hus : a.us = U) (pU : U <= m) (hJ : J < U) :
 Calls Tryz.prog 109 #[pP b o,eV t n k m g p r L.p who] w fun e w'=>e = .returned (.bool false) /\ SC L b o T cs w w' (fun s' a'=>s' = (s.by who).step ((6 + t + n * 2 + k * 3 + i * m) + J) 0 /\ a' = { a with cr:=((J + 1 : Nat) : Int) }):=by
 have HC : Hid (a.ch = (i : Int)):=hch
 have HN : Hid (a.nx = 3):=hnx
 have hk1:=hG.k1
 have hlen:=h.len
 have hwd:=hG.words
 have hm1:=hG.n1
 have hal : 6 + t + n * 2 + k * 3 + k * m <= s.n:=hl
 clear hch hnx
 have HJ : Hid (a.cr = (J : Int)):=hcr
 have pR : Hid (a.us = (U : Int)):=hus
 clear hcr hus
 have him : i * m + m <= k * m:=by have:=Nat.mul_le_mul_right m (Nat.succ_le_of_lt hik);rwa [Nat.succ_mul] at this
 obtain ⟨hbv,hbb⟩:=nb h hi.lt
 go_enter Tryz.func109,Tryz.ntmps109
 go_wp2
 refine wo b h (fun _ g=>hi.grown g) ?_
 rintro W ⟨m1,i1,v1,o1⟩
 apply Xr;· kernel_rfl
 apply rV;· intro w' hg _;apply ol;have y:=(v1.dg hg).yy;go_simp;exact gl
 apply rV;· intro w' hg _;apply ol;go_simp;exact cb (YO (m1.drew.below hg) hG hl who)
 iterate 4 (apply rV;· intros;apply ol;go_simp;exact gl)
 try simp only [pu,s0,s1]
 apply rV;· intros;apply ol;go_simp;exact gl
 apply rV;· intro w' hg _;apply ol;have z:=(by have z:=(i1.drew.grown hg).XC;rwa [HC.out] at z);go_simp;exact gl
 apply rV (c:=.bool false)
 · intro w' hg _
   apply ol
   go_simp
   refine ⟨Grown.refl _,?_⟩
   first
    | rfl
    | exact congrArg Value.bool (decide_eq_false (by omega))
 iterate 3 (apply rV;· intros;apply ol;go_simp;exact gl)
 try simp only [pu,s0,s1]
 iterate 2 (apply rV;· intros;apply ol;go_simp;exact gl)
 apply rV;· intro w' hg _;apply ol;have z:=(by have z:=(i1.drew.grown hg).XC;rwa [HC.out] at z);go_simp;exact gl
 iterate 2 (apply rV;· intros;apply ol;go_simp;exact gl)
 apply rV;· intro w' hg _;apply ol;have y:=(v1.dg hg).yy;go_simp;exact gl
 try simp only [pu,s0,s1]
 apply rV (c:=.bool false)
 · intro w' hg _
   apply ol
   go_simp
   refine ⟨Grown.refl _,?_⟩
   first
    | rfl
    | exact congrArg Value.bool (decide_eq_false (by omega))
 apply Zb;· intros;apply ol;go_simp;exact gl
 try simp only [pu,s0,s1]
 intro w5 hg _
 have m5:=m1.drew.below hg
 have i5:=i1.drew.grown hg
 have v5:=v1.dg hg
 have o5:=o1.og hg
 clear hg m1 i1 v1 o1
 go_wp2
 refine ZY (fun W=>Z9 W L s /\ Zi W b o T cs a /\ ZV W w.heap.size t n k m g p r L.p who /\ Only (L.and b) w W) ⟨m5,i5,v5,o5⟩ ?_
 clear m5 i5 v5 o5
 rintro W ⟨m1,i1,v1,o1⟩
 apply Xr;· kernel_rfl
 iterate 3 (apply rV;· intros;apply ol;go_simp;exact gl)
 apply rV;· intro w' hg _;apply ol;have z:=(by have z:=(i1.drew.grown hg).ZO;rwa [HN.out] at z);go_simp;exact gl
 iterate 2 (apply rV;· intros;apply ol;go_simp;exact gl)
 try simp only [pu,s0,s1]
 iterate 3 (apply rV;· intros;apply ol;go_simp;exact gl)
 apply rV;· intro w' hg _;apply ol;have z:=(by have z:=(i1.drew.grown hg).yJ;rwa [HJ.out] at z);go_simp;exact gl
 apply rV;· intros;apply ol;go_simp;exact gl
 apply rV;· intro w' hg _;apply ol;have y:=(v1.dg hg).yy;go_simp;exact gl
 try simp only [pu,s0,s1]
 apply rV;· intro w' hg _;apply ol;go_simp;exact cb (QC (by have z:=(i1.drew.grown hg).yL;rwa [pR.out] at z) L.p who pU)
 apply rV (c:=.bool false)
 · intro w' hg _
   apply ol
   go_simp
   refine ⟨Grown.refl _,?_⟩
   first
    | rfl
    | exact congrArg Value.bool (decide_eq_false (by omega))
 apply Zb;· intros;apply ol;go_simp;exact gl
 try simp only [pu,s0,s1]
 intro w5 hg _
 have m5:=m1.drew.below hg
 have i5:=i1.drew.grown hg
 have v5:=v1.dg hg
 have o5:=o1.og hg
 clear hg m1 i1 v1 o1
 have k0:=i5.ZO
 rw [HN.out] at k0
 have kf:=i5.fz
 obtain ⟨y0,y1,y2,y3,y4,y5,y6,y7,y8⟩:=id v5
 go_wp2
 refine ZY (fun W=>Z9 W L s /\ Zi W b o T cs a /\ ZV W w.heap.size t n k m g p r L.p who /\ Only (L.and b) w W) ⟨m5,i5,v5,o5⟩ ?_
 clear k0 kf y0 y1 y2 y3 y4 y5 y6 y7 y8 m5 i5 v5 o5
 rintro W ⟨m1,i1,v1,o1⟩
 apply Yc 13;· kernel_rfl
 apply rV;· intro w' hg _;apply ol;have y:=(v1.dg hg).yy;go_simp;exact gl
 apply rV;· intros;apply ol;go_simp;exact gl
 apply rV;· intro w' hg _;apply ol;have y:=(v1.dg hg).yy;go_simp;exact gl
 iterate 3 (apply rV;· intros;apply ol;go_simp;exact gl)
 try simp only [pu,s0,s1]
 apply rV;· intro w' hg _;apply ol;have z:=(by have z:=(i1.drew.grown hg).XC;rwa [HC.out] at z);go_simp;exact gl
 apply rV (c:=iV (((6 + t + n * 2 + k * 3 + i * m) : Nat) : Int));· intro w' hg _;apply ol;go_simp;refine (YD _ _ _ _ _ _ _ (i : Int) ((i * m : Nat) : Int) _ hG.arena (by simp) (by omega) (by omega)).mono ?_;rintro e w'' ⟨rfl,b9⟩;exact ⟨_,rfl,b9,congrArg (Value.int .i64) (by omega)⟩
 iterate 3 (apply rV;· intros;apply ol;go_simp;exact gl)
 apply rV;· intro w' hg _;apply ol;have z:=(by have z:=(i1.drew.grown hg).yJ;rwa [HJ.out] at z);go_simp;exact gl
 try simp only [pu,s0,s1]
 apply Zb (c:=iV ((((6 + t + n * 2 + k * 3 + i * m) + J : Nat) : Int)));· intro w' hg _;apply ol;go_simp;exact ⟨Grown.refl _,congrArg (Value.int .i64) (by rw [IntKind.wrap_i64];omega)⟩
 try simp only [pu,s0,s1]
 intro w5 hg _
 have m5:=m1.drew.below hg
 have i5:=i1.drew.grown hg
 have v5:=v1.dg hg
 have o5:=o1.og hg
 clear hg m1 i1 v1 o1
 go_wp2_with (go_at_call 55;refine (Yr m5 _ _ _ _ _ _ _ _ ((6 + t + n * 2 + k * 3 + i * m) + J) (by omega) _).mono ?_;rintro e w6 ⟨rfl,m6,o6⟩;have i6:=i5.only o6 hb;have l7:=i6.yJ;rw [HJ.out] at l7;have lf:=i6.fz;have l0:=(i6.BO ((J : Int) + 1)).ZO;rw [show ({ a with cr:=(J : Int) + 1 } : SV).nx = 3 from HN.out] at l0)
 go_ret
 exact ⟨rfl,_,_,_,m6.Z4 hb _ _,(o5.trans (o6.Y4 (b:=b))).set _ _,i6.BO _,Same.refl.set (by omega) _,rfl,rfl⟩
theorem MM (h : Z9 w L s) (hb : ¬ L.has b) (hi : Zi w b o T cs a) (who : Int) (hG : Good t n k m g p r) {i : Nat} (hik : i < k) (hch : a.ch = i) (hl : ZR t n k m <= s.n) (hnx : a.nx = 3) {J U : Nat} (hcr : a.cr = J) (hus : a.us = U) (pU : U <= m) (hJ : U <= J) :
 Calls Tryz.prog 109 #[pP b o,eV t n k m g p r L.p who] w fun e w'=>e = .returned (.bool false) /\ SC L b o T cs w w' (fun s' a'=>s' = (s.by who).step ((6 + t + n * 2 + i * 3) + 1) 0 /\ a' = { a with nx:=5 }):=by
 have HC : Hid (a.ch = (i : Int)):=hch
 have HN : Hid (a.nx = 3):=hnx
 have hk1:=hG.k1
 have hlen:=h.len
 have hwd:=hG.words
 have hm1:=hG.n1
 have hal : 6 + t + n * 2 + k * 3 + k * m <= s.n:=hl
 clear hch hnx
 have HJ : Hid (a.cr = (J : Int)):=hcr
 have pR : Hid (a.us = (U : Int)):=hus
 clear hcr hus
 obtain ⟨hbv,hbb⟩:=nb h hi.lt
 go_enter Tryz.func109,Tryz.ntmps109
 go_wp2
 refine wo b h (fun _ g=>hi.grown g) ?_
 rintro W ⟨m1,i1,v1,o1⟩
 apply Xr;· kernel_rfl
 apply rV;· intro w' hg _;apply ol;have y:=(v1.dg hg).yy;go_simp;exact gl
 apply rV;· intro w' hg _;apply ol;go_simp;exact cb (YO (m1.drew.below hg) hG hl who)
 iterate 4 (apply rV;· intros;apply ol;go_simp;exact gl)
 try simp only [pu,s0,s1]
 apply rV;· intros;apply ol;go_simp;exact gl
 apply rV;· intro w' hg _;apply ol;have z:=(by have z:=(i1.drew.grown hg).XC;rwa [HC.out] at z);go_simp;exact gl
 apply rV (c:=.bool false)
 · intro w' hg _
   apply ol
   go_simp
   refine ⟨Grown.refl _,?_⟩
   first
    | rfl
    | exact congrArg Value.bool (decide_eq_false (by omega))
 iterate 3 (apply rV;· intros;apply ol;go_simp;exact gl)
 try simp only [pu,s0,s1]
 iterate 2 (apply rV;· intros;apply ol;go_simp;exact gl)
 apply rV;· intro w' hg _;apply ol;have z:=(by have z:=(i1.drew.grown hg).XC;rwa [HC.out] at z);go_simp;exact gl
 iterate 2 (apply rV;· intros;apply ol;go_simp;exact gl)
 apply rV;· intro w' hg _;apply ol;have y:=(v1.dg hg).yy;go_simp;exact gl
 try simp only [pu,s0,s1]
 apply rV (c:=.bool false)
 · intro w' hg _
   apply ol
   go_simp
   refine ⟨Grown.refl _,?_⟩
   first
    | rfl
    | exact congrArg Value.bool (decide_eq_false (by omega))
 apply Zb;· intros;apply ol;go_simp;exact gl
 try simp only [pu,s0,s1]
 intro w5 hg _
 have m5:=m1.drew.below hg
 have i5:=i1.drew.grown hg
 have v5:=v1.dg hg
 have o5:=o1.og hg
 clear hg m1 i1 v1 o1
 go_wp2
 refine ZY (fun W=>Z9 W L s /\ Zi W b o T cs a /\ ZV W w.heap.size t n k m g p r L.p who /\ Only (L.and b) w W) ⟨m5,i5,v5,o5⟩ ?_
 clear m5 i5 v5 o5
 rintro W ⟨m1,i1,v1,o1⟩
 apply Xr;· kernel_rfl
 iterate 3 (apply rV;· intros;apply ol;go_simp;exact gl)
 apply rV;· intro w' hg _;apply ol;have z:=(by have z:=(i1.drew.grown hg).ZO;rwa [HN.out] at z);go_simp;exact gl
 iterate 2 (apply rV;· intros;apply ol;go_simp;exact gl)
 try simp only [pu,s0,s1]
 iterate 3 (apply rV;· intros;apply ol;go_simp;exact gl)
 apply rV;· intro w' hg _;apply ol;have z:=(by have z:=(i1.drew.grown hg).yJ;rwa [HJ.out] at z);go_simp;exact gl
 apply rV;· intros;apply ol;go_simp;exact gl
 apply rV;· intro w' hg _;apply ol;have y:=(v1.dg hg).yy;go_simp;exact gl
 try simp only [pu,s0,s1]
 apply rV;· intro w' hg _;apply ol;go_simp;exact cb (QC (by have z:=(i1.drew.grown hg).yL;rwa [pR.out] at z) L.p who pU)
 apply rV (c:=.bool true)
 · intro w' hg _
   apply ol
   go_simp
   refine ⟨Grown.refl _,?_⟩
   first
    | rfl
    | exact congrArg Value.bool (decide_eq_true (by omega))
 apply Zb;· intros;apply ol;go_simp;exact gl
 try simp only [pu,s0,s1]
 intro w5 hg _
 have m5:=m1.drew.below hg
 have i5:=i1.drew.grown hg
 have v5:=v1.dg hg
 have o5:=o1.og hg
 clear hg m1 i1 v1 o1
 have k0:=i5.ZO
 rw [HN.out] at k0
 have kf:=i5.fz
 obtain ⟨y0,y1,y2,y3,y4,y5,y6,y7,y8⟩:=id v5
 have l0:=(i5.ZJ 4).ZO
 have lf:=(i5.ZJ 4).fz
 obtain ⟨a1,ha1⟩ : ∃ x : SV,{ a with nx:=4 } = x:=⟨_,rfl⟩
 obtain ⟨cs1,hcs1⟩ : ∃ x,cs.setIfInBounds o (iV 4) = x:=⟨_,rfl⟩
 have HA : Hid (a1.ch = (i : Int)):=by unfold Hid;rw [<- ha1];exact HC.out
 have I5:=i5.ZJ 4
 rw [ha1,hcs1] at I5
 have V5:=v5.Z4 (b:=b) hbb o (iV 4)
 obtain ⟨x0,x1,x2,x3,x4,x5,x6,x7,x8⟩:=id V5
 go_wp2
 refine ZY (fun W=>Z9 W L s /\ Zi W b o T cs1 a1 /\ ZV W w.heap.size t n k m g p r L.p who /\ Only (L.and b) w W) ⟨m5.Z4 hb _ _,I5,V5,o5.set _ _⟩ ?_
 clear k0 kf y0 y1 y2 y3 y4 y5 y6 y7 y8 m5 i5 v5 o5 I5 V5 l0 lf x0 x1 x2 x3 x4 x5 x6 x7 x8
 rintro W ⟨m1,i1,v1,o1⟩
 apply Yc 5;· kernel_rfl
 apply rV;· intro w' hg _;apply ol;have y:=(v1.dg hg).yy;go_simp;exact gl
 apply rV;· intros;apply ol;go_simp;exact gl
 apply rV;· intro w' hg _;apply ol;have y:=(v1.dg hg).yy;go_simp;exact gl
 apply rV;· intro w' hg _;apply ol;go_simp;exact cb (TL (by have z:=(i1.drew.grown hg).XC;rwa [HA.out] at z) L.p who hG hik)
 apply Zb (c:=iV ((((6 + t + n * 2 + i * 3) + 1 : Nat) : Int)));· intro w' hg _;apply ol;go_simp;exact ⟨Grown.refl _,congrArg (Value.int .i64) (by rw [IntKind.wrap_i64];omega)⟩
 try simp only [pu,s0,s1]
 intro w5 hg _
 have m5:=m1.drew.below hg
 have i5:=i1.drew.grown hg
 have v5:=v1.dg hg
 have o5:=o1.og hg
 clear hg m1 i1 v1 o1
 go_wp2_with (go_at_call 55;refine (Yr m5 _ _ _ _ _ _ _ _ ((6 + t + n * 2 + i * 3) + 1) (by omega) _).mono ?_;rintro e w6 ⟨rfl,m6,o6⟩;have i6:=i5.only o6 hb;have l0:=i6.ZO;have lf:=i6.fz;have l1:=(i6.ZJ 5).ZO)
 go_ret
 exact ⟨rfl,_,_,_,m6.Z4 hb _ _,(o5.trans (o6.Y4 (b:=b))).set _ _,i6.ZJ 5,by rw [<- hcs1];exact (Same.refl.set (by omega) _).set (by omega) _,rfl,by rw [<- ha1]⟩
end Go.Proofs.YtmnnhjhhhfabiaaGreat
