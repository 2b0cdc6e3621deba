import Derived.Test.YtpbghmeikcphnaaGreatBoth
import Derived.Test.YtpbghmeikcphnaaGreatStruct
namespace Go.Proofs.YtpbghmeikcphnaaGreat
open Go.RowKit
set_option maxRecDepth 20000
theorem Rz (Q C:Nat) (w:World) (a:Q<=65536) (b:C<=1000000) :
 Calls Tryz.prog 57 #[iV ((Q:Int) - 1),iV ((C:Int)+1)] w fun e w'=>e=.returned (.int .u64 (ZL Q (C+1)))/\w'=w:=LX Q (C+1) w a (by omega)
def VR (nx tp sl bh:Int):List Value:=[iV nx,.int .u64 tp,iV sl,iV bh]
def Vy (nx sl tp:Int):List Value:=[iV nx,iV sl,.int .u64 tp]
theorem VU (L:Loc) (c0 c1 c2 c3 c4 c5 c6 who sl:Int) (w:World) (d:Bool) (hd:decide (0<=sl/\sl<c1)=d) :
 Calls Tryz.prog 146 #[eV c0 c1 c2 c3 c4 c5 c6 L.p who,iV sl] w fun e w'=>e=.returned (.bool d)/\Below w.heap.size w w':=by
 subst hd
 by_cases h1:0<=sl
 . by_cases h2:sl<c1
   . go_enter Tryz.func146,Tryz.ntmps146
     go_wp2
     go_ret
     exact⟨by simp[h1,h2],Z4 (Below.refl _ _) _⟩
   . go_enter Tryz.func146,Tryz.ntmps146
     go_wp2
     go_ret
     exact⟨by simp[h2],Z4 (Below.refl _ _) _⟩
 . go_enter Tryz.func146,Tryz.ntmps146
   go_wp2
   go_ret
   exact⟨by simp;omega,Z4 (Below.refl _ _) _⟩
theorem Jq (t s k n g p r i:Int) (w:World) (t0:0<=t) (t1:t<=8) (h0:0<=i) (h1:i<=1000000) :
 Calls Tryz.prog 29 #[.agg #[iV t,iV s,iV k,iV n,iV g,iV p,iV r],iV i] w fun e w'=>e=.returned (iV (6+t+i * 2))/\Below w.heap.size w w':=by
 go_enter Tryz.func29,Tryz.ntmps29
 go_wp2_with (go_at_call 40;refine(TI _ _ (by omega) (by omega)).mono ?_;rintro e w' ⟨rfl,rfl⟩)
 go_ret
 exact⟨rfl,Z4 (Below.refl _ _) _⟩
theorem Pg (L:Loc) (c0 c1 c2 c3 c4 c5 c6 who sl:Int) (w:World) (hc:0<=c0/\c0<=8) (hs:0<=sl/\sl<=65536) :
 Calls Tryz.prog 135 #[eV c0 c1 c2 c3 c4 c5 c6 L.p who,iV sl] w fun e w'=>e=.returned (iV (6+c0+sl * 2+1))/\Below w.heap.size w w':=by
 obtain⟨hc1,hc2⟩:=hc
 obtain⟨hs1,hs2⟩:=hs
 go_enter Tryz.func135,Tryz.ntmps135
 go_wp2_with (go_at_call 29;refine(Jq _ _ _ _ _ _ _ _ _ (by omega) (by omega) (by omega) (by omega)).mono ?_;rintro e w' ⟨rfl,b1⟩)
 go_ret
 exact⟨rfl,grow (Z4 (Below.refl _ _) _) b1⟩
theorem LW {w:World} {L:Loc} {s:Mm} (h:Z9 w L s) (c0 c1 c2 c3 c4 c5 c6 who:Int) (H C Q:Nat) (hn:1<s.n) (hH:H<=65536) (hC:C<=1000000) (hQ:Q<=65536) (yes:s.wd 1=ZL H C) :
 Calls Tryz.prog 136 #[eV c0 c1 c2 c3 c4 c5 c6 L.p who,.int .u64 (ZL H C),iV ((Q:Int) - 1)] w fun e w'=>e=.returned (iV 3)/\Z9 w' L ((s.by who).step 1 (ZL Q (C+1)))/\Only L.has w w':=by
 have hbv:¬ L.has w.heap.size:=fun hh=>by have:=h.lt _ hh;omega
 go_enter Tryz.func136,Tryz.ntmps136
 go_wp2_with (go_at_call 134;refine(Ph H C _ hH (by omega)).mono ?_;rintro e w1 ⟨rfl,rfl⟩)
 refine ZW (fun W=>Z9 W L s/\ZU W w.heap.size c0 c1 c2 c3 c4 c5 c6 L.p who/\Only L.has w W) ⟨h.alloc _,ZU.new,(Only.refl _ _).alloc _⟩ ?_
 rintro W ⟨m1,v1,o1⟩
 apply VT (R:=Only L.has) (fun p W'=>match p with | 0=>Z9 W' L s | _=>Z9 W' L ((s.by who).step 1 (ZL Q (C+1)))) [7] Gp (fun x y p h k=>by match p,k with | 0,k=>exact k.below h | p+1,k=>exact k.below h) m1.drew;. kernel_rfl
 apply pV;. intro w' hR _;apply ol;obtain⟨y0,y1,y2,y3,y4,y5,y6,y7,y8⟩:=(v1.grown ((Below.refl _ _).drew)).only hR hbv;go_simp;exact gl
 apply pV;. intro w' hR _;apply ol;go_simp;exact cc (X7 _)
 iterate 3 (apply pV;. intros;apply ol;go_simp;exact gl)
 apply pV (c:=iV ((C:Int)+1));. intro w' hR _;apply ol;go_simp;exact⟨Grown.refl _,by simp only[Want.pred];rw[IntKind.wrap_i64];exact congrArg (Value.int .i64) (by omega)⟩
 try simp only[pu,s0,s1]
 apply pV;. intro w' hR _;apply ol;go_simp;exact cc (Rz Q C _ hQ hC)
 apply wM (c:=.bool true);. intro w' hR _ hP;apply ol;go_simp;refine(YD (s:=s) hP _ _ _ _ _ _ _ _ 1 hn _ _).mono ?_;rintro e w'' ⟨rfl,m2,o2⟩;rw[show (s.by who).Vz 1 (ZL H C) (ZL Q (C+1))=(s.by who).step 1 (ZL Q (C+1)) from if_pos yes] at m2;refine⟨_,rfl,⟨o2,m2⟩,?_⟩;simp[Want.pred,yes]
 try simp only[pu,s0,s1]
 intro w2 hR m2 _
 have LM:Z9 w2 L ((s.by who).step 1 (ZL Q (C+1))):=m2
 have o2:Only L.has w w2:=o1.drew.trans hR
 clear m1 v1 o1 hR m2
 go_wp2
 go_ret
 exact⟨rfl,LM,o2⟩
theorem Iy {w:World} {L:Loc} {s:Mm} (h:Z9 w L s) (c0 c1 c2 c3 c4 c5 c6 who:Int) (H C Q:Nat) (hn:1<s.n) (hH:H<=65536) (hC:C<=1000000) (hQ:Q<=65536) (no:¬ s.wd 1=ZL H C) :
 Calls Tryz.prog 136 #[eV c0 c1 c2 c3 c4 c5 c6 L.p who,.int .u64 (ZL H C),iV ((Q:Int) - 1)] w fun e w'=>e=.returned (iV 0)/\Z9 w' L ((s.by who).step 1 (s.wd 1))/\Only L.has w w':=by
 have hbv:¬ L.has w.heap.size:=fun hh=>by have:=h.lt _ hh;omega
 go_enter Tryz.func136,Tryz.ntmps136
 go_wp2_with (go_at_call 134;refine(Ph H C _ hH (by omega)).mono ?_;rintro e w1 ⟨rfl,rfl⟩)
 refine ZW (fun W=>Z9 W L s/\ZU W w.heap.size c0 c1 c2 c3 c4 c5 c6 L.p who/\Only L.has w W) ⟨h.alloc _,ZU.new,(Only.refl _ _).alloc _⟩ ?_
 rintro W ⟨m1,v1,o1⟩
 apply VT (R:=Only L.has) (fun p W'=>match p with | 0=>Z9 W' L s | _=>Z9 W' L ((s.by who).step 1 (s.wd 1))) [7] Gp (fun x y p h k=>by match p,k with | 0,k=>exact k.below h | p+1,k=>exact k.below h) m1.drew;. kernel_rfl
 apply pV;. intro w' hR _;apply ol;obtain⟨y0,y1,y2,y3,y4,y5,y6,y7,y8⟩:=(v1.grown ((Below.refl _ _).drew)).only hR hbv;go_simp;exact gl
 apply pV;. intro w' hR _;apply ol;go_simp;exact cc (X7 _)
 iterate 3 (apply pV;. intros;apply ol;go_simp;exact gl)
 apply pV (c:=iV ((C:Int)+1));. intro w' hR _;apply ol;go_simp;exact⟨Grown.refl _,by simp only[Want.pred];rw[IntKind.wrap_i64];exact congrArg (Value.int .i64) (by omega)⟩
 try simp only[pu,s0,s1]
 apply pV;. intro w' hR _;apply ol;go_simp;exact cc (Rz Q C _ hQ hC)
 apply wM (c:=.bool false);. intro w' hR _ hP;apply ol;go_simp;refine(YD (s:=s) hP _ _ _ _ _ _ _ _ 1 hn _ _).mono ?_;rintro e w'' ⟨rfl,m2,o2⟩;rw[show (s.by who).Vz 1 (ZL H C) (ZL Q (C+1))=(s.by who).step 1 (s.wd 1) from if_neg no] at m2;refine⟨_,rfl,⟨o2,m2⟩,?_⟩;simp[Want.pred,no]
 try simp only[pu,s0,s1]
 intro w2 hR m2 _
 have LM:Z9 w2 L ((s.by who).step 1 (s.wd 1)):=m2
 have o2:Only L.has w w2:=o1.drew.trans hR
 clear m1 v1 o1 hR m2
 go_wp2
 go_ret
 exact⟨rfl,LM,o2⟩
theorem LV {w:World} {L:Loc} {s:Mm} (h:Z9 w L s) (c0 c1 c2 c3 c4 c5 c6 who:Int) (H C sl:Nat) (hn:1<s.n) (hH:H<=65536) (hC:C<=1000000) (hs:sl<=65535) (yes:s.wd 1=ZL H C) :
 Calls Tryz.prog 136 #[eV c0 c1 c2 c3 c4 c5 c6 L.p who,.int .u64 (ZL H C),iV sl] w fun e w'=>e=.returned (iV 3)/\Z9 w' L ((s.by who).step 1 (ZL (sl+1) (C+1)))/\Only L.has w w':=by
 have k:=LW h c0 c1 c2 c3 c4 c5 c6 who H C (sl+1) hn hH hC (by omega) yes
 have e:((sl+1:Nat):Int) - 1=sl:=by omega
 rwa [e] at k
theorem Jp {w:World} {L:Loc} {s:Mm} (h:Z9 w L s) (c0 c1 c2 c3 c4 c5 c6 who:Int) (H C sl:Nat) (hn:1<s.n) (hH:H<=65536) (hC:C<=1000000) (hs:sl<=65535) (no:¬ s.wd 1=ZL H C) :
 Calls Tryz.prog 136 #[eV c0 c1 c2 c3 c4 c5 c6 L.p who,.int .u64 (ZL H C),iV sl] w fun e w'=>e=.returned (iV 0)/\Z9 w' L ((s.by who).step 1 (s.wd 1))/\Only L.has w w':=by
 have k:=Iy h c0 c1 c2 c3 c4 c5 c6 who H C (sl+1) hn hH hC (by omega) no
 have e:((sl+1:Nat):Int) - 1=sl:=by omega
 rwa [e] at k
theorem Fq {w:World} {L:Loc} {s:Mm} {b o:Nat} {T:TypeId} {cs:Array Value} {tp sl bh:Int} (h:Z9 w L s) (hb:¬ L.has b) (hi:At w b o T cs (VR 0 tp sl bh)) (c0 c1 c2 c3 c4 c5 c6 who:Int) (H C:Nat) (hn:1<s.n) (hw:s.wd 1=ZL (H+1) C) (hC:C<=1000000) (hH:H<=65535) (yes:(H:Int)<c1) :
 Calls Tryz.prog 133 #[pP b o,eV c0 c1 c2 c3 c4 c5 c6 L.p who] w fun e w'=>e=.returned (.tuple #[])/\∃ cs',Z9 w' L ((s.by who).step 1 (s.wd 1))/\At w' b o T cs' (VR 1 (ZL (H+1) C) (H:Int) bh)/\Same o 4 cs cs'/\Only (L.and b) w w':=by
 obtain⟨hbv,hbb⟩:=nb h hi.lt
 have e1:((H+1:Nat):Int) - 1=H:=by omega
 have t1:=fun w=>Ph (H+1) C w (by omega) (by omega)
 rw[e1] at t1
 obtain⟨X,hX⟩:∃ X,s.wd 1=X:=⟨_,rfl⟩
 rw[hX] at hw ⊢
 subst hw
 go_enter Tryz.func133,Tryz.ntmps133
 go_wp2
 refine wo b h (fun _ g=>hi.grown g) ?_
 rintro W ⟨m1,i1,v1,o1⟩
 apply VT (R:=Only (L.and b)) (WV L b o T cs (cs.setIfInBounds (o+1) (.int .u64 (ZL (H+1) C))) s ((s.by who).step 1 (ZL (H+1) C)) (VR 0 tp sl bh) (VR 0 (ZL (H+1) C) sl bh)) [3,6] Gp Zt ⟨m1.drew,i1.drew⟩;. kernel_rfl
 apply pV;. intros;apply ol;go_simp;exact gl
 apply pV;. intro w' hR _;apply ol;obtain⟨y0,y1,y2,y3,y4,y5,y6,y7,y8⟩:=(v1.grown ((Below.refl _ _).drew)).only hR (fun hh=>hh.elim hbv hbb);go_simp;exact gl
 apply pV;. intro w' hR _;apply ol;go_simp;exact cc (X7 _)
 apply pV (c:=.int .u64 (ZL (H+1) C));. intro w' hR _ hP;apply ol;go_simp;refine(ZF (s:=s) hP.1 _ _ _ _ _ _ _ _ 1 hn).mono ?_;rintro e w'' ⟨rfl,m2,o2⟩;rw[hX] at m2;exact⟨_,rfl,⟨o2.Yf,m2,hP.2.only o2 hb⟩,by simp[Want.pred,hX]⟩
 iterate 2 (apply pV;. intros;apply ol;go_simp;exact gl)
 try simp only[pu,s0,s1]
 apply UD;. intro w' hR _ hP;apply ol;have z0:=hP.2.cell 1 rfl;have z1:=hP.2.fz;go_simp;exact⟨⟨(Only.refl _ _).set _ _,hP.1.ZX hb _ _,hP.2.set 1 _⟩,trivial⟩
 try simp only[pn]
 intro v w2 hR hP _
 obtain⟨m2,i2⟩:Z9 w2 L ((s.by who).step 1 (ZL (H+1) C))/\At w2 b o T (cs.setIfInBounds (o+1) (.int .u64 (ZL (H+1) C))) (VR 0 (ZL (H+1) C) sl bh):=hP
 have o2:Only (L.and b) w w2:=o1.drew.trans hR
 have v2:=(v1.grown ((Below.refl _ _).drew)).only hR (fun hh=>hh.elim hbv hbb)
 have s2:Same o 4 cs (cs.setIfInBounds (o+1) (.int .u64 (ZL (H+1) C))):=Same.refl.set (by omega) _
 clear hR o1 v1 m1 i1 hX
 have k0:=i2.cell0 rfl
 have k1:=i2.cell 1 rfl
 have k2:=i2.cell 2 rfl
 have kf:=i2.fz
 go_wp2_with (go_at_call 134;refine(t1 _).mono ?_;rintro e w1 ⟨rfl,rfl⟩)
 have i3:=(i2.set 2 (iV (H:Int))).set0 (iV 1)
 have m3:=(m2.ZX hb (o+2) (iV (H:Int))).ZX hb o (iV 1)
 have o3:=(o2.set (o+2) (iV (H:Int))).set o (iV 1)
 have s3:=(s2.set (j:=o+2) (by omega) (iV (H:Int))).set (j:=o) (by omega) (iV 1)
 refine ZW (fun W=>Z9 W L _/\At W b o T _ (VR 1 (ZL (H+1) C) (H:Int) bh)/\ZU W w.heap.size c0 c1 c2 c3 c4 c5 c6 L.p who/\Only (L.and b) w W) ⟨m3,i3,(v2.ZX hbb _ _).ZX hbb _ _,o3⟩ ?_
 clear m2 i2 o2 v2 s2 k0 k1 k2 kf m3 i3 o3
 rintro W3 ⟨m3,i3,v3,o3⟩
 have e0:=fun N:Later W3=>(v3.grown N.below).c0
 have e1:=fun N:Later W3=>(v3.grown N.below).c1
 have e2:=fun N:Later W3=>(v3.grown N.below).c2
 have e3:=fun N:Later W3=>(v3.grown N.below).c3
 have e4:=fun N:Later W3=>(v3.grown N.below).c4
 have e5:=fun N:Later W3=>(v3.grown N.below).c5
 have e6:=fun N:Later W3=>(v3.grown N.below).c6
 have e7:=fun N:Later W3=>(v3.grown N.below).c7
 have e8:=fun N:Later W3=>(v3.grown N.below).c8
 have e9:=fun N:Later W3=>(i3.grown N.below).cell 2 rfl
 haveI:=Later.exists W3
 try simp only[iV]
 try simp only[pP]
 try simp only[eV]
 refine ZC (by kernel_rfl) (by kernel_rfl) ?_
 repeat (go_big_quiet_step ((go_at_call 146;exact Calls.later (VU L _ _ _ _ _ _ _ _ _ _ true (decide_eq_true ⟨by omega,by omega⟩)))))
 refine wpQuiet_nil ?_
 rintro _ ⟨nq,rfl⟩
 have i4:=i3.grown nq.below
 have m4:=m3.below nq.below
 have o4:Only (L.and b) w nq.now:=o3.trans (Only.ZZ nq.below)
 clear e0 e1 e2 e3 e4 e5 e6 e7 e8 e9 v3 i3 m3 o3
 have k0:=i4.cell0 rfl
 have kf:=i4.fz
 go_wp2
 go_end0
 exact⟨rfl,_,m4,i4,s3,o4⟩
theorem CG {w:World} {L:Loc} {s:Mm} {b o:Nat} {T:TypeId} {cs:Array Value} {tp sl bh:Int} (h:Z9 w L s) (hb:¬ L.has b) (hi:At w b o T cs (VR 0 tp sl bh)) (c0 c1 c2 c3 c4 c5 c6 who:Int) (C:Nat) (hn:1<s.n) (hw:s.wd 1=ZL 0 C) (hC:C<=1000000)  :
 Calls Tryz.prog 133 #[pP b o,eV c0 c1 c2 c3 c4 c5 c6 L.p who] w fun e w'=>e=.returned (.tuple #[])/\∃ cs',Z9 w' L ((s.by who).step 1 (s.wd 1))/\At w' b o T cs' (VR 4 (ZL 0 C) (-1:Int) bh)/\Same o 4 cs cs'/\Only (L.and b) w w':=by
 obtain⟨hbv,hbb⟩:=nb h hi.lt
 have t1:∀ w,Calls Tryz.prog 134 #[.int .u64 (ZL 0 C)] w fun e w'=>e=.returned (.tuple #[iV (-1),iV C])/\w'=w:=fun w=>Ph 0 C w (by omega) (by omega)
 obtain⟨X,hX⟩:∃ X,s.wd 1=X:=⟨_,rfl⟩
 rw[hX] at hw ⊢
 subst hw
 go_enter Tryz.func133,Tryz.ntmps133
 go_wp2
 refine wo b h (fun _ g=>hi.grown g) ?_
 rintro W ⟨m1,i1,v1,o1⟩
 apply VT (R:=Only (L.and b)) (WV L b o T cs (cs.setIfInBounds (o+1) (.int .u64 (ZL 0 C))) s ((s.by who).step 1 (ZL 0 C)) (VR 0 tp sl bh) (VR 0 (ZL 0 C) sl bh)) [3,6] Gp Zt ⟨m1.drew,i1.drew⟩;. kernel_rfl
 apply pV;. intros;apply ol;go_simp;exact gl
 apply pV;. intro w' hR _;apply ol;obtain⟨y0,y1,y2,y3,y4,y5,y6,y7,y8⟩:=(v1.grown ((Below.refl _ _).drew)).only hR (fun hh=>hh.elim hbv hbb);go_simp;exact gl
 apply pV;. intro w' hR _;apply ol;go_simp;exact cc (X7 _)
 apply pV (c:=.int .u64 (ZL 0 C));. intro w' hR _ hP;apply ol;go_simp;refine(ZF (s:=s) hP.1 _ _ _ _ _ _ _ _ 1 hn).mono ?_;rintro e w'' ⟨rfl,m2,o2⟩;rw[hX] at m2;exact⟨_,rfl,⟨o2.Yf,m2,hP.2.only o2 hb⟩,by simp[Want.pred,hX]⟩
 iterate 2 (apply pV;. intros;apply ol;go_simp;exact gl)
 try simp only[pu,s0,s1]
 apply UD;. intro w' hR _ hP;apply ol;have z0:=hP.2.cell 1 rfl;have z1:=hP.2.fz;go_simp;exact⟨⟨(Only.refl _ _).set _ _,hP.1.ZX hb _ _,hP.2.set 1 _⟩,trivial⟩
 try simp only[pn]
 intro v w2 hR hP _
 obtain⟨m2,i2⟩:Z9 w2 L ((s.by who).step 1 (ZL 0 C))/\At w2 b o T (cs.setIfInBounds (o+1) (.int .u64 (ZL 0 C))) (VR 0 (ZL 0 C) sl bh):=hP
 have o2:Only (L.and b) w w2:=o1.drew.trans hR
 have v2:=(v1.grown ((Below.refl _ _).drew)).only hR (fun hh=>hh.elim hbv hbb)
 have s2:Same o 4 cs (cs.setIfInBounds (o+1) (.int .u64 (ZL 0 C))):=Same.refl.set (by omega) _
 clear hR o1 v1 m1 i1 hX
 have k0:=i2.cell0 rfl
 have k1:=i2.cell 1 rfl
 have k2:=i2.cell 2 rfl
 have kf:=i2.fz
 go_wp2_with (go_at_call 134;refine(t1 _).mono ?_;rintro e w1 ⟨rfl,rfl⟩)
 have i3:=(i2.set 2 (iV (-1:Int))).set0 (iV 1)
 have m3:=(m2.ZX hb (o+2) (iV (-1:Int))).ZX hb o (iV 1)
 have o3:=(o2.set (o+2) (iV (-1:Int))).set o (iV 1)
 have s3:=(s2.set (j:=o+2) (by omega) (iV (-1:Int))).set (j:=o) (by omega) (iV 1)
 refine ZW (fun W=>Z9 W L _/\At W b o T _ (VR 1 (ZL 0 C) (-1:Int) bh)/\ZU W w.heap.size c0 c1 c2 c3 c4 c5 c6 L.p who/\Only (L.and b) w W) ⟨m3,i3,(v2.ZX hbb _ _).ZX hbb _ _,o3⟩ ?_
 clear m2 i2 o2 v2 s2 k0 k1 k2 kf m3 i3 o3
 rintro W3 ⟨m3,i3,v3,o3⟩
 have e0:=fun N:Later W3=>(v3.grown N.below).c0
 have e1:=fun N:Later W3=>(v3.grown N.below).c1
 have e2:=fun N:Later W3=>(v3.grown N.below).c2
 have e3:=fun N:Later W3=>(v3.grown N.below).c3
 have e4:=fun N:Later W3=>(v3.grown N.below).c4
 have e5:=fun N:Later W3=>(v3.grown N.below).c5
 have e6:=fun N:Later W3=>(v3.grown N.below).c6
 have e7:=fun N:Later W3=>(v3.grown N.below).c7
 have e8:=fun N:Later W3=>(v3.grown N.below).c8
 have e9:=fun N:Later W3=>(i3.grown N.below).cell 2 rfl
 haveI:=Later.exists W3
 try simp only[iV]
 try simp only[pP]
 try simp only[eV]
 refine ZC (by kernel_rfl) (by kernel_rfl) ?_
 repeat (go_big_quiet_step ((go_at_call 146;exact Calls.later (VU L _ _ _ _ _ _ _ _ _ _ false (decide_eq_false (by omega))))))
 refine wpQuiet_nil ?_
 rintro _ ⟨nq,rfl⟩
 have i4:=i3.grown nq.below
 have m4:=m3.below nq.below
 have o4:Only (L.and b) w nq.now:=o3.trans (Only.ZZ nq.below)
 clear e0 e1 e2 e3 e4 e5 e6 e7 e8 e9 v3 i3 m3 o3
 have k0:=i4.cell0 rfl
 have kf:=i4.fz
 go_wp2
 go_end0
 exact⟨rfl,_,m4.ZX hb _ _,i4.set0 _,s3.set (j:=o) (by omega) _,o4.set _ _⟩
theorem Jo {w:World} {L:Loc} {s:Mm} {b o:Nat} {T:TypeId} {cs:Array Value} {tp sl bh:Int} (h:Z9 w L s) (hb:¬ L.has b) (hi:At w b o T cs (VR 0 tp sl bh)) (c0 c1 c2 c3 c4 c5 c6 who:Int) (H C:Nat) (hn:1<s.n) (hw:s.wd 1=ZL (H+1) C) (hC:C<=1000000) (hH:H<=65535) (yes:(H:Int)<c1) :
 Calls Tryz.prog 121 #[pP b o,eV c0 c1 c2 c3 c4 c5 c6 L.p who] w fun e w'=>e=.returned (.bool false)/\∃ cs',Z9 w' L ((s.by who).step 1 (s.wd 1))/\At w' b o T cs' (VR 1 (ZL (H+1) C) (H:Int) bh)/\Same o 4 cs cs'/\Only (L.and b) w w':=by
 have k0:=hi.cell0 rfl
 have m1:=h.alloc (.cells #[iV c0,iV c1,iV c2,iV c3,iV c4,iV c5,iV c6,pP L.p 0,iV who] 27)
 have i1:=hi.grown (Z4 (Below.refl _ _) (.cells #[iV c0,iV c1,iV c2,iV c3,iV c4,iV c5,iV c6,pP L.p 0,iV who] 27))
 have o1:Only (L.and b) w (w.alloc (.cells #[iV c0,iV c1,iV c2,iV c3,iV c4,iV c5,iV c6,pP L.p 0,iV who] 27)):=(Only.refl _ _).alloc _
 have k1:=i1.cell0 rfl
 go_enter Tryz.func121,Tryz.ntmps121
 go_wp2_with (go_at_call 133;refine(Fq m1 hb i1 _ _ _ _ _ _ _ _ H C hn hw hC hH yes).mono ?_;rintro e w2 ⟨rfl,cs',m2,i2,s2,o2⟩;have k2:=i2.cell0 rfl)
 go_ret
 exact⟨rfl,cs',m2,i2,s2,o1.trans o2⟩
theorem Jn {w:World} {L:Loc} {s:Mm} {b o:Nat} {T:TypeId} {cs:Array Value} {tp sl bh:Int} (h:Z9 w L s) (hb:¬ L.has b) (hi:At w b o T cs (VR 0 tp sl bh)) (c0 c1 c2 c3 c4 c5 c6 who:Int) (C:Nat) (hn:1<s.n) (hw:s.wd 1=ZL 0 C) (hC:C<=1000000)  :
 Calls Tryz.prog 121 #[pP b o,eV c0 c1 c2 c3 c4 c5 c6 L.p who] w fun e w'=>e=.returned (.bool true)/\∃ cs',Z9 w' L ((s.by who).step 1 (s.wd 1))/\At w' b o T cs' (VR 4 (ZL 0 C) (-1:Int) bh)/\Same o 4 cs cs'/\Only (L.and b) w w':=by
 have k0:=hi.cell0 rfl
 have m1:=h.alloc (.cells #[iV c0,iV c1,iV c2,iV c3,iV c4,iV c5,iV c6,pP L.p 0,iV who] 27)
 have i1:=hi.grown (Z4 (Below.refl _ _) (.cells #[iV c0,iV c1,iV c2,iV c3,iV c4,iV c5,iV c6,pP L.p 0,iV who] 27))
 have o1:Only (L.and b) w (w.alloc (.cells #[iV c0,iV c1,iV c2,iV c3,iV c4,iV c5,iV c6,pP L.p 0,iV who] 27)):=(Only.refl _ _).alloc _
 have k1:=i1.cell0 rfl
 go_enter Tryz.func121,Tryz.ntmps121
 go_wp2_with (go_at_call 133;refine(CG m1 hb i1 _ _ _ _ _ _ _ _ C hn hw hC).mono ?_;rintro e w2 ⟨rfl,cs',m2,i2,s2,o2⟩;have k2:=i2.cell0 rfl)
 go_ret
 exact⟨rfl,cs',m2,i2,s2,o1.trans o2⟩
theorem Jl {w:World} {L:Loc} {s:Mm} {b o:Nat} {T:TypeId} {cs:Array Value} {tp bh:Int} (h:Z9 w L s) (hb:¬ L.has b) {sl:Nat} (hi:At w b o T cs (VR 1 tp sl bh)) (c0 c1 c2 c3 c4 c5 c6 who:Int) (Q A:Nat) (hA:(6:Int)+c0+(sl:Int) * 2+1=A) (ht0:0<=c0) (Rq:c0<=8) (hs:sl<=65535) (hn:A<s.n) (hw:s.wd A=ZL Q 0) (hQ:Q<=65536) :
 Calls Tryz.prog 121 #[pP b o,eV c0 c1 c2 c3 c4 c5 c6 L.p who] w fun e w'=>e=.returned (.bool false)/\∃ cs',Z9 w' L ((s.by who).step A (s.wd A))/\At w' b o T cs' (VR 2 tp sl ((Q:Int) - 1))/\Same o 4 cs cs'/\Only (L.and b) w w':=by
 obtain⟨hbv,hbb⟩:=nb h hi.lt
 have k0:=fun O=>X3 (hi.cell0 rfl) O
 have HA:Hid ((6:Int)+c0+(sl:Int) * 2+1=A):=hA
 clear hA
 obtain⟨X,hX⟩:∃ X,s.wd A=X:=⟨_,rfl⟩
 rw[hX] at hw ⊢
 have HX:Hid (s.wd A=ZL Q 0):=hX.trans hw
 subst hw
 clear hX
 go_enter Tryz.func121,Tryz.ntmps121
 go_wp2
 refine wo b h (fun _ g=>hi.grown g) ?_
 rintro W ⟨m1,i1,v1,o1⟩
 apply VT (R:=ZV L b (o+3)) (WV L b o T cs (cs.setIfInBounds (o+3) (iV ((Q:Int) - 1))) s ((s.by who).step A (ZL Q 0)) (VR 1 tp sl bh) (VR 1 tp sl ((Q:Int) - 1))) [8,15] Ua Zt ⟨m1.drew,i1.drew⟩;. kernel_rfl
 apply pV;. intros;apply ol;go_simp;exact gl
 apply pV;. intro w' hR _;apply ol;have y:=(v1.dn hR.only hbv hbb).yy;go_simp;exact gl
 apply pV;. intro w' hR _;apply ol;have y:=(v1.dn hR.only hbv hbb).yy;go_simp;exact gl
 iterate 3 (apply pV;. intros;apply ol;go_simp;exact gl)
 try simp only[pu,s0,s1]
 apply pV;. intro w' hR _;apply ol;have z:=hR.keep (j:=o+2) (by omega) (i1.drew.cell 2 rfl);go_simp;exact gl
 apply pV (c:=iV A);. intro w' hR _;apply ol;go_simp;refine(Pg L _ _ _ _ _ _ _ _ _ _ ⟨ht0,Rq⟩ (by omega)).mono ?_;rintro e w'' ⟨rfl,b9⟩;exact⟨_,rfl,b9,by rw[HA.out];rfl⟩
 apply pV (c:=.int .u64 (ZL Q 0));. intro w' hR _ hP;apply ol;go_simp;refine(ZF (s:=s) hP.1 _ _ _ _ _ _ _ _ A hn).mono ?_;rintro e w'' ⟨rfl,m2,o2⟩;rw[HX.out] at m2;exact⟨_,rfl,⟨ZV.Y7 o2 hb,m2,hP.2.only o2 hb⟩,by simp[Want.pred,HX.out]⟩
 apply pV;. intro w' hR _;apply ol;go_simp;exact cc (Ph Q 0 _ hQ (by omega))
 iterate 2 (apply pV;. intros;apply ol;go_simp;exact gl)
 try simp only[pu,s0,s1]
 iterate 3 (apply pV;. intros;apply ol;go_simp;exact gl)
 apply UD;. intro w' hR _ hP;apply ol;have z0:=hP.2.cell 3 rfl;have z1:=hP.2.fz;go_simp;exact⟨⟨ZV.set _ _,hP.1.ZX hb _ _,hP.2.set 3 _⟩,trivial⟩
 try simp only[pu,s0,s1]
 try simp only[pn]
 intro v w2 hR hP _
 obtain⟨m2,i2⟩:Z9 w2 L ((s.by who).step A (ZL Q 0))/\At w2 b o T (cs.setIfInBounds (o+3) (iV ((Q:Int) - 1))) (VR 1 tp sl ((Q:Int) - 1)):=hP
 have o2:Only (L.and b) w w2:=o1.drew.trans hR.only
 have s2:Same o 4 cs (cs.setIfInBounds (o+3) (iV ((Q:Int) - 1))):=Same.refl.set (by omega) _
 clear hR o1 v1 m1 i1 k0 HX HA
 have k0:=i2.cell0 rfl
 have kf:=i2.fz
 go_wp2
 go_ret
 exact⟨rfl,_,m2.ZX hb _ _,i2.set0 _,s2.set (j:=o) (by omega) _,o2.set _ _⟩
theorem Fp {w:World} {L:Loc} {s:Mm} {b o:Nat} {T:TypeId} {cs:Array Value} {sl:Int} (h:Z9 w L s) (hb:¬ L.has b) (H C Q:Nat) (hi:At w b o T cs (VR 2 (ZL H C) sl ((Q:Int) - 1))) (c0 c1 c2 c3 c4 c5 c6 who:Int) (hn:1<s.n) (hH:H<=65536) (hC:C<=1000000) (hQ:Q<=65536) (yes:s.wd 1=ZL H C) :
 Calls Tryz.prog 121 #[pP b o,eV c0 c1 c2 c3 c4 c5 c6 L.p who] w fun e w'=>e=.returned (.bool true)/\∃ cs',Z9 w' L ((s.by who).step 1 (ZL Q (C+1)))/\At w' b o T cs' (VR 3 (ZL H C) sl ((Q:Int) - 1))/\Same o 4 cs cs'/\Only (L.and b) w w':=by
 obtain⟨hbv,hbb⟩:=nb h hi.lt
 have k0:=fun O=>X3 (hi.cell0 rfl) O
 have HW:Hid (s.wd 1=ZL H C):=yes
 clear yes
 go_enter Tryz.func121,Tryz.ntmps121
 go_wp2
 refine ZW (fun W=>Z9 W L s/\At W b o T cs (VR 2 (ZL H C) sl ((Q:Int) - 1))/\ZU W w.heap.size c0 c1 c2 c3 c4 c5 c6 L.p who/\Only (L.and b) w W) ⟨h.alloc _,hi.grown (Z4 (Below.refl _ _) _),ZU.new,(Only.refl _ _).alloc _⟩ ?_
 rintro W ⟨m1,i1,v1,o1⟩
 apply VT (R:=ZV L b o) (WV L b o T cs (cs.setIfInBounds o (iV 3)) s ((s.by who).step 1 (ZL Q (C+1))) (VR 2 (ZL H C) sl ((Q:Int) - 1)) (VR 3 (ZL H C) sl ((Q:Int) - 1))) [10,13] Ua Zt ⟨m1.drew,i1.drew⟩;. kernel_rfl
 apply pV;. intros;apply ol;go_simp;exact gl
 apply pV;. intro w' hR _;apply ol;have y:=(v1.dn hR.only hbv hbb).yy;go_simp;exact gl
 iterate 3 (apply pV;. intros;apply ol;go_simp;exact gl)
 apply pV;. intro w' hR _;apply ol;have z:=hR.keep (j:=o+1) (by omega) (i1.drew.cell 1 rfl);go_simp;exact gl
 try simp only[pu,s0,s1]
 iterate 3 (apply pV;. intros;apply ol;go_simp;exact gl)
 apply pV;. intro w' hR _;apply ol;have z:=hR.keep (j:=o+3) (by omega) (i1.drew.cell 3 rfl);go_simp;exact gl
 apply pV (c:=iV 3);. intro w' hR _ hP;apply ol;go_simp;refine(LW (s:=s) hP.1 _ _ _ _ _ _ _ _ H C Q hn hH hC hQ HW.out).mono ?_;rintro e w'' ⟨rfl,m2,o2⟩;exact⟨_,rfl,⟨ZV.Y7 o2 hb,m2,hP.2.only o2 hb⟩,rfl⟩
 apply pV;. intros;apply ol;go_simp;exact gl
 try simp only[pu,s0,s1]
 apply pV;. intros;apply ol;go_simp;exact gl
 apply UD;. intro w' hR _ hP;apply ol;have z0:=hP.2.cell0 rfl;have z1:=hP.2.fz;go_simp;exact⟨⟨ZV.set _ _,hP.1.ZX hb _ _,hP.2.set0 _⟩,trivial⟩
 try simp only[pu,s0,s1]
 try simp only[pn]
 intro v w2 hR hP _
 obtain⟨m2,i2⟩:Z9 w2 L ((s.by who).step 1 (ZL Q (C+1)))/\At w2 b o T (cs.setIfInBounds o (iV 3)) (VR 3 (ZL H C) sl ((Q:Int) - 1)):=hP
 have o2:Only (L.and b) w w2:=o1.drew.trans hR.only
 have s2:Same o 4 cs (cs.setIfInBounds o (iV 3)):=Same.refl.set (by omega) _
 clear hR o1 v1 m1 i1 k0 HW
 have k0:=i2.cell0 rfl
 have kf:=i2.fz
 go_wp2
 go_ret
 exact⟨rfl,_,m2,i2,s2,o2⟩
theorem CE {w:World} {L:Loc} {s:Mm} {b o:Nat} {T:TypeId} {cs:Array Value} {sl:Int} (h:Z9 w L s) (hb:¬ L.has b) (H C Q:Nat) (hi:At w b o T cs (VR 2 (ZL H C) sl ((Q:Int) - 1))) (c0 c1 c2 c3 c4 c5 c6 who:Int) (hn:1<s.n) (hH:H<=65536) (hC:C<=1000000) (hQ:Q<=65536) (no:¬ s.wd 1=ZL H C) :
 Calls Tryz.prog 121 #[pP b o,eV c0 c1 c2 c3 c4 c5 c6 L.p who] w fun e w'=>e=.returned (.bool false)/\∃ cs',Z9 w' L ((s.by who).step 1 (s.wd 1))/\At w' b o T cs' (VR 0 (ZL H C) sl ((Q:Int) - 1))/\Same o 4 cs cs'/\Only (L.and b) w w':=by
 obtain⟨hbv,hbb⟩:=nb h hi.lt
 have k0:=fun O=>X3 (hi.cell0 rfl) O
 have HW:Hid (¬ s.wd 1=ZL H C):=no
 clear no
 go_enter Tryz.func121,Tryz.ntmps121
 go_wp2
 refine ZW (fun W=>Z9 W L s/\At W b o T cs (VR 2 (ZL H C) sl ((Q:Int) - 1))/\ZU W w.heap.size c0 c1 c2 c3 c4 c5 c6 L.p who/\Only (L.and b) w W) ⟨h.alloc _,hi.grown (Z4 (Below.refl _ _) _),ZU.new,(Only.refl _ _).alloc _⟩ ?_
 rintro W ⟨m1,i1,v1,o1⟩
 apply VT (R:=ZV L b o) (WV L b o T cs (cs.setIfInBounds o (iV 0)) s ((s.by who).step 1 (s.wd 1)) (VR 2 (ZL H C) sl ((Q:Int) - 1)) (VR 0 (ZL H C) sl ((Q:Int) - 1))) [10,13] Ua Zt ⟨m1.drew,i1.drew⟩;. kernel_rfl
 apply pV;. intros;apply ol;go_simp;exact gl
 apply pV;. intro w' hR _;apply ol;have y:=(v1.dn hR.only hbv hbb).yy;go_simp;exact gl
 iterate 3 (apply pV;. intros;apply ol;go_simp;exact gl)
 apply pV;. intro w' hR _;apply ol;have z:=hR.keep (j:=o+1) (by omega) (i1.drew.cell 1 rfl);go_simp;exact gl
 try simp only[pu,s0,s1]
 iterate 3 (apply pV;. intros;apply ol;go_simp;exact gl)
 apply pV;. intro w' hR _;apply ol;have z:=hR.keep (j:=o+3) (by omega) (i1.drew.cell 3 rfl);go_simp;exact gl
 apply pV (c:=iV 0);. intro w' hR _ hP;apply ol;go_simp;refine(Iy (s:=s) hP.1 _ _ _ _ _ _ _ _ H C Q hn hH hC hQ HW.out).mono ?_;rintro e w'' ⟨rfl,m2,o2⟩;exact⟨_,rfl,⟨ZV.Y7 o2 hb,m2,hP.2.only o2 hb⟩,rfl⟩
 apply pV;. intros;apply ol;go_simp;exact gl
 try simp only[pu,s0,s1]
 apply pV;. intros;apply ol;go_simp;exact gl
 apply UD;. intro w' hR _ hP;apply ol;have z0:=hP.2.cell0 rfl;have z1:=hP.2.fz;go_simp;exact⟨⟨ZV.set _ _,hP.1.ZX hb _ _,hP.2.set0 _⟩,trivial⟩
 try simp only[pu,s0,s1]
 try simp only[pn]
 intro v w2 hR hP _
 obtain⟨m2,i2⟩:Z9 w2 L ((s.by who).step 1 (s.wd 1))/\At w2 b o T (cs.setIfInBounds o (iV 0)) (VR 0 (ZL H C) sl ((Q:Int) - 1)):=hP
 have o2:Only (L.and b) w w2:=o1.drew.trans hR.only
 have s2:Same o 4 cs (cs.setIfInBounds o (iV 0)):=Same.refl.set (by omega) _
 clear hR o1 v1 m1 i1 k0 HW
 have k0:=i2.cell0 rfl
 have kf:=i2.fz
 go_wp2
 go_ret
 exact⟨rfl,_,m2,i2,s2,o2⟩
theorem Jk {w:World} {L:Loc} {s:Mm} {b o:Nat} {T:TypeId} {cs:Array Value} {tp:Int} {sl:Nat} (h:Z9 w L s) (hb:¬ L.has b) (hi:At w b o T cs (Vy 0 sl tp)) (c0 c1 c2 c3 c4 c5 c6 who:Int) (H C:Nat) (hn:1<s.n) (hsl:(sl:Int)<c1) (hw:s.wd 1=ZL H C) :
 Calls Tryz.prog 132 #[pP b o,eV c0 c1 c2 c3 c4 c5 c6 L.p who] w fun e w'=>e=.returned (.bool false)/\∃ cs',Z9 w' L ((s.by who).step 1 (s.wd 1))/\At w' b o T cs' (Vy 1 sl (ZL H C))/\Same o 3 cs cs'/\Only (L.and b) w w':=by
 have hn1:decide ((s.n:Int)<=1)=false:=decide_eq_false (by omega)
 obtain⟨hbv,hbb⟩:=nb h hi.lt
 obtain⟨X,hX⟩:∃ X,s.wd 1=X:=⟨_,rfl⟩
 rw[hX] at hw ⊢
 have HX:Hid (s.wd 1=ZL H C):=hX.trans hw
 subst hw
 clear hX
 go_enter Tryz.func132,Tryz.ntmps132
 go_wp2
 refine wo b h (fun _ g=>hi.grown g) ?_
 rintro W ⟨m1,i1,v1,o1⟩
 have e0:=fun N:Later W=>(v1.grown N.below).c0
 have e1:=fun N:Later W=>(v1.grown N.below).c1
 have e2:=fun N:Later W=>(v1.grown N.below).c2
 have e3:=fun N:Later W=>(v1.grown N.below).c3
 have e4:=fun N:Later W=>(v1.grown N.below).c4
 have e5:=fun N:Later W=>(v1.grown N.below).c5
 have e6:=fun N:Later W=>(v1.grown N.below).c6
 have e7:=fun N:Later W=>(v1.grown N.below).c7
 have e8:=fun N:Later W=>(v1.grown N.below).c8
 have e9:=fun N:Later W=>(i1.grown N.below).cell 1 rfl
 have hm:=fun N:Later W=>m1.below N.below
 haveI:=Later.exists W
 try simp only[iV]
 try simp only[pP]
 try simp only[eV]
 refine ZC (by kernel_rfl) (by kernel_rfl) ?_
 repeat (go_big_quiet_step ((first
  | (go_at_call 146;exact Calls.later (VU L _ _ _ _ _ _ _ _ _ _ true (decide_eq_true ⟨by omega,by omega⟩)))
  | (go_at_call 56;exact Calls.YS (X7 _))
  | (go_at_call 145;exact Calls.YS (len_any (hm _))))))
 refine wpQuiet_nil ?_
 rintro _ ⟨nq,rfl⟩
 clear e0 e1 e2 e3 e4 e5 e6 e7 e8 e9 hm hn1
 have i2:=i1.grown nq.below
 have m2:=m1.below nq.below
 have v2:=v1.grown nq.below
 have o2:Only (L.and b) w nq.now:=o1.trans (Only.ZZ nq.below)
 have k0:=i2.cell0 rfl
 have k2:=i2.cell 2 rfl
 have kf:=i2.fz
 clear m1 i1 v1 o1
 go_wp2
 refine ZW (fun W=>Z9 W L s/\At W b o T cs (Vy 0 sl tp)/\ZU W w.heap.size c0 c1 c2 c3 c4 c5 c6 L.p who/\Only (L.and b) w W) ⟨m2,i2,v2,o2⟩ ?_
 clear m2 i2 v2 o2 k0 k2 kf
 rintro W ⟨m1,i1,v1,o1⟩
 apply VT (R:=ZV L b (o+2)) (WV L b o T cs (cs.setIfInBounds (o+2) (.int .u64 (ZL H C))) s ((s.by who).step 1 (ZL H C)) (Vy 0 sl tp) (Vy 0 sl (ZL H C))) [3,6] Ua Zt ⟨m1.drew,i1.drew⟩;. kernel_rfl
 apply pV;. intros;apply ol;go_simp;exact gl
 apply pV;. intro w' hR _;apply ol;have y:=(v1.dn hR.only hbv hbb).yy;go_simp;exact gl
 apply pV;. intro w' hR _;apply ol;go_simp;exact cc (X7 _)
 apply pV (c:=.int .u64 (ZL H C));. intro w' hR _ hP;apply ol;go_simp;refine(ZF (s:=s) hP.1 _ _ _ _ _ _ _ _ 1 hn).mono ?_;rintro e w'' ⟨rfl,m2,o2⟩;rw[HX.out] at m2;exact⟨_,rfl,⟨ZV.Y7 o2 hb,m2,hP.2.only o2 hb⟩,by simp[Want.pred,HX.out]⟩
 iterate 2 (apply pV;. intros;apply ol;go_simp;exact gl)
 try simp only[pu,s0,s1]
 apply UD;. intro w' hR _ hP;apply ol;have z0:=hP.2.cell 2 rfl;have z1:=hP.2.fz;go_simp;exact⟨⟨ZV.set _ _,hP.1.ZX hb _ _,hP.2.set 2 _⟩,trivial⟩
 try simp only[pn]
 intro v w2 hR hP _
 obtain⟨m2,i2⟩:Z9 w2 L ((s.by who).step 1 (ZL H C))/\At w2 b o T (cs.setIfInBounds (o+2) (.int .u64 (ZL H C))) (Vy 0 sl (ZL H C)):=hP
 have o2:Only (L.and b) w w2:=o1.drew.trans hR.only
 have s2:Same o 3 cs (cs.setIfInBounds (o+2) (.int .u64 (ZL H C))):=Same.refl.set (by omega) _
 clear hR o1 v1 m1 i1 HX
 have k0:=i2.cell0 rfl
 have kf:=i2.fz
 go_wp2
 go_ret
 exact⟨rfl,_,m2.ZX hb _ _,i2.set0 _,s2.set (j:=o) (by omega) _,o2.set _ _⟩
theorem Fj {w:World} {L:Loc} {s:Mm} {b o:Nat} {T:TypeId} {cs:Array Value} {sl:Nat} (h:Z9 w L s) (hb:¬ L.has b) (H C A:Nat) (hi:At w b o T cs (Vy 1 sl (ZL H C))) (c0 c1 c2 c3 c4 c5 c6 who:Int) (hA:(6:Int)+c0+(sl:Int) * 2+1=A) (ht0:0<=c0) (Rq:c0<=8) (hs:sl<=65535) (hn:A<s.n) (hsl:(sl:Int)<c1) (hH:H<=65536) (hC:C<=1000000) :
 Calls Tryz.prog 132 #[pP b o,eV c0 c1 c2 c3 c4 c5 c6 L.p who] w fun e w'=>e=.returned (.bool false)/\∃ cs',Z9 w' L ((s.by who).step A (ZL H 0))/\At w' b o T cs' (Vy 2 sl (ZL H C))/\Same o 3 cs cs'/\Only (L.and b) w w':=by
 have hn1:decide ((s.n:Int)<=1)=false:=decide_eq_false (by omega)
 obtain⟨hbv,hbb⟩:=nb h hi.lt
 have HA:Hid ((6:Int)+c0+(sl:Int) * 2+1=A):=hA
 clear hA
 go_enter Tryz.func132,Tryz.ntmps132
 go_wp2
 refine ZW (fun W=>Z9 W L s/\At W b o T cs (Vy 1 sl (ZL H C))/\ZU W w.heap.size c0 c1 c2 c3 c4 c5 c6 L.p who/\Only (L.and b) w W) ⟨h.alloc _,hi.grown (Z4 (Below.refl _ _) _),ZU.new,(Only.refl _ _).alloc _⟩ ?_
 rintro W ⟨m1,i1,v1,o1⟩
 have e0:=fun N:Later W=>(v1.grown N.below).c0
 have e1:=fun N:Later W=>(v1.grown N.below).c1
 have e2:=fun N:Later W=>(v1.grown N.below).c2
 have e3:=fun N:Later W=>(v1.grown N.below).c3
 have e4:=fun N:Later W=>(v1.grown N.below).c4
 have e5:=fun N:Later W=>(v1.grown N.below).c5
 have e6:=fun N:Later W=>(v1.grown N.below).c6
 have e7:=fun N:Later W=>(v1.grown N.below).c7
 have e8:=fun N:Later W=>(v1.grown N.below).c8
 have e9:=fun N:Later W=>(i1.grown N.below).cell 1 rfl
 have hm:=fun N:Later W=>m1.below N.below
 haveI:=Later.exists W
 try simp only[iV]
 try simp only[pP]
 try simp only[eV]
 refine ZC (by kernel_rfl) (by kernel_rfl) ?_
 repeat (go_big_quiet_step ((first
  | (go_at_call 146;exact Calls.later (VU L _ _ _ _ _ _ _ _ _ _ true (decide_eq_true ⟨by omega,by omega⟩)))
  | (go_at_call 56;exact Calls.YS (X7 _))
  | (go_at_call 145;exact Calls.YS (len_any (hm _))))))
 refine wpQuiet_nil ?_
 rintro _ ⟨nq,rfl⟩
 clear e0 e1 e2 e3 e4 e5 e6 e7 e8 e9 hm hn1
 have i2:=i1.grown nq.below
 have m2:=m1.below nq.below
 have v2:=v1.grown nq.below
 have o2:Only (L.and b) w nq.now:=o1.trans (Only.ZZ nq.below)
 have k0:=i2.cell0 rfl
 have k2:=i2.cell 2 rfl
 have kf:=i2.fz
 clear m1 i1 v1 o1
 go_wp2_with (go_at_call 134;refine(Ph H C _ hH (by omega)).mono ?_;rintro e w1 ⟨rfl,rfl⟩)
 refine ZW (fun W=>Z9 W L s/\At W b o T cs (Vy 1 sl (ZL H C))/\ZU W w.heap.size c0 c1 c2 c3 c4 c5 c6 L.p who/\Only (L.and b) w W) ⟨m2,i2,v2,o2⟩ ?_
 clear m2 i2 v2 o2 k0 k2 kf
 rintro W ⟨m1,i1,v1,o1⟩
 apply VT (R:=Only L.has) (fun p W'=>match p with | 0=>Z9 W' L s | _=>Z9 W' L ((s.by who).step A (ZL H 0))) [9] Gp (fun x y p h k=>by match p,k with | 0,k=>exact k.below h | p+1,k=>exact k.below h) m1.drew;. kernel_rfl
 apply pV;. intro w' hR _;apply ol;obtain⟨y0,y1,y2,y3,y4,y5,y6,y7,y8⟩:=(v1.grown ((Below.refl _ _).drew)).only hR hbv;go_simp;exact gl
 apply pV;. intro w' hR _;apply ol;obtain⟨y0,y1,y2,y3,y4,y5,y6,y7,y8⟩:=(v1.grown ((Below.refl _ _).drew)).only hR hbv;go_simp;exact gl
 iterate 3 (apply pV;. intros;apply ol;go_simp;exact gl)
 apply pV;. intro w' hR _;apply ol;have z:=(i1.drew.only hR hb).cell 1 rfl;go_simp;exact gl
 try simp only[pu,s0,s1]
 apply pV (c:=iV A);. intro w' hR _;apply ol;go_simp;refine(Pg L _ _ _ _ _ _ _ _ _ _ ⟨ht0,Rq⟩ (by omega)).mono ?_;rintro e w'' ⟨rfl,b9⟩;exact⟨_,rfl,b9,by rw[HA.out];rfl⟩
 apply pV;. intros;apply ol;go_simp;exact gl
 apply pV;. intro w' hR _;apply ol;go_simp;exact cc (LX H 0 _ hH (by omega))
 apply UD;. intro w' hR _ hP;apply ol;go_simp;refine(Wi (s:=s) hP _ _ _ _ _ _ _ _ A hn _).mono ?_;rintro e w'' ⟨rfl,m2,o2⟩;exact⟨_,rfl,⟨o2,m2⟩,trivial⟩
 try simp only[pu,s0,s1]
 try simp only[pn]
 intro v w2 hR hP _
 have m2:Z9 w2 L ((s.by who).step A (ZL H 0)):=hP
 have i2:=i1.drew.only hR hb
 have o2:Only (L.and b) w w2:=o1.drew.trans hR.Yf
 clear hR o1 v1 m1 i1 HA hP
 have k0:=i2.cell0 rfl
 have kf:=i2.fz
 go_wp2
 go_ret
 exact⟨rfl,_,m2.ZX hb _ _,i2.set0 _,Same.refl.set (j:=o) (by omega) _,o2.set _ _⟩
theorem Fh {w:World} {L:Loc} {s:Mm} {b o:Nat} {T:TypeId} {cs:Array Value} {sl:Nat} (h:Z9 w L s) (hb:¬ L.has b) (H C:Nat) (hi:At w b o T cs (Vy 2 sl (ZL H C))) (c0 c1 c2 c3 c4 c5 c6 who:Int) (hn:1<s.n) (hsl:(sl:Int)<c1) (hs:sl<=65535) (hH:H<=65536) (hC:C<=1000000) (yes:s.wd 1=ZL H C) :
 Calls Tryz.prog 132 #[pP b o,eV c0 c1 c2 c3 c4 c5 c6 L.p who] w fun e w'=>e=.returned (.bool true)/\∃ cs',Z9 w' L ((s.by who).step 1 (ZL (sl+1) (C+1)))/\At w' b o T cs' (Vy 3 sl (ZL H C))/\Same o 3 cs cs'/\Only (L.and b) w w':=by
 have hn1:decide ((s.n:Int)<=1)=false:=decide_eq_false (by omega)
 obtain⟨hbv,hbb⟩:=nb h hi.lt
 have HW:Hid (s.wd 1=ZL H C):=yes
 clear yes
 go_enter Tryz.func132,Tryz.ntmps132
 go_wp2
 refine ZW (fun W=>Z9 W L s/\At W b o T cs (Vy 2 sl (ZL H C))/\ZU W w.heap.size c0 c1 c2 c3 c4 c5 c6 L.p who/\Only (L.and b) w W) ⟨h.alloc _,hi.grown (Z4 (Below.refl _ _) _),ZU.new,(Only.refl _ _).alloc _⟩ ?_
 rintro W ⟨m1,i1,v1,o1⟩
 have e0:=fun N:Later W=>(v1.grown N.below).c0
 have e1:=fun N:Later W=>(v1.grown N.below).c1
 have e2:=fun N:Later W=>(v1.grown N.below).c2
 have e3:=fun N:Later W=>(v1.grown N.below).c3
 have e4:=fun N:Later W=>(v1.grown N.below).c4
 have e5:=fun N:Later W=>(v1.grown N.below).c5
 have e6:=fun N:Later W=>(v1.grown N.below).c6
 have e7:=fun N:Later W=>(v1.grown N.below).c7
 have e8:=fun N:Later W=>(v1.grown N.below).c8
 have e9:=fun N:Later W=>(i1.grown N.below).cell 1 rfl
 have hm:=fun N:Later W=>m1.below N.below
 haveI:=Later.exists W
 try simp only[iV]
 try simp only[pP]
 try simp only[eV]
 refine ZC (by kernel_rfl) (by kernel_rfl) ?_
 repeat (go_big_quiet_step ((first
  | (go_at_call 146;exact Calls.later (VU L _ _ _ _ _ _ _ _ _ _ true (decide_eq_true ⟨by omega,by omega⟩)))
  | (go_at_call 56;exact Calls.YS (X7 _))
  | (go_at_call 145;exact Calls.YS (len_any (hm _))))))
 refine wpQuiet_nil ?_
 rintro _ ⟨nq,rfl⟩
 clear e0 e1 e2 e3 e4 e5 e6 e7 e8 e9 hm hn1
 have i2:=i1.grown nq.below
 have m2:=m1.below nq.below
 have v2:=v1.grown nq.below
 have o2:Only (L.and b) w nq.now:=o1.trans (Only.ZZ nq.below)
 have k0:=i2.cell0 rfl
 have k2:=i2.cell 2 rfl
 have kf:=i2.fz
 clear m1 i1 v1 o1
 go_wp2
 refine ZW (fun W=>Z9 W L s/\At W b o T cs (Vy 2 sl (ZL H C))/\ZU W w.heap.size c0 c1 c2 c3 c4 c5 c6 L.p who/\Only (L.and b) w W) ⟨m2,i2,v2,o2⟩ ?_
 clear m2 i2 v2 o2 k0 k2 kf
 rintro W ⟨m1,i1,v1,o1⟩
 apply VT (R:=ZV L b o) (WV L b o T cs (cs.setIfInBounds o (iV 3)) s ((s.by who).step 1 (ZL (sl+1) (C+1))) (Vy 2 sl (ZL H C)) (Vy 3 sl (ZL H C))) [10,13] Ua Zt ⟨m1.drew,i1.drew⟩;. kernel_rfl
 apply pV;. intros;apply ol;go_simp;exact gl
 apply pV;. intro w' hR _;apply ol;have y:=(v1.dn hR.only hbv hbb).yy;go_simp;exact gl
 iterate 3 (apply pV;. intros;apply ol;go_simp;exact gl)
 apply pV;. intro w' hR _;apply ol;have z:=hR.keep (j:=o+2) (by omega) (i1.drew.cell 2 rfl);go_simp;exact gl
 try simp only[pu,s0,s1]
 iterate 3 (apply pV;. intros;apply ol;go_simp;exact gl)
 apply pV;. intro w' hR _;apply ol;have z:=hR.keep (j:=o+1) (by omega) (i1.drew.cell 1 rfl);go_simp;exact gl
 apply pV (c:=iV 3);. intro w' hR _ hP;apply ol;go_simp;refine(LV (s:=s) hP.1 _ _ _ _ _ _ _ _ H C sl hn hH hC hs HW.out).mono ?_;rintro e w'' ⟨rfl,m2,o2⟩;exact⟨_,rfl,⟨ZV.Y7 o2 hb,m2,hP.2.only o2 hb⟩,rfl⟩
 apply pV;. intros;apply ol;go_simp;exact gl
 try simp only[pu,s0,s1]
 apply pV;. intros;apply ol;go_simp;exact gl
 apply UD;. intro w' hR _ hP;apply ol;have z0:=hP.2.cell0 rfl;have z1:=hP.2.fz;go_simp;exact⟨⟨ZV.set _ _,hP.1.ZX hb _ _,hP.2.set0 _⟩,trivial⟩
 try simp only[pu,s0,s1]
 try simp only[pn]
 intro v w2 hR hP _
 obtain⟨m2,i2⟩:Z9 w2 L ((s.by who).step 1 (ZL (sl+1) (C+1)))/\At w2 b o T (cs.setIfInBounds o (iV 3)) (Vy 3 sl (ZL H C)):=hP
 have o2:Only (L.and b) w w2:=o1.drew.trans hR.only
 have s2:Same o 3 cs (cs.setIfInBounds o (iV 3)):=Same.refl.set (by omega) _
 clear hR o1 v1 m1 i1 HW
 have k0:=i2.cell0 rfl
 have kf:=i2.fz
 go_wp2
 go_ret
 exact⟨rfl,_,m2,i2,s2,o2⟩
theorem CB {w:World} {L:Loc} {s:Mm} {b o:Nat} {T:TypeId} {cs:Array Value} {sl:Nat} (h:Z9 w L s) (hb:¬ L.has b) (H C:Nat) (hi:At w b o T cs (Vy 2 sl (ZL H C))) (c0 c1 c2 c3 c4 c5 c6 who:Int) (hn:1<s.n) (hsl:(sl:Int)<c1) (hs:sl<=65535) (hH:H<=65536) (hC:C<=1000000) (no:¬ s.wd 1=ZL H C) :
 Calls Tryz.prog 132 #[pP b o,eV c0 c1 c2 c3 c4 c5 c6 L.p who] w fun e w'=>e=.returned (.bool false)/\∃ cs',Z9 w' L ((s.by who).step 1 (s.wd 1))/\At w' b o T cs' (Vy 0 sl (ZL H C))/\Same o 3 cs cs'/\Only (L.and b) w w':=by
 have hn1:decide ((s.n:Int)<=1)=false:=decide_eq_false (by omega)
 obtain⟨hbv,hbb⟩:=nb h hi.lt
 have HW:Hid (¬ s.wd 1=ZL H C):=no
 clear no
 go_enter Tryz.func132,Tryz.ntmps132
 go_wp2
 refine ZW (fun W=>Z9 W L s/\At W b o T cs (Vy 2 sl (ZL H C))/\ZU W w.heap.size c0 c1 c2 c3 c4 c5 c6 L.p who/\Only (L.and b) w W) ⟨h.alloc _,hi.grown (Z4 (Below.refl _ _) _),ZU.new,(Only.refl _ _).alloc _⟩ ?_
 rintro W ⟨m1,i1,v1,o1⟩
 have e0:=fun N:Later W=>(v1.grown N.below).c0
 have e1:=fun N:Later W=>(v1.grown N.below).c1
 have e2:=fun N:Later W=>(v1.grown N.below).c2
 have e3:=fun N:Later W=>(v1.grown N.below).c3
 have e4:=fun N:Later W=>(v1.grown N.below).c4
 have e5:=fun N:Later W=>(v1.grown N.below).c5
 have e6:=fun N:Later W=>(v1.grown N.below).c6
 have e7:=fun N:Later W=>(v1.grown N.below).c7
 have e8:=fun N:Later W=>(v1.grown N.below).c8
 have e9:=fun N:Later W=>(i1.grown N.below).cell 1 rfl
 have hm:=fun N:Later W=>m1.below N.below
 haveI:=Later.exists W
 try simp only[iV]
 try simp only[pP]
 try simp only[eV]
 refine ZC (by kernel_rfl) (by kernel_rfl) ?_
 repeat (go_big_quiet_step ((first
  | (go_at_call 146;exact Calls.later (VU L _ _ _ _ _ _ _ _ _ _ true (decide_eq_true ⟨by omega,by omega⟩)))
  | (go_at_call 56;exact Calls.YS (X7 _))
  | (go_at_call 145;exact Calls.YS (len_any (hm _))))))
 refine wpQuiet_nil ?_
 rintro _ ⟨nq,rfl⟩
 clear e0 e1 e2 e3 e4 e5 e6 e7 e8 e9 hm hn1
 have i2:=i1.grown nq.below
 have m2:=m1.below nq.below
 have v2:=v1.grown nq.below
 have o2:Only (L.and b) w nq.now:=o1.trans (Only.ZZ nq.below)
 have k0:=i2.cell0 rfl
 have k2:=i2.cell 2 rfl
 have kf:=i2.fz
 clear m1 i1 v1 o1
 go_wp2
 refine ZW (fun W=>Z9 W L s/\At W b o T cs (Vy 2 sl (ZL H C))/\ZU W w.heap.size c0 c1 c2 c3 c4 c5 c6 L.p who/\Only (L.and b) w W) ⟨m2,i2,v2,o2⟩ ?_
 clear m2 i2 v2 o2 k0 k2 kf
 rintro W ⟨m1,i1,v1,o1⟩
 apply VT (R:=ZV L b o) (WV L b o T cs (cs.setIfInBounds o (iV 0)) s ((s.by who).step 1 (s.wd 1)) (Vy 2 sl (ZL H C)) (Vy 0 sl (ZL H C))) [10,13] Ua Zt ⟨m1.drew,i1.drew⟩;. kernel_rfl
 apply pV;. intros;apply ol;go_simp;exact gl
 apply pV;. intro w' hR _;apply ol;have y:=(v1.dn hR.only hbv hbb).yy;go_simp;exact gl
 iterate 3 (apply pV;. intros;apply ol;go_simp;exact gl)
 apply pV;. intro w' hR _;apply ol;have z:=hR.keep (j:=o+2) (by omega) (i1.drew.cell 2 rfl);go_simp;exact gl
 try simp only[pu,s0,s1]
 iterate 3 (apply pV;. intros;apply ol;go_simp;exact gl)
 apply pV;. intro w' hR _;apply ol;have z:=hR.keep (j:=o+1) (by omega) (i1.drew.cell 1 rfl);go_simp;exact gl
 apply pV (c:=iV 0);. intro w' hR _ hP;apply ol;go_simp;refine(Jp (s:=s) hP.1 _ _ _ _ _ _ _ _ H C sl hn hH hC hs HW.out).mono ?_;rintro e w'' ⟨rfl,m2,o2⟩;exact⟨_,rfl,⟨ZV.Y7 o2 hb,m2,hP.2.only o2 hb⟩,rfl⟩
 apply pV;. intros;apply ol;go_simp;exact gl
 try simp only[pu,s0,s1]
 apply pV;. intros;apply ol;go_simp;exact gl
 apply UD;. intro w' hR _ hP;apply ol;have z0:=hP.2.cell0 rfl;have z1:=hP.2.fz;go_simp;exact⟨⟨ZV.set _ _,hP.1.ZX hb _ _,hP.2.set0 _⟩,trivial⟩
 try simp only[pu,s0,s1]
 try simp only[pn]
 intro v w2 hR hP _
 obtain⟨m2,i2⟩:Z9 w2 L ((s.by who).step 1 (s.wd 1))/\At w2 b o T (cs.setIfInBounds o (iV 0)) (Vy 0 sl (ZL H C)):=hP
 have o2:Only (L.and b) w w2:=o1.drew.trans hR.only
 have s2:Same o 3 cs (cs.setIfInBounds o (iV 0)):=Same.refl.set (by omega) _
 clear hR o1 v1 m1 i1 HW
 have k0:=i2.cell0 rfl
 have kf:=i2.fz
 go_wp2
 go_ret
 exact⟨rfl,_,m2,i2,s2,o2⟩
end Go.Proofs.YtpbghmeikcphnaaGreat
