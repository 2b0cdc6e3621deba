import Derived.Test.YtpbghmeikcphnabGreatBoth
import Derived.Test.YtpbghmeikcphnabGreatStruct
namespace Go.Proofs.YtpbghmeikcphnabGreat
open Go.RowKit
set_option maxRecDepth 20000
theorem Rl (Q C:Nat) (w:World) (a:Q<=65536) (b:C<=1000000) :
 Calls Tryz.prog 46 #[iV ((Q:Int) - 1),iV ((C:Int)+1)] w fun e w'=>e=.returned (.int .u64 (ZL Q (C+1)))/\w'=w:=LG Q (C+1) w a (by omega)
def VH (nx tp sl bh:Int):List Value:=[iV nx,.int .u64 tp,iV sl,iV bh]
def Vl (nx sl tp:Int):List Value:=[iV nx,iV sl,.int .u64 tp]
theorem VL (L:Loc) (c0 c1 c2 c3 c4 c5 c6 who sl:Int) (w:World) (d:Bool) (hd:decide (0<=sl/\sl<c1)=d) :
 Calls Tryz.prog 138 #[eV c0 c1 c2 c3 c4 c5 c6 L.p who,iV sl] w fun e w'=>e=.returned (.bool d)/\Below w.heap.size w w':=by
 subst hd
 by_cases h1:0<=sl
 . by_cases h2:sl<c1
   . go_enter Tryz.func138,Tryz.ntmps138
     go_wp2
     go_ret
     exact⟨by simp[h1,h2],Z4 (Below.refl _ _) _⟩
   . go_enter Tryz.func138,Tryz.ntmps138
     go_wp2
     go_ret
     exact⟨by simp[h2],Z4 (Below.refl _ _) _⟩
 . go_enter Tryz.func138,Tryz.ntmps138
   go_wp2
   go_ret
   exact⟨by simp;omega,Z4 (Below.refl _ _) _⟩
theorem Jh (t s k n g p r i:Int) (w:World) (t0:0<=t) (t1:t<=8) (h0:0<=i) (h1:i<=1000000) :
 Calls Tryz.prog 47 #[.agg #[iV t,iV s,iV k,iV n,iV g,iV p,iV r],iV i] w fun e w'=>e=.returned (iV (6+t+i * 2))/\Below w.heap.size w w':=by
 go_enter Tryz.func47,Tryz.ntmps47
 go_wp2_with (go_at_call 14;refine(Tu _ _ (by omega) (by omega)).mono ?_;rintro e w' ⟨rfl,rfl⟩)
 go_ret
 exact⟨rfl,Z4 (Below.refl _ _) _⟩
theorem O7 (L:Loc) (c0 c1 c2 c3 c4 c5 c6 who sl:Int) (w:World) (hc:0<=c0/\c0<=8) (hs:0<=sl/\sl<=65536) :
 Calls Tryz.prog 126 #[eV c0 c1 c2 c3 c4 c5 c6 L.p who,iV sl] w fun e w'=>e=.returned (iV (6+c0+sl * 2+1))/\Below w.heap.size w w':=by
 obtain⟨hc1,hc2⟩:=hc
 obtain⟨hs1,hs2⟩:=hs
 go_enter Tryz.func126,Tryz.ntmps126
 go_wp2_with (go_at_call 47;refine(Jh _ _ _ _ _ _ _ _ _ (by omega) (by omega) (by omega) (by omega)).mono ?_;rintro e w' ⟨rfl,b1⟩)
 go_ret
 exact⟨rfl,grow (Z4 (Below.refl _ _) _) b1⟩
theorem LD {w:World} {L:Loc} {s:Mm} (h:Z8 w L s) (c0 c1 c2 c3 c4 c5 c6 who:Int) (H C Q:Nat) (hn:1<s.n) (hH:H<=65536) (hC:C<=1000000) (hQ:Q<=65536) (yes:s.wd 1=ZL H C) :
 Calls Tryz.prog 127 #[eV c0 c1 c2 c3 c4 c5 c6 L.p who,.int .u64 (ZL H C),iV ((Q:Int) - 1)] w fun e w'=>e=.returned (iV 3)/\Z8 w' L ((s.by who).step 1 (ZL Q (C+1)))/\Only L.has w w':=by
 have hbv:¬ L.has w.heap.size:=fun hh=>by have:=h.lt _ hh;omega
 go_enter Tryz.func127,Tryz.ntmps127
 go_wp2_with (go_at_call 125;refine(O8 H C _ hH (by omega)).mono ?_;rintro e w1 ⟨rfl,rfl⟩)
 refine ZW (fun W=>Z8 W L s/\ZR W w.heap.size c0 c1 c2 c3 c4 c5 c6 L.p who/\Only L.has w W) ⟨h.alloc _,ZR.new,(Only.refl _ _).alloc _⟩ ?_
 rintro W ⟨m1,v1,o1⟩
 apply VJ (R:=Only L.has) (fun p W'=>match p with | 0=>Z8 W' L s | _=>Z8 W' L ((s.by who).step 1 (ZL Q (C+1)))) [7] Gf (fun x y p h k=>by match p,k with | 0,k=>exact k.below h | p+1,k=>exact k.below h) m1.drew;. kernel_rfl
 apply pV;. intro w' hR _;apply ol;obtain⟨y0,y1,y2,y3,y4,y5,y6,y7,y8⟩:=(v1.grown ((Below.refl _ _).drew)).only hR hbv;go_simp;exact gl
 apply pV;. intro w' hR _;apply ol;go_simp;exact cc (X6 _)
 iterate 3 (apply pV;. intros;apply ol;go_simp;exact gl)
 apply pV (c:=iV ((C:Int)+1));. intro w' hR _;apply ol;go_simp;exact⟨Grown.refl _,by simp only[Want.pred];rw[IntKind.wrap_i64];exact congrArg (Value.int .i64) (by omega)⟩
 try simp only[pu,s0,s1]
 apply pV;. intro w' hR _;apply ol;go_simp;exact cc (Rl Q C _ hQ hC)
 apply wE (c:=.bool true);. intro w' hR _ hP;apply ol;go_simp;refine(YC (s:=s) hP _ _ _ _ _ _ _ _ 1 hn _ _).mono ?_;rintro e w'' ⟨rfl,m2,o2⟩;rw[show (s.by who).Vo 1 (ZL H C) (ZL Q (C+1))=(s.by who).step 1 (ZL Q (C+1)) from if_pos yes] at m2;refine⟨_,rfl,⟨o2,m2⟩,?_⟩;simp[Want.pred,yes]
 try simp only[pu,s0,s1]
 intro w2 hR m2 _
 have Ls:Z8 w2 L ((s.by who).step 1 (ZL Q (C+1))):=m2
 have o2:Only L.has w w2:=o1.drew.trans hR
 clear m1 v1 o1 hR m2
 go_wp2
 go_ret
 exact⟨rfl,Ls,o2⟩
theorem Io {w:World} {L:Loc} {s:Mm} (h:Z8 w L s) (c0 c1 c2 c3 c4 c5 c6 who:Int) (H C Q:Nat) (hn:1<s.n) (hH:H<=65536) (hC:C<=1000000) (hQ:Q<=65536) (no:¬ s.wd 1=ZL H C) :
 Calls Tryz.prog 127 #[eV c0 c1 c2 c3 c4 c5 c6 L.p who,.int .u64 (ZL H C),iV ((Q:Int) - 1)] w fun e w'=>e=.returned (iV 0)/\Z8 w' L ((s.by who).step 1 (s.wd 1))/\Only L.has w w':=by
 have hbv:¬ L.has w.heap.size:=fun hh=>by have:=h.lt _ hh;omega
 go_enter Tryz.func127,Tryz.ntmps127
 go_wp2_with (go_at_call 125;refine(O8 H C _ hH (by omega)).mono ?_;rintro e w1 ⟨rfl,rfl⟩)
 refine ZW (fun W=>Z8 W L s/\ZR W w.heap.size c0 c1 c2 c3 c4 c5 c6 L.p who/\Only L.has w W) ⟨h.alloc _,ZR.new,(Only.refl _ _).alloc _⟩ ?_
 rintro W ⟨m1,v1,o1⟩
 apply VJ (R:=Only L.has) (fun p W'=>match p with | 0=>Z8 W' L s | _=>Z8 W' L ((s.by who).step 1 (s.wd 1))) [7] Gf (fun x y p h k=>by match p,k with | 0,k=>exact k.below h | p+1,k=>exact k.below h) m1.drew;. kernel_rfl
 apply pV;. intro w' hR _;apply ol;obtain⟨y0,y1,y2,y3,y4,y5,y6,y7,y8⟩:=(v1.grown ((Below.refl _ _).drew)).only hR hbv;go_simp;exact gl
 apply pV;. intro w' hR _;apply ol;go_simp;exact cc (X6 _)
 iterate 3 (apply pV;. intros;apply ol;go_simp;exact gl)
 apply pV (c:=iV ((C:Int)+1));. intro w' hR _;apply ol;go_simp;exact⟨Grown.refl _,by simp only[Want.pred];rw[IntKind.wrap_i64];exact congrArg (Value.int .i64) (by omega)⟩
 try simp only[pu,s0,s1]
 apply pV;. intro w' hR _;apply ol;go_simp;exact cc (Rl Q C _ hQ hC)
 apply wE (c:=.bool false);. intro w' hR _ hP;apply ol;go_simp;refine(YC (s:=s) hP _ _ _ _ _ _ _ _ 1 hn _ _).mono ?_;rintro e w'' ⟨rfl,m2,o2⟩;rw[show (s.by who).Vo 1 (ZL H C) (ZL Q (C+1))=(s.by who).step 1 (s.wd 1) from if_neg no] at m2;refine⟨_,rfl,⟨o2,m2⟩,?_⟩;simp[Want.pred,no]
 try simp only[pu,s0,s1]
 intro w2 hR m2 _
 have Ls:Z8 w2 L ((s.by who).step 1 (s.wd 1)):=m2
 have o2:Only L.has w w2:=o1.drew.trans hR
 clear m1 v1 o1 hR m2
 go_wp2
 go_ret
 exact⟨rfl,Ls,o2⟩
theorem LC {w:World} {L:Loc} {s:Mm} (h:Z8 w L s) (c0 c1 c2 c3 c4 c5 c6 who:Int) (H C sl:Nat) (hn:1<s.n) (hH:H<=65536) (hC:C<=1000000) (hs:sl<=65535) (yes:s.wd 1=ZL H C) :
 Calls Tryz.prog 127 #[eV c0 c1 c2 c3 c4 c5 c6 L.p who,.int .u64 (ZL H C),iV sl] w fun e w'=>e=.returned (iV 3)/\Z8 w' L ((s.by who).step 1 (ZL (sl+1) (C+1)))/\Only L.has w w':=by
 have k:=LD h c0 c1 c2 c3 c4 c5 c6 who H C (sl+1) hn hH hC (by omega) yes
 have e:((sl+1:Nat):Int) - 1=sl:=by omega
 rwa [e] at k
theorem Jg {w:World} {L:Loc} {s:Mm} (h:Z8 w L s) (c0 c1 c2 c3 c4 c5 c6 who:Int) (H C sl:Nat) (hn:1<s.n) (hH:H<=65536) (hC:C<=1000000) (hs:sl<=65535) (no:¬ s.wd 1=ZL H C) :
 Calls Tryz.prog 127 #[eV c0 c1 c2 c3 c4 c5 c6 L.p who,.int .u64 (ZL H C),iV sl] w fun e w'=>e=.returned (iV 0)/\Z8 w' L ((s.by who).step 1 (s.wd 1))/\Only L.has w w':=by
 have k:=Io h c0 c1 c2 c3 c4 c5 c6 who H C (sl+1) hn hH hC (by omega) no
 have e:((sl+1:Nat):Int) - 1=sl:=by omega
 rwa [e] at k
theorem E8 {w:World} {L:Loc} {s:Mm} {b o:Nat} {T:TypeId} {cs:Array Value} {tp sl bh:Int} (h:Z8 w L s) (hb:¬ L.has b) (hi:At w b o T cs (VH 0 tp sl bh)) (c0 c1 c2 c3 c4 c5 c6 who:Int) (H C:Nat) (hn:1<s.n) (hw:s.wd 1=ZL (H+1) C) (hC:C<=1000000) (hH:H<=65535) (yes:(H:Int)<c1) :
 Calls Tryz.prog 124 #[pP b o,eV c0 c1 c2 c3 c4 c5 c6 L.p who] w fun e w'=>e=.returned (.tuple #[])/\∃ cs',Z8 w' L ((s.by who).step 1 (s.wd 1))/\At w' b o T cs' (VH 1 (ZL (H+1) C) (H:Int) bh)/\Same o 4 cs cs'/\Only (L.and b) w w':=by
 obtain⟨hbv,hbb⟩:=nb h hi.lt
 have e1:((H+1:Nat):Int) - 1=H:=by omega
 have t1:=fun w=>O8 (H+1) C w (by omega) (by omega)
 rw[e1] at t1
 obtain⟨X,hX⟩:∃ X,s.wd 1=X:=⟨_,rfl⟩
 rw[hX] at hw ⊢
 subst hw
 go_enter Tryz.func124,Tryz.ntmps124
 go_wp2
 refine wo b h (fun _ g=>hi.grown g) ?_
 rintro W ⟨m1,i1,v1,o1⟩
 apply VJ (R:=Only (L.and b)) (WN L b o T cs (cs.setIfInBounds (o+1) (.int .u64 (ZL (H+1) C))) s ((s.by who).step 1 (ZL (H+1) C)) (VH 0 tp sl bh) (VH 0 (ZL (H+1) C) sl bh)) [3,6] Gf Zq ⟨m1.drew,i1.drew⟩;. kernel_rfl
 apply pV;. intros;apply ol;go_simp;exact gl
 apply pV;. intro w' hR _;apply ol;obtain⟨y0,y1,y2,y3,y4,y5,y6,y7,y8⟩:=(v1.grown ((Below.refl _ _).drew)).only hR (fun hh=>hh.elim hbv hbb);go_simp;exact gl
 apply pV;. intro w' hR _;apply ol;go_simp;exact cc (X6 _)
 apply pV (c:=.int .u64 (ZL (H+1) C));. intro w' hR _ hP;apply ol;go_simp;refine(ZF (s:=s) hP.1 _ _ _ _ _ _ _ _ 1 hn).mono ?_;rintro e w'' ⟨rfl,m2,o2⟩;rw[hX] at m2;exact⟨_,rfl,⟨o2.Yd,m2,hP.2.only o2 hb⟩,by simp[Want.pred,hX]⟩
 iterate 2 (apply pV;. intros;apply ol;go_simp;exact gl)
 try simp only[pu,s0,s1]
 apply Un;. intro w' hR _ hP;apply ol;have z0:=hP.2.cell 1 rfl;have z1:=hP.2.fz;go_simp;exact⟨⟨(Only.refl _ _).set _ _,hP.1.ZX hb _ _,hP.2.set 1 _⟩,trivial⟩
 try simp only[pn]
 intro v w2 hR hP _
 obtain⟨m2,i2⟩:Z8 w2 L ((s.by who).step 1 (ZL (H+1) C))/\At w2 b o T (cs.setIfInBounds (o+1) (.int .u64 (ZL (H+1) C))) (VH 0 (ZL (H+1) C) sl bh):=hP
 have o2:Only (L.and b) w w2:=o1.drew.trans hR
 have v2:=(v1.grown ((Below.refl _ _).drew)).only hR (fun hh=>hh.elim hbv hbb)
 have s2:Same o 4 cs (cs.setIfInBounds (o+1) (.int .u64 (ZL (H+1) C))):=Same.refl.set (by omega) _
 clear hR o1 v1 m1 i1 hX
 have k0:=i2.cell0 rfl
 have k1:=i2.cell 1 rfl
 have k2:=i2.cell 2 rfl
 have kf:=i2.fz
 go_wp2_with (go_at_call 125;refine(t1 _).mono ?_;rintro e w1 ⟨rfl,rfl⟩)
 have i3:=(i2.set 2 (iV (H:Int))).set0 (iV 1)
 have m3:=(m2.ZX hb (o+2) (iV (H:Int))).ZX hb o (iV 1)
 have o3:=(o2.set (o+2) (iV (H:Int))).set o (iV 1)
 have s3:=(s2.set (j:=o+2) (by omega) (iV (H:Int))).set (j:=o) (by omega) (iV 1)
 refine ZW (fun W=>Z8 W L _/\At W b o T _ (VH 1 (ZL (H+1) C) (H:Int) bh)/\ZR W w.heap.size c0 c1 c2 c3 c4 c5 c6 L.p who/\Only (L.and b) w W) ⟨m3,i3,(v2.ZX hbb _ _).ZX hbb _ _,o3⟩ ?_
 clear m2 i2 o2 v2 s2 k0 k1 k2 kf m3 i3 o3
 rintro W3 ⟨m3,i3,v3,o3⟩
 have e0:=fun N:Later W3=>(v3.grown N.below).c0
 have e1:=fun N:Later W3=>(v3.grown N.below).c1
 have e2:=fun N:Later W3=>(v3.grown N.below).c2
 have e3:=fun N:Later W3=>(v3.grown N.below).c3
 have e4:=fun N:Later W3=>(v3.grown N.below).c4
 have e5:=fun N:Later W3=>(v3.grown N.below).c5
 have e6:=fun N:Later W3=>(v3.grown N.below).c6
 have e7:=fun N:Later W3=>(v3.grown N.below).c7
 have e8:=fun N:Later W3=>(v3.grown N.below).c8
 have e9:=fun N:Later W3=>(i3.grown N.below).cell 2 rfl
 haveI:=Later.exists W3
 try simp only[iV]
 try simp only[pP]
 try simp only[eV]
 refine ZC (by kernel_rfl) (by kernel_rfl) ?_
 repeat (go_big_quiet_step ((go_at_call 138;exact Calls.later (VL L _ _ _ _ _ _ _ _ _ _ true (decide_eq_true ⟨by omega,by omega⟩)))))
 refine wpQuiet_nil ?_
 rintro _ ⟨nq,rfl⟩
 have i4:=i3.grown nq.below
 have m4:=m3.below nq.below
 have o4:Only (L.and b) w nq.now:=o3.trans (Only.ZZ nq.below)
 clear e0 e1 e2 e3 e4 e5 e6 e7 e8 e9 v3 i3 m3 o3
 have k0:=i4.cell0 rfl
 have kf:=i4.fz
 go_wp2
 go_end0
 exact⟨rfl,_,m4,i4,s3,o4⟩
theorem BU {w:World} {L:Loc} {s:Mm} {b o:Nat} {T:TypeId} {cs:Array Value} {tp sl bh:Int} (h:Z8 w L s) (hb:¬ L.has b) (hi:At w b o T cs (VH 0 tp sl bh)) (c0 c1 c2 c3 c4 c5 c6 who:Int) (C:Nat) (hn:1<s.n) (hw:s.wd 1=ZL 0 C) (hC:C<=1000000)  :
 Calls Tryz.prog 124 #[pP b o,eV c0 c1 c2 c3 c4 c5 c6 L.p who] w fun e w'=>e=.returned (.tuple #[])/\∃ cs',Z8 w' L ((s.by who).step 1 (s.wd 1))/\At w' b o T cs' (VH 4 (ZL 0 C) (-1:Int) bh)/\Same o 4 cs cs'/\Only (L.and b) w w':=by
 obtain⟨hbv,hbb⟩:=nb h hi.lt
 have t1:∀ w,Calls Tryz.prog 125 #[.int .u64 (ZL 0 C)] w fun e w'=>e=.returned (.tuple #[iV (-1),iV C])/\w'=w:=fun w=>O8 0 C w (by omega) (by omega)
 obtain⟨X,hX⟩:∃ X,s.wd 1=X:=⟨_,rfl⟩
 rw[hX] at hw ⊢
 subst hw
 go_enter Tryz.func124,Tryz.ntmps124
 go_wp2
 refine wo b h (fun _ g=>hi.grown g) ?_
 rintro W ⟨m1,i1,v1,o1⟩
 apply VJ (R:=Only (L.and b)) (WN L b o T cs (cs.setIfInBounds (o+1) (.int .u64 (ZL 0 C))) s ((s.by who).step 1 (ZL 0 C)) (VH 0 tp sl bh) (VH 0 (ZL 0 C) sl bh)) [3,6] Gf Zq ⟨m1.drew,i1.drew⟩;. kernel_rfl
 apply pV;. intros;apply ol;go_simp;exact gl
 apply pV;. intro w' hR _;apply ol;obtain⟨y0,y1,y2,y3,y4,y5,y6,y7,y8⟩:=(v1.grown ((Below.refl _ _).drew)).only hR (fun hh=>hh.elim hbv hbb);go_simp;exact gl
 apply pV;. intro w' hR _;apply ol;go_simp;exact cc (X6 _)
 apply pV (c:=.int .u64 (ZL 0 C));. intro w' hR _ hP;apply ol;go_simp;refine(ZF (s:=s) hP.1 _ _ _ _ _ _ _ _ 1 hn).mono ?_;rintro e w'' ⟨rfl,m2,o2⟩;rw[hX] at m2;exact⟨_,rfl,⟨o2.Yd,m2,hP.2.only o2 hb⟩,by simp[Want.pred,hX]⟩
 iterate 2 (apply pV;. intros;apply ol;go_simp;exact gl)
 try simp only[pu,s0,s1]
 apply Un;. intro w' hR _ hP;apply ol;have z0:=hP.2.cell 1 rfl;have z1:=hP.2.fz;go_simp;exact⟨⟨(Only.refl _ _).set _ _,hP.1.ZX hb _ _,hP.2.set 1 _⟩,trivial⟩
 try simp only[pn]
 intro v w2 hR hP _
 obtain⟨m2,i2⟩:Z8 w2 L ((s.by who).step 1 (ZL 0 C))/\At w2 b o T (cs.setIfInBounds (o+1) (.int .u64 (ZL 0 C))) (VH 0 (ZL 0 C) sl bh):=hP
 have o2:Only (L.and b) w w2:=o1.drew.trans hR
 have v2:=(v1.grown ((Below.refl _ _).drew)).only hR (fun hh=>hh.elim hbv hbb)
 have s2:Same o 4 cs (cs.setIfInBounds (o+1) (.int .u64 (ZL 0 C))):=Same.refl.set (by omega) _
 clear hR o1 v1 m1 i1 hX
 have k0:=i2.cell0 rfl
 have k1:=i2.cell 1 rfl
 have k2:=i2.cell 2 rfl
 have kf:=i2.fz
 go_wp2_with (go_at_call 125;refine(t1 _).mono ?_;rintro e w1 ⟨rfl,rfl⟩)
 have i3:=(i2.set 2 (iV (-1:Int))).set0 (iV 1)
 have m3:=(m2.ZX hb (o+2) (iV (-1:Int))).ZX hb o (iV 1)
 have o3:=(o2.set (o+2) (iV (-1:Int))).set o (iV 1)
 have s3:=(s2.set (j:=o+2) (by omega) (iV (-1:Int))).set (j:=o) (by omega) (iV 1)
 refine ZW (fun W=>Z8 W L _/\At W b o T _ (VH 1 (ZL 0 C) (-1:Int) bh)/\ZR W w.heap.size c0 c1 c2 c3 c4 c5 c6 L.p who/\Only (L.and b) w W) ⟨m3,i3,(v2.ZX hbb _ _).ZX hbb _ _,o3⟩ ?_
 clear m2 i2 o2 v2 s2 k0 k1 k2 kf m3 i3 o3
 rintro W3 ⟨m3,i3,v3,o3⟩
 have e0:=fun N:Later W3=>(v3.grown N.below).c0
 have e1:=fun N:Later W3=>(v3.grown N.below).c1
 have e2:=fun N:Later W3=>(v3.grown N.below).c2
 have e3:=fun N:Later W3=>(v3.grown N.below).c3
 have e4:=fun N:Later W3=>(v3.grown N.below).c4
 have e5:=fun N:Later W3=>(v3.grown N.below).c5
 have e6:=fun N:Later W3=>(v3.grown N.below).c6
 have e7:=fun N:Later W3=>(v3.grown N.below).c7
 have e8:=fun N:Later W3=>(v3.grown N.below).c8
 have e9:=fun N:Later W3=>(i3.grown N.below).cell 2 rfl
 haveI:=Later.exists W3
 try simp only[iV]
 try simp only[pP]
 try simp only[eV]
 refine ZC (by kernel_rfl) (by kernel_rfl) ?_
 repeat (go_big_quiet_step ((go_at_call 138;exact Calls.later (VL L _ _ _ _ _ _ _ _ _ _ false (decide_eq_false (by omega))))))
 refine wpQuiet_nil ?_
 rintro _ ⟨nq,rfl⟩
 have i4:=i3.grown nq.below
 have m4:=m3.below nq.below
 have o4:Only (L.and b) w nq.now:=o3.trans (Only.ZZ nq.below)
 clear e0 e1 e2 e3 e4 e5 e6 e7 e8 e9 v3 i3 m3 o3
 have k0:=i4.cell0 rfl
 have kf:=i4.fz
 go_wp2
 go_end0
 exact⟨rfl,_,m4.ZX hb _ _,i4.set0 _,s3.set (j:=o) (by omega) _,o4.set _ _⟩
theorem Jf {w:World} {L:Loc} {s:Mm} {b o:Nat} {T:TypeId} {cs:Array Value} {tp sl bh:Int} (h:Z8 w L s) (hb:¬ L.has b) (hi:At w b o T cs (VH 0 tp sl bh)) (c0 c1 c2 c3 c4 c5 c6 who:Int) (H C:Nat) (hn:1<s.n) (hw:s.wd 1=ZL (H+1) C) (hC:C<=1000000) (hH:H<=65535) (yes:(H:Int)<c1) :
 Calls Tryz.prog 111 #[pP b o,eV c0 c1 c2 c3 c4 c5 c6 L.p who] w fun e w'=>e=.returned (.bool false)/\∃ cs',Z8 w' L ((s.by who).step 1 (s.wd 1))/\At w' b o T cs' (VH 1 (ZL (H+1) C) (H:Int) bh)/\Same o 4 cs cs'/\Only (L.and b) w w':=by
 have k0:=hi.cell0 rfl
 have m1:=h.alloc (.cells #[iV c0,iV c1,iV c2,iV c3,iV c4,iV c5,iV c6,pP L.p 0,iV who] 26)
 have i1:=hi.grown (Z4 (Below.refl _ _) (.cells #[iV c0,iV c1,iV c2,iV c3,iV c4,iV c5,iV c6,pP L.p 0,iV who] 26))
 have o1:Only (L.and b) w (w.alloc (.cells #[iV c0,iV c1,iV c2,iV c3,iV c4,iV c5,iV c6,pP L.p 0,iV who] 26)):=(Only.refl _ _).alloc _
 have k1:=i1.cell0 rfl
 go_enter Tryz.func111,Tryz.ntmps111
 go_wp2_with (go_at_call 124;refine(E8 m1 hb i1 _ _ _ _ _ _ _ _ H C hn hw hC hH yes).mono ?_;rintro e w2 ⟨rfl,cs',m2,i2,s2,o2⟩;have k2:=i2.cell0 rfl)
 go_ret
 exact⟨rfl,cs',m2,i2,s2,o1.trans o2⟩
theorem Je {w:World} {L:Loc} {s:Mm} {b o:Nat} {T:TypeId} {cs:Array Value} {tp sl bh:Int} (h:Z8 w L s) (hb:¬ L.has b) (hi:At w b o T cs (VH 0 tp sl bh)) (c0 c1 c2 c3 c4 c5 c6 who:Int) (C:Nat) (hn:1<s.n) (hw:s.wd 1=ZL 0 C) (hC:C<=1000000)  :
 Calls Tryz.prog 111 #[pP b o,eV c0 c1 c2 c3 c4 c5 c6 L.p who] w fun e w'=>e=.returned (.bool true)/\∃ cs',Z8 w' L ((s.by who).step 1 (s.wd 1))/\At w' b o T cs' (VH 4 (ZL 0 C) (-1:Int) bh)/\Same o 4 cs cs'/\Only (L.and b) w w':=by
 have k0:=hi.cell0 rfl
 have m1:=h.alloc (.cells #[iV c0,iV c1,iV c2,iV c3,iV c4,iV c5,iV c6,pP L.p 0,iV who] 26)
 have i1:=hi.grown (Z4 (Below.refl _ _) (.cells #[iV c0,iV c1,iV c2,iV c3,iV c4,iV c5,iV c6,pP L.p 0,iV who] 26))
 have o1:Only (L.and b) w (w.alloc (.cells #[iV c0,iV c1,iV c2,iV c3,iV c4,iV c5,iV c6,pP L.p 0,iV who] 26)):=(Only.refl _ _).alloc _
 have k1:=i1.cell0 rfl
 go_enter Tryz.func111,Tryz.ntmps111
 go_wp2_with (go_at_call 124;refine(BU m1 hb i1 _ _ _ _ _ _ _ _ C hn hw hC).mono ?_;rintro e w2 ⟨rfl,cs',m2,i2,s2,o2⟩;have k2:=i2.cell0 rfl)
 go_ret
 exact⟨rfl,cs',m2,i2,s2,o1.trans o2⟩
theorem Jd {w:World} {L:Loc} {s:Mm} {b o:Nat} {T:TypeId} {cs:Array Value} {tp bh:Int} (h:Z8 w L s) (hb:¬ L.has b) {sl:Nat} (hi:At w b o T cs (VH 1 tp sl bh)) (c0 c1 c2 c3 c4 c5 c6 who:Int) (Q A:Nat) (hA:(6:Int)+c0+(sl:Int) * 2+1=A) (ht0:0<=c0) (Q8:c0<=8) (hs:sl<=65535) (hn:A<s.n) (hw:s.wd A=ZL Q 0) (hQ:Q<=65536) :
 Calls Tryz.prog 111 #[pP b o,eV c0 c1 c2 c3 c4 c5 c6 L.p who] w fun e w'=>e=.returned (.bool false)/\∃ cs',Z8 w' L ((s.by who).step A (s.wd A))/\At w' b o T cs' (VH 2 tp sl ((Q:Int) - 1))/\Same o 4 cs cs'/\Only (L.and b) w w':=by
 obtain⟨hbv,hbb⟩:=nb h hi.lt
 have k0:=fun O=>X0 (hi.cell0 rfl) O
 have HA:Hid ((6:Int)+c0+(sl:Int) * 2+1=A):=hA
 clear hA
 obtain⟨X,hX⟩:∃ X,s.wd A=X:=⟨_,rfl⟩
 rw[hX] at hw ⊢
 have HX:Hid (s.wd A=ZL Q 0):=hX.trans hw
 subst hw
 clear hX
 go_enter Tryz.func111,Tryz.ntmps111
 go_wp2
 refine wo b h (fun _ g=>hi.grown g) ?_
 rintro W ⟨m1,i1,v1,o1⟩
 apply VJ (R:=ZV L b (o+3)) (WN L b o T cs (cs.setIfInBounds (o+3) (iV ((Q:Int) - 1))) s ((s.by who).step A (ZL Q 0)) (VH 1 tp sl bh) (VH 1 tp sl ((Q:Int) - 1))) [8,15] TN Zq ⟨m1.drew,i1.drew⟩;. kernel_rfl
 apply pV;. intros;apply ol;go_simp;exact gl
 apply pV;. intro w' hR _;apply ol;have y:=(v1.dn hR.only hbv hbb).yy;go_simp;exact gl
 apply pV;. intro w' hR _;apply ol;have y:=(v1.dn hR.only hbv hbb).yy;go_simp;exact gl
 iterate 3 (apply pV;. intros;apply ol;go_simp;exact gl)
 try simp only[pu,s0,s1]
 apply pV;. intro w' hR _;apply ol;have z:=hR.keep (j:=o+2) (by omega) (i1.drew.cell 2 rfl);go_simp;exact gl
 apply pV (c:=iV A);. intro w' hR _;apply ol;go_simp;refine(O7 L _ _ _ _ _ _ _ _ _ _ ⟨ht0,Q8⟩ (by omega)).mono ?_;rintro e w'' ⟨rfl,b9⟩;exact⟨_,rfl,b9,by rw[HA.out];rfl⟩
 apply pV (c:=.int .u64 (ZL Q 0));. intro w' hR _ hP;apply ol;go_simp;refine(ZF (s:=s) hP.1 _ _ _ _ _ _ _ _ A hn).mono ?_;rintro e w'' ⟨rfl,m2,o2⟩;rw[HX.out] at m2;exact⟨_,rfl,⟨ZV.Y7 o2 hb,m2,hP.2.only o2 hb⟩,by simp[Want.pred,HX.out]⟩
 apply pV;. intro w' hR _;apply ol;go_simp;exact cc (O8 Q 0 _ hQ (by omega))
 iterate 2 (apply pV;. intros;apply ol;go_simp;exact gl)
 try simp only[pu,s0,s1]
 iterate 3 (apply pV;. intros;apply ol;go_simp;exact gl)
 apply Un;. intro w' hR _ hP;apply ol;have z0:=hP.2.cell 3 rfl;have z1:=hP.2.fz;go_simp;exact⟨⟨ZV.set _ _,hP.1.ZX hb _ _,hP.2.set 3 _⟩,trivial⟩
 try simp only[pu,s0,s1]
 try simp only[pn]
 intro v w2 hR hP _
 obtain⟨m2,i2⟩:Z8 w2 L ((s.by who).step A (ZL Q 0))/\At w2 b o T (cs.setIfInBounds (o+3) (iV ((Q:Int) - 1))) (VH 1 tp sl ((Q:Int) - 1)):=hP
 have o2:Only (L.and b) w w2:=o1.drew.trans hR.only
 have s2:Same o 4 cs (cs.setIfInBounds (o+3) (iV ((Q:Int) - 1))):=Same.refl.set (by omega) _
 clear hR o1 v1 m1 i1 k0 HX HA
 have k0:=i2.cell0 rfl
 have kf:=i2.fz
 go_wp2
 go_ret
 exact⟨rfl,_,m2.ZX hb _ _,i2.set0 _,s2.set (j:=o) (by omega) _,o2.set _ _⟩
theorem E5 {w:World} {L:Loc} {s:Mm} {b o:Nat} {T:TypeId} {cs:Array Value} {sl:Int} (h:Z8 w L s) (hb:¬ L.has b) (H C Q:Nat) (hi:At w b o T cs (VH 2 (ZL H C) sl ((Q:Int) - 1))) (c0 c1 c2 c3 c4 c5 c6 who:Int) (hn:1<s.n) (hH:H<=65536) (hC:C<=1000000) (hQ:Q<=65536) (yes:s.wd 1=ZL H C) :
 Calls Tryz.prog 111 #[pP b o,eV c0 c1 c2 c3 c4 c5 c6 L.p who] w fun e w'=>e=.returned (.bool true)/\∃ cs',Z8 w' L ((s.by who).step 1 (ZL Q (C+1)))/\At w' b o T cs' (VH 3 (ZL H C) sl ((Q:Int) - 1))/\Same o 4 cs cs'/\Only (L.and b) w w':=by
 obtain⟨hbv,hbb⟩:=nb h hi.lt
 have k0:=fun O=>X0 (hi.cell0 rfl) O
 have HW:Hid (s.wd 1=ZL H C):=yes
 clear yes
 go_enter Tryz.func111,Tryz.ntmps111
 go_wp2
 refine ZW (fun W=>Z8 W L s/\At W b o T cs (VH 2 (ZL H C) sl ((Q:Int) - 1))/\ZR W w.heap.size c0 c1 c2 c3 c4 c5 c6 L.p who/\Only (L.and b) w W) ⟨h.alloc _,hi.grown (Z4 (Below.refl _ _) _),ZR.new,(Only.refl _ _).alloc _⟩ ?_
 rintro W ⟨m1,i1,v1,o1⟩
 apply VJ (R:=ZV L b o) (WN L b o T cs (cs.setIfInBounds o (iV 3)) s ((s.by who).step 1 (ZL Q (C+1))) (VH 2 (ZL H C) sl ((Q:Int) - 1)) (VH 3 (ZL H C) sl ((Q:Int) - 1))) [10,13] TN Zq ⟨m1.drew,i1.drew⟩;. kernel_rfl
 apply pV;. intros;apply ol;go_simp;exact gl
 apply pV;. intro w' hR _;apply ol;have y:=(v1.dn hR.only hbv hbb).yy;go_simp;exact gl
 iterate 3 (apply pV;. intros;apply ol;go_simp;exact gl)
 apply pV;. intro w' hR _;apply ol;have z:=hR.keep (j:=o+1) (by omega) (i1.drew.cell 1 rfl);go_simp;exact gl
 try simp only[pu,s0,s1]
 iterate 3 (apply pV;. intros;apply ol;go_simp;exact gl)
 apply pV;. intro w' hR _;apply ol;have z:=hR.keep (j:=o+3) (by omega) (i1.drew.cell 3 rfl);go_simp;exact gl
 apply pV (c:=iV 3);. intro w' hR _ hP;apply ol;go_simp;refine(LD (s:=s) hP.1 _ _ _ _ _ _ _ _ H C Q hn hH hC hQ HW.out).mono ?_;rintro e w'' ⟨rfl,m2,o2⟩;exact⟨_,rfl,⟨ZV.Y7 o2 hb,m2,hP.2.only o2 hb⟩,rfl⟩
 apply pV;. intros;apply ol;go_simp;exact gl
 try simp only[pu,s0,s1]
 apply pV;. intros;apply ol;go_simp;exact gl
 apply Un;. intro w' hR _ hP;apply ol;have z0:=hP.2.cell0 rfl;have z1:=hP.2.fz;go_simp;exact⟨⟨ZV.set _ _,hP.1.ZX hb _ _,hP.2.set0 _⟩,trivial⟩
 try simp only[pu,s0,s1]
 try simp only[pn]
 intro v w2 hR hP _
 obtain⟨m2,i2⟩:Z8 w2 L ((s.by who).step 1 (ZL Q (C+1)))/\At w2 b o T (cs.setIfInBounds o (iV 3)) (VH 3 (ZL H C) sl ((Q:Int) - 1)):=hP
 have o2:Only (L.and b) w w2:=o1.drew.trans hR.only
 have s2:Same o 4 cs (cs.setIfInBounds o (iV 3)):=Same.refl.set (by omega) _
 clear hR o1 v1 m1 i1 k0 HW
 have k0:=i2.cell0 rfl
 have kf:=i2.fz
 go_wp2
 go_ret
 exact⟨rfl,_,m2,i2,s2,o2⟩
theorem BR {w:World} {L:Loc} {s:Mm} {b o:Nat} {T:TypeId} {cs:Array Value} {sl:Int} (h:Z8 w L s) (hb:¬ L.has b) (H C Q:Nat) (hi:At w b o T cs (VH 2 (ZL H C) sl ((Q:Int) - 1))) (c0 c1 c2 c3 c4 c5 c6 who:Int) (hn:1<s.n) (hH:H<=65536) (hC:C<=1000000) (hQ:Q<=65536) (no:¬ s.wd 1=ZL H C) :
 Calls Tryz.prog 111 #[pP b o,eV c0 c1 c2 c3 c4 c5 c6 L.p who] w fun e w'=>e=.returned (.bool false)/\∃ cs',Z8 w' L ((s.by who).step 1 (s.wd 1))/\At w' b o T cs' (VH 0 (ZL H C) sl ((Q:Int) - 1))/\Same o 4 cs cs'/\Only (L.and b) w w':=by
 obtain⟨hbv,hbb⟩:=nb h hi.lt
 have k0:=fun O=>X0 (hi.cell0 rfl) O
 have HW:Hid (¬ s.wd 1=ZL H C):=no
 clear no
 go_enter Tryz.func111,Tryz.ntmps111
 go_wp2
 refine ZW (fun W=>Z8 W L s/\At W b o T cs (VH 2 (ZL H C) sl ((Q:Int) - 1))/\ZR W w.heap.size c0 c1 c2 c3 c4 c5 c6 L.p who/\Only (L.and b) w W) ⟨h.alloc _,hi.grown (Z4 (Below.refl _ _) _),ZR.new,(Only.refl _ _).alloc _⟩ ?_
 rintro W ⟨m1,i1,v1,o1⟩
 apply VJ (R:=ZV L b o) (WN L b o T cs (cs.setIfInBounds o (iV 0)) s ((s.by who).step 1 (s.wd 1)) (VH 2 (ZL H C) sl ((Q:Int) - 1)) (VH 0 (ZL H C) sl ((Q:Int) - 1))) [10,13] TN Zq ⟨m1.drew,i1.drew⟩;. kernel_rfl
 apply pV;. intros;apply ol;go_simp;exact gl
 apply pV;. intro w' hR _;apply ol;have y:=(v1.dn hR.only hbv hbb).yy;go_simp;exact gl
 iterate 3 (apply pV;. intros;apply ol;go_simp;exact gl)
 apply pV;. intro w' hR _;apply ol;have z:=hR.keep (j:=o+1) (by omega) (i1.drew.cell 1 rfl);go_simp;exact gl
 try simp only[pu,s0,s1]
 iterate 3 (apply pV;. intros;apply ol;go_simp;exact gl)
 apply pV;. intro w' hR _;apply ol;have z:=hR.keep (j:=o+3) (by omega) (i1.drew.cell 3 rfl);go_simp;exact gl
 apply pV (c:=iV 0);. intro w' hR _ hP;apply ol;go_simp;refine(Io (s:=s) hP.1 _ _ _ _ _ _ _ _ H C Q hn hH hC hQ HW.out).mono ?_;rintro e w'' ⟨rfl,m2,o2⟩;exact⟨_,rfl,⟨ZV.Y7 o2 hb,m2,hP.2.only o2 hb⟩,rfl⟩
 apply pV;. intros;apply ol;go_simp;exact gl
 try simp only[pu,s0,s1]
 apply pV;. intros;apply ol;go_simp;exact gl
 apply Un;. intro w' hR _ hP;apply ol;have z0:=hP.2.cell0 rfl;have z1:=hP.2.fz;go_simp;exact⟨⟨ZV.set _ _,hP.1.ZX hb _ _,hP.2.set0 _⟩,trivial⟩
 try simp only[pu,s0,s1]
 try simp only[pn]
 intro v w2 hR hP _
 obtain⟨m2,i2⟩:Z8 w2 L ((s.by who).step 1 (s.wd 1))/\At w2 b o T (cs.setIfInBounds o (iV 0)) (VH 0 (ZL H C) sl ((Q:Int) - 1)):=hP
 have o2:Only (L.and b) w w2:=o1.drew.trans hR.only
 have s2:Same o 4 cs (cs.setIfInBounds o (iV 0)):=Same.refl.set (by omega) _
 clear hR o1 v1 m1 i1 k0 HW
 have k0:=i2.cell0 rfl
 have kf:=i2.fz
 go_wp2
 go_ret
 exact⟨rfl,_,m2,i2,s2,o2⟩
theorem Jc {w:World} {L:Loc} {s:Mm} {b o:Nat} {T:TypeId} {cs:Array Value} {tp:Int} {sl:Nat} (h:Z8 w L s) (hb:¬ L.has b) (hi:At w b o T cs (Vl 0 sl tp)) (c0 c1 c2 c3 c4 c5 c6 who:Int) (H C:Nat) (hn:1<s.n) (hsl:(sl:Int)<c1) (hw:s.wd 1=ZL H C) :
 Calls Tryz.prog 123 #[pP b o,eV c0 c1 c2 c3 c4 c5 c6 L.p who] w fun e w'=>e=.returned (.bool false)/\∃ cs',Z8 w' L ((s.by who).step 1 (s.wd 1))/\At w' b o T cs' (Vl 1 sl (ZL H C))/\Same o 3 cs cs'/\Only (L.and b) w w':=by
 have hn1:decide ((s.n:Int)<=1)=false:=decide_eq_false (by omega)
 obtain⟨hbv,hbb⟩:=nb h hi.lt
 obtain⟨X,hX⟩:∃ X,s.wd 1=X:=⟨_,rfl⟩
 rw[hX] at hw ⊢
 have HX:Hid (s.wd 1=ZL H C):=hX.trans hw
 subst hw
 clear hX
 go_enter Tryz.func123,Tryz.ntmps123
 go_wp2
 refine wo b h (fun _ g=>hi.grown g) ?_
 rintro W ⟨m1,i1,v1,o1⟩
 have e0:=fun N:Later W=>(v1.grown N.below).c0
 have e1:=fun N:Later W=>(v1.grown N.below).c1
 have e2:=fun N:Later W=>(v1.grown N.below).c2
 have e3:=fun N:Later W=>(v1.grown N.below).c3
 have e4:=fun N:Later W=>(v1.grown N.below).c4
 have e5:=fun N:Later W=>(v1.grown N.below).c5
 have e6:=fun N:Later W=>(v1.grown N.below).c6
 have e7:=fun N:Later W=>(v1.grown N.below).c7
 have e8:=fun N:Later W=>(v1.grown N.below).c8
 have e9:=fun N:Later W=>(i1.grown N.below).cell 1 rfl
 have hm:=fun N:Later W=>m1.below N.below
 haveI:=Later.exists W
 try simp only[iV]
 try simp only[pP]
 try simp only[eV]
 refine ZC (by kernel_rfl) (by kernel_rfl) ?_
 repeat (go_big_quiet_step ((first
  | (go_at_call 138;exact Calls.later (VL L _ _ _ _ _ _ _ _ _ _ true (decide_eq_true ⟨by omega,by omega⟩)))
  | (go_at_call 45;exact Calls.YR (X6 _))
  | (go_at_call 137;exact Calls.YR (len_any (hm _))))))
 refine wpQuiet_nil ?_
 rintro _ ⟨nq,rfl⟩
 clear e0 e1 e2 e3 e4 e5 e6 e7 e8 e9 hm hn1
 have i2:=i1.grown nq.below
 have m2:=m1.below nq.below
 have v2:=v1.grown nq.below
 have o2:Only (L.and b) w nq.now:=o1.trans (Only.ZZ nq.below)
 have k0:=i2.cell0 rfl
 have k2:=i2.cell 2 rfl
 have kf:=i2.fz
 clear m1 i1 v1 o1
 go_wp2
 refine ZW (fun W=>Z8 W L s/\At W b o T cs (Vl 0 sl tp)/\ZR W w.heap.size c0 c1 c2 c3 c4 c5 c6 L.p who/\Only (L.and b) w W) ⟨m2,i2,v2,o2⟩ ?_
 clear m2 i2 v2 o2 k0 k2 kf
 rintro W ⟨m1,i1,v1,o1⟩
 apply VJ (R:=ZV L b (o+2)) (WN L b o T cs (cs.setIfInBounds (o+2) (.int .u64 (ZL H C))) s ((s.by who).step 1 (ZL H C)) (Vl 0 sl tp) (Vl 0 sl (ZL H C))) [3,6] TN Zq ⟨m1.drew,i1.drew⟩;. kernel_rfl
 apply pV;. intros;apply ol;go_simp;exact gl
 apply pV;. intro w' hR _;apply ol;have y:=(v1.dn hR.only hbv hbb).yy;go_simp;exact gl
 apply pV;. intro w' hR _;apply ol;go_simp;exact cc (X6 _)
 apply pV (c:=.int .u64 (ZL H C));. intro w' hR _ hP;apply ol;go_simp;refine(ZF (s:=s) hP.1 _ _ _ _ _ _ _ _ 1 hn).mono ?_;rintro e w'' ⟨rfl,m2,o2⟩;rw[HX.out] at m2;exact⟨_,rfl,⟨ZV.Y7 o2 hb,m2,hP.2.only o2 hb⟩,by simp[Want.pred,HX.out]⟩
 iterate 2 (apply pV;. intros;apply ol;go_simp;exact gl)
 try simp only[pu,s0,s1]
 apply Un;. intro w' hR _ hP;apply ol;have z0:=hP.2.cell 2 rfl;have z1:=hP.2.fz;go_simp;exact⟨⟨ZV.set _ _,hP.1.ZX hb _ _,hP.2.set 2 _⟩,trivial⟩
 try simp only[pn]
 intro v w2 hR hP _
 obtain⟨m2,i2⟩:Z8 w2 L ((s.by who).step 1 (ZL H C))/\At w2 b o T (cs.setIfInBounds (o+2) (.int .u64 (ZL H C))) (Vl 0 sl (ZL H C)):=hP
 have o2:Only (L.and b) w w2:=o1.drew.trans hR.only
 have s2:Same o 3 cs (cs.setIfInBounds (o+2) (.int .u64 (ZL H C))):=Same.refl.set (by omega) _
 clear hR o1 v1 m1 i1 HX
 have k0:=i2.cell0 rfl
 have kf:=i2.fz
 go_wp2
 go_ret
 exact⟨rfl,_,m2.ZX hb _ _,i2.set0 _,s2.set (j:=o) (by omega) _,o2.set _ _⟩
theorem EZ {w:World} {L:Loc} {s:Mm} {b o:Nat} {T:TypeId} {cs:Array Value} {sl:Nat} (h:Z8 w L s) (hb:¬ L.has b) (H C A:Nat) (hi:At w b o T cs (Vl 1 sl (ZL H C))) (c0 c1 c2 c3 c4 c5 c6 who:Int) (hA:(6:Int)+c0+(sl:Int) * 2+1=A) (ht0:0<=c0) (Q8:c0<=8) (hs:sl<=65535) (hn:A<s.n) (hsl:(sl:Int)<c1) (hH:H<=65536) (hC:C<=1000000) :
 Calls Tryz.prog 123 #[pP b o,eV c0 c1 c2 c3 c4 c5 c6 L.p who] w fun e w'=>e=.returned (.bool false)/\∃ cs',Z8 w' L ((s.by who).step A (ZL H 0))/\At w' b o T cs' (Vl 2 sl (ZL H C))/\Same o 3 cs cs'/\Only (L.and b) w w':=by
 have hn1:decide ((s.n:Int)<=1)=false:=decide_eq_false (by omega)
 obtain⟨hbv,hbb⟩:=nb h hi.lt
 have HA:Hid ((6:Int)+c0+(sl:Int) * 2+1=A):=hA
 clear hA
 go_enter Tryz.func123,Tryz.ntmps123
 go_wp2
 refine ZW (fun W=>Z8 W L s/\At W b o T cs (Vl 1 sl (ZL H C))/\ZR W w.heap.size c0 c1 c2 c3 c4 c5 c6 L.p who/\Only (L.and b) w W) ⟨h.alloc _,hi.grown (Z4 (Below.refl _ _) _),ZR.new,(Only.refl _ _).alloc _⟩ ?_
 rintro W ⟨m1,i1,v1,o1⟩
 have e0:=fun N:Later W=>(v1.grown N.below).c0
 have e1:=fun N:Later W=>(v1.grown N.below).c1
 have e2:=fun N:Later W=>(v1.grown N.below).c2
 have e3:=fun N:Later W=>(v1.grown N.below).c3
 have e4:=fun N:Later W=>(v1.grown N.below).c4
 have e5:=fun N:Later W=>(v1.grown N.below).c5
 have e6:=fun N:Later W=>(v1.grown N.below).c6
 have e7:=fun N:Later W=>(v1.grown N.below).c7
 have e8:=fun N:Later W=>(v1.grown N.below).c8
 have e9:=fun N:Later W=>(i1.grown N.below).cell 1 rfl
 have hm:=fun N:Later W=>m1.below N.below
 haveI:=Later.exists W
 try simp only[iV]
 try simp only[pP]
 try simp only[eV]
 refine ZC (by kernel_rfl) (by kernel_rfl) ?_
 repeat (go_big_quiet_step ((first
  | (go_at_call 138;exact Calls.later (VL L _ _ _ _ _ _ _ _ _ _ true (decide_eq_true ⟨by omega,by omega⟩)))
  | (go_at_call 45;exact Calls.YR (X6 _))
  | (go_at_call 137;exact Calls.YR (len_any (hm _))))))
 refine wpQuiet_nil ?_
 rintro _ ⟨nq,rfl⟩
 clear e0 e1 e2 e3 e4 e5 e6 e7 e8 e9 hm hn1
 have i2:=i1.grown nq.below
 have m2:=m1.below nq.below
 have v2:=v1.grown nq.below
 have o2:Only (L.and b) w nq.now:=o1.trans (Only.ZZ nq.below)
 have k0:=i2.cell0 rfl
 have k2:=i2.cell 2 rfl
 have kf:=i2.fz
 clear m1 i1 v1 o1
 go_wp2_with (go_at_call 125;refine(O8 H C _ hH (by omega)).mono ?_;rintro e w1 ⟨rfl,rfl⟩)
 refine ZW (fun W=>Z8 W L s/\At W b o T cs (Vl 1 sl (ZL H C))/\ZR W w.heap.size c0 c1 c2 c3 c4 c5 c6 L.p who/\Only (L.and b) w W) ⟨m2,i2,v2,o2⟩ ?_
 clear m2 i2 v2 o2 k0 k2 kf
 rintro W ⟨m1,i1,v1,o1⟩
 apply VJ (R:=Only L.has) (fun p W'=>match p with | 0=>Z8 W' L s | _=>Z8 W' L ((s.by who).step A (ZL H 0))) [9] Gf (fun x y p h k=>by match p,k with | 0,k=>exact k.below h | p+1,k=>exact k.below h) m1.drew;. kernel_rfl
 apply pV;. intro w' hR _;apply ol;obtain⟨y0,y1,y2,y3,y4,y5,y6,y7,y8⟩:=(v1.grown ((Below.refl _ _).drew)).only hR hbv;go_simp;exact gl
 apply pV;. intro w' hR _;apply ol;obtain⟨y0,y1,y2,y3,y4,y5,y6,y7,y8⟩:=(v1.grown ((Below.refl _ _).drew)).only hR hbv;go_simp;exact gl
 iterate 3 (apply pV;. intros;apply ol;go_simp;exact gl)
 apply pV;. intro w' hR _;apply ol;have z:=(i1.drew.only hR hb).cell 1 rfl;go_simp;exact gl
 try simp only[pu,s0,s1]
 apply pV (c:=iV A);. intro w' hR _;apply ol;go_simp;refine(O7 L _ _ _ _ _ _ _ _ _ _ ⟨ht0,Q8⟩ (by omega)).mono ?_;rintro e w'' ⟨rfl,b9⟩;exact⟨_,rfl,b9,by rw[HA.out];rfl⟩
 apply pV;. intros;apply ol;go_simp;exact gl
 apply pV;. intro w' hR _;apply ol;go_simp;exact cc (LG H 0 _ hH (by omega))
 apply Un;. intro w' hR _ hP;apply ol;go_simp;refine(V3 (s:=s) hP _ _ _ _ _ _ _ _ A hn _).mono ?_;rintro e w'' ⟨rfl,m2,o2⟩;exact⟨_,rfl,⟨o2,m2⟩,trivial⟩
 try simp only[pu,s0,s1]
 try simp only[pn]
 intro v w2 hR hP _
 have m2:Z8 w2 L ((s.by who).step A (ZL H 0)):=hP
 have i2:=i1.drew.only hR hb
 have o2:Only (L.and b) w w2:=o1.drew.trans hR.Yd
 clear hR o1 v1 m1 i1 HA hP
 have k0:=i2.cell0 rfl
 have kf:=i2.fz
 go_wp2
 go_ret
 exact⟨rfl,_,m2.ZX hb _ _,i2.set0 _,Same.refl.set (j:=o) (by omega) _,o2.set _ _⟩
theorem EY {w:World} {L:Loc} {s:Mm} {b o:Nat} {T:TypeId} {cs:Array Value} {sl:Nat} (h:Z8 w L s) (hb:¬ L.has b) (H C:Nat) (hi:At w b o T cs (Vl 2 sl (ZL H C))) (c0 c1 c2 c3 c4 c5 c6 who:Int) (hn:1<s.n) (hsl:(sl:Int)<c1) (hs:sl<=65535) (hH:H<=65536) (hC:C<=1000000) (yes:s.wd 1=ZL H C) :
 Calls Tryz.prog 123 #[pP b o,eV c0 c1 c2 c3 c4 c5 c6 L.p who] w fun e w'=>e=.returned (.bool true)/\∃ cs',Z8 w' L ((s.by who).step 1 (ZL (sl+1) (C+1)))/\At w' b o T cs' (Vl 3 sl (ZL H C))/\Same o 3 cs cs'/\Only (L.and b) w w':=by
 have hn1:decide ((s.n:Int)<=1)=false:=decide_eq_false (by omega)
 obtain⟨hbv,hbb⟩:=nb h hi.lt
 have HW:Hid (s.wd 1=ZL H C):=yes
 clear yes
 go_enter Tryz.func123,Tryz.ntmps123
 go_wp2
 refine ZW (fun W=>Z8 W L s/\At W b o T cs (Vl 2 sl (ZL H C))/\ZR W w.heap.size c0 c1 c2 c3 c4 c5 c6 L.p who/\Only (L.and b) w W) ⟨h.alloc _,hi.grown (Z4 (Below.refl _ _) _),ZR.new,(Only.refl _ _).alloc _⟩ ?_
 rintro W ⟨m1,i1,v1,o1⟩
 have e0:=fun N:Later W=>(v1.grown N.below).c0
 have e1:=fun N:Later W=>(v1.grown N.below).c1
 have e2:=fun N:Later W=>(v1.grown N.below).c2
 have e3:=fun N:Later W=>(v1.grown N.below).c3
 have e4:=fun N:Later W=>(v1.grown N.below).c4
 have e5:=fun N:Later W=>(v1.grown N.below).c5
 have e6:=fun N:Later W=>(v1.grown N.below).c6
 have e7:=fun N:Later W=>(v1.grown N.below).c7
 have e8:=fun N:Later W=>(v1.grown N.below).c8
 have e9:=fun N:Later W=>(i1.grown N.below).cell 1 rfl
 have hm:=fun N:Later W=>m1.below N.below
 haveI:=Later.exists W
 try simp only[iV]
 try simp only[pP]
 try simp only[eV]
 refine ZC (by kernel_rfl) (by kernel_rfl) ?_
 repeat (go_big_quiet_step ((first
  | (go_at_call 138;exact Calls.later (VL L _ _ _ _ _ _ _ _ _ _ true (decide_eq_true ⟨by omega,by omega⟩)))
  | (go_at_call 45;exact Calls.YR (X6 _))
  | (go_at_call 137;exact Calls.YR (len_any (hm _))))))
 refine wpQuiet_nil ?_
 rintro _ ⟨nq,rfl⟩
 clear e0 e1 e2 e3 e4 e5 e6 e7 e8 e9 hm hn1
 have i2:=i1.grown nq.below
 have m2:=m1.below nq.below
 have v2:=v1.grown nq.below
 have o2:Only (L.and b) w nq.now:=o1.trans (Only.ZZ nq.below)
 have k0:=i2.cell0 rfl
 have k2:=i2.cell 2 rfl
 have kf:=i2.fz
 clear m1 i1 v1 o1
 go_wp2
 refine ZW (fun W=>Z8 W L s/\At W b o T cs (Vl 2 sl (ZL H C))/\ZR W w.heap.size c0 c1 c2 c3 c4 c5 c6 L.p who/\Only (L.and b) w W) ⟨m2,i2,v2,o2⟩ ?_
 clear m2 i2 v2 o2 k0 k2 kf
 rintro W ⟨m1,i1,v1,o1⟩
 apply VJ (R:=ZV L b o) (WN L b o T cs (cs.setIfInBounds o (iV 3)) s ((s.by who).step 1 (ZL (sl+1) (C+1))) (Vl 2 sl (ZL H C)) (Vl 3 sl (ZL H C))) [10,13] TN Zq ⟨m1.drew,i1.drew⟩;. kernel_rfl
 apply pV;. intros;apply ol;go_simp;exact gl
 apply pV;. intro w' hR _;apply ol;have y:=(v1.dn hR.only hbv hbb).yy;go_simp;exact gl
 iterate 3 (apply pV;. intros;apply ol;go_simp;exact gl)
 apply pV;. intro w' hR _;apply ol;have z:=hR.keep (j:=o+2) (by omega) (i1.drew.cell 2 rfl);go_simp;exact gl
 try simp only[pu,s0,s1]
 iterate 3 (apply pV;. intros;apply ol;go_simp;exact gl)
 apply pV;. intro w' hR _;apply ol;have z:=hR.keep (j:=o+1) (by omega) (i1.drew.cell 1 rfl);go_simp;exact gl
 apply pV (c:=iV 3);. intro w' hR _ hP;apply ol;go_simp;refine(LC (s:=s) hP.1 _ _ _ _ _ _ _ _ H C sl hn hH hC hs HW.out).mono ?_;rintro e w'' ⟨rfl,m2,o2⟩;exact⟨_,rfl,⟨ZV.Y7 o2 hb,m2,hP.2.only o2 hb⟩,rfl⟩
 apply pV;. intros;apply ol;go_simp;exact gl
 try simp only[pu,s0,s1]
 apply pV;. intros;apply ol;go_simp;exact gl
 apply Un;. intro w' hR _ hP;apply ol;have z0:=hP.2.cell0 rfl;have z1:=hP.2.fz;go_simp;exact⟨⟨ZV.set _ _,hP.1.ZX hb _ _,hP.2.set0 _⟩,trivial⟩
 try simp only[pu,s0,s1]
 try simp only[pn]
 intro v w2 hR hP _
 obtain⟨m2,i2⟩:Z8 w2 L ((s.by who).step 1 (ZL (sl+1) (C+1)))/\At w2 b o T (cs.setIfInBounds o (iV 3)) (Vl 3 sl (ZL H C)):=hP
 have o2:Only (L.and b) w w2:=o1.drew.trans hR.only
 have s2:Same o 3 cs (cs.setIfInBounds o (iV 3)):=Same.refl.set (by omega) _
 clear hR o1 v1 m1 i1 HW
 have k0:=i2.cell0 rfl
 have kf:=i2.fz
 go_wp2
 go_ret
 exact⟨rfl,_,m2,i2,s2,o2⟩
theorem BQ {w:World} {L:Loc} {s:Mm} {b o:Nat} {T:TypeId} {cs:Array Value} {sl:Nat} (h:Z8 w L s) (hb:¬ L.has b) (H C:Nat) (hi:At w b o T cs (Vl 2 sl (ZL H C))) (c0 c1 c2 c3 c4 c5 c6 who:Int) (hn:1<s.n) (hsl:(sl:Int)<c1) (hs:sl<=65535) (hH:H<=65536) (hC:C<=1000000) (no:¬ s.wd 1=ZL H C) :
 Calls Tryz.prog 123 #[pP b o,eV c0 c1 c2 c3 c4 c5 c6 L.p who] w fun e w'=>e=.returned (.bool false)/\∃ cs',Z8 w' L ((s.by who).step 1 (s.wd 1))/\At w' b o T cs' (Vl 0 sl (ZL H C))/\Same o 3 cs cs'/\Only (L.and b) w w':=by
 have hn1:decide ((s.n:Int)<=1)=false:=decide_eq_false (by omega)
 obtain⟨hbv,hbb⟩:=nb h hi.lt
 have HW:Hid (¬ s.wd 1=ZL H C):=no
 clear no
 go_enter Tryz.func123,Tryz.ntmps123
 go_wp2
 refine ZW (fun W=>Z8 W L s/\At W b o T cs (Vl 2 sl (ZL H C))/\ZR W w.heap.size c0 c1 c2 c3 c4 c5 c6 L.p who/\Only (L.and b) w W) ⟨h.alloc _,hi.grown (Z4 (Below.refl _ _) _),ZR.new,(Only.refl _ _).alloc _⟩ ?_
 rintro W ⟨m1,i1,v1,o1⟩
 have e0:=fun N:Later W=>(v1.grown N.below).c0
 have e1:=fun N:Later W=>(v1.grown N.below).c1
 have e2:=fun N:Later W=>(v1.grown N.below).c2
 have e3:=fun N:Later W=>(v1.grown N.below).c3
 have e4:=fun N:Later W=>(v1.grown N.below).c4
 have e5:=fun N:Later W=>(v1.grown N.below).c5
 have e6:=fun N:Later W=>(v1.grown N.below).c6
 have e7:=fun N:Later W=>(v1.grown N.below).c7
 have e8:=fun N:Later W=>(v1.grown N.below).c8
 have e9:=fun N:Later W=>(i1.grown N.below).cell 1 rfl
 have hm:=fun N:Later W=>m1.below N.below
 haveI:=Later.exists W
 try simp only[iV]
 try simp only[pP]
 try simp only[eV]
 refine ZC (by kernel_rfl) (by kernel_rfl) ?_
 repeat (go_big_quiet_step ((first
  | (go_at_call 138;exact Calls.later (VL L _ _ _ _ _ _ _ _ _ _ true (decide_eq_true ⟨by omega,by omega⟩)))
  | (go_at_call 45;exact Calls.YR (X6 _))
  | (go_at_call 137;exact Calls.YR (len_any (hm _))))))
 refine wpQuiet_nil ?_
 rintro _ ⟨nq,rfl⟩
 clear e0 e1 e2 e3 e4 e5 e6 e7 e8 e9 hm hn1
 have i2:=i1.grown nq.below
 have m2:=m1.below nq.below
 have v2:=v1.grown nq.below
 have o2:Only (L.and b) w nq.now:=o1.trans (Only.ZZ nq.below)
 have k0:=i2.cell0 rfl
 have k2:=i2.cell 2 rfl
 have kf:=i2.fz
 clear m1 i1 v1 o1
 go_wp2
 refine ZW (fun W=>Z8 W L s/\At W b o T cs (Vl 2 sl (ZL H C))/\ZR W w.heap.size c0 c1 c2 c3 c4 c5 c6 L.p who/\Only (L.and b) w W) ⟨m2,i2,v2,o2⟩ ?_
 clear m2 i2 v2 o2 k0 k2 kf
 rintro W ⟨m1,i1,v1,o1⟩
 apply VJ (R:=ZV L b o) (WN L b o T cs (cs.setIfInBounds o (iV 0)) s ((s.by who).step 1 (s.wd 1)) (Vl 2 sl (ZL H C)) (Vl 0 sl (ZL H C))) [10,13] TN Zq ⟨m1.drew,i1.drew⟩;. kernel_rfl
 apply pV;. intros;apply ol;go_simp;exact gl
 apply pV;. intro w' hR _;apply ol;have y:=(v1.dn hR.only hbv hbb).yy;go_simp;exact gl
 iterate 3 (apply pV;. intros;apply ol;go_simp;exact gl)
 apply pV;. intro w' hR _;apply ol;have z:=hR.keep (j:=o+2) (by omega) (i1.drew.cell 2 rfl);go_simp;exact gl
 try simp only[pu,s0,s1]
 iterate 3 (apply pV;. intros;apply ol;go_simp;exact gl)
 apply pV;. intro w' hR _;apply ol;have z:=hR.keep (j:=o+1) (by omega) (i1.drew.cell 1 rfl);go_simp;exact gl
 apply pV (c:=iV 0);. intro w' hR _ hP;apply ol;go_simp;refine(Jg (s:=s) hP.1 _ _ _ _ _ _ _ _ H C sl hn hH hC hs HW.out).mono ?_;rintro e w'' ⟨rfl,m2,o2⟩;exact⟨_,rfl,⟨ZV.Y7 o2 hb,m2,hP.2.only o2 hb⟩,rfl⟩
 apply pV;. intros;apply ol;go_simp;exact gl
 try simp only[pu,s0,s1]
 apply pV;. intros;apply ol;go_simp;exact gl
 apply Un;. intro w' hR _ hP;apply ol;have z0:=hP.2.cell0 rfl;have z1:=hP.2.fz;go_simp;exact⟨⟨ZV.set _ _,hP.1.ZX hb _ _,hP.2.set0 _⟩,trivial⟩
 try simp only[pu,s0,s1]
 try simp only[pn]
 intro v w2 hR hP _
 obtain⟨m2,i2⟩:Z8 w2 L ((s.by who).step 1 (s.wd 1))/\At w2 b o T (cs.setIfInBounds o (iV 0)) (Vl 0 sl (ZL H C)):=hP
 have o2:Only (L.and b) w w2:=o1.drew.trans hR.only
 have s2:Same o 3 cs (cs.setIfInBounds o (iV 0)):=Same.refl.set (by omega) _
 clear hR o1 v1 m1 i1 HW
 have k0:=i2.cell0 rfl
 have kf:=i2.fz
 go_wp2
 go_ret
 exact⟨rfl,_,m2,i2,s2,o2⟩
end Go.Proofs.YtpbghmeikcphnabGreat
