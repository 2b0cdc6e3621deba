import Derived.Test.YtibmjlefcaonnaaGreatPlaceSee
namespace Go.Proofs.YtibmjlefcaonnaaGreat
open Go.RowKit
set_option maxRecDepth 20000
def Qp (s:Mm) (A:Nat) (Z X:Int) (d:Bool) (nv:Int):Prop:=(s.wd A=Z/\d=true/\nv=X)\/(¬ s.wd A=Z/\d=false/\nv=s.wd A)
theorem Qp.Wi {s:Mm} {A:Nat} {Z X nv:Int} {d:Bool} (h:Qp s A Z X d nv) (who:Int):(s.by who).Wi A Z X=(s.by who).step A nv/\decide (s.wd A=Z)=d:=by
 rcases h with⟨e,rfl,rfl⟩ | ⟨e,rfl,rfl⟩
 . exact⟨if_pos e,decide_eq_true e⟩
 . exact⟨if_neg e,decide_eq_false e⟩
theorem NH {w:World} {L:Loc} {s:Mm} {b o:Nat} {T:TypeId} {cs:Array Value} {sn ws sa sb:Int} {ch κ:Nat} (h:Z7 w L s) (hb:¬ L.has b) (hi:At w b o T cs (Yv 3 κ sn ch ws sa sb)) (c0 c1 c2 c3 c4 c5 c6 who:Int) (A:Nat) (ar:Yr c0 c1 c2 c3) (hch:ch<=1000000) (hA:6+c0+c1 * 2+(ch:Int) * 3=A) (hn:A<s.n) (C:Ck) (σ:Nat) (hC:C.ok σ) (hσ:σ<=1000000) (hw:s.wd A=C.w) (hst:C.st=0) :
 Calls Tryz.prog 139 #[pP b o,eV c0 c1 c2 c3 c4 c5 c6 L.p who] w fun e w'=>e=.returned (.tuple #[])/\Z7 w' L ((s.by who).step A (s.wd A))/\Only (L.and b) w w'/\∃ cs',At w' b o T cs' (Yv 4 κ sn ch C.w sa sb)/\Same o 7 cs cs':=by
 obtain⟨hbv,hbb⟩:=nb h hi.lt
 have HA:Hid (6+c0+c1 * 2+(ch:Int) * 3=A):=hA
 have cw:=fun w=>Un C σ hC (by omega) w
 rw[hw]
 obtain⟨Z,hZ⟩:∃ Z,C.w=Z:=⟨_,rfl⟩
 rw[hZ] at cw hw ⊢
 have HX:Hid (s.wd A=Z):=hw
 clear hw hA
 have fl:∀ (a1 a2 a3 a4:Value) (w:World),(Instr.field 194 (.agg #[a1,a2,a3,a4]) 0).run Tryz.prog w=.ok a1 w:=fun a1 a2 a3 a4 w=>by kernel_rfl
 rw[hst] at cw
 go_enter Tryz.func139,Tryz.ntmps139
 go_wp2
 refine wo b h (fun _ g=>hi.grown g) ?_
 rintro W ⟨m1,i1,v1,o1⟩
 apply QU (R:=ZQ L b (o+4)) (UC L b o T cs (cs.setIfInBounds (o+4) (.int .u64 Z)) s ((s.by who).step A Z) (Yv 3 κ sn ch ws sa sb) (Yv 3 κ sn ch Z sa sb)) [5,8] Nl Y4 ⟨m1.drew,i1.drew⟩;. kernel_rfl
 apply pV;. intros;apply ol;go_simp;exact gl
 apply pV;. intro w' hR _;apply ol;have y:=(v1.dn hR.only hbv hbb).yy;go_simp;exact gl
 apply pV;. intros;apply ol;go_simp;exact gl
 apply pV;. intro w' hR _;apply ol;have y:=(v1.dn hR.only hbv hbb).yy;go_simp;exact gl
 apply pV;. intro w' hR _;apply ol;go_simp;exact cb (Um (hR.keep (j:=o+3) (by omega) (i1.drew.cell 3 rfl)) _ _ _ _ _ _ _ _ A ar hch HA.out)
 apply pV (c:=.int .u64 Z);. intro w' hR _ hP;apply ol;go_simp;refine(Zh (s:=s) hP.1 _ _ _ _ _ _ _ _ A hn).mono ?_;rintro e w'' ⟨rfl,m2,o2⟩;rw[HX.out] at m2;exact⟨_,rfl,⟨ZQ.Yn o2 hb,m2,hP.2.only o2 hb⟩,by simp[Want.pred,HX.out]⟩
 try simp only[pu,s0,s1]
 iterate 2 (apply pV;. intros;apply ol;go_simp;exact gl)
 apply OZ;. intro w' hR _ hP;apply ol;have z0:=hP.2.cell 4 rfl;have z1:=hP.2.fz;go_simp;exact⟨⟨ZQ.set _ _,hP.1.ZX hb _ _,hP.2.set 4 _⟩,trivial⟩
 try simp only[pu,s0,s1]
 try simp only[pn]
 intro v w2 hR hP _
 obtain⟨m2,i2⟩:Z7 w2 L ((s.by who).step A Z)/\At w2 b o T (cs.setIfInBounds (o+4) (.int .u64 Z)) (Yv 3 κ sn ch Z sa sb):=hP
 have o2:Only (L.and b) w w2:=o1.drew.trans hR.only
 have v2:=v1.dn hR.only hbv hbb
 have s2:Same o 7 cs (cs.setIfInBounds (o+4) (.int .u64 Z)):=Same.refl.set (by omega) _
 clear hR o1 v1 m1 i1
 have k4:=i2.cell 4 rfl
 go_wp2_with (go_at_call 150;refine(cw _).mono ?_;rintro e w3 ⟨rfl,b3⟩;have i4:=i2.grown b3;have m4:=m2.below b3;have v4:=v2.grown b3;have o4:=o2.trans (Only.ZZ b3);have k0:=i4.cell0 rfl;have kf:=i4.fz)
 go_end0
 exact⟨rfl,m4.ZX hb _ _,o4.set _ _,_,i4.set0 _,s2.set (j:=o) (by omega) _⟩
theorem KT {w:World} {L:Loc} {s:Mm} {b o:Nat} {T:TypeId} {cs:Array Value} {sn ws sa sb:Int} {ch κ:Nat} (h:Z7 w L s) (hb:¬ L.has b) (hi:At w b o T cs (Yv 3 κ sn ch ws sa sb)) (c0 c1 c2 c3 c4 c5 c6 who:Int) (A:Nat) (ar:Yr c0 c1 c2 c3) (hch:ch<=1000000) (hA:6+c0+c1 * 2+(ch:Int) * 3=A) (hn:A<s.n) (C:Ck) (σ:Nat) (hC:C.ok σ) (hσ:σ<=1000000) (hw:s.wd A=C.w) (hst:¬ C.st=0) (nx':Int) (hnx:(if c2<=(ch:Int)+1 then 8 else 3)=nx') :
 Calls Tryz.prog 139 #[pP b o,eV c0 c1 c2 c3 c4 c5 c6 L.p who] w fun e w'=>e=.returned (.tuple #[])/\Z7 w' L ((s.by who).step A (s.wd A))/\Only (L.and b) w w'/\∃ cs',At w' b o T cs' (Yv nx' κ sn ((ch:Int)+1) C.w sa sb)/\Same o 7 cs cs':=by
 obtain⟨hbv,hbb⟩:=nb h hi.lt
 have HA:Hid (6+c0+c1 * 2+(ch:Int) * 3=A):=hA
 have cw:=fun w=>Un C σ hC (by omega) w
 rw[hw]
 obtain⟨Z,hZ⟩:∃ Z,C.w=Z:=⟨_,rfl⟩
 rw[hZ] at cw hw ⊢
 have HX:Hid (s.wd A=Z):=hw
 clear hw hA
 have fl:∀ (a1 a2 a3 a4:Value) (w:World),(Instr.field 194 (.agg #[a1,a2,a3,a4]) 0).run Tryz.prog w=.ok a1 w:=fun a1 a2 a3 a4 w=>by kernel_rfl
 have hst':¬ (C.st:Int)=0:=by omega
 have hst2:((C.st:Int) != 0)=true:=by simp;omega
 clear hst
 go_enter Tryz.func139,Tryz.ntmps139
 go_wp2
 refine wo b h (fun _ g=>hi.grown g) ?_
 rintro W ⟨m1,i1,v1,o1⟩
 apply QU (R:=ZQ L b (o+4)) (UC L b o T cs (cs.setIfInBounds (o+4) (.int .u64 Z)) s ((s.by who).step A Z) (Yv 3 κ sn ch ws sa sb) (Yv 3 κ sn ch Z sa sb)) [5,8] Nl Y4 ⟨m1.drew,i1.drew⟩;. kernel_rfl
 apply pV;. intros;apply ol;go_simp;exact gl
 apply pV;. intro w' hR _;apply ol;have y:=(v1.dn hR.only hbv hbb).yy;go_simp;exact gl
 apply pV;. intros;apply ol;go_simp;exact gl
 apply pV;. intro w' hR _;apply ol;have y:=(v1.dn hR.only hbv hbb).yy;go_simp;exact gl
 apply pV;. intro w' hR _;apply ol;go_simp;exact cb (Um (hR.keep (j:=o+3) (by omega) (i1.drew.cell 3 rfl)) _ _ _ _ _ _ _ _ A ar hch HA.out)
 apply pV (c:=.int .u64 Z);. intro w' hR _ hP;apply ol;go_simp;refine(Zh (s:=s) hP.1 _ _ _ _ _ _ _ _ A hn).mono ?_;rintro e w'' ⟨rfl,m2,o2⟩;rw[HX.out] at m2;exact⟨_,rfl,⟨ZQ.Yn o2 hb,m2,hP.2.only o2 hb⟩,by simp[Want.pred,HX.out]⟩
 try simp only[pu,s0,s1]
 iterate 2 (apply pV;. intros;apply ol;go_simp;exact gl)
 apply OZ;. intro w' hR _ hP;apply ol;have z0:=hP.2.cell 4 rfl;have z1:=hP.2.fz;go_simp;exact⟨⟨ZQ.set _ _,hP.1.ZX hb _ _,hP.2.set 4 _⟩,trivial⟩
 try simp only[pu,s0,s1]
 try simp only[pn]
 intro v w2 hR hP _
 obtain⟨m2,i2⟩:Z7 w2 L ((s.by who).step A Z)/\At w2 b o T (cs.setIfInBounds (o+4) (.int .u64 Z)) (Yv 3 κ sn ch Z sa sb):=hP
 have o2:Only (L.and b) w w2:=o1.drew.trans hR.only
 have v2:=v1.dn hR.only hbv hbb
 have s2:Same o 7 cs (cs.setIfInBounds (o+4) (.int .u64 Z)):=Same.refl.set (by omega) _
 clear hR o1 v1 m1 i1
 have k4:=i2.cell 4 rfl
 go_wp2_with (go_at_call 150;refine(cw _).mono ?_;rintro e w3 ⟨rfl,b3⟩;have i4:=i2.grown b3;have m4:=m2.below b3;have v4:=v2.grown b3;have o4:=o2.trans (Only.ZZ b3);have k0:=i4.cell0 rfl;have kf:=i4.fz)
 refine ZT (fun W=>Z7 W L ((s.by who).step A Z)/\At W b o T (cs.setIfInBounds (o+4) (.int .u64 Z)) (Yv 3 κ sn ch Z sa sb)/\ZP W w.heap.size c0 c1 c2 c3 c4 c5 c6 L.p who/\Only (L.and b) w W) ⟨m4,i4,v4,o4⟩ ?_
 clear m2 i2 v2 o2 k4 b3 i4 m4 v4 o4 k0 kf
 rintro W ⟨m1,i1,v1,o1⟩
 apply Xk 7;. kernel_rfl
 apply rV;. intros;apply ol;go_simp;exact gl
 apply rV;. intro w' hg _;apply ol;have y:=(v1.dg hg).yy;go_simp;exact gl
 iterate 3 (apply rV;. intros;apply ol;go_simp;exact gl)
 apply rV;. intro w' hg _;apply ol;have z:=(i1.drew.grown hg).cell 3 rfl;go_simp;exact gl
 try simp only[pu,s0,s1]
 apply XQ (c:=iV ((ch:Int)+1));. intro w' hg _;apply ol;go_simp;exact⟨Grown.refl _,by simp only[Want.pred];rw[IntKind.wrap_i64];exact congrArg (Value.int .i64) (by omega)⟩
 try simp only[pu,s0,s1]
 intro w5 hg _
 have m5:=m1.drew.below hg
 have i5:=i1.drew.grown hg
 have v5:=v1.dg hg
 have o5:=o1.og hg
 clear hg m1 i1 v1 o1
 go_wp2_with (go_at_call 148;refine(Vh m5 hb i5 _ _ _ _ _ _ _ _ _ nx' hnx).mono ?_;rintro e w6 ⟨rfl,m6,o6,WN,i6,s6⟩)
 refine bodyPost_ret (results_none rfl _ _ _) rfl ?_
 exact⟨rfl,m6,o5.trans o6,WN,i6,s2.trans s6⟩
end Go.Proofs.YtibmjlefcaonnaaGreat
