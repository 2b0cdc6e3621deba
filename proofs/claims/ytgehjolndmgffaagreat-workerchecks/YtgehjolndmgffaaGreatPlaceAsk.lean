import Derived.Test.YtgehjolndmgffaaGreatPlaceSee
namespace Go.Proofs.YtgehjolndmgffaaGreat
open Go.RowKit
section
set_option maxRecDepth 20000
def Qk (s:Mm) (A:Nat) (Z X:Int) (d:Bool) (nv:Int):Prop:=(s.wd A=Z/\d=true/\nv=X)\/(¬ s.wd A=Z/\d=false/\nv=s.wd A)
theorem Qk.Wq {s:Mm} {A:Nat} {Z X nv:Int} {d:Bool} (h:Qk s A Z X d nv) (who:Int):(s.by who).Wq A Z X=(s.by who).step A nv/\decide (s.wd A=Z)=d:=by
 rcases h with⟨e,rfl,rfl⟩ | ⟨e,rfl,rfl⟩
 . exact⟨if_pos e,decide_eq_true e⟩
 . exact⟨if_neg e,decide_eq_false e⟩
theorem Nu {w:World} {L:Loc} {s:Mm} {b o:Nat} {T:TypeId} {cs:Array Value} {sn ws sa sb:Int} {ch κ:Nat} (h:Z8 w L s) (hb:¬ L.has b) (hi:At w b o T cs (Yw 3 κ sn ch ws sa sb)) (c0 c1 c2 c3 c4 c5 c6 who:Int) (A:Nat) (ar:Yu c0 c1 c2 c3) (hch:ch<=1000000) (hA:6+c0+c1 * 2+(ch:Int) * 3=A) (hn:A<s.n) (C:Ck) (σ:Nat) (hC:C.ok σ) (hσ:σ<=1000000) (hw:s.wd A=C.w) (hst:C.st=0) :
 Calls Tryz.prog 163 #[pP b o,eV c0 c1 c2 c3 c4 c5 c6 L.p who] w fun e w'=>e=.returned (.tuple #[])/\Z8 w' L ((s.by who).step A (s.wd A))/\Only (L.and b) w w'/\∃ cs',At w' b o T cs' (Yw 4 κ sn ch C.w sa sb)/\Same o 7 cs cs':=by
 obtain⟨hbv,hbb⟩:=nb h hi.lt
 have HA:Hid (6+c0+c1 * 2+(ch:Int) * 3=A):=hA
 have cw:=fun w=>UC C σ hC (by omega) w
 rw[hw]
 obtain⟨Z,hZ⟩:∃ Z,C.w=Z:=⟨_,rfl⟩
 rw[hZ] at cw hw ⊢
 have HX:Hid (s.wd A=Z):=hw
 clear hw hA
 have fl:∀ (a1 a2 a3 a4:Value) (w:World),(Instr.field 225 (.agg #[a1,a2,a3,a4]) 0).run Tryz.prog w=.ok a1 w:=fun a1 a2 a3 a4 w=>by kernel_rfl
 rw[hst] at cw
 go_enter Tryz.func163,Tryz.ntmps163
 go_wp2
 refine wo b h (fun _ g=>hi.grown g) ?_
 rintro W ⟨m1,i1,v1,o1⟩
 apply QO (R:=ZO L b (o+4)) (UL L b o T cs (cs.setIfInBounds (o+4) (.int .u64 Z)) s ((s.by who).step A Z) (Yw 3 κ sn ch ws sa sb) (Yw 3 κ sn ch Z sa sb)) [5,8] MQ Y8 ⟨m1.drew,i1.drew⟩;. kernel_rfl
 apply pV;. intros;apply ol;go_simp;exact gl
 apply pV;. intro w' hR _;apply ol;have y:=(v1.dn hR.only hbv hbb).yy;go_simp;exact gl
 apply pV;. intros;apply ol;go_simp;exact gl
 apply pV;. intro w' hR _;apply ol;have y:=(v1.dn hR.only hbv hbb).yy;go_simp;exact gl
 apply pV;. intro w' hR _;apply ol;go_simp;exact cb (UB (hR.keep (j:=o+3) (by omega) (i1.drew.cell 3 rfl)) _ _ _ _ _ _ _ _ A ar hch HA.out)
 apply pV (c:=.int .u64 Z);. intro w' hR _ hP;apply ol;go_simp;refine(Zj (s:=s) hP.1 _ _ _ _ _ _ _ _ A hn).mono ?_;rintro e w'' ⟨rfl,m2,o2⟩;rw[HX.out] at m2;exact⟨_,rfl,⟨ZO.Yq o2 hb,m2,hP.2.only o2 hb⟩,by simp[Want.pred,HX.out]⟩
 try simp only[pu,s0,s1]
 iterate 2 (apply pV;. intros;apply ol;go_simp;exact gl)
 apply OE;. intro w' hR _ hP;apply ol;have z0:=hP.2.cell 4 rfl;have z1:=hP.2.fz;go_simp;exact⟨⟨ZO.set _ _,hP.1.ZY hb _ _,hP.2.set 4 _⟩,trivial⟩
 try simp only[pu,s0,s1]
 try simp only[pn]
 intro v w2 hR hP _
 obtain⟨m2,i2⟩:Z8 w2 L ((s.by who).step A Z)/\At w2 b o T (cs.setIfInBounds (o+4) (.int .u64 Z)) (Yw 3 κ sn ch Z sa sb):=hP
 have o2:Only (L.and b) w w2:=o1.drew.trans hR.only
 have v2:=v1.dn hR.only hbv hbb
 have s2:Same o 7 cs (cs.setIfInBounds (o+4) (.int .u64 Z)):=Same.refl.set (by omega) _
 clear hR o1 v1 m1 i1
 have k4:=i2.cell 4 rfl
 go_wp2_with (go_at_call 174;refine(cw _).mono ?_;rintro e w3 ⟨rfl,b3⟩;have i4:=i2.grown b3;have m4:=m2.below b3;have v4:=v2.grown b3;have o4:=o2.trans (Only.Z5 b3);have k0:=i4.cell0 rfl;have kf:=i4.fz)
 go_end0
 exact⟨rfl,m4.ZY hb _ _,o4.set _ _,_,i4.set0 _,s2.set (j:=o) (by omega) _⟩
theorem KL {w:World} {L:Loc} {s:Mm} {b o:Nat} {T:TypeId} {cs:Array Value} {sn ws sa sb:Int} {ch κ:Nat} (h:Z8 w L s) (hb:¬ L.has b) (hi:At w b o T cs (Yw 3 κ sn ch ws sa sb)) (c0 c1 c2 c3 c4 c5 c6 who:Int) (A:Nat) (ar:Yu c0 c1 c2 c3) (hch:ch<=1000000) (hA:6+c0+c1 * 2+(ch:Int) * 3=A) (hn:A<s.n) (C:Ck) (σ:Nat) (hC:C.ok σ) (hσ:σ<=1000000) (hw:s.wd A=C.w) (hst:¬ C.st=0) (nx':Int) (hnx:(if c2<=(ch:Int)+1 then 8 else 3)=nx') :
 Calls Tryz.prog 163 #[pP b o,eV c0 c1 c2 c3 c4 c5 c6 L.p who] w fun e w'=>e=.returned (.tuple #[])/\Z8 w' L ((s.by who).step A (s.wd A))/\Only (L.and b) w w'/\∃ cs',At w' b o T cs' (Yw nx' κ sn ((ch:Int)+1) C.w sa sb)/\Same o 7 cs cs':=by
 obtain⟨hbv,hbb⟩:=nb h hi.lt
 have HA:Hid (6+c0+c1 * 2+(ch:Int) * 3=A):=hA
 have cw:=fun w=>UC C σ hC (by omega) w
 rw[hw]
 obtain⟨Z,hZ⟩:∃ Z,C.w=Z:=⟨_,rfl⟩
 rw[hZ] at cw hw ⊢
 have HX:Hid (s.wd A=Z):=hw
 clear hw hA
 have fl:∀ (a1 a2 a3 a4:Value) (w:World),(Instr.field 225 (.agg #[a1,a2,a3,a4]) 0).run Tryz.prog w=.ok a1 w:=fun a1 a2 a3 a4 w=>by kernel_rfl
 have hst':¬ (C.st:Int)=0:=by omega
 have hst2:((C.st:Int) != 0)=true:=by simp;omega
 clear hst
 go_enter Tryz.func163,Tryz.ntmps163
 go_wp2
 refine wo b h (fun _ g=>hi.grown g) ?_
 rintro W ⟨m1,i1,v1,o1⟩
 apply QO (R:=ZO L b (o+4)) (UL L b o T cs (cs.setIfInBounds (o+4) (.int .u64 Z)) s ((s.by who).step A Z) (Yw 3 κ sn ch ws sa sb) (Yw 3 κ sn ch Z sa sb)) [5,8] MQ Y8 ⟨m1.drew,i1.drew⟩;. kernel_rfl
 apply pV;. intros;apply ol;go_simp;exact gl
 apply pV;. intro w' hR _;apply ol;have y:=(v1.dn hR.only hbv hbb).yy;go_simp;exact gl
 apply pV;. intros;apply ol;go_simp;exact gl
 apply pV;. intro w' hR _;apply ol;have y:=(v1.dn hR.only hbv hbb).yy;go_simp;exact gl
 apply pV;. intro w' hR _;apply ol;go_simp;exact cb (UB (hR.keep (j:=o+3) (by omega) (i1.drew.cell 3 rfl)) _ _ _ _ _ _ _ _ A ar hch HA.out)
 apply pV (c:=.int .u64 Z);. intro w' hR _ hP;apply ol;go_simp;refine(Zj (s:=s) hP.1 _ _ _ _ _ _ _ _ A hn).mono ?_;rintro e w'' ⟨rfl,m2,o2⟩;rw[HX.out] at m2;exact⟨_,rfl,⟨ZO.Yq o2 hb,m2,hP.2.only o2 hb⟩,by simp[Want.pred,HX.out]⟩
 try simp only[pu,s0,s1]
 iterate 2 (apply pV;. intros;apply ol;go_simp;exact gl)
 apply OE;. intro w' hR _ hP;apply ol;have z0:=hP.2.cell 4 rfl;have z1:=hP.2.fz;go_simp;exact⟨⟨ZO.set _ _,hP.1.ZY hb _ _,hP.2.set 4 _⟩,trivial⟩
 try simp only[pu,s0,s1]
 try simp only[pn]
 intro v w2 hR hP _
 obtain⟨m2,i2⟩:Z8 w2 L ((s.by who).step A Z)/\At w2 b o T (cs.setIfInBounds (o+4) (.int .u64 Z)) (Yw 3 κ sn ch Z sa sb):=hP
 have o2:Only (L.and b) w w2:=o1.drew.trans hR.only
 have v2:=v1.dn hR.only hbv hbb
 have s2:Same o 7 cs (cs.setIfInBounds (o+4) (.int .u64 Z)):=Same.refl.set (by omega) _
 clear hR o1 v1 m1 i1
 have k4:=i2.cell 4 rfl
 go_wp2_with (go_at_call 174;refine(cw _).mono ?_;rintro e w3 ⟨rfl,b3⟩;have i4:=i2.grown b3;have m4:=m2.below b3;have v4:=v2.grown b3;have o4:=o2.trans (Only.Z5 b3);have k0:=i4.cell0 rfl;have kf:=i4.fz)
 refine ZT (fun W=>Z8 W L ((s.by who).step A Z)/\At W b o T (cs.setIfInBounds (o+4) (.int .u64 Z)) (Yw 3 κ sn ch Z sa sb)/\ZP W w.heap.size c0 c1 c2 c3 c4 c5 c6 L.p who/\Only (L.and b) w W) ⟨m4,i4,v4,o4⟩ ?_
 clear m2 i2 v2 o2 k4 b3 i4 m4 v4 o4 k0 kf
 rintro W ⟨m1,i1,v1,o1⟩
 apply Xy 7;. kernel_rfl
 apply rV;. intros;apply ol;go_simp;exact gl
 apply rV;. intro w' hg _;apply ol;have y:=(v1.dg hg).yy;go_simp;exact gl
 iterate 3 (apply rV;. intros;apply ol;go_simp;exact gl)
 apply rV;. intro w' hg _;apply ol;have z:=(i1.drew.grown hg).cell 3 rfl;go_simp;exact gl
 try simp only[pu,s0,s1]
 apply XW (c:=iV ((ch:Int)+1));. intro w' hg _;apply ol;go_simp;exact⟨Grown.refl _,by simp only[Want.pred];rw[IntKind.wrap_i64];exact congrArg (Value.int .i64) (by omega)⟩
 try simp only[pu,s0,s1]
 intro w5 hg _
 have m5:=m1.drew.below hg
 have i5:=i1.drew.grown hg
 have v5:=v1.dg hg
 have o5:=o1.og hg
 clear hg m1 i1 v1 o1
 go_wp2_with (go_at_call 172;refine(Vz m5 hb i5 _ _ _ _ _ _ _ _ _ nx' hnx).mono ?_;rintro e w6 ⟨rfl,m6,o6,WR,i6,s6⟩)
 refine bodyPost_ret (results_none rfl _ _ _) rfl ?_
 exact⟨rfl,m6,o5.trans o6,WR,i6,s2.trans s6⟩
end
section
set_option maxRecDepth 20000
theorem UD {w:World} {L:Loc} {s:Mm} {b o:Nat} {T:TypeId} {cs:Array Value} {sn ws sa sb:Int} {ch κ:Nat} (h:Z8 w L s) (hb:¬ L.has b) (hi:At w b o T cs (Yw 1 κ sn ch ws sa sb)) (c0 c1 c2 c3 c4 c5 c6 who:Int) (A:Nat) (ar:Yu c0 c1 c2 c3) (hch:ch<=1000000) (hA:6+c0+c1 * 2+(ch:Int) * 3=A) (hn:A<s.n) (C:Ck) (σ:Nat) (hC:C.ok σ) (hσ:σ<=1000000) (hw:s.wd A=C.w) (hκ:κ<4) {nx' ch':Int} (H:(C.st=1/\C.cl=κ/\(C.us:Int)+(room κ:Int)<=c3/\nx'=2/\ch'=ch)\/(¬ (C.st=1/\C.cl=κ/\(C.us:Int)+(room κ:Int)<=c3)/\(if c2<=0 then 8 else 3)=nx'/\ch'=0)) :
 Calls Tryz.prog 161 #[pP b o,eV c0 c1 c2 c3 c4 c5 c6 L.p who] w fun e w'=>e=.returned (.tuple #[])/\Z8 w' L ((s.by who).step A (s.wd A))/\Only (L.and b) w w'/\∃ cs',At w' b o T cs' (Yw nx' κ sn ch' C.w sa sb)/\Same o 7 cs cs':=by
 obtain⟨hbv,hbb⟩:=nb h hi.lt
 have HA:Hid (6+c0+c1 * 2+(ch:Int) * 3=A):=hA
 have cw:=fun w=>UC C σ hC (by omega) w
 rw[hw]
 obtain⟨Z,hZ⟩:∃ Z,C.w=Z:=⟨_,rfl⟩
 rw[hZ] at cw hw ⊢
 have HX:Hid (s.wd A=Z):=hw
 clear hw hA
 have hr:=Yg κ
 have hu:=hC.us
 clear hC
 go_enter Tryz.func161,Tryz.ntmps161
 go_wp2
 refine wo b h (fun _ g=>hi.grown g) ?_
 rintro W ⟨m1,i1,v1,o1⟩
 apply QO (R:=ZO L b (o+4)) (UL L b o T cs (cs.setIfInBounds (o+4) (.int .u64 Z)) s ((s.by who).step A Z) (Yw 1 κ sn ch ws sa sb) (Yw 1 κ sn ch Z sa sb)) [5,8] MQ Y8 ⟨m1.drew,i1.drew⟩;. kernel_rfl
 apply pV;. intros;apply ol;go_simp;exact gl
 apply pV;. intro w' hR _;apply ol;have y:=(v1.dn hR.only hbv hbb).yy;go_simp;exact gl
 apply pV;. intros;apply ol;go_simp;exact gl
 apply pV;. intro w' hR _;apply ol;have y:=(v1.dn hR.only hbv hbb).yy;go_simp;exact gl
 apply pV;. intro w' hR _;apply ol;go_simp;exact cb (UB (hR.keep (j:=o+3) (by omega) (i1.drew.cell 3 rfl)) _ _ _ _ _ _ _ _ A ar hch HA.out)
 apply pV (c:=.int .u64 Z);. intro w' hR _ hP;apply ol;go_simp;refine(Zj (s:=s) hP.1 _ _ _ _ _ _ _ _ A hn).mono ?_;rintro e w'' ⟨rfl,m2,o2⟩;rw[HX.out] at m2;exact⟨_,rfl,⟨ZO.Yq o2 hb,m2,hP.2.only o2 hb⟩,by simp[Want.pred,HX.out]⟩
 try simp only[pu,s0,s1]
 iterate 2 (apply pV;. intros;apply ol;go_simp;exact gl)
 apply OE;. intro w' hR _ hP;apply ol;have z0:=hP.2.cell 4 rfl;have z1:=hP.2.fz;go_simp;exact⟨⟨ZO.set _ _,hP.1.ZY hb _ _,hP.2.set 4 _⟩,trivial⟩
 try simp only[pu,s0,s1]
 try simp only[pn]
 intro v w2 hR hP _
 obtain⟨m2,i2⟩:Z8 w2 L ((s.by who).step A Z)/\At w2 b o T (cs.setIfInBounds (o+4) (.int .u64 Z)) (Yw 1 κ sn ch Z sa sb):=hP
 have o2:Only (L.and b) w w2:=o1.drew.trans hR.only
 have v2:=v1.dn hR.only hbv hbb
 have s2:Same o 7 cs (cs.setIfInBounds (o+4) (.int .u64 Z)):=Same.refl.set (by omega) _
 clear hR o1 v1 m1 i1
 have k4:=i2.cell 4 rfl
 go_wp2_with (go_at_call 174;refine(cw _).mono ?_;rintro e w3 ⟨rfl,b3⟩;have i4:=i2.grown b3;have m4:=m2.below b3;have v4:=v2.grown b3;have o4:=o2.trans (Only.Z5 b3))
 obtain⟨B,hB⟩:∃ B,w3.heap.size=B:=⟨_,rfl⟩
 have j4:=At.new w3 225 [iV C.st,iV C.cl,iV C.us,iV C.sp]
 rw[hB] at j4
 refine ZT (fun W=>Z8 W L ((s.by who).step A Z)/\At W b o T (cs.setIfInBounds (o+4) (.int .u64 Z)) (Yw 1 κ sn ch Z sa sb)/\ZP W w.heap.size c0 c1 c2 c3 c4 c5 c6 L.p who/\Only (L.and b) w W/\At W B 0 225 _ [iV C.st,iV C.cl,iV C.us,iV C.sp]) ⟨m4.alloc _,i4.grown (Z7 (Below.refl _ _) _),v4.grown (Z7 (Below.refl _ _) _),o4.alloc _,j4⟩ ?_
 clear m2 i2 v2 o2 k4 b3 i4 m4 v4 o4 j4 HX HA
 rintro W ⟨m1,i1,v1,o1,j1⟩
 have g0:=fun N:Later W=>(j1.grown N.below).at0 0 rfl
 have g3:=fun N:Later W=>(j1.grown N.below).at0 1 rfl
 have g4:=fun N:Later W=>(j1.grown N.below).at0 2 rfl
 have e0:=fun N:Later W=>(v1.grown N.below).c0
 have e1:=fun N:Later W=>(v1.grown N.below).c1
 have e2:=fun N:Later W=>(v1.grown N.below).c2
 have e3:=fun N:Later W=>(v1.grown N.below).c3
 have e4:=fun N:Later W=>(v1.grown N.below).c4
 have e5:=fun N:Later W=>(v1.grown N.below).c5
 have e6:=fun N:Later W=>(v1.grown N.below).c6
 have e7:=fun N:Later W=>(v1.grown N.below).c7
 have e8:=fun N:Later W=>(v1.grown N.below).c8
 have f1:=fun N:Later W=>(i1.grown N.below).cell 1 rfl
 haveI:=Later.exists W
 rcases H with⟨h1,h2,h3,rfl,rfl⟩ | ⟨hno,hnx,rfl⟩
 . have g1:((C.st:Int) != 1)=false:=by simp;omega
   have g2:((C.cl:Int) != (κ:Int))=false:=by simp;omega
   try simp only[iV]
   try simp only[pP]
   try simp only[eV]
   refine Zp (by kernel_rfl) (by kernel_rfl) ?_
   repeat (go_big_quiet_step ((go_at_call 151;exact Calls.Yy (VJ κ hκ _))))
   refine wpQuiet_nil ?_
   rintro _ ⟨nq,rfl⟩
   clear e0 e1 e2 e3 e4 e5 e6 e7 e8 f1
   have i4:=i1.grown nq.below
   have m4:=m1.below nq.below
   have v4:=v1.grown nq.below
   have o4:Only (L.and b) w nq.now:=o1.trans (Only.Z5 nq.below)
   clear i1 m1 o1 v1 j1 g0 g3 g4
   have k0:=i4.cell0 rfl
   have kf:=i4.fz
   go_wp2
   go_end0
   exact⟨rfl,m4.ZY hb _ _,o4.set _ _,_,i4.set0 _,s2.set (j:=o) (by omega) _⟩
 . have hh:((((C.st:Int) != 1)=true)\/(((C.st:Int) != 1)=false/\((C.cl:Int) != (κ:Int))=true))\/(((C.st:Int) != 1)=false/\((C.cl:Int) != (κ:Int))=false/\¬ (C.us:Int)+(room κ:Int)<=c3):=by
    simp only[bne_iff_ne,bne_eq_false_iff_eq]
    omega
   clear hno
   rcases hh with(g1 | ⟨g1,g2⟩) | ⟨g1,g2,h3⟩
   all_goals
    try simp only[iV]
    try simp only[pP]
    try simp only[eV]
    refine Zp (by kernel_rfl) (by kernel_rfl) ?_
    repeat (go_big_quiet_step ((go_at_call 151;exact Calls.Yy (VJ κ hκ _))))
    refine wpQuiet_nil ?_
    rintro _ ⟨nq,rfl⟩
    clear e0 e1 e2 e3 e4 e5 e6 e7 e8 f1
    have i4:=i1.grown nq.below
    have m4:=m1.below nq.below
    have v4:=v1.grown nq.below
    have o4:Only (L.and b) w nq.now:=o1.trans (Only.Z5 nq.below)
    clear i1 m1 o1 v1 j1 g0 g3 g4
    have k0:=i4.cell0 rfl
    have kf:=i4.fz
    obtain⟨y0,y1,y2,y3,y4,y5,y6,y7,y8⟩:=id v4
    go_wp2_with (go_at_call 172;refine(Vz m4 hb i4 _ _ _ _ _ _ _ _ 0 nx' hnx).mono ?_;rintro e w5 ⟨rfl,m5,o5,sV,i5,s5⟩)
    refine bodyPost_ret (results_none rfl _ _ _) rfl ?_
    exact⟨rfl,m5,o4.trans o5,sV,i5,s2.trans s5⟩
end
end Go.Proofs.YtgehjolndmgffaaGreat
