import Derived.Test.YtgehjolndmgffaaGreatPlaceAsk
namespace Go.Proofs.YtgehjolndmgffaaGreat
open Go.RowKit
set_option maxRecDepth 20000
theorem Ht {w:World} {L:Loc} {s:Mm} {b o:Nat} {T:TypeId} {cs:Array Value} {sn sa sb:Int} {ch κ:Nat} (h:Z8 w L s) (hb:¬ L.has b) (C:Ck) (hi:At w b o T cs (Yw 4 κ sn ch C.w sa sb)) (c0 c1 c2 c3 c4 c5 c6 who:Int) (A:Nat) (ar:Yu c0 c1 c2 c3) (hch:ch<=1000000) (hA:6+c0+c1 * 2+(ch:Int) * 3=A) (hn:A<s.n) (σ:Nat) (hC:C.ok σ) (hσ:σ<=1000000) (hκ:κ<4) (hw:s.wd A=C.w)  :
 Calls Tryz.prog 164 #[pP b o,eV c0 c1 c2 c3 c4 c5 c6 L.p who] w fun e w'=>e=.returned (.tuple #[])/\Z8 w' L ((s.by who).step A (⟨1,κ,0,C.sp+1⟩:Ck).w)/\Only (L.and b) w w'/\∃ cs',At w' b o T cs' (Yw 5 κ sn ch (⟨1,κ,0,C.sp+1⟩:Ck).w sa sb)/\Same o 7 cs cs':=by
 obtain⟨hbv,hbb⟩:=nb h hi.lt
 have HA:Hid (6+c0+c1 * 2+(ch:Int) * 3=A):=hA
 have HW:Hid (s.wd A=C.w):=hw
 have HC:Hid (C.ok σ):=hC
 clear hw hA hC
 go_enter Tryz.func164,Tryz.ntmps164
 go_wp2
 refine ZT (fun W=>Z8 W L s/\At W b o T cs (Yw 4 κ sn ch C.w sa sb)/\ZP W w.heap.size c0 c1 c2 c3 c4 c5 c6 L.p who/\Only (L.and b) w W) ⟨h.alloc _,hi.grown (Z7 (Below.refl _ _) _),ZP.new,(Only.refl _ _).alloc _⟩ ?_
 rintro W ⟨m1,i1,v1,o1⟩
 apply Xy 7;. kernel_rfl
 apply rV;. intros;apply ol;go_simp;exact gl
 apply rV;. intro w' hg _;apply ol;have y:=(v1.dg hg).yy;go_simp;exact gl
 iterate 3 (apply rV;. intros;apply ol;go_simp;exact gl)
 apply rV;. intro w' hg _;apply ol;have z:=(i1.drew.grown hg).cell 1 rfl;go_simp;exact gl
 try simp only[pu,s0,s1]
 apply XW;. intros;apply ol;go_simp;exact gl
 try simp only[pu,s0,s1]
 intro w5 hg _
 have m5:=m1.drew.below hg
 have i5:=i1.drew.grown hg
 have v5:=v1.dg hg
 have o5:=o1.og hg
 clear hg m1 i1 v1 o1
 go_wp2_with (go_at_call 176;refine(Vy m5 hb C i5 _ _ _ _ _ _ _ _ A ar hch HA.out hn 1 κ σ HC.out ⟨by omega,by omega⟩ hσ true (decide_eq_true HW.out)).mono ?_;rintro e w6 ⟨rfl,m6,o6,WR,i6,s6⟩;rw[show (s.by who).Wq A C.w (⟨1,κ,0,C.sp+1⟩:Ck).w=(s.by who).step A (⟨1,κ,0,C.sp+1⟩:Ck).w from if_pos HW.out] at m6;have k0:=i6.cell0 rfl;have kf:=i6.fz)
 go_end0
 exact⟨rfl,m6.ZY hb _ _,(o5.trans o6).set _ _,_,i6.set0 _,s6.set (j:=o) (by omega) _⟩
theorem EH {w:World} {L:Loc} {s:Mm} {b o:Nat} {T:TypeId} {cs:Array Value} {sn sa sb:Int} {ch κ:Nat} (h:Z8 w L s) (hb:¬ L.has b) (C:Ck) (hi:At w b o T cs (Yw 4 κ sn ch C.w sa sb)) (c0 c1 c2 c3 c4 c5 c6 who:Int) (A:Nat) (ar:Yu c0 c1 c2 c3) (hch:ch<=1000000) (hA:6+c0+c1 * 2+(ch:Int) * 3=A) (hn:A<s.n) (σ:Nat) (hC:C.ok σ) (hσ:σ<=1000000) (hκ:κ<4) (hw:¬ s.wd A=C.w) (nx':Int) (hnx:(if c2<=(ch:Int)+1 then 8 else 3)=nx') :
 Calls Tryz.prog 164 #[pP b o,eV c0 c1 c2 c3 c4 c5 c6 L.p who] w fun e w'=>e=.returned (.tuple #[])/\Z8 w' L ((s.by who).step A (s.wd A))/\Only (L.and b) w w'/\∃ cs',At w' b o T cs' (Yw nx' κ sn ((ch:Int)+1) (⟨1,κ,0,C.sp+1⟩:Ck).w sa sb)/\Same o 7 cs cs':=by
 obtain⟨hbv,hbb⟩:=nb h hi.lt
 have HA:Hid (6+c0+c1 * 2+(ch:Int) * 3=A):=hA
 have HW:Hid (¬ s.wd A=C.w):=hw
 have HC:Hid (C.ok σ):=hC
 clear hw hA hC
 go_enter Tryz.func164,Tryz.ntmps164
 go_wp2
 refine ZT (fun W=>Z8 W L s/\At W b o T cs (Yw 4 κ sn ch C.w sa sb)/\ZP W w.heap.size c0 c1 c2 c3 c4 c5 c6 L.p who/\Only (L.and b) w W) ⟨h.alloc _,hi.grown (Z7 (Below.refl _ _) _),ZP.new,(Only.refl _ _).alloc _⟩ ?_
 rintro W ⟨m1,i1,v1,o1⟩
 apply Xy 7;. kernel_rfl
 apply rV;. intros;apply ol;go_simp;exact gl
 apply rV;. intro w' hg _;apply ol;have y:=(v1.dg hg).yy;go_simp;exact gl
 iterate 3 (apply rV;. intros;apply ol;go_simp;exact gl)
 apply rV;. intro w' hg _;apply ol;have z:=(i1.drew.grown hg).cell 1 rfl;go_simp;exact gl
 try simp only[pu,s0,s1]
 apply XW;. intros;apply ol;go_simp;exact gl
 try simp only[pu,s0,s1]
 intro w5 hg _
 have m5:=m1.drew.below hg
 have i5:=i1.drew.grown hg
 have v5:=v1.dg hg
 have o5:=o1.og hg
 clear hg m1 i1 v1 o1
 go_wp2_with (go_at_call 176;refine(Vy m5 hb C i5 _ _ _ _ _ _ _ _ A ar hch HA.out hn 1 κ σ HC.out ⟨by omega,by omega⟩ hσ false (decide_eq_false HW.out)).mono ?_;rintro e w6 ⟨rfl,m6,o6,WR,i6,s6⟩;rw[show (s.by who).Wq A C.w (⟨1,κ,0,C.sp+1⟩:Ck).w=(s.by who).step A (s.wd A) from if_neg HW.out] at m6;have k0:=i6.cell0 rfl;have kf:=i6.fz)
 refine ZT (fun W=>Z8 W L ((s.by who).step A (s.wd A))/\At W b o T WR (Yw 4 κ sn ch (⟨1,κ,0,C.sp+1⟩:Ck).w sa sb)/\ZP W w.heap.size c0 c1 c2 c3 c4 c5 c6 L.p who/\Only (L.and b) w W) ⟨m6,i6,v5.only o6 (fun hh=>hh.elim hbv hbb),o5.trans o6⟩ ?_
 clear m5 i5 v5 o5 m6 i6 o6 k0 kf
 rintro W ⟨m1,i1,v1,o1⟩
 apply Xy 7;. kernel_rfl
 apply rV;. intros;apply ol;go_simp;exact gl
 apply rV;. intro w' hg _;apply ol;have y:=(v1.dg hg).yy;go_simp;exact gl
 iterate 3 (apply rV;. intros;apply ol;go_simp;exact gl)
 apply rV;. intro w' hg _;apply ol;have z:=(i1.drew.grown hg).cell 3 rfl;go_simp;exact gl
 try simp only[pu,s0,s1]
 apply XW (c:=iV ((ch:Int)+1));. intro w' hg _;apply ol;go_simp;exact⟨Grown.refl _,by simp only[Want.pred];rw[IntKind.wrap_i64];exact congrArg (Value.int .i64) (by omega)⟩
 try simp only[pu,s0,s1]
 intro w5 hg _
 have m5:=m1.drew.below hg
 have i5:=i1.drew.grown hg
 have v5:=v1.dg hg
 have o5:=o1.og hg
 clear hg m1 i1 v1 o1
 go_wp2_with (go_at_call 172;refine(Vz m5 hb i5 _ _ _ _ _ _ _ _ _ nx' hnx).mono ?_;rintro e w6 ⟨rfl,m7,o7,wW,i7,s7⟩)
 refine bodyPost_ret (results_none rfl _ _ _) rfl ?_
 exact⟨rfl,m7,o5.trans o7,wW,i7,s6.trans s7⟩
theorem Hq {w:World} {L:Loc} {s:Mm} {b o:Nat} {T:TypeId} {cs:Array Value} {ka sn sa sb:Int} {ch:Nat} (h:Z8 w L s) (hb:¬ L.has b) (C:Ck) (hi:At w b o T cs (Yw 6 ka sn ch C.w sa sb)) (c0 c1 c2 c3 c4 c5 c6 who:Int) (A:Nat) (ar:Yu c0 c1 c2 c3) (hch:ch<=1000000) (hA:6+c0+c1 * 2+(ch:Int) * 3=A) (hn:A<s.n) (σ:Nat) (hC:C.ok σ) (hσ:σ<=1000000) (hw:s.wd A=C.w) :
 Calls Tryz.prog 166 #[pP b o,eV c0 c1 c2 c3 c4 c5 c6 L.p who] w fun e w'=>e=.returned (.tuple #[])/\Z8 w' L ((s.by who).step A (⟨0,0,0,C.sp+1⟩:Ck).w)/\Only (L.and b) w w'/\∃ cs',At w' b o T cs' (Yw 0 ka sn ch (⟨0,0,0,C.sp+1⟩:Ck).w sa sb)/\Same o 7 cs cs':=by
 obtain⟨hbv,hbb⟩:=nb h hi.lt
 have HA:Hid (6+c0+c1 * 2+(ch:Int) * 3=A):=hA
 have HW:Hid (s.wd A=C.w):=hw
 have HC:Hid (C.ok σ):=hC
 clear hw hA hC
 have i1:=hi.grown (Z7 (Below.refl _ _) (.cells #[iV c0,iV c1,iV c2,iV c3,iV c4,iV c5,iV c6,pP L.p 0,iV who] 27))
 have m1:=h.alloc (.cells #[iV c0,iV c1,iV c2,iV c3,iV c4,iV c5,iV c6,pP L.p 0,iV who] 27)
 have o1:Only (L.and b) w (w.alloc (.cells #[iV c0,iV c1,iV c2,iV c3,iV c4,iV c5,iV c6,pP L.p 0,iV who] 27)):=(Only.refl _ _).alloc _
 go_enter Tryz.func166,Tryz.ntmps166
 go_wp2_with (go_at_call 176;refine(Vy m1 hb C i1 _ _ _ _ _ _ _ _ A ar hch HA.out hn 0 0 σ HC.out ⟨by omega,by omega⟩ hσ true (decide_eq_true HW.out)).mono ?_;rintro e w6 ⟨rfl,m6,o6,WR,i6,s6⟩;rw[show (s.by who).Wq A C.w (⟨0,0,0,C.sp+1⟩:Ck).w=(s.by who).step A (⟨0,0,0,C.sp+1⟩:Ck).w from if_pos HW.out] at m6;have k0:=i6.cell0 rfl;have kf:=i6.fz)
 go_end0
 exact⟨rfl,m6.ZY hb _ _,(o1.trans o6).set _ _,_,i6.set0 _,s6.set (j:=o) (by omega) _⟩
theorem EG {w:World} {L:Loc} {s:Mm} {b o:Nat} {T:TypeId} {cs:Array Value} {ka sn sa sb:Int} {ch:Nat} (h:Z8 w L s) (hb:¬ L.has b) (C:Ck) (hi:At w b o T cs (Yw 6 ka sn ch C.w sa sb)) (c0 c1 c2 c3 c4 c5 c6 who:Int) (A:Nat) (ar:Yu c0 c1 c2 c3) (hch:ch<=1000000) (hA:6+c0+c1 * 2+(ch:Int) * 3=A) (hn:A<s.n) (σ:Nat) (hC:C.ok σ) (hσ:σ<=1000000) (hw:¬ s.wd A=C.w) :
 Calls Tryz.prog 166 #[pP b o,eV c0 c1 c2 c3 c4 c5 c6 L.p who] w fun e w'=>e=.returned (.tuple #[])/\Z8 w' L ((s.by who).step A (s.wd A))/\Only (L.and b) w w'/\∃ cs',At w' b o T cs' (Yw 0 ka sn ch (⟨0,0,0,C.sp+1⟩:Ck).w sa sb)/\Same o 7 cs cs':=by
 obtain⟨hbv,hbb⟩:=nb h hi.lt
 have HA:Hid (6+c0+c1 * 2+(ch:Int) * 3=A):=hA
 have HW:Hid (¬ s.wd A=C.w):=hw
 have HC:Hid (C.ok σ):=hC
 clear hw hA hC
 have i1:=hi.grown (Z7 (Below.refl _ _) (.cells #[iV c0,iV c1,iV c2,iV c3,iV c4,iV c5,iV c6,pP L.p 0,iV who] 27))
 have m1:=h.alloc (.cells #[iV c0,iV c1,iV c2,iV c3,iV c4,iV c5,iV c6,pP L.p 0,iV who] 27)
 have o1:Only (L.and b) w (w.alloc (.cells #[iV c0,iV c1,iV c2,iV c3,iV c4,iV c5,iV c6,pP L.p 0,iV who] 27)):=(Only.refl _ _).alloc _
 go_enter Tryz.func166,Tryz.ntmps166
 go_wp2_with (go_at_call 176;refine(Vy m1 hb C i1 _ _ _ _ _ _ _ _ A ar hch HA.out hn 0 0 σ HC.out ⟨by omega,by omega⟩ hσ false (decide_eq_false HW.out)).mono ?_;rintro e w6 ⟨rfl,m6,o6,WR,i6,s6⟩;rw[show (s.by who).Wq A C.w (⟨0,0,0,C.sp+1⟩:Ck).w=(s.by who).step A (s.wd A) from if_neg HW.out] at m6;have k0:=i6.cell0 rfl;have kf:=i6.fz)
 go_end0
 exact⟨rfl,m6.ZY hb _ _,(o1.trans o6).set _ _,_,i6.set0 _,s6.set (j:=o) (by omega) _⟩
theorem Qh {w:World} {L:Loc} {s:Mm} {b o:Nat} {T:TypeId} {cs:Array Value} {sn ws sa sb:Int} {ch κ:Nat} (h:Z8 w L s) (hb:¬ L.has b) (hi:At w b o T cs (Yw 5 κ sn ch ws sa sb)) (c0 c1 c2 c3 c4 c5 c6 who:Int) (hκ:κ<4) (hn:2+κ<s.n) (hch:ch<=1000000) {d:Bool} {nv nx':Int} (hw:Qk s (2+κ) sn ((ch:Int)+1) d nv) (hx:(d=true/\nx'=0)\/(d=false/\nx'=6)) :
 Calls Tryz.prog 165 #[pP b o,eV c0 c1 c2 c3 c4 c5 c6 L.p who] w fun e w'=>e=.returned (.tuple #[])/\Z8 w' L ((s.by who).step (2+κ) nv)/\Only (L.and b) w w'/\∃ cs',At w' b o T cs' (Yw nx' κ sn ch ws sa sb)/\Same o 7 cs cs':=by
 obtain⟨hbv,hbb⟩:=nb h hi.lt
 have HW:Hid (Qk s (2+κ) sn ((ch:Int)+1) d nv):=hw
 clear hw
 have k0:=fun O=>WC (hi.cell0 rfl) O
 have kf:=fun O i=>(hi.grown (Z7 (Below.refl _ _) O)).fz i
 go_enter Tryz.func165,Tryz.ntmps165
 go_wp2
 refine ZT (fun W=>Z8 W L s/\At W b o T (cs.setIfInBounds o (iV 6)) (Yw 6 κ sn ch ws sa sb)/\ZP W w.heap.size c0 c1 c2 c3 c4 c5 c6 L.p who/\Only (L.and b) w W) ⟨(h.alloc _).ZY hb _ _,(hi.grown (Z7 (Below.refl _ _) _)).set0 _,ZP.new.ZY hbb _ _,((Only.refl _ _).alloc _).set _ _⟩ ?_
 clear k0 kf
 rintro W ⟨m1,i1,v1,o1⟩
 apply QO (R:=Only L.has) (fun p W'=>match p with | 0=>Z8 W' L s | _=>Z8 W' L ((s.by who).step (2+κ) nv)) [16] yu (fun x y p h k=>by match p,k with | 0,k=>exact k.below h | p+1,k=>exact k.below h) m1.drew;. kernel_rfl
 apply pV;. intro w' hR _;apply ol;obtain⟨y0,y1,y2,y3,y4,y5,y6,y7,y8⟩:=(v1.grown ((Below.refl _ _).drew)).only hR hbv;go_simp;exact gl
 iterate 3 (apply pV;. intros;apply ol;go_simp;exact gl)
 apply pV;. intro w' hR _;apply ol;have z:=(i1.drew.only hR hb).cell 1 rfl;go_simp;exact gl
 apply pV (c:=iV ((2+κ:Nat):Int));. intro w' hR _;apply ol;go_simp;refine(TW (κ:Int) _ (by omega) (by omega)).mono ?_;rintro e w'' ⟨rfl,rfl⟩;exact⟨_,rfl,Grown.refl _,congrArg (Value.int .i64) (by omega)⟩
 try simp only[pu,s0,s1]
 iterate 3 (apply pV;. intros;apply ol;go_simp;exact gl)
 apply pV;. intro w' hR _;apply ol;have z:=(i1.drew.only hR hb).cell 2 rfl;go_simp;exact gl
 iterate 2 (apply pV;. intros;apply ol;go_simp;exact gl)
 try simp only[pu,s0,s1]
 apply pV;. intros;apply ol;go_simp;exact gl
 apply pV;. intro w' hR _;apply ol;have z:=(i1.drew.only hR hb).cell 3 rfl;go_simp;exact gl
 apply pV (c:=iV ((ch:Int)+1));. intro w' hR _;apply ol;go_simp;exact⟨Grown.refl _,by simp only[Want.pred];rw[IntKind.wrap_i64];exact congrArg (Value.int .i64) (by omega)⟩
 apply pV (c:=.int .u64 ((ch:Int)+1));. intro w' hR _;apply ol;go_simp;exact⟨Grown.refl _,congrArg (Value.int .u64) (wrap_small _ (by omega) (by omega))⟩
 apply uV (c:=.bool d);. intro w' hR _ hP;apply ol;go_simp;refine(Yj (s:=s) hP _ _ _ _ _ _ _ _ (2+κ) hn _ _).mono ?_;rintro e w'' ⟨rfl,m2,o2⟩;rw[(HW.out.Wq who).1] at m2;exact⟨_,rfl,⟨o2,m2⟩,congrArg Value.bool (HW.out.Wq who).2⟩
 try simp only[pu,s0,s1]
 intro w2 hR m2 _
 have Gw:Z8 w2 L ((s.by who).step (2+κ) nv):=m2
 have i2:=i1.drew.only hR hb
 have o2:Only (L.and b) w w2:=o1.drew.trans hR.XH
 clear m1 i1 v1 o1 hR m2 HW
 have k0:=i2.cell0 rfl
 have kf:=i2.fz
 rcases hx with⟨rfl,rfl⟩ | ⟨rfl,rfl⟩
 . go_wp2
   go_end0
   exact⟨rfl,Gw.ZY hb _ _,o2.set _ _,_,i2.set0 _,(Same.refl.set (by omega) _).set (by omega) _⟩
 . go_wp2
   go_end0
   exact⟨rfl,Gw,o2,_,i2,Same.refl.set (by omega) _⟩
end Go.Proofs.YtgehjolndmgffaaGreat
