import Derived.Test.YtgehjolndmgffaaGreatPlaceAsk
namespace Go.Proofs.YtgehjolndmgffaaGreat
open Go.RowKit
set_option maxRecDepth 20000
set_option maxHeartbeats 400000 in
theorem Ql {w:World} {L:Loc} {s:Mm} {b o:Nat} {T:TypeId} {cs:Array Value} {sn sa sb:Int} {ch κ:Nat} (h:Z8 w L s) (hb:¬ L.has b) (C:Ck) (hi:At w b o T cs (Yw 2 κ sn ch C.w sa sb)) (c0 c1 c2 c3 c4 c5 c6 who:Int) (A:Nat) (ar:Yu c0 c1 c2 c3) (hch:ch<=1000000) (hA:6+c0+c1 * 2+(ch:Int) * 3=A) (hn:A<s.n) (σ:Nat) (hC:C.ok σ) (hσ:σ<=1000000) (hκ:κ<4) (hu:C.us+room κ<=1000) (M:Int) (hM:(ch:Int) * c3=M) (m0:0<=M) (mh:M<=1000000) {d:Bool} {nv nx' sa' sb':Int} (hw:Qk s A C.w (⟨C.st,C.cl,C.us+room κ,C.sp⟩:Ck).w d nv) (hx:(d=true/\nx'=7/\sa'=6+c0+c1 * 2+c2 * 3+M+(C.us:Int)/\sb'=ch)\/(d=false/\nx'=0/\sa'=sa/\sb'=sb)) :
 Calls Tryz.prog 162 #[pP b o,eV c0 c1 c2 c3 c4 c5 c6 L.p who] w fun e w'=>e=.returned (.tuple #[])/\Z8 w' L ((s.by who).step A nv)/\Only (L.and b) w w'/\∃ cs',At w' b o T cs' (Yw nx' κ sn ch C.w sa' sb')/\Same o 7 cs cs':=by
 obtain⟨hbv,hbb⟩:=nb h hi.lt
 have HA:Hid (6+c0+c1 * 2+(ch:Int) * 3=A):=hA
 have hr:=Yg κ
 have hN:(⟨C.st,C.cl,C.us+room κ,C.sp⟩:Ck).ok σ:=⟨hC.st,hC.cl,hu,hC.sp⟩
 have cw:=fun w=>UC C σ hC (by omega) w
 have pw:=fun w=>Q7 (⟨C.st,C.cl,C.us+room κ,C.sp⟩:Ck) σ hN (by omega) C.st C.cl ((C.us:Int)+(room κ:Int)) C.sp rfl rfl (by simp only;omega) rfl w
 have bw:=fun w=>WU c0 c1 c2 c3 c4 c5 c6 ch M w ar hM m0 mh
 have hus:=hC.us
 have a1:=ar.t0
 have a2:=ar.t1
 have a3:=ar.s0
 have a4:=ar.s1
 have a5:=ar.k0
 have a6:=ar.k1
 obtain⟨Z,hZ⟩:∃ Z,C.w=Z:=⟨_,rfl⟩
 obtain⟨X,hX⟩:∃ X,(⟨C.st,C.cl,C.us+room κ,C.sp⟩:Ck).w=X:=⟨_,rfl⟩
 rw[hZ] at cw hw hi ⊢
 rw[hX] at pw hw
 have HX:Hid (Qk s A Z X d nv):=hw
 have HM:Hid ((ch:Int) * c3=M):=hM
 clear hw hA hC hM
 have k4:=fun O=>WC (hi.cell 4 rfl) O
 go_enter Tryz.func162,Tryz.ntmps162
 go_wp2_with (go_at_call 174;refine(cw _).mono ?_;rintro e w3 ⟨rfl,b3⟩;have i4:=(hi.grown (Z7 (Below.refl _ _) (.cells #[iV c0,iV c1,iV c2,iV c3,iV c4,iV c5,iV c6,pP L.p 0,iV who] 27))).grown b3;have m4:=(h.alloc (.cells #[iV c0,iV c1,iV c2,iV c3,iV c4,iV c5,iV c6,pP L.p 0,iV who] 27)).below b3;have v4:ZP w3 w.heap.size c0 c1 c2 c3 c4 c5 c6 L.p who:=ZP.new.grown b3;have o4:Only (L.and b) w w3:=((Only.refl _ _).alloc _).trans (Only.Z5 b3);have z3:=b3.size)
 rw[Go.Deep.nblk_alloc] at z3
 obtain⟨B,hB⟩:∃ B,w3.heap.size=B:=⟨_,rfl⟩
 have j4:=At.new w3 225 [iV C.st,iV C.cl,iV C.us,iV C.sp]
 rw[hB] at j4 ⊢
 have yT:Hid (¬ L.has B):=fun hh=>by have:=m4.lt _ hh;omega
 have hBb:Hid (¬ B=b):=fun hh=>by have:=i4.lt;omega
 have sU:Hid (w.heap.size<B):=by unfold Hid;omega
 refine ZT (fun W=>Z8 W L s/\At W b o T cs (Yw 2 κ sn ch Z sa sb)/\ZP W w.heap.size c0 c1 c2 c3 c4 c5 c6 L.p who/\Only (L.and b) w W/\At W B 0 225 _ [iV C.st,iV C.cl,iV C.us,iV C.sp]) ⟨m4.alloc _,i4.grown (Z7 (Below.refl _ _) _),v4.grown (Z7 (Below.refl _ _) _),o4.alloc _,j4⟩ ?_
 clear k4 b3 i4 m4 v4 o4 j4 z3 hB
 rintro W ⟨m1,i1,v1,o1,j1⟩
 have g4:=fun N:Later W=>(j1.grown N.below).at0 2 rfl
 have e0:=fun N:Later W=>(v1.grown N.below).c0
 have e1:=fun N:Later W=>(v1.grown N.below).c1
 have e2:=fun N:Later W=>(v1.grown N.below).c2
 have e3:=fun N:Later W=>(v1.grown N.below).c3
 have e4:=fun N:Later W=>(v1.grown N.below).c4
 have e5:=fun N:Later W=>(v1.grown N.below).c5
 have e6:=fun N:Later W=>(v1.grown N.below).c6
 have e7:=fun N:Later W=>(v1.grown N.below).c7
 have e8:=fun N:Later W=>(v1.grown N.below).c8
 have f3:=fun N:Later W=>(i1.grown N.below).cell 3 rfl
 haveI:=Later.exists W
 try simp only[iV]
 try simp only[pP]
 try simp only[eV]
 refine Zp (by kernel_rfl) (by kernel_rfl) ?_
 repeat (go_big_quiet_step ((go_at_call 60;exact Calls.later (bw _))))
 refine wpQuiet_nil ?_
 rintro _ ⟨nq,rfl⟩
 clear e0 e1 e2 e3 e4 e5 e6 e7 e8 f3
 go_wp2
 refine ZT (fun W=>Z8 W L s/\At W b o T cs (Yw 2 κ sn ch Z sa sb)/\ZP W w.heap.size c0 c1 c2 c3 c4 c5 c6 L.p who/\Only (L.and b) w W/\At W B 0 225 _ [iV C.st,iV C.cl,iV C.us,iV C.sp]) ⟨m1.below nq.below,i1.grown nq.below,v1.grown nq.below,o1.trans (Only.Z5 nq.below),j1.grown nq.below⟩ ?_
 clear m1 i1 v1 o1 j1 g4 nq bw
 rintro W ⟨m1,i1,v1,o1,j1⟩
 apply Xy 9;. kernel_rfl
 apply rV;. intros;apply ol;go_simp;exact gl
 apply rV;. intro w' hg _;apply ol;have z:=(j1.drew.grown hg).at0 2 rfl;go_simp;exact gl
 iterate 3 (apply rV;. intros;apply ol;go_simp;exact gl)
 apply rV;. intro w' hg _;apply ol;have z:=(i1.drew.grown hg).cell 1 rfl;go_simp;exact gl
 try simp only[pu,s0,s1]
 apply rV;. intro w' hg _;apply ol;go_simp;exact cc (VJ κ hκ _)
 apply rV (c:=iV ((C.us:Int)+(room κ:Int)));. intro w' hg _;apply ol;go_simp;exact⟨Grown.refl _,by simp only[Want.pred];rw[IntKind.wrap_i64];exact congrArg (Value.int .i64) (by omega)⟩
 apply XW;. intros;apply ol;go_simp;exact gl
 try simp only[pu,s0,s1]
 intro w5 hg _
 have m5:=m1.drew.below hg
 have i5:=i1.drew.grown hg
 have v5:=v1.dg hg
 have o5:=o1.og hg
 have j5:=j1.drew.grown hg
 clear hg m1 i1 v1 o1 j1
 have q2:=j5.at0 2 rfl
 have qf:=j5.fz
 go_wp2
 refine ZT (fun W=>Z8 W L s/\At W b o T cs (Yw 2 κ sn ch Z sa sb)/\ZP W w.heap.size c0 c1 c2 c3 c4 c5 c6 L.p who/\Only (L.and b) w W/\At W B 0 225 _ [iV C.st,iV C.cl,iV ((C.us:Int)+(room κ:Int)),iV C.sp]) ⟨m5.ZY yT.out _ _,i5.other (fun e=>hBb.out e.symm) _ _,v5.ZY (by have:=sU.out;omega) _ _,o5.setCell (fun hlt=>absurd sU.out (by simp only at hlt;omega)) _,j5.ZQ 2 _⟩ ?_
 clear m5 i5 v5 o5 j5 q2 qf
 rintro W ⟨m1,i1,v1,o1,j1⟩
 apply QO (R:=Only L.has) (fun p W'=>match p with | 0=>Z8 W' L s | _=>Z8 W' L ((s.by who).step A nv)) [10] yu (fun x y p h k=>by match p,k with | 0,k=>exact k.below h | p+1,k=>exact k.below h) m1.drew;. kernel_rfl
 apply pV;. intro w' hR _;apply ol;obtain⟨y0,y1,y2,y3,y4,y5,y6,y7,y8⟩:=(v1.grown ((Below.refl _ _).drew)).only hR hbv;go_simp;exact gl
 apply pV;. intros;apply ol;go_simp;exact gl
 apply pV;. intro w' hR _;apply ol;obtain⟨y0,y1,y2,y3,y4,y5,y6,y7,y8⟩:=(v1.grown ((Below.refl _ _).drew)).only hR hbv;go_simp;exact gl
 apply pV;. intro w' hR _;apply ol;go_simp;exact cb (UB ((i1.drew.only hR hb).cell 3 rfl) _ _ _ _ _ _ _ _ A ar hch HA.out)
 iterate 2 (apply pV;. intros;apply ol;go_simp;exact gl)
 try simp only[pu,s0,s1]
 apply pV;. intros;apply ol;go_simp;exact gl
 apply pV;. intro w' hR _;apply ol;have z:=(i1.drew.only hR hb).cell 4 rfl;go_simp;exact gl
 apply pV;. intro w' hR _;apply ol;have jj:=j1.drew.only hR yT.out;have y0:=jj.at0 0 rfl;have y1:=jj.at0 1 rfl;have y2:=jj.at0 2 rfl;have y3:=jj.at0 3 rfl;go_simp;exact gl
 apply pV;. intro w' hR _;apply ol;go_simp;exact cb (pw _)
 apply pV (c:=.bool d);. intro w' hR _ hP;apply ol;go_simp;refine(Yj (s:=s) hP _ _ _ _ _ _ _ _ A hn _ _).mono ?_;rintro e w'' ⟨rfl,m2,o2⟩;rw[(HX.out.Wq who).1] at m2;exact⟨_,rfl,⟨o2,m2⟩,congrArg Value.bool (HX.out.Wq who).2⟩
 apply uV;. intros;apply ol;go_simp;exact gl
 try simp only[pu,s0,s1]
 intro w2 hR m2 _
 have Gw:Z8 w2 L ((s.by who).step A nv):=m2
 have i2:=i1.drew.only hR hb
 have o2:Only (L.and b) w w2:=o1.drew.trans hR.XH
 clear m1 i1 v1 o1 j1 hR m2 HX HA cw pw yT hBb sU
 have k0:=i2.cell0 rfl
 have k3:=i2.cell 3 rfl
 have k5:=i2.cell 5 rfl
 have k6:=i2.cell 6 rfl
 have kf:=i2.fz
 rcases hx with⟨rfl,rfl,rfl,rfl⟩ | ⟨rfl,rfl,rfl,rfl⟩
 . go_wp2
   go_end0
   exact⟨rfl,((Gw.ZY hb _ _).ZY hb _ _).ZY hb _ _,((o2.set _ _).set _ _).set _ _,_,((i2.set 5 _).set 6 _).set0 _,((Same.refl.set (by omega) _).set (by omega) _).set (by omega) _⟩
 . go_wp2
   refine bodyPost_ret (results_none rfl _ _ _) rfl ?_
   exact⟨rfl,Gw.ZY hb _ _,o2.set _ _,_,i2.set0 _,Same.refl.set (by omega) _⟩
end Go.Proofs.YtgehjolndmgffaaGreat
