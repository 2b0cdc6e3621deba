import Derived.Test.YtgehjolndmgffaaGreatLstRec
namespace Go.Proofs.YtgehjolndmgffaaGreat
open Go.RowKit
set_option maxRecDepth 20000
set_option maxRecDepth 20000 in
theorem Xw {w:World} {L:Loc} {bA bS bI b:Nat} {T:TypeId} {i:Nat} (h:Vu w bA bS bI b T i) (hi:i<3) (c0 c1 c2 c3 c4 c5 c6 who:Int) {U:TypeId} {rv:Value} {f:FuncId}
 (hv:w.cell? ⟨bS,i,none⟩=some (.iface U rv))
 (hm:∀ w,(method 351 U rv "Step").run Tryz.prog w=.ok (f,rv) w) (he:∀ args w,(callFunc f args).run Tryz.prog w=.ok (.enter f args) w) (Z:Bool->World->Prop)
 (hc:∀ w1,Below w.heap.size w w1->Calls Tryz.prog f #[rv,eV c0 c1 c2 c3 c4 c5 c6 L.p who] w1 fun e w'=>∃ d,e=.returned (.bool d)/\w'.heap[bA]?=w1.heap[bA]?/\Z d w') :
 Calls Tryz.prog 55 #[pP bA 0,eV c0 c1 c2 c3 c4 c5 c6 L.p who] w fun e w'=>∃ d w1,Z d w1/\((d=false/\e=.returned (.bool false)/\w'=w1)\/(d=true/\e=.returned (.bool (i == 2))/\w'=w1.setCell ⟨bA,1,none⟩ (.slice (some ⟨bS,min (i+1) 2,none⟩) (2 - i) (2 - i)))):=by
 obtain⟨c,ha⟩:=h.a
 have xO:=ha.lt
 have hBS:bS<w.heap.size:=World.block_lt_of_cell? _ _ hv
 obtain rfl | rfl | rfl:i=0\/i=1\/i=2:=by omega
 . have ha:At w bA 0 129 c [.iface T (pP b 0),.slice (some ⟨bS,0,none⟩) 3 3]:=ha
   have ha1:=ha.grown (ZZ w (.cells #[iV c0,iV c1,iV c2,iV c3,iV c4,iV c5,iV c6,pP L.p 0,iV who] 27))
   have k1:=ha1.at0 1 rfl
   go_enter Tryz.func55,Tryz.ntmps55
   go_wp2
   refine ZT (fun W=>Below w.heap.size w W/\ZP W w.heap.size c0 c1 c2 c3 c4 c5 c6 L.p who) ⟨Z7 (Below.refl _ _) _,ZP.new⟩ ?_
   rintro W ⟨b1,v1⟩
   clear ha1 k1
   apply Xy 7;. kernel_rfl
   iterate 3 (apply rV;. intros;apply ol;go_simp;exact gl)
   apply rV;. intro w' hg _;apply ol;have k1:=((ha.grown b1).drew.grown hg).at0 1 rfl;go_simp;exact gl
   apply rV;. intros;apply ol;go_simp;exact gl
   apply rV;. intro w' hg _;apply ol;have k2:w'.cell? ⟨bS,0,none⟩=some (.iface U rv):=keep' (grow (grow b1 ((Below.refl _ _).drew)) hg) hv;go_simp;exact gl
   try simp only[pu,s0,s1]
   apply XW;. intro w' hg _;apply ol;have y:=(v1.dg hg).yy;go_simp;exact gl
   try simp only[pu,s0,s1]
   intro w5 hg _
   have b5:Below w.heap.size w w5:=grow (grow b1 ((Below.refl _ _).drew)) hg
   go_wp2_with (refine(hc _ b5).mono ?_;rintro e w6 ⟨d,rfl,eA,hz⟩;have ha6:=(ha.grown b5).of_block eA;have k1:=ha6.at0 1 rfl;have kf:=ha6.fz;cases d)
   . go_ret
     exact⟨false,w6,hz,Or.inl ⟨rfl,rfl,rfl⟩⟩
   . go_ret
     exact⟨true,w6,hz,Or.inr ⟨rfl,rfl,rfl⟩⟩
 . have ha:At w bA 0 129 c [.iface T (pP b 0),.slice (some ⟨bS,1,none⟩) 2 2]:=ha
   have ha1:=ha.grown (ZZ w (.cells #[iV c0,iV c1,iV c2,iV c3,iV c4,iV c5,iV c6,pP L.p 0,iV who] 27))
   have k1:=ha1.at0 1 rfl
   go_enter Tryz.func55,Tryz.ntmps55
   go_wp2
   refine ZT (fun W=>Below w.heap.size w W/\ZP W w.heap.size c0 c1 c2 c3 c4 c5 c6 L.p who) ⟨Z7 (Below.refl _ _) _,ZP.new⟩ ?_
   rintro W ⟨b1,v1⟩
   clear ha1 k1
   apply Xy 7;. kernel_rfl
   iterate 3 (apply rV;. intros;apply ol;go_simp;exact gl)
   apply rV;. intro w' hg _;apply ol;have k1:=((ha.grown b1).drew.grown hg).at0 1 rfl;go_simp;exact gl
   apply rV;. intros;apply ol;go_simp;exact gl
   apply rV;. intro w' hg _;apply ol;have k2:w'.cell? ⟨bS,1,none⟩=some (.iface U rv):=keep' (grow (grow b1 ((Below.refl _ _).drew)) hg) hv;go_simp;exact gl
   try simp only[pu,s0,s1]
   apply XW;. intro w' hg _;apply ol;have y:=(v1.dg hg).yy;go_simp;exact gl
   try simp only[pu,s0,s1]
   intro w5 hg _
   have b5:Below w.heap.size w w5:=grow (grow b1 ((Below.refl _ _).drew)) hg
   go_wp2_with (refine(hc _ b5).mono ?_;rintro e w6 ⟨d,rfl,eA,hz⟩;have ha6:=(ha.grown b5).of_block eA;have k1:=ha6.at0 1 rfl;have kf:=ha6.fz;cases d)
   . go_ret
     exact⟨false,w6,hz,Or.inl ⟨rfl,rfl,rfl⟩⟩
   . go_ret
     exact⟨true,w6,hz,Or.inr ⟨rfl,rfl,rfl⟩⟩
 . have ha:At w bA 0 129 c [.iface T (pP b 0),.slice (some ⟨bS,2,none⟩) 1 1]:=ha
   have ha1:=ha.grown (ZZ w (.cells #[iV c0,iV c1,iV c2,iV c3,iV c4,iV c5,iV c6,pP L.p 0,iV who] 27))
   have k1:=ha1.at0 1 rfl
   go_enter Tryz.func55,Tryz.ntmps55
   go_wp2
   refine ZT (fun W=>Below w.heap.size w W/\ZP W w.heap.size c0 c1 c2 c3 c4 c5 c6 L.p who) ⟨Z7 (Below.refl _ _) _,ZP.new⟩ ?_
   rintro W ⟨b1,v1⟩
   clear ha1 k1
   apply Xy 7;. kernel_rfl
   iterate 3 (apply rV;. intros;apply ol;go_simp;exact gl)
   apply rV;. intro w' hg _;apply ol;have k1:=((ha.grown b1).drew.grown hg).at0 1 rfl;go_simp;exact gl
   apply rV;. intros;apply ol;go_simp;exact gl
   apply rV;. intro w' hg _;apply ol;have k2:w'.cell? ⟨bS,2,none⟩=some (.iface U rv):=keep' (grow (grow b1 ((Below.refl _ _).drew)) hg) hv;go_simp;exact gl
   try simp only[pu,s0,s1]
   apply XW;. intro w' hg _;apply ol;have y:=(v1.dg hg).yy;go_simp;exact gl
   try simp only[pu,s0,s1]
   intro w5 hg _
   have b5:Below w.heap.size w w5:=grow (grow b1 ((Below.refl _ _).drew)) hg
   go_wp2_with (refine(hc _ b5).mono ?_;rintro e w6 ⟨d,rfl,eA,hz⟩;have ha6:=(ha.grown b5).of_block eA;have k1:=ha6.at0 1 rfl;have kf:=ha6.fz;cases d)
   . go_ret
     exact⟨false,w6,hz,Or.inl ⟨rfl,rfl,rfl⟩⟩
   . go_ret
     exact⟨true,w6,hz,Or.inr ⟨rfl,rfl,rfl⟩⟩
set_option maxRecDepth 20000 in
theorem PR {w:World} {bA bS bI b:Nat} {T:TypeId} (h:Vu w bA bS bI b T 3) {f:FuncId} (hT:∀ w,(binOp .eql 120 (.iface T (pP b 0)) .nilIface).run Tryz.prog w=.ok (.bool false) w)
 (hm:∀ w,(method 351 T (pP b 0) "Done").run Tryz.prog w=.ok (f,pP b 0) w) (he:∀ args w,(callFunc f args).run Tryz.prog w=.ok (.enter f args) w) (E H V St:Int)
 (hc:∀ w1,Below w.heap.size w w1->Calls Tryz.prog f #[pP b 0] w1 fun e w'=>e=.returned (.agg #[iV E,.int .u64 H,iV V,iV St])/\Below w1.heap.size w1 w') :
 Calls Tryz.prog 56 #[pP bA 0] w fun e w'=>e=.returned (.agg #[iV E,.int .u64 H,iV V,iV St])/\Below w.heap.size w w':=by
 obtain⟨c,ha⟩:=h.a
 have ha:At w bA 0 129 c [.iface T (pP b 0),.slice (some ⟨bS,2,none⟩) 0 0]:=ha
 have ha1:=ha.grown (ZZ w (.cells #[iV 0,.int .u64 0,iV 0,iV 0] 53))
 have k0:=ha1.at0 0 rfl
 have k1:=ha1.at0 1 rfl
 have d0:=At.new w 53 [iV 0,.int .u64 0,iV 0,iV 0]
 go_enter Tryz.func56,Tryz.ntmps56
 go_wp2_with (refine(hc _ (Z7 (Below.refl _ _) _)).mono ?_;rintro e w1 ⟨rfl,b1⟩;have d1:=d0.grown b1;have q0:=d1.at0 0 rfl;have q1:=d1.at0 1 rfl;have q2:=d1.at0 2 rfl;have q3:=d1.at0 3 rfl;have qf:=d1.fz)
 refine bodyPost_ret (v:=.agg #[iV E,.int .u64 H,iV V,iV St]) (by simp[results,Tryz.results56,go_sem,q0,q1,q2,q3]) rfl ?_
 exact⟨rfl,Z4 (Z4 (Z4 (Z4 (grow (Z7 (Below.refl _ _) _) b1) (Nat.le_refl _) _ _) (Nat.le_refl _) _ _) (Nat.le_refl _) _ _) (Nat.le_refl _) _ _⟩
end Go.Proofs.YtgehjolndmgffaaGreat
