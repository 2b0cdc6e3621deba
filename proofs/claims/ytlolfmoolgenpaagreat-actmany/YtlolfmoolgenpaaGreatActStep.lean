import Derived.Test.YtlolfmoolgenpaaGreatAccAt
import Derived.Test.YtlolfmoolgenpaaGreatPinStepS
namespace Go.Proofs.YtlolfmoolgenpaaGreat
open Go.RowKit
structure Xa where
 kd : Int
 sz : Int
 nu : Int
 ix : Int
 vl : Int
 ol : Int
 own : Bool
@[reducible] def Xa.v (X : Xa) : Value:=.agg #[.int .i64 X.kd,.int .i64 X.sz,.int .u64 X.nu,.int .i64 X.ix,.int .i64 X.vl,.int .i64 X.ol,.bool X.own]
@[reducible] def Xa.box (X : Xa) : Obj:=.cells #[.int .i64 X.kd,.int .i64 X.sz,.int .u64 X.nu,.int .i64 X.ix,.int .i64 X.vl,.int .i64 X.ol,.bool X.own] 36
def fitsV (v : Int) : Bool:=decide (0 <= v) && decide (v <= 1099511627775)
theorem BoxX.new (X : Xa) (w : World) : At (w.alloc X.box) w.heap.size 0 36 #[.int .i64 X.kd,.int .i64 X.sz,.int .u64 X.nu,.int .i64 X.ix,.int .i64 X.vl,.int .i64 X.ol,.bool X.own] [.int .i64 X.kd,.int .i64 X.sz,.int .u64 X.nu,.int .i64 X.ix,.int .i64 X.vl,.int .i64 X.ol,.bool X.own]:=At.new w _ [.int .i64 X.kd,.int .i64 X.sz,.int .u64 X.nu,.int .i64 X.ix,.int .i64 X.vl,.int .i64 X.ol,.bool X.own]
def Xa.may (X : Xa) : Bool:=decide (1 <= X.kd) && decide (X.kd <= 5) && fitsV X.vl && fitsV X.ol
theorem fits_any (v : Int) (w : World) : Calls Tryz.prog 25 #[.int .i64 v] w fun e w'=>e = .returned (.bool (fitsV v)) /\ w' = w:=by
 by_cases h0 : (0 : Int) <= v
 · by_cases h1 : v <= 1099511627775
   · go_enter Tryz.func25,Tryz.ntmps25
     go_wp2
     go_ret
     exact ⟨by simp [fitsV,h0,h1],rfl⟩
   · go_enter Tryz.func25,Tryz.ntmps25
     go_wp2
     go_ret
     exact ⟨by simp [fitsV,h0,h1],rfl⟩
 · go_enter Tryz.func25,Tryz.ntmps25
   go_wp2
   go_ret
   exact ⟨by unfold fitsV;rw [decide_eq_false (by omega : ¬ 0 <= v),Bool.false_and];rfl,rfl⟩
theorem check_any (X : Xa) (w : World) : Calls Tryz.prog 19 #[X.v] w fun e w'=>e = .returned (.bool X.may) /\ Below w.heap.size w w':=by
 obtain ⟨kd,sz,nu,ix,vl,ol,own⟩:=X
 obtain ⟨d1,h1⟩ : ∃ d,fitsV vl = d:=⟨_,rfl⟩
 obtain ⟨d2,h2⟩ : ∃ d,fitsV ol = d:=⟨_,rfl⟩
 have f1 : ∀ w,Calls Tryz.prog 25 #[.int .i64 vl] w fun e w'=>e = .returned (.bool d1) /\ w' = w:=fun w=>by rw [<- h1];exact fits_any vl w
 have f2 : ∀ w,Calls Tryz.prog 25 #[.int .i64 ol] w fun e w'=>e = .returned (.bool d2) /\ w' = w:=fun w=>by rw [<- h2];exact fits_any ol w
 have hm : Hid (Xa.may ⟨kd,sz,nu,ix,vl,ol,own⟩ = (decide (1 <= kd) && decide (kd <= 5) && d1 && d2)):=by rw [<- h1,<- h2];rfl
 rw [hm.out]
 clear h1 h2 hm
 show Calls Tryz.prog 19 #[.agg #[.int .i64 kd,.int .i64 sz,.int .u64 nu,.int .i64 ix,.int .i64 vl,.int .i64 ol,.bool own]] w _
 by_cases k0 : (1 : Int) <= kd
 · by_cases k1 : kd <= 5
   · cases d1
     · go_enter Tryz.func19,Tryz.ntmps19
       go_wp2_with (go_at_call 25;refine (f1 _).mono ?_;rintro e w1 ⟨rfl,rfl⟩)
       go_ret
       exact ⟨by simp [k0,k1],grow_alloc (Below.refl _ _) _⟩
     · go_enter Tryz.func19,Tryz.ntmps19
       go_wp2_with (first
        | (go_at_call 25;refine (f1 _).mono ?_;rintro e w1 ⟨rfl,rfl⟩;clear f1)
        | (go_at_call 25;refine (f2 _).mono ?_;rintro e w1 ⟨rfl,rfl⟩))
       go_ret
       exact ⟨by simp [k0,k1],grow_alloc (Below.refl _ _) _⟩
   · go_enter Tryz.func19,Tryz.ntmps19
     go_wp2
     go_ret
     exact ⟨by rw [decide_eq_false (by omega : ¬ kd <= 5),Bool.false_and,Bool.false_and];rfl,grow_alloc (Below.refl _ _) _⟩
 · go_enter Tryz.func19,Tryz.ntmps19
   go_wp2
   go_ret
   exact ⟨by rw [decide_eq_false (by omega : ¬ 1 <= kd),Bool.false_and,Bool.false_and,Bool.false_and];rfl,grow_alloc (Below.refl _ _) _⟩
def Xa.ob (X : Xa) : Obj:=if X.kd = 1 then alloc0 X.sz X.own else if X.kd = 2 then drop0 X.nu X.own else acc0 (X.kd - 2) X.nu X.ix X.vl X.ol X.own
def Xa.ty (X : Xa) : TypeId:=if X.kd = 1 then 88 else if X.kd = 2 then 90 else 113
theorem reach_any (X : Xa) (kd : Int) (w : World) : Calls Tryz.prog 37 #[X.v,.int .i64 kd] w fun e w'=>∃ W,e = .returned (.iface 113 (.pointer (some ⟨W.heap.size,0,none⟩))) /\ w' = W.alloc (acc0 kd X.nu X.ix X.vl X.ol X.own) /\ Below w.heap.size w W:=by
 obtain ⟨kx,sz,nu,ix,vl,ol,own⟩:=X
 show Calls Tryz.prog 37 #[.agg #[.int .i64 kx,.int .i64 sz,.int .u64 nu,.int .i64 ix,.int .i64 vl,.int .i64 ol,.bool own],.int .i64 kd] w _
 go_enter Tryz.func37,Tryz.ntmps37
 go_wp2_with (go_at_call 42;refine (newAcc_any kd nu ix vl ol own _).mono ?_;rintro e w1 ⟨W1,rfl,rfl,g1⟩)
 go_ret
 exact ⟨W1,rfl,rfl,grow (grow_alloc (Below.refl _ _) _) g1⟩
set_option maxRecDepth 20000 in
theorem who_any (X : Xa) (h0 : 1 <= X.kd) (h5 : X.kd <= 5) (w : World) : Calls Tryz.prog 22 #[X.v] w fun e w'=>∃ W,e = .returned (.iface X.ty (.pointer (some ⟨W.heap.size,0,none⟩))) /\ w' = W.alloc X.ob /\ Below w.heap.size w W:=by
 obtain ⟨kx,sz,nu,ix,vl,ol,own⟩:=X
 have rr:=fun kd w=>reach_any ⟨kx,sz,nu,ix,vl,ol,own⟩ kd w
 simp only [] at h0 h5
 have hk : kx = 1 \/ kx = 2 \/ kx = 3 \/ kx = 4 \/ kx = 5:=by omega
 show Calls Tryz.prog 22 #[.agg #[.int .i64 kx,.int .i64 sz,.int .u64 nu,.int .i64 ix,.int .i64 vl,.int .i64 ol,.bool own]] w _
 have rr : ∀ kd w,Calls Tryz.prog 37 #[.agg #[.int .i64 kx,.int .i64 sz,.int .u64 nu,.int .i64 ix,.int .i64 vl,.int .i64 ol,.bool own],.int .i64 kd] w _:=rr
 rcases hk with rfl | rfl | rfl | rfl | rfl
 · go_enter Tryz.func22,Tryz.ntmps22
   go_wp2_with (go_at_call 35;refine (newAlloc_any sz own _).mono ?_;rintro e w1 ⟨rfl,rfl⟩)
   go_ret
   exact ⟨_,by rw [Go.Deep.nblk_alloc];rfl,rfl,grow_alloc (Below.refl _ _) _⟩
 · go_enter Tryz.func22,Tryz.ntmps22
   go_wp2_with (go_at_call 36;refine (newDrop_any nu own _).mono ?_;rintro e w1 ⟨rfl,rfl⟩)
   go_ret
   exact ⟨_,by rw [Go.Deep.nblk_alloc];rfl,rfl,grow_alloc (Below.refl _ _) _⟩
 all_goals
  go_enter Tryz.func22,Tryz.ntmps22
  go_wp2_with (go_at_call 37;refine (rr _ _).mono ?_;rintro e w1 ⟨W1,rfl,rfl,g1⟩)
  go_ret
  exact ⟨W1,rfl,rfl,grow (grow_alloc (Below.refl _ _) _) g1⟩
structure ActAt (w : World) (bA bS bI b : Nat) (T : TypeId) (i : Nat) : Prop where
 a : ∃ c,At w bA 0 71 c [.iface T (.pointer (some ⟨b,0,none⟩)),.slice (some ⟨bS,min i 2,none⟩) (3 - i) (3 - i)]
 l : ∃ c,At w bS 0 78 c [.iface 64 (.pointer (some ⟨bI,0,none⟩)),.iface T (.pointer (some ⟨b,0,none⟩)),.iface 68 (.agg #[])]
 h1 : bA ≠ bS
 h2 : bA ≠ bI
 h3 : bA ≠ b
 h4 : bS ≠ bI
 h5 : bS ≠ b
 h6 : bI ≠ b
theorem newAct_any (X : Xa) (h : X.may = true) (w : World) : Calls Tryz.prog 14 #[X.v] w fun e w'=>∃ (bA bS bI b : Nat) (W : World) (c : Array Value),e = .returned (.tuple #[.pointer (some ⟨bA,0,none⟩),.int .i64 0]) /\ Below w.heap.size w w' /\ w.heap.size <= b /\ b < bI /\ bI < bS /\ bS < bA /\ ActAt w' bA bS bI b X.ty 0 /\ InAt w' bI 0 66 c 0 0 /\ b = W.heap.size /\ Below (W.alloc X.ob).heap.size (W.alloc X.ob) w':=by
 have hc:=check_any X
 rw [h] at hc
 have h0 : 1 <= X.kd /\ X.kd <= 5:=by
  unfold Xa.may at h
  simp only [Bool.and_eq_true,decide_eq_true_eq] at h
  exact h.1.1
 have hw:=who_any X h0.1 h0.2
 obtain ⟨kx,sz,nu,ix,vl,ol,own⟩:=X
 generalize hT : Xa.ty ⟨kx,sz,nu,ix,vl,ol,own⟩ = T at hw ⊢
 generalize hO : Xa.ob ⟨kx,sz,nu,ix,vl,ol,own⟩ = O at hw ⊢
 clear h h0 hT hO
 have hc : ∀ w,Calls Tryz.prog 19 #[.agg #[.int .i64 kx,.int .i64 sz,.int .u64 nu,.int .i64 ix,.int .i64 vl,.int .i64 ol,.bool own]] w _:=hc
 have hw : ∀ w,Calls Tryz.prog 22 #[.agg #[.int .i64 kx,.int .i64 sz,.int .u64 nu,.int .i64 ix,.int .i64 vl,.int .i64 ol,.bool own]] w _:=hw
 show Calls Tryz.prog 14 #[.agg #[.int .i64 kx,.int .i64 sz,.int .u64 nu,.int .i64 ix,.int .i64 vl,.int .i64 ol,.bool own]] w _
 have x0:=(BoxX.new (X:=⟨kx,sz,nu,ix,vl,ol,own⟩) w)
 go_enter Tryz.func14,Tryz.ntmps14
 go_wp2_with (first
  | (go_at_call 19;refine (hc _).mono ?_;rintro e w1 ⟨rfl,g1⟩;have x1:=x0.grown g1;have z0:=x1.at0 0 rfl;have z1:=x1.at0 1 rfl;have z2:=x1.at0 2 rfl;have z3:=x1.at0 3 rfl;have z4:=x1.at0 4 rfl;have z5:=x1.at0 5 rfl;have z6:=x1.at0 6 rfl)
  | (go_at_call 22;refine (hw _).mono ?_;rintro e w2 ⟨W2,rfl,rfl,g2⟩))
 refine bodyPost_ret (v:=.tuple #[.pointer (some ⟨W2.heap.size + 1 + 1 + 1,0,none⟩),.int .i64 0]) (by simp [results,Tryz.results14,go_sem]) rfl ?_
 have bb : Below w.heap.size w W2:=grow (grow (grow_alloc (Below.refl _ _) _) g1) g2
 have q1:=At.new (W2.alloc O) 66 [.int .i64 0,.int .u64 0]
 have q2:=At.new ((W2.alloc O).alloc (.cells #[.int .i64 0,.int .u64 0] 66)) 78 [.iface 64 (.pointer (some ⟨W2.heap.size + 1,0,none⟩)),.iface T (.pointer (some ⟨W2.heap.size,0,none⟩)),.iface 68 (.agg #[])]
 have q3:=At.new (((W2.alloc O).alloc (.cells #[.int .i64 0,.int .u64 0] 66)).alloc (.cells #[.iface 64 (.pointer (some ⟨W2.heap.size + 1,0,none⟩)),.iface T (.pointer (some ⟨W2.heap.size,0,none⟩)),.iface 68 (.agg #[])] 78)) 71 [.iface T (.pointer (some ⟨W2.heap.size,0,none⟩)),.slice (some ⟨W2.heap.size + 1 + 1,0,none⟩) 3 3]
 have q1':=(q1.grown (grow1 _ (.cells #[.iface 64 (.pointer (some ⟨W2.heap.size + 1,0,none⟩)),.iface T (.pointer (some ⟨W2.heap.size,0,none⟩)),.iface 68 (.agg #[])] 78))).grown (grow1 _ (.cells #[.iface T (.pointer (some ⟨W2.heap.size,0,none⟩)),.slice (some ⟨W2.heap.size + 1 + 1,0,none⟩) 3 3] 71))
 have q2':=q2.grown (grow1 _ (.cells #[.iface T (.pointer (some ⟨W2.heap.size,0,none⟩)),.slice (some ⟨W2.heap.size + 1 + 1,0,none⟩) 3 3] 71))
 simp only [Go.Deep.nblk_alloc] at q1' q2' q3
 refine ⟨W2.heap.size + 1 + 1 + 1,W2.heap.size + 1 + 1,W2.heap.size + 1,W2.heap.size,W2,_,rfl,grow_alloc (grow_alloc (grow_alloc (grow_alloc bb _) _) _) _,bb.size,by omega,by omega,by omega,⟨⟨_,q3⟩,⟨_,q2'⟩,by omega,by omega,by omega,by omega,by omega,by omega⟩,⟨q1'.obj,q1'.is 0 _ rfl,q1'.is 1 _ rfl⟩,rfl,grow (grow (grow1 _ _) (grow1 _ _)) (grow1 _ _)⟩
end Go.Proofs.YtlolfmoolgenpaaGreat

namespace Go.Proofs.YtlolfmoolgenpaaGreat
open Go.RowKit
set_option maxRecDepth 20000
set_option maxRecDepth 20000 in
theorem astep_call {w : World} {L : Loc} {bA bS bI b : Nat} {T : TypeId} {i : Nat} (h : ActAt w bA bS bI b T i) (hi : i < 3) (c0 c1 c2 c3 c4 c5 c6 who : Int) {U : TypeId} {rv : Value} {f : FuncId}
 (hv : w.cell? ⟨bS,i,none⟩ = some (.iface U rv))
 (hm : ∀ w,(method 292 U rv "Step").run Tryz.prog w = .ok (f,rv) w) (he : ∀ args w,(callFunc f args).run Tryz.prog w = .ok (.enter f args) w) (Z : Bool -> World -> Prop)
 (hc : ∀ w1,Below w.heap.size w w1 -> Calls Tryz.prog f #[rv,.agg #[.int .i64 c0,.int .i64 c1,.int .i64 c2,.int .i64 c3,.int .i64 c4,.int .i64 c5,.int .i64 c6,.pointer (some ⟨L.p,0,none⟩),.int .i64 who]] w1 fun e w'=>∃ d,e = .returned (.bool d) /\ w'.heap[bA]? = w1.heap[bA]? /\ Z d w') :
 Calls Tryz.prog 18 #[.pointer (some ⟨bA,0,none⟩),.agg #[.int .i64 c0,.int .i64 c1,.int .i64 c2,.int .i64 c3,.int .i64 c4,.int .i64 c5,.int .i64 c6,.pointer (some ⟨L.p,0,none⟩),.int .i64 who]] w fun e w'=>∃ d w1,Z d w1 /\ ((d = false /\ e = .returned (.bool false) /\ w' = w1) \/ (d = true /\ e = .returned (.bool (i == 2)) /\ w' = w1.setCell ⟨bA,1,none⟩ (.slice (some ⟨bS,min (i + 1) 2,none⟩) (2 - i) (2 - i)))):=by
 obtain ⟨c,ha⟩:=h.a
 have hBA:=ha.lt
 have hBS : bS < w.heap.size:=World.block_lt_of_cell? _ _ hv
 obtain rfl | rfl | rfl : i = 0 \/ i = 1 \/ i = 2:=by omega
 · have ha : At w bA 0 71 c [.iface T (.pointer (some ⟨b,0,none⟩)),.slice (some ⟨bS,0,none⟩) 3 3]:=ha
   have ha1:=ha.grown (grow1 w (.cells #[.int .i64 c0,.int .i64 c1,.int .i64 c2,.int .i64 c3,.int .i64 c4,.int .i64 c5,.int .i64 c6,.pointer (some ⟨L.p,0,none⟩),.int .i64 who] 27))
   have k1:=ha1.at0 1 rfl
   go_enter Tryz.func18,Tryz.ntmps18
   go_wp2
   refine wp_over (fun W=>Below w.heap.size w W /\ BoxV W w.heap.size c0 c1 c2 c3 c4 c5 c6 L.p who) ⟨grow_alloc (Below.refl _ _) _,BoxV.new⟩ ?_
   rintro W ⟨b1,v1⟩
   clear ha1 k1
   refine wp_region_rely_tail Grown 7 [.val (.pointer (some ⟨bA,0,none⟩)),.val (.pointer (some ⟨bA,0,none⟩)),.val (.pointer (some ⟨bA,1,none⟩)),.val (.slice (some ⟨bS,0,none⟩) 3 3),.val (.pointer (some ⟨bS,0,none⟩)),.val (.iface U rv),.val (.agg #[.int .i64 c0,.int .i64 c1,.int .i64 c2,.int .i64 c3,.int .i64 c4,.int .i64 c5,.int .i64 c6,.pointer (some ⟨L.p,0,none⟩),.int .i64 who])] (by kernel_rfl) Grown.refl Grown.trans (by decide) (by kernel_rfl) (by kernel_rfl) (by kernel_rfl) (by kernel_rfl) (by kernel_rfl) (by kernel_rfl) ?_
   simp only [List.take_succ_cons,List.take_zero,relyAll,Act.put,List.setIfInBounds_toArray,List.set_cons_zero,List.set_cons_succ]
   refine ⟨?_,?_,?_,?_,?_,?_,?_,?_⟩
   · intros;apply ol;go_simp;exact gl
   · intros;apply ol;go_simp;exact gl
   · intros;apply ol;go_simp;exact gl
   · intro w' hg _
     apply ol
     have k1:=((ha.grown b1).drew.grown hg).at0 1 rfl
     go_simp
     exact gl
   · intros;apply ol;go_simp;exact gl
   · intro w' hg _
     apply ol
     have k2 : w'.cell? ⟨bS,0,none⟩ = some (.iface U rv):=keep' (grow (grow b1 ((Below.refl _ _).drew)) hg) hv
     go_simp
     exact gl
   · intro w' hg _
     apply ol
     obtain ⟨y0,y1,y2,y3,y4,y5,y6,y7,y8⟩:=(v1.grown ((Below.refl _ _).drew)).grown hg
     go_simp
     exact gl
   intro w5 hg _
   have b5 : Below w.heap.size w w5:=grow (grow b1 ((Below.refl _ _).drew)) hg
   go_wp2_with (refine (hc _ b5).mono ?_;rintro e w6 ⟨d,rfl,eA,hz⟩;have ha6:=(ha.grown b5).of_block eA;have k1:=ha6.at0 1 rfl;have kf:=ha6.fz;cases d)
   · go_ret
     exact ⟨false,w6,hz,Or.inl ⟨rfl,rfl,rfl⟩⟩
   · go_ret
     exact ⟨true,w6,hz,Or.inr ⟨rfl,rfl,rfl⟩⟩
 · have ha : At w bA 0 71 c [.iface T (.pointer (some ⟨b,0,none⟩)),.slice (some ⟨bS,1,none⟩) 2 2]:=ha
   have ha1:=ha.grown (grow1 w (.cells #[.int .i64 c0,.int .i64 c1,.int .i64 c2,.int .i64 c3,.int .i64 c4,.int .i64 c5,.int .i64 c6,.pointer (some ⟨L.p,0,none⟩),.int .i64 who] 27))
   have k1:=ha1.at0 1 rfl
   go_enter Tryz.func18,Tryz.ntmps18
   go_wp2
   refine wp_over (fun W=>Below w.heap.size w W /\ BoxV W w.heap.size c0 c1 c2 c3 c4 c5 c6 L.p who) ⟨grow_alloc (Below.refl _ _) _,BoxV.new⟩ ?_
   rintro W ⟨b1,v1⟩
   clear ha1 k1
   refine wp_region_rely_tail Grown 7 [.val (.pointer (some ⟨bA,0,none⟩)),.val (.pointer (some ⟨bA,0,none⟩)),.val (.pointer (some ⟨bA,1,none⟩)),.val (.slice (some ⟨bS,1,none⟩) 2 2),.val (.pointer (some ⟨bS,1,none⟩)),.val (.iface U rv),.val (.agg #[.int .i64 c0,.int .i64 c1,.int .i64 c2,.int .i64 c3,.int .i64 c4,.int .i64 c5,.int .i64 c6,.pointer (some ⟨L.p,0,none⟩),.int .i64 who])] (by kernel_rfl) Grown.refl Grown.trans (by decide) (by kernel_rfl) (by kernel_rfl) (by kernel_rfl) (by kernel_rfl) (by kernel_rfl) (by kernel_rfl) ?_
   simp only [List.take_succ_cons,List.take_zero,relyAll,Act.put,List.setIfInBounds_toArray,List.set_cons_zero,List.set_cons_succ]
   refine ⟨?_,?_,?_,?_,?_,?_,?_,?_⟩
   · intros;apply ol;go_simp;exact gl
   · intros;apply ol;go_simp;exact gl
   · intros;apply ol;go_simp;exact gl
   · intro w' hg _
     apply ol
     have k1:=((ha.grown b1).drew.grown hg).at0 1 rfl
     go_simp
     exact gl
   · intros;apply ol;go_simp;exact gl
   · intro w' hg _
     apply ol
     have k2 : w'.cell? ⟨bS,1,none⟩ = some (.iface U rv):=keep' (grow (grow b1 ((Below.refl _ _).drew)) hg) hv
     go_simp
     exact gl
   · intro w' hg _
     apply ol
     obtain ⟨y0,y1,y2,y3,y4,y5,y6,y7,y8⟩:=(v1.grown ((Below.refl _ _).drew)).grown hg
     go_simp
     exact gl
   intro w5 hg _
   have b5 : Below w.heap.size w w5:=grow (grow b1 ((Below.refl _ _).drew)) hg
   go_wp2_with (refine (hc _ b5).mono ?_;rintro e w6 ⟨d,rfl,eA,hz⟩;have ha6:=(ha.grown b5).of_block eA;have k1:=ha6.at0 1 rfl;have kf:=ha6.fz;cases d)
   · go_ret
     exact ⟨false,w6,hz,Or.inl ⟨rfl,rfl,rfl⟩⟩
   · go_ret
     exact ⟨true,w6,hz,Or.inr ⟨rfl,rfl,rfl⟩⟩
 · have ha : At w bA 0 71 c [.iface T (.pointer (some ⟨b,0,none⟩)),.slice (some ⟨bS,2,none⟩) 1 1]:=ha
   have ha1:=ha.grown (grow1 w (.cells #[.int .i64 c0,.int .i64 c1,.int .i64 c2,.int .i64 c3,.int .i64 c4,.int .i64 c5,.int .i64 c6,.pointer (some ⟨L.p,0,none⟩),.int .i64 who] 27))
   have k1:=ha1.at0 1 rfl
   go_enter Tryz.func18,Tryz.ntmps18
   go_wp2
   refine wp_over (fun W=>Below w.heap.size w W /\ BoxV W w.heap.size c0 c1 c2 c3 c4 c5 c6 L.p who) ⟨grow_alloc (Below.refl _ _) _,BoxV.new⟩ ?_
   rintro W ⟨b1,v1⟩
   clear ha1 k1
   refine wp_region_rely_tail Grown 7 [.val (.pointer (some ⟨bA,0,none⟩)),.val (.pointer (some ⟨bA,0,none⟩)),.val (.pointer (some ⟨bA,1,none⟩)),.val (.slice (some ⟨bS,2,none⟩) 1 1),.val (.pointer (some ⟨bS,2,none⟩)),.val (.iface U rv),.val (.agg #[.int .i64 c0,.int .i64 c1,.int .i64 c2,.int .i64 c3,.int .i64 c4,.int .i64 c5,.int .i64 c6,.pointer (some ⟨L.p,0,none⟩),.int .i64 who])] (by kernel_rfl) Grown.refl Grown.trans (by decide) (by kernel_rfl) (by kernel_rfl) (by kernel_rfl) (by kernel_rfl) (by kernel_rfl) (by kernel_rfl) ?_
   simp only [List.take_succ_cons,List.take_zero,relyAll,Act.put,List.setIfInBounds_toArray,List.set_cons_zero,List.set_cons_succ]
   refine ⟨?_,?_,?_,?_,?_,?_,?_,?_⟩
   · intros;apply ol;go_simp;exact gl
   · intros;apply ol;go_simp;exact gl
   · intros;apply ol;go_simp;exact gl
   · intro w' hg _
     apply ol
     have k1:=((ha.grown b1).drew.grown hg).at0 1 rfl
     go_simp
     exact gl
   · intros;apply ol;go_simp;exact gl
   · intro w' hg _
     apply ol
     have k2 : w'.cell? ⟨bS,2,none⟩ = some (.iface U rv):=keep' (grow (grow b1 ((Below.refl _ _).drew)) hg) hv
     go_simp
     exact gl
   · intro w' hg _
     apply ol
     obtain ⟨y0,y1,y2,y3,y4,y5,y6,y7,y8⟩:=(v1.grown ((Below.refl _ _).drew)).grown hg
     go_simp
     exact gl
   intro w5 hg _
   have b5 : Below w.heap.size w w5:=grow (grow b1 ((Below.refl _ _).drew)) hg
   go_wp2_with (refine (hc _ b5).mono ?_;rintro e w6 ⟨d,rfl,eA,hz⟩;have ha6:=(ha.grown b5).of_block eA;have k1:=ha6.at0 1 rfl;have kf:=ha6.fz;cases d)
   · go_ret
     exact ⟨false,w6,hz,Or.inl ⟨rfl,rfl,rfl⟩⟩
   · go_ret
     exact ⟨true,w6,hz,Or.inr ⟨rfl,rfl,rfl⟩⟩
set_option maxRecDepth 20000 in
theorem actdone_call {w : World} {bA bS bI b : Nat} {T : TypeId} (h : ActAt w bA bS bI b T 3) {f : FuncId} (hT : ∀ w,(binOp .eql 62 (.iface T (.pointer (some ⟨b,0,none⟩))) .nilIface).run Tryz.prog w = .ok (.bool false) w)
 (hm : ∀ w,(method 292 T (.pointer (some ⟨b,0,none⟩)) "Done").run Tryz.prog w = .ok (f,.pointer (some ⟨b,0,none⟩)) w) (he : ∀ args w,(callFunc f args).run Tryz.prog w = .ok (.enter f args) w) (E H V St : Int)
 (hc : ∀ w1,Below w.heap.size w w1 -> Calls Tryz.prog f #[.pointer (some ⟨b,0,none⟩)] w1 fun e w'=>e = .returned (.agg #[.int .i64 E,.int .u64 H,.int .i64 V,.int .i64 St]) /\ Below w1.heap.size w1 w') :
 Calls Tryz.prog 20 #[.pointer (some ⟨bA,0,none⟩)] w fun e w'=>e = .returned (.agg #[.int .i64 E,.int .u64 H,.int .i64 V,.int .i64 St]) /\ Below w.heap.size w w':=by
 obtain ⟨c,ha⟩:=h.a
 have ha : At w bA 0 71 c [.iface T (.pointer (some ⟨b,0,none⟩)),.slice (some ⟨bS,2,none⟩) 0 0]:=ha
 have ha1:=ha.grown (grow1 w (.cells #[.int .i64 0,.int .u64 0,.int .i64 0,.int .i64 0] 40))
 have k0:=ha1.at0 0 rfl
 have k1:=ha1.at0 1 rfl
 have d0:=At.new w 40 [.int .i64 0,.int .u64 0,.int .i64 0,.int .i64 0]
 go_enter Tryz.func20,Tryz.ntmps20
 go_wp2_with (refine (hc _ (grow_alloc (Below.refl _ _) _)).mono ?_;rintro e w1 ⟨rfl,b1⟩;have d1:=d0.grown b1;have q0:=d1.at0 0 rfl;have q1:=d1.at0 1 rfl;have q2:=d1.at0 2 rfl;have q3:=d1.at0 3 rfl;have qf:=d1.fz)
 refine bodyPost_ret (v:=.agg #[.int .i64 E,.int .u64 H,.int .i64 V,.int .i64 St]) (by simp [results,Tryz.results20,go_sem,q0,q1,q2,q3]) rfl ?_
 exact ⟨rfl,below_setIn (below_setIn (below_setIn (below_setIn (grow (grow_alloc (Below.refl _ _) _) b1) (Nat.le_refl _) _ _) (Nat.le_refl _) _ _) (Nat.le_refl _) _ _) (Nat.le_refl _) _ _⟩
end Go.Proofs.YtlolfmoolgenpaaGreat
