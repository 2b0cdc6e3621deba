import Derived.Test.YtlolfmoolgenpaaGreatActAwake
namespace Go.Proofs.YtlolfmoolgenpaaGreat
open Go.RowKit
set_option maxRecDepth 20000 in
theorem checks0 (kd sz nu ix vl ol : Int) (own : Bool) (w : World) (k0 : ¬ (1 : Int) <= kd) (hm : Xa.may ⟨kd,sz,nu,ix,vl,ol,own⟩ = false) : Calls Tryz.prog 5 #[.agg #[.int .i64 kd,.int .i64 sz,.int .u64 nu,.int .i64 ix,.int .i64 vl,.int .i64 ol,.bool own]] w fun e w'=>e = .returned (.bool true) /\ Below w.heap.size w w':=by
 have hchk:=fun w=>check_any ⟨kd,sz,nu,ix,vl,ol,own⟩ w
 rw [hm] at hchk
 have hchk : ∀ w,Calls Tryz.prog 19 #[.agg #[.int .i64 kd,.int .i64 sz,.int .u64 nu,.int .i64 ix,.int .i64 vl,.int .i64 ol,.bool own]] w _:=hchk
 have hnew : ∀ w,Calls Tryz.prog 14 #[.agg #[.int .i64 kd,.int .i64 sz,.int .u64 nu,.int .i64 ix,.int .i64 vl,.int .i64 ol,.bool own]] w _:=fun w=>newAct_bad ⟨kd,sz,nu,ix,vl,ol,own⟩ hm w
 have f0 : ∀ (a1 a2 a3 a4 : Value) (w : World),(Instr.field 40 (.agg #[a1,a2,a3,a4]) 0).run Tryz.prog w = .ok a1 w:=fun a1 a2 a3 a4 w=>by kernel_rfl
 have x0:=BoxX.new ⟨kd,sz,nu,ix,vl,ol,own⟩ w
 clear hm
 go_enter Tryz.func5,Tryz.ntmps5
 go_wp2_with (first
  | (go_at_call 14;refine (hnew _).mono ?_;rintro e w1 ⟨rfl,g1⟩;have x1:=x0.grown g1;have t0:=x1.at0 0 rfl;have t1:=x1.at0 1 rfl;have t2:=x1.at0 2 rfl;have t3:=x1.at0 3 rfl;have t4:=x1.at0 4 rfl;have t5:=x1.at0 5 rfl;have t6:=x1.at0 6 rfl)
  | (go_at_call 10;refine (awake15_any _).mono ?_;rintro e w2 ⟨rfl,g2⟩;have x2:=x1.grown g2;have u0:=x2.at0 0 rfl;have u1:=x2.at0 1 rfl;have u2:=x2.at0 2 rfl;have u3:=x2.at0 3 rfl;have u4:=x2.at0 4 rfl;have u5:=x2.at0 5 rfl;have u6:=x2.at0 6 rfl)
  | (go_at_call 19;refine (hchk _).mono ?_;rintro e w3 ⟨rfl,g3⟩)
  | (go_at_call 20;refine (actdone_nil _).mono ?_;rintro e w4 ⟨rfl,g4⟩)
  | (go_at_call 18;refine (astep_nil _ _ rfl).mono ?_;rintro e w5 ⟨rfl,g5⟩))
 go_ret
 exact ⟨rfl,grow (grow (grow (grow (grow (grow_alloc (Below.refl _ _) _) g1) g2) g3) g4) g5⟩
set_option maxRecDepth 20000 in
theorem checks1 (kd sz nu ix vl ol : Int) (own : Bool) (w : World) (k0 : (1 : Int) <= kd) (k1 : ¬ kd <= 5) (hm : Xa.may ⟨kd,sz,nu,ix,vl,ol,own⟩ = false) : Calls Tryz.prog 5 #[.agg #[.int .i64 kd,.int .i64 sz,.int .u64 nu,.int .i64 ix,.int .i64 vl,.int .i64 ol,.bool own]] w fun e w'=>e = .returned (.bool true) /\ Below w.heap.size w w':=by
 have hchk:=fun w=>check_any ⟨kd,sz,nu,ix,vl,ol,own⟩ w
 rw [hm] at hchk
 have hchk : ∀ w,Calls Tryz.prog 19 #[.agg #[.int .i64 kd,.int .i64 sz,.int .u64 nu,.int .i64 ix,.int .i64 vl,.int .i64 ol,.bool own]] w _:=hchk
 have hnew : ∀ w,Calls Tryz.prog 14 #[.agg #[.int .i64 kd,.int .i64 sz,.int .u64 nu,.int .i64 ix,.int .i64 vl,.int .i64 ol,.bool own]] w _:=fun w=>newAct_bad ⟨kd,sz,nu,ix,vl,ol,own⟩ hm w
 have f0 : ∀ (a1 a2 a3 a4 : Value) (w : World),(Instr.field 40 (.agg #[a1,a2,a3,a4]) 0).run Tryz.prog w = .ok a1 w:=fun a1 a2 a3 a4 w=>by kernel_rfl
 have x0:=BoxX.new ⟨kd,sz,nu,ix,vl,ol,own⟩ w
 clear hm
 go_enter Tryz.func5,Tryz.ntmps5
 go_wp2_with (first
  | (go_at_call 14;refine (hnew _).mono ?_;rintro e w1 ⟨rfl,g1⟩;have x1:=x0.grown g1;have t0:=x1.at0 0 rfl;have t1:=x1.at0 1 rfl;have t2:=x1.at0 2 rfl;have t3:=x1.at0 3 rfl;have t4:=x1.at0 4 rfl;have t5:=x1.at0 5 rfl;have t6:=x1.at0 6 rfl)
  | (go_at_call 10;refine (awake15_any _).mono ?_;rintro e w2 ⟨rfl,g2⟩;have x2:=x1.grown g2;have u0:=x2.at0 0 rfl;have u1:=x2.at0 1 rfl;have u2:=x2.at0 2 rfl;have u3:=x2.at0 3 rfl;have u4:=x2.at0 4 rfl;have u5:=x2.at0 5 rfl;have u6:=x2.at0 6 rfl)
  | (go_at_call 19;refine (hchk _).mono ?_;rintro e w3 ⟨rfl,g3⟩)
  | (go_at_call 20;refine (actdone_nil _).mono ?_;rintro e w4 ⟨rfl,g4⟩)
  | (go_at_call 18;refine (astep_nil _ _ rfl).mono ?_;rintro e w5 ⟨rfl,g5⟩))
 go_ret
 exact ⟨rfl,grow (grow (grow (grow (grow (grow_alloc (Below.refl _ _) _) g1) g2) g3) g4) g5⟩
set_option maxRecDepth 20000 in
theorem checks2 (kd sz nu ix vl ol : Int) (own : Bool) (w : World) (k0 : (1 : Int) <= kd) (k1 : kd <= 5) (v0 : ¬ (0 : Int) <= vl) (hm : Xa.may ⟨kd,sz,nu,ix,vl,ol,own⟩ = false) : Calls Tryz.prog 5 #[.agg #[.int .i64 kd,.int .i64 sz,.int .u64 nu,.int .i64 ix,.int .i64 vl,.int .i64 ol,.bool own]] w fun e w'=>e = .returned (.bool true) /\ Below w.heap.size w w':=by
 have hchk:=fun w=>check_any ⟨kd,sz,nu,ix,vl,ol,own⟩ w
 rw [hm] at hchk
 have hchk : ∀ w,Calls Tryz.prog 19 #[.agg #[.int .i64 kd,.int .i64 sz,.int .u64 nu,.int .i64 ix,.int .i64 vl,.int .i64 ol,.bool own]] w _:=hchk
 have hnew : ∀ w,Calls Tryz.prog 14 #[.agg #[.int .i64 kd,.int .i64 sz,.int .u64 nu,.int .i64 ix,.int .i64 vl,.int .i64 ol,.bool own]] w _:=fun w=>newAct_bad ⟨kd,sz,nu,ix,vl,ol,own⟩ hm w
 have f0 : ∀ (a1 a2 a3 a4 : Value) (w : World),(Instr.field 40 (.agg #[a1,a2,a3,a4]) 0).run Tryz.prog w = .ok a1 w:=fun a1 a2 a3 a4 w=>by kernel_rfl
 have x0:=BoxX.new ⟨kd,sz,nu,ix,vl,ol,own⟩ w
 clear hm
 go_enter Tryz.func5,Tryz.ntmps5
 go_wp2_with (first
  | (go_at_call 14;refine (hnew _).mono ?_;rintro e w1 ⟨rfl,g1⟩;have x1:=x0.grown g1;have t0:=x1.at0 0 rfl;have t1:=x1.at0 1 rfl;have t2:=x1.at0 2 rfl;have t3:=x1.at0 3 rfl;have t4:=x1.at0 4 rfl;have t5:=x1.at0 5 rfl;have t6:=x1.at0 6 rfl)
  | (go_at_call 10;refine (awake15_any _).mono ?_;rintro e w2 ⟨rfl,g2⟩;have x2:=x1.grown g2;have u0:=x2.at0 0 rfl;have u1:=x2.at0 1 rfl;have u2:=x2.at0 2 rfl;have u3:=x2.at0 3 rfl;have u4:=x2.at0 4 rfl;have u5:=x2.at0 5 rfl;have u6:=x2.at0 6 rfl)
  | (go_at_call 19;refine (hchk _).mono ?_;rintro e w3 ⟨rfl,g3⟩)
  | (go_at_call 20;refine (actdone_nil _).mono ?_;rintro e w4 ⟨rfl,g4⟩)
  | (go_at_call 18;refine (astep_nil _ _ rfl).mono ?_;rintro e w5 ⟨rfl,g5⟩))
 go_ret
 exact ⟨rfl,grow (grow (grow (grow (grow (grow_alloc (Below.refl _ _) _) g1) g2) g3) g4) g5⟩
set_option maxRecDepth 20000 in
theorem checks3 (kd sz nu ix vl ol : Int) (own : Bool) (w : World) (k0 : (1 : Int) <= kd) (k1 : kd <= 5) (v0 : (0 : Int) <= vl) (v1 : ¬ vl <= 1099511627775) (hm : Xa.may ⟨kd,sz,nu,ix,vl,ol,own⟩ = false) : Calls Tryz.prog 5 #[.agg #[.int .i64 kd,.int .i64 sz,.int .u64 nu,.int .i64 ix,.int .i64 vl,.int .i64 ol,.bool own]] w fun e w'=>e = .returned (.bool true) /\ Below w.heap.size w w':=by
 have hchk:=fun w=>check_any ⟨kd,sz,nu,ix,vl,ol,own⟩ w
 rw [hm] at hchk
 have hchk : ∀ w,Calls Tryz.prog 19 #[.agg #[.int .i64 kd,.int .i64 sz,.int .u64 nu,.int .i64 ix,.int .i64 vl,.int .i64 ol,.bool own]] w _:=hchk
 have hnew : ∀ w,Calls Tryz.prog 14 #[.agg #[.int .i64 kd,.int .i64 sz,.int .u64 nu,.int .i64 ix,.int .i64 vl,.int .i64 ol,.bool own]] w _:=fun w=>newAct_bad ⟨kd,sz,nu,ix,vl,ol,own⟩ hm w
 have f0 : ∀ (a1 a2 a3 a4 : Value) (w : World),(Instr.field 40 (.agg #[a1,a2,a3,a4]) 0).run Tryz.prog w = .ok a1 w:=fun a1 a2 a3 a4 w=>by kernel_rfl
 have x0:=BoxX.new ⟨kd,sz,nu,ix,vl,ol,own⟩ w
 clear hm
 go_enter Tryz.func5,Tryz.ntmps5
 go_wp2_with (first
  | (go_at_call 14;refine (hnew _).mono ?_;rintro e w1 ⟨rfl,g1⟩;have x1:=x0.grown g1;have t0:=x1.at0 0 rfl;have t1:=x1.at0 1 rfl;have t2:=x1.at0 2 rfl;have t3:=x1.at0 3 rfl;have t4:=x1.at0 4 rfl;have t5:=x1.at0 5 rfl;have t6:=x1.at0 6 rfl)
  | (go_at_call 10;refine (awake15_any _).mono ?_;rintro e w2 ⟨rfl,g2⟩;have x2:=x1.grown g2;have u0:=x2.at0 0 rfl;have u1:=x2.at0 1 rfl;have u2:=x2.at0 2 rfl;have u3:=x2.at0 3 rfl;have u4:=x2.at0 4 rfl;have u5:=x2.at0 5 rfl;have u6:=x2.at0 6 rfl)
  | (go_at_call 19;refine (hchk _).mono ?_;rintro e w3 ⟨rfl,g3⟩)
  | (go_at_call 20;refine (actdone_nil _).mono ?_;rintro e w4 ⟨rfl,g4⟩)
  | (go_at_call 18;refine (astep_nil _ _ rfl).mono ?_;rintro e w5 ⟨rfl,g5⟩))
 go_ret
 exact ⟨rfl,grow (grow (grow (grow (grow (grow_alloc (Below.refl _ _) _) g1) g2) g3) g4) g5⟩
set_option maxRecDepth 20000 in
theorem checks4 (kd sz nu ix vl ol : Int) (own : Bool) (w : World) (k0 : (1 : Int) <= kd) (k1 : kd <= 5) (v0 : (0 : Int) <= vl) (v1 : vl <= 1099511627775) (o0 : ¬ (0 : Int) <= ol) (hm : Xa.may ⟨kd,sz,nu,ix,vl,ol,own⟩ = false) : Calls Tryz.prog 5 #[.agg #[.int .i64 kd,.int .i64 sz,.int .u64 nu,.int .i64 ix,.int .i64 vl,.int .i64 ol,.bool own]] w fun e w'=>e = .returned (.bool true) /\ Below w.heap.size w w':=by
 have hchk:=fun w=>check_any ⟨kd,sz,nu,ix,vl,ol,own⟩ w
 rw [hm] at hchk
 have hchk : ∀ w,Calls Tryz.prog 19 #[.agg #[.int .i64 kd,.int .i64 sz,.int .u64 nu,.int .i64 ix,.int .i64 vl,.int .i64 ol,.bool own]] w _:=hchk
 have hnew : ∀ w,Calls Tryz.prog 14 #[.agg #[.int .i64 kd,.int .i64 sz,.int .u64 nu,.int .i64 ix,.int .i64 vl,.int .i64 ol,.bool own]] w _:=fun w=>newAct_bad ⟨kd,sz,nu,ix,vl,ol,own⟩ hm w
 have f0 : ∀ (a1 a2 a3 a4 : Value) (w : World),(Instr.field 40 (.agg #[a1,a2,a3,a4]) 0).run Tryz.prog w = .ok a1 w:=fun a1 a2 a3 a4 w=>by kernel_rfl
 have x0:=BoxX.new ⟨kd,sz,nu,ix,vl,ol,own⟩ w
 clear hm
 go_enter Tryz.func5,Tryz.ntmps5
 go_wp2_with (first
  | (go_at_call 14;refine (hnew _).mono ?_;rintro e w1 ⟨rfl,g1⟩;have x1:=x0.grown g1;have t0:=x1.at0 0 rfl;have t1:=x1.at0 1 rfl;have t2:=x1.at0 2 rfl;have t3:=x1.at0 3 rfl;have t4:=x1.at0 4 rfl;have t5:=x1.at0 5 rfl;have t6:=x1.at0 6 rfl)
  | (go_at_call 10;refine (awake15_any _).mono ?_;rintro e w2 ⟨rfl,g2⟩;have x2:=x1.grown g2;have u0:=x2.at0 0 rfl;have u1:=x2.at0 1 rfl;have u2:=x2.at0 2 rfl;have u3:=x2.at0 3 rfl;have u4:=x2.at0 4 rfl;have u5:=x2.at0 5 rfl;have u6:=x2.at0 6 rfl)
  | (go_at_call 19;refine (hchk _).mono ?_;rintro e w3 ⟨rfl,g3⟩)
  | (go_at_call 20;refine (actdone_nil _).mono ?_;rintro e w4 ⟨rfl,g4⟩)
  | (go_at_call 18;refine (astep_nil _ _ rfl).mono ?_;rintro e w5 ⟨rfl,g5⟩))
 go_ret
 exact ⟨rfl,grow (grow (grow (grow (grow (grow_alloc (Below.refl _ _) _) g1) g2) g3) g4) g5⟩
set_option maxRecDepth 20000 in
theorem checks5 (kd sz nu ix vl ol : Int) (own : Bool) (w : World) (k0 : (1 : Int) <= kd) (k1 : kd <= 5) (v0 : (0 : Int) <= vl) (v1 : vl <= 1099511627775) (o0 : (0 : Int) <= ol) (o1 : ¬ ol <= 1099511627775) (hm : Xa.may ⟨kd,sz,nu,ix,vl,ol,own⟩ = false) : Calls Tryz.prog 5 #[.agg #[.int .i64 kd,.int .i64 sz,.int .u64 nu,.int .i64 ix,.int .i64 vl,.int .i64 ol,.bool own]] w fun e w'=>e = .returned (.bool true) /\ Below w.heap.size w w':=by
 have hchk:=fun w=>check_any ⟨kd,sz,nu,ix,vl,ol,own⟩ w
 rw [hm] at hchk
 have hchk : ∀ w,Calls Tryz.prog 19 #[.agg #[.int .i64 kd,.int .i64 sz,.int .u64 nu,.int .i64 ix,.int .i64 vl,.int .i64 ol,.bool own]] w _:=hchk
 have hnew : ∀ w,Calls Tryz.prog 14 #[.agg #[.int .i64 kd,.int .i64 sz,.int .u64 nu,.int .i64 ix,.int .i64 vl,.int .i64 ol,.bool own]] w _:=fun w=>newAct_bad ⟨kd,sz,nu,ix,vl,ol,own⟩ hm w
 have f0 : ∀ (a1 a2 a3 a4 : Value) (w : World),(Instr.field 40 (.agg #[a1,a2,a3,a4]) 0).run Tryz.prog w = .ok a1 w:=fun a1 a2 a3 a4 w=>by kernel_rfl
 have x0:=BoxX.new ⟨kd,sz,nu,ix,vl,ol,own⟩ w
 clear hm
 go_enter Tryz.func5,Tryz.ntmps5
 go_wp2_with (first
  | (go_at_call 14;refine (hnew _).mono ?_;rintro e w1 ⟨rfl,g1⟩;have x1:=x0.grown g1;have t0:=x1.at0 0 rfl;have t1:=x1.at0 1 rfl;have t2:=x1.at0 2 rfl;have t3:=x1.at0 3 rfl;have t4:=x1.at0 4 rfl;have t5:=x1.at0 5 rfl;have t6:=x1.at0 6 rfl)
  | (go_at_call 10;refine (awake15_any _).mono ?_;rintro e w2 ⟨rfl,g2⟩;have x2:=x1.grown g2;have u0:=x2.at0 0 rfl;have u1:=x2.at0 1 rfl;have u2:=x2.at0 2 rfl;have u3:=x2.at0 3 rfl;have u4:=x2.at0 4 rfl;have u5:=x2.at0 5 rfl;have u6:=x2.at0 6 rfl)
  | (go_at_call 19;refine (hchk _).mono ?_;rintro e w3 ⟨rfl,g3⟩)
  | (go_at_call 20;refine (actdone_nil _).mono ?_;rintro e w4 ⟨rfl,g4⟩)
  | (go_at_call 18;refine (astep_nil _ _ rfl).mono ?_;rintro e w5 ⟨rfl,g5⟩))
 go_ret
 exact ⟨rfl,grow (grow (grow (grow (grow (grow_alloc (Below.refl _ _) _) g1) g2) g3) g4) g5⟩
set_option maxRecDepth 20000 in
theorem checks6 (kd sz nu ix vl ol : Int) (own : Bool) (w : World) (k0 : (1 : Int) <= kd) (k1 : kd <= 5) (v0 : (0 : Int) <= vl) (v1 : vl <= 1099511627775) (o0 : (0 : Int) <= ol) (o1 : ol <= 1099511627775) (hm : Xa.may ⟨kd,sz,nu,ix,vl,ol,own⟩ = true) : Calls Tryz.prog 5 #[.agg #[.int .i64 kd,.int .i64 sz,.int .u64 nu,.int .i64 ix,.int .i64 vl,.int .i64 ol,.bool own]] w fun e w'=>e = .returned (.bool true) /\ Below w.heap.size w w':=by
 have hchk:=fun w=>check_any ⟨kd,sz,nu,ix,vl,ol,own⟩ w
 rw [hm] at hchk
 have hchk : ∀ w,Calls Tryz.prog 19 #[.agg #[.int .i64 kd,.int .i64 sz,.int .u64 nu,.int .i64 ix,.int .i64 vl,.int .i64 ol,.bool own]] w _:=hchk
 have hnew : ∀ w,Calls Tryz.prog 14 #[.agg #[.int .i64 kd,.int .i64 sz,.int .u64 nu,.int .i64 ix,.int .i64 vl,.int .i64 ol,.bool own]] w fun e w'=>∃ bA : Nat,e = .returned (.tuple #[.pointer (some ⟨bA,0,none⟩),.int .i64 0]) /\ Below w.heap.size w w':=fun w=>(newAct_any ⟨kd,sz,nu,ix,vl,ol,own⟩ hm w).mono fun e w' ⟨bA,_,_,_,_,_,h1,h2,_⟩=>⟨bA,h1,h2⟩
 have f0 : ∀ (a1 a2 a3 a4 : Value) (w : World),(Instr.field 40 (.agg #[a1,a2,a3,a4]) 0).run Tryz.prog w = .ok a1 w:=fun a1 a2 a3 a4 w=>by kernel_rfl
 have x0:=BoxX.new ⟨kd,sz,nu,ix,vl,ol,own⟩ w
 clear hm
 go_enter Tryz.func5,Tryz.ntmps5
 go_wp2_with (first
  | (go_at_call 14;refine (hnew _).mono ?_;rintro e w1 ⟨bA,rfl,g1⟩;have x1:=x0.grown g1;have t0:=x1.at0 0 rfl;have t1:=x1.at0 1 rfl;have t2:=x1.at0 2 rfl;have t3:=x1.at0 3 rfl;have t4:=x1.at0 4 rfl;have t5:=x1.at0 5 rfl;have t6:=x1.at0 6 rfl)
  | (go_at_call 10;refine (awake15_any _).mono ?_;rintro e w2 ⟨rfl,g2⟩;have x2:=x1.grown g2;have u0:=x2.at0 0 rfl;have u1:=x2.at0 1 rfl;have u2:=x2.at0 2 rfl;have u3:=x2.at0 3 rfl;have u4:=x2.at0 4 rfl;have u5:=x2.at0 5 rfl;have u6:=x2.at0 6 rfl)
  | (go_at_call 19;refine (hchk _).mono ?_;rintro e w3 ⟨rfl,g3⟩)
  | (go_at_call 20;refine (actdone_nil _).mono ?_;rintro e w4 ⟨rfl,g4⟩)
  | (go_at_call 18;refine (astep_nil _ _ rfl).mono ?_;rintro e w5 ⟨rfl,g5⟩))
 go_ret
 exact ⟨rfl,grow (grow (grow (grow (grow (grow_alloc (Below.refl _ _) _) g1) g2) g3) g4) g5⟩
theorem actChecks_any (X : Xa) (w : World) : Calls Tryz.prog 5 #[.agg #[.int .i64 X.kd,.int .i64 X.sz,.int .u64 X.nu,.int .i64 X.ix,.int .i64 X.vl,.int .i64 X.ol,.bool X.own]] w fun e w'=>e = .returned (.bool true) /\ Below w.heap.size w w':=by
 obtain ⟨kd,sz,nu,ix,vl,ol,own⟩:=X
 by_cases k0 : (1 : Int) <= kd
 · skip
   by_cases k1 : kd <= 5
   · skip
     by_cases v0 : (0 : Int) <= vl
     · skip
       by_cases v1 : vl <= 1099511627775
       · skip
         by_cases o0 : (0 : Int) <= ol
         · skip
           by_cases o1 : ol <= 1099511627775
           · skip
             exact checks6 kd sz nu ix vl ol own w k0 k1 v0 v1 o0 o1 (by simp only [Xa.may,fitsV,decide_eq_true k0,decide_eq_true k1,decide_eq_true v0,decide_eq_true v1,decide_eq_true o0,decide_eq_true o1];rfl)
           · exact checks5 kd sz nu ix vl ol own w k0 k1 v0 v1 o0 o1 (by simp only [Xa.may,fitsV,decide_eq_true k0,decide_eq_true k1,decide_eq_true v0,decide_eq_true v1,decide_eq_true o0,decide_eq_false o1,Bool.and_false])
         · exact checks4 kd sz nu ix vl ol own w k0 k1 v0 v1 o0 (by simp only [Xa.may,fitsV,decide_eq_true k0,decide_eq_true k1,decide_eq_true v0,decide_eq_true v1,decide_eq_false o0,Bool.false_and,Bool.and_false])
       · exact checks3 kd sz nu ix vl ol own w k0 k1 v0 v1 (by simp only [Xa.may,fitsV,decide_eq_true k0,decide_eq_true k1,decide_eq_true v0,decide_eq_false v1,Bool.false_and,Bool.and_false])
     · exact checks2 kd sz nu ix vl ol own w k0 k1 v0 (by simp only [Xa.may,fitsV,decide_eq_true k0,decide_eq_true k1,decide_eq_false v0,Bool.false_and,Bool.and_false])
   · exact checks1 kd sz nu ix vl ol own w k0 k1 (by simp only [Xa.may,fitsV,decide_eq_true k0,decide_eq_false k1,Bool.false_and,Bool.and_false])
 · exact checks0 kd sz nu ix vl ol own w k0 (by simp only [Xa.may,fitsV,decide_eq_false k0,Bool.false_and])
end Go.Proofs.YtlolfmoolgenpaaGreat
