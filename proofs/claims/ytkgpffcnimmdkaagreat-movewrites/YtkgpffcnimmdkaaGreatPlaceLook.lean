import Derived.Test.YtkgpffcnimmdkaaGreatPlaceYard
namespace Go.Proofs.YtkgpffcnimmdkaaGreat
open Go.RowKit
set_option maxRecDepth 20000
def PlV (nx ka sn ch ws sa sb : Int) : List Value:=[.int .i64 nx,.int .i64 ka,.int .u64 sn,.int .i64 ch,.int .u64 ws,.int .i64 sa,.int .i64 sb]
theorem pat_any {w : World} {L : Loc} {b o : Nat} {ch : Nat} (hi : w.cell? ⟨b,o + 3,none⟩ = some (.int .i64 ch)) (c0 c1 c2 c3 c4 c5 c6 who : Int) (A : Nat) (ar : Arena c0 c1 c2 c3) (hch : ch <= 1000000) (hA : 6 + c0 + c1 * 2 + (ch : Int) * 3 = A) :
 Calls Tryz.prog 149 #[.pointer (some ⟨b,o,none⟩),.agg #[.int .i64 c0,.int .i64 c1,.int .i64 c2,.int .i64 c3,.int .i64 c4,.int .i64 c5,.int .i64 c6,.pointer (some ⟨L.p,0,none⟩),.int .i64 who]] w fun e w'=>e = .returned (.int .i64 A) /\ Below w.heap.size w w':=by
 have HA : Hid (6 + c0 + c1 * 2 + (ch : Int) * 3 = A):=hA
 clear hA
 go_enter Tryz.func149,Tryz.ntmps149
 go_wp2
 refine wp_over (fun W=>W.cell? ⟨b,o + 3,none⟩ = some (.int .i64 ch) /\ BoxV W w.heap.size c0 c1 c2 c3 c4 c5 c6 L.p who /\ Below w.heap.size w W) ⟨keep' (grow_alloc (Below.refl _ _) _) hi,BoxV.new,grow_alloc (Below.refl _ _) _⟩ ?_
 rintro W ⟨i1,v1,o1⟩
 have f3:=fun N : Later W=>keep' N.below i1
 have e0:=fun N : Later W=>(v1.grown N.below).c0
 have e1:=fun N : Later W=>(v1.grown N.below).c1
 have e2:=fun N : Later W=>(v1.grown N.below).c2
 have e3:=fun N : Later W=>(v1.grown N.below).c3
 have e4:=fun N : Later W=>(v1.grown N.below).c4
 have e5:=fun N : Later W=>(v1.grown N.below).c5
 have e6:=fun N : Later W=>(v1.grown N.below).c6
 have e7:=fun N : Later W=>(v1.grown N.below).c7
 have e8:=fun N : Later W=>(v1.grown N.below).c8
 haveI:=Later.exists W
 refine wp_region_later (by kernel_rfl) (by kernel_rfl) ?_
 repeat (go_big_quiet_step ((go_at_call 20;exact Calls.later (lchunk_any _ _ _ _ _ _ _ _ _ ar (by omega) (by omega)))))
 refine wpQuiet_nil ?_
 rintro _ ⟨nq,rfl⟩
 clear e0 e1 e2 e3 e4 e5 e6 e7 e8 f3
 go_wp2
 go_ret
 exact ⟨ret_int HA.out,grow o1 nq.below⟩
theorem plook_any {w : World} {L : Loc} {s : Mm} {b o : Nat} {T : TypeId} {cs : Array Value} {nx ka sn ch ws sa sb : Int} (h : MemAt w L s) (hb : ¬ L.has b) (hi : At w b o T cs (PlV nx ka sn ch ws sa sb)) (c0 c1 c2 c3 c4 c5 c6 who : Int) (i nx' : Int) (hnx : (if c2 <= i then 8 else 3) = nx') :
 Calls Tryz.prog 148 #[.pointer (some ⟨b,o,none⟩),.agg #[.int .i64 c0,.int .i64 c1,.int .i64 c2,.int .i64 c3,.int .i64 c4,.int .i64 c5,.int .i64 c6,.pointer (some ⟨L.p,0,none⟩),.int .i64 who],.int .i64 i] w fun e w'=>e = .returned (.tuple #[]) /\ MemAt w' L s /\ Only (L.and b) w w' /\ ∃ cs',At w' b o T cs' (PlV nx' ka sn i ws sa sb) /\ Same o 7 cs cs':=by
 have hbv : ¬ L.has w.heap.size:=fun hh=>by have:=h.lt _ hh;omega
 have hbb : ¬ w.heap.size = b:=fun hh=>by have:=hi.lt;omega
 subst hnx
 have i1:=hi.grown (grow_alloc (Below.refl _ _) (.cells #[.int .i64 c0,.int .i64 c1,.int .i64 c2,.int .i64 c3,.int .i64 c4,.int .i64 c5,.int .i64 c6,.pointer (some ⟨L.p,0,none⟩),.int .i64 who] 27))
 have k0:=i1.cell0 rfl
 have k3:=i1.cell 3 rfl
 have kf:=i1.fz
 have v1 : BoxV (w.alloc (.cells #[.int .i64 c0,.int .i64 c1,.int .i64 c2,.int .i64 c3,.int .i64 c4,.int .i64 c5,.int .i64 c6,.pointer (some ⟨L.p,0,none⟩),.int .i64 who] 27)) w.heap.size c0 c1 c2 c3 c4 c5 c6 L.p who:=BoxV.new
 have v2:=((v1.setIn hbb (o + 3) (.int .i64 i)).setIn hbb o (.int .i64 3)).c2
 have i2:=(i1.set 3 (.int .i64 i)).set0 (.int .i64 3)
 have j0:=i2.cell0 rfl
 have jf:=i2.fz
 by_cases hc : c2 <= i
 · rw [if_pos hc]
   have i3:=i2.set0 (.int .i64 8)
   go_enter Tryz.func148,Tryz.ntmps148
   go_wp2
   go_end0
   exact ⟨rfl,(((h.alloc _).setIn hb _ _).setIn hb _ _).setIn hb _ _,((((Only.refl _ _).alloc _).set _ _).set _ _).set _ _,_,i3,((Same.refl.set (by omega) _).set (by omega) _).set (by omega) _⟩
 · rw [if_neg hc]
   go_enter Tryz.func148,Tryz.ntmps148
   go_wp2
   go_end0
   exact ⟨rfl,((h.alloc _).setIn hb _ _).setIn hb _ _,(((Only.refl _ _).alloc _).set _ _).set _ _,_,i2,(Same.refl.set (by omega) _).set (by omega) _⟩
theorem pturn_any {w : World} {L : Loc} {s : Mm} {b o : Nat} {T : TypeId} {cs : Array Value} {nx ka sn sa sb : Int} {ch : Nat} (h : MemAt w L s) (hb : ¬ L.has b) (C : Ck) (hi : At w b o T cs (PlV nx ka sn ch C.w sa sb)) (c0 c1 c2 c3 c4 c5 c6 who : Int) (A : Nat) (ar : Arena c0 c1 c2 c3) (hch : ch <= 1000000) (hA : 6 + c0 + c1 * 2 + (ch : Int) * 3 = A) (hn : A < s.n) (x1 x2 σ : Nat) (hC : C.ok σ) (hx : x1 <= 3 /\ x2 <= 3) (hσ : σ <= 1000000) (d : Bool) (hd : decide (s.wd A = C.w) = d) :
 Calls Tryz.prog 150 #[.pointer (some ⟨b,o,none⟩),.agg #[.int .i64 c0,.int .i64 c1,.int .i64 c2,.int .i64 c3,.int .i64 c4,.int .i64 c5,.int .i64 c6,.pointer (some ⟨L.p,0,none⟩),.int .i64 who],.agg #[.int .i64 x1,.int .i64 x2,.int .i64 0,.int .i64 0]] w fun e w'=>e = .returned (.bool d) /\ MemAt w' L ((s.by who).cas A C.w (⟨x1,x2,0,C.sp + 1⟩ : Ck).w) /\ Only (L.and b) w w' /\ ∃ cs',At w' b o T cs' (PlV nx ka sn ch (⟨x1,x2,0,C.sp + 1⟩ : Ck).w sa sb) /\ Same o 7 cs cs':=by
 have hbv : ¬ L.has w.heap.size:=fun hh=>by have:=h.lt _ hh;omega
 have hbb : ¬ w.heap.size = b:=fun hh=>by have:=hi.lt;omega
 have HA : Hid (6 + c0 + c1 * 2 + (ch : Int) * 3 = A):=hA
 have HD : Hid (decide (s.wd A = C.w) = d):=hd
 have HC : Hid (C.ok σ):=hC
 have hC4:=hC.sp
 have hN : (⟨x1,x2,0,C.sp + 1⟩ : Ck).ok (σ + 1):=⟨hx.1,hx.2,by simp,by simp only;omega⟩
 have HN : Hid ((⟨x1,x2,0,C.sp + 1⟩ : Ck).ok (σ + 1)):=hN
 have hwr : wrap64 ((C.sp : Int) + 1) = ((C.sp + 1 : Nat) : Int):=by unfold wrap64;omega
 have cw:=fun w=>chunk_w C σ hC (by omega) w
 have pw:=fun w=>putChunk_w (⟨x1,x2,0,C.sp + 1⟩ : Ck) (σ + 1) hN (by omega) x1 x2 0 ((C.sp + 1 : Nat) : Int) rfl rfl rfl rfl w
 have fl : ∀ (a1 a2 a3 a4 : Value) (w : World),(Instr.field 54 (.agg #[a1,a2,a3,a4]) 3).run Tryz.prog w = .ok a4 w:=fun a1 a2 a3 a4 w=>by kernel_rfl
 clear hA hd hN hC
 obtain ⟨X,hX⟩ : ∃ X,(⟨x1,x2,0,C.sp + 1⟩ : Ck).w = X:=⟨_,rfl⟩
 rw [hX] at pw ⊢
 obtain ⟨Z,hZ⟩ : ∃ Z,C.w = Z:=⟨_,rfl⟩
 rw [hZ] at cw hi ⊢
 have hbc : ¬ L.has (w.heap.size + 1):=fun hh=>by have:=h.lt _ hh;omega
 have hbd : ¬ w.heap.size + 1 = b:=fun hh=>by have:=hi.lt;omega
 have i0:=hi.grown (grow_alloc (grow_alloc (Below.refl _ _) (.cells #[.int .i64 c0,.int .i64 c1,.int .i64 c2,.int .i64 c3,.int .i64 c4,.int .i64 c5,.int .i64 c6,.pointer (some ⟨L.p,0,none⟩),.int .i64 who] 27)) (.cells #[.int .i64 x1,.int .i64 x2,.int .i64 0,.int .i64 0] 54))
 have k4:=i0.cell 4 rfl
 go_enter Tryz.func150,Tryz.ntmps150
 go_wp2_with (first
  | (go_at_call 23;refine (cw _).mono ?_;rintro e w1 ⟨rfl,b1⟩;have j1:=(At.new (w.alloc (.cells #[.int .i64 c0,.int .i64 c1,.int .i64 c2,.int .i64 c3,.int .i64 c4,.int .i64 c5,.int .i64 c6,.pointer (some ⟨L.p,0,none⟩),.int .i64 who] 27)) 54 [.int .i64 x1,.int .i64 x2,.int .i64 0,.int .i64 0]).grown b1;rw [Go.Deep.nblk_alloc] at j1;have q0:=j1.at0 0 rfl;have q1:=j1.at0 1 rfl;have q2:=j1.at0 2 rfl;have q3:=j1.at0 3 rfl;have qf:=j1.fz;have j2:=j1.put0 3 (.int .i64 ((C.sp + 1 : Nat) : Int));have r0:=j2.at0 0 rfl;have r1:=j2.at0 1 rfl;have r2:=j2.at0 2 rfl;have r3:=j2.at0 3 rfl)
  | (go_at_call 29;refine (pw _).mono ?_;rintro e w2 ⟨rfl,b2⟩))
 refine wp_over (fun W=>MemAt W L s /\ At W b o T cs (PlV nx ka sn ch Z sa sb) /\ BoxV W w.heap.size c0 c1 c2 c3 c4 c5 c6 L.p who /\ Only (L.and b) w W) ⟨((((h.alloc _).alloc _).below b1).setIn hbc _ _).below b2,((i0.grown b1).other (fun e=>hbd e.symm) _ _).grown b2,(((BoxV.newB _).grown b1).setIn (by omega) _ _).grown b2,(((((Only.refl _ _).alloc _).alloc _).trans (Only.ofGrown b1)).setCell (fun hlt=>by simp only at hlt;omega) _).trans (Only.ofGrown b2)⟩ ?_
 clear b1 b2 j1 j2 q0 q1 q2 q3 qf r0 r1 r2 r3 k4 i0
 rintro W ⟨m1,i1,v1,o1⟩
 rw [hZ] at HD
 refine wp_region_phase (Only L.has) Grown (fun p W'=>match p with | 0=>MemAt W' L s | _=>MemAt W' L ((s.by who).cas A Z X)) [9] [.val (.agg #[.int .i64 c0,.int .i64 c1,.int .i64 c2,.int .i64 c3,.int .i64 c4,.int .i64 c5,.int .i64 c6,.pointer (some ⟨L.p,0,none⟩),.int .i64 who]),.val (.pointer (some ⟨b,o,none⟩)),.val (.agg #[.int .i64 c0,.int .i64 c1,.int .i64 c2,.int .i64 c3,.int .i64 c4,.int .i64 c5,.int .i64 c6,.pointer (some ⟨L.p,0,none⟩),.int .i64 who]),.val (.int .i64 A),.val (.pointer (some ⟨b,o,none⟩)),.val (.pointer (some ⟨b,o,none⟩)),.val (.pointer (some ⟨b,o + 4,none⟩)),.val (.int .u64 Z),.val (.int .u64 X),.val (.bool d),.val (.bool d)]
  (by kernel_rfl) (Only.refl _) (fun _ _ _ h k=>h.trans k) (fun x y h=>Only.ofGrown h) (fun x y p h k=>by match p,k with | 0,k=>exact k.below h | p + 1,k=>exact k.below h) m1.drew (by kernel_rfl) (by kernel_rfl) (by kernel_rfl) (by kernel_rfl) (by kernel_rfl) ?_
 simp only [phaseAll,Act.put,List.setIfInBounds_toArray,List.set_cons_zero,List.set_cons_succ]
 refine ⟨?_,?_,?_,?_,?_,?_,?_,?_,?_,?_,?_,?_⟩
 · intro w' hR _
   apply ol
   obtain ⟨y0,y1,y2,y3,y4,y5,y6,y7,y8⟩:=(v1.grown ((Below.refl _ _).drew)).only hR hbv
   go_simp
   exact gl
 · intros;apply ol;go_simp;exact gl
 · intro w' hR _
   apply ol
   obtain ⟨y0,y1,y2,y3,y4,y5,y6,y7,y8⟩:=(v1.grown ((Below.refl _ _).drew)).only hR hbv
   go_simp
   exact gl
 · intro w' hR _
   apply ol
   go_simp
   refine (pat_any ((i1.drew.only hR hb).cell 3 rfl) _ _ _ _ _ _ _ _ A ar hch HA.out).mono ?_
   rintro e w'' ⟨rfl,b9⟩
   exact ⟨_,rfl,b9,rfl⟩
 · intros;apply ol;go_simp;exact gl
 · intros;apply ol;go_simp;exact gl
 · intros;apply ol;go_simp;exact gl
 · intro w' hR _
   apply ol
   have z:=(i1.drew.only hR hb).cell 4 rfl
   go_simp
   exact gl
 · intros;apply ol;go_simp;exact gl
 · intro w' hR _ hP
   apply ol
   go_simp
   refine (ecas_in (s:=s) hP _ _ _ _ _ _ _ _ A hn _ _).mono ?_
   rintro e w'' ⟨rfl,m2,o2⟩
   exact ⟨_,rfl,⟨o2,m2⟩,congrArg Value.bool HD.out⟩
 · intros;apply ol;go_simp;exact gl
 intro w2 hR m2 _
 have m2' : MemAt w2 L ((s.by who).cas A Z X):=m2
 have i2:=i1.drew.only hR hb
 have o2 : Only (L.and b) w w2:=o1.drew.trans hR.andL
 clear m1 i1 v1 o1 hR m2 HA HD HC HN cw pw
 have k4:=i2.cell 4 rfl
 have kf:=i2.fz
 go_wp2
 go_ret
 exact ⟨rfl,m2'.setIn hb _ _,o2.set _ _,_,i2.set 4 _,Same.refl.set (by omega) _⟩
end Go.Proofs.YtkgpffcnimmdkaaGreat

namespace Go.Proofs.YtkgpffcnimmdkaaGreat
open Go.RowKit
set_option maxRecDepth 20000
theorem psee_some {w : World} {L : Loc} {s : Mm} {b o : Nat} {T : TypeId} {cs : Array Value} {sn ch ws sa sb : Int} {κ : Nat} (h : MemAt w L s) (hb : ¬ L.has b) (hi : At w b o T cs (PlV 0 κ sn ch ws sa sb)) (c0 c1 c2 c3 c4 c5 c6 who : Int) (hκ : κ < 4) (hn : 2 + κ < s.n) (i : Nat) (hc : (i : Int) < c2) (hc2 : c2 <= 64) (hw : s.wd (2 + κ) = ((i : Int) + 1)) :
 Calls Tryz.prog 115 #[.pointer (some ⟨b,o,none⟩),.agg #[.int .i64 c0,.int .i64 c1,.int .i64 c2,.int .i64 c3,.int .i64 c4,.int .i64 c5,.int .i64 c6,.pointer (some ⟨L.p,0,none⟩),.int .i64 who]] w fun e w'=>e = .returned (.tuple #[]) /\ MemAt w' L ((s.by who).step (2 + κ) (s.wd (2 + κ))) /\ Only (L.and b) w w' /\ ∃ cs',At w' b o T cs' (PlV 1 κ ((i : Int) + 1) i ws sa sb) /\ Same o 7 cs cs':=by
 have hbv : ¬ L.has w.heap.size:=fun hh=>by have:=h.lt _ hh;omega
 have hbb : ¬ w.heap.size = b:=fun hh=>by have:=hi.lt;omega
 have HX : Hid (s.wd (2 + κ) = ((i : Int) + 1)):=hw
 rw [hw]
 clear hw
 have hq : ((i : Int) + 1 == 0) = false:=by simp;omega
 have hcv : IntKind.u64.wrap c2 = c2:=wrap_small c2 (by omega) (by omega)
 go_enter Tryz.func115,Tryz.ntmps115
 go_wp2
 refine wp_over (fun W=>MemAt W L s /\ At W b o T cs (PlV 0 κ sn ch ws sa sb) /\ BoxV W w.heap.size c0 c1 c2 c3 c4 c5 c6 L.p who /\ Only (L.and b) w W) ⟨h.alloc _,hi.grown (grow_alloc (Below.refl _ _) _),BoxV.new,(Only.refl _ _).alloc _⟩ ?_
 rintro W ⟨m1,i1,v1,o1⟩
 refine wp_region_phase (OnlyBut L b (o + 2)) Grown (phAt L b o T cs (cs.setIfInBounds (o + 2) (.int .u64 ((i : Int) + 1))) s ((s.by who).step (2 + κ) ((i : Int) + 1)) (PlV 0 κ sn ch ws sa sb) (PlV 0 κ ((i : Int) + 1) ch ws sa sb)) [7,10] [.val (.pointer (some ⟨b,o,none⟩)),.val (.agg #[.int .i64 c0,.int .i64 c1,.int .i64 c2,.int .i64 c3,.int .i64 c4,.int .i64 c5,.int .i64 c6,.pointer (some ⟨L.p,0,none⟩),.int .i64 who]),.val (.pointer (some ⟨b,o,none⟩)),.val (.pointer (some ⟨b,o,none⟩)),.val (.pointer (some ⟨b,o + 1,none⟩)),.val (.int .i64 κ),.val (.int .i64 ((2 + κ : Nat) : Int)),.val (.int .u64 ((i : Int) + 1)),.val (.pointer (some ⟨b,o,none⟩)),.val (.pointer (some ⟨b,o + 2,none⟩)),.that (fun _ _=>True) (fun _ _ _ _ _=>trivial)]
  (by kernel_rfl) OnlyBut.refl OnlyBut.trans OnlyBut.ofGrown phAt_grown ⟨m1.drew,i1.drew⟩ (by kernel_rfl) (by kernel_rfl) (by kernel_rfl) (by kernel_rfl) (by kernel_rfl) ?_
 simp only [phaseAll,Act.put,List.setIfInBounds_toArray,List.set_cons_zero,List.set_cons_succ]
 refine ⟨?_,?_,?_,?_,?_,?_,?_,?_,?_,?_,?_,?_⟩
 · intros;apply ol;go_simp;exact gl
 · intro w' hR _
   apply ol
   obtain ⟨y0,y1,y2,y3,y4,y5,y6,y7,y8⟩:=(v1.grown ((Below.refl _ _).drew)).only hR.only (fun hh=>hh.elim hbv hbb)
   go_simp
   exact gl
 · intros;apply ol;go_simp;exact gl
 · intros;apply ol;go_simp;exact gl
 · intros;apply ol;go_simp;exact gl
 · intro w' hR _
   apply ol
   have z:=hR.keep (j:=o + 1) (by omega) (i1.drew.cell 1 rfl)
   go_simp
   exact gl
 · intro w' hR _
   apply ol
   go_simp
   refine (lopen_any (κ : Int) _ (by omega) (by omega)).mono ?_
   rintro e w'' ⟨rfl,rfl⟩
   exact ⟨_,rfl,Grown.refl _,congrArg (Value.int .i64) (by omega)⟩
 · intro w' hR _ hP
   apply ol
   go_simp
   refine (eload_in (s:=s) hP.1 _ _ _ _ _ _ _ _ (2 + κ) hn).mono ?_
   rintro e w'' ⟨rfl,m2,o2⟩
   rw [HX.out] at m2
   exact ⟨_,rfl,⟨OnlyBut.ofOnly o2 hb,m2,hP.2.only o2 hb⟩,by simp [Want.pred,HX.out]⟩
 · intros;apply ol;go_simp;exact gl
 · intros;apply ol;go_simp;exact gl
 · intro w' hR _ hP
   apply ol
   have z0:=hP.2.cell 2 rfl
   have z1:=hP.2.fz
   go_simp
   exact ⟨⟨OnlyBut.set _ _,hP.1.setIn hb _ _,hP.2.set 2 _⟩,trivial⟩
 intro v w2 hR hP _
 obtain ⟨m2,i2⟩ : MemAt w2 L ((s.by who).step (2 + κ) ((i : Int) + 1)) /\ At w2 b o T (cs.setIfInBounds (o + 2) (.int .u64 ((i : Int) + 1))) (PlV 0 κ ((i : Int) + 1) ch ws sa sb):=hP
 have o2 : Only (L.and b) w w2:=o1.drew.trans hR.only
 have v2:=(v1.grown ((Below.refl _ _).drew)).only hR.only (fun hh=>hh.elim hbv hbb)
 have s2 : Same o 7 cs (cs.setIfInBounds (o + 2) (.int .u64 ((i : Int) + 1))):=Same.refl.set (by omega) _
 clear hR o1 v1 m1 i1
 go_wp2
 have e0:=fun N : Later w2=>(v2.grown N.below).c0
 have e1:=fun N : Later w2=>(v2.grown N.below).c1
 have e2:=fun N : Later w2=>(v2.grown N.below).c2
 have e3:=fun N : Later w2=>(v2.grown N.below).c3
 have e4:=fun N : Later w2=>(v2.grown N.below).c4
 have e5:=fun N : Later w2=>(v2.grown N.below).c5
 have e6:=fun N : Later w2=>(v2.grown N.below).c6
 have e7:=fun N : Later w2=>(v2.grown N.below).c7
 have e8:=fun N : Later w2=>(v2.grown N.below).c8
 have f2:=fun N : Later w2=>(i2.grown N.below).cell 2 rfl
 haveI:=Later.exists w2
 refine wp_region_later (by kernel_rfl) (by kernel_rfl) ?_
 repeat (go_big_quiet_step (fail))
 refine wpQuiet_nil ?_
 rintro _ ⟨nq,rfl⟩
 clear e0 e1 e2 e3 e4 e5 e6 e7 e8 f2
 have i4:=i2.grown nq.below
 have m4:=m2.below nq.below
 have v4:=v2.grown nq.below
 have o4 : Only (L.and b) w nq.now:=o2.trans (Only.ofGrown nq.below)
 clear i2 m2 o2 v2
 have k0:=i4.cell0 rfl
 have k2:=i4.cell 2 rfl
 have k3:=i4.cell 3 rfl
 have kf:=i4.fz
 have i5:=(i4.set 3 (.int .i64 (i : Int))).set0 (.int .i64 1)
 go_wp2
 go_end0
 exact ⟨rfl,(m4.setIn hb _ _).setIn hb _ _,(o4.set _ _).set _ _,_,i5,(s2.set (by omega) _).set (by omega) _⟩
theorem psee_none {w : World} {L : Loc} {s : Mm} {b o : Nat} {T : TypeId} {cs : Array Value} {sn ch ws sa sb : Int} {κ : Nat} (h : MemAt w L s) (hb : ¬ L.has b) (hi : At w b o T cs (PlV 0 κ sn ch ws sa sb)) (c0 c1 c2 c3 c4 c5 c6 who : Int) (hκ : κ < 4) (hn : 2 + κ < s.n) (nx' : Int) (hnx : (if c2 <= 0 then 8 else 3) = nx') (hw : s.wd (2 + κ) = 0) :
 Calls Tryz.prog 115 #[.pointer (some ⟨b,o,none⟩),.agg #[.int .i64 c0,.int .i64 c1,.int .i64 c2,.int .i64 c3,.int .i64 c4,.int .i64 c5,.int .i64 c6,.pointer (some ⟨L.p,0,none⟩),.int .i64 who]] w fun e w'=>e = .returned (.tuple #[]) /\ MemAt w' L ((s.by who).step (2 + κ) (s.wd (2 + κ))) /\ Only (L.and b) w w' /\ ∃ cs',At w' b o T cs' (PlV nx' κ 0 0 ws sa sb) /\ Same o 7 cs cs':=by
 have hbv : ¬ L.has w.heap.size:=fun hh=>by have:=h.lt _ hh;omega
 have hbb : ¬ w.heap.size = b:=fun hh=>by have:=hi.lt;omega
 have HX : Hid (s.wd (2 + κ) = 0):=hw
 rw [hw]
 clear hw
 go_enter Tryz.func115,Tryz.ntmps115
 go_wp2
 refine wp_over (fun W=>MemAt W L s /\ At W b o T cs (PlV 0 κ sn ch ws sa sb) /\ BoxV W w.heap.size c0 c1 c2 c3 c4 c5 c6 L.p who /\ Only (L.and b) w W) ⟨h.alloc _,hi.grown (grow_alloc (Below.refl _ _) _),BoxV.new,(Only.refl _ _).alloc _⟩ ?_
 rintro W ⟨m1,i1,v1,o1⟩
 refine wp_region_phase (OnlyBut L b (o + 2)) Grown (phAt L b o T cs (cs.setIfInBounds (o + 2) (.int .u64 0)) s ((s.by who).step (2 + κ) 0) (PlV 0 κ sn ch ws sa sb) (PlV 0 κ 0 ch ws sa sb)) [7,10] [.val (.pointer (some ⟨b,o,none⟩)),.val (.agg #[.int .i64 c0,.int .i64 c1,.int .i64 c2,.int .i64 c3,.int .i64 c4,.int .i64 c5,.int .i64 c6,.pointer (some ⟨L.p,0,none⟩),.int .i64 who]),.val (.pointer (some ⟨b,o,none⟩)),.val (.pointer (some ⟨b,o,none⟩)),.val (.pointer (some ⟨b,o + 1,none⟩)),.val (.int .i64 κ),.val (.int .i64 ((2 + κ : Nat) : Int)),.val (.int .u64 0),.val (.pointer (some ⟨b,o,none⟩)),.val (.pointer (some ⟨b,o + 2,none⟩)),.that (fun _ _=>True) (fun _ _ _ _ _=>trivial)]
  (by kernel_rfl) OnlyBut.refl OnlyBut.trans OnlyBut.ofGrown phAt_grown ⟨m1.drew,i1.drew⟩ (by kernel_rfl) (by kernel_rfl) (by kernel_rfl) (by kernel_rfl) (by kernel_rfl) ?_
 simp only [phaseAll,Act.put,List.setIfInBounds_toArray,List.set_cons_zero,List.set_cons_succ]
 refine ⟨?_,?_,?_,?_,?_,?_,?_,?_,?_,?_,?_,?_⟩
 · intros;apply ol;go_simp;exact gl
 · intro w' hR _
   apply ol
   obtain ⟨y0,y1,y2,y3,y4,y5,y6,y7,y8⟩:=(v1.grown ((Below.refl _ _).drew)).only hR.only (fun hh=>hh.elim hbv hbb)
   go_simp
   exact gl
 · intros;apply ol;go_simp;exact gl
 · intros;apply ol;go_simp;exact gl
 · intros;apply ol;go_simp;exact gl
 · intro w' hR _
   apply ol
   have z:=hR.keep (j:=o + 1) (by omega) (i1.drew.cell 1 rfl)
   go_simp
   exact gl
 · intro w' hR _
   apply ol
   go_simp
   refine (lopen_any (κ : Int) _ (by omega) (by omega)).mono ?_
   rintro e w'' ⟨rfl,rfl⟩
   exact ⟨_,rfl,Grown.refl _,congrArg (Value.int .i64) (by omega)⟩
 · intro w' hR _ hP
   apply ol
   go_simp
   refine (eload_in (s:=s) hP.1 _ _ _ _ _ _ _ _ (2 + κ) hn).mono ?_
   rintro e w'' ⟨rfl,m2,o2⟩
   rw [HX.out] at m2
   exact ⟨_,rfl,⟨OnlyBut.ofOnly o2 hb,m2,hP.2.only o2 hb⟩,by simp [Want.pred,HX.out]⟩
 · intros;apply ol;go_simp;exact gl
 · intros;apply ol;go_simp;exact gl
 · intro w' hR _ hP
   apply ol
   have z0:=hP.2.cell 2 rfl
   have z1:=hP.2.fz
   go_simp
   exact ⟨⟨OnlyBut.set _ _,hP.1.setIn hb _ _,hP.2.set 2 _⟩,trivial⟩
 intro v w2 hR hP _
 obtain ⟨m2,i2⟩ : MemAt w2 L ((s.by who).step (2 + κ) 0) /\ At w2 b o T (cs.setIfInBounds (o + 2) (.int .u64 0)) (PlV 0 κ 0 ch ws sa sb):=hP
 have o2 : Only (L.and b) w w2:=o1.drew.trans hR.only
 have v2:=(v1.grown ((Below.refl _ _).drew)).only hR.only (fun hh=>hh.elim hbv hbb)
 have s2 : Same o 7 cs (cs.setIfInBounds (o + 2) (.int .u64 0)):=Same.refl.set (by omega) _
 clear hR o1 v1 m1 i1
 go_wp2
 have e0:=fun N : Later w2=>(v2.grown N.below).c0
 have e1:=fun N : Later w2=>(v2.grown N.below).c1
 have e2:=fun N : Later w2=>(v2.grown N.below).c2
 have e3:=fun N : Later w2=>(v2.grown N.below).c3
 have e4:=fun N : Later w2=>(v2.grown N.below).c4
 have e5:=fun N : Later w2=>(v2.grown N.below).c5
 have e6:=fun N : Later w2=>(v2.grown N.below).c6
 have e7:=fun N : Later w2=>(v2.grown N.below).c7
 have e8:=fun N : Later w2=>(v2.grown N.below).c8
 have f2:=fun N : Later w2=>(i2.grown N.below).cell 2 rfl
 haveI:=Later.exists w2
 refine wp_region_later (by kernel_rfl) (by kernel_rfl) ?_
 repeat (go_big_quiet_step (fail))
 refine wpQuiet_nil ?_
 rintro _ ⟨nq,rfl⟩
 clear e0 e1 e2 e3 e4 e5 e6 e7 e8 f2
 have i4:=i2.grown nq.below
 have m4:=m2.below nq.below
 have v4:=v2.grown nq.below
 have o4 : Only (L.and b) w nq.now:=o2.trans (Only.ofGrown nq.below)
 clear i2 m2 o2 v2
 have k0:=i4.cell0 rfl
 have k2:=i4.cell 2 rfl
 have k3:=i4.cell 3 rfl
 have kf:=i4.fz
 obtain ⟨y0,y1,y2,y3,y4,y5,y6,y7,y8⟩:=id v4
 go_wp2_with (go_at_call 148;refine (plook_any m4 hb i4 _ _ _ _ _ _ _ _ 0 nx' hnx).mono ?_;rintro e w5 ⟨rfl,m5,o5,cs5,i5,s5⟩)
 refine bodyPost_ret (results_none rfl _ _ _) rfl ?_
 exact ⟨rfl,m5,o4.trans o5,cs5,i5,s2.trans s5⟩
end Go.Proofs.YtkgpffcnimmdkaaGreat

namespace Go.Proofs.YtkgpffcnimmdkaaGreat
open Go.RowKit
set_option maxRecDepth 20000
theorem plookup_yes {w : World} {L : Loc} {s : Mm} {b o : Nat} {T : TypeId} {cs : Array Value} {sn ws sa sb : Int} {ch κ : Nat} (h : MemAt w L s) (hb : ¬ L.has b) (hi : At w b o T cs (PlV 3 κ sn ch ws sa sb)) (c0 c1 c2 c3 c4 c5 c6 who : Int) (A : Nat) (ar : Arena c0 c1 c2 c3) (hch : ch <= 1000000) (hA : 6 + c0 + c1 * 2 + (ch : Int) * 3 = A) (hn : A < s.n) (C : Ck) (σ : Nat) (hC : C.ok σ) (hσ : σ <= 1000000) (hw : s.wd A = C.w) (hst : C.st = 0) :
 Calls Tryz.prog 118 #[.pointer (some ⟨b,o,none⟩),.agg #[.int .i64 c0,.int .i64 c1,.int .i64 c2,.int .i64 c3,.int .i64 c4,.int .i64 c5,.int .i64 c6,.pointer (some ⟨L.p,0,none⟩),.int .i64 who]] w fun e w'=>e = .returned (.tuple #[]) /\ MemAt w' L ((s.by who).step A (s.wd A)) /\ Only (L.and b) w w' /\ ∃ cs',At w' b o T cs' (PlV 4 κ sn ch C.w sa sb) /\ Same o 7 cs cs':=by
 have hbv : ¬ L.has w.heap.size:=fun hh=>by have:=h.lt _ hh;omega
 have hbb : ¬ w.heap.size = b:=fun hh=>by have:=hi.lt;omega
 have HA : Hid (6 + c0 + c1 * 2 + (ch : Int) * 3 = A):=hA
 have cw:=fun w=>chunk_w C σ hC (by omega) w
 rw [hw]
 obtain ⟨Z,hZ⟩ : ∃ Z,C.w = Z:=⟨_,rfl⟩
 rw [hZ] at cw hw ⊢
 have HX : Hid (s.wd A = Z):=hw
 clear hw hA
 have fl : ∀ (a1 a2 a3 a4 : Value) (w : World),(Instr.field 54 (.agg #[a1,a2,a3,a4]) 0).run Tryz.prog w = .ok a1 w:=fun a1 a2 a3 a4 w=>by kernel_rfl
 rw [hst] at cw
 go_enter Tryz.func118,Tryz.ntmps118
 go_wp2
 refine wp_over (fun W=>MemAt W L s /\ At W b o T cs (PlV 3 κ sn ch ws sa sb) /\ BoxV W w.heap.size c0 c1 c2 c3 c4 c5 c6 L.p who /\ Only (L.and b) w W) ⟨h.alloc _,hi.grown (grow_alloc (Below.refl _ _) _),BoxV.new,(Only.refl _ _).alloc _⟩ ?_
 rintro W ⟨m1,i1,v1,o1⟩
 refine wp_region_phase (OnlyBut L b (o + 4)) Grown (phAt L b o T cs (cs.setIfInBounds (o + 4) (.int .u64 Z)) s ((s.by who).step A Z) (PlV 3 κ sn ch ws sa sb) (PlV 3 κ sn ch Z sa sb)) [5,8] [.val (.pointer (some ⟨b,o,none⟩)),.val (.agg #[.int .i64 c0,.int .i64 c1,.int .i64 c2,.int .i64 c3,.int .i64 c4,.int .i64 c5,.int .i64 c6,.pointer (some ⟨L.p,0,none⟩),.int .i64 who]),.val (.pointer (some ⟨b,o,none⟩)),.val (.agg #[.int .i64 c0,.int .i64 c1,.int .i64 c2,.int .i64 c3,.int .i64 c4,.int .i64 c5,.int .i64 c6,.pointer (some ⟨L.p,0,none⟩),.int .i64 who]),.val (.int .i64 A),.val (.int .u64 Z),.val (.pointer (some ⟨b,o,none⟩)),.val (.pointer (some ⟨b,o + 4,none⟩)),.that (fun _ _=>True) (fun _ _ _ _ _=>trivial)]
  (by kernel_rfl) OnlyBut.refl OnlyBut.trans OnlyBut.ofGrown phAt_grown ⟨m1.drew,i1.drew⟩ (by kernel_rfl) (by kernel_rfl) (by kernel_rfl) (by kernel_rfl) (by kernel_rfl) ?_
 simp only [phaseAll,Act.put,List.setIfInBounds_toArray,List.set_cons_zero,List.set_cons_succ]
 refine ⟨?_,?_,?_,?_,?_,?_,?_,?_,?_,?_⟩
 · intros;apply ol;go_simp;exact gl
 · intro w' hR _
   apply ol
   obtain ⟨y0,y1,y2,y3,y4,y5,y6,y7,y8⟩:=(v1.grown ((Below.refl _ _).drew)).only hR.only (fun hh=>hh.elim hbv hbb)
   go_simp
   exact gl
 · intros;apply ol;go_simp;exact gl
 · intro w' hR _
   apply ol
   obtain ⟨y0,y1,y2,y3,y4,y5,y6,y7,y8⟩:=(v1.grown ((Below.refl _ _).drew)).only hR.only (fun hh=>hh.elim hbv hbb)
   go_simp
   exact gl
 · intro w' hR _
   apply ol
   go_simp
   refine (pat_any (hR.keep (j:=o + 3) (by omega) (i1.drew.cell 3 rfl)) _ _ _ _ _ _ _ _ A ar hch HA.out).mono ?_
   rintro e w'' ⟨rfl,b9⟩
   exact ⟨_,rfl,b9,rfl⟩
 · intro w' hR _ hP
   apply ol
   go_simp
   refine (eload_in (s:=s) hP.1 _ _ _ _ _ _ _ _ A hn).mono ?_
   rintro e w'' ⟨rfl,m2,o2⟩
   rw [HX.out] at m2
   exact ⟨_,rfl,⟨OnlyBut.ofOnly o2 hb,m2,hP.2.only o2 hb⟩,by simp [Want.pred,HX.out]⟩
 · intros;apply ol;go_simp;exact gl
 · intros;apply ol;go_simp;exact gl
 · intro w' hR _ hP
   apply ol
   have z0:=hP.2.cell 4 rfl
   have z1:=hP.2.fz
   go_simp
   exact ⟨⟨OnlyBut.set _ _,hP.1.setIn hb _ _,hP.2.set 4 _⟩,trivial⟩
 intro v w2 hR hP _
 obtain ⟨m2,i2⟩ : MemAt w2 L ((s.by who).step A Z) /\ At w2 b o T (cs.setIfInBounds (o + 4) (.int .u64 Z)) (PlV 3 κ sn ch Z sa sb):=hP
 have o2 : Only (L.and b) w w2:=o1.drew.trans hR.only
 have v2:=(v1.grown ((Below.refl _ _).drew)).only hR.only (fun hh=>hh.elim hbv hbb)
 have s2 : Same o 7 cs (cs.setIfInBounds (o + 4) (.int .u64 Z)):=Same.refl.set (by omega) _
 clear hR o1 v1 m1 i1
 have k4:=i2.cell 4 rfl
 go_wp2_with (go_at_call 23;refine (cw _).mono ?_;rintro e w3 ⟨rfl,b3⟩;have i4:=i2.grown b3;have m4:=m2.below b3;have v4:=v2.grown b3;have o4:=o2.trans (Only.ofGrown b3);have k0:=i4.cell0 rfl;have kf:=i4.fz)
 go_end0
 exact ⟨rfl,m4.setIn hb _ _,o4.set _ _,_,i4.set0 _,s2.set (j:=o) (by omega) _⟩
theorem plookup_no {w : World} {L : Loc} {s : Mm} {b o : Nat} {T : TypeId} {cs : Array Value} {sn ws sa sb : Int} {ch κ : Nat} (h : MemAt w L s) (hb : ¬ L.has b) (hi : At w b o T cs (PlV 3 κ sn ch ws sa sb)) (c0 c1 c2 c3 c4 c5 c6 who : Int) (A : Nat) (ar : Arena c0 c1 c2 c3) (hch : ch <= 1000000) (hA : 6 + c0 + c1 * 2 + (ch : Int) * 3 = A) (hn : A < s.n) (C : Ck) (σ : Nat) (hC : C.ok σ) (hσ : σ <= 1000000) (hw : s.wd A = C.w) (hst : ¬ C.st = 0) (nx' : Int) (hnx : (if c2 <= (ch : Int) + 1 then 8 else 3) = nx') :
 Calls Tryz.prog 118 #[.pointer (some ⟨b,o,none⟩),.agg #[.int .i64 c0,.int .i64 c1,.int .i64 c2,.int .i64 c3,.int .i64 c4,.int .i64 c5,.int .i64 c6,.pointer (some ⟨L.p,0,none⟩),.int .i64 who]] w fun e w'=>e = .returned (.tuple #[]) /\ MemAt w' L ((s.by who).step A (s.wd A)) /\ Only (L.and b) w w' /\ ∃ cs',At w' b o T cs' (PlV nx' κ sn ((ch : Int) + 1) C.w sa sb) /\ Same o 7 cs cs':=by
 have hbv : ¬ L.has w.heap.size:=fun hh=>by have:=h.lt _ hh;omega
 have hbb : ¬ w.heap.size = b:=fun hh=>by have:=hi.lt;omega
 have HA : Hid (6 + c0 + c1 * 2 + (ch : Int) * 3 = A):=hA
 have cw:=fun w=>chunk_w C σ hC (by omega) w
 rw [hw]
 obtain ⟨Z,hZ⟩ : ∃ Z,C.w = Z:=⟨_,rfl⟩
 rw [hZ] at cw hw ⊢
 have HX : Hid (s.wd A = Z):=hw
 clear hw hA
 have fl : ∀ (a1 a2 a3 a4 : Value) (w : World),(Instr.field 54 (.agg #[a1,a2,a3,a4]) 0).run Tryz.prog w = .ok a1 w:=fun a1 a2 a3 a4 w=>by kernel_rfl
 have hst' : ¬ (C.st : Int) = 0:=by omega
 have hst2 : ((C.st : Int) != 0) = true:=by simp;omega
 clear hst
 go_enter Tryz.func118,Tryz.ntmps118
 go_wp2
 refine wp_over (fun W=>MemAt W L s /\ At W b o T cs (PlV 3 κ sn ch ws sa sb) /\ BoxV W w.heap.size c0 c1 c2 c3 c4 c5 c6 L.p who /\ Only (L.and b) w W) ⟨h.alloc _,hi.grown (grow_alloc (Below.refl _ _) _),BoxV.new,(Only.refl _ _).alloc _⟩ ?_
 rintro W ⟨m1,i1,v1,o1⟩
 refine wp_region_phase (OnlyBut L b (o + 4)) Grown (phAt L b o T cs (cs.setIfInBounds (o + 4) (.int .u64 Z)) s ((s.by who).step A Z) (PlV 3 κ sn ch ws sa sb) (PlV 3 κ sn ch Z sa sb)) [5,8] [.val (.pointer (some ⟨b,o,none⟩)),.val (.agg #[.int .i64 c0,.int .i64 c1,.int .i64 c2,.int .i64 c3,.int .i64 c4,.int .i64 c5,.int .i64 c6,.pointer (some ⟨L.p,0,none⟩),.int .i64 who]),.val (.pointer (some ⟨b,o,none⟩)),.val (.agg #[.int .i64 c0,.int .i64 c1,.int .i64 c2,.int .i64 c3,.int .i64 c4,.int .i64 c5,.int .i64 c6,.pointer (some ⟨L.p,0,none⟩),.int .i64 who]),.val (.int .i64 A),.val (.int .u64 Z),.val (.pointer (some ⟨b,o,none⟩)),.val (.pointer (some ⟨b,o + 4,none⟩)),.that (fun _ _=>True) (fun _ _ _ _ _=>trivial)]
  (by kernel_rfl) OnlyBut.refl OnlyBut.trans OnlyBut.ofGrown phAt_grown ⟨m1.drew,i1.drew⟩ (by kernel_rfl) (by kernel_rfl) (by kernel_rfl) (by kernel_rfl) (by kernel_rfl) ?_
 simp only [phaseAll,Act.put,List.setIfInBounds_toArray,List.set_cons_zero,List.set_cons_succ]
 refine ⟨?_,?_,?_,?_,?_,?_,?_,?_,?_,?_⟩
 · intros;apply ol;go_simp;exact gl
 · intro w' hR _
   apply ol
   obtain ⟨y0,y1,y2,y3,y4,y5,y6,y7,y8⟩:=(v1.grown ((Below.refl _ _).drew)).only hR.only (fun hh=>hh.elim hbv hbb)
   go_simp
   exact gl
 · intros;apply ol;go_simp;exact gl
 · intro w' hR _
   apply ol
   obtain ⟨y0,y1,y2,y3,y4,y5,y6,y7,y8⟩:=(v1.grown ((Below.refl _ _).drew)).only hR.only (fun hh=>hh.elim hbv hbb)
   go_simp
   exact gl
 · intro w' hR _
   apply ol
   go_simp
   refine (pat_any (hR.keep (j:=o + 3) (by omega) (i1.drew.cell 3 rfl)) _ _ _ _ _ _ _ _ A ar hch HA.out).mono ?_
   rintro e w'' ⟨rfl,b9⟩
   exact ⟨_,rfl,b9,rfl⟩
 · intro w' hR _ hP
   apply ol
   go_simp
   refine (eload_in (s:=s) hP.1 _ _ _ _ _ _ _ _ A hn).mono ?_
   rintro e w'' ⟨rfl,m2,o2⟩
   rw [HX.out] at m2
   exact ⟨_,rfl,⟨OnlyBut.ofOnly o2 hb,m2,hP.2.only o2 hb⟩,by simp [Want.pred,HX.out]⟩
 · intros;apply ol;go_simp;exact gl
 · intros;apply ol;go_simp;exact gl
 · intro w' hR _ hP
   apply ol
   have z0:=hP.2.cell 4 rfl
   have z1:=hP.2.fz
   go_simp
   exact ⟨⟨OnlyBut.set _ _,hP.1.setIn hb _ _,hP.2.set 4 _⟩,trivial⟩
 intro v w2 hR hP _
 obtain ⟨m2,i2⟩ : MemAt w2 L ((s.by who).step A Z) /\ At w2 b o T (cs.setIfInBounds (o + 4) (.int .u64 Z)) (PlV 3 κ sn ch Z sa sb):=hP
 have o2 : Only (L.and b) w w2:=o1.drew.trans hR.only
 have v2:=(v1.grown ((Below.refl _ _).drew)).only hR.only (fun hh=>hh.elim hbv hbb)
 have s2 : Same o 7 cs (cs.setIfInBounds (o + 4) (.int .u64 Z)):=Same.refl.set (by omega) _
 clear hR o1 v1 m1 i1
 have k4:=i2.cell 4 rfl
 go_wp2_with (go_at_call 23;refine (cw _).mono ?_;rintro e w3 ⟨rfl,b3⟩;have i4:=i2.grown b3;have m4:=m2.below b3;have v4:=v2.grown b3;have o4:=o2.trans (Only.ofGrown b3);have k0:=i4.cell0 rfl;have kf:=i4.fz)
 refine wp_over (fun W=>MemAt W L ((s.by who).step A Z) /\ At W b o T (cs.setIfInBounds (o + 4) (.int .u64 Z)) (PlV 3 κ sn ch Z sa sb) /\ BoxV W w.heap.size c0 c1 c2 c3 c4 c5 c6 L.p who /\ Only (L.and b) w W) ⟨m4,i4,v4,o4⟩ ?_
 clear m2 i2 v2 o2 k4 b3 i4 m4 v4 o4 k0 kf
 rintro W ⟨m1,i1,v1,o1⟩
 refine wp_region_rely_tail Grown 7 [.val (.pointer (some ⟨b,o,none⟩)),.val (.agg #[.int .i64 c0,.int .i64 c1,.int .i64 c2,.int .i64 c3,.int .i64 c4,.int .i64 c5,.int .i64 c6,.pointer (some ⟨L.p,0,none⟩),.int .i64 who]),.val (.pointer (some ⟨b,o,none⟩)),.val (.pointer (some ⟨b,o,none⟩)),.val (.pointer (some ⟨b,o + 3,none⟩)),.val (.int .i64 ch),.val (.int .i64 ((ch : Int) + 1))] (by kernel_rfl) Grown.refl Grown.trans (by decide) (by kernel_rfl) (by kernel_rfl) (by kernel_rfl) (by kernel_rfl) (by kernel_rfl) (by kernel_rfl) ?_
 simp only [List.take_succ_cons,List.take_zero,relyAll,Act.put,List.setIfInBounds_toArray,List.set_cons_zero,List.set_cons_succ]
 refine ⟨?_,?_,?_,?_,?_,?_,?_,?_⟩
 · intros;apply ol;go_simp;exact gl
 · intro w' hg _
   apply ol
   obtain ⟨y0,y1,y2,y3,y4,y5,y6,y7,y8⟩:=(v1.grown ((Below.refl _ _).drew)).grown hg
   go_simp
   exact gl
 · intros;apply ol;go_simp;exact gl
 · intros;apply ol;go_simp;exact gl
 · intros;apply ol;go_simp;exact gl
 · intro w' hg _
   apply ol
   have z:=(i1.drew.grown hg).cell 3 rfl
   go_simp
   exact gl
 · intro w' hg _
   apply ol
   go_simp
   exact ⟨Grown.refl _,by simp only [Want.pred];rw [IntKind.wrap_i64];exact congrArg (Value.int .i64) (by omega)⟩
 intro w5 hg _
 have m5:=m1.drew.below hg
 have i5:=i1.drew.grown hg
 have v5:=(v1.grown ((Below.refl _ _).drew)).grown hg
 have o5 : Only (L.and b) w w5:=o1.drew.trans (Only.ofGrown hg)
 clear hg m1 i1 v1 o1
 go_wp2_with (go_at_call 148;refine (plook_any m5 hb i5 _ _ _ _ _ _ _ _ _ nx' hnx).mono ?_;rintro e w6 ⟨rfl,m6,o6,cs6,i6,s6⟩)
 refine bodyPost_ret (results_none rfl _ _ _) rfl ?_
 exact ⟨rfl,m6,o5.trans o6,cs6,i6,s2.trans s6⟩
end Go.Proofs.YtkgpffcnimmdkaaGreat
