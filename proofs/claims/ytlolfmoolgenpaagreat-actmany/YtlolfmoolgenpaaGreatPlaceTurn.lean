import Derived.Test.YtlolfmoolgenpaaGreatPlaceAsk
namespace Go.Proofs.YtlolfmoolgenpaaGreat
open Go.RowKit
set_option maxRecDepth 20000
set_option maxHeartbeats 400000 in
theorem pgrow_yes {w : World} {L : Loc} {s : Mm} {b o : Nat} {T : TypeId} {cs : Array Value} {sn sa sb : Int} {ch κ : Nat} (h : MemAt w L s) (hb : ¬ L.has b) (C : Ck) (hi : At w b o T cs (PlV 2 κ sn ch C.w sa sb)) (c0 c1 c2 c3 c4 c5 c6 who : Int) (A : Nat) (ar : Arena c0 c1 c2 c3) (hch : ch <= 1000000) (hA : 6 + c0 + c1 * 2 + (ch : Int) * 3 = A) (hn : A < s.n) (σ : Nat) (hC : C.ok σ) (hσ : σ <= 1000000) (hκ : κ < 4) (hu : C.us + room κ <= 1000) (M : Int) (hM : (ch : Int) * c3 = M) (m0 : 0 <= M) (mh : M <= 1000000) (hw : s.wd A = C.w) :
 Calls Tryz.prog 99 #[.pointer (some ⟨b,o,none⟩),.agg #[.int .i64 c0,.int .i64 c1,.int .i64 c2,.int .i64 c3,.int .i64 c4,.int .i64 c5,.int .i64 c6,.pointer (some ⟨L.p,0,none⟩),.int .i64 who]] w fun e w'=>e = .returned (.tuple #[]) /\ MemAt w' L ((s.by who).step A (⟨C.st,C.cl,C.us + room κ,C.sp⟩ : Ck).w) /\ Only (L.and b) w w' /\ ∃ cs',At w' b o T cs' (PlV 7 κ sn ch C.w (6 + c0 + c1 * 2 + c2 * 3 + M + (C.us : Int)) ch) /\ Same o 7 cs cs':=by
 have hbv : ¬ L.has w.heap.size:=fun hh=>by have:=h.lt _ hh;omega
 have hbb : ¬ w.heap.size = b:=fun hh=>by have:=hi.lt;omega
 have HA : Hid (6 + c0 + c1 * 2 + (ch : Int) * 3 = A):=hA
 have hr:=room_bd κ
 have hN : (⟨C.st,C.cl,C.us + room κ,C.sp⟩ : Ck).ok σ:=⟨hC.st,hC.cl,hu,hC.sp⟩
 have cw:=fun w=>chunk_w C σ hC (by omega) w
 have pw:=fun w=>putChunk_w (⟨C.st,C.cl,C.us + room κ,C.sp⟩ : Ck) σ hN (by omega) C.st C.cl ((C.us : Int) + (room κ : Int)) C.sp rfl rfl (by simp only;omega) rfl w
 have bw:=fun w=>lbase_any c0 c1 c2 c3 c4 c5 c6 ch M w ar hM m0 mh
 have hus:=hC.us
 have a1:=ar.t0
 have a2:=ar.t1
 have a3:=ar.s0
 have a4:=ar.s1
 have a5:=ar.k0
 have a6:=ar.k1
 obtain ⟨Z,hZ⟩ : ∃ Z,C.w = Z:=⟨_,rfl⟩
 obtain ⟨X,hX⟩ : ∃ X,(⟨C.st,C.cl,C.us + room κ,C.sp⟩ : Ck).w = X:=⟨_,rfl⟩
 rw [hZ] at cw hw hi ⊢
 rw [hX] at pw ⊢
 have HX : Hid (s.wd A = Z):=hw
 have HM : Hid ((ch : Int) * c3 = M):=hM
 clear hw hA hC hM
 have k4:=fun O=>alloc_cell (hi.cell 4 rfl) O
 go_enter Tryz.func99,Tryz.ntmps99
 go_wp2_with (go_at_call 111;refine (cw _).mono ?_;rintro e w3 ⟨rfl,b3⟩;have i4:=(hi.grown (grow_alloc (Below.refl _ _) (.cells #[.int .i64 c0,.int .i64 c1,.int .i64 c2,.int .i64 c3,.int .i64 c4,.int .i64 c5,.int .i64 c6,.pointer (some ⟨L.p,0,none⟩),.int .i64 who] 27))).grown b3;have m4:=(h.alloc (.cells #[.int .i64 c0,.int .i64 c1,.int .i64 c2,.int .i64 c3,.int .i64 c4,.int .i64 c5,.int .i64 c6,.pointer (some ⟨L.p,0,none⟩),.int .i64 who] 27)).below b3;have v4 : BoxV w3 w.heap.size c0 c1 c2 c3 c4 c5 c6 L.p who:=BoxV.new.grown b3;have o4 : Only (L.and b) w w3:=((Only.refl _ _).alloc _).trans (Only.ofGrown b3);have z3:=b3.size)
 rw [Go.Deep.nblk_alloc] at z3
 obtain ⟨B,hB⟩ : ∃ B,w3.heap.size = B:=⟨_,rfl⟩
 have j4:=At.new w3 166 [.int .i64 C.st,.int .i64 C.cl,.int .i64 C.us,.int .i64 C.sp]
 rw [hB] at j4 ⊢
 have hLB : Hid (¬ L.has B):=fun hh=>by have:=m4.lt _ hh;omega
 have hBb : Hid (¬ B = b):=fun hh=>by have:=i4.lt;omega
 have hBv : Hid (w.heap.size < B):=by unfold Hid;omega
 refine wp_over (fun W=>MemAt W L s /\ At W b o T cs (PlV 2 κ sn ch Z sa sb) /\ BoxV W w.heap.size c0 c1 c2 c3 c4 c5 c6 L.p who /\ Only (L.and b) w W /\ At W B 0 166 _ [.int .i64 C.st,.int .i64 C.cl,.int .i64 C.us,.int .i64 C.sp]) ⟨m4.alloc _,i4.grown (grow_alloc (Below.refl _ _) _),v4.grown (grow_alloc (Below.refl _ _) _),o4.alloc _,j4⟩ ?_
 clear k4 b3 i4 m4 v4 o4 j4 z3 hB
 rintro W ⟨m1,i1,v1,o1,j1⟩
 have g4:=fun N : Later W=>(j1.grown N.below).at0 2 rfl
 have e0:=fun N : Later W=>(v1.grown N.below).c0
 have e1:=fun N : Later W=>(v1.grown N.below).c1
 have e2:=fun N : Later W=>(v1.grown N.below).c2
 have e3:=fun N : Later W=>(v1.grown N.below).c3
 have e4:=fun N : Later W=>(v1.grown N.below).c4
 have e5:=fun N : Later W=>(v1.grown N.below).c5
 have e6:=fun N : Later W=>(v1.grown N.below).c6
 have e7:=fun N : Later W=>(v1.grown N.below).c7
 have e8:=fun N : Later W=>(v1.grown N.below).c8
 have f3:=fun N : Later W=>(i1.grown N.below).cell 3 rfl
 haveI:=Later.exists W
 refine wp_region_later (by kernel_rfl) (by kernel_rfl) ?_
 repeat (go_big_quiet_step ((go_at_call 39;exact Calls.later (bw _))))
 refine wpQuiet_nil ?_
 rintro _ ⟨nq,rfl⟩
 clear e0 e1 e2 e3 e4 e5 e6 e7 e8 f3
 go_wp2
 refine wp_over (fun W=>MemAt W L s /\ At W b o T cs (PlV 2 κ sn ch Z sa sb) /\ BoxV W w.heap.size c0 c1 c2 c3 c4 c5 c6 L.p who /\ Only (L.and b) w W /\ At W B 0 166 _ [.int .i64 C.st,.int .i64 C.cl,.int .i64 C.us,.int .i64 C.sp]) ⟨m1.below nq.below,i1.grown nq.below,v1.grown nq.below,o1.trans (Only.ofGrown nq.below),j1.grown nq.below⟩ ?_
 clear m1 i1 v1 o1 j1 g4 nq bw
 rintro W ⟨m1,i1,v1,o1,j1⟩
 refine wp_region_rely_tail Grown 9 [.val (.pointer (some ⟨B,2,none⟩)),.val (.int .i64 C.us),.val (.pointer (some ⟨b,o,none⟩)),.val (.pointer (some ⟨b,o,none⟩)),.val (.pointer (some ⟨b,o + 1,none⟩)),.val (.int .i64 κ),.val (.int .i64 (room κ)),.val (.int .i64 ((C.us : Int) + (room κ : Int))),.val (.pointer (some ⟨B,2,none⟩))] (by kernel_rfl) Grown.refl Grown.trans (by decide) (by kernel_rfl) (by kernel_rfl) (by kernel_rfl) (by kernel_rfl) (by kernel_rfl) (by kernel_rfl) ?_
 simp only [List.take_succ_cons,List.take_zero,relyAll,Act.put,List.setIfInBounds_toArray,List.set_cons_zero,List.set_cons_succ]
 refine ⟨?_,?_,?_,?_,?_,?_,?_,?_,?_,?_⟩
 · intros;apply ol;go_simp;exact gl
 · intro w' hg _
   apply ol
   have z:=(j1.drew.grown hg).at0 2 rfl
   go_simp
   exact gl
 · intros;apply ol;go_simp;exact gl
 · intros;apply ol;go_simp;exact gl
 · intros;apply ol;go_simp;exact gl
 · intro w' hg _
   apply ol
   have z:=(i1.drew.grown hg).cell 1 rfl
   go_simp
   exact gl
 · intro w' hg _
   apply ol
   go_simp
   refine (lroom_w κ hκ _).mono ?_
   rintro e w'' ⟨rfl,rfl⟩
   exact ⟨_,rfl,Grown.refl _,rfl⟩
 · intro w' hg _
   apply ol
   go_simp
   exact ⟨Grown.refl _,by simp only [Want.pred];rw [IntKind.wrap_i64];exact congrArg (Value.int .i64) (by omega)⟩
 · intros;apply ol;go_simp;exact gl
 intro w5 hg _
 have m5:=m1.drew.below hg
 have i5:=i1.drew.grown hg
 have v5:=(v1.grown ((Below.refl _ _).drew)).grown hg
 have o5 : Only (L.and b) w w5:=o1.drew.trans (Only.ofGrown hg)
 have j5:=j1.drew.grown hg
 clear hg m1 i1 v1 o1 j1
 have q2:=j5.at0 2 rfl
 have qf:=j5.fz
 go_wp2
 refine wp_over (fun W=>MemAt W L s /\ At W b o T cs (PlV 2 κ sn ch Z sa sb) /\ BoxV W w.heap.size c0 c1 c2 c3 c4 c5 c6 L.p who /\ Only (L.and b) w W /\ At W B 0 166 _ [.int .i64 C.st,.int .i64 C.cl,.int .i64 ((C.us : Int) + (room κ : Int)),.int .i64 C.sp]) ⟨m5.setIn hLB.out _ _,i5.other (fun e=>hBb.out e.symm) _ _,v5.setIn (by have:=hBv.out;omega) _ _,o5.setCell (fun hlt=>absurd hBv.out (by simp only at hlt;omega)) _,j5.put0 2 _⟩ ?_
 clear m5 i5 v5 o5 j5 q2 qf
 rintro W ⟨m1,i1,v1,o1,j1⟩
 refine wp_region_phase (Only L.has) Grown (fun p W'=>match p with | 0=>MemAt W' L s | _=>MemAt W' L ((s.by who).step A X)) [10] [.val (.agg #[.int .i64 c0,.int .i64 c1,.int .i64 c2,.int .i64 c3,.int .i64 c4,.int .i64 c5,.int .i64 c6,.pointer (some ⟨L.p,0,none⟩),.int .i64 who]),.val (.pointer (some ⟨b,o,none⟩)),.val (.agg #[.int .i64 c0,.int .i64 c1,.int .i64 c2,.int .i64 c3,.int .i64 c4,.int .i64 c5,.int .i64 c6,.pointer (some ⟨L.p,0,none⟩),.int .i64 who]),.val (.int .i64 A),.val (.pointer (some ⟨b,o,none⟩)),.val (.pointer (some ⟨b,o,none⟩)),.val (.pointer (some ⟨b,o + 4,none⟩)),.val (.int .u64 Z),.val (.agg #[.int .i64 C.st,.int .i64 C.cl,.int .i64 ((C.us : Int) + (room κ : Int)),.int .i64 C.sp]),.val (.int .u64 X),.val (.bool true),.val (.bool false)]
  (by kernel_rfl) (Only.refl _) (fun _ _ _ h k=>h.trans k) (fun x y h=>Only.ofGrown h) (fun x y p h k=>by match p,k with | 0,k=>exact k.below h | p + 1,k=>exact k.below h) m1.drew (by kernel_rfl) (by kernel_rfl) (by kernel_rfl) (by kernel_rfl) (by kernel_rfl) ?_
 simp only [phaseAll,Act.put,List.setIfInBounds_toArray,List.set_cons_zero,List.set_cons_succ]
 refine ⟨?_,?_,?_,?_,?_,?_,?_,?_,?_,?_,?_,?_,?_⟩
 · intro w' hR _
   apply ol
   obtain ⟨y0,y1,y2,y3,y4,y5,y6,y7,y8⟩:=(v1.grown ((Below.refl _ _).drew)).only hR hbv
   go_simp
   exact gl
 · intros;apply ol;go_simp;exact gl
 · intro w' hR _
   apply ol
   obtain ⟨y0,y1,y2,y3,y4,y5,y6,y7,y8⟩:=(v1.grown ((Below.refl _ _).drew)).only hR hbv
   go_simp
   exact gl
 · intro w' hR _
   apply ol
   go_simp
   refine (pat_any ((i1.drew.only hR hb).cell 3 rfl) _ _ _ _ _ _ _ _ A ar hch HA.out).mono ?_
   rintro e w'' ⟨rfl,b9⟩
   exact ⟨_,rfl,b9,rfl⟩
 · intros;apply ol;go_simp;exact gl
 · intros;apply ol;go_simp;exact gl
 · intros;apply ol;go_simp;exact gl
 · intro w' hR _
   apply ol
   have z:=(i1.drew.only hR hb).cell 4 rfl
   go_simp
   exact gl
 · intro w' hR _
   apply ol
   have jj:=j1.drew.only hR hLB.out
   have y0:=jj.at0 0 rfl
   have y1:=jj.at0 1 rfl
   have y2:=jj.at0 2 rfl
   have y3:=jj.at0 3 rfl
   go_simp
   exact gl
 · intro w' hR _
   apply ol
   go_simp
   refine (pw _).mono ?_
   rintro e w'' ⟨rfl,b9⟩
   exact ⟨_,rfl,b9,rfl⟩
 · intro w' hR _ hP
   apply ol
   go_simp
   refine (ecas_in (s:=s) hP _ _ _ _ _ _ _ _ A hn _ _).mono ?_
   rintro e w'' ⟨rfl,m2,o2⟩
   rw [show (s.by who).cas A Z X = (s.by who).step A X from if_pos HX.out] at m2
   exact ⟨_,rfl,⟨o2,m2⟩,congrArg Value.bool (decide_eq_true HX.out)⟩
 · intros;apply ol;go_simp;exact gl
 intro w2 hR m2 _
 have m2' : MemAt w2 L ((s.by who).step A X):=m2
 have i2:=i1.drew.only hR hb
 have o2 : Only (L.and b) w w2:=o1.drew.trans hR.andL
 clear m1 i1 v1 o1 j1 hR m2 HX HA cw pw hLB hBb hBv
 have k0:=i2.cell0 rfl
 have k3:=i2.cell 3 rfl
 have k5:=i2.cell 5 rfl
 have k6:=i2.cell 6 rfl
 have kf:=i2.fz
 go_wp2
 go_end0
 exact ⟨rfl,((m2'.setIn hb _ _).setIn hb _ _).setIn hb _ _,((o2.set _ _).set _ _).set _ _,_,((i2.set 5 _).set 6 _).set0 _,((Same.refl.set (by omega) _).set (by omega) _).set (by omega) _⟩
set_option maxHeartbeats 400000 in
theorem pgrow_no {w : World} {L : Loc} {s : Mm} {b o : Nat} {T : TypeId} {cs : Array Value} {sn sa sb : Int} {ch κ : Nat} (h : MemAt w L s) (hb : ¬ L.has b) (C : Ck) (hi : At w b o T cs (PlV 2 κ sn ch C.w sa sb)) (c0 c1 c2 c3 c4 c5 c6 who : Int) (A : Nat) (ar : Arena c0 c1 c2 c3) (hch : ch <= 1000000) (hA : 6 + c0 + c1 * 2 + (ch : Int) * 3 = A) (hn : A < s.n) (σ : Nat) (hC : C.ok σ) (hσ : σ <= 1000000) (hκ : κ < 4) (hu : C.us + room κ <= 1000) (M : Int) (hM : (ch : Int) * c3 = M) (m0 : 0 <= M) (mh : M <= 1000000) (hw : ¬ s.wd A = C.w) :
 Calls Tryz.prog 99 #[.pointer (some ⟨b,o,none⟩),.agg #[.int .i64 c0,.int .i64 c1,.int .i64 c2,.int .i64 c3,.int .i64 c4,.int .i64 c5,.int .i64 c6,.pointer (some ⟨L.p,0,none⟩),.int .i64 who]] w fun e w'=>e = .returned (.tuple #[]) /\ MemAt w' L ((s.by who).step A (s.wd A)) /\ Only (L.and b) w w' /\ ∃ cs',At w' b o T cs' (PlV 0 κ sn ch C.w sa sb) /\ Same o 7 cs cs':=by
 have hbv : ¬ L.has w.heap.size:=fun hh=>by have:=h.lt _ hh;omega
 have hbb : ¬ w.heap.size = b:=fun hh=>by have:=hi.lt;omega
 have HA : Hid (6 + c0 + c1 * 2 + (ch : Int) * 3 = A):=hA
 have hr:=room_bd κ
 have hN : (⟨C.st,C.cl,C.us + room κ,C.sp⟩ : Ck).ok σ:=⟨hC.st,hC.cl,hu,hC.sp⟩
 have cw:=fun w=>chunk_w C σ hC (by omega) w
 have pw:=fun w=>putChunk_w (⟨C.st,C.cl,C.us + room κ,C.sp⟩ : Ck) σ hN (by omega) C.st C.cl ((C.us : Int) + (room κ : Int)) C.sp rfl rfl (by simp only;omega) rfl w
 have bw:=fun w=>lbase_any c0 c1 c2 c3 c4 c5 c6 ch M w ar hM m0 mh
 have hus:=hC.us
 have a1:=ar.t0
 have a2:=ar.t1
 have a3:=ar.s0
 have a4:=ar.s1
 have a5:=ar.k0
 have a6:=ar.k1
 obtain ⟨Z,hZ⟩ : ∃ Z,C.w = Z:=⟨_,rfl⟩
 obtain ⟨X,hX⟩ : ∃ X,(⟨C.st,C.cl,C.us + room κ,C.sp⟩ : Ck).w = X:=⟨_,rfl⟩
 rw [hZ] at cw hw hi ⊢
 rw [hX] at pw
 have HX : Hid (¬ s.wd A = Z):=hw
 have HM : Hid ((ch : Int) * c3 = M):=hM
 clear hw hA hC hM
 have k4:=fun O=>alloc_cell (hi.cell 4 rfl) O
 go_enter Tryz.func99,Tryz.ntmps99
 go_wp2_with (go_at_call 111;refine (cw _).mono ?_;rintro e w3 ⟨rfl,b3⟩;have i4:=(hi.grown (grow_alloc (Below.refl _ _) (.cells #[.int .i64 c0,.int .i64 c1,.int .i64 c2,.int .i64 c3,.int .i64 c4,.int .i64 c5,.int .i64 c6,.pointer (some ⟨L.p,0,none⟩),.int .i64 who] 27))).grown b3;have m4:=(h.alloc (.cells #[.int .i64 c0,.int .i64 c1,.int .i64 c2,.int .i64 c3,.int .i64 c4,.int .i64 c5,.int .i64 c6,.pointer (some ⟨L.p,0,none⟩),.int .i64 who] 27)).below b3;have v4 : BoxV w3 w.heap.size c0 c1 c2 c3 c4 c5 c6 L.p who:=BoxV.new.grown b3;have o4 : Only (L.and b) w w3:=((Only.refl _ _).alloc _).trans (Only.ofGrown b3);have z3:=b3.size)
 rw [Go.Deep.nblk_alloc] at z3
 obtain ⟨B,hB⟩ : ∃ B,w3.heap.size = B:=⟨_,rfl⟩
 have j4:=At.new w3 166 [.int .i64 C.st,.int .i64 C.cl,.int .i64 C.us,.int .i64 C.sp]
 rw [hB] at j4 ⊢
 have hLB : Hid (¬ L.has B):=fun hh=>by have:=m4.lt _ hh;omega
 have hBb : Hid (¬ B = b):=fun hh=>by have:=i4.lt;omega
 have hBv : Hid (w.heap.size < B):=by unfold Hid;omega
 refine wp_over (fun W=>MemAt W L s /\ At W b o T cs (PlV 2 κ sn ch Z sa sb) /\ BoxV W w.heap.size c0 c1 c2 c3 c4 c5 c6 L.p who /\ Only (L.and b) w W /\ At W B 0 166 _ [.int .i64 C.st,.int .i64 C.cl,.int .i64 C.us,.int .i64 C.sp]) ⟨m4.alloc _,i4.grown (grow_alloc (Below.refl _ _) _),v4.grown (grow_alloc (Below.refl _ _) _),o4.alloc _,j4⟩ ?_
 clear k4 b3 i4 m4 v4 o4 j4 z3 hB
 rintro W ⟨m1,i1,v1,o1,j1⟩
 have g4:=fun N : Later W=>(j1.grown N.below).at0 2 rfl
 have e0:=fun N : Later W=>(v1.grown N.below).c0
 have e1:=fun N : Later W=>(v1.grown N.below).c1
 have e2:=fun N : Later W=>(v1.grown N.below).c2
 have e3:=fun N : Later W=>(v1.grown N.below).c3
 have e4:=fun N : Later W=>(v1.grown N.below).c4
 have e5:=fun N : Later W=>(v1.grown N.below).c5
 have e6:=fun N : Later W=>(v1.grown N.below).c6
 have e7:=fun N : Later W=>(v1.grown N.below).c7
 have e8:=fun N : Later W=>(v1.grown N.below).c8
 have f3:=fun N : Later W=>(i1.grown N.below).cell 3 rfl
 haveI:=Later.exists W
 refine wp_region_later (by kernel_rfl) (by kernel_rfl) ?_
 repeat (go_big_quiet_step ((go_at_call 39;exact Calls.later (bw _))))
 refine wpQuiet_nil ?_
 rintro _ ⟨nq,rfl⟩
 clear e0 e1 e2 e3 e4 e5 e6 e7 e8 f3
 go_wp2
 refine wp_over (fun W=>MemAt W L s /\ At W b o T cs (PlV 2 κ sn ch Z sa sb) /\ BoxV W w.heap.size c0 c1 c2 c3 c4 c5 c6 L.p who /\ Only (L.and b) w W /\ At W B 0 166 _ [.int .i64 C.st,.int .i64 C.cl,.int .i64 C.us,.int .i64 C.sp]) ⟨m1.below nq.below,i1.grown nq.below,v1.grown nq.below,o1.trans (Only.ofGrown nq.below),j1.grown nq.below⟩ ?_
 clear m1 i1 v1 o1 j1 g4 nq bw
 rintro W ⟨m1,i1,v1,o1,j1⟩
 refine wp_region_rely_tail Grown 9 [.val (.pointer (some ⟨B,2,none⟩)),.val (.int .i64 C.us),.val (.pointer (some ⟨b,o,none⟩)),.val (.pointer (some ⟨b,o,none⟩)),.val (.pointer (some ⟨b,o + 1,none⟩)),.val (.int .i64 κ),.val (.int .i64 (room κ)),.val (.int .i64 ((C.us : Int) + (room κ : Int))),.val (.pointer (some ⟨B,2,none⟩))] (by kernel_rfl) Grown.refl Grown.trans (by decide) (by kernel_rfl) (by kernel_rfl) (by kernel_rfl) (by kernel_rfl) (by kernel_rfl) (by kernel_rfl) ?_
 simp only [List.take_succ_cons,List.take_zero,relyAll,Act.put,List.setIfInBounds_toArray,List.set_cons_zero,List.set_cons_succ]
 refine ⟨?_,?_,?_,?_,?_,?_,?_,?_,?_,?_⟩
 · intros;apply ol;go_simp;exact gl
 · intro w' hg _
   apply ol
   have z:=(j1.drew.grown hg).at0 2 rfl
   go_simp
   exact gl
 · intros;apply ol;go_simp;exact gl
 · intros;apply ol;go_simp;exact gl
 · intros;apply ol;go_simp;exact gl
 · intro w' hg _
   apply ol
   have z:=(i1.drew.grown hg).cell 1 rfl
   go_simp
   exact gl
 · intro w' hg _
   apply ol
   go_simp
   refine (lroom_w κ hκ _).mono ?_
   rintro e w'' ⟨rfl,rfl⟩
   exact ⟨_,rfl,Grown.refl _,rfl⟩
 · intro w' hg _
   apply ol
   go_simp
   exact ⟨Grown.refl _,by simp only [Want.pred];rw [IntKind.wrap_i64];exact congrArg (Value.int .i64) (by omega)⟩
 · intros;apply ol;go_simp;exact gl
 intro w5 hg _
 have m5:=m1.drew.below hg
 have i5:=i1.drew.grown hg
 have v5:=(v1.grown ((Below.refl _ _).drew)).grown hg
 have o5 : Only (L.and b) w w5:=o1.drew.trans (Only.ofGrown hg)
 have j5:=j1.drew.grown hg
 clear hg m1 i1 v1 o1 j1
 have q2:=j5.at0 2 rfl
 have qf:=j5.fz
 go_wp2
 refine wp_over (fun W=>MemAt W L s /\ At W b o T cs (PlV 2 κ sn ch Z sa sb) /\ BoxV W w.heap.size c0 c1 c2 c3 c4 c5 c6 L.p who /\ Only (L.and b) w W /\ At W B 0 166 _ [.int .i64 C.st,.int .i64 C.cl,.int .i64 ((C.us : Int) + (room κ : Int)),.int .i64 C.sp]) ⟨m5.setIn hLB.out _ _,i5.other (fun e=>hBb.out e.symm) _ _,v5.setIn (by have:=hBv.out;omega) _ _,o5.setCell (fun hlt=>absurd hBv.out (by simp only at hlt;omega)) _,j5.put0 2 _⟩ ?_
 clear m5 i5 v5 o5 j5 q2 qf
 rintro W ⟨m1,i1,v1,o1,j1⟩
 refine wp_region_phase (Only L.has) Grown (fun p W'=>match p with | 0=>MemAt W' L s | _=>MemAt W' L ((s.by who).step A (s.wd A))) [10] [.val (.agg #[.int .i64 c0,.int .i64 c1,.int .i64 c2,.int .i64 c3,.int .i64 c4,.int .i64 c5,.int .i64 c6,.pointer (some ⟨L.p,0,none⟩),.int .i64 who]),.val (.pointer (some ⟨b,o,none⟩)),.val (.agg #[.int .i64 c0,.int .i64 c1,.int .i64 c2,.int .i64 c3,.int .i64 c4,.int .i64 c5,.int .i64 c6,.pointer (some ⟨L.p,0,none⟩),.int .i64 who]),.val (.int .i64 A),.val (.pointer (some ⟨b,o,none⟩)),.val (.pointer (some ⟨b,o,none⟩)),.val (.pointer (some ⟨b,o + 4,none⟩)),.val (.int .u64 Z),.val (.agg #[.int .i64 C.st,.int .i64 C.cl,.int .i64 ((C.us : Int) + (room κ : Int)),.int .i64 C.sp]),.val (.int .u64 X),.val (.bool false),.val (.bool true)]
  (by kernel_rfl) (Only.refl _) (fun _ _ _ h k=>h.trans k) (fun x y h=>Only.ofGrown h) (fun x y p h k=>by match p,k with | 0,k=>exact k.below h | p + 1,k=>exact k.below h) m1.drew (by kernel_rfl) (by kernel_rfl) (by kernel_rfl) (by kernel_rfl) (by kernel_rfl) ?_
 simp only [phaseAll,Act.put,List.setIfInBounds_toArray,List.set_cons_zero,List.set_cons_succ]
 refine ⟨?_,?_,?_,?_,?_,?_,?_,?_,?_,?_,?_,?_,?_⟩
 · intro w' hR _
   apply ol
   obtain ⟨y0,y1,y2,y3,y4,y5,y6,y7,y8⟩:=(v1.grown ((Below.refl _ _).drew)).only hR hbv
   go_simp
   exact gl
 · intros;apply ol;go_simp;exact gl
 · intro w' hR _
   apply ol
   obtain ⟨y0,y1,y2,y3,y4,y5,y6,y7,y8⟩:=(v1.grown ((Below.refl _ _).drew)).only hR hbv
   go_simp
   exact gl
 · intro w' hR _
   apply ol
   go_simp
   refine (pat_any ((i1.drew.only hR hb).cell 3 rfl) _ _ _ _ _ _ _ _ A ar hch HA.out).mono ?_
   rintro e w'' ⟨rfl,b9⟩
   exact ⟨_,rfl,b9,rfl⟩
 · intros;apply ol;go_simp;exact gl
 · intros;apply ol;go_simp;exact gl
 · intros;apply ol;go_simp;exact gl
 · intro w' hR _
   apply ol
   have z:=(i1.drew.only hR hb).cell 4 rfl
   go_simp
   exact gl
 · intro w' hR _
   apply ol
   have jj:=j1.drew.only hR hLB.out
   have y0:=jj.at0 0 rfl
   have y1:=jj.at0 1 rfl
   have y2:=jj.at0 2 rfl
   have y3:=jj.at0 3 rfl
   go_simp
   exact gl
 · intro w' hR _
   apply ol
   go_simp
   refine (pw _).mono ?_
   rintro e w'' ⟨rfl,b9⟩
   exact ⟨_,rfl,b9,rfl⟩
 · intro w' hR _ hP
   apply ol
   go_simp
   refine (ecas_in (s:=s) hP _ _ _ _ _ _ _ _ A hn _ _).mono ?_
   rintro e w'' ⟨rfl,m2,o2⟩
   rw [show (s.by who).cas A Z X = (s.by who).step A (s.wd A) from if_neg HX.out] at m2
   exact ⟨_,rfl,⟨o2,m2⟩,congrArg Value.bool (decide_eq_false HX.out)⟩
 · intros;apply ol;go_simp;exact gl
 intro w2 hR m2 _
 have m2' : MemAt w2 L ((s.by who).step A (s.wd A)):=m2
 have i2:=i1.drew.only hR hb
 have o2 : Only (L.and b) w w2:=o1.drew.trans hR.andL
 clear m1 i1 v1 o1 j1 hR m2 HX HA cw pw hLB hBb hBv
 have k0:=i2.cell0 rfl
 have k3:=i2.cell 3 rfl
 have k5:=i2.cell 5 rfl
 have k6:=i2.cell 6 rfl
 have kf:=i2.fz
 go_wp2
 refine bodyPost_ret (results_none rfl _ _ _) rfl ?_
 exact ⟨rfl,m2'.setIn hb _ _,o2.set _ _,_,i2.set0 _,Same.refl.set (by omega) _⟩
end Go.Proofs.YtlolfmoolgenpaaGreat

namespace Go.Proofs.YtlolfmoolgenpaaGreat
open Go.RowKit
set_option maxRecDepth 20000
theorem ptake_yes {w : World} {L : Loc} {s : Mm} {b o : Nat} {T : TypeId} {cs : Array Value} {sn sa sb : Int} {ch κ : Nat} (h : MemAt w L s) (hb : ¬ L.has b) (C : Ck) (hi : At w b o T cs (PlV 4 κ sn ch C.w sa sb)) (c0 c1 c2 c3 c4 c5 c6 who : Int) (A : Nat) (ar : Arena c0 c1 c2 c3) (hch : ch <= 1000000) (hA : 6 + c0 + c1 * 2 + (ch : Int) * 3 = A) (hn : A < s.n) (σ : Nat) (hC : C.ok σ) (hσ : σ <= 1000000) (hκ : κ < 4) (hw : s.wd A = C.w)  :
 Calls Tryz.prog 101 #[.pointer (some ⟨b,o,none⟩),.agg #[.int .i64 c0,.int .i64 c1,.int .i64 c2,.int .i64 c3,.int .i64 c4,.int .i64 c5,.int .i64 c6,.pointer (some ⟨L.p,0,none⟩),.int .i64 who]] w fun e w'=>e = .returned (.tuple #[]) /\ MemAt w' L ((s.by who).step A (⟨1,κ,0,C.sp + 1⟩ : Ck).w) /\ Only (L.and b) w w' /\ ∃ cs',At w' b o T cs' (PlV 5 κ sn ch (⟨1,κ,0,C.sp + 1⟩ : Ck).w sa sb) /\ Same o 7 cs cs':=by
 have hbv : ¬ L.has w.heap.size:=fun hh=>by have:=h.lt _ hh;omega
 have hbb : ¬ w.heap.size = b:=fun hh=>by have:=hi.lt;omega
 have HA : Hid (6 + c0 + c1 * 2 + (ch : Int) * 3 = A):=hA
 have HW : Hid (s.wd A = C.w):=hw
 have HC : Hid (C.ok σ):=hC
 clear hw hA hC
 go_enter Tryz.func101,Tryz.ntmps101
 go_wp2
 refine wp_over (fun W=>MemAt W L s /\ At W b o T cs (PlV 4 κ sn ch C.w sa sb) /\ BoxV W w.heap.size c0 c1 c2 c3 c4 c5 c6 L.p who /\ Only (L.and b) w W) ⟨h.alloc _,hi.grown (grow_alloc (Below.refl _ _) _),BoxV.new,(Only.refl _ _).alloc _⟩ ?_
 rintro W ⟨m1,i1,v1,o1⟩
 refine wp_region_rely_tail Grown 7 [.val (.pointer (some ⟨b,o,none⟩)),.val (.agg #[.int .i64 c0,.int .i64 c1,.int .i64 c2,.int .i64 c3,.int .i64 c4,.int .i64 c5,.int .i64 c6,.pointer (some ⟨L.p,0,none⟩),.int .i64 who]),.val (.pointer (some ⟨b,o,none⟩)),.val (.pointer (some ⟨b,o,none⟩)),.val (.pointer (some ⟨b,o + 1,none⟩)),.val (.int .i64 κ),.val (.agg #[.int .i64 1,.int .i64 κ,.int .i64 0,.int .i64 0])] (by kernel_rfl) Grown.refl Grown.trans (by decide) (by kernel_rfl) (by kernel_rfl) (by kernel_rfl) (by kernel_rfl) (by kernel_rfl) (by kernel_rfl) ?_
 simp only [List.take_succ_cons,List.take_zero,relyAll,Act.put,List.setIfInBounds_toArray,List.set_cons_zero,List.set_cons_succ]
 refine ⟨?_,?_,?_,?_,?_,?_,?_,?_⟩
 · intros;apply ol;go_simp;exact gl
 · intro w' hg _
   apply ol
   obtain ⟨y0,y1,y2,y3,y4,y5,y6,y7,y8⟩:=(v1.grown ((Below.refl _ _).drew)).grown hg
   go_simp
   exact gl
 · intros;apply ol;go_simp;exact gl
 · intros;apply ol;go_simp;exact gl
 · intros;apply ol;go_simp;exact gl
 · intro w' hg _
   apply ol
   have z:=(i1.drew.grown hg).cell 1 rfl
   go_simp
   exact gl
 · intros;apply ol;go_simp;exact gl
 intro w5 hg _
 have m5:=m1.drew.below hg
 have i5:=i1.drew.grown hg
 have v5:=(v1.grown ((Below.refl _ _).drew)).grown hg
 have o5 : Only (L.and b) w w5:=o1.drew.trans (Only.ofGrown hg)
 clear hg m1 i1 v1 o1
 go_wp2_with (go_at_call 113;refine (pturn_any m5 hb C i5 _ _ _ _ _ _ _ _ A ar hch HA.out hn 1 κ σ HC.out ⟨by omega,by omega⟩ hσ true (decide_eq_true HW.out)).mono ?_;rintro e w6 ⟨rfl,m6,o6,cs6,i6,s6⟩;rw [show (s.by who).cas A C.w (⟨1,κ,0,C.sp + 1⟩ : Ck).w = (s.by who).step A (⟨1,κ,0,C.sp + 1⟩ : Ck).w from if_pos HW.out] at m6;have k0:=i6.cell0 rfl;have kf:=i6.fz)
 go_end0
 exact ⟨rfl,m6.setIn hb _ _,(o5.trans o6).set _ _,_,i6.set0 _,s6.set (j:=o) (by omega) _⟩
theorem ptake_no {w : World} {L : Loc} {s : Mm} {b o : Nat} {T : TypeId} {cs : Array Value} {sn sa sb : Int} {ch κ : Nat} (h : MemAt w L s) (hb : ¬ L.has b) (C : Ck) (hi : At w b o T cs (PlV 4 κ sn ch C.w sa sb)) (c0 c1 c2 c3 c4 c5 c6 who : Int) (A : Nat) (ar : Arena c0 c1 c2 c3) (hch : ch <= 1000000) (hA : 6 + c0 + c1 * 2 + (ch : Int) * 3 = A) (hn : A < s.n) (σ : Nat) (hC : C.ok σ) (hσ : σ <= 1000000) (hκ : κ < 4) (hw : ¬ s.wd A = C.w) (nx' : Int) (hnx : (if c2 <= (ch : Int) + 1 then 8 else 3) = nx') :
 Calls Tryz.prog 101 #[.pointer (some ⟨b,o,none⟩),.agg #[.int .i64 c0,.int .i64 c1,.int .i64 c2,.int .i64 c3,.int .i64 c4,.int .i64 c5,.int .i64 c6,.pointer (some ⟨L.p,0,none⟩),.int .i64 who]] w fun e w'=>e = .returned (.tuple #[]) /\ MemAt w' L ((s.by who).step A (s.wd A)) /\ Only (L.and b) w w' /\ ∃ cs',At w' b o T cs' (PlV nx' κ sn ((ch : Int) + 1) (⟨1,κ,0,C.sp + 1⟩ : Ck).w sa sb) /\ Same o 7 cs cs':=by
 have hbv : ¬ L.has w.heap.size:=fun hh=>by have:=h.lt _ hh;omega
 have hbb : ¬ w.heap.size = b:=fun hh=>by have:=hi.lt;omega
 have HA : Hid (6 + c0 + c1 * 2 + (ch : Int) * 3 = A):=hA
 have HW : Hid (¬ s.wd A = C.w):=hw
 have HC : Hid (C.ok σ):=hC
 clear hw hA hC
 go_enter Tryz.func101,Tryz.ntmps101
 go_wp2
 refine wp_over (fun W=>MemAt W L s /\ At W b o T cs (PlV 4 κ sn ch C.w sa sb) /\ BoxV W w.heap.size c0 c1 c2 c3 c4 c5 c6 L.p who /\ Only (L.and b) w W) ⟨h.alloc _,hi.grown (grow_alloc (Below.refl _ _) _),BoxV.new,(Only.refl _ _).alloc _⟩ ?_
 rintro W ⟨m1,i1,v1,o1⟩
 refine wp_region_rely_tail Grown 7 [.val (.pointer (some ⟨b,o,none⟩)),.val (.agg #[.int .i64 c0,.int .i64 c1,.int .i64 c2,.int .i64 c3,.int .i64 c4,.int .i64 c5,.int .i64 c6,.pointer (some ⟨L.p,0,none⟩),.int .i64 who]),.val (.pointer (some ⟨b,o,none⟩)),.val (.pointer (some ⟨b,o,none⟩)),.val (.pointer (some ⟨b,o + 1,none⟩)),.val (.int .i64 κ),.val (.agg #[.int .i64 1,.int .i64 κ,.int .i64 0,.int .i64 0])] (by kernel_rfl) Grown.refl Grown.trans (by decide) (by kernel_rfl) (by kernel_rfl) (by kernel_rfl) (by kernel_rfl) (by kernel_rfl) (by kernel_rfl) ?_
 simp only [List.take_succ_cons,List.take_zero,relyAll,Act.put,List.setIfInBounds_toArray,List.set_cons_zero,List.set_cons_succ]
 refine ⟨?_,?_,?_,?_,?_,?_,?_,?_⟩
 · intros;apply ol;go_simp;exact gl
 · intro w' hg _
   apply ol
   obtain ⟨y0,y1,y2,y3,y4,y5,y6,y7,y8⟩:=(v1.grown ((Below.refl _ _).drew)).grown hg
   go_simp
   exact gl
 · intros;apply ol;go_simp;exact gl
 · intros;apply ol;go_simp;exact gl
 · intros;apply ol;go_simp;exact gl
 · intro w' hg _
   apply ol
   have z:=(i1.drew.grown hg).cell 1 rfl
   go_simp
   exact gl
 · intros;apply ol;go_simp;exact gl
 intro w5 hg _
 have m5:=m1.drew.below hg
 have i5:=i1.drew.grown hg
 have v5:=(v1.grown ((Below.refl _ _).drew)).grown hg
 have o5 : Only (L.and b) w w5:=o1.drew.trans (Only.ofGrown hg)
 clear hg m1 i1 v1 o1
 go_wp2_with (go_at_call 113;refine (pturn_any m5 hb C i5 _ _ _ _ _ _ _ _ A ar hch HA.out hn 1 κ σ HC.out ⟨by omega,by omega⟩ hσ false (decide_eq_false HW.out)).mono ?_;rintro e w6 ⟨rfl,m6,o6,cs6,i6,s6⟩;rw [show (s.by who).cas A C.w (⟨1,κ,0,C.sp + 1⟩ : Ck).w = (s.by who).step A (s.wd A) from if_neg HW.out] at m6;have k0:=i6.cell0 rfl;have kf:=i6.fz)
 refine wp_over (fun W=>MemAt W L ((s.by who).step A (s.wd A)) /\ At W b o T cs6 (PlV 4 κ sn ch (⟨1,κ,0,C.sp + 1⟩ : Ck).w sa sb) /\ BoxV W w.heap.size c0 c1 c2 c3 c4 c5 c6 L.p who /\ Only (L.and b) w W) ⟨m6,i6,v5.only o6 (fun hh=>hh.elim hbv hbb),o5.trans o6⟩ ?_
 clear m5 i5 v5 o5 m6 i6 o6 k0 kf
 rintro W ⟨m1,i1,v1,o1⟩
 refine wp_region_rely_tail Grown 7 [.val (.pointer (some ⟨b,o,none⟩)),.val (.agg #[.int .i64 c0,.int .i64 c1,.int .i64 c2,.int .i64 c3,.int .i64 c4,.int .i64 c5,.int .i64 c6,.pointer (some ⟨L.p,0,none⟩),.int .i64 who]),.val (.pointer (some ⟨b,o,none⟩)),.val (.pointer (some ⟨b,o,none⟩)),.val (.pointer (some ⟨b,o + 3,none⟩)),.val (.int .i64 ch),.val (.int .i64 ((ch : Int) + 1))] (by kernel_rfl) Grown.refl Grown.trans (by decide) (by kernel_rfl) (by kernel_rfl) (by kernel_rfl) (by kernel_rfl) (by kernel_rfl) (by kernel_rfl) ?_
 simp only [List.take_succ_cons,List.take_zero,relyAll,Act.put,List.setIfInBounds_toArray,List.set_cons_zero,List.set_cons_succ]
 refine ⟨?_,?_,?_,?_,?_,?_,?_,?_⟩
 · intros;apply ol;go_simp;exact gl
 · intro w' hg _
   apply ol
   obtain ⟨y0,y1,y2,y3,y4,y5,y6,y7,y8⟩:=(v1.grown ((Below.refl _ _).drew)).grown hg
   go_simp
   exact gl
 · intros;apply ol;go_simp;exact gl
 · intros;apply ol;go_simp;exact gl
 · intros;apply ol;go_simp;exact gl
 · intro w' hg _
   apply ol
   have z:=(i1.drew.grown hg).cell 3 rfl
   go_simp
   exact gl
 · intro w' hg _
   apply ol
   go_simp
   exact ⟨Grown.refl _,by simp only [Want.pred];rw [IntKind.wrap_i64];exact congrArg (Value.int .i64) (by omega)⟩
 intro w5 hg _
 have m5:=m1.drew.below hg
 have i5:=i1.drew.grown hg
 have v5:=(v1.grown ((Below.refl _ _).drew)).grown hg
 have o5 : Only (L.and b) w w5:=o1.drew.trans (Only.ofGrown hg)
 clear hg m1 i1 v1 o1
 go_wp2_with (go_at_call 109;refine (plook_any m5 hb i5 _ _ _ _ _ _ _ _ _ nx' hnx).mono ?_;rintro e w6 ⟨rfl,m7,o7,cs7,i7,s7⟩)
 refine bodyPost_ret (results_none rfl _ _ _) rfl ?_
 exact ⟨rfl,m7,o5.trans o7,cs7,i7,s6.trans s7⟩
theorem pfree_yes {w : World} {L : Loc} {s : Mm} {b o : Nat} {T : TypeId} {cs : Array Value} {ka sn sa sb : Int} {ch : Nat} (h : MemAt w L s) (hb : ¬ L.has b) (C : Ck) (hi : At w b o T cs (PlV 6 ka sn ch C.w sa sb)) (c0 c1 c2 c3 c4 c5 c6 who : Int) (A : Nat) (ar : Arena c0 c1 c2 c3) (hch : ch <= 1000000) (hA : 6 + c0 + c1 * 2 + (ch : Int) * 3 = A) (hn : A < s.n) (σ : Nat) (hC : C.ok σ) (hσ : σ <= 1000000) (hw : s.wd A = C.w) :
 Calls Tryz.prog 103 #[.pointer (some ⟨b,o,none⟩),.agg #[.int .i64 c0,.int .i64 c1,.int .i64 c2,.int .i64 c3,.int .i64 c4,.int .i64 c5,.int .i64 c6,.pointer (some ⟨L.p,0,none⟩),.int .i64 who]] w fun e w'=>e = .returned (.tuple #[]) /\ MemAt w' L ((s.by who).step A (⟨0,0,0,C.sp + 1⟩ : Ck).w) /\ Only (L.and b) w w' /\ ∃ cs',At w' b o T cs' (PlV 0 ka sn ch (⟨0,0,0,C.sp + 1⟩ : Ck).w sa sb) /\ Same o 7 cs cs':=by
 have hbv : ¬ L.has w.heap.size:=fun hh=>by have:=h.lt _ hh;omega
 have hbb : ¬ w.heap.size = b:=fun hh=>by have:=hi.lt;omega
 have HA : Hid (6 + c0 + c1 * 2 + (ch : Int) * 3 = A):=hA
 have HW : Hid (s.wd A = C.w):=hw
 have HC : Hid (C.ok σ):=hC
 clear hw hA hC
 have i1:=hi.grown (grow_alloc (Below.refl _ _) (.cells #[.int .i64 c0,.int .i64 c1,.int .i64 c2,.int .i64 c3,.int .i64 c4,.int .i64 c5,.int .i64 c6,.pointer (some ⟨L.p,0,none⟩),.int .i64 who] 27))
 have m1:=h.alloc (.cells #[.int .i64 c0,.int .i64 c1,.int .i64 c2,.int .i64 c3,.int .i64 c4,.int .i64 c5,.int .i64 c6,.pointer (some ⟨L.p,0,none⟩),.int .i64 who] 27)
 have o1 : Only (L.and b) w (w.alloc (.cells #[.int .i64 c0,.int .i64 c1,.int .i64 c2,.int .i64 c3,.int .i64 c4,.int .i64 c5,.int .i64 c6,.pointer (some ⟨L.p,0,none⟩),.int .i64 who] 27)):=(Only.refl _ _).alloc _
 go_enter Tryz.func103,Tryz.ntmps103
 go_wp2_with (go_at_call 113;refine (pturn_any m1 hb C i1 _ _ _ _ _ _ _ _ A ar hch HA.out hn 0 0 σ HC.out ⟨by omega,by omega⟩ hσ true (decide_eq_true HW.out)).mono ?_;rintro e w6 ⟨rfl,m6,o6,cs6,i6,s6⟩;rw [show (s.by who).cas A C.w (⟨0,0,0,C.sp + 1⟩ : Ck).w = (s.by who).step A (⟨0,0,0,C.sp + 1⟩ : Ck).w from if_pos HW.out] at m6;have k0:=i6.cell0 rfl;have kf:=i6.fz)
 go_end0
 exact ⟨rfl,m6.setIn hb _ _,(o1.trans o6).set _ _,_,i6.set0 _,s6.set (j:=o) (by omega) _⟩
theorem pfree_no {w : World} {L : Loc} {s : Mm} {b o : Nat} {T : TypeId} {cs : Array Value} {ka sn sa sb : Int} {ch : Nat} (h : MemAt w L s) (hb : ¬ L.has b) (C : Ck) (hi : At w b o T cs (PlV 6 ka sn ch C.w sa sb)) (c0 c1 c2 c3 c4 c5 c6 who : Int) (A : Nat) (ar : Arena c0 c1 c2 c3) (hch : ch <= 1000000) (hA : 6 + c0 + c1 * 2 + (ch : Int) * 3 = A) (hn : A < s.n) (σ : Nat) (hC : C.ok σ) (hσ : σ <= 1000000) (hw : ¬ s.wd A = C.w) :
 Calls Tryz.prog 103 #[.pointer (some ⟨b,o,none⟩),.agg #[.int .i64 c0,.int .i64 c1,.int .i64 c2,.int .i64 c3,.int .i64 c4,.int .i64 c5,.int .i64 c6,.pointer (some ⟨L.p,0,none⟩),.int .i64 who]] w fun e w'=>e = .returned (.tuple #[]) /\ MemAt w' L ((s.by who).step A (s.wd A)) /\ Only (L.and b) w w' /\ ∃ cs',At w' b o T cs' (PlV 0 ka sn ch (⟨0,0,0,C.sp + 1⟩ : Ck).w sa sb) /\ Same o 7 cs cs':=by
 have hbv : ¬ L.has w.heap.size:=fun hh=>by have:=h.lt _ hh;omega
 have hbb : ¬ w.heap.size = b:=fun hh=>by have:=hi.lt;omega
 have HA : Hid (6 + c0 + c1 * 2 + (ch : Int) * 3 = A):=hA
 have HW : Hid (¬ s.wd A = C.w):=hw
 have HC : Hid (C.ok σ):=hC
 clear hw hA hC
 have i1:=hi.grown (grow_alloc (Below.refl _ _) (.cells #[.int .i64 c0,.int .i64 c1,.int .i64 c2,.int .i64 c3,.int .i64 c4,.int .i64 c5,.int .i64 c6,.pointer (some ⟨L.p,0,none⟩),.int .i64 who] 27))
 have m1:=h.alloc (.cells #[.int .i64 c0,.int .i64 c1,.int .i64 c2,.int .i64 c3,.int .i64 c4,.int .i64 c5,.int .i64 c6,.pointer (some ⟨L.p,0,none⟩),.int .i64 who] 27)
 have o1 : Only (L.and b) w (w.alloc (.cells #[.int .i64 c0,.int .i64 c1,.int .i64 c2,.int .i64 c3,.int .i64 c4,.int .i64 c5,.int .i64 c6,.pointer (some ⟨L.p,0,none⟩),.int .i64 who] 27)):=(Only.refl _ _).alloc _
 go_enter Tryz.func103,Tryz.ntmps103
 go_wp2_with (go_at_call 113;refine (pturn_any m1 hb C i1 _ _ _ _ _ _ _ _ A ar hch HA.out hn 0 0 σ HC.out ⟨by omega,by omega⟩ hσ false (decide_eq_false HW.out)).mono ?_;rintro e w6 ⟨rfl,m6,o6,cs6,i6,s6⟩;rw [show (s.by who).cas A C.w (⟨0,0,0,C.sp + 1⟩ : Ck).w = (s.by who).step A (s.wd A) from if_neg HW.out] at m6;have k0:=i6.cell0 rfl;have kf:=i6.fz)
 go_end0
 exact ⟨rfl,m6.setIn hb _ _,(o1.trans o6).set _ _,_,i6.set0 _,s6.set (j:=o) (by omega) _⟩
theorem popen_yes {w : World} {L : Loc} {s : Mm} {b o : Nat} {T : TypeId} {cs : Array Value} {sn ws sa sb : Int} {ch κ : Nat} (h : MemAt w L s) (hb : ¬ L.has b) (hi : At w b o T cs (PlV 5 κ sn ch ws sa sb)) (c0 c1 c2 c3 c4 c5 c6 who : Int) (hκ : κ < 4) (hn : 2 + κ < s.n) (hch : ch <= 1000000) (hw : s.wd (2 + κ) = sn) :
 Calls Tryz.prog 102 #[.pointer (some ⟨b,o,none⟩),.agg #[.int .i64 c0,.int .i64 c1,.int .i64 c2,.int .i64 c3,.int .i64 c4,.int .i64 c5,.int .i64 c6,.pointer (some ⟨L.p,0,none⟩),.int .i64 who]] w fun e w'=>e = .returned (.tuple #[]) /\ MemAt w' L ((s.by who).step (2 + κ) ((ch : Int) + 1)) /\ Only (L.and b) w w' /\ ∃ cs',At w' b o T cs' (PlV 0 κ sn ch ws sa sb) /\ Same o 7 cs cs':=by
 have hbv : ¬ L.has w.heap.size:=fun hh=>by have:=h.lt _ hh;omega
 have hbb : ¬ w.heap.size = b:=fun hh=>by have:=hi.lt;omega
 have HW : Hid (s.wd (2 + κ) = sn):=hw
 clear hw
 have k0:=fun O=>alloc_cell (hi.cell0 rfl) O
 have kf:=fun O i=>(hi.grown (grow_alloc (Below.refl _ _) O)).fz i
 go_enter Tryz.func102,Tryz.ntmps102
 go_wp2
 refine wp_over (fun W=>MemAt W L s /\ At W b o T (cs.setIfInBounds o (.int .i64 6)) (PlV 6 κ sn ch ws sa sb) /\ BoxV W w.heap.size c0 c1 c2 c3 c4 c5 c6 L.p who /\ Only (L.and b) w W) ⟨(h.alloc _).setIn hb _ _,(hi.grown (grow_alloc (Below.refl _ _) _)).set0 _,BoxV.new.setIn hbb _ _,((Only.refl _ _).alloc _).set _ _⟩ ?_
 clear k0 kf
 rintro W ⟨m1,i1,v1,o1⟩
 refine wp_region_phase (Only L.has) Grown (fun p W'=>match p with | 0=>MemAt W' L s | _=>MemAt W' L ((s.by who).step (2 + κ) ((ch : Int) + 1))) [16] [.val (.agg #[.int .i64 c0,.int .i64 c1,.int .i64 c2,.int .i64 c3,.int .i64 c4,.int .i64 c5,.int .i64 c6,.pointer (some ⟨L.p,0,none⟩),.int .i64 who]),.val (.pointer (some ⟨b,o,none⟩)),.val (.pointer (some ⟨b,o,none⟩)),.val (.pointer (some ⟨b,o + 1,none⟩)),.val (.int .i64 κ),.val (.int .i64 ((2 + κ : Nat) : Int)),.val (.pointer (some ⟨b,o,none⟩)),.val (.pointer (some ⟨b,o,none⟩)),.val (.pointer (some ⟨b,o + 2,none⟩)),.val (.int .u64 sn),.val (.pointer (some ⟨b,o,none⟩)),.val (.pointer (some ⟨b,o,none⟩)),.val (.pointer (some ⟨b,o + 3,none⟩)),.val (.int .i64 ch),.val (.int .i64 ((ch : Int) + 1)),.val (.int .u64 ((ch : Int) + 1)),.val (.bool true)]
  (by kernel_rfl) (Only.refl _) (fun _ _ _ h k=>h.trans k) (fun x y h=>Only.ofGrown h) (fun x y p h k=>by match p,k with | 0,k=>exact k.below h | p + 1,k=>exact k.below h) m1.drew (by kernel_rfl) (by kernel_rfl) (by kernel_rfl) (by kernel_rfl) (by kernel_rfl) ?_
 simp only [phaseAll,Act.put,List.setIfInBounds_toArray,List.set_cons_zero,List.set_cons_succ]
 refine ⟨?_,?_,?_,?_,?_,?_,?_,?_,?_,?_,?_,?_,?_,?_,?_,?_,?_,?_⟩
 · intro w' hR _
   apply ol
   obtain ⟨y0,y1,y2,y3,y4,y5,y6,y7,y8⟩:=(v1.grown ((Below.refl _ _).drew)).only hR hbv
   go_simp
   exact gl
 · intros;apply ol;go_simp;exact gl
 · intros;apply ol;go_simp;exact gl
 · intros;apply ol;go_simp;exact gl
 · intro w' hR _
   apply ol
   have z:=(i1.drew.only hR hb).cell 1 rfl
   go_simp
   exact gl
 · intro w' hR _
   apply ol
   go_simp
   refine (lopen_any (κ : Int) _ (by omega) (by omega)).mono ?_
   rintro e w'' ⟨rfl,rfl⟩
   exact ⟨_,rfl,Grown.refl _,congrArg (Value.int .i64) (by omega)⟩
 · intros;apply ol;go_simp;exact gl
 · intros;apply ol;go_simp;exact gl
 · intros;apply ol;go_simp;exact gl
 · intro w' hR _
   apply ol
   have z:=(i1.drew.only hR hb).cell 2 rfl
   go_simp
   exact gl
 · intros;apply ol;go_simp;exact gl
 · intros;apply ol;go_simp;exact gl
 · intros;apply ol;go_simp;exact gl
 · intro w' hR _
   apply ol
   have z:=(i1.drew.only hR hb).cell 3 rfl
   go_simp
   exact gl
 · intro w' hR _
   apply ol
   go_simp
   exact ⟨Grown.refl _,by simp only [Want.pred];rw [IntKind.wrap_i64];exact congrArg (Value.int .i64) (by omega)⟩
 · intro w' hR _
   apply ol
   go_simp
   exact ⟨Grown.refl _,congrArg (Value.int .u64) (wrap_small _ (by omega) (by omega))⟩
 · intro w' hR _ hP
   apply ol
   go_simp
   refine (ecas_in (s:=s) hP _ _ _ _ _ _ _ _ (2 + κ) hn _ _).mono ?_
   rintro e w'' ⟨rfl,m2,o2⟩
   rw [show (s.by who).cas (2 + κ) sn ((ch : Int) + 1) = (s.by who).step (2 + κ) ((ch : Int) + 1) from if_pos HW.out] at m2
   exact ⟨_,rfl,⟨o2,m2⟩,congrArg Value.bool (decide_eq_true HW.out)⟩
 intro w2 hR m2 _
 have m2' : MemAt w2 L ((s.by who).step (2 + κ) ((ch : Int) + 1)):=m2
 have i2:=i1.drew.only hR hb
 have o2 : Only (L.and b) w w2:=o1.drew.trans hR.andL
 clear m1 i1 v1 o1 hR m2 HW
 have k0:=i2.cell0 rfl
 have kf:=i2.fz
 go_wp2
 go_end0
 exact ⟨rfl,m2'.setIn hb _ _,o2.set _ _,_,i2.set0 _,(Same.refl.set (by omega) _).set (by omega) _⟩
theorem popen_no {w : World} {L : Loc} {s : Mm} {b o : Nat} {T : TypeId} {cs : Array Value} {sn ws sa sb : Int} {ch κ : Nat} (h : MemAt w L s) (hb : ¬ L.has b) (hi : At w b o T cs (PlV 5 κ sn ch ws sa sb)) (c0 c1 c2 c3 c4 c5 c6 who : Int) (hκ : κ < 4) (hn : 2 + κ < s.n) (hch : ch <= 1000000) (hw : ¬ s.wd (2 + κ) = sn) :
 Calls Tryz.prog 102 #[.pointer (some ⟨b,o,none⟩),.agg #[.int .i64 c0,.int .i64 c1,.int .i64 c2,.int .i64 c3,.int .i64 c4,.int .i64 c5,.int .i64 c6,.pointer (some ⟨L.p,0,none⟩),.int .i64 who]] w fun e w'=>e = .returned (.tuple #[]) /\ MemAt w' L ((s.by who).step (2 + κ) (s.wd (2 + κ))) /\ Only (L.and b) w w' /\ ∃ cs',At w' b o T cs' (PlV 6 κ sn ch ws sa sb) /\ Same o 7 cs cs':=by
 have hbv : ¬ L.has w.heap.size:=fun hh=>by have:=h.lt _ hh;omega
 have hbb : ¬ w.heap.size = b:=fun hh=>by have:=hi.lt;omega
 have HW : Hid (¬ s.wd (2 + κ) = sn):=hw
 clear hw
 have k0:=fun O=>alloc_cell (hi.cell0 rfl) O
 have kf:=fun O i=>(hi.grown (grow_alloc (Below.refl _ _) O)).fz i
 go_enter Tryz.func102,Tryz.ntmps102
 go_wp2
 refine wp_over (fun W=>MemAt W L s /\ At W b o T (cs.setIfInBounds o (.int .i64 6)) (PlV 6 κ sn ch ws sa sb) /\ BoxV W w.heap.size c0 c1 c2 c3 c4 c5 c6 L.p who /\ Only (L.and b) w W) ⟨(h.alloc _).setIn hb _ _,(hi.grown (grow_alloc (Below.refl _ _) _)).set0 _,BoxV.new.setIn hbb _ _,((Only.refl _ _).alloc _).set _ _⟩ ?_
 clear k0 kf
 rintro W ⟨m1,i1,v1,o1⟩
 refine wp_region_phase (Only L.has) Grown (fun p W'=>match p with | 0=>MemAt W' L s | _=>MemAt W' L ((s.by who).step (2 + κ) (s.wd (2 + κ)))) [16] [.val (.agg #[.int .i64 c0,.int .i64 c1,.int .i64 c2,.int .i64 c3,.int .i64 c4,.int .i64 c5,.int .i64 c6,.pointer (some ⟨L.p,0,none⟩),.int .i64 who]),.val (.pointer (some ⟨b,o,none⟩)),.val (.pointer (some ⟨b,o,none⟩)),.val (.pointer (some ⟨b,o + 1,none⟩)),.val (.int .i64 κ),.val (.int .i64 ((2 + κ : Nat) : Int)),.val (.pointer (some ⟨b,o,none⟩)),.val (.pointer (some ⟨b,o,none⟩)),.val (.pointer (some ⟨b,o + 2,none⟩)),.val (.int .u64 sn),.val (.pointer (some ⟨b,o,none⟩)),.val (.pointer (some ⟨b,o,none⟩)),.val (.pointer (some ⟨b,o + 3,none⟩)),.val (.int .i64 ch),.val (.int .i64 ((ch : Int) + 1)),.val (.int .u64 ((ch : Int) + 1)),.val (.bool false)]
  (by kernel_rfl) (Only.refl _) (fun _ _ _ h k=>h.trans k) (fun x y h=>Only.ofGrown h) (fun x y p h k=>by match p,k with | 0,k=>exact k.below h | p + 1,k=>exact k.below h) m1.drew (by kernel_rfl) (by kernel_rfl) (by kernel_rfl) (by kernel_rfl) (by kernel_rfl) ?_
 simp only [phaseAll,Act.put,List.setIfInBounds_toArray,List.set_cons_zero,List.set_cons_succ]
 refine ⟨?_,?_,?_,?_,?_,?_,?_,?_,?_,?_,?_,?_,?_,?_,?_,?_,?_,?_⟩
 · intro w' hR _
   apply ol
   obtain ⟨y0,y1,y2,y3,y4,y5,y6,y7,y8⟩:=(v1.grown ((Below.refl _ _).drew)).only hR hbv
   go_simp
   exact gl
 · intros;apply ol;go_simp;exact gl
 · intros;apply ol;go_simp;exact gl
 · intros;apply ol;go_simp;exact gl
 · intro w' hR _
   apply ol
   have z:=(i1.drew.only hR hb).cell 1 rfl
   go_simp
   exact gl
 · intro w' hR _
   apply ol
   go_simp
   refine (lopen_any (κ : Int) _ (by omega) (by omega)).mono ?_
   rintro e w'' ⟨rfl,rfl⟩
   exact ⟨_,rfl,Grown.refl _,congrArg (Value.int .i64) (by omega)⟩
 · intros;apply ol;go_simp;exact gl
 · intros;apply ol;go_simp;exact gl
 · intros;apply ol;go_simp;exact gl
 · intro w' hR _
   apply ol
   have z:=(i1.drew.only hR hb).cell 2 rfl
   go_simp
   exact gl
 · intros;apply ol;go_simp;exact gl
 · intros;apply ol;go_simp;exact gl
 · intros;apply ol;go_simp;exact gl
 · intro w' hR _
   apply ol
   have z:=(i1.drew.only hR hb).cell 3 rfl
   go_simp
   exact gl
 · intro w' hR _
   apply ol
   go_simp
   exact ⟨Grown.refl _,by simp only [Want.pred];rw [IntKind.wrap_i64];exact congrArg (Value.int .i64) (by omega)⟩
 · intro w' hR _
   apply ol
   go_simp
   exact ⟨Grown.refl _,congrArg (Value.int .u64) (wrap_small _ (by omega) (by omega))⟩
 · intro w' hR _ hP
   apply ol
   go_simp
   refine (ecas_in (s:=s) hP _ _ _ _ _ _ _ _ (2 + κ) hn _ _).mono ?_
   rintro e w'' ⟨rfl,m2,o2⟩
   rw [show (s.by who).cas (2 + κ) sn ((ch : Int) + 1) = (s.by who).step (2 + κ) (s.wd (2 + κ)) from if_neg HW.out] at m2
   exact ⟨_,rfl,⟨o2,m2⟩,congrArg Value.bool (decide_eq_false HW.out)⟩
 intro w2 hR m2 _
 have m2' : MemAt w2 L ((s.by who).step (2 + κ) (s.wd (2 + κ))):=m2
 have i2:=i1.drew.only hR hb
 have o2 : Only (L.and b) w w2:=o1.drew.trans hR.andL
 clear m1 i1 v1 o1 hR m2 HW
 have k0:=i2.cell0 rfl
 have kf:=i2.fz
 go_wp2
 go_end0
 exact ⟨rfl,m2',o2,_,i2,Same.refl.set (by omega) _⟩
end Go.Proofs.YtlolfmoolgenpaaGreat

namespace Go.Proofs.YtlolfmoolgenpaaGreat
open Go.RowKit
set_option maxRecDepth 20000
theorem pstep_see {w : World} {L : Loc} {s : Mm} {b o : Nat} {T : TypeId} {cs : Array Value} {sn ch ws sa sb nx' sn' ch' ws' sa' sb' : Int} {s' : Mm} {κ : Nat} (h : MemAt w L s) (hi : At w b o T cs (PlV 0 κ sn ch ws sa sb)) (c0 c1 c2 c3 c4 c5 c6 who : Int) (hmay : may c0 c1 c2 c3 c4 c5 c6 = true) (hκ : κ < 4) (d : Bool) (hd : decide (7 <= nx') = d)
 (hc : ∀ w1 : World,MemAt w1 L s -> At w1 b o T cs (PlV 0 κ sn ch ws sa sb) -> Calls Tryz.prog 97 #[.pointer (some ⟨b,o,none⟩),.agg #[.int .i64 c0,.int .i64 c1,.int .i64 c2,.int .i64 c3,.int .i64 c4,.int .i64 c5,.int .i64 c6,.pointer (some ⟨L.p,0,none⟩),.int .i64 who]] w1 fun e w'=>e = .returned (.tuple #[]) /\ MemAt w' L s' /\ Only (L.and b) w1 w' /\ ∃ cs',At w' b o T cs' (PlV nx' κ sn' ch' ws' sa' sb') /\ Same o 7 cs cs') :
 Calls Tryz.prog 84 #[.pointer (some ⟨b,o,none⟩),.agg #[.int .i64 c0,.int .i64 c1,.int .i64 c2,.int .i64 c3,.int .i64 c4,.int .i64 c5,.int .i64 c6,.pointer (some ⟨L.p,0,none⟩),.int .i64 who]] w fun e w'=>e = .returned (.bool d) /\ MemAt w' L s' /\ Only (L.and b) w w' /\ ∃ cs',At w' b o T cs' (PlV nx' κ sn' ch' ws' sa' sb') /\ Same o 7 cs cs':=by
 have hq : ((room κ : Int) == 0) = false:=by have:=room_bd κ;simp;omega
 have cy:=fun w=>lcheck_any c0 c1 c2 c3 c4 c5 c6 w
 rw [hmay] at cy
 have i1:=hi.grown (grow_alloc (Below.refl _ _) (.cells #[.int .i64 c0,.int .i64 c1,.int .i64 c2,.int .i64 c3,.int .i64 c4,.int .i64 c5,.int .i64 c6,.pointer (some ⟨L.p,0,none⟩),.int .i64 who] 27))
 have m1:=h.alloc (.cells #[.int .i64 c0,.int .i64 c1,.int .i64 c2,.int .i64 c3,.int .i64 c4,.int .i64 c5,.int .i64 c6,.pointer (some ⟨L.p,0,none⟩),.int .i64 who] 27)
 have v1 : BoxV (w.alloc (.cells #[.int .i64 c0,.int .i64 c1,.int .i64 c2,.int .i64 c3,.int .i64 c4,.int .i64 c5,.int .i64 c6,.pointer (some ⟨L.p,0,none⟩),.int .i64 who] 27)) w.heap.size c0 c1 c2 c3 c4 c5 c6 L.p who:=BoxV.new
 have o1 : Only (L.and b) w (w.alloc (.cells #[.int .i64 c0,.int .i64 c1,.int .i64 c2,.int .i64 c3,.int .i64 c4,.int .i64 c5,.int .i64 c6,.pointer (some ⟨L.p,0,none⟩),.int .i64 who] 27)):=(Only.refl _ _).alloc _
 have k0:=i1.cell0 rfl
 have k1:=i1.cell 1 rfl
 go_enter Tryz.func84,Tryz.ntmps84
 go_wp2_with (first
  | (go_at_call 88;refine (lroom_w κ hκ _).mono ?_;rintro e w2 ⟨rfl,rfl⟩)
  | (go_at_call 26;refine (cy _).mono ?_;rintro e w3 ⟨rfl,b3⟩;have i3:=i1.grown b3;have m3:=m1.below b3;have v3:=v1.grown b3;obtain ⟨z0,z1,z2,z3,z4,z5,z6,z7,z8⟩:=id v3;have q0:=i3.cell0 rfl)
  | (go_at_call 97;refine (hc _ m3 i3).mono ?_;rintro e w4 ⟨rfl,m4,o4,cs4,i4,s4⟩;have r0:=i4.cell0 rfl))
 go_ret
 exact ⟨rfl,m4,(o1.trans (Only.ofGrown b3)).trans o4,cs4,i4,s4⟩
theorem pstep_ask {w : World} {L : Loc} {s : Mm} {b o : Nat} {T : TypeId} {cs : Array Value} {sn ch ws sa sb nx' sn' ch' ws' sa' sb' : Int} {s' : Mm} {κ : Nat} (h : MemAt w L s) (hi : At w b o T cs (PlV 1 κ sn ch ws sa sb)) (c0 c1 c2 c3 c4 c5 c6 who : Int) (hmay : may c0 c1 c2 c3 c4 c5 c6 = true) (hκ : κ < 4) (d : Bool) (hd : decide (7 <= nx') = d)
 (hc : ∀ w1 : World,MemAt w1 L s -> At w1 b o T cs (PlV 1 κ sn ch ws sa sb) -> Calls Tryz.prog 98 #[.pointer (some ⟨b,o,none⟩),.agg #[.int .i64 c0,.int .i64 c1,.int .i64 c2,.int .i64 c3,.int .i64 c4,.int .i64 c5,.int .i64 c6,.pointer (some ⟨L.p,0,none⟩),.int .i64 who]] w1 fun e w'=>e = .returned (.tuple #[]) /\ MemAt w' L s' /\ Only (L.and b) w1 w' /\ ∃ cs',At w' b o T cs' (PlV nx' κ sn' ch' ws' sa' sb') /\ Same o 7 cs cs') :
 Calls Tryz.prog 84 #[.pointer (some ⟨b,o,none⟩),.agg #[.int .i64 c0,.int .i64 c1,.int .i64 c2,.int .i64 c3,.int .i64 c4,.int .i64 c5,.int .i64 c6,.pointer (some ⟨L.p,0,none⟩),.int .i64 who]] w fun e w'=>e = .returned (.bool d) /\ MemAt w' L s' /\ Only (L.and b) w w' /\ ∃ cs',At w' b o T cs' (PlV nx' κ sn' ch' ws' sa' sb') /\ Same o 7 cs cs':=by
 have hq : ((room κ : Int) == 0) = false:=by have:=room_bd κ;simp;omega
 have cy:=fun w=>lcheck_any c0 c1 c2 c3 c4 c5 c6 w
 rw [hmay] at cy
 have i1:=hi.grown (grow_alloc (Below.refl _ _) (.cells #[.int .i64 c0,.int .i64 c1,.int .i64 c2,.int .i64 c3,.int .i64 c4,.int .i64 c5,.int .i64 c6,.pointer (some ⟨L.p,0,none⟩),.int .i64 who] 27))
 have m1:=h.alloc (.cells #[.int .i64 c0,.int .i64 c1,.int .i64 c2,.int .i64 c3,.int .i64 c4,.int .i64 c5,.int .i64 c6,.pointer (some ⟨L.p,0,none⟩),.int .i64 who] 27)
 have v1 : BoxV (w.alloc (.cells #[.int .i64 c0,.int .i64 c1,.int .i64 c2,.int .i64 c3,.int .i64 c4,.int .i64 c5,.int .i64 c6,.pointer (some ⟨L.p,0,none⟩),.int .i64 who] 27)) w.heap.size c0 c1 c2 c3 c4 c5 c6 L.p who:=BoxV.new
 have o1 : Only (L.and b) w (w.alloc (.cells #[.int .i64 c0,.int .i64 c1,.int .i64 c2,.int .i64 c3,.int .i64 c4,.int .i64 c5,.int .i64 c6,.pointer (some ⟨L.p,0,none⟩),.int .i64 who] 27)):=(Only.refl _ _).alloc _
 have k0:=i1.cell0 rfl
 have k1:=i1.cell 1 rfl
 go_enter Tryz.func84,Tryz.ntmps84
 go_wp2_with (first
  | (go_at_call 88;refine (lroom_w κ hκ _).mono ?_;rintro e w2 ⟨rfl,rfl⟩)
  | (go_at_call 26;refine (cy _).mono ?_;rintro e w3 ⟨rfl,b3⟩;have i3:=i1.grown b3;have m3:=m1.below b3;have v3:=v1.grown b3;obtain ⟨z0,z1,z2,z3,z4,z5,z6,z7,z8⟩:=id v3;have q0:=i3.cell0 rfl)
  | (go_at_call 98;refine (hc _ m3 i3).mono ?_;rintro e w4 ⟨rfl,m4,o4,cs4,i4,s4⟩;have r0:=i4.cell0 rfl))
 go_ret
 exact ⟨rfl,m4,(o1.trans (Only.ofGrown b3)).trans o4,cs4,i4,s4⟩
theorem pstep_grow {w : World} {L : Loc} {s : Mm} {b o : Nat} {T : TypeId} {cs : Array Value} {sn ch ws sa sb nx' sn' ch' ws' sa' sb' : Int} {s' : Mm} {κ : Nat} (h : MemAt w L s) (hi : At w b o T cs (PlV 2 κ sn ch ws sa sb)) (c0 c1 c2 c3 c4 c5 c6 who : Int) (hmay : may c0 c1 c2 c3 c4 c5 c6 = true) (hκ : κ < 4) (d : Bool) (hd : decide (7 <= nx') = d)
 (hc : ∀ w1 : World,MemAt w1 L s -> At w1 b o T cs (PlV 2 κ sn ch ws sa sb) -> Calls Tryz.prog 99 #[.pointer (some ⟨b,o,none⟩),.agg #[.int .i64 c0,.int .i64 c1,.int .i64 c2,.int .i64 c3,.int .i64 c4,.int .i64 c5,.int .i64 c6,.pointer (some ⟨L.p,0,none⟩),.int .i64 who]] w1 fun e w'=>e = .returned (.tuple #[]) /\ MemAt w' L s' /\ Only (L.and b) w1 w' /\ ∃ cs',At w' b o T cs' (PlV nx' κ sn' ch' ws' sa' sb') /\ Same o 7 cs cs') :
 Calls Tryz.prog 84 #[.pointer (some ⟨b,o,none⟩),.agg #[.int .i64 c0,.int .i64 c1,.int .i64 c2,.int .i64 c3,.int .i64 c4,.int .i64 c5,.int .i64 c6,.pointer (some ⟨L.p,0,none⟩),.int .i64 who]] w fun e w'=>e = .returned (.bool d) /\ MemAt w' L s' /\ Only (L.and b) w w' /\ ∃ cs',At w' b o T cs' (PlV nx' κ sn' ch' ws' sa' sb') /\ Same o 7 cs cs':=by
 have hq : ((room κ : Int) == 0) = false:=by have:=room_bd κ;simp;omega
 have cy:=fun w=>lcheck_any c0 c1 c2 c3 c4 c5 c6 w
 rw [hmay] at cy
 have i1:=hi.grown (grow_alloc (Below.refl _ _) (.cells #[.int .i64 c0,.int .i64 c1,.int .i64 c2,.int .i64 c3,.int .i64 c4,.int .i64 c5,.int .i64 c6,.pointer (some ⟨L.p,0,none⟩),.int .i64 who] 27))
 have m1:=h.alloc (.cells #[.int .i64 c0,.int .i64 c1,.int .i64 c2,.int .i64 c3,.int .i64 c4,.int .i64 c5,.int .i64 c6,.pointer (some ⟨L.p,0,none⟩),.int .i64 who] 27)
 have v1 : BoxV (w.alloc (.cells #[.int .i64 c0,.int .i64 c1,.int .i64 c2,.int .i64 c3,.int .i64 c4,.int .i64 c5,.int .i64 c6,.pointer (some ⟨L.p,0,none⟩),.int .i64 who] 27)) w.heap.size c0 c1 c2 c3 c4 c5 c6 L.p who:=BoxV.new
 have o1 : Only (L.and b) w (w.alloc (.cells #[.int .i64 c0,.int .i64 c1,.int .i64 c2,.int .i64 c3,.int .i64 c4,.int .i64 c5,.int .i64 c6,.pointer (some ⟨L.p,0,none⟩),.int .i64 who] 27)):=(Only.refl _ _).alloc _
 have k0:=i1.cell0 rfl
 have k1:=i1.cell 1 rfl
 go_enter Tryz.func84,Tryz.ntmps84
 go_wp2_with (first
  | (go_at_call 88;refine (lroom_w κ hκ _).mono ?_;rintro e w2 ⟨rfl,rfl⟩)
  | (go_at_call 26;refine (cy _).mono ?_;rintro e w3 ⟨rfl,b3⟩;have i3:=i1.grown b3;have m3:=m1.below b3;have v3:=v1.grown b3;obtain ⟨z0,z1,z2,z3,z4,z5,z6,z7,z8⟩:=id v3;have q0:=i3.cell0 rfl)
  | (go_at_call 99;refine (hc _ m3 i3).mono ?_;rintro e w4 ⟨rfl,m4,o4,cs4,i4,s4⟩;have r0:=i4.cell0 rfl))
 go_ret
 exact ⟨rfl,m4,(o1.trans (Only.ofGrown b3)).trans o4,cs4,i4,s4⟩
theorem pstep_look {w : World} {L : Loc} {s : Mm} {b o : Nat} {T : TypeId} {cs : Array Value} {sn ch ws sa sb nx' sn' ch' ws' sa' sb' : Int} {s' : Mm} {κ : Nat} (h : MemAt w L s) (hi : At w b o T cs (PlV 3 κ sn ch ws sa sb)) (c0 c1 c2 c3 c4 c5 c6 who : Int) (hmay : may c0 c1 c2 c3 c4 c5 c6 = true) (hκ : κ < 4) (d : Bool) (hd : decide (7 <= nx') = d)
 (hc : ∀ w1 : World,MemAt w1 L s -> At w1 b o T cs (PlV 3 κ sn ch ws sa sb) -> Calls Tryz.prog 100 #[.pointer (some ⟨b,o,none⟩),.agg #[.int .i64 c0,.int .i64 c1,.int .i64 c2,.int .i64 c3,.int .i64 c4,.int .i64 c5,.int .i64 c6,.pointer (some ⟨L.p,0,none⟩),.int .i64 who]] w1 fun e w'=>e = .returned (.tuple #[]) /\ MemAt w' L s' /\ Only (L.and b) w1 w' /\ ∃ cs',At w' b o T cs' (PlV nx' κ sn' ch' ws' sa' sb') /\ Same o 7 cs cs') :
 Calls Tryz.prog 84 #[.pointer (some ⟨b,o,none⟩),.agg #[.int .i64 c0,.int .i64 c1,.int .i64 c2,.int .i64 c3,.int .i64 c4,.int .i64 c5,.int .i64 c6,.pointer (some ⟨L.p,0,none⟩),.int .i64 who]] w fun e w'=>e = .returned (.bool d) /\ MemAt w' L s' /\ Only (L.and b) w w' /\ ∃ cs',At w' b o T cs' (PlV nx' κ sn' ch' ws' sa' sb') /\ Same o 7 cs cs':=by
 have hq : ((room κ : Int) == 0) = false:=by have:=room_bd κ;simp;omega
 have cy:=fun w=>lcheck_any c0 c1 c2 c3 c4 c5 c6 w
 rw [hmay] at cy
 have i1:=hi.grown (grow_alloc (Below.refl _ _) (.cells #[.int .i64 c0,.int .i64 c1,.int .i64 c2,.int .i64 c3,.int .i64 c4,.int .i64 c5,.int .i64 c6,.pointer (some ⟨L.p,0,none⟩),.int .i64 who] 27))
 have m1:=h.alloc (.cells #[.int .i64 c0,.int .i64 c1,.int .i64 c2,.int .i64 c3,.int .i64 c4,.int .i64 c5,.int .i64 c6,.pointer (some ⟨L.p,0,none⟩),.int .i64 who] 27)
 have v1 : BoxV (w.alloc (.cells #[.int .i64 c0,.int .i64 c1,.int .i64 c2,.int .i64 c3,.int .i64 c4,.int .i64 c5,.int .i64 c6,.pointer (some ⟨L.p,0,none⟩),.int .i64 who] 27)) w.heap.size c0 c1 c2 c3 c4 c5 c6 L.p who:=BoxV.new
 have o1 : Only (L.and b) w (w.alloc (.cells #[.int .i64 c0,.int .i64 c1,.int .i64 c2,.int .i64 c3,.int .i64 c4,.int .i64 c5,.int .i64 c6,.pointer (some ⟨L.p,0,none⟩),.int .i64 who] 27)):=(Only.refl _ _).alloc _
 have k0:=i1.cell0 rfl
 have k1:=i1.cell 1 rfl
 go_enter Tryz.func84,Tryz.ntmps84
 go_wp2_with (first
  | (go_at_call 88;refine (lroom_w κ hκ _).mono ?_;rintro e w2 ⟨rfl,rfl⟩)
  | (go_at_call 26;refine (cy _).mono ?_;rintro e w3 ⟨rfl,b3⟩;have i3:=i1.grown b3;have m3:=m1.below b3;have v3:=v1.grown b3;obtain ⟨z0,z1,z2,z3,z4,z5,z6,z7,z8⟩:=id v3;have q0:=i3.cell0 rfl)
  | (go_at_call 100;refine (hc _ m3 i3).mono ?_;rintro e w4 ⟨rfl,m4,o4,cs4,i4,s4⟩;have r0:=i4.cell0 rfl))
 go_ret
 exact ⟨rfl,m4,(o1.trans (Only.ofGrown b3)).trans o4,cs4,i4,s4⟩
theorem pstep_take {w : World} {L : Loc} {s : Mm} {b o : Nat} {T : TypeId} {cs : Array Value} {sn ch ws sa sb nx' sn' ch' ws' sa' sb' : Int} {s' : Mm} {κ : Nat} (h : MemAt w L s) (hi : At w b o T cs (PlV 4 κ sn ch ws sa sb)) (c0 c1 c2 c3 c4 c5 c6 who : Int) (hmay : may c0 c1 c2 c3 c4 c5 c6 = true) (hκ : κ < 4) (d : Bool) (hd : decide (7 <= nx') = d)
 (hc : ∀ w1 : World,MemAt w1 L s -> At w1 b o T cs (PlV 4 κ sn ch ws sa sb) -> Calls Tryz.prog 101 #[.pointer (some ⟨b,o,none⟩),.agg #[.int .i64 c0,.int .i64 c1,.int .i64 c2,.int .i64 c3,.int .i64 c4,.int .i64 c5,.int .i64 c6,.pointer (some ⟨L.p,0,none⟩),.int .i64 who]] w1 fun e w'=>e = .returned (.tuple #[]) /\ MemAt w' L s' /\ Only (L.and b) w1 w' /\ ∃ cs',At w' b o T cs' (PlV nx' κ sn' ch' ws' sa' sb') /\ Same o 7 cs cs') :
 Calls Tryz.prog 84 #[.pointer (some ⟨b,o,none⟩),.agg #[.int .i64 c0,.int .i64 c1,.int .i64 c2,.int .i64 c3,.int .i64 c4,.int .i64 c5,.int .i64 c6,.pointer (some ⟨L.p,0,none⟩),.int .i64 who]] w fun e w'=>e = .returned (.bool d) /\ MemAt w' L s' /\ Only (L.and b) w w' /\ ∃ cs',At w' b o T cs' (PlV nx' κ sn' ch' ws' sa' sb') /\ Same o 7 cs cs':=by
 have hq : ((room κ : Int) == 0) = false:=by have:=room_bd κ;simp;omega
 have cy:=fun w=>lcheck_any c0 c1 c2 c3 c4 c5 c6 w
 rw [hmay] at cy
 have i1:=hi.grown (grow_alloc (Below.refl _ _) (.cells #[.int .i64 c0,.int .i64 c1,.int .i64 c2,.int .i64 c3,.int .i64 c4,.int .i64 c5,.int .i64 c6,.pointer (some ⟨L.p,0,none⟩),.int .i64 who] 27))
 have m1:=h.alloc (.cells #[.int .i64 c0,.int .i64 c1,.int .i64 c2,.int .i64 c3,.int .i64 c4,.int .i64 c5,.int .i64 c6,.pointer (some ⟨L.p,0,none⟩),.int .i64 who] 27)
 have v1 : BoxV (w.alloc (.cells #[.int .i64 c0,.int .i64 c1,.int .i64 c2,.int .i64 c3,.int .i64 c4,.int .i64 c5,.int .i64 c6,.pointer (some ⟨L.p,0,none⟩),.int .i64 who] 27)) w.heap.size c0 c1 c2 c3 c4 c5 c6 L.p who:=BoxV.new
 have o1 : Only (L.and b) w (w.alloc (.cells #[.int .i64 c0,.int .i64 c1,.int .i64 c2,.int .i64 c3,.int .i64 c4,.int .i64 c5,.int .i64 c6,.pointer (some ⟨L.p,0,none⟩),.int .i64 who] 27)):=(Only.refl _ _).alloc _
 have k0:=i1.cell0 rfl
 have k1:=i1.cell 1 rfl
 go_enter Tryz.func84,Tryz.ntmps84
 go_wp2_with (first
  | (go_at_call 88;refine (lroom_w κ hκ _).mono ?_;rintro e w2 ⟨rfl,rfl⟩)
  | (go_at_call 26;refine (cy _).mono ?_;rintro e w3 ⟨rfl,b3⟩;have i3:=i1.grown b3;have m3:=m1.below b3;have v3:=v1.grown b3;obtain ⟨z0,z1,z2,z3,z4,z5,z6,z7,z8⟩:=id v3;have q0:=i3.cell0 rfl)
  | (go_at_call 101;refine (hc _ m3 i3).mono ?_;rintro e w4 ⟨rfl,m4,o4,cs4,i4,s4⟩;have r0:=i4.cell0 rfl))
 go_ret
 exact ⟨rfl,m4,(o1.trans (Only.ofGrown b3)).trans o4,cs4,i4,s4⟩
theorem pstep_open {w : World} {L : Loc} {s : Mm} {b o : Nat} {T : TypeId} {cs : Array Value} {sn ch ws sa sb nx' sn' ch' ws' sa' sb' : Int} {s' : Mm} {κ : Nat} (h : MemAt w L s) (hi : At w b o T cs (PlV 5 κ sn ch ws sa sb)) (c0 c1 c2 c3 c4 c5 c6 who : Int) (hmay : may c0 c1 c2 c3 c4 c5 c6 = true) (hκ : κ < 4) (d : Bool) (hd : decide (7 <= nx') = d)
 (hc : ∀ w1 : World,MemAt w1 L s -> At w1 b o T cs (PlV 5 κ sn ch ws sa sb) -> Calls Tryz.prog 102 #[.pointer (some ⟨b,o,none⟩),.agg #[.int .i64 c0,.int .i64 c1,.int .i64 c2,.int .i64 c3,.int .i64 c4,.int .i64 c5,.int .i64 c6,.pointer (some ⟨L.p,0,none⟩),.int .i64 who]] w1 fun e w'=>e = .returned (.tuple #[]) /\ MemAt w' L s' /\ Only (L.and b) w1 w' /\ ∃ cs',At w' b o T cs' (PlV nx' κ sn' ch' ws' sa' sb') /\ Same o 7 cs cs') :
 Calls Tryz.prog 84 #[.pointer (some ⟨b,o,none⟩),.agg #[.int .i64 c0,.int .i64 c1,.int .i64 c2,.int .i64 c3,.int .i64 c4,.int .i64 c5,.int .i64 c6,.pointer (some ⟨L.p,0,none⟩),.int .i64 who]] w fun e w'=>e = .returned (.bool d) /\ MemAt w' L s' /\ Only (L.and b) w w' /\ ∃ cs',At w' b o T cs' (PlV nx' κ sn' ch' ws' sa' sb') /\ Same o 7 cs cs':=by
 have hq : ((room κ : Int) == 0) = false:=by have:=room_bd κ;simp;omega
 have cy:=fun w=>lcheck_any c0 c1 c2 c3 c4 c5 c6 w
 rw [hmay] at cy
 have i1:=hi.grown (grow_alloc (Below.refl _ _) (.cells #[.int .i64 c0,.int .i64 c1,.int .i64 c2,.int .i64 c3,.int .i64 c4,.int .i64 c5,.int .i64 c6,.pointer (some ⟨L.p,0,none⟩),.int .i64 who] 27))
 have m1:=h.alloc (.cells #[.int .i64 c0,.int .i64 c1,.int .i64 c2,.int .i64 c3,.int .i64 c4,.int .i64 c5,.int .i64 c6,.pointer (some ⟨L.p,0,none⟩),.int .i64 who] 27)
 have v1 : BoxV (w.alloc (.cells #[.int .i64 c0,.int .i64 c1,.int .i64 c2,.int .i64 c3,.int .i64 c4,.int .i64 c5,.int .i64 c6,.pointer (some ⟨L.p,0,none⟩),.int .i64 who] 27)) w.heap.size c0 c1 c2 c3 c4 c5 c6 L.p who:=BoxV.new
 have o1 : Only (L.and b) w (w.alloc (.cells #[.int .i64 c0,.int .i64 c1,.int .i64 c2,.int .i64 c3,.int .i64 c4,.int .i64 c5,.int .i64 c6,.pointer (some ⟨L.p,0,none⟩),.int .i64 who] 27)):=(Only.refl _ _).alloc _
 have k0:=i1.cell0 rfl
 have k1:=i1.cell 1 rfl
 go_enter Tryz.func84,Tryz.ntmps84
 go_wp2_with (first
  | (go_at_call 88;refine (lroom_w κ hκ _).mono ?_;rintro e w2 ⟨rfl,rfl⟩)
  | (go_at_call 26;refine (cy _).mono ?_;rintro e w3 ⟨rfl,b3⟩;have i3:=i1.grown b3;have m3:=m1.below b3;have v3:=v1.grown b3;obtain ⟨z0,z1,z2,z3,z4,z5,z6,z7,z8⟩:=id v3;have q0:=i3.cell0 rfl)
  | (go_at_call 102;refine (hc _ m3 i3).mono ?_;rintro e w4 ⟨rfl,m4,o4,cs4,i4,s4⟩;have r0:=i4.cell0 rfl))
 go_ret
 exact ⟨rfl,m4,(o1.trans (Only.ofGrown b3)).trans o4,cs4,i4,s4⟩
theorem pstep_free {w : World} {L : Loc} {s : Mm} {b o : Nat} {T : TypeId} {cs : Array Value} {sn ch ws sa sb nx' sn' ch' ws' sa' sb' : Int} {s' : Mm} {κ : Nat} (h : MemAt w L s) (hi : At w b o T cs (PlV 6 κ sn ch ws sa sb)) (c0 c1 c2 c3 c4 c5 c6 who : Int) (hmay : may c0 c1 c2 c3 c4 c5 c6 = true) (hκ : κ < 4) (d : Bool) (hd : decide (7 <= nx') = d)
 (hc : ∀ w1 : World,MemAt w1 L s -> At w1 b o T cs (PlV 6 κ sn ch ws sa sb) -> Calls Tryz.prog 103 #[.pointer (some ⟨b,o,none⟩),.agg #[.int .i64 c0,.int .i64 c1,.int .i64 c2,.int .i64 c3,.int .i64 c4,.int .i64 c5,.int .i64 c6,.pointer (some ⟨L.p,0,none⟩),.int .i64 who]] w1 fun e w'=>e = .returned (.tuple #[]) /\ MemAt w' L s' /\ Only (L.and b) w1 w' /\ ∃ cs',At w' b o T cs' (PlV nx' κ sn' ch' ws' sa' sb') /\ Same o 7 cs cs') :
 Calls Tryz.prog 84 #[.pointer (some ⟨b,o,none⟩),.agg #[.int .i64 c0,.int .i64 c1,.int .i64 c2,.int .i64 c3,.int .i64 c4,.int .i64 c5,.int .i64 c6,.pointer (some ⟨L.p,0,none⟩),.int .i64 who]] w fun e w'=>e = .returned (.bool d) /\ MemAt w' L s' /\ Only (L.and b) w w' /\ ∃ cs',At w' b o T cs' (PlV nx' κ sn' ch' ws' sa' sb') /\ Same o 7 cs cs':=by
 have hq : ((room κ : Int) == 0) = false:=by have:=room_bd κ;simp;omega
 have cy:=fun w=>lcheck_any c0 c1 c2 c3 c4 c5 c6 w
 rw [hmay] at cy
 have i1:=hi.grown (grow_alloc (Below.refl _ _) (.cells #[.int .i64 c0,.int .i64 c1,.int .i64 c2,.int .i64 c3,.int .i64 c4,.int .i64 c5,.int .i64 c6,.pointer (some ⟨L.p,0,none⟩),.int .i64 who] 27))
 have m1:=h.alloc (.cells #[.int .i64 c0,.int .i64 c1,.int .i64 c2,.int .i64 c3,.int .i64 c4,.int .i64 c5,.int .i64 c6,.pointer (some ⟨L.p,0,none⟩),.int .i64 who] 27)
 have v1 : BoxV (w.alloc (.cells #[.int .i64 c0,.int .i64 c1,.int .i64 c2,.int .i64 c3,.int .i64 c4,.int .i64 c5,.int .i64 c6,.pointer (some ⟨L.p,0,none⟩),.int .i64 who] 27)) w.heap.size c0 c1 c2 c3 c4 c5 c6 L.p who:=BoxV.new
 have o1 : Only (L.and b) w (w.alloc (.cells #[.int .i64 c0,.int .i64 c1,.int .i64 c2,.int .i64 c3,.int .i64 c4,.int .i64 c5,.int .i64 c6,.pointer (some ⟨L.p,0,none⟩),.int .i64 who] 27)):=(Only.refl _ _).alloc _
 have k0:=i1.cell0 rfl
 have k1:=i1.cell 1 rfl
 go_enter Tryz.func84,Tryz.ntmps84
 go_wp2_with (first
  | (go_at_call 88;refine (lroom_w κ hκ _).mono ?_;rintro e w2 ⟨rfl,rfl⟩)
  | (go_at_call 26;refine (cy _).mono ?_;rintro e w3 ⟨rfl,b3⟩;have i3:=i1.grown b3;have m3:=m1.below b3;have v3:=v1.grown b3;obtain ⟨z0,z1,z2,z3,z4,z5,z6,z7,z8⟩:=id v3;have q0:=i3.cell0 rfl)
  | (go_at_call 103;refine (hc _ m3 i3).mono ?_;rintro e w4 ⟨rfl,m4,o4,cs4,i4,s4⟩;have r0:=i4.cell0 rfl))
 go_ret
 exact ⟨rfl,m4,(o1.trans (Only.ofGrown b3)).trans o4,cs4,i4,s4⟩
end Go.Proofs.YtlolfmoolgenpaaGreat

namespace Go.Proofs.YtlolfmoolgenpaaGreat
open Go.RowKit
def Pl.cells (κ : Nat) : Pl -> List Value -> Prop
 | .see,l=>∃ sn ch ws sa sb,l = PlV 0 κ sn ch ws sa sb
 | .ask i,l=>∃ ws sa sb,l = PlV 1 κ ((i : Int) + 1) i ws sa sb
 | .grow i c,l=>∃ sn sa sb,l = PlV 2 κ sn i c.w sa sb
 | .look sn i,l=>∃ ws sa sb,l = PlV 3 κ sn i ws sa sb
 | .take sn i c,l=>∃ sa sb,l = PlV 4 κ sn i c.w sa sb
 | .opn sn i c,l=>∃ sa sb,l = PlV 5 κ sn i c.w sa sb
 | .fre sn i c,l=>∃ sa sb,l = PlV 6 κ sn i c.w sa sb
 | .won a i,l=>∃ sn ch ws,l = PlV 7 κ sn ch ws a i
 | .none,l=>∃ sn ch ws sa sb,l = PlV 8 κ sn ch ws sa sb
def PlAt (w : World) (b o : Nat) (T : TypeId) (c : Array Value) (κ : Nat) (τ : Pl) : Prop:=∃ l,At w b o T c l /\ τ.cells κ l
def base (t n k m i : Nat) : Nat:=6 + t + n * 2 + k * 3 + i * m
structure Placed (w : World) (L : Loc) (s : Mm) (b o : Nat) (T : TypeId) (cs : Array Value) (t n k m σ κ : Nat) (who : Int) (y : Y) (τ : Pl) (w' : World) (s' : Mm) (cs' : Array Value) (y' : Y) (τ' : Pl) : Prop where
 mm : MemAt w' L s'
 yd : Yard t n k m s' (σ + 1) y'
 a : PlAt w' b o T cs' κ τ'
 good : τ'.good k m κ (σ + 1)
 same : Same o 7 cs cs'
 only : Only (L.and b) w w'
 kept : Kept t n k s s'
 la : s'.la = ((τ.at t n κ : Nat) : Int)
 st : ∃ v,s' = (s.by who).step (τ.at t n κ) v
theorem adv_cells {w : World} {b o : Nat} {T : TypeId} {c : Array Value} {κ k sn : Nat} (i : Nat) (I : Int) (hI : I = i) {ws sa sb : Int} (h : At w b o T c (PlV (if (k : Int) <= I then 8 else 3) κ sn I ws sa sb)) : PlAt w b o T c κ (adv k sn i):=by
 subst hI
 unfold adv
 split
 · rw [if_neg (by omega)] at h
   exact ⟨_,h,_,_,_,rfl⟩
 · rw [if_pos (by omega)] at h
   exact ⟨_,h,_,_,_,_,_,rfl⟩
theorem adv_over (k sn i : Nat) (I : Int) (hI : I = i) : decide ((7 : Int) <= (if (k : Int) <= I then 8 else 3)) = (adv k sn i).over:=by
 subst hI
 unfold adv
 split
 · rw [if_neg (by omega)];rfl
 · rw [if_pos (by omega)];rfl
section
variable {w : World} {L : Loc} {s : Mm} {b o : Nat} {T : TypeId} {cs : Array Value} {t n k m σ κ : Nat} {g p r : Int} {y : Y}
theorem place_step (h : MemAt w L s) (hb : ¬ L.has b) (hy : Yard t n k m s σ y) (hG : Good t n k m g p r) (hσ : σ < 1000000) (hκ : κ < 4) (τ : Pl) (hi : PlAt w b o T cs κ τ) (hg : τ.good k m κ σ) (ho : τ.over = false) (who : Int) :
 Calls Tryz.prog 84 #[.pointer (some ⟨b,o,none⟩),.agg #[.int .i64 t,.int .i64 n,.int .i64 k,.int .i64 m,.int .i64 g,.int .i64 p,.int .i64 r,.pointer (some ⟨L.p,0,none⟩),.int .i64 who]] w fun e w'=>∃ s' cs',e = .returned (.bool (turn k m κ (base t n k m) y τ).2.over) /\ Placed w L s b o T cs t n k m σ κ who y τ w' s' cs' (turn k m κ (base t n k m) y τ).1 (turn k m κ (base t n k m) y τ).2:=by
 have hgd:=turn_good (bs:=base t n k m) hκ hy.ok hy.opk hg
 have hmay:=hG.may
 have har:=hG.arena
 have hk1:=hG.k1
 have hk0:=hG.k0
 have hm1:=hG.n1
 have ht1:=hG.t1
 have hn1:=hG.s1
 have hlen:=hy.len
 have hn : 2 + κ < s.n:=by omega
 have hA : ∀ i,i < k -> 6 + t + n * 2 + i * 3 < s.n:=fun i hi=>by omega
 have hAe : ∀ i : Nat,(6 : Int) + (t : Int) + (n : Int) * 2 + (i : Int) * 3 = ((6 + t + n * 2 + i * 3 : Nat) : Int):=fun i=>by omega
 obtain ⟨l,ha,hl⟩:=hi
 cases τ with
 | won a i=>cases ho
 | none=>cases ho
 | see =>
  obtain ⟨sn,ch,ws,sa,sb,rfl⟩:=hl
  have hop:=hy.opv κ hκ
  have hok:=hy.opk κ hκ
  cases ho : y.op κ with
  | zero =>
   rw [ho] at hop
   have ht : turn k m κ (base t n k m) y .see = (y,adv k 0 0):=by simp [turn,ho]
   rw [ht] at hgd ⊢
   refine (pstep_see h ha _ _ _ _ _ _ _ _ hmay hκ _ (adv_over k 0 0 0 rfl) (fun w1 h1 a1=>psee_none h1 hb a1 _ _ _ _ _ _ _ _ hκ hn _ rfl (by simpa using hop))).mono ?_
   rintro e w' ⟨rfl,m',on,cs',a',sm⟩
   exact ⟨_,cs',rfl,m',hy.same hσ who _,adv_cells 0 0 rfl a',hgd,sm,on,kept_same _ _ _ _ _ _,rfl,_,rfl⟩
  | succ i =>
   rw [ho] at hop hok
   have ht : turn k m κ (base t n k m) y .see = (y,.ask i):=by simp [turn,ho]
   rw [ht] at hgd ⊢
   refine (pstep_see h ha _ _ _ _ _ _ _ _ hmay hκ false (by decide) (fun w1 h1 a1=>psee_some h1 hb a1 _ _ _ _ _ _ _ _ hκ hn i (by omega) (by omega) (by simpa using hop))).mono ?_
   rintro e w' ⟨rfl,m',on,cs',a',sm⟩
   exact ⟨_,cs',rfl,m',hy.same hσ who _,⟨_,a',_,_,_,rfl⟩,hgd,sm,on,kept_same _ _ _ _ _ _,rfl,_,rfl⟩
 | ask i =>
  obtain ⟨ws,sa,sb,rfl⟩:=hl
  have hik : i < k:=hg
  have hw:=hy.ckv i hik
  have hok:=hy.ok i hik
  have hnx:=adv_over k (i + 1) 0 0 rfl
  by_cases h1 : (y.ck i).st = 1
  · by_cases h2 : (y.ck i).cl = κ
    · by_cases h3 : (y.ck i).us + room κ <= m
      · have ht : turn k m κ (base t n k m) y (.ask i) = (y,.grow i (y.ck i)):=by simp [turn,h1,h2,h3]
        rw [ht] at hgd ⊢
        refine (pstep_ask h ha _ _ _ _ _ _ _ _ hmay hκ false (by decide) (fun w1 q1 a1=>pask_yes q1 hb a1 _ _ _ _ _ _ _ _ _ har (by omega) (hAe i) (hA i hik) (y.ck i) σ hok (by omega) hw hκ h1 h2 (by omega))).mono ?_
        rintro e w' ⟨rfl,m',on,cs',a',sm⟩
        exact ⟨_,cs',rfl,m',hy.same hσ who _,⟨_,a',_,_,_,rfl⟩,hgd,sm,on,kept_same _ _ _ _ _ _,rfl,_,rfl⟩
      · have ht : turn k m κ (base t n k m) y (.ask i) = (y,adv k (i + 1) 0):=by simp [turn,h1,h2,h3]
        rw [ht] at hgd ⊢
        refine (pstep_ask h ha _ _ _ _ _ _ _ _ hmay hκ _ hnx (fun w1 q1 a1=>pask_no3 q1 hb a1 _ _ _ _ _ _ _ _ _ har (by omega) (hAe i) (hA i hik) (y.ck i) σ hok (by omega) hw hκ h1 h2 (by omega) _ rfl)).mono ?_
        rintro e w' ⟨rfl,m',on,cs',a',sm⟩
        exact ⟨_,cs',rfl,m',hy.same hσ who _,adv_cells 0 0 rfl a',hgd,sm,on,kept_same _ _ _ _ _ _,rfl,_,rfl⟩
    · have ht : turn k m κ (base t n k m) y (.ask i) = (y,adv k (i + 1) 0):=by simp [turn,h1,h2]
      rw [ht] at hgd ⊢
      refine (pstep_ask h ha _ _ _ _ _ _ _ _ hmay hκ _ hnx (fun w1 q1 a1=>pask_no2 q1 hb a1 _ _ _ _ _ _ _ _ _ har (by omega) (hAe i) (hA i hik) (y.ck i) σ hok (by omega) hw h1 h2 _ rfl)).mono ?_
      rintro e w' ⟨rfl,m',on,cs',a',sm⟩
      exact ⟨_,cs',rfl,m',hy.same hσ who _,adv_cells 0 0 rfl a',hgd,sm,on,kept_same _ _ _ _ _ _,rfl,_,rfl⟩
  · have ht : turn k m κ (base t n k m) y (.ask i) = (y,adv k (i + 1) 0):=by simp [turn,h1]
    rw [ht] at hgd ⊢
    refine (pstep_ask h ha _ _ _ _ _ _ _ _ hmay hκ _ hnx (fun w1 q1 a1=>pask_no1 q1 hb a1 _ _ _ _ _ _ _ _ _ har (by omega) (hAe i) (hA i hik) (y.ck i) σ hok (by omega) hw h1 _ rfl)).mono ?_
    rintro e w' ⟨rfl,m',on,cs',a',sm⟩
    exact ⟨_,cs',rfl,m',hy.same hσ who _,adv_cells 0 0 rfl a',hgd,sm,on,kept_same _ _ _ _ _ _,rfl,_,rfl⟩
 | grow i c =>
  obtain ⟨sn,sa,sb,rfl⟩:=hl
  obtain ⟨hik,hc,hc1,hc2,hc3⟩:=hg
  have hw:=hy.ckv i hik
  have hok:=hy.ok i hik
  have hr:=room_bd κ
  have hmul : (i : Int) * (m : Int) = ((i * m : Nat) : Int):=by simp
  have hmb : i * m <= 64 * 256:=Nat.mul_le_mul (by omega) hm1
  by_cases he : y.ck i = c
  · have ht : turn k m κ (base t n k m) y (.grow i c) = (⟨upd y.ck i ⟨c.st,c.cl,c.us + room κ,c.sp⟩,y.op⟩,.won (base t n k m i + c.us) i):=by simp [turn,he]
    rw [ht] at hgd ⊢
    rw [he] at hw
    refine (pstep_grow h ha _ _ _ _ _ _ _ _ hmay hκ true (by decide) (fun w1 q1 a1=>pgrow_yes q1 hb c a1 _ _ _ _ _ _ _ _ _ har (by omega) (hAe i) (hA i hik) σ hc (by omega) hκ (by omega) ((i * m : Nat) : Int) hmul (by omega) (by omega) hw)).mono ?_
    rintro e w' ⟨rfl,m',on,cs',a',sm⟩
    refine ⟨_,cs',rfl,m',hy.lay hσ who hik _ ⟨hc.st,hc.cl,show c.us + room κ <= 1000 by omega,Nat.le_succ_of_le hc.sp⟩,⟨_,a',sn,i,c.w,?_⟩,hgd,sm,on,kept_lay _ _ _ _ _ hik _,rfl,_,rfl⟩
    exact congrArg (fun x=>PlV 7 κ sn i c.w x i) (by unfold base;omega)
  · have ht : turn k m κ (base t n k m) y (.grow i c) = (y,.see):=by simp [turn,he]
    rw [ht] at hgd ⊢
    have hne : ¬ s.wd (6 + t + n * 2 + i * 3) = c.w:=fun e=>he (Ck.inj hok hc (hw.symm.trans e))
    refine (pstep_grow h ha _ _ _ _ _ _ _ _ hmay hκ false (by decide) (fun w1 q1 a1=>pgrow_no q1 hb c a1 _ _ _ _ _ _ _ _ _ har (by omega) (hAe i) (hA i hik) σ hc (by omega) hκ (by omega) ((i * m : Nat) : Int) hmul (by omega) (by omega) hne)).mono ?_
    rintro e w' ⟨rfl,m',on,cs',a',sm⟩
    exact ⟨_,cs',rfl,m',hy.same hσ who _,⟨_,a',_,_,_,_,_,rfl⟩,hgd,sm,on,kept_same _ _ _ _ _ _,rfl,_,rfl⟩
 | look sn i =>
  obtain ⟨ws,sa,sb,rfl⟩:=hl
  obtain ⟨hik,hsn⟩:=hg
  have hw:=hy.ckv i hik
  have hok:=hy.ok i hik
  by_cases h1 : (y.ck i).st = 0
  · have ht : turn k m κ (base t n k m) y (.look sn i) = (y,.take sn i (y.ck i)):=by simp [turn,h1]
    rw [ht] at hgd ⊢
    refine (pstep_look h ha _ _ _ _ _ _ _ _ hmay hκ false (by decide) (fun w1 q1 a1=>plookup_yes q1 hb a1 _ _ _ _ _ _ _ _ _ har (by omega) (hAe i) (hA i hik) (y.ck i) σ hok (by omega) hw h1)).mono ?_
    rintro e w' ⟨rfl,m',on,cs',a',sm⟩
    exact ⟨_,cs',rfl,m',hy.same hσ who _,⟨_,a',_,_,rfl⟩,hgd,sm,on,kept_same _ _ _ _ _ _,rfl,_,rfl⟩
  · have ht : turn k m κ (base t n k m) y (.look sn i) = (y,adv k sn (i + 1)):=by simp [turn,h1]
    rw [ht] at hgd ⊢
    refine (pstep_look h ha _ _ _ _ _ _ _ _ hmay hκ _ (adv_over k sn (i + 1) ((i : Int) + 1) (by omega)) (fun w1 q1 a1=>plookup_no q1 hb a1 _ _ _ _ _ _ _ _ _ har (by omega) (hAe i) (hA i hik) (y.ck i) σ hok (by omega) hw h1 _ rfl)).mono ?_
    rintro e w' ⟨rfl,m',on,cs',a',sm⟩
    exact ⟨_,cs',rfl,m',hy.same hσ who _,adv_cells (i + 1) _ (by omega) a',hgd,sm,on,kept_same _ _ _ _ _ _,rfl,_,rfl⟩
 | take sn i c =>
  obtain ⟨sa,sb,rfl⟩:=hl
  obtain ⟨hik,hsn,hc,hc0⟩:=hg
  have hw:=hy.ckv i hik
  have hok:=hy.ok i hik
  by_cases he : y.ck i = c
  · have ht : turn k m κ (base t n k m) y (.take sn i c) = (⟨upd y.ck i ⟨1,κ,0,c.sp + 1⟩,y.op⟩,.opn sn i ⟨1,κ,0,c.sp + 1⟩):=by simp [turn,he]
    rw [ht] at hgd ⊢
    rw [he] at hw
    refine (pstep_take h ha _ _ _ _ _ _ _ _ hmay hκ false (by decide) (fun w1 q1 a1=>ptake_yes q1 hb c a1 _ _ _ _ _ _ _ _ _ har (by omega) (hAe i) (hA i hik) σ hc (by omega) hκ hw)).mono ?_
    rintro e w' ⟨rfl,m',on,cs',a',sm⟩
    exact ⟨_,cs',rfl,m',hy.lay hσ who hik _ ⟨show 1 <= 3 by omega,show κ <= 3 by omega,Nat.zero_le _,Nat.succ_le_succ hc.sp⟩,⟨_,a',_,_,rfl⟩,hgd,sm,on,kept_lay _ _ _ _ _ hik _,rfl,_,rfl⟩
  · have ht : turn k m κ (base t n k m) y (.take sn i c) = (y,adv k sn (i + 1)):=by simp [turn,he]
    rw [ht] at hgd ⊢
    have hne : ¬ s.wd (6 + t + n * 2 + i * 3) = c.w:=fun e=>he (Ck.inj hok hc (hw.symm.trans e))
    refine (pstep_take h ha _ _ _ _ _ _ _ _ hmay hκ _ (adv_over k sn (i + 1) ((i : Int) + 1) (by omega)) (fun w1 q1 a1=>ptake_no q1 hb c a1 _ _ _ _ _ _ _ _ _ har (by omega) (hAe i) (hA i hik) σ hc (by omega) hκ hne _ rfl)).mono ?_
    rintro e w' ⟨rfl,m',on,cs',a',sm⟩
    exact ⟨_,cs',rfl,m',hy.same hσ who _,adv_cells (i + 1) _ (by omega) a',hgd,sm,on,kept_same _ _ _ _ _ _,rfl,_,rfl⟩
 | opn sn i c =>
  obtain ⟨sa,sb,rfl⟩:=hl
  obtain ⟨hik,hsn,hc,hc0⟩:=hg
  have hop:=hy.opv κ hκ
  by_cases he : y.op κ = sn
  · have ht : turn k m κ (base t n k m) y (.opn sn i c) = (⟨y.ck,upd y.op κ (i + 1)⟩,.see):=by simp [turn,he]
    rw [ht] at hgd ⊢
    rw [he] at hop
    refine (pstep_open h ha _ _ _ _ _ _ _ _ hmay hκ false (by decide) (fun w1 q1 a1=>popen_yes q1 hb a1 _ _ _ _ _ _ _ _ hκ hn (by omega) hop)).mono ?_
    rintro e w' ⟨rfl,m',on,cs',a',sm⟩
    exact ⟨_,cs',rfl,m',hy.opens hσ who hκ (i + 1) (by omega),⟨_,a',_,_,_,_,_,rfl⟩,hgd,sm,on,kept_opens _ _ _ _ _ hκ _,rfl,_,rfl⟩
  · have ht : turn k m κ (base t n k m) y (.opn sn i c) = (y,.fre sn i c):=by simp [turn,he]
    rw [ht] at hgd ⊢
    have hne : ¬ s.wd (2 + κ) = sn:=fun e=>he (by rw [hop] at e;omega)
    refine (pstep_open h ha _ _ _ _ _ _ _ _ hmay hκ false (by decide) (fun w1 q1 a1=>popen_no q1 hb a1 _ _ _ _ _ _ _ _ hκ hn (by omega) hne)).mono ?_
    rintro e w' ⟨rfl,m',on,cs',a',sm⟩
    exact ⟨_,cs',rfl,m',hy.same hσ who _,⟨_,a',_,_,rfl⟩,hgd,sm,on,kept_same _ _ _ _ _ _,rfl,_,rfl⟩
 | fre sn i c =>
  obtain ⟨sa,sb,rfl⟩:=hl
  obtain ⟨hik,hsn,hc,hc0⟩:=hg
  have hw:=hy.ckv i hik
  have hok:=hy.ok i hik
  by_cases he : y.ck i = c
  · have ht : turn k m κ (base t n k m) y (.fre sn i c) = (⟨upd y.ck i ⟨0,0,0,c.sp + 1⟩,y.op⟩,.see):=by simp [turn,he]
    rw [ht] at hgd ⊢
    rw [he] at hw
    refine (pstep_free h ha _ _ _ _ _ _ _ _ hmay hκ false (by decide) (fun w1 q1 a1=>pfree_yes q1 hb c a1 _ _ _ _ _ _ _ _ _ har (by omega) (hAe i) (hA i hik) σ hc (by omega) hw)).mono ?_
    rintro e w' ⟨rfl,m',on,cs',a',sm⟩
    exact ⟨_,cs',rfl,m',hy.lay hσ who hik _ ⟨Nat.zero_le _,Nat.zero_le _,Nat.zero_le _,Nat.succ_le_succ hc.sp⟩,⟨_,a',_,_,_,_,_,rfl⟩,hgd,sm,on,kept_lay _ _ _ _ _ hik _,rfl,_,rfl⟩
  · have ht : turn k m κ (base t n k m) y (.fre sn i c) = (y,.see):=by simp [turn,he]
    rw [ht] at hgd ⊢
    have hne : ¬ s.wd (6 + t + n * 2 + i * 3) = c.w:=fun e=>he (Ck.inj hok hc (hw.symm.trans e))
    refine (pstep_free h ha _ _ _ _ _ _ _ _ hmay hκ false (by decide) (fun w1 q1 a1=>pfree_no q1 hb c a1 _ _ _ _ _ _ _ _ _ har (by omega) (hAe i) (hA i hik) σ hc (by omega) hne)).mono ?_
    rintro e w' ⟨rfl,m',on,cs',a',sm⟩
    exact ⟨_,cs',rfl,m',hy.same hσ who _,⟨_,a',_,_,_,_,_,rfl⟩,hgd,sm,on,kept_same _ _ _ _ _ _,rfl,_,rfl⟩
theorem place_turn (h : MemAt w L s) (hb : ¬ L.has b) (hy : Yard t n k m s σ y) (hG : Good t n k m g p r) (hσ : σ < 1000000) (hκ : κ < 4) (τ : Pl) (hi : PlAt w b o T cs κ τ) (hg : τ.good k m κ σ) (ho : τ.over = false) (who : Int) (y' : Y) (τ' : Pl) (ht : turn k m κ (base t n k m) y τ = (y',τ')) (d : Bool) (hd : τ'.over = d) :
 Calls Tryz.prog 84 #[.pointer (some ⟨b,o,none⟩),.agg #[.int .i64 t,.int .i64 n,.int .i64 k,.int .i64 m,.int .i64 g,.int .i64 p,.int .i64 r,.pointer (some ⟨L.p,0,none⟩),.int .i64 who]] w fun e w'=>e = .returned (.bool d) /\ ∃ s' cs',Placed w L s b o T cs t n k m σ κ who y τ w' s' cs' y' τ':=by
 refine (place_step h hb hy hG hσ hκ τ hi hg ho who).mono ?_
 rw [ht]
 rintro e w' ⟨s',cs',rfl,P⟩
 exact ⟨by rw [hd],s',cs',P⟩
end
end Go.Proofs.YtlolfmoolgenpaaGreat
