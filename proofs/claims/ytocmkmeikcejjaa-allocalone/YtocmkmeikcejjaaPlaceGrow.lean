/- One who wants words: what is used of a chunk grows; a chunk is taken, opened, made free again. -/
import Derived.Test.YtocmkmeikcejjaaPlaceLook
namespace Go.Proofs.Ytocmkmeikcejjaa
open Go.RowKit

set_option maxHeartbeats 400000 in
theorem pgrow_any {w : World} {L : Loc} {s : Mm} {b o : Nat} {T : TypeId} {cs : Array Value} {sn sa sb : Int} {ch κ : Nat} (h : MemAt w L s) (hb : ¬ L.has b) (C : Ck) (hi : At w b o T cs (PlV 2 κ sn ch C.w sa sb)) (c0 c1 c2 c3 c4 c5 c6 who : Int) (A : Nat) (ar : Arena c0 c1 c2 c3) (hch : ch ≤ 1000000) (hA : 6 + c0 + c1 * 2 + (ch : Int) * 3 = A) (hn : A < s.n) (σ : Nat) (hC : C.ok σ) (hσ : σ ≤ 1000000) (hκ : κ < 4) (hu : C.us + room κ ≤ 1000) (M : Int) (hM : (ch : Int) * c3 = M) (m0 : 0 ≤ M) (mh : M ≤ 1000000) {d : Bool} {nv nx' sa' sb' : Int} (hw : CasTo s A C.w (⟨C.st, C.cl, C.us + room κ, C.sp⟩ : Ck).w d nv) (hx : (d = true ∧ nx' = 7 ∧ sa' = 6 + c0 + c1 * 2 + c2 * 3 + M + (C.us : Int) ∧ sb' = ch) ∨ (d = false ∧ nx' = 0 ∧ sa' = sa ∧ sb' = sb)) :
    Calls Try.prog 70 #[.pointer (some ⟨b, o, none⟩), .agg #[.int .i64 c0, .int .i64 c1, .int .i64 c2, .int .i64 c3, .int .i64 c4, .int .i64 c5, .int .i64 c6, .pointer (some ⟨L.p, 0, none⟩), .int .i64 who]] w fun e w' => e = .returned (.tuple #[]) ∧ MemAt w' L ((s.by who).step A nv) ∧ Only (L.and b) w w' ∧ ∃ cs', At w' b o T cs' (PlV nx' κ sn ch C.w sa' sb') ∧ Same o 7 cs cs' := by
  have hbv : ¬ L.has w.heap.size := fun hh => by have := h.lt _ hh; omega
  have hbb : ¬ w.heap.size = b := fun hh => by have := hi.lt; omega
  have HA : Hid (6 + c0 + c1 * 2 + (ch : Int) * 3 = A) := hA
  have hr := room_bd κ
  have hN : (⟨C.st, C.cl, C.us + room κ, C.sp⟩ : Ck).ok σ := ⟨hC.st, hC.cl, hu, hC.sp⟩
  have cw := fun w => chunk_w C σ hC (by omega) w
  have pw := fun w => putChunk_w (⟨C.st, C.cl, C.us + room κ, C.sp⟩ : Ck) σ hN (by omega) C.st C.cl ((C.us : Int) + (room κ : Int)) C.sp rfl rfl (by simp only; omega) rfl w
  have bw := fun w => lbase_any c0 c1 c2 c3 c4 c5 c6 ch M w ar hM m0 mh
  have hus := hC.us
  have a1 := ar.t0
  have a2 := ar.t1
  have a3 := ar.s0
  have a4 := ar.s1
  have a5 := ar.k0
  have a6 := ar.k1
  obtain ⟨Z, hZ⟩ : ∃ Z, C.w = Z := ⟨_, rfl⟩
  obtain ⟨X, hX⟩ : ∃ X, (⟨C.st, C.cl, C.us + room κ, C.sp⟩ : Ck).w = X := ⟨_, rfl⟩
  rw [hZ] at cw hw hi ⊢
  rw [hX] at pw hw
  have HX : Hid (CasTo s A Z X d nv) := hw
  have HM : Hid ((ch : Int) * c3 = M) := hM
  clear hw hA hC hM
  have k4 := fun O => alloc_cell (hi.cell 4 rfl) O
  go_enter Try.func70, Try.ntmps70
  go_wp2_with (go_at_call 20; refine (cw _).mono ?_; rintro e w3 ⟨rfl, b3⟩; have i4 := (hi.grown (grow_alloc (Below.refl _ _) (.cells #[.int .i64 c0, .int .i64 c1, .int .i64 c2, .int .i64 c3, .int .i64 c4, .int .i64 c5, .int .i64 c6, .pointer (some ⟨L.p, 0, none⟩), .int .i64 who] 27))).grown b3; have m4 := (h.alloc (.cells #[.int .i64 c0, .int .i64 c1, .int .i64 c2, .int .i64 c3, .int .i64 c4, .int .i64 c5, .int .i64 c6, .pointer (some ⟨L.p, 0, none⟩), .int .i64 who] 27)).below b3; have v4 : BoxV w3 w.heap.size c0 c1 c2 c3 c4 c5 c6 L.p who := BoxV.new.grown b3; have o4 : Only (L.and b) w w3 := ((Only.refl _ _).alloc _).trans (Only.ofGrown b3); have z3 := b3.size)
  rw [Go.Deep.nblk_alloc] at z3
  obtain ⟨B, hB⟩ : ∃ B, w3.heap.size = B := ⟨_, rfl⟩
  have j4 := At.new w3 59 [.int .i64 C.st, .int .i64 C.cl, .int .i64 C.us, .int .i64 C.sp]
  rw [hB] at j4 ⊢
  have hLB : Hid (¬ L.has B) := fun hh => by have := m4.lt _ hh; omega
  have hBb : Hid (¬ B = b) := fun hh => by have := i4.lt; omega
  have hBv : Hid (w.heap.size < B) := by unfold Hid; omega
  refine wp_over (fun W => MemAt W L s ∧ At W b o T cs (PlV 2 κ sn ch Z sa sb) ∧ BoxV W w.heap.size c0 c1 c2 c3 c4 c5 c6 L.p who ∧ Only (L.and b) w W ∧ At W B 0 59 _ [.int .i64 C.st, .int .i64 C.cl, .int .i64 C.us, .int .i64 C.sp]) ⟨m4.alloc _, i4.grown (grow_alloc (Below.refl _ _) _), v4.grown (grow_alloc (Below.refl _ _) _), o4.alloc _, j4⟩ ?_
  clear k4 b3 i4 m4 v4 o4 j4 z3 hB
  rintro W ⟨m1, i1, v1, o1, j1⟩
  have g4 := fun N : Later W => (j1.grown N.below).at0 2 rfl
  have e0 := fun N : Later W => (v1.grown N.below).c0
  have e1 := fun N : Later W => (v1.grown N.below).c1
  have e2 := fun N : Later W => (v1.grown N.below).c2
  have e3 := fun N : Later W => (v1.grown N.below).c3
  have e4 := fun N : Later W => (v1.grown N.below).c4
  have e5 := fun N : Later W => (v1.grown N.below).c5
  have e6 := fun N : Later W => (v1.grown N.below).c6
  have e7 := fun N : Later W => (v1.grown N.below).c7
  have e8 := fun N : Later W => (v1.grown N.below).c8
  have f3 := fun N : Later W => (i1.grown N.below).cell 3 rfl
  haveI := Later.exists W
  refine wp_region_later (by kernel_rfl) (by kernel_rfl) ?_
  repeat (go_big_quiet_step ((go_at_call 40; exact Calls.later (bw _))))
  refine wpQuiet_nil ?_
  rintro _ ⟨nq, rfl⟩
  clear e0 e1 e2 e3 e4 e5 e6 e7 e8 f3
  go_wp2
  refine wp_over (fun W => MemAt W L s ∧ At W b o T cs (PlV 2 κ sn ch Z sa sb) ∧ BoxV W w.heap.size c0 c1 c2 c3 c4 c5 c6 L.p who ∧ Only (L.and b) w W ∧ At W B 0 59 _ [.int .i64 C.st, .int .i64 C.cl, .int .i64 C.us, .int .i64 C.sp]) ⟨m1.below nq.below, i1.grown nq.below, v1.grown nq.below, o1.trans (Only.ofGrown nq.below), j1.grown nq.below⟩ ?_
  clear m1 i1 v1 o1 j1 g4 nq bw
  rintro W ⟨m1, i1, v1, o1, j1⟩
  refine wp_region_rely_tail Grown 9 [.val (.pointer (some ⟨B, 2, none⟩)), .val (.int .i64 C.us), .val (.pointer (some ⟨b, o, none⟩)), .val (.pointer (some ⟨b, o, none⟩)), .val (.pointer (some ⟨b, o + 1, none⟩)), .val (.int .i64 κ), .val (.int .i64 (room κ)), .val (.int .i64 ((C.us : Int) + (room κ : Int))), .val (.pointer (some ⟨B, 2, none⟩))] (by kernel_rfl) Grown.refl Grown.trans (by decide) (by kernel_rfl) (by kernel_rfl) (by kernel_rfl) (by kernel_rfl) (by kernel_rfl) (by kernel_rfl) ?_
  simp only [List.take_succ_cons, List.take_zero, relyAll, Act.put, List.setIfInBounds_toArray, List.set_cons_zero, List.set_cons_succ]
  refine ⟨?_, ?_, ?_, ?_, ?_, ?_, ?_, ?_, ?_, ?_⟩
  · intro w' hg _
    refine Or.inl ⟨rfl, ?_⟩
    go_simp
    exact ⟨Grown.refl _, rfl⟩
  · intro w' hg _
    refine Or.inl ⟨rfl, ?_⟩
    have z := (j1.drew.grown hg).at0 2 rfl
    go_simp
    exact ⟨Grown.refl _, rfl⟩
  · intro w' hg _
    refine Or.inl ⟨rfl, ?_⟩
    go_simp
    exact ⟨Grown.refl _, rfl⟩
  · intro w' hg _
    refine Or.inl ⟨rfl, ?_⟩
    go_simp
    exact ⟨Grown.refl _, rfl⟩
  · intro w' hg _
    refine Or.inl ⟨rfl, ?_⟩
    go_simp
    exact ⟨Grown.refl _, rfl⟩
  · intro w' hg _
    refine Or.inl ⟨rfl, ?_⟩
    have z := (i1.drew.grown hg).cell 1 rfl
    go_simp
    exact ⟨Grown.refl _, rfl⟩
  · intro w' hg _
    refine Or.inl ⟨rfl, ?_⟩
    go_simp
    refine (lroom_w κ hκ _).mono ?_
    rintro e w'' ⟨rfl, rfl⟩
    exact ⟨_, rfl, Grown.refl _, rfl⟩
  · intro w' hg _
    refine Or.inl ⟨rfl, ?_⟩
    go_simp
    exact ⟨Grown.refl _, by simp only [Want.pred]; rw [IntKind.wrap_i64]; exact congrArg (Value.int .i64) (by omega)⟩
  · intro w' hg _
    refine Or.inl ⟨rfl, ?_⟩
    go_simp
    exact ⟨Grown.refl _, rfl⟩
  intro w5 hg _
  have m5 := m1.drew.below hg
  have i5 := i1.drew.grown hg
  have v5 := (v1.grown ((Below.refl _ _).drew)).grown hg
  have o5 : Only (L.and b) w w5 := o1.drew.trans (Only.ofGrown hg)
  have j5 := j1.drew.grown hg
  clear hg m1 i1 v1 o1 j1
  have q2 := j5.at0 2 rfl
  have qf := j5.fz
  go_wp2
  refine wp_over (fun W => MemAt W L s ∧ At W b o T cs (PlV 2 κ sn ch Z sa sb) ∧ BoxV W w.heap.size c0 c1 c2 c3 c4 c5 c6 L.p who ∧ Only (L.and b) w W ∧ At W B 0 59 _ [.int .i64 C.st, .int .i64 C.cl, .int .i64 ((C.us : Int) + (room κ : Int)), .int .i64 C.sp]) ⟨m5.setIn hLB.out _ _, i5.other (fun e => hBb.out e.symm) _ _, v5.setIn (by have := hBv.out; omega) _ _, o5.setCell (fun hlt => absurd hBv.out (by simp only at hlt; omega)) _, j5.put0 2 _⟩ ?_
  clear m5 i5 v5 o5 j5 q2 qf
  rintro W ⟨m1, i1, v1, o1, j1⟩
  refine wp_region_phase (Only L.has) Grown (fun p W' => match p with | 0 => MemAt W' L s | _ => MemAt W' L ((s.by who).step A nv)) [10] [.val (.agg #[.int .i64 c0, .int .i64 c1, .int .i64 c2, .int .i64 c3, .int .i64 c4, .int .i64 c5, .int .i64 c6, .pointer (some ⟨L.p, 0, none⟩), .int .i64 who]), .val (.pointer (some ⟨b, o, none⟩)), .val (.agg #[.int .i64 c0, .int .i64 c1, .int .i64 c2, .int .i64 c3, .int .i64 c4, .int .i64 c5, .int .i64 c6, .pointer (some ⟨L.p, 0, none⟩), .int .i64 who]), .val (.int .i64 A), .val (.pointer (some ⟨b, o, none⟩)), .val (.pointer (some ⟨b, o, none⟩)), .val (.pointer (some ⟨b, o + 4, none⟩)), .val (.int .u64 Z), .val (.agg #[.int .i64 C.st, .int .i64 C.cl, .int .i64 ((C.us : Int) + (room κ : Int)), .int .i64 C.sp]), .val (.int .u64 X), .val (.bool d), .val (.bool !d)]
    (by kernel_rfl) (Only.refl _) (fun _ _ _ h k => h.trans k) (fun x y h => Only.ofGrown h) (fun x y p h k => by match p, k with | 0, k => exact k.below h | p + 1, k => exact k.below h) m1.drew (by kernel_rfl) (by kernel_rfl) (by kernel_rfl) (by kernel_rfl) (by kernel_rfl) ?_
  simp only [phaseAll, Act.put, List.setIfInBounds_toArray, List.set_cons_zero, List.set_cons_succ]
  refine ⟨?_, ?_, ?_, ?_, ?_, ?_, ?_, ?_, ?_, ?_, ?_, ?_, ?_⟩
  · intro w' hR _
    refine Or.inl ⟨rfl, ?_⟩
    have vv := (v1.grown ((Below.refl _ _).drew)).only hR hbv
    have y0 := vv.c0
    have y1 := vv.c1
    have y2 := vv.c2
    have y3 := vv.c3
    have y4 := vv.c4
    have y5 := vv.c5
    have y6 := vv.c6
    have y7 := vv.c7
    have y8 := vv.c8
    go_simp
    exact ⟨Grown.refl _, rfl⟩
  · intro w' hR _
    refine Or.inl ⟨rfl, ?_⟩
    go_simp
    exact ⟨Grown.refl _, rfl⟩
  · intro w' hR _
    refine Or.inl ⟨rfl, ?_⟩
    have vv := (v1.grown ((Below.refl _ _).drew)).only hR hbv
    have y0 := vv.c0
    have y1 := vv.c1
    have y2 := vv.c2
    have y3 := vv.c3
    have y4 := vv.c4
    have y5 := vv.c5
    have y6 := vv.c6
    have y7 := vv.c7
    have y8 := vv.c8
    go_simp
    exact ⟨Grown.refl _, rfl⟩
  · intro w' hR _
    refine Or.inl ⟨rfl, ?_⟩
    go_simp
    refine (pat_any ((i1.drew.only hR hb).cell 3 rfl) _ _ _ _ _ _ _ _ A ar hch HA.out).mono ?_
    rintro e w'' ⟨rfl, b9⟩
    exact ⟨_, rfl, b9, rfl⟩
  · intro w' hR _
    refine Or.inl ⟨rfl, ?_⟩
    go_simp
    exact ⟨Grown.refl _, rfl⟩
  · intro w' hR _
    refine Or.inl ⟨rfl, ?_⟩
    go_simp
    exact ⟨Grown.refl _, rfl⟩
  · intro w' hR _
    refine Or.inl ⟨rfl, ?_⟩
    go_simp
    exact ⟨Grown.refl _, rfl⟩
  · intro w' hR _
    refine Or.inl ⟨rfl, ?_⟩
    have z := (i1.drew.only hR hb).cell 4 rfl
    go_simp
    exact ⟨Grown.refl _, rfl⟩
  · intro w' hR _
    refine Or.inl ⟨rfl, ?_⟩
    have jj := j1.drew.only hR hLB.out
    have y0 := jj.at0 0 rfl
    have y1 := jj.at0 1 rfl
    have y2 := jj.at0 2 rfl
    have y3 := jj.at0 3 rfl
    go_simp
    exact ⟨Grown.refl _, rfl⟩
  · intro w' hR _
    refine Or.inl ⟨rfl, ?_⟩
    go_simp
    refine (pw _).mono ?_
    rintro e w'' ⟨rfl, b9⟩
    exact ⟨_, rfl, b9, rfl⟩
  · intro w' hR _ hP
    refine Or.inl ⟨rfl, ?_⟩
    go_simp
    refine (ecas_in (s := s) hP _ _ _ _ _ _ _ _ A hn _ _).mono ?_
    rintro e w'' ⟨rfl, m2, o2⟩
    rw [(HX.out.cas who).1] at m2
    exact ⟨_, rfl, ⟨o2, m2⟩, congrArg Value.bool (HX.out.cas who).2⟩
  · intro w' hR _
    refine Or.inl ⟨rfl, ?_⟩
    go_simp
    exact ⟨Grown.refl _, rfl⟩
  intro w2 hR m2 _
  have m2' : MemAt w2 L ((s.by who).step A nv) := m2
  have i2 := i1.drew.only hR hb
  have o2 : Only (L.and b) w w2 := o1.drew.trans hR.andL
  clear m1 i1 v1 o1 j1 hR m2 HX HA cw pw hLB hBb hBv
  have k0 := i2.cell0 rfl
  have k3 := i2.cell 3 rfl
  have k5 := i2.cell 5 rfl
  have k6 := i2.cell 6 rfl
  have kf := i2.fz
  rcases hx with ⟨rfl, rfl, rfl, rfl⟩ | ⟨rfl, rfl, rfl, rfl⟩
  · go_wp2
    go_end0
    exact ⟨rfl, ((m2'.setIn hb _ _).setIn hb _ _).setIn hb _ _, ((o2.set _ _).set _ _).set _ _, _, ((i2.set 5 _).set 6 _).set0 _, ((Same.refl.set (by omega) _).set (by omega) _).set (by omega) _⟩
  · go_wp2
    refine bodyPost_ret (results_none rfl _ _ _) rfl ?_
    exact ⟨rfl, m2'.setIn hb _ _, o2.set _ _, _, i2.set0 _, Same.refl.set (by omega) _⟩

end Go.Proofs.Ytocmkmeikcejjaa
