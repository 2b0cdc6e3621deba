/- One who wants words: the word of the open chunk is loaded. -/
import Derived.Test.YtocmkmeikcejjaaPlaceLook
namespace Go.Proofs.Ytocmkmeikcejjaa
open Go.RowKit

theorem pask_any {w : World} {L : Loc} {s : Mm} {b o : Nat} {T : TypeId} {cs : Array Value} {sn ws sa sb : Int} {ch κ : Nat} (h : MemAt w L s) (hb : ¬ L.has b) (hi : At w b o T cs (PlV 1 κ sn ch ws sa sb)) (c0 c1 c2 c3 c4 c5 c6 who : Int) (A : Nat) (ar : Arena c0 c1 c2 c3) (hch : ch ≤ 1000000) (hA : 6 + c0 + c1 * 2 + (ch : Int) * 3 = A) (hn : A < s.n) (C : Ck) (σ : Nat) (hC : C.ok σ) (hσ : σ ≤ 1000000) (hw : s.wd A = C.w) (hκ : κ < 4) {nx' ch' : Int} (H : (C.st = 1 ∧ C.cl = κ ∧ (C.us : Int) + (room κ : Int) ≤ c3 ∧ nx' = 2 ∧ ch' = ch) ∨ (¬ (C.st = 1 ∧ C.cl = κ ∧ (C.us : Int) + (room κ : Int) ≤ c3) ∧ (if c2 ≤ 0 then 8 else 3) = nx' ∧ ch' = 0)) :
    Calls Try.prog 69 #[.pointer (some ⟨b, o, none⟩), .agg #[.int .i64 c0, .int .i64 c1, .int .i64 c2, .int .i64 c3, .int .i64 c4, .int .i64 c5, .int .i64 c6, .pointer (some ⟨L.p, 0, none⟩), .int .i64 who]] w fun e w' => e = .returned (.tuple #[]) ∧ MemAt w' L ((s.by who).step A (s.wd A)) ∧ Only (L.and b) w w' ∧ ∃ cs', At w' b o T cs' (PlV nx' κ sn ch' C.w sa sb) ∧ Same o 7 cs cs' := by
  have hbv : ¬ L.has w.heap.size := fun hh => by have := h.lt _ hh; omega
  have hbb : ¬ w.heap.size = b := fun hh => by have := hi.lt; omega
  have HA : Hid (6 + c0 + c1 * 2 + (ch : Int) * 3 = A) := hA
  have cw := fun w => chunk_w C σ hC (by omega) w
  rw [hw]
  obtain ⟨Z, hZ⟩ : ∃ Z, C.w = Z := ⟨_, rfl⟩
  rw [hZ] at cw hw ⊢
  have HX : Hid (s.wd A = Z) := hw
  clear hw hA
  have hr := room_bd κ
  have hu := hC.us
  clear hC
  go_enter Try.func69, Try.ntmps69
  go_wp2
  refine wp_over (fun W => MemAt W L s ∧ At W b o T cs (PlV 1 κ sn ch ws sa sb) ∧ BoxV W w.heap.size c0 c1 c2 c3 c4 c5 c6 L.p who ∧ Only (L.and b) w W) ⟨h.alloc _, hi.grown (grow_alloc (Below.refl _ _) _), BoxV.new, (Only.refl _ _).alloc _⟩ ?_
  rintro W ⟨m1, i1, v1, o1⟩
  refine wp_region_phase (OnlyBut L b (o + 4)) Grown (phAt L b o T cs (cs.setIfInBounds (o + 4) (.int .u64 Z)) s ((s.by who).step A Z) (PlV 1 κ sn ch ws sa sb) (PlV 1 κ sn ch Z sa sb)) [5, 8] [.val (.pointer (some ⟨b, o, none⟩)), .val (.agg #[.int .i64 c0, .int .i64 c1, .int .i64 c2, .int .i64 c3, .int .i64 c4, .int .i64 c5, .int .i64 c6, .pointer (some ⟨L.p, 0, none⟩), .int .i64 who]), .val (.pointer (some ⟨b, o, none⟩)), .val (.agg #[.int .i64 c0, .int .i64 c1, .int .i64 c2, .int .i64 c3, .int .i64 c4, .int .i64 c5, .int .i64 c6, .pointer (some ⟨L.p, 0, none⟩), .int .i64 who]), .val (.int .i64 A), .val (.int .u64 Z), .val (.pointer (some ⟨b, o, none⟩)), .val (.pointer (some ⟨b, o + 4, none⟩)), .that (fun _ _ => True) (fun _ _ _ _ _ => trivial)]
    (by kernel_rfl) OnlyBut.refl OnlyBut.trans OnlyBut.ofGrown phAt_grown ⟨m1.drew, i1.drew⟩ (by kernel_rfl) (by kernel_rfl) (by kernel_rfl) (by kernel_rfl) (by kernel_rfl) ?_
  simp only [phaseAll, Act.put, List.setIfInBounds_toArray, List.set_cons_zero, List.set_cons_succ]
  refine ⟨?_, ?_, ?_, ?_, ?_, ?_, ?_, ?_, ?_, ?_⟩
  · intro w' hR _
    refine Or.inl ⟨rfl, ?_⟩
    go_simp
    exact ⟨Grown.refl _, rfl⟩
  · intro w' hR _
    refine Or.inl ⟨rfl, ?_⟩
    have vv := (v1.grown ((Below.refl _ _).drew)).only hR.only (fun hh => hh.elim hbv hbb)
    have y0 := vv.c0
    have y1 := vv.c1
    have y2 := vv.c2
    have y3 := vv.c3
    have y4 := vv.c4
    have y5 := vv.c5
    have y6 := vv.c6
    have y7 := vv.c7
    have y8 := vv.c8
    go_simp
    exact ⟨Grown.refl _, rfl⟩
  · intro w' hR _
    refine Or.inl ⟨rfl, ?_⟩
    go_simp
    exact ⟨Grown.refl _, rfl⟩
  · intro w' hR _
    refine Or.inl ⟨rfl, ?_⟩
    have vv := (v1.grown ((Below.refl _ _).drew)).only hR.only (fun hh => hh.elim hbv hbb)
    have y0 := vv.c0
    have y1 := vv.c1
    have y2 := vv.c2
    have y3 := vv.c3
    have y4 := vv.c4
    have y5 := vv.c5
    have y6 := vv.c6
    have y7 := vv.c7
    have y8 := vv.c8
    go_simp
    exact ⟨Grown.refl _, rfl⟩
  · intro w' hR _
    refine Or.inl ⟨rfl, ?_⟩
    go_simp
    refine (pat_any (hR.keep (j := o + 3) (by omega) (i1.drew.cell 3 rfl)) _ _ _ _ _ _ _ _ A ar hch HA.out).mono ?_
    rintro e w'' ⟨rfl, b9⟩
    exact ⟨_, rfl, b9, rfl⟩
  · intro w' hR _ hP
    refine Or.inl ⟨rfl, ?_⟩
    go_simp
    refine (eload_in (s := s) hP.1 _ _ _ _ _ _ _ _ A hn).mono ?_
    rintro e w'' ⟨rfl, m2, o2⟩
    rw [HX.out] at m2
    exact ⟨_, rfl, ⟨OnlyBut.ofOnly o2 hb, m2, hP.2.only o2 hb⟩, by simp [Want.pred, HX.out]⟩
  · intro w' hR _
    refine Or.inl ⟨rfl, ?_⟩
    go_simp
    exact ⟨Grown.refl _, rfl⟩
  · intro w' hR _
    refine Or.inl ⟨rfl, ?_⟩
    go_simp
    exact ⟨Grown.refl _, rfl⟩
  · intro w' hR _ hP
    refine Or.inl ⟨rfl, ?_⟩
    have z0 := hP.2.cell 4 rfl
    have z1 := hP.2.fz
    go_simp
    exact ⟨⟨OnlyBut.set _ _, hP.1.setIn hb _ _, hP.2.set 4 _⟩, trivial⟩
  intro v w2 hR hP _
  obtain ⟨m2, i2⟩ : MemAt w2 L ((s.by who).step A Z) ∧ At w2 b o T (cs.setIfInBounds (o + 4) (.int .u64 Z)) (PlV 1 κ sn ch Z sa sb) := hP
  have o2 : Only (L.and b) w w2 := o1.drew.trans hR.only
  have v2 := (v1.grown ((Below.refl _ _).drew)).only hR.only (fun hh => hh.elim hbv hbb)
  have s2 : Same o 7 cs (cs.setIfInBounds (o + 4) (.int .u64 Z)) := Same.refl.set (by omega) _
  clear hR o1 v1 m1 i1
  have k4 := i2.cell 4 rfl
  go_wp2_with (go_at_call 20; refine (cw _).mono ?_; rintro e w3 ⟨rfl, b3⟩; have i4 := i2.grown b3; have m4 := m2.below b3; have v4 := v2.grown b3; have o4 := o2.trans (Only.ofGrown b3))
  obtain ⟨B, hB⟩ : ∃ B, w3.heap.size = B := ⟨_, rfl⟩
  have j4 := At.new w3 59 [.int .i64 C.st, .int .i64 C.cl, .int .i64 C.us, .int .i64 C.sp]
  rw [hB] at j4
  refine wp_over (fun W => MemAt W L ((s.by who).step A Z) ∧ At W b o T (cs.setIfInBounds (o + 4) (.int .u64 Z)) (PlV 1 κ sn ch Z sa sb) ∧ BoxV W w.heap.size c0 c1 c2 c3 c4 c5 c6 L.p who ∧ Only (L.and b) w W ∧ At W B 0 59 _ [.int .i64 C.st, .int .i64 C.cl, .int .i64 C.us, .int .i64 C.sp]) ⟨m4.alloc _, i4.grown (grow_alloc (Below.refl _ _) _), v4.grown (grow_alloc (Below.refl _ _) _), o4.alloc _, j4⟩ ?_
  clear m2 i2 v2 o2 k4 b3 i4 m4 v4 o4 j4 HX HA
  rintro W ⟨m1, i1, v1, o1, j1⟩
  have g0 := fun N : Later W => (j1.grown N.below).at0 0 rfl
  have g3 := fun N : Later W => (j1.grown N.below).at0 1 rfl
  have g4 := fun N : Later W => (j1.grown N.below).at0 2 rfl
  have e0 := fun N : Later W => (v1.grown N.below).c0
  have e1 := fun N : Later W => (v1.grown N.below).c1
  have e2 := fun N : Later W => (v1.grown N.below).c2
  have e3 := fun N : Later W => (v1.grown N.below).c3
  have e4 := fun N : Later W => (v1.grown N.below).c4
  have e5 := fun N : Later W => (v1.grown N.below).c5
  have e6 := fun N : Later W => (v1.grown N.below).c6
  have e7 := fun N : Later W => (v1.grown N.below).c7
  have e8 := fun N : Later W => (v1.grown N.below).c8
  have f1 := fun N : Later W => (i1.grown N.below).cell 1 rfl
  haveI := Later.exists W
  rcases H with ⟨h1, h2, h3, rfl, rfl⟩ | ⟨hno, hnx, rfl⟩
  · have g1 : ((C.st : Int) != 1) = false := by simp; omega
    have g2 : ((C.cl : Int) != (κ : Int)) = false := by simp; omega
    refine wp_region_later (by kernel_rfl) (by kernel_rfl) ?_
    repeat (go_big_quiet_step ((go_at_call 54; exact Calls.later_same (lroom_w κ hκ _))))
    refine wpQuiet_nil ?_
    rintro _ ⟨nq, rfl⟩
    clear e0 e1 e2 e3 e4 e5 e6 e7 e8 f1
    have i4 := i1.grown nq.below
    have m4 := m1.below nq.below
    have v4 := v1.grown nq.below
    have o4 : Only (L.and b) w nq.now := o1.trans (Only.ofGrown nq.below)
    clear i1 m1 o1 v1 j1 g0 g3 g4
    have k0 := i4.cell0 rfl
    have kf := i4.fz
    go_wp2
    go_end0
    exact ⟨rfl, m4.setIn hb _ _, o4.set _ _, _, i4.set0 _, s2.set (j := o) (by omega) _⟩
  · have hh : ((((C.st : Int) != 1) = true) ∨ (((C.st : Int) != 1) = false ∧ ((C.cl : Int) != (κ : Int)) = true)) ∨ (((C.st : Int) != 1) = false ∧ ((C.cl : Int) != (κ : Int)) = false ∧ ¬ (C.us : Int) + (room κ : Int) ≤ c3) := by
      simp only [bne_iff_ne, bne_eq_false_iff_eq]
      omega
    clear hno
    rcases hh with (g1 | ⟨g1, g2⟩) | ⟨g1, g2, h3⟩
    all_goals
      refine wp_region_later (by kernel_rfl) (by kernel_rfl) ?_
      repeat (go_big_quiet_step ((go_at_call 54; exact Calls.later_same (lroom_w κ hκ _))))
      refine wpQuiet_nil ?_
      rintro _ ⟨nq, rfl⟩
      clear e0 e1 e2 e3 e4 e5 e6 e7 e8 f1
      have i4 := i1.grown nq.below
      have m4 := m1.below nq.below
      have v4 := v1.grown nq.below
      have o4 : Only (L.and b) w nq.now := o1.trans (Only.ofGrown nq.below)
      clear i1 m1 o1 v1 j1 g0 g3 g4
      have k0 := i4.cell0 rfl
      have kf := i4.fz
      have y0 := v4.c0
      have y1 := v4.c1
      have y2 := v4.c2
      have y3 := v4.c3
      have y4 := v4.c4
      have y5 := v4.c5
      have y6 := v4.c6
      have y7 := v4.c7
      have y8 := v4.c8
      go_wp2_with (go_at_call 81; refine (plook_any m4 hb i4 _ _ _ _ _ _ _ _ 0 nx' hnx).mono ?_; rintro e w5 ⟨rfl, m5, o5, cs5, i5, s5⟩)
      refine bodyPost_ret (results_none rfl _ _ _) rfl ?_
      exact ⟨rfl, m5, o4.trans o5, cs5, i5, s2.trans s5⟩

end Go.Proofs.Ytocmkmeikcejjaa
