/- One who wants words: which chunk is open is loaded; its word is loaded. -/
import Derived.Test.YtocmkmeikcejjaaPlaceStep
namespace Go.Proofs.Ytocmkmeikcejjaa
open Go.RowKit

theorem psee_some {w : World} {L : Loc} {s : Mm} {b o : Nat} {T : TypeId} {cs : Array Value} {sn ch ws sa sb : Int} {κ : Nat} (h : MemAt w L s) (hb : ¬ L.has b) (hi : At w b o T cs (PlV 0 κ sn ch ws sa sb)) (c0 c1 c2 c3 c4 c5 c6 who : Int) (hκ : κ < 4) (hn : 2 + κ < s.n) (i : Nat) (hc : (i : Int) < c2) (hc2 : c2 ≤ 64) (hw : s.wd (2 + κ) = ((i : Int) + 1)) :
    Calls Try.prog 68 #[.pointer (some ⟨b, o, none⟩), .agg #[.int .i64 c0, .int .i64 c1, .int .i64 c2, .int .i64 c3, .int .i64 c4, .int .i64 c5, .int .i64 c6, .pointer (some ⟨L.p, 0, none⟩), .int .i64 who]] w fun e w' => e = .returned (.tuple #[]) ∧ MemAt w' L ((s.by who).step (2 + κ) (s.wd (2 + κ))) ∧ Only (L.and b) w w' ∧ ∃ cs', At w' b o T cs' (PlV 1 κ ((i : Int) + 1) i ws sa sb) ∧ Same o 7 cs cs' := by
  have hbv : ¬ L.has w.heap.size := fun hh => by have := h.lt _ hh; omega
  have hbb : ¬ w.heap.size = b := fun hh => by have := hi.lt; omega
  have HX : Hid (s.wd (2 + κ) = ((i : Int) + 1)) := hw
  rw [hw]
  clear hw
  have hq : ((i : Int) + 1 == 0) = false := by simp; omega
  have hcv : IntKind.u64.wrap c2 = c2 := wrap_small c2 (by omega) (by omega)
  go_enter Try.func68, Try.ntmps68
  go_wp2
  refine wp_over (fun W => MemAt W L s ∧ At W b o T cs (PlV 0 κ sn ch ws sa sb) ∧ BoxV W w.heap.size c0 c1 c2 c3 c4 c5 c6 L.p who ∧ Only (L.and b) w W) ⟨h.alloc _, hi.grown (grow_alloc (Below.refl _ _) _), BoxV.new, (Only.refl _ _).alloc _⟩ ?_
  rintro W ⟨m1, i1, v1, o1⟩
  refine wp_region_phase (OnlyBut L b (o + 2)) Grown (phAt L b o T cs (cs.setIfInBounds (o + 2) (.int .u64 ((i : Int) + 1))) s ((s.by who).step (2 + κ) ((i : Int) + 1)) (PlV 0 κ sn ch ws sa sb) (PlV 0 κ ((i : Int) + 1) ch ws sa sb)) [7, 10] [.val (.pointer (some ⟨b, o, none⟩)), .val (.agg #[.int .i64 c0, .int .i64 c1, .int .i64 c2, .int .i64 c3, .int .i64 c4, .int .i64 c5, .int .i64 c6, .pointer (some ⟨L.p, 0, none⟩), .int .i64 who]), .val (.pointer (some ⟨b, o, none⟩)), .val (.pointer (some ⟨b, o, none⟩)), .val (.pointer (some ⟨b, o + 1, none⟩)), .val (.int .i64 κ), .val (.int .i64 ((2 + κ : Nat) : Int)), .val (.int .u64 ((i : Int) + 1)), .val (.pointer (some ⟨b, o, none⟩)), .val (.pointer (some ⟨b, o + 2, none⟩)), .that (fun _ _ => True) (fun _ _ _ _ _ => trivial)]
    (by kernel_rfl) OnlyBut.refl OnlyBut.trans OnlyBut.ofGrown phAt_grown ⟨m1.drew, i1.drew⟩ (by kernel_rfl) (by kernel_rfl) (by kernel_rfl) (by kernel_rfl) (by kernel_rfl) ?_
  simp only [phaseAll, Act.put, List.setIfInBounds_toArray, List.set_cons_zero, List.set_cons_succ]
  refine ⟨?_, ?_, ?_, ?_, ?_, ?_, ?_, ?_, ?_, ?_, ?_, ?_⟩
  · intro w' hR _
    refine Or.inl ⟨rfl, ?_⟩
    go_simp
    exact ⟨Grown.refl _, rfl⟩
  · intro w' hR _
    refine Or.inl ⟨rfl, ?_⟩
    have vv := (v1.grown ((Below.refl _ _).drew)).only hR.only (fun hh => hh.elim hbv hbb)
    have y0 := vv.c0
    have y1 := vv.c1
    have y2 := vv.c2
    have y3 := vv.c3
    have y4 := vv.c4
    have y5 := vv.c5
    have y6 := vv.c6
    have y7 := vv.c7
    have y8 := vv.c8
    go_simp
    exact ⟨Grown.refl _, rfl⟩
  · intro w' hR _
    refine Or.inl ⟨rfl, ?_⟩
    go_simp
    exact ⟨Grown.refl _, rfl⟩
  · intro w' hR _
    refine Or.inl ⟨rfl, ?_⟩
    go_simp
    exact ⟨Grown.refl _, rfl⟩
  · intro w' hR _
    refine Or.inl ⟨rfl, ?_⟩
    go_simp
    exact ⟨Grown.refl _, rfl⟩
  · intro w' hR _
    refine Or.inl ⟨rfl, ?_⟩
    have z := hR.keep (j := o + 1) (by omega) (i1.drew.cell 1 rfl)
    go_simp
    exact ⟨Grown.refl _, rfl⟩
  · intro w' hR _
    refine Or.inl ⟨rfl, ?_⟩
    go_simp
    refine (lopen_any (κ : Int) _ (by omega) (by omega)).mono ?_
    rintro e w'' ⟨rfl, rfl⟩
    exact ⟨_, rfl, Grown.refl _, congrArg (Value.int .i64) (by omega)⟩
  · intro w' hR _ hP
    refine Or.inl ⟨rfl, ?_⟩
    go_simp
    refine (eload_in (s := s) hP.1 _ _ _ _ _ _ _ _ (2 + κ) hn).mono ?_
    rintro e w'' ⟨rfl, m2, o2⟩
    rw [HX.out] at m2
    exact ⟨_, rfl, ⟨OnlyBut.ofOnly o2 hb, m2, hP.2.only o2 hb⟩, by simp [Want.pred, HX.out]⟩
  · intro w' hR _
    refine Or.inl ⟨rfl, ?_⟩
    go_simp
    exact ⟨Grown.refl _, rfl⟩
  · intro w' hR _
    refine Or.inl ⟨rfl, ?_⟩
    go_simp
    exact ⟨Grown.refl _, rfl⟩
  · intro w' hR _ hP
    refine Or.inl ⟨rfl, ?_⟩
    have z0 := hP.2.cell 2 rfl
    have z1 := hP.2.fz
    go_simp
    exact ⟨⟨OnlyBut.set _ _, hP.1.setIn hb _ _, hP.2.set 2 _⟩, trivial⟩
  intro v w2 hR hP _
  obtain ⟨m2, i2⟩ : MemAt w2 L ((s.by who).step (2 + κ) ((i : Int) + 1)) ∧ At w2 b o T (cs.setIfInBounds (o + 2) (.int .u64 ((i : Int) + 1))) (PlV 0 κ ((i : Int) + 1) ch ws sa sb) := hP
  have o2 : Only (L.and b) w w2 := o1.drew.trans hR.only
  have v2 := (v1.grown ((Below.refl _ _).drew)).only hR.only (fun hh => hh.elim hbv hbb)
  have s2 : Same o 7 cs (cs.setIfInBounds (o + 2) (.int .u64 ((i : Int) + 1))) := Same.refl.set (by omega) _
  clear hR o1 v1 m1 i1
  go_wp2
  have e0 := fun N : Later w2 => (v2.grown N.below).c0
  have e1 := fun N : Later w2 => (v2.grown N.below).c1
  have e2 := fun N : Later w2 => (v2.grown N.below).c2
  have e3 := fun N : Later w2 => (v2.grown N.below).c3
  have e4 := fun N : Later w2 => (v2.grown N.below).c4
  have e5 := fun N : Later w2 => (v2.grown N.below).c5
  have e6 := fun N : Later w2 => (v2.grown N.below).c6
  have e7 := fun N : Later w2 => (v2.grown N.below).c7
  have e8 := fun N : Later w2 => (v2.grown N.below).c8
  have f2 := fun N : Later w2 => (i2.grown N.below).cell 2 rfl
  haveI := Later.exists w2
  refine wp_region_later (by kernel_rfl) (by kernel_rfl) ?_
  repeat (go_big_quiet_step (fail))
  refine wpQuiet_nil ?_
  rintro _ ⟨nq, rfl⟩
  clear e0 e1 e2 e3 e4 e5 e6 e7 e8 f2
  have i4 := i2.grown nq.below
  have m4 := m2.below nq.below
  have v4 := v2.grown nq.below
  have o4 : Only (L.and b) w nq.now := o2.trans (Only.ofGrown nq.below)
  clear i2 m2 o2 v2
  have k0 := i4.cell0 rfl
  have k2 := i4.cell 2 rfl
  have k3 := i4.cell 3 rfl
  have kf := i4.fz
  have i5 := (i4.set 3 (.int .i64 (i : Int))).set0 (.int .i64 1)
  go_wp2
  go_end0
  exact ⟨rfl, (m4.setIn hb _ _).setIn hb _ _, (o4.set _ _).set _ _, _, i5, (s2.set (by omega) _).set (by omega) _⟩

theorem psee_none {w : World} {L : Loc} {s : Mm} {b o : Nat} {T : TypeId} {cs : Array Value} {sn ch ws sa sb : Int} {κ : Nat} (h : MemAt w L s) (hb : ¬ L.has b) (hi : At w b o T cs (PlV 0 κ sn ch ws sa sb)) (c0 c1 c2 c3 c4 c5 c6 who : Int) (hκ : κ < 4) (hn : 2 + κ < s.n) (nx' : Int) (hnx : (if c2 ≤ 0 then 8 else 3) = nx') (hw : s.wd (2 + κ) = 0) :
    Calls Try.prog 68 #[.pointer (some ⟨b, o, none⟩), .agg #[.int .i64 c0, .int .i64 c1, .int .i64 c2, .int .i64 c3, .int .i64 c4, .int .i64 c5, .int .i64 c6, .pointer (some ⟨L.p, 0, none⟩), .int .i64 who]] w fun e w' => e = .returned (.tuple #[]) ∧ MemAt w' L ((s.by who).step (2 + κ) (s.wd (2 + κ))) ∧ Only (L.and b) w w' ∧ ∃ cs', At w' b o T cs' (PlV nx' κ 0 0 ws sa sb) ∧ Same o 7 cs cs' := by
  have hbv : ¬ L.has w.heap.size := fun hh => by have := h.lt _ hh; omega
  have hbb : ¬ w.heap.size = b := fun hh => by have := hi.lt; omega
  have HX : Hid (s.wd (2 + κ) = 0) := hw
  rw [hw]
  clear hw
  go_enter Try.func68, Try.ntmps68
  go_wp2
  refine wp_over (fun W => MemAt W L s ∧ At W b o T cs (PlV 0 κ sn ch ws sa sb) ∧ BoxV W w.heap.size c0 c1 c2 c3 c4 c5 c6 L.p who ∧ Only (L.and b) w W) ⟨h.alloc _, hi.grown (grow_alloc (Below.refl _ _) _), BoxV.new, (Only.refl _ _).alloc _⟩ ?_
  rintro W ⟨m1, i1, v1, o1⟩
  refine wp_region_phase (OnlyBut L b (o + 2)) Grown (phAt L b o T cs (cs.setIfInBounds (o + 2) (.int .u64 0)) s ((s.by who).step (2 + κ) 0) (PlV 0 κ sn ch ws sa sb) (PlV 0 κ 0 ch ws sa sb)) [7, 10] [.val (.pointer (some ⟨b, o, none⟩)), .val (.agg #[.int .i64 c0, .int .i64 c1, .int .i64 c2, .int .i64 c3, .int .i64 c4, .int .i64 c5, .int .i64 c6, .pointer (some ⟨L.p, 0, none⟩), .int .i64 who]), .val (.pointer (some ⟨b, o, none⟩)), .val (.pointer (some ⟨b, o, none⟩)), .val (.pointer (some ⟨b, o + 1, none⟩)), .val (.int .i64 κ), .val (.int .i64 ((2 + κ : Nat) : Int)), .val (.int .u64 0), .val (.pointer (some ⟨b, o, none⟩)), .val (.pointer (some ⟨b, o + 2, none⟩)), .that (fun _ _ => True) (fun _ _ _ _ _ => trivial)]
    (by kernel_rfl) OnlyBut.refl OnlyBut.trans OnlyBut.ofGrown phAt_grown ⟨m1.drew, i1.drew⟩ (by kernel_rfl) (by kernel_rfl) (by kernel_rfl) (by kernel_rfl) (by kernel_rfl) ?_
  simp only [phaseAll, Act.put, List.setIfInBounds_toArray, List.set_cons_zero, List.set_cons_succ]
  refine ⟨?_, ?_, ?_, ?_, ?_, ?_, ?_, ?_, ?_, ?_, ?_, ?_⟩
  · intro w' hR _
    refine Or.inl ⟨rfl, ?_⟩
    go_simp
    exact ⟨Grown.refl _, rfl⟩
  · intro w' hR _
    refine Or.inl ⟨rfl, ?_⟩
    have vv := (v1.grown ((Below.refl _ _).drew)).only hR.only (fun hh => hh.elim hbv hbb)
    have y0 := vv.c0
    have y1 := vv.c1
    have y2 := vv.c2
    have y3 := vv.c3
    have y4 := vv.c4
    have y5 := vv.c5
    have y6 := vv.c6
    have y7 := vv.c7
    have y8 := vv.c8
    go_simp
    exact ⟨Grown.refl _, rfl⟩
  · intro w' hR _
    refine Or.inl ⟨rfl, ?_⟩
    go_simp
    exact ⟨Grown.refl _, rfl⟩
  · intro w' hR _
    refine Or.inl ⟨rfl, ?_⟩
    go_simp
    exact ⟨Grown.refl _, rfl⟩
  · intro w' hR _
    refine Or.inl ⟨rfl, ?_⟩
    go_simp
    exact ⟨Grown.refl _, rfl⟩
  · intro w' hR _
    refine Or.inl ⟨rfl, ?_⟩
    have z := hR.keep (j := o + 1) (by omega) (i1.drew.cell 1 rfl)
    go_simp
    exact ⟨Grown.refl _, rfl⟩
  · intro w' hR _
    refine Or.inl ⟨rfl, ?_⟩
    go_simp
    refine (lopen_any (κ : Int) _ (by omega) (by omega)).mono ?_
    rintro e w'' ⟨rfl, rfl⟩
    exact ⟨_, rfl, Grown.refl _, congrArg (Value.int .i64) (by omega)⟩
  · intro w' hR _ hP
    refine Or.inl ⟨rfl, ?_⟩
    go_simp
    refine (eload_in (s := s) hP.1 _ _ _ _ _ _ _ _ (2 + κ) hn).mono ?_
    rintro e w'' ⟨rfl, m2, o2⟩
    rw [HX.out] at m2
    exact ⟨_, rfl, ⟨OnlyBut.ofOnly o2 hb, m2, hP.2.only o2 hb⟩, by simp [Want.pred, HX.out]⟩
  · intro w' hR _
    refine Or.inl ⟨rfl, ?_⟩
    go_simp
    exact ⟨Grown.refl _, rfl⟩
  · intro w' hR _
    refine Or.inl ⟨rfl, ?_⟩
    go_simp
    exact ⟨Grown.refl _, rfl⟩
  · intro w' hR _ hP
    refine Or.inl ⟨rfl, ?_⟩
    have z0 := hP.2.cell 2 rfl
    have z1 := hP.2.fz
    go_simp
    exact ⟨⟨OnlyBut.set _ _, hP.1.setIn hb _ _, hP.2.set 2 _⟩, trivial⟩
  intro v w2 hR hP _
  obtain ⟨m2, i2⟩ : MemAt w2 L ((s.by who).step (2 + κ) 0) ∧ At w2 b o T (cs.setIfInBounds (o + 2) (.int .u64 0)) (PlV 0 κ 0 ch ws sa sb) := hP
  have o2 : Only (L.and b) w w2 := o1.drew.trans hR.only
  have v2 := (v1.grown ((Below.refl _ _).drew)).only hR.only (fun hh => hh.elim hbv hbb)
  have s2 : Same o 7 cs (cs.setIfInBounds (o + 2) (.int .u64 0)) := Same.refl.set (by omega) _
  clear hR o1 v1 m1 i1
  go_wp2
  have e0 := fun N : Later w2 => (v2.grown N.below).c0
  have e1 := fun N : Later w2 => (v2.grown N.below).c1
  have e2 := fun N : Later w2 => (v2.grown N.below).c2
  have e3 := fun N : Later w2 => (v2.grown N.below).c3
  have e4 := fun N : Later w2 => (v2.grown N.below).c4
  have e5 := fun N : Later w2 => (v2.grown N.below).c5
  have e6 := fun N : Later w2 => (v2.grown N.below).c6
  have e7 := fun N : Later w2 => (v2.grown N.below).c7
  have e8 := fun N : Later w2 => (v2.grown N.below).c8
  have f2 := fun N : Later w2 => (i2.grown N.below).cell 2 rfl
  haveI := Later.exists w2
  refine wp_region_later (by kernel_rfl) (by kernel_rfl) ?_
  repeat (go_big_quiet_step (fail))
  refine wpQuiet_nil ?_
  rintro _ ⟨nq, rfl⟩
  clear e0 e1 e2 e3 e4 e5 e6 e7 e8 f2
  have i4 := i2.grown nq.below
  have m4 := m2.below nq.below
  have v4 := v2.grown nq.below
  have o4 : Only (L.and b) w nq.now := o2.trans (Only.ofGrown nq.below)
  clear i2 m2 o2 v2
  have k0 := i4.cell0 rfl
  have k2 := i4.cell 2 rfl
  have k3 := i4.cell 3 rfl
  have kf := i4.fz
  have y0 := v4.c0
  have y1 := v4.c1
  have y2 := v4.c2
  have y3 := v4.c3
  have y4 := v4.c4
  have y5 := v4.c5
  have y6 := v4.c6
  have y7 := v4.c7
  have y8 := v4.c8
  go_wp2_with (go_at_call 81; refine (plook_any m4 hb i4 _ _ _ _ _ _ _ _ 0 nx' hnx).mono ?_; rintro e w5 ⟨rfl, m5, o5, cs5, i5, s5⟩)
  refine bodyPost_ret (results_none rfl _ _ _) rfl ?_
  exact ⟨rfl, m5, o4.trans o5, cs5, i5, s2.trans s5⟩

end Go.Proofs.Ytocmkmeikcejjaa
