/- One who wants words: the word of a chunk is loaded. -/
import Derived.Test.YtocmkmeikcejjaaPlaceStep
namespace Go.Proofs.Ytocmkmeikcejjaa
open Go.RowKit

/-- what an exchange of a word comes to -/
def CasTo (s : Mm) (A : Nat) (Z X : Int) (d : Bool) (nv : Int) : Prop := (s.wd A = Z ∧ d = true ∧ nv = X) ∨ (¬ s.wd A = Z ∧ d = false ∧ nv = s.wd A)
theorem CasTo.cas {s : Mm} {A : Nat} {Z X nv : Int} {d : Bool} (h : CasTo s A Z X d nv) (who : Int) : (s.by who).cas A Z X = (s.by who).step A nv ∧ decide (s.wd A = Z) = d := by
  rcases h with ⟨e, rfl, rfl⟩ | ⟨e, rfl, rfl⟩
  · exact ⟨if_pos e, decide_eq_true e⟩
  · exact ⟨if_neg e, decide_eq_false e⟩


theorem plookup_yes {w : World} {L : Loc} {s : Mm} {b o : Nat} {T : TypeId} {cs : Array Value} {sn ws sa sb : Int} {ch κ : Nat} (h : MemAt w L s) (hb : ¬ L.has b) (hi : At w b o T cs (PlV 3 κ sn ch ws sa sb)) (c0 c1 c2 c3 c4 c5 c6 who : Int) (A : Nat) (ar : Arena c0 c1 c2 c3) (hch : ch ≤ 1000000) (hA : 6 + c0 + c1 * 2 + (ch : Int) * 3 = A) (hn : A < s.n) (C : Ck) (σ : Nat) (hC : C.ok σ) (hσ : σ ≤ 1000000) (hw : s.wd A = C.w) (hst : C.st = 0) :
    Calls Try.prog 71 #[.pointer (some ⟨b, o, none⟩), .agg #[.int .i64 c0, .int .i64 c1, .int .i64 c2, .int .i64 c3, .int .i64 c4, .int .i64 c5, .int .i64 c6, .pointer (some ⟨L.p, 0, none⟩), .int .i64 who]] w fun e w' => e = .returned (.tuple #[]) ∧ MemAt w' L ((s.by who).step A (s.wd A)) ∧ Only (L.and b) w w' ∧ ∃ cs', At w' b o T cs' (PlV 4 κ sn ch C.w sa sb) ∧ Same o 7 cs cs' := by
  have hbv : ¬ L.has w.heap.size := fun hh => by have := h.lt _ hh; omega
  have hbb : ¬ w.heap.size = b := fun hh => by have := hi.lt; omega
  have HA : Hid (6 + c0 + c1 * 2 + (ch : Int) * 3 = A) := hA
  have cw := fun w => chunk_w C σ hC (by omega) w
  rw [hw]
  obtain ⟨Z, hZ⟩ : ∃ Z, C.w = Z := ⟨_, rfl⟩
  rw [hZ] at cw hw ⊢
  have HX : Hid (s.wd A = Z) := hw
  clear hw hA
  have fl : ∀ (a1 a2 a3 a4 : Value) (w : World), (Instr.field 59 (.agg #[a1, a2, a3, a4]) 0).run Try.prog w = .ok a1 w := fun a1 a2 a3 a4 w => by kernel_rfl
  rw [hst] at cw
  go_enter Try.func71, Try.ntmps71
  go_wp2
  refine wp_over (fun W => MemAt W L s ∧ At W b o T cs (PlV 3 κ sn ch ws sa sb) ∧ BoxV W w.heap.size c0 c1 c2 c3 c4 c5 c6 L.p who ∧ Only (L.and b) w W) ⟨h.alloc _, hi.grown (grow_alloc (Below.refl _ _) _), BoxV.new, (Only.refl _ _).alloc _⟩ ?_
  rintro W ⟨m1, i1, v1, o1⟩
  refine wp_region_phase (OnlyBut L b (o + 4)) Grown (phAt L b o T cs (cs.setIfInBounds (o + 4) (.int .u64 Z)) s ((s.by who).step A Z) (PlV 3 κ sn ch ws sa sb) (PlV 3 κ sn ch Z sa sb)) [5, 8] [.val (.pointer (some ⟨b, o, none⟩)), .val (.agg #[.int .i64 c0, .int .i64 c1, .int .i64 c2, .int .i64 c3, .int .i64 c4, .int .i64 c5, .int .i64 c6, .pointer (some ⟨L.p, 0, none⟩), .int .i64 who]), .val (.pointer (some ⟨b, o, none⟩)), .val (.agg #[.int .i64 c0, .int .i64 c1, .int .i64 c2, .int .i64 c3, .int .i64 c4, .int .i64 c5, .int .i64 c6, .pointer (some ⟨L.p, 0, none⟩), .int .i64 who]), .val (.int .i64 A), .val (.int .u64 Z), .val (.pointer (some ⟨b, o, none⟩)), .val (.pointer (some ⟨b, o + 4, none⟩)), .that (fun _ _ => True) (fun _ _ _ _ _ => trivial)]
    (by kernel_rfl) OnlyBut.refl OnlyBut.trans OnlyBut.ofGrown phAt_grown ⟨m1.drew, i1.drew⟩ (by kernel_rfl) (by kernel_rfl) (by kernel_rfl) (by kernel_rfl) (by kernel_rfl) ?_
  simp only [phaseAll, Act.put, List.setIfInBounds_toArray, List.set_cons_zero, List.set_cons_succ]
  refine ⟨?_, ?_, ?_, ?_, ?_, ?_, ?_, ?_, ?_, ?_⟩
  · intro w' hR _
    refine Or.inl ⟨rfl, ?_⟩
    go_simp
    exact ⟨Grown.refl _, rfl⟩
  · intro w' hR _
    refine Or.inl ⟨rfl, ?_⟩
    have vv := (v1.grown ((Below.refl _ _).drew)).only hR.only (fun hh => hh.elim hbv hbb)
    have y0 := vv.c0
    have y1 := vv.c1
    have y2 := vv.c2
    have y3 := vv.c3
    have y4 := vv.c4
    have y5 := vv.c5
    have y6 := vv.c6
    have y7 := vv.c7
    have y8 := vv.c8
    go_simp
    exact ⟨Grown.refl _, rfl⟩
  · intro w' hR _
    refine Or.inl ⟨rfl, ?_⟩
    go_simp
    exact ⟨Grown.refl _, rfl⟩
  · intro w' hR _
    refine Or.inl ⟨rfl, ?_⟩
    have vv := (v1.grown ((Below.refl _ _).drew)).only hR.only (fun hh => hh.elim hbv hbb)
    have y0 := vv.c0
    have y1 := vv.c1
    have y2 := vv.c2
    have y3 := vv.c3
    have y4 := vv.c4
    have y5 := vv.c5
    have y6 := vv.c6
    have y7 := vv.c7
    have y8 := vv.c8
    go_simp
    exact ⟨Grown.refl _, rfl⟩
  · intro w' hR _
    refine Or.inl ⟨rfl, ?_⟩
    go_simp
    refine (pat_any (hR.keep (j := o + 3) (by omega) (i1.drew.cell 3 rfl)) _ _ _ _ _ _ _ _ A ar hch HA.out).mono ?_
    rintro e w'' ⟨rfl, b9⟩
    exact ⟨_, rfl, b9, rfl⟩
  · intro w' hR _ hP
    refine Or.inl ⟨rfl, ?_⟩
    go_simp
    refine (eload_in (s := s) hP.1 _ _ _ _ _ _ _ _ A hn).mono ?_
    rintro e w'' ⟨rfl, m2, o2⟩
    rw [HX.out] at m2
    exact ⟨_, rfl, ⟨OnlyBut.ofOnly o2 hb, m2, hP.2.only o2 hb⟩, by simp [Want.pred, HX.out]⟩
  · intro w' hR _
    refine Or.inl ⟨rfl, ?_⟩
    go_simp
    exact ⟨Grown.refl _, rfl⟩
  · intro w' hR _
    refine Or.inl ⟨rfl, ?_⟩
    go_simp
    exact ⟨Grown.refl _, rfl⟩
  · intro w' hR _ hP
    refine Or.inl ⟨rfl, ?_⟩
    have z0 := hP.2.cell 4 rfl
    have z1 := hP.2.fz
    go_simp
    exact ⟨⟨OnlyBut.set _ _, hP.1.setIn hb _ _, hP.2.set 4 _⟩, trivial⟩
  intro v w2 hR hP _
  obtain ⟨m2, i2⟩ : MemAt w2 L ((s.by who).step A Z) ∧ At w2 b o T (cs.setIfInBounds (o + 4) (.int .u64 Z)) (PlV 3 κ sn ch Z sa sb) := hP
  have o2 : Only (L.and b) w w2 := o1.drew.trans hR.only
  have v2 := (v1.grown ((Below.refl _ _).drew)).only hR.only (fun hh => hh.elim hbv hbb)
  have s2 : Same o 7 cs (cs.setIfInBounds (o + 4) (.int .u64 Z)) := Same.refl.set (by omega) _
  clear hR o1 v1 m1 i1
  have k4 := i2.cell 4 rfl
  go_wp2_with (go_at_call 20; refine (cw _).mono ?_; rintro e w3 ⟨rfl, b3⟩; have i4 := i2.grown b3; have m4 := m2.below b3; have v4 := v2.grown b3; have o4 := o2.trans (Only.ofGrown b3); have k0 := i4.cell0 rfl; have kf := i4.fz)
  go_end0
  exact ⟨rfl, m4.setIn hb _ _, o4.set _ _, _, i4.set0 _, s2.set (j := o) (by omega) _⟩

theorem plookup_no {w : World} {L : Loc} {s : Mm} {b o : Nat} {T : TypeId} {cs : Array Value} {sn ws sa sb : Int} {ch κ : Nat} (h : MemAt w L s) (hb : ¬ L.has b) (hi : At w b o T cs (PlV 3 κ sn ch ws sa sb)) (c0 c1 c2 c3 c4 c5 c6 who : Int) (A : Nat) (ar : Arena c0 c1 c2 c3) (hch : ch ≤ 1000000) (hA : 6 + c0 + c1 * 2 + (ch : Int) * 3 = A) (hn : A < s.n) (C : Ck) (σ : Nat) (hC : C.ok σ) (hσ : σ ≤ 1000000) (hw : s.wd A = C.w) (hst : ¬ C.st = 0) (nx' : Int) (hnx : (if c2 ≤ (ch : Int) + 1 then 8 else 3) = nx') :
    Calls Try.prog 71 #[.pointer (some ⟨b, o, none⟩), .agg #[.int .i64 c0, .int .i64 c1, .int .i64 c2, .int .i64 c3, .int .i64 c4, .int .i64 c5, .int .i64 c6, .pointer (some ⟨L.p, 0, none⟩), .int .i64 who]] w fun e w' => e = .returned (.tuple #[]) ∧ MemAt w' L ((s.by who).step A (s.wd A)) ∧ Only (L.and b) w w' ∧ ∃ cs', At w' b o T cs' (PlV nx' κ sn ((ch : Int) + 1) C.w sa sb) ∧ Same o 7 cs cs' := by
  have hbv : ¬ L.has w.heap.size := fun hh => by have := h.lt _ hh; omega
  have hbb : ¬ w.heap.size = b := fun hh => by have := hi.lt; omega
  have HA : Hid (6 + c0 + c1 * 2 + (ch : Int) * 3 = A) := hA
  have cw := fun w => chunk_w C σ hC (by omega) w
  rw [hw]
  obtain ⟨Z, hZ⟩ : ∃ Z, C.w = Z := ⟨_, rfl⟩
  rw [hZ] at cw hw ⊢
  have HX : Hid (s.wd A = Z) := hw
  clear hw hA
  have fl : ∀ (a1 a2 a3 a4 : Value) (w : World), (Instr.field 59 (.agg #[a1, a2, a3, a4]) 0).run Try.prog w = .ok a1 w := fun a1 a2 a3 a4 w => by kernel_rfl
  have hst' : ¬ (C.st : Int) = 0 := by omega
  have hst2 : ((C.st : Int) != 0) = true := by simp; omega
  clear hst
  go_enter Try.func71, Try.ntmps71
  go_wp2
  refine wp_over (fun W => MemAt W L s ∧ At W b o T cs (PlV 3 κ sn ch ws sa sb) ∧ BoxV W w.heap.size c0 c1 c2 c3 c4 c5 c6 L.p who ∧ Only (L.and b) w W) ⟨h.alloc _, hi.grown (grow_alloc (Below.refl _ _) _), BoxV.new, (Only.refl _ _).alloc _⟩ ?_
  rintro W ⟨m1, i1, v1, o1⟩
  refine wp_region_phase (OnlyBut L b (o + 4)) Grown (phAt L b o T cs (cs.setIfInBounds (o + 4) (.int .u64 Z)) s ((s.by who).step A Z) (PlV 3 κ sn ch ws sa sb) (PlV 3 κ sn ch Z sa sb)) [5, 8] [.val (.pointer (some ⟨b, o, none⟩)), .val (.agg #[.int .i64 c0, .int .i64 c1, .int .i64 c2, .int .i64 c3, .int .i64 c4, .int .i64 c5, .int .i64 c6, .pointer (some ⟨L.p, 0, none⟩), .int .i64 who]), .val (.pointer (some ⟨b, o, none⟩)), .val (.agg #[.int .i64 c0, .int .i64 c1, .int .i64 c2, .int .i64 c3, .int .i64 c4, .int .i64 c5, .int .i64 c6, .pointer (some ⟨L.p, 0, none⟩), .int .i64 who]), .val (.int .i64 A), .val (.int .u64 Z), .val (.pointer (some ⟨b, o, none⟩)), .val (.pointer (some ⟨b, o + 4, none⟩)), .that (fun _ _ => True) (fun _ _ _ _ _ => trivial)]
    (by kernel_rfl) OnlyBut.refl OnlyBut.trans OnlyBut.ofGrown phAt_grown ⟨m1.drew, i1.drew⟩ (by kernel_rfl) (by kernel_rfl) (by kernel_rfl) (by kernel_rfl) (by kernel_rfl) ?_
  simp only [phaseAll, Act.put, List.setIfInBounds_toArray, List.set_cons_zero, List.set_cons_succ]
  refine ⟨?_, ?_, ?_, ?_, ?_, ?_, ?_, ?_, ?_, ?_⟩
  · intro w' hR _
    refine Or.inl ⟨rfl, ?_⟩
    go_simp
    exact ⟨Grown.refl _, rfl⟩
  · intro w' hR _
    refine Or.inl ⟨rfl, ?_⟩
    have vv := (v1.grown ((Below.refl _ _).drew)).only hR.only (fun hh => hh.elim hbv hbb)
    have y0 := vv.c0
    have y1 := vv.c1
    have y2 := vv.c2
    have y3 := vv.c3
    have y4 := vv.c4
    have y5 := vv.c5
    have y6 := vv.c6
    have y7 := vv.c7
    have y8 := vv.c8
    go_simp
    exact ⟨Grown.refl _, rfl⟩
  · intro w' hR _
    refine Or.inl ⟨rfl, ?_⟩
    go_simp
    exact ⟨Grown.refl _, rfl⟩
  · intro w' hR _
    refine Or.inl ⟨rfl, ?_⟩
    have vv := (v1.grown ((Below.refl _ _).drew)).only hR.only (fun hh => hh.elim hbv hbb)
    have y0 := vv.c0
    have y1 := vv.c1
    have y2 := vv.c2
    have y3 := vv.c3
    have y4 := vv.c4
    have y5 := vv.c5
    have y6 := vv.c6
    have y7 := vv.c7
    have y8 := vv.c8
    go_simp
    exact ⟨Grown.refl _, rfl⟩
  · intro w' hR _
    refine Or.inl ⟨rfl, ?_⟩
    go_simp
    refine (pat_any (hR.keep (j := o + 3) (by omega) (i1.drew.cell 3 rfl)) _ _ _ _ _ _ _ _ A ar hch HA.out).mono ?_
    rintro e w'' ⟨rfl, b9⟩
    exact ⟨_, rfl, b9, rfl⟩
  · intro w' hR _ hP
    refine Or.inl ⟨rfl, ?_⟩
    go_simp
    refine (eload_in (s := s) hP.1 _ _ _ _ _ _ _ _ A hn).mono ?_
    rintro e w'' ⟨rfl, m2, o2⟩
    rw [HX.out] at m2
    exact ⟨_, rfl, ⟨OnlyBut.ofOnly o2 hb, m2, hP.2.only o2 hb⟩, by simp [Want.pred, HX.out]⟩
  · intro w' hR _
    refine Or.inl ⟨rfl, ?_⟩
    go_simp
    exact ⟨Grown.refl _, rfl⟩
  · intro w' hR _
    refine Or.inl ⟨rfl, ?_⟩
    go_simp
    exact ⟨Grown.refl _, rfl⟩
  · intro w' hR _ hP
    refine Or.inl ⟨rfl, ?_⟩
    have z0 := hP.2.cell 4 rfl
    have z1 := hP.2.fz
    go_simp
    exact ⟨⟨OnlyBut.set _ _, hP.1.setIn hb _ _, hP.2.set 4 _⟩, trivial⟩
  intro v w2 hR hP _
  obtain ⟨m2, i2⟩ : MemAt w2 L ((s.by who).step A Z) ∧ At w2 b o T (cs.setIfInBounds (o + 4) (.int .u64 Z)) (PlV 3 κ sn ch Z sa sb) := hP
  have o2 : Only (L.and b) w w2 := o1.drew.trans hR.only
  have v2 := (v1.grown ((Below.refl _ _).drew)).only hR.only (fun hh => hh.elim hbv hbb)
  have s2 : Same o 7 cs (cs.setIfInBounds (o + 4) (.int .u64 Z)) := Same.refl.set (by omega) _
  clear hR o1 v1 m1 i1
  have k4 := i2.cell 4 rfl
  go_wp2_with (go_at_call 20; refine (cw _).mono ?_; rintro e w3 ⟨rfl, b3⟩; have i4 := i2.grown b3; have m4 := m2.below b3; have v4 := v2.grown b3; have o4 := o2.trans (Only.ofGrown b3); have k0 := i4.cell0 rfl; have kf := i4.fz)
  refine wp_over (fun W => MemAt W L ((s.by who).step A Z) ∧ At W b o T (cs.setIfInBounds (o + 4) (.int .u64 Z)) (PlV 3 κ sn ch Z sa sb) ∧ BoxV W w.heap.size c0 c1 c2 c3 c4 c5 c6 L.p who ∧ Only (L.and b) w W) ⟨m4, i4, v4, o4⟩ ?_
  clear m2 i2 v2 o2 k4 b3 i4 m4 v4 o4 k0 kf
  rintro W ⟨m1, i1, v1, o1⟩
  refine wp_region_rely_tail Grown 7 [.val (.pointer (some ⟨b, o, none⟩)), .val (.agg #[.int .i64 c0, .int .i64 c1, .int .i64 c2, .int .i64 c3, .int .i64 c4, .int .i64 c5, .int .i64 c6, .pointer (some ⟨L.p, 0, none⟩), .int .i64 who]), .val (.pointer (some ⟨b, o, none⟩)), .val (.pointer (some ⟨b, o, none⟩)), .val (.pointer (some ⟨b, o + 3, none⟩)), .val (.int .i64 ch), .val (.int .i64 ((ch : Int) + 1))] (by kernel_rfl) Grown.refl Grown.trans (by decide) (by kernel_rfl) (by kernel_rfl) (by kernel_rfl) (by kernel_rfl) (by kernel_rfl) (by kernel_rfl) ?_
  simp only [List.take_succ_cons, List.take_zero, relyAll, Act.put, List.setIfInBounds_toArray, List.set_cons_zero, List.set_cons_succ]
  refine ⟨?_, ?_, ?_, ?_, ?_, ?_, ?_, ?_⟩
  · intro w' hg _
    refine Or.inl ⟨rfl, ?_⟩
    go_simp
    exact ⟨Grown.refl _, rfl⟩
  · intro w' hg _
    refine Or.inl ⟨rfl, ?_⟩
    have vv := (v1.grown ((Below.refl _ _).drew)).grown hg
    have y0 := vv.c0
    have y1 := vv.c1
    have y2 := vv.c2
    have y3 := vv.c3
    have y4 := vv.c4
    have y5 := vv.c5
    have y6 := vv.c6
    have y7 := vv.c7
    have y8 := vv.c8
    go_simp
    exact ⟨Grown.refl _, rfl⟩
  · intro w' hg _
    refine Or.inl ⟨rfl, ?_⟩
    go_simp
    exact ⟨Grown.refl _, rfl⟩
  · intro w' hg _
    refine Or.inl ⟨rfl, ?_⟩
    go_simp
    exact ⟨Grown.refl _, rfl⟩
  · intro w' hg _
    refine Or.inl ⟨rfl, ?_⟩
    go_simp
    exact ⟨Grown.refl _, rfl⟩
  · intro w' hg _
    refine Or.inl ⟨rfl, ?_⟩
    have z := (i1.drew.grown hg).cell 3 rfl
    go_simp
    exact ⟨Grown.refl _, rfl⟩
  · intro w' hg _
    refine Or.inl ⟨rfl, ?_⟩
    go_simp
    exact ⟨Grown.refl _, by simp only [Want.pred]; rw [IntKind.wrap_i64]; exact congrArg (Value.int .i64) (by omega)⟩
  intro w5 hg _
  have m5 := m1.drew.below hg
  have i5 := i1.drew.grown hg
  have v5 := (v1.grown ((Below.refl _ _).drew)).grown hg
  have o5 : Only (L.and b) w w5 := o1.drew.trans (Only.ofGrown hg)
  clear hg m1 i1 v1 o1
  go_wp2_with (go_at_call 81; refine (plook_any m5 hb i5 _ _ _ _ _ _ _ _ _ nx' hnx).mono ?_; rintro e w6 ⟨rfl, m6, o6, cs6, i6, s6⟩)
  refine bodyPost_ret (results_none rfl _ _ _) rfl ?_
  exact ⟨rfl, m6, o5.trans o6, cs6, i6, s2.trans s6⟩

end Go.Proofs.Ytocmkmeikcejjaa
