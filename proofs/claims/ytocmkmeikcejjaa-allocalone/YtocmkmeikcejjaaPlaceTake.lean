/- One who wants words: a chunk is taken, opened, made free again. -/
import Derived.Test.YtocmkmeikcejjaaPlaceLook
namespace Go.Proofs.Ytocmkmeikcejjaa
open Go.RowKit

theorem ptake_yes {w : World} {L : Loc} {s : Mm} {b o : Nat} {T : TypeId} {cs : Array Value} {sn sa sb : Int} {ch κ : Nat} (h : MemAt w L s) (hb : ¬ L.has b) (C : Ck) (hi : At w b o T cs (PlV 4 κ sn ch C.w sa sb)) (c0 c1 c2 c3 c4 c5 c6 who : Int) (A : Nat) (ar : Arena c0 c1 c2 c3) (hch : ch ≤ 1000000) (hA : 6 + c0 + c1 * 2 + (ch : Int) * 3 = A) (hn : A < s.n) (σ : Nat) (hC : C.ok σ) (hσ : σ ≤ 1000000) (hκ : κ < 4) (hw : s.wd A = C.w)  :
    Calls Try.prog 72 #[.pointer (some ⟨b, o, none⟩), .agg #[.int .i64 c0, .int .i64 c1, .int .i64 c2, .int .i64 c3, .int .i64 c4, .int .i64 c5, .int .i64 c6, .pointer (some ⟨L.p, 0, none⟩), .int .i64 who]] w fun e w' => e = .returned (.tuple #[]) ∧ MemAt w' L ((s.by who).step A (⟨1, κ, 0, C.sp + 1⟩ : Ck).w) ∧ Only (L.and b) w w' ∧ ∃ cs', At w' b o T cs' (PlV 5 κ sn ch (⟨1, κ, 0, C.sp + 1⟩ : Ck).w sa sb) ∧ Same o 7 cs cs' := by
  have hbv : ¬ L.has w.heap.size := fun hh => by have := h.lt _ hh; omega
  have hbb : ¬ w.heap.size = b := fun hh => by have := hi.lt; omega
  have HA : Hid (6 + c0 + c1 * 2 + (ch : Int) * 3 = A) := hA
  have HW : Hid (s.wd A = C.w) := hw
  have HC : Hid (C.ok σ) := hC
  clear hw hA hC
  go_enter Try.func72, Try.ntmps72
  go_wp2
  refine wp_over (fun W => MemAt W L s ∧ At W b o T cs (PlV 4 κ sn ch C.w sa sb) ∧ BoxV W w.heap.size c0 c1 c2 c3 c4 c5 c6 L.p who ∧ Only (L.and b) w W) ⟨h.alloc _, hi.grown (grow_alloc (Below.refl _ _) _), BoxV.new, (Only.refl _ _).alloc _⟩ ?_
  rintro W ⟨m1, i1, v1, o1⟩
  refine wp_region_rely_tail Grown 7 [.val (.pointer (some ⟨b, o, none⟩)), .val (.agg #[.int .i64 c0, .int .i64 c1, .int .i64 c2, .int .i64 c3, .int .i64 c4, .int .i64 c5, .int .i64 c6, .pointer (some ⟨L.p, 0, none⟩), .int .i64 who]), .val (.pointer (some ⟨b, o, none⟩)), .val (.pointer (some ⟨b, o, none⟩)), .val (.pointer (some ⟨b, o + 1, none⟩)), .val (.int .i64 κ), .val (.agg #[.int .i64 1, .int .i64 κ, .int .i64 0, .int .i64 0])] (by kernel_rfl) Grown.refl Grown.trans (by decide) (by kernel_rfl) (by kernel_rfl) (by kernel_rfl) (by kernel_rfl) (by kernel_rfl) (by kernel_rfl) ?_
  simp only [List.take_succ_cons, List.take_zero, relyAll, Act.put, List.setIfInBounds_toArray, List.set_cons_zero, List.set_cons_succ]
  refine ⟨?_, ?_, ?_, ?_, ?_, ?_, ?_, ?_⟩
  · intro w' hg _
    refine Or.inl ⟨rfl, ?_⟩
    go_simp
    exact ⟨Grown.refl _, rfl⟩
  · intro w' hg _
    refine Or.inl ⟨rfl, ?_⟩
    have vv := (v1.grown ((Below.refl _ _).drew)).grown hg
    have y0 := vv.c0
    have y1 := vv.c1
    have y2 := vv.c2
    have y3 := vv.c3
    have y4 := vv.c4
    have y5 := vv.c5
    have y6 := vv.c6
    have y7 := vv.c7
    have y8 := vv.c8
    go_simp
    exact ⟨Grown.refl _, rfl⟩
  · intro w' hg _
    refine Or.inl ⟨rfl, ?_⟩
    go_simp
    exact ⟨Grown.refl _, rfl⟩
  · intro w' hg _
    refine Or.inl ⟨rfl, ?_⟩
    go_simp
    exact ⟨Grown.refl _, rfl⟩
  · intro w' hg _
    refine Or.inl ⟨rfl, ?_⟩
    go_simp
    exact ⟨Grown.refl _, rfl⟩
  · intro w' hg _
    refine Or.inl ⟨rfl, ?_⟩
    have z := (i1.drew.grown hg).cell 1 rfl
    go_simp
    exact ⟨Grown.refl _, rfl⟩
  · intro w' hg _
    refine Or.inl ⟨rfl, ?_⟩
    go_simp
    exact ⟨Grown.refl _, rfl⟩
  intro w5 hg _
  have m5 := m1.drew.below hg
  have i5 := i1.drew.grown hg
  have v5 := (v1.grown ((Below.refl _ _).drew)).grown hg
  have o5 : Only (L.and b) w w5 := o1.drew.trans (Only.ofGrown hg)
  clear hg m1 i1 v1 o1
  go_wp2_with (go_at_call 84; refine (pturn_any m5 hb C i5 _ _ _ _ _ _ _ _ A ar hch HA.out hn 1 κ σ HC.out ⟨by omega, by omega⟩ hσ true (decide_eq_true HW.out)).mono ?_; rintro e w6 ⟨rfl, m6, o6, cs6, i6, s6⟩; rw [show (s.by who).cas A C.w (⟨1, κ, 0, C.sp + 1⟩ : Ck).w = (s.by who).step A (⟨1, κ, 0, C.sp + 1⟩ : Ck).w from if_pos HW.out] at m6; have k0 := i6.cell0 rfl; have kf := i6.fz)
  go_end0
  exact ⟨rfl, m6.setIn hb _ _, (o5.trans o6).set _ _, _, i6.set0 _, s6.set (j := o) (by omega) _⟩

theorem ptake_no {w : World} {L : Loc} {s : Mm} {b o : Nat} {T : TypeId} {cs : Array Value} {sn sa sb : Int} {ch κ : Nat} (h : MemAt w L s) (hb : ¬ L.has b) (C : Ck) (hi : At w b o T cs (PlV 4 κ sn ch C.w sa sb)) (c0 c1 c2 c3 c4 c5 c6 who : Int) (A : Nat) (ar : Arena c0 c1 c2 c3) (hch : ch ≤ 1000000) (hA : 6 + c0 + c1 * 2 + (ch : Int) * 3 = A) (hn : A < s.n) (σ : Nat) (hC : C.ok σ) (hσ : σ ≤ 1000000) (hκ : κ < 4) (hw : ¬ s.wd A = C.w) (nx' : Int) (hnx : (if c2 ≤ (ch : Int) + 1 then 8 else 3) = nx') :
    Calls Try.prog 72 #[.pointer (some ⟨b, o, none⟩), .agg #[.int .i64 c0, .int .i64 c1, .int .i64 c2, .int .i64 c3, .int .i64 c4, .int .i64 c5, .int .i64 c6, .pointer (some ⟨L.p, 0, none⟩), .int .i64 who]] w fun e w' => e = .returned (.tuple #[]) ∧ MemAt w' L ((s.by who).step A (s.wd A)) ∧ Only (L.and b) w w' ∧ ∃ cs', At w' b o T cs' (PlV nx' κ sn ((ch : Int) + 1) (⟨1, κ, 0, C.sp + 1⟩ : Ck).w sa sb) ∧ Same o 7 cs cs' := by
  have hbv : ¬ L.has w.heap.size := fun hh => by have := h.lt _ hh; omega
  have hbb : ¬ w.heap.size = b := fun hh => by have := hi.lt; omega
  have HA : Hid (6 + c0 + c1 * 2 + (ch : Int) * 3 = A) := hA
  have HW : Hid (¬ s.wd A = C.w) := hw
  have HC : Hid (C.ok σ) := hC
  clear hw hA hC
  go_enter Try.func72, Try.ntmps72
  go_wp2
  refine wp_over (fun W => MemAt W L s ∧ At W b o T cs (PlV 4 κ sn ch C.w sa sb) ∧ BoxV W w.heap.size c0 c1 c2 c3 c4 c5 c6 L.p who ∧ Only (L.and b) w W) ⟨h.alloc _, hi.grown (grow_alloc (Below.refl _ _) _), BoxV.new, (Only.refl _ _).alloc _⟩ ?_
  rintro W ⟨m1, i1, v1, o1⟩
  refine wp_region_rely_tail Grown 7 [.val (.pointer (some ⟨b, o, none⟩)), .val (.agg #[.int .i64 c0, .int .i64 c1, .int .i64 c2, .int .i64 c3, .int .i64 c4, .int .i64 c5, .int .i64 c6, .pointer (some ⟨L.p, 0, none⟩), .int .i64 who]), .val (.pointer (some ⟨b, o, none⟩)), .val (.pointer (some ⟨b, o, none⟩)), .val (.pointer (some ⟨b, o + 1, none⟩)), .val (.int .i64 κ), .val (.agg #[.int .i64 1, .int .i64 κ, .int .i64 0, .int .i64 0])] (by kernel_rfl) Grown.refl Grown.trans (by decide) (by kernel_rfl) (by kernel_rfl) (by kernel_rfl) (by kernel_rfl) (by kernel_rfl) (by kernel_rfl) ?_
  simp only [List.take_succ_cons, List.take_zero, relyAll, Act.put, List.setIfInBounds_toArray, List.set_cons_zero, List.set_cons_succ]
  refine ⟨?_, ?_, ?_, ?_, ?_, ?_, ?_, ?_⟩
  · intro w' hg _
    refine Or.inl ⟨rfl, ?_⟩
    go_simp
    exact ⟨Grown.refl _, rfl⟩
  · intro w' hg _
    refine Or.inl ⟨rfl, ?_⟩
    have vv := (v1.grown ((Below.refl _ _).drew)).grown hg
    have y0 := vv.c0
    have y1 := vv.c1
    have y2 := vv.c2
    have y3 := vv.c3
    have y4 := vv.c4
    have y5 := vv.c5
    have y6 := vv.c6
    have y7 := vv.c7
    have y8 := vv.c8
    go_simp
    exact ⟨Grown.refl _, rfl⟩
  · intro w' hg _
    refine Or.inl ⟨rfl, ?_⟩
    go_simp
    exact ⟨Grown.refl _, rfl⟩
  · intro w' hg _
    refine Or.inl ⟨rfl, ?_⟩
    go_simp
    exact ⟨Grown.refl _, rfl⟩
  · intro w' hg _
    refine Or.inl ⟨rfl, ?_⟩
    go_simp
    exact ⟨Grown.refl _, rfl⟩
  · intro w' hg _
    refine Or.inl ⟨rfl, ?_⟩
    have z := (i1.drew.grown hg).cell 1 rfl
    go_simp
    exact ⟨Grown.refl _, rfl⟩
  · intro w' hg _
    refine Or.inl ⟨rfl, ?_⟩
    go_simp
    exact ⟨Grown.refl _, rfl⟩
  intro w5 hg _
  have m5 := m1.drew.below hg
  have i5 := i1.drew.grown hg
  have v5 := (v1.grown ((Below.refl _ _).drew)).grown hg
  have o5 : Only (L.and b) w w5 := o1.drew.trans (Only.ofGrown hg)
  clear hg m1 i1 v1 o1
  go_wp2_with (go_at_call 84; refine (pturn_any m5 hb C i5 _ _ _ _ _ _ _ _ A ar hch HA.out hn 1 κ σ HC.out ⟨by omega, by omega⟩ hσ false (decide_eq_false HW.out)).mono ?_; rintro e w6 ⟨rfl, m6, o6, cs6, i6, s6⟩; rw [show (s.by who).cas A C.w (⟨1, κ, 0, C.sp + 1⟩ : Ck).w = (s.by who).step A (s.wd A) from if_neg HW.out] at m6; have k0 := i6.cell0 rfl; have kf := i6.fz)
  refine wp_over (fun W => MemAt W L ((s.by who).step A (s.wd A)) ∧ At W b o T cs6 (PlV 4 κ sn ch (⟨1, κ, 0, C.sp + 1⟩ : Ck).w sa sb) ∧ BoxV W w.heap.size c0 c1 c2 c3 c4 c5 c6 L.p who ∧ Only (L.and b) w W) ⟨m6, i6, v5.only o6 (fun hh => hh.elim hbv hbb), o5.trans o6⟩ ?_
  clear m5 i5 v5 o5 m6 i6 o6 k0 kf
  rintro W ⟨m1, i1, v1, o1⟩
  refine wp_region_rely_tail Grown 7 [.val (.pointer (some ⟨b, o, none⟩)), .val (.agg #[.int .i64 c0, .int .i64 c1, .int .i64 c2, .int .i64 c3, .int .i64 c4, .int .i64 c5, .int .i64 c6, .pointer (some ⟨L.p, 0, none⟩), .int .i64 who]), .val (.pointer (some ⟨b, o, none⟩)), .val (.pointer (some ⟨b, o, none⟩)), .val (.pointer (some ⟨b, o + 3, none⟩)), .val (.int .i64 ch), .val (.int .i64 ((ch : Int) + 1))] (by kernel_rfl) Grown.refl Grown.trans (by decide) (by kernel_rfl) (by kernel_rfl) (by kernel_rfl) (by kernel_rfl) (by kernel_rfl) (by kernel_rfl) ?_
  simp only [List.take_succ_cons, List.take_zero, relyAll, Act.put, List.setIfInBounds_toArray, List.set_cons_zero, List.set_cons_succ]
  refine ⟨?_, ?_, ?_, ?_, ?_, ?_, ?_, ?_⟩
  · intro w' hg _
    refine Or.inl ⟨rfl, ?_⟩
    go_simp
    exact ⟨Grown.refl _, rfl⟩
  · intro w' hg _
    refine Or.inl ⟨rfl, ?_⟩
    have vv := (v1.grown ((Below.refl _ _).drew)).grown hg
    have y0 := vv.c0
    have y1 := vv.c1
    have y2 := vv.c2
    have y3 := vv.c3
    have y4 := vv.c4
    have y5 := vv.c5
    have y6 := vv.c6
    have y7 := vv.c7
    have y8 := vv.c8
    go_simp
    exact ⟨Grown.refl _, rfl⟩
  · intro w' hg _
    refine Or.inl ⟨rfl, ?_⟩
    go_simp
    exact ⟨Grown.refl _, rfl⟩
  · intro w' hg _
    refine Or.inl ⟨rfl, ?_⟩
    go_simp
    exact ⟨Grown.refl _, rfl⟩
  · intro w' hg _
    refine Or.inl ⟨rfl, ?_⟩
    go_simp
    exact ⟨Grown.refl _, rfl⟩
  · intro w' hg _
    refine Or.inl ⟨rfl, ?_⟩
    have z := (i1.drew.grown hg).cell 3 rfl
    go_simp
    exact ⟨Grown.refl _, rfl⟩
  · intro w' hg _
    refine Or.inl ⟨rfl, ?_⟩
    go_simp
    exact ⟨Grown.refl _, by simp only [Want.pred]; rw [IntKind.wrap_i64]; exact congrArg (Value.int .i64) (by omega)⟩
  intro w5 hg _
  have m5 := m1.drew.below hg
  have i5 := i1.drew.grown hg
  have v5 := (v1.grown ((Below.refl _ _).drew)).grown hg
  have o5 : Only (L.and b) w w5 := o1.drew.trans (Only.ofGrown hg)
  clear hg m1 i1 v1 o1
  go_wp2_with (go_at_call 81; refine (plook_any m5 hb i5 _ _ _ _ _ _ _ _ _ nx' hnx).mono ?_; rintro e w6 ⟨rfl, m7, o7, cs7, i7, s7⟩)
  refine bodyPost_ret (results_none rfl _ _ _) rfl ?_
  exact ⟨rfl, m7, o5.trans o7, cs7, i7, s6.trans s7⟩

theorem pfree_yes {w : World} {L : Loc} {s : Mm} {b o : Nat} {T : TypeId} {cs : Array Value} {ka sn sa sb : Int} {ch : Nat} (h : MemAt w L s) (hb : ¬ L.has b) (C : Ck) (hi : At w b o T cs (PlV 6 ka sn ch C.w sa sb)) (c0 c1 c2 c3 c4 c5 c6 who : Int) (A : Nat) (ar : Arena c0 c1 c2 c3) (hch : ch ≤ 1000000) (hA : 6 + c0 + c1 * 2 + (ch : Int) * 3 = A) (hn : A < s.n) (σ : Nat) (hC : C.ok σ) (hσ : σ ≤ 1000000) (hw : s.wd A = C.w) :
    Calls Try.prog 74 #[.pointer (some ⟨b, o, none⟩), .agg #[.int .i64 c0, .int .i64 c1, .int .i64 c2, .int .i64 c3, .int .i64 c4, .int .i64 c5, .int .i64 c6, .pointer (some ⟨L.p, 0, none⟩), .int .i64 who]] w fun e w' => e = .returned (.tuple #[]) ∧ MemAt w' L ((s.by who).step A (⟨0, 0, 0, C.sp + 1⟩ : Ck).w) ∧ Only (L.and b) w w' ∧ ∃ cs', At w' b o T cs' (PlV 0 ka sn ch (⟨0, 0, 0, C.sp + 1⟩ : Ck).w sa sb) ∧ Same o 7 cs cs' := by
  have hbv : ¬ L.has w.heap.size := fun hh => by have := h.lt _ hh; omega
  have hbb : ¬ w.heap.size = b := fun hh => by have := hi.lt; omega
  have HA : Hid (6 + c0 + c1 * 2 + (ch : Int) * 3 = A) := hA
  have HW : Hid (s.wd A = C.w) := hw
  have HC : Hid (C.ok σ) := hC
  clear hw hA hC
  have i1 := hi.grown (grow_alloc (Below.refl _ _) (.cells #[.int .i64 c0, .int .i64 c1, .int .i64 c2, .int .i64 c3, .int .i64 c4, .int .i64 c5, .int .i64 c6, .pointer (some ⟨L.p, 0, none⟩), .int .i64 who] 27))
  have m1 := h.alloc (.cells #[.int .i64 c0, .int .i64 c1, .int .i64 c2, .int .i64 c3, .int .i64 c4, .int .i64 c5, .int .i64 c6, .pointer (some ⟨L.p, 0, none⟩), .int .i64 who] 27)
  have o1 : Only (L.and b) w (w.alloc (.cells #[.int .i64 c0, .int .i64 c1, .int .i64 c2, .int .i64 c3, .int .i64 c4, .int .i64 c5, .int .i64 c6, .pointer (some ⟨L.p, 0, none⟩), .int .i64 who] 27)) := (Only.refl _ _).alloc _
  go_enter Try.func74, Try.ntmps74
  go_wp2_with (go_at_call 84; refine (pturn_any m1 hb C i1 _ _ _ _ _ _ _ _ A ar hch HA.out hn 0 0 σ HC.out ⟨by omega, by omega⟩ hσ true (decide_eq_true HW.out)).mono ?_; rintro e w6 ⟨rfl, m6, o6, cs6, i6, s6⟩; rw [show (s.by who).cas A C.w (⟨0, 0, 0, C.sp + 1⟩ : Ck).w = (s.by who).step A (⟨0, 0, 0, C.sp + 1⟩ : Ck).w from if_pos HW.out] at m6; have k0 := i6.cell0 rfl; have kf := i6.fz)
  go_end0
  exact ⟨rfl, m6.setIn hb _ _, (o1.trans o6).set _ _, _, i6.set0 _, s6.set (j := o) (by omega) _⟩

theorem pfree_no {w : World} {L : Loc} {s : Mm} {b o : Nat} {T : TypeId} {cs : Array Value} {ka sn sa sb : Int} {ch : Nat} (h : MemAt w L s) (hb : ¬ L.has b) (C : Ck) (hi : At w b o T cs (PlV 6 ka sn ch C.w sa sb)) (c0 c1 c2 c3 c4 c5 c6 who : Int) (A : Nat) (ar : Arena c0 c1 c2 c3) (hch : ch ≤ 1000000) (hA : 6 + c0 + c1 * 2 + (ch : Int) * 3 = A) (hn : A < s.n) (σ : Nat) (hC : C.ok σ) (hσ : σ ≤ 1000000) (hw : ¬ s.wd A = C.w) :
    Calls Try.prog 74 #[.pointer (some ⟨b, o, none⟩), .agg #[.int .i64 c0, .int .i64 c1, .int .i64 c2, .int .i64 c3, .int .i64 c4, .int .i64 c5, .int .i64 c6, .pointer (some ⟨L.p, 0, none⟩), .int .i64 who]] w fun e w' => e = .returned (.tuple #[]) ∧ MemAt w' L ((s.by who).step A (s.wd A)) ∧ Only (L.and b) w w' ∧ ∃ cs', At w' b o T cs' (PlV 0 ka sn ch (⟨0, 0, 0, C.sp + 1⟩ : Ck).w sa sb) ∧ Same o 7 cs cs' := by
  have hbv : ¬ L.has w.heap.size := fun hh => by have := h.lt _ hh; omega
  have hbb : ¬ w.heap.size = b := fun hh => by have := hi.lt; omega
  have HA : Hid (6 + c0 + c1 * 2 + (ch : Int) * 3 = A) := hA
  have HW : Hid (¬ s.wd A = C.w) := hw
  have HC : Hid (C.ok σ) := hC
  clear hw hA hC
  have i1 := hi.grown (grow_alloc (Below.refl _ _) (.cells #[.int .i64 c0, .int .i64 c1, .int .i64 c2, .int .i64 c3, .int .i64 c4, .int .i64 c5, .int .i64 c6, .pointer (some ⟨L.p, 0, none⟩), .int .i64 who] 27))
  have m1 := h.alloc (.cells #[.int .i64 c0, .int .i64 c1, .int .i64 c2, .int .i64 c3, .int .i64 c4, .int .i64 c5, .int .i64 c6, .pointer (some ⟨L.p, 0, none⟩), .int .i64 who] 27)
  have o1 : Only (L.and b) w (w.alloc (.cells #[.int .i64 c0, .int .i64 c1, .int .i64 c2, .int .i64 c3, .int .i64 c4, .int .i64 c5, .int .i64 c6, .pointer (some ⟨L.p, 0, none⟩), .int .i64 who] 27)) := (Only.refl _ _).alloc _
  go_enter Try.func74, Try.ntmps74
  go_wp2_with (go_at_call 84; refine (pturn_any m1 hb C i1 _ _ _ _ _ _ _ _ A ar hch HA.out hn 0 0 σ HC.out ⟨by omega, by omega⟩ hσ false (decide_eq_false HW.out)).mono ?_; rintro e w6 ⟨rfl, m6, o6, cs6, i6, s6⟩; rw [show (s.by who).cas A C.w (⟨0, 0, 0, C.sp + 1⟩ : Ck).w = (s.by who).step A (s.wd A) from if_neg HW.out] at m6; have k0 := i6.cell0 rfl; have kf := i6.fz)
  go_end0
  exact ⟨rfl, m6.setIn hb _ _, (o1.trans o6).set _ _, _, i6.set0 _, s6.set (j := o) (by omega) _⟩

theorem popen_any {w : World} {L : Loc} {s : Mm} {b o : Nat} {T : TypeId} {cs : Array Value} {sn ws sa sb : Int} {ch κ : Nat} (h : MemAt w L s) (hb : ¬ L.has b) (hi : At w b o T cs (PlV 5 κ sn ch ws sa sb)) (c0 c1 c2 c3 c4 c5 c6 who : Int) (hκ : κ < 4) (hn : 2 + κ < s.n) (hch : ch ≤ 1000000) {d : Bool} {nv nx' : Int} (hw : CasTo s (2 + κ) sn ((ch : Int) + 1) d nv) (hx : (d = true ∧ nx' = 0) ∨ (d = false ∧ nx' = 6)) :
    Calls Try.prog 73 #[.pointer (some ⟨b, o, none⟩), .agg #[.int .i64 c0, .int .i64 c1, .int .i64 c2, .int .i64 c3, .int .i64 c4, .int .i64 c5, .int .i64 c6, .pointer (some ⟨L.p, 0, none⟩), .int .i64 who]] w fun e w' => e = .returned (.tuple #[]) ∧ MemAt w' L ((s.by who).step (2 + κ) nv) ∧ Only (L.and b) w w' ∧ ∃ cs', At w' b o T cs' (PlV nx' κ sn ch ws sa sb) ∧ Same o 7 cs cs' := by
  have hbv : ¬ L.has w.heap.size := fun hh => by have := h.lt _ hh; omega
  have hbb : ¬ w.heap.size = b := fun hh => by have := hi.lt; omega
  have HW : Hid (CasTo s (2 + κ) sn ((ch : Int) + 1) d nv) := hw
  clear hw
  have k0 := fun O => alloc_cell (hi.cell0 rfl) O
  have kf := fun O i => (hi.grown (grow_alloc (Below.refl _ _) O)).fz i
  go_enter Try.func73, Try.ntmps73
  go_wp2
  refine wp_over (fun W => MemAt W L s ∧ At W b o T (cs.setIfInBounds o (.int .i64 6)) (PlV 6 κ sn ch ws sa sb) ∧ BoxV W w.heap.size c0 c1 c2 c3 c4 c5 c6 L.p who ∧ Only (L.and b) w W) ⟨(h.alloc _).setIn hb _ _, (hi.grown (grow_alloc (Below.refl _ _) _)).set0 _, BoxV.new.setIn hbb _ _, ((Only.refl _ _).alloc _).set _ _⟩ ?_
  clear k0 kf
  rintro W ⟨m1, i1, v1, o1⟩
  refine wp_region_phase (Only L.has) Grown (fun p W' => match p with | 0 => MemAt W' L s | _ => MemAt W' L ((s.by who).step (2 + κ) nv)) [16] [.val (.agg #[.int .i64 c0, .int .i64 c1, .int .i64 c2, .int .i64 c3, .int .i64 c4, .int .i64 c5, .int .i64 c6, .pointer (some ⟨L.p, 0, none⟩), .int .i64 who]), .val (.pointer (some ⟨b, o, none⟩)), .val (.pointer (some ⟨b, o, none⟩)), .val (.pointer (some ⟨b, o + 1, none⟩)), .val (.int .i64 κ), .val (.int .i64 ((2 + κ : Nat) : Int)), .val (.pointer (some ⟨b, o, none⟩)), .val (.pointer (some ⟨b, o, none⟩)), .val (.pointer (some ⟨b, o + 2, none⟩)), .val (.int .u64 sn), .val (.pointer (some ⟨b, o, none⟩)), .val (.pointer (some ⟨b, o, none⟩)), .val (.pointer (some ⟨b, o + 3, none⟩)), .val (.int .i64 ch), .val (.int .i64 ((ch : Int) + 1)), .val (.int .u64 ((ch : Int) + 1)), .val (.bool d)]
    (by kernel_rfl) (Only.refl _) (fun _ _ _ h k => h.trans k) (fun x y h => Only.ofGrown h) (fun x y p h k => by match p, k with | 0, k => exact k.below h | p + 1, k => exact k.below h) m1.drew (by kernel_rfl) (by kernel_rfl) (by kernel_rfl) (by kernel_rfl) (by kernel_rfl) ?_
  simp only [phaseAll, Act.put, List.setIfInBounds_toArray, List.set_cons_zero, List.set_cons_succ]
  refine ⟨?_, ?_, ?_, ?_, ?_, ?_, ?_, ?_, ?_, ?_, ?_, ?_, ?_, ?_, ?_, ?_, ?_, ?_⟩
  · intro w' hR _
    refine Or.inl ⟨rfl, ?_⟩
    have vv := (v1.grown ((Below.refl _ _).drew)).only hR hbv
    have y0 := vv.c0
    have y1 := vv.c1
    have y2 := vv.c2
    have y3 := vv.c3
    have y4 := vv.c4
    have y5 := vv.c5
    have y6 := vv.c6
    have y7 := vv.c7
    have y8 := vv.c8
    go_simp
    exact ⟨Grown.refl _, rfl⟩
  · intro w' hR _
    refine Or.inl ⟨rfl, ?_⟩
    go_simp
    exact ⟨Grown.refl _, rfl⟩
  · intro w' hR _
    refine Or.inl ⟨rfl, ?_⟩
    go_simp
    exact ⟨Grown.refl _, rfl⟩
  · intro w' hR _
    refine Or.inl ⟨rfl, ?_⟩
    go_simp
    exact ⟨Grown.refl _, rfl⟩
  · intro w' hR _
    refine Or.inl ⟨rfl, ?_⟩
    have z := (i1.drew.only hR hb).cell 1 rfl
    go_simp
    exact ⟨Grown.refl _, rfl⟩
  · intro w' hR _
    refine Or.inl ⟨rfl, ?_⟩
    go_simp
    refine (lopen_any (κ : Int) _ (by omega) (by omega)).mono ?_
    rintro e w'' ⟨rfl, rfl⟩
    exact ⟨_, rfl, Grown.refl _, congrArg (Value.int .i64) (by omega)⟩
  · intro w' hR _
    refine Or.inl ⟨rfl, ?_⟩
    go_simp
    exact ⟨Grown.refl _, rfl⟩
  · intro w' hR _
    refine Or.inl ⟨rfl, ?_⟩
    go_simp
    exact ⟨Grown.refl _, rfl⟩
  · intro w' hR _
    refine Or.inl ⟨rfl, ?_⟩
    go_simp
    exact ⟨Grown.refl _, rfl⟩
  · intro w' hR _
    refine Or.inl ⟨rfl, ?_⟩
    have z := (i1.drew.only hR hb).cell 2 rfl
    go_simp
    exact ⟨Grown.refl _, rfl⟩
  · intro w' hR _
    refine Or.inl ⟨rfl, ?_⟩
    go_simp
    exact ⟨Grown.refl _, rfl⟩
  · intro w' hR _
    refine Or.inl ⟨rfl, ?_⟩
    go_simp
    exact ⟨Grown.refl _, rfl⟩
  · intro w' hR _
    refine Or.inl ⟨rfl, ?_⟩
    go_simp
    exact ⟨Grown.refl _, rfl⟩
  · intro w' hR _
    refine Or.inl ⟨rfl, ?_⟩
    have z := (i1.drew.only hR hb).cell 3 rfl
    go_simp
    exact ⟨Grown.refl _, rfl⟩
  · intro w' hR _
    refine Or.inl ⟨rfl, ?_⟩
    go_simp
    exact ⟨Grown.refl _, by simp only [Want.pred]; rw [IntKind.wrap_i64]; exact congrArg (Value.int .i64) (by omega)⟩
  · intro w' hR _
    refine Or.inl ⟨rfl, ?_⟩
    go_simp
    exact ⟨Grown.refl _, congrArg (Value.int .u64) (wrap_small _ (by omega) (by omega))⟩
  · intro w' hR _ hP
    refine Or.inl ⟨rfl, ?_⟩
    go_simp
    refine (ecas_in (s := s) hP _ _ _ _ _ _ _ _ (2 + κ) hn _ _).mono ?_
    rintro e w'' ⟨rfl, m2, o2⟩
    rw [(HW.out.cas who).1] at m2
    exact ⟨_, rfl, ⟨o2, m2⟩, congrArg Value.bool (HW.out.cas who).2⟩
  intro w2 hR m2 _
  have m2' : MemAt w2 L ((s.by who).step (2 + κ) nv) := m2
  have i2 := i1.drew.only hR hb
  have o2 : Only (L.and b) w w2 := o1.drew.trans hR.andL
  clear m1 i1 v1 o1 hR m2 HW
  have k0 := i2.cell0 rfl
  have kf := i2.fz
  rcases hx with ⟨rfl, rfl⟩ | ⟨rfl, rfl⟩
  · go_wp2
    go_end0
    exact ⟨rfl, m2'.setIn hb _ _, o2.set _ _, _, i2.set0 _, (Same.refl.set (by omega) _).set (by omega) _⟩
  · go_wp2
    go_end0
    exact ⟨rfl, m2', o2, _, i2, Same.refl.set (by omega) _⟩

end Go.Proofs.Ytocmkmeikcejjaa
