/- The arena of layer 5's statements, and what their own first look at package pin comes to: true; it only makes memory. -/
import Derived.Test.YthfedefdiofdnaaPinStep
import Derived.Test.YthfedefdiofdnaaLayAwake
namespace Go.Proofs.Ythfedefdiofdnaa
open Go.RowKit

theorem below_setIn {w w' : World} {b : Nat} (h : Below w.heap.size w w') (hb : w.heap.size ≤ b) (i : Nat) (v : Value) : Below w.heap.size w (w'.setCell ⟨b, i, none⟩ v) :=
  ⟨h.os, h.tape, h.output, by rw [Go.Deep.nblk_setCell]; exact h.size, fun k hk => by
    rw [Go.Deep.blk_setCell_other _ _ _ _ (fun e => by simp only at e; omega)]; exact h.block k hk⟩

theorem config3 (w : World) :
    Calls Try.prog 15 #[.agg #[.int .i64 3, .int .i64 0, .int .i64 0, .int .i64 0, .int .i64 0, .int .i64 0, .int .i64 0]] w fun e w' => e = .returned (.agg #[.int .i64 4, .int .i64 1, .int .i64 1, .int .i64 17, .int .i64 1, .int .i64 0, .int .i64 1]) ∧ Below w.heap.size w w' := by
  go_enter Try.func15, Try.ntmps15
  go_wp2
  exact bodyPost_ret (v := .agg #[.int .i64 4, .int .i64 1, .int .i64 1, .int .i64 17, .int .i64 1, .int .i64 0, .int .i64 1]) (by simp [results, Try.results15, go_sem]; decide +kernel) rfl ⟨rfl, grow_alloc (grow_alloc (Below.refl _ _) _) _⟩

theorem good3 : Good 4 1 1 17 1 0 1 := by constructor <;> decide

theorem fresh3 (w : World) :
    Calls Try.prog 16 #[.agg #[.int .i64 4, .int .i64 1, .int .i64 1, .int .i64 17, .int .i64 1, .int .i64 0, .int .i64 1]] w fun e w' => ∃ L : Loc, e = .returned (.tuple #[.pointer (some ⟨L.p, 0, none⟩), .int .i64 0]) ∧ MemAt w' L (Mm.laid 4 1 32 1) ∧ Below w.heap.size w w' ∧ ∀ k, L.has k → w.heap.size ≤ k :=
  fresh_good good3 w

theorem arena_any (who : Int) (w : World) :
    Calls Try.prog 6 #[.int .i64 who] w fun e w' => ∃ L : Loc, e = .returned (.tuple #[.agg #[.int .i64 4, .int .i64 1, .int .i64 1, .int .i64 17, .int .i64 1, .int .i64 0, .int .i64 1, .pointer (some ⟨L.p, 0, none⟩), .int .i64 who], .bool true]) ∧ MemAt w' L (Mm.laid 4 1 32 1) ∧ Below w.heap.size w w' ∧ ∀ k, L.has k → w.heap.size ≤ k := by
  go_enter Try.func6, Try.ntmps6
  go_wp2_with (first
    | (go_at_call 15; refine (config3 _).mono ?_; rintro e w1 ⟨rfl, b1⟩)
    | (go_at_call 16; refine (fresh3 _).mono ?_; rintro e w2 ⟨L, rfl, m2, b2, f2⟩; have cc := CfgAt.new.grown b2; have x0 := cc.c0; have x1 := cc.c1; have x2 := cc.c2; have x3 := cc.c3; have x4 := cc.c4; have x5 := cc.c5; have x6 := cc.c6; have hk : w2.heap[w.heap.size]? = some (.cells #[.int .i64 0, .int .i64 0, .int .i64 0, .int .i64 0, .int .i64 0, .int .i64 0, .int .i64 0, .pointer none, .int .i64 0] 27 (0, 0)) := (b2.block _ (by rw [Go.Deep.nblk_alloc]; have := b1.size; rw [Go.Deep.nblk_alloc] at this; omega)).trans ((Go.Deep.blk_alloc_lt _ _ _ (by have := b1.size; rw [Go.Deep.nblk_alloc] at this; omega)).trans ((b1.block _ (by rw [Go.Deep.nblk_alloc]; omega)).trans (Go.Deep.blk_alloc_new _ _))); have q0 := blk_cell (o := 0) hk rfl; have q1 := blk_cell (o := 1) hk rfl; have q2 := blk_cell (o := 2) hk rfl; have q3 := blk_cell (o := 3) hk rfl; have q4 := blk_cell (o := 4) hk rfl; have q5 := blk_cell (o := 5) hk rfl; have q6 := blk_cell (o := 6) hk rfl; have q7 := blk_cell (o := 7) hk rfl; have q8 := blk_cell (o := 8) hk rfl; have kf := blk_frozen hk))
  have hb : ¬ L.has w.heap.size := fun hh => by have := f2 _ hh; rw [Go.Deep.nblk_alloc] at this; have := b1.size; rw [Go.Deep.nblk_alloc] at this; omega
  have B2 : Below w.heap.size w w2 := grow (grow_alloc (grow (grow_alloc (Below.refl _ _) _) b1) _) b2
  refine bodyPost_ret (v := .tuple #[.agg #[.int .i64 4, .int .i64 1, .int .i64 1, .int .i64 17, .int .i64 1, .int .i64 0, .int .i64 1, .pointer (some ⟨L.p, 0, none⟩), .int .i64 who], .bool true]) (by simp [results, Try.results6, go_sem, q0, q1, q2, q3, q4, q5, q6, q7, q8]) rfl ⟨L, rfl, (((((((((m2.setIn hb _ _).setIn hb _ _).setIn hb _ _).setIn hb _ _).setIn hb _ _).setIn hb _ _).setIn hb _ _).setIn hb _ _).setIn hb _ _), ?_, fun k hk => ?_⟩
  · exact (below_setIn (below_setIn (below_setIn (below_setIn (below_setIn (below_setIn (below_setIn (below_setIn (below_setIn B2 (Nat.le_refl _) _ _) (Nat.le_refl _) _ _) (Nat.le_refl _) _ _) (Nat.le_refl _) _ _) (Nat.le_refl _) _ _) (Nat.le_refl _) _ _) (Nat.le_refl _) _ _) (Nat.le_refl _) _ _) (Nat.le_refl _) _ _)
  · have := f2 _ hk; rw [Go.Deep.nblk_alloc] at this; have := b1.size; rw [Go.Deep.nblk_alloc] at this; omega

/-- the thread and the memory behind so many of its steps -/
def phAwake (L : Loc) (b : Nat) : Nat → World → Prop
  | 0, w => MemAt w L (Mm.laid 4 1 32 1) ∧ ∃ c, InAt w b 0 34 c 0 0
  | 1, w => MemAt w L (((Mm.laid 4 1 32 1).by 1).step 0 0) ∧ ∃ c, InAt w b 0 34 c 1 0
  | 2, w => MemAt w L (((((Mm.laid 4 1 32 1).by 1).step 0 0).by 1).step 7 1) ∧ ∃ c, InAt w b 0 34 c 2 0
  | _, w => MemAt w L (((((((Mm.laid 4 1 32 1).by 1).step 0 0).by 1).step 7 1).by 1).step 0 0) ∧ ∃ c, InAt w b 0 34 c 3 0

set_option maxHeartbeats 1000000 in
theorem awake05_any (w : World) :
    Calls Try.prog 7 #[] w fun e w' => e = .returned (.bool true) ∧ Below w.heap.size w w' := by
  go_enter Try.func7, Try.ntmps7
  go_wp2_with (go_at_call 6; refine (arena_any _ _).mono ?_; rintro e w1 ⟨L, rfl, m0, b0, f0⟩)
  have hb1 : ¬ L.has w1.heap.size := fun hh => by have := m0.lt _ hh; omega
  have hb2 : ¬ L.has (w1.heap.size + 1) := fun hh => by have := m0.lt _ hh; omega
  refine wp_over (fun W => MemAt W L (Mm.laid 4 1 32 1) ∧ InAt W (w1.heap.size + 1) 0 34 #[.int .i64 0, .int .u64 0] 0 0 ∧ BoxV W w1.heap.size 4 1 1 17 1 0 1 L.p 1 ∧ Below w.heap.size w W) ⟨(m0.alloc _).alloc _, ⟨by rw [← Go.Deep.nblk_alloc]; exact Go.Deep.blk_alloc_new _ _, rfl, rfl⟩, BoxV.new.grown (grow_alloc (Below.refl _ _) _), grow_alloc (grow_alloc b0 _) _⟩ ?_
  rintro W ⟨m1, i1, v1, B1⟩
  have hbv : ¬ L.and (w1.heap.size + 1) w1.heap.size := fun hh => hh.elim hb1 (by omega)
  have hb := hb2
  refine wp_region_phase (Only (L.and (w1.heap.size + 1))) (fun x y => y = x) (phAwake L (w1.heap.size + 1)) [2, 5, 8] [.val (.pointer (some ⟨w1.heap.size + 1, 0, none⟩)), .val (.agg #[.int .i64 4, .int .i64 1, .int .i64 1, .int .i64 17, .int .i64 1, .int .i64 0, .int .i64 1, .pointer (some ⟨L.p, 0, none⟩), .int .i64 1]), .val (.bool false), .val (.pointer (some ⟨w1.heap.size + 1, 0, none⟩)), .val (.agg #[.int .i64 4, .int .i64 1, .int .i64 1, .int .i64 17, .int .i64 1, .int .i64 0, .int .i64 1, .pointer (some ⟨L.p, 0, none⟩), .int .i64 1]), .val (.bool false), .val (.pointer (some ⟨w1.heap.size + 1, 0, none⟩)), .val (.agg #[.int .i64 4, .int .i64 1, .int .i64 1, .int .i64 17, .int .i64 1, .int .i64 0, .int .i64 1, .pointer (some ⟨L.p, 0, none⟩), .int .i64 1]), .val (.bool true), .val (.bool false), .val (.bool false), .val (.bool true)]
    (by kernel_rfl) (Only.refl _) (fun _ _ _ h k => h.trans k) (fun x y h => by subst h; exact Only.refl _ _) (fun x y p h k => by subst h; exact k) ⟨m1.drew, _, i1.grown ((Below.refl _ _).drew)⟩ (by kernel_rfl) (by kernel_rfl) (by kernel_rfl) (by kernel_rfl) (by kernel_rfl) ?_
  simp only [phaseAll, Act.put, List.setIfInBounds_toArray, List.set_cons_zero, List.set_cons_succ]
  refine ⟨?_, ?_, ?_, ?_, ?_, ?_, ?_, ?_, ?_, ?_, ?_, ?_, ?_⟩
  · intro w' hR _
    refine Or.inl ⟨rfl, ?_⟩
    go_simp
    exact ⟨rfl, rfl⟩
  · intro w' hR _
    refine Or.inl ⟨rfl, ?_⟩
    have vv := (v1.grown ((Below.refl _ _).drew)).only hR hbv
    have y0 := vv.c0
    have y1 := vv.c1
    have y2 := vv.c2
    have y3 := vv.c3
    have y4 := vv.c4
    have y5 := vv.c5
    have y6 := vv.c6
    have y7 := vv.c7
    have y8 := vv.c8
    go_simp
    exact ⟨rfl, rfl⟩
  · intro w' hR _ hP
    refine Or.inl ⟨rfl, ?_⟩
    obtain ⟨hm, c, hi⟩ := hP
    go_simp
    refine (step_pin hm hb hi (by simp) 4 1 1 17 1 0 1 1 (by decide) (by decide) (by decide)).mono ?_
    rintro e w'' ⟨d, s', c', nx', ep', rfl, hp, m2, i2, _, o2⟩
    cases hp
    exact ⟨_, rfl, ⟨o2, m2, c', i2⟩, rfl⟩
  · intro w' hR _
    refine Or.inl ⟨rfl, ?_⟩
    go_simp
    exact ⟨rfl, rfl⟩
  · intro w' hR _
    refine Or.inl ⟨rfl, ?_⟩
    have vv := (v1.grown ((Below.refl _ _).drew)).only hR hbv
    have y0 := vv.c0
    have y1 := vv.c1
    have y2 := vv.c2
    have y3 := vv.c3
    have y4 := vv.c4
    have y5 := vv.c5
    have y6 := vv.c6
    have y7 := vv.c7
    have y8 := vv.c8
    go_simp
    exact ⟨rfl, rfl⟩
  · intro w' hR _ hP
    refine Or.inl ⟨rfl, ?_⟩
    obtain ⟨hm, c, hi⟩ := hP
    go_simp
    refine (step_pin hm hb hi (by simp) 4 1 1 17 1 0 1 1 (by decide) (by decide) (by decide)).mono ?_
    rintro e w'' ⟨d, s', c', nx', ep', rfl, hp, m2, i2, _, o2⟩
    cases hp
    exact ⟨_, rfl, ⟨o2, m2, c', i2⟩, rfl⟩
  · intro w' hR _
    refine Or.inl ⟨rfl, ?_⟩
    go_simp
    exact ⟨rfl, rfl⟩
  · intro w' hR _
    refine Or.inl ⟨rfl, ?_⟩
    have vv := (v1.grown ((Below.refl _ _).drew)).only hR hbv
    have y0 := vv.c0
    have y1 := vv.c1
    have y2 := vv.c2
    have y3 := vv.c3
    have y4 := vv.c4
    have y5 := vv.c5
    have y6 := vv.c6
    have y7 := vv.c7
    have y8 := vv.c8
    go_simp
    exact ⟨rfl, rfl⟩
  · intro w' hR _ hP
    refine Or.inl ⟨rfl, ?_⟩
    obtain ⟨hm, c, hi⟩ := hP
    go_simp
    refine (step_pin hm hb hi (by simp) 4 1 1 17 1 0 1 1 (by decide) (by decide) (by decide)).mono ?_
    rintro e w'' ⟨d, s', c', nx', ep', rfl, hp, m2, i2, _, o2⟩
    cases hp with
    | other _ h => exact absurd rfl h
    | same =>
      exact ⟨_, rfl, ⟨o2, m2, c', i2⟩, rfl⟩
  · intro w' hR _
    refine Or.inl ⟨rfl, ?_⟩
    go_simp
    exact ⟨rfl, rfl⟩
  · intro w' hR _
    refine Or.inl ⟨rfl, ?_⟩
    go_simp
    exact ⟨rfl, rfl⟩
  · intro w' hR _
    refine Or.inl ⟨rfl, ?_⟩
    go_simp
    exact ⟨rfl, rfl⟩
  intro w2 hR hP _
  obtain ⟨m2, _⟩ : MemAt w2 L (((((((Mm.laid 4 1 32 1).by 1).step 0 0).by 1).step 7 1).by 1).step 0 0) ∧ ∃ c, InAt w2 (w1.heap.size + 1) 0 34 c 3 0 := hP
  have v2 := (v1.grown ((Below.refl _ _).drew)).only hR hbv
  have B2 : Below w.heap.size w w2 := B1.drew.trans (hR.below B1.size (fun i hi hh => by
    have := b0.size
    rcases hh with hh | hh
    · have := f0 i hh; omega
    · omega))
  clear m1 i1 v1 hR
  have e7 := fun N : Later w2 => (v2.grown N.below).c7
  have hm := fun N : Later w2 => m2.below N.below
  haveI := Later.exists w2
  go_wp2
  refine wp_region_later (by kernel_rfl) (by kernel_rfl) ?_
  repeat (go_big_quiet_step ((first
    | (go_at_call 10; exact Calls.later_same (lpin_any _ _ (by omega) (by omega)))
    | (go_at_call 9; exact Calls.later_same (peek_is (hm _) 7 (by decide) 1 rfl)))))
  refine wpQuiet_nil ?_
  rintro _ ⟨nq, rfl⟩
  go_wp2
  go_ret
  exact ⟨rfl, grow B2 nq.below⟩

end Go.Proofs.Ythfedefdiofdnaa
