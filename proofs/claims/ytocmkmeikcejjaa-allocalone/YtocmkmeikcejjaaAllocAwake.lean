/- The statements' own first look at package alloc: the first objects' handles. -/
import Derived.Test.YtocmkmeikcejjaaAllocCamp
import Derived.Test.YtocmkmeikcejjaaPhasePair
namespace Go.Proofs.Ytocmkmeikcejjaa
open Go.RowKit

/-- the first arena's memory, while two objects are made -/
def phAwake (L : Loc) : Nat → World → Prop
  | 0, w => ∃ s, MemAt w L s ∧ Town 1 4 2 20 s 9 (Q.new 4)
  | 1, w => ∃ s, MemAt w L s ∧ Town 1 4 2 20 s 24 q1
  | _, w => ∃ s, MemAt w L s ∧ Town 1 4 2 20 s 35 q2

theorem phAwake_grown (L : Loc) (x y : World) (p : Nat) (g : Grown x y) (k : phAwake L p x) : phAwake L p y := by
  match p, k with
  | 0, ⟨s, h, t⟩ => exact ⟨s, h.below g, t⟩
  | 1, ⟨s, h, t⟩ => exact ⟨s, h.below g, t⟩
  | p + 2, ⟨s, h, t⟩ => exact ⟨s, h.below g, t⟩

set_option maxHeartbeats 1000000 in
theorem awake08_any (w : World) :
    Calls Try.prog 5 #[] w fun e w' => e = .returned (.bool true) ∧ Below w.heap.size w w' := by
  have ar := arena08 (t := 1) (n := 4) (k := 2) (m := 20) (goodp (by omega) (by omega) (by omega) (by omega)) (by omega)
  go_enter Try.func5, Try.ntmps5
  go_wp2_with (go_at_call 4; refine (ar _).mono ?_; rintro e w1 ⟨L, s, rfl, m1, t1, b1, f1⟩; obtain ⟨p1, pa⟩ := Camp.first (goodp (t := 1) (n := 4) (k := 2) (m := 20) (by omega) (by omega) (by omega) (by omega)) m1 t1 (calm0 1 4 2 20) b1 f1)
  obtain ⟨E, hE⟩ : ∃ E, w1.heap.size = E := ⟨_, rfl⟩
  rw [hE] at p1 pa ⊢
  refine wp_over (fun W => MemAt W L s ∧ BoxV W E 1 4 2 20 100 600 3 L.p 0 ∧ Below w.heap.size w W) ⟨p1.mm, p1.v, p1.b⟩ ?_
  have T1 : Hid (Town 1 4 2 20 s 9 (Q.new 4)) := t1
  have hLE := pa.e
  have hL0 := pa.l0
  clear p1 m1 t1 b1 hE pa ar
  rintro W ⟨m1, v1, b1⟩
  obtain ⟨Sz, hSz⟩ : ∃ Sz, W.heap.size = Sz := ⟨_, rfl⟩
  have hLS : ∀ k, L.has k → k < Sz := fun k hk => by have := m1.lt k hk; omega
  refine wp_region_phase_pair (Only L.has) Grown (phAwake L) 6 4 5 3 4 (.cells #[.int .i64 0, .int .u64 0, .int .i64 0, .int .i64 0] 36) (.cells #[.int .i64 0, .int .u64 0, .int .i64 0, .int .i64 0] 36) [1, 3] [.val (.agg #[.int .i64 1, .int .i64 4, .int .i64 2, .int .i64 20, .int .i64 100, .int .i64 600, .int .i64 3, .pointer (some ⟨L.p, 0, none⟩), .int .i64 0]), .val (.agg #[.int .i64 0, .int .u64 65536, .int .i64 0, .int .i64 23]), .val (.agg #[.int .i64 1, .int .i64 4, .int .i64 2, .int .i64 20, .int .i64 100, .int .i64 600, .int .i64 3, .pointer (some ⟨L.p, 0, none⟩), .int .i64 0]), .val (.agg #[.int .i64 0, .int .u64 65537, .int .i64 0, .int .i64 34]), .that (fun w' v => ∃ X, v = .pointer (some ⟨X, 0, none⟩) ∧ Sz ≤ X ∧ At w' X 0 36 #[.int .i64 0, .int .u64 0, .int .i64 0, .int .i64 0] [.int .i64 0, .int .u64 0, .int .i64 0, .int .i64 0]) ?_, .that (fun w' v => ∃ X, v = .pointer (some ⟨X, 0, none⟩) ∧ Sz ≤ X ∧ At w' X 0 36 #[.int .i64 0, .int .u64 0, .int .i64 0, .int .i64 0] [.int .i64 0, .int .u64 0, .int .i64 0, .int .i64 0]) ?_]
    (by kernel_rfl) (Only.refl _) (fun _ _ _ h k => h.trans k) (fun x y h => Only.ofGrown h) (phAwake_grown L) ⟨s, m1.drew, T1.out⟩ (by decide) (fun x y h => h.size) (by kernel_rfl) (by simp) (by simp) ?_ ?_ (by kernel_rfl) (by kernel_rfl) (by kernel_rfl) (by kernel_rfl) (by kernel_rfl) (by kernel_rfl) (by kernel_rfl) (by kernel_rfl) ?_
  · rintro x1 y1 v hg ⟨X, hv, hb, hr⟩
    exact ⟨X, hv, hb, hr.only hg (fun hh => by have := hLS _ hh; omega)⟩
  · rintro x1 y1 v hg ⟨X, hv, hb, hr⟩
    exact ⟨X, hv, hb, hr.only hg (fun hh => by have := hLS _ hh; omega)⟩
  · intro o e w' ho
    simp only [List.getElem?_toArray, List.getElem?_cons_succ, List.getElem?_cons_zero, Option.some.injEq] at ho
    subst ho
    go_simp
  · intro o e w' ho
    simp only [List.getElem?_toArray, List.getElem?_cons_succ, List.getElem?_cons_zero, Option.some.injEq] at ho
    subst ho
    go_simp
  simp only [List.take_succ_cons, List.take_zero, phaseAll, Act.put, List.setIfInBounds_toArray, List.set_cons_zero, List.set_cons_succ]
  refine ⟨?_, ?_, ?_, ?_, ?_, ?_⟩
  · intro w' hR _
    refine Or.inl ⟨rfl, ?_⟩
    have vv := (v1.grown ((Below.refl _ _).drew)).only hR hLE
    have y0 := vv.c0
    have y1 := vv.c1
    have y2 := vv.c2
    have y3 := vv.c3
    have y4 := vv.c4
    have y5 := vv.c5
    have y6 := vv.c6
    have y7 := vv.c7
    have y8 := vv.c8
    go_simp
    exact ⟨Grown.refl _, rfl⟩
  · intro w' hR _ hP
    refine Or.inl ⟨rfl, ?_⟩
    obtain ⟨s1, n1, u1⟩ : ∃ s, MemAt w' L s ∧ Town 1 4 2 20 s 9 (Q.new 4) := hP
    go_simp
    refine (make1 n1 u1).mono ?_
    rintro e w'' ⟨rfl, s2, m2, u2, o2⟩
    exact ⟨_, rfl, ⟨o2, s2, m2, u2⟩, rfl⟩
  · intro w' hR _
    refine Or.inl ⟨rfl, ?_⟩
    have vv := (v1.grown ((Below.refl _ _).drew)).only hR hLE
    have y0 := vv.c0
    have y1 := vv.c1
    have y2 := vv.c2
    have y3 := vv.c3
    have y4 := vv.c4
    have y5 := vv.c5
    have y6 := vv.c6
    have y7 := vv.c7
    have y8 := vv.c8
    go_simp
    exact ⟨Grown.refl _, rfl⟩
  · intro w' hR _ hP
    refine Or.inl ⟨rfl, ?_⟩
    obtain ⟨s1, n1, u1⟩ : ∃ s, MemAt w' L s ∧ Town 1 4 2 20 s 24 q1 := hP
    go_simp
    refine (make2 n1 u1).mono ?_
    rintro e w'' ⟨rfl, s2, m2, u2, o2⟩
    exact ⟨_, rfl, ⟨o2, s2, m2, u2⟩, rfl⟩
  · intro w' hR _
    refine Or.inl ⟨rfl, ?_⟩
    have hz : Sz ≤ w'.heap.size := by have := hR.size; have e : W.drew.heap.size = W.heap.size := rfl; omega
    have q := At.new w' 36 [.int .i64 0, .int .u64 0, .int .i64 0, .int .i64 0]
    go_simp
    exact ⟨grow_alloc (Below.refl _ _) _, _, rfl, hz, q⟩
  intro vX
  refine ⟨?_, ?_⟩
  · intro w' hR _
    refine Or.inl ⟨rfl, ?_⟩
    have hz : Sz ≤ w'.heap.size := by have := hR.size; have e : W.drew.heap.size = W.heap.size := rfl; omega
    have q := At.new w' 36 [.int .i64 0, .int .u64 0, .int .i64 0, .int .i64 0]
    go_simp
    exact ⟨grow_alloc (Below.refl _ _) _, _, rfl, hz, q⟩
  intro vY w8 hR hP hf hne
  obtain ⟨Y, rfl, hYS, r8⟩ := hf.1
  obtain ⟨X, rfl, hXS, q8⟩ := hf.2.1
  have hXY : X ≠ Y := fun e => hne (by subst e; simp [Act.eval])
  have b8 : Below w.heap.size w w8 := mgrow b1.drew hR hL0
  have hwz : w.heap.size ≤ Sz := by have := b1.size; omega
  have x0 := q8.at0 0 rfl
  have x1 := q8.at0 1 rfl
  have x2 := q8.at0 2 rfl
  have x3 := q8.at0 3 rfl
  have xf := q8.fz
  have z0 := r8.at0 0 rfl
  have z1 := r8.at0 1 rfl
  have z2 := r8.at0 2 rfl
  have z3 := r8.at0 3 rfl
  have zf := r8.fz
  clear hf hP hR hne
  go_wp2
  go_ret
  refine ⟨rfl, ?_⟩
  have hX' : w.heap.size ≤ X := by omega
  have hY' : w.heap.size ≤ Y := by omega
  exact below_setIn (below_setIn (below_setIn (below_setIn (below_setIn (below_setIn (below_setIn (below_setIn b8 hX' _ _) hX' _ _) hX' _ _) hX' _ _) hY' _ _) hY' _ _) hY' _ _) hY' _ _

end Go.Proofs.Ytocmkmeikcejjaa
