/- What the statements of layer 12 look at first: the sparse one is chosen: true; it only makes memory. -/
import Derived.Test.YtlefbdbafmmoiaaPolChoose
namespace Go.Proofs.Ytlefbdbafmmoiaa
open Go.RowKit

/-- the two chunks of it -/
def two12 : Nat → Sn := fun i => if i = 0 then ⟨1, 0, 10, 0, 9, false⟩ else ⟨1, 0, 10, 0, 3, false⟩

theorem two12_may0 : Sn.may 500 ⟨1, 0, 10, 0, 9, false⟩ = false := by decide
theorem two12_may1 : Sn.may 500 ⟨1, 0, 10, 0, 3, false⟩ = true := by decide
theorem two12_pick : Pick 2 (fun i => (two12 i).may 500) (fun i => (two12 i).lv) 1 := by
  refine Or.inr ⟨1, by omega, rfl, two12_may1, fun j hj h => ?_, fun j hj h => ?_⟩
  · obtain rfl : j = 0 := by omega
    exact absurd (show (two12 0).may 500 = true from h) (by rw [show (two12 0).may 500 = false from two12_may0]; decide)
  · match j, hj with
    | 0, _ => exact absurd (show (two12 0).may 500 = true from h) (by rw [show (two12 0).may 500 = false from two12_may0]; decide)
    | 1, _ => exact Int.le_refl _

theorem fit_of (q : Sn) (h1 : -1000 ≤ q.st ∧ q.st ≤ 1000) (h2 : -1000 ≤ q.cl ∧ q.cl ≤ 1000) (h3 : -1000 ≤ q.us ∧ q.us ≤ 1000) (h4 : -1000 ≤ q.sm ∧ q.sm ≤ 1000) (h5 : -1000 ≤ q.lv ∧ q.lv ≤ 1000) : SnFit q := by
  unfold SnFit Fit; omega

theorem two12_fit (i : Nat) : SnFit (two12 i) := by
  unfold two12
  split <;> exact fit_of _ (by decide) (by decide) (by decide) (by decide) (by decide)

set_option maxRecDepth 20000 in
set_option maxHeartbeats 4000000 in
theorem awake12_any (w : World) : Calls Try.prog 9 #[] w fun e w' => e = .returned (.bool true) ∧ Below w.heap.size w w' := by
  have CH := fun (W : World) (h : SnsAt W (some ⟨w.heap.size + 1, 0, none⟩) 2 two12) => choose_any 0 0 0 0 0 500 0 (by unfold Fit; omega) (some ⟨w.heap.size + 1, 0, none⟩) 2 2 (by omega) two12 (fun i _ => two12_fit i) two12_pick W h
  have M0 := fun W => may_any 0 0 0 0 0 500 0 (by unfold Fit; omega) ⟨1, 0, 10, 0, 9, false⟩ (fit_of _ (by decide) (by decide) (by decide) (by decide) (by decide)) W
  have M1 := fun W => may_any 0 0 0 0 0 500 0 (by unfold Fit; omega) ⟨1, 0, 10, 0, 3, false⟩ (fit_of _ (by decide) (by decide) (by decide) (by decide) (by decide)) W
  rw [two12_may0] at M0
  rw [two12_may1] at M1
  have S1 : Sns ((w.alloc (.cells #[.int .i64 0, .int .i64 0, .int .i64 0, .int .i64 0, .int .i64 0, .int .i64 500, .int .i64 0] 30)).alloc (.cells #[.int .i64 1, .int .i64 0, .int .i64 10, .int .i64 0, .int .i64 9, .bool false, .int .i64 1, .int .i64 0, .int .i64 10, .int .i64 0, .int .i64 3, .bool false] 25)) (w.heap.size + 1) 2 [⟨1, 0, 10, 0, 9, false⟩, ⟨1, 0, 10, 0, 3, false⟩] := by
    have := Sns.made (w.alloc (.cells #[.int .i64 0, .int .i64 0, .int .i64 0, .int .i64 0, .int .i64 0, .int .i64 500, .int .i64 0] 30)) [⟨1, 0, 10, 0, 9, false⟩, ⟨1, 0, 10, 0, 3, false⟩]
    rw [Go.Deep.nblk_alloc] at this
    exact this
  have HS : Hid (SnsAt ((w.alloc (.cells #[.int .i64 0, .int .i64 0, .int .i64 0, .int .i64 0, .int .i64 0, .int .i64 500, .int .i64 0] 30)).alloc (.cells #[.int .i64 1, .int .i64 0, .int .i64 10, .int .i64 0, .int .i64 9, .bool false, .int .i64 1, .int .i64 0, .int .i64 10, .int .i64 0, .int .i64 3, .bool false] 25)) (some ⟨w.heap.size + 1, 0, none⟩) 2 two12) :=
    S1.sns (A := two12) (fun i q h => by
      match i, h with
      | 0, h => simp at h; subst h; rfl
      | 1, h => simp at h; subst h; rfl
      | i + 2, h => simp at h)
  clear S1
  go_enter Try.func9, Try.ntmps9
  go_wp2_with fail
  refine wp_over (fun W => Hid (SnsAt W (some ⟨w.heap.size + 1, 0, none⟩) 2 two12) ∧ Below w.heap.size w W ∧ W.heap[w.heap.size]? = some (.cells #[.int .i64 0, .int .i64 0, .int .i64 0, .int .i64 0, .int .i64 0, .int .i64 500, .int .i64 0] 30 (0, 0))) ⟨HS, grow_alloc (grow_alloc (Below.refl _ _) _) _, (Go.Deep.blk_alloc_lt _ _ _ (by rw [Go.Deep.nblk_alloc]; omega)).trans (Go.Deep.blk_alloc_new _ _)⟩ ?_
  clear HS
  intro W1 ⟨HS, hB1, hx⟩
  have y0 := blk_cell (o := 0) hx rfl
  have y1 := blk_cell (o := 1) hx rfl
  have y2 := blk_cell (o := 2) hx rfl
  have y3 := blk_cell (o := 3) hx rfl
  have y4 := blk_cell (o := 4) hx rfl
  have y5 := blk_cell (o := 5) hx rfl
  have y6 := blk_cell (o := 6) hx rfl
  obtain ⟨b, off, eq, p0, p1, p2, p3, p4, p5⟩ := HS.out 0 (by omega)
  cases eq
  obtain ⟨b, off, eq, q0, q1, q2, q3, q4, q5⟩ := HS.out 1 (by omega)
  cases eq
  have HB : Hid (Below w.heap.size w W1) := hB1
  clear hB1 hx
  obtain ⟨B1, hB⟩ : ∃ B1, w.heap.size + 1 = B1 := ⟨_, rfl⟩
  rw [hB] at p0 p1 p2 p3 p4 p5 q0 q1 q2 q3 q4 q5 HS CH ⊢
  clear hB
  simp only [Nat.zero_add, Nat.one_mul, Nat.zero_mul, two12, if_true, Nat.one_ne_zero, if_false] at p0 p1 p2 p3 p4 p5 q0 q1 q2 q3 q4 q5
  refine wp_region_rely_tail Grown 19 [.val (.agg #[.int .i64 0, .int .i64 0, .int .i64 0, .int .i64 0, .int .i64 0, .int .i64 500, .int .i64 0]), .val (.slice (some ⟨B1, 0, none⟩) 2 2), .val (.int .i64 1), .val (.bool true), .val (.bool true), .val (.agg #[.int .i64 0, .int .i64 0, .int .i64 0, .int .i64 0, .int .i64 0, .int .i64 500, .int .i64 0]), .val (.slice (some ⟨B1, 0, none⟩) 2 2), .val (.pointer (some ⟨B1, 6, none⟩)), .val (.agg #[.int .i64 1, .int .i64 0, .int .i64 10, .int .i64 0, .int .i64 3, .bool false]), .val (.bool true), .val (.bool true), .val (.bool true), .val (.agg #[.int .i64 0, .int .i64 0, .int .i64 0, .int .i64 0, .int .i64 0, .int .i64 500, .int .i64 0]), .val (.slice (some ⟨B1, 0, none⟩) 2 2), .val (.pointer (some ⟨B1, 0, none⟩)), .val (.agg #[.int .i64 1, .int .i64 0, .int .i64 10, .int .i64 0, .int .i64 9, .bool false]), .val (.bool false), .val (.bool true), .val (.bool true)] (by kernel_rfl) Grown.refl Grown.trans (by decide) (by kernel_rfl) (by kernel_rfl) (by kernel_rfl) (by kernel_rfl) (by kernel_rfl) (by kernel_rfl) ?_
  simp only [List.take_succ_cons, List.take_zero, relyAll, Act.put, List.setIfInBounds_toArray, List.set_cons_zero, List.set_cons_succ]
  refine ⟨?_, ?_, ?_, ?_, ?_, ?_, ?_, ?_, ?_, ?_, ?_, ?_, ?_, ?_, ?_, ?_, ?_, ?_, ?_, ?_⟩
  · intro w' hg _
    refine Or.inl ⟨rfl, ?_⟩
    have z0 := keep' hg y0
    have z1 := keep' hg y1
    have z2 := keep' hg y2
    have z3 := keep' hg y3
    have z4 := keep' hg y4
    have z5 := keep' hg y5
    have z6 := keep' hg y6
    go_simp
    exact ⟨Grown.refl _, rfl⟩
  · intro w' hg _
    refine Or.inl ⟨rfl, ?_⟩
    go_simp
    exact ⟨Grown.refl _, rfl⟩
  · intro w' hg _
    refine Or.inl ⟨rfl, ?_⟩
    go_simp
    refine (CH _ (HS.out.grown (Grown.trans _ _ _ (Grown.drew _) hg))).mono ?_
    rintro e w'' ⟨rfl, b9⟩
    exact ⟨_, rfl, b9, rfl⟩
  · intro w' hg _
    refine Or.inl ⟨rfl, ?_⟩
    go_simp
    exact ⟨Grown.refl _, rfl⟩
  · intro w' hg _
    refine Or.inl ⟨rfl, ?_⟩
    go_simp
    exact ⟨Grown.refl _, rfl⟩
  · intro w' hg _
    refine Or.inl ⟨rfl, ?_⟩
    have z0 := keep' hg y0
    have z1 := keep' hg y1
    have z2 := keep' hg y2
    have z3 := keep' hg y3
    have z4 := keep' hg y4
    have z5 := keep' hg y5
    have z6 := keep' hg y6
    go_simp
    exact ⟨Grown.refl _, rfl⟩
  · intro w' hg _
    refine Or.inl ⟨rfl, ?_⟩
    go_simp
    exact ⟨Grown.refl _, rfl⟩
  · intro w' hg _
    refine Or.inl ⟨rfl, ?_⟩
    go_simp
    exact ⟨Grown.refl _, rfl⟩
  · intro w' hg _
    refine Or.inl ⟨rfl, ?_⟩
    have z0 := keep' hg q0
    have z1 := keep' hg q1
    have z2 := keep' hg q2
    have z3 := keep' hg q3
    have z4 := keep' hg q4
    have z5 := keep' hg q5
    go_simp
    exact ⟨Grown.refl _, rfl⟩
  · intro w' hg _
    refine Or.inl ⟨rfl, ?_⟩
    go_simp
    refine (M1 _).mono ?_
    rintro e w'' ⟨rfl, b9⟩
    exact ⟨_, rfl, b9, rfl⟩
  · intro w' hg _
    refine Or.inl ⟨rfl, ?_⟩
    go_simp
    exact ⟨Grown.refl _, rfl⟩
  · intro w' hg _
    refine Or.inl ⟨rfl, ?_⟩
    go_simp
    exact ⟨Grown.refl _, rfl⟩
  · intro w' hg _
    refine Or.inl ⟨rfl, ?_⟩
    have z0 := keep' hg y0
    have z1 := keep' hg y1
    have z2 := keep' hg y2
    have z3 := keep' hg y3
    have z4 := keep' hg y4
    have z5 := keep' hg y5
    have z6 := keep' hg y6
    go_simp
    exact ⟨Grown.refl _, rfl⟩
  · intro w' hg _
    refine Or.inl ⟨rfl, ?_⟩
    go_simp
    exact ⟨Grown.refl _, rfl⟩
  · intro w' hg _
    refine Or.inl ⟨rfl, ?_⟩
    go_simp
    exact ⟨Grown.refl _, rfl⟩
  · intro w' hg _
    refine Or.inl ⟨rfl, ?_⟩
    have z0 := keep' hg p0
    have z1 := keep' hg p1
    have z2 := keep' hg p2
    have z3 := keep' hg p3
    have z4 := keep' hg p4
    have z5 := keep' hg p5
    go_simp
    exact ⟨Grown.refl _, rfl⟩
  · intro w' hg _
    refine Or.inl ⟨rfl, ?_⟩
    go_simp
    refine (M0 _).mono ?_
    rintro e w'' ⟨rfl, b9⟩
    exact ⟨_, rfl, b9, rfl⟩
  · intro w' hg _
    refine Or.inl ⟨rfl, ?_⟩
    go_simp
    exact ⟨Grown.refl _, rfl⟩
  · intro w' hg _
    refine Or.inl ⟨rfl, ?_⟩
    go_simp
    exact ⟨Grown.refl _, rfl⟩
  intro w2 hg _
  go_wp2
  go_ret
  exact ⟨rfl, grow HB.out (Grown.trans _ _ _ (Grown.drew _) hg)⟩

end Go.Proofs.Ytlefbdbafmmoiaa
