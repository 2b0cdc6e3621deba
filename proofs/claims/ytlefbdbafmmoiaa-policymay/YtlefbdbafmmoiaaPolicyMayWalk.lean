/- PolicyMay answers true for every number and chunk, and leaves what was in memory. -/
import Derived.Test.YtlefbdbafmmoiaaPolSmall
namespace Go.Proofs.Ytlefbdbafmmoiaa
open Go.RowKit

set_option maxRecDepth 20000 in
set_option maxHeartbeats 4000000 in
theorem policyMay_any (sparse : Int) (q : Sn) (hq : SnFit q) (w : World) :
    Calls Try.prog 3 #[.int .i64 sparse, .agg #[.int .i64 q.st, .int .i64 q.cl, .int .i64 q.us, .int .i64 q.sm, .int .i64 q.lv, .bool q.op]] w fun e w' => e = .returned (.bool true) ∧ Below w.heap.size w w' := by
  obtain ⟨n, hn, n0, n1⟩ := sparse_any sparse
  have hS := Sn.cut_small hq
  obtain ⟨c, hc⟩ : ∃ c, q.cut = c := ⟨_, rfl⟩
  have SE := fun w => seen_is hc w
  rw [hc] at hS
  have M1 := fun w => may_any 0 0 0 0 0 n 0 (by unfold Fit; omega) c hS.1 w
  have M2 := fun w => may2_any n n0 n1 c hS w
  obtain ⟨m, hm⟩ : ∃ m, c.may n = m := ⟨_, rfl⟩
  rw [hm] at M1 M2
  clear hc hS n0 n1 hm hq
  go_enter Try.func3, Try.ntmps3
  go_wp2_with (go_at_call 8; refine (SE _).mono ?_; rintro e w1 ⟨rfl, b1⟩)
  clear hn SE
  refine wp_over (fun W => Below w.heap.size w W ∧ W.heap[w1.heap.size]? = some (.cells #[.int .i64 c.st, .int .i64 c.cl, .int .i64 c.us, .int .i64 c.sm, .int .i64 c.lv, .bool c.op] 25 (0, 0))) ⟨grow_alloc (grow (grow_alloc (Below.refl _ _) _) b1) _, Go.Deep.blk_alloc_new _ _⟩ ?_
  intro W1 ⟨hB1, hx⟩
  have y0 := blk_cell (o := 0) hx rfl
  have y1 := blk_cell (o := 1) hx rfl
  have y2 := blk_cell (o := 2) hx rfl
  have y3 := blk_cell (o := 3) hx rfl
  have y4 := blk_cell (o := 4) hx rfl
  have y5 := blk_cell (o := 5) hx rfl
  clear hx b1
  refine wp_region_rely_tail Grown 11 [.val (.bool true), .val (.bool true), .val (.int .i64 n), .val (.agg #[.int .i64 0, .int .i64 0, .int .i64 0, .int .i64 0, .int .i64 0, .int .i64 n, .int .i64 0]), .val (.agg #[.int .i64 c.st, .int .i64 c.cl, .int .i64 c.us, .int .i64 c.sm, .int .i64 c.lv, .bool c.op]), .val (.bool m), .val (.int .i64 n), .val (.agg #[.int .i64 c.st, .int .i64 c.cl, .int .i64 c.us, .int .i64 c.sm, .int .i64 c.lv, .bool c.op]), .val (.bool m), .val (.bool true), .val (.bool true)] (by kernel_rfl) Grown.refl Grown.trans (by decide) (by kernel_rfl) (by kernel_rfl) (by kernel_rfl) (by kernel_rfl) (by kernel_rfl) (by kernel_rfl) ?_
  simp only [List.take_succ_cons, List.take_zero, relyAll, Act.put, List.setIfInBounds_toArray, List.set_cons_zero, List.set_cons_succ]
  refine ⟨?_, ?_, ?_, ?_, ?_, ?_, ?_, ?_, ?_, ?_, ?_, ?_⟩
  · intro w' hg _
    refine Or.inl ⟨rfl, ?_⟩
    go_simp
    refine (awake12_any _).mono ?_
    rintro e w'' ⟨rfl, b9⟩
    exact ⟨_, rfl, b9, rfl⟩
  · intro w' hg _
    refine Or.inl ⟨rfl, ?_⟩
    go_simp
    exact ⟨Grown.refl _, rfl⟩
  · intro w' hg _
    refine Or.inl ⟨rfl, ?_⟩
    go_simp
    exact ⟨Grown.refl _, rfl⟩
  · intro w' hg _
    refine Or.inl ⟨rfl, ?_⟩
    go_simp
    exact ⟨Grown.refl _, rfl⟩
  · intro w' hg _
    refine Or.inl ⟨rfl, ?_⟩
    have z0 := keep' hg y0
    have z1 := keep' hg y1
    have z2 := keep' hg y2
    have z3 := keep' hg y3
    have z4 := keep' hg y4
    have z5 := keep' hg y5
    go_simp
    exact ⟨Grown.refl _, rfl⟩
  · intro w' hg _
    refine Or.inl ⟨rfl, ?_⟩
    go_simp
    refine (M1 _).mono ?_
    rintro e w'' ⟨rfl, b9⟩
    exact ⟨_, rfl, b9, rfl⟩
  · intro w' hg _
    refine Or.inl ⟨rfl, ?_⟩
    go_simp
    exact ⟨Grown.refl _, rfl⟩
  · intro w' hg _
    refine Or.inl ⟨rfl, ?_⟩
    have z0 := keep' hg y0
    have z1 := keep' hg y1
    have z2 := keep' hg y2
    have z3 := keep' hg y3
    have z4 := keep' hg y4
    have z5 := keep' hg y5
    go_simp
    exact ⟨Grown.refl _, rfl⟩
  · intro w' hg _
    refine Or.inl ⟨rfl, ?_⟩
    go_simp
    refine (M2 _).mono ?_
    rintro e w'' ⟨rfl, b9⟩
    exact ⟨_, rfl, b9, rfl⟩
  · intro w' hg _
    refine Or.inl ⟨rfl, ?_⟩
    go_simp
    exact ⟨Grown.refl _, rfl⟩
  · intro w' hg _
    refine Or.inl ⟨rfl, ?_⟩
    go_simp
    exact ⟨Grown.refl _, rfl⟩
  intro w2 hg _
  go_wp2
  go_ret
  exact ⟨rfl, grow hB1 (Grown.trans _ _ _ (Grown.drew _) hg)⟩

end Go.Proofs.Ytlefbdbafmmoiaa
