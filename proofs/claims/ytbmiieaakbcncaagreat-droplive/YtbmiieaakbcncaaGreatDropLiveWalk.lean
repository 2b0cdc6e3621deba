/- DropLive answers true for every slot's word and handle, and leaves what was in memory. -/
import Derived.Test.YtbmiieaakbcncaaGreatDropAwake
namespace Go.Proofs.YtbmiieaakbcncaaGreat
open Go.RowKit

set_option maxHeartbeats 1000000 in
theorem droplive_1 (A G V x G' : Int) (w : World) :
    Calls Tryz.prog 8 #[.agg #[.int .i64 1, .int .i64 A, .int .i64 G, .int .i64 V], .agg #[.int .i64 x, .int .i64 G']] w fun e w' => e = .returned (.bool true) ∧ Below w.heap.size w w' := by
  obtain ⟨l, hl⟩ : ∃ l, (G == G') = l := ⟨_, rfl⟩
  have lv := fun w => dlive_any 1 A G V x G' w
  rw [show lifeB 1 = true from rfl, Bool.true_and, hl] at lv
  have f0 : ∀ (a1 a2 a3 a4 : Value) (w : World), (Instr.field 39 (.agg #[a1, a2, a3, a4]) 0).run Tryz.prog w = .ok a1 w := fun a1 a2 a3 a4 w => by kernel_rfl
  go_enter Tryz.func8, Tryz.ntmps8
  go_wp2
  refine wp_over (fun W => At W w.heap.size 0 48 #[.int .i64 1, .int .i64 A, .int .i64 G, .int .i64 V] [.int .i64 1, .int .i64 A, .int .i64 G, .int .i64 V] ∧ At W (w.heap.size + 1) 0 44 #[.int .i64 x, .int .i64 G'] [.int .i64 x, .int .i64 G'] ∧ Below w.heap.size w W) ⟨(At.new _ _ _).grown (grow1 _ _), At.new2 _ _ _ _, grow_alloc (grow1 _ _) _⟩ ?_
  rintro W ⟨s1, x1, o1⟩
  refine wp_region_rely Grown [.val (.bool true), .val (.bool true), .val (.agg #[.int .i64 1, .int .i64 A, .int .i64 G, .int .i64 V]), .val (.agg #[.int .i64 x, .int .i64 G']), .val (.bool l), .val (.pointer (some ⟨w.heap.size, 0, none⟩)), .val (.int .i64 1), .val (.bool true), .val (.bool true), .val undef, .val undef, .val undef, .val (.bool true), .val (.bool true), .val undef, .val undef, .val undef, .val (.bool true), .val (.bool true), .val (.pointer (some ⟨w.heap.size, 2, none⟩)), .val (.int .i64 G), .val (.pointer (some ⟨w.heap.size + 1, 1, none⟩)), .val (.int .i64 G'), .val (.bool l), .val (.bool l), .val (.bool true), .val (.bool true), .val (.bool true), .val (.pointer none), .val (.agg #[.int .i64 1, .int .u64 0, .int .i64 0, .int .i64 0]), .val (.int .i64 1), .val (.bool true), .val (.bool true), .val (.bool true)] (by kernel_rfl) Grown.refl Grown.trans (by kernel_rfl) (by kernel_rfl) (by kernel_rfl) ?_
  simp only [relyAll, Act.put, List.setIfInBounds_toArray, List.set_cons_zero, List.set_cons_succ]
  refine ⟨?_, ?_, ?_, ?_, ?_, ?_, ?_, ?_, ?_, ?_, ?_, ?_, ?_, ?_, ?_, ?_, ?_, ?_, ?_, ?_, ?_, ?_, ?_, ?_, ?_, ?_, ?_, ?_, ?_, ?_, ?_, ?_, ?_, ?_, ?_⟩
  · intro w' hg _
    refine Or.inl ⟨rfl, ?_⟩
    go_simp
    refine (awake09_any _).mono ?_
    rintro e w'' ⟨rfl, b9⟩
    exact ⟨_, rfl, b9, rfl⟩
  · intro w' hg _
    refine Or.inl ⟨rfl, ?_⟩
    go_simp
    exact ⟨Grown.refl _, rfl⟩
  · intro w' hg _
    refine Or.inl ⟨rfl, ?_⟩
    have z0 := (s1.drew.grown hg).at0 0 rfl
    have z1 := (s1.drew.grown hg).at0 1 rfl
    have z2 := (s1.drew.grown hg).at0 2 rfl
    have z3 := (s1.drew.grown hg).at0 3 rfl
    go_simp
    exact ⟨Grown.refl _, rfl⟩
  · intro w' hg _
    refine Or.inl ⟨rfl, ?_⟩
    have z0 := (x1.drew.grown hg).at0 0 rfl
    have z1 := (x1.drew.grown hg).at0 1 rfl
    go_simp
    exact ⟨Grown.refl _, rfl⟩
  · intro w' hg _
    refine Or.inl ⟨rfl, ?_⟩
    go_simp
    refine (lv _).mono ?_
    rintro e w'' ⟨rfl, b9⟩
    exact ⟨_, rfl, b9, rfl⟩
  · intro w' hg _
    refine Or.inl ⟨rfl, ?_⟩
    go_simp
    exact ⟨Grown.refl _, rfl⟩
  · intro w' hg _
    refine Or.inl ⟨rfl, ?_⟩
    have z := (s1.drew.grown hg).at0 0 rfl
    go_simp
    exact ⟨Grown.refl _, rfl⟩
  · intro w' hg _
    refine Or.inl ⟨rfl, ?_⟩
    go_simp
    exact ⟨Grown.refl _, rfl⟩
  · intro w' hg _
    refine Or.inl ⟨rfl, ?_⟩
    go_simp
    exact ⟨Grown.refl _, rfl⟩
  · intro w' hg _
    exact Or.inr ⟨rfl, rfl⟩
  · intro w' hg _
    exact Or.inr ⟨rfl, rfl⟩
  · intro w' hg _
    exact Or.inr ⟨rfl, rfl⟩
  · intro w' hg _
    refine Or.inl ⟨rfl, ?_⟩
    go_simp
    exact ⟨Grown.refl _, rfl⟩
  · intro w' hg _
    refine Or.inl ⟨rfl, ?_⟩
    go_simp
    exact ⟨Grown.refl _, rfl⟩
  · intro w' hg _
    exact Or.inr ⟨rfl, rfl⟩
  · intro w' hg _
    exact Or.inr ⟨rfl, rfl⟩
  · intro w' hg _
    exact Or.inr ⟨rfl, rfl⟩
  · intro w' hg _
    refine Or.inl ⟨rfl, ?_⟩
    go_simp
    exact ⟨Grown.refl _, rfl⟩
  · intro w' hg _
    refine Or.inl ⟨rfl, ?_⟩
    go_simp
    exact ⟨Grown.refl _, rfl⟩
  · intro w' hg _
    refine Or.inl ⟨rfl, ?_⟩
    go_simp
    exact ⟨Grown.refl _, rfl⟩
  · intro w' hg _
    refine Or.inl ⟨rfl, ?_⟩
    have z := (s1.drew.grown hg).at0 2 rfl
    go_simp
    exact ⟨Grown.refl _, rfl⟩
  · intro w' hg _
    refine Or.inl ⟨rfl, ?_⟩
    go_simp
    exact ⟨Grown.refl _, rfl⟩
  · intro w' hg _
    refine Or.inl ⟨rfl, ?_⟩
    have z := (x1.drew.grown hg).at0 1 rfl
    go_simp
    exact ⟨Grown.refl _, rfl⟩
  · intro w' hg _
    refine Or.inl ⟨rfl, ?_⟩
    go_simp
    exact ⟨Grown.refl _, rfl⟩
  · intro w' hg _
    refine Or.inl ⟨rfl, ?_⟩
    go_simp
    exact ⟨Grown.refl _, rfl⟩
  · intro w' hg _
    refine Or.inl ⟨rfl, ?_⟩
    go_simp
    exact ⟨Grown.refl _, congrArg Value.bool (by simp)⟩
  · intro w' hg _
    refine Or.inl ⟨rfl, ?_⟩
    go_simp
    exact ⟨Grown.refl _, rfl⟩
  · intro w' hg _
    refine Or.inl ⟨rfl, ?_⟩
    go_simp
    exact ⟨Grown.refl _, rfl⟩
  · intro w' hg _
    refine Or.inl ⟨rfl, ?_⟩
    go_simp
    exact ⟨Grown.refl _, rfl⟩
  · intro w' hg _
    refine Or.inl ⟨rfl, ?_⟩
    go_simp
    refine (ddone_nil _).mono ?_
    rintro e w'' ⟨rfl, b9⟩
    exact ⟨_, rfl, b9, rfl⟩
  · intro w' hg _
    refine Or.inl ⟨rfl, ?_⟩
    go_simp
    exact ⟨Grown.refl _, rfl⟩
  · intro w' hg _
    refine Or.inl ⟨rfl, ?_⟩
    go_simp
    exact ⟨Grown.refl _, rfl⟩
  · intro w' hg _
    refine Or.inl ⟨rfl, ?_⟩
    go_simp
    exact ⟨Grown.refl _, rfl⟩
  · intro w' hg _
    refine Or.inl ⟨rfl, ?_⟩
    go_simp
    exact ⟨Grown.refl _, rfl⟩
  intro w5 hg _
  go_wp2
  go_ret
  exact ⟨rfl, grow (o1.trans ((Below.refl _ _).drew)) hg⟩

set_option maxHeartbeats 1000000 in
theorem droplive_2 (A G V x G' : Int) (w : World) :
    Calls Tryz.prog 8 #[.agg #[.int .i64 2, .int .i64 A, .int .i64 G, .int .i64 V], .agg #[.int .i64 x, .int .i64 G']] w fun e w' => e = .returned (.bool true) ∧ Below w.heap.size w w' := by
  obtain ⟨l, hl⟩ : ∃ l, (G == G') = l := ⟨_, rfl⟩
  have lv := fun w => dlive_any 2 A G V x G' w
  rw [show lifeB 2 = true from rfl, Bool.true_and, hl] at lv
  have f0 : ∀ (a1 a2 a3 a4 : Value) (w : World), (Instr.field 39 (.agg #[a1, a2, a3, a4]) 0).run Tryz.prog w = .ok a1 w := fun a1 a2 a3 a4 w => by kernel_rfl
  go_enter Tryz.func8, Tryz.ntmps8
  go_wp2
  refine wp_over (fun W => At W w.heap.size 0 48 #[.int .i64 2, .int .i64 A, .int .i64 G, .int .i64 V] [.int .i64 2, .int .i64 A, .int .i64 G, .int .i64 V] ∧ At W (w.heap.size + 1) 0 44 #[.int .i64 x, .int .i64 G'] [.int .i64 x, .int .i64 G'] ∧ Below w.heap.size w W) ⟨(At.new _ _ _).grown (grow1 _ _), At.new2 _ _ _ _, grow_alloc (grow1 _ _) _⟩ ?_
  rintro W ⟨s1, x1, o1⟩
  refine wp_region_rely Grown [.val (.bool true), .val (.bool true), .val (.agg #[.int .i64 2, .int .i64 A, .int .i64 G, .int .i64 V]), .val (.agg #[.int .i64 x, .int .i64 G']), .val (.bool l), .val (.pointer (some ⟨w.heap.size, 0, none⟩)), .val (.int .i64 2), .val (.bool false), .val (.bool false), .val (.pointer (some ⟨w.heap.size, 0, none⟩)), .val (.int .i64 2), .val (.bool true), .val (.bool true), .val (.bool true), .val undef, .val undef, .val undef, .val (.bool true), .val (.bool true), .val (.pointer (some ⟨w.heap.size, 2, none⟩)), .val (.int .i64 G), .val (.pointer (some ⟨w.heap.size + 1, 1, none⟩)), .val (.int .i64 G'), .val (.bool l), .val (.bool l), .val (.bool true), .val (.bool true), .val (.bool true), .val (.pointer none), .val (.agg #[.int .i64 1, .int .u64 0, .int .i64 0, .int .i64 0]), .val (.int .i64 1), .val (.bool true), .val (.bool true), .val (.bool true)] (by kernel_rfl) Grown.refl Grown.trans (by kernel_rfl) (by kernel_rfl) (by kernel_rfl) ?_
  simp only [relyAll, Act.put, List.setIfInBounds_toArray, List.set_cons_zero, List.set_cons_succ]
  refine ⟨?_, ?_, ?_, ?_, ?_, ?_, ?_, ?_, ?_, ?_, ?_, ?_, ?_, ?_, ?_, ?_, ?_, ?_, ?_, ?_, ?_, ?_, ?_, ?_, ?_, ?_, ?_, ?_, ?_, ?_, ?_, ?_, ?_, ?_, ?_⟩
  · intro w' hg _
    refine Or.inl ⟨rfl, ?_⟩
    go_simp
    refine (awake09_any _).mono ?_
    rintro e w'' ⟨rfl, b9⟩
    exact ⟨_, rfl, b9, rfl⟩
  · intro w' hg _
    refine Or.inl ⟨rfl, ?_⟩
    go_simp
    exact ⟨Grown.refl _, rfl⟩
  · intro w' hg _
    refine Or.inl ⟨rfl, ?_⟩
    have z0 := (s1.drew.grown hg).at0 0 rfl
    have z1 := (s1.drew.grown hg).at0 1 rfl
    have z2 := (s1.drew.grown hg).at0 2 rfl
    have z3 := (s1.drew.grown hg).at0 3 rfl
    go_simp
    exact ⟨Grown.refl _, rfl⟩
  · intro w' hg _
    refine Or.inl ⟨rfl, ?_⟩
    have z0 := (x1.drew.grown hg).at0 0 rfl
    have z1 := (x1.drew.grown hg).at0 1 rfl
    go_simp
    exact ⟨Grown.refl _, rfl⟩
  · intro w' hg _
    refine Or.inl ⟨rfl, ?_⟩
    go_simp
    refine (lv _).mono ?_
    rintro e w'' ⟨rfl, b9⟩
    exact ⟨_, rfl, b9, rfl⟩
  · intro w' hg _
    refine Or.inl ⟨rfl, ?_⟩
    go_simp
    exact ⟨Grown.refl _, rfl⟩
  · intro w' hg _
    refine Or.inl ⟨rfl, ?_⟩
    have z := (s1.drew.grown hg).at0 0 rfl
    go_simp
    exact ⟨Grown.refl _, rfl⟩
  · intro w' hg _
    refine Or.inl ⟨rfl, ?_⟩
    go_simp
    exact ⟨Grown.refl _, rfl⟩
  · intro w' hg _
    refine Or.inl ⟨rfl, ?_⟩
    go_simp
    exact ⟨Grown.refl _, rfl⟩
  · intro w' hg _
    refine Or.inl ⟨rfl, ?_⟩
    go_simp
    exact ⟨Grown.refl _, rfl⟩
  · intro w' hg _
    refine Or.inl ⟨rfl, ?_⟩
    have z := (s1.drew.grown hg).at0 0 rfl
    go_simp
    exact ⟨Grown.refl _, rfl⟩
  · intro w' hg _
    refine Or.inl ⟨rfl, ?_⟩
    go_simp
    exact ⟨Grown.refl _, rfl⟩
  · intro w' hg _
    refine Or.inl ⟨rfl, ?_⟩
    go_simp
    exact ⟨Grown.refl _, rfl⟩
  · intro w' hg _
    refine Or.inl ⟨rfl, ?_⟩
    go_simp
    exact ⟨Grown.refl _, rfl⟩
  · intro w' hg _
    exact Or.inr ⟨rfl, rfl⟩
  · intro w' hg _
    exact Or.inr ⟨rfl, rfl⟩
  · intro w' hg _
    exact Or.inr ⟨rfl, rfl⟩
  · intro w' hg _
    refine Or.inl ⟨rfl, ?_⟩
    go_simp
    exact ⟨Grown.refl _, rfl⟩
  · intro w' hg _
    refine Or.inl ⟨rfl, ?_⟩
    go_simp
    exact ⟨Grown.refl _, rfl⟩
  · intro w' hg _
    refine Or.inl ⟨rfl, ?_⟩
    go_simp
    exact ⟨Grown.refl _, rfl⟩
  · intro w' hg _
    refine Or.inl ⟨rfl, ?_⟩
    have z := (s1.drew.grown hg).at0 2 rfl
    go_simp
    exact ⟨Grown.refl _, rfl⟩
  · intro w' hg _
    refine Or.inl ⟨rfl, ?_⟩
    go_simp
    exact ⟨Grown.refl _, rfl⟩
  · intro w' hg _
    refine Or.inl ⟨rfl, ?_⟩
    have z := (x1.drew.grown hg).at0 1 rfl
    go_simp
    exact ⟨Grown.refl _, rfl⟩
  · intro w' hg _
    refine Or.inl ⟨rfl, ?_⟩
    go_simp
    exact ⟨Grown.refl _, rfl⟩
  · intro w' hg _
    refine Or.inl ⟨rfl, ?_⟩
    go_simp
    exact ⟨Grown.refl _, rfl⟩
  · intro w' hg _
    refine Or.inl ⟨rfl, ?_⟩
    go_simp
    exact ⟨Grown.refl _, congrArg Value.bool (by simp)⟩
  · intro w' hg _
    refine Or.inl ⟨rfl, ?_⟩
    go_simp
    exact ⟨Grown.refl _, rfl⟩
  · intro w' hg _
    refine Or.inl ⟨rfl, ?_⟩
    go_simp
    exact ⟨Grown.refl _, rfl⟩
  · intro w' hg _
    refine Or.inl ⟨rfl, ?_⟩
    go_simp
    exact ⟨Grown.refl _, rfl⟩
  · intro w' hg _
    refine Or.inl ⟨rfl, ?_⟩
    go_simp
    refine (ddone_nil _).mono ?_
    rintro e w'' ⟨rfl, b9⟩
    exact ⟨_, rfl, b9, rfl⟩
  · intro w' hg _
    refine Or.inl ⟨rfl, ?_⟩
    go_simp
    exact ⟨Grown.refl _, rfl⟩
  · intro w' hg _
    refine Or.inl ⟨rfl, ?_⟩
    go_simp
    exact ⟨Grown.refl _, rfl⟩
  · intro w' hg _
    refine Or.inl ⟨rfl, ?_⟩
    go_simp
    exact ⟨Grown.refl _, rfl⟩
  · intro w' hg _
    refine Or.inl ⟨rfl, ?_⟩
    go_simp
    exact ⟨Grown.refl _, rfl⟩
  intro w5 hg _
  go_wp2
  go_ret
  exact ⟨rfl, grow (o1.trans ((Below.refl _ _).drew)) hg⟩

set_option maxHeartbeats 1000000 in
theorem droplive_4 (A G V x G' : Int) (w : World) :
    Calls Tryz.prog 8 #[.agg #[.int .i64 4, .int .i64 A, .int .i64 G, .int .i64 V], .agg #[.int .i64 x, .int .i64 G']] w fun e w' => e = .returned (.bool true) ∧ Below w.heap.size w w' := by
  obtain ⟨l, hl⟩ : ∃ l, (G == G') = l := ⟨_, rfl⟩
  have lv := fun w => dlive_any 4 A G V x G' w
  rw [show lifeB 4 = true from rfl, Bool.true_and, hl] at lv
  have f0 : ∀ (a1 a2 a3 a4 : Value) (w : World), (Instr.field 39 (.agg #[a1, a2, a3, a4]) 0).run Tryz.prog w = .ok a1 w := fun a1 a2 a3 a4 w => by kernel_rfl
  go_enter Tryz.func8, Tryz.ntmps8
  go_wp2
  refine wp_over (fun W => At W w.heap.size 0 48 #[.int .i64 4, .int .i64 A, .int .i64 G, .int .i64 V] [.int .i64 4, .int .i64 A, .int .i64 G, .int .i64 V] ∧ At W (w.heap.size + 1) 0 44 #[.int .i64 x, .int .i64 G'] [.int .i64 x, .int .i64 G'] ∧ Below w.heap.size w W) ⟨(At.new _ _ _).grown (grow1 _ _), At.new2 _ _ _ _, grow_alloc (grow1 _ _) _⟩ ?_
  rintro W ⟨s1, x1, o1⟩
  refine wp_region_rely Grown [.val (.bool true), .val (.bool true), .val (.agg #[.int .i64 4, .int .i64 A, .int .i64 G, .int .i64 V]), .val (.agg #[.int .i64 x, .int .i64 G']), .val (.bool l), .val (.pointer (some ⟨w.heap.size, 0, none⟩)), .val (.int .i64 4), .val (.bool false), .val (.bool false), .val (.pointer (some ⟨w.heap.size, 0, none⟩)), .val (.int .i64 4), .val (.bool false), .val (.bool false), .val (.bool false), .val (.pointer (some ⟨w.heap.size, 0, none⟩)), .val (.int .i64 4), .val (.bool true), .val (.bool true), .val (.bool true), .val (.pointer (some ⟨w.heap.size, 2, none⟩)), .val (.int .i64 G), .val (.pointer (some ⟨w.heap.size + 1, 1, none⟩)), .val (.int .i64 G'), .val (.bool l), .val (.bool l), .val (.bool true), .val (.bool true), .val (.bool true), .val (.pointer none), .val (.agg #[.int .i64 1, .int .u64 0, .int .i64 0, .int .i64 0]), .val (.int .i64 1), .val (.bool true), .val (.bool true), .val (.bool true)] (by kernel_rfl) Grown.refl Grown.trans (by kernel_rfl) (by kernel_rfl) (by kernel_rfl) ?_
  simp only [relyAll, Act.put, List.setIfInBounds_toArray, List.set_cons_zero, List.set_cons_succ]
  refine ⟨?_, ?_, ?_, ?_, ?_, ?_, ?_, ?_, ?_, ?_, ?_, ?_, ?_, ?_, ?_, ?_, ?_, ?_, ?_, ?_, ?_, ?_, ?_, ?_, ?_, ?_, ?_, ?_, ?_, ?_, ?_, ?_, ?_, ?_, ?_⟩
  · intro w' hg _
    refine Or.inl ⟨rfl, ?_⟩
    go_simp
    refine (awake09_any _).mono ?_
    rintro e w'' ⟨rfl, b9⟩
    exact ⟨_, rfl, b9, rfl⟩
  · intro w' hg _
    refine Or.inl ⟨rfl, ?_⟩
    go_simp
    exact ⟨Grown.refl _, rfl⟩
  · intro w' hg _
    refine Or.inl ⟨rfl, ?_⟩
    have z0 := (s1.drew.grown hg).at0 0 rfl
    have z1 := (s1.drew.grown hg).at0 1 rfl
    have z2 := (s1.drew.grown hg).at0 2 rfl
    have z3 := (s1.drew.grown hg).at0 3 rfl
    go_simp
    exact ⟨Grown.refl _, rfl⟩
  · intro w' hg _
    refine Or.inl ⟨rfl, ?_⟩
    have z0 := (x1.drew.grown hg).at0 0 rfl
    have z1 := (x1.drew.grown hg).at0 1 rfl
    go_simp
    exact ⟨Grown.refl _, rfl⟩
  · intro w' hg _
    refine Or.inl ⟨rfl, ?_⟩
    go_simp
    refine (lv _).mono ?_
    rintro e w'' ⟨rfl, b9⟩
    exact ⟨_, rfl, b9, rfl⟩
  · intro w' hg _
    refine Or.inl ⟨rfl, ?_⟩
    go_simp
    exact ⟨Grown.refl _, rfl⟩
  · intro w' hg _
    refine Or.inl ⟨rfl, ?_⟩
    have z := (s1.drew.grown hg).at0 0 rfl
    go_simp
    exact ⟨Grown.refl _, rfl⟩
  · intro w' hg _
    refine Or.inl ⟨rfl, ?_⟩
    go_simp
    exact ⟨Grown.refl _, rfl⟩
  · intro w' hg _
    refine Or.inl ⟨rfl, ?_⟩
    go_simp
    exact ⟨Grown.refl _, rfl⟩
  · intro w' hg _
    refine Or.inl ⟨rfl, ?_⟩
    go_simp
    exact ⟨Grown.refl _, rfl⟩
  · intro w' hg _
    refine Or.inl ⟨rfl, ?_⟩
    have z := (s1.drew.grown hg).at0 0 rfl
    go_simp
    exact ⟨Grown.refl _, rfl⟩
  · intro w' hg _
    refine Or.inl ⟨rfl, ?_⟩
    go_simp
    exact ⟨Grown.refl _, rfl⟩
  · intro w' hg _
    refine Or.inl ⟨rfl, ?_⟩
    go_simp
    exact ⟨Grown.refl _, rfl⟩
  · intro w' hg _
    refine Or.inl ⟨rfl, ?_⟩
    go_simp
    exact ⟨Grown.refl _, rfl⟩
  · intro w' hg _
    refine Or.inl ⟨rfl, ?_⟩
    go_simp
    exact ⟨Grown.refl _, rfl⟩
  · intro w' hg _
    refine Or.inl ⟨rfl, ?_⟩
    have z := (s1.drew.grown hg).at0 0 rfl
    go_simp
    exact ⟨Grown.refl _, rfl⟩
  · intro w' hg _
    refine Or.inl ⟨rfl, ?_⟩
    go_simp
    exact ⟨Grown.refl _, rfl⟩
  · intro w' hg _
    refine Or.inl ⟨rfl, ?_⟩
    go_simp
    exact ⟨Grown.refl _, rfl⟩
  · intro w' hg _
    refine Or.inl ⟨rfl, ?_⟩
    go_simp
    exact ⟨Grown.refl _, rfl⟩
  · intro w' hg _
    refine Or.inl ⟨rfl, ?_⟩
    go_simp
    exact ⟨Grown.refl _, rfl⟩
  · intro w' hg _
    refine Or.inl ⟨rfl, ?_⟩
    have z := (s1.drew.grown hg).at0 2 rfl
    go_simp
    exact ⟨Grown.refl _, rfl⟩
  · intro w' hg _
    refine Or.inl ⟨rfl, ?_⟩
    go_simp
    exact ⟨Grown.refl _, rfl⟩
  · intro w' hg _
    refine Or.inl ⟨rfl, ?_⟩
    have z := (x1.drew.grown hg).at0 1 rfl
    go_simp
    exact ⟨Grown.refl _, rfl⟩
  · intro w' hg _
    refine Or.inl ⟨rfl, ?_⟩
    go_simp
    exact ⟨Grown.refl _, rfl⟩
  · intro w' hg _
    refine Or.inl ⟨rfl, ?_⟩
    go_simp
    exact ⟨Grown.refl _, rfl⟩
  · intro w' hg _
    refine Or.inl ⟨rfl, ?_⟩
    go_simp
    exact ⟨Grown.refl _, congrArg Value.bool (by simp)⟩
  · intro w' hg _
    refine Or.inl ⟨rfl, ?_⟩
    go_simp
    exact ⟨Grown.refl _, rfl⟩
  · intro w' hg _
    refine Or.inl ⟨rfl, ?_⟩
    go_simp
    exact ⟨Grown.refl _, rfl⟩
  · intro w' hg _
    refine Or.inl ⟨rfl, ?_⟩
    go_simp
    exact ⟨Grown.refl _, rfl⟩
  · intro w' hg _
    refine Or.inl ⟨rfl, ?_⟩
    go_simp
    refine (ddone_nil _).mono ?_
    rintro e w'' ⟨rfl, b9⟩
    exact ⟨_, rfl, b9, rfl⟩
  · intro w' hg _
    refine Or.inl ⟨rfl, ?_⟩
    go_simp
    exact ⟨Grown.refl _, rfl⟩
  · intro w' hg _
    refine Or.inl ⟨rfl, ?_⟩
    go_simp
    exact ⟨Grown.refl _, rfl⟩
  · intro w' hg _
    refine Or.inl ⟨rfl, ?_⟩
    go_simp
    exact ⟨Grown.refl _, rfl⟩
  · intro w' hg _
    refine Or.inl ⟨rfl, ?_⟩
    go_simp
    exact ⟨Grown.refl _, rfl⟩
  intro w5 hg _
  go_wp2
  go_ret
  exact ⟨rfl, grow (o1.trans ((Below.refl _ _).drew)) hg⟩

set_option maxHeartbeats 1000000 in
theorem droplive_else {st : Int} (A G V x G' : Int) (w : World) (h1 : st ≠ 1) (h2 : st ≠ 2) (h4 : st ≠ 4) :
    Calls Tryz.prog 8 #[.agg #[.int .i64 st, .int .i64 A, .int .i64 G, .int .i64 V], .agg #[.int .i64 x, .int .i64 G']] w fun e w' => e = .returned (.bool true) ∧ Below w.heap.size w w' := by
  have lv := fun w => dlive_any st A G V x G' w
  rw [show lifeB st = false by simp [lifeB, h1, h2, h4], Bool.false_and] at lv
  have f0 : ∀ (a1 a2 a3 a4 : Value) (w : World), (Instr.field 39 (.agg #[a1, a2, a3, a4]) 0).run Tryz.prog w = .ok a1 w := fun a1 a2 a3 a4 w => by kernel_rfl
  go_enter Tryz.func8, Tryz.ntmps8
  go_wp2
  refine wp_over (fun W => At W w.heap.size 0 48 #[.int .i64 st, .int .i64 A, .int .i64 G, .int .i64 V] [.int .i64 st, .int .i64 A, .int .i64 G, .int .i64 V] ∧ At W (w.heap.size + 1) 0 44 #[.int .i64 x, .int .i64 G'] [.int .i64 x, .int .i64 G'] ∧ Below w.heap.size w W) ⟨(At.new _ _ _).grown (grow1 _ _), At.new2 _ _ _ _, grow_alloc (grow1 _ _) _⟩ ?_
  rintro W ⟨s1, x1, o1⟩
  refine wp_region_rely Grown [.val (.bool true), .val (.bool true), .val (.agg #[.int .i64 st, .int .i64 A, .int .i64 G, .int .i64 V]), .val (.agg #[.int .i64 x, .int .i64 G']), .val (.bool false), .val (.pointer (some ⟨w.heap.size, 0, none⟩)), .val (.int .i64 st), .val (.bool false), .val (.bool false), .val (.pointer (some ⟨w.heap.size, 0, none⟩)), .val (.int .i64 st), .val (.bool false), .val (.bool false), .val (.bool false), .val (.pointer (some ⟨w.heap.size, 0, none⟩)), .val (.int .i64 st), .val (.bool false), .val (.bool false), .val (.bool false), .val undef, .val undef, .val undef, .val undef, .val undef, .val (.bool false), .val (.bool true), .val (.bool true), .val (.bool true), .val (.pointer none), .val (.agg #[.int .i64 1, .int .u64 0, .int .i64 0, .int .i64 0]), .val (.int .i64 1), .val (.bool true), .val (.bool true), .val (.bool true)] (by kernel_rfl) Grown.refl Grown.trans (by kernel_rfl) (by kernel_rfl) (by kernel_rfl) ?_
  simp only [relyAll, Act.put, List.setIfInBounds_toArray, List.set_cons_zero, List.set_cons_succ]
  refine ⟨?_, ?_, ?_, ?_, ?_, ?_, ?_, ?_, ?_, ?_, ?_, ?_, ?_, ?_, ?_, ?_, ?_, ?_, ?_, ?_, ?_, ?_, ?_, ?_, ?_, ?_, ?_, ?_, ?_, ?_, ?_, ?_, ?_, ?_, ?_⟩
  · intro w' hg _
    refine Or.inl ⟨rfl, ?_⟩
    go_simp
    refine (awake09_any _).mono ?_
    rintro e w'' ⟨rfl, b9⟩
    exact ⟨_, rfl, b9, rfl⟩
  · intro w' hg _
    refine Or.inl ⟨rfl, ?_⟩
    go_simp
    exact ⟨Grown.refl _, rfl⟩
  · intro w' hg _
    refine Or.inl ⟨rfl, ?_⟩
    have z0 := (s1.drew.grown hg).at0 0 rfl
    have z1 := (s1.drew.grown hg).at0 1 rfl
    have z2 := (s1.drew.grown hg).at0 2 rfl
    have z3 := (s1.drew.grown hg).at0 3 rfl
    go_simp
    exact ⟨Grown.refl _, rfl⟩
  · intro w' hg _
    refine Or.inl ⟨rfl, ?_⟩
    have z0 := (x1.drew.grown hg).at0 0 rfl
    have z1 := (x1.drew.grown hg).at0 1 rfl
    go_simp
    exact ⟨Grown.refl _, rfl⟩
  · intro w' hg _
    refine Or.inl ⟨rfl, ?_⟩
    go_simp
    refine (lv _).mono ?_
    rintro e w'' ⟨rfl, b9⟩
    exact ⟨_, rfl, b9, rfl⟩
  · intro w' hg _
    refine Or.inl ⟨rfl, ?_⟩
    go_simp
    exact ⟨Grown.refl _, rfl⟩
  · intro w' hg _
    refine Or.inl ⟨rfl, ?_⟩
    have z := (s1.drew.grown hg).at0 0 rfl
    go_simp
    exact ⟨Grown.refl _, rfl⟩
  · intro w' hg _
    refine Or.inl ⟨rfl, ?_⟩
    go_simp
    exact ⟨Grown.refl _, congrArg Value.bool (by simp [h1])⟩
  · intro w' hg _
    refine Or.inl ⟨rfl, ?_⟩
    go_simp
    exact ⟨Grown.refl _, rfl⟩
  · intro w' hg _
    refine Or.inl ⟨rfl, ?_⟩
    go_simp
    exact ⟨Grown.refl _, rfl⟩
  · intro w' hg _
    refine Or.inl ⟨rfl, ?_⟩
    have z := (s1.drew.grown hg).at0 0 rfl
    go_simp
    exact ⟨Grown.refl _, rfl⟩
  · intro w' hg _
    refine Or.inl ⟨rfl, ?_⟩
    go_simp
    exact ⟨Grown.refl _, congrArg Value.bool (by simp [h2])⟩
  · intro w' hg _
    refine Or.inl ⟨rfl, ?_⟩
    go_simp
    exact ⟨Grown.refl _, rfl⟩
  · intro w' hg _
    refine Or.inl ⟨rfl, ?_⟩
    go_simp
    exact ⟨Grown.refl _, rfl⟩
  · intro w' hg _
    refine Or.inl ⟨rfl, ?_⟩
    go_simp
    exact ⟨Grown.refl _, rfl⟩
  · intro w' hg _
    refine Or.inl ⟨rfl, ?_⟩
    have z := (s1.drew.grown hg).at0 0 rfl
    go_simp
    exact ⟨Grown.refl _, rfl⟩
  · intro w' hg _
    refine Or.inl ⟨rfl, ?_⟩
    go_simp
    exact ⟨Grown.refl _, congrArg Value.bool (by simp [h4])⟩
  · intro w' hg _
    refine Or.inl ⟨rfl, ?_⟩
    go_simp
    exact ⟨Grown.refl _, rfl⟩
  · intro w' hg _
    refine Or.inl ⟨rfl, ?_⟩
    go_simp
    exact ⟨Grown.refl _, rfl⟩
  · intro w' hg _
    exact Or.inr ⟨rfl, rfl⟩
  · intro w' hg _
    exact Or.inr ⟨rfl, rfl⟩
  · intro w' hg _
    exact Or.inr ⟨rfl, rfl⟩
  · intro w' hg _
    exact Or.inr ⟨rfl, rfl⟩
  · intro w' hg _
    exact Or.inr ⟨rfl, rfl⟩
  · intro w' hg _
    refine Or.inl ⟨rfl, ?_⟩
    go_simp
    exact ⟨Grown.refl _, rfl⟩
  · intro w' hg _
    refine Or.inl ⟨rfl, ?_⟩
    go_simp
    exact ⟨Grown.refl _, rfl⟩
  · intro w' hg _
    refine Or.inl ⟨rfl, ?_⟩
    go_simp
    exact ⟨Grown.refl _, rfl⟩
  · intro w' hg _
    refine Or.inl ⟨rfl, ?_⟩
    go_simp
    exact ⟨Grown.refl _, rfl⟩
  · intro w' hg _
    refine Or.inl ⟨rfl, ?_⟩
    go_simp
    exact ⟨Grown.refl _, rfl⟩
  · intro w' hg _
    refine Or.inl ⟨rfl, ?_⟩
    go_simp
    refine (ddone_nil _).mono ?_
    rintro e w'' ⟨rfl, b9⟩
    exact ⟨_, rfl, b9, rfl⟩
  · intro w' hg _
    refine Or.inl ⟨rfl, ?_⟩
    go_simp
    exact ⟨Grown.refl _, rfl⟩
  · intro w' hg _
    refine Or.inl ⟨rfl, ?_⟩
    go_simp
    exact ⟨Grown.refl _, rfl⟩
  · intro w' hg _
    refine Or.inl ⟨rfl, ?_⟩
    go_simp
    exact ⟨Grown.refl _, rfl⟩
  · intro w' hg _
    refine Or.inl ⟨rfl, ?_⟩
    go_simp
    exact ⟨Grown.refl _, rfl⟩
  intro w5 hg _
  go_wp2
  go_ret
  exact ⟨rfl, grow (o1.trans ((Below.refl _ _).drew)) hg⟩

theorem droplive_any (st A G V x G' : Int) (w : World) :
    Calls Tryz.prog 8 #[.agg #[.int .i64 st, .int .i64 A, .int .i64 G, .int .i64 V], .agg #[.int .i64 x, .int .i64 G']] w fun e w' => e = .returned (.bool true) ∧ Below w.heap.size w w' := by
  rcases lifeB_cases st with ⟨rfl, -⟩ | ⟨-, rfl, -⟩ | ⟨-, -, rfl, -⟩ | ⟨h1, h2, h4, -⟩
  · exact droplive_1 A G V x G' w
  · exact droplive_2 A G V x G' w
  · exact droplive_4 A G V x G' w
  · exact droplive_else A G V x G' w h1 h2 h4

end Go.Proofs.YtbmiieaakbcncaaGreat
