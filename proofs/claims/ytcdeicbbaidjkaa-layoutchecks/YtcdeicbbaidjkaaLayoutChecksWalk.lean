/- LayoutChecks answers true for every arena, and leaves what was in memory. -/
import Derived.Test.YtcdeicbbaidjkaaLayRef
import Derived.Test.YtcdeicbbaidjkaaLayAwake
namespace Go.Proofs.Ytcdeicbbaidjkaa
open Go.RowKit

set_option maxHeartbeats 1000000 in
theorem layoutChecks_any (t s k n g p r : Int) (w : World) :
    Calls Try.prog 3 #[.agg #[.int .i64 t, .int .i64 s, .int .i64 k, .int .i64 n, .int .i64 g, .int .i64 p, .int .i64 r]] w fun e w' => e = .returned (.bool true) ∧ Below w.heap.size w w' := by
  obtain ⟨x, hx⟩ : ∃ x, x = may t s k n g p r := ⟨_, rfl⟩
  have HX : Hid (x = may t s k n g p r) := hx
  clear hx
  go_enter Try.func3, Try.ntmps3
  go_wp2
  refine wp_over (fun W => CfgAt W w.heap.size t s k n g p r ∧ Below w.heap.size w W) ⟨CfgAt.new, grow_alloc (Below.refl _ _) _⟩ ?_
  rintro W ⟨hc, hb⟩
  have e0 := fun N : Later W => (hc.grown N.below).c0
  have e1 := fun N : Later W => (hc.grown N.below).c1
  have e2 := fun N : Later W => (hc.grown N.below).c2
  have e3 := fun N : Later W => (hc.grown N.below).c3
  have e4 := fun N : Later W => (hc.grown N.below).c4
  have e5 := fun N : Later W => (hc.grown N.below).c5
  have e6 := fun N : Later W => (hc.grown N.below).c6
  haveI := Later.exists W
  refine wp_region_later (by kernel_rfl) (by kernel_rfl) ?_
  repeat (go_big_quiet_step ((first
    | (go_at_call 9; exact Calls.later (awake04_any _))
    | (go_at_call 10; refine Calls.later (v := .bool x) ?_; rw [HX.out]; exact lcheck_any _ _ _ _ _ _ _ _)
    | (go_at_call 11; refine Calls.later (v := .bool x) ?_; rw [HX.out]; exact rcheck_any _ _ _ _ _ _ _ _))))
  refine wpQuiet_nil ?_
  rintro _ ⟨nq, rfl⟩
  go_wp2
  go_ret
  exact ⟨rfl, grow hb nq.below⟩

end Go.Proofs.Ytcdeicbbaidjkaa
