/- The statements' own first look (awake) answers true, in any world; what was in memory stays. -/
import Derived.Test.YtpeglmhlooecpabUnword
namespace Go.Proofs.Ytpeglmhlooecpab
open Go.RowKit

theorem aw_handle (w : World) : Calls Try.prog 17 #[.int .u64 65539] w fun e w' => e = .returned (.tuple #[.agg #[.int .i64 3, .int .i64 1], .bool true]) ∧ Below w.heap.size w w' :=
  handle_yes 65539 w (by decide) (by decide)
theorem aw_putHandle (w : World) : Calls Try.prog 14 #[.agg #[.int .i64 3, .int .i64 1]] w fun e w' => e = .returned (.int .u64 65539) ∧ Below w.heap.size w w' :=
  putHandle_any 3 1 w ⟨by decide, by decide⟩ ⟨by decide, by decide⟩
theorem aw_putSlot (w : World) : Calls Try.prog 11 #[.agg #[.int .i64 1, .int .i64 9, .int .i64 0, .int .i64 0]] w fun e w' => e = .returned (.int .u64 73) ∧ Below w.heap.size w w' :=
  putSlot_any 1 9 0 0 w ⟨by decide, by decide⟩ ⟨by decide, by decide⟩ ⟨by decide, by decide⟩ ⟨by decide, by decide⟩
theorem aw_slot (w : World) : Calls Try.prog 13 #[.int .u64 73] w fun e w' => e = .returned (.agg #[.int .i64 1, .int .i64 9, .int .i64 0, .int .i64 0]) ∧ Below w.heap.size w w' :=
  slot_any 73 w (by decide) (by decide)
theorem aw_putTop (w : World) : Calls Try.prog 18 #[.int .i64 0, .int .i64 0] w fun e w' => e = .returned (.int .u64 1) ∧ w' = w :=
  putTop_any 0 0 w (by decide) (by decide) ⟨by decide, by decide⟩

theorem slot_addr (a b c d : Value) (w : World) : (Instr.field 23 (.agg #[a, b, c, d]) 1).run Try.prog w = .ok b w := by kernel_rfl

set_option maxHeartbeats 400000 in
theorem awake_any (w : World) :
    Calls Try.prog 10 #[] w fun e w' => e = .returned (.bool true) ∧ Below w.heap.size w w' := by
  have hfd := slot_addr
  go_enter Try.func10, Try.ntmps10
  go_wp2_with (first
    | (go_at_call 17; refine (aw_handle _).mono ?_; rintro e w1 ⟨rfl, b1⟩)
    | (go_at_call 14; refine (aw_putHandle _).mono ?_; rintro e w2 ⟨rfl, b2⟩)
    | (go_at_call 11; refine (aw_putSlot _).mono ?_; rintro e w3 ⟨rfl, b3⟩)
    | (go_at_call 13; refine (aw_slot _).mono ?_; rintro e w4 ⟨rfl, b4⟩)
    | (go_at_call 18; refine (aw_putTop _).mono ?_; rintro e w5 ⟨rfl, rfl⟩))
  go_ret
  exact ⟨rfl, grow (grow (grow (grow_alloc b1 _) b2) b3) b4⟩

end Go.Proofs.Ytpeglmhlooecpab
