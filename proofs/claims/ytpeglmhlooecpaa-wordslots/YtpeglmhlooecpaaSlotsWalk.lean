/- WordSlots answers true for every handle's word and every word, and leaves what was in memory. -/
import Derived.Test.YtpeglmhlooecpaaLater
import Derived.Test.YtpeglmhlooecpaaAwake
import Derived.Test.YtpeglmhlooecpaaRefget
namespace Go.Proofs.Ytpeglmhlooecpaa
open Go.RowKit

set_option maxHeartbeats 1000000 in
theorem slots_any (a b c d y : Int) (w : World) (ha : Fit a) (hb : Fit b) (hc : Fit c) (hd : Fit d) (y0 : 0 ≤ y) (y1 : y ≤ 18446744073709551615) :
    Calls Try.prog 4 #[.agg #[.int .i64 a, .int .i64 b, .int .i64 c, .int .i64 d], .int .u64 y] w fun e w' => e = .returned (.bool true) ∧ Below w.heap.size w w' := by
  obtain ⟨x, hx⟩ : ∃ x, x = packS a b c d := ⟨_, rfl⟩
  have hxb : 0 ≤ x ∧ x ≤ 18446744073709551615 := by have := packS_bd a b c d; omega
  have HX : Hid (x = packS a b c d) := hx
  clear hx
  go_enter Try.func4, Try.ntmps4
  go_wp2_with (go_at_call 13; refine (putSlot_any _ _ _ _ _ ha hb hc hd).mono ?_; rintro e w1 ⟨rfl, b1⟩; rw [← HX.out])
  have z0 := b1.cell (p := ⟨w.heap.size, 0, none⟩) (by simp)
  have z1 := b1.cell (p := ⟨w.heap.size, 1, none⟩) (by simp)
  have z2 := b1.cell (p := ⟨w.heap.size, 2, none⟩) (by simp)
  have z3 := b1.cell (p := ⟨w.heap.size, 3, none⟩) (by simp)
  simp at z0 z1 z2 z3
  have n0 := fun n : Later w1 => n.cell z0
  have n1 := fun n : Later w1 => n.cell z1
  have n2 := fun n : Later w1 => n.cell z2
  have n3 := fun n : Later w1 => n.cell z3
  have B1 : Below w.heap.size w w1 := grow (grow_alloc (Below.refl _ _) _) b1
  clear z0 z1 z2 z3 b1
  haveI := Later.exists w1
  refine wp_region_later (by kernel_rfl) (by kernel_rfl) ?_
  have hcs : ¬ x % 8 = a ∨ (x % 8 = a ∧ ¬ x / 8 % 1048576 = b) ∨ (x % 8 = a ∧ x / 8 % 1048576 = b ∧ ¬ x / 8388608 % 65536 = c) ∨ (x % 8 = a ∧ x / 8 % 1048576 = b ∧ x / 8388608 % 65536 = c ∧ ¬ x / 549755813888 % 4194304 = d) ∨ (x % 8 = a ∧ x / 8 % 1048576 = b ∧ x / 8388608 % 65536 = c ∧ x / 549755813888 % 4194304 = d) := by omega
  rcases hcs with h0 | ⟨h0, h1⟩ | ⟨h0, h1, h2⟩ | ⟨h0, h1, h2, h3⟩ | ⟨h0, h1, h2, h3⟩
  all_goals
    repeat (go_big_quiet_step ((first
      | (go_at_call 11; exact Calls.later (awake_any _))
      | (go_at_call 14; refine Calls.later (v := .int .u64 x) ?_; rw [HX.out]; exact refSlot_any _ _ _ _ _ ha hb hc hd)
      | (go_at_call_of 15 x; exact Calls.later (slot_any _ _ hxb.1 hxb.2))
      | (go_at_call_of 15 y; exact Calls.later (slot_any _ _ y0 y1))
      | (go_at_call_of 16 x; exact Calls.later (refGetSlot_any _ _ hxb.1 hxb.2))
      | (go_at_call_of 16 y; exact Calls.later (refGetSlot_any _ _ y0 y1)))))
    refine wpQuiet_nil ?_
    intro _ hw'
    obtain ⟨nq, hw''⟩ := hw'
    subst hw''
    go_wp2
    go_ret
    exact ⟨rfl, grow B1 nq.below⟩

end Go.Proofs.Ytpeglmhlooecpaa
