/- LayoutClasses answers true for every size, and leaves what was in memory. -/
import Derived.Test.YtcdeicbbaidjkaaLayRef
import Derived.Test.YtcdeicbbaidjkaaLayAwake
namespace Go.Proofs.Ytcdeicbbaidjkaa
open Go.RowKit

theorem lclass_is (z c : Int) (h : classOf z = c) (w : World) : Calls Try.prog 23 #[.int .i64 z] w fun e w' => e = .returned (.int .i64 c) ∧ w' = w := by
  subst h; exact lclass_any z w

theorem rclass_is (z c : Int) (h : classOf z = c) (w : World) : Calls Try.prog 24 #[.int .i64 z] w fun e w' => e = .returned (.int .i64 c) ∧ Below w.heap.size w w' := by
  subst h; exact rclass_any z w

theorem lroom_is (c x : Int) (h0 : 0 ≤ c) (h1 : c ≤ 3) (h : 2 * 2 ^ c.toNat + 1 = x) (w : World) : Calls Try.prog 25 #[.int .i64 c] w fun e w' => e = .returned (.int .i64 x) ∧ w' = w := by
  subst h; exact lroom_any c w h0 h1

theorem rroom_is (c x : Int) (h0 : 0 ≤ c) (h1 : c ≤ 3) (h : 2 * 2 ^ c.toNat + 1 = x) (w : World) : Calls Try.prog 26 #[.int .i64 c] w fun e w' => e = .returned (.int .i64 x) ∧ Below w.heap.size w w' := by
  subst h; exact rroom_any c w h0 h1

theorem classOf_cases (z : Int) : (classOf z = -1) ∨ (classOf z = 0 ∧ 1 ≤ z ∧ z ≤ 2) ∨ (classOf z = 1 ∧ 3 ≤ z ∧ z ≤ 4) ∨ (classOf z = 2 ∧ 5 ≤ z ∧ z ≤ 8) ∨ (classOf z = 3 ∧ 9 ≤ z ∧ z ≤ 16) := by
  unfold classOf
  split
  · simp
  · split
    · right; left; omega
    · split
      · right; right; left; omega
      · split
        · right; right; right; left; omega
        · split
          · right; right; right; right; omega
          · simp

set_option maxHeartbeats 2000000 in
theorem layoutClasses_any (z : Int) (w : World) :
    Calls Try.prog 6 #[.int .i64 z] w fun e w' => e = .returned (.bool true) ∧ Below w.heap.size w w' := by
  rcases classOf_cases z with hc | ⟨hc, h1, h2⟩ | ⟨hc, h1, h2⟩ | ⟨hc, h1, h2⟩ | ⟨hc, h1, h2⟩
  · go_enter Try.func6, Try.ntmps6
    go_wp2_with (first
      | (go_at_call 23; refine (lclass_is _ _ hc _).mono ?_; rintro e w1 ⟨rfl, rfl⟩)
      | (go_at_call 9; refine (awake04_any _).mono ?_; rintro e w2 ⟨rfl, b2⟩)
      | (go_at_call 24; refine (rclass_is _ _ hc _).mono ?_; rintro e w3 ⟨rfl, b3⟩))
    go_ret
    exact ⟨rfl, grow b2 b3⟩
  · go_enter Try.func6, Try.ntmps6
    go_wp2_with (first
      | (go_at_call 23; refine (lclass_is _ _ hc _).mono ?_; rintro e w1 ⟨rfl, rfl⟩)
      | (go_at_call 9; refine (awake04_any _).mono ?_; rintro e w2 ⟨rfl, b2⟩)
      | (go_at_call 24; refine (rclass_is _ _ hc _).mono ?_; rintro e w3 ⟨rfl, b3⟩)
      | (go_at_call 25; refine (lroom_is 0 3 (by decide) (by decide) (by decide) _).mono ?_; rintro e w4 ⟨rfl, rfl⟩)
      | (go_at_call 26; refine (rroom_is 0 3 (by decide) (by decide) (by decide) _).mono ?_; rintro e w5 ⟨rfl, b5⟩))
    go_ret
    exact ⟨rfl, grow (grow b2 b3) b5⟩
  · go_enter Try.func6, Try.ntmps6
    go_wp2_with (first
      | (go_at_call 23; refine (lclass_is _ _ hc _).mono ?_; rintro e w1 ⟨rfl, rfl⟩)
      | (go_at_call 9; refine (awake04_any _).mono ?_; rintro e w2 ⟨rfl, b2⟩)
      | (go_at_call 24; refine (rclass_is _ _ hc _).mono ?_; rintro e w3 ⟨rfl, b3⟩)
      | (go_at_call_of 25 (Value.int .i64 1); refine (lroom_is 1 5 (by decide) (by decide) (by decide) _).mono ?_; rintro e w4 ⟨rfl, rfl⟩)
      | (go_at_call_of 25 (Value.int .i64 0); refine (lroom_is 0 3 (by decide) (by decide) (by decide) _).mono ?_; rintro e w4 ⟨rfl, rfl⟩)
      | (go_at_call 26; refine (rroom_is 1 5 (by decide) (by decide) (by decide) _).mono ?_; rintro e w5 ⟨rfl, b5⟩))
    go_ret
    exact ⟨rfl, grow (grow b2 b3) b5⟩
  · go_enter Try.func6, Try.ntmps6
    go_wp2_with (first
      | (go_at_call 23; refine (lclass_is _ _ hc _).mono ?_; rintro e w1 ⟨rfl, rfl⟩)
      | (go_at_call 9; refine (awake04_any _).mono ?_; rintro e w2 ⟨rfl, b2⟩)
      | (go_at_call 24; refine (rclass_is _ _ hc _).mono ?_; rintro e w3 ⟨rfl, b3⟩)
      | (go_at_call_of 25 (Value.int .i64 2); refine (lroom_is 2 9 (by decide) (by decide) (by decide) _).mono ?_; rintro e w4 ⟨rfl, rfl⟩)
      | (go_at_call_of 25 (Value.int .i64 1); refine (lroom_is 1 5 (by decide) (by decide) (by decide) _).mono ?_; rintro e w4 ⟨rfl, rfl⟩)
      | (go_at_call 26; refine (rroom_is 2 9 (by decide) (by decide) (by decide) _).mono ?_; rintro e w5 ⟨rfl, b5⟩))
    go_ret
    exact ⟨rfl, grow (grow b2 b3) b5⟩
  · go_enter Try.func6, Try.ntmps6
    go_wp2_with (first
      | (go_at_call 23; refine (lclass_is _ _ hc _).mono ?_; rintro e w1 ⟨rfl, rfl⟩)
      | (go_at_call 9; refine (awake04_any _).mono ?_; rintro e w2 ⟨rfl, b2⟩)
      | (go_at_call 24; refine (rclass_is _ _ hc _).mono ?_; rintro e w3 ⟨rfl, b3⟩)
      | (go_at_call_of 25 (Value.int .i64 3); refine (lroom_is 3 17 (by decide) (by decide) (by decide) _).mono ?_; rintro e w4 ⟨rfl, rfl⟩)
      | (go_at_call_of 25 (Value.int .i64 2); refine (lroom_is 2 9 (by decide) (by decide) (by decide) _).mono ?_; rintro e w4 ⟨rfl, rfl⟩)
      | (go_at_call 26; refine (rroom_is 3 17 (by decide) (by decide) (by decide) _).mono ?_; rintro e w5 ⟨rfl, b5⟩))
    go_ret
    exact ⟨rfl, grow (grow b2 b3) b5⟩

end Go.Proofs.Ytcdeicbbaidjkaa
