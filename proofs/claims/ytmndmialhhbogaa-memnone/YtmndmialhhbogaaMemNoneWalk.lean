/- MemNone answers true for every two numbers, and leaves what was in memory. -/
import Derived.Test.YtmndmialhhbogaaMemnil
import Derived.Test.YtmndmialhhbogaaLow
namespace Go.Proofs.Ytmndmialhhbogaa
open Go.RowKit

theorem new_great (w : World) : Calls Try.prog 8 #[.int .i64 1048577] w fun e w' => e = .returned (.tuple #[.pointer none, .int .i64 1]) ∧ w' = w :=
  new_out 1048577 (by omega) w

theorem low12 (n : Int) : ∃ k : Nat, bits .and .i64 n 4095 = (k : Int) ∧ k < 4096 := by
  have h := i64_low n 4095 12 (by decide) (by decide)
  refine ⟨(n % 4096).toNat, ?_, by omega⟩
  rw [h]
  omega

set_option maxHeartbeats 1000000 in
theorem none_any (n a : Int) (w : World) :
    Calls Try.prog 6 #[.int .i64 n, .int .i64 a] w fun e w' => e = .returned (.bool true) ∧ Below w.heap.size w w' := by
  obtain ⟨k, hk, hk2⟩ := low12 n
  by_cases h : 1 ≤ k
  · go_enter Try.func6, Try.ntmps6
    go_wp2_with (first
      | (go_at_call 14; refine (by_nil _ _).mono ?_; rintro e w' ⟨rfl, rfl⟩)
      | (go_at_call 10; refine (load_nil _ _).mono ?_; rintro e w' ⟨rfl, rfl⟩)
      | (go_at_call 12; refine (cas_nil _ _ _ _).mono ?_; rintro e w' ⟨rfl, rfl⟩)
      | (go_at_call 13; refine (add_nil _ _ _).mono ?_; rintro e w' ⟨rfl, rfl⟩)
      | (go_at_call_of 8 (Value.int .i64 (k : Int)); refine (new_in k h (by omega) _).mono ?_; rintro e w1 ⟨L, rfl, h1, b1, f1⟩)
      | (go_at_call_of 8 (Value.int .i64 1048577); refine (new_great _).mono ?_; rintro e w' ⟨rfl, rfl⟩)
      | (go_at_call 8; refine (new_out (-1 - (k : Int)) (by omega) _).mono ?_; rintro e w' ⟨rfl, rfl⟩)
      | (go_at_call 9; refine (awake02_any _).mono ?_; rintro e w2 ⟨rfl, b2⟩)
      | (go_at_call 11; refine (store_nil _ _ _).mono ?_; rintro e w' ⟨rfl, rfl⟩)
      | (go_at_call 19; refine (len_nil _).mono ?_; rintro e w' ⟨rfl, rfl⟩)
      | (go_at_call 15; refine (steps_nil _).mono ?_; rintro e w' ⟨rfl, rfl⟩)
      | (go_at_call 16; refine (last_nil _).mono ?_; rintro e w3 ⟨rfl, b3⟩)
      | (go_at_call 17; refine (peek_nil _ _).mono ?_; rintro e w' ⟨rfl, rfl⟩)
      | (go_at_call 18; refine (when_nil _ _).mono ?_; rintro e w' ⟨rfl, rfl⟩))
    go_ret
    exact ⟨rfl, grow (grow b1 b2) b3⟩
  · have hk0 : (k : Int) < 1 := by omega
    go_enter Try.func6, Try.ntmps6
    go_wp2_with (first
      | (go_at_call 14; refine (by_nil _ _).mono ?_; rintro e w' ⟨rfl, rfl⟩)
      | (go_at_call 10; refine (load_nil _ _).mono ?_; rintro e w' ⟨rfl, rfl⟩)
      | (go_at_call 12; refine (cas_nil _ _ _ _).mono ?_; rintro e w' ⟨rfl, rfl⟩)
      | (go_at_call 13; refine (add_nil _ _ _).mono ?_; rintro e w' ⟨rfl, rfl⟩)
      | (go_at_call_of 8 (Value.int .i64 1048577); refine (new_great _).mono ?_; rintro e w' ⟨rfl, rfl⟩)
      | (go_at_call_of 8 (Value.int .i64 (k : Int)); refine (new_out (k : Int) (Or.inl hk0) _).mono ?_; rintro e w' ⟨rfl, rfl⟩)
      | (go_at_call 8; refine (new_out (-1 - (k : Int)) (by omega) _).mono ?_; rintro e w' ⟨rfl, rfl⟩)
      | (go_at_call 9; refine (awake02_any _).mono ?_; rintro e w2 ⟨rfl, b2⟩)
      | (go_at_call 11; refine (store_nil _ _ _).mono ?_; rintro e w' ⟨rfl, rfl⟩)
      | (go_at_call 19; refine (len_nil _).mono ?_; rintro e w' ⟨rfl, rfl⟩)
      | (go_at_call 15; refine (steps_nil _).mono ?_; rintro e w' ⟨rfl, rfl⟩)
      | (go_at_call 16; refine (last_nil _).mono ?_; rintro e w3 ⟨rfl, b3⟩)
      | (go_at_call 17; refine (peek_nil _ _).mono ?_; rintro e w' ⟨rfl, rfl⟩)
      | (go_at_call 18; refine (when_nil _ _).mono ?_; rintro e w' ⟨rfl, rfl⟩))
    go_ret
    refine ⟨?_, grow b2 b3⟩
    have hk1 : decide ((1 : Int) ≤ (k : Int)) = false := decide_eq_false (by omega)
    simp [hk1]

end Go.Proofs.Ytmndmialhhbogaa
