/- QueueNone answers true for every two numbers, and leaves what was in memory. -/
import Derived.Test.YtefgbmednphebaaQueueAwake
import Derived.Test.YtefgbmednphebaaLow
namespace Go.Proofs.Ytefgbmednphebaa
open Go.RowKit Go.Conc

theorem low9 (n : Int) : ∃ k : Nat, bits .and .i64 n 511 = (k : Int) ∧ k < 512 := by
  have h := i64_low n 511 9 (by decide) (by decide)
  refine ⟨(n % 512).toNat, ?_, by omega⟩
  rw [h]
  omega

set_option maxHeartbeats 1000000 in
theorem qnone_any (n x : Int) (w : World) :
    Calls Try.prog 5 #[.int .i64 n, .int .i64 x] w fun e w' => e = .returned (.bool true) ∧ Below w.heap.size w w' := by
  obtain ⟨k, hk, hk2⟩ := low9 n
  by_cases h : 1 ≤ k ∧ k ≤ 256
  · obtain ⟨ha, hb⟩ := h
    have ha' : (1 : Int) ≤ (k : Int) := by omega
    have hb' : (k : Int) ≤ 256 := by omega
    go_enter Try.func5, Try.ntmps5
    go_wp2_with (first
      | (go_at_call 7; refine (qnew_in k ha hb _).mono ?_; rintro e w1 ⟨L, rfl, h1, b1, f1⟩)
      | (go_at_call 8; refine (awake03_any _).mono ?_; rintro e w2 ⟨rfl, b2⟩)
      | (go_at_call 9; refine (qpop_nil _).mono ?_; rintro e w' ⟨rfl, rfl⟩)
      | (go_at_call 10; refine (qpush_nil _ _).mono ?_; rintro e w' ⟨rfl, rfl⟩)
      | (go_at_call 11; refine (qlen_nil _).mono ?_; rintro e w' ⟨rfl, rfl⟩)
      | (go_at_call 12; refine (qroom_nil _).mono ?_; rintro e w' ⟨rfl, rfl⟩))
    go_ret
    exact ⟨rfl, grow b1 b2⟩
  · have hc : decide ((1 : Int) ≤ (k : Int)) = false ∨ ((1 : Int) ≤ (k : Int) ∧ decide ((k : Int) ≤ 256) = false) := by
      by_cases h1 : 1 ≤ k
      · exact Or.inr ⟨by omega, decide_eq_false (by omega)⟩
      · exact Or.inl (decide_eq_false (by omega))
    have ho : (k : Int) < 1 ∨ 256 < (k : Int) := by omega
    clear h
    rcases hc with hc | ⟨ha', hc⟩
    all_goals
      go_enter Try.func5, Try.ntmps5
      go_wp2_with (first
        | (go_at_call 7; refine (qnew_out k ho _).mono ?_; rintro e w1 ⟨rfl, rfl⟩)
        | (go_at_call 8; refine (awake03_any _).mono ?_; rintro e w2 ⟨rfl, b2⟩)
        | (go_at_call 9; refine (qpop_nil _).mono ?_; rintro e w' ⟨rfl, rfl⟩)
        | (go_at_call 10; refine (qpush_nil _ _).mono ?_; rintro e w' ⟨rfl, rfl⟩)
        | (go_at_call 11; refine (qlen_nil _).mono ?_; rintro e w' ⟨rfl, rfl⟩)
        | (go_at_call 12; refine (qroom_nil _).mono ?_; rintro e w' ⟨rfl, rfl⟩))
      go_ret
      exact ⟨rfl, b2⟩

end Go.Proofs.Ytefgbmednphebaa
