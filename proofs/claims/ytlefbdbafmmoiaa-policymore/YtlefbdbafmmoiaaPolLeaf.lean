/- Two products, held against each other in 128 bits; which chunks may be evacuated. No condition but that numbers are numbers. -/
import Derived.Test.YtlefbdbafmmoiaaProg
import Derived.Test.YtlefbdbafmmoiaaPolMath
namespace Go.Proofs.Ytlefbdbafmmoiaa
open Go.RowKit

set_option maxHeartbeats 1000000 in
theorem mul64_any (x y : Int) (x0 : 0 ≤ x) (x1 : x ≤ 18446744073709551615) (y0 : 0 ≤ y) (y1 : y ≤ 18446744073709551615) (w : World) :
    Calls Try.prog 15 #[.int .u64 x, .int .u64 y] w fun e w' => e = .returned (.tuple #[.int .u64 (x * y / 18446744073709551616), .int .u64 (x * y % 18446744073709551616)]) ∧ w' = w := by
  go_enter Try.func15, Try.ntmps15
  go_wp2
  go_ret2
  refine ⟨?_, rfl⟩
  rw [← hi_eq x y x0 x1 y0 y1, ← lo_eq]
  rfl

theorem upper_pp {a b : Int} (ha : Fit a) (hb : Fit b) (h1 : ¬ a < 0) (h2 : ¬ b < 0) : wrap64 (IntKind.u64.wrap a * IntKind.u64.wrap b / 18446744073709551616) = upper a b ∧ IntKind.u64.wrap a * IntKind.u64.wrap b % 18446744073709551616 = lower a b := by
  have hf := full_bd ha hb
  obtain ⟨a0, a1⟩ := ha
  obtain ⟨b0, b1⟩ := hb
  rw [wrap_small a (by omega) (by omega), wrap_small b (by omega) (by omega)]
  unfold upper lower wrap64
  generalize a * b = P at *
  omega
theorem neg_word {a : Int} (ha : Fit a) (h : a < 0) : IntKind.u64.wrap a = a + 18446744073709551616 := by
  obtain ⟨a0, a1⟩ := ha
  rw [IntKind.wrap_u64]; omega
theorem pos_word {a : Int} (ha : Fit a) (h : ¬ a < 0) : IntKind.u64.wrap a = a := by
  obtain ⟨a0, a1⟩ := ha
  rw [IntKind.wrap_u64]; omega
theorem upper_np {a b : Int} (ha : Fit a) (hb : Fit b) (h1 : a < 0) (h2 : ¬ b < 0) : wrap64 (wrap64 (IntKind.u64.wrap a * IntKind.u64.wrap b / 18446744073709551616) - b) = upper a b ∧ IntKind.u64.wrap a * IntKind.u64.wrap b % 18446744073709551616 = lower a b := by
  have hf := full_bd ha hb
  rw [neg_word ha h1, pos_word hb h2, Int.add_mul]
  obtain ⟨a0, a1⟩ := ha
  obtain ⟨b0, b1⟩ := hb
  unfold upper lower wrap64
  generalize a * b = P at *
  omega
theorem upper_pn {a b : Int} (ha : Fit a) (hb : Fit b) (h1 : ¬ a < 0) (h2 : b < 0) : wrap64 (wrap64 (IntKind.u64.wrap a * IntKind.u64.wrap b / 18446744073709551616) - a) = upper a b ∧ IntKind.u64.wrap a * IntKind.u64.wrap b % 18446744073709551616 = lower a b := by
  have hf := full_bd ha hb
  rw [pos_word ha h1, neg_word hb h2, Int.mul_add]
  obtain ⟨a0, a1⟩ := ha
  obtain ⟨b0, b1⟩ := hb
  unfold upper lower wrap64
  generalize a * b = P at *
  omega
theorem upper_nn {a b : Int} (ha : Fit a) (hb : Fit b) (h1 : a < 0) (h2 : b < 0) : wrap64 (wrap64 (wrap64 (IntKind.u64.wrap a * IntKind.u64.wrap b / 18446744073709551616) - b) - a) = upper a b ∧ IntKind.u64.wrap a * IntKind.u64.wrap b % 18446744073709551616 = lower a b := by
  have hf := full_bd ha hb
  rw [neg_word ha h1, neg_word hb h2, Int.add_mul, Int.mul_add]
  obtain ⟨a0, a1⟩ := ha
  obtain ⟨b0, b1⟩ := hb
  unfold upper lower wrap64
  generalize a * b = P at *
  omega

theorem word_bd (a : Int) : 0 ≤ IntKind.u64.wrap a ∧ IntKind.u64.wrap a ≤ 18446744073709551615 := by
  rw [IntKind.wrap_u64]; omega

set_option maxHeartbeats 1000000 in
theorem product_any (a b : Int) (ha : Fit a) (hb : Fit b) (w : World) :
    Calls Try.prog 14 #[.int .i64 a, .int .i64 b] w fun e w' => e = .returned (.tuple #[.int .i64 (upper a b), .int .u64 (lower a b)]) ∧ w' = w := by
  have M := fun w => mul64_any (IntKind.u64.wrap a) (IntKind.u64.wrap b) (word_bd a).1 (word_bd a).2 (word_bd b).1 (word_bd b).2 w
  by_cases h1 : a < 0 <;> by_cases h2 : b < 0
  · have U := upper_nn ha hb h1 h2
    have HU : Hid _ := U
    clear U
    go_enter Try.func14, Try.ntmps14
    go_wp2_with (go_at_call 15; refine (M _).mono ?_; rintro e w1 ⟨rfl, rfl⟩)
    go_ret2
    obtain ⟨U1, U2⟩ := HU.out
    rw [← U1, ← U2]; exact ⟨rfl, rfl⟩
  · have U := upper_np ha hb h1 h2
    have HU : Hid _ := U
    clear U
    go_enter Try.func14, Try.ntmps14
    go_wp2_with (go_at_call 15; refine (M _).mono ?_; rintro e w1 ⟨rfl, rfl⟩)
    go_ret2
    obtain ⟨U1, U2⟩ := HU.out
    rw [← U1, ← U2]; exact ⟨rfl, rfl⟩
  · have U := upper_pn ha hb h1 h2
    have HU : Hid _ := U
    clear U
    go_enter Try.func14, Try.ntmps14
    go_wp2_with (go_at_call 15; refine (M _).mono ?_; rintro e w1 ⟨rfl, rfl⟩)
    go_ret2
    obtain ⟨U1, U2⟩ := HU.out
    rw [← U1, ← U2]; exact ⟨rfl, rfl⟩
  · have U := upper_pp ha hb h1 h2
    have HU : Hid _ := U
    clear U
    go_enter Try.func14, Try.ntmps14
    go_wp2_with (go_at_call 15; refine (M _).mono ?_; rintro e w1 ⟨rfl, rfl⟩)
    go_ret2
    obtain ⟨U1, U2⟩ := HU.out
    rw [← U1, ← U2]; exact ⟨rfl, rfl⟩

theorem less_eq (a b x y : Int) : (a * b < x * y) ↔ (upper a b < upper x y ∨ upper a b = upper x y ∧ lower a b < lower x y) := by
  unfold upper lower
  generalize a * b = P
  generalize x * y = R
  omega

set_option maxHeartbeats 1000000 in
theorem less_any (a b x y : Int) (ha : Fit a) (hb : Fit b) (hx : Fit x) (hy : Fit y) (w : World) :
    Calls Try.prog 13 #[.int .i64 a, .int .i64 b, .int .i64 x, .int .i64 y] w fun e w' => e = .returned (.bool (decide (a * b < x * y))) ∧ w' = w := by
  have C1 := fun w => product_any a b ha hb w
  have C2 := fun w => product_any x y hx hy w
  have E := less_eq a b x y
  generalize upper a b = A at *
  generalize lower a b = B at *
  generalize upper x y = C at *
  generalize lower x y = D at *
  by_cases h1 : A < C
  · have hd : decide (a * b < x * y) = true := decide_eq_true (E.2 (Or.inl h1))
    have HD : Hid _ := hd
    clear hd E
    go_enter Try.func13, Try.ntmps13
    go_wp2_with (first
      | (go_at_call_of 14 (Value.int IntKind.i64 a); refine (C1 _).mono ?_; rintro e w1 ⟨rfl, rfl⟩)
      | (go_at_call_of 14 (Value.int IntKind.i64 x); refine (C2 _).mono ?_; rintro e w1 ⟨rfl, rfl⟩))
    go_ret
    rw [HD.out]; exact ⟨rfl, rfl⟩
  · by_cases h2 : A = C
    · subst h2
      by_cases h3 : B < D
      · have hd : decide (a * b < x * y) = true := decide_eq_true (E.2 (Or.inr ⟨rfl, h3⟩))
        have HD : Hid _ := hd
        clear hd E
        go_enter Try.func13, Try.ntmps13
        go_wp2_with (first
          | (go_at_call_of 14 (Value.int IntKind.i64 a); refine (C1 _).mono ?_; rintro e w1 ⟨rfl, rfl⟩)
          | (go_at_call_of 14 (Value.int IntKind.i64 x); refine (C2 _).mono ?_; rintro e w1 ⟨rfl, rfl⟩))
        go_ret
        rw [HD.out]; exact ⟨rfl, rfl⟩
      · have hd : decide (a * b < x * y) = false := decide_eq_false (fun h => by have := E.1 h; omega)
        have hq : decide (B < D) = false := decide_eq_false h3
        have HD : Hid _ := hd
        clear hd E
        go_enter Try.func13, Try.ntmps13
        go_wp2_with (first
          | (go_at_call_of 14 (Value.int IntKind.i64 a); refine (C1 _).mono ?_; rintro e w1 ⟨rfl, rfl⟩)
          | (go_at_call_of 14 (Value.int IntKind.i64 x); refine (C2 _).mono ?_; rintro e w1 ⟨rfl, rfl⟩))
        go_ret
        rw [HD.out]; exact ⟨rfl, rfl⟩
    · have hd : decide (a * b < x * y) = false := decide_eq_false (fun h => by have := E.1 h; omega)
      have hq : decide (A < C) = false := decide_eq_false h1
      have hq2 : (A == C) = false := by simpa using h2
      have HD : Hid _ := hd
      clear hd E
      go_enter Try.func13, Try.ntmps13
      go_wp2_with (first
        | (go_at_call_of 14 (Value.int IntKind.i64 a); refine (C1 _).mono ?_; rintro e w1 ⟨rfl, rfl⟩)
        | (go_at_call_of 14 (Value.int IntKind.i64 x); refine (C2 _).mono ?_; rintro e w1 ⟨rfl, rfl⟩))
      go_ret
      rw [HD.out]; exact ⟨rfl, rfl⟩

end Go.Proofs.Ytlefbdbafmmoiaa
