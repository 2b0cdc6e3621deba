/- What the program's small functions come to, in any world and leaving it as it was: most, put and get of package word, for places within 64 bits. -/
import Derived.Test.YtocmkmeikcejjaaRows
import Derived.Test.YtocmkmeikcejjaaMath
namespace Go.Proofs.Ytocmkmeikcejjaa
open Go.RowKit

set_option maxHeartbeats 400000 in
theorem most_any (b : Int) (w : World) (h0 : 0 ≤ b) (h1 : b < 64) :
    Calls Try.prog 60 #[.int .u64 b] w fun e w' => e = .returned (.int .u64 (2 ^ b.toNat - 1)) ∧ w' = w := by
  go_enter Try.func60, Try.ntmps60
  go_wp2
  go_ret
  exact ⟨ret_int (most_eq _ (by omega)), rfl⟩

set_option maxHeartbeats 400000 in
theorem put_any (n a b : Int) (w : World) (hn0 : -9223372036854775808 ≤ n) (hn1 : n ≤ 9223372036854775807) (a0 : 0 ≤ a) (b0 : 0 ≤ b) (b1 : b < 64) (hab : a + b ≤ 64) :
    Calls Try.prog 43 #[.int .i64 n, .int .u64 a, .int .u64 b] w fun e w' => e = .returned (.int .u64 (cut n b.toNat * 2 ^ a.toNat)) ∧ w' = w := by
  by_cases h : n < 0
  · go_enter Try.func43, Try.ntmps43
    go_wp2
    go_ret
    exact ⟨ret_int (by rw [cut_neg _ _ h]; simp), rfl⟩
  · go_enter Try.func43, Try.ntmps43
    go_wp2_with (go_at_call 60; refine (most_any _ _ (by omega) (by omega)).mono ?_; rintro e w' ⟨rfl, rfl⟩)
    · go_ret
      refine ⟨ret_int ?_, rfl⟩
      have e := put_eq n a.toNat b.toNat (by omega)
      rw [cut_great n b.toNat (by omega) (by omega)] at e ⊢
      exact e
    · go_ret
      refine ⟨ret_int ?_, rfl⟩
      have e := put_eq n a.toNat b.toNat (by omega)
      rw [cut_id n b.toNat (by omega) (by omega)] at e ⊢
      exact e

set_option maxHeartbeats 400000 in
theorem get_any (x a b : Int) (w : World) (x0 : 0 ≤ x) (x1 : x ≤ 18446744073709551615) (a0 : 0 ≤ a) (a1 : a < 64) (b0 : 0 ≤ b) (b1 : b < 64) :
    Calls Try.prog 38 #[.int .u64 x, .int .u64 a, .int .u64 b] w fun e w' => e = .returned (.int .i64 (x / 2 ^ a.toNat % 2 ^ b.toNat)) ∧ w' = w := by
  go_enter Try.func38, Try.ntmps38
  go_wp2_with (go_at_call 60; refine (most_any _ _ (by omega) (by omega)).mono ?_; rintro e w' ⟨rfl, rfl⟩)
  go_ret
  exact ⟨ret_int (get_eq x a.toNat b.toNat x0 (by omega) (by omega)), rfl⟩

end Go.Proofs.Ytocmkmeikcejjaa
