/- The lowest bits of an int, told by dividing. No condition but that there are fewer than 63. -/
import Derived.Test.YtocmkmeikcejjaaMath
namespace Go.Proofs.Ytocmkmeikcejjaa
open Go.RowKit

/-- the lowest b bits of an int -/
theorem i64_low (n m : Int) (b : Nat) (hb : b < 63) (hm : m = 2 ^ b - 1) : bits .and .i64 n m = n % (m + 1) := by
  subst hm
  have hp := pow_lt b (by omega)
  have hp2 : (2 : Int) ^ b ≤ 4611686018427387904 := by simpa using pow_le b 62 (by omega)
  have hd : (2 : Int) ^ b ∣ 18446744073709551616 := by
    have : (2 : Int) ^ 64 = 2 ^ b * 2 ^ (64 - b) := by rw [← Int.pow_add]; congr 1; omega
    exact ⟨2 ^ (64 - b), by rw [← this]; decide⟩
  have e1 : (BitVec.ofInt 64 ((2 : Int) ^ b - 1)).toNat = 2 ^ b - 1 := by
    rw [BitVec.toNat_ofInt]
    have : ((2 ^ b : Nat) : Int) = (2 : Int) ^ b := by simp
    rw [Int.emod_eq_of_lt (by omega) (by simp; omega)]
    omega
  have e2 : (((BitVec.ofInt 64 n).toNat : Nat) : Int) = n % 18446744073709551616 := by
    rw [BitVec.toNat_ofInt]
    simp only [Nat.reducePow]
    omega
  show IntKind.i64.wrap (((BitVec.ofInt 64 n &&& BitVec.ofInt 64 (2 ^ b - 1)).toNat : Nat) : Int) = _
  rw [BitVec.toNat_and, e1, Nat.and_two_pow_sub_one_eq_mod]
  have e3 : (((BitVec.ofInt 64 n).toNat % 2 ^ b : Nat) : Int) = n % 2 ^ b := by
    push_cast
    rw [e2, Int.emod_emod_of_dvd _ hd]
  rw [e3, show (2 : Int) ^ b - 1 + 1 = 2 ^ b from by omega, IntKind.wrap_i64]
  have h1 := Int.emod_nonneg n (b := 2 ^ b) (by omega)
  have h2 := Int.emod_lt_of_pos n (b := 2 ^ b) (by omega)
  omega

end Go.Proofs.Ytocmkmeikcejjaa
