/- The statements' own helper: an object lives by a handle, with a head of its own, and noughts. -/
import Derived.Test.YtcdmokbamakomaaGreatAllocMake
namespace Go.Proofs.YtcdmokbamakomaaGreat
open Go.RowKit

theorem packH_is (x G : Nat) (hx : x ≤ 65535) (hG : G ≤ 65535) : packH x G = x + G * 65536 := by
  unfold packH
  rw [cut_id x 16 (by omega) (by simp; omega), cut_id G 16 (by omega) (by simp; omega)]
theorem packOw_is (kd Z x G : Nat) (own : Bool) (hk : kd ≤ 3) (hZ : Z ≤ 65535) (hx : x ≤ 65535) (hG : G ≤ 65535) : packOw kd Z x G own = kd + Z * 4 + x * 262144 + G * 17179869184 + (if own then 1125899906842624 else 0) := by
  unfold packOw packO
  rw [cut_id kd 2 (by omega) (by simp; omega), cut_id Z 16 (by omega) (by simp; omega), cut_id x 16 (by omega) (by simp; omega), cut_id G 16 (by omega) (by simp; omega)]
  cases own <;> simp

theorem size_room {Z κ : Nat} (h1 : 1 ≤ Z) (hK : classOf Z = κ) : Z + 1 ≤ room κ := by
  have : (Z ≤ 2 ∧ κ = 0) ∨ (Z ≤ 4 ∧ κ = 1) ∨ (Z ≤ 8 ∧ κ = 2) ∨ (Z ≤ 16 ∧ κ = 3) := by
    unfold classOf at hK
    repeat' split at hK
    all_goals omega
  rcases this with ⟨h, rfl⟩ | ⟨h, rfl⟩ | ⟨h, rfl⟩ | ⟨h, rfl⟩ <;> simp only [room] <;> omega

end Go.Proofs.YtcdmokbamakomaaGreat
