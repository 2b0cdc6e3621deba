/- Things that are wanted (api.Want), as they are handed in; what the statements make of their kinds and values. -/
import Derived.Test.YtcdmokbamakomaaGreatAccAwake
import Derived.Test.YtcdmokbamakomaaGreatArgs
namespace Go.Proofs.YtcdmokbamakomaaGreat
open Go.RowKit

/-- the first n wants behind the address are those of A -/
def WantsAt (w : World) (ao : Option Addr) (n : Nat) (A : Nat → Wt) : Prop :=
  ∀ i, i < n → ∃ b off, ao = some ⟨b, off, none⟩ ∧ w.cell? ⟨b, off + i * 5, none⟩ = some (.int .i64 (A i).kd) ∧ w.cell? ⟨b, off + i * 5 + 1, none⟩ = some (.int .u64 (A i).nu) ∧
    w.cell? ⟨b, off + i * 5 + 2, none⟩ = some (.int .i64 (A i).ix) ∧ w.cell? ⟨b, off + i * 5 + 3, none⟩ = some (.int .i64 (A i).vl) ∧ w.cell? ⟨b, off + i * 5 + 4, none⟩ = some (.int .i64 (A i).ol)

def WantFit (A : Wt) : Prop := Fit A.kd ∧ FitW A.nu ∧ Fit A.ix ∧ Fit A.vl ∧ Fit A.ol

/-- a kind: 1 to 3 -/
theorem kind3 (z : Int) : ∃ k : Int, 1 + z.tmod 3 % 3 = k ∧ (k = 1 ∨ k = 2 ∨ k = 3) ∧ -3 < z.tmod 3 ∧ z.tmod 3 < 3 := by
  have h1 : -(3 : Int) < z.tmod 3 := Int.lt_tmod_of_pos z (by omega)
  have h3 : z.tmod 3 < 3 := Int.tmod_lt_of_pos z (by omega)
  exact ⟨1 + z.tmod 3 % 3, rfl, by omega, h1, h3⟩

/-- a value that may be -/
theorem value_any (z : Int) : ∃ y : Int, (0 ≤ y ∧ y ≤ 1099511627775) ∧ ∀ w : World, Calls Tryz.prog 12 #[.int .i64 z] w fun e w' => e = .returned (.int .i64 y) ∧ w' = w := by
  obtain ⟨y, h1, h2, h3⟩ := lowAt z 1099511627775 40 0 (by decide) (by decide)
  have h1' : bits .and .i64 z 1099511627775 = (y : Int) := by rw [← h1]; omega
  refine ⟨y, ⟨by omega, by have : ((y : Nat) : Int) ≤ ((0 : Nat) : Int) + 1099511627775 := h3; omega⟩, fun w => ?_⟩
  go_enter Tryz.func12, Tryz.ntmps12
  go_wp2
  go_ret
  exact ⟨by rw [← h1']; rfl, rfl⟩

end Go.Proofs.YtcdmokbamakomaaGreat
