/- One object that several let go at the same time, told without a program: what stays true, and that each ends. -/
import Derived.Test.YtcdmokbamakomaaGreatDropFarm
namespace Go.Proofs.YtcdmokbamakomaaGreat
open Go.RowKit

section
variable {t n k m x G A Z i : Nat} {vL cg : Int}

theorem behind_st (cg v : Int) : behindW cg v % 8 = 0 ∨ behindW cg v % 8 = 3 := by
  unfold behindW
  have hg := genOf_le v
  split
  · have := packS_dec (st := 3) (A := 0) (G := genOf v) (V := 0) (by decide) (by decide) hg (by decide)
    exact Or.inr this.1
  · left
    unfold packS
    rw [cut_id 0 3 (by omega) (by decide), cut_id 0 20 (by omega) (by decide), cut_id 0 22 (by omega) (by decide)]
    omega

theorem behind_dead (cg v : Int) : lifeB (behindW cg v % 8) = false := by
  rcases behind_st cg v with h | h <;> rw [h] <;> rfl

end

section
variable {t n k m x G A Z i : Nat} {vL cg : Int} {ow own : Bool} {q q' : Q}

end

end Go.Proofs.YtcdmokbamakomaaGreat
