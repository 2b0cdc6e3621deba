/- One who reads or lays words of an object alone, step by step, told without a program. -/
import Derived.Test.YtcdmokbamakomaaGreatAccWant
namespace Go.Proofs.YtcdmokbamakomaaGreat
open Go.RowKit

section
variable {t n k m x G Z i σ : Nat} {v : Int} {q q' : Q} {W : Wt}

end

end Go.Proofs.YtcdmokbamakomaaGreat
