/- As Phase; and operations that the first writer waits for are told that nothing was written yet. -/
import Derived.Test.YtcdmokbamakomaaGreatPhase
namespace Go.Proofs.YtcdmokbamakomaaGreat
open Go.RowKit

section
variable {P : Program} {ops : Array Oper} {Q : Exit → Act → World → Prop} {R : World → World → Prop}

variable {G : World → World → Prop} {Φ : Nat → World → Prop} {ws es : List Nat}

end
end Go.Proofs.YtcdmokbamakomaaGreat
