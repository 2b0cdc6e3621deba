/- A want in a block of its own, some cells of which are laid in one statement. -/
import Derived.Test.YtcdmokbamakomaaGreatAccArgs
import Derived.Test.YtcdmokbamakomaaGreatPhaseEarly
namespace Go.Proofs.YtcdmokbamakomaaGreat
open Go.RowKit

namespace WtAt
variable {w w' : World} {X : Nat} {A : Wt}
end WtAt

section
variable {w0 w w' : World} {L : Loc} {bE t n k m σ nx : Nat} {s : Mm} {q : Q} {gen : Nat → Nat} {ls : List Ox} {cg : Int} {X : Nat}

end

end Go.Proofs.YtcdmokbamakomaaGreat
