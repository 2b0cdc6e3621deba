/- The statements' own first look at package drop: an object goes once. -/
import Derived.Test.YtkgpffcnimmdkabGreatMovTurn
namespace Go.Proofs.YtkgpffcnimmdkabGreat
open Go.RowKit

section
variable {w0 w : World} {L : Loc} {bE σ : Nat} {s : Mm}

end

end Go.Proofs.YtkgpffcnimmdkabGreat
