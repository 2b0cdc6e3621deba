import Derived.Test.YtkgpffcnimmdkaaGreatMovTurn
namespace Go.Proofs.YtkgpffcnimmdkaaGreat
open Go.RowKit
section
variable {w0 w : World} {L : Loc} {bE σ : Nat} {s : Mm}
end
end Go.Proofs.YtkgpffcnimmdkaaGreat
