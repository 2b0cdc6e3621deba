import Derived.Test.YtlolfmoolgenpaaGreatDropFarm
namespace Go.Proofs.YtlolfmoolgenpaaGreat
open Go.RowKit
section
variable {w0 w : World} {L : Loc} {bE σ : Nat} {s : Mm}
end
end Go.Proofs.YtlolfmoolgenpaaGreat
