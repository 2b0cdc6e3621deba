import Derived.Test.YtmnnhjhhhfabiaaGreatStruct
namespace Go.Proofs.YtmnnhjhhhfabiaaGreat
open Go.RowKit
section
variable {w w' : World} {b o : Nat} {T : TypeId} {c : Array Value} {nx ep : Int}
end
end Go.Proofs.YtmnnhjhhhfabiaaGreat
