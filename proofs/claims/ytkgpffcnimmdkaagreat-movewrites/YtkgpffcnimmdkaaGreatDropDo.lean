import Derived.Test.YtkgpffcnimmdkaaGreatDropHelp
import Derived.Test.YtkgpffcnimmdkaaGreatAllocCamp
namespace Go.Proofs.YtkgpffcnimmdkaaGreat
open Go.RowKit
namespace DpAt
variable {w w' : World} {b o : Nat} {T : TypeId} {c c' : Array Value}
end DpAt
end Go.Proofs.YtkgpffcnimmdkaaGreat

namespace Go.Proofs.YtkgpffcnimmdkaaGreat
open Go.RowKit
end Go.Proofs.YtkgpffcnimmdkaaGreat
