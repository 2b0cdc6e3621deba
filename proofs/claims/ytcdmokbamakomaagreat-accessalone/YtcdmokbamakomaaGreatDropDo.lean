/- One who lets an object go: its cells in a block, and what each write leaves. -/
import Derived.Test.YtcdmokbamakomaaGreatDropHelp
import Derived.Test.YtcdmokbamakomaaGreatAllocCamp
namespace Go.Proofs.YtcdmokbamakomaaGreat
open Go.RowKit

namespace DpAt
variable {w w' : World} {b o : Nat} {T : TypeId} {c c' : Array Value}

end DpAt

end Go.Proofs.YtcdmokbamakomaaGreat

/- What a step of one who lets an object go comes to (package drop), method by method. -/
namespace Go.Proofs.YtcdmokbamakomaaGreat
open Go.RowKit

end Go.Proofs.YtcdmokbamakomaaGreat
