import Derived.Test.YtmnnhjhhhfabiaaGreatMovAt
import Derived.Test.YtmnnhjhhhfabiaaGreatDropGo
namespace Go.Proofs.YtmnnhjhhhfabiaaGreat
open Go.RowKit
section
namespace rC
variable {w w' : World} {b o : Nat} {T : TypeId} {c c' : Array Value}
end rC
end
section
end
section
end
section
end
section
end
end Go.Proofs.YtmnnhjhhhfabiaaGreat
