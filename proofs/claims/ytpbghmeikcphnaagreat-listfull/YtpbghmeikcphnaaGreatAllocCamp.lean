import Derived.Test.YtpbghmeikcphnaaGreatAllocSolo
import Derived.Test.YtpbghmeikcphnaaGreatPhaseTail
namespace Go.Proofs.YtpbghmeikcphnaaGreat
open Go.RowKit
section
variable {w0 w w':World} {L:Loc} {bE t n k m σ nx:Nat} {s:Mm} {q:Q} {own:Bool}
end
end Go.Proofs.YtpbghmeikcphnaaGreat
