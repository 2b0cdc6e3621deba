import Derived.Test.YtpbghmeikcphnabGreatAllocSolo
import Derived.Test.YtpbghmeikcphnabGreatPhaseTail
namespace Go.Proofs.YtpbghmeikcphnabGreat
open Go.RowKit
section
variable {w0 w w':World} {L:Loc} {bE t n k m σ nx:Nat} {s:Mm} {q:Q} {own:Bool}
end
end Go.Proofs.YtpbghmeikcphnabGreat
