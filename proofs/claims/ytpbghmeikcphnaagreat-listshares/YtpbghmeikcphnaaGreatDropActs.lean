import Derived.Test.YtpbghmeikcphnaaGreatAccLoad
namespace Go.Proofs.YtpbghmeikcphnaaGreat
open Go.RowKit
section
variable {w0 w:World} {L:Loc} {bE t n k m σ nx:Nat} {cg:Int} {s:Mm} {q:Q} {gen:Nat->Nat} {ls:List Ox} {own:Bool}
end
end Go.Proofs.YtpbghmeikcphnaaGreat
