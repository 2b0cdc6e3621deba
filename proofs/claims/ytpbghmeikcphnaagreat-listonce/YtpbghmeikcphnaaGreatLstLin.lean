import Derived.Test.YtpbghmeikcphnaaGreatLstNext
import Derived.Test.YtpbghmeikcphnaaGreatMobRoom
namespace Go.Proofs.YtpbghmeikcphnaaGreat
open Go.RowKit
section
variable {σ0 σ N:Nat} {u:Hi}
end
end Go.Proofs.YtpbghmeikcphnaaGreat
