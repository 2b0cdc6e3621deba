import Derived.Test.YtpbghmeikcphnaaGreatLstTidy
namespace Go.Proofs.YtpbghmeikcphnaaGreat
open Go.RowKit
section
variable {t n k m σ:Nat} {q:Q} {h:Gh} {jb:Nat->Jb} {hd:Nat} {F:List Nat} {u:Hi} {ts:Nat->Option (Cl × Option Rs)} {ln:Nat} {z:Nat->Bool}
end
end Go.Proofs.YtpbghmeikcphnaaGreat
