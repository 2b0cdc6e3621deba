import Derived.Test.YtpbghmeikcphnaaGreatLstChain
namespace Go.Proofs.YtpbghmeikcphnaaGreat
open Go.RowKit
def Em (k:IntKind) (w:World) (ao:Option Addr) (n:Nat) (z:Nat->Int):Prop :=
 ∀ i,i<n->∃ b off,ao=some ⟨b,off,none⟩/\w.cell? ⟨b,off+i,none⟩=some (.int k (z i))
end Go.Proofs.YtpbghmeikcphnaaGreat
