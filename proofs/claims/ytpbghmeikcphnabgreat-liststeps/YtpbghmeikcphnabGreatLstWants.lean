import Derived.Test.YtpbghmeikcphnabGreatAbb
import Derived.Test.YtpbghmeikcphnabGreatLstChain
namespace Go.Proofs.YtpbghmeikcphnabGreat
open Go.RowKit
structure W3 where
 who:Nat->Int
 kd:Nat->Int
 ky:Nat->Int
def PR (W:World) (ao:Option Addr) (n:Nat) (A:W3):Prop:=∀ i,i<n->∃ b o,ao=some ⟨b,o,none⟩/\W.cell? ⟨b,o+i * 3,none⟩=some (iV (A.who i))/\W.cell? ⟨b,o+i * 3+1,none⟩=some (iV (A.kd i))/\W.cell? ⟨b,o+i * 3+2,none⟩=some (iV (A.ky i))
def JR (n:Nat) (A:W3):Prop:=∀ i,i<n->Fit (A.who i)/\Fit (A.kd i)/\Fit (A.ky i)
end Go.Proofs.YtpbghmeikcphnabGreat
