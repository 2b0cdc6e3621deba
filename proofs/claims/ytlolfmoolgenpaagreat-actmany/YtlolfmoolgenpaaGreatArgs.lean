import Derived.Test.YtlolfmoolgenpaaGreatLay
namespace Go.Proofs.YtlolfmoolgenpaaGreat
open Go.RowKit
def IntsAt (k : IntKind) (w : World) (ao : Option Addr) (n : Nat) (z : Nat -> Int) : Prop :=
 ∀ i,i < n -> ∃ b off,ao = some ⟨b,off,none⟩ /\ w.cell? ⟨b,off + i,none⟩ = some (.int k (z i))
def FitW (n : Int) : Prop:=0 <= n /\ n <= 18446744073709551615
end Go.Proofs.YtlolfmoolgenpaaGreat
