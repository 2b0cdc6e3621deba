import Derived.Test.YtlolfmoolgenpaaGreatActStep
import Derived.Test.YtlolfmoolgenpaaGreatArgs
namespace Go.Proofs.YtlolfmoolgenpaaGreat
open Go.RowKit
def XaFit (X : Xa) : Prop:=Fit X.kd /\ Fit X.sz /\ FitW X.nu /\ Fit X.ix /\ Fit X.vl /\ Fit X.ol
def XasAt (w : World) (ao : Option Addr) (n : Nat) (A : Nat -> Xa) : Prop :=
 ∀ i,i < n -> ∃ b off,ao = some ⟨b,off,none⟩ /\ w.cell? ⟨b,off + i * 7,none⟩ = some (.int .i64 (A i).kd) /\ w.cell? ⟨b,off + i * 7 + 1,none⟩ = some (.int .i64 (A i).sz) /\ w.cell? ⟨b,off + i * 7 + 2,none⟩ = some (.int .u64 (A i).nu) /\ w.cell? ⟨b,off + i * 7 + 3,none⟩ = some (.int .i64 (A i).ix) /\ w.cell? ⟨b,off + i * 7 + 4,none⟩ = some (.int .i64 (A i).vl) /\ w.cell? ⟨b,off + i * 7 + 5,none⟩ = some (.int .i64 (A i).ol) /\ w.cell? ⟨b,off + i * 7 + 6,none⟩ = some (.bool (A i).own)
end Go.Proofs.YtlolfmoolgenpaaGreat
