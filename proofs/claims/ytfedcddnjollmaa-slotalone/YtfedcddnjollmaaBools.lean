/- What a slice of bools that was handed in looks like to a walk. -/
import Derived.Test.YtfedcddnjollmaaOnly
namespace Go.Proofs.Ytfedcddnjollmaa
open Go.RowKit

/-- the first n cells behind the address hold the bools z -/
def BoolsAt (w : World) (ao : Option Addr) (n : Nat) (z : Nat → Bool) : Prop :=
  ∀ i, i < n → ∃ b off, ao = some ⟨b, off, none⟩ ∧ w.cell? ⟨b, off + i, none⟩ = some (.bool (z i))

end Go.Proofs.Ytfedcddnjollmaa
