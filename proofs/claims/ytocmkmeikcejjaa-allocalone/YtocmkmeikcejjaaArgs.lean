/- What a slice of numbers that was handed in looks like to a walk. -/
import Derived.Test.YtocmkmeikcejjaaOnly
namespace Go.Proofs.Ytocmkmeikcejjaa
open Go.RowKit

/-- the first n cells behind the address hold the numbers z -/
def IntsAt (k : IntKind) (w : World) (ao : Option Addr) (n : Nat) (z : Nat → Int) : Prop :=
  ∀ i, i < n → ∃ b off, ao = some ⟨b, off, none⟩ ∧ w.cell? ⟨b, off + i, none⟩ = some (.int k (z i))

/-- a number that a word may be -/
def FitW (n : Int) : Prop := 0 ≤ n ∧ n ≤ 18446744073709551615

end Go.Proofs.Ytocmkmeikcejjaa
