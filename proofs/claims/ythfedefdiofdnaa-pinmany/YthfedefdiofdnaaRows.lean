/-
  No cell of these rows narrows 'for every input' (looked for: loops, veiled, ifaces, maps, wideKeys, modest, calm, conditions, laid).
  DERIVED. THE GIVEN ROWS OF THIS SEAT. 3 by the template 'for every input the law returns true; each argument reads behind the call as it read before'; 0 by the template 'total and deterministic' (their statements: YthfedefdiofdnaaTotals.lean).
  GIVEN WITH THE SEED: the statements are not yours to turn. If you find one false, say at which input.
  Laid BY PROGRAM, IN A SANDBOX (cutbox-rows.mjs): the forced cells as the released guide's own fill.sh prints them over the translation 36d6b67428aa9203… (all of the seat's roots in one cut). By AI agents, Wed Nov 11 2026. No macro, syntax, notation, axiom, sorry.
-/
import Derived.Test.YthfedefdiofdnaaChecked
import GoSem.Claim
import GoSem.ClaimJoined
import GoSem.ClaimMapViews
import Derived.JoinedTies
import Derived.KernelRfl
namespace Go.Proofs.Ythfedefdiofdnaa
/- THE CELL 'sum', in the pinned program and in every row, IS THE sha256 OF THE DUMP (.gsa) THAT YthfedefdiofdnaaProg.lean LOADS. Nothing in Lean hashes anything: it is a label: what it is worth is what the hold of that sum in a sandbox is worth. -/
noncomputable def Try.pinned : Pinned := { name := "ythfedefdiofdnaa", sum := "36d6b67428aa92030927b7640a0901ffcf3cfdeb169ef91278e4fb1cd7b28ff6", checked := Try.checked }
namespace Rows
def none {H : Type} : Left H := { results := [], args := [] }

/-- 'footlockerlaw05.PinRaces': WHATEVER THE INPUT: true; the input reads as it did. -/
def pinRacesSpec : ChangeSpec := { name := "pinRaces", fn := fun _ => fun
  | [d] => { results := [.lit (.bool true)], args := [d] }
  | _ => none }
def pinRacesRow : OpenClaim := { program := "ythfedefdiofdnaa", sum := "36d6b67428aa92030927b7640a0901ffcf3cfdeb169ef91278e4fb1cd7b28ff6", func := "footlocker/footlockerlaw05.PinRaces", spec := "pinRaces", apart := false }
def PinRacesSaid : Prop := pinRacesRow.holds Try.pinned (OpenSpec.ofChange pinRacesSpec)

/-- ITS FALSE NEIGHBOUR: 'it returns false'. Refute it at one input. -/
def pinRacesWrong : ChangeSpec := { name := "pinRaces", fn := fun _ => fun
  | [d] => { results := [.lit (.bool false)], args := [d] }
  | _ => none }
def PinRacesWrongFalsely : Prop := pinRacesRow.holds Try.pinned (OpenSpec.ofChange pinRacesWrong)

/-- 'footlockerlaw05.PinSteps': WHATEVER THE INPUT: true; the input reads as it did. -/
def pinStepsSpec : ChangeSpec := { name := "pinSteps", fn := fun _ => fun
  | [d] => { results := [.lit (.bool true)], args := [d] }
  | _ => none }
def pinStepsRow : OpenClaim := { program := "ythfedefdiofdnaa", sum := "36d6b67428aa92030927b7640a0901ffcf3cfdeb169ef91278e4fb1cd7b28ff6", func := "footlocker/footlockerlaw05.PinSteps", spec := "pinSteps", apart := false }
def PinStepsSaid : Prop := pinStepsRow.holds Try.pinned (OpenSpec.ofChange pinStepsSpec)

/-- ITS FALSE NEIGHBOUR: 'it returns false'. Refute it at one input. -/
def pinStepsWrong : ChangeSpec := { name := "pinSteps", fn := fun _ => fun
  | [d] => { results := [.lit (.bool false)], args := [d] }
  | _ => none }
def PinStepsWrongFalsely : Prop := pinStepsRow.holds Try.pinned (OpenSpec.ofChange pinStepsWrong)

/-- 'footlockerlaw05.PinMany': WHATEVER THE INPUT: true; the input reads as it did. -/
def pinManySpec : ChangeSpec := { name := "pinMany", fn := fun _ => fun
  | [d] => { results := [.lit (.bool true)], args := [d] }
  | _ => none }
def pinManyRow : OpenClaim := { program := "ythfedefdiofdnaa", sum := "36d6b67428aa92030927b7640a0901ffcf3cfdeb169ef91278e4fb1cd7b28ff6", func := "footlocker/footlockerlaw05.PinMany", spec := "pinMany", apart := false }
def PinManySaid : Prop := pinManyRow.holds Try.pinned (OpenSpec.ofChange pinManySpec)

/-- ITS FALSE NEIGHBOUR: 'it returns false'. Refute it at one input. -/
def pinManyWrong : ChangeSpec := { name := "pinMany", fn := fun _ => fun
  | [d] => { results := [.lit (.bool false)], args := [d] }
  | _ => none }
def PinManyWrongFalsely : Prop := pinManyRow.holds Try.pinned (OpenSpec.ofChange pinManyWrong)

/- THE SECOND FORM. 'bulk': how many values and letters a reading holds, each counted each time it is reached (what is shared counts as often as it is met; a slice's spare places count too). A statement '..UptoSaid' is the law's where the arguments, and the package variables that the reading takes, are together of bulk at most 1048576: NARROWER than '..Said'. Prove '..Said' where nothing that the law and all that it calls make is longer than what came in: it says more and counts as full. Else prove '..UptoSaid'. A law counts once. -/
mutual
def uptoBulk {H : Type} : DataW H → Nat
  | .lit (.string bytes) => bytes.length + 1
  | .lit _ => 1
  | .nil => 1
  | .ptr d => uptoBulk d + 1
  | .slice elems spare => uptoBulkAll elems + uptoBulkAll spare + 1
  | .agg parts => uptoBulkAll parts + 1
  | .iface _ d => uptoBulk d + 1
  | .map entries => uptoBulkEntries entries + 1
  | .held _ => 1
def uptoBulkAll {H : Type} : List (DataW H) → Nat
  | [] => 0
  | d :: r => uptoBulk d + uptoBulkAll r
def uptoBulkEntries {H : Type} : List (Lit × DataW H) → Nat
  | [] => 0
  | x :: r => uptoBulkEntry x + uptoBulkEntries r
def uptoBulkEntry {H : Type} : Lit × DataW H → Nat
  | (.string bytes, d) => bytes.length + uptoBulk d + 1
  | (_, d) => uptoBulk d + 1
 end
def uptoSmall : (H : Type) → List (DataW H) → Bool := fun _ ds => decide (uptoBulkAll ds ≤ 1048576)
def OpenSpec.upto (s : _root_.Go.ChangeSpec) : _root_.Go.OpenSpec := { _root_.Go.OpenSpec.ofChange s with cond := some uptoSmall }

/-- 'footlockerlaw05.PinRaces', WHERE WHAT IT READS IS OF BULK AT MOST 1048576: true; the input reads as it did. -/
def pinRacesUptoRow : OpenClaim := { program := "ythfedefdiofdnaa", sum := "36d6b67428aa92030927b7640a0901ffcf3cfdeb169ef91278e4fb1cd7b28ff6", func := "footlocker/footlockerlaw05.PinRaces", spec := "pinRaces", apart := false, narrowed := true }
def PinRacesUptoSaid : Prop := pinRacesUptoRow.holds Try.pinned (OpenSpec.upto pinRacesSpec)

/-- 'footlockerlaw05.PinSteps', WHERE WHAT IT READS IS OF BULK AT MOST 1048576: true; the input reads as it did. -/
def pinStepsUptoRow : OpenClaim := { program := "ythfedefdiofdnaa", sum := "36d6b67428aa92030927b7640a0901ffcf3cfdeb169ef91278e4fb1cd7b28ff6", func := "footlocker/footlockerlaw05.PinSteps", spec := "pinSteps", apart := false, narrowed := true }
def PinStepsUptoSaid : Prop := pinStepsUptoRow.holds Try.pinned (OpenSpec.upto pinStepsSpec)

/-- 'footlockerlaw05.PinMany', WHERE WHAT IT READS IS OF BULK AT MOST 1048576: true; the input reads as it did. -/
def pinManyUptoRow : OpenClaim := { program := "ythfedefdiofdnaa", sum := "36d6b67428aa92030927b7640a0901ffcf3cfdeb169ef91278e4fb1cd7b28ff6", func := "footlocker/footlockerlaw05.PinMany", spec := "pinMany", apart := false, narrowed := true }
def PinManyUptoSaid : Prop := pinManyUptoRow.holds Try.pinned (OpenSpec.upto pinManySpec)

end Rows
end Go.Proofs.Ythfedefdiofdnaa
