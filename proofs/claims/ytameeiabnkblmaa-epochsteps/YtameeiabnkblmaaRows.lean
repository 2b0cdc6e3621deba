/-
  No cell of these rows narrows 'for every input' (looked for: loops, veiled, ifaces, maps, wideKeys, modest, calm, conditions, laid).
  DERIVED. THE GIVEN ROWS OF THIS SEAT. 5 by the template 'for every input the law returns true; each argument reads behind the call as it read before'; 0 by the template 'total and deterministic' (their statements: YtameeiabnkblmaaTotals.lean).
  GIVEN WITH THE SEED: the statements are not yours to turn. If you find one false, say at which input.
  Laid BY PROGRAM, IN A SANDBOX (cutbox-rows.mjs): the forced cells as the released guide's own fill.sh prints them over the translation b5868199dc5523c6… (all of the seat's roots in one cut). By AI agents, Wed Nov 11 2026. No macro, syntax, notation, axiom, sorry.
-/
import Derived.Test.YtameeiabnkblmaaChecked
import GoSem.Claim
import GoSem.ClaimJoined
import GoSem.ClaimMapViews
import Derived.JoinedTies
import Derived.KernelRfl
namespace Go.Proofs.Ytameeiabnkblmaa
/- THE CELL 'sum', in the pinned program and in every row, IS THE sha256 OF THE DUMP (.gsa) THAT YtameeiabnkblmaaProg.lean LOADS. Nothing in Lean hashes anything: it is a label: what it is worth is what the hold of that sum in a sandbox is worth. -/
noncomputable def Try.pinned : Pinned := { name := "ytameeiabnkblmaa", sum := "b5868199dc5523c6b4e02d53a94704e2846ff1ca4adc486f5ca4560b6aafac36", checked := Try.checked }
namespace Rows
def none {H : Type} : Left H := { results := [], args := [] }

/-- 'footlockerlaw13.EpochGoes': WHATEVER THE INPUT: true; the input reads as it did. -/
def epochGoesSpec : ChangeSpec := { name := "epochGoes", fn := fun _ => fun
  | [d1, d2] => { results := [.lit (.bool true)], args := [d1, d2] }
  | _ => none }
def epochGoesRow : OpenClaim := { program := "ytameeiabnkblmaa", sum := "b5868199dc5523c6b4e02d53a94704e2846ff1ca4adc486f5ca4560b6aafac36", func := "footlocker/footlockerlaw13.EpochGoes", spec := "epochGoes", apart := false }
def EpochGoesSaid : Prop := epochGoesRow.holds Try.pinned (OpenSpec.ofChange epochGoesSpec)

/-- ITS FALSE NEIGHBOUR: 'it returns false'. Refute it at one input. -/
def epochGoesWrong : ChangeSpec := { name := "epochGoes", fn := fun _ => fun
  | [d1, d2] => { results := [.lit (.bool false)], args := [d1, d2] }
  | _ => none }
def EpochGoesWrongFalsely : Prop := epochGoesRow.holds Try.pinned (OpenSpec.ofChange epochGoesWrong)

/-- 'footlockerlaw13.EpochPinned': WHATEVER THE INPUT: true; the input reads as it did. -/
def epochPinnedSpec : ChangeSpec := { name := "epochPinned", fn := fun _ => fun
  | [d1, d2] => { results := [.lit (.bool true)], args := [d1, d2] }
  | _ => none }
def epochPinnedRow : OpenClaim := { program := "ytameeiabnkblmaa", sum := "b5868199dc5523c6b4e02d53a94704e2846ff1ca4adc486f5ca4560b6aafac36", func := "footlocker/footlockerlaw13.EpochPinned", spec := "epochPinned", apart := false }
def EpochPinnedSaid : Prop := epochPinnedRow.holds Try.pinned (OpenSpec.ofChange epochPinnedSpec)

/-- ITS FALSE NEIGHBOUR: 'it returns false'. Refute it at one input. -/
def epochPinnedWrong : ChangeSpec := { name := "epochPinned", fn := fun _ => fun
  | [d1, d2] => { results := [.lit (.bool false)], args := [d1, d2] }
  | _ => none }
def EpochPinnedWrongFalsely : Prop := epochPinnedRow.holds Try.pinned (OpenSpec.ofChange epochPinnedWrong)

/-- 'footlockerlaw13.EpochSettles': WHATEVER THE INPUT: true; the input reads as it did. -/
def epochSettlesSpec : ChangeSpec := { name := "epochSettles", fn := fun _ => fun
  | [d1, d2, d3] => { results := [.lit (.bool true)], args := [d1, d2, d3] }
  | _ => none }
def epochSettlesRow : OpenClaim := { program := "ytameeiabnkblmaa", sum := "b5868199dc5523c6b4e02d53a94704e2846ff1ca4adc486f5ca4560b6aafac36", func := "footlocker/footlockerlaw13.EpochSettles", spec := "epochSettles", apart := false }
def EpochSettlesSaid : Prop := epochSettlesRow.holds Try.pinned (OpenSpec.ofChange epochSettlesSpec)

/-- ITS FALSE NEIGHBOUR: 'it returns false'. Refute it at one input. -/
def epochSettlesWrong : ChangeSpec := { name := "epochSettles", fn := fun _ => fun
  | [d1, d2, d3] => { results := [.lit (.bool false)], args := [d1, d2, d3] }
  | _ => none }
def EpochSettlesWrongFalsely : Prop := epochSettlesRow.holds Try.pinned (OpenSpec.ofChange epochSettlesWrong)

/-- 'footlockerlaw13.EpochSteps': WHATEVER THE INPUT: true; the input reads as it did. -/
def epochStepsSpec : ChangeSpec := { name := "epochSteps", fn := fun _ => fun
  | [d1, d2] => { results := [.lit (.bool true)], args := [d1, d2] }
  | _ => none }
def epochStepsRow : OpenClaim := { program := "ytameeiabnkblmaa", sum := "b5868199dc5523c6b4e02d53a94704e2846ff1ca4adc486f5ca4560b6aafac36", func := "footlocker/footlockerlaw13.EpochSteps", spec := "epochSteps", apart := false }
def EpochStepsSaid : Prop := epochStepsRow.holds Try.pinned (OpenSpec.ofChange epochStepsSpec)

/-- ITS FALSE NEIGHBOUR: 'it returns false'. Refute it at one input. -/
def epochStepsWrong : ChangeSpec := { name := "epochSteps", fn := fun _ => fun
  | [d1, d2] => { results := [.lit (.bool false)], args := [d1, d2] }
  | _ => none }
def EpochStepsWrongFalsely : Prop := epochStepsRow.holds Try.pinned (OpenSpec.ofChange epochStepsWrong)

/-- 'footlockerlaw13.EpochMany': WHATEVER THE INPUT: true; the input reads as it did. -/
def epochManySpec : ChangeSpec := { name := "epochMany", fn := fun _ => fun
  | [d1, d2] => { results := [.lit (.bool true)], args := [d1, d2] }
  | _ => none }
def epochManyRow : OpenClaim := { program := "ytameeiabnkblmaa", sum := "b5868199dc5523c6b4e02d53a94704e2846ff1ca4adc486f5ca4560b6aafac36", func := "footlocker/footlockerlaw13.EpochMany", spec := "epochMany", apart := false }
def EpochManySaid : Prop := epochManyRow.holds Try.pinned (OpenSpec.ofChange epochManySpec)

/-- ITS FALSE NEIGHBOUR: 'it returns false'. Refute it at one input. -/
def epochManyWrong : ChangeSpec := { name := "epochMany", fn := fun _ => fun
  | [d1, d2] => { results := [.lit (.bool false)], args := [d1, d2] }
  | _ => none }
def EpochManyWrongFalsely : Prop := epochManyRow.holds Try.pinned (OpenSpec.ofChange epochManyWrong)

/- THE SECOND FORM. 'bulk': how many values and letters a reading holds, each counted each time it is reached (what is shared counts as often as it is met; a slice's spare places count too). A statement '..UptoSaid' is the law's where the arguments, and the package variables that the reading takes, are together of bulk at most 1048576: NARROWER than '..Said'. Prove '..Said' where nothing that the law and all that it calls make is longer than what came in: it says more and counts as full. Else prove '..UptoSaid'. A law counts once. -/
mutual
def uptoBulk {H : Type} : DataW H → Nat
  | .lit (.string bytes) => bytes.length + 1
  | .lit _ => 1
  | .nil => 1
  | .ptr d => uptoBulk d + 1
  | .slice elems spare => uptoBulkAll elems + uptoBulkAll spare + 1
  | .agg parts => uptoBulkAll parts + 1
  | .iface _ d => uptoBulk d + 1
  | .map entries => uptoBulkEntries entries + 1
  | .held _ => 1
def uptoBulkAll {H : Type} : List (DataW H) → Nat
  | [] => 0
  | d :: r => uptoBulk d + uptoBulkAll r
def uptoBulkEntries {H : Type} : List (Lit × DataW H) → Nat
  | [] => 0
  | x :: r => uptoBulkEntry x + uptoBulkEntries r
def uptoBulkEntry {H : Type} : Lit × DataW H → Nat
  | (.string bytes, d) => bytes.length + uptoBulk d + 1
  | (_, d) => uptoBulk d + 1
 end
def uptoSmall : (H : Type) → List (DataW H) → Bool := fun _ ds => decide (uptoBulkAll ds ≤ 1048576)
def OpenSpec.upto (s : _root_.Go.ChangeSpec) : _root_.Go.OpenSpec := { _root_.Go.OpenSpec.ofChange s with cond := some uptoSmall }

/-- 'footlockerlaw13.EpochGoes', WHERE WHAT IT READS IS OF BULK AT MOST 1048576: true; the input reads as it did. -/
def epochGoesUptoRow : OpenClaim := { program := "ytameeiabnkblmaa", sum := "b5868199dc5523c6b4e02d53a94704e2846ff1ca4adc486f5ca4560b6aafac36", func := "footlocker/footlockerlaw13.EpochGoes", spec := "epochGoes", apart := false, narrowed := true }
def EpochGoesUptoSaid : Prop := epochGoesUptoRow.holds Try.pinned (OpenSpec.upto epochGoesSpec)

/-- 'footlockerlaw13.EpochPinned', WHERE WHAT IT READS IS OF BULK AT MOST 1048576: true; the input reads as it did. -/
def epochPinnedUptoRow : OpenClaim := { program := "ytameeiabnkblmaa", sum := "b5868199dc5523c6b4e02d53a94704e2846ff1ca4adc486f5ca4560b6aafac36", func := "footlocker/footlockerlaw13.EpochPinned", spec := "epochPinned", apart := false, narrowed := true }
def EpochPinnedUptoSaid : Prop := epochPinnedUptoRow.holds Try.pinned (OpenSpec.upto epochPinnedSpec)

/-- 'footlockerlaw13.EpochSettles', WHERE WHAT IT READS IS OF BULK AT MOST 1048576: true; the input reads as it did. -/
def epochSettlesUptoRow : OpenClaim := { program := "ytameeiabnkblmaa", sum := "b5868199dc5523c6b4e02d53a94704e2846ff1ca4adc486f5ca4560b6aafac36", func := "footlocker/footlockerlaw13.EpochSettles", spec := "epochSettles", apart := false, narrowed := true }
def EpochSettlesUptoSaid : Prop := epochSettlesUptoRow.holds Try.pinned (OpenSpec.upto epochSettlesSpec)

/-- 'footlockerlaw13.EpochSteps', WHERE WHAT IT READS IS OF BULK AT MOST 1048576: true; the input reads as it did. -/
def epochStepsUptoRow : OpenClaim := { program := "ytameeiabnkblmaa", sum := "b5868199dc5523c6b4e02d53a94704e2846ff1ca4adc486f5ca4560b6aafac36", func := "footlocker/footlockerlaw13.EpochSteps", spec := "epochSteps", apart := false, narrowed := true }
def EpochStepsUptoSaid : Prop := epochStepsUptoRow.holds Try.pinned (OpenSpec.upto epochStepsSpec)

/-- 'footlockerlaw13.EpochMany', WHERE WHAT IT READS IS OF BULK AT MOST 1048576: true; the input reads as it did. -/
def epochManyUptoRow : OpenClaim := { program := "ytameeiabnkblmaa", sum := "b5868199dc5523c6b4e02d53a94704e2846ff1ca4adc486f5ca4560b6aafac36", func := "footlocker/footlockerlaw13.EpochMany", spec := "epochMany", apart := false, narrowed := true }
def EpochManyUptoSaid : Prop := epochManyUptoRow.holds Try.pinned (OpenSpec.upto epochManySpec)

end Rows
end Go.Proofs.Ytameeiabnkblmaa
