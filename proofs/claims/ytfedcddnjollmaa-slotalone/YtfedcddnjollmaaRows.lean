/-
  No cell of these rows narrows 'for every input' (looked for: loops, veiled, ifaces, maps, wideKeys, modest, calm, conditions, laid).
  DERIVED. THE GIVEN ROWS OF THIS SEAT. 5 by the template 'for every input the law returns true; each argument reads behind the call as it read before'; 0 by the template 'total and deterministic' (their statements: YtfedcddnjollmaaTotals.lean).
  GIVEN WITH THE SEED: the statements are not yours to turn. If you find one false, say at which input.
  Laid BY PROGRAM, IN A SANDBOX (cutbox-rows.mjs): the forced cells as the released guide's own fill.sh prints them over the translation ef93f7a1fa5fd2bb… (all of the seat's roots in one cut). By AI agents, Wed Nov 11 2026. No macro, syntax, notation, axiom, sorry.
-/
import Derived.Test.YtfedcddnjollmaaChecked
import GoSem.Claim
import GoSem.ClaimJoined
import GoSem.ClaimMapViews
import Derived.JoinedTies
import Derived.KernelRfl
namespace Go.Proofs.Ytfedcddnjollmaa
/- THE CELL 'sum', in the pinned program and in every row, IS THE sha256 OF THE DUMP (.gsa) THAT YtfedcddnjollmaaProg.lean LOADS. Nothing in Lean hashes anything: it is a label: what it is worth is what the hold of that sum in a sandbox is worth. -/
noncomputable def Try.pinned : Pinned := { name := "ytfedcddnjollmaa", sum := "ef93f7a1fa5fd2bbf6eda2ed80f9f390b718c16595952973aa3e91e3b6b16301", checked := Try.checked }
namespace Rows
def none {H : Type} : Left H := { results := [], args := [] }

/-- 'footlockerlaw06.SlotAlone': WHATEVER THE INPUT: true; the input reads as it did. -/
def slotAloneSpec : ChangeSpec := { name := "slotAlone", fn := fun _ => fun
  | [d1, d2] => { results := [.lit (.bool true)], args := [d1, d2] }
  | _ => none }
def slotAloneRow : OpenClaim := { program := "ytfedcddnjollmaa", sum := "ef93f7a1fa5fd2bbf6eda2ed80f9f390b718c16595952973aa3e91e3b6b16301", func := "footlocker/footlockerlaw06.SlotAlone", spec := "slotAlone", apart := false }
def SlotAloneSaid : Prop := slotAloneRow.holds Try.pinned (OpenSpec.ofChange slotAloneSpec)

/-- ITS FALSE NEIGHBOUR: 'it returns false'. Refute it at one input. -/
def slotAloneWrong : ChangeSpec := { name := "slotAlone", fn := fun _ => fun
  | [d1, d2] => { results := [.lit (.bool false)], args := [d1, d2] }
  | _ => none }
def SlotAloneWrongFalsely : Prop := slotAloneRow.holds Try.pinned (OpenSpec.ofChange slotAloneWrong)

/-- 'footlockerlaw06.SlotShares': WHATEVER THE INPUT: true; the input reads as it did. -/
def slotSharesSpec : ChangeSpec := { name := "slotShares", fn := fun _ => fun
  | [d1, d2] => { results := [.lit (.bool true)], args := [d1, d2] }
  | _ => none }
def slotSharesRow : OpenClaim := { program := "ytfedcddnjollmaa", sum := "ef93f7a1fa5fd2bbf6eda2ed80f9f390b718c16595952973aa3e91e3b6b16301", func := "footlocker/footlockerlaw06.SlotShares", spec := "slotShares", apart := false }
def SlotSharesSaid : Prop := slotSharesRow.holds Try.pinned (OpenSpec.ofChange slotSharesSpec)

/-- ITS FALSE NEIGHBOUR: 'it returns false'. Refute it at one input. -/
def slotSharesWrong : ChangeSpec := { name := "slotShares", fn := fun _ => fun
  | [d1, d2] => { results := [.lit (.bool false)], args := [d1, d2] }
  | _ => none }
def SlotSharesWrongFalsely : Prop := slotSharesRow.holds Try.pinned (OpenSpec.ofChange slotSharesWrong)

/-- 'footlockerlaw06.SlotAgain': WHATEVER THE INPUT: true; the input reads as it did. -/
def slotAgainSpec : ChangeSpec := { name := "slotAgain", fn := fun _ => fun
  | [d1, d2] => { results := [.lit (.bool true)], args := [d1, d2] }
  | _ => none }
def slotAgainRow : OpenClaim := { program := "ytfedcddnjollmaa", sum := "ef93f7a1fa5fd2bbf6eda2ed80f9f390b718c16595952973aa3e91e3b6b16301", func := "footlocker/footlockerlaw06.SlotAgain", spec := "slotAgain", apart := false }
def SlotAgainSaid : Prop := slotAgainRow.holds Try.pinned (OpenSpec.ofChange slotAgainSpec)

/-- ITS FALSE NEIGHBOUR: 'it returns false'. Refute it at one input. -/
def slotAgainWrong : ChangeSpec := { name := "slotAgain", fn := fun _ => fun
  | [d1, d2] => { results := [.lit (.bool false)], args := [d1, d2] }
  | _ => none }
def SlotAgainWrongFalsely : Prop := slotAgainRow.holds Try.pinned (OpenSpec.ofChange slotAgainWrong)

/-- 'footlockerlaw06.SlotSteps': WHATEVER THE INPUT: true; the input reads as it did. -/
def slotStepsSpec : ChangeSpec := { name := "slotSteps", fn := fun _ => fun
  | [d1, d2] => { results := [.lit (.bool true)], args := [d1, d2] }
  | _ => none }
def slotStepsRow : OpenClaim := { program := "ytfedcddnjollmaa", sum := "ef93f7a1fa5fd2bbf6eda2ed80f9f390b718c16595952973aa3e91e3b6b16301", func := "footlocker/footlockerlaw06.SlotSteps", spec := "slotSteps", apart := false }
def SlotStepsSaid : Prop := slotStepsRow.holds Try.pinned (OpenSpec.ofChange slotStepsSpec)

/-- ITS FALSE NEIGHBOUR: 'it returns false'. Refute it at one input. -/
def slotStepsWrong : ChangeSpec := { name := "slotSteps", fn := fun _ => fun
  | [d1, d2] => { results := [.lit (.bool false)], args := [d1, d2] }
  | _ => none }
def SlotStepsWrongFalsely : Prop := slotStepsRow.holds Try.pinned (OpenSpec.ofChange slotStepsWrong)

/-- 'footlockerlaw06.SlotEmpty': WHATEVER THE INPUT: true; the input reads as it did. -/
def slotEmptySpec : ChangeSpec := { name := "slotEmpty", fn := fun _ => fun
  | [d1, d2] => { results := [.lit (.bool true)], args := [d1, d2] }
  | _ => none }
def slotEmptyRow : OpenClaim := { program := "ytfedcddnjollmaa", sum := "ef93f7a1fa5fd2bbf6eda2ed80f9f390b718c16595952973aa3e91e3b6b16301", func := "footlocker/footlockerlaw06.SlotEmpty", spec := "slotEmpty", apart := false }
def SlotEmptySaid : Prop := slotEmptyRow.holds Try.pinned (OpenSpec.ofChange slotEmptySpec)

/-- ITS FALSE NEIGHBOUR: 'it returns false'. Refute it at one input. -/
def slotEmptyWrong : ChangeSpec := { name := "slotEmpty", fn := fun _ => fun
  | [d1, d2] => { results := [.lit (.bool false)], args := [d1, d2] }
  | _ => none }
def SlotEmptyWrongFalsely : Prop := slotEmptyRow.holds Try.pinned (OpenSpec.ofChange slotEmptyWrong)

/- THE SECOND FORM. 'bulk': how many values and letters a reading holds, each counted each time it is reached (what is shared counts as often as it is met; a slice's spare places count too). A statement '..UptoSaid' is the law's where the arguments, and the package variables that the reading takes, are together of bulk at most 1048576: NARROWER than '..Said'. Prove '..Said' where nothing that the law and all that it calls make is longer than what came in: it says more and counts as full. Else prove '..UptoSaid'. A law counts once. -/
mutual
def uptoBulk {H : Type} : DataW H → Nat
  | .lit (.string bytes) => bytes.length + 1
  | .lit _ => 1
  | .nil => 1
  | .ptr d => uptoBulk d + 1
  | .slice elems spare => uptoBulkAll elems + uptoBulkAll spare + 1
  | .agg parts => uptoBulkAll parts + 1
  | .iface _ d => uptoBulk d + 1
  | .map entries => uptoBulkEntries entries + 1
  | .held _ => 1
def uptoBulkAll {H : Type} : List (DataW H) → Nat
  | [] => 0
  | d :: r => uptoBulk d + uptoBulkAll r
def uptoBulkEntries {H : Type} : List (Lit × DataW H) → Nat
  | [] => 0
  | x :: r => uptoBulkEntry x + uptoBulkEntries r
def uptoBulkEntry {H : Type} : Lit × DataW H → Nat
  | (.string bytes, d) => bytes.length + uptoBulk d + 1
  | (_, d) => uptoBulk d + 1
 end
def uptoSmall : (H : Type) → List (DataW H) → Bool := fun _ ds => decide (uptoBulkAll ds ≤ 1048576)
def OpenSpec.upto (s : _root_.Go.ChangeSpec) : _root_.Go.OpenSpec := { _root_.Go.OpenSpec.ofChange s with cond := some uptoSmall }

/-- 'footlockerlaw06.SlotAlone', WHERE WHAT IT READS IS OF BULK AT MOST 1048576: true; the input reads as it did. -/
def slotAloneUptoRow : OpenClaim := { program := "ytfedcddnjollmaa", sum := "ef93f7a1fa5fd2bbf6eda2ed80f9f390b718c16595952973aa3e91e3b6b16301", func := "footlocker/footlockerlaw06.SlotAlone", spec := "slotAlone", apart := false, narrowed := true }
def SlotAloneUptoSaid : Prop := slotAloneUptoRow.holds Try.pinned (OpenSpec.upto slotAloneSpec)

/-- 'footlockerlaw06.SlotShares', WHERE WHAT IT READS IS OF BULK AT MOST 1048576: true; the input reads as it did. -/
def slotSharesUptoRow : OpenClaim := { program := "ytfedcddnjollmaa", sum := "ef93f7a1fa5fd2bbf6eda2ed80f9f390b718c16595952973aa3e91e3b6b16301", func := "footlocker/footlockerlaw06.SlotShares", spec := "slotShares", apart := false, narrowed := true }
def SlotSharesUptoSaid : Prop := slotSharesUptoRow.holds Try.pinned (OpenSpec.upto slotSharesSpec)

/-- 'footlockerlaw06.SlotAgain', WHERE WHAT IT READS IS OF BULK AT MOST 1048576: true; the input reads as it did. -/
def slotAgainUptoRow : OpenClaim := { program := "ytfedcddnjollmaa", sum := "ef93f7a1fa5fd2bbf6eda2ed80f9f390b718c16595952973aa3e91e3b6b16301", func := "footlocker/footlockerlaw06.SlotAgain", spec := "slotAgain", apart := false, narrowed := true }
def SlotAgainUptoSaid : Prop := slotAgainUptoRow.holds Try.pinned (OpenSpec.upto slotAgainSpec)

/-- 'footlockerlaw06.SlotSteps', WHERE WHAT IT READS IS OF BULK AT MOST 1048576: true; the input reads as it did. -/
def slotStepsUptoRow : OpenClaim := { program := "ytfedcddnjollmaa", sum := "ef93f7a1fa5fd2bbf6eda2ed80f9f390b718c16595952973aa3e91e3b6b16301", func := "footlocker/footlockerlaw06.SlotSteps", spec := "slotSteps", apart := false, narrowed := true }
def SlotStepsUptoSaid : Prop := slotStepsUptoRow.holds Try.pinned (OpenSpec.upto slotStepsSpec)

/-- 'footlockerlaw06.SlotEmpty', WHERE WHAT IT READS IS OF BULK AT MOST 1048576: true; the input reads as it did. -/
def slotEmptyUptoRow : OpenClaim := { program := "ytfedcddnjollmaa", sum := "ef93f7a1fa5fd2bbf6eda2ed80f9f390b718c16595952973aa3e91e3b6b16301", func := "footlocker/footlockerlaw06.SlotEmpty", spec := "slotEmpty", apart := false, narrowed := true }
def SlotEmptyUptoSaid : Prop := slotEmptyUptoRow.holds Try.pinned (OpenSpec.upto slotEmptySpec)

end Rows
end Go.Proofs.Ytfedcddnjollmaa
