/-
  No cell of these rows narrows 'for every input' (looked for: loops, veiled, ifaces, maps, wideKeys, modest, calm, conditions, laid).
  DERIVED. THE GIVEN ROWS OF THIS SEAT. 3 by the template 'for every input the law returns true; each argument reads behind the call as it read before'; 0 by the template 'total and deterministic' (their statements: YtcdmokbamakomabGreatTotals.lean).
  GIVEN WITH THE SEED: the statements are not yours to turn. If you find one false, say at which input.
  Laid BY PROGRAM, IN A SANDBOX (cutbox-rows.mjs): the forced cells as the released guide's own fill.sh prints them over the translation aacffacfdcf59d52… (all of the seat's roots in one cut). By AI agents, Wed Nov 11 2026. No macro, syntax, notation, axiom, sorry.
-/
import Derived.Test.YtcdmokbamakomabGreatChecked
import GoSem.Claim
import GoSem.ClaimJoined
import GoSem.ClaimMapViews
import Derived.JoinedTies
import Derived.KernelRfl
namespace Go.Proofs.YtcdmokbamakomabGreat
/- THE CELL 'sum', in the pinned program and in every row, IS THE sha256 OF THE DUMP (.gsa) THAT YtcdmokbamakomabGreatProg.lean LOADS. Nothing in Lean hashes anything: it is a label: what it is worth is what the hold of that sum in a sandbox is worth. -/
noncomputable def Tryz.pinned : Pinned := { name := "ytcdmokbamakomabgreat", sum := "aacffacfdcf59d52d580d712bb87a58f0f2b65e80e6c70bc9f0c1f6e329be12b", checked := Tryz.checked }
namespace Rows
def none {H : Type} : Left H := { results := [], args := [] }

/-- 'footlockerlaw10.AccessSteps': WHATEVER THE INPUT: true; the input reads as it did. -/
def accessStepsSpec : ChangeSpec := { name := "accessSteps", fn := fun _ => fun
  | [d1, d2] => { results := [.lit (.bool true)], args := [d1, d2] }
  | _ => none }
def accessStepsRow : OpenClaim := { program := "ytcdmokbamakomabgreat", sum := "aacffacfdcf59d52d580d712bb87a58f0f2b65e80e6c70bc9f0c1f6e329be12b", func := "footlocker/footlockerlaw10.AccessSteps", spec := "accessSteps", apart := false }
def AccessStepsSaid : Prop := accessStepsRow.holds Tryz.pinned (OpenSpec.ofChange accessStepsSpec)

/-- ITS FALSE NEIGHBOUR: 'it returns false'. Refute it at one input. -/
def accessStepsWrong : ChangeSpec := { name := "accessSteps", fn := fun _ => fun
  | [d1, d2] => { results := [.lit (.bool false)], args := [d1, d2] }
  | _ => none }
def AccessStepsWrongFalsely : Prop := accessStepsRow.holds Tryz.pinned (OpenSpec.ofChange accessStepsWrong)

/-- 'footlockerlaw10.AccessOne': WHATEVER THE INPUT: true; the input reads as it did. -/
def accessOneSpec : ChangeSpec := { name := "accessOne", fn := fun _ => fun
  | [d1, d2] => { results := [.lit (.bool true)], args := [d1, d2] }
  | _ => none }
def accessOneRow : OpenClaim := { program := "ytcdmokbamakomabgreat", sum := "aacffacfdcf59d52d580d712bb87a58f0f2b65e80e6c70bc9f0c1f6e329be12b", func := "footlocker/footlockerlaw10.AccessOne", spec := "accessOne", apart := false }
def AccessOneSaid : Prop := accessOneRow.holds Tryz.pinned (OpenSpec.ofChange accessOneSpec)

/-- ITS FALSE NEIGHBOUR: 'it returns false'. Refute it at one input. -/
def accessOneWrong : ChangeSpec := { name := "accessOne", fn := fun _ => fun
  | [d1, d2] => { results := [.lit (.bool false)], args := [d1, d2] }
  | _ => none }
def AccessOneWrongFalsely : Prop := accessOneRow.holds Tryz.pinned (OpenSpec.ofChange accessOneWrong)

/-- 'footlockerlaw10.AccessLast': WHATEVER THE INPUT: true; the input reads as it did. -/
def accessLastSpec : ChangeSpec := { name := "accessLast", fn := fun _ => fun
  | [d1, d2] => { results := [.lit (.bool true)], args := [d1, d2] }
  | _ => none }
def accessLastRow : OpenClaim := { program := "ytcdmokbamakomabgreat", sum := "aacffacfdcf59d52d580d712bb87a58f0f2b65e80e6c70bc9f0c1f6e329be12b", func := "footlocker/footlockerlaw10.AccessLast", spec := "accessLast", apart := false }
def AccessLastSaid : Prop := accessLastRow.holds Tryz.pinned (OpenSpec.ofChange accessLastSpec)

/-- ITS FALSE NEIGHBOUR: 'it returns false'. Refute it at one input. -/
def accessLastWrong : ChangeSpec := { name := "accessLast", fn := fun _ => fun
  | [d1, d2] => { results := [.lit (.bool false)], args := [d1, d2] }
  | _ => none }
def AccessLastWrongFalsely : Prop := accessLastRow.holds Tryz.pinned (OpenSpec.ofChange accessLastWrong)

/- THE SECOND FORM. 'bulk': how many values and letters a reading holds, each counted each time it is reached (what is shared counts as often as it is met; a slice's spare places count too). A statement '..UptoSaid' is the law's where the arguments, and the package variables that the reading takes, are together of bulk at most 1048576: NARROWER than '..Said'. Prove '..Said' where nothing that the law and all that it calls make is longer than what came in: it says more and counts as full. Else prove '..UptoSaid'. A law counts once. -/
mutual
def uptoBulk {H : Type} : DataW H → Nat
  | .lit (.string bytes) => bytes.length + 1
  | .lit _ => 1
  | .nil => 1
  | .ptr d => uptoBulk d + 1
  | .slice elems spare => uptoBulkAll elems + uptoBulkAll spare + 1
  | .agg parts => uptoBulkAll parts + 1
  | .iface _ d => uptoBulk d + 1
  | .map entries => uptoBulkEntries entries + 1
  | .held _ => 1
def uptoBulkAll {H : Type} : List (DataW H) → Nat
  | [] => 0
  | d :: r => uptoBulk d + uptoBulkAll r
def uptoBulkEntries {H : Type} : List (Lit × DataW H) → Nat
  | [] => 0
  | x :: r => uptoBulkEntry x + uptoBulkEntries r
def uptoBulkEntry {H : Type} : Lit × DataW H → Nat
  | (.string bytes, d) => bytes.length + uptoBulk d + 1
  | (_, d) => uptoBulk d + 1
 end
def uptoSmall : (H : Type) → List (DataW H) → Bool := fun _ ds => decide (uptoBulkAll ds ≤ 1048576)
def OpenSpec.upto (s : _root_.Go.ChangeSpec) : _root_.Go.OpenSpec := { _root_.Go.OpenSpec.ofChange s with cond := some uptoSmall }

/-- 'footlockerlaw10.AccessSteps', WHERE WHAT IT READS IS OF BULK AT MOST 1048576: true; the input reads as it did. -/
def accessStepsUptoRow : OpenClaim := { program := "ytcdmokbamakomabgreat", sum := "aacffacfdcf59d52d580d712bb87a58f0f2b65e80e6c70bc9f0c1f6e329be12b", func := "footlocker/footlockerlaw10.AccessSteps", spec := "accessSteps", apart := false, narrowed := true }
def AccessStepsUptoSaid : Prop := accessStepsUptoRow.holds Tryz.pinned (OpenSpec.upto accessStepsSpec)

/-- 'footlockerlaw10.AccessOne', WHERE WHAT IT READS IS OF BULK AT MOST 1048576: true; the input reads as it did. -/
def accessOneUptoRow : OpenClaim := { program := "ytcdmokbamakomabgreat", sum := "aacffacfdcf59d52d580d712bb87a58f0f2b65e80e6c70bc9f0c1f6e329be12b", func := "footlocker/footlockerlaw10.AccessOne", spec := "accessOne", apart := false, narrowed := true }
def AccessOneUptoSaid : Prop := accessOneUptoRow.holds Tryz.pinned (OpenSpec.upto accessOneSpec)

/-- 'footlockerlaw10.AccessLast', WHERE WHAT IT READS IS OF BULK AT MOST 1048576: true; the input reads as it did. -/
def accessLastUptoRow : OpenClaim := { program := "ytcdmokbamakomabgreat", sum := "aacffacfdcf59d52d580d712bb87a58f0f2b65e80e6c70bc9f0c1f6e329be12b", func := "footlocker/footlockerlaw10.AccessLast", spec := "accessLast", apart := false, narrowed := true }
def AccessLastUptoSaid : Prop := accessLastUptoRow.holds Tryz.pinned (OpenSpec.upto accessLastSpec)

end Rows
end Go.Proofs.YtcdmokbamakomabGreat
