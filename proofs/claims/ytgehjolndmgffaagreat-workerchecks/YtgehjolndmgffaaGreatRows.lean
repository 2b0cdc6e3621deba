/-
  No cell of these rows narrows 'for every input' (looked for: loops, veiled, ifaces, maps, wideKeys, modest, calm, conditions, laid).
  DERIVED. THE GIVEN ROWS OF THIS SEAT. 4 by the template 'for every input the law returns true; each argument reads behind the call as it read before'; 0 by the template 'total and deterministic' (their statements: YtgehjolndmgffaaGreatTotals.lean).
  GIVEN WITH THE SEED: the statements are not yours to turn. If you find one false, say at which input.
  Laid BY PROGRAM, IN A SANDBOX (cutbox-rows.mjs): the forced cells as the released guide's own fill.sh prints them over the translation fda0d605353a11ff… (all of the seat's roots in one cut). By AI agents, Wed Nov 11 2026. No macro, syntax, notation, axiom, sorry.
-/
import Derived.Test.YtgehjolndmgffaaGreatChecked
import GoSem.Claim
import GoSem.ClaimJoined
import GoSem.ClaimMapViews
import Derived.JoinedTies
import Derived.KernelRfl
namespace Go.Proofs.YtgehjolndmgffaaGreat
/- THE CELL 'sum', in the pinned program and in every row, IS THE sha256 OF THE DUMP (.gsa) THAT YtgehjolndmgffaaGreatProg.lean LOADS. Nothing in Lean hashes anything: it is a label: what it is worth is what the hold of that sum in a sandbox is worth. -/
noncomputable def Tryz.pinned : Pinned := { name := "ytgehjolndmgffaagreat", sum := "fda0d605353a11ff1ab650c5ef4eb8b27e51fdac5029e2d77207359e61b93e87", checked := Tryz.checked }
namespace Rows
def none {H : Type} : Left H := { results := [], args := [] }

/-- 'footlockerlaw18.WorkerSteps': WHATEVER THE INPUT: true; the input reads as it did. -/
def workerStepsSpec : ChangeSpec := { name := "workerSteps", fn := fun _ => fun
  | [d] => { results := [.lit (.bool true)], args := [d] }
  | _ => none }
def workerStepsRow : OpenClaim := { program := "ytgehjolndmgffaagreat", sum := "fda0d605353a11ff1ab650c5ef4eb8b27e51fdac5029e2d77207359e61b93e87", func := "footlocker/footlockerlaw18.WorkerSteps", spec := "workerSteps", unfollowed := true, recurses := true, apart := false }
def WorkerStepsSaid : Prop := workerStepsRow.holds Tryz.pinned (OpenSpec.ofChange workerStepsSpec)

/-- ITS FALSE NEIGHBOUR: 'it returns false'. Refute it at one input. -/
def workerStepsWrong : ChangeSpec := { name := "workerSteps", fn := fun _ => fun
  | [d] => { results := [.lit (.bool false)], args := [d] }
  | _ => none }
def WorkerStepsWrongFalsely : Prop := workerStepsRow.holds Tryz.pinned (OpenSpec.ofChange workerStepsWrong)

/-- 'footlockerlaw18.WorkerChecks': WHATEVER THE INPUT: true; the input reads as it did. -/
def workerChecksSpec : ChangeSpec := { name := "workerChecks", fn := fun _ => fun
  | [d1, d2, d3] => { results := [.lit (.bool true)], args := [d1, d2, d3] }
  | _ => none }
def workerChecksRow : OpenClaim := { program := "ytgehjolndmgffaagreat", sum := "fda0d605353a11ff1ab650c5ef4eb8b27e51fdac5029e2d77207359e61b93e87", func := "footlocker/footlockerlaw18.WorkerChecks", spec := "workerChecks", unfollowed := true, recurses := true, apart := false }
def WorkerChecksSaid : Prop := workerChecksRow.holds Tryz.pinned (OpenSpec.ofChange workerChecksSpec)

/-- ITS FALSE NEIGHBOUR: 'it returns false'. Refute it at one input. -/
def workerChecksWrong : ChangeSpec := { name := "workerChecks", fn := fun _ => fun
  | [d1, d2, d3] => { results := [.lit (.bool false)], args := [d1, d2, d3] }
  | _ => none }
def WorkerChecksWrongFalsely : Prop := workerChecksRow.holds Tryz.pinned (OpenSpec.ofChange workerChecksWrong)

/-- 'footlockerlaw18.WorkerNone': WHATEVER THE INPUT: true; the input reads as it did. -/
def workerNoneSpec : ChangeSpec := { name := "workerNone", fn := fun _ => fun
  | [d] => { results := [.lit (.bool true)], args := [d] }
  | _ => none }
def workerNoneRow : OpenClaim := { program := "ytgehjolndmgffaagreat", sum := "fda0d605353a11ff1ab650c5ef4eb8b27e51fdac5029e2d77207359e61b93e87", func := "footlocker/footlockerlaw18.WorkerNone", spec := "workerNone", unfollowed := true, recurses := true, apart := false }
def WorkerNoneSaid : Prop := workerNoneRow.holds Tryz.pinned (OpenSpec.ofChange workerNoneSpec)

/-- ITS FALSE NEIGHBOUR: 'it returns false'. Refute it at one input. -/
def workerNoneWrong : ChangeSpec := { name := "workerNone", fn := fun _ => fun
  | [d] => { results := [.lit (.bool false)], args := [d] }
  | _ => none }
def WorkerNoneWrongFalsely : Prop := workerNoneRow.holds Tryz.pinned (OpenSpec.ofChange workerNoneWrong)

/-- 'footlockerlaw18.WorkerLater': WHATEVER THE INPUT: true; the input reads as it did. -/
def workerLaterSpec : ChangeSpec := { name := "workerLater", fn := fun _ => fun
  | [d1, d2] => { results := [.lit (.bool true)], args := [d1, d2] }
  | _ => none }
def workerLaterRow : OpenClaim := { program := "ytgehjolndmgffaagreat", sum := "fda0d605353a11ff1ab650c5ef4eb8b27e51fdac5029e2d77207359e61b93e87", func := "footlocker/footlockerlaw18.WorkerLater", spec := "workerLater", unfollowed := true, recurses := true, apart := false }
def WorkerLaterSaid : Prop := workerLaterRow.holds Tryz.pinned (OpenSpec.ofChange workerLaterSpec)

/-- ITS FALSE NEIGHBOUR: 'it returns false'. Refute it at one input. -/
def workerLaterWrong : ChangeSpec := { name := "workerLater", fn := fun _ => fun
  | [d1, d2] => { results := [.lit (.bool false)], args := [d1, d2] }
  | _ => none }
def WorkerLaterWrongFalsely : Prop := workerLaterRow.holds Tryz.pinned (OpenSpec.ofChange workerLaterWrong)

/- THE SECOND FORM. 'bulk': how many values and letters a reading holds, each counted each time it is reached (what is shared counts as often as it is met; a slice's spare places count too). A statement '..UptoSaid' is the law's where the arguments, and the package variables that the reading takes, are together of bulk at most 1048576: NARROWER than '..Said'. Prove '..Said' where nothing that the law and all that it calls make is longer than what came in: it says more and counts as full. Else prove '..UptoSaid'. A law counts once. -/
mutual
def uptoBulk {H : Type} : DataW H → Nat
  | .lit (.string bytes) => bytes.length + 1
  | .lit _ => 1
  | .nil => 1
  | .ptr d => uptoBulk d + 1
  | .slice elems spare => uptoBulkAll elems + uptoBulkAll spare + 1
  | .agg parts => uptoBulkAll parts + 1
  | .iface _ d => uptoBulk d + 1
  | .map entries => uptoBulkEntries entries + 1
  | .held _ => 1
def uptoBulkAll {H : Type} : List (DataW H) → Nat
  | [] => 0
  | d :: r => uptoBulk d + uptoBulkAll r
def uptoBulkEntries {H : Type} : List (Lit × DataW H) → Nat
  | [] => 0
  | x :: r => uptoBulkEntry x + uptoBulkEntries r
def uptoBulkEntry {H : Type} : Lit × DataW H → Nat
  | (.string bytes, d) => bytes.length + uptoBulk d + 1
  | (_, d) => uptoBulk d + 1
 end
def uptoSmall : (H : Type) → List (DataW H) → Bool := fun _ ds => decide (uptoBulkAll ds ≤ 1048576)
def OpenSpec.upto (s : _root_.Go.ChangeSpec) : _root_.Go.OpenSpec := { _root_.Go.OpenSpec.ofChange s with cond := some uptoSmall }

/-- 'footlockerlaw18.WorkerSteps', WHERE WHAT IT READS IS OF BULK AT MOST 1048576: true; the input reads as it did. -/
def workerStepsUptoRow : OpenClaim := { program := "ytgehjolndmgffaagreat", sum := "fda0d605353a11ff1ab650c5ef4eb8b27e51fdac5029e2d77207359e61b93e87", func := "footlocker/footlockerlaw18.WorkerSteps", spec := "workerSteps", unfollowed := true, recurses := true, apart := false, narrowed := true }
def WorkerStepsUptoSaid : Prop := workerStepsUptoRow.holds Tryz.pinned (OpenSpec.upto workerStepsSpec)

/-- 'footlockerlaw18.WorkerChecks', WHERE WHAT IT READS IS OF BULK AT MOST 1048576: true; the input reads as it did. -/
def workerChecksUptoRow : OpenClaim := { program := "ytgehjolndmgffaagreat", sum := "fda0d605353a11ff1ab650c5ef4eb8b27e51fdac5029e2d77207359e61b93e87", func := "footlocker/footlockerlaw18.WorkerChecks", spec := "workerChecks", unfollowed := true, recurses := true, apart := false, narrowed := true }
def WorkerChecksUptoSaid : Prop := workerChecksUptoRow.holds Tryz.pinned (OpenSpec.upto workerChecksSpec)

/-- 'footlockerlaw18.WorkerNone', WHERE WHAT IT READS IS OF BULK AT MOST 1048576: true; the input reads as it did. -/
def workerNoneUptoRow : OpenClaim := { program := "ytgehjolndmgffaagreat", sum := "fda0d605353a11ff1ab650c5ef4eb8b27e51fdac5029e2d77207359e61b93e87", func := "footlocker/footlockerlaw18.WorkerNone", spec := "workerNone", unfollowed := true, recurses := true, apart := false, narrowed := true }
def WorkerNoneUptoSaid : Prop := workerNoneUptoRow.holds Tryz.pinned (OpenSpec.upto workerNoneSpec)

/-- 'footlockerlaw18.WorkerLater', WHERE WHAT IT READS IS OF BULK AT MOST 1048576: true; the input reads as it did. -/
def workerLaterUptoRow : OpenClaim := { program := "ytgehjolndmgffaagreat", sum := "fda0d605353a11ff1ab650c5ef4eb8b27e51fdac5029e2d77207359e61b93e87", func := "footlocker/footlockerlaw18.WorkerLater", spec := "workerLater", unfollowed := true, recurses := true, apart := false, narrowed := true }
def WorkerLaterUptoSaid : Prop := workerLaterUptoRow.holds Tryz.pinned (OpenSpec.upto workerLaterSpec)

end Rows
end Go.Proofs.YtgehjolndmgffaaGreat
