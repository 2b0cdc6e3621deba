/-
  No cell of these rows narrows 'for every input' (looked for: loops, veiled, ifaces, maps, wideKeys, modest, calm, conditions, laid).
  DERIVED. THE GIVEN ROWS OF THIS SEAT. 6 by the template 'for every input the law returns true; each argument reads behind the call as it read before'; 0 by the template 'total and deterministic' (their statements: YtcdmokbamakomaaGreatTotals.lean).
  GIVEN WITH THE SEED: the statements are not yours to turn. If you find one false, say at which input.
  Laid BY PROGRAM, IN A SANDBOX (cutbox-rows.mjs): the forced cells as the released guide's own fill.sh prints them over the translation ed102b0d84370479… (all of the seat's roots in one cut). By AI agents, Wed Nov 11 2026. No macro, syntax, notation, axiom, sorry.
-/
import Derived.Test.YtcdmokbamakomaaGreatChecked
import GoSem.Claim
import GoSem.ClaimJoined
import GoSem.ClaimMapViews
import Derived.JoinedTies
import Derived.KernelRfl
namespace Go.Proofs.YtcdmokbamakomaaGreat
/- THE CELL 'sum', in the pinned program and in every row, IS THE sha256 OF THE DUMP (.gsa) THAT YtcdmokbamakomaaGreatProg.lean LOADS. Nothing in Lean hashes anything: it is a label: what it is worth is what the hold of that sum in a sandbox is worth. -/
noncomputable def Tryz.pinned : Pinned := { name := "ytcdmokbamakomaagreat", sum := "ed102b0d84370479d12b3b1f3f2f9062d1820cd7dbc0d0aa00e38eea67d772c7", checked := Tryz.checked }
namespace Rows
def none {H : Type} : Left H := { results := [], args := [] }

/-- 'footlockerlaw10.AccessAlone': WHATEVER THE INPUT: true; the input reads as it did. -/
def accessAloneSpec : ChangeSpec := { name := "accessAlone", fn := fun _ => fun
  | [d1, d2] => { results := [.lit (.bool true)], args := [d1, d2] }
  | _ => none }
def accessAloneRow : OpenClaim := { program := "ytcdmokbamakomaagreat", sum := "ed102b0d84370479d12b3b1f3f2f9062d1820cd7dbc0d0aa00e38eea67d772c7", func := "footlocker/footlockerlaw10.AccessAlone", spec := "accessAlone", apart := false }
def AccessAloneSaid : Prop := accessAloneRow.holds Tryz.pinned (OpenSpec.ofChange accessAloneSpec)

/-- ITS FALSE NEIGHBOUR: 'it returns false'. Refute it at one input. -/
def accessAloneWrong : ChangeSpec := { name := "accessAlone", fn := fun _ => fun
  | [d1, d2] => { results := [.lit (.bool false)], args := [d1, d2] }
  | _ => none }
def AccessAloneWrongFalsely : Prop := accessAloneRow.holds Tryz.pinned (OpenSpec.ofChange accessAloneWrong)

/-- 'footlockerlaw10.AccessCounts': WHATEVER THE INPUT: true; the input reads as it did. -/
def accessCountsSpec : ChangeSpec := { name := "accessCounts", fn := fun _ => fun
  | [d1, d2] => { results := [.lit (.bool true)], args := [d1, d2] }
  | _ => none }
def accessCountsRow : OpenClaim := { program := "ytcdmokbamakomaagreat", sum := "ed102b0d84370479d12b3b1f3f2f9062d1820cd7dbc0d0aa00e38eea67d772c7", func := "footlocker/footlockerlaw10.AccessCounts", spec := "accessCounts", apart := false }
def AccessCountsSaid : Prop := accessCountsRow.holds Tryz.pinned (OpenSpec.ofChange accessCountsSpec)

/-- ITS FALSE NEIGHBOUR: 'it returns false'. Refute it at one input. -/
def accessCountsWrong : ChangeSpec := { name := "accessCounts", fn := fun _ => fun
  | [d1, d2] => { results := [.lit (.bool false)], args := [d1, d2] }
  | _ => none }
def AccessCountsWrongFalsely : Prop := accessCountsRow.holds Tryz.pinned (OpenSpec.ofChange accessCountsWrong)

/-- 'footlockerlaw10.AccessDrops': WHATEVER THE INPUT: true; the input reads as it did. -/
def accessDropsSpec : ChangeSpec := { name := "accessDrops", fn := fun _ => fun
  | [d1, d2] => { results := [.lit (.bool true)], args := [d1, d2] }
  | _ => none }
def accessDropsRow : OpenClaim := { program := "ytcdmokbamakomaagreat", sum := "ed102b0d84370479d12b3b1f3f2f9062d1820cd7dbc0d0aa00e38eea67d772c7", func := "footlocker/footlockerlaw10.AccessDrops", spec := "accessDrops", apart := false }
def AccessDropsSaid : Prop := accessDropsRow.holds Tryz.pinned (OpenSpec.ofChange accessDropsSpec)

/-- ITS FALSE NEIGHBOUR: 'it returns false'. Refute it at one input. -/
def accessDropsWrong : ChangeSpec := { name := "accessDrops", fn := fun _ => fun
  | [d1, d2] => { results := [.lit (.bool false)], args := [d1, d2] }
  | _ => none }
def AccessDropsWrongFalsely : Prop := accessDropsRow.holds Tryz.pinned (OpenSpec.ofChange accessDropsWrong)

/-- 'footlockerlaw10.AccessForged': WHATEVER THE INPUT: true; the input reads as it did. -/
def accessForgedSpec : ChangeSpec := { name := "accessForged", fn := fun _ => fun
  | [d1, d2, d3] => { results := [.lit (.bool true)], args := [d1, d2, d3] }
  | _ => none }
def accessForgedRow : OpenClaim := { program := "ytcdmokbamakomaagreat", sum := "ed102b0d84370479d12b3b1f3f2f9062d1820cd7dbc0d0aa00e38eea67d772c7", func := "footlocker/footlockerlaw10.AccessForged", spec := "accessForged", apart := false }
def AccessForgedSaid : Prop := accessForgedRow.holds Tryz.pinned (OpenSpec.ofChange accessForgedSpec)

/-- ITS FALSE NEIGHBOUR: 'it returns false'. Refute it at one input. -/
def accessForgedWrong : ChangeSpec := { name := "accessForged", fn := fun _ => fun
  | [d1, d2, d3] => { results := [.lit (.bool false)], args := [d1, d2, d3] }
  | _ => none }
def AccessForgedWrongFalsely : Prop := accessForgedRow.holds Tryz.pinned (OpenSpec.ofChange accessForgedWrong)

/-- 'footlockerlaw10.AccessStops': WHATEVER THE INPUT: true; the input reads as it did. -/
def accessStopsSpec : ChangeSpec := { name := "accessStops", fn := fun _ => fun
  | [d1, d2, d3] => { results := [.lit (.bool true)], args := [d1, d2, d3] }
  | _ => none }
def accessStopsRow : OpenClaim := { program := "ytcdmokbamakomaagreat", sum := "ed102b0d84370479d12b3b1f3f2f9062d1820cd7dbc0d0aa00e38eea67d772c7", func := "footlocker/footlockerlaw10.AccessStops", spec := "accessStops", apart := false }
def AccessStopsSaid : Prop := accessStopsRow.holds Tryz.pinned (OpenSpec.ofChange accessStopsSpec)

/-- ITS FALSE NEIGHBOUR: 'it returns false'. Refute it at one input. -/
def accessStopsWrong : ChangeSpec := { name := "accessStops", fn := fun _ => fun
  | [d1, d2, d3] => { results := [.lit (.bool false)], args := [d1, d2, d3] }
  | _ => none }
def AccessStopsWrongFalsely : Prop := accessStopsRow.holds Tryz.pinned (OpenSpec.ofChange accessStopsWrong)

/-- 'footlockerlaw10.AccessNone': WHATEVER THE INPUT: true; the input reads as it did. -/
def accessNoneSpec : ChangeSpec := { name := "accessNone", fn := fun _ => fun
  | [d] => { results := [.lit (.bool true)], args := [d] }
  | _ => none }
def accessNoneRow : OpenClaim := { program := "ytcdmokbamakomaagreat", sum := "ed102b0d84370479d12b3b1f3f2f9062d1820cd7dbc0d0aa00e38eea67d772c7", func := "footlocker/footlockerlaw10.AccessNone", spec := "accessNone", apart := false }
def AccessNoneSaid : Prop := accessNoneRow.holds Tryz.pinned (OpenSpec.ofChange accessNoneSpec)

/-- ITS FALSE NEIGHBOUR: 'it returns false'. Refute it at one input. -/
def accessNoneWrong : ChangeSpec := { name := "accessNone", fn := fun _ => fun
  | [d] => { results := [.lit (.bool false)], args := [d] }
  | _ => none }
def AccessNoneWrongFalsely : Prop := accessNoneRow.holds Tryz.pinned (OpenSpec.ofChange accessNoneWrong)

/- THE SECOND FORM. 'bulk': how many values and letters a reading holds, each counted each time it is reached (what is shared counts as often as it is met; a slice's spare places count too). A statement '..UptoSaid' is the law's where the arguments, and the package variables that the reading takes, are together of bulk at most 1048576: NARROWER than '..Said'. Prove '..Said' where nothing that the law and all that it calls make is longer than what came in: it says more and counts as full. Else prove '..UptoSaid'. A law counts once. -/
mutual
def uptoBulk {H : Type} : DataW H → Nat
  | .lit (.string bytes) => bytes.length + 1
  | .lit _ => 1
  | .nil => 1
  | .ptr d => uptoBulk d + 1
  | .slice elems spare => uptoBulkAll elems + uptoBulkAll spare + 1
  | .agg parts => uptoBulkAll parts + 1
  | .iface _ d => uptoBulk d + 1
  | .map entries => uptoBulkEntries entries + 1
  | .held _ => 1
def uptoBulkAll {H : Type} : List (DataW H) → Nat
  | [] => 0
  | d :: r => uptoBulk d + uptoBulkAll r
def uptoBulkEntries {H : Type} : List (Lit × DataW H) → Nat
  | [] => 0
  | x :: r => uptoBulkEntry x + uptoBulkEntries r
def uptoBulkEntry {H : Type} : Lit × DataW H → Nat
  | (.string bytes, d) => bytes.length + uptoBulk d + 1
  | (_, d) => uptoBulk d + 1
 end
def uptoSmall : (H : Type) → List (DataW H) → Bool := fun _ ds => decide (uptoBulkAll ds ≤ 1048576)
def OpenSpec.upto (s : _root_.Go.ChangeSpec) : _root_.Go.OpenSpec := { _root_.Go.OpenSpec.ofChange s with cond := some uptoSmall }

/-- 'footlockerlaw10.AccessAlone', WHERE WHAT IT READS IS OF BULK AT MOST 1048576: true; the input reads as it did. -/
def accessAloneUptoRow : OpenClaim := { program := "ytcdmokbamakomaagreat", sum := "ed102b0d84370479d12b3b1f3f2f9062d1820cd7dbc0d0aa00e38eea67d772c7", func := "footlocker/footlockerlaw10.AccessAlone", spec := "accessAlone", apart := false, narrowed := true }
def AccessAloneUptoSaid : Prop := accessAloneUptoRow.holds Tryz.pinned (OpenSpec.upto accessAloneSpec)

/-- 'footlockerlaw10.AccessCounts', WHERE WHAT IT READS IS OF BULK AT MOST 1048576: true; the input reads as it did. -/
def accessCountsUptoRow : OpenClaim := { program := "ytcdmokbamakomaagreat", sum := "ed102b0d84370479d12b3b1f3f2f9062d1820cd7dbc0d0aa00e38eea67d772c7", func := "footlocker/footlockerlaw10.AccessCounts", spec := "accessCounts", apart := false, narrowed := true }
def AccessCountsUptoSaid : Prop := accessCountsUptoRow.holds Tryz.pinned (OpenSpec.upto accessCountsSpec)

/-- 'footlockerlaw10.AccessDrops', WHERE WHAT IT READS IS OF BULK AT MOST 1048576: true; the input reads as it did. -/
def accessDropsUptoRow : OpenClaim := { program := "ytcdmokbamakomaagreat", sum := "ed102b0d84370479d12b3b1f3f2f9062d1820cd7dbc0d0aa00e38eea67d772c7", func := "footlocker/footlockerlaw10.AccessDrops", spec := "accessDrops", apart := false, narrowed := true }
def AccessDropsUptoSaid : Prop := accessDropsUptoRow.holds Tryz.pinned (OpenSpec.upto accessDropsSpec)

/-- 'footlockerlaw10.AccessForged', WHERE WHAT IT READS IS OF BULK AT MOST 1048576: true; the input reads as it did. -/
def accessForgedUptoRow : OpenClaim := { program := "ytcdmokbamakomaagreat", sum := "ed102b0d84370479d12b3b1f3f2f9062d1820cd7dbc0d0aa00e38eea67d772c7", func := "footlocker/footlockerlaw10.AccessForged", spec := "accessForged", apart := false, narrowed := true }
def AccessForgedUptoSaid : Prop := accessForgedUptoRow.holds Tryz.pinned (OpenSpec.upto accessForgedSpec)

/-- 'footlockerlaw10.AccessStops', WHERE WHAT IT READS IS OF BULK AT MOST 1048576: true; the input reads as it did. -/
def accessStopsUptoRow : OpenClaim := { program := "ytcdmokbamakomaagreat", sum := "ed102b0d84370479d12b3b1f3f2f9062d1820cd7dbc0d0aa00e38eea67d772c7", func := "footlocker/footlockerlaw10.AccessStops", spec := "accessStops", apart := false, narrowed := true }
def AccessStopsUptoSaid : Prop := accessStopsUptoRow.holds Tryz.pinned (OpenSpec.upto accessStopsSpec)

/-- 'footlockerlaw10.AccessNone', WHERE WHAT IT READS IS OF BULK AT MOST 1048576: true; the input reads as it did. -/
def accessNoneUptoRow : OpenClaim := { program := "ytcdmokbamakomaagreat", sum := "ed102b0d84370479d12b3b1f3f2f9062d1820cd7dbc0d0aa00e38eea67d772c7", func := "footlocker/footlockerlaw10.AccessNone", spec := "accessNone", apart := false, narrowed := true }
def AccessNoneUptoSaid : Prop := accessNoneUptoRow.holds Tryz.pinned (OpenSpec.upto accessNoneSpec)

end Rows
end Go.Proofs.YtcdmokbamakomaaGreat
