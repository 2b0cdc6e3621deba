/-
  No cell of these rows narrows 'for every input' (looked for: loops, veiled, ifaces, maps, wideKeys, modest, calm, conditions, laid).
  DERIVED. THE GIVEN ROWS OF THIS SEAT. 6 by the template 'for every input the law returns true; each argument reads behind the call as it read before'; 0 by the template 'total and deterministic' (their statements: YtpeglmhlooecpaaTotals.lean).
  GIVEN WITH THE SEED: the statements are not yours to turn. If you find one false, say at which input.
  Laid BY PROGRAM, IN A SANDBOX (cutbox-rows.mjs): the forced cells as the released guide's own fill.sh prints them over the translation ccbb6c96fac07134… (all of the seat's roots in one cut). By AI agents, Wed Nov 11 2026. No macro, syntax, notation, axiom, sorry.
-/
import Derived.Test.YtpeglmhlooecpaaChecked
import GoSem.Claim
import GoSem.ClaimJoined
import GoSem.ClaimMapViews
import Derived.JoinedTies
import Derived.KernelRfl
namespace Go.Proofs.Ytpeglmhlooecpaa
/- THE CELL 'sum', in the pinned program and in every row, IS THE sha256 OF THE DUMP (.gsa) THAT YtpeglmhlooecpaaProg.lean LOADS. Nothing in Lean hashes anything: it is a label: what it is worth is what the hold of that sum in a sandbox is worth. -/
noncomputable def Try.pinned : Pinned := { name := "ytpeglmhlooecpaa", sum := "ccbb6c96fac07134b4111aba9991656cb6efd7bc5b266c90bf9d11ebd08509e4", checked := Try.checked }
namespace Rows
def none {H : Type} : Left H := { results := [], args := [] }

/-- 'footlockerlaw01.WordHandles': WHATEVER THE INPUT: true; the input reads as it did. -/
def wordHandlesSpec : ChangeSpec := { name := "wordHandles", fn := fun _ => fun
  | [d1, d2] => { results := [.lit (.bool true)], args := [d1, d2] }
  | _ => none }
def wordHandlesRow : OpenClaim := { program := "ytpeglmhlooecpaa", sum := "ccbb6c96fac07134b4111aba9991656cb6efd7bc5b266c90bf9d11ebd08509e4", func := "footlocker/footlockerlaw01.WordHandles", spec := "wordHandles", apart := false }
def WordHandlesSaid : Prop := wordHandlesRow.holds Try.pinned (OpenSpec.ofChange wordHandlesSpec)

/-- ITS FALSE NEIGHBOUR: 'it returns false'. Refute it at one input. -/
def wordHandlesWrong : ChangeSpec := { name := "wordHandles", fn := fun _ => fun
  | [d1, d2] => { results := [.lit (.bool false)], args := [d1, d2] }
  | _ => none }
def WordHandlesWrongFalsely : Prop := wordHandlesRow.holds Try.pinned (OpenSpec.ofChange wordHandlesWrong)

/-- 'footlockerlaw01.WordSlots': WHATEVER THE INPUT: true; the input reads as it did. -/
def wordSlotsSpec : ChangeSpec := { name := "wordSlots", fn := fun _ => fun
  | [d1, d2] => { results := [.lit (.bool true)], args := [d1, d2] }
  | _ => none }
def wordSlotsRow : OpenClaim := { program := "ytpeglmhlooecpaa", sum := "ccbb6c96fac07134b4111aba9991656cb6efd7bc5b266c90bf9d11ebd08509e4", func := "footlocker/footlockerlaw01.WordSlots", spec := "wordSlots", apart := false }
def WordSlotsSaid : Prop := wordSlotsRow.holds Try.pinned (OpenSpec.ofChange wordSlotsSpec)

/-- ITS FALSE NEIGHBOUR: 'it returns false'. Refute it at one input. -/
def wordSlotsWrong : ChangeSpec := { name := "wordSlots", fn := fun _ => fun
  | [d1, d2] => { results := [.lit (.bool false)], args := [d1, d2] }
  | _ => none }
def WordSlotsWrongFalsely : Prop := wordSlotsRow.holds Try.pinned (OpenSpec.ofChange wordSlotsWrong)

/-- 'footlockerlaw01.WordChunks': WHATEVER THE INPUT: true; the input reads as it did. -/
def wordChunksSpec : ChangeSpec := { name := "wordChunks", fn := fun _ => fun
  | [d1, d2] => { results := [.lit (.bool true)], args := [d1, d2] }
  | _ => none }
def wordChunksRow : OpenClaim := { program := "ytpeglmhlooecpaa", sum := "ccbb6c96fac07134b4111aba9991656cb6efd7bc5b266c90bf9d11ebd08509e4", func := "footlocker/footlockerlaw01.WordChunks", spec := "wordChunks", apart := false }
def WordChunksSaid : Prop := wordChunksRow.holds Try.pinned (OpenSpec.ofChange wordChunksSpec)

/-- ITS FALSE NEIGHBOUR: 'it returns false'. Refute it at one input. -/
def wordChunksWrong : ChangeSpec := { name := "wordChunks", fn := fun _ => fun
  | [d1, d2] => { results := [.lit (.bool false)], args := [d1, d2] }
  | _ => none }
def WordChunksWrongFalsely : Prop := wordChunksRow.holds Try.pinned (OpenSpec.ofChange wordChunksWrong)

/-- 'footlockerlaw01.WordHeads': WHATEVER THE INPUT: true; the input reads as it did. -/
def wordHeadsSpec : ChangeSpec := { name := "wordHeads", fn := fun _ => fun
  | [d1, d2] => { results := [.lit (.bool true)], args := [d1, d2] }
  | _ => none }
def wordHeadsRow : OpenClaim := { program := "ytpeglmhlooecpaa", sum := "ccbb6c96fac07134b4111aba9991656cb6efd7bc5b266c90bf9d11ebd08509e4", func := "footlocker/footlockerlaw01.WordHeads", spec := "wordHeads", apart := false }
def WordHeadsSaid : Prop := wordHeadsRow.holds Try.pinned (OpenSpec.ofChange wordHeadsSpec)

/-- ITS FALSE NEIGHBOUR: 'it returns false'. Refute it at one input. -/
def wordHeadsWrong : ChangeSpec := { name := "wordHeads", fn := fun _ => fun
  | [d1, d2] => { results := [.lit (.bool false)], args := [d1, d2] }
  | _ => none }
def WordHeadsWrongFalsely : Prop := wordHeadsRow.holds Try.pinned (OpenSpec.ofChange wordHeadsWrong)

/-- 'footlockerlaw01.WordCells': WHATEVER THE INPUT: true; the input reads as it did. -/
def wordCellsSpec : ChangeSpec := { name := "wordCells", fn := fun _ => fun
  | [d1, d2] => { results := [.lit (.bool true)], args := [d1, d2] }
  | _ => none }
def wordCellsRow : OpenClaim := { program := "ytpeglmhlooecpaa", sum := "ccbb6c96fac07134b4111aba9991656cb6efd7bc5b266c90bf9d11ebd08509e4", func := "footlocker/footlockerlaw01.WordCells", spec := "wordCells", apart := false }
def WordCellsSaid : Prop := wordCellsRow.holds Try.pinned (OpenSpec.ofChange wordCellsSpec)

/-- ITS FALSE NEIGHBOUR: 'it returns false'. Refute it at one input. -/
def wordCellsWrong : ChangeSpec := { name := "wordCells", fn := fun _ => fun
  | [d1, d2] => { results := [.lit (.bool false)], args := [d1, d2] }
  | _ => none }
def WordCellsWrongFalsely : Prop := wordCellsRow.holds Try.pinned (OpenSpec.ofChange wordCellsWrong)

/-- 'footlockerlaw01.WordTops': WHATEVER THE INPUT: true; the input reads as it did. -/
def wordTopsSpec : ChangeSpec := { name := "wordTops", fn := fun _ => fun
  | [d1, d2] => { results := [.lit (.bool true)], args := [d1, d2] }
  | _ => none }
def wordTopsRow : OpenClaim := { program := "ytpeglmhlooecpaa", sum := "ccbb6c96fac07134b4111aba9991656cb6efd7bc5b266c90bf9d11ebd08509e4", func := "footlocker/footlockerlaw01.WordTops", spec := "wordTops", apart := false }
def WordTopsSaid : Prop := wordTopsRow.holds Try.pinned (OpenSpec.ofChange wordTopsSpec)

/-- ITS FALSE NEIGHBOUR: 'it returns false'. Refute it at one input. -/
def wordTopsWrong : ChangeSpec := { name := "wordTops", fn := fun _ => fun
  | [d1, d2] => { results := [.lit (.bool false)], args := [d1, d2] }
  | _ => none }
def WordTopsWrongFalsely : Prop := wordTopsRow.holds Try.pinned (OpenSpec.ofChange wordTopsWrong)

/- THE SECOND FORM. 'bulk': how many values and letters a reading holds, each counted each time it is reached (what is shared counts as often as it is met; a slice's spare places count too). A statement '..UptoSaid' is the law's where the arguments, and the package variables that the reading takes, are together of bulk at most 1048576: NARROWER than '..Said'. Prove '..Said' where nothing that the law and all that it calls make is longer than what came in: it says more and counts as full. Else prove '..UptoSaid'. A law counts once. -/
mutual
def uptoBulk {H : Type} : DataW H → Nat
  | .lit (.string bytes) => bytes.length + 1
  | .lit _ => 1
  | .nil => 1
  | .ptr d => uptoBulk d + 1
  | .slice elems spare => uptoBulkAll elems + uptoBulkAll spare + 1
  | .agg parts => uptoBulkAll parts + 1
  | .iface _ d => uptoBulk d + 1
  | .map entries => uptoBulkEntries entries + 1
  | .held _ => 1
def uptoBulkAll {H : Type} : List (DataW H) → Nat
  | [] => 0
  | d :: r => uptoBulk d + uptoBulkAll r
def uptoBulkEntries {H : Type} : List (Lit × DataW H) → Nat
  | [] => 0
  | x :: r => uptoBulkEntry x + uptoBulkEntries r
def uptoBulkEntry {H : Type} : Lit × DataW H → Nat
  | (.string bytes, d) => bytes.length + uptoBulk d + 1
  | (_, d) => uptoBulk d + 1
 end
def uptoSmall : (H : Type) → List (DataW H) → Bool := fun _ ds => decide (uptoBulkAll ds ≤ 1048576)
def OpenSpec.upto (s : _root_.Go.ChangeSpec) : _root_.Go.OpenSpec := { _root_.Go.OpenSpec.ofChange s with cond := some uptoSmall }

/-- 'footlockerlaw01.WordHandles', WHERE WHAT IT READS IS OF BULK AT MOST 1048576: true; the input reads as it did. -/
def wordHandlesUptoRow : OpenClaim := { program := "ytpeglmhlooecpaa", sum := "ccbb6c96fac07134b4111aba9991656cb6efd7bc5b266c90bf9d11ebd08509e4", func := "footlocker/footlockerlaw01.WordHandles", spec := "wordHandles", apart := false, narrowed := true }
def WordHandlesUptoSaid : Prop := wordHandlesUptoRow.holds Try.pinned (OpenSpec.upto wordHandlesSpec)

/-- 'footlockerlaw01.WordSlots', WHERE WHAT IT READS IS OF BULK AT MOST 1048576: true; the input reads as it did. -/
def wordSlotsUptoRow : OpenClaim := { program := "ytpeglmhlooecpaa", sum := "ccbb6c96fac07134b4111aba9991656cb6efd7bc5b266c90bf9d11ebd08509e4", func := "footlocker/footlockerlaw01.WordSlots", spec := "wordSlots", apart := false, narrowed := true }
def WordSlotsUptoSaid : Prop := wordSlotsUptoRow.holds Try.pinned (OpenSpec.upto wordSlotsSpec)

/-- 'footlockerlaw01.WordChunks', WHERE WHAT IT READS IS OF BULK AT MOST 1048576: true; the input reads as it did. -/
def wordChunksUptoRow : OpenClaim := { program := "ytpeglmhlooecpaa", sum := "ccbb6c96fac07134b4111aba9991656cb6efd7bc5b266c90bf9d11ebd08509e4", func := "footlocker/footlockerlaw01.WordChunks", spec := "wordChunks", apart := false, narrowed := true }
def WordChunksUptoSaid : Prop := wordChunksUptoRow.holds Try.pinned (OpenSpec.upto wordChunksSpec)

/-- 'footlockerlaw01.WordHeads', WHERE WHAT IT READS IS OF BULK AT MOST 1048576: true; the input reads as it did. -/
def wordHeadsUptoRow : OpenClaim := { program := "ytpeglmhlooecpaa", sum := "ccbb6c96fac07134b4111aba9991656cb6efd7bc5b266c90bf9d11ebd08509e4", func := "footlocker/footlockerlaw01.WordHeads", spec := "wordHeads", apart := false, narrowed := true }
def WordHeadsUptoSaid : Prop := wordHeadsUptoRow.holds Try.pinned (OpenSpec.upto wordHeadsSpec)

/-- 'footlockerlaw01.WordCells', WHERE WHAT IT READS IS OF BULK AT MOST 1048576: true; the input reads as it did. -/
def wordCellsUptoRow : OpenClaim := { program := "ytpeglmhlooecpaa", sum := "ccbb6c96fac07134b4111aba9991656cb6efd7bc5b266c90bf9d11ebd08509e4", func := "footlocker/footlockerlaw01.WordCells", spec := "wordCells", apart := false, narrowed := true }
def WordCellsUptoSaid : Prop := wordCellsUptoRow.holds Try.pinned (OpenSpec.upto wordCellsSpec)

/-- 'footlockerlaw01.WordTops', WHERE WHAT IT READS IS OF BULK AT MOST 1048576: true; the input reads as it did. -/
def wordTopsUptoRow : OpenClaim := { program := "ytpeglmhlooecpaa", sum := "ccbb6c96fac07134b4111aba9991656cb6efd7bc5b266c90bf9d11ebd08509e4", func := "footlocker/footlockerlaw01.WordTops", spec := "wordTops", apart := false, narrowed := true }
def WordTopsUptoSaid : Prop := wordTopsUptoRow.holds Try.pinned (OpenSpec.upto wordTopsSpec)

end Rows
end Go.Proofs.Ytpeglmhlooecpaa
