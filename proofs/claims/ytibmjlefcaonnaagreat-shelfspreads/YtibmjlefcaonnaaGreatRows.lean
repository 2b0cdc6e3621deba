/-
  No cell of these rows narrows 'for every input' (looked for: loops, veiled, ifaces, maps, wideKeys, modest, calm, conditions, laid).
  DERIVED. THE GIVEN ROWS OF THIS SEAT. 5 by the template 'for every input the law returns true; each argument reads behind the call as it read before'; 0 by the template 'total and deterministic' (their statements: YtibmjlefcaonnaaGreatTotals.lean).
  GIVEN WITH THE SEED: the statements are not yours to turn. If you find one false, say at which input.
  Laid BY PROGRAM, IN A SANDBOX (cutbox-rows.mjs): the forced cells as the released guide's own fill.sh prints them over the translation bcd63fe2b22d8c3d… (all of the seat's roots in one cut). By AI agents, Wed Nov 11 2026. No macro, syntax, notation, axiom, sorry.
-/
import Derived.Test.YtibmjlefcaonnaaGreatChecked
import GoSem.Claim
import GoSem.ClaimJoined
import GoSem.ClaimMapViews
import Derived.JoinedTies
import Derived.KernelRfl
namespace Go.Proofs.YtibmjlefcaonnaaGreat
/- THE CELL 'sum', in the pinned program and in every row, IS THE sha256 OF THE DUMP (.gsa) THAT YtibmjlefcaonnaaGreatProg.lean LOADS. Nothing in Lean hashes anything: it is a label: what it is worth is what the hold of that sum in a sandbox is worth. -/
noncomputable def Tryz.pinned : Pinned := { name := "ytibmjlefcaonnaagreat", sum := "bcd63fe2b22d8c3d584fb3912ca6cc238bcc1994c463fb9cc39a43e63eda5e4f", checked := Tryz.checked }
namespace Rows
def none {H : Type} : Left H := { results := [], args := [] }

/-- 'footlockerlaw17.ShelfOf': WHATEVER THE INPUT: true; the input reads as it did. -/
def shelfOfSpec : ChangeSpec := { name := "shelfOf", fn := fun _ => fun
  | [d1, d2] => { results := [.lit (.bool true)], args := [d1, d2] }
  | _ => none }
def shelfOfRow : OpenClaim := { program := "ytibmjlefcaonnaagreat", sum := "bcd63fe2b22d8c3d584fb3912ca6cc238bcc1994c463fb9cc39a43e63eda5e4f", func := "footlocker/footlockerlaw17.ShelfOf", spec := "shelfOf", unfollowed := true, recurses := true, apart := false }
def ShelfOfSaid : Prop := shelfOfRow.holds Tryz.pinned (OpenSpec.ofChange shelfOfSpec)

/-- ITS FALSE NEIGHBOUR: 'it returns false'. Refute it at one input. -/
def shelfOfWrong : ChangeSpec := { name := "shelfOf", fn := fun _ => fun
  | [d1, d2] => { results := [.lit (.bool false)], args := [d1, d2] }
  | _ => none }
def ShelfOfWrongFalsely : Prop := shelfOfRow.holds Tryz.pinned (OpenSpec.ofChange shelfOfWrong)

/-- 'footlockerlaw17.ShelfFresh': WHATEVER THE INPUT: true; the input reads as it did. -/
def shelfFreshSpec : ChangeSpec := { name := "shelfFresh", fn := fun _ => fun
  | [d1, d2] => { results := [.lit (.bool true)], args := [d1, d2] }
  | _ => none }
def shelfFreshRow : OpenClaim := { program := "ytibmjlefcaonnaagreat", sum := "bcd63fe2b22d8c3d584fb3912ca6cc238bcc1994c463fb9cc39a43e63eda5e4f", func := "footlocker/footlockerlaw17.ShelfFresh", spec := "shelfFresh", unfollowed := true, recurses := true, apart := false }
def ShelfFreshSaid : Prop := shelfFreshRow.holds Tryz.pinned (OpenSpec.ofChange shelfFreshSpec)

/-- ITS FALSE NEIGHBOUR: 'it returns false'. Refute it at one input. -/
def shelfFreshWrong : ChangeSpec := { name := "shelfFresh", fn := fun _ => fun
  | [d1, d2] => { results := [.lit (.bool false)], args := [d1, d2] }
  | _ => none }
def ShelfFreshWrongFalsely : Prop := shelfFreshRow.holds Tryz.pinned (OpenSpec.ofChange shelfFreshWrong)

/-- 'footlockerlaw17.ShelfSpreads': WHATEVER THE INPUT: true; the input reads as it did. -/
def shelfSpreadsSpec : ChangeSpec := { name := "shelfSpreads", fn := fun _ => fun
  | [d1, d2] => { results := [.lit (.bool true)], args := [d1, d2] }
  | _ => none }
def shelfSpreadsRow : OpenClaim := { program := "ytibmjlefcaonnaagreat", sum := "bcd63fe2b22d8c3d584fb3912ca6cc238bcc1994c463fb9cc39a43e63eda5e4f", func := "footlocker/footlockerlaw17.ShelfSpreads", spec := "shelfSpreads", unfollowed := true, recurses := true, apart := false }
def ShelfSpreadsSaid : Prop := shelfSpreadsRow.holds Tryz.pinned (OpenSpec.ofChange shelfSpreadsSpec)

/-- ITS FALSE NEIGHBOUR: 'it returns false'. Refute it at one input. -/
def shelfSpreadsWrong : ChangeSpec := { name := "shelfSpreads", fn := fun _ => fun
  | [d1, d2] => { results := [.lit (.bool false)], args := [d1, d2] }
  | _ => none }
def ShelfSpreadsWrongFalsely : Prop := shelfSpreadsRow.holds Tryz.pinned (OpenSpec.ofChange shelfSpreadsWrong)

/-- 'footlockerlaw17.ShelfNone': WHATEVER THE INPUT: true; the input reads as it did. -/
def shelfNoneSpec : ChangeSpec := { name := "shelfNone", fn := fun _ => fun
  | [d1, d2] => { results := [.lit (.bool true)], args := [d1, d2] }
  | _ => none }
def shelfNoneRow : OpenClaim := { program := "ytibmjlefcaonnaagreat", sum := "bcd63fe2b22d8c3d584fb3912ca6cc238bcc1994c463fb9cc39a43e63eda5e4f", func := "footlocker/footlockerlaw17.ShelfNone", spec := "shelfNone", unfollowed := true, recurses := true, apart := false }
def ShelfNoneSaid : Prop := shelfNoneRow.holds Tryz.pinned (OpenSpec.ofChange shelfNoneSpec)

/-- ITS FALSE NEIGHBOUR: 'it returns false'. Refute it at one input. -/
def shelfNoneWrong : ChangeSpec := { name := "shelfNone", fn := fun _ => fun
  | [d1, d2] => { results := [.lit (.bool false)], args := [d1, d2] }
  | _ => none }
def ShelfNoneWrongFalsely : Prop := shelfNoneRow.holds Tryz.pinned (OpenSpec.ofChange shelfNoneWrong)

/-- 'footlockerlaw17.ShelfApart': WHATEVER THE INPUT: true; the input reads as it did. -/
def shelfApartSpec : ChangeSpec := { name := "shelfApart", fn := fun _ => fun
  | [d1, d2] => { results := [.lit (.bool true)], args := [d1, d2] }
  | _ => none }
def shelfApartRow : OpenClaim := { program := "ytibmjlefcaonnaagreat", sum := "bcd63fe2b22d8c3d584fb3912ca6cc238bcc1994c463fb9cc39a43e63eda5e4f", func := "footlocker/footlockerlaw17.ShelfApart", spec := "shelfApart", unfollowed := true, recurses := true, apart := false }
def ShelfApartSaid : Prop := shelfApartRow.holds Tryz.pinned (OpenSpec.ofChange shelfApartSpec)

/-- ITS FALSE NEIGHBOUR: 'it returns false'. Refute it at one input. -/
def shelfApartWrong : ChangeSpec := { name := "shelfApart", fn := fun _ => fun
  | [d1, d2] => { results := [.lit (.bool false)], args := [d1, d2] }
  | _ => none }
def ShelfApartWrongFalsely : Prop := shelfApartRow.holds Tryz.pinned (OpenSpec.ofChange shelfApartWrong)

/- THE SECOND FORM. 'bulk': how many values and letters a reading holds, each counted each time it is reached (what is shared counts as often as it is met; a slice's spare places count too). A statement '..UptoSaid' is the law's where the arguments, and the package variables that the reading takes, are together of bulk at most 1048576: NARROWER than '..Said'. Prove '..Said' where nothing that the law and all that it calls make is longer than what came in: it says more and counts as full. Else prove '..UptoSaid'. A law counts once. -/
mutual
def uptoBulk {H : Type} : DataW H → Nat
  | .lit (.string bytes) => bytes.length + 1
  | .lit _ => 1
  | .nil => 1
  | .ptr d => uptoBulk d + 1
  | .slice elems spare => uptoBulkAll elems + uptoBulkAll spare + 1
  | .agg parts => uptoBulkAll parts + 1
  | .iface _ d => uptoBulk d + 1
  | .map entries => uptoBulkEntries entries + 1
  | .held _ => 1
def uptoBulkAll {H : Type} : List (DataW H) → Nat
  | [] => 0
  | d :: r => uptoBulk d + uptoBulkAll r
def uptoBulkEntries {H : Type} : List (Lit × DataW H) → Nat
  | [] => 0
  | x :: r => uptoBulkEntry x + uptoBulkEntries r
def uptoBulkEntry {H : Type} : Lit × DataW H → Nat
  | (.string bytes, d) => bytes.length + uptoBulk d + 1
  | (_, d) => uptoBulk d + 1
 end
def uptoSmall : (H : Type) → List (DataW H) → Bool := fun _ ds => decide (uptoBulkAll ds ≤ 1048576)
def OpenSpec.upto (s : _root_.Go.ChangeSpec) : _root_.Go.OpenSpec := { _root_.Go.OpenSpec.ofChange s with cond := some uptoSmall }

/-- 'footlockerlaw17.ShelfOf', WHERE WHAT IT READS IS OF BULK AT MOST 1048576: true; the input reads as it did. -/
def shelfOfUptoRow : OpenClaim := { program := "ytibmjlefcaonnaagreat", sum := "bcd63fe2b22d8c3d584fb3912ca6cc238bcc1994c463fb9cc39a43e63eda5e4f", func := "footlocker/footlockerlaw17.ShelfOf", spec := "shelfOf", unfollowed := true, recurses := true, apart := false, narrowed := true }
def ShelfOfUptoSaid : Prop := shelfOfUptoRow.holds Tryz.pinned (OpenSpec.upto shelfOfSpec)

/-- 'footlockerlaw17.ShelfFresh', WHERE WHAT IT READS IS OF BULK AT MOST 1048576: true; the input reads as it did. -/
def shelfFreshUptoRow : OpenClaim := { program := "ytibmjlefcaonnaagreat", sum := "bcd63fe2b22d8c3d584fb3912ca6cc238bcc1994c463fb9cc39a43e63eda5e4f", func := "footlocker/footlockerlaw17.ShelfFresh", spec := "shelfFresh", unfollowed := true, recurses := true, apart := false, narrowed := true }
def ShelfFreshUptoSaid : Prop := shelfFreshUptoRow.holds Tryz.pinned (OpenSpec.upto shelfFreshSpec)

/-- 'footlockerlaw17.ShelfSpreads', WHERE WHAT IT READS IS OF BULK AT MOST 1048576: true; the input reads as it did. -/
def shelfSpreadsUptoRow : OpenClaim := { program := "ytibmjlefcaonnaagreat", sum := "bcd63fe2b22d8c3d584fb3912ca6cc238bcc1994c463fb9cc39a43e63eda5e4f", func := "footlocker/footlockerlaw17.ShelfSpreads", spec := "shelfSpreads", unfollowed := true, recurses := true, apart := false, narrowed := true }
def ShelfSpreadsUptoSaid : Prop := shelfSpreadsUptoRow.holds Tryz.pinned (OpenSpec.upto shelfSpreadsSpec)

/-- 'footlockerlaw17.ShelfNone', WHERE WHAT IT READS IS OF BULK AT MOST 1048576: true; the input reads as it did. -/
def shelfNoneUptoRow : OpenClaim := { program := "ytibmjlefcaonnaagreat", sum := "bcd63fe2b22d8c3d584fb3912ca6cc238bcc1994c463fb9cc39a43e63eda5e4f", func := "footlocker/footlockerlaw17.ShelfNone", spec := "shelfNone", unfollowed := true, recurses := true, apart := false, narrowed := true }
def ShelfNoneUptoSaid : Prop := shelfNoneUptoRow.holds Tryz.pinned (OpenSpec.upto shelfNoneSpec)

/-- 'footlockerlaw17.ShelfApart', WHERE WHAT IT READS IS OF BULK AT MOST 1048576: true; the input reads as it did. -/
def shelfApartUptoRow : OpenClaim := { program := "ytibmjlefcaonnaagreat", sum := "bcd63fe2b22d8c3d584fb3912ca6cc238bcc1994c463fb9cc39a43e63eda5e4f", func := "footlocker/footlockerlaw17.ShelfApart", spec := "shelfApart", unfollowed := true, recurses := true, apart := false, narrowed := true }
def ShelfApartUptoSaid : Prop := shelfApartUptoRow.holds Tryz.pinned (OpenSpec.upto shelfApartSpec)

end Rows
end Go.Proofs.YtibmjlefcaonnaaGreat
