/-
  No cell of these rows narrows 'for every input' (looked for: loops, veiled, ifaces, maps, wideKeys, modest, calm, conditions, laid).
  DERIVED. THE GIVEN ROWS OF THIS SEAT. 6 by the template 'for every input the law returns true; each argument reads behind the call as it read before'; 0 by the template 'total and deterministic' (their statements: YtpbghmeikcphnaaGreatTotals.lean).
  GIVEN WITH THE SEED: the statements are not yours to turn. If you find one false, say at which input.
  Laid BY PROGRAM, IN A SANDBOX (cutbox-rows.mjs): the forced cells as the released guide's own fill.sh prints them over the translation 90498a54fc577d12… (all of the seat's roots in one cut). By AI agents, Wed Nov 11 2026. No macro, syntax, notation, axiom, sorry.
-/
import Derived.Test.YtpbghmeikcphnaaGreatChecked
import GoSem.Claim
import GoSem.ClaimJoined
import GoSem.ClaimMapViews
import Derived.JoinedTies
import Derived.KernelRfl
namespace Go.Proofs.YtpbghmeikcphnaaGreat
/- THE CELL 'sum', in the pinned program and in every row, IS THE sha256 OF THE DUMP (.gsa) THAT YtpbghmeikcphnaaGreatProg.lean LOADS. Nothing in Lean hashes anything: it is a label: what it is worth is what the hold of that sum in a sandbox is worth. -/
noncomputable def Tryz.pinned : Pinned := { name := "ytpbghmeikcphnaagreat", sum := "90498a54fc577d12e8b1843268e888685fb8e4e6eb0182d1bcb76d08993ca65f", checked := Tryz.checked }
namespace Rows
def none {H : Type} : Left H := { results := [], args := [] }

/-- 'footlockerlaw16.ListAlone': WHATEVER THE INPUT: true; the input reads as it did. -/
def listAloneSpec : ChangeSpec := { name := "listAlone", fn := fun _ => fun
  | [d] => { results := [.lit (.bool true)], args := [d] }
  | _ => none }
def listAloneRow : OpenClaim := { program := "ytpbghmeikcphnaagreat", sum := "90498a54fc577d12e8b1843268e888685fb8e4e6eb0182d1bcb76d08993ca65f", func := "footlocker/footlockerlaw16.ListAlone", spec := "listAlone", unfollowed := true, recurses := true, apart := false }
def ListAloneSaid : Prop := listAloneRow.holds Tryz.pinned (OpenSpec.ofChange listAloneSpec)

/-- ITS FALSE NEIGHBOUR: 'it returns false'. Refute it at one input. -/
def listAloneWrong : ChangeSpec := { name := "listAlone", fn := fun _ => fun
  | [d] => { results := [.lit (.bool false)], args := [d] }
  | _ => none }
def ListAloneWrongFalsely : Prop := listAloneRow.holds Tryz.pinned (OpenSpec.ofChange listAloneWrong)

/-- 'footlockerlaw16.ListShares': WHATEVER THE INPUT: true; the input reads as it did. -/
def listSharesSpec : ChangeSpec := { name := "listShares", fn := fun _ => fun
  | [d1, d2] => { results := [.lit (.bool true)], args := [d1, d2] }
  | _ => none }
def listSharesRow : OpenClaim := { program := "ytpbghmeikcphnaagreat", sum := "90498a54fc577d12e8b1843268e888685fb8e4e6eb0182d1bcb76d08993ca65f", func := "footlocker/footlockerlaw16.ListShares", spec := "listShares", unfollowed := true, recurses := true, apart := false }
def ListSharesSaid : Prop := listSharesRow.holds Tryz.pinned (OpenSpec.ofChange listSharesSpec)

/-- ITS FALSE NEIGHBOUR: 'it returns false'. Refute it at one input. -/
def listSharesWrong : ChangeSpec := { name := "listShares", fn := fun _ => fun
  | [d1, d2] => { results := [.lit (.bool false)], args := [d1, d2] }
  | _ => none }
def ListSharesWrongFalsely : Prop := listSharesRow.holds Tryz.pinned (OpenSpec.ofChange listSharesWrong)

/-- 'footlockerlaw16.ListFull': WHATEVER THE INPUT: true; the input reads as it did. -/
def listFullSpec : ChangeSpec := { name := "listFull", fn := fun _ => fun
  | [d1, d2] => { results := [.lit (.bool true)], args := [d1, d2] }
  | _ => none }
def listFullRow : OpenClaim := { program := "ytpbghmeikcphnaagreat", sum := "90498a54fc577d12e8b1843268e888685fb8e4e6eb0182d1bcb76d08993ca65f", func := "footlocker/footlockerlaw16.ListFull", spec := "listFull", unfollowed := true, recurses := true, apart := false }
def ListFullSaid : Prop := listFullRow.holds Tryz.pinned (OpenSpec.ofChange listFullSpec)

/-- ITS FALSE NEIGHBOUR: 'it returns false'. Refute it at one input. -/
def listFullWrong : ChangeSpec := { name := "listFull", fn := fun _ => fun
  | [d1, d2] => { results := [.lit (.bool false)], args := [d1, d2] }
  | _ => none }
def ListFullWrongFalsely : Prop := listFullRow.holds Tryz.pinned (OpenSpec.ofChange listFullWrong)

/-- 'footlockerlaw16.ListLinks': WHATEVER THE INPUT: true; the input reads as it did. -/
def listLinksSpec : ChangeSpec := { name := "listLinks", fn := fun _ => fun
  | [d1, d2] => { results := [.lit (.bool true)], args := [d1, d2] }
  | _ => none }
def listLinksRow : OpenClaim := { program := "ytpbghmeikcphnaagreat", sum := "90498a54fc577d12e8b1843268e888685fb8e4e6eb0182d1bcb76d08993ca65f", func := "footlocker/footlockerlaw16.ListLinks", spec := "listLinks", unfollowed := true, recurses := true, apart := false }
def ListLinksSaid : Prop := listLinksRow.holds Tryz.pinned (OpenSpec.ofChange listLinksSpec)

/-- ITS FALSE NEIGHBOUR: 'it returns false'. Refute it at one input. -/
def listLinksWrong : ChangeSpec := { name := "listLinks", fn := fun _ => fun
  | [d1, d2] => { results := [.lit (.bool false)], args := [d1, d2] }
  | _ => none }
def ListLinksWrongFalsely : Prop := listLinksRow.holds Tryz.pinned (OpenSpec.ofChange listLinksWrong)

/-- 'footlockerlaw16.ListNone': WHATEVER THE INPUT: true; the input reads as it did. -/
def listNoneSpec : ChangeSpec := { name := "listNone", fn := fun _ => fun
  | [d1, d2, d3] => { results := [.lit (.bool true)], args := [d1, d2, d3] }
  | _ => none }
def listNoneRow : OpenClaim := { program := "ytpbghmeikcphnaagreat", sum := "90498a54fc577d12e8b1843268e888685fb8e4e6eb0182d1bcb76d08993ca65f", func := "footlocker/footlockerlaw16.ListNone", spec := "listNone", unfollowed := true, recurses := true, apart := false }
def ListNoneSaid : Prop := listNoneRow.holds Tryz.pinned (OpenSpec.ofChange listNoneSpec)

/-- ITS FALSE NEIGHBOUR: 'it returns false'. Refute it at one input. -/
def listNoneWrong : ChangeSpec := { name := "listNone", fn := fun _ => fun
  | [d1, d2, d3] => { results := [.lit (.bool false)], args := [d1, d2, d3] }
  | _ => none }
def ListNoneWrongFalsely : Prop := listNoneRow.holds Tryz.pinned (OpenSpec.ofChange listNoneWrong)

/-- 'footlockerlaw16.ListOnce': WHATEVER THE INPUT: true; the input reads as it did. -/
def listOnceSpec : ChangeSpec := { name := "listOnce", fn := fun _ => fun
  | [d1, d2, d3] => { results := [.lit (.bool true)], args := [d1, d2, d3] }
  | _ => none }
def listOnceRow : OpenClaim := { program := "ytpbghmeikcphnaagreat", sum := "90498a54fc577d12e8b1843268e888685fb8e4e6eb0182d1bcb76d08993ca65f", func := "footlocker/footlockerlaw16.ListOnce", spec := "listOnce", unfollowed := true, recurses := true, apart := false }
def ListOnceSaid : Prop := listOnceRow.holds Tryz.pinned (OpenSpec.ofChange listOnceSpec)

/-- ITS FALSE NEIGHBOUR: 'it returns false'. Refute it at one input. -/
def listOnceWrong : ChangeSpec := { name := "listOnce", fn := fun _ => fun
  | [d1, d2, d3] => { results := [.lit (.bool false)], args := [d1, d2, d3] }
  | _ => none }
def ListOnceWrongFalsely : Prop := listOnceRow.holds Tryz.pinned (OpenSpec.ofChange listOnceWrong)

/- THE SECOND FORM. 'bulk': how many values and letters a reading holds, each counted each time it is reached (what is shared counts as often as it is met; a slice's spare places count too). A statement '..UptoSaid' is the law's where the arguments, and the package variables that the reading takes, are together of bulk at most 1048576: NARROWER than '..Said'. Prove '..Said' where nothing that the law and all that it calls make is longer than what came in: it says more and counts as full. Else prove '..UptoSaid'. A law counts once. -/
mutual
def uptoBulk {H : Type} : DataW H → Nat
  | .lit (.string bytes) => bytes.length + 1
  | .lit _ => 1
  | .nil => 1
  | .ptr d => uptoBulk d + 1
  | .slice elems spare => uptoBulkAll elems + uptoBulkAll spare + 1
  | .agg parts => uptoBulkAll parts + 1
  | .iface _ d => uptoBulk d + 1
  | .map entries => uptoBulkEntries entries + 1
  | .held _ => 1
def uptoBulkAll {H : Type} : List (DataW H) → Nat
  | [] => 0
  | d :: r => uptoBulk d + uptoBulkAll r
def uptoBulkEntries {H : Type} : List (Lit × DataW H) → Nat
  | [] => 0
  | x :: r => uptoBulkEntry x + uptoBulkEntries r
def uptoBulkEntry {H : Type} : Lit × DataW H → Nat
  | (.string bytes, d) => bytes.length + uptoBulk d + 1
  | (_, d) => uptoBulk d + 1
 end
def uptoSmall : (H : Type) → List (DataW H) → Bool := fun _ ds => decide (uptoBulkAll ds ≤ 1048576)
def OpenSpec.upto (s : _root_.Go.ChangeSpec) : _root_.Go.OpenSpec := { _root_.Go.OpenSpec.ofChange s with cond := some uptoSmall }

/-- 'footlockerlaw16.ListAlone', WHERE WHAT IT READS IS OF BULK AT MOST 1048576: true; the input reads as it did. -/
def listAloneUptoRow : OpenClaim := { program := "ytpbghmeikcphnaagreat", sum := "90498a54fc577d12e8b1843268e888685fb8e4e6eb0182d1bcb76d08993ca65f", func := "footlocker/footlockerlaw16.ListAlone", spec := "listAlone", unfollowed := true, recurses := true, apart := false, narrowed := true }
def ListAloneUptoSaid : Prop := listAloneUptoRow.holds Tryz.pinned (OpenSpec.upto listAloneSpec)

/-- 'footlockerlaw16.ListShares', WHERE WHAT IT READS IS OF BULK AT MOST 1048576: true; the input reads as it did. -/
def listSharesUptoRow : OpenClaim := { program := "ytpbghmeikcphnaagreat", sum := "90498a54fc577d12e8b1843268e888685fb8e4e6eb0182d1bcb76d08993ca65f", func := "footlocker/footlockerlaw16.ListShares", spec := "listShares", unfollowed := true, recurses := true, apart := false, narrowed := true }
def ListSharesUptoSaid : Prop := listSharesUptoRow.holds Tryz.pinned (OpenSpec.upto listSharesSpec)

/-- 'footlockerlaw16.ListFull', WHERE WHAT IT READS IS OF BULK AT MOST 1048576: true; the input reads as it did. -/
def listFullUptoRow : OpenClaim := { program := "ytpbghmeikcphnaagreat", sum := "90498a54fc577d12e8b1843268e888685fb8e4e6eb0182d1bcb76d08993ca65f", func := "footlocker/footlockerlaw16.ListFull", spec := "listFull", unfollowed := true, recurses := true, apart := false, narrowed := true }
def ListFullUptoSaid : Prop := listFullUptoRow.holds Tryz.pinned (OpenSpec.upto listFullSpec)

/-- 'footlockerlaw16.ListLinks', WHERE WHAT IT READS IS OF BULK AT MOST 1048576: true; the input reads as it did. -/
def listLinksUptoRow : OpenClaim := { program := "ytpbghmeikcphnaagreat", sum := "90498a54fc577d12e8b1843268e888685fb8e4e6eb0182d1bcb76d08993ca65f", func := "footlocker/footlockerlaw16.ListLinks", spec := "listLinks", unfollowed := true, recurses := true, apart := false, narrowed := true }
def ListLinksUptoSaid : Prop := listLinksUptoRow.holds Tryz.pinned (OpenSpec.upto listLinksSpec)

/-- 'footlockerlaw16.ListNone', WHERE WHAT IT READS IS OF BULK AT MOST 1048576: true; the input reads as it did. -/
def listNoneUptoRow : OpenClaim := { program := "ytpbghmeikcphnaagreat", sum := "90498a54fc577d12e8b1843268e888685fb8e4e6eb0182d1bcb76d08993ca65f", func := "footlocker/footlockerlaw16.ListNone", spec := "listNone", unfollowed := true, recurses := true, apart := false, narrowed := true }
def ListNoneUptoSaid : Prop := listNoneUptoRow.holds Tryz.pinned (OpenSpec.upto listNoneSpec)

/-- 'footlockerlaw16.ListOnce', WHERE WHAT IT READS IS OF BULK AT MOST 1048576: true; the input reads as it did. -/
def listOnceUptoRow : OpenClaim := { program := "ytpbghmeikcphnaagreat", sum := "90498a54fc577d12e8b1843268e888685fb8e4e6eb0182d1bcb76d08993ca65f", func := "footlocker/footlockerlaw16.ListOnce", spec := "listOnce", unfollowed := true, recurses := true, apart := false, narrowed := true }
def ListOnceUptoSaid : Prop := listOnceUptoRow.holds Tryz.pinned (OpenSpec.upto listOnceSpec)

end Rows
end Go.Proofs.YtpbghmeikcphnaaGreat
