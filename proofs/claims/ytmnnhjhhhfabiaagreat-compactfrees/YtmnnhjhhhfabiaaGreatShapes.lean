import Derived.Test.YtmnnhjhhhfabiaaGreatRows
import Derived.Test.YtmnnhjhhhfabiaaGreatLay
import Derived.ProofKit
import Derived.OpenShut
import Derived.ChangeOld
namespace Go.Proofs.YtmnnhjhhhfabiaaGreat
open Go.ChangeShapes Go.WideShapes Go.ChangeAt Go.RowKit
theorem own : ownKnob Tryz.prog.godebug = none:=by kernel_rfl
theorem laidOut : laidOutB Tryz.prog = true:=by kernel_rfl
section
variable {H : Type} {enc : TypeId × Value -> H} {W : World} {base : Nat} {v : Value} {d : DataW H} {p : List MemPlace}
theorem Tryz.cells3 : Tryz.prog.cellsOf 3 = 1:=by kernel_rfl
end
end Go.Proofs.YtmnnhjhhhfabiaaGreat
