import Derived.Test.YtpbghmeikcphnaaGreatAbb
import Derived.Test.YtpbghmeikcphnaaGreatRows
import Derived.Test.YtpbghmeikcphnaaGreatLstChain
import Derived.ProofKit
import Derived.OpenShut
import Derived.ChangeOld
namespace Go.Proofs.YtpbghmeikcphnaaGreat
open Go.ChangeShapes Go.WideShapes Go.ChangeAt Go.RowKit
theorem own : ownKnob Tryz.prog.godebug = none:=by kernel_rfl
theorem laidOut : laidOutB Tryz.prog = true:=by kernel_rfl
section
variable {H : Type} {enc : TypeId × Value -> H} {W : World} {base : Nat} {v : Value} {d : DataW H} {p : List MemPlace}
set_option maxRecDepth 20000 in
theorem PO (hv : Value.okWide Tryz.prog W .any base 3 v) (h : DataW.Trod enc Tryz.prog W 0 (fun _=>true) true 3 v d p) : ∃ n,v = iV n /\ Fit n:=by
 obtain ⟨n,rfl,_,_,w0⟩:=open_int Tryz.underlying3 hv h
 exact ⟨n,rfl,bounds_i64 w0⟩
set_option maxRecDepth 20000 in
theorem G6 (hv : Value.okWide Tryz.prog W .any base 28 v) (h : DataW.Trod enc Tryz.prog W 0 (fun _=>true) true 28 v d p) : ∃ n,v = .int .u64 n /\ 0 <= n /\ n <= 18446744073709551615:=by
 obtain ⟨n,rfl,_,_,w0⟩:=open_int Tryz.underlying28 hv h
 exact ⟨n,rfl,bounds_u64 w0⟩
end
end Go.Proofs.YtpbghmeikcphnaaGreat
