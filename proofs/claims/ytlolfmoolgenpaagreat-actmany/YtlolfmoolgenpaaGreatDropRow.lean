import Derived.Test.YtlolfmoolgenpaaGreatDropActs
import Derived.Test.YtlolfmoolgenpaaGreatRelyAlso
import Derived.ArgAppend
namespace Go.Proofs.YtlolfmoolgenpaaGreat
open Go.RowKit
namespace Rw
variable {w w' : World} {T T' : TypeId} {b b' cap cap' : Nat} {l l' : List Value}
end Rw
theorem Grown.of {w w' : World} (h : w.grownBy w' none) : Grown w w':=⟨h.os,h.tape,h.output,h.size,fun k hk=>h.block k hk (by simp)⟩
theorem add_lit (b off j : Nat) : (⟨b,off,none⟩ : Addr).add j = ⟨b,off + j,none⟩:=by unfold Addr.add;split <;> simp_all
end Go.Proofs.YtlolfmoolgenpaaGreat
