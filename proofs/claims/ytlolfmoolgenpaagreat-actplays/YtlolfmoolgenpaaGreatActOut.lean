import Derived.Test.YtlolfmoolgenpaaGreatActHut
namespace Go.Proofs.YtlolfmoolgenpaaGreat
open Go.RowKit
theorem packH_wd {x G : Nat} (hx : x <= 65535) (h1 : 1 <= G) (hG : G <= 65535) : Wd (packH x G) /\ packH x G ≠ 0:=by
 rw [packH_is x G hx hG]
 exact ⟨⟨by omega,by omega⟩,by omega⟩
section
variable {t n k m nx nx' : Nat} {q q' : Q} {gen gen' : Nat -> Nat} {ls ls' : List Ox} {X : Xa} {E H V : Int}
end
theorem good15d : Good 1 6 8 40 100 600 3:=⟨by decide,by decide,by decide,by decide,by decide,by decide,by decide,by decide,by decide,by decide,by decide,by decide,by decide,by decide⟩
theorem may_nu {Y : Xa} (h : Y.may = true) (nu : Int) : Xa.may ⟨Y.kd,Y.sz,nu,Y.ix,Y.vl,Y.ol,Y.own⟩ = true:=h
end Go.Proofs.YtlolfmoolgenpaaGreat
