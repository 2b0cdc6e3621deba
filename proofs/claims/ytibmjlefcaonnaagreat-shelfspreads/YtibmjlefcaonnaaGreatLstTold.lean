import Derived.Test.YtibmjlefcaonnaaGreatLstLin
namespace Go.Proofs.YtibmjlefcaonnaaGreat
open Go.RowKit
def claim (C:Cl) (r:Option Rs):Option Nat :=
 match C.po,r with
 | .put _ _ _ _,some r=>if r.E=0 then some r.St else none
 | .mark _ _ _ _ _,some r=>if r.E=0 then some r.St else none
 | .lead _ _ _ st,_=>some st
 | .Zo _ st,_=>some st
 | _,_=>none
section
variable {σ0 σ σ' K:Nat} {u u':Hi} {ts:Nat->Option (Cl × Option Rs)} {x:Option (Cl × Option Rs)}
end
end Go.Proofs.YtibmjlefcaonnaaGreat
