import Derived.Test.YtibmjlefcaonnaaGreatPlaceSee
import Derived.Test.YtibmjlefcaonnaaGreatWord
import Derived.Test.YtibmjlefcaonnaaGreatLstRec
namespace Go.Proofs.YtibmjlefcaonnaaGreat
open Go.RowKit
section
end
section
def Lr.l (S:Lr) (ob:Value):List Value:=[iV S.kd,iV S.ky,.int .u64 S.hd,iV S.nx,ob,.int .u64 S.an,iV S.al,iV S.ax,.int .u64 S.hn,iV S.hl,iV S.hx,.int .u64 S.md,iV S.cE,.int .u64 S.cH,iV S.cV,iV S.cS]
def Il (w:World) (b:Nat) (ob:Value) (S:Lr):Prop:=∃ c,At w b 0 67 c (S.l ob)
end
section
end
section
end
end Go.Proofs.YtibmjlefcaonnaaGreat
