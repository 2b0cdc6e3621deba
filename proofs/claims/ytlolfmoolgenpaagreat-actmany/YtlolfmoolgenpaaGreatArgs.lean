import Derived.Test.YtlolfmoolgenpaaGreatLay
namespace Go.Proofs.YtlolfmoolgenpaaGreat
open Go.RowKit
def FitW (n : Int) : Prop:=0 <= n /\ n <= 18446744073709551615
end Go.Proofs.YtlolfmoolgenpaaGreat
