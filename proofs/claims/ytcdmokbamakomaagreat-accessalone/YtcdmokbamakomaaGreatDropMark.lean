/- What a step of one who lets an object go comes to (package drop): the head is asked, the object is marked. -/
import Derived.Test.YtcdmokbamakomaaGreatDropDo
namespace Go.Proofs.YtcdmokbamakomaaGreat
open Go.RowKit

/-- what a head's word holds -/
structure HeadIs (u kd Z sl gn : Int) (ow : Bool) : Prop where
  u0 : 0 ≤ u
  u1 : u ≤ 18446744073709551615
  kd : u % 4 = kd
  sz : u / 4 % 65536 = Z
  sl : u / 262144 % 65536 = sl
  gn : u / 17179869184 % 65536 = gn
  ow : decide (u / 1125899906842624 % 2 = 1) = ow

theorem HeadIs.call {u kd Z sl gn : Int} {ow : Bool} (h : HeadIs u kd Z sl gn ow) (w : World) :
    Calls Tryz.prog 93 #[.int .u64 u] w fun e w' => e = .returned (.agg #[.int .i64 kd, .int .i64 Z, .int .i64 sl, .int .i64 gn, .bool ow]) ∧ Below w.heap.size w w' := by
  have e := head_any u w h.u0 h.u1
  rwa [h.kd, h.sz, h.sl, h.gn, h.ow] at e

end Go.Proofs.YtcdmokbamakomaaGreat

/- What a step of one who lets an object go comes to (package drop): the object is marked, its life is ended, its words are counted no more. -/
namespace Go.Proofs.YtcdmokbamakomaaGreat
open Go.RowKit

end Go.Proofs.YtcdmokbamakomaaGreat
