/- What a step of one who lets an object go comes to (package drop): Step itself. -/
import Derived.Test.YtcdmokbamakomaaGreatDropMark
namespace Go.Proofs.YtcdmokbamakomaaGreat
open Go.RowKit

/-- a number is a handle -/
structure HandIs (nu : Int) (x : Nat) (G : Int) : Prop where
  lo : 65536 ≤ nu
  hi : nu ≤ 4294967295
  x : nu % 65536 = x
  g : nu / 65536 = G

theorem HandIs.call {nu : Int} {x : Nat} {G : Int} (h : HandIs nu x G) (w : World) :
    Calls Tryz.prog 32 #[.int .u64 nu] w fun e w' => e = .returned (.tuple #[.agg #[.int .i64 x, .int .i64 G], .bool true]) ∧ Below w.heap.size w w' := by
  have e := handle_yes nu w h.lo h.hi
  rwa [h.x, h.g] at e

end Go.Proofs.YtcdmokbamakomaaGreat
