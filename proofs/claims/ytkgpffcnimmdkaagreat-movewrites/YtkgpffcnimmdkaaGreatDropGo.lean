import Derived.Test.YtkgpffcnimmdkaaGreatDropMark
namespace Go.Proofs.YtkgpffcnimmdkaaGreat
open Go.RowKit
structure HandIs (nu : Int) (x : Nat) (G : Int) : Prop where
 lo : 65536 <= nu
 hi : nu <= 4294967295
 x : nu % 65536 = x
 g : nu / 65536 = G
theorem HandIs.call {nu : Int} {x : Nat} {G : Int} (h : HandIs nu x G) (w : World) :
 Calls Tryz.prog 33 #[.int .u64 nu] w fun e w'=>e = .returned (.tuple #[.agg #[.int .i64 x,.int .i64 G],.bool true]) /\ Below w.heap.size w w':=by
 have e:=handle_yes nu w h.lo h.hi
 rwa [h.x,h.g] at e
end Go.Proofs.YtkgpffcnimmdkaaGreat
