/- What a step of one who helps comes to (package drop), method by method. -/
import Derived.Test.YtcdmokbamakomaaGreatDropLeaf
namespace Go.Proofs.YtcdmokbamakomaaGreat
open Go.RowKit

/-- the cells of one who helps: the slot, its word, the size, how many cells are frozen, the next one as it was loaded, whether it was; whether it is over, whether it was won -/
def HpV (x was Z j se : Int) (ld ov wn : Bool) : List Value := [.int .i64 x, .int .u64 was, .int .i64 Z, .int .i64 j, .int .u64 se, .bool ld, .bool ov, .bool wn]

/-- what a cell's word holds -/
structure CellIs (u vl : Int) (fz : Bool) (vr : Int) : Prop where
  u0 : 0 ≤ u
  u1 : u ≤ 18446744073709551615
  vl : u % 1099511627776 = vl
  fz : decide (9223372036854775808 ≤ u) = fz
  vr : (if 9223372036854775808 ≤ u then u / 1099511627776 % 4194304 else 0) = vr

theorem CellIs.call {u vl vr : Int} {fz : Bool} (h : CellIs u vl fz vr) (w : World) :
    Calls Tryz.prog 26 #[.int .u64 u] w fun e w' => e = .returned (.agg #[.int .i64 vl, .bool fz, .int .i64 vr]) ∧ Below w.heap.size w w' := by
  have e := cell_any u w h.u0 h.u1
  rwa [h.vl, h.fz, h.vr] at e

/-- what a slot's word holds -/
structure SlotIs (v st A G V : Int) : Prop where
  v0 : 0 ≤ v
  v1 : v ≤ 18446744073709551615
  st : v % 8 = st
  ad : v / 8 % 1048576 = A
  gn : v / 8388608 % 65536 = G
  vr : v / 549755813888 % 4194304 = V

theorem SlotIs.call {v st A G V : Int} (h : SlotIs v st A G V) (w : World) :
    Calls Tryz.prog 22 #[.int .u64 v] w fun e w' => e = .returned (.agg #[.int .i64 st, .int .i64 A, .int .i64 G, .int .i64 V]) ∧ Below w.heap.size w w' := by
  have e := slot_any v w h.v0 h.v1
  rwa [h.st, h.ad, h.gn, h.vr] at e

end Go.Proofs.YtcdmokbamakomaaGreat
