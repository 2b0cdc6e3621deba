/- What the statements of layer 12 make of a number: 0 to 1000. -/
import Derived.Test.YtlefbdbafmmoiaaPolAwake
namespace Go.Proofs.Ytlefbdbafmmoiaa
open Go.RowKit

theorem sparse_any (z : Int) : ∃ n : Int, (wrap64 (z.tmod 1001 + 1001)).tmod 1001 = n ∧ 0 ≤ n ∧ n ≤ 1000 := by
  have h1 : -(1001 : Int) < z.tmod 1001 := Int.lt_tmod_of_pos z (by omega)
  have h2 : z.tmod 1001 < 1001 := Int.tmod_lt_of_pos z (by omega)
  refine ⟨_, rfl, ?_⟩
  rw [show wrap64 (z.tmod 1001 + 1001) = z.tmod 1001 + 1001 from by unfold wrap64; omega]
  have h3 : 0 ≤ z.tmod 1001 + 1001 := by omega
  rw [Int.tmod_eq_emod_of_nonneg h3]
  omega

/-- a chunk as the statements make it -/
theorem seen_is {q c : Sn} (hc : q.cut = c) (w : World) :
    Calls Try.prog 8 #[.agg #[.int .i64 q.st, .int .i64 q.cl, .int .i64 q.us, .int .i64 q.sm, .int .i64 q.lv, .bool q.op]] w fun e w' => e = .returned (.agg #[.int .i64 c.st, .int .i64 c.cl, .int .i64 c.us, .int .i64 c.sm, .int .i64 c.lv, .bool c.op]) ∧ Below w.heap.size w w' := by
  subst hc; exact seen_any q w

end Go.Proofs.Ytlefbdbafmmoiaa
