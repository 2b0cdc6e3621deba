/- What the document's own unpacking comes to: Get of package footlockerref01. -/
import Derived.Test.YtcdeicbbaidjkaaRef
namespace Go.Proofs.Ytcdeicbbaidjkaa
open Go.RowKit

theorem Try.info3 : (Try.prog.info? 3).map (fun i => (i.zero, i.size, i.bytes)) = some (some (.int .i64 0), 1, 8) := by kernel_rfl

theorem power_lt (n : Nat) (w : World) (h1 : n < 64) :
    Calls Try.prog 52 #[.int .i64 n] w fun e w' => e = .returned (.int .u64 (2 ^ n)) ∧ w' = w := by
  refine (power_any n w (by omega)).mono ?_
  rintro e w' ⟨rfl, rfl⟩
  exact ⟨ret_int (unit_small n h1), rfl⟩

/-- the number number j of a word -/
def part (x : Int) (bs : Nat → Nat) (j : Nat) : Int := x / 2 ^ bitsUpto bs j % 2 ^ bs j

/-- the first k numbers of a word -/
def parts (x : Int) (bs : Nat → Nat) (k : Nat) : List Value := (List.range k).map fun j => .int .i64 (part x bs j)

theorem parts_length (x : Int) (bs : Nat → Nat) (k : Nat) : (parts x bs k).length = k := by simp [parts]

theorem parts_succ (x : Int) (bs : Nat → Nat) (k : Nat) : parts x bs (k + 1) = parts x bs k ++ [.int .i64 (part x bs k)] := by
  simp [parts, List.range_succ]

theorem rest_bd (x : Int) (a : Nat) (h0 : 0 ≤ x) (h1 : x ≤ 18446744073709551615) : 0 ≤ x / 2 ^ a ∧ x / 2 ^ a ≤ 18446744073709551615 := by
  have ha := pow_pos a
  have := Int.ediv_nonneg h0 (show (0 : Int) ≤ 2 ^ a by omega)
  have := Int.ediv_le_self (2 ^ a) h0
  omega

theorem rest_step (x : Int) (a b : Nat) : x / 2 ^ a / 2 ^ b = x / 2 ^ (a + b) := by
  have ha := pow_pos a
  rw [Int.pow_add, Int.ediv_ediv_of_nonneg (by omega)]

end Go.Proofs.Ytcdeicbbaidjkaa
