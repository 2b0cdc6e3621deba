/- What the program's unpacking comes to: Handle, Slot, Chunk, Head, Cell and Top of package word, for every word; what was in memory stays. -/
import Derived.Test.YtfedcddnjollmaaWord
namespace Go.Proofs.Ytfedcddnjollmaa
open Go.RowKit

set_option maxHeartbeats 400000 in
theorem top_any (x : Int) (w : World) (x0 : 0 ≤ x) (x1 : x ≤ 18446744073709551615) :
    Calls Try.prog 22 #[.int .u64 x] w fun e w' => e = .returned (.tuple #[.int .i64 (x % 131072 - 1), .int .i64 (x / 131072 % 68719476736)]) ∧ w' = w := by
  go_enter Try.func22, Try.ntmps22
  go_wp2_with (go_at_call 35; refine (get_any _ _ _ _ x0 x1 (by decide) (by decide) (by decide) (by decide)).mono ?_; rintro e w' ⟨rfl, rfl⟩)
  go_ret2
  exact ⟨rfl, rfl⟩

end Go.Proofs.Ytfedcddnjollmaa
