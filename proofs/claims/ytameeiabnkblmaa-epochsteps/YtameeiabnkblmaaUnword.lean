/- What the program's unpacking comes to: Handle, Slot, Chunk, Head, Cell and Top of package word, for every word; what was in memory stays. -/
import Derived.Test.YtameeiabnkblmaaWord
namespace Go.Proofs.Ytameeiabnkblmaa
open Go.RowKit

set_option maxHeartbeats 400000 in
theorem chunk_any (x : Int) (w : World) (x0 : 0 ≤ x) (x1 : x ≤ 18446744073709551615) :
    Calls Try.prog 25 #[.int .u64 x] w fun e w' => e = .returned (.agg #[.int .i64 (x % 4), .int .i64 (x / 4 % 64), .int .i64 (x / 256 % 1048576), .int .i64 (x / 268435456 % 68719476736)]) ∧ Below w.heap.size w w' := by
  go_enter Try.func25, Try.ntmps25
  go_wp2_with (go_at_call 43; refine (get_any _ _ _ _ x0 x1 (by decide) (by decide) (by decide) (by decide)).mono ?_; rintro e w' ⟨rfl, rfl⟩)
  exact bodyPost_ret (v := .agg #[.int .i64 (x % 4), .int .i64 (x / 4 % 64), .int .i64 (x / 256 % 1048576), .int .i64 (x / 268435456 % 68719476736)]) (by simp [results, Try.results25, go_sem]) rfl ⟨rfl, (Below.refl _ _).alloc (Nat.le_refl _) _⟩

end Go.Proofs.Ytameeiabnkblmaa
