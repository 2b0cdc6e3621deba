/- What the program's unpacking comes to: Handle, Slot, Chunk, Head, Cell and Top of package word, for every word; what was in memory stays. -/
import Derived.Test.YtocmkmeikcejjaaWord
namespace Go.Proofs.Ytocmkmeikcejjaa
open Go.RowKit

set_option maxHeartbeats 400000 in
theorem slot_any (x : Int) (w : World) (x0 : 0 ≤ x) (x1 : x ≤ 18446744073709551615) :
    Calls Try.prog 17 #[.int .u64 x] w fun e w' => e = .returned (.agg #[.int .i64 (x % 8), .int .i64 (x / 8 % 1048576), .int .i64 (x / 8388608 % 65536), .int .i64 (x / 549755813888 % 4194304)]) ∧ Below w.heap.size w w' := by
  go_enter Try.func17, Try.ntmps17
  go_wp2_with (go_at_call 38; refine (get_any _ _ _ _ x0 x1 (by decide) (by decide) (by decide) (by decide)).mono ?_; rintro e w' ⟨rfl, rfl⟩)
  exact bodyPost_ret (v := .agg #[.int .i64 (x % 8), .int .i64 (x / 8 % 1048576), .int .i64 (x / 8388608 % 65536), .int .i64 (x / 549755813888 % 4194304)]) (by simp [results, Try.results17, go_sem]) rfl ⟨rfl, (Below.refl _ _).alloc (Nat.le_refl _) _⟩

set_option maxHeartbeats 400000 in
theorem chunk_any (x : Int) (w : World) (x0 : 0 ≤ x) (x1 : x ≤ 18446744073709551615) :
    Calls Try.prog 20 #[.int .u64 x] w fun e w' => e = .returned (.agg #[.int .i64 (x % 4), .int .i64 (x / 4 % 64), .int .i64 (x / 256 % 1048576), .int .i64 (x / 268435456 % 68719476736)]) ∧ Below w.heap.size w w' := by
  go_enter Try.func20, Try.ntmps20
  go_wp2_with (go_at_call 38; refine (get_any _ _ _ _ x0 x1 (by decide) (by decide) (by decide) (by decide)).mono ?_; rintro e w' ⟨rfl, rfl⟩)
  exact bodyPost_ret (v := .agg #[.int .i64 (x % 4), .int .i64 (x / 4 % 64), .int .i64 (x / 256 % 1048576), .int .i64 (x / 268435456 % 68719476736)]) (by simp [results, Try.results20, go_sem]) rfl ⟨rfl, (Below.refl _ _).alloc (Nat.le_refl _) _⟩

set_option maxHeartbeats 400000 in
theorem head_any (x : Int) (w : World) (x0 : 0 ≤ x) (x1 : x ≤ 18446744073709551615) :
    Calls Try.prog 19 #[.int .u64 x] w fun e w' => e = .returned (.agg #[.int .i64 (x % 4), .int .i64 (x / 4 % 65536), .int .i64 (x / 262144 % 65536), .int .i64 (x / 17179869184 % 65536), .bool (decide (x / 1125899906842624 % 2 = 1))]) ∧ Below w.heap.size w w' := by
  rw [← bit_at x 1125899906842624 50 (by decide) (by decide) x0 x1]
  go_enter Try.func19, Try.ntmps19
  go_wp2_with (go_at_call 38; refine (get_any _ _ _ _ x0 x1 (by decide) (by decide) (by decide) (by decide)).mono ?_; rintro e w' ⟨rfl, rfl⟩)
  exact bodyPost_ret (v := .agg #[.int .i64 (x % 4), .int .i64 (x / 4 % 65536), .int .i64 (x / 262144 % 65536), .int .i64 (x / 17179869184 % 65536), .bool (bits .and .u64 x 1125899906842624 != 0)]) (by simp [results, Try.results19, go_sem]) rfl ⟨rfl, (Below.refl _ _).alloc (Nat.le_refl _) _⟩

set_option maxHeartbeats 400000 in
theorem top_any (x : Int) (w : World) (x0 : 0 ≤ x) (x1 : x ≤ 18446744073709551615) :
    Calls Try.prog 63 #[.int .u64 x] w fun e w' => e = .returned (.tuple #[.int .i64 (x % 131072 - 1), .int .i64 (x / 131072 % 68719476736)]) ∧ w' = w := by
  go_enter Try.func63, Try.ntmps63
  go_wp2_with (go_at_call 38; refine (get_any _ _ _ _ x0 x1 (by decide) (by decide) (by decide) (by decide)).mono ?_; rintro e w' ⟨rfl, rfl⟩)
  go_ret2
  exact ⟨rfl, rfl⟩

set_option maxHeartbeats 400000 in
theorem handle_yes (x : Int) (w : World) (x0 : 65536 ≤ x) (x1 : x ≤ 4294967295) :
    Calls Try.prog 16 #[.int .u64 x] w fun e w' => e = .returned (.tuple #[.agg #[.int .i64 (x % 65536), .int .i64 (x / 65536)], .bool true]) ∧ Below w.heap.size w w' := by
  have h1 : (x / 65536 % 65536 == 0) = false := by simp; omega
  have h2 : (x / 4294967296 != 0) = false := by simp; omega
  have h3 : x / 65536 = x / 65536 % 65536 := by omega
  rw [h3]
  clear h3
  go_enter Try.func16, Try.ntmps16
  go_wp2_with (go_at_call 38; refine (get_any _ _ _ _ (by omega) (by omega) (by decide) (by decide) (by decide) (by decide)).mono ?_; rintro e w' ⟨rfl, rfl⟩)
  exact bodyPost_ret (v := .tuple #[.agg #[.int .i64 (x % 65536), .int .i64 (x / 65536 % 65536)], .bool true]) (by simp [results, Try.results16, go_sem]) rfl ⟨rfl, (Below.refl _ _).alloc (Nat.le_refl _) _⟩

set_option maxHeartbeats 400000 in
theorem handle_no (x : Int) (w : World) (x0 : 0 ≤ x) (x1 : x ≤ 18446744073709551615) (h : x < 65536 ∨ 4294967296 ≤ x) :
    Calls Try.prog 16 #[.int .u64 x] w fun e w' => e = .returned (.tuple #[.agg #[.int .i64 0, .int .i64 0], .bool false]) ∧ Below w.heap.size w w' := by
  by_cases hg : x / 65536 % 65536 = 0
  · have h1 : (x / 65536 % 65536 == 0) = true := by simp [hg]
    clear hg h
    go_enter Try.func16, Try.ntmps16
    go_wp2_with (go_at_call 38; refine (get_any _ _ _ _ (by omega) (by omega) (by decide) (by decide) (by decide) (by decide)).mono ?_; rintro e w' ⟨rfl, rfl⟩)
    exact bodyPost_ret (v := .tuple #[.agg #[.int .i64 0, .int .i64 0], .bool false]) (by simp [results, Try.results16, go_sem]) rfl ⟨rfl, (Below.refl _ _).alloc (Nat.le_refl _) _⟩
  · have h1 : (x / 65536 % 65536 == 0) = false := by simpa using hg
    have h2 : (x / 4294967296 != 0) = true := by simp; omega
    clear hg h
    go_enter Try.func16, Try.ntmps16
    go_wp2_with (go_at_call 38; refine (get_any _ _ _ _ (by omega) (by omega) (by decide) (by decide) (by decide) (by decide)).mono ?_; rintro e w' ⟨rfl, rfl⟩)
    exact bodyPost_ret (v := .tuple #[.agg #[.int .i64 0, .int .i64 0], .bool false]) (by simp [results, Try.results16, go_sem]) rfl ⟨rfl, (Below.refl _ _).alloc (Nat.le_refl _) _⟩

end Go.Proofs.Ytocmkmeikcejjaa
