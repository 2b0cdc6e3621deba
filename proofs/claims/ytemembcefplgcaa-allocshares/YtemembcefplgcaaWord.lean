/- What the program's small functions come to, in any world and leaving it as it was: most, put and get of package word, for places within 64 bits. -/
import Derived.Test.YtemembcefplgcaaRows
import Derived.Test.YtemembcefplgcaaMath
import Derived.Test.YtemembcefplgcaaOnly
import Derived.Deep.QuietTactic
import Derived.BigQuiet
namespace Go.Proofs.Ytemembcefplgcaa
open Go.RowKit

set_option maxHeartbeats 400000 in
theorem most_any (b : Int) (w : World) (h0 : 0 ≤ b) (h1 : b < 64) :
    Calls Try.prog 64 #[.int .u64 b] w fun e w' => e = .returned (.int .u64 (2 ^ b.toNat - 1)) ∧ w' = w := by
  go_enter Try.func64, Try.ntmps64
  go_wp2
  go_ret
  exact ⟨ret_int (most_eq _ (by omega)), rfl⟩

set_option maxHeartbeats 400000 in
theorem put_any (n a b : Int) (w : World) (hn0 : -9223372036854775808 ≤ n) (hn1 : n ≤ 9223372036854775807) (a0 : 0 ≤ a) (b0 : 0 ≤ b) (b1 : b < 64) (hab : a + b ≤ 64) :
    Calls Try.prog 67 #[.int .i64 n, .int .u64 a, .int .u64 b] w fun e w' => e = .returned (.int .u64 (cut n b.toNat * 2 ^ a.toNat)) ∧ w' = w := by
  by_cases h : n < 0
  · go_enter Try.func67, Try.ntmps67
    go_wp2
    go_ret
    exact ⟨ret_int (by rw [cut_neg _ _ h]; simp), rfl⟩
  · go_enter Try.func67, Try.ntmps67
    go_wp2_with (go_at_call 64; refine (most_any _ _ (by omega) (by omega)).mono ?_; rintro e w' ⟨rfl, rfl⟩)
    · go_ret
      refine ⟨ret_int ?_, rfl⟩
      have e := put_eq n a.toNat b.toNat (by omega)
      rw [cut_great n b.toNat (by omega) (by omega)] at e ⊢
      exact e
    · go_ret
      refine ⟨ret_int ?_, rfl⟩
      have e := put_eq n a.toNat b.toNat (by omega)
      rw [cut_id n b.toNat (by omega) (by omega)] at e ⊢
      exact e

set_option maxHeartbeats 400000 in
theorem get_any (x a b : Int) (w : World) (x0 : 0 ≤ x) (x1 : x ≤ 18446744073709551615) (a0 : 0 ≤ a) (a1 : a < 64) (b0 : 0 ≤ b) (b1 : b < 64) :
    Calls Try.prog 37 #[.int .u64 x, .int .u64 a, .int .u64 b] w fun e w' => e = .returned (.int .i64 (x / 2 ^ a.toNat % 2 ^ b.toNat)) ∧ w' = w := by
  go_enter Try.func37, Try.ntmps37
  go_wp2_with (go_at_call 64; refine (most_any _ _ (by omega) (by omega)).mono ?_; rintro e w' ⟨rfl, rfl⟩)
  go_ret
  exact ⟨ret_int (get_eq x a.toNat b.toNat x0 (by omega) (by omega)), rfl⟩

end Go.Proofs.Ytemembcefplgcaa

/- What the program's packing and unpacking comes to: PutHandle, Handle, PutSlot, Slot and their like of package word, for every number; what was in memory stays. -/
namespace Go.Proofs.Ytemembcefplgcaa
open Go.RowKit

set_option maxHeartbeats 400000 in
theorem putHandle_any (a b : Int) (w : World) (ha : Fit a) (hb : Fit b) :
    Calls Try.prog 62 #[.agg #[.int .i64 a, .int .i64 b]] w fun e w' => e = .returned (.int .u64 (packH a b)) ∧ Below w.heap.size w w' := by
  go_enter Try.func62, Try.ntmps62
  go_wp2
  go_quiet ((go_at_call 67; exact Calls.quiet_of_same (put_any _ _ _ _ (by first | exact ha.1 | exact hb.1) (by first | exact ha.2 | exact hb.2) (by decide) (by decide) (by decide) (by decide))))
  go_wp2
  go_ret
  exact ⟨ret_int (orH _ _), below_drewN ((Below.refl _ _).alloc (Nat.le_refl _) _) _⟩

set_option maxHeartbeats 400000 in
theorem putSlot_any (a b c d : Int) (w : World) (ha : Fit a) (hb : Fit b) (hc : Fit c) (hd : Fit d) :
    Calls Try.prog 47 #[.agg #[.int .i64 a, .int .i64 b, .int .i64 c, .int .i64 d]] w fun e w' => e = .returned (.int .u64 (packS a b c d)) ∧ Below w.heap.size w w' := by
  go_enter Try.func47, Try.ntmps47
  go_wp2
  go_quiet ((go_at_call 67; exact Calls.quiet_of_same (put_any _ _ _ _ (by first | exact ha.1 | exact hb.1 | exact hc.1 | exact hd.1) (by first | exact ha.2 | exact hb.2 | exact hc.2 | exact hd.2) (by decide) (by decide) (by decide) (by decide))))
  go_wp2
  go_ret
  exact ⟨ret_int (orS _ _ _ _), below_drewN ((Below.refl _ _).alloc (Nat.le_refl _) _) _⟩

set_option maxHeartbeats 400000 in
theorem putChunk_any (a b c d : Int) (w : World) (ha : Fit a) (hb : Fit b) (hc : Fit c) (hd : Fit d) :
    Calls Try.prog 89 #[.agg #[.int .i64 a, .int .i64 b, .int .i64 c, .int .i64 d]] w fun e w' => e = .returned (.int .u64 (packC a b c d)) ∧ Below w.heap.size w w' := by
  go_enter Try.func89, Try.ntmps89
  go_wp2
  go_quiet ((go_at_call 67; exact Calls.quiet_of_same (put_any _ _ _ _ (by first | exact ha.1 | exact hb.1 | exact hc.1 | exact hd.1) (by first | exact ha.2 | exact hb.2 | exact hc.2 | exact hd.2) (by decide) (by decide) (by decide) (by decide))))
  go_wp2
  go_ret
  exact ⟨ret_int (orC _ _ _ _), below_drewN ((Below.refl _ _).alloc (Nat.le_refl _) _) _⟩

set_option maxHeartbeats 400000 in
theorem putHead_any (a b c d : Int) (o : Bool) (w : World) (ha : Fit a) (hb : Fit b) (hc : Fit c) (hd : Fit d) :
    Calls Try.prog 61 #[.agg #[.int .i64 a, .int .i64 b, .int .i64 c, .int .i64 d, .bool o]] w fun e w' => e = .returned (.int .u64 (packOw a b c d o)) ∧ Below w.heap.size w w' := by
  go_enter Try.func61, Try.ntmps61
  go_wp2
  go_quiet ((go_at_call 67; exact Calls.quiet_of_same (put_any _ _ _ _ (by first | exact ha.1 | exact hb.1 | exact hc.1 | exact hd.1) (by first | exact ha.2 | exact hb.2 | exact hc.2 | exact hd.2) (by decide) (by decide) (by decide) (by decide))))
  have e := orO a b c d
  have h0 := packO_bd a b c d
  cases o
  · go_wp2
    go_ret
    exact ⟨ret_int (by simp [packOw, e]), below_drewN ((Below.refl _ _).alloc (Nat.le_refl _) _) _⟩
  · go_wp2
    go_ret
    exact ⟨ret_int (by first | exact orOw _ _ _ _ | (rw [e]; exact orOw _ _ _ _)), below_drewN ((Below.refl _ _).alloc (Nat.le_refl _) _) _⟩

set_option maxHeartbeats 400000 in
theorem putTop_any (s c : Int) (w : World) (hs0 : -9223372036854775808 ≤ s) (hs1 : s ≤ 65535) (hc : Fit c) :
    Calls Try.prog 46 #[.int .i64 s, .int .i64 c] w fun e w' => e = .returned (.int .u64 (packT (s + 1) c)) ∧ w' = w := by
  go_enter Try.func46, Try.ntmps46
  go_wp2_with (go_at_call 67; refine (put_any _ _ _ _ (by first | omega | exact hc.1) (by first | omega | exact hc.2) (by decide) (by decide) (by decide) (by decide)).mono ?_; rintro e w' ⟨rfl, rfl⟩)
  go_ret
  exact ⟨ret_int (orT _ _), rfl⟩

end Go.Proofs.Ytemembcefplgcaa
