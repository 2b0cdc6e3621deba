/- What the document's own packing comes to: Power, Put and Get of package footlockerref01. -/
import Derived.Test.YtcdeicbbaidjkaaRows
import Derived.Test.YtcdeicbbaidjkaaMath
namespace Go.Proofs.Ytcdeicbbaidjkaa
open Go.RowKit

theorem pow_step (k : Nat) : IntKind.u64.wrap (2 ^ k % 18446744073709551616 * 2) = 2 ^ (k + 1) % 18446744073709551616 := by
  rw [IntKind.wrap_u64, Int.pow_succ]; omega

set_option maxHeartbeats 400000 in
theorem power_any (n : Nat) (w : World) (h1 : n ≤ 64) :
    Calls Try.prog 52 #[.int .i64 n] w fun e w' => e = .returned (.int .u64 (2 ^ n % 18446744073709551616)) ∧ w' = w := by
  go_enter Try.func52, Try.ntmps52
  go_wp2
  go_loop [3, 4] (fun x i => ∃ k : Nat, k ≤ n ∧ i = .int .i64 k ∧ x = .int .u64 (2 ^ k % 18446744073709551616)) (fun _ i => n - (intOf i).toNat)
  case atStart => exact ⟨0, Nat.zero_le _, rfl, rfl⟩
  case round =>
    obtain ⟨k, hk, rfl, rfl⟩ := hrel
    by_cases hlt : k < n
    · go_wp2
      go_round
      case rel => exact ⟨k + 1, by omega, by go_num, by rw [← pow_step]⟩
      case measure => simp [intOf]; omega
    · go_wp2
      go_ret
      exact ⟨ret_int (by rw [show k = n from by omega]), rfl⟩

/-- how many bits the first k numbers have -/
def bitsUpto (bs : Nat → Nat) : Nat → Nat
  | 0 => 0
  | k + 1 => bitsUpto bs k + bs k

/-- the first k numbers, each cut to its bits, one behind the other -/
def packUpto (zs : Nat → Int) (bs : Nat → Nat) : Nat → Int
  | 0 => 0
  | k + 1 => packUpto zs bs k + cut (zs k) (bs k) * 2 ^ bitsUpto bs k

theorem bitsUpto_mono (bs : Nat → Nat) {k n : Nat} (h : k ≤ n) : bitsUpto bs k ≤ bitsUpto bs n := by
  induction n with
  | zero => rw [show k = 0 from by omega]; exact Nat.le_refl _
  | succ n ih =>
    rcases Nat.lt_or_ge k (n + 1) with h' | h'
    · exact Nat.le_trans (ih (by omega)) (Nat.le_add_right _ _)
    · rw [show k = n + 1 from by omega]; exact Nat.le_refl _

theorem packUpto_bd (zs : Nat → Int) (bs : Nat → Nat) (k : Nat) : 0 ≤ packUpto zs bs k ∧ packUpto zs bs k ≤ 2 ^ bitsUpto bs k - 1 := by
  induction k with
  | zero => simp [packUpto, bitsUpto]
  | succ k ih =>
    have h := cut_mul (zs k) (bitsUpto bs k) (bs k)
    simp only [packUpto, bitsUpto]
    omega

theorem unit_step (a b : Nat) : IntKind.u64.wrap (2 ^ a % 18446744073709551616 * (2 ^ b % 18446744073709551616)) = 2 ^ (a + b) % 18446744073709551616 := by
  rw [IntKind.wrap_u64, ← Int.mul_emod, ← Int.pow_add]

theorem unit_small (a : Nat) (h : a < 64) : (2 : Int) ^ a % 18446744073709551616 = 2 ^ a := by
  have := pow_lt a h; omega

theorem top_small (a : Nat) (h : a < 64) : IntKind.u64.wrap (2 ^ a % 18446744073709551616 - 1) = 2 ^ a - 1 := by
  have := pow_lt a h
  rw [unit_small a h]; exact wrap_small _ (by omega) (by omega)

theorem pack_step (zs : Nat → Int) (bs : Nat → Nat) (k : Nat) (h : bitsUpto bs (k + 1) ≤ 64) (hb : 1 ≤ bs k) (c : Int) (hc : c = cut (zs k) (bs k)) :
    IntKind.u64.wrap (packUpto zs bs k + IntKind.u64.wrap (c * (2 ^ bitsUpto bs k % 18446744073709551616))) = packUpto zs bs (k + 1) := by
  subst hc
  have h2 : bitsUpto bs k + bs k ≤ 64 := h
  have h3 := packUpto_bd zs bs (k + 1)
  have h4 := pow_le _ _ h
  rw [pow64] at h4
  rw [unit_small _ (by omega), put_eq _ _ _ h2]
  refine wrap_small _ h3.1 ?_
  show packUpto zs bs (k + 1) < _
  omega

theorem cut_top (z : Int) (b : Nat) (hb : b < 64) (h0 : 0 < z) (h : IntKind.u64.wrap (2 ^ b % 18446744073709551616 - 1) < z) : IntKind.u64.wrap (2 ^ b % 18446744073709551616 - 1) = cut z b := by
  rw [top_small b hb] at *
  rw [cut_great _ _ (by omega) (by omega)]

theorem cut_mid (z : Int) (b : Nat) (hb : b < 64) (h0 : 0 < z) (h : z ≤ IntKind.u64.wrap (2 ^ b % 18446744073709551616 - 1)) : z = cut z b := by
  rw [top_small b hb] at *
  rw [cut_id _ _ (by omega) (by omega)]

theorem cut_low (z : Int) (b : Nat) (h0 : z ≤ 0) : 0 = cut z b := by
  rcases Int.lt_or_eq_of_le h0 with h | h
  · rw [cut_neg _ _ h]
  · subst h; rw [cut_id _ _ (by omega) (by have := pow_pos b; omega)]

theorem cut_not (b : Nat) (hb : b < 64) (h : IntKind.u64.wrap (2 ^ b % 18446744073709551616 - 1) < 0) : False := by
  rw [top_small b hb] at h
  have := pow_pos b
  omega

theorem value_int {k : IntKind} {a b : Int} (h : a = b) : Value.int k a = .int k b := by rw [h]

set_option maxHeartbeats 400000 in
theorem refPut_any (n b1 b2 : Nat) (zs : Nat → Int) (bs : Nat → Nat) (w : World) (hz : ∀ i, i < n → w.cell? ⟨b1, i, none⟩ = some (.int .i64 (zs i))) (hb : ∀ i, i < n → w.cell? ⟨b2, i, none⟩ = some (.int .i64 (bs i)))
    (zl : ∀ i, i < n → -9223372036854775808 ≤ zs i ∧ zs i ≤ 9223372036854775807) (bl : ∀ i, i < n → 1 ≤ bs i ∧ bs i < 64) (hs : bitsUpto bs n ≤ 64) (hn : n ≤ 64) :
    Calls Try.prog 48 #[.slice (some ⟨b1, 0, none⟩) n n, .slice (some ⟨b2, 0, none⟩) n n] w fun e w' => e = .returned (.int .u64 (packUpto zs bs n)) ∧ w' = w := by
  go_enter Try.func48, Try.ntmps48
  go_wp2
  go_loop [5, 6, 7] (fun o u i => ∃ k : Nat, k ≤ n ∧ i = .int .i64 k ∧ u = .int .u64 (2 ^ bitsUpto bs k % 18446744073709551616) ∧ o = .int .u64 (packUpto zs bs k)) (fun _ _ i => n - (intOf i).toNat)
  case atStart => exact ⟨0, Nat.zero_le _, rfl, rfl, rfl⟩
  case round =>
    obtain ⟨k, hk, rfl, rfl, rfl⟩ := hrel
    by_cases hlt : k < n
    · have hz1 := hz k hlt
      have hb1 := hb k hlt
      have zl1 := zl k hlt
      have bl1 := bl k hlt
      have hs1 := Nat.le_trans (bitsUpto_mono bs (show k + 1 ≤ n from hlt)) hs
      clear hz hb zl bl
      go_wp2_with (go_at_call 52; refine (power_any _ _ (by omega)).mono ?_; rintro e w' ⟨rfl, rfl⟩)
      · go_round
        case rel => exact ⟨k + 1, by omega, by go_num, value_int (unit_step _ _), value_int (pack_step zs bs k hs1 (by omega) _ (cut_top _ _ (by omega) ‹_› ‹_›))⟩
        case measure => simp [intOf]; omega
      · go_round
        case rel => exact ⟨k + 1, by omega, by go_num, value_int (unit_step _ _), value_int (pack_step zs bs k hs1 (by omega) _ (cut_mid _ _ (by omega) ‹_› ‹_›))⟩
        case measure => simp [intOf]; omega
      · exact (cut_not (bs k) (by omega) ‹_›).elim
      · go_round
        case rel => exact ⟨k + 1, by omega, by go_num, value_int (unit_step _ _), value_int (by have e := pack_step zs bs k hs1 (by omega) _ (cut_low _ _ ‹_›); simpa [show IntKind.u64.wrap 0 = 0 from rfl] using e)⟩
        case measure => simp [intOf]; omega
    · go_wp2
      go_ret
      exact ⟨ret_int (by rw [show k = n from by omega]), rfl⟩

end Go.Proofs.Ytcdeicbbaidjkaa
