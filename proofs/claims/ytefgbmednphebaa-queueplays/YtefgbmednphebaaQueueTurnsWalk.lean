/- QueueTurns answers true for every two numbers, and leaves what was in memory. -/
import Derived.Test.YtefgbmednphebaaQueueAllWalk
import Derived.Test.YtefgbmednphebaaLow
namespace Go.Proofs.Ytefgbmednphebaa
open Go.RowKit Go.Conc

theorem low4 (n : Int) : ∃ c k : Nat, bits .and .i64 n 15 = (c : Int) ∧ 1 + (c : Int) = (k : Int) ∧ 1 ≤ k ∧ k ≤ 16 := by
  have h := i64_low n 15 4 (by decide) (by decide)
  refine ⟨(n % 16).toNat, 1 + (n % 16).toNat, ?_, by omega, by omega, by omega⟩
  rw [h]
  omega

theorem low6 (n : Int) : ∃ t : Nat, bits .and .i64 n 63 = (t : Int) ∧ t < 64 := by
  have h := i64_low n 63 6 (by decide) (by decide)
  refine ⟨(n % 64).toNat, ?_, by omega⟩
  rw [h]
  omega

/-- the numbers from a on, d of them -/
def runs (a d : Nat) : List Int := span (fun i => (i : Int)) a d

theorem runs_len (a d : Nat) : (runs a d).length = d := span_len _ _ _
theorem runs_snoc (a d : Nat) : runs a (d + 1) = runs a d ++ [((a + d : Nat) : Int)] := span_snoc _ _ _

theorem qpush_run {w : World} {L : Qloc} {m a d b : Nat} (h : QueueAt w L m (runs a d)) (hab : Hid (b = a + d)) (hx : d < m) :
    Calls Try.prog 10 #[.pointer (some ⟨L.p, 0, none⟩), .int .i64 b] w fun e w' => e = .returned (.int .i64 0) ∧ QueueAt w' L m (runs a (d + 1)) ∧ Only L.has w w' ∧ w'.heap.size = w.heap.size := by
  rw [runs_snoc, hab.out]
  exact qpush_room h _ (by rw [runs_len]; exact hx)

theorem qpush_runfull {w : World} {L : Qloc} {m a : Nat} (h : QueueAt w L m (runs a m)) (x : Int) :
    Calls Try.prog 10 #[.pointer (some ⟨L.p, 0, none⟩), .int .i64 x] w fun e w' => e = .returned (.int .i64 9) ∧ w' = w :=
  qpush_full h x (runs_len _ _)

theorem qpop_run {w : World} {L : Qloc} {m a d : Nat} (h : QueueAt w L m (runs a (d + 1))) :
    Calls Try.prog 9 #[.pointer (some ⟨L.p, 0, none⟩)] w fun e w' => e = .returned (.tuple #[.int .i64 a, .bool true]) ∧ QueueAt w' L m (runs (a + 1) d) ∧ Only L.has w w' ∧ w'.heap.size = w.heap.size :=
  qpop_some h

theorem qlen_run {w : World} {L : Qloc} {m a d : Nat} (h : QueueAt w L m (runs a d)) :
    Calls Try.prog 11 #[.pointer (some ⟨L.p, 0, none⟩)] w fun e w' => e = .returned (.int .i64 d) ∧ w' = w := by
  have k := qlen_any h
  rw [runs_len] at k
  exact k

set_option maxHeartbeats 1000000 in
theorem qturns_any (most times : Int) (w : World) :
    Calls Try.prog 6 #[.int .i64 most, .int .i64 times] w fun e w' => e = .returned (.bool true) ∧ Below w.heap.size w w' := by
  obtain ⟨c, k, hc, hck, hk1, hk2⟩ := low4 most
  obtain ⟨t, ht, ht2⟩ := low6 times
  go_enter Try.func6, Try.ntmps6
  go_wp2_with (first
    | (go_at_call 7; refine (qnew_in k hk1 (by omega) _).mono ?_; rintro e w1 ⟨L, rfl, q1, b1, f1⟩)
    | (go_at_call 8; refine (awake03_any _).mono ?_; rintro e w2 ⟨rfl, b2⟩))
  have q2 := q1.below b2
  have b3 := grow b1 b2
  clear q1 b1 b2
  go_loopw [8, 9, 10] (fun vb va vi wr => ∃ i a d b : Nat, i ≤ t ∧ vi = .int .i64 i ∧ va = .int .i64 a ∧ vb = .int .i64 b ∧ Hid (b = a + d) ∧ d ≤ k ∧ a ≤ 16 * i ∧ QueueAt wr L k (runs a d) ∧ Below w.heap.size w wr) (fun _ _ vi _ => t - (intOf vi).toNat)
  case atStart => exact ⟨0, 0, 0, 0, Nat.zero_le _, rfl, rfl, rfl, rfl, Nat.zero_le _, Nat.zero_le _, q2, b3⟩
  case round =>
    obtain ⟨i, a, d, b, hi, rfl, rfl, rfl, hab, hd, ha, hq, hb⟩ := hrel
    by_cases hlt : i < t
    · have hlt' : (i : Int) < (t : Int) := by omega
      go_wp2
      go_loopw [8] (fun vb ws => ∃ d b : Nat, vb = .int .i64 b ∧ Hid (b = a + d) ∧ d ≤ k ∧ QueueAt ws L k (runs a d) ∧ Below w.heap.size w ws) (fun vb _ => a + k - (intOf vb).toNat)
      case atStart => exact ⟨d, b, rfl, hab, hd, hq, hb⟩
      case round =>
        clear hab hd hq hb
        obtain ⟨d, b, rfl, hab, hd, hq, hb⟩ := hrel
        by_cases hdk : d < k
        · have hbk : b ≤ 1100 := by have := hab.out; omega
          have hg : ¬ (k : Int) < (b : Int) + 1 - (a : Int) := by have := hab.out; omega
          go_wp2_with (go_at_call 10; refine (qpush_run hq hab hdk).mono ?_; rintro e w4 ⟨rfl, q4, o4, z4⟩)
          go_roundw
          case rel => exact ⟨d + 1, b + 1, by go_num, by have := hab.out; exact (show b + 1 = a + (d + 1) by omega), by omega, q4, qgrow hb o4 f1⟩
          case measure => have := hab.out; simp [intOf]; omega
        · have hq0 := hq
          rw [show d = k by omega] at hq0
          have hab0 : Hid (b = a + k) := by have := hab.out; exact (show b = a + k by omega)
          clear hab hd hq hdk
          obtain ⟨r, hr, hr2⟩ : ∃ r : Nat, (i : Int) % (k : Int) = (r : Int) ∧ r < k := ⟨i % k, by simp, Nat.mod_lt _ (by omega)⟩
          go_wp2_with (go_at_call 10; refine (qpush_runfull hq0 _).mono ?_; rintro e w4 ⟨rfl, rfl⟩)
          go_loopw [9, 11] (fun va vj ws => ∃ j a2 d2 : Nat, vj = .int .i64 j ∧ va = .int .i64 a2 ∧ j ≤ r + 1 ∧ a2 = a + j ∧ d2 + j = k ∧ QueueAt ws L k (runs a2 d2) ∧ Below w.heap.size w ws) (fun _ vj _ => r + 1 - (intOf vj).toNat)
          case atStart => exact ⟨0, a, k, rfl, rfl, by omega, rfl, rfl, hq0, hb⟩
          case round =>
            clear hq0 hb
            obtain ⟨j, a2, d2, rfl, rfl, hj, ha2, hd2, hq, hb⟩ := hrel
            have HA : Hid (a2 = a + j) := ha2
            have hA : a2 ≤ 1200 := by omega
            clear ha2
            by_cases hjr : j ≤ r
            · have hjr' : (j : Int) ≤ (r : Int) := by omega
              cases d2 with
              | zero => omega
              | succ d3 =>
                go_wp2_with (go_at_call 9; refine (qpop_run hq).mono ?_; rintro e w5 ⟨rfl, q5, o5, z5⟩)
                go_roundw
                case rel => exact ⟨j + 1, a2 + 1, d3, by go_num, by go_num, by omega, by have := HA.out; omega, by omega, q5, qgrow hb o5 f1⟩
                case measure => simp [intOf]; omega
            · have hjr' : ¬ (j : Int) ≤ (r : Int) := by omega
              go_wp2
              go_roundw
              case rel => exact ⟨i + 1, a2, d2, b, by omega, by go_num, rfl, rfl, by have h1 := HA.out; have h2 := hab0.out; exact (show b = a2 + d2 by omega), by omega, by have := HA.out; omega, hq, hb⟩
              case measure => simp [intOf]; omega
    · have hlt' : ¬ (i : Int) < (t : Int) := by omega
      have hd' : (b : Int) - (a : Int) = (d : Int) := by have := hab.out; omega
      go_wp2_with (go_at_call 11; refine (qlen_run hq).mono ?_; rintro e w5 ⟨rfl, rfl⟩)
      go_ret
      exact ⟨rfl, hb⟩

end Go.Proofs.Ytefgbmednphebaa
