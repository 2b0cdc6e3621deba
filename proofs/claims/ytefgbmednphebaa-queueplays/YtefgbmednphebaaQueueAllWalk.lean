/- QueueAll answers true for every slice of numbers, and leaves what was in memory. -/
import Derived.Test.YtefgbmednphebaaQueueAwake
import Derived.Test.YtefgbmednphebaaArgs
namespace Go.Proofs.Ytefgbmednphebaa
open Go.RowKit Go.Conc

/-- n numbers from the a-th on -/
def span (z : Nat → Int) (a : Nat) : Nat → List Int
  | 0 => []
  | n + 1 => z a :: span z (a + 1) n

theorem span_len (z : Nat → Int) (n : Nat) : ∀ a, (span z a n).length = n := by
  induction n with
  | zero => intro a; rfl
  | succ n ih => intro a; simp [span, ih]

theorem span_snoc (z : Nat → Int) (a n : Nat) : span z a (n + 1) = span z a n ++ [z (a + n)] := by
  induction n generalizing a with
  | zero => rfl
  | succ n ih => rw [span, ih (a + 1)]; simp [span, Nat.add_comm, Nat.add_left_comm]

theorem qnew256 (w : World) :
    Calls Try.prog 7 #[.int .i64 256] w fun e w' => ∃ L : Qloc, e = .returned (.tuple #[.pointer (some ⟨L.p, 0, none⟩), .int .i64 0]) ∧ QueueAt w' L 256 [] ∧ Below w.heap.size w w' ∧ w.heap.size ≤ L.c :=
  qnew_in 256 (by decide) (by decide) w

set_option maxHeartbeats 1000000 in
theorem qall_less (ao : Option Addr) (n cap : Nat) (z : Nat → Int) (w : World) (hr : IntsAt .i64 w ao n z) (hn : n ≤ 256) :
    Calls Try.prog 4 #[.slice ao n cap] w fun e w' => e = .returned (.bool true) ∧ Below w.heap.size w w' := by
  have HR : Hid (IntsAt .i64 w ao n z) := hr
  clear hr
  have hn' : (n : Int) ≤ 256 := by omega
  go_enter Try.func4, Try.ntmps4
  go_wp2_with (go_at_call 7; refine (qnew256 _).mono ?_; rintro e w1 ⟨L, rfl, h1, b1, f1⟩)
  go_loopw [6] (fun i wr => ∃ k : Nat, k ≤ n ∧ i = .int .i64 k ∧ QueueAt wr L 256 (span z 0 k) ∧ Below w.heap.size w wr) (fun i _ => n - (intOf i).toNat)
  case atStart => exact ⟨0, Nat.zero_le _, rfl, h1, b1⟩
  case round =>
    obtain ⟨k, hk, rfl, hq, hb⟩ := hrel
    by_cases hlt : k < n
    · obtain ⟨b, off, rfl, hc⟩ := HR.out k (by omega)
      have hlt' : (k : Int) < n := by omega
      have hc1 := keep' hb hc
      go_wp2_with (go_at_call 10; refine (qpush_room hq _ (by rw [span_len]; omega)).mono ?_; rintro e w2 ⟨rfl, q2, o2, z2⟩)
      go_roundw
      case rel => exact ⟨k + 1, by omega, by go_num, span_snoc z 0 k ▸ (by simpa using q2), qgrow hb o2 f1⟩
      case measure => simp [intOf]; omega
    · have hq0 := hq
      rw [show k = n by omega] at hq0
      have hlt' : ¬ (k : Int) < n := by omega
      clear hq hk
      go_wp2
      go_loopw [7] (fun i wr => ∃ k d : Nat, k + d = n ∧ i = .int .i64 k ∧ QueueAt wr L 256 (span z k d) ∧ Below w.heap.size w wr) (fun i _ => n - (intOf i).toNat)
      case atStart => exact ⟨0, n, by omega, rfl, hq0, hb⟩
      case round =>
        obtain ⟨k, d, hk, rfl, hq, hb⟩ := hrel
        cases d with
        | succ d =>
          obtain ⟨b, off, rfl, hc⟩ := HR.out k (by omega)
          have hlt' : (k : Int) < n := by omega
          have hc1 := keep' hb hc
          have hc2 := fun (w' : World) (o : Only L.has wr w') => keep' (qgrow hb o f1) hc
          go_wp2_with (go_at_call 9; refine (qpop_some hq).mono ?_; rintro e w3 ⟨rfl, q3, o3, z3⟩; have hc3 := hc2 _ o3)
          go_roundw
          case rel => exact ⟨k + 1, d, by omega, by go_num, q3, qgrow hb o3 f1⟩
          case measure => simp [intOf]; omega
        | zero =>
          have hlt' : ¬ (k : Int) < n := by omega
          clear hk
          go_wp2_with (first
            | (go_at_call 9; refine (qpop_none hq).mono ?_; rintro e w3 ⟨rfl, rfl⟩)
            | (go_at_call 8; refine (awake03_any _).mono ?_; rintro e w4 ⟨rfl, b4⟩; have hq4 := hq.below b4)
            | (go_at_call 11; refine (qlen_any hq4).mono ?_; rintro e w5 ⟨rfl, rfl⟩))
          go_ret
          exact ⟨rfl, grow hb b4⟩

set_option maxHeartbeats 1000000 in
theorem qall_more (ao : Option Addr) (n cap : Nat) (z : Nat → Int) (w : World) (hr : IntsAt .i64 w ao n z) (hn : 256 < n) :
    Calls Try.prog 4 #[.slice ao n cap] w fun e w' => e = .returned (.bool true) ∧ Below w.heap.size w w' := by
  have HR : Hid (IntsAt .i64 w ao n z) := hr
  clear hr
  have hn' : (256 : Int) < (n : Int) := by omega
  go_enter Try.func4, Try.ntmps4
  go_wp2_with (go_at_call 7; refine (qnew256 _).mono ?_; rintro e w1 ⟨L, rfl, h1, b1, f1⟩)
  go_loopw [6] (fun i wr => ∃ k : Nat, k ≤ 256 ∧ i = .int .i64 k ∧ QueueAt wr L 256 (span z 0 k) ∧ Below w.heap.size w wr) (fun i _ => 256 - (intOf i).toNat)
  case atStart => exact ⟨0, Nat.zero_le _, rfl, h1, b1⟩
  case round =>
    obtain ⟨k, hk, rfl, hq, hb⟩ := hrel
    by_cases hlt : k < 256
    · obtain ⟨b, off, rfl, hc⟩ := HR.out k (by omega)
      have hlt' : (k : Int) < 256 := by omega
      have hc1 := keep' hb hc
      go_wp2_with (go_at_call 10; refine (qpush_room hq _ (by rw [span_len]; omega)).mono ?_; rintro e w2 ⟨rfl, q2, o2, z2⟩)
      go_roundw
      case rel => exact ⟨k + 1, by omega, by go_num, span_snoc z 0 k ▸ (by simpa using q2), qgrow hb o2 f1⟩
      case measure => simp [intOf]; omega
    · have hq0 := hq
      rw [show k = 256 by omega] at hq0
      have hlt' : ¬ (k : Int) < 256 := by omega
      clear hq hk
      go_wp2
      go_loopw [7] (fun i wr => ∃ k d : Nat, k + d = 256 ∧ i = .int .i64 k ∧ QueueAt wr L 256 (span z k d) ∧ Below w.heap.size w wr) (fun i _ => 256 - (intOf i).toNat)
      case atStart => exact ⟨0, 256, by omega, rfl, hq0, hb⟩
      case round =>
        obtain ⟨k, d, hk, rfl, hq, hb⟩ := hrel
        cases d with
        | succ d =>
          obtain ⟨b, off, rfl, hc⟩ := HR.out k (by omega)
          have hlt' : (k : Int) < 256 := by omega
          have hc1 := keep' hb hc
          have hc2 := fun (w' : World) (o : Only L.has wr w') => keep' (qgrow hb o f1) hc
          go_wp2_with (go_at_call 9; refine (qpop_some hq).mono ?_; rintro e w3 ⟨rfl, q3, o3, z3⟩; have hc3 := hc2 _ o3)
          go_roundw
          case rel => exact ⟨k + 1, d, by omega, by go_num, q3, qgrow hb o3 f1⟩
          case measure => simp [intOf]; omega
        | zero =>
          have hlt' : ¬ (k : Int) < 256 := by omega
          clear hk
          go_wp2_with (first
            | (go_at_call 9; refine (qpop_none hq).mono ?_; rintro e w3 ⟨rfl, rfl⟩)
            | (go_at_call 8; refine (awake03_any _).mono ?_; rintro e w4 ⟨rfl, b4⟩; have hq4 := hq.below b4)
            | (go_at_call 11; refine (qlen_any hq4).mono ?_; rintro e w5 ⟨rfl, rfl⟩))
          go_ret
          exact ⟨rfl, grow hb b4⟩

theorem qall_any (ao : Option Addr) (n cap : Nat) (z : Nat → Int) (w : World) (hr : IntsAt .i64 w ao n z) :
    Calls Try.prog 4 #[.slice ao n cap] w fun e w' => e = .returned (.bool true) ∧ Below w.heap.size w w' := by
  by_cases hn : n ≤ 256
  · exact qall_less ao n cap z w hr hn
  · exact qall_more ao n cap z w hr (by omega)

end Go.Proofs.Ytefgbmednphebaa
