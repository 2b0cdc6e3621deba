/- MemOne answers true for every slice of words, and leaves what was in memory. -/
import Derived.Test.YtmndmialhhbogaaMemnil
import Derived.Test.YtmndmialhhbogaaArgs
import Derived.Test.YtmndmialhhbogaaMath
namespace Go.Proofs.Ytmndmialhhbogaa
open Go.RowKit

theorem fresh1 (w : World) : Calls Try.prog 8 #[.int .i64 1] w fun e w' => ∃ L : Loc, e = .returned (.tuple #[.pointer (some ⟨L.p, 0, none⟩), .int .i64 0]) ∧ MemAt w' L (Mm.fresh 1) ∧ Below w.heap.size w w' ∧ ∀ k, L.has k → w.heap.size ≤ k :=
  new_in 1 (by decide) (by decide) w

theorem cas0 {w : World} {L : Loc} {s : Mm} (h : MemAt w L s) (hn : s.n = 1) (v : Int) :
    Calls Try.prog 12 #[.pointer (some ⟨L.p, 0, none⟩), .int .i64 0, .int .u64 0, .int .u64 v] w fun e w' => e = .returned (.tuple #[.bool (decide (s.wd 0 = 0)), .int .i64 0]) ∧ MemAt w' L (s.cas 0 0 v) ∧ Only L.has w w' ∧ w'.heap.size = w.heap.size :=
  cas_in h 0 (by omega) 0 v

theorem peek00 {w : World} {L : Loc} {s : Mm} (h : MemAt w L s) (hn : 1 ≤ s.n) :
    Calls Try.prog 17 #[.pointer (some ⟨L.p, 0, none⟩), .int .i64 0] w fun e w' => e = .returned (.int .u64 (s.wd 0)) ∧ w' = w :=
  peek_in h 0 (by omega)

theorem or1 (x : Int) (h : FitW x) : ∃ y, bits .or .u64 x 1 = y ∧ ¬ y = 0 := by
  refine ⟨_, rfl, ?_⟩
  rw [u64_or _ _ h.1 (by have := h.2; omega) (by decide) (by decide)]
  have e : x.toNat ||| (1 : Int).toNat ≠ 0 := by
    intro e
    have := congrArg (fun n => n.testBit 0) e
    simp at this
  omega

set_option maxHeartbeats 1000000 in
theorem one_any (ao : Option Addr) (n cap : Nat) (z : Nat → Int) (w : World) (hr : IntsAt .u64 w ao n z) (hz : ∀ i, i < n → FitW (z i)) :
    Calls Try.prog 4 #[.slice ao n cap] w fun e w' => e = .returned (.bool true) ∧ Below w.heap.size w w' := by
  have HR : Hid (IntsAt .u64 w ao n z) := hr
  have HZ : Hid (∀ i, i < n → FitW (z i)) := hz
  clear hr hz
  go_enter Try.func4, Try.ntmps4
  go_wp2_with (go_at_call 8; refine (fresh1 _).mono ?_; rintro e w1 ⟨L, rfl, h1, b1, f1⟩)
  go_loopw [5, 6] (fun x i wr => ∃ (k c : Nat) (s : Mm), k ≤ n ∧ i = .int .i64 k ∧ x = .int .i64 c ∧ k ≤ 50 ∧ MemAt wr L s ∧ s.n = 1 ∧ (k = 0 ∧ c = 0 ∧ s.wd 0 = 0 ∨ 0 < k ∧ c = 1 ∧ ¬ s.wd 0 = 0) ∧ Below w.heap.size w wr) (fun _ i _ => n - (intOf i).toNat)
  case atStart => exact ⟨0, 0, _, Nat.zero_le _, rfl, rfl, Nat.zero_le _, h1, rfl, Or.inl ⟨rfl, rfl, rfl⟩, b1⟩
  case round =>
    obtain ⟨k, c, s, hk, rfl, rfl, h50, hs, hn2, hw, hb⟩ := hrel
    by_cases hlt : k < n
    · by_cases h5 : k < 50
      · obtain ⟨b, off, rfl, hc⟩ := HR.out k hlt
        obtain ⟨y, hy, hy0⟩ := or1 _ (HZ.out k hlt)
        have hc1 := keep' hb hc
        have hc2 := fun (w' : World) (o : Only L.has wr w') => keep' (grow_only hb f1 o) hc
        rcases hw with ⟨hk0, rfl, hw⟩ | ⟨hk0, rfl, hw⟩
        · clear hk0
          go_wp2_with (go_at_call 12; refine (cas0 hs hn2 _).mono ?_; rintro e w2 ⟨rfl, h2, b2, e2⟩; rw [decide_eq_true hw]; rw [Mm.cas, if_pos hw] at h2; have hc3 := hc2 _ b2)
          have e2 : (s.step 0 y).wd 0 = y := by simp [Mm.step, upd]
          go_quiet ((go_at_call 17; exact Calls.quiet_of_same (peek_eq (h2.drewN _) 0 (show 0 < s.n by omega) y e2)))
          go_wp2
          go_roundw
          case rel => exact ⟨k + 1, 1, _, by omega, by go_num, rfl, by omega, h2.drewN _, hn2, Or.inr ⟨by omega, rfl, by rw [e2]; exact hy0⟩, below_drewN (grow_only hb f1 b2) _⟩
          case measure => simp [intOf]; omega
        · go_wp2_with (go_at_call 12; refine (cas0 hs hn2 _).mono ?_; rintro e w2 ⟨rfl, h2, b2, e2⟩; rw [decide_eq_false hw]; rw [Mm.cas, if_neg hw] at h2)
          go_roundw
          case rel => exact ⟨k + 1, 1, _, by omega, by go_num, rfl, by omega, h2, hn2, Or.inr ⟨by omega, rfl, by simpa [Mm.step, upd] using hw⟩, grow_only hb f1 b2⟩
          case measure => simp [intOf]; omega
      · have hc : c = 1 := by omega
        subst hc
        go_wp2_with (go_at_call 9; refine (awake02_any _).mono ?_; rintro e w3 ⟨rfl, b3⟩)
        go_ret
        exact ⟨rfl, grow hb b3⟩
    · have hkn : k = n := by omega
      subst hkn
      rcases hw with ⟨rfl, rfl, hw⟩ | ⟨hk0, rfl, hw⟩
      · go_wp2_with (go_at_call 9; refine (awake02_any _).mono ?_; rintro e w3 ⟨rfl, b3⟩)
        go_ret
        exact ⟨rfl, grow hb b3⟩
      · go_wp2_with (go_at_call 9; refine (awake02_any _).mono ?_; rintro e w3 ⟨rfl, b3⟩)
        go_ret
        exact ⟨rfl, grow hb b3⟩

end Go.Proofs.Ytmndmialhhbogaa
