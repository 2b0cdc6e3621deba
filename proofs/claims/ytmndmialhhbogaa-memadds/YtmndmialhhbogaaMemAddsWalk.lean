/- MemAdds answers true for every slice of words, and leaves what was in memory. -/
import Derived.Test.YtmndmialhhbogaaMemnil
import Derived.Test.YtmndmialhhbogaaArgs
namespace Go.Proofs.Ytmndmialhhbogaa
open Go.RowKit

/-- the sum of the first k words, wrapping round -/
def sumUpto (z : Nat → Int) : Nat → Int
  | 0 => 0
  | k + 1 => sum64 (sumUpto z k) (z k)

theorem fresh2 (w : World) : Calls Try.prog 8 #[.int .i64 2] w fun e w' => ∃ L : Loc, e = .returned (.tuple #[.pointer (some ⟨L.p, 0, none⟩), .int .i64 0]) ∧ MemAt w' L (Mm.fresh 2) ∧ Below w.heap.size w w' ∧ ∀ k, L.has k → w.heap.size ≤ k :=
  new_in 2 (by decide) (by decide) w

theorem add1 {w : World} {L : Loc} {s : Mm} (h : MemAt w L s) (hn : s.n = 2) (v : Int) :
    Calls Try.prog 13 #[.pointer (some ⟨L.p, 0, none⟩), .int .i64 1, .int .u64 v] w fun e w' => e = .returned (.tuple #[.int .u64 (s.wd 1), .int .i64 0]) ∧ MemAt w' L (s.step 1 (sum64 (s.wd 1) v)) ∧ Only L.has w w' ∧ w'.heap.size = w.heap.size :=
  add_in h 1 (by omega) v

theorem peek1 {w : World} {L : Loc} {s : Mm} (h : MemAt w L s) (hn : s.n = 2) :
    Calls Try.prog 17 #[.pointer (some ⟨L.p, 0, none⟩), .int .i64 1] w fun e w' => e = .returned (.int .u64 (s.wd 1)) ∧ w' = w :=
  peek_in h 1 (by omega)

theorem peek0 {w : World} {L : Loc} {s : Mm} (h : MemAt w L s) (hn : 1 ≤ s.n) :
    Calls Try.prog 17 #[.pointer (some ⟨L.p, 0, none⟩), .int .i64 0] w fun e w' => e = .returned (.int .u64 (s.wd 0)) ∧ w' = w :=
  peek_in h 0 (by omega)

set_option maxHeartbeats 1000000 in
theorem adds_any (ao : Option Addr) (n cap : Nat) (z : Nat → Int) (w : World) (hr : IntsAt .u64 w ao n z) :
    Calls Try.prog 5 #[.slice ao n cap] w fun e w' => e = .returned (.bool true) ∧ Below w.heap.size w w' := by
  have HR : Hid (IntsAt .u64 w ao n z) := hr
  clear hr
  go_enter Try.func5, Try.ntmps5
  go_wp2_with (go_at_call 8; refine (fresh2 _).mono ?_; rintro e w1 ⟨L, rfl, h1, b1, f1⟩)
  go_loopw [5, 6] (fun x i wr => ∃ (k : Nat) (s : Mm), k ≤ n ∧ i = .int .i64 k ∧ x = .int .u64 (sumUpto z k) ∧ k ≤ 50 ∧ MemAt wr L s ∧ s.n = 2 ∧ s.wd 1 = sumUpto z k ∧ s.wd 0 = 0 ∧ Below w.heap.size w wr) (fun _ i _ => n - (intOf i).toNat)
  case atStart => exact ⟨0, _, Nat.zero_le _, rfl, rfl, Nat.zero_le _, h1, rfl, rfl, rfl, b1⟩
  case round =>
    obtain ⟨k, s, hk, rfl, rfl, h50, hs, hn2, hw1, hw0, hb⟩ := hrel
    by_cases hlt : k < n
    · by_cases h5 : k < 50
      · obtain ⟨b, off, rfl, hc⟩ := HR.out k hlt
        have hc1 := keep' hb hc
        have hc2 := fun (w' : World) (o : Only L.has wr w') => keep' (grow_only hb f1 o) hc
        go_wp2_with (go_at_call 13; refine (add1 hs hn2 _).mono ?_; rintro e w2 ⟨rfl, h2, b2, e2⟩; rw [hw1]; have hc3 := hc2 _ b2)
        go_roundw
        case rel => exact ⟨k + 1, _, by omega, by go_num, rfl, by omega, h2, hn2, by rw [hw1]; rfl, by simp [Mm.step, upd, hw0], grow_only hb f1 b2⟩
        case measure => simp [intOf]; omega
      · go_wp2_with (first
          | (go_at_call 9; refine (awake02_any _).mono ?_; rintro e w3 ⟨rfl, b3⟩; have hs3 := hs.below b3)
          | (go_at_call_of 17 (Value.int .i64 1); refine (peek1 hs3 hn2).mono ?_; rintro e w4 ⟨rfl, rfl⟩; rw [hw1])
          | (go_at_call_of 17 (Value.int .i64 0); refine (peek0 hs3 (by omega)).mono ?_; rintro e w5 ⟨rfl, rfl⟩; rw [hw0]))
        go_ret
        exact ⟨rfl, grow hb b3⟩
    · go_wp2_with (first
          | (go_at_call 9; refine (awake02_any _).mono ?_; rintro e w3 ⟨rfl, b3⟩; have hs3 := hs.below b3)
          | (go_at_call_of 17 (Value.int .i64 1); refine (peek1 hs3 hn2).mono ?_; rintro e w4 ⟨rfl, rfl⟩; rw [hw1])
          | (go_at_call_of 17 (Value.int .i64 0); refine (peek0 hs3 (by omega)).mono ?_; rintro e w5 ⟨rfl, rfl⟩; rw [hw0]))
      go_ret
      exact ⟨rfl, grow hb b3⟩

end Go.Proofs.Ytmndmialhhbogaa
