/- What the document's own unpacking comes to: Get of package footlockerref01. -/
import Derived.Test.YtpeglmhlooecpabRef
namespace Go.Proofs.Ytpeglmhlooecpab
open Go.RowKit

theorem Try.info3 : (Try.prog.info? 3).map (fun i => (i.zero, i.size, i.bytes)) = some (some (.int .i64 0), 1, 8) := by kernel_rfl

theorem power_lt (n : Nat) (w : World) (h1 : n < 64) :
    Calls Try.prog 21 #[.int .i64 n] w fun e w' => e = .returned (.int .u64 (2 ^ n)) ∧ w' = w := by
  refine (power_any n w (by omega)).mono ?_
  rintro e w' ⟨rfl, rfl⟩
  exact ⟨ret_int (unit_small n h1), rfl⟩

/-- the number number j of a word -/
def part (x : Int) (bs : Nat → Nat) (j : Nat) : Int := x / 2 ^ bitsUpto bs j % 2 ^ bs j

/-- the first k numbers of a word -/
def parts (x : Int) (bs : Nat → Nat) (k : Nat) : List Value := (List.range k).map fun j => .int .i64 (part x bs j)

theorem parts_length (x : Int) (bs : Nat → Nat) (k : Nat) : (parts x bs k).length = k := by simp [parts]

theorem parts_succ (x : Int) (bs : Nat → Nat) (k : Nat) : parts x bs (k + 1) = parts x bs k ++ [.int .i64 (part x bs k)] := by
  simp [parts, List.range_succ]

theorem rest_bd (x : Int) (a : Nat) (h0 : 0 ≤ x) (h1 : x ≤ 18446744073709551615) : 0 ≤ x / 2 ^ a ∧ x / 2 ^ a ≤ 18446744073709551615 := by
  have ha := pow_pos a
  have := Int.ediv_nonneg h0 (show (0 : Int) ≤ 2 ^ a by omega)
  have := Int.ediv_le_self (2 ^ a) h0
  omega

theorem rest_step (x : Int) (a b : Nat) : x / 2 ^ a / 2 ^ b = x / 2 ^ (a + b) := by
  have ha := pow_pos a
  rw [Int.pow_add, Int.ediv_ediv_of_nonneg (by omega)]

set_option maxHeartbeats 400000 in
theorem refGet_any (n b2 : Nat) (x : Int) (bs : Nat → Nat) (w : World) (hb : ∀ i, i < n → w.cell? ⟨b2, i, none⟩ = some (.int .i64 (bs i))) (hb2 : b2 < w.heap.size)
    (x0 : 0 ≤ x) (x1 : x ≤ 18446744073709551615) (bl : ∀ i, i < n → 1 ≤ bs i ∧ bs i < 64) (hn : n ≤ 64) :
    Calls Try.prog 15 #[.int .u64 x, .slice (some ⟨b2, 0, none⟩) n n] w fun e w' => ∃ v, e = .returned v ∧ w'.ownsRow w.heap.size 3 1 v n (parts x bs n) ∧ Below w.heap.size w w' := by
  obtain ⟨i0, hi, hz0, hz1, hz2⟩ := info_parts Try.info3
  go_enter Try.func15, Try.ntmps15
  go_wp2
  go_loopw [0, 5, 6] (fun r o i wr => ∃ k : Nat, k ≤ n ∧ i = .int .i64 k ∧ r = .int .u64 (x / 2 ^ bitsUpto bs k) ∧ wr.ownsRow w.heap.size 3 1 o k (parts x bs k) ∧ Below w.heap.size w wr) (fun _ _ i _ => n - (intOf i).toNat)
  case atStart => exact ⟨0, Nat.zero_le _, rfl, by simp [bitsUpto], World.ownsRow_made w _ 0 (Nat.le_refl _) (Nat.zero_le _) rfl, (Below.refl _ _).alloc (Nat.le_refl _) _⟩
  case round =>
    obtain ⟨k, hk, rfl, rfl, hown, hbl⟩ := hrel
    by_cases hlt : k < n
    · have hb0 := hb k hlt
      have hb1 := (hbl.cell (p := ⟨b2, k, none⟩) hb2).trans hb0
      have bl1 := bl k hlt
      have hr := rest_bd x (bitsUpto bs k) x0 x1
      have hp := pow_lt (bs k) bl1.2
      clear hb bl
      go_wp2_with (first
        | (go_at_call 21; refine (power_lt _ _ (by omega)).mono ?_; rintro e w' ⟨rfl, rfl⟩)
        | (at_builtin; go_must (refine wpList_append_own _ rfl _ _ 40 rfl w.heap.size 3 i0 (.int .i64 0) 1 8 Try.underlying40 hi hz0 hz1 hz2 rfl (by decide) _ _ _ rfl (hown.alloc _) ⟨_, 0, none⟩ 1 1 [.int .i64 (part x bs k)] rfl rfl ?c1 ?c2 ?c3 ?c4 ?c5 ?_)))
      case c1 =>
        intro j u hj
        match j, hj with
        | 0, hj => simp at hj; subst hj; simp [Addr.add, part]
      case c2 => intro u hu; simp at hu; subst hu; rfl
      case c3 => unfold maxLen; omega
      case c4 => omega
      case c5 => have := hbl.size; simp; omega
      · intro v' w1 hown' hgrow _
        have hs1 := hbl.size
        have hbl1 := (hbl.alloc hs1 _).grown hgrow (by simp; omega) (fun k h => (hown.lt k h).1)
        have hb2' := (hbl1.cell (p := ⟨b2, k, none⟩) hb2).trans hb0
        rw [← parts_succ] at hown'
        clear hgrow hb1 hown hbl hs1
        go_wp2_with (go_at_call 21; refine (power_lt _ _ (by omega)).mono ?_; rintro e w' ⟨rfl, rfl⟩)
        go_roundw
        case rel => exact ⟨k + 1, by omega, by go_num, value_int (rest_step x _ _), hown', hbl1⟩
        case measure => simp [intOf]; omega
    · go_wp2
      go_ret
      have e : k = n := by omega
      subst e
      exact ⟨_, rfl, hown, hbl⟩

end Go.Proofs.Ytpeglmhlooecpab
