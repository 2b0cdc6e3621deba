/- What the words of a fresh arena are, and what the statements' own first look at package layout comes to: true; it only makes memory. -/
import Derived.Test.YtocmkmeikcejjaaLayFresh
import Derived.Test.YtocmkmeikcejjaaLow
namespace Go.Proofs.Ytocmkmeikcejjaa
open Go.RowKit

theorem laid_top (t s len j : Nat) : (Mm.laid t s len j).wd 1 = 1 := by
  induction j with
  | zero => rfl
  | succ j ih =>
    show upd (upd (Mm.laid t s len j).wd _ _) _ _ 1 = 1
    unfold upd
    rw [if_neg (by omega), if_neg (by omega)]
    exact ih

theorem laid_slot (t s len j i : Nat) (h : i < j) : (Mm.laid t s len j).wd (6 + t + i * 2) = 8388608 := by
  induction j with
  | zero => omega
  | succ j ih =>
    show upd (upd (Mm.laid t s len j).wd _ _) _ _ (6 + t + i * 2) = _
    unfold upd
    rw [if_neg (by omega)]
    by_cases hij : i = j
    · rw [if_pos (by omega)]
    · rw [if_neg (by omega)]; exact ih (by omega)

theorem laid_link (t s len j i : Nat) (h : i < j) : (Mm.laid t s len j).wd (6 + t + i * 2 + 1) = linkOf s i := by
  induction j with
  | zero => omega
  | succ j ih =>
    show upd (upd (Mm.laid t s len j).wd _ _) _ _ (6 + t + i * 2 + 1) = _
    unfold upd
    by_cases hij : i = j
    · rw [if_pos (by omega), hij]
    · rw [if_neg (by omega), if_neg (by omega)]; exact ih (by omega)

theorem laid_else (t s len j a : Nat) (h1 : a ≠ 1) (h : a < 6 + t ∨ 6 + t + j * 2 ≤ a) : (Mm.laid t s len j).wd a = 0 := by
  induction j with
  | zero =>
    show upd (fun _ => (0 : Int)) 1 1 a = 0
    unfold upd
    rw [if_neg h1]
  | succ j ih =>
    show upd (upd (Mm.laid t s len j).wd _ _) _ _ a = 0
    unfold upd
    rw [if_neg (by omega), if_neg (by omega)]
    exact ih (by omega)

theorem peek_is {w : World} {L : Loc} {s : Mm} (h : MemAt w L s) (a : Nat) (ha : a < s.n) (x : Int) (hx : s.wd a = x) :
    Calls Try.prog 10 #[.pointer (some ⟨L.p, 0, none⟩), .int .i64 a] w fun e w' => e = .returned (.int .u64 x) ∧ w' = w := by
  subst hx; exact peek_in h a ha

theorem good0 : Good 2 3 2 20 9 0 1 := by constructor <;> decide

theorem fresh0 (w : World) :
    Calls Try.prog 12 #[.agg #[.int .i64 2, .int .i64 3, .int .i64 2, .int .i64 20, .int .i64 9, .int .i64 0, .int .i64 1]] w fun e w' => ∃ L : Loc, e = .returned (.tuple #[.pointer (some ⟨L.p, 0, none⟩), .int .i64 0]) ∧ MemAt w' L (Mm.laid 2 3 60 3) ∧ Below w.heap.size w w' ∧ ∀ k, L.has k → w.heap.size ≤ k :=
  fresh_good good0 w

theorem len0 (w : World) : Calls Try.prog 25 #[.agg #[.int .i64 2, .int .i64 3, .int .i64 2, .int .i64 20, .int .i64 9, .int .i64 0, .int .i64 1]] w fun e w' => e = .returned (.int .i64 60) ∧ Below w.heap.size w w' := llen_good good0 w

theorem mlen0 {w : World} {L : Loc} (h : MemAt w L (Mm.laid 2 3 60 3)) : Calls Try.prog 77 #[.pointer (some ⟨L.p, 0, none⟩)] w fun e w' => e = .returned (.int .i64 60) ∧ w' = w := len_any h

theorem peek0 {w : World} {L : Loc} (h : MemAt w L (Mm.laid 2 3 60 3)) : Calls Try.prog 10 #[.pointer (some ⟨L.p, 0, none⟩), .int .i64 1] w fun e w' => e = .returned (.int .u64 1) ∧ w' = w := peek_is h 1 (by decide) 1 (laid_top 2 3 60 3)

theorem class0 (w : World) : Calls Try.prog 61 #[.int .i64 3] w fun e w' => e = .returned (.int .i64 1) ∧ w' = w := lclass_any 3 w

theorem room0 (w : World) : Calls Try.prog 54 #[.int .i64 1] w fun e w' => e = .returned (.int .i64 5) ∧ w' = w := lroom_any 1 w (by decide) (by decide)

/-- what a statement's arena has: small numbers -/
structure Small (t s k n : Nat) (g p r : Int) : Prop where
  t0 : 1 ≤ t
  t1 : t ≤ 4
  s0 : 1 ≤ s
  s1 : s ≤ 16
  k0 : 1 ≤ k
  k1 : k ≤ 8
  n0 : 17 ≤ n
  n1 : n ≤ 48
  g0 : 1 ≤ g
  g1 : g ≤ 1024
  p0 : 0 ≤ p
  p1 : p ≤ 1000
  r0 : 1 ≤ r
  r1 : r ≤ 4

theorem Small.good {t s k n : Nat} {g p r : Int} (h : Small t s k n g p r) : Good t s k n g p r := by
  obtain ⟨t0, t1, s0, s1, k0, k1, n0, n1, g0, g1, p0, p1, r0, r1⟩ := h
  constructor <;> omega

theorem lowN (x m : Int) (b c : Nat) (hb : b < 63) (hm : m = 2 ^ b - 1) : ∃ y : Nat, (c : Int) + bits .and .i64 x m = (y : Int) ∧ c ≤ y ∧ (y : Int) ≤ c + m := by
  have h := i64_low x m b hb hm
  have hp := pow_pos b
  have h1 := Int.emod_nonneg x (b := m + 1) (by omega)
  have h2 := Int.emod_lt_of_pos x (b := m + 1) (by omega)
  exact ⟨c + (x % (m + 1)).toNat, by rw [h]; omega, by omega, by omega⟩

theorem rem_bd (p : Int) : 0 ≤ (wrap64 (p.tmod 1001 + 1001)).tmod 1001 ∧ (wrap64 (p.tmod 1001 + 1001)).tmod 1001 ≤ 1000 := by
  have h1 : -1001 < p.tmod 1001 := Int.lt_tmod_of_pos p (by decide)
  have h3 : p.tmod 1001 < 1001 := Int.tmod_lt_of_pos p (by decide)
  have h2 : wrap64 (p.tmod 1001 + 1001) = p.tmod 1001 + 1001 := by unfold wrap64; omega
  rw [h2, Int.tmod_eq_emod_of_nonneg (by omega)]
  omega

end Go.Proofs.Ytocmkmeikcejjaa
