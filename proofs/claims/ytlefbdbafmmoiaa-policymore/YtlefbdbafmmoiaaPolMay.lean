/- Which chunks may be evacuated: the program's word and the statements' own. No condition but that numbers are numbers. -/
import Derived.Test.YtlefbdbafmmoiaaPolLeaf
namespace Go.Proofs.Ytlefbdbafmmoiaa
open Go.RowKit

/-- what is seen of a chunk: its state, class, words given out, stamp; words that live; whether it is open -/
structure Sn where
  st : Int
  cl : Int
  us : Int
  sm : Int
  lv : Int
  op : Bool

/-- as a value -/
@[reducible] def Sn.val (q : Sn) : Value := .agg #[.int .i64 q.st, .int .i64 q.cl, .int .i64 q.us, .int .i64 q.sm, .int .i64 q.lv, .bool q.op]

def SnFit (q : Sn) : Prop := Fit q.st ∧ Fit q.cl ∧ Fit q.us ∧ Fit q.sm ∧ Fit q.lv

/-- it may be evacuated -/
def Sn.may (sp : Int) (q : Sn) : Bool := decide (q.st = 1 ∧ q.op = false ∧ 0 < q.us ∧ (q.lv = 0 ∨ 1000 * q.lv < sp * q.us))

set_option maxHeartbeats 1000000 in
theorem may_any (c0 c1 c2 c3 c4 sp c6 : Int) (hp : Fit sp) (q : Sn) (hq : SnFit q) (w : World) :
    Calls Try.prog 10 #[.agg #[.int .i64 c0, .int .i64 c1, .int .i64 c2, .int .i64 c3, .int .i64 c4, .int .i64 sp, .int .i64 c6], .agg #[.int .i64 q.st, .int .i64 q.cl, .int .i64 q.us, .int .i64 q.sm, .int .i64 q.lv, .bool q.op]] w fun e w' => e = .returned (.bool (q.may sp)) ∧ Below w.heap.size w w' := by
  obtain ⟨st, cl, us, sm, lv, op⟩ := q
  obtain ⟨f1, f2, f3, f4, f5⟩ := hq
  simp only at *
  have L := fun w => less_any 1000 lv sp us (by unfold Fit; omega) f5 hp f3 w
  obtain ⟨m, hm⟩ : ∃ m, Sn.may sp ⟨st, cl, us, sm, lv, op⟩ = m := ⟨_, rfl⟩
  rw [hm]
  have HM : Hid (Sn.may sp ⟨st, cl, us, sm, lv, op⟩ = m) := hm
  unfold Sn.may at hm
  simp only at hm
  by_cases h1 : st = 1
  · have h1' : (st != 1) = false := by simpa using h1
    have H1 : Hid (st = 1) := h1
    cases op with
    | true =>
      obtain rfl : m = false := by rw [← hm]; simp
      clear hm h1
      go_enter Try.func10, Try.ntmps10
      go_wp2
      go_ret
      exact ⟨rfl, grow_alloc (grow_alloc (Below.refl _ _) _) _⟩
    | false =>
      by_cases h2 : 0 < us
      · have h2' : decide (us ≤ 0) = false := decide_eq_false (by omega)
        by_cases h3 : lv = 0
        · have h3' : (lv == 0) = true := by simpa using h3
          obtain rfl : m = true := by rw [← hm]; simp [h1, h2, h3]
          clear hm h1 h3
          go_enter Try.func10, Try.ntmps10
          go_wp2
          go_ret
          exact ⟨rfl, grow_alloc (grow_alloc (Below.refl _ _) _) _⟩
        · have h3' : (lv == 0) = false := by simpa using h3
          obtain rfl : decide (1000 * lv < sp * us) = m := by rw [← hm]; simp [h1, h2, h3]
          clear hm h1 h3
          go_enter Try.func10, Try.ntmps10
          go_wp2_with (go_at_call 13; refine (L _).mono ?_; rintro e w1 ⟨rfl, rfl⟩)
          go_ret
          exact ⟨rfl, grow_alloc (grow_alloc (Below.refl _ _) _) _⟩
      · have h2' : decide (us ≤ 0) = true := decide_eq_true (by omega)
        obtain rfl : m = false := by rw [← hm]; simp [h2]
        clear hm h1
        go_enter Try.func10, Try.ntmps10
        go_wp2
        go_ret
        exact ⟨rfl, grow_alloc (grow_alloc (Below.refl _ _) _) _⟩
  · have h1' : (st != 1) = true := by simpa using h1
    obtain rfl : m = false := by rw [← hm]; simp [h1]
    clear hm h1
    go_enter Try.func10, Try.ntmps10
    go_wp2
    go_ret
    exact ⟨rfl, grow_alloc (grow_alloc (Below.refl _ _) _) _⟩

/-- the statements' own word for it -/
def Sn.may2 (sp : Int) (q : Sn) : Bool := decide (q.st = 1 ∧ q.op = false ∧ 0 < q.us ∧ (q.lv ≤ 0 ∨ q.lv * 1000 < q.us * sp))

/-- what the statements make of what is handed in: few words -/
def Sn.cut (q : Sn) : Sn := ⟨q.st, q.cl, q.us % 512, q.sm, q.lv.tmod 600, q.op⟩

/-- what they make is small -/
def Sn.Small (q : Sn) : Prop := SnFit q ∧ 0 ≤ q.us ∧ q.us ≤ 511 ∧ -600 < q.lv ∧ q.lv < 600

theorem Sn.cut_small {q : Sn} (h : SnFit q) : q.cut.Small := by
  obtain ⟨st, cl, us, sm, lv, op⟩ := q
  obtain ⟨f1, f2, f3, f4, f5⟩ := h
  have h1 : -(600 : Int) < lv.tmod 600 := Int.lt_tmod_of_pos lv (by omega)
  have h3 : lv.tmod 600 < 600 := Int.tmod_lt_of_pos lv (by omega)
  simp only [Sn.cut, Sn.Small, SnFit, Fit] at *
  omega

theorem small_mul {a b : Int} (ha : 0 ≤ a) (ha' : a ≤ 511) (hb : 0 ≤ b) (hb' : b ≤ 1000) : 0 ≤ a * b ∧ a * b ≤ 511000 := by
  refine ⟨Int.mul_nonneg ha hb, ?_⟩
  have := Int.mul_le_mul ha' hb' hb (by decide)
  omega

/-- both words are the same, of few words -/
theorem Sn.may_same {sp : Int} (h0 : 0 ≤ sp) (h1 : sp ≤ 1000) {q : Sn} (h : q.Small) : q.may2 sp = q.may sp := by
  obtain ⟨st, cl, us, sm, lv, op⟩ := q
  obtain ⟨-, u0, u1, l0, l1⟩ := h
  simp only [Sn.may, Sn.may2] at *
  have := small_mul u0 u1 h0 h1
  rw [decide_eq_decide, Int.mul_comm us sp, Int.mul_comm lv 1000]
  rw [Int.mul_comm us sp] at this
  generalize sp * us = P at *
  constructor
  · rintro ⟨a, b, c, d⟩; exact ⟨a, b, c, by omega⟩
  · rintro ⟨a, b, c, d⟩; exact ⟨a, b, c, by omega⟩

set_option maxHeartbeats 1000000 in
theorem may2_any (sp : Int) (h0 : 0 ≤ sp) (h1 : sp ≤ 1000) (q : Sn) (hq : q.Small) (w : World) :
    Calls Try.prog 11 #[.int .i64 sp, .agg #[.int .i64 q.st, .int .i64 q.cl, .int .i64 q.us, .int .i64 q.sm, .int .i64 q.lv, .bool q.op]] w fun e w' => e = .returned (.bool (q.may sp)) ∧ Below w.heap.size w w' := by
  rw [← Sn.may_same h0 h1 hq]
  obtain ⟨st, cl, us, sm, lv, op⟩ := q
  obtain ⟨-, u0, u1, l0, l1⟩ := hq
  simp only at *
  obtain ⟨P, hP⟩ : ∃ P, us * sp = P := ⟨_, rfl⟩
  obtain ⟨m, hm⟩ : ∃ m, Sn.may2 sp ⟨st, cl, us, sm, lv, op⟩ = m := ⟨_, rfl⟩
  rw [hm]
  unfold Sn.may2 at hm
  simp only at hm
  have hPb := small_mul u0 u1 h0 h1
  rw [hP] at hm hPb
  have hw1 : wrap64 (us * sp) = P := by rw [hP]; unfold wrap64; omega
  have hw2 : wrap64 (lv * 1000) = lv * 1000 := by unfold wrap64; omega
  by_cases e1 : st = 1
  · have e1' : (st != 1) = false := by simpa using e1
    cases op with
    | true =>
      obtain rfl : m = false := by rw [← hm]; simp
      clear hm e1 hP hw1
      go_enter Try.func11, Try.ntmps11
      go_wp2
      go_ret
      exact ⟨rfl, grow_alloc (Below.refl _ _) _⟩
    | false =>
      by_cases e2 : 0 < us
      · have e2' : decide (us < 1) = false := decide_eq_false (by omega)
        by_cases e3 : lv ≤ 0
        · have e3' : decide (lv ≤ 0) = true := decide_eq_true e3
          obtain rfl : m = true := by rw [← hm]; simp [e1, e2, e3]
          clear hm e1 hP hw1
          go_enter Try.func11, Try.ntmps11
          go_wp2
          go_ret
          exact ⟨rfl, grow_alloc (Below.refl _ _) _⟩
        · have e3' : decide (lv ≤ 0) = false := decide_eq_false e3
          obtain rfl : decide (lv * 1000 < P) = m := by rw [← hm]; simp [e1, e2, e3]
          clear hm e1 hP
          go_enter Try.func11, Try.ntmps11
          go_wp2
          go_ret
          exact ⟨rfl, grow_alloc (Below.refl _ _) _⟩
      · have e2' : decide (us < 1) = true := decide_eq_true (by omega)
        obtain rfl : m = false := by rw [← hm]; simp [e2]
        clear hm e1 hP hw1
        go_enter Try.func11, Try.ntmps11
        go_wp2
        go_ret
        exact ⟨rfl, grow_alloc (Below.refl _ _) _⟩
  · have e1' : (st != 1) = true := by simpa using e1
    obtain rfl : m = false := by rw [← hm]; simp [e1]
    clear hm e1 hP hw1
    go_enter Try.func11, Try.ntmps11
    go_wp2
    go_ret
    exact ⟨rfl, grow_alloc (Below.refl _ _) _⟩

set_option maxHeartbeats 1000000 in
theorem seen_any (q : Sn) (w : World) :
    Calls Try.prog 8 #[.agg #[.int .i64 q.st, .int .i64 q.cl, .int .i64 q.us, .int .i64 q.sm, .int .i64 q.lv, .bool q.op]] w fun e w' => e = .returned (.agg #[.int .i64 q.cut.st, .int .i64 q.cut.cl, .int .i64 q.cut.us, .int .i64 q.cut.sm, .int .i64 q.cut.lv, .bool q.cut.op]) ∧ Below w.heap.size w w' := by
  obtain ⟨st, cl, us, sm, lv, op⟩ := q
  simp only [Sn.cut]
  have hb : bits .and .i64 us 511 = us % 512 := i64_low us 511 9 (by decide) (by decide)
  go_enter Try.func8, Try.ntmps8
  go_wp2
  exact bodyPost_ret (v := .agg #[.int .i64 st, .int .i64 cl, .int .i64 (us % 512), .int .i64 sm, .int .i64 (lv.tmod 600), .bool op]) (by simp [results, Try.results8, go_sem]) rfl ⟨rfl, grow_alloc (grow_alloc (Below.refl _ _) _) _⟩

end Go.Proofs.Ytlefbdbafmmoiaa
