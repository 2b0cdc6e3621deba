/- WordLives answers true for every two handles, and leaves what was in memory. -/
import Derived.Test.YtpeglmhlooecpabLater
import Derived.Test.YtpeglmhlooecpabAwake
import Derived.Test.YtpeglmhlooecpabLow
namespace Go.Proofs.Ytpeglmhlooecpab
open Go.RowKit

theorem low16 (n : Int) : ∃ p, bits .and .i64 n 65535 = p ∧ 0 ≤ p ∧ p ≤ 65535 := ⟨_, i64_low n 65535 16 (by decide) (by decide), by omega, by omega⟩
theorem low15 (n : Int) : ∃ p, bits .and .i64 n 32767 = p ∧ 0 ≤ p ∧ p ≤ 32767 := ⟨_, i64_low n 32767 15 (by decide) (by decide), by omega, by omega⟩

theorem packH_of (p q : Int) (h0 : 0 ≤ p) (h1 : p ≤ 65535) (h2 : 0 ≤ q) (h3 : q ≤ 65535) : packH p q = p + q * 65536 := by
  unfold packH; rw [cut_id p 16 h0 (by omega), cut_id q 16 h2 (by omega)]

theorem putLow_any (p q x : Int) (w : World) (h0 : 0 ≤ p) (h1 : p ≤ 65535) (h2 : 0 ≤ q) (h3 : q ≤ 32767) (hx : x = p + (1 + q) * 65536) :
    Calls Try.prog 14 #[.agg #[.int .i64 p, .int .i64 (1 + q)]] w fun e w' => e = .returned (.int .u64 x) ∧ Below w.heap.size w w' := by
  rw [hx, ← packH_of p (1 + q) h0 h1 (by omega) (by omega)]
  exact putHandle_any p (1 + q) w ⟨by omega, by omega⟩ ⟨by omega, by omega⟩

theorem ret_bool {a b : Bool} (h : a = b) : Ending.returned (.bool a) = .returned (.bool b) := by rw [h]

set_option maxHeartbeats 1000000 in
theorem lives_any (a b c d : Int) (w : World) :
    Calls Try.prog 5 #[.agg #[.int .i64 a, .int .i64 b], .agg #[.int .i64 c, .int .i64 d]] w fun e w' => e = .returned (.bool true) ∧ Below w.heap.size w w' := by
  obtain ⟨p, e1, p0, p1⟩ := low16 a
  obtain ⟨q, e2, q0, q1⟩ := low15 b
  obtain ⟨r, e3, r0, r1⟩ := low16 c
  obtain ⟨s, e4, s0, s1⟩ := low15 d
  obtain ⟨x, hx⟩ : ∃ x, x = p + (1 + q) * 65536 := ⟨_, rfl⟩
  obtain ⟨y, hy⟩ : ∃ y, y = r + (1 + s) * 65536 := ⟨_, rfl⟩
  have HX : Hid (x = p + (1 + q) * 65536) := hx
  have HY : Hid (y = r + (1 + s) * 65536) := hy
  go_enter Try.func5, Try.ntmps5
  clear hx hy
  go_wp2
  refine wp_over (fun W => W.cell? ⟨w.heap.size + 2, 0, none⟩ = some (.int .i64 p) ∧ W.cell? ⟨w.heap.size + 2, 1, none⟩ = some (.int .i64 (1 + q)) ∧ W.cell? ⟨w.heap.size + 3, 0, none⟩ = some (.int .i64 r) ∧ W.cell? ⟨w.heap.size + 3, 1, none⟩ = some (.int .i64 (1 + s)) ∧ Below w.heap.size w W) ?_ ?_
  · refine ⟨by go_simp, by go_simp, by go_simp, by go_simp, grow_alloc (grow_alloc (grow_alloc (grow_alloc (Below.refl _ _) _) _) _) _⟩
  rintro W ⟨z0, z1, u0, u1, B⟩
  have n0 := fun n : Later W => n.cell z0
  have n1 := fun n : Later W => n.cell z1
  have n2 := fun n : Later W => n.cell u0
  have n3 := fun n : Later W => n.cell u1
  haveI := Later.exists W
  clear z0 z1 u0 u1
  refine wp_region_later (by kernel_rfl) (by kernel_rfl) ?_
  repeat (go_big_quiet_step ((first
    | (go_at_call_of 14 p; exact Calls.later (putLow_any p q x _ p0 p1 q0 q1 HX.out))
    | (go_at_call_of 14 r; exact Calls.later (putLow_any r s y _ r0 r1 s0 s1 HY.out)))))
  refine wpQuiet_nil ?_
  intro _ hw'
  obtain ⟨nq, hw''⟩ := hw'
  subst hw''
  have z0 := n0 nq
  have z1 := n1 nq
  have u0 := n2 nq
  have u1 := n3 nq
  have B1 := grow B nq.below
  clear n0 n1 n2 n3 B this
  go_wp2_with fail
  refine (awake_any _).mono ?_
  rintro e w2 ⟨rfl, b2⟩
  replace z0 := keep b2 z0
  replace z1 := keep b2 z1
  replace u0 := keep b2 u0
  replace u1 := keep b2 u1
  replace B1 := grow B1 b2
  clear b2 e1 e2 e3 e4
  have hx := HX.out
  have hy := HY.out
  by_cases h1 : p = r
  · subst h1
    by_cases h2 : q = s
    · subst h2
      have e : x = y := by omega
      subst e
      clear hx hy
      go_wp2
      go_ret
      exact ⟨rfl, B1⟩
    · have e : ¬ x = y := by omega
      have e5 : (x == y) = false := by simpa using e
      have e6 : ¬ 1 + q = 1 + s := by omega
      by_cases h3 : q < s
      · have e7 : x < y := by omega
        have e8 : 1 + q < 1 + s := by omega
        clear hx hy
        go_wp2
        go_ret
        exact ⟨rfl, B1⟩
      · have e7 : ¬ x < y := by omega
        clear hx hy
        go_wp2
        go_ret
        exact ⟨ret_bool (by simp; omega), B1⟩
  · have e : ¬ x = y := by omega
    have e5 : (x == y) = false := by simpa using e
    have e6 : (p != r) = true := by simpa using h1
    clear hx hy
    go_wp2
    go_ret
    exact ⟨rfl, B1⟩

end Go.Proofs.Ytpeglmhlooecpab
