/- AllocGives answers true for all numbers, and leaves what was in memory. -/
import Derived.Test.YtemembcefplgcaaAllocAwake
namespace Go.Proofs.Ytemembcefplgcaa
open Go.RowKit

theorem upFrom_next (n k : Nat) (h : k < n) : upFrom n (n - k) = k :: upFrom n (n - (k + 1)) := by
  obtain ⟨m, hm⟩ : ∃ m, n - k = m + 1 := ⟨n - k - 1, by omega⟩
  rw [hm, show n - (k + 1) = m by omega]
  show (n - (m + 1)) :: upFrom n m = _
  rw [show n - (m + 1) = k by omega]

theorem done_e (a b c d : Value) (w : World) : (Instr.field 36 (.agg #[a, b, c, d]) 0).run Try.prog w = .ok a w := by kernel_rfl

set_option maxRecDepth 20000 in
set_option maxHeartbeats 4000000 in
theorem allocGives_any (slots times : Int) (w : World) :
    Calls Try.prog 6 #[.int .i64 slots, .int .i64 times] w fun e w' => e = .returned (.bool true) ∧ Below w.heap.size w w' := by
  obtain ⟨n, hn, hn1, hn8⟩ := lowAt slots 7 3 1 (by decide) (by decide)
  have hn' : (1 : Int) + bits .and .i64 slots 7 = (n : Int) := hn
  clear hn
  obtain ⟨T, hT, hT3⟩ := low0 times 15 4 (by decide) (by decide)
  have hG : Good 1 n 1 17 100 600 3 := goodp (by omega) (by omega) (by omega) (by omega)
  have AR := fun w => arena08 (t := 1) (n := n) (k := 1) (m := 17) hG (by omega) w
  have hfe := done_e
  have hF0 : (Q.new n).F = 0 :: upFrom n (n - 1) := by
    have := upFrom_next n 0 (by omega)
    exact this
  have G0 : Hid (Got 1 17 0 (base 1 n 1 17) (Q.new n).y 0 ⟨upd Y.new.ck 0 ⟨1, 0, room 0, (Y.new.ck 0).sp + 1⟩, upd Y.new.op 0 (0 + 1)⟩ (0 + 1) (.won (base 1 n 1 17 0) 0)) := .new (fun i h => by simp [Q.new, Y.new] at h) (by omega)
  go_enter Try.func6, Try.ntmps6
  go_wp2_with (first
    | (go_at_call 8; refine (AR _).mono ?_; rintro e w1 ⟨L, s, rfl, m1, t1, b1, f1⟩; obtain ⟨c1, pa⟩ := Camp.first hG m1 t1 (calm0 1 n 1 17) b1 f1)
    | (go_at_call 9; refine (awake08_any _).mono ?_; rintro e w2 ⟨rfl, b2⟩; have c2 := c1.grown b2; have z0 := c2.v.c0; have z1 := c2.v.c1; have z2 := c2.v.c2; have z3 := c2.v.c3; have z4 := c2.v.c4; have z5 := c2.v.c5; have z6 := c2.v.c6; have z7 := c2.v.c7; have z8 := c2.v.c8)
    | (go_at_call 11; refine (c2.ok (Z := 2) (κ := 0) pa (by omega) rfl (by omega) hF0 G0.out (by omega)).mono ?_; rintro e w3 ⟨st3, s3, σ3, rfl, h31, h32, h33, c3, o3⟩))
  have PA : Hid (PlotApart w L w1.heap.size 1 n 1 17) := pa
  have A3 : Hid (∃ q, q.F = upFrom n (n - 1) ∧ q.y.op 0 = 1 ∧ q.y.op 3 = 0 ∧ (q.y.ck 0).us = 3 ∧ Camp w w3 L w1.heap.size 1 n 1 17 s3 σ3 q 1) := ⟨_, rfl, rfl, rfl, rfl, c3⟩
  have hσ3 : σ3 ≤ 200 := by omega
  clear c3 c2 c1 z0 z1 z2 z3 z4 z5 z6 z7 z8 b2 o3 G0 hF0 pa m1 t1 b1 f1 AR hn' h31 h32 h33
  go_loopw [8] (fun i wr => ∃ (j : Nat) (s' : Mm) (σ' : Nat) (q : Q), i = .int .i64 j ∧ j ≤ T ∧ q.F = upFrom n (n - 1) ∧ q.y.op 0 = 1 ∧ q.y.op 3 = 0 ∧ (q.y.ck 0).us = 3 ∧ σ' ≤ 200 + 100 * j ∧ Camp w wr L w1.heap.size 1 n 1 17 s' σ' q 1) (fun i _ => T - (intOf i).toNat)
  case atStart =>
    obtain ⟨q, h1, h2, h3, h4, c⟩ := A3.out
    exact ⟨0, s3, σ3, q, rfl, by omega, h1, h2, h3, h4, by omega, c⟩
  case round =>
    clear A3
    obtain ⟨j, s', σ', q, rfl, hjT, hF, h0, h3, hu, hσ, c⟩ := hrel
    by_cases hj : j < T
    · have hj' : (j : Int) < bits .and .i64 times 15 := by rw [hT]; omega
      have z0 := c.v.c0
      have z1 := c.v.c1
      have z2 := c.v.c2
      have z3 := c.v.c3
      have z4 := c.v.c4
      have z5 := c.v.c5
      have z6 := c.v.c6
      have z7 := c.v.c7
      have z8 := c.v.c8
      by_cases hn2 : 1 < n
      · have hn2' : (1 : Int) < (n : Int) := by omega
        have hF' : q.F = 1 :: upFrom n (n - (1 + 1)) := by rw [hF]; exact upFrom_next n 1 hn2
        have g : Got 1 17 3 (base 1 n 1 17) q.y 1 q.y 1 .none := .none (fun i h => by rw [h3] at h; cases h) rfl
        go_wp2_with (go_at_call 11; refine (c.full (Z := 16) (κ := 3) PA.out (by omega) rfl (by omega) hF' g (by omega)).mono ?_; rintro e w4 ⟨st4, s4, σ4, rfl, h43, c4, o4⟩)
        go_roundw
        case rel => exact ⟨j + 1, s4, σ4, q.back 1 (upFrom n (n - (1 + 1))) q.y, by go_num, by omega, hF'.symm.trans hF, h0, h3, hu, by omega, c4.alloc _⟩
        case measure => rw [hT] at *; simp [intOf]; omega
      · have hn2' : ¬ (1 : Int) < (n : Int) := by omega
        have hn3 : ((n : Int) == 1) = true := by simp; omega
        have hFn : q.F = [] := by rw [hF, show n - 1 = 0 by omega]; rfl
        go_wp2_with (go_at_call 11; refine (c.empty (Z := 16) (κ := 3) PA.out (by omega) rfl (by omega) hFn (by omega)).mono ?_; rintro e w4 ⟨st4, s4, rfl, c4, o4⟩)
        go_roundw
        case rel => exact ⟨j + 1, s4, σ' + 1, q, by go_num, by omega, hF, h0, h3, hu, by omega, c4.alloc _⟩
        case measure => rw [hT] at *; simp [intOf]; omega
    · have hj' : ¬ (j : Int) < bits .and .i64 times 15 := by rw [hT]; omega
      have A4 : Hid (Camp w wr L w1.heap.size 1 n 1 17 s' σ' q 1) := c
      have hσ4 : σ' ≤ 2000 := by omega
      clear c hσ h3
      go_wp2
      go_loopw [10] (fun i wr => ∃ (j : Nat) (s' : Mm) (σ' : Nat) (q : Q), i = .int .i64 j ∧ 1 ≤ j ∧ j ≤ n ∧ j ≤ 5 ∧ q.F = upFrom n (n - j) ∧ q.y.op 0 = 1 ∧ (q.y.ck 0).us = 3 * j ∧ σ' ≤ 2000 + 100 * j ∧ Camp w wr L w1.heap.size 1 n 1 17 s' σ' q 1) (fun i _ => n - (intOf i).toNat)
      case atStart => exact ⟨1, s', σ', q, rfl, by omega, by omega, by omega, hF, h0, by omega, by omega, A4.out⟩
      case round =>
        clear A4 hF h0 hu
        obtain ⟨j2, s5, σ5, q5, rfl, h51, h52, h53, hF, h0, hu, hσ, c⟩ := hrel
        by_cases hjn : j2 < n
        · have hjn' : (j2 : Int) < (n : Int) := by omega
          by_cases hj5 : j2 < 5
          · have hj5' : (j2 : Int) < 5 := by omega
            have z0 := c.v.c0
            have z1 := c.v.c1
            have z2 := c.v.c2
            have z3 := c.v.c3
            have z4 := c.v.c4
            have z5 := c.v.c5
            have z6 := c.v.c6
            have z7 := c.v.c7
            have z8 := c.v.c8
            have hF' : q5.F = j2 :: upFrom n (n - (j2 + 1)) := by rw [hF]; exact upFrom_next n j2 hjn
            have g := Got.fit (k := 1) (m := 17) (κ := 0) (bs := base 1 n 1 17) (y := q5.y) (nx := 1) 0 h0 (by rw [hu]; simp only [room]; omega)
            go_wp2_with (go_at_call 11; refine (c.ok (Z := 1) (κ := 0) PA.out (by omega) rfl (by omega) hF' g (by omega)).mono ?_; rintro e w6 ⟨st6, s6, σ6, rfl, h61, h62, h63, c6, o6⟩)
            go_roundw
            case rel =>
              refine ⟨j2 + 1, s6, σ6, q5.made j2 (upFrom n (n - (j2 + 1))) ⟨upd q5.y.ck 0 ⟨1, 0, (q5.y.ck 0).us + room 0, (q5.y.ck 0).sp⟩, q5.y.op⟩ (base 1 n 1 17 0 + (q5.y.ck 0).us) 0 0 ((1 : Nat) : Int) false, by go_num, by omega, by omega, by omega, rfl, h0, ?_, by omega, c6⟩
              show (upd q5.y.ck 0 ⟨1, 0, (q5.y.ck 0).us + room 0, (q5.y.ck 0).sp⟩ 0).us = _
              rw [upd_same]
              simp only [room]
              omega
            case measure => simp [intOf]; omega
          · have hj5' : ¬ (j2 : Int) < 5 := by omega
            have b9 := c.b
            clear c
            go_wp2_with (go_at_call 18; refine (adone_nobody _).mono ?_; rintro e w7 ⟨rfl, b7⟩)
            go_ret
            exact ⟨rfl, grow b9 b7⟩
        · have hjn' : ¬ (j2 : Int) < (n : Int) := by omega
          have b9 := c.b
          clear c
          go_wp2_with (go_at_call 18; refine (adone_nobody _).mono ?_; rintro e w7 ⟨rfl, b7⟩)
          go_ret
          exact ⟨rfl, grow b9 b7⟩

end Go.Proofs.Ytemembcefplgcaa
