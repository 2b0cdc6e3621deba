/- LayoutPlaces answers true for every arena, and leaves what was in memory. -/
import Derived.Test.YtcdeicbbaidjkaaLayRef
import Derived.Test.YtcdeicbbaidjkaaLayAwake
namespace Go.Proofs.Ytcdeicbbaidjkaa
open Go.RowKit

theorem Small.len {t s k n : Nat} {g p r : Int} (h : Small t s k n g p r) : 1 ≤ arenaLen t s k n ∧ arenaLen t s k n ≤ 4000 := by
  have := Nat.mul_le_mul h.k1 h.n1
  obtain ⟨t0, t1, s0, s1, k0, k1, n0, n1, g0, g1, p0, p1, r0, r1⟩ := h
  unfold arenaLen
  omega

set_option maxRecDepth 20000 in
set_option maxHeartbeats 4000000 in
theorem layoutPlaces_any (t s k n g p r : Int) (w : World) :
    Calls Try.prog 4 #[.agg #[.int .i64 t, .int .i64 s, .int .i64 k, .int .i64 n, .int .i64 g, .int .i64 p, .int .i64 r]] w fun e w' => e = .returned (.bool true) ∧ Below w.heap.size w w' := by
  obtain ⟨t', s', k', n', g', p', r', hs, hcfg⟩ := config_any t s k n g p r
  have HC : Hid (∀ w : World, Calls Try.prog 12 #[.agg #[.int .i64 t, .int .i64 s, .int .i64 k, .int .i64 n, .int .i64 g, .int .i64 p, .int .i64 r]] w fun e w' => e = .returned (.agg #[.int .i64 t', .int .i64 s', .int .i64 k', .int .i64 n', .int .i64 g', .int .i64 p', .int .i64 r']) ∧ Below w.heap.size w w') := hcfg
  clear hcfg
  have hA := hs.good.arena
  have hG := hs.good
  have hn : (1 : Int) ≤ (n' : Int) := by have := hs.n0; omega
  have hw := hs.good.words
  obtain ⟨len, hlen⟩ : ∃ len, len = arenaLen t' s' k' n' := ⟨_, rfl⟩
  have hl := hs.len
  rw [← hlen] at hl
  obtain ⟨hl1, hl2⟩ := hl
  have hl1' : (1 : Int) ≤ (len : Int) := by omega
  have hl2' : (len : Int) ≤ 4000 := by omega
  have ht := hs.t1
  have hs' := hs.s1
  have hk' := hs.k1
  have hn' := hs.n1
  have HL : Hid (len = arenaLen t' s' k' n') := hlen
  clear hlen hs
  have HK : Hid (∀ (a K I X : Int), a ≤ 4000 → KindIs t' s' k' n' a K I X → ∀ w : World, Calls Try.prog 14 #[.agg #[.int .i64 t', .int .i64 s', .int .i64 k', .int .i64 n', .int .i64 g', .int .i64 p', .int .i64 r'], .int .i64 a] w fun e w' => e = .returned (.tuple #[.int .i64 K, .int .i64 I, .int .i64 X]) ∧ Below w.heap.size w w') :=
    fun a K I X ha hK w => rkind_is g' p' r' w hA hn (m := ((k' * n' : Nat) : Int)) (by simp) (by omega) (by omega) (by omega) hK
  go_enter Try.func4, Try.ntmps4
  go_wp2_with (first
    | (go_at_call 12; refine (HC.out _).mono ?_; rintro e w1 ⟨rfl, b1⟩)
    | (go_at_call 13; refine (llen_good hG _).mono ?_; rintro e w2 ⟨rfl, b2⟩; rw [← HL.out])
    | (go_at_call 9; refine (awake04_any _).mono ?_; rintro e w3 ⟨rfl, b3⟩))
  have c3 := (CfgAt.new.grown b2).grown b3
  have B3 : Below w.heap.size w w3 := grow (grow (grow_alloc (grow (grow_alloc (Below.refl _ _) _) b1) _) b2) b3
  clear b1 b2 b3
  go_loopw [5] (fun i wr => ∃ a : Nat, a ≤ len ∧ i = .int .i64 a ∧ CfgAt wr w1.heap.size t' s' k' n' g' p' r' ∧ Below w.heap.size w wr) (fun i _ => len - (intOf i).toNat)
  case atStart => exact ⟨0, by omega, rfl, c3, B3⟩
  case round =>
    clear c3 B3
    obtain ⟨a, ha, rfl, hc, hb⟩ := hrel
    have e0 := hc.c0
    have e1 := hc.c1
    have e2 := hc.c2
    have e3 := hc.c3
    have e4 := hc.c4
    have e5 := hc.c5
    have e6 := hc.c6
    obtain ⟨K, I, X, hK⟩ := KindIs.some hA hn (a : Int)
    have hKc := HK.out a K I X (by omega) hK
    have HKc : Hid (∀ w : World, Calls Try.prog 14 #[.agg #[.int .i64 t', .int .i64 s', .int .i64 k', .int .i64 n', .int .i64 g', .int .i64 p', .int .i64 r'], .int .i64 a] w fun e w' => e = .returned (.tuple #[.int .i64 K, .int .i64 I, .int .i64 X]) ∧ Below w.heap.size w w') := hKc
    clear hKc
    by_cases hlt : a < len
    · have hlt' : (a : Int) < (len : Int) := by omega
      cases hK with
      | low h => exfalso; omega
      | high h => exfalso; have := HL.out; unfold arenaLen at this; have e : ((k' * n' : Nat) : Int) = (k' : Int) * (n' : Int) := by simp
                  omega
      | epoch h =>
        obtain rfl : a = 0 := by omega
        clear h
        go_wp2_with (first
          | (go_at_call 14; refine (HKc.out _).mono ?_; rintro e w4 ⟨rfl, b4⟩; have c4 := hc.grown b4; have d0 := c4.c0; have d1 := c4.c1; have d2 := c4.c2; have d3 := c4.c3; have d4 := c4.c4; have d5 := c4.c5; have d6 := c4.c6)
          | (go_at_call 15; refine (lepoch_any _).mono ?_; rintro e w5 ⟨rfl, rfl⟩))
        go_roundw
        case rel => exact ⟨0 + 1, by omega, by go_num, c4, grow hb b4⟩
        case measure => simp [intOf]; omega
      | top h =>
        obtain rfl : a = 1 := by omega
        clear h
        go_wp2_with (first
          | (go_at_call 14; refine (HKc.out _).mono ?_; rintro e w4 ⟨rfl, b4⟩; have c4 := hc.grown b4; have d0 := c4.c0; have d1 := c4.c1; have d2 := c4.c2; have d3 := c4.c3; have d4 := c4.c4; have d5 := c4.c5; have d6 := c4.c6)
          | (go_at_call 16; refine (ltop_any _).mono ?_; rintro e w5 ⟨rfl, rfl⟩))
        go_roundw
        case rel => exact ⟨1 + 1, by omega, by go_num, c4, grow hb b4⟩
        case measure => simp [intOf]; omega
      | opens i i0 i1 h =>
        have hd : 2 + I = (a : Int) := by omega
        clear h
        go_wp2_with (first
          | (go_at_call 14; refine (HKc.out _).mono ?_; rintro e w4 ⟨rfl, b4⟩; have c4 := hc.grown b4; have d0 := c4.c0; have d1 := c4.c1; have d2 := c4.c2; have d3 := c4.c3; have d4 := c4.c4; have d5 := c4.c5; have d6 := c4.c6)
          | (go_at_call 17; refine (lopen_any _ _ i0 (by omega)).mono ?_; rintro e w5 ⟨rfl, rfl⟩))
        go_roundw
        case rel => exact ⟨a + 1, by omega, by go_num, c4, grow hb b4⟩
        case measure => simp [intOf]; omega
      | pin i i0 i1 h =>
        have hd : 6 + I = (a : Int) := by omega
        clear h
        go_wp2_with (first
          | (go_at_call 14; refine (HKc.out _).mono ?_; rintro e w4 ⟨rfl, b4⟩; have c4 := hc.grown b4; have d0 := c4.c0; have d1 := c4.c1; have d2 := c4.c2; have d3 := c4.c3; have d4 := c4.c4; have d5 := c4.c5; have d6 := c4.c6)
          | (go_at_call 18; refine (lpin_any _ _ i0 (by omega)).mono ?_; rintro e w5 ⟨rfl, rfl⟩))
        go_roundw
        case rel => exact ⟨a + 1, by omega, by go_num, c4, grow hb b4⟩
        case measure => simp [intOf]; omega
      | slot i i0 i1 h =>
        have hd : 6 + (t' : Int) + I * 2 = (a : Int) := by omega
        clear h
        go_wp2_with (first
          | (go_at_call 14; refine (HKc.out _).mono ?_; rintro e w4 ⟨rfl, b4⟩; have c4 := hc.grown b4; have d0 := c4.c0; have d1 := c4.c1; have d2 := c4.c2; have d3 := c4.c3; have d4 := c4.c4; have d5 := c4.c5; have d6 := c4.c6)
          | (go_at_call 19; refine (lslot_any _ _ _ _ _ _ _ _ _ hA i0 (by omega)).mono ?_; rintro e w5 ⟨rfl, b5⟩))
        go_roundw
        case rel => exact ⟨a + 1, by omega, by go_num, c4.grown b5, grow (grow hb b4) b5⟩
        case measure => simp [intOf]; omega
      | link i i0 i1 h =>
        have hd : 6 + (t' : Int) + I * 2 + 1 = (a : Int) := by omega
        clear h
        go_wp2_with (first
          | (go_at_call 14; refine (HKc.out _).mono ?_; rintro e w4 ⟨rfl, b4⟩; have c4 := hc.grown b4; have d0 := c4.c0; have d1 := c4.c1; have d2 := c4.c2; have d3 := c4.c3; have d4 := c4.c4; have d5 := c4.c5; have d6 := c4.c6)
          | (go_at_call 19; refine (lslot_any _ _ _ _ _ _ _ _ _ hA i0 (by omega)).mono ?_; rintro e w5 ⟨rfl, b5⟩))
        go_roundw
        case rel => exact ⟨a + 1, by omega, by go_num, c4.grown b5, grow (grow hb b4) b5⟩
        case measure => simp [intOf]; omega
      | chunk i i0 i1 h =>
        have hd : 6 + (t' : Int) + s' * 2 + I * 3 = (a : Int) := by omega
        clear h
        go_wp2_with (first
          | (go_at_call 14; refine (HKc.out _).mono ?_; rintro e w4 ⟨rfl, b4⟩; have c4 := hc.grown b4; have d0 := c4.c0; have d1 := c4.c1; have d2 := c4.c2; have d3 := c4.c3; have d4 := c4.c4; have d5 := c4.c5; have d6 := c4.c6)
          | (go_at_call 20; refine (lchunk_any _ _ _ _ _ _ _ _ _ hA i0 (by omega)).mono ?_; rintro e w5 ⟨rfl, b5⟩))
        go_roundw
        case rel => exact ⟨a + 1, by omega, by go_num, c4.grown b5, grow (grow hb b4) b5⟩
        case measure => simp [intOf]; omega
      | live i i0 i1 h =>
        have hd : 6 + (t' : Int) + s' * 2 + I * 3 + 1 = (a : Int) := by omega
        clear h
        go_wp2_with (first
          | (go_at_call 14; refine (HKc.out _).mono ?_; rintro e w4 ⟨rfl, b4⟩; have c4 := hc.grown b4; have d0 := c4.c0; have d1 := c4.c1; have d2 := c4.c2; have d3 := c4.c3; have d4 := c4.c4; have d5 := c4.c5; have d6 := c4.c6)
          | (go_at_call 20; refine (lchunk_any _ _ _ _ _ _ _ _ _ hA i0 (by omega)).mono ?_; rintro e w5 ⟨rfl, b5⟩))
        go_roundw
        case rel => exact ⟨a + 1, by omega, by go_num, c4.grown b5, grow (grow hb b4) b5⟩
        case measure => simp [intOf]; omega
      | when i i0 i1 h =>
        have hd : 6 + (t' : Int) + s' * 2 + I * 3 + 2 = (a : Int) := by omega
        clear h
        go_wp2_with (first
          | (go_at_call 14; refine (HKc.out _).mono ?_; rintro e w4 ⟨rfl, b4⟩; have c4 := hc.grown b4; have d0 := c4.c0; have d1 := c4.c1; have d2 := c4.c2; have d3 := c4.c3; have d4 := c4.c4; have d5 := c4.c5; have d6 := c4.c6)
          | (go_at_call 20; refine (lchunk_any _ _ _ _ _ _ _ _ _ hA i0 (by omega)).mono ?_; rintro e w5 ⟨rfl, b5⟩))
        go_roundw
        case rel => exact ⟨a + 1, by omega, by go_num, c4.grown b5, grow (grow hb b4) b5⟩
        case measure => simp [intOf]; omega
      | word i x i0 i1 x0 x1 h =>
        obtain ⟨m, hm⟩ : ∃ m : Int, I * (n' : Int) = m := ⟨_, rfl⟩
        rw [hm] at h
        have m0 : 0 ≤ m := by rw [← hm]; exact Int.mul_nonneg i0 (by omega)
        have HM : Hid (I * (n' : Int) = m) := hm
        clear hm
        have hd : 6 + (t' : Int) + s' * 2 + k' * 3 + m + X = (a : Int) := by omega
        clear h
        go_wp2_with (first
          | (go_at_call 14; refine (HKc.out _).mono ?_; rintro e w4 ⟨rfl, b4⟩; have c4 := hc.grown b4; have d0 := c4.c0; have d1 := c4.c1; have d2 := c4.c2; have d3 := c4.c3; have d4 := c4.c4; have d5 := c4.c5; have d6 := c4.c6)
          | (go_at_call 21; refine (lbase_any _ _ _ _ _ _ _ _ _ _ hA HM.out m0 (by omega)).mono ?_; rintro e w5 ⟨rfl, b5⟩))
        go_roundw
        case rel => exact ⟨a + 1, by omega, by go_num, c4.grown b5, grow (grow hb b4) b5⟩
        case measure => simp [intOf]; omega
    · have hlt' : ¬ (a : Int) < (len : Int) := by omega
      have hh : KindIs t' s' k' n' (len : Int) (-1) 0 0 := .high (by have := HL.out; unfold arenaLen at this; have e : ((k' * n' : Nat) : Int) = (k' : Int) * (n' : Int) := by simp
                                                                     omega)
      have HKe : Hid (∀ w : World, Calls Try.prog 14 #[.agg #[.int .i64 t', .int .i64 s', .int .i64 k', .int .i64 n', .int .i64 g', .int .i64 p', .int .i64 r'], .int .i64 len] w fun e w' => e = .returned (.tuple #[.int .i64 (-1), .int .i64 0, .int .i64 0]) ∧ Below w.heap.size w w') := HK.out _ _ _ _ (by omega) hh
      clear hK hh HKc
      go_wp2_with (go_at_call 14; refine (HKe.out _).mono ?_; rintro e w4 ⟨rfl, b4⟩)
      go_ret
      exact ⟨rfl, grow hb b4⟩

end Go.Proofs.Ytcdeicbbaidjkaa
