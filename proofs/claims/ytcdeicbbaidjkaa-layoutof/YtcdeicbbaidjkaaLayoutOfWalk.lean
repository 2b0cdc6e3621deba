/- LayoutOf answers true for every arena and every address, and leaves what was in memory. -/
import Derived.Test.YtcdeicbbaidjkaaLayRef
import Derived.Test.YtcdeicbbaidjkaaLayAwake
namespace Go.Proofs.Ytcdeicbbaidjkaa
open Go.RowKit

/-- the chunk in which a thing of a kind is -/
def inChunk (K I : Int) : Int := if K = 9 then I else -1

theorem lof_is {t s k n a K I X : Int} (g p r : Int) (w : World) (h : Arena t s k n) (hn : 1 ≤ n) (ha2 : a ≤ 9223372036854775807) (hK : KindIs t s k n a K I X) :
    Calls Try.prog 22 #[.agg #[.int .i64 t, .int .i64 s, .int .i64 k, .int .i64 n, .int .i64 g, .int .i64 p, .int .i64 r], .int .i64 a] w fun e w' => e = .returned (.int .i64 (inChunk K I)) ∧ Below w.heap.size w w' := by
  obtain ⟨t0, t1, s0, s1, k0, k1, n0, n1⟩ := h
  have hA : Arena t s k n := ⟨t0, t1, s0, s1, k0, k1, n0, n1⟩
  have hk := Int.mul_nonneg k0 n0
  cases hK with
  | word i x i0 i1 x0 x1 e =>
    have hi := Int.mul_nonneg i0 n0
    exact lof_in t s k n g p r a I w hA hn (by omega) ha2 (by rw [show a - (6 + t + s * 2 + k * 3) = X + I * n by omega, Int.add_mul_ediv_right _ _ (by omega), Int.ediv_eq_zero_of_lt x0 x1]; omega) i1
  | high e =>
    exact lof_high t s k n g p r a _ w hA hn (by omega) ha2 rfl (Int.le_ediv_of_mul_le (by omega) (by omega))
  | _ => exact lof_low t s k n g p r a w hA (by omega)

set_option maxHeartbeats 1000000 in
theorem layoutOf_any (t s k n g p r a : Int) (w : World) (ha : Fit a) :
    Calls Try.prog 5 #[.agg #[.int .i64 t, .int .i64 s, .int .i64 k, .int .i64 n, .int .i64 g, .int .i64 p, .int .i64 r], .int .i64 a] w fun e w' => e = .returned (.bool true) ∧ Below w.heap.size w w' := by
  obtain ⟨t', s', k', n', g', p', r', hs, hcfg⟩ := config_any t s k n g p r
  have hA := hs.good.arena
  have hn : (1 : Int) ≤ (n' : Int) := by have := hs.n0; omega
  have hw := hs.good.words
  obtain ⟨K, I, X, hK⟩ := KindIs.some hA hn a
  have HC : Hid (∀ w : World, Calls Try.prog 12 #[.agg #[.int .i64 t, .int .i64 s, .int .i64 k, .int .i64 n, .int .i64 g, .int .i64 p, .int .i64 r]] w fun e w' => e = .returned (.agg #[.int .i64 t', .int .i64 s', .int .i64 k', .int .i64 n', .int .i64 g', .int .i64 p', .int .i64 r']) ∧ Below w.heap.size w w') := hcfg
  clear hcfg
  have hk := fun w => rkind_is g' p' r' w hA hn (m := ((k' * n' : Nat) : Int)) (by simp) (by omega) (by omega) ha.2 hK
  have hof := fun w => lof_is g' p' r' w hA hn ha.2 hK
  have HK : Hid (∀ w : World, Calls Try.prog 14 #[.agg #[.int .i64 t', .int .i64 s', .int .i64 k', .int .i64 n', .int .i64 g', .int .i64 p', .int .i64 r'], .int .i64 a] w fun e w' => e = .returned (.tuple #[.int .i64 K, .int .i64 I, .int .i64 X]) ∧ Below w.heap.size w w') := hk
  have HO : Hid (∀ w : World, Calls Try.prog 22 #[.agg #[.int .i64 t', .int .i64 s', .int .i64 k', .int .i64 n', .int .i64 g', .int .i64 p', .int .i64 r'], .int .i64 a] w fun e w' => e = .returned (.int .i64 (inChunk K I)) ∧ Below w.heap.size w w') := hof
  clear hk hof hK hw hA hs ha
  by_cases h9 : K = 9
  · have hi : inChunk K I = I := by unfold inChunk; rw [if_pos h9]
    rw [hi] at HO
    subst h9
    clear hi
    go_enter Try.func5, Try.ntmps5
    go_wp2_with (first
      | (go_at_call 12; refine (HC.out _).mono ?_; rintro e w1 ⟨rfl, b1⟩)
      | (go_at_call 14; refine (HK.out _).mono ?_; rintro e w2 ⟨rfl, b2⟩; have c2 := CfgAt.new.grown b2)
      | (go_at_call 9; refine (awake04_any _).mono ?_; rintro e w3 ⟨rfl, b3⟩; have c3 := c2.grown b3; have e0 := c3.c0; have e1 := c3.c1; have e2 := c3.c2; have e3 := c3.c3; have e4 := c3.c4; have e5 := c3.c5; have e6 := c3.c6)
      | (go_at_call 22; refine (HO.out _).mono ?_; rintro e w4 ⟨rfl, b4⟩))
    go_ret
    exact ⟨rfl, grow (grow (grow (grow_alloc (grow (grow_alloc (Below.refl _ _) _) b1) _) b2) b3) b4⟩
  · have hi : inChunk K I = -1 := by unfold inChunk; rw [if_neg h9]
    rw [hi] at HO
    clear hi
    go_enter Try.func5, Try.ntmps5
    go_wp2_with (first
      | (go_at_call 12; refine (HC.out _).mono ?_; rintro e w1 ⟨rfl, b1⟩)
      | (go_at_call 14; refine (HK.out _).mono ?_; rintro e w2 ⟨rfl, b2⟩; have c2 := CfgAt.new.grown b2)
      | (go_at_call 9; refine (awake04_any _).mono ?_; rintro e w3 ⟨rfl, b3⟩; have c3 := c2.grown b3; have e0 := c3.c0; have e1 := c3.c1; have e2 := c3.c2; have e3 := c3.c3; have e4 := c3.c4; have e5 := c3.c5; have e6 := c3.c6)
      | (go_at_call 22; refine (HO.out _).mono ?_; rintro e w4 ⟨rfl, b4⟩))
    go_ret
    exact ⟨rfl, grow (grow (grow (grow_alloc (grow (grow_alloc (Below.refl _ _) _) b1) _) b2) b3) b4⟩

end Go.Proofs.Ytcdeicbbaidjkaa
