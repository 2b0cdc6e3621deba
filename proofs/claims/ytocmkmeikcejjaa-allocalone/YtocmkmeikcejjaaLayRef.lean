/- What the document's own account of an arena comes to (package footlockerref04), for every number; what was in memory stays. -/
import Derived.Test.YtocmkmeikcejjaaLay
namespace Go.Proofs.Ytocmkmeikcejjaa
open Go.RowKit

theorem lof_in (t s k n g p r a q : Int) (w : World) (h : Arena t s k n) (hn : 1 ≤ n) (ha : 6 + t + s * 2 + k * 3 ≤ a) (ha2 : a ≤ 9223372036854775807) (hq : (a - (6 + t + s * 2 + k * 3)) / n = q) (hk : q < k) :
    Calls Try.prog 21 #[.agg #[.int .i64 t, .int .i64 s, .int .i64 k, .int .i64 n, .int .i64 g, .int .i64 p, .int .i64 r], .int .i64 a] w fun e w' => e = .returned (.int .i64 q) ∧ Below w.heap.size w w' := by
  have hA := h
  obtain ⟨t0, t1, s0, s1, k0, k1, n0, n1⟩ := h
  have q0 : 0 ≤ q := by rw [← hq]; exact Int.ediv_nonneg (by omega) (by omega)
  go_enter Try.func21, Try.ntmps21
  go_wp2_with (go_at_call 40; refine (lbase_any _ _ _ _ _ _ _ 0 0 _ hA (by simp) (by omega) (by omega)).mono ?_; rintro e w1 ⟨rfl, b1⟩; have hc := CfgAt.new.grown b1; have e2 := hc.c2; have e3 := hc.c3)
  go_ret
  exact ⟨rfl, grow (grow_alloc (Below.refl _ _) _) b1⟩

theorem lof_low (t s k n g p r a : Int) (w : World) (h : Arena t s k n) (ha : a < 6 + t + s * 2 + k * 3) :
    Calls Try.prog 21 #[.agg #[.int .i64 t, .int .i64 s, .int .i64 k, .int .i64 n, .int .i64 g, .int .i64 p, .int .i64 r], .int .i64 a] w fun e w' => e = .returned (.int .i64 (-1)) ∧ Below w.heap.size w w' := by
  have hA := h
  obtain ⟨t0, t1, s0, s1, k0, k1, n0, n1⟩ := h
  go_enter Try.func21, Try.ntmps21
  go_wp2_with (go_at_call 40; refine (lbase_any _ _ _ _ _ _ _ 0 0 _ hA (by simp) (by omega) (by omega)).mono ?_; rintro e w1 ⟨rfl, b1⟩; have hc := CfgAt.new.grown b1; have e2 := hc.c2; have e3 := hc.c3)
  go_ret
  exact ⟨rfl, grow (grow_alloc (Below.refl _ _) _) b1⟩

theorem lof_high (t s k n g p r a q : Int) (w : World) (h : Arena t s k n) (hn : 1 ≤ n) (ha : 6 + t + s * 2 + k * 3 ≤ a) (ha2 : a ≤ 9223372036854775807) (hq : (a - (6 + t + s * 2 + k * 3)) / n = q) (hk : k ≤ q) :
    Calls Try.prog 21 #[.agg #[.int .i64 t, .int .i64 s, .int .i64 k, .int .i64 n, .int .i64 g, .int .i64 p, .int .i64 r], .int .i64 a] w fun e w' => e = .returned (.int .i64 (-1)) ∧ Below w.heap.size w w' := by
  have hA := h
  obtain ⟨t0, t1, s0, s1, k0, k1, n0, n1⟩ := h
  go_enter Try.func21, Try.ntmps21
  go_wp2_with (go_at_call 40; refine (lbase_any _ _ _ _ _ _ _ 0 0 _ hA (by simp) (by omega) (by omega)).mono ?_; rintro e w1 ⟨rfl, b1⟩; have hc := CfgAt.new.grown b1; have e2 := hc.c2; have e3 := hc.c3)
  go_ret
  exact ⟨rfl, grow (grow_alloc (Below.refl _ _) _) b1⟩

/-- what stands at the address a: its kind, which one, and which word of it -/
inductive KindIs (t s k n a : Int) : Int → Int → Int → Prop where
  | low : a < 0 → KindIs t s k n a (-1) 0 0
  | epoch : a = 0 → KindIs t s k n a 0 0 0
  | top : a = 1 → KindIs t s k n a 1 0 0
  | opens (i : Int) : 0 ≤ i → i < 4 → a = 2 + i → KindIs t s k n a 2 i 0
  | pin (i : Int) : 0 ≤ i → i < t → a = 6 + i → KindIs t s k n a 3 i 0
  | slot (i : Int) : 0 ≤ i → i < s → a = 6 + t + i * 2 → KindIs t s k n a 4 i 0
  | link (i : Int) : 0 ≤ i → i < s → a = 6 + t + i * 2 + 1 → KindIs t s k n a 5 i 0
  | chunk (i : Int) : 0 ≤ i → i < k → a = 6 + t + s * 2 + i * 3 → KindIs t s k n a 6 i 0
  | live (i : Int) : 0 ≤ i → i < k → a = 6 + t + s * 2 + i * 3 + 1 → KindIs t s k n a 7 i 0
  | when (i : Int) : 0 ≤ i → i < k → a = 6 + t + s * 2 + i * 3 + 2 → KindIs t s k n a 8 i 0
  | word (i x : Int) : 0 ≤ i → i < k → 0 ≤ x → x < n → a = 6 + t + s * 2 + k * 3 + i * n + x → KindIs t s k n a 9 i x
  | high : 6 + t + s * 2 + k * 3 + k * n ≤ a → KindIs t s k n a (-1) 0 0

/-- the words of what stands in an arena, in their order -/
def rowAt (t s k m : Int) (j : Nat) : Int := [1, 1, 4, t, s * 2, k * 3, m].getD j 0
/-- how many words stand ahead of the j-th of these -/
def rowUpto (t s k m : Int) (j : Nat) : Int := [0, 1, 2, 6, 6 + t, 6 + t + s * 2, 6 + t + s * 2 + k * 3, 6 + t + s * 2 + k * 3 + m].getD j 0

theorem rowUpto_succ (t s k m : Int) (j : Nat) (h : j < 7) : rowUpto t s k m (j + 1) = rowUpto t s k m j + rowAt t s k m j := by
  match j, h with
  | 0, _ | 1, _ | 2, _ | 3, _ | 4, _ | 5, _ | 6, _ => simp [rowUpto, rowAt]

theorem rowAt_bd {t s k n m : Int} (h : Arena t s k n) (m0 : 0 ≤ m) (m1 : m ≤ 1000000) (j : Nat) : 0 ≤ rowAt t s k m j ∧ rowAt t s k m j ≤ 1000000 := by
  obtain ⟨t0, t1, s0, s1, k0, k1, n0, n1⟩ := h
  match j with
  | 0 | 1 | 2 => simp [rowAt]
  | 3 | 4 | 5 | 6 => simp [rowAt]; omega
  | j + 7 => simp [rowAt]

/-- the rows as they lie in memory -/
theorem rows_cell {w : World} {t s k m : Int} {T : TypeId} (j : Nat) (h : j < 7) :
    (w.alloc (.cells #[.int .i64 1, .int .i64 1, .int .i64 4, .int .i64 t, .int .i64 (2 * s), .int .i64 (3 * k), .int .i64 m] T)).cell? ⟨w.heap.size, j, none⟩ = some (.int .i64 (rowAt t s k m j)) := by
  match j, h with
  | 0, _ | 1, _ | 2, _ | 3, _ | 4, _ | 5, _ | 6, _ => simp [rowAt, Int.mul_comm]

theorem ret_bool {a b : Bool} (h : a = b) : Ending.returned (.bool a) = .returned (.bool b) := by rw [h]

theorem mul_gap {i j n : Int} (hn : 0 ≤ n) (h : i < j) : i * n + n ≤ j * n := by
  have := Int.mul_le_mul_of_nonneg_right (show i + 1 ≤ j by omega) hn
  rw [Int.add_mul] at this
  omega

/-- at one address there is one thing -/
theorem KindIs.same {t s k n a K I X K' I' X' : Int} (hA : Arena t s k n) (h1 : KindIs t s k n a K I X) (h2 : KindIs t s k n a K' I' X') : K = K' ∧ I = I' ∧ X = X' := by
  obtain ⟨t0, t1, s0, s1, k0, k1, n0, n1⟩ := hA
  have hk := Int.mul_nonneg k0 n0
  cases h1 with
  | word i x i0 i1 x0 x1 e =>
    have := mul_gap n0 i1
    have := Int.mul_nonneg i0 n0
    cases h2 with
    | word j y j0 j1 y0 y1 e' =>
      rcases Int.lt_trichotomy I I' with h | h | h
      · have := mul_gap n0 h; omega
      · subst h; exact ⟨rfl, rfl, by omega⟩
      · have := mul_gap n0 h; omega
    | _ => omega
  | _ =>
    cases h2 with
    | word j y j0 j1 y0 y1 e' =>
      have := mul_gap n0 j1
      have := Int.mul_nonneg j0 n0
      omega
    | _ => omega

theorem KindIs.some {t s k n : Int} (hA : Arena t s k n) (hn : 1 ≤ n) (a : Int) : ∃ K I X, KindIs t s k n a K I X := by
  obtain ⟨t0, t1, s0, s1, k0, k1, n0, n1⟩ := hA
  by_cases h0 : a < 0
  · exact ⟨_, _, _, .low h0⟩
  by_cases h1 : a = 0
  · exact ⟨_, _, _, .epoch h1⟩
  by_cases h2 : a = 1
  · exact ⟨_, _, _, .top h2⟩
  by_cases h3 : a < 6
  · exact ⟨_, _, _, .opens (a - 2) (by omega) (by omega) (by omega)⟩
  by_cases h4 : a < 6 + t
  · exact ⟨_, _, _, .pin (a - 6) (by omega) (by omega) (by omega)⟩
  by_cases h5 : a < 6 + t + s * 2
  · by_cases h : (a - (6 + t)) % 2 = 0
    · exact ⟨_, _, _, .slot ((a - (6 + t)) / 2) (by omega) (by omega) (by omega)⟩
    · exact ⟨_, _, _, .link ((a - (6 + t)) / 2) (by omega) (by omega) (by omega)⟩
  by_cases h6 : a < 6 + t + s * 2 + k * 3
  · by_cases h : (a - (6 + t + s * 2)) % 3 = 0
    · exact ⟨_, _, _, .chunk ((a - (6 + t + s * 2)) / 3) (by omega) (by omega) (by omega)⟩
    · by_cases h' : (a - (6 + t + s * 2)) % 3 = 1
      · exact ⟨_, _, _, .live ((a - (6 + t + s * 2)) / 3) (by omega) (by omega) (by omega)⟩
      · exact ⟨_, _, _, .when ((a - (6 + t + s * 2)) / 3) (by omega) (by omega) (by omega)⟩
  by_cases h7 : a < 6 + t + s * 2 + k * 3 + k * n
  · obtain ⟨x, hx⟩ : ∃ x, x = a - (6 + t + s * 2 + k * 3) := ⟨_, rfl⟩
    have hd := Int.mul_ediv_add_emod x n
    have hr0 := Int.emod_nonneg x (b := n) (by omega)
    have hr1 := Int.emod_lt_of_pos x (b := n) (by omega)
    have hq0 : 0 ≤ x / n := Int.ediv_nonneg (by omega) (by omega)
    have hq1 : x / n < k := Int.ediv_lt_of_lt_mul (by omega) (by omega)
    exact ⟨_, _, _, .word _ _ hq0 hq1 hr0 hr1 (by rw [Int.mul_comm (x / n)]; omega)⟩
  · exact ⟨_, _, _, .high (by omega)⟩

/-- a list's numbers, by their places -/
def numAt (l : List Int) (i : Nat) : Int := l.getD i 0

/-- seven numbers that were just laid -/
theorem seven_cell {w : World} {a0 a1 a2 a3 a4 a5 a6 : Int} {T : TypeId} (j : Nat) (h : j < 7) :
    (w.alloc (.cells #[.int .i64 a0, .int .i64 a1, .int .i64 a2, .int .i64 a3, .int .i64 a4, .int .i64 a5, .int .i64 a6] T)).cell? ⟨w.heap.size, j, none⟩ = some (.int .i64 (numAt [a0, a1, a2, a3, a4, a5, a6] j)) := by
  match j, h with
  | 0, _ | 1, _ | 2, _ | 3, _ | 4, _ | 5, _ | 6, _ => simp [numAt]

/-- the first j numbers are within their limits -/
def winUpto (l lo hi : List Int) (j : Nat) : Prop := ∀ i, i < j → numAt lo i ≤ numAt l i ∧ numAt l i ≤ numAt hi i

theorem may_of {t s k n g p r : Int} (h : winUpto [t, s, k, n, g, p, r] [1, 1, 1, 17, 1, 0, 1] [8, 65536, 64, 256, 65535, 1000, 16] 7) : may t s k n g p r = true := by
  have h0 := h 0 (by omega)
  have h1 := h 1 (by omega)
  have h2 := h 2 (by omega)
  have h3 := h 3 (by omega)
  have h4 := h 4 (by omega)
  have h5 := h 5 (by omega)
  have h6 := h 6 (by omega)
  simp [numAt] at h0 h1 h2 h3 h4 h5 h6
  simp [may, win, h0, h1, h2, h3, h4, h5, h6]

theorem may_not {t s k n g p r : Int} (j : Nat) (hj : j < 7) (h : ¬ (numAt [1, 1, 1, 17, 1, 0, 1] j ≤ numAt [t, s, k, n, g, p, r] j ∧ numAt [t, s, k, n, g, p, r] j ≤ numAt [8, 65536, 64, 256, 65535, 1000, 16] j)) : may t s k n g p r = false := by
  cases e : may t s k n g p r with
  | false => rfl
  | true =>
    exfalso
    simp [may, win] at e
    match j, hj with
    | 0, _ | 1, _ | 2, _ | 3, _ | 4, _ | 5, _ | 6, _ => simp [numAt] at h; omega

theorem rclass_any (z : Int) (w : World) :
    Calls Try.prog 6 #[.int .i64 z] w fun e w' => e = .returned (.int .i64 (classOf z)) ∧ Below w.heap.size w w' := by
  by_cases h : z < 1
  · go_enter Try.func6, Try.ntmps6
    go_wp2
    go_ret
    exact ⟨ret_int (by simp [classOf, h]), grow_alloc (Below.refl _ _) _⟩
  · go_enter Try.func6, Try.ntmps6
    go_wp2
    go_loop [4] (fun i => i = .int .i64 0 ∨ (i = .int .i64 1 ∧ 2 < z) ∨ (i = .int .i64 2 ∧ 4 < z) ∨ (i = .int .i64 3 ∧ 8 < z) ∨ (i = .int .i64 4 ∧ 16 < z)) (fun i => 4 - (intOf i).toNat)
    case atStart => exact Or.inl rfl
    case round =>
      rcases hrel with rfl | ⟨rfl, hz⟩ | ⟨rfl, hz⟩ | ⟨rfl, hz⟩ | ⟨rfl, hz⟩
      · by_cases h2 : z ≤ 2
        · go_wp2
          go_ret
          exact ⟨ret_int (by simp [classOf, h, h2]), grow_alloc (Below.refl _ _) _⟩
        · go_wp2
          go_round
          case rel => exact Or.inr (Or.inl ⟨rfl, by omega⟩)
          case measure => simp [intOf]
      · by_cases h2 : z ≤ 4
        · go_wp2
          go_ret
          exact ⟨ret_int (by unfold classOf; simp [h2]; omega), grow_alloc (Below.refl _ _) _⟩
        · go_wp2
          go_round
          case rel => exact Or.inr (Or.inr (Or.inl ⟨rfl, by omega⟩))
          case measure => simp [intOf]
      · by_cases h2 : z ≤ 8
        · go_wp2
          go_ret
          exact ⟨ret_int (by unfold classOf; simp [h2]; omega), grow_alloc (Below.refl _ _) _⟩
        · go_wp2
          go_round
          case rel => exact Or.inr (Or.inr (Or.inr (Or.inl ⟨rfl, by omega⟩)))
          case measure => simp [intOf]
      · by_cases h2 : z ≤ 16
        · go_wp2
          go_ret
          exact ⟨ret_int (by unfold classOf; simp [h2]; omega), grow_alloc (Below.refl _ _) _⟩
        · go_wp2
          go_round
          case rel => exact Or.inr (Or.inr (Or.inr (Or.inr ⟨rfl, by omega⟩)))
          case measure => simp [intOf]
      · go_wp2
        go_ret
        exact ⟨ret_int (by unfold classOf; simp; omega), grow_alloc (Below.refl _ _) _⟩

theorem rroom_any (c : Int) (w : World) (h0 : 0 ≤ c) (h1 : c ≤ 3) :
    Calls Try.prog 8 #[.int .i64 c] w fun e w' => e = .returned (.int .i64 (2 * 2 ^ c.toNat + 1)) ∧ Below w.heap.size w w' := by
  have hcs : c = 0 ∨ c = 1 ∨ c = 2 ∨ c = 3 := by omega
  rcases hcs with rfl | rfl | rfl | rfl
  all_goals
    go_enter Try.func8, Try.ntmps8
    go_wp2
    go_ret
    exact ⟨rfl, grow_alloc (Below.refl _ _) _⟩

end Go.Proofs.Ytocmkmeikcejjaa
