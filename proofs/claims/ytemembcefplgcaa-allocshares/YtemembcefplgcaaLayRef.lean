/- What the document's own account of an arena comes to (package footlockerref04), for every number; what was in memory stays. -/
import Derived.Test.YtemembcefplgcaaLay
namespace Go.Proofs.Ytemembcefplgcaa
open Go.RowKit

theorem lof_in (t s k n g p r a q : Int) (w : World) (h : Arena t s k n) (hn : 1 ≤ n) (ha : 6 + t + s * 2 + k * 3 ≤ a) (ha2 : a ≤ 9223372036854775807) (hq : (a - (6 + t + s * 2 + k * 3)) / n = q) (hk : q < k) :
    Calls Try.prog 24 #[.agg #[.int .i64 t, .int .i64 s, .int .i64 k, .int .i64 n, .int .i64 g, .int .i64 p, .int .i64 r], .int .i64 a] w fun e w' => e = .returned (.int .i64 q) ∧ Below w.heap.size w w' := by
  have hA := h
  obtain ⟨t0, t1, s0, s1, k0, k1, n0, n1⟩ := h
  have q0 : 0 ≤ q := by rw [← hq]; exact Int.ediv_nonneg (by omega) (by omega)
  go_enter Try.func24, Try.ntmps24
  go_wp2_with (go_at_call 40; refine (lbase_any _ _ _ _ _ _ _ 0 0 _ hA (by simp) (by omega) (by omega)).mono ?_; rintro e w1 ⟨rfl, b1⟩; have hc := CfgAt.new.grown b1; have e2 := hc.c2; have e3 := hc.c3)
  go_ret
  exact ⟨rfl, grow (grow_alloc (Below.refl _ _) _) b1⟩

theorem lof_low (t s k n g p r a : Int) (w : World) (h : Arena t s k n) (ha : a < 6 + t + s * 2 + k * 3) :
    Calls Try.prog 24 #[.agg #[.int .i64 t, .int .i64 s, .int .i64 k, .int .i64 n, .int .i64 g, .int .i64 p, .int .i64 r], .int .i64 a] w fun e w' => e = .returned (.int .i64 (-1)) ∧ Below w.heap.size w w' := by
  have hA := h
  obtain ⟨t0, t1, s0, s1, k0, k1, n0, n1⟩ := h
  go_enter Try.func24, Try.ntmps24
  go_wp2_with (go_at_call 40; refine (lbase_any _ _ _ _ _ _ _ 0 0 _ hA (by simp) (by omega) (by omega)).mono ?_; rintro e w1 ⟨rfl, b1⟩; have hc := CfgAt.new.grown b1; have e2 := hc.c2; have e3 := hc.c3)
  go_ret
  exact ⟨rfl, grow (grow_alloc (Below.refl _ _) _) b1⟩

theorem lof_high (t s k n g p r a q : Int) (w : World) (h : Arena t s k n) (hn : 1 ≤ n) (ha : 6 + t + s * 2 + k * 3 ≤ a) (ha2 : a ≤ 9223372036854775807) (hq : (a - (6 + t + s * 2 + k * 3)) / n = q) (hk : k ≤ q) :
    Calls Try.prog 24 #[.agg #[.int .i64 t, .int .i64 s, .int .i64 k, .int .i64 n, .int .i64 g, .int .i64 p, .int .i64 r], .int .i64 a] w fun e w' => e = .returned (.int .i64 (-1)) ∧ Below w.heap.size w w' := by
  have hA := h
  obtain ⟨t0, t1, s0, s1, k0, k1, n0, n1⟩ := h
  go_enter Try.func24, Try.ntmps24
  go_wp2_with (go_at_call 40; refine (lbase_any _ _ _ _ _ _ _ 0 0 _ hA (by simp) (by omega) (by omega)).mono ?_; rintro e w1 ⟨rfl, b1⟩; have hc := CfgAt.new.grown b1; have e2 := hc.c2; have e3 := hc.c3)
  go_ret
  exact ⟨rfl, grow (grow_alloc (Below.refl _ _) _) b1⟩

/-- what stands at the address a: its kind, which one, and which word of it -/
inductive KindIs (t s k n a : Int) : Int → Int → Int → Prop where
  | low : a < 0 → KindIs t s k n a (-1) 0 0
  | epoch : a = 0 → KindIs t s k n a 0 0 0
  | top : a = 1 → KindIs t s k n a 1 0 0
  | opens (i : Int) : 0 ≤ i → i < 4 → a = 2 + i → KindIs t s k n a 2 i 0
  | pin (i : Int) : 0 ≤ i → i < t → a = 6 + i → KindIs t s k n a 3 i 0
  | slot (i : Int) : 0 ≤ i → i < s → a = 6 + t + i * 2 → KindIs t s k n a 4 i 0
  | link (i : Int) : 0 ≤ i → i < s → a = 6 + t + i * 2 + 1 → KindIs t s k n a 5 i 0
  | chunk (i : Int) : 0 ≤ i → i < k → a = 6 + t + s * 2 + i * 3 → KindIs t s k n a 6 i 0
  | live (i : Int) : 0 ≤ i → i < k → a = 6 + t + s * 2 + i * 3 + 1 → KindIs t s k n a 7 i 0
  | when (i : Int) : 0 ≤ i → i < k → a = 6 + t + s * 2 + i * 3 + 2 → KindIs t s k n a 8 i 0
  | word (i x : Int) : 0 ≤ i → i < k → 0 ≤ x → x < n → a = 6 + t + s * 2 + k * 3 + i * n + x → KindIs t s k n a 9 i x
  | high : 6 + t + s * 2 + k * 3 + k * n ≤ a → KindIs t s k n a (-1) 0 0

/-- the words of what stands in an arena, in their order -/
def rowAt (t s k m : Int) (j : Nat) : Int := [1, 1, 4, t, s * 2, k * 3, m].getD j 0
/-- how many words stand ahead of the j-th of these -/
def rowUpto (t s k m : Int) (j : Nat) : Int := [0, 1, 2, 6, 6 + t, 6 + t + s * 2, 6 + t + s * 2 + k * 3, 6 + t + s * 2 + k * 3 + m].getD j 0

theorem rowUpto_succ (t s k m : Int) (j : Nat) (h : j < 7) : rowUpto t s k m (j + 1) = rowUpto t s k m j + rowAt t s k m j := by
  match j, h with
  | 0, _ | 1, _ | 2, _ | 3, _ | 4, _ | 5, _ | 6, _ => simp [rowUpto, rowAt]

theorem rowAt_bd {t s k n m : Int} (h : Arena t s k n) (m0 : 0 ≤ m) (m1 : m ≤ 1000000) (j : Nat) : 0 ≤ rowAt t s k m j ∧ rowAt t s k m j ≤ 1000000 := by
  obtain ⟨t0, t1, s0, s1, k0, k1, n0, n1⟩ := h
  match j with
  | 0 | 1 | 2 => simp [rowAt]
  | 3 | 4 | 5 | 6 => simp [rowAt]; omega
  | j + 7 => simp [rowAt]

/-- the rows as they lie in memory -/
theorem rows_cell {w : World} {t s k m : Int} {T : TypeId} (j : Nat) (h : j < 7) :
    (w.alloc (.cells #[.int .i64 1, .int .i64 1, .int .i64 4, .int .i64 t, .int .i64 (2 * s), .int .i64 (3 * k), .int .i64 m] T)).cell? ⟨w.heap.size, j, none⟩ = some (.int .i64 (rowAt t s k m j)) := by
  match j, h with
  | 0, _ | 1, _ | 2, _ | 3, _ | 4, _ | 5, _ | 6, _ => simp [rowAt, Int.mul_comm]

set_option maxHeartbeats 2000000 in
theorem rkind_any (t s k n g p r a m : Int) (w : World) (h : Arena t s k n) (hn : 1 ≤ n) (hm : k * n = m) (m0 : 0 ≤ m) (m1 : m ≤ 1000000) (ha2 : a ≤ 9223372036854775807) :
    Calls Try.prog 23 #[.agg #[.int .i64 t, .int .i64 s, .int .i64 k, .int .i64 n, .int .i64 g, .int .i64 p, .int .i64 r], .int .i64 a] w fun e w' => ∃ K I X, e = .returned (.tuple #[.int .i64 K, .int .i64 I, .int .i64 X]) ∧ KindIs t s k n a K I X ∧ Below w.heap.size w w' := by
  have hA := h
  obtain ⟨t0, t1, s0, s1, k0, k1, n0, n1⟩ := h
  by_cases hlow : a < 0
  · go_enter Try.func23, Try.ntmps23
    go_wp2
    go_ret3
    exact ⟨_, _, _, rfl, .low hlow, grow_alloc (Below.refl _ _) _⟩
  · go_enter Try.func23, Try.ntmps23
    go_wp2
    refine wp_over (fun W => CfgAt W w.heap.size t s k n g p r ∧ (∀ j, j < 7 → W.cell? ⟨w.heap.size + 1, j, none⟩ = some (.int .i64 (rowAt t s k m j))) ∧ Below w.heap.size w W) ⟨CfgAt.new.grown (grow_alloc (Below.refl _ _) _), fun j hj => ?_, grow_alloc (grow_alloc (Below.refl _ _) _) _⟩ ?_
    · have e := rows_cell (w := w.alloc (.cells #[.int .i64 t, .int .i64 s, .int .i64 k, .int .i64 n, .int .i64 g, .int .i64 p, .int .i64 r] 24)) (t := t) (s := s) (k := k) (m := m) (T := 3) j hj
      simpa using e
    rintro W ⟨hc, hr, hb⟩
    have e3 := hc.c3
    go_loop [1, 8] (fun va i => ∃ (j : Nat) (x : Int), j ≤ 7 ∧ i = .int .i64 j ∧ va = .int .i64 x ∧ 0 ≤ x ∧ x ≤ a ∧ Hid (a = rowUpto t s k m j + x)) (fun _ i => 7 - (intOf i).toNat)
    case atStart => exact ⟨0, a, by omega, rfl, rfl, hlow, Int.le_refl _, (show a = 0 + a by omega)⟩
    case round =>
      obtain ⟨j, x, hj, rfl, rfl, x0, xa, hx⟩ := hrel
      by_cases hlt : j < 7
      · have hlt' : (j : Int) < 7 := by omega
        have hcell := hr j hlt
        have hbd := rowAt_bd hA m0 m1 j
        by_cases hge : rowAt t s k m j ≤ x
        · have hx1 : Hid (a = rowUpto t s k m (j + 1) + (x - rowAt t s k m j)) := by
            have := hx.out; have := rowUpto_succ t s k m j hlt
            exact (show a = _ by omega)
          have x2 : x ≤ 9223372036854775807 := by omega
          clear hx hr
          go_wp2
          go_round
          case rel => exact ⟨j + 1, x - rowAt t s k m j, by omega, by go_num, rfl, by omega, by omega, hx1⟩
          case measure => simp [intOf]; omega
        · clear hr
          have x2 : x ≤ 9223372036854775807 := by omega
          have hjs : j = 0 ∨ j = 1 ∨ j = 2 ∨ j = 3 ∨ j = 4 ∨ j = 5 ∨ j = 6 := by omega
          rcases hjs with rfl | rfl | rfl | rfl | rfl | rfl | rfl
          · simp [rowAt] at hcell hge
            have hx1 := hx.out
            simp [rowUpto] at hx1
            have HX : Hid (a = x) := (show a = _ by omega)
            clear hx1
            obtain rfl : x = 0 := by omega
            go_wp2
            go_ret3
            exact ⟨0, 0, 0, rfl, .epoch HX.out, hb⟩
          · simp [rowAt] at hcell hge
            have hx1 := hx.out
            simp [rowUpto] at hx1
            have HX : Hid (a = 1 + x) := (show a = _ by omega)
            clear hx1
            obtain rfl : x = 0 := by omega
            go_wp2
            go_ret3
            exact ⟨1, 0, 0, rfl, .top HX.out, hb⟩
          · simp [rowAt] at hcell hge
            have hx1 := hx.out
            simp [rowUpto] at hx1
            have HX : Hid (a = 2 + x) := (show a = _ by omega)
            clear hx1
            go_wp2
            go_ret3
            exact ⟨2, x, 0, rfl, .opens x x0 (by omega) HX.out, hb⟩
          · simp [rowAt] at hcell hge
            have hx1 := hx.out
            simp [rowUpto] at hx1
            have HX : Hid (a = 6 + x) := (show a = _ by omega)
            clear hx1
            go_wp2
            go_ret3
            exact ⟨3, x, 0, rfl, .pin x x0 (by omega) HX.out, hb⟩
          · simp [rowAt] at hcell hge
            have hx1 := hx.out
            simp [rowUpto] at hx1
            have HX : Hid (a = 6 + t + x) := (show a = _ by omega)
            clear hx1
            have hq : x / 2 * 2 + x % 2 = x := by omega
            by_cases h2 : x % 2 = 0
            · go_wp2
              go_ret3
              exact ⟨4, x / 2, 0, by simp, .slot _ (by omega) (by omega) (by have := HX.out; omega), hb⟩
            · have h3 : x % 2 = 1 := by omega
              clear h2
              go_wp2
              go_ret3
              exact ⟨5, x / 2, 0, by simp, .link _ (by omega) (by omega) (by have := HX.out; omega), hb⟩
          · simp [rowAt] at hcell hge
            have hx1 := hx.out
            simp [rowUpto] at hx1
            have HX : Hid (a = 6 + t + s * 2 + x) := (show a = _ by omega)
            clear hx1
            have hm3 : x % 3 = 0 ∨ x % 3 = 1 ∨ x % 3 = 2 := by omega
            rcases hm3 with h3 | h3 | h3
            · go_wp2
              go_ret3
              exact ⟨6, x / 3, 0, by simp, .chunk _ (by omega) (by omega) (by have := HX.out; omega), hb⟩
            · go_wp2
              go_ret3
              exact ⟨7, x / 3, 0, by simp, .live _ (by omega) (by omega) (by have := HX.out; omega), hb⟩
            · go_wp2
              go_ret3
              exact ⟨8, x / 3, 0, by simp, .when _ (by omega) (by omega) (by have := HX.out; omega), hb⟩
          · simp [rowAt] at hcell hge
            have hx1 := hx.out
            simp [rowUpto] at hx1
            have HX : Hid (a = 6 + t + s * 2 + k * 3 + x) := (show a = _ by omega)
            clear hx1
            have hd := Int.mul_ediv_add_emod x n
            have hr0 := Int.emod_nonneg x (b := n) (by omega)
            have hr1 := Int.emod_lt_of_pos x (b := n) (by omega)
            have hq0 : 0 ≤ x / n := Int.ediv_nonneg x0 (by omega)
            have hq1 : x / n < k := Int.ediv_lt_of_lt_mul (by omega) (by omega)
            go_wp2
            go_quiet (fail)
            go_wp2
            go_ret3
            exact ⟨9, x / n, x % n, rfl, .word _ _ hq0 hq1 hr0 hr1 (by have := HX.out; rw [Int.mul_comm (x / n)]; omega), below_drewN hb _⟩
      · have hx1 := hx.out
        rw [show j = 7 by omega] at hx1
        simp [rowUpto] at hx1
        have HX : Hid (6 + t + s * 2 + k * 3 + k * n ≤ a) := (show _ ≤ a by omega)
        clear hx1 hr
        have hlt' : ¬ (j : Int) < 7 := by omega
        go_wp2
        go_ret3
        exact ⟨-1, 0, 0, rfl, .high HX.out, hb⟩

theorem ret_bool {a b : Bool} (h : a = b) : Ending.returned (.bool a) = .returned (.bool b) := by rw [h]

theorem mul_gap {i j n : Int} (hn : 0 ≤ n) (h : i < j) : i * n + n ≤ j * n := by
  have := Int.mul_le_mul_of_nonneg_right (show i + 1 ≤ j by omega) hn
  rw [Int.add_mul] at this
  omega

/-- at one address there is one thing -/
theorem KindIs.same {t s k n a K I X K' I' X' : Int} (hA : Arena t s k n) (h1 : KindIs t s k n a K I X) (h2 : KindIs t s k n a K' I' X') : K = K' ∧ I = I' ∧ X = X' := by
  obtain ⟨t0, t1, s0, s1, k0, k1, n0, n1⟩ := hA
  have hk := Int.mul_nonneg k0 n0
  cases h1 with
  | word i x i0 i1 x0 x1 e =>
    have := mul_gap n0 i1
    have := Int.mul_nonneg i0 n0
    cases h2 with
    | word j y j0 j1 y0 y1 e' =>
      rcases Int.lt_trichotomy I I' with h | h | h
      · have := mul_gap n0 h; omega
      · subst h; exact ⟨rfl, rfl, by omega⟩
      · have := mul_gap n0 h; omega
    | _ => omega
  | _ =>
    cases h2 with
    | word j y j0 j1 y0 y1 e' =>
      have := mul_gap n0 j1
      have := Int.mul_nonneg j0 n0
      omega
    | _ => omega

theorem KindIs.some {t s k n : Int} (hA : Arena t s k n) (hn : 1 ≤ n) (a : Int) : ∃ K I X, KindIs t s k n a K I X := by
  obtain ⟨t0, t1, s0, s1, k0, k1, n0, n1⟩ := hA
  by_cases h0 : a < 0
  · exact ⟨_, _, _, .low h0⟩
  by_cases h1 : a = 0
  · exact ⟨_, _, _, .epoch h1⟩
  by_cases h2 : a = 1
  · exact ⟨_, _, _, .top h2⟩
  by_cases h3 : a < 6
  · exact ⟨_, _, _, .opens (a - 2) (by omega) (by omega) (by omega)⟩
  by_cases h4 : a < 6 + t
  · exact ⟨_, _, _, .pin (a - 6) (by omega) (by omega) (by omega)⟩
  by_cases h5 : a < 6 + t + s * 2
  · by_cases h : (a - (6 + t)) % 2 = 0
    · exact ⟨_, _, _, .slot ((a - (6 + t)) / 2) (by omega) (by omega) (by omega)⟩
    · exact ⟨_, _, _, .link ((a - (6 + t)) / 2) (by omega) (by omega) (by omega)⟩
  by_cases h6 : a < 6 + t + s * 2 + k * 3
  · by_cases h : (a - (6 + t + s * 2)) % 3 = 0
    · exact ⟨_, _, _, .chunk ((a - (6 + t + s * 2)) / 3) (by omega) (by omega) (by omega)⟩
    · by_cases h' : (a - (6 + t + s * 2)) % 3 = 1
      · exact ⟨_, _, _, .live ((a - (6 + t + s * 2)) / 3) (by omega) (by omega) (by omega)⟩
      · exact ⟨_, _, _, .when ((a - (6 + t + s * 2)) / 3) (by omega) (by omega) (by omega)⟩
  by_cases h7 : a < 6 + t + s * 2 + k * 3 + k * n
  · obtain ⟨x, hx⟩ : ∃ x, x = a - (6 + t + s * 2 + k * 3) := ⟨_, rfl⟩
    have hd := Int.mul_ediv_add_emod x n
    have hr0 := Int.emod_nonneg x (b := n) (by omega)
    have hr1 := Int.emod_lt_of_pos x (b := n) (by omega)
    have hq0 : 0 ≤ x / n := Int.ediv_nonneg (by omega) (by omega)
    have hq1 : x / n < k := Int.ediv_lt_of_lt_mul (by omega) (by omega)
    exact ⟨_, _, _, .word _ _ hq0 hq1 hr0 hr1 (by rw [Int.mul_comm (x / n)]; omega)⟩
  · exact ⟨_, _, _, .high (by omega)⟩

theorem rkind_is {t s k n a m K I X : Int} (g p r : Int) (w : World) (h : Arena t s k n) (hn : 1 ≤ n) (hm : k * n = m) (m0 : 0 ≤ m) (m1 : m ≤ 1000000) (ha2 : a ≤ 9223372036854775807) (hK : KindIs t s k n a K I X) :
    Calls Try.prog 23 #[.agg #[.int .i64 t, .int .i64 s, .int .i64 k, .int .i64 n, .int .i64 g, .int .i64 p, .int .i64 r], .int .i64 a] w fun e w' => e = .returned (.tuple #[.int .i64 K, .int .i64 I, .int .i64 X]) ∧ Below w.heap.size w w' :=
  (rkind_any t s k n g p r a m w h hn hm m0 m1 ha2).mono fun e w' ⟨K', I', X', he, hk, hb⟩ => by
    obtain ⟨rfl, rfl, rfl⟩ := KindIs.same h hk hK
    exact ⟨he, hb⟩

/-- a list's numbers, by their places -/
def numAt (l : List Int) (i : Nat) : Int := l.getD i 0

/-- seven numbers that were just laid -/
theorem seven_cell {w : World} {a0 a1 a2 a3 a4 a5 a6 : Int} {T : TypeId} (j : Nat) (h : j < 7) :
    (w.alloc (.cells #[.int .i64 a0, .int .i64 a1, .int .i64 a2, .int .i64 a3, .int .i64 a4, .int .i64 a5, .int .i64 a6] T)).cell? ⟨w.heap.size, j, none⟩ = some (.int .i64 (numAt [a0, a1, a2, a3, a4, a5, a6] j)) := by
  match j, h with
  | 0, _ | 1, _ | 2, _ | 3, _ | 4, _ | 5, _ | 6, _ => simp [numAt]

/-- the first j numbers are within their limits -/
def winUpto (l lo hi : List Int) (j : Nat) : Prop := ∀ i, i < j → numAt lo i ≤ numAt l i ∧ numAt l i ≤ numAt hi i

theorem may_of {t s k n g p r : Int} (h : winUpto [t, s, k, n, g, p, r] [1, 1, 1, 17, 1, 0, 1] [8, 65536, 64, 256, 65535, 1000, 16] 7) : may t s k n g p r = true := by
  have h0 := h 0 (by omega)
  have h1 := h 1 (by omega)
  have h2 := h 2 (by omega)
  have h3 := h 3 (by omega)
  have h4 := h 4 (by omega)
  have h5 := h 5 (by omega)
  have h6 := h 6 (by omega)
  simp [numAt] at h0 h1 h2 h3 h4 h5 h6
  simp [may, win, h0, h1, h2, h3, h4, h5, h6]

theorem may_not {t s k n g p r : Int} (j : Nat) (hj : j < 7) (h : ¬ (numAt [1, 1, 1, 17, 1, 0, 1] j ≤ numAt [t, s, k, n, g, p, r] j ∧ numAt [t, s, k, n, g, p, r] j ≤ numAt [8, 65536, 64, 256, 65535, 1000, 16] j)) : may t s k n g p r = false := by
  cases e : may t s k n g p r with
  | false => rfl
  | true =>
    exfalso
    simp [may, win] at e
    match j, hj with
    | 0, _ | 1, _ | 2, _ | 3, _ | 4, _ | 5, _ | 6, _ => simp [numAt] at h; omega

theorem rclass_any (z : Int) (w : World) :
    Calls Try.prog 10 #[.int .i64 z] w fun e w' => e = .returned (.int .i64 (classOf z)) ∧ Below w.heap.size w w' := by
  by_cases h : z < 1
  · go_enter Try.func10, Try.ntmps10
    go_wp2
    go_ret
    exact ⟨ret_int (by simp [classOf, h]), grow_alloc (Below.refl _ _) _⟩
  · go_enter Try.func10, Try.ntmps10
    go_wp2
    go_loop [4] (fun i => i = .int .i64 0 ∨ (i = .int .i64 1 ∧ 2 < z) ∨ (i = .int .i64 2 ∧ 4 < z) ∨ (i = .int .i64 3 ∧ 8 < z) ∨ (i = .int .i64 4 ∧ 16 < z)) (fun i => 4 - (intOf i).toNat)
    case atStart => exact Or.inl rfl
    case round =>
      rcases hrel with rfl | ⟨rfl, hz⟩ | ⟨rfl, hz⟩ | ⟨rfl, hz⟩ | ⟨rfl, hz⟩
      · by_cases h2 : z ≤ 2
        · go_wp2
          go_ret
          exact ⟨ret_int (by simp [classOf, h, h2]), grow_alloc (Below.refl _ _) _⟩
        · go_wp2
          go_round
          case rel => exact Or.inr (Or.inl ⟨rfl, by omega⟩)
          case measure => simp [intOf]
      · by_cases h2 : z ≤ 4
        · go_wp2
          go_ret
          exact ⟨ret_int (by unfold classOf; simp [h2]; omega), grow_alloc (Below.refl _ _) _⟩
        · go_wp2
          go_round
          case rel => exact Or.inr (Or.inr (Or.inl ⟨rfl, by omega⟩))
          case measure => simp [intOf]
      · by_cases h2 : z ≤ 8
        · go_wp2
          go_ret
          exact ⟨ret_int (by unfold classOf; simp [h2]; omega), grow_alloc (Below.refl _ _) _⟩
        · go_wp2
          go_round
          case rel => exact Or.inr (Or.inr (Or.inr (Or.inl ⟨rfl, by omega⟩)))
          case measure => simp [intOf]
      · by_cases h2 : z ≤ 16
        · go_wp2
          go_ret
          exact ⟨ret_int (by unfold classOf; simp [h2]; omega), grow_alloc (Below.refl _ _) _⟩
        · go_wp2
          go_round
          case rel => exact Or.inr (Or.inr (Or.inr (Or.inr ⟨rfl, by omega⟩)))
          case measure => simp [intOf]
      · go_wp2
        go_ret
        exact ⟨ret_int (by unfold classOf; simp; omega), grow_alloc (Below.refl _ _) _⟩

theorem rroom_any (c : Int) (w : World) (h0 : 0 ≤ c) (h1 : c ≤ 3) :
    Calls Try.prog 12 #[.int .i64 c] w fun e w' => e = .returned (.int .i64 (2 * 2 ^ c.toNat + 1)) ∧ Below w.heap.size w w' := by
  have hcs : c = 0 ∨ c = 1 ∨ c = 2 ∨ c = 3 := by omega
  rcases hcs with rfl | rfl | rfl | rfl
  all_goals
    go_enter Try.func12, Try.ntmps12
    go_wp2
    go_ret
    exact ⟨rfl, grow_alloc (Below.refl _ _) _⟩

end Go.Proofs.Ytemembcefplgcaa
