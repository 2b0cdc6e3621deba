/- What package layout's small functions come to: where all stands in an arena, classes, and which arenas may be; what was in memory stays. -/
import Derived.Test.YtocmkmeikcejjaaRows
import Derived.Test.YtocmkmeikcejjaaMath
import Derived.Test.YtocmkmeikcejjaaLater
namespace Go.Proofs.Ytocmkmeikcejjaa
open Go.RowKit

/-- numbers of an arena's threads, slots, chunks and words that are not too great -/
structure Arena (t s k n : Int) : Prop where
  t0 : 0 ≤ t
  t1 : t ≤ 8
  s0 : 0 ≤ s
  s1 : s ≤ 65536
  k0 : 0 ≤ k
  k1 : k ≤ 64
  n0 : 0 ≤ n
  n1 : n ≤ 256

theorem within_any (n a b : Int) (w : World) :
    Calls Try.prog 41 #[.int .i64 n, .int .i64 a, .int .i64 b] w fun e w' => e = .returned (.bool (decide (a ≤ n ∧ n ≤ b))) ∧ w' = w := by
  by_cases h1 : a ≤ n
  · by_cases h2 : n ≤ b
    · go_enter Try.func41, Try.ntmps41
      go_wp2
      go_ret
      exact ⟨by simp [h1, h2], rfl⟩
    · go_enter Try.func41, Try.ntmps41
      go_wp2
      go_ret
      exact ⟨by simp [h2], rfl⟩
  · go_enter Try.func41, Try.ntmps41
    go_wp2
    go_ret
    exact ⟨by simp; omega, rfl⟩

theorem ltop_any (w : World) : Calls Try.prog 27 #[] w fun e w' => e = .returned (.int .i64 1) ∧ w' = w := by
  go_enter Try.func27, Try.ntmps27
  go_wp2
  go_ret
  exact ⟨rfl, rfl⟩

theorem lopen_any (i : Int) (w : World) (h0 : 0 ≤ i) (h1 : i ≤ 1000000) : Calls Try.prog 80 #[.int .i64 i] w fun e w' => e = .returned (.int .i64 (2 + i)) ∧ w' = w := by
  go_enter Try.func80, Try.ntmps80
  go_wp2
  go_ret
  exact ⟨rfl, rfl⟩

theorem lpin_any (i : Int) (w : World) (h0 : 0 ≤ i) (h1 : i ≤ 1000000) : Calls Try.prog 39 #[.int .i64 i] w fun e w' => e = .returned (.int .i64 (6 + i)) ∧ w' = w := by
  go_enter Try.func39, Try.ntmps39
  go_wp2
  go_ret
  exact ⟨rfl, rfl⟩

theorem lslot_any (t s k n g p r i : Int) (w : World) (h : Arena t s k n) (h0 : 0 ≤ i) (h1 : i ≤ 1000000) :
    Calls Try.prog 18 #[.agg #[.int .i64 t, .int .i64 s, .int .i64 k, .int .i64 n, .int .i64 g, .int .i64 p, .int .i64 r], .int .i64 i] w fun e w' => e = .returned (.int .i64 (6 + t + i * 2)) ∧ Below w.heap.size w w' := by
  obtain ⟨t0, t1, s0, s1, k0, k1, n0, n1⟩ := h
  go_enter Try.func18, Try.ntmps18
  go_wp2_with (go_at_call 39; refine (lpin_any _ _ (by omega) (by omega)).mono ?_; rintro e w' ⟨rfl, rfl⟩)
  go_ret
  exact ⟨rfl, grow_alloc (Below.refl _ _) _⟩

theorem lchunk_any (t s k n g p r i : Int) (w : World) (h : Arena t s k n) (h0 : 0 ≤ i) (h1 : i ≤ 1000000) :
    Calls Try.prog 11 #[.agg #[.int .i64 t, .int .i64 s, .int .i64 k, .int .i64 n, .int .i64 g, .int .i64 p, .int .i64 r], .int .i64 i] w fun e w' => e = .returned (.int .i64 (6 + t + s * 2 + i * 3)) ∧ Below w.heap.size w w' := by
  have hA := h
  obtain ⟨t0, t1, s0, s1, k0, k1, n0, n1⟩ := h
  go_enter Try.func11, Try.ntmps11
  go_wp2_with (go_at_call 18; refine (lslot_any _ _ _ _ _ _ _ _ _ hA (by omega) (by omega)).mono ?_; rintro e w' ⟨rfl, b1⟩)
  go_ret
  exact ⟨rfl, grow (grow_alloc (Below.refl _ _) _) b1⟩

/-- an arena's numbers lie in a block -/
structure CfgAt (w : World) (b : Nat) (t s k n g p r : Int) : Prop where
  c0 : w.cell? ⟨b, 0, none⟩ = some (.int .i64 t)
  c1 : w.cell? ⟨b, 1, none⟩ = some (.int .i64 s)
  c2 : w.cell? ⟨b, 2, none⟩ = some (.int .i64 k)
  c3 : w.cell? ⟨b, 3, none⟩ = some (.int .i64 n)
  c4 : w.cell? ⟨b, 4, none⟩ = some (.int .i64 g)
  c5 : w.cell? ⟨b, 5, none⟩ = some (.int .i64 p)
  c6 : w.cell? ⟨b, 6, none⟩ = some (.int .i64 r)

theorem CfgAt.new {w : World} {t s k n g p r : Int} {T : TypeId} : CfgAt (w.alloc (.cells #[.int .i64 t, .int .i64 s, .int .i64 k, .int .i64 n, .int .i64 g, .int .i64 p, .int .i64 r] T)) w.heap.size t s k n g p r := by
  constructor <;> simp

theorem CfgAt.grown {w w' : World} {b : Nat} {t s k n g p r : Int} (h : CfgAt w b t s k n g p r) (h' : Below w.heap.size w w') : CfgAt w' b t s k n g p r :=
  ⟨keep' h' h.c0, keep' h' h.c1, keep' h' h.c2, keep' h' h.c3, keep' h' h.c4, keep' h' h.c5, keep' h' h.c6⟩

theorem lbase_any (t s k n g p r i m : Int) (w : World) (h : Arena t s k n) (hm : i * n = m) (m0 : 0 ≤ m) (m1 : m ≤ 1000000) :
    Calls Try.prog 40 #[.agg #[.int .i64 t, .int .i64 s, .int .i64 k, .int .i64 n, .int .i64 g, .int .i64 p, .int .i64 r], .int .i64 i] w fun e w' => e = .returned (.int .i64 (6 + t + s * 2 + k * 3 + m)) ∧ Below w.heap.size w w' := by
  have hA := h
  obtain ⟨t0, t1, s0, s1, k0, k1, n0, n1⟩ := h
  go_enter Try.func40, Try.ntmps40
  go_wp2
  refine wp_over (fun W => CfgAt W w.heap.size t s k n g p r ∧ Below w.heap.size w W) ⟨CfgAt.new, grow_alloc (Below.refl _ _) _⟩ ?_
  rintro W ⟨hc, hb⟩
  have e0 := fun N : Later W => (hc.grown N.below).c0
  have e1 := fun N : Later W => (hc.grown N.below).c1
  have e2 := fun N : Later W => (hc.grown N.below).c2
  have e3 := fun N : Later W => (hc.grown N.below).c3
  have e4 := fun N : Later W => (hc.grown N.below).c4
  have e5 := fun N : Later W => (hc.grown N.below).c5
  have e6 := fun N : Later W => (hc.grown N.below).c6
  haveI := Later.exists W
  refine wp_region_later (by kernel_rfl) (by kernel_rfl) ?_
  repeat (go_big_quiet_step ((go_at_call 11; exact Calls.later (lchunk_any _ _ _ _ _ _ _ _ _ hA (by omega) (by omega)))))
  refine wpQuiet_nil ?_
  rintro _ ⟨nq, rfl⟩
  go_wp2
  go_ret
  exact ⟨rfl, grow hb nq.below⟩

theorem llen_any (t s k n g p r m : Int) (w : World) (h : Arena t s k n) (hm : k * n = m) (m0 : 0 ≤ m) (m1 : m ≤ 1000000) :
    Calls Try.prog 25 #[.agg #[.int .i64 t, .int .i64 s, .int .i64 k, .int .i64 n, .int .i64 g, .int .i64 p, .int .i64 r]] w fun e w' => e = .returned (.int .i64 (6 + t + s * 2 + k * 3 + m)) ∧ Below w.heap.size w w' := by
  go_enter Try.func25, Try.ntmps25
  go_wp2_with (go_at_call 40; refine (lbase_any _ _ _ _ _ _ _ _ _ _ h hm m0 m1).mono ?_; rintro e w' ⟨rfl, b1⟩)
  go_ret
  exact ⟨rfl, grow (grow_alloc (Below.refl _ _) _) b1⟩

theorem lnext_in (t s k n g p r i : Int) (w : World) (h0 : 0 ≤ i) (h1 : i ≤ 1000000) (h : i + 1 < s) :
    Calls Try.prog 30 #[.agg #[.int .i64 t, .int .i64 s, .int .i64 k, .int .i64 n, .int .i64 g, .int .i64 p, .int .i64 r], .int .i64 i] w fun e w' => e = .returned (.int .i64 (i + 1)) ∧ Below w.heap.size w w' := by
  go_enter Try.func30, Try.ntmps30
  go_wp2
  go_ret
  exact ⟨rfl, grow_alloc (Below.refl _ _) _⟩

theorem lnext_out (t s k n g p r i : Int) (w : World) (h0 : 0 ≤ i) (h1 : i ≤ 1000000) (h : ¬ i + 1 < s) :
    Calls Try.prog 30 #[.agg #[.int .i64 t, .int .i64 s, .int .i64 k, .int .i64 n, .int .i64 g, .int .i64 p, .int .i64 r], .int .i64 i] w fun e w' => e = .returned (.int .i64 (-1)) ∧ Below w.heap.size w w' := by
  go_enter Try.func30, Try.ntmps30
  go_wp2
  go_ret
  exact ⟨rfl, grow_alloc (Below.refl _ _) _⟩

/-- the class of a size -/
def classOf (z : Int) : Int := if z < 1 then -1 else if z ≤ 2 then 0 else if z ≤ 4 then 1 else if z ≤ 8 then 2 else if z ≤ 16 then 3 else -1

theorem lclass_any (z : Int) (w : World) :
    Calls Try.prog 61 #[.int .i64 z] w fun e w' => e = .returned (.int .i64 (classOf z)) ∧ w' = w := by
  by_cases h : z < 1
  · go_enter Try.func61, Try.ntmps61
    go_wp2
    go_ret
    exact ⟨ret_int (by simp [classOf, h]), rfl⟩
  · go_enter Try.func61, Try.ntmps61
    go_wp2
    go_loop [3, 6] (fun _ i => i = .int .i64 0 ∨ (i = .int .i64 1 ∧ 2 < z) ∨ (i = .int .i64 2 ∧ 4 < z) ∨ (i = .int .i64 3 ∧ 8 < z) ∨ (i = .int .i64 4 ∧ 16 < z)) (fun _ i => 4 - (intOf i).toNat)
    case atStart => exact Or.inl rfl
    case round =>
      rcases hrel with rfl | ⟨rfl, hz⟩ | ⟨rfl, hz⟩ | ⟨rfl, hz⟩ | ⟨rfl, hz⟩
      · by_cases h2 : z ≤ 2
        · go_wp2
          go_ret
          exact ⟨ret_int (by simp [classOf, h, h2]), rfl⟩
        · go_wp2
          go_round
          case rel => exact Or.inr (Or.inl ⟨rfl, by omega⟩)
          case measure => simp [intOf]
      · by_cases h2 : z ≤ 4
        · go_wp2
          go_ret
          exact ⟨ret_int (by unfold classOf; simp [h2]; omega), rfl⟩
        · go_wp2
          go_round
          case rel => exact Or.inr (Or.inr (Or.inl ⟨rfl, by omega⟩))
          case measure => simp [intOf]
      · by_cases h2 : z ≤ 8
        · go_wp2
          go_ret
          exact ⟨ret_int (by unfold classOf; simp [h2]; omega), rfl⟩
        · go_wp2
          go_round
          case rel => exact Or.inr (Or.inr (Or.inr (Or.inl ⟨rfl, by omega⟩)))
          case measure => simp [intOf]
      · by_cases h2 : z ≤ 16
        · go_wp2
          go_ret
          exact ⟨ret_int (by unfold classOf; simp [h2]; omega), rfl⟩
        · go_wp2
          go_round
          case rel => exact Or.inr (Or.inr (Or.inr (Or.inr ⟨rfl, by omega⟩)))
          case measure => simp [intOf]
      · go_wp2
        go_ret
        exact ⟨ret_int (by unfold classOf; simp; omega), rfl⟩

theorem lroom_any (c : Int) (w : World) (h0 : 0 ≤ c) (h1 : c ≤ 3) :
    Calls Try.prog 54 #[.int .i64 c] w fun e w' => e = .returned (.int .i64 (2 * 2 ^ c.toNat + 1)) ∧ w' = w := by
  have hcs : c = 0 ∨ c = 1 ∨ c = 2 ∨ c = 3 := by omega
  rcases hcs with rfl | rfl | rfl | rfl
  all_goals
    go_enter Try.func54, Try.ntmps54
    go_wp2_with (go_at_call 41; refine (within_any _ _ _ _).mono ?_; rintro e w' ⟨rfl, rfl⟩; rw [decide_eq_true (by omega)])
    go_ret
    exact ⟨rfl, rfl⟩

theorem lroom_out (c : Int) (w : World) (h : ¬ (0 ≤ c ∧ c ≤ 3)) :
    Calls Try.prog 54 #[.int .i64 c] w fun e w' => e = .returned (.int .i64 0) ∧ w' = w := by
  go_enter Try.func54, Try.ntmps54
  go_wp2_with (go_at_call 41; refine (within_any _ _ _ _).mono ?_; rintro e w' ⟨rfl, rfl⟩; rw [decide_eq_false h])
  go_ret
  exact ⟨rfl, rfl⟩

/-- whether a number is from a to b -/
def win (n a b : Int) : Bool := decide (a ≤ n ∧ n ≤ b)

/-- whether an arena may be such -/
def may (t s k n g p r : Int) : Bool := win t 1 8 && win s 1 65536 && win k 1 64 && win n 17 256 && win g 1 65535 && win p 0 1000 && win r 1 16

theorem seven : ∀ a b c d e f g : Bool, a = false ∨ (a = true ∧ b = false) ∨ (a = true ∧ b = true ∧ c = false) ∨ (a = true ∧ b = true ∧ c = true ∧ d = false) ∨ (a = true ∧ b = true ∧ c = true ∧ d = true ∧ e = false) ∨
    (a = true ∧ b = true ∧ c = true ∧ d = true ∧ e = true ∧ f = false) ∨ (a = true ∧ b = true ∧ c = true ∧ d = true ∧ e = true ∧ f = true ∧ g = false) ∨ (a = true ∧ b = true ∧ c = true ∧ d = true ∧ e = true ∧ f = true ∧ g = true) := by
  intro a b c d e f g
  cases a <;> cases b <;> cases c <;> cases d <;> cases e <;> cases f <;> cases g <;> simp

theorem may_cases (t s k n g p r : Int) :
    win t 1 8 = false ∨ (win t 1 8 = true ∧ win s 1 65536 = false) ∨ (win t 1 8 = true ∧ win s 1 65536 = true ∧ win k 1 64 = false) ∨
    (win t 1 8 = true ∧ win s 1 65536 = true ∧ win k 1 64 = true ∧ win n 17 256 = false) ∨
    (win t 1 8 = true ∧ win s 1 65536 = true ∧ win k 1 64 = true ∧ win n 17 256 = true ∧ win g 1 65535 = false) ∨
    (win t 1 8 = true ∧ win s 1 65536 = true ∧ win k 1 64 = true ∧ win n 17 256 = true ∧ win g 1 65535 = true ∧ win p 0 1000 = false) ∨
    (win t 1 8 = true ∧ win s 1 65536 = true ∧ win k 1 64 = true ∧ win n 17 256 = true ∧ win g 1 65535 = true ∧ win p 0 1000 = true ∧ win r 1 16 = false) ∨
    (win t 1 8 = true ∧ win s 1 65536 = true ∧ win k 1 64 = true ∧ win n 17 256 = true ∧ win g 1 65535 = true ∧ win p 0 1000 = true ∧ win r 1 16 = true) := by
  exact seven _ _ _ _ _ _ _

theorem within_win (n a b : Int) (x : Bool) (hx : win n a b = x) (w : World) :
    Calls Try.prog 41 #[.int .i64 n, .int .i64 a, .int .i64 b] w fun e w' => e = .returned (.bool x) ∧ w' = w := by
  subst hx; exact within_any n a b w

set_option maxHeartbeats 2000000 in
theorem lcheck_any (t s k n g p r : Int) (w : World) :
    Calls Try.prog 23 #[.agg #[.int .i64 t, .int .i64 s, .int .i64 k, .int .i64 n, .int .i64 g, .int .i64 p, .int .i64 r]] w fun e w' => e = .returned (.bool (may t s k n g p r)) ∧ Below w.heap.size w w' := by
  rcases may_cases t s k n g p r with h1 | ⟨h1, h2⟩ | ⟨h1, h2, h3⟩ | ⟨h1, h2, h3, h4⟩ | ⟨h1, h2, h3, h4, h5⟩ | ⟨h1, h2, h3, h4, h5, h6⟩ | ⟨h1, h2, h3, h4, h5, h6, h7⟩ | ⟨h1, h2, h3, h4, h5, h6, h7⟩
  all_goals
    go_enter Try.func23, Try.ntmps23
    go_wp2_with (first
      | (go_at_call_of 41 (Value.int .i64 t); refine (within_win _ _ _ _ h1 _).mono ?_; rintro e w' ⟨rfl, rfl⟩)
      | (go_at_call_of 41 (Value.int .i64 s); refine (within_win _ _ _ _ h2 _).mono ?_; rintro e w' ⟨rfl, rfl⟩)
      | (go_at_call_of 41 (Value.int .i64 k); refine (within_win _ _ _ _ h3 _).mono ?_; rintro e w' ⟨rfl, rfl⟩)
      | (go_at_call_of 41 (Value.int .i64 n); refine (within_win _ _ _ _ h4 _).mono ?_; rintro e w' ⟨rfl, rfl⟩)
      | (go_at_call_of 41 (Value.int .i64 g); refine (within_win _ _ _ _ h5 _).mono ?_; rintro e w' ⟨rfl, rfl⟩)
      | (go_at_call_of 41 (Value.int .i64 p); refine (within_win _ _ _ _ h6 _).mono ?_; rintro e w' ⟨rfl, rfl⟩)
      | (go_at_call_of 41 (Value.int .i64 r); refine (within_win _ _ _ _ h7 _).mono ?_; rintro e w' ⟨rfl, rfl⟩))
    go_ret
    refine ⟨?_, grow_alloc (Below.refl _ _) _⟩
    unfold may
    first
      | rw [h1, h2, h3, h4, h5, h6, h7]; rfl
      | rw [h1, h2, h3, h4, h5, h6]; rfl
      | rw [h1, h2, h3, h4, h5]; rfl
      | rw [h1, h2, h3, h4]; rfl
      | rw [h1, h2, h3]; rfl
      | rw [h1, h2]; rfl
      | rw [h1]; rfl

end Go.Proofs.Ytocmkmeikcejjaa
