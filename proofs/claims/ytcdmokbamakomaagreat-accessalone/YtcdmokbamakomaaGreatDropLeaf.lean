/- What the small functions of package drop come to: lives, Live, stands, last, behind; Help's at and cells. -/
import Derived.Test.YtcdmokbamakomaaGreatLayRef
import Derived.Test.YtcdmokbamakomaaGreatPlaceTurn
namespace Go.Proofs.YtcdmokbamakomaaGreat
open Go.RowKit

theorem At.new2 (w : World) (O : Obj) (T : TypeId) (l : List Value) : At ((w.alloc O).alloc (.cells l.toArray T)) (w.heap.size + 1) 0 T l.toArray l := by
  have := At.new (w.alloc O) T l
  rwa [Go.Deep.nblk_alloc] at this
theorem grow1 (w : World) (O : Obj) : Below w.heap.size w (w.alloc O) := grow_alloc (Below.refl _ _) _

/-- a state of a handle's word is that of an object -/
def lifeB (st : Int) : Bool := st == 1 || st == 2 || st == 4

theorem lifeB_cases (st : Int) : (st = 1 ∧ lifeB st = true) ∨ (st ≠ 1 ∧ st = 2 ∧ lifeB st = true) ∨ (st ≠ 1 ∧ st ≠ 2 ∧ st = 4 ∧ lifeB st = true) ∨ (st ≠ 1 ∧ st ≠ 2 ∧ st ≠ 4 ∧ lifeB st = false) := by
  by_cases h1 : st = 1
  · subst h1; exact Or.inl ⟨rfl, rfl⟩
  · by_cases h2 : st = 2
    · subst h2; exact Or.inr (Or.inl ⟨h1, rfl, rfl⟩)
    · by_cases h4 : st = 4
      · subst h4; exact Or.inr (Or.inr (Or.inl ⟨h1, h2, rfl, rfl⟩))
      · exact Or.inr (Or.inr (Or.inr ⟨h1, h2, h4, by simp [lifeB, h1, h2, h4]⟩))

theorem dlives_any (st A G V : Int) (w : World) :
    Calls Tryz.prog 99 #[.agg #[.int .i64 st, .int .i64 A, .int .i64 G, .int .i64 V]] w fun e w' => e = .returned (.bool (lifeB st)) ∧ Below w.heap.size w w' := by
  rcases lifeB_cases st with ⟨rfl, h⟩ | ⟨h1, rfl, h⟩ | ⟨h1, h2, rfl, h⟩ | ⟨h1, h2, h4, h⟩ <;> rw [h]
  · go_enter Tryz.func99, Tryz.ntmps99
    go_wp2
    go_ret
    exact ⟨rfl, grow_alloc (Below.refl _ _) _⟩
  · clear h1
    go_enter Tryz.func99, Tryz.ntmps99
    go_wp2
    go_ret
    exact ⟨rfl, grow_alloc (Below.refl _ _) _⟩
  · clear h1 h2
    go_enter Tryz.func99, Tryz.ntmps99
    go_wp2
    go_ret
    exact ⟨rfl, grow_alloc (Below.refl _ _) _⟩
  · go_enter Tryz.func99, Tryz.ntmps99
    go_wp2
    go_ret
    exact ⟨rfl, grow_alloc (Below.refl _ _) _⟩

theorem dlive_any (st A G V x G' : Int) (w : World) :
    Calls Tryz.prog 91 #[.agg #[.int .i64 st, .int .i64 A, .int .i64 G, .int .i64 V], .agg #[.int .i64 x, .int .i64 G']] w fun e w' => e = .returned (.bool (lifeB st && G == G')) ∧ Below w.heap.size w w' := by
  obtain ⟨l, hl⟩ : ∃ l, lifeB st = l := ⟨_, rfl⟩
  rw [hl]
  have H : Hid (lifeB st = l) := hl
  clear hl
  cases l
  · go_enter Tryz.func91, Tryz.ntmps91
    go_wp2_with (go_at_call 99; refine (dlives_any st A G V _).mono ?_; rintro e w1 ⟨rfl, b1⟩; rw [H.out])
    go_ret
    exact ⟨rfl, grow (grow_alloc (grow_alloc (Below.refl _ _) _) _) b1⟩
  · go_enter Tryz.func91, Tryz.ntmps91
    have x0 := (At.new w 58 [.int .i64 st, .int .i64 A, .int .i64 G, .int .i64 V]).grown (grow1 _ (.cells #[.int .i64 x, .int .i64 G'] 77))
    have x1 := At.new2 w (.cells #[.int .i64 st, .int .i64 A, .int .i64 G, .int .i64 V] 58) 77 [.int .i64 x, .int .i64 G']
    go_wp2_with (go_at_call 99; refine (dlives_any st A G V _).mono ?_; rintro e w1 ⟨rfl, b1⟩; rw [H.out]; have z0 := (x0.grown b1).at0 2 rfl; have z1 := (x1.grown b1).at0 1 rfl)
    go_ret
    exact ⟨rfl, grow (grow_alloc (grow_alloc (Below.refl _ _) _) _) b1⟩

/-- the chunk of an address, or -1 -/
def chunkOf (t n k m : Nat) (a : Int) : Int := if a < 6 + t + n * 2 + k * 3 then -1 else if (a - (6 + t + n * 2 + k * 3)) / m < k then (a - (6 + t + n * 2 + k * 3)) / m else -1

theorem lof_any {t n k m : Nat} {g p r : Int} (hG : Good t n k m g p r) (a : Int) (ha : a ≤ 9223372036854775807) (w : World) :
    Calls Tryz.prog 92 #[.agg #[.int .i64 t, .int .i64 n, .int .i64 k, .int .i64 m, .int .i64 g, .int .i64 p, .int .i64 r], .int .i64 a] w fun e w' => e = .returned (.int .i64 (chunkOf t n k m a)) ∧ Below w.heap.size w w' := by
  have n0 := hG.n0
  unfold chunkOf
  by_cases h : a < 6 + t + n * 2 + k * 3
  · rw [if_pos h]
    exact lof_low _ _ _ _ _ _ _ _ _ hG.arena h
  · rw [if_neg h]
    by_cases h2 : (a - (6 + t + n * 2 + k * 3)) / m < k
    · rw [if_pos h2]
      exact lof_in _ _ _ _ _ _ _ _ _ _ hG.arena (by omega) (by omega) ha rfl h2
    · rw [if_neg h2]
      exact lof_high _ _ _ _ _ _ _ _ _ _ hG.arena (by omega) (by omega) ha rfl (by omega)

theorem chunkOf_in {t n k m i u : Nat} (hi : i < k) (hu : u < m) : chunkOf t n k m ((base t n k m i + u : Nat) : Int) = i := by
  have e : (((base t n k m i + u : Nat) : Int) - (6 + t + n * 2 + k * 3)) / m = i := by
    have : ((base t n k m i + u : Nat) : Int) - (6 + t + n * 2 + k * 3) = u + m * (i : Int) := by
      unfold base
      have hc : (m : Int) * (i : Int) = (i : Int) * m := Int.mul_comm _ _
      simp only [Int.natCast_add, Int.natCast_mul]
      omega
    rw [this, Int.add_mul_ediv_left _ _ (by omega), Int.ediv_eq_zero_of_lt (by omega) (by omega), Int.zero_add]
  unfold chunkOf
  rw [if_neg (by unfold base; omega), e, if_pos (by omega)]

end Go.Proofs.YtcdmokbamakomaaGreat
