/- WordHeads answers true for every input, and leaves what was in memory. -/
import Derived.Test.YtpeglmhlooecpaaLater
import Derived.Test.YtpeglmhlooecpaaAwake
import Derived.Test.YtpeglmhlooecpaaRefget
namespace Go.Proofs.Ytpeglmhlooecpaa
open Go.RowKit

set_option maxHeartbeats 1000000 in
theorem heads_any (a b c d : Int) (o : Bool) (y : Int) (w : World) (ha : Fit a) (hb : Fit b) (hc : Fit c) (hd : Fit d) (y0 : 0 ≤ y) (y1 : y ≤ 18446744073709551615) :
    Calls Try.prog 6 #[.agg #[.int .i64 a, .int .i64 b, .int .i64 c, .int .i64 d, .bool o], .int .u64 y] w fun e w' => e = .returned (.bool true) ∧ Below w.heap.size w w' := by
  obtain ⟨x, hx⟩ : ∃ x, x = packOw a b c d o := ⟨_, rfl⟩
  have hxb : 0 ≤ x ∧ x ≤ 18446744073709551615 := by have := packOw_bd a b c d o; omega
  have HX : Hid (x = packOw a b c d o) := hx
  clear hx
  go_enter Try.func6, Try.ntmps6
  go_wp2_with (go_at_call 21; refine (putHead_any _ _ _ _ _ _ ha hb hc hd).mono ?_; rintro e w1 ⟨rfl, b1⟩; rw [← HX.out])
  have z0 := b1.cell (p := ⟨w.heap.size, 0, none⟩) (by simp)
  have z1 := b1.cell (p := ⟨w.heap.size, 1, none⟩) (by simp)
  have z2 := b1.cell (p := ⟨w.heap.size, 2, none⟩) (by simp)
  have z3 := b1.cell (p := ⟨w.heap.size, 3, none⟩) (by simp)
  have z4 := b1.cell (p := ⟨w.heap.size, 4, none⟩) (by simp)
  simp at z0 z1 z2 z3 z4
  have B1 : Below w.heap.size w w1 := grow (grow_alloc (Below.refl _ _) _) b1
  clear b1
  refine (awake_any _).mono ?_
  rintro e w2 ⟨rfl, b2⟩
  have m0 := (Later.mk w2 b2).cell z0
  have m1 := (Later.mk w2 b2).cell z1
  have m2 := (Later.mk w2 b2).cell z2
  have m3 := (Later.mk w2 b2).cell z3
  have m4 := (Later.mk w2 b2).cell z4
  have B2 := grow B1 b2
  simp only at m0 m1 m2 m3 m4
  clear z0 z1 z2 z3 z4 B1 b2
  go_wp2_with (first
      | (go_at_call 22; refine (refHead_any _ _ _ _ _ _ ha hb hc hd).mono ?_; rintro e w3 ⟨rfl, b3⟩; rw [← HX.out])
      | (go_at_call_of 23 x; refine (head_any _ _ hxb.1 hxb.2).mono ?_; rintro e w4 ⟨rfl, b4⟩)
      | (go_at_call_of 23 y; refine (head_any _ _ y0 y1).mono ?_; rintro e w5 ⟨rfl, b5⟩)
      | (go_at_call_of 24 x; refine (refGetHead_any _ _ hxb.1 hxb.2).mono ?_; rintro e w6 ⟨rfl, b6⟩)
      | (go_at_call_of 24 y; refine (refGetHead_any _ _ y0 y1).mono ?_; rintro e w7 ⟨rfl, b7⟩))
  go_ret
  exact ⟨rfl, grow (grow (grow (grow (grow B2 b3) b4) b6) b5) b7⟩

end Go.Proofs.Ytpeglmhlooecpaa
