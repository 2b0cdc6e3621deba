/- WordCells answers true for every cell and every word, and leaves what was in memory. -/
import Derived.Test.YtpeglmhlooecpaaLater
import Derived.Test.YtpeglmhlooecpaaAwake
import Derived.Test.YtpeglmhlooecpaaRefget
namespace Go.Proofs.Ytpeglmhlooecpaa
open Go.RowKit

theorem packX_value (v : Int) (f : Bool) (d : Int) : packX v f d % 1099511627776 = cut v 40 := by
  have h1 := cut_bd v 40 _ rfl
  have h2 := cut_bd d 22 _ rfl
  unfold packX; split <;> omega
theorem packX_frozen (v : Int) (f : Bool) (d : Int) : 9223372036854775808 ≤ packX v f d ↔ f = true := by
  have h1 := cut_bd v 40 _ rfl
  have h2 := cut_bd d 22 _ rfl
  unfold packX; split <;> simp [*] <;> omega
theorem packX_ver (v d : Int) : packX v true d / 1099511627776 % 4194304 = cut d 22 := by
  have h1 := cut_bd v 40 _ rfl
  have h2 := cut_bd d 22 _ rfl
  simp only [packX, if_true]; omega

theorem cellOfPack_any (v : Int) (f : Bool) (d x : Int) (w : World) (hx : x = packX v f d) :
    Calls Try.prog 26 #[.int .u64 x] w fun e w' => e = .returned (.agg #[.int .i64 (cut v 40), .bool f, .int .i64 (if f then cut d 22 else 0)]) ∧ Below w.heap.size w w' := by
  have hb := packX_bd v f d
  have h := cell_any x w (by omega) (by omega)
  have e1 := packX_value v f d
  have e2 := packX_frozen v f d
  cases f
  · have e4 : ¬ 9223372036854775808 ≤ x := by rw [hx, e2]; simp
    rw [decide_eq_false e4, if_neg e4, hx, e1] at h
    rw [hx]
    exact h
  · have e4 : 9223372036854775808 ≤ x := by rw [hx, e2]
    rw [decide_eq_true e4, if_pos e4, hx, e1, packX_ver] at h
    rw [hx]
    exact h

/-- whether a word is that of a frozen cell, and of which version -/
def frozenOf (y : Int) : Bool := decide (9223372036854775808 ≤ y)
def verOf (y : Int) : Int := if 9223372036854775808 ≤ y then y / 1099511627776 % 4194304 else 0
theorem cell_of (x : Int) (w : World) (x0 : 0 ≤ x) (x1 : x ≤ 18446744073709551615) :
    Calls Try.prog 26 #[.int .u64 x] w fun e w' => e = .returned (.agg #[.int .i64 (x % 1099511627776), .bool (frozenOf x), .int .i64 (verOf x)]) ∧ Below w.heap.size w w' := cell_any x w x0 x1
theorem refGetCell_of (x : Int) (w : World) (x0 : 0 ≤ x) (x1 : x ≤ 18446744073709551615) :
    Calls Try.prog 28 #[.int .u64 x] w fun e w' => e = .returned (.agg #[.int .i64 (x % 1099511627776), .bool (frozenOf x), .int .i64 (verOf x)]) ∧ Below w.heap.size w w' := refGetCell_any x w x0 x1

set_option maxHeartbeats 1000000 in
theorem cells_any (v : Int) (f : Bool) (d y : Int) (w : World) (hv : Fit v) (hd : Fit d) (y0 : 0 ≤ y) (y1 : y ≤ 18446744073709551615) :
    Calls Try.prog 7 #[.agg #[.int .i64 v, .bool f, .int .i64 d], .int .u64 y] w fun e w' => e = .returned (.bool true) ∧ Below w.heap.size w w' := by
  obtain ⟨x, hx⟩ : ∃ x, x = packX v f d := ⟨_, rfl⟩
  have hxb : 0 ≤ x ∧ x ≤ 18446744073709551615 := by have := packX_bd v f d; omega
  have hxf : f = false → x ≤ 1099511627775 := by
    intro h; subst h; have := cut_bd v 40 _ rfl; simp only [packX] at hx; simp at hx; omega
  have HX : Hid (x = packX v f d) := hx
  clear hx
  have hcs : v < 0 ∨ (0 ≤ v ∧ 1099511627775 < v) ∨ (0 ≤ v ∧ v ≤ 1099511627775 ∧ d < 0) ∨ (0 ≤ v ∧ v ≤ 1099511627775 ∧ 0 ≤ d ∧ 4194303 < d) ∨ (0 ≤ v ∧ v ≤ 1099511627775 ∧ 0 ≤ d ∧ d ≤ 4194303) := by omega
  have cv : 0 ≤ v ∧ v ≤ 1099511627775 → cut v 40 = v := fun h => cut_id v 40 (by omega) (by omega)
  have cd : 0 ≤ d ∧ d ≤ 4194303 → cut d 22 = d := fun h => cut_id d 22 (by omega) (by omega)
  have CV : Hid (0 ≤ v ∧ v ≤ 1099511627775 → cut v 40 = v) := cv
  have CD : Hid (0 ≤ d ∧ d ≤ 4194303 → cut d 22 = d) := cd
  clear cv cd
  cases f
  all_goals
    try replace hxf := hxf rfl
    rcases hcs with h0 | ⟨h0, h1⟩ | ⟨h0, h1, h2⟩ | ⟨h0, h1, h2, h3⟩ | ⟨h0, h1, h2, h3⟩
    all_goals
      go_enter Try.func7, Try.ntmps7
      go_wp2_with (go_at_call 25; refine (putCell_any _ _ _ _ hv hd).mono ?_; rintro e w1 ⟨rfl, b1⟩; rw [← HX.out])
      have z0 := b1.cell (p := ⟨w.heap.size, 0, none⟩) (by simp)
      have z1 := b1.cell (p := ⟨w.heap.size, 1, none⟩) (by simp)
      have z2 := b1.cell (p := ⟨w.heap.size, 2, none⟩) (by simp)
      simp at z0 z1 z2
      have B1 : Below w.heap.size w w1 := grow (grow_alloc (Below.refl _ _) _) b1
      have hs1 := b1.size
      simp at hs1
      clear b1
      refine (cellOfPack_any _ _ _ _ _ HX.out).mono ?_
      rintro e w2 ⟨rfl, b2⟩
      try rw [CV.out ⟨by omega, by omega⟩]
      try rw [CD.out ⟨by omega, by omega⟩]
      replace z0 := (Later.mk w2 b2).cell z0
      replace z1 := (Later.mk w2 b2).cell z1
      replace z2 := (Later.mk w2 b2).cell z2
      have B2 := grow B1 b2
      have hs2 := b2.size
      simp only at z0 z1 z2
      have hs3 : w.heap.size < w2.heap.size := by omega
      clear b2 B1 hs1 hs2
      go_wp2_with fail
      refine (awake_any _).mono ?_
      rintro e w3 ⟨rfl, b3⟩
      have m0 := (Later.mk w3 b3).cell (alloc_cell z0 _)
      have m1 := (Later.mk w3 b3).cell (alloc_cell z1 _)
      have m2 := (Later.mk w3 b3).cell (alloc_cell z2 _)
      have B3 := grow (grow_alloc B2 _) b3
      simp only at m0 m1 m2
      clear z0 z1 z2 b3 B2 hs3
      go_wp2_with (go_at_call 27; refine (refCell_any _ _ _ _ hv hd).mono ?_; rintro e w4 ⟨rfl, b4⟩; rw [← HX.out])
      replace m1 := (Later.mk w4 b4).cell m1
      simp only at m1
      refine (cell_of _ _ y0 y1).mono ?_
      rintro e w5 ⟨rfl, b5⟩
      replace m1 := (Later.mk w5 b5).cell m1
      simp only at m1
      go_wp2_with fail
      refine (refGetCell_of _ _ y0 y1).mono ?_
      rintro e w6 ⟨rfl, b6⟩
      replace m1 := (Later.mk w6 b6).cell m1
      simp only at m1
      have B6 := grow (grow (grow B3 b4) b5) b6
      clear B3 b4 b5 b6
      go_wp2
      go_ret
      exact ⟨rfl, B6⟩

end Go.Proofs.Ytpeglmhlooecpaa
