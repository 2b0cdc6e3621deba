/- WordParts answers true for every handle's word, and leaves what was in memory. -/
import Derived.Test.YtpeglmhlooecpabLater
import Derived.Test.YtpeglmhlooecpabAwake
import Derived.Test.YtpeglmhlooecpabRefget
import Derived.Test.YtpeglmhlooecpabLow
import Derived.Deep.CutRange
import Derived.Test.YtpeglmhlooecpabFloat
namespace Go.Proofs.Ytpeglmhlooecpab
open Go.RowKit

theorem low3 (n : Int) : ∃ p, bits .and .i64 n 7 = p ∧ 0 ≤ p ∧ p ≤ 7 := ⟨_, i64_low n 7 3 (by decide) (by decide), by omega, by omega⟩
theorem low22 (n : Int) : ∃ p, bits .and .i64 n 4194303 = p ∧ 0 ≤ p ∧ p ≤ 4194303 := ⟨_, i64_low n 4194303 22 (by decide) (by decide), by omega, by omega⟩

theorem packS_of (a b c d : Int) (a0 : 0 ≤ a) (a1 : a ≤ 7) (b0 : 0 ≤ b) (b1 : b ≤ 1048575) (c0 : 0 ≤ c) (c1 : c ≤ 65535) (d0 : 0 ≤ d) (d1 : d ≤ 4194303) :
    packS a b c d = a + b * 8 + c * 8388608 + d * 549755813888 := by
  unfold packS
  rw [cut_id a 3 a0 (by omega), cut_id b 20 b0 (by omega), cut_id c 16 c0 (by omega), cut_id d 22 d0 (by omega)]

/-- Slot of PutSlot of a handle's word that fits is that word -/
theorem slotOf_any (a b c d x : Int) (w : World) (a0 : 0 ≤ a) (a1 : a ≤ 7) (b0 : 0 ≤ b) (b1 : b ≤ 1048575) (c0 : 0 ≤ c) (c1 : c ≤ 65535) (d0 : 0 ≤ d) (d1 : d ≤ 4194303) (hx : x = packS a b c d) :
    Calls Try.prog 13 #[.int .u64 x] w fun e w' => e = .returned (.agg #[.int .i64 a, .int .i64 b, .int .i64 c, .int .i64 d]) ∧ Below w.heap.size w w' := by
  have hp := packS_of a b c d a0 a1 b0 b1 c0 c1 d0 d1
  rw [← hx] at hp
  have h := slot_any x w (by omega) (by omega)
  rw [show x % 8 = a from by omega, show x / 8 % 1048576 = b from by omega, show x / 8388608 % 65536 = c from by omega, show x / 549755813888 % 4194304 = d from by omega] at h
  exact h

theorem putSlot_of (a b c d x : Int) (w : World) (a0 : 0 ≤ a) (a1 : a ≤ 7) (b0 : 0 ≤ b) (b1 : b ≤ 1048575) (c0 : 0 ≤ c) (c1 : c ≤ 65535) (d0 : 0 ≤ d) (d1 : d ≤ 4194303) (hx : x = packS a b c d) :
    Calls Try.prog 11 #[.agg #[.int .i64 a, .int .i64 b, .int .i64 c, .int .i64 d]] w fun e w' => e = .returned (.int .u64 x) ∧ Below w.heap.size w w' := by
  rw [hx]; exact putSlot_any a b c d w ⟨by omega, by omega⟩ ⟨by omega, by omega⟩ ⟨by omega, by omega⟩ ⟨by omega, by omega⟩

theorem zero4 {w : World} {k : Nat} {a b c d : Value} {t : TypeId} (h : w.heap[k]? = some (.cells #[a, b, c, d] t)) :
    w.cell? ⟨k, 0, none⟩ = some a ∧ w.cell? ⟨k, 1, none⟩ = some b ∧ w.cell? ⟨k, 2, none⟩ = some c ∧ w.cell? ⟨k, 3, none⟩ = some d ∧
    w.frozen? ⟨k, 0, none⟩ = false ∧ w.frozen? ⟨k, 1, none⟩ = false ∧ w.frozen? ⟨k, 2, none⟩ = false ∧ w.frozen? ⟨k, 3, none⟩ = false := by
  simp [World.cell?, World.frozen?, h]

set_option maxHeartbeats 1000000 in
theorem parts_any (a b c d st ve : Int) (w : World) (ha : Fit a) (hb : Fit b) (hc : Fit c) (hd : Fit d) :
    Calls Try.prog 4 #[.agg #[.int .i64 a, .int .i64 b, .int .i64 c, .int .i64 d], .int .i64 st, .int .i64 ve] w fun e w' => e = .returned (.bool true) ∧ Below w.heap.size w w' := by
  obtain ⟨s, e1, s0, s1⟩ := low3 st
  obtain ⟨v, e2, v0, v1⟩ := low22 ve
  obtain ⟨x, hx⟩ : ∃ x, x = packS a b c d := ⟨_, rfl⟩
  have hxb : 0 ≤ x ∧ x ≤ 18446744073709551615 := by have := packS_bd a b c d; omega
  have HX : Hid (x = packS a b c d) := hx
  obtain ⟨A, hA⟩ : ∃ A, A = x % 8 := ⟨_, rfl⟩
  obtain ⟨B, hB⟩ : ∃ B, B = x / 8 % 1048576 := ⟨_, rfl⟩
  obtain ⟨C, hC⟩ : ∃ C, C = x / 8388608 % 65536 := ⟨_, rfl⟩
  obtain ⟨D, hD⟩ : ∃ D, D = x / 549755813888 % 4194304 := ⟨_, rfl⟩
  have bA : 0 ≤ A ∧ A ≤ 7 := by omega
  have bB : 0 ≤ B ∧ B ≤ 1048575 := by omega
  have bC : 0 ≤ C ∧ C ≤ 65535 := by omega
  have bD : 0 ≤ D ∧ D ≤ 4194303 := by omega
  have HG : Hid (∀ w : World, Calls Try.prog 6 #[.int .u64 x] w fun e w' => e = .returned (.agg #[.int .i64 A, .int .i64 B, .int .i64 C, .int .i64 D]) ∧ Below w.heap.size w w') := by
    intro w; rw [hA, hB, hC, hD]; exact refGetSlot_any x w hxb.1 hxb.2
  obtain ⟨y, hy⟩ : ∃ y, y = packS A B C D := ⟨_, rfl⟩
  obtain ⟨z, hz⟩ : ∃ z, z = packS s B C v := ⟨_, rfl⟩
  have HY : Hid (y = packS A B C D) := hy
  have HZ : Hid (z = packS s B C v) := hz
  clear hx hy hz hA hB hC hD
  go_enter Try.func4, Try.ntmps4
  go_wp2_with fail
  refine (refSlot_any _ _ _ _ _ ha hb hc hd).mono ?_
  rintro e w1 ⟨rfl, b1⟩
  rw [← HX.out]
  have B1 := grow (grow_alloc (Below.refl w.heap.size w) _) b1
  clear b1
  go_wp2_with fail
  refine (HG.out _).mono ?_
  rintro e w2 ⟨rfl, b2⟩
  replace B1 := grow B1 b2
  clear b2
  go_wp2_with fail
  refine wp_over (fun W => (W.cell? ⟨w2.heap.size, 0, none⟩ = some (.int .i64 A) ∧ W.cell? ⟨w2.heap.size, 1, none⟩ = some (.int .i64 B) ∧ W.cell? ⟨w2.heap.size, 2, none⟩ = some (.int .i64 C) ∧ W.cell? ⟨w2.heap.size, 3, none⟩ = some (.int .i64 D)) ∧ (W.cell? ⟨w2.heap.size + 1, 0, none⟩ = some (.int .i64 s) ∧ W.cell? ⟨w2.heap.size + 1, 1, none⟩ = some (.int .i64 B) ∧ W.cell? ⟨w2.heap.size + 1, 2, none⟩ = some (.int .i64 C) ∧ W.cell? ⟨w2.heap.size + 1, 3, none⟩ = some (.int .i64 v)) ∧ Below w.heap.size w W) ?_ ?_
  · refine ⟨⟨by go_simp, by go_simp, by go_simp, by go_simp⟩, ⟨by go_simp, by go_simp, by go_simp, by go_simp⟩, grow_alloc (grow_alloc B1 _) _⟩
  rintro W ⟨⟨p0, p1, p2, p3⟩, ⟨q0, q1, q2, q3⟩, BW⟩
  have g1 := World.block_lt_of_cell? W _ p0
  have g2 := World.block_lt_of_cell? W _ q0
  simp only at g1 g2
  obtain ⟨N, hN⟩ : ∃ N, N = w2.heap.size := ⟨_, rfl⟩
  rw [← hN] at p0 p1 p2 p3 q0 q1 q2 q3 g1 g2 ⊢
  clear B1 hN e1 e2
  go_cut [9, 10] from 21 to 26 (fun s9 s10 wx => ∃ k l, s9 = .pointer (some ⟨k, 0, none⟩) ∧ s10 = .pointer (some ⟨l, 0, none⟩) ∧
    (wx.cell? ⟨k, 0, none⟩ = some (.int .i64 A) ∧ wx.cell? ⟨k, 1, none⟩ = some (.int .i64 B) ∧ wx.cell? ⟨k, 2, none⟩ = some (.int .i64 C) ∧ wx.cell? ⟨k, 3, none⟩ = some (.int .i64 D)) ∧
    (wx.cell? ⟨l, 0, none⟩ = some (.int .i64 s) ∧ wx.cell? ⟨l, 1, none⟩ = some (.int .i64 B) ∧ wx.cell? ⟨l, 2, none⟩ = some (.int .i64 C) ∧ wx.cell? ⟨l, 3, none⟩ = some (.int .i64 v)) ∧ Below W.heap.size W wx)
  case first =>
    refine wp_region_float (m := 6) (g := 2) (.cells #[.int .i64 0, .int .i64 0, .int .i64 0, .int .i64 0] 23) (.cells #[.int .i64 0, .int .i64 0, .int .i64 0, .int .i64 0] 23)
      [.agg #[.int .i64 A, .int .i64 B, .int .i64 C, .int .i64 D], .int .u64 y, .agg #[.int .i64 A, .int .i64 B, .int .i64 C, .int .i64 D], .agg #[.int .i64 s, .int .i64 B, .int .i64 C, .int .i64 v], .int .u64 z, .agg #[.int .i64 s, .int .i64 B, .int .i64 C, .int .i64 v]]
      (by kernel_rfl) rfl (by decide) (by kernel_rfl) (by kernel_rfl) (by kernel_rfl) (by kernel_rfl) (by kernel_rfl) rfl rfl rfl rfl rfl rfl (by decide) (fun e w => by kernel_rfl) (fun e w => by kernel_rfl) ?_ ?_
    · simp only [List.take_succ_cons, List.take_zero, softAll, soft, and_true]
      refine ⟨fun w' b' => ?_, fun w' b' => ?_, fun w' b' => ?_, fun w' b' => ?_, fun w' b' => ?_, fun w' b' => ?_⟩
      all_goals
        have m0 := keep b' p0
        have m1 := keep b' p1
        have m2 := keep b' p2
        have m3 := keep b' p3
        have r0 := keep b' q0
        have r1 := keep b' q1
        have r2 := keep b' q2
        have r3 := keep b' q3
        clear p0 p1 p2 p3 q0 q1 q2 q3
        go_simp
      · exact ⟨rfl, rfl⟩
      · exact ⟨rfl, putSlot_of A B C D y _ bA.1 bA.2 bB.1 bB.2 bC.1 bC.2 bD.1 bD.2 HY.out⟩
      · exact ⟨rfl, slotOf_any A B C D y _ bA.1 bA.2 bB.1 bB.2 bC.1 bC.2 bD.1 bD.2 HY.out⟩
      · exact ⟨rfl, rfl⟩
      · exact ⟨rfl, putSlot_of s B C v z _ s0 s1 bB.1 bB.2 bC.1 bC.2 v0 v1 HZ.out⟩
      · exact ⟨rfl, slotOf_any s B C v z _ s0 s1 bB.1 bB.2 bC.1 bC.2 v0 v1 HZ.out⟩
    · intro k l w' hw
      simp only [List.take_succ_cons, List.take_zero, putL, putO, if_true, Act.put, List.setIfInBounds_toArray, List.set_cons_zero, List.set_cons_succ]
      obtain ⟨x0, x1, x2, x3, f0, f1, f2, f3⟩ := zero4 (hw.p k rfl).2
      obtain ⟨y0, y1, y2, y3, h0, h1, h2, h3⟩ := zero4 (hw.q l rfl).2
      have hkl := hw.ne k l rfl rfl
      have hlk := Ne.symm hkl
      have gk := (hw.p k rfl).1
      have gl := (hw.q l rfl).1
      have hB := hw.below
      clear hw
      refine wpAny_ready (rs := [8]) (by kernel_rfl) (by simp) ?_
      refine AllReady.cons rfl (fun K hK => ?_) AllReady.nil
      go_simp
      refine hK _ _ ?_
      clear hK K
      refine wpAny_ready (rs := [9]) (by kernel_rfl) (by simp) ?_
      refine AllReady.cons rfl (fun K hK => ?_) AllReady.nil
      go_simp
      refine hK _ _ ?_
      clear hK K
      refine wpAny_done (by kernel_rfl) ?_ _
      go_wp2_with fail
      go_meet
      case rel =>
        refine ⟨k, l, rfl, rfl, ⟨by go_simp, by go_simp, by go_simp, by go_simp⟩, ⟨by go_simp, by go_simp, by go_simp, by go_simp⟩, ?_⟩
        exact (((((((hB.setCell (p := ⟨k, 0, none⟩) gk _).setCell (p := ⟨k, 1, none⟩) gk _).setCell (p := ⟨k, 2, none⟩) gk _).setCell (p := ⟨k, 3, none⟩) gk _).setCell (p := ⟨l, 0, none⟩) gl _).setCell (p := ⟨l, 1, none⟩) gl _).setCell (p := ⟨l, 2, none⟩) gl _).setCell (p := ⟨l, 3, none⟩) gl _
  case rest =>
    obtain ⟨k, l, rfl, rfl, ⟨k0, k1, k2, k3⟩, ⟨l0, l1, l2, l3⟩, hB⟩ := hcut
    have B2 := grow BW hB
    replace p0 := keep hB p0
    replace p1 := keep hB p1
    replace p2 := keep hB p2
    replace p3 := keep hB p3
    replace q0 := keep hB q0
    replace q1 := keep hB q1
    replace q2 := keep hB q2
    replace q3 := keep hB q3
    clear BW hB g1 g2
    go_wp2_with fail
    refine (awake_any _).mono ?_
    rintro e w3 ⟨rfl, b3⟩
    have B3 := grow B2 b3
    replace p0 := keep b3 p0
    replace p1 := keep b3 p1
    replace p2 := keep b3 p2
    replace p3 := keep b3 p3
    replace q0 := keep b3 q0
    replace q1 := keep b3 q1
    replace q2 := keep b3 q2
    replace q3 := keep b3 q3
    replace k0 := keep b3 k0
    replace k1 := keep b3 k1
    replace k2 := keep b3 k2
    replace k3 := keep b3 k3
    replace l0 := keep b3 l0
    replace l1 := keep b3 l1
    replace l2 := keep b3 l2
    replace l3 := keep b3 l3
    clear b3 B2
    go_wp2
    go_ret
    exact ⟨rfl, B3⟩

end Go.Proofs.Ytpeglmhlooecpab
