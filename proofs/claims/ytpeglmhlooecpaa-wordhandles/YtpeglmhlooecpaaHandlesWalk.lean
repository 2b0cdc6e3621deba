/- WordHandles answers true for every handle and every number, and leaves what was in memory. -/
import Derived.Test.YtpeglmhlooecpaaLater
import Derived.Test.YtpeglmhlooecpaaAwake
import Derived.Test.YtpeglmhlooecpaaRefget
namespace Go.Proofs.Ytpeglmhlooecpaa
open Go.RowKit

theorem packH_back (n : Int) (h0 : 65536 ≤ n) (h1 : n ≤ 4294967295) : packH (n % 65536) (n / 65536) = n := by
  have e1 := cut_id (n % 65536) 16 (by omega) (by omega)
  have e2 := cut_id (n / 65536) 16 (by omega) (by omega)
  unfold packH; omega

/-- what the program makes of a handle's own number: some handle or none; of one that fits, itself -/
theorem handleOfPack (s g : Int) : ∃ (p q : Int) (r : Bool), (∀ w : World, Calls Try.prog 10 #[.int .u64 (packH s g)] w fun e w' => e = .returned (.tuple #[.agg #[.int .i64 p, .int .i64 q], .bool r]) ∧ Below w.heap.size w w') ∧ (0 ≤ s → s < 65536 → 1 ≤ g → g ≤ 65535 → p = s ∧ q = g ∧ r = true) := by
  have hb := packH_bd s g
  by_cases h : 65536 ≤ packH s g
  · refine ⟨_, _, _, fun w => handle_yes _ w h hb.2, fun h0 h1 h2 h3 => ?_⟩
    have e1 := cut_id s 16 h0 (by omega)
    have e2 := cut_id g 16 (by omega) (by omega)
    refine ⟨?_, ?_, rfl⟩ <;> unfold packH <;> omega
  · refine ⟨_, _, _, fun w => handle_no _ w hb.1 (by omega) (by omega), fun h0 h1 h2 h3 => ?_⟩
    have e1 := cut_id s 16 h0 (by omega)
    have e2 := cut_id g 16 (by omega) (by omega)
    exfalso; apply h; unfold packH; omega

/-- what the program makes of any number -/
theorem handleOf (n : Int) (n0 : 0 ≤ n) (n1 : n ≤ 18446744073709551615) : ∃ (p q : Int) (r : Bool), (∀ w : World, Calls Try.prog 10 #[.int .u64 n] w fun e w' => e = .returned (.tuple #[.agg #[.int .i64 p, .int .i64 q], .bool r]) ∧ Below w.heap.size w w') ∧ Fit p ∧ Fit q ∧
    ((r = true ∧ 65536 ≤ n ∧ n < 4294967296 ∧ packH p q = n) ∨ (r = false ∧ n < 65536 ∧ n < 4294967296 ∧ p = 0 ∧ q = 0) ∨ (r = false ∧ 65536 ≤ n ∧ 4294967296 ≤ n ∧ p = 0 ∧ q = 0)) := by
  by_cases h : 65536 ≤ n ∧ n ≤ 4294967295
  · exact ⟨_, _, _, fun w => handle_yes _ w h.1 h.2, ⟨by omega, by omega⟩, ⟨by omega, by omega⟩, .inl ⟨rfl, h.1, by omega, packH_back n h.1 h.2⟩⟩
  · refine ⟨_, _, _, fun w => handle_no _ w n0 n1 (by omega), ⟨by omega, by omega⟩, ⟨by omega, by omega⟩, ?_⟩
    by_cases h1 : n < 65536
    · exact .inr (.inl ⟨rfl, h1, by omega, rfl, rfl⟩)
    · exact .inr (.inr ⟨rfl, by omega, by omega, rfl, rfl⟩)

theorem refPut_H (s g x : Int) (w : World) (B1 B2 : Nat) (hB1 : B1 = w.heap.size) (hB2 : B2 = w.heap.size + 1) (hs : Fit s) (hg : Fit g) (hx : x = packH s g) :
    Calls Try.prog 12 #[.slice (some ⟨B1, 0, none⟩) 2 2, .slice (some ⟨B2, 0, none⟩) 2 2] ((w.alloc (.cells #[.int .i64 s, .int .i64 g] 3)).alloc (.cells #[.int .i64 16, .int .i64 16] 3)) fun e w' => e = .returned (.int .u64 x) ∧ w' = (w.alloc (.cells #[.int .i64 s, .int .i64 g] 3)).alloc (.cells #[.int .i64 16, .int .i64 16] 3) := by
  have h := refPut_rows [s, g] [16, 16] w 2 rfl rfl (by simp [hs, hg]) (by decide) (by decide) (by decide) B1 B2 hB1 hB2 3 #[.int .i64 s, .int .i64 g] #[.int .i64 16, .int .i64 16] rfl rfl
  rw [pack_H, ← hx] at h
  exact h

theorem putHandle_of (s g x : Int) (w : World) (hs : Fit s) (hg : Fit g) (hx : x = packH s g) :
    Calls Try.prog 9 #[.agg #[.int .i64 s, .int .i64 g]] w fun e w' => e = .returned (.int .u64 x) ∧ Below w.heap.size w w' := by
  rw [hx]; exact putHandle_any s g w hs hg

set_option maxHeartbeats 1000000 in
theorem handles_any (s g n : Int) (w : World) (hs : Fit s) (hg : Fit g) (n0 : 0 ≤ n) (n1 : n ≤ 18446744073709551615) :
    Calls Try.prog 3 #[.agg #[.int .i64 s, .int .i64 g], .int .u64 n] w fun e w' => e = .returned (.bool true) ∧ Below w.heap.size w w' := by
  obtain ⟨p, q, r, hcall, hfit⟩ := handleOfPack s g
  obtain ⟨p2, q2, r2, hcall2, fp, fq, hcase⟩ := handleOf n n0 n1
  obtain ⟨x, hx⟩ : ∃ x, x = packH s g := ⟨_, rfl⟩
  rw [← hx] at hcall
  have HX : Hid (x = packH s g) := hx
  have HC : Hid (∀ w : World, Calls Try.prog 10 #[.int .u64 x] w fun e w' => e = .returned (.tuple #[.agg #[.int .i64 p, .int .i64 q], .bool r]) ∧ Below w.heap.size w w') := hcall
  have HC2 : Hid (∀ w : World, Calls Try.prog 10 #[.int .u64 n] w fun e w' => e = .returned (.tuple #[.agg #[.int .i64 p2, .int .i64 q2], .bool r2]) ∧ Below w.heap.size w w') := hcall2
  clear hx hcall hcall2
  have hcs : s < 0 ∨ (0 ≤ s ∧ 65536 ≤ s) ∨ (0 ≤ s ∧ s < 65536 ∧ g < 1) ∨ (0 ≤ s ∧ s < 65536 ∧ 1 ≤ g ∧ 65535 < g) ∨ (0 ≤ s ∧ s < 65536 ∧ 1 ≤ g ∧ g ≤ 65535 ∧ p = s ∧ q = g ∧ r = true) := by
    by_cases a1 : s < 0
    · exact .inl a1
    · by_cases a2 : 65536 ≤ s
      · exact .inr (.inl ⟨by omega, a2⟩)
      · by_cases a3 : g < 1
        · exact .inr (.inr (.inl ⟨by omega, by omega, a3⟩))
        · by_cases a4 : 65535 < g
          · exact .inr (.inr (.inr (.inl ⟨by omega, by omega, by omega, a4⟩)))
          · exact .inr (.inr (.inr (.inr ⟨by omega, by omega, by omega, by omega, hfit (by omega) (by omega) (by omega) (by omega)⟩)))
  clear hfit
  rcases hcase with ⟨rfl, k0, k1, kp⟩ | ⟨rfl, k0, k1, rfl, rfl⟩ | ⟨rfl, k0, k1, rfl, rfl⟩
  all_goals
    try have KP : Hid (packH p2 q2 = n) := kp
    try clear kp
    rcases hcs with h0 | ⟨h0, h1⟩ | ⟨h0, h1, h2⟩ | ⟨h0, h1, h2, h3⟩ | ⟨h0, h1, h2, h3, rfl, rfl, rfl⟩
    all_goals
      go_enter Try.func3, Try.ntmps3
      go_wp2_with fail
      refine (putHandle_of _ _ x _ hs hg HX.out).mono ?_
      rintro e w1 ⟨rfl, b1⟩
      have z0 := keep b1 (World.cell?_alloc_new w _ _ 0)
      have z1 := keep b1 (World.cell?_alloc_new w _ _ 1)
      have B1 := grow (grow_alloc (Below.refl w.heap.size w) _) b1
      clear b1
      go_wp2_with fail
      refine (HC.out _).mono ?_
      rintro e w2 ⟨rfl, b2⟩
      replace z0 := keep b2 z0
      replace z1 := keep b2 z1
      replace B1 := grow B1 b2
      clear b2
      go_wp2_with fail
      refine (HC2.out _).mono ?_
      rintro e w3 ⟨rfl, b3⟩
      replace z0 := keep b3 (alloc_cell z0 _)
      replace z1 := keep b3 (alloc_cell z1 _)
      have u0 := keep b3 (World.cell?_alloc_new w2 _ _ 0)
      have u1 := keep b3 (World.cell?_alloc_new w2 _ _ 1)
      replace B1 := grow (grow_alloc B1 _) b3
      clear b3
      go_wp2_with fail
      refine (awake_any _).mono ?_
      rintro e w4 ⟨rfl, b4⟩
      replace z0 := keep b4 (alloc_cell z0 _)
      replace z1 := keep b4 (alloc_cell z1 _)
      replace u0 := keep b4 (alloc_cell u0 _)
      replace u1 := keep b4 (alloc_cell u1 _)
      have v0 := keep b4 (World.cell?_alloc_new w3 _ _ 0)
      have v1 := keep b4 (World.cell?_alloc_new w3 _ _ 1)
      replace B1 := grow (grow_alloc B1 _) b4
      clear b4
      simp at z0 z1 u0 u1 v0 v1
      have l0 := World.block_lt_of_cell? w4 _ z0
      have l1 := World.block_lt_of_cell? w4 _ u0
      have l2 := World.block_lt_of_cell? w4 _ v0
      simp only at l0 l1 l2
      go_wp2_with fail
      refine (refPut_H _ _ x _ _ _ rfl rfl hs hg HX.out).mono ?_
      rintro e w5 ⟨rfl, rfl⟩
      first
        | (have kp := KP.out; clear kp; go_wp2_with (go_at_call 9; refine (putHandle_of _ _ n _ fp fq KP.out.symm).mono ?_; rintro e w6 ⟨rfl, b6⟩); go_ret; exact ⟨rfl, grow (grow_alloc (grow_alloc B1 _) _) b6⟩)
        | (go_wp2; go_ret; exact ⟨rfl, grow_alloc (grow_alloc B1 _) _⟩)

end Go.Proofs.Ytpeglmhlooecpaa
