/- WordTops answers true for every slot and count, and leaves what was in memory. -/
import Derived.Test.YtpeglmhlooecpaaLater
import Derived.Test.YtpeglmhlooecpaaAwake
import Derived.Test.YtpeglmhlooecpaaRefget
namespace Go.Proofs.Ytpeglmhlooecpaa
open Go.RowKit

theorem packT_slot (s c : Int) (h0 : 0 ≤ s) (h1 : s ≤ 65536) : packT s c % 131072 - 1 = s - 1 := by
  have h2 := cut_bd c 36 _ rfl
  have h3 := cut_id s 17 h0 (by omega)
  unfold packT; omega
theorem packT_count (s c : Int) : packT s c / 131072 % 68719476736 = cut c 36 := by
  have h1 := cut_bd s 17 _ rfl
  have h2 := cut_bd c 36 _ rfl
  unfold packT; omega

theorem topOfPack_any (s c x : Int) (w : World) (h0 : -1 ≤ s) (h1 : s ≤ 65535) (hx : x = packT (s + 1) c) :
    Calls Try.prog 30 #[.int .u64 x] w fun e w' => e = .returned (.tuple #[.int .i64 s, .int .i64 (cut c 36)]) ∧ w' = w := by
  have hb := packT_bd (s + 1) c
  have h := top_any x w (by omega) (by omega)
  rw [hx, packT_slot _ _ (by omega) (by omega), packT_count, show s + 1 - 1 = s from by omega] at h
  rw [hx]
  exact h

theorem putTop_of (s c x : Int) (w : World) (h0 : -1 ≤ s) (h1 : s ≤ 65535) (hc : Fit c) (hx : x = packT (s + 1) c) :
    Calls Try.prog 29 #[.int .i64 s, .int .i64 c] w fun e w' => e = .returned (.int .u64 x) ∧ w' = w := by
  rw [hx]; exact putTop_any s c w (by omega) h1 hc

theorem refPut_T (s1 c x : Int) (w : World) (B1 B2 : Nat) (hB1 : B1 = w.heap.size) (hB2 : B2 = w.heap.size + 1) (hs : Fit s1) (hc : Fit c) (hx : x = packT s1 c) :
    Calls Try.prog 12 #[.slice (some ⟨B1, 0, none⟩) 2 2, .slice (some ⟨B2, 0, none⟩) 2 2] ((w.alloc (.cells #[.int .i64 s1, .int .i64 c] 3)).alloc (.cells #[.int .i64 17, .int .i64 36] 3)) fun e w' => e = .returned (.int .u64 x) ∧ w' = (w.alloc (.cells #[.int .i64 s1, .int .i64 c] 3)).alloc (.cells #[.int .i64 17, .int .i64 36] 3) := by
  have h := refPut_rows [s1, c] [17, 36] w 2 rfl rfl (by simp [hs, hc]) (by decide) (by decide) (by decide) B1 B2 hB1 hB2 3 #[.int .i64 s1, .int .i64 c] #[.int .i64 17, .int .i64 36] rfl rfl
  rw [pack_T, ← hx] at h
  exact h

set_option maxHeartbeats 1000000 in
/-- the law for a slot s that is in its bounds, as the law makes it out of the one that is handed in -/
theorem tops_any (slot c : Int) (w : World) (hs : Fit slot) (hc : Fit c) :
    Calls Try.prog 8 #[.int .i64 slot, .int .i64 c] w fun e w' => e = .returned (.bool true) ∧ Below w.heap.size w w' := by
  have hcs : slot < -1 ∨ (-1 ≤ slot ∧ 65536 ≤ slot) ∨ (-1 ≤ slot ∧ slot < 65536) := by omega
  have hcc : (c < 0 ∧ cut c 36 = 0) ∨ (0 ≤ c ∧ 68719476735 < c ∧ cut c 36 = 68719476735) ∨ (0 ≤ c ∧ c ≤ 68719476735 ∧ cut c 36 = c) := by
    rcases Int.lt_or_le c 0 with h | h
    · exact .inl ⟨h, cut_neg _ _ h⟩
    · rcases Int.lt_or_le 68719476735 c with h1 | h1
      · exact .inr (.inl ⟨h, h1, cut_great c 36 h (by omega)⟩)
      · exact .inr (.inr ⟨h, h1, cut_id c 36 h (by omega)⟩)
  obtain ⟨s, hss⟩ : ∃ s, s = if slot < -1 then -1 else if 65536 ≤ slot then 65535 else slot := ⟨_, rfl⟩
  obtain ⟨x, hx⟩ : ∃ x, x = packT (s + 1) c := ⟨_, rfl⟩
  have HX : Hid (x = packT (s + 1) c) := hx
  clear hx
  rcases hcs with h0 | ⟨h0, h1⟩ | ⟨h0, h1⟩
  all_goals
    first
      | rw [if_pos h0] at hss
      | rw [if_neg (by omega), if_pos h1] at hss
      | rw [if_neg (by omega), if_neg (by omega)] at hss
    subst hss
    rcases hcc with ⟨k0, k2⟩ | ⟨k0, k1, k2⟩ | ⟨k0, k1, k2⟩
    all_goals
      go_enter Try.func8, Try.ntmps8
      go_wp2_with (first
        | (go_at_call 29; refine (putTop_of _ _ x _ (by omega) (by omega) hc HX.out).mono ?_; rintro e w1 ⟨rfl, rfl⟩)
        | (go_at_call 30; refine (topOfPack_any _ c _ _ ?_ ?_ HX.out).mono ?_; omega; omega; rintro e w1 ⟨rfl, rfl⟩)
        | (go_at_call 12; refine (refPut_T _ _ x _ _ _ ?_ ?_ ?_ hc ?_).mono ?_; simp; simp; exact ⟨by omega, by omega⟩; exact HX.out; rintro e w1 ⟨rfl, rfl⟩)
        | (go_at_call 11; refine (awake_any _).mono ?_; rintro e w2 ⟨rfl, b2⟩))
      go_ret
      exact ⟨rfl, grow (((Below.refl _ _).alloc (Nat.le_refl _) _).alloc (by simp) _) b2⟩

end Go.Proofs.Ytpeglmhlooecpaa
