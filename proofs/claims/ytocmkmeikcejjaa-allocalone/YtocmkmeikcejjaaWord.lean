/- What the program's packing and unpacking comes to: PutHandle, Handle, PutSlot, Slot and their like of package word, for every number; what was in memory stays. -/
import Derived.Test.YtocmkmeikcejjaaOnly
import Derived.Test.YtocmkmeikcejjaaLeaf
import Derived.Deep.QuietTactic
import Derived.BigQuiet
namespace Go.Proofs.Ytocmkmeikcejjaa
open Go.RowKit

set_option maxHeartbeats 400000 in
theorem putHandle_any (a b : Int) (w : World) (ha : Fit a) (hb : Fit b) :
    Calls Try.prog 57 #[.agg #[.int .i64 a, .int .i64 b]] w fun e w' => e = .returned (.int .u64 (packH a b)) ∧ Below w.heap.size w w' := by
  go_enter Try.func57, Try.ntmps57
  go_wp2
  go_quiet ((go_at_call 43; exact Calls.quiet_of_same (put_any _ _ _ _ (by first | exact ha.1 | exact hb.1) (by first | exact ha.2 | exact hb.2) (by decide) (by decide) (by decide) (by decide))))
  go_wp2
  go_ret
  exact ⟨ret_int (orH _ _), below_drewN ((Below.refl _ _).alloc (Nat.le_refl _) _) _⟩

set_option maxHeartbeats 400000 in
theorem putSlot_any (a b c d : Int) (w : World) (ha : Fit a) (hb : Fit b) (hc : Fit c) (hd : Fit d) :
    Calls Try.prog 29 #[.agg #[.int .i64 a, .int .i64 b, .int .i64 c, .int .i64 d]] w fun e w' => e = .returned (.int .u64 (packS a b c d)) ∧ Below w.heap.size w w' := by
  go_enter Try.func29, Try.ntmps29
  go_wp2
  go_quiet ((go_at_call 43; exact Calls.quiet_of_same (put_any _ _ _ _ (by first | exact ha.1 | exact hb.1 | exact hc.1 | exact hd.1) (by first | exact ha.2 | exact hb.2 | exact hc.2 | exact hd.2) (by decide) (by decide) (by decide) (by decide))))
  go_wp2
  go_ret
  exact ⟨ret_int (orS _ _ _ _), below_drewN ((Below.refl _ _).alloc (Nat.le_refl _) _) _⟩

set_option maxHeartbeats 400000 in
theorem putChunk_any (a b c d : Int) (w : World) (ha : Fit a) (hb : Fit b) (hc : Fit c) (hd : Fit d) :
    Calls Try.prog 83 #[.agg #[.int .i64 a, .int .i64 b, .int .i64 c, .int .i64 d]] w fun e w' => e = .returned (.int .u64 (packC a b c d)) ∧ Below w.heap.size w w' := by
  go_enter Try.func83, Try.ntmps83
  go_wp2
  go_quiet ((go_at_call 43; exact Calls.quiet_of_same (put_any _ _ _ _ (by first | exact ha.1 | exact hb.1 | exact hc.1 | exact hd.1) (by first | exact ha.2 | exact hb.2 | exact hc.2 | exact hd.2) (by decide) (by decide) (by decide) (by decide))))
  go_wp2
  go_ret
  exact ⟨ret_int (orC _ _ _ _), below_drewN ((Below.refl _ _).alloc (Nat.le_refl _) _) _⟩

set_option maxHeartbeats 400000 in
theorem putHead_any (a b c d : Int) (o : Bool) (w : World) (ha : Fit a) (hb : Fit b) (hc : Fit c) (hd : Fit d) :
    Calls Try.prog 56 #[.agg #[.int .i64 a, .int .i64 b, .int .i64 c, .int .i64 d, .bool o]] w fun e w' => e = .returned (.int .u64 (packOw a b c d o)) ∧ Below w.heap.size w w' := by
  go_enter Try.func56, Try.ntmps56
  go_wp2
  go_quiet ((go_at_call 43; exact Calls.quiet_of_same (put_any _ _ _ _ (by first | exact ha.1 | exact hb.1 | exact hc.1 | exact hd.1) (by first | exact ha.2 | exact hb.2 | exact hc.2 | exact hd.2) (by decide) (by decide) (by decide) (by decide))))
  have e := orO a b c d
  have h0 := packO_bd a b c d
  cases o
  · go_wp2
    go_ret
    exact ⟨ret_int (by simp [packOw, e]), below_drewN ((Below.refl _ _).alloc (Nat.le_refl _) _) _⟩
  · go_wp2
    go_ret
    exact ⟨ret_int (by first | exact orOw _ _ _ _ | (rw [e]; exact orOw _ _ _ _)), below_drewN ((Below.refl _ _).alloc (Nat.le_refl _) _) _⟩

set_option maxHeartbeats 400000 in
theorem putTop_any (s c : Int) (w : World) (hs0 : -9223372036854775808 ≤ s) (hs1 : s ≤ 65535) (hc : Fit c) :
    Calls Try.prog 28 #[.int .i64 s, .int .i64 c] w fun e w' => e = .returned (.int .u64 (packT (s + 1) c)) ∧ w' = w := by
  go_enter Try.func28, Try.ntmps28
  go_wp2_with (go_at_call 43; refine (put_any _ _ _ _ (by first | omega | exact hc.1) (by first | omega | exact hc.2) (by decide) (by decide) (by decide) (by decide)).mono ?_; rintro e w' ⟨rfl, rfl⟩)
  go_ret
  exact ⟨ret_int (orT _ _), rfl⟩

end Go.Proofs.Ytocmkmeikcejjaa
