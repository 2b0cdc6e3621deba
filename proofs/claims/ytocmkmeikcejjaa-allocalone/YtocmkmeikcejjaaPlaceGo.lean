/- One who wants words: a step, by what is done next. -/
import Derived.Test.YtocmkmeikcejjaaPlaceLook
namespace Go.Proofs.Ytocmkmeikcejjaa
open Go.RowKit

theorem pstep_any {w : World} {L : Loc} {s : Mm} {b o : Nat} {T : TypeId} {cs : Array Value} {z sn ch ws sa sb nx' sn' ch' ws' sa' sb' : Int} {s' : Mm} {κ : Nat} (h : MemAt w L s) (hi : At w b o T cs (PlV z κ sn ch ws sa sb)) (c0 c1 c2 c3 c4 c5 c6 who : Int) (hmay : may c0 c1 c2 c3 c4 c5 c6 = true) (hκ : κ < 4) {f : Nat} (hf : (z = 0 ∧ f = 68) ∨ (z = 1 ∧ f = 69) ∨ (z = 2 ∧ f = 70) ∨ (z = 3 ∧ f = 71) ∨ (z = 4 ∧ f = 72) ∨ (z = 5 ∧ f = 73) ∨ (z = 6 ∧ f = 74)) (d : Bool) (hd : decide (7 ≤ nx') = d)
    (hc : ∀ w1 : World, MemAt w1 L s → At w1 b o T cs (PlV z κ sn ch ws sa sb) → Calls Try.prog f #[.pointer (some ⟨b, o, none⟩), .agg #[.int .i64 c0, .int .i64 c1, .int .i64 c2, .int .i64 c3, .int .i64 c4, .int .i64 c5, .int .i64 c6, .pointer (some ⟨L.p, 0, none⟩), .int .i64 who]] w1 fun e w' => e = .returned (.tuple #[]) ∧ MemAt w' L s' ∧ Only (L.and b) w1 w' ∧ ∃ cs', At w' b o T cs' (PlV nx' κ sn' ch' ws' sa' sb') ∧ Same o 7 cs cs') :
    Calls Try.prog 50 #[.pointer (some ⟨b, o, none⟩), .agg #[.int .i64 c0, .int .i64 c1, .int .i64 c2, .int .i64 c3, .int .i64 c4, .int .i64 c5, .int .i64 c6, .pointer (some ⟨L.p, 0, none⟩), .int .i64 who]] w fun e w' => e = .returned (.bool d) ∧ MemAt w' L s' ∧ Only (L.and b) w w' ∧ ∃ cs', At w' b o T cs' (PlV nx' κ sn' ch' ws' sa' sb') ∧ Same o 7 cs cs' := by
  have hq : ((room κ : Int) == 0) = false := by have := room_bd κ; simp; omega
  have cy := fun w => lcheck_any c0 c1 c2 c3 c4 c5 c6 w
  rw [hmay] at cy
  have i1 := hi.grown (grow_alloc (Below.refl _ _) (.cells #[.int .i64 c0, .int .i64 c1, .int .i64 c2, .int .i64 c3, .int .i64 c4, .int .i64 c5, .int .i64 c6, .pointer (some ⟨L.p, 0, none⟩), .int .i64 who] 27))
  have m1 := h.alloc (.cells #[.int .i64 c0, .int .i64 c1, .int .i64 c2, .int .i64 c3, .int .i64 c4, .int .i64 c5, .int .i64 c6, .pointer (some ⟨L.p, 0, none⟩), .int .i64 who] 27)
  have v1 : BoxV (w.alloc (.cells #[.int .i64 c0, .int .i64 c1, .int .i64 c2, .int .i64 c3, .int .i64 c4, .int .i64 c5, .int .i64 c6, .pointer (some ⟨L.p, 0, none⟩), .int .i64 who] 27)) w.heap.size c0 c1 c2 c3 c4 c5 c6 L.p who := BoxV.new
  have o1 : Only (L.and b) w (w.alloc (.cells #[.int .i64 c0, .int .i64 c1, .int .i64 c2, .int .i64 c3, .int .i64 c4, .int .i64 c5, .int .i64 c6, .pointer (some ⟨L.p, 0, none⟩), .int .i64 who] 27)) := (Only.refl _ _).alloc _
  have k0 := i1.cell0 rfl
  have k1 := i1.cell 1 rfl
  rcases hf with ⟨rfl, rfl⟩ | ⟨rfl, rfl⟩ | ⟨rfl, rfl⟩ | ⟨rfl, rfl⟩ | ⟨rfl, rfl⟩ | ⟨rfl, rfl⟩ | ⟨rfl, rfl⟩
  all_goals
    go_enter Try.func50, Try.ntmps50
    go_wp2_with (first
      | (go_at_call 54; refine (lroom_w κ hκ _).mono ?_; rintro e w2 ⟨rfl, rfl⟩)
      | (go_at_call 23; refine (cy _).mono ?_; rintro e w3 ⟨rfl, b3⟩; have i3 := i1.grown b3; have m3 := m1.below b3; have v3 := v1.grown b3; have z0 := v3.c0; have z1 := v3.c1; have z2 := v3.c2; have z3 := v3.c3; have z4 := v3.c4; have z5 := v3.c5; have z6 := v3.c6; have z7 := v3.c7; have z8 := v3.c8; have q0 := i3.cell0 rfl)
      | (go_at_call 68; refine (hc _ m3 i3).mono ?_; rintro e w4 ⟨rfl, m4, o4, cs4, i4, s4⟩; have r0 := i4.cell0 rfl) | (go_at_call 69; refine (hc _ m3 i3).mono ?_; rintro e w4 ⟨rfl, m4, o4, cs4, i4, s4⟩; have r0 := i4.cell0 rfl) | (go_at_call 70; refine (hc _ m3 i3).mono ?_; rintro e w4 ⟨rfl, m4, o4, cs4, i4, s4⟩; have r0 := i4.cell0 rfl) | (go_at_call 71; refine (hc _ m3 i3).mono ?_; rintro e w4 ⟨rfl, m4, o4, cs4, i4, s4⟩; have r0 := i4.cell0 rfl) | (go_at_call 72; refine (hc _ m3 i3).mono ?_; rintro e w4 ⟨rfl, m4, o4, cs4, i4, s4⟩; have r0 := i4.cell0 rfl) | (go_at_call 73; refine (hc _ m3 i3).mono ?_; rintro e w4 ⟨rfl, m4, o4, cs4, i4, s4⟩; have r0 := i4.cell0 rfl) | (go_at_call 74; refine (hc _ m3 i3).mono ?_; rintro e w4 ⟨rfl, m4, o4, cs4, i4, s4⟩; have r0 := i4.cell0 rfl))
    go_ret
    exact ⟨rfl, m4, (o1.trans (Only.ofGrown b3)).trans o4, cs4, i4, s4⟩

end Go.Proofs.Ytocmkmeikcejjaa
