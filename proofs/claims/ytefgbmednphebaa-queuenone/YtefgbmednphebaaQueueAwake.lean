/- What awake comes to: true; it only makes memory. -/
import Derived.Test.YtefgbmednphebaaQueueComm
namespace Go.Proofs.Ytefgbmednphebaa
open Go.RowKit Go.Conc

theorem qnew2 (w : World) :
    Calls Try.prog 7 #[.int .i64 2] w fun e w' => ∃ L : Qloc, e = .returned (.tuple #[.pointer (some ⟨L.p, 0, none⟩), .int .i64 0]) ∧ QueueAt w' L 2 [] ∧ Below w.heap.size w w' ∧ w.heap.size ≤ L.c :=
  qnew_in 2 (by decide) (by decide) w

theorem qlen1 {w : World} {L : Qloc} {m : Nat} {x : Int} (h : QueueAt w L m [x]) :
    Calls Try.prog 11 #[.pointer (some ⟨L.p, 0, none⟩)] w fun e w' => e = .returned (.int .i64 1) ∧ w' = w := qlen_any h

theorem qroom1 {w : World} {L : Qloc} {x : Int} (h : QueueAt w L 2 [x]) :
    Calls Try.prog 12 #[.pointer (some ⟨L.p, 0, none⟩)] w fun e w' => e = .returned (.int .i64 1) ∧ ∃ n, w' = w.drewN n := qroom_any h

/-- the queue is younger than the world w: what was there stays -/
theorem qgrow {w a b : World} {L : Qloc} (h : Below w.heap.size w a) (o : Only L.has a b) (hc : w.heap.size ≤ L.c) : Below w.heap.size w b :=
  h.trans (o.below h.size (fun i hi hs => by unfold Qloc.has at hs; omega))

theorem awake03_any (w : World) :
    Calls Try.prog 8 #[] w fun e w' => e = .returned (.bool true) ∧ Below w.heap.size w w' := by
  go_enter Try.func8, Try.ntmps8
  go_wp2_with (first
    | (go_at_call 7; refine (qnew2 _).mono ?_; rintro e w1 ⟨L, rfl, q1, b1, f1⟩)
    | (go_at_call_of 10 (Value.int .i64 7); refine (qpush_room q1 7 (by decide)).mono ?_; rintro e w2 ⟨rfl, q2, o2, z2⟩)
    | (go_at_call_of 10 (Value.int .i64 8); refine (qpush_room q2 8 (by decide)).mono ?_; rintro e w3 ⟨rfl, q3, o3, z3⟩)
    | (go_at_call_of 10 (Value.int .i64 9); refine (qpush_full q3 9 (by decide)).mono ?_; rintro e w4 ⟨rfl, rfl⟩)
    | (go_at_call 9; refine (qpop_some q3).mono ?_; rintro e w5 ⟨rfl, q5, o5, z5⟩)
    | (go_at_call 11; refine (qlen1 q5).mono ?_; rintro e w6 ⟨rfl, rfl⟩)
    | (go_at_call 12; refine (qroom1 q5).mono ?_; rintro e w7 ⟨rfl, n7, rfl⟩))
  go_ret
  exact ⟨rfl, below_drewN (qgrow (qgrow (qgrow b1 o2 f1) o3 f1) o5 f1) _⟩

end Go.Proofs.Ytefgbmednphebaa
