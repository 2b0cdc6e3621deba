/- AccessNone answers true for all wants, and leaves what was in memory. -/
import Derived.Test.YtcdmokbamakomaaGreatAccForge
namespace Go.Proofs.YtcdmokbamakomaaGreat
open Go.RowKit

set_option maxHeartbeats 1000000 in
theorem accessNone_any (A : Wt) (hA : WantFit A) (w : World) :
    Calls Tryz.prog 8 #[.agg #[.int .i64 A.kd, .int .u64 A.nu, .int .i64 A.ix, .int .i64 A.vl, .int .i64 A.ol]] w fun e w' => e = .returned (.bool true) ∧ Below w.heap.size w w' := by
  have hG : Good 1 1 1 17 100 600 3 := goodp (by omega) (by omega) (by omega) (by omega)
  have AR := fun w => arena08 hG (by omega) w
  obtain ⟨kd, hkd, hk3, e1, e2⟩ := kind3 A.kd
  have f0 : ∀ (a1 a2 a3 a4 : Value) (w : World), (Instr.field 37 (.agg #[a1, a2, a3, a4]) 0).run Tryz.prog w = .ok a1 w := fun a1 a2 a3 a4 w => by kernel_rfl
  obtain ⟨fkd, fnu, fix, fvl, fol⟩ := hA
  have x0 := At.new w 40 [.int .i64 A.kd, .int .u64 A.nu, .int .i64 A.ix, .int .i64 A.vl, .int .i64 A.ol]
  go_enter Tryz.func8, Tryz.ntmps8
  go_wp2_with (first
    | (go_at_call 9; refine (AR _).mono ?_; rintro e w1 ⟨L, s, rfl, m1, t1, b1, l1⟩; have l2 : ∀ k, L.has k → w.heap.size + 1 ≤ k := (fun k hk => by have := l1 k hk; rwa [Go.Deep.nblk_alloc] at this); have hlt : w.heap.size < w1.heap.size := (by have := b1.size; rw [Go.Deep.nblk_alloc] at this; omega); obtain ⟨c1, pa⟩ := Farm.first (w0 := w) hG m1 t1 (grow (grow1 _ _) b1) (fun k hk => by have := l2 k hk; omega))
    | (go_at_call 10; refine (awake10_any _).mono ?_; rintro e w2 ⟨rfl, b2⟩; have x2 := ((x0.grown b1).grown (grow1 _ _)).grown b2; have xf := x2.fz; have u0 := x2.at0 0 rfl; have c3 := (c1.grown b2).setIn (b := w.heap.size) (Nat.le_refl _) (by omega) (fun hh => by have := l2 _ hh; omega) 0 (.int .i64 kd); have x3 := x2.put0 0 (.int .i64 kd); have t0 := x3.at0 0 rfl; have t1 := x3.at0 1 rfl; have t2 := x3.at0 2 rfl; have t3 := x3.at0 3 rfl; have t4 := x3.at0 4 rfl; have y0 := c3.v.c0; have y1 := c3.v.c1; have y2 := c3.v.c2; have y3 := c3.v.c3; have y4 := c3.v.c4; have y5 := c3.v.c5; have y6 := c3.v.c6; have y7 := c3.v.c7; have y8 := c3.v.c8)
    | (go_at_call 13; refine (forged10 (W := ⟨kd, A.nu, A.ix, A.vl, A.ol⟩) (own := false) fnu ⟨hk3, fvl⟩ pa (by decide) (cover0 1) (fun o ho => by cases ho) c3).mono ?_; rintro e w4 ⟨st, s4, rfl, m4, n4, d4, v4, b4, o4⟩; have g5 := At.new w4 37 [.int .i64 3, .int .u64 0, .int .i64 0, .int .i64 st]; have b5 := grow_alloc b4 (.cells #[.int .i64 3, .int .u64 0, .int .i64 0, .int .i64 st] 37))
    | (go_at_call 17; refine (adone_nil _).mono ?_; rintro e w6 ⟨rfl, b6⟩; have g6 := g5.grown b6; have r0 := g6.at0 0 rfl))
  go_ret
  exact ⟨rfl, grow b5 b6⟩

end Go.Proofs.YtcdmokbamakomaaGreat
