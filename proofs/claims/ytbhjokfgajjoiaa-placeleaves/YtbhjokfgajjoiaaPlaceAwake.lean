/- The statements' own first look at package place comes to true, and only makes memory. -/
import Derived.Test.YtbhjokfgajjoiaaPlaceSolo
namespace Go.Proofs.Ytbhjokfgajjoiaa
open Go.RowKit

set_option maxHeartbeats 1000000 in
theorem awake07_any (w : World) :
    Calls Try.prog 9 #[] w fun e w' => e = .returned (.bool true) ∧ Below w.heap.size w w' := by
  have ar := arena07 (t := 1) (n := 1) (k := 2) (m := 20) (goodp (by omega) (by omega) (by omega) (by omega))
  have G1 : Hid (Got 2 20 0 (base 1 1 2 20) Y.new 0 ⟨upd Y.new.ck 0 ⟨1, 0, room 0, (Y.new.ck 0).sp + 1⟩, upd Y.new.op 0 (0 + 1)⟩ (0 + 1) (.won (base 1 1 2 20 0) 0)) := .new (fun i h => absurd h (by simp [Y.new])) (by omega)
  have G2 : Hid (Got 2 20 0 (base 1 1 2 20) ⟨upd Y.new.ck 0 ⟨1, 0, room 0, (Y.new.ck 0).sp + 1⟩, upd Y.new.op 0 (0 + 1)⟩ (0 + 1) _ (0 + 1) (.won (base 1 1 2 20 0 + 3) 0)) := .fit 0 rfl (by decide)
  have A1 := alone0 2
  have A2 : Hid (Alone 2 ⟨upd Y.new.ck 0 ⟨1, 0, room 0, (Y.new.ck 0).sp + 1⟩, upd Y.new.op 0 (0 + 1)⟩ (0 + 1)) := G1.out.alone A1 (by omega)
  have hAr : Arena 1 1 2 20 := (goodp (t := 1) (n := 1) (k := 2) (m := 20) (by omega) (by omega) (by omega) (by omega)).arena
  go_enter Try.func9, Try.ntmps9
  go_wp2_with (first
    | (go_at_call 8; refine (ar _).mono ?_; rintro e w1 ⟨L, s, rfl, m1, y1, b1, f1⟩; obtain ⟨p1, pa⟩ := Plot.first (goodp (t := 1) (n := 1) (k := 2) (m := 20) (by omega) (by omega) (by omega) (by omega)) m1 y1 b1 f1)
    | (go_at_call 11; refine (p2'.get pa (by omega) (by omega) A2.out G2.out 18 0 true rfl).mono ?_; rintro e w3 ⟨rfl, s3, σ3, h3, p3, o3, k3⟩)
    | (go_at_call 11; refine (p1.get pa (by omega) (by omega) A1 G1.out 15 0 true rfl).mono ?_; rintro e w2 ⟨rfl, s2, σ2, h2, p2, o2, k2⟩; have p2' := p2.alloc (.cells #[.int .i64 15, .int .i64 0] 34); have z0 := p2'.v.c0; have z1 := p2'.v.c1; have z2 := p2'.v.c2; have z3 := p2'.v.c3; have z4 := p2'.v.c4; have z5 := p2'.v.c5; have z6 := p2'.v.c6; have z7 := p2'.v.c7; have z8 := p2'.v.c8))
  have j2 := (At.new w2 34 [.int .i64 15, .int .i64 0]).only o3 p2.ltL
  have p4 := p3.alloc (.cells #[.int .i64 18, .int .i64 0] 34)
  obtain ⟨B2, hB2⟩ : ∃ B, w2.heap.size = B := ⟨_, rfl⟩
  obtain ⟨B3, hB3⟩ : ∃ B, w3.heap.size = B := ⟨_, rfl⟩
  obtain ⟨BE, hBE⟩ : ∃ B, w1.heap.size = B := ⟨_, rfl⟩
  have j3 := At.new w3 34 [.int .i64 18, .int .i64 0]
  rw [hB2] at j2 ⊢
  rw [hB3] at j3 ⊢
  rw [hBE] at p4 ⊢
  refine wp_over (fun W => BoxV W BE 1 1 2 20 100 600 3 L.p 0 ∧ At W B2 0 34 _ [.int .i64 15, .int .i64 0] ∧ At W B3 0 34 _ [.int .i64 18, .int .i64 0] ∧ Below w.heap.size w W) ⟨p4.v, j2.grown (grow_alloc (Below.refl _ _) _), j3, p4.b⟩ ?_
  clear p4 j2 j3 p3 p2 p2' z0 z1 z2 z3 z4 z5 z6 z7 z8 o2 o3 k2 k3 h2 h3 hB2 hB3 hBE p1 pa A1 A2 G1 G2 ar y1
  rintro W ⟨v, j2, j3, bb⟩
  have e0 := fun N : Later W => (v.grown N.below).c0
  have e1 := fun N : Later W => (v.grown N.below).c1
  have e2 := fun N : Later W => (v.grown N.below).c2
  have e3 := fun N : Later W => (v.grown N.below).c3
  have e4 := fun N : Later W => (v.grown N.below).c4
  have e5 := fun N : Later W => (v.grown N.below).c5
  have e6 := fun N : Later W => (v.grown N.below).c6
  have g0 := fun N : Later W => (j2.grown N.below).at0 0 rfl
  have g1 := fun N : Later W => (j3.grown N.below).at0 0 rfl
  have g2 := fun N : Later W => (j3.grown N.below).at0 1 rfl
  haveI := Later.exists W
  refine wp_region_later (by kernel_rfl) (by kernel_rfl) ?_
  repeat (go_big_quiet_step ((go_at_call 12; exact Calls.later (lbase_any _ _ _ _ _ _ _ _ 0 _ hAr (by omega) (by omega) (by omega)))))
  refine wpQuiet_nil ?_
  rintro _ ⟨nq, rfl⟩
  clear e0 e1 e2 e3 e4 e5 e6 g0 g1 g2
  go_wp2
  go_ret
  exact ⟨rfl, grow bb nq.below⟩

end Go.Proofs.Ytbhjokfgajjoiaa
