/- The statements' own helper: to get words alone. -/
import Derived.Test.YtbhjokfgajjoiaaPlaceField
namespace Go.Proofs.Ytbhjokfgajjoiaa
open Go.RowKit

section
variable {w : World} {L : Loc} {t n k m σ κ : Nat} {s : Mm} {y : Y}

set_option maxHeartbeats 1000000 in
theorem get_goes (h : MemAt w L s) (hy : Yard t n k m s σ y) (hG : Good t n k m 100 600 3) (hκ : κ < 4) (hσ : σ + 300 < 1000000) {N : Nat} (hN : N ≤ 300) {y' : Y} {τ' : Pl} (g : Goes k m κ (base t n k m) N y .see y' τ') (a i : Nat) (d : Bool) (ht : τ'.told = (a, i, d)) :
    Calls Try.prog 11 #[.agg #[.int .i64 t, .int .i64 n, .int .i64 k, .int .i64 m, .int .i64 100, .int .i64 600, .int .i64 3, .pointer (some ⟨L.p, 0, none⟩), .int .i64 0], .int .i64 κ] w fun e w' => e = .returned (.tuple #[.agg #[.int .i64 a, .int .i64 i], .bool d]) ∧ ∃ s', MemAt w' L s' ∧ Yard t n k m s' (σ + N) y' ∧ Only L.has w w' ∧ Kept t n k s s' := by
  have hB : Hid (¬ L.has w.heap.size) := fun hh => by have := h.lt _ hh; omega
  have hB1 : Hid (¬ L.has (w.heap.size + 1)) := fun hh => by have := h.lt _ hh; omega
  have hB2 : Hid (¬ L.has (w.heap.size + 2)) := fun hh => by have := h.lt _ hh; omega
  have HY : Hid (Yard t n k m s σ y) := hy
  have HM : Hid (MemAt w L s) := h
  have HG : Hid (Good t n k m 100 600 3) := hG
  have GG : Hid (Goes k m κ (base t n k m) N y .see y' τ') := g
  have HT : Hid (τ'.told = (a, i, d)) := ht
  clear h hy hG g ht
  go_enter Try.func11, Try.ntmps11
  go_wp2_with (go_at_call 17; refine (newPlace_any κ _).mono ?_; rintro e w1 ⟨rfl, rfl⟩)
  have A1 : Hid (∃ s1 cs1, MemAt (((w.alloc (.cells #[.int .i64 t, .int .i64 n, .int .i64 k, .int .i64 m, .int .i64 100, .int .i64 600, .int .i64 3, .pointer (some ⟨L.p, 0, none⟩), .int .i64 0] 27)).alloc (.cells #[.int .i64 0, .int .i64 0] 34)).alloc (place0 κ)) L s1 ∧ Yard t n k m s1 (σ + 0) y ∧ PlAt (((w.alloc (.cells #[.int .i64 t, .int .i64 n, .int .i64 k, .int .i64 m, .int .i64 100, .int .i64 600, .int .i64 3, .pointer (some ⟨L.p, 0, none⟩), .int .i64 0] 27)).alloc (.cells #[.int .i64 0, .int .i64 0] 34)).alloc (place0 κ)) (w.heap.size + 1 + 1) 0 71 cs1 κ .see ∧ Pl.see.good k m κ (σ + 0) ∧ BoxV (((w.alloc (.cells #[.int .i64 t, .int .i64 n, .int .i64 k, .int .i64 m, .int .i64 100, .int .i64 600, .int .i64 3, .pointer (some ⟨L.p, 0, none⟩), .int .i64 0] 27)).alloc (.cells #[.int .i64 0, .int .i64 0] 34)).alloc (place0 κ)) w.heap.size t n k m 100 600 3 L.p 0 ∧ At (((w.alloc (.cells #[.int .i64 t, .int .i64 n, .int .i64 k, .int .i64 m, .int .i64 100, .int .i64 600, .int .i64 3, .pointer (some ⟨L.p, 0, none⟩), .int .i64 0] 27)).alloc (.cells #[.int .i64 0, .int .i64 0] 34)).alloc (place0 κ)) (w.heap.size + 1) 0 34 #[.int .i64 0, .int .i64 0] [.int .i64 0, .int .i64 0] ∧ Only (L.and (w.heap.size + 1 + 1)) w (((w.alloc (.cells #[.int .i64 t, .int .i64 n, .int .i64 k, .int .i64 m, .int .i64 100, .int .i64 600, .int .i64 3, .pointer (some ⟨L.p, 0, none⟩), .int .i64 0] 27)).alloc (.cells #[.int .i64 0, .int .i64 0] 34)).alloc (place0 κ)) ∧ Kept t n k s s1) := by
    have q := place0_at κ ((w.alloc (.cells #[.int .i64 t, .int .i64 n, .int .i64 k, .int .i64 m, .int .i64 100, .int .i64 600, .int .i64 3, .pointer (some ⟨L.p, 0, none⟩), .int .i64 0] 27)).alloc (.cells #[.int .i64 0, .int .i64 0] 34))
    rw [Go.Deep.nblk_alloc, Go.Deep.nblk_alloc] at q
    have q1 := (At.new (w.alloc (.cells #[.int .i64 t, .int .i64 n, .int .i64 k, .int .i64 m, .int .i64 100, .int .i64 600, .int .i64 3, .pointer (some ⟨L.p, 0, none⟩), .int .i64 0] 27)) 34 [.int .i64 0, .int .i64 0]).grown (grow_alloc (Below.refl _ _) (place0 κ))
    rw [Go.Deep.nblk_alloc] at q1
    exact ⟨s, _, ((HM.out.alloc _).alloc _).alloc _, HY.out, q, trivial, (BoxV.newB _).grown (grow_alloc (Below.refl _ _) _), q1, (((Only.refl _ _).alloc _).alloc _).alloc _, Kept.refl _ _ _ _⟩
  clear HM HY
  go_loopw [7] (fun i wr => ∃ (j N1 : Nat) (s1 : Mm) (cs1 : Array Value) (y1 : Y) (τ1 : Pl), i = .int .i64 j ∧ j + N1 = N ∧ Goes k m κ (base t n k m) N1 y1 τ1 y' τ' ∧ MemAt wr L s1 ∧ Yard t n k m s1 (σ + j) y1 ∧ PlAt wr (w.heap.size + 1 + 1) 0 71 cs1 κ τ1 ∧ τ1.good k m κ (σ + j) ∧ BoxV wr w.heap.size t n k m 100 600 3 L.p 0 ∧ At wr (w.heap.size + 1) 0 34 #[.int .i64 0, .int .i64 0] [.int .i64 0, .int .i64 0] ∧ Only (L.and (w.heap.size + 1 + 1)) w wr ∧ Kept t n k s s1) (fun i _ => 300 - (intOf i).toNat)
  case atStart =>
    obtain ⟨s1, cs1, hm⟩ := A1.out
    exact ⟨0, N, s1, cs1, y, .see, rfl, by omega, GG.out, hm⟩
  case round =>
    clear A1 GG
    obtain ⟨j, N1, s1, cs1, y1, τ1, rfl, hj, gg, mm, yd, ia, gd, v, j1, on, kp⟩ := hrel
    have hN1 := gg.pos
    have hj3 : (j : Int) < 300 := by omega
    have y0 := v.c0
    have y1 := v.c1
    have y2 := v.c2
    have y3 := v.c3
    have y4 := v.c4
    have y5 := v.c5
    have y6 := v.c6
    have y7 := v.c7
    have y8 := v.c8
    cases gg with
    | one ho ht h1 =>
      have HT1 : Hid _ := ht
      have HO : Hid (τ1.over = false) := ho
      clear ht ho
      go_wp2_with (first
        | (go_at_call 18; refine (place_turn mm hB2.out yd HG.out (by omega) hκ τ1 ia gd HO.out 0 _ _ HT1.out true h1).mono ?_; rintro e w2 ⟨rfl, s2, cs2, P⟩)
        | (go_at_call 19; refine (spot_any P.a a i d HT.out).mono ?_; rintro e w3 ⟨rfl, b3⟩; have j3 := (j1.only P.only (fun hh => hh.elim hB1.out (by omega))).grown b3; have q0 := j3.at0 0 rfl; have q1 := j3.at0 1 rfl; have qf := j3.fz))
      refine bodyPost_ret (v := .tuple #[.agg #[.int .i64 a, .int .i64 i], .bool d]) (by simp [results, Try.results11, go_sem, q0, q1]) rfl ?_
      refine ⟨rfl, s2, ((P.mm.below b3).setIn hB1.out _ _).setIn hB1.out _ _, ?_, ?_, kp.trans P.kept⟩
      · have := P.yd
        rwa [show σ + j + 1 = σ + N by omega] at this
      · exact ((((on.trans P.only).trans (Only.ofGrown b3)).setCell (fun hlt => by simp only at hlt; omega) _).setCell (fun hlt => by simp only at hlt; omega) _).mono (fun x hx hh => hh.elim id (fun e => absurd e (by omega)))
    | more ho ht h1 g1 =>
      have HT1 : Hid _ := ht
      have HO : Hid (τ1.over = false) := ho
      clear ht ho
      go_wp2_with (go_at_call 18; refine (place_turn mm hB2.out yd HG.out (by omega) hκ τ1 ia gd HO.out 0 _ _ HT1.out false h1).mono ?_; rintro e w2 ⟨rfl, s2, cs2, P⟩)
      go_roundw
      case rel =>
        exact ⟨j + 1, _, s2, cs2, _, _, by go_num, by omega, g1, P.mm, P.yd, P.a, P.good, v.only P.only (fun hh => hh.elim hB.out (by omega)), j1.only P.only (fun hh => hh.elim hB1.out (by omega)), on.trans P.only, kp.trans P.kept⟩
      case measure => simp [intOf]; omega
end

end Go.Proofs.Ytbhjokfgajjoiaa
