/- The statements' own helper: to make an object alone. -/
import Derived.Test.YtocmkmeikcejjaaAllocTurn
namespace Go.Proofs.Ytocmkmeikcejjaa
open Go.RowKit

/-- alone: so many steps, the last of which ends it -/
inductive Runs (t n k m κ : Nat) (z : Int) (own : Bool) : Nat → Nat → Q → Al → Q → Al → Prop where
  | one {σ : Nat} {q : Q} {α : Al} {q' : Q} {α' : Al} (ho : α.over? = false) (ht : alTurn t n k m κ z own σ q α = (q', α')) (h : α'.over? = true) : Runs t n k m κ z own 1 σ q α q' α'
  | more {N σ : Nat} {q : Q} {α : Al} {q1 : Q} {α1 : Al} {q' : Q} {α' : Al} (ho : α.over? = false) (ht : alTurn t n k m κ z own σ q α = (q1, α1)) (h : α1.over? = false) (g : Runs t n k m κ z own N (σ + 1) q1 α1 q' α') : Runs t n k m κ z own (N + 1) σ q α q' α'

theorem Runs.pos {t n k m κ : Nat} {z : Int} {own : Bool} {N σ : Nat} {q : Q} {α : Al} {q' : Q} {α' : Al} (g : Runs t n k m κ z own N σ q α q' α') : 1 ≤ N := by
  cases g <;> omega

section
variable {w : World} {L : Loc} {t n k m σ κ : Nat} {s : Mm} {q : Q} {z : Int} {own : Bool}

set_option maxHeartbeats 1000000 in
theorem make_goes {cg cp cr : Int} (h : MemAt w L s) (hT : Town t n k m s σ q) (hG : Good t n k m cg cp cr) (fz : Fit z) (hz : classOf z = κ) (hκ : κ < 4) (hσ : σ + 400 < 1000000) {N : Nat} (hN : N ≤ 400) {q' : Q} {E H : Int} {st : Nat} (g : Runs t n k m κ z own N σ q (.take .idle) q' (.over E H st)) :
    Calls Try.prog 7 #[.agg #[.int .i64 t, .int .i64 n, .int .i64 k, .int .i64 m, .int .i64 cg, .int .i64 cp, .int .i64 cr, .pointer (some ⟨L.p, 0, none⟩), .int .i64 0], .int .i64 z, .bool own] w fun e w' => e = .returned (.agg #[.int .i64 E, .int .u64 H, .int .i64 0, .int .i64 st]) ∧ ∃ s', MemAt w' L s' ∧ Town t n k m s' (σ + N) q' ∧ Only L.has w w' := by
  have hB : Hid (¬ L.has w.heap.size) := fun hh => by have := h.lt _ hh; omega
  have hB1 : Hid (¬ L.has (w.heap.size + 1)) := fun hh => by have := h.lt _ hh; omega
  have hB2 : Hid (¬ L.has (w.heap.size + 1 + 1)) := fun hh => by have := h.lt _ hh; omega
  have HT : Hid (Town t n k m s σ q) := hT
  have HM : Hid (MemAt w L s) := h
  have HG : Hid (Good t n k m cg cp cr) := hG
  have HZ : Hid (classOf z = κ) := hz
  have GG : Hid (Runs t n k m κ z own N σ q (.take .idle) q' (.over E H st)) := g
  clear h hT hG g hz
  go_enter Try.func7, Try.ntmps7
  go_wp2_with (go_at_call 13; refine (newAlloc_any z own _).mono ?_; rintro e w1 ⟨rfl, rfl⟩)
  have A1 : Hid (∃ s1 cs1 a1, MemAt (((w.alloc (.cells #[.int .i64 t, .int .i64 n, .int .i64 k, .int .i64 m, .int .i64 cg, .int .i64 cp, .int .i64 cr, .pointer (some ⟨L.p, 0, none⟩), .int .i64 0] 27)).alloc (.cells #[.int .i64 0, .int .u64 0, .int .i64 0, .int .i64 0] 36)).alloc (alloc0 z own)) L s1 ∧ Town t n k m s1 (σ + 0) q ∧ AlAt (((w.alloc (.cells #[.int .i64 t, .int .i64 n, .int .i64 k, .int .i64 m, .int .i64 cg, .int .i64 cp, .int .i64 cr, .pointer (some ⟨L.p, 0, none⟩), .int .i64 0] 27)).alloc (.cells #[.int .i64 0, .int .u64 0, .int .i64 0, .int .i64 0] 36)).alloc (alloc0 z own)) (w.heap.size + 1 + 1) 0 83 cs1 a1 ∧ AlIs z own κ (.take .idle) a1 ∧ (Al.take .idle).good t n k m κ (σ + 0) q ∧ BoxV (((w.alloc (.cells #[.int .i64 t, .int .i64 n, .int .i64 k, .int .i64 m, .int .i64 cg, .int .i64 cp, .int .i64 cr, .pointer (some ⟨L.p, 0, none⟩), .int .i64 0] 27)).alloc (.cells #[.int .i64 0, .int .u64 0, .int .i64 0, .int .i64 0] 36)).alloc (alloc0 z own)) w.heap.size t n k m cg cp cr L.p 0 ∧ At (((w.alloc (.cells #[.int .i64 t, .int .i64 n, .int .i64 k, .int .i64 m, .int .i64 cg, .int .i64 cp, .int .i64 cr, .pointer (some ⟨L.p, 0, none⟩), .int .i64 0] 27)).alloc (.cells #[.int .i64 0, .int .u64 0, .int .i64 0, .int .i64 0] 36)).alloc (alloc0 z own)) (w.heap.size + 1) 0 36 #[.int .i64 0, .int .u64 0, .int .i64 0, .int .i64 0] [.int .i64 0, .int .u64 0, .int .i64 0, .int .i64 0] ∧ Only (L.and (w.heap.size + 1 + 1)) w (((w.alloc (.cells #[.int .i64 t, .int .i64 n, .int .i64 k, .int .i64 m, .int .i64 cg, .int .i64 cp, .int .i64 cr, .pointer (some ⟨L.p, 0, none⟩), .int .i64 0] 27)).alloc (.cells #[.int .i64 0, .int .u64 0, .int .i64 0, .int .i64 0] 36)).alloc (alloc0 z own))) := by
    obtain ⟨cs, q0⟩ := alloc0_at z own ((w.alloc (.cells #[.int .i64 t, .int .i64 n, .int .i64 k, .int .i64 m, .int .i64 cg, .int .i64 cp, .int .i64 cr, .pointer (some ⟨L.p, 0, none⟩), .int .i64 0] 27)).alloc (.cells #[.int .i64 0, .int .u64 0, .int .i64 0, .int .i64 0] 36))
    rw [Go.Deep.nblk_alloc, Go.Deep.nblk_alloc] at q0
    have q1 := (At.new (w.alloc (.cells #[.int .i64 t, .int .i64 n, .int .i64 k, .int .i64 m, .int .i64 cg, .int .i64 cp, .int .i64 cr, .pointer (some ⟨L.p, 0, none⟩), .int .i64 0] 27)) 36 [.int .i64 0, .int .u64 0, .int .i64 0, .int .i64 0]).grown (grow_alloc (Below.refl _ _) (alloc0 z own))
    rw [Go.Deep.nblk_alloc] at q1
    exact ⟨s, cs, _, ((HM.out.alloc _).alloc _).alloc _, HT.out, q0, al0_is z own κ, ⟨trivial, rfl⟩, (BoxV.newB _).grown (grow_alloc (Below.refl _ _) _), q1, (((Only.refl _ _).alloc _).alloc _).alloc _⟩
  clear HM HT
  go_loopw [8] (fun i wr => ∃ (j N1 : Nat) (s1 : Mm) (cs1 : Array Value) (a1 : AV) (q1 : Q) (α1 : Al), i = .int .i64 j ∧ j + N1 = N ∧ Runs t n k m κ z own N1 (σ + j) q1 α1 q' (.over E H st) ∧ MemAt wr L s1 ∧ Town t n k m s1 (σ + j) q1 ∧ AlAt wr (w.heap.size + 1 + 1) 0 83 cs1 a1 ∧ AlIs z own κ α1 a1 ∧ α1.good t n k m κ (σ + j) q1 ∧ BoxV wr w.heap.size t n k m cg cp cr L.p 0 ∧ At wr (w.heap.size + 1) 0 36 #[.int .i64 0, .int .u64 0, .int .i64 0, .int .i64 0] [.int .i64 0, .int .u64 0, .int .i64 0, .int .i64 0] ∧ Only (L.and (w.heap.size + 1 + 1)) w wr) (fun i _ => 400 - (intOf i).toNat)
  case atStart =>
    obtain ⟨s1, cs1, a1, hm⟩ := A1.out
    exact ⟨0, N, s1, cs1, a1, q, _, rfl, by omega, GG.out, hm⟩
  case round =>
    clear A1 GG
    obtain ⟨j, N1, s1, cs1, a1, q1, α1, rfl, hj, gg, mm, tw, ia, is1, gd, v, j1, on⟩ := hrel
    have hN1 := gg.pos
    have hj3 : (j : Int) < 400 := by omega
    have y0 := v.c0
    have y1 := v.c1
    have y2 := v.c2
    have y3 := v.c3
    have y4 := v.c4
    have y5 := v.c5
    have y6 := v.c6
    have y7 := v.c7
    have y8 := v.c8
    cases gg with
    | one ho ht h1 =>
      have HT1 : Hid (alTurn t n k m κ z own (σ + j) q1 α1 = (q', .over E H st)) := ht
      have HO : Hid (α1.over? = false) := ho
      clear ht ho
      go_wp2_with (first
        | (go_at_call 14; refine (alloc_step mm hB2.out tw HG.out (by omega) fz HZ.out hκ α1 ia is1 gd HO.out 0 _ _ HT1.out true h1).mono ?_; rintro e w2 ⟨rfl, s2, cs2, a2, P⟩; obtain ⟨c1, c2, c3, c4⟩ := P.is.cm; have hnx := P.is.nx)
        | (go_at_call 15; refine (adone_over P.al hnx).mono ?_; rintro e w3 ⟨rfl, b3⟩; rw [c1, c2, c3, c4]; have j3 := (j1.only P.only (fun hh => hh.elim hB1.out (by omega))).grown b3; have z0 := j3.at0 0 rfl; have z1 := j3.at0 1 rfl; have z2 := j3.at0 2 rfl; have z3 := j3.at0 3 rfl; have qf := j3.fz))
      refine bodyPost_ret (v := .agg #[.int .i64 E, .int .u64 H, .int .i64 0, .int .i64 st]) (by simp [results, Try.results7, go_sem, z0, z1, z2, z3]) rfl ?_
      refine ⟨rfl, s2, ((((P.mm.below b3).setIn hB1.out _ _).setIn hB1.out _ _).setIn hB1.out _ _).setIn hB1.out _ _, ?_, ?_⟩
      · have := P.tw
        rwa [show σ + j + 1 = σ + N by omega] at this
      · exact ((((((on.trans P.only).trans (Only.ofGrown b3)).setCell (fun hlt => by simp only at hlt; omega) _).setCell (fun hlt => by simp only at hlt; omega) _).setCell (fun hlt => by simp only at hlt; omega) _).setCell (fun hlt => by simp only at hlt; omega) _).mono (fun x hx hh => hh.elim id (fun e => absurd e (by omega)))
    | more ho ht h1 g1 =>
      have HT1 : Hid (alTurn t n k m κ z own (σ + j) q1 α1 = (_, _)) := ht
      have HO : Hid (α1.over? = false) := ho
      clear ht ho
      go_wp2_with (go_at_call 14; refine (alloc_step mm hB2.out tw HG.out (by omega) fz HZ.out hκ α1 ia is1 gd HO.out 0 _ _ HT1.out false h1).mono ?_; rintro e w2 ⟨rfl, s2, cs2, a2, P⟩)
      go_roundw
      case rel =>
        exact ⟨j + 1, _, s2, cs2, a2, _, _, by go_num, by omega, g1, P.mm, P.tw, P.al, P.is, P.good, v.only P.only (fun hh => hh.elim hB.out (by omega)), j1.only P.only (fun hh => hh.elim hB1.out (by omega)), on.trans P.only⟩
      case measure => simp [intOf]; omega

/-- a size of no class -/
theorem make_bad (h : MemAt w L s) (hT : Town t n k m s σ q) (hz : classOf z < 0) :
    Calls Try.prog 7 #[.agg #[.int .i64 t, .int .i64 n, .int .i64 k, .int .i64 m, .int .i64 100, .int .i64 600, .int .i64 3, .pointer (some ⟨L.p, 0, none⟩), .int .i64 0], .int .i64 z, .bool own] w fun e w' => e = .returned (.agg #[.int .i64 5, .int .u64 0, .int .i64 0, .int .i64 σ]) ∧ MemAt w' L s ∧ Only L.has w w' := by
  have hB : Hid (¬ L.has w.heap.size) := fun hh => by have := h.lt _ hh; omega
  have hB1 : Hid (¬ L.has (w.heap.size + 1)) := fun hh => by have := h.lt _ hh; omega
  have hB2 : Hid (¬ L.has (w.heap.size + 1 + 1)) := fun hh => by have := h.lt _ hh; omega
  have hst := hT.pile.st
  have HM : Hid (MemAt w L s) := h
  have HZ : Hid (classOf z < 0) := hz
  have HS : Hid (s.steps = σ) := hst
  clear h hT hz hst
  go_enter Try.func7, Try.ntmps7
  go_wp2_with (go_at_call 13; refine (newAlloc_any z own _).mono ?_; rintro e w1 ⟨rfl, rfl⟩)
  have A1 : Hid (∃ cs1, MemAt (((w.alloc (.cells #[.int .i64 t, .int .i64 n, .int .i64 k, .int .i64 m, .int .i64 100, .int .i64 600, .int .i64 3, .pointer (some ⟨L.p, 0, none⟩), .int .i64 0] 27)).alloc (.cells #[.int .i64 0, .int .u64 0, .int .i64 0, .int .i64 0] 36)).alloc (alloc0 z own)) L s ∧ AlAt (((w.alloc (.cells #[.int .i64 t, .int .i64 n, .int .i64 k, .int .i64 m, .int .i64 100, .int .i64 600, .int .i64 3, .pointer (some ⟨L.p, 0, none⟩), .int .i64 0] 27)).alloc (.cells #[.int .i64 0, .int .u64 0, .int .i64 0, .int .i64 0] 36)).alloc (alloc0 z own)) (w.heap.size + 1 + 1) 0 83 cs1 (av0 z own) ∧ BoxV (((w.alloc (.cells #[.int .i64 t, .int .i64 n, .int .i64 k, .int .i64 m, .int .i64 100, .int .i64 600, .int .i64 3, .pointer (some ⟨L.p, 0, none⟩), .int .i64 0] 27)).alloc (.cells #[.int .i64 0, .int .u64 0, .int .i64 0, .int .i64 0] 36)).alloc (alloc0 z own)) w.heap.size t n k m 100 600 3 L.p 0 ∧ At (((w.alloc (.cells #[.int .i64 t, .int .i64 n, .int .i64 k, .int .i64 m, .int .i64 100, .int .i64 600, .int .i64 3, .pointer (some ⟨L.p, 0, none⟩), .int .i64 0] 27)).alloc (.cells #[.int .i64 0, .int .u64 0, .int .i64 0, .int .i64 0] 36)).alloc (alloc0 z own)) (w.heap.size + 1) 0 36 #[.int .i64 0, .int .u64 0, .int .i64 0, .int .i64 0] [.int .i64 0, .int .u64 0, .int .i64 0, .int .i64 0] ∧ Only (L.and (w.heap.size + 1 + 1)) w (((w.alloc (.cells #[.int .i64 t, .int .i64 n, .int .i64 k, .int .i64 m, .int .i64 100, .int .i64 600, .int .i64 3, .pointer (some ⟨L.p, 0, none⟩), .int .i64 0] 27)).alloc (.cells #[.int .i64 0, .int .u64 0, .int .i64 0, .int .i64 0] 36)).alloc (alloc0 z own))) := by
    obtain ⟨cs, q0⟩ := alloc0_at z own ((w.alloc (.cells #[.int .i64 t, .int .i64 n, .int .i64 k, .int .i64 m, .int .i64 100, .int .i64 600, .int .i64 3, .pointer (some ⟨L.p, 0, none⟩), .int .i64 0] 27)).alloc (.cells #[.int .i64 0, .int .u64 0, .int .i64 0, .int .i64 0] 36))
    rw [Go.Deep.nblk_alloc, Go.Deep.nblk_alloc] at q0
    have q1 := (At.new (w.alloc (.cells #[.int .i64 t, .int .i64 n, .int .i64 k, .int .i64 m, .int .i64 100, .int .i64 600, .int .i64 3, .pointer (some ⟨L.p, 0, none⟩), .int .i64 0] 27)) 36 [.int .i64 0, .int .u64 0, .int .i64 0, .int .i64 0]).grown (grow_alloc (Below.refl _ _) (alloc0 z own))
    rw [Go.Deep.nblk_alloc] at q1
    exact ⟨cs, ((HM.out.alloc _).alloc _).alloc _, q0, (BoxV.newB _).grown (grow_alloc (Below.refl _ _) _), q1, (((Only.refl _ _).alloc _).alloc _).alloc _⟩
  clear HM
  go_loopw [8] (fun i wr => i = .int .i64 0 ∧ ∃ cs1, MemAt wr L s ∧ AlAt wr (w.heap.size + 1 + 1) 0 83 cs1 (av0 z own) ∧ BoxV wr w.heap.size t n k m 100 600 3 L.p 0 ∧ At wr (w.heap.size + 1) 0 36 #[.int .i64 0, .int .u64 0, .int .i64 0, .int .i64 0] [.int .i64 0, .int .u64 0, .int .i64 0, .int .i64 0] ∧ Only (L.and (w.heap.size + 1 + 1)) w wr) (fun i _ => 400 - (intOf i).toNat)
  case atStart => exact ⟨rfl, A1.out⟩
  case round =>
    clear A1
    obtain ⟨rfl, cs1, mm, ia, v, j1, on⟩ := hrel
    have y0 := v.c0
    have y1 := v.c1
    have y2 := v.c2
    have y3 := v.c3
    have y4 := v.c4
    have y5 := v.c5
    have y6 := v.c6
    have y7 := v.c7
    have y8 := v.c8
    have ss := astep_take (g := 100) (p := 600) (r := 3) (t := t) (n := n) (k := k) (m := m) mm ia 0 rfl (fun s' a' => s' = s ∧ a' = { av0 z own with nx := 8, E := 5, H := 0, V := 0, St := σ }) true (by rintro s' a' ⟨-, rfl⟩; rfl) (fun w1 m1 i1 => atake_bad m1 hB2.out i1 0 HZ.out σ HS.out)
    go_wp2_with (first
      | (go_at_call 14; refine ss.mono ?_; rintro e w2 ⟨rfl, s2, cs2, a2, m2, o2, i2, q2, rfl, rfl⟩)
      | (go_at_call 15; refine (adone_over i2 rfl).mono ?_; rintro e w3 ⟨rfl, b3⟩; have j3 := (j1.only o2 (fun hh => hh.elim hB1.out (by omega))).grown b3; have z0 := j3.at0 0 rfl; have z1 := j3.at0 1 rfl; have z2 := j3.at0 2 rfl; have z3 := j3.at0 3 rfl; have qf := j3.fz))
    refine bodyPost_ret (v := .agg #[.int .i64 5, .int .u64 0, .int .i64 0, .int .i64 σ]) (by simp [results, Try.results7, go_sem, z0, z1, z2, z3]) rfl ?_
    refine ⟨rfl, ((((m2.below b3).setIn hB1.out _ _).setIn hB1.out _ _).setIn hB1.out _ _).setIn hB1.out _ _, ?_⟩
    exact ((((((on.trans o2).trans (Only.ofGrown b3)).setCell (fun hlt => by simp only at hlt; omega) _).setCell (fun hlt => by simp only at hlt; omega) _).setCell (fun hlt => by simp only at hlt; omega) _).setCell (fun hlt => by simp only at hlt; omega) _).mono (fun x hx hh => hh.elim id (fun e => absurd e (by omega)))

end

end Go.Proofs.Ytocmkmeikcejjaa
