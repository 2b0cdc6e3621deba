/- To make an object where objects live, and which word the last step touched. -/
import Derived.Test.YtbmiieaakbcncabGreatDropActs
namespace Go.Proofs.YtbmiieaakbcncabGreat
open Go.RowKit

theorem Al.at_lt {t n k m κ σ : Nat} {q : Q} {g p r : Int} {α : Al} (hG : Good t n k m g p r) (hκ : κ < 4) (h : α.good t n k m κ σ q) : α.at t n κ < 1000000 := by
  have t1 := hG.t1
  have n1 := hG.s1
  have k1 := hG.k1
  have hmk : k * m ≤ 64 * 256 := Nat.mul_le_mul hG.k1 hG.n1
  cases α with
  | take τ => rcases Tk.at_in (t := t) h.1 with e | ⟨x, hx, e⟩ <;> (show τ.at t < _; omega)
  | ask x => have hx := h.1; show 6 + t + x * 2 < _; omega
  | place x G τ => rcases Pl.at_in (t := t) (n := n) h.2.2.2.1 with e | ⟨x, hx, e⟩ <;> (show τ.at t n κ < _; omega)
  | count x G a i => have hx := h.2.2.2.1; show 6 + t + n * 2 + i * 3 + 1 < _; omega
  | head x G a i => have hx := h.2.2.2.2.2; show a < _; omega
  | shw x G a i => have hx := h.1; show 6 + t + x * 2 < _; omega
  | ready x G a i st => have hx := h.2.2.2.2.2; show a < _; omega
  | give x G γ => rcases Gv.at_in (t := t) h.1 γ with e | ⟨y, hy, e⟩ <;> (show γ.at t x < _; omega)
  | over => show 0 < _; omega

section
variable {w : World} {L : Loc} {t n k m σ κ : Nat} {s : Mm} {q : Q} {z : Int} {own : Bool}

set_option maxHeartbeats 1000000 in
theorem make_goes_la {cg cp cr : Int} (h : MemAt w L s) (hT : Town t n k m s σ q) (hG : Good t n k m cg cp cr) (fz : Fit z) (hz : classOf z = κ) (hκ : κ < 4) (hσ : σ + 400 < 1000000) {N : Nat} (hN : N ≤ 400) {q' : Q} {E H : Int} {st : Nat} (g : Runs t n k m κ z own N σ q (.take .idle) q' (.over E H st)) :
    Calls Tryz.prog 7 #[.agg #[.int .i64 t, .int .i64 n, .int .i64 k, .int .i64 m, .int .i64 cg, .int .i64 cp, .int .i64 cr, .pointer (some ⟨L.p, 0, none⟩), .int .i64 0], .int .i64 z, .bool own] w fun e w' => e = .returned (.agg #[.int .i64 E, .int .u64 H, .int .i64 0, .int .i64 st]) ∧ ∃ s', MemAt w' L s' ∧ Town t n k m s' (σ + N) q' ∧ Only L.has w w' ∧ ∃ a : Nat, s'.la = (a : Int) ∧ a < 1000000 := by
  have hB : Hid (¬ L.has w.heap.size) := fun hh => by have := h.lt _ hh; omega
  have hB1 : Hid (¬ L.has (w.heap.size + 1)) := fun hh => by have := h.lt _ hh; omega
  have hB2 : Hid (¬ L.has (w.heap.size + 1 + 1)) := fun hh => by have := h.lt _ hh; omega
  have HT : Hid (Town t n k m s σ q) := hT
  have HM : Hid (MemAt w L s) := h
  have HG : Hid (Good t n k m cg cp cr) := hG
  have HZ : Hid (classOf z = κ) := hz
  have GG : Hid (Runs t n k m κ z own N σ q (.take .idle) q' (.over E H st)) := g
  clear h hT hG g hz
  go_enter Tryz.func7, Tryz.ntmps7
  go_wp2_with (go_at_call 21; refine (newAlloc_any z own _).mono ?_; rintro e w1 ⟨rfl, rfl⟩)
  have A1 : Hid (∃ s1 cs1 a1, MemAt (((w.alloc (.cells #[.int .i64 t, .int .i64 n, .int .i64 k, .int .i64 m, .int .i64 cg, .int .i64 cp, .int .i64 cr, .pointer (some ⟨L.p, 0, none⟩), .int .i64 0] 26)).alloc (.cells #[.int .i64 0, .int .u64 0, .int .i64 0, .int .i64 0] 33)).alloc (alloc0 z own)) L s1 ∧ Town t n k m s1 (σ + 0) q ∧ AlAt (((w.alloc (.cells #[.int .i64 t, .int .i64 n, .int .i64 k, .int .i64 m, .int .i64 cg, .int .i64 cp, .int .i64 cr, .pointer (some ⟨L.p, 0, none⟩), .int .i64 0] 26)).alloc (.cells #[.int .i64 0, .int .u64 0, .int .i64 0, .int .i64 0] 33)).alloc (alloc0 z own)) (w.heap.size + 1 + 1) 0 98 cs1 a1 ∧ AlIs z own κ (.take .idle) a1 ∧ (Al.take .idle).good t n k m κ (σ + 0) q ∧ BoxV (((w.alloc (.cells #[.int .i64 t, .int .i64 n, .int .i64 k, .int .i64 m, .int .i64 cg, .int .i64 cp, .int .i64 cr, .pointer (some ⟨L.p, 0, none⟩), .int .i64 0] 26)).alloc (.cells #[.int .i64 0, .int .u64 0, .int .i64 0, .int .i64 0] 33)).alloc (alloc0 z own)) w.heap.size t n k m cg cp cr L.p 0 ∧ At (((w.alloc (.cells #[.int .i64 t, .int .i64 n, .int .i64 k, .int .i64 m, .int .i64 cg, .int .i64 cp, .int .i64 cr, .pointer (some ⟨L.p, 0, none⟩), .int .i64 0] 26)).alloc (.cells #[.int .i64 0, .int .u64 0, .int .i64 0, .int .i64 0] 33)).alloc (alloc0 z own)) (w.heap.size + 1) 0 33 #[.int .i64 0, .int .u64 0, .int .i64 0, .int .i64 0] [.int .i64 0, .int .u64 0, .int .i64 0, .int .i64 0] ∧ Only (L.and (w.heap.size + 1 + 1)) w (((w.alloc (.cells #[.int .i64 t, .int .i64 n, .int .i64 k, .int .i64 m, .int .i64 cg, .int .i64 cp, .int .i64 cr, .pointer (some ⟨L.p, 0, none⟩), .int .i64 0] 26)).alloc (.cells #[.int .i64 0, .int .u64 0, .int .i64 0, .int .i64 0] 33)).alloc (alloc0 z own))) := by
    obtain ⟨cs, q0⟩ := alloc0_at z own ((w.alloc (.cells #[.int .i64 t, .int .i64 n, .int .i64 k, .int .i64 m, .int .i64 cg, .int .i64 cp, .int .i64 cr, .pointer (some ⟨L.p, 0, none⟩), .int .i64 0] 26)).alloc (.cells #[.int .i64 0, .int .u64 0, .int .i64 0, .int .i64 0] 33))
    rw [Go.Deep.nblk_alloc, Go.Deep.nblk_alloc] at q0
    have q1 := (At.new (w.alloc (.cells #[.int .i64 t, .int .i64 n, .int .i64 k, .int .i64 m, .int .i64 cg, .int .i64 cp, .int .i64 cr, .pointer (some ⟨L.p, 0, none⟩), .int .i64 0] 26)) 33 [.int .i64 0, .int .u64 0, .int .i64 0, .int .i64 0]).grown (grow_alloc (Below.refl _ _) (alloc0 z own))
    rw [Go.Deep.nblk_alloc] at q1
    exact ⟨s, cs, _, ((HM.out.alloc _).alloc _).alloc _, HT.out, q0, al0_is z own κ, ⟨trivial, rfl⟩, (BoxV.newB _).grown (grow_alloc (Below.refl _ _) _), q1, (((Only.refl _ _).alloc _).alloc _).alloc _⟩
  clear HM HT
  go_loopw [8] (fun i wr => ∃ (j N1 : Nat) (s1 : Mm) (cs1 : Array Value) (a1 : AV) (q1 : Q) (α1 : Al), i = .int .i64 j ∧ j + N1 = N ∧ Runs t n k m κ z own N1 (σ + j) q1 α1 q' (.over E H st) ∧ MemAt wr L s1 ∧ Town t n k m s1 (σ + j) q1 ∧ AlAt wr (w.heap.size + 1 + 1) 0 98 cs1 a1 ∧ AlIs z own κ α1 a1 ∧ α1.good t n k m κ (σ + j) q1 ∧ BoxV wr w.heap.size t n k m cg cp cr L.p 0 ∧ At wr (w.heap.size + 1) 0 33 #[.int .i64 0, .int .u64 0, .int .i64 0, .int .i64 0] [.int .i64 0, .int .u64 0, .int .i64 0, .int .i64 0] ∧ Only (L.and (w.heap.size + 1 + 1)) w wr) (fun i _ => 400 - (intOf i).toNat)
  case atStart =>
    obtain ⟨s1, cs1, a1, hm⟩ := A1.out
    exact ⟨0, N, s1, cs1, a1, q, _, rfl, by omega, GG.out, hm⟩
  case round =>
    clear A1 GG
    obtain ⟨j, N1, s1, cs1, a1, q1, α1, rfl, hj, gg, mm, tw, ia, is1, gd, v, j1, on⟩ := hrel
    have hN1 := gg.pos
    have hj3 : (j : Int) < 400 := by omega
    have y0 := v.c0
    have y1 := v.c1
    have y2 := v.c2
    have y3 := v.c3
    have y4 := v.c4
    have y5 := v.c5
    have y6 := v.c6
    have y7 := v.c7
    have y8 := v.c8
    cases gg with
    | one ho ht h1 =>
      have HT1 : Hid (alTurn t n k m κ z own (σ + j) q1 α1 = (q', .over E H st)) := ht
      have HO : Hid (α1.over? = false) := ho
      clear ht ho
      go_wp2_with (first
        | (go_at_call 22; refine (alloc_step mm hB2.out tw HG.out (by omega) fz HZ.out hκ α1 ia is1 gd HO.out 0 _ _ HT1.out true h1).mono ?_; rintro e w2 ⟨rfl, s2, cs2, a2, P⟩; obtain ⟨c1, c2, c3, c4⟩ := P.is.cm; have hnx := P.is.nx)
        | (go_at_call 23; refine (adone_over P.al hnx).mono ?_; rintro e w3 ⟨rfl, b3⟩; rw [c1, c2, c3, c4]; have j3 := (j1.only P.only (fun hh => hh.elim hB1.out (by omega))).grown b3; have z0 := j3.at0 0 rfl; have z1 := j3.at0 1 rfl; have z2 := j3.at0 2 rfl; have z3 := j3.at0 3 rfl; have qf := j3.fz))
      refine bodyPost_ret (v := .agg #[.int .i64 E, .int .u64 H, .int .i64 0, .int .i64 st]) (by simp [results, Tryz.results7, go_sem, z0, z1, z2, z3]) rfl ?_
      refine ⟨rfl, s2, ((((P.mm.below b3).setIn hB1.out _ _).setIn hB1.out _ _).setIn hB1.out _ _).setIn hB1.out _ _, ?_, ?_, ?_⟩
      · have := P.tw
        rwa [show σ + j + 1 = σ + N by omega] at this
      · exact ((((((on.trans P.only).trans (Only.ofGrown b3)).setCell (fun hlt => by simp only at hlt; omega) _).setCell (fun hlt => by simp only at hlt; omega) _).setCell (fun hlt => by simp only at hlt; omega) _).setCell (fun hlt => by simp only at hlt; omega) _).mono (fun x hx hh => hh.elim id (fun e => absurd e (by omega)))
      · obtain ⟨vl, hvl⟩ := P.st
        exact ⟨α1.at t n κ, by rw [hvl]; rfl, Al.at_lt HG.out hκ gd⟩
    | more ho ht h1 g1 =>
      have HT1 : Hid (alTurn t n k m κ z own (σ + j) q1 α1 = (_, _)) := ht
      have HO : Hid (α1.over? = false) := ho
      clear ht ho
      go_wp2_with (go_at_call 22; refine (alloc_step mm hB2.out tw HG.out (by omega) fz HZ.out hκ α1 ia is1 gd HO.out 0 _ _ HT1.out false h1).mono ?_; rintro e w2 ⟨rfl, s2, cs2, a2, P⟩)
      go_roundw
      case rel =>
        exact ⟨j + 1, _, s2, cs2, a2, _, _, by go_num, by omega, g1, P.mm, P.tw, P.al, P.is, P.good, v.only P.only (fun hh => hh.elim hB.out (by omega)), j1.only P.only (fun hh => hh.elim hB1.out (by omega)), on.trans P.only⟩
      case measure => simp [intOf]; omega

end

section
variable {w0 w w' : World} {L : Loc} {bE t n k m σ nx : Nat} {cg : Int} {s : Mm} {q : Q} {gen : Nat → Nat} {ls : List Ox} {own : Bool}

/-- an object is made -/
theorem Farm.ok_la {Z κ x : Nat} {F : List Nat} {y' : Y} {nx' A i : Nat} (f : Farm w0 w L bE t n k m cg s σ q nx gen ls) (a : FarmApart w0 L bE t n k m cg) (z1 : 1 ≤ Z) (z2 : Z ≤ 16) (kz : classOf Z = κ) (hκ : κ < 4) (hF : q.F = x :: F) (g : Got k m κ (base t n k m) q.y nx y' nx' (.won A i)) (hσ : σ + 400 < 1000000) :
    Calls Tryz.prog 7 #[.agg #[.int .i64 t, .int .i64 n, .int .i64 k, .int .i64 m, .int .i64 cg, .int .i64 600, .int .i64 3, .pointer (some ⟨L.p, 0, none⟩), .int .i64 0], .int .i64 Z, .bool own] w fun e w' => ∃ (st : Nat) (s' : Mm) (σ' : Nat), e = .returned (.agg #[.int .i64 0, .int .u64 (packH x (gen x)), .int .i64 0, .int .i64 st]) ∧ σ < st ∧ st < σ' ∧ σ' ≤ σ + 100 ∧ Farm w0 w' L bE t n k m cg s' σ' (q.made x F y' A i κ Z own) nx' gen (q.ox gen x A i Z κ own :: ls) ∧ Only L.has w w' ∧ ∃ a : Nat, s'.la = (a : Int) ∧ a < 1000000 := by
  obtain ⟨N, y1, nx1, τ1, hN, go, g1⟩ := alone_goes (bs := base t n k m) f.tm.al hκ a.g.n0 a.g.k0 a.g.k1
  obtain ⟨rfl, rfl, rfl⟩ := g.same g1
  have hk := a.g.k1
  have hx : x < n := f.tw.pile.lt x (by rw [hF]; simp)
  have hg := f.tm.gen_is (by rw [hF]; simp) hx
  have r := runs_made (z := (Z : Int)) (own := own) (σ := σ) hF go
  rw [hg] at r
  refine (make_goes_la f.mm f.tw a.g (class_fit z2) kz hκ hσ (N := N + 4 + 4) (by omega) r).mono ?_
  rintro e w' ⟨rfl, s', m', t', o', l'⟩
  exact ⟨_, s', _, rfl, by omega, by omega, by omega, f.only a o' m' t' (f.tm.made hκ a.g.n0 z1 z2 kz hF f.tw.pile.nd hx g), o', l'⟩

/-- there is no slot -/
theorem Farm.empty_la {Z κ : Nat} (f : Farm w0 w L bE t n k m cg s σ q nx gen ls) (a : FarmApart w0 L bE t n k m cg) (z2 : Z ≤ 16) (kz : classOf Z = κ) (hκ : κ < 4) (hF : q.F = []) (hσ : σ + 400 < 1000000) :
    Calls Tryz.prog 7 #[.agg #[.int .i64 t, .int .i64 n, .int .i64 k, .int .i64 m, .int .i64 cg, .int .i64 600, .int .i64 3, .pointer (some ⟨L.p, 0, none⟩), .int .i64 0], .int .i64 Z, .bool own] w fun e w' => ∃ (st : Nat) (s' : Mm), e = .returned (.agg #[.int .i64 7, .int .u64 0, .int .i64 0, .int .i64 st]) ∧ Farm w0 w' L bE t n k m cg s' (σ + 1) q nx gen ls ∧ Only L.has w w' ∧ ∃ a : Nat, s'.la = (a : Int) ∧ a < 1000000 := by
  refine (make_goes_la (own := own) f.mm f.tw a.g (class_fit z2) kz hκ hσ (N := 1) (by omega) (runs_none hF)).mono ?_
  rintro e w' ⟨rfl, s', m', t', o', l'⟩
  exact ⟨_, s', rfl, f.only a o' m' t' f.tm, o', l'⟩

/-- there is no room -/
theorem Farm.full_la {Z κ x : Nat} {F : List Nat} {y' : Y} {nx' : Nat} (f : Farm w0 w L bE t n k m cg s σ q nx gen ls) (a : FarmApart w0 L bE t n k m cg) (z2 : Z ≤ 16) (kz : classOf Z = κ) (hκ : κ < 4) (hF : q.F = x :: F) (g : Got k m κ (base t n k m) q.y nx y' nx' .none) (hσ : σ + 400 < 1000000) :
    Calls Tryz.prog 7 #[.agg #[.int .i64 t, .int .i64 n, .int .i64 k, .int .i64 m, .int .i64 cg, .int .i64 600, .int .i64 3, .pointer (some ⟨L.p, 0, none⟩), .int .i64 0], .int .i64 Z, .bool own] w fun e w' => ∃ (st : Nat) (s' : Mm) (σ' : Nat), e = .returned (.agg #[.int .i64 6, .int .u64 0, .int .i64 0, .int .i64 st]) ∧ σ' ≤ σ + 100 ∧ Farm w0 w' L bE t n k m cg s' σ' (q.back x F q.y) nx gen ls ∧ Only L.has w w' ∧ ∃ a : Nat, s'.la = (a : Int) ∧ a < 1000000 := by
  obtain ⟨N, y1, nx1, τ1, hN, go, g1⟩ := alone_goes (bs := base t n k m) f.tm.al hκ a.g.n0 a.g.k0 a.g.k1
  obtain ⟨rfl, rfl, rfl⟩ := g.same g1
  have hk := a.g.k1
  have hyy : y1 = q.y := by cases g; rfl
  subst hyy
  refine (make_goes_la (own := own) f.mm f.tw a.g (class_fit z2) kz hκ hσ (N := N + 3 + 4) (by omega) (runs_back hF go)).mono ?_
  rintro e w' ⟨rfl, s', m', t', o', l'⟩
  exact ⟨_, s', _, rfl, by omega, f.only a o' m' t' (f.tm.back hF), o', l'⟩

theorem Farm.lot_la (f : Farm w0 w L bE t n k m cg s σ q nx gen ls) (a : FarmApart w0 L bE t n k m cg) {Z : Nat} (z1 : 1 ≤ Z) (z2 : Z ≤ 16) (hσ : σ + 400 < 1000000) : ∃ E H q' nx' ls', nx' ≤ nx + 1 ∧ Lot gen own Z q ls E H q' ls' ∧ ∀ w1 : World, Farm w0 w1 L bE t n k m cg s σ q nx gen ls →
    Calls Tryz.prog 7 #[.agg #[.int .i64 t, .int .i64 n, .int .i64 k, .int .i64 m, .int .i64 cg, .int .i64 600, .int .i64 3, .pointer (some ⟨L.p, 0, none⟩), .int .i64 0], .int .i64 Z, .bool own] w1 fun e w' => ∃ (st : Nat) (s' : Mm) (σ' : Nat), e = .returned (.agg #[.int .i64 E, .int .u64 H, .int .i64 0, .int .i64 st]) ∧ σ' ≤ σ + 100 ∧ Farm w0 w' L bE t n k m cg s' σ' q' nx' gen ls' ∧ Only L.has w1 w' ∧ ∃ a : Nat, s'.la = (a : Int) ∧ a < 1000000 := by
  obtain ⟨kz, hκ⟩ := class_room z1 z2
  cases hF : q.F with
  | nil =>
    refine ⟨7, 0, q, nx, ls, by omega, .no 7 (Or.inr rfl) q rfl rfl rfl, fun w1 f1 => (f1.empty_la (own := own) a z2 kz hκ hF hσ).mono ?_⟩
    rintro e w' ⟨st, s', rfl, c, o, l⟩
    exact ⟨st, s', σ + 1, rfl, by omega, c, o, l⟩
  | cons x F =>
    obtain ⟨N, y', nx', τ', -, -, g⟩ := alone_goes (m := m) (bs := base t n k m) f.tm.al hκ a.g.n0 a.g.k0 a.g.k1
    have won : ∀ {y' : Y} {nx' A i : Nat}, nx' ≤ nx + 1 → Got k m (classOf Z).toNat (base t n k m) q.y nx y' nx' (.won A i) → ∃ E H q' nx' ls', nx' ≤ nx + 1 ∧ Lot gen own Z q ls E H q' ls' ∧ ∀ w1 : World, Farm w0 w1 L bE t n k m cg s σ q nx gen ls →
        Calls Tryz.prog 7 #[.agg #[.int .i64 t, .int .i64 n, .int .i64 k, .int .i64 m, .int .i64 cg, .int .i64 600, .int .i64 3, .pointer (some ⟨L.p, 0, none⟩), .int .i64 0], .int .i64 Z, .bool own] w1 fun e w' => ∃ (st : Nat) (s' : Mm) (σ' : Nat), e = .returned (.agg #[.int .i64 E, .int .u64 H, .int .i64 0, .int .i64 st]) ∧ σ' ≤ σ + 100 ∧ Farm w0 w' L bE t n k m cg s' σ' q' nx' gen ls' ∧ Only L.has w1 w' ∧ ∃ a : Nat, s'.la = (a : Int) ∧ a < 1000000 := by
      intro y' nx' A i hnx g
      refine ⟨0, packH x (gen x), q.made x F y' A i (classOf Z).toNat Z own, nx', q.ox gen x A i Z (classOf Z).toNat own :: ls, hnx, .made (q.ox gen x A i Z (classOf Z).toNat own) (q.made x F y' A i (classOf Z).toNat Z own) hF rfl rfl rfl, fun w1 f1 => (f1.ok_la (own := own) a z1 z2 kz hκ hF g hσ).mono ?_⟩
      rintro e w' ⟨st, s', σ', rfl, _, _, h3, c, o, l⟩
      exact ⟨st, s', σ', rfl, h3, c, o, l⟩
    cases g with
    | fit i h hu => exact won (Nat.le_succ _) (.fit i h hu)
    | new hno h => exact won (Nat.le_refl _) (.new hno h)
    | none hno h =>
      refine ⟨6, 0, _, nx, ls, by omega, .no 6 (Or.inl rfl) (q.back x F q.y) hF.symm rfl rfl, fun w1 f1 => (f1.full_la (own := own) a z2 kz hκ hF (.none hno h) hσ).mono ?_⟩
      rintro e w' ⟨st, s', σ', rfl, h3, c, o, l⟩
      exact ⟨st, s', σ', rfl, h3, c, o, l⟩


end

end Go.Proofs.YtbmiieaakbcncabGreat
