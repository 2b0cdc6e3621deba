/- The statements' own helper: to let an object go alone. -/
import Derived.Test.YtcdmokbamakomaaGreatDropTown
namespace Go.Proofs.YtcdmokbamakomaaGreat
open Go.RowKit

theorem hpTurn_wd {cg : Int} {x : Nat} {q : Q} {η : Hp} {q' : Q} {η' : Hp} (h : ∀ a, Wd (q.dw a)) (ht : hpTurn cg x q η = (q', η')) : ∀ a, Wd (q'.dw a) := by
  have e : ∀ v, hpEnd cg x q v = (q', η') → ∀ a, Wd (q'.dw a) := by
    intro v hv
    unfold hpEnd at hv
    split at hv <;> (obtain ⟨rfl, -⟩ := Prod.mk.inj hv; exact h)
  cases η with
  | over => obtain ⟨rfl, -⟩ := Prod.mk.inj ht; exact h
  | go v Z j u =>
    cases u with
    | none =>
      simp only [hpTurn] at ht
      split at ht
      · exact e v ht
      · split at ht <;> (obtain ⟨rfl, -⟩ := Prod.mk.inj ht; exact h)
    | some u =>
      simp only [hpTurn] at ht
      split at ht
      · exact e v ht
      · split at ht
        · obtain ⟨rfl, -⟩ := Prod.mk.inj ht
          intro a
          show Wd (upd q.dw _ _ a)
          unfold upd
          split
          · exact froze_wd _ _
          · exact h a
        · obtain ⟨rfl, -⟩ := Prod.mk.inj ht; exact h

theorem dpTurn_wd {t n k m : Nat} {cg : Int} {own : Bool} {x G : Nat} {q : Q} {α : Dp} {q' : Q} {α' : Dp} (h : ∀ a, Wd (q.dw a)) (ht : dpTurn t n k m cg own x G q α = (q', α')) : ∀ a, Wd (q'.dw a) := by
  cases α with
  | see => obtain ⟨rfl, -⟩ := Prod.mk.inj ht; exact h
  | ask v => obtain ⟨rfl, -⟩ := Prod.mk.inj ht; exact h
  | mark v Z =>
    simp only [dpTurn] at ht
    split at ht <;> (obtain ⟨rfl, -⟩ := Prod.mk.inj ht; exact h)
  | help η =>
    obtain ⟨q1, η1, h1⟩ : ∃ q1 η1, hpTurn cg x q η = (q1, η1) := ⟨_, _, rfl⟩
    simp only [dpTurn, h1] at ht
    have := hpTurn_wd h h1
    cases η1 <;> (simp only [dpHelp] at ht; obtain ⟨rfl, -⟩ := Prod.mk.inj ht; exact this)
  | fin Z i η =>
    obtain ⟨q1, η1, h1⟩ : ∃ q1 η1, hpTurn cg x q η = (q1, η1) := ⟨_, _, rfl⟩
    simp only [dpTurn, h1] at ht
    have := hpTurn_wd h h1
    cases η1 <;> (simp only [dpFin] at ht; obtain ⟨rfl, -⟩ := Prod.mk.inj ht; exact this)
  | count Z i => obtain ⟨rfl, -⟩ := Prod.mk.inj ht; exact h
  | give γ =>
    obtain ⟨c', lk', F', γ', h1⟩ : ∃ c' lk' F' γ', gvTurn q.c q.lk q.F x γ = (c', lk', F', γ') := ⟨_, _, _, _, rfl⟩
    simp only [dpTurn, h1] at ht
    cases γ' <;> (simp only [dpGive] at ht; obtain ⟨rfl, -⟩ := Prod.mk.inj ht; exact h)
  | over => obtain ⟨rfl, -⟩ := Prod.mk.inj ht; exact h

/-- alone: so many steps, the last of which ends it -/
inductive DRuns (t n k m : Nat) (cg : Int) (own : Bool) (x G : Nat) : Nat → Q → Dp → Q → Dp → Prop where
  | one {q : Q} {α : Dp} {q' : Q} {α' : Dp} (ho : α.over? = false) (hg : α.good t n k m x G q) (ht : dpTurn t n k m cg own x G q α = (q', α')) (h : α'.over? = true) : DRuns t n k m cg own x G 1 q α q' α'
  | more {N : Nat} {q : Q} {α : Dp} {q1 : Q} {α1 : Dp} {q' : Q} {α' : Dp} (ho : α.over? = false) (hg : α.good t n k m x G q) (ht : dpTurn t n k m cg own x G q α = (q1, α1)) (h : α1.over? = false) (g : DRuns t n k m cg own x G N q1 α1 q' α') : DRuns t n k m cg own x G (N + 1) q α q' α'

/-- alone: so many loads, the last of which ends it -/
inductive DReads (t n k m : Nat) (cg : Int) (own : Bool) (x G : Nat) : Nat → Q → Dp → Q → Dp → Prop where
  | one {q : Q} {α : Dp} {q' : Q} {α' : Dp} (ho : α.over? = false) (hr : α.reads = true) (hg : α.good t n k m x G q) (ht : dpTurn t n k m cg own x G q α = (q', α')) (h : α'.over? = true) : DReads t n k m cg own x G 1 q α q' α'
  | more {N : Nat} {q : Q} {α : Dp} {q1 : Q} {α1 : Dp} {q' : Q} {α' : Dp} (ho : α.over? = false) (hr : α.reads = true) (hg : α.good t n k m x G q) (ht : dpTurn t n k m cg own x G q α = (q1, α1)) (h : α1.over? = false) (g : DReads t n k m cg own x G N q1 α1 q' α') : DReads t n k m cg own x G (N + 1) q α q' α'

theorem DReads.pos {t n k m : Nat} {cg : Int} {own : Bool} {x G : Nat} {N : Nat} {q : Q} {α : Dp} {q' : Q} {α' : Dp} (g : DReads t n k m cg own x G N q α q' α') : 1 ≤ N := by
  cases g <;> omega

theorem DRuns.pos {t n k m : Nat} {cg : Int} {own : Bool} {x G : Nat} {N : Nat} {q : Q} {α : Dp} {q' : Q} {α' : Dp} (g : DRuns t n k m cg own x G N q α q' α') : 1 ≤ N := by
  cases g <;> omega

theorem DRuns.wd {t n k m : Nat} {cg : Int} {own : Bool} {x G : Nat} {N : Nat} {q : Q} {α : Dp} {q' : Q} {α' : Dp} (g : DRuns t n k m cg own x G N q α q' α') (h : ∀ a, Wd (q.dw a)) : ∀ a, Wd (q'.dw a) := by
  induction g with
  | one _ _ ht _ => exact dpTurn_wd h ht
  | more _ _ ht _ _ ih => exact ih (dpTurn_wd h ht)

section
variable {w : World} {L : Loc} {t n k m σ : Nat} {s : Mm} {q : Q} {nu : Int} {own : Bool}

set_option maxHeartbeats 1000000 in
theorem drop_goes {cg cp cr : Int} (h : MemAt w L s) (hT : Town t n k m s σ q) (hG : Good t n k m cg cp cr) (hdw : ∀ a, Wd (q.dw a)) {x G : Nat} (hh : HandIs nu x G) (hx : x < n) (hσ : σ + 200 < 1000000) {N : Nat} (hN : N ≤ 200) {q' : Q} {E : Int} (g : DRuns t n k m cg own x G N q .see q' (.over E)) :
    Calls Tryz.prog 18 #[.agg #[.int .i64 t, .int .i64 n, .int .i64 k, .int .i64 m, .int .i64 cg, .int .i64 cp, .int .i64 cr, .pointer (some ⟨L.p, 0, none⟩), .int .i64 0], .int .u64 nu, .bool own] w fun e w' => ∃ (st : Int) (s' : Mm), e = .returned (.agg #[.int .i64 E, .int .u64 0, .int .i64 0, .int .i64 st]) ∧ MemAt w' L s' ∧ Town t n k m s' (σ + N) q' ∧ Only L.has w w' := by
  have hB : Hid (¬ L.has w.heap.size) := fun hh => by have := h.lt _ hh; omega
  have hB1 : Hid (¬ L.has (w.heap.size + 1)) := fun hh => by have := h.lt _ hh; omega
  have hB2 : Hid (¬ L.has (w.heap.size + 1 + 1)) := fun hh => by have := h.lt _ hh; omega
  have HT : Hid (Town t n k m s σ q) := hT
  have HM : Hid (MemAt w L s) := h
  have HG : Hid (Good t n k m cg cp cr) := hG
  have HH : Hid (HandIs nu x G) := hh
  have HX : Hid (x < n) := hx
  have HW : Hid (∀ a, Wd (q.dw a)) := hdw
  have GG : Hid (DRuns t n k m cg own x G N q .see q' (.over E)) := g
  clear h hT hG g hh hx hdw
  go_enter Tryz.func18, Tryz.ntmps18
  go_wp2_with (go_at_call 37; refine (newDrop_any nu own _).mono ?_; rintro e w1 ⟨rfl, rfl⟩)
  have A1 : Hid (∃ s1 cs1 a1, MemAt (((w.alloc (.cells #[.int .i64 t, .int .i64 n, .int .i64 k, .int .i64 m, .int .i64 cg, .int .i64 cp, .int .i64 cr, .pointer (some ⟨L.p, 0, none⟩), .int .i64 0] 28)).alloc (.cells #[.int .i64 0, .int .u64 0, .int .i64 0, .int .i64 0] 37)).alloc (drop0 nu own)) L s1 ∧ Town t n k m s1 (σ + 0) q ∧ DpAt (((w.alloc (.cells #[.int .i64 t, .int .i64 n, .int .i64 k, .int .i64 m, .int .i64 cg, .int .i64 cp, .int .i64 cr, .pointer (some ⟨L.p, 0, none⟩), .int .i64 0] 28)).alloc (.cells #[.int .i64 0, .int .u64 0, .int .i64 0, .int .i64 0] 37)).alloc (drop0 nu own)) (w.heap.size + 1 + 1) 0 113 cs1 a1 ∧ DpIs t n k m nu own x .see a1 ∧ BoxV (((w.alloc (.cells #[.int .i64 t, .int .i64 n, .int .i64 k, .int .i64 m, .int .i64 cg, .int .i64 cp, .int .i64 cr, .pointer (some ⟨L.p, 0, none⟩), .int .i64 0] 28)).alloc (.cells #[.int .i64 0, .int .u64 0, .int .i64 0, .int .i64 0] 37)).alloc (drop0 nu own)) w.heap.size t n k m cg cp cr L.p 0 ∧ At (((w.alloc (.cells #[.int .i64 t, .int .i64 n, .int .i64 k, .int .i64 m, .int .i64 cg, .int .i64 cp, .int .i64 cr, .pointer (some ⟨L.p, 0, none⟩), .int .i64 0] 28)).alloc (.cells #[.int .i64 0, .int .u64 0, .int .i64 0, .int .i64 0] 37)).alloc (drop0 nu own)) (w.heap.size + 1) 0 37 #[.int .i64 0, .int .u64 0, .int .i64 0, .int .i64 0] [.int .i64 0, .int .u64 0, .int .i64 0, .int .i64 0] ∧ Only (L.and (w.heap.size + 1 + 1)) w (((w.alloc (.cells #[.int .i64 t, .int .i64 n, .int .i64 k, .int .i64 m, .int .i64 cg, .int .i64 cp, .int .i64 cr, .pointer (some ⟨L.p, 0, none⟩), .int .i64 0] 28)).alloc (.cells #[.int .i64 0, .int .u64 0, .int .i64 0, .int .i64 0] 37)).alloc (drop0 nu own))) := by
    obtain ⟨cs, q0⟩ := drop0_at nu own ((w.alloc (.cells #[.int .i64 t, .int .i64 n, .int .i64 k, .int .i64 m, .int .i64 cg, .int .i64 cp, .int .i64 cr, .pointer (some ⟨L.p, 0, none⟩), .int .i64 0] 28)).alloc (.cells #[.int .i64 0, .int .u64 0, .int .i64 0, .int .i64 0] 37))
    rw [Go.Deep.nblk_alloc, Go.Deep.nblk_alloc] at q0
    have q1 := (At.new (w.alloc (.cells #[.int .i64 t, .int .i64 n, .int .i64 k, .int .i64 m, .int .i64 cg, .int .i64 cp, .int .i64 cr, .pointer (some ⟨L.p, 0, none⟩), .int .i64 0] 28)) 37 [.int .i64 0, .int .u64 0, .int .i64 0, .int .i64 0]).grown (grow_alloc (Below.refl _ _) (drop0 nu own))
    rw [Go.Deep.nblk_alloc] at q1
    exact ⟨s, cs, _, ((HM.out.alloc _).alloc _).alloc _, HT.out, q0, dp0_is t n k m nu own x, (BoxV.newB _).grown (grow_alloc (Below.refl _ _) _), q1, (((Only.refl _ _).alloc _).alloc _).alloc _⟩
  clear HM HT
  go_loopw [8] (fun i wr => ∃ (j N1 : Nat) (s1 : Mm) (cs1 : Array Value) (a1 : DV) (q1 : Q) (α1 : Dp), i = .int .i64 j ∧ j + N1 = N ∧ DRuns t n k m cg own x G N1 q1 α1 q' (.over E) ∧ (∀ a, Wd (q1.dw a)) ∧ MemAt wr L s1 ∧ Town t n k m s1 (σ + j) q1 ∧ DpAt wr (w.heap.size + 1 + 1) 0 113 cs1 a1 ∧ DpIs t n k m nu own x α1 a1 ∧ BoxV wr w.heap.size t n k m cg cp cr L.p 0 ∧ At wr (w.heap.size + 1) 0 37 #[.int .i64 0, .int .u64 0, .int .i64 0, .int .i64 0] [.int .i64 0, .int .u64 0, .int .i64 0, .int .i64 0] ∧ Only (L.and (w.heap.size + 1 + 1)) w wr) (fun i _ => 200 - (intOf i).toNat)
  case atStart =>
    obtain ⟨s1, cs1, a1, hm⟩ := A1.out
    exact ⟨0, N, s1, cs1, a1, q, _, rfl, by omega, GG.out, HW.out, hm⟩
  case round =>
    clear A1 GG HW
    obtain ⟨j, N1, s1, cs1, a1, q1, α1, rfl, hj, gg, wd, mm, tw, ia, is1, v, j1, on⟩ := hrel
    have hN1 := gg.pos
    have hj3 : (j : Int) < 200 := by omega
    have y0 := v.c0
    have y1 := v.c1
    have y2 := v.c2
    have y3 := v.c3
    have y4 := v.c4
    have y5 := v.c5
    have y6 := v.c6
    have y7 := v.c7
    have y8 := v.c8
    cases gg with
    | one ho hg ht h1 =>
      have HT1 : Hid (dpTurn t n k m cg own x G q1 α1 = (q', .over E)) := ht
      have HO : Hid (α1.over? = false) := ho
      have HGd : Hid (α1.good t n k m x G q1) := hg
      clear ht ho hg
      go_wp2_with (first
        | (go_at_call 38; refine (drop_step mm hB2.out tw HG.out (by omega) wd HH.out HX.out α1 ia is1 HGd.out HO.out 0 _ _ HT1.out true h1).mono ?_; rintro e w2 ⟨rfl, s2, cs2, a2, P⟩; have c1 : a2.E = E := P.is.E; have c2 := P.is.H; have c3 := P.is.V; have hnx := P.is.nx)
        | (go_at_call 39; refine (ddone_over P.dp hnx).mono ?_; rintro e w3 ⟨rfl, b3⟩; rw [c1, c2, c3]; have j3 := (j1.only P.only (fun hh => hh.elim hB1.out (by omega))).grown b3; have z0 := j3.at0 0 rfl; have z1 := j3.at0 1 rfl; have z2 := j3.at0 2 rfl; have z3 := j3.at0 3 rfl; have qf := j3.fz))
      refine bodyPost_ret (v := .agg #[.int .i64 E, .int .u64 0, .int .i64 0, .int .i64 a2.St]) (by simp [results, Tryz.results18, go_sem, z0, z1, z2, z3]) rfl ?_
      refine ⟨_, s2, rfl, ((((P.mm.below b3).setIn hB1.out _ _).setIn hB1.out _ _).setIn hB1.out _ _).setIn hB1.out _ _, ?_, ?_⟩
      · have := P.tw
        rwa [show σ + j + 1 = σ + N by omega] at this
      · exact ((((((on.trans P.only).trans (Only.ofGrown b3)).setCell (fun hlt => by simp only at hlt; omega) _).setCell (fun hlt => by simp only at hlt; omega) _).setCell (fun hlt => by simp only at hlt; omega) _).setCell (fun hlt => by simp only at hlt; omega) _).mono (fun x hx hh => hh.elim id (fun e => absurd e (by omega)))
    | more ho hg ht h1 g1 =>
      have wd1 := dpTurn_wd wd ht
      have HT1 : Hid (dpTurn t n k m cg own x G q1 α1 = (_, _)) := ht
      have HO : Hid (α1.over? = false) := ho
      have HGd : Hid (α1.good t n k m x G q1) := hg
      clear ht ho hg
      go_wp2_with (go_at_call 38; refine (drop_step mm hB2.out tw HG.out (by omega) wd HH.out HX.out α1 ia is1 HGd.out HO.out 0 _ _ HT1.out false h1).mono ?_; rintro e w2 ⟨rfl, s2, cs2, a2, P⟩)
      go_roundw
      case rel =>
        exact ⟨j + 1, _, s2, cs2, a2, _, _, by go_num, by omega, g1, wd1, P.mm, P.tw, P.dp, P.is, v.only P.only (fun hh => hh.elim hB.out (by omega)), j1.only P.only (fun hh => hh.elim hB1.out (by omega)), on.trans P.only⟩
      case measure => simp [intOf]; omega

set_option maxHeartbeats 1000000 in
theorem drop_reads {cg cp cr : Int} (h : MemAt w L s) (hT : Town t n k m s σ q) (hG : Good t n k m cg cp cr) (hdw : ∀ a, Wd (q.dw a)) {x G : Nat} (hh : HandIs nu x G) (hx : x < n) (hσ : σ + 200 < 1000000) {N : Nat} (hN : N ≤ 200) {q' : Q} {E : Int} (g : DReads t n k m cg own x G N q .see q' (.over E)) :
    Calls Tryz.prog 18 #[.agg #[.int .i64 t, .int .i64 n, .int .i64 k, .int .i64 m, .int .i64 cg, .int .i64 cp, .int .i64 cr, .pointer (some ⟨L.p, 0, none⟩), .int .i64 0], .int .u64 nu, .bool own] w fun e w' => ∃ (st : Int) (s' : Mm), e = .returned (.agg #[.int .i64 E, .int .u64 0, .int .i64 0, .int .i64 st]) ∧ MemAt w' L s' ∧ Town t n k m s' (σ + N) q' ∧ Only L.has w w' ∧ s'.wd = s.wd := by
  have hB : Hid (¬ L.has w.heap.size) := fun hh => by have := h.lt _ hh; omega
  have hB1 : Hid (¬ L.has (w.heap.size + 1)) := fun hh => by have := h.lt _ hh; omega
  have hB2 : Hid (¬ L.has (w.heap.size + 1 + 1)) := fun hh => by have := h.lt _ hh; omega
  have HT : Hid (Town t n k m s σ q) := hT
  have HM : Hid (MemAt w L s) := h
  have HG : Hid (Good t n k m cg cp cr) := hG
  have HH : Hid (HandIs nu x G) := hh
  have HX : Hid (x < n) := hx
  have HW : Hid (∀ a, Wd (q.dw a)) := hdw
  have GG : Hid (DReads t n k m cg own x G N q .see q' (.over E)) := g
  clear h hT hG g hh hx hdw
  go_enter Tryz.func18, Tryz.ntmps18
  go_wp2_with (go_at_call 37; refine (newDrop_any nu own _).mono ?_; rintro e w1 ⟨rfl, rfl⟩)
  have A1 : Hid (∃ s1 cs1 a1, s1.wd = s.wd ∧ MemAt (((w.alloc (.cells #[.int .i64 t, .int .i64 n, .int .i64 k, .int .i64 m, .int .i64 cg, .int .i64 cp, .int .i64 cr, .pointer (some ⟨L.p, 0, none⟩), .int .i64 0] 28)).alloc (.cells #[.int .i64 0, .int .u64 0, .int .i64 0, .int .i64 0] 37)).alloc (drop0 nu own)) L s1 ∧ Town t n k m s1 (σ + 0) q ∧ DpAt (((w.alloc (.cells #[.int .i64 t, .int .i64 n, .int .i64 k, .int .i64 m, .int .i64 cg, .int .i64 cp, .int .i64 cr, .pointer (some ⟨L.p, 0, none⟩), .int .i64 0] 28)).alloc (.cells #[.int .i64 0, .int .u64 0, .int .i64 0, .int .i64 0] 37)).alloc (drop0 nu own)) (w.heap.size + 1 + 1) 0 113 cs1 a1 ∧ DpIs t n k m nu own x .see a1 ∧ BoxV (((w.alloc (.cells #[.int .i64 t, .int .i64 n, .int .i64 k, .int .i64 m, .int .i64 cg, .int .i64 cp, .int .i64 cr, .pointer (some ⟨L.p, 0, none⟩), .int .i64 0] 28)).alloc (.cells #[.int .i64 0, .int .u64 0, .int .i64 0, .int .i64 0] 37)).alloc (drop0 nu own)) w.heap.size t n k m cg cp cr L.p 0 ∧ At (((w.alloc (.cells #[.int .i64 t, .int .i64 n, .int .i64 k, .int .i64 m, .int .i64 cg, .int .i64 cp, .int .i64 cr, .pointer (some ⟨L.p, 0, none⟩), .int .i64 0] 28)).alloc (.cells #[.int .i64 0, .int .u64 0, .int .i64 0, .int .i64 0] 37)).alloc (drop0 nu own)) (w.heap.size + 1) 0 37 #[.int .i64 0, .int .u64 0, .int .i64 0, .int .i64 0] [.int .i64 0, .int .u64 0, .int .i64 0, .int .i64 0] ∧ Only (L.and (w.heap.size + 1 + 1)) w (((w.alloc (.cells #[.int .i64 t, .int .i64 n, .int .i64 k, .int .i64 m, .int .i64 cg, .int .i64 cp, .int .i64 cr, .pointer (some ⟨L.p, 0, none⟩), .int .i64 0] 28)).alloc (.cells #[.int .i64 0, .int .u64 0, .int .i64 0, .int .i64 0] 37)).alloc (drop0 nu own))) := by
    obtain ⟨cs, q0⟩ := drop0_at nu own ((w.alloc (.cells #[.int .i64 t, .int .i64 n, .int .i64 k, .int .i64 m, .int .i64 cg, .int .i64 cp, .int .i64 cr, .pointer (some ⟨L.p, 0, none⟩), .int .i64 0] 28)).alloc (.cells #[.int .i64 0, .int .u64 0, .int .i64 0, .int .i64 0] 37))
    rw [Go.Deep.nblk_alloc, Go.Deep.nblk_alloc] at q0
    have q1 := (At.new (w.alloc (.cells #[.int .i64 t, .int .i64 n, .int .i64 k, .int .i64 m, .int .i64 cg, .int .i64 cp, .int .i64 cr, .pointer (some ⟨L.p, 0, none⟩), .int .i64 0] 28)) 37 [.int .i64 0, .int .u64 0, .int .i64 0, .int .i64 0]).grown (grow_alloc (Below.refl _ _) (drop0 nu own))
    rw [Go.Deep.nblk_alloc] at q1
    exact ⟨s, cs, _, rfl, ((HM.out.alloc _).alloc _).alloc _, HT.out, q0, dp0_is t n k m nu own x, (BoxV.newB _).grown (grow_alloc (Below.refl _ _) _), q1, (((Only.refl _ _).alloc _).alloc _).alloc _⟩
  clear HM HT
  go_loopw [8] (fun i wr => ∃ (j N1 : Nat) (s1 : Mm) (cs1 : Array Value) (a1 : DV) (q1 : Q) (α1 : Dp), i = .int .i64 j ∧ j + N1 = N ∧ DReads t n k m cg own x G N1 q1 α1 q' (.over E) ∧ (∀ a, Wd (q1.dw a)) ∧ s1.wd = s.wd ∧ MemAt wr L s1 ∧ Town t n k m s1 (σ + j) q1 ∧ DpAt wr (w.heap.size + 1 + 1) 0 113 cs1 a1 ∧ DpIs t n k m nu own x α1 a1 ∧ BoxV wr w.heap.size t n k m cg cp cr L.p 0 ∧ At wr (w.heap.size + 1) 0 37 #[.int .i64 0, .int .u64 0, .int .i64 0, .int .i64 0] [.int .i64 0, .int .u64 0, .int .i64 0, .int .i64 0] ∧ Only (L.and (w.heap.size + 1 + 1)) w wr) (fun i _ => 200 - (intOf i).toNat)
  case atStart =>
    obtain ⟨s1, cs1, a1, hm⟩ := A1.out
    exact ⟨0, N, s1, cs1, a1, q, _, rfl, by omega, GG.out, HW.out, hm⟩
  case round =>
    clear A1 GG HW
    obtain ⟨j, N1, s1, cs1, a1, q1, α1, rfl, hj, gg, wd, wde, mm, tw, ia, is1, v, j1, on⟩ := hrel
    have hN1 := gg.pos
    have hj3 : (j : Int) < 200 := by omega
    have y0 := v.c0
    have y1 := v.c1
    have y2 := v.c2
    have y3 := v.c3
    have y4 := v.c4
    have y5 := v.c5
    have y6 := v.c6
    have y7 := v.c7
    have y8 := v.c8
    cases gg with
    | one ho hr hg ht h1 =>
      have HT1 : Hid (dpTurn t n k m cg own x G q1 α1 = (q', .over E)) := ht
      have HO : Hid (α1.over? = false) := ho
      have HGd : Hid (α1.good t n k m x G q1) := hg
      clear ht ho hg
      go_wp2_with (first
        | (go_at_call 38; refine (drop_step mm hB2.out tw HG.out (by omega) wd HH.out HX.out α1 ia is1 HGd.out HO.out 0 _ _ HT1.out true h1).mono ?_; rintro e w2 ⟨rfl, s2, cs2, a2, P⟩; have c1 : a2.E = E := P.is.E; have c2 := P.is.H; have c3 := P.is.V; have hnx := P.is.nx)
        | (go_at_call 39; refine (ddone_over P.dp hnx).mono ?_; rintro e w3 ⟨rfl, b3⟩; rw [c1, c2, c3]; have j3 := (j1.only P.only (fun hh => hh.elim hB1.out (by omega))).grown b3; have z0 := j3.at0 0 rfl; have z1 := j3.at0 1 rfl; have z2 := j3.at0 2 rfl; have z3 := j3.at0 3 rfl; have qf := j3.fz))
      refine bodyPost_ret (v := .agg #[.int .i64 E, .int .u64 0, .int .i64 0, .int .i64 a2.St]) (by simp [results, Tryz.results18, go_sem, z0, z1, z2, z3]) rfl ?_
      refine ⟨_, s2, rfl, ((((P.mm.below b3).setIn hB1.out _ _).setIn hB1.out _ _).setIn hB1.out _ _).setIn hB1.out _ _, ?_, ?_, ?_⟩
      · have := P.tw
        rwa [show σ + j + 1 = σ + N by omega] at this
      · exact ((((((on.trans P.only).trans (Only.ofGrown b3)).setCell (fun hlt => by simp only at hlt; omega) _).setCell (fun hlt => by simp only at hlt; omega) _).setCell (fun hlt => by simp only at hlt; omega) _).setCell (fun hlt => by simp only at hlt; omega) _).mono (fun x hx hh => hh.elim id (fun e => absurd e (by omega)))
      · rw [P.rd hr]; exact (upd_id _ _).trans wde
    | more ho hr hg ht h1 g1 =>
      have wd1 := dpTurn_wd wd ht
      have HT1 : Hid (dpTurn t n k m cg own x G q1 α1 = (_, _)) := ht
      have HO : Hid (α1.over? = false) := ho
      have HGd : Hid (α1.good t n k m x G q1) := hg
      clear ht ho hg
      go_wp2_with (go_at_call 38; refine (drop_step mm hB2.out tw HG.out (by omega) wd HH.out HX.out α1 ia is1 HGd.out HO.out 0 _ _ HT1.out false h1).mono ?_; rintro e w2 ⟨rfl, s2, cs2, a2, P⟩)
      go_roundw
      case rel =>
        exact ⟨j + 1, _, s2, cs2, a2, _, _, by go_num, by omega, g1, wd1, (by rw [P.rd hr]; exact (upd_id _ _).trans wde), P.mm, P.tw, P.dp, P.is, v.only P.only (fun hh => hh.elim hB.out (by omega)), j1.only P.only (fun hh => hh.elim hB1.out (by omega)), on.trans P.only⟩
      case measure => simp [intOf]; omega

set_option maxHeartbeats 1000000 in
theorem drop_none {cg cp cr : Int} (h : MemAt w L s) (h0 : Wd nu) (hn : nu < 65536 ∨ 4294967296 ≤ nu) (hσ : s.steps = σ) :
    Calls Tryz.prog 18 #[.agg #[.int .i64 t, .int .i64 n, .int .i64 k, .int .i64 m, .int .i64 cg, .int .i64 cp, .int .i64 cr, .pointer (some ⟨L.p, 0, none⟩), .int .i64 0], .int .u64 nu, .bool own] w fun e w' => e = .returned (.agg #[.int .i64 3, .int .u64 0, .int .i64 0, .int .i64 σ]) ∧ MemAt w' L s ∧ Only L.has w w' := by
  have hB : Hid (¬ L.has w.heap.size) := fun hh => by have := h.lt _ hh; omega
  have hB1 : Hid (¬ L.has (w.heap.size + 1)) := fun hh => by have := h.lt _ hh; omega
  have hB2 : Hid (¬ L.has (w.heap.size + 1 + 1)) := fun hh => by have := h.lt _ hh; omega
  have HM : Hid (MemAt w L s) := h
  have HS : Hid (s.steps = σ) := hσ
  have H0 : Hid (Wd nu) := h0
  have HN : Hid (nu < 65536 ∨ 4294967296 ≤ nu) := hn
  clear h0 hn
  clear h hσ
  go_enter Tryz.func18, Tryz.ntmps18
  go_wp2_with (go_at_call 37; refine (newDrop_any nu own _).mono ?_; rintro e w1 ⟨rfl, rfl⟩)
  have A1 : Hid (∃ cs1, MemAt (((w.alloc (.cells #[.int .i64 t, .int .i64 n, .int .i64 k, .int .i64 m, .int .i64 cg, .int .i64 cp, .int .i64 cr, .pointer (some ⟨L.p, 0, none⟩), .int .i64 0] 28)).alloc (.cells #[.int .i64 0, .int .u64 0, .int .i64 0, .int .i64 0] 37)).alloc (drop0 nu own)) L s ∧ DpAt (((w.alloc (.cells #[.int .i64 t, .int .i64 n, .int .i64 k, .int .i64 m, .int .i64 cg, .int .i64 cp, .int .i64 cr, .pointer (some ⟨L.p, 0, none⟩), .int .i64 0] 28)).alloc (.cells #[.int .i64 0, .int .u64 0, .int .i64 0, .int .i64 0] 37)).alloc (drop0 nu own)) (w.heap.size + 1 + 1) 0 113 cs1 (dv0 nu own) ∧ BoxV (((w.alloc (.cells #[.int .i64 t, .int .i64 n, .int .i64 k, .int .i64 m, .int .i64 cg, .int .i64 cp, .int .i64 cr, .pointer (some ⟨L.p, 0, none⟩), .int .i64 0] 28)).alloc (.cells #[.int .i64 0, .int .u64 0, .int .i64 0, .int .i64 0] 37)).alloc (drop0 nu own)) w.heap.size t n k m cg cp cr L.p 0 ∧ At (((w.alloc (.cells #[.int .i64 t, .int .i64 n, .int .i64 k, .int .i64 m, .int .i64 cg, .int .i64 cp, .int .i64 cr, .pointer (some ⟨L.p, 0, none⟩), .int .i64 0] 28)).alloc (.cells #[.int .i64 0, .int .u64 0, .int .i64 0, .int .i64 0] 37)).alloc (drop0 nu own)) (w.heap.size + 1) 0 37 #[.int .i64 0, .int .u64 0, .int .i64 0, .int .i64 0] [.int .i64 0, .int .u64 0, .int .i64 0, .int .i64 0] ∧ Only (L.and (w.heap.size + 1 + 1)) w (((w.alloc (.cells #[.int .i64 t, .int .i64 n, .int .i64 k, .int .i64 m, .int .i64 cg, .int .i64 cp, .int .i64 cr, .pointer (some ⟨L.p, 0, none⟩), .int .i64 0] 28)).alloc (.cells #[.int .i64 0, .int .u64 0, .int .i64 0, .int .i64 0] 37)).alloc (drop0 nu own))) := by
    obtain ⟨cs, q0⟩ := drop0_at nu own ((w.alloc (.cells #[.int .i64 t, .int .i64 n, .int .i64 k, .int .i64 m, .int .i64 cg, .int .i64 cp, .int .i64 cr, .pointer (some ⟨L.p, 0, none⟩), .int .i64 0] 28)).alloc (.cells #[.int .i64 0, .int .u64 0, .int .i64 0, .int .i64 0] 37))
    rw [Go.Deep.nblk_alloc, Go.Deep.nblk_alloc] at q0
    have q1 := (At.new (w.alloc (.cells #[.int .i64 t, .int .i64 n, .int .i64 k, .int .i64 m, .int .i64 cg, .int .i64 cp, .int .i64 cr, .pointer (some ⟨L.p, 0, none⟩), .int .i64 0] 28)) 37 [.int .i64 0, .int .u64 0, .int .i64 0, .int .i64 0]).grown (grow_alloc (Below.refl _ _) (drop0 nu own))
    rw [Go.Deep.nblk_alloc] at q1
    exact ⟨cs, ((HM.out.alloc _).alloc _).alloc _, q0, (BoxV.newB _).grown (grow_alloc (Below.refl _ _) _), q1, (((Only.refl _ _).alloc _).alloc _).alloc _⟩
  clear HM
  go_loopw [8] (fun i wr => i = .int .i64 0 ∧ ∃ cs1, MemAt wr L s ∧ DpAt wr (w.heap.size + 1 + 1) 0 113 cs1 (dv0 nu own) ∧ BoxV wr w.heap.size t n k m cg cp cr L.p 0 ∧ At wr (w.heap.size + 1) 0 37 #[.int .i64 0, .int .u64 0, .int .i64 0, .int .i64 0] [.int .i64 0, .int .u64 0, .int .i64 0, .int .i64 0] ∧ Only (L.and (w.heap.size + 1 + 1)) w wr) (fun i _ => 200 - (intOf i).toNat)
  case atStart => exact ⟨rfl, A1.out⟩
  case round =>
    clear A1
    obtain ⟨rfl, cs1, mm, ia, v, j1, on⟩ := hrel
    have y0 := v.c0
    have y1 := v.c1
    have y2 := v.c2
    have y3 := v.c3
    have y4 := v.c4
    have y5 := v.c5
    have y6 := v.c6
    have y7 := v.c7
    have y8 := v.c8
    go_wp2_with (first
      | (go_at_call 38; refine (dstep_none mm hB2.out ia 0 H0.out.1 H0.out.2 HN.out rfl HS.out).mono ?_; rintro e w2 ⟨rfl, s2, cs2, a2, m2, o2, i2, q2, rfl, rfl⟩)
      | (go_at_call 39; refine (ddone_over i2 rfl).mono ?_; rintro e w3 ⟨rfl, b3⟩; have j3 := (j1.only o2 (fun hh => hh.elim hB1.out (by omega))).grown b3; have z0 := j3.at0 0 rfl; have z1 := j3.at0 1 rfl; have z2 := j3.at0 2 rfl; have z3 := j3.at0 3 rfl; have qf := j3.fz))
    refine bodyPost_ret (v := .agg #[.int .i64 3, .int .u64 0, .int .i64 0, .int .i64 σ]) (by simp [results, Tryz.results18, go_sem, z0, z1, z2, z3]) rfl ?_
    refine ⟨rfl, ((((m2.below b3).setIn hB1.out _ _).setIn hB1.out _ _).setIn hB1.out _ _).setIn hB1.out _ _, ?_⟩
    exact ((((((on.trans o2).trans (Only.ofGrown b3)).setCell (fun hlt => by simp only at hlt; omega) _).setCell (fun hlt => by simp only at hlt; omega) _).setCell (fun hlt => by simp only at hlt; omega) _).setCell (fun hlt => by simp only at hlt; omega) _).mono (fun x hx hh => hh.elim id (fun e => absurd e (by omega)))

set_option maxHeartbeats 1000000 in
theorem drop_out {cg cp cr : Int} (h : MemAt w L s) (hG : Good t n k m cg cp cr) (hl : arenaLen t n k m ≤ s.n) {x : Nat} {G : Int} (hh : HandIs nu x G) (hx : n ≤ x) (hσ : s.steps = σ) :
    Calls Tryz.prog 18 #[.agg #[.int .i64 t, .int .i64 n, .int .i64 k, .int .i64 m, .int .i64 cg, .int .i64 cp, .int .i64 cr, .pointer (some ⟨L.p, 0, none⟩), .int .i64 0], .int .u64 nu, .bool own] w fun e w' => e = .returned (.agg #[.int .i64 3, .int .u64 0, .int .i64 0, .int .i64 σ]) ∧ MemAt w' L s ∧ Only L.has w w' := by
  have hB : Hid (¬ L.has w.heap.size) := fun hh => by have := h.lt _ hh; omega
  have hB1 : Hid (¬ L.has (w.heap.size + 1)) := fun hh => by have := h.lt _ hh; omega
  have hB2 : Hid (¬ L.has (w.heap.size + 1 + 1)) := fun hh => by have := h.lt _ hh; omega
  have HM : Hid (MemAt w L s) := h
  have HS : Hid (s.steps = σ) := hσ
  have HG : Hid (Good t n k m cg cp cr) := hG
  have HL : Hid (arenaLen t n k m ≤ s.n) := hl
  have HH : Hid (HandIs nu x G) := hh
  have HX : Hid (n ≤ x) := hx
  clear hG hl hh hx
  clear h hσ
  go_enter Tryz.func18, Tryz.ntmps18
  go_wp2_with (go_at_call 37; refine (newDrop_any nu own _).mono ?_; rintro e w1 ⟨rfl, rfl⟩)
  have A1 : Hid (∃ cs1, MemAt (((w.alloc (.cells #[.int .i64 t, .int .i64 n, .int .i64 k, .int .i64 m, .int .i64 cg, .int .i64 cp, .int .i64 cr, .pointer (some ⟨L.p, 0, none⟩), .int .i64 0] 28)).alloc (.cells #[.int .i64 0, .int .u64 0, .int .i64 0, .int .i64 0] 37)).alloc (drop0 nu own)) L s ∧ DpAt (((w.alloc (.cells #[.int .i64 t, .int .i64 n, .int .i64 k, .int .i64 m, .int .i64 cg, .int .i64 cp, .int .i64 cr, .pointer (some ⟨L.p, 0, none⟩), .int .i64 0] 28)).alloc (.cells #[.int .i64 0, .int .u64 0, .int .i64 0, .int .i64 0] 37)).alloc (drop0 nu own)) (w.heap.size + 1 + 1) 0 113 cs1 (dv0 nu own) ∧ BoxV (((w.alloc (.cells #[.int .i64 t, .int .i64 n, .int .i64 k, .int .i64 m, .int .i64 cg, .int .i64 cp, .int .i64 cr, .pointer (some ⟨L.p, 0, none⟩), .int .i64 0] 28)).alloc (.cells #[.int .i64 0, .int .u64 0, .int .i64 0, .int .i64 0] 37)).alloc (drop0 nu own)) w.heap.size t n k m cg cp cr L.p 0 ∧ At (((w.alloc (.cells #[.int .i64 t, .int .i64 n, .int .i64 k, .int .i64 m, .int .i64 cg, .int .i64 cp, .int .i64 cr, .pointer (some ⟨L.p, 0, none⟩), .int .i64 0] 28)).alloc (.cells #[.int .i64 0, .int .u64 0, .int .i64 0, .int .i64 0] 37)).alloc (drop0 nu own)) (w.heap.size + 1) 0 37 #[.int .i64 0, .int .u64 0, .int .i64 0, .int .i64 0] [.int .i64 0, .int .u64 0, .int .i64 0, .int .i64 0] ∧ Only (L.and (w.heap.size + 1 + 1)) w (((w.alloc (.cells #[.int .i64 t, .int .i64 n, .int .i64 k, .int .i64 m, .int .i64 cg, .int .i64 cp, .int .i64 cr, .pointer (some ⟨L.p, 0, none⟩), .int .i64 0] 28)).alloc (.cells #[.int .i64 0, .int .u64 0, .int .i64 0, .int .i64 0] 37)).alloc (drop0 nu own))) := by
    obtain ⟨cs, q0⟩ := drop0_at nu own ((w.alloc (.cells #[.int .i64 t, .int .i64 n, .int .i64 k, .int .i64 m, .int .i64 cg, .int .i64 cp, .int .i64 cr, .pointer (some ⟨L.p, 0, none⟩), .int .i64 0] 28)).alloc (.cells #[.int .i64 0, .int .u64 0, .int .i64 0, .int .i64 0] 37))
    rw [Go.Deep.nblk_alloc, Go.Deep.nblk_alloc] at q0
    have q1 := (At.new (w.alloc (.cells #[.int .i64 t, .int .i64 n, .int .i64 k, .int .i64 m, .int .i64 cg, .int .i64 cp, .int .i64 cr, .pointer (some ⟨L.p, 0, none⟩), .int .i64 0] 28)) 37 [.int .i64 0, .int .u64 0, .int .i64 0, .int .i64 0]).grown (grow_alloc (Below.refl _ _) (drop0 nu own))
    rw [Go.Deep.nblk_alloc] at q1
    exact ⟨cs, ((HM.out.alloc _).alloc _).alloc _, q0, (BoxV.newB _).grown (grow_alloc (Below.refl _ _) _), q1, (((Only.refl _ _).alloc _).alloc _).alloc _⟩
  clear HM
  go_loopw [8] (fun i wr => i = .int .i64 0 ∧ ∃ cs1, MemAt wr L s ∧ DpAt wr (w.heap.size + 1 + 1) 0 113 cs1 (dv0 nu own) ∧ BoxV wr w.heap.size t n k m cg cp cr L.p 0 ∧ At wr (w.heap.size + 1) 0 37 #[.int .i64 0, .int .u64 0, .int .i64 0, .int .i64 0] [.int .i64 0, .int .u64 0, .int .i64 0, .int .i64 0] ∧ Only (L.and (w.heap.size + 1 + 1)) w wr) (fun i _ => 200 - (intOf i).toNat)
  case atStart => exact ⟨rfl, A1.out⟩
  case round =>
    clear A1
    obtain ⟨rfl, cs1, mm, ia, v, j1, on⟩ := hrel
    have y0 := v.c0
    have y1 := v.c1
    have y2 := v.c2
    have y3 := v.c3
    have y4 := v.c4
    have y5 := v.c5
    have y6 := v.c6
    have y7 := v.c7
    have y8 := v.c8
    go_wp2_with (first
      | (go_at_call 38; refine (dstep_out mm ia 0 HG.out HL.out HH.out hB2.out HX.out rfl HS.out).mono ?_; rintro e w2 ⟨rfl, s2, cs2, a2, m2, o2, i2, q2, rfl, rfl⟩)
      | (go_at_call 39; refine (ddone_over i2 rfl).mono ?_; rintro e w3 ⟨rfl, b3⟩; have j3 := (j1.only o2 (fun hh => hh.elim hB1.out (by omega))).grown b3; have z0 := j3.at0 0 rfl; have z1 := j3.at0 1 rfl; have z2 := j3.at0 2 rfl; have z3 := j3.at0 3 rfl; have qf := j3.fz))
    refine bodyPost_ret (v := .agg #[.int .i64 3, .int .u64 0, .int .i64 0, .int .i64 σ]) (by simp [results, Tryz.results18, go_sem, z0, z1, z2, z3]) rfl ?_
    refine ⟨rfl, ((((m2.below b3).setIn hB1.out _ _).setIn hB1.out _ _).setIn hB1.out _ _).setIn hB1.out _ _, ?_⟩
    exact ((((((on.trans o2).trans (Only.ofGrown b3)).setCell (fun hlt => by simp only at hlt; omega) _).setCell (fun hlt => by simp only at hlt; omega) _).setCell (fun hlt => by simp only at hlt; omega) _).setCell (fun hlt => by simp only at hlt; omega) _).mono (fun x hx hh => hh.elim id (fun e => absurd e (by omega)))

end

end Go.Proofs.YtcdmokbamakomaaGreat

/- An object is let go by one who is alone: the steps, and what they come to; what stays true between calls. No program in it. -/
namespace Go.Proofs.YtcdmokbamakomaaGreat
open Go.RowKit

theorem packS_all (st A G V : Nat) (h1 : st ≤ 7) (h2 : A ≤ 1048575) (h3 : G ≤ 65535) (h4 : V ≤ 4194303) : packS st A G V = st + A * 8 + G * 8388608 + V * 549755813888 := by
  unfold packS
  rw [cut_id st 3 (by omega) (by simp; omega), cut_id A 20 (by omega) (by simp; omega), cut_id G 16 (by omega) (by simp; omega), cut_id V 22 (by omega) (by simp; omega)]

/-- what a slot's word holds that was packed -/
theorem packS_dec {st A G V : Nat} (h1 : st ≤ 7) (h2 : A ≤ 1048575) (h3 : G ≤ 65535) (h4 : V ≤ 4194303) : packS st A G V % 8 = st ∧ adOf (packS st A G V) = A ∧ genOf (packS st A G V) = G ∧ verOf' (packS st A G V) = V := by
  rw [packS_all st A G V h1 h2 h3 h4]
  unfold adOf genOf verOf'
  refine ⟨?_, ?_, ?_, ?_⟩ <;> omega

theorem genOf_le' (v : Int) : genOf v ≤ 65535 := genOf_le v

theorem mark_dec {v : Int} (hv : verOf' v < 4194303) : markW v % 8 = 4 ∧ adOf (markW v) = adOf v ∧ genOf (markW v) = genOf v ∧ verOf' (markW v) = verOf' v + 1 := by
  have e : markW v = packS ((4 : Nat) : Int) (adOf v) (genOf v) ((verOf' v + 1 : Nat) : Int) := by unfold markW; simp
  rw [e]
  exact packS_dec (by decide) (adOf_le v) (genOf_le v) (by omega)

/-- cells behind a place are frozen, so many -/
def frz (dw : Nat → Int) (a V j : Nat) : Nat → Int := fun b => if a < b ∧ b ≤ a + j then froze (dw b) V else dw b

theorem frz0 (dw : Nat → Int) (a V : Nat) : frz dw a V 0 = dw := by
  funext b
  unfold frz
  rw [if_neg (by omega)]
theorem frz_next (dw : Nat → Int) (a V j : Nat) : upd (frz dw a V j) (a + 1 + j) (froze (dw (a + 1 + j)) V) = frz dw a V (j + 1) := by
  funext b
  by_cases e : b = a + 1 + j
  · subst e
    rw [upd_same]
    unfold frz
    rw [if_pos (by omega)]
  · rw [upd_other _ _ _ _ e]
    unfold frz
    by_cases h : a < b ∧ b ≤ a + j
    · rw [if_pos h, if_pos (by omega)]
    · rw [if_neg h, if_neg (by omega)]
theorem frz_at (dw : Nat → Int) (a V j : Nat) : frz dw a V j (a + 1 + j) = dw (a + 1 + j) := by
  unfold frz
  rw [if_neg (by omega)]
theorem frz_out (dw : Nat → Int) (a V j b : Nat) (h : ¬ (a < b ∧ b ≤ a + j)) : frz dw a V j b = dw b := by
  unfold frz
  rw [if_neg h]

def Q.fz (q : Q) (a V j : Nat) : Q := { q with dw := frz q.dw a V j }

/-- an object lives no more: its slot's word is another one, its cells are frozen, its words are counted no more -/
def Q.end (q : Q) (cg : Int) (x : Nat) (v : Int) (Z i : Nat) : Q :=
  { q with lv := upd q.lv i (q.lv i - room (classOf Z).toNat), sw := upd q.sw x (behindW cg v), dw := frz q.dw (adOf v) (verOf' v + 1) Z }

/-- and its slot is given back -/
def Q.gone (q : Q) (cg : Int) (x : Nat) (v : Int) (Z i : Nat) : Q := { q.end cg x v Z i with c := q.c + 1, lk := upd q.lk x (hd q.F), F := x :: q.F }

section
variable {t n k m : Nat} {cg : Int} {own : Bool} {x G : Nat}

/-- the cells are frozen one by one -/
theorem fin_runs {q : Q} {v : Int} {Z i : Nat} (O : ∃ i, Obj9 t n k m v Z i) (hdw : ∀ a, Wd (q.dw a)) (hc : ∀ j, j < Z → frozenIn (q.dw (adOf v + 1 + j)) (verOf' v) = false) {M : Nat} {q' : Q} {α' : Dp} (g : DRuns t n k m cg own x G M (q.fz (adOf v) (verOf' v) Z) (.fin Z i (.go v Z Z none)) q' α') : ∀ d j, j + d = Z → DRuns t n k m cg own x G (2 * d + M) (q.fz (adOf v) (verOf' v) j) (.fin Z i (.go v Z j none)) q' α' := by
  intro d
  induction d with
  | zero => intro j hj; obtain rfl : j = Z := by omega
            rw [Nat.mul_zero, Nat.zero_add]; exact g
  | succ d ih =>
    intro j hj
    have hlt : ¬ Z ≤ j := by omega
    rw [show 2 * (d + 1) + M = (2 * d + M) + 1 + 1 by omega]
    refine .more (q1 := q.fz (adOf v) (verOf' v) j) (α1 := .fin Z i (.go v Z j (some (q.dw (adOf v + 1 + j))))) rfl ⟨⟨O, fun u hu => by cases hu⟩, rfl⟩ ?_ rfl (.more (q1 := q.fz (adOf v) (verOf' v) (j + 1)) (α1 := .fin Z i (.go v Z (j + 1) none)) rfl ⟨⟨O, fun u hu => by cases hu; exact hdw _⟩, rfl⟩ ?_ rfl (ih (j + 1) (by omega)))
    · have e : (q.fz (adOf v) (verOf' v) j).dw (adOf v + 1 + j) = q.dw (adOf v + 1 + j) := frz_at _ _ _ _
      simp only [dpTurn, hpTurn, hlt, if_false, e, hc j (by omega)]
      rfl
    · have e : (q.fz (adOf v) (verOf' v) j).dw (adOf v + 1 + j) = q.dw (adOf v + 1 + j) := frz_at _ _ _ _
      simp only [dpTurn, hpTurn, hlt, if_false, e, if_true]
      have := frz_next q.dw (adOf v) (verOf' v) j
      simp only [Q.fz, dpFin, this]

theorem Obj9.mark {v : Int} {Z i : Nat} (O : Obj9 t n k m v Z i) (hv : verOf' v < 4194303) : Obj9 t n k m (markW v) Z i := by
  obtain ⟨d1, d2, _, _⟩ := mark_dec hv
  exact ⟨packS_wd _ _ _ _, by rw [d1]; rfl, O.z1, O.z2, O.ik, by rw [d2]; exact O.ad⟩

theorem behind_mark {v : Int} (hv : verOf' v < 4194303) : behindW cg (markW v) = behindW cg v := by
  unfold behindW
  rw [(mark_dec hv).2.2.1]

/-- an object that is no more ahead of being let go: how it goes from the mark on, in one's hand -/
theorem mark_runs {q : Q} {v : Int} {Z i : Nat} (O : Obj9 t n k m v Z i) (hdw : ∀ a, Wd (q.dw a)) (hv : verOf' v < 4194303) (hc : ∀ j, j < Z → frozenIn (q.dw (adOf v + 1 + j)) (verOf' v + 1) = false) (hw : q.sw x = v) {M : Nat} {q' : Q} {α' : Dp} (g : DRuns t n k m cg own x G M { q with sw := upd q.sw x (behindW cg v), dw := frz q.dw (adOf v) (verOf' v + 1) Z } (.count Z i) q' α') : DRuns t n k m cg own x G (2 * Z + (M + 1) + 1) q (.mark v Z) q' α' := by
  obtain ⟨d1, d2, d3, d4⟩ := mark_dec hv
  have O' := O.mark hv
  have ci : (chunkOf t n k m (adOf v)).toNat = i := by rw [O.c1]; simp
  refine .more (q1 := { q with sw := upd q.sw x (markW v) }) (α1 := .fin Z i (.go (markW v) Z 0 none)) rfl ⟨i, O⟩ ?_ rfl ?_
  · simp only [dpTurn, hw, if_true, ci]
  · have f := fin_runs (cg := cg) (own := own) (x := x) (G := G) (i := i) (q := { q with sw := upd q.sw x (markW v) }) (v := markW v) (Z := Z) ⟨i, O'⟩ hdw (fun j hj => by rw [d2, d4]; exact hc j hj) (M := M + 1) (q' := q') (α' := α') ?_ Z 0 (by omega)
    · rwa [show Q.fz { q with sw := upd q.sw x (markW v) } (adOf (markW v)) (verOf' (markW v)) 0 = { q with sw := upd q.sw x (markW v) } by unfold Q.fz; rw [frz0]] at f
    · refine .more (q1 := { q with sw := upd q.sw x (behindW cg v), dw := frz q.dw (adOf v) (verOf' v + 1) Z }) (α1 := .count Z i) rfl ⟨⟨⟨i, O'⟩, fun u hu => by cases hu⟩, rfl⟩ ?_ rfl g
      have e : (Q.fz { q with sw := upd q.sw x (markW v) } (adOf (markW v)) (verOf' (markW v)) Z).sw x = markW v := upd_same _ _ _
      simp only [dpTurn, hpTurn, Nat.le_refl, if_true, hpEnd, e, dpFin]
      simp only [Q.fz, d2, d4, upd_upd, behind_mark hv]

theorem give_runs {q : Q} (hxF : x ∉ q.F) (hh : hd q.F ≤ n) : DRuns t n k m cg own x G 3 q (.give .idle) { q with c := q.c + 1, lk := upd q.lk x (hd q.F), F := x :: q.F } (.over 0) := by
  refine .more (q1 := q) (α1 := .give (.saw (hd q.F) q.c)) rfl ⟨hxF, trivial, rfl⟩ rfl rfl (.more (q1 := { q with lk := upd q.lk x (hd q.F) }) (α1 := .give (.lnk (hd q.F) q.c)) rfl ⟨hxF, ⟨hh, Nat.le_refl _, fun _ => rfl⟩, rfl⟩ rfl rfl (.one rfl ⟨hxF, ⟨hh, upd_same _ _ _, Nat.le_refl _, fun _ => rfl⟩, rfl⟩ ?_ rfl))
  simp only [dpTurn, gvTurn, if_true, dpGive]

/-- the count, and what follows it -/
theorem count_runs {q : Q} {Z i : Nat} (z1 : 1 ≤ Z) (z2 : Z ≤ 16) (hik : i < k) (hlv : room (classOf Z).toNat ≤ q.lv i) (hxF : x ∉ q.F) (hh : hd q.F ≤ n) (hl : (G : Int) < cg) : DRuns t n k m cg own x G 4 q (.count Z i) { q with lv := upd q.lv i (q.lv i - room (classOf Z).toNat), c := q.c + 1, lk := upd q.lk x (hd q.F), F := x :: q.F } (.over 0) := by
  refine .more (q1 := { q with lv := upd q.lv i (q.lv i - room (classOf Z).toNat) }) (α1 := .give .idle) rfl ⟨z1, z2, hik, hlv⟩ ?_ rfl (give_runs (q := { q with lv := upd q.lv i (q.lv i - room (classOf Z).toNat) }) hxF hh)
  simp only [dpTurn, show ¬ cg ≤ (G : Int) by omega, if_false]

theorem count_last {q : Q} {Z i : Nat} (z1 : 1 ≤ Z) (z2 : Z ≤ 16) (hik : i < k) (hlv : room (classOf Z).toNat ≤ q.lv i) (hl : cg ≤ (G : Int)) : DRuns t n k m cg own x G 1 q (.count Z i) { q with lv := upd q.lv i (q.lv i - room (classOf Z).toNat) } (.over 0) := by
  refine .one rfl ⟨z1, z2, hik, hlv⟩ ?_ rfl
  simp only [dpTurn, hl, if_true]

/-- whoever sees an object that lives comes to the mark -/
theorem see_runs {q : Q} {Z i : Nat} (O : Obj9 t n k m (q.sw x) Z i) (hz : szOf (q.dw (adOf (q.sw x))) = Z) (ho : ownOf (q.dw (adOf (q.sw x))) = own) (hG : genOf (q.sw x) = G) (h4 : q.sw x % 8 ≠ 4) {M : Nat} {q' : Q} {α' : Dp} (g : DRuns t n k m cg own x G M q (.mark (q.sw x) Z) q' α') : DRuns t n k m cg own x G (M + 1 + 1) q .see q' α' := by
  refine .more (q1 := q) (α1 := .ask (q.sw x)) rfl (fun _ _ => ⟨i, by rw [hz]; exact O⟩) ?_ rfl (.more (q1 := q) (α1 := .mark (q.sw x) Z) rfl ⟨i, by rw [hz]; exact O⟩ ?_ rfl g)
  · simp only [dpTurn, O.life, hG, decide_true, Bool.and_self, if_true]
  · simp only [dpTurn, dpAsk, ho, beq_self_eq_true, if_true, h4, if_false, hz]

/-- an object that lives is let go -/
theorem runs_gone {q : Q} {Z i : Nat} (O : Obj9 t n k m (q.sw x) Z i) (hdw : ∀ a, Wd (q.dw a)) (hz : szOf (q.dw (adOf (q.sw x))) = Z) (ho : ownOf (q.dw (adOf (q.sw x))) = own) (hG : genOf (q.sw x) = G) (h4 : q.sw x % 8 ≠ 4) (hv : verOf' (q.sw x) < 4194303) (hc : ∀ j, j < Z → frozenIn (q.dw (adOf (q.sw x) + 1 + j)) (verOf' (q.sw x) + 1) = false) (hlv : room (classOf Z).toNat ≤ q.lv i) (hxF : x ∉ q.F) (hh : hd q.F ≤ n) (hl : (G : Int) < cg) : DRuns t n k m cg own x G (2 * Z + 8) q .see (q.gone cg x (q.sw x) Z i) (.over 0) :=
  see_runs O hz ho hG h4 (mark_runs O hdw hv hc rfl (count_runs (q := { q with sw := upd q.sw x (behindW cg (q.sw x)), dw := frz q.dw (adOf (q.sw x)) (verOf' (q.sw x) + 1) Z }) O.z1 O.z2 O.ik hlv hxF hh hl))

theorem runs_last {q : Q} {Z i : Nat} (O : Obj9 t n k m (q.sw x) Z i) (hdw : ∀ a, Wd (q.dw a)) (hz : szOf (q.dw (adOf (q.sw x))) = Z) (ho : ownOf (q.dw (adOf (q.sw x))) = own) (hG : genOf (q.sw x) = G) (h4 : q.sw x % 8 ≠ 4) (hv : verOf' (q.sw x) < 4194303) (hc : ∀ j, j < Z → frozenIn (q.dw (adOf (q.sw x) + 1 + j)) (verOf' (q.sw x) + 1) = false) (hlv : room (classOf Z).toNat ≤ q.lv i) (hl : cg ≤ (G : Int)) : DRuns t n k m cg own x G (2 * Z + 5) q .see (q.end cg x (q.sw x) Z i) (.over 0) :=
  see_runs O hz ho hG h4 (mark_runs O hdw hv hc rfl (count_last (q := { q with sw := upd q.sw x (behindW cg (q.sw x)), dw := frz q.dw (adOf (q.sw x)) (verOf' (q.sw x) + 1) Z }) O.z1 O.z2 O.ik hlv hl))

/-- no object lives by the handle -/
theorem runs_dead {q : Q} (h : (lifeB (q.sw x % 8) && decide (genOf (q.sw x) = G)) = false) : DRuns t n k m cg own x G 1 q .see q (.over 3) := by
  refine .one rfl (fun h1 h2 => ?_) ?_ rfl
  · rw [h1, h2] at h
    simp at h
  · simp only [dpTurn, h]
    rfl

/-- it is not as is said -/
theorem runs_other {q : Q} {Z i : Nat} (O : Obj9 t n k m (q.sw x) Z i) (hz : szOf (q.dw (adOf (q.sw x))) = Z) (hG : genOf (q.sw x) = G) (ho : ownOf (q.dw (adOf (q.sw x))) ≠ own) : DRuns t n k m cg own x G 2 q .see q (.over 3) := by
  refine .more (q1 := q) (α1 := .ask (q.sw x)) rfl (fun _ _ => ⟨i, by rw [hz]; exact O⟩) ?_ rfl (.one rfl ⟨i, by rw [hz]; exact O⟩ ?_ rfl)
  · simp only [dpTurn, O.life, hG, decide_true, Bool.and_self, if_true]
  · have : (ownOf (q.dw (adOf (q.sw x))) == own) = false := by simpa using ho
    simp only [dpTurn, dpAsk, this]
    rfl
/-- no object lives by the handle -/
theorem reads_dead {q : Q} (h : (lifeB (q.sw x % 8) && decide (genOf (q.sw x) = G)) = false) : DReads t n k m cg own x G 1 q .see q (.over 3) := by
  refine .one rfl rfl (fun h1 h2 => ?_) ?_ rfl
  · rw [h1, h2] at h
    simp at h
  · simp only [dpTurn, h]
    rfl

/-- it is not as is said -/
theorem reads_other {q : Q} {Z i : Nat} (O : Obj9 t n k m (q.sw x) Z i) (hz : szOf (q.dw (adOf (q.sw x))) = Z) (hG : genOf (q.sw x) = G) (ho : ownOf (q.dw (adOf (q.sw x))) ≠ own) : DReads t n k m cg own x G 2 q .see q (.over 3) := by
  refine .more (q1 := q) (α1 := .ask (q.sw x)) rfl rfl (fun _ _ => ⟨i, by rw [hz]; exact O⟩) ?_ rfl (.one rfl rfl ⟨i, by rw [hz]; exact O⟩ ?_ rfl)
  · simp only [dpTurn, O.life, hG, decide_true, Bool.and_self, if_true]
  · have : (ownOf (q.dw (adOf (q.sw x))) == own) = false := by simpa using ho
    simp only [dpTurn, dpAsk, this]
    rfl
end

end Go.Proofs.YtcdmokbamakomaaGreat

/- Objects that live, in an arena in which one is alone: one of them is let go, or it is told that it is not there. -/
namespace Go.Proofs.YtcdmokbamakomaaGreat
open Go.RowKit

theorem handIs {x G : Nat} (hx : x ≤ 65535) (g1 : 1 ≤ G) (g2 : G ≤ 65535) : HandIs (packH x G) x G := by
  rw [packH_is x G hx g2]
  refine ⟨?_, ?_, ?_, ?_⟩ <;> omega

theorem packOw_dec {Z x G : Nat} {own : Bool} (hZ : Z ≤ 65535) (hx : x ≤ 65535) (hG : G ≤ 65535) : szOf (packOw 2 Z x G own) = Z ∧ ownOf (packOw 2 Z x G own) = own := by
  have e := packOw_is 2 Z x G own (by decide) hZ hx hG
  rw [show ((2 : Nat) : Int) = 2 from rfl] at e
  rw [e]
  unfold szOf ownOf
  cases own
  · rw [if_neg (by decide)]
    exact ⟨by omega, decide_eq_false (by omega)⟩
  · rw [if_pos rfl]
    exact ⟨by omega, decide_eq_true (by omega)⟩

theorem Ox.apart_symm {o o' : Ox} (h : o.apart o') : o'.apart o :=
  ⟨fun e => h.1 e.symm, by rcases h.2 with e | e | e; exact Or.inl (fun k => e k.symm); exact Or.inr (Or.inr e); exact Or.inr (Or.inl e)⟩

theorem liveIn_mid (i : Nat) (l1 : List Ox) (o : Ox) (l2 : List Ox) : liveIn i (l1 ++ o :: l2) = (if o.i = i then room o.κ else 0) + liveIn i (l1 ++ l2) := by
  induction l1 with
  | nil => rfl
  | cons a l ih =>
    show (if a.i = i then room a.κ else 0) + liveIn i (l ++ o :: l2) = _ + ((if a.i = i then room a.κ else 0) + liveIn i (l ++ l2))
    rw [ih]; omega

section
variable {t n k m nx : Nat} {q : Q} {gen : Nat → Nat} {ls : List Ox} {cg : Int}

/-- what is known of an object that lives -/
structure OxIs (t n k m : Nat) (q : Q) (o : Ox) : Prop where
  obj : Obj9 t n k m (q.sw o.x) o.Z o.i
  st : q.sw o.x % 8 = 1
  ad : adOf (q.sw o.x) = o.a
  gn : genOf (q.sw o.x) = o.g
  vr : verOf' (q.sw o.x) = 0
  sz : szOf (q.dw (adOf (q.sw o.x))) = o.Z
  ow : ownOf (q.dw (adOf (q.sw o.x))) = o.own
  cl : ∀ j, j < o.Z → frozenIn (q.dw (adOf (q.sw o.x) + 1 + j)) (verOf' (q.sw o.x) + 1) = false
  rm : (classOf o.Z).toNat = o.κ

theorem Tame.is (C : Tame t n k m q nx gen ls) (hG : Good t n k m cg 600 3) (hn : n ≤ 65535) {o : Ox} (ho : o ∈ ls) : OxIs t n k m q o := by
  have K := C.ok o ho
  have A := C.li o ho
  have hmk : k * m ≤ 64 * 256 := Nat.mul_le_mul hG.k1 hG.n1
  have ht := hG.t1
  have hk := hG.k1
  have hin := base_in (t := t) (n := n) K.ik K.uk
  rw [← K.ae] at hin
  have hr := size_room K.z1 K.kz
  have hx1 := K.x1
  have dec := packS_dec (st := 1) (A := o.a) (G := o.g) (V := 0) (by decide) (by omega) K.g2 (by decide)
  have e : q.sw o.x = packS ((1 : Nat) : Int) o.a o.g ((0 : Nat) : Int) := A.sw
  rw [← e] at dec
  obtain ⟨d1, d2, d3, d4⟩ := dec
  have z2 := K.z2
  have g2 := K.g2
  obtain ⟨hs, hw2⟩ := packOw_dec (Z := o.Z) (x := o.x) (G := o.g) (own := o.own) (by omega) (by omega) g2
  rw [← show q.dw o.a = packOw 2 o.Z o.x o.g o.own from A.hw] at hs hw2
  refine ⟨⟨by rw [e]; exact packS_wd _ _ _ _, by rw [d1]; rfl, K.z1, K.z2, K.ik, o.u, ?_, by rw [d2]; exact K.ae⟩, d1, d2, d3, d4, by rw [d2]; exact hs, by rw [d2]; exact hw2, fun j hj => ?_, by rw [K.kz]; simp⟩
  · have := K.uk; omega
  · rw [d2, Nat.add_assoc, A.nt (1 + j) (by omega) (by omega)]
    rfl

theorem Tame.room_le {l1 l2 : List Ox} {o : Ox} (C : Tame t n k m q nx gen (l1 ++ o :: l2)) : room o.κ ≤ q.lv o.i := by
  rw [C.lv o.i (C.ok o (by simp)).ik, liveIn_mid, if_pos rfl]
  omega

/-- an object lives no more -/
theorem Tame.end {l1 l2 : List Ox} {o : Ox} (C : Tame t n k m q nx gen (l1 ++ o :: l2)) (hG : Good t n k m cg 600 3) (hn : n ≤ 65535) : Tame t n k m (q.end cg o.x (q.sw o.x) o.Z o.i) nx gen (l1 ++ l2) := by
  have ho : o ∈ l1 ++ o :: l2 := by simp
  have hsub : ∀ o', o' ∈ l1 ++ l2 → o' ∈ l1 ++ o :: l2 := fun o' h' => by
    rcases List.mem_append.1 h' with h' | h' <;> simp [h']
  have I := C.is hG hn ho
  have K := C.ok o ho
  have hrm := size_room K.z1 K.kz
  have hap : ∀ o', o' ∈ l1 ++ l2 → o.apart o' := (List.pairwise_cons.1 ((List.pairwise_middle Ox.apart_symm).1 C.pw)).1
  have hout : ∀ o', o' ∈ l1 ++ l2 → ∀ j', j' ≤ o'.Z → ¬ (adOf (q.sw o.x) < o'.a + j' ∧ o'.a + j' ≤ adOf (q.sw o.x) + o.Z) := by
    intro o' h' j' hj' ⟨h1, h2⟩
    rw [I.ad] at h1 h2
    have K' := C.ok o' (hsub o' h')
    have hrm' := size_room K'.z1 K'.kz
    have uk := K.uk
    have uk' := K'.uk
    rcases (hap o' h').2 with e | e | e
    · refine Ox.word_apart K (j := o'.a + j' - o.a) (i := o'.i) (u := o'.u + j') (by omega) (by omega) (Or.inl e) ?_
      have := K'.ae; omega
    · refine Ox.word_apart K (j := o'.a + j' - o.a) (i := o'.i) (u := o'.u + j') (by omega) (by omega) (Or.inr (by omega)) ?_
      have := K'.ae; omega
    · refine Ox.word_apart K' (j := j') (i := o.i) (u := o.u + (o'.a + j' - o.a)) (by omega) (by omega) (Or.inr (by omega)) ?_
      have := K.ae; omega
  refine ⟨C.al, C.us, fun i hi u h1 h2 => ?_, fun v hv => ?_, C.gb, fun o' h' => C.gn o' (hsub o' h'), fun o' h' => C.ok o' (hsub o' h'), fun o' h' => ?_, (List.pairwise_cons.1 ((List.pairwise_middle Ox.apart_symm).1 C.pw)).2, fun i hi => ?_, fun b => ?_⟩
  · show frz q.dw _ _ _ _ = 0
    have hus := (C.li o ho).us
    rw [frz_out, C.dw i hi u h1 h2]
    rintro ⟨h3, h4⟩
    rw [I.ad] at h3 h4
    refine Ox.word_apart K (j := base t n k m i + u - o.a) (i := i) (u := u) (by omega) h2 ?_ (by omega)
    by_cases e : o.i = i
    · right; rw [e] at hus; exact Nat.le_trans hus h1
    · exact Or.inl e
  · show upd q.sw o.x _ v = _
    have hvx : v ≠ o.x := fun e => (C.li o ho).nf (e ▸ hv)
    rw [upd_other _ _ _ _ hvx]
    exact C.sw v hv
  · have A' := C.li o' (hsub o' h')
    have hx : o'.x ≠ o.x := fun e => (hap o' h').1 e.symm
    refine ⟨A'.nf, ?_, ?_, fun j h1 h2 => ?_, A'.us⟩
    · show upd q.sw o.x _ o'.x = _
      rw [upd_other _ _ _ _ hx]; exact A'.sw
    · show frz q.dw _ _ _ o'.a = _
      rw [frz_out _ _ _ _ o'.a (hout o' h' 0 (Nat.zero_le _))]; exact A'.hw
    · show frz q.dw _ _ _ (o'.a + j) = _
      rw [frz_out _ _ _ _ _ (hout o' h' j h2)]; exact A'.nt j h1 h2
  · show upd q.lv o.i (q.lv o.i - room (classOf o.Z).toNat) i = _
    have hlv := C.lv i hi
    rw [liveIn_mid] at hlv
    rw [I.rm]
    by_cases e : i = o.i
    · subst e; rw [upd_same, hlv, if_pos rfl]; omega
    · rw [upd_other _ _ _ _ e, hlv, if_neg (fun h => e h.symm), Nat.zero_add]
  · show Wd (frz q.dw _ _ _ b)
    unfold frz
    split
    · exact froze_wd _ _
    · exact C.wb b

/-- and its slot is given back, in its next life -/
theorem Tame.gone {l1 l2 : List Ox} {o : Ox} (C : Tame t n k m q nx gen (l1 ++ o :: l2)) (hG : Good t n k m cg 600 3) (hn : n ≤ 65535) (hl : (o.g : Int) < cg) : Tame t n k m (q.gone cg o.x (q.sw o.x) o.Z o.i) nx (upd gen o.x (o.g + 1)) (l1 ++ l2) := by
  have ho : o ∈ l1 ++ o :: l2 := by simp
  have I := C.is hG hn ho
  have hg1 := hG.g1
  have hap : ∀ o', o' ∈ l1 ++ l2 → o.apart o' := (List.pairwise_cons.1 ((List.pairwise_middle Ox.apart_symm).1 C.pw)).1
  obtain ⟨al, us, dw, sw, gb, gn, ok, li, pw, lv, wb⟩ := C.end hG hn
  refine ⟨al, us, dw, fun v hv => ?_, fun v hv => ?_, fun o' h' => ?_, ok, fun o' h' => ?_, pw, lv, wb⟩
  · rcases List.mem_cons.1 hv with rfl | hv
    · show upd q.sw _ _ _ = _
      rw [upd_same, upd_same]
      unfold behindW
      rw [I.gn, if_neg (by omega)]
      congr 1
    · have hvx : v ≠ o.x := fun e => (C.li o ho).nf (e ▸ hv)
      rw [upd_other _ _ _ _ hvx]; exact sw v hv
  · by_cases e : v = o.x
    · subst e; rw [upd_same]; omega
    · rw [upd_other _ _ _ _ e]; exact gb v hv
  · have hx : o'.x ≠ o.x := fun e => (hap o' h').1 e.symm
    rw [upd_other _ _ _ _ hx]; exact gn o' h'
  · have hx : o'.x ≠ o.x := fun e => (hap o' h').1 e.symm
    have A' := li o' h'
    refine ⟨fun hh => ?_, A'.sw, A'.hw, A'.nt, A'.us⟩
    rcases List.mem_cons.1 hh with e | hh
    · exact hx e
    · exact A'.nf hh
end

section
variable {w0 w w' : World} {L : Loc} {bE t n k m σ nx : Nat} {cg : Int} {s : Mm} {q : Q} {gen : Nat → Nat} {own : Bool}

/-- an object is let go -/
theorem Farm.gone {l1 l2 : List Ox} {o : Ox} (f : Farm w0 w L bE t n k m cg s σ q nx gen (l1 ++ o :: l2)) (a : FarmApart w0 L bE t n k m cg) (hl : (o.g : Int) < cg) (hσ : σ + 200 < 1000000) :
    Calls Tryz.prog 18 #[.agg #[.int .i64 t, .int .i64 n, .int .i64 k, .int .i64 m, .int .i64 cg, .int .i64 600, .int .i64 3, .pointer (some ⟨L.p, 0, none⟩), .int .i64 0], .int .u64 (packH o.x o.g), .bool o.own] w fun e w' => ∃ (st : Int) (s' : Mm) (σ' : Nat), e = .returned (.agg #[.int .i64 0, .int .u64 0, .int .i64 0, .int .i64 st]) ∧ σ' ≤ σ + 40 ∧ Farm w0 w' L bE t n k m cg s' σ' (q.gone cg o.x (q.sw o.x) o.Z o.i) nx (upd gen o.x (o.g + 1)) (l1 ++ l2) ∧ Only L.has w w' := by
  have hn := f.tw.pile.big
  have ho : o ∈ l1 ++ o :: l2 := by simp
  have I := f.tm.is a.g hn ho
  have K := f.tm.ok o ho
  have x1 := K.x1
  have z2 := K.z2
  refine (drop_goes f.mm f.tw a.g f.tm.wb (handIs (by omega) K.g1 K.g2) K.x1 hσ (N := 2 * o.Z + 8) (by omega) (runs_gone I.obj f.tm.wb I.sz I.ow I.gn (by rw [I.st]; decide) (by rw [I.vr]; decide) I.cl (by rw [I.rm]; exact f.tm.room_le) (f.tm.li o ho).nf f.tw.pile.hdle hl)).mono ?_
  rintro e w' ⟨st, s', rfl, m', t', o'⟩
  exact ⟨st, s', _, rfl, by omega, f.only a o' m' t' (f.tm.gone a.g hn hl), o'⟩

/-- an object is let go, in its slot's last life -/
theorem Farm.last {l1 l2 : List Ox} {o : Ox} (f : Farm w0 w L bE t n k m cg s σ q nx gen (l1 ++ o :: l2)) (a : FarmApart w0 L bE t n k m cg) (hl : cg ≤ (o.g : Int)) (hσ : σ + 200 < 1000000) :
    Calls Tryz.prog 18 #[.agg #[.int .i64 t, .int .i64 n, .int .i64 k, .int .i64 m, .int .i64 cg, .int .i64 600, .int .i64 3, .pointer (some ⟨L.p, 0, none⟩), .int .i64 0], .int .u64 (packH o.x o.g), .bool o.own] w fun e w' => ∃ (st : Int) (s' : Mm) (σ' : Nat), e = .returned (.agg #[.int .i64 0, .int .u64 0, .int .i64 0, .int .i64 st]) ∧ σ' ≤ σ + 40 ∧ Farm w0 w' L bE t n k m cg s' σ' (q.end cg o.x (q.sw o.x) o.Z o.i) nx gen (l1 ++ l2) ∧ Only L.has w w' := by
  have hn := f.tw.pile.big
  have ho : o ∈ l1 ++ o :: l2 := by simp
  have I := f.tm.is a.g hn ho
  have K := f.tm.ok o ho
  have x1 := K.x1
  have z2 := K.z2
  refine (drop_goes f.mm f.tw a.g f.tm.wb (handIs (by omega) K.g1 K.g2) K.x1 hσ (N := 2 * o.Z + 5) (by omega) (runs_last I.obj f.tm.wb I.sz I.ow I.gn (by rw [I.st]; decide) (by rw [I.vr]; decide) I.cl (by rw [I.rm]; exact f.tm.room_le) hl)).mono ?_
  rintro e w' ⟨st, s', rfl, m', t', o'⟩
  exact ⟨st, s', _, rfl, by omega, f.only a o' m' t' (f.tm.end a.g hn), o'⟩

variable {ls : List Ox}

/-- no object lives by the handle -/
theorem Farm.dead {nu : Int} {x G : Nat} (f : Farm w0 w L bE t n k m cg s σ q nx gen ls) (a : FarmApart w0 L bE t n k m cg) (hh : HandIs nu x G) (hx : x < n) (hd : (lifeB (q.sw x % 8) && decide (genOf (q.sw x) = G)) = false) (hσ : σ + 200 < 1000000) :
    Calls Tryz.prog 18 #[.agg #[.int .i64 t, .int .i64 n, .int .i64 k, .int .i64 m, .int .i64 cg, .int .i64 600, .int .i64 3, .pointer (some ⟨L.p, 0, none⟩), .int .i64 0], .int .u64 nu, .bool own] w fun e w' => ∃ (st : Int) (s' : Mm), e = .returned (.agg #[.int .i64 3, .int .u64 0, .int .i64 0, .int .i64 st]) ∧ Farm w0 w' L bE t n k m cg s' (σ + 1) q nx gen ls ∧ Only L.has w w' ∧ s'.wd = s.wd := by
  refine (drop_reads f.mm f.tw a.g f.tm.wb hh hx hσ (N := 1) (by omega) (reads_dead hd)).mono ?_
  rintro e w' ⟨st, s', rfl, m', t', o', e'⟩
  exact ⟨st, s', rfl, f.only a o' m' t' f.tm, o', e'⟩

/-- an object lives, but it is not as is said -/
theorem Farm.other {o : Ox} (f : Farm w0 w L bE t n k m cg s σ q nx gen ls) (a : FarmApart w0 L bE t n k m cg) (ho : o ∈ ls) (hw : o.own ≠ own) (hσ : σ + 200 < 1000000) :
    Calls Tryz.prog 18 #[.agg #[.int .i64 t, .int .i64 n, .int .i64 k, .int .i64 m, .int .i64 cg, .int .i64 600, .int .i64 3, .pointer (some ⟨L.p, 0, none⟩), .int .i64 0], .int .u64 (packH o.x o.g), .bool own] w fun e w' => ∃ (st : Int) (s' : Mm), e = .returned (.agg #[.int .i64 3, .int .u64 0, .int .i64 0, .int .i64 st]) ∧ Farm w0 w' L bE t n k m cg s' (σ + 2) q nx gen ls ∧ Only L.has w w' ∧ s'.wd = s.wd := by
  have hn := f.tw.pile.big
  have I := f.tm.is a.g hn ho
  have K := f.tm.ok o ho
  have x1 := K.x1
  refine (drop_reads f.mm f.tw a.g f.tm.wb (handIs (by omega) K.g1 K.g2) K.x1 hσ (N := 2) (by omega) (reads_other I.obj I.sz I.gn (by rw [I.ow]; exact hw))).mono ?_
  rintro e w' ⟨st, s', rfl, m', t', o', e'⟩
  exact ⟨st, s', rfl, f.only a o' m' t' f.tm, o', e'⟩
end

theorem Farm.first {w0 w1 : World} {L : Loc} {t n k m : Nat} {cg : Int} {s : Mm} {σ : Nat} (hG : Good t n k m cg 600 3) (mm : MemAt w1 L s) (tw : Town t n k m s σ (Q.new n)) (b : Below w0.heap.size w0 w1) (f : ∀ k, L.has k → w0.heap.size ≤ k) :
    Farm w0 (w1.alloc (.cells #[.int .i64 t, .int .i64 n, .int .i64 k, .int .i64 m, .int .i64 cg, .int .i64 600, .int .i64 3, .pointer (some ⟨L.p, 0, none⟩), .int .i64 0] 28)) L w1.heap.size t n k m cg s σ (Q.new n) 0 (fun _ => 1) [] ∧ FarmApart w0 L w1.heap.size t n k m cg :=
  ⟨⟨mm.alloc _, tw, tame0 t n k m, BoxV.new, grow_alloc b _⟩, ⟨f, fun hh => by have := mm.lt _ hh; omega, b.size, hG⟩⟩

end Go.Proofs.YtcdmokbamakomaaGreat
