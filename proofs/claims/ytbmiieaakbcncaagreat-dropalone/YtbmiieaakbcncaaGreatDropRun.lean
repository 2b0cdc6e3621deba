/- The statements' own helper: to let an object go alone. -/
import Derived.Test.YtbmiieaakbcncaaGreatDropTown
namespace Go.Proofs.YtbmiieaakbcncaaGreat
open Go.RowKit

theorem hpTurn_wd {cg : Int} {x : Nat} {q : Q} {η : Hp} {q' : Q} {η' : Hp} (h : ∀ a, Wd (q.dw a)) (ht : hpTurn cg x q η = (q', η')) : ∀ a, Wd (q'.dw a) := by
  have e : ∀ v, hpEnd cg x q v = (q', η') → ∀ a, Wd (q'.dw a) := by
    intro v hv
    unfold hpEnd at hv
    split at hv <;> (obtain ⟨rfl, -⟩ := Prod.mk.inj hv; exact h)
  cases η with
  | over => obtain ⟨rfl, -⟩ := Prod.mk.inj ht; exact h
  | go v Z j u =>
    cases u with
    | none =>
      simp only [hpTurn] at ht
      split at ht
      · exact e v ht
      · split at ht <;> (obtain ⟨rfl, -⟩ := Prod.mk.inj ht; exact h)
    | some u =>
      simp only [hpTurn] at ht
      split at ht
      · exact e v ht
      · split at ht
        · obtain ⟨rfl, -⟩ := Prod.mk.inj ht
          intro a
          show Wd (upd q.dw _ _ a)
          unfold upd
          split
          · exact froze_wd _ _
          · exact h a
        · obtain ⟨rfl, -⟩ := Prod.mk.inj ht; exact h

theorem dpTurn_wd {t n k m : Nat} {cg : Int} {own : Bool} {x G : Nat} {q : Q} {α : Dp} {q' : Q} {α' : Dp} (h : ∀ a, Wd (q.dw a)) (ht : dpTurn t n k m cg own x G q α = (q', α')) : ∀ a, Wd (q'.dw a) := by
  cases α with
  | see => obtain ⟨rfl, -⟩ := Prod.mk.inj ht; exact h
  | ask v => obtain ⟨rfl, -⟩ := Prod.mk.inj ht; exact h
  | mark v Z =>
    simp only [dpTurn] at ht
    split at ht <;> (obtain ⟨rfl, -⟩ := Prod.mk.inj ht; exact h)
  | help η =>
    obtain ⟨q1, η1, h1⟩ : ∃ q1 η1, hpTurn cg x q η = (q1, η1) := ⟨_, _, rfl⟩
    simp only [dpTurn, h1] at ht
    have := hpTurn_wd h h1
    cases η1 <;> (simp only [dpHelp] at ht; obtain ⟨rfl, -⟩ := Prod.mk.inj ht; exact this)
  | fin Z i η =>
    obtain ⟨q1, η1, h1⟩ : ∃ q1 η1, hpTurn cg x q η = (q1, η1) := ⟨_, _, rfl⟩
    simp only [dpTurn, h1] at ht
    have := hpTurn_wd h h1
    cases η1 <;> (simp only [dpFin] at ht; obtain ⟨rfl, -⟩ := Prod.mk.inj ht; exact this)
  | count Z i => obtain ⟨rfl, -⟩ := Prod.mk.inj ht; exact h
  | give γ =>
    obtain ⟨c', lk', F', γ', h1⟩ : ∃ c' lk' F' γ', gvTurn q.c q.lk q.F x γ = (c', lk', F', γ') := ⟨_, _, _, _, rfl⟩
    simp only [dpTurn, h1] at ht
    cases γ' <;> (simp only [dpGive] at ht; obtain ⟨rfl, -⟩ := Prod.mk.inj ht; exact h)
  | over => obtain ⟨rfl, -⟩ := Prod.mk.inj ht; exact h

/-- alone: so many steps, the last of which ends it -/
inductive DRuns (t n k m : Nat) (cg : Int) (own : Bool) (x G : Nat) : Nat → Q → Dp → Q → Dp → Prop where
  | one {q : Q} {α : Dp} {q' : Q} {α' : Dp} (ho : α.over? = false) (hg : α.good t n k m x G q) (ht : dpTurn t n k m cg own x G q α = (q', α')) (h : α'.over? = true) : DRuns t n k m cg own x G 1 q α q' α'
  | more {N : Nat} {q : Q} {α : Dp} {q1 : Q} {α1 : Dp} {q' : Q} {α' : Dp} (ho : α.over? = false) (hg : α.good t n k m x G q) (ht : dpTurn t n k m cg own x G q α = (q1, α1)) (h : α1.over? = false) (g : DRuns t n k m cg own x G N q1 α1 q' α') : DRuns t n k m cg own x G (N + 1) q α q' α'

/-- alone: so many loads, the last of which ends it -/
inductive DReads (t n k m : Nat) (cg : Int) (own : Bool) (x G : Nat) : Nat → Q → Dp → Q → Dp → Prop where
  | one {q : Q} {α : Dp} {q' : Q} {α' : Dp} (ho : α.over? = false) (hr : α.reads = true) (hg : α.good t n k m x G q) (ht : dpTurn t n k m cg own x G q α = (q', α')) (h : α'.over? = true) : DReads t n k m cg own x G 1 q α q' α'
  | more {N : Nat} {q : Q} {α : Dp} {q1 : Q} {α1 : Dp} {q' : Q} {α' : Dp} (ho : α.over? = false) (hr : α.reads = true) (hg : α.good t n k m x G q) (ht : dpTurn t n k m cg own x G q α = (q1, α1)) (h : α1.over? = false) (g : DReads t n k m cg own x G N q1 α1 q' α') : DReads t n k m cg own x G (N + 1) q α q' α'

theorem DReads.pos {t n k m : Nat} {cg : Int} {own : Bool} {x G : Nat} {N : Nat} {q : Q} {α : Dp} {q' : Q} {α' : Dp} (g : DReads t n k m cg own x G N q α q' α') : 1 ≤ N := by
  cases g <;> omega

theorem DRuns.pos {t n k m : Nat} {cg : Int} {own : Bool} {x G : Nat} {N : Nat} {q : Q} {α : Dp} {q' : Q} {α' : Dp} (g : DRuns t n k m cg own x G N q α q' α') : 1 ≤ N := by
  cases g <;> omega

theorem DRuns.wd {t n k m : Nat} {cg : Int} {own : Bool} {x G : Nat} {N : Nat} {q : Q} {α : Dp} {q' : Q} {α' : Dp} (g : DRuns t n k m cg own x G N q α q' α') (h : ∀ a, Wd (q.dw a)) : ∀ a, Wd (q'.dw a) := by
  induction g with
  | one _ _ ht _ => exact dpTurn_wd h ht
  | more _ _ ht _ _ ih => exact ih (dpTurn_wd h ht)

section
variable {w : World} {L : Loc} {t n k m σ : Nat} {s : Mm} {q : Q} {nu : Int} {own : Bool}

set_option maxHeartbeats 1000000 in
theorem drop_goes {cg cp cr : Int} (h : MemAt w L s) (hT : Town t n k m s σ q) (hG : Good t n k m cg cp cr) (hdw : ∀ a, Wd (q.dw a)) {x G : Nat} (hh : HandIs nu x G) (hx : x < n) (hσ : σ + 200 < 1000000) {N : Nat} (hN : N ≤ 200) {q' : Q} {E : Int} (g : DRuns t n k m cg own x G N q .see q' (.over E)) :
    Calls Tryz.prog 14 #[.agg #[.int .i64 t, .int .i64 n, .int .i64 k, .int .i64 m, .int .i64 cg, .int .i64 cp, .int .i64 cr, .pointer (some ⟨L.p, 0, none⟩), .int .i64 0], .int .u64 nu, .bool own] w fun e w' => ∃ (st : Int) (s' : Mm), e = .returned (.agg #[.int .i64 E, .int .u64 0, .int .i64 0, .int .i64 st]) ∧ MemAt w' L s' ∧ Town t n k m s' (σ + N) q' ∧ Only L.has w w' := by
  have hB : Hid (¬ L.has w.heap.size) := fun hh => by have := h.lt _ hh; omega
  have hB1 : Hid (¬ L.has (w.heap.size + 1)) := fun hh => by have := h.lt _ hh; omega
  have hB2 : Hid (¬ L.has (w.heap.size + 1 + 1)) := fun hh => by have := h.lt _ hh; omega
  have HT : Hid (Town t n k m s σ q) := hT
  have HM : Hid (MemAt w L s) := h
  have HG : Hid (Good t n k m cg cp cr) := hG
  have HH : Hid (HandIs nu x G) := hh
  have HX : Hid (x < n) := hx
  have HW : Hid (∀ a, Wd (q.dw a)) := hdw
  have GG : Hid (DRuns t n k m cg own x G N q .see q' (.over E)) := g
  clear h hT hG g hh hx hdw
  go_enter Tryz.func14, Tryz.ntmps14
  go_wp2_with (go_at_call 22; refine (newDrop_any nu own _).mono ?_; rintro e w1 ⟨rfl, rfl⟩)
  have A1 : Hid (∃ s1 cs1 a1, MemAt (((w.alloc (.cells #[.int .i64 t, .int .i64 n, .int .i64 k, .int .i64 m, .int .i64 cg, .int .i64 cp, .int .i64 cr, .pointer (some ⟨L.p, 0, none⟩), .int .i64 0] 27)).alloc (.cells #[.int .i64 0, .int .u64 0, .int .i64 0, .int .i64 0] 39)).alloc (drop0 nu own)) L s1 ∧ Town t n k m s1 (σ + 0) q ∧ DpAt (((w.alloc (.cells #[.int .i64 t, .int .i64 n, .int .i64 k, .int .i64 m, .int .i64 cg, .int .i64 cp, .int .i64 cr, .pointer (some ⟨L.p, 0, none⟩), .int .i64 0] 27)).alloc (.cells #[.int .i64 0, .int .u64 0, .int .i64 0, .int .i64 0] 39)).alloc (drop0 nu own)) (w.heap.size + 1 + 1) 0 85 cs1 a1 ∧ DpIs t n k m nu own x .see a1 ∧ BoxV (((w.alloc (.cells #[.int .i64 t, .int .i64 n, .int .i64 k, .int .i64 m, .int .i64 cg, .int .i64 cp, .int .i64 cr, .pointer (some ⟨L.p, 0, none⟩), .int .i64 0] 27)).alloc (.cells #[.int .i64 0, .int .u64 0, .int .i64 0, .int .i64 0] 39)).alloc (drop0 nu own)) w.heap.size t n k m cg cp cr L.p 0 ∧ At (((w.alloc (.cells #[.int .i64 t, .int .i64 n, .int .i64 k, .int .i64 m, .int .i64 cg, .int .i64 cp, .int .i64 cr, .pointer (some ⟨L.p, 0, none⟩), .int .i64 0] 27)).alloc (.cells #[.int .i64 0, .int .u64 0, .int .i64 0, .int .i64 0] 39)).alloc (drop0 nu own)) (w.heap.size + 1) 0 39 #[.int .i64 0, .int .u64 0, .int .i64 0, .int .i64 0] [.int .i64 0, .int .u64 0, .int .i64 0, .int .i64 0] ∧ Only (L.and (w.heap.size + 1 + 1)) w (((w.alloc (.cells #[.int .i64 t, .int .i64 n, .int .i64 k, .int .i64 m, .int .i64 cg, .int .i64 cp, .int .i64 cr, .pointer (some ⟨L.p, 0, none⟩), .int .i64 0] 27)).alloc (.cells #[.int .i64 0, .int .u64 0, .int .i64 0, .int .i64 0] 39)).alloc (drop0 nu own))) := by
    obtain ⟨cs, q0⟩ := drop0_at nu own ((w.alloc (.cells #[.int .i64 t, .int .i64 n, .int .i64 k, .int .i64 m, .int .i64 cg, .int .i64 cp, .int .i64 cr, .pointer (some ⟨L.p, 0, none⟩), .int .i64 0] 27)).alloc (.cells #[.int .i64 0, .int .u64 0, .int .i64 0, .int .i64 0] 39))
    rw [Go.Deep.nblk_alloc, Go.Deep.nblk_alloc] at q0
    have q1 := (At.new (w.alloc (.cells #[.int .i64 t, .int .i64 n, .int .i64 k, .int .i64 m, .int .i64 cg, .int .i64 cp, .int .i64 cr, .pointer (some ⟨L.p, 0, none⟩), .int .i64 0] 27)) 39 [.int .i64 0, .int .u64 0, .int .i64 0, .int .i64 0]).grown (grow_alloc (Below.refl _ _) (drop0 nu own))
    rw [Go.Deep.nblk_alloc] at q1
    exact ⟨s, cs, _, ((HM.out.alloc _).alloc _).alloc _, HT.out, q0, dp0_is t n k m nu own x, (BoxV.newB _).grown (grow_alloc (Below.refl _ _) _), q1, (((Only.refl _ _).alloc _).alloc _).alloc _⟩
  clear HM HT
  go_loopw [8] (fun i wr => ∃ (j N1 : Nat) (s1 : Mm) (cs1 : Array Value) (a1 : DV) (q1 : Q) (α1 : Dp), i = .int .i64 j ∧ j + N1 = N ∧ DRuns t n k m cg own x G N1 q1 α1 q' (.over E) ∧ (∀ a, Wd (q1.dw a)) ∧ MemAt wr L s1 ∧ Town t n k m s1 (σ + j) q1 ∧ DpAt wr (w.heap.size + 1 + 1) 0 85 cs1 a1 ∧ DpIs t n k m nu own x α1 a1 ∧ BoxV wr w.heap.size t n k m cg cp cr L.p 0 ∧ At wr (w.heap.size + 1) 0 39 #[.int .i64 0, .int .u64 0, .int .i64 0, .int .i64 0] [.int .i64 0, .int .u64 0, .int .i64 0, .int .i64 0] ∧ Only (L.and (w.heap.size + 1 + 1)) w wr) (fun i _ => 200 - (intOf i).toNat)
  case atStart =>
    obtain ⟨s1, cs1, a1, hm⟩ := A1.out
    exact ⟨0, N, s1, cs1, a1, q, _, rfl, by omega, GG.out, HW.out, hm⟩
  case round =>
    clear A1 GG HW
    obtain ⟨j, N1, s1, cs1, a1, q1, α1, rfl, hj, gg, wd, mm, tw, ia, is1, v, j1, on⟩ := hrel
    have hN1 := gg.pos
    have hj3 : (j : Int) < 200 := by omega
    have y0 := v.c0
    have y1 := v.c1
    have y2 := v.c2
    have y3 := v.c3
    have y4 := v.c4
    have y5 := v.c5
    have y6 := v.c6
    have y7 := v.c7
    have y8 := v.c8
    cases gg with
    | one ho hg ht h1 =>
      have HT1 : Hid (dpTurn t n k m cg own x G q1 α1 = (q', .over E)) := ht
      have HO : Hid (α1.over? = false) := ho
      have HGd : Hid (α1.good t n k m x G q1) := hg
      clear ht ho hg
      go_wp2_with (first
        | (go_at_call 23; refine (drop_step mm hB2.out tw HG.out (by omega) wd HH.out HX.out α1 ia is1 HGd.out HO.out 0 _ _ HT1.out true h1).mono ?_; rintro e w2 ⟨rfl, s2, cs2, a2, P⟩; have c1 : a2.E = E := P.is.E; have c2 := P.is.H; have c3 := P.is.V; have hnx := P.is.nx)
        | (go_at_call 24; refine (ddone_over P.dp hnx).mono ?_; rintro e w3 ⟨rfl, b3⟩; rw [c1, c2, c3]; have j3 := (j1.only P.only (fun hh => hh.elim hB1.out (by omega))).grown b3; have z0 := j3.at0 0 rfl; have z1 := j3.at0 1 rfl; have z2 := j3.at0 2 rfl; have z3 := j3.at0 3 rfl; have qf := j3.fz))
      refine bodyPost_ret (v := .agg #[.int .i64 E, .int .u64 0, .int .i64 0, .int .i64 a2.St]) (by simp [results, Tryz.results14, go_sem, z0, z1, z2, z3]) rfl ?_
      refine ⟨_, s2, rfl, ((((P.mm.below b3).setIn hB1.out _ _).setIn hB1.out _ _).setIn hB1.out _ _).setIn hB1.out _ _, ?_, ?_⟩
      · have := P.tw
        rwa [show σ + j + 1 = σ + N by omega] at this
      · exact ((((((on.trans P.only).trans (Only.ofGrown b3)).setCell (fun hlt => by simp only at hlt; omega) _).setCell (fun hlt => by simp only at hlt; omega) _).setCell (fun hlt => by simp only at hlt; omega) _).setCell (fun hlt => by simp only at hlt; omega) _).mono (fun x hx hh => hh.elim id (fun e => absurd e (by omega)))
    | more ho hg ht h1 g1 =>
      have wd1 := dpTurn_wd wd ht
      have HT1 : Hid (dpTurn t n k m cg own x G q1 α1 = (_, _)) := ht
      have HO : Hid (α1.over? = false) := ho
      have HGd : Hid (α1.good t n k m x G q1) := hg
      clear ht ho hg
      go_wp2_with (go_at_call 23; refine (drop_step mm hB2.out tw HG.out (by omega) wd HH.out HX.out α1 ia is1 HGd.out HO.out 0 _ _ HT1.out false h1).mono ?_; rintro e w2 ⟨rfl, s2, cs2, a2, P⟩)
      go_roundw
      case rel =>
        exact ⟨j + 1, _, s2, cs2, a2, _, _, by go_num, by omega, g1, wd1, P.mm, P.tw, P.dp, P.is, v.only P.only (fun hh => hh.elim hB.out (by omega)), j1.only P.only (fun hh => hh.elim hB1.out (by omega)), on.trans P.only⟩
      case measure => simp [intOf]; omega

set_option maxHeartbeats 1000000 in
theorem drop_reads {cg cp cr : Int} (h : MemAt w L s) (hT : Town t n k m s σ q) (hG : Good t n k m cg cp cr) (hdw : ∀ a, Wd (q.dw a)) {x G : Nat} (hh : HandIs nu x G) (hx : x < n) (hσ : σ + 200 < 1000000) {N : Nat} (hN : N ≤ 200) {q' : Q} {E : Int} (g : DReads t n k m cg own x G N q .see q' (.over E)) :
    Calls Tryz.prog 14 #[.agg #[.int .i64 t, .int .i64 n, .int .i64 k, .int .i64 m, .int .i64 cg, .int .i64 cp, .int .i64 cr, .pointer (some ⟨L.p, 0, none⟩), .int .i64 0], .int .u64 nu, .bool own] w fun e w' => ∃ (st : Int) (s' : Mm), e = .returned (.agg #[.int .i64 E, .int .u64 0, .int .i64 0, .int .i64 st]) ∧ MemAt w' L s' ∧ Town t n k m s' (σ + N) q' ∧ Only L.has w w' ∧ s'.wd = s.wd := by
  have hB : Hid (¬ L.has w.heap.size) := fun hh => by have := h.lt _ hh; omega
  have hB1 : Hid (¬ L.has (w.heap.size + 1)) := fun hh => by have := h.lt _ hh; omega
  have hB2 : Hid (¬ L.has (w.heap.size + 1 + 1)) := fun hh => by have := h.lt _ hh; omega
  have HT : Hid (Town t n k m s σ q) := hT
  have HM : Hid (MemAt w L s) := h
  have HG : Hid (Good t n k m cg cp cr) := hG
  have HH : Hid (HandIs nu x G) := hh
  have HX : Hid (x < n) := hx
  have HW : Hid (∀ a, Wd (q.dw a)) := hdw
  have GG : Hid (DReads t n k m cg own x G N q .see q' (.over E)) := g
  clear h hT hG g hh hx hdw
  go_enter Tryz.func14, Tryz.ntmps14
  go_wp2_with (go_at_call 22; refine (newDrop_any nu own _).mono ?_; rintro e w1 ⟨rfl, rfl⟩)
  have A1 : Hid (∃ s1 cs1 a1, s1.wd = s.wd ∧ MemAt (((w.alloc (.cells #[.int .i64 t, .int .i64 n, .int .i64 k, .int .i64 m, .int .i64 cg, .int .i64 cp, .int .i64 cr, .pointer (some ⟨L.p, 0, none⟩), .int .i64 0] 27)).alloc (.cells #[.int .i64 0, .int .u64 0, .int .i64 0, .int .i64 0] 39)).alloc (drop0 nu own)) L s1 ∧ Town t n k m s1 (σ + 0) q ∧ DpAt (((w.alloc (.cells #[.int .i64 t, .int .i64 n, .int .i64 k, .int .i64 m, .int .i64 cg, .int .i64 cp, .int .i64 cr, .pointer (some ⟨L.p, 0, none⟩), .int .i64 0] 27)).alloc (.cells #[.int .i64 0, .int .u64 0, .int .i64 0, .int .i64 0] 39)).alloc (drop0 nu own)) (w.heap.size + 1 + 1) 0 85 cs1 a1 ∧ DpIs t n k m nu own x .see a1 ∧ BoxV (((w.alloc (.cells #[.int .i64 t, .int .i64 n, .int .i64 k, .int .i64 m, .int .i64 cg, .int .i64 cp, .int .i64 cr, .pointer (some ⟨L.p, 0, none⟩), .int .i64 0] 27)).alloc (.cells #[.int .i64 0, .int .u64 0, .int .i64 0, .int .i64 0] 39)).alloc (drop0 nu own)) w.heap.size t n k m cg cp cr L.p 0 ∧ At (((w.alloc (.cells #[.int .i64 t, .int .i64 n, .int .i64 k, .int .i64 m, .int .i64 cg, .int .i64 cp, .int .i64 cr, .pointer (some ⟨L.p, 0, none⟩), .int .i64 0] 27)).alloc (.cells #[.int .i64 0, .int .u64 0, .int .i64 0, .int .i64 0] 39)).alloc (drop0 nu own)) (w.heap.size + 1) 0 39 #[.int .i64 0, .int .u64 0, .int .i64 0, .int .i64 0] [.int .i64 0, .int .u64 0, .int .i64 0, .int .i64 0] ∧ Only (L.and (w.heap.size + 1 + 1)) w (((w.alloc (.cells #[.int .i64 t, .int .i64 n, .int .i64 k, .int .i64 m, .int .i64 cg, .int .i64 cp, .int .i64 cr, .pointer (some ⟨L.p, 0, none⟩), .int .i64 0] 27)).alloc (.cells #[.int .i64 0, .int .u64 0, .int .i64 0, .int .i64 0] 39)).alloc (drop0 nu own))) := by
    obtain ⟨cs, q0⟩ := drop0_at nu own ((w.alloc (.cells #[.int .i64 t, .int .i64 n, .int .i64 k, .int .i64 m, .int .i64 cg, .int .i64 cp, .int .i64 cr, .pointer (some ⟨L.p, 0, none⟩), .int .i64 0] 27)).alloc (.cells #[.int .i64 0, .int .u64 0, .int .i64 0, .int .i64 0] 39))
    rw [Go.Deep.nblk_alloc, Go.Deep.nblk_alloc] at q0
    have q1 := (At.new (w.alloc (.cells #[.int .i64 t, .int .i64 n, .int .i64 k, .int .i64 m, .int .i64 cg, .int .i64 cp, .int .i64 cr, .pointer (some ⟨L.p, 0, none⟩), .int .i64 0] 27)) 39 [.int .i64 0, .int .u64 0, .int .i64 0, .int .i64 0]).grown (grow_alloc (Below.refl _ _) (drop0 nu own))
    rw [Go.Deep.nblk_alloc] at q1
    exact ⟨s, cs, _, rfl, ((HM.out.alloc _).alloc _).alloc _, HT.out, q0, dp0_is t n k m nu own x, (BoxV.newB _).grown (grow_alloc (Below.refl _ _) _), q1, (((Only.refl _ _).alloc _).alloc _).alloc _⟩
  clear HM HT
  go_loopw [8] (fun i wr => ∃ (j N1 : Nat) (s1 : Mm) (cs1 : Array Value) (a1 : DV) (q1 : Q) (α1 : Dp), i = .int .i64 j ∧ j + N1 = N ∧ DReads t n k m cg own x G N1 q1 α1 q' (.over E) ∧ (∀ a, Wd (q1.dw a)) ∧ s1.wd = s.wd ∧ MemAt wr L s1 ∧ Town t n k m s1 (σ + j) q1 ∧ DpAt wr (w.heap.size + 1 + 1) 0 85 cs1 a1 ∧ DpIs t n k m nu own x α1 a1 ∧ BoxV wr w.heap.size t n k m cg cp cr L.p 0 ∧ At wr (w.heap.size + 1) 0 39 #[.int .i64 0, .int .u64 0, .int .i64 0, .int .i64 0] [.int .i64 0, .int .u64 0, .int .i64 0, .int .i64 0] ∧ Only (L.and (w.heap.size + 1 + 1)) w wr) (fun i _ => 200 - (intOf i).toNat)
  case atStart =>
    obtain ⟨s1, cs1, a1, hm⟩ := A1.out
    exact ⟨0, N, s1, cs1, a1, q, _, rfl, by omega, GG.out, HW.out, hm⟩
  case round =>
    clear A1 GG HW
    obtain ⟨j, N1, s1, cs1, a1, q1, α1, rfl, hj, gg, wd, wde, mm, tw, ia, is1, v, j1, on⟩ := hrel
    have hN1 := gg.pos
    have hj3 : (j : Int) < 200 := by omega
    have y0 := v.c0
    have y1 := v.c1
    have y2 := v.c2
    have y3 := v.c3
    have y4 := v.c4
    have y5 := v.c5
    have y6 := v.c6
    have y7 := v.c7
    have y8 := v.c8
    cases gg with
    | one ho hr hg ht h1 =>
      have HT1 : Hid (dpTurn t n k m cg own x G q1 α1 = (q', .over E)) := ht
      have HO : Hid (α1.over? = false) := ho
      have HGd : Hid (α1.good t n k m x G q1) := hg
      clear ht ho hg
      go_wp2_with (first
        | (go_at_call 23; refine (drop_step mm hB2.out tw HG.out (by omega) wd HH.out HX.out α1 ia is1 HGd.out HO.out 0 _ _ HT1.out true h1).mono ?_; rintro e w2 ⟨rfl, s2, cs2, a2, P⟩; have c1 : a2.E = E := P.is.E; have c2 := P.is.H; have c3 := P.is.V; have hnx := P.is.nx)
        | (go_at_call 24; refine (ddone_over P.dp hnx).mono ?_; rintro e w3 ⟨rfl, b3⟩; rw [c1, c2, c3]; have j3 := (j1.only P.only (fun hh => hh.elim hB1.out (by omega))).grown b3; have z0 := j3.at0 0 rfl; have z1 := j3.at0 1 rfl; have z2 := j3.at0 2 rfl; have z3 := j3.at0 3 rfl; have qf := j3.fz))
      refine bodyPost_ret (v := .agg #[.int .i64 E, .int .u64 0, .int .i64 0, .int .i64 a2.St]) (by simp [results, Tryz.results14, go_sem, z0, z1, z2, z3]) rfl ?_
      refine ⟨_, s2, rfl, ((((P.mm.below b3).setIn hB1.out _ _).setIn hB1.out _ _).setIn hB1.out _ _).setIn hB1.out _ _, ?_, ?_, ?_⟩
      · have := P.tw
        rwa [show σ + j + 1 = σ + N by omega] at this
      · exact ((((((on.trans P.only).trans (Only.ofGrown b3)).setCell (fun hlt => by simp only at hlt; omega) _).setCell (fun hlt => by simp only at hlt; omega) _).setCell (fun hlt => by simp only at hlt; omega) _).setCell (fun hlt => by simp only at hlt; omega) _).mono (fun x hx hh => hh.elim id (fun e => absurd e (by omega)))
      · rw [P.rd hr]; exact (upd_id _ _).trans wde
    | more ho hr hg ht h1 g1 =>
      have wd1 := dpTurn_wd wd ht
      have HT1 : Hid (dpTurn t n k m cg own x G q1 α1 = (_, _)) := ht
      have HO : Hid (α1.over? = false) := ho
      have HGd : Hid (α1.good t n k m x G q1) := hg
      clear ht ho hg
      go_wp2_with (go_at_call 23; refine (drop_step mm hB2.out tw HG.out (by omega) wd HH.out HX.out α1 ia is1 HGd.out HO.out 0 _ _ HT1.out false h1).mono ?_; rintro e w2 ⟨rfl, s2, cs2, a2, P⟩)
      go_roundw
      case rel =>
        exact ⟨j + 1, _, s2, cs2, a2, _, _, by go_num, by omega, g1, wd1, (by rw [P.rd hr]; exact (upd_id _ _).trans wde), P.mm, P.tw, P.dp, P.is, v.only P.only (fun hh => hh.elim hB.out (by omega)), j1.only P.only (fun hh => hh.elim hB1.out (by omega)), on.trans P.only⟩
      case measure => simp [intOf]; omega

set_option maxHeartbeats 1000000 in
theorem drop_none {cg cp cr : Int} (h : MemAt w L s) (h0 : Wd nu) (hn : nu < 65536 ∨ 4294967296 ≤ nu) (hσ : s.steps = σ) :
    Calls Tryz.prog 14 #[.agg #[.int .i64 t, .int .i64 n, .int .i64 k, .int .i64 m, .int .i64 cg, .int .i64 cp, .int .i64 cr, .pointer (some ⟨L.p, 0, none⟩), .int .i64 0], .int .u64 nu, .bool own] w fun e w' => e = .returned (.agg #[.int .i64 3, .int .u64 0, .int .i64 0, .int .i64 σ]) ∧ MemAt w' L s ∧ Only L.has w w' := by
  have hB : Hid (¬ L.has w.heap.size) := fun hh => by have := h.lt _ hh; omega
  have hB1 : Hid (¬ L.has (w.heap.size + 1)) := fun hh => by have := h.lt _ hh; omega
  have hB2 : Hid (¬ L.has (w.heap.size + 1 + 1)) := fun hh => by have := h.lt _ hh; omega
  have HM : Hid (MemAt w L s) := h
  have HS : Hid (s.steps = σ) := hσ
  have H0 : Hid (Wd nu) := h0
  have HN : Hid (nu < 65536 ∨ 4294967296 ≤ nu) := hn
  clear h0 hn
  clear h hσ
  go_enter Tryz.func14, Tryz.ntmps14
  go_wp2_with (go_at_call 22; refine (newDrop_any nu own _).mono ?_; rintro e w1 ⟨rfl, rfl⟩)
  have A1 : Hid (∃ cs1, MemAt (((w.alloc (.cells #[.int .i64 t, .int .i64 n, .int .i64 k, .int .i64 m, .int .i64 cg, .int .i64 cp, .int .i64 cr, .pointer (some ⟨L.p, 0, none⟩), .int .i64 0] 27)).alloc (.cells #[.int .i64 0, .int .u64 0, .int .i64 0, .int .i64 0] 39)).alloc (drop0 nu own)) L s ∧ DpAt (((w.alloc (.cells #[.int .i64 t, .int .i64 n, .int .i64 k, .int .i64 m, .int .i64 cg, .int .i64 cp, .int .i64 cr, .pointer (some ⟨L.p, 0, none⟩), .int .i64 0] 27)).alloc (.cells #[.int .i64 0, .int .u64 0, .int .i64 0, .int .i64 0] 39)).alloc (drop0 nu own)) (w.heap.size + 1 + 1) 0 85 cs1 (dv0 nu own) ∧ BoxV (((w.alloc (.cells #[.int .i64 t, .int .i64 n, .int .i64 k, .int .i64 m, .int .i64 cg, .int .i64 cp, .int .i64 cr, .pointer (some ⟨L.p, 0, none⟩), .int .i64 0] 27)).alloc (.cells #[.int .i64 0, .int .u64 0, .int .i64 0, .int .i64 0] 39)).alloc (drop0 nu own)) w.heap.size t n k m cg cp cr L.p 0 ∧ At (((w.alloc (.cells #[.int .i64 t, .int .i64 n, .int .i64 k, .int .i64 m, .int .i64 cg, .int .i64 cp, .int .i64 cr, .pointer (some ⟨L.p, 0, none⟩), .int .i64 0] 27)).alloc (.cells #[.int .i64 0, .int .u64 0, .int .i64 0, .int .i64 0] 39)).alloc (drop0 nu own)) (w.heap.size + 1) 0 39 #[.int .i64 0, .int .u64 0, .int .i64 0, .int .i64 0] [.int .i64 0, .int .u64 0, .int .i64 0, .int .i64 0] ∧ Only (L.and (w.heap.size + 1 + 1)) w (((w.alloc (.cells #[.int .i64 t, .int .i64 n, .int .i64 k, .int .i64 m, .int .i64 cg, .int .i64 cp, .int .i64 cr, .pointer (some ⟨L.p, 0, none⟩), .int .i64 0] 27)).alloc (.cells #[.int .i64 0, .int .u64 0, .int .i64 0, .int .i64 0] 39)).alloc (drop0 nu own))) := by
    obtain ⟨cs, q0⟩ := drop0_at nu own ((w.alloc (.cells #[.int .i64 t, .int .i64 n, .int .i64 k, .int .i64 m, .int .i64 cg, .int .i64 cp, .int .i64 cr, .pointer (some ⟨L.p, 0, none⟩), .int .i64 0] 27)).alloc (.cells #[.int .i64 0, .int .u64 0, .int .i64 0, .int .i64 0] 39))
    rw [Go.Deep.nblk_alloc, Go.Deep.nblk_alloc] at q0
    have q1 := (At.new (w.alloc (.cells #[.int .i64 t, .int .i64 n, .int .i64 k, .int .i64 m, .int .i64 cg, .int .i64 cp, .int .i64 cr, .pointer (some ⟨L.p, 0, none⟩), .int .i64 0] 27)) 39 [.int .i64 0, .int .u64 0, .int .i64 0, .int .i64 0]).grown (grow_alloc (Below.refl _ _) (drop0 nu own))
    rw [Go.Deep.nblk_alloc] at q1
    exact ⟨cs, ((HM.out.alloc _).alloc _).alloc _, q0, (BoxV.newB _).grown (grow_alloc (Below.refl _ _) _), q1, (((Only.refl _ _).alloc _).alloc _).alloc _⟩
  clear HM
  go_loopw [8] (fun i wr => i = .int .i64 0 ∧ ∃ cs1, MemAt wr L s ∧ DpAt wr (w.heap.size + 1 + 1) 0 85 cs1 (dv0 nu own) ∧ BoxV wr w.heap.size t n k m cg cp cr L.p 0 ∧ At wr (w.heap.size + 1) 0 39 #[.int .i64 0, .int .u64 0, .int .i64 0, .int .i64 0] [.int .i64 0, .int .u64 0, .int .i64 0, .int .i64 0] ∧ Only (L.and (w.heap.size + 1 + 1)) w wr) (fun i _ => 200 - (intOf i).toNat)
  case atStart => exact ⟨rfl, A1.out⟩
  case round =>
    clear A1
    obtain ⟨rfl, cs1, mm, ia, v, j1, on⟩ := hrel
    have y0 := v.c0
    have y1 := v.c1
    have y2 := v.c2
    have y3 := v.c3
    have y4 := v.c4
    have y5 := v.c5
    have y6 := v.c6
    have y7 := v.c7
    have y8 := v.c8
    go_wp2_with (first
      | (go_at_call 23; refine (dstep_none mm hB2.out ia 0 H0.out.1 H0.out.2 HN.out rfl HS.out).mono ?_; rintro e w2 ⟨rfl, s2, cs2, a2, m2, o2, i2, q2, rfl, rfl⟩)
      | (go_at_call 24; refine (ddone_over i2 rfl).mono ?_; rintro e w3 ⟨rfl, b3⟩; have j3 := (j1.only o2 (fun hh => hh.elim hB1.out (by omega))).grown b3; have z0 := j3.at0 0 rfl; have z1 := j3.at0 1 rfl; have z2 := j3.at0 2 rfl; have z3 := j3.at0 3 rfl; have qf := j3.fz))
    refine bodyPost_ret (v := .agg #[.int .i64 3, .int .u64 0, .int .i64 0, .int .i64 σ]) (by simp [results, Tryz.results14, go_sem, z0, z1, z2, z3]) rfl ?_
    refine ⟨rfl, ((((m2.below b3).setIn hB1.out _ _).setIn hB1.out _ _).setIn hB1.out _ _).setIn hB1.out _ _, ?_⟩
    exact ((((((on.trans o2).trans (Only.ofGrown b3)).setCell (fun hlt => by simp only at hlt; omega) _).setCell (fun hlt => by simp only at hlt; omega) _).setCell (fun hlt => by simp only at hlt; omega) _).setCell (fun hlt => by simp only at hlt; omega) _).mono (fun x hx hh => hh.elim id (fun e => absurd e (by omega)))

set_option maxHeartbeats 1000000 in
theorem drop_out {cg cp cr : Int} (h : MemAt w L s) (hG : Good t n k m cg cp cr) (hl : arenaLen t n k m ≤ s.n) {x : Nat} {G : Int} (hh : HandIs nu x G) (hx : n ≤ x) (hσ : s.steps = σ) :
    Calls Tryz.prog 14 #[.agg #[.int .i64 t, .int .i64 n, .int .i64 k, .int .i64 m, .int .i64 cg, .int .i64 cp, .int .i64 cr, .pointer (some ⟨L.p, 0, none⟩), .int .i64 0], .int .u64 nu, .bool own] w fun e w' => e = .returned (.agg #[.int .i64 3, .int .u64 0, .int .i64 0, .int .i64 σ]) ∧ MemAt w' L s ∧ Only L.has w w' := by
  have hB : Hid (¬ L.has w.heap.size) := fun hh => by have := h.lt _ hh; omega
  have hB1 : Hid (¬ L.has (w.heap.size + 1)) := fun hh => by have := h.lt _ hh; omega
  have hB2 : Hid (¬ L.has (w.heap.size + 1 + 1)) := fun hh => by have := h.lt _ hh; omega
  have HM : Hid (MemAt w L s) := h
  have HS : Hid (s.steps = σ) := hσ
  have HG : Hid (Good t n k m cg cp cr) := hG
  have HL : Hid (arenaLen t n k m ≤ s.n) := hl
  have HH : Hid (HandIs nu x G) := hh
  have HX : Hid (n ≤ x) := hx
  clear hG hl hh hx
  clear h hσ
  go_enter Tryz.func14, Tryz.ntmps14
  go_wp2_with (go_at_call 22; refine (newDrop_any nu own _).mono ?_; rintro e w1 ⟨rfl, rfl⟩)
  have A1 : Hid (∃ cs1, MemAt (((w.alloc (.cells #[.int .i64 t, .int .i64 n, .int .i64 k, .int .i64 m, .int .i64 cg, .int .i64 cp, .int .i64 cr, .pointer (some ⟨L.p, 0, none⟩), .int .i64 0] 27)).alloc (.cells #[.int .i64 0, .int .u64 0, .int .i64 0, .int .i64 0] 39)).alloc (drop0 nu own)) L s ∧ DpAt (((w.alloc (.cells #[.int .i64 t, .int .i64 n, .int .i64 k, .int .i64 m, .int .i64 cg, .int .i64 cp, .int .i64 cr, .pointer (some ⟨L.p, 0, none⟩), .int .i64 0] 27)).alloc (.cells #[.int .i64 0, .int .u64 0, .int .i64 0, .int .i64 0] 39)).alloc (drop0 nu own)) (w.heap.size + 1 + 1) 0 85 cs1 (dv0 nu own) ∧ BoxV (((w.alloc (.cells #[.int .i64 t, .int .i64 n, .int .i64 k, .int .i64 m, .int .i64 cg, .int .i64 cp, .int .i64 cr, .pointer (some ⟨L.p, 0, none⟩), .int .i64 0] 27)).alloc (.cells #[.int .i64 0, .int .u64 0, .int .i64 0, .int .i64 0] 39)).alloc (drop0 nu own)) w.heap.size t n k m cg cp cr L.p 0 ∧ At (((w.alloc (.cells #[.int .i64 t, .int .i64 n, .int .i64 k, .int .i64 m, .int .i64 cg, .int .i64 cp, .int .i64 cr, .pointer (some ⟨L.p, 0, none⟩), .int .i64 0] 27)).alloc (.cells #[.int .i64 0, .int .u64 0, .int .i64 0, .int .i64 0] 39)).alloc (drop0 nu own)) (w.heap.size + 1) 0 39 #[.int .i64 0, .int .u64 0, .int .i64 0, .int .i64 0] [.int .i64 0, .int .u64 0, .int .i64 0, .int .i64 0] ∧ Only (L.and (w.heap.size + 1 + 1)) w (((w.alloc (.cells #[.int .i64 t, .int .i64 n, .int .i64 k, .int .i64 m, .int .i64 cg, .int .i64 cp, .int .i64 cr, .pointer (some ⟨L.p, 0, none⟩), .int .i64 0] 27)).alloc (.cells #[.int .i64 0, .int .u64 0, .int .i64 0, .int .i64 0] 39)).alloc (drop0 nu own))) := by
    obtain ⟨cs, q0⟩ := drop0_at nu own ((w.alloc (.cells #[.int .i64 t, .int .i64 n, .int .i64 k, .int .i64 m, .int .i64 cg, .int .i64 cp, .int .i64 cr, .pointer (some ⟨L.p, 0, none⟩), .int .i64 0] 27)).alloc (.cells #[.int .i64 0, .int .u64 0, .int .i64 0, .int .i64 0] 39))
    rw [Go.Deep.nblk_alloc, Go.Deep.nblk_alloc] at q0
    have q1 := (At.new (w.alloc (.cells #[.int .i64 t, .int .i64 n, .int .i64 k, .int .i64 m, .int .i64 cg, .int .i64 cp, .int .i64 cr, .pointer (some ⟨L.p, 0, none⟩), .int .i64 0] 27)) 39 [.int .i64 0, .int .u64 0, .int .i64 0, .int .i64 0]).grown (grow_alloc (Below.refl _ _) (drop0 nu own))
    rw [Go.Deep.nblk_alloc] at q1
    exact ⟨cs, ((HM.out.alloc _).alloc _).alloc _, q0, (BoxV.newB _).grown (grow_alloc (Below.refl _ _) _), q1, (((Only.refl _ _).alloc _).alloc _).alloc _⟩
  clear HM
  go_loopw [8] (fun i wr => i = .int .i64 0 ∧ ∃ cs1, MemAt wr L s ∧ DpAt wr (w.heap.size + 1 + 1) 0 85 cs1 (dv0 nu own) ∧ BoxV wr w.heap.size t n k m cg cp cr L.p 0 ∧ At wr (w.heap.size + 1) 0 39 #[.int .i64 0, .int .u64 0, .int .i64 0, .int .i64 0] [.int .i64 0, .int .u64 0, .int .i64 0, .int .i64 0] ∧ Only (L.and (w.heap.size + 1 + 1)) w wr) (fun i _ => 200 - (intOf i).toNat)
  case atStart => exact ⟨rfl, A1.out⟩
  case round =>
    clear A1
    obtain ⟨rfl, cs1, mm, ia, v, j1, on⟩ := hrel
    have y0 := v.c0
    have y1 := v.c1
    have y2 := v.c2
    have y3 := v.c3
    have y4 := v.c4
    have y5 := v.c5
    have y6 := v.c6
    have y7 := v.c7
    have y8 := v.c8
    go_wp2_with (first
      | (go_at_call 23; refine (dstep_out mm ia 0 HG.out HL.out HH.out hB2.out HX.out rfl HS.out).mono ?_; rintro e w2 ⟨rfl, s2, cs2, a2, m2, o2, i2, q2, rfl, rfl⟩)
      | (go_at_call 24; refine (ddone_over i2 rfl).mono ?_; rintro e w3 ⟨rfl, b3⟩; have j3 := (j1.only o2 (fun hh => hh.elim hB1.out (by omega))).grown b3; have z0 := j3.at0 0 rfl; have z1 := j3.at0 1 rfl; have z2 := j3.at0 2 rfl; have z3 := j3.at0 3 rfl; have qf := j3.fz))
    refine bodyPost_ret (v := .agg #[.int .i64 3, .int .u64 0, .int .i64 0, .int .i64 σ]) (by simp [results, Tryz.results14, go_sem, z0, z1, z2, z3]) rfl ?_
    refine ⟨rfl, ((((m2.below b3).setIn hB1.out _ _).setIn hB1.out _ _).setIn hB1.out _ _).setIn hB1.out _ _, ?_⟩
    exact ((((((on.trans o2).trans (Only.ofGrown b3)).setCell (fun hlt => by simp only at hlt; omega) _).setCell (fun hlt => by simp only at hlt; omega) _).setCell (fun hlt => by simp only at hlt; omega) _).setCell (fun hlt => by simp only at hlt; omega) _).mono (fun x hx hh => hh.elim id (fun e => absurd e (by omega)))

end

end Go.Proofs.YtbmiieaakbcncaaGreat
