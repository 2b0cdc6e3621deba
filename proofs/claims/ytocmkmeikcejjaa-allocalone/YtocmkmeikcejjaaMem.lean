/- What package mem's functions come to: a memory is words, when each was changed, who does what follows, how many steps were done and what the last one did; each function of the package leaves all blocks but the memory's own as they were. -/
import Derived.Test.YtocmkmeikcejjaaRows
import Derived.Test.YtocmkmeikcejjaaOnly
namespace Go.Proofs.Ytocmkmeikcejjaa
open Go.RowKit

/-- what a memory holds -/
structure Mm where
  n : Nat
  wd : Nat → Int
  wn : Nat → Int
  who : Int
  steps : Int
  la : Int
  lw : Int
  lc : Bool

/-- where a memory's three blocks lie -/
structure Loc where
  p : Nat
  bw : Nat
  bn : Nat

def Loc.has (L : Loc) (k : Nat) : Prop := k = L.p ∨ k = L.bw ∨ k = L.bn

theorem Loc.has_ge {L : Loc} {B : Nat} (h1 : B ≤ L.p) (h2 : B ≤ L.bw) (h3 : B ≤ L.bn) (k : Nat) (hk : k < B) : ¬ L.has k := by
  intro h; unfold Loc.has at h; omega

/-- the memory's struct, cell by cell -/
def Mm.cells (L : Loc) (s : Mm) : Array Value :=
  #[.slice (some ⟨L.bw, 0, none⟩) s.n s.n, .slice (some ⟨L.bn, 0, none⟩) s.n s.n, .int .i64 s.who, .int .i64 s.steps, .int .i64 s.la, .int .i64 s.lw, .bool s.lc]

/-- the memory s lies at L -/
structure MemAt (w : World) (L : Loc) (s : Mm) : Prop where
  obj : w.heap[L.p]? = some (.cells (s.cells L) 66 (0, 0))
  words : w.rowIs L.bw 34 s.n (fun i => .int .u64 (s.wd i))
  wns : w.rowIs L.bn 3 s.n (fun i => .int .i64 (s.wn i))
  d1 : L.p ≠ L.bw
  d2 : L.p ≠ L.bn
  d3 : L.bw ≠ L.bn
  len : s.n ≤ 1048576

namespace MemAt
variable {w w' : World} {L : Loc} {s : Mm}

theorem c0 (h : MemAt w L s) : w.cell? ⟨L.p, 0, none⟩ = some (.slice (some ⟨L.bw, 0, none⟩) s.n s.n) := blk_cell h.obj rfl
theorem c1 (h : MemAt w L s) : w.cell? ⟨L.p, 1, none⟩ = some (.slice (some ⟨L.bn, 0, none⟩) s.n s.n) := blk_cell h.obj rfl
theorem c2 (h : MemAt w L s) : w.cell? ⟨L.p, 2, none⟩ = some (.int .i64 s.who) := blk_cell h.obj rfl
theorem c3 (h : MemAt w L s) : w.cell? ⟨L.p, 3, none⟩ = some (.int .i64 s.steps) := blk_cell h.obj rfl
theorem c4 (h : MemAt w L s) : w.cell? ⟨L.p, 4, none⟩ = some (.int .i64 s.la) := blk_cell h.obj rfl
theorem c5 (h : MemAt w L s) : w.cell? ⟨L.p, 5, none⟩ = some (.int .i64 s.lw) := blk_cell h.obj rfl
theorem c6 (h : MemAt w L s) : w.cell? ⟨L.p, 6, none⟩ = some (.bool s.lc) := blk_cell h.obj rfl
theorem fz (h : MemAt w L s) (o : Nat) : w.frozen? ⟨L.p, o, none⟩ = false := blk_frozen h.obj o

theorem of_blocks (h : MemAt w L s) (e : ∀ k, L.has k → w'.heap[k]? = w.heap[k]?) : MemAt w' L s :=
  ⟨(e _ (Or.inl rfl)).trans h.obj, h.words.of_block (e _ (Or.inr (Or.inl rfl))), h.wns.of_block (e _ (Or.inr (Or.inr rfl))), h.d1, h.d2, h.d3, h.len⟩

theorem lt (h : MemAt w L s) (k : Nat) (hk : L.has k) : k < w.heap.size := by
  rcases hk with rfl | rfl | rfl
  · exact blk_lt h.obj
  · exact h.words.lt
  · exact h.wns.lt

theorem only {S : Nat → Prop} (h : MemAt w L s) (k : Only S w w') (hS : ∀ i, L.has i → ¬ S i) : MemAt w' L s :=
  h.of_blocks fun i hi => k.block i (h.lt i hi) (hS i hi)

theorem below (h : MemAt w L s) (k : Below w.heap.size w w') : MemAt w' L s := h.of_blocks fun i hi => k.block i (h.lt i hi)

theorem alloc (h : MemAt w L s) (o : Obj) : MemAt (w.alloc o) L s := h.of_blocks fun i hi => Go.Deep.blk_alloc_lt _ _ _ (h.lt i hi)
theorem drew (h : MemAt w L s) : MemAt w.drew L s := h.of_blocks fun _ _ => rfl
theorem drewN (h : MemAt w L s) (n : Nat) : MemAt (w.drewN n) L s := h.of_blocks fun _ _ => rfl

theorem setP {s' : Mm} (h : MemAt w L s) (o : Nat) (v : Value) (hc : (s.cells L).setIfInBounds o v = s'.cells L) (hn : s'.n = s.n) (hw : s'.wd = s.wd) (hk : s'.wn = s.wn) : MemAt (w.setCell ⟨L.p, o, none⟩ v) L s' := by
  refine ⟨?_, ?_, ?_, h.d1, h.d2, h.d3, by rw [hn]; exact h.len⟩
  · rw [← hc]; exact blk_setCell _ _ _ _ _ _ h.obj
  · rw [hn, hw]; exact h.words.setOther (by simpa using h.d1.symm) _
  · rw [hn, hk]; exact h.wns.setOther (by simpa using h.d2.symm) _

theorem setW (h : MemAt w L s) (a : Nat) (v : Int) : MemAt (w.setCell ⟨L.bw, a, none⟩ (.int .u64 v)) L { s with wd := upd s.wd a v } := by
  refine ⟨?_, ?_, ?_, h.d1, h.d2, h.d3, h.len⟩
  · rw [Go.Deep.blk_setCell_other _ _ _ _ (by simpa using h.d1)]; exact h.obj
  · refine (h.words.set a (.int .u64 v)).congr fun i _ => ?_
    show _ = Value.int .u64 (upd s.wd a v i)
    unfold upd; split <;> rfl
  · exact h.wns.setOther (by simpa using h.d3.symm) _

theorem setN (h : MemAt w L s) (a : Nat) (v : Int) : MemAt (w.setCell ⟨L.bn, a, none⟩ (.int .i64 v)) L { s with wn := upd s.wn a v } := by
  refine ⟨?_, ?_, ?_, h.d1, h.d2, h.d3, h.len⟩
  · rw [Go.Deep.blk_setCell_other _ _ _ _ (by simpa using h.d2)]; exact h.obj
  · exact h.words.setOther (by simpa using h.d3) _
  · refine (h.wns.set a (.int .i64 v)).congr fun i _ => ?_
    show _ = Value.int .i64 (upd s.wn a v i)
    unfold upd; split <;> rfl

theorem onlyP {S : Nat → Prop} {w0 : World} (k : Only S w0 w) (hS : S L.p) (o : Nat) (v : Value) : Only S w0 (w.setCell ⟨L.p, o, none⟩ v) := k.setCell (fun _ => hS) v
theorem other (h : MemAt w L s) {a : Addr} (ha : ¬ L.has a.block) (v : Value) : MemAt (w.setCell a v) L s :=
  h.of_blocks fun _ hi => Go.Deep.blk_setCell_other _ _ _ _ (fun e => ha (e ▸ hi))

end MemAt

/-- the memory behind a step at a, behind which the word is v -/
def Mm.step (s : Mm) (a : Nat) (v : Int) : Mm :=
  { s with wd := upd s.wd a v, wn := if s.wd a = v then s.wn else upd s.wn a (wrap64 (s.steps + 1)), steps := wrap64 (s.steps + 1), la := a, lw := s.who, lc := !decide (s.wd a = v) }

set_option maxHeartbeats 400000 in
theorem has_any {w : World} {L : Loc} {s : Mm} (h : MemAt w L s) (a : Int) :
    Calls Try.prog 22 #[.pointer (some ⟨L.p, 0, none⟩), .int .i64 a] w fun e w' => e = .returned (.bool (decide (0 ≤ a ∧ a < s.n))) ∧ w' = w := by
  have hc := h.c0
  by_cases h1 : 0 ≤ a
  · by_cases h2 : a < s.n
    · go_enter Try.func22, Try.ntmps22
      go_wp2
      go_ret
      exact ⟨by simp [h1, h2], rfl⟩
    · go_enter Try.func22, Try.ntmps22
      go_wp2
      go_ret
      exact ⟨by simp [h2], rfl⟩
  · go_enter Try.func22, Try.ntmps22
    go_wp2
    go_ret
    exact ⟨by simp; omega, rfl⟩

theorem step_same {w : World} {L : Loc} {s : Mm} (h : MemAt w L s) (a : Nat) (v : Int) (hv : s.wd a = v) :
    MemAt ((((w.setCell ⟨L.p, 3, none⟩ (.int .i64 (wrap64 (s.steps + 1)))).setCell ⟨L.p, 4, none⟩ (.int .i64 a)).setCell ⟨L.p, 5, none⟩ (.int .i64 s.who)).setCell ⟨L.p, 6, none⟩ (.bool false)) L (s.step a v) := by
  have h1 := h.setP (s' := { s with steps := wrap64 (s.steps + 1) }) 3 _ rfl rfl rfl rfl
  have h2 := h1.setP (s' := { s with steps := wrap64 (s.steps + 1), la := a }) 4 _ rfl rfl rfl rfl
  have h3 := h2.setP (s' := { s with steps := wrap64 (s.steps + 1), la := a, lw := s.who }) 5 _ rfl rfl rfl rfl
  have h4 := h3.setP (s' := { s with steps := wrap64 (s.steps + 1), la := a, lw := s.who, lc := false }) 6 _ rfl rfl rfl rfl
  have e : s.step a v = { s with steps := wrap64 (s.steps + 1), la := a, lw := s.who, lc := false } := by
    subst hv
    simp [Mm.step, upd_id]
  rw [e]; exact h4

theorem step_new {w : World} {L : Loc} {s : Mm} (h : MemAt w L s) (a : Nat) (v : Int) (hv : ¬ s.wd a = v) :
    MemAt ((((((w.setCell ⟨L.p, 3, none⟩ (.int .i64 (wrap64 (s.steps + 1)))).setCell ⟨L.bw, a, none⟩ (.int .u64 v)).setCell ⟨L.bn, a, none⟩ (.int .i64 (wrap64 (s.steps + 1)))).setCell ⟨L.p, 4, none⟩ (.int .i64 a)).setCell ⟨L.p, 5, none⟩ (.int .i64 s.who)).setCell ⟨L.p, 6, none⟩ (.bool true)) L (s.step a v) := by
  have h1 := h.setP (s' := { s with steps := wrap64 (s.steps + 1) }) 3 _ rfl rfl rfl rfl
  have h2 := (h1.setW a v).setN a (wrap64 (s.steps + 1))
  have h3 := h2.setP (s' := { s with wd := upd s.wd a v, wn := upd s.wn a (wrap64 (s.steps + 1)), steps := wrap64 (s.steps + 1), la := a }) 4 _ rfl rfl rfl rfl
  have h4 := h3.setP (s' := { s with wd := upd s.wd a v, wn := upd s.wn a (wrap64 (s.steps + 1)), steps := wrap64 (s.steps + 1), la := a, lw := s.who }) 5 _ rfl rfl rfl rfl
  have h5 := h4.setP (s' := { s with wd := upd s.wd a v, wn := upd s.wn a (wrap64 (s.steps + 1)), steps := wrap64 (s.steps + 1), la := a, lw := s.who, lc := true }) 6 _ rfl rfl rfl rfl
  have e : s.step a v = { s with wd := upd s.wd a v, wn := upd s.wn a (wrap64 (s.steps + 1)), steps := wrap64 (s.steps + 1), la := a, lw := s.who, lc := true } := by
    simp [Mm.step, hv]
  rw [e]; exact h5

set_option maxHeartbeats 400000 in
theorem step_any {w : World} {L : Loc} {s : Mm} (h : MemAt w L s) (a : Nat) (ha : a < s.n) (v : Int) :
    Calls Try.prog 42 #[.pointer (some ⟨L.p, 0, none⟩), .int .i64 a, .int .u64 v] w fun e w' => e = .returned (.tuple #[]) ∧ MemAt w' L (s.step a v) ∧ Only L.has w w' ∧ w'.heap.size = w.heap.size := by
  have k0 := h.c0
  have k1 := h.c1
  have k2 := h.c2
  have k3 := h.c3
  have k4 := h.c4
  have k5 := h.c5
  have k6 := h.c6
  have kf := h.fz
  have kw := h.words.cell ha
  have kn := h.wns.cell ha
  have fw := h.words.frozen
  have fn := h.wns.frozen
  have d1 := h.d1
  have d2 := h.d2
  have d3 := h.d3
  have hl := h.len
  by_cases hv : s.wd a = v
  · go_enter Try.func42, Try.ntmps42
    go_wp2
    go_end0
    refine ⟨rfl, step_same h a v hv, ?_, by simp⟩
    exact MemAt.onlyP (MemAt.onlyP (MemAt.onlyP (MemAt.onlyP (Only.refl _ _) (Or.inl rfl) _ _) (Or.inl rfl) _ _) (Or.inl rfl) _ _) (Or.inl rfl) _ _
  · go_enter Try.func42, Try.ntmps42
    go_wp2
    go_region
    all_goals go_wp2
    all_goals go_end0
    all_goals refine ⟨rfl, (step_new h a v hv).drew, Only.drew ?_, by simp⟩
    all_goals exact MemAt.onlyP (MemAt.onlyP (MemAt.onlyP (Only.setCell (Only.setCell (MemAt.onlyP (Only.refl _ _) (Or.inl rfl) _ _) (fun _ => Or.inr (Or.inl rfl)) _) (fun _ => Or.inr (Or.inr rfl)) _) (Or.inl rfl) _ _) (Or.inl rfl) _ _) (Or.inl rfl) _ _

theorem load_in {w : World} {L : Loc} {s : Mm} (h : MemAt w L s) (a : Nat) (ha : a < s.n) :
    Calls Try.prog 67 #[.pointer (some ⟨L.p, 0, none⟩), .int .i64 a] w fun e w' => e = .returned (.tuple #[.int .u64 (s.wd a), .int .i64 0]) ∧ MemAt w' L (s.step a (s.wd a)) ∧ Only L.has w w' ∧ w'.heap.size = w.heap.size := by
  have k0 := h.c0
  have kw := h.words.cell ha
  have hl := h.len
  have hb : (0 : Int) ≤ (a : Int) ∧ (a : Int) < (s.n : Int) := by omega
  go_enter Try.func67, Try.ntmps67
  go_wp2_with (first
    | (go_at_call 22; refine (has_any h _).mono ?_; rintro e w' ⟨rfl, rfl⟩; rw [decide_eq_true hb])
    | (go_at_call 42; refine (step_any h _ ha _).mono ?_; rintro e w' ⟨rfl, h1, h2, h3⟩))
  go_ret2
  exact ⟨rfl, h1, h2, h3⟩

theorem load_out {w : World} {L : Loc} {s : Mm} (h : MemAt w L s) (a : Int) (ha : ¬ (0 ≤ a ∧ a < s.n)) :
    Calls Try.prog 67 #[.pointer (some ⟨L.p, 0, none⟩), .int .i64 a] w fun e w' => e = .returned (.tuple #[.int .u64 0, .int .i64 2]) ∧ w' = w := by
  go_enter Try.func67, Try.ntmps67
  go_wp2_with (go_at_call 22; refine (has_any h _).mono ?_; rintro e w' ⟨rfl, rfl⟩; rw [decide_eq_false ha])
  go_ret2
  exact ⟨rfl, rfl⟩

theorem store_in {w : World} {L : Loc} {s : Mm} (h : MemAt w L s) (a : Nat) (ha : a < s.n) (v : Int) :
    Calls Try.prog 26 #[.pointer (some ⟨L.p, 0, none⟩), .int .i64 a, .int .u64 v] w fun e w' => e = .returned (.int .i64 0) ∧ MemAt w' L (s.step a v) ∧ Only L.has w w' ∧ w'.heap.size = w.heap.size := by
  have hb : (0 : Int) ≤ (a : Int) ∧ (a : Int) < (s.n : Int) := by omega
  go_enter Try.func26, Try.ntmps26
  go_wp2_with (first
    | (go_at_call 22; refine (has_any h _).mono ?_; rintro e w' ⟨rfl, rfl⟩; rw [decide_eq_true hb])
    | (go_at_call 42; refine (step_any h _ ha _).mono ?_; rintro e w' ⟨rfl, h1, h2, h3⟩))
  go_ret
  exact ⟨rfl, h1, h2, h3⟩

theorem store_out {w : World} {L : Loc} {s : Mm} (h : MemAt w L s) (a : Int) (ha : ¬ (0 ≤ a ∧ a < s.n)) (v : Int) :
    Calls Try.prog 26 #[.pointer (some ⟨L.p, 0, none⟩), .int .i64 a, .int .u64 v] w fun e w' => e = .returned (.int .i64 2) ∧ w' = w := by
  go_enter Try.func26, Try.ntmps26
  go_wp2_with (go_at_call 22; refine (has_any h _).mono ?_; rintro e w' ⟨rfl, rfl⟩; rw [decide_eq_false ha])
  go_ret
  exact ⟨rfl, rfl⟩

/-- the memory behind an exchange at a -/
def Mm.cas (s : Mm) (a : Nat) (old v : Int) : Mm := if s.wd a = old then s.step a v else s.step a (s.wd a)

set_option maxHeartbeats 400000 in
theorem cas_in {w : World} {L : Loc} {s : Mm} (h : MemAt w L s) (a : Nat) (ha : a < s.n) (old v : Int) :
    Calls Try.prog 85 #[.pointer (some ⟨L.p, 0, none⟩), .int .i64 a, .int .u64 old, .int .u64 v] w fun e w' => e = .returned (.tuple #[.bool (decide (s.wd a = old)), .int .i64 0]) ∧ MemAt w' L (s.cas a old v) ∧ Only L.has w w' ∧ w'.heap.size = w.heap.size := by
  have k0 := h.c0
  have kw := h.words.cell ha
  have hl := h.len
  have hb : (0 : Int) ≤ (a : Int) ∧ (a : Int) < (s.n : Int) := by omega
  by_cases hv : s.wd a = old
  · go_enter Try.func85, Try.ntmps85
    go_wp2_with (first
      | (go_at_call 22; refine (has_any h _).mono ?_; rintro e w' ⟨rfl, rfl⟩; rw [decide_eq_true hb])
      | (go_at_call 42; refine (step_any h _ ha _).mono ?_; rintro e w' ⟨rfl, h1, h2, h3⟩))
    go_ret2
    exact ⟨by rw [decide_eq_true hv]; rfl, by rw [Mm.cas, if_pos hv]; exact h1, h2, h3⟩
  · go_enter Try.func85, Try.ntmps85
    go_wp2_with (first
      | (go_at_call 22; refine (has_any h _).mono ?_; rintro e w' ⟨rfl, rfl⟩; rw [decide_eq_true hb])
      | (go_at_call 42; refine (step_any h _ ha _).mono ?_; rintro e w' ⟨rfl, h1, h2, h3⟩))
    go_ret2
    exact ⟨by rw [decide_eq_false hv]; rfl, by rw [Mm.cas, if_neg hv]; exact h1, h2, h3⟩

theorem cas_out {w : World} {L : Loc} {s : Mm} (h : MemAt w L s) (a : Int) (ha : ¬ (0 ≤ a ∧ a < s.n)) (old v : Int) :
    Calls Try.prog 85 #[.pointer (some ⟨L.p, 0, none⟩), .int .i64 a, .int .u64 old, .int .u64 v] w fun e w' => e = .returned (.tuple #[.bool false, .int .i64 2]) ∧ w' = w := by
  go_enter Try.func85, Try.ntmps85
  go_wp2_with (go_at_call 22; refine (has_any h _).mono ?_; rintro e w' ⟨rfl, rfl⟩; rw [decide_eq_false ha])
  go_ret2
  exact ⟨rfl, rfl⟩

/-- a sum of words, wrapping round -/
def sum64 (x y : Int) : Int := (x + y) % 18446744073709551616

theorem add_in {w : World} {L : Loc} {s : Mm} (h : MemAt w L s) (a : Nat) (ha : a < s.n) (v : Int) :
    Calls Try.prog 75 #[.pointer (some ⟨L.p, 0, none⟩), .int .i64 a, .int .u64 v] w fun e w' => e = .returned (.tuple #[.int .u64 (s.wd a), .int .i64 0]) ∧ MemAt w' L (s.step a (sum64 (s.wd a) v)) ∧ Only L.has w w' ∧ w'.heap.size = w.heap.size := by
  have k0 := h.c0
  have kw := h.words.cell ha
  have hl := h.len
  have hb : (0 : Int) ≤ (a : Int) ∧ (a : Int) < (s.n : Int) := by omega
  go_enter Try.func75, Try.ntmps75
  go_wp2_with (first
    | (go_at_call 22; refine (has_any h _).mono ?_; rintro e w' ⟨rfl, rfl⟩; rw [decide_eq_true hb])
    | (go_at_call 42; refine (step_any h _ ha _).mono ?_; rintro e w' ⟨rfl, h1, h2, h3⟩))
  go_ret2
  exact ⟨rfl, h1, h2, h3⟩

theorem add_out {w : World} {L : Loc} {s : Mm} (h : MemAt w L s) (a : Int) (ha : ¬ (0 ≤ a ∧ a < s.n)) (v : Int) :
    Calls Try.prog 75 #[.pointer (some ⟨L.p, 0, none⟩), .int .i64 a, .int .u64 v] w fun e w' => e = .returned (.tuple #[.int .u64 0, .int .i64 2]) ∧ w' = w := by
  go_enter Try.func75, Try.ntmps75
  go_wp2_with (go_at_call 22; refine (has_any h _).mono ?_; rintro e w' ⟨rfl, rfl⟩; rw [decide_eq_false ha])
  go_ret2
  exact ⟨rfl, rfl⟩

theorem peek_in {w : World} {L : Loc} {s : Mm} (h : MemAt w L s) (a : Nat) (ha : a < s.n) :
    Calls Try.prog 10 #[.pointer (some ⟨L.p, 0, none⟩), .int .i64 a] w fun e w' => e = .returned (.int .u64 (s.wd a)) ∧ w' = w := by
  have k0 := h.c0
  have kw := h.words.cell ha
  have hl := h.len
  have hb : (0 : Int) ≤ (a : Int) ∧ (a : Int) < (s.n : Int) := by omega
  go_enter Try.func10, Try.ntmps10
  go_wp2_with (go_at_call 22; refine (has_any h _).mono ?_; rintro e w' ⟨rfl, rfl⟩; rw [decide_eq_true hb])
  go_ret
  exact ⟨rfl, rfl⟩

theorem peek_out {w : World} {L : Loc} {s : Mm} (h : MemAt w L s) (a : Int) (ha : ¬ (0 ≤ a ∧ a < s.n)) :
    Calls Try.prog 10 #[.pointer (some ⟨L.p, 0, none⟩), .int .i64 a] w fun e w' => e = .returned (.int .u64 0) ∧ w' = w := by
  go_enter Try.func10, Try.ntmps10
  go_wp2_with (go_at_call 22; refine (has_any h _).mono ?_; rintro e w' ⟨rfl, rfl⟩; rw [decide_eq_false ha])
  go_ret
  exact ⟨rfl, rfl⟩

theorem len_any {w : World} {L : Loc} {s : Mm} (h : MemAt w L s) :
    Calls Try.prog 77 #[.pointer (some ⟨L.p, 0, none⟩)] w fun e w' => e = .returned (.int .i64 s.n) ∧ w' = w := by
  have k0 := h.c0
  go_enter Try.func77, Try.ntmps77
  go_wp2
  go_ret
  exact ⟨rfl, rfl⟩

theorem steps_any {w : World} {L : Loc} {s : Mm} (h : MemAt w L s) :
    Calls Try.prog 76 #[.pointer (some ⟨L.p, 0, none⟩)] w fun e w' => e = .returned (.int .i64 s.steps) ∧ w' = w := by
  have k0 := h.c3
  go_enter Try.func76, Try.ntmps76
  go_wp2
  go_ret
  exact ⟨rfl, rfl⟩

theorem by_any {w : World} {L : Loc} {s : Mm} (h : MemAt w L s) (who : Int) :
    Calls Try.prog 66 #[.pointer (some ⟨L.p, 0, none⟩), .int .i64 who] w fun e w' => e = .returned (.tuple #[]) ∧ MemAt w' L { s with who := who } ∧ Only L.has w w' ∧ w'.heap.size = w.heap.size := by
  have k2 := h.c2
  have kf := h.fz
  go_enter Try.func66, Try.ntmps66
  go_wp2
  go_end0
  exact ⟨rfl, h.setP 2 _ rfl rfl rfl rfl, MemAt.onlyP (Only.refl _ _) (Or.inl rfl) _ _, by simp⟩

/-- a new memory -/
def Mm.fresh (n : Nat) : Mm := ⟨n, fun _ => 0, fun _ => 0, 0, 0, 0, 0, false⟩

theorem Try.infoW3 : (Try.prog.info? 3).map (fun i => (i.zero, i.size, i.bytes)) = some (some (.int .i64 0), 1, 8) := by kernel_rfl

theorem Try.infoW34 : (Try.prog.info? 34).map (fun i => (i.zero, i.size, i.bytes)) = some (some (.int .u64 0), 1, 8) := by kernel_rfl

theorem born_words {w : World} (n : Nat) : MemAt ((((w.alloc (.cells (madeCells #[.int .u64 0] n) 34)).alloc (.cells (madeCells #[.int .i64 0] n) 3)).alloc (.cells ((Mm.fresh n).cells ⟨w.heap.size + 1 + 1, w.heap.size, w.heap.size + 1⟩) 66)).drew) ⟨w.heap.size + 1 + 1, w.heap.size, w.heap.size + 1⟩ (Mm.fresh n) ∨ 1048576 < n := by
  by_cases h : n ≤ 1048576
  · left
    refine MemAt.drew ⟨?_, ?_, ?_, by simp only; omega, by simp only; omega, by simp only; omega, h⟩
    · have e := Go.Deep.blk_alloc_new ((w.alloc (.cells (madeCells #[.int .u64 0] n) 34)).alloc (.cells (madeCells #[.int .i64 0] n) 3)) (.cells ((Mm.fresh n).cells ⟨w.heap.size + 1 + 1, w.heap.size, w.heap.size + 1⟩) 66)
      simp only [Go.Deep.nblk_alloc] at e
      exact e
    · exact ((World.rowIs_made w (.int .u64 0) n 34).alloc _).alloc _
    · have e := (World.rowIs_made (w.alloc (.cells (madeCells #[.int .u64 0] n) 34)) (.int .i64 0) n 3)
      simp only [Go.Deep.nblk_alloc] at e
      exact e.alloc _
  · right; omega

theorem born_whens {w : World} (n : Nat) : MemAt ((((w.alloc (.cells (madeCells #[.int .i64 0] n) 3)).alloc (.cells (madeCells #[.int .u64 0] n) 34)).alloc (.cells ((Mm.fresh n).cells ⟨w.heap.size + 1 + 1, w.heap.size + 1, w.heap.size⟩) 66)).drew) ⟨w.heap.size + 1 + 1, w.heap.size + 1, w.heap.size⟩ (Mm.fresh n) ∨ 1048576 < n := by
  by_cases h : n ≤ 1048576
  · left
    refine MemAt.drew ⟨?_, ?_, ?_, by simp only; omega, by simp only; omega, by simp only; omega, h⟩
    · have e := Go.Deep.blk_alloc_new ((w.alloc (.cells (madeCells #[.int .i64 0] n) 3)).alloc (.cells (madeCells #[.int .u64 0] n) 34)) (.cells ((Mm.fresh n).cells ⟨w.heap.size + 1 + 1, w.heap.size + 1, w.heap.size⟩) 66)
      simp only [Go.Deep.nblk_alloc] at e
      exact e
    · have e := (World.rowIs_made (w.alloc (.cells (madeCells #[.int .i64 0] n) 3)) (.int .u64 0) n 34)
      simp only [Go.Deep.nblk_alloc] at e
      exact e.alloc _
    · exact ((World.rowIs_made w (.int .i64 0) n 3).alloc _).alloc _
  · right; omega

theorem born_has (m : Nat) (k : Nat) (h : Loc.has ⟨m + 1 + 1, m, m + 1⟩ k ∨ Loc.has ⟨m + 1 + 1, m + 1, m⟩ k) : m ≤ k := by
  unfold Loc.has at h
  simp only at h
  omega

theorem new_in (n : Nat) (h1 : 1 ≤ n) (h2 : n ≤ 1048576) (w : World) :
    Calls Try.prog 24 #[.int .i64 n] w fun e w' => ∃ L : Loc, e = .returned (.tuple #[.pointer (some ⟨L.p, 0, none⟩), .int .i64 0]) ∧ MemAt w' L (Mm.fresh n) ∧ Below w.heap.size w w' ∧ ∀ k, L.has k → w.heap.size ≤ k := by
  have hm1 := run_make_row' (P := Try.prog) 62 34 (.int .u64 0) 8 Try.underlying62 Try.infoW34 rfl .i64 .i64 n (by omega) (by omega)
  have hm2 := run_make_row' (P := Try.prog) 22 3 (.int .i64 0) 8 Try.underlying22 Try.infoW3 rfl .i64 .i64 n (by omega) (by omega)
  go_enter Try.func24, Try.ntmps24
  go_wp2
  go_region
  all_goals go_wp2
  all_goals go_ret2
  · exact ⟨⟨w.heap.size + 1 + 1, w.heap.size, w.heap.size + 1⟩, rfl, (born_words n).resolve_right (by omega), ((((Below.refl _ _).alloc (Nat.le_refl _) _).alloc (by simp) _).alloc (by simp; omega) _).drew, fun k hk => born_has _ _ (Or.inl hk)⟩
  · exact ⟨⟨w.heap.size + 1 + 1, w.heap.size + 1, w.heap.size⟩, rfl, (born_whens n).resolve_right (by omega), ((((Below.refl _ _).alloc (Nat.le_refl _) _).alloc (by simp) _).alloc (by simp; omega) _).drew, fun k hk => born_has _ _ (Or.inr hk)⟩

theorem new_out (n : Int) (h1 : n < 1 ∨ 1048576 < n) (w : World) :
    Calls Try.prog 24 #[.int .i64 n] w fun e w' => e = .returned (.tuple #[.pointer none, .int .i64 1]) ∧ w' = w := by
  by_cases h : n < 1
  · go_enter Try.func24, Try.ntmps24
    go_wp2
    go_ret2
    exact ⟨rfl, rfl⟩
  · have h2 : 1048576 < n := by omega
    go_enter Try.func24, Try.ntmps24
    go_wp2
    go_ret2
    exact ⟨rfl, rfl⟩

end Go.Proofs.Ytocmkmeikcejjaa
