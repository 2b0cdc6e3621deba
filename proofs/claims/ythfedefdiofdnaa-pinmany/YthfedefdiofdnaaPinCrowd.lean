/- Several threads that pin, whoever is picked: what is true at each round. -/
import Derived.Test.YthfedefdiofdnaaPinArena
namespace Go.Proofs.Ythfedefdiofdnaa
open Go.RowKit

/-- an arena, and who works in it, as a block -/
def BoxE (w : World) (b : Nat) (c0 c1 c2 c3 c4 c5 c6 : Int) (P : Nat) (who : Int) : Prop :=
  w.heap[b]? = some (.cells #[.int .i64 c0, .int .i64 c1, .int .i64 c2, .int .i64 c3, .int .i64 c4, .int .i64 c5, .int .i64 c6, .pointer (some ⟨P, 0, none⟩), .int .i64 who] 27 (0, 0))

section
variable {w w' : World} {b P : Nat} {c0 c1 c2 c3 c4 c5 c6 who : Int}

theorem BoxE.v (h : BoxE w b c0 c1 c2 c3 c4 c5 c6 P who) : BoxV w b c0 c1 c2 c3 c4 c5 c6 P who :=
  ⟨blk_cell h rfl, blk_cell h rfl, blk_cell h rfl, blk_cell h rfl, blk_cell h rfl, blk_cell h rfl, blk_cell h rfl, blk_cell h rfl, blk_cell h rfl⟩

theorem BoxE.fz (h : BoxE w b c0 c1 c2 c3 c4 c5 c6 P who) (o : Nat) : w.frozen? ⟨b, o, none⟩ = false := blk_frozen h o

theorem BoxE.grown (h : BoxE w b c0 c1 c2 c3 c4 c5 c6 P who) (g : Below w.heap.size w w') : BoxE w' b c0 c1 c2 c3 c4 c5 c6 P who := (g.block _ (blk_lt h)).trans h

theorem BoxE.only {S : Nat → Prop} (h : BoxE w b c0 c1 c2 c3 c4 c5 c6 P who) (g : Only S w w') (hs : ¬ S b) : BoxE w' b c0 c1 c2 c3 c4 c5 c6 P who := (g.block _ (blk_lt h) hs).trans h

theorem BoxE.set (h : BoxE w b c0 c1 c2 c3 c4 c5 c6 P who) (x : Int) : BoxE (w.setCell ⟨b, 8, none⟩ (.int .i64 x)) b c0 c1 c2 c3 c4 c5 c6 P x := blk_setCell _ _ _ _ _ _ h

theorem BoxE.other (h : BoxE w b c0 c1 c2 c3 c4 c5 c6 P who) {k : Nat} (hk : b ≠ k) (i : Nat) (v : Value) : BoxE (w.setCell ⟨k, i, none⟩ v) b c0 c1 c2 c3 c4 c5 c6 P who :=
  (Go.Deep.blk_setCell_other _ _ _ _ (by simpa using hk)).trans h
end

/-- the threads that pin, in a block: what each does next -/
def InsAt (w : World) (b : Nat) (nx : Nat → Nat) : Prop :=
  ∃ c, w.heap[b]? = some (.cells c 47 (0, 0)) ∧ ∀ j, j < 4 → c[j * 2]? = some (.int .i64 (nx j)) ∧ c[j * 2 + 1]? = some (.int .u64 0)

theorem InsAt.only {S : Nat → Prop} {w w' : World} {b : Nat} {nx : Nat → Nat} (h : InsAt w b nx) (g : Only S w w') (hs : ¬ S b) : InsAt w' b nx :=
  h.imp fun _ k => ⟨(g.block _ (blk_lt k.1) hs).trans k.1, k.2⟩

/-- what is true of the memory and of the threads -/
structure Crowd (s : Mm) (nx : Nat → Nat) : Prop where
  n : s.n = 32
  e : s.wd 0 = 0
  le : ∀ j, j < 4 → nx j ≤ 3
  pin : ∀ j, j < 4 → 2 ≤ nx j → s.wd (6 + j) = 1

/-- where all lies -/
structure CrowdAt (w0 w : World) (L : Loc) (bE bA bD : Nat) (who : Int) (s : Mm) (nx : Nat → Nat) (dn : Nat → Bool) : Prop where
  m : MemAt w L s
  a : InsAt w bA nx
  d : w.rowIs bD 48 4 (fun j => .bool (dn j))
  v : BoxE w bE 4 1 1 17 1 0 1 L.p who
  b : Below w0.heap.size w0 w

/-- what stands apart -/
structure CrowdApart (w0 : World) (L : Loc) (bE bA bD : Nat) : Prop where
  e : ¬ L.has bE
  a : ¬ L.has bA
  d : ¬ L.has bD
  ea : bE ≠ bA
  ed : bE ≠ bD
  ad : bA ≠ bD
  l0 : ∀ k, L.has k → w0.heap.size ≤ k
  e0 : w0.heap.size ≤ bE
  a0 : w0.heap.size ≤ bA
  d0 : w0.heap.size ≤ bD

/-- the blocks that a step writes -/
def Loc.three (L : Loc) (bA bD k : Nat) : Prop := L.and bA k ∨ k = bD

section
variable {w0 w w' : World} {L : Loc} {bE bA bD : Nat} {who : Int} {s : Mm} {nx : Nat → Nat} {dn : Nat → Bool}

theorem CrowdAt.same (h : CrowdAt w0 w L bE bA bD who s nx dn) (g : Below w.heap.size w w') : CrowdAt w0 w' L bE bA bD who s nx dn :=
  ⟨h.m.below g, h.a.imp fun _ k => ⟨(g.block _ (blk_lt k.1)).trans k.1, k.2⟩, h.d.of_block (g.block _ h.d.lt), h.v.grown g, grow h.b g⟩

theorem CrowdAt.set8 (h : CrowdAt w0 w L bE bA bD who s nx dn) (p : CrowdApart w0 L bE bA bD) (x : Int) : CrowdAt w0 (w.setCell ⟨bE, 8, none⟩ (.int .i64 x)) L bE bA bD x s nx dn :=
  ⟨h.m.setIn p.e _ _, h.a.imp fun _ k => ⟨(Go.Deep.blk_setCell_other _ _ _ _ (by simpa using p.ea.symm)).trans k.1, k.2⟩, h.d.setOther (by simpa using p.ed.symm) _, h.v.set x, below_setIn h.b p.e0 _ _⟩

theorem CrowdAt.done (h : CrowdAt w0 w L bE bA bD who s nx dn) (p : CrowdApart w0 L bE bA bD) (K : Nat) (x : Bool) : CrowdAt w0 (w.setCell ⟨bD, K, none⟩ (.bool x)) L bE bA bD who s nx (upd dn K x) :=
  ⟨h.m.setIn p.d _ _, h.a.imp fun _ k => ⟨(Go.Deep.blk_setCell_other _ _ _ _ (by simpa using p.ad)).trans k.1, k.2⟩, (h.d.set K (.bool x)).congr fun i _ => by
    show _ = Value.bool (upd dn K x i)
    unfold upd; split <;> rfl, h.v.other p.ed _ _, below_setIn h.b p.d0 _ _⟩

theorem Crowd.next {K : Nat} (hK : K < 4) {s' : Mm} {nx' ep' : Int} {x : Bool} (h : Crowd s nx) (hp : PinStep K s (nx K) 0 s' nx' ep' x) : Crowd s' (upd nx K (nx K + 1)) ∧ nx' = ((nx K + 1 : Nat) : Int) ∧ ep' = 0 ∧ x = decide (nx K = 2) := by
  have e := h.e
  obtain ⟨v, hv⟩ : ∃ v : Int, (nx K : Int) = v := ⟨_, rfl⟩
  obtain ⟨q, hq⟩ : ∃ q : Int, (0 : Int) = q := ⟨_, rfl⟩
  rw [hv, hq] at hp
  have le : ∀ m : Nat, m ≤ 3 → ∀ j, j < 4 → upd nx K m j ≤ 3 := fun m hm j hj => by
    unfold upd; split
    · exact hm
    · exact h.le j hj
  cases hp with
  | load =>
    have hn : nx K = 0 := by omega
    refine ⟨⟨h.n, by simpa [Mm.step, Mm.by, upd] using e, le _ (by omega), fun j hj h2 => ?_⟩, by omega, e, by simp [hn]⟩
    have : (((s.by K).step 0 (s.wd 0)).wd (6 + j)) = s.wd (6 + j) := upd_other _ _ _ _ (by omega)
    rw [this]
    by_cases hj' : j = K
    · subst hj'; rw [upd_same] at h2; omega
    · rw [upd_other _ _ _ _ hj'] at h2; exact h.pin j hj h2
  | lay =>
    have hn : nx K = 1 := by omega
    subst hq
    refine ⟨⟨h.n, ?_, le _ (by omega), fun j hj h2 => ?_⟩, by omega, rfl, by simp [hn]⟩
    · have : (((s.by K).step (6 + K) (sum64 0 1)).wd 0) = s.wd 0 := upd_other _ _ _ _ (by omega)
      rw [this]; exact e
    · show upd s.wd (6 + K) (sum64 0 1) (6 + j) = 1
      by_cases hj' : j = K
      · subst hj'; rw [upd_same]; rfl
      · rw [upd_other _ _ _ _ hj'] at h2; rw [upd_other _ _ _ _ (by omega)]; exact h.pin j hj h2
  | same =>
    have hn : nx K = 2 := by omega
    refine ⟨⟨h.n, by simpa [Mm.step, Mm.by, upd] using e, le _ (by omega), fun j hj h2 => ?_⟩, by omega, e, by simp [hn]⟩
    have : (((s.by K).step 0 (s.wd 0)).wd (6 + j)) = s.wd (6 + j) := upd_other _ _ _ _ (by omega)
    rw [this]
    by_cases hj' : j = K
    · subst hj'; exact h.pin j hj (by omega)
    · rw [upd_other _ _ _ _ hj'] at h2; exact h.pin j hj h2
  | other _ hne => exact absurd (e.trans hq) hne

theorem CrowdAt.step {K : Nat} (h : CrowdAt w0 w L bE bA bD K s nx dn) (p : CrowdApart w0 L bE bA bD) (c : Crowd s nx) (hK : K < 4) (h3 : nx K < 3) :
    Calls Try.prog 8 #[.pointer (some ⟨bA, K * 2, none⟩), .agg #[.int .i64 4, .int .i64 1, .int .i64 1, .int .i64 17, .int .i64 1, .int .i64 0, .int .i64 1, .pointer (some ⟨L.p, 0, none⟩), .int .i64 K]] w fun e w' => e = .returned (.bool (decide (nx K = 2))) ∧ Only (L.three bA bD) w w' ∧ ∃ s', Crowd s' (upd nx K (nx K + 1)) ∧ CrowdAt w0 w' L bE bA bD K s' (upd nx K (nx K + 1)) dn := by
  obtain ⟨ca, hca, hcs⟩ := h.a
  refine (step_pin h.m p.a ⟨hca, (hcs K hK).1, (hcs K hK).2⟩ (by omega) 4 1 1 17 1 0 1 K (by rw [c.n]; omega) (by omega) (by decide)).mono ?_
  rintro e w' ⟨d, s', c', nx', ep', rfl, hp, m2, i2, sm, o2⟩
  obtain ⟨hc, rfl, rfl, rfl⟩ := c.next hK hp
  refine ⟨rfl, o2.mono fun _ _ k => Or.inl k, s', hc, m2, ⟨c', i2.obj, fun j hj => ?_⟩, h.d.of_block (o2.block _ h.d.lt (fun hh => hh.elim p.d p.ad.symm)), h.v.only o2 (fun hh => hh.elim p.e p.ea), h.b.trans (o2.below h.b.size (fun k hk hh => by
    rcases hh with hh | hh
    · have := p.l0 k hh; omega
    · have := p.a0; omega))⟩
  by_cases hj' : j = K
  · subst hj'; rw [upd_same]; exact ⟨i2.h0, i2.h1⟩
  · rw [upd_other _ _ _ _ hj', sm.2 _ (by omega) (by omega), sm.2 _ (by omega) (by omega)]; exact hcs j hj

/-- the threads, while one of them does a step, which is noted -/
def phCrowd (w0 : World) (L : Loc) (bE bA bD K : Nat) (s : Mm) (nx : Nat → Nat) (dn : Nat → Bool) : Nat → World → Prop
  | 0, w => CrowdAt w0 w L bE bA bD K s nx dn
  | 1, w => ∃ s', Crowd s' (upd nx K (nx K + 1)) ∧ CrowdAt w0 w L bE bA bD K s' (upd nx K (nx K + 1)) dn
  | _, w => ∃ s', Crowd s' (upd nx K (nx K + 1)) ∧ CrowdAt w0 w L bE bA bD K s' (upd nx K (nx K + 1)) (upd dn K (decide (nx K = 2)))

/-- who is done -/
def doneOf (nx : Nat → Nat) (j : Nat) : Bool := decide (nx j = 3)

theorem doneOf_upd (nx : Nat → Nat) (K : Nat) : upd (doneOf nx) K (decide (nx K = 2)) = doneOf (upd nx K (nx K + 1)) := by
  funext j
  unfold upd doneOf
  split
  · rename_i h; simp [h]
  · rename_i h; simp [h]
end

end Go.Proofs.Ythfedefdiofdnaa
