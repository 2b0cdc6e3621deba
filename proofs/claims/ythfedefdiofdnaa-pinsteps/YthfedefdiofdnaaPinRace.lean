/- A thread that pins while the epoch goes on: what is true at each round, whenever that is. -/
import Derived.Test.YthfedefdiofdnaaPinArena
import Derived.Test.YthfedefdiofdnaaBools
namespace Go.Proofs.Ythfedefdiofdnaa
open Go.RowKit

/-- how many steps are left, if the epoch stays -/
def rank (nx ep e : Int) : Nat := if nx = 0 then 3 else if nx = 1 then (if ep = e then 2 else 4) else (if ep = e then 1 else 3)

/-- a thread that pins, ahead of round k -/
structure Race (who : Nat) (s : Mm) (nx ep : Int) (k : Nat) : Prop where
  n : s.n = 32
  st : nx = 0 ∨ nx = 1 ∨ nx = 2
  pin : nx = 2 → s.wd (6 + who) = sum64 ep 1
  rk : k ≤ 100 ∨ k + rank nx ep (s.wd 0) ≤ 104

theorem rank_le (nx ep e : Int) : 1 ≤ rank nx ep e ∧ rank nx ep e ≤ 4 := by
  unfold rank
  repeat' split
  all_goals omega

theorem Race.lt {who : Nat} {s : Mm} {nx ep : Int} {k : Nat} (h : Race who s nx ep k) : k ≤ 103 := by
  have := rank_le nx ep (s.wd 0)
  rcases h.rk with h | h <;> omega

theorem Race.done {who : Nat} {s s' : Mm} {nx ep nx' ep' : Int} {k : Nat} (h : Race who s nx ep k) (hp : PinStep who s nx ep s' nx' ep' true) : s'.n = 32 ∧ s'.wd (6 + who) = sum64 (s'.wd 0) 1 := by
  cases hp with
  | same =>
    refine ⟨h.n, ?_⟩
    show upd s.wd 0 (s.wd 0) (6 + who) = sum64 (upd s.wd 0 (s.wd 0) 0) 1
    rw [upd_id]
    exact h.pin rfl

/-- what a step leaves, whatever it was -/
theorem PinStep.keeps {who : Nat} {s s' : Mm} {nx ep nx' ep' : Int} {d : Bool} (hp : PinStep who s nx ep s' nx' ep' d) : s'.n = s.n ∧ s'.wd 0 = s.wd 0 ∧ s'.steps = wrap64 (s.steps + 1) ∧ s'.lw = who ∧ (s'.la = 0 ∧ s'.lc = false ∨ s'.la = 6 + who) := by
  cases hp with
  | load => exact ⟨rfl, by simp [Mm.step, Mm.by, upd], rfl, rfl, Or.inl ⟨rfl, by simp [Mm.step, Mm.by]⟩⟩
  | lay => exact ⟨rfl, by simp [Mm.step, Mm.by, upd]; omega, rfl, rfl, Or.inr (by simp [Mm.step])⟩
  | same => exact ⟨rfl, by simp [Mm.step, Mm.by, upd], rfl, rfl, Or.inl ⟨rfl, by simp [Mm.step, Mm.by]⟩⟩
  | other => exact ⟨rfl, by simp [Mm.step, Mm.by, upd], rfl, rfl, Or.inl ⟨rfl, by simp [Mm.step, Mm.by]⟩⟩

theorem Race.next {who : Nat} {s s' : Mm} {nx ep nx' ep' : Int} {k : Nat} (h : Race who s nx ep k) (hp : PinStep who s nx ep s' nx' ep' false) : Race who s' nx' ep' (k + 1) := by
  have hk := hp.keeps
  have hl := rank_le nx ep (s.wd 0)
  refine ⟨hk.1.trans h.n, ?_, ?_, ?_⟩
  · cases hp <;> simp
  · intro e
    cases hp with
    | load => simp at e
    | lay => simp [Mm.step, upd]
    | other => simp at e
  · rw [hk.2.1]
    have hr : rank nx' ep' (s.wd 0) + 1 ≤ rank nx ep (s.wd 0) := by
      cases hp with
      | load => simp [rank]
      | lay => unfold rank; simp; split <;> omega
      | other _ hne => unfold rank; simp [Ne.symm hne]
    rcases h.rk with h1 | h1
    · by_cases h2 : k + 1 ≤ 100
      · exact Or.inl h2
      · right; omega
    · right; omega

/-- the epoch goes on -/
theorem Race.goes {who : Nat} {s : Mm} {nx ep : Int} {k : Nat} (h : Race who s nx ep (k + 1)) (hk : k < 100) (v : Int) : Race who (s.step 0 v) nx ep (k + 1) :=
  ⟨h.n, h.st, fun e => by rw [show (s.step 0 v).wd (6 + who) = s.wd (6 + who) from upd_other _ _ _ _ (by omega)]; exact h.pin e, Or.inl (by omega)⟩

theorem Race.start (who : Nat) : Race who (Mm.laid 4 1 32 1) 0 0 0 := ⟨rfl, Or.inl rfl, fun h => by simp at h, Or.inl (by omega)⟩

/-- the world of a thread that pins: its memory, itself, and where it works -/
structure RaceAt (w0 w : World) (L : Loc) (bE bI who : Nat) (s : Mm) (nx ep : Int) : Prop where
  m : MemAt w L s
  i : ∃ c, InAt w bI 0 34 c nx ep
  v : BoxV w bE 4 1 1 17 1 0 1 L.p who
  b : Below w0.heap.size w0 w

/-- what stands apart -/
structure RaceApart (w0 : World) (L : Loc) (bE bI : Nat) : Prop where
  e : ¬ L.has bE
  i : ¬ L.has bI
  ei : bE ≠ bI
  l0 : ∀ k, L.has k → w0.heap.size ≤ k
  i0 : w0.heap.size ≤ bI

section
variable {w0 w w' : World} {L : Loc} {bE bI who : Nat} {s s' : Mm} {nx ep nx' ep' : Int}

theorem RaceAt.grown (h : RaceAt w0 w L bE bI who s nx ep) (g : Below w.heap.size w w') : RaceAt w0 w' L bE bI who s nx ep :=
  ⟨h.m.below g, h.i.imp fun _ k => k.grown g, h.v.grown g, grow h.b g⟩

theorem RaceAt.stepped (h : RaceAt w0 w L bE bI who s nx ep) (p : RaceApart w0 L bE bI) (m : MemAt w' L s') {c : Array Value} (i : InAt w' bI 0 34 c nx' ep') (o : Only (L.and bI) w w') : RaceAt w0 w' L bE bI who s' nx' ep' :=
  ⟨m, ⟨c, i⟩, h.v.only o (fun k => k.elim p.e p.ei), h.b.trans (o.below h.b.size (fun k hk hh => by
    rcases hh with hh | hh
    · have := p.l0 k hh; omega
    · have := p.i0; omega))⟩

theorem RaceAt.goes (h : RaceAt w0 w L bE bI who s nx ep) (p : RaceApart w0 L bE bI) (m : MemAt w' L s') (o : Only L.has w w') : RaceAt w0 w' L bE bI who s' nx ep :=
  ⟨m, h.i.imp fun _ k => k.only o p.i, h.v.only o p.e, mgrow h.b o p.l0⟩

theorem PinStep.told {d : Bool} (hp : PinStep who s nx ep s' nx' ep' d) : d = decide (nx = 2 ∧ s.wd 0 = ep) := by
  cases hp with
  | load => simp
  | lay => simp
  | same => simp
  | other _ h => simp [h]

theorem RaceAt.step (h : RaceAt w0 w L bE bI who s nx ep) (p : RaceApart w0 L bE bI) {k : Nat} (r : Race who s nx ep k) (hw : who < 4) (x : Bool) (hx : decide (nx = 2 ∧ s.wd 0 = ep) = x) :
    Calls Try.prog 8 #[.pointer (some ⟨bI, 0, none⟩), .agg #[.int .i64 4, .int .i64 1, .int .i64 1, .int .i64 17, .int .i64 1, .int .i64 0, .int .i64 1, .pointer (some ⟨L.p, 0, none⟩), .int .i64 who]] w fun e w' => e = .returned (.bool x) ∧ ∃ s' nx' ep', PinStep who s nx ep s' nx' ep' x ∧ RaceAt w0 w' L bE bI who s' nx' ep' := by
  obtain ⟨c, hi⟩ := h.i
  refine (step_pin h.m p.i hi r.st 4 1 1 17 1 0 1 who (by rw [r.n]; omega) (by omega) (by decide)).mono ?_
  rintro e w' ⟨d, s', c', nx', ep', rfl, hp, m2, i2, _, o2⟩
  have hd := hp.told
  rw [hx] at hd
  subst hd
  exact ⟨rfl, s', nx', ep', hp, h.stepped p m2 i2 o2⟩
end

end Go.Proofs.Ythfedefdiofdnaa
