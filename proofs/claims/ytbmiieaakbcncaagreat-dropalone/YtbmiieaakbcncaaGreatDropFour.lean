/- Four rows that grow beside each other, in whatever order: made, live, own, size. -/
import Derived.Test.YtbmiieaakbcncaaGreatDropRow
import Derived.Test.YtbmiieaakbcncaaGreatDropBook
namespace Go.Proofs.YtbmiieaakbcncaaGreat
open Go.RowKit

/-- four rows, and what is laid behind each -/
structure Four where
  T : Nat → TypeId
  b : Nat → Nat
  c : Nat → Nat
  l : Nat → List Value
  x : Nat → Value

def Four.has (F : Four) (k : Nat) : Prop := ∃ a, a < 4 ∧ k = F.b a

/-- while they grow: what lies there lies there, with one more or not -/
structure Keep4 (F : Four) (X Y : World) : Prop where
  only : Only F.has X Y
  v1 : ∀ a, a < 4 → Rw X (F.T a) (F.b a) (F.c a) (F.l a) → Rw Y (F.T a) (F.b a) (F.c a) (F.l a)
  v2 : ∀ a, a < 4 → Rw X (F.T a) (F.b a) (F.c a) (F.l a ++ [F.x a]) → Rw Y (F.T a) (F.b a) (F.c a) (F.l a ++ [F.x a])

section
variable {F : Four} {X Y : World}
theorem Keep4.refl (X : World) : Keep4 F X X := ⟨Only.refl _ _, fun _ _ h => h, fun _ _ h => h⟩
theorem Keep4.trans (X Y Z : World) (h : Keep4 F X Y) (k : Keep4 F Y Z) : Keep4 F X Z := ⟨h.only.trans k.only, fun a ha r => k.v1 a ha (h.v1 a ha r), fun a ha r => k.v2 a ha (h.v2 a ha r)⟩
theorem Keep4.grown (g : Grown X Y) : Keep4 F X Y := ⟨Only.ofGrown g, fun _ _ h => h.grown g, fun _ _ h => h.grown g⟩

/-- one of them grows where it lies -/
theorem Keep4.app {a : Nat} (ha : a < 4) (hne : ∀ a', a' < 4 → a' ≠ a → F.b a' ≠ F.b a) (o : Only (fun k => k = F.b a) X Y) (h1 : Rw Y (F.T a) (F.b a) (F.c a) (F.l a)) (h2 : Rw Y (F.T a) (F.b a) (F.c a) (F.l a ++ [F.x a])) : Keep4 F X Y := by
  refine ⟨⟨o.os, o.tape, o.output, o.size, fun k hk hn => o.block k hk (fun e => hn ⟨a, ha, e⟩)⟩, fun a' ha' h => ?_, fun a' ha' h => ?_⟩
  · by_cases e : a' = a
    · subst e; exact h1
    · exact h.only o (hne a' ha' e)
  · by_cases e : a' = a
    · subst e; exact h2
    · exact h.only o (hne a' ha' e)

/-- what an append leaves -/
def Four.grew (F : Four) (base a : Nat) (W : World) (v : Value) : Prop := ∃ b' c', v = .slice (some ⟨b', 0, none⟩) ((F.l a).length + 1) c' ∧ Rw W (F.T a) b' c' (F.l a ++ [F.x a]) ∧ ((b' = F.b a ∧ c' = F.c a) ∨ base ≤ b')

theorem Four.grew_stays {base a : Nat} (ha : a < 4) (hb : ∀ a, a < 4 → F.b a < base) (X Y : World) (v : Value) (k : Keep4 F X Y) (h : F.grew base a X v) : F.grew base a Y v := by
  obtain ⟨b', c', rfl, r, e⟩ := h
  refine ⟨b', c', rfl, ?_, e⟩
  rcases e with ⟨rfl, rfl⟩ | e
  · exact k.v2 a ha r
  · refine r.only k.only ?_
    rintro ⟨a', ha', e'⟩
    have := hb a' ha'
    omega

/-- what was so ahead of an append -/
def grewNow (b : Nat) (w : World) (u : Value) : Prop := ∃ b' n c, u = .slice (some ⟨b', 0, none⟩) n c ∧ (b' = b ∨ w.heap.size ≤ b')
def slTwo (u v : Value) : Prop := ∀ b' n c b'' n' c', u = .slice (some ⟨b', 0, none⟩) n c → v = .slice (some ⟨b'', 0, none⟩) n' c' → b' ≠ b''

theorem grew_two {base a a' : Nat} (ha : a < 4) (hne : F.b a ≠ F.b a') (hb : ∀ a, a < 4 → F.b a < base) {w : World} {u v : Value} (hu : grewNow (F.b a) w u) (hv : F.grew base a' w v) : slTwo u v ∧ slTwo v u := by
  obtain ⟨b1, n1, c1, rfl, h1⟩ := hu
  obtain ⟨b2, c2, rfl, r2, h2⟩ := hv
  have hlt := r2.lt
  have hb1 := hb a ha
  have key : b1 ≠ b2 := by
    rcases h1 with rfl | h1
    · rcases h2 with ⟨rfl, _⟩ | h2
      · exact hne
      · omega
    · omega
  refine ⟨fun _ _ _ _ _ _ e1 e2 => ?_, fun _ _ _ _ _ _ e1 e2 => ?_⟩
  · cases e1; cases e2; exact key
  · cases e1; cases e2; exact key.symm

/-- an append at its place in such a region -/
theorem Four.app {base a : Nat} (ha : a < 4) (hne : ∀ a', a' < 4 → a' ≠ a → F.b a' ≠ F.b a) {S : TypeId} {z : Value} {bytes : Nat} (hu : Tryz.prog.underlying S = some (.slice (F.T a))) (hi0 : (Tryz.prog.info? (F.T a)).map (fun i => (i.zero, i.size, i.bytes)) = some (some z, 1, bytes)) (hz : z.cells.size = 1) (hby : bytes ≤ 8)
    {w : World} (h : Rw w (F.T a) (F.b a) (F.c a) (F.l a)) (g : Nat) (hx : (F.x a).oneCell' = true) (hg : w.cell? ⟨g, 0, none⟩ = some (F.x a)) (hl : (F.l a).length ≤ 1000) (hbw : base ≤ w.heap.size) (ty : TypeId) :
    ∃ v w', (Builtin.append_ #[S, S] ty #[.slice (some ⟨F.b a, 0, none⟩) (F.l a).length (F.c a), .slice (some ⟨g, 0, none⟩) 1 1]).run Tryz.prog w = .ok v w' ∧ Keep4 F w w' ∧ F.grew base a w' v ∧ grewNow (F.b a) w v := by
  obtain ⟨b', c', w', hrun, r, o, e⟩ := h.app hu hi0 hz hby g _ hx hg hl ty
  refine ⟨_, w', hrun, ?_, ⟨b', c', rfl, r, ?_⟩, b', _, c', rfl, ?_⟩
  · rcases e with ⟨rfl, rfl, h1⟩ | ⟨_, g⟩
    · exact Keep4.app ha hne o h1 r
    · exact Keep4.grown g
  · rcases e with ⟨h1, h2, _⟩ | ⟨h, _⟩
    · exact Or.inl ⟨h1, h2⟩
    · exact Or.inr (by omega)
  · rcases e with ⟨h1, _, _⟩ | ⟨h, _⟩
    · exact Or.inl h1
    · exact Or.inr h
end

/-- an arena, and the four rows -/
structure Shed (w0 w : World) (L : Loc) (E : Nat) (s : Mm) (σ : Nat) (q : Q) (nx : Nat) (gen : Nat → Nat) (ls : List Ox) (rs : List Rec) (b1 c1 b2 c2 b3 c3 b4 c4 : Nat) : Prop where
  f : Farm w0 w L E 1 8 8 40 100 s σ q nx gen ls
  r1 : Rw w 37 b1 c1 (rs.map Rec.h)
  r2 : Rw w 4 b2 c2 (rs.map Rec.l)
  r3 : Rw w 4 b3 c3 (rs.map Rec.o)
  r4 : Rw w 3 b4 c4 (rs.map Rec.z)
  ne : b2 ≠ b3
  p : w0.heap.size ≤ b1 ∧ w0.heap.size ≤ b2 ∧ w0.heap.size ≤ b3 ∧ w0.heap.size ≤ b4
  l : ¬ L.has b1 ∧ ¬ L.has b2 ∧ ¬ L.has b3 ∧ ¬ L.has b4
  e : E ≠ b1 ∧ E ≠ b2 ∧ E ≠ b3 ∧ E ≠ b4

section
variable {w0 w w' : World} {L : Loc} {E : Nat} {s s' : Mm} {σ σ' : Nat} {q q' : Q} {nx nx' : Nat} {gen gen' : Nat → Nat} {ls ls' : List Ox} {rs : List Rec} {b1 c1 b2 c2 b3 c3 b4 c4 : Nat}

theorem Shed.grown (h : Shed w0 w L E s σ q nx gen ls rs b1 c1 b2 c2 b3 c3 b4 c4) (g : Below w.heap.size w w') : Shed w0 w' L E s σ q nx gen ls rs b1 c1 b2 c2 b3 c3 b4 c4 := ⟨h.f.grown g, h.r1.grown g, h.r2.grown g, h.r3.grown g, h.r4.grown g, h.ne, h.p, h.l, h.e⟩

/-- the memory does something -/
theorem Shed.only (h : Shed w0 w L E s σ q nx gen ls rs b1 c1 b2 c2 b3 c3 b4 c4) (o : Only L.has w w') (f : Farm w0 w' L E 1 8 8 40 100 s' σ' q' nx' gen' ls') : Shed w0 w' L E s' σ' q' nx' gen' ls' rs b1 c1 b2 c2 b3 c3 b4 c4 :=
  ⟨f, h.r1.only o h.l.1, h.r2.only o h.l.2.1, h.r3.only o h.l.2.2.1, h.r4.only o h.l.2.2.2, h.ne, h.p, h.l, h.e⟩

/-- one lives no more -/
theorem Shed.dies (h : Shed w0 w L E s σ q nx gen ls rs b1 c1 b2 c2 b3 c3 b4 c4) {j : Nat} {r : Rec} (hj : rs[j]? = some r) : Shed w0 (w.setCell ⟨b2, j, none⟩ (.bool false)) L E s σ q nx gen ls (rs.set j { r with live := false }) b1 c1 b2 c2 b3 c3 b4 c4 := by
  have hjl : j < rs.length := (List.getElem?_eq_some_iff.1 hj).1
  have same : ∀ f : Rec → Value, f r = f { r with live := false } → (rs.set j { r with live := false }).map f = rs.map f := by
    intro f hf
    rw [List.map_set, ← hf]
    apply List.ext_getElem?
    intro i
    by_cases e : j = i
    · subst e
      rw [List.getElem?_set_self (by simpa using hjl), List.getElem?_map, hj]; rfl
    · rw [List.getElem?_set_ne e]
  have t12 := h.r2.ne h.r1 (by decide)
  have t42 := h.r4.ne h.r2 (by decide)
  refine ⟨h.f.setIn h.p.2.1 h.e.2.1 h.l.2.1 _ _, ?_, ?_, ?_, ?_, h.ne, h.p, h.l, h.e⟩
  · rw [same Rec.h rfl]; exact h.r1.other (fun e => t12 e.symm) _ _
  · rw [List.map_set]; exact h.r2.set (by simpa using hjl) _
  · rw [same Rec.o rfl]; exact h.r3.other (fun e => h.ne e.symm) _ _
  · rw [same Rec.z rfl]; exact h.r4.other t42 _ _
end

end Go.Proofs.YtbmiieaakbcncaaGreat
