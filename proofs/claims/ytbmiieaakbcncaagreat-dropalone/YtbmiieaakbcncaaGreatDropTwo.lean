/- Four rows of an arena's objects, each with one more: what is known while they grow, and behind it. -/
import Derived.Test.YtbmiieaakbcncaaGreatDropFour
namespace Go.Proofs.YtbmiieaakbcncaaGreat
open Go.RowKit

/-- two rows of one kind are two, whoever was made first -/
def two4 (l : Nat → Option Value) : Prop := ∀ u v, l 7 = some u → l 12 = some v → slTwo u v

section
variable {l : Nat → Option Value} {u : Value}
theorem two4.none : two4 (fun _ => Option.none) := fun u v h _ => by cases h
theorem two4.other (h : two4 l) {i : Nat} (hi : i ≠ 7 ∧ i ≠ 12) (u : Value) : two4 (upd l i (some u)) := by
  intro a b ha hb
  rw [upd_other _ _ _ _ (Ne.symm hi.1)] at ha
  rw [upd_other _ _ _ _ (Ne.symm hi.2)] at hb
  exact h a b ha hb
theorem two4.at7 (hu : ∀ v, l 12 = some v → slTwo u v) : two4 (upd l 7 (some u)) := by
  intro a b ha hb
  rw [upd_other _ _ _ _ (by decide)] at hb
  rw [upd_same] at ha
  cases ha; exact hu b hb
theorem two4.at12 (hu : ∀ v, l 7 = some v → slTwo v u) : two4 (upd l 12 (some u)) := by
  intro a b ha hb
  rw [upd_other _ _ _ _ (by decide)] at ha
  rw [upd_same] at hb
  cases hb; exact hu a ha
end

/-- a slice of one value, in a block of its own -/
def boxd (base : Nat) (x : Value) (W : World) (v : Value) : Prop := ∃ g, v = .slice (some ⟨g, 0, none⟩) 1 1 ∧ base ≤ g ∧ W.cell? ⟨g, 0, none⟩ = some x

theorem boxd_stays {F : Four} {base : Nat} (hb : ∀ a, a < 4 → F.b a < base) (x : Value) (X Y : World) (v : Value) (k : Keep4 F X Y) (h : boxd base x X v) : boxd base x Y v := by
  obtain ⟨g, rfl, h1, h2⟩ := h
  refine ⟨g, rfl, h1, k.only.keep (b := g) ?_ h2⟩
  rintro ⟨a, ha, e⟩
  have := hb a ha
  omega

def fourT : Nat → TypeId
  | 0 => 37
  | 1 => 4
  | 2 => 4
  | _ => 3
def four {α : Type} (a b c d : α) : Nat → α
  | 0 => a
  | 1 => b
  | 2 => c
  | _ => d

/-- the rows of an arena's objects, and one that was made -/
def fourOf (b1 c1 b2 c2 b3 c3 b4 c4 : Nat) (rs : List Rec) (r : Rec) : Four := ⟨fourT, four b1 b2 b3 b4, four c1 c2 c3 c4, four (rs.map Rec.h) (rs.map Rec.l) (rs.map Rec.o) (rs.map Rec.z), four r.h r.l r.o r.z⟩

theorem Farm.also {w0 w w' : World} {L : Loc} {bE t n k m σ nx : Nat} {cg : Int} {s : Mm} {q : Q} {gen : Nat → Nat} {ls : List Ox} {S : Nat → Prop} (f : Farm w0 w L bE t n k m cg s σ q nx gen ls) (o : Only S w w') (hS : ∀ i, S i → w0.heap.size ≤ i ∧ bE ≠ i ∧ ¬ L.has i) : Farm w0 w' L bE t n k m cg s σ q nx gen ls :=
  ⟨f.mm.only o (fun i hi hs => (hS i hs).2.2 hi), f.tw, f.tm, f.v.only o (fun hs => (hS _ hs).2.1 rfl), f.b.trans (o.below f.b.size (fun i hi hs => by have := (hS i hs).1; omega))⟩

section
variable {w0 w w' : World} {L : Loc} {E : Nat} {s : Mm} {σ : Nat} {q : Q} {nx : Nat} {gen : Nat → Nat} {ls : List Ox} {rs : List Rec} {r : Rec} {b1 c1 b2 c2 b3 c3 b4 c4 : Nat}

theorem Shed.fourNe (h : Shed w0 w L E s σ q nx gen ls rs b1 c1 b2 c2 b3 c3 b4 c4) {a : Nat} (ha : a < 4) : ∀ a', a' < 4 → a' ≠ a → (fourOf b1 c1 b2 c2 b3 c3 b4 c4 rs r).b a' ≠ (fourOf b1 c1 b2 c2 b3 c3 b4 c4 rs r).b a := by
  intro a' ha' hne
  have t12 : b1 ≠ b2 := h.r1.ne h.r2 (by decide)
  have t13 : b1 ≠ b3 := h.r1.ne h.r3 (by decide)
  have t14 : b1 ≠ b4 := h.r1.ne h.r4 (by decide)
  have t23 : b2 ≠ b3 := h.ne
  have t24 : b2 ≠ b4 := h.r2.ne h.r4 (by decide)
  have t34 : b3 ≠ b4 := h.r3.ne h.r4 (by decide)
  have e : a = 0 ∨ a = 1 ∨ a = 2 ∨ a = 3 := by omega
  have e' : a' = 0 ∨ a' = 1 ∨ a' = 2 ∨ a' = 3 := by omega
  rcases e with rfl | rfl | rfl | rfl <;> rcases e' with rfl | rfl | rfl | rfl <;> first | exact absurd rfl hne | assumption | exact Ne.symm (by assumption)

theorem Shed.fourLt (h : Shed w0 w L E s σ q nx gen ls rs b1 c1 b2 c2 b3 c3 b4 c4) : ∀ a, a < 4 → (fourOf b1 c1 b2 c2 b3 c3 b4 c4 rs r).b a < w.heap.size := by
  intro a ha
  have e : a = 0 ∨ a = 1 ∨ a = 2 ∨ a = 3 := by omega
  rcases e with rfl | rfl | rfl | rfl
  · exact h.r1.lt
  · exact h.r2.lt
  · exact h.r3.lt
  · exact h.r4.lt

theorem Shed.fourRw (h : Shed w0 w L E s σ q nx gen ls rs b1 c1 b2 c2 b3 c3 b4 c4) : ∀ a, a < 4 → Rw w ((fourOf b1 c1 b2 c2 b3 c3 b4 c4 rs r).T a) ((fourOf b1 c1 b2 c2 b3 c3 b4 c4 rs r).b a) ((fourOf b1 c1 b2 c2 b3 c3 b4 c4 rs r).c a) ((fourOf b1 c1 b2 c2 b3 c3 b4 c4 rs r).l a) := by
  intro a ha
  have e : a = 0 ∨ a = 1 ∨ a = 2 ∨ a = 3 := by omega
  rcases e with rfl | rfl | rfl | rfl
  · exact h.r1
  · exact h.r2
  · exact h.r3
  · exact h.r4

theorem Shed.fourHas (h : Shed w0 w L E s σ q nx gen ls rs b1 c1 b2 c2 b3 c3 b4 c4) : ∀ i, (fourOf b1 c1 b2 c2 b3 c3 b4 c4 rs r).has i → w0.heap.size ≤ i ∧ E ≠ i ∧ ¬ L.has i := by
  rintro i ⟨a, ha, rfl⟩
  have e : a = 0 ∨ a = 1 ∨ a = 2 ∨ a = 3 := by omega
  rcases e with rfl | rfl | rfl | rfl
  · exact ⟨h.p.1, h.e.1, h.l.1⟩
  · exact ⟨h.p.2.1, h.e.2.1, h.l.2.1⟩
  · exact ⟨h.p.2.2.1, h.e.2.2.1, h.l.2.2.1⟩
  · exact ⟨h.p.2.2.2, h.e.2.2.2, h.l.2.2.2⟩

/-- all four have one more -/
theorem Shed.grew (h : Shed w0 w L E s σ q nx gen ls rs b1 c1 b2 c2 b3 c3 b4 c4) {v1 v2 v3 v4 : Value} (k : Keep4 (fourOf b1 c1 b2 c2 b3 c3 b4 c4 rs r) w w')
    (g1 : (fourOf b1 c1 b2 c2 b3 c3 b4 c4 rs r).grew w.heap.size 0 w' v1) (g2 : (fourOf b1 c1 b2 c2 b3 c3 b4 c4 rs r).grew w.heap.size 1 w' v2) (g3 : (fourOf b1 c1 b2 c2 b3 c3 b4 c4 rs r).grew w.heap.size 2 w' v3) (g4 : (fourOf b1 c1 b2 c2 b3 c3 b4 c4 rs r).grew w.heap.size 3 w' v4) (two : slTwo v2 v3) :
    ∃ b1' c1' b2' c2' b3' c3' b4' c4', v1 = .slice (some ⟨b1', 0, none⟩) (rs ++ [r]).length c1' ∧ v2 = .slice (some ⟨b2', 0, none⟩) (rs ++ [r]).length c2' ∧ v3 = .slice (some ⟨b3', 0, none⟩) (rs ++ [r]).length c3' ∧ v4 = .slice (some ⟨b4', 0, none⟩) (rs ++ [r]).length c4' ∧
      Shed w0 w' L E s σ q nx gen ls (rs ++ [r]) b1' c1' b2' c2' b3' c3' b4' c4' := by
  obtain ⟨b1', c1', rfl, r1, e1⟩ := g1
  obtain ⟨b2', c2', rfl, r2, e2⟩ := g2
  obtain ⟨b3', c3', rfl, r3, e3⟩ := g3
  obtain ⟨b4', c4', rfl, r4, e4⟩ := g4
  have hE : E < w.heap.size := h.f.ltE
  have hw := h.f.b.size
  have hL : ∀ b, w.heap.size ≤ b → ¬ L.has b := fun b hb hh => by have := h.f.mm.lt _ hh; omega
  have key : ∀ {b b' : Nat}, w0.heap.size ≤ b → E ≠ b → ¬ L.has b → (b' = b ∨ w.heap.size ≤ b') → w0.heap.size ≤ b' ∧ E ≠ b' ∧ ¬ L.has b' := by
    rintro b b' p1 p2 p3 (rfl | e)
    · exact ⟨p1, p2, p3⟩
    · exact ⟨by omega, by omega, hL _ e⟩
  obtain ⟨a1, a2, a3⟩ := key h.p.1 h.e.1 h.l.1 (e1.imp (fun x => x.1) id)
  obtain ⟨a4, a5, a6⟩ := key h.p.2.1 h.e.2.1 h.l.2.1 (e2.imp (fun x => x.1) id)
  obtain ⟨a7, a8, a9⟩ := key h.p.2.2.1 h.e.2.2.1 h.l.2.2.1 (e3.imp (fun x => x.1) id)
  obtain ⟨a10, a11, a12⟩ := key h.p.2.2.2 h.e.2.2.2 h.l.2.2.2 (e4.imp (fun x => x.1) id)
  have q1 : ((fourOf b1 c1 b2 c2 b3 c3 b4 c4 rs r).l 0).length + 1 = (rs ++ [r]).length := by simp [fourOf, four]
  have q2 : ((fourOf b1 c1 b2 c2 b3 c3 b4 c4 rs r).l 1).length + 1 = (rs ++ [r]).length := by simp [fourOf, four]
  have q3 : ((fourOf b1 c1 b2 c2 b3 c3 b4 c4 rs r).l 2).length + 1 = (rs ++ [r]).length := by simp [fourOf, four]
  have q4 : ((fourOf b1 c1 b2 c2 b3 c3 b4 c4 rs r).l 3).length + 1 = (rs ++ [r]).length := by simp [fourOf, four]
  have m1 : (rs ++ [r]).map Rec.h = rs.map Rec.h ++ [r.h] := by simp
  have m2 : (rs ++ [r]).map Rec.l = rs.map Rec.l ++ [r.l] := by simp
  have m3 : (rs ++ [r]).map Rec.o = rs.map Rec.o ++ [r.o] := by simp
  have m4 : (rs ++ [r]).map Rec.z = rs.map Rec.z ++ [r.z] := by simp
  exact ⟨b1', c1', b2', c2', b3', c3', b4', c4', by rw [q1], by rw [q2], by rw [q3], by rw [q4],
    h.f.also k.only h.fourHas, by rw [m1]; exact r1, by rw [m2]; exact r2, by rw [m3]; exact r3, by rw [m4]; exact r4, two _ _ _ _ _ _ rfl rfl, ⟨a1, a4, a7, a10⟩, ⟨a3, a6, a9, a12⟩, ⟨a2, a5, a8, a11⟩⟩

/-- an append, at its place among the others' -/
theorem Shed.app (h : Shed w0 w L E s σ q nx gen ls rs b1 c1 b2 c2 b3 c3 b4 c4) (k : Keep4 (fourOf b1 c1 b2 c2 b3 c3 b4 c4 rs r) w w') {a : Nat} (ha : a < 4) {S : TypeId} {z : Value} {bytes : Nat} (hu : Tryz.prog.underlying S = some (.slice ((fourOf b1 c1 b2 c2 b3 c3 b4 c4 rs r).T a)))
    (hi0 : (Tryz.prog.info? ((fourOf b1 c1 b2 c2 b3 c3 b4 c4 rs r).T a)).map (fun i => (i.zero, i.size, i.bytes)) = some (some z, 1, bytes)) (hz : z.cells.size = 1) (hby : bytes ≤ 8)
    (hx : ((fourOf b1 c1 b2 c2 b3 c3 b4 c4 rs r).x a).oneCell' = true) {v : Value} (hv : boxd w.heap.size ((fourOf b1 c1 b2 c2 b3 c3 b4 c4 rs r).x a) w' v) (hl : rs.length ≤ 1000) (ty : TypeId) {b c : Nat} (hb : (fourOf b1 c1 b2 c2 b3 c3 b4 c4 rs r).b a = b) (hc : (fourOf b1 c1 b2 c2 b3 c3 b4 c4 rs r).c a = c) :
    ∃ v' w'', (Builtin.append_ #[S, S] ty #[.slice (some ⟨b, 0, none⟩) rs.length c, v]).run Tryz.prog w' = .ok v' w'' ∧ Keep4 (fourOf b1 c1 b2 c2 b3 c3 b4 c4 rs r) w' w'' ∧ (fourOf b1 c1 b2 c2 b3 c3 b4 c4 rs r).grew w.heap.size a w'' v' ∧ grewNow ((fourOf b1 c1 b2 c2 b3 c3 b4 c4 rs r).b a) w' v' := by
  obtain ⟨g, rfl, h1, h2⟩ := hv
  have hlen : ((fourOf b1 c1 b2 c2 b3 c3 b4 c4 rs r).l a).length = rs.length := by
    have e : a = 0 ∨ a = 1 ∨ a = 2 ∨ a = 3 := by omega
    rcases e with rfl | rfl | rfl | rfl <;> simp [fourOf, four]
  have hrun := Four.app (F := fourOf b1 c1 b2 c2 b3 c3 b4 c4 rs r) (base := w.heap.size) ha (h.fourNe ha) hu hi0 hz hby (k.v1 a ha (h.fourRw a ha)) g hx h2 (by omega) k.only.size ty
  rw [hlen, hb, hc] at hrun
  rw [hb]
  exact hrun
end

/-- an append among a region's operations -/
theorem rely_append {P : Program} {R : World → World → Prop} {o : Oper} {a : Act} {w w' : World} {φ : World → Value → Prop} {t : TypeId} {v vx v' : Value} (s x : Operand)
    (ho : o.op = .call { callee := .builtin .append, args := #[s, x], argTypes := #[t, t] }) (hs : a.eval s = v) (hx : a.eval x = vx)
    (hr : (Builtin.append_ #[t, t] o.type #[v, vx]).run P w = .ok v' w') (hR : R w w') (hφ : φ w' v') : relyUpon P R w φ ((execOp a.eval o).run P w) := by
  unfold execOp
  simp only [ho, resolve, invoke, builtin, Sem.run_bind, Sem.run_pure, Result.andThen_ok, List.map_toArray, List.map_cons, List.map_nil, hs, hx, hr]
  exact ⟨hR, hφ⟩

theorem lclass_of {Z κ : Nat} (h : classOf Z = κ) (w : World) : Calls Tryz.prog 13 #[.int .i64 Z] w fun e w' => e = .returned (.int .i64 κ) ∧ w' = w := by
  rw [← h]; exact lclass_any _ w

theorem room17 (κ : Nat) : room κ ≤ 17 ∧ 3 ≤ room κ := by
  match κ with
  | 0 => decide
  | 1 => decide
  | 2 => decide
  | _ + 3 => exact ⟨Nat.le_refl 17, by show 3 ≤ 17; decide⟩

theorem fourNot {b1 c1 b2 c2 b3 c3 b4 c4 X : Nat} {rs : List Rec} {r : Rec} (h1 : b1 < X) (h2 : b2 < X) (h3 : b3 < X) (h4 : b4 < X) : ¬ (fourOf b1 c1 b2 c2 b3 c3 b4 c4 rs r).has X := by
  rintro ⟨a, ha, e⟩
  have e4 : a = 0 ∨ a = 1 ∨ a = 2 ∨ a = 3 := by omega
  rcases e4 with rfl | rfl | rfl | rfl <;> simp only [fourOf, four] at e <;> omega

end Go.Proofs.YtbmiieaakbcncaaGreat
