/- Things to be done (Act of package footlockerlaw09), as a slice that was handed in looks like to a walk; what it comes to, to make an object where objects live. -/
import Derived.Test.YtcdmokbamakomaaGreatDropAwake
namespace Go.Proofs.YtcdmokbamakomaaGreat
open Go.RowKit

/-- things to be done: kind, which one, a size, as what -/
structure Acts9 where
  kind : Nat → Int
  at_ : Nat → Int
  size : Nat → Int
  own : Nat → Bool

/-- the first n things behind the address are those of A -/
def Acts9At (w : World) (ao : Option Addr) (n : Nat) (A : Acts9) : Prop :=
  ∀ i, i < n → ∃ b off, ao = some ⟨b, off, none⟩ ∧ w.cell? ⟨b, off + i * 4, none⟩ = some (.int .i64 (A.kind i)) ∧ w.cell? ⟨b, off + i * 4 + 1, none⟩ = some (.int .i64 (A.at_ i)) ∧
    w.cell? ⟨b, off + i * 4 + 2, none⟩ = some (.int .i64 (A.size i)) ∧ w.cell? ⟨b, off + i * 4 + 3, none⟩ = some (.bool (A.own i))

def Acts9Fit (n : Nat) (A : Acts9) : Prop := ∀ i, i < n → Fit (A.kind i) ∧ Fit (A.at_ i) ∧ Fit (A.size i)

/-- all slots are free, or of an object that lives -/
def Cover (n : Nat) (q : Q) (ls : List Ox) : Prop := ∀ x, x < n → x ∈ q.F ∨ ∃ o ∈ ls, o.x = x

/-- what it comes to, to make an object of a size: the error, the handle, what is left, what lives -/
inductive Lot (gen : Nat → Nat) (own : Bool) (Z : Nat) (q : Q) (ls : List Ox) : Int → Int → Q → List Ox → Prop where
  | no (E : Int) (hE : E = 6 ∨ E = 7) (q' : Q) (hF : q'.F = q.F) (hs : q'.sw = q.sw) (hd : q'.dw = q.dw) : Lot gen own Z q ls E 0 q' ls
  | made (o : Ox) (q' : Q) (hF : q.F = o.x :: q'.F) (hg : o.g = gen o.x) (ho : o.own = own) (hz : o.Z = Z) : Lot gen own Z q ls 0 (packH o.x o.g) q' (o :: ls)

theorem Lot.cover {gen : Nat → Nat} {own : Bool} {Z n : Nat} {q q' : Q} {ls ls' : List Ox} {E H : Int} (h : Lot gen own Z q ls E H q' ls') (c : Cover n q ls) : Cover n q' ls' := by
  cases h with
  | no E hE q' hF hs hd => intro x hx; rw [hF]; exact c x hx
  | made o q' hF hg ho hz =>
    intro x hx
    rcases c x hx with h | ⟨o', h, e⟩
    · rw [hF] at h
      rcases List.mem_cons.1 h with rfl | h
      · exact Or.inr ⟨o, by simp, rfl⟩
      · exact Or.inl h
    · exact Or.inr ⟨o', by simp [h], e⟩

theorem cover0 (n : Nat) : Cover n (Q.new n) [] := fun x hx => Or.inl (by
  have : ∀ k x, x < n → n ≤ x + k → k ≤ n → x ∈ upFrom n k := by
    intro k
    induction k with
    | zero => intro x h1 h2; omega
    | succ k ih =>
      intro x h1 h2 h3
      show x ∈ (n - (k + 1)) :: upFrom n k
      by_cases e : x = n - (k + 1)
      · rw [e]; simp
      · exact List.mem_cons_of_mem _ (ih x h1 (by omega) (by omega))
  exact this n x hx (by omega) (Nat.le_refl _))

section
variable {w0 w : World} {L : Loc} {bE t n k m σ nx : Nat} {cg : Int} {s : Mm} {q : Q} {gen : Nat → Nat} {ls : List Ox} {own : Bool}

theorem Farm.lot (f : Farm w0 w L bE t n k m cg s σ q nx gen ls) (a : FarmApart w0 L bE t n k m cg) {Z : Nat} (z1 : 1 ≤ Z) (z2 : Z ≤ 16) (hσ : σ + 400 < 1000000) : ∃ E H q' nx' ls', nx' ≤ nx + 1 ∧ Lot gen own Z q ls E H q' ls' ∧ ∀ w1 : World, Farm w0 w1 L bE t n k m cg s σ q nx gen ls →
    Calls Tryz.prog 11 #[.agg #[.int .i64 t, .int .i64 n, .int .i64 k, .int .i64 m, .int .i64 cg, .int .i64 600, .int .i64 3, .pointer (some ⟨L.p, 0, none⟩), .int .i64 0], .int .i64 Z, .bool own] w1 fun e w' => ∃ (st : Nat) (s' : Mm) (σ' : Nat), e = .returned (.agg #[.int .i64 E, .int .u64 H, .int .i64 0, .int .i64 st]) ∧ σ' ≤ σ + 100 ∧ Farm w0 w' L bE t n k m cg s' σ' q' nx' gen ls' ∧ Only L.has w1 w' := by
  obtain ⟨kz, hκ⟩ := class_room z1 z2
  cases hF : q.F with
  | nil =>
    refine ⟨7, 0, q, nx, ls, by omega, .no 7 (Or.inr rfl) q rfl rfl rfl, fun w1 f1 => (f1.empty (own := own) a z2 kz hκ hF hσ).mono ?_⟩
    rintro e w' ⟨st, s', rfl, c, o⟩
    exact ⟨st, s', σ + 1, rfl, by omega, c, o⟩
  | cons x F =>
    obtain ⟨N, y', nx', τ', -, -, g⟩ := alone_goes (m := m) (bs := base t n k m) f.tm.al hκ a.g.n0 a.g.k0 a.g.k1
    have won : ∀ {y' : Y} {nx' A i : Nat}, nx' ≤ nx + 1 → Got k m (classOf Z).toNat (base t n k m) q.y nx y' nx' (.won A i) → ∃ E H q' nx' ls', nx' ≤ nx + 1 ∧ Lot gen own Z q ls E H q' ls' ∧ ∀ w1 : World, Farm w0 w1 L bE t n k m cg s σ q nx gen ls →
        Calls Tryz.prog 11 #[.agg #[.int .i64 t, .int .i64 n, .int .i64 k, .int .i64 m, .int .i64 cg, .int .i64 600, .int .i64 3, .pointer (some ⟨L.p, 0, none⟩), .int .i64 0], .int .i64 Z, .bool own] w1 fun e w' => ∃ (st : Nat) (s' : Mm) (σ' : Nat), e = .returned (.agg #[.int .i64 E, .int .u64 H, .int .i64 0, .int .i64 st]) ∧ σ' ≤ σ + 100 ∧ Farm w0 w' L bE t n k m cg s' σ' q' nx' gen ls' ∧ Only L.has w1 w' := by
      intro y' nx' A i hnx g
      refine ⟨0, packH x (gen x), q.made x F y' A i (classOf Z).toNat Z own, nx', q.ox gen x A i Z (classOf Z).toNat own :: ls, hnx, .made (q.ox gen x A i Z (classOf Z).toNat own) (q.made x F y' A i (classOf Z).toNat Z own) hF rfl rfl rfl, fun w1 f1 => (f1.ok (own := own) a z1 z2 kz hκ hF g hσ).mono ?_⟩
      rintro e w' ⟨st, s', σ', rfl, _, _, h3, c, o⟩
      exact ⟨st, s', σ', rfl, h3, c, o⟩
    cases g with
    | fit i h hu => exact won (Nat.le_succ _) (.fit i h hu)
    | new hno h => exact won (Nat.le_refl _) (.new hno h)
    | none hno h =>
      refine ⟨6, 0, _, nx, ls, by omega, .no 6 (Or.inl rfl) (q.back x F q.y) hF.symm rfl rfl, fun w1 f1 => (f1.full (own := own) a z2 kz hκ hF (.none hno h) hσ).mono ?_⟩
      rintro e w' ⟨st, s', σ', rfl, h3, c, o⟩
      exact ⟨st, s', σ', rfl, h3, c, o⟩

/-- the memory, while an object is made -/
def phLot (w0 : World) (L : Loc) (E t n k m : Nat) (cg : Int) (s : Mm) (σ : Nat) (q : Q) (nx : Nat) (gen : Nat → Nat) (ls : List Ox) (q' : Q) (nx' : Nat) (ls' : List Ox) : Nat → World → Prop
  | 0, w => Farm w0 w L E t n k m cg s σ q nx gen ls
  | _, w => ∃ s' σ', σ' ≤ σ + 100 ∧ Farm w0 w L E t n k m cg s' σ' q' nx' gen ls'

theorem phLot_grown (w0 : World) (L : Loc) (E t n k m : Nat) (cg : Int) (s : Mm) (σ : Nat) (q : Q) (nx : Nat) (gen : Nat → Nat) (ls : List Ox) (q' : Q) (nx' : Nat) (ls' : List Ox) (x y : World) (p : Nat) (g : Grown x y) (h : phLot w0 L E t n k m cg s σ q nx gen ls q' nx' ls' p x) : phLot w0 L E t n k m cg s σ q nx gen ls q' nx' ls' p y := by
  match p, h with
  | 0, h => exact Farm.grown h g
  | p + 1, ⟨s', σ', h1, h2⟩ => exact ⟨s', σ', h1, h2.grown g⟩
end

theorem cell_other {w : World} {b o d i : Nat} {v x : Value} (h : w.cell? ⟨b, o, none⟩ = some x) (hne : b ≠ d) : (w.setCell ⟨d, i, none⟩ v).cell? ⟨b, o, none⟩ = some x := by
  rw [World.cell?_setCell_other _ _ _ _ (fun e => hne (by cases e; rfl))]; exact h

/-- the size of an act: 1 to 16 -/
theorem size15 (z : Int) : ∃ Z : Nat, (1 : Int) + bits .and .i64 z 15 = (Z : Int) ∧ 1 ≤ Z ∧ Z ≤ 16 := by
  obtain ⟨y, h1, h2, h3⟩ := lowAt z 15 4 1 (by decide) (by decide)
  exact ⟨y, h1, h2, by have : ((y : Nat) : Int) ≤ ((1 : Nat) : Int) + 15 := h3; omega⟩

end Go.Proofs.YtcdmokbamakomaaGreat
