/- Things to be done (Act of package footlockerlaw09), as a slice that was handed in looks like to a walk; what it comes to, to make an object where objects live. -/
import Derived.Test.YtcdmokbamakomaaGreatDropAwake
namespace Go.Proofs.YtcdmokbamakomaaGreat
open Go.RowKit

/-- what it comes to, to make an object of a size: the error, the handle, what is left, what lives -/
inductive Lot (gen : Nat → Nat) (own : Bool) (Z : Nat) (q : Q) (ls : List Ox) : Int → Int → Q → List Ox → Prop where
  | no (E : Int) (hE : E = 6 ∨ E = 7) (q' : Q) (hF : q'.F = q.F) (hs : q'.sw = q.sw) (hd : q'.dw = q.dw) : Lot gen own Z q ls E 0 q' ls
  | made (o : Ox) (q' : Q) (hF : q.F = o.x :: q'.F) (hg : o.g = gen o.x) (ho : o.own = own) (hz : o.Z = Z) : Lot gen own Z q ls 0 (packH o.x o.g) q' (o :: ls)

section
variable {w0 w : World} {L : Loc} {bE t n k m σ nx : Nat} {cg : Int} {s : Mm} {q : Q} {gen : Nat → Nat} {ls : List Ox} {own : Bool}

theorem Farm.lot (f : Farm w0 w L bE t n k m cg s σ q nx gen ls) (a : FarmApart w0 L bE t n k m cg) {Z : Nat} (z1 : 1 ≤ Z) (z2 : Z ≤ 16) (hσ : σ + 400 < 1000000) : ∃ E H q' nx' ls', nx' ≤ nx + 1 ∧ Lot gen own Z q ls E H q' ls' ∧ ∀ w1 : World, Farm w0 w1 L bE t n k m cg s σ q nx gen ls →
    Calls Tryz.prog 11 #[.agg #[.int .i64 t, .int .i64 n, .int .i64 k, .int .i64 m, .int .i64 cg, .int .i64 600, .int .i64 3, .pointer (some ⟨L.p, 0, none⟩), .int .i64 0], .int .i64 Z, .bool own] w1 fun e w' => ∃ (st : Nat) (s' : Mm) (σ' : Nat), e = .returned (.agg #[.int .i64 E, .int .u64 H, .int .i64 0, .int .i64 st]) ∧ σ' ≤ σ + 100 ∧ Farm w0 w' L bE t n k m cg s' σ' q' nx' gen ls' ∧ Only L.has w1 w' := by
  obtain ⟨kz, hκ⟩ := class_room z1 z2
  cases hF : q.F with
  | nil =>
    refine ⟨7, 0, q, nx, ls, by omega, .no 7 (Or.inr rfl) q rfl rfl rfl, fun w1 f1 => (f1.empty (own := own) a z2 kz hκ hF hσ).mono ?_⟩
    rintro e w' ⟨st, s', rfl, c, o⟩
    exact ⟨st, s', σ + 1, rfl, by omega, c, o⟩
  | cons x F =>
    obtain ⟨N, y', nx', τ', -, -, g⟩ := alone_goes (m := m) (bs := base t n k m) f.tm.al hκ a.g.n0 a.g.k0 a.g.k1
    have won : ∀ {y' : Y} {nx' A i : Nat}, nx' ≤ nx + 1 → Got k m (classOf Z).toNat (base t n k m) q.y nx y' nx' (.won A i) → ∃ E H q' nx' ls', nx' ≤ nx + 1 ∧ Lot gen own Z q ls E H q' ls' ∧ ∀ w1 : World, Farm w0 w1 L bE t n k m cg s σ q nx gen ls →
        Calls Tryz.prog 11 #[.agg #[.int .i64 t, .int .i64 n, .int .i64 k, .int .i64 m, .int .i64 cg, .int .i64 600, .int .i64 3, .pointer (some ⟨L.p, 0, none⟩), .int .i64 0], .int .i64 Z, .bool own] w1 fun e w' => ∃ (st : Nat) (s' : Mm) (σ' : Nat), e = .returned (.agg #[.int .i64 E, .int .u64 H, .int .i64 0, .int .i64 st]) ∧ σ' ≤ σ + 100 ∧ Farm w0 w' L bE t n k m cg s' σ' q' nx' gen ls' ∧ Only L.has w1 w' := by
      intro y' nx' A i hnx g
      refine ⟨0, packH x (gen x), q.made x F y' A i (classOf Z).toNat Z own, nx', q.ox gen x A i Z (classOf Z).toNat own :: ls, hnx, .made (q.ox gen x A i Z (classOf Z).toNat own) (q.made x F y' A i (classOf Z).toNat Z own) hF rfl rfl rfl, fun w1 f1 => (f1.ok (own := own) a z1 z2 kz hκ hF g hσ).mono ?_⟩
      rintro e w' ⟨st, s', σ', rfl, _, _, h3, c, o⟩
      exact ⟨st, s', σ', rfl, h3, c, o⟩
    cases g with
    | fit i h hu => exact won (Nat.le_succ _) (.fit i h hu)
    | new hno h => exact won (Nat.le_refl _) (.new hno h)
    | none hno h =>
      refine ⟨6, 0, _, nx, ls, by omega, .no 6 (Or.inl rfl) (q.back x F q.y) hF.symm rfl rfl, fun w1 f1 => (f1.full (own := own) a z2 kz hκ hF (.none hno h) hσ).mono ?_⟩
      rintro e w' ⟨st, s', σ', rfl, h3, c, o⟩
      exact ⟨st, s', σ', rfl, h3, c, o⟩

end

/-- the size of an act: 1 to 16 -/
theorem size15 (z : Int) : ∃ Z : Nat, (1 : Int) + bits .and .i64 z 15 = (Z : Int) ∧ 1 ≤ Z ∧ Z ≤ 16 := by
  obtain ⟨y, h1, h2, h3⟩ := lowAt z 15 4 1 (by decide) (by decide)
  exact ⟨y, h1, h2, by have : ((y : Nat) : Int) ≤ ((1 : Nat) : Int) + 15 := h3; omega⟩

end Go.Proofs.YtcdmokbamakomaaGreat
