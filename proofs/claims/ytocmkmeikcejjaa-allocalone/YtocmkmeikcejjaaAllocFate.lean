/- Objects made alone: what each making comes to, told in one; what the statement keeps count of. -/
import Derived.Test.YtocmkmeikcejjaaAllocSite
import Derived.Test.YtocmkmeikcejjaaVary
import Derived.Test.YtocmkmeikcejjaaArgs
namespace Go.Proofs.Ytocmkmeikcejjaa
open Go.RowKit

/-- what it comes to, to make an object of a size alone: the error, the handle, what is left -/
inductive Fate (t n k m : Nat) (own : Bool) (q : Q) (nx : Nat) (z : Int) : Int → Int → Q → Nat → Prop where
  | bad (h : classOf z < 0) : Fate t n k m own q nx z 5 0 q nx
  | empty (κ : Nat) (hκ : κ < 4) (kz : classOf z = κ) (hF : q.F = []) : Fate t n k m own q nx z 7 0 q nx
  | full (κ : Nat) (hκ : κ < 4) (kz : classOf z = κ) (x : Nat) (F : List Nat) (hF : q.F = x :: F) (hno : ∀ i, q.y.op κ = i + 1 → ¬ (q.y.ck i).us + room κ ≤ m) (hk : nx = k) : Fate t n k m own q nx z 6 0 (q.back x F q.y) nx
  | fit (Z κ : Nat) (hZ : z = Z) (z1 : 1 ≤ Z) (z2 : Z ≤ 16) (hκ : κ < 4) (kz : classOf Z = κ) (x : Nat) (F : List Nat) (hF : q.F = x :: F) (i : Nat) (h : q.y.op κ = i + 1) (hu : (q.y.ck i).us + room κ ≤ m) : Fate t n k m own q nx z 0 (packH x 1) (q.made x F ⟨upd q.y.ck i ⟨1, κ, (q.y.ck i).us + room κ, (q.y.ck i).sp⟩, q.y.op⟩ (base t n k m i + (q.y.ck i).us) i κ Z own) nx
  | new (Z κ : Nat) (hZ : z = Z) (z1 : 1 ≤ Z) (z2 : Z ≤ 16) (hκ : κ < 4) (kz : classOf Z = κ) (x : Nat) (F : List Nat) (hF : q.F = x :: F) (hno : ∀ i, q.y.op κ = i + 1 → ¬ (q.y.ck i).us + room κ ≤ m) (hk : nx < k) : Fate t n k m own q nx z 0 (packH x 1) (q.made x F ⟨upd q.y.ck nx ⟨1, κ, room κ, (q.y.ck nx).sp + 1⟩, upd q.y.op κ (nx + 1)⟩ (base t n k m nx) nx κ Z own) (nx + 1)

theorem class_nat {z : Int} {κ : Nat} (h : classOf z = κ) : ∃ Z : Nat, z = Z ∧ 1 ≤ Z ∧ Z ≤ 16 := by
  refine ⟨z.toNat, ?_⟩
  unfold classOf at h
  repeat' split at h
  all_goals omega

section
variable {w0 w : World} {L : Loc} {bE t n k m σ nx : Nat} {s : Mm} {q : Q} {own : Bool}

theorem class_cases' (z : Int) : classOf z < 0 ∨ ∃ κ : Nat, classOf z = κ ∧ κ < 4 := by
  unfold classOf
  repeat' split
  all_goals first
    | exact .inl (by decide)
    | exact .inr ⟨0, rfl, by decide⟩
    | exact .inr ⟨1, rfl, by decide⟩
    | exact .inr ⟨2, rfl, by decide⟩
    | exact .inr ⟨3, rfl, by decide⟩

theorem Camp.fate (f : Camp w0 w L bE t n k m s σ q nx) (a : PlotApart w0 L bE t n k m) (z : Int) (hσ : σ + 400 < 1000000) : ∃ E H q' nx', Fate t n k m own q nx z E H q' nx' ∧ ∀ w1 : World, Camp w0 w1 L bE t n k m s σ q nx →
    Calls Try.prog 7 #[.agg #[.int .i64 t, .int .i64 n, .int .i64 k, .int .i64 m, .int .i64 100, .int .i64 600, .int .i64 3, .pointer (some ⟨L.p, 0, none⟩), .int .i64 0], .int .i64 z, .bool own] w1 fun e w' => ∃ (st : Nat) (s' : Mm) (σ' : Nat), e = .returned (.agg #[.int .i64 E, .int .u64 H, .int .i64 0, .int .i64 st]) ∧ σ' ≤ σ + 100 ∧ Camp w0 w' L bE t n k m s' σ' q' nx' ∧ Only L.has w1 w' := by
  rcases class_cases' z with hb | ⟨κ, kz, hκ⟩
  · refine ⟨5, 0, q, nx, .bad hb, fun w1 f1 => (f1.bad (own := own) a hb).mono ?_⟩
    rintro e w' ⟨rfl, c, o⟩
    exact ⟨_, s, σ, rfl, by omega, c, o⟩
  · obtain ⟨Z, rfl, z1, z2⟩ := class_nat kz
    cases hF : q.F with
    | nil =>
      refine ⟨7, 0, q, nx, .empty κ hκ kz hF, fun w1 f1 => (f1.empty (own := own) a z2 kz hκ hF hσ).mono ?_⟩
      rintro e w' ⟨st, s', rfl, c, o⟩
      exact ⟨_, s', σ + 1, rfl, by omega, c, o⟩
    | cons x F =>
      by_cases hf : ∃ i, q.y.op κ = i + 1 ∧ (q.y.ck i).us + room κ ≤ m
      · obtain ⟨i, h, hu⟩ := hf
        refine ⟨0, packH x 1, _, nx, .fit Z κ rfl z1 z2 hκ kz x F hF i h hu, fun w1 f1 => (f1.ok (own := own) a z2 kz hκ hF (.fit i h hu) hσ).mono ?_⟩
        rintro e w' ⟨st, s', σ', rfl, _, _, h3, c, o⟩
        exact ⟨_, s', σ', rfl, h3, c, o⟩
      · have hno : ∀ i, q.y.op κ = i + 1 → ¬ (q.y.ck i).us + room κ ≤ m := fun i h hu => hf ⟨i, h, hu⟩
        by_cases hk : nx < k
        · refine ⟨0, packH x 1, _, nx + 1, .new Z κ rfl z1 z2 hκ kz x F hF hno hk, fun w1 f1 => (f1.ok (own := own) a z2 kz hκ hF (.new hno hk) hσ).mono ?_⟩
          rintro e w' ⟨st, s', σ', rfl, _, _, h3, c, o⟩
          exact ⟨_, s', σ', rfl, h3, c, o⟩
        · have hk' : nx = k := by have := f.cm.al.le; omega
          refine ⟨6, 0, _, nx, .full κ hκ kz x F hF hno hk', fun w1 f1 => (f1.full (own := own) a z2 kz hκ hF (.none hno hk') hσ).mono ?_⟩
          rintro e w' ⟨st, s', σ', rfl, h3, c, o⟩
          exact ⟨_, s', σ', rfl, h3, c, o⟩

end

/-- what the statement keeps count of: which chunk is open for each class, and how much of each is used -/
structure Tally (W : World) (O U k : Nat) (y : Y) : Prop where
  o : W.rowIs O 31 4 (fun c => .int .i64 ((y.op c : Int) - 1))
  u : W.rowIs U 3 k (fun i => .int .i64 (y.ck i).us)

theorem Tally.only {W W' : World} {O U k : Nat} {y : Y} (h : Tally W O U k y) {S : Nat → Prop} (g : Only S W W') (ho : ¬ S O) (hu : ¬ S U) : Tally W' O U k y := ⟨g.row ho h.o, g.row hu h.u⟩
theorem Tally.grown {W W' : World} {O U k : Nat} {y : Y} (h : Tally W O U k y) (g : Below W.heap.size W W') : Tally W' O U k y := ⟨h.o.of_block (g.block _ h.o.lt), h.u.of_block (g.block _ h.u.lt)⟩
theorem Tally.setU {W : World} {O U k : Nat} {y : Y} (h : Tally W O U k y) (hne : O ≠ U) (i : Nat) (c : Ck) : Tally (W.setCell ⟨U, i, none⟩ (.int .i64 c.us)) O U k ⟨upd y.ck i c, y.op⟩ :=
  ⟨h.o.setOther hne _, (h.u.set i _).congr fun j _ => by
    by_cases e : j = i
    · subst e; simp [upd_same]
    · simp [upd_other _ _ _ _ e, e]⟩
theorem Tally.setO {W : World} {O U k : Nat} {y : Y} (h : Tally W O U k y) (hne : U ≠ O) (κ x : Nat) : Tally (W.setCell ⟨O, κ, none⟩ (.int .i64 x)) O U k ⟨y.ck, upd y.op κ (x + 1)⟩ :=
  ⟨(h.o.set κ _).congr fun j _ => by
    by_cases e : j = κ
    · subst e; simp [upd_same]
    · simp [upd_other _ _ _ _ e, e], h.u.setOther hne _⟩

theorem rroom_w (κ : Nat) (h : κ < 4) (w : World) : Calls Try.prog 8 #[.int .i64 κ] w fun e w' => e = .returned (.int .i64 (room κ)) ∧ Below w.heap.size w w' := by
  have k := rroom_any (κ : Int) w (by omega) (by omega)
  have e : 2 * 2 ^ ((κ : Int)).toNat + 1 = ((room κ : Nat) : Int) := by
    match κ, h with
    | 0, _ => rfl
    | 1, _ => rfl
    | 2, _ => rfl
    | 3, _ => rfl
  rwa [e] at k

theorem four (a : Value) (i : Nat) (hi : i < 4) : (#[a, a, a, a] : Array Value)[i]? = some a := by
  have : i = 0 ∨ i = 1 ∨ i = 2 ∨ i = 3 := by omega
  rcases this with rfl | rfl | rfl | rfl <;> rfl

end Go.Proofs.Ytocmkmeikcejjaa
