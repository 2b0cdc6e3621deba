/- What it comes to, to let one go of those that were made, by what is known of it. -/
import Derived.Test.YtbmiieaakbcncaaGreatDropTwo
namespace Go.Proofs.YtbmiieaakbcncaaGreat
open Go.RowKit

theorem pickL (z : Int) (N : Nat) (h0 : 1 ≤ N) : ∃ K : Nat, (z.tmod N + N).tmod N = (K : Int) ∧ K < N ∧ -(N : Int) < z.tmod N ∧ z.tmod N < N := by
  have h1 : -(N : Int) < z.tmod N := Int.lt_tmod_of_pos z (by omega)
  have h3 : z.tmod N < N := Int.tmod_lt_of_pos z (by omega)
  have h4 := Int.emod_nonneg (z.tmod N + N) (b := (N : Int)) (by omega)
  have h5 := Int.emod_lt_of_pos (z.tmod N + N) (b := (N : Int)) (by omega)
  exact ⟨((z.tmod N + N) % N).toNat, by rw [Int.tmod_eq_emod_of_nonneg (by omega)]; omega, by omega, h1, h3⟩

/-- no object lives by a handle that is of no object in that life -/
theorem Tame.deadB {t n k m nx : Nat} {q : Q} {gen : Nat → Nat} {ls : List Ox} {cg : Int} (C : Tame t n k m q nx gen ls) (hG : Good t n k m cg 600 3) (hn : n ≤ 65535) (cov : Cover n q ls) {x G : Nat} (hx : x < n) (h : ∀ o ∈ ls, ¬ (o.x = x ∧ o.g = G)) : (lifeB (q.sw x % 8) && decide (genOf (q.sw x) = G)) = false := by
  rcases cov x hx with hF | ⟨o, ho, rfl⟩
  · have e := C.sw x hF
    have b := (C.gb x hx).2
    have d := packS_dec (st := 0) (A := 0) (G := gen x) (V := 0) (by decide) (by decide) b (by decide)
    rw [e, show packS 0 0 (gen x : Int) 0 = packS ((0 : Nat) : Int) ((0 : Nat) : Int) (gen x) ((0 : Nat) : Int) from rfl, d.1]
    rfl
  · have I := C.is hG hn ho
    have : ¬ genOf (q.sw o.x) = G := fun e => h o ho ⟨rfl, by rw [← I.gn]; exact e⟩
    rw [decide_eq_false this, Bool.and_false]

/-- what becomes of it: the error, what is left, the lives, what lives -/
inductive Fate (q : Q) (gen : Nat → Nat) (ls : List Ox) (r : Rec) (own : Bool) : Int → Q → (Nat → Nat) → List Ox → Prop where
  | gone (l1 : List Ox) (o : Ox) (l2 : List Ox) (e : ls = l1 ++ o :: l2) (hx : o.x = r.x) (hg : o.g = r.g) (hz : o.Z = r.Z) (hl : r.live = true) (ho : r.own = own) : Fate q gen ls r own 0 (q.gone 100 o.x (q.sw o.x) o.Z o.i) (upd gen o.x (o.g + 1)) (l1 ++ l2)
  | dead (hl : r.live = false) : Fate q gen ls r own 3 q gen ls
  | other (hl : r.live = true) (ho : (r.own == own) = false) : Fate q gen ls r own 3 q gen ls

section
variable {w0 w : World} {L : Loc} {bE σ nx c K : Nat} {s : Mm} {q : Q} {gen : Nat → Nat} {ls : List Ox} {rs : List Rec} {r : Rec} {own : Bool}

theorem Farm.fate (f : Farm w0 w L bE 1 8 8 40 100 s σ q nx gen ls) (a : FarmApart w0 L bE 1 8 8 40 100) (B : Book 8 c q gen ls rs) (hc : c ≤ 60) (h : rs[K]? = some r) (hσ : σ + 200 < 1000000) : ∃ E0 q' gen' ls', Fate q gen ls r own E0 q' gen' ls' ∧ ∀ w1 : World, Farm w0 w1 L bE 1 8 8 40 100 s σ q nx gen ls →
    Calls Tryz.prog 14 #[.agg #[.int .i64 ((1 : Nat) : Int), .int .i64 ((8 : Nat) : Int), .int .i64 ((8 : Nat) : Int), .int .i64 ((40 : Nat) : Int), .int .i64 100, .int .i64 600, .int .i64 3, .pointer (some ⟨L.p, 0, none⟩), .int .i64 0], .int .u64 (packH r.x r.g), .bool own] w1 fun e w' => ∃ (st : Int) (s' : Mm) (σ' : Nat), e = .returned (.agg #[.int .i64 E0, .int .u64 0, .int .i64 0, .int .i64 st]) ∧ σ' ≤ σ + 40 ∧ Farm w0 w' L bE 1 8 8 40 100 s' σ' q' nx gen' ls' ∧ Only L.has w1 w' := by
  cases hl : r.live with
  | true =>
    obtain ⟨l1, o, l2, e, hx, hg, hz, how⟩ := B.find h hl
    by_cases ho : r.own = own
    · have hgb := B.gb o.x
      have hgn := f.tm.gn o (by rw [e]; simp)
      refine ⟨0, _, _, _, .gone l1 o l2 e hx hg hz hl ho, fun w1 f1 => ?_⟩
      subst e
      have G := f1.gone a (show ((o.g : Nat) : Int) < 100 by omega) hσ
      rw [hx, hg, how, ho] at G
      rw [hx, hg]
      exact G
    · refine ⟨3, q, gen, ls, .other hl (by simpa using ho), fun w1 f1 => ?_⟩
      have G := f1.other (own := own) a (o := o) (by rw [e]; simp) (by rw [how]; exact ho) hσ
      rw [hx, hg] at G
      refine G.mono ?_
      rintro e' w' ⟨st, s', h1, h2, h3, -⟩
      exact ⟨st, s', _, h1, by omega, h2, h3⟩
  | false =>
    have rg := B.rg K r h
    have x1 := rg.1
    refine ⟨3, q, gen, ls, .dead hl, fun w1 f1 => ?_⟩
    refine (f1.dead (own := own) a (handIs (x := r.x) (G := r.g) (by omega) rg.2.1 rg.2.2.1) rg.1 (f1.tm.deadB a.g (by decide) B.cov rg.1 (B.old f1.tm h hl)) hσ).mono ?_
    rintro e' w' ⟨st, s', h1, h2, h3, -⟩
    exact ⟨st, s', _, h1, by omega, h2, h3⟩
end

/-- the arena and the rows, while one is let go -/
def phShed (w0 : World) (L : Loc) (E : Nat) (s : Mm) (σ : Nat) (q : Q) (nx : Nat) (gen : Nat → Nat) (ls : List Ox) (rs : List Rec) (b1 c1 b2 c2 b3 c3 b4 c4 : Nat) (q' : Q) (gen' : Nat → Nat) (ls' : List Ox) : Nat → World → Prop
  | 0, w => Shed w0 w L E s σ q nx gen ls rs b1 c1 b2 c2 b3 c3 b4 c4
  | _, w => ∃ s' σ', σ' ≤ σ + 40 ∧ Shed w0 w L E s' σ' q' nx gen' ls' rs b1 c1 b2 c2 b3 c3 b4 c4

theorem phShed_grown (w0 : World) (L : Loc) (E : Nat) (s : Mm) (σ : Nat) (q : Q) (nx : Nat) (gen : Nat → Nat) (ls : List Ox) (rs : List Rec) (b1 c1 b2 c2 b3 c3 b4 c4 : Nat) (q' : Q) (gen' : Nat → Nat) (ls' : List Ox) (x y : World) (p : Nat) (g : Grown x y) (h : phShed w0 L E s σ q nx gen ls rs b1 c1 b2 c2 b3 c3 b4 c4 q' gen' ls' p x) : phShed w0 L E s σ q nx gen ls rs b1 c1 b2 c2 b3 c3 b4 c4 q' gen' ls' p y := by
  match p, h with
  | 0, h => exact Shed.grown h g
  | p + 1, ⟨s', σ', h1, h2⟩ => exact ⟨s', σ', h1, h2.grown g⟩

theorem Shed.setIn {w0 w : World} {L : Loc} {E : Nat} {s : Mm} {σ : Nat} {q : Q} {nx : Nat} {gen : Nat → Nat} {ls : List Ox} {rs : List Rec} {b1 c1 b2 c2 b3 c3 b4 c4 : Nat} (h : Shed w0 w L E s σ q nx gen ls rs b1 c1 b2 c2 b3 c3 b4 c4) {b : Nat} (hb : w0.heap.size ≤ b) (hbe : E ≠ b) (hl : ¬ L.has b) (hn : b1 ≠ b ∧ b2 ≠ b ∧ b3 ≠ b ∧ b4 ≠ b) (i : Nat) (v : Value) : Shed w0 (w.setCell ⟨b, i, none⟩ v) L E s σ q nx gen ls rs b1 c1 b2 c2 b3 c3 b4 c4 :=
  ⟨h.f.setIn hb hbe hl i v, h.r1.other hn.1 i v, h.r2.other hn.2.1 i v, h.r3.other hn.2.2.1 i v, h.r4.other hn.2.2.2 i v, h.ne, h.p, h.l, h.e⟩

/-- the words of one that was let go: its slot's, and the first free slot's -/
theorem Farm.after {w0 w : World} {L : Loc} {bE σ nx : Nat} {s : Mm} {q : Q} {gen : Nat → Nat} {l1 l2 : List Ox} {o : Ox} (f : Farm w0 w L bE 1 8 8 40 100 s σ (q.gone 100 o.x (q.sw o.x) o.Z o.i) nx (upd gen o.x (o.g + 1)) (l1 ++ l2)) (hx : o.x < 8) : s.wd (6 + 1 + o.x * 2) = packS 0 0 ((o.g + 1 : Nat) : Int) 0 ∧ ∃ c : Nat, c ≤ σ ∧ s.wd 1 = topw (o.x + 1) c := by
  have e1 := f.tw.swv o.x hx
  have e2 := f.tm.sw o.x (by simp [Q.gone])
  rw [upd_same] at e2
  exact ⟨e1.trans e2, _, f.tw.pile.cs, f.tw.pile.top⟩

theorem slotFree {G : Nat} (hG : G ≤ 65535) : Wd (packS 0 0 (G : Int) 0) ∧ SlotIs (packS 0 0 (G : Int) 0) 0 0 G 0 := by
  have dec := packS_dec (st := 0) (A := 0) (G := G) (V := 0) (by decide) (by decide) hG (by decide)
  have wv : Wd (packS ((0 : Nat) : Int) ((0 : Nat) : Int) G ((0 : Nat) : Int)) := packS_wd _ _ _ _
  have := slotIs _ wv
  rw [dec.1, dec.2.1, dec.2.2.1, dec.2.2.2] at this
  exact ⟨wv, this⟩

theorem sumTo_mono (f : Nat → Nat) {j k : Nat} (h : j ≤ k) : sumTo f j ≤ sumTo f k := by
  induction k with
  | zero =>
    obtain rfl : j = 0 := by omega
    exact Nat.le_refl _
  | succ k ih =>
    by_cases e : j = k + 1
    · rw [e]; exact Nat.le_refl _
    · exact Nat.le_trans (ih (by omega)) (Nat.le_add_right _ _)

end Go.Proofs.YtbmiieaakbcncaaGreat
