/- Objects that are made alone, in an arena of the statements: what each making comes to. -/
import Derived.Test.YtocmkmeikcejjaaAllocSolo
import Derived.Test.YtocmkmeikcejjaaPhaseTail
namespace Go.Proofs.Ytocmkmeikcejjaa
open Go.RowKit

/-- an arena, its objects, and who works in it, behind w0 -/
structure Camp (w0 w : World) (L : Loc) (bE t n k m : Nat) (s : Mm) (σ : Nat) (q : Q) (nx : Nat) : Prop where
  mm : MemAt w L s
  tw : Town t n k m s σ q
  cm : Calm t n k m q nx
  v : BoxV w bE t n k m 100 600 3 L.p 0
  b : Below w0.heap.size w0 w

theorem Got.same {k m κ : Nat} {bs : Nat → Nat} {y y' y1 : Y} {nx nx' nx1 : Nat} {τ' τ1 : Pl} (g : Got k m κ bs y nx y' nx' τ') (g1 : Got k m κ bs y nx y1 nx1 τ1) : y1 = y' ∧ nx1 = nx' ∧ τ1 = τ' := by
  cases g with
  | fit i h hu =>
    cases g1 with
    | fit j h' hu' => obtain rfl : i = j := by omega
                      exact ⟨rfl, rfl, rfl⟩
    | new hno _ => exact absurd hu (hno i h)
    | none hno _ => exact absurd hu (hno i h)
  | new hno hn =>
    cases g1 with
    | fit j h' hu' => exact absurd hu' (hno j h')
    | new _ _ => exact ⟨rfl, rfl, rfl⟩
    | none _ h => omega
  | none hno hn =>
    cases g1 with
    | fit j h' hu' => exact absurd hu' (hno j h')
    | new _ h => omega
    | none _ _ => exact ⟨rfl, rfl, rfl⟩

theorem class_fit {Z : Nat} (z2 : Z ≤ 16) : Fit (Z : Int) := ⟨by omega, by omega⟩

section
variable {w0 w w' : World} {L : Loc} {bE t n k m σ nx : Nat} {s : Mm} {q : Q} {own : Bool}

theorem Camp.grown (f : Camp w0 w L bE t n k m s σ q nx) (g : Below w.heap.size w w') : Camp w0 w' L bE t n k m s σ q nx := ⟨f.mm.below g, f.tw, f.cm, f.v.grown g, grow f.b g⟩
theorem Camp.drew (f : Camp w0 w L bE t n k m s σ q nx) : Camp w0 w.drew L bE t n k m s σ q nx := f.grown ((Below.refl _ _).drew)
theorem Camp.alloc (f : Camp w0 w L bE t n k m s σ q nx) (o : Obj) : Camp w0 (w.alloc o) L bE t n k m s σ q nx := f.grown (grow_alloc (Below.refl _ _) _)
theorem Camp.only {s' : Mm} {σ' : Nat} {q' : Q} {nx' : Nat} (f : Camp w0 w L bE t n k m s σ q nx) (a : PlotApart w0 L bE t n k m) (o : Only L.has w w') (mm : MemAt w' L s') (tw : Town t n k m s' σ' q') (cm : Calm t n k m q' nx') : Camp w0 w' L bE t n k m s' σ' q' nx' :=
  ⟨mm, tw, cm, f.v.only o a.e, mgrow f.b o a.l0⟩
theorem Camp.setIn (f : Camp w0 w L bE t n k m s σ q nx) {b : Nat} (hb : w0.heap.size ≤ b) (hbe : bE ≠ b) (hl : ¬ L.has b) (i : Nat) (v : Value) : Camp w0 (w.setCell ⟨b, i, none⟩ v) L bE t n k m s σ q nx :=
  ⟨f.mm.setIn hl i v, f.tw, f.cm, f.v.setIn hbe i v, below_setIn f.b hb i v⟩
theorem Camp.ltE (f : Camp w0 w L bE t n k m s σ q nx) : bE < w.heap.size := World.block_lt_of_cell? _ _ f.v.c0
theorem Camp.ltL (f : Camp w0 w L bE t n k m s σ q nx) : ¬ L.has w.heap.size := fun hh => by have := f.mm.lt _ hh; omega

theorem Camp.first {w0 w1 : World} {L : Loc} {t n k m : Nat} {s : Mm} {σ : Nat} {q : Q} {nx : Nat} (hG : Good t n k m 100 600 3) (mm : MemAt w1 L s) (tw : Town t n k m s σ q) (cm : Calm t n k m q nx) (b : Below w0.heap.size w0 w1) (f : ∀ k, L.has k → w0.heap.size ≤ k) :
    Camp w0 (w1.alloc (.cells #[.int .i64 t, .int .i64 n, .int .i64 k, .int .i64 m, .int .i64 100, .int .i64 600, .int .i64 3, .pointer (some ⟨L.p, 0, none⟩), .int .i64 0] 27)) L w1.heap.size t n k m s σ q nx ∧ PlotApart w0 L w1.heap.size t n k m :=
  ⟨⟨mm.alloc _, tw, cm, BoxV.new, grow_alloc b _⟩, ⟨f, fun hh => by have := mm.lt _ hh; omega, b.size, hG⟩⟩

/-- an object is made -/
theorem Camp.ok {Z κ x : Nat} {F : List Nat} {y' : Y} {nx' A i : Nat} (f : Camp w0 w L bE t n k m s σ q nx) (a : PlotApart w0 L bE t n k m) (z2 : Z ≤ 16) (kz : classOf Z = κ) (hκ : κ < 4) (hF : q.F = x :: F) (g : Got k m κ (base t n k m) q.y nx y' nx' (.won A i)) (hσ : σ + 400 < 1000000) :
    Calls Try.prog 7 #[.agg #[.int .i64 t, .int .i64 n, .int .i64 k, .int .i64 m, .int .i64 100, .int .i64 600, .int .i64 3, .pointer (some ⟨L.p, 0, none⟩), .int .i64 0], .int .i64 Z, .bool own] w fun e w' => ∃ (st : Nat) (s' : Mm) (σ' : Nat), e = .returned (.agg #[.int .i64 0, .int .u64 (packH x 1), .int .i64 0, .int .i64 st]) ∧ σ < st ∧ st < σ' ∧ σ' ≤ σ + 100 ∧ Camp w0 w' L bE t n k m s' σ' (q.made x F y' A i κ Z own) nx' ∧ Only L.has w w' := by
  obtain ⟨N, y1, nx1, τ1, hN, go, g1⟩ := alone_goes (bs := base t n k m) f.cm.al hκ a.g.n0 a.g.k0 a.g.k1
  obtain ⟨rfl, rfl, rfl⟩ := g.same g1
  have hk := a.g.k1
  have hg : genOf (q.sw x) = 1 := by rw [f.cm.sw x (by rw [hF]; simp)]; exact gen1
  have r := runs_made (z := (Z : Int)) (own := own) (σ := σ) hF go
  rw [hg] at r
  refine (make_goes f.mm f.tw a.g (class_fit z2) kz hκ hσ (N := N + 4 + 4) (by omega) r).mono ?_
  rintro e w' ⟨rfl, s', m', t', o'⟩
  exact ⟨_, s', _, rfl, by omega, by omega, by omega, f.only a o' m' t' (f.cm.made hκ a.g.n0 hF f.tw.pile.nd g), o'⟩

/-- there is no slot -/
theorem Camp.empty {Z κ : Nat} (f : Camp w0 w L bE t n k m s σ q nx) (a : PlotApart w0 L bE t n k m) (z2 : Z ≤ 16) (kz : classOf Z = κ) (hκ : κ < 4) (hF : q.F = []) (hσ : σ + 400 < 1000000) :
    Calls Try.prog 7 #[.agg #[.int .i64 t, .int .i64 n, .int .i64 k, .int .i64 m, .int .i64 100, .int .i64 600, .int .i64 3, .pointer (some ⟨L.p, 0, none⟩), .int .i64 0], .int .i64 Z, .bool own] w fun e w' => ∃ (st : Nat) (s' : Mm), e = .returned (.agg #[.int .i64 7, .int .u64 0, .int .i64 0, .int .i64 st]) ∧ Camp w0 w' L bE t n k m s' (σ + 1) q nx ∧ Only L.has w w' := by
  refine (make_goes (own := own) f.mm f.tw a.g (class_fit z2) kz hκ hσ (N := 1) (by omega) (runs_none hF)).mono ?_
  rintro e w' ⟨rfl, s', m', t', o'⟩
  exact ⟨_, s', rfl, f.only a o' m' t' f.cm, o'⟩

/-- there is no room -/
theorem Camp.full {Z κ x : Nat} {F : List Nat} {y' : Y} {nx' : Nat} (f : Camp w0 w L bE t n k m s σ q nx) (a : PlotApart w0 L bE t n k m) (z2 : Z ≤ 16) (kz : classOf Z = κ) (hκ : κ < 4) (hF : q.F = x :: F) (g : Got k m κ (base t n k m) q.y nx y' nx' .none) (hσ : σ + 400 < 1000000) :
    Calls Try.prog 7 #[.agg #[.int .i64 t, .int .i64 n, .int .i64 k, .int .i64 m, .int .i64 100, .int .i64 600, .int .i64 3, .pointer (some ⟨L.p, 0, none⟩), .int .i64 0], .int .i64 Z, .bool own] w fun e w' => ∃ (st : Nat) (s' : Mm) (σ' : Nat), e = .returned (.agg #[.int .i64 6, .int .u64 0, .int .i64 0, .int .i64 st]) ∧ σ' ≤ σ + 100 ∧ Camp w0 w' L bE t n k m s' σ' (q.back x F q.y) nx ∧ Only L.has w w' := by
  obtain ⟨N, y1, nx1, τ1, hN, go, g1⟩ := alone_goes (bs := base t n k m) f.cm.al hκ a.g.n0 a.g.k0 a.g.k1
  obtain ⟨rfl, rfl, rfl⟩ := g.same g1
  have hk := a.g.k1
  have hyy : y1 = q.y := by cases g; rfl
  subst hyy
  refine (make_goes (own := own) f.mm f.tw a.g (class_fit z2) kz hκ hσ (N := N + 3 + 4) (by omega) (runs_back hF go)).mono ?_
  rintro e w' ⟨rfl, s', m', t', o'⟩
  exact ⟨_, s', _, rfl, by omega, f.only a o' m' t' (f.cm.back hF), o'⟩

/-- a size of no class -/
theorem Camp.bad {z : Int} (f : Camp w0 w L bE t n k m s σ q nx) (a : PlotApart w0 L bE t n k m) (hz : classOf z < 0) :
    Calls Try.prog 7 #[.agg #[.int .i64 t, .int .i64 n, .int .i64 k, .int .i64 m, .int .i64 100, .int .i64 600, .int .i64 3, .pointer (some ⟨L.p, 0, none⟩), .int .i64 0], .int .i64 z, .bool own] w fun e w' => e = .returned (.agg #[.int .i64 5, .int .u64 0, .int .i64 0, .int .i64 σ]) ∧ Camp w0 w' L bE t n k m s σ q nx ∧ Only L.has w w' := by
  refine (make_bad (own := own) f.mm f.tw hz).mono ?_
  rintro e w' ⟨rfl, m', o'⟩
  exact ⟨rfl, f.only a o' m' f.tw f.cm, o'⟩

/-- the object that was made is sound -/
theorem Camp.sound {Z κ x : Nat} {F : List Nat} {y' : Y} {nx' A i : Nat} (cm : Calm t n k m q nx) (hx : x < n) (f : Camp w0 w L bE t n k m s σ (q.made x F y' A i κ Z own) nx') (a : PlotApart w0 L bE t n k m) (hn : n ≤ 65535) (hσ : σ ≤ 2000000) (z1 : 1 ≤ Z) (z2 : Z ≤ 16) (kz : classOf Z = κ) (hκ : κ < 4) (hF : q.F = x :: F) (g : Got k m κ (base t n k m) q.y nx y' nx' (.won A i)) :
    Calls Try.prog 9 #[.agg #[.int .i64 t, .int .i64 n, .int .i64 k, .int .i64 m, .int .i64 100, .int .i64 600, .int .i64 3, .pointer (some ⟨L.p, 0, none⟩), .int .i64 0], .int .u64 (packH x 1), .int .i64 Z, .bool own] w fun e w' => e = .returned (.bool true) ∧ Below w.heap.size w w' :=
  sound_any f.mm a.g hn f.tw.len hσ (cm.lives hκ a.g.n0 z1 z2 kz hF hx g f.tw)

end

theorem packH01 : packH ((0 : Nat) : Int) ((1 : Nat) : Int) = 65536 := packH_is 0 1 (by decide) (by decide)
theorem packH11 : packH ((1 : Nat) : Int) ((1 : Nat) : Int) = 65537 := packH_is 1 1 (by decide) (by decide)

theorem arena08 {t n k m : Nat} (hG : Good t n k m 100 600 3) (hn : n ≤ 65535) (w : World) :
    Calls Try.prog 4 #[.int .i64 t, .int .i64 n, .int .i64 k, .int .i64 m] w fun e w' => ∃ (L : Loc) (s : Mm), e = .returned (.tuple #[.agg #[.int .i64 t, .int .i64 n, .int .i64 k, .int .i64 m, .int .i64 100, .int .i64 600, .int .i64 3, .pointer (some ⟨L.p, 0, none⟩), .int .i64 0], .bool true]) ∧ MemAt w' L s ∧ Town t n k m s (1 + 2 * n) (Q.new n) ∧ Below w.heap.size w w' ∧ ∀ k, L.has k → w.heap.size ≤ k := by
  refine (arena04_any hG w).mono ?_
  rintro e w' ⟨L, rfl, m', b, f⟩
  exact ⟨L, _, rfl, m', town0 hG hn, b, f⟩

theorem runs_made' {t n k m κ : Nat} {z : Int} {own : Bool} {q : Q} {σ x : Nat} {F : List Nat} (h : q.F = x :: F) {N : Nat} {y' : Y} {a i : Nat} (g : Goes k m κ (base t n k m) N q.y .see y' (.won a i)) {G : Nat} (hG : genOf (q.sw x) = G) {H : Int} (hH : packH x G = H) {N' st : Nat} (hN : N' = N + 8) (hst : st = σ + N + 7) : Runs t n k m κ z own N' σ q (.take .idle) (q.made x F y' a i κ z own) (.over 0 H st) := by
  subst hG hH
  have r := runs_made (z := z) (own := own) (σ := σ) h g
  rwa [show N + 4 + 4 = N' by omega, show σ + 4 + N + 2 + 1 = st by omega] at r

/-- the chunks of the first object's arena, behind it -/
def y1 : Y := ⟨upd Y.new.ck 0 ⟨1, 0, room 0, (Y.new.ck 0).sp + 1⟩, upd Y.new.op 0 (0 + 1)⟩
theorem alone1 : Alone 2 y1 1 := Got.alone (κ := 0) (m := 20) (bs := fun _ => 0) (y' := y1) (nx' := 0 + 1) (alone0 2) (by decide) (.new (fun i h => by simp [Y.new] at h) (by decide))

/-- the first object's arena, behind the first one, behind the second one -/
def q1 : Q := (Q.new 4).made 0 [1, 2, 3] y1 (base 1 4 2 20 0) 0 0 2 false
def q2 : Q := q1.made 1 [2, 3] ⟨upd y1.ck 0 ⟨1, 0, (y1.ck 0).us + room 0, (y1.ck 0).sp⟩, y1.op⟩ (base 1 4 2 20 0 + (y1.ck 0).us) 0 0 2 true

theorem gen_q1 : genOf (q1.sw 1) = 1 := by
  have e : q1.sw 1 = (Q.new 4).sw 1 := upd_other (Q.new 4).sw 0 1 (packS 1 (base 1 4 2 20 0) (genOf ((Q.new 4).sw 0)) 0) (by decide)
  rw [e]; exact gen1

theorem run1 : Runs 1 4 2 20 0 2 false 15 9 (Q.new 4) (.take .idle) q1 (.over 0 65536 23) := by
  have g : Goes 2 20 0 (base 1 4 2 20) 7 Y.new .see y1 (.won (base 1 4 2 20 0) 0) :=
    .more (y1 := Y.new) (τ1 := .look 0 0) rfl (by simp [turn, Y.new, adv]) rfl (goes_take (y := Y.new) (nx := 0) (by decide) rfl rfl)
  exact runs_made' (q := Q.new 4) (x := 0) (F := [1, 2, 3]) rfl g gen1 packH01 (by decide) (by decide)

theorem run2 : Runs 1 4 2 20 0 2 true 11 24 q1 (.take .idle) q2 (.over 0 65537 34) :=
  runs_made' (q := q1) (x := 1) (F := [2, 3]) rfl (goes_fit (bs := base 1 4 2 20) (m := 20) alone1 (by decide) (i := 0) rfl (by decide)) gen_q1 packH11 (by decide) (by decide)

theorem make1 {w : World} {L : Loc} {s : Mm} (h : MemAt w L s) (hT : Town 1 4 2 20 s 9 (Q.new 4)) :
    Calls Try.prog 7 #[.agg #[.int .i64 1, .int .i64 4, .int .i64 2, .int .i64 20, .int .i64 100, .int .i64 600, .int .i64 3, .pointer (some ⟨L.p, 0, none⟩), .int .i64 0], .int .i64 2, .bool false] w fun e w' => e = .returned (.agg #[.int .i64 0, .int .u64 65536, .int .i64 0, .int .i64 23]) ∧ ∃ s', MemAt w' L s' ∧ Town 1 4 2 20 s' 24 q1 ∧ Only L.has w w' :=
  make_goes h hT (goodp (by omega) (by omega) (by omega) (by omega)) ⟨by decide, by decide⟩ (κ := 0) rfl (by decide) (by decide) (by decide) run1

theorem make2 {w : World} {L : Loc} {s : Mm} (h : MemAt w L s) (hT : Town 1 4 2 20 s 24 q1) :
    Calls Try.prog 7 #[.agg #[.int .i64 1, .int .i64 4, .int .i64 2, .int .i64 20, .int .i64 100, .int .i64 600, .int .i64 3, .pointer (some ⟨L.p, 0, none⟩), .int .i64 0], .int .i64 2, .bool true] w fun e w' => e = .returned (.agg #[.int .i64 0, .int .u64 65537, .int .i64 0, .int .i64 34]) ∧ ∃ s', MemAt w' L s' ∧ Town 1 4 2 20 s' 35 q2 ∧ Only L.has w w' :=
  make_goes h hT (goodp (by omega) (by omega) (by omega) (by omega)) ⟨by decide, by decide⟩ (κ := 0) rfl (by decide) (by decide) (by decide) run2

end Go.Proofs.Ytocmkmeikcejjaa
