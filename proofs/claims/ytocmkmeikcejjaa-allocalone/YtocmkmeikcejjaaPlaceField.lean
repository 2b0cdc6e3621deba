/- An arena in which words are wanted: one who wants words, in it; what a whole run of one alone comes to. -/
import Derived.Test.YtocmkmeikcejjaaPlaceTurn
import Derived.Test.YtocmkmeikcejjaaArena04
namespace Go.Proofs.Ytocmkmeikcejjaa
open Go.RowKit

/-- an arena, its chunks, and who works in it, behind w0 -/
structure Plot (w0 w : World) (L : Loc) (bE t n k m : Nat) (s : Mm) (σ : Nat) (y : Y) : Prop where
  mm : MemAt w L s
  yd : Yard t n k m s σ y
  v : BoxV w bE t n k m 100 600 3 L.p 0
  b : Below w0.heap.size w0 w

structure PlotApart (w0 : World) (L : Loc) (bE t n k m : Nat) : Prop where
  l0 : ∀ k, L.has k → w0.heap.size ≤ k
  e : ¬ L.has bE
  e0 : w0.heap.size ≤ bE
  g : Good t n k m 100 600 3

section
variable {w0 w w' : World} {L : Loc} {bE t n k m σ : Nat} {s : Mm} {y : Y}

theorem Plot.grown (f : Plot w0 w L bE t n k m s σ y) (g : Below w.heap.size w w') : Plot w0 w' L bE t n k m s σ y := ⟨f.mm.below g, f.yd, f.v.grown g, grow f.b g⟩
theorem Plot.drew (f : Plot w0 w L bE t n k m s σ y) : Plot w0 w.drew L bE t n k m s σ y := f.grown ((Below.refl _ _).drew)
theorem Plot.alloc (f : Plot w0 w L bE t n k m s σ y) (o : Obj) : Plot w0 (w.alloc o) L bE t n k m s σ y := f.grown (grow_alloc (Below.refl _ _) _)

theorem Plot.only {s' : Mm} {σ' : Nat} {y' : Y} {b : Nat} (f : Plot w0 w L bE t n k m s σ y) (a : PlotApart w0 L bE t n k m) (hb : w0.heap.size ≤ b) (hbe : bE ≠ b) (o : Only (L.and b) w w') (mm : MemAt w' L s') (yd : Yard t n k m s' σ' y') : Plot w0 w' L bE t n k m s' σ' y' :=
  ⟨mm, yd, f.v.only o (fun hh => hh.elim a.e hbe), f.b.trans (o.below f.b.size (fun k hk hh => by
    rcases hh with hh | hh
    · have := a.l0 k hh; omega
    · omega))⟩

theorem Plot.only0 {s' : Mm} {σ' : Nat} {y' : Y} (f : Plot w0 w L bE t n k m s σ y) (a : PlotApart w0 L bE t n k m) (o : Only L.has w w') (mm : MemAt w' L s') (yd : Yard t n k m s' σ' y') : Plot w0 w' L bE t n k m s' σ' y' :=
  ⟨mm, yd, f.v.only o a.e, mgrow f.b o a.l0⟩

theorem Plot.setIn (f : Plot w0 w L bE t n k m s σ y) {b : Nat} (hb : w0.heap.size ≤ b) (hbe : bE ≠ b) (hl : ¬ L.has b) (i : Nat) (v : Value) : Plot w0 (w.setCell ⟨b, i, none⟩ v) L bE t n k m s σ y :=
  ⟨f.mm.setIn hl i v, f.yd, f.v.setIn hbe i v, below_setIn f.b hb i v⟩

theorem Plot.now (f : Plot w0 w L bE t n k m s σ y) (x : Nat) (hx : σ = x) :
    Calls Try.prog 58 #[.agg #[.int .i64 t, .int .i64 n, .int .i64 k, .int .i64 m, .int .i64 100, .int .i64 600, .int .i64 3, .pointer (some ⟨L.p, 0, none⟩), .int .i64 0]] w fun e w' => e = .returned (.int .i64 x) ∧ Below w.heap.size w w' := now_any f.mm _ _ _ _ _ _ _ _ x (by rw [f.yd.st, hx])

theorem Plot.ltE (f : Plot w0 w L bE t n k m s σ y) : bE < w.heap.size := World.block_lt_of_cell? _ _ f.v.c0
theorem Plot.ltL (f : Plot w0 w L bE t n k m s σ y) : ¬ L.has w.heap.size := fun hh => by have := f.mm.lt _ hh; omega

/-- a step of one who wants words, in the arena -/
theorem Plot.step {B κ : Nat} {cs : Array Value} {τ : Pl} (f : Plot w0 w L bE t n k m s σ y) (a : PlotApart w0 L bE t n k m) (hB : ¬ L.has B) (hbe : bE ≠ B) (hb0 : w0.heap.size ≤ B) (hσ : σ < 1000000) (hκ : κ < 4) (hi : PlAt w B 0 79 cs κ τ) (hg : τ.good k m κ σ) (ho : τ.over = false) (y' : Y) (τ' : Pl) (ht : turn k m κ (base t n k m) y τ = (y', τ')) (d : Bool) (hd : τ'.over = d) :
    Calls Try.prog 50 #[.pointer (some ⟨B, 0, none⟩), .agg #[.int .i64 t, .int .i64 n, .int .i64 k, .int .i64 m, .int .i64 100, .int .i64 600, .int .i64 3, .pointer (some ⟨L.p, 0, none⟩), .int .i64 0]] w fun e w' => e = .returned (.bool d) ∧ ∃ s' cs', Plot w0 w' L bE t n k m s' (σ + 1) y' ∧ PlAt w' B 0 79 cs' κ τ' ∧ τ'.good k m κ (σ + 1) ∧ Only (L.and B) w w' ∧ Kept t n k s s' ∧ s'.la = ((τ.at t n κ : Nat) : Int) := by
  refine (place_step f.mm hB f.yd a.g hσ hκ τ hi hg ho 0).mono ?_
  rw [ht]
  rintro e w' ⟨s', cs', rfl, P⟩
  exact ⟨by rw [hd], s', cs', f.only a hb0 hbe P.only P.mm P.yd, P.a, P.good, P.only, P.kept, P.la⟩

/-- what is told of one who wants words: where, in which chunk, and whether -/
def Pl.told : Pl → Nat × Nat × Bool
  | .won a i => (a, i, true)
  | _ => (0, 0, false)

theorem spot_any {b o : Nat} {T : TypeId} {cs : Array Value} {κ : Nat} {τ : Pl} (hi : PlAt w b o T cs κ τ) (a i : Nat) (d : Bool) (ht : τ.told = (a, i, d)) :
    Calls Try.prog 51 #[.pointer (some ⟨b, o, none⟩)] w fun e w' => e = .returned (.tuple #[.agg #[.int .i64 a, .int .i64 i], .bool d]) ∧ Below w.heap.size w w' := by
  obtain ⟨l, ha, hl⟩ := hi
  by_cases hw : ∃ x j, τ = .won x j
  · obtain ⟨x, j, rfl⟩ := hw
    obtain ⟨rfl, rfl, rfl⟩ : x = a ∧ j = i ∧ true = d := by simpa [Pl.told] using ht
    obtain ⟨sn, ch, ws, rfl⟩ := hl
    have i1 := ha.grown (grow_alloc (Below.refl _ _) (.cells #[.int .i64 0, .int .i64 0] 77))
    have k0 := i1.cell0 rfl
    have k5 := i1.cell 5 rfl
    have k6 := i1.cell 6 rfl
    go_enter Try.func51, Try.ntmps51
    go_wp2
    refine bodyPost_ret (v := .tuple #[.agg #[.int .i64 x, .int .i64 j], .bool true]) (by simp [results, Try.results51, go_sem]) rfl ?_
    exact ⟨rfl, grow_alloc (Below.refl _ _) _⟩
  · have hn : ∃ nx : Int, (nx != 7) = true ∧ ∃ sn ch ws sa sb, l = PlV nx κ sn ch ws sa sb := by
      cases τ with
      | see => obtain ⟨sn, ch, ws, sa, sb, rfl⟩ := hl; exact ⟨0, rfl, sn, ch, ws, sa, sb, rfl⟩
      | ask i => obtain ⟨ws, sa, sb, rfl⟩ := hl; exact ⟨1, rfl, _, _, _, _, _, rfl⟩
      | grow i c => obtain ⟨sn, sa, sb, rfl⟩ := hl; exact ⟨2, rfl, _, _, _, _, _, rfl⟩
      | look sn i => obtain ⟨ws, sa, sb, rfl⟩ := hl; exact ⟨3, rfl, _, _, _, _, _, rfl⟩
      | take sn i c => obtain ⟨sa, sb, rfl⟩ := hl; exact ⟨4, rfl, _, _, _, _, _, rfl⟩
      | opn sn i c => obtain ⟨sa, sb, rfl⟩ := hl; exact ⟨5, rfl, _, _, _, _, _, rfl⟩
      | fre sn i c => obtain ⟨sa, sb, rfl⟩ := hl; exact ⟨6, rfl, _, _, _, _, _, rfl⟩
      | won x j => exact absurd ⟨x, j, rfl⟩ hw
      | none => obtain ⟨sn, ch, ws, sa, sb, rfl⟩ := hl; exact ⟨8, rfl, _, _, _, _, _, rfl⟩
    have ht' : τ.told = (0, 0, false) := by
      cases τ with
      | won x j => exact absurd ⟨x, j, rfl⟩ hw
      | _ => rfl
    rw [ht'] at ht
    obtain ⟨rfl, rfl, rfl⟩ : 0 = a ∧ 0 = i ∧ false = d := by simpa using ht
    obtain ⟨nx, hnx, sn, ch, ws, sa, sb, rfl⟩ := hn
    clear ht ht' hw hl
    have i1 := ha.grown (grow_alloc (Below.refl _ _) (.cells #[.int .i64 0, .int .i64 0] 77))
    have k0 := i1.cell0 rfl
    go_enter Try.func51, Try.ntmps51
    go_wp2
    refine bodyPost_ret (v := .tuple #[.agg #[.int .i64 0, .int .i64 0], .bool false]) (by simp [results, Try.results51, go_sem]) rfl ?_
    exact ⟨rfl, grow_alloc (Below.refl _ _) _⟩

theorem spot_nobody (w : World) :
    Calls Try.prog 51 #[.pointer none] w fun e w' => e = .returned (.tuple #[.agg #[.int .i64 0, .int .i64 0], .bool false]) ∧ Below w.heap.size w w' := by
  go_enter Try.func51, Try.ntmps51
  go_wp2
  refine bodyPost_ret (v := .tuple #[.agg #[.int .i64 0, .int .i64 0], .bool false]) (by simp [results, Try.results51, go_sem]) rfl ?_
  exact ⟨rfl, grow_alloc (Below.refl _ _) _⟩

/-- one who begins -/
def place0 (κ : Nat) : Obj := .cells #[.int .i64 0, .int .i64 κ, .int .u64 0, .int .i64 0, .int .u64 0, .int .i64 0, .int .i64 0] 79

theorem newPlace_any (κ : Nat) (w : World) :
    Calls Try.prog 49 #[.int .i64 κ] w fun e w' => e = .returned (.pointer (some ⟨w.heap.size, 0, none⟩)) ∧ w' = w.alloc (place0 κ) := by
  unfold place0
  go_enter Try.func49, Try.ntmps49
  go_wp2
  go_ret
  exact ⟨rfl, rfl⟩

theorem place0_at (κ : Nat) (w : World) : PlAt (w.alloc (place0 κ)) w.heap.size 0 79 #[.int .i64 0, .int .i64 κ, .int .u64 0, .int .i64 0, .int .u64 0, .int .i64 0, .int .i64 0] κ .see :=
  ⟨PlV 0 κ 0 0 0 0 0, At.new w _ (PlV 0 κ 0 0 0 0 0), 0, 0, 0, 0, 0, rfl⟩

end

/-- alone: so many steps, the last of which ends it -/
inductive Goes (k m κ : Nat) (bs : Nat → Nat) : Nat → Y → Pl → Y → Pl → Prop where
  | one {y : Y} {τ : Pl} {y' : Y} {τ' : Pl} (ho : τ.over = false) (ht : turn k m κ bs y τ = (y', τ')) (h : τ'.over = true) : Goes k m κ bs 1 y τ y' τ'
  | more {N : Nat} {y : Y} {τ : Pl} {y1 : Y} {τ1 : Pl} {y' : Y} {τ' : Pl} (ho : τ.over = false) (ht : turn k m κ bs y τ = (y1, τ1)) (h : τ1.over = false) (g : Goes k m κ bs N y1 τ1 y' τ') : Goes k m κ bs (N + 1) y τ y' τ'

theorem Goes.pos {k m κ : Nat} {bs : Nat → Nat} {N : Nat} {y : Y} {τ : Pl} {y' : Y} {τ' : Pl} (g : Goes k m κ bs N y τ y' τ') : 1 ≤ N := by
  cases g <;> omega

end Go.Proofs.Ytocmkmeikcejjaa
