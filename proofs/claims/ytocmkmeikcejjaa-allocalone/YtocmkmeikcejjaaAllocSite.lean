/- An arena of the statements in which some make objects, step by step. -/
import Derived.Test.YtocmkmeikcejjaaAllocAwake
namespace Go.Proofs.Ytocmkmeikcejjaa
open Go.RowKit

/-- an arena, its words, and who works in it, behind w0 -/
structure Site (w0 w : World) (L : Loc) (bE t n k m : Nat) (s : Mm) (σ : Nat) (q : Q) : Prop where
  mm : MemAt w L s
  tw : Town t n k m s σ q
  v : BoxV w bE t n k m 100 600 3 L.p 0
  b : Below w0.heap.size w0 w

/-- one who makes an object, in a block of its own -/
structure Maker (w : World) (B : Nat) (z : Int) (own : Bool) (κ : Nat) (α : Al) : Prop where
  ex : ∃ cs a, AlAt w B 0 83 cs a ∧ AlIs z own κ α a

section
variable {w0 w w' : World} {L : Loc} {bE t n k m σ : Nat} {s : Mm} {q : Q} {z : Int} {own : Bool} {κ B : Nat} {α : Al}

theorem Site.grown (f : Site w0 w L bE t n k m s σ q) (g : Below w.heap.size w w') : Site w0 w' L bE t n k m s σ q := ⟨f.mm.below g, f.tw, f.v.grown g, grow f.b g⟩
theorem Site.drew (f : Site w0 w L bE t n k m s σ q) : Site w0 w.drew L bE t n k m s σ q := f.grown ((Below.refl _ _).drew)
theorem Site.alloc (f : Site w0 w L bE t n k m s σ q) (o : Obj) : Site w0 (w.alloc o) L bE t n k m s σ q := f.grown (grow_alloc (Below.refl _ _) _)
theorem Site.only {s' : Mm} {σ' : Nat} {q' : Q} {b : Nat} (f : Site w0 w L bE t n k m s σ q) (a : PlotApart w0 L bE t n k m) (hb : w0.heap.size ≤ b) (hbe : bE ≠ b) (o : Only (L.and b) w w') (mm : MemAt w' L s') (tw : Town t n k m s' σ' q') : Site w0 w' L bE t n k m s' σ' q' :=
  ⟨mm, tw, f.v.only o (fun hh => hh.elim a.e hbe), f.b.trans (o.below f.b.size (fun k hk hh => by
    rcases hh with hh | hh
    · have := a.l0 k hh; omega
    · omega))⟩
theorem Site.setIn (f : Site w0 w L bE t n k m s σ q) {b : Nat} (hb : w0.heap.size ≤ b) (hbe : bE ≠ b) (hl : ¬ L.has b) (i : Nat) (v : Value) : Site w0 (w.setCell ⟨b, i, none⟩ v) L bE t n k m s σ q :=
  ⟨f.mm.setIn hl i v, f.tw, f.v.setIn hbe i v, below_setIn f.b hb i v⟩
theorem Site.ltE (f : Site w0 w L bE t n k m s σ q) : bE < w.heap.size := World.block_lt_of_cell? _ _ f.v.c0
theorem Site.ltL (f : Site w0 w L bE t n k m s σ q) : ¬ L.has w.heap.size := fun hh => by have := f.mm.lt _ hh; omega
theorem Camp.site {nx : Nat} (f : Camp w0 w L bE t n k m s σ q nx) : Site w0 w L bE t n k m s σ q := ⟨f.mm, f.tw, f.v, f.b⟩
theorem Site.now (f : Site w0 w L bE t n k m s σ q) (x : Nat) (hx : σ = x) :
    Calls Try.prog 58 #[.agg #[.int .i64 t, .int .i64 n, .int .i64 k, .int .i64 m, .int .i64 100, .int .i64 600, .int .i64 3, .pointer (some ⟨L.p, 0, none⟩), .int .i64 0]] w fun e w' => e = .returned (.int .i64 x) ∧ Below w.heap.size w w' := now_any f.mm _ _ _ _ _ _ _ _ x (by rw [f.tw.pile.st, hx])

theorem Maker.lt (h : Maker w B z own κ α) : B < w.heap.size := by obtain ⟨_, _, i, _⟩ := h.ex; exact i.lt
theorem Maker.of_block (h : Maker w B z own κ α) (e : w'.heap[B]? = w.heap[B]?) : Maker w' B z own κ α := by
  obtain ⟨cs, a, i, j⟩ := h.ex
  exact ⟨cs, a, i.of_block e, j⟩
theorem Maker.grown (h : Maker w B z own κ α) (g : Below w.heap.size w w') : Maker w' B z own κ α := h.of_block (g.block _ h.lt)
theorem Maker.only {S : Nat → Prop} (h : Maker w B z own κ α) (g : Only S w w') (hs : ¬ S B) : Maker w' B z own κ α := h.of_block (g.block _ h.lt hs)
theorem Maker.other (h : Maker w B z own κ α) {b : Nat} (hb : B ≠ b) (i : Nat) (v : Value) : Maker (w.setCell ⟨b, i, none⟩ v) B z own κ α := h.of_block (Go.Deep.blk_setCell_other _ _ _ _ (by simpa using hb))
theorem maker0 (z : Int) (own : Bool) (κ : Nat) (w : World) : Maker (w.alloc (alloc0 z own)) w.heap.size z own κ (.take .idle) := by
  obtain ⟨cs, i⟩ := alloc0_at z own w
  exact ⟨cs, _, i, al0_is z own κ⟩

/-- a step of one who makes an object, in the arena -/
theorem Site.step (f : Site w0 w L bE t n k m s σ q) (a : PlotApart w0 L bE t n k m) (hB : ¬ L.has B) (hbe : bE ≠ B) (hb0 : w0.heap.size ≤ B) (hσ : σ < 1000000) (fz : Fit z) (hz : classOf z = κ) (hκ : κ < 4) (hi : Maker w B z own κ α) (hg : α.good t n k m κ σ q) (ho : α.over? = false) (q' : Q) (α' : Al) (hq : alTurn t n k m κ z own σ q α = (q', α')) (d : Bool) (hd : α'.over? = d) :
    Calls Try.prog 14 #[.pointer (some ⟨B, 0, none⟩), .agg #[.int .i64 t, .int .i64 n, .int .i64 k, .int .i64 m, .int .i64 100, .int .i64 600, .int .i64 3, .pointer (some ⟨L.p, 0, none⟩), .int .i64 0]] w fun e w' => e = .returned (.bool d) ∧ ∃ s', Site w0 w' L bE t n k m s' (σ + 1) q' ∧ Maker w' B z own κ α' ∧ α'.good t n k m κ (σ + 1) q' ∧ Only (L.and B) w w' ∧ ∃ v, s' = (s.by 0).step (α.at t n κ) v := by
  obtain ⟨cs, av, i, is1⟩ := hi.ex
  refine (alloc_step f.mm hB f.tw a.g hσ fz hz hκ α i is1 hg ho 0 q' α' hq d hd).mono ?_
  rintro e w' ⟨rfl, s', cs', a', P⟩
  exact ⟨rfl, s', f.only a hb0 hbe P.only P.mm P.tw, ⟨cs', a', P.al, P.is⟩, P.good, P.only, P.st⟩

/-- what it came to -/
theorem Maker.done {E H : Int} {st : Nat} (hi : Maker w B z own κ (.over E H st)) :
    Calls Try.prog 15 #[.pointer (some ⟨B, 0, none⟩)] w fun e w' => e = .returned (.agg #[.int .i64 E, .int .u64 H, .int .i64 0, .int .i64 st]) ∧ Below w.heap.size w w' := by
  obtain ⟨cs, av, i, is1⟩ := hi.ex
  obtain ⟨c1, c2, c3, c4⟩ := is1.cm
  have h := adone_over i is1.nx
  rwa [c1, c2, c3, c4] at h

/-- a step of one whose size is of no class -/
theorem Site.stepBad (f : Site w0 w L bE t n k m s σ q) (a : PlotApart w0 L bE t n k m) (hB : ¬ L.has B) (hbe : bE ≠ B) (hb0 : w0.heap.size ≤ B) (hz : classOf z < 0) (hi : Maker w B z own κ (.take .idle)) :
    Calls Try.prog 14 #[.pointer (some ⟨B, 0, none⟩), .agg #[.int .i64 t, .int .i64 n, .int .i64 k, .int .i64 m, .int .i64 100, .int .i64 600, .int .i64 3, .pointer (some ⟨L.p, 0, none⟩), .int .i64 0]] w fun e w' => e = .returned (.bool true) ∧ Site w0 w' L bE t n k m s σ q ∧ Maker w' B z own κ (.over 5 0 σ) ∧ Only (L.and B) w w' := by
  obtain ⟨cs, av, i, is1⟩ := hi.ex
  have hz' : classOf av.sz < 0 := by rw [is1.sz]; exact hz
  refine (astep_take (g := 100) (p := 600) (r := 3) f.mm i 0 is1.nx (fun s' a' => s' = s ∧ a' = { av with nx := 8, E := 5, H := 0, V := 0, St := σ }) true (by rintro s' a' ⟨-, rfl⟩; rfl) (fun w1 m1 i1 => atake_bad m1 hB i1 0 hz' σ f.tw.pile.st)).mono ?_
  rintro e w' ⟨rfl, s', cs', a', m', o', i', sm, rfl, rfl⟩
  exact ⟨rfl, f.only a hb0 hbe o' m' f.tw, ⟨cs', _, i', ⟨rfl, is1.sz, is1.ow, trivial, trivial, trivial, trivial, trivial, rfl, rfl, rfl, rfl⟩⟩, o'⟩

end

theorem class_of {Z : Nat} (z1 : 1 ≤ Z) (z2 : Z ≤ 16) : ∃ κ : Nat, classOf Z = κ ∧ κ < 4 := by
  unfold classOf
  rw [if_neg (by omega)]
  by_cases h2 : (Z : Int) ≤ 2
  · exact ⟨0, by rw [if_pos h2]; rfl, by omega⟩
  · rw [if_neg h2]
    by_cases h4 : (Z : Int) ≤ 4
    · exact ⟨1, by rw [if_pos h4]; rfl, by omega⟩
    · rw [if_neg h4]
      by_cases h8 : (Z : Int) ≤ 8
      · exact ⟨2, by rw [if_pos h8]; rfl, by omega⟩
      · rw [if_neg h8]
        exact ⟨3, by rw [if_pos (by omega)]; rfl, by omega⟩

end Go.Proofs.Ytocmkmeikcejjaa
