/- What MemPlays keeps of a memory, and the body of its loop. -/
import Derived.Test.YtmndmialhhbogaaStay
import Derived.Test.YtmndmialhhbogaaLow
import Derived.Test.YtmndmialhhbogaaLater
import Derived.Test.YtmndmialhhbogaaShapeActs
import Derived.Deep.DeepCutAuto
import Derived.Deep.CutBlock
import Derived.StillTailTactics
namespace Go.Proofs.Ytmndmialhhbogaa
open Go.RowKit

theorem low4 (n : Int) : ∃ k : Nat, bits .and .i64 n 15 = (k : Int) ∧ k < 16 := by
  have h := i64_low n 15 4 (by decide) (by decide)
  refine ⟨(n % 16).toNat, ?_, by omega⟩
  rw [h]
  omega

/-- the statement's own book: what it holds of the words, of when they were changed, and of the last step -/
structure Book (w : World) (BW BN BL : Nat) (s : Mm) : Prop where
  ws : w.rowIs BW 32 s.n (fun i => .int .u64 (s.wd i))
  ns : w.rowIs BN 3 s.n (fun i => .int .i64 (s.wn i))
  ls : w.heap[BL]? = some (.cells #[.int .i64 s.la, .int .i64 s.lw, .bool s.lc] 30 (0, 0))
  d1 : BW ≠ BN
  d2 : BW ≠ BL
  d3 : BN ≠ BL

namespace Book
variable {w w' : World} {BW BN BL : Nat} {s : Mm}

theorem of_blocks (h : Book w BW BN BL s) (e1 : w'.heap[BW]? = w.heap[BW]?) (e2 : w'.heap[BN]? = w.heap[BN]?) (e3 : w'.heap[BL]? = w.heap[BL]?) : Book w' BW BN BL s :=
  ⟨h.ws.of_block e1, h.ns.of_block e2, e3.trans h.ls, h.d1, h.d2, h.d3⟩

theorem only {S : Nat → Prop} (h : Book w BW BN BL s) (k : Only S w w') (h1 : ¬ S BW) (h2 : ¬ S BN) (h3 : ¬ S BL) : Book w' BW BN BL s :=
  h.of_blocks (k.block _ h.ws.lt h1) (k.block _ h.ns.lt h2) (k.block _ (blk_lt h.ls) h3)

theorem below (h : Book w BW BN BL s) (k : Below w.heap.size w w') : Book w' BW BN BL s :=
  h.of_blocks (k.block _ h.ws.lt) (k.block _ h.ns.lt) (k.block _ (blk_lt h.ls))

/-- behind a step at a by which the word stays -/
theorem same (h : Book w BW BN BL s) (a : Nat) (v : Int) (hv : s.wd a = v) :
    Book ((((w.setCell ⟨BW, a, none⟩ (.int .u64 v)).setCell ⟨BL, 0, none⟩ (.int .i64 a)).setCell ⟨BL, 1, none⟩ (.int .i64 s.who)).setCell ⟨BL, 2, none⟩ (.bool false)) BW BN BL (s.step a v) := by
  have d1 := h.d1
  have d2 := h.d2
  have d3 := h.d3
  have e : s.step a v = { s with steps := wrap64 (s.steps + 1), la := a, lw := s.who, lc := false } := by
    subst hv
    simp [Mm.step, upd_id]
  rw [e]
  refine ⟨?_, ?_, ?_, d1, d2, d3⟩
  · refine World.rowIs.setOther (World.rowIs.setOther (World.rowIs.setOther ((h.ws.set a (.int .u64 v)).congr fun i _ => ?_) (by simpa using d2) _) (by simpa using d2) _) (by simpa using d2) _
    by_cases hi : i = a
    · subst hi; simp [hv]
    · simp [hi]
  · exact World.rowIs.setOther (World.rowIs.setOther (World.rowIs.setOther (World.rowIs.setOther h.ns (by simpa using d1.symm) _) (by simpa using d3) _) (by simpa using d3) _) (by simpa using d3) _
  · have e1 : (w.setCell ⟨BW, a, none⟩ (.int .u64 v)).heap[BL]? = some (.cells #[.int .i64 s.la, .int .i64 s.lw, .bool s.lc] 30 (0, 0)) := by
      rw [Go.Deep.blk_setCell_other _ _ _ _ (by simpa using d2.symm)]; exact h.ls
    exact blk_setCell _ _ _ _ _ _ (blk_setCell _ _ _ _ _ _ (blk_setCell _ _ _ _ _ _ e1))

/-- behind a step at a by which the word is another one -/
theorem new (h : Book w BW BN BL s) (a : Nat) (v : Int) (hv : ¬ s.wd a = v) (hs : wrap64 (s.steps + 1) = s.steps + 1) :
    Book (((((w.setCell ⟨BW, a, none⟩ (.int .u64 v)).setCell ⟨BL, 0, none⟩ (.int .i64 a)).setCell ⟨BL, 1, none⟩ (.int .i64 s.who)).setCell ⟨BL, 2, none⟩ (.bool true)).setCell ⟨BN, a, none⟩ (.int .i64 (s.steps + 1))) BW BN BL (s.step a v) := by
  have d1 := h.d1
  have d2 := h.d2
  have d3 := h.d3
  have e : s.step a v = { s with wd := upd s.wd a v, wn := upd s.wn a (s.steps + 1), steps := s.steps + 1, la := a, lw := s.who, lc := true } := by
    simp [Mm.step, hv, hs]
  rw [e]
  refine ⟨?_, ?_, ?_, d1, d2, d3⟩
  · refine World.rowIs.setOther (World.rowIs.setOther (World.rowIs.setOther (World.rowIs.setOther ((h.ws.set a (.int .u64 v)).congr fun i _ => ?_) (by simpa using d2) _) (by simpa using d2) _) (by simpa using d2) _) (by simpa using d1) _
    show _ = Value.int .u64 (upd s.wd a v i)
    unfold upd; split <;> rfl
  · have r := World.rowIs.setOther (World.rowIs.setOther (World.rowIs.setOther (World.rowIs.setOther h.ns (a := ⟨BW, a, none⟩) (by simpa using d1.symm) (.int .u64 v)) (a := ⟨BL, 0, none⟩) (by simpa using d3) (.int .i64 a)) (a := ⟨BL, 1, none⟩) (by simpa using d3) (.int .i64 s.who)) (a := ⟨BL, 2, none⟩) (by simpa using d3) (.bool true)
    refine (r.set a (.int .i64 (s.steps + 1))).congr fun i _ => ?_
    show _ = Value.int .i64 (upd s.wn a (s.steps + 1) i)
    unfold upd; split <;> rfl
  · have e1 : (w.setCell ⟨BW, a, none⟩ (.int .u64 v)).heap[BL]? = some (.cells #[.int .i64 s.la, .int .i64 s.lw, .bool s.lc] 30 (0, 0)) := by
      rw [Go.Deep.blk_setCell_other _ _ _ _ (by simpa using d2.symm)]; exact h.ls
    rw [Go.Deep.blk_setCell_other _ _ _ _ (by simpa using d3.symm)]
    exact blk_setCell _ _ _ _ _ _ (blk_setCell _ _ _ _ _ _ (blk_setCell _ _ _ _ _ _ e1))

theorem born (K : Nat) (h1 : w.heap[BW]? = some (.cells (madeCells #[.int .u64 0] K) 32)) (h2 : w.heap[BN]? = some (.cells (madeCells #[.int .i64 0] K) 3)) (h3 : w.heap[BL]? = some (.cells #[.int .i64 0, .int .i64 0, .bool false] 30))
    (d1 : BW ≠ BN) (d2 : BW ≠ BL) (d3 : BN ≠ BL) : Book w BW BN BL (Mm.fresh K) :=
  ⟨⟨_, h1, size_madeCells _ _, fun i hi => by simp [madeCells, show i < K from hi, Nat.mod_one, Mm.fresh]⟩, ⟨_, h2, size_madeCells _ _, fun i hi => by simp [madeCells, show i < K from hi, Nat.mod_one, Mm.fresh]⟩, h3, d1, d2, d3⟩

end Book

theorem book_who {w : World} {BW BN BL : Nat} {s : Mm} (h : Book w BW BN BL s) (who : Int) : Book w BW BN BL { s with who := who } := ⟨h.ws, h.ns, h.ls, h.d1, h.d2, h.d3⟩

theorem touch_neq (x y : Int) (c : Bool) (w : World) :
    (binOp .neq 30 (.agg #[.int .i64 x, .int .i64 y, .bool c]) (.agg #[.int .i64 x, .int .i64 y, .bool c])).run Try.prog w = .ok (.bool false) w := by
  go_simp

theorem born3 (w : World) (A B C : Obj) : (((w.alloc A).alloc B).alloc C).drew.heap[w.heap.size]? = some A ∧ (((w.alloc A).alloc B).alloc C).drew.heap[w.heap.size + 1]? = some B ∧ (((w.alloc A).alloc B).alloc C).drew.heap[w.heap.size + 1 + 1]? = some C ∧
    Only (fun _ => False) w (((w.alloc A).alloc B).alloc C).drew := by
  refine ⟨?_, ?_, ?_, ((((Only.refl _ _).alloc _).alloc _).alloc _).drew⟩
  · show (((w.alloc A).alloc B).alloc C).heap[w.heap.size]? = some A
    rw [Go.Deep.blk_alloc_lt _ _ _ (by simp; omega), Go.Deep.blk_alloc_lt _ _ _ (by simp), Go.Deep.blk_alloc_new]
  · show (((w.alloc A).alloc B).alloc C).heap[w.heap.size + 1]? = some B
    rw [Go.Deep.blk_alloc_lt _ _ _ (by simp)]
    have := Go.Deep.blk_alloc_new (w.alloc A) B
    rwa [Go.Deep.nblk_alloc] at this
  · show (((w.alloc A).alloc B).alloc C).heap[w.heap.size + 1 + 1]? = some C
    have := Go.Deep.blk_alloc_new ((w.alloc A).alloc B) C
    rwa [Go.Deep.nblk_alloc, Go.Deep.nblk_alloc] at this

/-- a region that draws, whose last operation alone writes: one walk serves every order -/
theorem wp_region_tail {P : Program} {id : Nat} {Q : Exit → Act → World → Prop} {a : Act} {w : World} {l : List Oper} (n : Nat) (hm : P.follows .mixedOrders = true) (hB : Region.lexTailB .any l.toArray n = true)
    (h : wpStill P l.toArray w.drew (fun a' => wpList P l.toArray Q (l.drop n) a' w.drew) (l.take n) a) : (Code.region id l.toArray true).wp P Q a w :=
  wp_region_still_tail n hm hB h

/-- the first block of that number in a piece of code -/
def blockAt (n : Nat) : Code → Option Code
  | .block m c => if m = n then some (.block m c) else blockAt n c
  | .seq a b => match blockAt n a with
    | some c => some c
    | none => blockAt n b
  | .loop c => blockAt n c
  | .scope c => blockAt n c
  | .cond _ a b => match blockAt n a with
    | some c => some c
    | none => blockAt n b
  | _ => none

/-- the body of the loop of MemPlays -/
noncomputable def playBlock : Code := ((Try.f3.body.bind (blockAt 1)).getD .skip)

def headRegion : Code → Option Nat
  | .region id _ _ => some id
  | .seq a _ => headRegion a
  | _ => none

/-- what follows, from the region of that number on -/
def restAt (r : Nat) : Code → Option Code
  | .seq a b => if headRegion b = some r then some b else match restAt r a with
    | some c => some c
    | none => restAt r b
  | .block _ c => restAt r c
  | .loop c => restAt r c
  | .scope c => restAt r c
  | .cond _ a b => match restAt r a with
    | some c => some c
    | none => restAt r b
  | _ => none

/-- the end of that body: behind what is done -/
noncomputable def playTail : Code := ((Try.f3.body.bind (restAt 41)).getD .skip)

/-- what is known where the loop's body begins -/
structure PlayIn (w wr : World) (L : Loc) (s : Mm) (A : Acts) (b off n K BW BN BL k : Nat) : Prop where
  c0 : wr.cell? ⟨b, off + k * 5, none⟩ = some (.int .i64 (A.kind k))
  c1 : wr.cell? ⟨b, off + k * 5 + 1, none⟩ = some (.int .i64 (A.at_ k))
  c2 : wr.cell? ⟨b, off + k * 5 + 2, none⟩ = some (.int .i64 (A.who k))
  c3 : wr.cell? ⟨b, off + k * 5 + 3, none⟩ = some (.int .u64 (A.w k))
  c4 : wr.cell? ⟨b, off + k * 5 + 4, none⟩ = some (.bool (A.lie k))
  hs : MemAt wr L s
  hbk : Book wr BW BN BL s
  hsn : s.n = K
  hs0 : 0 ≤ s.steps
  hsk : s.steps ≤ k
  hk8 : k < 80
  hkn : k < n
  hK9 : K ≤ 16
  hb : Below w.heap.size w wr
  f1 : ∀ k, L.has k → w.heap.size ≤ k
  nW : ¬ L.has BW
  nN : ¬ L.has BN
  nL : ¬ L.has BL
  gW : w.heap.size ≤ BW
  gN : w.heap.size ≤ BN
  gL : w.heap.size ≤ BL

/-- what is known where it ends -/
def PlayOut (w W : World) (L : Loc) (BW BN BL K k : Nat) (x10 x11 : Value) : Prop :=
  ∃ s : Mm, x10 = .int .i64 s.steps ∧ x11 = .int .i64 s.who ∧ MemAt W L s ∧ Book W BW BN BL s ∧ s.n = K ∧ 0 ≤ s.steps ∧ s.steps ≤ ((k + 1 : Nat) : Int) ∧ Below w.heap.size w W

end Go.Proofs.Ytmndmialhhbogaa
