/- An arena, and who works in it, as it lies in memory (package layout's Env). -/
import Derived.Test.YtocmkmeikcejjaaLayFresh
import Derived.Test.YtocmkmeikcejjaaLayEnv
namespace Go.Proofs.Ytocmkmeikcejjaa
open Go.RowKit

/-- an arena, and who works in it, as it was laid -/
structure BoxV (w : World) (b : Nat) (c0 c1 c2 c3 c4 c5 c6 : Int) (P : Nat) (who : Int) : Prop where
  c0 : w.cell? ⟨b, 0, none⟩ = some (.int .i64 c0)
  c1 : w.cell? ⟨b, 1, none⟩ = some (.int .i64 c1)
  c2 : w.cell? ⟨b, 2, none⟩ = some (.int .i64 c2)
  c3 : w.cell? ⟨b, 3, none⟩ = some (.int .i64 c3)
  c4 : w.cell? ⟨b, 4, none⟩ = some (.int .i64 c4)
  c5 : w.cell? ⟨b, 5, none⟩ = some (.int .i64 c5)
  c6 : w.cell? ⟨b, 6, none⟩ = some (.int .i64 c6)
  c7 : w.cell? ⟨b, 7, none⟩ = some (.pointer (some ⟨P, 0, none⟩))
  c8 : w.cell? ⟨b, 8, none⟩ = some (.int .i64 who)

section
variable {w w' : World} {b P : Nat} {c0 c1 c2 c3 c4 c5 c6 who : Int}

theorem BoxV.new {T : TypeId} : BoxV (w.alloc (.cells #[.int .i64 c0, .int .i64 c1, .int .i64 c2, .int .i64 c3, .int .i64 c4, .int .i64 c5, .int .i64 c6, .pointer (some ⟨P, 0, none⟩), .int .i64 who] T)) w.heap.size c0 c1 c2 c3 c4 c5 c6 P who := by
  constructor <;> simp

theorem BoxV.grown (h : BoxV w b c0 c1 c2 c3 c4 c5 c6 P who) (g : Below w.heap.size w w') : BoxV w' b c0 c1 c2 c3 c4 c5 c6 P who :=
  ⟨keep' g h.c0, keep' g h.c1, keep' g h.c2, keep' g h.c3, keep' g h.c4, keep' g h.c5, keep' g h.c6, keep' g h.c7, keep' g h.c8⟩

theorem BoxV.only {S : Nat → Prop} (h : BoxV w b c0 c1 c2 c3 c4 c5 c6 P who) (o : Only S w w') (hs : ¬ S b) : BoxV w' b c0 c1 c2 c3 c4 c5 c6 P who :=
  ⟨o.keep hs h.c0, o.keep hs h.c1, o.keep hs h.c2, o.keep hs h.c3, o.keep hs h.c4, o.keep hs h.c5, o.keep hs h.c6, o.keep hs h.c7, o.keep hs h.c8⟩

end

/-- a memory's blocks, and one more -/
def Loc.and (L : Loc) (b k : Nat) : Prop := L.has k ∨ k = b

theorem Loc.and_has {L : Loc} {b : Nat} {w w' : World} (h : Only L.has w w') : Only (L.and b) w w' := h.mono fun _ _ k => Or.inl k

theorem MemAt.and {w w' : World} {L : Loc} {s : Mm} {b : Nat} (h : MemAt w L s) (hb : ¬ L.has b) (o : Only (fun k => k = b) w w') : MemAt w' L s :=
  h.only o fun _ hi e => hb (e ▸ hi)

end Go.Proofs.Ytocmkmeikcejjaa
