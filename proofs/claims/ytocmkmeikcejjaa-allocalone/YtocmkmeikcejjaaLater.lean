/- A region that draws its order, whose operations only read and whose callees leave what was there as it was: one walk in the order of the text serves every order. -/
import Derived.Test.YtocmkmeikcejjaaOnly
import Derived.Deep.RegionWith
namespace Go.Proofs.Ytocmkmeikcejjaa
open Go.RowKit

/-- a world that came out of w, with all that was there -/
structure Later (w : World) where
  now : World
  below : Below w.heap.size w now

theorem Later.exists (w : World) : Nonempty (Later w) := ⟨⟨w, Below.refl _ _⟩⟩

theorem wp_region_later {P : Program} {id : Nat} {Q : Exit → Act → World → Prop} {a : Act} {w : World} {l : List Oper} (hm : P.follows .mixedOrders = true) (hB : Region.lexB .any l.toArray = true)
    (h : wpQuiet P l.toArray (fun w' => ∃ n : Later w, w' = n.now) (fun a' => ∀ w', (∃ n : Later w, w' = n.now) → Q .normal a' w') l a) : (Code.region id l.toArray true).wp P Q a w :=
  wp_region_quiet (C := fun w' => ∃ n : Later w, w' = n.now) hm hB ⟨⟨_, (Below.refl _ _).drew⟩, rfl⟩ (by simpa using h)

theorem Calls.later {P : Program} {f : FuncId} {args : Array Value} {w : World} {n : Later w} {v : Value}
    (h : Calls P f args n.now fun e w' => e = .returned v ∧ Below n.now.heap.size n.now w') : Calls P f args n.now fun e w' => e = .returned v ∧ ∃ m : Later w, w' = m.now :=
  h.mono fun _ w' ⟨he, hw⟩ => ⟨he, ⟨w', grow n.below hw⟩, rfl⟩

theorem Calls.later_same {P : Program} {f : FuncId} {args : Array Value} {w : World} {n : Later w} {v : Value}
    (h : Calls P f args n.now fun e w' => e = .returned v ∧ w' = n.now) : Calls P f args n.now fun e w' => e = .returned v ∧ ∃ m : Later w, w' = m.now :=
  h.mono fun _ _ ⟨he, hw⟩ => ⟨he, n, hw⟩

theorem Later.cell {w : World} (n : Later w) {b o : Nat} {v : Value} (h : w.cell? ⟨b, o, none⟩ = some v) : n.now.cell? ⟨b, o, none⟩ = some v :=
  (n.below.cell (p := ⟨b, o, none⟩) (World.block_lt_of_cell? w _ h)).trans h

theorem alloc_cell {w : World} {b o : Nat} {v : Value} (h : w.cell? ⟨b, o, none⟩ = some v) (O : Obj) : (w.alloc O).cell? ⟨b, o, none⟩ = some v :=
  (World.cell?_alloc_past O b o (World.block_lt_of_cell? w _ h)).trans h

/-- a cell that was there is there -/
theorem keep {w w' : World} {b o : Nat} {v : Value} (k : Below w.heap.size w w') (h : w.cell? ⟨b, o, none⟩ = some v) : w'.cell? ⟨b, o, none⟩ = some v :=
  (k.cell (p := ⟨b, o, none⟩) (World.block_lt_of_cell? w _ h)).trans h

/-- the world, told by what is known of it -/
theorem wp_over {P : Program} {c : Code} {Q : Exit → Act → World → Prop} {a : Act} {w : World} (R : World → Prop) (hw : R w) (h : ∀ W, R W → c.wp P Q a W) : c.wp P Q a w := h w hw

end Go.Proofs.Ytocmkmeikcejjaa
