/- What the document's own words come to: Slot, Chunk, Head and Cell of package footlockerref01, for every number; what was in memory stays. -/
import Derived.Test.YtcdeicbbaidjkaaGet
import Derived.Test.YtcdeicbbaidjkaaWord
namespace Go.Proofs.Ytcdeicbbaidjkaa
open Go.RowKit

/-- a list's numbers, by their places -/
def zAt (l : List Int) (i : Nat) : Int := l.getD i 0
def nAt (l : List Nat) (i : Nat) : Nat := l.getD i 0

theorem pack_S (a b c d : Int) : packUpto (zAt [a, b, c, d]) (nAt [3, 20, 16, 22]) 4 = packS a b c d := by
  simp [packUpto, bitsUpto, zAt, nAt, packS]
theorem pack_C (a b c d : Int) : packUpto (zAt [a, b, c, d]) (nAt [2, 6, 20, 36]) 4 = packC a b c d := by
  simp [packUpto, bitsUpto, zAt, nAt, packC]
theorem pack_O (a b c d : Int) (o : Bool) : packUpto (zAt [a, b, c, d, if o then 1 else 0]) (nAt [2, 16, 16, 16, 1]) 5 = packOw a b c d o := by
  cases o <;> simp [packUpto, bitsUpto, zAt, nAt, packOw, packO, cut]
theorem pack_X1 (v d : Int) : packUpto (zAt [v, d, 0, 1]) (nAt [40, 22, 1, 1]) 4 = packX v true d := by
  simp [packUpto, bitsUpto, zAt, nAt, packX, show cut 0 1 = 0 from rfl, show cut 1 1 = 1 from rfl]
theorem pack_X0 (v d : Int) : packUpto (zAt [v]) (nAt [40]) 1 = packX v false d := by
  simp [packUpto, bitsUpto, zAt, nAt, packX]
theorem pack_H (s g : Int) : packUpto (zAt [s, g]) (nAt [16, 16]) 2 = packH s g := by
  simp [packUpto, bitsUpto, zAt, nAt, packH]
theorem pack_T (s c : Int) : packUpto (zAt [s, c]) (nAt [17, 36]) 2 = packT s c := by
  simp [packUpto, bitsUpto, zAt, nAt, packT]

/-- two rows of numbers that were laid one behind the other, ahead of nothing else -/
theorem two_rows (w : World) (zs : List Int) (bs : List Nat) (t : TypeId) (j : Nat) :
    let W := (w.alloc (.cells (zs.map (Value.int .i64)).toArray t)).alloc (.cells (bs.map fun n : Nat => Value.int .i64 (n : Int)).toArray t)
    (j < zs.length → W.cell? ⟨w.heap.size, j, none⟩ = some (.int .i64 (zAt zs j))) ∧ (j < bs.length → W.cell? ⟨w.heap.size + 1, j, none⟩ = some (.int .i64 (nAt bs j))) := by
  constructor
  · intro h
    rw [World.cell?_alloc2_first]
    simp [zAt, h]
  · intro h
    rw [World.cell?_alloc2_new]
    simp [nAt, h]

/-- Put, of two rows that were just laid -/
theorem refPut_rows (zs : List Int) (bs : List Nat) (w : World) (n : Nat) (hz : zs.length = n) (hb : bs.length = n) (zl : ∀ z ∈ zs, Fit z) (bl : ∀ b ∈ bs, 1 ≤ b ∧ b < 64) (hs : bitsUpto (nAt bs) n ≤ 64) (hn : n ≤ 64) (B1 B2 : Nat) (hB1 : B1 = w.heap.size) (hB2 : B2 = w.heap.size + 1) (t : TypeId)
    (A1 A2 : Array Value) (hA1 : A1 = (zs.map (Value.int .i64)).toArray) (hA2 : A2 = (bs.map fun n : Nat => Value.int .i64 (n : Int)).toArray) :
    Calls Try.prog 48 #[.slice (some ⟨B1, 0, none⟩) n n, .slice (some ⟨B2, 0, none⟩) n n] ((w.alloc (.cells A1 t)).alloc (.cells A2 t)) fun e w' => e = .returned (.int .u64 (packUpto (zAt zs) (nAt bs) n)) ∧ w' = (w.alloc (.cells A1 t)).alloc (.cells A2 t) := by
  subst hA1 hA2 hB1 hB2
  refine refPut_any n _ _ (zAt zs) (nAt bs) _ (fun i hi => (two_rows w zs bs t i).1 (by omega)) (fun i hi => (two_rows w zs bs t i).2 (by omega)) (fun i hi => ?_) (fun i hi => ?_) hs hn
  · have : zAt zs i ∈ zs := by
      simp only [zAt, List.getD_eq_getElem?_getD, List.getElem?_eq_getElem (show i < zs.length by omega), Option.getD_some]
      exact List.getElem_mem _
    exact zl _ this
  · have : nAt bs i ∈ bs := by
      simp only [nAt, List.getD_eq_getElem?_getD, List.getElem?_eq_getElem (show i < bs.length by omega), Option.getD_some]
      exact List.getElem_mem _
    exact bl _ this

set_option maxHeartbeats 400000 in
theorem refSlot_any (a b c d : Int) (w : World) (ha : Fit a) (hb : Fit b) (hc : Fit c) (hd : Fit d) :
    Calls Try.prog 29 #[.agg #[.int .i64 a, .int .i64 b, .int .i64 c, .int .i64 d]] w fun e w' => e = .returned (.int .u64 (packS a b c d)) ∧ Below w.heap.size w w' := by
  go_enter Try.func29, Try.ntmps29
  go_wp2_with fail
  refine (refPut_rows [a, b, c, d] [3, 20, 16, 22] _ 4 rfl rfl (by simp [ha, hb, hc, hd]) (by decide) (by decide) (by decide) _ _ ?_ ?_ _ _ _ rfl rfl).mono ?_
  · simp
  · simp
  rintro e w' ⟨rfl, rfl⟩
  rw [pack_S]
  go_wp2
  go_ret
  exact ⟨rfl, (((Below.refl _ _).alloc (Nat.le_refl _) _).alloc (by simp) _).alloc (by simp; omega) _⟩

end Go.Proofs.Ytcdeicbbaidjkaa
