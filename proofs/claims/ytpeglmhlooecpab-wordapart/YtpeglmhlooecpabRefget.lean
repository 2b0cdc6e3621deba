/- What the document's own unpacking comes to: GetSlot, GetChunk, GetHead and GetCell of package footlockerref01, for every word; what was in memory stays. -/
import Derived.Test.YtpeglmhlooecpabRefword
import Derived.RegionTactic
import Derived.BigRegion
import Derived.ChangeAlike
namespace Go.Proofs.Ytpeglmhlooecpab
open Go.RowKit

/-- Get, of a row that was just laid: its numbers lie in a row of its own -/
theorem refGet_row (x : Int) (bs : List Nat) (w : World) (n : Nat) (x0 : 0 ≤ x) (x1 : x ≤ 18446744073709551615) (hb : bs.length = n) (bl : ∀ b ∈ bs, 1 ≤ b ∧ b < 64) (h0 : 0 < n) (hn : n ≤ 64) (B2 : Nat) (hB2 : B2 = w.heap.size) (t : TypeId)
    (A2 : Array Value) (hA2 : A2 = (bs.map fun n : Nat => Value.int .i64 (n : Int)).toArray) :
    Calls Try.prog 15 #[.int .u64 x, .slice (some ⟨B2, 0, none⟩) n n] (w.alloc (.cells A2 t)) fun e w' => ∃ g cap, e = .returned (.slice (some ⟨g, 0, none⟩) n cap) ∧ w.heap.size < g ∧ n ≤ cap ∧ (∀ j, j < n → w'.cell? ⟨g, j, none⟩ = some (.int .i64 (part x (nAt bs) j))) ∧ Below w.heap.size w w' ∧ w.heap.size < w'.heap.size := by
  subst hA2 hB2
  refine (refGet_any n _ x (nAt bs) _ (fun i hi => ?_) (by simp) x0 x1 (fun i hi => ?_) hn).mono ?_
  · rw [World.cell?_alloc_new]
    simp [nAt, show i < bs.length by omega]
  · have : nAt bs i ∈ bs := by
      simp only [nAt, List.getD_eq_getElem?_getD, List.getElem?_eq_getElem (show i < bs.length by omega), Option.getD_some]
      exact List.getElem_mem _
    exact bl _ this
  · rintro e w' ⟨v, rfl, ho, hbl⟩
    have hsz := hbl.size
    rcases ho.2 with ⟨_, h⟩ | ⟨g, cap, cur, rfl, hg, r⟩
    · omega
    · refine ⟨g, cap, rfl, by simp at hg; omega, r.2.1, fun j hj => ?_, ((Below.refl _ _).alloc (Nat.le_refl _) _).trans (hbl.mono (by simp)), by simp at hsz; omega⟩
      rw [ho.cellAt j (by omega)]
      simp [parts, hj]

set_option maxHeartbeats 400000 in
theorem refGetSlot_any (x : Int) (w : World) (x0 : 0 ≤ x) (x1 : x ≤ 18446744073709551615) :
    Calls Try.prog 6 #[.int .u64 x] w fun e w' => e = .returned (.agg #[.int .i64 (x % 8), .int .i64 (x / 8 % 1048576), .int .i64 (x / 8388608 % 65536), .int .i64 (x / 549755813888 % 4194304)]) ∧ Below w.heap.size w w' := by
  go_enter Try.func6, Try.ntmps6
  go_wp2_with fail
  refine (refGet_row x [3, 20, 16, 22] _ 4 x0 x1 rfl (by decide) (by decide) (by decide) _ ?_ _ _ rfl).mono ?_
  · simp
  rintro e w' ⟨g, cap, rfl, hg, hcap, hcell, hbl, hsz⟩
  have c0 := hcell 0 (by decide)
  have c1 := hcell 1 (by decide)
  have c2 := hcell 2 (by decide)
  have c3 := hcell 3 (by decide)
  simp [part, bitsUpto, nAt] at c0 c1 c2 c3
  have z0 := hbl.cell (p := ⟨w.heap.size, 0, none⟩) (by simp)
  have z1 := hbl.cell (p := ⟨w.heap.size, 1, none⟩) (by simp)
  have z2 := hbl.cell (p := ⟨w.heap.size, 2, none⟩) (by simp)
  have z3 := hbl.cell (p := ⟨w.heap.size, 3, none⟩) (by simp)
  have f0 := hbl.frozen (p := ⟨w.heap.size, 0, none⟩) (by simp)
  have f1 := hbl.frozen (p := ⟨w.heap.size, 1, none⟩) (by simp)
  have f2 := hbl.frozen (p := ⟨w.heap.size, 2, none⟩) (by simp)
  have f3 := hbl.frozen (p := ⟨w.heap.size, 3, none⟩) (by simp)
  simp at z0 z1 z2 z3 f0 f1 f2 f3
  clear hcell
  have hB : Below w.heap.size w w' := ((Below.refl _ _).alloc (Nat.le_refl _) _).trans (hbl.mono (by simp))
  clear hbl hsz hg
  go_wp2
  go_region
  go_wp2
  exact bodyPost_ret (v := .agg #[.int .i64 (x % 8), .int .i64 (x / 8 % 1048576), .int .i64 (x / 8388608 % 65536), .int .i64 (x / 549755813888 % 4194304)]) (by simp [results, Try.results6, go_sem, z0, z1, z2, z3]) rfl ⟨rfl, ((((hB.setCell (p := ⟨w.heap.size, 0, none⟩) (Nat.le_refl _) _).setCell (p := ⟨w.heap.size, 1, none⟩) (Nat.le_refl _) _).setCell (p := ⟨w.heap.size, 2, none⟩) (Nat.le_refl _) _).setCell (p := ⟨w.heap.size, 3, none⟩) (Nat.le_refl _) _).drew⟩

set_option maxHeartbeats 400000 in
theorem refGetHead_beq (x : Int) (w : World) (x0 : 0 ≤ x) (x1 : x ≤ 18446744073709551615) :
    Calls Try.prog 8 #[.int .u64 x] w fun e w' => e = .returned (.agg #[.int .i64 (x % 4), .int .i64 (x / 4 % 65536), .int .i64 (x / 262144 % 65536), .int .i64 (x / 17179869184 % 65536), .bool (x / 1125899906842624 % 2 == 1)]) ∧ Below w.heap.size w w' := by
  go_enter Try.func8, Try.ntmps8
  go_wp2_with fail
  refine (refGet_row x [2, 16, 16, 16, 1] _ 5 x0 x1 rfl (by decide) (by decide) (by decide) _ ?_ _ _ rfl).mono ?_
  · simp
  rintro e w' ⟨g, cap, rfl, hg, hcap, hcell, hbl, hsz⟩
  have c0 := hcell 0 (by decide)
  have c1 := hcell 1 (by decide)
  have c2 := hcell 2 (by decide)
  have c3 := hcell 3 (by decide)
  have c4 := hcell 4 (by decide)
  simp [part, bitsUpto, nAt] at c0 c1 c2 c3 c4
  have z0 := hbl.cell (p := ⟨w.heap.size, 0, none⟩) (by simp)
  have z1 := hbl.cell (p := ⟨w.heap.size, 1, none⟩) (by simp)
  have z2 := hbl.cell (p := ⟨w.heap.size, 2, none⟩) (by simp)
  have z3 := hbl.cell (p := ⟨w.heap.size, 3, none⟩) (by simp)
  have z4 := hbl.cell (p := ⟨w.heap.size, 4, none⟩) (by simp)
  have f0 := hbl.frozen (p := ⟨w.heap.size, 0, none⟩) (by simp)
  have f1 := hbl.frozen (p := ⟨w.heap.size, 1, none⟩) (by simp)
  have f2 := hbl.frozen (p := ⟨w.heap.size, 2, none⟩) (by simp)
  have f3 := hbl.frozen (p := ⟨w.heap.size, 3, none⟩) (by simp)
  have f4 := hbl.frozen (p := ⟨w.heap.size, 4, none⟩) (by simp)
  simp at z0 z1 z2 z3 z4 f0 f1 f2 f3 f4
  clear hcell
  have hB : Below w.heap.size w w' := ((Below.refl _ _).alloc (Nat.le_refl _) _).trans (hbl.mono (by simp))
  clear hbl hsz hg
  go_wp2
  go_region
  go_wp2
  exact bodyPost_ret (v := .agg #[.int .i64 (x % 4), .int .i64 (x / 4 % 65536), .int .i64 (x / 262144 % 65536), .int .i64 (x / 17179869184 % 65536), .bool (x / 1125899906842624 % 2 == 1)]) (by simp [results, Try.results8, go_sem, z0, z1, z2, z3, z4]) rfl ⟨rfl, (((((hB.setCell (p := ⟨w.heap.size, 0, none⟩) (Nat.le_refl _) _).setCell (p := ⟨w.heap.size, 1, none⟩) (Nat.le_refl _) _).setCell (p := ⟨w.heap.size, 2, none⟩) (Nat.le_refl _) _).setCell (p := ⟨w.heap.size, 3, none⟩) (Nat.le_refl _) _).setCell (p := ⟨w.heap.size, 4, none⟩) (Nat.le_refl _) _).drew⟩

theorem refGetHead_any (x : Int) (w : World) (x0 : 0 ≤ x) (x1 : x ≤ 18446744073709551615) :
    Calls Try.prog 8 #[.int .u64 x] w fun e w' => e = .returned (.agg #[.int .i64 (x % 4), .int .i64 (x / 4 % 65536), .int .i64 (x / 262144 % 65536), .int .i64 (x / 17179869184 % 65536), .bool (decide (x / 1125899906842624 % 2 = 1))]) ∧ Below w.heap.size w w' :=
  refGetHead_beq x w x0 x1

end Go.Proofs.Ytpeglmhlooecpab
