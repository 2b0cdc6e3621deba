/- The statements' own first look at package epoch: true; it only makes memory. Their helper settle. -/
import Derived.Test.YtameeiabnkblmaaEpAlone
import Derived.Test.YtameeiabnkblmaaArgs
namespace Go.Proofs.Ytameeiabnkblmaa
open Go.RowKit

/-- the memory, ahead of the epoch's going on and behind it -/
def phGo (L : Loc) (t : Nat) (s : Mm) (x : Bool) : Nat → World → Prop
  | 0, w => MemAt w L s
  | _, w => ∃ s', MemAt w L s' ∧ AdEnd t s s' x
theorem phGo_grown {L : Loc} {t : Nat} {s : Mm} {q : Bool} (x y : World) (p : Nat) (g : Grown x y) (h : phGo L t s q p x) : phGo L t s q p y := by
  match p, h with
  | 0, h => exact MemAt.below h g
  | p + 1, h => exact h.imp fun _ k => ⟨k.1.below g, k.2⟩

set_option maxHeartbeats 1000000 in
theorem awake13_any (w : World) :
    Calls Try.prog 9 #[] w fun e w' => e = .returned (.bool true) ∧ Below w.heap.size w w' := by
  have hg : Good 2 1 1 20 100 600 3 := by constructor <;> decide
  have hgo : goesB 2 (Mm.laid 2 1 (arenaLen 2 1 1 20) 1).wd = true := decide_eq_true fun j hj => by
    have h1 : (Mm.laid 2 1 (arenaLen 2 1 1 20) 1).wd (6 + j) = 0 := laid_else _ _ _ _ _ (by omega) (by omega)
    rw [h1]; rfl
  have hN : (Mm.laid 2 1 (arenaLen 2 1 1 20) 1).n = 33 := Mm.laid_n _ _ _ _
  have hE : (Mm.laid 2 1 (arenaLen 2 1 1 20) 1).wd 0 = 0 := laid_else _ _ _ _ _ (by omega) (by omega)
  generalize hS : Mm.laid 2 1 (arenaLen 2 1 1 20) 1 = S0 at hgo hN hE
  have HS : Hid (Mm.laid 2 1 (arenaLen 2 1 1 20) 1 = S0) := hS
  have HGo : Hid (goesB 2 S0.wd = true) := hgo
  clear hgo hS
  go_enter Try.func9, Try.ntmps9
  go_wp2_with (go_at_call 8; refine (arena04_any hg _).mono ?_; rintro e w1 ⟨L, rfl, m1, b1, f1⟩; rw [HS.out] at m1)
  have hbE : ¬ L.has w1.heap.size := fun hh => by have := m1.lt _ hh; omega
  refine wp_over (fun W => MemAt W L S0 ∧ BoxV W w1.heap.size 2 1 1 20 100 600 3 L.p 0 ∧ Below w.heap.size w W) ⟨m1.alloc _, BoxV.new, grow_alloc b1 _⟩ ?_
  rintro W ⟨m2, v1, b2⟩
  refine wp_region_phase (Only L.has) Grown (phGo L 2 S0 true) [3, 9] [.val (.bool true), .val (.bool true), .val (.agg #[.int .i64 2, .int .i64 1, .int .i64 1, .int .i64 20, .int .i64 100, .int .i64 600, .int .i64 3, .pointer (some ⟨L.p, 0, none⟩), .int .i64 0]), .val (.bool true), .val (.bool true), .val (.bool true), .val (.pointer (some ⟨w1.heap.size, 7, none⟩)), .val (.pointer (some ⟨L.p, 0, none⟩)), .val (.int .i64 0), .val (.int .u64 1), .val (.bool true), .val (.bool true), .val (.bool true)]
    (by kernel_rfl) (Only.refl _) (fun _ _ _ h k => h.trans k) (fun x y h => Only.ofGrown h) (phGo_grown) m2.drew (by kernel_rfl) (by kernel_rfl) (by kernel_rfl) (by kernel_rfl) (by kernel_rfl) ?_
  simp only [phaseAll, Act.put, List.setIfInBounds_toArray, List.set_cons_zero, List.set_cons_succ]
  refine ⟨?_, ⟨?_, ⟨?_, ⟨?_, ⟨?_, ⟨?_, ⟨?_, ⟨?_, ⟨?_, ⟨?_, ⟨?_, ⟨?_, ⟨?_, ?_⟩⟩⟩⟩⟩⟩⟩⟩⟩⟩⟩⟩⟩
  · intro w' hR _
    refine Or.inl ⟨rfl, ?_⟩
    go_simp
    exact ⟨Grown.refl _, rfl⟩
  · intro w' hR _
    refine Or.inl ⟨rfl, ?_⟩
    go_simp
    exact ⟨Grown.refl _, rfl⟩
  · intro w' hR _
    refine Or.inl ⟨rfl, ?_⟩
    have vv := (v1.grown ((Below.refl _ _).drew)).only hR hbE
    have y0 := vv.c0
    have y1 := vv.c1
    have y2 := vv.c2
    have y3 := vv.c3
    have y4 := vv.c4
    have y5 := vv.c5
    have y6 := vv.c6
    have y7 := vv.c7
    have y8 := vv.c8
    go_simp
    exact ⟨Grown.refl _, rfl⟩
  · intro w' hR _ hP
    refine Or.inl ⟨rfl, ?_⟩
    have hP' : MemAt w' L S0 := hP
    go_simp
    refine (advance_any hP' hg (by rw [hN]; decide) _ true HGo.out).mono ?_
    rintro e w'' ⟨rfl, s2, m2, e2, o2⟩
    exact ⟨_, rfl, ⟨o2, s2, m2, e2⟩, rfl⟩
  · intro w' hR _
    refine Or.inl ⟨rfl, ?_⟩
    go_simp
    exact ⟨Grown.refl _, rfl⟩
  · intro w' hR _
    refine Or.inl ⟨rfl, ?_⟩
    go_simp
    exact ⟨Grown.refl _, rfl⟩
  · intro w' hR _
    refine Or.inl ⟨rfl, ?_⟩
    go_simp
    exact ⟨Grown.refl _, rfl⟩
  · intro w' hR _
    refine Or.inl ⟨rfl, ?_⟩
    have vv := (v1.grown ((Below.refl _ _).drew)).only hR hbE
    have y0 := vv.c0
    have y1 := vv.c1
    have y2 := vv.c2
    have y3 := vv.c3
    have y4 := vv.c4
    have y5 := vv.c5
    have y6 := vv.c6
    have y7 := vv.c7
    have y8 := vv.c8
    go_simp
    exact ⟨Grown.refl _, rfl⟩
  · intro w' hR _
    refine Or.inl ⟨rfl, ?_⟩
    go_simp
    refine (lepoch_any _).mono ?_
    rintro e w'' ⟨rfl, rfl⟩
    exact ⟨_, rfl, Grown.refl _, rfl⟩
  · intro w' hR _ hP
    refine Or.inl ⟨rfl, ?_⟩
    obtain ⟨s2, m2, e2⟩ := hP
    go_simp
    refine (peek_is m2 0 (by rw [e2.n, hN]; decide) 1 (by rw [e2.wd, if_pos rfl, upd_same, hE]; rfl)).mono ?_
    rintro e w'' ⟨rfl, rfl⟩
    exact ⟨_, rfl, ⟨Only.refl _ _, s2, m2, e2⟩, rfl⟩
  · intro w' hR _
    refine Or.inl ⟨rfl, ?_⟩
    go_simp
    exact ⟨Grown.refl _, rfl⟩
  · intro w' hR _
    refine Or.inl ⟨rfl, ?_⟩
    go_simp
    exact ⟨Grown.refl _, rfl⟩
  · intro w' hR _
    refine Or.inl ⟨rfl, ?_⟩
    go_simp
    exact ⟨Grown.refl _, rfl⟩
  intro w5 hR hP _
  have b5 := mgrow (b2.trans ((Below.refl _ _).drew)) hR f1
  go_wp2
  go_ret
  exact ⟨rfl, b5⟩

/-- an arena, and who works in it, as a block -/
def BxE (w : World) (b : Nat) (t n k m : Nat) (P : Nat) (who : Int) : Prop :=
  w.heap[b]? = some (.cells #[.int .i64 t, .int .i64 n, .int .i64 k, .int .i64 m, .int .i64 100, .int .i64 600, .int .i64 3, .pointer (some ⟨P, 0, none⟩), .int .i64 who] 28 (0, 0))

/-- a statement's arena, its memory, and that all that was there ahead of it is as it was -/
structure Gd (w0 w : World) (L : Loc) (E t n k m : Nat) (who : Int) (s : Mm) : Prop where
  mm : MemAt w L s
  e : BxE w E t n k m L.p who
  b : Below w0.heap.size w0 w
  ne : ¬ L.has E
  l0 : ∀ q, L.has q → w0.heap.size ≤ q
  e0 : w0.heap.size ≤ E

namespace Gd
variable {w0 w w' : World} {L : Loc} {E t n k m : Nat} {who : Int} {s s' : Mm}

theorem v (h : Gd w0 w L E t n k m who s) : BoxV w E t n k m 100 600 3 L.p who :=
  ⟨blk_cell h.e rfl, blk_cell h.e rfl, blk_cell h.e rfl, blk_cell h.e rfl, blk_cell h.e rfl, blk_cell h.e rfl, blk_cell h.e rfl, blk_cell h.e rfl, blk_cell h.e rfl⟩
theorem fz (h : Gd w0 w L E t n k m who s) (o : Nat) : w.frozen? ⟨E, o, none⟩ = false := blk_frozen h.e o
theorem lt (h : Gd w0 w L E t n k m who s) : E < w.heap.size := blk_lt h.e
theorem grown (h : Gd w0 w L E t n k m who s) (g : Below w.heap.size w w') : Gd w0 w' L E t n k m who s :=
  ⟨h.mm.below g, (g.block _ h.lt).trans h.e, grow h.b g, h.ne, h.l0, h.e0⟩
theorem drew (h : Gd w0 w L E t n k m who s) : Gd w0 w.drew L E t n k m who s := h.grown ((Below.refl _ _).drew)
theorem who_ (h : Gd w0 w L E t n k m who s) (x : Int) : Gd w0 (w.setCell ⟨E, 8, none⟩ (.int .i64 x)) L E t n k m x s :=
  ⟨h.mm.setIn h.ne _ _, blk_setCell _ _ _ _ _ _ h.e, below_setIn h.b h.e0 _ _, h.ne, h.l0, h.e0⟩
theorem mem (h : Gd w0 w L E t n k m who s) (o : Only L.has w w') (q : MemAt w' L s') : Gd w0 w' L E t n k m who s' :=
  ⟨q, (o.block _ h.lt h.ne).trans h.e, mgrow h.b o h.l0, h.ne, h.l0, h.e0⟩
theorem and (h : Gd w0 w L E t n k m who s) {b : Nat} (o : Only (L.and b) w w') (q : MemAt w' L s') (hb : E ≠ b) (hw : w0.heap.size ≤ b) : Gd w0 w' L E t n k m who s' :=
  ⟨q, (o.block _ h.lt (fun hh => hh.elim h.ne hb)).trans h.e, h.b.trans (o.below h.b.size (fun i hi hh => by
    rcases hh with hh | hh
    · have := h.l0 i hh; omega
    · omega)), h.ne, h.l0, h.e0⟩
theorem new {w1 : World} (m : MemAt w1 L s) (b : Below w0.heap.size w0 w1) (l0 : ∀ q, L.has q → w0.heap.size ≤ q) {t n k m' : Nat} :
    Gd w0 (w1.alloc (.cells #[.int .i64 t, .int .i64 n, .int .i64 k, .int .i64 m', .int .i64 100, .int .i64 600, .int .i64 3, .pointer (some ⟨L.p, 0, none⟩), .int .i64 0] 28)) L w1.heap.size t n k m' 0 s :=
  ⟨m.alloc _, Go.Deep.blk_alloc_new _ _, grow_alloc b _, fun hh => by have := m.lt _ hh; omega, l0, b.size⟩
end Gd

theorem wrapU (x : Int) (h0 : 0 ≤ x) (h1 : x < 18446744073709551616) : IntKind.u64.wrap x = x := by
  show x % 18446744073709551616 = x
  exact Int.emod_eq_of_lt h0 h1

/-- the lowest bits of a word -/
theorem low16 (x : Int) (hx : FitW x) : ∃ y : Int, bits .and .u64 x 65535 = y ∧ 0 ≤ y ∧ y ≤ 65535 := by
  have e := and_most x 16 hx.1 (by have := hx.2; omega) (by decide)
  exact ⟨_, e, by omega, by omega⟩

end Go.Proofs.Ytameeiabnkblmaa
