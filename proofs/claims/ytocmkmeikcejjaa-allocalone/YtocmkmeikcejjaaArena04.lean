/- A fresh arena of the statements (package footlockerlaw04's Arena), its clock. -/
import Derived.Test.YtocmkmeikcejjaaLayAwake
import Derived.Test.YtocmkmeikcejjaaStruct
namespace Go.Proofs.Ytocmkmeikcejjaa
open Go.RowKit

set_option maxHeartbeats 1000000 in
theorem arena04_any {t n k m : Nat} (hg : Good t n k m 100 600 3) (w : World) :
    Calls Try.prog 4 #[.int .i64 t, .int .i64 n, .int .i64 k, .int .i64 m] w fun e w' => ∃ L : Loc, e = .returned (.tuple #[.agg #[.int .i64 t, .int .i64 n, .int .i64 k, .int .i64 m, .int .i64 100, .int .i64 600, .int .i64 3, .pointer (some ⟨L.p, 0, none⟩), .int .i64 0], .bool true]) ∧ MemAt w' L (Mm.laid t n (arenaLen t n k m) n) ∧ Below w.heap.size w w' ∧ ∀ k, L.has k → w.heap.size ≤ k := by
  have HG : Hid (Good t n k m 100 600 3) := hg
  clear hg
  go_enter Try.func4, Try.ntmps4
  go_wp2_with (go_at_call 12; refine (fresh_good HG.out _).mono ?_; rintro e w2 ⟨L, rfl, m2, b2, f2⟩; have cc := CfgAt.new.grown b2; rw [Go.Deep.nblk_alloc] at cc; have x0 := cc.c0; have x1 := cc.c1; have x2 := cc.c2; have x3 := cc.c3; have x4 := cc.c4; have x5 := cc.c5; have x6 := cc.c6; have hk : w2.heap[w.heap.size]? = some (.cells #[.int .i64 0, .int .i64 0, .int .i64 0, .int .i64 0, .int .i64 0, .int .i64 0, .int .i64 0, .pointer none, .int .i64 0] 27 (0, 0)) := (b2.block _ (by rw [Go.Deep.nblk_alloc, Go.Deep.nblk_alloc]; omega)).trans ((Go.Deep.blk_alloc_lt _ _ _ (by rw [Go.Deep.nblk_alloc]; omega)).trans (Go.Deep.blk_alloc_new _ _)); have q0 := blk_cell (o := 0) hk rfl; have q1 := blk_cell (o := 1) hk rfl; have q2 := blk_cell (o := 2) hk rfl; have q3 := blk_cell (o := 3) hk rfl; have q4 := blk_cell (o := 4) hk rfl; have q5 := blk_cell (o := 5) hk rfl; have q6 := blk_cell (o := 6) hk rfl; have q7 := blk_cell (o := 7) hk rfl; have q8 := blk_cell (o := 8) hk rfl; have kf := blk_frozen hk)
  have hb : ¬ L.has w.heap.size := fun hh => by have := f2 _ hh; rw [Go.Deep.nblk_alloc, Go.Deep.nblk_alloc] at this; omega
  have B2 : Below w.heap.size w w2 := grow (grow_alloc (grow_alloc (Below.refl _ _) _) _) b2
  refine bodyPost_ret (v := .tuple #[.agg #[.int .i64 t, .int .i64 n, .int .i64 k, .int .i64 m, .int .i64 100, .int .i64 600, .int .i64 3, .pointer (some ⟨L.p, 0, none⟩), .int .i64 0], .bool true]) (by simp [results, Try.results4, go_sem, q0, q1, q2, q3, q4, q5, q6, q7, q8]) rfl ⟨L, rfl, (((((((((m2.setIn hb _ _).setIn hb _ _).setIn hb _ _).setIn hb _ _).setIn hb _ _).setIn hb _ _).setIn hb _ _).setIn hb _ _).setIn hb _ _), ?_, fun k hk => ?_⟩
  · exact (below_setIn (below_setIn (below_setIn (below_setIn (below_setIn (below_setIn (below_setIn (below_setIn (below_setIn B2 (Nat.le_refl _) _ _) (Nat.le_refl _) _ _) (Nat.le_refl _) _ _) (Nat.le_refl _) _ _) (Nat.le_refl _) _ _) (Nat.le_refl _) _ _) (Nat.le_refl _) _ _) (Nat.le_refl _) _ _) (Nat.le_refl _) _ _)
  · have := f2 _ hk; rw [Go.Deep.nblk_alloc, Go.Deep.nblk_alloc] at this; omega

theorem now_any {w : World} {L : Loc} {s : Mm} (h : MemAt w L s) (c0 c1 c2 c3 c4 c5 c6 who : Int) (x : Nat) (hx : s.steps = x) :
    Calls Try.prog 58 #[.agg #[.int .i64 c0, .int .i64 c1, .int .i64 c2, .int .i64 c3, .int .i64 c4, .int .i64 c5, .int .i64 c6, .pointer (some ⟨L.p, 0, none⟩), .int .i64 who]] w fun e w' => e = .returned (.int .i64 x) ∧ Below w.heap.size w w' := by
  have k := enow_any h c0 c1 c2 c3 c4 c5 c6 who
  rwa [hx] at k

theorem lowAt (x m : Int) (b c : Nat) (hb : b < 63) (hm : m = 2 ^ b - 1) : ∃ y : Nat, (c : Int) + bits .and .i64 x m = (y : Int) ∧ c ≤ y ∧ (y : Int) ≤ c + m := lowN x m b c hb hm

theorem low0 (x m : Int) (b : Nat) (hb : b < 63) (hm : m = 2 ^ b - 1) : ∃ y : Nat, bits .and .i64 x m = (y : Int) ∧ (y : Int) ≤ m := by
  obtain ⟨y, h1, _, h2⟩ := lowN x m b 0 hb hm
  exact ⟨y, by simpa using h1, by simpa using h2⟩

end Go.Proofs.Ytocmkmeikcejjaa
