/- What package mem's functions answer of no memory; and the statements' own first look at the package. -/
import Derived.Test.YtmndmialhhbogaaMem
namespace Go.Proofs.Ytmndmialhhbogaa
open Go.RowKit

theorem has_nil (a : Int) (w : World) : Calls Try.prog 20 #[.pointer none, .int .i64 a] w fun e w' => e = .returned (.bool false) ∧ w' = w := by
  go_enter Try.func20, Try.ntmps20
  go_wp2
  go_ret
  exact ⟨rfl, rfl⟩

theorem load_nil (a : Int) (w : World) : Calls Try.prog 10 #[.pointer none, .int .i64 a] w fun e w' => e = .returned (.tuple #[.int .u64 0, .int .i64 2]) ∧ w' = w := by
  go_enter Try.func10, Try.ntmps10
  go_wp2_with (go_at_call 20; refine (has_nil _ _).mono ?_; rintro e w' ⟨rfl, rfl⟩)
  go_ret2
  exact ⟨rfl, rfl⟩

theorem store_nil (a v : Int) (w : World) : Calls Try.prog 11 #[.pointer none, .int .i64 a, .int .u64 v] w fun e w' => e = .returned (.int .i64 2) ∧ w' = w := by
  go_enter Try.func11, Try.ntmps11
  go_wp2_with (go_at_call 20; refine (has_nil _ _).mono ?_; rintro e w' ⟨rfl, rfl⟩)
  go_ret
  exact ⟨rfl, rfl⟩

theorem cas_nil (a x v : Int) (w : World) : Calls Try.prog 12 #[.pointer none, .int .i64 a, .int .u64 x, .int .u64 v] w fun e w' => e = .returned (.tuple #[.bool false, .int .i64 2]) ∧ w' = w := by
  go_enter Try.func12, Try.ntmps12
  go_wp2_with (go_at_call 20; refine (has_nil _ _).mono ?_; rintro e w' ⟨rfl, rfl⟩)
  go_ret2
  exact ⟨rfl, rfl⟩

theorem add_nil (a v : Int) (w : World) : Calls Try.prog 13 #[.pointer none, .int .i64 a, .int .u64 v] w fun e w' => e = .returned (.tuple #[.int .u64 0, .int .i64 2]) ∧ w' = w := by
  go_enter Try.func13, Try.ntmps13
  go_wp2_with (go_at_call 20; refine (has_nil _ _).mono ?_; rintro e w' ⟨rfl, rfl⟩)
  go_ret2
  exact ⟨rfl, rfl⟩

theorem peek_nil (a : Int) (w : World) : Calls Try.prog 17 #[.pointer none, .int .i64 a] w fun e w' => e = .returned (.int .u64 0) ∧ w' = w := by
  go_enter Try.func17, Try.ntmps17
  go_wp2_with (go_at_call 20; refine (has_nil _ _).mono ?_; rintro e w' ⟨rfl, rfl⟩)
  go_ret
  exact ⟨rfl, rfl⟩

theorem when_nil (a : Int) (w : World) : Calls Try.prog 18 #[.pointer none, .int .i64 a] w fun e w' => e = .returned (.int .i64 0) ∧ w' = w := by
  go_enter Try.func18, Try.ntmps18
  go_wp2_with (go_at_call 20; refine (has_nil _ _).mono ?_; rintro e w' ⟨rfl, rfl⟩)
  go_ret
  exact ⟨rfl, rfl⟩

theorem len_nil (w : World) : Calls Try.prog 19 #[.pointer none] w fun e w' => e = .returned (.int .i64 0) ∧ w' = w := by
  go_enter Try.func19, Try.ntmps19
  go_wp2
  go_ret
  exact ⟨rfl, rfl⟩

theorem steps_nil (w : World) : Calls Try.prog 15 #[.pointer none] w fun e w' => e = .returned (.int .i64 0) ∧ w' = w := by
  go_enter Try.func15, Try.ntmps15
  go_wp2
  go_ret
  exact ⟨rfl, rfl⟩

theorem last_nil (w : World) : Calls Try.prog 16 #[.pointer none] w fun e w' => e = .returned (.agg #[.int .i64 0, .int .i64 0, .bool false]) ∧ Below w.heap.size w w' := by
  go_enter Try.func16, Try.ntmps16
  go_wp2
  exact bodyPost_ret (v := .agg #[.int .i64 0, .int .i64 0, .bool false]) (by simp [results, Try.results16, go_sem]) rfl ⟨rfl, (Below.refl _ _).alloc (Nat.le_refl _) _⟩

theorem by_nil (a : Int) (w : World) : Calls Try.prog 14 #[.pointer none, .int .i64 a] w fun e w' => e = .returned (.tuple #[]) ∧ w' = w := by
  go_enter Try.func14, Try.ntmps14
  go_wp2
  go_end0
  exact ⟨rfl, rfl⟩

theorem peek_eq {w : World} {L : Loc} {s : Mm} (h : MemAt w L s) (a : Nat) (ha : a < s.n) (x : Int) (hx : s.wd a = x) :
    Calls Try.prog 17 #[.pointer (some ⟨L.p, 0, none⟩), .int .i64 a] w fun e w' => e = .returned (.int .u64 x) ∧ w' = w := by
  subst hx; exact peek_in h a ha

theorem when_eq {w : World} {L : Loc} {s : Mm} (h : MemAt w L s) (a : Nat) (ha : a < s.n) (x : Int) (hx : s.wn a = x) :
    Calls Try.prog 18 #[.pointer (some ⟨L.p, 0, none⟩), .int .i64 a] w fun e w' => e = .returned (.int .i64 x) ∧ w' = w := by
  subst hx; exact when_in h a ha

theorem steps_eq {w : World} {L : Loc} {s : Mm} (h : MemAt w L s) (x : Int) (hx : s.steps = x) :
    Calls Try.prog 15 #[.pointer (some ⟨L.p, 0, none⟩)] w fun e w' => e = .returned (.int .i64 x) ∧ w' = w := by
  subst hx; exact steps_any h

theorem last_eq {w : World} {L : Loc} {s : Mm} (h : MemAt w L s) (x y : Int) (c : Bool) (hx : s.la = x) (hy : s.lw = y) (hc : s.lc = c) :
    Calls Try.prog 16 #[.pointer (some ⟨L.p, 0, none⟩)] w fun e w' => e = .returned (.agg #[.int .i64 x, .int .i64 y, .bool c]) ∧ Below w.heap.size w w' := by
  subst hx; subst hy; subst hc; exact last_any h

/-- a new memory's blocks are new ones: what is done to it leaves what was there -/
theorem grow_only {w a b : World} {L : Loc} (h : Below w.heap.size w a) (hL : ∀ k, L.has k → w.heap.size ≤ k) (k : Only L.has a b) : Below w.heap.size w b :=
  h.trans (k.below h.size (fun i hi hs => by have := hL i hs; omega))

theorem fresh3 (w : World) : Calls Try.prog 8 #[.int .i64 3] w fun e w' => ∃ L : Loc, e = .returned (.tuple #[.pointer (some ⟨L.p, 0, none⟩), .int .i64 0]) ∧ MemAt w' L (Mm.fresh 3) ∧ Below w.heap.size w w' ∧ ∀ k, L.has k → w.heap.size ≤ k :=
  new_in 3 (by decide) (by decide) w
theorem store3 {w : World} {L : Loc} (h : MemAt w L (Mm.fresh 3)) : Calls Try.prog 11 #[.pointer (some ⟨L.p, 0, none⟩), .int .i64 1, .int .u64 7] w fun e w' => e = .returned (.int .i64 0) ∧ MemAt w' L ((Mm.fresh 3).step 1 7) ∧ Only L.has w w' ∧ w'.heap.size = w.heap.size :=
  store_in h 1 (by decide) 7
theorem load3 {w : World} {L : Loc} (h : MemAt w L ((Mm.fresh 3).step 1 7)) : Calls Try.prog 10 #[.pointer (some ⟨L.p, 0, none⟩), .int .i64 1] w fun e w' => e = .returned (.tuple #[.int .u64 7, .int .i64 0]) ∧ MemAt w' L (((Mm.fresh 3).step 1 7).step 1 7) ∧ Only L.has w w' ∧ w'.heap.size = w.heap.size :=
  load_in h 1 (by decide)
theorem steps3 {w : World} {L : Loc} (h : MemAt w L (((Mm.fresh 3).step 1 7).step 1 7)) : Calls Try.prog 15 #[.pointer (some ⟨L.p, 0, none⟩)] w fun e w' => e = .returned (.int .i64 2) ∧ w' = w := by
  have e : (((Mm.fresh 3).step 1 7).step 1 7).steps = 2 := by simp [Mm.step, Mm.fresh, wrap64]
  have := steps_any h
  rw [e] at this
  exact this
theorem len3 {w : World} {L : Loc} (h : MemAt w L (((Mm.fresh 3).step 1 7).step 1 7)) : Calls Try.prog 19 #[.pointer (some ⟨L.p, 0, none⟩)] w fun e w' => e = .returned (.int .i64 3) ∧ w' = w :=
  len_any h

set_option maxHeartbeats 400000 in
theorem awake02_any (w : World) :
    Calls Try.prog 9 #[] w fun e w' => e = .returned (.bool true) ∧ Below w.heap.size w w' := by
  go_enter Try.func9, Try.ntmps9
  go_wp2_with (first
    | (go_at_call 8; refine (fresh3 _).mono ?_; rintro e w1 ⟨L, rfl, h1, b1, f1⟩)
    | (go_at_call 11; refine (store3 h1).mono ?_; rintro e w2 ⟨rfl, h2, b2, f2⟩)
    | (go_at_call 10; refine (load3 h2).mono ?_; rintro e w3 ⟨rfl, h3, b3, f3⟩)
    | (go_at_call 15; refine (steps3 h3).mono ?_; rintro e w4 ⟨rfl, rfl⟩)
    | (go_at_call 19; refine (len3 h3).mono ?_; rintro e w5 ⟨rfl, rfl⟩))
  go_ret
  exact ⟨rfl, grow_only (grow_only b1 f1 b2) f1 b3⟩

end Go.Proofs.Ytmndmialhhbogaa
