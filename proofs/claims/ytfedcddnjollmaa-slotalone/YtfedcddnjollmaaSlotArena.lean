/- The arena of layer 6's statements, and what their own first look at package slot comes to: true; it only makes memory. -/
import Derived.Test.YtfedcddnjollmaaSlotHelp
namespace Go.Proofs.Ytfedcddnjollmaa
open Go.RowKit

set_option maxHeartbeats 1000000 in
theorem arena04_any {t n k m : Nat} (hg : Good t n k m 100 600 3) (w : World) :
    Calls Try.prog 8 #[.int .i64 t, .int .i64 n, .int .i64 k, .int .i64 m] w fun e w' => ∃ L : Loc, e = .returned (.tuple #[.agg #[.int .i64 t, .int .i64 n, .int .i64 k, .int .i64 m, .int .i64 100, .int .i64 600, .int .i64 3, .pointer (some ⟨L.p, 0, none⟩), .int .i64 0], .bool true]) ∧ MemAt w' L (Mm.laid t n (arenaLen t n k m) n) ∧ Below w.heap.size w w' ∧ ∀ k, L.has k → w.heap.size ≤ k := by
  have HG : Hid (Good t n k m 100 600 3) := hg
  clear hg
  go_enter Try.func8, Try.ntmps8
  go_wp2_with (go_at_call 25; refine (fresh_good HG.out _).mono ?_; rintro e w2 ⟨L, rfl, m2, b2, f2⟩; have cc := CfgAt.new.grown b2; rw [Go.Deep.nblk_alloc] at cc; have x0 := cc.c0; have x1 := cc.c1; have x2 := cc.c2; have x3 := cc.c3; have x4 := cc.c4; have x5 := cc.c5; have x6 := cc.c6; have hk : w2.heap[w.heap.size]? = some (.cells #[.int .i64 0, .int .i64 0, .int .i64 0, .int .i64 0, .int .i64 0, .int .i64 0, .int .i64 0, .pointer none, .int .i64 0] 27 (0, 0)) := (b2.block _ (by rw [Go.Deep.nblk_alloc, Go.Deep.nblk_alloc]; omega)).trans ((Go.Deep.blk_alloc_lt _ _ _ (by rw [Go.Deep.nblk_alloc]; omega)).trans (Go.Deep.blk_alloc_new _ _)); have q0 := blk_cell (o := 0) hk rfl; have q1 := blk_cell (o := 1) hk rfl; have q2 := blk_cell (o := 2) hk rfl; have q3 := blk_cell (o := 3) hk rfl; have q4 := blk_cell (o := 4) hk rfl; have q5 := blk_cell (o := 5) hk rfl; have q6 := blk_cell (o := 6) hk rfl; have q7 := blk_cell (o := 7) hk rfl; have q8 := blk_cell (o := 8) hk rfl; have kf := blk_frozen hk)
  have hb : ¬ L.has w.heap.size := fun hh => by have := f2 _ hh; rw [Go.Deep.nblk_alloc, Go.Deep.nblk_alloc] at this; omega
  have B2 : Below w.heap.size w w2 := grow (grow_alloc (grow_alloc (Below.refl _ _) _) _) b2
  refine bodyPost_ret (v := .tuple #[.agg #[.int .i64 t, .int .i64 n, .int .i64 k, .int .i64 m, .int .i64 100, .int .i64 600, .int .i64 3, .pointer (some ⟨L.p, 0, none⟩), .int .i64 0], .bool true]) (by simp [results, Try.results8, go_sem, q0, q1, q2, q3, q4, q5, q6, q7, q8]) rfl ⟨L, rfl, (((((((((m2.setIn hb _ _).setIn hb _ _).setIn hb _ _).setIn hb _ _).setIn hb _ _).setIn hb _ _).setIn hb _ _).setIn hb _ _).setIn hb _ _), ?_, fun k hk => ?_⟩
  · exact (below_setIn (below_setIn (below_setIn (below_setIn (below_setIn (below_setIn (below_setIn (below_setIn (below_setIn B2 (Nat.le_refl _) _ _) (Nat.le_refl _) _ _) (Nat.le_refl _) _ _) (Nat.le_refl _) _ _) (Nat.le_refl _) _ _) (Nat.le_refl _) _ _) (Nat.le_refl _) _ _) (Nat.le_refl _) _ _) (Nat.le_refl _) _ _)
  · have := f2 _ hk; rw [Go.Deep.nblk_alloc, Go.Deep.nblk_alloc] at this; omega

theorem good6 {t n : Nat} (ht : 1 ≤ t ∧ t ≤ 8) (hn : 1 ≤ n ∧ n ≤ 16) : Good t n 1 20 100 600 3 := by
  obtain ⟨t0, t1⟩ := ht
  obtain ⟨n0, n1⟩ := hn
  constructor <;> omega

/-- a fresh arena, all of whose slots are free -/
theorem arena06 {t n : Nat} (ht : 1 ≤ t ∧ t ≤ 8) (hn : 1 ≤ n ∧ n ≤ 16) (w : World) :
    Calls Try.prog 8 #[.int .i64 t, .int .i64 n, .int .i64 1, .int .i64 20] w fun e w' => ∃ (L : Loc) (s : Mm), e = .returned (.tuple #[.agg #[.int .i64 t, .int .i64 n, .int .i64 1, .int .i64 20, .int .i64 100, .int .i64 600, .int .i64 3, .pointer (some ⟨L.p, 0, none⟩), .int .i64 0], .bool true]) ∧ MemAt w' L s ∧ Pile t n s (1 + 2 * n) 0 (link0 n) (upFrom n n) ∧ s.n = 6 + t + n * 2 + 23 ∧ Below w.heap.size w w' ∧ ∀ k, L.has k → w.heap.size ≤ k := by
  refine (arena04_any (good6 ht hn) w).mono ?_
  rintro e w' ⟨L, rfl, m, b, f⟩
  exact ⟨L, _, rfl, m, pile0 t n _ hn.1 (by omega) (by unfold arenaLen; omega), by rw [Mm.laid_n]; unfold arenaLen; omega, b, f⟩

/-- blocks that were made behind w -/
theorem below_has {w w1 w2 : World} {L : Loc} (h : Below w.heap.size w w1) (f : ∀ k, L.has k → w.heap.size ≤ k) (o : Only L.has w1 w2) : Below w.heap.size w w2 := mgrow h o f

set_option maxHeartbeats 1000000 in
theorem awake06_any (w : World) :
    Calls Try.prog 9 #[] w fun e w' => e = .returned (.bool true) ∧ Below w.heap.size w w' := by
  have ar := arena06 (t := 2) (n := 2) (by omega) (by omega)
  go_enter Try.func9, Try.ntmps9
  go_wp2_with (first
    | (go_at_call 8; refine (ar _).mono ?_; rintro e w1 ⟨L, s, rfl, m1, p1, hs1, b1, f1⟩; have P1 : Pile 2 2 s 5 0 (link0 2) [0, 1] := p1; have hbE : ¬ L.has w1.heap.size := fun hh => by { have := m1.lt _ hh; omega })
    | (go_at_call 10; refine (take_none m3 p3 (by omega) (by omega) 1 20 100 600 3 0).mono ?_; rintro e w4 ⟨rfl, s4, m4, p4, o4, hs4, ln4⟩)
    | (go_at_call 10; refine (take_some m2 p2 (by omega) (by omega) 1 20 100 600 3 0).mono ?_; rintro e w3 ⟨rfl, s3, m3, p3, o3, ln3⟩; have v3 := v2.only o3 hbE; have u0 := v3.c0; have u1 := v3.c1; have u2 := v3.c2; have u3 := v3.c3; have u4 := v3.c4; have u5 := v3.c5; have u6 := v3.c6; have u7 := v3.c7; have u8 := v3.c8)
    | (go_at_call 10; refine (take_some (m1.alloc _) P1 (by omega) (by omega) 1 20 100 600 3 0).mono ?_; rintro e w2 ⟨rfl, s2, m2, p2, o2, ln2⟩; have v2 : BoxV w2 w1.heap.size 2 2 1 20 100 600 3 L.p 0 := BoxV.new.only o2 hbE; have z0 := v2.c0; have z1 := v2.c1; have z2 := v2.c2; have z3 := v2.c3; have z4 := v2.c4; have z5 := v2.c5; have z6 := v2.c6; have z7 := v2.c7; have z8 := v2.c8))
  go_ret
  exact ⟨rfl, below_has (below_has (below_has (grow_alloc b1 _) f1 o2) f1 o3) f1 o4⟩

/-- an arena of so many threads and slots, and who works in it, behind w0 -/
structure Field (w0 w : World) (L : Loc) (bE t n : Nat) (s : Mm) (σ c : Nat) (lk : Nat → Nat) (F : List Nat) : Prop where
  m : MemAt w L s
  p : Pile t n s σ c lk F
  v : BoxV w bE t n 1 20 100 600 3 L.p 0
  b : Below w0.heap.size w0 w

structure FieldApart (w0 : World) (L : Loc) (bE : Nat) : Prop where
  l0 : ∀ k, L.has k → w0.heap.size ≤ k
  e : ¬ L.has bE
  e0 : w0.heap.size ≤ bE

section
variable {w0 w w' : World} {L : Loc} {bE t n σ c x : Nat} {s : Mm} {lk : Nat → Nat} {F : List Nat}

theorem Field.grown (f : Field w0 w L bE t n s σ c lk F) (g : Below w.heap.size w w') : Field w0 w' L bE t n s σ c lk F := ⟨f.m.below g, f.p, f.v.grown g, grow f.b g⟩
theorem Field.drew (f : Field w0 w L bE t n s σ c lk F) : Field w0 w.drew L bE t n s σ c lk F := f.grown ((Below.refl _ _).drew)
theorem Field.alloc (f : Field w0 w L bE t n s σ c lk F) (o : Obj) : Field w0 (w.alloc o) L bE t n s σ c lk F := f.grown (grow_alloc (Below.refl _ _) _)

theorem Field.only {s' : Mm} {σ' c' : Nat} {lk' : Nat → Nat} {F' : List Nat} {b : Nat} (f : Field w0 w L bE t n s σ c lk F) (a : FieldApart w0 L bE) (hb : w0.heap.size ≤ b) (hbe : bE ≠ b) (o : Only (L.and b) w w') (m : MemAt w' L s') (p : Pile t n s' σ' c' lk' F') : Field w0 w' L bE t n s' σ' c' lk' F' :=
  ⟨m, p, f.v.only o (fun hh => hh.elim a.e hbe), f.b.trans (o.below f.b.size (fun k hk hh => by
    rcases hh with hh | hh
    · have := a.l0 k hh; omega
    · omega))⟩

theorem Field.only0 {s' : Mm} {σ' c' : Nat} {lk' : Nat → Nat} {F' : List Nat} (f : Field w0 w L bE t n s σ c lk F) (a : FieldApart w0 L bE) (o : Only L.has w w') (m : MemAt w' L s') (p : Pile t n s' σ' c' lk' F') : Field w0 w' L bE t n s' σ' c' lk' F' :=
  ⟨m, p, f.v.only o a.e, mgrow f.b o a.l0⟩

theorem Field.setIn (f : Field w0 w L bE t n s σ c lk F) {b : Nat} (hb : w0.heap.size ≤ b) (hbe : bE ≠ b) (hl : ¬ L.has b) (i : Nat) (v : Value) : Field w0 (w.setCell ⟨b, i, none⟩ v) L bE t n s σ c lk F :=
  ⟨f.m.setIn hl i v, f.p, f.v.setIn hbe i v, below_setIn f.b hb i v⟩

theorem Field.step {B : Nat} {cs : Array Value} (f : Field w0 w L bE t n s σ c lk (x :: F)) (a : FieldApart w0 L bE) (hB : ¬ L.has B) (hbe : bE ≠ B) (hb0 : w0.heap.size ≤ B) (hσ : σ < 1000000) (ht8 : t ≤ 8) (k : Nat) (hk : k < 3) (hi : TkAt w B 0 43 cs (alone x c (lk x) k)) (d : Bool) (hd : decide (k = 2) = d) :
    Calls Try.prog 13 #[.pointer (some ⟨B, 0, none⟩), .agg #[.int .i64 t, .int .i64 n, .int .i64 1, .int .i64 20, .int .i64 100, .int .i64 600, .int .i64 3, .pointer (some ⟨L.p, 0, none⟩), .int .i64 0]] w fun e w' => e = .returned (.bool d) ∧ ∃ s' cs', Field w0 w' L bE t n s' (σ + 1) (if k = 2 then c + 1 else c) lk (if k = 2 then F else x :: F) ∧ TkAt w' B 0 43 cs' (alone x c (lk x) (k + 1)) ∧ Only (L.and B) w w' ∧ s'.la = (((alone x c (lk x) k).at t : Nat) : Int) := by
  refine (take_along f.m hB f.p hσ ht8 k hk hi 1 20 100 600 3 0 d hd).mono ?_
  rintro e w' ⟨rfl, s', cs', m, p, i, o, ln, la⟩
  exact ⟨rfl, s', cs', f.only a hb0 hbe o m p, i, o, la⟩

theorem Field.not {B : Nat} {cs : Array Value} (f : Field w0 w L bE t n s σ c lk []) (a : FieldApart w0 L bE) (hB : ¬ L.has B) (hbe : bE ≠ B) (hb0 : w0.heap.size ≤ B) (hσ : σ < 1000000) (ht8 : t ≤ 8) (hi : TkAt w B 0 43 cs .idle) :
    Calls Try.prog 13 #[.pointer (some ⟨B, 0, none⟩), .agg #[.int .i64 t, .int .i64 n, .int .i64 1, .int .i64 20, .int .i64 100, .int .i64 600, .int .i64 3, .pointer (some ⟨L.p, 0, none⟩), .int .i64 0]] w fun e w' => e = .returned (.bool true) ∧ ∃ s' cs', Field w0 w' L bE t n s' (σ + 1) c lk [] ∧ TkAt w' B 0 43 cs' .none ∧ Only (L.and B) w w' ∧ s'.wd = s.wd ∧ s'.n = s.n ∧ s'.la = 1 := by
  refine (take_not f.m hB f.p hσ ht8 hi 1 20 100 600 3 0).mono ?_
  rintro e w' ⟨rfl, s', cs', m, p, i, o, hw, ln, la⟩
  exact ⟨rfl, s', cs', f.only a hb0 hbe o m p, i, o, hw, ln, la⟩

theorem Field.take (f : Field w0 w L bE t n s σ c lk (x :: F)) (a : FieldApart w0 L bE) (hσ : σ + 3 < 1000000) (ht8 : t ≤ 8) :
    Calls Try.prog 10 #[.agg #[.int .i64 t, .int .i64 n, .int .i64 1, .int .i64 20, .int .i64 100, .int .i64 600, .int .i64 3, .pointer (some ⟨L.p, 0, none⟩), .int .i64 0]] w fun e w' => e = .returned (.tuple #[.int .i64 x, .bool true, .int .i64 3]) ∧ ∃ s', Field w0 w' L bE t n s' (σ + 3) (c + 1) lk F ∧ Only L.has w w' ∧ s'.n = s.n := by
  refine (take_some f.m f.p hσ ht8 1 20 100 600 3 0).mono ?_
  rintro e w' ⟨rfl, s', m, p, o, ln⟩
  exact ⟨rfl, s', f.only0 a o m p, o, ln⟩

theorem Field.takeNone (f : Field w0 w L bE t n s σ c lk []) (a : FieldApart w0 L bE) (hσ : σ + 3 < 1000000) (ht8 : t ≤ 8) :
    Calls Try.prog 10 #[.agg #[.int .i64 t, .int .i64 n, .int .i64 1, .int .i64 20, .int .i64 100, .int .i64 600, .int .i64 3, .pointer (some ⟨L.p, 0, none⟩), .int .i64 0]] w fun e w' => e = .returned (.tuple #[.int .i64 0, .bool false, .int .i64 1]) ∧ ∃ s', Field w0 w' L bE t n s' (σ + 1) c lk [] ∧ Only L.has w w' ∧ s'.n = s.n := by
  refine (take_none f.m f.p hσ ht8 1 20 100 600 3 0).mono ?_
  rintro e w' ⟨rfl, s', m, p, o, hw, ln⟩
  exact ⟨rfl, s', f.only0 a o m p, o, ln⟩

theorem Field.give (f : Field w0 w L bE t n s σ c lk F) (a : FieldApart w0 L bE) (hσ : σ + 3 < 1000000) (ht8 : t ≤ 8) (hx : x < n) (hF : x ∉ F) :
    Calls Try.prog 11 #[.agg #[.int .i64 t, .int .i64 n, .int .i64 1, .int .i64 20, .int .i64 100, .int .i64 600, .int .i64 3, .pointer (some ⟨L.p, 0, none⟩), .int .i64 0], .int .i64 x] w fun e w' => e = .returned (.int .i64 3) ∧ ∃ s', Field w0 w' L bE t n s' (σ + 3) (c + 1) (upd lk x (hd F)) (x :: F) ∧ Only L.has w w' ∧ s'.n = s.n := by
  refine (give_any f.m f.p hσ ht8 hx hF 1 20 100 600 3 0).mono ?_
  rintro e w' ⟨rfl, s', m, p, o, ln⟩
  exact ⟨rfl, s', f.only0 a o m p, o, ln⟩

end

/-- the first world's arena -/
theorem Field.first {w0 w1 : World} {L : Loc} {t n : Nat} {s : Mm} {σ c : Nat} {lk : Nat → Nat} {F : List Nat} (m : MemAt w1 L s) (p : Pile t n s σ c lk F) (b : Below w0.heap.size w0 w1) (f : ∀ k, L.has k → w0.heap.size ≤ k) :
    Field w0 (w1.alloc (.cells #[.int .i64 t, .int .i64 n, .int .i64 1, .int .i64 20, .int .i64 100, .int .i64 600, .int .i64 3, .pointer (some ⟨L.p, 0, none⟩), .int .i64 0] 27)) L w1.heap.size t n s σ c lk F ∧ FieldApart w0 L w1.heap.size :=
  ⟨⟨m.alloc _, p, BoxV.new, grow_alloc b _⟩, ⟨f, fun hh => by have := m.lt _ hh; omega, b.size⟩⟩

theorem lowAt (x m : Int) (b c : Nat) (hb : b < 63) (hm : m = 2 ^ b - 1) : ∃ y : Nat, (c : Int) + bits .and .i64 x m = (y : Int) ∧ c ≤ y ∧ (y : Int) ≤ c + m := lowN x m b c hb hm

theorem low0 (x m : Int) (b : Nat) (hb : b < 63) (hm : m = 2 ^ b - 1) : ∃ y : Nat, bits .and .i64 x m = (y : Int) ∧ (y : Int) ≤ m := by
  obtain ⟨y, h1, _, h2⟩ := lowN x m b 0 hb hm
  exact ⟨y, by simpa using h1, by simpa using h2⟩

end Go.Proofs.Ytfedcddnjollmaa
