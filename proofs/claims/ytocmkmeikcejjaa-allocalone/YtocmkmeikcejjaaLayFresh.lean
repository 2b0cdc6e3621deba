/- What a fresh arena's memory is (package layout's Fresh), for every arena that may be; what was in memory stays. -/
import Derived.Test.YtocmkmeikcejjaaLay
import Derived.Test.YtocmkmeikcejjaaMem
import Derived.Test.YtocmkmeikcejjaaWord
import Derived.Test.YtocmkmeikcejjaaRely
namespace Go.Proofs.Ytocmkmeikcejjaa
open Go.RowKit

/-- the link of the j-th of s slots -/
def linkOf (s j : Nat) : Int := if j + 1 < s then (j : Int) + 2 else 0

/-- a fresh arena's memory, when the first j slots are laid -/
def Mm.laid (t s len : Nat) : Nat → Mm
  | 0 => (Mm.fresh len).step 1 1
  | j + 1 => ((Mm.laid t s len j).step (6 + t + j * 2) 8388608).step (6 + t + j * 2 + 1) (linkOf s j)

theorem Mm.laid_n (t s len j : Nat) : (Mm.laid t s len j).n = len := by
  induction j with
  | zero => rfl
  | succ j ih => exact ih

/-- an arena that may be -/
structure Good (t s k n : Nat) (g p r : Int) : Prop where
  t0 : 1 ≤ t
  t1 : t ≤ 8
  s0 : 1 ≤ s
  s1 : s ≤ 65536
  k0 : 1 ≤ k
  k1 : k ≤ 64
  n0 : 17 ≤ n
  n1 : n ≤ 256
  g0 : 1 ≤ g
  g1 : g ≤ 65535
  p0 : 0 ≤ p
  p1 : p ≤ 1000
  r0 : 1 ≤ r
  r1 : r ≤ 16

theorem Good.arena {t s k n : Nat} {g p r : Int} (h : Good t s k n g p r) : Arena t s k n := by
  obtain ⟨t0, t1, s0, s1, k0, k1, n0, n1, g0, g1, p0, p1, r0, r1⟩ := h
  constructor <;> omega

theorem Good.may {t s k n : Nat} {g p r : Int} (h : Good t s k n g p r) : may t s k n g p r = true := by
  obtain ⟨t0, t1, s0, s1, k0, k1, n0, n1, g0, g1, p0, p1, r0, r1⟩ := h
  simp [Go.Proofs.Ytocmkmeikcejjaa.may, win, g0, g1, p0, p1, r0, r1]
  omega

/-- how many words an arena has -/
def arenaLen (t s k n : Nat) : Nat := 6 + t + s * 2 + k * 3 + k * n

theorem Good.words {t s k n : Nat} {g p r : Int} (h : Good t s k n g p r) : k * n ≤ 16384 := Nat.mul_le_mul h.k1 h.n1

theorem lcheck_yes {t s k n : Nat} {g p r : Int} (h : Good t s k n g p r) (w : World) :
    Calls Try.prog 23 #[.agg #[.int .i64 t, .int .i64 s, .int .i64 k, .int .i64 n, .int .i64 g, .int .i64 p, .int .i64 r]] w fun e w' => e = .returned (.bool true) ∧ Below w.heap.size w w' := by
  have := lcheck_any t s k n g p r w
  rwa [h.may] at this

theorem llen_good {t s k n : Nat} {g p r : Int} (h : Good t s k n g p r) (w : World) :
    Calls Try.prog 25 #[.agg #[.int .i64 t, .int .i64 s, .int .i64 k, .int .i64 n, .int .i64 g, .int .i64 p, .int .i64 r]] w fun e w' => e = .returned (.int .i64 (arenaLen t s k n : Nat)) ∧ Below w.heap.size w w' := by
  have hw := h.words
  have e := llen_any t s k n g p r ((k * n : Nat) : Int) w h.arena (by simp) (by omega) (by omega)
  refine e.mono fun e w' ⟨he, hb⟩ => ⟨?_, hb⟩
  rw [he]
  exact ret_int (by unfold arenaLen; omega)

theorem top_first (w : World) : Calls Try.prog 28 #[.int .i64 0, .int .i64 0] w fun e w' => e = .returned (.int .u64 1) ∧ w' = w :=
  putTop_any 0 0 w (by decide) (by decide) (by unfold Fit; decide)

theorem slot_free (w : World) : Calls Try.prog 29 #[.agg #[.int .i64 0, .int .i64 0, .int .i64 1, .int .i64 0]] w fun e w' => e = .returned (.int .u64 8388608) ∧ Below w.heap.size w w' :=
  putSlot_any 0 0 1 0 w (by unfold Fit; decide) (by unfold Fit; decide) (by unfold Fit; decide) (by unfold Fit; decide)

/-- the slot behind the j-th; -1: none -/
def nextOf (s j : Nat) : Int := if j + 1 < s then (j : Int) + 1 else -1

theorem lnext_any (t s k n : Nat) (g p r : Int) (j : Nat) (w : World) (hj : j < 65536) :
    Calls Try.prog 30 #[.agg #[.int .i64 t, .int .i64 s, .int .i64 k, .int .i64 n, .int .i64 g, .int .i64 p, .int .i64 r], .int .i64 j] w fun e w' => e = .returned (.int .i64 (nextOf s j)) ∧ Below w.heap.size w w' := by
  unfold nextOf
  by_cases h : j + 1 < s
  · rw [if_pos h]; exact lnext_in t s k n g p r j w (by omega) (by omega) (by omega)
  · rw [if_neg h]; exact lnext_out t s k n g p r j w (by omega) (by omega) (by omega)

theorem top_next (s j : Nat) (hs : s ≤ 65536) (w : World) : Calls Try.prog 28 #[.int .i64 (nextOf s j), .int .i64 0] w fun e w' => e = .returned (.int .u64 (linkOf s j)) ∧ w' = w := by
  have e := putTop_any (nextOf s j) 0 w (by unfold nextOf; split <;> omega) (by unfold nextOf; split <;> omega) (by unfold Fit; decide)
  have h : packT (nextOf s j + 1) 0 = linkOf s j := by
    unfold nextOf linkOf packT
    rw [cut_id 0 36 (by omega) (by decide)]
    split
    · rw [cut_id _ 17 (by omega) (by simp; omega)]; omega
    · rfl
  rwa [h] at e

theorem CfgAt.only {w w' : World} {S : Nat → Prop} {b : Nat} {t s k n g p r : Int} (h : CfgAt w b t s k n g p r) (o : Only S w w') (hs : ¬ S b) : CfgAt w' b t s k n g p r :=
  ⟨o.keep hs h.c0, o.keep hs h.c1, o.keep hs h.c2, o.keep hs h.c3, o.keep hs h.c4, o.keep hs h.c5, o.keep hs h.c6⟩

theorem mgrow {w a b : World} {L : Loc} (h : Below w.heap.size w a) (o : Only L.has a b) (hc : ∀ k, L.has k → w.heap.size ≤ k) : Below w.heap.size w b :=
  h.trans (o.below h.size (fun i hi hs => by have := hc i hs; omega))

set_option maxHeartbeats 1000000 in
theorem fresh_good {t s k n : Nat} {g p r : Int} (h : Good t s k n g p r) (w : World) :
    Calls Try.prog 12 #[.agg #[.int .i64 t, .int .i64 s, .int .i64 k, .int .i64 n, .int .i64 g, .int .i64 p, .int .i64 r]] w fun e w' => ∃ L : Loc, e = .returned (.tuple #[.pointer (some ⟨L.p, 0, none⟩), .int .i64 0]) ∧ MemAt w' L (Mm.laid t s (arenaLen t s k n) s) ∧ Below w.heap.size w w' ∧ ∀ k, L.has k → w.heap.size ≤ k := by
  have hA := h.arena
  have hwd := h.words
  have hs1 := h.s1
  have ht1 := h.t1
  have hk1 := h.k1
  have hlen : arenaLen t s k n ≤ 200000 ∧ 1 < arenaLen t s k n := by unfold arenaLen; omega
  go_enter Try.func12, Try.ntmps12
  go_wp2_with (first
    | (go_at_call 23; refine (lcheck_yes h _).mono ?_; rintro e w1 ⟨rfl, b1⟩; have c1 := CfgAt.new.grown b1; have e0 := c1.c0; have e1 := c1.c1; have e2 := c1.c2; have e3 := c1.c3; have e4 := c1.c4; have e5 := c1.c5; have e6 := c1.c6)
    | (go_at_call 25; refine (llen_good h _).mono ?_; rintro e w2 ⟨rfl, b2⟩)
    | (go_at_call 24; refine (new_in (arenaLen t s k n) (by omega) (by omega) _).mono ?_; rintro e w3 ⟨L, rfl, m3, b3, f3⟩)
    | (go_at_call 27; refine (ltop_any _).mono ?_; rintro e w4 ⟨rfl, rfl⟩)
    | (go_at_call 28; refine (top_first _).mono ?_; rintro e w5 ⟨rfl, rfl⟩)
    | (go_at_call 26; refine (store_in m3 1 (by have := hlen.2; exact this) 1).mono ?_; rintro e w6 ⟨rfl, m6, o6, z6⟩; have c6 := (((c1.grown b2).grown b3).only o6 (fun hL => by have := f3 _ hL; have := b2.size; have := b1.size; simp at this; omega)); have x1 := c6.c1))
  have hB : Below w.heap.size w w6 := mgrow (grow (grow (grow (grow_alloc (Below.refl _ _) _) b1) b2) b3) o6 (fun k hk => by have := f3 k hk; have := b2.size; have := b1.size; simp at *; omega)
  have hL : ∀ i, L.has i → w.heap.size < i := fun k hk => by have := f3 k hk; have := b2.size; have := b1.size; simp at *; omega
  clear b1 b2 b3 o6 z6 e0 e1 e2 e3 e4 e5 e6 c1 m3 f3
  have m6' : MemAt w6 L (Mm.laid t s (arenaLen t s k n) 0) := m6
  clear m6
  go_loopw [6, 25] (fun _ i wr => ∃ j : Nat, j ≤ s ∧ i = .int .i64 j ∧ MemAt wr L (Mm.laid t s (arenaLen t s k n) j) ∧ CfgAt wr w.heap.size t s k n g p r ∧ Below w.heap.size w wr) (fun _ i _ => s - (intOf i).toNat)
  case atStart => exact ⟨0, by omega, rfl, m6', c6, hB⟩
  case round =>
    clear m6' c6 hB x1
    obtain ⟨j, hj, rfl, hm, hc, hb⟩ := hrel
    by_cases hlt : j < s
    · have hlt' : (j : Int) < (s : Int) := by omega
      have e0 := hc.c0
      have e1 := hc.c1
      have e2 := hc.c2
      have e3 := hc.c3
      have e4 := hc.c4
      have e5 := hc.c5
      have e6 := hc.c6
      go_wp2_with (first
        | (go_at_call 18; refine (lslot_any _ _ _ _ _ _ _ _ _ hA (by omega) (by omega)).mono ?_; rintro e w1 ⟨rfl, b1⟩)
        | (go_at_call 29; refine (slot_free _).mono ?_; rintro e w2 ⟨rfl, b2⟩)
        | (go_at_call 26; refine (store_in ((hm.below b1).below b2) (6 + t + j * 2) (by rw [Mm.laid_n]; unfold arenaLen; omega) _).mono ?_; rintro e w3 ⟨rfl, m3, o3, z3⟩))
      have c3 : CfgAt w3 w.heap.size t s k n g p r := ((hc.grown b1).grown b2).only o3 (fun hh => by have := hL _ hh; omega)
      have hb3 : Below w.heap.size w w3 := mgrow (grow (grow hb b1) b2) o3 (fun i hi => by have := hL i hi; omega)
      clear b1 b2 o3 z3 e0 e1 e2 e3 e4 e5 e6 hc hm hb
      refine wp_region_rely_tail Grown 9 [.val (.pointer (some ⟨L.p, 0, none⟩)), .val (.agg #[.int .i64 t, .int .i64 s, .int .i64 k, .int .i64 n, .int .i64 g, .int .i64 p, .int .i64 r]), .val (.int .i64 j), .val (.int .i64 (6 + t + j * 2)), .val (.int .i64 (6 + t + j * 2 + 1)),
        .val (.agg #[.int .i64 t, .int .i64 s, .int .i64 k, .int .i64 n, .int .i64 g, .int .i64 p, .int .i64 r]), .val (.int .i64 j), .val (.int .i64 (nextOf s j)), .val (.int .u64 (linkOf s j))] (by kernel_rfl) Grown.refl Grown.trans (by decide) (by kernel_rfl) (by kernel_rfl) (by kernel_rfl) (by kernel_rfl) (by kernel_rfl) (by kernel_rfl) ?_
      simp only [List.take_succ_cons, List.take_zero, relyAll, Act.put, List.setIfInBounds_toArray, List.set_cons_zero, List.set_cons_succ]
      refine ⟨?_, ?_, ?_, ?_, ?_, ?_, ?_, ?_, ?_, ?_⟩
      · intro w' hg _
        refine Or.inl ⟨rfl, ?_⟩
        go_simp
        exact ⟨Grown.refl _, rfl⟩
      · intro w' hg _
        refine Or.inl ⟨rfl, ?_⟩
        have cc := c3.grown (Grown.trans _ _ _ (Grown.drew w3) hg)
        have e0 := cc.c0
        have e1 := cc.c1
        have e2 := cc.c2
        have e3 := cc.c3
        have e4 := cc.c4
        have e5 := cc.c5
        have e6 := cc.c6
        go_simp
        exact ⟨Grown.refl _, rfl⟩
      · intro w' hg _
        refine Or.inl ⟨rfl, ?_⟩
        go_simp
        exact ⟨Grown.refl _, rfl⟩
      · intro w' hg _
        refine Or.inl ⟨rfl, ?_⟩
        go_simp
        refine (lslot_any _ _ _ _ _ _ _ _ _ hA (by omega) (by omega)).mono ?_
        rintro e w'' ⟨rfl, b1⟩
        exact ⟨_, rfl, b1, rfl⟩
      · intro w' hg _
        refine Or.inl ⟨rfl, ?_⟩
        go_simp
        exact ⟨Grown.refl _, by simp only [Want.pred]; congr 1; rw [IntKind.wrap_i64]; omega⟩
      · intro w' hg _
        refine Or.inl ⟨rfl, ?_⟩
        have cc := c3.grown (Grown.trans _ _ _ (Grown.drew w3) hg)
        have e0 := cc.c0
        have e1 := cc.c1
        have e2 := cc.c2
        have e3 := cc.c3
        have e4 := cc.c4
        have e5 := cc.c5
        have e6 := cc.c6
        go_simp
        exact ⟨Grown.refl _, rfl⟩
      · intro w' hg _
        refine Or.inl ⟨rfl, ?_⟩
        go_simp
        exact ⟨Grown.refl _, rfl⟩
      · intro w' hg _
        refine Or.inl ⟨rfl, ?_⟩
        go_simp
        refine (lnext_any _ _ _ _ _ _ _ _ _ (by omega)).mono ?_
        rintro e w'' ⟨rfl, b1⟩
        exact ⟨_, rfl, b1, rfl⟩
      · intro w' hg _
        refine Or.inl ⟨rfl, ?_⟩
        go_simp
        refine (top_next _ _ hs1 _).mono ?_
        rintro e w'' ⟨rfl, rfl⟩
        exact ⟨_, rfl, Grown.refl _, rfl⟩
      · intro w' hg _
        have hg' := Grown.trans _ _ _ (Grown.drew w3) hg
        simp only [List.drop_succ_cons, List.drop_zero]
        go_wp2_with ((go_at_call 26; refine (store_in (m3.below hg') (6 + t + j * 2 + 1) (by show _ < (Mm.laid t s (arenaLen t s k n) j).n; rw [Mm.laid_n]; unfold arenaLen; omega) _).mono ?_; rintro e w5 ⟨rfl, m5, o5, z5⟩))
        go_roundw
        case rel => exact ⟨j + 1, by omega, by go_num, m5, (c3.grown hg').only o5 (fun hh => by have := hL _ hh; omega), mgrow (grow hb3 hg') o5 (fun i hi => by have := hL i hi; omega)⟩
        case measure => simp [intOf]; omega
    · have hlt' : ¬ (j : Int) < (s : Int) := by omega
      rw [show j = s by omega] at hm
      clear hc
      go_wp2
      go_ret2
      exact ⟨L, rfl, hm, hb, fun i hi => by have := hL i hi; omega⟩

theorem fresh_bad {t s k n g p r : Int} (h : may t s k n g p r = false) (w : World) :
    Calls Try.prog 12 #[.agg #[.int .i64 t, .int .i64 s, .int .i64 k, .int .i64 n, .int .i64 g, .int .i64 p, .int .i64 r]] w fun e w' => e = .returned (.tuple #[.pointer none, .int .i64 1]) ∧ Below w.heap.size w w' := by
  have hc := fun w => lcheck_any t s k n g p r w
  rw [h] at hc
  have HC : Hid (∀ w : World, Calls Try.prog 23 #[.agg #[.int .i64 t, .int .i64 s, .int .i64 k, .int .i64 n, .int .i64 g, .int .i64 p, .int .i64 r]] w fun e w' => e = .returned (.bool false) ∧ Below w.heap.size w w') := hc
  clear hc
  go_enter Try.func12, Try.ntmps12
  go_wp2_with (go_at_call 23; refine (HC.out _).mono ?_; rintro e w1 ⟨rfl, b1⟩)
  go_ret2
  exact ⟨rfl, grow (grow_alloc (Below.refl _ _) _) b1⟩

end Go.Proofs.Ytocmkmeikcejjaa
