/- LayoutFresh answers true for every two arenas, and leaves what was in memory. -/
import Derived.Test.YtcdeicbbaidjkaaLayoutPlacesWalk
import Derived.Test.YtcdeicbbaidjkaaRefword
namespace Go.Proofs.Ytcdeicbbaidjkaa
open Go.RowKit

theorem mlen_is {w : World} {L : Loc} {s : Mm} (h : MemAt w L s) (x : Nat) (hx : s.n = x) :
    Calls Try.prog 28 #[.pointer (some ⟨L.p, 0, none⟩)] w fun e w' => e = .returned (.int .i64 x) ∧ w' = w := by
  subst hx; exact len_any h

theorem rslot_free (w : World) : Calls Try.prog 29 #[.agg #[.int .i64 0, .int .i64 0, .int .i64 1, .int .i64 0]] w fun e w' => e = .returned (.int .u64 8388608) ∧ Below w.heap.size w w' :=
  refSlot_any 0 0 1 0 w (by unfold Fit; decide) (by unfold Fit; decide) (by unfold Fit; decide) (by unfold Fit; decide)

set_option maxRecDepth 20000 in
set_option maxHeartbeats 4000000 in
theorem layoutFresh_any (t s k n g p r bt bs bk bn bg bp br : Int) (w : World) :
    Calls Try.prog 7 #[.agg #[.int .i64 t, .int .i64 s, .int .i64 k, .int .i64 n, .int .i64 g, .int .i64 p, .int .i64 r], .agg #[.int .i64 bt, .int .i64 bs, .int .i64 bk, .int .i64 bn, .int .i64 bg, .int .i64 bp, .int .i64 br]] w fun e w' => e = .returned (.bool true) ∧ Below w.heap.size w w' := by
  obtain ⟨t', s', k', n', g', p', r', hs, hcfg⟩ := config_any t s k n g p r
  have HC : Hid (∀ w : World, Calls Try.prog 12 #[.agg #[.int .i64 t, .int .i64 s, .int .i64 k, .int .i64 n, .int .i64 g, .int .i64 p, .int .i64 r]] w fun e w' => e = .returned (.agg #[.int .i64 t', .int .i64 s', .int .i64 k', .int .i64 n', .int .i64 g', .int .i64 p', .int .i64 r']) ∧ Below w.heap.size w w') := hcfg
  clear hcfg
  have hA := hs.good.arena
  have hG := hs.good
  have hn : (1 : Int) ≤ (n' : Int) := by have := hs.n0; omega
  have hw := hs.good.words
  obtain ⟨len, hlen⟩ : ∃ len, len = arenaLen t' s' k' n' := ⟨_, rfl⟩
  have hl := hs.len
  rw [← hlen] at hl
  obtain ⟨hl1, hl2⟩ := hl
  have ht := hs.t1
  have hs' := hs.s1
  have hs0 := hs.s0
  have hk' := hs.k1
  have hn' := hs.n1
  have HL : Hid (len = arenaLen t' s' k' n') := hlen
  have HF : Hid (∀ w : World, Calls Try.prog 27 #[.agg #[.int .i64 t', .int .i64 s', .int .i64 k', .int .i64 n', .int .i64 g', .int .i64 p', .int .i64 r']] w fun e w' => ∃ L : Loc, e = .returned (.tuple #[.pointer (some ⟨L.p, 0, none⟩), .int .i64 0]) ∧ MemAt w' L (Mm.laid t' s' len s') ∧ Below w.heap.size w w' ∧ ∀ k, L.has k → w.heap.size ≤ k) := by
    rw [hlen]; exact fun w => fresh_good hG w
  have HLN : Hid (∀ w : World, Calls Try.prog 13 #[.agg #[.int .i64 t', .int .i64 s', .int .i64 k', .int .i64 n', .int .i64 g', .int .i64 p', .int .i64 r']] w fun e w' => e = .returned (.int .i64 len) ∧ Below w.heap.size w w') := by
    rw [hlen]; exact fun w => llen_good hG w
  clear hlen hs
  have HK : Hid (∀ (a K I X : Int), a ≤ 4000 → KindIs t' s' k' n' a K I X → ∀ w : World, Calls Try.prog 14 #[.agg #[.int .i64 t', .int .i64 s', .int .i64 k', .int .i64 n', .int .i64 g', .int .i64 p', .int .i64 r'], .int .i64 a] w fun e w' => e = .returned (.tuple #[.int .i64 K, .int .i64 I, .int .i64 X]) ∧ Below w.heap.size w w') :=
    fun a K I X ha hK w => rkind_is g' p' r' w hA hn (m := ((k' * n' : Nat) : Int)) (by simp) (by omega) (by omega) (by omega) hK
  obtain ⟨S, hS⟩ : ∃ S, S = Mm.laid t' s' len s' := ⟨_, rfl⟩
  rw [← hS] at HF
  have hSn : S.n = len := by rw [hS]; exact Mm.laid_n _ _ _ _
  have HSN : Hid (S.n = len) := hSn
  have HS : Hid (S = Mm.laid t' s' len s') := hS
  clear hS hSn
  go_enter Try.func7, Try.ntmps7
  go_wp2_with (first
    | (go_at_call 12; refine (HC.out _).mono ?_; rintro e w1 ⟨rfl, b1⟩)
    | (go_at_call 27; refine (HF.out _).mono ?_; rintro e w2 ⟨L, rfl, m2, b2, f2⟩))
  have c2 := CfgAt.new.grown b2
  have B2 : Below w.heap.size w w2 := grow (grow_alloc (grow (grow_alloc (grow_alloc (Below.refl _ _) _) _) b1) _) b2
  have d2 : CfgAt w2 (w.heap.size + 1) bt bs bk bn bg bp br := by
    have e := CfgAt.new (w := w.alloc (.cells #[.int .i64 t, .int .i64 s, .int .i64 k, .int .i64 n, .int .i64 g, .int .i64 p, .int .i64 r] 23)) (t := bt) (s := bs) (k := bk) (n := bn) (g := bg) (p := bp) (r := br) (T := 23)
    rw [Go.Deep.nblk_alloc] at e
    exact ((e.grown b1).grown (grow_alloc (Below.refl _ _) _)).grown b2
  clear b1 b2 f2
  have e0 := fun N : Later w2 => (c2.grown N.below).c0
  have e1 := fun N : Later w2 => (c2.grown N.below).c1
  have e2 := fun N : Later w2 => (c2.grown N.below).c2
  have e3 := fun N : Later w2 => (c2.grown N.below).c3
  have e4 := fun N : Later w2 => (c2.grown N.below).c4
  have e5 := fun N : Later w2 => (c2.grown N.below).c5
  have e6 := fun N : Later w2 => (c2.grown N.below).c6
  haveI := Later.exists w2
  refine wp_region_later (by kernel_rfl) (by kernel_rfl) ?_
  repeat (go_big_quiet_step ((first
    | (go_at_call 9; exact Calls.later (awake04_any _))
    | (go_at_call 28; exact Calls.later_same (mlen_is (m2.below (Later.below _)) len HSN.out))
    | (go_at_call 13; exact Calls.later (HLN.out _)))))
  refine wpQuiet_nil ?_
  rintro _ ⟨nq, rfl⟩
  have c3 := c2.grown nq.below
  have d3 := d2.grown nq.below
  have m3 := m2.below nq.below
  have B3 := grow B2 nq.below
  generalize nq.now = w3 at *
  clear e0 e1 e2 e3 e4 e5 e6 c2 d2 m2 B2
  go_wp2
  go_loopw [8] (fun i wr => ∃ a : Nat, a ≤ len ∧ i = .int .i64 a ∧ CfgAt wr w1.heap.size t' s' k' n' g' p' r' ∧ CfgAt wr (w.heap.size + 1) bt bs bk bn bg bp br ∧ MemAt wr L S ∧ Below w.heap.size w wr) (fun i _ => len - (intOf i).toNat)
  case atStart => exact ⟨0, by omega, rfl, c3, d3, m3, B3⟩
  case round =>
    clear c3 d3 m3 B3
    obtain ⟨a, ha, rfl, hc, hd, hm, hb⟩ := hrel
    by_cases hlt : a < len
    · have hlt' : (a : Int) < (len : Int) := by omega
      have e0 := hc.c0
      have e1 := hc.c1
      have e2 := hc.c2
      have e3 := hc.c3
      have e4 := hc.c4
      have e5 := hc.c5
      have e6 := hc.c6
      obtain ⟨K, I, X, hK⟩ := KindIs.some hA hn (a : Int)
      have hKc := HK.out a K I X (by omega) hK
      have HKc : Hid (∀ w : World, Calls Try.prog 14 #[.agg #[.int .i64 t', .int .i64 s', .int .i64 k', .int .i64 n', .int .i64 g', .int .i64 p', .int .i64 r'], .int .i64 a] w fun e w' => e = .returned (.tuple #[.int .i64 K, .int .i64 I, .int .i64 X]) ∧ Below w.heap.size w w') := hKc
      clear hKc
      have han : Hid (a < S.n) := by rw [HSN.out]; exact hlt
      cases hK with
      | low h => exfalso; omega
      | high h => exfalso; have := HL.out; unfold arenaLen at this; have e : ((k' * n' : Nat) : Int) = (k' : Int) * (n' : Int) := by simp
                  omega
      | epoch h =>
        obtain rfl : a = 0 := by omega
        have HX : Hid (S.wd 0 = 0) := by rw [HS.out]; exact laid_else _ _ _ _ _ (by omega) (by omega)
        clear h
        go_wp2_with (first
          | (go_at_call 28; refine (mlen_is hm len HSN.out).mono ?_; rintro e w4 ⟨rfl, rfl⟩)
          | (go_at_call 14; refine (HKc.out _).mono ?_; rintro e w5 ⟨rfl, b5⟩; have c5 := hc.grown b5; have f1 := c5.c1)
          | (go_at_call 30; refine (peek_is (hm.below b5) _ han.out _ HX.out).mono ?_; rintro e w6 ⟨rfl, rfl⟩))
        go_roundw
        case rel => exact ⟨0 + 1, by omega, by go_num, hc.grown b5, hd.grown b5, hm.below b5, grow hb b5⟩
        case measure => simp [intOf]; omega
      | top h =>
        obtain rfl : a = 1 := by omega
        have HX : Hid (S.wd 1 = 1) := by rw [HS.out]; exact laid_top _ _ _ _
        clear h
        go_wp2_with (first
          | (go_at_call 28; refine (mlen_is hm len HSN.out).mono ?_; rintro e w4 ⟨rfl, rfl⟩)
          | (go_at_call 14; refine (HKc.out _).mono ?_; rintro e w5 ⟨rfl, b5⟩; have c5 := hc.grown b5; have f1 := c5.c1)
          | (go_at_call 30; refine (peek_is (hm.below b5) _ han.out _ HX.out).mono ?_; rintro e w6 ⟨rfl, rfl⟩))
        go_roundw
        case rel => exact ⟨1 + 1, by omega, by go_num, hc.grown b5, hd.grown b5, hm.below b5, grow hb b5⟩
        case measure => simp [intOf]; omega
      | opens i i0 i1 h =>
        have HX : Hid (S.wd a = 0) := by rw [HS.out]; exact laid_else _ _ _ _ _ (by omega) (by omega)
        clear h
        go_wp2_with (first
          | (go_at_call 28; refine (mlen_is hm len HSN.out).mono ?_; rintro e w4 ⟨rfl, rfl⟩)
          | (go_at_call 14; refine (HKc.out _).mono ?_; rintro e w5 ⟨rfl, b5⟩; have c5 := hc.grown b5; have f1 := c5.c1)
          | (go_at_call 30; refine (peek_is (hm.below b5) a han.out _ HX.out).mono ?_; rintro e w6 ⟨rfl, rfl⟩))
        go_roundw
        case rel => exact ⟨a + 1, by omega, by go_num, hc.grown b5, hd.grown b5, hm.below b5, grow hb b5⟩
        case measure => simp [intOf]; omega
      | pin i i0 i1 h =>
        have HX : Hid (S.wd a = 0) := by rw [HS.out]; exact laid_else _ _ _ _ _ (by omega) (by omega)
        clear h
        go_wp2_with (first
          | (go_at_call 28; refine (mlen_is hm len HSN.out).mono ?_; rintro e w4 ⟨rfl, rfl⟩)
          | (go_at_call 14; refine (HKc.out _).mono ?_; rintro e w5 ⟨rfl, b5⟩; have c5 := hc.grown b5; have f1 := c5.c1)
          | (go_at_call 30; refine (peek_is (hm.below b5) a han.out _ HX.out).mono ?_; rintro e w6 ⟨rfl, rfl⟩))
        go_roundw
        case rel => exact ⟨a + 1, by omega, by go_num, hc.grown b5, hd.grown b5, hm.below b5, grow hb b5⟩
        case measure => simp [intOf]; omega
      | chunk i i0 i1 h =>
        have HX : Hid (S.wd a = 0) := by rw [HS.out]; exact laid_else _ _ _ _ _ (by omega) (by omega)
        clear h
        go_wp2_with (first
          | (go_at_call 28; refine (mlen_is hm len HSN.out).mono ?_; rintro e w4 ⟨rfl, rfl⟩)
          | (go_at_call 14; refine (HKc.out _).mono ?_; rintro e w5 ⟨rfl, b5⟩; have c5 := hc.grown b5; have f1 := c5.c1)
          | (go_at_call 30; refine (peek_is (hm.below b5) a han.out _ HX.out).mono ?_; rintro e w6 ⟨rfl, rfl⟩))
        go_roundw
        case rel => exact ⟨a + 1, by omega, by go_num, hc.grown b5, hd.grown b5, hm.below b5, grow hb b5⟩
        case measure => simp [intOf]; omega
      | live i i0 i1 h =>
        have HX : Hid (S.wd a = 0) := by rw [HS.out]; exact laid_else _ _ _ _ _ (by omega) (by omega)
        clear h
        go_wp2_with (first
          | (go_at_call 28; refine (mlen_is hm len HSN.out).mono ?_; rintro e w4 ⟨rfl, rfl⟩)
          | (go_at_call 14; refine (HKc.out _).mono ?_; rintro e w5 ⟨rfl, b5⟩; have c5 := hc.grown b5; have f1 := c5.c1)
          | (go_at_call 30; refine (peek_is (hm.below b5) a han.out _ HX.out).mono ?_; rintro e w6 ⟨rfl, rfl⟩))
        go_roundw
        case rel => exact ⟨a + 1, by omega, by go_num, hc.grown b5, hd.grown b5, hm.below b5, grow hb b5⟩
        case measure => simp [intOf]; omega
      | when i i0 i1 h =>
        have HX : Hid (S.wd a = 0) := by rw [HS.out]; exact laid_else _ _ _ _ _ (by omega) (by omega)
        clear h
        go_wp2_with (first
          | (go_at_call 28; refine (mlen_is hm len HSN.out).mono ?_; rintro e w4 ⟨rfl, rfl⟩)
          | (go_at_call 14; refine (HKc.out _).mono ?_; rintro e w5 ⟨rfl, b5⟩; have c5 := hc.grown b5; have f1 := c5.c1)
          | (go_at_call 30; refine (peek_is (hm.below b5) a han.out _ HX.out).mono ?_; rintro e w6 ⟨rfl, rfl⟩))
        go_roundw
        case rel => exact ⟨a + 1, by omega, by go_num, hc.grown b5, hd.grown b5, hm.below b5, grow hb b5⟩
        case measure => simp [intOf]; omega
      | word i x i0 i1 x0 x1 h =>
        have HX : Hid (S.wd a = 0) := by
          have m0 : 0 ≤ I * (n' : Int) := Int.mul_nonneg i0 (by omega)
          rw [HS.out]; exact laid_else _ _ _ _ _ (by omega) (by omega)
        clear h
        go_wp2_with (first
          | (go_at_call 28; refine (mlen_is hm len HSN.out).mono ?_; rintro e w4 ⟨rfl, rfl⟩)
          | (go_at_call 14; refine (HKc.out _).mono ?_; rintro e w5 ⟨rfl, b5⟩; have c5 := hc.grown b5; have f1 := c5.c1)
          | (go_at_call 30; refine (peek_is (hm.below b5) a han.out _ HX.out).mono ?_; rintro e w6 ⟨rfl, rfl⟩))
        go_roundw
        case rel => exact ⟨a + 1, by omega, by go_num, hc.grown b5, hd.grown b5, hm.below b5, grow hb b5⟩
        case measure => simp [intOf]; omega
      | slot i i0 i1 h =>
        obtain ⟨j, rfl⟩ := Int.eq_ofNat_of_zero_le i0
        have HX : Hid (S.wd a = 8388608) := by rw [HS.out, show a = 6 + t' + j * 2 by omega]; exact laid_slot _ _ _ _ _ (by omega)
        clear h
        go_wp2_with (first
          | (go_at_call 28; refine (mlen_is hm len HSN.out).mono ?_; rintro e w4 ⟨rfl, rfl⟩)
          | (go_at_call 14; refine (HKc.out _).mono ?_; rintro e w5 ⟨rfl, b5⟩; have c5 := hc.grown b5; have f1 := c5.c1)
          | (go_at_call 30; refine (peek_is (hm.below (grow b5 b7)) a han.out _ HX.out).mono ?_; rintro e w6 ⟨rfl, rfl⟩)
          | (go_at_call 29; refine (rslot_free _).mono ?_; rintro e w7 ⟨rfl, b7⟩))
        go_roundw
        case rel => exact ⟨a + 1, by omega, by go_num, hc.grown (grow b5 b7), hd.grown (grow b5 b7), hm.below (grow b5 b7), grow hb (grow b5 b7)⟩
        case measure => simp [intOf]; omega
      | link i i0 i1 h =>
        obtain ⟨j, rfl⟩ := Int.eq_ofNat_of_zero_le i0
        have hx : S.wd a = linkOf s' j := by rw [HS.out, show a = 6 + t' + j * 2 + 1 by omega]; exact laid_link _ _ _ _ _ (by omega)
        unfold linkOf at hx
        clear h
        by_cases hlast : j + 1 < s'
        · rw [if_pos hlast] at hx
          have HX : Hid (S.wd a = (j : Int) + 2) := hx
          clear hx
          have hne : ¬ (j : Int) = (s' : Int) - 1 := by omega
          go_wp2_with (first
          | (go_at_call 28; refine (mlen_is hm len HSN.out).mono ?_; rintro e w4 ⟨rfl, rfl⟩)
          | (go_at_call 14; refine (HKc.out _).mono ?_; rintro e w5 ⟨rfl, b5⟩; have c5 := hc.grown b5; have f1 := c5.c1)
          | (go_at_call 30; refine (peek_is (hm.below b5) a han.out _ HX.out).mono ?_; rintro e w6 ⟨rfl, rfl⟩))
          go_roundw
          case rel => exact ⟨a + 1, by omega, by go_num, hc.grown b5, hd.grown b5, hm.below b5, grow hb b5⟩
          case measure => simp [intOf]; omega
        · rw [if_neg hlast] at hx
          have HX : Hid (S.wd a = 0) := hx
          clear hx
          have heq : (s' : Int) - 1 = (j : Int) := by omega
          go_wp2_with (first
          | (go_at_call 28; refine (mlen_is hm len HSN.out).mono ?_; rintro e w4 ⟨rfl, rfl⟩)
          | (go_at_call 14; refine (HKc.out _).mono ?_; rintro e w5 ⟨rfl, b5⟩; have c5 := hc.grown b5; have f1 := c5.c1)
          | (go_at_call 30; refine (peek_is (hm.below b5) a han.out _ HX.out).mono ?_; rintro e w6 ⟨rfl, rfl⟩))
          go_roundw
          case rel => exact ⟨a + 1, by omega, by go_num, hc.grown b5, hd.grown b5, hm.below b5, grow hb b5⟩
          case measure => simp [intOf]; omega
    · have hlt' : ¬ (a : Int) < (len : Int) := by omega
      have e0 := hd.c0
      have e1 := hd.c1
      have e2 := hd.c2
      have e3 := hd.c3
      have e4 := hd.c4
      have e5 := hd.c5
      have e6 := hd.c6
      cases hmay : may bt bs bk bn bg bp br with
      | true =>
        have HM : Hid (∀ w : World, Calls Try.prog 11 #[.agg #[.int .i64 bt, .int .i64 bs, .int .i64 bk, .int .i64 bn, .int .i64 bg, .int .i64 bp, .int .i64 br]] w fun e w' => e = .returned (.bool true) ∧ Below w.heap.size w w') := by rw [← hmay]; exact fun w => rcheck_any _ _ _ _ _ _ _ w
        clear hmay
        go_wp2_with (first
          | (go_at_call 28; refine (mlen_is hm len HSN.out).mono ?_; rintro e w4 ⟨rfl, rfl⟩)
          | (go_at_call 11; refine (HM.out _).mono ?_; rintro e w5 ⟨rfl, b5⟩))
        go_ret
        exact ⟨rfl, grow hb b5⟩
      | false =>
        have HM : Hid (∀ w : World, Calls Try.prog 11 #[.agg #[.int .i64 bt, .int .i64 bs, .int .i64 bk, .int .i64 bn, .int .i64 bg, .int .i64 bp, .int .i64 br]] w fun e w' => e = .returned (.bool false) ∧ Below w.heap.size w w') := by rw [← hmay]; exact fun w => rcheck_any _ _ _ _ _ _ _ w
        have HB : Hid (∀ w : World, Calls Try.prog 27 #[.agg #[.int .i64 bt, .int .i64 bs, .int .i64 bk, .int .i64 bn, .int .i64 bg, .int .i64 bp, .int .i64 br]] w fun e w' => e = .returned (.tuple #[.pointer none, .int .i64 1]) ∧ Below w.heap.size w w') := fun w => fresh_bad hmay w
        clear hmay
        go_wp2_with (first
          | (go_at_call 28; refine (mlen_is hm len HSN.out).mono ?_; rintro e w4 ⟨rfl, rfl⟩)
          | (go_at_call 11; refine (HM.out _).mono ?_; rintro e w5 ⟨rfl, b5⟩; have cc := hd.grown b5; have f0 := cc.c0; have f1 := cc.c1; have f2 := cc.c2; have f3 := cc.c3; have f4 := cc.c4; have f5 := cc.c5; have f6 := cc.c6)
          | (go_at_call 27; refine (HB.out _).mono ?_; rintro e w6 ⟨rfl, b6⟩))
        go_ret
        exact ⟨rfl, grow (grow hb b5) b6⟩

end Go.Proofs.Ytcdeicbbaidjkaa
