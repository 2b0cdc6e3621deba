/- SlotAgain answers true for all numbers, and leaves what was in memory. -/
import Derived.Test.YtfedcddnjollmaaSlotArena
namespace Go.Proofs.Ytfedcddnjollmaa
open Go.RowKit

theorem upFrom_two (n : Nat) (h : 2 ≤ n) : ∃ R, upFrom n n = 0 :: 1 :: R := by
  obtain ⟨m, rfl⟩ : ∃ m, n = m + 2 := ⟨n - 2, by omega⟩
  refine ⟨upFrom (m + 2) m, ?_⟩
  show (m + 2 - (m + 1 + 1)) :: (m + 2 - (m + 1)) :: upFrom (m + 2) m = _
  rw [show m + 2 - (m + 1 + 1) = 0 by omega, show m + 2 - (m + 1) = 1 by omega]

/-- the arena and one who takes, while two steps are done -/
def phTwo (w0 : World) (L : Loc) (bE B t n : Nat) (q : Nat) (σ : Nat) (lk : Nat → Nat) (x : Nat) (F : List Nat) (k : Nat) (w : World) : Prop :=
  k ≤ 2 ∧ ∃ s cs, Field w0 w L bE t n s (σ + k) 0 lk (x :: F) ∧ TkAt w B 0 43 cs (alone x 0 q k)

theorem Field.vain {w0 w : World} {L : Loc} {bE t n σ c x q : Nat} {s : Mm} {lk : Nat → Nat} {F : List Nat} {B : Nat} {cs : Array Value} (f : Field w0 w L bE t n s σ c lk F) (a : FieldApart w0 L bE) (hB : ¬ L.has B) (hbe : bE ≠ B) (hb0 : w0.heap.size ≤ B) (hσ : σ < 1000000) (ht8 : t ≤ 8) (hx : x < n) (hq : q ≤ n) (hc : 0 < c) (hi : TkAt w B 0 43 cs (.lnk x 0 q)) :
    Calls Try.prog 13 #[.pointer (some ⟨B, 0, none⟩), .agg #[.int .i64 t, .int .i64 n, .int .i64 1, .int .i64 20, .int .i64 100, .int .i64 600, .int .i64 3, .pointer (some ⟨L.p, 0, none⟩), .int .i64 0]] w fun e w' => e = .returned (.bool false) ∧ ∃ s' cs', Field w0 w' L bE t n s' (σ + 1) c lk F ∧ TkAt w' B 0 43 cs' .idle ∧ Only (L.and B) w w' := by
  refine (take_step f.m hB f.p hσ ht8 _ hi ⟨hx, hq, Nat.zero_le _, fun e => by omega⟩ rfl 1 20 100 600 3 0).mono ?_
  rintro e w' ⟨s', cs', c', F', τ', rfl, T⟩
  obtain ⟨tn, m, p, i, sm, o, gd, at1, st, ln⟩ := T
  cases tn with
  | took => omega
  | vain => exact ⟨rfl, s', cs', f.only a hb0 hbe o m p, i, o⟩

set_option maxRecDepth 20000 in
set_option maxHeartbeats 4000000 in
theorem slotAgain_any (slots times : Int) (w : World) :
    Calls Try.prog 5 #[.int .i64 slots, .int .i64 times] w fun e w' => e = .returned (.bool true) ∧ Below w.heap.size w w' := by
  obtain ⟨n, hn, hn2, hn9⟩ := lowAt slots 7 3 2 (by decide) (by decide)
  have hn' : (2 : Int) + bits .and .i64 slots 7 = (n : Int) := hn
  clear hn
  obtain ⟨T, hT, hT3⟩ := low0 times 3 2 (by decide) (by decide)
  obtain ⟨R, hR⟩ := upFrom_two n hn2
  have AR := fun w => arena06 (t := 2) (n := n) (by omega) (by omega) w
  rw [hR] at AR
  have hn9' : n ≤ 9 := by omega
  clear hR hn9
  go_enter Try.func5, Try.ntmps5
  go_wp2_with (first
    | (go_at_call 8; refine (AR _).mono ?_; rintro e w1 ⟨L, s, rfl, m1, p1, hs1, b1, f1⟩)
    | (go_at_call 9; refine (awake06_any _).mono ?_; rintro e w2 ⟨rfl, b2⟩))
  obtain ⟨fd, fa⟩ := Field.first m1 p1 b1 f1
  have FA : Hid (FieldApart w L w1.heap.size) := fa
  have F3 := (fd.grown b2).alloc (.cells #[.int .i64 0, .int .u64 0, .int .i64 0, .int .i64 0] 43)
  have i3 := take0 w2
  have z2 : w1.heap.size < w2.heap.size := by have := b2.size; rw [Go.Deep.nblk_alloc] at this; exact this
  have hBL : Hid (¬ L.has w2.heap.size) := fun hh => by have := m1.lt _ hh; omega
  have hBE : Hid (w1.heap.size ≠ w2.heap.size) := by unfold Hid; omega
  have hB0 : Hid (w.heap.size ≤ w2.heap.size) := by unfold Hid; have := b1.size; omega
  have hq : Hid (link0 n 0 ≤ n) := p1.lkle 0 (by omega)
  refine wp_over (fun W => Field w W L w1.heap.size 2 n s (1 + 2 * n) 0 (link0 n) (0 :: 1 :: R) ∧ TkAt W w2.heap.size 0 43 #[.int .i64 0, .int .u64 0, .int .i64 0, .int .i64 0] (alone 0 0 (link0 n 0) 0)) ⟨F3, i3⟩ ?_
  clear F3 i3 z2 fd fa m1 p1 hs1 b1 f1 b2 AR hn'
  rintro W ⟨F3, i3⟩
  have hn2' : Hid (2 ≤ n) := hn2
  refine wp_region_phase (Only (L.and w2.heap.size)) (fun x y => y = x) (phTwo w L w1.heap.size w2.heap.size 2 n (link0 n 0) (1 + 2 * n) (link0 n) 0 (1 :: R)) [2, 5] [.val (.pointer (some ⟨w2.heap.size, 0, none⟩)), .val (.agg #[.int .i64 2, .int .i64 n, .int .i64 1, .int .i64 20, .int .i64 100, .int .i64 600, .int .i64 3, .pointer (some ⟨L.p, 0, none⟩), .int .i64 0]), .val (.bool false), .val (.pointer (some ⟨w2.heap.size, 0, none⟩)), .val (.agg #[.int .i64 2, .int .i64 n, .int .i64 1, .int .i64 20, .int .i64 100, .int .i64 600, .int .i64 3, .pointer (some ⟨L.p, 0, none⟩), .int .i64 0]), .val (.bool false), .val (.bool false), .val (.bool false)]
    (by kernel_rfl) (Only.refl _) (fun _ _ _ h k => h.trans k) (fun x y h => by subst h; exact Only.refl _ _) (fun x y p h k => by subst h; exact k) ⟨by omega, _, _, F3.drew, i3.of_block rfl⟩ (by kernel_rfl) (by kernel_rfl) (by kernel_rfl) (by kernel_rfl) (by kernel_rfl) ?_
  simp only [phaseAll, Act.put, List.setIfInBounds_toArray, List.set_cons_zero, List.set_cons_succ]
  refine ⟨?_, ?_, ?_, ?_, ?_, ?_, ?_, ?_, ?_⟩
  · intro w' hR _
    refine Or.inl ⟨rfl, ?_⟩
    go_simp
    exact ⟨rfl, rfl⟩
  · intro w' hR _
    refine Or.inl ⟨rfl, ?_⟩
    have vv := (F3.drew.v).only hR (fun hh => hh.elim FA.out.e hBE.out)
    have y0 := vv.c0
    have y1 := vv.c1
    have y2 := vv.c2
    have y3 := vv.c3
    have y4 := vv.c4
    have y5 := vv.c5
    have y6 := vv.c6
    have y7 := vv.c7
    have y8 := vv.c8
    go_simp
    exact ⟨rfl, rfl⟩
  · intro w' hR _ hP
    refine Or.inl ⟨rfl, ?_⟩
    obtain ⟨-, s', cs', ff, ii⟩ : phTwo w L w1.heap.size w2.heap.size 2 n (link0 n 0) (1 + 2 * n) (link0 n) 0 (1 :: R) 0 w' := hP
    go_simp
    refine (ff.step FA.out hBL.out hBE.out hB0.out (by omega) (by omega) 0 (by omega) ii false rfl).mono ?_
    rintro e w'' ⟨rfl, s9, cs9, f9, i9, o9, -⟩
    exact ⟨_, rfl, ⟨o9, by omega, s9, cs9, f9, i9⟩, rfl⟩
  · intro w' hR _
    refine Or.inl ⟨rfl, ?_⟩
    go_simp
    exact ⟨rfl, rfl⟩
  · intro w' hR _
    refine Or.inl ⟨rfl, ?_⟩
    have vv := (F3.drew.v).only hR (fun hh => hh.elim FA.out.e hBE.out)
    have y0 := vv.c0
    have y1 := vv.c1
    have y2 := vv.c2
    have y3 := vv.c3
    have y4 := vv.c4
    have y5 := vv.c5
    have y6 := vv.c6
    have y7 := vv.c7
    have y8 := vv.c8
    go_simp
    exact ⟨rfl, rfl⟩
  · intro w' hR _ hP
    refine Or.inl ⟨rfl, ?_⟩
    obtain ⟨-, s', cs', ff, ii⟩ : phTwo w L w1.heap.size w2.heap.size 2 n (link0 n 0) (1 + 2 * n) (link0 n) 0 (1 :: R) 1 w' := hP
    go_simp
    refine (ff.step FA.out hBL.out hBE.out hB0.out (by omega) (by omega) 1 (by omega) ii false rfl).mono ?_
    rintro e w'' ⟨rfl, s9, cs9, f9, i9, o9, -⟩
    exact ⟨_, rfl, ⟨o9, by omega, s9, cs9, f9, i9⟩, rfl⟩
  · intro w' hR _
    refine Or.inl ⟨rfl, ?_⟩
    go_simp
    exact ⟨rfl, rfl⟩
  · intro w' hR _
    refine Or.inl ⟨rfl, ?_⟩
    go_simp
    exact ⟨rfl, rfl⟩
  intro w3 hR3 hP _
  obtain ⟨-, s3, cs3, f3, i3⟩ : phTwo w L w1.heap.size w2.heap.size 2 n (link0 n 0) (1 + 2 * n) (link0 n) 0 (1 :: R) 2 w3 := hP
  clear hR3 F3
  have i3' : TkAt w3 w2.heap.size 0 43 cs3 (.lnk 0 0 (link0 n 0)) := i3
  clear i3
  have y0 := f3.v.c0
  have y1 := f3.v.c1
  have y2 := f3.v.c2
  have y3 := f3.v.c3
  have y4 := f3.v.c4
  have y5 := f3.v.c5
  have y6 := f3.v.c6
  have y7 := f3.v.c7
  have y8 := f3.v.c8
  go_wp2_with (first
    | (go_at_call 10; refine (f4.take FA.out (by omega) (by omega)).mono ?_; rintro e w5 ⟨rfl, s5, f5, o5, ln5⟩)
    | (go_at_call 10; refine (f3.take FA.out (by omega) (by omega)).mono ?_; rintro e w4 ⟨rfl, s4, f4, o4, ln4⟩; have z0 := f4.v.c0; have z1 := f4.v.c1; have z2 := f4.v.c2; have z3 := f4.v.c3; have z4 := f4.v.c4; have z5 := f4.v.c5; have z6 := f4.v.c6; have z7 := f4.v.c7; have z8 := f4.v.c8))
  have i5 : TkAt w5 w2.heap.size 0 43 cs3 (.lnk 0 0 (link0 n 0)) := (i3'.of_block (o4.block _ i3'.lt hBL.out)).of_block (o5.block _ (i3'.of_block (o4.block _ i3'.lt hBL.out)).lt hBL.out)
  have nd : Hid (0 ∉ R) := fun hh => by
    have := (List.nodup_cons.1 f3.p.nd).1
    exact this (List.mem_cons_of_mem _ hh)
  have A5 : Hid (Field w w5 L w1.heap.size 2 n s5 (1 + 2 * n + 2 + 3 + 3) 2 (link0 n) R ∧ TkAt w5 w2.heap.size 0 43 cs3 (.lnk 0 0 (link0 n 0))) := ⟨f5, i5⟩
  clear f3 f4 f5 i3' i5 o4 o5 ln4 ln5
  go_loopw [11, 12, 17] (fun x p i wr => ∃ (k : Nat) (s' : Mm) (σ c : Nat) (lk : Nat → Nat), x = .int .i64 0 ∧ p = .bool true ∧ i = .int .i64 k ∧ k ≤ T ∧ σ ≤ 1 + 2 * n + 8 + 6 * k ∧ 0 < c ∧ Field w wr L w1.heap.size 2 n s' σ c lk R ∧ TkAt wr w2.heap.size 0 43 cs3 (.lnk 0 0 (link0 n 0))) (fun _ _ i _ => 4 - (intOf i).toNat)
  case atStart => exact ⟨0, s5, _, 2, link0 n, rfl, rfl, rfl, by omega, by omega, by omega, A5.out.1, A5.out.2⟩
  case round =>
    clear A5 y0 y1 y2 y3 y4 y5 y6 y7 y8 z0 z1 z2 z3 z4 z5 z6 z7 z8
    obtain ⟨k, s', σ, c, lk, rfl, rfl, rfl, hkT, hσ, hc, f, i⟩ := hrel
    have y0 := f.v.c0
    have y1 := f.v.c1
    have y2 := f.v.c2
    have y3 := f.v.c3
    have y4 := f.v.c4
    have y5 := f.v.c5
    have y6 := f.v.c6
    have y7 := f.v.c7
    have y8 := f.v.c8
    by_cases hk : k < T
    · have hk' : (k : Int) < (T : Int) := by omega
      go_wp2_with (first
        | (go_at_call 11; refine (f.give FA.out (x := 0) (by omega) (by omega) (by have := hn2'.out; omega) nd.out).mono ?_; rintro e w6 ⟨rfl, s6, f6, o6, ln6⟩; have z0 := f6.v.c0; have z1 := f6.v.c1; have z2 := f6.v.c2; have z3 := f6.v.c3; have z4 := f6.v.c4; have z5 := f6.v.c5; have z6 := f6.v.c6; have z7 := f6.v.c7; have z8 := f6.v.c8)
        | (go_at_call 10; refine (f6.take FA.out (by omega) (by omega)).mono ?_; rintro e w7 ⟨rfl, s7, f7, o7, ln7⟩))
      have i6 := i.of_block (o6.block _ i.lt hBL.out)
      have i7 := i6.of_block (o7.block _ i6.lt hBL.out)
      go_roundw
      case rel => exact ⟨k + 1, s7, σ + 3 + 3, c + 1 + 1, _, rfl, rfl, by go_num, by omega, by omega, by omega, f7, i7⟩
      case measure => simp [intOf]; omega
    · have hk' : ¬ (k : Int) < (T : Int) := by omega
      go_wp2_with (first
        | (go_at_call 11; refine (f.give FA.out (x := 0) (by omega) (by omega) (by have := hn2'.out; omega) nd.out).mono ?_; rintro e w6 ⟨rfl, s6, f6, o6, ln6⟩; have i6 := i.of_block (o6.block _ i.lt hBL.out); have z0 := f6.v.c0; have z1 := f6.v.c1; have z2 := f6.v.c2; have z3 := f6.v.c3; have z4 := f6.v.c4; have z5 := f6.v.c5; have z6 := f6.v.c6; have z7 := f6.v.c7; have z8 := f6.v.c8)
        | (go_at_call 13; refine (f6.vain FA.out hBL.out hBE.out hB0.out (by omega) (by omega) (by have := hn2'.out; omega) hq.out (by omega) i6).mono ?_; rintro e w7 ⟨rfl, s7, cs7, f7, i7, o7⟩))
      have A7 : Hid (Field w w7 L w1.heap.size 2 n s7 (σ + 3 + 1 + 0) (c + 1) (upd lk 0 (hd R)) (0 :: R) ∧ TkAt w7 w2.heap.size 0 43 cs7 (alone 0 (c + 1) (upd lk 0 (hd R) 0) 0)) := ⟨f7, i7⟩
      have hσ' : σ ≤ 100 := by omega
      clear f f6 f7 i i6 i7 o6 o7 ln6 y0 y1 y2 y3 y4 y5 y6 y7 y8 z0 z1 z2 z3 z4 z5 z6 z7 z8 hk hk' hkT hσ
      go_loopw [18, 19] (fun d i wr => ∃ (j : Nat) (s' : Mm) (cs' : Array Value), d = .bool (decide (j = 3)) ∧ i = .int .i64 j ∧ j ≤ 3 ∧ Field w wr L w1.heap.size 2 n s' (σ + 3 + 1 + j) (if j = 3 then c + 1 + 1 else c + 1) (upd lk 0 (hd R)) (if j = 3 then R else 0 :: R) ∧ TkAt wr w2.heap.size 0 43 cs' (alone 0 (c + 1) (upd lk 0 (hd R) 0) j)) (fun _ i _ => 4 - (intOf i).toNat)
      case atStart => exact ⟨0, s7, cs7, rfl, rfl, by omega, A7.out.1, A7.out.2⟩
      case round =>
        clear A7
        obtain ⟨j, s', cs', rfl, rfl, hj3, f, i⟩ := hrel
        have hj10 : (j : Int) < 10 := by omega
        by_cases hj : j = 3
        · subst hj
          have B := f.b
          clear hj3
          go_wp2_with (go_at_call 14; refine (slot_won i 0 rfl).mono ?_; rintro e w8 ⟨rfl, rfl⟩)
          go_ret
          exact ⟨rfl, B⟩
        · have hjd : decide (j = 3) = false := by simp [hj]
          have f' : Field w wr L w1.heap.size 2 n s' (σ + 3 + 1 + j) (c + 1) (upd lk 0 (hd R)) (0 :: R) := by
            rw [if_neg hj, if_neg hj] at f; exact f
          have hj3' : j < 3 := by omega
          clear f
          have HJ : Hid (¬ j = 3) := hj
          clear hj
          rw [hjd]
          have y0 := f'.v.c0
          have y1 := f'.v.c1
          have y2 := f'.v.c2
          have y3 := f'.v.c3
          have y4 := f'.v.c4
          have y5 := f'.v.c5
          have y6 := f'.v.c6
          have y7 := f'.v.c7
          have y8 := f'.v.c8
          obtain ⟨d, hd⟩ : ∃ d, decide (j = 2) = d := ⟨_, rfl⟩
          have HD : Hid (decide (j = 2) = d) := hd
          clear hd
          go_wp2_with (go_at_call 13; refine (f'.step FA.out hBL.out hBE.out hB0.out (by omega) (by omega) j hj3' i d HD.out).mono ?_; rintro e w8 ⟨rfl, s8, cs8, f8, i8, o8, -⟩)
          go_roundw
          case rel =>
            refine ⟨j + 1, s8, cs8, ?_, by go_num, by omega, ?_, i8⟩
            · rw [← HD.out]; simp
            · have e1 : (if j + 1 = 3 then c + 1 + 1 else c + 1) = (if j = 2 then c + 1 + 1 else c + 1) := by simp
              have e2 : (if j + 1 = 3 then R else 0 :: R) = (if j = 2 then R else 0 :: R) := by simp
              rw [e1, e2]; exact f8
          case measure => simp [intOf]; omega

end Go.Proofs.Ytfedcddnjollmaa
