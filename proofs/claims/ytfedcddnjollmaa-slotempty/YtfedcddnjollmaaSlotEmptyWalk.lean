/- SlotEmpty answers true for all numbers, and leaves what was in memory. -/
import Derived.Test.YtfedcddnjollmaaSlotArena
namespace Go.Proofs.Ytfedcddnjollmaa
open Go.RowKit

theorem upFrom_next (n k : Nat) (h : k < n) : upFrom n (n - k) = k :: upFrom n (n - (k + 1)) := by
  obtain ⟨m, hm⟩ : ∃ m, n - k = m + 1 := ⟨n - k - 1, by omega⟩
  rw [hm, show n - (k + 1) = m by omega]
  show (n - (m + 1)) :: upFrom n m = _
  rw [show n - (m + 1) = k by omega]

theorem row_more {w : World} {B : Nat} {f : Nat → Int} {K j : Nat} (h : w.rowIs B 41 K (fun i => .int .u64 (if i < j then f i else 0))) (hj : j < K) :
    (w.setCell ⟨B, j, none⟩ (.int .u64 (f j))).rowIs B 41 K (fun i => .int .u64 (if i < j + 1 then f i else 0)) := by
  refine (h.set j (.int .u64 (f j))).congr fun i hi => ?_
  by_cases e : i = j
  · subst e; simp
  · rw [if_neg e]
    by_cases hlt : i < j
    · rw [if_pos hlt, if_pos (by omega)]
    · rw [if_neg hlt, if_neg (by omega)]

theorem row_all {w : World} {B : Nat} {f : Nat → Int} {K : Nat} (h : w.rowIs B 41 K (fun i => .int .u64 (if i < K then f i else 0))) : w.rowIs B 41 K (fun i => .int .u64 (f i)) :=
  h.congr fun i hi => by rw [if_pos hi]

theorem len_is {w : World} {L : Loc} {s : Mm} (h : MemAt w L s) (K : Nat) (hK : s.n = K) :
    Calls Try.prog 24 #[.pointer (some ⟨L.p, 0, none⟩)] w fun e w' => e = .returned (.int .i64 K) ∧ w' = w := by
  subst hK; exact len_any h

set_option maxRecDepth 20000 in
set_option maxHeartbeats 4000000 in
theorem slotEmpty_any (slots times : Int) (w : World) :
    Calls Try.prog 7 #[.int .i64 slots, .int .i64 times] w fun e w' => e = .returned (.bool true) ∧ Below w.heap.size w w' := by
  obtain ⟨n, hn, hn1, hn8⟩ := lowAt slots 7 3 1 (by decide) (by decide)
  have hn' : (1 : Int) + bits .and .i64 slots 7 = (n : Int) := hn
  clear hn
  obtain ⟨T, hT, hT3⟩ := low0 times 15 4 (by decide) (by decide)
  have AR := fun w => arena06 (t := 1) (n := n) (by omega) (by omega) w
  go_enter Try.func7, Try.ntmps7
  go_wp2_with (first
    | (go_at_call 8; refine (AR _).mono ?_; rintro e w1 ⟨L, s, rfl, m1, p1, hs1, b1, f1⟩)
    | (go_at_call 9; refine (awake06_any _).mono ?_; rintro e w2 ⟨rfl, b2⟩))
  obtain ⟨fd, fa⟩ := Field.first m1 p1 b1 f1
  have FA : Hid (FieldApart w L w1.heap.size) := fa
  have A2 : Hid (Field w w2 L w1.heap.size 1 n s (1 + 2 * n) 0 (link0 n) (upFrom n n)) := fd.grown b2
  have hbe2 : Hid (w1.heap.size < w2.heap.size) := by have := b2.size; rw [Go.Deep.nblk_alloc] at this; exact this
  clear fd fa m1 p1 b1 f1 b2 AR hn'
  go_loopw [8] (fun i wr => ∃ (k : Nat) (s' : Mm), i = .int .i64 k ∧ k ≤ n ∧ Field w wr L w1.heap.size 1 n s' (1 + 2 * n + 3 * k) k (link0 n) (upFrom n (n - k)) ∧ w2.heap.size ≤ wr.heap.size) (fun i _ => n - (intOf i).toNat)
  case atStart => exact ⟨0, s, rfl, by omega, A2.out, Nat.le_refl _⟩
  case round =>
    clear A2
    obtain ⟨k, s', rfl, hkn, f, hsz⟩ := hrel
    have y0 := f.v.c0
    have y1 := f.v.c1
    have y2 := f.v.c2
    have y3 := f.v.c3
    have y4 := f.v.c4
    have y5 := f.v.c5
    have y6 := f.v.c6
    have y7 := f.v.c7
    have y8 := f.v.c8
    by_cases hk : k < n
    · have hk' : (k : Int) < (n : Int) := by omega
      rw [upFrom_next n k hk] at f
      go_wp2_with (go_at_call 10; refine (f.take FA.out (by omega) (by omega)).mono ?_; rintro e w3 ⟨rfl, s3, f3, o3, ln3⟩)
      go_roundw
      case rel => exact ⟨k + 1, s3, by go_num, by omega, f3, Nat.le_trans hsz o3.size⟩
      case measure => simp [intOf]; omega
    · have hk' : ¬ (k : Int) < (n : Int) := by omega
      obtain rfl : k = n := by omega
      rw [Nat.sub_self] at f
      obtain ⟨K, hK⟩ : ∃ K, s'.n = K := ⟨_, rfl⟩
      have hKL : K ≤ 1048576 := by rw [← hK]; exact f.m.len
      have hmk := run_make_row' (P := Try.prog) 59 41 (.int .u64 0) 8 Try.underlying59 Try.infoW41 rfl .i64 .i64 K (by omega) (by omega)
      go_wp2_with (go_at_call 24; refine (len_is f.m K hK).mono ?_; rintro e w4 ⟨rfl, rfl⟩)
      obtain ⟨B, hB⟩ : ∃ B, B = w4.heap.size := ⟨_, rfl⟩
      have hrow := World.rowIs_made w4 (.int .u64 0) K 41
      have f4 := f.alloc (.cells (madeCells #[.int .u64 0] K) 41)
      have hLB : Hid (¬ L.has B) := fun h => by have := f.m.lt B h; omega
      have hBw : Hid (w.heap.size ≤ B) := by unfold Hid; have := f.b.size; omega
      have hBe : Hid (w1.heap.size ≠ B) := by unfold Hid; have := hbe2.out; omega
      have hK' : Hid (s'.n = K) := hK
      rw [← hB] at hrow ⊢
      have A4 : Hid (Field w (w4.alloc (.cells (madeCells #[.int .u64 0] K) 41)) L w1.heap.size 1 k s' (1 + 2 * k + 3 * k) k (link0 k) [] ∧ (w4.alloc (.cells (madeCells #[.int .u64 0] K) 41)).rowIs B 41 K (fun i => .int .u64 (if i < 0 then s'.wd i else 0))) := ⟨f4, hrow⟩
      have hk8 : k ≤ 8 := by omega
      clear hB f f4 hrow hK y0 y1 y2 y3 y4 y5 y6 y7 y8 hk hk' hkn hsz hmk
      go_loopw [13] (fun j wr => ∃ (q : Nat), q ≤ K ∧ j = .int .i64 q ∧ Field w wr L w1.heap.size 1 k s' (1 + 2 * k + 3 * k) k (link0 k) [] ∧ wr.rowIs B 41 K (fun i => .int .u64 (if i < q then s'.wd i else 0))) (fun j _ => K - (intOf j).toNat)
      case atStart => exact ⟨0, Nat.zero_le _, rfl, A4.out.1, A4.out.2⟩
      case round =>
        clear A4
        obtain ⟨q, hq, rfl, f, hrow⟩ := hrel
        by_cases hqK : q < K
        · have hc := hrow.cell hqK
          have hf := hrow.frozen q
          have hqK' : (q : Int) < (K : Int) := by omega
          have y7 := f.v.c7
          go_wp2_with (go_at_call 23; refine (peek_in f.m _ (by rw [hK'.out]; exact hqK)).mono ?_; rintro e w5 ⟨rfl, rfl⟩)
          go_roundw
          case rel => exact ⟨q + 1, by omega, by go_num, f.setIn hBw.out hBe.out hLB.out _ _, row_more hrow hqK⟩
          case measure => simp [intOf]; omega
        · have hqK' : ¬ (q : Int) < (K : Int) := by omega
          have hjj : q = K := by omega
          rw [hjj] at hrow
          have A5 : Hid (Field w wr L w1.heap.size 1 k s' (1 + 2 * k + 3 * k) k (link0 k) [] ∧ wr.rowIs B 41 K (fun i => .int .u64 (s'.wd i))) := ⟨f, row_all hrow⟩
          clear hrow hjj f
          go_wp2
          clear hqK hqK' hq
          go_loopw [14] (fun j wr => ∃ (r : Nat) (s2 : Mm), r ≤ T ∧ j = .int .i64 r ∧ Field w wr L w1.heap.size 1 k s2 (1 + 2 * k + 3 * k + r) k (link0 k) [] ∧ wr.rowIs B 41 K (fun i => .int .u64 (s'.wd i)) ∧ s2.wd = s'.wd ∧ s2.n = K) (fun j _ => T - (intOf j).toNat)
          case atStart => exact ⟨0, s', Nat.zero_le _, rfl, A5.out.1, A5.out.2, rfl, hK'.out⟩
          case round =>
            clear A5
            obtain ⟨r, s2, hr, rfl, f, hrow, hwd, hn2⟩ := hrel
            by_cases hrT : r < T
            · have hrT' : (r : Int) < (T : Int) := by omega
              have y0 := fun O => alloc_cell f.v.c0 O
              have y1 := fun O => alloc_cell f.v.c1 O
              have y2 := fun O => alloc_cell f.v.c2 O
              have y3 := fun O => alloc_cell f.v.c3 O
              have y4 := fun O => alloc_cell f.v.c4 O
              have y5 := fun O => alloc_cell f.v.c5 O
              have y6 := fun O => alloc_cell f.v.c6 O
              have y7 := fun O => alloc_cell f.v.c7 O
              have y8 := fun O => alloc_cell f.v.c8 O
              have hBB : Hid (B < wr.heap.size) := hrow.lt
              have hLW : Hid (¬ L.has wr.heap.size) := fun hh => by have := f.m.lt _ hh; omega
              have hEW : Hid (w1.heap.size ≠ wr.heap.size) := by unfold Hid; have := World.block_lt_of_cell? _ _ f.v.c0; simp at this; omega
              have hWW : Hid (w.heap.size ≤ wr.heap.size) := f.b.size
              go_wp2_with (first
                | (go_at_call 13; refine (Field.not (f.alloc _) FA.out hLW.out hEW.out hWW.out (by omega) (by omega) (take0 _)).mono ?_; rintro e w6 ⟨rfl, s6, cs6, f6, i6, o6, hw6, ln6, -⟩)
                | (go_at_call 14; refine (slot_none i6 rfl).mono ?_; rintro e w7 ⟨rfl, rfl⟩))
              have hrow6 := (hrow.of_block (Go.Deep.blk_alloc_lt wr (.cells #[.int .i64 0, .int .u64 0, .int .i64 0, .int .i64 0] 43) _ hrow.lt)).of_block (o6.block _ (by rw [Go.Deep.nblk_alloc]; have := hrow.lt; omega) (fun hh => hh.elim hLB.out (by have := hBB.out; omega)))
              go_roundw
              case rel => exact ⟨r + 1, s6, by omega, by go_num, f6, hrow6, hw6.trans hwd, ln6.trans hn2⟩
              case measure => simp [intOf]; omega
            · have hrT' : ¬ (r : Int) < (T : Int) := by omega
              have A6 : Hid (Field w wr L w1.heap.size 1 k s2 (1 + 2 * k + 3 * k + r) k (link0 k) [] ∧ wr.rowIs B 41 K (fun i => .int .u64 (s'.wd i))) := ⟨f, hrow⟩
              have HW : Hid (s2.wd = s'.wd) := hwd
              have HN : Hid (s2.n = K) := hn2
              clear f hrow hwd hn2
              go_wp2
              clear hr hrT hrT'
              go_loopw [18] (fun j wr => ∃ (q : Nat), q ≤ K ∧ j = .int .i64 q ∧ Field w wr L w1.heap.size 1 k s2 (1 + 2 * k + 3 * k + r) k (link0 k) [] ∧ wr.rowIs B 41 K (fun i => .int .u64 (s'.wd i))) (fun j _ => K - (intOf j).toNat)
              case atStart => exact ⟨0, Nat.zero_le _, rfl, A6.out.1, A6.out.2⟩
              case round =>
                clear A6
                obtain ⟨q, hq, rfl, f, hrow⟩ := hrel
                by_cases hqK : q < K
                · have hqK' : (q : Int) < (K : Int) := by omega
                  have hc := hrow.cell hqK
                  have y7 := f.v.c7
                  go_wp2
                  go_quiet ((go_at_call 23; exact Calls.quiet_of_same (peek_is (f.m.drewN _) q (by rw [HN.out]; exact hqK) (s'.wd q) (by rw [HW.out]))))
                  go_wp2
                  go_roundw
                  case rel => exact ⟨q + 1, by omega, by go_num, ⟨f.m.drewN _, f.p, f.v.grown (below_drewN (Below.refl _ _) _), below_drewN f.b _⟩, hrow⟩
                  case measure => simp [intOf]; omega
                · have hqK' : ¬ (q : Int) < (K : Int) := by omega
                  have B9 := f.b
                  clear f hrow
                  go_wp2
                  go_ret
                  exact ⟨rfl, B9⟩

end Go.Proofs.Ytfedcddnjollmaa
