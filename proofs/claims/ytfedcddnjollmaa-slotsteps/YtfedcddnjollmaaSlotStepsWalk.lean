/- SlotSteps answers true for every number and every slice of bools, and leaves what was in memory. -/
import Derived.Test.YtfedcddnjollmaaSlotArena
import Derived.Test.YtfedcddnjollmaaBools
namespace Go.Proofs.Ytfedcddnjollmaa
open Go.RowKit

theorem touch_addr (a b c : Value) (w : World) : (Instr.field 53 (.agg #[a, b, c]) 0).run Try.prog w = .ok a w := by kernel_rfl

theorem last_la {w : World} {L : Loc} {s : Mm} (h : MemAt w L s) (a : Int) (ha : s.la = a) :
    Calls Try.prog 18 #[.pointer (some ⟨L.p, 0, none⟩)] w fun e w' => e = .returned (.agg #[.int .i64 a, .int .i64 s.lw, .bool s.lc]) ∧ Below w.heap.size w w' := by
  subst ha; exact last_any h

theorem chunkAt_any (t s k n g p r i : Int) (w : World) (t0 : 0 ≤ t) (t1 : t ≤ 8) (s0 : 0 ≤ s) (s1 : s ≤ 65536) (h0 : 0 ≤ i) (h1 : i ≤ 1000000) :
    Calls Try.prog 21 #[.agg #[.int .i64 t, .int .i64 s, .int .i64 k, .int .i64 n, .int .i64 g, .int .i64 p, .int .i64 r], .int .i64 i] w fun e w' => e = .returned (.int .i64 (6 + t + s * 2 + i * 3)) ∧ Below w.heap.size w w' := by
  go_enter Try.func21, Try.ntmps21
  go_wp2_with (go_at_call 20; refine (slotAt_any _ _ _ _ _ _ _ _ _ (by omega) (by omega) (by omega) (by omega)).mono ?_; rintro e w' ⟨rfl, b1⟩)
  go_ret
  exact ⟨rfl, grow (grow_alloc (Below.refl _ _) _) b1⟩

theorem Field.now {w0 w : World} {L : Loc} {bE t n σ c : Nat} {s : Mm} {lk : Nat → Nat} {F : List Nat} (f : Field w0 w L bE t n s σ c lk F) (x : Nat) (hx : σ = x) :
    Calls Try.prog 17 #[.agg #[.int .i64 t, .int .i64 n, .int .i64 1, .int .i64 20, .int .i64 100, .int .i64 600, .int .i64 3, .pointer (some ⟨L.p, 0, none⟩), .int .i64 0]] w fun e w' => e = .returned (.int .i64 x) ∧ Below w.heap.size w w' := now_any f.m _ _ _ _ _ _ _ _ x (by rw [f.p.st, hx])

set_option maxRecDepth 20000 in
set_option maxHeartbeats 4000000 in
theorem slotSteps_any (slots : Int) (ao : Option Addr) (N cap : Nat) (z : Nat → Bool) (w : World) (hr : BoolsAt w ao N z) :
    Calls Try.prog 6 #[.int .i64 slots, .slice ao N cap] w fun e w' => e = .returned (.bool true) ∧ Below w.heap.size w w' := by
  have HR : Hid (BoolsAt w ao N z) := hr
  clear hr
  obtain ⟨n, hn, hn1, hn16⟩ := lowAt slots 15 4 1 (by decide) (by decide)
  have hn' : (1 : Int) + bits .and .i64 slots 15 = (n : Int) := hn
  clear hn
  have AR := fun w => arena06 (t := 1) (n := n) (by omega) (by omega) w
  have ta := touch_addr
  go_enter Try.func6, Try.ntmps6
  go_wp2_with (first
    | (go_at_call 8; refine (AR _).mono ?_; rintro e w1 ⟨L, s, rfl, m1, p1, hs1, b1, f1⟩)
    | (go_at_call 9; refine (awake06_any _).mono ?_; rintro e w2 ⟨rfl, b2⟩))
  obtain ⟨fd, fa⟩ := Field.first m1 p1 b1 f1
  have FA : Hid (FieldApart w L w1.heap.size) := fa
  have A2 : Hid (Field w w2 L w1.heap.size 1 n s (1 + 2 * n) 0 (link0 n) (upFrom n n)) := fd.grown b2
  have hn16' : n ≤ 16 := by omega
  clear fd fa m1 p1 b1 f1 b2 AR hn' hs1 hn16
  go_loopw [8] (fun i wr => ∃ (k : Nat) (s' : Mm) (σ c : Nat) (lk : Nat → Nat) (F : List Nat), i = .int .i64 k ∧ k ≤ 20 ∧ σ ≤ 1 + 2 * n + 6 * k ∧ Field w wr L w1.heap.size 1 n s' σ c lk F) (fun i _ => 20 - (intOf i).toNat)
  case atStart => exact ⟨0, s, _, 0, _, _, rfl, by omega, by omega, A2.out⟩
  case round =>
    clear A2
    obtain ⟨k, s', σ, c, lk, F, rfl, hk20, hσ, f⟩ := hrel
    by_cases hk : k < N ∧ k < 20
    · obtain ⟨hkN, hk2⟩ := hk
      have hk2' : (k : Int) < 20 := by omega
      have hkN' : (k : Int) < (N : Int) := by omega
      obtain ⟨zb, zo, rfl, hz0⟩ := HR.out k hkN
      have hz := keep' f.b hz0
      clear hz0
      have hLW : Hid (¬ L.has wr.heap.size) := fun hh => by have := f.m.lt _ hh; omega
      have hEW : Hid (w1.heap.size ≠ wr.heap.size) := by unfold Hid; have := World.block_lt_of_cell? _ _ f.v.c0; simp at this; omega
      have hWW : Hid (w.heap.size ≤ wr.heap.size) := f.b.size
      have hF : F = [] ∨ ∃ x F', F = x :: F' := by cases F with | nil => exact .inl rfl | cons x F' => exact .inr ⟨x, F', rfl⟩
      rcases hF with rfl | ⟨x, F', rfl⟩
      · have A3 : Hid (Field w (wr.alloc (.cells #[.int .i64 0, .int .u64 0, .int .i64 0, .int .i64 0] 43)) L w1.heap.size 1 n s' σ c lk [] ∧ TkAt (wr.alloc (.cells #[.int .i64 0, .int .u64 0, .int .i64 0, .int .i64 0] 43)) wr.heap.size 0 43 #[.int .i64 0, .int .u64 0, .int .i64 0, .int .i64 0] .idle) := ⟨f.alloc _, take0 wr⟩
        clear f hz
        go_wp2
        go_loopw [10] (fun i wq => ∃ cs, i = .int .i64 0 ∧ Field w wq L w1.heap.size 1 n s' σ c lk [] ∧ TkAt wq wr.heap.size 0 43 cs .idle) (fun i _ => 3 - (intOf i).toNat)
        case atStart => exact ⟨_, rfl, A3.out.1, A3.out.2⟩
        case round =>
          clear A3
          obtain ⟨cs, rfl, f, i3⟩ := hrel
          have y0 := f.v.c0
          have y1 := f.v.c1
          have y2 := f.v.c2
          have y3 := f.v.c3
          have y4 := f.v.c4
          have y5 := f.v.c5
          have y6 := f.v.c6
          have y7 := f.v.c7
          have y8 := f.v.c8
          go_wp2_with (first
            | (go_at_call 18; refine (last_la f5.m 1 la5).mono ?_; rintro e w6 ⟨rfl, b6⟩; have f6 := f5.grown b6; have v0 := f6.v.c0; have v1 := f6.v.c1; have v2 := f6.v.c2; have v3 := f6.v.c3; have v4 := f6.v.c4; have v5 := f6.v.c5; have v6 := f6.v.c6; have v7 := f6.v.c7; have v8 := f6.v.c8)
            | (go_at_call 19; refine (ltop_any _).mono ?_; rintro e w8 ⟨rfl, rfl⟩)
            | (go_at_call 14; refine (slot_none i7 rfl).mono ?_; rintro e w8 ⟨rfl, rfl⟩)
            | (go_at_call 13; refine (f4.not FA.out hLW.out hEW.out hWW.out (by omega) (by omega) i4).mono ?_; rintro e w5 ⟨rfl, s5, cs5, f5, i5, o5, -, -, la5⟩; have u0 := f5.v.c0; have u1 := f5.v.c1; have u2 := f5.v.c2; have u3 := f5.v.c3; have u4 := f5.v.c4; have u5 := f5.v.c5; have u6 := f5.v.c6; have u7 := f5.v.c7; have u8 := f5.v.c8)
            | (go_at_call 17; refine (f6.now (σ + 1) rfl).mono ?_; rintro e w7 ⟨rfl, b7⟩; have f7 := f6.grown b7; have i7 := (i5.of_block (b6.block _ i5.lt)).of_block (b7.block _ (i5.of_block (b6.block _ i5.lt)).lt))
            | (go_at_call 17; refine (f.now σ rfl).mono ?_; rintro e w4 ⟨rfl, b4⟩; have f4 := f.grown b4; have i4 := i3.of_block (b4.block _ i3.lt); have z0 := f4.v.c0; have z1 := f4.v.c1; have z2 := f4.v.c2; have z3 := f4.v.c3; have z4 := f4.v.c4; have z5 := f4.v.c5; have z6 := f4.v.c6; have z7 := f4.v.c7; have z8 := f4.v.c8))
          go_roundw
          case rel => exact ⟨k + 1, s5, σ + 1, c, lk, [], by go_num, by omega, by omega, f7⟩
          case measure => simp [intOf]; omega
      · have HX : Hid (x < n) := f.p.lt x (by simp)
        have HF : Hid (x ∉ F') := (List.nodup_cons.1 f.p.nd).1
        have hzz : z k = true ∨ z k = false := by cases z k <;> simp
        have A3 : Hid (Field w (wr.alloc (.cells #[.int .i64 0, .int .u64 0, .int .i64 0, .int .i64 0] 43)) L w1.heap.size 1 n s' (σ + 0) c lk (x :: F') ∧ TkAt (wr.alloc (.cells #[.int .i64 0, .int .u64 0, .int .i64 0, .int .i64 0] 43)) wr.heap.size 0 43 #[.int .i64 0, .int .u64 0, .int .i64 0, .int .i64 0] (alone x c (lk x) 0)) := ⟨f.alloc _, take0 wr⟩
        have hzl : Hid (w.cell? ⟨zb, zo + k, none⟩ = some (.bool (z k))) := by
          obtain ⟨b', o', he, hc⟩ := HR.out k hkN
          cases he; exact hc
        clear f hz
        go_wp2
        go_loopw [10] (fun i wq => ∃ (j : Nat) (s2 : Mm) (cs : Array Value), i = .int .i64 j ∧ j < 3 ∧ Field w wq L w1.heap.size 1 n s2 (σ + j) c lk (x :: F') ∧ TkAt wq wr.heap.size 0 43 cs (alone x c (lk x) j)) (fun i _ => 3 - (intOf i).toNat)
        case atStart => exact ⟨0, s', _, rfl, by omega, A3.out.1, A3.out.2⟩
        case round =>
          clear A3
          obtain ⟨j, s2, cs, rfl, hj3, f, i3⟩ := hrel
          have y0 := f.v.c0
          have y1 := f.v.c1
          have y2 := f.v.c2
          have y3 := f.v.c3
          have y4 := f.v.c4
          have y5 := f.v.c5
          have y6 := f.v.c6
          have y7 := f.v.c7
          have y8 := f.v.c8
          have hxn := HX.out
          have hj : j = 0 ∨ j = 1 ∨ j = 2 := by omega
          rcases hj with rfl | rfl | rfl
          · clear hzz
            go_wp2_with (first
              | (go_at_call 18; refine (last_la f5.m 1 la5).mono ?_; rintro e w6 ⟨rfl, b6⟩; have f6 := f5.grown b6; have v0 := f6.v.c0; have v1 := f6.v.c1; have v2 := f6.v.c2; have v3 := f6.v.c3; have v4 := f6.v.c4; have v5 := f6.v.c5; have v6 := f6.v.c6; have v7 := f6.v.c7; have v8 := f6.v.c8)
              | (go_at_call 19; refine (ltop_any _).mono ?_; rintro e w8 ⟨rfl, rfl⟩)
              | (go_at_call 20; refine (slotAt_any _ _ _ _ _ _ _ _ _ (by omega) (by omega) (by omega) (by omega)).mono ?_; rintro e w8 ⟨rfl, b8⟩; have f8 := f7.grown b8; have q0 := f8.v.c0; have q1 := f8.v.c1; have q2 := f8.v.c2; have q3 := f8.v.c3; have q4 := f8.v.c4; have q5 := f8.v.c5; have q6 := f8.v.c6; have q7 := f8.v.c7; have q8 := f8.v.c8)
              | (go_at_call 21; refine (chunkAt_any _ _ _ _ _ _ _ _ _ (by omega) (by omega) (by omega) (by omega) (by omega) (by omega)).mono ?_; rintro e w9 ⟨rfl, b9⟩; have f9 := f8.grown b9)
              | (go_at_call 14; refine (slot_won i7 x rfl).mono ?_; rintro e w8 ⟨rfl, rfl⟩)
              | (go_at_call 13; refine (f4.step FA.out hLW.out hEW.out hWW.out (by omega) (by omega) 0 (by omega) i4 false rfl).mono ?_; rintro e w5 ⟨rfl, s5, cs5, f5, i5, o5, la5⟩; have u0 := f5.v.c0; have u1 := f5.v.c1; have u2 := f5.v.c2; have u3 := f5.v.c3; have u4 := f5.v.c4; have u5 := f5.v.c5; have u6 := f5.v.c6; have u7 := f5.v.c7; have u8 := f5.v.c8)
              | (go_at_call 11; refine (f7.give FA.out (by omega) (by omega) HX.out HF.out).mono ?_; rintro e w9 ⟨rfl, s9, f9, o9, -⟩)
              | (go_at_call 17; refine (f6.now (σ + 0 + 1) rfl).mono ?_; rintro e w7 ⟨rfl, b7⟩; have f7 := f6.grown b7; have i7 := (i5.of_block (b6.block _ i5.lt)).of_block (b7.block _ (i5.of_block (b6.block _ i5.lt)).lt); have p0 := f7.v.c0; have p1 := f7.v.c1; have p2 := f7.v.c2; have p3 := f7.v.c3; have p4 := f7.v.c4; have p5 := f7.v.c5; have p6 := f7.v.c6; have p7 := f7.v.c7; have p8 := f7.v.c8)
              | (go_at_call 17; refine (f.now (σ + 0) rfl).mono ?_; rintro e w4 ⟨rfl, b4⟩; have f4 := f.grown b4; have i4 := i3.of_block (b4.block _ i3.lt); have z0 := f4.v.c0; have z1 := f4.v.c1; have z2 := f4.v.c2; have z3 := f4.v.c3; have z4 := f4.v.c4; have z5 := f4.v.c5; have z6 := f4.v.c6; have z7 := f4.v.c7; have z8 := f4.v.c8))
            go_roundw
            case rel => exact ⟨1, s5, cs5, rfl, by omega, f7, i7⟩
            case measure => simp [intOf]
          · clear hzz
            go_wp2_with (first
              | (go_at_call 18; refine (last_la f5.m (6 + 1 + x * 2 + 1 : Nat) la5).mono ?_; rintro e w6 ⟨rfl, b6⟩; have f6 := f5.grown b6; have v0 := f6.v.c0; have v1 := f6.v.c1; have v2 := f6.v.c2; have v3 := f6.v.c3; have v4 := f6.v.c4; have v5 := f6.v.c5; have v6 := f6.v.c6; have v7 := f6.v.c7; have v8 := f6.v.c8)
              | (go_at_call 19; refine (ltop_any _).mono ?_; rintro e w8 ⟨rfl, rfl⟩)
              | (go_at_call 20; refine (slotAt_any _ _ _ _ _ _ _ _ _ (by omega) (by omega) (by omega) (by omega)).mono ?_; rintro e w8 ⟨rfl, b8⟩; have f8 := f7.grown b8; have q0 := f8.v.c0; have q1 := f8.v.c1; have q2 := f8.v.c2; have q3 := f8.v.c3; have q4 := f8.v.c4; have q5 := f8.v.c5; have q6 := f8.v.c6; have q7 := f8.v.c7; have q8 := f8.v.c8)
              | (go_at_call 21; refine (chunkAt_any _ _ _ _ _ _ _ _ _ (by omega) (by omega) (by omega) (by omega) (by omega) (by omega)).mono ?_; rintro e w9 ⟨rfl, b9⟩; have f9 := f8.grown b9)
              | (go_at_call 14; refine (slot_won i7 x rfl).mono ?_; rintro e w8 ⟨rfl, rfl⟩)
              | (go_at_call 13; refine (f4.step FA.out hLW.out hEW.out hWW.out (by omega) (by omega) 1 (by omega) i4 false rfl).mono ?_; rintro e w5 ⟨rfl, s5, cs5, f5, i5, o5, la5⟩; have u0 := f5.v.c0; have u1 := f5.v.c1; have u2 := f5.v.c2; have u3 := f5.v.c3; have u4 := f5.v.c4; have u5 := f5.v.c5; have u6 := f5.v.c6; have u7 := f5.v.c7; have u8 := f5.v.c8)
              | (go_at_call 11; refine (f7.give FA.out (by omega) (by omega) HX.out HF.out).mono ?_; rintro e w9 ⟨rfl, s9, f9, o9, -⟩)
              | (go_at_call 17; refine (f6.now (σ + 1 + 1) rfl).mono ?_; rintro e w7 ⟨rfl, b7⟩; have f7 := f6.grown b7; have i7 := (i5.of_block (b6.block _ i5.lt)).of_block (b7.block _ (i5.of_block (b6.block _ i5.lt)).lt); have p0 := f7.v.c0; have p1 := f7.v.c1; have p2 := f7.v.c2; have p3 := f7.v.c3; have p4 := f7.v.c4; have p5 := f7.v.c5; have p6 := f7.v.c6; have p7 := f7.v.c7; have p8 := f7.v.c8)
              | (go_at_call 17; refine (f.now (σ + 1) rfl).mono ?_; rintro e w4 ⟨rfl, b4⟩; have f4 := f.grown b4; have i4 := i3.of_block (b4.block _ i3.lt); have z0 := f4.v.c0; have z1 := f4.v.c1; have z2 := f4.v.c2; have z3 := f4.v.c3; have z4 := f4.v.c4; have z5 := f4.v.c5; have z6 := f4.v.c6; have z7 := f4.v.c7; have z8 := f4.v.c8))
            go_roundw
            case rel => exact ⟨2, s5, cs5, rfl, by omega, f9, (i7.of_block (b8.block _ i7.lt)).of_block (b9.block _ (i7.of_block (b8.block _ i7.lt)).lt)⟩
            case measure => simp [intOf]
          · rcases hzz with hzt | hzt
            · rw [hzt] at hzl
              have hz4 := fun (W : World) (B : Below w.heap.size w W) => keep' B hzl.out
              go_wp2_with (first
              | (go_at_call 14; refine (slot_won i7 x rfl).mono ?_; rintro e w8 ⟨rfl, rfl⟩; have hz9 := hz4 _ f7.b)
              | (first
              | (go_at_call 18; refine (last_la f5.m 1 la5).mono ?_; rintro e w6 ⟨rfl, b6⟩; have f6 := f5.grown b6; have v0 := f6.v.c0; have v1 := f6.v.c1; have v2 := f6.v.c2; have v3 := f6.v.c3; have v4 := f6.v.c4; have v5 := f6.v.c5; have v6 := f6.v.c6; have v7 := f6.v.c7; have v8 := f6.v.c8)
              | (go_at_call 19; refine (ltop_any _).mono ?_; rintro e w8 ⟨rfl, rfl⟩)
              | (go_at_call 20; refine (slotAt_any _ _ _ _ _ _ _ _ _ (by omega) (by omega) (by omega) (by omega)).mono ?_; rintro e w8 ⟨rfl, b8⟩; have f8 := f7.grown b8; have q0 := f8.v.c0; have q1 := f8.v.c1; have q2 := f8.v.c2; have q3 := f8.v.c3; have q4 := f8.v.c4; have q5 := f8.v.c5; have q6 := f8.v.c6; have q7 := f8.v.c7; have q8 := f8.v.c8)
              | (go_at_call 21; refine (chunkAt_any _ _ _ _ _ _ _ _ _ (by omega) (by omega) (by omega) (by omega) (by omega) (by omega)).mono ?_; rintro e w9 ⟨rfl, b9⟩; have f9 := f8.grown b9)
              | (go_at_call 14; refine (slot_won i7 x rfl).mono ?_; rintro e w8 ⟨rfl, rfl⟩)
              | (go_at_call 13; refine (f4.step FA.out hLW.out hEW.out hWW.out (by omega) (by omega) 2 (by omega) i4 true rfl).mono ?_; rintro e w5 ⟨rfl, s5, cs5, f5, i5, o5, la5⟩; have u0 := f5.v.c0; have u1 := f5.v.c1; have u2 := f5.v.c2; have u3 := f5.v.c3; have u4 := f5.v.c4; have u5 := f5.v.c5; have u6 := f5.v.c6; have u7 := f5.v.c7; have u8 := f5.v.c8)
              | (go_at_call 11; refine (f7.give FA.out (by omega) (by omega) HX.out HF.out).mono ?_; rintro e w9 ⟨rfl, s9, f9, o9, -⟩)
              | (go_at_call 17; refine (f6.now (σ + 2 + 1) rfl).mono ?_; rintro e w7 ⟨rfl, b7⟩; have f7 := f6.grown b7; have i7 := (i5.of_block (b6.block _ i5.lt)).of_block (b7.block _ (i5.of_block (b6.block _ i5.lt)).lt); have p0 := f7.v.c0; have p1 := f7.v.c1; have p2 := f7.v.c2; have p3 := f7.v.c3; have p4 := f7.v.c4; have p5 := f7.v.c5; have p6 := f7.v.c6; have p7 := f7.v.c7; have p8 := f7.v.c8)
              | (go_at_call 17; refine (f.now (σ + 2) rfl).mono ?_; rintro e w4 ⟨rfl, b4⟩; have f4 := f.grown b4; have i4 := i3.of_block (b4.block _ i3.lt); have z0 := f4.v.c0; have z1 := f4.v.c1; have z2 := f4.v.c2; have z3 := f4.v.c3; have z4 := f4.v.c4; have z5 := f4.v.c5; have z6 := f4.v.c6; have z7 := f4.v.c7; have z8 := f4.v.c8)))
              go_roundw
              case rel => exact ⟨k + 1, s9, σ + 2 + 1 + 3, c + 1 + 1, _, _, by go_num, by omega, by omega, f9⟩
              case measure => simp [intOf]; omega
            · rw [hzt] at hzl
              have hz4 := fun (W : World) (B : Below w.heap.size w W) => keep' B hzl.out
              go_wp2_with (first
              | (go_at_call 14; refine (slot_won i7 x rfl).mono ?_; rintro e w8 ⟨rfl, rfl⟩; have hz9 := hz4 _ f7.b)
              | (first
              | (go_at_call 18; refine (last_la f5.m 1 la5).mono ?_; rintro e w6 ⟨rfl, b6⟩; have f6 := f5.grown b6; have v0 := f6.v.c0; have v1 := f6.v.c1; have v2 := f6.v.c2; have v3 := f6.v.c3; have v4 := f6.v.c4; have v5 := f6.v.c5; have v6 := f6.v.c6; have v7 := f6.v.c7; have v8 := f6.v.c8)
              | (go_at_call 19; refine (ltop_any _).mono ?_; rintro e w8 ⟨rfl, rfl⟩)
              | (go_at_call 20; refine (slotAt_any _ _ _ _ _ _ _ _ _ (by omega) (by omega) (by omega) (by omega)).mono ?_; rintro e w8 ⟨rfl, b8⟩; have f8 := f7.grown b8; have q0 := f8.v.c0; have q1 := f8.v.c1; have q2 := f8.v.c2; have q3 := f8.v.c3; have q4 := f8.v.c4; have q5 := f8.v.c5; have q6 := f8.v.c6; have q7 := f8.v.c7; have q8 := f8.v.c8)
              | (go_at_call 21; refine (chunkAt_any _ _ _ _ _ _ _ _ _ (by omega) (by omega) (by omega) (by omega) (by omega) (by omega)).mono ?_; rintro e w9 ⟨rfl, b9⟩; have f9 := f8.grown b9)
              | (go_at_call 14; refine (slot_won i7 x rfl).mono ?_; rintro e w8 ⟨rfl, rfl⟩)
              | (go_at_call 13; refine (f4.step FA.out hLW.out hEW.out hWW.out (by omega) (by omega) 2 (by omega) i4 true rfl).mono ?_; rintro e w5 ⟨rfl, s5, cs5, f5, i5, o5, la5⟩; have u0 := f5.v.c0; have u1 := f5.v.c1; have u2 := f5.v.c2; have u3 := f5.v.c3; have u4 := f5.v.c4; have u5 := f5.v.c5; have u6 := f5.v.c6; have u7 := f5.v.c7; have u8 := f5.v.c8)
              | (go_at_call 11; refine (f7.give FA.out (by omega) (by omega) HX.out HF.out).mono ?_; rintro e w9 ⟨rfl, s9, f9, o9, -⟩)
              | (go_at_call 17; refine (f6.now (σ + 2 + 1) rfl).mono ?_; rintro e w7 ⟨rfl, b7⟩; have f7 := f6.grown b7; have i7 := (i5.of_block (b6.block _ i5.lt)).of_block (b7.block _ (i5.of_block (b6.block _ i5.lt)).lt); have p0 := f7.v.c0; have p1 := f7.v.c1; have p2 := f7.v.c2; have p3 := f7.v.c3; have p4 := f7.v.c4; have p5 := f7.v.c5; have p6 := f7.v.c6; have p7 := f7.v.c7; have p8 := f7.v.c8)
              | (go_at_call 17; refine (f.now (σ + 2) rfl).mono ?_; rintro e w4 ⟨rfl, b4⟩; have f4 := f.grown b4; have i4 := i3.of_block (b4.block _ i3.lt); have z0 := f4.v.c0; have z1 := f4.v.c1; have z2 := f4.v.c2; have z3 := f4.v.c3; have z4 := f4.v.c4; have z5 := f4.v.c5; have z6 := f4.v.c6; have z7 := f4.v.c7; have z8 := f4.v.c8)))
              go_roundw
              case rel => exact ⟨k + 1, s5, σ + 2 + 1, c + 1, lk, F', by go_num, by omega, by omega, f7⟩
              case measure => simp [intOf]; omega
    · have hd1 := f.p.hdle
      have e7 := fun N : Later wr => (f.v.grown N.below).c7
      have hm := fun N : Later wr => f.m.below N.below
      have htop := f.p.top
      have hC : c ≤ 1000000 := by have := f.p.cs; omega
      have hlen : 1 < s'.n := by have := f.p.len; omega
      have hd2 : ((hd F : Nat) : Int) - 1 < (n : Int) := by omega
      have B := f.b
      clear f
      haveI := Later.exists wr
      by_cases hkN : k < N
      · have hkN' : (k : Int) < (N : Int) := by omega
        have hk20' : ¬ (k : Int) < 20 := by omega
        clear hk
        go_wp2
        refine wp_region_later (by kernel_rfl) (by kernel_rfl) ?_
        repeat (go_big_quiet_step ((first
          | (go_at_call 19; exact Calls.later_same (ltop_any _))
          | (go_at_call 23; exact Calls.later_same (peek_is (hm _) 1 hlen _ htop))
          | (go_at_call 22; exact Calls.later_same (top_w (hd F) c _ (by omega) (by omega))))))
        refine wpQuiet_nil ?_
        rintro _ ⟨nq, rfl⟩
        go_wp2_with (go_at_call 14; refine (slot_nobody _).mono ?_; rintro e w8 ⟨rfl, rfl⟩)
        go_ret
        exact ⟨rfl, grow B nq.below⟩
      · have hkN' : ¬ (k : Int) < (N : Int) := by omega
        clear hk
        go_wp2
        refine wp_region_later (by kernel_rfl) (by kernel_rfl) ?_
        repeat (go_big_quiet_step ((first
          | (go_at_call 19; exact Calls.later_same (ltop_any _))
          | (go_at_call 23; exact Calls.later_same (peek_is (hm _) 1 hlen _ htop))
          | (go_at_call 22; exact Calls.later_same (top_w (hd F) c _ (by omega) (by omega))))))
        refine wpQuiet_nil ?_
        rintro _ ⟨nq, rfl⟩
        go_wp2_with (go_at_call 14; refine (slot_nobody _).mono ?_; rintro e w8 ⟨rfl, rfl⟩)
        go_ret
        exact ⟨rfl, grow B nq.below⟩

end Go.Proofs.Ytfedcddnjollmaa
