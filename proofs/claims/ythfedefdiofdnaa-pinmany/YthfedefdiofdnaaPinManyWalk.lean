/- PinMany answers true for every slice of ints, and leaves what was in memory. -/
import Derived.Test.YthfedefdiofdnaaPinCrowd
import Derived.Test.YthfedefdiofdnaaArgs
namespace Go.Proofs.Ythfedefdiofdnaa
open Go.RowKit

theorem crowd0 : Crowd (Mm.laid 4 1 32 1) (fun _ => 0) := ⟨rfl, rfl, fun _ _ => by omega, fun _ _ h => by omega⟩

theorem ins0 (w : World) : InsAt (w.alloc (.cells #[.int .i64 0, .int .u64 0, .int .i64 0, .int .u64 0, .int .i64 0, .int .u64 0, .int .i64 0, .int .u64 0] 47)) w.heap.size (fun _ => 0) :=
  ⟨_, Go.Deep.blk_alloc_new _ _, fun j hj => by
    have : j = 0 ∨ j = 1 ∨ j = 2 ∨ j = 3 := by omega
    rcases this with rfl | rfl | rfl | rfl <;> exact ⟨rfl, rfl⟩⟩

theorem dones0 (w : World) : (w.alloc (.cells #[.bool false, .bool false, .bool false, .bool false] 48)).rowIs w.heap.size 48 4 (fun j => .bool (doneOf (fun _ => 0) j)) :=
  ⟨_, Go.Deep.blk_alloc_new _ _, rfl, fun j hj => by
    have : j = 0 ∨ j = 1 ∨ j = 2 ∨ j = 3 := by omega
    rcases this with rfl | rfl | rfl | rfl <;> rfl⟩

theorem low4 (x : Int) : ∃ K : Nat, bits .and .i64 x 3 = (K : Int) ∧ K < 4 := by
  have h := i64_low x 3 2 (by decide) (by decide)
  have h1 := Int.emod_nonneg x (b := 4) (by omega)
  have h2 := Int.emod_lt_of_pos x (b := 4) (by omega)
  exact ⟨(x % 4).toNat, by rw [h]; omega, by omega⟩

theorem rem4 (k : Nat) : ∃ K : Nat, (k : Int).tmod 4 = (K : Int) ∧ K < 4 :=
  ⟨k % 4, by rw [Int.tmod_eq_emod_of_nonneg (by omega)]; omega, by omega⟩

set_option maxRecDepth 20000 in
set_option maxHeartbeats 4000000 in
theorem pinMany_any (ao : Option Addr) (n cap : Nat) (z : Nat → Int) (w : World) (hr : IntsAt .i64 w ao n z) :
    Calls Try.prog 5 #[.slice ao n cap] w fun e w' => e = .returned (.bool true) ∧ Below w.heap.size w w' := by
  have HR : Hid (IntsAt .i64 w ao n z) := hr
  clear hr
  go_enter Try.func5, Try.ntmps5
  go_wp2_with (first
    | (go_at_call 6; refine (arena_any _ _).mono ?_; rintro e w1 ⟨L, rfl, m1, b1, f1⟩)
    | (go_at_call 7; refine (awake05_any _).mono ?_; rintro e w2 ⟨rfl, b2⟩))
  have z2 : w1.heap.size + 1 ≤ w2.heap.size := by have := b2.size; rw [Go.Deep.nblk_alloc] at this; exact this
  have z1 := b1.size
  have AP : Hid (CrowdApart w L w1.heap.size w2.heap.size (w2.heap.size + 1)) := ⟨fun hh => by have := m1.lt _ hh; omega, fun hh => by have := m1.lt _ hh; omega, fun hh => by have := m1.lt _ hh; omega, by omega, by omega, by omega, f1, by omega, by omega, by omega⟩
  have A0 : Hid (CrowdAt w ((w2.alloc (.cells #[.int .i64 0, .int .u64 0, .int .i64 0, .int .u64 0, .int .i64 0, .int .u64 0, .int .i64 0, .int .u64 0] 47)).alloc (.cells #[.bool false, .bool false, .bool false, .bool false] 48)) L w1.heap.size w2.heap.size (w2.heap.size + 1) 0 (Mm.laid 4 1 32 1) (fun _ => 0) (doneOf (fun _ => 0))) := by
    have V : BoxE (w1.alloc (.cells #[.int .i64 4, .int .i64 1, .int .i64 1, .int .i64 17, .int .i64 1, .int .i64 0, .int .i64 1, .pointer (some ⟨L.p, 0, none⟩), .int .i64 0] 27)) w1.heap.size 4 1 1 17 1 0 1 L.p 0 := Go.Deep.blk_alloc_new _ _
    refine ⟨(((m1.alloc _).below b2).alloc _).alloc _, ?_, ?_, ((V.grown b2).grown (grow_alloc (Below.refl _ _) _)).grown (grow_alloc (Below.refl _ _) _), grow_alloc (grow_alloc (grow (grow_alloc b1 _) b2) _) _⟩
    · obtain ⟨c, h1, h2⟩ := ins0 w2
      exact ⟨c, (Go.Deep.blk_alloc_lt _ _ _ (blk_lt h1)).trans h1, h2⟩
    · have := dones0 (w2.alloc (.cells #[.int .i64 0, .int .u64 0, .int .i64 0, .int .u64 0, .int .i64 0, .int .u64 0, .int .i64 0, .int .u64 0] 47))
      rw [Go.Deep.nblk_alloc] at this
      exact this
  clear m1 b1 f1 b2 z2 z1
  go_loopw [7] (fun i wr => ∃ (k : Nat) (s : Mm) (nx : Nat → Nat) (who : Int), i = .int .i64 k ∧ k ≤ 60 ∧ Crowd s nx ∧ CrowdAt w wr L w1.heap.size w2.heap.size (w2.heap.size + 1) who s nx (doneOf nx)) (fun i _ => 60 - (intOf i).toNat)
  case atStart => exact ⟨0, _, _, 0, rfl, by omega, crowd0, A0.out⟩
  case round =>
    clear A0
    obtain ⟨k, s, nx, who, rfl, hk60, C, A⟩ := hrel
    have CH : Hid (Crowd s nx) := C
    have AH : Hid (CrowdAt w wr L w1.heap.size w2.heap.size (w2.heap.size + 1) who s nx (doneOf nx)) := A
    clear C
    by_cases hk : k < 60
    · have hk' : (k : Int) < 60 := by omega
      have y8 := A.v.v.c8
      have yf := A.v.fz
      clear A
      by_cases hlt : k < n
      · by_cases h40 : k < 40
        · obtain ⟨b, off, rfl, hc⟩ := HR.out k hlt
          have hc1 := keep' AH.out.b hc
          obtain ⟨K, hKe, hK0⟩ := low4 (z k)
          have hK : Hid (K < 4) := hK0
          have hK4 : (K : Int) < 4 := by omega
          clear hK0 hc
          have A3 : Hid (CrowdAt w (wr.setCell ⟨w1.heap.size, 8, none⟩ (.int .i64 K)) L w1.heap.size w2.heap.size (w2.heap.size + 1) K s nx (doneOf nx)) := AH.out.set8 AP.out K
          have d3 := A3.out.d.cell hK.out
          by_cases h3' : nx K = 3
          · have d4 : (wr.setCell ⟨w1.heap.size, 8, none⟩ (.int .i64 K)).cell? ⟨(w2.heap.size + 1), K, none⟩ = some (.bool true) := by rw [d3]; simp [doneOf, h3']
            clear d3
            go_wp2
            go_roundw
            case rel => exact ⟨k + 1, s, nx, K, by go_num, by omega, CH.out, A3.out⟩
            case measure => simp [intOf]; omega
          · have d4 : (wr.setCell ⟨w1.heap.size, 8, none⟩ (.int .i64 K)).cell? ⟨(w2.heap.size + 1), K, none⟩ = some (.bool false) := by rw [d3]; simp [doneOf, h3']
            have h3 : Hid (nx K < 3) := by have := CH.out.le K hK.out; exact Nat.lt_of_le_of_ne this h3'
            clear d3 h3'
            go_wp2
            refine wp_region_phase (Only (L.three w2.heap.size (w2.heap.size + 1))) (fun x y => y = x) (phCrowd w L w1.heap.size w2.heap.size (w2.heap.size + 1) K s nx (doneOf nx)) [4, 6] [.val (.int .i64 K), .val (.int .i64 K), .val (.pointer (some ⟨w2.heap.size, K * 2, none⟩)), .val (.agg #[.int .i64 4, .int .i64 1, .int .i64 1, .int .i64 17, .int .i64 1, .int .i64 0, .int .i64 1, .pointer (some ⟨L.p, 0, none⟩), .int .i64 K]), .val (.bool (decide (nx K = 2))), .val (.pointer (some ⟨(w2.heap.size + 1), K, none⟩)), .that (fun _ _ => True) (fun _ _ _ _ _ => trivial)]
              (by kernel_rfl) (Only.refl _) (fun _ _ _ h k => h.trans k) (fun x y h => by subst h; exact Only.refl _ _) (fun x y p h k => by subst h; exact k) (A3.out.same ((Below.refl _ _).drew)) (by kernel_rfl) (by kernel_rfl) (by kernel_rfl) (by kernel_rfl) (by kernel_rfl) ?_
            simp only [phaseAll, Act.put, List.setIfInBounds_toArray, List.set_cons_zero, List.set_cons_succ]
            refine ⟨?_, ?_, ?_, ?_, ?_, ?_, ?_, ?_⟩
            · intro w' hR _
              refine Or.inl ⟨rfl, ?_⟩
              go_simp
              exact ⟨rfl, rfl⟩
            · intro w' hR _
              refine Or.inl ⟨rfl, ?_⟩
              go_simp
              exact ⟨rfl, rfl⟩
            · intro w' hR _
              refine Or.inl ⟨rfl, ?_⟩
              go_simp
              exact ⟨rfl, rfl⟩
            · intro w' hR _
              refine Or.inl ⟨rfl, ?_⟩
              have vv := (A3.out.same ((Below.refl _ _).drew)).v.v.only hR (fun hh => hh.elim (fun hh => hh.elim AP.out.e AP.out.ea) AP.out.ed)
              have y0 := vv.c0
              have y1 := vv.c1
              have y2 := vv.c2
              have y3 := vv.c3
              have y4 := vv.c4
              have y5 := vv.c5
              have y6 := vv.c6
              have y7 := vv.c7
              have y8 := vv.c8
              go_simp
              exact ⟨rfl, rfl⟩
            · intro w' hR _ hP
              refine Or.inl ⟨rfl, ?_⟩
              have hP' : Hid (CrowdAt w w' L w1.heap.size w2.heap.size (w2.heap.size + 1) K s nx (doneOf nx)) := hP
              clear hP
              go_simp
              refine (hP'.out.step AP.out CH.out hK.out h3.out).mono ?_
              rintro e w'' ⟨rfl, o5, s5, c5, a5⟩
              exact ⟨_, rfl, ⟨o5, s5, c5, a5⟩, rfl⟩
            · intro w' hR _
              refine Or.inl ⟨rfl, ?_⟩
              go_simp
              exact ⟨rfl, rfl⟩
            · intro w' hR _ hP
              refine Or.inl ⟨rfl, ?_⟩
              obtain ⟨s5, c5, a5⟩ := hP
              have z0 := a5.d.cell hK.out
              have z1 := a5.d.frozen
              go_simp
              exact ⟨⟨(Only.refl _ _).setCell (fun _ => Or.inr rfl) _, s5, c5, a5.done AP.out K _⟩, trivial⟩
            intro v w4 hR hP _
            have hP' : ∃ s', Crowd s' (upd nx K (nx K + 1)) ∧ CrowdAt w w4 L w1.heap.size w2.heap.size (w2.heap.size + 1) K s' (upd nx K (nx K + 1)) (upd (doneOf nx) K (decide (nx K = 2))) := hP
            clear hP hR
            obtain ⟨s4, C4, A4⟩ := hP'
            rw [doneOf_upd] at A4
            have C4' : Hid (Crowd s4 (upd nx K (nx K + 1))) := C4
            have A4' : Hid (CrowdAt w w4 L w1.heap.size w2.heap.size (w2.heap.size + 1) K s4 (upd nx K (nx K + 1)) (doneOf (upd nx K (nx K + 1)))) := A4
            clear C4 A4
            go_wp2
            go_roundw
            case rel => exact ⟨k + 1, s4, _, K, by go_num, by omega, C4'.out, A4'.out⟩
            case measure => simp [intOf]; omega
        · obtain ⟨K, hKe, hK0⟩ := rem4 k
          have hK : Hid (K < 4) := hK0
          have hK4 : (K : Int) < 4 := by omega
          clear hK0
          have A3 : Hid (CrowdAt w (wr.setCell ⟨w1.heap.size, 8, none⟩ (.int .i64 K)) L w1.heap.size w2.heap.size (w2.heap.size + 1) K s nx (doneOf nx)) := AH.out.set8 AP.out K
          have d3 := A3.out.d.cell hK.out
          by_cases h3' : nx K = 3
          · have d4 : (wr.setCell ⟨w1.heap.size, 8, none⟩ (.int .i64 K)).cell? ⟨(w2.heap.size + 1), K, none⟩ = some (.bool true) := by rw [d3]; simp [doneOf, h3']
            clear d3
            go_wp2
            go_roundw
            case rel => exact ⟨k + 1, s, nx, K, by go_num, by omega, CH.out, A3.out⟩
            case measure => simp [intOf]; omega
          · have d4 : (wr.setCell ⟨w1.heap.size, 8, none⟩ (.int .i64 K)).cell? ⟨(w2.heap.size + 1), K, none⟩ = some (.bool false) := by rw [d3]; simp [doneOf, h3']
            have h3 : Hid (nx K < 3) := by have := CH.out.le K hK.out; exact Nat.lt_of_le_of_ne this h3'
            clear d3 h3'
            go_wp2
            refine wp_region_phase (Only (L.three w2.heap.size (w2.heap.size + 1))) (fun x y => y = x) (phCrowd w L w1.heap.size w2.heap.size (w2.heap.size + 1) K s nx (doneOf nx)) [4, 6] [.val (.int .i64 K), .val (.int .i64 K), .val (.pointer (some ⟨w2.heap.size, K * 2, none⟩)), .val (.agg #[.int .i64 4, .int .i64 1, .int .i64 1, .int .i64 17, .int .i64 1, .int .i64 0, .int .i64 1, .pointer (some ⟨L.p, 0, none⟩), .int .i64 K]), .val (.bool (decide (nx K = 2))), .val (.pointer (some ⟨(w2.heap.size + 1), K, none⟩)), .that (fun _ _ => True) (fun _ _ _ _ _ => trivial)]
              (by kernel_rfl) (Only.refl _) (fun _ _ _ h k => h.trans k) (fun x y h => by subst h; exact Only.refl _ _) (fun x y p h k => by subst h; exact k) (A3.out.same ((Below.refl _ _).drew)) (by kernel_rfl) (by kernel_rfl) (by kernel_rfl) (by kernel_rfl) (by kernel_rfl) ?_
            simp only [phaseAll, Act.put, List.setIfInBounds_toArray, List.set_cons_zero, List.set_cons_succ]
            refine ⟨?_, ?_, ?_, ?_, ?_, ?_, ?_, ?_⟩
            · intro w' hR _
              refine Or.inl ⟨rfl, ?_⟩
              go_simp
              exact ⟨rfl, rfl⟩
            · intro w' hR _
              refine Or.inl ⟨rfl, ?_⟩
              go_simp
              exact ⟨rfl, rfl⟩
            · intro w' hR _
              refine Or.inl ⟨rfl, ?_⟩
              go_simp
              exact ⟨rfl, rfl⟩
            · intro w' hR _
              refine Or.inl ⟨rfl, ?_⟩
              have vv := (A3.out.same ((Below.refl _ _).drew)).v.v.only hR (fun hh => hh.elim (fun hh => hh.elim AP.out.e AP.out.ea) AP.out.ed)
              have y0 := vv.c0
              have y1 := vv.c1
              have y2 := vv.c2
              have y3 := vv.c3
              have y4 := vv.c4
              have y5 := vv.c5
              have y6 := vv.c6
              have y7 := vv.c7
              have y8 := vv.c8
              go_simp
              exact ⟨rfl, rfl⟩
            · intro w' hR _ hP
              refine Or.inl ⟨rfl, ?_⟩
              have hP' : Hid (CrowdAt w w' L w1.heap.size w2.heap.size (w2.heap.size + 1) K s nx (doneOf nx)) := hP
              clear hP
              go_simp
              refine (hP'.out.step AP.out CH.out hK.out h3.out).mono ?_
              rintro e w'' ⟨rfl, o5, s5, c5, a5⟩
              exact ⟨_, rfl, ⟨o5, s5, c5, a5⟩, rfl⟩
            · intro w' hR _
              refine Or.inl ⟨rfl, ?_⟩
              go_simp
              exact ⟨rfl, rfl⟩
            · intro w' hR _ hP
              refine Or.inl ⟨rfl, ?_⟩
              obtain ⟨s5, c5, a5⟩ := hP
              have z0 := a5.d.cell hK.out
              have z1 := a5.d.frozen
              go_simp
              exact ⟨⟨(Only.refl _ _).setCell (fun _ => Or.inr rfl) _, s5, c5, a5.done AP.out K _⟩, trivial⟩
            intro v w4 hR hP _
            have hP' : ∃ s', Crowd s' (upd nx K (nx K + 1)) ∧ CrowdAt w w4 L w1.heap.size w2.heap.size (w2.heap.size + 1) K s' (upd nx K (nx K + 1)) (upd (doneOf nx) K (decide (nx K = 2))) := hP
            clear hP hR
            obtain ⟨s4, C4, A4⟩ := hP'
            rw [doneOf_upd] at A4
            have C4' : Hid (Crowd s4 (upd nx K (nx K + 1))) := C4
            have A4' : Hid (CrowdAt w w4 L w1.heap.size w2.heap.size (w2.heap.size + 1) K s4 (upd nx K (nx K + 1)) (doneOf (upd nx K (nx K + 1)))) := A4
            clear C4 A4
            go_wp2
            go_roundw
            case rel => exact ⟨k + 1, s4, _, K, by go_num, by omega, C4'.out, A4'.out⟩
            case measure => simp [intOf]; omega
      · obtain ⟨K, hKe, hK0⟩ := rem4 k
        have hK : Hid (K < 4) := hK0
        have hK4 : (K : Int) < 4 := by omega
        clear hK0
        have A3 : Hid (CrowdAt w (wr.setCell ⟨w1.heap.size, 8, none⟩ (.int .i64 K)) L w1.heap.size w2.heap.size (w2.heap.size + 1) K s nx (doneOf nx)) := AH.out.set8 AP.out K
        have d3 := A3.out.d.cell hK.out
        by_cases h3' : nx K = 3
        · have d4 : (wr.setCell ⟨w1.heap.size, 8, none⟩ (.int .i64 K)).cell? ⟨(w2.heap.size + 1), K, none⟩ = some (.bool true) := by rw [d3]; simp [doneOf, h3']
          clear d3
          go_wp2
          go_roundw
          case rel => exact ⟨k + 1, s, nx, K, by go_num, by omega, CH.out, A3.out⟩
          case measure => simp [intOf]; omega
        · have d4 : (wr.setCell ⟨w1.heap.size, 8, none⟩ (.int .i64 K)).cell? ⟨(w2.heap.size + 1), K, none⟩ = some (.bool false) := by rw [d3]; simp [doneOf, h3']
          have h3 : Hid (nx K < 3) := by have := CH.out.le K hK.out; exact Nat.lt_of_le_of_ne this h3'
          clear d3 h3'
          go_wp2
          refine wp_region_phase (Only (L.three w2.heap.size (w2.heap.size + 1))) (fun x y => y = x) (phCrowd w L w1.heap.size w2.heap.size (w2.heap.size + 1) K s nx (doneOf nx)) [4, 6] [.val (.int .i64 K), .val (.int .i64 K), .val (.pointer (some ⟨w2.heap.size, K * 2, none⟩)), .val (.agg #[.int .i64 4, .int .i64 1, .int .i64 1, .int .i64 17, .int .i64 1, .int .i64 0, .int .i64 1, .pointer (some ⟨L.p, 0, none⟩), .int .i64 K]), .val (.bool (decide (nx K = 2))), .val (.pointer (some ⟨(w2.heap.size + 1), K, none⟩)), .that (fun _ _ => True) (fun _ _ _ _ _ => trivial)]
            (by kernel_rfl) (Only.refl _) (fun _ _ _ h k => h.trans k) (fun x y h => by subst h; exact Only.refl _ _) (fun x y p h k => by subst h; exact k) (A3.out.same ((Below.refl _ _).drew)) (by kernel_rfl) (by kernel_rfl) (by kernel_rfl) (by kernel_rfl) (by kernel_rfl) ?_
          simp only [phaseAll, Act.put, List.setIfInBounds_toArray, List.set_cons_zero, List.set_cons_succ]
          refine ⟨?_, ?_, ?_, ?_, ?_, ?_, ?_, ?_⟩
          · intro w' hR _
            refine Or.inl ⟨rfl, ?_⟩
            go_simp
            exact ⟨rfl, rfl⟩
          · intro w' hR _
            refine Or.inl ⟨rfl, ?_⟩
            go_simp
            exact ⟨rfl, rfl⟩
          · intro w' hR _
            refine Or.inl ⟨rfl, ?_⟩
            go_simp
            exact ⟨rfl, rfl⟩
          · intro w' hR _
            refine Or.inl ⟨rfl, ?_⟩
            have vv := (A3.out.same ((Below.refl _ _).drew)).v.v.only hR (fun hh => hh.elim (fun hh => hh.elim AP.out.e AP.out.ea) AP.out.ed)
            have y0 := vv.c0
            have y1 := vv.c1
            have y2 := vv.c2
            have y3 := vv.c3
            have y4 := vv.c4
            have y5 := vv.c5
            have y6 := vv.c6
            have y7 := vv.c7
            have y8 := vv.c8
            go_simp
            exact ⟨rfl, rfl⟩
          · intro w' hR _ hP
            refine Or.inl ⟨rfl, ?_⟩
            have hP' : Hid (CrowdAt w w' L w1.heap.size w2.heap.size (w2.heap.size + 1) K s nx (doneOf nx)) := hP
            clear hP
            go_simp
            refine (hP'.out.step AP.out CH.out hK.out h3.out).mono ?_
            rintro e w'' ⟨rfl, o5, s5, c5, a5⟩
            exact ⟨_, rfl, ⟨o5, s5, c5, a5⟩, rfl⟩
          · intro w' hR _
            refine Or.inl ⟨rfl, ?_⟩
            go_simp
            exact ⟨rfl, rfl⟩
          · intro w' hR _ hP
            refine Or.inl ⟨rfl, ?_⟩
            obtain ⟨s5, c5, a5⟩ := hP
            have z0 := a5.d.cell hK.out
            have z1 := a5.d.frozen
            go_simp
            exact ⟨⟨(Only.refl _ _).setCell (fun _ => Or.inr rfl) _, s5, c5, a5.done AP.out K _⟩, trivial⟩
          intro v w4 hR hP _
          have hP' : ∃ s', Crowd s' (upd nx K (nx K + 1)) ∧ CrowdAt w w4 L w1.heap.size w2.heap.size (w2.heap.size + 1) K s' (upd nx K (nx K + 1)) (upd (doneOf nx) K (decide (nx K = 2))) := hP
          clear hP hR
          obtain ⟨s4, C4, A4⟩ := hP'
          rw [doneOf_upd] at A4
          have C4' : Hid (Crowd s4 (upd nx K (nx K + 1))) := C4
          have A4' : Hid (CrowdAt w w4 L w1.heap.size w2.heap.size (w2.heap.size + 1) K s4 (upd nx K (nx K + 1)) (doneOf (upd nx K (nx K + 1)))) := A4
          clear C4 A4
          go_wp2
          go_roundw
          case rel => exact ⟨k + 1, s4, _, K, by go_num, by omega, C4'.out, A4'.out⟩
          case measure => simp [intOf]; omega
    · obtain rfl : k = 60 := by omega
      clear hk hk60
      clear A
      go_wp2
      go_loopw [9] (fun i wr => ∃ (K : Nat) (s : Mm) (nx : Nat → Nat) (who : Int), i = .int .i64 K ∧ K ≤ 4 ∧ Crowd s nx ∧ CrowdAt w wr L w1.heap.size w2.heap.size (w2.heap.size + 1) who s nx (doneOf nx)) (fun i _ => 4 - (intOf i).toNat)
      case atStart => exact ⟨0, s, nx, who, rfl, by omega, CH.out, AH.out⟩
      case round =>
        clear AH CH
        obtain ⟨K, s, nx, who, rfl, hK40, C, A⟩ := hrel
        have CH : Hid (Crowd s nx) := C
        have AH : Hid (CrowdAt w wr L w1.heap.size w2.heap.size (w2.heap.size + 1) who s nx (doneOf nx)) := A
        clear C
        by_cases hK0 : K < 4
        · have hK : Hid (K < 4) := hK0
          have hK4 : (K : Int) < 4 := by omega
          have y8 := A.v.v.c8
          have yf := A.v.fz
          clear A hK0 hK40
          go_wp2
          have A3 : Hid (CrowdAt w (wr.setCell ⟨w1.heap.size, 8, none⟩ (.int .i64 K)) L w1.heap.size w2.heap.size (w2.heap.size + 1) K s nx (doneOf nx)) := AH.out.set8 AP.out K
          clear AH y8 yf
          go_loopw [10] (fun i wr => ∃ (j : Nat) (s : Mm) (nx : Nat → Nat), i = .int .i64 j ∧ j ≤ nx K ∧ Crowd s nx ∧ CrowdAt w wr L w1.heap.size w2.heap.size (w2.heap.size + 1) K s nx (doneOf nx)) (fun i _ => 5 - (intOf i).toNat)
          case atStart => exact ⟨0, s, nx, rfl, by omega, CH.out, A3.out⟩
          case round =>
            clear A3 CH
            obtain ⟨j, s, nx, rfl, hj, C, A⟩ := hrel
            have CH : Hid (Crowd s nx) := C
            have AH : Hid (CrowdAt w wr L w1.heap.size w2.heap.size (w2.heap.size + 1) K s nx (doneOf nx)) := A
            have hle := C.le K hK.out
            have hj5 : (j : Int) < 5 := by omega
            clear C
            have d3 := A.d.cell hK.out
            clear A
            by_cases h3' : nx K = 3
            · have d4 : wr.cell? ⟨(w2.heap.size + 1), K, none⟩ = some (.bool true) := by rw [d3]; simp [doneOf, h3']
              have hpin : Hid (s.wd (6 + K) = 1) := CH.out.pin K hK.out (by omega)
              clear d3 h3'
              go_wp2
              have e7 := fun N : Later wr => (AH.out.v.v.grown N.below).c7
              have e8 := fun N : Later wr => N.cell d4
              have hm := fun N : Later wr => AH.out.m.below N.below
              haveI := Later.exists wr
              refine wp_region_later (by kernel_rfl) (by kernel_rfl) ?_
              repeat (go_big_quiet_step ((first
                | (go_at_call 10; exact Calls.later_same (lpin_any _ _ (by omega) (by omega)))
                | (go_at_call 9; exact Calls.later_same (peek_is (hm _) (6 + K) (by rw [CH.out.n]; have := hK.out; omega) 1 hpin.out)))))
              refine wpQuiet_nil ?_
              rintro _ ⟨nq, rfl⟩
              have A5 : Hid (CrowdAt w nq.now L w1.heap.size w2.heap.size (w2.heap.size + 1) K s nx (doneOf nx)) := AH.out.same nq.below
              clear e7 e8 hm d4
              go_wp2
              go_roundw
              case rel => exact ⟨K + 1, s, nx, K, by go_num, by have := hK.out; omega, CH.out, A5.out⟩
              case measure => simp [intOf]; have := hK.out; omega
            · have d4 : wr.cell? ⟨(w2.heap.size + 1), K, none⟩ = some (.bool false) := by rw [d3]; simp [doneOf, h3']
              have h3 : Hid (nx K < 3) := Nat.lt_of_le_of_ne hle h3'
              clear d3 h3' hle
              go_wp2
              refine wp_region_phase (Only (L.three w2.heap.size (w2.heap.size + 1))) (fun x y => y = x) (phCrowd w L w1.heap.size w2.heap.size (w2.heap.size + 1) K s nx (doneOf nx)) [4, 6] [.val (.int .i64 K), .val (.int .i64 K), .val (.pointer (some ⟨w2.heap.size, K * 2, none⟩)), .val (.agg #[.int .i64 4, .int .i64 1, .int .i64 1, .int .i64 17, .int .i64 1, .int .i64 0, .int .i64 1, .pointer (some ⟨L.p, 0, none⟩), .int .i64 K]), .val (.bool (decide (nx K = 2))), .val (.pointer (some ⟨(w2.heap.size + 1), K, none⟩)), .that (fun _ _ => True) (fun _ _ _ _ _ => trivial)]
                (by kernel_rfl) (Only.refl _) (fun _ _ _ h k => h.trans k) (fun x y h => by subst h; exact Only.refl _ _) (fun x y p h k => by subst h; exact k) (AH.out.same ((Below.refl _ _).drew)) (by kernel_rfl) (by kernel_rfl) (by kernel_rfl) (by kernel_rfl) (by kernel_rfl) ?_
              simp only [phaseAll, Act.put, List.setIfInBounds_toArray, List.set_cons_zero, List.set_cons_succ]
              refine ⟨?_, ?_, ?_, ?_, ?_, ?_, ?_, ?_⟩
              · intro w' hR _
                refine Or.inl ⟨rfl, ?_⟩
                go_simp
                exact ⟨rfl, rfl⟩
              · intro w' hR _
                refine Or.inl ⟨rfl, ?_⟩
                go_simp
                exact ⟨rfl, rfl⟩
              · intro w' hR _
                refine Or.inl ⟨rfl, ?_⟩
                go_simp
                exact ⟨rfl, rfl⟩
              · intro w' hR _
                refine Or.inl ⟨rfl, ?_⟩
                have vv := (AH.out.same ((Below.refl _ _).drew)).v.v.only hR (fun hh => hh.elim (fun hh => hh.elim AP.out.e AP.out.ea) AP.out.ed)
                have y0 := vv.c0
                have y1 := vv.c1
                have y2 := vv.c2
                have y3 := vv.c3
                have y4 := vv.c4
                have y5 := vv.c5
                have y6 := vv.c6
                have y7 := vv.c7
                have y8 := vv.c8
                go_simp
                exact ⟨rfl, rfl⟩
              · intro w' hR _ hP
                refine Or.inl ⟨rfl, ?_⟩
                have hP' : Hid (CrowdAt w w' L w1.heap.size w2.heap.size (w2.heap.size + 1) K s nx (doneOf nx)) := hP
                clear hP
                go_simp
                refine (hP'.out.step AP.out CH.out hK.out h3.out).mono ?_
                rintro e w'' ⟨rfl, o5, s5, c5, a5⟩
                exact ⟨_, rfl, ⟨o5, s5, c5, a5⟩, rfl⟩
              · intro w' hR _
                refine Or.inl ⟨rfl, ?_⟩
                go_simp
                exact ⟨rfl, rfl⟩
              · intro w' hR _ hP
                refine Or.inl ⟨rfl, ?_⟩
                obtain ⟨s5, c5, a5⟩ := hP
                have z0 := a5.d.cell hK.out
                have z1 := a5.d.frozen
                go_simp
                exact ⟨⟨(Only.refl _ _).setCell (fun _ => Or.inr rfl) _, s5, c5, a5.done AP.out K _⟩, trivial⟩
              intro v w4 hR hP _
              have hP' : ∃ s', Crowd s' (upd nx K (nx K + 1)) ∧ CrowdAt w w4 L w1.heap.size w2.heap.size (w2.heap.size + 1) K s' (upd nx K (nx K + 1)) (upd (doneOf nx) K (decide (nx K = 2))) := hP
              clear hP hR
              obtain ⟨s4, C4, A4⟩ := hP'
              rw [doneOf_upd] at A4
              have C4' : Hid (Crowd s4 (upd nx K (nx K + 1))) := C4
              have A4' : Hid (CrowdAt w w4 L w1.heap.size w2.heap.size (w2.heap.size + 1) K s4 (upd nx K (nx K + 1)) (doneOf (upd nx K (nx K + 1)))) := A4
              clear C4 A4
              go_wp2
              go_roundw
              case rel => exact ⟨j + 1, s4, _, by go_num, by rw [upd_same]; omega, C4'.out, A4'.out⟩
              case measure => simp [intOf]; omega
        · obtain rfl : K = 4 := by omega
          have B := A.b
          clear A AH
          go_wp2
          go_ret
          exact ⟨rfl, B⟩

end Go.Proofs.Ythfedefdiofdnaa
