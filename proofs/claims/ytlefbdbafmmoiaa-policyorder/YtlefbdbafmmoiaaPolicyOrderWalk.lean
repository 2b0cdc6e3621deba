/- PolicyOrder answers true for every number and slice of chunks, and leaves what was in memory. -/
import Derived.Test.YtlefbdbafmmoiaaPolSmall
namespace Go.Proofs.Ytlefbdbafmmoiaa
open Go.RowKit

/-- of chunks in the other order as many words live of the one that is chosen -/
theorem pick_flip {k : Nat} {m : Nat → Bool} {v : Nat → Int} {ra rb : Int} (h : Pick k m v ra) (h' : Pick k (fun t => m (k - 1 - t)) (fun t => v (k - 1 - t)) rb) :
    (ra = -1 ∧ rb = -1) ∨ ∃ i j : Nat, i < k ∧ j < k ∧ ra = i ∧ rb = j ∧ m i = true ∧ m (k - 1 - j) = true ∧ v i = v (k - 1 - j) := by
  rcases h with ⟨rfl, h⟩ | ⟨i, hi, rfl, h1, h2, h3⟩ <;> rcases h' with ⟨rfl, g⟩ | ⟨j, hj, rfl, g1, g2, g3⟩
  · exact Or.inl ⟨rfl, rfl⟩
  · have : m (k - 1 - j) = true := g1
    rw [h _ (by omega)] at this; cases this
  · have : m (k - 1 - (k - 1 - i)) = false := g (k - 1 - i) (by omega)
    rw [show k - 1 - (k - 1 - i) = i by omega, h1] at this; cases this
  · refine Or.inr ⟨i, j, hi, hj, rfl, rfl, h1, g1, ?_⟩
    have a := h3 (k - 1 - j) (by omega) g1
    have b : m (k - 1 - (k - 1 - i)) = true → v (k - 1 - j) ≤ v (k - 1 - (k - 1 - i)) := g3 (k - 1 - i) (by omega)
    rw [show k - 1 - (k - 1 - i) = i by omega] at b
    have := b h1
    omega

theorem rq_is (A : Nat → Sn) (k i : Nat) (q : Sn) (h : (sq A k).reverse[i]? = some q) : (A (k - 1 - i)).cut = q := by
  have hl := (List.getElem?_eq_some_iff.1 h).1
  rw [List.length_reverse, sq_len] at hl
  rw [List.getElem?_reverse (by rw [sq_len]; exact hl), sq_len] at h
  exact sq_is A k _ q h

theorem rq_len (A : Nat → Sn) (k : Nat) : (sq A k).reverse.length = k := by rw [List.length_reverse]; exact sq_len A k

theorem rq_succ (A : Nat → Sn) (k : Nat) : (sq A (k + 1)).reverse = [(A k).cut] ++ (sq A k).reverse := by rw [sq_succ]; simp

/-- an append of all of a slice to one of one element -/
theorem Sns.onto {w : World} {b cap g n : Nat} {l : List Sn} {q : Sn} (h : Sns w b cap l) (hn : l.length = n) (h2 : Sns w g 1 [q]) (hl : n ≤ 900) (ty : TypeId) :
    ∃ b' cap' w', (Builtin.append_ #[32, 32] ty #[.slice (some ⟨g, 0, none⟩) 1 1, .slice (some ⟨b, 0, none⟩) n cap]).run Try.prog w = .ok (.slice (some ⟨b', 0, none⟩) (n + 1) cap') w' ∧ Sns w' b' cap' ([q] ++ l) ∧ Only (fun k => k = g) w w' ∧ (b' = g ∨ w.heap.size ≤ b') := by
  subst hn
  obtain ⟨b', cap', w', h3, h4, h5, h6⟩ := Sns.app h2 h (by simp; omega) ty
  have e : [q].length + l.length = l.length + 1 := by simp; omega
  rw [e] at h3
  exact ⟨b', cap', w', h3, h4, h5, h6.imp (fun k => k.1) (fun k => k.1)⟩

/-- a block that is not written stays -/
theorem kept_at {w w' : World} {b C : Nat} {x : Obj} (h : w.heap[C]? = some x) (O : Only (fun k => k = b) w w') (hb : C ≠ b) : w'.heap[C]? = some x := (O.block _ (blk_lt h) hb).trans h
theorem kept_alloc {w : World} {C : Nat} {x : Obj} (h : w.heap[C]? = some x) (o : Obj) : (w.alloc o).heap[C]? = some x := (Go.Deep.blk_alloc_lt _ _ _ (blk_lt h)).trans h
theorem kept_grown {w w' : World} {C : Nat} {x : Obj} (h : w.heap[C]? = some x) (g : Below w.heap.size w w') : w'.heap[C]? = some x := (g.block _ (blk_lt h)).trans h

set_option maxRecDepth 20000 in
set_option maxHeartbeats 4000000 in
theorem policyOrder_any (sparse : Int) (ao : Option Addr) (N cap : Nat) (A : Nat → Sn) (hA : ∀ i, i < N → SnFit (A i)) (w : World) (hr : SnsAt w ao N A) :
    Calls Try.prog 6 #[.int .i64 sparse, .slice ao N cap] w fun e w' => e = .returned (.bool true) ∧ Below w.heap.size w w' := by
  have HR : Hid (SnsAt w ao N A) := hr
  have HA : Hid (∀ i, i < N → SnFit (A i)) := hA
  obtain ⟨n, hn, n0, n1⟩ := sparse_any sparse
  clear hr hA
  go_enter Try.func6, Try.ntmps6
  go_wp2
  clear hn
  have S0 : Hid (Sns (((w.alloc (.cells #[] 25)).alloc (.cells #[] 25)).alloc (.cells #[.int .i64 0, .int .i64 0, .int .i64 0, .int .i64 0, .int .i64 0, .int .i64 n, .int .i64 0] 30)) w.heap.size 0 (sq A 0)) := ((Sns.zero w).alloc _).alloc _
  have D0 : Hid (Sns (((w.alloc (.cells #[] 25)).alloc (.cells #[] 25)).alloc (.cells #[.int .i64 0, .int .i64 0, .int .i64 0, .int .i64 0, .int .i64 0, .int .i64 n, .int .i64 0] 30)) (w.heap.size + 1) 0 (sq A 0).reverse) := by
    have := (Sns.zero (w.alloc (.cells #[] 25))).alloc (.cells #[.int .i64 0, .int .i64 0, .int .i64 0, .int .i64 0, .int .i64 0, .int .i64 n, .int .i64 0] 30)
    rw [Go.Deep.nblk_alloc] at this
    exact this
  have C0 : Hid ((((w.alloc (.cells #[] 25)).alloc (.cells #[] 25)).alloc (.cells #[.int .i64 0, .int .i64 0, .int .i64 0, .int .i64 0, .int .i64 0, .int .i64 n, .int .i64 0] 30)).heap[w.heap.size + 1 + 1]? = some (.cells #[.int .i64 0, .int .i64 0, .int .i64 0, .int .i64 0, .int .i64 0, .int .i64 n, .int .i64 0] 30 (0, 0))) := by
    have := Go.Deep.blk_alloc_new ((w.alloc (.cells #[] 25)).alloc (.cells #[] 25)) (.cells #[.int .i64 0, .int .i64 0, .int .i64 0, .int .i64 0, .int .i64 0, .int .i64 n, .int .i64 0] 30)
    rw [Go.Deep.nblk_alloc, Go.Deep.nblk_alloc] at this
    exact this
  go_loopw [6, 7, 8] (fun s6 s7 s8 wr => ∃ (k b cap2 d cap3 : Nat), k ≤ N ∧ k ≤ 40 ∧ s8 = .int .i64 k ∧ s6 = .slice (some ⟨b, 0, none⟩) k cap2 ∧ s7 = .slice (some ⟨d, 0, none⟩) k cap3 ∧ Hid (Sns wr b cap2 (sq A k)) ∧ Hid (Sns wr d cap3 (sq A k).reverse) ∧ Hid (w.heap.size ≤ b ∧ b ≠ w.heap.size + 1 + 1 ∧ d ≠ b ∧ w.heap.size ≤ d) ∧ Hid (wr.heap[w.heap.size + 1 + 1]? = some (.cells #[.int .i64 0, .int .i64 0, .int .i64 0, .int .i64 0, .int .i64 0, .int .i64 n, .int .i64 0] 30 (0, 0))) ∧ Hid (Below w.heap.size w wr)) (fun _ _ s8 _ => 40 - (intOf s8).toNat)
  case atStart => exact ⟨0, w.heap.size, 0, w.heap.size + 1, 0, Nat.zero_le _, by omega, rfl, rfl, rfl, S0, D0, ⟨by omega, by omega, by omega, by omega⟩, C0, grow_alloc (grow_alloc (grow_alloc (Below.refl _ _) _) _) _⟩
  case round =>
    clear S0 D0 C0
    obtain ⟨k, b, cap2, d, cap3, hkN, hk6, rfl, rfl, rfl, HS, HD, Hb, HC, HB⟩ := hrel
    by_cases h1 : k < N
    · by_cases h2 : k < 40
      · have h1' : (k : Int) < (N : Int) := by omega
        have h2' : (k : Int) < 40 := by omega
        obtain ⟨xb, xo, rfl, t0, t1, t2, t3, t4, t5⟩ := HR.out k h1
        have x0 := keep' HB.out t0
        have x1 := keep' HB.out t1
        have x2 := keep' HB.out t2
        have x3 := keep' HB.out t3
        have x4 := keep' HB.out t4
        have x5 := keep' HB.out t5
        obtain ⟨c, hc⟩ : ∃ c, (A k).cut = c := ⟨_, rfl⟩
        have SE := fun w => seen_is hc w
        have HCk : Hid ((A k).cut = c) := hc
        have hov : wrap64 ((k : Int) + 1) = ((k + 1 : Nat) : Int) := by unfold wrap64; omega
        have HO : Hid (wrap64 ((k : Int) + 1) = ((k + 1 : Nat) : Int)) := hov
        clear hov hc
        go_wp2_with (first
          | (go_at_call 8; refine (SE wr).mono ?_; rintro e w2 ⟨rfl, b2⟩; obtain ⟨b3, cap4, w3, hrun, S3, O3, hb3⟩ := Sns.more ((HS.out.grown b2).alloc (.cells #[.int .i64 c.st, .int .i64 c.cl, .int .i64 c.us, .int .i64 c.sm, .int .i64 c.lv, .bool c.op] 25)) (sq_len A k) (Sns.one w2 c) (by omega) 32)
          | (at_builtin; refine wpList_ran rfl (.tmp 28) (.tmp 34) rfl rfl rfl hrun ?_; clear hrun; have HB3 : Hid (Below w.heap.size w w3) := below_own (grow_alloc (grow HB.out b2) _) O3 Hb.out.1; replace x0 := keep' HB3.out t0; replace x1 := keep' HB3.out t1; replace x2 := keep' HB3.out t2; replace x3 := keep' HB3.out t3; replace x4 := keep' HB3.out t4; replace x5 := keep' HB3.out t5)
          | (go_at_call 8; refine (SE w3).mono ?_; rintro e w5 ⟨rfl, b5⟩; have D3 := (((HD.out.grown b2).alloc (.cells #[.int .i64 c.st, .int .i64 c.cl, .int .i64 c.us, .int .i64 c.sm, .int .i64 c.lv, .bool c.op] 25)).only O3 Hb.out.2.2.1).grown b5; obtain ⟨d6, cap6, w6, hrun6, D6, O6, hd6⟩ := Sns.onto (D3.alloc (.cells #[.int .i64 c.st, .int .i64 c.cl, .int .i64 c.us, .int .i64 c.sm, .int .i64 c.lv, .bool c.op] 25)) (rq_len A k) (Sns.one w5 c) (by omega) 32)
          | (at_builtin; refine wpList_ran rfl (.tmp 41) (.tmp 42) rfl rfl rfl hrun6 ?_))
        have q1 := HB.out.size
        have q2 := b2.size
        have q3 := O3.size
        have q4 := b5.size
        have q5 := S3.lt
        have q6 := HS.out.lt
        rw [Go.Deep.nblk_alloc] at hb3 hd6 q3
        have S6 : Sns w6 b3 cap4 (sq A (k + 1)) := by
          rw [sq_succ, HCk.out]
          exact ((S3.grown b5).alloc _).only O6 (by show ¬ b3 = w5.heap.size; omega)
        have D7 : Sns w6 d6 cap6 (sq A (k + 1)).reverse := by rw [rq_succ, HCk.out]; exact D6
        have C6 : w6.heap[w.heap.size + 1 + 1]? = some (.cells #[.int .i64 0, .int .i64 0, .int .i64 0, .int .i64 0, .int .i64 0, .int .i64 n, .int .i64 0] 30 (0, 0)) := by
          have c1 := kept_at (kept_alloc (kept_grown HC.out b2) (.cells #[.int .i64 c.st, .int .i64 c.cl, .int .i64 c.us, .int .i64 c.sm, .int .i64 c.lv, .bool c.op] 25)) O3 (by have := Hb.out.2.1; omega)
          have c2 := kept_grown c1 b5
          have := blk_lt c2
          exact kept_at (kept_alloc c2 _) O6 (by omega)
        have HB6 : Below w.heap.size w w6 := below_own (grow_alloc (grow HB3.out b5) _) O6 (by omega)
        have hh := Hb.out
        have hcl := blk_lt HC.out
        go_roundw
        case rel => exact ⟨k + 1, b3, cap4, d6, cap6, by omega, by omega, by first | rfl | (exact congrArg (Value.int .i64) HO.out) | go_num, rfl, rfl, S6, D7, ⟨by omega, by omega, by omega, by omega⟩, C6, HB6⟩
        case measure => simp [intOf]; omega
      · have h1' : (k : Int) < (N : Int) := by omega
        have h2' : ¬ (k : Int) < 40 := by omega
        obtain ⟨ra, ha⟩ := Pick.some k (fun i => (A i).cut.may n) (fun i => (A i).cut.lv)
        obtain ⟨rb, hb⟩ := Pick.some k (fun t => (A (k - 1 - t)).cut.may n) (fun t => (A (k - 1 - t)).cut.lv)
        have CA : Hid (∀ W, SnsAt W (some ⟨b, 0, none⟩) k (fun i => (A i).cut) → Calls Try.prog 12 #[.agg #[.int .i64 0, .int .i64 0, .int .i64 0, .int .i64 0, .int .i64 0, .int .i64 n, .int .i64 0], .slice (some ⟨b, 0, none⟩) k cap2] W fun e w' => e = .returned (.int .i64 ra) ∧ Below W.heap.size W w') := fun W h => choose_any 0 0 0 0 0 n 0 (by unfold Fit; omega) (some ⟨b, 0, none⟩) k cap2 (by omega) (fun i => (A i).cut) (fun i hi => (Sn.cut_small (HA.out i (by omega))).1) ha W h
        have CB : Hid (∀ W, SnsAt W (some ⟨d, 0, none⟩) k (fun t => (A (k - 1 - t)).cut) → Calls Try.prog 12 #[.agg #[.int .i64 0, .int .i64 0, .int .i64 0, .int .i64 0, .int .i64 0, .int .i64 n, .int .i64 0], .slice (some ⟨d, 0, none⟩) k cap3] W fun e w' => e = .returned (.int .i64 rb) ∧ Below W.heap.size W w') := fun W h => choose_any 0 0 0 0 0 n 0 (by unfold Fit; omega) (some ⟨d, 0, none⟩) k cap3 (by omega) (fun t => (A (k - 1 - t)).cut) (fun i hi => (Sn.cut_small (HA.out (k - 1 - i) (by omega))).1) hb W h
        have HF := pick_flip ha hb
        clear ha hb
        have Sa : Hid (SnsAt wr (some ⟨b, 0, none⟩) k (fun i => (A i).cut)) := by have := HS.out.sns (sq_is A k); rw [sq_len] at this; exact this
        have Sb : Hid (SnsAt wr (some ⟨d, 0, none⟩) k (fun t => (A (k - 1 - t)).cut)) := by have := HD.out.sns (A := fun t => (A (k - 1 - t)).cut) (rq_is A k); rw [List.length_reverse, sq_len] at this; exact this
        have y0 := blk_cell (o := 0) HC.out rfl
        have y1 := blk_cell (o := 1) HC.out rfl
        have y2 := blk_cell (o := 2) HC.out rfl
        have y3 := blk_cell (o := 3) HC.out rfl
        have y4 := blk_cell (o := 4) HC.out rfl
        have y5 := blk_cell (o := 5) HC.out rfl
        have y6 := blk_cell (o := 6) HC.out rfl
        rcases HF with ⟨rfl, rfl⟩ | ⟨i, j, hi, hj, rfl, rfl, hmi, hmj, hlv⟩
        · clear h1 HR
          go_wp2_with fail
          refine wp_region_rely_tail Grown 6 [.val (.agg #[.int .i64 0, .int .i64 0, .int .i64 0, .int .i64 0, .int .i64 0, .int .i64 n, .int .i64 0]), .val (.slice (some ⟨b, 0, none⟩) k cap2), .val (.int .i64 (-1)), .val (.agg #[.int .i64 0, .int .i64 0, .int .i64 0, .int .i64 0, .int .i64 0, .int .i64 n, .int .i64 0]), .val (.slice (some ⟨d, 0, none⟩) k cap3), .val (.int .i64 (-1))] (by kernel_rfl) Grown.refl Grown.trans (by decide) (by kernel_rfl) (by kernel_rfl) (by kernel_rfl) (by kernel_rfl) (by kernel_rfl) (by kernel_rfl) ?_
          simp only [List.take_succ_cons, List.take_zero, relyAll, Act.put, List.setIfInBounds_toArray, List.set_cons_zero, List.set_cons_succ]
          refine ⟨?_, ?_, ?_, ?_, ?_, ?_, ?_⟩
          · intro w' hg _
            refine Or.inl ⟨rfl, ?_⟩
            have z0 := keep' hg y0
            have z1 := keep' hg y1
            have z2 := keep' hg y2
            have z3 := keep' hg y3
            have z4 := keep' hg y4
            have z5 := keep' hg y5
            have z6 := keep' hg y6
            go_simp
            exact ⟨Grown.refl _, rfl⟩
          · intro w' hg _
            refine Or.inl ⟨rfl, ?_⟩
            go_simp
            exact ⟨Grown.refl _, rfl⟩
          · intro w' hg _
            refine Or.inl ⟨rfl, ?_⟩
            go_simp
            refine (CA.out _ (Sa.out.grown (Grown.trans _ _ _ (Grown.drew _) hg))).mono ?_
            rintro e w'' ⟨rfl, b9⟩
            exact ⟨_, rfl, b9, rfl⟩
          · intro w' hg _
            refine Or.inl ⟨rfl, ?_⟩
            have z0 := keep' hg y0
            have z1 := keep' hg y1
            have z2 := keep' hg y2
            have z3 := keep' hg y3
            have z4 := keep' hg y4
            have z5 := keep' hg y5
            have z6 := keep' hg y6
            go_simp
            exact ⟨Grown.refl _, rfl⟩
          · intro w' hg _
            refine Or.inl ⟨rfl, ?_⟩
            go_simp
            exact ⟨Grown.refl _, rfl⟩
          · intro w' hg _
            refine Or.inl ⟨rfl, ?_⟩
            go_simp
            refine (CB.out _ (Sb.out.grown (Grown.trans _ _ _ (Grown.drew _) hg))).mono ?_
            rintro e w'' ⟨rfl, b9⟩
            exact ⟨_, rfl, b9, rfl⟩
          intro w2 hg _
          go_wp2_with (go_at_call 9; refine (awake12_any _).mono ?_; rintro e w5 ⟨rfl, b5⟩)
          go_ret
          exact ⟨rfl, grow (grow HB.out (Grown.trans _ _ _ (Grown.drew _) hg)) b5⟩
        · have Ha := Sa.out i hi
          have Hb := Sb.out j hj
          obtain ⟨qa, hqa⟩ : ∃ q, (A i).cut = q := ⟨_, rfl⟩
          obtain ⟨qb, hqb⟩ : ∃ q, (A (k - 1 - j)).cut = q := ⟨_, rfl⟩
          have hq1 := (Sn.cut_small (HA.out i (by omega))).1
          have hq2 := (Sn.cut_small (HA.out (k - 1 - j) (by omega))).1
          simp only [hqa, hqb] at hmi hmj hlv Ha Hb hq1 hq2
          have Ma := fun W => may_any 0 0 0 0 0 n 0 (by unfold Fit; omega) qa hq1 W
          have Mb := fun W => may_any 0 0 0 0 0 n 0 (by unfold Fit; omega) qb hq2 W
          rw [hmi] at Ma
          rw [hmj] at Mb
          obtain ⟨b', off', eq, p0, p1, p2, p3, p4, p5⟩ := Ha
          cases eq
          obtain ⟨b', off', eq, q0, q1, q2, q3, q4, q5⟩ := Hb
          cases eq
          have s4 := q4
          rw [← hlv] at s4
          simp only [Nat.zero_add] at p0 p1 p2 p3 p4 p5 q0 q1 q2 q3 q4 q5 s4
          have hi' : (i : Int) < (k : Int) := by omega
          have hj' : (j : Int) < (k : Int) := by omega
          have hi0 : ¬ (i : Int) < 0 := by omega
          have hj0 : ¬ (j : Int) < 0 := by omega
          have hi1 : ¬ (k : Int) ≤ (i : Int) := by omega
          have hj1 : ¬ (k : Int) ≤ (j : Int) := by omega
          clear hmi hmj hlv hqa hqb hq1 hq2 h1 HR hi hj
          go_wp2_with fail
          refine wp_region_rely_tail Grown 6 [.val (.agg #[.int .i64 0, .int .i64 0, .int .i64 0, .int .i64 0, .int .i64 0, .int .i64 n, .int .i64 0]), .val (.slice (some ⟨b, 0, none⟩) k cap2), .val (.int .i64 i), .val (.agg #[.int .i64 0, .int .i64 0, .int .i64 0, .int .i64 0, .int .i64 0, .int .i64 n, .int .i64 0]), .val (.slice (some ⟨d, 0, none⟩) k cap3), .val (.int .i64 j)] (by kernel_rfl) Grown.refl Grown.trans (by decide) (by kernel_rfl) (by kernel_rfl) (by kernel_rfl) (by kernel_rfl) (by kernel_rfl) (by kernel_rfl) ?_
          simp only [List.take_succ_cons, List.take_zero, relyAll, Act.put, List.setIfInBounds_toArray, List.set_cons_zero, List.set_cons_succ]
          refine ⟨?_, ?_, ?_, ?_, ?_, ?_, ?_⟩
          · intro w' hg _
            refine Or.inl ⟨rfl, ?_⟩
            have z0 := keep' hg y0
            have z1 := keep' hg y1
            have z2 := keep' hg y2
            have z3 := keep' hg y3
            have z4 := keep' hg y4
            have z5 := keep' hg y5
            have z6 := keep' hg y6
            go_simp
            exact ⟨Grown.refl _, rfl⟩
          · intro w' hg _
            refine Or.inl ⟨rfl, ?_⟩
            go_simp
            exact ⟨Grown.refl _, rfl⟩
          · intro w' hg _
            refine Or.inl ⟨rfl, ?_⟩
            go_simp
            refine (CA.out _ (Sa.out.grown (Grown.trans _ _ _ (Grown.drew _) hg))).mono ?_
            rintro e w'' ⟨rfl, b9⟩
            exact ⟨_, rfl, b9, rfl⟩
          · intro w' hg _
            refine Or.inl ⟨rfl, ?_⟩
            have z0 := keep' hg y0
            have z1 := keep' hg y1
            have z2 := keep' hg y2
            have z3 := keep' hg y3
            have z4 := keep' hg y4
            have z5 := keep' hg y5
            have z6 := keep' hg y6
            go_simp
            exact ⟨Grown.refl _, rfl⟩
          · intro w' hg _
            refine Or.inl ⟨rfl, ?_⟩
            go_simp
            exact ⟨Grown.refl _, rfl⟩
          · intro w' hg _
            refine Or.inl ⟨rfl, ?_⟩
            go_simp
            refine (CB.out _ (Sb.out.grown (Grown.trans _ _ _ (Grown.drew _) hg))).mono ?_
            rintro e w'' ⟨rfl, b9⟩
            exact ⟨_, rfl, b9, rfl⟩
          intro w2 hg _
          have gA := Grown.trans _ _ _ (Grown.drew _) hg
          replace y0 := keep' gA y0
          replace y1 := keep' gA y1
          replace y2 := keep' gA y2
          replace y3 := keep' gA y3
          replace y4 := keep' gA y4
          replace y5 := keep' gA y5
          replace y6 := keep' gA y6
          replace p0 := keep' gA p0
          replace p1 := keep' gA p1
          replace p2 := keep' gA p2
          replace p3 := keep' gA p3
          replace p4 := keep' gA p4
          replace p5 := keep' gA p5
          replace q0 := keep' gA q0
          replace q1 := keep' gA q1
          replace q2 := keep' gA q2
          replace q3 := keep' gA q3
          replace q4 := keep' gA q4
          replace q5 := keep' gA q5
          replace s4 := keep' gA s4
          have HB2 : Hid (Below w.heap.size w w2) := grow HB.out gA
          clear hg gA CA CB Sa Sb
          go_wp2_with fail
          refine wp_region_rely_tail Grown 30 [.val (.bool true), .val (.bool true), .val (.slice (some ⟨b, 0, none⟩) k cap2), .val (.int .i64 i), .val (.pointer (some ⟨b, i * 6, none⟩)), .val (.pointer (some ⟨b, i * 6 + 4, none⟩)), .val (.int .i64 qa.lv), .val (.slice (some ⟨d, 0, none⟩) k cap3), .val (.int .i64 j), .val (.pointer (some ⟨d, j * 6, none⟩)), .val (.pointer (some ⟨d, j * 6 + 4, none⟩)), .val (.int .i64 qa.lv), .val (.bool true), .val (.bool true), .val (.bool true), .val (.agg #[.int .i64 0, .int .i64 0, .int .i64 0, .int .i64 0, .int .i64 0, .int .i64 n, .int .i64 0]), .val (.slice (some ⟨b, 0, none⟩) k cap2), .val (.int .i64 i), .val (.pointer (some ⟨b, i * 6, none⟩)), .val (.agg #[.int .i64 qa.st, .int .i64 qa.cl, .int .i64 qa.us, .int .i64 qa.sm, .int .i64 qa.lv, .bool qa.op]), .val (.bool true), .val (.bool true), .val (.bool true), .val (.agg #[.int .i64 0, .int .i64 0, .int .i64 0, .int .i64 0, .int .i64 0, .int .i64 n, .int .i64 0]), .val (.slice (some ⟨d, 0, none⟩) k cap3), .val (.int .i64 j), .val (.pointer (some ⟨d, j * 6, none⟩)), .val (.agg #[.int .i64 qb.st, .int .i64 qb.cl, .int .i64 qb.us, .int .i64 qb.sm, .int .i64 qb.lv, .bool qb.op]), .val (.bool true), .val (.bool true)] (by kernel_rfl) Grown.refl Grown.trans (by decide) (by kernel_rfl) (by kernel_rfl) (by kernel_rfl) (by kernel_rfl) (by kernel_rfl) (by kernel_rfl) ?_
          simp only [List.take_succ_cons, List.take_zero, relyAll, Act.put, List.setIfInBounds_toArray, List.set_cons_zero, List.set_cons_succ]
          refine ⟨?_, ?_, ?_, ?_, ?_, ?_, ?_, ?_, ?_, ?_, ?_, ?_, ?_, ?_, ?_, ?_, ?_, ?_, ?_, ?_, ?_, ?_, ?_, ?_, ?_, ?_, ?_, ?_, ?_, ?_, ?_⟩
          · intro w' hg _
            refine Or.inl ⟨rfl, ?_⟩
            go_simp
            refine (awake12_any _).mono ?_
            rintro e w'' ⟨rfl, b9⟩
            exact ⟨_, rfl, b9, rfl⟩
          · intro w' hg _
            refine Or.inl ⟨rfl, ?_⟩
            go_simp
            exact ⟨Grown.refl _, rfl⟩
          · intro w' hg _
            refine Or.inl ⟨rfl, ?_⟩
            go_simp
            exact ⟨Grown.refl _, rfl⟩
          · intro w' hg _
            refine Or.inl ⟨rfl, ?_⟩
            go_simp
            exact ⟨Grown.refl _, rfl⟩
          · intro w' hg _
            refine Or.inl ⟨rfl, ?_⟩
            go_simp
            exact ⟨Grown.refl _, rfl⟩
          · intro w' hg _
            refine Or.inl ⟨rfl, ?_⟩
            go_simp
            exact ⟨Grown.refl _, rfl⟩
          · intro w' hg _
            refine Or.inl ⟨rfl, ?_⟩
            have z0 := keep' hg p4
            go_simp
            exact ⟨Grown.refl _, rfl⟩
          · intro w' hg _
            refine Or.inl ⟨rfl, ?_⟩
            go_simp
            exact ⟨Grown.refl _, rfl⟩
          · intro w' hg _
            refine Or.inl ⟨rfl, ?_⟩
            go_simp
            exact ⟨Grown.refl _, rfl⟩
          · intro w' hg _
            refine Or.inl ⟨rfl, ?_⟩
            go_simp
            exact ⟨Grown.refl _, rfl⟩
          · intro w' hg _
            refine Or.inl ⟨rfl, ?_⟩
            go_simp
            exact ⟨Grown.refl _, rfl⟩
          · intro w' hg _
            refine Or.inl ⟨rfl, ?_⟩
            have z0 := keep' hg s4
            go_simp
            exact ⟨Grown.refl _, rfl⟩
          · intro w' hg _
            refine Or.inl ⟨rfl, ?_⟩
            go_simp
            exact ⟨Grown.refl _, rfl⟩
          · intro w' hg _
            refine Or.inl ⟨rfl, ?_⟩
            go_simp
            exact ⟨Grown.refl _, rfl⟩
          · intro w' hg _
            refine Or.inl ⟨rfl, ?_⟩
            go_simp
            exact ⟨Grown.refl _, rfl⟩
          · intro w' hg _
            refine Or.inl ⟨rfl, ?_⟩
            have z0 := keep' hg y0
            have z1 := keep' hg y1
            have z2 := keep' hg y2
            have z3 := keep' hg y3
            have z4 := keep' hg y4
            have z5 := keep' hg y5
            have z6 := keep' hg y6
            go_simp
            exact ⟨Grown.refl _, rfl⟩
          · intro w' hg _
            refine Or.inl ⟨rfl, ?_⟩
            go_simp
            exact ⟨Grown.refl _, rfl⟩
          · intro w' hg _
            refine Or.inl ⟨rfl, ?_⟩
            go_simp
            exact ⟨Grown.refl _, rfl⟩
          · intro w' hg _
            refine Or.inl ⟨rfl, ?_⟩
            go_simp
            exact ⟨Grown.refl _, rfl⟩
          · intro w' hg _
            refine Or.inl ⟨rfl, ?_⟩
            have z0 := keep' hg p0
            have z1 := keep' hg p1
            have z2 := keep' hg p2
            have z3 := keep' hg p3
            have z4 := keep' hg p4
            have z5 := keep' hg p5
            go_simp
            exact ⟨Grown.refl _, rfl⟩
          · intro w' hg _
            refine Or.inl ⟨rfl, ?_⟩
            go_simp
            refine (Ma _).mono ?_
            rintro e w'' ⟨rfl, b9⟩
            exact ⟨_, rfl, b9, rfl⟩
          · intro w' hg _
            refine Or.inl ⟨rfl, ?_⟩
            go_simp
            exact ⟨Grown.refl _, rfl⟩
          · intro w' hg _
            refine Or.inl ⟨rfl, ?_⟩
            go_simp
            exact ⟨Grown.refl _, rfl⟩
          · intro w' hg _
            refine Or.inl ⟨rfl, ?_⟩
            have z0 := keep' hg y0
            have z1 := keep' hg y1
            have z2 := keep' hg y2
            have z3 := keep' hg y3
            have z4 := keep' hg y4
            have z5 := keep' hg y5
            have z6 := keep' hg y6
            go_simp
            exact ⟨Grown.refl _, rfl⟩
          · intro w' hg _
            refine Or.inl ⟨rfl, ?_⟩
            go_simp
            exact ⟨Grown.refl _, rfl⟩
          · intro w' hg _
            refine Or.inl ⟨rfl, ?_⟩
            go_simp
            exact ⟨Grown.refl _, rfl⟩
          · intro w' hg _
            refine Or.inl ⟨rfl, ?_⟩
            go_simp
            exact ⟨Grown.refl _, rfl⟩
          · intro w' hg _
            refine Or.inl ⟨rfl, ?_⟩
            have z0 := keep' hg q0
            have z1 := keep' hg q1
            have z2 := keep' hg q2
            have z3 := keep' hg q3
            have z4 := keep' hg q4
            have z5 := keep' hg q5
            go_simp
            exact ⟨Grown.refl _, rfl⟩
          · intro w' hg _
            refine Or.inl ⟨rfl, ?_⟩
            go_simp
            refine (Mb _).mono ?_
            rintro e w'' ⟨rfl, b9⟩
            exact ⟨_, rfl, b9, rfl⟩
          · intro w' hg _
            refine Or.inl ⟨rfl, ?_⟩
            go_simp
            exact ⟨Grown.refl _, rfl⟩
          intro w3 hg _
          go_wp2
          go_ret
          exact ⟨rfl, grow HB2.out (Grown.trans _ _ _ (Grown.drew _) hg)⟩
    · have h1' : ¬ (k : Int) < (N : Int) := by omega
      obtain ⟨ra, ha⟩ := Pick.some k (fun i => (A i).cut.may n) (fun i => (A i).cut.lv)
      obtain ⟨rb, hb⟩ := Pick.some k (fun t => (A (k - 1 - t)).cut.may n) (fun t => (A (k - 1 - t)).cut.lv)
      have CA : Hid (∀ W, SnsAt W (some ⟨b, 0, none⟩) k (fun i => (A i).cut) → Calls Try.prog 12 #[.agg #[.int .i64 0, .int .i64 0, .int .i64 0, .int .i64 0, .int .i64 0, .int .i64 n, .int .i64 0], .slice (some ⟨b, 0, none⟩) k cap2] W fun e w' => e = .returned (.int .i64 ra) ∧ Below W.heap.size W w') := fun W h => choose_any 0 0 0 0 0 n 0 (by unfold Fit; omega) (some ⟨b, 0, none⟩) k cap2 (by omega) (fun i => (A i).cut) (fun i hi => (Sn.cut_small (HA.out i (by omega))).1) ha W h
      have CB : Hid (∀ W, SnsAt W (some ⟨d, 0, none⟩) k (fun t => (A (k - 1 - t)).cut) → Calls Try.prog 12 #[.agg #[.int .i64 0, .int .i64 0, .int .i64 0, .int .i64 0, .int .i64 0, .int .i64 n, .int .i64 0], .slice (some ⟨d, 0, none⟩) k cap3] W fun e w' => e = .returned (.int .i64 rb) ∧ Below W.heap.size W w') := fun W h => choose_any 0 0 0 0 0 n 0 (by unfold Fit; omega) (some ⟨d, 0, none⟩) k cap3 (by omega) (fun t => (A (k - 1 - t)).cut) (fun i hi => (Sn.cut_small (HA.out (k - 1 - i) (by omega))).1) hb W h
      have HF := pick_flip ha hb
      clear ha hb
      have Sa : Hid (SnsAt wr (some ⟨b, 0, none⟩) k (fun i => (A i).cut)) := by have := HS.out.sns (sq_is A k); rw [sq_len] at this; exact this
      have Sb : Hid (SnsAt wr (some ⟨d, 0, none⟩) k (fun t => (A (k - 1 - t)).cut)) := by have := HD.out.sns (A := fun t => (A (k - 1 - t)).cut) (rq_is A k); rw [List.length_reverse, sq_len] at this; exact this
      have y0 := blk_cell (o := 0) HC.out rfl
      have y1 := blk_cell (o := 1) HC.out rfl
      have y2 := blk_cell (o := 2) HC.out rfl
      have y3 := blk_cell (o := 3) HC.out rfl
      have y4 := blk_cell (o := 4) HC.out rfl
      have y5 := blk_cell (o := 5) HC.out rfl
      have y6 := blk_cell (o := 6) HC.out rfl
      rcases HF with ⟨rfl, rfl⟩ | ⟨i, j, hi, hj, rfl, rfl, hmi, hmj, hlv⟩
      · clear h1 HR
        go_wp2_with fail
        refine wp_region_rely_tail Grown 6 [.val (.agg #[.int .i64 0, .int .i64 0, .int .i64 0, .int .i64 0, .int .i64 0, .int .i64 n, .int .i64 0]), .val (.slice (some ⟨b, 0, none⟩) k cap2), .val (.int .i64 (-1)), .val (.agg #[.int .i64 0, .int .i64 0, .int .i64 0, .int .i64 0, .int .i64 0, .int .i64 n, .int .i64 0]), .val (.slice (some ⟨d, 0, none⟩) k cap3), .val (.int .i64 (-1))] (by kernel_rfl) Grown.refl Grown.trans (by decide) (by kernel_rfl) (by kernel_rfl) (by kernel_rfl) (by kernel_rfl) (by kernel_rfl) (by kernel_rfl) ?_
        simp only [List.take_succ_cons, List.take_zero, relyAll, Act.put, List.setIfInBounds_toArray, List.set_cons_zero, List.set_cons_succ]
        refine ⟨?_, ?_, ?_, ?_, ?_, ?_, ?_⟩
        · intro w' hg _
          refine Or.inl ⟨rfl, ?_⟩
          have z0 := keep' hg y0
          have z1 := keep' hg y1
          have z2 := keep' hg y2
          have z3 := keep' hg y3
          have z4 := keep' hg y4
          have z5 := keep' hg y5
          have z6 := keep' hg y6
          go_simp
          exact ⟨Grown.refl _, rfl⟩
        · intro w' hg _
          refine Or.inl ⟨rfl, ?_⟩
          go_simp
          exact ⟨Grown.refl _, rfl⟩
        · intro w' hg _
          refine Or.inl ⟨rfl, ?_⟩
          go_simp
          refine (CA.out _ (Sa.out.grown (Grown.trans _ _ _ (Grown.drew _) hg))).mono ?_
          rintro e w'' ⟨rfl, b9⟩
          exact ⟨_, rfl, b9, rfl⟩
        · intro w' hg _
          refine Or.inl ⟨rfl, ?_⟩
          have z0 := keep' hg y0
          have z1 := keep' hg y1
          have z2 := keep' hg y2
          have z3 := keep' hg y3
          have z4 := keep' hg y4
          have z5 := keep' hg y5
          have z6 := keep' hg y6
          go_simp
          exact ⟨Grown.refl _, rfl⟩
        · intro w' hg _
          refine Or.inl ⟨rfl, ?_⟩
          go_simp
          exact ⟨Grown.refl _, rfl⟩
        · intro w' hg _
          refine Or.inl ⟨rfl, ?_⟩
          go_simp
          refine (CB.out _ (Sb.out.grown (Grown.trans _ _ _ (Grown.drew _) hg))).mono ?_
          rintro e w'' ⟨rfl, b9⟩
          exact ⟨_, rfl, b9, rfl⟩
        intro w2 hg _
        go_wp2_with (go_at_call 9; refine (awake12_any _).mono ?_; rintro e w5 ⟨rfl, b5⟩)
        go_ret
        exact ⟨rfl, grow (grow HB.out (Grown.trans _ _ _ (Grown.drew _) hg)) b5⟩
      · have Ha := Sa.out i hi
        have Hb := Sb.out j hj
        obtain ⟨qa, hqa⟩ : ∃ q, (A i).cut = q := ⟨_, rfl⟩
        obtain ⟨qb, hqb⟩ : ∃ q, (A (k - 1 - j)).cut = q := ⟨_, rfl⟩
        have hq1 := (Sn.cut_small (HA.out i (by omega))).1
        have hq2 := (Sn.cut_small (HA.out (k - 1 - j) (by omega))).1
        simp only [hqa, hqb] at hmi hmj hlv Ha Hb hq1 hq2
        have Ma := fun W => may_any 0 0 0 0 0 n 0 (by unfold Fit; omega) qa hq1 W
        have Mb := fun W => may_any 0 0 0 0 0 n 0 (by unfold Fit; omega) qb hq2 W
        rw [hmi] at Ma
        rw [hmj] at Mb
        obtain ⟨b', off', eq, p0, p1, p2, p3, p4, p5⟩ := Ha
        cases eq
        obtain ⟨b', off', eq, q0, q1, q2, q3, q4, q5⟩ := Hb
        cases eq
        have s4 := q4
        rw [← hlv] at s4
        simp only [Nat.zero_add] at p0 p1 p2 p3 p4 p5 q0 q1 q2 q3 q4 q5 s4
        have hi' : (i : Int) < (k : Int) := by omega
        have hj' : (j : Int) < (k : Int) := by omega
        have hi0 : ¬ (i : Int) < 0 := by omega
        have hj0 : ¬ (j : Int) < 0 := by omega
        have hi1 : ¬ (k : Int) ≤ (i : Int) := by omega
        have hj1 : ¬ (k : Int) ≤ (j : Int) := by omega
        clear hmi hmj hlv hqa hqb hq1 hq2 h1 HR hi hj
        go_wp2_with fail
        refine wp_region_rely_tail Grown 6 [.val (.agg #[.int .i64 0, .int .i64 0, .int .i64 0, .int .i64 0, .int .i64 0, .int .i64 n, .int .i64 0]), .val (.slice (some ⟨b, 0, none⟩) k cap2), .val (.int .i64 i), .val (.agg #[.int .i64 0, .int .i64 0, .int .i64 0, .int .i64 0, .int .i64 0, .int .i64 n, .int .i64 0]), .val (.slice (some ⟨d, 0, none⟩) k cap3), .val (.int .i64 j)] (by kernel_rfl) Grown.refl Grown.trans (by decide) (by kernel_rfl) (by kernel_rfl) (by kernel_rfl) (by kernel_rfl) (by kernel_rfl) (by kernel_rfl) ?_
        simp only [List.take_succ_cons, List.take_zero, relyAll, Act.put, List.setIfInBounds_toArray, List.set_cons_zero, List.set_cons_succ]
        refine ⟨?_, ?_, ?_, ?_, ?_, ?_, ?_⟩
        · intro w' hg _
          refine Or.inl ⟨rfl, ?_⟩
          have z0 := keep' hg y0
          have z1 := keep' hg y1
          have z2 := keep' hg y2
          have z3 := keep' hg y3
          have z4 := keep' hg y4
          have z5 := keep' hg y5
          have z6 := keep' hg y6
          go_simp
          exact ⟨Grown.refl _, rfl⟩
        · intro w' hg _
          refine Or.inl ⟨rfl, ?_⟩
          go_simp
          exact ⟨Grown.refl _, rfl⟩
        · intro w' hg _
          refine Or.inl ⟨rfl, ?_⟩
          go_simp
          refine (CA.out _ (Sa.out.grown (Grown.trans _ _ _ (Grown.drew _) hg))).mono ?_
          rintro e w'' ⟨rfl, b9⟩
          exact ⟨_, rfl, b9, rfl⟩
        · intro w' hg _
          refine Or.inl ⟨rfl, ?_⟩
          have z0 := keep' hg y0
          have z1 := keep' hg y1
          have z2 := keep' hg y2
          have z3 := keep' hg y3
          have z4 := keep' hg y4
          have z5 := keep' hg y5
          have z6 := keep' hg y6
          go_simp
          exact ⟨Grown.refl _, rfl⟩
        · intro w' hg _
          refine Or.inl ⟨rfl, ?_⟩
          go_simp
          exact ⟨Grown.refl _, rfl⟩
        · intro w' hg _
          refine Or.inl ⟨rfl, ?_⟩
          go_simp
          refine (CB.out _ (Sb.out.grown (Grown.trans _ _ _ (Grown.drew _) hg))).mono ?_
          rintro e w'' ⟨rfl, b9⟩
          exact ⟨_, rfl, b9, rfl⟩
        intro w2 hg _
        have gA := Grown.trans _ _ _ (Grown.drew _) hg
        replace y0 := keep' gA y0
        replace y1 := keep' gA y1
        replace y2 := keep' gA y2
        replace y3 := keep' gA y3
        replace y4 := keep' gA y4
        replace y5 := keep' gA y5
        replace y6 := keep' gA y6
        replace p0 := keep' gA p0
        replace p1 := keep' gA p1
        replace p2 := keep' gA p2
        replace p3 := keep' gA p3
        replace p4 := keep' gA p4
        replace p5 := keep' gA p5
        replace q0 := keep' gA q0
        replace q1 := keep' gA q1
        replace q2 := keep' gA q2
        replace q3 := keep' gA q3
        replace q4 := keep' gA q4
        replace q5 := keep' gA q5
        replace s4 := keep' gA s4
        have HB2 : Hid (Below w.heap.size w w2) := grow HB.out gA
        clear hg gA CA CB Sa Sb
        go_wp2_with fail
        refine wp_region_rely_tail Grown 30 [.val (.bool true), .val (.bool true), .val (.slice (some ⟨b, 0, none⟩) k cap2), .val (.int .i64 i), .val (.pointer (some ⟨b, i * 6, none⟩)), .val (.pointer (some ⟨b, i * 6 + 4, none⟩)), .val (.int .i64 qa.lv), .val (.slice (some ⟨d, 0, none⟩) k cap3), .val (.int .i64 j), .val (.pointer (some ⟨d, j * 6, none⟩)), .val (.pointer (some ⟨d, j * 6 + 4, none⟩)), .val (.int .i64 qa.lv), .val (.bool true), .val (.bool true), .val (.bool true), .val (.agg #[.int .i64 0, .int .i64 0, .int .i64 0, .int .i64 0, .int .i64 0, .int .i64 n, .int .i64 0]), .val (.slice (some ⟨b, 0, none⟩) k cap2), .val (.int .i64 i), .val (.pointer (some ⟨b, i * 6, none⟩)), .val (.agg #[.int .i64 qa.st, .int .i64 qa.cl, .int .i64 qa.us, .int .i64 qa.sm, .int .i64 qa.lv, .bool qa.op]), .val (.bool true), .val (.bool true), .val (.bool true), .val (.agg #[.int .i64 0, .int .i64 0, .int .i64 0, .int .i64 0, .int .i64 0, .int .i64 n, .int .i64 0]), .val (.slice (some ⟨d, 0, none⟩) k cap3), .val (.int .i64 j), .val (.pointer (some ⟨d, j * 6, none⟩)), .val (.agg #[.int .i64 qb.st, .int .i64 qb.cl, .int .i64 qb.us, .int .i64 qb.sm, .int .i64 qb.lv, .bool qb.op]), .val (.bool true), .val (.bool true)] (by kernel_rfl) Grown.refl Grown.trans (by decide) (by kernel_rfl) (by kernel_rfl) (by kernel_rfl) (by kernel_rfl) (by kernel_rfl) (by kernel_rfl) ?_
        simp only [List.take_succ_cons, List.take_zero, relyAll, Act.put, List.setIfInBounds_toArray, List.set_cons_zero, List.set_cons_succ]
        refine ⟨?_, ?_, ?_, ?_, ?_, ?_, ?_, ?_, ?_, ?_, ?_, ?_, ?_, ?_, ?_, ?_, ?_, ?_, ?_, ?_, ?_, ?_, ?_, ?_, ?_, ?_, ?_, ?_, ?_, ?_, ?_⟩
        · intro w' hg _
          refine Or.inl ⟨rfl, ?_⟩
          go_simp
          refine (awake12_any _).mono ?_
          rintro e w'' ⟨rfl, b9⟩
          exact ⟨_, rfl, b9, rfl⟩
        · intro w' hg _
          refine Or.inl ⟨rfl, ?_⟩
          go_simp
          exact ⟨Grown.refl _, rfl⟩
        · intro w' hg _
          refine Or.inl ⟨rfl, ?_⟩
          go_simp
          exact ⟨Grown.refl _, rfl⟩
        · intro w' hg _
          refine Or.inl ⟨rfl, ?_⟩
          go_simp
          exact ⟨Grown.refl _, rfl⟩
        · intro w' hg _
          refine Or.inl ⟨rfl, ?_⟩
          go_simp
          exact ⟨Grown.refl _, rfl⟩
        · intro w' hg _
          refine Or.inl ⟨rfl, ?_⟩
          go_simp
          exact ⟨Grown.refl _, rfl⟩
        · intro w' hg _
          refine Or.inl ⟨rfl, ?_⟩
          have z0 := keep' hg p4
          go_simp
          exact ⟨Grown.refl _, rfl⟩
        · intro w' hg _
          refine Or.inl ⟨rfl, ?_⟩
          go_simp
          exact ⟨Grown.refl _, rfl⟩
        · intro w' hg _
          refine Or.inl ⟨rfl, ?_⟩
          go_simp
          exact ⟨Grown.refl _, rfl⟩
        · intro w' hg _
          refine Or.inl ⟨rfl, ?_⟩
          go_simp
          exact ⟨Grown.refl _, rfl⟩
        · intro w' hg _
          refine Or.inl ⟨rfl, ?_⟩
          go_simp
          exact ⟨Grown.refl _, rfl⟩
        · intro w' hg _
          refine Or.inl ⟨rfl, ?_⟩
          have z0 := keep' hg s4
          go_simp
          exact ⟨Grown.refl _, rfl⟩
        · intro w' hg _
          refine Or.inl ⟨rfl, ?_⟩
          go_simp
          exact ⟨Grown.refl _, rfl⟩
        · intro w' hg _
          refine Or.inl ⟨rfl, ?_⟩
          go_simp
          exact ⟨Grown.refl _, rfl⟩
        · intro w' hg _
          refine Or.inl ⟨rfl, ?_⟩
          go_simp
          exact ⟨Grown.refl _, rfl⟩
        · intro w' hg _
          refine Or.inl ⟨rfl, ?_⟩
          have z0 := keep' hg y0
          have z1 := keep' hg y1
          have z2 := keep' hg y2
          have z3 := keep' hg y3
          have z4 := keep' hg y4
          have z5 := keep' hg y5
          have z6 := keep' hg y6
          go_simp
          exact ⟨Grown.refl _, rfl⟩
        · intro w' hg _
          refine Or.inl ⟨rfl, ?_⟩
          go_simp
          exact ⟨Grown.refl _, rfl⟩
        · intro w' hg _
          refine Or.inl ⟨rfl, ?_⟩
          go_simp
          exact ⟨Grown.refl _, rfl⟩
        · intro w' hg _
          refine Or.inl ⟨rfl, ?_⟩
          go_simp
          exact ⟨Grown.refl _, rfl⟩
        · intro w' hg _
          refine Or.inl ⟨rfl, ?_⟩
          have z0 := keep' hg p0
          have z1 := keep' hg p1
          have z2 := keep' hg p2
          have z3 := keep' hg p3
          have z4 := keep' hg p4
          have z5 := keep' hg p5
          go_simp
          exact ⟨Grown.refl _, rfl⟩
        · intro w' hg _
          refine Or.inl ⟨rfl, ?_⟩
          go_simp
          refine (Ma _).mono ?_
          rintro e w'' ⟨rfl, b9⟩
          exact ⟨_, rfl, b9, rfl⟩
        · intro w' hg _
          refine Or.inl ⟨rfl, ?_⟩
          go_simp
          exact ⟨Grown.refl _, rfl⟩
        · intro w' hg _
          refine Or.inl ⟨rfl, ?_⟩
          go_simp
          exact ⟨Grown.refl _, rfl⟩
        · intro w' hg _
          refine Or.inl ⟨rfl, ?_⟩
          have z0 := keep' hg y0
          have z1 := keep' hg y1
          have z2 := keep' hg y2
          have z3 := keep' hg y3
          have z4 := keep' hg y4
          have z5 := keep' hg y5
          have z6 := keep' hg y6
          go_simp
          exact ⟨Grown.refl _, rfl⟩
        · intro w' hg _
          refine Or.inl ⟨rfl, ?_⟩
          go_simp
          exact ⟨Grown.refl _, rfl⟩
        · intro w' hg _
          refine Or.inl ⟨rfl, ?_⟩
          go_simp
          exact ⟨Grown.refl _, rfl⟩
        · intro w' hg _
          refine Or.inl ⟨rfl, ?_⟩
          go_simp
          exact ⟨Grown.refl _, rfl⟩
        · intro w' hg _
          refine Or.inl ⟨rfl, ?_⟩
          have z0 := keep' hg q0
          have z1 := keep' hg q1
          have z2 := keep' hg q2
          have z3 := keep' hg q3
          have z4 := keep' hg q4
          have z5 := keep' hg q5
          go_simp
          exact ⟨Grown.refl _, rfl⟩
        · intro w' hg _
          refine Or.inl ⟨rfl, ?_⟩
          go_simp
          refine (Mb _).mono ?_
          rintro e w'' ⟨rfl, b9⟩
          exact ⟨_, rfl, b9, rfl⟩
        · intro w' hg _
          refine Or.inl ⟨rfl, ?_⟩
          go_simp
          exact ⟨Grown.refl _, rfl⟩
        intro w3 hg _
        go_wp2
        go_ret
        exact ⟨rfl, grow HB2.out (Grown.trans _ _ _ (Grown.drew _) hg)⟩

end Go.Proofs.Ytlefbdbafmmoiaa
