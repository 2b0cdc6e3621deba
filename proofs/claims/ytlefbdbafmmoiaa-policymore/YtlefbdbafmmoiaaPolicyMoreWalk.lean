/- PolicyMore answers true for every number, slice of chunks and chunk, and leaves what was in memory. -/
import Derived.Test.YtlefbdbafmmoiaaPolPush
namespace Go.Proofs.Ytlefbdbafmmoiaa
open Go.RowKit

/-- a block that is not written stays -/
theorem kept_at {w w' : World} {b C : Nat} {x : Obj} (h : w.heap[C]? = some x) (O : Only (fun k => k = b) w w') (hb : C ≠ b) : w'.heap[C]? = some x := (O.block _ (blk_lt h) hb).trans h
theorem kept_alloc {w : World} {C : Nat} {x : Obj} (h : w.heap[C]? = some x) (o : Obj) : (w.alloc o).heap[C]? = some x := (Go.Deep.blk_alloc_lt _ _ _ (blk_lt h)).trans h
theorem kept_grown {w w' : World} {C : Nat} {x : Obj} (h : w.heap[C]? = some x) (g : Below w.heap.size w w') : w'.heap[C]? = some x := (g.block _ (blk_lt h)).trans h

set_option maxRecDepth 20000 in
set_option maxHeartbeats 4000000 in
theorem policyMore_any (sparse : Int) (ao : Option Addr) (N cap : Nat) (A : Nat → Sn) (hA : ∀ i, i < N → SnFit (A i)) (y : Sn) (hy : SnFit y) (w : World) (hr : SnsAt w ao N A) :
    Calls Try.prog 7 #[.int .i64 sparse, .slice ao N cap, .agg #[.int .i64 y.st, .int .i64 y.cl, .int .i64 y.us, .int .i64 y.sm, .int .i64 y.lv, .bool y.op]] w fun e w' => e = .returned (.bool true) ∧ Below w.heap.size w w' := by
  have HR : Hid (SnsAt w ao N A) := hr
  have HA : Hid (∀ i, i < N → SnFit (A i)) := hA
  obtain ⟨n, hn, n0, n1⟩ := sparse_any sparse
  have hq := (Sn.cut_small hy).1
  obtain ⟨q, hq0⟩ : ∃ q, y.cut = q := ⟨_, rfl⟩
  have SY := fun w => seen_is hq0 w
  rw [hq0] at hq
  have HQ : Hid (SnFit q) := hq
  clear hr hA hq0 hq hy
  go_enter Try.func7, Try.ntmps7
  go_wp2_with (go_at_call 8; refine (SY _).mono ?_; rintro e w1 ⟨rfl, b1⟩)
  clear hn SY
  have S0 : Hid (Sns ((w1.alloc (.cells #[.int .i64 0, .int .i64 0, .int .i64 0, .int .i64 0, .int .i64 0, .int .i64 n, .int .i64 0] 30)).alloc (.cells #[.int .i64 q.st, .int .i64 q.cl, .int .i64 q.us, .int .i64 q.sm, .int .i64 q.lv, .bool q.op] 25)) (w.heap.size + 1) 0 (sq A 0)) := by
    have := (((Sns.zero (w.alloc (.cells #[.int .i64 y.st, .int .i64 y.cl, .int .i64 y.us, .int .i64 y.sm, .int .i64 y.lv, .bool y.op] 25))).grown b1).alloc (.cells #[.int .i64 0, .int .i64 0, .int .i64 0, .int .i64 0, .int .i64 0, .int .i64 n, .int .i64 0] 30)).alloc (.cells #[.int .i64 q.st, .int .i64 q.cl, .int .i64 q.us, .int .i64 q.sm, .int .i64 q.lv, .bool q.op] 25)
    rw [Go.Deep.nblk_alloc] at this
    exact this
  have C0 : Hid (((w1.alloc (.cells #[.int .i64 0, .int .i64 0, .int .i64 0, .int .i64 0, .int .i64 0, .int .i64 n, .int .i64 0] 30)).alloc (.cells #[.int .i64 q.st, .int .i64 q.cl, .int .i64 q.us, .int .i64 q.sm, .int .i64 q.lv, .bool q.op] 25)).heap[w1.heap.size]? = some (.cells #[.int .i64 0, .int .i64 0, .int .i64 0, .int .i64 0, .int .i64 0, .int .i64 n, .int .i64 0] 30 (0, 0))) := kept_alloc (Go.Deep.blk_alloc_new _ _) _
  have V0 : Hid (((w1.alloc (.cells #[.int .i64 0, .int .i64 0, .int .i64 0, .int .i64 0, .int .i64 0, .int .i64 n, .int .i64 0] 30)).alloc (.cells #[.int .i64 q.st, .int .i64 q.cl, .int .i64 q.us, .int .i64 q.sm, .int .i64 q.lv, .bool q.op] 25)).heap[w1.heap.size + 1]? = some (.cells #[.int .i64 q.st, .int .i64 q.cl, .int .i64 q.us, .int .i64 q.sm, .int .i64 q.lv, .bool q.op] 25 (0, 0))) := by
    have := Go.Deep.blk_alloc_new (w1.alloc (.cells #[.int .i64 0, .int .i64 0, .int .i64 0, .int .i64 0, .int .i64 0, .int .i64 n, .int .i64 0] 30)) (.cells #[.int .i64 q.st, .int .i64 q.cl, .int .i64 q.us, .int .i64 q.sm, .int .i64 q.lv, .bool q.op] 25)
    rw [Go.Deep.nblk_alloc] at this
    exact this
  have B0 : Hid (Below w.heap.size w ((w1.alloc (.cells #[.int .i64 0, .int .i64 0, .int .i64 0, .int .i64 0, .int .i64 0, .int .i64 n, .int .i64 0] 30)).alloc (.cells #[.int .i64 q.st, .int .i64 q.cl, .int .i64 q.us, .int .i64 q.sm, .int .i64 q.lv, .bool q.op] 25))) := grow_alloc (grow_alloc (grow (grow_alloc (grow_alloc (Below.refl _ _) _) _) b1) _) _
  have hsz : w.heap.size + 1 + 1 ≤ w1.heap.size := by have := b1.size; rw [Go.Deep.nblk_alloc, Go.Deep.nblk_alloc] at this; exact this
  obtain ⟨C, hC⟩ : ∃ C, w1.heap.size = C := ⟨_, rfl⟩
  rw [hC] at C0 V0 hsz ⊢
  have HZ : Hid (w.heap.size + 1 + 1 ≤ C) := hsz
  clear hsz hC b1
  go_loopw [8, 10] (fun s8 s10 wr => ∃ (k b cap2 : Nat), k ≤ N ∧ k ≤ 40 ∧ s10 = .int .i64 k ∧ s8 = .slice (some ⟨b, 0, none⟩) k cap2 ∧ Hid (Sns wr b cap2 (sq A k)) ∧ Hid (w.heap.size ≤ b ∧ b ≠ C ∧ b ≠ C + 1) ∧ Hid (wr.heap[C]? = some (.cells #[.int .i64 0, .int .i64 0, .int .i64 0, .int .i64 0, .int .i64 0, .int .i64 n, .int .i64 0] 30 (0, 0))) ∧ Hid (wr.heap[C + 1]? = some (.cells #[.int .i64 q.st, .int .i64 q.cl, .int .i64 q.us, .int .i64 q.sm, .int .i64 q.lv, .bool q.op] 25 (0, 0))) ∧ Hid (Below w.heap.size w wr)) (fun _ s10 _ => 40 - (intOf s10).toNat)
  case atStart => exact ⟨0, w.heap.size + 1, 0, Nat.zero_le _, by omega, rfl, rfl, S0, ⟨by omega, by have := HZ.out; omega, by have := HZ.out; omega⟩, C0, V0, B0⟩
  case round =>
    clear S0 C0 V0 B0
    obtain ⟨k, b, cap2, hkN, hk6, rfl, rfl, HS, Hb, HC, HV, HB⟩ := hrel
    by_cases h1 : k < N
    · by_cases h2 : k < 40
      · have h1' : (k : Int) < (N : Int) := by omega
        have h2' : (k : Int) < 40 := by omega
        obtain ⟨xb, xo, rfl, t0, t1, t2, t3, t4, t5⟩ := HR.out k h1
        have x0 := keep' HB.out t0
        have x1 := keep' HB.out t1
        have x2 := keep' HB.out t2
        have x3 := keep' HB.out t3
        have x4 := keep' HB.out t4
        have x5 := keep' HB.out t5
        obtain ⟨c, hc⟩ : ∃ c, (A k).cut = c := ⟨_, rfl⟩
        have SE := fun w => seen_is hc w
        have HCk : Hid ((A k).cut = c) := hc
        have hov : wrap64 ((k : Int) + 1) = ((k + 1 : Nat) : Int) := by unfold wrap64; omega
        have HO : Hid (wrap64 ((k : Int) + 1) = ((k + 1 : Nat) : Int)) := hov
        clear hov hc t0 t1 t2 t3 t4 t5
        go_wp2_with (first
          | (go_at_call 8; refine (SE wr).mono ?_; rintro e w2 ⟨rfl, b2⟩; obtain ⟨b3, cap4, w3, hrun, S3, O3, hb3⟩ := Sns.more ((HS.out.grown b2).alloc (.cells #[.int .i64 c.st, .int .i64 c.cl, .int .i64 c.us, .int .i64 c.sm, .int .i64 c.lv, .bool c.op] 25)) (sq_len A k) (Sns.one w2 c) (by omega) 32)
          | (at_builtin; refine wpList_ran rfl (.tmp 33) (.tmp 39) rfl rfl rfl hrun ?_))
        have q2 := b2.size
        have q6 := HS.out.lt
        have hh := Hb.out
        have c1 := blk_lt HC.out
        have c2 := blk_lt HV.out
        have q7 := HB.out.size
        rw [Go.Deep.nblk_alloc] at hb3
        have S6 : Sns w3 b3 cap4 (sq A (k + 1)) := by rw [sq_succ, HCk.out]; exact S3
        have C6 : w3.heap[C]? = some (.cells #[.int .i64 0, .int .i64 0, .int .i64 0, .int .i64 0, .int .i64 0, .int .i64 n, .int .i64 0] 30 (0, 0)) := kept_at (kept_alloc (kept_grown HC.out b2) _) O3 (by omega)
        have V6 : w3.heap[C + 1]? = some (.cells #[.int .i64 q.st, .int .i64 q.cl, .int .i64 q.us, .int .i64 q.sm, .int .i64 q.lv, .bool q.op] 25 (0, 0)) := kept_at (kept_alloc (kept_grown HV.out b2) _) O3 (by omega)
        have HB6 : Below w.heap.size w w3 := below_own (grow_alloc (grow HB.out b2) _) O3 hh.1
        go_roundw
        case rel => exact ⟨k + 1, b3, cap4, by omega, by omega, by first | rfl | (exact congrArg (Value.int .i64) HO.out) | go_num, rfl, S6, ⟨by omega, by omega, by omega⟩, C6, V6, HB6⟩
        case measure => simp [intOf]; omega
      · have h1' : (k : Int) < (N : Int) := by omega
        have h2' : ¬ (k : Int) < 40 := by omega
        as_aux_lemma =>
          obtain ⟨ra, hra⟩ := Pick.some k (fun i => (A i).cut.may n) (fun i => (A i).cut.lv)
          have CA : Hid (∀ W, SnsAt W (some ⟨b, 0, none⟩) k (fun i => (A i).cut) → Calls Try.prog 12 #[.agg #[.int .i64 0, .int .i64 0, .int .i64 0, .int .i64 0, .int .i64 0, .int .i64 n, .int .i64 0], .slice (some ⟨b, 0, none⟩) k cap2] W fun e w' => e = .returned (.int .i64 ra) ∧ Below W.heap.size W w') := fun W h => choose_any 0 0 0 0 0 n 0 (by unfold Fit; omega) (some ⟨b, 0, none⟩) k cap2 (by omega) (fun i => (A i).cut) (fun i hi => (Sn.cut_small (HA.out i (by omega))).1) hra W h
          obtain ⟨rb, hrb⟩ : ∃ rb : Int, (if q.may n = true ∧ ∀ i, i < k → (A i).cut.may n = true → q.lv < (A i).cut.lv then (k : Int) else ra) = rb := ⟨_, rfl⟩
          have hpb := plus_pick (q := q) hra
          rw [hrb] at hpb
          have CB : Hid (∀ g c W, SnsAt W (some ⟨g, 0, none⟩) (k + 1) (plus A k q) → Calls Try.prog 12 #[.agg #[.int .i64 0, .int .i64 0, .int .i64 0, .int .i64 0, .int .i64 0, .int .i64 n, .int .i64 0], .slice (some ⟨g, 0, none⟩) (k + 1) c] W fun e w' => e = .returned (.int .i64 rb) ∧ Below W.heap.size W w') := fun g c W h => choose_any 0 0 0 0 0 n 0 (by unfold Fit; omega) (some ⟨g, 0, none⟩) (k + 1) c (by omega) (plus A k q) (fun i hi => by unfold plus; split; exact (Sn.cut_small (HA.out i (by omega))).1; exact HQ.out) hpb W h
          have HRB : Hid ((if q.may n = true ∧ ∀ i, i < k → (A i).cut.may n = true → q.lv < (A i).cut.lv then (k : Int) else ra) = rb) := hrb
          clear hra hrb hpb
          have Sa : SnsAt wr (some ⟨b, 0, none⟩) k (fun i => (A i).cut) := by have := HS.out.sns (sq_is A k); rw [sq_len] at this; exact this
          have MQ := fun W => may_any 0 0 0 0 0 n 0 (by unfold Fit; omega) q HQ.out W
          have y0 := blk_cell (o := 0) HC.out rfl
          have y1 := blk_cell (o := 1) HC.out rfl
          have y2 := blk_cell (o := 2) HC.out rfl
          have y3 := blk_cell (o := 3) HC.out rfl
          have y4 := blk_cell (o := 4) HC.out rfl
          have y5 := blk_cell (o := 5) HC.out rfl
          have y6 := blk_cell (o := 6) HC.out rfl
          have v0 := blk_cell (o := 0) HV.out rfl
          have v1 := blk_cell (o := 1) HV.out rfl
          have v2 := blk_cell (o := 2) HV.out rfl
          have v3 := blk_cell (o := 3) HV.out rfl
          have v4 := blk_cell (o := 4) HV.out rfl
          have v5 := blk_cell (o := 5) HV.out rfl
          have HSa : Hid (SnsAt wr (some ⟨b, 0, none⟩) k (fun i => (A i).cut)) := Sa
          clear Sa h1 HR
          go_wp2_with (go_at_call 12; refine (CA.out _ HSa.out).mono ?_; rintro e w2 ⟨rfl, b2⟩)
          have HS2 : Hid (Sns w2 b cap2 (sq A k)) := HS.out.grown b2
          replace y0 := keep' b2 y0
          replace y1 := keep' b2 y1
          replace y2 := keep' b2 y2
          replace y3 := keep' b2 y3
          replace y4 := keep' b2 y4
          replace y5 := keep' b2 y5
          replace y6 := keep' b2 y6
          replace v0 := keep' b2 v0
          replace v1 := keep' b2 v1
          replace v2 := keep' b2 v2
          replace v3 := keep' b2 v3
          replace v4 := keep' b2 v4
          replace v5 := keep' b2 v5
          refine wp_region_rely_tail (Keep12 w2.heap.size (sq A k) q) 7 [.val (.agg #[.int .i64 0, .int .i64 0, .int .i64 0, .int .i64 0, .int .i64 0, .int .i64 n, .int .i64 0]), .that (fun W v => ∃ g, v = .slice (some ⟨g, 0, none⟩) 0 0 ∧ w2.heap.size ≤ g ∧ Sns W g 0 []) (fun x y v hxy ⟨g, h1, h2, h3⟩ => ⟨g, h1, h2, hxy.k0 h3⟩), .val (.slice (some ⟨b, 0, none⟩) k cap2), .that (fun W v => ∃ g c, v = .slice (some ⟨g, 0, none⟩) k c ∧ w2.heap.size ≤ g ∧ Sns W g c (sq A k)) (fun x y v hxy ⟨g, c, h1, h2, h3⟩ => ⟨g, c, h1, h2, hxy.k1 h3⟩), .val (.agg #[.int .i64 q.st, .int .i64 q.cl, .int .i64 q.us, .int .i64 q.sm, .int .i64 q.lv, .bool q.op]), .that (fun W v => ∃ g, v = .slice (some ⟨g, 0, none⟩) 1 1 ∧ Sns W g 1 [q]) (fun x y v hxy ⟨g, h1, h3⟩ => ⟨g, h1, hxy.k2 h3⟩), .that (fun W v => ∃ g c, v = .slice (some ⟨g, 0, none⟩) (k + 1) c ∧ Sns W g c (sq A k ++ [q])) (fun x y v hxy ⟨g, c, h1, h3⟩ => ⟨g, c, h1, hxy.k3 h3⟩)] (by kernel_rfl) Keep12.refl Keep12.trans (by decide) (by kernel_rfl) (by kernel_rfl) (by kernel_rfl) (by kernel_rfl) (by kernel_rfl) (by kernel_rfl) ?_
          simp only [List.take_succ_cons, List.take_zero, relyAll, Act.put, List.setIfInBounds_toArray, List.set_cons_zero, List.set_cons_succ]
          refine ⟨?_, ⟨?_, fun _ => ⟨?_, ⟨?_, fun _ => ⟨?_, ⟨?_, fun _ => ⟨?_, fun _ => ?_⟩⟩⟩⟩⟩⟩⟩
          · intro w' hR HF
            refine Or.inl ⟨rfl, ?_⟩
            have z0 := keep' (w := w2.drew) hR.below y0
            have z1 := keep' (w := w2.drew) hR.below y1
            have z2 := keep' (w := w2.drew) hR.below y2
            have z3 := keep' (w := w2.drew) hR.below y3
            have z4 := keep' (w := w2.drew) hR.below y4
            have z5 := keep' (w := w2.drew) hR.below y5
            have z6 := keep' (w := w2.drew) hR.below y6
            go_simp
            exact ⟨Keep12.refl _, rfl⟩
          · intro w' hR HF
            refine Or.inl ⟨rfl, ?_⟩
            have hsz : w2.heap.size ≤ w'.heap.size := hR.below.size
            go_simp
            exact ⟨Keep12.grown hsz (grow_alloc (Below.refl _ _) _), _, rfl, hsz, Sns.zero _⟩
          · intro w' hR HF
            refine Or.inl ⟨rfl, ?_⟩
            go_simp
            exact ⟨Keep12.refl _, rfl⟩
          · intro w' hR HF
            refine Or.inl ⟨rfl, ?_⟩
            have hsz : w2.heap.size ≤ w'.heap.size := hR.below.size
            obtain ⟨g, e1, e2, e3⟩ := HF.1 (by kernel_rfl)
            clear HF
            subst e1
            have S9 : Sns w' b cap2 (sq A k) := hR.k1 HS2.out.drew
            obtain ⟨b', cap', w'', hr, ho, hgr, hb'⟩ := Sns.copy S9 (sq_len A k) e3 (by omega) 32
            exact rely_append (.tmp 45) (.tmp 46) rfl rfl rfl hr (Keep12.grown hsz hgr) ⟨b', cap', rfl, by omega, ho⟩
          · intro w' hR HF
            refine Or.inl ⟨rfl, ?_⟩
            have z0 := keep' (w := w2.drew) hR.below v0
            have z1 := keep' (w := w2.drew) hR.below v1
            have z2 := keep' (w := w2.drew) hR.below v2
            have z3 := keep' (w := w2.drew) hR.below v3
            have z4 := keep' (w := w2.drew) hR.below v4
            have z5 := keep' (w := w2.drew) hR.below v5
            go_simp
            exact ⟨Keep12.refl _, rfl⟩
          · intro w' hR HF
            refine Or.inl ⟨rfl, ?_⟩
            have hsz : w2.heap.size ≤ w'.heap.size := hR.below.size
            clear HF
            exact rely_one (.tmp 48) rfl rfl (Keep12.grown hsz (grow_alloc (Below.refl _ _) _)) ⟨_, rfl, Sns.one _ q⟩
          · intro w' hR HF
            refine Or.inl ⟨rfl, ?_⟩
            have hsz : w2.heap.size ≤ w'.heap.size := hR.below.size
            obtain ⟨g, e1, e2⟩ := HF.1 (by kernel_rfl)
            obtain ⟨d, c, d1, d2, d3⟩ := HF.2.1 (by kernel_rfl)
            clear HF
            subst e1 d1
            obtain ⟨b', cap', w'', hr, ho, hk⟩ := Sns.push (B := w2.heap.size) d3 (sq_len A k) e2 (by omega) d2 hsz 32
            exact rely_append (.tmp 47) (.tmp 49) rfl rfl rfl hr hk ⟨b', cap', rfl, ho⟩
          intro w3 hR HF
          obtain ⟨⟨g6, cap6, rfl, S6⟩, -, -, -⟩ := HF
          have S7 : SnsAt w3 (some ⟨g6, 0, none⟩) (k + 1) (plus A k q) := by have := S6.sns (plus_is A k q); rw [List.length_append, sq_len] at this; exact this
          have g3 : Grown w2 w3 := Grown.trans _ _ _ (Grown.drew _) hR.below
          replace y0 := keep' g3 y0
          replace y1 := keep' g3 y1
          replace y2 := keep' g3 y2
          replace y3 := keep' g3 y3
          replace y4 := keep' g3 y4
          replace y5 := keep' g3 y5
          replace y6 := keep' g3 y6
          replace v0 := keep' g3 v0
          replace v1 := keep' g3 v1
          replace v2 := keep' g3 v2
          replace v3 := keep' g3 v3
          replace v4 := keep' g3 v4
          replace v5 := keep' g3 v5
          have HB3 : Hid (Below w.heap.size w w3) := grow (grow HB.out b2) g3
          have HSa3 : Hid (SnsAt w3 (some ⟨b, 0, none⟩) k (fun i => (A i).cut)) := (HSa.out.grown b2).grown g3
          have HS7 : Hid (SnsAt w3 (some ⟨g6, 0, none⟩) (k + 1) (plus A k q)) := S7
          clear S7 S6 hR HS2 HSa b2 g3
          simp only [List.drop_succ_cons, List.drop_zero]
          cases hm : q.may n
          · rw [hm] at MQ
            have HE : Hid (ra = rb) := by
              unfold Hid
              rw [← HRB.out, if_neg (by rw [hm]; simp)]
            clear hm HRB
            go_wp2_with (first
              | (go_at_call 12; refine (CB.out _ _ _ HS7.out).mono ?_; rintro e w4 ⟨rfl, b4⟩; replace y0 := keep' b4 y0; replace y1 := keep' b4 y1; replace y2 := keep' b4 y2; replace y3 := keep' b4 y3; replace y4 := keep' b4 y4; replace y5 := keep' b4 y5; replace y6 := keep' b4 y6; replace v0 := keep' b4 v0; replace v1 := keep' b4 v1; replace v2 := keep' b4 v2; replace v3 := keep' b4 v3; replace v4 := keep' b4 v4; replace v5 := keep' b4 v5)
              | (go_at_call 10; refine (MQ _).mono ?_; rintro e w5 ⟨rfl, b5⟩)
              | (go_at_call 9; refine (awake12_any _).mono ?_; rintro e w6 ⟨rfl, b6⟩))
            go_ret
            refine ⟨?_, grow (grow (grow HB3.out b4) b5) b6⟩
            have := HE.out
            subst this
            simp
          · rw [hm] at MQ
            have HMq : Hid (q.may n = true) := hm
            clear hm
            go_wp2_with (first
              | (go_at_call 12; refine (CB.out _ _ _ HS7.out).mono ?_; rintro e w4 ⟨rfl, b4⟩; replace y0 := keep' b4 y0; replace y1 := keep' b4 y1; replace y2 := keep' b4 y2; replace y3 := keep' b4 y3; replace y4 := keep' b4 y4; replace y5 := keep' b4 y5; replace y6 := keep' b4 y6; replace v0 := keep' b4 v0; replace v1 := keep' b4 v1; replace v2 := keep' b4 v2; replace v3 := keep' b4 v3; replace v4 := keep' b4 v4; replace v5 := keep' b4 v5)
              | (go_at_call 10; refine (MQ _).mono ?_; rintro e w5 ⟨rfl, b5⟩))
            have Y0 := keep' b5 y0
            have Y1 := keep' b5 y1
            have Y2 := keep' b5 y2
            have Y3 := keep' b5 y3
            have Y4 := keep' b5 y4
            have Y5 := keep' b5 y5
            have Y6 := keep' b5 y6
            have V0 := keep' b5 v0
            have V1 := keep' b5 v1
            have V2 := keep' b5 v2
            have V3 := keep' b5 v3
            have V4 := keep' b5 v4
            have V5 := keep' b5 v5
            have HB5 : Hid (Below w.heap.size w w5) := grow (grow HB3.out b4) b5
            have HSa5 : Hid (SnsAt w5 (some ⟨b, 0, none⟩) k (fun i => (A i).cut)) := (HSa3.out.grown b4).grown b5
            clear y0 y1 y2 y3 y4 y5 y6 v0 v1 v2 v3 v4 v5 b4 b5 MQ HSa3 HS7 HB3 CA CB HS HC HV HB Hb
            go_loopw [13, 14] (fun s13 s14 wy => ∃ (t : Nat) (σ : Bool), t ≤ k ∧ s14 = .int .i64 t ∧ s13 = .bool σ ∧ Hid ((σ = true) ↔ ∀ j, j < t → (A j).cut.may n = true → q.lv < (A j).cut.lv) ∧ Grown w5 wy) (fun _ s14 _ => k - (intOf s14).toNat)
            case atStart => exact ⟨0, true, Nat.zero_le _, rfl, rfl, ⟨fun _ j hj => by omega, fun _ => rfl⟩, Grown.refl _⟩
            case round =>
              obtain ⟨t, σ, htk, rfl, rfl, HT, hg4⟩ := hrel
              have y0 := keep' hg4 Y0
              have y1 := keep' hg4 Y1
              have y2 := keep' hg4 Y2
              have y3 := keep' hg4 Y3
              have y4 := keep' hg4 Y4
              have y5 := keep' hg4 Y5
              have y6 := keep' hg4 Y6
              have v0 := keep' hg4 V0
              have v1 := keep' hg4 V1
              have v2 := keep' hg4 V2
              have v3 := keep' hg4 V3
              have v4 := keep' hg4 V4
              have v5 := keep' hg4 V5
              by_cases ht : t < k
              · have ht' : (t : Int) < (k : Int) := by omega
                have hov : wrap64 ((t : Int) + 1) = ((t + 1 : Nat) : Int) := by unfold wrap64; omega
                have HOt : Hid (wrap64 ((t : Int) + 1) = ((t + 1 : Nat) : Int)) := hov
                clear hov
                obtain ⟨c, hc⟩ : ∃ c, (A t).cut = c := ⟨_, rfl⟩
                have HCt : Hid ((A t).cut = c) := hc
                have hcf := (Sn.cut_small (HA.out t (by omega))).1
                obtain ⟨b', off', eq, r0, r1, r2, r3, r4, r5⟩ := HSa5.out t ht
                cases eq
                simp only [hc, Nat.zero_add] at r0 r1 r2 r3 r4 r5
                have p0 := keep' hg4 r0
                have p1 := keep' hg4 r1
                have p2 := keep' hg4 r2
                have p3 := keep' hg4 r3
                have p4 := keep' hg4 r4
                have p5 := keep' hg4 r5
                rw [hc] at hcf
                have Mc := fun W => may_any 0 0 0 0 0 n 0 (by unfold Fit; omega) c hcf W
                clear hc hcf r0 r1 r2 r3 r4 r5
                cases σ
                · have HX : Hid (((false : Bool) = true) ↔ ∀ j, j < t + 1 → (A j).cut.may n = true → q.lv < (A j).cut.lv) := ⟨(fun h => by cases h), fun h => HT.out.2 fun j hj => h j (by omega)⟩
                  clear HT
                  go_wp2_with fail
                  refine wp_region_rely_tail Grown 20 [.val (.bool false), .val (.bool false), .val undef, .val undef, .val undef, .val undef, .val undef, .val undef, .val undef, .val undef, .val undef, .val undef, .val undef, .val undef, .val undef, .val undef, .val undef, .val undef, .val undef, .val (.bool false)] (by kernel_rfl) Grown.refl Grown.trans (by decide) (by kernel_rfl) (by kernel_rfl) (by kernel_rfl) (by kernel_rfl) (by kernel_rfl) (by kernel_rfl) ?_
                  simp only [List.take_succ_cons, List.take_zero, relyAll, Act.put, List.setIfInBounds_toArray, List.set_cons_zero, List.set_cons_succ]
                  refine ⟨?_, ?_, ?_, ?_, ?_, ?_, ?_, ?_, ?_, ?_, ?_, ?_, ?_, ?_, ?_, ?_, ?_, ?_, ?_, ?_, ?_⟩
                  · intro w' hg _
                    refine Or.inl ⟨rfl, ?_⟩
                    go_simp
                    exact ⟨Grown.refl _, rfl⟩
                  · intro w' hg _
                    refine Or.inl ⟨rfl, ?_⟩
                    go_simp
                    exact ⟨Grown.refl _, rfl⟩
                  · intro w' hg _
                    exact Or.inr ⟨rfl, rfl⟩
                  · intro w' hg _
                    exact Or.inr ⟨rfl, rfl⟩
                  · intro w' hg _
                    exact Or.inr ⟨rfl, rfl⟩
                  · intro w' hg _
                    exact Or.inr ⟨rfl, rfl⟩
                  · intro w' hg _
                    exact Or.inr ⟨rfl, rfl⟩
                  · intro w' hg _
                    exact Or.inr ⟨rfl, rfl⟩
                  · intro w' hg _
                    exact Or.inr ⟨rfl, rfl⟩
                  · intro w' hg _
                    exact Or.inr ⟨rfl, rfl⟩
                  · intro w' hg _
                    exact Or.inr ⟨rfl, rfl⟩
                  · intro w' hg _
                    exact Or.inr ⟨rfl, rfl⟩
                  · intro w' hg _
                    exact Or.inr ⟨rfl, rfl⟩
                  · intro w' hg _
                    exact Or.inr ⟨rfl, rfl⟩
                  · intro w' hg _
                    exact Or.inr ⟨rfl, rfl⟩
                  · intro w' hg _
                    exact Or.inr ⟨rfl, rfl⟩
                  · intro w' hg _
                    exact Or.inr ⟨rfl, rfl⟩
                  · intro w' hg _
                    exact Or.inr ⟨rfl, rfl⟩
                  · intro w' hg _
                    exact Or.inr ⟨rfl, rfl⟩
                  · intro w' hg _
                    refine Or.inl ⟨rfl, ?_⟩
                    go_simp
                    exact ⟨Grown.refl _, rfl⟩
                  intro w2 hg _
                  have hg5 := Grown.trans _ _ _ hg4 (Grown.trans _ _ _ (Grown.drew _) hg)
                  go_wp2
                  go_roundw
                  case rel => exact ⟨t + 1, false, by omega, by first | rfl | (exact congrArg (Value.int .i64) HOt.out) | go_num, rfl, (by have := HX.out; unfold Hid; simpa using this), hg5⟩
                  case measure => simp [intOf]; omega
                · cases hm : c.may n
                  · rw [hm] at Mc
                    have HX : Hid (((true : Bool) = true) ↔ ∀ j, j < t + 1 → (A j).cut.may n = true → q.lv < (A j).cut.lv) := ⟨fun _ j hj e => by
                      by_cases ej : j = t
                      · subst ej; rw [HCt.out, hm] at e; cases e
                      · exact HT.out.1 rfl j (by omega) e, fun _ => rfl⟩
                    clear HT hm
                    go_wp2_with fail
                    refine wp_region_rely_tail Grown 20 [.val (.bool true), .val (.bool true), .val (.agg #[.int .i64 0, .int .i64 0, .int .i64 0, .int .i64 0, .int .i64 0, .int .i64 n, .int .i64 0]), .val (.slice (some ⟨b, 0, none⟩) k cap2), .val (.int .i64 t), .val (.pointer (some ⟨b, t * 6, none⟩)), .val (.agg #[.int .i64 c.st, .int .i64 c.cl, .int .i64 c.us, .int .i64 c.sm, .int .i64 c.lv, .bool c.op]), .val (.bool false), .val (.bool true), .val (.bool true), .val undef, .val undef, .val undef, .val undef, .val undef, .val undef, .val undef, .val undef, .val (.bool true), .val (.bool true)] (by kernel_rfl) Grown.refl Grown.trans (by decide) (by kernel_rfl) (by kernel_rfl) (by kernel_rfl) (by kernel_rfl) (by kernel_rfl) (by kernel_rfl) ?_
                    simp only [List.take_succ_cons, List.take_zero, relyAll, Act.put, List.setIfInBounds_toArray, List.set_cons_zero, List.set_cons_succ]
                    refine ⟨?_, ?_, ?_, ?_, ?_, ?_, ?_, ?_, ?_, ?_, ?_, ?_, ?_, ?_, ?_, ?_, ?_, ?_, ?_, ?_, ?_⟩
                    · intro w' hg _
                      refine Or.inl ⟨rfl, ?_⟩
                      go_simp
                      exact ⟨Grown.refl _, rfl⟩
                    · intro w' hg _
                      refine Or.inl ⟨rfl, ?_⟩
                      go_simp
                      exact ⟨Grown.refl _, rfl⟩
                    · intro w' hg _
                      refine Or.inl ⟨rfl, ?_⟩
                      have z0 := keep' hg y0
                      have z1 := keep' hg y1
                      have z2 := keep' hg y2
                      have z3 := keep' hg y3
                      have z4 := keep' hg y4
                      have z5 := keep' hg y5
                      have z6 := keep' hg y6
                      go_simp
                      exact ⟨Grown.refl _, rfl⟩
                    · intro w' hg _
                      refine Or.inl ⟨rfl, ?_⟩
                      go_simp
                      exact ⟨Grown.refl _, rfl⟩
                    · intro w' hg _
                      refine Or.inl ⟨rfl, ?_⟩
                      go_simp
                      exact ⟨Grown.refl _, rfl⟩
                    · intro w' hg _
                      refine Or.inl ⟨rfl, ?_⟩
                      go_simp
                      exact ⟨Grown.refl _, rfl⟩
                    · intro w' hg _
                      refine Or.inl ⟨rfl, ?_⟩
                      have z0 := keep' hg p0
                      have z1 := keep' hg p1
                      have z2 := keep' hg p2
                      have z3 := keep' hg p3
                      have z4 := keep' hg p4
                      have z5 := keep' hg p5
                      go_simp
                      exact ⟨Grown.refl _, rfl⟩
                    · intro w' hg _
                      refine Or.inl ⟨rfl, ?_⟩
                      go_simp
                      refine (Mc _).mono ?_
                      rintro e w'' ⟨rfl, b9⟩
                      exact ⟨_, rfl, b9, rfl⟩
                    · intro w' hg _
                      refine Or.inl ⟨rfl, ?_⟩
                      go_simp
                      exact ⟨Grown.refl _, rfl⟩
                    · intro w' hg _
                      refine Or.inl ⟨rfl, ?_⟩
                      go_simp
                      exact ⟨Grown.refl _, rfl⟩
                    · intro w' hg _
                      exact Or.inr ⟨rfl, rfl⟩
                    · intro w' hg _
                      exact Or.inr ⟨rfl, rfl⟩
                    · intro w' hg _
                      exact Or.inr ⟨rfl, rfl⟩
                    · intro w' hg _
                      exact Or.inr ⟨rfl, rfl⟩
                    · intro w' hg _
                      exact Or.inr ⟨rfl, rfl⟩
                    · intro w' hg _
                      exact Or.inr ⟨rfl, rfl⟩
                    · intro w' hg _
                      exact Or.inr ⟨rfl, rfl⟩
                    · intro w' hg _
                      exact Or.inr ⟨rfl, rfl⟩
                    · intro w' hg _
                      refine Or.inl ⟨rfl, ?_⟩
                      go_simp
                      exact ⟨Grown.refl _, rfl⟩
                    · intro w' hg _
                      refine Or.inl ⟨rfl, ?_⟩
                      go_simp
                      exact ⟨Grown.refl _, rfl⟩
                    intro w2 hg _
                    have hg5 := Grown.trans _ _ _ hg4 (Grown.trans _ _ _ (Grown.drew _) hg)
                    go_wp2
                    go_roundw
                    case rel => exact ⟨t + 1, true, by omega, by first | rfl | (exact congrArg (Value.int .i64) HOt.out) | go_num, rfl, (by have := HX.out; unfold Hid; simpa using this), hg5⟩
                    case measure => simp [intOf]; omega
                  · rw [hm] at Mc
                    by_cases hl : q.lv < c.lv
                    · have hd : decide (q.lv < c.lv) = true := decide_eq_true hl
                      have HX : Hid (((true : Bool) = true) ↔ ∀ j, j < t + 1 → (A j).cut.may n = true → q.lv < (A j).cut.lv) := ⟨fun _ j hj e => by
                        by_cases ej : j = t
                        · subst ej; rw [HCt.out]; exact hl
                        · exact HT.out.1 rfl j (by omega) e, fun _ => rfl⟩
                      clear HT hm
                      go_wp2_with fail
                      refine wp_region_rely_tail Grown 20 [.val (.bool true), .val (.bool true), .val (.agg #[.int .i64 0, .int .i64 0, .int .i64 0, .int .i64 0, .int .i64 0, .int .i64 n, .int .i64 0]), .val (.slice (some ⟨b, 0, none⟩) k cap2), .val (.int .i64 t), .val (.pointer (some ⟨b, t * 6, none⟩)), .val (.agg #[.int .i64 c.st, .int .i64 c.cl, .int .i64 c.us, .int .i64 c.sm, .int .i64 c.lv, .bool c.op]), .val (.bool true), .val (.bool false), .val (.bool false), .val (.slice (some ⟨b, 0, none⟩) k cap2), .val (.int .i64 t), .val (.pointer (some ⟨b, t * 6, none⟩)), .val (.pointer (some ⟨b, t * 6 + 4, none⟩)), .val (.int .i64 c.lv), .val (.pointer (some ⟨C + 1, 4, none⟩)), .val (.int .i64 q.lv), .val (.bool true), .val (.bool true), .val (.bool true)] (by kernel_rfl) Grown.refl Grown.trans (by decide) (by kernel_rfl) (by kernel_rfl) (by kernel_rfl) (by kernel_rfl) (by kernel_rfl) (by kernel_rfl) ?_
                      simp only [List.take_succ_cons, List.take_zero, relyAll, Act.put, List.setIfInBounds_toArray, List.set_cons_zero, List.set_cons_succ]
                      refine ⟨?_, ?_, ?_, ?_, ?_, ?_, ?_, ?_, ?_, ?_, ?_, ?_, ?_, ?_, ?_, ?_, ?_, ?_, ?_, ?_, ?_⟩
                      · intro w' hg _
                        refine Or.inl ⟨rfl, ?_⟩
                        go_simp
                        exact ⟨Grown.refl _, rfl⟩
                      · intro w' hg _
                        refine Or.inl ⟨rfl, ?_⟩
                        go_simp
                        exact ⟨Grown.refl _, rfl⟩
                      · intro w' hg _
                        refine Or.inl ⟨rfl, ?_⟩
                        have z0 := keep' hg y0
                        have z1 := keep' hg y1
                        have z2 := keep' hg y2
                        have z3 := keep' hg y3
                        have z4 := keep' hg y4
                        have z5 := keep' hg y5
                        have z6 := keep' hg y6
                        go_simp
                        exact ⟨Grown.refl _, rfl⟩
                      · intro w' hg _
                        refine Or.inl ⟨rfl, ?_⟩
                        go_simp
                        exact ⟨Grown.refl _, rfl⟩
                      · intro w' hg _
                        refine Or.inl ⟨rfl, ?_⟩
                        go_simp
                        exact ⟨Grown.refl _, rfl⟩
                      · intro w' hg _
                        refine Or.inl ⟨rfl, ?_⟩
                        go_simp
                        exact ⟨Grown.refl _, rfl⟩
                      · intro w' hg _
                        refine Or.inl ⟨rfl, ?_⟩
                        have z0 := keep' hg p0
                        have z1 := keep' hg p1
                        have z2 := keep' hg p2
                        have z3 := keep' hg p3
                        have z4 := keep' hg p4
                        have z5 := keep' hg p5
                        go_simp
                        exact ⟨Grown.refl _, rfl⟩
                      · intro w' hg _
                        refine Or.inl ⟨rfl, ?_⟩
                        go_simp
                        refine (Mc _).mono ?_
                        rintro e w'' ⟨rfl, b9⟩
                        exact ⟨_, rfl, b9, rfl⟩
                      · intro w' hg _
                        refine Or.inl ⟨rfl, ?_⟩
                        go_simp
                        exact ⟨Grown.refl _, rfl⟩
                      · intro w' hg _
                        refine Or.inl ⟨rfl, ?_⟩
                        go_simp
                        exact ⟨Grown.refl _, rfl⟩
                      · intro w' hg _
                        refine Or.inl ⟨rfl, ?_⟩
                        go_simp
                        exact ⟨Grown.refl _, rfl⟩
                      · intro w' hg _
                        refine Or.inl ⟨rfl, ?_⟩
                        go_simp
                        exact ⟨Grown.refl _, rfl⟩
                      · intro w' hg _
                        refine Or.inl ⟨rfl, ?_⟩
                        go_simp
                        exact ⟨Grown.refl _, rfl⟩
                      · intro w' hg _
                        refine Or.inl ⟨rfl, ?_⟩
                        go_simp
                        exact ⟨Grown.refl _, rfl⟩
                      · intro w' hg _
                        refine Or.inl ⟨rfl, ?_⟩
                        have z0 := keep' hg p4
                        go_simp
                        exact ⟨Grown.refl _, rfl⟩
                      · intro w' hg _
                        refine Or.inl ⟨rfl, ?_⟩
                        go_simp
                        exact ⟨Grown.refl _, rfl⟩
                      · intro w' hg _
                        refine Or.inl ⟨rfl, ?_⟩
                        have z0 := keep' hg v4
                        go_simp
                        exact ⟨Grown.refl _, rfl⟩
                      · intro w' hg _
                        refine Or.inl ⟨rfl, ?_⟩
                        go_simp
                        exact ⟨Grown.refl _, rfl⟩
                      · intro w' hg _
                        refine Or.inl ⟨rfl, ?_⟩
                        go_simp
                        exact ⟨Grown.refl _, rfl⟩
                      · intro w' hg _
                        refine Or.inl ⟨rfl, ?_⟩
                        go_simp
                        exact ⟨Grown.refl _, rfl⟩
                      intro w2 hg _
                      have hg5 := Grown.trans _ _ _ hg4 (Grown.trans _ _ _ (Grown.drew _) hg)
                      go_wp2
                      go_roundw
                      case rel => exact ⟨t + 1, true, by omega, by first | rfl | (exact congrArg (Value.int .i64) HOt.out) | go_num, rfl, (by have := HX.out; unfold Hid; simpa using this), hg5⟩
                      case measure => simp [intOf]; omega
                    · have hd : decide (q.lv < c.lv) = false := decide_eq_false hl
                      have HX : Hid (((false : Bool) = true) ↔ ∀ j, j < t + 1 → (A j).cut.may n = true → q.lv < (A j).cut.lv) := ⟨(fun h => by cases h), fun h => by
                        have := h t (by omega) (by rw [HCt.out]; exact hm)
                        rw [HCt.out] at this
                        exact absurd this hl⟩
                      clear HT hm
                      go_wp2_with fail
                      refine wp_region_rely_tail Grown 20 [.val (.bool true), .val (.bool true), .val (.agg #[.int .i64 0, .int .i64 0, .int .i64 0, .int .i64 0, .int .i64 0, .int .i64 n, .int .i64 0]), .val (.slice (some ⟨b, 0, none⟩) k cap2), .val (.int .i64 t), .val (.pointer (some ⟨b, t * 6, none⟩)), .val (.agg #[.int .i64 c.st, .int .i64 c.cl, .int .i64 c.us, .int .i64 c.sm, .int .i64 c.lv, .bool c.op]), .val (.bool true), .val (.bool false), .val (.bool false), .val (.slice (some ⟨b, 0, none⟩) k cap2), .val (.int .i64 t), .val (.pointer (some ⟨b, t * 6, none⟩)), .val (.pointer (some ⟨b, t * 6 + 4, none⟩)), .val (.int .i64 c.lv), .val (.pointer (some ⟨C + 1, 4, none⟩)), .val (.int .i64 q.lv), .val (.bool false), .val (.bool false), .val (.bool false)] (by kernel_rfl) Grown.refl Grown.trans (by decide) (by kernel_rfl) (by kernel_rfl) (by kernel_rfl) (by kernel_rfl) (by kernel_rfl) (by kernel_rfl) ?_
                      simp only [List.take_succ_cons, List.take_zero, relyAll, Act.put, List.setIfInBounds_toArray, List.set_cons_zero, List.set_cons_succ]
                      refine ⟨?_, ?_, ?_, ?_, ?_, ?_, ?_, ?_, ?_, ?_, ?_, ?_, ?_, ?_, ?_, ?_, ?_, ?_, ?_, ?_, ?_⟩
                      · intro w' hg _
                        refine Or.inl ⟨rfl, ?_⟩
                        go_simp
                        exact ⟨Grown.refl _, rfl⟩
                      · intro w' hg _
                        refine Or.inl ⟨rfl, ?_⟩
                        go_simp
                        exact ⟨Grown.refl _, rfl⟩
                      · intro w' hg _
                        refine Or.inl ⟨rfl, ?_⟩
                        have z0 := keep' hg y0
                        have z1 := keep' hg y1
                        have z2 := keep' hg y2
                        have z3 := keep' hg y3
                        have z4 := keep' hg y4
                        have z5 := keep' hg y5
                        have z6 := keep' hg y6
                        go_simp
                        exact ⟨Grown.refl _, rfl⟩
                      · intro w' hg _
                        refine Or.inl ⟨rfl, ?_⟩
                        go_simp
                        exact ⟨Grown.refl _, rfl⟩
                      · intro w' hg _
                        refine Or.inl ⟨rfl, ?_⟩
                        go_simp
                        exact ⟨Grown.refl _, rfl⟩
                      · intro w' hg _
                        refine Or.inl ⟨rfl, ?_⟩
                        go_simp
                        exact ⟨Grown.refl _, rfl⟩
                      · intro w' hg _
                        refine Or.inl ⟨rfl, ?_⟩
                        have z0 := keep' hg p0
                        have z1 := keep' hg p1
                        have z2 := keep' hg p2
                        have z3 := keep' hg p3
                        have z4 := keep' hg p4
                        have z5 := keep' hg p5
                        go_simp
                        exact ⟨Grown.refl _, rfl⟩
                      · intro w' hg _
                        refine Or.inl ⟨rfl, ?_⟩
                        go_simp
                        refine (Mc _).mono ?_
                        rintro e w'' ⟨rfl, b9⟩
                        exact ⟨_, rfl, b9, rfl⟩
                      · intro w' hg _
                        refine Or.inl ⟨rfl, ?_⟩
                        go_simp
                        exact ⟨Grown.refl _, rfl⟩
                      · intro w' hg _
                        refine Or.inl ⟨rfl, ?_⟩
                        go_simp
                        exact ⟨Grown.refl _, rfl⟩
                      · intro w' hg _
                        refine Or.inl ⟨rfl, ?_⟩
                        go_simp
                        exact ⟨Grown.refl _, rfl⟩
                      · intro w' hg _
                        refine Or.inl ⟨rfl, ?_⟩
                        go_simp
                        exact ⟨Grown.refl _, rfl⟩
                      · intro w' hg _
                        refine Or.inl ⟨rfl, ?_⟩
                        go_simp
                        exact ⟨Grown.refl _, rfl⟩
                      · intro w' hg _
                        refine Or.inl ⟨rfl, ?_⟩
                        go_simp
                        exact ⟨Grown.refl _, rfl⟩
                      · intro w' hg _
                        refine Or.inl ⟨rfl, ?_⟩
                        have z0 := keep' hg p4
                        go_simp
                        exact ⟨Grown.refl _, rfl⟩
                      · intro w' hg _
                        refine Or.inl ⟨rfl, ?_⟩
                        go_simp
                        exact ⟨Grown.refl _, rfl⟩
                      · intro w' hg _
                        refine Or.inl ⟨rfl, ?_⟩
                        have z0 := keep' hg v4
                        go_simp
                        exact ⟨Grown.refl _, rfl⟩
                      · intro w' hg _
                        refine Or.inl ⟨rfl, ?_⟩
                        go_simp
                        exact ⟨Grown.refl _, rfl⟩
                      · intro w' hg _
                        refine Or.inl ⟨rfl, ?_⟩
                        go_simp
                        exact ⟨Grown.refl _, rfl⟩
                      · intro w' hg _
                        refine Or.inl ⟨rfl, ?_⟩
                        go_simp
                        exact ⟨Grown.refl _, rfl⟩
                      intro w2 hg _
                      have hg5 := Grown.trans _ _ _ hg4 (Grown.trans _ _ _ (Grown.drew _) hg)
                      go_wp2
                      go_roundw
                      case rel => exact ⟨t + 1, false, by omega, by first | rfl | (exact congrArg (Value.int .i64) HOt.out) | go_num, rfl, (by have := HX.out; unfold Hid; simpa using this), hg5⟩
                      case measure => simp [intOf]; omega
              · have ht' : ¬ (t : Int) < (k : Int) := by omega
                have HTk : Hid (t = k) := by unfold Hid; omega
                cases σ
                · have HE : Hid (ra = rb) := by
                    unfold Hid
                    rw [← HRB.out, if_neg]
                    rintro ⟨-, h⟩
                    have := HT.out.2 (by rw [HTk.out]; exact h)
                    cases this
                  clear HT HRB
                  go_wp2_with (go_at_call 9; refine (awake12_any _).mono ?_; rintro e w6 ⟨rfl, b6⟩)
                  go_ret
                  refine ⟨?_, grow (grow HB5.out hg4) b6⟩
                  have := HE.out
                  subst this
                  simp
                · have HE : Hid ((k : Int) = rb) := by
                    unfold Hid
                    rw [← HRB.out, if_pos]
                    have := HT.out.1 rfl
                    rw [HTk.out] at this
                    exact ⟨HMq.out, this⟩
                  clear HT HRB
                  go_wp2_with (go_at_call 9; refine (awake12_any _).mono ?_; rintro e w6 ⟨rfl, b6⟩)
                  go_ret
                  refine ⟨?_, grow (grow HB5.out hg4) b6⟩
                  have := HE.out
                  subst this
                  simp
    · have h1' : ¬ (k : Int) < (N : Int) := by omega
      as_aux_lemma =>
        obtain ⟨ra, hra⟩ := Pick.some k (fun i => (A i).cut.may n) (fun i => (A i).cut.lv)
        have CA : Hid (∀ W, SnsAt W (some ⟨b, 0, none⟩) k (fun i => (A i).cut) → Calls Try.prog 12 #[.agg #[.int .i64 0, .int .i64 0, .int .i64 0, .int .i64 0, .int .i64 0, .int .i64 n, .int .i64 0], .slice (some ⟨b, 0, none⟩) k cap2] W fun e w' => e = .returned (.int .i64 ra) ∧ Below W.heap.size W w') := fun W h => choose_any 0 0 0 0 0 n 0 (by unfold Fit; omega) (some ⟨b, 0, none⟩) k cap2 (by omega) (fun i => (A i).cut) (fun i hi => (Sn.cut_small (HA.out i (by omega))).1) hra W h
        obtain ⟨rb, hrb⟩ : ∃ rb : Int, (if q.may n = true ∧ ∀ i, i < k → (A i).cut.may n = true → q.lv < (A i).cut.lv then (k : Int) else ra) = rb := ⟨_, rfl⟩
        have hpb := plus_pick (q := q) hra
        rw [hrb] at hpb
        have CB : Hid (∀ g c W, SnsAt W (some ⟨g, 0, none⟩) (k + 1) (plus A k q) → Calls Try.prog 12 #[.agg #[.int .i64 0, .int .i64 0, .int .i64 0, .int .i64 0, .int .i64 0, .int .i64 n, .int .i64 0], .slice (some ⟨g, 0, none⟩) (k + 1) c] W fun e w' => e = .returned (.int .i64 rb) ∧ Below W.heap.size W w') := fun g c W h => choose_any 0 0 0 0 0 n 0 (by unfold Fit; omega) (some ⟨g, 0, none⟩) (k + 1) c (by omega) (plus A k q) (fun i hi => by unfold plus; split; exact (Sn.cut_small (HA.out i (by omega))).1; exact HQ.out) hpb W h
        have HRB : Hid ((if q.may n = true ∧ ∀ i, i < k → (A i).cut.may n = true → q.lv < (A i).cut.lv then (k : Int) else ra) = rb) := hrb
        clear hra hrb hpb
        have Sa : SnsAt wr (some ⟨b, 0, none⟩) k (fun i => (A i).cut) := by have := HS.out.sns (sq_is A k); rw [sq_len] at this; exact this
        have MQ := fun W => may_any 0 0 0 0 0 n 0 (by unfold Fit; omega) q HQ.out W
        have y0 := blk_cell (o := 0) HC.out rfl
        have y1 := blk_cell (o := 1) HC.out rfl
        have y2 := blk_cell (o := 2) HC.out rfl
        have y3 := blk_cell (o := 3) HC.out rfl
        have y4 := blk_cell (o := 4) HC.out rfl
        have y5 := blk_cell (o := 5) HC.out rfl
        have y6 := blk_cell (o := 6) HC.out rfl
        have v0 := blk_cell (o := 0) HV.out rfl
        have v1 := blk_cell (o := 1) HV.out rfl
        have v2 := blk_cell (o := 2) HV.out rfl
        have v3 := blk_cell (o := 3) HV.out rfl
        have v4 := blk_cell (o := 4) HV.out rfl
        have v5 := blk_cell (o := 5) HV.out rfl
        have HSa : Hid (SnsAt wr (some ⟨b, 0, none⟩) k (fun i => (A i).cut)) := Sa
        clear Sa h1 HR
        go_wp2_with (go_at_call 12; refine (CA.out _ HSa.out).mono ?_; rintro e w2 ⟨rfl, b2⟩)
        have HS2 : Hid (Sns w2 b cap2 (sq A k)) := HS.out.grown b2
        replace y0 := keep' b2 y0
        replace y1 := keep' b2 y1
        replace y2 := keep' b2 y2
        replace y3 := keep' b2 y3
        replace y4 := keep' b2 y4
        replace y5 := keep' b2 y5
        replace y6 := keep' b2 y6
        replace v0 := keep' b2 v0
        replace v1 := keep' b2 v1
        replace v2 := keep' b2 v2
        replace v3 := keep' b2 v3
        replace v4 := keep' b2 v4
        replace v5 := keep' b2 v5
        refine wp_region_rely_tail (Keep12 w2.heap.size (sq A k) q) 7 [.val (.agg #[.int .i64 0, .int .i64 0, .int .i64 0, .int .i64 0, .int .i64 0, .int .i64 n, .int .i64 0]), .that (fun W v => ∃ g, v = .slice (some ⟨g, 0, none⟩) 0 0 ∧ w2.heap.size ≤ g ∧ Sns W g 0 []) (fun x y v hxy ⟨g, h1, h2, h3⟩ => ⟨g, h1, h2, hxy.k0 h3⟩), .val (.slice (some ⟨b, 0, none⟩) k cap2), .that (fun W v => ∃ g c, v = .slice (some ⟨g, 0, none⟩) k c ∧ w2.heap.size ≤ g ∧ Sns W g c (sq A k)) (fun x y v hxy ⟨g, c, h1, h2, h3⟩ => ⟨g, c, h1, h2, hxy.k1 h3⟩), .val (.agg #[.int .i64 q.st, .int .i64 q.cl, .int .i64 q.us, .int .i64 q.sm, .int .i64 q.lv, .bool q.op]), .that (fun W v => ∃ g, v = .slice (some ⟨g, 0, none⟩) 1 1 ∧ Sns W g 1 [q]) (fun x y v hxy ⟨g, h1, h3⟩ => ⟨g, h1, hxy.k2 h3⟩), .that (fun W v => ∃ g c, v = .slice (some ⟨g, 0, none⟩) (k + 1) c ∧ Sns W g c (sq A k ++ [q])) (fun x y v hxy ⟨g, c, h1, h3⟩ => ⟨g, c, h1, hxy.k3 h3⟩)] (by kernel_rfl) Keep12.refl Keep12.trans (by decide) (by kernel_rfl) (by kernel_rfl) (by kernel_rfl) (by kernel_rfl) (by kernel_rfl) (by kernel_rfl) ?_
        simp only [List.take_succ_cons, List.take_zero, relyAll, Act.put, List.setIfInBounds_toArray, List.set_cons_zero, List.set_cons_succ]
        refine ⟨?_, ⟨?_, fun _ => ⟨?_, ⟨?_, fun _ => ⟨?_, ⟨?_, fun _ => ⟨?_, fun _ => ?_⟩⟩⟩⟩⟩⟩⟩
        · intro w' hR HF
          refine Or.inl ⟨rfl, ?_⟩
          have z0 := keep' (w := w2.drew) hR.below y0
          have z1 := keep' (w := w2.drew) hR.below y1
          have z2 := keep' (w := w2.drew) hR.below y2
          have z3 := keep' (w := w2.drew) hR.below y3
          have z4 := keep' (w := w2.drew) hR.below y4
          have z5 := keep' (w := w2.drew) hR.below y5
          have z6 := keep' (w := w2.drew) hR.below y6
          go_simp
          exact ⟨Keep12.refl _, rfl⟩
        · intro w' hR HF
          refine Or.inl ⟨rfl, ?_⟩
          have hsz : w2.heap.size ≤ w'.heap.size := hR.below.size
          go_simp
          exact ⟨Keep12.grown hsz (grow_alloc (Below.refl _ _) _), _, rfl, hsz, Sns.zero _⟩
        · intro w' hR HF
          refine Or.inl ⟨rfl, ?_⟩
          go_simp
          exact ⟨Keep12.refl _, rfl⟩
        · intro w' hR HF
          refine Or.inl ⟨rfl, ?_⟩
          have hsz : w2.heap.size ≤ w'.heap.size := hR.below.size
          obtain ⟨g, e1, e2, e3⟩ := HF.1 (by kernel_rfl)
          clear HF
          subst e1
          have S9 : Sns w' b cap2 (sq A k) := hR.k1 HS2.out.drew
          obtain ⟨b', cap', w'', hr, ho, hgr, hb'⟩ := Sns.copy S9 (sq_len A k) e3 (by omega) 32
          exact rely_append (.tmp 45) (.tmp 46) rfl rfl rfl hr (Keep12.grown hsz hgr) ⟨b', cap', rfl, by omega, ho⟩
        · intro w' hR HF
          refine Or.inl ⟨rfl, ?_⟩
          have z0 := keep' (w := w2.drew) hR.below v0
          have z1 := keep' (w := w2.drew) hR.below v1
          have z2 := keep' (w := w2.drew) hR.below v2
          have z3 := keep' (w := w2.drew) hR.below v3
          have z4 := keep' (w := w2.drew) hR.below v4
          have z5 := keep' (w := w2.drew) hR.below v5
          go_simp
          exact ⟨Keep12.refl _, rfl⟩
        · intro w' hR HF
          refine Or.inl ⟨rfl, ?_⟩
          have hsz : w2.heap.size ≤ w'.heap.size := hR.below.size
          clear HF
          exact rely_one (.tmp 48) rfl rfl (Keep12.grown hsz (grow_alloc (Below.refl _ _) _)) ⟨_, rfl, Sns.one _ q⟩
        · intro w' hR HF
          refine Or.inl ⟨rfl, ?_⟩
          have hsz : w2.heap.size ≤ w'.heap.size := hR.below.size
          obtain ⟨g, e1, e2⟩ := HF.1 (by kernel_rfl)
          obtain ⟨d, c, d1, d2, d3⟩ := HF.2.1 (by kernel_rfl)
          clear HF
          subst e1 d1
          obtain ⟨b', cap', w'', hr, ho, hk⟩ := Sns.push (B := w2.heap.size) d3 (sq_len A k) e2 (by omega) d2 hsz 32
          exact rely_append (.tmp 47) (.tmp 49) rfl rfl rfl hr hk ⟨b', cap', rfl, ho⟩
        intro w3 hR HF
        obtain ⟨⟨g6, cap6, rfl, S6⟩, -, -, -⟩ := HF
        have S7 : SnsAt w3 (some ⟨g6, 0, none⟩) (k + 1) (plus A k q) := by have := S6.sns (plus_is A k q); rw [List.length_append, sq_len] at this; exact this
        have g3 : Grown w2 w3 := Grown.trans _ _ _ (Grown.drew _) hR.below
        replace y0 := keep' g3 y0
        replace y1 := keep' g3 y1
        replace y2 := keep' g3 y2
        replace y3 := keep' g3 y3
        replace y4 := keep' g3 y4
        replace y5 := keep' g3 y5
        replace y6 := keep' g3 y6
        replace v0 := keep' g3 v0
        replace v1 := keep' g3 v1
        replace v2 := keep' g3 v2
        replace v3 := keep' g3 v3
        replace v4 := keep' g3 v4
        replace v5 := keep' g3 v5
        have HB3 : Hid (Below w.heap.size w w3) := grow (grow HB.out b2) g3
        have HSa3 : Hid (SnsAt w3 (some ⟨b, 0, none⟩) k (fun i => (A i).cut)) := (HSa.out.grown b2).grown g3
        have HS7 : Hid (SnsAt w3 (some ⟨g6, 0, none⟩) (k + 1) (plus A k q)) := S7
        clear S7 S6 hR HS2 HSa b2 g3
        simp only [List.drop_succ_cons, List.drop_zero]
        cases hm : q.may n
        · rw [hm] at MQ
          have HE : Hid (ra = rb) := by
            unfold Hid
            rw [← HRB.out, if_neg (by rw [hm]; simp)]
          clear hm HRB
          go_wp2_with (first
            | (go_at_call 12; refine (CB.out _ _ _ HS7.out).mono ?_; rintro e w4 ⟨rfl, b4⟩; replace y0 := keep' b4 y0; replace y1 := keep' b4 y1; replace y2 := keep' b4 y2; replace y3 := keep' b4 y3; replace y4 := keep' b4 y4; replace y5 := keep' b4 y5; replace y6 := keep' b4 y6; replace v0 := keep' b4 v0; replace v1 := keep' b4 v1; replace v2 := keep' b4 v2; replace v3 := keep' b4 v3; replace v4 := keep' b4 v4; replace v5 := keep' b4 v5)
            | (go_at_call 10; refine (MQ _).mono ?_; rintro e w5 ⟨rfl, b5⟩)
            | (go_at_call 9; refine (awake12_any _).mono ?_; rintro e w6 ⟨rfl, b6⟩))
          go_ret
          refine ⟨?_, grow (grow (grow HB3.out b4) b5) b6⟩
          have := HE.out
          subst this
          simp
        · rw [hm] at MQ
          have HMq : Hid (q.may n = true) := hm
          clear hm
          go_wp2_with (first
            | (go_at_call 12; refine (CB.out _ _ _ HS7.out).mono ?_; rintro e w4 ⟨rfl, b4⟩; replace y0 := keep' b4 y0; replace y1 := keep' b4 y1; replace y2 := keep' b4 y2; replace y3 := keep' b4 y3; replace y4 := keep' b4 y4; replace y5 := keep' b4 y5; replace y6 := keep' b4 y6; replace v0 := keep' b4 v0; replace v1 := keep' b4 v1; replace v2 := keep' b4 v2; replace v3 := keep' b4 v3; replace v4 := keep' b4 v4; replace v5 := keep' b4 v5)
            | (go_at_call 10; refine (MQ _).mono ?_; rintro e w5 ⟨rfl, b5⟩))
          have Y0 := keep' b5 y0
          have Y1 := keep' b5 y1
          have Y2 := keep' b5 y2
          have Y3 := keep' b5 y3
          have Y4 := keep' b5 y4
          have Y5 := keep' b5 y5
          have Y6 := keep' b5 y6
          have V0 := keep' b5 v0
          have V1 := keep' b5 v1
          have V2 := keep' b5 v2
          have V3 := keep' b5 v3
          have V4 := keep' b5 v4
          have V5 := keep' b5 v5
          have HB5 : Hid (Below w.heap.size w w5) := grow (grow HB3.out b4) b5
          have HSa5 : Hid (SnsAt w5 (some ⟨b, 0, none⟩) k (fun i => (A i).cut)) := (HSa3.out.grown b4).grown b5
          clear y0 y1 y2 y3 y4 y5 y6 v0 v1 v2 v3 v4 v5 b4 b5 MQ HSa3 HS7 HB3 CA CB HS HC HV HB Hb
          go_loopw [13, 14] (fun s13 s14 wy => ∃ (t : Nat) (σ : Bool), t ≤ k ∧ s14 = .int .i64 t ∧ s13 = .bool σ ∧ Hid ((σ = true) ↔ ∀ j, j < t → (A j).cut.may n = true → q.lv < (A j).cut.lv) ∧ Grown w5 wy) (fun _ s14 _ => k - (intOf s14).toNat)
          case atStart => exact ⟨0, true, Nat.zero_le _, rfl, rfl, ⟨fun _ j hj => by omega, fun _ => rfl⟩, Grown.refl _⟩
          case round =>
            obtain ⟨t, σ, htk, rfl, rfl, HT, hg4⟩ := hrel
            have y0 := keep' hg4 Y0
            have y1 := keep' hg4 Y1
            have y2 := keep' hg4 Y2
            have y3 := keep' hg4 Y3
            have y4 := keep' hg4 Y4
            have y5 := keep' hg4 Y5
            have y6 := keep' hg4 Y6
            have v0 := keep' hg4 V0
            have v1 := keep' hg4 V1
            have v2 := keep' hg4 V2
            have v3 := keep' hg4 V3
            have v4 := keep' hg4 V4
            have v5 := keep' hg4 V5
            by_cases ht : t < k
            · have ht' : (t : Int) < (k : Int) := by omega
              have hov : wrap64 ((t : Int) + 1) = ((t + 1 : Nat) : Int) := by unfold wrap64; omega
              have HOt : Hid (wrap64 ((t : Int) + 1) = ((t + 1 : Nat) : Int)) := hov
              clear hov
              obtain ⟨c, hc⟩ : ∃ c, (A t).cut = c := ⟨_, rfl⟩
              have HCt : Hid ((A t).cut = c) := hc
              have hcf := (Sn.cut_small (HA.out t (by omega))).1
              obtain ⟨b', off', eq, r0, r1, r2, r3, r4, r5⟩ := HSa5.out t ht
              cases eq
              simp only [hc, Nat.zero_add] at r0 r1 r2 r3 r4 r5
              have p0 := keep' hg4 r0
              have p1 := keep' hg4 r1
              have p2 := keep' hg4 r2
              have p3 := keep' hg4 r3
              have p4 := keep' hg4 r4
              have p5 := keep' hg4 r5
              rw [hc] at hcf
              have Mc := fun W => may_any 0 0 0 0 0 n 0 (by unfold Fit; omega) c hcf W
              clear hc hcf r0 r1 r2 r3 r4 r5
              cases σ
              · have HX : Hid (((false : Bool) = true) ↔ ∀ j, j < t + 1 → (A j).cut.may n = true → q.lv < (A j).cut.lv) := ⟨(fun h => by cases h), fun h => HT.out.2 fun j hj => h j (by omega)⟩
                clear HT
                go_wp2_with fail
                refine wp_region_rely_tail Grown 20 [.val (.bool false), .val (.bool false), .val undef, .val undef, .val undef, .val undef, .val undef, .val undef, .val undef, .val undef, .val undef, .val undef, .val undef, .val undef, .val undef, .val undef, .val undef, .val undef, .val undef, .val (.bool false)] (by kernel_rfl) Grown.refl Grown.trans (by decide) (by kernel_rfl) (by kernel_rfl) (by kernel_rfl) (by kernel_rfl) (by kernel_rfl) (by kernel_rfl) ?_
                simp only [List.take_succ_cons, List.take_zero, relyAll, Act.put, List.setIfInBounds_toArray, List.set_cons_zero, List.set_cons_succ]
                refine ⟨?_, ?_, ?_, ?_, ?_, ?_, ?_, ?_, ?_, ?_, ?_, ?_, ?_, ?_, ?_, ?_, ?_, ?_, ?_, ?_, ?_⟩
                · intro w' hg _
                  refine Or.inl ⟨rfl, ?_⟩
                  go_simp
                  exact ⟨Grown.refl _, rfl⟩
                · intro w' hg _
                  refine Or.inl ⟨rfl, ?_⟩
                  go_simp
                  exact ⟨Grown.refl _, rfl⟩
                · intro w' hg _
                  exact Or.inr ⟨rfl, rfl⟩
                · intro w' hg _
                  exact Or.inr ⟨rfl, rfl⟩
                · intro w' hg _
                  exact Or.inr ⟨rfl, rfl⟩
                · intro w' hg _
                  exact Or.inr ⟨rfl, rfl⟩
                · intro w' hg _
                  exact Or.inr ⟨rfl, rfl⟩
                · intro w' hg _
                  exact Or.inr ⟨rfl, rfl⟩
                · intro w' hg _
                  exact Or.inr ⟨rfl, rfl⟩
                · intro w' hg _
                  exact Or.inr ⟨rfl, rfl⟩
                · intro w' hg _
                  exact Or.inr ⟨rfl, rfl⟩
                · intro w' hg _
                  exact Or.inr ⟨rfl, rfl⟩
                · intro w' hg _
                  exact Or.inr ⟨rfl, rfl⟩
                · intro w' hg _
                  exact Or.inr ⟨rfl, rfl⟩
                · intro w' hg _
                  exact Or.inr ⟨rfl, rfl⟩
                · intro w' hg _
                  exact Or.inr ⟨rfl, rfl⟩
                · intro w' hg _
                  exact Or.inr ⟨rfl, rfl⟩
                · intro w' hg _
                  exact Or.inr ⟨rfl, rfl⟩
                · intro w' hg _
                  exact Or.inr ⟨rfl, rfl⟩
                · intro w' hg _
                  refine Or.inl ⟨rfl, ?_⟩
                  go_simp
                  exact ⟨Grown.refl _, rfl⟩
                intro w2 hg _
                have hg5 := Grown.trans _ _ _ hg4 (Grown.trans _ _ _ (Grown.drew _) hg)
                go_wp2
                go_roundw
                case rel => exact ⟨t + 1, false, by omega, by first | rfl | (exact congrArg (Value.int .i64) HOt.out) | go_num, rfl, (by have := HX.out; unfold Hid; simpa using this), hg5⟩
                case measure => simp [intOf]; omega
              · cases hm : c.may n
                · rw [hm] at Mc
                  have HX : Hid (((true : Bool) = true) ↔ ∀ j, j < t + 1 → (A j).cut.may n = true → q.lv < (A j).cut.lv) := ⟨fun _ j hj e => by
                    by_cases ej : j = t
                    · subst ej; rw [HCt.out, hm] at e; cases e
                    · exact HT.out.1 rfl j (by omega) e, fun _ => rfl⟩
                  clear HT hm
                  go_wp2_with fail
                  refine wp_region_rely_tail Grown 20 [.val (.bool true), .val (.bool true), .val (.agg #[.int .i64 0, .int .i64 0, .int .i64 0, .int .i64 0, .int .i64 0, .int .i64 n, .int .i64 0]), .val (.slice (some ⟨b, 0, none⟩) k cap2), .val (.int .i64 t), .val (.pointer (some ⟨b, t * 6, none⟩)), .val (.agg #[.int .i64 c.st, .int .i64 c.cl, .int .i64 c.us, .int .i64 c.sm, .int .i64 c.lv, .bool c.op]), .val (.bool false), .val (.bool true), .val (.bool true), .val undef, .val undef, .val undef, .val undef, .val undef, .val undef, .val undef, .val undef, .val (.bool true), .val (.bool true)] (by kernel_rfl) Grown.refl Grown.trans (by decide) (by kernel_rfl) (by kernel_rfl) (by kernel_rfl) (by kernel_rfl) (by kernel_rfl) (by kernel_rfl) ?_
                  simp only [List.take_succ_cons, List.take_zero, relyAll, Act.put, List.setIfInBounds_toArray, List.set_cons_zero, List.set_cons_succ]
                  refine ⟨?_, ?_, ?_, ?_, ?_, ?_, ?_, ?_, ?_, ?_, ?_, ?_, ?_, ?_, ?_, ?_, ?_, ?_, ?_, ?_, ?_⟩
                  · intro w' hg _
                    refine Or.inl ⟨rfl, ?_⟩
                    go_simp
                    exact ⟨Grown.refl _, rfl⟩
                  · intro w' hg _
                    refine Or.inl ⟨rfl, ?_⟩
                    go_simp
                    exact ⟨Grown.refl _, rfl⟩
                  · intro w' hg _
                    refine Or.inl ⟨rfl, ?_⟩
                    have z0 := keep' hg y0
                    have z1 := keep' hg y1
                    have z2 := keep' hg y2
                    have z3 := keep' hg y3
                    have z4 := keep' hg y4
                    have z5 := keep' hg y5
                    have z6 := keep' hg y6
                    go_simp
                    exact ⟨Grown.refl _, rfl⟩
                  · intro w' hg _
                    refine Or.inl ⟨rfl, ?_⟩
                    go_simp
                    exact ⟨Grown.refl _, rfl⟩
                  · intro w' hg _
                    refine Or.inl ⟨rfl, ?_⟩
                    go_simp
                    exact ⟨Grown.refl _, rfl⟩
                  · intro w' hg _
                    refine Or.inl ⟨rfl, ?_⟩
                    go_simp
                    exact ⟨Grown.refl _, rfl⟩
                  · intro w' hg _
                    refine Or.inl ⟨rfl, ?_⟩
                    have z0 := keep' hg p0
                    have z1 := keep' hg p1
                    have z2 := keep' hg p2
                    have z3 := keep' hg p3
                    have z4 := keep' hg p4
                    have z5 := keep' hg p5
                    go_simp
                    exact ⟨Grown.refl _, rfl⟩
                  · intro w' hg _
                    refine Or.inl ⟨rfl, ?_⟩
                    go_simp
                    refine (Mc _).mono ?_
                    rintro e w'' ⟨rfl, b9⟩
                    exact ⟨_, rfl, b9, rfl⟩
                  · intro w' hg _
                    refine Or.inl ⟨rfl, ?_⟩
                    go_simp
                    exact ⟨Grown.refl _, rfl⟩
                  · intro w' hg _
                    refine Or.inl ⟨rfl, ?_⟩
                    go_simp
                    exact ⟨Grown.refl _, rfl⟩
                  · intro w' hg _
                    exact Or.inr ⟨rfl, rfl⟩
                  · intro w' hg _
                    exact Or.inr ⟨rfl, rfl⟩
                  · intro w' hg _
                    exact Or.inr ⟨rfl, rfl⟩
                  · intro w' hg _
                    exact Or.inr ⟨rfl, rfl⟩
                  · intro w' hg _
                    exact Or.inr ⟨rfl, rfl⟩
                  · intro w' hg _
                    exact Or.inr ⟨rfl, rfl⟩
                  · intro w' hg _
                    exact Or.inr ⟨rfl, rfl⟩
                  · intro w' hg _
                    exact Or.inr ⟨rfl, rfl⟩
                  · intro w' hg _
                    refine Or.inl ⟨rfl, ?_⟩
                    go_simp
                    exact ⟨Grown.refl _, rfl⟩
                  · intro w' hg _
                    refine Or.inl ⟨rfl, ?_⟩
                    go_simp
                    exact ⟨Grown.refl _, rfl⟩
                  intro w2 hg _
                  have hg5 := Grown.trans _ _ _ hg4 (Grown.trans _ _ _ (Grown.drew _) hg)
                  go_wp2
                  go_roundw
                  case rel => exact ⟨t + 1, true, by omega, by first | rfl | (exact congrArg (Value.int .i64) HOt.out) | go_num, rfl, (by have := HX.out; unfold Hid; simpa using this), hg5⟩
                  case measure => simp [intOf]; omega
                · rw [hm] at Mc
                  by_cases hl : q.lv < c.lv
                  · have hd : decide (q.lv < c.lv) = true := decide_eq_true hl
                    have HX : Hid (((true : Bool) = true) ↔ ∀ j, j < t + 1 → (A j).cut.may n = true → q.lv < (A j).cut.lv) := ⟨fun _ j hj e => by
                      by_cases ej : j = t
                      · subst ej; rw [HCt.out]; exact hl
                      · exact HT.out.1 rfl j (by omega) e, fun _ => rfl⟩
                    clear HT hm
                    go_wp2_with fail
                    refine wp_region_rely_tail Grown 20 [.val (.bool true), .val (.bool true), .val (.agg #[.int .i64 0, .int .i64 0, .int .i64 0, .int .i64 0, .int .i64 0, .int .i64 n, .int .i64 0]), .val (.slice (some ⟨b, 0, none⟩) k cap2), .val (.int .i64 t), .val (.pointer (some ⟨b, t * 6, none⟩)), .val (.agg #[.int .i64 c.st, .int .i64 c.cl, .int .i64 c.us, .int .i64 c.sm, .int .i64 c.lv, .bool c.op]), .val (.bool true), .val (.bool false), .val (.bool false), .val (.slice (some ⟨b, 0, none⟩) k cap2), .val (.int .i64 t), .val (.pointer (some ⟨b, t * 6, none⟩)), .val (.pointer (some ⟨b, t * 6 + 4, none⟩)), .val (.int .i64 c.lv), .val (.pointer (some ⟨C + 1, 4, none⟩)), .val (.int .i64 q.lv), .val (.bool true), .val (.bool true), .val (.bool true)] (by kernel_rfl) Grown.refl Grown.trans (by decide) (by kernel_rfl) (by kernel_rfl) (by kernel_rfl) (by kernel_rfl) (by kernel_rfl) (by kernel_rfl) ?_
                    simp only [List.take_succ_cons, List.take_zero, relyAll, Act.put, List.setIfInBounds_toArray, List.set_cons_zero, List.set_cons_succ]
                    refine ⟨?_, ?_, ?_, ?_, ?_, ?_, ?_, ?_, ?_, ?_, ?_, ?_, ?_, ?_, ?_, ?_, ?_, ?_, ?_, ?_, ?_⟩
                    · intro w' hg _
                      refine Or.inl ⟨rfl, ?_⟩
                      go_simp
                      exact ⟨Grown.refl _, rfl⟩
                    · intro w' hg _
                      refine Or.inl ⟨rfl, ?_⟩
                      go_simp
                      exact ⟨Grown.refl _, rfl⟩
                    · intro w' hg _
                      refine Or.inl ⟨rfl, ?_⟩
                      have z0 := keep' hg y0
                      have z1 := keep' hg y1
                      have z2 := keep' hg y2
                      have z3 := keep' hg y3
                      have z4 := keep' hg y4
                      have z5 := keep' hg y5
                      have z6 := keep' hg y6
                      go_simp
                      exact ⟨Grown.refl _, rfl⟩
                    · intro w' hg _
                      refine Or.inl ⟨rfl, ?_⟩
                      go_simp
                      exact ⟨Grown.refl _, rfl⟩
                    · intro w' hg _
                      refine Or.inl ⟨rfl, ?_⟩
                      go_simp
                      exact ⟨Grown.refl _, rfl⟩
                    · intro w' hg _
                      refine Or.inl ⟨rfl, ?_⟩
                      go_simp
                      exact ⟨Grown.refl _, rfl⟩
                    · intro w' hg _
                      refine Or.inl ⟨rfl, ?_⟩
                      have z0 := keep' hg p0
                      have z1 := keep' hg p1
                      have z2 := keep' hg p2
                      have z3 := keep' hg p3
                      have z4 := keep' hg p4
                      have z5 := keep' hg p5
                      go_simp
                      exact ⟨Grown.refl _, rfl⟩
                    · intro w' hg _
                      refine Or.inl ⟨rfl, ?_⟩
                      go_simp
                      refine (Mc _).mono ?_
                      rintro e w'' ⟨rfl, b9⟩
                      exact ⟨_, rfl, b9, rfl⟩
                    · intro w' hg _
                      refine Or.inl ⟨rfl, ?_⟩
                      go_simp
                      exact ⟨Grown.refl _, rfl⟩
                    · intro w' hg _
                      refine Or.inl ⟨rfl, ?_⟩
                      go_simp
                      exact ⟨Grown.refl _, rfl⟩
                    · intro w' hg _
                      refine Or.inl ⟨rfl, ?_⟩
                      go_simp
                      exact ⟨Grown.refl _, rfl⟩
                    · intro w' hg _
                      refine Or.inl ⟨rfl, ?_⟩
                      go_simp
                      exact ⟨Grown.refl _, rfl⟩
                    · intro w' hg _
                      refine Or.inl ⟨rfl, ?_⟩
                      go_simp
                      exact ⟨Grown.refl _, rfl⟩
                    · intro w' hg _
                      refine Or.inl ⟨rfl, ?_⟩
                      go_simp
                      exact ⟨Grown.refl _, rfl⟩
                    · intro w' hg _
                      refine Or.inl ⟨rfl, ?_⟩
                      have z0 := keep' hg p4
                      go_simp
                      exact ⟨Grown.refl _, rfl⟩
                    · intro w' hg _
                      refine Or.inl ⟨rfl, ?_⟩
                      go_simp
                      exact ⟨Grown.refl _, rfl⟩
                    · intro w' hg _
                      refine Or.inl ⟨rfl, ?_⟩
                      have z0 := keep' hg v4
                      go_simp
                      exact ⟨Grown.refl _, rfl⟩
                    · intro w' hg _
                      refine Or.inl ⟨rfl, ?_⟩
                      go_simp
                      exact ⟨Grown.refl _, rfl⟩
                    · intro w' hg _
                      refine Or.inl ⟨rfl, ?_⟩
                      go_simp
                      exact ⟨Grown.refl _, rfl⟩
                    · intro w' hg _
                      refine Or.inl ⟨rfl, ?_⟩
                      go_simp
                      exact ⟨Grown.refl _, rfl⟩
                    intro w2 hg _
                    have hg5 := Grown.trans _ _ _ hg4 (Grown.trans _ _ _ (Grown.drew _) hg)
                    go_wp2
                    go_roundw
                    case rel => exact ⟨t + 1, true, by omega, by first | rfl | (exact congrArg (Value.int .i64) HOt.out) | go_num, rfl, (by have := HX.out; unfold Hid; simpa using this), hg5⟩
                    case measure => simp [intOf]; omega
                  · have hd : decide (q.lv < c.lv) = false := decide_eq_false hl
                    have HX : Hid (((false : Bool) = true) ↔ ∀ j, j < t + 1 → (A j).cut.may n = true → q.lv < (A j).cut.lv) := ⟨(fun h => by cases h), fun h => by
                      have := h t (by omega) (by rw [HCt.out]; exact hm)
                      rw [HCt.out] at this
                      exact absurd this hl⟩
                    clear HT hm
                    go_wp2_with fail
                    refine wp_region_rely_tail Grown 20 [.val (.bool true), .val (.bool true), .val (.agg #[.int .i64 0, .int .i64 0, .int .i64 0, .int .i64 0, .int .i64 0, .int .i64 n, .int .i64 0]), .val (.slice (some ⟨b, 0, none⟩) k cap2), .val (.int .i64 t), .val (.pointer (some ⟨b, t * 6, none⟩)), .val (.agg #[.int .i64 c.st, .int .i64 c.cl, .int .i64 c.us, .int .i64 c.sm, .int .i64 c.lv, .bool c.op]), .val (.bool true), .val (.bool false), .val (.bool false), .val (.slice (some ⟨b, 0, none⟩) k cap2), .val (.int .i64 t), .val (.pointer (some ⟨b, t * 6, none⟩)), .val (.pointer (some ⟨b, t * 6 + 4, none⟩)), .val (.int .i64 c.lv), .val (.pointer (some ⟨C + 1, 4, none⟩)), .val (.int .i64 q.lv), .val (.bool false), .val (.bool false), .val (.bool false)] (by kernel_rfl) Grown.refl Grown.trans (by decide) (by kernel_rfl) (by kernel_rfl) (by kernel_rfl) (by kernel_rfl) (by kernel_rfl) (by kernel_rfl) ?_
                    simp only [List.take_succ_cons, List.take_zero, relyAll, Act.put, List.setIfInBounds_toArray, List.set_cons_zero, List.set_cons_succ]
                    refine ⟨?_, ?_, ?_, ?_, ?_, ?_, ?_, ?_, ?_, ?_, ?_, ?_, ?_, ?_, ?_, ?_, ?_, ?_, ?_, ?_, ?_⟩
                    · intro w' hg _
                      refine Or.inl ⟨rfl, ?_⟩
                      go_simp
                      exact ⟨Grown.refl _, rfl⟩
                    · intro w' hg _
                      refine Or.inl ⟨rfl, ?_⟩
                      go_simp
                      exact ⟨Grown.refl _, rfl⟩
                    · intro w' hg _
                      refine Or.inl ⟨rfl, ?_⟩
                      have z0 := keep' hg y0
                      have z1 := keep' hg y1
                      have z2 := keep' hg y2
                      have z3 := keep' hg y3
                      have z4 := keep' hg y4
                      have z5 := keep' hg y5
                      have z6 := keep' hg y6
                      go_simp
                      exact ⟨Grown.refl _, rfl⟩
                    · intro w' hg _
                      refine Or.inl ⟨rfl, ?_⟩
                      go_simp
                      exact ⟨Grown.refl _, rfl⟩
                    · intro w' hg _
                      refine Or.inl ⟨rfl, ?_⟩
                      go_simp
                      exact ⟨Grown.refl _, rfl⟩
                    · intro w' hg _
                      refine Or.inl ⟨rfl, ?_⟩
                      go_simp
                      exact ⟨Grown.refl _, rfl⟩
                    · intro w' hg _
                      refine Or.inl ⟨rfl, ?_⟩
                      have z0 := keep' hg p0
                      have z1 := keep' hg p1
                      have z2 := keep' hg p2
                      have z3 := keep' hg p3
                      have z4 := keep' hg p4
                      have z5 := keep' hg p5
                      go_simp
                      exact ⟨Grown.refl _, rfl⟩
                    · intro w' hg _
                      refine Or.inl ⟨rfl, ?_⟩
                      go_simp
                      refine (Mc _).mono ?_
                      rintro e w'' ⟨rfl, b9⟩
                      exact ⟨_, rfl, b9, rfl⟩
                    · intro w' hg _
                      refine Or.inl ⟨rfl, ?_⟩
                      go_simp
                      exact ⟨Grown.refl _, rfl⟩
                    · intro w' hg _
                      refine Or.inl ⟨rfl, ?_⟩
                      go_simp
                      exact ⟨Grown.refl _, rfl⟩
                    · intro w' hg _
                      refine Or.inl ⟨rfl, ?_⟩
                      go_simp
                      exact ⟨Grown.refl _, rfl⟩
                    · intro w' hg _
                      refine Or.inl ⟨rfl, ?_⟩
                      go_simp
                      exact ⟨Grown.refl _, rfl⟩
                    · intro w' hg _
                      refine Or.inl ⟨rfl, ?_⟩
                      go_simp
                      exact ⟨Grown.refl _, rfl⟩
                    · intro w' hg _
                      refine Or.inl ⟨rfl, ?_⟩
                      go_simp
                      exact ⟨Grown.refl _, rfl⟩
                    · intro w' hg _
                      refine Or.inl ⟨rfl, ?_⟩
                      have z0 := keep' hg p4
                      go_simp
                      exact ⟨Grown.refl _, rfl⟩
                    · intro w' hg _
                      refine Or.inl ⟨rfl, ?_⟩
                      go_simp
                      exact ⟨Grown.refl _, rfl⟩
                    · intro w' hg _
                      refine Or.inl ⟨rfl, ?_⟩
                      have z0 := keep' hg v4
                      go_simp
                      exact ⟨Grown.refl _, rfl⟩
                    · intro w' hg _
                      refine Or.inl ⟨rfl, ?_⟩
                      go_simp
                      exact ⟨Grown.refl _, rfl⟩
                    · intro w' hg _
                      refine Or.inl ⟨rfl, ?_⟩
                      go_simp
                      exact ⟨Grown.refl _, rfl⟩
                    · intro w' hg _
                      refine Or.inl ⟨rfl, ?_⟩
                      go_simp
                      exact ⟨Grown.refl _, rfl⟩
                    intro w2 hg _
                    have hg5 := Grown.trans _ _ _ hg4 (Grown.trans _ _ _ (Grown.drew _) hg)
                    go_wp2
                    go_roundw
                    case rel => exact ⟨t + 1, false, by omega, by first | rfl | (exact congrArg (Value.int .i64) HOt.out) | go_num, rfl, (by have := HX.out; unfold Hid; simpa using this), hg5⟩
                    case measure => simp [intOf]; omega
            · have ht' : ¬ (t : Int) < (k : Int) := by omega
              have HTk : Hid (t = k) := by unfold Hid; omega
              cases σ
              · have HE : Hid (ra = rb) := by
                  unfold Hid
                  rw [← HRB.out, if_neg]
                  rintro ⟨-, h⟩
                  have := HT.out.2 (by rw [HTk.out]; exact h)
                  cases this
                clear HT HRB
                go_wp2_with (go_at_call 9; refine (awake12_any _).mono ?_; rintro e w6 ⟨rfl, b6⟩)
                go_ret
                refine ⟨?_, grow (grow HB5.out hg4) b6⟩
                have := HE.out
                subst this
                simp
              · have HE : Hid ((k : Int) = rb) := by
                  unfold Hid
                  rw [← HRB.out, if_pos]
                  have := HT.out.1 rfl
                  rw [HTk.out] at this
                  exact ⟨HMq.out, this⟩
                clear HT HRB
                go_wp2_with (go_at_call 9; refine (awake12_any _).mono ?_; rintro e w6 ⟨rfl, b6⟩)
                go_ret
                refine ⟨?_, grow (grow HB5.out hg4) b6⟩
                have := HE.out
                subst this
                simp

end Go.Proofs.Ytlefbdbafmmoiaa
