/- PolicyChoose answers true for every number and slice of chunks, and leaves what was in memory. -/
import Derived.Test.YtlefbdbafmmoiaaPolSmall
namespace Go.Proofs.Ytlefbdbafmmoiaa
open Go.RowKit

set_option maxRecDepth 20000 in
set_option maxHeartbeats 4000000 in
theorem policyChoose_any (sparse : Int) (ao : Option Addr) (N cap : Nat) (A : Nat → Sn) (hA : ∀ i, i < N → SnFit (A i)) (w : World) (hr : SnsAt w ao N A) :
    Calls Try.prog 4 #[.int .i64 sparse, .slice ao N cap] w fun e w' => e = .returned (.bool true) ∧ Below w.heap.size w w' := by
  have HR : Hid (SnsAt w ao N A) := hr
  have HA : Hid (∀ i, i < N → SnFit (A i)) := hA
  obtain ⟨n, hn, n0, n1⟩ := sparse_any sparse
  clear hr hA
  go_enter Try.func4, Try.ntmps4
  go_wp2
  clear hn
  have S0 : Hid (Sns (w.alloc (.cells #[] 25)) w.heap.size 0 (sq A 0)) := Sns.zero w
  go_loopw [6, 7, 8] (fun s6 s7 s8 wr => ∃ (k b cap2 : Nat) (r : Int), k ≤ N ∧ k ≤ 64 ∧ s8 = .int .i64 k ∧ s6 = .slice (some ⟨b, 0, none⟩) k cap2 ∧ s7 = .int .i64 r ∧ Hid (Sns wr b cap2 (sq A k)) ∧ Hid (w.heap.size ≤ b) ∧ Hid (Pick k (fun i => (A i).cut.may n) (fun i => (A i).cut.lv) r) ∧ Hid (Below w.heap.size w wr)) (fun _ _ s8 _ => 64 - (intOf s8).toNat)
  case atStart => exact ⟨0, w.heap.size, 0, -1, Nat.zero_le _, by omega, rfl, rfl, rfl, S0, Nat.le_refl _, Pick.none0 _ _, grow_alloc (Below.refl _ _) _⟩
  case round =>
    clear S0
    obtain ⟨k, b, cap2, r, hkN, hk6, rfl, rfl, rfl, HS, Hb, HP, HB⟩ := hrel
    by_cases h1 : k < N
    · by_cases h2 : k < 64
      · have h1' : (k : Int) < (N : Int) := by omega
        have h2' : (k : Int) < 64 := by omega
        obtain ⟨xb, xo, rfl, t0, t1, t2, t3, t4, t5⟩ := HR.out k h1
        have x0 := keep' HB.out t0
        have x1 := keep' HB.out t1
        have x2 := keep' HB.out t2
        have x3 := keep' HB.out t3
        have x4 := keep' HB.out t4
        have x5 := keep' HB.out t5
        clear t0 t1 t2 t3 t4 t5
        have hSm := Sn.cut_small (HA.out k h1)
        obtain ⟨c, hc⟩ : ∃ c, (A k).cut = c := ⟨_, rfl⟩
        rw [hc] at hSm
        have SE := fun w => seen_is hc w
        have M2 := fun w => may2_any n n0 n1 c hSm w
        have HC : Hid ((A k).cut = c) := hc
        have hov : wrap64 ((k : Int) + 1) = ((k + 1 : Nat) : Int) := by unfold wrap64; omega
        have HO : Hid (wrap64 ((k : Int) + 1) = ((k + 1 : Nat) : Int)) := hov
        clear hov hc hSm
        go_wp2_with (first
          | (go_at_call 8; refine (SE _).mono ?_; rintro e w2 ⟨rfl, b2⟩; obtain ⟨b3, cap3, w3, hrun, S3, O3, hb3⟩ := Sns.more ((HS.out.grown b2).alloc (.cells #[.int .i64 c.st, .int .i64 c.cl, .int .i64 c.us, .int .i64 c.sm, .int .i64 c.lv, .bool c.op] 25)) (sq_len A k) (Sns.one w2 c) (by omega) 32)
          | (at_builtin; refine wpList_ran rfl (.tmp 24) (.tmp 30) rfl rfl rfl hrun ?_))
        have HB3 : Hid (Below w.heap.size w w3) := below_own (grow_alloc (grow HB.out b2) _) O3 Hb.out
        have Hb3 : Hid (w.heap.size ≤ b3) := by
          have e1 := (grow HB.out b2).size
          have e2 := Hb.out
          unfold Hid
          rw [Go.Deep.nblk_alloc] at hb3
          omega
        have e3 : sq A k ++ [c] = sq A (k + 1) := by rw [sq_succ, HC.out]
        rw [e3] at S3
        have HS3 : Hid (Sns w3 b3 cap3 (sq A (k + 1))) := S3
        obtain ⟨p0, p1, p2, p3, p4, p5⟩ := S3.at' (i := k) (q := c) (by rw [sq_at A (by omega), HC.out])
        clear hrun O3 hb3 e3 x0 x1 x2 x3 x4 x5 SE S3 b2
        have hmm : ∀ r', Pick (k + 1) (fun i => (A i).cut.may n) (fun i => (A i).cut.lv) (if (A k).cut.may n = true ∧ (r < 0 ∨ (A k).cut.lv < (A r.toNat).cut.lv) then (k : Int) else r) → (if (A k).cut.may n = true ∧ (r < 0 ∨ (A k).cut.lv < (A r.toNat).cut.lv) then (k : Int) else r) = r' → Pick (k + 1) (fun i => (A i).cut.may n) (fun i => (A i).cut.lv) r' := fun r' h e => e ▸ h
        have HM : Hid (∀ r', (if (A k).cut.may n = true ∧ (r < 0 ∨ (A k).cut.lv < (A r.toNat).cut.lv) then (k : Int) else r) = r' → Pick (k + 1) (fun i => (A i).cut.may n) (fun i => (A i).cut.lv) r') := fun r' => hmm r' HP.out.more
        clear hmm
        have hkk : (k : Int) < (k : Int) + 1 := by omega
        cases hm : c.may n
        · rw [hm] at M2
          have HP3 : Hid (Pick (k + 1) (fun i => (A i).cut.may n) (fun i => (A i).cut.lv) r) := HM.out r (if_neg (by rw [HC.out, hm]; simp))
          clear hm
          refine wp_region_rely Grown [.val (.int .i64 n), .val (.slice (some ⟨b3, 0, none⟩) (k + 1) cap3), .val (.int .i64 k), .val (.pointer (some ⟨b3, k * 6, none⟩)), .val (.agg #[.int .i64 c.st, .int .i64 c.cl, .int .i64 c.us, .int .i64 c.sm, .int .i64 c.lv, .bool c.op]), .val (.bool false), .val (.bool false), .val undef, .val undef, .val undef, .val undef, .val undef, .val undef, .val undef, .val undef, .val undef, .val undef, .val undef, .val undef, .val undef, .val undef, .val undef, .val (.bool false)] (by kernel_rfl) Grown.refl Grown.trans (by kernel_rfl) (by kernel_rfl) (by kernel_rfl) ?_
          simp only [relyAll, Act.put, List.setIfInBounds_toArray, List.set_cons_zero, List.set_cons_succ]
          refine ⟨?_, ?_, ?_, ?_, ?_, ?_, ?_, ?_, ?_, ?_, ?_, ?_, ?_, ?_, ?_, ?_, ?_, ?_, ?_, ?_, ?_, ?_, ?_, ?_⟩
          · intro w' hg _
            refine Or.inl ⟨rfl, ?_⟩
            go_simp
            exact ⟨Grown.refl _, rfl⟩
          · intro w' hg _
            refine Or.inl ⟨rfl, ?_⟩
            go_simp
            exact ⟨Grown.refl _, rfl⟩
          · intro w' hg _
            refine Or.inl ⟨rfl, ?_⟩
            go_simp
            exact ⟨Grown.refl _, rfl⟩
          · intro w' hg _
            refine Or.inl ⟨rfl, ?_⟩
            go_simp
            exact ⟨Grown.refl _, rfl⟩
          · intro w' hg _
            refine Or.inl ⟨rfl, ?_⟩
            have z0 := keep' hg p0
            have z1 := keep' hg p1
            have z2 := keep' hg p2
            have z3 := keep' hg p3
            have z4 := keep' hg p4
            have z5 := keep' hg p5
            go_simp
            exact ⟨Grown.refl _, rfl⟩
          · intro w' hg _
            refine Or.inl ⟨rfl, ?_⟩
            go_simp
            refine (M2 _).mono ?_
            rintro e w'' ⟨rfl, b9⟩
            exact ⟨_, rfl, b9, rfl⟩
          · intro w' hg _
            refine Or.inl ⟨rfl, ?_⟩
            go_simp
            exact ⟨Grown.refl _, rfl⟩
          · intro w' hg _
            exact Or.inr ⟨rfl, rfl⟩
          · intro w' hg _
            exact Or.inr ⟨rfl, rfl⟩
          · intro w' hg _
            exact Or.inr ⟨rfl, rfl⟩
          · intro w' hg _
            exact Or.inr ⟨rfl, rfl⟩
          · intro w' hg _
            exact Or.inr ⟨rfl, rfl⟩
          · intro w' hg _
            exact Or.inr ⟨rfl, rfl⟩
          · intro w' hg _
            exact Or.inr ⟨rfl, rfl⟩
          · intro w' hg _
            exact Or.inr ⟨rfl, rfl⟩
          · intro w' hg _
            exact Or.inr ⟨rfl, rfl⟩
          · intro w' hg _
            exact Or.inr ⟨rfl, rfl⟩
          · intro w' hg _
            exact Or.inr ⟨rfl, rfl⟩
          · intro w' hg _
            exact Or.inr ⟨rfl, rfl⟩
          · intro w' hg _
            exact Or.inr ⟨rfl, rfl⟩
          · intro w' hg _
            exact Or.inr ⟨rfl, rfl⟩
          · intro w' hg _
            exact Or.inr ⟨rfl, rfl⟩
          · intro w' hg _
            refine Or.inl ⟨rfl, ?_⟩
            go_simp
            exact ⟨Grown.refl _, rfl⟩
          intro w2 hg _
          go_wp2
          go_roundw
          case rel => exact ⟨k + 1, b3, cap3, r, by omega, by omega, by first | rfl | (exact congrArg (Value.int .i64) HO.out) | go_num, rfl, rfl, HS3.out.grown (Grown.trans _ _ _ (Grown.drew _) hg), Hb3, HP3, grow HB3.out (Grown.trans _ _ _ (Grown.drew _) hg)⟩
          case measure => simp [intOf]; omega
        · rw [hm] at M2
          rcases HP.out.bd with rfl | ⟨j, hj, rfl, hmj⟩
          · have HP3 : Hid (Pick (k + 1) (fun i => (A i).cut.may n) (fun i => (A i).cut.lv) k) := HM.out k (if_pos ⟨by rw [HC.out, hm], Or.inl (by omega)⟩)
            clear hm
            refine wp_region_rely Grown [.val (.int .i64 n), .val (.slice (some ⟨b3, 0, none⟩) (k + 1) cap3), .val (.int .i64 k), .val (.pointer (some ⟨b3, k * 6, none⟩)), .val (.agg #[.int .i64 c.st, .int .i64 c.cl, .int .i64 c.us, .int .i64 c.sm, .int .i64 c.lv, .bool c.op]), .val (.bool true), .val (.bool true), .val (.int .i64 (-1)), .val (.bool true), .val (.bool true), .val undef, .val undef, .val undef, .val undef, .val undef, .val undef, .val undef, .val undef, .val undef, .val undef, .val undef, .val (.bool true), .val (.bool true)] (by kernel_rfl) Grown.refl Grown.trans (by kernel_rfl) (by kernel_rfl) (by kernel_rfl) ?_
            simp only [relyAll, Act.put, List.setIfInBounds_toArray, List.set_cons_zero, List.set_cons_succ]
            refine ⟨?_, ?_, ?_, ?_, ?_, ?_, ?_, ?_, ?_, ?_, ?_, ?_, ?_, ?_, ?_, ?_, ?_, ?_, ?_, ?_, ?_, ?_, ?_, ?_⟩
            · intro w' hg _
              refine Or.inl ⟨rfl, ?_⟩
              go_simp
              exact ⟨Grown.refl _, rfl⟩
            · intro w' hg _
              refine Or.inl ⟨rfl, ?_⟩
              go_simp
              exact ⟨Grown.refl _, rfl⟩
            · intro w' hg _
              refine Or.inl ⟨rfl, ?_⟩
              go_simp
              exact ⟨Grown.refl _, rfl⟩
            · intro w' hg _
              refine Or.inl ⟨rfl, ?_⟩
              go_simp
              exact ⟨Grown.refl _, rfl⟩
            · intro w' hg _
              refine Or.inl ⟨rfl, ?_⟩
              have z0 := keep' hg p0
              have z1 := keep' hg p1
              have z2 := keep' hg p2
              have z3 := keep' hg p3
              have z4 := keep' hg p4
              have z5 := keep' hg p5
              go_simp
              exact ⟨Grown.refl _, rfl⟩
            · intro w' hg _
              refine Or.inl ⟨rfl, ?_⟩
              go_simp
              refine (M2 _).mono ?_
              rintro e w'' ⟨rfl, b9⟩
              exact ⟨_, rfl, b9, rfl⟩
            · intro w' hg _
              refine Or.inl ⟨rfl, ?_⟩
              go_simp
              exact ⟨Grown.refl _, rfl⟩
            · intro w' hg _
              refine Or.inl ⟨rfl, ?_⟩
              go_simp
              exact ⟨Grown.refl _, rfl⟩
            · intro w' hg _
              refine Or.inl ⟨rfl, ?_⟩
              go_simp
              exact ⟨Grown.refl _, rfl⟩
            · intro w' hg _
              refine Or.inl ⟨rfl, ?_⟩
              go_simp
              exact ⟨Grown.refl _, rfl⟩
            · intro w' hg _
              exact Or.inr ⟨rfl, rfl⟩
            · intro w' hg _
              exact Or.inr ⟨rfl, rfl⟩
            · intro w' hg _
              exact Or.inr ⟨rfl, rfl⟩
            · intro w' hg _
              exact Or.inr ⟨rfl, rfl⟩
            · intro w' hg _
              exact Or.inr ⟨rfl, rfl⟩
            · intro w' hg _
              exact Or.inr ⟨rfl, rfl⟩
            · intro w' hg _
              exact Or.inr ⟨rfl, rfl⟩
            · intro w' hg _
              exact Or.inr ⟨rfl, rfl⟩
            · intro w' hg _
              exact Or.inr ⟨rfl, rfl⟩
            · intro w' hg _
              exact Or.inr ⟨rfl, rfl⟩
            · intro w' hg _
              exact Or.inr ⟨rfl, rfl⟩
            · intro w' hg _
              refine Or.inl ⟨rfl, ?_⟩
              go_simp
              exact ⟨Grown.refl _, rfl⟩
            · intro w' hg _
              refine Or.inl ⟨rfl, ?_⟩
              go_simp
              exact ⟨Grown.refl _, rfl⟩
            intro w2 hg _
            go_wp2
            go_roundw
            case rel => exact ⟨k + 1, b3, cap3, k, by omega, by omega, by first | rfl | (exact congrArg (Value.int .i64) HO.out) | go_num, rfl, rfl, HS3.out.grown (Grown.trans _ _ _ (Grown.drew _) hg), Hb3, HP3, grow HB3.out (Grown.trans _ _ _ (Grown.drew _) hg)⟩
            case measure => simp [intOf]; omega
          · obtain ⟨-, -, -, -, s4, -⟩ := HS3.out.at' (i := j) (q := (A j).cut) (sq_at A (by omega))
            have hj0 : ¬ (j : Int) < 0 := by omega
            have hjk : (j : Int) < (k : Int) + 1 := by omega
            by_cases hl : c.lv < (A j).cut.lv
            · have hd : decide (c.lv < (A j).cut.lv) = true := decide_eq_true hl
              have HP3 : Hid (Pick (k + 1) (fun i => (A i).cut.may n) (fun i => (A i).cut.lv) k) := HM.out k (if_pos ⟨by rw [HC.out, hm], Or.inr (by rw [HC.out]; simpa using hl)⟩)
              clear hm hmj
              refine wp_region_rely Grown [.val (.int .i64 n), .val (.slice (some ⟨b3, 0, none⟩) (k + 1) cap3), .val (.int .i64 k), .val (.pointer (some ⟨b3, k * 6, none⟩)), .val (.agg #[.int .i64 c.st, .int .i64 c.cl, .int .i64 c.us, .int .i64 c.sm, .int .i64 c.lv, .bool c.op]), .val (.bool true), .val (.bool true), .val (.int .i64 j), .val (.bool false), .val (.bool false), .val (.slice (some ⟨b3, 0, none⟩) (k + 1) cap3), .val (.int .i64 k), .val (.pointer (some ⟨b3, k * 6, none⟩)), .val (.pointer (some ⟨b3, k * 6 + 4, none⟩)), .val (.int .i64 c.lv), .val (.slice (some ⟨b3, 0, none⟩) (k + 1) cap3), .val (.int .i64 j), .val (.pointer (some ⟨b3, j * 6, none⟩)), .val (.pointer (some ⟨b3, j * 6 + 4, none⟩)), .val (.int .i64 (A j).cut.lv), .val (.bool true), .val (.bool true), .val (.bool true)] (by kernel_rfl) Grown.refl Grown.trans (by kernel_rfl) (by kernel_rfl) (by kernel_rfl) ?_
              simp only [relyAll, Act.put, List.setIfInBounds_toArray, List.set_cons_zero, List.set_cons_succ]
              refine ⟨?_, ?_, ?_, ?_, ?_, ?_, ?_, ?_, ?_, ?_, ?_, ?_, ?_, ?_, ?_, ?_, ?_, ?_, ?_, ?_, ?_, ?_, ?_, ?_⟩
              · intro w' hg _
                refine Or.inl ⟨rfl, ?_⟩
                go_simp
                exact ⟨Grown.refl _, rfl⟩
              · intro w' hg _
                refine Or.inl ⟨rfl, ?_⟩
                go_simp
                exact ⟨Grown.refl _, rfl⟩
              · intro w' hg _
                refine Or.inl ⟨rfl, ?_⟩
                go_simp
                exact ⟨Grown.refl _, rfl⟩
              · intro w' hg _
                refine Or.inl ⟨rfl, ?_⟩
                go_simp
                exact ⟨Grown.refl _, rfl⟩
              · intro w' hg _
                refine Or.inl ⟨rfl, ?_⟩
                have z0 := keep' hg p0
                have z1 := keep' hg p1
                have z2 := keep' hg p2
                have z3 := keep' hg p3
                have z4 := keep' hg p4
                have z5 := keep' hg p5
                go_simp
                exact ⟨Grown.refl _, rfl⟩
              · intro w' hg _
                refine Or.inl ⟨rfl, ?_⟩
                go_simp
                refine (M2 _).mono ?_
                rintro e w'' ⟨rfl, b9⟩
                exact ⟨_, rfl, b9, rfl⟩
              · intro w' hg _
                refine Or.inl ⟨rfl, ?_⟩
                go_simp
                exact ⟨Grown.refl _, rfl⟩
              · intro w' hg _
                refine Or.inl ⟨rfl, ?_⟩
                go_simp
                exact ⟨Grown.refl _, rfl⟩
              · intro w' hg _
                refine Or.inl ⟨rfl, ?_⟩
                go_simp
                exact ⟨Grown.refl _, rfl⟩
              · intro w' hg _
                refine Or.inl ⟨rfl, ?_⟩
                go_simp
                exact ⟨Grown.refl _, rfl⟩
              · intro w' hg _
                refine Or.inl ⟨rfl, ?_⟩
                go_simp
                exact ⟨Grown.refl _, rfl⟩
              · intro w' hg _
                refine Or.inl ⟨rfl, ?_⟩
                go_simp
                exact ⟨Grown.refl _, rfl⟩
              · intro w' hg _
                refine Or.inl ⟨rfl, ?_⟩
                go_simp
                exact ⟨Grown.refl _, rfl⟩
              · intro w' hg _
                refine Or.inl ⟨rfl, ?_⟩
                go_simp
                exact ⟨Grown.refl _, rfl⟩
              · intro w' hg _
                refine Or.inl ⟨rfl, ?_⟩
                have z0 := keep' hg p4
                go_simp
                exact ⟨Grown.refl _, rfl⟩
              · intro w' hg _
                refine Or.inl ⟨rfl, ?_⟩
                go_simp
                exact ⟨Grown.refl _, rfl⟩
              · intro w' hg _
                refine Or.inl ⟨rfl, ?_⟩
                go_simp
                exact ⟨Grown.refl _, rfl⟩
              · intro w' hg _
                refine Or.inl ⟨rfl, ?_⟩
                go_simp
                exact ⟨Grown.refl _, rfl⟩
              · intro w' hg _
                refine Or.inl ⟨rfl, ?_⟩
                go_simp
                exact ⟨Grown.refl _, rfl⟩
              · intro w' hg _
                refine Or.inl ⟨rfl, ?_⟩
                have z0 := keep' hg s4
                go_simp
                exact ⟨Grown.refl _, rfl⟩
              · intro w' hg _
                refine Or.inl ⟨rfl, ?_⟩
                go_simp
                exact ⟨Grown.refl _, rfl⟩
              · intro w' hg _
                refine Or.inl ⟨rfl, ?_⟩
                go_simp
                exact ⟨Grown.refl _, rfl⟩
              · intro w' hg _
                refine Or.inl ⟨rfl, ?_⟩
                go_simp
                exact ⟨Grown.refl _, rfl⟩
              intro w2 hg _
              go_wp2
              go_roundw
              case rel => exact ⟨k + 1, b3, cap3, k, by omega, by omega, by first | rfl | (exact congrArg (Value.int .i64) HO.out) | go_num, rfl, rfl, HS3.out.grown (Grown.trans _ _ _ (Grown.drew _) hg), Hb3, HP3, grow HB3.out (Grown.trans _ _ _ (Grown.drew _) hg)⟩
              case measure => simp [intOf]; omega
            · have hd : decide (c.lv < (A j).cut.lv) = false := decide_eq_false hl
              have HP3 : Hid (Pick (k + 1) (fun i => (A i).cut.may n) (fun i => (A i).cut.lv) j) := HM.out j (if_neg (fun h => by rcases h.2 with e | e; omega; rw [HC.out] at e; exact hl (by simpa using e)))
              clear hm hmj
              refine wp_region_rely Grown [.val (.int .i64 n), .val (.slice (some ⟨b3, 0, none⟩) (k + 1) cap3), .val (.int .i64 k), .val (.pointer (some ⟨b3, k * 6, none⟩)), .val (.agg #[.int .i64 c.st, .int .i64 c.cl, .int .i64 c.us, .int .i64 c.sm, .int .i64 c.lv, .bool c.op]), .val (.bool true), .val (.bool true), .val (.int .i64 j), .val (.bool false), .val (.bool false), .val (.slice (some ⟨b3, 0, none⟩) (k + 1) cap3), .val (.int .i64 k), .val (.pointer (some ⟨b3, k * 6, none⟩)), .val (.pointer (some ⟨b3, k * 6 + 4, none⟩)), .val (.int .i64 c.lv), .val (.slice (some ⟨b3, 0, none⟩) (k + 1) cap3), .val (.int .i64 j), .val (.pointer (some ⟨b3, j * 6, none⟩)), .val (.pointer (some ⟨b3, j * 6 + 4, none⟩)), .val (.int .i64 (A j).cut.lv), .val (.bool false), .val (.bool false), .val (.bool false)] (by kernel_rfl) Grown.refl Grown.trans (by kernel_rfl) (by kernel_rfl) (by kernel_rfl) ?_
              simp only [relyAll, Act.put, List.setIfInBounds_toArray, List.set_cons_zero, List.set_cons_succ]
              refine ⟨?_, ?_, ?_, ?_, ?_, ?_, ?_, ?_, ?_, ?_, ?_, ?_, ?_, ?_, ?_, ?_, ?_, ?_, ?_, ?_, ?_, ?_, ?_, ?_⟩
              · intro w' hg _
                refine Or.inl ⟨rfl, ?_⟩
                go_simp
                exact ⟨Grown.refl _, rfl⟩
              · intro w' hg _
                refine Or.inl ⟨rfl, ?_⟩
                go_simp
                exact ⟨Grown.refl _, rfl⟩
              · intro w' hg _
                refine Or.inl ⟨rfl, ?_⟩
                go_simp
                exact ⟨Grown.refl _, rfl⟩
              · intro w' hg _
                refine Or.inl ⟨rfl, ?_⟩
                go_simp
                exact ⟨Grown.refl _, rfl⟩
              · intro w' hg _
                refine Or.inl ⟨rfl, ?_⟩
                have z0 := keep' hg p0
                have z1 := keep' hg p1
                have z2 := keep' hg p2
                have z3 := keep' hg p3
                have z4 := keep' hg p4
                have z5 := keep' hg p5
                go_simp
                exact ⟨Grown.refl _, rfl⟩
              · intro w' hg _
                refine Or.inl ⟨rfl, ?_⟩
                go_simp
                refine (M2 _).mono ?_
                rintro e w'' ⟨rfl, b9⟩
                exact ⟨_, rfl, b9, rfl⟩
              · intro w' hg _
                refine Or.inl ⟨rfl, ?_⟩
                go_simp
                exact ⟨Grown.refl _, rfl⟩
              · intro w' hg _
                refine Or.inl ⟨rfl, ?_⟩
                go_simp
                exact ⟨Grown.refl _, rfl⟩
              · intro w' hg _
                refine Or.inl ⟨rfl, ?_⟩
                go_simp
                exact ⟨Grown.refl _, rfl⟩
              · intro w' hg _
                refine Or.inl ⟨rfl, ?_⟩
                go_simp
                exact ⟨Grown.refl _, rfl⟩
              · intro w' hg _
                refine Or.inl ⟨rfl, ?_⟩
                go_simp
                exact ⟨Grown.refl _, rfl⟩
              · intro w' hg _
                refine Or.inl ⟨rfl, ?_⟩
                go_simp
                exact ⟨Grown.refl _, rfl⟩
              · intro w' hg _
                refine Or.inl ⟨rfl, ?_⟩
                go_simp
                exact ⟨Grown.refl _, rfl⟩
              · intro w' hg _
                refine Or.inl ⟨rfl, ?_⟩
                go_simp
                exact ⟨Grown.refl _, rfl⟩
              · intro w' hg _
                refine Or.inl ⟨rfl, ?_⟩
                have z0 := keep' hg p4
                go_simp
                exact ⟨Grown.refl _, rfl⟩
              · intro w' hg _
                refine Or.inl ⟨rfl, ?_⟩
                go_simp
                exact ⟨Grown.refl _, rfl⟩
              · intro w' hg _
                refine Or.inl ⟨rfl, ?_⟩
                go_simp
                exact ⟨Grown.refl _, rfl⟩
              · intro w' hg _
                refine Or.inl ⟨rfl, ?_⟩
                go_simp
                exact ⟨Grown.refl _, rfl⟩
              · intro w' hg _
                refine Or.inl ⟨rfl, ?_⟩
                go_simp
                exact ⟨Grown.refl _, rfl⟩
              · intro w' hg _
                refine Or.inl ⟨rfl, ?_⟩
                have z0 := keep' hg s4
                go_simp
                exact ⟨Grown.refl _, rfl⟩
              · intro w' hg _
                refine Or.inl ⟨rfl, ?_⟩
                go_simp
                exact ⟨Grown.refl _, rfl⟩
              · intro w' hg _
                refine Or.inl ⟨rfl, ?_⟩
                go_simp
                exact ⟨Grown.refl _, rfl⟩
              · intro w' hg _
                refine Or.inl ⟨rfl, ?_⟩
                go_simp
                exact ⟨Grown.refl _, rfl⟩
              intro w2 hg _
              go_wp2
              go_roundw
              case rel => exact ⟨k + 1, b3, cap3, j, by omega, by omega, by first | rfl | (exact congrArg (Value.int .i64) HO.out) | go_num, rfl, rfl, HS3.out.grown (Grown.trans _ _ _ (Grown.drew _) hg), Hb3, HP3, grow HB3.out (Grown.trans _ _ _ (Grown.drew _) hg)⟩
              case measure => simp [intOf]; omega
      · have h1' : (k : Int) < (N : Int) := by omega
        have h2' : ¬ (k : Int) < 64 := by omega
        have P0 := fun W (h : SnsAt W (some ⟨b, 0, none⟩) k (fun i => (A i).cut)) => choose_any 0 0 0 0 0 n 0 (by unfold Fit; omega) (some ⟨b, 0, none⟩) k cap2 (by omega) (fun i => (A i).cut) (fun i hi => (Sn.cut_small (HA.out i (by omega))).1) HP.out W h
        have HPs : Hid _ := P0
        clear P0
        go_wp2_with (first
          | (go_at_call 9; refine (awake12_any _).mono ?_; rintro e w5 ⟨rfl, b5⟩; have S5 := ((HS.out.grown b5).sns (sq_is A k)); rw [sq_len] at S5)
          | (go_at_call 12; refine (HPs.out _ S5).mono ?_; rintro e w6 ⟨rfl, b6⟩))
        go_ret
        exact ⟨rfl, grow (grow HB.out b5) b6⟩
    · have h1' : ¬ (k : Int) < (N : Int) := by omega
      have P0 := fun W (h : SnsAt W (some ⟨b, 0, none⟩) k (fun i => (A i).cut)) => choose_any 0 0 0 0 0 n 0 (by unfold Fit; omega) (some ⟨b, 0, none⟩) k cap2 (by omega) (fun i => (A i).cut) (fun i hi => (Sn.cut_small (HA.out i (by omega))).1) HP.out W h
      have HPs : Hid _ := P0
      clear P0
      go_wp2_with (first
        | (go_at_call 9; refine (awake12_any _).mono ?_; rintro e w5 ⟨rfl, b5⟩; have S5 := ((HS.out.grown b5).sns (sq_is A k)); rw [sq_len] at S5)
        | (go_at_call 12; refine (HPs.out _ S5).mono ?_; rintro e w6 ⟨rfl, b6⟩))
      go_ret
      exact ⟨rfl, grow (grow HB.out b5) b6⟩

end Go.Proofs.Ytlefbdbafmmoiaa
