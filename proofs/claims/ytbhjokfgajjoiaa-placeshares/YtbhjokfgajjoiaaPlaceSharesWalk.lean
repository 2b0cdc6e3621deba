/- PlaceShares answers true for every number and all slices of numbers, and leaves what was in memory. -/
import Derived.Test.YtbhjokfgajjoiaaPlaceShare
namespace Go.Proofs.Ytbhjokfgajjoiaa
open Go.RowKit

theorem Try.infoW4 : (Try.prog.info? 4).map (fun i => (i.zero, i.size, i.bytes)) = some (some (.bool false), 1, 1) := by kernel_rfl

theorem three (v : Value) (i : Nat) (hi : i < 3) : (#[v, v, v] : Array Value)[i]? = some v := by
  have : i = 0 ∨ i = 1 ∨ i = 2 := by omega
  rcases this with rfl | rfl | rfl <;> rfl

set_option maxRecDepth 20000 in
set_option maxHeartbeats 4000000 in
theorem placeShares_any (chunks : Int) (co : Option Addr) (NC ccap : Nat) (zc : Nat → Int) (ao : Option Addr) (N cap : Nat) (z : Nat → Int) (w : World) (hc : IntsAt .i64 w co NC zc) (hr : IntsAt .i64 w ao N z) :
    Calls Try.prog 4 #[.int .i64 chunks, .slice co NC ccap, .slice ao N cap] w fun e w' => e = .returned (.bool true) ∧ Below w.heap.size w w' := by
  have HR : Hid (IntsAt .i64 w ao N z) := hr
  have HC : Hid (IntsAt .i64 w co NC zc) := hc
  clear hr hc
  obtain ⟨k, hk, hk1, hk8⟩ := lowAt chunks 7 3 1 (by decide) (by decide)
  have hk' : (1 : Int) + bits .and .i64 chunks 7 = (k : Int) := hk
  clear hk
  have hG : Good 4 1 k 20 100 600 3 := goodp (by omega) (by omega) (by omega) (by omega)
  have HG : Hid (Good 4 1 k 20 100 600 3) := hG
  have AR := fun w => arena07 hG w
  have LN := fun w => llen_good hG w
  obtain ⟨K, hK⟩ : ∃ K, arenaLen 4 1 k 20 = K := ⟨_, rfl⟩
  rw [hK] at LN
  have hKb : K = 12 + k * 23 := by unfold arenaLen at hK; omega
  have hmk := run_make_row' (P := Try.prog) 47 4 (.bool false) 1 Try.underlying47 Try.infoW4 rfl .i64 .i64 K (by omega) (by omega)
  have HKb : Hid (K = 12 + k * 23) := hKb
  clear hG hK hKb
  go_enter Try.func4, Try.ntmps4
  go_wp2_with (first
    | (go_at_call 8; refine (AR _).mono ?_; rintro e w1 ⟨L, s, rfl, m1, y1, b1, f1⟩; obtain ⟨p1, pa⟩ := Plot.first HG.out m1 y1 b1 f1)
    | (go_at_call 9; refine (awake07_any _).mono ?_; rintro e w2 ⟨rfl, b2⟩; have p2 := p1.grown b2))
  have FA : Hid (PlotApart w L w1.heap.size 4 1 k 20) := pa
  obtain ⟨E, hE⟩ : ∃ E, w1.heap.size = E := ⟨_, rfl⟩
  obtain ⟨A, hA⟩ : ∃ A, w2.heap.size = A := ⟨_, rfl⟩
  rw [hE] at FA p2 ⊢
  rw [hA]
  have rA := World.rowIs_alloc w2 #[.pointer none, .pointer none, .pointer none] 45 (fun _ => .pointer none) (three _)
  have rC := World.rowIs_alloc (w2.alloc (.cells #[.pointer none, .pointer none, .pointer none] 45)) #[.int .i64 0, .int .i64 0, .int .i64 0] 46 (fun _ => .int .i64 0) (three _)
  rw [Go.Deep.nblk_alloc] at rC
  rw [hA] at rA rC
  have p3 := (p2.alloc (.cells #[.pointer none, .pointer none, .pointer none] 45)).alloc (.cells #[.int .i64 0, .int .i64 0, .int .i64 0] 46)
  refine wp_over (fun W => Plot w W L E 4 1 k 20 s 3 Y.new ∧ W.rowIs A 45 3 (fun _ => .pointer none) ∧ W.rowIs (A + 1) 46 3 (fun _ => .int .i64 0) ∧ W.heap.size = A + 1 + 1) ⟨p3, rA.alloc _, rC, by rw [Go.Deep.nblk_alloc, Go.Deep.nblk_alloc, hA]⟩ ?_
  have hEA : Hid (E < A) := by unfold Hid; have := p2.ltE; omega
  have hLA : Hid (∀ k, L.has k → k < A) := fun k hk => by have := p2.mm.lt _ hk; omega
  have hwA : Hid (w.heap.size ≤ A) := by unfold Hid; have := p2.b.size; omega
  clear p3 rA rC p2 p1 pa m1 y1 b1 f1 b2 AR hE hA hk'
  rintro W ⟨p3, rA, rC, zW⟩
  refine wp_region_rely Grown [.val (.pointer (some ⟨E, 0, none⟩)), .val (.agg #[.int .i64 4, .int .i64 1, .int .i64 k, .int .i64 20, .int .i64 100, .int .i64 600, .int .i64 3]), .val (.int .i64 K), .that (fun w' v => ∃ G, v = .slice (some ⟨G, 0, none⟩) K K ∧ A + 1 < G ∧ w'.rowIs G 4 K (fun _ => .bool false)) ?_, .val (.int .i64 0), .that (fun w' v => ∃ G, v = .slice (some ⟨G, 0, none⟩) K K ∧ A + 1 < G ∧ w'.rowIs G 4 K (fun _ => .bool false)) ?_] (by kernel_rfl) Grown.refl Grown.trans (by kernel_rfl) (by kernel_rfl) (by kernel_rfl) ?_
  · rintro x1 y1 v hg ⟨G, hv, hb, hr⟩
    exact ⟨G, hv, hb, hr.of_block (hg.block _ hr.lt)⟩
  · rintro x1 y1 v hg ⟨G, hv, hb, hr⟩
    exact ⟨G, hv, hb, hr.of_block (hg.block _ hr.lt)⟩
  simp only [relyAll, Act.put, List.setIfInBounds_toArray, List.set_cons_zero, List.set_cons_succ]
  refine ⟨?_, ?_, ?_, ?_, ?_⟩
  · intro w' hg _
    refine Or.inl ⟨rfl, ?_⟩
    go_simp
    exact ⟨Grown.refl _, rfl⟩
  · intro w' hg _
    refine Or.inl ⟨rfl, ?_⟩
    have vv := (p3.drew.grown hg).v
    have y0 := vv.c0
    have y1 := vv.c1
    have y2 := vv.c2
    have y3 := vv.c3
    have y4 := vv.c4
    have y5 := vv.c5
    have y6 := vv.c6
    go_simp
    exact ⟨Grown.refl _, rfl⟩
  · intro w' hg _
    refine Or.inl ⟨rfl, ?_⟩
    go_simp
    refine (LN _).mono ?_
    rintro e w'' ⟨rfl, b9⟩
    exact ⟨_, rfl, b9, rfl⟩
  · intro w' hg _
    refine Or.inl ⟨rfl, ?_⟩
    have hz : A + 1 < w'.heap.size := by have := hg.size; have e : W.drew.heap.size = W.heap.size := rfl; omega
    go_simp
    exact ⟨grow_alloc (Below.refl _ _) _, _, rfl, hz, World.rowIs_made w' (.bool false) K 4⟩
  intro v
  refine ⟨?_, ?_, ?_⟩
  · intro w' hg _
    refine Or.inl ⟨rfl, ?_⟩
    go_simp
    exact ⟨Grown.refl _, rfl⟩
  · intro w' hg hf
    refine Or.inl ⟨rfl, ?_⟩
    have hv := hf.1 (by kernel_rfl)
    go_simp
    exact ⟨Grown.refl _, hv⟩
  intro vG w3 hg hf
  obtain ⟨G, rfl, hGA, rG⟩ := hf.1
  have p4 := p3.drew.grown hg
  have rA' := (show W.drew.rowIs A 45 3 (fun _ => .pointer none) from rA).of_block (hg.block _ (show A < W.drew.heap.size from rA.lt))
  have rC' := (show W.drew.rowIs (A + 1) 46 3 (fun _ => .int .i64 0) from rC).of_block (hg.block _ (show A + 1 < W.drew.heap.size from rC.lt))
  obtain ⟨M, hM⟩ : ∃ M, w3.heap.size = M := ⟨_, rfl⟩
  have hGM : G < M := by have := rG.lt; omega
  have SA : Hid (ShareApart w L E A (A + 1) G M k) := ⟨⟨FA.out, fun hh => by have := hLA.out _ hh; omega, by have := hEA.out; omega, hwA.out, fun k hk => by have := hLA.out _ hk; omega, by have := hEA.out; omega, by omega, by have := hwA.out; omega⟩, fun hh => by have := hLA.out _ hh; omega, fun hh => by have := hLA.out _ hh; omega, by have := hEA.out; omega, by have := hEA.out; omega, by omega, by omega, by omega, by have := hwA.out; omega, by have := hwA.out; omega, by omega, by omega⟩
  have S0 : Hid (Share 3 w w3 L E A (A + 1) G M k K s 3 Y.new (fun _ => .nil) (fun _ => 0) (fun _ => false)) := ⟨⟨p4, rA', (fun j hj b κ τ e => by cases e), fun i j _ _ _ b κ τ b' κ' τ' e => by cases e⟩, rC', rG, (fun i hi _ b κ τ e => by cases e), given0 k, by omega⟩
  clear hf hg p3 p4 rA rC rA' rC' rG hM hGM hGA hEA hLA hwA FA zW LN hmk
  obtain ⟨C, hC⟩ : ∃ C, A + 1 = C := ⟨_, rfl⟩
  rw [hC] at SA S0 ⊢
  clear hC
  go_wp2
  go_loopw [12, 14] (fun av j wr => ∃ (r a : Nat) (s2 : Mm) (σ : Nat) (y : Y) (θ : Nat → Who) (cl : Nat → Nat) (g : Nat → Bool), av = .int .i64 a ∧ a ≤ r ∧ r ≤ 400 ∧ j = .int .i64 r ∧ σ ≤ 3 + r ∧ Share 3 w wr L E A C G M k K s2 σ y θ cl g) (fun _ j _ => 400 - (intOf j).toNat)
  case atStart => exact ⟨0, 0, s, 3, _, _, _, _, rfl, by omega, by omega, rfl, by omega, S0.out⟩
  case round =>
    clear S0
    obtain ⟨r, a, s2, σ, y, θ, cl, g, rfl, haN, hr400, rfl, hσ, S⟩ := hrel
    by_cases hr' : r < N ∧ r < 400
    · obtain ⟨hrN, hr3⟩ := hr'
      have hr3' : (r : Int) < 400 := by omega
      have hrN' : (r : Int) < (N : Int) := by omega
      obtain ⟨zb, zo, rfl, hz0⟩ := HR.out r hrN
      have hz := keep' S.tr.f.b hz0
      obtain ⟨j, hj1, hj2, hj, hj3, hj4⟩ := pick3 (z r)
      have hj' : (j : Int) < 3 := by omega
      have SS : Hid (Share 3 w wr L E A C G M k K s2 σ y θ cl g) := S
      have qa := S.tr.a.cell (i := j) hj
      clear hz0 S
      cases hθ : θ j with
      | nil =>
        rw [hθ] at qa
        simp only [Who.v] at qa
        by_cases haN' : a < NC
        · have haN2 : (a : Int) < (NC : Int) := by omega
          obtain ⟨cb, cq, rfl, hc0⟩ := HC.out a haN'
          have hc := keep' SS.out.tr.f.b hc0
          obtain ⟨κ, hκ, hκ4⟩ := bits3 (zc a)
          have qc := SS.out.cr.cell (i := j) hj
          have qcf := SS.out.cr.frozen j
          have qa2 : ((wr.setCell ⟨C, j, none⟩ (.int .i64 κ)).alloc (place0 κ)).cell? ⟨A, j, none⟩ = some (.pointer none) := by
            have h1 := (SS.out.tr.setLow SA.out.c0 SA.out.ec SA.out.ac SA.out.cl SA.out.cm j (.int .i64 κ)).a.alloc (place0 κ)
            have h2 := h1.cell (i := j) hj
            rw [hθ] at h2
            exact h2
          have qaf : ∀ i, ((wr.setCell ⟨C, j, none⟩ (.int .i64 κ)).alloc (place0 κ)).frozen? ⟨A, i, none⟩ = false := ((SS.out.tr.setLow SA.out.c0 SA.out.ec SA.out.ac SA.out.cl SA.out.cm j (.int .i64 κ)).a.alloc (place0 κ)).frozen
          have qc2 : (wr.setCell ⟨C, j, none⟩ (.int .i64 κ)).cell? ⟨C, j, none⟩ = some (.int .i64 κ) := by
            have := (SS.out.cr.set j (.int .i64 κ)).cell (i := j) hj
            simpa using this
          have S1 := SS.out.begin SA.out (j := j) hκ4
          rw [Go.Deep.nblk_setCell] at S1
          have HS1 : Hid (∃ b, wr.heap.size = b) := ⟨_, rfl⟩
          clear hc0
          go_wp2_with (go_at_call 17; refine (newPlace_any κ _).mono ?_; rintro e w5 ⟨rfl, rfl⟩)
          obtain ⟨b, hb⟩ := HS1.out
          rw [hb] at S1 ⊢
          refine wp_over (fun W => Share 3 w W L E A C G M k K s2 σ y (upd θ j (.at b κ .see)) (upd cl j κ) g) S1 ?_
          clear qa qc qcf qa2 qaf qc2 S1 HS1 SS hb hz hc
          rintro W S1
          obtain ⟨⟨y', τ'⟩, ht⟩ : ∃ p, turn k 20 κ (base 4 1 k 20) y .see = p := ⟨_, rfl⟩
          have ho' : τ'.over = false := by have := see_on (k := k) (m := 20) (κ := κ) (bs := base 4 1 k 20) (y := y) hk1; rw [ht] at this; exact this
          have HT : Hid (turn k 20 κ (base 4 1 k 20) y .see = (y', τ')) := ht
          clear ht
          refine wp_region_rely_tail Grown 4 [.val (.int .i64 j), .val (.pointer (some ⟨A, j, none⟩)), .val (.pointer (some ⟨b, 0, none⟩)), .val (.agg #[.int .i64 4, .int .i64 1, .int .i64 k, .int .i64 20, .int .i64 100, .int .i64 600, .int .i64 3, .pointer (some ⟨L.p, 0, none⟩), .int .i64 0])] (by kernel_rfl) Grown.refl Grown.trans (by decide) (by kernel_rfl) (by kernel_rfl) (by kernel_rfl) (by kernel_rfl) (by kernel_rfl) (by kernel_rfl) ?_
          simp only [List.take_succ_cons, List.take_zero, relyAll, Act.put, List.setIfInBounds_toArray, List.set_cons_zero, List.set_cons_succ]
          refine ⟨?_, ?_, ?_, ?_, ?_⟩
          · intro w' hg _
            refine Or.inl ⟨rfl, ?_⟩
            go_simp
            exact ⟨Grown.refl _, rfl⟩
          · intro w' hg _
            refine Or.inl ⟨rfl, ?_⟩
            go_simp
            exact ⟨Grown.refl _, rfl⟩
          · intro w' hg _
            refine Or.inl ⟨rfl, ?_⟩
            have q := (S1.grown ((Below.refl _ _).drew)).grown hg
            have qa := q.tr.a.cell (i := j) hj
            rw [upd_same] at qa
            simp only [Who.v] at qa
            go_simp
            exact ⟨Grown.refl _, rfl⟩
          · intro w' hg _
            refine Or.inl ⟨rfl, ?_⟩
            have vv := ((S1.grown ((Below.refl _ _).drew)).grown hg).tr.f.v
            have y0 := vv.c0
            have y1 := vv.c1
            have y2 := vv.c2
            have y3 := vv.c3
            have y4 := vv.c4
            have y5 := vv.c5
            have y6 := vv.c6
            have y7 := vv.c7
            have y8 := vv.c8
            go_simp
            exact ⟨Grown.refl _, rfl⟩
          intro w5 hg _
          have S5 := (S1.grown ((Below.refl _ _).drew)).grown hg
          clear hg S1
          go_wp2_with (go_at_call 18; refine (S5.step SA.out hj (upd_same _ _ _) (by omega) y' τ' HT.out false ho').mono ?_; rintro e w6 ⟨rfl, s6, S6⟩)
          have S7 := S6.again (upd_same _ _ _) ho' (upd_same _ _ _)
          go_roundw
          case rel => exact ⟨r + 1, a + 1, s6, σ + 1, y', _, _, g, by go_num, by omega, by omega, by go_num, by omega, S7⟩
          case measure => simp [intOf]; omega
        · have haN2 : ¬ (a : Int) < (NC : Int) := by omega
          go_wp2
          go_roundw
          case rel => exact ⟨r + 1, a, s2, σ, y, θ, cl, g, rfl, by omega, by omega, by go_num, by omega, SS.out⟩
          case measure => simp [intOf]; omega
      | «at» b κ τ =>
        rw [hθ] at qa
        simp only [Who.v] at qa
        obtain ⟨ho, hcl⟩ := SS.out.on j hj (by omega) b κ τ hθ
        obtain ⟨⟨cs, hpl⟩, hgd, hκ4, hMb⟩ := SS.out.tr.th j hj b κ τ hθ
        obtain ⟨⟨y', τ'⟩, ht⟩ : ∃ p, turn k 20 κ (base 4 1 k 20) y τ = p := ⟨_, rfl⟩
        have HT : Hid (turn k 20 κ (base 4 1 k 20) y τ = (y', τ')) := ht
        have HO : Hid (τ.over = false) := ho
        have HGd : Hid (τ.good k 20 κ σ) := hgd
        have HCl : Hid (cl j = κ) := hcl
        clear hpl hgd ho ht hMb hcl
        go_wp2
        clear hz qa
        by_cases ho' : τ'.over = false
        · -- it goes on
          refine wp_region_rely_tail Grown 4 [.val (.int .i64 j), .val (.pointer (some ⟨A, j, none⟩)), .val (.pointer (some ⟨b, 0, none⟩)), .val (.agg #[.int .i64 4, .int .i64 1, .int .i64 k, .int .i64 20, .int .i64 100, .int .i64 600, .int .i64 3, .pointer (some ⟨L.p, 0, none⟩), .int .i64 0])] (by kernel_rfl) Grown.refl Grown.trans (by decide) (by kernel_rfl) (by kernel_rfl) (by kernel_rfl) (by kernel_rfl) (by kernel_rfl) (by kernel_rfl) ?_
          simp only [List.take_succ_cons, List.take_zero, relyAll, Act.put, List.setIfInBounds_toArray, List.set_cons_zero, List.set_cons_succ]
          refine ⟨?_, ?_, ?_, ?_, ?_⟩
          · intro w' hg _
            refine Or.inl ⟨rfl, ?_⟩
            go_simp
            exact ⟨Grown.refl _, rfl⟩
          · intro w' hg _
            refine Or.inl ⟨rfl, ?_⟩
            go_simp
            exact ⟨Grown.refl _, rfl⟩
          · intro w' hg _
            refine Or.inl ⟨rfl, ?_⟩
            have q := (SS.out.grown ((Below.refl _ _).drew)).grown hg
            have qa := q.tr.a.cell (i := j) hj
            rw [hθ] at qa
            simp only [Who.v] at qa
            go_simp
            exact ⟨Grown.refl _, rfl⟩
          · intro w' hg _
            refine Or.inl ⟨rfl, ?_⟩
            have vv := ((SS.out.grown ((Below.refl _ _).drew)).grown hg).tr.f.v
            have y0 := vv.c0
            have y1 := vv.c1
            have y2 := vv.c2
            have y3 := vv.c3
            have y4 := vv.c4
            have y5 := vv.c5
            have y6 := vv.c6
            have y7 := vv.c7
            have y8 := vv.c8
            go_simp
            exact ⟨Grown.refl _, rfl⟩
          intro w5 hg _
          have S5 := (SS.out.grown ((Below.refl _ _).drew)).grown hg
          clear hg SS
          go_wp2_with (go_at_call 18; refine (S5.step SA.out hj hθ (by omega) y' τ' HT.out false ho').mono ?_; rintro e w6 ⟨rfl, s6, S6⟩)
          have S7 := S6.again (upd_same _ _ _) ho' HCl.out
          go_roundw
          case rel => exact ⟨r + 1, a, s6, σ + 1, y', _, cl, g, rfl, by omega, by omega, by go_num, by omega, S7⟩
          case measure => simp [intOf]; omega
        · have ho2 : τ'.over = true := by simpa using ho'
          clear ho'
          refine wp_region_rely_tail Grown 4 [.val (.int .i64 j), .val (.pointer (some ⟨A, j, none⟩)), .val (.pointer (some ⟨b, 0, none⟩)), .val (.agg #[.int .i64 4, .int .i64 1, .int .i64 k, .int .i64 20, .int .i64 100, .int .i64 600, .int .i64 3, .pointer (some ⟨L.p, 0, none⟩), .int .i64 0])] (by kernel_rfl) Grown.refl Grown.trans (by decide) (by kernel_rfl) (by kernel_rfl) (by kernel_rfl) (by kernel_rfl) (by kernel_rfl) (by kernel_rfl) ?_
          simp only [List.take_succ_cons, List.take_zero, relyAll, Act.put, List.setIfInBounds_toArray, List.set_cons_zero, List.set_cons_succ]
          refine ⟨?_, ?_, ?_, ?_, ?_⟩
          · intro w' hg _
            refine Or.inl ⟨rfl, ?_⟩
            go_simp
            exact ⟨Grown.refl _, rfl⟩
          · intro w' hg _
            refine Or.inl ⟨rfl, ?_⟩
            go_simp
            exact ⟨Grown.refl _, rfl⟩
          · intro w' hg _
            refine Or.inl ⟨rfl, ?_⟩
            have q := (SS.out.grown ((Below.refl _ _).drew)).grown hg
            have qa := q.tr.a.cell (i := j) hj
            rw [hθ] at qa
            simp only [Who.v] at qa
            go_simp
            exact ⟨Grown.refl _, rfl⟩
          · intro w' hg _
            refine Or.inl ⟨rfl, ?_⟩
            have vv := ((SS.out.grown ((Below.refl _ _).drew)).grown hg).tr.f.v
            have y0 := vv.c0
            have y1 := vv.c1
            have y2 := vv.c2
            have y3 := vv.c3
            have y4 := vv.c4
            have y5 := vv.c5
            have y6 := vv.c6
            have y7 := vv.c7
            have y8 := vv.c8
            go_simp
            exact ⟨Grown.refl _, rfl⟩
          intro w5 hg _
          have S5 := (SS.out.grown ((Below.refl _ _).drew)).grown hg
          clear hg SS
          by_cases hw : ∃ x i, τ' = .won x i
          · obtain ⟨x, i, rfl⟩ := hw
            obtain ⟨u, sp, pz⟩ := S5.gv.won HGd.out HO.out HT.out
            have PZ : Hid (Prize k κ y y' g x i u sp) := pz
            clear pz
            go_wp2_with (first
              | (go_at_call 18; refine (S5.step SA.out hj hθ (by omega) y' (.won x i) HT.out true ho2).mono ?_; rintro e w6 ⟨rfl, s6, S6⟩; have qa6 := S6.tr.a.cell (i := j) hj; rw [upd_same] at qa6; simp only [Who.v] at qa6; obtain ⟨⟨cs6, pl6⟩, gd6, kk6, hM6⟩ := S6.tr.th j hj b κ (.won x i) (upd_same _ _ _))
              | (go_at_call 19; refine (spot_any pl6 x i true rfl).mono ?_; rintro e w7 ⟨rfl, b7⟩; have S7 := (S6.grown b7).grown (grow_alloc (Below.refl _ _) (.cells #[.int .i64 x, .int .i64 i] 34)); have qa7 := S7.tr.a.cell (i := j) hj; rw [upd_same] at qa7; simp only [Who.v] at qa7; have qf7 := S7.tr.a.frozen j))
            have S8 := S7.drop SA.out (j := j)
            rw [upd_upd] at S8
            have z7 : M ≤ w7.heap.size := (S6.grown b7).sz
            have hBA : w7.heap.size ≠ A := by have := SA.out.ta.am; omega
            have sp8 := (At.new w7 34 [.int .i64 (x : Nat), .int .i64 (i : Nat)]).other hBA j (.pointer none)
            obtain ⟨B, hB⟩ : ∃ B, w7.heap.size = B := ⟨_, rfl⟩
            rw [hB] at sp8 z7 ⊢
            refine wp_over (fun W => Share 3 w W L E A C G M k K s6 (σ + 1) y' (upd θ j .nil) cl g ∧ At W B 0 34 _ [.int .i64 (x : Nat), .int .i64 (i : Nat)]) ⟨S8, sp8⟩ ?_
            have HB : Hid (M ≤ B) := z7
            clear S8 sp8 S7 S6 S5 qa6 qa7 qf7 pl6 gd6 kk6 hM6 b7 z7 hBA hB ho2 HT HO HGd
            rintro W ⟨S, sp8⟩
            have hik := PZ.out.lt
            have hxi := PZ.out.is
            have hfit := PZ.out.fit
            have hrb := room_bd κ
            have hck := PZ.out.ck
            have hok := S.tr.f.yd.ok i hik
            have hwd := S.tr.f.yd.ckv i hik
            rw [hck] at hok hwd
            have hln := S.tr.f.yd.len
            have hlt : Hid (6 + 4 + 1 * 2 + i * 3 < s6.n) := by unfold Hid; omega
            have HW : Hid (s6.wd (6 + 4 + 1 * 2 + i * 3) = (⟨1, κ, u + room κ, sp⟩ : Ck).w) := hwd
            have cw := fun w => chunk_w (⟨1, κ, u + room κ, sp⟩ : Ck) (σ + 1) hok (by omega) w
            have lc := fun w => lchunk_any 4 1 k 20 100 600 3 i w HG.out.arena (by omega) (by omega)
            have hlc : (6 : Int) + 4 + 1 * 2 + (i : Int) * 3 = ((6 + 4 + 1 * 2 + i * 3 : Nat) : Int) := by omega
            rw [hlc] at lc
            obtain ⟨Bv, hBv⟩ : ∃ Bv : Nat, 12 + k * 3 + i * 20 = Bv := ⟨_, rfl⟩
            have bw := fun w => lbase_any 4 1 k 20 100 600 3 i ((i * 20 : Nat) : Int) w HG.out.arena (by simp) (by omega) (by omega)
            rw [show (6 : Int) + 4 + 1 * 2 + (k : Int) * 3 + ((i * 20 : Nat) : Int) = (Bv : Int) by omega] at bw
            have ofa : ∀ (aa : Int) (w : World), (Bv : Int) ≤ aa → aa < (Bv : Int) + 20 → Calls Try.prog 20 #[.agg #[.int .i64 4, .int .i64 1, .int .i64 k, .int .i64 20, .int .i64 100, .int .i64 600, .int .i64 3], .int .i64 aa] w fun e w' => e = .returned (.int .i64 i) ∧ Below w.heap.size w w' := fun aa w h1 h2 => lof_in 4 1 k 20 100 600 3 aa i w HG.out.arena (by omega) (by omega) (by omega) (by omega) (by omega)
            have hxh : (x : Int) + (room κ : Int) ≤ (Bv : Int) + 20 := by omega
            have hxl : (Bv : Int) ≤ (x : Int) := by omega
            have hx1 : (x : Int) ≤ (Bv : Int) + (u : Int) := by omega
            have hx2 : (Bv : Int) + (u : Int) ≤ (x : Int) := by omega
            have hxb : x ≤ 1000 := by omega
            have hBb : Bv ≤ 1000 := by omega
            have hub : u ≤ 20 := by omega
            have hxK : x + room κ ≤ K := by have := HKb.out; omega
            obtain ⟨U, hU⟩ : ∃ U, u + room κ = U := ⟨_, rfl⟩
            have hU1 : (u : Int) + (room κ : Int) ≤ (U : Int) := by omega
            have hU2 : U ≤ 20 := by omega
            obtain ⟨Z, hZ⟩ : ∃ Z, (⟨1, κ, u + room κ, sp⟩ : Ck).w = Z := ⟨_, rfl⟩
            rw [hZ] at cw HW
            have cw' : ∀ w, Calls Try.prog 13 #[.int .u64 Z] w fun e w' => e = .returned (.agg #[.int .i64 1, .int .i64 κ, .int .i64 U, .int .i64 sp]) ∧ Below w.heap.size w w' := by
              intro w
              have := cw w
              simp only [hU] at this
              exact this
            obtain ⟨Ad, hAd⟩ : ∃ Ad, 6 + 4 + 1 * 2 + i * 3 = Ad := ⟨_, rfl⟩
            rw [hAd] at lc HW hlt
            obtain ⟨Sz, hSz⟩ : ∃ Sz, W.heap.size = Sz := ⟨_, rfl⟩
            clear hck hok hwd hln hlc hZ hAd cw hxi hfit hBv hU hk8
            refine wp_region_rely_tail Grown 10 [.val (.pointer (some ⟨E, 7, none⟩)), .val (.pointer (some ⟨L.p, 0, none⟩)), .val (.pointer (some ⟨E, 0, none⟩)), .val (.agg #[.int .i64 4, .int .i64 1, .int .i64 k, .int .i64 20, .int .i64 100, .int .i64 600, .int .i64 3]), .val (.pointer (some ⟨B, 1, none⟩)), .val (.int .i64 i), .val (.int .i64 Ad), .val (.int .u64 Z), .val (.agg #[.int .i64 1, .int .i64 κ, .int .i64 U, .int .i64 sp]), .that (fun w' v => ∃ X, v = .pointer (some ⟨X, 0, none⟩) ∧ Sz ≤ X ∧ At w' X 0 39 #[.int .i64 0, .int .i64 0, .int .i64 0, .int .i64 0] [.int .i64 0, .int .i64 0, .int .i64 0, .int .i64 0]) ?_] (by kernel_rfl) Grown.refl Grown.trans (by decide) (by kernel_rfl) (by kernel_rfl) (by kernel_rfl) (by kernel_rfl) (by kernel_rfl) (by kernel_rfl) ?_
            · rintro x1 y1 v hg ⟨X, hv, hb, hr⟩
              exact ⟨X, hv, hb, hr.grown hg⟩
            simp only [List.take_succ_cons, List.take_zero, relyAll, Act.put, List.setIfInBounds_toArray, List.set_cons_zero, List.set_cons_succ]
            refine ⟨?_, ?_, ?_, ?_, ?_, ?_, ?_, ?_, ?_, ?_, ?_⟩
            · intro w' hg _
              refine Or.inl ⟨rfl, ?_⟩
              go_simp
              exact ⟨Grown.refl _, rfl⟩
            · intro w' hg _
              refine Or.inl ⟨rfl, ?_⟩
              have y7 := (S.tr.f.drew.grown hg).v.c7
              go_simp
              exact ⟨Grown.refl _, rfl⟩
            · intro w' hg _
              refine Or.inl ⟨rfl, ?_⟩
              go_simp
              exact ⟨Grown.refl _, rfl⟩
            · intro w' hg _
              refine Or.inl ⟨rfl, ?_⟩
              have vv := (S.tr.f.drew.grown hg).v
              have y0 := vv.c0
              have y1 := vv.c1
              have y2 := vv.c2
              have y3 := vv.c3
              have y4 := vv.c4
              have y5 := vv.c5
              have y6 := vv.c6
              go_simp
              exact ⟨Grown.refl _, rfl⟩
            · intro w' hg _
              refine Or.inl ⟨rfl, ?_⟩
              go_simp
              exact ⟨Grown.refl _, rfl⟩
            · intro w' hg _
              refine Or.inl ⟨rfl, ?_⟩
              have y1 := (sp8.drew.grown hg).at0 1 rfl
              go_simp
              exact ⟨Grown.refl _, rfl⟩
            · intro w' hg _
              refine Or.inl ⟨rfl, ?_⟩
              go_simp
              refine (lc _).mono ?_
              rintro e w'' ⟨rfl, b9⟩
              exact ⟨_, rfl, b9, rfl⟩
            · intro w' hg _
              refine Or.inl ⟨rfl, ?_⟩
              go_simp
              refine (peek_is (S.tr.f.drew.grown hg).mm Ad hlt.out Z HW.out).mono ?_
              rintro e w'' ⟨rfl, rfl⟩
              exact ⟨_, rfl, Grown.refl _, rfl⟩
            · intro w' hg _
              refine Or.inl ⟨rfl, ?_⟩
              go_simp
              refine (cw' _).mono ?_
              rintro e w'' ⟨rfl, b9⟩
              exact ⟨_, rfl, b9, rfl⟩
            · intro w' hg _
              refine Or.inl ⟨rfl, ?_⟩
              have hz : Sz ≤ w'.heap.size := by have := hg.size; have e : W.drew.heap.size = W.heap.size := rfl; omega
              have q := At.new w' 39 [.int .i64 0, .int .i64 0, .int .i64 0, .int .i64 0]
              go_simp
              exact ⟨grow_alloc (Below.refl _ _) _, _, rfl, hz, q⟩
            intro vX w8 hg hf
            obtain ⟨X, rfl, hXS, q8⟩ := hf.1
            have S8 := (S.grown ((Below.refl _ _).drew)).grown hg
            have sp9 := sp8.drew.grown hg
            have hXB : B ≠ X := by have := sp8.lt; omega
            have hXM : M ≤ X := by have := S.sz; omega
            have hXT : ∀ jj, jj < 3 → ∀ b' κ' τ'', upd θ j Who.nil jj = .at b' κ' τ'' → b' ≠ X := fun jj hjj b' κ' τ'' e => by
              obtain ⟨⟨cs, hp⟩, _⟩ := S.tr.th jj hjj b' κ' τ'' e
              have := hp.lt
              omega
            have q0 := q8.at0 0 rfl
            have q1 := q8.at0 1 rfl
            have q2 := q8.at0 2 rfl
            have q3 := q8.at0 3 rfl
            have qf := q8.fz
            have S9 := (((S8.setNew SA.out hXM hXT 0 (.int .i64 1)).setNew SA.out hXM hXT 1 (.int .i64 κ)).setNew SA.out hXM hXT 2 (.int .i64 U)).setNew SA.out hXM hXT 3 (.int .i64 sp)
            have q9 := (((q8.put0 0 (.int .i64 1)).put0 1 (.int .i64 κ)).put0 2 (.int .i64 U)).put0 3 (.int .i64 sp)
            have t9 := (((sp9.other hXB 0 (.int .i64 1)).other hXB 1 (.int .i64 κ)).other hXB 2 (.int .i64 U)).other hXB 3 (.int .i64 sp)
            have qc9 := S9.cr.cell (i := j) hj
            rw [HCl.out] at qc9
            clear hf hg S sp8 cw' lc HW hlt hXB hXM hXT hXS hSz
            go_wp2_with (go_at_call 10; refine (rroom_v κ hκ4 _).mono ?_; rintro e w9 ⟨rfl, b9⟩)
            refine wp_over (fun W => Share 3 w W L E A C G M k K s6 (σ + 1) y' (upd θ j .nil) cl g ∧ At W B 0 34 _ [.int .i64 (x : Nat), .int .i64 (i : Nat)] ∧ At W X 0 39 _ [.int .i64 1, .int .i64 κ, .int .i64 U, .int .i64 sp]) ⟨S9.grown b9, t9.grown b9, q9.grown b9⟩ ?_
            clear S8 sp9 q8 q0 q1 q2 q3 qf S9 q9 t9 qc9 b9
            rintro W2 ⟨S, sp8, ch⟩
            have g0 := fun N : Later W2 => (ch.grown N.below).at0 0 rfl
            have g1 := fun N : Later W2 => (ch.grown N.below).at0 1 rfl
            have g2 := fun N : Later W2 => (ch.grown N.below).at0 2 rfl
            have g3 := fun N : Later W2 => (sp8.grown N.below).at0 0 rfl
            have g4 := fun N : Later W2 => (sp8.grown N.below).at0 1 rfl
            have g5 : ∀ N : Later W2, N.now.cell? ⟨C, j, none⟩ = some (.int .i64 κ) := fun N => by
              have := (S.grown N.below).cr.cell (i := j) hj
              rwa [HCl.out] at this
            have e0 := fun N : Later W2 => (S.tr.f.v.grown N.below).c0
            have e1 := fun N : Later W2 => (S.tr.f.v.grown N.below).c1
            have e2 := fun N : Later W2 => (S.tr.f.v.grown N.below).c2
            have e3 := fun N : Later W2 => (S.tr.f.v.grown N.below).c3
            have e4 := fun N : Later W2 => (S.tr.f.v.grown N.below).c4
            have e5 := fun N : Later W2 => (S.tr.f.v.grown N.below).c5
            have e6 := fun N : Later W2 => (S.tr.f.v.grown N.below).c6
            haveI := Later.exists W2
            refine wp_region_later (by kernel_rfl) (by kernel_rfl) ?_
            repeat (go_big_quiet_step (first
              | (go_at_call 12; exact Calls.later (bw _))
              | (go_at_call 20; exact Calls.later (ofa _ _ (by omega) (by omega)))))
            refine wpQuiet_nil ?_
            rintro _ ⟨nq, rfl⟩
            clear e0 e1 e2 e3 e4 e5 e6 g0 g1 g2 g3 g4 g5 ofa bw ch
            have hcmp : ¬ ((U : Int) < (x : Int) + (room κ : Int) - (Bv : Int)) := by omega
            have A7 : Hid (Share 3 w nq.now L E A C G M k K s6 (σ + 1) y' (upd θ j .nil) cl (marked g x 0) ∧ At nq.now B 0 34 #[.int .i64 (x : Nat), .int .i64 (i : Nat)] [.int .i64 (x : Nat), .int .i64 (i : Nat)]) := by
              rw [marked0]
              exact ⟨S.grown nq.below, sp8.grown nq.below⟩
            clear S sp8
            go_wp2
            clear hcmp hx1 hx2 hU1 hU2 hxh hxl
            go_loopw [20] (fun qv wr => ∃ q : Nat, qv = .int .i64 q ∧ q ≤ room κ ∧ Share 3 w wr L E A C G M k K s6 (σ + 1) y' (upd θ j .nil) cl (marked g x q) ∧ At wr B 0 34 #[.int .i64 (x : Nat), .int .i64 (i : Nat)] [.int .i64 (x : Nat), .int .i64 (i : Nat)]) (fun qv _ => room κ - (intOf qv).toNat)
            case atStart => exact ⟨0, rfl, Nat.zero_le _, A7.out.1, A7.out.2⟩
            case round =>
              clear A7
              obtain ⟨q, rfl, hq, S, sp8⟩ := hrel
              by_cases hqr : q < room κ
              · have hqr' : (q : Int) < (room κ : Int) := by omega
                have hqK : (x : Int) + (q : Int) < (K : Int) := by omega
                have hg0 : marked g x q (x + q) = false := by
                  have h1 := PZ.out.new (x + q) (by omega) (by omega)
                  have h2 : decide (x ≤ x + q ∧ x + q < x + q) = false := decide_eq_false (by omega)
                  simp only [marked]
                  rw [h1, h2]
                  rfl
                have y0 := sp8.at0 0 rfl
                have cG := S.gr.cell (i := x + q) (by omega)
                rw [hg0] at cG
                have cf := S.gr.frozen (x + q)
                have hv : Given k y' (marked g x (q + 1)) := PZ.out.given.mono (fun aa ha => by
                  simp only [marked, Bool.or_eq_true, decide_eq_true_eq] at ha ⊢
                  rcases ha with ha | ha
                  · exact .inl ha
                  · exact .inr ⟨ha.1, by omega⟩)
                have S9 : Hid (Share 3 w (wr.setCell ⟨G, x + q, none⟩ (.bool true)) L E A C G M k K s6 (σ + 1) y' (upd θ j .nil) cl (marked g x (q + 1))) := S.mark SA.out hv
                have hGB : B ≠ G := by have := SA.out.gm; have := HB.out; omega
                have sp9 : Hid (At (wr.setCell ⟨G, x + q, none⟩ (.bool true)) B 0 34 #[.int .i64 (x : Nat), .int .i64 (i : Nat)] [.int .i64 (x : Nat), .int .i64 (i : Nat)]) := sp8.other hGB _ _
                clear S hg0 hv sp8
                go_wp2
                go_roundw
                case rel => exact ⟨q + 1, by go_num, by omega, S9.out, sp9.out⟩
                case measure => simp [intOf]; omega
              · have hqr' : ¬ (q : Int) < (room κ : Int) := by omega
                have F8 : Hid (Share 3 w wr L E A C G M k K s6 (σ + 1) y' (upd θ j .nil) cl (marked g x q)) := S
                clear S sp8
                go_wp2
                go_roundw
                case rel => exact ⟨r + 1, a, s6, σ + 1, y', _, cl, _, rfl, by omega, by omega, by go_num, by omega, F8.out⟩
                case measure => simp [intOf]; omega
          · have hto : τ'.told = (0, 0, false) := by
              cases τ' with
              | won x i => exact absurd ⟨x, i, rfl⟩ hw
              | _ => rfl
            have HTo : Hid (τ'.told = (0, 0, false)) := hto
            clear hw hto
            go_wp2_with (first
              | (go_at_call 18; refine (S5.step SA.out hj hθ (by omega) y' τ' HT.out true ho2).mono ?_; rintro e w6 ⟨rfl, s6, S6⟩; have qa6 := S6.tr.a.cell (i := j) hj; rw [upd_same] at qa6; simp only [Who.v] at qa6; obtain ⟨⟨cs6, pl6⟩, gd6, kk6, hM6⟩ := S6.tr.th j hj b κ τ' (upd_same _ _ _))
              | (go_at_call 19; refine (spot_any pl6 0 0 false HTo.out).mono ?_; rintro e w7 ⟨rfl, b7⟩; have S7 := (S6.grown b7).grown (grow_alloc (Below.refl _ _) (.cells #[.int .i64 0, .int .i64 0] 34)); have qa7 := S7.tr.a.cell (i := j) hj; rw [upd_same] at qa7; simp only [Who.v] at qa7; have qf7 := S7.tr.a.frozen j))
            have S8 := S7.drop SA.out (j := j)
            rw [upd_upd] at S8
            go_roundw
            case rel => exact ⟨r + 1, a, s6, σ + 1, y', _, cl, g, rfl, by omega, by omega, by go_num, by omega, S8⟩
            case measure => simp [intOf]; omega
    · have F9 := S.tr.f.b
      clear S
      by_cases hrN : r < N
      · have hrN' : (r : Int) < (N : Int) := by omega
        have hr3' : ¬ (r : Int) < 400 := by omega
        go_wp2
        go_ret
        exact ⟨rfl, F9⟩
      · have hrN' : ¬ (r : Int) < (N : Int) := by omega
        go_wp2
        go_ret
        exact ⟨rfl, F9⟩

end Go.Proofs.Ytbhjokfgajjoiaa
