/- AllocAlone answers true for all numbers and every slice of numbers, and leaves what was in memory. -/
import Derived.Test.YtocmkmeikcejjaaAllocFate
namespace Go.Proofs.Ytocmkmeikcejjaa
open Go.RowKit

/-- how much is used of the first j chunks -/
def sumU (y : Y) : Nat → Nat
  | 0 => 0
  | j + 1 => sumU y j + (y.ck j).us

theorem sumU_le {j : Nat} (y : Y) (hu : ∀ i, i < j → (y.ck i).us ≤ 20) : sumU y j ≤ 20 * j := by
  induction j with
  | zero => simp [sumU]
  | succ j ih =>
    have h1 := ih (fun i hi => hu i (by omega))
    have h2 := hu j (by omega)
    simp only [sumU]; omega

theorem sumU_pos (y : Y) {i : Nat} : ∀ {j : Nat}, i < j → 0 < (y.ck i).us → 0 < sumU y j
  | 0, h, _ => by omega
  | j + 1, h, hu => by
    simp only [sumU]
    by_cases e : i = j
    · subst e; omega
    · have := sumU_pos y (i := i) (j := j) (by omega) hu
      omega

/-- the arena, while an object is made -/
def phMake (w0 : World) (L : Loc) (E n k : Nat) (s : Mm) (σ : Nat) (q : Q) (nx : Nat) (q' : Q) (nx' : Nat) : Nat → World → Prop
  | 0, w => Camp w0 w L E 1 n k 20 s σ q nx
  | _, w => ∃ s' σ', σ' ≤ σ + 100 ∧ Camp w0 w L E 1 n k 20 s' σ' q' nx'

theorem phMake_grown (w0 : World) (L : Loc) (E n k : Nat) (s : Mm) (σ : Nat) (q : Q) (nx : Nat) (q' : Q) (nx' : Nat) (x y : World) (p : Nat) (g : Grown x y) (h : phMake w0 L E n k s σ q nx q' nx' p x) : phMake w0 L E n k s σ q nx q' nx' p y := by
  match p, h with
  | 0, h => exact Camp.grown h g
  | p + 1, ⟨s', σ', h1, h2⟩ => exact ⟨s', σ', h1, h2.grown g⟩

theorem cell_other {w : World} {b o d i : Nat} {v x : Value} (h : w.cell? ⟨b, o, none⟩ = some x) (hne : b ≠ d) : (w.setCell ⟨d, i, none⟩ v).cell? ⟨b, o, none⟩ = some x :=
  (World.cell?_setCell_other _ _ _ _ (fun e => hne (by first | exact congrArg Addr.block e | exact (congrArg Addr.block e).symm))).trans h

theorem par (r : Nat) : ∃ M : Nat, (r : Int).tmod 2 = (M : Int) := ⟨r % 2, by rw [Int.tmod_eq_emod_of_nonneg (by omega)]; omega⟩

set_option maxRecDepth 20000 in
set_option maxHeartbeats 8000000 in
theorem allocAlone_any (slots chunks : Int) (ao : Option Addr) (N cap : Nat) (z : Nat → Int) (w : World) (hr : IntsAt .i64 w ao N z) :
    Calls Try.prog 3 #[.int .i64 slots, .int .i64 chunks, .slice ao N cap] w fun e w' => e = .returned (.bool true) ∧ Below w.heap.size w w' := by
  have HR : Hid (IntsAt .i64 w ao N z) := hr
  clear hr
  obtain ⟨n, hn, hn1, hn16⟩ := lowAt slots 15 4 1 (by decide) (by decide)
  have hn' : (1 : Int) + bits .and .i64 slots 15 = (n : Int) := hn
  clear hn
  obtain ⟨k, hk, hk1, hk8⟩ := lowAt chunks 7 3 1 (by decide) (by decide)
  have hk' : (1 : Int) + bits .and .i64 chunks 7 = (k : Int) := hk
  clear hk
  have hG : Good 1 n k 20 100 600 3 := goodp (by omega) (by omega) (by omega) (by omega)
  have HG : Hid (Good 1 n k 20 100 600 3) := hG
  have AR := fun w => arena08 hG (by omega) w
  clear hG
  have hmk := run_make_row' (P := Try.prog) 22 3 (.int .i64 0) 8 Try.underlying22 Try.infoW3 rfl .i64 .i64 k (by omega) (by omega)
  go_enter Try.func3, Try.ntmps3
  go_wp2_with (first
    | (go_at_call 4; refine (AR _).mono ?_; rintro e w1 ⟨L, s, rfl, m1, t1, b1, f1⟩; obtain ⟨p1, pa⟩ := Camp.first HG.out m1 t1 (calm0 1 n k 20) b1 f1)
    | (go_at_call 5; refine (awake08_any _).mono ?_; rintro e w2 ⟨rfl, b2⟩; have p2 := p1.grown b2))
  have FA : Hid (PlotApart w L w1.heap.size 1 n k 20) := pa
  obtain ⟨E, hE⟩ : ∃ E, w1.heap.size = E := ⟨_, rfl⟩
  rw [hE] at FA p2 ⊢
  have A2 : Hid (Camp w w2 L E 1 n k 20 s (1 + 2 * n) (Q.new n) 0) := p2
  clear p2 p1 pa m1 t1 b1 f1 b2 AR hE hk' hn'
  obtain ⟨S, hS⟩ : ∃ S, w2.heap.size = S := ⟨_, rfl⟩
  have hneT : ∀ (W : World) (U : Nat) (f : Nat → Value), W.rowIs U 3 k f → ¬ isT 31 W U := fun W U f h hh => by
    obtain ⟨c, hc, _⟩ := h
    obtain ⟨c', hc'⟩ := hh
    rw [hc] at hc'
    injection hc' with e
    injection e with _ e2
    exact absurd e2 (by decide)
  refine wp_region_phase (Vary 31 S) (Made 31) (phVary 31 S 4 (.int .i64 0) (.int .i64 (-1))) [3, 4] [.val (.agg #[.int .i64 (-1), .int .i64 (-1), .int .i64 (-1), .int .i64 (-1)]), .val (.int .i64 k), .that (fun w' v => ∃ U, v = .slice (some ⟨U, 0, none⟩) k k ∧ S ≤ U ∧ w'.rowIs U 3 k (fun _ => .int .i64 0)) ?_, .that (fun w' v => ∃ O, v = .pointer (some ⟨O, 0, none⟩) ∧ S ≤ O ∧ isT 31 w' O) ?_, .that (fun _ _ => True) (fun _ _ _ _ _ => trivial), .that (fun w' v => ∃ U, v = .slice (some ⟨U, 0, none⟩) k k ∧ S ≤ U ∧ w'.rowIs U 3 k (fun _ => .int .i64 0)) ?_, .val (.int .i64 0), .val (.int .i64 0)]
    (by kernel_rfl) Vary.refl Vary.trans Vary.ofMade phVary_made (fun i hi h => by have := h.lt; have e : w2.drew.heap.size = w2.heap.size := rfl; omega) (by kernel_rfl) (by kernel_rfl) (by kernel_rfl) (by kernel_rfl) (by kernel_rfl) ?_
  · rintro x1 y1 v hg ⟨U, hv, hb, hr⟩
    exact ⟨U, hv, hb, hr.of_block (hg.block _ hr.lt (fun hh => hneT _ _ _ hr hh.2))⟩
  · rintro x1 y1 v hg ⟨O, hv, hb, hr⟩
    exact ⟨O, hv, hb, hg.ist _ hr⟩
  · rintro x1 y1 v hg ⟨U, hv, hb, hr⟩
    exact ⟨U, hv, hb, hr.of_block (hg.block _ hr.lt (fun hh => hneT _ _ _ hr hh.2))⟩
  simp only [phaseAll, Act.put, List.setIfInBounds_toArray, List.set_cons_zero, List.set_cons_succ]
  refine ⟨?_, ?_, ?_, ?_⟩
  · intro w' hR _
    refine Or.inl ⟨rfl, ?_⟩
    go_simp
    exact ⟨Made.refl _, rfl⟩
  · intro w' hR _
    refine Or.inl ⟨rfl, ?_⟩
    go_simp
    exact ⟨Made.refl _, rfl⟩
  · intro w' hR _
    refine Or.inl ⟨rfl, ?_⟩
    go_simp
    have hz : S ≤ w'.heap.size := by have := hR.size; have e : w2.drew.heap.size = w2.heap.size := rfl; omega
    have hr := World.rowIs_made w' (.int .i64 0) k 3
    refine ⟨⟨grow_alloc (Below.refl _ _) _, fun b hb hh => ?_⟩, _, rfl, hz, hr⟩
    have h1 := hh.lt
    rw [Go.Deep.nblk_alloc] at h1
    obtain rfl : b = w'.heap.size := by omega
    exact hneT _ _ _ hr hh
  · intro v
    refine ⟨?_, ?_⟩
    · intro w' hR _ hP
      refine Or.inl ⟨rfl, ?_⟩
      have hz : S ≤ w'.heap.size := by have := hR.size; have e : w2.drew.heap.size = w2.heap.size := rfl; omega
      have q := vary_alloc (T := 31) (b := .int .i64 (-1)) #[.int .i64 0, .int .i64 0, .int .i64 0, .int .i64 0] rfl (four _) hz hP
      go_simp
      exact ⟨⟨q.1, q.2.1⟩, _, rfl, hz, q.2.2⟩
    · intro vO
      refine ⟨?_, ?_⟩
      · intro w' hR hf hP
        refine Or.inl ⟨rfl, ?_⟩
        obtain ⟨O, rfl, hO, tO⟩ := hf.1 (by kernel_rfl)
        obtain ⟨O', hO', r, u⟩ : ∃ O', S ≤ O' ∧ w'.rowIs O' 31 4 (fun _ => .int .i64 0) ∧ ∀ i, S ≤ i → isT 31 w' i → i = O' := hP
        obtain rfl := u O hO tO
        have r1 := r.set 0 (.int .i64 (-1))
        have r2 := r1.set 1 (.int .i64 (-1))
        have r3 := r2.set 2 (.int .i64 (-1))
        have r4 := r3.set 3 (.int .i64 (-1))
        have q := (((vary_set hO r 0 (.int .i64 (-1))).trans _ _ _ (vary_set hO r1 1 (.int .i64 (-1)))).trans _ _ _ (vary_set hO r2 2 (.int .i64 (-1)))).trans _ _ _ (vary_set hO r3 3 (.int .i64 (-1)))
        have c0 := r.cell (i := 0) (by omega)
        have c1 := r.cell (i := 1) (by omega)
        have c2 := r.cell (i := 2) (by omega)
        have c3 := r.cell (i := 3) (by omega)
        have cf := r.frozen
        clear hf hneT hmk
        go_simp
        refine ⟨⟨q, O, hO, r4.congr (fun i hi => ?_), fun i hi h => ?_⟩, trivial⟩
        · have : i = 0 ∨ i = 1 ∨ i = 2 ∨ i = 3 := by omega
          rcases this with rfl | rfl | rfl | rfl <;> rfl
        · rcases h.back with h | h
          · exact h
          · rcases h.back with h | h
            · exact h
            · rcases h.back with h | h
              · exact h
              · rcases h.back with h | h
                · exact h
                · exact u i hi h
      · intro vx
        refine ⟨?_, ?_⟩
        · intro w' hR hf
          refine Or.inl ⟨rfl, ?_⟩
          have hU := hf.2.2.1 (by kernel_rfl)
          go_simp
          exact ⟨Made.refl _, hU⟩
        · intro vU
          refine ⟨?_, ?_, ?_⟩
          · intro w' hR hf
            refine Or.inl ⟨rfl, ?_⟩
            go_simp
            exact ⟨Made.refl _, rfl⟩
          · intro w' hR hf
            refine Or.inl ⟨rfl, ?_⟩
            go_simp
            exact ⟨Made.refl _, rfl⟩
          intro w3 hR hP hf
          obtain ⟨U, rfl, hUS, rU⟩ := hf.1
          obtain ⟨O, rfl, hOS, tO⟩ := hf.2.2.1
          obtain ⟨O', hO', rO, u⟩ : ∃ O', S ≤ O' ∧ w3.rowIs O' 31 4 (fun _ => .int .i64 (-1)) ∧ ∀ i, S ≤ i → isT 31 w3 i → i = O' := hP
          obtain rfl := u O hOS tO
          have p3 := A2.out.drew.grown (hR.below (show w2.heap.size ≤ S by omega))
          have hOU : Hid (O ≠ U) := fun e => by subst e; exact hneT _ _ _ rU tO
          have hLO : Hid (¬ L.has O) := fun hh => by have := A2.out.mm.lt _ hh; omega
          have hLU : Hid (¬ L.has U) := fun hh => by have := A2.out.mm.lt _ hh; omega
          have hEO : Hid (E ≠ O) := by unfold Hid; have := A2.out.ltE; omega
          have hEU : Hid (E ≠ U) := by unfold Hid; have := A2.out.ltE; omega
          have hwO : Hid (w.heap.size ≤ O) := by unfold Hid; have := A2.out.b.size; omega
          have hwU : Hid (w.heap.size ≤ U) := by unfold Hid; have := A2.out.b.size; omega
          have A3 : Hid (Camp w w3 L E 1 n k 20 s (1 + 2 * n) (Q.new n) 0 ∧ Tally w3 O U k Y.new) := ⟨p3, rO.congr (fun i _ => by simp [Y.new]), rU.congr (fun i _ => by simp [Y.new])⟩
          clear hf rO rU tO u p3 hR hO' hOS hUS A2 hneT hmk hS
          go_wp2
          have hupn : (Q.new n).F.length = n := upFrom_len n n
          go_loopw [13, 14, 15] (fun nv mv j wr => ∃ (r nx md : Nat) (s2 : Mm) (σ : Nat) (q : Q), r ≤ 40 ∧ nv = .int .i64 nx ∧ mv = .int .i64 md ∧ j = .int .i64 r ∧ σ ≤ 33 + 100 * r ∧ Camp w wr L E 1 n k 20 s2 σ q nx ∧ Tally wr O U k q.y ∧ q.F.length + md = n ∧ (md = 0 ∨ ∃ i, i < k ∧ 0 < (q.y.ck i).us)) (fun _ _ j _ => 40 - (intOf j).toNat)
          case atStart => exact ⟨0, 0, 0, s, 1 + 2 * n, Q.new n, by omega, rfl, rfl, rfl, by omega, A3.out.1, A3.out.2, by omega, .inl rfl⟩
          case round =>
            clear A3
            obtain ⟨r, nx, md, s2, σ, q, hr40, rfl, rfl, rfl, hσ, c, tl, hsum, hpos⟩ := hrel
            by_cases hr' : r < N ∧ r < 40
            · obtain ⟨hrN, hr3⟩ := hr'
              have hr3' : (r : Int) < 40 := by omega
              have hrN' : (r : Int) < (N : Int) := by omega
              obtain ⟨zb, zo, rfl, hz0⟩ := HR.out r hrN
              have hzb : zb < w.heap.size := World.block_lt_of_cell? w _ hz0
              have hzL : Hid (¬ L.has zb) := fun hh => by have := FA.out.l0 _ hh; omega
              have hz := keep' c.b hz0
              obtain ⟨M2, hM2⟩ := par r
              obtain ⟨ow, how⟩ : ∃ ow : Bool, ((M2 : Int) == 0) = ow := ⟨_, rfl⟩
              obtain ⟨Kc, hKc⟩ : ∃ Kc, classOf (z r) = Kc := ⟨_, rfl⟩
              have rc := fun w => rclass_any (z r) w
              rw [hKc] at rc
              have hnx := c.cm.al.le
              have HCM : Hid (Calm 1 n k 20 q nx) := c.cm
              have hlt := c.tw.pile.lt
              have HLT : Hid (∀ x, x ∈ q.F → x < n) := hlt
              obtain ⟨E0, H0, q', nx', fate, mk⟩ := c.fate (own := ow) FA.out (z r) (by omega)
              have HMK : Hid (∀ w1 : World, Camp w w1 L E 1 n k 20 s2 σ q nx →
                Calls Try.prog 7 #[.agg #[.int .i64 1, .int .i64 n, .int .i64 k, .int .i64 20, .int .i64 100, .int .i64 600, .int .i64 3, .pointer (some ⟨L.p, 0, none⟩), .int .i64 0], .int .i64 (z r), .bool ow] w1 fun e w' => ∃ (st : Nat) (s' : Mm) (σ' : Nat), e = .returned (.agg #[.int .i64 E0, .int .u64 H0, .int .i64 0, .int .i64 st]) ∧ σ' ≤ σ + 100 ∧ Camp w w' L E 1 n k 20 s' σ' q' nx' ∧ Only L.has w1 w') := mk
              have HF : Hid (Fate 1 n k 20 ow q nx (z r) E0 H0 q' nx') := fate
              have HC : Hid (Camp w wr L E 1 n k 20 s2 σ q nx) := c
              clear hlt mk fate c
              go_wp2_with (go_at_call 6; refine (rc _).mono ?_; rintro e w5 ⟨rfl, b5⟩)
              have c := HC.out.grown b5
              have tl5 := tl.grown b5
              have hz5 := keep' b5 hz
              refine wp_over (fun W => Camp w W L E 1 n k 20 s2 σ q nx ∧ Tally W O U k q.y ∧ W.cell? ⟨zb, zo + r, none⟩ = some (.int .i64 (z r))) ⟨c, tl5, hz5⟩ ?_
              clear c tl5 hz5 tl HC hz rc b5
              rintro W ⟨c, tl, hz⟩
              obtain ⟨Sz, hSz⟩ : ∃ Sz, W.heap.size = Sz := ⟨_, rfl⟩
              have hLS : ∀ i, L.has i → i < Sz := fun i hi => by have := c.mm.lt i hi; omega
              have hLE := FA.out.e
              have hzU : zb ≠ U := by have := hwU.out; omega
              have hzO : zb ≠ O := by have := hwO.out; omega
              refine wp_region_phase_tail (Only L.has) Grown (phMake w L E n k s2 σ q nx q' nx') 10 [8] [.val (.agg #[.int .i64 1, .int .i64 n, .int .i64 k, .int .i64 20, .int .i64 100, .int .i64 600, .int .i64 3, .pointer (some ⟨L.p, 0, none⟩), .int .i64 0]), .val (.slice (some ⟨zb, zo, none⟩) N cap), .val (.int .i64 r), .val (.pointer (some ⟨zb, zo + r, none⟩)), .val (.int .i64 (z r)), .val (.int .i64 r), .val (.int .i64 M2), .val (.bool ow), .that (fun _ v => ∃ st : Nat, v = .agg #[.int .i64 E0, .int .u64 H0, .int .i64 0, .int .i64 st]) (fun _ _ _ _ h => h), .that (fun w' v => ∃ X, v = .pointer (some ⟨X, 0, none⟩) ∧ Sz ≤ X ∧ At w' X 0 36 #[.int .i64 0, .int .u64 0, .int .i64 0, .int .i64 0] [.int .i64 0, .int .u64 0, .int .i64 0, .int .i64 0]) ?_]
                (by kernel_rfl) (Only.refl _) (fun _ _ _ h k => h.trans k) (fun x y h => Only.ofGrown h) (phMake_grown w L E n k s2 σ q nx q' nx') c.drew (by decide) (by kernel_rfl) (by kernel_rfl) (by kernel_rfl) (by kernel_rfl) (by kernel_rfl) (by kernel_rfl) (by kernel_rfl) (by kernel_rfl) ?_
              · rintro x1 y1 v hg ⟨X, hv, hb, hr⟩
                exact ⟨X, hv, hb, hr.only hg (fun hh => by have := hLS _ hh; omega)⟩
              simp only [List.take_succ_cons, List.take_zero, phaseAll, Act.put, List.setIfInBounds_toArray, List.set_cons_zero, List.set_cons_succ]
              refine ⟨?_, ?_, ?_, ?_, ?_, ?_, ?_, ?_, ?_, ?_⟩
              · intro w' hR _
                refine Or.inl ⟨rfl, ?_⟩
                have vv := (c.v.grown ((Below.refl _ _).drew)).only hR hLE
                have y0 := vv.c0
                have y1 := vv.c1
                have y2 := vv.c2
                have y3 := vv.c3
                have y4 := vv.c4
                have y5 := vv.c5
                have y6 := vv.c6
                have y7 := vv.c7
                have y8 := vv.c8
                go_simp
                exact ⟨Grown.refl _, rfl⟩
              · intro w' hR _
                refine Or.inl ⟨rfl, ?_⟩
                go_simp
                exact ⟨Grown.refl _, rfl⟩
              · intro w' hR _
                refine Or.inl ⟨rfl, ?_⟩
                go_simp
                exact ⟨Grown.refl _, rfl⟩
              · intro w' hR _
                refine Or.inl ⟨rfl, ?_⟩
                have hb : (0 : Int) ≤ (r : Int) := by omega
                go_simp
                exact ⟨Grown.refl _, rfl⟩
              · intro w' hR _
                refine Or.inl ⟨rfl, ?_⟩
                have q0 := hR.keep (b := zb) (o := zo + r) (v := .int .i64 (z r)) hzL.out hz
                go_simp
                exact ⟨Grown.refl _, rfl⟩
              · intro w' hR _
                refine Or.inl ⟨rfl, ?_⟩
                go_simp
                exact ⟨Grown.refl _, rfl⟩
              · intro w' hR _
                refine Or.inl ⟨rfl, ?_⟩
                go_simp
                exact ⟨Grown.refl _, rfl⟩
              · intro w' hR _
                refine Or.inl ⟨rfl, ?_⟩
                go_simp
                exact ⟨Grown.refl _, rfl⟩
              · intro w' hR _ hP
                refine Or.inl ⟨rfl, ?_⟩
                have hP' : Camp w w' L E 1 n k 20 s2 σ q nx := hP
                go_simp
                refine (HMK.out w' hP').mono ?_
                rintro e w'' ⟨st, s', σ', rfl, h1, h2, h3⟩
                exact ⟨_, rfl, ⟨h3, s', σ', h1, h2⟩, st, rfl⟩
              intro vD
              refine ⟨?_, ?_⟩
              · intro w' hR _
                refine Or.inl ⟨rfl, ?_⟩
                have hzz : Sz ≤ w'.heap.size := by have := hR.size; have e : W.drew.heap.size = W.heap.size := rfl; omega
                have qq := At.new w' 36 [.int .i64 0, .int .u64 0, .int .i64 0, .int .i64 0]
                go_simp
                exact ⟨grow_alloc (Below.refl _ _) _, _, rfl, hzz, qq⟩
              intro vX w8 hR hP hf
              obtain ⟨D, rfl, hDS, d8⟩ := hf.1
              obtain ⟨st, rfl⟩ := hf.2.1
              obtain ⟨s6, σ6, hσ6, c8⟩ : ∃ s' σ', σ' ≤ σ + 100 ∧ Camp w w8 L E 1 n k 20 s' σ' q' nx' := hP
              have tl8 := (tl.grown ((Below.refl _ _).drew)).only hR hLO.out hLU.out
              have z8 := hR.keep (b := zb) (o := zo + r) (v := .int .i64 (z r)) hzL.out (keep' ((Below.refl _ _).drew) hz)
              have hLD : ¬ L.has D := fun hh => by have := hLS _ hh; omega
              have hED : E ≠ D := by have := c.ltE; omega
              have hwD : w.heap.size ≤ D := by have := c.b.size; omega
              have hOD : O ≠ D := by have := tl.o.lt; omega
              have hUD : U ≠ D := by have := tl.u.lt; omega
              have hzD : zb ≠ D := by omega
              have x0 := d8.at0 0 rfl
              have x1 := d8.at0 1 rfl
              have x2 := d8.at0 2 rfl
              have x3 := d8.at0 3 rfl
              have xf := d8.fz
              have c9 := (((c8.setIn hwD hED hLD 0 (.int .i64 E0)).setIn hwD hED hLD 1 (.int .u64 H0)).setIn hwD hED hLD 2 (.int .i64 0)).setIn hwD hED hLD 3 (.int .i64 st)
              have d9 := (((d8.put0 0 (.int .i64 E0)).put0 1 (.int .u64 H0)).put0 2 (.int .i64 0)).put0 3 (.int .i64 st)
              have tl9 : Tally ((((w8.setCell ⟨D, 0, none⟩ (.int .i64 E0)).setCell ⟨D, 1, none⟩ (.int .u64 H0)).setCell ⟨D, 2, none⟩ (.int .i64 0)).setCell ⟨D, 3, none⟩ (.int .i64 st)) O U k q.y := ⟨(((tl8.o.setOther hOD _).setOther hOD _).setOther hOD _).setOther hOD _, (((tl8.u.setOther hUD _).setOther hUD _).setOther hUD _).setOther hUD _⟩
              clear hf tl8 tl c
              have hz9 := cell_other (i := 3) (v := .int .i64 st) (cell_other (i := 2) (v := .int .i64 0) (cell_other (i := 1) (v := .int .u64 H0) (cell_other (i := 0) (v := .int .i64 E0) z8 hzD) hzD) hzD) hzD
              clear z8 hR hz
              have c := c9
              have tl := tl9
              have dd := d9
              have hz := hz9
              clear c9 tl9 d9 hz9 c8 d8 hLS hSz hDS HMK
              have hF := HF.out
              clear HF
              cases hF with
              | bad hb =>
                rw [hKc] at hb
                have dE := dd.at0 0 rfl
                go_wp2
                go_roundw
                case rel => exact ⟨r + 1, nx, md, s6, σ6, q, by omega, by go_num, by go_num, by go_num, by omega, c, tl, hsum, hpos⟩
                case measure => simp [intOf]; omega
              | empty κ hκ kz hF =>
                obtain rfl : Kc = (κ : Int) := hKc.symm.trans kz
                have hmd : (n : Int) ≤ (md : Int) := by rw [hF] at hsum; simp at hsum; omega
                have dE := dd.at0 0 rfl
                go_wp2
                go_roundw
                case rel => exact ⟨r + 1, nx, md, s6, σ6, q, by omega, by go_num, by go_num, by go_num, by omega, c, tl, hsum, hpos⟩
                case measure => simp [intOf]; omega
              | full κ hκ kz x F hF hno hk =>
                obtain rfl : Kc = (κ : Int) := hKc.symm.trans kz
                have hmd : ¬ (n : Int) ≤ (md : Int) := by rw [hF] at hsum; simp at hsum; omega
                have hnk : (k : Int) ≤ (nx : Int) := by omega
                cases hop : q.y.op κ with
                | zero =>
                  have hrm := room_bd κ
                  go_wp2_with (go_at_call 8; refine (rroom_w κ hκ _).mono ?_; rintro e w5 ⟨rfl, b5⟩; have c5 := c.grown b5; have tl5 := tl.grown b5; have dd5 := dd.grown b5; have dE := dd5.at0 0 rfl; have cO : w5.cell? ⟨O, κ, none⟩ = some (.int .i64 (-1)) := by { have := tl5.o.cell (i := κ) hκ; rw [hop] at this; simpa using this })
                  go_roundw
                  case rel => exact ⟨r + 1, nx, md, s6, σ6, q.back x F q.y, by omega, by go_num, by go_num, by go_num, by omega, c5, tl5, by rw [hF] at hsum; exact hsum, hpos⟩
                  case measure => simp [intOf]; omega
                | succ i0 =>
                  have hrm := room_bd κ
                  have hi0 : i0 < k := by have := HCM.out.al.opn κ hκ i0 hop; omega
                  have hi0' : (i0 : Int) < (k : Int) := by omega
                  have hub := HCM.out.us i0 hi0
                  have hfit' : ¬ ((q.y.ck i0).us : Int) + (room κ : Int) ≤ 20 := by have := hno i0 hop; omega
                  go_wp2_with (go_at_call 8; refine (rroom_w κ hκ _).mono ?_; rintro e w5 ⟨rfl, b5⟩; have c5 := c.grown b5; have tl5 := tl.grown b5; have dd5 := dd.grown b5; have dE := dd5.at0 0 rfl; have cO : w5.cell? ⟨O, κ, none⟩ = some (.int .i64 (i0 : Int)) := by { have := tl5.o.cell (i := κ) hκ; rw [hop] at this; simpa using this }; have cU := tl5.u.cell hi0)
                  go_roundw
                  case rel => exact ⟨r + 1, nx, md, s6, σ6, q.back x F q.y, by omega, by go_num, by go_num, by go_num, by omega, c5, tl5, by rw [hF] at hsum; exact hsum, hpos⟩
                  case measure => simp [intOf]; omega
              | fit Z κ hZ hz1 hz2 hκ kz x F hF i0 hop hu =>
                rw [hZ] at hKc hz
                obtain rfl : Kc = (κ : Int) := hKc.symm.trans kz
                have hmd : ¬ (n : Int) ≤ (md : Int) := by rw [hF] at hsum; simp at hsum; omega
                have hx : x < n := HLT.out x (by rw [hF]; simp)
                have hrm := room_bd κ
                have hi0 : i0 < k := by have := HCM.out.al.opn κ hκ i0 hop; omega
                have hi0' : (i0 : Int) < (k : Int) := by omega
                have hub := HCM.out.us i0 hi0
                have hfit' : ((q.y.ck i0).us : Int) + (room κ : Int) ≤ 20 := by omega
                go_wp2_with (go_at_call 8; refine (rroom_w κ hκ _).mono ?_; rintro e w5 ⟨rfl, b5⟩; have c5 := c.grown b5; have tl5 := tl.grown b5; have dd5 := dd.grown b5; have dE := dd5.at0 0 rfl; have cO : w5.cell? ⟨O, κ, none⟩ = some (.int .i64 (i0 : Int)) := by { have := tl5.o.cell (i := κ) hκ; rw [hop] at this; simpa using this }; have cU := tl5.u.cell hi0; have cUf := tl5.u.frozen i0)
                have hst : ((⟨1, κ, (q.y.ck i0).us + room κ, (q.y.ck i0).sp⟩ : Ck).us : Int) = ((q.y.ck i0).us : Int) + (room κ : Int) := by simp
                have tl6 := tl5.setU hOU.out i0 (⟨1, κ, (q.y.ck i0).us + room κ, (q.y.ck i0).sp⟩ : Ck)
                rw [hst] at tl6
                have c6 := c5.setIn hwU.out hEU.out hLU.out i0 (.int .i64 (((q.y.ck i0).us : Int) + (room κ : Int)))
                have dd6 := dd5.other (Ne.symm hUD) i0 (.int .i64 (((q.y.ck i0).us : Int) + (room κ : Int)))
                have hz6 : (w5.setCell ⟨U, i0, none⟩ (.int .i64 (((q.y.ck i0).us : Int) + (room κ : Int)))).cell? ⟨zb, zo + r, none⟩ = some (.int .i64 (z r)) := by
                  exact cell_other (keep' b5 (by rw [hZ]; exact hz)) hzU
                refine wp_over (fun W => Camp w W L E 1 n k 20 s6 σ6 (q.made x F ⟨upd q.y.ck i0 (⟨1, κ, (q.y.ck i0).us + room κ, (q.y.ck i0).sp⟩ : Ck), q.y.op⟩ (base 1 n k 20 i0 + (q.y.ck i0).us) i0 κ Z ow) nx ∧ Tally W O U k ⟨upd q.y.ck i0 (⟨1, κ, (q.y.ck i0).us + room κ, (q.y.ck i0).sp⟩ : Ck), q.y.op⟩ ∧ At W D 0 36 _ [.int .i64 0, .int .u64 (packH x 1), .int .i64 0, .int .i64 st] ∧ W.cell? ⟨zb, zo + r, none⟩ = some (.int .i64 (z r))) ⟨c6, tl6, dd6, hz6⟩ ?_
                clear c6 tl6 dd6 hz6 c5 tl5 dd5 b5 dE x0 x1 x2 x3 xf cO cU cUf hst  c tl dd hz
                rintro W3 ⟨c, tl, dd, hz⟩
                rw [hZ] at hz
                obtain ⟨H1, hH1⟩ : ∃ H1, packH (x : Int) 1 = H1 := ⟨_, rfl⟩
                have snd : Hid (∀ N : Later W3, Calls Try.prog 9 #[.agg #[.int .i64 1, .int .i64 n, .int .i64 k, .int .i64 20, .int .i64 100, .int .i64 600, .int .i64 3, .pointer (some ⟨L.p, 0, none⟩), .int .i64 0], .int .u64 H1, .int .i64 Z, .bool ow] N.now fun e w' => e = .returned (.bool true) ∧ Below N.now.heap.size N.now w') := fun N => by
                  have := Camp.sound (own := ow) HCM.out hx (c.grown N.below) FA.out (by omega) (by omega) hz1 hz2 kz hκ hF (.fit i0 hop hu)
                  rw [← hH1]
                  exact this
                rw [hH1] at dd
                have e0 := fun N : Later W3 => (c.v.grown N.below).c0
                have e1 := fun N : Later W3 => (c.v.grown N.below).c1
                have e2 := fun N : Later W3 => (c.v.grown N.below).c2
                have e3 := fun N : Later W3 => (c.v.grown N.below).c3
                have e4 := fun N : Later W3 => (c.v.grown N.below).c4
                have e5 := fun N : Later W3 => (c.v.grown N.below).c5
                have e6 := fun N : Later W3 => (c.v.grown N.below).c6
                have e7 := fun N : Later W3 => (c.v.grown N.below).c7
                have e8 := fun N : Later W3 => (c.v.grown N.below).c8
                have g0 := fun N : Later W3 => (dd.grown N.below).at0 0 rfl
                have g1 := fun N : Later W3 => (dd.grown N.below).at0 1 rfl
                have g2 := fun N : Later W3 => keep' N.below hz
                haveI := Later.exists W3
                refine wp_region_later (by kernel_rfl) (by kernel_rfl) ?_
                repeat (go_big_quiet_step ((go_at_call 9; exact Calls.later (snd.out _))))
                refine wpQuiet_nil ?_
                rintro _ ⟨nq, rfl⟩
                clear e0 e1 e2 e3 e4 e5 e6 e7 e8 g0 g1 g2
                have c7 := c.grown nq.below
                have tl7 := tl.grown nq.below
                have hpos7 : md + 1 = 0 ∨ ∃ i, i < k ∧ 0 < (Y.ck ⟨upd q.y.ck i0 (⟨1, κ, (q.y.ck i0).us + room κ, (q.y.ck i0).sp⟩ : Ck), q.y.op⟩ i).us := .inr ⟨i0, by omega, by show 0 < (upd q.y.ck i0 (⟨1, κ, (q.y.ck i0).us + room κ, (q.y.ck i0).sp⟩ : Ck) i0).us; rw [upd_same]; simp only; omega⟩
                have hsum7 : F.length + (md + 1) = n := by rw [hF] at hsum; simp at hsum; omega
                go_wp2
                go_roundw
                case rel => exact ⟨r + 1, nx, md + 1, s6, σ6, (q.made x F ⟨upd q.y.ck i0 (⟨1, κ, (q.y.ck i0).us + room κ, (q.y.ck i0).sp⟩ : Ck), q.y.op⟩ (base 1 n k 20 i0 + (q.y.ck i0).us) i0 κ Z ow), by omega, by go_num, by go_num, by go_num, by omega, c7, tl7, hsum7, hpos7⟩
                case measure => simp [intOf]; omega
              | new Z κ hZ hz1 hz2 hκ kz x F hF hno hk =>
                rw [hZ] at hKc hz
                obtain rfl : Kc = (κ : Int) := hKc.symm.trans kz
                have hmd : ¬ (n : Int) ≤ (md : Int) := by rw [hF] at hsum; simp at hsum; omega
                have hx : x < n := HLT.out x (by rw [hF]; simp)
                have hnk : ¬ (k : Int) ≤ (nx : Int) := by omega
                have hu0 : (q.y.ck nx).us = 0 := (HCM.out.al.fre nx (Nat.le_refl _) hk).2
                cases hop : q.y.op κ with
                | zero =>
                  have hrm := room_bd κ
                  have hci' : (nx : Int) < (k : Int) := by omega
                  go_wp2_with (go_at_call 8; refine (rroom_w κ hκ _).mono ?_; rintro e w5 ⟨rfl, b5⟩; have c5 := c.grown b5; have tl5 := tl.grown b5; have dd5 := dd.grown b5; have dE := dd5.at0 0 rfl; have cO : w5.cell? ⟨O, κ, none⟩ = some (.int .i64 (-1)) := by { have := tl5.o.cell (i := κ) hκ; rw [hop] at this; simpa using this }; have cOf := tl5.o.frozen κ; have tl6 := tl5.setO hOU.out.symm κ nx; have cO2 : (w5.setCell ⟨O, κ, none⟩ (.int .i64 nx)).cell? ⟨O, κ, none⟩ = some (.int .i64 nx) := by { have := tl6.o.cell (i := κ) hκ; simpa [upd_same] using this }; have cU2 : (w5.setCell ⟨O, κ, none⟩ (.int .i64 nx)).cell? ⟨U, nx, none⟩ = some (.int .i64 0) := by { have := tl6.u.cell hk; simp only [hu0] at this; simpa using this }; have cUf := tl6.u.frozen nx)
                  have tl7 := tl6.setU hOU.out nx (⟨1, κ, room κ, (q.y.ck nx).sp + 1⟩ : Ck)
                  have c6 := (c5.setIn hwO.out hEO.out hLO.out κ (.int .i64 nx)).setIn hwU.out hEU.out hLU.out nx (.int .i64 (room κ : Int))
                  have dd6 := (dd5.other (Ne.symm hOD) κ (.int .i64 nx)).other (Ne.symm hUD) nx (.int .i64 (room κ : Int))
                  have hz6 : ((w5.setCell ⟨O, κ, none⟩ (.int .i64 nx)).setCell ⟨U, nx, none⟩ (.int .i64 (room κ : Int))).cell? ⟨zb, zo + r, none⟩ = some (.int .i64 (z r)) := by
                    exact cell_other (cell_other (keep' b5 (by rw [hZ]; exact hz)) hzO) hzU
                  have tl6 := tl7
                  refine wp_over (fun W => Camp w W L E 1 n k 20 s6 σ6 (q.made x F ⟨upd q.y.ck nx (⟨1, κ, room κ, (q.y.ck nx).sp + 1⟩ : Ck), upd q.y.op κ (nx + 1)⟩ (base 1 n k 20 nx) nx κ Z ow) (nx + 1) ∧ Tally W O U k ⟨upd q.y.ck nx (⟨1, κ, room κ, (q.y.ck nx).sp + 1⟩ : Ck), upd q.y.op κ (nx + 1)⟩ ∧ At W D 0 36 _ [.int .i64 0, .int .u64 (packH x 1), .int .i64 0, .int .i64 st] ∧ W.cell? ⟨zb, zo + r, none⟩ = some (.int .i64 (z r))) ⟨c6, tl6, dd6, hz6⟩ ?_
                  clear c6 tl6 dd6 hz6 c5 tl5 dd5 b5 dE x0 x1 x2 x3 xf cO cOf cO2 cU2 cUf tl7  c tl dd hz
                  rintro W3 ⟨c, tl, dd, hz⟩
                  rw [hZ] at hz
                  obtain ⟨H1, hH1⟩ : ∃ H1, packH (x : Int) 1 = H1 := ⟨_, rfl⟩
                  have snd : Hid (∀ N : Later W3, Calls Try.prog 9 #[.agg #[.int .i64 1, .int .i64 n, .int .i64 k, .int .i64 20, .int .i64 100, .int .i64 600, .int .i64 3, .pointer (some ⟨L.p, 0, none⟩), .int .i64 0], .int .u64 H1, .int .i64 Z, .bool ow] N.now fun e w' => e = .returned (.bool true) ∧ Below N.now.heap.size N.now w') := fun N => by
                    have := Camp.sound (own := ow) HCM.out hx (c.grown N.below) FA.out (by omega) (by omega) hz1 hz2 kz hκ hF (.new hno hk)
                    rw [← hH1]
                    exact this
                  rw [hH1] at dd
                  have e0 := fun N : Later W3 => (c.v.grown N.below).c0
                  have e1 := fun N : Later W3 => (c.v.grown N.below).c1
                  have e2 := fun N : Later W3 => (c.v.grown N.below).c2
                  have e3 := fun N : Later W3 => (c.v.grown N.below).c3
                  have e4 := fun N : Later W3 => (c.v.grown N.below).c4
                  have e5 := fun N : Later W3 => (c.v.grown N.below).c5
                  have e6 := fun N : Later W3 => (c.v.grown N.below).c6
                  have e7 := fun N : Later W3 => (c.v.grown N.below).c7
                  have e8 := fun N : Later W3 => (c.v.grown N.below).c8
                  have g0 := fun N : Later W3 => (dd.grown N.below).at0 0 rfl
                  have g1 := fun N : Later W3 => (dd.grown N.below).at0 1 rfl
                  have g2 := fun N : Later W3 => keep' N.below hz
                  haveI := Later.exists W3
                  refine wp_region_later (by kernel_rfl) (by kernel_rfl) ?_
                  repeat (go_big_quiet_step ((go_at_call 9; exact Calls.later (snd.out _))))
                  refine wpQuiet_nil ?_
                  rintro _ ⟨nq, rfl⟩
                  clear e0 e1 e2 e3 e4 e5 e6 e7 e8 g0 g1 g2
                  have c7 := c.grown nq.below
                  have tl7 := tl.grown nq.below
                  have hpos7 : md + 1 = 0 ∨ ∃ i, i < k ∧ 0 < (Y.ck ⟨upd q.y.ck nx (⟨1, κ, room κ, (q.y.ck nx).sp + 1⟩ : Ck), upd q.y.op κ (nx + 1)⟩ i).us := .inr ⟨nx, by omega, by show 0 < (upd q.y.ck nx (⟨1, κ, room κ, (q.y.ck nx).sp + 1⟩ : Ck) nx).us; rw [upd_same]; simp only; omega⟩
                  have hsum7 : F.length + (md + 1) = n := by rw [hF] at hsum; simp at hsum; omega
                  go_wp2
                  go_roundw
                  case rel => exact ⟨r + 1, (nx + 1), md + 1, s6, σ6, (q.made x F ⟨upd q.y.ck nx (⟨1, κ, room κ, (q.y.ck nx).sp + 1⟩ : Ck), upd q.y.op κ (nx + 1)⟩ (base 1 n k 20 nx) nx κ Z ow), by omega, by go_num, by go_num, by go_num, by omega, c7, tl7, hsum7, hpos7⟩
                  case measure => simp [intOf]; omega
                | succ i0 =>
                  have hrm := room_bd κ
                  have hi0 : i0 < k := by have := HCM.out.al.opn κ hκ i0 hop; omega
                  have hi0' : (i0 : Int) < (k : Int) := by omega
                  have hub := HCM.out.us i0 hi0
                  have hfit' : ¬ ((q.y.ck i0).us : Int) + (room κ : Int) ≤ 20 := by have := hno i0 hop; omega
                  have hci' : (nx : Int) < (k : Int) := by omega
                  go_wp2_with (go_at_call 8; refine (rroom_w κ hκ _).mono ?_; rintro e w5 ⟨rfl, b5⟩; have c5 := c.grown b5; have tl5 := tl.grown b5; have dd5 := dd.grown b5; have dE := dd5.at0 0 rfl; have cO : w5.cell? ⟨O, κ, none⟩ = some (.int .i64 (i0 : Int)) := by { have := tl5.o.cell (i := κ) hκ; rw [hop] at this; simpa using this }; have cU := tl5.u.cell hi0; have cOf := tl5.o.frozen κ; have tl6 := tl5.setO hOU.out.symm κ nx; have cO2 : (w5.setCell ⟨O, κ, none⟩ (.int .i64 nx)).cell? ⟨O, κ, none⟩ = some (.int .i64 nx) := by { have := tl6.o.cell (i := κ) hκ; simpa [upd_same] using this }; have cU2 : (w5.setCell ⟨O, κ, none⟩ (.int .i64 nx)).cell? ⟨U, nx, none⟩ = some (.int .i64 0) := by { have := tl6.u.cell hk; simp only [hu0] at this; simpa using this }; have cUf := tl6.u.frozen nx)
                  have tl7 := tl6.setU hOU.out nx (⟨1, κ, room κ, (q.y.ck nx).sp + 1⟩ : Ck)
                  have c6 := (c5.setIn hwO.out hEO.out hLO.out κ (.int .i64 nx)).setIn hwU.out hEU.out hLU.out nx (.int .i64 (room κ : Int))
                  have dd6 := (dd5.other (Ne.symm hOD) κ (.int .i64 nx)).other (Ne.symm hUD) nx (.int .i64 (room κ : Int))
                  have hz6 : ((w5.setCell ⟨O, κ, none⟩ (.int .i64 nx)).setCell ⟨U, nx, none⟩ (.int .i64 (room κ : Int))).cell? ⟨zb, zo + r, none⟩ = some (.int .i64 (z r)) := by
                    exact cell_other (cell_other (keep' b5 (by rw [hZ]; exact hz)) hzO) hzU
                  have tl6 := tl7
                  refine wp_over (fun W => Camp w W L E 1 n k 20 s6 σ6 (q.made x F ⟨upd q.y.ck nx (⟨1, κ, room κ, (q.y.ck nx).sp + 1⟩ : Ck), upd q.y.op κ (nx + 1)⟩ (base 1 n k 20 nx) nx κ Z ow) (nx + 1) ∧ Tally W O U k ⟨upd q.y.ck nx (⟨1, κ, room κ, (q.y.ck nx).sp + 1⟩ : Ck), upd q.y.op κ (nx + 1)⟩ ∧ At W D 0 36 _ [.int .i64 0, .int .u64 (packH x 1), .int .i64 0, .int .i64 st] ∧ W.cell? ⟨zb, zo + r, none⟩ = some (.int .i64 (z r))) ⟨c6, tl6, dd6, hz6⟩ ?_
                  clear c6 tl6 dd6 hz6 c5 tl5 dd5 b5 dE x0 x1 x2 x3 xf cO cOf cO2 cU2 cUf tl7 cU c tl dd hz
                  rintro W3 ⟨c, tl, dd, hz⟩
                  rw [hZ] at hz
                  obtain ⟨H1, hH1⟩ : ∃ H1, packH (x : Int) 1 = H1 := ⟨_, rfl⟩
                  have snd : Hid (∀ N : Later W3, Calls Try.prog 9 #[.agg #[.int .i64 1, .int .i64 n, .int .i64 k, .int .i64 20, .int .i64 100, .int .i64 600, .int .i64 3, .pointer (some ⟨L.p, 0, none⟩), .int .i64 0], .int .u64 H1, .int .i64 Z, .bool ow] N.now fun e w' => e = .returned (.bool true) ∧ Below N.now.heap.size N.now w') := fun N => by
                    have := Camp.sound (own := ow) HCM.out hx (c.grown N.below) FA.out (by omega) (by omega) hz1 hz2 kz hκ hF (.new hno hk)
                    rw [← hH1]
                    exact this
                  rw [hH1] at dd
                  have e0 := fun N : Later W3 => (c.v.grown N.below).c0
                  have e1 := fun N : Later W3 => (c.v.grown N.below).c1
                  have e2 := fun N : Later W3 => (c.v.grown N.below).c2
                  have e3 := fun N : Later W3 => (c.v.grown N.below).c3
                  have e4 := fun N : Later W3 => (c.v.grown N.below).c4
                  have e5 := fun N : Later W3 => (c.v.grown N.below).c5
                  have e6 := fun N : Later W3 => (c.v.grown N.below).c6
                  have e7 := fun N : Later W3 => (c.v.grown N.below).c7
                  have e8 := fun N : Later W3 => (c.v.grown N.below).c8
                  have g0 := fun N : Later W3 => (dd.grown N.below).at0 0 rfl
                  have g1 := fun N : Later W3 => (dd.grown N.below).at0 1 rfl
                  have g2 := fun N : Later W3 => keep' N.below hz
                  haveI := Later.exists W3
                  refine wp_region_later (by kernel_rfl) (by kernel_rfl) ?_
                  repeat (go_big_quiet_step ((go_at_call 9; exact Calls.later (snd.out _))))
                  refine wpQuiet_nil ?_
                  rintro _ ⟨nq, rfl⟩
                  clear e0 e1 e2 e3 e4 e5 e6 e7 e8 g0 g1 g2
                  have c7 := c.grown nq.below
                  have tl7 := tl.grown nq.below
                  have hpos7 : md + 1 = 0 ∨ ∃ i, i < k ∧ 0 < (Y.ck ⟨upd q.y.ck nx (⟨1, κ, room κ, (q.y.ck nx).sp + 1⟩ : Ck), upd q.y.op κ (nx + 1)⟩ i).us := .inr ⟨nx, by omega, by show 0 < (upd q.y.ck nx (⟨1, κ, room κ, (q.y.ck nx).sp + 1⟩ : Ck) nx).us; rw [upd_same]; simp only; omega⟩
                  have hsum7 : F.length + (md + 1) = n := by rw [hF] at hsum; simp at hsum; omega
                  go_wp2
                  go_roundw
                  case rel => exact ⟨r + 1, (nx + 1), md + 1, s6, σ6, (q.made x F ⟨upd q.y.ck nx (⟨1, κ, room κ, (q.y.ck nx).sp + 1⟩ : Ck), upd q.y.op κ (nx + 1)⟩ (base 1 n k 20 nx) nx κ Z ow), by omega, by go_num, by go_num, by go_num, by omega, c7, tl7, hsum7, hpos7⟩
                  case measure => simp [intOf]; omega
            · have HC : Hid (Camp w wr L E 1 n k 20 s2 σ q nx ∧ Tally wr O U k q.y) := ⟨c, tl⟩
              have hus := c.cm.us
              have hlv := c.cm.lv
              have hlvv : ∀ i, i < k → s2.wd (6 + 1 + n * 2 + i * 3 + 1) = (q.lv i : Int) := fun i hi => c.tw.lvv (by omega) i hi (c.cm.db i)
              have hlen := c.tw.len
              clear c tl
              have hex : Hid ((r : Int) < (N : Int) ∧ ¬ (r : Int) < 40 ∨ ¬ (r : Int) < (N : Int)) := by unfold Hid; omega
              have hlast : Hid (md = 0 ∨ 0 < sumU q.y k) := by
                rcases hpos with h | ⟨i, hi, hu⟩
                · exact .inl h
                · exact .inr (sumU_pos q.y hi hu)
              have HU : Hid (∀ i, i < k → (q.y.ck i).us ≤ 20) := hus
              have HV : Hid (∀ i, i < k → s2.wd (6 + 1 + n * 2 + i * 3 + 1) = ((q.y.ck i).us : Int)) := fun i hi => by rw [hlvv i hi, hlv i hi]
              have HL : Hid (s2.n = 6 + 1 + n * 2 + k * 3 + k * 20) := hlen
              clear hpos hus hlv hlvv hlen hr' hsum
              rcases hex.out with ⟨h1, h2⟩ | h1
              · go_wp2
                go_loopw [19, 20] (fun lv j wq => ∃ i : Nat, i ≤ k ∧ lv = .int .i64 (sumU q.y i) ∧ j = .int .i64 i ∧ Camp w wq L E 1 n k 20 s2 σ q nx ∧ Tally wq O U k q.y) (fun _ j _ => k - (intOf j).toNat)
                case atStart => exact ⟨0, by omega, rfl, rfl, HC.out⟩
                case round =>
                  clear HC
                  obtain ⟨i, hik, rfl, rfl, c, tl⟩ := hrel
                  have hsl := sumU_le (j := i) q.y (fun j hj => HU.out j (by omega))
                  by_cases hi : i < k
                  · have hi' : (i : Int) < (k : Int) := by omega
                    have hui := HU.out i hi
                    have hcv : IntKind.u64.wrap ((q.y.ck i).us : Int) = ((q.y.ck i).us : Int) := wrap_small _ (by omega) (by omega)
                    have lc : ∀ w, Calls Try.prog 11 #[.agg #[.int .i64 1, .int .i64 n, .int .i64 k, .int .i64 20, .int .i64 100, .int .i64 600, .int .i64 3], .int .i64 i] w fun e w' => e = .returned (.int .i64 ((6 + 1 + n * 2 + i * 3 : Nat) : Int)) ∧ Below w.heap.size w w' := fun w => by
                      have := lchunk_any 1 n k 20 100 600 3 i w HG.out.arena (by omega) (by omega)
                      rwa [show (6 : Int) + 1 + (n : Int) * 2 + (i : Int) * 3 = ((6 + 1 + n * 2 + i * 3 : Nat) : Int) by omega] at this
                    obtain ⟨A, hA⟩ : ∃ A, 6 + 1 + n * 2 + i * 3 = A := ⟨_, rfl⟩
                    rw [hA] at lc
                    have hA1 : Hid (A + 1 < s2.n) := by have := HL.out; unfold Hid; omega
                    have hAb : A ≤ 1000 := by omega
                    have pk : Hid (∀ (N : Later wr) (X : Int), X = ((A + 1 : Nat) : Int) → Calls Try.prog 10 #[.pointer (some ⟨L.p, 0, none⟩), .int .i64 X] N.now fun e w' => e = .returned (.int .u64 ((q.y.ck i).us : Int)) ∧ w' = N.now) := fun N X hX => by
                      subst hX
                      exact peek_is (c.mm.below N.below) (A + 1) hA1.out _ (by rw [← hA]; exact HV.out i hi)
                    clear hA
                    have e0 := fun N : Later wr => (c.v.grown N.below).c0
                    have e1 := fun N : Later wr => (c.v.grown N.below).c1
                    have e2 := fun N : Later wr => (c.v.grown N.below).c2
                    have e3 := fun N : Later wr => (c.v.grown N.below).c3
                    have e4 := fun N : Later wr => (c.v.grown N.below).c4
                    have e5 := fun N : Later wr => (c.v.grown N.below).c5
                    have e6 := fun N : Later wr => (c.v.grown N.below).c6
                    have e7 := fun N : Later wr => (c.v.grown N.below).c7
                    have e8 := fun N : Later wr => (c.v.grown N.below).c8
                    have g0 := fun N : Later wr => (tl.grown N.below).u.cell hi
                    go_wp2
                    haveI := Later.exists wr
                    refine wp_region_later (by kernel_rfl) (by kernel_rfl) ?_
                    repeat (go_big_quiet_step (first
                      | (go_at_call 11; exact Calls.later (lc _))
                      | (go_at_call 10; exact Calls.later_same (pk.out _ _ (by omega)))))
                    refine wpQuiet_nil ?_
                    rintro _ ⟨nq, rfl⟩
                    clear e0 e1 e2 e3 e4 e5 e6 e7 e8 g0
                    have c7 := c.grown nq.below
                    have tl7 := tl.grown nq.below
                    have cU := tl7.u.cell hi
                    go_wp2
                    go_roundw
                    case rel => exact ⟨i + 1, by omega, by go_num, by go_num, c7, tl7⟩
                    case measure => simp [intOf]; omega
                  · have hi' : ¬ (i : Int) < (k : Int) := by omega
                    obtain rfl : k = i := by omega
                    have b9 := c.b
                    clear c tl
                    rcases hlast.out with h0 | h0
                    · subst h0
                      by_cases hs : 0 < sumU q.y k
                      · have hs' : (0 : Int) < (sumU q.y k : Int) := by omega
                        go_wp2
                        go_ret
                        exact ⟨rfl, b9⟩
                      · have hs' : ¬ (0 : Int) < (sumU q.y k : Int) := by omega
                        go_wp2
                        go_ret
                        exact ⟨rfl, b9⟩
                    · have hs' : (0 : Int) < (sumU q.y k : Int) := by omega
                      go_wp2
                      go_ret
                      exact ⟨rfl, b9⟩
              · go_wp2
                go_loopw [19, 20] (fun lv j wq => ∃ i : Nat, i ≤ k ∧ lv = .int .i64 (sumU q.y i) ∧ j = .int .i64 i ∧ Camp w wq L E 1 n k 20 s2 σ q nx ∧ Tally wq O U k q.y) (fun _ j _ => k - (intOf j).toNat)
                case atStart => exact ⟨0, by omega, rfl, rfl, HC.out⟩
                case round =>
                  clear HC
                  obtain ⟨i, hik, rfl, rfl, c, tl⟩ := hrel
                  have hsl := sumU_le (j := i) q.y (fun j hj => HU.out j (by omega))
                  by_cases hi : i < k
                  · have hi' : (i : Int) < (k : Int) := by omega
                    have hui := HU.out i hi
                    have hcv : IntKind.u64.wrap ((q.y.ck i).us : Int) = ((q.y.ck i).us : Int) := wrap_small _ (by omega) (by omega)
                    have lc : ∀ w, Calls Try.prog 11 #[.agg #[.int .i64 1, .int .i64 n, .int .i64 k, .int .i64 20, .int .i64 100, .int .i64 600, .int .i64 3], .int .i64 i] w fun e w' => e = .returned (.int .i64 ((6 + 1 + n * 2 + i * 3 : Nat) : Int)) ∧ Below w.heap.size w w' := fun w => by
                      have := lchunk_any 1 n k 20 100 600 3 i w HG.out.arena (by omega) (by omega)
                      rwa [show (6 : Int) + 1 + (n : Int) * 2 + (i : Int) * 3 = ((6 + 1 + n * 2 + i * 3 : Nat) : Int) by omega] at this
                    obtain ⟨A, hA⟩ : ∃ A, 6 + 1 + n * 2 + i * 3 = A := ⟨_, rfl⟩
                    rw [hA] at lc
                    have hA1 : Hid (A + 1 < s2.n) := by have := HL.out; unfold Hid; omega
                    have hAb : A ≤ 1000 := by omega
                    have pk : Hid (∀ (N : Later wr) (X : Int), X = ((A + 1 : Nat) : Int) → Calls Try.prog 10 #[.pointer (some ⟨L.p, 0, none⟩), .int .i64 X] N.now fun e w' => e = .returned (.int .u64 ((q.y.ck i).us : Int)) ∧ w' = N.now) := fun N X hX => by
                      subst hX
                      exact peek_is (c.mm.below N.below) (A + 1) hA1.out _ (by rw [← hA]; exact HV.out i hi)
                    clear hA
                    have e0 := fun N : Later wr => (c.v.grown N.below).c0
                    have e1 := fun N : Later wr => (c.v.grown N.below).c1
                    have e2 := fun N : Later wr => (c.v.grown N.below).c2
                    have e3 := fun N : Later wr => (c.v.grown N.below).c3
                    have e4 := fun N : Later wr => (c.v.grown N.below).c4
                    have e5 := fun N : Later wr => (c.v.grown N.below).c5
                    have e6 := fun N : Later wr => (c.v.grown N.below).c6
                    have e7 := fun N : Later wr => (c.v.grown N.below).c7
                    have e8 := fun N : Later wr => (c.v.grown N.below).c8
                    have g0 := fun N : Later wr => (tl.grown N.below).u.cell hi
                    go_wp2
                    haveI := Later.exists wr
                    refine wp_region_later (by kernel_rfl) (by kernel_rfl) ?_
                    repeat (go_big_quiet_step (first
                      | (go_at_call 11; exact Calls.later (lc _))
                      | (go_at_call 10; exact Calls.later_same (pk.out _ _ (by omega)))))
                    refine wpQuiet_nil ?_
                    rintro _ ⟨nq, rfl⟩
                    clear e0 e1 e2 e3 e4 e5 e6 e7 e8 g0
                    have c7 := c.grown nq.below
                    have tl7 := tl.grown nq.below
                    have cU := tl7.u.cell hi
                    go_wp2
                    go_roundw
                    case rel => exact ⟨i + 1, by omega, by go_num, by go_num, c7, tl7⟩
                    case measure => simp [intOf]; omega
                  · have hi' : ¬ (i : Int) < (k : Int) := by omega
                    obtain rfl : k = i := by omega
                    have b9 := c.b
                    clear c tl
                    rcases hlast.out with h0 | h0
                    · subst h0
                      by_cases hs : 0 < sumU q.y k
                      · have hs' : (0 : Int) < (sumU q.y k : Int) := by omega
                        go_wp2
                        go_ret
                        exact ⟨rfl, b9⟩
                      · have hs' : ¬ (0 : Int) < (sumU q.y k : Int) := by omega
                        go_wp2
                        go_ret
                        exact ⟨rfl, b9⟩
                    · have hs' : (0 : Int) < (sumU q.y k : Int) := by omega
                      go_wp2
                      go_ret
                      exact ⟨rfl, b9⟩

end Go.Proofs.Ytocmkmeikcejjaa
