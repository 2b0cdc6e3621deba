/- PlaceAlone answers true for all numbers and every slice of numbers, and leaves what was in memory. -/
import Derived.Test.YtbhjokfgajjoiaaPlaceRows
import Derived.Test.YtbhjokfgajjoiaaVary
namespace Go.Proofs.Ytbhjokfgajjoiaa
open Go.RowKit

/-- what the statement keeps count of: which chunk is open for each class, and how much of each is used -/
structure Tally (W : World) (O U k : Nat) (y : Y) : Prop where
  o : W.rowIs O 31 4 (fun c => .int .i64 ((y.op c : Int) - 1))
  u : W.rowIs U 3 k (fun i => .int .i64 (y.ck i).us)

theorem Tally.only {W W' : World} {O U k : Nat} {y : Y} (h : Tally W O U k y) {S : Nat → Prop} (g : Only S W W') (ho : ¬ S O) (hu : ¬ S U) : Tally W' O U k y := ⟨g.row ho h.o, g.row hu h.u⟩
theorem Tally.grown {W W' : World} {O U k : Nat} {y : Y} (h : Tally W O U k y) (g : Below W.heap.size W W') : Tally W' O U k y := ⟨h.o.of_block (g.block _ h.o.lt), h.u.of_block (g.block _ h.u.lt)⟩
theorem Tally.setU {W : World} {O U k : Nat} {y : Y} (h : Tally W O U k y) (hne : O ≠ U) (i : Nat) (c : Ck) : Tally (W.setCell ⟨U, i, none⟩ (.int .i64 c.us)) O U k ⟨upd y.ck i c, y.op⟩ :=
  ⟨h.o.setOther hne _, (h.u.set i _).congr fun j _ => by
    by_cases e : j = i
    · subst e; simp [upd_same]
    · simp [upd_other _ _ _ _ e, e]⟩
theorem Tally.setO {W : World} {O U k : Nat} {y : Y} (h : Tally W O U k y) (hne : U ≠ O) (κ x : Nat) : Tally (W.setCell ⟨O, κ, none⟩ (.int .i64 x)) O U k ⟨y.ck, upd y.op κ (x + 1)⟩ :=
  ⟨(h.o.set κ _).congr fun j _ => by
    by_cases e : j = κ
    · subst e; simp [upd_same]
    · simp [upd_other _ _ _ _ e, e], h.u.setOther hne _⟩

theorem rroom_w (κ : Nat) (h : κ < 4) (w : World) : Calls Try.prog 10 #[.int .i64 κ] w fun e w' => e = .returned (.int .i64 (room κ)) ∧ Below w.heap.size w w' := by
  have k := rroom_any (κ : Int) w (by omega) (by omega)
  have e : 2 * 2 ^ ((κ : Int)).toNat + 1 = ((room κ : Nat) : Int) := by
    match κ, h with
    | 0, _ => rfl
    | 1, _ => rfl
    | 2, _ => rfl
    | 3, _ => rfl
  rwa [e] at k

theorem four (a : Value) (i : Nat) (hi : i < 4) : (#[a, a, a, a] : Array Value)[i]? = some a := by
  have : i = 0 ∨ i = 1 ∨ i = 2 ∨ i = 3 := by omega
  rcases this with rfl | rfl | rfl | rfl <;> rfl

set_option maxRecDepth 20000 in
set_option maxHeartbeats 4000000 in
theorem placeAlone_any (chunks words : Int) (ao : Option Addr) (N cap : Nat) (z : Nat → Int) (w : World) (hr : IntsAt .i64 w ao N z) :
    Calls Try.prog 3 #[.int .i64 chunks, .int .i64 words, .slice ao N cap] w fun e w' => e = .returned (.bool true) ∧ Below w.heap.size w w' := by
  have HR : Hid (IntsAt .i64 w ao N z) := hr
  clear hr
  obtain ⟨k, hk, hk1, hk8⟩ := lowAt chunks 7 3 1 (by decide) (by decide)
  have hk' : (1 : Int) + bits .and .i64 chunks 7 = (k : Int) := hk
  clear hk
  obtain ⟨m, hm, hm1, hm8⟩ := lowAt words 31 5 17 (by decide) (by decide)
  have hm' : (17 : Int) + bits .and .i64 words 31 = (m : Int) := hm
  clear hm
  have hG : Good 1 1 k m 100 600 3 := goodp (by omega) (by omega) (by omega) (by omega)
  have HG : Hid (Good 1 1 k m 100 600 3) := hG
  have AR := fun w => arena07 hG w
  clear hG
  have hmk := run_make_row' (P := Try.prog) 22 3 (.int .i64 0) 8 Try.underlying22 Try.infoW3 rfl .i64 .i64 k (by omega) (by omega)
  go_enter Try.func3, Try.ntmps3
  go_wp2_with (first
    | (go_at_call 8; refine (AR _).mono ?_; rintro e w1 ⟨L, s, rfl, m1, y1, b1, f1⟩; obtain ⟨p1, pa⟩ := Plot.first HG.out m1 y1 b1 f1)
    | (go_at_call 9; refine (awake07_any _).mono ?_; rintro e w2 ⟨rfl, b2⟩; have p2 := p1.grown b2))
  have FA : Hid (PlotApart w L w1.heap.size 1 1 k m) := pa
  obtain ⟨E, hE⟩ : ∃ E, w1.heap.size = E := ⟨_, rfl⟩
  rw [hE] at FA p2 ⊢
  have A2 : Hid (Plot w w2 L E 1 1 k m s 3 Y.new) := p2
  clear p2 p1 pa m1 y1 b1 f1 b2 AR hE hk' hm'
  obtain ⟨S, hS⟩ : ∃ S, w2.heap.size = S := ⟨_, rfl⟩
  have hneT : ∀ (W : World) (U : Nat) (f : Nat → Value), W.rowIs U 3 k f → ¬ isT 31 W U := fun W U f h hh => by
    obtain ⟨c, hc, _⟩ := h
    obtain ⟨c', hc'⟩ := hh
    rw [hc] at hc'
    injection hc' with e
    injection e with _ e2
    exact absurd e2 (by decide)
  refine wp_region_phase (Vary 31 S) (Made 31) (phVary 31 S 4 (.int .i64 0) (.int .i64 (-1))) [3, 4] [.val (.agg #[.int .i64 (-1), .int .i64 (-1), .int .i64 (-1), .int .i64 (-1)]), .val (.int .i64 k), .that (fun w' v => ∃ U, v = .slice (some ⟨U, 0, none⟩) k k ∧ S ≤ U ∧ w'.rowIs U 3 k (fun _ => .int .i64 0)) ?_, .that (fun w' v => ∃ O, v = .pointer (some ⟨O, 0, none⟩) ∧ S ≤ O ∧ isT 31 w' O) ?_, .that (fun _ _ => True) (fun _ _ _ _ _ => trivial), .that (fun w' v => ∃ U, v = .slice (some ⟨U, 0, none⟩) k k ∧ S ≤ U ∧ w'.rowIs U 3 k (fun _ => .int .i64 0)) ?_, .val (.int .i64 0)]
    (by kernel_rfl) Vary.refl Vary.trans Vary.ofMade phVary_made (fun i hi h => by have := h.lt; have e : w2.drew.heap.size = w2.heap.size := rfl; omega) (by kernel_rfl) (by kernel_rfl) (by kernel_rfl) (by kernel_rfl) (by kernel_rfl) ?_
  · rintro x1 y1 v hg ⟨U, hv, hb, hr⟩
    exact ⟨U, hv, hb, hr.of_block (hg.block _ hr.lt (fun hh => hneT _ _ _ hr hh.2))⟩
  · rintro x1 y1 v hg ⟨O, hv, hb, hr⟩
    exact ⟨O, hv, hb, hg.ist _ hr⟩
  · rintro x1 y1 v hg ⟨U, hv, hb, hr⟩
    exact ⟨U, hv, hb, hr.of_block (hg.block _ hr.lt (fun hh => hneT _ _ _ hr hh.2))⟩
  simp only [phaseAll, Act.put, List.setIfInBounds_toArray, List.set_cons_zero, List.set_cons_succ]
  refine ⟨?_, ?_, ?_, ?_⟩
  · intro w' hR _
    refine Or.inl ⟨rfl, ?_⟩
    go_simp
    exact ⟨Made.refl _, rfl⟩
  · intro w' hR _
    refine Or.inl ⟨rfl, ?_⟩
    go_simp
    exact ⟨Made.refl _, rfl⟩
  · intro w' hR _
    refine Or.inl ⟨rfl, ?_⟩
    go_simp
    have hz : S ≤ w'.heap.size := by have := hR.size; have e : w2.drew.heap.size = w2.heap.size := rfl; omega
    have hr := World.rowIs_made w' (.int .i64 0) k 3
    refine ⟨⟨grow_alloc (Below.refl _ _) _, fun b hb hh => ?_⟩, _, rfl, hz, hr⟩
    have h1 := hh.lt
    rw [Go.Deep.nblk_alloc] at h1
    obtain rfl : b = w'.heap.size := by omega
    exact hneT _ _ _ hr hh
  · intro v
    refine ⟨?_, ?_⟩
    · intro w' hR _ hP
      refine Or.inl ⟨rfl, ?_⟩
      have hz : S ≤ w'.heap.size := by have := hR.size; have e : w2.drew.heap.size = w2.heap.size := rfl; omega
      have q := vary_alloc (T := 31) (b := .int .i64 (-1)) #[.int .i64 0, .int .i64 0, .int .i64 0, .int .i64 0] rfl (four _) hz hP
      go_simp
      exact ⟨⟨q.1, q.2.1⟩, _, rfl, hz, q.2.2⟩
    · intro vO
      refine ⟨?_, ?_⟩
      · intro w' hR hf hP
        refine Or.inl ⟨rfl, ?_⟩
        obtain ⟨O, rfl, hO, tO⟩ := hf.1 (by kernel_rfl)
        obtain ⟨O', hO', r, u⟩ : ∃ O', S ≤ O' ∧ w'.rowIs O' 31 4 (fun _ => .int .i64 0) ∧ ∀ i, S ≤ i → isT 31 w' i → i = O' := hP
        obtain rfl := u O hO tO
        have r1 := r.set 0 (.int .i64 (-1))
        have r2 := r1.set 1 (.int .i64 (-1))
        have r3 := r2.set 2 (.int .i64 (-1))
        have r4 := r3.set 3 (.int .i64 (-1))
        have q := (((vary_set hO r 0 (.int .i64 (-1))).trans _ _ _ (vary_set hO r1 1 (.int .i64 (-1)))).trans _ _ _ (vary_set hO r2 2 (.int .i64 (-1)))).trans _ _ _ (vary_set hO r3 3 (.int .i64 (-1)))
        have c0 := r.cell (i := 0) (by omega)
        have c1 := r.cell (i := 1) (by omega)
        have c2 := r.cell (i := 2) (by omega)
        have c3 := r.cell (i := 3) (by omega)
        have cf := r.frozen
        clear hf hneT hmk
        go_simp
        refine ⟨⟨q, O, hO, r4.congr (fun i hi => ?_), fun i hi h => ?_⟩, trivial⟩
        · have : i = 0 ∨ i = 1 ∨ i = 2 ∨ i = 3 := by omega
          rcases this with rfl | rfl | rfl | rfl <;> rfl
        · rcases h.back with h | h
          · exact h
          · rcases h.back with h | h
            · exact h
            · rcases h.back with h | h
              · exact h
              · rcases h.back with h | h
                · exact h
                · exact u i hi h
      · intro vx
        refine ⟨?_, ?_⟩
        · intro w' hR hf
          refine Or.inl ⟨rfl, ?_⟩
          have hU := hf.2.2.1 (by kernel_rfl)
          go_simp
          exact ⟨Made.refl _, hU⟩
        · intro vU
          refine ⟨?_, ?_⟩
          · intro w' hR hf
            refine Or.inl ⟨rfl, ?_⟩
            go_simp
            exact ⟨Made.refl _, rfl⟩
          intro w3 hR hP hf
          obtain ⟨U, rfl, hUS, rU⟩ := hf.1
          obtain ⟨O, rfl, hOS, tO⟩ := hf.2.2.1
          obtain ⟨O', hO', rO, u⟩ : ∃ O', S ≤ O' ∧ w3.rowIs O' 31 4 (fun _ => .int .i64 (-1)) ∧ ∀ i, S ≤ i → isT 31 w3 i → i = O' := hP
          obtain rfl := u O hOS tO
          have p3 := A2.out.drew.grown (hR.below (show w2.heap.size ≤ S by omega))
          have hOU : Hid (O ≠ U) := fun e => by subst e; exact hneT _ _ _ rU tO
          have hLO : Hid (¬ L.has O) := fun hh => by have := A2.out.mm.lt _ hh; omega
          have hLU : Hid (¬ L.has U) := fun hh => by have := A2.out.mm.lt _ hh; omega
          have hEO : Hid (E ≠ O) := by unfold Hid; have := A2.out.ltE; omega
          have hEU : Hid (E ≠ U) := by unfold Hid; have := A2.out.ltE; omega
          have hwO : Hid (w.heap.size ≤ O) := by unfold Hid; have := A2.out.b.size; omega
          have hwU : Hid (w.heap.size ≤ U) := by unfold Hid; have := A2.out.b.size; omega
          have A3 : Hid (Plot w w3 L E 1 1 k m s 3 Y.new ∧ Tally w3 O U k Y.new) := ⟨p3, rO.congr (fun i _ => by simp [Y.new]), rU.congr (fun i _ => by simp [Y.new])⟩
          clear hf rO rU tO u p3 hR hO' hOS hUS A2 hneT hmk hS
          go_wp2
          go_loopw [13, 14] (fun nv j wr => ∃ (r nx : Nat) (s2 : Mm) (σ : Nat) (y : Y), r ≤ 60 ∧ nv = .int .i64 nx ∧ j = .int .i64 r ∧ σ ≤ 3 + 300 * r ∧ Plot w wr L E 1 1 k m s2 σ y ∧ Tally wr O U k y ∧ Alone k y nx) (fun _ j _ => 60 - (intOf j).toNat)
          case atStart => exact ⟨0, 0, s, 3, _, by omega, rfl, rfl, by omega, A3.out.1, A3.out.2, alone0 k⟩
          case round =>
            clear A3
            obtain ⟨r, nx, s2, σ, y, hr60, rfl, rfl, hσ, f, TL0, A0⟩ := hrel
            by_cases hr' : r < N ∧ r < 60
            · obtain ⟨hrN, hr3⟩ := hr'
              have hr3' : (r : Int) < 60 := by omega
              have hrN' : (r : Int) < (N : Int) := by omega
              obtain ⟨zb, zo, rfl, hz0⟩ := HR.out r hrN
              have hz := keep' f.b hz0
              obtain ⟨κ, hκ, hκ4⟩ := bits3 (z r)
              have hκ4' : (κ : Int) < 4 := by omega
              have HA : Hid (Alone k y nx) := A0
              have TL : Hid (Tally wr O U k y) := TL0
              have Hf : Hid (Plot w wr L E 1 1 k m s2 σ y) := f
              have hle := A0.le
              have hrb := room_bd κ
              have husb : ∀ i, i < k → (y.ck i).us ≤ 1000 := fun i hi => (f.yd.ok i hi).us
              cases hop : y.op κ with
              | zero =>
                have hno : ∀ i, y.op κ = i + 1 → ¬ (y.ck i).us + room κ ≤ m := fun i h => by omega
                by_cases hnk : nx < k
                · clear f
                  have G : Hid (Got k m κ (base 1 1 k m) y nx ⟨upd y.ck nx ⟨1, κ, room κ, (y.ck nx).sp + 1⟩, upd y.op κ (nx + 1)⟩ (nx + 1) (.won (base 1 1 k m nx) nx)) := .new hno hnk
                  obtain ⟨Bv, hBv⟩ : ∃ Bv, base 1 1 k m nx = Bv := ⟨_, rfl⟩
                  rw [hBv] at G
                  have HBv : Hid (base 1 1 k m nx = Bv) := hBv
                  have hBvb : Bv ≤ 1000 := by
                    have h1 : nx * m ≤ 8 * 48 := Nat.mul_le_mul (by omega) (by omega)
                    unfold base at hBv
                    omega
                  clear hBv
                  have hu0 : (y.ck nx).us = 0 := (HA.out.fre nx (Nat.le_refl _) hnk).2
                  have hci : (nx : Int) < (k : Int) := by omega
                  clear TL0 A0 hz0
                  go_wp2_with (first
                    | (go_at_call 10; refine (rroom_w κ hκ4 _).mono ?_; rintro e w5 ⟨rfl, b5⟩; have f5 := Hf.out.grown b5; have t5 := TL.out.grown b5; have z0 := f5.v.c0; have z1 := f5.v.c1; have z2 := f5.v.c2; have z3 := f5.v.c3; have z4 := f5.v.c4; have z5 := f5.v.c5; have z6 := f5.v.c6; have z7 := f5.v.c7; have z8 := f5.v.c8)
                    | (go_at_call 11; refine (f5.get FA.out hκ4 (by omega) HA.out G.out Bv nx true rfl).mono ?_; rintro e w6 ⟨rfl, s6, σ6, hσ6, f6, o6, kp6⟩; have t7 := (t5.only o6 hLO.out hLU.out).grown (grow_alloc (Below.refl _ _) (.cells #[.int .i64 (Bv : Nat), .int .i64 (nx : Nat)] 34)); have cO : (w6.alloc (.cells #[.int .i64 (Bv : Nat), .int .i64 (nx : Nat)] 34)).cell? ⟨O, κ, none⟩ = some (.int .i64 (-1)) := by { have := t7.o.cell (i := κ) hκ4; rw [hop] at this; simpa using this }; have cf := t7.o.frozen κ; have cO2 : ((w6.alloc (.cells #[.int .i64 (Bv : Nat), .int .i64 (nx : Nat)] 34)).setCell ⟨O, κ, none⟩ (.int .i64 nx)).cell? ⟨O, κ, none⟩ = some (.int .i64 nx) := by { have := (t7.setO hOU.out.symm κ nx).o.cell (i := κ) hκ4; simpa [upd_same] using this }))
                  have hB6 : Hid (w6.heap.size ≠ O) := by unfold Hid; have := (t5.only o6 hLO.out hLU.out).o.lt; omega
                  have hB7 : Hid (w6.heap.size ≠ U) := by unfold Hid; have := (t5.only o6 hLO.out hLU.out).u.lt; omega
                  have S1 := ((At.new w6 34 [.int .i64 (Bv : Nat), .int .i64 (nx : Nat)]).other hB6.out κ (.int .i64 nx))
                  have F1 := ((f6.alloc (.cells #[.int .i64 (Bv : Nat), .int .i64 (nx : Nat)] 34)).setIn hwO.out hEO.out hLO.out κ (.int .i64 nx))
                  have T1 := (t7.setO hOU.out.symm κ nx)
                  obtain ⟨B, hB⟩ : ∃ B, w6.heap.size = B := ⟨_, rfl⟩
                  rw [hB] at S1 hB6 hB7 ⊢
                  refine wp_over (fun W => Plot w W L E 1 1 k m s6 σ6 ⟨upd y.ck nx ⟨1, κ, room κ, (y.ck nx).sp + 1⟩, upd y.op κ (nx + 1)⟩ ∧ Tally W O U k ⟨y.ck, upd y.op κ (nx + 1)⟩ ∧ At W B 0 34 _ [.int .i64 (Bv : Nat), .int .i64 (nx : Nat)]) ⟨F1, T1, S1⟩ ?_
                  clear S1 F1 T1 t7 t5 f5 f6 o6 b5 hB z0 z1 z2 z3 z4 z5 z6 z7 z8 cO cf cO2 TL Hf hz
                  rintro W ⟨f, tl, sp⟩
                  have bw := fun w => lbase_any 1 1 k m 100 600 3 nx ((nx * m : Nat) : Int) w HG.out.arena (by simp) (by omega) (by have : nx * m ≤ 8 * 48 := Nat.mul_le_mul (by omega) (by omega); omega)
                  have hbw : (6 : Int) + 1 + 1 * 2 + (k : Int) * 3 + ((nx * m : Nat) : Int) = (Bv : Int) := by have := HBv.out; unfold base at this; omega
                  rw [hbw] at bw
                  skip
                  have cU := fun N : Later W => (tl.grown N.below).u.cell (i := nx) (by omega)
                  have g0 := fun N : Later W => (sp.grown N.below).at0 0 rfl
                  have g1 := fun N : Later W => (sp.grown N.below).at0 1 rfl
                  simp only [hu0] at cU
                  have e0 := fun N : Later W => (f.v.grown N.below).c0
                  have e1 := fun N : Later W => (f.v.grown N.below).c1
                  have e2 := fun N : Later W => (f.v.grown N.below).c2
                  have e3 := fun N : Later W => (f.v.grown N.below).c3
                  have e4 := fun N : Later W => (f.v.grown N.below).c4
                  have e5 := fun N : Later W => (f.v.grown N.below).c5
                  have e6 := fun N : Later W => (f.v.grown N.below).c6
                  have e7 := fun N : Later W => (f.v.grown N.below).c7
                  have e8 := fun N : Later W => (f.v.grown N.below).c8
                  haveI := Later.exists W
                  refine wp_region_later (by kernel_rfl) (by kernel_rfl) ?_
                  repeat (go_big_quiet_step ((go_at_call 12; exact Calls.later (bw _))))
                  refine wpQuiet_nil ?_
                  rintro _ ⟨nq, rfl⟩
                  clear e0 e1 e2 e3 e4 e5 e6 e7 e8
                  clear cU g0 g1 bw hbw
                  have f' := f.grown nq.below
                  have tl' := tl.grown nq.below
                  have cU := tl'.u.cell (i := nx) (by omega)
                  have cf := tl'.u.frozen nx
                  simp only [hu0] at cU
                  go_wp2
                  have tl2 := tl'.setU hOU.out nx (⟨1, κ, room κ, (y.ck nx).sp + 1⟩ : Ck)
                  have f2 := f'.setIn hwU.out hEU.out hLU.out nx (.int .i64 ((⟨1, κ, room κ, (y.ck nx).sp + 1⟩ : Ck).us : Int))
                  have hst : ((⟨1, κ, room κ, (y.ck nx).sp + 1⟩ : Ck).us : Int) = (room κ : Int) := by rfl
                  rw [hst] at tl2 f2
                  refine wp_over (fun W => Plot w W L E 1 1 k m s6 σ6 ⟨upd y.ck nx ⟨1, κ, room κ, (y.ck nx).sp + 1⟩, upd y.op κ (nx + 1)⟩ ∧ Tally W O U k ⟨upd y.ck nx ⟨1, κ, room κ, (y.ck nx).sp + 1⟩, upd y.op κ (nx + 1)⟩) ⟨f2, tl2⟩ ?_
                  clear f tl sp nq f' tl' cU cf tl2 f2 hst
                  rintro W ⟨f, tl⟩
                  have hck : (Y.ck ⟨upd y.ck nx ⟨1, κ, room κ, (y.ck nx).sp + 1⟩, upd y.op κ (nx + 1)⟩ nx) = (⟨1, κ, room κ, (y.ck nx).sp + 1⟩ : Ck) := upd_same _ _ _
                  have hok := f.yd.ok nx (by omega)
                  have hwd := f.yd.ckv nx (by omega)
                  rw [hck] at hok hwd
                  have hln := f.yd.len
                  have hlt : Hid (6 + 1 + 1 * 2 + nx * 3 < s6.n) := by unfold Hid; omega
                  have HW : Hid (s6.wd (6 + 1 + 1 * 2 + nx * 3) = (⟨1, κ, room κ, (y.ck nx).sp + 1⟩ : Ck).w) := hwd
                  have cw := fun w => chunk_w (⟨1, κ, room κ, (y.ck nx).sp + 1⟩ : Ck) σ6 hok (by omega) w
                  have lc := fun w => lchunk_any 1 1 k m 100 600 3 nx w HG.out.arena (by omega) (by omega)
                  have hlc : (6 : Int) + 1 + 1 * 2 + (nx : Int) * 3 = ((6 + 1 + 1 * 2 + nx * 3 : Nat) : Int) := by omega
                  rw [hlc] at lc
                  obtain ⟨Z, hZ⟩ : ∃ Z, (⟨1, κ, room κ, (y.ck nx).sp + 1⟩ : Ck).w = Z := ⟨_, rfl⟩
                  rw [hZ] at cw HW
                  obtain ⟨A, hA⟩ : ∃ A, 6 + 1 + 1 * 2 + nx * 3 = A := ⟨_, rfl⟩
                  rw [hA] at lc HW hlt
                  obtain ⟨S, hS⟩ : ∃ S, W.heap.size = S := ⟨_, rfl⟩
                  clear hck hok hwd hln hlc hZ hA
                  go_wp2
                  refine wp_region_rely_tail Grown 9 [.val (.pointer (some ⟨E, 7, none⟩)), .val (.pointer (some ⟨L.p, 0, none⟩)), .val (.pointer (some ⟨E, 0, none⟩)), .val (.agg #[.int .i64 1, .int .i64 1, .int .i64 k, .int .i64 m, .int .i64 100, .int .i64 600, .int .i64 3]), .val (.int .i64 nx), .val (.int .i64 A), .val (.int .u64 Z), .val (.agg #[.int .i64 1, .int .i64 κ, .int .i64 ((⟨1, κ, room κ, (y.ck nx).sp + 1⟩ : Ck).us : Int), .int .i64 ((⟨1, κ, room κ, (y.ck nx).sp + 1⟩ : Ck).sp : Int)]), .that (fun w' v => ∃ X, v = .pointer (some ⟨X, 0, none⟩) ∧ S ≤ X ∧ At w' X 0 39 #[.int .i64 0, .int .i64 0, .int .i64 0, .int .i64 0] [.int .i64 0, .int .i64 0, .int .i64 0, .int .i64 0]) ?_] (by kernel_rfl) Grown.refl Grown.trans (by decide) (by kernel_rfl) (by kernel_rfl) (by kernel_rfl) (by kernel_rfl) (by kernel_rfl) (by kernel_rfl) ?_
                  · rintro x1 y1 v hg ⟨X, hv, hb, hr⟩
                    exact ⟨X, hv, hb, hr.grown hg⟩
                  simp only [List.take_succ_cons, List.take_zero, relyAll, Act.put, List.setIfInBounds_toArray, List.set_cons_zero, List.set_cons_succ]
                  refine ⟨?_, ?_, ?_, ?_, ?_, ?_, ?_, ?_, ?_, ?_⟩
                  · intro w' hg _
                    refine Or.inl ⟨rfl, ?_⟩
                    go_simp
                    exact ⟨Grown.refl _, rfl⟩
                  · intro w' hg _
                    refine Or.inl ⟨rfl, ?_⟩
                    have y7 := (f.drew.grown hg).v.c7
                    go_simp
                    exact ⟨Grown.refl _, rfl⟩
                  · intro w' hg _
                    refine Or.inl ⟨rfl, ?_⟩
                    go_simp
                    exact ⟨Grown.refl _, rfl⟩
                  · intro w' hg _
                    refine Or.inl ⟨rfl, ?_⟩
                    have vv := (f.drew.grown hg).v
                    have y0 := vv.c0
                    have y1 := vv.c1
                    have y2 := vv.c2
                    have y3 := vv.c3
                    have y4 := vv.c4
                    have y5 := vv.c5
                    have y6 := vv.c6
                    go_simp
                    exact ⟨Grown.refl _, rfl⟩
                  · intro w' hg _
                    refine Or.inl ⟨rfl, ?_⟩
                    go_simp
                    exact ⟨Grown.refl _, rfl⟩
                  · intro w' hg _
                    refine Or.inl ⟨rfl, ?_⟩
                    go_simp
                    refine (lc _).mono ?_
                    rintro e w'' ⟨rfl, b9⟩
                    exact ⟨_, rfl, b9, rfl⟩
                  · intro w' hg _
                    refine Or.inl ⟨rfl, ?_⟩
                    go_simp
                    refine (peek_is (f.drew.grown hg).mm A hlt.out Z HW.out).mono ?_
                    rintro e w'' ⟨rfl, rfl⟩
                    exact ⟨_, rfl, Grown.refl _, rfl⟩
                  · intro w' hg _
                    refine Or.inl ⟨rfl, ?_⟩
                    go_simp
                    refine (cw _).mono ?_
                    rintro e w'' ⟨rfl, b9⟩
                    exact ⟨_, rfl, b9, rfl⟩
                  · intro w' hg _
                    refine Or.inl ⟨rfl, ?_⟩
                    have hz : S ≤ w'.heap.size := by have := hg.size; have e : W.drew.heap.size = W.heap.size := rfl; omega
                    have q := At.new w' 39 [.int .i64 0, .int .i64 0, .int .i64 0, .int .i64 0]
                    go_simp
                    exact ⟨grow_alloc (Below.refl _ _) _, _, rfl, hz, q⟩
                  intro vX w8 hg hf
                  obtain ⟨X, rfl, hXS, q8⟩ := hf.1
                  have f8 := f.drew.grown hg
                  have t8 := tl.grown (show Below W.heap.size W w8 from (Below.refl _ _).drew.trans hg)
                  have hXO : X ≠ O := by have := tl.o.lt; omega
                  have hXU : X ≠ U := by have := tl.u.lt; omega
                  have hXE : E ≠ X := by have := f.ltE; omega
                  have hXL : ¬ L.has X := fun hh => by have := f.mm.lt _ hh; omega
                  have hXw : w.heap.size ≤ X := by have := f.b.size; omega
                  have q0 := q8.at0 0 rfl
                  have q1 := q8.at0 1 rfl
                  have q2 := q8.at0 2 rfl
                  have q3 := q8.at0 3 rfl
                  have qf := q8.fz
                  have f9 := (((f8.setIn hXw hXE hXL 0 (.int .i64 1)).setIn hXw hXE hXL 1 (.int .i64 κ)).setIn hXw hXE hXL 2 (.int .i64 ((⟨1, κ, room κ, (y.ck nx).sp + 1⟩ : Ck).us : Int))).setIn hXw hXE hXL 3 (.int .i64 ((⟨1, κ, room κ, (y.ck nx).sp + 1⟩ : Ck).sp : Int))
                  have q9 := (((q8.put0 0 (.int .i64 1)).put0 1 (.int .i64 κ)).put0 2 (.int .i64 ((⟨1, κ, room κ, (y.ck nx).sp + 1⟩ : Ck).us : Int))).put0 3 (.int .i64 ((⟨1, κ, room κ, (y.ck nx).sp + 1⟩ : Ck).sp : Int))
                  have t9 : Tally ((((w8.setCell ⟨X, 0, none⟩ (.int .i64 1)).setCell ⟨X, 1, none⟩ (.int .i64 κ)).setCell ⟨X, 2, none⟩ (.int .i64 ((⟨1, κ, room κ, (y.ck nx).sp + 1⟩ : Ck).us : Int))).setCell ⟨X, 3, none⟩ (.int .i64 ((⟨1, κ, room κ, (y.ck nx).sp + 1⟩ : Ck).sp : Int))) O U k ⟨upd y.ck nx ⟨1, κ, room κ, (y.ck nx).sp + 1⟩, upd y.op κ (nx + 1)⟩ := ⟨(((t8.o.setOther hXO.symm _).setOther hXO.symm _).setOther hXO.symm _).setOther hXO.symm _, (((t8.u.setOther hXU.symm _).setOther hXU.symm _).setOther hXU.symm _).setOther hXU.symm _⟩
                  clear hf hg f tl cw lc HW hlt
                  go_wp2
                  refine wp_over (fun W => Plot w W L E 1 1 k m s6 σ6 ⟨upd y.ck nx ⟨1, κ, room κ, (y.ck nx).sp + 1⟩, upd y.op κ (nx + 1)⟩ ∧ Tally W O U k ⟨upd y.ck nx ⟨1, κ, room κ, (y.ck nx).sp + 1⟩, upd y.op κ (nx + 1)⟩ ∧ At W X 0 39 _ [.int .i64 1, .int .i64 κ, .int .i64 ((⟨1, κ, room κ, (y.ck nx).sp + 1⟩ : Ck).us : Int), .int .i64 ((⟨1, κ, room κ, (y.ck nx).sp + 1⟩ : Ck).sp : Int)]) ⟨f9, t9, q9⟩ ?_
                  clear f8 t8 q8 q0 q1 q2 q3 qf f9 q9 t9 hXO hXU hXE hXL hXw hXS hS
                  rintro W2 ⟨f, tl, ch⟩
                  have g0 := fun N : Later W2 => (ch.grown N.below).at0 0 rfl
                  have g1 := fun N : Later W2 => (ch.grown N.below).at0 1 rfl
                  have g2 := fun N : Later W2 => (ch.grown N.below).at0 2 rfl
                  have cU : ∀ N : Later W2, N.now.cell? ⟨U, nx, none⟩ = some (.int .i64 ((⟨1, κ, room κ, (y.ck nx).sp + 1⟩ : Ck).us : Int)) := fun N => by
                    have := (tl.grown N.below).u.cell (i := nx) (by omega)
                    simpa [upd_same] using this
                  have e0 := fun N : Later W2 => (f.v.grown N.below).c0
                  have e1 := fun N : Later W2 => (f.v.grown N.below).c1
                  have e2 := fun N : Later W2 => (f.v.grown N.below).c2
                  have e3 := fun N : Later W2 => (f.v.grown N.below).c3
                  have e4 := fun N : Later W2 => (f.v.grown N.below).c4
                  have e5 := fun N : Later W2 => (f.v.grown N.below).c5
                  have e6 := fun N : Later W2 => (f.v.grown N.below).c6
                  have e7 := fun N : Later W2 => (f.v.grown N.below).c7
                  have e8 := fun N : Later W2 => (f.v.grown N.below).c8
                  haveI := Later.exists W2
                  refine wp_region_later (by kernel_rfl) (by kernel_rfl) ?_
                  repeat (go_big_quiet_step (fail))
                  refine wpQuiet_nil ?_
                  rintro _ ⟨nq, rfl⟩
                  clear e0 e1 e2 e3 e4 e5 e6 e7 e8
                  clear cU g0 g1 g2
                  go_wp2
                  go_roundw
                  case rel => exact ⟨r + 1, (nx + 1), s6, σ6, _, by omega, by go_num, by go_num, by omega, f.grown nq.below, tl.grown nq.below, G.out.alone HA.out hκ4⟩
                  case measure => simp [intOf]; omega
                · clear f
                  have G : Hid (Got k m κ (base 1 1 k m) y nx y nx .none) := .none hno (by omega)
                  have hnk' : ¬ (nx : Int) < (k : Int) := by omega
                  clear TL0 A0 hz0
                  go_wp2_with (first
                    | (go_at_call 10; refine (rroom_w κ hκ4 _).mono ?_; rintro e w5 ⟨rfl, b5⟩; have f5 := Hf.out.grown b5; have t5 := TL.out.grown b5; have z0 := f5.v.c0; have z1 := f5.v.c1; have z2 := f5.v.c2; have z3 := f5.v.c3; have z4 := f5.v.c4; have z5 := f5.v.c5; have z6 := f5.v.c6; have z7 := f5.v.c7; have z8 := f5.v.c8)
                    | (go_at_call 11; refine (f5.get FA.out hκ4 (by omega) HA.out G.out 0 0 false rfl).mono ?_; rintro e w6 ⟨rfl, s6, σ6, hσ6, f6, o6, kp6⟩; have t7 := (t5.only o6 hLO.out hLU.out).grown (grow_alloc (Below.refl _ _) (.cells #[.int .i64 0, .int .i64 0] 34)); have cO : (w6.alloc (.cells #[.int .i64 0, .int .i64 0] 34)).cell? ⟨O, κ, none⟩ = some (.int .i64 (-1)) := by { have := t7.o.cell (i := κ) hκ4; rw [hop] at this; simpa using this }))
                  have A9 := G.out.alone HA.out hκ4
                  have f9 := f6.alloc (.cells #[.int .i64 0, .int .i64 0] 34)
                  go_roundw
                  case rel => exact ⟨r + 1, nx, s6, σ6, y, by omega, rfl, by go_num, by omega, f9, t7, A9⟩
                  case measure => simp [intOf]; omega
              | succ i0 =>
                have hi0n := (A0.opn κ hκ4 i0 hop).1
                have hi0 : i0 < k := by omega
                have hu1 := husb i0 hi0
                by_cases hfit : (y.ck i0).us + room κ ≤ m
                · clear f husb
                  have G : Hid (Got k m κ (base 1 1 k m) y nx ⟨upd y.ck i0 ⟨1, κ, (y.ck i0).us + room κ, (y.ck i0).sp⟩, y.op⟩ nx (.won (base 1 1 k m i0 + (y.ck i0).us) i0)) := .fit i0 hop hfit
                  obtain ⟨Bv, hBv⟩ : ∃ Bv, base 1 1 k m i0 = Bv := ⟨_, rfl⟩
                  rw [hBv] at G
                  have HBv : Hid (base 1 1 k m i0 = Bv) := hBv
                  have hBvb : Bv ≤ 1000 := by
                    have h1 : i0 * m ≤ 8 * 48 := Nat.mul_le_mul (by omega) (by omega)
                    unfold base at hBv
                    omega
                  clear hBv
                  obtain ⟨X0, hX0⟩ : ∃ X0, Bv + (y.ck i0).us = X0 := ⟨_, rfl⟩
                  rw [hX0] at G
                  have HX0 : Hid ((Bv : Int) + ((y.ck i0).us : Int) = (X0 : Int)) := by unfold Hid; omega
                  clear hX0
                  have hi0' : (i0 : Int) < (k : Int) := by omega
                  have hfit' : ((y.ck i0).us : Int) + (room κ : Int) ≤ (m : Int) := by omega
                  have hci : (i0 : Int) < (k : Int) := by omega
                  clear TL0 A0 hz0
                  go_wp2_with (first
                    | (go_at_call 10; refine (rroom_w κ hκ4 _).mono ?_; rintro e w5 ⟨rfl, b5⟩; have f5 := Hf.out.grown b5; have t5 := TL.out.grown b5; have z0 := f5.v.c0; have z1 := f5.v.c1; have z2 := f5.v.c2; have z3 := f5.v.c3; have z4 := f5.v.c4; have z5 := f5.v.c5; have z6 := f5.v.c6; have z7 := f5.v.c7; have z8 := f5.v.c8)
                    | (go_at_call 11; refine (f5.get FA.out hκ4 (by omega) HA.out G.out X0 i0 true rfl).mono ?_; rintro e w6 ⟨rfl, s6, σ6, hσ6, f6, o6, kp6⟩; have t7 := (t5.only o6 hLO.out hLU.out).grown (grow_alloc (Below.refl _ _) (.cells #[.int .i64 (X0 : Nat), .int .i64 (i0 : Nat)] 34)); have cO : (w6.alloc (.cells #[.int .i64 (X0 : Nat), .int .i64 (i0 : Nat)] 34)).cell? ⟨O, κ, none⟩ = some (.int .i64 (i0 : Int)) := by { have := t7.o.cell (i := κ) hκ4; rw [hop] at this; simpa using this }; have cU := t7.u.cell hi0))
                  have hB6 : Hid (w6.heap.size ≠ O) := by unfold Hid; have := (t5.only o6 hLO.out hLU.out).o.lt; omega
                  have hB7 : Hid (w6.heap.size ≠ U) := by unfold Hid; have := (t5.only o6 hLO.out hLU.out).u.lt; omega
                  have S1 := (At.new w6 34 [.int .i64 (X0 : Nat), .int .i64 (i0 : Nat)])
                  have F1 := (f6.alloc (.cells #[.int .i64 (X0 : Nat), .int .i64 (i0 : Nat)] 34))
                  have T1 := t7
                  obtain ⟨B, hB⟩ : ∃ B, w6.heap.size = B := ⟨_, rfl⟩
                  rw [hB] at S1 hB6 hB7 ⊢
                  refine wp_over (fun W => Plot w W L E 1 1 k m s6 σ6 ⟨upd y.ck i0 ⟨1, κ, (y.ck i0).us + room κ, (y.ck i0).sp⟩, y.op⟩ ∧ Tally W O U k y ∧ At W B 0 34 _ [.int .i64 (X0 : Nat), .int .i64 (i0 : Nat)]) ⟨F1, T1, S1⟩ ?_
                  clear S1 F1 T1 t7 t5 f5 f6 o6 b5 hB z0 z1 z2 z3 z4 z5 z6 z7 z8 cO cU TL Hf hz
                  rintro W ⟨f, tl, sp⟩
                  have bw := fun w => lbase_any 1 1 k m 100 600 3 i0 ((i0 * m : Nat) : Int) w HG.out.arena (by simp) (by omega) (by have : i0 * m ≤ 8 * 48 := Nat.mul_le_mul (by omega) (by omega); omega)
                  have hbw : (6 : Int) + 1 + 1 * 2 + (k : Int) * 3 + ((i0 * m : Nat) : Int) = (Bv : Int) := by have := HBv.out; unfold base at this; omega
                  rw [hbw] at bw
                  have hX0 := HX0.out
                  have cU := fun N : Later W => (tl.grown N.below).u.cell (i := i0) (by omega)
                  have g0 := fun N : Later W => (sp.grown N.below).at0 0 rfl
                  have g1 := fun N : Later W => (sp.grown N.below).at0 1 rfl
                  have e0 := fun N : Later W => (f.v.grown N.below).c0
                  have e1 := fun N : Later W => (f.v.grown N.below).c1
                  have e2 := fun N : Later W => (f.v.grown N.below).c2
                  have e3 := fun N : Later W => (f.v.grown N.below).c3
                  have e4 := fun N : Later W => (f.v.grown N.below).c4
                  have e5 := fun N : Later W => (f.v.grown N.below).c5
                  have e6 := fun N : Later W => (f.v.grown N.below).c6
                  have e7 := fun N : Later W => (f.v.grown N.below).c7
                  have e8 := fun N : Later W => (f.v.grown N.below).c8
                  haveI := Later.exists W
                  refine wp_region_later (by kernel_rfl) (by kernel_rfl) ?_
                  repeat (go_big_quiet_step ((go_at_call 12; exact Calls.later (bw _))))
                  refine wpQuiet_nil ?_
                  rintro _ ⟨nq, rfl⟩
                  clear e0 e1 e2 e3 e4 e5 e6 e7 e8
                  clear cU g0 g1 bw hbw
                  clear hX0
                  have f' := f.grown nq.below
                  have tl' := tl.grown nq.below
                  have cU := tl'.u.cell (i := i0) (by omega)
                  have cf := tl'.u.frozen i0
                  go_wp2
                  have tl2 := tl'.setU hOU.out i0 (⟨1, κ, (y.ck i0).us + room κ, (y.ck i0).sp⟩ : Ck)
                  have f2 := f'.setIn hwU.out hEU.out hLU.out i0 (.int .i64 ((⟨1, κ, (y.ck i0).us + room κ, (y.ck i0).sp⟩ : Ck).us : Int))
                  have hst : ((⟨1, κ, (y.ck i0).us + room κ, (y.ck i0).sp⟩ : Ck).us : Int) = ((y.ck i0).us : Int) + (room κ : Int) := by simp
                  rw [hst] at tl2 f2
                  refine wp_over (fun W => Plot w W L E 1 1 k m s6 σ6 ⟨upd y.ck i0 ⟨1, κ, (y.ck i0).us + room κ, (y.ck i0).sp⟩, y.op⟩ ∧ Tally W O U k ⟨upd y.ck i0 ⟨1, κ, (y.ck i0).us + room κ, (y.ck i0).sp⟩, y.op⟩) ⟨f2, tl2⟩ ?_
                  clear f tl sp nq f' tl' cU cf tl2 f2 hst
                  rintro W ⟨f, tl⟩
                  have hck : (Y.ck ⟨upd y.ck i0 ⟨1, κ, (y.ck i0).us + room κ, (y.ck i0).sp⟩, y.op⟩ i0) = (⟨1, κ, (y.ck i0).us + room κ, (y.ck i0).sp⟩ : Ck) := upd_same _ _ _
                  have hok := f.yd.ok i0 (by omega)
                  have hwd := f.yd.ckv i0 (by omega)
                  rw [hck] at hok hwd
                  have hln := f.yd.len
                  have hlt : Hid (6 + 1 + 1 * 2 + i0 * 3 < s6.n) := by unfold Hid; omega
                  have HW : Hid (s6.wd (6 + 1 + 1 * 2 + i0 * 3) = (⟨1, κ, (y.ck i0).us + room κ, (y.ck i0).sp⟩ : Ck).w) := hwd
                  have cw := fun w => chunk_w (⟨1, κ, (y.ck i0).us + room κ, (y.ck i0).sp⟩ : Ck) σ6 hok (by omega) w
                  have lc := fun w => lchunk_any 1 1 k m 100 600 3 i0 w HG.out.arena (by omega) (by omega)
                  have hlc : (6 : Int) + 1 + 1 * 2 + (i0 : Int) * 3 = ((6 + 1 + 1 * 2 + i0 * 3 : Nat) : Int) := by omega
                  rw [hlc] at lc
                  obtain ⟨Z, hZ⟩ : ∃ Z, (⟨1, κ, (y.ck i0).us + room κ, (y.ck i0).sp⟩ : Ck).w = Z := ⟨_, rfl⟩
                  rw [hZ] at cw HW
                  obtain ⟨A, hA⟩ : ∃ A, 6 + 1 + 1 * 2 + i0 * 3 = A := ⟨_, rfl⟩
                  rw [hA] at lc HW hlt
                  obtain ⟨S, hS⟩ : ∃ S, W.heap.size = S := ⟨_, rfl⟩
                  clear hck hok hwd hln hlc hZ hA
                  go_wp2
                  refine wp_region_rely_tail Grown 9 [.val (.pointer (some ⟨E, 7, none⟩)), .val (.pointer (some ⟨L.p, 0, none⟩)), .val (.pointer (some ⟨E, 0, none⟩)), .val (.agg #[.int .i64 1, .int .i64 1, .int .i64 k, .int .i64 m, .int .i64 100, .int .i64 600, .int .i64 3]), .val (.int .i64 i0), .val (.int .i64 A), .val (.int .u64 Z), .val (.agg #[.int .i64 1, .int .i64 κ, .int .i64 ((⟨1, κ, (y.ck i0).us + room κ, (y.ck i0).sp⟩ : Ck).us : Int), .int .i64 ((⟨1, κ, (y.ck i0).us + room κ, (y.ck i0).sp⟩ : Ck).sp : Int)]), .that (fun w' v => ∃ X, v = .pointer (some ⟨X, 0, none⟩) ∧ S ≤ X ∧ At w' X 0 39 #[.int .i64 0, .int .i64 0, .int .i64 0, .int .i64 0] [.int .i64 0, .int .i64 0, .int .i64 0, .int .i64 0]) ?_] (by kernel_rfl) Grown.refl Grown.trans (by decide) (by kernel_rfl) (by kernel_rfl) (by kernel_rfl) (by kernel_rfl) (by kernel_rfl) (by kernel_rfl) ?_
                  · rintro x1 y1 v hg ⟨X, hv, hb, hr⟩
                    exact ⟨X, hv, hb, hr.grown hg⟩
                  simp only [List.take_succ_cons, List.take_zero, relyAll, Act.put, List.setIfInBounds_toArray, List.set_cons_zero, List.set_cons_succ]
                  refine ⟨?_, ?_, ?_, ?_, ?_, ?_, ?_, ?_, ?_, ?_⟩
                  · intro w' hg _
                    refine Or.inl ⟨rfl, ?_⟩
                    go_simp
                    exact ⟨Grown.refl _, rfl⟩
                  · intro w' hg _
                    refine Or.inl ⟨rfl, ?_⟩
                    have y7 := (f.drew.grown hg).v.c7
                    go_simp
                    exact ⟨Grown.refl _, rfl⟩
                  · intro w' hg _
                    refine Or.inl ⟨rfl, ?_⟩
                    go_simp
                    exact ⟨Grown.refl _, rfl⟩
                  · intro w' hg _
                    refine Or.inl ⟨rfl, ?_⟩
                    have vv := (f.drew.grown hg).v
                    have y0 := vv.c0
                    have y1 := vv.c1
                    have y2 := vv.c2
                    have y3 := vv.c3
                    have y4 := vv.c4
                    have y5 := vv.c5
                    have y6 := vv.c6
                    go_simp
                    exact ⟨Grown.refl _, rfl⟩
                  · intro w' hg _
                    refine Or.inl ⟨rfl, ?_⟩
                    go_simp
                    exact ⟨Grown.refl _, rfl⟩
                  · intro w' hg _
                    refine Or.inl ⟨rfl, ?_⟩
                    go_simp
                    refine (lc _).mono ?_
                    rintro e w'' ⟨rfl, b9⟩
                    exact ⟨_, rfl, b9, rfl⟩
                  · intro w' hg _
                    refine Or.inl ⟨rfl, ?_⟩
                    go_simp
                    refine (peek_is (f.drew.grown hg).mm A hlt.out Z HW.out).mono ?_
                    rintro e w'' ⟨rfl, rfl⟩
                    exact ⟨_, rfl, Grown.refl _, rfl⟩
                  · intro w' hg _
                    refine Or.inl ⟨rfl, ?_⟩
                    go_simp
                    refine (cw _).mono ?_
                    rintro e w'' ⟨rfl, b9⟩
                    exact ⟨_, rfl, b9, rfl⟩
                  · intro w' hg _
                    refine Or.inl ⟨rfl, ?_⟩
                    have hz : S ≤ w'.heap.size := by have := hg.size; have e : W.drew.heap.size = W.heap.size := rfl; omega
                    have q := At.new w' 39 [.int .i64 0, .int .i64 0, .int .i64 0, .int .i64 0]
                    go_simp
                    exact ⟨grow_alloc (Below.refl _ _) _, _, rfl, hz, q⟩
                  intro vX w8 hg hf
                  obtain ⟨X, rfl, hXS, q8⟩ := hf.1
                  have f8 := f.drew.grown hg
                  have t8 := tl.grown (show Below W.heap.size W w8 from (Below.refl _ _).drew.trans hg)
                  have hXO : X ≠ O := by have := tl.o.lt; omega
                  have hXU : X ≠ U := by have := tl.u.lt; omega
                  have hXE : E ≠ X := by have := f.ltE; omega
                  have hXL : ¬ L.has X := fun hh => by have := f.mm.lt _ hh; omega
                  have hXw : w.heap.size ≤ X := by have := f.b.size; omega
                  have q0 := q8.at0 0 rfl
                  have q1 := q8.at0 1 rfl
                  have q2 := q8.at0 2 rfl
                  have q3 := q8.at0 3 rfl
                  have qf := q8.fz
                  have f9 := (((f8.setIn hXw hXE hXL 0 (.int .i64 1)).setIn hXw hXE hXL 1 (.int .i64 κ)).setIn hXw hXE hXL 2 (.int .i64 ((⟨1, κ, (y.ck i0).us + room κ, (y.ck i0).sp⟩ : Ck).us : Int))).setIn hXw hXE hXL 3 (.int .i64 ((⟨1, κ, (y.ck i0).us + room κ, (y.ck i0).sp⟩ : Ck).sp : Int))
                  have q9 := (((q8.put0 0 (.int .i64 1)).put0 1 (.int .i64 κ)).put0 2 (.int .i64 ((⟨1, κ, (y.ck i0).us + room κ, (y.ck i0).sp⟩ : Ck).us : Int))).put0 3 (.int .i64 ((⟨1, κ, (y.ck i0).us + room κ, (y.ck i0).sp⟩ : Ck).sp : Int))
                  have t9 : Tally ((((w8.setCell ⟨X, 0, none⟩ (.int .i64 1)).setCell ⟨X, 1, none⟩ (.int .i64 κ)).setCell ⟨X, 2, none⟩ (.int .i64 ((⟨1, κ, (y.ck i0).us + room κ, (y.ck i0).sp⟩ : Ck).us : Int))).setCell ⟨X, 3, none⟩ (.int .i64 ((⟨1, κ, (y.ck i0).us + room κ, (y.ck i0).sp⟩ : Ck).sp : Int))) O U k ⟨upd y.ck i0 ⟨1, κ, (y.ck i0).us + room κ, (y.ck i0).sp⟩, y.op⟩ := ⟨(((t8.o.setOther hXO.symm _).setOther hXO.symm _).setOther hXO.symm _).setOther hXO.symm _, (((t8.u.setOther hXU.symm _).setOther hXU.symm _).setOther hXU.symm _).setOther hXU.symm _⟩
                  clear hf hg f tl cw lc HW hlt
                  go_wp2
                  refine wp_over (fun W => Plot w W L E 1 1 k m s6 σ6 ⟨upd y.ck i0 ⟨1, κ, (y.ck i0).us + room κ, (y.ck i0).sp⟩, y.op⟩ ∧ Tally W O U k ⟨upd y.ck i0 ⟨1, κ, (y.ck i0).us + room κ, (y.ck i0).sp⟩, y.op⟩ ∧ At W X 0 39 _ [.int .i64 1, .int .i64 κ, .int .i64 ((⟨1, κ, (y.ck i0).us + room κ, (y.ck i0).sp⟩ : Ck).us : Int), .int .i64 ((⟨1, κ, (y.ck i0).us + room κ, (y.ck i0).sp⟩ : Ck).sp : Int)]) ⟨f9, t9, q9⟩ ?_
                  clear f8 t8 q8 q0 q1 q2 q3 qf f9 q9 t9 hXO hXU hXE hXL hXw hXS hS
                  rintro W2 ⟨f, tl, ch⟩
                  have g0 := fun N : Later W2 => (ch.grown N.below).at0 0 rfl
                  have g1 := fun N : Later W2 => (ch.grown N.below).at0 1 rfl
                  have g2 := fun N : Later W2 => (ch.grown N.below).at0 2 rfl
                  have cU : ∀ N : Later W2, N.now.cell? ⟨U, i0, none⟩ = some (.int .i64 ((⟨1, κ, (y.ck i0).us + room κ, (y.ck i0).sp⟩ : Ck).us : Int)) := fun N => by
                    have := (tl.grown N.below).u.cell (i := i0) (by omega)
                    simpa [upd_same] using this
                  have e0 := fun N : Later W2 => (f.v.grown N.below).c0
                  have e1 := fun N : Later W2 => (f.v.grown N.below).c1
                  have e2 := fun N : Later W2 => (f.v.grown N.below).c2
                  have e3 := fun N : Later W2 => (f.v.grown N.below).c3
                  have e4 := fun N : Later W2 => (f.v.grown N.below).c4
                  have e5 := fun N : Later W2 => (f.v.grown N.below).c5
                  have e6 := fun N : Later W2 => (f.v.grown N.below).c6
                  have e7 := fun N : Later W2 => (f.v.grown N.below).c7
                  have e8 := fun N : Later W2 => (f.v.grown N.below).c8
                  haveI := Later.exists W2
                  refine wp_region_later (by kernel_rfl) (by kernel_rfl) ?_
                  repeat (go_big_quiet_step (fail))
                  refine wpQuiet_nil ?_
                  rintro _ ⟨nq, rfl⟩
                  clear e0 e1 e2 e3 e4 e5 e6 e7 e8
                  clear cU g0 g1 g2
                  go_wp2
                  go_roundw
                  case rel => exact ⟨r + 1, nx, s6, σ6, _, by omega, by rfl, by go_num, by omega, f.grown nq.below, tl.grown nq.below, G.out.alone HA.out hκ4⟩
                  case measure => simp [intOf]; omega
                · have hno : ∀ i, y.op κ = i + 1 → ¬ (y.ck i).us + room κ ≤ m := fun i h => by
                    obtain rfl : i0 = i := by omega
                    exact hfit
                  by_cases hnk : nx < k
                  · clear f husb
                    have G : Hid (Got k m κ (base 1 1 k m) y nx ⟨upd y.ck nx ⟨1, κ, room κ, (y.ck nx).sp + 1⟩, upd y.op κ (nx + 1)⟩ (nx + 1) (.won (base 1 1 k m nx) nx)) := .new hno hnk
                    obtain ⟨Bv, hBv⟩ : ∃ Bv, base 1 1 k m nx = Bv := ⟨_, rfl⟩
                    rw [hBv] at G
                    have HBv : Hid (base 1 1 k m nx = Bv) := hBv
                    have hBvb : Bv ≤ 1000 := by
                      have h1 : nx * m ≤ 8 * 48 := Nat.mul_le_mul (by omega) (by omega)
                      unfold base at hBv
                      omega
                    clear hBv
                    have hu0 : (y.ck nx).us = 0 := (HA.out.fre nx (Nat.le_refl _) hnk).2
                    have hi0' : (i0 : Int) < (k : Int) := by omega
                    have hfit' : ¬ ((y.ck i0).us : Int) + (room κ : Int) ≤ (m : Int) := by have := hno i0 hop; omega
                    have hci : (nx : Int) < (k : Int) := by omega
                    clear TL0 A0 hz0
                    go_wp2_with (first
                      | (go_at_call 10; refine (rroom_w κ hκ4 _).mono ?_; rintro e w5 ⟨rfl, b5⟩; have f5 := Hf.out.grown b5; have t5 := TL.out.grown b5; have z0 := f5.v.c0; have z1 := f5.v.c1; have z2 := f5.v.c2; have z3 := f5.v.c3; have z4 := f5.v.c4; have z5 := f5.v.c5; have z6 := f5.v.c6; have z7 := f5.v.c7; have z8 := f5.v.c8)
                      | (go_at_call 11; refine (f5.get FA.out hκ4 (by omega) HA.out G.out Bv nx true rfl).mono ?_; rintro e w6 ⟨rfl, s6, σ6, hσ6, f6, o6, kp6⟩; have t7 := (t5.only o6 hLO.out hLU.out).grown (grow_alloc (Below.refl _ _) (.cells #[.int .i64 (Bv : Nat), .int .i64 (nx : Nat)] 34)); have cO : (w6.alloc (.cells #[.int .i64 (Bv : Nat), .int .i64 (nx : Nat)] 34)).cell? ⟨O, κ, none⟩ = some (.int .i64 (i0 : Int)) := by { have := t7.o.cell (i := κ) hκ4; rw [hop] at this; simpa using this }; have cU := t7.u.cell hi0; have cf := t7.o.frozen κ; have cO2 : ((w6.alloc (.cells #[.int .i64 (Bv : Nat), .int .i64 (nx : Nat)] 34)).setCell ⟨O, κ, none⟩ (.int .i64 nx)).cell? ⟨O, κ, none⟩ = some (.int .i64 nx) := by { have := (t7.setO hOU.out.symm κ nx).o.cell (i := κ) hκ4; simpa [upd_same] using this }))
                    have hB6 : Hid (w6.heap.size ≠ O) := by unfold Hid; have := (t5.only o6 hLO.out hLU.out).o.lt; omega
                    have hB7 : Hid (w6.heap.size ≠ U) := by unfold Hid; have := (t5.only o6 hLO.out hLU.out).u.lt; omega
                    have S1 := ((At.new w6 34 [.int .i64 (Bv : Nat), .int .i64 (nx : Nat)]).other hB6.out κ (.int .i64 nx))
                    have F1 := ((f6.alloc (.cells #[.int .i64 (Bv : Nat), .int .i64 (nx : Nat)] 34)).setIn hwO.out hEO.out hLO.out κ (.int .i64 nx))
                    have T1 := (t7.setO hOU.out.symm κ nx)
                    obtain ⟨B, hB⟩ : ∃ B, w6.heap.size = B := ⟨_, rfl⟩
                    rw [hB] at S1 hB6 hB7 ⊢
                    refine wp_over (fun W => Plot w W L E 1 1 k m s6 σ6 ⟨upd y.ck nx ⟨1, κ, room κ, (y.ck nx).sp + 1⟩, upd y.op κ (nx + 1)⟩ ∧ Tally W O U k ⟨y.ck, upd y.op κ (nx + 1)⟩ ∧ At W B 0 34 _ [.int .i64 (Bv : Nat), .int .i64 (nx : Nat)]) ⟨F1, T1, S1⟩ ?_
                    clear S1 F1 T1 t7 t5 f5 f6 o6 b5 hB z0 z1 z2 z3 z4 z5 z6 z7 z8 cO cU cf cO2 TL Hf hz
                    rintro W ⟨f, tl, sp⟩
                    have bw := fun w => lbase_any 1 1 k m 100 600 3 nx ((nx * m : Nat) : Int) w HG.out.arena (by simp) (by omega) (by have : nx * m ≤ 8 * 48 := Nat.mul_le_mul (by omega) (by omega); omega)
                    have hbw : (6 : Int) + 1 + 1 * 2 + (k : Int) * 3 + ((nx * m : Nat) : Int) = (Bv : Int) := by have := HBv.out; unfold base at this; omega
                    rw [hbw] at bw
                    skip
                    have cU := fun N : Later W => (tl.grown N.below).u.cell (i := nx) (by omega)
                    have g0 := fun N : Later W => (sp.grown N.below).at0 0 rfl
                    have g1 := fun N : Later W => (sp.grown N.below).at0 1 rfl
                    simp only [hu0] at cU
                    have e0 := fun N : Later W => (f.v.grown N.below).c0
                    have e1 := fun N : Later W => (f.v.grown N.below).c1
                    have e2 := fun N : Later W => (f.v.grown N.below).c2
                    have e3 := fun N : Later W => (f.v.grown N.below).c3
                    have e4 := fun N : Later W => (f.v.grown N.below).c4
                    have e5 := fun N : Later W => (f.v.grown N.below).c5
                    have e6 := fun N : Later W => (f.v.grown N.below).c6
                    have e7 := fun N : Later W => (f.v.grown N.below).c7
                    have e8 := fun N : Later W => (f.v.grown N.below).c8
                    haveI := Later.exists W
                    refine wp_region_later (by kernel_rfl) (by kernel_rfl) ?_
                    repeat (go_big_quiet_step ((go_at_call 12; exact Calls.later (bw _))))
                    refine wpQuiet_nil ?_
                    rintro _ ⟨nq, rfl⟩
                    clear e0 e1 e2 e3 e4 e5 e6 e7 e8
                    clear cU g0 g1 bw hbw
                    have f' := f.grown nq.below
                    have tl' := tl.grown nq.below
                    have cU := tl'.u.cell (i := nx) (by omega)
                    have cf := tl'.u.frozen nx
                    simp only [hu0] at cU
                    go_wp2
                    have tl2 := tl'.setU hOU.out nx (⟨1, κ, room κ, (y.ck nx).sp + 1⟩ : Ck)
                    have f2 := f'.setIn hwU.out hEU.out hLU.out nx (.int .i64 ((⟨1, κ, room κ, (y.ck nx).sp + 1⟩ : Ck).us : Int))
                    have hst : ((⟨1, κ, room κ, (y.ck nx).sp + 1⟩ : Ck).us : Int) = (room κ : Int) := by rfl
                    rw [hst] at tl2 f2
                    refine wp_over (fun W => Plot w W L E 1 1 k m s6 σ6 ⟨upd y.ck nx ⟨1, κ, room κ, (y.ck nx).sp + 1⟩, upd y.op κ (nx + 1)⟩ ∧ Tally W O U k ⟨upd y.ck nx ⟨1, κ, room κ, (y.ck nx).sp + 1⟩, upd y.op κ (nx + 1)⟩) ⟨f2, tl2⟩ ?_
                    clear f tl sp nq f' tl' cU cf tl2 f2 hst
                    rintro W ⟨f, tl⟩
                    have hck : (Y.ck ⟨upd y.ck nx ⟨1, κ, room κ, (y.ck nx).sp + 1⟩, upd y.op κ (nx + 1)⟩ nx) = (⟨1, κ, room κ, (y.ck nx).sp + 1⟩ : Ck) := upd_same _ _ _
                    have hok := f.yd.ok nx (by omega)
                    have hwd := f.yd.ckv nx (by omega)
                    rw [hck] at hok hwd
                    have hln := f.yd.len
                    have hlt : Hid (6 + 1 + 1 * 2 + nx * 3 < s6.n) := by unfold Hid; omega
                    have HW : Hid (s6.wd (6 + 1 + 1 * 2 + nx * 3) = (⟨1, κ, room κ, (y.ck nx).sp + 1⟩ : Ck).w) := hwd
                    have cw := fun w => chunk_w (⟨1, κ, room κ, (y.ck nx).sp + 1⟩ : Ck) σ6 hok (by omega) w
                    have lc := fun w => lchunk_any 1 1 k m 100 600 3 nx w HG.out.arena (by omega) (by omega)
                    have hlc : (6 : Int) + 1 + 1 * 2 + (nx : Int) * 3 = ((6 + 1 + 1 * 2 + nx * 3 : Nat) : Int) := by omega
                    rw [hlc] at lc
                    obtain ⟨Z, hZ⟩ : ∃ Z, (⟨1, κ, room κ, (y.ck nx).sp + 1⟩ : Ck).w = Z := ⟨_, rfl⟩
                    rw [hZ] at cw HW
                    obtain ⟨A, hA⟩ : ∃ A, 6 + 1 + 1 * 2 + nx * 3 = A := ⟨_, rfl⟩
                    rw [hA] at lc HW hlt
                    obtain ⟨S, hS⟩ : ∃ S, W.heap.size = S := ⟨_, rfl⟩
                    clear hck hok hwd hln hlc hZ hA
                    go_wp2
                    refine wp_region_rely_tail Grown 9 [.val (.pointer (some ⟨E, 7, none⟩)), .val (.pointer (some ⟨L.p, 0, none⟩)), .val (.pointer (some ⟨E, 0, none⟩)), .val (.agg #[.int .i64 1, .int .i64 1, .int .i64 k, .int .i64 m, .int .i64 100, .int .i64 600, .int .i64 3]), .val (.int .i64 nx), .val (.int .i64 A), .val (.int .u64 Z), .val (.agg #[.int .i64 1, .int .i64 κ, .int .i64 ((⟨1, κ, room κ, (y.ck nx).sp + 1⟩ : Ck).us : Int), .int .i64 ((⟨1, κ, room κ, (y.ck nx).sp + 1⟩ : Ck).sp : Int)]), .that (fun w' v => ∃ X, v = .pointer (some ⟨X, 0, none⟩) ∧ S ≤ X ∧ At w' X 0 39 #[.int .i64 0, .int .i64 0, .int .i64 0, .int .i64 0] [.int .i64 0, .int .i64 0, .int .i64 0, .int .i64 0]) ?_] (by kernel_rfl) Grown.refl Grown.trans (by decide) (by kernel_rfl) (by kernel_rfl) (by kernel_rfl) (by kernel_rfl) (by kernel_rfl) (by kernel_rfl) ?_
                    · rintro x1 y1 v hg ⟨X, hv, hb, hr⟩
                      exact ⟨X, hv, hb, hr.grown hg⟩
                    simp only [List.take_succ_cons, List.take_zero, relyAll, Act.put, List.setIfInBounds_toArray, List.set_cons_zero, List.set_cons_succ]
                    refine ⟨?_, ?_, ?_, ?_, ?_, ?_, ?_, ?_, ?_, ?_⟩
                    · intro w' hg _
                      refine Or.inl ⟨rfl, ?_⟩
                      go_simp
                      exact ⟨Grown.refl _, rfl⟩
                    · intro w' hg _
                      refine Or.inl ⟨rfl, ?_⟩
                      have y7 := (f.drew.grown hg).v.c7
                      go_simp
                      exact ⟨Grown.refl _, rfl⟩
                    · intro w' hg _
                      refine Or.inl ⟨rfl, ?_⟩
                      go_simp
                      exact ⟨Grown.refl _, rfl⟩
                    · intro w' hg _
                      refine Or.inl ⟨rfl, ?_⟩
                      have vv := (f.drew.grown hg).v
                      have y0 := vv.c0
                      have y1 := vv.c1
                      have y2 := vv.c2
                      have y3 := vv.c3
                      have y4 := vv.c4
                      have y5 := vv.c5
                      have y6 := vv.c6
                      go_simp
                      exact ⟨Grown.refl _, rfl⟩
                    · intro w' hg _
                      refine Or.inl ⟨rfl, ?_⟩
                      go_simp
                      exact ⟨Grown.refl _, rfl⟩
                    · intro w' hg _
                      refine Or.inl ⟨rfl, ?_⟩
                      go_simp
                      refine (lc _).mono ?_
                      rintro e w'' ⟨rfl, b9⟩
                      exact ⟨_, rfl, b9, rfl⟩
                    · intro w' hg _
                      refine Or.inl ⟨rfl, ?_⟩
                      go_simp
                      refine (peek_is (f.drew.grown hg).mm A hlt.out Z HW.out).mono ?_
                      rintro e w'' ⟨rfl, rfl⟩
                      exact ⟨_, rfl, Grown.refl _, rfl⟩
                    · intro w' hg _
                      refine Or.inl ⟨rfl, ?_⟩
                      go_simp
                      refine (cw _).mono ?_
                      rintro e w'' ⟨rfl, b9⟩
                      exact ⟨_, rfl, b9, rfl⟩
                    · intro w' hg _
                      refine Or.inl ⟨rfl, ?_⟩
                      have hz : S ≤ w'.heap.size := by have := hg.size; have e : W.drew.heap.size = W.heap.size := rfl; omega
                      have q := At.new w' 39 [.int .i64 0, .int .i64 0, .int .i64 0, .int .i64 0]
                      go_simp
                      exact ⟨grow_alloc (Below.refl _ _) _, _, rfl, hz, q⟩
                    intro vX w8 hg hf
                    obtain ⟨X, rfl, hXS, q8⟩ := hf.1
                    have f8 := f.drew.grown hg
                    have t8 := tl.grown (show Below W.heap.size W w8 from (Below.refl _ _).drew.trans hg)
                    have hXO : X ≠ O := by have := tl.o.lt; omega
                    have hXU : X ≠ U := by have := tl.u.lt; omega
                    have hXE : E ≠ X := by have := f.ltE; omega
                    have hXL : ¬ L.has X := fun hh => by have := f.mm.lt _ hh; omega
                    have hXw : w.heap.size ≤ X := by have := f.b.size; omega
                    have q0 := q8.at0 0 rfl
                    have q1 := q8.at0 1 rfl
                    have q2 := q8.at0 2 rfl
                    have q3 := q8.at0 3 rfl
                    have qf := q8.fz
                    have f9 := (((f8.setIn hXw hXE hXL 0 (.int .i64 1)).setIn hXw hXE hXL 1 (.int .i64 κ)).setIn hXw hXE hXL 2 (.int .i64 ((⟨1, κ, room κ, (y.ck nx).sp + 1⟩ : Ck).us : Int))).setIn hXw hXE hXL 3 (.int .i64 ((⟨1, κ, room κ, (y.ck nx).sp + 1⟩ : Ck).sp : Int))
                    have q9 := (((q8.put0 0 (.int .i64 1)).put0 1 (.int .i64 κ)).put0 2 (.int .i64 ((⟨1, κ, room κ, (y.ck nx).sp + 1⟩ : Ck).us : Int))).put0 3 (.int .i64 ((⟨1, κ, room κ, (y.ck nx).sp + 1⟩ : Ck).sp : Int))
                    have t9 : Tally ((((w8.setCell ⟨X, 0, none⟩ (.int .i64 1)).setCell ⟨X, 1, none⟩ (.int .i64 κ)).setCell ⟨X, 2, none⟩ (.int .i64 ((⟨1, κ, room κ, (y.ck nx).sp + 1⟩ : Ck).us : Int))).setCell ⟨X, 3, none⟩ (.int .i64 ((⟨1, κ, room κ, (y.ck nx).sp + 1⟩ : Ck).sp : Int))) O U k ⟨upd y.ck nx ⟨1, κ, room κ, (y.ck nx).sp + 1⟩, upd y.op κ (nx + 1)⟩ := ⟨(((t8.o.setOther hXO.symm _).setOther hXO.symm _).setOther hXO.symm _).setOther hXO.symm _, (((t8.u.setOther hXU.symm _).setOther hXU.symm _).setOther hXU.symm _).setOther hXU.symm _⟩
                    clear hf hg f tl cw lc HW hlt
                    go_wp2
                    refine wp_over (fun W => Plot w W L E 1 1 k m s6 σ6 ⟨upd y.ck nx ⟨1, κ, room κ, (y.ck nx).sp + 1⟩, upd y.op κ (nx + 1)⟩ ∧ Tally W O U k ⟨upd y.ck nx ⟨1, κ, room κ, (y.ck nx).sp + 1⟩, upd y.op κ (nx + 1)⟩ ∧ At W X 0 39 _ [.int .i64 1, .int .i64 κ, .int .i64 ((⟨1, κ, room κ, (y.ck nx).sp + 1⟩ : Ck).us : Int), .int .i64 ((⟨1, κ, room κ, (y.ck nx).sp + 1⟩ : Ck).sp : Int)]) ⟨f9, t9, q9⟩ ?_
                    clear f8 t8 q8 q0 q1 q2 q3 qf f9 q9 t9 hXO hXU hXE hXL hXw hXS hS
                    rintro W2 ⟨f, tl, ch⟩
                    have g0 := fun N : Later W2 => (ch.grown N.below).at0 0 rfl
                    have g1 := fun N : Later W2 => (ch.grown N.below).at0 1 rfl
                    have g2 := fun N : Later W2 => (ch.grown N.below).at0 2 rfl
                    have cU : ∀ N : Later W2, N.now.cell? ⟨U, nx, none⟩ = some (.int .i64 ((⟨1, κ, room κ, (y.ck nx).sp + 1⟩ : Ck).us : Int)) := fun N => by
                      have := (tl.grown N.below).u.cell (i := nx) (by omega)
                      simpa [upd_same] using this
                    have e0 := fun N : Later W2 => (f.v.grown N.below).c0
                    have e1 := fun N : Later W2 => (f.v.grown N.below).c1
                    have e2 := fun N : Later W2 => (f.v.grown N.below).c2
                    have e3 := fun N : Later W2 => (f.v.grown N.below).c3
                    have e4 := fun N : Later W2 => (f.v.grown N.below).c4
                    have e5 := fun N : Later W2 => (f.v.grown N.below).c5
                    have e6 := fun N : Later W2 => (f.v.grown N.below).c6
                    have e7 := fun N : Later W2 => (f.v.grown N.below).c7
                    have e8 := fun N : Later W2 => (f.v.grown N.below).c8
                    haveI := Later.exists W2
                    refine wp_region_later (by kernel_rfl) (by kernel_rfl) ?_
                    repeat (go_big_quiet_step (fail))
                    refine wpQuiet_nil ?_
                    rintro _ ⟨nq, rfl⟩
                    clear e0 e1 e2 e3 e4 e5 e6 e7 e8
                    clear cU g0 g1 g2
                    go_wp2
                    go_roundw
                    case rel => exact ⟨r + 1, (nx + 1), s6, σ6, _, by omega, by go_num, by go_num, by omega, f.grown nq.below, tl.grown nq.below, G.out.alone HA.out hκ4⟩
                    case measure => simp [intOf]; omega
                  · clear f husb
                    have G : Hid (Got k m κ (base 1 1 k m) y nx y nx .none) := .none hno (by omega)
                    have hi0' : (i0 : Int) < (k : Int) := by omega
                    have hfit' : ¬ ((y.ck i0).us : Int) + (room κ : Int) ≤ (m : Int) := by have := hno i0 hop; omega
                    have hnk' : ¬ (nx : Int) < (k : Int) := by omega
                    clear TL0 A0 hz0
                    go_wp2_with (first
                      | (go_at_call 10; refine (rroom_w κ hκ4 _).mono ?_; rintro e w5 ⟨rfl, b5⟩; have f5 := Hf.out.grown b5; have t5 := TL.out.grown b5; have z0 := f5.v.c0; have z1 := f5.v.c1; have z2 := f5.v.c2; have z3 := f5.v.c3; have z4 := f5.v.c4; have z5 := f5.v.c5; have z6 := f5.v.c6; have z7 := f5.v.c7; have z8 := f5.v.c8)
                      | (go_at_call 11; refine (f5.get FA.out hκ4 (by omega) HA.out G.out 0 0 false rfl).mono ?_; rintro e w6 ⟨rfl, s6, σ6, hσ6, f6, o6, kp6⟩; have t7 := (t5.only o6 hLO.out hLU.out).grown (grow_alloc (Below.refl _ _) (.cells #[.int .i64 0, .int .i64 0] 34)); have cO : (w6.alloc (.cells #[.int .i64 0, .int .i64 0] 34)).cell? ⟨O, κ, none⟩ = some (.int .i64 (i0 : Int)) := by { have := t7.o.cell (i := κ) hκ4; rw [hop] at this; simpa using this }; have cU := t7.u.cell hi0))
                    have A9 := G.out.alone HA.out hκ4
                    have f9 := f6.alloc (.cells #[.int .i64 0, .int .i64 0] 34)
                    go_roundw
                    case rel => exact ⟨r + 1, nx, s6, σ6, y, by omega, rfl, by go_num, by omega, f9, t7, A9⟩
                    case measure => simp [intOf]; omega
            · by_cases hrN : r < N
              · have hrN' : (r : Int) < (N : Int) := by omega
                have hr3' : ¬ (r : Int) < 60 := by omega
                have B9 := f.b
                clear f
                go_wp2
                go_ret
                exact ⟨rfl, B9⟩
              · have hrN' : ¬ (r : Int) < (N : Int) := by omega
                have B9 := f.b
                clear f
                go_wp2
                go_ret
                exact ⟨rfl, B9⟩

end Go.Proofs.Ytbhjokfgajjoiaa
