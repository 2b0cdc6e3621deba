/- What a step of one who lets an object go comes to (package drop), method by method. -/
import Derived.Test.YtbmiieaakbcncaaGreatDropAt
namespace Go.Proofs.YtbmiieaakbcncaaGreat
open Go.RowKit

theorem drefuse {w : World} {L : Loc} {s : Mm} {b o : Nat} {T : TypeId} {cs : Array Value} {t n k m : Nat} {g p r : Int} {a : DV} (h : MemAt w L s) (hb : ¬ L.has b) (hi : DpAt w b o T cs a) (who : Int) (hnx : a.nx < 5) (σ : Nat) (hσ : s.steps = σ) :
    Calls Tryz.prog 39 #[.pointer (some ⟨b, o, none⟩), .agg #[.int .i64 t, .int .i64 n, .int .i64 k, .int .i64 m, .int .i64 g, .int .i64 p, .int .i64 r, .pointer (some ⟨L.p, 0, none⟩), .int .i64 who]] w fun e w' => e = .returned (.tuple #[]) ∧ Dact L b o T cs w w' (fun s' a' => s' = s ∧ a' = { a with nx := 7, E := 3, H := 0, V := 0, St := σ }) := by
  have HS : Hid (s.steps = σ) := hσ
  clear hσ
  have i0 := hi.grown (grow1 _ (.cells #[.int .i64 t, .int .i64 n, .int .i64 k, .int .i64 m, .int .i64 g, .int .i64 p, .int .i64 r, .pointer (some ⟨L.p, 0, none⟩), .int .i64 who] 27))
  have k0 := i0.c_nx
  go_enter Tryz.func39, Tryz.ntmps39
  go_wp2_with (go_at_call 66; refine (now_any (h.alloc _) _ _ _ _ _ _ _ _ σ HS.out).mono ?_; rintro e w1 ⟨rfl, b1⟩; have i1 := i0.grown b1; have m1 := (h.alloc (.cells #[.int .i64 t, .int .i64 n, .int .i64 k, .int .i64 m, .int .i64 g, .int .i64 p, .int .i64 r, .pointer (some ⟨L.p, 0, none⟩), .int .i64 who] 27)).below b1; have k1 := i1.c_E; have k2 := i1.c_H; have k3 := i1.c_V; have k4 := i1.c_St; have k5 := i1.c_nx; have kf := i1.fz)
  go_end0
  exact ⟨rfl, s, _, _, ((((m1.setIn hb _ _).setIn hb _ _).setIn hb _ _).setIn hb _ _).setIn hb _ _, (((((((Only.refl _ _).alloc _).trans (Only.ofGrown b1)).set _ _).set _ _).set _ _).set _ _).set _ _, ((((i1.set_E 3).set_H 0).set_V 0).set_St σ).set_nx 7, ((((Same.refl.set (by omega) _).set (by omega) _).set (by omega) _).set (by omega) _).set (by omega) _, rfl, rfl⟩

set_option maxHeartbeats 400000 in
theorem dsee_no {w : World} {L : Loc} {s : Mm} {b o : Nat} {T : TypeId} {cs : Array Value} {t n k m : Nat} {g p r : Int} {a : DV} (h : MemAt w L s) (hb : ¬ L.has b) (hi : DpAt w b o T cs a) (who : Int) (hG : Good t n k m g p r) {x : Nat} {G : Int} (hx : x < n) (hn : (6 + t + x * 2) < s.n) {v st : Int} {A : Nat} {Gs V : Int} (hv : s.wd (6 + t + x * 2) = v) (hs : SlotIs v st A Gs V) {ci : Int} (hci : chunkOf t n k m A = ci) (hl : (lifeB st && Gs == G) = false) (hnx : a.nx < 5) {σ : Nat} (hσ : wrap64 (s.steps + 1) = σ) :
    Calls Tryz.prog 40 #[.pointer (some ⟨b, o, none⟩), .agg #[.int .i64 t, .int .i64 n, .int .i64 k, .int .i64 m, .int .i64 g, .int .i64 p, .int .i64 r, .pointer (some ⟨L.p, 0, none⟩), .int .i64 who], .agg #[.int .i64 x, .int .i64 G]] w fun e w' => e = .returned (.tuple #[]) ∧ Dact L b o T cs w w' (fun s' a' => s' = ((s.by who).step (6 + t + x * 2) (s.wd (6 + t + x * 2))) ∧ a' = { a with se := v, ch := ci, nx := 7, E := 3, H := 0, V := 0, St := σ }) := by
  have HU : Hid (s.wd (6 + t + x * 2) = v) := hv
  have sw := hs.call
  have hs1 := hG.s1
  have ab : (A : Int) ≤ 1048575 := by have := hs.ad; omega
  have of1 := fun w => lof_any hG (A : Int) (by omega) w
  rw [hci] at of1
  have dl := fun w => dlive_any st A Gs V x G w
  rw [hl] at dl
  clear hv hs hci hl
  have HS : Hid ((((s.by who).step (6 + t + x * 2) (s.wd (6 + t + x * 2)))).steps = σ) := hσ
  clear hσ
  have hbv : ¬ L.has w.heap.size := fun hh => by have := h.lt _ hh; omega
  have hbb : ¬ w.heap.size = b := fun hh => by have := hi.lt; omega
  have hbv1 : ¬ L.has (w.heap.size + 1) := fun hh => by have := h.lt _ hh; omega
  have hbb1 : ¬ w.heap.size + 1 = b := fun hh => by have := hi.lt; omega
  go_enter Tryz.func40, Tryz.ntmps40
  go_wp2
  refine wp_over (fun W => MemAt W L s ∧ DpAt W b o T cs a ∧ BoxV W w.heap.size t n k m g p r L.p who ∧ At W (w.heap.size + 1) 0 44 #[.int .i64 x, .int .i64 G] [.int .i64 x, .int .i64 G] ∧ Only (L.and b) w W) ⟨(h.alloc _).alloc _, (hi.grown (grow1 _ _)).grown (grow1 _ _), BoxV.newB _, At.new2 _ _ _ _, ((Only.refl _ _).alloc _).alloc _⟩ ?_
  rintro W ⟨m1, i1, v1, x1, o1⟩
  refine wp_region_phase (OnlyBut L b (o + 3)) Grown (phDp L b o T cs (cs.setIfInBounds (o + 3) (.int .u64 v)) s ((s.by who).step (6 + t + x * 2) (s.wd (6 + t + x * 2))) a { a with se := v }) [7, 10] [.val (.pointer (some ⟨b, o, none⟩)), .val (.agg #[.int .i64 t, .int .i64 n, .int .i64 k, .int .i64 m, .int .i64 g, .int .i64 p, .int .i64 r, .pointer (some ⟨L.p, 0, none⟩), .int .i64 who]), .val (.pointer (some ⟨w.heap.size, 0, none⟩)), .val (.agg #[.int .i64 t, .int .i64 n, .int .i64 k, .int .i64 m, .int .i64 g, .int .i64 p, .int .i64 r]), .val (.pointer (some ⟨w.heap.size + 1, 0, none⟩)), .val (.int .i64 (x : Nat)), .val (.int .i64 (((6 + t + x * 2) : Nat) : Int)), .val (.int .u64 v), .val (.pointer (some ⟨b, o, none⟩)), .val (.pointer (some ⟨b, o + 3, none⟩)), .that (fun _ _ => True) (fun _ _ _ _ _ => trivial)]
    (by kernel_rfl) OnlyBut.refl OnlyBut.trans OnlyBut.ofGrown phDp_grown ⟨m1.drew, i1.drew⟩ (by kernel_rfl) (by kernel_rfl) (by kernel_rfl) (by kernel_rfl) (by kernel_rfl) ?_
  simp only [phaseAll, Act.put, List.setIfInBounds_toArray, List.set_cons_zero, List.set_cons_succ]
  refine ⟨?_, ?_, ?_, ?_, ?_, ?_, ?_, ?_, ?_, ?_, ?_, ?_⟩
  · intro w' hR _
    refine Or.inl ⟨rfl, ?_⟩
    go_simp
    exact ⟨Grown.refl _, rfl⟩
  · intro w' hR _
    refine Or.inl ⟨rfl, ?_⟩
    have vv := (v1.grown ((Below.refl _ _).drew)).only hR.only (fun hh => hh.elim hbv hbb)
    have y0 := vv.c0
    have y1 := vv.c1
    have y2 := vv.c2
    have y3 := vv.c3
    have y4 := vv.c4
    have y5 := vv.c5
    have y6 := vv.c6
    have y7 := vv.c7
    have y8 := vv.c8
    go_simp
    exact ⟨Grown.refl _, rfl⟩
  · intro w' hR _
    refine Or.inl ⟨rfl, ?_⟩
    go_simp
    exact ⟨Grown.refl _, rfl⟩
  · intro w' hR _
    refine Or.inl ⟨rfl, ?_⟩
    have vv := (v1.grown ((Below.refl _ _).drew)).only hR.only (fun hh => hh.elim hbv hbb)
    have y0 := vv.c0
    have y1 := vv.c1
    have y2 := vv.c2
    have y3 := vv.c3
    have y4 := vv.c4
    have y5 := vv.c5
    have y6 := vv.c6
    have y7 := vv.c7
    have y8 := vv.c8
    go_simp
    exact ⟨Grown.refl _, rfl⟩
  · intro w' hR _
    refine Or.inl ⟨rfl, ?_⟩
    go_simp
    exact ⟨Grown.refl _, rfl⟩
  · intro w' hR _
    refine Or.inl ⟨rfl, ?_⟩
    have z := (x1.drew.only hR.only (fun hh => hh.elim hbv1 hbb1)).at0 0 rfl
    go_simp
    exact ⟨Grown.refl _, rfl⟩
  · intro w' hR _
    refine Or.inl ⟨rfl, ?_⟩
    go_simp
    refine (lslot_any _ _ _ _ _ _ _ (x : Int) _ hG.arena (by omega) (by omega)).mono ?_
    rintro e w'' ⟨rfl, b9⟩
    exact ⟨_, rfl, b9, congrArg (Value.int .i64) (by omega)⟩
  · intro w' hR _ hP
    refine Or.inl ⟨rfl, ?_⟩
    go_simp
    refine (eload_in (s := s) hP.1 _ _ _ _ _ _ _ _ (6 + t + x * 2) hn).mono ?_
    rintro e w'' ⟨rfl, m2, o2⟩
    exact ⟨_, rfl, ⟨OnlyBut.ofOnly o2 hb, m2, hP.2.only o2 hb⟩, by simp [Want.pred, HU.out]⟩
  · intro w' hR _
    refine Or.inl ⟨rfl, ?_⟩
    go_simp
    exact ⟨Grown.refl _, rfl⟩
  · intro w' hR _
    refine Or.inl ⟨rfl, ?_⟩
    go_simp
    exact ⟨Grown.refl _, rfl⟩
  · intro w' hR _ hP
    refine Or.inl ⟨rfl, ?_⟩
    have z0 := hP.2.c_se
    have z1 := hP.2.fz
    go_simp
    exact ⟨⟨OnlyBut.set _ _, hP.1.setIn hb _ _, hP.2.set_se _⟩, trivial⟩
  intro vv w2 hR hP _
  obtain ⟨m2, i2⟩ : MemAt w2 L ((s.by who).step (6 + t + x * 2) (s.wd (6 + t + x * 2))) ∧ DpAt w2 b o T (cs.setIfInBounds (o + 3) (.int .u64 v)) { a with se := v } := hP
  have o2 : Only (L.and b) w w2 := o1.drew.trans hR.only
  have x2 := x1.drew.only hR.only (fun hh => hh.elim hbv1 hbb1)
  have v2 := (v1.grown ((Below.refl _ _).drew)).only hR.only (fun hh => hh.elim hbv hbb)
  have s2 : Same o 21 cs (cs.setIfInBounds (o + 3) (.int .u64 v)) := Same.refl.set (by omega) _
  have k3 : w2.cell? ⟨b, o + 3, none⟩ = some (.int .u64 v) := i2.c_se
  clear hR o1 v1 m1 i1 x1
  go_wp2_with (first
    | (go_at_call 16; refine (sw _).mono ?_; rintro e w3 ⟨rfl, b3⟩; have i4 := (i2.grown b3).grown (grow1 _ (.cells #[.int .i64 st, .int .i64 A, .int .i64 Gs, .int .i64 V] 48)); have x4 := (x2.grown b3).grown (grow1 _ (.cells #[.int .i64 st, .int .i64 A, .int .i64 Gs, .int .i64 V] 48)); have v4 := (v2.grown b3).grown (grow1 _ (.cells #[.int .i64 st, .int .i64 A, .int .i64 Gs, .int .i64 V] 48)); have m4 := (m2.below b3).alloc (.cells #[.int .i64 st, .int .i64 A, .int .i64 Gs, .int .i64 V] 48); have o4 := (o2.trans (Only.ofGrown b3)).alloc (.cells #[.int .i64 st, .int .i64 A, .int .i64 Gs, .int .i64 V] 48); have q4 := At.new w3 48 [.int .i64 st, .int .i64 A, .int .i64 Gs, .int .i64 V]; have y0 := v4.c0; have y1 := v4.c1; have y2 := v4.c2; have y3 := v4.c3; have y4 := v4.c4; have y5 := v4.c5; have y6 := v4.c6; have y7 := v4.c7; have y8 := v4.c8; have q0 := q4.at0 0 rfl)
    | (go_at_call 68; refine (of1 _).mono ?_; rintro e w5 ⟨rfl, b5⟩; have i5 := i4.grown b5; have x5 := x4.grown b5; have v5 := v4.grown b5; have m5 := m4.below b5; have q5 := q4.grown b5; have k4 := i5.c_ch; have kf := i5.fz; have i6 := i5.set_ch ci; have hw3 : w.heap.size + 1 < w3.heap.size := (by have := x2.lt; have := b3.size; omega); have hb3 : b < w3.heap.size := (by have := i2.lt; have := b3.size; omega); have x6 := x5.other (k := b) (by omega) (o + 4) (.int .i64 ci); have v6 := v5.setIn (b := b) hbb (o + 4) (.int .i64 ci); have q6 := q5.other (k := b) (by omega) (o + 4) (.int .i64 ci); have m6 := m5.setIn hb (o + 4) (.int .i64 ci); have z0 := q6.at0 0 rfl; have z1 := q6.at0 1 rfl; have z2 := q6.at0 2 rfl; have z3 := q6.at0 3 rfl; have u0 := x6.at0 0 rfl; have u1 := x6.at0 1 rfl; have r0 := v6.c0; have r1 := v6.c1; have r2 := v6.c2; have r3 := v6.c3; have r4 := v6.c4; have r5 := v6.c5; have r6 := v6.c6; have r7 := v6.c7; have r8 := v6.c8)
    | (go_at_call 29; refine (dl _).mono ?_; rintro e w7 ⟨rfl, b7⟩; have i7 := i6.grown b7; have m7 := m6.below b7; have v7 := v6.grown b7; have o7 := ((o4.trans (Only.ofGrown b5)).set (o + 4) (.int .i64 ci)).trans (Only.ofGrown b7); have l4 : w7.cell? ⟨b, o + 4, none⟩ = some (.int .i64 ci) := i7.c_ch; have l0 := i7.c_nx; have lf := i7.fz; have e0 := v7.c0; have e1 := v7.c1; have e2 := v7.c2; have e3 := v7.c3; have e4 := v7.c4; have e5 := v7.c5; have e6 := v7.c6; have e7 := v7.c7; have e8 := v7.c8)
    | (go_at_call 39; refine (drefuse m7 hb i7 who hnx σ HS.out).mono ?_; rintro e w8 ⟨rfl, s8, cs8, a8, m8, o8, i8, q8, rfl, rfl⟩))
  refine bodyPost_ret (results_none rfl _ _ _) rfl ?_
  exact ⟨rfl, _, _, _, m8, o7.trans o8, i8, (s2.set (by omega) _).trans q8, rfl, rfl⟩

set_option maxHeartbeats 400000 in
theorem dsee_yes {w : World} {L : Loc} {s : Mm} {b o : Nat} {T : TypeId} {cs : Array Value} {t n k m : Nat} {g p r : Int} {a : DV} (h : MemAt w L s) (hb : ¬ L.has b) (hi : DpAt w b o T cs a) (who : Int) (hG : Good t n k m g p r) {x : Nat} {G : Int} (hx : x < n) (hn : (6 + t + x * 2) < s.n) {v st : Int} {A : Nat} {Gs V : Int} (hv : s.wd (6 + t + x * 2) = v) (hs : SlotIs v st A Gs V) {ci : Int} (hci : chunkOf t n k m A = ci) (hl : (lifeB st && Gs == G) = true) (hc0 : 0 ≤ ci) :
    Calls Tryz.prog 40 #[.pointer (some ⟨b, o, none⟩), .agg #[.int .i64 t, .int .i64 n, .int .i64 k, .int .i64 m, .int .i64 g, .int .i64 p, .int .i64 r, .pointer (some ⟨L.p, 0, none⟩), .int .i64 who], .agg #[.int .i64 x, .int .i64 G]] w fun e w' => e = .returned (.tuple #[]) ∧ Dact L b o T cs w w' (fun s' a' => s' = ((s.by who).step (6 + t + x * 2) (s.wd (6 + t + x * 2))) ∧ a' = { a with se := v, ch := ci, nx := 1 }) := by
  have HU : Hid (s.wd (6 + t + x * 2) = v) := hv
  have sw := hs.call
  have hs1 := hG.s1
  have ab : (A : Int) ≤ 1048575 := by have := hs.ad; omega
  have of1 := fun w => lof_any hG (A : Int) (by omega) w
  rw [hci] at of1
  have dl := fun w => dlive_any st A Gs V x G w
  rw [hl] at dl
  clear hv hs hci hl
  have hbv : ¬ L.has w.heap.size := fun hh => by have := h.lt _ hh; omega
  have hbb : ¬ w.heap.size = b := fun hh => by have := hi.lt; omega
  have hbv1 : ¬ L.has (w.heap.size + 1) := fun hh => by have := h.lt _ hh; omega
  have hbb1 : ¬ w.heap.size + 1 = b := fun hh => by have := hi.lt; omega
  go_enter Tryz.func40, Tryz.ntmps40
  go_wp2
  refine wp_over (fun W => MemAt W L s ∧ DpAt W b o T cs a ∧ BoxV W w.heap.size t n k m g p r L.p who ∧ At W (w.heap.size + 1) 0 44 #[.int .i64 x, .int .i64 G] [.int .i64 x, .int .i64 G] ∧ Only (L.and b) w W) ⟨(h.alloc _).alloc _, (hi.grown (grow1 _ _)).grown (grow1 _ _), BoxV.newB _, At.new2 _ _ _ _, ((Only.refl _ _).alloc _).alloc _⟩ ?_
  rintro W ⟨m1, i1, v1, x1, o1⟩
  refine wp_region_phase (OnlyBut L b (o + 3)) Grown (phDp L b o T cs (cs.setIfInBounds (o + 3) (.int .u64 v)) s ((s.by who).step (6 + t + x * 2) (s.wd (6 + t + x * 2))) a { a with se := v }) [7, 10] [.val (.pointer (some ⟨b, o, none⟩)), .val (.agg #[.int .i64 t, .int .i64 n, .int .i64 k, .int .i64 m, .int .i64 g, .int .i64 p, .int .i64 r, .pointer (some ⟨L.p, 0, none⟩), .int .i64 who]), .val (.pointer (some ⟨w.heap.size, 0, none⟩)), .val (.agg #[.int .i64 t, .int .i64 n, .int .i64 k, .int .i64 m, .int .i64 g, .int .i64 p, .int .i64 r]), .val (.pointer (some ⟨w.heap.size + 1, 0, none⟩)), .val (.int .i64 (x : Nat)), .val (.int .i64 (((6 + t + x * 2) : Nat) : Int)), .val (.int .u64 v), .val (.pointer (some ⟨b, o, none⟩)), .val (.pointer (some ⟨b, o + 3, none⟩)), .that (fun _ _ => True) (fun _ _ _ _ _ => trivial)]
    (by kernel_rfl) OnlyBut.refl OnlyBut.trans OnlyBut.ofGrown phDp_grown ⟨m1.drew, i1.drew⟩ (by kernel_rfl) (by kernel_rfl) (by kernel_rfl) (by kernel_rfl) (by kernel_rfl) ?_
  simp only [phaseAll, Act.put, List.setIfInBounds_toArray, List.set_cons_zero, List.set_cons_succ]
  refine ⟨?_, ?_, ?_, ?_, ?_, ?_, ?_, ?_, ?_, ?_, ?_, ?_⟩
  · intro w' hR _
    refine Or.inl ⟨rfl, ?_⟩
    go_simp
    exact ⟨Grown.refl _, rfl⟩
  · intro w' hR _
    refine Or.inl ⟨rfl, ?_⟩
    have vv := (v1.grown ((Below.refl _ _).drew)).only hR.only (fun hh => hh.elim hbv hbb)
    have y0 := vv.c0
    have y1 := vv.c1
    have y2 := vv.c2
    have y3 := vv.c3
    have y4 := vv.c4
    have y5 := vv.c5
    have y6 := vv.c6
    have y7 := vv.c7
    have y8 := vv.c8
    go_simp
    exact ⟨Grown.refl _, rfl⟩
  · intro w' hR _
    refine Or.inl ⟨rfl, ?_⟩
    go_simp
    exact ⟨Grown.refl _, rfl⟩
  · intro w' hR _
    refine Or.inl ⟨rfl, ?_⟩
    have vv := (v1.grown ((Below.refl _ _).drew)).only hR.only (fun hh => hh.elim hbv hbb)
    have y0 := vv.c0
    have y1 := vv.c1
    have y2 := vv.c2
    have y3 := vv.c3
    have y4 := vv.c4
    have y5 := vv.c5
    have y6 := vv.c6
    have y7 := vv.c7
    have y8 := vv.c8
    go_simp
    exact ⟨Grown.refl _, rfl⟩
  · intro w' hR _
    refine Or.inl ⟨rfl, ?_⟩
    go_simp
    exact ⟨Grown.refl _, rfl⟩
  · intro w' hR _
    refine Or.inl ⟨rfl, ?_⟩
    have z := (x1.drew.only hR.only (fun hh => hh.elim hbv1 hbb1)).at0 0 rfl
    go_simp
    exact ⟨Grown.refl _, rfl⟩
  · intro w' hR _
    refine Or.inl ⟨rfl, ?_⟩
    go_simp
    refine (lslot_any _ _ _ _ _ _ _ (x : Int) _ hG.arena (by omega) (by omega)).mono ?_
    rintro e w'' ⟨rfl, b9⟩
    exact ⟨_, rfl, b9, congrArg (Value.int .i64) (by omega)⟩
  · intro w' hR _ hP
    refine Or.inl ⟨rfl, ?_⟩
    go_simp
    refine (eload_in (s := s) hP.1 _ _ _ _ _ _ _ _ (6 + t + x * 2) hn).mono ?_
    rintro e w'' ⟨rfl, m2, o2⟩
    exact ⟨_, rfl, ⟨OnlyBut.ofOnly o2 hb, m2, hP.2.only o2 hb⟩, by simp [Want.pred, HU.out]⟩
  · intro w' hR _
    refine Or.inl ⟨rfl, ?_⟩
    go_simp
    exact ⟨Grown.refl _, rfl⟩
  · intro w' hR _
    refine Or.inl ⟨rfl, ?_⟩
    go_simp
    exact ⟨Grown.refl _, rfl⟩
  · intro w' hR _ hP
    refine Or.inl ⟨rfl, ?_⟩
    have z0 := hP.2.c_se
    have z1 := hP.2.fz
    go_simp
    exact ⟨⟨OnlyBut.set _ _, hP.1.setIn hb _ _, hP.2.set_se _⟩, trivial⟩
  intro vv w2 hR hP _
  obtain ⟨m2, i2⟩ : MemAt w2 L ((s.by who).step (6 + t + x * 2) (s.wd (6 + t + x * 2))) ∧ DpAt w2 b o T (cs.setIfInBounds (o + 3) (.int .u64 v)) { a with se := v } := hP
  have o2 : Only (L.and b) w w2 := o1.drew.trans hR.only
  have x2 := x1.drew.only hR.only (fun hh => hh.elim hbv1 hbb1)
  have v2 := (v1.grown ((Below.refl _ _).drew)).only hR.only (fun hh => hh.elim hbv hbb)
  have s2 : Same o 21 cs (cs.setIfInBounds (o + 3) (.int .u64 v)) := Same.refl.set (by omega) _
  have k3 : w2.cell? ⟨b, o + 3, none⟩ = some (.int .u64 v) := i2.c_se
  clear hR o1 v1 m1 i1 x1
  go_wp2_with (first
    | (go_at_call 16; refine (sw _).mono ?_; rintro e w3 ⟨rfl, b3⟩; have i4 := (i2.grown b3).grown (grow1 _ (.cells #[.int .i64 st, .int .i64 A, .int .i64 Gs, .int .i64 V] 48)); have x4 := (x2.grown b3).grown (grow1 _ (.cells #[.int .i64 st, .int .i64 A, .int .i64 Gs, .int .i64 V] 48)); have v4 := (v2.grown b3).grown (grow1 _ (.cells #[.int .i64 st, .int .i64 A, .int .i64 Gs, .int .i64 V] 48)); have m4 := (m2.below b3).alloc (.cells #[.int .i64 st, .int .i64 A, .int .i64 Gs, .int .i64 V] 48); have o4 := (o2.trans (Only.ofGrown b3)).alloc (.cells #[.int .i64 st, .int .i64 A, .int .i64 Gs, .int .i64 V] 48); have q4 := At.new w3 48 [.int .i64 st, .int .i64 A, .int .i64 Gs, .int .i64 V]; have y0 := v4.c0; have y1 := v4.c1; have y2 := v4.c2; have y3 := v4.c3; have y4 := v4.c4; have y5 := v4.c5; have y6 := v4.c6; have y7 := v4.c7; have y8 := v4.c8; have q0 := q4.at0 0 rfl)
    | (go_at_call 68; refine (of1 _).mono ?_; rintro e w5 ⟨rfl, b5⟩; have i5 := i4.grown b5; have x5 := x4.grown b5; have v5 := v4.grown b5; have m5 := m4.below b5; have q5 := q4.grown b5; have k4 := i5.c_ch; have kf := i5.fz; have i6 := i5.set_ch ci; have hw3 : w.heap.size + 1 < w3.heap.size := (by have := x2.lt; have := b3.size; omega); have hb3 : b < w3.heap.size := (by have := i2.lt; have := b3.size; omega); have x6 := x5.other (k := b) (by omega) (o + 4) (.int .i64 ci); have v6 := v5.setIn (b := b) hbb (o + 4) (.int .i64 ci); have q6 := q5.other (k := b) (by omega) (o + 4) (.int .i64 ci); have m6 := m5.setIn hb (o + 4) (.int .i64 ci); have z0 := q6.at0 0 rfl; have z1 := q6.at0 1 rfl; have z2 := q6.at0 2 rfl; have z3 := q6.at0 3 rfl; have u0 := x6.at0 0 rfl; have u1 := x6.at0 1 rfl; have r0 := v6.c0; have r1 := v6.c1; have r2 := v6.c2; have r3 := v6.c3; have r4 := v6.c4; have r5 := v6.c5; have r6 := v6.c6; have r7 := v6.c7; have r8 := v6.c8)
    | (go_at_call 29; refine (dl _).mono ?_; rintro e w7 ⟨rfl, b7⟩; have i7 := i6.grown b7; have m7 := m6.below b7; have v7 := v6.grown b7; have o7 := ((o4.trans (Only.ofGrown b5)).set (o + 4) (.int .i64 ci)).trans (Only.ofGrown b7); have l4 : w7.cell? ⟨b, o + 4, none⟩ = some (.int .i64 ci) := i7.c_ch; have l0 := i7.c_nx; have lf := i7.fz; have e0 := v7.c0; have e1 := v7.c1; have e2 := v7.c2; have e3 := v7.c3; have e4 := v7.c4; have e5 := v7.c5; have e6 := v7.c6; have e7 := v7.c7; have e8 := v7.c8))
  go_end0
  exact ⟨rfl, _, _, _, m7.setIn hb _ _, o7.set _ _, i7.set_nx 1, (s2.set (by omega) _).set (by omega) _, rfl, rfl⟩

end Go.Proofs.YtbmiieaakbcncaaGreat
