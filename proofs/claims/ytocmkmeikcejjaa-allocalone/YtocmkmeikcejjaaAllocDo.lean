/- What a step of one who makes an object comes to (package alloc): to ask for a life, to get words, to count them, to lay heads and the handle's word, to give the slot back. -/
import Derived.Test.YtocmkmeikcejjaaAllocStep
namespace Go.Proofs.Ytocmkmeikcejjaa
open Go.RowKit

/-- the memory and one who makes an object, while a step is done and what it told is noted -/
def phAl (L : Loc) (b o : Nat) (T : TypeId) (c c' : Array Value) (s s' : Mm) (a a' : AV) : Nat → World → Prop
  | 0, w => MemAt w L s ∧ AlAt w b o T c a
  | 1, w => MemAt w L s' ∧ AlAt w b o T c a
  | _, w => MemAt w L s' ∧ AlAt w b o T c' a'

theorem phAl_grown {L : Loc} {b o : Nat} {T : TypeId} {c c' : Array Value} {s s' : Mm} {a a' : AV} (x y : World) (p : Nat) (g : Grown x y) (k : phAl L b o T c c' s s' a a' p x) : phAl L b o T c c' s s' a a' p y := by
  match p, k with
  | 0, k => exact ⟨k.1.below g, k.2.grown g⟩
  | 1, k => exact ⟨k.1.below g, k.2.grown g⟩
  | p + 2, k => exact ⟨k.1.below g, k.2.grown g⟩

set_option maxHeartbeats 400000 in
theorem aask {w : World} {L : Loc} {s : Mm} {b o : Nat} {T : TypeId} {cs : Array Value} {a : AV} {t n k m : Nat} {g p r : Int} (h : MemAt w L s) (hb : ¬ L.has b) (hi : AlAt w b o T cs a) (who : Int) (ar : Arena t n k m) (x : Nat) (hx : a.sl = x) (hxn : x ≤ 1000000) (hn : 6 + t + x * 2 < s.n) (v : Int) (hv : s.wd (6 + t + x * 2) = v) (v0 : 0 ≤ v) (v1 : v ≤ 18446744073709551615) (G : Nat) (hG : v / 8388608 % 65536 = G) (K : Nat) (hK : classOf a.sz = K) :
    Calls Try.prog 32 #[.pointer (some ⟨b, o, none⟩), .agg #[.int .i64 t, .int .i64 n, .int .i64 k, .int .i64 m, .int .i64 g, .int .i64 p, .int .i64 r, .pointer (some ⟨L.p, 0, none⟩), .int .i64 who]] w fun e w' => e = .returned (.tuple #[]) ∧ Acts L b o T cs w w' (fun s' a' => s' = (s.by who).step (6 + t + x * 2) (s.wd (6 + t + x * 2)) ∧ a' = { a with gn := G, pl := PlV 0 K 0 0 0 0 0, nx := 2 }) := by
  have hbv : ¬ L.has w.heap.size := fun hh => by have := h.lt _ hh; omega
  have hbb : ¬ w.heap.size = b := fun hh => by have := hi.lt; omega
  have sw := fun w => slot_any v w v0 v1
  rw [hG] at sw
  have HV : Hid (s.wd (6 + t + x * 2) = v) := hv
  have HK : Hid (classOf a.sz = K) := hK
  have HX : Hid (a.sl = x) := hx
  have fl : ∀ (a1 a2 a3 a4 : Value) (w : World), (Instr.field 53 (.agg #[a1, a2, a3, a4]) 2).run Try.prog w = .ok a3 w := fun a1 a2 a3 a4 w => by kernel_rfl
  have np := fun w => newPlace_any K w
  unfold place0 at np
  clear hv hK hG v0 v1 hx
  go_enter Try.func32, Try.ntmps32
  go_wp2
  refine wp_over (fun W => MemAt W L s ∧ AlAt W b o T (cs) a ∧ BoxV W w.heap.size t n k m g p r L.p who ∧ Only (L.and b) w W) ⟨h.alloc _, hi.grown (grow_alloc (Below.refl _ _) _), BoxV.new, (Only.refl _ _).alloc _⟩ ?_
  rintro W ⟨m1, i1, v1, o1⟩
  refine wp_region_phase (OnlyBut L b (o + 18)) Grown (phAl L b o T cs (cs.setIfInBounds (o + 18) (.int .i64 G)) s ((s.by who).step (6 + t + x * 2) (s.wd (6 + t + x * 2))) a { a with gn := G }) [10, 16] [.val (.pointer (some ⟨b, o, none⟩)), .val (.agg #[.int .i64 t, .int .i64 n, .int .i64 k, .int .i64 m, .int .i64 g, .int .i64 p, .int .i64 r, .pointer (some ⟨L.p, 0, none⟩), .int .i64 who]), .val (.pointer (some ⟨w.heap.size, 0, none⟩)), .val (.agg #[.int .i64 t, .int .i64 n, .int .i64 k, .int .i64 m, .int .i64 g, .int .i64 p, .int .i64 r]), .val (.pointer (some ⟨b, o, none⟩)), .val (.pointer (some ⟨b, o, none⟩)), .val (.pointer (some ⟨b, o + 15, none⟩)), .val (.pointer (some ⟨b, o + 17, none⟩)), .val (.int .i64 x), .val (.int .i64 ((6 + t + x * 2 : Nat) : Int)), .val (.int .u64 v), .val (.agg #[.int .i64 (v % 8), .int .i64 (v / 8 % 1048576), .int .i64 G, .int .i64 (v / 549755813888 % 4194304)]), .val (.int .i64 G), .val (.pointer (some ⟨b, o, none⟩)), .val (.pointer (some ⟨b, o + 15, none⟩)), .val (.pointer (some ⟨b, o + 18, none⟩)), .that (fun _ _ => True) (fun _ _ _ _ _ => trivial)]
    (by kernel_rfl) OnlyBut.refl OnlyBut.trans OnlyBut.ofGrown phAl_grown ⟨m1.drew, i1.drew⟩ (by kernel_rfl) (by kernel_rfl) (by kernel_rfl) (by kernel_rfl) (by kernel_rfl) ?_
  simp only [phaseAll, Act.put, List.setIfInBounds_toArray, List.set_cons_zero, List.set_cons_succ]
  refine ⟨?_, ?_, ?_, ?_, ?_, ?_, ?_, ?_, ?_, ?_, ?_, ?_, ?_, ?_, ?_, ?_, ?_, ?_⟩
  · intro w' hR _
    refine Or.inl ⟨rfl, ?_⟩
    go_simp
    exact ⟨Grown.refl _, rfl⟩
  · intro w' hR _
    refine Or.inl ⟨rfl, ?_⟩
    have vv := (v1.grown ((Below.refl _ _).drew)).only hR.only (fun hh => hh.elim hbv hbb)
    have y0 := vv.c0
    have y1 := vv.c1
    have y2 := vv.c2
    have y3 := vv.c3
    have y4 := vv.c4
    have y5 := vv.c5
    have y6 := vv.c6
    have y7 := vv.c7
    have y8 := vv.c8
    go_simp
    exact ⟨Grown.refl _, rfl⟩
  · intro w' hR _
    refine Or.inl ⟨rfl, ?_⟩
    go_simp
    exact ⟨Grown.refl _, rfl⟩
  · intro w' hR _
    refine Or.inl ⟨rfl, ?_⟩
    have vv := (v1.grown ((Below.refl _ _).drew)).only hR.only (fun hh => hh.elim hbv hbb)
    have y0 := vv.c0
    have y1 := vv.c1
    have y2 := vv.c2
    have y3 := vv.c3
    have y4 := vv.c4
    have y5 := vv.c5
    have y6 := vv.c6
    have y7 := vv.c7
    have y8 := vv.c8
    go_simp
    exact ⟨Grown.refl _, rfl⟩
  · intro w' hR _
    refine Or.inl ⟨rfl, ?_⟩
    go_simp
    exact ⟨Grown.refl _, rfl⟩
  · intro w' hR _
    refine Or.inl ⟨rfl, ?_⟩
    go_simp
    exact ⟨Grown.refl _, rfl⟩
  · intro w' hR _
    refine Or.inl ⟨rfl, ?_⟩
    go_simp
    exact ⟨Grown.refl _, rfl⟩
  · intro w' hR _
    refine Or.inl ⟨rfl, ?_⟩
    go_simp
    exact ⟨Grown.refl _, rfl⟩
  · intro w' hR _
    refine Or.inl ⟨rfl, ?_⟩
    have z := hR.keep (j := o + 17) (by omega) i1.drew.c_sl
    rw [HX.out] at z
    go_simp
    exact ⟨Grown.refl _, rfl⟩
  · intro w' hR _
    refine Or.inl ⟨rfl, ?_⟩
    go_simp
    refine (lslot_any _ _ _ _ _ _ _ (x : Int) _ ar (by omega) (by omega)).mono ?_
    rintro e w'' ⟨rfl, b9⟩
    exact ⟨_, rfl, b9, congrArg (Value.int .i64) (by omega)⟩
  · intro w' hR _ hP
    refine Or.inl ⟨rfl, ?_⟩
    go_simp
    refine (eload_in (s := s) hP.1 _ _ _ _ _ _ _ _ (6 + t + x * 2) hn).mono ?_
    rintro e w'' ⟨rfl, m2, o2⟩
    exact ⟨_, rfl, ⟨OnlyBut.ofOnly o2 hb, m2, hP.2.only o2 hb⟩, by simp [Want.pred, HV.out]⟩
  · intro w' hR _
    refine Or.inl ⟨rfl, ?_⟩
    go_simp
    refine (sw _).mono ?_
    rintro e w'' ⟨rfl, b9⟩
    exact ⟨_, rfl, b9, rfl⟩
  · intro w' hR _
    refine Or.inl ⟨rfl, ?_⟩
    go_simp
    exact ⟨Grown.refl _, rfl⟩
  · intro w' hR _
    refine Or.inl ⟨rfl, ?_⟩
    go_simp
    exact ⟨Grown.refl _, rfl⟩
  · intro w' hR _
    refine Or.inl ⟨rfl, ?_⟩
    go_simp
    exact ⟨Grown.refl _, rfl⟩
  · intro w' hR _
    refine Or.inl ⟨rfl, ?_⟩
    go_simp
    exact ⟨Grown.refl _, rfl⟩
  · intro w' hR _ hP
    refine Or.inl ⟨rfl, ?_⟩
    have z0 := hP.2.c_gn
    have z1 := hP.2.fz
    go_simp
    exact ⟨⟨OnlyBut.set _ _, hP.1.setIn hb _ _, hP.2.set_gn _⟩, trivial⟩
  intro vv w2 hR hP _
  obtain ⟨m2, i2⟩ : MemAt w2 L ((s.by who).step (6 + t + x * 2) (s.wd (6 + t + x * 2))) ∧ AlAt w2 b o T (cs.setIfInBounds (o + 18) (.int .i64 G)) { a with gn := G } := hP
  have o2 : Only (L.and b) w w2 := o1.drew.trans hR.only
  have s2 : Same o 26 cs (cs.setIfInBounds (o + 18) (.int .i64 G)) := Same.refl.set (by omega) _
  clear hR o1 v1 m1 i1 sw fl
  go_wp2_with (first
    | (go_at_call 44; refine (aclass_any _ _ HK.out i2.c_sz).mono ?_; rintro e w1 ⟨rfl, rfl⟩)
    | (go_at_call 49; refine (np _).mono ?_; rintro e w1 ⟨rfl, rfl⟩; have i3 := i2.grown (grow_alloc (Below.refl _ _) (.cells #[.int .i64 0, .int .i64 K, .int .u64 0, .int .i64 0, .int .u64 0, .int .i64 0, .int .i64 0] 79)); obtain ⟨x0, q0⟩ := i3.c_pl0; obtain ⟨x1, q1⟩ := i3.c_pl1; obtain ⟨x2, q2⟩ := i3.c_pl2; obtain ⟨x3, q3⟩ := i3.c_pl3; obtain ⟨x4, q4⟩ := i3.c_pl4; obtain ⟨x5, q5⟩ := i3.c_pl5; obtain ⟨x6, q6⟩ := i3.c_pl6; have q7 := i3.c_nx; have qf := i3.fz))
  go_end0
  obtain ⟨y0, y1, y2, y3, y4, y5, y6, hl⟩ := len7 hi.lpl
  exact ⟨rfl, _, _, _, (((((((((m2.alloc _).setIn hb _ _).setIn hb _ _).setIn hb _ _).setIn hb _ _).setIn hb _ _).setIn hb _ _).setIn hb _ _).setIn hb _ _), (((((((((o2.alloc _).set _ _).set _ _).set _ _).set _ _).set _ _).set _ _).set _ _).set _ _), (((((((i3.set_pl0 (.int .i64 0)).set_pl1 (.int .i64 K)).set_pl2 (.int .u64 0)).set_pl3 (.int .i64 0)).set_pl4 (.int .u64 0)).set_pl5 (.int .i64 0)).set_pl6 (.int .i64 0)).set_nx 2, ((((((((s2.set (by omega) _).set (by omega) _).set (by omega) _).set (by omega) _).set (by omega) _).set (by omega) _).set (by omega) _).set (by omega) _), rfl, by simp [hl, PlV]⟩

set_option maxHeartbeats 400000 in
theorem awords_on {w : World} {L : Loc} {s : Mm} {b o : Nat} {T : TypeId} {cs : Array Value} {a : AV} {t n k m : Nat} {g p r : Int} (h : MemAt w L s) (hb : ¬ L.has b) (hi : AlAt w b o T cs a) (who : Int) {σ K : Nat} {y : Y} (hy : Yard t n k m s σ y) (hG : Good t n k m g p r) (hσ : σ < 1000000) (hκ : K < 4) (τ : Pl) (hpl : τ.cells K a.pl) (hg : τ.good k m K σ) (ho : τ.over = false) (y' : Y) (τ' : Pl) (ht : turn k m K (base t n k m) y τ = (y', τ')) (hd : τ'.over = false) :
    Calls Try.prog 33 #[.pointer (some ⟨b, o, none⟩), .agg #[.int .i64 t, .int .i64 n, .int .i64 k, .int .i64 m, .int .i64 g, .int .i64 p, .int .i64 r, .pointer (some ⟨L.p, 0, none⟩), .int .i64 who]] w fun e w' => e = .returned (.tuple #[]) ∧ Acts L b o T cs w w' (fun s' a' => Yard t n k m s' (σ + 1) y' ∧ (∃ v, s' = (s.by who).step (τ.at t n K) v) ∧ τ'.good k m K (σ + 1) ∧ ∃ l, τ'.cells K l ∧ a' = { a with pl := l }) := by
  have hbv : ¬ L.has w.heap.size := fun hh => by have := h.lt _ hh; omega
  have hbb : ¬ w.heap.size = b := fun hh => by have := hi.lt; omega
  have HT : Hid (turn k m K (base t n k m) y τ = (y', τ')) := ht
  have HO : Hid (τ.over = false) := ho
  have HG : Hid (Good t n k m g p r) := hG
  clear ht ho hG
  go_enter Try.func33, Try.ntmps33
  go_wp2
  refine wp_over (fun W => MemAt W L s ∧ AlAt W b o T (cs) a ∧ BoxV W w.heap.size t n k m g p r L.p who ∧ Only (L.and b) w W) ⟨h.alloc _, hi.grown (grow_alloc (Below.refl _ _) _), BoxV.new, (Only.refl _ _).alloc _⟩ ?_
  rintro W ⟨m1, i1, v1, o1⟩
  refine wp_region_rely_tail Grown 4 [.val (.pointer (some ⟨b, o, none⟩)), .val (.pointer (some ⟨b, o, none⟩)), .val (.pointer (some ⟨b, o + 5, none⟩)), .val (.agg #[.int .i64 t, .int .i64 n, .int .i64 k, .int .i64 m, .int .i64 g, .int .i64 p, .int .i64 r, .pointer (some ⟨L.p, 0, none⟩), .int .i64 who])] (by kernel_rfl) Grown.refl Grown.trans (by decide) (by kernel_rfl) (by kernel_rfl) (by kernel_rfl) (by kernel_rfl) (by kernel_rfl) (by kernel_rfl) ?_
  simp only [List.take_succ_cons, List.take_zero, relyAll, Act.put, List.setIfInBounds_toArray, List.set_cons_zero, List.set_cons_succ]
  refine ⟨?_, ?_, ?_, ?_, ?_⟩
  · intro w' hg _
    refine Or.inl ⟨rfl, ?_⟩
    go_simp
    exact ⟨Grown.refl _, rfl⟩
  · intro w' hg _
    refine Or.inl ⟨rfl, ?_⟩
    go_simp
    exact ⟨Grown.refl _, rfl⟩
  · intro w' hg _
    refine Or.inl ⟨rfl, ?_⟩
    go_simp
    exact ⟨Grown.refl _, rfl⟩
  · intro w' hg _
    refine Or.inl ⟨rfl, ?_⟩
    have vv := (v1.grown ((Below.refl _ _).drew)).grown hg
    have y0 := vv.c0
    have y1 := vv.c1
    have y2 := vv.c2
    have y3 := vv.c3
    have y4 := vv.c4
    have y5 := vv.c5
    have y6 := vv.c6
    have y7 := vv.c7
    have y8 := vv.c8
    go_simp
    exact ⟨Grown.refl _, rfl⟩
  intro w5 hg _
  have m5 := m1.drew.below hg
  have i5 := i1.drew.grown hg
  have v5 := (v1.grown ((Below.refl _ _).drew)).grown hg
  have o5 : Only (L.and b) w w5 := o1.drew.trans (Only.ofGrown hg)
  clear hg m1 i1 v1 o1
  go_wp2_with (first
    | (go_at_call 50; refine (place_turn m5 hb hy HG.out hσ hκ τ ⟨_, i5.plAt, hpl⟩ hg HO.out who y' τ' HT.out false hd).mono ?_; rintro e w6 ⟨rfl, s6, cs6, P⟩; obtain ⟨l6, a6, q6⟩ := P.a; have i6 := i5.step_pl a6 (Pl.cells_len q6) P.same; have v6 := v5.only P.only (fun hh => hh.elim hbv hbb); have o6 := o5.trans P.only; have s6' : Same o 26 cs cs6 := P.same.wide (by omega) (by omega)))
  refine bodyPost_ret (results_none rfl _ _ _) rfl ?_
  exact ⟨rfl, s6, cs6, _, P.mm, o6, i6, s6', P.yd, P.st, P.good, l6, q6, rfl⟩

set_option maxHeartbeats 400000 in
theorem awords_won {w : World} {L : Loc} {s : Mm} {b o : Nat} {T : TypeId} {cs : Array Value} {a : AV} {t n k m : Nat} {g p r : Int} (h : MemAt w L s) (hb : ¬ L.has b) (hi : AlAt w b o T cs a) (who : Int) {σ K : Nat} {y : Y} (hy : Yard t n k m s σ y) (hG : Good t n k m g p r) (hσ : σ < 1000000) (hκ : K < 4) (τ : Pl) (hpl : τ.cells K a.pl) (hg : τ.good k m K σ) (ho : τ.over = false) (y' : Y) (τ' : Pl) (ht : turn k m K (base t n k m) y τ = (y', τ')) (A i : Nat) (hd : τ' = .won A i) :
    Calls Try.prog 33 #[.pointer (some ⟨b, o, none⟩), .agg #[.int .i64 t, .int .i64 n, .int .i64 k, .int .i64 m, .int .i64 g, .int .i64 p, .int .i64 r, .pointer (some ⟨L.p, 0, none⟩), .int .i64 who]] w fun e w' => e = .returned (.tuple #[]) ∧ Acts L b o T cs w w' (fun s' a' => Yard t n k m s' (σ + 1) y' ∧ (∃ v, s' = (s.by who).step (τ.at t n K) v) ∧ ∃ l, l.length = 7 ∧ a' = { a with pl := l, sa := A, sc := i, nx := 3 }) := by
  have hbv : ¬ L.has w.heap.size := fun hh => by have := h.lt _ hh; omega
  have hbb : ¬ w.heap.size = b := fun hh => by have := hi.lt; omega
  have HT : Hid (turn k m K (base t n k m) y τ = (y', τ')) := ht
  have HO : Hid (τ.over = false) := ho
  have HG : Hid (Good t n k m g p r) := hG
  clear ht ho hG
  go_enter Try.func33, Try.ntmps33
  go_wp2
  refine wp_over (fun W => MemAt W L s ∧ AlAt W b o T (cs) a ∧ BoxV W w.heap.size t n k m g p r L.p who ∧ Only (L.and b) w W) ⟨h.alloc _, hi.grown (grow_alloc (Below.refl _ _) _), BoxV.new, (Only.refl _ _).alloc _⟩ ?_
  rintro W ⟨m1, i1, v1, o1⟩
  refine wp_region_rely_tail Grown 4 [.val (.pointer (some ⟨b, o, none⟩)), .val (.pointer (some ⟨b, o, none⟩)), .val (.pointer (some ⟨b, o + 5, none⟩)), .val (.agg #[.int .i64 t, .int .i64 n, .int .i64 k, .int .i64 m, .int .i64 g, .int .i64 p, .int .i64 r, .pointer (some ⟨L.p, 0, none⟩), .int .i64 who])] (by kernel_rfl) Grown.refl Grown.trans (by decide) (by kernel_rfl) (by kernel_rfl) (by kernel_rfl) (by kernel_rfl) (by kernel_rfl) (by kernel_rfl) ?_
  simp only [List.take_succ_cons, List.take_zero, relyAll, Act.put, List.setIfInBounds_toArray, List.set_cons_zero, List.set_cons_succ]
  refine ⟨?_, ?_, ?_, ?_, ?_⟩
  · intro w' hg _
    refine Or.inl ⟨rfl, ?_⟩
    go_simp
    exact ⟨Grown.refl _, rfl⟩
  · intro w' hg _
    refine Or.inl ⟨rfl, ?_⟩
    go_simp
    exact ⟨Grown.refl _, rfl⟩
  · intro w' hg _
    refine Or.inl ⟨rfl, ?_⟩
    go_simp
    exact ⟨Grown.refl _, rfl⟩
  · intro w' hg _
    refine Or.inl ⟨rfl, ?_⟩
    have vv := (v1.grown ((Below.refl _ _).drew)).grown hg
    have y0 := vv.c0
    have y1 := vv.c1
    have y2 := vv.c2
    have y3 := vv.c3
    have y4 := vv.c4
    have y5 := vv.c5
    have y6 := vv.c6
    have y7 := vv.c7
    have y8 := vv.c8
    go_simp
    exact ⟨Grown.refl _, rfl⟩
  intro w5 hg _
  have m5 := m1.drew.below hg
  have i5 := i1.drew.grown hg
  have v5 := (v1.grown ((Below.refl _ _).drew)).grown hg
  have o5 : Only (L.and b) w w5 := o1.drew.trans (Only.ofGrown hg)
  clear hg m1 i1 v1 o1
  go_wp2_with (first
    | (go_at_call 50; refine (place_turn m5 hb hy HG.out hσ hκ τ ⟨_, i5.plAt, hpl⟩ hg HO.out who y' τ' HT.out true (by rw [hd]; rfl)).mono ?_; rintro e w6 ⟨rfl, s6, cs6, P⟩; obtain ⟨l6, a6, q6⟩ := P.a; have i6 := i5.step_pl a6 (Pl.cells_len q6) P.same; have v6 := v5.only P.only (fun hh => hh.elim hbv hbb); have o6 := o5.trans P.only; have s6' : Same o 26 cs cs6 := P.same.wide (by omega) (by omega))
    | (go_at_call 51; refine (spot_any P.a A i true (by rw [hd]; rfl)).mono ?_; rintro e w7 ⟨rfl, b7⟩; have i7 := i6.grown b7; have i9 := i7.grown (grow_alloc (Below.refl _ _) (.cells #[.int .i64 A, .int .i64 i] 77)); have k0 := i9.c_nx; have k1 := i9.c_sa; have k2 := i9.c_sc; have kf := i9.fz))
  go_end0
  have o7 : Only (L.and b) w w7 := o6.trans (Only.ofGrown b7)
  exact ⟨rfl, s6, _, _, ((((P.mm.below b7).alloc _).setIn hb _ _).setIn hb _ _).setIn hb _ _, (((o7.alloc _).set _ _).set _ _).set _ _, ((i9.set_sa A).set_sc i).set_nx 3, ((s6'.set (by omega) _).set (by omega) _).set (by omega) _, P.yd, P.st, l6, Pl.cells_len q6, rfl⟩

set_option maxHeartbeats 400000 in
theorem awords_none {w : World} {L : Loc} {s : Mm} {b o : Nat} {T : TypeId} {cs : Array Value} {a : AV} {t n k m : Nat} {g p r : Int} (h : MemAt w L s) (hb : ¬ L.has b) (hi : AlAt w b o T cs a) (who : Int) {σ K : Nat} {y : Y} (hy : Yard t n k m s σ y) (hG : Good t n k m g p r) (hσ : σ < 1000000) (hκ : K < 4) (τ : Pl) (hpl : τ.cells K a.pl) (hg : τ.good k m K σ) (ho : τ.over = false) (y' : Y) (τ' : Pl) (ht : turn k m K (base t n k m) y τ = (y', τ')) (x : Nat) (hx : a.sl = x) (hd : τ' = .none) :
    Calls Try.prog 33 #[.pointer (some ⟨b, o, none⟩), .agg #[.int .i64 t, .int .i64 n, .int .i64 k, .int .i64 m, .int .i64 g, .int .i64 p, .int .i64 r, .pointer (some ⟨L.p, 0, none⟩), .int .i64 who]] w fun e w' => e = .returned (.tuple #[]) ∧ Acts L b o T cs w w' (fun s' a' => Yard t n k m s' (σ + 1) y' ∧ (∃ v, s' = (s.by who).step (τ.at t n K) v) ∧ ∃ l, l.length = 7 ∧ a' = { a with pl := l, gv := GvV 0 x 0, nx := 7 }) := by
  have hbv : ¬ L.has w.heap.size := fun hh => by have := h.lt _ hh; omega
  have hbb : ¬ w.heap.size = b := fun hh => by have := hi.lt; omega
  have HT : Hid (turn k m K (base t n k m) y τ = (y', τ')) := ht
  have HO : Hid (τ.over = false) := ho
  have HG : Hid (Good t n k m g p r) := hG
  clear ht ho hG
  have HX : Hid (a.sl = x) := hx
  clear hx
  go_enter Try.func33, Try.ntmps33
  go_wp2
  refine wp_over (fun W => MemAt W L s ∧ AlAt W b o T (cs) a ∧ BoxV W w.heap.size t n k m g p r L.p who ∧ Only (L.and b) w W) ⟨h.alloc _, hi.grown (grow_alloc (Below.refl _ _) _), BoxV.new, (Only.refl _ _).alloc _⟩ ?_
  rintro W ⟨m1, i1, v1, o1⟩
  refine wp_region_rely_tail Grown 4 [.val (.pointer (some ⟨b, o, none⟩)), .val (.pointer (some ⟨b, o, none⟩)), .val (.pointer (some ⟨b, o + 5, none⟩)), .val (.agg #[.int .i64 t, .int .i64 n, .int .i64 k, .int .i64 m, .int .i64 g, .int .i64 p, .int .i64 r, .pointer (some ⟨L.p, 0, none⟩), .int .i64 who])] (by kernel_rfl) Grown.refl Grown.trans (by decide) (by kernel_rfl) (by kernel_rfl) (by kernel_rfl) (by kernel_rfl) (by kernel_rfl) (by kernel_rfl) ?_
  simp only [List.take_succ_cons, List.take_zero, relyAll, Act.put, List.setIfInBounds_toArray, List.set_cons_zero, List.set_cons_succ]
  refine ⟨?_, ?_, ?_, ?_, ?_⟩
  · intro w' hg _
    refine Or.inl ⟨rfl, ?_⟩
    go_simp
    exact ⟨Grown.refl _, rfl⟩
  · intro w' hg _
    refine Or.inl ⟨rfl, ?_⟩
    go_simp
    exact ⟨Grown.refl _, rfl⟩
  · intro w' hg _
    refine Or.inl ⟨rfl, ?_⟩
    go_simp
    exact ⟨Grown.refl _, rfl⟩
  · intro w' hg _
    refine Or.inl ⟨rfl, ?_⟩
    have vv := (v1.grown ((Below.refl _ _).drew)).grown hg
    have y0 := vv.c0
    have y1 := vv.c1
    have y2 := vv.c2
    have y3 := vv.c3
    have y4 := vv.c4
    have y5 := vv.c5
    have y6 := vv.c6
    have y7 := vv.c7
    have y8 := vv.c8
    go_simp
    exact ⟨Grown.refl _, rfl⟩
  intro w5 hg _
  have m5 := m1.drew.below hg
  have i5 := i1.drew.grown hg
  have v5 := (v1.grown ((Below.refl _ _).drew)).grown hg
  have o5 : Only (L.and b) w w5 := o1.drew.trans (Only.ofGrown hg)
  clear hg m1 i1 v1 o1
  go_wp2_with (first
    | (go_at_call 50; refine (place_turn m5 hb hy HG.out hσ hκ τ ⟨_, i5.plAt, hpl⟩ hg HO.out who y' τ' HT.out true (by rw [hd]; rfl)).mono ?_; rintro e w6 ⟨rfl, s6, cs6, P⟩; obtain ⟨l6, a6, q6⟩ := P.a; have i6 := i5.step_pl a6 (Pl.cells_len q6) P.same; have v6 := v5.only P.only (fun hh => hh.elim hbv hbb); have o6 := o5.trans P.only; have s6' : Same o 26 cs cs6 := P.same.wide (by omega) (by omega))
    | (go_at_call 51; refine (spot_any P.a 0 0 false (by rw [hd]; rfl)).mono ?_; rintro e w7 ⟨rfl, b7⟩; have i7 := i6.grown b7; have i9 := i7.grown (grow_alloc (Below.refl _ _) (.cells #[.int .i64 0, .int .i64 0] 77)); have k3 := i9.c_sl; rw [show ({ a with pl := l6 } : AV).sl = x from HX.out] at k3)
    | (go_at_call 52; refine (newGive_any x _).mono ?_; rintro e w8 ⟨rfl, rfl⟩; have i10 := i9.grown (grow_alloc (Below.refl _ _) (.cells #[.int .i64 0, .int .i64 x, .int .u64 0] 81)); have k0 := i10.c_nx; obtain ⟨x0, k1⟩ := i10.c_gv0; obtain ⟨x1, k2⟩ := i10.c_gv1; obtain ⟨x2, k4⟩ := i10.c_gv2; have kf := i10.fz))
  refine bodyPost_ret (results_none rfl _ _ _) rfl ?_
  have o7 : Only (L.and b) w w7 := o6.trans (Only.ofGrown b7)
  obtain ⟨z0, z1, z2, hl⟩ := len3 hi.lgv
  exact ⟨rfl, s6, _, _, ((((((P.mm.below b7).alloc _).alloc _).setIn hb _ _).setIn hb _ _).setIn hb _ _).setIn hb _ _, (((((o7.alloc _).alloc _).set _ _).set _ _).set _ _).set _ _, (((i10.set_gv0 _).set_gv1 _).set_gv2 _).set_nx 7, (((s6'.set (by omega) _).set (by omega) _).set (by omega) _).set (by omega) _, P.yd, P.st, l6, Pl.cells_len q6, by simp [hl, GvV]⟩

end Go.Proofs.Ytocmkmeikcejjaa
