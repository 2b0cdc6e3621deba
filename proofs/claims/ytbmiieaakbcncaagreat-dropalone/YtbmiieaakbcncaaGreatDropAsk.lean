/- What a step of one who lets an object go comes to (package drop): the head is asked, the object is marked. -/
import Derived.Test.YtbmiieaakbcncaaGreatDropDo
namespace Go.Proofs.YtbmiieaakbcncaaGreat
open Go.RowKit

/-- what a head's word holds -/
structure HeadIs (u kd Z sl gn : Int) (ow : Bool) : Prop where
  u0 : 0 ≤ u
  u1 : u ≤ 18446744073709551615
  kd : u % 4 = kd
  sz : u / 4 % 65536 = Z
  sl : u / 262144 % 65536 = sl
  gn : u / 17179869184 % 65536 = gn
  ow : decide (u / 1125899906842624 % 2 = 1) = ow

theorem HeadIs.call {u kd Z sl gn : Int} {ow : Bool} (h : HeadIs u kd Z sl gn ow) (w : World) :
    Calls Tryz.prog 69 #[.int .u64 u] w fun e w' => e = .returned (.agg #[.int .i64 kd, .int .i64 Z, .int .i64 sl, .int .i64 gn, .bool ow]) ∧ Below w.heap.size w w' := by
  have e := head_any u w h.u0 h.u1
  rwa [h.kd, h.sz, h.sl, h.gn, h.ow] at e

set_option maxHeartbeats 1000000 in
theorem dask_no {w : World} {L : Loc} {s : Mm} {b o : Nat} {T : TypeId} {cs : Array Value} {t n k m : Nat} {g p r : Int} {a : DV} (h : MemAt w L s) (hb : ¬ L.has b) (hi : DpAt w b o T cs a) (who : Int) {x : Nat} {G : Int} {st : Int} {A : Nat} {Gs V : Int} (hs : SlotIs a.se st A Gs V) (hn : A < s.n) {u kd Z sl gn : Int} {ow : Bool} (hu : s.wd A = u) (hh : HeadIs u kd Z sl gn ow) (hnx : a.nx < 5) (ho : (ow == a.own) = false) {σ : Nat} (hσ : wrap64 (s.steps + 1) = σ) :
    Calls Tryz.prog 41 #[.pointer (some ⟨b, o, none⟩), .agg #[.int .i64 t, .int .i64 n, .int .i64 k, .int .i64 m, .int .i64 g, .int .i64 p, .int .i64 r, .pointer (some ⟨L.p, 0, none⟩), .int .i64 who], .agg #[.int .i64 x, .int .i64 G]] w fun e w' => e = .returned (.tuple #[]) ∧ Dact L b o T cs w w' (fun s' a' => s' = ((s.by who).step A (s.wd A)) ∧ a' = { a with nx := 7, E := 3, H := 0, V := 0, St := σ }) := by
  have HU : Hid (s.wd A = u) := hu
  have sw := hs.call
  have hw := hh.call
  clear hu hs hh
  have HS : Hid ((((s.by who).step A (s.wd A))).steps = σ) := hσ
  have HO : Hid ((ow == a.own) = false) := ho
  clear hσ ho
  have hbv : ¬ L.has w.heap.size := fun hh => by have := h.lt _ hh; omega
  have hbb : ¬ w.heap.size = b := fun hh => by have := hi.lt; omega
  have hbv1 : ¬ L.has (w.heap.size + 1) := fun hh => by have := h.lt _ hh; omega
  have hbb1 : ¬ w.heap.size + 1 = b := fun hh => by have := hi.lt; omega
  have i0 := (hi.grown (grow1 _ (.cells #[.int .i64 t, .int .i64 n, .int .i64 k, .int .i64 m, .int .i64 g, .int .i64 p, .int .i64 r, .pointer (some ⟨L.p, 0, none⟩), .int .i64 who] 27))).grown (grow1 _ (.cells #[.int .i64 x, .int .i64 G] 44))
  have k3 := i0.c_se
  go_enter Tryz.func41, Tryz.ntmps41
  go_wp2_with (first
    | (go_at_call 16; refine (sw _).mono ?_; rintro e w3 ⟨rfl, b3⟩; have i3 := (i0.grown b3).grown (grow1 _ (.cells #[.int .i64 st, .int .i64 A, .int .i64 Gs, .int .i64 V] 48)); have x3 := ((At.new2 _ _ _ [.int .i64 (x : Nat), .int .i64 G]).grown b3).grown (grow1 _ (.cells #[.int .i64 st, .int .i64 A, .int .i64 Gs, .int .i64 V] 48)); have v3 := ((BoxV.newB _).grown b3).grown (grow1 _ (.cells #[.int .i64 st, .int .i64 A, .int .i64 Gs, .int .i64 V] 48)); have m3 := (((h.alloc _).alloc _).below b3).alloc (.cells #[.int .i64 st, .int .i64 A, .int .i64 Gs, .int .i64 V] 48); have o3 : Only (L.and b) w (w3.alloc (.cells #[.int .i64 st, .int .i64 A, .int .i64 Gs, .int .i64 V] 48)) := ((((Only.refl _ _).alloc _).alloc _).trans (Only.ofGrown b3)).alloc (.cells #[.int .i64 st, .int .i64 A, .int .i64 Gs, .int .i64 V] 48); have q3 := At.new w3 48 [.int .i64 st, .int .i64 A, .int .i64 Gs, .int .i64 V]; have e0 := v3.c0; have e1 := v3.c1; have e2 := v3.c2; have e3 := v3.c3; have e4 := v3.c4; have e5 := v3.c5; have e6 := v3.c6; have e7 := v3.c7; have e8 := v3.c8; have q0 := q3.at0 1 rfl)
    | (go_at_call 67; refine (eload_in m3 _ _ _ _ _ _ _ _ A hn).mono ?_; rintro e w5 ⟨rfl, m5, o5⟩; rw [HU.out])
    | (go_at_call 69; refine (hw _).mono ?_; rintro e w6 ⟨rfl, b6⟩))
  obtain ⟨S, hS⟩ : ∃ S, w3.heap.size = S := ⟨_, rfl⟩
  have y0 := At.new w6 99 [.int .i64 kd, .int .i64 Z, .int .i64 sl, .int .i64 gn, .bool ow]
  obtain ⟨Hh, hH⟩ : ∃ Hh, w6.heap.size = Hh := ⟨_, rfl⟩
  have lS : ¬ L.has S := fun hh => by have := h.lt _ hh; have := b3.size; simp only [Go.Deep.nblk_alloc] at this; omega
  have bS : b ≠ S := by have := hi.lt; have := b3.size; simp only [Go.Deep.nblk_alloc] at this; omega
  have bH : b ≠ Hh := by have := hi.lt; have := b3.size; have := o5.size; have := b6.size; simp only [Go.Deep.nblk_alloc] at *; omega
  rw [hS] at q3 ⊢
  rw [hH] at y0 ⊢
  refine wp_over (fun W => MemAt W L ((s.by who).step A (s.wd A)) ∧ DpAt W b o T cs a ∧ BoxV W w.heap.size t n k m g p r L.p who ∧ At W (w.heap.size + 1) 0 44 #[.int .i64 x, .int .i64 G] [.int .i64 x, .int .i64 G] ∧ At W S 0 48 _ [.int .i64 st, .int .i64 A, .int .i64 Gs, .int .i64 V] ∧ At W Hh 0 99 _ [.int .i64 kd, .int .i64 Z, .int .i64 sl, .int .i64 gn, .bool ow] ∧ Only (L.and b) w W) ⟨(m5.below b6).alloc _, ((i3.only o5 hb).grown b6).grown (grow1 _ _), ((v3.only o5 hbv).grown b6).grown (grow1 _ _), ((x3.only o5 hbv1).grown b6).grown (grow1 _ _), ((q3.only o5 lS).grown b6).grown (grow1 _ _), y0, ((o3.trans (o5.andL (b := b))).trans (Only.ofGrown b6)).alloc _⟩ ?_
  clear b3 b6 m3 m5 o5 o3 q3 q0 y0 i3 v3 x3 i0 k3 hS hH sw hw
  rintro W ⟨m1, i1, v1, x1, q1, y1, o1⟩
  refine wp_region_rely Grown [.val (.pointer (some ⟨Hh, 4, none⟩)), .val (.bool ow), .val (.pointer (some ⟨b, o, none⟩)), .val (.pointer (some ⟨b, o, none⟩)), .val (.pointer (some ⟨b, o + 2, none⟩)), .val (.bool a.own), .val (.bool true)] (by kernel_rfl) Grown.refl Grown.trans (by kernel_rfl) (by kernel_rfl) (by kernel_rfl) ?_
  simp only [relyAll, Act.put, List.setIfInBounds_toArray, List.set_cons_zero, List.set_cons_succ]
  refine ⟨?_, ?_, ?_, ?_, ?_, ?_, ?_, ?_⟩
  · intro w' hg _
    refine Or.inl ⟨rfl, ?_⟩
    go_simp
    exact ⟨Grown.refl _, rfl⟩
  · intro w' hg _
    refine Or.inl ⟨rfl, ?_⟩
    have z := (y1.drew.grown hg).at0 4 rfl
    go_simp
    exact ⟨Grown.refl _, rfl⟩
  · intro w' hg _
    refine Or.inl ⟨rfl, ?_⟩
    go_simp
    exact ⟨Grown.refl _, rfl⟩
  · intro w' hg _
    refine Or.inl ⟨rfl, ?_⟩
    go_simp
    exact ⟨Grown.refl _, rfl⟩
  · intro w' hg _
    refine Or.inl ⟨rfl, ?_⟩
    go_simp
    exact ⟨Grown.refl _, rfl⟩
  · intro w' hg _
    refine Or.inl ⟨rfl, ?_⟩
    have z := (i1.drew.grown hg).c_own
    go_simp
    exact ⟨Grown.refl _, rfl⟩
  · intro w' hg _
    refine Or.inl ⟨rfl, ?_⟩
    go_simp
    exact ⟨Grown.refl _, congrArg Value.bool (by rw [HO.out]; rfl)⟩
  intro w7 hg _
  have m7 := m1.drew.below hg
  have i7 := i1.drew.grown hg
  have v7 := (v1.grown ((Below.refl _ _).drew)).grown hg
  have x7 := x1.drew.grown hg
  have q7 := q1.drew.grown hg
  have yh := y1.drew.grown hg
  have o7 : Only (L.and b) w w7 := o1.drew.trans (Only.ofGrown hg)
  clear hg m1 i1 v1 x1 q1 y1 o1
  have kz := yh.at0 1 rfl
  have k5 := i7.c_sz
  have k0 := i7.c_nx
  have kf := i7.fz
  have y0 := v7.c0
  have y1 := v7.c1
  have y2 := v7.c2
  have y3 := v7.c3
  have y4 := v7.c4
  have y5 := v7.c5
  have y6 := v7.c6
  have y7 := v7.c7
  have y8 := v7.c8
  go_wp2_with (go_at_call 39; refine (drefuse m7 hb i7 who hnx σ HS.out).mono ?_; rintro e w8 ⟨rfl, s8, cs8, a8, m8, o8, i8, q8, rfl, rfl⟩)
  refine bodyPost_ret (results_none rfl _ _ _) rfl ?_
  exact ⟨rfl, _, _, _, m8, o7.trans o8, i8, q8, rfl, rfl⟩

set_option maxHeartbeats 1000000 in
theorem dask_go {w : World} {L : Loc} {s : Mm} {b o : Nat} {T : TypeId} {cs : Array Value} {t n k m : Nat} {g p r : Int} {a : DV} (h : MemAt w L s) (hb : ¬ L.has b) (hi : DpAt w b o T cs a) (who : Int) {x : Nat} {G : Int} {st : Int} {A : Nat} {Gs V : Int} (hs : SlotIs a.se st A Gs V) (hn : A < s.n) {u kd Z sl gn : Int} {ow : Bool} (hu : s.wd A = u) (hh : HeadIs u kd Z sl gn ow) (ho : (ow == a.own) = true) (h4 : st ≠ 4) :
    Calls Tryz.prog 41 #[.pointer (some ⟨b, o, none⟩), .agg #[.int .i64 t, .int .i64 n, .int .i64 k, .int .i64 m, .int .i64 g, .int .i64 p, .int .i64 r, .pointer (some ⟨L.p, 0, none⟩), .int .i64 who], .agg #[.int .i64 x, .int .i64 G]] w fun e w' => e = .returned (.tuple #[]) ∧ Dact L b o T cs w w' (fun s' a' => s' = ((s.by who).step A (s.wd A)) ∧ a' = { a with sz := Z, nx := 2 }) := by
  have HU : Hid (s.wd A = u) := hu
  have sw := hs.call
  have hw := hh.call
  clear hu hs hh
  have HO : Hid ((ow == a.own) = true) := ho
  clear ho
  have hbv : ¬ L.has w.heap.size := fun hh => by have := h.lt _ hh; omega
  have hbb : ¬ w.heap.size = b := fun hh => by have := hi.lt; omega
  have hbv1 : ¬ L.has (w.heap.size + 1) := fun hh => by have := h.lt _ hh; omega
  have hbb1 : ¬ w.heap.size + 1 = b := fun hh => by have := hi.lt; omega
  have i0 := (hi.grown (grow1 _ (.cells #[.int .i64 t, .int .i64 n, .int .i64 k, .int .i64 m, .int .i64 g, .int .i64 p, .int .i64 r, .pointer (some ⟨L.p, 0, none⟩), .int .i64 who] 27))).grown (grow1 _ (.cells #[.int .i64 x, .int .i64 G] 44))
  have k3 := i0.c_se
  go_enter Tryz.func41, Tryz.ntmps41
  go_wp2_with (first
    | (go_at_call 16; refine (sw _).mono ?_; rintro e w3 ⟨rfl, b3⟩; have i3 := (i0.grown b3).grown (grow1 _ (.cells #[.int .i64 st, .int .i64 A, .int .i64 Gs, .int .i64 V] 48)); have x3 := ((At.new2 _ _ _ [.int .i64 (x : Nat), .int .i64 G]).grown b3).grown (grow1 _ (.cells #[.int .i64 st, .int .i64 A, .int .i64 Gs, .int .i64 V] 48)); have v3 := ((BoxV.newB _).grown b3).grown (grow1 _ (.cells #[.int .i64 st, .int .i64 A, .int .i64 Gs, .int .i64 V] 48)); have m3 := (((h.alloc _).alloc _).below b3).alloc (.cells #[.int .i64 st, .int .i64 A, .int .i64 Gs, .int .i64 V] 48); have o3 : Only (L.and b) w (w3.alloc (.cells #[.int .i64 st, .int .i64 A, .int .i64 Gs, .int .i64 V] 48)) := ((((Only.refl _ _).alloc _).alloc _).trans (Only.ofGrown b3)).alloc (.cells #[.int .i64 st, .int .i64 A, .int .i64 Gs, .int .i64 V] 48); have q3 := At.new w3 48 [.int .i64 st, .int .i64 A, .int .i64 Gs, .int .i64 V]; have e0 := v3.c0; have e1 := v3.c1; have e2 := v3.c2; have e3 := v3.c3; have e4 := v3.c4; have e5 := v3.c5; have e6 := v3.c6; have e7 := v3.c7; have e8 := v3.c8; have q0 := q3.at0 1 rfl)
    | (go_at_call 67; refine (eload_in m3 _ _ _ _ _ _ _ _ A hn).mono ?_; rintro e w5 ⟨rfl, m5, o5⟩; rw [HU.out])
    | (go_at_call 69; refine (hw _).mono ?_; rintro e w6 ⟨rfl, b6⟩))
  obtain ⟨S, hS⟩ : ∃ S, w3.heap.size = S := ⟨_, rfl⟩
  have y0 := At.new w6 99 [.int .i64 kd, .int .i64 Z, .int .i64 sl, .int .i64 gn, .bool ow]
  obtain ⟨Hh, hH⟩ : ∃ Hh, w6.heap.size = Hh := ⟨_, rfl⟩
  have lS : ¬ L.has S := fun hh => by have := h.lt _ hh; have := b3.size; simp only [Go.Deep.nblk_alloc] at this; omega
  have bS : b ≠ S := by have := hi.lt; have := b3.size; simp only [Go.Deep.nblk_alloc] at this; omega
  have bH : b ≠ Hh := by have := hi.lt; have := b3.size; have := o5.size; have := b6.size; simp only [Go.Deep.nblk_alloc] at *; omega
  rw [hS] at q3 ⊢
  rw [hH] at y0 ⊢
  refine wp_over (fun W => MemAt W L ((s.by who).step A (s.wd A)) ∧ DpAt W b o T cs a ∧ BoxV W w.heap.size t n k m g p r L.p who ∧ At W (w.heap.size + 1) 0 44 #[.int .i64 x, .int .i64 G] [.int .i64 x, .int .i64 G] ∧ At W S 0 48 _ [.int .i64 st, .int .i64 A, .int .i64 Gs, .int .i64 V] ∧ At W Hh 0 99 _ [.int .i64 kd, .int .i64 Z, .int .i64 sl, .int .i64 gn, .bool ow] ∧ Only (L.and b) w W) ⟨(m5.below b6).alloc _, ((i3.only o5 hb).grown b6).grown (grow1 _ _), ((v3.only o5 hbv).grown b6).grown (grow1 _ _), ((x3.only o5 hbv1).grown b6).grown (grow1 _ _), ((q3.only o5 lS).grown b6).grown (grow1 _ _), y0, ((o3.trans (o5.andL (b := b))).trans (Only.ofGrown b6)).alloc _⟩ ?_
  clear b3 b6 m3 m5 o5 o3 q3 q0 y0 i3 v3 x3 i0 k3 hS hH sw hw
  rintro W ⟨m1, i1, v1, x1, q1, y1, o1⟩
  refine wp_region_rely Grown [.val (.pointer (some ⟨Hh, 4, none⟩)), .val (.bool ow), .val (.pointer (some ⟨b, o, none⟩)), .val (.pointer (some ⟨b, o, none⟩)), .val (.pointer (some ⟨b, o + 2, none⟩)), .val (.bool a.own), .val (.bool false)] (by kernel_rfl) Grown.refl Grown.trans (by kernel_rfl) (by kernel_rfl) (by kernel_rfl) ?_
  simp only [relyAll, Act.put, List.setIfInBounds_toArray, List.set_cons_zero, List.set_cons_succ]
  refine ⟨?_, ?_, ?_, ?_, ?_, ?_, ?_, ?_⟩
  · intro w' hg _
    refine Or.inl ⟨rfl, ?_⟩
    go_simp
    exact ⟨Grown.refl _, rfl⟩
  · intro w' hg _
    refine Or.inl ⟨rfl, ?_⟩
    have z := (y1.drew.grown hg).at0 4 rfl
    go_simp
    exact ⟨Grown.refl _, rfl⟩
  · intro w' hg _
    refine Or.inl ⟨rfl, ?_⟩
    go_simp
    exact ⟨Grown.refl _, rfl⟩
  · intro w' hg _
    refine Or.inl ⟨rfl, ?_⟩
    go_simp
    exact ⟨Grown.refl _, rfl⟩
  · intro w' hg _
    refine Or.inl ⟨rfl, ?_⟩
    go_simp
    exact ⟨Grown.refl _, rfl⟩
  · intro w' hg _
    refine Or.inl ⟨rfl, ?_⟩
    have z := (i1.drew.grown hg).c_own
    go_simp
    exact ⟨Grown.refl _, rfl⟩
  · intro w' hg _
    refine Or.inl ⟨rfl, ?_⟩
    go_simp
    exact ⟨Grown.refl _, congrArg Value.bool (by rw [HO.out]; rfl)⟩
  intro w7 hg _
  have m7 := m1.drew.below hg
  have i7 := i1.drew.grown hg
  have v7 := (v1.grown ((Below.refl _ _).drew)).grown hg
  have x7 := x1.drew.grown hg
  have q7 := q1.drew.grown hg
  have yh := y1.drew.grown hg
  have o7 : Only (L.and b) w w7 := o1.drew.trans (Only.ofGrown hg)
  clear hg m1 i1 v1 x1 q1 y1 o1
  have kz := yh.at0 1 rfl
  have k5 := i7.c_sz
  have k0 := i7.c_nx
  have kf := i7.fz
  have y0 := v7.c0
  have y1 := v7.c1
  have y2 := v7.c2
  have y3 := v7.c3
  have y4 := v7.c4
  have y5 := v7.c5
  have y6 := v7.c6
  have y7 := v7.c7
  have y8 := v7.c8
  have q8 := (q7.other bS.symm (o + 5) (.int .i64 Z)).other bS.symm o (.int .i64 2)
  have z0 := q8.at0 0 rfl
  go_wp2
  go_end0
  exact ⟨rfl, _, _, _, (m7.setIn hb _ _).setIn hb _ _, (o7.set _ _).set _ _, (i7.set_sz Z).set_nx 2, (Same.refl.set (by omega) _).set (by omega) _, rfl, rfl⟩

set_option maxHeartbeats 1000000 in
theorem dask_help {w : World} {L : Loc} {s : Mm} {b o : Nat} {T : TypeId} {cs : Array Value} {t n k m : Nat} {g p r : Int} {a : DV} (h : MemAt w L s) (hb : ¬ L.has b) (hi : DpAt w b o T cs a) (who : Int) {x : Nat} {G : Int} {st : Int} {A : Nat} {Gs V : Int} (hs : SlotIs a.se st A Gs V) (hn : A < s.n) {u kd Z sl gn : Int} {ow : Bool} (hu : s.wd A = u) (hh : HeadIs u kd Z sl gn ow) (ho : (ow == a.own) = true) (h4 : st = 4) :
    Calls Tryz.prog 41 #[.pointer (some ⟨b, o, none⟩), .agg #[.int .i64 t, .int .i64 n, .int .i64 k, .int .i64 m, .int .i64 g, .int .i64 p, .int .i64 r, .pointer (some ⟨L.p, 0, none⟩), .int .i64 who], .agg #[.int .i64 x, .int .i64 G]] w fun e w' => e = .returned (.tuple #[]) ∧ Dact L b o T cs w w' (fun s' a' => s' = ((s.by who).step A (s.wd A)) ∧ a' = { a with sz := Z, hl := HpV x a.se Z 0 0 false false false, nx := 3 }) := by
  have HU : Hid (s.wd A = u) := hu
  have sw := hs.call
  have hw := hh.call
  clear hu hs hh
  have HO : Hid ((ow == a.own) = true) := ho
  subst h4
  clear ho
  have hbv : ¬ L.has w.heap.size := fun hh => by have := h.lt _ hh; omega
  have hbb : ¬ w.heap.size = b := fun hh => by have := hi.lt; omega
  have hbv1 : ¬ L.has (w.heap.size + 1) := fun hh => by have := h.lt _ hh; omega
  have hbb1 : ¬ w.heap.size + 1 = b := fun hh => by have := hi.lt; omega
  have i0 := (hi.grown (grow1 _ (.cells #[.int .i64 t, .int .i64 n, .int .i64 k, .int .i64 m, .int .i64 g, .int .i64 p, .int .i64 r, .pointer (some ⟨L.p, 0, none⟩), .int .i64 who] 27))).grown (grow1 _ (.cells #[.int .i64 x, .int .i64 G] 44))
  have k3 := i0.c_se
  go_enter Tryz.func41, Tryz.ntmps41
  go_wp2_with (first
    | (go_at_call 16; refine (sw _).mono ?_; rintro e w3 ⟨rfl, b3⟩; have i3 := (i0.grown b3).grown (grow1 _ (.cells #[.int .i64 4, .int .i64 A, .int .i64 Gs, .int .i64 V] 48)); have x3 := ((At.new2 _ _ _ [.int .i64 (x : Nat), .int .i64 G]).grown b3).grown (grow1 _ (.cells #[.int .i64 4, .int .i64 A, .int .i64 Gs, .int .i64 V] 48)); have v3 := ((BoxV.newB _).grown b3).grown (grow1 _ (.cells #[.int .i64 4, .int .i64 A, .int .i64 Gs, .int .i64 V] 48)); have m3 := (((h.alloc _).alloc _).below b3).alloc (.cells #[.int .i64 4, .int .i64 A, .int .i64 Gs, .int .i64 V] 48); have o3 : Only (L.and b) w (w3.alloc (.cells #[.int .i64 4, .int .i64 A, .int .i64 Gs, .int .i64 V] 48)) := ((((Only.refl _ _).alloc _).alloc _).trans (Only.ofGrown b3)).alloc (.cells #[.int .i64 4, .int .i64 A, .int .i64 Gs, .int .i64 V] 48); have q3 := At.new w3 48 [.int .i64 4, .int .i64 A, .int .i64 Gs, .int .i64 V]; have e0 := v3.c0; have e1 := v3.c1; have e2 := v3.c2; have e3 := v3.c3; have e4 := v3.c4; have e5 := v3.c5; have e6 := v3.c6; have e7 := v3.c7; have e8 := v3.c8; have q0 := q3.at0 1 rfl)
    | (go_at_call 67; refine (eload_in m3 _ _ _ _ _ _ _ _ A hn).mono ?_; rintro e w5 ⟨rfl, m5, o5⟩; rw [HU.out])
    | (go_at_call 69; refine (hw _).mono ?_; rintro e w6 ⟨rfl, b6⟩))
  obtain ⟨S, hS⟩ : ∃ S, w3.heap.size = S := ⟨_, rfl⟩
  have y0 := At.new w6 99 [.int .i64 kd, .int .i64 Z, .int .i64 sl, .int .i64 gn, .bool ow]
  obtain ⟨Hh, hH⟩ : ∃ Hh, w6.heap.size = Hh := ⟨_, rfl⟩
  have lS : ¬ L.has S := fun hh => by have := h.lt _ hh; have := b3.size; simp only [Go.Deep.nblk_alloc] at this; omega
  have bS : b ≠ S := by have := hi.lt; have := b3.size; simp only [Go.Deep.nblk_alloc] at this; omega
  have bH : b ≠ Hh := by have := hi.lt; have := b3.size; have := o5.size; have := b6.size; simp only [Go.Deep.nblk_alloc] at *; omega
  rw [hS] at q3 ⊢
  rw [hH] at y0 ⊢
  refine wp_over (fun W => MemAt W L ((s.by who).step A (s.wd A)) ∧ DpAt W b o T cs a ∧ BoxV W w.heap.size t n k m g p r L.p who ∧ At W (w.heap.size + 1) 0 44 #[.int .i64 x, .int .i64 G] [.int .i64 x, .int .i64 G] ∧ At W S 0 48 _ [.int .i64 4, .int .i64 A, .int .i64 Gs, .int .i64 V] ∧ At W Hh 0 99 _ [.int .i64 kd, .int .i64 Z, .int .i64 sl, .int .i64 gn, .bool ow] ∧ Only (L.and b) w W) ⟨(m5.below b6).alloc _, ((i3.only o5 hb).grown b6).grown (grow1 _ _), ((v3.only o5 hbv).grown b6).grown (grow1 _ _), ((x3.only o5 hbv1).grown b6).grown (grow1 _ _), ((q3.only o5 lS).grown b6).grown (grow1 _ _), y0, ((o3.trans (o5.andL (b := b))).trans (Only.ofGrown b6)).alloc _⟩ ?_
  clear b3 b6 m3 m5 o5 o3 q3 q0 y0 i3 v3 x3 i0 k3 hS hH sw hw
  rintro W ⟨m1, i1, v1, x1, q1, y1, o1⟩
  refine wp_region_rely Grown [.val (.pointer (some ⟨Hh, 4, none⟩)), .val (.bool ow), .val (.pointer (some ⟨b, o, none⟩)), .val (.pointer (some ⟨b, o, none⟩)), .val (.pointer (some ⟨b, o + 2, none⟩)), .val (.bool a.own), .val (.bool false)] (by kernel_rfl) Grown.refl Grown.trans (by kernel_rfl) (by kernel_rfl) (by kernel_rfl) ?_
  simp only [relyAll, Act.put, List.setIfInBounds_toArray, List.set_cons_zero, List.set_cons_succ]
  refine ⟨?_, ?_, ?_, ?_, ?_, ?_, ?_, ?_⟩
  · intro w' hg _
    refine Or.inl ⟨rfl, ?_⟩
    go_simp
    exact ⟨Grown.refl _, rfl⟩
  · intro w' hg _
    refine Or.inl ⟨rfl, ?_⟩
    have z := (y1.drew.grown hg).at0 4 rfl
    go_simp
    exact ⟨Grown.refl _, rfl⟩
  · intro w' hg _
    refine Or.inl ⟨rfl, ?_⟩
    go_simp
    exact ⟨Grown.refl _, rfl⟩
  · intro w' hg _
    refine Or.inl ⟨rfl, ?_⟩
    go_simp
    exact ⟨Grown.refl _, rfl⟩
  · intro w' hg _
    refine Or.inl ⟨rfl, ?_⟩
    go_simp
    exact ⟨Grown.refl _, rfl⟩
  · intro w' hg _
    refine Or.inl ⟨rfl, ?_⟩
    have z := (i1.drew.grown hg).c_own
    go_simp
    exact ⟨Grown.refl _, rfl⟩
  · intro w' hg _
    refine Or.inl ⟨rfl, ?_⟩
    go_simp
    exact ⟨Grown.refl _, congrArg Value.bool (by rw [HO.out]; rfl)⟩
  intro w7 hg _
  have m7 := m1.drew.below hg
  have i7 := i1.drew.grown hg
  have v7 := (v1.grown ((Below.refl _ _).drew)).grown hg
  have x7 := x1.drew.grown hg
  have q7 := q1.drew.grown hg
  have yh := y1.drew.grown hg
  have o7 : Only (L.and b) w w7 := o1.drew.trans (Only.ofGrown hg)
  clear hg m1 i1 v1 x1 q1 y1 o1
  have kz := yh.at0 1 rfl
  have k5 := i7.c_sz
  have k0 := i7.c_nx
  have kf := i7.fz
  have y0 := v7.c0
  have y1 := v7.c1
  have y2 := v7.c2
  have y3 := v7.c3
  have y4 := v7.c4
  have y5 := v7.c5
  have y6 := v7.c6
  have y7 := v7.c7
  have y8 := v7.c8
  have q8 := (q7.other bS.symm (o + 5) (.int .i64 Z)).other bS.symm o (.int .i64 2)
  have z0 := q8.at0 0 rfl
  go_wp2
  refine wp_over (fun W => MemAt W L ((s.by who).step A (s.wd A)) ∧ DpAt W b o T ((cs.setIfInBounds (o + 5) (.int .i64 Z)).setIfInBounds o (.int .i64 2)) { a with sz := Z, nx := 2 } ∧ At W (w.heap.size + 1) 0 44 #[.int .i64 x, .int .i64 G] [.int .i64 x, .int .i64 G] ∧ Only (L.and b) w W) ⟨(m7.setIn hb _ _).setIn hb _ _, (i7.set_sz Z).set_nx 2, (x7.other hbb1 _ _).other hbb1 _ _, (o7.set _ _).set _ _⟩ ?_
  clear m7 i7 v7 x7 q7 yh o7 kz k5 k0 kf q8 z0 y0 y1 y2 y3 y4 y5 y6 y7 y8
  rintro W ⟨m1, i1, x1, o1⟩
  refine wp_region_rely_tail Grown 16 [.val (.pointer (some ⟨b, o, none⟩)), .val (.pointer (some ⟨w.heap.size + 1, 0, none⟩)), .val (.int .i64 (x : Nat)), .val (.pointer (some ⟨b, o, none⟩)), .val (.pointer (some ⟨b, o, none⟩)), .val (.pointer (some ⟨b, o + 3, none⟩)), .val (.int .u64 a.se), .val (.pointer (some ⟨b, o, none⟩)), .val (.pointer (some ⟨b, o, none⟩)), .val (.pointer (some ⟨b, o + 5, none⟩)), .val (.int .i64 Z), .that (fun w' v => ∃ X, v = .pointer (some ⟨X, 0, none⟩) ∧ At w' X 0 81 (HpV x a.se Z 0 0 false false false).toArray (HpV x a.se Z 0 0 false false false)) (fun _ _ _ hg h => h.imp fun X k => ⟨k.1, k.2.grown hg⟩), .that (fun w' v => ∃ X, v = .pointer (some ⟨X, 0, none⟩) ∧ At w' X 0 81 (HpV x a.se Z 0 0 false false false).toArray (HpV x a.se Z 0 0 false false false)) (fun _ _ _ hg h => h.imp fun X k => ⟨k.1, k.2.grown hg⟩), .val (.agg #[.int .i64 x, .int .u64 a.se, .int .i64 Z, .int .i64 0, .int .u64 0, .bool false, .bool false, .bool false]), .val (.pointer (some ⟨b, o, none⟩)), .val (.pointer (some ⟨b, o + 6, none⟩))] (by kernel_rfl) Grown.refl Grown.trans (by decide) (by kernel_rfl) (by kernel_rfl) (by kernel_rfl) (by kernel_rfl) (by kernel_rfl) (by kernel_rfl) ?_
  simp only [List.take_succ_cons, List.take_zero, relyAll, Act.put, List.setIfInBounds_toArray, List.set_cons_zero, List.set_cons_succ]
  refine ⟨?_, ?_, ?_, ?_, ?_, ?_, ?_, ?_, ?_, ?_, ?_, ?_, fun v1 => ⟨?_, fun v2 => ⟨?_, ?_, ?_, ?_⟩⟩⟩
  · intro w' hg _
    refine Or.inl ⟨rfl, ?_⟩
    go_simp
    exact ⟨Grown.refl _, rfl⟩
  · intro w' hg _
    refine Or.inl ⟨rfl, ?_⟩
    go_simp
    exact ⟨Grown.refl _, rfl⟩
  · intro w' hg _
    refine Or.inl ⟨rfl, ?_⟩
    have z := (x1.drew.grown hg).at0 0 rfl
    go_simp
    exact ⟨Grown.refl _, rfl⟩
  · intro w' hg _
    refine Or.inl ⟨rfl, ?_⟩
    go_simp
    exact ⟨Grown.refl _, rfl⟩
  · intro w' hg _
    refine Or.inl ⟨rfl, ?_⟩
    go_simp
    exact ⟨Grown.refl _, rfl⟩
  · intro w' hg _
    refine Or.inl ⟨rfl, ?_⟩
    go_simp
    exact ⟨Grown.refl _, rfl⟩
  · intro w' hg _
    refine Or.inl ⟨rfl, ?_⟩
    have z := (i1.drew.grown hg).c_se
    go_simp
    exact ⟨Grown.refl _, rfl⟩
  · intro w' hg _
    refine Or.inl ⟨rfl, ?_⟩
    go_simp
    exact ⟨Grown.refl _, rfl⟩
  · intro w' hg _
    refine Or.inl ⟨rfl, ?_⟩
    go_simp
    exact ⟨Grown.refl _, rfl⟩
  · intro w' hg _
    refine Or.inl ⟨rfl, ?_⟩
    go_simp
    exact ⟨Grown.refl _, rfl⟩
  · intro w' hg _
    refine Or.inl ⟨rfl, ?_⟩
    have z := (i1.drew.grown hg).c_sz
    go_simp
    exact ⟨Grown.refl _, rfl⟩
  · intro w' hg _
    refine Or.inl ⟨rfl, ?_⟩
    have q := At.new w' 81 (HpV x a.se Z 0 0 false false false)
    go_simp
    refine (newHelp_any x a.se Z _).mono ?_
    rintro e w'' ⟨rfl, rfl⟩
    exact ⟨_, rfl, grow1 _ _, _, rfl, q⟩
  · intro w' hg hf
    refine Or.inl ⟨rfl, ?_⟩
    obtain ⟨X, rfl, q⟩ := hf.1 (by kernel_rfl)
    go_simp
    exact ⟨Grown.refl _, X, rfl, q⟩
  · intro w' hg hf
    refine Or.inl ⟨rfl, ?_⟩
    obtain ⟨X, rfl, q⟩ := hf.1 (by kernel_rfl)
    have z0 := q.at0 0 rfl
    have z1 := q.at0 1 rfl
    have z2 := q.at0 2 rfl
    have z3 := q.at0 3 rfl
    have z4 := q.at0 4 rfl
    have z5 := q.at0 5 rfl
    have z6 := q.at0 6 rfl
    have z7 := q.at0 7 rfl
    go_simp
    exact ⟨Grown.refl _, rfl⟩
  · intro w' hg _
    refine Or.inl ⟨rfl, ?_⟩
    go_simp
    exact ⟨Grown.refl _, rfl⟩
  · intro w' hg _
    refine Or.inl ⟨rfl, ?_⟩
    go_simp
    exact ⟨Grown.refl _, rfl⟩
  intro w9 hg _
  have m10 := m1.drew.below hg
  have i10 := i1.drew.grown hg
  have o10 : Only (L.and b) w w9 := o1.drew.trans (Only.ofGrown hg)
  clear hg m1 i1 x1 o1
  obtain ⟨l0, p0⟩ := i10.c_hl0
  obtain ⟨l1, p1⟩ := i10.c_hl1
  obtain ⟨l2, p2⟩ := i10.c_hl2
  obtain ⟨l3, p3⟩ := i10.c_hl3
  obtain ⟨l4, p4⟩ := i10.c_hl4
  obtain ⟨l5, p5⟩ := i10.c_hl5
  obtain ⟨l6, p6⟩ := i10.c_hl6
  obtain ⟨l7, p7⟩ := i10.c_hl7
  have kf := i10.fz
  have k0 := i10.c_nx
  go_wp2
  go_end0
  obtain ⟨y0, y1, y2, y3, y4, y5, y6, y7, hl⟩ := len8 hi.lhl
  exact ⟨rfl, _, _, _, (((((((((m10.setIn hb _ _).setIn hb _ _).setIn hb _ _).setIn hb _ _).setIn hb _ _).setIn hb _ _).setIn hb _ _).setIn hb _ _).setIn hb _ _), (((((((((o10.set _ _).set _ _).set _ _).set _ _).set _ _).set _ _).set _ _).set _ _).set _ _), ((((((((i10.set_hl0 _).set_hl1 _).set_hl2 _).set_hl3 _).set_hl4 _).set_hl5 _).set_hl6 _).set_hl7 _).set_nx 3, (((((((((((Same.refl.set (by omega) _).set (by omega) _).set (by omega) _).set (by omega) _).set (by omega) _).set (by omega) _).set (by omega) _).set (by omega) _).set (by omega) _).set (by omega) _).set (by omega) _), rfl, by simp [hl, HpV]⟩

end Go.Proofs.YtbmiieaakbcncaaGreat
