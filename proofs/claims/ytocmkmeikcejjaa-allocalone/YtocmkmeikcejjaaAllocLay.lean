/- What a step of one who makes an object comes to (package alloc): live words are counted, the head and the handle's word are laid, the slot is given back. -/
import Derived.Test.YtocmkmeikcejjaaAllocDo
namespace Go.Proofs.Ytocmkmeikcejjaa
open Go.RowKit

set_option maxHeartbeats 400000 in
theorem acount {w : World} {L : Loc} {s : Mm} {b o : Nat} {T : TypeId} {cs : Array Value} {a : AV} {t n k m : Nat} {g p r : Int} (h : MemAt w L s) (hb : ¬ L.has b) (hi : AlAt w b o T cs a) (who : Int) (ar : Arena t n k m) (hn1 : n ≤ 65536) (ht1 : t ≤ 8) (i : Nat) (hx : a.sc = i) (hin : i ≤ 64) (hn : 6 + t + n * 2 + i * 3 + 1 < s.n) (K : Nat) (hκ : K < 4) (hK : classOf a.sz = K) :
    Calls Try.prog 34 #[.pointer (some ⟨b, o, none⟩), .agg #[.int .i64 t, .int .i64 n, .int .i64 k, .int .i64 m, .int .i64 g, .int .i64 p, .int .i64 r, .pointer (some ⟨L.p, 0, none⟩), .int .i64 who]] w fun e w' => e = .returned (.tuple #[]) ∧ Acts L b o T cs w w' (fun s' a' => s' = (s.by who).step (6 + t + n * 2 + i * 3 + 1) (sum64 (s.wd (6 + t + n * 2 + i * 3 + 1)) (word64 (room K))) ∧ a' = { a with nx := 4 }) := by
  have HK : Hid (classOf a.sz = K) := hK
  have HI : Hid (a.sc = i) := hx
  clear hK hx
  have hbv : ¬ L.has w.heap.size := fun hh => by have := h.lt _ hh; omega
  have hbb : ¬ w.heap.size = b := fun hh => by have := hi.lt; omega
  go_enter Try.func34, Try.ntmps34
  go_wp2
  refine wp_over (fun W => MemAt W L s ∧ AlAt W b o T (cs) a ∧ BoxV W w.heap.size t n k m g p r L.p who ∧ Only (L.and b) w W) ⟨h.alloc _, hi.grown (grow_alloc (Below.refl _ _) _), BoxV.new, (Only.refl _ _).alloc _⟩ ?_
  rintro W ⟨m1, i1, v1, o1⟩
  refine wp_region_rely_tail Grown 13 [.val (.agg #[.int .i64 t, .int .i64 n, .int .i64 k, .int .i64 m, .int .i64 g, .int .i64 p, .int .i64 r, .pointer (some ⟨L.p, 0, none⟩), .int .i64 who]), .val (.pointer (some ⟨w.heap.size, 0, none⟩)), .val (.agg #[.int .i64 t, .int .i64 n, .int .i64 k, .int .i64 m, .int .i64 g, .int .i64 p, .int .i64 r]), .val (.pointer (some ⟨b, o, none⟩)), .val (.pointer (some ⟨b, o, none⟩)), .val (.pointer (some ⟨b, o + 20, none⟩)), .val (.pointer (some ⟨b, o + 21, none⟩)), .val (.int .i64 i), .val (.int .i64 ((6 + t + n * 2 + i * 3 : Nat) : Int)), .val (.int .i64 ((6 + t + n * 2 + i * 3 + 1 : Nat) : Int)), .val (.pointer (some ⟨b, o, none⟩)), .val (.int .i64 K), .val (.int .i64 (room K))] (by kernel_rfl) Grown.refl Grown.trans (by decide) (by kernel_rfl) (by kernel_rfl) (by kernel_rfl) (by kernel_rfl) (by kernel_rfl) (by kernel_rfl) ?_
  simp only [List.take_succ_cons, List.take_zero, relyAll, Act.put, List.setIfInBounds_toArray, List.set_cons_zero, List.set_cons_succ]
  refine ⟨?_, ?_, ?_, ?_, ?_, ?_, ?_, ?_, ?_, ?_, ?_, ?_, ?_, ?_⟩
  · intro w' hg _
    refine Or.inl ⟨rfl, ?_⟩
    have vv := (v1.grown ((Below.refl _ _).drew)).grown hg
    have y0 := vv.c0
    have y1 := vv.c1
    have y2 := vv.c2
    have y3 := vv.c3
    have y4 := vv.c4
    have y5 := vv.c5
    have y6 := vv.c6
    have y7 := vv.c7
    have y8 := vv.c8
    go_simp
    exact ⟨Grown.refl _, rfl⟩
  · intro w' hg _
    refine Or.inl ⟨rfl, ?_⟩
    go_simp
    exact ⟨Grown.refl _, rfl⟩
  · intro w' hg _
    refine Or.inl ⟨rfl, ?_⟩
    have vv := (v1.grown ((Below.refl _ _).drew)).grown hg
    have y0 := vv.c0
    have y1 := vv.c1
    have y2 := vv.c2
    have y3 := vv.c3
    have y4 := vv.c4
    have y5 := vv.c5
    have y6 := vv.c6
    have y7 := vv.c7
    have y8 := vv.c8
    go_simp
    exact ⟨Grown.refl _, rfl⟩
  · intro w' hg _
    refine Or.inl ⟨rfl, ?_⟩
    go_simp
    exact ⟨Grown.refl _, rfl⟩
  · intro w' hg _
    refine Or.inl ⟨rfl, ?_⟩
    go_simp
    exact ⟨Grown.refl _, rfl⟩
  · intro w' hg _
    refine Or.inl ⟨rfl, ?_⟩
    go_simp
    exact ⟨Grown.refl _, rfl⟩
  · intro w' hg _
    refine Or.inl ⟨rfl, ?_⟩
    go_simp
    exact ⟨Grown.refl _, rfl⟩
  · intro w' hg _
    refine Or.inl ⟨rfl, ?_⟩
    have z := (i1.drew.grown hg).c_sc
    rw [HI.out] at z
    go_simp
    exact ⟨Grown.refl _, rfl⟩
  · intro w' hg _
    refine Or.inl ⟨rfl, ?_⟩
    go_simp
    refine (lchunk_any _ _ _ _ _ _ _ (i : Int) _ ar (by omega) (by omega)).mono ?_
    rintro e w'' ⟨rfl, b9⟩
    exact ⟨_, rfl, b9, congrArg (Value.int .i64) (by omega)⟩
  · intro w' hg _
    refine Or.inl ⟨rfl, ?_⟩
    go_simp
    exact ⟨Grown.refl _, congrArg (Value.int .i64) (by rw [IntKind.wrap_i64]; omega)⟩
  · intro w' hg _
    refine Or.inl ⟨rfl, ?_⟩
    go_simp
    exact ⟨Grown.refl _, rfl⟩
  · intro w' hg _
    refine Or.inl ⟨rfl, ?_⟩
    go_simp
    refine (aclass_any _ _ HK.out (i1.drew.grown hg).c_sz).mono ?_
    rintro e w'' ⟨rfl, rfl⟩
    exact ⟨_, rfl, Grown.refl _, rfl⟩
  · intro w' hg _
    refine Or.inl ⟨rfl, ?_⟩
    go_simp
    refine (lroom_w K hκ _).mono ?_
    rintro e w'' ⟨rfl, rfl⟩
    exact ⟨_, rfl, Grown.refl _, rfl⟩
  intro w5 hg _
  have m5 := m1.drew.below hg
  have i5 := i1.drew.grown hg
  have v5 := (v1.grown ((Below.refl _ _).drew)).grown hg
  have o5 : Only (L.and b) w w5 := o1.drew.trans (Only.ofGrown hg)
  clear hg m1 i1 v1 o1
  go_wp2_with (go_at_call 53; refine (eadd_in m5 _ _ _ _ _ _ _ _ (6 + t + n * 2 + i * 3 + 1) hn _).mono ?_; rintro e w6 ⟨rfl, m6, o6⟩; have i6 := i5.only o6 hb; have k0 := i6.c_nx; have kf := i6.fz)
  go_end0
  exact ⟨rfl, _, _, _, m6.setIn hb _ _, (o5.trans o6.andL).set _ _, i6.set_nx 4, Same.refl.set (by omega) _, rfl, rfl⟩

set_option maxHeartbeats 400000 in
theorem ahead {w : World} {L : Loc} {s : Mm} {b o : Nat} {T : TypeId} {cs : Array Value} {a : AV} {t n k m : Nat} {g p r : Int} (h : MemAt w L s) (hb : ¬ L.has b) (hi : AlAt w b o T cs a) (who : Int) (kd : Int) (fk : Fit kd) (z : Int) (fz : Fit z) (hz : a.sz = z) (x G A : Nat) (hx : a.sl = x) (hG : a.gn = G) (hA : a.sa = A) (ow : Bool) (hw : a.own = ow) (xb : x ≤ 1000000) (gb : G ≤ 1000000) (hn : A < s.n) :
    Calls Try.prog 35 #[.pointer (some ⟨b, o, none⟩), .agg #[.int .i64 t, .int .i64 n, .int .i64 k, .int .i64 m, .int .i64 g, .int .i64 p, .int .i64 r, .pointer (some ⟨L.p, 0, none⟩), .int .i64 who], .int .i64 kd] w fun e w' => e = .returned (.tuple #[]) ∧ Acts L b o T cs w w' (fun s' a' => s' = (s.by who).step A (packOw kd z x G ow) ∧ a' = { a with kd := kd }) := by
  have HX : Hid (a.sl = x) := hx
  have HG : Hid (a.gn = G) := hG
  have HA : Hid (a.sa = A) := hA
  have HW : Hid (a.own = ow) := hw
  have HZ : Hid (a.sz = z) := hz
  clear hx hG hA hw hz
  have hbv : ¬ L.has w.heap.size := fun hh => by have := h.lt _ hh; omega
  have hbb : ¬ w.heap.size = b := fun hh => by have := hi.lt; omega
  have j1 := hi.grown (grow_alloc (Below.refl _ _) (.cells #[.int .i64 t, .int .i64 n, .int .i64 k, .int .i64 m, .int .i64 g, .int .i64 p, .int .i64 r, .pointer (some ⟨L.p, 0, none⟩), .int .i64 who] 27))
  have k0 := j1.c_kd
  have kf := j1.fz
  have j2 := j1.set_kd kd
  go_enter Try.func35, Try.ntmps35
  go_wp2
  refine wp_over (fun W => MemAt W L s ∧ AlAt W b o T (cs.setIfInBounds (o + 15) (.int .i64 kd)) { a with kd := kd } ∧ BoxV W w.heap.size t n k m g p r L.p who ∧ Only (L.and b) w W) ⟨(h.alloc _).setIn hb _ _, j2, BoxV.new.setIn hbb _ _, ((Only.refl _ _).alloc _).set _ _⟩ ?_
  clear j1 j2 k0 kf
  rintro W ⟨m1, i1, v1, o1⟩
  refine wp_region_rely_tail Grown 11 [.val (.agg #[.int .i64 t, .int .i64 n, .int .i64 k, .int .i64 m, .int .i64 g, .int .i64 p, .int .i64 r, .pointer (some ⟨L.p, 0, none⟩), .int .i64 who]), .val (.pointer (some ⟨b, o, none⟩)), .val (.pointer (some ⟨b, o, none⟩)), .val (.pointer (some ⟨b, o + 20, none⟩)), .val (.pointer (some ⟨b, o + 20, none⟩)), .val (.int .i64 A), .val (.pointer (some ⟨b, o, none⟩)), .val (.pointer (some ⟨b, o, none⟩)), .val (.pointer (some ⟨b, o + 15, none⟩)), .val (.agg #[.int .i64 kd, .int .i64 z, .int .i64 x, .int .i64 G, .bool ow]), .val (.int .u64 (packOw kd z x G ow))] (by kernel_rfl) Grown.refl Grown.trans (by decide) (by kernel_rfl) (by kernel_rfl) (by kernel_rfl) (by kernel_rfl) (by kernel_rfl) (by kernel_rfl) ?_
  simp only [List.take_succ_cons, List.take_zero, relyAll, Act.put, List.setIfInBounds_toArray, List.set_cons_zero, List.set_cons_succ]
  refine ⟨?_, ?_, ?_, ?_, ?_, ?_, ?_, ?_, ?_, ?_, ?_, ?_⟩
  · intro w' hg _
    refine Or.inl ⟨rfl, ?_⟩
    have vv := (v1.grown ((Below.refl _ _).drew)).grown hg
    have y0 := vv.c0
    have y1 := vv.c1
    have y2 := vv.c2
    have y3 := vv.c3
    have y4 := vv.c4
    have y5 := vv.c5
    have y6 := vv.c6
    have y7 := vv.c7
    have y8 := vv.c8
    go_simp
    exact ⟨Grown.refl _, rfl⟩
  · intro w' hg _
    refine Or.inl ⟨rfl, ?_⟩
    go_simp
    exact ⟨Grown.refl _, rfl⟩
  · intro w' hg _
    refine Or.inl ⟨rfl, ?_⟩
    go_simp
    exact ⟨Grown.refl _, rfl⟩
  · intro w' hg _
    refine Or.inl ⟨rfl, ?_⟩
    go_simp
    exact ⟨Grown.refl _, rfl⟩
  · intro w' hg _
    refine Or.inl ⟨rfl, ?_⟩
    go_simp
    exact ⟨Grown.refl _, rfl⟩
  · intro w' hg _
    refine Or.inl ⟨rfl, ?_⟩
    have z := (i1.drew.grown hg).c_sa
    rw [show ({ a with kd := kd } : AV).sa = A from HA.out] at z
    go_simp
    exact ⟨Grown.refl _, rfl⟩
  · intro w' hg _
    refine Or.inl ⟨rfl, ?_⟩
    go_simp
    exact ⟨Grown.refl _, rfl⟩
  · intro w' hg _
    refine Or.inl ⟨rfl, ?_⟩
    go_simp
    exact ⟨Grown.refl _, rfl⟩
  · intro w' hg _
    refine Or.inl ⟨rfl, ?_⟩
    go_simp
    exact ⟨Grown.refl _, rfl⟩
  · intro w' hg _
    refine Or.inl ⟨rfl, ?_⟩
    have z0 := (i1.drew.grown hg).c_kd
    have z1 := (i1.drew.grown hg).c_sz
    have z2 := (i1.drew.grown hg).c_sl
    have z3 := (i1.drew.grown hg).c_gn
    have z4 := (i1.drew.grown hg).c_own
    rw [show ({ a with kd := kd } : AV).sz = z from HZ.out] at z1
    rw [show ({ a with kd := kd } : AV).sl = x from HX.out] at z2
    rw [show ({ a with kd := kd } : AV).gn = G from HG.out] at z3
    rw [show ({ a with kd := kd } : AV).own = ow from HW.out] at z4
    go_simp
    exact ⟨Grown.refl _, rfl⟩
  · intro w' hg _
    refine Or.inl ⟨rfl, ?_⟩
    go_simp
    refine (putHead_any kd z x G ow _ fk fz ⟨by omega, by omega⟩ ⟨by omega, by omega⟩).mono ?_
    rintro e w'' ⟨rfl, b9⟩
    exact ⟨_, rfl, b9, rfl⟩
  intro w5 hg _
  have m5 := m1.drew.below hg
  have i5 := i1.drew.grown hg
  have v5 := (v1.grown ((Below.refl _ _).drew)).grown hg
  have o5 : Only (L.and b) w w5 := o1.drew.trans (Only.ofGrown hg)
  clear hg m1 i1 v1 o1
  go_wp2_with (go_at_call 55; refine (estore_in m5 _ _ _ _ _ _ _ _ A hn _).mono ?_; rintro e w6 ⟨rfl, m6, o6⟩)
  go_end0
  exact ⟨rfl, _, _, _, m6, o5.trans o6.andL, i5.only o6 hb, Same.refl.set (by omega) _, rfl, rfl⟩

set_option maxHeartbeats 1000000 in
theorem ashow {w : World} {L : Loc} {s : Mm} {b o : Nat} {T : TypeId} {cs : Array Value} {a : AV} {t n k m : Nat} {g p r : Int} (h : MemAt w L s) (hb : ¬ L.has b) (hi : AlAt w b o T cs a) (who : Int) (ar : Arena t n k m) (x G A : Nat) (hx : a.sl = x) (hG : a.gn = G) (hA : a.sa = A) (xb : x ≤ 1000000) (gb : G ≤ 1000000) (ab : A ≤ 1000000) (hn : 6 + t + x * 2 < s.n) (st : Nat) (hst : wrap64 (s.steps + 1) = st) :
    Calls Try.prog 36 #[.pointer (some ⟨b, o, none⟩), .agg #[.int .i64 t, .int .i64 n, .int .i64 k, .int .i64 m, .int .i64 g, .int .i64 p, .int .i64 r, .pointer (some ⟨L.p, 0, none⟩), .int .i64 who]] w fun e w' => e = .returned (.tuple #[]) ∧ Acts L b o T cs w w' (fun s' a' => s' = (s.by who).step (6 + t + x * 2) (packS 1 A G 0) ∧ a' = { a with H := packH x G, St := st, nx := 6 }) := by
  have HX : Hid (a.sl = x) := hx
  have HG : Hid (a.gn = G) := hG
  have HA : Hid (a.sa = A) := hA
  have HS : Hid (wrap64 (s.steps + 1) = st) := hst
  clear hx hG hA hst
  have hbv : ¬ L.has w.heap.size := fun hh => by have := h.lt _ hh; omega
  have hbb : ¬ w.heap.size = b := fun hh => by have := hi.lt; omega
  go_enter Try.func36, Try.ntmps36
  go_wp2
  refine wp_over (fun W => MemAt W L s ∧ AlAt W b o T (cs) a ∧ BoxV W w.heap.size t n k m g p r L.p who ∧ Only (L.and b) w W) ⟨h.alloc _, hi.grown (grow_alloc (Below.refl _ _) _), BoxV.new, (Only.refl _ _).alloc _⟩ ?_
  rintro W ⟨m1, i1, v1, o1⟩
  refine wp_region_rely_tail Grown 21 [.val (.agg #[.int .i64 t, .int .i64 n, .int .i64 k, .int .i64 m, .int .i64 g, .int .i64 p, .int .i64 r, .pointer (some ⟨L.p, 0, none⟩), .int .i64 who]), .val (.pointer (some ⟨w.heap.size, 0, none⟩)), .val (.agg #[.int .i64 t, .int .i64 n, .int .i64 k, .int .i64 m, .int .i64 g, .int .i64 p, .int .i64 r]), .val (.pointer (some ⟨b, o, none⟩)), .val (.pointer (some ⟨b, o, none⟩)), .val (.pointer (some ⟨b, o + 15, none⟩)), .val (.pointer (some ⟨b, o + 17, none⟩)), .val (.int .i64 x), .val (.int .i64 ((6 + t + x * 2 : Nat) : Int)), .val (.pointer (some ⟨b, o, none⟩)), .val (.pointer (some ⟨b, o, none⟩)), .val (.pointer (some ⟨b, o + 20, none⟩)), .val (.pointer (some ⟨b, o + 20, none⟩)), .val (.int .i64 A), .val (.pointer (some ⟨b, o, none⟩)), .val (.pointer (some ⟨b, o, none⟩)), .val (.pointer (some ⟨b, o + 15, none⟩)), .val (.pointer (some ⟨b, o + 18, none⟩)), .val (.int .i64 G), .val (.agg #[.int .i64 1, .int .i64 A, .int .i64 G, .int .i64 0]), .val (.int .u64 (packS 1 A G 0))] (by kernel_rfl) Grown.refl Grown.trans (by decide) (by kernel_rfl) (by kernel_rfl) (by kernel_rfl) (by kernel_rfl) (by kernel_rfl) (by kernel_rfl) ?_
  simp only [List.take_succ_cons, List.take_zero, relyAll, Act.put, List.setIfInBounds_toArray, List.set_cons_zero, List.set_cons_succ]
  refine ⟨?_, ?_, ?_, ?_, ?_, ?_, ?_, ?_, ?_, ?_, ?_, ?_, ?_, ?_, ?_, ?_, ?_, ?_, ?_, ?_, ?_, ?_⟩
  · intro w' hg _
    refine Or.inl ⟨rfl, ?_⟩
    have vv := (v1.grown ((Below.refl _ _).drew)).grown hg
    have y0 := vv.c0
    have y1 := vv.c1
    have y2 := vv.c2
    have y3 := vv.c3
    have y4 := vv.c4
    have y5 := vv.c5
    have y6 := vv.c6
    have y7 := vv.c7
    have y8 := vv.c8
    go_simp
    exact ⟨Grown.refl _, rfl⟩
  · intro w' hg _
    refine Or.inl ⟨rfl, ?_⟩
    go_simp
    exact ⟨Grown.refl _, rfl⟩
  · intro w' hg _
    refine Or.inl ⟨rfl, ?_⟩
    have vv := (v1.grown ((Below.refl _ _).drew)).grown hg
    have y0 := vv.c0
    have y1 := vv.c1
    have y2 := vv.c2
    have y3 := vv.c3
    have y4 := vv.c4
    have y5 := vv.c5
    have y6 := vv.c6
    have y7 := vv.c7
    have y8 := vv.c8
    go_simp
    exact ⟨Grown.refl _, rfl⟩
  · intro w' hg _
    refine Or.inl ⟨rfl, ?_⟩
    go_simp
    exact ⟨Grown.refl _, rfl⟩
  · intro w' hg _
    refine Or.inl ⟨rfl, ?_⟩
    go_simp
    exact ⟨Grown.refl _, rfl⟩
  · intro w' hg _
    refine Or.inl ⟨rfl, ?_⟩
    go_simp
    exact ⟨Grown.refl _, rfl⟩
  · intro w' hg _
    refine Or.inl ⟨rfl, ?_⟩
    go_simp
    exact ⟨Grown.refl _, rfl⟩
  · intro w' hg _
    refine Or.inl ⟨rfl, ?_⟩
    have z := (i1.drew.grown hg).c_sl
    rw [HX.out] at z
    go_simp
    exact ⟨Grown.refl _, rfl⟩
  · intro w' hg _
    refine Or.inl ⟨rfl, ?_⟩
    go_simp
    refine (lslot_any _ _ _ _ _ _ _ (x : Int) _ ar (by omega) (by omega)).mono ?_
    rintro e w'' ⟨rfl, b9⟩
    exact ⟨_, rfl, b9, congrArg (Value.int .i64) (by omega)⟩
  · intro w' hg _
    refine Or.inl ⟨rfl, ?_⟩
    go_simp
    exact ⟨Grown.refl _, rfl⟩
  · intro w' hg _
    refine Or.inl ⟨rfl, ?_⟩
    go_simp
    exact ⟨Grown.refl _, rfl⟩
  · intro w' hg _
    refine Or.inl ⟨rfl, ?_⟩
    go_simp
    exact ⟨Grown.refl _, rfl⟩
  · intro w' hg _
    refine Or.inl ⟨rfl, ?_⟩
    go_simp
    exact ⟨Grown.refl _, rfl⟩
  · intro w' hg _
    refine Or.inl ⟨rfl, ?_⟩
    have z := (i1.drew.grown hg).c_sa
    rw [HA.out] at z
    go_simp
    exact ⟨Grown.refl _, rfl⟩
  · intro w' hg _
    refine Or.inl ⟨rfl, ?_⟩
    go_simp
    exact ⟨Grown.refl _, rfl⟩
  · intro w' hg _
    refine Or.inl ⟨rfl, ?_⟩
    go_simp
    exact ⟨Grown.refl _, rfl⟩
  · intro w' hg _
    refine Or.inl ⟨rfl, ?_⟩
    go_simp
    exact ⟨Grown.refl _, rfl⟩
  · intro w' hg _
    refine Or.inl ⟨rfl, ?_⟩
    go_simp
    exact ⟨Grown.refl _, rfl⟩
  · intro w' hg _
    refine Or.inl ⟨rfl, ?_⟩
    have z := (i1.drew.grown hg).c_gn
    rw [HG.out] at z
    go_simp
    exact ⟨Grown.refl _, rfl⟩
  · intro w' hg _
    refine Or.inl ⟨rfl, ?_⟩
    go_simp
    exact ⟨Grown.refl _, rfl⟩
  · intro w' hg _
    refine Or.inl ⟨rfl, ?_⟩
    go_simp
    refine (putSlot_any 1 A G 0 _ ⟨by omega, by omega⟩ ⟨by omega, by omega⟩ ⟨by omega, by omega⟩ ⟨by omega, by omega⟩).mono ?_
    rintro e w'' ⟨rfl, b9⟩
    exact ⟨_, rfl, b9, rfl⟩
  intro w5 hg _
  have m5 := m1.drew.below hg
  have i5 := i1.drew.grown hg
  have v5 := (v1.grown ((Below.refl _ _).drew)).grown hg
  have o5 : Only (L.and b) w w5 := o1.drew.trans (Only.ofGrown hg)
  clear hg m1 i1 v1 o1
  go_wp2_with (go_at_call 55; refine (estore_in m5 _ _ _ _ _ _ _ _ (6 + t + x * 2) hn _).mono ?_; rintro e w6 ⟨rfl, m6, o6⟩)
  have m1 := m6
  have i1 := i5.only o6 hb
  have v1 := v5.only o6 hbv
  have o1 := o5.trans (o6.andL (b := b))
  clear m6 m5 i5 v5 o5 o6
  refine wp_region_rely_tail Grown 16 [.val (.pointer (some ⟨b, o, none⟩)), .val (.pointer (some ⟨b, o, none⟩)), .val (.pointer (some ⟨b, o, none⟩)), .val (.pointer (some ⟨b, o + 15, none⟩)), .val (.pointer (some ⟨b, o + 17, none⟩)), .val (.int .i64 x), .val (.pointer (some ⟨b, o, none⟩)), .val (.pointer (some ⟨b, o, none⟩)), .val (.pointer (some ⟨b, o + 15, none⟩)), .val (.pointer (some ⟨b, o + 18, none⟩)), .val (.int .i64 G), .val (.agg #[.int .i64 x, .int .i64 G]), .val (.int .u64 (packH x G)), .val (.pointer (some ⟨b, o, none⟩)), .val (.pointer (some ⟨b, o + 22, none⟩)), .val (.pointer (some ⟨b, o + 23, none⟩))] (by kernel_rfl) Grown.refl Grown.trans (by decide) (by kernel_rfl) (by kernel_rfl) (by kernel_rfl) (by kernel_rfl) (by kernel_rfl) (by kernel_rfl) ?_
  simp only [List.take_succ_cons, List.take_zero, relyAll, Act.put, List.setIfInBounds_toArray, List.set_cons_zero, List.set_cons_succ]
  refine ⟨?_, ?_, ?_, ?_, ?_, ?_, ?_, ?_, ?_, ?_, ?_, ?_, ?_, ?_, ?_, ?_, ?_⟩
  · intro w' hg _
    refine Or.inl ⟨rfl, ?_⟩
    go_simp
    exact ⟨Grown.refl _, rfl⟩
  · intro w' hg _
    refine Or.inl ⟨rfl, ?_⟩
    go_simp
    exact ⟨Grown.refl _, rfl⟩
  · intro w' hg _
    refine Or.inl ⟨rfl, ?_⟩
    go_simp
    exact ⟨Grown.refl _, rfl⟩
  · intro w' hg _
    refine Or.inl ⟨rfl, ?_⟩
    go_simp
    exact ⟨Grown.refl _, rfl⟩
  · intro w' hg _
    refine Or.inl ⟨rfl, ?_⟩
    go_simp
    exact ⟨Grown.refl _, rfl⟩
  · intro w' hg _
    refine Or.inl ⟨rfl, ?_⟩
    have z := (i1.drew.grown hg).c_sl
    rw [HX.out] at z
    go_simp
    exact ⟨Grown.refl _, rfl⟩
  · intro w' hg _
    refine Or.inl ⟨rfl, ?_⟩
    go_simp
    exact ⟨Grown.refl _, rfl⟩
  · intro w' hg _
    refine Or.inl ⟨rfl, ?_⟩
    go_simp
    exact ⟨Grown.refl _, rfl⟩
  · intro w' hg _
    refine Or.inl ⟨rfl, ?_⟩
    go_simp
    exact ⟨Grown.refl _, rfl⟩
  · intro w' hg _
    refine Or.inl ⟨rfl, ?_⟩
    go_simp
    exact ⟨Grown.refl _, rfl⟩
  · intro w' hg _
    refine Or.inl ⟨rfl, ?_⟩
    have z := (i1.drew.grown hg).c_gn
    rw [HG.out] at z
    go_simp
    exact ⟨Grown.refl _, rfl⟩
  · intro w' hg _
    refine Or.inl ⟨rfl, ?_⟩
    go_simp
    exact ⟨Grown.refl _, rfl⟩
  · intro w' hg _
    refine Or.inl ⟨rfl, ?_⟩
    go_simp
    refine (putHandle_any x G _ ⟨by omega, by omega⟩ ⟨by omega, by omega⟩).mono ?_
    rintro e w'' ⟨rfl, b9⟩
    exact ⟨_, rfl, b9, rfl⟩
  · intro w' hg _
    refine Or.inl ⟨rfl, ?_⟩
    go_simp
    exact ⟨Grown.refl _, rfl⟩
  · intro w' hg _
    refine Or.inl ⟨rfl, ?_⟩
    go_simp
    exact ⟨Grown.refl _, rfl⟩
  · intro w' hg _
    refine Or.inl ⟨rfl, ?_⟩
    go_simp
    exact ⟨Grown.refl _, rfl⟩
  intro w7 hg _
  have m5 := m1.drew.below hg
  have i5 := i1.drew.grown hg
  have v5 := (v1.grown ((Below.refl _ _).drew)).grown hg
  have o5 : Only (L.and b) w w7 := o1.drew.trans (Only.ofGrown hg)
  clear hg m1 i1 v1 o1
  have k0 := i5.c_H
  have kf := i5.fz
  have i8 := i5.set_H (packH x G)
  have m8 := m5.setIn hb (o + 23) (.int .u64 (packH x G))
  have v8 := v5.setIn hbb (o + 23) (.int .u64 (packH x G))
  have o8 := o5.set (o + 23) (.int .u64 (packH x G))
  have z0 := v8.c0
  have z1 := v8.c1
  have z2 := v8.c2
  have z3 := v8.c3
  have z4 := v8.c4
  have z5 := v8.c5
  have z6 := v8.c6
  have z7 := v8.c7
  have z8 := v8.c8
  go_wp2_with (go_at_call 58; refine (now_any m8 _ _ _ _ _ _ _ _ st HS.out).mono ?_; rintro e w9 ⟨rfl, b9⟩; have i9 := i8.grown b9; have k1 := i9.c_St; have k2 := i9.c_nx; have kg := i9.fz)
  go_end0
  exact ⟨rfl, _, _, _, ((m8.below b9).setIn hb _ _).setIn hb _ _, ((o8.trans (Only.ofGrown b9)).set _ _).set _ _, (i9.set_St st).set_nx 6, ((Same.refl.set (by omega) _).set (by omega) _).set (by omega) _, rfl, rfl⟩

theorem agive_on {w : World} {L : Loc} {s : Mm} {b o : Nat} {T : TypeId} {cs : Array Value} {a : AV} {t n k m : Nat} {g p r : Int} (h : MemAt w L s) (hb : ¬ L.has b) (hi : AlAt w b o T cs a) (who : Int) {σ c : Nat} {lk : Nat → Nat} {F : List Nat} (hp : Pile t n s σ c lk F) (hσ : σ < 1000000) (ht8 : t ≤ 8) {x : Nat} (hx : x < n) (hF : x ∉ F) (γ : Gv) (hgv : γ.cells x a.gv) (hg : γ.good n c lk F x) (ho : γ.done = false) (c' : Nat) (lk' : Nat → Nat) (F' : List Nat) (γ' : Gv) (ht : gvTurn c lk F x γ = (c', lk', F', γ')) (hd : γ'.done = false) :
    Calls Try.prog 37 #[.pointer (some ⟨b, o, none⟩), .agg #[.int .i64 t, .int .i64 n, .int .i64 k, .int .i64 m, .int .i64 g, .int .i64 p, .int .i64 r, .pointer (some ⟨L.p, 0, none⟩), .int .i64 who]] w fun e w' => e = .returned (.tuple #[]) ∧ Acts L b o T cs w w' (fun s' a' => Pile t n s' (σ + 1) c' lk' F' ∧ (∃ v, s' = (s.by who).step (γ.at t x) v) ∧ γ'.good n c' lk' F' x ∧ ∃ l, γ'.cells x l ∧ a' = { a with gv := l }) := by
  have hbv : ¬ L.has w.heap.size := fun hh => by have := h.lt _ hh; omega
  have hbb : ¬ w.heap.size = b := fun hh => by have := hi.lt; omega
  have HT : Hid (gvTurn c lk F x γ = (c', lk', F', γ')) := ht
  have HO : Hid (γ.done = false) := ho
  clear ht ho
  go_enter Try.func37, Try.ntmps37
  go_wp2
  refine wp_over (fun W => MemAt W L s ∧ AlAt W b o T (cs) a ∧ BoxV W w.heap.size t n k m g p r L.p who ∧ Only (L.and b) w W) ⟨h.alloc _, hi.grown (grow_alloc (Below.refl _ _) _), BoxV.new, (Only.refl _ _).alloc _⟩ ?_
  rintro W ⟨m1, i1, v1, o1⟩
  refine wp_region_rely_tail Grown 4 [.val (.pointer (some ⟨b, o, none⟩)), .val (.pointer (some ⟨b, o, none⟩)), .val (.pointer (some ⟨b, o + 12, none⟩)), .val (.agg #[.int .i64 t, .int .i64 n, .int .i64 k, .int .i64 m, .int .i64 g, .int .i64 p, .int .i64 r, .pointer (some ⟨L.p, 0, none⟩), .int .i64 who])] (by kernel_rfl) Grown.refl Grown.trans (by decide) (by kernel_rfl) (by kernel_rfl) (by kernel_rfl) (by kernel_rfl) (by kernel_rfl) (by kernel_rfl) ?_
  simp only [List.take_succ_cons, List.take_zero, relyAll, Act.put, List.setIfInBounds_toArray, List.set_cons_zero, List.set_cons_succ]
  refine ⟨?_, ?_, ?_, ?_, ?_⟩
  · intro w' hg _
    refine Or.inl ⟨rfl, ?_⟩
    go_simp
    exact ⟨Grown.refl _, rfl⟩
  · intro w' hg _
    refine Or.inl ⟨rfl, ?_⟩
    go_simp
    exact ⟨Grown.refl _, rfl⟩
  · intro w' hg _
    refine Or.inl ⟨rfl, ?_⟩
    go_simp
    exact ⟨Grown.refl _, rfl⟩
  · intro w' hg _
    refine Or.inl ⟨rfl, ?_⟩
    have vv := (v1.grown ((Below.refl _ _).drew)).grown hg
    have y0 := vv.c0
    have y1 := vv.c1
    have y2 := vv.c2
    have y3 := vv.c3
    have y4 := vv.c4
    have y5 := vv.c5
    have y6 := vv.c6
    have y7 := vv.c7
    have y8 := vv.c8
    go_simp
    exact ⟨Grown.refl _, rfl⟩
  intro w5 hg _
  have m5 := m1.drew.below hg
  have i5 := i1.drew.grown hg
  have v5 := (v1.grown ((Below.refl _ _).drew)).grown hg
  have o5 : Only (L.and b) w w5 := o1.drew.trans (Only.ofGrown hg)
  clear hg m1 i1 v1 o1
  go_wp2_with (first
    | (go_at_call 59; refine (give_turn m5 hb hp hσ ht8 hx hF γ ⟨_, i5.gvAt, hgv⟩ hg HO.out _ _ _ _ _ _ c' lk' F' γ' HT.out false hd).mono ?_; rintro e w6 ⟨rfl, s6, cs6, P⟩; obtain ⟨l6, a6, q6⟩ := P.a; have i6 := i5.step_gv a6 (Gv.cells_len q6) P.same; have v6 := v5.only P.only (fun hh => hh.elim hbv hbb); have o6 := o5.trans P.only; have s6' : Same o 26 cs cs6 := P.same.wide (by omega) (by omega); have z0 := v6.c0; have z1 := v6.c1; have z2 := v6.c2; have z3 := v6.c3; have z4 := v6.c4; have z5 := v6.c5; have z6 := v6.c6; have z7 := v6.c7; have z8 := v6.c8))
  go_end0
  exact ⟨rfl, s6, cs6, _, P.m, o6, i6, s6', P.p, P.st, P.good, l6, q6, rfl⟩

theorem agive_over {w : World} {L : Loc} {s : Mm} {b o : Nat} {T : TypeId} {cs : Array Value} {a : AV} {t n k m : Nat} {g p r : Int} (h : MemAt w L s) (hb : ¬ L.has b) (hi : AlAt w b o T cs a) (who : Int) {σ c : Nat} {lk : Nat → Nat} {F : List Nat} (hp : Pile t n s σ c lk F) (hσ : σ < 1000000) (ht8 : t ≤ 8) {x : Nat} (hx : x < n) (hF : x ∉ F) (γ : Gv) (hgv : γ.cells x a.gv) (hg : γ.good n c lk F x) (ho : γ.done = false) (c' : Nat) (lk' : Nat → Nat) (F' : List Nat) (γ' : Gv) (ht : gvTurn c lk F x γ = (c', lk', F', γ')) (hd : γ'.done = true) :
    Calls Try.prog 37 #[.pointer (some ⟨b, o, none⟩), .agg #[.int .i64 t, .int .i64 n, .int .i64 k, .int .i64 m, .int .i64 g, .int .i64 p, .int .i64 r, .pointer (some ⟨L.p, 0, none⟩), .int .i64 who]] w fun e w' => e = .returned (.tuple #[]) ∧ Acts L b o T cs w w' (fun s' a' => Pile t n s' (σ + 1) c' lk' F' ∧ (∃ v, s' = (s.by who).step (γ.at t x) v) ∧ ∃ l, l.length = 3 ∧ a' = { a with gv := l, nx := 8, E := 6, H := 0, V := 0, St := ((σ + 1 : Nat) : Int) }) := by
  have hbv : ¬ L.has w.heap.size := fun hh => by have := h.lt _ hh; omega
  have hbb : ¬ w.heap.size = b := fun hh => by have := hi.lt; omega
  have HT : Hid (gvTurn c lk F x γ = (c', lk', F', γ')) := ht
  have HO : Hid (γ.done = false) := ho
  clear ht ho
  go_enter Try.func37, Try.ntmps37
  go_wp2
  refine wp_over (fun W => MemAt W L s ∧ AlAt W b o T (cs) a ∧ BoxV W w.heap.size t n k m g p r L.p who ∧ Only (L.and b) w W) ⟨h.alloc _, hi.grown (grow_alloc (Below.refl _ _) _), BoxV.new, (Only.refl _ _).alloc _⟩ ?_
  rintro W ⟨m1, i1, v1, o1⟩
  refine wp_region_rely_tail Grown 4 [.val (.pointer (some ⟨b, o, none⟩)), .val (.pointer (some ⟨b, o, none⟩)), .val (.pointer (some ⟨b, o + 12, none⟩)), .val (.agg #[.int .i64 t, .int .i64 n, .int .i64 k, .int .i64 m, .int .i64 g, .int .i64 p, .int .i64 r, .pointer (some ⟨L.p, 0, none⟩), .int .i64 who])] (by kernel_rfl) Grown.refl Grown.trans (by decide) (by kernel_rfl) (by kernel_rfl) (by kernel_rfl) (by kernel_rfl) (by kernel_rfl) (by kernel_rfl) ?_
  simp only [List.take_succ_cons, List.take_zero, relyAll, Act.put, List.setIfInBounds_toArray, List.set_cons_zero, List.set_cons_succ]
  refine ⟨?_, ?_, ?_, ?_, ?_⟩
  · intro w' hg _
    refine Or.inl ⟨rfl, ?_⟩
    go_simp
    exact ⟨Grown.refl _, rfl⟩
  · intro w' hg _
    refine Or.inl ⟨rfl, ?_⟩
    go_simp
    exact ⟨Grown.refl _, rfl⟩
  · intro w' hg _
    refine Or.inl ⟨rfl, ?_⟩
    go_simp
    exact ⟨Grown.refl _, rfl⟩
  · intro w' hg _
    refine Or.inl ⟨rfl, ?_⟩
    have vv := (v1.grown ((Below.refl _ _).drew)).grown hg
    have y0 := vv.c0
    have y1 := vv.c1
    have y2 := vv.c2
    have y3 := vv.c3
    have y4 := vv.c4
    have y5 := vv.c5
    have y6 := vv.c6
    have y7 := vv.c7
    have y8 := vv.c8
    go_simp
    exact ⟨Grown.refl _, rfl⟩
  intro w5 hg _
  have m5 := m1.drew.below hg
  have i5 := i1.drew.grown hg
  have v5 := (v1.grown ((Below.refl _ _).drew)).grown hg
  have o5 : Only (L.and b) w w5 := o1.drew.trans (Only.ofGrown hg)
  clear hg m1 i1 v1 o1
  go_wp2_with (first
    | (go_at_call 59; refine (give_turn m5 hb hp hσ ht8 hx hF γ ⟨_, i5.gvAt, hgv⟩ hg HO.out _ _ _ _ _ _ c' lk' F' γ' HT.out true hd).mono ?_; rintro e w6 ⟨rfl, s6, cs6, P⟩; obtain ⟨l6, a6, q6⟩ := P.a; have i6 := i5.step_gv a6 (Gv.cells_len q6) P.same; have v6 := v5.only P.only (fun hh => hh.elim hbv hbb); have o6 := o5.trans P.only; have s6' : Same o 26 cs cs6 := P.same.wide (by omega) (by omega); have z0 := v6.c0; have z1 := v6.c1; have z2 := v6.c2; have z3 := v6.c3; have z4 := v6.c4; have z5 := v6.c5; have z6 := v6.c6; have z7 := v6.c7; have z8 := v6.c8)
    | (go_at_call 45; refine (arefuse P.m hb i6 _ _ (σ + 1) P.p.st).mono ?_; rintro e w8 ⟨rfl, s8, cs8, a8, m8, o8, i8, q8, rfl, rfl⟩))
  go_end0
  exact ⟨rfl, _, cs8, _, m8, o6.trans o8, i8, s6'.trans q8, P.p, P.st, l6, Gv.cells_len q6, rfl⟩

end Go.Proofs.Ytocmkmeikcejjaa
