/- What package epoch's functions come to: one who settles a chunk. -/
import Derived.Test.YtameeiabnkblmaaEpAdv
import Derived.Test.YtameeiabnkblmaaPlaceYard
import Derived.Test.YtameeiabnkblmaaPhaseTail
namespace Go.Proofs.Ytameeiabnkblmaa
open Go.RowKit

variable {w : World} {L : Loc} {s : Mm} {b o : Nat} {T : TypeId} {cs : Array Value} {t n k m : Nat} {g p r : Int} {a : SV}

theorem freed_any (hi : SeAt w b o T cs a) :
    Calls Try.prog 28 #[.pointer (some ⟨b, o, none⟩)] w fun e w' => e = .returned (.bool a.fr) ∧ w' = w := by
  have k4 := hi.c_fr
  go_enter Try.func28, Try.ntmps28
  go_wp2
  go_ret
  exact ⟨rfl, rfl⟩

theorem freed_nil (w : World) :
    Calls Try.prog 28 #[.pointer none] w fun e w' => e = .returned (.bool false) ∧ w' = w := by
  go_enter Try.func28, Try.ntmps28
  go_wp2
  go_ret
  exact ⟨rfl, rfl⟩

/-- one who begins -/
def set0 (i : Int) : Obj := .cells #[.int .i64 0, .int .i64 i, .int .i64 0, .int .i64 0, .int .i64 0, .int .i64 0, .int .u64 0, .int .i64 0, .bool false] 74
def sv0 (i : Int) : SV := ⟨0, i, 0, 0, 0, 0, 0, 0, false⟩

theorem set0_at (i : Int) (w : World) : ∃ cs, SeAt (w.alloc (set0 i)) w.heap.size 0 74 cs (sv0 i) :=
  ⟨_, Go.Deep.blk_alloc_new _ _, rfl, rfl, rfl, rfl, rfl, rfl, rfl, rfl, rfl⟩

theorem newSettle_any (i : Int) (w : World) :
    Calls Try.prog 24 #[.int .i64 i] w fun e w' => e = .returned (.pointer (some ⟨w.heap.size, 0, none⟩)) ∧ w' = w.alloc (set0 i) := by
  go_enter Try.func24, Try.ntmps24
  go_wp2
  go_ret
  exact ⟨rfl, rfl⟩

theorem sat_any {i : Nat} (hz : w.cell? ⟨b, o + 1, none⟩ = some (.int .i64 i)) (P : Nat) (who : Int) (hG : Good t n k m g p r) (hik : i < k) :
    Calls Try.prog 46 #[.pointer (some ⟨b, o, none⟩), .agg #[.int .i64 t, .int .i64 n, .int .i64 k, .int .i64 m, .int .i64 g, .int .i64 p, .int .i64 r, .pointer (some ⟨P, 0, none⟩), .int .i64 who]] w fun e w' => e = .returned (.int .i64 (((6 + t + n * 2 + i * 3) : Nat) : Int)) ∧ Below w.heap.size w w' := by
  have hk1 := hG.k1
  go_enter Try.func46, Try.ntmps46
  go_wp2
  refine wp_over (fun W => W.cell? ⟨b, o + 1, none⟩ = some (.int .i64 i) ∧ BoxV W w.heap.size t n k m g p r P who ∧ Below w.heap.size w W) ⟨keep' (gro1 _ _) hz, BoxV.new, gro1 _ _⟩ ?_
  rintro W ⟨i1, v1, o1⟩
  refine wp_region_rely Grown [.val (.pointer (some ⟨w.heap.size, 0, none⟩)), .val (.agg #[.int .i64 t, .int .i64 n, .int .i64 k, .int .i64 m, .int .i64 g, .int .i64 p, .int .i64 r]), .val (.pointer (some ⟨b, o, none⟩)), .val (.pointer (some ⟨b, o, none⟩)), .val (.pointer (some ⟨b, o + 1, none⟩)), .val (.int .i64 i), .val (.int .i64 (((6 + t + n * 2 + i * 3) : Nat) : Int)), .val (.int .i64 (((6 + t + n * 2 + i * 3) : Nat) : Int))] (by kernel_rfl) Grown.refl Grown.trans (by kernel_rfl) (by kernel_rfl) (by kernel_rfl) ?_
  simp only [relyAll, Act.put, List.setIfInBounds_toArray, List.set_cons_zero, List.set_cons_succ]
  refine ⟨?_, ?_, ?_, ?_, ?_, ?_, ?_, ?_, ?_⟩
  · intro w' hg _
    refine Or.inl ⟨rfl, ?_⟩
    go_simp
    exact ⟨Grown.refl _, rfl⟩
  · intro w' hg _
    refine Or.inl ⟨rfl, ?_⟩
    have vv := (v1.grown ((Below.refl _ _).drew)).grown hg
    have y0 := vv.c0
    have y1 := vv.c1
    have y2 := vv.c2
    have y3 := vv.c3
    have y4 := vv.c4
    have y5 := vv.c5
    have y6 := vv.c6
    have y7 := vv.c7
    have y8 := vv.c8
    go_simp
    exact ⟨Grown.refl _, rfl⟩
  · intro w' hg _
    refine Or.inl ⟨rfl, ?_⟩
    go_simp
    exact ⟨Grown.refl _, rfl⟩
  · intro w' hg _
    refine Or.inl ⟨rfl, ?_⟩
    go_simp
    exact ⟨Grown.refl _, rfl⟩
  · intro w' hg _
    refine Or.inl ⟨rfl, ?_⟩
    go_simp
    exact ⟨Grown.refl _, rfl⟩
  · intro w' hg _
    refine Or.inl ⟨rfl, ?_⟩
    have z := keep' hg (keep' ((Below.refl _ _).drew) i1)
    go_simp
    exact ⟨Grown.refl _, rfl⟩
  · intro w' hg _
    refine Or.inl ⟨rfl, ?_⟩
    go_simp
    refine (lchunk_any _ _ _ _ _ _ _ (i : Int) _ hG.arena (by omega) (by omega)).mono ?_
    rintro e w'' ⟨rfl, b9⟩
    exact ⟨_, rfl, b9, congrArg (Value.int .i64) (by omega)⟩
  · intro w' hg _
    refine Or.inl ⟨rfl, ?_⟩
    go_simp
    exact ⟨Grown.refl _, rfl⟩
  intro w5 hg _
  go_wp2
  go_ret
  exact ⟨rfl, grow (o1.trans ((Below.refl _ _).drew)) hg⟩

theorem sgiven_any {U : Nat} (hz : w.cell? ⟨b, o + 4, none⟩ = some (.int .i64 U)) (P : Nat) (who : Int) (hU : U ≤ m) :
    Calls Try.prog 44 #[.pointer (some ⟨b, o, none⟩), .agg #[.int .i64 t, .int .i64 n, .int .i64 k, .int .i64 m, .int .i64 g, .int .i64 p, .int .i64 r, .pointer (some ⟨P, 0, none⟩), .int .i64 who]] w fun e w' => e = .returned (.int .i64 (U : Int)) ∧ Below w.heap.size w w' := by
  go_enter Try.func44, Try.ntmps44
  go_wp2
  refine wp_over (fun W => W.cell? ⟨b, o + 4, none⟩ = some (.int .i64 U) ∧ BoxV W w.heap.size t n k m g p r P who ∧ Below w.heap.size w W) ⟨keep' (gro1 _ _) hz, BoxV.new, gro1 _ _⟩ ?_
  rintro W ⟨i1, v1, o1⟩
  refine wp_region_rely Grown [.val (.pointer (some ⟨b, o, none⟩)), .val (.pointer (some ⟨b, o, none⟩)), .val (.pointer (some ⟨b, o + 2, none⟩)), .val (.pointer (some ⟨b, o + 4, none⟩)), .val (.int .i64 U), .val (.pointer (some ⟨w.heap.size, 0, none⟩)), .val (.pointer (some ⟨w.heap.size, 3, none⟩)), .val (.int .i64 m), .val (.int .i64 U), .val (.int .i64 U)] (by kernel_rfl) Grown.refl Grown.trans (by kernel_rfl) (by kernel_rfl) (by kernel_rfl) ?_
  simp only [relyAll, Act.put, List.setIfInBounds_toArray, List.set_cons_zero, List.set_cons_succ]
  refine ⟨?_, ?_, ?_, ?_, ?_, ?_, ?_, ?_, ?_, ?_, ?_⟩
  · intro w' hg _
    refine Or.inl ⟨rfl, ?_⟩
    go_simp
    exact ⟨Grown.refl _, rfl⟩
  · intro w' hg _
    refine Or.inl ⟨rfl, ?_⟩
    go_simp
    exact ⟨Grown.refl _, rfl⟩
  · intro w' hg _
    refine Or.inl ⟨rfl, ?_⟩
    go_simp
    exact ⟨Grown.refl _, rfl⟩
  · intro w' hg _
    refine Or.inl ⟨rfl, ?_⟩
    go_simp
    exact ⟨Grown.refl _, rfl⟩
  · intro w' hg _
    refine Or.inl ⟨rfl, ?_⟩
    have z := keep' hg (keep' ((Below.refl _ _).drew) i1)
    go_simp
    exact ⟨Grown.refl _, rfl⟩
  · intro w' hg _
    refine Or.inl ⟨rfl, ?_⟩
    go_simp
    exact ⟨Grown.refl _, rfl⟩
  · intro w' hg _
    refine Or.inl ⟨rfl, ?_⟩
    go_simp
    exact ⟨Grown.refl _, rfl⟩
  · intro w' hg _
    refine Or.inl ⟨rfl, ?_⟩
    have vv := (v1.grown ((Below.refl _ _).drew)).grown hg
    have y0 := vv.c0
    have y1 := vv.c1
    have y2 := vv.c2
    have y3 := vv.c3
    have y4 := vv.c4
    have y5 := vv.c5
    have y6 := vv.c6
    have y7 := vv.c7
    have y8 := vv.c8
    go_simp
    exact ⟨Grown.refl _, rfl⟩
  · intro w' hg _
    refine Or.inl ⟨rfl, ?_⟩
    have z : (min (U : Int) (m : Int)) = U := by omega
    go_simp
    refine ⟨Grown.refl _, ?_⟩
    first
      | rfl
      | exact congrArg (Value.int .i64) (by omega)
  · intro w' hg _
    refine Or.inl ⟨rfl, ?_⟩
    go_simp
    exact ⟨Grown.refl _, rfl⟩
  intro w5 hg _
  go_wp2
  go_ret
  exact ⟨rfl, grow (o1.trans ((Below.refl _ _).drew)) hg⟩

set_option maxHeartbeats 1000000 in
theorem ssee_quiet (h : MemAt w L s) (hb : ¬ L.has b) (hi : SeAt w b o T cs a) (who : Int) (hG : Good t n k m g p r) {i : Nat} (hik : i < k) (hch : a.ch = i) (hn : (6 + t + n * 2 + i * 3) < s.n) {c : Ck} {σ : Nat} (hw : s.wd (6 + t + n * 2 + i * 3) = c.w) (hok : c.ok σ) (hσ : σ ≤ 2000000) (hst : c.st = 3) :
    Calls Try.prog 45 #[.pointer (some ⟨b, o, none⟩), .agg #[.int .i64 t, .int .i64 n, .int .i64 k, .int .i64 m, .int .i64 g, .int .i64 p, .int .i64 r, .pointer (some ⟨L.p, 0, none⟩), .int .i64 who]] w fun e w' => e = .returned (.tuple #[]) ∧ Sact L b o T cs w w' (fun s' a' => s' = ((s.by who).step (6 + t + n * 2 + i * 3) c.w) ∧ a' = { a with st := c.st, cl := c.cl, us := c.us, sp := c.sp, nx := 1 }) := by
  have HU : Hid (s.wd (6 + t + n * 2 + i * 3) = c.w) := hw
  have HC : Hid (a.ch = (i : Int)) := hch
  have HS : Hid (((c.st : Int) != 3) = false) := by unfold Hid; simp; omega
  clear hw hch hst
  have hbv : ¬ L.has w.heap.size := fun hh => by have := h.lt _ hh; omega
  have hbb : ¬ w.heap.size = b := fun hh => by have := hi.lt; omega
  go_enter Try.func45, Try.ntmps45
  go_wp2
  refine wp_over (fun W => MemAt W L s ∧ SeAt W b o T cs a ∧ BoxV W w.heap.size t n k m g p r L.p who ∧ Only (L.and b) w W) ⟨h.alloc _, hi.grown (gro1 _ _), BoxV.new, (Only.refl _ _).alloc _⟩ ?_
  rintro W ⟨m1, i1, v1, o1⟩
  refine wp_region_phase_tail (OnlyBut L b (o + 2)) Grown (phSe L b o T cs cs s ((s.by who).step (6 + t + n * 2 + i * 3) c.w) a a) 9 [5] [.val (.pointer (some ⟨b, o, none⟩)), .val (.agg #[.int .i64 t, .int .i64 n, .int .i64 k, .int .i64 m, .int .i64 g, .int .i64 p, .int .i64 r, .pointer (some ⟨L.p, 0, none⟩), .int .i64 who]), .val (.pointer (some ⟨b, o, none⟩)), .val (.agg #[.int .i64 t, .int .i64 n, .int .i64 k, .int .i64 m, .int .i64 g, .int .i64 p, .int .i64 r, .pointer (some ⟨L.p, 0, none⟩), .int .i64 who]), .val (.int .i64 (((6 + t + n * 2 + i * 3) : Nat) : Int)), .val (.int .u64 c.w), .val (.agg #[.int .i64 c.st, .int .i64 c.cl, .int .i64 c.us, .int .i64 c.sp]), .val (.pointer (some ⟨b, o, none⟩)), .val (.pointer (some ⟨b, o + 2, none⟩))]
    (by kernel_rfl) OnlyBut.refl OnlyBut.trans OnlyBut.ofGrown phSe_grown ⟨m1.drew, i1.drew⟩ (by decide) (by kernel_rfl) (by kernel_rfl) (by kernel_rfl) (by kernel_rfl) (by kernel_rfl) (by kernel_rfl) (by kernel_rfl) (by kernel_rfl) ?_
  simp only [List.take_succ_cons, List.take_zero, phaseAll, Act.put, List.setIfInBounds_toArray, List.set_cons_zero, List.set_cons_succ]
  refine ⟨?_, ?_, ?_, ?_, ?_, ?_, ?_, ?_, ?_, ?_⟩
  · intro w' hR _
    refine Or.inl ⟨rfl, ?_⟩
    go_simp
    exact ⟨Grown.refl _, rfl⟩
  · intro w' hR _
    refine Or.inl ⟨rfl, ?_⟩
    have vv := (v1.grown ((Below.refl _ _).drew)).only hR.only (fun hh => hh.elim hbv hbb)
    have y0 := vv.c0
    have y1 := vv.c1
    have y2 := vv.c2
    have y3 := vv.c3
    have y4 := vv.c4
    have y5 := vv.c5
    have y6 := vv.c6
    have y7 := vv.c7
    have y8 := vv.c8
    go_simp
    exact ⟨Grown.refl _, rfl⟩
  · intro w' hR _
    refine Or.inl ⟨rfl, ?_⟩
    go_simp
    exact ⟨Grown.refl _, rfl⟩
  · intro w' hR _
    refine Or.inl ⟨rfl, ?_⟩
    have vv := (v1.grown ((Below.refl _ _).drew)).only hR.only (fun hh => hh.elim hbv hbb)
    have y0 := vv.c0
    have y1 := vv.c1
    have y2 := vv.c2
    have y3 := vv.c3
    have y4 := vv.c4
    have y5 := vv.c5
    have y6 := vv.c6
    have y7 := vv.c7
    have y8 := vv.c8
    go_simp
    exact ⟨Grown.refl _, rfl⟩
  · intro w' hR _
    refine Or.inl ⟨rfl, ?_⟩
    go_simp
    refine (sat_any (hR.keep (j := o + 1) (by omega) (by have z := i1.drew.c_ch; rwa [HC.out] at z)) L.p who hG hik).mono ?_
    rintro e w'' ⟨rfl, b9⟩
    exact ⟨_, rfl, b9, rfl⟩
  · intro w' hR _ hP
    refine Or.inl ⟨rfl, ?_⟩
    go_simp
    refine (eload_in (s := s) hP.1 _ _ _ _ _ _ _ _ (6 + t + n * 2 + i * 3) hn).mono ?_
    rintro e w'' ⟨rfl, m2, o2⟩
    rw [HU.out] at m2
    exact ⟨_, rfl, ⟨OnlyBut.ofOnly o2 hb, m2, hP.2.only o2 hb⟩, by simp [Want.pred, HU.out]⟩
  · intro w' hR _
    refine Or.inl ⟨rfl, ?_⟩
    go_simp
    refine (chunk_w c σ hok hσ _).mono ?_
    rintro e w'' ⟨rfl, b9⟩
    exact ⟨_, rfl, b9, rfl⟩
  · intro w' hR _
    refine Or.inl ⟨rfl, ?_⟩
    go_simp
    exact ⟨Grown.refl _, rfl⟩
  · intro w' hR _
    refine Or.inl ⟨rfl, ?_⟩
    go_simp
    exact ⟨Grown.refl _, rfl⟩
  intro w2 hR hP _
  obtain ⟨m2, i2⟩ : MemAt w2 L ((s.by who).step (6 + t + n * 2 + i * 3) c.w) ∧ SeAt w2 b o T cs a := hP
  have o2 : Only (L.and b) w w2 := o1.drew.trans hR.only
  clear hR o1 v1 m1 i1
  have k2 := i2.c_st
  have k3 := i2.c_cl
  have k4 := i2.c_us
  have k5 := i2.c_sp
  have k0 := i2.c_nx
  have kf := i2.fz
  have I3 := (((i2.set_st c.st).set_cl c.cl).set_us c.us).set_sp c.sp
  have M3 := (((m2.setIn hb (o + 2) (.int .i64 c.st)).setIn hb (o + 3) (.int .i64 c.cl)).setIn hb (o + 4) (.int .i64 c.us)).setIn hb (o + 5) (.int .i64 c.sp)
  have O3 := (((o2.set (o + 2) (.int .i64 c.st)).set (o + 3) (.int .i64 c.cl)).set (o + 4) (.int .i64 c.us)).set (o + 5) (.int .i64 c.sp)
  have I4 := I3.set_nx 1
  have l0 := I3.c_nx
  have lf := I3.fz
  have l2 := I4.c_st
  have l0' := I4.c_nx
  have lf' := I4.fz
  have hs' := HS.out
  go_wp2
  go_end0
  exact ⟨rfl, _, _, _, M3.setIn hb _ _, O3.set _ _, I4, ((((Same.refl.set (by omega) _).set (by omega) _).set (by omega) _).set (by omega) _).set (by omega) _, rfl, rfl⟩

set_option maxHeartbeats 1000000 in
theorem ssee_other (h : MemAt w L s) (hb : ¬ L.has b) (hi : SeAt w b o T cs a) (who : Int) (hG : Good t n k m g p r) {i : Nat} (hik : i < k) (hch : a.ch = i) (hn : (6 + t + n * 2 + i * 3) < s.n) {c : Ck} {σ : Nat} (hw : s.wd (6 + t + n * 2 + i * 3) = c.w) (hok : c.ok σ) (hσ : σ ≤ 2000000) (hst : ¬ c.st = 3) :
    Calls Try.prog 45 #[.pointer (some ⟨b, o, none⟩), .agg #[.int .i64 t, .int .i64 n, .int .i64 k, .int .i64 m, .int .i64 g, .int .i64 p, .int .i64 r, .pointer (some ⟨L.p, 0, none⟩), .int .i64 who]] w fun e w' => e = .returned (.tuple #[]) ∧ Sact L b o T cs w w' (fun s' a' => s' = ((s.by who).step (6 + t + n * 2 + i * 3) c.w) ∧ a' = { a with st := c.st, cl := c.cl, us := c.us, sp := c.sp, nx := 6 }) := by
  have HU : Hid (s.wd (6 + t + n * 2 + i * 3) = c.w) := hw
  have HC : Hid (a.ch = (i : Int)) := hch
  have HS : Hid (((c.st : Int) != 3) = true) := by unfold Hid; simp; omega
  clear hw hch hst
  have hbv : ¬ L.has w.heap.size := fun hh => by have := h.lt _ hh; omega
  have hbb : ¬ w.heap.size = b := fun hh => by have := hi.lt; omega
  go_enter Try.func45, Try.ntmps45
  go_wp2
  refine wp_over (fun W => MemAt W L s ∧ SeAt W b o T cs a ∧ BoxV W w.heap.size t n k m g p r L.p who ∧ Only (L.and b) w W) ⟨h.alloc _, hi.grown (gro1 _ _), BoxV.new, (Only.refl _ _).alloc _⟩ ?_
  rintro W ⟨m1, i1, v1, o1⟩
  refine wp_region_phase_tail (OnlyBut L b (o + 2)) Grown (phSe L b o T cs cs s ((s.by who).step (6 + t + n * 2 + i * 3) c.w) a a) 9 [5] [.val (.pointer (some ⟨b, o, none⟩)), .val (.agg #[.int .i64 t, .int .i64 n, .int .i64 k, .int .i64 m, .int .i64 g, .int .i64 p, .int .i64 r, .pointer (some ⟨L.p, 0, none⟩), .int .i64 who]), .val (.pointer (some ⟨b, o, none⟩)), .val (.agg #[.int .i64 t, .int .i64 n, .int .i64 k, .int .i64 m, .int .i64 g, .int .i64 p, .int .i64 r, .pointer (some ⟨L.p, 0, none⟩), .int .i64 who]), .val (.int .i64 (((6 + t + n * 2 + i * 3) : Nat) : Int)), .val (.int .u64 c.w), .val (.agg #[.int .i64 c.st, .int .i64 c.cl, .int .i64 c.us, .int .i64 c.sp]), .val (.pointer (some ⟨b, o, none⟩)), .val (.pointer (some ⟨b, o + 2, none⟩))]
    (by kernel_rfl) OnlyBut.refl OnlyBut.trans OnlyBut.ofGrown phSe_grown ⟨m1.drew, i1.drew⟩ (by decide) (by kernel_rfl) (by kernel_rfl) (by kernel_rfl) (by kernel_rfl) (by kernel_rfl) (by kernel_rfl) (by kernel_rfl) (by kernel_rfl) ?_
  simp only [List.take_succ_cons, List.take_zero, phaseAll, Act.put, List.setIfInBounds_toArray, List.set_cons_zero, List.set_cons_succ]
  refine ⟨?_, ?_, ?_, ?_, ?_, ?_, ?_, ?_, ?_, ?_⟩
  · intro w' hR _
    refine Or.inl ⟨rfl, ?_⟩
    go_simp
    exact ⟨Grown.refl _, rfl⟩
  · intro w' hR _
    refine Or.inl ⟨rfl, ?_⟩
    have vv := (v1.grown ((Below.refl _ _).drew)).only hR.only (fun hh => hh.elim hbv hbb)
    have y0 := vv.c0
    have y1 := vv.c1
    have y2 := vv.c2
    have y3 := vv.c3
    have y4 := vv.c4
    have y5 := vv.c5
    have y6 := vv.c6
    have y7 := vv.c7
    have y8 := vv.c8
    go_simp
    exact ⟨Grown.refl _, rfl⟩
  · intro w' hR _
    refine Or.inl ⟨rfl, ?_⟩
    go_simp
    exact ⟨Grown.refl _, rfl⟩
  · intro w' hR _
    refine Or.inl ⟨rfl, ?_⟩
    have vv := (v1.grown ((Below.refl _ _).drew)).only hR.only (fun hh => hh.elim hbv hbb)
    have y0 := vv.c0
    have y1 := vv.c1
    have y2 := vv.c2
    have y3 := vv.c3
    have y4 := vv.c4
    have y5 := vv.c5
    have y6 := vv.c6
    have y7 := vv.c7
    have y8 := vv.c8
    go_simp
    exact ⟨Grown.refl _, rfl⟩
  · intro w' hR _
    refine Or.inl ⟨rfl, ?_⟩
    go_simp
    refine (sat_any (hR.keep (j := o + 1) (by omega) (by have z := i1.drew.c_ch; rwa [HC.out] at z)) L.p who hG hik).mono ?_
    rintro e w'' ⟨rfl, b9⟩
    exact ⟨_, rfl, b9, rfl⟩
  · intro w' hR _ hP
    refine Or.inl ⟨rfl, ?_⟩
    go_simp
    refine (eload_in (s := s) hP.1 _ _ _ _ _ _ _ _ (6 + t + n * 2 + i * 3) hn).mono ?_
    rintro e w'' ⟨rfl, m2, o2⟩
    rw [HU.out] at m2
    exact ⟨_, rfl, ⟨OnlyBut.ofOnly o2 hb, m2, hP.2.only o2 hb⟩, by simp [Want.pred, HU.out]⟩
  · intro w' hR _
    refine Or.inl ⟨rfl, ?_⟩
    go_simp
    refine (chunk_w c σ hok hσ _).mono ?_
    rintro e w'' ⟨rfl, b9⟩
    exact ⟨_, rfl, b9, rfl⟩
  · intro w' hR _
    refine Or.inl ⟨rfl, ?_⟩
    go_simp
    exact ⟨Grown.refl _, rfl⟩
  · intro w' hR _
    refine Or.inl ⟨rfl, ?_⟩
    go_simp
    exact ⟨Grown.refl _, rfl⟩
  intro w2 hR hP _
  obtain ⟨m2, i2⟩ : MemAt w2 L ((s.by who).step (6 + t + n * 2 + i * 3) c.w) ∧ SeAt w2 b o T cs a := hP
  have o2 : Only (L.and b) w w2 := o1.drew.trans hR.only
  clear hR o1 v1 m1 i1
  have k2 := i2.c_st
  have k3 := i2.c_cl
  have k4 := i2.c_us
  have k5 := i2.c_sp
  have k0 := i2.c_nx
  have kf := i2.fz
  have I3 := (((i2.set_st c.st).set_cl c.cl).set_us c.us).set_sp c.sp
  have M3 := (((m2.setIn hb (o + 2) (.int .i64 c.st)).setIn hb (o + 3) (.int .i64 c.cl)).setIn hb (o + 4) (.int .i64 c.us)).setIn hb (o + 5) (.int .i64 c.sp)
  have O3 := (((o2.set (o + 2) (.int .i64 c.st)).set (o + 3) (.int .i64 c.cl)).set (o + 4) (.int .i64 c.us)).set (o + 5) (.int .i64 c.sp)
  have I4 := I3.set_nx 1
  have l0 := I3.c_nx
  have lf := I3.fz
  have l2 := I4.c_st
  have l0' := I4.c_nx
  have lf' := I4.fz
  have hs' := HS.out
  go_wp2
  go_end0
  exact ⟨rfl, _, _, _, (M3.setIn hb _ _).setIn hb _ _, (O3.set _ _).set _ _, I4.set_nx 6, (((((Same.refl.set (by omega) _).set (by omega) _).set (by omega) _).set (by omega) _).set (by omega) _).set (by omega) _, rfl, rfl⟩

set_option maxHeartbeats 1000000 in
theorem slook_on (h : MemAt w L s) (hb : ¬ L.has b) (hi : SeAt w b o T cs a) (who : Int) (hn : 0 < s.n) {N : Int} (hu : s.wd 0 = N) (h0 : 0 ≤ a.si) (h1 : a.si + 2 ≤ N) (h2 : N < 18446744073709551616) :
    Calls Try.prog 47 #[.pointer (some ⟨b, o, none⟩), .agg #[.int .i64 t, .int .i64 n, .int .i64 k, .int .i64 m, .int .i64 g, .int .i64 p, .int .i64 r, .pointer (some ⟨L.p, 0, none⟩), .int .i64 who]] w fun e w' => e = .returned (.tuple #[]) ∧ Sact L b o T cs w w' (fun s' a' => s' = (s.by who).step 0 N ∧ a' = { a with nx := 3 }) := by
  have HU : Hid (s.wd 0 = N) := hu
  clear hu
  have hd1 : decide (N < a.si) = false := decide_eq_false (by omega)
  obtain ⟨D, hD⟩ : ∃ D, IntKind.u64.wrap (N - a.si) = D := ⟨_, rfl⟩
  have hd2 : decide (D < 2) = false := decide_eq_false (by
    have e : IntKind.u64.wrap (N - a.si) = (N - a.si) % 18446744073709551616 := rfl
    rw [← hD, e]
    omega)
  clear h0 h1 h2
  have hbv : ¬ L.has w.heap.size := fun hh => by have := h.lt _ hh; omega
  have hbb : ¬ w.heap.size = b := fun hh => by have := hi.lt; omega
  go_enter Try.func47, Try.ntmps47
  go_wp2
  refine wp_over (fun W => MemAt W L s ∧ SeAt W b o T cs a ∧ BoxV W w.heap.size t n k m g p r L.p who ∧ Only (L.and b) w W) ⟨h.alloc _, hi.grown (gro1 _ _), BoxV.new, (Only.refl _ _).alloc _⟩ ?_
  rintro W ⟨m1, i1, v1, o1⟩
  refine wp_region_rely_tail Grown 2 [.val (.agg #[.int .i64 t, .int .i64 n, .int .i64 k, .int .i64 m, .int .i64 g, .int .i64 p, .int .i64 r, .pointer (some ⟨L.p, 0, none⟩), .int .i64 who]), .val (.int .i64 0)] (by kernel_rfl) Grown.refl Grown.trans (by decide) (by kernel_rfl) (by kernel_rfl) (by kernel_rfl) (by kernel_rfl) (by kernel_rfl) (by kernel_rfl) ?_
  simp only [List.take_succ_cons, List.take_zero, relyAll, Act.put, List.setIfInBounds_toArray, List.set_cons_zero, List.set_cons_succ]
  refine ⟨?_, ?_, ?_⟩
  · intro w' hg _
    refine Or.inl ⟨rfl, ?_⟩
    have vv := (v1.grown ((Below.refl _ _).drew)).grown hg
    have y0 := vv.c0
    have y1 := vv.c1
    have y2 := vv.c2
    have y3 := vv.c3
    have y4 := vv.c4
    have y5 := vv.c5
    have y6 := vv.c6
    have y7 := vv.c7
    have y8 := vv.c8
    go_simp
    exact ⟨Grown.refl _, rfl⟩
  · intro w' hg _
    refine Or.inl ⟨rfl, ?_⟩
    go_simp
    refine (lepoch_any _).mono ?_
    rintro e w'' ⟨rfl, rfl⟩
    exact ⟨_, rfl, Grown.refl _, rfl⟩
  intro w5 hg _
  have m5 := m1.drew.below hg
  have i5 := i1.drew.grown hg
  have v5 := (v1.grown ((Below.refl _ _).drew)).grown hg
  have o5 : Only (L.and b) w w5 := o1.drew.trans (Only.ofGrown hg)
  clear hg m1 i1 v1 o1
  go_wp2_with (go_at_call 34; refine (eload_in m5 _ _ _ _ _ _ _ _ 0 hn).mono ?_; rintro e w6 ⟨rfl, m6, o6⟩; rw [HU.out]; rw [HU.out] at m6; have i6 := i5.only o6 hb; have l0 := i6.c_nx; have lf := i6.fz; have l6 := (i6.set_nx 3).c_si; have l0' := (i6.set_nx 3).c_nx; have lf' := (i6.set_nx 3).fz)
  go_end0
  exact ⟨rfl, _, _, _, m6.setIn hb _ _, (o5.trans (o6.andL (b := b))).set _ _, i6.set_nx 3, Same.refl.set (by omega) _, rfl, rfl⟩

set_option maxHeartbeats 1000000 in
theorem slook_off (h : MemAt w L s) (hb : ¬ L.has b) (hi : SeAt w b o T cs a) (who : Int) (hn : 0 < s.n) {N : Int} (hu : s.wd 0 = N) (h1 : N < a.si + 2) :
    Calls Try.prog 47 #[.pointer (some ⟨b, o, none⟩), .agg #[.int .i64 t, .int .i64 n, .int .i64 k, .int .i64 m, .int .i64 g, .int .i64 p, .int .i64 r, .pointer (some ⟨L.p, 0, none⟩), .int .i64 who]] w fun e w' => e = .returned (.tuple #[]) ∧ Sact L b o T cs w w' (fun s' a' => s' = (s.by who).step 0 N ∧ a' = { a with nx := 6 }) := by
  have HU : Hid (s.wd 0 = N) := hu
  clear hu
  obtain ⟨D, hD⟩ : ∃ D, IntKind.u64.wrap (N - a.si) = D := ⟨_, rfl⟩
  have hd : decide (N < a.si) = true ∨ (decide (N < a.si) = false ∧ decide (D < 2) = true) := by
    by_cases hlt : N < a.si
    · exact Or.inl (decide_eq_true hlt)
    · refine Or.inr ⟨decide_eq_false hlt, decide_eq_true ?_⟩
      have e : IntKind.u64.wrap (N - a.si) = (N - a.si) % 18446744073709551616 := rfl
      rw [← hD, e]
      omega
  clear h1
  have hbv : ¬ L.has w.heap.size := fun hh => by have := h.lt _ hh; omega
  have hbb : ¬ w.heap.size = b := fun hh => by have := hi.lt; omega
  go_enter Try.func47, Try.ntmps47
  go_wp2
  refine wp_over (fun W => MemAt W L s ∧ SeAt W b o T cs a ∧ BoxV W w.heap.size t n k m g p r L.p who ∧ Only (L.and b) w W) ⟨h.alloc _, hi.grown (gro1 _ _), BoxV.new, (Only.refl _ _).alloc _⟩ ?_
  rintro W ⟨m1, i1, v1, o1⟩
  refine wp_region_rely_tail Grown 2 [.val (.agg #[.int .i64 t, .int .i64 n, .int .i64 k, .int .i64 m, .int .i64 g, .int .i64 p, .int .i64 r, .pointer (some ⟨L.p, 0, none⟩), .int .i64 who]), .val (.int .i64 0)] (by kernel_rfl) Grown.refl Grown.trans (by decide) (by kernel_rfl) (by kernel_rfl) (by kernel_rfl) (by kernel_rfl) (by kernel_rfl) (by kernel_rfl) ?_
  simp only [List.take_succ_cons, List.take_zero, relyAll, Act.put, List.setIfInBounds_toArray, List.set_cons_zero, List.set_cons_succ]
  refine ⟨?_, ?_, ?_⟩
  · intro w' hg _
    refine Or.inl ⟨rfl, ?_⟩
    have vv := (v1.grown ((Below.refl _ _).drew)).grown hg
    have y0 := vv.c0
    have y1 := vv.c1
    have y2 := vv.c2
    have y3 := vv.c3
    have y4 := vv.c4
    have y5 := vv.c5
    have y6 := vv.c6
    have y7 := vv.c7
    have y8 := vv.c8
    go_simp
    exact ⟨Grown.refl _, rfl⟩
  · intro w' hg _
    refine Or.inl ⟨rfl, ?_⟩
    go_simp
    refine (lepoch_any _).mono ?_
    rintro e w'' ⟨rfl, rfl⟩
    exact ⟨_, rfl, Grown.refl _, rfl⟩
  intro w5 hg _
  have m5 := m1.drew.below hg
  have i5 := i1.drew.grown hg
  have v5 := (v1.grown ((Below.refl _ _).drew)).grown hg
  have o5 : Only (L.and b) w w5 := o1.drew.trans (Only.ofGrown hg)
  clear hg m1 i1 v1 o1
  rcases hd with hd1 | ⟨hd1, hd2⟩
  · go_wp2_with (go_at_call 34; refine (eload_in m5 _ _ _ _ _ _ _ _ 0 hn).mono ?_; rintro e w6 ⟨rfl, m6, o6⟩; rw [HU.out]; rw [HU.out] at m6; have i6 := i5.only o6 hb; have l0 := i6.c_nx; have lf := i6.fz; have l6 := (i6.set_nx 3).c_si; have l0' := (i6.set_nx 3).c_nx; have lf' := (i6.set_nx 3).fz)
    go_end0
    exact ⟨rfl, _, _, _, (m6.setIn hb _ _).setIn hb _ _, ((o5.trans (o6.andL (b := b))).set _ _).set _ _, (i6.set_nx 3).set_nx 6, (Same.refl.set (by omega) _).set (by omega) _, rfl, rfl⟩
  · go_wp2_with (go_at_call 34; refine (eload_in m5 _ _ _ _ _ _ _ _ 0 hn).mono ?_; rintro e w6 ⟨rfl, m6, o6⟩; rw [HU.out]; rw [HU.out] at m6; have i6 := i5.only o6 hb; have l0 := i6.c_nx; have lf := i6.fz; have l6 := (i6.set_nx 3).c_si; have l0' := (i6.set_nx 3).c_nx; have lf' := (i6.set_nx 3).fz)
    go_end0
    exact ⟨rfl, _, _, _, (m6.setIn hb _ _).setIn hb _ _, ((o5.trans (o6.andL (b := b))).set _ _).set _ _, (i6.set_nx 3).set_nx 6, (Same.refl.set (by omega) _).set (by omega) _, rfl, rfl⟩

set_option maxHeartbeats 1000000 in
theorem sfree_any (h : MemAt w L s) (hb : ¬ L.has b) (hi : SeAt w b o T cs a) (who : Int) (hG : Good t n k m g p r) {i : Nat} (hik : i < k) (hch : a.ch = i) (hn : (6 + t + n * 2 + i * 3) < s.n) {S : Nat} (hsp : a.sp = S) (hS : S < 2000000) :
    Calls Try.prog 48 #[.pointer (some ⟨b, o, none⟩), .agg #[.int .i64 t, .int .i64 n, .int .i64 k, .int .i64 m, .int .i64 g, .int .i64 p, .int .i64 r, .pointer (some ⟨L.p, 0, none⟩), .int .i64 who]] w fun e w' => e = .returned (.tuple #[]) ∧ Sact L b o T cs w w' (fun s' a' => s' = (s.by who).step (6 + t + n * 2 + i * 3) (Ck.mk 0 0 0 (S + 1)).w ∧ a' = { a with fr := true, nx := 6 }) := by
  have HC : Hid (a.ch = (i : Int)) := hch
  have HS : Hid (a.sp = (S : Int)) := hsp
  clear hsp hch
  have hbv : ¬ L.has w.heap.size := fun hh => by have := h.lt _ hh; omega
  have hbb : ¬ w.heap.size = b := fun hh => by have := hi.lt; omega
  go_enter Try.func48, Try.ntmps48
  go_wp2
  refine wp_over (fun W => MemAt W L s ∧ SeAt W b o T cs a ∧ BoxV W w.heap.size t n k m g p r L.p who ∧ Only (L.and b) w W) ⟨h.alloc _, hi.grown (gro1 _ _), BoxV.new, (Only.refl _ _).alloc _⟩ ?_
  rintro W ⟨m1, i1, v1, o1⟩
  refine wp_region_rely_tail Grown 12 [.val (.agg #[.int .i64 t, .int .i64 n, .int .i64 k, .int .i64 m, .int .i64 g, .int .i64 p, .int .i64 r, .pointer (some ⟨L.p, 0, none⟩), .int .i64 who]), .val (.pointer (some ⟨b, o, none⟩)), .val (.agg #[.int .i64 t, .int .i64 n, .int .i64 k, .int .i64 m, .int .i64 g, .int .i64 p, .int .i64 r, .pointer (some ⟨L.p, 0, none⟩), .int .i64 who]), .val (.int .i64 (((6 + t + n * 2 + i * 3) : Nat) : Int)), .val (.pointer (some ⟨b, o, none⟩)), .val (.pointer (some ⟨b, o, none⟩)), .val (.pointer (some ⟨b, o + 2, none⟩)), .val (.pointer (some ⟨b, o + 5, none⟩)), .val (.int .i64 S), .val (.int .i64 (((S + 1 : Nat) : Int))), .val (.agg #[.int .i64 0, .int .i64 0, .int .i64 0, .int .i64 ((S + 1 : Nat) : Int)]), .val (.int .u64 (Ck.mk 0 0 0 (S + 1)).w)] (by kernel_rfl) Grown.refl Grown.trans (by decide) (by kernel_rfl) (by kernel_rfl) (by kernel_rfl) (by kernel_rfl) (by kernel_rfl) (by kernel_rfl) ?_
  simp only [List.take_succ_cons, List.take_zero, relyAll, Act.put, List.setIfInBounds_toArray, List.set_cons_zero, List.set_cons_succ]
  refine ⟨?_, ?_, ?_, ?_, ?_, ?_, ?_, ?_, ?_, ?_, ?_, ?_, ?_⟩
  · intro w' hg _
    refine Or.inl ⟨rfl, ?_⟩
    have vv := (v1.grown ((Below.refl _ _).drew)).grown hg
    have y0 := vv.c0
    have y1 := vv.c1
    have y2 := vv.c2
    have y3 := vv.c3
    have y4 := vv.c4
    have y5 := vv.c5
    have y6 := vv.c6
    have y7 := vv.c7
    have y8 := vv.c8
    go_simp
    exact ⟨Grown.refl _, rfl⟩
  · intro w' hg _
    refine Or.inl ⟨rfl, ?_⟩
    go_simp
    exact ⟨Grown.refl _, rfl⟩
  · intro w' hg _
    refine Or.inl ⟨rfl, ?_⟩
    have vv := (v1.grown ((Below.refl _ _).drew)).grown hg
    have y0 := vv.c0
    have y1 := vv.c1
    have y2 := vv.c2
    have y3 := vv.c3
    have y4 := vv.c4
    have y5 := vv.c5
    have y6 := vv.c6
    have y7 := vv.c7
    have y8 := vv.c8
    go_simp
    exact ⟨Grown.refl _, rfl⟩
  · intro w' hg _
    refine Or.inl ⟨rfl, ?_⟩
    go_simp
    refine (sat_any (by have z := (i1.drew.grown hg).c_ch; rwa [HC.out] at z) L.p who hG hik).mono ?_
    rintro e w'' ⟨rfl, b9⟩
    exact ⟨_, rfl, b9, rfl⟩
  · intro w' hg _
    refine Or.inl ⟨rfl, ?_⟩
    go_simp
    exact ⟨Grown.refl _, rfl⟩
  · intro w' hg _
    refine Or.inl ⟨rfl, ?_⟩
    go_simp
    exact ⟨Grown.refl _, rfl⟩
  · intro w' hg _
    refine Or.inl ⟨rfl, ?_⟩
    go_simp
    exact ⟨Grown.refl _, rfl⟩
  · intro w' hg _
    refine Or.inl ⟨rfl, ?_⟩
    go_simp
    exact ⟨Grown.refl _, rfl⟩
  · intro w' hg _
    refine Or.inl ⟨rfl, ?_⟩
    have z := (by have z := (i1.drew.grown hg).c_sp; rwa [HS.out] at z)
    go_simp
    exact ⟨Grown.refl _, rfl⟩
  · intro w' hg _
    refine Or.inl ⟨rfl, ?_⟩
    go_simp
    exact ⟨Grown.refl _, congrArg (Value.int .i64) (by rw [IntKind.wrap_i64]; omega)⟩
  · intro w' hg _
    refine Or.inl ⟨rfl, ?_⟩
    go_simp
    exact ⟨Grown.refl _, rfl⟩
  · intro w' hg _
    refine Or.inl ⟨rfl, ?_⟩
    go_simp
    refine (putChunk_w (Ck.mk 0 0 0 (S + 1)) (S + 1) ⟨by simp, by simp, by simp, by simp⟩ (by omega) _ _ _ _ rfl rfl rfl rfl _).mono ?_
    rintro e w'' ⟨rfl, b9⟩
    exact ⟨_, rfl, b9, rfl⟩
  intro w5 hg _
  have m5 := m1.drew.below hg
  have i5 := i1.drew.grown hg
  have v5 := (v1.grown ((Below.refl _ _).drew)).grown hg
  have o5 : Only (L.and b) w w5 := o1.drew.trans (Only.ofGrown hg)
  clear hg m1 i1 v1 o1
  go_wp2_with (go_at_call 35; refine (estore_in m5 _ _ _ _ _ _ _ _ (6 + t + n * 2 + i * 3) hn _).mono ?_; rintro e w6 ⟨rfl, m6, o6⟩; have i6 := i5.only o6 hb; have l8 := i6.c_fr; have lf := i6.fz; have l0 := (i6.set_fr true).c_nx; have lf' := (i6.set_fr true).fz)
  go_end0
  exact ⟨rfl, _, _, _, (m6.setIn hb _ _).setIn hb _ _, ((o5.trans (o6.andL (b := b))).set _ _).set _ _, (i6.set_fr true).set_nx 6, (Same.refl.set (by omega) _).set (by omega) _, rfl, rfl⟩

end Go.Proofs.Ytameeiabnkblmaa
