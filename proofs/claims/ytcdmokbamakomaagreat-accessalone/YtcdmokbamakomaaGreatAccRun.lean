/- The statements' own helper: to do something to a word of an object alone. -/
import Derived.Test.YtcdmokbamakomaaGreatAccTown
namespace Go.Proofs.YtcdmokbamakomaaGreat
open Go.RowKit

section
variable {w : World} {L : Loc} {t n k m σ : Nat} {s : Mm} {q : Q} {W : Wt} {own : Bool}

set_option maxHeartbeats 1000000 in
theorem do_goes {cg cp cr : Int} (h : MemAt w L s) (hT : Town t n k m s σ q) (hG : Good t n k m cg cp cr) (hdw : ∀ a, Wd (q.dw a)) {x G : Nat} (hh : HandIs W.nu x G) (hx : x < n) (hW : W.ok) (hσ : σ + 200 < 1000000) {N : Nat} (hN : N ≤ 200) {rb : Bool} {q' : Q} {E val : Int} {st : Nat} (g : ARuns t n k m W own x G rb N σ q .see q' (.over E val st)) :
    Calls Tryz.prog 13 #[.agg #[.int .i64 t, .int .i64 n, .int .i64 k, .int .i64 m, .int .i64 cg, .int .i64 cp, .int .i64 cr, .pointer (some ⟨L.p, 0, none⟩), .int .i64 0], .agg #[.int .i64 W.kd, .int .u64 W.nu, .int .i64 W.ix, .int .i64 W.vl, .int .i64 W.ol], .bool own] w fun e w' => e = .returned (.agg #[.int .i64 E, .int .u64 0, .int .i64 val, .int .i64 st]) ∧ ∃ s' : Mm, MemAt w' L s' ∧ Town t n k m s' (σ + N) q' ∧ Only L.has w w' ∧ (rb = true → s'.wd = s.wd) := by
  have hB : Hid (¬ L.has w.heap.size) := fun hh => by have := h.lt _ hh; omega
  have hB1 : Hid (¬ L.has (w.heap.size + 1)) := fun hh => by have := h.lt _ hh; omega
  have hB2 : Hid (¬ L.has (w.heap.size + 1 + 1)) := fun hh => by have := h.lt _ hh; omega
  have HT : Hid (Town t n k m s σ q) := hT
  have HM : Hid (MemAt w L s) := h
  have HG : Hid (Good t n k m cg cp cr) := hG
  have HH : Hid (HandIs W.nu x G) := hh
  have HX : Hid (x < n) := hx
  have HWo : Hid W.ok := hW
  have HW : Hid (∀ a, Wd (q.dw a)) := hdw
  have GG : Hid (ARuns t n k m W own x G rb N σ q .see q' (.over E val st)) := g
  clear h hT hG g hh hx hdw hW
  go_enter Tryz.func13, Tryz.ntmps13
  go_wp2_with (go_at_call 15; refine (newAcc_any W.kd W.nu W.ix W.vl W.ol own _).mono ?_; rintro e w1 ⟨W1, rfl, rfl, g1⟩)
  have hsz : w.heap.size + 1 + 1 + 1 ≤ W1.heap.size := by
    have := g1.size
    simp only [Go.Deep.nblk_alloc] at this
    omega
  obtain ⟨cs0, q0⟩ := acc0_at W.kd W.nu W.ix W.vl W.ol own W1
  obtain ⟨B, hBe⟩ : ∃ B, W1.heap.size = B := ⟨_, rfl⟩
  have hBL : Hid (¬ L.has B) := fun hh => by have := HM.out.lt _ hh; omega
  have v0 : BoxV (((w.alloc (.cells #[.int .i64 t, .int .i64 n, .int .i64 k, .int .i64 m, .int .i64 cg, .int .i64 cp, .int .i64 cr, .pointer (some ⟨L.p, 0, none⟩), .int .i64 0] 28)).alloc (.cells #[.int .i64 W.kd, .int .u64 W.nu, .int .i64 W.ix, .int .i64 W.vl, .int .i64 W.ol] 40)).alloc (.cells #[.int .i64 0, .int .u64 0, .int .i64 0, .int .i64 0] 37)) w.heap.size t n k m cg cp cr L.p 0 := (BoxV.newB _).grown (grow_alloc (Below.refl _ _) _)
  have d0 := At.new2 (w.alloc (.cells #[.int .i64 t, .int .i64 n, .int .i64 k, .int .i64 m, .int .i64 cg, .int .i64 cp, .int .i64 cr, .pointer (some ⟨L.p, 0, none⟩), .int .i64 0] 28)) (.cells #[.int .i64 W.kd, .int .u64 W.nu, .int .i64 W.ix, .int .i64 W.vl, .int .i64 W.ol] 40) 37 [.int .i64 0, .int .u64 0, .int .i64 0, .int .i64 0]
  rw [Go.Deep.nblk_alloc] at d0
  rw [hBe] at q0 hsz ⊢
  have o0 : Only (L.and B) w (W1.alloc (acc0 W.kd W.nu W.ix W.vl W.ol own)) := (((((Only.refl _ _).alloc _).alloc _).alloc _).trans (Only.ofGrown g1)).alloc _
  have A1 : Hid (MemAt (W1.alloc (acc0 W.kd W.nu W.ix W.vl W.ol own)) L s ∧ AcAt (W1.alloc (acc0 W.kd W.nu W.ix W.vl W.ol own)) B 0 75 cs0 (cv0 W.kd W.nu W.ix W.vl W.ol own) ∧ BoxV (W1.alloc (acc0 W.kd W.nu W.ix W.vl W.ol own)) w.heap.size t n k m cg cp cr L.p 0 ∧ At (W1.alloc (acc0 W.kd W.nu W.ix W.vl W.ol own)) (w.heap.size + 1 + 1) 0 37 #[.int .i64 0, .int .u64 0, .int .i64 0, .int .i64 0] [.int .i64 0, .int .u64 0, .int .i64 0, .int .i64 0] ∧ Only (L.and B) w (W1.alloc (acc0 W.kd W.nu W.ix W.vl W.ol own))) :=
    ⟨((((HM.out.alloc _).alloc _).alloc _).below g1).alloc _, q0, (v0.grown g1).grown (grow1 _ _), (d0.grown g1).grown (grow1 _ _), o0⟩
  clear HM v0 d0 q0 o0 g1 hBe
  go_loopw [8] (fun i wr => ∃ (j N1 : Nat) (s1 : Mm) (cs1 : Array Value) (a1 : CV) (q1 : Q) (α1 : Ac), i = .int .i64 j ∧ j + N1 = N ∧ ARuns t n k m W own x G rb N1 (σ + j) q1 α1 q' (.over E val st) ∧ (∀ a, Wd (q1.dw a)) ∧ (rb = true → s1.wd = s.wd) ∧ Town t n k m s1 (σ + j) q1 ∧ AcIs W own α1 a1 ∧ MemAt wr L s1 ∧ AcAt wr B 0 75 cs1 a1 ∧ BoxV wr w.heap.size t n k m cg cp cr L.p 0 ∧ At wr (w.heap.size + 1 + 1) 0 37 #[.int .i64 0, .int .u64 0, .int .i64 0, .int .i64 0] [.int .i64 0, .int .u64 0, .int .i64 0, .int .i64 0] ∧ Only (L.and B) w wr) (fun i _ => 200 - (intOf i).toNat)
  case atStart => exact ⟨0, N, s, cs0, _, q, _, rfl, by omega, GG.out, HW.out, fun _ => rfl, HT.out, ac0_is W own, A1.out⟩
  case round =>
    clear A1 GG HW HT
    obtain ⟨j, N1, s1, cs1, a1, q1, α1, rfl, hj, gg, wd, wde, tw, is1, mm, ia, v, j1, on⟩ := hrel
    have hN1 := gg.pos
    have hj3 : (j : Int) < 200 := by omega
    have y0 := v.c0
    have y1 := v.c1
    have y2 := v.c2
    have y3 := v.c3
    have y4 := v.c4
    have y5 := v.c5
    have y6 := v.c6
    have y7 := v.c7
    have y8 := v.c8
    cases gg with
    | one hb ho hg ht h1 =>
      have HT1 : Hid (acTurn W own x G (σ + j) q1 α1 = (q', .over E val st)) := ht
      have HO : Hid (α1.over? = false) := ho
      have HGd : Hid (α1.good t n k m W x G q1) := hg
      have HWE : Hid (rb = true → s1.wd = s.wd) := wde
      have HBB : Hid (rb = true → α1.reads = true) := hb
      clear ht ho hg wde hb
      go_wp2_with (first
        | (go_at_call 16; refine (access_step mm hBL.out tw HG.out (by omega) wd HH.out HX.out HWo.out α1 ia is1 HGd.out HO.out 0 _ _ HT1.out true h1).mono ?_; rintro e w2 ⟨rfl, s2, cs2, a2, P⟩; have c1 : a2.E = E := P.is.sec.1; have c2 : a2.H = 0 := P.is.sec.2.1; have c3 : a2.V = val := P.is.sec.2.2.1; have c4 : a2.St = st := P.is.sec.2.2.2)
        | (go_at_call 17; refine (adone_any P.ac).mono ?_; rintro e w3 ⟨rfl, b3⟩; rw [c1, c2, c3, c4]; have j3 := (j1.only P.only (fun hh => hh.elim hB2.out (by omega))).grown b3; have z0 := j3.at0 0 rfl; have z1 := j3.at0 1 rfl; have z2 := j3.at0 2 rfl; have z3 := j3.at0 3 rfl; have qf := j3.fz))
      refine bodyPost_ret (v := .agg #[.int .i64 E, .int .u64 0, .int .i64 val, .int .i64 st]) (by simp [results, Tryz.results13, go_sem, z0, z1, z2, z3]) rfl ?_
      refine ⟨rfl, s2, ((((P.mm.below b3).setIn hB2.out _ _).setIn hB2.out _ _).setIn hB2.out _ _).setIn hB2.out _ _, ?_, ?_, fun hb => ?_⟩
      · have := P.tw
        rwa [show σ + j + 1 = σ + N by omega] at this
      · exact ((((((on.trans P.only).trans (Only.ofGrown b3)).setCell (fun hlt => by simp only at hlt; omega) _).setCell (fun hlt => by simp only at hlt; omega) _).setCell (fun hlt => by simp only at hlt; omega) _).setCell (fun hlt => by simp only at hlt; omega) _).mono (fun x hx hh => hh.elim id (fun e => absurd e (by omega)))
      · rw [P.rd (HBB.out hb)]
        exact (upd_id _ _).trans (HWE.out hb)
    | more hb ho hg ht h1 g1 =>
      have wd1 := acTurn_wd wd ht
      have HT1 : Hid (acTurn W own x G (σ + j) q1 α1 = (_, _)) := ht
      have HO : Hid (α1.over? = false) := ho
      have HGd : Hid (α1.good t n k m W x G q1) := hg
      have HWE : Hid (rb = true → s1.wd = s.wd) := wde
      have HBB : Hid (rb = true → α1.reads = true) := hb
      clear ht ho hg wde hb
      go_wp2_with (go_at_call 16; refine (access_step mm hBL.out tw HG.out (by omega) wd HH.out HX.out HWo.out α1 ia is1 HGd.out HO.out 0 _ _ HT1.out false h1).mono ?_; rintro e w2 ⟨rfl, s2, cs2, a2, P⟩)
      go_roundw
      case rel =>
        exact ⟨j + 1, _, s2, cs2, a2, _, _, by go_num, by omega, g1, wd1, fun hb => by rw [P.rd (HBB.out hb)]; exact (upd_id _ _).trans (HWE.out hb), P.tw, P.is, P.mm, P.ac, v.only P.only (fun hh => hh.elim hB.out (by omega)), j1.only P.only (fun hh => hh.elim hB2.out (by omega)), on.trans P.only⟩
      case measure => simp [intOf]; omega

end

end Go.Proofs.YtcdmokbamakomaaGreat
