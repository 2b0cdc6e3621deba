/- AccessForged answers true for all sizes, wants and bools, and leaves what was in memory. -/
import Derived.Test.YtcdmokbamakomaaGreatAccForge
import Derived.Test.YtcdmokbamakomaaGreatAccWant
namespace Go.Proofs.YtcdmokbamakomaaGreat
open Go.RowKit

theorem len_is {w : World} {L : Loc} {s : Mm} (h : MemAt w L s) (K : Nat) (hK : s.n = K) : Calls Tryz.prog 19 #[.pointer (some ⟨L.p, 0, none⟩)] w fun e w' => e = .returned (.int .i64 K) ∧ w' = w := by
  subst hK; exact len_any h

theorem row_more {w : World} {B K q : Nat} {f : Nat → Int} (h : w.rowIs B 35 K (fun i => .int .u64 (if i < q then f i else 0))) (_ : q < K) : (w.setCell ⟨B, q, none⟩ (.int .u64 (f q))).rowIs B 35 K (fun i => .int .u64 (if i < q + 1 then f i else 0)) :=
  (h.set q _).congr fun j _ => by
    by_cases e : j = q
    · subst e; simp
    · by_cases h1 : j < q
      · simp [e, h1, show j < q + 1 by omega]
      · simp [e, h1, show ¬ j < q + 1 by omega]
theorem row_all {w : World} {B K : Nat} {f : Nat → Int} (h : w.rowIs B 35 K (fun i => .int .u64 (if i < K then f i else 0))) : w.rowIs B 35 K (fun i => .int .u64 (f i)) :=
  h.congr fun j hj => by simp [hj]

set_option maxRecDepth 20000 in
set_option maxHeartbeats 4000000 in
theorem accessForged_any (ao : Option Addr) (N cap : Nat) (z : Nat → Int) (A : Wt) (own : Bool) (w : World) (hr : IntsAt .i64 w ao N z) (hA : WantFit A) :
    Calls Tryz.prog 6 #[.slice ao N cap, .agg #[.int .i64 A.kd, .int .u64 A.nu, .int .i64 A.ix, .int .i64 A.vl, .int .i64 A.ol], .bool own] w fun e w' => e = .returned (.bool true) ∧ Below w.heap.size w w' := by
  have HR : Hid (IntsAt .i64 w ao N z) := hr
  clear hr
  obtain ⟨kd, hkd, hk3, e1, e2⟩ := kind3 A.kd
  obtain ⟨y1, hy1, v1⟩ := value_any A.vl
  obtain ⟨y2, hy2, v2⟩ := value_any A.ol
  have HNU : Hid (Wd A.nu) := hA.2.1
  have HK3 : Hid (kd = 1 ∨ kd = 2 ∨ kd = 3) := hk3
  have HY1 : Hid (0 ≤ y1 ∧ y1 ≤ 1099511627775) := hy1
  have V1 : Hid (∀ w : World, Calls Tryz.prog 12 #[.int .i64 A.vl] w fun e w' => e = .returned (.int .i64 y1) ∧ w' = w) := v1
  have V2 : Hid (∀ w : World, Calls Tryz.prog 12 #[.int .i64 A.ol] w fun e w' => e = .returned (.int .i64 y2) ∧ w' = w) := v2
  clear hA hk3 hy1 hy2 v1 v2
  have hG : Good 1 8 4 40 100 600 3 := goodp (by omega) (by omega) (by omega) (by omega)
  have AR := fun w => arena08 hG (by omega) w
  have hfe : ∀ (a b c d : Value) (w : World), (Instr.field 37 (.agg #[a, b, c, d]) 0).run Tryz.prog w = .ok a w := fun a b c d w => by kernel_rfl
  have x0 := wt_new w A
  go_enter Tryz.func6, Tryz.ntmps6
  go_wp2_with (first
    | (go_at_call 9; refine (AR _).mono ?_; rintro e w1 ⟨L, s, rfl, m1, t1, b1, l1⟩; have l2 : ∀ k, L.has k → w.heap.size + 1 ≤ k := (fun k hk => by have := l1 k hk; rwa [Go.Deep.nblk_alloc] at this); have hlt : w.heap.size < w1.heap.size := (by have := b1.size; rw [Go.Deep.nblk_alloc] at this; omega); obtain ⟨c1, pa⟩ := Farm.first (w0 := w) hG m1 t1 (grow (grow1 _ _) b1) (fun k hk => by have := l2 k hk; omega))
    | (go_at_call 10; refine (awake10_any _).mono ?_; rintro e w2 ⟨rfl, b2⟩; have c2 := c1.grown b2; have x2 := ((x0.grown b1).grown (grow1 _ _)).grown b2))
  obtain ⟨E, hE⟩ : ∃ E, w1.heap.size = E := ⟨_, rfl⟩
  rw [hE] at c2 pa hlt ⊢
  have FA : Hid (FarmApart w L E 1 8 4 40 100) := pa
  have HXL : Hid (¬ L.has w.heap.size) := fun hh => by have := l2 _ hh; omega
  have HXE : Hid (E ≠ w.heap.size) := by unfold Hid; omega
  have A3 : Hid (Farm w w2 L E 1 8 4 40 100 s 17 (Q.new 8) 0 (fun _ => 1) [] ∧ WtAt w2 w.heap.size A) := ⟨c2, x2⟩
  clear c1 c2 pa b2 m1 t1 b1 l1 l2 hlt AR hE x0 x2
  go_loopw [9] (fun i wr => ∃ (r : Nat) (s' : Mm) (σ : Nat) (q : Q) (nx : Nat) (ls : List Ox), i = .int .i64 r ∧ r ≤ 6 ∧ σ ≤ 17 + 100 * r ∧ Farm w wr L E 1 8 4 40 100 s' σ q nx (fun _ => 1) ls ∧ Cover 8 q ls ∧ (∀ o ∈ ls, ¬ (packH o.x o.g = A.nu ∧ o.own = own)) ∧ WtAt wr w.heap.size A) (fun i _ => 6 - (intOf i).toNat)
  case atStart => exact ⟨0, s, 17, Q.new 8, 0, [], rfl, by omega, by omega, A3.out.1, cover0 8, (fun o h => by cases h), A3.out.2⟩
  case round =>
    clear A3
    obtain ⟨r, s', σ, q, nx, ls, rfl, hr6, hσ, c, cov, non, wt⟩ := hrel
    by_cases hrN : r < N
    · have hrN' : (r : Int) < (N : Int) := by omega
      by_cases hr6' : r < 6
      · have hr6'' : (r : Int) < 6 := by omega
        obtain ⟨zb, zo, rfl, hk2⟩ := HR.out r hrN
        have hzb : zb < w.heap.size := World.block_lt_of_cell? w _ hk2
        have hzL : Hid (¬ L.has zb) := fun hh => by have := FA.out.l0 _ hh; omega
        obtain ⟨Z, hZ, z1, z2⟩ := size15 (z r)
        have HZ : Hid ((1 : Int) + bits .and .i64 (z r) 15 = (Z : Int)) := hZ
        obtain ⟨ob, hob⟩ : ∃ ob, ((z r).tmod 2 == 0) = ob := ⟨_, rfl⟩
        have HOB : Hid (((z r).tmod 2 == 0) = ob) := hob
        obtain ⟨E0, H0, q', nx', ls', hnx, lot, mk⟩ := c.lot (own := ob) FA.out z1 z2 (by omega)
        have HMK : Hid (∀ w1 : World, Farm w w1 L E 1 8 4 40 100 s' σ q nx (fun _ => 1) ls →
          Calls Tryz.prog 11 #[.agg #[.int .i64 1, .int .i64 8, .int .i64 4, .int .i64 40, .int .i64 100, .int .i64 600, .int .i64 3, .pointer (some ⟨L.p, 0, none⟩), .int .i64 0], .int .i64 Z, .bool ob] w1 fun e w' => ∃ (st : Nat) (s'' : Mm) (σ' : Nat), e = .returned (.agg #[.int .i64 E0, .int .u64 H0, .int .i64 0, .int .i64 st]) ∧ σ' ≤ σ + 100 ∧ Farm w w' L E 1 8 4 40 100 s'' σ' q' nx' (fun _ => 1) ls' ∧ Only L.has w1 w') := mk
        have HLt : Hid (Lot (fun _ => 1) ob Z q ls E0 H0 q' ls') := lot
        have COV' : Hid (Cover 8 q' ls') := lot.cover cov
        have NON : Hid (∀ o ∈ ls, ¬ (packH o.x o.g = A.nu ∧ o.own = own)) := non
        have hc2 := keep' c.b hk2
        clear mk lot cov non hZ hob
        go_wp2
        refine wp_over (fun W => Farm w W L E 1 8 4 40 100 s' σ q nx (fun _ => 1) ls ∧ W.cell? ⟨zb, zo + r, none⟩ = some (.int .i64 (z r)) ∧ WtAt W w.heap.size A) ⟨c, hc2, wt⟩ ?_
        clear c hc2 hk2 wt
        rintro W ⟨c, hz2, wt⟩
        obtain ⟨Sz, hSz⟩ : ∃ Sz, W.heap.size = Sz := ⟨_, rfl⟩
        have hLS : ∀ i, L.has i → i < Sz := fun i hi => by have := c.mm.lt i hi; omega
        have hLE := FA.out.e
        refine wp_region_phase_tail (Only L.has) Grown (phLot w L E 1 8 4 40 100 s' σ q nx (fun _ => 1) ls q' nx' ls') 15 [13] [.val (.agg #[.int .i64 1, .int .i64 8, .int .i64 4, .int .i64 40, .int .i64 100, .int .i64 600, .int .i64 3, .pointer (some ⟨L.p, 0, none⟩), .int .i64 0]), .val (.slice (some ⟨zb, zo, none⟩) N cap), .val (.int .i64 r), .val (.pointer (some ⟨zb, zo + r, none⟩)), .val (.int .i64 (z r)), .val (.int .i64 (bits .and .i64 (z r) 15)), .val (.int .i64 Z), .val (.slice (some ⟨zb, zo, none⟩) N cap), .val (.int .i64 r), .val (.pointer (some ⟨zb, zo + r, none⟩)), .val (.int .i64 (z r)), .val (.int .i64 ((z r).tmod 2)), .val (.bool ob), .that (fun _ v => ∃ st : Nat, v = .agg #[.int .i64 E0, .int .u64 H0, .int .i64 0, .int .i64 st]) (fun _ _ _ _ h => h), .that (fun w' v => ∃ X, v = .pointer (some ⟨X, 0, none⟩) ∧ Sz ≤ X ∧ At w' X 0 37 #[.int .i64 0, .int .u64 0, .int .i64 0, .int .i64 0] [.int .i64 0, .int .u64 0, .int .i64 0, .int .i64 0]) ?_]
          (by kernel_rfl) (Only.refl _) (fun _ _ _ h k => h.trans k) (fun x y h => Only.ofGrown h) (phLot_grown w L E 1 8 4 40 100 s' σ q nx (fun _ => 1) ls q' nx' ls') c.drew (by decide) (by kernel_rfl) (by kernel_rfl) (by kernel_rfl) (by kernel_rfl) (by kernel_rfl) (by kernel_rfl) (by kernel_rfl) (by kernel_rfl) ?_
        · rintro x1 y1 v hg ⟨X, hv, hb, hr⟩
          exact ⟨X, hv, hb, hr.only hg (fun hh => by have := hLS _ hh; omega)⟩
        simp only [List.take_succ_cons, List.take_zero, phaseAll, Act.put, List.setIfInBounds_toArray, List.set_cons_zero, List.set_cons_succ]
        refine ⟨?_, ?_, ?_, ?_, ?_, ?_, ?_, ?_, ?_, ?_, ?_, ?_, ?_, ?_, ?_⟩
        · intro w' hR _
          refine Or.inl ⟨rfl, ?_⟩
          have vv := (c.v.grown ((Below.refl _ _).drew)).only hR hLE
          have y0 := vv.c0
          have y1 := vv.c1
          have y2 := vv.c2
          have y3 := vv.c3
          have y4 := vv.c4
          have y5 := vv.c5
          have y6 := vv.c6
          have y7 := vv.c7
          have y8 := vv.c8
          go_simp
          exact ⟨Grown.refl _, rfl⟩
        · intro w' hR _
          refine Or.inl ⟨rfl, ?_⟩
          go_simp
          exact ⟨Grown.refl _, rfl⟩
        · intro w' hR _
          refine Or.inl ⟨rfl, ?_⟩
          go_simp
          exact ⟨Grown.refl _, rfl⟩
        · intro w' hR _
          refine Or.inl ⟨rfl, ?_⟩
          have hb : (0 : Int) ≤ (r : Int) := by omega
          go_simp
          exact ⟨Grown.refl _, rfl⟩
        · intro w' hR _
          refine Or.inl ⟨rfl, ?_⟩
          have q0 := hR.keep (b := zb) (o := zo + r) (v := .int .i64 (z r)) hzL.out hz2
          go_simp
          exact ⟨Grown.refl _, rfl⟩
        · intro w' hR _
          refine Or.inl ⟨rfl, ?_⟩
          go_simp
          exact ⟨Grown.refl _, rfl⟩
        · intro w' hR _
          refine Or.inl ⟨rfl, ?_⟩
          go_simp
          exact ⟨Grown.refl _, congrArg (Value.int .i64) (by rw [HZ.out, IntKind.wrap_i64]; omega)⟩
        · intro w' hR _
          refine Or.inl ⟨rfl, ?_⟩
          go_simp
          exact ⟨Grown.refl _, rfl⟩
        · intro w' hR _
          refine Or.inl ⟨rfl, ?_⟩
          go_simp
          exact ⟨Grown.refl _, rfl⟩
        · intro w' hR _
          refine Or.inl ⟨rfl, ?_⟩
          have hb : (0 : Int) ≤ (r : Int) := by omega
          go_simp
          exact ⟨Grown.refl _, rfl⟩
        · intro w' hR _
          refine Or.inl ⟨rfl, ?_⟩
          have q0 := hR.keep (b := zb) (o := zo + r) (v := .int .i64 (z r)) hzL.out hz2
          go_simp
          exact ⟨Grown.refl _, rfl⟩
        · intro w' hR _
          refine Or.inl ⟨rfl, ?_⟩
          go_simp
          exact ⟨Grown.refl _, rfl⟩
        · intro w' hR _
          refine Or.inl ⟨rfl, ?_⟩
          go_simp
          refine ⟨Grown.refl _, congrArg Value.bool ?_⟩
          first
            | exact HOB.out
            | (rw [← HOB.out]; rfl)
            | (rw [← HOB.out]; simp)
        · intro w' hR _ hP
          refine Or.inl ⟨rfl, ?_⟩
          have hP' : Farm w w' L E 1 8 4 40 100 s' σ q nx (fun _ => 1) ls := hP
          go_simp
          refine (HMK.out w' hP').mono ?_
          rintro e w'' ⟨st, s', σ', rfl, h1, h2, h3⟩
          exact ⟨_, rfl, ⟨h3, s', σ', h1, h2⟩, st, rfl⟩
        intro vD
        refine ⟨?_, ?_⟩
        · intro w' hR _
          refine Or.inl ⟨rfl, ?_⟩
          have hzz : Sz ≤ w'.heap.size := by have := hR.size; have e : W.drew.heap.size = W.heap.size := rfl; omega
          have qq := At.new w' 37 [.int .i64 0, .int .u64 0, .int .i64 0, .int .i64 0]
          go_simp
          exact ⟨grow_alloc (Below.refl _ _) _, _, rfl, hzz, qq⟩
        intro vX w8 hR hP hf
        obtain ⟨D, rfl, hDS, d8⟩ := hf.1
        obtain ⟨st, rfl⟩ := hf.2.1
        obtain ⟨s6, σ6, hσ6, c8⟩ : ∃ s' σ', σ' ≤ σ + 100 ∧ Farm w w8 L E 1 8 4 40 100 s' σ' q' nx' (fun _ => 1) ls' := hP
        have hz8 := hR.keep (b := zb) (o := zo + r) (v := .int .i64 (z r)) hzL.out (keep' ((Below.refl _ _).drew) hz2)
        have hLD : ¬ L.has D := fun hh => by have := hLS _ hh; omega
        have hED : E ≠ D := by have := c.ltE; omega
        have hwD : w.heap.size ≤ D := by have := c.b.size; omega
        have hxD : w.heap.size ≠ D := by have := wt.lt; omega
        have hzD : zb ≠ D := by omega
        have x0 := d8.at0 0 rfl
        have x1 := d8.at0 1 rfl
        have x2 := d8.at0 2 rfl
        have x3 := d8.at0 3 rfl
        have xf := d8.fz
        have c9 := (((c8.setIn hwD hED hLD 0 (.int .i64 E0)).setIn hwD hED hLD 1 (.int .u64 H0)).setIn hwD hED hLD 2 (.int .i64 0)).setIn hwD hED hLD 3 (.int .i64 st)
        have d9 := (((d8.put0 0 (.int .i64 E0)).put0 1 (.int .u64 H0)).put0 2 (.int .i64 0)).put0 3 (.int .i64 st)
        have wt9 := ((((wt.drew.only hR HXL.out).other hxD 0 (.int .i64 E0)).other hxD 1 (.int .u64 H0)).other hxD 2 (.int .i64 0)).other hxD 3 (.int .i64 st)
        have hz9 := cell_other (i := 3) (v := .int .i64 st) (cell_other (i := 2) (v := .int .i64 0) (cell_other (i := 1) (v := .int .u64 H0) (cell_other (i := 0) (v := .int .i64 E0) hz8 hzD) hzD) hzD) hzD
        clear hz8 hR c hz2 hf c8 d8 hLS hSz hDS HMK wt
        have lot := HLt.out
        clear HLt
        have xn := wt9.c1
        have hob1 := HOB.out
        cases lot with
        | no E' hE q'' hF hs hd =>
          have dE := d9.at0 0 rfl
          have hE0 : (E0 == 0) = false := by rcases hE with rfl | rfl <;> rfl
          go_wp2
          go_roundw
          case rel => exact ⟨r + 1, s6, σ6, q', nx', ls, by go_num, by omega, by omega, c9, COV'.out, NON.out, wt9⟩
          case measure => simp [intOf]; omega
        | made o q'' hF hg ho hz =>
          have dE := d9.at0 0 rfl
          have dH := d9.at0 1 rfl
          obtain ⟨H1, hH1⟩ : ∃ H1, packH o.x o.g = H1 := ⟨_, rfl⟩
          have HH1 : Hid (packH o.x o.g = H1) := hH1
          rw [hH1] at dH c9 d9 hz9 wt9 xn ⊢
          by_cases hh : H1 = A.nu
          · have hh' : (H1 == A.nu) = true := by simp [hh]
            by_cases how : ob = own
            · have how' : (ob == own) = true := by simp [how]
              have B9 := c9.b
              clear hh how c9
              go_wp2
              go_ret
              exact ⟨rfl, B9⟩
            · have how' : (ob == own) = false := by simpa using how
              have HOW : Hid (¬ ob = own) := how
              clear how hh
              go_wp2
              go_roundw
              case rel =>
                refine ⟨r + 1, s6, σ6, q', nx', o :: ls, by go_num, by omega, by omega, c9, COV'.out, fun o' h' => ?_, wt9⟩
                rcases List.mem_cons.1 h' with rfl | h'
                · exact fun e => HOW.out (ho.symm.trans e.2)
                · exact NON.out o' h'
              case measure => simp [intOf]; omega
          · have hh' : (H1 == A.nu) = false := by simpa using hh
            have HNE : Hid (¬ H1 = A.nu) := hh
            clear hh
            go_wp2
            go_roundw
            case rel =>
              refine ⟨r + 1, s6, σ6, q', nx', o :: ls, by go_num, by omega, by omega, c9, COV'.out, fun o' h' => ?_, wt9⟩
              rcases List.mem_cons.1 h' with rfl | h'
              · exact fun e => HNE.out (HH1.out.symm.trans e.1)
              · exact NON.out o' h'
            case measure => simp [intOf]; omega
      · have hr6'' : ¬ (r : Int) < 6 := by omega
        have A5 : Hid (Farm w wr L E 1 8 4 40 100 s' σ q nx (fun _ => 1) ls) := c
        have W5 : Hid (WtAt wr w.heap.size A) := wt
        have COV : Hid (Cover 8 q ls) := cov
        have NON : Hid (∀ o ∈ ls, ¬ (packH o.x o.g = A.nu ∧ o.own = own)) := non
        have hσ5 : σ ≤ 900 := by omega
        have z7 := c.v.c7
        obtain ⟨K, hK⟩ : ∃ K, s'.n = K := ⟨_, rfl⟩
        have hKL : K ≤ 1048576 := by rw [← hK]; exact c.mm.len
        have hmk := run_make_row' (P := Tryz.prog) 32 35 (.int .u64 0) 8 Tryz.underlying32 Tryz.infoW35 rfl .i64 .i64 K (by omega) (by omega)
        clear c cov non hσ wt
        go_wp2_with (go_at_call 19; refine (len_is A5.out.mm K hK).mono ?_; rintro e w4 ⟨rfl, rfl⟩)
        obtain ⟨B, hB⟩ : ∃ B, B = w4.heap.size := ⟨_, rfl⟩
        have hrow := World.rowIs_made w4 (.int .u64 0) K 35
        have f4 := A5.out.alloc (.cells (madeCells #[.int .u64 0] K) 35)
        have wt4 := W5.out.grown (grow1 _ (.cells (madeCells #[.int .u64 0] K) 35))
        have hLB : Hid (¬ L.has B) := fun h => by have := A5.out.mm.lt B h; omega
        have hBw : Hid (w.heap.size ≤ B) := by unfold Hid; have := A5.out.b.size; omega
        have hBe : Hid (E ≠ B) := by unfold Hid; have := A5.out.ltE; omega
        have hBx : Hid (w.heap.size ≠ B) := by unfold Hid; have := W5.out.lt; omega
        have hK' : Hid (s'.n = K) := hK
        rw [← hB] at hrow ⊢
        have A4 : Hid (Farm w (w4.alloc (.cells (madeCells #[.int .u64 0] K) 35)) L E 1 8 4 40 100 s' σ q nx (fun _ => 1) ls ∧ (w4.alloc (.cells (madeCells #[.int .u64 0] K) 35)).rowIs B 35 K (fun i => .int .u64 (if i < 0 then s'.wd i else 0)) ∧ WtAt (w4.alloc (.cells (madeCells #[.int .u64 0] K) 35)) w.heap.size A) := ⟨f4, hrow, wt4⟩
        clear hB A5 W5 f4 hrow hK hmk z7 wt4 hr6 hr6' hr6'' hrN hrN'
        go_loopw [12] (fun j wr => ∃ (q0 : Nat), q0 ≤ K ∧ j = .int .i64 q0 ∧ Farm w wr L E 1 8 4 40 100 s' σ q nx (fun _ => 1) ls ∧ wr.rowIs B 35 K (fun i => .int .u64 (if i < q0 then s'.wd i else 0)) ∧ WtAt wr w.heap.size A) (fun j _ => K - (intOf j).toNat)
        case atStart => exact ⟨0, Nat.zero_le _, rfl, A4.out⟩
        case round =>
          clear A4
          obtain ⟨q0, hq, rfl, f, hrow, wt⟩ := hrel
          by_cases hqK : q0 < K
          · have hc := hrow.cell hqK
            have hf := hrow.frozen q0
            have hqK' : (q0 : Int) < (K : Int) := by omega
            have y7 := f.v.c7
            go_wp2_with (go_at_call 20; refine (peek_in f.mm _ (by rw [hK'.out]; exact hqK)).mono ?_; rintro e w5 ⟨rfl, rfl⟩)
            go_roundw
            case rel => exact ⟨q0 + 1, by omega, by go_num, f.setIn hBw.out hBe.out hLB.out _ _, row_more hrow hqK, wt.other hBx.out _ _⟩
            case measure => simp [intOf]; omega
          · have hqK' : ¬ (q0 : Int) < (K : Int) := by omega
            have hjj : q0 = K := by omega
            rw [hjj] at hrow
            have hrow := row_all hrow
            have HFX : Hid (Farm w wr L E 1 8 4 40 100 s' σ q nx (fun _ => 1) ls) := f
            have HR5 : Hid (wr.rowIs B 35 K (fun i => .int .u64 (s'.wd i))) := hrow
            clear hrow hjj hqK hq f
            go_wp2
            refine wp_over (fun W => Farm w W L E 1 8 4 40 100 s' σ q nx (fun _ => 1) ls ∧ W.rowIs B 35 K (fun i => .int .u64 (s'.wd i)) ∧ WtAt W w.heap.size A) ⟨HFX.out, HR5.out, wt⟩ ?_
            clear HFX HR5 wt
            rintro W ⟨f, hrow, wt⟩
            refine wp_region_phaseE (Only (fun b => b = w.heap.size)) Grown (phW w.heap.size [A, { A with kd := kd }, { A with kd := kd, vl := y1 }, { A with kd := kd, vl := y1, ol := y2 }]) [13, 15, 17] [1, 7, 10] [.val (.pointer (some ⟨w.heap.size, 0, none⟩)), .val (.int .i64 A.kd), .val (.int .i64 (A.kd.tmod 3)), .val (.int .i64 (A.kd.tmod 3 + 3)), .val (.int .i64 (A.kd.tmod 3 % 3)), .val (.int .i64 (kd)), .val (.pointer (some ⟨w.heap.size, 3, none⟩)), .val (.int .i64 A.vl), .val (.int .i64 y1), .val (.pointer (some ⟨w.heap.size, 4, none⟩)), .val (.int .i64 A.ol), .val (.int .i64 y2), .val (.pointer (some ⟨w.heap.size, 0, none⟩)), .that (fun _ _ => True) (fun _ _ _ _ _ => trivial), .val (.pointer (some ⟨w.heap.size, 3, none⟩)), .that (fun _ _ => True) (fun _ _ _ _ _ => trivial), .val (.pointer (some ⟨w.heap.size, 4, none⟩)), .that (fun _ _ => True) (fun _ _ _ _ _ => trivial)]
              (by kernel_rfl) (Only.refl _) (fun _ _ _ h k => h.trans k) (fun x y h => Only.ofGrown h) phW_grown ⟨_, rfl, wt.drew⟩ (by kernel_rfl) (by kernel_rfl) (by kernel_rfl) (by kernel_rfl) (by kernel_rfl) (by kernel_rfl) ?_
            simp only [phaseAllE, Act.put, List.setIfInBounds_toArray, List.set_cons_zero, List.set_cons_succ]
            refine ⟨?_, ?_, ?_, ?_, ?_, ?_, ?_, ?_, ?_, ?_, ?_, ?_, ?_, ?_, fun _ => ⟨?_, ?_, fun _ => ⟨?_, ?_, fun _ => ?_⟩⟩⟩
            · intro w' hR _ _
              refine Or.inl ⟨rfl, ?_⟩
              go_simp
              exact ⟨Grown.refl _, rfl⟩
            · intro w' hR _ hE
              refine Or.inl ⟨rfl, ?_⟩
              obtain ⟨A0, eA, wa⟩ := hE (by kernel_rfl)
              cases eA
              have z := wa.c0
              go_simp
              exact ⟨Grown.refl _, rfl⟩
            · intro w' hR _ _
              refine Or.inl ⟨rfl, ?_⟩
              go_simp
              exact ⟨Grown.refl _, rfl⟩
            · intro w' hR _ _
              refine Or.inl ⟨rfl, ?_⟩
              go_simp
              refine ⟨Grown.refl _, congrArg (Value.int .i64) ?_⟩
              first
                | rfl
                | omega
                | (rw [IntKind.wrap_i64]; omega)
                | (rw [Int.tmod_eq_emod_of_nonneg (by omega)]; omega)
            · intro w' hR _ _
              refine Or.inl ⟨rfl, ?_⟩
              go_simp
              refine ⟨Grown.refl _, congrArg (Value.int .i64) ?_⟩
              first
                | rfl
                | omega
                | (rw [IntKind.wrap_i64]; omega)
                | (rw [Int.tmod_eq_emod_of_nonneg (by omega)]; omega)
            · intro w' hR _ _
              refine Or.inl ⟨rfl, ?_⟩
              go_simp
              refine ⟨Grown.refl _, congrArg (Value.int .i64) ?_⟩
              first
                | rfl
                | omega
                | (rw [IntKind.wrap_i64]; omega)
                | (rw [Int.tmod_eq_emod_of_nonneg (by omega)]; omega)
            · intro w' hR _ _
              refine Or.inl ⟨rfl, ?_⟩
              go_simp
              exact ⟨Grown.refl _, rfl⟩
            · intro w' hR _ hE
              refine Or.inl ⟨rfl, ?_⟩
              obtain ⟨A0, eA, wa⟩ := hE (by kernel_rfl)
              cases eA
              have z := wa.c3
              go_simp
              exact ⟨Grown.refl _, rfl⟩
            · intro w' hR _ _
              refine Or.inl ⟨rfl, ?_⟩
              go_simp
              refine (V1.out _).mono ?_
              rintro e w'' ⟨rfl, rfl⟩
              exact ⟨_, rfl, Grown.refl _, rfl⟩
            · intro w' hR _ _
              refine Or.inl ⟨rfl, ?_⟩
              go_simp
              exact ⟨Grown.refl _, rfl⟩
            · intro w' hR _ hE
              refine Or.inl ⟨rfl, ?_⟩
              obtain ⟨A0, eA, wa⟩ := hE (by kernel_rfl)
              cases eA
              have z := wa.c4
              go_simp
              exact ⟨Grown.refl _, rfl⟩
            · intro w' hR _ _
              refine Or.inl ⟨rfl, ?_⟩
              go_simp
              refine (V2.out _).mono ?_
              rintro e w'' ⟨rfl, rfl⟩
              exact ⟨_, rfl, Grown.refl _, rfl⟩
            · intro w' hR _ _
              refine Or.inl ⟨rfl, ?_⟩
              go_simp
              exact ⟨Grown.refl _, rfl⟩
            · intro w' hR _ hP
              refine Or.inl ⟨rfl, ?_⟩
              obtain ⟨A0, eA, wa⟩ := hP
              cases eA
              have z0 := wa.c0
              have z1 := wa.fz
              go_simp
              exact ⟨⟨only_set _ _ _, _, rfl, wa.set0 _⟩, trivial⟩
            · intro w' hR _ _
              refine Or.inl ⟨rfl, ?_⟩
              go_simp
              exact ⟨Grown.refl _, rfl⟩
            · intro w' hR _ hP
              refine Or.inl ⟨rfl, ?_⟩
              obtain ⟨A0, eA, wa⟩ := hP
              cases eA
              have z0 := wa.c3
              have z1 := wa.fz
              go_simp
              exact ⟨⟨only_set _ _ _, _, rfl, wa.set3 _⟩, trivial⟩
            · intro w' hR _ _
              refine Or.inl ⟨rfl, ?_⟩
              go_simp
              exact ⟨Grown.refl _, rfl⟩
            · intro w' hR _ hP
              refine Or.inl ⟨rfl, ?_⟩
              obtain ⟨A0, eA, wa⟩ := hP
              cases eA
              have z0 := wa.c4
              have z1 := wa.fz
              go_simp
              exact ⟨⟨only_set _ _ _, _, rfl, wa.set4 _⟩, trivial⟩
            intro w9 hR hP _
            obtain ⟨A0, eA, wt⟩ := hP
            cases eA
            have f := f.drew.block hR (Nat.le_refl _) HXE.out HXL.out
            have hrow := (show W.drew.rowIs B 35 K (fun i => .int .u64 (s'.wd i)) from hrow.of_block rfl).of_block (hR.block _ hrow.lt (fun hh => hBx.out hh.symm))
            have CL := forged10 (W := { A with kd := kd, vl := y1, ol := y2 }) (own := own) HNU.out ⟨HK3.out, (show Fit y1 from ⟨by have := HY1.out; omega, by have := HY1.out; omega⟩)⟩ FA.out (by omega) COV.out NON.out f
            have HR5 : Hid (w9.rowIs B 35 K (fun i => .int .u64 (s'.wd i))) := hrow
            have z0 := f.v.c0
            have z1 := f.v.c1
            have z2 := f.v.c2
            have z3 := f.v.c3
            have z4 := f.v.c4
            have z5 := f.v.c5
            have z6 := f.v.c6
            have z7 := f.v.c7
            have z8 := f.v.c8
            have x0 := wt.c0
            have x1 := wt.c1
            have x2 := wt.c2
            have x3 := wt.c3
            have x4 := wt.c4
            clear hrow f wt hR COV NON
            go_wp2_with (go_at_call 13; refine CL.mono ?_; rintro e w5 ⟨st5, s5, rfl, m5, n5, wd5, v5, b5, o5⟩)
            obtain ⟨Db, hDb⟩ : ∃ Db, w5.heap.size = Db := ⟨_, rfl⟩
            have dn0 := At.new w5 37 [.int .i64 3, .int .u64 0, .int .i64 0, .int .i64 st5]
            have g5 := grow1 w5 (.cells #[.int .i64 3, .int .u64 0, .int .i64 0, .int .i64 st5] 37)
            rw [hDb] at dn0 ⊢
            have A6 : Hid (MemAt (w5.alloc (.cells #[.int .i64 3, .int .u64 0, .int .i64 0, .int .i64 st5] 37)) L s5 ∧ BoxV (w5.alloc (.cells #[.int .i64 3, .int .u64 0, .int .i64 0, .int .i64 st5] 37)) E 1 8 4 40 100 600 3 L.p 0 ∧ Below w.heap.size w (w5.alloc (.cells #[.int .i64 3, .int .u64 0, .int .i64 0, .int .i64 st5] 37)) ∧ (w5.alloc (.cells #[.int .i64 3, .int .u64 0, .int .i64 0, .int .i64 st5] 37)).rowIs B 35 K (fun i => .int .u64 (s'.wd i)) ∧ At (w5.alloc (.cells #[.int .i64 3, .int .u64 0, .int .i64 0, .int .i64 st5] 37)) Db 0 37 #[.int .i64 3, .int .u64 0, .int .i64 0, .int .i64 st5] [.int .i64 3, .int .u64 0, .int .i64 0, .int .i64 st5]) := ⟨m5.below g5, v5.grown g5, grow b5 g5, (HR5.out.of_block (o5.block _ HR5.out.lt hLB.out)).of_block (g5.block _ (HR5.out.of_block (o5.block _ HR5.out.lt hLB.out)).lt), dn0⟩
            have hn5 : Hid (s5.n = K) := by unfold Hid; rw [n5]; exact hK'.out
            have hw5 : Hid (s5.wd = s'.wd) := wd5
            clear hqK' CL HR5 m5 v5 b5 o5 n5 wd5 z0 z1 z2 z3 z4 z5 z6 z7 z8 x0 x1 x2 x3 x4 dn0 g5 hDb
            go_loopw [14] (fun j wr => ∃ (q0 : Nat), q0 ≤ K ∧ j = .int .i64 q0 ∧ MemAt wr L s5 ∧ BoxV wr E 1 8 4 40 100 600 3 L.p 0 ∧ Below w.heap.size w wr ∧ wr.rowIs B 35 K (fun i => .int .u64 (s'.wd i)) ∧ At wr Db 0 37 #[.int .i64 3, .int .u64 0, .int .i64 0, .int .i64 st5] [.int .i64 3, .int .u64 0, .int .i64 0, .int .i64 st5]) (fun j _ => K - (intOf j).toNat)
            case atStart => exact ⟨0, Nat.zero_le _, rfl, A6.out⟩
            case round =>
              clear A6
              obtain ⟨q0, hq, rfl, m5, v5, b5, hrow, dn⟩ := hrel
              by_cases hqK : q0 < K
              · have hqK' : (q0 : Int) < (K : Int) := by omega
                have hc := hrow.cell hqK
                have y7 := v5.c7
                have HW : Hid (s5.wd q0 = s'.wd q0) := congrFun hw5.out q0
                have HQ : Hid (q0 < s5.n) := by unfold Hid; rw [hn5.out]; exact hqK
                go_wp2
                go_quiet ((go_at_call 20; exact Calls.quiet_of_same (peek_is (m5.drewN _) q0 HQ.out (s'.wd q0) HW.out)))
                go_wp2
                go_roundw
                case rel => exact ⟨q0 + 1, by omega, by go_num, m5.drewN _, v5.grown (below_drewN (Below.refl _ _) _), below_drewN b5 _, hrow, dn.grown (below_drewN (Below.refl _ _) _)⟩
                case measure => simp [intOf]; omega
              · have hqK' : ¬ (q0 : Int) < (K : Int) := by omega
                have B9 := b5
                have d0 := dn.at0 0 rfl
                have d2 := dn.at0 2 rfl
                clear m5 v5 b5 hrow
                go_wp2
                go_ret
                exact ⟨rfl, B9⟩
    · have hrN' : ¬ (r : Int) < (N : Int) := by omega
      have A5 : Hid (Farm w wr L E 1 8 4 40 100 s' σ q nx (fun _ => 1) ls) := c
      have W5 : Hid (WtAt wr w.heap.size A) := wt
      have COV : Hid (Cover 8 q ls) := cov
      have NON : Hid (∀ o ∈ ls, ¬ (packH o.x o.g = A.nu ∧ o.own = own)) := non
      have hσ5 : σ ≤ 900 := by omega
      have z7 := c.v.c7
      obtain ⟨K, hK⟩ : ∃ K, s'.n = K := ⟨_, rfl⟩
      have hKL : K ≤ 1048576 := by rw [← hK]; exact c.mm.len
      have hmk := run_make_row' (P := Tryz.prog) 32 35 (.int .u64 0) 8 Tryz.underlying32 Tryz.infoW35 rfl .i64 .i64 K (by omega) (by omega)
      clear c cov non hσ wt
      go_wp2_with (go_at_call 19; refine (len_is A5.out.mm K hK).mono ?_; rintro e w4 ⟨rfl, rfl⟩)
      obtain ⟨B, hB⟩ : ∃ B, B = w4.heap.size := ⟨_, rfl⟩
      have hrow := World.rowIs_made w4 (.int .u64 0) K 35
      have f4 := A5.out.alloc (.cells (madeCells #[.int .u64 0] K) 35)
      have wt4 := W5.out.grown (grow1 _ (.cells (madeCells #[.int .u64 0] K) 35))
      have hLB : Hid (¬ L.has B) := fun h => by have := A5.out.mm.lt B h; omega
      have hBw : Hid (w.heap.size ≤ B) := by unfold Hid; have := A5.out.b.size; omega
      have hBe : Hid (E ≠ B) := by unfold Hid; have := A5.out.ltE; omega
      have hBx : Hid (w.heap.size ≠ B) := by unfold Hid; have := W5.out.lt; omega
      have hK' : Hid (s'.n = K) := hK
      rw [← hB] at hrow ⊢
      have A4 : Hid (Farm w (w4.alloc (.cells (madeCells #[.int .u64 0] K) 35)) L E 1 8 4 40 100 s' σ q nx (fun _ => 1) ls ∧ (w4.alloc (.cells (madeCells #[.int .u64 0] K) 35)).rowIs B 35 K (fun i => .int .u64 (if i < 0 then s'.wd i else 0)) ∧ WtAt (w4.alloc (.cells (madeCells #[.int .u64 0] K) 35)) w.heap.size A) := ⟨f4, hrow, wt4⟩
      clear hB A5 W5 f4 hrow hK hmk z7 wt4 hr6 hrN hrN'
      go_loopw [12] (fun j wr => ∃ (q0 : Nat), q0 ≤ K ∧ j = .int .i64 q0 ∧ Farm w wr L E 1 8 4 40 100 s' σ q nx (fun _ => 1) ls ∧ wr.rowIs B 35 K (fun i => .int .u64 (if i < q0 then s'.wd i else 0)) ∧ WtAt wr w.heap.size A) (fun j _ => K - (intOf j).toNat)
      case atStart => exact ⟨0, Nat.zero_le _, rfl, A4.out⟩
      case round =>
        clear A4
        obtain ⟨q0, hq, rfl, f, hrow, wt⟩ := hrel
        by_cases hqK : q0 < K
        · have hc := hrow.cell hqK
          have hf := hrow.frozen q0
          have hqK' : (q0 : Int) < (K : Int) := by omega
          have y7 := f.v.c7
          go_wp2_with (go_at_call 20; refine (peek_in f.mm _ (by rw [hK'.out]; exact hqK)).mono ?_; rintro e w5 ⟨rfl, rfl⟩)
          go_roundw
          case rel => exact ⟨q0 + 1, by omega, by go_num, f.setIn hBw.out hBe.out hLB.out _ _, row_more hrow hqK, wt.other hBx.out _ _⟩
          case measure => simp [intOf]; omega
        · have hqK' : ¬ (q0 : Int) < (K : Int) := by omega
          have hjj : q0 = K := by omega
          rw [hjj] at hrow
          have hrow := row_all hrow
          have HFX : Hid (Farm w wr L E 1 8 4 40 100 s' σ q nx (fun _ => 1) ls) := f
          have HR5 : Hid (wr.rowIs B 35 K (fun i => .int .u64 (s'.wd i))) := hrow
          clear hrow hjj hqK hq f
          go_wp2
          refine wp_over (fun W => Farm w W L E 1 8 4 40 100 s' σ q nx (fun _ => 1) ls ∧ W.rowIs B 35 K (fun i => .int .u64 (s'.wd i)) ∧ WtAt W w.heap.size A) ⟨HFX.out, HR5.out, wt⟩ ?_
          clear HFX HR5 wt
          rintro W ⟨f, hrow, wt⟩
          refine wp_region_phaseE (Only (fun b => b = w.heap.size)) Grown (phW w.heap.size [A, { A with kd := kd }, { A with kd := kd, vl := y1 }, { A with kd := kd, vl := y1, ol := y2 }]) [13, 15, 17] [1, 7, 10] [.val (.pointer (some ⟨w.heap.size, 0, none⟩)), .val (.int .i64 A.kd), .val (.int .i64 (A.kd.tmod 3)), .val (.int .i64 (A.kd.tmod 3 + 3)), .val (.int .i64 (A.kd.tmod 3 % 3)), .val (.int .i64 (kd)), .val (.pointer (some ⟨w.heap.size, 3, none⟩)), .val (.int .i64 A.vl), .val (.int .i64 y1), .val (.pointer (some ⟨w.heap.size, 4, none⟩)), .val (.int .i64 A.ol), .val (.int .i64 y2), .val (.pointer (some ⟨w.heap.size, 0, none⟩)), .that (fun _ _ => True) (fun _ _ _ _ _ => trivial), .val (.pointer (some ⟨w.heap.size, 3, none⟩)), .that (fun _ _ => True) (fun _ _ _ _ _ => trivial), .val (.pointer (some ⟨w.heap.size, 4, none⟩)), .that (fun _ _ => True) (fun _ _ _ _ _ => trivial)]
            (by kernel_rfl) (Only.refl _) (fun _ _ _ h k => h.trans k) (fun x y h => Only.ofGrown h) phW_grown ⟨_, rfl, wt.drew⟩ (by kernel_rfl) (by kernel_rfl) (by kernel_rfl) (by kernel_rfl) (by kernel_rfl) (by kernel_rfl) ?_
          simp only [phaseAllE, Act.put, List.setIfInBounds_toArray, List.set_cons_zero, List.set_cons_succ]
          refine ⟨?_, ?_, ?_, ?_, ?_, ?_, ?_, ?_, ?_, ?_, ?_, ?_, ?_, ?_, fun _ => ⟨?_, ?_, fun _ => ⟨?_, ?_, fun _ => ?_⟩⟩⟩
          · intro w' hR _ _
            refine Or.inl ⟨rfl, ?_⟩
            go_simp
            exact ⟨Grown.refl _, rfl⟩
          · intro w' hR _ hE
            refine Or.inl ⟨rfl, ?_⟩
            obtain ⟨A0, eA, wa⟩ := hE (by kernel_rfl)
            cases eA
            have z := wa.c0
            go_simp
            exact ⟨Grown.refl _, rfl⟩
          · intro w' hR _ _
            refine Or.inl ⟨rfl, ?_⟩
            go_simp
            exact ⟨Grown.refl _, rfl⟩
          · intro w' hR _ _
            refine Or.inl ⟨rfl, ?_⟩
            go_simp
            refine ⟨Grown.refl _, congrArg (Value.int .i64) ?_⟩
            first
              | rfl
              | omega
              | (rw [IntKind.wrap_i64]; omega)
              | (rw [Int.tmod_eq_emod_of_nonneg (by omega)]; omega)
          · intro w' hR _ _
            refine Or.inl ⟨rfl, ?_⟩
            go_simp
            refine ⟨Grown.refl _, congrArg (Value.int .i64) ?_⟩
            first
              | rfl
              | omega
              | (rw [IntKind.wrap_i64]; omega)
              | (rw [Int.tmod_eq_emod_of_nonneg (by omega)]; omega)
          · intro w' hR _ _
            refine Or.inl ⟨rfl, ?_⟩
            go_simp
            refine ⟨Grown.refl _, congrArg (Value.int .i64) ?_⟩
            first
              | rfl
              | omega
              | (rw [IntKind.wrap_i64]; omega)
              | (rw [Int.tmod_eq_emod_of_nonneg (by omega)]; omega)
          · intro w' hR _ _
            refine Or.inl ⟨rfl, ?_⟩
            go_simp
            exact ⟨Grown.refl _, rfl⟩
          · intro w' hR _ hE
            refine Or.inl ⟨rfl, ?_⟩
            obtain ⟨A0, eA, wa⟩ := hE (by kernel_rfl)
            cases eA
            have z := wa.c3
            go_simp
            exact ⟨Grown.refl _, rfl⟩
          · intro w' hR _ _
            refine Or.inl ⟨rfl, ?_⟩
            go_simp
            refine (V1.out _).mono ?_
            rintro e w'' ⟨rfl, rfl⟩
            exact ⟨_, rfl, Grown.refl _, rfl⟩
          · intro w' hR _ _
            refine Or.inl ⟨rfl, ?_⟩
            go_simp
            exact ⟨Grown.refl _, rfl⟩
          · intro w' hR _ hE
            refine Or.inl ⟨rfl, ?_⟩
            obtain ⟨A0, eA, wa⟩ := hE (by kernel_rfl)
            cases eA
            have z := wa.c4
            go_simp
            exact ⟨Grown.refl _, rfl⟩
          · intro w' hR _ _
            refine Or.inl ⟨rfl, ?_⟩
            go_simp
            refine (V2.out _).mono ?_
            rintro e w'' ⟨rfl, rfl⟩
            exact ⟨_, rfl, Grown.refl _, rfl⟩
          · intro w' hR _ _
            refine Or.inl ⟨rfl, ?_⟩
            go_simp
            exact ⟨Grown.refl _, rfl⟩
          · intro w' hR _ hP
            refine Or.inl ⟨rfl, ?_⟩
            obtain ⟨A0, eA, wa⟩ := hP
            cases eA
            have z0 := wa.c0
            have z1 := wa.fz
            go_simp
            exact ⟨⟨only_set _ _ _, _, rfl, wa.set0 _⟩, trivial⟩
          · intro w' hR _ _
            refine Or.inl ⟨rfl, ?_⟩
            go_simp
            exact ⟨Grown.refl _, rfl⟩
          · intro w' hR _ hP
            refine Or.inl ⟨rfl, ?_⟩
            obtain ⟨A0, eA, wa⟩ := hP
            cases eA
            have z0 := wa.c3
            have z1 := wa.fz
            go_simp
            exact ⟨⟨only_set _ _ _, _, rfl, wa.set3 _⟩, trivial⟩
          · intro w' hR _ _
            refine Or.inl ⟨rfl, ?_⟩
            go_simp
            exact ⟨Grown.refl _, rfl⟩
          · intro w' hR _ hP
            refine Or.inl ⟨rfl, ?_⟩
            obtain ⟨A0, eA, wa⟩ := hP
            cases eA
            have z0 := wa.c4
            have z1 := wa.fz
            go_simp
            exact ⟨⟨only_set _ _ _, _, rfl, wa.set4 _⟩, trivial⟩
          intro w9 hR hP _
          obtain ⟨A0, eA, wt⟩ := hP
          cases eA
          have f := f.drew.block hR (Nat.le_refl _) HXE.out HXL.out
          have hrow := (show W.drew.rowIs B 35 K (fun i => .int .u64 (s'.wd i)) from hrow.of_block rfl).of_block (hR.block _ hrow.lt (fun hh => hBx.out hh.symm))
          have CL := forged10 (W := { A with kd := kd, vl := y1, ol := y2 }) (own := own) HNU.out ⟨HK3.out, (show Fit y1 from ⟨by have := HY1.out; omega, by have := HY1.out; omega⟩)⟩ FA.out (by omega) COV.out NON.out f
          have HR5 : Hid (w9.rowIs B 35 K (fun i => .int .u64 (s'.wd i))) := hrow
          have z0 := f.v.c0
          have z1 := f.v.c1
          have z2 := f.v.c2
          have z3 := f.v.c3
          have z4 := f.v.c4
          have z5 := f.v.c5
          have z6 := f.v.c6
          have z7 := f.v.c7
          have z8 := f.v.c8
          have x0 := wt.c0
          have x1 := wt.c1
          have x2 := wt.c2
          have x3 := wt.c3
          have x4 := wt.c4
          clear hrow f wt hR COV NON
          go_wp2_with (go_at_call 13; refine CL.mono ?_; rintro e w5 ⟨st5, s5, rfl, m5, n5, wd5, v5, b5, o5⟩)
          obtain ⟨Db, hDb⟩ : ∃ Db, w5.heap.size = Db := ⟨_, rfl⟩
          have dn0 := At.new w5 37 [.int .i64 3, .int .u64 0, .int .i64 0, .int .i64 st5]
          have g5 := grow1 w5 (.cells #[.int .i64 3, .int .u64 0, .int .i64 0, .int .i64 st5] 37)
          rw [hDb] at dn0 ⊢
          have A6 : Hid (MemAt (w5.alloc (.cells #[.int .i64 3, .int .u64 0, .int .i64 0, .int .i64 st5] 37)) L s5 ∧ BoxV (w5.alloc (.cells #[.int .i64 3, .int .u64 0, .int .i64 0, .int .i64 st5] 37)) E 1 8 4 40 100 600 3 L.p 0 ∧ Below w.heap.size w (w5.alloc (.cells #[.int .i64 3, .int .u64 0, .int .i64 0, .int .i64 st5] 37)) ∧ (w5.alloc (.cells #[.int .i64 3, .int .u64 0, .int .i64 0, .int .i64 st5] 37)).rowIs B 35 K (fun i => .int .u64 (s'.wd i)) ∧ At (w5.alloc (.cells #[.int .i64 3, .int .u64 0, .int .i64 0, .int .i64 st5] 37)) Db 0 37 #[.int .i64 3, .int .u64 0, .int .i64 0, .int .i64 st5] [.int .i64 3, .int .u64 0, .int .i64 0, .int .i64 st5]) := ⟨m5.below g5, v5.grown g5, grow b5 g5, (HR5.out.of_block (o5.block _ HR5.out.lt hLB.out)).of_block (g5.block _ (HR5.out.of_block (o5.block _ HR5.out.lt hLB.out)).lt), dn0⟩
          have hn5 : Hid (s5.n = K) := by unfold Hid; rw [n5]; exact hK'.out
          have hw5 : Hid (s5.wd = s'.wd) := wd5
          clear hqK' CL HR5 m5 v5 b5 o5 n5 wd5 z0 z1 z2 z3 z4 z5 z6 z7 z8 x0 x1 x2 x3 x4 dn0 g5 hDb
          go_loopw [14] (fun j wr => ∃ (q0 : Nat), q0 ≤ K ∧ j = .int .i64 q0 ∧ MemAt wr L s5 ∧ BoxV wr E 1 8 4 40 100 600 3 L.p 0 ∧ Below w.heap.size w wr ∧ wr.rowIs B 35 K (fun i => .int .u64 (s'.wd i)) ∧ At wr Db 0 37 #[.int .i64 3, .int .u64 0, .int .i64 0, .int .i64 st5] [.int .i64 3, .int .u64 0, .int .i64 0, .int .i64 st5]) (fun j _ => K - (intOf j).toNat)
          case atStart => exact ⟨0, Nat.zero_le _, rfl, A6.out⟩
          case round =>
            clear A6
            obtain ⟨q0, hq, rfl, m5, v5, b5, hrow, dn⟩ := hrel
            by_cases hqK : q0 < K
            · have hqK' : (q0 : Int) < (K : Int) := by omega
              have hc := hrow.cell hqK
              have y7 := v5.c7
              have HW : Hid (s5.wd q0 = s'.wd q0) := congrFun hw5.out q0
              have HQ : Hid (q0 < s5.n) := by unfold Hid; rw [hn5.out]; exact hqK
              go_wp2
              go_quiet ((go_at_call 20; exact Calls.quiet_of_same (peek_is (m5.drewN _) q0 HQ.out (s'.wd q0) HW.out)))
              go_wp2
              go_roundw
              case rel => exact ⟨q0 + 1, by omega, by go_num, m5.drewN _, v5.grown (below_drewN (Below.refl _ _) _), below_drewN b5 _, hrow, dn.grown (below_drewN (Below.refl _ _) _)⟩
              case measure => simp [intOf]; omega
            · have hqK' : ¬ (q0 : Int) < (K : Int) := by omega
              have B9 := b5
              have d0 := dn.at0 0 rfl
              have d2 := dn.at0 2 rfl
              clear m5 v5 b5 hrow
              go_wp2
              go_ret
              exact ⟨rfl, B9⟩

end Go.Proofs.YtcdmokbamakomaaGreat
