/- AccessSteps answers true for all sizes and wants, and leaves what was in memory. -/
import Derived.Test.YtcdmokbamakomabGreatAccSolo
import Derived.Test.YtcdmokbamakomabGreatLayRef
import Derived.Test.YtcdmokbamakomabGreatDropActs
namespace Go.Proofs.YtcdmokbamakomabGreat
open Go.RowKit

theorem goodS : Good 1 4 4 20 100 600 3 := goodp (by omega) (by omega) (by omega) (by omega)

theorem ogrow10 {w a b : World} {S : Nat → Prop} (h : Below w.heap.size w a) (o : Only S a b) (hc : ∀ k, S k → w.heap.size ≤ k) : Below w.heap.size w b :=
  ⟨o.os.trans h.os, o.tape.trans h.tape, o.output.trans h.output, Nat.le_trans h.size o.size, fun k hk => (o.block k (Nat.lt_of_lt_of_le hk h.size) (fun hh => by have := hc k hh; omega)).trans (h.block k hk)⟩

theorem last_is {w : World} {L : Loc} {s : Mm} (h : MemAt w L s) (la lw : Int) (lc : Bool) (h1 : s.la = la) (h2 : s.lw = lw) (h3 : s.lc = lc) :
    Calls Tryz.prog 13 #[.pointer (some ⟨L.p, 0, none⟩)] w fun e w' => e = .returned (.agg #[.int .i64 la, .int .i64 lw, .bool lc]) ∧ Below w.heap.size w w' := by
  have k := last_any h
  rwa [h1, h2, h3] at k

/-- what a step comes to -/
def SStep (L : Loc) (Ab : Nat) (s' : Mm) (cs : Array Value) (u : CV) (W : Wt) (v : Int) (σ1 : Nat) (q' : Q) (α' : Ac) (d lc : Bool) : Prop := ∀ (w1 : World), MemAt w1 L s' → AcAt w1 Ab 0 62 cs u → Calls Tryz.prog 12 #[.pointer (some ⟨Ab, 0, none⟩), .agg #[.int .i64 1, .int .i64 4, .int .i64 4, .int .i64 20, .int .i64 100, .int .i64 600, .int .i64 3, .pointer (some ⟨L.p, 0, none⟩), .int .i64 0]] w1 fun e w' => e = .returned (.bool d) ∧ ∃ (s6 : Mm) (cs6 : Array Value) (u6 : CV) (la : Int), s6.la = la ∧ (lc = true → la = ((W.at v : Nat) : Int)) ∧ s6.lc = lc ∧ s6.steps = ((σ1 + 1 : Nat) : Int) ∧ MemAt w' L s6 ∧ Town 1 4 4 20 s6 (σ1 + 1) q' ∧ AcAt w' Ab 0 62 cs6 u6 ∧ AcIs W false α' u6 ∧ Only (L.and Ab) w1 w'

set_option maxRecDepth 20000 in
set_option maxHeartbeats 4000000 in
theorem accessSteps_any (size : Int) (ao : Option Addr) (N cap : Nat) (A : Nat → Wt) (w : World) (hr : WantsAt w ao N A) (hF : ∀ i, i < N → WantFit (A i)) :
    Calls Tryz.prog 3 #[.int .i64 size, .slice ao N cap] w fun e w' => e = .returned (.bool true) ∧ Below w.heap.size w w' := by
  have HR : Hid (WantsAt w ao N A) := hr
  have HF : Hid (∀ i, i < N → WantFit (A i)) := hF
  clear hr hF
  obtain ⟨Z, hZ, z1, z2⟩ := size15 size
  have AR := fun w => arena08 goodS (by omega) w
  have f1 : ∀ (a1 a2 a3 a4 : Value) (w : World), (Instr.field 34 (.agg #[a1, a2, a3, a4]) 1).run Tryz.prog w = .ok a2 w := fun a1 a2 a3 a4 w => by kernel_rfl
  go_enter Tryz.func3, Tryz.ntmps3
  go_wp2_with (first
    | (go_at_call 6; refine (AR _).mono ?_; rintro e w1 ⟨L, s, rfl, m1, t1, b1, l1⟩; obtain ⟨c1, pa⟩ := Farm.first goodS m1 t1 b1 l1; obtain ⟨q0, v, So, -, mk⟩ := fresh_make c1 pa z1 z2 (by decide) (by decide))
    | (go_at_call 7; refine (awake10_any _).mono ?_; rintro e w2 ⟨rfl, b2⟩; have c2 := c1.grown b2; have z0 := c2.v.c0; have z1 := c2.v.c1; have z2 := c2.v.c2; have z3 := c2.v.c3; have z4 := c2.v.c4; have z5 := c2.v.c5; have z6 := c2.v.c6; have z7 := c2.v.c7; have z8 := c2.v.c8)
    | (go_at_call 8; refine (mk _ c2).mono ?_; rintro e w3 ⟨st3, s3, σ3, rfl, h3, c3⟩))
  obtain ⟨E, hE⟩ : ∃ E, w1.heap.size = E := ⟨_, rfl⟩
  rw [hE] at c3 pa ⊢
  have FA : Hid (FarmApart w L E 1 4 4 20 100) := pa
  have S3 : Hid (Spt w w3 L E 1 4 4 20 s3 σ3 q0 ∧ Solo 1 4 4 20 0 1 Z 0 v q0) := ⟨c3, So⟩
  have hσ3 : σ3 ≤ 200 := by omega
  clear c1 c2 b2 z0 z1 z2 z3 z4 z5 z6 z7 z8 m1 t1 b1 l1 AR hE c3 pa So mk h3 hZ
  go_loopw [8] (fun iv wr => ∃ (r : Nat) (s' : Mm) (σ : Nat) (q : Q), iv = .int .i64 r ∧ r ≤ 30 ∧ σ ≤ 200 + 20 * r ∧ Spt w wr L E 1 4 4 20 s' σ q ∧ Solo 1 4 4 20 0 1 Z 0 v q) (fun iv _ => 30 - (intOf iv).toNat)
  case atStart => exact ⟨0, s3, σ3, q0, rfl, by omega, by omega, S3.out⟩
  case round =>
    clear S3 hσ3
    obtain ⟨r, s', σ, q, rfl, hr3, hσ, B, So⟩ := hrel
    by_cases hrN : r < N
    · have hrN' : (r : Int) < (N : Int) := by omega
      by_cases hr : r < 30
      · have hr' : (r : Int) < 30 := by omega
        obtain ⟨zb, zo, rfl, hk0, hk1, hk2, hk3, hk4⟩ := HR.out r hrN
        obtain ⟨fk, fn, fi, fv, fo⟩ := HF.out r hrN
        obtain ⟨AA, hAA⟩ : ∃ AA, A r = AA := ⟨_, rfl⟩
        rw [hAA] at hk0 hk1 hk2 hk3 hk4 fk fn fi fv fo
        have c0 := keep' B.b hk0
        have c1 := keep' B.b hk1
        have c2 := keep' B.b hk2
        have c3 := keep' B.b hk3
        have c4 := keep' B.b hk4
        obtain ⟨kd, hkd, hk3', e1, e2⟩ := kind3 AA.kd
        obtain ⟨y1, hy1, v1⟩ := value_any AA.vl
        obtain ⟨y2, hy2, v2⟩ := value_any AA.ol
        have HK3 : Hid (kd = 1 ∨ kd = 2 ∨ kd = 3) := hk3'
        have HY1 : Hid (0 ≤ y1 ∧ y1 ≤ 1099511627775) := hy1
        have V1 : Hid (∀ w : World, Calls Tryz.prog 9 #[.int .i64 AA.vl] w fun e w' => e = .returned (.int .i64 y1) ∧ w' = w) := v1
        have V2 : Hid (∀ w : World, Calls Tryz.prog 9 #[.int .i64 AA.ol] w fun e w' => e = .returned (.int .i64 y2) ∧ w' = w) := v2
        have HSO : Hid (Solo 1 4 4 20 0 1 Z 0 v q) := So
        clear hk3' hy1 hy2 v1 v2 hk0 hk1 hk2 hk3 hk4 hAA So fk fn fi fv fo
        have wt0 := wt_new wr AA
        have B0 := B.grown (grow1 _ (.cells #[.int .i64 AA.kd, .int .u64 AA.nu, .int .i64 AA.ix, .int .i64 AA.vl, .int .i64 AA.ol] 37))
        obtain ⟨X, hX⟩ : ∃ X, wr.heap.size = X := ⟨_, rfl⟩
        have HXL : Hid (¬ L.has X) := fun h => by have := B.mm.lt _ h; omega
        have HXE : Hid (E ≠ X) := by unfold Hid; have := B.ltE; omega
        have HXW : Hid (w.heap.size ≤ X) := by unfold Hid; have := B.b.size; omega
        rw [hX] at wt0
        clear B
        go_wp2
        try rw [hX]
        refine wp_over (fun W => Spt w W L E 1 4 4 20 s' σ q ∧ WtAt W X AA) ⟨B0, wt0⟩ ?_
        clear B0 wt0 hX c0 c1 c2 c3 c4
        rintro W ⟨B, wt⟩
        refine wp_region_phaseE (Only (fun b => b = X)) Grown (phW X [AA, { AA with nu := 65536 }, { AA with nu := 65536, kd := kd }, { AA with nu := 65536, kd := kd, vl := y1 }, (⟨kd, 65536, AA.ix, y1, y2⟩ : Wt)]) [14, 16, 18, 20] [2, 8, 11] [.val (.int .u64 65536), .val (.pointer (some ⟨X, 0, none⟩)), .val (.int .i64 AA.kd), .val (.int .i64 (AA.kd.tmod 3)), .val (.int .i64 (AA.kd.tmod 3 + 3)), .val (.int .i64 (AA.kd.tmod 3 % 3)), .val (.int .i64 (kd)), .val (.pointer (some ⟨X, 3, none⟩)), .val (.int .i64 AA.vl), .val (.int .i64 y1), .val (.pointer (some ⟨X, 4, none⟩)), .val (.int .i64 AA.ol), .val (.int .i64 y2), .val (.pointer (some ⟨X, 1, none⟩)), .that (fun _ _ => True) (fun _ _ _ _ _ => trivial), .val (.pointer (some ⟨X, 0, none⟩)), .that (fun _ _ => True) (fun _ _ _ _ _ => trivial), .val (.pointer (some ⟨X, 3, none⟩)), .that (fun _ _ => True) (fun _ _ _ _ _ => trivial), .val (.pointer (some ⟨X, 4, none⟩)), .that (fun _ _ => True) (fun _ _ _ _ _ => trivial)]
          (by kernel_rfl) (Only.refl _) (fun _ _ _ h k => h.trans k) (fun x y h => Only.ofGrown h) phW_grown ⟨_, rfl, wt.drew⟩ (by kernel_rfl) (by kernel_rfl) (by kernel_rfl) (by kernel_rfl) (by kernel_rfl) (by kernel_rfl) ?_
        simp only [phaseAllE, Act.put, List.setIfInBounds_toArray, List.set_cons_zero, List.set_cons_succ]
        refine ⟨?_, ?_, ?_, ?_, ?_, ?_, ?_, ?_, ?_, ?_, ?_, ?_, ?_, ?_, ?_, fun _ => ⟨?_, ?_, fun _ => ⟨?_, ?_, fun _ => ⟨?_, ?_, fun _ => ?_⟩⟩⟩⟩
        · intro w' hR _ _
          refine Or.inl ⟨rfl, ?_⟩
          go_simp
          exact ⟨Grown.refl _, rfl⟩
        · intro w' hR _ _
          refine Or.inl ⟨rfl, ?_⟩
          go_simp
          exact ⟨Grown.refl _, rfl⟩
        · intro w' hR _ hE
          refine Or.inl ⟨rfl, ?_⟩
          obtain ⟨A0, eA, wa⟩ := hE (by kernel_rfl)
          cases eA
          have z := wa.c0
          go_simp
          exact ⟨Grown.refl _, rfl⟩
        · intro w' hR _ _
          refine Or.inl ⟨rfl, ?_⟩
          go_simp
          exact ⟨Grown.refl _, rfl⟩
        · intro w' hR _ _
          refine Or.inl ⟨rfl, ?_⟩
          go_simp
          refine ⟨Grown.refl _, congrArg (Value.int .i64) ?_⟩
          first
            | rfl
            | omega
            | (rw [IntKind.wrap_i64]; omega)
            | exact (Int.tmod_eq_emod_of_nonneg (by omega)).trans (by omega)
        · intro w' hR _ _
          refine Or.inl ⟨rfl, ?_⟩
          go_simp
          refine ⟨Grown.refl _, congrArg (Value.int .i64) ?_⟩
          first
            | rfl
            | omega
            | (rw [IntKind.wrap_i64]; omega)
            | exact (Int.tmod_eq_emod_of_nonneg (by omega)).trans (by omega)
        · intro w' hR _ _
          refine Or.inl ⟨rfl, ?_⟩
          go_simp
          refine ⟨Grown.refl _, congrArg (Value.int .i64) ?_⟩
          first
            | rfl
            | omega
            | (rw [IntKind.wrap_i64]; omega)
            | exact (Int.tmod_eq_emod_of_nonneg (by omega)).trans (by omega)
        · intro w' hR _ _
          refine Or.inl ⟨rfl, ?_⟩
          go_simp
          exact ⟨Grown.refl _, rfl⟩
        · intro w' hR _ hE
          refine Or.inl ⟨rfl, ?_⟩
          obtain ⟨A0, eA, wa⟩ := hE (by kernel_rfl)
          cases eA
          have z := wa.c3
          go_simp
          exact ⟨Grown.refl _, rfl⟩
        · intro w' hR _ _
          refine Or.inl ⟨rfl, ?_⟩
          go_simp
          refine (V1.out _).mono ?_
          rintro e w'' ⟨rfl, rfl⟩
          exact ⟨_, rfl, Grown.refl _, rfl⟩
        · intro w' hR _ _
          refine Or.inl ⟨rfl, ?_⟩
          go_simp
          exact ⟨Grown.refl _, rfl⟩
        · intro w' hR _ hE
          refine Or.inl ⟨rfl, ?_⟩
          obtain ⟨A0, eA, wa⟩ := hE (by kernel_rfl)
          cases eA
          have z := wa.c4
          go_simp
          exact ⟨Grown.refl _, rfl⟩
        · intro w' hR _ _
          refine Or.inl ⟨rfl, ?_⟩
          go_simp
          refine (V2.out _).mono ?_
          rintro e w'' ⟨rfl, rfl⟩
          exact ⟨_, rfl, Grown.refl _, rfl⟩
        · intro w' hR _ _
          refine Or.inl ⟨rfl, ?_⟩
          go_simp
          exact ⟨Grown.refl _, rfl⟩
        · intro w' hR _ hP
          refine Or.inl ⟨rfl, ?_⟩
          obtain ⟨A0, eA, wa⟩ := hP
          cases eA
          have z0 := wa.c1
          have z1 := wa.fz
          go_simp
          exact ⟨⟨only_set _ _ _, _, rfl, wa.set1 _⟩, trivial⟩
        · intro w' hR _ _
          refine Or.inl ⟨rfl, ?_⟩
          go_simp
          exact ⟨Grown.refl _, rfl⟩
        · intro w' hR _ hP
          refine Or.inl ⟨rfl, ?_⟩
          obtain ⟨A0, eA, wa⟩ := hP
          cases eA
          have z0 := wa.c0
          have z1 := wa.fz
          go_simp
          exact ⟨⟨only_set _ _ _, _, rfl, wa.set0 _⟩, trivial⟩
        · intro w' hR _ _
          refine Or.inl ⟨rfl, ?_⟩
          go_simp
          exact ⟨Grown.refl _, rfl⟩
        · intro w' hR _ hP
          refine Or.inl ⟨rfl, ?_⟩
          obtain ⟨A0, eA, wa⟩ := hP
          cases eA
          have z0 := wa.c3
          have z1 := wa.fz
          go_simp
          exact ⟨⟨only_set _ _ _, _, rfl, wa.set3 _⟩, trivial⟩
        · intro w' hR _ _
          refine Or.inl ⟨rfl, ?_⟩
          go_simp
          exact ⟨Grown.refl _, rfl⟩
        · intro w' hR _ hP
          refine Or.inl ⟨rfl, ?_⟩
          obtain ⟨A0, eA, wa⟩ := hP
          cases eA
          have z0 := wa.c4
          have z1 := wa.fz
          go_simp
          exact ⟨⟨only_set _ _ _, _, rfl, wa.set4 _⟩, trivial⟩
        intro w9 hR hP _
        obtain ⟨A0, eA, wt⟩ := hP
        cases eA
        have B := B.drew.block hR HXW.out HXE.out HXL.out
        obtain ⟨W, hW⟩ : ∃ W : Wt, W = ⟨kd, 65536, AA.ix, y1, y2⟩ := ⟨_, rfl⟩
        have HWO : Hid W.ok := by unfold Hid; rw [hW]; exact ⟨HK3.out, ⟨by show -9223372036854775808 ≤ y1; have := HY1.out; omega, by show y1 ≤ 9223372036854775807; have := HY1.out; omega⟩⟩
        have HWN : Hid (W.nu = 65536) := by unfold Hid; rw [hW]
        have HWV : Hid (0 ≤ W.vl ∧ W.vl ≤ 1099511627775) := by unfold Hid; rw [hW]; exact HY1.out
        have wt : WtAt w9 X W := by rw [hW]; exact wt
        have x0 := wt.c0
        have x1 := wt.c1
        have x2 := wt.c2
        have x3 := wt.c3
        have x4 := wt.c4
        have HKD : Hid (W.kd = 1 ∨ W.kd = 2 ∨ W.kd = 3) := HWO.out.k
        clear hR hW
        go_wp2_with (go_at_call 10; refine (newAcc_any W.kd W.nu W.ix W.vl W.ol false _).mono ?_; rintro e w10 ⟨W1, rfl, rfl, g1⟩)
        obtain ⟨cs0, ac0⟩ := acc0_at W.kd W.nu W.ix W.vl W.ol false W1
        obtain ⟨Ab, hAb⟩ : ∃ Ab, W1.heap.size = Ab := ⟨_, rfl⟩
        have gg := grow_alloc g1 (acc0 W.kd W.nu W.ix W.vl W.ol false)
        have HBL : Hid (¬ L.has Ab) := fun h => by have := B.mm.lt _ h; have := g1.size; omega
        have HEB : Hid (¬ E = Ab) := by unfold Hid; have := B.ltE; have := g1.size; omega
        have HXB : Hid (¬ X = Ab) := by unfold Hid; have := wt.lt; have := g1.size; omega
        have HB0 : Hid (w.heap.size ≤ Ab) := by unfold Hid; have := B.b.size; have := g1.size; omega
        rw [hAb] at ac0 ⊢
        have A5 : Hid (Spt w (W1.alloc (acc0 W.kd W.nu W.ix W.vl W.ol false)) L E 1 4 4 20 s' σ q ∧ WtAt (W1.alloc (acc0 W.kd W.nu W.ix W.vl W.ol false)) X W ∧ AcAt (W1.alloc (acc0 W.kd W.nu W.ix W.vl W.ol false)) Ab 0 62 cs0 (cv0 W.kd W.nu W.ix W.vl W.ol false)) := ⟨B.grown gg, wt.grown gg, ac0⟩
        clear B wt ac0 gg g1 hAb x0 x1 x2 x3 x4
        go_loopw [11, 12] (fun cv kv wr => ∃ (k1 : Nat) (s' : Mm) (σ1 : Nat) (q : Q) (α : Ac) (cs : Array Value) (u : CV), cv = .int .i64 0 ∧ kv = .int .i64 k1 ∧ σ1 = σ + k1 ∧ k1 + rk3 α ≤ 4 ∧ α.over? = false ∧ AcZ W v Z q α ∧ AcIs W false α u ∧ Solo 1 4 4 20 0 1 Z 0 v q ∧ Spt w wr L E 1 4 4 20 s' σ1 q ∧ WtAt wr X W ∧ AcAt wr Ab 0 62 cs u) (fun _ kv _ => 20 - (intOf kv).toNat)
        case atStart => exact ⟨0, s', σ, q, .see, cs0, _, rfl, rfl, rfl, Nat.le_refl _, rfl, trivial, ac0_is W false, HSO.out, A5.out⟩
        case round =>
          clear A5 HSO
          obtain ⟨k1, s', σ1, q, α, cs, u, rfl, rfl, hσ1, hk4, ho, T, Is, So, B, wt, ac⟩ := hrel
          have hk20 : (k1 : Int) < 20 := by omega
          have hr1 := rk3_pos ho T
          obtain ⟨q', α', ht⟩ : ∃ q' α', acTurn W false 0 1 σ1 q α = (q', α') := ⟨_, _, rfl⟩
          obtain ⟨gd, So', T', rk', alt⟩ := solo_step So HWV.out T ho ht
          have ST := fun (w1 : World) (m1 : MemAt w1 L s') (a1 : AcAt w1 Ab 0 62 cs u) (d : Bool) (hd : α'.over? = d) => access_step (t := 1) (n := 4) (k := 4) (m := 20) m1 HBL.out B.tw goodS (by omega) So.sc.wd (by rw [HWN.out]; exact hand01) (by decide) HWO.out α a1 Is gd ho 0 q' α' ht d hd
          have hst1 : s'.steps = σ1 := B.tw.pile.st
          have HKK : Hid (0 ≤ W.ix ∧ W.ix < Z → ∀ w' : World, ∃ KI KX, Calls Tryz.prog 14 #[.agg #[.int .i64 1, .int .i64 4, .int .i64 4, .int .i64 20, .int .i64 100, .int .i64 600, .int .i64 3], .int .i64 ((W.at v : Nat) : Int)] w' fun e w'' => e = .returned (.tuple #[.int .i64 9, .int .i64 KI, .int .i64 KX]) ∧ Below w'.heap.size w' w'') := fun hx w' => by
            obtain ⟨I, X, hK⟩ := cell_kind (W := W) So.sc.o hx.1 hx.2
            have hin := So.sc.o.inn
            have hz2 := So.sc.o.z2
            refine ⟨I, X, rkind_is (m := 80) 100 600 3 w' goodS.arena (by omega) (by decide) (by omega) (by omega) ?_ hK⟩
            unfold Wt.at
            omega
          have HS1 : Hid (s'.steps = σ1) := hst1
          have HSO : Hid (Solo 1 4 4 20 0 1 Z 0 v q') := So'
          have HAC : Hid (AcZ W v Z q' α') := T'
          have HRK : Hid (α'.over? = false → rk3 α' + 1 ≤ rk3 α) := rk'
          have HAL : Hid (α.reads = true ∨ (α'.over? = true ∧ W.kd ≠ 1 ∧ 0 ≤ W.ix ∧ W.ix < Z ∧ α.at 1 0 W = W.at v)) := alt
          have bB := B.b
          have m0 := B.mm
          have v0 := B.v
          have z0 := B.v.c0
          have z1 := B.v.c1
          have z2 := B.v.c2
          have z3 := B.v.c3
          have z4 := B.v.c4
          have z5 := B.v.c5
          have z6 := B.v.c6
          have z7 := B.v.c7
          have z8 := B.v.c8
          clear So So' T T' rk' alt gd Is ht B hst1
          have key : ∀ (d : Bool), α'.over? = d → ∃ (lc : Bool), (lc = true → W.kd ≠ 1 ∧ d = true ∧ 0 ≤ W.ix ∧ W.ix < Z) ∧ SStep L Ab s' cs u W v σ1 q' α' d lc := by
            intro d hd
            rcases HAL.out with hrd | ⟨hov, hk1, hx0, hx1, hat⟩
            · refine ⟨false, (fun h => by cases h), fun w1 m1 a1 => (ST w1 m1 a1 d hd).mono ?_⟩
              rintro e w' ⟨rfl, s6, cs6, u6, P⟩
              refine ⟨rfl, s6, cs6, u6, _, rfl, (fun h => by cases h), ?_, P.tw.pile.st, P.mm, P.tw, P.ac, P.is, P.only⟩
              rw [P.rd hrd]
              show (!decide (s'.wd _ = s'.wd _)) = false
              simp
            · refine ⟨!decide (s'.wd (W.at v) = q'.dw (W.at v)), fun _ => ⟨hk1, by rw [← hd]; exact hov, hx0, hx1⟩, fun w1 m1 a1 => (ST w1 m1 a1 d hd).mono ?_⟩
              rintro e w' ⟨rfl, s6, cs6, u6, P⟩
              obtain ⟨vv, hvv⟩ := P.st
              rw [hat] at hvv
              have hwd : s6.wd (W.at v) = q'.dw (W.at v) := P.tw.dwv _ (by
                have hin := HSO.out.sc.o.inn
                unfold Wt.at
                omega)
              have hv6 : s6.wd (W.at v) = vv := by rw [hvv]; exact upd_same _ _ _
              refine ⟨rfl, s6, cs6, u6, ((W.at v : Nat) : Int), by rw [hvv]; rfl, fun _ => rfl, ?_, P.tw.pile.st, P.mm, P.tw, P.ac, P.is, P.only⟩
              rw [← hwd, hv6, hvv]
              rfl
          have HST : Hid (∀ (d : Bool), α'.over? = d → ∃ (lc : Bool), (lc = true → W.kd ≠ 1 ∧ d = true ∧ 0 ≤ W.ix ∧ W.ix < Z) ∧ SStep L Ab s' cs u W v σ1 q' α' d lc) := key
          clear ST key HAL
          cases hd : α'.over? with
          | false =>
            obtain ⟨lc, hlc1, sst0⟩ := HST.out false hd
            obtain rfl : lc = false := by
              cases lc with
              | false => rfl
              | true => have := (hlc1 rfl).2.1; cases this
            have sst := sst0
            clear sst0 HST hlc1
            go_wp2_with (first
              | (go_at_call 11; refine (now_any m0 _ _ _ _ _ _ _ _ σ1 HS1.out).mono ?_; rintro e w4 ⟨rfl, b4⟩; have m4 := m0.below b4; have ac4 := ac.grown b4; have wt4 := wt.grown b4; have bb4 := grow bB b4; have v4 := v0.grown b4; have r0 := v4.c0; have r1 := v4.c1; have r2 := v4.c2; have r3 := v4.c3; have r4 := v4.c4; have r5 := v4.c5; have r6 := v4.c6; have r7 := v4.c7; have r8 := v4.c8; clear m0)
              | (go_at_call 12; refine (sst _ m4 ac4).mono ?_; rintro e w6 ⟨rfl, s6, cs6, u6, la, hla, hla2, hlc, hst6, m6, t6, ac6, is6, o6⟩; have v6 := v4.only o6 (fun hh => hh.elim FA.out.e HEB.out); have wt6 := wt4.only o6 (fun hh => hh.elim HXL.out HXB.out); have bb6 := ogrow10 bb4 o6 (fun a h => h.elim (FA.out.l0 a) (fun e => e ▸ HB0.out)); have HLA : Hid (s6.la = la) := hla; have HLC : Hid (s6.lc = false) := hlc; have HT6 : Hid (s6.steps = ((σ1 + 1 : Nat) : Int)) := hst6; clear hla hlc hst6 hla2; have p0 := v6.c0; have p1 := v6.c1; have p2 := v6.c2; have p3 := v6.c3; have p4 := v6.c4; have p5 := v6.c5; have p6 := v6.c6; have p7 := v6.c7; have p8 := v6.c8)
              | (go_at_call 13; refine (last_is m6 la _ false HLA.out rfl HLC.out).mono ?_; rintro e w7 ⟨rfl, b7⟩; have g8 := grow_alloc b7 (.cells #[.int .i64 la, .int .i64 s6.lw, .bool false] 44); have m8 := m6.below g8; have ac8 := ac6.grown g8; have wt8 := wt6.grown g8; have bb8 := grow bb6 g8; have v8 := v6.grown g8; have t8 := At.new w7 44 [.int .i64 la, .int .i64 s6.lw, .bool false]; have o0 := v8.c0; have o1 := v8.c1; have o2 := v8.c2; have o3 := v8.c3; have o4 := v8.c4; have o5 := v8.c5; have o6 := v8.c6; have o7 := v8.c7; have o8 := v8.c8)
              | (go_at_call 11; refine (now_any m8 _ _ _ _ _ _ _ _ (σ1 + 1) HT6.out).mono ?_; rintro e w9 ⟨rfl, b9⟩; have m9 := m8.below b9; have ac9 := ac8.grown b9; have wt9 := wt8.grown b9; have bb9 := grow bb8 b9; have v9 := v8.grown b9; have t9 := t8.grown b9; have n0 := t9.at0 0 rfl; have n2 := t9.at0 2 rfl; have xk := wt9.c0; have l0 := v9.c0; have l1 := v9.c1; have l2 := v9.c2; have l3 := v9.c3; have l4 := v9.c4; have l5 := v9.c5; have l6 := v9.c6; have l7 := v9.c7; have l8 := v9.c8))
            go_roundw
            case rel => exact ⟨k1 + 1, s6, σ1 + 1, q', α', cs6, u6, rfl, by go_num, by omega, by have := HRK.out hd; omega, hd, HAC.out, is6, HSO.out, ⟨m9, t6, v9, bb9⟩, wt9, ac9⟩
            case measure => simp [intOf]; omega
          | true =>
            obtain ⟨lc, hlc1, sst0⟩ := HST.out true hd
            cases lc with
            | false =>
              have sst := sst0
              clear sst0 HST hlc1
              by_cases hkk : W.kd = 1
              · go_wp2_with (first
                  | (go_at_call 11; refine (now_any m0 _ _ _ _ _ _ _ _ σ1 HS1.out).mono ?_; rintro e w4 ⟨rfl, b4⟩; have m4 := m0.below b4; have ac4 := ac.grown b4; have wt4 := wt.grown b4; have bb4 := grow bB b4; have v4 := v0.grown b4; have r0 := v4.c0; have r1 := v4.c1; have r2 := v4.c2; have r3 := v4.c3; have r4 := v4.c4; have r5 := v4.c5; have r6 := v4.c6; have r7 := v4.c7; have r8 := v4.c8; clear m0)
                  | (go_at_call 12; refine (sst _ m4 ac4).mono ?_; rintro e w6 ⟨rfl, s6, cs6, u6, la, hla, hla2, hlc, hst6, m6, t6, ac6, is6, o6⟩; have v6 := v4.only o6 (fun hh => hh.elim FA.out.e HEB.out); have wt6 := wt4.only o6 (fun hh => hh.elim HXL.out HXB.out); have bb6 := ogrow10 bb4 o6 (fun a h => h.elim (FA.out.l0 a) (fun e => e ▸ HB0.out)); have HLA : Hid (s6.la = la) := hla; have HLC : Hid (s6.lc = false) := hlc; have HT6 : Hid (s6.steps = ((σ1 + 1 : Nat) : Int)) := hst6; clear hla hlc hst6 hla2; have p0 := v6.c0; have p1 := v6.c1; have p2 := v6.c2; have p3 := v6.c3; have p4 := v6.c4; have p5 := v6.c5; have p6 := v6.c6; have p7 := v6.c7; have p8 := v6.c8)
                  | (go_at_call 13; refine (last_is m6 la _ false HLA.out rfl HLC.out).mono ?_; rintro e w7 ⟨rfl, b7⟩; have g8 := grow_alloc b7 (.cells #[.int .i64 la, .int .i64 s6.lw, .bool false] 44); have m8 := m6.below g8; have ac8 := ac6.grown g8; have wt8 := wt6.grown g8; have bb8 := grow bb6 g8; have v8 := v6.grown g8; have t8 := At.new w7 44 [.int .i64 la, .int .i64 s6.lw, .bool false]; have o0 := v8.c0; have o1 := v8.c1; have o2 := v8.c2; have o3 := v8.c3; have o4 := v8.c4; have o5 := v8.c5; have o6 := v8.c6; have o7 := v8.c7; have o8 := v8.c8)
                  | (go_at_call 11; refine (now_any m8 _ _ _ _ _ _ _ _ (σ1 + 1) HT6.out).mono ?_; rintro e w9 ⟨rfl, b9⟩; have m9 := m8.below b9; have ac9 := ac8.grown b9; have wt9 := wt8.grown b9; have bb9 := grow bb8 b9; have v9 := v8.grown b9; have t9 := t8.grown b9; have n0 := t9.at0 0 rfl; have n2 := t9.at0 2 rfl; have xk := wt9.c0; have l0 := v9.c0; have l1 := v9.c1; have l2 := v9.c2; have l3 := v9.c3; have l4 := v9.c4; have l5 := v9.c5; have l6 := v9.c6; have l7 := v9.c7; have l8 := v9.c8))
                go_roundw
                case rel => exact ⟨r + 1, s6, σ1 + 1, q', by go_num, by omega, by omega, ⟨m9, t6, v9, bb9⟩, HSO.out⟩
                case measure => simp [intOf]; omega
              · go_wp2_with (first
                  | (go_at_call 11; refine (now_any m0 _ _ _ _ _ _ _ _ σ1 HS1.out).mono ?_; rintro e w4 ⟨rfl, b4⟩; have m4 := m0.below b4; have ac4 := ac.grown b4; have wt4 := wt.grown b4; have bb4 := grow bB b4; have v4 := v0.grown b4; have r0 := v4.c0; have r1 := v4.c1; have r2 := v4.c2; have r3 := v4.c3; have r4 := v4.c4; have r5 := v4.c5; have r6 := v4.c6; have r7 := v4.c7; have r8 := v4.c8; clear m0)
                  | (go_at_call 12; refine (sst _ m4 ac4).mono ?_; rintro e w6 ⟨rfl, s6, cs6, u6, la, hla, hla2, hlc, hst6, m6, t6, ac6, is6, o6⟩; have v6 := v4.only o6 (fun hh => hh.elim FA.out.e HEB.out); have wt6 := wt4.only o6 (fun hh => hh.elim HXL.out HXB.out); have bb6 := ogrow10 bb4 o6 (fun a h => h.elim (FA.out.l0 a) (fun e => e ▸ HB0.out)); have HLA : Hid (s6.la = la) := hla; have HLC : Hid (s6.lc = false) := hlc; have HT6 : Hid (s6.steps = ((σ1 + 1 : Nat) : Int)) := hst6; clear hla hlc hst6 hla2; have p0 := v6.c0; have p1 := v6.c1; have p2 := v6.c2; have p3 := v6.c3; have p4 := v6.c4; have p5 := v6.c5; have p6 := v6.c6; have p7 := v6.c7; have p8 := v6.c8)
                  | (go_at_call 13; refine (last_is m6 la _ false HLA.out rfl HLC.out).mono ?_; rintro e w7 ⟨rfl, b7⟩; have g8 := grow_alloc b7 (.cells #[.int .i64 la, .int .i64 s6.lw, .bool false] 44); have m8 := m6.below g8; have ac8 := ac6.grown g8; have wt8 := wt6.grown g8; have bb8 := grow bb6 g8; have v8 := v6.grown g8; have t8 := At.new w7 44 [.int .i64 la, .int .i64 s6.lw, .bool false]; have o0 := v8.c0; have o1 := v8.c1; have o2 := v8.c2; have o3 := v8.c3; have o4 := v8.c4; have o5 := v8.c5; have o6 := v8.c6; have o7 := v8.c7; have o8 := v8.c8)
                  | (go_at_call 11; refine (now_any m8 _ _ _ _ _ _ _ _ (σ1 + 1) HT6.out).mono ?_; rintro e w9 ⟨rfl, b9⟩; have m9 := m8.below b9; have ac9 := ac8.grown b9; have wt9 := wt8.grown b9; have bb9 := grow bb8 b9; have v9 := v8.grown b9; have t9 := t8.grown b9; have n0 := t9.at0 0 rfl; have n2 := t9.at0 2 rfl; have xk := wt9.c0; have l0 := v9.c0; have l1 := v9.c1; have l2 := v9.c2; have l3 := v9.c3; have l4 := v9.c4; have l5 := v9.c5; have l6 := v9.c6; have l7 := v9.c7; have l8 := v9.c8))
                go_roundw
                case rel => exact ⟨r + 1, s6, σ1 + 1, q', by go_num, by omega, by omega, ⟨m9, t6, v9, bb9⟩, HSO.out⟩
                case measure => simp [intOf]; omega
            | true =>
              obtain ⟨hk1', -, hx0, hx1⟩ := hlc1 rfl
              have sst := sst0
              clear sst0 HST hlc1
              have KK := HKK.out ⟨hx0, hx1⟩
              go_wp2_with (first
                | (go_at_call 11; refine (now_any m0 _ _ _ _ _ _ _ _ σ1 HS1.out).mono ?_; rintro e w4 ⟨rfl, b4⟩; have m4 := m0.below b4; have ac4 := ac.grown b4; have wt4 := wt.grown b4; have bb4 := grow bB b4; have v4 := v0.grown b4; have r0 := v4.c0; have r1 := v4.c1; have r2 := v4.c2; have r3 := v4.c3; have r4 := v4.c4; have r5 := v4.c5; have r6 := v4.c6; have r7 := v4.c7; have r8 := v4.c8; clear m0)
                | (go_at_call 12; refine (sst _ m4 ac4).mono ?_; rintro e w6 ⟨rfl, s6, cs6, u6, la, hla, hla2, hlc, hst6, m6, t6, ac6, is6, o6⟩; have hq := hla2 rfl; subst hq; have v6 := v4.only o6 (fun hh => hh.elim FA.out.e HEB.out); have wt6 := wt4.only o6 (fun hh => hh.elim HXL.out HXB.out); have bb6 := ogrow10 bb4 o6 (fun a h => h.elim (FA.out.l0 a) (fun e => e ▸ HB0.out)); have HLA : Hid (s6.la = ((W.at v : Nat) : Int)) := hla; have HLC : Hid (s6.lc = true) := hlc; have HT6 : Hid (s6.steps = ((σ1 + 1 : Nat) : Int)) := hst6; clear hla hlc hst6 hla2; have p0 := v6.c0; have p1 := v6.c1; have p2 := v6.c2; have p3 := v6.c3; have p4 := v6.c4; have p5 := v6.c5; have p6 := v6.c6; have p7 := v6.c7; have p8 := v6.c8)
                | (go_at_call 13; refine (last_is m6 ((W.at v : Nat) : Int) _ true HLA.out rfl HLC.out).mono ?_; rintro e w7 ⟨rfl, b7⟩; have g8 := grow_alloc b7 (.cells #[.int .i64 ((W.at v : Nat) : Int), .int .i64 s6.lw, .bool true] 44); have m8 := m6.below g8; have ac8 := ac6.grown g8; have wt8 := wt6.grown g8; have bb8 := grow bb6 g8; have v8 := v6.grown g8; have t8 := At.new w7 44 [.int .i64 ((W.at v : Nat) : Int), .int .i64 s6.lw, .bool true]; have o0 := v8.c0; have o1 := v8.c1; have o2 := v8.c2; have o3 := v8.c3; have o4 := v8.c4; have o5 := v8.c5; have o6 := v8.c6; have o7 := v8.c7; have o8 := v8.c8)
                | (go_at_call 11; refine (now_any m8 _ _ _ _ _ _ _ _ (σ1 + 1) HT6.out).mono ?_; rintro e w9 ⟨rfl, b9⟩; have m9 := m8.below b9; have ac9 := ac8.grown b9; have wt9 := wt8.grown b9; have bb9 := grow bb8 b9; have v9 := v8.grown b9; have t9 := t8.grown b9; have n0 := t9.at0 0 rfl; have n2 := t9.at0 2 rfl; have xk := wt9.c0; have l0 := v9.c0; have l1 := v9.c1; have l2 := v9.c2; have l3 := v9.c3; have l4 := v9.c4; have l5 := v9.c5; have l6 := v9.c6; have l7 := v9.c7; have l8 := v9.c8)
                | (go_at_call 14; obtain ⟨KI, KX, ck⟩ := KK _; refine ck.mono ?_; rintro e w11 ⟨rfl, b11⟩; have wt11 := wt9.grown b11; have yk := wt11.c0))
              go_roundw
              case rel => exact ⟨r + 1, s6, σ1 + 1, q', by go_num, by omega, by omega, ⟨(m9.below b11), t6, (v9.grown b11), (grow bb9 b11)⟩, HSO.out⟩
              case measure => simp [intOf]; omega
      · have hr' : ¬ (r : Int) < 30 := by omega
        have b9 := B.b
        clear B So
        go_wp2
        go_ret
        exact ⟨rfl, b9⟩
    · have hrN' : ¬ (r : Int) < (N : Int) := by omega
      have b9 := B.b
      clear B So
      go_wp2
      go_ret
      exact ⟨rfl, b9⟩
end Go.Proofs.YtcdmokbamakomabGreat
