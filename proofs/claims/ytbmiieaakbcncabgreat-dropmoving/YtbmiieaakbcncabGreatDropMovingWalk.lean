/- DropMoving answers true for all numbers, and leaves what was in memory. -/
import Derived.Test.YtbmiieaakbcncabGreatDropActs
namespace Go.Proofs.YtbmiieaakbcncabGreat
open Go.RowKit

/-- the memory, while the object is let go, and let go again -/
def phMove (L : Loc) (s : Mm) (q q' : Q) : Nat → World → Prop
  | 0, w => MemAt w L s ∧ ∃ σ, σ ≤ 300 ∧ Town 1 4 4 20 s σ q
  | 1, w => ∃ s' σ, σ ≤ 500 ∧ MemAt w L s' ∧ Town 1 4 4 20 s' σ q'
  | 2, w => ∃ s' σ, σ ≤ 500 ∧ MemAt w L s' ∧ Town 1 4 4 20 s' σ q'
  | _, _ => True

theorem phMove_grown (L : Loc) (s : Mm) (q q' : Q) (x y : World) (p : Nat) (g : Grown x y) (k : phMove L s q q' p x) : phMove L s q q' p y := by
  match p, k with
  | 0, k => exact ⟨k.1.below g, k.2⟩
  | 1, ⟨s', σ, h1, h2, h3⟩ => exact ⟨s', σ, h1, h2.below g, h3⟩
  | 2, ⟨s', σ, h1, h2, h3⟩ => exact ⟨s', σ, h1, h2.below g, h3⟩
  | p + 3, _ => trivial

theorem hand1m : HandIs 65536 0 1 := by
  have hh := handIs (x := 0) (G := 1) (by decide) (by decide) (by decide)
  rwa [packH01] at hh

theorem low16 (x : Int) : ∃ V : Nat, bits .and .i64 x 65535 = (V : Int) ∧ V ≤ 65535 := by
  obtain ⟨y, h1, h2⟩ := low0 x 65535 16 (by decide) (by decide)
  exact ⟨y, h1, by omega⟩

set_option maxRecDepth 20000 in
set_option maxHeartbeats 4000000 in
theorem dropMoving_any (size ver : Int) (w : World) :
    Calls Tryz.prog 3 #[.int .i64 size, .int .i64 ver] w fun e w' => e = .returned (.bool true) ∧ Below w.heap.size w w' := by
  obtain ⟨Z, hZ, z1, z2⟩ := size15 size
  obtain ⟨V, hV, hVb⟩ := low16 ver
  obtain ⟨kz, hκ⟩ := class_room z1 z2
  obtain ⟨κ, hκe⟩ : ∃ κ, (classOf Z).toNat = κ := ⟨_, rfl⟩
  rw [hκe] at kz hκ
  have hG : Good 1 4 4 20 100 600 3 := goodp (by omega) (by omega) (by omega) (by omega)
  have AR := fun w => arena08 hG (by omega) w
  have f1 : ∀ (a1 a2 a3 a4 : Value) (w : World), (Instr.field 33 (.agg #[a1, a2, a3, a4]) 1).run Tryz.prog w = .ok a2 w := fun a1 a2 a3 a4 w => by kernel_rfl
  have f0 : ∀ (a1 a2 a3 a4 : Value) (w : World), (Instr.field 33 (.agg #[a1, a2, a3, a4]) 0).run Tryz.prog w = .ok a1 w := fun a1 a2 a3 a4 w => by kernel_rfl
  have g : Got 4 20 κ (base 1 4 4 20) (Q.new 4).y 0 ⟨upd Y.new.ck 0 ⟨1, κ, room κ, 1⟩, upd Y.new.op κ 1⟩ (0 + 1) (.won (base 1 4 4 20 0) 0) := .new (fun i h => by simp [Q.new, Y.new] at h) (by decide)
  have MK := fun (w' : World) (w1 : World) (L : Loc) (E : Nat) (s : Mm) (σ : Nat) (f : Farm w' w1 L E 1 4 4 20 100 s σ (Q.new 4) 0 (fun _ => 1) []) (a : FarmApart w' L E 1 4 4 20 100) (hσ : σ + 400 < 1000000) => f.ok (own := false) a z1 z2 kz hκ (x := 0) (F := [1, 2, 3]) rfl g hσ
  rw [show packH ((0 : Nat) : Int) (((fun _ => 1) 0 : Nat) : Int) = 65536 from packH01] at MK
  obtain ⟨q5, hq5⟩ : ∃ q5, (Q.new 4).made 0 [1, 2, 3] ⟨upd Y.new.ck 0 ⟨1, κ, room κ, 1⟩, upd Y.new.op κ 1⟩ (base 1 4 4 20 0) 0 κ Z false = q5 := ⟨_, rfl⟩
  have hFq : q5.F = [1, 2, 3] := by rw [← hq5]; rfl
  rw [hq5] at MK
  obtain ⟨ox, hox⟩ : ∃ ox : Ox, (Q.new 4).ox (fun _ => 1) 0 (base 1 4 4 20 0) 0 Z κ false = ox := ⟨_, rfl⟩
  have hx1 : ox.x = 0 := by rw [← hox]; rfl
  have hx2 : ox.g = 1 := by rw [← hox]; rfl
  have hx3 : ox.Z = Z := by rw [← hox]; rfl
  have hx4 : ox.own = false := by rw [← hox]; rfl
  have hx5 : ox.i = 0 := by rw [← hox]; rfl
  rw [hox] at MK
  clear hq5 hox g
  go_enter Tryz.func3, Tryz.ntmps3
  go_wp2_with (first
    | (go_at_call 5; refine (AR _).mono ?_; rintro e w1 ⟨L, s, rfl, m1, t1, b1, l1⟩; obtain ⟨c1, pa⟩ := Farm.first hG m1 t1 b1 l1)
    | (go_at_call 6; refine (awake09_any _).mono ?_; rintro e w2 ⟨rfl, b2⟩; have c2 := c1.grown b2; have e0 := c2.v.c0; have e1 := c2.v.c1; have e2 := c2.v.c2; have e3 := c2.v.c3; have e4 := c2.v.c4; have e5 := c2.v.c5; have e6 := c2.v.c6; have e7 := c2.v.c7; have e8 := c2.v.c8)
    | (go_at_call 7; refine (MK _ _ _ _ _ _ c2 pa (by decide)).mono ?_; rintro e w3 ⟨st3, s3, σ3, rfl, -, -, h3, c3, -⟩))
  obtain ⟨E, hE⟩ : ∃ E, w1.heap.size = E := ⟨_, rfl⟩
  rw [hE] at c3 pa ⊢
  have I := c3.tm.is hG (by decide) (o := ox) (by simp)
  have hin : ox ∈ [ox] := by simp
  have CL : Hid (∀ j, j < Z → q5.dw (ox.a + 1 + j) = 0) := fun j hj => by rw [Nat.add_assoc]; exact (c3.tm.li ox hin).nt (1 + j) (by omega) (by rw [hx3]; omega)
  have LV : Hid (room (classOf Z).toNat ≤ q5.lv 0) := by
    have := c3.tm.room_le (l1 := []) (l2 := []) (o := ox)
    rw [← I.rm, hx3, hx5] at this
    exact this
  have WB : Hid (∀ a, Wd (q5.dw a)) := c3.tm.wb
  have NF : Hid (0 ∉ q5.F) := by rw [hFq]; unfold Hid; decide
  obtain ⟨io, ist, iad, ign, ivr, isz, iow, -, irm⟩ := I
  rw [hx1] at io ist iad ign ivr isz iow
  rw [hx3, hx5] at io
  rw [hx2] at ign
  rw [hx3] at isz
  rw [hx4] at iow
  obtain ⟨A, hA⟩ : ∃ A, ox.a = A := ⟨_, rfl⟩
  rw [hA] at iad CL
  rw [iad] at isz iow
  have hA2 := adOf_le (q5.sw 0)
  rw [iad] at hA2
  obtain ⟨v0, hv0⟩ : ∃ v0, q5.sw 0 = v0 := ⟨_, rfl⟩
  have hv0' : SlotIs v0 1 A 1 0 := by
    have := slotIs v0 (by rw [← hv0]; exact io.wd)
    rw [← hv0, ist, iad, ign, ivr] at this
    rw [← hv0]
    exact this
  obtain ⟨v, hv⟩ : ∃ v, packS ((2 : Nat) : Int) A ((1 : Nat) : Int) V = v := ⟨_, rfl⟩
  have dv := packS_dec (st := 2) (A := A) (G := 1) (V := V) (by decide) hA2 (by decide) (by omega)
  have wv : Wd v := by rw [← hv]; exact packS_wd _ _ _ _
  rw [hv] at dv
  have ps := fun w => putSlot_any 2 A 1 V w ⟨by decide, by decide⟩ ⟨by omega, by omega⟩ ⟨by decide, by decide⟩ ⟨by omega, by omega⟩
  rw [show packS 2 (A : Int) 1 V = v from hv] at ps
  -- the object that is being moved
  have O2 : Obj9 1 4 4 20 v Z 0 := ⟨wv, by rw [dv.1]; rfl, z1, z2, io.ik, by rw [dv.2.1, ← iad]; exact io.ad⟩
  obtain ⟨q6, hq6⟩ : ∃ q6, Q.gone { q5 with sw := upd q5.sw 0 v } 100 0 v Z 0 = q6 := ⟨_, rfl⟩
  have RN : Hid (DRuns 1 4 4 20 100 false 0 1 (2 * Z + 8) { q5 with sw := upd q5.sw 0 v } .see q6 (.over 0)) := by
    have e : ({ q5 with sw := upd q5.sw 0 v } : Q).sw 0 = v := upd_same q5.sw 0 v
    have r := runs_gone (t := 1) (n := 4) (k := 4) (m := 20) (cg := 100) (own := false) (x := 0) (G := 1) (q := { q5 with sw := upd q5.sw 0 v }) (Z := Z) (i := 0) (by rw [e]; exact O2) WB.out (by rw [e, dv.2.1]; exact isz) (by rw [e, dv.2.1]; exact iow) (by rw [e]; exact dv.2.2.1) (by rw [e, dv.1]; decide) (by rw [e, dv.2.2.2]; omega) (fun j hj => by rw [e, dv.2.1]; show frozenIn (q5.dw _) _ = false; rw [CL.out j hj]; rfl) LV.out NF.out (show hd q5.F ≤ 4 by rw [hFq]; decide) (by decide)
    rw [e, hq6] at r
    exact r
  obtain ⟨v2, hv2⟩ : ∃ v2, q6.sw 0 = v2 := ⟨_, rfl⟩
  have IS2 : SlotIs v2 0 0 2 0 := by
    have e1 : v2 = packS ((0 : Nat) : Int) ((0 : Nat) : Int) ((2 : Nat) : Int) ((0 : Nat) : Int) := by
      rw [← hv2, ← hq6]
      show upd (upd q5.sw 0 v) 0 (behindW 100 v) 0 = _
      rw [upd_same]
      unfold behindW
      rw [dv.2.2.1, if_neg (by decide)]
      rfl
    have d2 := packS_dec (st := 0) (A := 0) (G := 2) (V := 0) (by decide) (by decide) (by decide) (by decide)
    have := slotIs v2 (by rw [e1]; exact packS_wd _ _ _ _)
    rw [← e1] at d2
    rw [d2.1, d2.2.1, d2.2.2.1, d2.2.2.2] at this
    exact this
  have DE : Hid ((lifeB (q6.sw 0 % 8) && decide (genOf (q6.sw 0) = 1)) = false) := by
    unfold Hid
    rw [hv2, IS2.st]; rfl
  have W6 : Hid (∀ a, Wd (q6.dw a)) := RN.out.wd WB.out
  have hσ3 : σ3 ≤ 200 := by omega
  have PA : Hid (FarmApart w L E 1 4 4 20 100) := pa
  have T3 : Hid (Town 1 4 4 20 s3 σ3 q5) := c3.tw
  have HV : Hid (s3.wd 7 = v0) := by have := c3.tw.swv 0 (by decide); rw [hv0] at this; exact this
  have hpk : 7 < s3.n := by have := c3.tw.len; omega
  have C3 : Hid (MemAt w3 L s3 ∧ BoxV w3 E 1 4 4 20 100 600 3 L.p 0 ∧ Below w.heap.size w w3) := ⟨c3.mm, c3.v, c3.b⟩
  have hLE := pa.e
  have SW2 : Hid (q6.sw 0 = v2) := hv2
  clear c1 c2 c3 b2 e0 e1 e2 e3 e4 e5 e6 e7 e8 m1 t1 b1 l1 AR MK hE pa hZ hx1 hx2 hx3 hx4 hx5 io ist iad ign ivr isz iow irm O2 dv hv hq6 hv2 hv0 h3 hFq hA hin kz hκ hκe
  refine wp_over (fun W => MemAt W L s3 ∧ BoxV W E 1 4 4 20 100 600 3 L.p 0 ∧ Below w.heap.size w W) C3.out ?_
  clear C3
  rintro W ⟨m1, v1, b1⟩
  obtain ⟨Sz, hSz⟩ : ∃ Sz, W.heap.size = Sz := ⟨_, rfl⟩
  refine wp_region_rely_tail Grown 8 [.val (.pointer (some ⟨E, 7, none⟩)), .val (.pointer (some ⟨L.p, 0, none⟩)), .val (.pointer (some ⟨E, 0, none⟩)), .val (.agg #[.int .i64 1, .int .i64 4, .int .i64 4, .int .i64 20, .int .i64 100, .int .i64 600, .int .i64 3]), .val (.int .i64 ((7 : Nat) : Int)), .val (.int .u64 v0), .val (.agg #[.int .i64 1, .int .i64 A, .int .i64 1, .int .i64 0]), .that (fun w' v => ∃ X, v = .pointer (some ⟨X, 0, none⟩) ∧ Sz ≤ X ∧ At w' X 0 36 #[.int .i64 0, .int .i64 0, .int .i64 0, .int .i64 0] [.int .i64 0, .int .i64 0, .int .i64 0, .int .i64 0]) ?_] (by kernel_rfl) Grown.refl Grown.trans (by decide) (by kernel_rfl) (by kernel_rfl) (by kernel_rfl) (by kernel_rfl) (by kernel_rfl) (by kernel_rfl) ?_
  · rintro x1 y1 v hg ⟨X, hv, hb, hr⟩
    exact ⟨X, hv, hb, hr.grown hg⟩
  simp only [List.take_succ_cons, List.take_zero, relyAll, Act.put, List.setIfInBounds_toArray, List.set_cons_zero, List.set_cons_succ]
  refine ⟨?_, ?_, ?_, ?_, ?_, ?_, ?_, ?_, ?_⟩
  · intro w' hg _
    refine Or.inl ⟨rfl, ?_⟩
    go_simp
    exact ⟨Grown.refl _, rfl⟩
  · intro w' hg _
    refine Or.inl ⟨rfl, ?_⟩
    have vv := (v1.grown ((Below.refl _ _).drew)).grown hg
    have y0 := vv.c0
    have y1 := vv.c1
    have y2 := vv.c2
    have y3 := vv.c3
    have y4 := vv.c4
    have y5 := vv.c5
    have y6 := vv.c6
    have y7 := vv.c7
    have y8 := vv.c8
    go_simp
    exact ⟨Grown.refl _, rfl⟩
  · intro w' hg _
    refine Or.inl ⟨rfl, ?_⟩
    go_simp
    exact ⟨Grown.refl _, rfl⟩
  · intro w' hg _
    refine Or.inl ⟨rfl, ?_⟩
    have vv := (v1.grown ((Below.refl _ _).drew)).grown hg
    have y0 := vv.c0
    have y1 := vv.c1
    have y2 := vv.c2
    have y3 := vv.c3
    have y4 := vv.c4
    have y5 := vv.c5
    have y6 := vv.c6
    have y7 := vv.c7
    have y8 := vv.c8
    go_simp
    exact ⟨Grown.refl _, rfl⟩
  · intro w' hg _
    refine Or.inl ⟨rfl, ?_⟩
    go_simp
    refine (lslot_any _ _ _ _ _ _ _ 0 _ hG.arena (by omega) (by omega)).mono ?_
    rintro e w'' ⟨rfl, b9⟩
    exact ⟨_, rfl, b9, congrArg (Value.int .i64) (by omega)⟩
  · intro w' hg _
    refine Or.inl ⟨rfl, ?_⟩
    go_simp
    refine (peek_is (m1.drew.below hg) (7) hpk v0 HV.out).mono ?_
    rintro e w'' ⟨rfl, rfl⟩
    exact ⟨_, rfl, Grown.refl _, rfl⟩
  · intro w' hg _
    refine Or.inl ⟨rfl, ?_⟩
    go_simp
    refine (hv0'.call _).mono ?_
    rintro e w'' ⟨rfl, b9⟩
    exact ⟨_, rfl, b9, rfl⟩
  · intro w' hg _
    refine Or.inl ⟨rfl, ?_⟩
    have hz : Sz ≤ w'.heap.size := by have := hg.size; have e : W.drew.heap.size = W.heap.size := rfl; omega
    have q := At.new w' 36 [.int .i64 0, .int .i64 0, .int .i64 0, .int .i64 0]
    go_simp
    exact ⟨grow_alloc (Below.refl _ _) _, _, rfl, hz, q⟩
  intro vX w8 hg hf
  obtain ⟨S, rfl, hXS, q8⟩ := hf.1
  have q0 := q8.at0 0 rfl
  have q1 := q8.at0 1 rfl
  have q2 := q8.at0 2 rfl
  have q3 := q8.at0 3 rfl
  have qf := q8.fz
  have hLS : ¬ L.has S := fun hh => by have := m1.lt _ hh; omega
  have hES : E ≠ S := by have : E < W.heap.size := World.block_lt_of_cell? _ _ v1.c0; omega
  have hwS : w.heap.size ≤ S := by have := b1.size; omega
  have m9 := (((((m1.drew.below hg).setIn hLS 0 (.int .i64 1)).setIn hLS 1 (.int .i64 A)).setIn hLS 2 (.int .i64 1)).setIn hLS 3 (.int .i64 0))
  have v9 := ((((((v1.grown ((Below.refl _ _).drew)).grown hg).setIn hES 0 (.int .i64 1)).setIn hES 1 (.int .i64 A)).setIn hES 2 (.int .i64 1)).setIn hES 3 (.int .i64 0))
  have b9' := (below_setIn (below_setIn (below_setIn (below_setIn (show Below w.heap.size w w8 from grow b1.drew hg) hwS 0 (.int .i64 1)) hwS 1 (.int .i64 A)) hwS 2 (.int .i64 1)) hwS 3 (.int .i64 0))
  have s9 := ((((q8.put0 0 (.int .i64 1)).put0 1 (.int .i64 A)).put0 2 (.int .i64 1)).put0 3 (.int .i64 0))
  have m10 := (m9.setIn hLS 0 (.int .i64 2)).setIn hLS 3 (.int .i64 V)
  have v10 := (v9.setIn hES 0 (.int .i64 2)).setIn hES 3 (.int .i64 V)
  have b10 := below_setIn (below_setIn b9' hwS 0 (.int .i64 2)) hwS 3 (.int .i64 V)
  have s10 := (s9.put0 0 (.int .i64 2)).put0 3 (.int .i64 V)
  have t0 := s9.at0 0 rfl
  have t3 := s9.at0 3 rfl
  have tf := s9.fz
  clear hf hg hXS hSz m1 v1 b1 m9 v9 b9'
  go_wp2
  refine wp_over (fun W => MemAt W L s3 ∧ BoxV W E 1 4 4 20 100 600 3 L.p 0 ∧ Below w.heap.size w W ∧ At W S 0 36 _ [.int .i64 2, .int .i64 A, .int .i64 1, .int .i64 V]) ⟨m10, v10, b10, s10⟩ ?_
  clear m10 v10 b10 s9 s10 t0 t3 tf q0 q1 q2 q3 qf q8 hv0' HV
  rintro W ⟨m1, v1, b1, q1⟩
  refine wp_region_rely_tail Grown 7 [.val (.pointer (some ⟨E, 7, none⟩)), .val (.pointer (some ⟨L.p, 0, none⟩)), .val (.pointer (some ⟨E, 0, none⟩)), .val (.agg #[.int .i64 1, .int .i64 4, .int .i64 4, .int .i64 20, .int .i64 100, .int .i64 600, .int .i64 3]), .val (.int .i64 ((7 : Nat) : Int)), .val (.agg #[.int .i64 2, .int .i64 A, .int .i64 1, .int .i64 V]), .val (.int .u64 v)] (by kernel_rfl) Grown.refl Grown.trans (by decide) (by kernel_rfl) (by kernel_rfl) (by kernel_rfl) (by kernel_rfl) (by kernel_rfl) (by kernel_rfl) ?_
  simp only [List.take_succ_cons, List.take_zero, relyAll, Act.put, List.setIfInBounds_toArray, List.set_cons_zero, List.set_cons_succ]
  refine ⟨?_, ?_, ?_, ?_, ?_, ?_, ?_, ?_⟩
  · intro w' hg _
    refine Or.inl ⟨rfl, ?_⟩
    go_simp
    exact ⟨Grown.refl _, rfl⟩
  · intro w' hg _
    refine Or.inl ⟨rfl, ?_⟩
    have vv := (v1.grown ((Below.refl _ _).drew)).grown hg
    have y0 := vv.c0
    have y1 := vv.c1
    have y2 := vv.c2
    have y3 := vv.c3
    have y4 := vv.c4
    have y5 := vv.c5
    have y6 := vv.c6
    have y7 := vv.c7
    have y8 := vv.c8
    go_simp
    exact ⟨Grown.refl _, rfl⟩
  · intro w' hg _
    refine Or.inl ⟨rfl, ?_⟩
    go_simp
    exact ⟨Grown.refl _, rfl⟩
  · intro w' hg _
    refine Or.inl ⟨rfl, ?_⟩
    have vv := (v1.grown ((Below.refl _ _).drew)).grown hg
    have y0 := vv.c0
    have y1 := vv.c1
    have y2 := vv.c2
    have y3 := vv.c3
    have y4 := vv.c4
    have y5 := vv.c5
    have y6 := vv.c6
    have y7 := vv.c7
    have y8 := vv.c8
    go_simp
    exact ⟨Grown.refl _, rfl⟩
  · intro w' hg _
    refine Or.inl ⟨rfl, ?_⟩
    go_simp
    refine (lslot_any _ _ _ _ _ _ _ 0 _ hG.arena (by omega) (by omega)).mono ?_
    rintro e w'' ⟨rfl, b9⟩
    exact ⟨_, rfl, b9, congrArg (Value.int .i64) (by omega)⟩
  · intro w' hg _
    refine Or.inl ⟨rfl, ?_⟩
    have z0 := (q1.drew.grown hg).at0 0 rfl
    have z1 := (q1.drew.grown hg).at0 1 rfl
    have z2 := (q1.drew.grown hg).at0 2 rfl
    have z3 := (q1.drew.grown hg).at0 3 rfl
    go_simp
    exact ⟨Grown.refl _, rfl⟩
  · intro w' hg _
    refine Or.inl ⟨rfl, ?_⟩
    go_simp
    refine (ps _).mono ?_
    rintro e w'' ⟨rfl, b9⟩
    exact ⟨_, rfl, b9, rfl⟩
  intro w5 hg _
  have m5 := m1.drew.below hg
  have v5 := (v1.grown ((Below.refl _ _).drew)).grown hg
  have b5 : Below w.heap.size w w5 := grow b1.drew hg
  clear hg m1 v1 b1 q1 ps
  go_wp2_with (go_at_call 11; refine (store_in m5 7 hpk v).mono ?_; rintro e w6 ⟨rfl, m6, o6, -⟩)
  obtain ⟨s5, hs5⟩ : ∃ s5, s3.step 7 v = s5 := ⟨_, rfl⟩
  rw [hs5] at m6
  have T5 : Hid (∃ σ, σ ≤ 300 ∧ Town 1 4 4 20 s5 σ { q5 with sw := upd q5.sw 0 v }) := ⟨σ3 + 1, by omega, by rw [← hs5]; exact T3.out.shows (by omega) s3.who (x := 0) (by decide) v wv.1 wv.2⟩
  have DR : Hid (∀ w' : World, (MemAt w' L s5 ∧ ∃ σ, σ ≤ 300 ∧ Town 1 4 4 20 s5 σ { q5 with sw := upd q5.sw 0 v }) → Calls Tryz.prog 13 #[.agg #[.int .i64 1, .int .i64 4, .int .i64 4, .int .i64 20, .int .i64 100, .int .i64 600, .int .i64 3, .pointer (some ⟨L.p, 0, none⟩), .int .i64 0], .int .u64 65536, .bool false] w' fun e w'' => ∃ st : Int, e = .returned (.agg #[.int .i64 0, .int .u64 0, .int .i64 0, .int .i64 st]) ∧ Only L.has w' w'' ∧ ∃ s' σ, σ ≤ 500 ∧ MemAt w'' L s' ∧ Town 1 4 4 20 s' σ q6) := by
    rintro w' ⟨mm, σ, hσ, tt⟩
    refine (drop_goes mm tt hG WB.out hand1m (by decide) (by omega) (N := 2 * Z + 8) (by omega) RN.out).mono ?_
    rintro e w'' ⟨st, s', rfl, m', t', o'⟩
    exact ⟨st, rfl, o', s', _, by omega, m', t'⟩
  have DD : Hid (∀ w' : World, (∃ s' σ, σ ≤ 500 ∧ MemAt w' L s' ∧ Town 1 4 4 20 s' σ q6) → Calls Tryz.prog 13 #[.agg #[.int .i64 1, .int .i64 4, .int .i64 4, .int .i64 20, .int .i64 100, .int .i64 600, .int .i64 3, .pointer (some ⟨L.p, 0, none⟩), .int .i64 0], .int .u64 65536, .bool false] w' fun e w'' => ∃ st : Int, e = .returned (.agg #[.int .i64 3, .int .u64 0, .int .i64 0, .int .i64 st]) ∧ Only L.has w' w'' ∧ True) := by
    rintro w' ⟨s', σ, hσ, mm, tt⟩
    refine (drop_reads mm tt hG W6.out hand1m (by decide) (by omega) (N := 1) (by decide) (reads_dead DE.out)).mono ?_
    rintro e w'' ⟨st, s'', rfl, m', t', o', -⟩
    exact ⟨st, rfl, o', trivial⟩
  have PK : Hid (∀ w' : World, (∃ s' σ, σ ≤ 500 ∧ MemAt w' L s' ∧ Town 1 4 4 20 s' σ q6) → Calls Tryz.prog 9 #[.pointer (some ⟨L.p, 0, none⟩), .int .i64 ((7 : Nat) : Int)] w' fun e w'' => e = .returned (.int .u64 v2) ∧ w'' = w') := by
    rintro w' ⟨s', σ, hσ, mm, tt⟩
    refine peek_is mm 7 (by have := tt.len; omega) v2 ?_
    have := tt.swv 0 (by decide)
    rw [SW2.out] at this
    exact this
  refine wp_over (fun W => MemAt W L s5 ∧ BoxV W E 1 4 4 20 100 600 3 L.p 0 ∧ Below w.heap.size w W) ⟨m6, v5.only o6 hLE, mgrow b5 o6 PA.out.l0⟩ ?_
  clear m5 v5 b5 m6 o6 hs5 T3 RN W6 WB CL LV NF
  rintro W ⟨m1, v1, b1⟩
  refine wp_region_phase (Only L.has) Grown (phMove L s5 { q5 with sw := upd q5.sw 0 v } q6) [2, 11, 19] [.val (.agg #[.int .i64 1, .int .i64 4, .int .i64 4, .int .i64 20, .int .i64 100, .int .i64 600, .int .i64 3, .pointer (some ⟨L.p, 0, none⟩), .int .i64 0]), .val (.int .u64 65536), .that (fun _ v => ∃ st : Int, v = .agg #[.int .i64 0, .int .u64 0, .int .i64 0, .int .i64 st]) (fun _ _ _ _ h => h), .val (.int .i64 0), .val (.bool true), .val (.bool true), .val (.pointer (some ⟨E, 7, none⟩)), .val (.pointer (some ⟨L.p, 0, none⟩)), .val (.pointer (some ⟨E, 0, none⟩)), .val (.agg #[.int .i64 1, .int .i64 4, .int .i64 4, .int .i64 20, .int .i64 100, .int .i64 600, .int .i64 3]), .val (.int .i64 ((7 : Nat) : Int)), .val (.int .u64 v2), .val (.agg #[.int .i64 0, .int .i64 0, .int .i64 2, .int .i64 0]), .val (.agg #[.int .i64 0, .int .i64 0, .int .i64 2, .int .i64 0]), .val (.bool true), .val (.bool true), .val (.bool true), .val (.agg #[.int .i64 1, .int .i64 4, .int .i64 4, .int .i64 20, .int .i64 100, .int .i64 600, .int .i64 3, .pointer (some ⟨L.p, 0, none⟩), .int .i64 0]), .val (.int .u64 65536), .that (fun _ v => ∃ st : Int, v = .agg #[.int .i64 3, .int .u64 0, .int .i64 0, .int .i64 st]) (fun _ _ _ _ h => h), .val (.int .i64 3), .val (.bool true), .val (.bool true), .val (.bool true)]
    (by kernel_rfl) (Only.refl _) (fun _ _ _ h k => h.trans k) (fun x y h => Only.ofGrown h) (phMove_grown L s5 { q5 with sw := upd q5.sw 0 v } q6) ⟨m1.drew, T5.out⟩ (by kernel_rfl) (by kernel_rfl) (by kernel_rfl) (by kernel_rfl) (by kernel_rfl) ?_
  simp only [phaseAll, Act.put, List.setIfInBounds_toArray, List.set_cons_zero, List.set_cons_succ]
  refine ⟨?_, ?_, ?_, fun d1 => ⟨?_, ?_, ?_, ?_, ?_, ?_, ?_, ?_, ?_, ?_, ?_, ?_, ?_, ?_, ?_, ?_, ?_, fun d2 => ⟨?_, ?_, ?_, ?_, ?_⟩⟩⟩
  · intro w' hR _
    refine Or.inl ⟨rfl, ?_⟩
    have vv := (v1.grown ((Below.refl _ _).drew)).only hR hLE
    have y0 := vv.c0
    have y1 := vv.c1
    have y2 := vv.c2
    have y3 := vv.c3
    have y4 := vv.c4
    have y5 := vv.c5
    have y6 := vv.c6
    have y7 := vv.c7
    have y8 := vv.c8
    go_simp
    exact ⟨Grown.refl _, rfl⟩
  · intro w' hR _
    refine Or.inl ⟨rfl, ?_⟩
    go_simp
    exact ⟨Grown.refl _, rfl⟩
  · intro w' hR _ hP
    refine Or.inl ⟨rfl, ?_⟩
    go_simp
    refine (DR.out w' hP).mono ?_
    rintro e w'' ⟨st, rfl, k1, k2⟩
    exact ⟨_, rfl, ⟨k1, k2⟩, st, rfl⟩
  · intro w' hR hf
    refine Or.inl ⟨rfl, ?_⟩
    obtain ⟨st, rfl⟩ := hf.1 (by kernel_rfl)
    go_simp
    exact ⟨Grown.refl _, rfl⟩
  · intro w' hR _
    refine Or.inl ⟨rfl, ?_⟩
    go_simp
    exact ⟨Grown.refl _, rfl⟩
  · intro w' hR _
    refine Or.inl ⟨rfl, ?_⟩
    go_simp
    exact ⟨Grown.refl _, rfl⟩
  · intro w' hR _
    refine Or.inl ⟨rfl, ?_⟩
    go_simp
    exact ⟨Grown.refl _, rfl⟩
  · intro w' hR _
    refine Or.inl ⟨rfl, ?_⟩
    have vv := (v1.grown ((Below.refl _ _).drew)).only hR hLE
    have y0 := vv.c0
    have y1 := vv.c1
    have y2 := vv.c2
    have y3 := vv.c3
    have y4 := vv.c4
    have y5 := vv.c5
    have y6 := vv.c6
    have y7 := vv.c7
    have y8 := vv.c8
    go_simp
    exact ⟨Grown.refl _, rfl⟩
  · intro w' hR _
    refine Or.inl ⟨rfl, ?_⟩
    go_simp
    exact ⟨Grown.refl _, rfl⟩
  · intro w' hR _
    refine Or.inl ⟨rfl, ?_⟩
    have vv := (v1.grown ((Below.refl _ _).drew)).only hR hLE
    have y0 := vv.c0
    have y1 := vv.c1
    have y2 := vv.c2
    have y3 := vv.c3
    have y4 := vv.c4
    have y5 := vv.c5
    have y6 := vv.c6
    have y7 := vv.c7
    have y8 := vv.c8
    go_simp
    exact ⟨Grown.refl _, rfl⟩
  · intro w' hR _
    refine Or.inl ⟨rfl, ?_⟩
    go_simp
    refine (lslot_any _ _ _ _ _ _ _ 0 _ hG.arena (by omega) (by omega)).mono ?_
    rintro e w'' ⟨rfl, b9⟩
    exact ⟨_, rfl, b9, congrArg (Value.int .i64) (by omega)⟩
  · intro w' hR _ hP
    refine Or.inl ⟨rfl, ?_⟩
    go_simp
    refine (PK.out w' hP).mono ?_
    rintro e w'' ⟨rfl, rfl⟩
    exact ⟨_, rfl, ⟨Only.refl _ _, hP⟩, rfl⟩
  · intro w' hR _
    refine Or.inl ⟨rfl, ?_⟩
    go_simp
    refine (IS2.call _).mono ?_
    rintro e w'' ⟨rfl, b9⟩
    exact ⟨_, rfl, b9, rfl⟩
  · intro w' hR _
    refine Or.inl ⟨rfl, ?_⟩
    go_simp
    exact ⟨Grown.refl _, rfl⟩
  · intro w' hR _
    refine Or.inl ⟨rfl, ?_⟩
    go_simp
    exact ⟨Grown.refl _, rfl⟩
  · intro w' hR _
    refine Or.inl ⟨rfl, ?_⟩
    go_simp
    exact ⟨Grown.refl _, rfl⟩
  · intro w' hR _
    refine Or.inl ⟨rfl, ?_⟩
    go_simp
    exact ⟨Grown.refl _, rfl⟩
  · intro w' hR _
    refine Or.inl ⟨rfl, ?_⟩
    have vv := (v1.grown ((Below.refl _ _).drew)).only hR hLE
    have y0 := vv.c0
    have y1 := vv.c1
    have y2 := vv.c2
    have y3 := vv.c3
    have y4 := vv.c4
    have y5 := vv.c5
    have y6 := vv.c6
    have y7 := vv.c7
    have y8 := vv.c8
    go_simp
    exact ⟨Grown.refl _, rfl⟩
  · intro w' hR _
    refine Or.inl ⟨rfl, ?_⟩
    go_simp
    exact ⟨Grown.refl _, rfl⟩
  · intro w' hR _ hP
    refine Or.inl ⟨rfl, ?_⟩
    go_simp
    refine (DD.out w' hP).mono ?_
    rintro e w'' ⟨st, rfl, k1, k2⟩
    exact ⟨_, rfl, ⟨k1, k2⟩, st, rfl⟩
  · intro w' hR hf
    refine Or.inl ⟨rfl, ?_⟩
    obtain ⟨st, rfl⟩ := hf.1 (by kernel_rfl)
    go_simp
    exact ⟨Grown.refl _, rfl⟩
  · intro w' hR _
    refine Or.inl ⟨rfl, ?_⟩
    go_simp
    exact ⟨Grown.refl _, rfl⟩
  · intro w' hR _
    refine Or.inl ⟨rfl, ?_⟩
    go_simp
    exact ⟨Grown.refl _, rfl⟩
  · intro w' hR _
    refine Or.inl ⟨rfl, ?_⟩
    go_simp
    exact ⟨Grown.refl _, rfl⟩
  intro w9 hR hP _
  have b9 : Below w.heap.size w w9 := mgrow b1.drew hR PA.out.l0
  clear hR hP m1 v1 b1
  go_wp2
  go_ret
  exact ⟨rfl, b9⟩

end Go.Proofs.YtbmiieaakbcncabGreat
