/- AccessStops answers true for all kinds and versions, frozen or not, and leaves what was in memory. -/
import Derived.Test.YtcdmokbamakomaaGreatAccHalt
namespace Go.Proofs.YtcdmokbamakomaaGreat
open Go.RowKit

theorem low16 (x : Int) : ∃ V : Nat, bits .and .i64 x 65535 = (V : Int) ∧ V ≤ 65535 := by
  obtain ⟨y, h1, h2⟩ := low0 x 65535 16 (by decide) (by decide)
  exact ⟨y, h1, by omega⟩
theorem low1 (x : Int) : bits .and .i64 x 1 = 0 ∨ bits .and .i64 x 1 = 1 := by
  obtain ⟨y, h1, h2⟩ := low0 x 1 1 (by decide) (by decide)
  omega

set_option maxRecDepth 20000 in
set_option maxHeartbeats 4000000 in
theorem accessStops_any (kind ver : Int) (frozen : Bool) (w : World) :
    Calls Tryz.prog 7 #[.int .i64 kind, .int .i64 ver, .bool frozen] w fun e w' => e = .returned (.bool true) ∧ Below w.heap.size w w' := by
  obtain ⟨V, hV, hVb⟩ := low16 ver
  have AR := fun w => arena08 good1 (by omega) w
  have f1 : ∀ (a1 a2 a3 a4 : Value) (w : World), (Instr.field 37 (.agg #[a1, a2, a3, a4]) 1).run Tryz.prog w = .ok a2 w := fun a1 a2 a3 a4 w => by kernel_rfl
  go_enter Tryz.func7, Tryz.ntmps7
  go_wp2_with (first
    | (go_at_call 9; refine (AR _).mono ?_; rintro e w1 ⟨L, s, rfl, m1, t1, b1, l1⟩; obtain ⟨c1, pa⟩ := Farm.first good1 m1 t1 b1 l1)
    | (go_at_call 10; refine (awake10_any _).mono ?_; rintro e w2 ⟨rfl, b2⟩; have c2 := c1.grown b2; have z0 := c2.v.c0; have z1 := c2.v.c1; have z2 := c2.v.c2; have z3 := c2.v.c3; have z4 := c2.v.c4; have z5 := c2.v.c5; have z6 := c2.v.c6; have z7 := c2.v.c7; have z8 := c2.v.c8)
    | (go_at_call 11; refine (aw_make c2 pa (by decide)).mono ?_; rintro e w3 ⟨st3, s3, σ3, rfl, h3, c3, -⟩; have y0 := c3.v.c0; have y1 := c3.v.c1; have y2 := c3.v.c2; have y3 := c3.v.c3; have y4 := c3.v.c4; have y5 := c3.v.c5; have y6 := c3.v.c6; have y7 := c3.v.c7; have y8 := c3.v.c8)
    | (go_at_call 21; refine (lslot_any _ _ _ _ _ _ _ 0 _ good1.arena (by omega) (by omega)).mono ?_; rintro e w4 ⟨rfl, b4⟩; have c4 := c3.grown b4; have x0 := c4.v.c0; have x1 := c4.v.c1; have x2 := c4.v.c2; have x3 := c4.v.c3; have x4 := c4.v.c4; have x5 := c4.v.c5; have x6 := c4.v.c6; have x7 := c4.v.c7; have x8 := c4.v.c8))
  obtain ⟨E, hE⟩ : ∃ E, w1.heap.size = E := ⟨_, rfl⟩
  rw [hE] at c4 pa ⊢
  have I := c4.tm.is good1 (by decide) (o := ox1) (by simp)
  have io : Obj9 1 4 2 20 (qa.sw 0) 2 0 := I.obj
  have ist : qa.sw 0 % 8 = 1 := I.st
  have ign : genOf (qa.sw 0) = 1 := I.gn
  have ivr : verOf' (qa.sw 0) = 0 := I.vr
  have isz : szOf (qa.dw (adOf (qa.sw 0))) = 2 := I.sz
  have iow : ownOf (qa.dw (adOf (qa.sw 0))) = false := I.ow
  have iz : qa.dw (adOf (qa.sw 0) + 1) = 0 := by
    rw [show adOf (qa.sw 0) = ox1.a from I.ad]
    exact (c4.tm.li ox1 (by simp)).nt 1 (by decide) (by decide)
  have iwb : ∀ a, Wd (qa.dw a) := c4.tm.wb
  obtain ⟨A, hA⟩ : ∃ A, adOf (qa.sw 0) = A := ⟨_, rfl⟩
  rw [hA] at isz iow iz
  have hA2 := adOf_le (qa.sw 0)
  rw [hA] at hA2
  have hin := io.inn
  rw [hA] at hin
  obtain ⟨v0, hv0⟩ : ∃ v0, qa.sw 0 = v0 := ⟨_, rfl⟩
  have sl0 : SlotIs v0 1 A 1 0 := by
    have := slotIs v0 (by rw [← hv0]; exact io.wd)
    rw [← hv0, ist, hA, ign, ivr] at this
    rw [← hv0]
    exact this
  have sc0 := sl0.call
  obtain ⟨v, hv⟩ : ∃ v, packS ((2 : Nat) : Int) A ((1 : Nat) : Int) V = v := ⟨_, rfl⟩
  have dv := packS_dec (st := 2) (A := A) (G := 1) (V := V) (by decide) hA2 (by decide) (by omega)
  have wv : Wd v := by rw [← hv]; exact packS_wd _ _ _ _
  rw [hv] at dv
  have ps := fun w => putSlot_any 2 A 1 V w ⟨by decide, by decide⟩ ⟨by omega, by omega⟩ ⟨by decide, by decide⟩ ⟨by omega, by omega⟩
  rw [show packS 2 (A : Int) 1 V = v from hv] at ps
  have pc := fun w => putCell_any 3 true V w ⟨by decide, by decide⟩ ⟨by omega, by omega⟩
  obtain ⟨q1, hq1⟩ : ∃ q1 : Q, { qa with sw := upd qa.sw 0 v } = q1 := ⟨_, rfl⟩
  have H1 : Halt q1 v A V := by
    subst hq1
    refine ⟨⟨(show upd qa.sw 0 v 0 = v from upd_same _ _ _), ⟨wv, by rw [dv.1]; rfl, by decide, by decide, io.ik, by rw [dv.2.1, ← hA]; exact io.ad⟩, by rw [dv.1]; decide, dv.2.2.1, ?_, ?_, iwb, by decide⟩, dv.1, dv.2.1, dv.2.2.2, hVb⟩
    · rw [dv.2.1]; exact isz
    · rw [dv.2.1]; exact iow
  have sl1 : SlotIs v 2 A 1 V := by
    have := slotIs v wv
    rw [dv.1, dv.2.1, dv.2.2.1, dv.2.2.2] at this
    exact this
  have z1 : q1.dw (A + 1) = 0 := by rw [← hq1]; exact iz
  have w1v : q1.sw 0 = v := H1.s.sw
  have hσ3 : σ3 ≤ 200 := by omega
  have FA : Hid (FarmApart w L E 1 4 2 20 100) := pa
  have HV : Hid (s3.wd 7 = v0) := by have := c4.tw.swv 0 (by decide); rw [hv0] at this; exact this
  have hpk : 7 < s3.n := by have := c4.tw.len; omega
  have T1 : Hid (Town 1 4 2 20 (s3.step 7 v) (σ3 + 1) q1) := by
    unfold Hid
    rw [← hq1]
    exact c4.tw.shows (by omega) s3.who (x := 0) (by decide) v wv.1 wv.2
  have B4 := c4.spt
  have LL : ∀ a, L.has a → a < w4.heap.size := fun a h => c4.mm.lt a h
  have hEw := c4.ltE
  clear c1 c2 c3 c4 b2 b4 m1 t1 b1 l1 AR hE pa io ist ign ivr isz iow iz iwb sl0 hv0 hv dv hq1 h3 hA 
  go_wp2_with (first
    | (go_at_call 20; refine (peek_is B4.mm 7 hpk v0 HV.out).mono ?_; rintro e w5 ⟨rfl, rfl⟩)
    | (go_at_call 22; refine (sc0 _).mono ?_; rintro e w6 ⟨rfl, b6⟩))
  have q6 := At.new w6 58 [.int .i64 2, .int .i64 A, .int .i64 1, .int .i64 V]
  have B6 := B4.grown (grow_alloc b6 (.cells #[.int .i64 2, .int .i64 A, .int .i64 1, .int .i64 V] 58))
  obtain ⟨S, hS⟩ : ∃ S, w6.heap.size = S := ⟨_, rfl⟩
  have LS : ¬ L.has S := fun h => by have := LL _ h; have := b6.size; omega
  have ES : E ≠ S := by have := b6.size; omega
  rw [hS] at q6
  try rw [hS]
  refine wp_over (fun W => Spt w W L E 1 4 2 20 s3 σ3 qa ∧ At W S 0 58 _ [.int .i64 2, .int .i64 A, .int .i64 1, .int .i64 V]) ⟨B6, q6⟩ ?_
  clear B4 B6 q6 b6 sc0 hS HV LL hEw 
  rintro W ⟨B, q1'⟩
  cases frozen with
  | false =>
    obtain ⟨s5, hs5⟩ : ∃ s5, s3.step 7 v = s5 := ⟨_, rfl⟩
    have HS5 : Hid (s3.step 7 v = s5) := hs5
    rw [hs5] at T1
    have hn5 : s5.n = s3.n := by rw [← hs5]; rfl
    have HH : Hid (Halt q1 v A V) := H1
    have hcell := z1
    have HW : Hid (q1.sw 0 = v) := w1v
    obtain ⟨σ6, hσ6⟩ : ∃ σ6, σ3 + 1 = σ6 := ⟨_, rfl⟩
    rw [hσ6] at T1
    have hσ6' : σ6 ≤ 300 := by omega
    clear H1 z1 w1v hs5 hσ6
    rcases low1 kind with hk | hk
    · have hk2 : bits .and .i64 kind 1 = 0 := hk
      have RN := HH.out.read (σ := σ6) hcell
      rw [show vOf 0 = 0 from rfl] at RN
      obtain ⟨v2, hv2⟩ : ∃ v2, (q1).sw 0 = v2 := ⟨_, rfl⟩
      obtain ⟨c2, hc2⟩ : ∃ c2, (q1).dw (A + 1) = c2 := ⟨_, rfl⟩
      have is2 : ∀ w : World, Calls Tryz.prog 22 #[.int .u64 v2] w fun e w' => e = .returned (.agg #[.int .i64 2, .int .i64 A, .int .i64 1, .int .i64 V]) ∧ Below w.heap.size w w' := by
        have := sl1.call
        rw [← hv2, HW.out]
        exact this
      have cs2 : ∀ w : World, Calls Tryz.prog 26 #[.int .u64 c2] w fun e w' => e = .returned (.agg #[.int .i64 0, .bool false, .int .i64 0]) ∧ Below w.heap.size w w' := by
        rw [← hc2, hcell]
        exact fun w => (cellIs 0 ⟨by decide, by decide⟩).call w
      have HQ7 : Hid ((q1).sw 0 = v2) := hv2
      have HQA : Hid ((q1).dw (A + 1) = c2) := hc2
      obtain ⟨st7, hst7⟩ : ∃ st7 : Nat, σ6 + 3 = st7 := ⟨_, rfl⟩
      rw [hst7] at RN
      have DO := fun (w1 : World) (f1 : Spt w w1 L E 1 4 2 20 s5 σ6 q1) => f1.do (W := wtR 1) (own := false) FA.out HH.out.s.wd hand01 (by decide) ⟨by unfold wtR; decide, ⟨by decide, by decide⟩⟩ (by omega) (by decide) RN
      clear RN hv2 hc2 hst7 hcell
      refine wp_region_rely_tail Grown 5 [.val (.pointer (some ⟨E, 7, none⟩)), .val (.pointer (some ⟨L.p, 0, none⟩)), .val (.int .i64 7), .val (.agg #[.int .i64 2, .int .i64 A, .int .i64 1, .int .i64 V]), .val (.int .u64 v)] (by kernel_rfl) Grown.refl Grown.trans (by decide) (by kernel_rfl) (by kernel_rfl) (by kernel_rfl) (by kernel_rfl) (by kernel_rfl) (by kernel_rfl) ?_
      simp only [List.take_succ_cons, List.take_zero, relyAll, Act.put, List.setIfInBounds_toArray, List.set_cons_zero, List.set_cons_succ]
      refine ⟨?_, ?_, ?_, ?_, ?_, ?_⟩
      · intro w' hg _
        refine Or.inl ⟨rfl, ?_⟩
        go_simp
        exact ⟨Grown.refl _, rfl⟩
      · intro w' hg _
        refine Or.inl ⟨rfl, ?_⟩
        have vv := (B.drew.grown hg).v
        have y0 := vv.c0
        have y1 := vv.c1
        have y2 := vv.c2
        have y3 := vv.c3
        have y4 := vv.c4
        have y5 := vv.c5
        have y6 := vv.c6
        have y7 := vv.c7
        have y8 := vv.c8
        go_simp
        exact ⟨Grown.refl _, rfl⟩
      · intro w' hg _
        refine Or.inl ⟨rfl, ?_⟩
        go_simp
        exact ⟨Grown.refl _, rfl⟩
      · intro w' hg _
        refine Or.inl ⟨rfl, ?_⟩
        have z0 := (q1'.drew.grown hg).at0 0 rfl
        have z1 := (q1'.drew.grown hg).at0 1 rfl
        have z2 := (q1'.drew.grown hg).at0 2 rfl
        have z3 := (q1'.drew.grown hg).at0 3 rfl
        go_simp
        exact ⟨Grown.refl _, rfl⟩
      · intro w' hg _
        refine Or.inl ⟨rfl, ?_⟩
        go_simp
        refine (ps _).mono ?_
        rintro e w'' ⟨rfl, b9⟩
        exact ⟨_, rfl, b9, rfl⟩
      intro w5 hg _
      have B5 := B.drew.grown hg
      have q5 := q1'.drew.grown hg
      clear hg B q1'
      go_wp2_with (first
        | (go_at_call 23; refine (store_in B5.mm (7) hpk v).mono ?_; rintro e w6 ⟨rfl, m6, o6, -⟩; rw [HS5.out] at m6; have B : Spt w w6 L E 1 4 2 20 s5 σ6 q1 := ⟨m6, T1.out, B5.v.only o6 FA.out.e, mgrow B5.b o6 FA.out.l0⟩; have q1' := q5.only o6 LS; have z0 := B.v.c0; have z1 := B.v.c1; have z2 := B.v.c2; have z3 := B.v.c3; have z4 := B.v.c4; have z5 := B.v.c5; have z6 := B.v.c6; have z7 := B.v.c7; have z8 := B.v.c8)
        | (go_at_call 13; refine (DO _ B).mono ?_; rintro e w7 ⟨rfl, s7, B7, o7, -⟩))
      have g7 := grow1 w7 (.cells #[.int .i64 0, .int .u64 0, .int .i64 0, .int .i64 st7] 37)
      have d7 := At.new w7 37 [.int .i64 0, .int .u64 0, .int .i64 0, .int .i64 st7]
      have B8 := B7.grown g7
      have q8 := (q1'.only o7 LS).grown g7
      have HP7 : Hid (7 < s7.n) := by unfold Hid; have := B7.tw.len; omega
      have HPA : Hid (A + 1 < s7.n) := by unfold Hid; have := B7.tw.len; omega
      have HV7 : Hid (s7.wd 7 = v2) := by unfold Hid; rw [← HQ7.out]; exact B7.tw.swv 0 (by decide)
      have HVA : Hid (s7.wd (A + 1) = c2) := by unfold Hid; rw [← HQA.out]; exact B7.tw.dwv _ (by omega)
      obtain ⟨D, hD⟩ : ∃ D, w7.heap.size = D := ⟨_, rfl⟩
      rw [hD] at d7
      try rw [hD]
      refine wp_over (fun W => ∃ σ7 q7, Spt w W L E 1 4 2 20 s7 σ7 q7 ∧ At W S 0 58 _ [.int .i64 2, .int .i64 A, .int .i64 1, .int .i64 V] ∧ At W D 0 37 _ [.int .i64 0, .int .u64 0, .int .i64 0, .int .i64 st7]) ⟨_, _, B8, q8, d7⟩ ?_
      clear B8 q8 d7 B7 o7 g7 q1' B DO hD z0 z1 z2 z3 z4 z5 z6 z7 z8
      rintro W ⟨σ7, q7, B, q1', d1⟩
      obtain ⟨Sz, hSz⟩ : ∃ Sz, W.heap.size = Sz := ⟨_, rfl⟩
      refine wp_region_rely_tail Grown 14 [.val (.pointer (some ⟨E, 7, none⟩)), .val (.pointer (some ⟨L.p, 0, none⟩)), .val (.int .i64 7), .val (.int .u64 v2), .val (.agg #[.int .i64 2, .int .i64 A, .int .i64 1, .int .i64 V]), .val (.pointer (some ⟨E, 7, none⟩)), .val (.pointer (some ⟨L.p, 0, none⟩)), .val (.pointer (some ⟨S, 1, none⟩)), .val (.int .i64 A), .val (.int .i64 ((A + 1 : Nat) : Int)), .val (.int .u64 c2), .val (.agg #[.int .i64 0, .bool false, .int .i64 0]), .that (fun w' v => ∃ X, v = .pointer (some ⟨X, 0, none⟩) ∧ Sz ≤ X ∧ At w' X 0 58 #[.int .i64 0, .int .i64 0, .int .i64 0, .int .i64 0] [.int .i64 0, .int .i64 0, .int .i64 0, .int .i64 0]) (fun x1 y1 v hg h => h.imp fun X k => ⟨k.1, k.2.1, k.2.2.grown hg⟩), .that (fun w' v => ∃ X, v = .pointer (some ⟨X, 0, none⟩) ∧ Sz ≤ X ∧ At w' X 0 64 #[.int .i64 0, .bool false, .int .i64 0] [.int .i64 0, .bool false, .int .i64 0]) (fun x1 y1 v hg h => h.imp fun X k => ⟨k.1, k.2.1, k.2.2.grown hg⟩)] (by kernel_rfl) Grown.refl Grown.trans (by decide) (by kernel_rfl) (by kernel_rfl) (by kernel_rfl) (by kernel_rfl) (by kernel_rfl) (by kernel_rfl) ?_
      simp only [List.take_succ_cons, List.take_zero, relyAll, Act.put, List.setIfInBounds_toArray, List.set_cons_zero, List.set_cons_succ]
      refine ⟨?_, ?_, ?_, ?_, ?_, ?_, ?_, ?_, ?_, ?_, ?_, ?_, ?_, fun v1 => ⟨?_, fun v2' => ?_⟩⟩
      · intro w' hg _
        refine Or.inl ⟨rfl, ?_⟩
        go_simp
        exact ⟨Grown.refl _, rfl⟩
      · intro w' hg _
        refine Or.inl ⟨rfl, ?_⟩
        have vv := (B.drew.grown hg).v
        have y0 := vv.c0
        have y1 := vv.c1
        have y2 := vv.c2
        have y3 := vv.c3
        have y4 := vv.c4
        have y5 := vv.c5
        have y6 := vv.c6
        have y7 := vv.c7
        have y8 := vv.c8
        go_simp
        exact ⟨Grown.refl _, rfl⟩
      · intro w' hg _
        refine Or.inl ⟨rfl, ?_⟩
        go_simp
        exact ⟨Grown.refl _, rfl⟩
      · intro w' hg _
        refine Or.inl ⟨rfl, ?_⟩
        go_simp
        refine (peek_is (B.drew.grown hg).mm 7 HP7.out v2 HV7.out).mono ?_
        rintro e w'' ⟨rfl, rfl⟩
        exact ⟨_, rfl, Grown.refl _, rfl⟩
      · intro w' hg _
        refine Or.inl ⟨rfl, ?_⟩
        go_simp
        refine (is2 _).mono ?_
        rintro e w'' ⟨rfl, b9⟩
        exact ⟨_, rfl, b9, rfl⟩
      · intro w' hg _
        refine Or.inl ⟨rfl, ?_⟩
        go_simp
        exact ⟨Grown.refl _, rfl⟩
      · intro w' hg _
        refine Or.inl ⟨rfl, ?_⟩
        have vv := (B.drew.grown hg).v
        have y0 := vv.c0
        have y1 := vv.c1
        have y2 := vv.c2
        have y3 := vv.c3
        have y4 := vv.c4
        have y5 := vv.c5
        have y6 := vv.c6
        have y7 := vv.c7
        have y8 := vv.c8
        go_simp
        exact ⟨Grown.refl _, rfl⟩
      · intro w' hg _
        refine Or.inl ⟨rfl, ?_⟩
        go_simp
        exact ⟨Grown.refl _, rfl⟩
      · intro w' hg _
        refine Or.inl ⟨rfl, ?_⟩
        have z := (q1'.drew.grown hg).at0 1 rfl
        go_simp
        exact ⟨Grown.refl _, rfl⟩
      · intro w' hg _
        refine Or.inl ⟨rfl, ?_⟩
        go_simp
        exact ⟨Grown.refl _, congrArg (Value.int .i64) (by first | rfl | omega | (rw [IntKind.wrap_i64]; omega))⟩
      · intro w' hg _
        refine Or.inl ⟨rfl, ?_⟩
        go_simp
        refine (peek_is (B.drew.grown hg).mm (A + 1) HPA.out c2 HVA.out).mono ?_
        rintro e w'' ⟨rfl, rfl⟩
        exact ⟨_, rfl, Grown.refl _, rfl⟩
      · intro w' hg _
        refine Or.inl ⟨rfl, ?_⟩
        go_simp
        refine (cs2 _).mono ?_
        rintro e w'' ⟨rfl, b9⟩
        exact ⟨_, rfl, b9, rfl⟩
      · intro w' hg _
        refine Or.inl ⟨rfl, ?_⟩
        have hz : Sz ≤ w'.heap.size := by have := hg.size; have e : W.drew.heap.size = W.heap.size := rfl; omega
        have q := At.new w' 58 [.int .i64 0, .int .i64 0, .int .i64 0, .int .i64 0]
        go_simp
        exact ⟨grow_alloc (Below.refl _ _) _, _, rfl, hz, q⟩
      · intro w' hg _
        refine Or.inl ⟨rfl, ?_⟩
        have hz : Sz ≤ w'.heap.size := by have := hg.size; have e : W.drew.heap.size = W.heap.size := rfl; omega
        have q := At.new w' 64 [.int .i64 0, .bool false, .int .i64 0]
        go_simp
        exact ⟨grow_alloc (Below.refl _ _) _, _, rfl, hz, q⟩
      intro w8 hg hf
      obtain ⟨C8, rfl, hC8, k8⟩ := hf.1
      obtain ⟨S8, rfl, hS8, p8⟩ := hf.2.1
      have hne : S8 ≠ C8 := fun e => by
        subst e
        have := p8.obj.symm.trans k8.obj
        simp at this
      have b8 : Below w.heap.size w w8 := grow B.b.drew hg
      have q9 := q1'.drew.grown hg
      have d9 := d1.drew.grown hg
      have hSS : S ≠ S8 := by have := q1'.lt; omega
      have hSC : S ≠ C8 := by have := q1'.lt; omega
      have hDS : D ≠ S8 := by have := d1.lt; omega
      have hDC : D ≠ C8 := by have := d1.lt; omega
      have hwS : w.heap.size ≤ S8 := by have := B.b.size; omega
      have hwC : w.heap.size ≤ C8 := by have := B.b.size; omega
      have x0 := p8.at0 0 rfl
      have x1 := p8.at0 1 rfl
      have x2 := p8.at0 2 rfl
      have x3 := p8.at0 3 rfl
      have xf := p8.fz
      have p9 := ((((p8.put0 0 (.int .i64 2)).put0 1 (.int .i64 A)).put0 2 (.int .i64 1)).put0 3 (.int .i64 V))
      have k9 := ((((k8.other hne.symm 0 (.int .i64 2)).other hne.symm 1 (.int .i64 A)).other hne.symm 2 (.int .i64 1)).other hne.symm 3 (.int .i64 V))
      have y0 := k9.at0 0 rfl
      have y1 := k9.at0 1 rfl
      have y2 := k9.at0 2 rfl
      have yf := k9.fz
      have q9 := (((((((q9.other hSS 0 (.int .i64 2)).other hSS 1 (.int .i64 A)).other hSS 2 (.int .i64 1)).other hSS 3 (.int .i64 V)).other hSC 0 (.int .i64 0)).other hSC 1 (.bool false)).other hSC 2 (.int .i64 0))
      have d9 := (((((((d9.other hDS 0 (.int .i64 2)).other hDS 1 (.int .i64 A)).other hDS 2 (.int .i64 1)).other hDS 3 (.int .i64 V)).other hDC 0 (.int .i64 0)).other hDC 1 (.bool false)).other hDC 2 (.int .i64 0))
      have b9 := (below_setIn (below_setIn (below_setIn (below_setIn (below_setIn (below_setIn (below_setIn b8 hwS 0 (.int .i64 2)) hwS 1 (.int .i64 A)) hwS 2 (.int .i64 1)) hwS 3 (.int .i64 V)) hwC 0 (.int .i64 0)) hwC 1 (.bool false)) hwC 2 (.int .i64 0))
      have p9 := (((p9.other hne 0 (.int .i64 0)).other hne 1 (.bool false)).other hne 2 (.int .i64 0))
      have k9 := (((k9.put0 0 (.int .i64 0)).put0 1 (.bool false)).put0 2 (.int .i64 0))
      clear hf hg hC8 hS8 hSz B q1' d1 p8 k8 b8
      have a0 := q9.at0 0 rfl
      have a1 := q9.at0 1 rfl
      have a2 := q9.at0 2 rfl
      have a3 := q9.at0 3 rfl
      have e0 := d9.at0 0 rfl
      have e2 := d9.at0 2 rfl
      have r0 := p9.at0 0 rfl
      have r1 := p9.at0 1 rfl
      have r2 := p9.at0 2 rfl
      have r3 := p9.at0 3 rfl
      have u0 := k9.at0 0 rfl
      have u1 := k9.at0 1 rfl
      have u2 := k9.at0 2 rfl
      go_wp2
      go_ret
      exact ⟨rfl, b9⟩
    · have hk2 : bits .and .i64 kind 1 = 1 := hk
      have RN := HH.out.write (σ := σ6) hcell
      skip
      obtain ⟨v2, hv2⟩ : ∃ v2, ({ q1 with dw := upd q1.dw (A + 1) 9 }).sw 0 = v2 := ⟨_, rfl⟩
      obtain ⟨c2, hc2⟩ : ∃ c2, ({ q1 with dw := upd q1.dw (A + 1) 9 }).dw (A + 1) = c2 := ⟨_, rfl⟩
      have is2 : ∀ w : World, Calls Tryz.prog 22 #[.int .u64 v2] w fun e w' => e = .returned (.agg #[.int .i64 2, .int .i64 A, .int .i64 1, .int .i64 V]) ∧ Below w.heap.size w w' := by
        have := sl1.call
        rw [← hv2]
        rw [show ({ q1 with dw := upd q1.dw (A + 1) 9 } : Q).sw 0 = q1.sw 0 from rfl, HW.out]
        exact this
      have cs2 : ∀ w : World, Calls Tryz.prog 26 #[.int .u64 c2] w fun e w' => e = .returned (.agg #[.int .i64 9, .bool false, .int .i64 0]) ∧ Below w.heap.size w w' := by
        rw [← hc2, show ({ q1 with dw := upd q1.dw (A + 1) 9 } : Q).dw (A + 1) = 9 from upd_same q1.dw (A + 1) 9]
        exact fun w => (cellIs 9 ⟨by decide, by decide⟩).call w
      have HQ7 : Hid (({ q1 with dw := upd q1.dw (A + 1) 9 }).sw 0 = v2) := hv2
      have HQA : Hid (({ q1 with dw := upd q1.dw (A + 1) 9 }).dw (A + 1) = c2) := hc2
      obtain ⟨st7, hst7⟩ : ∃ st7 : Nat, σ6 + 4 = st7 := ⟨_, rfl⟩
      rw [hst7] at RN
      have DO := fun (w1 : World) (f1 : Spt w w1 L E 1 4 2 20 s5 σ6 q1) => f1.do (W := wtR 2) (own := false) FA.out HH.out.s.wd hand01 (by decide) ⟨by unfold wtR; decide, ⟨by decide, by decide⟩⟩ (by omega) (by decide) RN
      clear RN hv2 hc2 hst7 hcell
      refine wp_region_rely_tail Grown 5 [.val (.pointer (some ⟨E, 7, none⟩)), .val (.pointer (some ⟨L.p, 0, none⟩)), .val (.int .i64 7), .val (.agg #[.int .i64 2, .int .i64 A, .int .i64 1, .int .i64 V]), .val (.int .u64 v)] (by kernel_rfl) Grown.refl Grown.trans (by decide) (by kernel_rfl) (by kernel_rfl) (by kernel_rfl) (by kernel_rfl) (by kernel_rfl) (by kernel_rfl) ?_
      simp only [List.take_succ_cons, List.take_zero, relyAll, Act.put, List.setIfInBounds_toArray, List.set_cons_zero, List.set_cons_succ]
      refine ⟨?_, ?_, ?_, ?_, ?_, ?_⟩
      · intro w' hg _
        refine Or.inl ⟨rfl, ?_⟩
        go_simp
        exact ⟨Grown.refl _, rfl⟩
      · intro w' hg _
        refine Or.inl ⟨rfl, ?_⟩
        have vv := (B.drew.grown hg).v
        have y0 := vv.c0
        have y1 := vv.c1
        have y2 := vv.c2
        have y3 := vv.c3
        have y4 := vv.c4
        have y5 := vv.c5
        have y6 := vv.c6
        have y7 := vv.c7
        have y8 := vv.c8
        go_simp
        exact ⟨Grown.refl _, rfl⟩
      · intro w' hg _
        refine Or.inl ⟨rfl, ?_⟩
        go_simp
        exact ⟨Grown.refl _, rfl⟩
      · intro w' hg _
        refine Or.inl ⟨rfl, ?_⟩
        have z0 := (q1'.drew.grown hg).at0 0 rfl
        have z1 := (q1'.drew.grown hg).at0 1 rfl
        have z2 := (q1'.drew.grown hg).at0 2 rfl
        have z3 := (q1'.drew.grown hg).at0 3 rfl
        go_simp
        exact ⟨Grown.refl _, rfl⟩
      · intro w' hg _
        refine Or.inl ⟨rfl, ?_⟩
        go_simp
        refine (ps _).mono ?_
        rintro e w'' ⟨rfl, b9⟩
        exact ⟨_, rfl, b9, rfl⟩
      intro w5 hg _
      have B5 := B.drew.grown hg
      have q5 := q1'.drew.grown hg
      clear hg B q1'
      go_wp2_with (first
        | (go_at_call 23; refine (store_in B5.mm (7) hpk v).mono ?_; rintro e w6 ⟨rfl, m6, o6, -⟩; rw [HS5.out] at m6; have B : Spt w w6 L E 1 4 2 20 s5 σ6 q1 := ⟨m6, T1.out, B5.v.only o6 FA.out.e, mgrow B5.b o6 FA.out.l0⟩; have q1' := q5.only o6 LS; have z0 := B.v.c0; have z1 := B.v.c1; have z2 := B.v.c2; have z3 := B.v.c3; have z4 := B.v.c4; have z5 := B.v.c5; have z6 := B.v.c6; have z7 := B.v.c7; have z8 := B.v.c8)
        | (go_at_call 13; refine (DO _ B).mono ?_; rintro e w7 ⟨rfl, s7, B7, o7, -⟩))
      have g7 := grow1 w7 (.cells #[.int .i64 0, .int .u64 0, .int .i64 0, .int .i64 st7] 37)
      have d7 := At.new w7 37 [.int .i64 0, .int .u64 0, .int .i64 0, .int .i64 st7]
      have B8 := B7.grown g7
      have q8 := (q1'.only o7 LS).grown g7
      have HP7 : Hid (7 < s7.n) := by unfold Hid; have := B7.tw.len; omega
      have HPA : Hid (A + 1 < s7.n) := by unfold Hid; have := B7.tw.len; omega
      have HV7 : Hid (s7.wd 7 = v2) := by unfold Hid; rw [← HQ7.out]; exact B7.tw.swv 0 (by decide)
      have HVA : Hid (s7.wd (A + 1) = c2) := by unfold Hid; rw [← HQA.out]; exact B7.tw.dwv _ (by omega)
      obtain ⟨D, hD⟩ : ∃ D, w7.heap.size = D := ⟨_, rfl⟩
      rw [hD] at d7
      try rw [hD]
      refine wp_over (fun W => ∃ σ7 q7, Spt w W L E 1 4 2 20 s7 σ7 q7 ∧ At W S 0 58 _ [.int .i64 2, .int .i64 A, .int .i64 1, .int .i64 V] ∧ At W D 0 37 _ [.int .i64 0, .int .u64 0, .int .i64 0, .int .i64 st7]) ⟨_, _, B8, q8, d7⟩ ?_
      clear B8 q8 d7 B7 o7 g7 q1' B DO hD z0 z1 z2 z3 z4 z5 z6 z7 z8
      rintro W ⟨σ7, q7, B, q1', d1⟩
      obtain ⟨Sz, hSz⟩ : ∃ Sz, W.heap.size = Sz := ⟨_, rfl⟩
      refine wp_region_rely_tail Grown 14 [.val (.pointer (some ⟨E, 7, none⟩)), .val (.pointer (some ⟨L.p, 0, none⟩)), .val (.int .i64 7), .val (.int .u64 v2), .val (.agg #[.int .i64 2, .int .i64 A, .int .i64 1, .int .i64 V]), .val (.pointer (some ⟨E, 7, none⟩)), .val (.pointer (some ⟨L.p, 0, none⟩)), .val (.pointer (some ⟨S, 1, none⟩)), .val (.int .i64 A), .val (.int .i64 ((A + 1 : Nat) : Int)), .val (.int .u64 c2), .val (.agg #[.int .i64 9, .bool false, .int .i64 0]), .that (fun w' v => ∃ X, v = .pointer (some ⟨X, 0, none⟩) ∧ Sz ≤ X ∧ At w' X 0 58 #[.int .i64 0, .int .i64 0, .int .i64 0, .int .i64 0] [.int .i64 0, .int .i64 0, .int .i64 0, .int .i64 0]) (fun x1 y1 v hg h => h.imp fun X k => ⟨k.1, k.2.1, k.2.2.grown hg⟩), .that (fun w' v => ∃ X, v = .pointer (some ⟨X, 0, none⟩) ∧ Sz ≤ X ∧ At w' X 0 64 #[.int .i64 0, .bool false, .int .i64 0] [.int .i64 0, .bool false, .int .i64 0]) (fun x1 y1 v hg h => h.imp fun X k => ⟨k.1, k.2.1, k.2.2.grown hg⟩)] (by kernel_rfl) Grown.refl Grown.trans (by decide) (by kernel_rfl) (by kernel_rfl) (by kernel_rfl) (by kernel_rfl) (by kernel_rfl) (by kernel_rfl) ?_
      simp only [List.take_succ_cons, List.take_zero, relyAll, Act.put, List.setIfInBounds_toArray, List.set_cons_zero, List.set_cons_succ]
      refine ⟨?_, ?_, ?_, ?_, ?_, ?_, ?_, ?_, ?_, ?_, ?_, ?_, ?_, fun v1 => ⟨?_, fun v2' => ?_⟩⟩
      · intro w' hg _
        refine Or.inl ⟨rfl, ?_⟩
        go_simp
        exact ⟨Grown.refl _, rfl⟩
      · intro w' hg _
        refine Or.inl ⟨rfl, ?_⟩
        have vv := (B.drew.grown hg).v
        have y0 := vv.c0
        have y1 := vv.c1
        have y2 := vv.c2
        have y3 := vv.c3
        have y4 := vv.c4
        have y5 := vv.c5
        have y6 := vv.c6
        have y7 := vv.c7
        have y8 := vv.c8
        go_simp
        exact ⟨Grown.refl _, rfl⟩
      · intro w' hg _
        refine Or.inl ⟨rfl, ?_⟩
        go_simp
        exact ⟨Grown.refl _, rfl⟩
      · intro w' hg _
        refine Or.inl ⟨rfl, ?_⟩
        go_simp
        refine (peek_is (B.drew.grown hg).mm 7 HP7.out v2 HV7.out).mono ?_
        rintro e w'' ⟨rfl, rfl⟩
        exact ⟨_, rfl, Grown.refl _, rfl⟩
      · intro w' hg _
        refine Or.inl ⟨rfl, ?_⟩
        go_simp
        refine (is2 _).mono ?_
        rintro e w'' ⟨rfl, b9⟩
        exact ⟨_, rfl, b9, rfl⟩
      · intro w' hg _
        refine Or.inl ⟨rfl, ?_⟩
        go_simp
        exact ⟨Grown.refl _, rfl⟩
      · intro w' hg _
        refine Or.inl ⟨rfl, ?_⟩
        have vv := (B.drew.grown hg).v
        have y0 := vv.c0
        have y1 := vv.c1
        have y2 := vv.c2
        have y3 := vv.c3
        have y4 := vv.c4
        have y5 := vv.c5
        have y6 := vv.c6
        have y7 := vv.c7
        have y8 := vv.c8
        go_simp
        exact ⟨Grown.refl _, rfl⟩
      · intro w' hg _
        refine Or.inl ⟨rfl, ?_⟩
        go_simp
        exact ⟨Grown.refl _, rfl⟩
      · intro w' hg _
        refine Or.inl ⟨rfl, ?_⟩
        have z := (q1'.drew.grown hg).at0 1 rfl
        go_simp
        exact ⟨Grown.refl _, rfl⟩
      · intro w' hg _
        refine Or.inl ⟨rfl, ?_⟩
        go_simp
        exact ⟨Grown.refl _, congrArg (Value.int .i64) (by first | rfl | omega | (rw [IntKind.wrap_i64]; omega))⟩
      · intro w' hg _
        refine Or.inl ⟨rfl, ?_⟩
        go_simp
        refine (peek_is (B.drew.grown hg).mm (A + 1) HPA.out c2 HVA.out).mono ?_
        rintro e w'' ⟨rfl, rfl⟩
        exact ⟨_, rfl, Grown.refl _, rfl⟩
      · intro w' hg _
        refine Or.inl ⟨rfl, ?_⟩
        go_simp
        refine (cs2 _).mono ?_
        rintro e w'' ⟨rfl, b9⟩
        exact ⟨_, rfl, b9, rfl⟩
      · intro w' hg _
        refine Or.inl ⟨rfl, ?_⟩
        have hz : Sz ≤ w'.heap.size := by have := hg.size; have e : W.drew.heap.size = W.heap.size := rfl; omega
        have q := At.new w' 58 [.int .i64 0, .int .i64 0, .int .i64 0, .int .i64 0]
        go_simp
        exact ⟨grow_alloc (Below.refl _ _) _, _, rfl, hz, q⟩
      · intro w' hg _
        refine Or.inl ⟨rfl, ?_⟩
        have hz : Sz ≤ w'.heap.size := by have := hg.size; have e : W.drew.heap.size = W.heap.size := rfl; omega
        have q := At.new w' 64 [.int .i64 0, .bool false, .int .i64 0]
        go_simp
        exact ⟨grow_alloc (Below.refl _ _) _, _, rfl, hz, q⟩
      intro w8 hg hf
      obtain ⟨C8, rfl, hC8, k8⟩ := hf.1
      obtain ⟨S8, rfl, hS8, p8⟩ := hf.2.1
      have hne : S8 ≠ C8 := fun e => by
        subst e
        have := p8.obj.symm.trans k8.obj
        simp at this
      have b8 : Below w.heap.size w w8 := grow B.b.drew hg
      have q9 := q1'.drew.grown hg
      have d9 := d1.drew.grown hg
      have hSS : S ≠ S8 := by have := q1'.lt; omega
      have hSC : S ≠ C8 := by have := q1'.lt; omega
      have hDS : D ≠ S8 := by have := d1.lt; omega
      have hDC : D ≠ C8 := by have := d1.lt; omega
      have hwS : w.heap.size ≤ S8 := by have := B.b.size; omega
      have hwC : w.heap.size ≤ C8 := by have := B.b.size; omega
      have x0 := p8.at0 0 rfl
      have x1 := p8.at0 1 rfl
      have x2 := p8.at0 2 rfl
      have x3 := p8.at0 3 rfl
      have xf := p8.fz
      have p9 := ((((p8.put0 0 (.int .i64 2)).put0 1 (.int .i64 A)).put0 2 (.int .i64 1)).put0 3 (.int .i64 V))
      have k9 := ((((k8.other hne.symm 0 (.int .i64 2)).other hne.symm 1 (.int .i64 A)).other hne.symm 2 (.int .i64 1)).other hne.symm 3 (.int .i64 V))
      have y0 := k9.at0 0 rfl
      have y1 := k9.at0 1 rfl
      have y2 := k9.at0 2 rfl
      have yf := k9.fz
      have q9 := (((((((q9.other hSS 0 (.int .i64 2)).other hSS 1 (.int .i64 A)).other hSS 2 (.int .i64 1)).other hSS 3 (.int .i64 V)).other hSC 0 (.int .i64 9)).other hSC 1 (.bool false)).other hSC 2 (.int .i64 0))
      have d9 := (((((((d9.other hDS 0 (.int .i64 2)).other hDS 1 (.int .i64 A)).other hDS 2 (.int .i64 1)).other hDS 3 (.int .i64 V)).other hDC 0 (.int .i64 9)).other hDC 1 (.bool false)).other hDC 2 (.int .i64 0))
      have b9 := (below_setIn (below_setIn (below_setIn (below_setIn (below_setIn (below_setIn (below_setIn b8 hwS 0 (.int .i64 2)) hwS 1 (.int .i64 A)) hwS 2 (.int .i64 1)) hwS 3 (.int .i64 V)) hwC 0 (.int .i64 9)) hwC 1 (.bool false)) hwC 2 (.int .i64 0))
      have p9 := (((p9.other hne 0 (.int .i64 9)).other hne 1 (.bool false)).other hne 2 (.int .i64 0))
      have k9 := (((k9.put0 0 (.int .i64 9)).put0 1 (.bool false)).put0 2 (.int .i64 0))
      clear hf hg hC8 hS8 hSz B q1' d1 p8 k8 b8
      have a0 := q9.at0 0 rfl
      have a1 := q9.at0 1 rfl
      have a2 := q9.at0 2 rfl
      have a3 := q9.at0 3 rfl
      have e0 := d9.at0 0 rfl
      have e2 := d9.at0 2 rfl
      have r0 := p9.at0 0 rfl
      have r1 := p9.at0 1 rfl
      have r2 := p9.at0 2 rfl
      have r3 := p9.at0 3 rfl
      have u0 := k9.at0 0 rfl
      have u1 := k9.at0 1 rfl
      have u2 := k9.at0 2 rfl
      go_wp2
      go_ret
      exact ⟨rfl, b9⟩
  | true =>
    obtain ⟨s5, hs5⟩ : ∃ s5, s3.step 7 v = s5 := ⟨_, rfl⟩
    have HS5 : Hid (s3.step 7 v = s5) := hs5
    rw [hs5] at T1
    have hn5 : s5.n = s3.n := by rw [← hs5]; rfl
    have T2 : Hid (Town 1 4 2 20 (s5.step (A + 1) (packX 3 true V)) (σ3 + 1 + 1) { q1 with dw := upd q1.dw (A + 1) (packX 3 true V) }) := T1.out.lays (by omega) s5.who (by omega) _
    have hpA : A + 1 < s5.n := by have := T1.out.len; omega
    obtain ⟨s6, hs6⟩ : ∃ s6, s5.step (A + 1) (packX 3 true V) = s6 := ⟨_, rfl⟩
    obtain ⟨q6x, hq6⟩ : ∃ q6x : Q, { q1 with dw := upd q1.dw (A + 1) (packX 3 true V) } = q6x := ⟨_, rfl⟩
    obtain ⟨σ6, hσ6⟩ : ∃ σ6, σ3 + 1 + 1 = σ6 := ⟨_, rfl⟩
    rw [hs6, hq6, hσ6] at T2
    have HS6 : Hid (s5.step (A + 1) (packX 3 true V) = s6) := hs6
    have HH : Hid (Halt q6x v A V) := by
      unfold Hid
      rw [← hq6]
      have S2 := H1.s.upd (j := 0) (packX_wd 3 true V)
      rw [H1.ad] at S2
      exact ⟨S2, H1.st, H1.ad, H1.vr, H1.vb⟩
    have hcell : q6x.dw (A + 1) = packX 3 true V := by rw [← hq6]; exact upd_same q1.dw (A + 1) (packX 3 true V)
    have HW : Hid (q6x.sw 0 = v) := by unfold Hid; rw [← hq6]; exact w1v
    have hσ6' : σ6 ≤ 300 := by omega
    clear hs6 hq6 H1 z1 w1v hσ6 hs5
    rcases low1 kind with hk | hk
    · have hk2 : bits .and .i64 kind 1 = 0 := hk
      have RN := HH.out.read (σ := σ6) hcell
      rw [show vOf (packX 3 true V) = 3 from (froze_dec 3 V (by decide) (by decide) (by omega)).1] at RN
      obtain ⟨v2, hv2⟩ : ∃ v2, (q6x).sw 0 = v2 := ⟨_, rfl⟩
      obtain ⟨c2, hc2⟩ : ∃ c2, (q6x).dw (A + 1) = c2 := ⟨_, rfl⟩
      have is2 : ∀ w : World, Calls Tryz.prog 22 #[.int .u64 v2] w fun e w' => e = .returned (.agg #[.int .i64 2, .int .i64 A, .int .i64 1, .int .i64 V]) ∧ Below w.heap.size w w' := by
        have := sl1.call
        rw [← hv2, HW.out]
        exact this
      have cs2 : ∀ w : World, Calls Tryz.prog 26 #[.int .u64 c2] w fun e w' => e = .returned (.agg #[.int .i64 3, .bool true, .int .i64 V]) ∧ Below w.heap.size w w' := by
        rw [← hc2, hcell]
        exact fun w => ((cellIs _ (packX_wd _ _ _)).call w).mono (by rintro e w' ⟨rfl, b⟩; obtain ⟨c1, c2, c3⟩ := froze_dec 3 V (by decide) (by decide) (by omega); rw [c1, c2, c3]; exact ⟨rfl, b⟩)
      have HQ7 : Hid ((q6x).sw 0 = v2) := hv2
      have HQA : Hid ((q6x).dw (A + 1) = c2) := hc2
      obtain ⟨st7, hst7⟩ : ∃ st7 : Nat, σ6 + 3 = st7 := ⟨_, rfl⟩
      rw [hst7] at RN
      have DO := fun (w1 : World) (f1 : Spt w w1 L E 1 4 2 20 s6 σ6 q6x) => f1.do (W := wtR 1) (own := false) FA.out HH.out.s.wd hand01 (by decide) ⟨by unfold wtR; decide, ⟨by decide, by decide⟩⟩ (by omega) (by decide) RN
      clear RN hv2 hc2 hst7 hcell
      refine wp_region_rely_tail Grown 5 [.val (.pointer (some ⟨E, 7, none⟩)), .val (.pointer (some ⟨L.p, 0, none⟩)), .val (.int .i64 7), .val (.agg #[.int .i64 2, .int .i64 A, .int .i64 1, .int .i64 V]), .val (.int .u64 v)] (by kernel_rfl) Grown.refl Grown.trans (by decide) (by kernel_rfl) (by kernel_rfl) (by kernel_rfl) (by kernel_rfl) (by kernel_rfl) (by kernel_rfl) ?_
      simp only [List.take_succ_cons, List.take_zero, relyAll, Act.put, List.setIfInBounds_toArray, List.set_cons_zero, List.set_cons_succ]
      refine ⟨?_, ?_, ?_, ?_, ?_, ?_⟩
      · intro w' hg _
        refine Or.inl ⟨rfl, ?_⟩
        go_simp
        exact ⟨Grown.refl _, rfl⟩
      · intro w' hg _
        refine Or.inl ⟨rfl, ?_⟩
        have vv := (B.drew.grown hg).v
        have y0 := vv.c0
        have y1 := vv.c1
        have y2 := vv.c2
        have y3 := vv.c3
        have y4 := vv.c4
        have y5 := vv.c5
        have y6 := vv.c6
        have y7 := vv.c7
        have y8 := vv.c8
        go_simp
        exact ⟨Grown.refl _, rfl⟩
      · intro w' hg _
        refine Or.inl ⟨rfl, ?_⟩
        go_simp
        exact ⟨Grown.refl _, rfl⟩
      · intro w' hg _
        refine Or.inl ⟨rfl, ?_⟩
        have z0 := (q1'.drew.grown hg).at0 0 rfl
        have z1 := (q1'.drew.grown hg).at0 1 rfl
        have z2 := (q1'.drew.grown hg).at0 2 rfl
        have z3 := (q1'.drew.grown hg).at0 3 rfl
        go_simp
        exact ⟨Grown.refl _, rfl⟩
      · intro w' hg _
        refine Or.inl ⟨rfl, ?_⟩
        go_simp
        refine (ps _).mono ?_
        rintro e w'' ⟨rfl, b9⟩
        exact ⟨_, rfl, b9, rfl⟩
      intro w5 hg _
      have B5 := B.drew.grown hg
      have q5 := q1'.drew.grown hg
      clear hg B q1'
      go_wp2_with (go_at_call 23; refine (store_in B5.mm (7) hpk v).mono ?_; rintro e w6 ⟨rfl, m6, o6, -⟩; rw [HS5.out] at m6; have B : Spt w w6 L E 1 4 2 20 s5 (σ3 + 1) q1 := ⟨m6, T1.out, B5.v.only o6 FA.out.e, mgrow B5.b o6 FA.out.l0⟩; have q1' := q5.only o6 LS)
      refine wp_over (fun W => Spt w W L E 1 4 2 20 s5 (σ3 + 1) q1 ∧ At W S 0 58 _ [.int .i64 2, .int .i64 A, .int .i64 1, .int .i64 V]) ⟨B, q1'⟩ ?_
      clear B q1' B5 q5 m6 o6
      rintro W ⟨B, q1'⟩
      refine wp_region_rely_tail Grown 9 [.val (.pointer (some ⟨E, 7, none⟩)), .val (.pointer (some ⟨L.p, 0, none⟩)), .val (.pointer (some ⟨S, 1, none⟩)), .val (.int .i64 A), .val (.int .i64 ((A + 1 : Nat) : Int)), .val (.pointer (some ⟨S, 3, none⟩)), .val (.int .i64 V), .val (.agg #[.int .i64 3, .bool true, .int .i64 V]), .val (.int .u64 (packX 3 true V))] (by kernel_rfl) Grown.refl Grown.trans (by decide) (by kernel_rfl) (by kernel_rfl) (by kernel_rfl) (by kernel_rfl) (by kernel_rfl) (by kernel_rfl) ?_
      simp only [List.take_succ_cons, List.take_zero, relyAll, Act.put, List.setIfInBounds_toArray, List.set_cons_zero, List.set_cons_succ]
      refine ⟨?_, ?_, ?_, ?_, ?_, ?_, ?_, ?_, ?_, ?_⟩
      · intro w' hg _
        refine Or.inl ⟨rfl, ?_⟩
        go_simp
        exact ⟨Grown.refl _, rfl⟩
      · intro w' hg _
        refine Or.inl ⟨rfl, ?_⟩
        have vv := (B.drew.grown hg).v
        have y0 := vv.c0
        have y1 := vv.c1
        have y2 := vv.c2
        have y3 := vv.c3
        have y4 := vv.c4
        have y5 := vv.c5
        have y6 := vv.c6
        have y7 := vv.c7
        have y8 := vv.c8
        go_simp
        exact ⟨Grown.refl _, rfl⟩
      · intro w' hg _
        refine Or.inl ⟨rfl, ?_⟩
        go_simp
        exact ⟨Grown.refl _, rfl⟩
      · intro w' hg _
        refine Or.inl ⟨rfl, ?_⟩
        have z := (q1'.drew.grown hg).at0 1 rfl
        go_simp
        exact ⟨Grown.refl _, rfl⟩
      · intro w' hg _
        refine Or.inl ⟨rfl, ?_⟩
        go_simp
        exact ⟨Grown.refl _, congrArg (Value.int .i64) (by first | rfl | omega | (rw [IntKind.wrap_i64]; omega))⟩
      · intro w' hg _
        refine Or.inl ⟨rfl, ?_⟩
        go_simp
        exact ⟨Grown.refl _, rfl⟩
      · intro w' hg _
        refine Or.inl ⟨rfl, ?_⟩
        have z := (q1'.drew.grown hg).at0 3 rfl
        go_simp
        exact ⟨Grown.refl _, rfl⟩
      · intro w' hg _
        refine Or.inl ⟨rfl, ?_⟩
        go_simp
        exact ⟨Grown.refl _, rfl⟩
      · intro w' hg _
        refine Or.inl ⟨rfl, ?_⟩
        go_simp
        refine (pc _).mono ?_
        rintro e w'' ⟨rfl, b9⟩
        exact ⟨_, rfl, b9, rfl⟩
      intro w5 hg _
      have B5 := B.drew.grown hg
      have q5 := q1'.drew.grown hg
      clear hg B q1'
      go_wp2_with (first
        | (go_at_call 23; refine (store_in B5.mm (A + 1) hpA (packX 3 true V)).mono ?_; rintro e w6 ⟨rfl, m6, o6, -⟩; rw [HS6.out] at m6; have B : Spt w w6 L E 1 4 2 20 s6 σ6 q6x := ⟨m6, T2.out, B5.v.only o6 FA.out.e, mgrow B5.b o6 FA.out.l0⟩; have q1' := q5.only o6 LS; have z0 := B.v.c0; have z1 := B.v.c1; have z2 := B.v.c2; have z3 := B.v.c3; have z4 := B.v.c4; have z5 := B.v.c5; have z6 := B.v.c6; have z7 := B.v.c7; have z8 := B.v.c8)
        | (go_at_call 13; refine (DO _ B).mono ?_; rintro e w7 ⟨rfl, s7, B7, o7, -⟩))
      have g7 := grow1 w7 (.cells #[.int .i64 0, .int .u64 0, .int .i64 3, .int .i64 st7] 37)
      have d7 := At.new w7 37 [.int .i64 0, .int .u64 0, .int .i64 3, .int .i64 st7]
      have B8 := B7.grown g7
      have q8 := (q1'.only o7 LS).grown g7
      have HP7 : Hid (7 < s7.n) := by unfold Hid; have := B7.tw.len; omega
      have HPA : Hid (A + 1 < s7.n) := by unfold Hid; have := B7.tw.len; omega
      have HV7 : Hid (s7.wd 7 = v2) := by unfold Hid; rw [← HQ7.out]; exact B7.tw.swv 0 (by decide)
      have HVA : Hid (s7.wd (A + 1) = c2) := by unfold Hid; rw [← HQA.out]; exact B7.tw.dwv _ (by omega)
      obtain ⟨D, hD⟩ : ∃ D, w7.heap.size = D := ⟨_, rfl⟩
      rw [hD] at d7
      try rw [hD]
      refine wp_over (fun W => ∃ σ7 q7, Spt w W L E 1 4 2 20 s7 σ7 q7 ∧ At W S 0 58 _ [.int .i64 2, .int .i64 A, .int .i64 1, .int .i64 V] ∧ At W D 0 37 _ [.int .i64 0, .int .u64 0, .int .i64 3, .int .i64 st7]) ⟨_, _, B8, q8, d7⟩ ?_
      clear B8 q8 d7 B7 o7 g7 q1' B DO hD z0 z1 z2 z3 z4 z5 z6 z7 z8
      rintro W ⟨σ7, q7, B, q1', d1⟩
      obtain ⟨Sz, hSz⟩ : ∃ Sz, W.heap.size = Sz := ⟨_, rfl⟩
      refine wp_region_rely_tail Grown 14 [.val (.pointer (some ⟨E, 7, none⟩)), .val (.pointer (some ⟨L.p, 0, none⟩)), .val (.int .i64 7), .val (.int .u64 v2), .val (.agg #[.int .i64 2, .int .i64 A, .int .i64 1, .int .i64 V]), .val (.pointer (some ⟨E, 7, none⟩)), .val (.pointer (some ⟨L.p, 0, none⟩)), .val (.pointer (some ⟨S, 1, none⟩)), .val (.int .i64 A), .val (.int .i64 ((A + 1 : Nat) : Int)), .val (.int .u64 c2), .val (.agg #[.int .i64 3, .bool true, .int .i64 V]), .that (fun w' v => ∃ X, v = .pointer (some ⟨X, 0, none⟩) ∧ Sz ≤ X ∧ At w' X 0 58 #[.int .i64 0, .int .i64 0, .int .i64 0, .int .i64 0] [.int .i64 0, .int .i64 0, .int .i64 0, .int .i64 0]) (fun x1 y1 v hg h => h.imp fun X k => ⟨k.1, k.2.1, k.2.2.grown hg⟩), .that (fun w' v => ∃ X, v = .pointer (some ⟨X, 0, none⟩) ∧ Sz ≤ X ∧ At w' X 0 64 #[.int .i64 0, .bool false, .int .i64 0] [.int .i64 0, .bool false, .int .i64 0]) (fun x1 y1 v hg h => h.imp fun X k => ⟨k.1, k.2.1, k.2.2.grown hg⟩)] (by kernel_rfl) Grown.refl Grown.trans (by decide) (by kernel_rfl) (by kernel_rfl) (by kernel_rfl) (by kernel_rfl) (by kernel_rfl) (by kernel_rfl) ?_
      simp only [List.take_succ_cons, List.take_zero, relyAll, Act.put, List.setIfInBounds_toArray, List.set_cons_zero, List.set_cons_succ]
      refine ⟨?_, ?_, ?_, ?_, ?_, ?_, ?_, ?_, ?_, ?_, ?_, ?_, ?_, fun v1 => ⟨?_, fun v2' => ?_⟩⟩
      · intro w' hg _
        refine Or.inl ⟨rfl, ?_⟩
        go_simp
        exact ⟨Grown.refl _, rfl⟩
      · intro w' hg _
        refine Or.inl ⟨rfl, ?_⟩
        have vv := (B.drew.grown hg).v
        have y0 := vv.c0
        have y1 := vv.c1
        have y2 := vv.c2
        have y3 := vv.c3
        have y4 := vv.c4
        have y5 := vv.c5
        have y6 := vv.c6
        have y7 := vv.c7
        have y8 := vv.c8
        go_simp
        exact ⟨Grown.refl _, rfl⟩
      · intro w' hg _
        refine Or.inl ⟨rfl, ?_⟩
        go_simp
        exact ⟨Grown.refl _, rfl⟩
      · intro w' hg _
        refine Or.inl ⟨rfl, ?_⟩
        go_simp
        refine (peek_is (B.drew.grown hg).mm 7 HP7.out v2 HV7.out).mono ?_
        rintro e w'' ⟨rfl, rfl⟩
        exact ⟨_, rfl, Grown.refl _, rfl⟩
      · intro w' hg _
        refine Or.inl ⟨rfl, ?_⟩
        go_simp
        refine (is2 _).mono ?_
        rintro e w'' ⟨rfl, b9⟩
        exact ⟨_, rfl, b9, rfl⟩
      · intro w' hg _
        refine Or.inl ⟨rfl, ?_⟩
        go_simp
        exact ⟨Grown.refl _, rfl⟩
      · intro w' hg _
        refine Or.inl ⟨rfl, ?_⟩
        have vv := (B.drew.grown hg).v
        have y0 := vv.c0
        have y1 := vv.c1
        have y2 := vv.c2
        have y3 := vv.c3
        have y4 := vv.c4
        have y5 := vv.c5
        have y6 := vv.c6
        have y7 := vv.c7
        have y8 := vv.c8
        go_simp
        exact ⟨Grown.refl _, rfl⟩
      · intro w' hg _
        refine Or.inl ⟨rfl, ?_⟩
        go_simp
        exact ⟨Grown.refl _, rfl⟩
      · intro w' hg _
        refine Or.inl ⟨rfl, ?_⟩
        have z := (q1'.drew.grown hg).at0 1 rfl
        go_simp
        exact ⟨Grown.refl _, rfl⟩
      · intro w' hg _
        refine Or.inl ⟨rfl, ?_⟩
        go_simp
        exact ⟨Grown.refl _, congrArg (Value.int .i64) (by first | rfl | omega | (rw [IntKind.wrap_i64]; omega))⟩
      · intro w' hg _
        refine Or.inl ⟨rfl, ?_⟩
        go_simp
        refine (peek_is (B.drew.grown hg).mm (A + 1) HPA.out c2 HVA.out).mono ?_
        rintro e w'' ⟨rfl, rfl⟩
        exact ⟨_, rfl, Grown.refl _, rfl⟩
      · intro w' hg _
        refine Or.inl ⟨rfl, ?_⟩
        go_simp
        refine (cs2 _).mono ?_
        rintro e w'' ⟨rfl, b9⟩
        exact ⟨_, rfl, b9, rfl⟩
      · intro w' hg _
        refine Or.inl ⟨rfl, ?_⟩
        have hz : Sz ≤ w'.heap.size := by have := hg.size; have e : W.drew.heap.size = W.heap.size := rfl; omega
        have q := At.new w' 58 [.int .i64 0, .int .i64 0, .int .i64 0, .int .i64 0]
        go_simp
        exact ⟨grow_alloc (Below.refl _ _) _, _, rfl, hz, q⟩
      · intro w' hg _
        refine Or.inl ⟨rfl, ?_⟩
        have hz : Sz ≤ w'.heap.size := by have := hg.size; have e : W.drew.heap.size = W.heap.size := rfl; omega
        have q := At.new w' 64 [.int .i64 0, .bool false, .int .i64 0]
        go_simp
        exact ⟨grow_alloc (Below.refl _ _) _, _, rfl, hz, q⟩
      intro w8 hg hf
      obtain ⟨C8, rfl, hC8, k8⟩ := hf.1
      obtain ⟨S8, rfl, hS8, p8⟩ := hf.2.1
      have hne : S8 ≠ C8 := fun e => by
        subst e
        have := p8.obj.symm.trans k8.obj
        simp at this
      have b8 : Below w.heap.size w w8 := grow B.b.drew hg
      have q9 := q1'.drew.grown hg
      have d9 := d1.drew.grown hg
      have hSS : S ≠ S8 := by have := q1'.lt; omega
      have hSC : S ≠ C8 := by have := q1'.lt; omega
      have hDS : D ≠ S8 := by have := d1.lt; omega
      have hDC : D ≠ C8 := by have := d1.lt; omega
      have hwS : w.heap.size ≤ S8 := by have := B.b.size; omega
      have hwC : w.heap.size ≤ C8 := by have := B.b.size; omega
      have x0 := p8.at0 0 rfl
      have x1 := p8.at0 1 rfl
      have x2 := p8.at0 2 rfl
      have x3 := p8.at0 3 rfl
      have xf := p8.fz
      have p9 := ((((p8.put0 0 (.int .i64 2)).put0 1 (.int .i64 A)).put0 2 (.int .i64 1)).put0 3 (.int .i64 V))
      have k9 := ((((k8.other hne.symm 0 (.int .i64 2)).other hne.symm 1 (.int .i64 A)).other hne.symm 2 (.int .i64 1)).other hne.symm 3 (.int .i64 V))
      have y0 := k9.at0 0 rfl
      have y1 := k9.at0 1 rfl
      have y2 := k9.at0 2 rfl
      have yf := k9.fz
      have q9 := (((((((q9.other hSS 0 (.int .i64 2)).other hSS 1 (.int .i64 A)).other hSS 2 (.int .i64 1)).other hSS 3 (.int .i64 V)).other hSC 0 (.int .i64 3)).other hSC 1 (.bool true)).other hSC 2 (.int .i64 V))
      have d9 := (((((((d9.other hDS 0 (.int .i64 2)).other hDS 1 (.int .i64 A)).other hDS 2 (.int .i64 1)).other hDS 3 (.int .i64 V)).other hDC 0 (.int .i64 3)).other hDC 1 (.bool true)).other hDC 2 (.int .i64 V))
      have b9 := (below_setIn (below_setIn (below_setIn (below_setIn (below_setIn (below_setIn (below_setIn b8 hwS 0 (.int .i64 2)) hwS 1 (.int .i64 A)) hwS 2 (.int .i64 1)) hwS 3 (.int .i64 V)) hwC 0 (.int .i64 3)) hwC 1 (.bool true)) hwC 2 (.int .i64 V))
      have p9 := (((p9.other hne 0 (.int .i64 3)).other hne 1 (.bool true)).other hne 2 (.int .i64 V))
      have k9 := (((k9.put0 0 (.int .i64 3)).put0 1 (.bool true)).put0 2 (.int .i64 V))
      clear hf hg hC8 hS8 hSz B q1' d1 p8 k8 b8
      have a0 := q9.at0 0 rfl
      have a1 := q9.at0 1 rfl
      have a2 := q9.at0 2 rfl
      have a3 := q9.at0 3 rfl
      have e0 := d9.at0 0 rfl
      have e2 := d9.at0 2 rfl
      have r0 := p9.at0 0 rfl
      have r1 := p9.at0 1 rfl
      have r2 := p9.at0 2 rfl
      have r3 := p9.at0 3 rfl
      have u0 := k9.at0 0 rfl
      have u1 := k9.at0 1 rfl
      have u2 := k9.at0 2 rfl
      go_wp2
      go_ret
      exact ⟨rfl, b9⟩
    · have hk2 : bits .and .i64 kind 1 = 1 := hk
      have RN := HH.out.stop (σ := σ6) hcell
      skip
      obtain ⟨v2, hv2⟩ : ∃ v2, ({ q6x with sw := upd q6x.sw 0 (stopW v), dw := upd q6x.dw (A + 1) 9 }).sw 0 = v2 := ⟨_, rfl⟩
      obtain ⟨c2, hc2⟩ : ∃ c2, ({ q6x with sw := upd q6x.sw 0 (stopW v), dw := upd q6x.dw (A + 1) 9 }).dw (A + 1) = c2 := ⟨_, rfl⟩
      have is2 : ∀ w : World, Calls Tryz.prog 22 #[.int .u64 v2] w fun e w' => e = .returned (.agg #[.int .i64 1, .int .i64 A, .int .i64 1, .int .i64 ((V : Int) + 1)]) ∧ Below w.heap.size w w' := by
        rw [← hv2, show ({ q6x with sw := upd q6x.sw 0 (stopW v), dw := upd q6x.dw (A + 1) 9 } : Q).sw 0 = stopW v from upd_same q6x.sw 0 (stopW v)]
        obtain ⟨d1, d2, d3, d4⟩ := stop_dec HH.out
        have := slotIs (stopW v) (stopW_wd v)
        rw [d1, d2, d3, d4] at this
        exact fun w => by have k := this.call w; rwa [show ((V + 1 : Nat) : Int) = (V : Int) + 1 by omega] at k
      have cs2 : ∀ w : World, Calls Tryz.prog 26 #[.int .u64 c2] w fun e w' => e = .returned (.agg #[.int .i64 9, .bool false, .int .i64 0]) ∧ Below w.heap.size w w' := by
        rw [← hc2, show ({ q6x with sw := upd q6x.sw 0 (stopW v), dw := upd q6x.dw (A + 1) 9 } : Q).dw (A + 1) = 9 from upd_same q6x.dw (A + 1) 9]
        exact fun w => (cellIs 9 ⟨by decide, by decide⟩).call w
      have HQ7 : Hid (({ q6x with sw := upd q6x.sw 0 (stopW v), dw := upd q6x.dw (A + 1) 9 }).sw 0 = v2) := hv2
      have HQA : Hid (({ q6x with sw := upd q6x.sw 0 (stopW v), dw := upd q6x.dw (A + 1) 9 }).dw (A + 1) = c2) := hc2
      obtain ⟨st7, hst7⟩ : ∃ st7 : Nat, σ6 + 8 = st7 := ⟨_, rfl⟩
      rw [hst7] at RN
      have DO := fun (w1 : World) (f1 : Spt w w1 L E 1 4 2 20 s6 σ6 q6x) => f1.do (W := wtR 2) (own := false) FA.out HH.out.s.wd hand01 (by decide) ⟨by unfold wtR; decide, ⟨by decide, by decide⟩⟩ (by omega) (by decide) RN
      clear RN hv2 hc2 hst7 hcell
      refine wp_region_rely_tail Grown 5 [.val (.pointer (some ⟨E, 7, none⟩)), .val (.pointer (some ⟨L.p, 0, none⟩)), .val (.int .i64 7), .val (.agg #[.int .i64 2, .int .i64 A, .int .i64 1, .int .i64 V]), .val (.int .u64 v)] (by kernel_rfl) Grown.refl Grown.trans (by decide) (by kernel_rfl) (by kernel_rfl) (by kernel_rfl) (by kernel_rfl) (by kernel_rfl) (by kernel_rfl) ?_
      simp only [List.take_succ_cons, List.take_zero, relyAll, Act.put, List.setIfInBounds_toArray, List.set_cons_zero, List.set_cons_succ]
      refine ⟨?_, ?_, ?_, ?_, ?_, ?_⟩
      · intro w' hg _
        refine Or.inl ⟨rfl, ?_⟩
        go_simp
        exact ⟨Grown.refl _, rfl⟩
      · intro w' hg _
        refine Or.inl ⟨rfl, ?_⟩
        have vv := (B.drew.grown hg).v
        have y0 := vv.c0
        have y1 := vv.c1
        have y2 := vv.c2
        have y3 := vv.c3
        have y4 := vv.c4
        have y5 := vv.c5
        have y6 := vv.c6
        have y7 := vv.c7
        have y8 := vv.c8
        go_simp
        exact ⟨Grown.refl _, rfl⟩
      · intro w' hg _
        refine Or.inl ⟨rfl, ?_⟩
        go_simp
        exact ⟨Grown.refl _, rfl⟩
      · intro w' hg _
        refine Or.inl ⟨rfl, ?_⟩
        have z0 := (q1'.drew.grown hg).at0 0 rfl
        have z1 := (q1'.drew.grown hg).at0 1 rfl
        have z2 := (q1'.drew.grown hg).at0 2 rfl
        have z3 := (q1'.drew.grown hg).at0 3 rfl
        go_simp
        exact ⟨Grown.refl _, rfl⟩
      · intro w' hg _
        refine Or.inl ⟨rfl, ?_⟩
        go_simp
        refine (ps _).mono ?_
        rintro e w'' ⟨rfl, b9⟩
        exact ⟨_, rfl, b9, rfl⟩
      intro w5 hg _
      have B5 := B.drew.grown hg
      have q5 := q1'.drew.grown hg
      clear hg B q1'
      go_wp2_with (go_at_call 23; refine (store_in B5.mm (7) hpk v).mono ?_; rintro e w6 ⟨rfl, m6, o6, -⟩; rw [HS5.out] at m6; have B : Spt w w6 L E 1 4 2 20 s5 (σ3 + 1) q1 := ⟨m6, T1.out, B5.v.only o6 FA.out.e, mgrow B5.b o6 FA.out.l0⟩; have q1' := q5.only o6 LS)
      refine wp_over (fun W => Spt w W L E 1 4 2 20 s5 (σ3 + 1) q1 ∧ At W S 0 58 _ [.int .i64 2, .int .i64 A, .int .i64 1, .int .i64 V]) ⟨B, q1'⟩ ?_
      clear B q1' B5 q5 m6 o6
      rintro W ⟨B, q1'⟩
      refine wp_region_rely_tail Grown 9 [.val (.pointer (some ⟨E, 7, none⟩)), .val (.pointer (some ⟨L.p, 0, none⟩)), .val (.pointer (some ⟨S, 1, none⟩)), .val (.int .i64 A), .val (.int .i64 ((A + 1 : Nat) : Int)), .val (.pointer (some ⟨S, 3, none⟩)), .val (.int .i64 V), .val (.agg #[.int .i64 3, .bool true, .int .i64 V]), .val (.int .u64 (packX 3 true V))] (by kernel_rfl) Grown.refl Grown.trans (by decide) (by kernel_rfl) (by kernel_rfl) (by kernel_rfl) (by kernel_rfl) (by kernel_rfl) (by kernel_rfl) ?_
      simp only [List.take_succ_cons, List.take_zero, relyAll, Act.put, List.setIfInBounds_toArray, List.set_cons_zero, List.set_cons_succ]
      refine ⟨?_, ?_, ?_, ?_, ?_, ?_, ?_, ?_, ?_, ?_⟩
      · intro w' hg _
        refine Or.inl ⟨rfl, ?_⟩
        go_simp
        exact ⟨Grown.refl _, rfl⟩
      · intro w' hg _
        refine Or.inl ⟨rfl, ?_⟩
        have vv := (B.drew.grown hg).v
        have y0 := vv.c0
        have y1 := vv.c1
        have y2 := vv.c2
        have y3 := vv.c3
        have y4 := vv.c4
        have y5 := vv.c5
        have y6 := vv.c6
        have y7 := vv.c7
        have y8 := vv.c8
        go_simp
        exact ⟨Grown.refl _, rfl⟩
      · intro w' hg _
        refine Or.inl ⟨rfl, ?_⟩
        go_simp
        exact ⟨Grown.refl _, rfl⟩
      · intro w' hg _
        refine Or.inl ⟨rfl, ?_⟩
        have z := (q1'.drew.grown hg).at0 1 rfl
        go_simp
        exact ⟨Grown.refl _, rfl⟩
      · intro w' hg _
        refine Or.inl ⟨rfl, ?_⟩
        go_simp
        exact ⟨Grown.refl _, congrArg (Value.int .i64) (by first | rfl | omega | (rw [IntKind.wrap_i64]; omega))⟩
      · intro w' hg _
        refine Or.inl ⟨rfl, ?_⟩
        go_simp
        exact ⟨Grown.refl _, rfl⟩
      · intro w' hg _
        refine Or.inl ⟨rfl, ?_⟩
        have z := (q1'.drew.grown hg).at0 3 rfl
        go_simp
        exact ⟨Grown.refl _, rfl⟩
      · intro w' hg _
        refine Or.inl ⟨rfl, ?_⟩
        go_simp
        exact ⟨Grown.refl _, rfl⟩
      · intro w' hg _
        refine Or.inl ⟨rfl, ?_⟩
        go_simp
        refine (pc _).mono ?_
        rintro e w'' ⟨rfl, b9⟩
        exact ⟨_, rfl, b9, rfl⟩
      intro w5 hg _
      have B5 := B.drew.grown hg
      have q5 := q1'.drew.grown hg
      clear hg B q1'
      go_wp2_with (first
        | (go_at_call 23; refine (store_in B5.mm (A + 1) hpA (packX 3 true V)).mono ?_; rintro e w6 ⟨rfl, m6, o6, -⟩; rw [HS6.out] at m6; have B : Spt w w6 L E 1 4 2 20 s6 σ6 q6x := ⟨m6, T2.out, B5.v.only o6 FA.out.e, mgrow B5.b o6 FA.out.l0⟩; have q1' := q5.only o6 LS; have z0 := B.v.c0; have z1 := B.v.c1; have z2 := B.v.c2; have z3 := B.v.c3; have z4 := B.v.c4; have z5 := B.v.c5; have z6 := B.v.c6; have z7 := B.v.c7; have z8 := B.v.c8)
        | (go_at_call 13; refine (DO _ B).mono ?_; rintro e w7 ⟨rfl, s7, B7, o7, -⟩))
      have g7 := grow1 w7 (.cells #[.int .i64 0, .int .u64 0, .int .i64 3, .int .i64 st7] 37)
      have d7 := At.new w7 37 [.int .i64 0, .int .u64 0, .int .i64 3, .int .i64 st7]
      have B8 := B7.grown g7
      have q8 := (q1'.only o7 LS).grown g7
      have HP7 : Hid (7 < s7.n) := by unfold Hid; have := B7.tw.len; omega
      have HPA : Hid (A + 1 < s7.n) := by unfold Hid; have := B7.tw.len; omega
      have HV7 : Hid (s7.wd 7 = v2) := by unfold Hid; rw [← HQ7.out]; exact B7.tw.swv 0 (by decide)
      have HVA : Hid (s7.wd (A + 1) = c2) := by unfold Hid; rw [← HQA.out]; exact B7.tw.dwv _ (by omega)
      obtain ⟨D, hD⟩ : ∃ D, w7.heap.size = D := ⟨_, rfl⟩
      rw [hD] at d7
      try rw [hD]
      refine wp_over (fun W => ∃ σ7 q7, Spt w W L E 1 4 2 20 s7 σ7 q7 ∧ At W S 0 58 _ [.int .i64 2, .int .i64 A, .int .i64 1, .int .i64 V] ∧ At W D 0 37 _ [.int .i64 0, .int .u64 0, .int .i64 3, .int .i64 st7]) ⟨_, _, B8, q8, d7⟩ ?_
      clear B8 q8 d7 B7 o7 g7 q1' B DO hD z0 z1 z2 z3 z4 z5 z6 z7 z8
      rintro W ⟨σ7, q7, B, q1', d1⟩
      obtain ⟨Sz, hSz⟩ : ∃ Sz, W.heap.size = Sz := ⟨_, rfl⟩
      refine wp_region_rely_tail Grown 14 [.val (.pointer (some ⟨E, 7, none⟩)), .val (.pointer (some ⟨L.p, 0, none⟩)), .val (.int .i64 7), .val (.int .u64 v2), .val (.agg #[.int .i64 1, .int .i64 A, .int .i64 1, .int .i64 ((V : Int) + 1)]), .val (.pointer (some ⟨E, 7, none⟩)), .val (.pointer (some ⟨L.p, 0, none⟩)), .val (.pointer (some ⟨S, 1, none⟩)), .val (.int .i64 A), .val (.int .i64 ((A + 1 : Nat) : Int)), .val (.int .u64 c2), .val (.agg #[.int .i64 9, .bool false, .int .i64 0]), .that (fun w' v => ∃ X, v = .pointer (some ⟨X, 0, none⟩) ∧ Sz ≤ X ∧ At w' X 0 58 #[.int .i64 0, .int .i64 0, .int .i64 0, .int .i64 0] [.int .i64 0, .int .i64 0, .int .i64 0, .int .i64 0]) (fun x1 y1 v hg h => h.imp fun X k => ⟨k.1, k.2.1, k.2.2.grown hg⟩), .that (fun w' v => ∃ X, v = .pointer (some ⟨X, 0, none⟩) ∧ Sz ≤ X ∧ At w' X 0 64 #[.int .i64 0, .bool false, .int .i64 0] [.int .i64 0, .bool false, .int .i64 0]) (fun x1 y1 v hg h => h.imp fun X k => ⟨k.1, k.2.1, k.2.2.grown hg⟩)] (by kernel_rfl) Grown.refl Grown.trans (by decide) (by kernel_rfl) (by kernel_rfl) (by kernel_rfl) (by kernel_rfl) (by kernel_rfl) (by kernel_rfl) ?_
      simp only [List.take_succ_cons, List.take_zero, relyAll, Act.put, List.setIfInBounds_toArray, List.set_cons_zero, List.set_cons_succ]
      refine ⟨?_, ?_, ?_, ?_, ?_, ?_, ?_, ?_, ?_, ?_, ?_, ?_, ?_, fun v1 => ⟨?_, fun v2' => ?_⟩⟩
      · intro w' hg _
        refine Or.inl ⟨rfl, ?_⟩
        go_simp
        exact ⟨Grown.refl _, rfl⟩
      · intro w' hg _
        refine Or.inl ⟨rfl, ?_⟩
        have vv := (B.drew.grown hg).v
        have y0 := vv.c0
        have y1 := vv.c1
        have y2 := vv.c2
        have y3 := vv.c3
        have y4 := vv.c4
        have y5 := vv.c5
        have y6 := vv.c6
        have y7 := vv.c7
        have y8 := vv.c8
        go_simp
        exact ⟨Grown.refl _, rfl⟩
      · intro w' hg _
        refine Or.inl ⟨rfl, ?_⟩
        go_simp
        exact ⟨Grown.refl _, rfl⟩
      · intro w' hg _
        refine Or.inl ⟨rfl, ?_⟩
        go_simp
        refine (peek_is (B.drew.grown hg).mm 7 HP7.out v2 HV7.out).mono ?_
        rintro e w'' ⟨rfl, rfl⟩
        exact ⟨_, rfl, Grown.refl _, rfl⟩
      · intro w' hg _
        refine Or.inl ⟨rfl, ?_⟩
        go_simp
        refine (is2 _).mono ?_
        rintro e w'' ⟨rfl, b9⟩
        exact ⟨_, rfl, b9, rfl⟩
      · intro w' hg _
        refine Or.inl ⟨rfl, ?_⟩
        go_simp
        exact ⟨Grown.refl _, rfl⟩
      · intro w' hg _
        refine Or.inl ⟨rfl, ?_⟩
        have vv := (B.drew.grown hg).v
        have y0 := vv.c0
        have y1 := vv.c1
        have y2 := vv.c2
        have y3 := vv.c3
        have y4 := vv.c4
        have y5 := vv.c5
        have y6 := vv.c6
        have y7 := vv.c7
        have y8 := vv.c8
        go_simp
        exact ⟨Grown.refl _, rfl⟩
      · intro w' hg _
        refine Or.inl ⟨rfl, ?_⟩
        go_simp
        exact ⟨Grown.refl _, rfl⟩
      · intro w' hg _
        refine Or.inl ⟨rfl, ?_⟩
        have z := (q1'.drew.grown hg).at0 1 rfl
        go_simp
        exact ⟨Grown.refl _, rfl⟩
      · intro w' hg _
        refine Or.inl ⟨rfl, ?_⟩
        go_simp
        exact ⟨Grown.refl _, congrArg (Value.int .i64) (by first | rfl | omega | (rw [IntKind.wrap_i64]; omega))⟩
      · intro w' hg _
        refine Or.inl ⟨rfl, ?_⟩
        go_simp
        refine (peek_is (B.drew.grown hg).mm (A + 1) HPA.out c2 HVA.out).mono ?_
        rintro e w'' ⟨rfl, rfl⟩
        exact ⟨_, rfl, Grown.refl _, rfl⟩
      · intro w' hg _
        refine Or.inl ⟨rfl, ?_⟩
        go_simp
        refine (cs2 _).mono ?_
        rintro e w'' ⟨rfl, b9⟩
        exact ⟨_, rfl, b9, rfl⟩
      · intro w' hg _
        refine Or.inl ⟨rfl, ?_⟩
        have hz : Sz ≤ w'.heap.size := by have := hg.size; have e : W.drew.heap.size = W.heap.size := rfl; omega
        have q := At.new w' 58 [.int .i64 0, .int .i64 0, .int .i64 0, .int .i64 0]
        go_simp
        exact ⟨grow_alloc (Below.refl _ _) _, _, rfl, hz, q⟩
      · intro w' hg _
        refine Or.inl ⟨rfl, ?_⟩
        have hz : Sz ≤ w'.heap.size := by have := hg.size; have e : W.drew.heap.size = W.heap.size := rfl; omega
        have q := At.new w' 64 [.int .i64 0, .bool false, .int .i64 0]
        go_simp
        exact ⟨grow_alloc (Below.refl _ _) _, _, rfl, hz, q⟩
      intro w8 hg hf
      obtain ⟨C8, rfl, hC8, k8⟩ := hf.1
      obtain ⟨S8, rfl, hS8, p8⟩ := hf.2.1
      have hne : S8 ≠ C8 := fun e => by
        subst e
        have := p8.obj.symm.trans k8.obj
        simp at this
      have b8 : Below w.heap.size w w8 := grow B.b.drew hg
      have q9 := q1'.drew.grown hg
      have d9 := d1.drew.grown hg
      have hSS : S ≠ S8 := by have := q1'.lt; omega
      have hSC : S ≠ C8 := by have := q1'.lt; omega
      have hDS : D ≠ S8 := by have := d1.lt; omega
      have hDC : D ≠ C8 := by have := d1.lt; omega
      have hwS : w.heap.size ≤ S8 := by have := B.b.size; omega
      have hwC : w.heap.size ≤ C8 := by have := B.b.size; omega
      have x0 := p8.at0 0 rfl
      have x1 := p8.at0 1 rfl
      have x2 := p8.at0 2 rfl
      have x3 := p8.at0 3 rfl
      have xf := p8.fz
      have p9 := ((((p8.put0 0 (.int .i64 1)).put0 1 (.int .i64 A)).put0 2 (.int .i64 1)).put0 3 (.int .i64 ((V : Int) + 1)))
      have k9 := ((((k8.other hne.symm 0 (.int .i64 1)).other hne.symm 1 (.int .i64 A)).other hne.symm 2 (.int .i64 1)).other hne.symm 3 (.int .i64 ((V : Int) + 1)))
      have y0 := k9.at0 0 rfl
      have y1 := k9.at0 1 rfl
      have y2 := k9.at0 2 rfl
      have yf := k9.fz
      have q9 := (((((((q9.other hSS 0 (.int .i64 1)).other hSS 1 (.int .i64 A)).other hSS 2 (.int .i64 1)).other hSS 3 (.int .i64 ((V : Int) + 1))).other hSC 0 (.int .i64 9)).other hSC 1 (.bool false)).other hSC 2 (.int .i64 0))
      have d9 := (((((((d9.other hDS 0 (.int .i64 1)).other hDS 1 (.int .i64 A)).other hDS 2 (.int .i64 1)).other hDS 3 (.int .i64 ((V : Int) + 1))).other hDC 0 (.int .i64 9)).other hDC 1 (.bool false)).other hDC 2 (.int .i64 0))
      have b9 := (below_setIn (below_setIn (below_setIn (below_setIn (below_setIn (below_setIn (below_setIn b8 hwS 0 (.int .i64 1)) hwS 1 (.int .i64 A)) hwS 2 (.int .i64 1)) hwS 3 (.int .i64 ((V : Int) + 1))) hwC 0 (.int .i64 9)) hwC 1 (.bool false)) hwC 2 (.int .i64 0))
      have p9 := (((p9.other hne 0 (.int .i64 9)).other hne 1 (.bool false)).other hne 2 (.int .i64 0))
      have k9 := (((k9.put0 0 (.int .i64 9)).put0 1 (.bool false)).put0 2 (.int .i64 0))
      clear hf hg hC8 hS8 hSz B q1' d1 p8 k8 b8
      have a0 := q9.at0 0 rfl
      have a1 := q9.at0 1 rfl
      have a2 := q9.at0 2 rfl
      have a3 := q9.at0 3 rfl
      have e0 := d9.at0 0 rfl
      have e2 := d9.at0 2 rfl
      have r0 := p9.at0 0 rfl
      have r1 := p9.at0 1 rfl
      have r2 := p9.at0 2 rfl
      have r3 := p9.at0 3 rfl
      have u0 := k9.at0 0 rfl
      have u1 := k9.at0 1 rfl
      have u2 := k9.at0 2 rfl
      go_wp2
      go_ret
      exact ⟨rfl, b9⟩
end Go.Proofs.YtcdmokbamakomaaGreat
