/- AccessDrops answers true for all kinds and picks, and leaves what was in memory. -/
import Derived.Test.YtcdmokbamakomaaGreatAccStage
import Derived.Test.YtcdmokbamakomaaGreatArgs
namespace Go.Proofs.YtcdmokbamakomaaGreat
open Go.RowKit

theorem cntD_le (i : Nat) : cntD (i + 1) ≤ cntD i + 1 := by
  show cntD i + (if 60 ≤ i ∧ i % 2 = 0 then 1 else 0) ≤ _
  split <;> omega
theorem cntD_one {i : Nat} (h : 60 ≤ i → 1 = i % 2) : cntD (i + 1) = cntD i := by
  show cntD i + (if 60 ≤ i ∧ i % 2 = 0 then 1 else 0) = _
  rw [if_neg (fun k => by have := h k.1; omega)]; rfl

section
variable {W : Wt} {v : Int} {σ : Nat} {q : Q} {α : Ac} {d0 d1 : Bool} {g oE oSt : Int} {i : Nat}

theorem DI.skip0 (D : DI W v σ q α true d1 g oE oSt i) (hk : 60 ≤ i → 0 = i % 2) : DI W v σ q α true d1 g oE oSt (i + 1) :=
  ⟨D.ph, Or.inl rfl, fun h => D.d1 (by
    by_cases e : i = 61
    · have := hk (by omega); omega
    · omega)⟩
theorem DI.skip1 (D : DI W v σ q α d0 true g oE oSt i) (hk : 60 ≤ i → 1 = i % 2) : DI W v σ q α d0 true g oE oSt (i + 1) :=
  ⟨D.ph, by rw [cntD_one hk]; exact D.mu, fun _ => rfl⟩

theorem DI.live (D : DI W v σ q α false false g oE oSt i) : LiveD v q ∧ AcL W v q σ α := by
  rcases D.ph with ⟨_, h, k⟩ | ⟨h, _⟩
  · rcases k with ⟨_, k⟩ | ⟨k, _⟩
    · exact ⟨h, k⟩
    · cases k
  · cases h
theorem DI.dead (D : DI W v σ q α false true g oE oSt i) : g ≤ σ ∧ DeadD v q ∧ AcG v α := by
  rcases D.ph with ⟨h, _⟩ | ⟨_, h1, h2, k⟩
  · cases h
  · rcases k with ⟨_, k⟩ | ⟨k, _⟩
    · exact ⟨h1, h2, k⟩
    · cases k
theorem DI.lv (D : DI W v σ q α d0 false g oE oSt i) : LiveD v q := by
  rcases D.ph with ⟨_, h, k⟩ | ⟨h, _⟩
  · exact h
  · cases h

theorem DI.liveOn (D : DI W v σ q α false false g oE oSt i) {q' : Q} {α' : Ac} (L : LiveD v q') (T : AcL W v q' (σ + 1) α') (r : rk3 α' + 1 ≤ rk3 α) (hk : 60 ≤ i → 0 = i % 2) : DI W v (σ + 1) q' α' false false g oE oSt (i + 1) := by
  refine ⟨Or.inl ⟨rfl, L, Or.inl ⟨rfl, T⟩⟩, Or.inr ?_, fun h => D.d1 ?_⟩
  · have m := D.mu.resolve_left (by decide)
    have c := cntD_le i
    have e1 : muD false α = 4 + rk3 α := rfl
    have e2 : muD false α' = 4 + rk3 α' := rfl
    omega
  · by_cases e : i = 61
    · have := hk (by omega); omega
    · omega
theorem DI.liveEnd (D : DI W v σ q α false false g oE oSt i) {q' : Q} {α' : Ac} {st : Nat} (L : LiveD v q') (hs : st ≤ σ + 1) (hk : 60 ≤ i → 0 = i % 2) : DI W v (σ + 1) q' α' true false g 0 st (i + 1) := by
  refine ⟨Or.inl ⟨rfl, L, Or.inr ⟨rfl, rfl, by omega⟩⟩, Or.inl rfl, fun h => D.d1 ?_⟩
  by_cases e : i = 61
  · have := hk (by omega); omega
  · omega
theorem DI.deadOn (D : DI W v σ q α false true g oE oSt i) {α' : Ac} (T : AcG v α') (r : rkG α' + 1 ≤ rkG α) : DI W v (σ + 1) q α' false true g oE oSt (i + 1) := by
  obtain ⟨h1, h2, _⟩ := D.dead
  refine ⟨Or.inr ⟨rfl, by omega, h2, Or.inl ⟨rfl, T⟩⟩, Or.inr ?_, fun _ => rfl⟩
  have m := D.mu.resolve_left (by decide)
  have c := cntD_le i
  have e1 : muD true α = rkG α := rfl
  have e2 : muD true α' = rkG α' := rfl
  omega
theorem DI.deadEnd (D : DI W v σ q α false true g oE oSt i) {α' : Ac} : DI W v (σ + 1) q α' true true g 3 ((σ + 1 : Nat) : Int) (i + 1) := by
  obtain ⟨h1, h2, _⟩ := D.dead
  exact ⟨Or.inr ⟨rfl, by omega, h2, Or.inr ⟨rfl, Or.inr ⟨rfl, by omega⟩⟩⟩, Or.inl rfl, fun _ => rfl⟩
theorem DI.gone (D : DI W v σ q α d0 false g oE oSt i) {q' : Q} {st : Int} (h : DeadD v q') (h1 : (σ : Int) < st) (h2 : st ≤ (σ : Int) + 12) (hk : 60 ≤ i → 1 = i % 2) : DI W v (σ + 12) q' α d0 true st oE oSt (i + 1) := by
  have L := D.lv
  refine ⟨Or.inr ⟨rfl, by omega, h, ?_⟩, ?_, fun _ => rfl⟩
  · rcases D.ph with ⟨_, _, k⟩ | ⟨k, _⟩
    · rcases k with ⟨e, k⟩ | ⟨e, k1, k2⟩
      · exact Or.inl ⟨e, (k.gone L).1⟩
      · exact Or.inr ⟨e, Or.inl ⟨k1, by omega⟩⟩
    · cases k
  · cases d0 with
    | true => exact Or.inl rfl
    | false =>
      have m := D.mu.resolve_left (by decide)
      have k := (D.live.2.gone L).2
      have e1 : muD false α = 4 + rk3 α := rfl
      have e2 : muD true α = rkG α := rfl
      rw [cntD_one hk]
      exact Or.inr (by omega)
theorem DI.last (D : DI W v σ q α d0 d1 g oE oSt 200) : d0 = true ∧ d1 = true := by
  refine ⟨?_, D.d1 (by decide)⟩
  rcases D.mu with h | h
  · exact h
  · have := cntD_200; omega
theorem DI.told (D : DI W v σ q α true true g oE oSt i) : (oE = 0 ∧ oSt < g) ∨ (oE = 3 ∧ g ≤ oSt) := by
  rcases D.ph with ⟨h, _⟩ | ⟨_, _, _, k⟩
  · cases h
  · rcases k with ⟨k, _⟩ | ⟨_, k⟩
    · cases k
    · exact k
end

set_option maxRecDepth 20000 in
set_option maxHeartbeats 4000000 in
theorem accessDrops_any (kind : Int) (ao : Option Addr) (M cap : Nat) (z : Nat → Int) (w : World) (hr : IntsAt .i64 w ao M z) :
    Calls Tryz.prog 5 #[.int .i64 kind, .slice ao M cap] w fun e w' => e = .returned (.bool true) ∧ Below w.heap.size w w' := by
  have HR : Hid (IntsAt .i64 w ao M z) := hr
  clear hr
  obtain ⟨kd, hkd, hk12⟩ := kind2 kind
  obtain ⟨W, hW⟩ : ∃ W : Wt, W = ⟨kd, 65536, 0, 7, 0⟩ := ⟨_, rfl⟩
  have HWD : Hid (WtD W) := by unfold Hid; rw [hW]; exact ⟨hk12, rfl, ⟨(show (0 : Int) ≤ 7 by decide), (show (7 : Int) ≤ 1099511627775 by decide)⟩, rfl⟩
  have HWO : Hid W.ok := by
    unfold Hid
    rw [hW]
    exact ⟨by rcases hk12 with h | h <;> simp [h], ⟨(show (-9223372036854775808 : Int) ≤ 7 by decide), (show (7 : Int) ≤ 9223372036854775807 by decide)⟩⟩
  have NEW : ∀ w : World, Calls Tryz.prog 15 #[.agg #[.int .i64 kd, .int .u64 65536, .int .i64 0, .int .i64 7, .int .i64 0], .bool false] w fun e w' => ∃ W1, e = .returned (.pointer (some ⟨W1.heap.size, 0, none⟩)) ∧ w' = W1.alloc (acc0 W.kd W.nu W.ix W.vl W.ol false) ∧ Below w.heap.size w W1 := by rw [hW]; exact fun w => newAcc_any kd 65536 0 7 0 false w
  clear hW
  have AR := fun w => arena08 goodD (by omega) w
  have f1 : ∀ (a1 a2 a3 a4 : Value) (w : World), (Instr.field 37 (.agg #[a1, a2, a3, a4]) 1).run Tryz.prog w = .ok a2 w := fun a1 a2 a3 a4 w => by kernel_rfl
  go_enter Tryz.func5, Tryz.ntmps5
  go_wp2_with (first
    | (go_at_call 9; refine (AR _).mono ?_; rintro e w1 ⟨L, s, rfl, m1, t1, b1, l1⟩; obtain ⟨c1, pa⟩ := Farm.first goodD m1 t1 b1 l1)
    | (go_at_call 10; refine (awake10_any _).mono ?_; rintro e w2 ⟨rfl, b2⟩; have c2 := c1.grown b2; have z0 := c2.v.c0; have z1 := c2.v.c1; have z2 := c2.v.c2; have z3 := c2.v.c3; have z4 := c2.v.c4; have z5 := c2.v.c5; have z6 := c2.v.c6; have z7 := c2.v.c7; have z8 := c2.v.c8)
    | (go_at_call 11; refine (two_make c2 pa (by decide)).mono ?_; rintro e w3 ⟨st3, s3, σ3, rfl, h3, c3, LD⟩)
    | (go_at_call 15; refine (NEW _).mono ?_; rintro e w4 ⟨W1, rfl, rfl, g1⟩))
  obtain ⟨E, hE⟩ : ∃ E, w1.heap.size = E := ⟨_, rfl⟩
  rw [hE] at c3 pa ⊢
  obtain ⟨cs0, ac0⟩ := acc0_at W.kd W.nu W.ix W.vl W.ol false W1
  have sp0 := (((c3.grown (grow_alloc g1 (acc0 W.kd W.nu W.ix W.vl W.ol false))).grown (grow1 _ (.cells #[.int .i64 0, .int .u64 0, .int .i64 0, .int .i64 0] 37))).grown (grow1 _ (.cells #[.int .i64 0, .int .u64 0, .int .i64 0, .int .i64 0] 37))).grown (grow1 _ (.cells #[.bool false, .bool false] 52))
  have ac1 := ((ac0.grown (grow1 _ (.cells #[.int .i64 0, .int .u64 0, .int .i64 0, .int .i64 0] 37))).grown (grow1 _ (.cells #[.int .i64 0, .int .u64 0, .int .i64 0, .int .i64 0] 37))).grown (grow1 _ (.cells #[.bool false, .bool false] 52))
  have o1 := ((dn_new (W1.alloc (acc0 W.kd W.nu W.ix W.vl W.ol false)) 0 0 0).grown (grow1 _ (.cells #[.int .i64 0, .int .u64 0, .int .i64 0, .int .i64 0] 37))).grown (grow1 _ (.cells #[.bool false, .bool false] 52))
  have n1 := (dn_new ((W1.alloc (acc0 W.kd W.nu W.ix W.vl W.ol false)).alloc (.cells #[.int .i64 0, .int .u64 0, .int .i64 0, .int .i64 0] 37)) 0 0 0).grown (grow1 _ (.cells #[.bool false, .bool false] 52))
  have r1 : ((((W1.alloc (acc0 W.kd W.nu W.ix W.vl W.ol false)).alloc (.cells #[.int .i64 0, .int .u64 0, .int .i64 0, .int .i64 0] 37)).alloc (.cells #[.int .i64 0, .int .u64 0, .int .i64 0, .int .i64 0] 37)).alloc (.cells #[.bool false, .bool false] 52)).rowIs (W1.heap.size + 1 + 1 + 1) 52 2 (fun a => .bool (if a = 0 then false else false)) := by
    refine ⟨#[.bool false, .bool false], ?_, rfl, fun i hi => ?_⟩
    · have := Go.Deep.blk_alloc_new (((W1.alloc (acc0 W.kd W.nu W.ix W.vl W.ol false)).alloc (.cells #[.int .i64 0, .int .u64 0, .int .i64 0, .int .i64 0] 37)).alloc (.cells #[.int .i64 0, .int .u64 0, .int .i64 0, .int .i64 0] 37)) (.cells #[.bool false, .bool false] 52)
      simpa only [Go.Deep.nblk_alloc] using this
    · have : i = 0 ∨ i = 1 := by omega
      rcases this with rfl | rfl <;> rfl
  simp only [Go.Deep.nblk_alloc] at o1 n1
  have hEl := c3.ltE
  have hgs := g1.size
  have hb0 := c3.b.size
  obtain ⟨Ab, hAb⟩ : ∃ Ab, W1.heap.size = Ab := ⟨_, rfl⟩
  have B0 : Stg w ((((W1.alloc (acc0 W.kd W.nu W.ix W.vl W.ol false)).alloc (.cells #[.int .i64 0, .int .u64 0, .int .i64 0, .int .i64 0] 37)).alloc (.cells #[.int .i64 0, .int .u64 0, .int .i64 0, .int .i64 0] 37)).alloc (.cells #[.bool false, .bool false] 52)) L E Ab (Ab + 1) (Ab + 1 + 1) (Ab + 1 + 1 + 1) s3 σ3 qD cs0 (cv0 W.kd W.nu W.ix W.vl W.ol false) false false 0 0 0 0 := by
    rw [← hAb]
    exact ⟨sp0, ac1, o1, n1, r1⟩
  have SA : StgA w L E Ab (Ab + 1) (Ab + 1 + 1) (Ab + 1 + 1 + 1) := ⟨pa, ⟨fun h => by have := c3.mm.lt _ h; omega, fun h => by have := c3.mm.lt _ h; omega, fun h => by have := c3.mm.lt _ h; omega, fun h => by have := c3.mm.lt _ h; omega⟩, ⟨by omega, by omega, by omega, by omega⟩, ⟨by omega, by omega, by omega, by omega⟩, ⟨by omega, by omega, by omega⟩, ⟨by omega, by omega, by omega⟩⟩
  obtain ⟨v, hv⟩ : ∃ v, qD.sw 0 = v := ⟨_, rfl⟩
  rw [hv] at LD
  rw [hAb]
  obtain ⟨O, hO⟩ : ∃ O, Ab + 1 = O := ⟨_, rfl⟩
  obtain ⟨Gb, hGb⟩ : ∃ Gb, O + 1 = Gb := ⟨_, rfl⟩
  obtain ⟨Db, hDb⟩ : ∃ Db, Gb + 1 = Db := ⟨_, rfl⟩
  rw [hO, hGb, hDb] at B0 SA ⊢
  have HB0 : Hid (Stg w ((((W1.alloc (acc0 W.kd W.nu W.ix W.vl W.ol false)).alloc (.cells #[.int .i64 0, .int .u64 0, .int .i64 0, .int .i64 0] 37)).alloc (.cells #[.int .i64 0, .int .u64 0, .int .i64 0, .int .i64 0] 37)).alloc (.cells #[.bool false, .bool false] 52)) L E Ab O Gb Db s3 σ3 qD cs0 (cv0 W.kd W.nu W.ix W.vl W.ol false) false false 0 0 0 0) := B0
  have HA : Hid (StgA w L E Ab O Gb Db) := SA
  have HD0 : Hid (DI W v σ3 qD .see false false 0 0 0 0) := ⟨Or.inl ⟨rfl, LD, Or.inl ⟨rfl, trivial⟩⟩, Or.inr (by decide), fun h => by omega⟩
  have hσ3 : σ3 ≤ 200 := by omega
  clear B0 SA LD sp0 ac1 o1 n1 r1 ac0 c1 c2 c3 pa b2 b1 l1 m1 t1 AR NEW hE hAb hO hGb hDb hv hEl hgs hb0 h3 g1 z0 z1 z2 z3 z4 z5 z6 z7 z8
  go_loopw [12] (fun iv wr => ∃ (i : Nat) (s' : Mm) (σ : Nat) (q : Q) (α : Ac) (cs : Array Value) (u : CV) (d0 d1 : Bool) (g oE oV oSt : Int), iv = .int .i64 i ∧ i ≤ 200 ∧ σ ≤ 200 + 13 * i ∧ Stg w wr L E Ab O Gb Db s' σ q cs u d0 d1 g oE oV oSt ∧ DI W v σ q α d0 d1 g oE oSt i ∧ (d0 = false → AcIs W false α u)) (fun iv _ => 200 - (intOf iv).toNat)
  case atStart => exact ⟨0, s3, σ3, qD, .see, cs0, _, false, false, 0, 0, 0, 0, rfl, by omega, by omega, HB0.out, HD0.out, fun _ => ac0_is W false⟩
  case round =>
    clear HB0 HD0 hσ3
    obtain ⟨i, s', σ, q, α, cs, u, d0, d1, g, oE, oV, oSt, rfl, hi2, hσ, B, D, Is⟩ := hrel
    by_cases hi : i < 200
    · have hi' : (i : Int) < 200 := by omega
      have hbit := bit2 i
      cases d0 with
      | true =>
        cases d1 with
        | true =>
          have t := D.told
          have n0 := B.n0
          have n1 := B.n1
          have o0 := B.o.c0
          have o3 := B.o.c3
          have g0 := B.gn.c0
          have g3 := B.gn.c3
          have b9 := B.sp.b
          clear B D Is
          rcases t with ⟨rfl, h⟩ | ⟨rfl, h⟩
          · go_wp2
            go_ret
            exact ⟨rfl, b9⟩
          · have h' : oSt ≥ g := h
            go_wp2
            go_ret
            exact ⟨rfl, b9⟩
        | false =>
          by_cases hiM : i < M
          · have hiM' : (i : Int) < (M : Int) := by omega
            by_cases hi6 : i < 60
            · have hi6' : (i : Int) < 60 := by omega
              obtain ⟨zb, zo, rfl, hz0⟩ := HR.out i hiM
              have hz := keep' B.sp.b hz0
              obtain ⟨K, hK1, hK2⟩ := bit1 (z i)
              rcases hK2 with rfl | rfl
              · have hkK : 60 ≤ i → 0 = i % 2 := fun h => by omega
                have n0 := B.n0
                have n1 := B.n1
                have z0 := B.sp.v.c0
                have z1 := B.sp.v.c1
                have z2 := B.sp.v.c2
                have z3 := B.sp.v.c3
                have z4 := B.sp.v.c4
                have z5 := B.sp.v.c5
                have z6 := B.sp.v.c6
                have z7 := B.sp.v.c7
                have z8 := B.sp.v.c8
                have HD : Hid (DI W v σ q α true false g oE oSt (i + 1)) := D.skip0 hkK
                have HB : Hid (Stg w wr L E Ab O Gb Db s' σ q cs u true false g oE oV oSt) := B
                have HIS : Hid True := trivial
                clear B D Is
                go_wp2
                go_roundw
                case rel => exact ⟨i + 1, s', σ, q, α, cs, u, true, false, g, oE, oV, oSt, by go_num, by omega, by omega, HB.out, HD.out, fun h => by cases h⟩
                case measure => simp [intOf]; omega
              · have hkK : 60 ≤ i → 1 = i % 2 := fun h => by omega
                have n0 := B.n0
                have n1 := B.n1
                have z0 := B.sp.v.c0
                have z1 := B.sp.v.c1
                have z2 := B.sp.v.c2
                have z3 := B.sp.v.c3
                have z4 := B.sp.v.c4
                have z5 := B.sp.v.c5
                have z6 := B.sp.v.c6
                have z7 := B.sp.v.c7
                have z8 := B.sp.v.c8
                obtain ⟨rn, dd⟩ := D.lv.runs B.sp.tw.pile.hdle
                have HDD : Hid (DeadD v (q.gone 100 0 v 2 0)) := dd
                have HRN : Hid (DTells 4 4 2 20 100 false 0 1 12 q .see (q.gone 100 0 v 2 0) (.over 0)) := rn
                have HD : Hid (DI W v σ q α true false g oE oSt i) := D
                have HK : Hid (60 ≤ i → 1 = i % 2) := hkK
                have HWQ : Hid (∀ a, Wd (q.dw a)) := D.lv.s.sc.wd
                have HIS : Hid True := trivial
                clear D rn dd hkK Is
                go_wp2_with (go_at_call 18; refine (drop_tells B.sp.mm B.sp.tw goodD HWQ.out hand01 (by decide) (by omega) (by decide) HRN.out).mono ?_; rintro e w6 ⟨st, s6, rfl, m6, t6, o6, hst⟩; have B6 := B.gone HA.out o6 m6 t6; have HST : Hid ((σ : Int) < st ∧ st ≤ (σ : Int) + 12) := ⟨(hst rfl).1, (hst rfl).2⟩; clear hst; have q0 := B6.gn.c0; have q1 := B6.gn.c1; have q2 := B6.gn.c2; have q3 := B6.gn.c3; have qf := B6.gn.fz; have B7 := B6.setG HA.out st; have p1 := B7.n1; have pf := B7.dn.frozen 1)
                go_roundw
                case rel =>
                  have hst := HST.out
                  exact ⟨i + 1, s6, σ + 12, q.gone 100 0 v 2 0, α, cs, u, true, true, st, oE, oV, oSt, by go_num, by omega, by omega, B7.set1 HA.out true, HD.out.gone HDD.out hst.1 hst.2 HK.out, fun h => by cases h⟩
                case measure => simp [intOf]; omega
            · have hi6' : ¬ (i : Int) < 60 := by omega
              obtain ⟨K, hK⟩ : ∃ K, i % 2 = K := ⟨_, rfl⟩
              rw [hK] at hbit
              have hK2 : K = 0 ∨ K = 1 := by omega
              rcases hK2 with rfl | rfl
              · have hkK : 60 ≤ i → 0 = i % 2 := fun _ => hK.symm
                have n0 := B.n0
                have n1 := B.n1
                have z0 := B.sp.v.c0
                have z1 := B.sp.v.c1
                have z2 := B.sp.v.c2
                have z3 := B.sp.v.c3
                have z4 := B.sp.v.c4
                have z5 := B.sp.v.c5
                have z6 := B.sp.v.c6
                have z7 := B.sp.v.c7
                have z8 := B.sp.v.c8
                have HD : Hid (DI W v σ q α true false g oE oSt (i + 1)) := D.skip0 hkK
                have HB : Hid (Stg w wr L E Ab O Gb Db s' σ q cs u true false g oE oV oSt) := B
                have HIS : Hid True := trivial
                clear B D Is
                go_wp2
                go_roundw
                case rel => exact ⟨i + 1, s', σ, q, α, cs, u, true, false, g, oE, oV, oSt, by go_num, by omega, by omega, HB.out, HD.out, fun h => by cases h⟩
                case measure => simp [intOf]; omega
              · have hkK : 60 ≤ i → 1 = i % 2 := fun _ => hK.symm
                have n0 := B.n0
                have n1 := B.n1
                have z0 := B.sp.v.c0
                have z1 := B.sp.v.c1
                have z2 := B.sp.v.c2
                have z3 := B.sp.v.c3
                have z4 := B.sp.v.c4
                have z5 := B.sp.v.c5
                have z6 := B.sp.v.c6
                have z7 := B.sp.v.c7
                have z8 := B.sp.v.c8
                obtain ⟨rn, dd⟩ := D.lv.runs B.sp.tw.pile.hdle
                have HDD : Hid (DeadD v (q.gone 100 0 v 2 0)) := dd
                have HRN : Hid (DTells 4 4 2 20 100 false 0 1 12 q .see (q.gone 100 0 v 2 0) (.over 0)) := rn
                have HD : Hid (DI W v σ q α true false g oE oSt i) := D
                have HK : Hid (60 ≤ i → 1 = i % 2) := hkK
                have HWQ : Hid (∀ a, Wd (q.dw a)) := D.lv.s.sc.wd
                have HIS : Hid True := trivial
                clear D rn dd hkK Is
                go_wp2_with (go_at_call 18; refine (drop_tells B.sp.mm B.sp.tw goodD HWQ.out hand01 (by decide) (by omega) (by decide) HRN.out).mono ?_; rintro e w6 ⟨st, s6, rfl, m6, t6, o6, hst⟩; have B6 := B.gone HA.out o6 m6 t6; have HST : Hid ((σ : Int) < st ∧ st ≤ (σ : Int) + 12) := ⟨(hst rfl).1, (hst rfl).2⟩; clear hst; have q0 := B6.gn.c0; have q1 := B6.gn.c1; have q2 := B6.gn.c2; have q3 := B6.gn.c3; have qf := B6.gn.fz; have B7 := B6.setG HA.out st; have p1 := B7.n1; have pf := B7.dn.frozen 1)
                go_roundw
                case rel =>
                  have hst := HST.out
                  exact ⟨i + 1, s6, σ + 12, q.gone 100 0 v 2 0, α, cs, u, true, true, st, oE, oV, oSt, by go_num, by omega, by omega, B7.set1 HA.out true, HD.out.gone HDD.out hst.1 hst.2 HK.out, fun h => by cases h⟩
                case measure => simp [intOf]; omega
          · have hiM' : ¬ (i : Int) < (M : Int) := by omega
            obtain ⟨K, hK⟩ : ∃ K, i % 2 = K := ⟨_, rfl⟩
            rw [hK] at hbit
            have hK2 : K = 0 ∨ K = 1 := by omega
            rcases hK2 with rfl | rfl
            · have hkK : 60 ≤ i → 0 = i % 2 := fun _ => hK.symm
              have n0 := B.n0
              have n1 := B.n1
              have z0 := B.sp.v.c0
              have z1 := B.sp.v.c1
              have z2 := B.sp.v.c2
              have z3 := B.sp.v.c3
              have z4 := B.sp.v.c4
              have z5 := B.sp.v.c5
              have z6 := B.sp.v.c6
              have z7 := B.sp.v.c7
              have z8 := B.sp.v.c8
              have HD : Hid (DI W v σ q α true false g oE oSt (i + 1)) := D.skip0 hkK
              have HB : Hid (Stg w wr L E Ab O Gb Db s' σ q cs u true false g oE oV oSt) := B
              have HIS : Hid True := trivial
              clear B D Is
              go_wp2
              go_roundw
              case rel => exact ⟨i + 1, s', σ, q, α, cs, u, true, false, g, oE, oV, oSt, by go_num, by omega, by omega, HB.out, HD.out, fun h => by cases h⟩
              case measure => simp [intOf]; omega
            · have hkK : 60 ≤ i → 1 = i % 2 := fun _ => hK.symm
              have n0 := B.n0
              have n1 := B.n1
              have z0 := B.sp.v.c0
              have z1 := B.sp.v.c1
              have z2 := B.sp.v.c2
              have z3 := B.sp.v.c3
              have z4 := B.sp.v.c4
              have z5 := B.sp.v.c5
              have z6 := B.sp.v.c6
              have z7 := B.sp.v.c7
              have z8 := B.sp.v.c8
              obtain ⟨rn, dd⟩ := D.lv.runs B.sp.tw.pile.hdle
              have HDD : Hid (DeadD v (q.gone 100 0 v 2 0)) := dd
              have HRN : Hid (DTells 4 4 2 20 100 false 0 1 12 q .see (q.gone 100 0 v 2 0) (.over 0)) := rn
              have HD : Hid (DI W v σ q α true false g oE oSt i) := D
              have HK : Hid (60 ≤ i → 1 = i % 2) := hkK
              have HWQ : Hid (∀ a, Wd (q.dw a)) := D.lv.s.sc.wd
              have HIS : Hid True := trivial
              clear D rn dd hkK Is
              go_wp2_with (go_at_call 18; refine (drop_tells B.sp.mm B.sp.tw goodD HWQ.out hand01 (by decide) (by omega) (by decide) HRN.out).mono ?_; rintro e w6 ⟨st, s6, rfl, m6, t6, o6, hst⟩; have B6 := B.gone HA.out o6 m6 t6; have HST : Hid ((σ : Int) < st ∧ st ≤ (σ : Int) + 12) := ⟨(hst rfl).1, (hst rfl).2⟩; clear hst; have q0 := B6.gn.c0; have q1 := B6.gn.c1; have q2 := B6.gn.c2; have q3 := B6.gn.c3; have qf := B6.gn.fz; have B7 := B6.setG HA.out st; have p1 := B7.n1; have pf := B7.dn.frozen 1)
              go_roundw
              case rel =>
                have hst := HST.out
                exact ⟨i + 1, s6, σ + 12, q.gone 100 0 v 2 0, α, cs, u, true, true, st, oE, oV, oSt, by go_num, by omega, by omega, B7.set1 HA.out true, HD.out.gone HDD.out hst.1 hst.2 HK.out, fun h => by cases h⟩
              case measure => simp [intOf]; omega
      | false =>
        cases d1 with
        | true =>
          by_cases hiM : i < M
          · have hiM' : (i : Int) < (M : Int) := by omega
            by_cases hi6 : i < 60
            · have hi6' : (i : Int) < 60 := by omega
              obtain ⟨zb, zo, rfl, hz0⟩ := HR.out i hiM
              have hz := keep' B.sp.b hz0
              obtain ⟨K, hK1, hK2⟩ := bit1 (z i)
              rcases hK2 with rfl | rfl
              · have hkK : 60 ≤ i → 0 = i % 2 := fun h => by omega
                have n0 := B.n0
                have n1 := B.n1
                have z0 := B.sp.v.c0
                have z1 := B.sp.v.c1
                have z2 := B.sp.v.c2
                have z3 := B.sp.v.c3
                have z4 := B.sp.v.c4
                have z5 := B.sp.v.c5
                have z6 := B.sp.v.c6
                have z7 := B.sp.v.c7
                have z8 := B.sp.v.c8
                obtain ⟨q', α', ht⟩ : ∃ q' α', acTurn W false 0 1 σ q α = (q', α') := ⟨_, _, rfl⟩
                obtain ⟨gσ, LL, TT⟩ := D.dead
                obtain ⟨ho, gd, hq, alt⟩ := dead_step HWD.out LL TT ht
                have hq := hq.symm
                subst hq
                have wdq := LL.wd
                have ST := fun (d : Bool) (hd : α'.over? = d) => access_step (t := 4) (n := 4) (k := 2) (m := 20) B.sp.mm HA.out.l.1 B.sp.tw goodD (by omega) wdq (by rw [HWD.out.n]; exact hand01) (by decide) HWO.out α B.ac (Is rfl) gd ho 0 q α' ht d hd
                have HD : Hid (DI W v σ q α false true g oE oSt i) := D
                have HK : Hid (60 ≤ i → 0 = i % 2) := hkK
                clear LL TT gσ
                rcases alt with ⟨hd, TA, RK⟩ | ⟨val, rfl⟩
                · have HTA : Hid (AcG v α') := TA
                  have HRK : Hid (rkG α' + 1 ≤ rkG α) := RK
                  clear TA RK D hkK
                  go_wp2_with (go_at_call 16; refine (ST false hd).mono ?_; rintro e w6 ⟨rfl, s6, cs6, u6, P⟩; have B6 := B.step HA.out P.only P.mm P.tw P.ac; have p0 := B6.n0; have pf := B6.dn.frozen 0; have B7 := B6.set0 HA.out false; have r0 := B7.n0)
                  go_roundw
                  case rel => exact ⟨i + 1, s6, σ + 1, q, α', cs6, u6, false, true, g, oE, oV, oSt, by go_num, by omega, by omega, B7, HD.out.deadOn HTA.out HRK.out, fun _ => P.is⟩
                  case measure => simp [intOf]; omega
                · obtain ⟨τ, hτ⟩ : ∃ τ, σ + 1 = τ := ⟨_, rfl⟩
                  have HDE : Hid (DI W v (σ + 1) q (.over 3 val τ) true true g 3 (τ : Int) (i + 1)) := by unfold Hid; rw [← hτ]; exact D.deadEnd
                  rw [hτ] at ST
                  have HTT : Hid (σ + 1 = τ) := hτ
                  clear D hkK hτ
                  have hd : (Ac.over 3 val τ).over? = true := rfl
                  go_wp2_with (first
                    | (go_at_call 16; refine (ST true hd).mono ?_; rintro e w6 ⟨rfl, s6, cs6, u6, P⟩; have B6 := B.step HA.out P.only P.mm P.tw P.ac; have p0 := B6.n0; have pf := B6.dn.frozen 0; have B7 := B6.set0 HA.out true; have r0 := B7.n0; obtain ⟨h1, h2, h3, h4⟩ := P.is.sec)
                    | (go_at_call 17; refine (adone_any B7.ac).mono ?_; rintro e w7 ⟨rfl, b7⟩; rw [h1, h2, h3, h4]; have B8 := B7.grown b7; have y0 := B8.o.c0; have y1 := B8.o.c1; have y2 := B8.o.c2; have y3 := B8.o.c3; have yf := B8.o.fz))
                  go_roundw
                  case rel => exact ⟨i + 1, s6, σ + 1, q, .over 3 val τ, cs6, u6, true, true, g, 3, val, (τ : Int), by go_num, by omega, by omega, B8.setO HA.out 3 val (τ : Int), HDE.out, fun h => by cases h⟩
                  case measure => simp [intOf]; omega
              · have hkK : 60 ≤ i → 1 = i % 2 := fun h => by omega
                have n0 := B.n0
                have n1 := B.n1
                have z0 := B.sp.v.c0
                have z1 := B.sp.v.c1
                have z2 := B.sp.v.c2
                have z3 := B.sp.v.c3
                have z4 := B.sp.v.c4
                have z5 := B.sp.v.c5
                have z6 := B.sp.v.c6
                have z7 := B.sp.v.c7
                have z8 := B.sp.v.c8
                have HD : Hid (DI W v σ q α false true g oE oSt (i + 1)) := D.skip1 hkK
                have HB : Hid (Stg w wr L E Ab O Gb Db s' σ q cs u false true g oE oV oSt) := B
                have HIS : Hid (AcIs W false α u) := by first | exact Is rfl | exact Is trivial | exact Is
                clear B D Is
                go_wp2
                go_roundw
                case rel => exact ⟨i + 1, s', σ, q, α, cs, u, false, true, g, oE, oV, oSt, by go_num, by omega, by omega, HB.out, HD.out, fun _ => HIS.out⟩
                case measure => simp [intOf]; omega
            · have hi6' : ¬ (i : Int) < 60 := by omega
              obtain ⟨K, hK⟩ : ∃ K, i % 2 = K := ⟨_, rfl⟩
              rw [hK] at hbit
              have hK2 : K = 0 ∨ K = 1 := by omega
              rcases hK2 with rfl | rfl
              · have hkK : 60 ≤ i → 0 = i % 2 := fun _ => hK.symm
                have n0 := B.n0
                have n1 := B.n1
                have z0 := B.sp.v.c0
                have z1 := B.sp.v.c1
                have z2 := B.sp.v.c2
                have z3 := B.sp.v.c3
                have z4 := B.sp.v.c4
                have z5 := B.sp.v.c5
                have z6 := B.sp.v.c6
                have z7 := B.sp.v.c7
                have z8 := B.sp.v.c8
                obtain ⟨q', α', ht⟩ : ∃ q' α', acTurn W false 0 1 σ q α = (q', α') := ⟨_, _, rfl⟩
                obtain ⟨gσ, LL, TT⟩ := D.dead
                obtain ⟨ho, gd, hq, alt⟩ := dead_step HWD.out LL TT ht
                have hq := hq.symm
                subst hq
                have wdq := LL.wd
                have ST := fun (d : Bool) (hd : α'.over? = d) => access_step (t := 4) (n := 4) (k := 2) (m := 20) B.sp.mm HA.out.l.1 B.sp.tw goodD (by omega) wdq (by rw [HWD.out.n]; exact hand01) (by decide) HWO.out α B.ac (Is rfl) gd ho 0 q α' ht d hd
                have HD : Hid (DI W v σ q α false true g oE oSt i) := D
                have HK : Hid (60 ≤ i → 0 = i % 2) := hkK
                clear LL TT gσ
                rcases alt with ⟨hd, TA, RK⟩ | ⟨val, rfl⟩
                · have HTA : Hid (AcG v α') := TA
                  have HRK : Hid (rkG α' + 1 ≤ rkG α) := RK
                  clear TA RK D hkK
                  go_wp2_with (go_at_call 16; refine (ST false hd).mono ?_; rintro e w6 ⟨rfl, s6, cs6, u6, P⟩; have B6 := B.step HA.out P.only P.mm P.tw P.ac; have p0 := B6.n0; have pf := B6.dn.frozen 0; have B7 := B6.set0 HA.out false; have r0 := B7.n0)
                  go_roundw
                  case rel => exact ⟨i + 1, s6, σ + 1, q, α', cs6, u6, false, true, g, oE, oV, oSt, by go_num, by omega, by omega, B7, HD.out.deadOn HTA.out HRK.out, fun _ => P.is⟩
                  case measure => simp [intOf]; omega
                · obtain ⟨τ, hτ⟩ : ∃ τ, σ + 1 = τ := ⟨_, rfl⟩
                  have HDE : Hid (DI W v (σ + 1) q (.over 3 val τ) true true g 3 (τ : Int) (i + 1)) := by unfold Hid; rw [← hτ]; exact D.deadEnd
                  rw [hτ] at ST
                  have HTT : Hid (σ + 1 = τ) := hτ
                  clear D hkK hτ
                  have hd : (Ac.over 3 val τ).over? = true := rfl
                  go_wp2_with (first
                    | (go_at_call 16; refine (ST true hd).mono ?_; rintro e w6 ⟨rfl, s6, cs6, u6, P⟩; have B6 := B.step HA.out P.only P.mm P.tw P.ac; have p0 := B6.n0; have pf := B6.dn.frozen 0; have B7 := B6.set0 HA.out true; have r0 := B7.n0; obtain ⟨h1, h2, h3, h4⟩ := P.is.sec)
                    | (go_at_call 17; refine (adone_any B7.ac).mono ?_; rintro e w7 ⟨rfl, b7⟩; rw [h1, h2, h3, h4]; have B8 := B7.grown b7; have y0 := B8.o.c0; have y1 := B8.o.c1; have y2 := B8.o.c2; have y3 := B8.o.c3; have yf := B8.o.fz))
                  go_roundw
                  case rel => exact ⟨i + 1, s6, σ + 1, q, .over 3 val τ, cs6, u6, true, true, g, 3, val, (τ : Int), by go_num, by omega, by omega, B8.setO HA.out 3 val (τ : Int), HDE.out, fun h => by cases h⟩
                  case measure => simp [intOf]; omega
              · have hkK : 60 ≤ i → 1 = i % 2 := fun _ => hK.symm
                have n0 := B.n0
                have n1 := B.n1
                have z0 := B.sp.v.c0
                have z1 := B.sp.v.c1
                have z2 := B.sp.v.c2
                have z3 := B.sp.v.c3
                have z4 := B.sp.v.c4
                have z5 := B.sp.v.c5
                have z6 := B.sp.v.c6
                have z7 := B.sp.v.c7
                have z8 := B.sp.v.c8
                have HD : Hid (DI W v σ q α false true g oE oSt (i + 1)) := D.skip1 hkK
                have HB : Hid (Stg w wr L E Ab O Gb Db s' σ q cs u false true g oE oV oSt) := B
                have HIS : Hid (AcIs W false α u) := by first | exact Is rfl | exact Is trivial | exact Is
                clear B D Is
                go_wp2
                go_roundw
                case rel => exact ⟨i + 1, s', σ, q, α, cs, u, false, true, g, oE, oV, oSt, by go_num, by omega, by omega, HB.out, HD.out, fun _ => HIS.out⟩
                case measure => simp [intOf]; omega
          · have hiM' : ¬ (i : Int) < (M : Int) := by omega
            obtain ⟨K, hK⟩ : ∃ K, i % 2 = K := ⟨_, rfl⟩
            rw [hK] at hbit
            have hK2 : K = 0 ∨ K = 1 := by omega
            rcases hK2 with rfl | rfl
            · have hkK : 60 ≤ i → 0 = i % 2 := fun _ => hK.symm
              have n0 := B.n0
              have n1 := B.n1
              have z0 := B.sp.v.c0
              have z1 := B.sp.v.c1
              have z2 := B.sp.v.c2
              have z3 := B.sp.v.c3
              have z4 := B.sp.v.c4
              have z5 := B.sp.v.c5
              have z6 := B.sp.v.c6
              have z7 := B.sp.v.c7
              have z8 := B.sp.v.c8
              obtain ⟨q', α', ht⟩ : ∃ q' α', acTurn W false 0 1 σ q α = (q', α') := ⟨_, _, rfl⟩
              obtain ⟨gσ, LL, TT⟩ := D.dead
              obtain ⟨ho, gd, hq, alt⟩ := dead_step HWD.out LL TT ht
              have hq := hq.symm
              subst hq
              have wdq := LL.wd
              have ST := fun (d : Bool) (hd : α'.over? = d) => access_step (t := 4) (n := 4) (k := 2) (m := 20) B.sp.mm HA.out.l.1 B.sp.tw goodD (by omega) wdq (by rw [HWD.out.n]; exact hand01) (by decide) HWO.out α B.ac (Is rfl) gd ho 0 q α' ht d hd
              have HD : Hid (DI W v σ q α false true g oE oSt i) := D
              have HK : Hid (60 ≤ i → 0 = i % 2) := hkK
              clear LL TT gσ
              rcases alt with ⟨hd, TA, RK⟩ | ⟨val, rfl⟩
              · have HTA : Hid (AcG v α') := TA
                have HRK : Hid (rkG α' + 1 ≤ rkG α) := RK
                clear TA RK D hkK
                go_wp2_with (go_at_call 16; refine (ST false hd).mono ?_; rintro e w6 ⟨rfl, s6, cs6, u6, P⟩; have B6 := B.step HA.out P.only P.mm P.tw P.ac; have p0 := B6.n0; have pf := B6.dn.frozen 0; have B7 := B6.set0 HA.out false; have r0 := B7.n0)
                go_roundw
                case rel => exact ⟨i + 1, s6, σ + 1, q, α', cs6, u6, false, true, g, oE, oV, oSt, by go_num, by omega, by omega, B7, HD.out.deadOn HTA.out HRK.out, fun _ => P.is⟩
                case measure => simp [intOf]; omega
              · obtain ⟨τ, hτ⟩ : ∃ τ, σ + 1 = τ := ⟨_, rfl⟩
                have HDE : Hid (DI W v (σ + 1) q (.over 3 val τ) true true g 3 (τ : Int) (i + 1)) := by unfold Hid; rw [← hτ]; exact D.deadEnd
                rw [hτ] at ST
                have HTT : Hid (σ + 1 = τ) := hτ
                clear D hkK hτ
                have hd : (Ac.over 3 val τ).over? = true := rfl
                go_wp2_with (first
                  | (go_at_call 16; refine (ST true hd).mono ?_; rintro e w6 ⟨rfl, s6, cs6, u6, P⟩; have B6 := B.step HA.out P.only P.mm P.tw P.ac; have p0 := B6.n0; have pf := B6.dn.frozen 0; have B7 := B6.set0 HA.out true; have r0 := B7.n0; obtain ⟨h1, h2, h3, h4⟩ := P.is.sec)
                  | (go_at_call 17; refine (adone_any B7.ac).mono ?_; rintro e w7 ⟨rfl, b7⟩; rw [h1, h2, h3, h4]; have B8 := B7.grown b7; have y0 := B8.o.c0; have y1 := B8.o.c1; have y2 := B8.o.c2; have y3 := B8.o.c3; have yf := B8.o.fz))
                go_roundw
                case rel => exact ⟨i + 1, s6, σ + 1, q, .over 3 val τ, cs6, u6, true, true, g, 3, val, (τ : Int), by go_num, by omega, by omega, B8.setO HA.out 3 val (τ : Int), HDE.out, fun h => by cases h⟩
                case measure => simp [intOf]; omega
            · have hkK : 60 ≤ i → 1 = i % 2 := fun _ => hK.symm
              have n0 := B.n0
              have n1 := B.n1
              have z0 := B.sp.v.c0
              have z1 := B.sp.v.c1
              have z2 := B.sp.v.c2
              have z3 := B.sp.v.c3
              have z4 := B.sp.v.c4
              have z5 := B.sp.v.c5
              have z6 := B.sp.v.c6
              have z7 := B.sp.v.c7
              have z8 := B.sp.v.c8
              have HD : Hid (DI W v σ q α false true g oE oSt (i + 1)) := D.skip1 hkK
              have HB : Hid (Stg w wr L E Ab O Gb Db s' σ q cs u false true g oE oV oSt) := B
              have HIS : Hid (AcIs W false α u) := by first | exact Is rfl | exact Is trivial | exact Is
              clear B D Is
              go_wp2
              go_roundw
              case rel => exact ⟨i + 1, s', σ, q, α, cs, u, false, true, g, oE, oV, oSt, by go_num, by omega, by omega, HB.out, HD.out, fun _ => HIS.out⟩
              case measure => simp [intOf]; omega
        | false =>
          by_cases hiM : i < M
          · have hiM' : (i : Int) < (M : Int) := by omega
            by_cases hi6 : i < 60
            · have hi6' : (i : Int) < 60 := by omega
              obtain ⟨zb, zo, rfl, hz0⟩ := HR.out i hiM
              have hz := keep' B.sp.b hz0
              obtain ⟨K, hK1, hK2⟩ := bit1 (z i)
              rcases hK2 with rfl | rfl
              · have hkK : 60 ≤ i → 0 = i % 2 := fun h => by omega
                have n0 := B.n0
                have n1 := B.n1
                have z0 := B.sp.v.c0
                have z1 := B.sp.v.c1
                have z2 := B.sp.v.c2
                have z3 := B.sp.v.c3
                have z4 := B.sp.v.c4
                have z5 := B.sp.v.c5
                have z6 := B.sp.v.c6
                have z7 := B.sp.v.c7
                have z8 := B.sp.v.c8
                obtain ⟨q', α', ht⟩ : ∃ q' α', acTurn W false 0 1 σ q α = (q', α') := ⟨_, _, rfl⟩
                obtain ⟨LL, TT⟩ := D.live
                obtain ⟨ho, gd, LL', alt⟩ := live_step HWD.out LL TT ht
                have wdq := LL.s.sc.wd
                have ST := fun (d : Bool) (hd : α'.over? = d) => access_step (t := 4) (n := 4) (k := 2) (m := 20) B.sp.mm HA.out.l.1 B.sp.tw goodD (by omega) wdq (by rw [HWD.out.n]; exact hand01) (by decide) HWO.out α B.ac (Is rfl) gd ho 0 q' α' ht d hd
                have HD : Hid (DI W v σ q α false false g oE oSt i) := D
                have HK : Hid (60 ≤ i → 0 = i % 2) := hkK
                have HLL : Hid (LiveD v q') := LL'
                clear LL LL' TT
                rcases alt with ⟨hd, TA, RK⟩ | ⟨val, st, rfl, hst⟩
                · have HTA : Hid (AcL W v q' (σ + 1) α') := TA
                  have HRK : Hid (rk3 α' + 1 ≤ rk3 α) := RK
                  clear TA RK D hkK
                  go_wp2_with (go_at_call 16; refine (ST false hd).mono ?_; rintro e w6 ⟨rfl, s6, cs6, u6, P⟩; have B6 := B.step HA.out P.only P.mm P.tw P.ac; have p0 := B6.n0; have pf := B6.dn.frozen 0; have B7 := B6.set0 HA.out false; have r0 := B7.n0)
                  go_roundw
                  case rel => exact ⟨i + 1, s6, σ + 1, q', α', cs6, u6, false, false, g, oE, oV, oSt, by go_num, by omega, by omega, B7, HD.out.liveOn HLL.out HTA.out HRK.out HK.out, fun _ => P.is⟩
                  case measure => simp [intOf]; omega
                · have HST : Hid (st ≤ σ + 1) := hst
                  clear hst D hkK
                  have hd : (Ac.over 0 val st).over? = true := rfl
                  go_wp2_with (first
                    | (go_at_call 16; refine (ST true hd).mono ?_; rintro e w6 ⟨rfl, s6, cs6, u6, P⟩; have B6 := B.step HA.out P.only P.mm P.tw P.ac; have p0 := B6.n0; have pf := B6.dn.frozen 0; have B7 := B6.set0 HA.out true; have r0 := B7.n0; obtain ⟨h1, h2, h3, h4⟩ := P.is.sec)
                    | (go_at_call 17; refine (adone_any B7.ac).mono ?_; rintro e w7 ⟨rfl, b7⟩; rw [h1, h2, h3, h4]; have B8 := B7.grown b7; have y0 := B8.o.c0; have y1 := B8.o.c1; have y2 := B8.o.c2; have y3 := B8.o.c3; have yf := B8.o.fz))
                  go_roundw
                  case rel => exact ⟨i + 1, s6, σ + 1, q', .over 0 val st, cs6, u6, true, false, g, 0, val, (st : Int), by go_num, by omega, by omega, B8.setO HA.out 0 val (st : Int), HD.out.liveEnd HLL.out HST.out HK.out, fun h => by cases h⟩
                  case measure => simp [intOf]; omega
              · have hkK : 60 ≤ i → 1 = i % 2 := fun h => by omega
                have n0 := B.n0
                have n1 := B.n1
                have z0 := B.sp.v.c0
                have z1 := B.sp.v.c1
                have z2 := B.sp.v.c2
                have z3 := B.sp.v.c3
                have z4 := B.sp.v.c4
                have z5 := B.sp.v.c5
                have z6 := B.sp.v.c6
                have z7 := B.sp.v.c7
                have z8 := B.sp.v.c8
                obtain ⟨rn, dd⟩ := D.lv.runs B.sp.tw.pile.hdle
                have HDD : Hid (DeadD v (q.gone 100 0 v 2 0)) := dd
                have HRN : Hid (DTells 4 4 2 20 100 false 0 1 12 q .see (q.gone 100 0 v 2 0) (.over 0)) := rn
                have HD : Hid (DI W v σ q α false false g oE oSt i) := D
                have HK : Hid (60 ≤ i → 1 = i % 2) := hkK
                have HWQ : Hid (∀ a, Wd (q.dw a)) := D.lv.s.sc.wd
                have HIS : Hid (AcIs W false α u) := by first | exact Is rfl | exact Is trivial | exact Is
                clear D rn dd hkK Is
                go_wp2_with (go_at_call 18; refine (drop_tells B.sp.mm B.sp.tw goodD HWQ.out hand01 (by decide) (by omega) (by decide) HRN.out).mono ?_; rintro e w6 ⟨st, s6, rfl, m6, t6, o6, hst⟩; have B6 := B.gone HA.out o6 m6 t6; have HST : Hid ((σ : Int) < st ∧ st ≤ (σ : Int) + 12) := ⟨(hst rfl).1, (hst rfl).2⟩; clear hst; have q0 := B6.gn.c0; have q1 := B6.gn.c1; have q2 := B6.gn.c2; have q3 := B6.gn.c3; have qf := B6.gn.fz; have B7 := B6.setG HA.out st; have p1 := B7.n1; have pf := B7.dn.frozen 1)
                go_roundw
                case rel =>
                  have hst := HST.out
                  exact ⟨i + 1, s6, σ + 12, q.gone 100 0 v 2 0, α, cs, u, false, true, st, oE, oV, oSt, by go_num, by omega, by omega, B7.set1 HA.out true, HD.out.gone HDD.out hst.1 hst.2 HK.out, fun _ => HIS.out⟩
                case measure => simp [intOf]; omega
            · have hi6' : ¬ (i : Int) < 60 := by omega
              obtain ⟨K, hK⟩ : ∃ K, i % 2 = K := ⟨_, rfl⟩
              rw [hK] at hbit
              have hK2 : K = 0 ∨ K = 1 := by omega
              rcases hK2 with rfl | rfl
              · have hkK : 60 ≤ i → 0 = i % 2 := fun _ => hK.symm
                have n0 := B.n0
                have n1 := B.n1
                have z0 := B.sp.v.c0
                have z1 := B.sp.v.c1
                have z2 := B.sp.v.c2
                have z3 := B.sp.v.c3
                have z4 := B.sp.v.c4
                have z5 := B.sp.v.c5
                have z6 := B.sp.v.c6
                have z7 := B.sp.v.c7
                have z8 := B.sp.v.c8
                obtain ⟨q', α', ht⟩ : ∃ q' α', acTurn W false 0 1 σ q α = (q', α') := ⟨_, _, rfl⟩
                obtain ⟨LL, TT⟩ := D.live
                obtain ⟨ho, gd, LL', alt⟩ := live_step HWD.out LL TT ht
                have wdq := LL.s.sc.wd
                have ST := fun (d : Bool) (hd : α'.over? = d) => access_step (t := 4) (n := 4) (k := 2) (m := 20) B.sp.mm HA.out.l.1 B.sp.tw goodD (by omega) wdq (by rw [HWD.out.n]; exact hand01) (by decide) HWO.out α B.ac (Is rfl) gd ho 0 q' α' ht d hd
                have HD : Hid (DI W v σ q α false false g oE oSt i) := D
                have HK : Hid (60 ≤ i → 0 = i % 2) := hkK
                have HLL : Hid (LiveD v q') := LL'
                clear LL LL' TT
                rcases alt with ⟨hd, TA, RK⟩ | ⟨val, st, rfl, hst⟩
                · have HTA : Hid (AcL W v q' (σ + 1) α') := TA
                  have HRK : Hid (rk3 α' + 1 ≤ rk3 α) := RK
                  clear TA RK D hkK
                  go_wp2_with (go_at_call 16; refine (ST false hd).mono ?_; rintro e w6 ⟨rfl, s6, cs6, u6, P⟩; have B6 := B.step HA.out P.only P.mm P.tw P.ac; have p0 := B6.n0; have pf := B6.dn.frozen 0; have B7 := B6.set0 HA.out false; have r0 := B7.n0)
                  go_roundw
                  case rel => exact ⟨i + 1, s6, σ + 1, q', α', cs6, u6, false, false, g, oE, oV, oSt, by go_num, by omega, by omega, B7, HD.out.liveOn HLL.out HTA.out HRK.out HK.out, fun _ => P.is⟩
                  case measure => simp [intOf]; omega
                · have HST : Hid (st ≤ σ + 1) := hst
                  clear hst D hkK
                  have hd : (Ac.over 0 val st).over? = true := rfl
                  go_wp2_with (first
                    | (go_at_call 16; refine (ST true hd).mono ?_; rintro e w6 ⟨rfl, s6, cs6, u6, P⟩; have B6 := B.step HA.out P.only P.mm P.tw P.ac; have p0 := B6.n0; have pf := B6.dn.frozen 0; have B7 := B6.set0 HA.out true; have r0 := B7.n0; obtain ⟨h1, h2, h3, h4⟩ := P.is.sec)
                    | (go_at_call 17; refine (adone_any B7.ac).mono ?_; rintro e w7 ⟨rfl, b7⟩; rw [h1, h2, h3, h4]; have B8 := B7.grown b7; have y0 := B8.o.c0; have y1 := B8.o.c1; have y2 := B8.o.c2; have y3 := B8.o.c3; have yf := B8.o.fz))
                  go_roundw
                  case rel => exact ⟨i + 1, s6, σ + 1, q', .over 0 val st, cs6, u6, true, false, g, 0, val, (st : Int), by go_num, by omega, by omega, B8.setO HA.out 0 val (st : Int), HD.out.liveEnd HLL.out HST.out HK.out, fun h => by cases h⟩
                  case measure => simp [intOf]; omega
              · have hkK : 60 ≤ i → 1 = i % 2 := fun _ => hK.symm
                have n0 := B.n0
                have n1 := B.n1
                have z0 := B.sp.v.c0
                have z1 := B.sp.v.c1
                have z2 := B.sp.v.c2
                have z3 := B.sp.v.c3
                have z4 := B.sp.v.c4
                have z5 := B.sp.v.c5
                have z6 := B.sp.v.c6
                have z7 := B.sp.v.c7
                have z8 := B.sp.v.c8
                obtain ⟨rn, dd⟩ := D.lv.runs B.sp.tw.pile.hdle
                have HDD : Hid (DeadD v (q.gone 100 0 v 2 0)) := dd
                have HRN : Hid (DTells 4 4 2 20 100 false 0 1 12 q .see (q.gone 100 0 v 2 0) (.over 0)) := rn
                have HD : Hid (DI W v σ q α false false g oE oSt i) := D
                have HK : Hid (60 ≤ i → 1 = i % 2) := hkK
                have HWQ : Hid (∀ a, Wd (q.dw a)) := D.lv.s.sc.wd
                have HIS : Hid (AcIs W false α u) := by first | exact Is rfl | exact Is trivial | exact Is
                clear D rn dd hkK Is
                go_wp2_with (go_at_call 18; refine (drop_tells B.sp.mm B.sp.tw goodD HWQ.out hand01 (by decide) (by omega) (by decide) HRN.out).mono ?_; rintro e w6 ⟨st, s6, rfl, m6, t6, o6, hst⟩; have B6 := B.gone HA.out o6 m6 t6; have HST : Hid ((σ : Int) < st ∧ st ≤ (σ : Int) + 12) := ⟨(hst rfl).1, (hst rfl).2⟩; clear hst; have q0 := B6.gn.c0; have q1 := B6.gn.c1; have q2 := B6.gn.c2; have q3 := B6.gn.c3; have qf := B6.gn.fz; have B7 := B6.setG HA.out st; have p1 := B7.n1; have pf := B7.dn.frozen 1)
                go_roundw
                case rel =>
                  have hst := HST.out
                  exact ⟨i + 1, s6, σ + 12, q.gone 100 0 v 2 0, α, cs, u, false, true, st, oE, oV, oSt, by go_num, by omega, by omega, B7.set1 HA.out true, HD.out.gone HDD.out hst.1 hst.2 HK.out, fun _ => HIS.out⟩
                case measure => simp [intOf]; omega
          · have hiM' : ¬ (i : Int) < (M : Int) := by omega
            obtain ⟨K, hK⟩ : ∃ K, i % 2 = K := ⟨_, rfl⟩
            rw [hK] at hbit
            have hK2 : K = 0 ∨ K = 1 := by omega
            rcases hK2 with rfl | rfl
            · have hkK : 60 ≤ i → 0 = i % 2 := fun _ => hK.symm
              have n0 := B.n0
              have n1 := B.n1
              have z0 := B.sp.v.c0
              have z1 := B.sp.v.c1
              have z2 := B.sp.v.c2
              have z3 := B.sp.v.c3
              have z4 := B.sp.v.c4
              have z5 := B.sp.v.c5
              have z6 := B.sp.v.c6
              have z7 := B.sp.v.c7
              have z8 := B.sp.v.c8
              obtain ⟨q', α', ht⟩ : ∃ q' α', acTurn W false 0 1 σ q α = (q', α') := ⟨_, _, rfl⟩
              obtain ⟨LL, TT⟩ := D.live
              obtain ⟨ho, gd, LL', alt⟩ := live_step HWD.out LL TT ht
              have wdq := LL.s.sc.wd
              have ST := fun (d : Bool) (hd : α'.over? = d) => access_step (t := 4) (n := 4) (k := 2) (m := 20) B.sp.mm HA.out.l.1 B.sp.tw goodD (by omega) wdq (by rw [HWD.out.n]; exact hand01) (by decide) HWO.out α B.ac (Is rfl) gd ho 0 q' α' ht d hd
              have HD : Hid (DI W v σ q α false false g oE oSt i) := D
              have HK : Hid (60 ≤ i → 0 = i % 2) := hkK
              have HLL : Hid (LiveD v q') := LL'
              clear LL LL' TT
              rcases alt with ⟨hd, TA, RK⟩ | ⟨val, st, rfl, hst⟩
              · have HTA : Hid (AcL W v q' (σ + 1) α') := TA
                have HRK : Hid (rk3 α' + 1 ≤ rk3 α) := RK
                clear TA RK D hkK
                go_wp2_with (go_at_call 16; refine (ST false hd).mono ?_; rintro e w6 ⟨rfl, s6, cs6, u6, P⟩; have B6 := B.step HA.out P.only P.mm P.tw P.ac; have p0 := B6.n0; have pf := B6.dn.frozen 0; have B7 := B6.set0 HA.out false; have r0 := B7.n0)
                go_roundw
                case rel => exact ⟨i + 1, s6, σ + 1, q', α', cs6, u6, false, false, g, oE, oV, oSt, by go_num, by omega, by omega, B7, HD.out.liveOn HLL.out HTA.out HRK.out HK.out, fun _ => P.is⟩
                case measure => simp [intOf]; omega
              · have HST : Hid (st ≤ σ + 1) := hst
                clear hst D hkK
                have hd : (Ac.over 0 val st).over? = true := rfl
                go_wp2_with (first
                  | (go_at_call 16; refine (ST true hd).mono ?_; rintro e w6 ⟨rfl, s6, cs6, u6, P⟩; have B6 := B.step HA.out P.only P.mm P.tw P.ac; have p0 := B6.n0; have pf := B6.dn.frozen 0; have B7 := B6.set0 HA.out true; have r0 := B7.n0; obtain ⟨h1, h2, h3, h4⟩ := P.is.sec)
                  | (go_at_call 17; refine (adone_any B7.ac).mono ?_; rintro e w7 ⟨rfl, b7⟩; rw [h1, h2, h3, h4]; have B8 := B7.grown b7; have y0 := B8.o.c0; have y1 := B8.o.c1; have y2 := B8.o.c2; have y3 := B8.o.c3; have yf := B8.o.fz))
                go_roundw
                case rel => exact ⟨i + 1, s6, σ + 1, q', .over 0 val st, cs6, u6, true, false, g, 0, val, (st : Int), by go_num, by omega, by omega, B8.setO HA.out 0 val (st : Int), HD.out.liveEnd HLL.out HST.out HK.out, fun h => by cases h⟩
                case measure => simp [intOf]; omega
            · have hkK : 60 ≤ i → 1 = i % 2 := fun _ => hK.symm
              have n0 := B.n0
              have n1 := B.n1
              have z0 := B.sp.v.c0
              have z1 := B.sp.v.c1
              have z2 := B.sp.v.c2
              have z3 := B.sp.v.c3
              have z4 := B.sp.v.c4
              have z5 := B.sp.v.c5
              have z6 := B.sp.v.c6
              have z7 := B.sp.v.c7
              have z8 := B.sp.v.c8
              obtain ⟨rn, dd⟩ := D.lv.runs B.sp.tw.pile.hdle
              have HDD : Hid (DeadD v (q.gone 100 0 v 2 0)) := dd
              have HRN : Hid (DTells 4 4 2 20 100 false 0 1 12 q .see (q.gone 100 0 v 2 0) (.over 0)) := rn
              have HD : Hid (DI W v σ q α false false g oE oSt i) := D
              have HK : Hid (60 ≤ i → 1 = i % 2) := hkK
              have HWQ : Hid (∀ a, Wd (q.dw a)) := D.lv.s.sc.wd
              have HIS : Hid (AcIs W false α u) := by first | exact Is rfl | exact Is trivial | exact Is
              clear D rn dd hkK Is
              go_wp2_with (go_at_call 18; refine (drop_tells B.sp.mm B.sp.tw goodD HWQ.out hand01 (by decide) (by omega) (by decide) HRN.out).mono ?_; rintro e w6 ⟨st, s6, rfl, m6, t6, o6, hst⟩; have B6 := B.gone HA.out o6 m6 t6; have HST : Hid ((σ : Int) < st ∧ st ≤ (σ : Int) + 12) := ⟨(hst rfl).1, (hst rfl).2⟩; clear hst; have q0 := B6.gn.c0; have q1 := B6.gn.c1; have q2 := B6.gn.c2; have q3 := B6.gn.c3; have qf := B6.gn.fz; have B7 := B6.setG HA.out st; have p1 := B7.n1; have pf := B7.dn.frozen 1)
              go_roundw
              case rel =>
                have hst := HST.out
                exact ⟨i + 1, s6, σ + 12, q.gone 100 0 v 2 0, α, cs, u, false, true, st, oE, oV, oSt, by go_num, by omega, by omega, B7.set1 HA.out true, HD.out.gone HDD.out hst.1 hst.2 HK.out, fun _ => HIS.out⟩
              case measure => simp [intOf]; omega
    · have hi' : ¬ (i : Int) < 200 := by omega
      obtain rfl : i = 200 := by omega
      obtain ⟨rfl, rfl⟩ := D.last
      have t := D.told
      have n0 := B.n0
      have n1 := B.n1
      have o0 := B.o.c0
      have o3 := B.o.c3
      have g0 := B.gn.c0
      have g3 := B.gn.c3
      have b9 := B.sp.b
      clear B D Is
      rcases t with ⟨rfl, h⟩ | ⟨rfl, h⟩
      · go_wp2
        go_ret
        exact ⟨rfl, b9⟩
      · have h' : oSt ≥ g := h
        go_wp2
        go_ret
        exact ⟨rfl, b9⟩
end Go.Proofs.YtcdmokbamakomaaGreat
