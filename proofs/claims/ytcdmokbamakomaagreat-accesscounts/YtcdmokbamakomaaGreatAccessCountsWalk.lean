/- AccessCounts answers true for all numbers and all picks, and leaves what was in memory. -/
import Derived.Test.YtcdmokbamakomaaGreatAccCount
import Derived.Test.YtcdmokbamakomaaGreatArgs
namespace Go.Proofs.YtcdmokbamakomaaGreat
open Go.RowKit

theorem Team.setX {w0 w : World} {L : Loc} {E Wb Db σ na X : Nat} {T1 T2 : TypeId} {s : Mm} {q : Q} {P : Nat → Option Nat} {ps : Nat → Ac} {Ws : Nat → Wt} {dn : Nat → Value} (B : Team w0 w L E Wb Db T1 T2 na s σ q P ps Ws dn) (hL : ¬ L.has X) (hE : E ≠ X) (hW : Wb ≠ X) (hD : Db ≠ X) (h0 : w0.heap.size ≤ X) (hp : ∀ a b, P a = some b → b ≠ X) (i : Nat) (v : Value) : Team w0 (w.setCell ⟨X, i, none⟩ v) L E Wb Db T1 T2 na s σ q P ps Ws dn :=
  ⟨B.mm.setIn hL _ _, B.tw, B.v.setIn hE _ _, below_setIn B.b h0 _ _, B.ar.setOther hW _, B.dr.setOther hD _, fun a b ha => by obtain ⟨cs, u, h1, h2⟩ := B.at_ a b ha; exact ⟨cs, u, h1.other (hp a b ha) _ _, h2⟩⟩

set_option maxRecDepth 20000 in
set_option maxHeartbeats 4000000 in
theorem accessCounts_any (many : Int) (ao : Option Addr) (M cap : Nat) (z : Nat → Int) (w : World) (hr : IntsAt .i64 w ao M z) :
    Calls Tryz.prog 4 #[.int .i64 many, .slice ao M cap] w fun e w' => e = .returned (.bool true) ∧ Below w.heap.size w w' := by
  have HR : Hid (IntsAt .i64 w ao M z) := hr
  clear hr
  have AR := fun w => arena08 goodA (by omega) w
  have f0 : ∀ (a1 a2 a3 a4 : Value) (w : World), (Instr.field 37 (.agg #[a1, a2, a3, a4]) 0).run Tryz.prog w = .ok a1 w := fun a1 a2 a3 a4 w => by kernel_rfl
  have f1 : ∀ (a1 a2 a3 a4 : Value) (w : World), (Instr.field 37 (.agg #[a1, a2, a3, a4]) 1).run Tryz.prog w = .ok a2 w := fun a1 a2 a3 a4 w => by kernel_rfl
  have f2 : ∀ (a1 a2 a3 a4 : Value) (w : World), (Instr.field 37 (.agg #[a1, a2, a3, a4]) 2).run Tryz.prog w = .ok a3 w := fun a1 a2 a3 a4 w => by kernel_rfl
  go_enter Tryz.func4, Tryz.ntmps4
  go_wp2_with (first
    | (go_at_call 9; refine (AR _).mono ?_; rintro e w1 ⟨L, s, rfl, m1, t1, b1, l1⟩; obtain ⟨c1, pa⟩ := Farm.first goodA m1 t1 b1 l1)
    | (go_at_call 10; refine (awake10_any _).mono ?_; rintro e w2 ⟨rfl, b2⟩; have c2 := c1.grown b2; have z0 := c2.v.c0; have z1 := c2.v.c1; have z2 := c2.v.c2; have z3 := c2.v.c3; have z4 := c2.v.c4; have z5 := c2.v.c5; have z6 := c2.v.c6; have z7 := c2.v.c7; have z8 := c2.v.c8)
    | (go_at_call 11; refine (word_make c2 pa (by decide)).mono ?_; rintro e w3 ⟨st3, s3, σ3, rfl, h3, c3⟩))
  obtain ⟨E, hE⟩ : ∃ E, w1.heap.size = E := ⟨_, rfl⟩
  rw [hE] at c3 pa ⊢
  have GG0 : Hid (Cell1 4 4 2 20 0 1 (qW.sw 0) qW 0) := word_cell c3
  obtain ⟨vL, hvL⟩ : ∃ vL, qW.sw 0 = vL := ⟨_, rfl⟩
  rw [hvL] at GG0
  have hσ3 : σ3 ≤ 200 := by omega
  have PA : Hid (FarmApart w L E 4 4 2 20 100) := pa
  have C3 : Hid (Farm w w3 L E 4 4 2 20 100 s3 σ3 qW 1 (fun _ => 1) ([] ++ oxW :: [])) := c3
  clear c1 c2 b2 z0 z1 z2 z3 z4 z5 z6 z7 z8 m1 t1 b1 l1 AR hE c3 pa hvL h3
  have ltE := C3.out.ltE
  have ltL : ∀ a, L.has a → a < w3.heap.size := fun a h => C3.out.mm.lt a h
  have rA : ((w3.alloc (.cells #[.pointer none, .pointer none, .pointer none] 46)).alloc (.cells #[.int .i64 (-1), .int .i64 (-1), .int .i64 (-1)] 47)).rowIs w3.heap.size 46 3 (fun a => ptrOf ((fun _ => none) a)) := by
    refine ⟨#[.pointer none, .pointer none, .pointer none], ?_, rfl, fun i hi => three10 _ i hi⟩
    rw [Go.Deep.blk_alloc_lt _ _ _ (by rw [Go.Deep.nblk_alloc]; omega)]
    exact Go.Deep.blk_alloc_new _ _
  have rD : ((w3.alloc (.cells #[.pointer none, .pointer none, .pointer none] 46)).alloc (.cells #[.int .i64 (-1), .int .i64 (-1), .int .i64 (-1)] 47)).rowIs (w3.heap.size + 1) 47 3 (fun a => Value.int .i64 ((fun _ => -1) a)) := by
    refine ⟨#[.int .i64 (-1), .int .i64 (-1), .int .i64 (-1)], ?_, rfl, fun i hi => three10 _ i hi⟩
    have := Go.Deep.blk_alloc_new (w3.alloc (.cells #[.pointer none, .pointer none, .pointer none] 46)) (.cells #[.int .i64 (-1), .int .i64 (-1), .int .i64 (-1)] 47)
    rwa [Go.Deep.nblk_alloc] at this
  have g4 : Below w3.heap.size w3 ((w3.alloc (.cells #[.pointer none, .pointer none, .pointer none] 46)).alloc (.cells #[.int .i64 (-1), .int .i64 (-1), .int .i64 (-1)] 47)) := grow_alloc (grow1 _ _) _
  have B0 : Team w ((w3.alloc (.cells #[.pointer none, .pointer none, .pointer none] 46)).alloc (.cells #[.int .i64 (-1), .int .i64 (-1), .int .i64 (-1)] 47)) L E w3.heap.size (w3.heap.size + 1) 46 47 3 s3 σ3 qW (fun _ => none) (fun _ => Ac.see) (fun _ => wtC (-1)) (fun a => Value.int .i64 ((fun _ => -1) a)) := ⟨C3.out.mm.below g4, C3.out.tw, C3.out.v.grown g4, grow C3.out.b g4, rA, rD, fun a b ha => by cases ha⟩
  have A0 : TeamApart w L E w3.heap.size (w3.heap.size + 1) (fun _ => none) := ⟨PA.out.l0, PA.out.e, fun h => by have := ltL _ h; omega, fun h => by have := ltL _ h; omega, by omega, by omega, by omega, C3.out.b.size, by have := C3.out.b.size; omega, fun a b ha => (by cases ha), fun a a' b ha => (by cases ha)⟩
  obtain ⟨Wb, hWb⟩ : ∃ Wb, w3.heap.size = Wb := ⟨_, rfl⟩
  obtain ⟨Db, hDb⟩ : ∃ Db, Wb + 1 = Db := ⟨_, rfl⟩
  rw [hWb, hDb] at B0 A0 ⊢
  have HB0 : Hid (Team w ((w3.alloc (.cells #[.pointer none, .pointer none, .pointer none] 46)).alloc (.cells #[.int .i64 (-1), .int .i64 (-1), .int .i64 (-1)] 47)) L E Wb Db 46 47 3 s3 σ3 qW (fun _ => none) (fun _ => Ac.see) (fun _ => wtC (-1)) (fun a => Value.int .i64 ((fun _ => -1) a))) := B0
  have HA0 : Hid (TeamApart w L E Wb Db (fun _ => none)) := A0
  clear B0 A0 rA rD g4 ltE ltL C3 hWb hDb
  go_loopw [10, 11] (fun dv iv wr => ∃ (r D : Nat) (s' : Mm) (σ : Nat) (q : Q) (P : Nat → Option Nat) (ps : Nat → Ac) (Ws : Nat → Wt) (old : Nat → Int), dv = .int .i64 D ∧ iv = .int .i64 r ∧ r ≤ 500 ∧ D ≤ σ ∧ σ ≤ 200 + r ∧ Team w wr L E Wb Db 46 47 3 s' σ q P ps Ws (fun a => Value.int .i64 (old a)) ∧ TeamApart w L E Wb Db P ∧ CntI vL q (D : Int) old P ps Ws) (fun _ iv _ => 500 - (intOf iv).toNat)
  case atStart => exact ⟨0, 0, s3, σ3, qW, fun _ => none, fun _ => .see, fun _ => wtC (-1), fun _ => -1, rfl, rfl, by omega, by omega, by omega, HB0.out, HA0.out, ⟨GG0.out, fun _ _ => ⟨by decide, by decide⟩, fun a _ p hp => by cases hp⟩⟩
  case round =>
    clear HB0 HA0 GG0
    obtain ⟨r, D, s', σ, q, P, ps, Ws, old, rfl, rfl, hr5, hDσ, hσ, B, ap, CI⟩ := hrel
    by_cases hrN : r < M
    · have hrN' : (r : Int) < (M : Int) := by omega
      by_cases hr : r < 500
      · have hr' : (r : Int) < 500 := by omega
        obtain ⟨zb, zo, rfl, hz0⟩ := HR.out r hrN
        have hz := keep' B.b hz0
        obtain ⟨K, hK1, hK, hK3, hK5⟩ := pick3 (z r)
        have hK3' : (K : Int) < 3 := by omega
        have hK3n : (K : Int) < ((3 : Nat) : Int) := by omega
        have hK0 : (0 : Int) ≤ (K : Int) := by omega
        clear hz0
        cases hPK : P K with
        | some p =>
          have HPK : Hid (P K = some p) := hPK
          have hpz := B.ar.cell (i := K) hK
          rw [hPK] at hpz
          simp only [ptrOf] at hpz
          clear hPK
          go_wp2
          refine wp_over (fun W' => Team w W' L E Wb Db 46 47 3 s' σ q P ps Ws (fun a => Value.int .i64 (old a))) B ?_
          clear B hpz hz
          intro W' B
          have HAP : Hid (TeamApart w L E Wb Db P) := ap
          obtain ⟨q', α', ht⟩ : ∃ q' α', acTurn (Ws K) false 0 1 σ q (ps K) = (q', α') := ⟨_, _, rfl⟩
          have T := CI.th K hK p HPK.out
          obtain ⟨gd, KEY⟩ := CI.step hK HPK.out (by omega) ht
          have ST := fun (w1 : World) (B1 : Team w w1 L E Wb Db 46 47 3 s' σ q P ps Ws (fun a => Value.int .i64 (old a))) (d : Bool) (hd : α'.over? = d) => B1.step HAP.out HPK.out (by omega) CI.s.sc.wd (by rw [T.w]; exact wtC_ok (CI.ol K hK).2) (by rw [T.w]; exact wtC_nu _) gd T.ov ht hd
          have HCI : Hid (CntI vL q (D : Int) old P ps Ws) := CI
          have HKEY : Hid ((α'.over? = false ∧ CntI vL q' (D : Int) old P (upd ps K α') Ws) ∨
                (∃ E c0 st, α' = .over E c0 st ∧ (0 ≤ c0 ∧ c0 ≤ 10000) ∧ ((old K < 0 ∧ E = 0) ∨ (0 ≤ old K ∧ E = 8)) ∧ Cell1 4 4 2 20 0 1 vL q' (D : Int)) ∨
                (∃ c0 st, α' = .over 0 c0 st ∧ 0 ≤ old K ∧ Cell1 4 4 2 20 0 1 vL q' ((D : Int) + 1))) := KEY
          clear CI KEY gd T ht ap
          refine wp_region_rely_tail Grown 4 [.val (.int .i64 K), .val (.pointer (some ⟨Wb, K, none⟩)), .val (.pointer (some ⟨p, 0, none⟩)), .val (.agg #[.int .i64 4, .int .i64 4, .int .i64 2, .int .i64 20, .int .i64 100, .int .i64 600, .int .i64 3, .pointer (some ⟨L.p, 0, none⟩), .int .i64 0])] (by kernel_rfl) Grown.refl Grown.trans (by decide) (by kernel_rfl) (by kernel_rfl) (by kernel_rfl) (by kernel_rfl) (by kernel_rfl) (by kernel_rfl) ?_
          simp only [List.take_succ_cons, List.take_zero, relyAll, Act.put, List.setIfInBounds_toArray, List.set_cons_zero, List.set_cons_succ]
          refine ⟨?_, ?_, ?_, ?_, ?_⟩
          · intro w' hg _
            refine Or.inl ⟨rfl, ?_⟩
            go_simp
            exact ⟨Grown.refl _, rfl⟩
          · intro w' hg _
            refine Or.inl ⟨rfl, ?_⟩
            have hb : (0 : Int) ≤ (K : Int) := by omega
            go_simp
            exact ⟨Grown.refl _, rfl⟩
          · intro w' hg _
            refine Or.inl ⟨rfl, ?_⟩
            have z := (B.drew.grown hg).ar.cell (i := K) (by omega)
            rw [HPK.out] at z
            simp only [ptrOf] at z
            go_simp
            exact ⟨Grown.refl _, rfl⟩
          · intro w' hg _
            refine Or.inl ⟨rfl, ?_⟩
            have vv := (B.drew.grown hg).v
            have y0 := vv.c0
            have y1 := vv.c1
            have y2 := vv.c2
            have y3 := vv.c3
            have y4 := vv.c4
            have y5 := vv.c5
            have y6 := vv.c6
            have y7 := vv.c7
            have y8 := vv.c8
            go_simp
            exact ⟨Grown.refl _, rfl⟩
          intro w5 hg _
          have B5 := B.drew.grown hg
          clear B hg
          rcases HKEY.out with ⟨hd, CI⟩ | ⟨E9, c0, st, hα, hc0, hE, S9⟩ | ⟨c0, st, hα, ho, S9⟩
          · clear HKEY
            go_wp2_with (go_at_call 16; refine (ST _ B5 false hd).mono ?_; rintro e w6 ⟨rfl, s6, B6⟩)
            go_roundw
            case rel => exact ⟨r + 1, D, s6, σ + 1, q', P, upd ps K α', Ws, old, rfl, by go_num, by omega, by omega, by omega, B6, HAP.out, CI⟩
            case measure => simp [intOf]; omega
          · subst hα
            have hDb : (0 : Int) ≤ c0 ∧ c0 ≤ 10000 := hc0
            rcases hE with ⟨ho, rfl⟩ | ⟨ho, rfl⟩
            · have hd : (Ac.over 0 c0 st).over? = true := rfl
              clear HKEY
              have hn : ¬ (0 : Int) ≤ old K := by omega
              have hn' : ¬ old K ≥ 0 := by omega
              go_wp2_with (first
                | (go_at_call 16; refine (ST _ B5 true hd).mono ?_; rintro e w6 ⟨rfl, s6, B6⟩; have wz := B6.ar.cell (i := K) hK; rw [HPK.out] at wz; simp only [ptrOf] at wz)
                | (go_at_call 17; refine (B6.done HPK.out (upd_same _ _ _)).mono ?_; rintro e w9 ⟨rfl, b9⟩; have B7 := B6.grown (grow_alloc b9 (.cells #[.int .i64 0, .int .u64 0, .int .i64 c0, .int .i64 st] 37)); have pz := B7.ar.cell (i := K) hK; rw [HPK.out] at pz; simp only [ptrOf] at pz; have pf := B7.ar.frozen K; obtain ⟨B8, ap8⟩ := B7.clear HAP.out K; have oz := B8.dr.cell (i := K) hK; have of := B8.dr.frozen K; have dd := (At.new w9 37 [.int .i64 0, .int .u64 0, .int .i64 c0, .int .i64 st]).other (k := Wb) (by have := B6.ar.lt; have := b9.size; omega) K (.pointer none); have d0 := dd.at0 0 rfl; have d2 := dd.at0 2 rfl))
              go_roundw
              case rel =>
                have B9 := B8.setD ap8 K (.int .i64 c0)
                rw [← (show (fun a => Value.int .i64 (upd old K c0 a)) = upd (fun a => Value.int .i64 (old a)) K (Value.int .i64 c0) from by funext j; unfold upd; split <;> rfl)] at B9
                exact ⟨r + 1, D, s6, σ + 1, q', upd P K none, upd ps K (.over 0 c0 st), Ws, upd old K c0, rfl, by go_num, by omega, by omega, by omega, B9, ap8, HCI.out.drop S9 (by omega) _⟩
              case measure => simp [intOf]; omega
            · have hd : (Ac.over 8 c0 st).over? = true := rfl
              clear HKEY
              go_wp2_with (first
                | (go_at_call 16; refine (ST _ B5 true hd).mono ?_; rintro e w6 ⟨rfl, s6, B6⟩; have wz := B6.ar.cell (i := K) hK; rw [HPK.out] at wz; simp only [ptrOf] at wz)
                | (go_at_call 17; refine (B6.done HPK.out (upd_same _ _ _)).mono ?_; rintro e w9 ⟨rfl, b9⟩; have B7 := B6.grown (grow_alloc b9 (.cells #[.int .i64 8, .int .u64 0, .int .i64 c0, .int .i64 st] 37)); have pz := B7.ar.cell (i := K) hK; rw [HPK.out] at pz; simp only [ptrOf] at pz; have pf := B7.ar.frozen K; obtain ⟨B8, ap8⟩ := B7.clear HAP.out K; have oz := B8.dr.cell (i := K) hK; have of := B8.dr.frozen K; have dd := (At.new w9 37 [.int .i64 8, .int .u64 0, .int .i64 c0, .int .i64 st]).other (k := Wb) (by have := B6.ar.lt; have := b9.size; omega) K (.pointer none); have d0 := dd.at0 0 rfl; have d2 := dd.at0 2 rfl))
              go_roundw
              case rel =>
                have B9 := B8.setD ap8 K (.int .i64 c0)
                rw [← (show (fun a => Value.int .i64 (upd old K c0 a)) = upd (fun a => Value.int .i64 (old a)) K (Value.int .i64 c0) from by funext j; unfold upd; split <;> rfl)] at B9
                exact ⟨r + 1, D, s6, σ + 1, q', upd P K none, upd ps K (.over 8 c0 st), Ws, upd old K c0, rfl, by go_num, by omega, by omega, by omega, B9, ap8, HCI.out.drop S9 (by omega) _⟩
              case measure => simp [intOf]; omega
          · subst hα
            have hn' : old K ≥ 0 := ho
            have hd : (Ac.over 0 c0 st).over? = true := rfl
            clear HKEY
            go_wp2_with (first
              | (go_at_call 16; refine (ST _ B5 true hd).mono ?_; rintro e w6 ⟨rfl, s6, B6⟩; have wz := B6.ar.cell (i := K) hK; rw [HPK.out] at wz; simp only [ptrOf] at wz)
              | (go_at_call 17; refine (B6.done HPK.out (upd_same _ _ _)).mono ?_; rintro e w9 ⟨rfl, b9⟩; have B7 := B6.grown (grow_alloc b9 (.cells #[.int .i64 0, .int .u64 0, .int .i64 c0, .int .i64 st] 37)); have pz := B7.ar.cell (i := K) hK; rw [HPK.out] at pz; simp only [ptrOf] at pz; have pf := B7.ar.frozen K; obtain ⟨B8, ap8⟩ := B7.clear HAP.out K; have oz := B8.dr.cell (i := K) hK; have of := B8.dr.frozen K; have dd := (At.new w9 37 [.int .i64 0, .int .u64 0, .int .i64 c0, .int .i64 st]).other (k := Wb) (by have := B6.ar.lt; have := b9.size; omega) K (.pointer none); have d0 := dd.at0 0 rfl; have d2 := dd.at0 2 rfl))
            go_roundw
            case rel =>
              have B9 := B8.setD ap8 K (.int .i64 (-1))
              rw [← (show (fun a => Value.int .i64 (upd old K (-1) a)) = upd (fun a => Value.int .i64 (old a)) K (Value.int .i64 (-1)) from by funext j; unfold upd; split <;> rfl)] at B9
              exact ⟨r + 1, D + 1, s6, σ + 1, q', upd P K none, upd ps K (.over 0 c0 st), Ws, upd old K (-1), by go_num, by go_num, by omega, by omega, by omega, B9, ap8, by have := HCI.out.drop (K := K) (x := -1) S9 (by omega) (.over 0 c0 st); rwa [show ((D + 1 : Nat) : Int) = (D : Int) + 1 by omega]⟩
            case measure => simp [intOf]; omega
        | none =>
          have HBl : Hid (∀ a, L.has a → a < wr.heap.size) := fun a h => B.mm.lt a h
          have HBe : Hid (E < wr.heap.size) := World.block_lt_of_cell? _ _ B.v.c0
          have HBw : Hid (Wb < wr.heap.size) := B.ar.lt
          have HBd : Hid (Db < wr.heap.size) := B.dr.lt
          have HB0 : Hid (w.heap.size ≤ wr.heap.size) := B.b.size
          have HBp : Hid (∀ a b, P a = some b → b < wr.heap.size) := fun a b h => by obtain ⟨cs, u, h1, h2⟩ := B.at_ a b h; exact h1.lt
          by_cases hol0 : 0 ≤ old K
          · clear hrN
            have hn : old K ≥ 0 := by omega
            have hol := (CI.ol K hK).2
            have hpz := B.ar.cell (i := K) hK
            rw [hPK] at hpz
            simp only [ptrOf] at hpz
            have hoz := (B.grown (grow1 _ (.cells #[.int .i64 1, .int .u64 65536, .int .i64 0, .int .i64 0, .int .i64 0] 40))).dr.cell (i := K) hK
            have x0 := At.new wr 40 [.int .i64 1, .int .u64 65536, .int .i64 0, .int .i64 0, .int .i64 0]
            have B := B.grown (grow1 _ (.cells #[.int .i64 1, .int .u64 65536, .int .i64 0, .int .i64 0, .int .i64 0] 40))
            obtain ⟨X, hX⟩ : ∃ X, wr.heap.size = X := ⟨_, rfl⟩
            have lX : Hid (¬ L.has X) := fun h => by have := HBl.out _ h; omega
            have eX : Hid (E ≠ X) := by unfold Hid; have := HBe.out; omega
            have wX : Hid (Wb ≠ X) := by unfold Hid; have := HBw.out; omega
            have dX : Hid (Db ≠ X) := by unfold Hid; have := HBd.out; omega
            have zX : Hid (w.heap.size ≤ X) := by unfold Hid; have := HB0.out; omega
            have pX : Hid (∀ a b, P a = some b → b ≠ X) := fun a b h => by have := HBp.out a b h; omega
            rw [hX] at x0
            go_wp2
            try rw [hX]
            refine wp_over (fun W' => Team w W' L E Wb Db 46 47 3 s' σ q P ps Ws (fun a => Value.int .i64 (old a)) ∧ At W' X 0 40 _ [.int .i64 1, .int .u64 65536, .int .i64 0, .int .i64 0, .int .i64 0]) ⟨B, x0⟩ ?_
            clear B x0 hpz hoz hz hX
            rintro W' ⟨B, x0⟩
            refine wp_region_rely_tail Grown 9 [.val (.int .u64 65536), .val (.int .i64 K), .val (.pointer (some ⟨Db, K, none⟩)), .val (.int .i64 (old K)), .val (.int .i64 K), .val (.pointer (some ⟨Db, K, none⟩)), .val (.int .i64 (old K)), .val (.int .i64 (old K + 1)), .val (.agg #[.int .i64 3, .int .u64 65536, .int .i64 0, .int .i64 (old K + 1), .int .i64 (old K)])] (by kernel_rfl) Grown.refl Grown.trans (by decide) (by kernel_rfl) (by kernel_rfl) (by kernel_rfl) (by kernel_rfl) (by kernel_rfl) (by kernel_rfl) ?_
            simp only [List.take_succ_cons, List.take_zero, relyAll, Act.put, List.setIfInBounds_toArray, List.set_cons_zero, List.set_cons_succ]
            refine ⟨?_, ?_, ?_, ?_, ?_, ?_, ?_, ?_, ?_, ?_⟩
            · intro w' hg _
              refine Or.inl ⟨rfl, ?_⟩
              go_simp
              exact ⟨Grown.refl _, rfl⟩
            · intro w' hg _
              refine Or.inl ⟨rfl, ?_⟩
              go_simp
              exact ⟨Grown.refl _, rfl⟩
            · intro w' hg _
              refine Or.inl ⟨rfl, ?_⟩
              have hb : (0 : Int) ≤ (K : Int) := by omega
              go_simp
              exact ⟨Grown.refl _, rfl⟩
            · intro w' hg _
              refine Or.inl ⟨rfl, ?_⟩
              have z := (B.drew.grown hg).dr.cell (i := K) (by omega)
              go_simp
              exact ⟨Grown.refl _, rfl⟩
            · intro w' hg _
              refine Or.inl ⟨rfl, ?_⟩
              go_simp
              exact ⟨Grown.refl _, rfl⟩
            · intro w' hg _
              refine Or.inl ⟨rfl, ?_⟩
              have hb : (0 : Int) ≤ (K : Int) := by omega
              go_simp
              exact ⟨Grown.refl _, rfl⟩
            · intro w' hg _
              refine Or.inl ⟨rfl, ?_⟩
              have z := (B.drew.grown hg).dr.cell (i := K) (by omega)
              go_simp
              exact ⟨Grown.refl _, rfl⟩
            · intro w' hg _
              refine Or.inl ⟨rfl, ?_⟩
              go_simp
              exact ⟨Grown.refl _, congrArg (Value.int .i64) (by rw [IntKind.wrap_i64]; omega)⟩
            · intro w' hg _
              refine Or.inl ⟨rfl, ?_⟩
              go_simp
              exact ⟨Grown.refl _, rfl⟩
            intro w5 hg _
            have B := B.drew.grown hg
            have x0 := x0.drew.grown hg
            clear hg
            have q0 := x0.at0 0 rfl
            have q1 := x0.at0 1 rfl
            have q2 := x0.at0 2 rfl
            have q3 := x0.at0 3 rfl
            have q4 := x0.at0 4 rfl
            have qf := x0.fz
            have B := (((((B.setX lX.out eX.out wX.out dX.out zX.out pX.out 0 (.int .i64 3)).setX lX.out eX.out wX.out dX.out zX.out pX.out 1 (.int .u64 65536)).setX lX.out eX.out wX.out dX.out zX.out pX.out 2 (.int .i64 0)).setX lX.out eX.out wX.out dX.out zX.out pX.out 3 (.int .i64 (old K + 1))).setX lX.out eX.out wX.out dX.out zX.out pX.out 4 (.int .i64 (old K)))
            have x1 := (((((x0.put0 0 (.int .i64 3)).put0 1 (.int .u64 65536)).put0 2 (.int .i64 0)).put0 3 (.int .i64 (old K + 1))).put0 4 (.int .i64 (old K)))
            have u0 := x1.at0 0 rfl
            have u1 := x1.at0 1 rfl
            have u2 := x1.at0 2 rfl
            have u3 := x1.at0 3 rfl
            have u4 := x1.at0 4 rfl
            go_wp2_with (go_at_call 15; refine (newAcc_any 3 65536 0 (old K + 1) (old K) false _).mono ?_; rintro e w7 ⟨W1, rfl, rfl, g1⟩; have B1 := B.grown g1; have hc := (B1.grown (grow1 _ (acc0 3 65536 0 (old K + 1) (old K) false))).ar.cell (i := K) hK; rw [hPK] at hc; simp only [ptrOf] at hc; have hf := (B1.grown (grow1 _ (acc0 3 65536 0 (old K + 1) (old K) false))).ar.frozen K; obtain ⟨B2, ap2⟩ := B1.more ap K ⟨3, 65536, 0, old K + 1, old K⟩)
            have CI := CI.more (K := K) W1.heap.size
            rw [show wtC (old K) = (⟨3, 65536, 0, old K + 1, old K⟩ : Wt) from if_pos (by omega)] at CI
            obtain ⟨p, hpe⟩ : ∃ p, W1.heap.size = p := ⟨_, rfl⟩
            rw [hpe] at CI B2 ap2 ⊢
            have hPK2 : upd P K (some p) K = some p := upd_same _ _ _
            generalize upd P K (some p) = P at B2 ap2 CI hPK2
            generalize upd ps K Ac.see = ps at B2 CI
            generalize upd Ws K (⟨3, 65536, 0, old K + 1, old K⟩ : Wt) = Ws at B2 CI
            have HPK : Hid (P K = some p) := hPK2
            have B := B2
            have ap := ap2
            clear B2 ap2 hPK2 hpe B1 g1 hc hf hPK x0 x1 q0 q1 q2 q3 q4 qf u0 u1 u2 u3 u4
            refine wp_over (fun W' => Team w W' L E Wb Db 46 47 3 s' σ q P ps Ws (fun a => Value.int .i64 (old a))) B ?_
            clear B
            intro W' B
            have HAP : Hid (TeamApart w L E Wb Db P) := ap
            obtain ⟨q', α', ht⟩ : ∃ q' α', acTurn (Ws K) false 0 1 σ q (ps K) = (q', α') := ⟨_, _, rfl⟩
            have T := CI.th K hK p HPK.out
            obtain ⟨gd, KEY⟩ := CI.step hK HPK.out (by omega) ht
            have ST := fun (w1 : World) (B1 : Team w w1 L E Wb Db 46 47 3 s' σ q P ps Ws (fun a => Value.int .i64 (old a))) (d : Bool) (hd : α'.over? = d) => B1.step HAP.out HPK.out (by omega) CI.s.sc.wd (by rw [T.w]; exact wtC_ok (CI.ol K hK).2) (by rw [T.w]; exact wtC_nu _) gd T.ov ht hd
            have HCI : Hid (CntI vL q (D : Int) old P ps Ws) := CI
            have HKEY : Hid ((α'.over? = false ∧ CntI vL q' (D : Int) old P (upd ps K α') Ws) ∨
                  (∃ E c0 st, α' = .over E c0 st ∧ (0 ≤ c0 ∧ c0 ≤ 10000) ∧ ((old K < 0 ∧ E = 0) ∨ (0 ≤ old K ∧ E = 8)) ∧ Cell1 4 4 2 20 0 1 vL q' (D : Int)) ∨
                  (∃ c0 st, α' = .over 0 c0 st ∧ 0 ≤ old K ∧ Cell1 4 4 2 20 0 1 vL q' ((D : Int) + 1))) := KEY
            clear CI KEY gd T ht ap
            refine wp_region_rely_tail Grown 4 [.val (.int .i64 K), .val (.pointer (some ⟨Wb, K, none⟩)), .val (.pointer (some ⟨p, 0, none⟩)), .val (.agg #[.int .i64 4, .int .i64 4, .int .i64 2, .int .i64 20, .int .i64 100, .int .i64 600, .int .i64 3, .pointer (some ⟨L.p, 0, none⟩), .int .i64 0])] (by kernel_rfl) Grown.refl Grown.trans (by decide) (by kernel_rfl) (by kernel_rfl) (by kernel_rfl) (by kernel_rfl) (by kernel_rfl) (by kernel_rfl) ?_
            simp only [List.take_succ_cons, List.take_zero, relyAll, Act.put, List.setIfInBounds_toArray, List.set_cons_zero, List.set_cons_succ]
            refine ⟨?_, ?_, ?_, ?_, ?_⟩
            · intro w' hg _
              refine Or.inl ⟨rfl, ?_⟩
              go_simp
              exact ⟨Grown.refl _, rfl⟩
            · intro w' hg _
              refine Or.inl ⟨rfl, ?_⟩
              have hb : (0 : Int) ≤ (K : Int) := by omega
              go_simp
              exact ⟨Grown.refl _, rfl⟩
            · intro w' hg _
              refine Or.inl ⟨rfl, ?_⟩
              have z := (B.drew.grown hg).ar.cell (i := K) (by omega)
              rw [HPK.out] at z
              simp only [ptrOf] at z
              go_simp
              exact ⟨Grown.refl _, rfl⟩
            · intro w' hg _
              refine Or.inl ⟨rfl, ?_⟩
              have vv := (B.drew.grown hg).v
              have y0 := vv.c0
              have y1 := vv.c1
              have y2 := vv.c2
              have y3 := vv.c3
              have y4 := vv.c4
              have y5 := vv.c5
              have y6 := vv.c6
              have y7 := vv.c7
              have y8 := vv.c8
              go_simp
              exact ⟨Grown.refl _, rfl⟩
            intro w5 hg _
            have B5 := B.drew.grown hg
            clear B hg
            rcases HKEY.out with ⟨hd, CI⟩ | ⟨E9, c0, st, hα, hc0, hE, S9⟩ | ⟨c0, st, hα, ho, S9⟩
            · clear HKEY
              go_wp2_with (go_at_call 16; refine (ST _ B5 false hd).mono ?_; rintro e w6 ⟨rfl, s6, B6⟩)
              go_roundw
              case rel => exact ⟨r + 1, D, s6, σ + 1, q', P, upd ps K α', Ws, old, rfl, by go_num, by omega, by omega, by omega, B6, HAP.out, CI⟩
              case measure => simp [intOf]; omega
            · subst hα
              have hDb : (0 : Int) ≤ c0 ∧ c0 ≤ 10000 := hc0
              rcases hE with ⟨ho, rfl⟩ | ⟨ho, rfl⟩
              · exfalso; omega
              · have hd : (Ac.over 8 c0 st).over? = true := rfl
                clear HKEY
                go_wp2_with (first
                  | (go_at_call 16; refine (ST _ B5 true hd).mono ?_; rintro e w6 ⟨rfl, s6, B6⟩; have wz := B6.ar.cell (i := K) hK; rw [HPK.out] at wz; simp only [ptrOf] at wz)
                  | (go_at_call 17; refine (B6.done HPK.out (upd_same _ _ _)).mono ?_; rintro e w9 ⟨rfl, b9⟩; have B7 := B6.grown (grow_alloc b9 (.cells #[.int .i64 8, .int .u64 0, .int .i64 c0, .int .i64 st] 37)); have pz := B7.ar.cell (i := K) hK; rw [HPK.out] at pz; simp only [ptrOf] at pz; have pf := B7.ar.frozen K; obtain ⟨B8, ap8⟩ := B7.clear HAP.out K; have oz := B8.dr.cell (i := K) hK; have of := B8.dr.frozen K; have dd := (At.new w9 37 [.int .i64 8, .int .u64 0, .int .i64 c0, .int .i64 st]).other (k := Wb) (by have := B6.ar.lt; have := b9.size; omega) K (.pointer none); have d0 := dd.at0 0 rfl; have d2 := dd.at0 2 rfl))
                go_roundw
                case rel =>
                  have B9 := B8.setD ap8 K (.int .i64 c0)
                  rw [← (show (fun a => Value.int .i64 (upd old K c0 a)) = upd (fun a => Value.int .i64 (old a)) K (Value.int .i64 c0) from by funext j; unfold upd; split <;> rfl)] at B9
                  exact ⟨r + 1, D, s6, σ + 1, q', upd P K none, upd ps K (.over 8 c0 st), Ws, upd old K c0, rfl, by go_num, by omega, by omega, by omega, B9, ap8, HCI.out.drop S9 (by omega) _⟩
                case measure => simp [intOf]; omega
            · subst hα
              have hn' : old K ≥ 0 := ho
              have hd : (Ac.over 0 c0 st).over? = true := rfl
              clear HKEY
              go_wp2_with (first
                | (go_at_call 16; refine (ST _ B5 true hd).mono ?_; rintro e w6 ⟨rfl, s6, B6⟩; have wz := B6.ar.cell (i := K) hK; rw [HPK.out] at wz; simp only [ptrOf] at wz)
                | (go_at_call 17; refine (B6.done HPK.out (upd_same _ _ _)).mono ?_; rintro e w9 ⟨rfl, b9⟩; have B7 := B6.grown (grow_alloc b9 (.cells #[.int .i64 0, .int .u64 0, .int .i64 c0, .int .i64 st] 37)); have pz := B7.ar.cell (i := K) hK; rw [HPK.out] at pz; simp only [ptrOf] at pz; have pf := B7.ar.frozen K; obtain ⟨B8, ap8⟩ := B7.clear HAP.out K; have oz := B8.dr.cell (i := K) hK; have of := B8.dr.frozen K; have dd := (At.new w9 37 [.int .i64 0, .int .u64 0, .int .i64 c0, .int .i64 st]).other (k := Wb) (by have := B6.ar.lt; have := b9.size; omega) K (.pointer none); have d0 := dd.at0 0 rfl; have d2 := dd.at0 2 rfl))
              go_roundw
              case rel =>
                have B9 := B8.setD ap8 K (.int .i64 (-1))
                rw [← (show (fun a => Value.int .i64 (upd old K (-1) a)) = upd (fun a => Value.int .i64 (old a)) K (Value.int .i64 (-1)) from by funext j; unfold upd; split <;> rfl)] at B9
                exact ⟨r + 1, D + 1, s6, σ + 1, q', upd P K none, upd ps K (.over 0 c0 st), Ws, upd old K (-1), by go_num, by go_num, by omega, by omega, by omega, B9, ap8, by have := HCI.out.drop (K := K) (x := -1) S9 (by omega) (.over 0 c0 st); rwa [show ((D + 1 : Nat) : Int) = (D : Int) + 1 by omega]⟩
              case measure => simp [intOf]; omega
          · clear HBl HBe HBw HBd HB0 HBp
            have hn : ¬ old K ≥ 0 := by omega
            have hpz := B.ar.cell (i := K) hK
            rw [hPK] at hpz
            simp only [ptrOf] at hpz
            have hoz := (B.grown (grow1 _ (.cells #[.int .i64 1, .int .u64 65536, .int .i64 0, .int .i64 0, .int .i64 0] 40))).dr.cell (i := K) hK
            have x0 := At.new wr 40 [.int .i64 1, .int .u64 65536, .int .i64 0, .int .i64 0, .int .i64 0]
            have u0 := x0.at0 0 rfl
            have u1 := x0.at0 1 rfl
            have u2 := x0.at0 2 rfl
            have u3 := x0.at0 3 rfl
            have u4 := x0.at0 4 rfl
            have B := B.grown (grow1 _ (.cells #[.int .i64 1, .int .u64 65536, .int .i64 0, .int .i64 0, .int .i64 0] 40))
            go_wp2_with (go_at_call 15; refine (newAcc_any 1 65536 0 0 0 false _).mono ?_; rintro e w7 ⟨W1, rfl, rfl, g1⟩; have B1 := B.grown g1; have hc := (B1.grown (grow1 _ (acc0 1 65536 0 0 0 false))).ar.cell (i := K) hK; rw [hPK] at hc; simp only [ptrOf] at hc; have hf := (B1.grown (grow1 _ (acc0 1 65536 0 0 0 false))).ar.frozen K; obtain ⟨B2, ap2⟩ := B1.more ap K ⟨1, 65536, 0, 0, 0⟩)
            have CI := CI.more (K := K) W1.heap.size
            rw [show wtC (old K) = (⟨1, 65536, 0, 0, 0⟩ : Wt) from if_neg (by omega)] at CI
            obtain ⟨p, hpe⟩ : ∃ p, W1.heap.size = p := ⟨_, rfl⟩
            rw [hpe] at CI B2 ap2 ⊢
            have hPK2 : upd P K (some p) K = some p := upd_same _ _ _
            generalize upd P K (some p) = P at B2 ap2 CI hPK2
            generalize upd ps K Ac.see = ps at B2 CI
            generalize upd Ws K (⟨1, 65536, 0, 0, 0⟩ : Wt) = Ws at B2 CI
            have HPK : Hid (P K = some p) := hPK2
            have B := B2
            have ap := ap2
            clear B2 ap2 hPK2 hpe B1 g1 hc hf hPK hpz hoz x0 u0 u1 u2 u3 u4
            refine wp_over (fun W' => Team w W' L E Wb Db 46 47 3 s' σ q P ps Ws (fun a => Value.int .i64 (old a))) B ?_
            clear B hz
            intro W' B
            have HAP : Hid (TeamApart w L E Wb Db P) := ap
            obtain ⟨q', α', ht⟩ : ∃ q' α', acTurn (Ws K) false 0 1 σ q (ps K) = (q', α') := ⟨_, _, rfl⟩
            have T := CI.th K hK p HPK.out
            obtain ⟨gd, KEY⟩ := CI.step hK HPK.out (by omega) ht
            have ST := fun (w1 : World) (B1 : Team w w1 L E Wb Db 46 47 3 s' σ q P ps Ws (fun a => Value.int .i64 (old a))) (d : Bool) (hd : α'.over? = d) => B1.step HAP.out HPK.out (by omega) CI.s.sc.wd (by rw [T.w]; exact wtC_ok (CI.ol K hK).2) (by rw [T.w]; exact wtC_nu _) gd T.ov ht hd
            have HCI : Hid (CntI vL q (D : Int) old P ps Ws) := CI
            have HKEY : Hid ((α'.over? = false ∧ CntI vL q' (D : Int) old P (upd ps K α') Ws) ∨
                  (∃ E c0 st, α' = .over E c0 st ∧ (0 ≤ c0 ∧ c0 ≤ 10000) ∧ ((old K < 0 ∧ E = 0) ∨ (0 ≤ old K ∧ E = 8)) ∧ Cell1 4 4 2 20 0 1 vL q' (D : Int)) ∨
                  (∃ c0 st, α' = .over 0 c0 st ∧ 0 ≤ old K ∧ Cell1 4 4 2 20 0 1 vL q' ((D : Int) + 1))) := KEY
            clear CI KEY gd T ht ap
            refine wp_region_rely_tail Grown 4 [.val (.int .i64 K), .val (.pointer (some ⟨Wb, K, none⟩)), .val (.pointer (some ⟨p, 0, none⟩)), .val (.agg #[.int .i64 4, .int .i64 4, .int .i64 2, .int .i64 20, .int .i64 100, .int .i64 600, .int .i64 3, .pointer (some ⟨L.p, 0, none⟩), .int .i64 0])] (by kernel_rfl) Grown.refl Grown.trans (by decide) (by kernel_rfl) (by kernel_rfl) (by kernel_rfl) (by kernel_rfl) (by kernel_rfl) (by kernel_rfl) ?_
            simp only [List.take_succ_cons, List.take_zero, relyAll, Act.put, List.setIfInBounds_toArray, List.set_cons_zero, List.set_cons_succ]
            refine ⟨?_, ?_, ?_, ?_, ?_⟩
            · intro w' hg _
              refine Or.inl ⟨rfl, ?_⟩
              go_simp
              exact ⟨Grown.refl _, rfl⟩
            · intro w' hg _
              refine Or.inl ⟨rfl, ?_⟩
              have hb : (0 : Int) ≤ (K : Int) := by omega
              go_simp
              exact ⟨Grown.refl _, rfl⟩
            · intro w' hg _
              refine Or.inl ⟨rfl, ?_⟩
              have z := (B.drew.grown hg).ar.cell (i := K) (by omega)
              rw [HPK.out] at z
              simp only [ptrOf] at z
              go_simp
              exact ⟨Grown.refl _, rfl⟩
            · intro w' hg _
              refine Or.inl ⟨rfl, ?_⟩
              have vv := (B.drew.grown hg).v
              have y0 := vv.c0
              have y1 := vv.c1
              have y2 := vv.c2
              have y3 := vv.c3
              have y4 := vv.c4
              have y5 := vv.c5
              have y6 := vv.c6
              have y7 := vv.c7
              have y8 := vv.c8
              go_simp
              exact ⟨Grown.refl _, rfl⟩
            intro w5 hg _
            have B5 := B.drew.grown hg
            clear B hg
            rcases HKEY.out with ⟨hd, CI⟩ | ⟨E9, c0, st, hα, hc0, hE, S9⟩ | ⟨c0, st, hα, ho, S9⟩
            · clear HKEY
              go_wp2_with (go_at_call 16; refine (ST _ B5 false hd).mono ?_; rintro e w6 ⟨rfl, s6, B6⟩)
              go_roundw
              case rel => exact ⟨r + 1, D, s6, σ + 1, q', P, upd ps K α', Ws, old, rfl, by go_num, by omega, by omega, by omega, B6, HAP.out, CI⟩
              case measure => simp [intOf]; omega
            · subst hα
              have hDb : (0 : Int) ≤ c0 ∧ c0 ≤ 10000 := hc0
              rcases hE with ⟨ho, rfl⟩ | ⟨ho, rfl⟩
              · have hd : (Ac.over 0 c0 st).over? = true := rfl
                clear HKEY
                have hn : ¬ (0 : Int) ≤ old K := by omega
                have hn' : ¬ old K ≥ 0 := by omega
                go_wp2_with (first
                  | (go_at_call 16; refine (ST _ B5 true hd).mono ?_; rintro e w6 ⟨rfl, s6, B6⟩; have wz := B6.ar.cell (i := K) hK; rw [HPK.out] at wz; simp only [ptrOf] at wz)
                  | (go_at_call 17; refine (B6.done HPK.out (upd_same _ _ _)).mono ?_; rintro e w9 ⟨rfl, b9⟩; have B7 := B6.grown (grow_alloc b9 (.cells #[.int .i64 0, .int .u64 0, .int .i64 c0, .int .i64 st] 37)); have pz := B7.ar.cell (i := K) hK; rw [HPK.out] at pz; simp only [ptrOf] at pz; have pf := B7.ar.frozen K; obtain ⟨B8, ap8⟩ := B7.clear HAP.out K; have oz := B8.dr.cell (i := K) hK; have of := B8.dr.frozen K; have dd := (At.new w9 37 [.int .i64 0, .int .u64 0, .int .i64 c0, .int .i64 st]).other (k := Wb) (by have := B6.ar.lt; have := b9.size; omega) K (.pointer none); have d0 := dd.at0 0 rfl; have d2 := dd.at0 2 rfl))
                go_roundw
                case rel =>
                  have B9 := B8.setD ap8 K (.int .i64 c0)
                  rw [← (show (fun a => Value.int .i64 (upd old K c0 a)) = upd (fun a => Value.int .i64 (old a)) K (Value.int .i64 c0) from by funext j; unfold upd; split <;> rfl)] at B9
                  exact ⟨r + 1, D, s6, σ + 1, q', upd P K none, upd ps K (.over 0 c0 st), Ws, upd old K c0, rfl, by go_num, by omega, by omega, by omega, B9, ap8, HCI.out.drop S9 (by omega) _⟩
                case measure => simp [intOf]; omega
              · exfalso; omega
            · exfalso; omega
      · have hr' : ¬ (r : Int) < 500 := by omega
        have HB1 : Hid (Team w wr L E Wb Db 46 47 3 s' σ q P ps Ws (fun a => Value.int .i64 (old a)) ∧ TeamApart w L E Wb Db P ∧ CntI vL q (D : Int) old P ps Ws) := ⟨B, ap, CI⟩
        clear B ap CI
        go_wp2
        go_loopw [10, 15] (fun dv kv wr => ∃ (K D : Nat) (s' : Mm) (σ : Nat) (q : Q) (P : Nat → Option Nat) (ps : Nat → Ac) (Ws : Nat → Wt) (old : Nat → Int), dv = .int .i64 D ∧ kv = .int .i64 K ∧ K ≤ 3 ∧ D ≤ σ ∧ σ ≤ 700 + 60 * K ∧ Team w wr L E Wb Db 46 47 3 s' σ q P ps Ws (fun a => Value.int .i64 (old a)) ∧ TeamApart w L E Wb Db P ∧ CntI vL q (D : Int) old P ps Ws) (fun _ kv _ => 3 - (intOf kv).toNat)
        case atStart => exact ⟨0, D, s', σ, q, P, ps, Ws, old, rfl, rfl, by omega, by omega, by omega, HB1.out⟩
        case round =>
          clear HB1 hr5 hDσ hσ hr hr' hrN hrN'
          obtain ⟨K, D, s', σ, q, P, ps, Ws, old, rfl, rfl, hK3, hDσ, hσ, B, ap, CI⟩ := hrel
          by_cases hK : K < 3
          · have hK3' : (K : Int) < 3 := by omega
            have hK3n : (K : Int) < ((3 : Nat) : Int) := by omega
            have hK0 : (0 : Int) ≤ (K : Int) := by omega
            have HB1 : Hid (Team w wr L E Wb Db 46 47 3 s' σ q P ps Ws (fun a => Value.int .i64 (old a)) ∧ TeamApart w L E Wb Db P ∧ CntI vL q (D : Int) old P ps Ws) := ⟨B, ap, CI⟩
            clear B ap CI
            go_wp2
            go_loopw [10, 16] (fun dv iv wr => ∃ (i D : Nat) (s' : Mm) (σ : Nat) (q : Q) (P : Nat → Option Nat) (ps : Nat → Ac) (Ws : Nat → Wt) (old : Nat → Int), dv = .int .i64 D ∧ iv = .int .i64 i ∧ i ≤ 60 ∧ D ≤ σ ∧ σ ≤ 700 + 60 * K + i ∧ Team w wr L E Wb Db 46 47 3 s' σ q P ps Ws (fun a => Value.int .i64 (old a)) ∧ TeamApart w L E Wb Db P ∧ CntI vL q (D : Int) old P ps Ws) (fun _ iv _ => 60 - (intOf iv).toNat)
            case atStart => exact ⟨0, D, s', σ, q, P, ps, Ws, old, rfl, rfl, by omega, by omega, by omega, HB1.out⟩
            case round =>
              clear HB1 hDσ hσ
              obtain ⟨i, D, s', σ, q, P, ps, Ws, old, rfl, rfl, hi, hDσ, hσ, B, ap, CI⟩ := hrel
              by_cases hi6 : i < 60
              · have hi6' : (i : Int) < 60 := by omega
                cases hPK : P K with
                | none =>
                  have hpz := B.ar.cell (i := K) hK
                  rw [hPK] at hpz
                  simp only [ptrOf] at hpz
                  go_wp2
                  go_roundw
                  case rel => exact ⟨K + 1, D, s', σ, q, P, ps, Ws, old, rfl, by go_num, by omega, by omega, by omega, B, ap, CI⟩
                  case measure => simp [intOf]; omega
                | some p =>
                  have HPK : Hid (P K = some p) := hPK
                  have hpz := B.ar.cell (i := K) hK
                  rw [hPK] at hpz
                  simp only [ptrOf] at hpz
                  clear hPK
                  go_wp2
                  refine wp_over (fun W' => Team w W' L E Wb Db 46 47 3 s' σ q P ps Ws (fun a => Value.int .i64 (old a))) B ?_
                  clear B hpz
                  intro W' B
                  have HAP : Hid (TeamApart w L E Wb Db P) := ap
                  obtain ⟨q', α', ht⟩ : ∃ q' α', acTurn (Ws K) false 0 1 σ q (ps K) = (q', α') := ⟨_, _, rfl⟩
                  have T := CI.th K hK p HPK.out
                  obtain ⟨gd, KEY⟩ := CI.step hK HPK.out (by omega) ht
                  have ST := fun (w1 : World) (B1 : Team w w1 L E Wb Db 46 47 3 s' σ q P ps Ws (fun a => Value.int .i64 (old a))) (d : Bool) (hd : α'.over? = d) => B1.step HAP.out HPK.out (by omega) CI.s.sc.wd (by rw [T.w]; exact wtC_ok (CI.ol K hK).2) (by rw [T.w]; exact wtC_nu _) gd T.ov ht hd
                  have HCI : Hid (CntI vL q (D : Int) old P ps Ws) := CI
                  have HKEY : Hid ((α'.over? = false ∧ CntI vL q' (D : Int) old P (upd ps K α') Ws) ∨
                        (∃ E c0 st, α' = .over E c0 st ∧ (0 ≤ c0 ∧ c0 ≤ 10000) ∧ ((old K < 0 ∧ E = 0) ∨ (0 ≤ old K ∧ E = 8)) ∧ Cell1 4 4 2 20 0 1 vL q' (D : Int)) ∨
                        (∃ c0 st, α' = .over 0 c0 st ∧ 0 ≤ old K ∧ Cell1 4 4 2 20 0 1 vL q' ((D : Int) + 1))) := KEY
                  clear CI KEY gd T ht ap
                  refine wp_region_rely_tail Grown 4 [.val (.int .i64 K), .val (.pointer (some ⟨Wb, K, none⟩)), .val (.pointer (some ⟨p, 0, none⟩)), .val (.agg #[.int .i64 4, .int .i64 4, .int .i64 2, .int .i64 20, .int .i64 100, .int .i64 600, .int .i64 3, .pointer (some ⟨L.p, 0, none⟩), .int .i64 0])] (by kernel_rfl) Grown.refl Grown.trans (by decide) (by kernel_rfl) (by kernel_rfl) (by kernel_rfl) (by kernel_rfl) (by kernel_rfl) (by kernel_rfl) ?_
                  simp only [List.take_succ_cons, List.take_zero, relyAll, Act.put, List.setIfInBounds_toArray, List.set_cons_zero, List.set_cons_succ]
                  refine ⟨?_, ?_, ?_, ?_, ?_⟩
                  · intro w' hg _
                    refine Or.inl ⟨rfl, ?_⟩
                    go_simp
                    exact ⟨Grown.refl _, rfl⟩
                  · intro w' hg _
                    refine Or.inl ⟨rfl, ?_⟩
                    have hb : (0 : Int) ≤ (K : Int) := by omega
                    go_simp
                    exact ⟨Grown.refl _, rfl⟩
                  · intro w' hg _
                    refine Or.inl ⟨rfl, ?_⟩
                    have z := (B.drew.grown hg).ar.cell (i := K) (by omega)
                    rw [HPK.out] at z
                    simp only [ptrOf] at z
                    go_simp
                    exact ⟨Grown.refl _, rfl⟩
                  · intro w' hg _
                    refine Or.inl ⟨rfl, ?_⟩
                    have vv := (B.drew.grown hg).v
                    have y0 := vv.c0
                    have y1 := vv.c1
                    have y2 := vv.c2
                    have y3 := vv.c3
                    have y4 := vv.c4
                    have y5 := vv.c5
                    have y6 := vv.c6
                    have y7 := vv.c7
                    have y8 := vv.c8
                    go_simp
                    exact ⟨Grown.refl _, rfl⟩
                  intro w5 hg _
                  have B5 := B.drew.grown hg
                  clear B hg
                  rcases HKEY.out with ⟨hd, CI⟩ | ⟨E9, c0, st, hα, hc0, hE, S9⟩ | ⟨c0, st, hα, ho, S9⟩
                  · clear HKEY
                    go_wp2_with (go_at_call 16; refine (ST _ B5 false hd).mono ?_; rintro e w6 ⟨rfl, s6, B6⟩)
                    go_roundw
                    case rel => exact ⟨i + 1, D, s6, σ + 1, q', P, upd ps K α', Ws, old, rfl, by go_num, by omega, by omega, by omega, B6, HAP.out, CI⟩
                    case measure => simp [intOf]; omega
                  · subst hα
                    rcases hE with ⟨ho, rfl⟩ | ⟨ho, rfl⟩
                    · have hn' : ¬ old K ≥ 0 := by omega
                      have hd : (Ac.over 0 c0 st).over? = true := rfl
                      clear HKEY
                      go_wp2_with (first
                        | (go_at_call 16; refine (ST _ B5 true hd).mono ?_; rintro e w6 ⟨rfl, s6, B6⟩; have wz := B6.ar.cell (i := K) hK; rw [HPK.out] at wz; simp only [ptrOf] at wz)
                        | (go_at_call 17; refine (B6.done HPK.out (upd_same _ _ _)).mono ?_; rintro e w9 ⟨rfl, b9⟩; have B7 := B6.grown b9; have pz := B7.ar.cell (i := K) hK; rw [HPK.out] at pz; simp only [ptrOf] at pz; have pf := B7.ar.frozen K; obtain ⟨B8, ap8⟩ := B7.clear HAP.out K; have oz := B7.dr.cell (i := K) hK))
                      go_roundw
                      case rel =>
                        exact ⟨i + 1, D, s6, σ + 1, q', upd P K none, upd ps K (.over 0 c0 st), Ws, old, rfl, by go_num, by omega, by omega, by omega, B8, ap8, HCI.out.drop' S9 _⟩
                      case measure => simp [intOf]; omega
                    · have hd : (Ac.over 8 c0 st).over? = true := rfl
                      clear HKEY
                      go_wp2_with (first
                        | (go_at_call 16; refine (ST _ B5 true hd).mono ?_; rintro e w6 ⟨rfl, s6, B6⟩; have wz := B6.ar.cell (i := K) hK; rw [HPK.out] at wz; simp only [ptrOf] at wz)
                        | (go_at_call 17; refine (B6.done HPK.out (upd_same _ _ _)).mono ?_; rintro e w9 ⟨rfl, b9⟩; have B7 := B6.grown b9; have pz := B7.ar.cell (i := K) hK; rw [HPK.out] at pz; simp only [ptrOf] at pz; have pf := B7.ar.frozen K; obtain ⟨B8, ap8⟩ := B7.clear HAP.out K; have oz := B7.dr.cell (i := K) hK))
                      go_roundw
                      case rel =>
                        exact ⟨i + 1, D, s6, σ + 1, q', upd P K none, upd ps K (.over 8 c0 st), Ws, old, rfl, by go_num, by omega, by omega, by omega, B8, ap8, HCI.out.drop' S9 _⟩
                      case measure => simp [intOf]; omega
                  · subst hα
                    have hn' : old K ≥ 0 := ho
                    have hd : (Ac.over 0 c0 st).over? = true := rfl
                    clear HKEY
                    go_wp2_with (first
                      | (go_at_call 16; refine (ST _ B5 true hd).mono ?_; rintro e w6 ⟨rfl, s6, B6⟩; have wz := B6.ar.cell (i := K) hK; rw [HPK.out] at wz; simp only [ptrOf] at wz)
                      | (go_at_call 17; refine (B6.done HPK.out (upd_same _ _ _)).mono ?_; rintro e w9 ⟨rfl, b9⟩; have B7 := B6.grown b9; have pz := B7.ar.cell (i := K) hK; rw [HPK.out] at pz; simp only [ptrOf] at pz; have pf := B7.ar.frozen K; obtain ⟨B8, ap8⟩ := B7.clear HAP.out K; have oz := B7.dr.cell (i := K) hK))
                    go_roundw
                    case rel =>
                      exact ⟨i + 1, D + 1, s6, σ + 1, q', upd P K none, upd ps K (.over 0 c0 st), Ws, old, by go_num, by go_num, by omega, by omega, by omega, B8, ap8, by have := HCI.out.drop' (K := K) S9 (.over 0 c0 st); rwa [show ((D + 1 : Nat) : Int) = (D : Int) + 1 by omega]⟩
                    case measure => simp [intOf]; omega
              · have hi6' : ¬ (i : Int) < 60 := by omega
                go_wp2
                go_roundw
                case rel => exact ⟨K + 1, D, s', σ, q, P, ps, Ws, old, rfl, by go_num, by omega, by omega, by omega, B, ap, CI⟩
                case measure => simp [intOf]; omega
          · have hK3' : ¬ (K : Int) < 3 := by omega
            have SP : Spt w wr L E 4 4 2 20 s' σ q := ⟨B.mm, B.tw, B.v, B.b⟩
            have RD := SP.do (W := ⟨1, 65536, 0, 0, 0⟩) (own := false) PA.out CI.s.sc.wd handA (by decide) ⟨Or.inl rfl, ⟨by decide, by decide⟩⟩ (by omega) (by decide) (CI.s.read rfl rfl)
            have z0 := B.v.c0
            have z1 := B.v.c1
            have z2 := B.v.c2
            have z3 := B.v.c3
            have z4 := B.v.c4
            have z5 := B.v.c5
            have z6 := B.v.c6
            have z7 := B.v.c7
            have z8 := B.v.c8
            clear B SP ap CI
            go_wp2_with (go_at_call 13; refine RD.mono ?_; rintro e w5 ⟨rfl, s5, p5, o5, -⟩)
            go_ret
            exact ⟨rfl, p5.b⟩
    · have hrN' : ¬ (r : Int) < (M : Int) := by omega
      have HB1 : Hid (Team w wr L E Wb Db 46 47 3 s' σ q P ps Ws (fun a => Value.int .i64 (old a)) ∧ TeamApart w L E Wb Db P ∧ CntI vL q (D : Int) old P ps Ws) := ⟨B, ap, CI⟩
      clear B ap CI
      go_wp2
      go_loopw [10, 15] (fun dv kv wr => ∃ (K D : Nat) (s' : Mm) (σ : Nat) (q : Q) (P : Nat → Option Nat) (ps : Nat → Ac) (Ws : Nat → Wt) (old : Nat → Int), dv = .int .i64 D ∧ kv = .int .i64 K ∧ K ≤ 3 ∧ D ≤ σ ∧ σ ≤ 700 + 60 * K ∧ Team w wr L E Wb Db 46 47 3 s' σ q P ps Ws (fun a => Value.int .i64 (old a)) ∧ TeamApart w L E Wb Db P ∧ CntI vL q (D : Int) old P ps Ws) (fun _ kv _ => 3 - (intOf kv).toNat)
      case atStart => exact ⟨0, D, s', σ, q, P, ps, Ws, old, rfl, rfl, by omega, by omega, by omega, HB1.out⟩
      case round =>
        clear HB1 hr5 hDσ hσ hrN hrN'
        obtain ⟨K, D, s', σ, q, P, ps, Ws, old, rfl, rfl, hK3, hDσ, hσ, B, ap, CI⟩ := hrel
        by_cases hK : K < 3
        · have hK3' : (K : Int) < 3 := by omega
          have hK3n : (K : Int) < ((3 : Nat) : Int) := by omega
          have hK0 : (0 : Int) ≤ (K : Int) := by omega
          have HB1 : Hid (Team w wr L E Wb Db 46 47 3 s' σ q P ps Ws (fun a => Value.int .i64 (old a)) ∧ TeamApart w L E Wb Db P ∧ CntI vL q (D : Int) old P ps Ws) := ⟨B, ap, CI⟩
          clear B ap CI
          go_wp2
          go_loopw [10, 16] (fun dv iv wr => ∃ (i D : Nat) (s' : Mm) (σ : Nat) (q : Q) (P : Nat → Option Nat) (ps : Nat → Ac) (Ws : Nat → Wt) (old : Nat → Int), dv = .int .i64 D ∧ iv = .int .i64 i ∧ i ≤ 60 ∧ D ≤ σ ∧ σ ≤ 700 + 60 * K + i ∧ Team w wr L E Wb Db 46 47 3 s' σ q P ps Ws (fun a => Value.int .i64 (old a)) ∧ TeamApart w L E Wb Db P ∧ CntI vL q (D : Int) old P ps Ws) (fun _ iv _ => 60 - (intOf iv).toNat)
          case atStart => exact ⟨0, D, s', σ, q, P, ps, Ws, old, rfl, rfl, by omega, by omega, by omega, HB1.out⟩
          case round =>
            clear HB1 hDσ hσ
            obtain ⟨i, D, s', σ, q, P, ps, Ws, old, rfl, rfl, hi, hDσ, hσ, B, ap, CI⟩ := hrel
            by_cases hi6 : i < 60
            · have hi6' : (i : Int) < 60 := by omega
              cases hPK : P K with
              | none =>
                have hpz := B.ar.cell (i := K) hK
                rw [hPK] at hpz
                simp only [ptrOf] at hpz
                go_wp2
                go_roundw
                case rel => exact ⟨K + 1, D, s', σ, q, P, ps, Ws, old, rfl, by go_num, by omega, by omega, by omega, B, ap, CI⟩
                case measure => simp [intOf]; omega
              | some p =>
                have HPK : Hid (P K = some p) := hPK
                have hpz := B.ar.cell (i := K) hK
                rw [hPK] at hpz
                simp only [ptrOf] at hpz
                clear hPK
                go_wp2
                refine wp_over (fun W' => Team w W' L E Wb Db 46 47 3 s' σ q P ps Ws (fun a => Value.int .i64 (old a))) B ?_
                clear B hpz
                intro W' B
                have HAP : Hid (TeamApart w L E Wb Db P) := ap
                obtain ⟨q', α', ht⟩ : ∃ q' α', acTurn (Ws K) false 0 1 σ q (ps K) = (q', α') := ⟨_, _, rfl⟩
                have T := CI.th K hK p HPK.out
                obtain ⟨gd, KEY⟩ := CI.step hK HPK.out (by omega) ht
                have ST := fun (w1 : World) (B1 : Team w w1 L E Wb Db 46 47 3 s' σ q P ps Ws (fun a => Value.int .i64 (old a))) (d : Bool) (hd : α'.over? = d) => B1.step HAP.out HPK.out (by omega) CI.s.sc.wd (by rw [T.w]; exact wtC_ok (CI.ol K hK).2) (by rw [T.w]; exact wtC_nu _) gd T.ov ht hd
                have HCI : Hid (CntI vL q (D : Int) old P ps Ws) := CI
                have HKEY : Hid ((α'.over? = false ∧ CntI vL q' (D : Int) old P (upd ps K α') Ws) ∨
                      (∃ E c0 st, α' = .over E c0 st ∧ (0 ≤ c0 ∧ c0 ≤ 10000) ∧ ((old K < 0 ∧ E = 0) ∨ (0 ≤ old K ∧ E = 8)) ∧ Cell1 4 4 2 20 0 1 vL q' (D : Int)) ∨
                      (∃ c0 st, α' = .over 0 c0 st ∧ 0 ≤ old K ∧ Cell1 4 4 2 20 0 1 vL q' ((D : Int) + 1))) := KEY
                clear CI KEY gd T ht ap
                refine wp_region_rely_tail Grown 4 [.val (.int .i64 K), .val (.pointer (some ⟨Wb, K, none⟩)), .val (.pointer (some ⟨p, 0, none⟩)), .val (.agg #[.int .i64 4, .int .i64 4, .int .i64 2, .int .i64 20, .int .i64 100, .int .i64 600, .int .i64 3, .pointer (some ⟨L.p, 0, none⟩), .int .i64 0])] (by kernel_rfl) Grown.refl Grown.trans (by decide) (by kernel_rfl) (by kernel_rfl) (by kernel_rfl) (by kernel_rfl) (by kernel_rfl) (by kernel_rfl) ?_
                simp only [List.take_succ_cons, List.take_zero, relyAll, Act.put, List.setIfInBounds_toArray, List.set_cons_zero, List.set_cons_succ]
                refine ⟨?_, ?_, ?_, ?_, ?_⟩
                · intro w' hg _
                  refine Or.inl ⟨rfl, ?_⟩
                  go_simp
                  exact ⟨Grown.refl _, rfl⟩
                · intro w' hg _
                  refine Or.inl ⟨rfl, ?_⟩
                  have hb : (0 : Int) ≤ (K : Int) := by omega
                  go_simp
                  exact ⟨Grown.refl _, rfl⟩
                · intro w' hg _
                  refine Or.inl ⟨rfl, ?_⟩
                  have z := (B.drew.grown hg).ar.cell (i := K) (by omega)
                  rw [HPK.out] at z
                  simp only [ptrOf] at z
                  go_simp
                  exact ⟨Grown.refl _, rfl⟩
                · intro w' hg _
                  refine Or.inl ⟨rfl, ?_⟩
                  have vv := (B.drew.grown hg).v
                  have y0 := vv.c0
                  have y1 := vv.c1
                  have y2 := vv.c2
                  have y3 := vv.c3
                  have y4 := vv.c4
                  have y5 := vv.c5
                  have y6 := vv.c6
                  have y7 := vv.c7
                  have y8 := vv.c8
                  go_simp
                  exact ⟨Grown.refl _, rfl⟩
                intro w5 hg _
                have B5 := B.drew.grown hg
                clear B hg
                rcases HKEY.out with ⟨hd, CI⟩ | ⟨E9, c0, st, hα, hc0, hE, S9⟩ | ⟨c0, st, hα, ho, S9⟩
                · clear HKEY
                  go_wp2_with (go_at_call 16; refine (ST _ B5 false hd).mono ?_; rintro e w6 ⟨rfl, s6, B6⟩)
                  go_roundw
                  case rel => exact ⟨i + 1, D, s6, σ + 1, q', P, upd ps K α', Ws, old, rfl, by go_num, by omega, by omega, by omega, B6, HAP.out, CI⟩
                  case measure => simp [intOf]; omega
                · subst hα
                  rcases hE with ⟨ho, rfl⟩ | ⟨ho, rfl⟩
                  · have hn' : ¬ old K ≥ 0 := by omega
                    have hd : (Ac.over 0 c0 st).over? = true := rfl
                    clear HKEY
                    go_wp2_with (first
                      | (go_at_call 16; refine (ST _ B5 true hd).mono ?_; rintro e w6 ⟨rfl, s6, B6⟩; have wz := B6.ar.cell (i := K) hK; rw [HPK.out] at wz; simp only [ptrOf] at wz)
                      | (go_at_call 17; refine (B6.done HPK.out (upd_same _ _ _)).mono ?_; rintro e w9 ⟨rfl, b9⟩; have B7 := B6.grown b9; have pz := B7.ar.cell (i := K) hK; rw [HPK.out] at pz; simp only [ptrOf] at pz; have pf := B7.ar.frozen K; obtain ⟨B8, ap8⟩ := B7.clear HAP.out K; have oz := B7.dr.cell (i := K) hK))
                    go_roundw
                    case rel =>
                      exact ⟨i + 1, D, s6, σ + 1, q', upd P K none, upd ps K (.over 0 c0 st), Ws, old, rfl, by go_num, by omega, by omega, by omega, B8, ap8, HCI.out.drop' S9 _⟩
                    case measure => simp [intOf]; omega
                  · have hd : (Ac.over 8 c0 st).over? = true := rfl
                    clear HKEY
                    go_wp2_with (first
                      | (go_at_call 16; refine (ST _ B5 true hd).mono ?_; rintro e w6 ⟨rfl, s6, B6⟩; have wz := B6.ar.cell (i := K) hK; rw [HPK.out] at wz; simp only [ptrOf] at wz)
                      | (go_at_call 17; refine (B6.done HPK.out (upd_same _ _ _)).mono ?_; rintro e w9 ⟨rfl, b9⟩; have B7 := B6.grown b9; have pz := B7.ar.cell (i := K) hK; rw [HPK.out] at pz; simp only [ptrOf] at pz; have pf := B7.ar.frozen K; obtain ⟨B8, ap8⟩ := B7.clear HAP.out K; have oz := B7.dr.cell (i := K) hK))
                    go_roundw
                    case rel =>
                      exact ⟨i + 1, D, s6, σ + 1, q', upd P K none, upd ps K (.over 8 c0 st), Ws, old, rfl, by go_num, by omega, by omega, by omega, B8, ap8, HCI.out.drop' S9 _⟩
                    case measure => simp [intOf]; omega
                · subst hα
                  have hn' : old K ≥ 0 := ho
                  have hd : (Ac.over 0 c0 st).over? = true := rfl
                  clear HKEY
                  go_wp2_with (first
                    | (go_at_call 16; refine (ST _ B5 true hd).mono ?_; rintro e w6 ⟨rfl, s6, B6⟩; have wz := B6.ar.cell (i := K) hK; rw [HPK.out] at wz; simp only [ptrOf] at wz)
                    | (go_at_call 17; refine (B6.done HPK.out (upd_same _ _ _)).mono ?_; rintro e w9 ⟨rfl, b9⟩; have B7 := B6.grown b9; have pz := B7.ar.cell (i := K) hK; rw [HPK.out] at pz; simp only [ptrOf] at pz; have pf := B7.ar.frozen K; obtain ⟨B8, ap8⟩ := B7.clear HAP.out K; have oz := B7.dr.cell (i := K) hK))
                  go_roundw
                  case rel =>
                    exact ⟨i + 1, D + 1, s6, σ + 1, q', upd P K none, upd ps K (.over 0 c0 st), Ws, old, by go_num, by go_num, by omega, by omega, by omega, B8, ap8, by have := HCI.out.drop' (K := K) S9 (.over 0 c0 st); rwa [show ((D + 1 : Nat) : Int) = (D : Int) + 1 by omega]⟩
                  case measure => simp [intOf]; omega
            · have hi6' : ¬ (i : Int) < 60 := by omega
              go_wp2
              go_roundw
              case rel => exact ⟨K + 1, D, s', σ, q, P, ps, Ws, old, rfl, by go_num, by omega, by omega, by omega, B, ap, CI⟩
              case measure => simp [intOf]; omega
        · have hK3' : ¬ (K : Int) < 3 := by omega
          have SP : Spt w wr L E 4 4 2 20 s' σ q := ⟨B.mm, B.tw, B.v, B.b⟩
          have RD := SP.do (W := ⟨1, 65536, 0, 0, 0⟩) (own := false) PA.out CI.s.sc.wd handA (by decide) ⟨Or.inl rfl, ⟨by decide, by decide⟩⟩ (by omega) (by decide) (CI.s.read rfl rfl)
          have z0 := B.v.c0
          have z1 := B.v.c1
          have z2 := B.v.c2
          have z3 := B.v.c3
          have z4 := B.v.c4
          have z5 := B.v.c5
          have z6 := B.v.c6
          have z7 := B.v.c7
          have z8 := B.v.c8
          clear B SP ap CI
          go_wp2_with (go_at_call 13; refine RD.mono ?_; rintro e w5 ⟨rfl, s5, p5, o5, -⟩)
          go_ret
          exact ⟨rfl, p5.b⟩
end Go.Proofs.YtcdmokbamakomaaGreat
