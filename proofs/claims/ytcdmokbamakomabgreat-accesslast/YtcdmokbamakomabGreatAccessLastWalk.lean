/- AccessLast answers true for all numbers and all picks, and leaves what was in memory. -/
import Derived.Test.YtcdmokbamakomabGreatAccRace
import Derived.Test.YtcdmokbamakomabGreatArgs
namespace Go.Proofs.YtcdmokbamakomabGreat
open Go.RowKit

set_option maxRecDepth 20000 in
set_option maxHeartbeats 4000000 in
theorem accessLast_any (many : Int) (ao : Option Addr) (M cap : Nat) (z : Nat → Int) (w : World) (hr : IntsAt .i64 w ao M z) :
    Calls Tryz.prog 5 #[.int .i64 many, .slice ao M cap] w fun e w' => e = .returned (.bool true) ∧ Below w.heap.size w w' := by
  have HR : Hid (IntsAt .i64 w ao M z) := hr
  clear hr
  obtain ⟨N, hN, h1, hN4⟩ := lowAt many 3 2 1 (by decide) (by decide)
  have hN' : (1 : Int) + bits .and .i64 many 3 = (N : Int) := hN
  have h4 : N ≤ 4 := by have : ((N : Nat) : Int) ≤ ((1 : Nat) : Int) + 3 := hN4; omega
  clear hN hN4
  have AR := fun w => arena08 goodA (by omega) w
  have f1 : ∀ (a1 a2 a3 a4 : Value) (w : World), (Instr.field 34 (.agg #[a1, a2, a3, a4]) 1).run Tryz.prog w = .ok a2 w := fun a1 a2 a3 a4 w => by kernel_rfl
  have f2 : ∀ (a1 a2 a3 a4 : Value) (w : World), (Instr.field 34 (.agg #[a1, a2, a3, a4]) 2).run Tryz.prog w = .ok a3 w := fun a1 a2 a3 a4 w => by kernel_rfl
  go_enter Tryz.func5, Tryz.ntmps5
  go_wp2_with (first
    | (go_at_call 6; refine (AR _).mono ?_; rintro e w1 ⟨L, s, rfl, m1, t1, b1, l1⟩; obtain ⟨c1, pa⟩ := Farm.first goodA m1 t1 b1 l1)
    | (go_at_call 7; refine (awake10_any _).mono ?_; rintro e w2 ⟨rfl, b2⟩; have c2 := c1.grown b2; have z0 := c2.v.c0; have z1 := c2.v.c1; have z2 := c2.v.c2; have z3 := c2.v.c3; have z4 := c2.v.c4; have z5 := c2.v.c5; have z6 := c2.v.c6; have z7 := c2.v.c7; have z8 := c2.v.c8)
    | (go_at_call 8; refine (word_make c2 pa (by decide)).mono ?_; rintro e w3 ⟨st3, s3, σ3, rfl, h3, c3⟩))
  obtain ⟨E, hE⟩ : ∃ E, w1.heap.size = E := ⟨_, rfl⟩
  rw [hE] at c3 pa ⊢
  have GG0 : Hid (Cell1 4 4 2 20 0 1 (qW.sw 0) qW 0) := word_cell c3
  obtain ⟨vL, hvL⟩ : ∃ vL, qW.sw 0 = vL := ⟨_, rfl⟩
  rw [hvL] at GG0
  have hσ3 : σ3 ≤ 200 := by omega
  have PA : Hid (FarmApart w L E 4 4 2 20 100) := pa
  have EE : Hid (w.heap.size ≤ E) := pa.e0
  have C3 : Hid (Farm w w3 L E 4 4 2 20 100 s3 σ3 qW 1 (fun _ => 1) ([] ++ oxW :: [])) := c3
  clear c1 c2 b2 z0 z1 z2 z3 z4 z5 z6 z7 z8 m1 t1 b1 l1 AR hE c3 pa hvL h3 hN'
  have ltE := C3.out.ltE
  have ltL : ∀ a, L.has a → a < w3.heap.size := fun a h => C3.out.mm.lt a h
  have rA : ((w3.alloc (.cells #[.pointer none, .pointer none, .pointer none, .pointer none] 50)).alloc (.cells #[.bool false, .bool false, .bool false, .bool false] 51)).rowIs w3.heap.size 50 4 (fun a => ptrOf ((fun _ => none) a)) := by
    refine ⟨#[.pointer none, .pointer none, .pointer none, .pointer none], ?_, rfl, fun i hi => four10 _ i hi⟩
    rw [Go.Deep.blk_alloc_lt _ _ _ (by rw [Go.Deep.nblk_alloc]; omega)]
    exact Go.Deep.blk_alloc_new _ _
  have rD : ((w3.alloc (.cells #[.pointer none, .pointer none, .pointer none, .pointer none] 50)).alloc (.cells #[.bool false, .bool false, .bool false, .bool false] 51)).rowIs (w3.heap.size + 1) 51 4 (fun _ => Value.bool false) := by
    refine ⟨#[.bool false, .bool false, .bool false, .bool false], ?_, rfl, fun i hi => four10 _ i hi⟩
    have := Go.Deep.blk_alloc_new (w3.alloc (.cells #[.pointer none, .pointer none, .pointer none, .pointer none] 50)) (.cells #[.bool false, .bool false, .bool false, .bool false] 51)
    rwa [Go.Deep.nblk_alloc] at this
  have g4 : Below w3.heap.size w3 ((w3.alloc (.cells #[.pointer none, .pointer none, .pointer none, .pointer none] 50)).alloc (.cells #[.bool false, .bool false, .bool false, .bool false] 51)) := grow_alloc (grow1 _ _) _
  have B0 : Team w ((w3.alloc (.cells #[.pointer none, .pointer none, .pointer none, .pointer none] 50)).alloc (.cells #[.bool false, .bool false, .bool false, .bool false] 51)) L E w3.heap.size (w3.heap.size + 1) 50 51 4 s3 σ3 qW (fun _ => none) (fun _ => Ac.see) (wtN 2) (fun _ => Value.bool false) := ⟨C3.out.mm.below g4, C3.out.tw, C3.out.v.grown g4, grow C3.out.b g4, rA, rD, fun a b ha => by cases ha⟩
  have A0 : TeamApart w L E w3.heap.size (w3.heap.size + 1) (fun _ => none) := ⟨PA.out.l0, PA.out.e, fun h => by have := ltL _ h; omega, fun h => by have := ltL _ h; omega, by omega, by omega, by omega, C3.out.b.size, by have := C3.out.b.size; omega, fun a b ha => (by cases ha), fun a a' b ha => (by cases ha)⟩
  obtain ⟨Wb, hWb⟩ : ∃ Wb, w3.heap.size = Wb := ⟨_, rfl⟩
  obtain ⟨Db, hDb⟩ : ∃ Db, Wb + 1 = Db := ⟨_, rfl⟩
  rw [hWb, hDb] at B0 A0 ⊢
  have HB0 : Hid (Team w ((w3.alloc (.cells #[.pointer none, .pointer none, .pointer none, .pointer none] 50)).alloc (.cells #[.bool false, .bool false, .bool false, .bool false] 51)) L E Wb Db 50 51 4 s3 σ3 qW (fun _ => none) (fun _ => Ac.see) (wtN 2) (fun _ => Value.bool false)) := B0
  have HA0 : Hid (TeamApart w L E Wb Db (fun _ => none)) := A0
  clear B0 A0 rA rD g4 ltE ltL C3 PA hWb hDb
  go_loopw [13] (fun iv wr => ∃ (a : Nat) (P : Nat → Option Nat), iv = .int .i64 a ∧ a ≤ N ∧ (∀ k, k < a → ∃ p, P k = some p) ∧ Team w wr L E Wb Db 50 51 4 s3 σ3 qW P (fun _ => Ac.see) (wtN 2) (fun _ => Value.bool false) ∧ TeamApart w L E Wb Db P) (fun iv _ => N - (intOf iv).toNat)
  case atStart => exact ⟨0, fun _ => none, rfl, Nat.zero_le _, fun k hk => by omega, HB0.out, HA0.out⟩
  case round =>
    clear HB0 HA0
    obtain ⟨a, P, rfl, haN, hP, B, AP⟩ := hrel
    by_cases ha : a < N
    · have ha' : (a : Int) < (N : Int) := by omega
      have ha4 : (a : Int) < 4 := by omega
      have hb0 : (0 : Int) ≤ (a : Int) := by omega
      go_wp2_with (go_at_call 10; refine (newAcc_any 2 65536 0 (10 + (a : Int)) 0 false _).mono ?_; rintro e w5 ⟨W1, rfl, rfl, g1⟩; have B1 := B.grown g1; have hc := (B1.grown (grow1 _ (acc0 2 65536 0 (10 + (a : Int)) 0 false))).ar.cell (i := a) (by omega); have hf := (B1.grown (grow1 _ (acc0 2 65536 0 (10 + (a : Int)) 0 false))).ar.frozen a; obtain ⟨B', AP'⟩ := B1.more AP a (wtN 2 a))
      go_roundw
      case rel =>
        rw [show upd (fun _ => Ac.see) a Ac.see = (fun _ => Ac.see) from by funext j; unfold upd; split <;> rfl, show upd (wtN 2) a (wtN 2 a) = wtN 2 from by funext j; unfold upd; split <;> simp_all] at B'
        refine ⟨a + 1, upd P a (some W1.heap.size), by go_num, by omega, fun k hk => ?_, B', AP'⟩
        by_cases e : k = a
        · subst e; exact ⟨_, upd_same _ _ _⟩
        · rw [upd_other _ _ _ _ e]; exact hP k (by omega)
      case measure => simp [intOf]; omega
    · have ha' : ¬ (a : Int) < (N : Int) := by omega
      obtain rfl : N = a := by omega
      have HB1 : Hid (Team w wr L E Wb Db 50 51 4 s3 σ3 qW P (fun _ => Ac.see) (wtN 2) (fun _ => Value.bool false)) := B
      have AP : Hid (TeamApart w L E Wb Db P) := AP
      have PP : Hid (∀ k, k < N → ∃ p, P k = some p) := hP
      clear B hP
      go_wp2
      clear ha ha' haN
      go_loopw [11, 12, 14] (fun lv yv iv wr => ∃ (r l : Nat) (s' : Mm) (σ : Nat) (q : Q) (c : Int) (ps : Nat → Ac) (dn : Nat → Value), lv = .int .i64 l ∧ yv = .int .i64 c ∧ iv = .int .i64 r ∧ r ≤ 400 ∧ σ ≤ 200 + r ∧ Team w wr L E Wb Db 50 51 4 s' σ q P ps (wtN 2) dn ∧ Race 2 vL q c N ps ∧ LastI N ps c r ∧ (∀ a, a < N → dn a = Value.bool (ps a).over?) ∧ l ≤ σ) (fun _ _ iv _ => 400 - (intOf iv).toNat)
      case atStart => exact ⟨0, 0, s3, σ3, qW, 0, fun _ => .see, fun _ => .bool false, rfl, rfl, rfl, by omega, by omega, HB1.out, ⟨GG0.out, fun _ _ => trivial⟩, fun a ha => Or.inr (by show 4 + 4 * (N - nOv (fun _ => Ac.see) N) + 0 ≤ 4 * N + 4; omega), fun a ha => rfl, Nat.zero_le _⟩
      case round =>
        clear HB1 GG0
        obtain ⟨r, l, s', σ, q, c, ps, dn, rfl, rfl, rfl, hr3, hσ, B, RC, MU, hdn, hl⟩ := hrel
        have hN0 : ¬ (N : Int) = 0 := by omega
        by_cases hr : r < 400
        · have hr' : (r : Int) < 400 := by omega
          by_cases hrN : r < M
          · have hrN' : (r : Int) < (M : Int) := by omega
            by_cases hr15 : r < 150
            · have hr15' : (r : Int) < 150 := by omega
              obtain ⟨zb, zo, rfl, hz0⟩ := HR.out r hrN
              have hz := keep' B.b hz0
              obtain ⟨K, hK1, hK, hK3, hK5⟩ := pickA (z r) N h1
              have hrem : ((r : Int).tmod N) = ((r % N : Nat) : Int) := remA r N
              have hcnt : ∀ a, a ≠ K → cntA N a (r + 1) = cntA N a r := fun a e => by
                show cntA N a r + (if 150 ≤ r ∧ r % N = a then 1 else 0) = _
                rw [if_neg (fun h => by omega)]; rfl
              have hcntK : cntA N K (r + 1) ≤ cntA N K r + 1 := by
                show cntA N K r + (if 150 ≤ r ∧ r % N = K then 1 else 0) ≤ _
                split <;> omega
              clear hz0
              have HKN : Hid (K < N) := hK
              have hK4 : K < 4 := by omega
              have hK4' : (K : Int) < 4 := by omega
              have hK4n : (K : Int) < ((4 : Nat) : Int) := by omega
              obtain ⟨p, hp⟩ := PP.out K hK
              have HPK : Hid (P K = some p) := hp
              clear hp
              cases hov : (ps K).over? with
              | true =>
                have HDN : Hid (dn K = Value.bool true) := by unfold Hid; rw [hdn K hK, hov]
                have MU' := MU.skip hov hcnt
                clear MU
                go_wp2
                refine wp_over (fun W' => Team w W' L E Wb Db 50 51 4 s' σ q P ps (wtN 2) dn) B ?_
                clear B hz
                intro W' B
                refine wp_region_rely Grown [.val (.int .i64 K), .val (.pointer (some ⟨Db, K, none⟩)), .val (.bool true), .val (.bool true), .val undef, .val undef, .val undef, .val undef, .val undef, .val undef, .val (.bool true)] (by kernel_rfl) Grown.refl Grown.trans (by kernel_rfl) (by kernel_rfl) (by kernel_rfl) ?_
                simp only [relyAll, Act.put, List.setIfInBounds_toArray, List.set_cons_zero, List.set_cons_succ]
                refine ⟨?_, ?_, ?_, ?_, ?_, ?_, ?_, ?_, ?_, ?_, ?_, ?_⟩
                · intro w' hg _
                  refine Or.inl ⟨rfl, ?_⟩
                  go_simp
                  exact ⟨Grown.refl _, rfl⟩
                · intro w' hg _
                  refine Or.inl ⟨rfl, ?_⟩
                  have hb : (0 : Int) ≤ (K : Int) := by omega
                  go_simp
                  exact ⟨Grown.refl _, rfl⟩
                · intro w' hg _
                  refine Or.inl ⟨rfl, ?_⟩
                  have z := (B.drew.grown hg).dr.cell (i := K) (by omega)
                  rw [show dn K = Value.bool true from HDN.out] at z
                  go_simp
                  exact ⟨Grown.refl _, rfl⟩
                · intro w' hg _
                  refine Or.inl ⟨rfl, ?_⟩
                  go_simp
                  exact ⟨Grown.refl _, rfl⟩
                · intro w' hg _
                  exact Or.inr ⟨rfl, rfl⟩
                · intro w' hg _
                  exact Or.inr ⟨rfl, rfl⟩
                · intro w' hg _
                  exact Or.inr ⟨rfl, rfl⟩
                · intro w' hg _
                  exact Or.inr ⟨rfl, rfl⟩
                · intro w' hg _
                  exact Or.inr ⟨rfl, rfl⟩
                · intro w' hg _
                  exact Or.inr ⟨rfl, rfl⟩
                · intro w' hg _
                  refine Or.inl ⟨rfl, ?_⟩
                  go_simp
                  exact ⟨Grown.refl _, rfl⟩
                intro w5 hg _
                have B5 := B.drew.grown hg
                clear B hg
                go_wp2
                go_roundw
                case rel => exact ⟨r + 1, l, s', σ, q, c, ps, dn, rfl, rfl, by go_num, by omega, by omega, B5, RC, MU', hdn, hl⟩
                case measure => simp [intOf]; omega
              | false =>
                have HDN : Hid (dn K = Value.bool false) := by unfold Hid; rw [hdn K hK, hov]
                obtain ⟨q', α', ht⟩ : ∃ q' α', acTurn (wtN 2 K) false 0 1 σ q (ps K) = (q', α') := ⟨_, _, rfl⟩
                obtain ⟨gd, c', RC', M⟩ := RC.step hK h4 hov ht
                have KEY := MU.step hK hov M hcnt hcntK
                have okK : (wtN 2 K).ok := wtN_ok (by decide) K hK4
                have ST := fun (w1 : World) (B1 : Team w w1 L E Wb Db 50 51 4 s' σ q P ps (wtN 2) dn) (d : Bool) (hd : α'.over? = d) => B1.step AP.out HPK.out (by omega) RC.s.sc.wd okK rfl gd hov ht hd
                have HKEY : Hid (LastI N (upd ps K α') c' (r + 1) ∧ ((α'.over? = false ∧ c' = c) ∨ (α' = .over 0 c (σ + 1) ∧ c' = 10 + (K : Int)))) := KEY
                have HRC : Hid (Race 2 vL q' c' N (upd ps K α')) := RC'
                have HDD : Hid (∀ a, a < N → dn a = Value.bool (ps a).over?) := hdn
                clear MU RC RC' gd hdn hcnt hcntK ht M KEY
                go_wp2
                refine wp_over (fun W' => Team w W' L E Wb Db 50 51 4 s' σ q P ps (wtN 2) dn) B ?_
                clear B hz
                intro W' B
                refine wp_region_rely_tail Grown 8 [.val (.int .i64 K), .val (.pointer (some ⟨Db, K, none⟩)), .val (.bool false), .val (.bool false), .val (.int .i64 K), .val (.pointer (some ⟨Wb, K, none⟩)), .val (.pointer (some ⟨p, 0, none⟩)), .val (.agg #[.int .i64 4, .int .i64 4, .int .i64 2, .int .i64 20, .int .i64 100, .int .i64 600, .int .i64 3, .pointer (some ⟨L.p, 0, none⟩), .int .i64 0])] (by kernel_rfl) Grown.refl Grown.trans (by decide) (by kernel_rfl) (by kernel_rfl) (by kernel_rfl) (by kernel_rfl) (by kernel_rfl) (by kernel_rfl) ?_
                simp only [List.take_succ_cons, List.take_zero, relyAll, Act.put, List.setIfInBounds_toArray, List.set_cons_zero, List.set_cons_succ]
                refine ⟨?_, ?_, ?_, ?_, ?_, ?_, ?_, ?_, ?_⟩
                · intro w' hg _
                  refine Or.inl ⟨rfl, ?_⟩
                  go_simp
                  exact ⟨Grown.refl _, rfl⟩
                · intro w' hg _
                  refine Or.inl ⟨rfl, ?_⟩
                  have hb : (0 : Int) ≤ (K : Int) := by omega
                  go_simp
                  exact ⟨Grown.refl _, rfl⟩
                · intro w' hg _
                  refine Or.inl ⟨rfl, ?_⟩
                  have z := (B.drew.grown hg).dr.cell (i := K) (by omega)
                  rw [show dn K = Value.bool false from HDN.out] at z
                  go_simp
                  exact ⟨Grown.refl _, rfl⟩
                · intro w' hg _
                  refine Or.inl ⟨rfl, ?_⟩
                  go_simp
                  exact ⟨Grown.refl _, rfl⟩
                · intro w' hg _
                  refine Or.inl ⟨rfl, ?_⟩
                  go_simp
                  exact ⟨Grown.refl _, rfl⟩
                · intro w' hg _
                  refine Or.inl ⟨rfl, ?_⟩
                  have hb : (0 : Int) ≤ (K : Int) := by omega
                  go_simp
                  exact ⟨Grown.refl _, rfl⟩
                · intro w' hg _
                  refine Or.inl ⟨rfl, ?_⟩
                  have z := (B.drew.grown hg).ar.cell (i := K) (by omega)
                  rw [HPK.out] at z
                  simp only [ptrOf] at z
                  go_simp
                  exact ⟨Grown.refl _, rfl⟩
                · intro w' hg _
                  refine Or.inl ⟨rfl, ?_⟩
                  have vv := (B.drew.grown hg).v
                  have y0 := vv.c0
                  have y1 := vv.c1
                  have y2 := vv.c2
                  have y3 := vv.c3
                  have y4 := vv.c4
                  have y5 := vv.c5
                  have y6 := vv.c6
                  have y7 := vv.c7
                  have y8 := vv.c8
                  go_simp
                  exact ⟨Grown.refl _, rfl⟩
                intro w5 hg _
                have B5 := B.drew.grown hg
                clear B hg
                have hdd : ∀ β : Ac, β.over? = true → ∀ a, a < N → upd dn K (Value.bool true) a = Value.bool (upd ps K β a).over? := fun β hb a ha => by
                  by_cases e : a = K
                  · subst e; rw [upd_same, upd_same, hb]
                  · rw [upd_other _ _ _ _ e, upd_other _ _ _ _ e]; exact HDD.out a ha
                obtain ⟨MU', hd, hcc⟩ | ⟨MU', hα, hcc⟩ : (LastI N (upd ps K α') c' (r + 1) ∧ α'.over? = false ∧ c' = c) ∨ (LastI N (upd ps K α') c' (r + 1) ∧ α' = .over 0 c (σ + 1) ∧ c' = 10 + (K : Int)) := HKEY.out.2.elim (fun h => Or.inl ⟨HKEY.out.1, h⟩) (fun h => Or.inr ⟨HKEY.out.1, h⟩)
                · clear HKEY hdd
                  subst hcc
                  go_wp2_with (go_at_call 12; refine (ST _ B5 false hd).mono ?_; rintro e w6 ⟨rfl, s6, B6⟩)
                  go_roundw
                  case rel =>
                    refine ⟨r + 1, l, s6, σ + 1, q', c', upd ps K α', dn, rfl, rfl, by go_num, by omega, by omega, B6, HRC.out, MU', fun a ha => ?_, by omega⟩
                    by_cases e : a = K
                    · subst e; rw [upd_same, hd]; exact HDN.out
                    · rw [upd_other _ _ _ _ e]; exact HDD.out a ha
                  case measure => simp [intOf]; omega
                · obtain ⟨τ, hτ⟩ : ∃ τ, σ + 1 = τ := ⟨_, rfl⟩
                  rw [hτ] at hα
                  subst hα
                  subst hcc
                  have HTT : Hid (σ + 1 = τ) := hτ
                  have hlt : (τ : Int) > (l : Int) := by omega
                  have hne : ¬ (τ : Int) = (l : Int) := by omega
                  have hd : (Ac.over 0 c τ).over? = true := rfl
                  clear HKEY hτ
                  go_wp2_with (first
                    | (go_at_call 12; refine (ST _ B5 true hd).mono ?_; rintro e w6 ⟨rfl, s6, B6⟩; have dz := B6.dr.cell (i := K) hK4; have dz' : w6.cell? ⟨Db, K, none⟩ = some (Value.bool false) := (by rw [dz, HDN.out]); have dfz := B6.dr.frozen K; have B7 := B6.setD AP.out K (.bool true); have wz := B7.ar.cell (i := K) hK4; rw [HPK.out] at wz; simp only [ptrOf] at wz; clear dz)
                    | (go_at_call 15; refine (B7.done HPK.out (upd_same _ _ _)).mono ?_; rintro e w9 ⟨rfl, b9⟩))
                  go_roundw
                  case rel =>
                    have hτ := HTT.out
                    exact ⟨r + 1, τ, s6, σ + 1, q', 10 + (K : Int), upd ps K (.over 0 c τ), upd dn K (.bool true), rfl, rfl, by go_num, by omega, by omega, B7.grown (grow_alloc b9 _), HRC.out, MU', hdd _ rfl, by omega⟩
                  case measure => simp [intOf]; omega
            · have hr15' : ¬ (r : Int) < 150 := by omega
              obtain ⟨K, hKr⟩ : ∃ K, r % N = K := ⟨_, rfl⟩
              have hK : K < N := by rw [← hKr]; exact Nat.mod_lt _ (by omega)
              have hrem : ((r : Int).tmod N) = (K : Int) := by rw [remA, hKr]
              have hcnt : ∀ a, a ≠ K → cntA N a (r + 1) = cntA N a r := fun a e => by
                show cntA N a r + (if 150 ≤ r ∧ r % N = a then 1 else 0) = _
                rw [if_neg (fun h => e (h.2.symm.trans hKr))]; rfl
              have hcntK : cntA N K (r + 1) ≤ cntA N K r + 1 := by
                show cntA N K r + (if 150 ≤ r ∧ r % N = K then 1 else 0) ≤ _
                split <;> omega
              have hKr' := hKr
              clear hKr
              have HKN : Hid (K < N) := hK
              have hK4 : K < 4 := by omega
              have hK4' : (K : Int) < 4 := by omega
              have hK4n : (K : Int) < ((4 : Nat) : Int) := by omega
              obtain ⟨p, hp⟩ := PP.out K hK
              have HPK : Hid (P K = some p) := hp
              clear hp
              cases hov : (ps K).over? with
              | true =>
                have HDN : Hid (dn K = Value.bool true) := by unfold Hid; rw [hdn K hK, hov]
                have MU' := MU.skip hov hcnt
                clear MU
                go_wp2
                refine wp_over (fun W' => Team w W' L E Wb Db 50 51 4 s' σ q P ps (wtN 2) dn) B ?_
                clear B
                intro W' B
                refine wp_region_rely Grown [.val (.int .i64 K), .val (.pointer (some ⟨Db, K, none⟩)), .val (.bool true), .val (.bool true), .val undef, .val undef, .val undef, .val undef, .val undef, .val undef, .val (.bool true)] (by kernel_rfl) Grown.refl Grown.trans (by kernel_rfl) (by kernel_rfl) (by kernel_rfl) ?_
                simp only [relyAll, Act.put, List.setIfInBounds_toArray, List.set_cons_zero, List.set_cons_succ]
                refine ⟨?_, ?_, ?_, ?_, ?_, ?_, ?_, ?_, ?_, ?_, ?_, ?_⟩
                · intro w' hg _
                  refine Or.inl ⟨rfl, ?_⟩
                  go_simp
                  exact ⟨Grown.refl _, rfl⟩
                · intro w' hg _
                  refine Or.inl ⟨rfl, ?_⟩
                  have hb : (0 : Int) ≤ (K : Int) := by omega
                  go_simp
                  exact ⟨Grown.refl _, rfl⟩
                · intro w' hg _
                  refine Or.inl ⟨rfl, ?_⟩
                  have z := (B.drew.grown hg).dr.cell (i := K) (by omega)
                  rw [show dn K = Value.bool true from HDN.out] at z
                  go_simp
                  exact ⟨Grown.refl _, rfl⟩
                · intro w' hg _
                  refine Or.inl ⟨rfl, ?_⟩
                  go_simp
                  exact ⟨Grown.refl _, rfl⟩
                · intro w' hg _
                  exact Or.inr ⟨rfl, rfl⟩
                · intro w' hg _
                  exact Or.inr ⟨rfl, rfl⟩
                · intro w' hg _
                  exact Or.inr ⟨rfl, rfl⟩
                · intro w' hg _
                  exact Or.inr ⟨rfl, rfl⟩
                · intro w' hg _
                  exact Or.inr ⟨rfl, rfl⟩
                · intro w' hg _
                  exact Or.inr ⟨rfl, rfl⟩
                · intro w' hg _
                  refine Or.inl ⟨rfl, ?_⟩
                  go_simp
                  exact ⟨Grown.refl _, rfl⟩
                intro w5 hg _
                have B5 := B.drew.grown hg
                clear B hg
                go_wp2
                go_roundw
                case rel => exact ⟨r + 1, l, s', σ, q, c, ps, dn, rfl, rfl, by go_num, by omega, by omega, B5, RC, MU', hdn, hl⟩
                case measure => simp [intOf]; omega
              | false =>
                have HDN : Hid (dn K = Value.bool false) := by unfold Hid; rw [hdn K hK, hov]
                obtain ⟨q', α', ht⟩ : ∃ q' α', acTurn (wtN 2 K) false 0 1 σ q (ps K) = (q', α') := ⟨_, _, rfl⟩
                obtain ⟨gd, c', RC', M⟩ := RC.step hK h4 hov ht
                have KEY := MU.step hK hov M hcnt hcntK
                have okK : (wtN 2 K).ok := wtN_ok (by decide) K hK4
                have ST := fun (w1 : World) (B1 : Team w w1 L E Wb Db 50 51 4 s' σ q P ps (wtN 2) dn) (d : Bool) (hd : α'.over? = d) => B1.step AP.out HPK.out (by omega) RC.s.sc.wd okK rfl gd hov ht hd
                have HKEY : Hid (LastI N (upd ps K α') c' (r + 1) ∧ ((α'.over? = false ∧ c' = c) ∨ (α' = .over 0 c (σ + 1) ∧ c' = 10 + (K : Int)))) := KEY
                have HRC : Hid (Race 2 vL q' c' N (upd ps K α')) := RC'
                have HDD : Hid (∀ a, a < N → dn a = Value.bool (ps a).over?) := hdn
                clear MU RC RC' gd hdn hcnt hcntK ht M KEY
                go_wp2
                refine wp_over (fun W' => Team w W' L E Wb Db 50 51 4 s' σ q P ps (wtN 2) dn) B ?_
                clear B
                intro W' B
                refine wp_region_rely_tail Grown 8 [.val (.int .i64 K), .val (.pointer (some ⟨Db, K, none⟩)), .val (.bool false), .val (.bool false), .val (.int .i64 K), .val (.pointer (some ⟨Wb, K, none⟩)), .val (.pointer (some ⟨p, 0, none⟩)), .val (.agg #[.int .i64 4, .int .i64 4, .int .i64 2, .int .i64 20, .int .i64 100, .int .i64 600, .int .i64 3, .pointer (some ⟨L.p, 0, none⟩), .int .i64 0])] (by kernel_rfl) Grown.refl Grown.trans (by decide) (by kernel_rfl) (by kernel_rfl) (by kernel_rfl) (by kernel_rfl) (by kernel_rfl) (by kernel_rfl) ?_
                simp only [List.take_succ_cons, List.take_zero, relyAll, Act.put, List.setIfInBounds_toArray, List.set_cons_zero, List.set_cons_succ]
                refine ⟨?_, ?_, ?_, ?_, ?_, ?_, ?_, ?_, ?_⟩
                · intro w' hg _
                  refine Or.inl ⟨rfl, ?_⟩
                  go_simp
                  exact ⟨Grown.refl _, rfl⟩
                · intro w' hg _
                  refine Or.inl ⟨rfl, ?_⟩
                  have hb : (0 : Int) ≤ (K : Int) := by omega
                  go_simp
                  exact ⟨Grown.refl _, rfl⟩
                · intro w' hg _
                  refine Or.inl ⟨rfl, ?_⟩
                  have z := (B.drew.grown hg).dr.cell (i := K) (by omega)
                  rw [show dn K = Value.bool false from HDN.out] at z
                  go_simp
                  exact ⟨Grown.refl _, rfl⟩
                · intro w' hg _
                  refine Or.inl ⟨rfl, ?_⟩
                  go_simp
                  exact ⟨Grown.refl _, rfl⟩
                · intro w' hg _
                  refine Or.inl ⟨rfl, ?_⟩
                  go_simp
                  exact ⟨Grown.refl _, rfl⟩
                · intro w' hg _
                  refine Or.inl ⟨rfl, ?_⟩
                  have hb : (0 : Int) ≤ (K : Int) := by omega
                  go_simp
                  exact ⟨Grown.refl _, rfl⟩
                · intro w' hg _
                  refine Or.inl ⟨rfl, ?_⟩
                  have z := (B.drew.grown hg).ar.cell (i := K) (by omega)
                  rw [HPK.out] at z
                  simp only [ptrOf] at z
                  go_simp
                  exact ⟨Grown.refl _, rfl⟩
                · intro w' hg _
                  refine Or.inl ⟨rfl, ?_⟩
                  have vv := (B.drew.grown hg).v
                  have y0 := vv.c0
                  have y1 := vv.c1
                  have y2 := vv.c2
                  have y3 := vv.c3
                  have y4 := vv.c4
                  have y5 := vv.c5
                  have y6 := vv.c6
                  have y7 := vv.c7
                  have y8 := vv.c8
                  go_simp
                  exact ⟨Grown.refl _, rfl⟩
                intro w5 hg _
                have B5 := B.drew.grown hg
                clear B hg
                have hdd : ∀ β : Ac, β.over? = true → ∀ a, a < N → upd dn K (Value.bool true) a = Value.bool (upd ps K β a).over? := fun β hb a ha => by
                  by_cases e : a = K
                  · subst e; rw [upd_same, upd_same, hb]
                  · rw [upd_other _ _ _ _ e, upd_other _ _ _ _ e]; exact HDD.out a ha
                obtain ⟨MU', hd, hcc⟩ | ⟨MU', hα, hcc⟩ : (LastI N (upd ps K α') c' (r + 1) ∧ α'.over? = false ∧ c' = c) ∨ (LastI N (upd ps K α') c' (r + 1) ∧ α' = .over 0 c (σ + 1) ∧ c' = 10 + (K : Int)) := HKEY.out.2.elim (fun h => Or.inl ⟨HKEY.out.1, h⟩) (fun h => Or.inr ⟨HKEY.out.1, h⟩)
                · clear HKEY hdd
                  subst hcc
                  go_wp2_with (go_at_call 12; refine (ST _ B5 false hd).mono ?_; rintro e w6 ⟨rfl, s6, B6⟩)
                  go_roundw
                  case rel =>
                    refine ⟨r + 1, l, s6, σ + 1, q', c', upd ps K α', dn, rfl, rfl, by go_num, by omega, by omega, B6, HRC.out, MU', fun a ha => ?_, by omega⟩
                    by_cases e : a = K
                    · subst e; rw [upd_same, hd]; exact HDN.out
                    · rw [upd_other _ _ _ _ e]; exact HDD.out a ha
                  case measure => simp [intOf]; omega
                · obtain ⟨τ, hτ⟩ : ∃ τ, σ + 1 = τ := ⟨_, rfl⟩
                  rw [hτ] at hα
                  subst hα
                  subst hcc
                  have HTT : Hid (σ + 1 = τ) := hτ
                  have hlt : (τ : Int) > (l : Int) := by omega
                  have hne : ¬ (τ : Int) = (l : Int) := by omega
                  have hd : (Ac.over 0 c τ).over? = true := rfl
                  clear HKEY hτ
                  go_wp2_with (first
                    | (go_at_call 12; refine (ST _ B5 true hd).mono ?_; rintro e w6 ⟨rfl, s6, B6⟩; have dz := B6.dr.cell (i := K) hK4; have dz' : w6.cell? ⟨Db, K, none⟩ = some (Value.bool false) := (by rw [dz, HDN.out]); have dfz := B6.dr.frozen K; have B7 := B6.setD AP.out K (.bool true); have wz := B7.ar.cell (i := K) hK4; rw [HPK.out] at wz; simp only [ptrOf] at wz; clear dz)
                    | (go_at_call 15; refine (B7.done HPK.out (upd_same _ _ _)).mono ?_; rintro e w9 ⟨rfl, b9⟩))
                  go_roundw
                  case rel =>
                    have hτ := HTT.out
                    exact ⟨r + 1, τ, s6, σ + 1, q', 10 + (K : Int), upd ps K (.over 0 c τ), upd dn K (.bool true), rfl, rfl, by go_num, by omega, by omega, B7.grown (grow_alloc b9 _), HRC.out, MU', hdd _ rfl, by omega⟩
                  case measure => simp [intOf]; omega
          · have hrN' : ¬ (r : Int) < (M : Int) := by omega
            obtain ⟨K, hKr⟩ : ∃ K, r % N = K := ⟨_, rfl⟩
            have hK : K < N := by rw [← hKr]; exact Nat.mod_lt _ (by omega)
            have hrem : ((r : Int).tmod N) = (K : Int) := by rw [remA, hKr]
            have hcnt : ∀ a, a ≠ K → cntA N a (r + 1) = cntA N a r := fun a e => by
              show cntA N a r + (if 150 ≤ r ∧ r % N = a then 1 else 0) = _
              rw [if_neg (fun h => e (h.2.symm.trans hKr))]; rfl
            have hcntK : cntA N K (r + 1) ≤ cntA N K r + 1 := by
              show cntA N K r + (if 150 ≤ r ∧ r % N = K then 1 else 0) ≤ _
              split <;> omega
            have hKr' := hKr
            clear hKr
            have HKN : Hid (K < N) := hK
            have hK4 : K < 4 := by omega
            have hK4' : (K : Int) < 4 := by omega
            have hK4n : (K : Int) < ((4 : Nat) : Int) := by omega
            obtain ⟨p, hp⟩ := PP.out K hK
            have HPK : Hid (P K = some p) := hp
            clear hp
            cases hov : (ps K).over? with
            | true =>
              have HDN : Hid (dn K = Value.bool true) := by unfold Hid; rw [hdn K hK, hov]
              have MU' := MU.skip hov hcnt
              clear MU
              go_wp2
              refine wp_over (fun W' => Team w W' L E Wb Db 50 51 4 s' σ q P ps (wtN 2) dn) B ?_
              clear B
              intro W' B
              refine wp_region_rely Grown [.val (.int .i64 K), .val (.pointer (some ⟨Db, K, none⟩)), .val (.bool true), .val (.bool true), .val undef, .val undef, .val undef, .val undef, .val undef, .val undef, .val (.bool true)] (by kernel_rfl) Grown.refl Grown.trans (by kernel_rfl) (by kernel_rfl) (by kernel_rfl) ?_
              simp only [relyAll, Act.put, List.setIfInBounds_toArray, List.set_cons_zero, List.set_cons_succ]
              refine ⟨?_, ?_, ?_, ?_, ?_, ?_, ?_, ?_, ?_, ?_, ?_, ?_⟩
              · intro w' hg _
                refine Or.inl ⟨rfl, ?_⟩
                go_simp
                exact ⟨Grown.refl _, rfl⟩
              · intro w' hg _
                refine Or.inl ⟨rfl, ?_⟩
                have hb : (0 : Int) ≤ (K : Int) := by omega
                go_simp
                exact ⟨Grown.refl _, rfl⟩
              · intro w' hg _
                refine Or.inl ⟨rfl, ?_⟩
                have z := (B.drew.grown hg).dr.cell (i := K) (by omega)
                rw [show dn K = Value.bool true from HDN.out] at z
                go_simp
                exact ⟨Grown.refl _, rfl⟩
              · intro w' hg _
                refine Or.inl ⟨rfl, ?_⟩
                go_simp
                exact ⟨Grown.refl _, rfl⟩
              · intro w' hg _
                exact Or.inr ⟨rfl, rfl⟩
              · intro w' hg _
                exact Or.inr ⟨rfl, rfl⟩
              · intro w' hg _
                exact Or.inr ⟨rfl, rfl⟩
              · intro w' hg _
                exact Or.inr ⟨rfl, rfl⟩
              · intro w' hg _
                exact Or.inr ⟨rfl, rfl⟩
              · intro w' hg _
                exact Or.inr ⟨rfl, rfl⟩
              · intro w' hg _
                refine Or.inl ⟨rfl, ?_⟩
                go_simp
                exact ⟨Grown.refl _, rfl⟩
              intro w5 hg _
              have B5 := B.drew.grown hg
              clear B hg
              go_wp2
              go_roundw
              case rel => exact ⟨r + 1, l, s', σ, q, c, ps, dn, rfl, rfl, by go_num, by omega, by omega, B5, RC, MU', hdn, hl⟩
              case measure => simp [intOf]; omega
            | false =>
              have HDN : Hid (dn K = Value.bool false) := by unfold Hid; rw [hdn K hK, hov]
              obtain ⟨q', α', ht⟩ : ∃ q' α', acTurn (wtN 2 K) false 0 1 σ q (ps K) = (q', α') := ⟨_, _, rfl⟩
              obtain ⟨gd, c', RC', M⟩ := RC.step hK h4 hov ht
              have KEY := MU.step hK hov M hcnt hcntK
              have okK : (wtN 2 K).ok := wtN_ok (by decide) K hK4
              have ST := fun (w1 : World) (B1 : Team w w1 L E Wb Db 50 51 4 s' σ q P ps (wtN 2) dn) (d : Bool) (hd : α'.over? = d) => B1.step AP.out HPK.out (by omega) RC.s.sc.wd okK rfl gd hov ht hd
              have HKEY : Hid (LastI N (upd ps K α') c' (r + 1) ∧ ((α'.over? = false ∧ c' = c) ∨ (α' = .over 0 c (σ + 1) ∧ c' = 10 + (K : Int)))) := KEY
              have HRC : Hid (Race 2 vL q' c' N (upd ps K α')) := RC'
              have HDD : Hid (∀ a, a < N → dn a = Value.bool (ps a).over?) := hdn
              clear MU RC RC' gd hdn hcnt hcntK ht M KEY
              go_wp2
              refine wp_over (fun W' => Team w W' L E Wb Db 50 51 4 s' σ q P ps (wtN 2) dn) B ?_
              clear B
              intro W' B
              refine wp_region_rely_tail Grown 8 [.val (.int .i64 K), .val (.pointer (some ⟨Db, K, none⟩)), .val (.bool false), .val (.bool false), .val (.int .i64 K), .val (.pointer (some ⟨Wb, K, none⟩)), .val (.pointer (some ⟨p, 0, none⟩)), .val (.agg #[.int .i64 4, .int .i64 4, .int .i64 2, .int .i64 20, .int .i64 100, .int .i64 600, .int .i64 3, .pointer (some ⟨L.p, 0, none⟩), .int .i64 0])] (by kernel_rfl) Grown.refl Grown.trans (by decide) (by kernel_rfl) (by kernel_rfl) (by kernel_rfl) (by kernel_rfl) (by kernel_rfl) (by kernel_rfl) ?_
              simp only [List.take_succ_cons, List.take_zero, relyAll, Act.put, List.setIfInBounds_toArray, List.set_cons_zero, List.set_cons_succ]
              refine ⟨?_, ?_, ?_, ?_, ?_, ?_, ?_, ?_, ?_⟩
              · intro w' hg _
                refine Or.inl ⟨rfl, ?_⟩
                go_simp
                exact ⟨Grown.refl _, rfl⟩
              · intro w' hg _
                refine Or.inl ⟨rfl, ?_⟩
                have hb : (0 : Int) ≤ (K : Int) := by omega
                go_simp
                exact ⟨Grown.refl _, rfl⟩
              · intro w' hg _
                refine Or.inl ⟨rfl, ?_⟩
                have z := (B.drew.grown hg).dr.cell (i := K) (by omega)
                rw [show dn K = Value.bool false from HDN.out] at z
                go_simp
                exact ⟨Grown.refl _, rfl⟩
              · intro w' hg _
                refine Or.inl ⟨rfl, ?_⟩
                go_simp
                exact ⟨Grown.refl _, rfl⟩
              · intro w' hg _
                refine Or.inl ⟨rfl, ?_⟩
                go_simp
                exact ⟨Grown.refl _, rfl⟩
              · intro w' hg _
                refine Or.inl ⟨rfl, ?_⟩
                have hb : (0 : Int) ≤ (K : Int) := by omega
                go_simp
                exact ⟨Grown.refl _, rfl⟩
              · intro w' hg _
                refine Or.inl ⟨rfl, ?_⟩
                have z := (B.drew.grown hg).ar.cell (i := K) (by omega)
                rw [HPK.out] at z
                simp only [ptrOf] at z
                go_simp
                exact ⟨Grown.refl _, rfl⟩
              · intro w' hg _
                refine Or.inl ⟨rfl, ?_⟩
                have vv := (B.drew.grown hg).v
                have y0 := vv.c0
                have y1 := vv.c1
                have y2 := vv.c2
                have y3 := vv.c3
                have y4 := vv.c4
                have y5 := vv.c5
                have y6 := vv.c6
                have y7 := vv.c7
                have y8 := vv.c8
                go_simp
                exact ⟨Grown.refl _, rfl⟩
              intro w5 hg _
              have B5 := B.drew.grown hg
              clear B hg
              have hdd : ∀ β : Ac, β.over? = true → ∀ a, a < N → upd dn K (Value.bool true) a = Value.bool (upd ps K β a).over? := fun β hb a ha => by
                by_cases e : a = K
                · subst e; rw [upd_same, upd_same, hb]
                · rw [upd_other _ _ _ _ e, upd_other _ _ _ _ e]; exact HDD.out a ha
              obtain ⟨MU', hd, hcc⟩ | ⟨MU', hα, hcc⟩ : (LastI N (upd ps K α') c' (r + 1) ∧ α'.over? = false ∧ c' = c) ∨ (LastI N (upd ps K α') c' (r + 1) ∧ α' = .over 0 c (σ + 1) ∧ c' = 10 + (K : Int)) := HKEY.out.2.elim (fun h => Or.inl ⟨HKEY.out.1, h⟩) (fun h => Or.inr ⟨HKEY.out.1, h⟩)
              · clear HKEY hdd
                subst hcc
                go_wp2_with (go_at_call 12; refine (ST _ B5 false hd).mono ?_; rintro e w6 ⟨rfl, s6, B6⟩)
                go_roundw
                case rel =>
                  refine ⟨r + 1, l, s6, σ + 1, q', c', upd ps K α', dn, rfl, rfl, by go_num, by omega, by omega, B6, HRC.out, MU', fun a ha => ?_, by omega⟩
                  by_cases e : a = K
                  · subst e; rw [upd_same, hd]; exact HDN.out
                  · rw [upd_other _ _ _ _ e]; exact HDD.out a ha
                case measure => simp [intOf]; omega
              · obtain ⟨τ, hτ⟩ : ∃ τ, σ + 1 = τ := ⟨_, rfl⟩
                rw [hτ] at hα
                subst hα
                subst hcc
                have HTT : Hid (σ + 1 = τ) := hτ
                have hlt : (τ : Int) > (l : Int) := by omega
                have hne : ¬ (τ : Int) = (l : Int) := by omega
                have hd : (Ac.over 0 c τ).over? = true := rfl
                clear HKEY hτ
                go_wp2_with (first
                  | (go_at_call 12; refine (ST _ B5 true hd).mono ?_; rintro e w6 ⟨rfl, s6, B6⟩; have dz := B6.dr.cell (i := K) hK4; have dz' : w6.cell? ⟨Db, K, none⟩ = some (Value.bool false) := (by rw [dz, HDN.out]); have dfz := B6.dr.frozen K; have B7 := B6.setD AP.out K (.bool true); have wz := B7.ar.cell (i := K) hK4; rw [HPK.out] at wz; simp only [ptrOf] at wz; clear dz)
                  | (go_at_call 15; refine (B7.done HPK.out (upd_same _ _ _)).mono ?_; rintro e w9 ⟨rfl, b9⟩))
                go_roundw
                case rel =>
                  have hτ := HTT.out
                  exact ⟨r + 1, τ, s6, σ + 1, q', 10 + (K : Int), upd ps K (.over 0 c τ), upd dn K (.bool true), rfl, rfl, by go_num, by omega, by omega, B7.grown (grow_alloc b9 _), HRC.out, MU', hdd _ rfl, by omega⟩
                case measure => simp [intOf]; omega
        · have hr' : ¬ (r : Int) < 400 := by omega
          obtain rfl : r = 400 := by omega
          have hall := MU.end h4
          have HAL : Hid (∀ a, a < N → dn a = Value.bool true) := fun a ha => by rw [hdn a ha, hall a ha]
          have FARMA : Hid (FarmApart w L E 4 4 2 20 100) := ⟨AP.out.l0, AP.out.e, EE.out, goodA⟩
          have HRC : Hid (Race 2 vL q c N ps) := RC
          have HB : Hid (Team w wr L E Wb Db 50 51 4 s' σ q P ps (wtN 2) dn) := B
          clear B RC MU hdn hall
          go_wp2
          clear hr hr' hr3
          go_loopw [17] (fun iv wr => ∃ (a : Nat), iv = .int .i64 a ∧ a ≤ N ∧ Team w wr L E Wb Db 50 51 4 s' σ q P ps (wtN 2) dn) (fun iv _ => N - (intOf iv).toNat)
          case atStart => exact ⟨0, rfl, Nat.zero_le _, HB.out⟩
          case round =>
            clear HB
            obtain ⟨a, rfl, haN, B⟩ := hrel
            by_cases ha : a < N
            · have ha' : (a : Int) < (N : Int) := by omega
              have ha4 : (a : Int) < 4 := by omega
              have hb0 : (0 : Int) ≤ (a : Int) := by omega
              have hc := B.dr.cell (i := a) (by omega)
              rw [HAL.out a ha] at hc
              have HB2 : Hid (Team w wr L E Wb Db 50 51 4 s' σ q P ps (wtN 2) dn) := B
              clear B
              go_wp2
              go_roundw
              case rel => exact ⟨a + 1, by go_num, by omega, HB2.out⟩
              case measure => simp [intOf]; omega
            · have ha' : ¬ (a : Int) < (N : Int) := by omega
              have SP : Spt w wr L E 4 4 2 20 s' σ q := ⟨B.mm, B.tw, B.v, B.b⟩
              have RD := SP.do (W := ⟨1, 65536, 0, 0, 0⟩) (own := false) FARMA.out HRC.out.s.sc.wd handA (by decide) ⟨Or.inl rfl, ⟨by decide, by decide⟩⟩ (by omega) (by decide) (HRC.out.s.read rfl rfl)
              have z0 := B.v.c0
              have z1 := B.v.c1
              have z2 := B.v.c2
              have z3 := B.v.c3
              have z4 := B.v.c4
              have z5 := B.v.c5
              have z6 := B.v.c6
              have z7 := B.v.c7
              have z8 := B.v.c8
              clear B SP
              go_wp2_with (go_at_call 16; refine RD.mono ?_; rintro e w5 ⟨rfl, s5, p5, o5, -⟩)
              go_ret
              exact ⟨rfl, p5.b⟩
end Go.Proofs.YtcdmokbamakomabGreat
