/- PlaceLeaves answers true for every number and every slice of numbers, and leaves what was in memory. -/
import Derived.Test.YtbhjokfgajjoiaaPlaceLeave
namespace Go.Proofs.Ytbhjokfgajjoiaa
open Go.RowKit

theorem tri (v : Value) (i : Nat) (hi : i < 3) : (#[v, v, v] : Array Value)[i]? = some v := by
  have : i = 0 ∨ i = 1 ∨ i = 2 := by omega
  rcases this with rfl | rfl | rfl <;> rfl

/-- the first q of the three have begun -/
def begun (κ q : Nat) (θ : Nat → Who) : Prop := ∀ j, j < q → ∃ b, θ j = .at b κ .see

theorem begun.next {κ q b : Nat} {θ : Nat → Who} (h : begun κ q θ) : begun κ (q + 1) (upd θ q (.at b κ .see)) := fun j hj => by
  by_cases e : j = q
  · subst e; exact ⟨b, upd_same _ _ _⟩
  · rw [upd_other _ _ _ _ e]; exact h j (by omega)

/-- all three have begun -/
theorem begun.all {w0 W : World} {L : Loc} {E A M κ σ : Nat} {s : Mm} {y : Y} {θ : Nat → Who} (h : begun κ 3 θ) (T : Trio w0 W L E A M 4 1 6 20 s σ y θ) : ∃ β, Trio w0 W L E A M 4 1 6 20 s σ y (trioOf β κ (fun _ => .see)) := by
  obtain ⟨b0, h0⟩ := h 0 (by omega)
  obtain ⟨b1, h1⟩ := h 1 (by omega)
  obtain ⟨b2, h2⟩ := h 2 (by omega)
  have e : ∀ j, j < 3 → trioOf (fun j => if j = 0 then b0 else if j = 1 then b1 else b2) κ (fun _ => .see) j = θ j := fun j hj => by
    have : j = 0 ∨ j = 1 ∨ j = 2 := by omega
    rcases this with rfl | rfl | rfl
    · exact h0.symm
    · exact h1.symm
    · exact h2.symm
  refine ⟨_, T.f, T.a.congr (fun j hj => by rw [e j hj]), fun j hj b κ' τ hb => T.th j hj b κ' τ (by rw [← e j hj]; exact hb), fun i j hi hj hne b κ1 τ1 b' κ2 τ2 hb hb' => T.dif i j hi hj hne b κ1 τ1 b' κ2 τ2 (by rw [← e i hi]; exact hb) (by rw [← e j hj]; exact hb')⟩

set_option maxRecDepth 20000 in
set_option maxHeartbeats 4000000 in
theorem placeLeaves_any (kl : Int) (ao : Option Addr) (N cap : Nat) (z : Nat → Int) (w : World) (hr : IntsAt .i64 w ao N z) :
    Calls Try.prog 5 #[.int .i64 kl, .slice ao N cap] w fun e w' => e = .returned (.bool true) ∧ Below w.heap.size w w' := by
  have HR : Hid (IntsAt .i64 w ao N z) := hr
  clear hr
  obtain ⟨κ, hκ, hκ4⟩ := bits3 kl
  have hG : Good 4 1 6 20 100 600 3 := goodp (by omega) (by omega) (by omega) (by omega)
  have HG : Hid (Good 4 1 6 20 100 600 3) := hG
  have AR := fun w => arena07 hG w
  clear hG
  go_enter Try.func5, Try.ntmps5
  go_wp2_with (first
    | (go_at_call 8; refine (AR _).mono ?_; rintro e w1 ⟨L, s, rfl, m1, y1, b1, f1⟩; obtain ⟨p1, pa⟩ := Plot.first HG.out m1 y1 b1 f1)
    | (go_at_call 9; refine (awake07_any _).mono ?_; rintro e w2 ⟨rfl, b2⟩; have p2 := p1.grown b2))
  have FA : Hid (PlotApart w L w1.heap.size 4 1 6 20) := pa
  obtain ⟨E, hE⟩ : ∃ E, w1.heap.size = E := ⟨_, rfl⟩
  obtain ⟨A, hA⟩ : ∃ A, w2.heap.size = A := ⟨_, rfl⟩
  rw [hE] at FA p2 ⊢
  rw [hA]
  have rA := World.rowIs_alloc w2 #[.pointer none, .pointer none, .pointer none] 45 (fun _ => .pointer none) (tri _)
  have rD := World.rowIs_alloc (w2.alloc (.cells #[.pointer none, .pointer none, .pointer none] 45)) #[.bool false, .bool false, .bool false] 53 (fun _ => .bool false) (tri _)
  rw [Go.Deep.nblk_alloc] at rD
  rw [hA] at rA rD
  have p3 := (p2.alloc (.cells #[.pointer none, .pointer none, .pointer none] 45)).alloc (.cells #[.bool false, .bool false, .bool false] 53)
  refine wp_over (fun W => Plot w W L E 4 1 6 20 s 3 Y.new ∧ W.rowIs A 45 3 (fun _ => .pointer none) ∧ W.rowIs (A + 1) 53 3 (fun _ => .bool false) ∧ W.heap.size = A + 1 + 1) ⟨p3, rA.alloc _, rD, by rw [Go.Deep.nblk_alloc, Go.Deep.nblk_alloc, hA]⟩ ?_
  have hEA : Hid (E < A) := by unfold Hid; have := p2.ltE; omega
  have hLA : Hid (∀ k, L.has k → k < A) := fun k hk => by have := p2.mm.lt _ hk; omega
  have hwA : Hid (w.heap.size ≤ A) := by unfold Hid; have := p2.b.size; omega
  clear p3 rA rD p2 p1 pa m1 y1 b1 f1 b2 AR hE hA
  rintro W ⟨p3, rA, rD, zW⟩
  have SA : Hid (LeaveApart w L E A (A + 1) (A + 1 + 1)) := ⟨⟨FA.out, fun hh => by have := hLA.out _ hh; omega, by have := hEA.out; omega, hwA.out, fun k hk => by have := hLA.out _ hk; omega, by have := hEA.out; omega, by omega, by have := hwA.out; omega⟩, fun hh => by have := hLA.out _ hh; omega, by have := hEA.out; omega, by omega, by have := hwA.out; omega, by omega⟩
  have S0 : Hid (Trio w W L E A (A + 1 + 1) 4 1 6 20 s 3 Y.new (fun _ => .nil) ∧ W.rowIs (A + 1) 53 3 (fun _ => .bool false) ∧ A + 1 + 1 ≤ W.heap.size) := ⟨⟨p3, rA, (fun j hj b κ τ e => by cases e), fun i j _ _ _ b κ τ b' κ' τ' e => by cases e⟩, rD, by omega⟩
  clear p3 rA rD hEA hLA hwA FA zW
  obtain ⟨M, hM⟩ : ∃ M, A + 1 + 1 = M := ⟨_, rfl⟩
  rw [hM] at SA S0
  obtain ⟨D, hD⟩ : ∃ D, A + 1 = D := ⟨_, rfl⟩
  rw [hD] at SA S0 ⊢
  clear hM hD
  go_loopw [10] (fun i wr => ∃ (q : Nat) (θ : Nat → Who), q ≤ 3 ∧ i = .int .i64 q ∧ Trio w wr L E A M 4 1 6 20 s 3 Y.new θ ∧ begun κ q θ ∧ wr.rowIs D 53 3 (fun _ => .bool false) ∧ M ≤ wr.heap.size) (fun i _ => 3 - (intOf i).toNat)
  case atStart => exact ⟨0, _, by omega, rfl, S0.out.1, fun j hj => absurd hj (by omega), S0.out.2⟩
  case round =>
    clear S0
    obtain ⟨q, θ, hq3, rfl, T, bg, dr, hM⟩ := hrel
    by_cases hq : q < 3
    · have hq' : (q : Int) < 3 := by omega
      have qa := (T.a.alloc (place0 κ)).cell (i := q) hq
      have qf := (T.a.alloc (place0 κ)).frozen q
      have T1 : Hid (Trio w ((wr.alloc (place0 κ)).setCell ⟨A, q, none⟩ (.pointer (some ⟨wr.heap.size, 0, none⟩))) L E A M 4 1 6 20 s 3 Y.new (upd θ q (.at wr.heap.size κ .see))) := T.start SA.out.ta hM hκ4
      have D1 : Hid (((wr.alloc (place0 κ)).setCell ⟨A, q, none⟩ (.pointer (some ⟨wr.heap.size, 0, none⟩))).rowIs D 53 3 (fun _ => .bool false)) := (dr.alloc _).setOther (fun e => SA.out.ad (by simpa using e.symm)) _
      have M1 : Hid (M ≤ ((wr.alloc (place0 κ)).setCell ⟨A, q, none⟩ (.pointer (some ⟨wr.heap.size, 0, none⟩))).heap.size) := by unfold Hid; rw [Go.Deep.nblk_setCell, Go.Deep.nblk_alloc]; omega
      have B1 : Hid (begun κ q θ) := bg
      clear T dr bg hM
      go_wp2_with (go_at_call 17; refine (newPlace_any κ _).mono ?_; rintro e w5 ⟨rfl, rfl⟩)
      go_roundw
      case rel => exact ⟨q + 1, _, by omega, by go_num, T1.out, B1.out.next, D1.out, M1.out⟩
      case measure => simp [intOf]; omega
    · have hq' : ¬ (q : Int) < 3 := by omega
      obtain rfl : q = 3 := by omega
      obtain ⟨β, T1⟩ := bg.all T
      have S1 : Hid (Leave w wr L E A D M κ 0 s 3 Y.new β (fun _ => .see)) := ⟨T1, dr, _, _, _, _, _, _, _, fair0 κ, near0 _⟩
      clear T T1 bg dr hM hq hq3
      go_wp2
      clear hq'
      go_loopw [11] (fun i wr => ∃ (r : Nat) (s2 : Mm) (σ : Nat) (y : Y) (τ : Nat → Pl), r ≤ 300 ∧ i = .int .i64 r ∧ σ ≤ 3 + r ∧ Leave w wr L E A D M κ r s2 σ y β τ) (fun i _ => 300 - (intOf i).toNat)
      case atStart => exact ⟨0, s, 3, _, _, by omega, rfl, by omega, S1.out⟩
      case round =>
        clear S1
        obtain ⟨r, s2, σ, y, τ, hr300, rfl, hσ, S⟩ := hrel
        by_cases hr' : r < 300
        · have hr3' : (r : Int) < 300 := by omega
          obtain ⟨n0, hn0, hn03, hn0e⟩ := rem3 r
          by_cases hp : r < N ∧ r < 100
          · obtain ⟨hrN, hr1⟩ := hp
            have hrN' : (r : Int) < (N : Int) := by omega
            have hr1' : (r : Int) < 100 := by omega
            obtain ⟨zb, zo, rfl, hz0⟩ := HR.out r hrN
            have hz := keep' S.tr.f.b hz0
            obtain ⟨n, hj1, hj2, hn3, hj3, hj4⟩ := pick3 (z r)
            have hpick : Hid (100 ≤ r → n = r % 3) := fun h => by omega
            have hn3' : (n : Int) < 3 := by omega
            have qd := S.dr.cell (i := n) hn3
            clear hz0
            have SS : Hid (Leave w wr L E A D M κ r s2 σ y β τ) := S
            cases ho : (τ n).over with
            | true =>
              rw [ho] at qd
              have S9 : Hid (Leave w wr L E A D M κ (r + 1) s2 σ y β τ) := S.skip ho hpick.out
              clear S SS
              go_wp2
              go_roundw
              case rel => exact ⟨r + 1, s2, σ, y, τ, by omega, by go_num, by omega, S9.out⟩
              case measure => simp [intOf]; omega
            | false =>
              rw [ho] at qd
              clear S
              obtain ⟨⟨y', τ'⟩, ht⟩ : ∃ p, turn 6 20 κ (base 4 1 6 20) y (τ n) = p := ⟨_, rfl⟩
              obtain ⟨d, hd⟩ : ∃ d, τ'.over = d := ⟨_, rfl⟩
              have HT : Hid (turn 6 20 κ (base 4 1 6 20) y (τ n) = (y', τ')) := ht
              have HO : Hid ((τ n).over = false) := ho
              have HD : Hid (τ'.over = d) := hd
              obtain ⟨⟨cs, hpl⟩, hgd, -, hMb⟩ := SS.out.tr.th n hn3 (β n) κ (τ n) rfl
              have hbE : Hid (¬ stepSet L (β n) D E) := fun hh => by
                have := SA.out.ta.em
                rcases hh with (hh | hh) | hh
                · exact SA.out.ta.pa.e hh
                · omega
                · exact SA.out.ed hh
              have hbA : Hid (¬ stepSet L (β n) D A) := fun hh => by
                have := SA.out.ta.am
                rcases hh with (hh | hh) | hh
                · exact SA.out.ta.al hh
                · omega
                · exact SA.out.ad hh
              have hbD : Hid (¬ (L.and (β n)) D) := fun hh => by
                have := SA.out.dm
                rcases hh with hh | hh
                · exact SA.out.dl hh
                · omega
              clear hpl hgd ht hd ho cs hMb
              go_wp2
              clear qd hz
              obtain ⟨B, hB⟩ : ∃ B, β n = B := ⟨_, rfl⟩
              rw [hB] at hbE hbA hbD
              refine wp_region_phase (Only (stepSet L B D)) Grown (phLeave w L E A D M κ n s2 σ y y' β τ τ') [5, 7] [.val (.int .i64 n), .val (.int .i64 n), .val (.pointer (some ⟨A, n, none⟩)), .val (.pointer (some ⟨B, 0, none⟩)), .val (.agg #[.int .i64 4, .int .i64 1, .int .i64 6, .int .i64 20, .int .i64 100, .int .i64 600, .int .i64 3, .pointer (some ⟨L.p, 0, none⟩), .int .i64 0]), .val (.bool d), .val (.pointer (some ⟨D, n, none⟩)), .that (fun _ _ => True) (fun _ _ _ _ _ => trivial)]
                (by kernel_rfl) (Only.refl _) (fun _ _ _ h k => h.trans k) (fun x y h => Only.ofGrown h) phLeave_grown ⟨SS.out.tr.grown ((Below.refl _ _).drew), SS.out.dr⟩ (by kernel_rfl) (by kernel_rfl) (by kernel_rfl) (by kernel_rfl) (by kernel_rfl) ?_
              simp only [phaseAll, Act.put, List.setIfInBounds_toArray, List.set_cons_zero, List.set_cons_succ]
              refine ⟨?_, ?_, ?_, ?_, ?_, ?_, ?_, ?_, ?_⟩
              · intro w' hR _
                refine Or.inl ⟨rfl, ?_⟩
                go_simp
                exact ⟨Grown.refl _, rfl⟩
              · intro w' hR _
                refine Or.inl ⟨rfl, ?_⟩
                go_simp
                exact ⟨Grown.refl _, rfl⟩
              · intro w' hR _
                refine Or.inl ⟨rfl, ?_⟩
                go_simp
                exact ⟨Grown.refl _, rfl⟩
              · intro w' hR _
                refine Or.inl ⟨rfl, ?_⟩
                have q := (hR.row hbA.out (show wr.drew.rowIs A 45 3 _ from SS.out.tr.a)).cell (i := n) hn3
                simp only [trioOf, Who.v] at q
                rw [hB] at q
                go_simp
                exact ⟨Grown.refl _, rfl⟩
              · intro w' hR _
                refine Or.inl ⟨rfl, ?_⟩
                have vv := ((SS.out.tr.f.v.grown ((Below.refl _ _).drew)).only hR hbE.out)
                have y0 := vv.c0
                have y1 := vv.c1
                have y2 := vv.c2
                have y3 := vv.c3
                have y4 := vv.c4
                have y5 := vv.c5
                have y6 := vv.c6
                have y7 := vv.c7
                have y8 := vv.c8
                go_simp
                exact ⟨Grown.refl _, rfl⟩
              · intro w' hR _ hP
                refine Or.inl ⟨rfl, ?_⟩
                have hP0 : Trio w w' L E A M 4 1 6 20 s2 σ y (trioOf β κ τ) ∧ w'.rowIs D 53 3 (fun j => .bool (τ j).over) := hP
                have hth : trioOf β κ τ n = .at B κ (τ n) := by rw [← hB]; rfl
                go_simp
                refine (hP0.1.step SA.out.ta hn3 hth HO.out (by omega) y' τ' HT.out d HD.out).mono ?_
                rintro e w'' ⟨rfl, s', t', o', -⟩
                rw [← hB, trioOf_upd] at t'
                exact ⟨_, rfl, ⟨o'.mono (fun x _ h => .inl h), ⟨s', t'⟩, o'.row hbD.out hP0.2⟩, rfl⟩
              · intro w' hR _
                refine Or.inl ⟨rfl, ?_⟩
                go_simp
                exact ⟨Grown.refl _, rfl⟩
              · intro w' hR _ hP
                refine Or.inl ⟨rfl, ?_⟩
                obtain ⟨⟨s', k1⟩, k2⟩ : (∃ s', Trio w w' L E A M 4 1 6 20 s' (σ + 1) y' (trioOf β κ (upd τ n τ'))) ∧ w'.rowIs D 53 3 (fun j => .bool (τ j).over) := hP
                have z0 := k2.cell (i := n) hn3
                have z1 := k2.frozen n
                have k3 := (k2.set n (.bool d)).congr (g := fun j => .bool (upd τ n τ' j).over) (fun j _ => by
                  by_cases e : j = n
                  · subst e; rw [upd_same, HD.out]; simp
                  · rw [upd_other _ _ _ _ e, if_neg e])
                have k4 := k1.setLow SA.out.d0 SA.out.ed SA.out.ad SA.out.dl SA.out.dm n (.bool d)
                go_simp
                exact ⟨⟨(Only.refl _ _).setCell (fun _ => .inr rfl) _, ⟨s', k4⟩, k3⟩, trivial⟩
              intro v w5 hR hP _
              obtain ⟨s5, S5⟩ := Leave.next SS.out.fa hn3 HO.out hpick.out HT.out hP
              clear hR hP SS
              go_wp2
              go_roundw
              case rel => exact ⟨r + 1, s5, σ + 1, y', _, by omega, by go_num, by omega, S5⟩
              case measure => simp [intOf]; omega
          · by_cases hrN : r < N
            · have hrN' : (r : Int) < (N : Int) := by omega
              have hr1' : ¬ (r : Int) < 100 := by omega
              obtain ⟨n, hn⟩ : ∃ n, n0 = n := ⟨_, rfl⟩
              rw [hn] at hn0 hn03 hn0e
              have hn3 := hn03
              have hpick : Hid (100 ≤ r → n = r % 3) := fun h => by omega
              have hn3' : (n : Int) < 3 := by omega
              have qd := S.dr.cell (i := n) hn3
              clear hn hn0e
              have SS : Hid (Leave w wr L E A D M κ r s2 σ y β τ) := S
              cases ho : (τ n).over with
              | true =>
                rw [ho] at qd
                have S9 : Hid (Leave w wr L E A D M κ (r + 1) s2 σ y β τ) := S.skip ho hpick.out
                clear S SS
                go_wp2
                go_roundw
                case rel => exact ⟨r + 1, s2, σ, y, τ, by omega, by go_num, by omega, S9.out⟩
                case measure => simp [intOf]; omega
              | false =>
                rw [ho] at qd
                clear S
                obtain ⟨⟨y', τ'⟩, ht⟩ : ∃ p, turn 6 20 κ (base 4 1 6 20) y (τ n) = p := ⟨_, rfl⟩
                obtain ⟨d, hd⟩ : ∃ d, τ'.over = d := ⟨_, rfl⟩
                have HT : Hid (turn 6 20 κ (base 4 1 6 20) y (τ n) = (y', τ')) := ht
                have HO : Hid ((τ n).over = false) := ho
                have HD : Hid (τ'.over = d) := hd
                obtain ⟨⟨cs, hpl⟩, hgd, -, hMb⟩ := SS.out.tr.th n hn3 (β n) κ (τ n) rfl
                have hbE : Hid (¬ stepSet L (β n) D E) := fun hh => by
                  have := SA.out.ta.em
                  rcases hh with (hh | hh) | hh
                  · exact SA.out.ta.pa.e hh
                  · omega
                  · exact SA.out.ed hh
                have hbA : Hid (¬ stepSet L (β n) D A) := fun hh => by
                  have := SA.out.ta.am
                  rcases hh with (hh | hh) | hh
                  · exact SA.out.ta.al hh
                  · omega
                  · exact SA.out.ad hh
                have hbD : Hid (¬ (L.and (β n)) D) := fun hh => by
                  have := SA.out.dm
                  rcases hh with hh | hh
                  · exact SA.out.dl hh
                  · omega
                clear hpl hgd ht hd ho cs hMb
                go_wp2
                clear qd
                obtain ⟨B, hB⟩ : ∃ B, β n = B := ⟨_, rfl⟩
                rw [hB] at hbE hbA hbD
                refine wp_region_phase (Only (stepSet L B D)) Grown (phLeave w L E A D M κ n s2 σ y y' β τ τ') [5, 7] [.val (.int .i64 n), .val (.int .i64 n), .val (.pointer (some ⟨A, n, none⟩)), .val (.pointer (some ⟨B, 0, none⟩)), .val (.agg #[.int .i64 4, .int .i64 1, .int .i64 6, .int .i64 20, .int .i64 100, .int .i64 600, .int .i64 3, .pointer (some ⟨L.p, 0, none⟩), .int .i64 0]), .val (.bool d), .val (.pointer (some ⟨D, n, none⟩)), .that (fun _ _ => True) (fun _ _ _ _ _ => trivial)]
                  (by kernel_rfl) (Only.refl _) (fun _ _ _ h k => h.trans k) (fun x y h => Only.ofGrown h) phLeave_grown ⟨SS.out.tr.grown ((Below.refl _ _).drew), SS.out.dr⟩ (by kernel_rfl) (by kernel_rfl) (by kernel_rfl) (by kernel_rfl) (by kernel_rfl) ?_
                simp only [phaseAll, Act.put, List.setIfInBounds_toArray, List.set_cons_zero, List.set_cons_succ]
                refine ⟨?_, ?_, ?_, ?_, ?_, ?_, ?_, ?_, ?_⟩
                · intro w' hR _
                  refine Or.inl ⟨rfl, ?_⟩
                  go_simp
                  exact ⟨Grown.refl _, rfl⟩
                · intro w' hR _
                  refine Or.inl ⟨rfl, ?_⟩
                  go_simp
                  exact ⟨Grown.refl _, rfl⟩
                · intro w' hR _
                  refine Or.inl ⟨rfl, ?_⟩
                  go_simp
                  exact ⟨Grown.refl _, rfl⟩
                · intro w' hR _
                  refine Or.inl ⟨rfl, ?_⟩
                  have q := (hR.row hbA.out (show wr.drew.rowIs A 45 3 _ from SS.out.tr.a)).cell (i := n) hn3
                  simp only [trioOf, Who.v] at q
                  rw [hB] at q
                  go_simp
                  exact ⟨Grown.refl _, rfl⟩
                · intro w' hR _
                  refine Or.inl ⟨rfl, ?_⟩
                  have vv := ((SS.out.tr.f.v.grown ((Below.refl _ _).drew)).only hR hbE.out)
                  have y0 := vv.c0
                  have y1 := vv.c1
                  have y2 := vv.c2
                  have y3 := vv.c3
                  have y4 := vv.c4
                  have y5 := vv.c5
                  have y6 := vv.c6
                  have y7 := vv.c7
                  have y8 := vv.c8
                  go_simp
                  exact ⟨Grown.refl _, rfl⟩
                · intro w' hR _ hP
                  refine Or.inl ⟨rfl, ?_⟩
                  have hP0 : Trio w w' L E A M 4 1 6 20 s2 σ y (trioOf β κ τ) ∧ w'.rowIs D 53 3 (fun j => .bool (τ j).over) := hP
                  have hth : trioOf β κ τ n = .at B κ (τ n) := by rw [← hB]; rfl
                  go_simp
                  refine (hP0.1.step SA.out.ta hn3 hth HO.out (by omega) y' τ' HT.out d HD.out).mono ?_
                  rintro e w'' ⟨rfl, s', t', o', -⟩
                  rw [← hB, trioOf_upd] at t'
                  exact ⟨_, rfl, ⟨o'.mono (fun x _ h => .inl h), ⟨s', t'⟩, o'.row hbD.out hP0.2⟩, rfl⟩
                · intro w' hR _
                  refine Or.inl ⟨rfl, ?_⟩
                  go_simp
                  exact ⟨Grown.refl _, rfl⟩
                · intro w' hR _ hP
                  refine Or.inl ⟨rfl, ?_⟩
                  obtain ⟨⟨s', k1⟩, k2⟩ : (∃ s', Trio w w' L E A M 4 1 6 20 s' (σ + 1) y' (trioOf β κ (upd τ n τ'))) ∧ w'.rowIs D 53 3 (fun j => .bool (τ j).over) := hP
                  have z0 := k2.cell (i := n) hn3
                  have z1 := k2.frozen n
                  have k3 := (k2.set n (.bool d)).congr (g := fun j => .bool (upd τ n τ' j).over) (fun j _ => by
                    by_cases e : j = n
                    · subst e; rw [upd_same, HD.out]; simp
                    · rw [upd_other _ _ _ _ e, if_neg e])
                  have k4 := k1.setLow SA.out.d0 SA.out.ed SA.out.ad SA.out.dl SA.out.dm n (.bool d)
                  go_simp
                  exact ⟨⟨(Only.refl _ _).setCell (fun _ => .inr rfl) _, ⟨s', k4⟩, k3⟩, trivial⟩
                intro v w5 hR hP _
                obtain ⟨s5, S5⟩ := Leave.next SS.out.fa hn3 HO.out hpick.out HT.out hP
                clear hR hP SS
                go_wp2
                go_roundw
                case rel => exact ⟨r + 1, s5, σ + 1, y', _, by omega, by go_num, by omega, S5⟩
                case measure => simp [intOf]; omega
            · have hrN' : ¬ (r : Int) < (N : Int) := by omega
              obtain ⟨n, hn⟩ : ∃ n, n0 = n := ⟨_, rfl⟩
              rw [hn] at hn0 hn03 hn0e
              have hn3 := hn03
              have hpick : Hid (100 ≤ r → n = r % 3) := fun h => by omega
              have hn3' : (n : Int) < 3 := by omega
              have qd := S.dr.cell (i := n) hn3
              clear hn hn0e
              have SS : Hid (Leave w wr L E A D M κ r s2 σ y β τ) := S
              cases ho : (τ n).over with
              | true =>
                rw [ho] at qd
                have S9 : Hid (Leave w wr L E A D M κ (r + 1) s2 σ y β τ) := S.skip ho hpick.out
                clear S SS
                go_wp2
                go_roundw
                case rel => exact ⟨r + 1, s2, σ, y, τ, by omega, by go_num, by omega, S9.out⟩
                case measure => simp [intOf]; omega
              | false =>
                rw [ho] at qd
                clear S
                obtain ⟨⟨y', τ'⟩, ht⟩ : ∃ p, turn 6 20 κ (base 4 1 6 20) y (τ n) = p := ⟨_, rfl⟩
                obtain ⟨d, hd⟩ : ∃ d, τ'.over = d := ⟨_, rfl⟩
                have HT : Hid (turn 6 20 κ (base 4 1 6 20) y (τ n) = (y', τ')) := ht
                have HO : Hid ((τ n).over = false) := ho
                have HD : Hid (τ'.over = d) := hd
                obtain ⟨⟨cs, hpl⟩, hgd, -, hMb⟩ := SS.out.tr.th n hn3 (β n) κ (τ n) rfl
                have hbE : Hid (¬ stepSet L (β n) D E) := fun hh => by
                  have := SA.out.ta.em
                  rcases hh with (hh | hh) | hh
                  · exact SA.out.ta.pa.e hh
                  · omega
                  · exact SA.out.ed hh
                have hbA : Hid (¬ stepSet L (β n) D A) := fun hh => by
                  have := SA.out.ta.am
                  rcases hh with (hh | hh) | hh
                  · exact SA.out.ta.al hh
                  · omega
                  · exact SA.out.ad hh
                have hbD : Hid (¬ (L.and (β n)) D) := fun hh => by
                  have := SA.out.dm
                  rcases hh with hh | hh
                  · exact SA.out.dl hh
                  · omega
                clear hpl hgd ht hd ho cs hMb
                go_wp2
                clear qd
                obtain ⟨B, hB⟩ : ∃ B, β n = B := ⟨_, rfl⟩
                rw [hB] at hbE hbA hbD
                refine wp_region_phase (Only (stepSet L B D)) Grown (phLeave w L E A D M κ n s2 σ y y' β τ τ') [5, 7] [.val (.int .i64 n), .val (.int .i64 n), .val (.pointer (some ⟨A, n, none⟩)), .val (.pointer (some ⟨B, 0, none⟩)), .val (.agg #[.int .i64 4, .int .i64 1, .int .i64 6, .int .i64 20, .int .i64 100, .int .i64 600, .int .i64 3, .pointer (some ⟨L.p, 0, none⟩), .int .i64 0]), .val (.bool d), .val (.pointer (some ⟨D, n, none⟩)), .that (fun _ _ => True) (fun _ _ _ _ _ => trivial)]
                  (by kernel_rfl) (Only.refl _) (fun _ _ _ h k => h.trans k) (fun x y h => Only.ofGrown h) phLeave_grown ⟨SS.out.tr.grown ((Below.refl _ _).drew), SS.out.dr⟩ (by kernel_rfl) (by kernel_rfl) (by kernel_rfl) (by kernel_rfl) (by kernel_rfl) ?_
                simp only [phaseAll, Act.put, List.setIfInBounds_toArray, List.set_cons_zero, List.set_cons_succ]
                refine ⟨?_, ?_, ?_, ?_, ?_, ?_, ?_, ?_, ?_⟩
                · intro w' hR _
                  refine Or.inl ⟨rfl, ?_⟩
                  go_simp
                  exact ⟨Grown.refl _, rfl⟩
                · intro w' hR _
                  refine Or.inl ⟨rfl, ?_⟩
                  go_simp
                  exact ⟨Grown.refl _, rfl⟩
                · intro w' hR _
                  refine Or.inl ⟨rfl, ?_⟩
                  go_simp
                  exact ⟨Grown.refl _, rfl⟩
                · intro w' hR _
                  refine Or.inl ⟨rfl, ?_⟩
                  have q := (hR.row hbA.out (show wr.drew.rowIs A 45 3 _ from SS.out.tr.a)).cell (i := n) hn3
                  simp only [trioOf, Who.v] at q
                  rw [hB] at q
                  go_simp
                  exact ⟨Grown.refl _, rfl⟩
                · intro w' hR _
                  refine Or.inl ⟨rfl, ?_⟩
                  have vv := ((SS.out.tr.f.v.grown ((Below.refl _ _).drew)).only hR hbE.out)
                  have y0 := vv.c0
                  have y1 := vv.c1
                  have y2 := vv.c2
                  have y3 := vv.c3
                  have y4 := vv.c4
                  have y5 := vv.c5
                  have y6 := vv.c6
                  have y7 := vv.c7
                  have y8 := vv.c8
                  go_simp
                  exact ⟨Grown.refl _, rfl⟩
                · intro w' hR _ hP
                  refine Or.inl ⟨rfl, ?_⟩
                  have hP0 : Trio w w' L E A M 4 1 6 20 s2 σ y (trioOf β κ τ) ∧ w'.rowIs D 53 3 (fun j => .bool (τ j).over) := hP
                  have hth : trioOf β κ τ n = .at B κ (τ n) := by rw [← hB]; rfl
                  go_simp
                  refine (hP0.1.step SA.out.ta hn3 hth HO.out (by omega) y' τ' HT.out d HD.out).mono ?_
                  rintro e w'' ⟨rfl, s', t', o', -⟩
                  rw [← hB, trioOf_upd] at t'
                  exact ⟨_, rfl, ⟨o'.mono (fun x _ h => .inl h), ⟨s', t'⟩, o'.row hbD.out hP0.2⟩, rfl⟩
                · intro w' hR _
                  refine Or.inl ⟨rfl, ?_⟩
                  go_simp
                  exact ⟨Grown.refl _, rfl⟩
                · intro w' hR _ hP
                  refine Or.inl ⟨rfl, ?_⟩
                  obtain ⟨⟨s', k1⟩, k2⟩ : (∃ s', Trio w w' L E A M 4 1 6 20 s' (σ + 1) y' (trioOf β κ (upd τ n τ'))) ∧ w'.rowIs D 53 3 (fun j => .bool (τ j).over) := hP
                  have z0 := k2.cell (i := n) hn3
                  have z1 := k2.frozen n
                  have k3 := (k2.set n (.bool d)).congr (g := fun j => .bool (upd τ n τ' j).over) (fun j _ => by
                    by_cases e : j = n
                    · subst e; rw [upd_same, HD.out]; simp
                    · rw [upd_other _ _ _ _ e, if_neg e])
                  have k4 := k1.setLow SA.out.d0 SA.out.ed SA.out.ad SA.out.dl SA.out.dm n (.bool d)
                  go_simp
                  exact ⟨⟨(Only.refl _ _).setCell (fun _ => .inr rfl) _, ⟨s', k4⟩, k3⟩, trivial⟩
                intro v w5 hR hP _
                obtain ⟨s5, S5⟩ := Leave.next SS.out.fa hn3 HO.out hpick.out HT.out hP
                clear hR hP SS
                go_wp2
                go_roundw
                case rel => exact ⟨r + 1, s5, σ + 1, y', _, by omega, by go_num, by omega, S5⟩
                case measure => simp [intOf]; omega
        · have hr3' : ¬ (r : Int) < 300 := by omega
          obtain rfl : r = 300 := by omega
          obtain ⟨o, sq, g, W', s', t', P, fr, nr⟩ := S.fa
          have hov := nr.ends
          obtain ⟨i0, hop, hi0, hst, hcl, hfull, hsum⟩ := fr.ends hov
          have d0 := S.dr.cell (i := 0) (by omega)
          have d1 := S.dr.cell (i := 1) (by omega)
          have d2 := S.dr.cell (i := 2) (by omega)
          rw [hov 0 (by omega)] at d0
          rw [hov 1 (by omega)] at d1
          rw [hov 2 (by omega)] at d2
          have F0 : Hid (Plot w wr L E 4 1 6 20 s2 σ y) := S.tr.f
          have HST : Hid ((y.ck i0).st = 1) := hst
          have HCL : Hid ((y.ck i0).cl = κ) := hcl
          have HFU : Hid (∀ i, i < 6 → i ≠ i0 → (y.ck i).st = 1 → 20 < (y.ck i).us + room κ) := hfull
          have HSU : Hid (sumTo (usOf y) 6 = 3 * room κ) := by unfold Hid; rw [sumTo6]; exact hsum
          have hwd : s2.wd (2 + κ) = (i0 : Int) + 1 := by have := F0.out.yd.opv κ hκ4; rw [this, hop]; omega
          have hln := F0.out.yd.len
          have hlt0 : Hid (2 + κ < s2.n) := by unfold Hid; omega
          have lo : ∀ w, Calls Try.prog 21 #[.int .i64 κ] w fun e w' => e = .returned (.int .i64 ((2 + κ : Nat) : Int)) ∧ w' = w := fun w => by
            have := lopen_any (κ : Int) w (by omega) (by omega)
            rwa [show (2 : Int) + (κ : Int) = ((2 + κ : Nat) : Int) by omega] at this
          obtain ⟨Ao, hAo⟩ : ∃ Ao, 2 + κ = Ao := ⟨_, rfl⟩
          rw [hAo] at lo hwd hlt0
          have HWD : Hid (s2.wd Ao = (i0 : Int) + 1) := hwd
          clear S fr nr hov hop hst hcl hfull hsum hwd hln hAo
          go_wp2
          refine wp_over (fun W => Plot w W L E 4 1 6 20 s2 σ y) F0.out ?_
          clear d0 d1 d2 F0
          rintro W f
          have e0 := fun N : Later W => (f.v.grown N.below).c0
          have e1 := fun N : Later W => (f.v.grown N.below).c1
          have e2 := fun N : Later W => (f.v.grown N.below).c2
          have e3 := fun N : Later W => (f.v.grown N.below).c3
          have e4 := fun N : Later W => (f.v.grown N.below).c4
          have e5 := fun N : Later W => (f.v.grown N.below).c5
          have e6 := fun N : Later W => (f.v.grown N.below).c6
          have e7 := fun N : Later W => (f.v.grown N.below).c7
          have e8 := fun N : Later W => (f.v.grown N.below).c8
          haveI := Later.exists W
          refine wp_region_later (by kernel_rfl) (by kernel_rfl) ?_
          repeat (go_big_quiet_step (first
            | (go_at_call 21; exact Calls.later_same (lo _))
            | (go_at_call 14; exact Calls.later_same (peek_is (f.mm.below (Later.below _)) Ao hlt0.out _ HWD.out))))
          refine wpQuiet_nil ?_
          rintro _ ⟨nq, rfl⟩
          clear e0 e1 e2 e3 e4 e5 e6 e7 e8
          have F1 : Hid (Plot w nq.now L E 4 1 6 20 s2 σ y) := f.grown nq.below
          clear f lo
          go_wp2
          go_loopw [14, 15] (fun uv j wr => ∃ q : Nat, q ≤ 6 ∧ j = .int .i64 q ∧ uv = .int .i64 (sumTo (usOf y) q : Nat) ∧ Plot w wr L E 4 1 6 20 s2 σ y) (fun _ j _ => 6 - (intOf j).toNat)
          case atStart => exact ⟨0, by omega, rfl, rfl, F1.out⟩
          case round =>
            clear F1
            obtain ⟨q, hq6, rfl, rfl, f⟩ := hrel
            by_cases hq : q < 6
            · have hq' : (q : Int) < 6 := by omega
              have hsb : sumTo (usOf y) q ≤ 6000 := by
                have hu : ∀ i, i < 6 → usOf y i ≤ 1000 := fun i hi => (f.yd.ok i hi).us
                have : ∀ q, q ≤ 6 → sumTo (usOf y) q ≤ 1000 * q := fun q => by
                  induction q with
                  | zero => intro _; simp [sumTo]
                  | succ q ih => intro h; have h1 := ih (by omega); have h2 := hu q (by omega); simp only [sumTo]; omega
                have := this q hq6
                omega
              obtain ⟨C, hC⟩ : ∃ C, y.ck q = C := ⟨_, rfl⟩
              have HCk : Hid (y.ck q = C) := hC
              have hok := f.yd.ok q hq
              have hwd := f.yd.ckv q hq
              rw [hC] at hok hwd
              have hub := hok.us
              have hln := f.yd.len
              have hlt : Hid (6 + 4 + 1 * 2 + q * 3 < s2.n) := by unfold Hid; omega
              have HW : Hid (s2.wd (6 + 4 + 1 * 2 + q * 3) = C.w) := hwd
              have cw := fun w => chunk_w C σ hok (by omega) w
              have lc := fun w => lchunk_any 4 1 6 20 100 600 3 q w HG.out.arena (by omega) (by omega)
              have hlc : (6 : Int) + 4 + 1 * 2 + (q : Int) * 3 = ((6 + 4 + 1 * 2 + q * 3 : Nat) : Int) := by omega
              rw [hlc] at lc
              obtain ⟨Z, hZ⟩ : ∃ Z, C.w = Z := ⟨_, rfl⟩
              rw [hZ] at cw HW
              obtain ⟨Ad, hAd⟩ : ∃ Ad, 6 + 4 + 1 * 2 + q * 3 = Ad := ⟨_, rfl⟩
              rw [hAd] at lc HW hlt
              have F2 : Hid (Plot w wr L E 4 1 6 20 s2 σ y) := f
              have HS : Hid (∃ S, wr.heap.size = S) := ⟨_, rfl⟩
              clear hC hok hwd hln hlc hZ hAd f
              go_wp2
              refine wp_over (fun W => Plot w W L E 4 1 6 20 s2 σ y) F2.out ?_
              clear F2 HS
              rintro W f
              obtain ⟨Sz, hSz⟩ : ∃ Sz, W.heap.size = Sz := ⟨_, rfl⟩
              by_cases hqi : q = i0
              · -- the open one
                have h1 : C.st = 1 := by rw [← HCk.out, hqi]; exact HST.out
                have h2 : C.cl = κ := by rw [← HCk.out, hqi]; exact HCL.out
                rw [h1, h2] at cw
                have hqe : ((q : Int) == (i0 : Int)) = true := by simp; omega
                have hqn : ((q : Int) != (i0 : Int)) = false := by simp; omega
                clear hqi
                refine wp_region_rely_tail Grown 9 [.val (.pointer (some ⟨E, 7, none⟩)), .val (.pointer (some ⟨L.p, 0, none⟩)), .val (.pointer (some ⟨E, 0, none⟩)), .val (.agg #[.int .i64 4, .int .i64 1, .int .i64 6, .int .i64 20, .int .i64 100, .int .i64 600, .int .i64 3]), .val (.int .i64 q), .val (.int .i64 Ad), .val (.int .u64 Z), .val (.agg #[.int .i64 1, .int .i64 κ, .int .i64 C.us, .int .i64 C.sp]), .that (fun w' v => ∃ X, v = .pointer (some ⟨X, 0, none⟩) ∧ Sz ≤ X ∧ At w' X 0 39 #[.int .i64 0, .int .i64 0, .int .i64 0, .int .i64 0] [.int .i64 0, .int .i64 0, .int .i64 0, .int .i64 0]) ?_] (by kernel_rfl) Grown.refl Grown.trans (by decide) (by kernel_rfl) (by kernel_rfl) (by kernel_rfl) (by kernel_rfl) (by kernel_rfl) (by kernel_rfl) ?_
                · rintro x1 y1 v hg ⟨X, hv, hb, hr⟩
                  exact ⟨X, hv, hb, hr.grown hg⟩
                simp only [List.take_succ_cons, List.take_zero, relyAll, Act.put, List.setIfInBounds_toArray, List.set_cons_zero, List.set_cons_succ]
                refine ⟨?_, ?_, ?_, ?_, ?_, ?_, ?_, ?_, ?_, ?_⟩
                · intro w' hg _
                  refine Or.inl ⟨rfl, ?_⟩
                  go_simp
                  exact ⟨Grown.refl _, rfl⟩
                · intro w' hg _
                  refine Or.inl ⟨rfl, ?_⟩
                  have y7 := (f.drew.grown hg).v.c7
                  go_simp
                  exact ⟨Grown.refl _, rfl⟩
                · intro w' hg _
                  refine Or.inl ⟨rfl, ?_⟩
                  go_simp
                  exact ⟨Grown.refl _, rfl⟩
                · intro w' hg _
                  refine Or.inl ⟨rfl, ?_⟩
                  have vv := (f.drew.grown hg).v
                  have y0 := vv.c0
                  have y1 := vv.c1
                  have y2 := vv.c2
                  have y3 := vv.c3
                  have y4 := vv.c4
                  have y5 := vv.c5
                  have y6 := vv.c6
                  go_simp
                  exact ⟨Grown.refl _, rfl⟩
                · intro w' hg _
                  refine Or.inl ⟨rfl, ?_⟩
                  go_simp
                  exact ⟨Grown.refl _, rfl⟩
                · intro w' hg _
                  refine Or.inl ⟨rfl, ?_⟩
                  go_simp
                  refine (lc _).mono ?_
                  rintro e w'' ⟨rfl, b9⟩
                  exact ⟨_, rfl, b9, rfl⟩
                · intro w' hg _
                  refine Or.inl ⟨rfl, ?_⟩
                  go_simp
                  refine (peek_is (f.drew.grown hg).mm Ad hlt.out Z HW.out).mono ?_
                  rintro e w'' ⟨rfl, rfl⟩
                  exact ⟨_, rfl, Grown.refl _, rfl⟩
                · intro w' hg _
                  refine Or.inl ⟨rfl, ?_⟩
                  go_simp
                  refine (cw _).mono ?_
                  rintro e w'' ⟨rfl, b9⟩
                  exact ⟨_, rfl, b9, rfl⟩
                · intro w' hg _
                  refine Or.inl ⟨rfl, ?_⟩
                  have hz : Sz ≤ w'.heap.size := by have := hg.size; have e : W.drew.heap.size = W.heap.size := rfl; omega
                  have q := At.new w' 39 [.int .i64 0, .int .i64 0, .int .i64 0, .int .i64 0]
                  go_simp
                  exact ⟨grow_alloc (Below.refl _ _) _, _, rfl, hz, q⟩
                intro vX w8 hg hf
                obtain ⟨X, rfl, hXS, q8⟩ := hf.1
                have f8 := f.drew.grown hg
                have hXE : E ≠ X := by have := f.ltE; omega
                have hXL : ¬ L.has X := fun hh => by have := f.mm.lt _ hh; omega
                have hXw : w.heap.size ≤ X := by have := f.b.size; omega
                have q0 := q8.at0 0 rfl
                have q1 := q8.at0 1 rfl
                have q2 := q8.at0 2 rfl
                have q3 := q8.at0 3 rfl
                have qf := q8.fz
                have f9 := (((f8.setIn hXw hXE hXL 0 (.int .i64 1)).setIn hXw hXE hXL 1 (.int .i64 κ)).setIn hXw hXE hXL 2 (.int .i64 C.us)).setIn hXw hXE hXL 3 (.int .i64 C.sp)
                have q9 := (((q8.put0 0 (.int .i64 1)).put0 1 (.int .i64 κ)).put0 2 (.int .i64 C.us)).put0 3 (.int .i64 C.sp)
                have c2 := q9.at0 2 rfl
                clear hf hg f cw lc HW hlt hXE hXL hXw hXS hSz f8
                go_wp2
                refine wp_over (fun W => Plot w W L E 4 1 6 20 s2 σ y ∧ At W X 0 39 _ [.int .i64 1, .int .i64 κ, .int .i64 C.us, .int .i64 C.sp]) ⟨f9, q9⟩ ?_
                clear q8 q0 q1 q2 q3 qf f9 q9 c2
                rintro W2 ⟨f, ch⟩
                have g0 := fun N : Later W2 => (ch.grown N.below).at0 0 rfl
                have g1 := fun N : Later W2 => (ch.grown N.below).at0 1 rfl
                have g2 := fun N : Later W2 => (ch.grown N.below).at0 2 rfl
                have e0 := fun N : Later W2 => (f.v.grown N.below).c0
                have e1 := fun N : Later W2 => (f.v.grown N.below).c1
                have e2 := fun N : Later W2 => (f.v.grown N.below).c2
                have e3 := fun N : Later W2 => (f.v.grown N.below).c3
                have e4 := fun N : Later W2 => (f.v.grown N.below).c4
                have e5 := fun N : Later W2 => (f.v.grown N.below).c5
                have e6 := fun N : Later W2 => (f.v.grown N.below).c6
                have e7 := fun N : Later W2 => (f.v.grown N.below).c7
                have e8 := fun N : Later W2 => (f.v.grown N.below).c8
                haveI := Later.exists W2
                refine wp_region_later (by kernel_rfl) (by kernel_rfl) ?_
                repeat (go_big_quiet_step ((go_at_call 10; exact Calls.later (rroom_v κ hκ4 _))))
                refine wpQuiet_nil ?_
                rintro _ ⟨nq, rfl⟩
                clear e0 e1 e2 e3 e4 e5 e6 e7 e8
                clear g0 g1 g2
                go_wp2
                go_roundw
                case rel => exact ⟨q + 1, by omega, by go_num, by show Value.int _ _ = Value.int _ _; congr 1; simp only [sumTo, usOf]; rw [HCk.out]; omega, f.grown nq.below⟩
                case measure => simp [intOf]; omega
              · by_cases hs1 : C.st = 1
                · -- a full one
                  have hrb := room_bd κ
                  have hus : ¬ (C.us : Int) + (room κ : Int) ≤ 20 := by have := HFU.out q hq hqi (by rw [HCk.out]; exact hs1); rw [HCk.out] at this; omega
                  rw [hs1] at cw
                  have hqe : ((q : Int) == (i0 : Int)) = false := by simp; omega
                  have hqn : ((q : Int) != (i0 : Int)) = true := by simp; omega
                  clear hqi
                  refine wp_region_rely_tail Grown 9 [.val (.pointer (some ⟨E, 7, none⟩)), .val (.pointer (some ⟨L.p, 0, none⟩)), .val (.pointer (some ⟨E, 0, none⟩)), .val (.agg #[.int .i64 4, .int .i64 1, .int .i64 6, .int .i64 20, .int .i64 100, .int .i64 600, .int .i64 3]), .val (.int .i64 q), .val (.int .i64 Ad), .val (.int .u64 Z), .val (.agg #[.int .i64 1, .int .i64 C.cl, .int .i64 C.us, .int .i64 C.sp]), .that (fun w' v => ∃ X, v = .pointer (some ⟨X, 0, none⟩) ∧ Sz ≤ X ∧ At w' X 0 39 #[.int .i64 0, .int .i64 0, .int .i64 0, .int .i64 0] [.int .i64 0, .int .i64 0, .int .i64 0, .int .i64 0]) ?_] (by kernel_rfl) Grown.refl Grown.trans (by decide) (by kernel_rfl) (by kernel_rfl) (by kernel_rfl) (by kernel_rfl) (by kernel_rfl) (by kernel_rfl) ?_
                  · rintro x1 y1 v hg ⟨X, hv, hb, hr⟩
                    exact ⟨X, hv, hb, hr.grown hg⟩
                  simp only [List.take_succ_cons, List.take_zero, relyAll, Act.put, List.setIfInBounds_toArray, List.set_cons_zero, List.set_cons_succ]
                  refine ⟨?_, ?_, ?_, ?_, ?_, ?_, ?_, ?_, ?_, ?_⟩
                  · intro w' hg _
                    refine Or.inl ⟨rfl, ?_⟩
                    go_simp
                    exact ⟨Grown.refl _, rfl⟩
                  · intro w' hg _
                    refine Or.inl ⟨rfl, ?_⟩
                    have y7 := (f.drew.grown hg).v.c7
                    go_simp
                    exact ⟨Grown.refl _, rfl⟩
                  · intro w' hg _
                    refine Or.inl ⟨rfl, ?_⟩
                    go_simp
                    exact ⟨Grown.refl _, rfl⟩
                  · intro w' hg _
                    refine Or.inl ⟨rfl, ?_⟩
                    have vv := (f.drew.grown hg).v
                    have y0 := vv.c0
                    have y1 := vv.c1
                    have y2 := vv.c2
                    have y3 := vv.c3
                    have y4 := vv.c4
                    have y5 := vv.c5
                    have y6 := vv.c6
                    go_simp
                    exact ⟨Grown.refl _, rfl⟩
                  · intro w' hg _
                    refine Or.inl ⟨rfl, ?_⟩
                    go_simp
                    exact ⟨Grown.refl _, rfl⟩
                  · intro w' hg _
                    refine Or.inl ⟨rfl, ?_⟩
                    go_simp
                    refine (lc _).mono ?_
                    rintro e w'' ⟨rfl, b9⟩
                    exact ⟨_, rfl, b9, rfl⟩
                  · intro w' hg _
                    refine Or.inl ⟨rfl, ?_⟩
                    go_simp
                    refine (peek_is (f.drew.grown hg).mm Ad hlt.out Z HW.out).mono ?_
                    rintro e w'' ⟨rfl, rfl⟩
                    exact ⟨_, rfl, Grown.refl _, rfl⟩
                  · intro w' hg _
                    refine Or.inl ⟨rfl, ?_⟩
                    go_simp
                    refine (cw _).mono ?_
                    rintro e w'' ⟨rfl, b9⟩
                    exact ⟨_, rfl, b9, rfl⟩
                  · intro w' hg _
                    refine Or.inl ⟨rfl, ?_⟩
                    have hz : Sz ≤ w'.heap.size := by have := hg.size; have e : W.drew.heap.size = W.heap.size := rfl; omega
                    have q := At.new w' 39 [.int .i64 0, .int .i64 0, .int .i64 0, .int .i64 0]
                    go_simp
                    exact ⟨grow_alloc (Below.refl _ _) _, _, rfl, hz, q⟩
                  intro vX w8 hg hf
                  obtain ⟨X, rfl, hXS, q8⟩ := hf.1
                  have f8 := f.drew.grown hg
                  have hXE : E ≠ X := by have := f.ltE; omega
                  have hXL : ¬ L.has X := fun hh => by have := f.mm.lt _ hh; omega
                  have hXw : w.heap.size ≤ X := by have := f.b.size; omega
                  have q0 := q8.at0 0 rfl
                  have q1 := q8.at0 1 rfl
                  have q2 := q8.at0 2 rfl
                  have q3 := q8.at0 3 rfl
                  have qf := q8.fz
                  have f9 := (((f8.setIn hXw hXE hXL 0 (.int .i64 1)).setIn hXw hXE hXL 1 (.int .i64 C.cl)).setIn hXw hXE hXL 2 (.int .i64 C.us)).setIn hXw hXE hXL 3 (.int .i64 C.sp)
                  have q9 := (((q8.put0 0 (.int .i64 1)).put0 1 (.int .i64 C.cl)).put0 2 (.int .i64 C.us)).put0 3 (.int .i64 C.sp)
                  have c2 := q9.at0 2 rfl
                  clear hf hg f cw lc HW hlt hXE hXL hXw hXS hSz f8
                  go_wp2
                  refine wp_over (fun W => Plot w W L E 4 1 6 20 s2 σ y ∧ At W X 0 39 _ [.int .i64 1, .int .i64 C.cl, .int .i64 C.us, .int .i64 C.sp]) ⟨f9, q9⟩ ?_
                  clear q8 q0 q1 q2 q3 qf f9 q9 c2
                  rintro W2 ⟨f, ch⟩
                  have g0 := fun N : Later W2 => (ch.grown N.below).at0 0 rfl
                  have g1 := fun N : Later W2 => (ch.grown N.below).at0 1 rfl
                  have g2 := fun N : Later W2 => (ch.grown N.below).at0 2 rfl
                  have e0 := fun N : Later W2 => (f.v.grown N.below).c0
                  have e1 := fun N : Later W2 => (f.v.grown N.below).c1
                  have e2 := fun N : Later W2 => (f.v.grown N.below).c2
                  have e3 := fun N : Later W2 => (f.v.grown N.below).c3
                  have e4 := fun N : Later W2 => (f.v.grown N.below).c4
                  have e5 := fun N : Later W2 => (f.v.grown N.below).c5
                  have e6 := fun N : Later W2 => (f.v.grown N.below).c6
                  have e7 := fun N : Later W2 => (f.v.grown N.below).c7
                  have e8 := fun N : Later W2 => (f.v.grown N.below).c8
                  haveI := Later.exists W2
                  refine wp_region_later (by kernel_rfl) (by kernel_rfl) ?_
                  repeat (go_big_quiet_step ((go_at_call 10; exact Calls.later (rroom_v κ hκ4 _))))
                  refine wpQuiet_nil ?_
                  rintro _ ⟨nq, rfl⟩
                  clear e0 e1 e2 e3 e4 e5 e6 e7 e8
                  clear g0 g1 g2
                  go_wp2
                  go_roundw
                  case rel => exact ⟨q + 1, by omega, by go_num, by show Value.int _ _ = Value.int _ _; congr 1; simp only [sumTo, usOf]; rw [HCk.out]; omega, f.grown nq.below⟩
                  case measure => simp [intOf]; omega
                · -- a free one
                  have hs2 : ((C.st : Int) == 1) = false := by simp; omega
                  have hqe : ((q : Int) == (i0 : Int)) = false := by simp; omega
                  have hqn : ((q : Int) != (i0 : Int)) = true := by simp; omega
                  clear hqi
                  refine wp_region_rely_tail Grown 9 [.val (.pointer (some ⟨E, 7, none⟩)), .val (.pointer (some ⟨L.p, 0, none⟩)), .val (.pointer (some ⟨E, 0, none⟩)), .val (.agg #[.int .i64 4, .int .i64 1, .int .i64 6, .int .i64 20, .int .i64 100, .int .i64 600, .int .i64 3]), .val (.int .i64 q), .val (.int .i64 Ad), .val (.int .u64 Z), .val (.agg #[.int .i64 C.st, .int .i64 C.cl, .int .i64 C.us, .int .i64 C.sp]), .that (fun w' v => ∃ X, v = .pointer (some ⟨X, 0, none⟩) ∧ Sz ≤ X ∧ At w' X 0 39 #[.int .i64 0, .int .i64 0, .int .i64 0, .int .i64 0] [.int .i64 0, .int .i64 0, .int .i64 0, .int .i64 0]) ?_] (by kernel_rfl) Grown.refl Grown.trans (by decide) (by kernel_rfl) (by kernel_rfl) (by kernel_rfl) (by kernel_rfl) (by kernel_rfl) (by kernel_rfl) ?_
                  · rintro x1 y1 v hg ⟨X, hv, hb, hr⟩
                    exact ⟨X, hv, hb, hr.grown hg⟩
                  simp only [List.take_succ_cons, List.take_zero, relyAll, Act.put, List.setIfInBounds_toArray, List.set_cons_zero, List.set_cons_succ]
                  refine ⟨?_, ?_, ?_, ?_, ?_, ?_, ?_, ?_, ?_, ?_⟩
                  · intro w' hg _
                    refine Or.inl ⟨rfl, ?_⟩
                    go_simp
                    exact ⟨Grown.refl _, rfl⟩
                  · intro w' hg _
                    refine Or.inl ⟨rfl, ?_⟩
                    have y7 := (f.drew.grown hg).v.c7
                    go_simp
                    exact ⟨Grown.refl _, rfl⟩
                  · intro w' hg _
                    refine Or.inl ⟨rfl, ?_⟩
                    go_simp
                    exact ⟨Grown.refl _, rfl⟩
                  · intro w' hg _
                    refine Or.inl ⟨rfl, ?_⟩
                    have vv := (f.drew.grown hg).v
                    have y0 := vv.c0
                    have y1 := vv.c1
                    have y2 := vv.c2
                    have y3 := vv.c3
                    have y4 := vv.c4
                    have y5 := vv.c5
                    have y6 := vv.c6
                    go_simp
                    exact ⟨Grown.refl _, rfl⟩
                  · intro w' hg _
                    refine Or.inl ⟨rfl, ?_⟩
                    go_simp
                    exact ⟨Grown.refl _, rfl⟩
                  · intro w' hg _
                    refine Or.inl ⟨rfl, ?_⟩
                    go_simp
                    refine (lc _).mono ?_
                    rintro e w'' ⟨rfl, b9⟩
                    exact ⟨_, rfl, b9, rfl⟩
                  · intro w' hg _
                    refine Or.inl ⟨rfl, ?_⟩
                    go_simp
                    refine (peek_is (f.drew.grown hg).mm Ad hlt.out Z HW.out).mono ?_
                    rintro e w'' ⟨rfl, rfl⟩
                    exact ⟨_, rfl, Grown.refl _, rfl⟩
                  · intro w' hg _
                    refine Or.inl ⟨rfl, ?_⟩
                    go_simp
                    refine (cw _).mono ?_
                    rintro e w'' ⟨rfl, b9⟩
                    exact ⟨_, rfl, b9, rfl⟩
                  · intro w' hg _
                    refine Or.inl ⟨rfl, ?_⟩
                    have hz : Sz ≤ w'.heap.size := by have := hg.size; have e : W.drew.heap.size = W.heap.size := rfl; omega
                    have q := At.new w' 39 [.int .i64 0, .int .i64 0, .int .i64 0, .int .i64 0]
                    go_simp
                    exact ⟨grow_alloc (Below.refl _ _) _, _, rfl, hz, q⟩
                  intro vX w8 hg hf
                  obtain ⟨X, rfl, hXS, q8⟩ := hf.1
                  have f8 := f.drew.grown hg
                  have hXE : E ≠ X := by have := f.ltE; omega
                  have hXL : ¬ L.has X := fun hh => by have := f.mm.lt _ hh; omega
                  have hXw : w.heap.size ≤ X := by have := f.b.size; omega
                  have q0 := q8.at0 0 rfl
                  have q1 := q8.at0 1 rfl
                  have q2 := q8.at0 2 rfl
                  have q3 := q8.at0 3 rfl
                  have qf := q8.fz
                  have f9 := (((f8.setIn hXw hXE hXL 0 (.int .i64 C.st)).setIn hXw hXE hXL 1 (.int .i64 C.cl)).setIn hXw hXE hXL 2 (.int .i64 C.us)).setIn hXw hXE hXL 3 (.int .i64 C.sp)
                  have q9 := (((q8.put0 0 (.int .i64 C.st)).put0 1 (.int .i64 C.cl)).put0 2 (.int .i64 C.us)).put0 3 (.int .i64 C.sp)
                  have c2 := q9.at0 2 rfl
                  clear hf hg f cw lc HW hlt hXE hXL hXw hXS hSz f8
                  go_wp2
                  refine wp_over (fun W => Plot w W L E 4 1 6 20 s2 σ y ∧ At W X 0 39 _ [.int .i64 C.st, .int .i64 C.cl, .int .i64 C.us, .int .i64 C.sp]) ⟨f9, q9⟩ ?_
                  clear q8 q0 q1 q2 q3 qf f9 q9 c2
                  rintro W2 ⟨f, ch⟩
                  have g0 := fun N : Later W2 => (ch.grown N.below).at0 0 rfl
                  have g1 := fun N : Later W2 => (ch.grown N.below).at0 1 rfl
                  have g2 := fun N : Later W2 => (ch.grown N.below).at0 2 rfl
                  have e0 := fun N : Later W2 => (f.v.grown N.below).c0
                  have e1 := fun N : Later W2 => (f.v.grown N.below).c1
                  have e2 := fun N : Later W2 => (f.v.grown N.below).c2
                  have e3 := fun N : Later W2 => (f.v.grown N.below).c3
                  have e4 := fun N : Later W2 => (f.v.grown N.below).c4
                  have e5 := fun N : Later W2 => (f.v.grown N.below).c5
                  have e6 := fun N : Later W2 => (f.v.grown N.below).c6
                  have e7 := fun N : Later W2 => (f.v.grown N.below).c7
                  have e8 := fun N : Later W2 => (f.v.grown N.below).c8
                  haveI := Later.exists W2
                  refine wp_region_later (by kernel_rfl) (by kernel_rfl) ?_
                  repeat (go_big_quiet_step ((go_at_call 10; exact Calls.later (rroom_v κ hκ4 _))))
                  refine wpQuiet_nil ?_
                  rintro _ ⟨nq, rfl⟩
                  clear e0 e1 e2 e3 e4 e5 e6 e7 e8
                  clear g0 g1 g2
                  go_wp2
                  go_roundw
                  case rel => exact ⟨q + 1, by omega, by go_num, by show Value.int _ _ = Value.int _ _; congr 1; simp only [sumTo, usOf]; rw [HCk.out]; omega, f.grown nq.below⟩
                  case measure => simp [intOf]; omega
            · have hq' : ¬ (q : Int) < 6 := by omega
              obtain rfl : q = 6 := by omega
              have hrb := room_bd κ
              have B9 : Hid (Plot w wr L E 4 1 6 20 s2 σ y) := f
              rw [HSU.out]
              clear f
              go_wp2_with (go_at_call 10; refine (rroom_v κ hκ4 _).mono ?_; rintro e w9 ⟨rfl, b9⟩)
              go_ret
              exact ⟨rfl, (B9.out.grown b9).b⟩

end Go.Proofs.Ytbhjokfgajjoiaa
