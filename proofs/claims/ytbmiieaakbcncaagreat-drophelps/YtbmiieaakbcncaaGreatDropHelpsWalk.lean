/- DropHelps answers true for all numbers, and leaves what was in memory. -/
import Derived.Test.YtbmiieaakbcncaaGreatDropPair
import Derived.Test.YtbmiieaakbcncaaGreatDropBand
import Derived.Test.YtbmiieaakbcncaaGreatDropActs
import Derived.Test.YtbmiieaakbcncaaGreatDropWon
namespace Go.Proofs.YtbmiieaakbcncaaGreat
open Go.RowKit

theorem goodH : Good 2 4 4 20 100 600 3 := goodp (by omega) (by omega) (by omega) (by omega)

/-- one who lets an object go, in an arena -/
structure Duo (w0 w : World) (L : Loc) (E D : Nat) (s : Mm) (σ : Nat) (q : Q) (α : Dp) : Prop where
  mm : MemAt w L s
  tw : Town 2 4 4 20 s σ q
  v : BoxV w E 2 4 4 20 100 600 3 L.p 0
  b : Below w0.heap.size w0 w
  dp : ∃ cs u, DpAt w D 0 85 cs u ∧ DpIs 2 4 4 20 65536 false 0 α u

structure DuoApart (w0 : World) (L : Loc) (E D : Nat) : Prop where
  l0 : ∀ a, L.has a → w0.heap.size ≤ a
  e : ¬ L.has E
  d : ¬ L.has D
  ed : ¬ E = D
  d0 : w0.heap.size ≤ D

section
variable {w0 w w' : World} {L : Loc} {E D σ : Nat} {s s' : Mm} {q q' : Q} {α α' : Dp}

theorem Duo.grown (X : Duo w0 w L E D s σ q α) (g : Below w.heap.size w w') : Duo w0 w' L E D s σ q α := ⟨X.mm.below g, X.tw, X.v.grown g, grow X.b g, by obtain ⟨cs, u, h1, h2⟩ := X.dp; exact ⟨cs, u, h1.grown g, h2⟩⟩
theorem Duo.only {σ' : Nat} (X : Duo w0 w L E D s σ q α) (a : DuoApart w0 L E D) (o : Only L.has w w') (mm : MemAt w' L s') (tw : Town 2 4 4 20 s' σ' q') : Duo w0 w' L E D s' σ' q' α := ⟨mm, tw, X.v.only o a.e, mgrow X.b o a.l0, by obtain ⟨cs, u, h1, h2⟩ := X.dp; exact ⟨cs, u, h1.only o a.d, h2⟩⟩
theorem Duo.step (X : Duo w0 w L E D s σ q α) (a : DuoApart w0 L E D) (hσ : σ < 1000000) (hwd : ∀ a, Wd (q.dw a)) (hg : α.good 2 4 4 20 0 1 q) (ho : α.over? = false) (ht : dpTurn 2 4 4 20 100 false 0 1 q α = (q', α')) {d : Bool} (hd : α'.over? = d) :
    Calls Tryz.prog 23 #[.pointer (some ⟨D, 0, none⟩), .agg #[.int .i64 2, .int .i64 4, .int .i64 4, .int .i64 20, .int .i64 100, .int .i64 600, .int .i64 3, .pointer (some ⟨L.p, 0, none⟩), .int .i64 0]] w fun e w' => e = .returned (.bool d) ∧ ∃ s', Duo w0 w' L E D s' (σ + 1) q' α' := by
  obtain ⟨cs, u, dp, is⟩ := X.dp
  refine (drop_step (t := 2) (n := 4) (k := 4) (m := 20) X.mm a.d X.tw goodH hσ hwd hand1 (by decide) α dp is hg ho 0 q' α' ht d hd).mono ?_
  rintro e w' ⟨rfl, s', cs', u', P⟩
  exact ⟨rfl, s', P.mm, P.tw, X.v.only P.only (fun h => h.elim a.e a.ed), ogrow X.b P.only (fun k h => h.elim (a.l0 k) (fun e => e ▸ a.d0)), cs', u', P.dp, P.is⟩
end

/-- and two who help -/
structure Trio (w0 w : World) (L : Loc) (E D H1 H2 : Nat) (s : Mm) (σ : Nat) (q : Q) (α : Dp) (η1 η2 : Hp) : Prop where
  duo : Duo w0 w L E D s σ q α
  h1 : ∃ cs l, At w H1 0 81 cs l ∧ η1.cells 0 l
  h2 : ∃ cs l, At w H2 0 81 cs l ∧ η2.cells 0 l

structure TrioApart (w0 : World) (L : Loc) (E D H1 H2 : Nat) : Prop where
  duo : DuoApart w0 L E D
  p1 : ¬ L.has H1
  p2 : ¬ L.has H2
  e1 : ¬ E = H1
  e2 : ¬ E = H2
  d1 : ¬ D = H1
  d2 : ¬ D = H2
  ne : ¬ H1 = H2
  b1 : w0.heap.size ≤ H1
  b2 : w0.heap.size ≤ H2

section
variable {w0 w w' : World} {L : Loc} {E D H1 H2 σ : Nat} {s s' : Mm} {q q' : Q} {α : Dp} {η1 η2 η' : Hp}

theorem Trio.step1 (X : Trio w0 w L E D H1 H2 s σ q α η1 η2) (a : TrioApart w0 L E D H1 H2) (hσ : σ < 1000000) (hwd : ∀ a, Wd (q.dw a)) (hg : η1.good 2 4 4 20) (ho : η1.over? = false) (ht : hpTurn 100 0 q η1 = (q', η')) {d : Bool} (hd : η'.over? = d) :
    Calls Tryz.prog 27 #[.pointer (some ⟨H1, 0, none⟩), .agg #[.int .i64 2, .int .i64 4, .int .i64 4, .int .i64 20, .int .i64 100, .int .i64 600, .int .i64 3, .pointer (some ⟨L.p, 0, none⟩), .int .i64 0]] w fun e w' => e = .returned (.bool d) ∧ ∃ s', Trio w0 w' L E D H1 H2 s' (σ + 1) q' α η' η2 := by
  obtain ⟨cs, l, at1, hc⟩ := X.h1
  refine (help_step (t := 2) (n := 4) (k := 4) (m := 20) X.duo.mm a.p1 X.duo.tw goodH hσ hwd (by decide) η1 at1 hc hg ho 0 q' η' ht d hd).mono ?_
  rintro e w' ⟨rfl, s', cs', l', mm, o, at', -, tw, hc', -⟩
  exact ⟨rfl, s', ⟨mm, tw, X.duo.v.only o (fun h => h.elim a.duo.e a.e1), ogrow X.duo.b o (fun k h => h.elim (a.duo.l0 k) (fun e => e ▸ a.b1)), by obtain ⟨c1, u, d1, d2⟩ := X.duo.dp; exact ⟨c1, u, d1.only o (fun h => h.elim a.duo.d a.d1), d2⟩⟩, ⟨cs', l', at', hc'⟩, by obtain ⟨c2, l2, a2, hc2⟩ := X.h2; exact ⟨c2, l2, a2.only o (fun h => h.elim a.p2 (fun e => a.ne e.symm)), hc2⟩⟩

theorem Duo.trio (X : Duo w0 w L E D s σ q α) (a : DuoApart w0 L E D) (O : Obj) (vD : Int) (Z : Nat) :
    Trio w0 (((w.alloc O).alloc (.cells (HpV 0 vD Z 0 0 false false false).toArray 81)).alloc (.cells (HpV 0 vD Z 0 0 false false false).toArray 81)) L E D (w.heap.size + 1) (w.heap.size + 1 + 1) s σ q α (.go vD Z 0 none) (.go vD Z 0 none) ∧ TrioApart w0 L E D (w.heap.size + 1) (w.heap.size + 1 + 1) := by
  have hE : E < w.heap.size := World.block_lt_of_cell? _ _ X.v.c0
  have hD : D < w.heap.size := by obtain ⟨_, _, h, _⟩ := X.dp; exact h.lt
  have hb := X.b.size
  refine ⟨⟨((X.grown (grow1 _ _)).grown (grow1 _ _)).grown (grow1 _ _), ⟨_, _, (At.new2 w _ _ _).grown (grow1 _ _), 0, rfl⟩, ⟨_, _, At.new3 w _ _ _ _, 0, rfl⟩⟩, a, fun h => ?_, fun h => ?_, by omega, by omega, by omega, by omega, by omega, by omega, by omega⟩
  · have := X.mm.lt _ h; omega
  · have := X.mm.lt _ h; omega

theorem Trio.swap (X : Trio w0 w L E D H1 H2 s σ q α η1 η2) : Trio w0 w L E D H2 H1 s σ q α η2 η1 := ⟨X.duo, X.h2, X.h1⟩
theorem TrioApart.swap (a : TrioApart w0 L E D H1 H2) : TrioApart w0 L E D H2 H1 := ⟨a.duo, a.p2, a.p1, a.e2, a.e1, a.d2, a.d1, fun e => a.ne e.symm, a.b2, a.b1⟩
end

theorem Lv.same {i Z N R : Nat} {q q' : Q} {ps : Nat → Dp} (h : Lv i Z q N ps R) (e : q'.lv = q.lv) : Lv i Z q' N ps R := by
  unfold Lv at h ⊢
  rw [e]; exact h

theorem HpTh.on {vL : Int} {Z : Nat} {ph : Ph} {η : Hp} (h : HpTh vL Z ph η) : η.over? = false := by
  cases η with
  | go => rfl
  | over => cases h

theorem dmu_top (q : Q) (A V Z : Nat) (vL : Int) (ph : Ph) (α : Dp) (h : Z ≤ 16) : dmu q A V Z vL ph α ≤ 56 := by
  have hp : ∀ η, hpmu q A V Z η ≤ 3 * Z := by
    intro η
    cases η with
    | over => exact Nat.zero_le _
    | go v Z' j u =>
      cases u with
      | none => exact Nat.le_trans (hmu_up q A V Z j) (by omega)
      | some u => show 3 * (Z - j) - 1 ≤ _; omega
  cases α with
  | see => cases ph <;> (simp only [dmu]; omega)
  | ask v => show (if v = vL then 7 + 3 * Z else 3 + 3 * Z) ≤ _; split <;> omega
  | mark v Z' => show 6 + 3 * Z ≤ _; omega
  | help η => have := hp η; show 2 + hpmu q A V Z η ≤ _; omega
  | fin Z' i' η => have := hp η; show 5 + hpmu q A V Z η ≤ _; omega
  | count => show 4 ≤ 56; omega
  | give γ => cases γ <;> (simp only [dmu]; omega)
  | over => exact Nat.zero_le _

theorem pair_end {t n k m x G A Z i : Nat} {vL cg : Int} {own : Bool} {q : Q} {ph : Ph} {ps : Nat → Dp} {R : Nat} {E0 E1 : Int} (g : Gang t n k m cg x G A Z i vL own q ph 2 ps) (l : Lv i Z q 2 ps R) (h0 : ps 0 = .over E0) (h1 : ps 1 = .over E1) : ((E0 = 0 ∧ E1 = 3) ∨ (E0 = 3 ∧ E1 = 0)) ∧ q.lv i = R - room (classOf Z).toNat := by
  have T0 := g.th 0 (by decide)
  have T1 := g.th 1 (by decide)
  rw [h0] at T0
  rw [h1] at T1
  have hph : ph ≠ .live := by
    rcases T0 with ⟨_, e⟩ | ⟨_, e⟩
    · rw [e]; decide
    · rw [e rfl]; decide
  have e0 : E0 = 0 ∨ E0 = 3 := T0.imp (fun h => h.1) (fun h => h.1)
  have e1 : E1 = 0 ∨ E1 = 3 := T1.imp (fun h => h.1) (fun h => h.1)
  obtain ⟨a, ha, hw⟩ := g.ex hph
  have hpd : ∀ b, b < 2 → (ps b).paid = true := fun b hb => by
    have : b = 0 ∨ b = 1 := by omega
    rcases this with rfl | rfl
    · rw [h0]; rfl
    · rw [h1]; rfl
  refine ⟨?_, ?_⟩
  · have hone := g.one 0 1 (by decide) (by decide)
    rw [h0, h1] at hone
    have ha2 : a = 0 ∨ a = 1 := by omega
    rcases e0 with rfl | rfl <;> rcases e1 with rfl | rfl
    · exact absurd (hone rfl rfl) (by decide)
    · exact Or.inl ⟨rfl, rfl⟩
    · exact Or.inr ⟨rfl, rfl⟩
    · rcases ha2 with rfl | rfl
      · rw [h0] at hw; cases hw
      · rw [h1] at hw; cases hw
  · rcases l with ⟨_, h⟩ | ⟨h, _⟩
    · exact h
    · have := h a ha hw
      rw [hpd a ha] at this; cases this

set_option maxRecDepth 20000 in
set_option maxHeartbeats 8000000 in
theorem dropHelps_any (size steps : Int) (w : World) :
    Calls Tryz.prog 7 #[.int .i64 size, .int .i64 steps] w fun e w' => e = .returned (.bool true) ∧ Below w.heap.size w w' := by
  obtain ⟨Z, hZ, z1, z2⟩ := size15 size
  obtain ⟨T, hT, hT63⟩ := low0 steps 63 6 (by decide) (by decide)
  obtain ⟨kz, hκ⟩ := class_room z1 z2
  obtain ⟨κ, hκe⟩ : ∃ κ, (classOf Z).toNat = κ := ⟨_, rfl⟩
  rw [hκe] at kz hκ
  have AR := fun w => arena08 goodH (by omega) w
  have f1 : ∀ (a1 a2 a3 a4 : Value) (w : World), (Instr.field 39 (.agg #[a1, a2, a3, a4]) 1).run Tryz.prog w = .ok a2 w := fun a1 a2 a3 a4 w => by kernel_rfl
  have f0 : ∀ (a1 a2 a3 a4 : Value) (w : World), (Instr.field 39 (.agg #[a1, a2, a3, a4]) 0).run Tryz.prog w = .ok a1 w := fun a1 a2 a3 a4 w => by kernel_rfl
  have g : Got 4 20 κ (base 2 4 4 20) (Q.new 4).y 0 ⟨upd Y.new.ck 0 ⟨1, κ, room κ, 1⟩, upd Y.new.op κ 1⟩ (0 + 1) (.won (base 2 4 4 20 0) 0) := .new (fun i h => by simp [Q.new, Y.new] at h) (by decide)
  have MK := fun (w' : World) (w1 : World) (L : Loc) (E : Nat) (s : Mm) (σ : Nat) (f : Farm w' w1 L E 2 4 4 20 100 s σ (Q.new 4) 0 (fun _ => 1) []) (a : FarmApart w' L E 2 4 4 20 100) (hσ : σ + 400 < 1000000) => f.ok (own := false) a z1 z2 kz hκ (x := 0) (F := [1, 2, 3]) rfl g hσ
  rw [show packH ((0 : Nat) : Int) (((fun _ => 1) 0 : Nat) : Int) = 65536 from packH01] at MK
  obtain ⟨qq, hqq⟩ : ∃ qq, (Q.new 4).made 0 [1, 2, 3] ⟨upd Y.new.ck 0 ⟨1, κ, room κ, 1⟩, upd Y.new.op κ 1⟩ (base 2 4 4 20 0) 0 κ Z false = qq := ⟨_, rfl⟩
  have hlv0 : qq.lv 0 = room κ := by
    rw [← hqq]
    show upd (fun _ => 0) 0 (0 + room κ) 0 = _
    rw [upd_same]; omega
  rw [hqq] at MK
  obtain ⟨ox, hox⟩ : ∃ ox : Ox, (Q.new 4).ox (fun _ => 1) 0 (base 2 4 4 20 0) 0 Z κ false = ox := ⟨_, rfl⟩
  have hx1 : ox.x = 0 := by rw [← hox]; rfl
  have hx2 : ox.g = 1 := by rw [← hox]; rfl
  have hx3 : ox.Z = Z := by rw [← hox]; rfl
  have hx4 : ox.own = false := by rw [← hox]; rfl
  have hx5 : ox.i = 0 := by rw [← hox]; rfl
  rw [hox] at MK
  clear hqq hox g
  go_enter Tryz.func7, Tryz.ntmps7
  go_wp2_with (first
    | (go_at_call 9; refine (AR _).mono ?_; rintro e w1 ⟨L, s, rfl, m1, t1, b1, l1⟩; obtain ⟨c1, pa⟩ := Farm.first goodH m1 t1 b1 l1)
    | (go_at_call 10; refine (awake09_any _).mono ?_; rintro e w2 ⟨rfl, b2⟩; have c2 := c1.grown b2; have e0 := c2.v.c0; have e1 := c2.v.c1; have e2 := c2.v.c2; have e3 := c2.v.c3; have e4 := c2.v.c4; have e5 := c2.v.c5; have e6 := c2.v.c6; have e7 := c2.v.c7; have e8 := c2.v.c8)
    | (go_at_call 11; refine (MK _ _ _ _ _ _ c2 pa (by decide)).mono ?_; rintro e w3 ⟨st3, s3, σ3, rfl, -, -, h3, c3, -⟩)
    | (go_at_call 22; refine (newDrop_any 65536 false _).mono ?_; rintro e w4 ⟨rfl, rfl⟩))
  obtain ⟨E, hE⟩ : ∃ E, w1.heap.size = E := ⟨_, rfl⟩
  rw [hE] at c3 pa ⊢
  have G0 := c3.tm.gang (N := 2) (l1 := []) (l2 := []) goodH (by decide)
  rw [hx1, hx2, hx3, hx4, hx5] at G0
  obtain ⟨A, hA⟩ : ∃ A, ox.a = A := ⟨_, rfl⟩
  obtain ⟨vL, hvL⟩ : ∃ vL, qq.sw 0 = vL := ⟨_, rfl⟩
  rw [hA, hvL] at G0
  obtain ⟨R, hR⟩ : ∃ R, room κ = R := ⟨_, rfl⟩
  have HR0 : Hid (((R - room (classOf Z).toNat : Nat) : Int) = 0) := by unfold Hid; rw [hκe, ← hR]; omega
  have L0 : Lv 0 Z qq 2 (fun _ => .see) R := Or.inr ⟨(fun a ha h => by cases h), hlv0.trans hR⟩
  obtain ⟨D, hD⟩ : ∃ D, w3.heap.size = D := ⟨_, rfl⟩
  have APD : Hid (DuoApart w L E D) := ⟨pa.l0, pa.e, fun h => by have := c3.mm.lt _ h; omega, by have := c3.ltE; omega, by have := c3.b.size; omega⟩
  have X0 : Duo w (w3.alloc (drop0 65536 false)) L E D s3 σ3 qq .see := by
    obtain ⟨cs, hd0⟩ := drop0_at 65536 false w3
    rw [hD] at hd0
    exact ⟨c3.mm.alloc _, c3.tw, c3.v.grown (grow1 _ _), grow_alloc c3.b _, cs, _, hd0, dp0_is 2 4 4 20 65536 false 0⟩
  rw [hD]
  have HX0 : Hid (Duo w (w3.alloc (drop0 65536 false)) L E D s3 σ3 qq .see) := X0
  have HG0 : Hid (Gang 2 4 4 20 100 0 1 A Z 0 vL false qq .live 2 (fun _ => .see)) := G0
  have HL0 : Hid (Lv 0 Z qq 2 (fun _ => .see) R) := L0
  have hσ3 : σ3 ≤ 200 := by omega
  clear c1 c2 c3 b2 e0 e1 e2 e3 e4 e5 e6 e7 e8 m1 t1 b1 l1 AR MK hE pa hZ hx1 hx2 hx3 hx4 hx5 G0 L0 X0 hA hvL hR hD h3 hlv0 kz hκ hκe
  go_loopw [10, 11] (fun dv iv wr => ∃ (i : Nat) (s1 : Mm) (σ1 : Nat) (q : Q) (ph : Ph) (ps : Nat → Dp), dv = .bool (ps 0).over? ∧ iv = .int .i64 i ∧ i ≤ 63 ∧ σ1 ≤ 200 + i ∧ Duo w wr L E D s1 σ1 q (ps 0) ∧ Gang 2 4 4 20 100 0 1 A Z 0 vL false q ph 2 ps ∧ Lv 0 Z q 2 ps R ∧ ps 1 = .see) (fun _ iv _ => 64 - (intOf iv).toNat)
  case atStart => exact ⟨0, s3, σ3, qq, .live, fun _ => .see, rfl, rfl, by omega, by omega, HX0.out, HG0.out, HL0.out, rfl⟩
  case round =>
    clear HX0 HG0 HL0
    obtain ⟨i, s1, σ1, q, ph, ps, rfl, rfl, hi63, hσ, X, G, LV, hps1⟩ := hrel
    by_cases hi : i < T
    · have hi' : (i : Int) < bits .and .i64 steps 63 := by rw [hT]; omega
      cases hov : (ps 0).over? with
      | false =>
        obtain ⟨q2, α', ht⟩ : ∃ q' α', dpTurn 2 4 4 20 100 false 0 1 q (ps 0) = (q', α') := ⟨_, _, rfl⟩
        have hF := X.tw.pile.hdle
        obtain ⟨ph', G', m1, -⟩ := G.step (K := 0) (by decide) hF (by decide) hov ht
        have gd := G.good (K := 0) (by decide) hF (by decide) hov
        have LV' := LV.step G (K := 0) (by decide) (by decide) hov ht
        obtain ⟨d9, hd9⟩ : ∃ d9, α'.over? = d9 := ⟨_, rfl⟩
        have ST := X.step APD.out (by omega) G.sc.wd gd hov ht hd9
        have HH : Hid (Gang 2 4 4 20 100 0 1 A Z 0 vL false q2 ph' 2 (upd ps 0 α') ∧ Lv 0 Z q2 2 (upd ps 0 α') R ∧ upd ps 0 α' 1 = .see) := ⟨G', LV', by rw [upd_other _ _ _ _ (by decide)]; exact hps1⟩
        have y0 := X.v.c0
        have y1 := X.v.c1
        have y2 := X.v.c2
        have y3 := X.v.c3
        have y4 := X.v.c4
        have y5 := X.v.c5
        have y6 := X.v.c6
        have y7 := X.v.c7
        have y8 := X.v.c8
        clear X G G' LV LV' gd m1 hF ht hps1
        go_wp2_with (go_at_call 23; refine ST.mono ?_; rintro e w8 ⟨rfl, s8, X8⟩)
        go_roundw
        case rel => exact ⟨i + 1, s8, σ1 + 1, q2, ph', upd ps 0 α', by rw [upd_same, hd9], by go_num, by omega, by omega, by rw [upd_same]; exact X8, HH.out.1, HH.out.2.1, HH.out.2.2⟩
        case measure => simp [intOf]; omega
      | true =>
        have hpk8 : 8 < s1.n := by have := X.tw.len; omega
        have hvp0 := X.tw.swv 0 (by decide)
        rw [G.sc.sw] at hvp0
        by_cases hph : ph = .drop
        · subst hph
          obtain ⟨vD, hvD⟩ : ∃ vD, markW vL = vD := ⟨_, rfl⟩
          have HVP : Hid (s1.wd 8 = vD) := by rw [← hvD]; exact hvp0
          have wD : Wd vD := by rw [← hvD]; exact G.sc.ob.mark.wd
          have IS := slotIs vD wD
          rw [show vD % 8 = 4 by rw [← hvD]; exact G.sc.ob.m8] at IS
          have HX : Hid (Duo w wr L E D s1 σ1 q (ps 0)) := X
          have HG : Hid (Gang 2 4 4 20 100 0 1 A Z 0 vL false q .drop 2 ps) := G
          have HL : Hid (Lv 0 Z q 2 ps R) := LV
          have HP1 : Hid (ps 1 = .see) := hps1
          have HVD : Hid (markW vL = vD) := hvD
          obtain ⟨a0, ha0⟩ : ∃ a0, adOf vD = a0 := ⟨_, rfl⟩
          obtain ⟨g0, hg0⟩ : ∃ g0, genOf vD = g0 := ⟨_, rfl⟩
          obtain ⟨v0, hv0⟩ : ∃ v0, verOf' vD = v0 := ⟨_, rfl⟩
          rw [ha0, hg0, hv0] at IS
          have PK := fun (w' : World) (m' : MemAt w' L s1) => peek_is m' 8 hpk8 vD HVP.out
          have HXm := X.mm
          have HXv := X.v
          have y0 := X.v.c0
          have y1 := X.v.c1
          have y2 := X.v.c2
          have y3 := X.v.c3
          have y4 := X.v.c4
          have y5 := X.v.c5
          have y6 := X.v.c6
          have y7 := X.v.c7
          have y8 := X.v.c8
          clear X G LV hps1 hvp0 hvD ha0 hg0 hv0 wD 
          go_wp2_with (first
            | (go_at_call 18; refine (lslot_any _ _ _ _ _ _ _ 0 _ goodH.arena (by omega) (by omega)).mono ?_; rintro e w5 ⟨rfl, b5⟩; have m5 := HXm.below b5; have v5 := HXv.grown b5; have x0 := v5.c0; have x1 := v5.c1; have x2 := v5.c2; have x3 := v5.c3; have x4 := v5.c4; have x5 := v5.c5; have x6 := v5.c6; have x7 := v5.c7; have x8 := v5.c8)
            | (go_at_call 17; refine (PK _ m5).mono ?_; rintro e w5' ⟨rfl, rfl⟩)
            | (go_at_call 16; refine (IS.call _).mono ?_; rintro e w6 ⟨rfl, b6⟩)
            | (go_at_call 26; refine (newHelp_any _ _ _ _).mono ?_; rintro e w7 ⟨rfl, rfl⟩))
          obtain ⟨T0, TA⟩ := ((HX.out.grown b5).grown b6).trio APD.out (.cells #[.int .i64 4, .int .i64 a0, .int .i64 g0, .int .i64 v0] 48) vD Z
          obtain ⟨H2, hH2⟩ : ∃ H2, w6.heap.size + 1 + 1 = H2 := ⟨_, rfl⟩
          obtain ⟨H1, hH1⟩ : ∃ H1, w6.heap.size + 1 = H1 := ⟨_, rfl⟩
          rw [hH2, hH1] at T0 TA ⊢
          have T0 : Hid (Trio _ _ _ _ _ _ _ _ _ _ _ _ _) := T0
          have TA : Hid (TrioApart w L E D H1 H2) := TA
          clear hH1 hH2 PK HXm HXv IS HX m5 v5 b5 b6 y0 y1 y2 y3 y4 y5 y6 y7 y8 x0 x1 x2 x3 x4 x5 x6 x7 x8 HVP hpk8
          go_loopw [17] (fun iv wr => ∃ (j : Nat) (s2 : Mm) (σ2 : Nat) (q2 : Q) (η : Hp), iv = .int .i64 j ∧ j ≤ 48 ∧ σ2 ≤ 300 + j ∧ Trio w wr L E D H1 H2 s2 σ2 q2 (ps 0) η (.go vD Z 0 none) ∧ Gang 2 4 4 20 100 0 1 A Z 0 vL false q2 .drop 2 ps ∧ Lv 0 Z q2 2 ps R ∧ HpTh vL Z .drop η ∧ hpmu q2 A (verOf' vL + 1) Z η + j ≤ 48) (fun iv _ => 80 - (intOf iv).toNat)
          case atStart => exact ⟨0, _, _, _, .go vD Z 0 none, rfl, by omega, by omega, T0.out, HG.out, HL.out, ⟨HVD.out.symm, rfl, by decide, Or.inl rfl⟩, Nat.le_trans (hmu_up _ _ _ Z 0) (by omega)⟩
          case round =>
            clear T0 HG HL
            obtain ⟨j, s2, σ2, q2, η, rfl, hj, hσ2, X, G, LV, HT, hmu⟩ := hrel
            have hj80 : (j : Int) < 80 := by omega
            obtain ⟨q3, η', ht⟩ : ∃ q' η', hpTurn 100 0 q2 η = (q', η') := ⟨_, _, rfl⟩
            obtain ⟨⟨gd, ho⟩, hlv, alt⟩ := G.help HT ht
            have ST := fun d hd => X.step1 TA.out (by omega) G.sc.wd gd ho ht (d := d) hd
            have LV' := LV.same hlv
            have y0 := X.duo.v.c0
            have y1 := X.duo.v.c1
            have y2 := X.duo.v.c2
            have y3 := X.duo.v.c3
            have y4 := X.duo.v.c4
            have y5 := X.duo.v.c5
            have y6 := X.duo.v.c6
            have y7 := X.duo.v.c7
            have y8 := X.duo.v.c8
            rcases alt with ⟨G', HT', mu⟩ | ⟨G', e9⟩
            · have ST' := ST false HT'.on
              have hj1 : j + 1 ≤ 48 := by omega
              have HH : Hid (Gang 2 4 4 20 100 0 1 A Z 0 vL false q3 .drop 2 ps ∧ Lv 0 Z q3 2 ps R ∧ HpTh vL Z .drop η' ∧ hpmu q3 A (verOf' vL + 1) Z η' + (j + 1) ≤ 48) := ⟨G', LV', HT', by omega⟩
              clear ST X G LV LV' HT HT' G' mu gd ho hlv ht
              go_wp2_with (go_at_call 27; refine ST'.mono ?_; rintro e w8 ⟨rfl, s8, X8⟩)
              go_roundw
              case rel => exact ⟨j + 1, s8, σ2 + 1, q3, η', by go_num, by omega, by omega, X8, HH.out.1, HH.out.2.1, HH.out.2.2.1, HH.out.2.2.2⟩
              case measure => simp [intOf]; omega
            · have e9 : η' = .over true := e9
              subst e9
              have ST' := ST true rfl
              have HG : Hid (Gang 2 4 4 20 100 0 1 A Z 0 vL false q3 .gone 2 ps) := G'
              have HL : Hid (Lv 0 Z q3 2 ps R) := LV'
              clear ST X G LV LV' HT G' gd ho hlv ht hmu
              go_wp2_with (go_at_call 27; refine ST'.mono ?_; rintro e w8 ⟨rfl, s8, X8⟩)
              have T0 : Hid (Trio w w8 L E D H2 H1 s8 (σ2 + 1) q3 (ps 0) (.go vD Z 0 none) (.over true)) := X8.swap
              clear X8 ST' y0 y1 y2 y3 y4 y5 y6 y7 y8
              have TA := TA.out.swap
              have TA : Hid (TrioApart w L E D H2 H1) := TA
              go_loopw [18] (fun iv wr => ∃ (j : Nat) (s2 : Mm) (σ2 : Nat) (q2 : Q) (η : Hp), iv = .int .i64 j ∧ j ≤ 48 ∧ σ2 ≤ 350 + j ∧ Trio w wr L E D H2 H1 s2 σ2 q2 (ps 0) η (.over true) ∧ Gang 2 4 4 20 100 0 1 A Z 0 vL false q2 .gone 2 ps ∧ Lv 0 Z q2 2 ps R ∧ HpTh vL Z .gone η ∧ hpmu q2 A (verOf' vL + 1) Z η + j ≤ 48) (fun iv _ => 80 - (intOf iv).toNat)
              case atStart => exact ⟨0, _, _, _, .go vD Z 0 none, rfl, by omega, by omega, T0.out, HG.out, HL.out, ⟨HVD.out.symm, rfl, by decide, Or.inl rfl⟩, Nat.le_trans (hmu_up _ _ _ Z 0) (by omega)⟩
              case round =>
                clear T0 HG HL
                obtain ⟨j, s2, σ2, q2, η, rfl, hj, hσ2, X, G, LV, HT, hmu⟩ := hrel
                have hj80 : (j : Int) < 80 := by omega
                obtain ⟨q3, η', ht⟩ : ∃ q' η', hpTurn 100 0 q2 η = (q', η') := ⟨_, _, rfl⟩
                obtain ⟨⟨gd, ho⟩, hlv, alt⟩ := G.help HT ht
                have ST := fun d hd => X.step1 TA.out (by omega) G.sc.wd gd ho ht (d := d) hd
                have LV' := LV.same hlv
                have y0 := X.duo.v.c0
                have y1 := X.duo.v.c1
                have y2 := X.duo.v.c2
                have y3 := X.duo.v.c3
                have y4 := X.duo.v.c4
                have y5 := X.duo.v.c5
                have y6 := X.duo.v.c6
                have y7 := X.duo.v.c7
                have y8 := X.duo.v.c8
                rcases alt with ⟨G', HT', mu⟩ | ⟨G', e9⟩
                · have ST' := ST false HT'.on
                  have hj1 : j + 1 ≤ 48 := by omega
                  have HH : Hid (Gang 2 4 4 20 100 0 1 A Z 0 vL false q3 .gone 2 ps ∧ Lv 0 Z q3 2 ps R ∧ HpTh vL Z .gone η' ∧ hpmu q3 A (verOf' vL + 1) Z η' + (j + 1) ≤ 48) := ⟨G', LV', HT', by omega⟩
                  clear ST X G LV LV' HT HT' G' mu gd ho hlv ht
                  go_wp2_with (go_at_call 27; refine ST'.mono ?_; rintro e w8 ⟨rfl, s8, X8⟩)
                  go_roundw
                  case rel => exact ⟨j + 1, s8, σ2 + 1, q3, η', by go_num, by omega, by omega, X8, HH.out.1, HH.out.2.1, HH.out.2.2.1, HH.out.2.2.2⟩
                  case measure => simp [intOf]; omega
                · have e9 : η' = .over false := e9
                  subst e9
                  have ST' := ST true rfl
                  have HG : Hid (Gang 2 4 4 20 100 0 1 A Z 0 vL false q3 .gone 2 ps) := G'
                  have HL : Hid (Lv 0 Z q3 2 ps R) := LV'
                  clear ST X G LV LV' HT G' gd ho hlv ht hmu
                  go_wp2_with (go_at_call 27; refine ST'.mono ?_; rintro e w8 ⟨rfl, s8, X8⟩)
                  have hσ9 : σ2 + 1 ≤ 400 := by omega
                  obtain ⟨s1, hs1⟩ : ∃ s, s8 = s := ⟨_, rfl⟩
                  obtain ⟨σ1, hσ1⟩ : ∃ s, σ2 + 1 = s := ⟨_, rfl⟩
                  obtain ⟨q, hq⟩ : ∃ s, q3 = s := ⟨_, rfl⟩
                  rw [hs1, hσ1, hq] at X8
                  rw [hσ1] at hσ9
                  rw [hq] at HG HL
                  clear hs1 hσ1 hq ST'
                  obtain ⟨c1, l1, A1, C1⟩ := X8.h2
                  obtain ⟨_, _, _, _, _, rfl⟩ := C1
                  obtain ⟨c2, l2, A2, C2⟩ := X8.h1
                  obtain ⟨_, _, _, _, _, rfl⟩ := C2
                  have HW1 : ∀ p, p = H1 → Calls Tryz.prog 28 #[.pointer (some ⟨p, 0, none⟩)] w8 fun e w' => e = .returned (.bool true) ∧ w' = w8 := fun p h => by rw [h]; exact hwon_any A1
                  have HW2 : ∀ p, p = H2 → Calls Tryz.prog 28 #[.pointer (some ⟨p, 0, none⟩)] w8 fun e w' => e = .returned (.bool false) ∧ w' = w8 := fun p h => by rw [h]; exact hwon_any A2
                  have X1 := X8.duo
                  clear X8 A1 A2
                  have G := HG.out
                  have LV := HL.out
                  have hps1 := HP1.out
                  obtain ⟨vB, hvB⟩ : ∃ vB, behindW 100 vL = vB := ⟨_, rfl⟩
                  have hB : vB = packS 0 0 2 0 := by
                    rw [← hvB]
                    unfold behindW
                    rw [G.sc.ob.gn, if_neg (by decide)]; rfl
                  have ISB : SlotIs vB 0 0 2 0 := by
                    rw [hB]
                    exact ⟨by decide, by decide, by decide, by decide, by decide, by decide⟩
                  have HVB : Hid (s1.wd 8 = vB) := by
                    have := X1.tw.swv 0 (by decide)
                    rw [G.sc.sw] at this
                    rw [← hvB]
                    exact this
                  have hpk8 : 8 < s1.n := by have := X1.tw.len; omega
                  have PKB := fun (w' : World) (m' : MemAt w' L s1) => peek_is m' 8 hpk8 vB HVB.out
                  have HXm := X1.mm
                  clear hB hvB HG HL HP1
                  obtain ⟨ph, hph⟩ : ∃ ph, Ph.gone = ph := ⟨_, rfl⟩
                  rw [hph] at G
                  clear hph
                  have hdm : dmu q A (verOf' vL + 1) Z vL ph (ps 1) ≤ 56 := by
                    rw [hps1]
                    cases ph <;> (simp only [dmu]; omega)
                  obtain ⟨M, q2, E1, ph2, hM, run, G2, LV2⟩ := Gang.alone (by decide) 56 G LV (K := 1) (by decide) X1.tw.pile.hdle hdm (by rw [hps1]; rfl)
                  rw [hps1] at run
                  have h2 : upd ps 1 (.over E1) 0 = ps 0 := upd_other _ _ _ _ (by decide)
                  have h3 : upd ps 1 (.over E1) 1 = .over E1 := upd_same _ _ _
                  obtain ⟨pq, hpq⟩ : ∃ pq, upd ps 1 (.over E1) = pq := ⟨_, rfl⟩
                  rw [hpq] at G2 LV2 h2 h3
                  have dm0 : dmu q2 A (verOf' vL + 1) Z vL ph2 (ps 0) ≤ 56 ∨ (ps 0).over? = true := Or.inl (dmu_top _ _ _ _ _ _ _ z2)
                  have HDR : Hid (∀ w' : World, MemAt w' L s1 → Calls Tryz.prog 14 #[.agg #[.int .i64 2, .int .i64 4, .int .i64 4, .int .i64 20, .int .i64 100, .int .i64 600, .int .i64 3, .pointer (some ⟨L.p, 0, none⟩), .int .i64 0], .int .u64 65536, .bool false] w' fun e w'' => ∃ (st : Int) (s' : Mm), e = .returned (.agg #[.int .i64 E1, .int .u64 0, .int .i64 0, .int .i64 st]) ∧ MemAt w'' L s' ∧ Town 2 4 4 20 s' (σ1 + M) q2 ∧ Only L.has w' w'') := fun w' m' => drop_goes m' X1.tw goodH G.sc.wd hand1 (by decide) (by omega) (by omega) run
                  have HX1 : Hid (Duo w _ L E D s1 σ1 q (ps 0)) := X1
                  have HG2 : Hid (Gang 2 4 4 20 100 0 1 A Z 0 vL false q2 ph2 2 pq) := G2
                  have HL2 : Hid (Lv 0 Z q2 2 pq R) := LV2
                  have HPS : Hid (pq 0 = ps 0 ∧ pq 1 = .over E1) := ⟨h2, h3⟩
                  have y0 := X1.v.c0
                  have y1 := X1.v.c1
                  have y2 := X1.v.c2
                  have y3 := X1.v.c3
                  have y4 := X1.v.c4
                  have y5 := X1.v.c5
                  have y6 := X1.v.c6
                  have y7 := X1.v.c7
                  have y8 := X1.v.c8
                  have HDM : Hid (dmu q2 A (verOf' vL + 1) Z vL ph2 (ps 0) ≤ 56 ∨ (ps 0).over? = true) := dm0
                  clear run G2 LV2 h2 h3 hpq hdm X1 G LV dm0 hps1
                  go_wp2_with (first
                    | (go_at_call 28; refine (HW1 _ (by rfl)).mono ?_; rintro e w5 ⟨rfl, rfl⟩)
                    | (go_at_call 28; refine (HW2 _ (by rfl)).mono ?_; rintro e w5 ⟨rfl, rfl⟩)
                    | (go_at_call 17; refine (PKB _ HXm).mono ?_; rintro e w5' ⟨rfl, rfl⟩)
                    | (go_at_call 16; refine (ISB.call _).mono ?_; rintro e w6 ⟨rfl, b6⟩; have v6 := HX1.out.v.grown b6; have k0 := v6.c0; have k1 := v6.c1; have k2 := v6.c2; have k3 := v6.c3; have k4 := v6.c4; have k5 := v6.c5; have k6 := v6.c6; have k7 := v6.c7; have k8 := v6.c8)
                    | (go_at_call 14; refine (HDR.out _ (HXm.below b6)).mono ?_; rintro e w7 ⟨st7, s7, rfl, m7, t7, o7⟩))
                  have X7 : Hid (Duo w w7 L E D s7 (σ1 + M) q2 (ps 0)) := (HX1.out.grown b6).only APD.out o7 m7 t7
                  clear m7 t7 o7 y0 y1 y2 y3 y4 y5 y6 y7 y8 HDR HX1 PKB HXm v6 b6 HW1 HW2 k0 k1 k2 k3 k4 k5 k6 k7 k8
                  go_loopw [10, 20] (fun dv iv wr => ∃ (i : Nat) (s1 : Mm) (σ1 : Nat) (q : Q) (ph : Ph) (ps : Nat → Dp), dv = .bool (ps 0).over? ∧ iv = .int .i64 i ∧ i ≤ 60 ∧ σ1 ≤ 900 + i ∧ Duo w wr L E D s1 σ1 q (ps 0) ∧ Gang 2 4 4 20 100 0 1 A Z 0 vL false q ph 2 ps ∧ Lv 0 Z q 2 ps R ∧ ps 1 = .over E1 ∧ (dmu q A (verOf' vL + 1) Z vL ph (ps 0) + i ≤ 56 ∨ (ps 0).over? = true)) (fun _ iv _ => 200 - (intOf iv).toNat)
                  case atStart => exact ⟨0, s7, σ1 + M, q2, ph2, pq, by rw [HPS.out.1]; first | done | rw [hov], rfl, by omega, by omega, by rw [HPS.out.1]; exact X7.out, HG2.out, HL2.out, HPS.out.2, by rw [HPS.out.1]; exact HDM.out⟩
                  case round =>
                    clear X7 HG2 HL2 HPS HDM
                    obtain ⟨i, s1, σ1, q, ph, ps, rfl, rfl, hi60, hσ, X, G, LV, hE1, hdm⟩ := hrel
                    have hi200 : (i : Int) < 200 := by omega
                    cases hov : (ps 0).over? with
                    | false =>
                      have hdm' : dmu q A (verOf' vL + 1) Z vL ph (ps 0) + i ≤ 56 := by
                        rcases hdm with h | h
                        · exact h
                        · rw [hov] at h; cases h
                      obtain ⟨q2, α', ht⟩ : ∃ q' α', dpTurn 2 4 4 20 100 false 0 1 q (ps 0) = (q', α') := ⟨_, _, rfl⟩
                      have hF := X.tw.pile.hdle
                      obtain ⟨ph', G', m1, -⟩ := G.step (K := 0) (by decide) hF (by decide) hov ht
                      have gd := G.good (K := 0) (by decide) hF (by decide) hov
                      have LV' := LV.step G (K := 0) (by decide) (by decide) hov ht
                      obtain ⟨d9, hd9⟩ : ∃ d9, α'.over? = d9 := ⟨_, rfl⟩
                      have ST := X.step APD.out (by omega) G.sc.wd gd hov ht hd9
                      have hdm2 : dmu q2 A (verOf' vL + 1) Z vL ph' α' + (i + 1) ≤ 56 := by omega
                      have hi56 : i + 1 ≤ 56 := by omega
                      have HH : Hid (Gang 2 4 4 20 100 0 1 A Z 0 vL false q2 ph' 2 (upd ps 0 α') ∧ Lv 0 Z q2 2 (upd ps 0 α') R ∧ dmu q2 A (verOf' vL + 1) Z vL ph' α' + (i + 1) ≤ 56 ∧ upd ps 0 α' 1 = .over E1) := ⟨G', LV', hdm2, by rw [upd_other _ _ _ _ (by decide)]; exact hE1⟩
                      have y0 := X.v.c0
                      have y1 := X.v.c1
                      have y2 := X.v.c2
                      have y3 := X.v.c3
                      have y4 := X.v.c4
                      have y5 := X.v.c5
                      have y6 := X.v.c6
                      have y7 := X.v.c7
                      have y8 := X.v.c8
                      clear X G G' LV LV' gd m1 hF hdm hdm' hdm2 ht hE1
                      go_wp2_with (go_at_call 23; refine ST.mono ?_; rintro e w8 ⟨rfl, s8, X8⟩)
                      go_roundw
                      case rel => exact ⟨i + 1, s8, σ1 + 1, q2, ph', upd ps 0 α', by rw [upd_same, hd9], by go_num, by omega, by omega, by rw [upd_same]; exact X8, HH.out.1, HH.out.2.1, HH.out.2.2.2, Or.inl (by rw [upd_same]; exact HH.out.2.2.1)⟩
                      case measure => simp [intOf]; omega
                    | true =>
                      obtain ⟨E0, hE0⟩ : ∃ E0, ps 0 = .over E0 := by
                        cases e : ps 0 with
                        | over E => exact ⟨E, rfl⟩
                        | _ => rw [e] at hov; cases hov
                      obtain ⟨hEE, hlv⟩ := pair_end G LV hE0 hE1
                      have HP0 : Hid (s1.wd 17 = 0) := by
                        have := X.tw.lvv 0 (by decide)
                        rw [hlv, HR0.out] at this
                        exact this
                      have hpk17 : 17 < s1.n := by have := X.tw.len; omega
                      obtain ⟨cs1, u1, d1, i1⟩ := X.dp
                      rw [hE0] at i1
                      have hnx := i1.nx
                      have hE := i1.E
                      have HD : Hid (Duo w wr L E D s1 σ1 q (ps 0)) := X
                      clear X G LV hdm hlv hE1 hE0 hσ hi60
                      rcases hEE with ⟨rfl, rfl⟩ | ⟨rfl, rfl⟩
                      · have hE : u1.E = 0 := hE
                        go_wp2_with (go_at_call 24; refine (ddone_over d1 hnx).mono ?_; rintro e w9 ⟨rfl, b9⟩; rw [show u1.E = 0 from hE])
                        refine wp_over (fun W => MemAt W L s1 ∧ BoxV W E 2 4 4 20 100 600 3 L.p 0 ∧ Below w.heap.size w W) ⟨HD.out.mm.below b9, HD.out.v.grown b9, grow HD.out.b b9⟩ ?_
                        clear b9 HD d1 hnx hE i1
                        rintro W ⟨m1, v1, b1⟩
                        refine wp_region_rely Grown [.val (.bool true), .val (.bool true), .val (.pointer none), .val (.bool false), .val (.bool true), .val (.bool true), .val (.bool true), .val (.int .i64 0), .val (.bool true), .val (.int .i64 3), .val (.bool false), .val (.bool true), .val (.bool true), .val (.bool true), .val (.int .i64 0), .val (.bool false), .val (.int .i64 3), .val (.bool true), .val (.bool true), .val (.bool true), .val (.bool true), .val (.pointer (some ⟨E, 7, none⟩)), .val (.pointer (some ⟨L.p, 0, none⟩)), .val (.pointer (some ⟨E, 0, none⟩)), .val (.agg #[.int .i64 2, .int .i64 4, .int .i64 4, .int .i64 20, .int .i64 100, .int .i64 600, .int .i64 3]), .val (.int .i64 (6 + 2 + 4 * 2 + 0 * 3)), .val (.int .i64 ((17 : Nat) : Int)), .val (.int .u64 0), .val (.bool true), .val (.bool true), .val (.bool true)] (by kernel_rfl) Grown.refl Grown.trans (by kernel_rfl) (by kernel_rfl) (by kernel_rfl) ?_
                        simp only [relyAll, Act.put, List.setIfInBounds_toArray, List.set_cons_zero, List.set_cons_succ]
                        refine ⟨?_, ?_, ?_, ?_, ?_, ?_, ?_, ?_, ?_, ?_, ?_, ?_, ?_, ?_, ?_, ?_, ?_, ?_, ?_, ?_, ?_, ?_, ?_, ?_, ?_, ?_, ?_, ?_, ?_, ?_, ?_, ?_⟩
                        · intro w' hg _
                          refine Or.inl ⟨rfl, ?_⟩
                          go_simp
                          exact ⟨Grown.refl _, rfl⟩
                        · intro w' hg _
                          refine Or.inl ⟨rfl, ?_⟩
                          go_simp
                          exact ⟨Grown.refl _, rfl⟩
                        · intro w' hg _
                          refine Or.inl ⟨rfl, ?_⟩
                          go_simp
                          exact ⟨Grown.refl _, rfl⟩
                        · intro w' hg _
                          refine Or.inl ⟨rfl, ?_⟩
                          go_simp
                          refine (hwon_nil _).mono ?_
                          rintro e w'' ⟨rfl, rfl⟩
                          exact ⟨_, rfl, Grown.refl _, rfl⟩
                        · intro w' hg _
                          refine Or.inl ⟨rfl, ?_⟩
                          go_simp
                          exact ⟨Grown.refl _, rfl⟩
                        · intro w' hg _
                          refine Or.inl ⟨rfl, ?_⟩
                          go_simp
                          exact ⟨Grown.refl _, rfl⟩
                        · intro w' hg _
                          refine Or.inl ⟨rfl, ?_⟩
                          go_simp
                          exact ⟨Grown.refl _, rfl⟩
                        · intro w' hg _
                          refine Or.inl ⟨rfl, ?_⟩
                          go_simp
                          exact ⟨Grown.refl _, rfl⟩
                        · intro w' hg _
                          refine Or.inl ⟨rfl, ?_⟩
                          go_simp
                          exact ⟨Grown.refl _, rfl⟩
                        · intro w' hg _
                          refine Or.inl ⟨rfl, ?_⟩
                          go_simp
                          exact ⟨Grown.refl _, rfl⟩
                        · intro w' hg _
                          refine Or.inl ⟨rfl, ?_⟩
                          go_simp
                          exact ⟨Grown.refl _, rfl⟩
                        · intro w' hg _
                          refine Or.inl ⟨rfl, ?_⟩
                          go_simp
                          exact ⟨Grown.refl _, rfl⟩
                        · intro w' hg _
                          refine Or.inl ⟨rfl, ?_⟩
                          go_simp
                          exact ⟨Grown.refl _, rfl⟩
                        · intro w' hg _
                          refine Or.inl ⟨rfl, ?_⟩
                          go_simp
                          exact ⟨Grown.refl _, rfl⟩
                        · intro w' hg _
                          refine Or.inl ⟨rfl, ?_⟩
                          go_simp
                          exact ⟨Grown.refl _, rfl⟩
                        · intro w' hg _
                          refine Or.inl ⟨rfl, ?_⟩
                          go_simp
                          exact ⟨Grown.refl _, rfl⟩
                        · intro w' hg _
                          refine Or.inl ⟨rfl, ?_⟩
                          go_simp
                          exact ⟨Grown.refl _, rfl⟩
                        · intro w' hg _
                          refine Or.inl ⟨rfl, ?_⟩
                          go_simp
                          exact ⟨Grown.refl _, rfl⟩
                        · intro w' hg _
                          refine Or.inl ⟨rfl, ?_⟩
                          go_simp
                          exact ⟨Grown.refl _, rfl⟩
                        · intro w' hg _
                          refine Or.inl ⟨rfl, ?_⟩
                          go_simp
                          exact ⟨Grown.refl _, rfl⟩
                        · intro w' hg _
                          refine Or.inl ⟨rfl, ?_⟩
                          go_simp
                          exact ⟨Grown.refl _, rfl⟩
                        · intro w' hg _
                          refine Or.inl ⟨rfl, ?_⟩
                          go_simp
                          exact ⟨Grown.refl _, rfl⟩
                        · intro w' hg _
                          refine Or.inl ⟨rfl, ?_⟩
                          have vv := (v1.grown ((Below.refl _ _).drew)).grown hg
                          have y0 := vv.c0
                          have y1 := vv.c1
                          have y2 := vv.c2
                          have y3 := vv.c3
                          have y4 := vv.c4
                          have y5 := vv.c5
                          have y6 := vv.c6
                          have y7 := vv.c7
                          have y8 := vv.c8
                          go_simp
                          exact ⟨Grown.refl _, rfl⟩
                        · intro w' hg _
                          refine Or.inl ⟨rfl, ?_⟩
                          go_simp
                          exact ⟨Grown.refl _, rfl⟩
                        · intro w' hg _
                          refine Or.inl ⟨rfl, ?_⟩
                          have vv := (v1.grown ((Below.refl _ _).drew)).grown hg
                          have y0 := vv.c0
                          have y1 := vv.c1
                          have y2 := vv.c2
                          have y3 := vv.c3
                          have y4 := vv.c4
                          have y5 := vv.c5
                          have y6 := vv.c6
                          have y7 := vv.c7
                          have y8 := vv.c8
                          go_simp
                          exact ⟨Grown.refl _, rfl⟩
                        · intro w' hg _
                          refine Or.inl ⟨rfl, ?_⟩
                          go_simp
                          refine (lchunk_any _ _ _ _ _ _ _ 0 _ goodH.arena (by omega) (by omega)).mono ?_
                          rintro e w'' ⟨rfl, b9⟩
                          exact ⟨_, rfl, b9, rfl⟩
                        · intro w' hg _
                          refine Or.inl ⟨rfl, ?_⟩
                          go_simp
                          first
                            | exact ⟨Grown.refl _, rfl⟩
                            | exact ⟨Grown.refl _, congrArg (Value.int .i64) (by decide)⟩
                        · intro w' hg _
                          refine Or.inl ⟨rfl, ?_⟩
                          go_simp
                          refine (peek_is (m1.drew.below hg) 17 hpk17 0 HP0.out).mono ?_
                          rintro e w'' ⟨rfl, rfl⟩
                          exact ⟨_, rfl, Grown.refl _, rfl⟩
                        · intro w' hg _
                          refine Or.inl ⟨rfl, ?_⟩
                          go_simp
                          exact ⟨Grown.refl _, rfl⟩
                        · intro w' hg _
                          refine Or.inl ⟨rfl, ?_⟩
                          go_simp
                          exact ⟨Grown.refl _, rfl⟩
                        · intro w' hg _
                          refine Or.inl ⟨rfl, ?_⟩
                          go_simp
                          exact ⟨Grown.refl _, rfl⟩
                        intro w10 hg _
                        have b10 : Below w.heap.size w w10 := grow b1.drew hg
                        clear hg m1 v1 b1
                        go_wp2
                        go_ret
                        exact ⟨rfl, b10⟩
                      · have hE : u1.E = 3 := hE
                        go_wp2_with (go_at_call 24; refine (ddone_over d1 hnx).mono ?_; rintro e w9 ⟨rfl, b9⟩; rw [show u1.E = 3 from hE])
                        refine wp_over (fun W => MemAt W L s1 ∧ BoxV W E 2 4 4 20 100 600 3 L.p 0 ∧ Below w.heap.size w W) ⟨HD.out.mm.below b9, HD.out.v.grown b9, grow HD.out.b b9⟩ ?_
                        clear b9 HD d1 hnx hE i1
                        rintro W ⟨m1, v1, b1⟩
                        refine wp_region_rely Grown [.val (.bool true), .val (.bool true), .val (.pointer none), .val (.bool false), .val (.bool true), .val (.bool true), .val (.bool true), .val (.int .i64 3), .val (.bool false), .val (.int .i64 0), .val (.bool true), .val (.bool true), .val (.bool true), .val (.bool true), .val (.int .i64 3), .val (.bool true), .val (.int .i64 0), .val (.bool false), .val (.bool true), .val (.bool true), .val (.bool true), .val (.pointer (some ⟨E, 7, none⟩)), .val (.pointer (some ⟨L.p, 0, none⟩)), .val (.pointer (some ⟨E, 0, none⟩)), .val (.agg #[.int .i64 2, .int .i64 4, .int .i64 4, .int .i64 20, .int .i64 100, .int .i64 600, .int .i64 3]), .val (.int .i64 (6 + 2 + 4 * 2 + 0 * 3)), .val (.int .i64 ((17 : Nat) : Int)), .val (.int .u64 0), .val (.bool true), .val (.bool true), .val (.bool true)] (by kernel_rfl) Grown.refl Grown.trans (by kernel_rfl) (by kernel_rfl) (by kernel_rfl) ?_
                        simp only [relyAll, Act.put, List.setIfInBounds_toArray, List.set_cons_zero, List.set_cons_succ]
                        refine ⟨?_, ?_, ?_, ?_, ?_, ?_, ?_, ?_, ?_, ?_, ?_, ?_, ?_, ?_, ?_, ?_, ?_, ?_, ?_, ?_, ?_, ?_, ?_, ?_, ?_, ?_, ?_, ?_, ?_, ?_, ?_, ?_⟩
                        · intro w' hg _
                          refine Or.inl ⟨rfl, ?_⟩
                          go_simp
                          exact ⟨Grown.refl _, rfl⟩
                        · intro w' hg _
                          refine Or.inl ⟨rfl, ?_⟩
                          go_simp
                          exact ⟨Grown.refl _, rfl⟩
                        · intro w' hg _
                          refine Or.inl ⟨rfl, ?_⟩
                          go_simp
                          exact ⟨Grown.refl _, rfl⟩
                        · intro w' hg _
                          refine Or.inl ⟨rfl, ?_⟩
                          go_simp
                          refine (hwon_nil _).mono ?_
                          rintro e w'' ⟨rfl, rfl⟩
                          exact ⟨_, rfl, Grown.refl _, rfl⟩
                        · intro w' hg _
                          refine Or.inl ⟨rfl, ?_⟩
                          go_simp
                          exact ⟨Grown.refl _, rfl⟩
                        · intro w' hg _
                          refine Or.inl ⟨rfl, ?_⟩
                          go_simp
                          exact ⟨Grown.refl _, rfl⟩
                        · intro w' hg _
                          refine Or.inl ⟨rfl, ?_⟩
                          go_simp
                          exact ⟨Grown.refl _, rfl⟩
                        · intro w' hg _
                          refine Or.inl ⟨rfl, ?_⟩
                          go_simp
                          exact ⟨Grown.refl _, rfl⟩
                        · intro w' hg _
                          refine Or.inl ⟨rfl, ?_⟩
                          go_simp
                          exact ⟨Grown.refl _, rfl⟩
                        · intro w' hg _
                          refine Or.inl ⟨rfl, ?_⟩
                          go_simp
                          exact ⟨Grown.refl _, rfl⟩
                        · intro w' hg _
                          refine Or.inl ⟨rfl, ?_⟩
                          go_simp
                          exact ⟨Grown.refl _, rfl⟩
                        · intro w' hg _
                          refine Or.inl ⟨rfl, ?_⟩
                          go_simp
                          exact ⟨Grown.refl _, rfl⟩
                        · intro w' hg _
                          refine Or.inl ⟨rfl, ?_⟩
                          go_simp
                          exact ⟨Grown.refl _, rfl⟩
                        · intro w' hg _
                          refine Or.inl ⟨rfl, ?_⟩
                          go_simp
                          exact ⟨Grown.refl _, rfl⟩
                        · intro w' hg _
                          refine Or.inl ⟨rfl, ?_⟩
                          go_simp
                          exact ⟨Grown.refl _, rfl⟩
                        · intro w' hg _
                          refine Or.inl ⟨rfl, ?_⟩
                          go_simp
                          exact ⟨Grown.refl _, rfl⟩
                        · intro w' hg _
                          refine Or.inl ⟨rfl, ?_⟩
                          go_simp
                          exact ⟨Grown.refl _, rfl⟩
                        · intro w' hg _
                          refine Or.inl ⟨rfl, ?_⟩
                          go_simp
                          exact ⟨Grown.refl _, rfl⟩
                        · intro w' hg _
                          refine Or.inl ⟨rfl, ?_⟩
                          go_simp
                          exact ⟨Grown.refl _, rfl⟩
                        · intro w' hg _
                          refine Or.inl ⟨rfl, ?_⟩
                          go_simp
                          exact ⟨Grown.refl _, rfl⟩
                        · intro w' hg _
                          refine Or.inl ⟨rfl, ?_⟩
                          go_simp
                          exact ⟨Grown.refl _, rfl⟩
                        · intro w' hg _
                          refine Or.inl ⟨rfl, ?_⟩
                          go_simp
                          exact ⟨Grown.refl _, rfl⟩
                        · intro w' hg _
                          refine Or.inl ⟨rfl, ?_⟩
                          have vv := (v1.grown ((Below.refl _ _).drew)).grown hg
                          have y0 := vv.c0
                          have y1 := vv.c1
                          have y2 := vv.c2
                          have y3 := vv.c3
                          have y4 := vv.c4
                          have y5 := vv.c5
                          have y6 := vv.c6
                          have y7 := vv.c7
                          have y8 := vv.c8
                          go_simp
                          exact ⟨Grown.refl _, rfl⟩
                        · intro w' hg _
                          refine Or.inl ⟨rfl, ?_⟩
                          go_simp
                          exact ⟨Grown.refl _, rfl⟩
                        · intro w' hg _
                          refine Or.inl ⟨rfl, ?_⟩
                          have vv := (v1.grown ((Below.refl _ _).drew)).grown hg
                          have y0 := vv.c0
                          have y1 := vv.c1
                          have y2 := vv.c2
                          have y3 := vv.c3
                          have y4 := vv.c4
                          have y5 := vv.c5
                          have y6 := vv.c6
                          have y7 := vv.c7
                          have y8 := vv.c8
                          go_simp
                          exact ⟨Grown.refl _, rfl⟩
                        · intro w' hg _
                          refine Or.inl ⟨rfl, ?_⟩
                          go_simp
                          refine (lchunk_any _ _ _ _ _ _ _ 0 _ goodH.arena (by omega) (by omega)).mono ?_
                          rintro e w'' ⟨rfl, b9⟩
                          exact ⟨_, rfl, b9, rfl⟩
                        · intro w' hg _
                          refine Or.inl ⟨rfl, ?_⟩
                          go_simp
                          first
                            | exact ⟨Grown.refl _, rfl⟩
                            | exact ⟨Grown.refl _, congrArg (Value.int .i64) (by decide)⟩
                        · intro w' hg _
                          refine Or.inl ⟨rfl, ?_⟩
                          go_simp
                          refine (peek_is (m1.drew.below hg) 17 hpk17 0 HP0.out).mono ?_
                          rintro e w'' ⟨rfl, rfl⟩
                          exact ⟨_, rfl, Grown.refl _, rfl⟩
                        · intro w' hg _
                          refine Or.inl ⟨rfl, ?_⟩
                          go_simp
                          exact ⟨Grown.refl _, rfl⟩
                        · intro w' hg _
                          refine Or.inl ⟨rfl, ?_⟩
                          go_simp
                          exact ⟨Grown.refl _, rfl⟩
                        · intro w' hg _
                          refine Or.inl ⟨rfl, ?_⟩
                          go_simp
                          exact ⟨Grown.refl _, rfl⟩
                        intro w10 hg _
                        have b10 : Below w.heap.size w w10 := grow b1.drew hg
                        clear hg m1 v1 b1
                        go_wp2
                        go_ret
                        exact ⟨rfl, b10⟩
        · obtain ⟨vP, hvP⟩ : ∃ vP, ph.w 100 vL = vP := ⟨_, rfl⟩
          have HVP : Hid (s1.wd 8 = vP) := by rw [← hvP]; exact hvp0
          have wP : Wd vP := by
            have := X.tw.swb 0 (by decide)
            rw [G.sc.sw, hvP] at this
            exact this
          have IS := slotIs vP wP
          have h4 : vP % 8 ≠ 4 := by
            rw [← hvP]
            cases ph with
            | live => exact G.sc.ob.st
            | drop => exact absurd rfl hph
            | gone => intro e; rcases behind_st 100 vL with h | h <;> (rw [show (Ph.gone.w 100 vL) = behindW 100 vL from rfl] at e; omega)
          obtain ⟨st0, hst0⟩ : ∃ st0, vP % 8 = st0 := ⟨_, rfl⟩
          obtain ⟨a0, ha0⟩ : ∃ a0, adOf vP = a0 := ⟨_, rfl⟩
          obtain ⟨g0, hg0⟩ : ∃ g0, genOf vP = g0 := ⟨_, rfl⟩
          obtain ⟨v0, hv0⟩ : ∃ v0, verOf' vP = v0 := ⟨_, rfl⟩
          rw [hst0] at h4 IS
          rw [ha0, hg0, hv0] at IS
          have X1 := X
          have e0 := X.v.c0
          have e1 := X.v.c1
          have e2 := X.v.c2
          have e3 := X.v.c3
          have e4 := X.v.c4
          have e5 := X.v.c5
          have e6 := X.v.c6
          have e7 := X.v.c7
          have e8 := X.v.c8
          have PK := fun (w' : World) (m' : MemAt w' L s1) => peek_is m' 8 hpk8 vP HVP.out
          have HXm := X.mm
          clear X hvP hst0 ha0 hg0 hv0 hvp0 wP hph 
          have hdm : dmu q A (verOf' vL + 1) Z vL ph (ps 1) ≤ 56 := by
            rw [hps1]
            cases ph <;> (simp only [dmu]; omega)
          obtain ⟨M, q2, E1, ph2, hM, run, G2, LV2⟩ := Gang.alone (by decide) 56 G LV (K := 1) (by decide) X1.tw.pile.hdle hdm (by rw [hps1]; rfl)
          rw [hps1] at run
          have h2 : upd ps 1 (.over E1) 0 = ps 0 := upd_other _ _ _ _ (by decide)
          have h3 : upd ps 1 (.over E1) 1 = .over E1 := upd_same _ _ _
          obtain ⟨pq, hpq⟩ : ∃ pq, upd ps 1 (.over E1) = pq := ⟨_, rfl⟩
          rw [hpq] at G2 LV2 h2 h3
          have dm0 : dmu q2 A (verOf' vL + 1) Z vL ph2 (ps 0) ≤ 56 ∨ (ps 0).over? = true := Or.inl (dmu_top _ _ _ _ _ _ _ z2)
          have HDR : Hid (∀ w' : World, MemAt w' L s1 → Calls Tryz.prog 14 #[.agg #[.int .i64 2, .int .i64 4, .int .i64 4, .int .i64 20, .int .i64 100, .int .i64 600, .int .i64 3, .pointer (some ⟨L.p, 0, none⟩), .int .i64 0], .int .u64 65536, .bool false] w' fun e w'' => ∃ (st : Int) (s' : Mm), e = .returned (.agg #[.int .i64 E1, .int .u64 0, .int .i64 0, .int .i64 st]) ∧ MemAt w'' L s' ∧ Town 2 4 4 20 s' (σ1 + M) q2 ∧ Only L.has w' w'') := fun w' m' => drop_goes m' X1.tw goodH G.sc.wd hand1 (by decide) (by omega) (by omega) run
          have HX1 : Hid (Duo w _ L E D s1 σ1 q (ps 0)) := X1
          have HG2 : Hid (Gang 2 4 4 20 100 0 1 A Z 0 vL false q2 ph2 2 pq) := G2
          have HL2 : Hid (Lv 0 Z q2 2 pq R) := LV2
          have HPS : Hid (pq 0 = ps 0 ∧ pq 1 = .over E1) := ⟨h2, h3⟩
          have y0 := X1.v.c0
          have y1 := X1.v.c1
          have y2 := X1.v.c2
          have y3 := X1.v.c3
          have y4 := X1.v.c4
          have y5 := X1.v.c5
          have y6 := X1.v.c6
          have y7 := X1.v.c7
          have y8 := X1.v.c8
          have HDM : Hid (dmu q2 A (verOf' vL + 1) Z vL ph2 (ps 0) ≤ 56 ∨ (ps 0).over? = true) := dm0
          clear run G2 LV2 h2 h3 hpq hdm X1 G LV dm0 hps1
          go_wp2_with (first
            | (go_at_call 18; refine (lslot_any _ _ _ _ _ _ _ 0 _ goodH.arena (by omega) (by omega)).mono ?_; rintro e w5 ⟨rfl, b5⟩; have m5 := HXm.below b5; have v5 := HX1.out.v.grown b5; have x0 := v5.c0; have x1 := v5.c1; have x2 := v5.c2; have x3 := v5.c3; have x4 := v5.c4; have x5 := v5.c5; have x6 := v5.c6; have x7 := v5.c7; have x8 := v5.c8)
            | (go_at_call 17; refine (PK _ m5).mono ?_; rintro e w5' ⟨rfl, rfl⟩)
            | (go_at_call 16; refine (IS.call _).mono ?_; rintro e w6 ⟨rfl, b6⟩; have v6 := (v5.grown b6).grown (grow1 _ (.cells #[.int .i64 st0, .int .i64 a0, .int .i64 g0, .int .i64 v0] 48)); have k0 := v6.c0; have k1 := v6.c1; have k2 := v6.c2; have k3 := v6.c3; have k4 := v6.c4; have k5 := v6.c5; have k6 := v6.c6; have k7 := v6.c7; have k8 := v6.c8)
            | (go_at_call 14; refine (HDR.out _ ((HXm.below b5).below b6 |>.alloc _)).mono ?_; rintro e w7 ⟨st7, s7, rfl, m7, t7, o7⟩))
          have X7 : Hid (Duo w w7 L E D s7 (σ1 + M) q2 (ps 0)) := (((HX1.out.grown b5).grown b6).grown (grow1 _ _)).only APD.out o7 m7 t7
          clear m7 t7 o7 y0 y1 y2 y3 y4 y5 y6 y7 y8 HDR HX1 PK HXm m5 v5 b5 v6 b6 x0 k0 e0 x1 k1 e1 x2 k2 e2 x3 k3 e3 x4 k4 e4 x5 k5 e5 x6 k6 e6 x7 k7 e7 x8 k8 e8
          go_loopw [10, 20] (fun dv iv wr => ∃ (i : Nat) (s1 : Mm) (σ1 : Nat) (q : Q) (ph : Ph) (ps : Nat → Dp), dv = .bool (ps 0).over? ∧ iv = .int .i64 i ∧ i ≤ 60 ∧ σ1 ≤ 900 + i ∧ Duo w wr L E D s1 σ1 q (ps 0) ∧ Gang 2 4 4 20 100 0 1 A Z 0 vL false q ph 2 ps ∧ Lv 0 Z q 2 ps R ∧ ps 1 = .over E1 ∧ (dmu q A (verOf' vL + 1) Z vL ph (ps 0) + i ≤ 56 ∨ (ps 0).over? = true)) (fun _ iv _ => 200 - (intOf iv).toNat)
          case atStart => exact ⟨0, s7, σ1 + M, q2, ph2, pq, by rw [HPS.out.1]; first | done | rw [hov], rfl, by omega, by omega, by rw [HPS.out.1]; exact X7.out, HG2.out, HL2.out, HPS.out.2, by rw [HPS.out.1]; exact HDM.out⟩
          case round =>
            clear X7 HG2 HL2 HPS HDM
            obtain ⟨i, s1, σ1, q, ph, ps, rfl, rfl, hi60, hσ, X, G, LV, hE1, hdm⟩ := hrel
            have hi200 : (i : Int) < 200 := by omega
            cases hov : (ps 0).over? with
            | false =>
              have hdm' : dmu q A (verOf' vL + 1) Z vL ph (ps 0) + i ≤ 56 := by
                rcases hdm with h | h
                · exact h
                · rw [hov] at h; cases h
              obtain ⟨q2, α', ht⟩ : ∃ q' α', dpTurn 2 4 4 20 100 false 0 1 q (ps 0) = (q', α') := ⟨_, _, rfl⟩
              have hF := X.tw.pile.hdle
              obtain ⟨ph', G', m1, -⟩ := G.step (K := 0) (by decide) hF (by decide) hov ht
              have gd := G.good (K := 0) (by decide) hF (by decide) hov
              have LV' := LV.step G (K := 0) (by decide) (by decide) hov ht
              obtain ⟨d9, hd9⟩ : ∃ d9, α'.over? = d9 := ⟨_, rfl⟩
              have ST := X.step APD.out (by omega) G.sc.wd gd hov ht hd9
              have hdm2 : dmu q2 A (verOf' vL + 1) Z vL ph' α' + (i + 1) ≤ 56 := by omega
              have hi56 : i + 1 ≤ 56 := by omega
              have HH : Hid (Gang 2 4 4 20 100 0 1 A Z 0 vL false q2 ph' 2 (upd ps 0 α') ∧ Lv 0 Z q2 2 (upd ps 0 α') R ∧ dmu q2 A (verOf' vL + 1) Z vL ph' α' + (i + 1) ≤ 56 ∧ upd ps 0 α' 1 = .over E1) := ⟨G', LV', hdm2, by rw [upd_other _ _ _ _ (by decide)]; exact hE1⟩
              have y0 := X.v.c0
              have y1 := X.v.c1
              have y2 := X.v.c2
              have y3 := X.v.c3
              have y4 := X.v.c4
              have y5 := X.v.c5
              have y6 := X.v.c6
              have y7 := X.v.c7
              have y8 := X.v.c8
              clear X G G' LV LV' gd m1 hF hdm hdm' hdm2 ht hE1
              go_wp2_with (go_at_call 23; refine ST.mono ?_; rintro e w8 ⟨rfl, s8, X8⟩)
              go_roundw
              case rel => exact ⟨i + 1, s8, σ1 + 1, q2, ph', upd ps 0 α', by rw [upd_same, hd9], by go_num, by omega, by omega, by rw [upd_same]; exact X8, HH.out.1, HH.out.2.1, HH.out.2.2.2, Or.inl (by rw [upd_same]; exact HH.out.2.2.1)⟩
              case measure => simp [intOf]; omega
            | true =>
              obtain ⟨E0, hE0⟩ : ∃ E0, ps 0 = .over E0 := by
                cases e : ps 0 with
                | over E => exact ⟨E, rfl⟩
                | _ => rw [e] at hov; cases hov
              obtain ⟨hEE, hlv⟩ := pair_end G LV hE0 hE1
              have HP0 : Hid (s1.wd 17 = 0) := by
                have := X.tw.lvv 0 (by decide)
                rw [hlv, HR0.out] at this
                exact this
              have hpk17 : 17 < s1.n := by have := X.tw.len; omega
              obtain ⟨cs1, u1, d1, i1⟩ := X.dp
              rw [hE0] at i1
              have hnx := i1.nx
              have hE := i1.E
              have HD : Hid (Duo w wr L E D s1 σ1 q (ps 0)) := X
              clear X G LV hdm hlv hE1 hE0 hσ hi60
              rcases hEE with ⟨rfl, rfl⟩ | ⟨rfl, rfl⟩
              · have hE : u1.E = 0 := hE
                go_wp2_with (go_at_call 24; refine (ddone_over d1 hnx).mono ?_; rintro e w9 ⟨rfl, b9⟩; rw [show u1.E = 0 from hE])
                refine wp_over (fun W => MemAt W L s1 ∧ BoxV W E 2 4 4 20 100 600 3 L.p 0 ∧ Below w.heap.size w W) ⟨HD.out.mm.below b9, HD.out.v.grown b9, grow HD.out.b b9⟩ ?_
                clear b9 HD d1 hnx hE i1
                rintro W ⟨m1, v1, b1⟩
                refine wp_region_rely Grown [.val (.bool true), .val (.bool true), .val (.pointer none), .val (.bool false), .val (.bool true), .val (.bool true), .val (.bool true), .val (.int .i64 0), .val (.bool true), .val (.int .i64 3), .val (.bool false), .val (.bool true), .val (.bool true), .val (.bool true), .val (.int .i64 0), .val (.bool false), .val (.int .i64 3), .val (.bool true), .val (.bool true), .val (.bool true), .val (.bool true), .val (.pointer (some ⟨E, 7, none⟩)), .val (.pointer (some ⟨L.p, 0, none⟩)), .val (.pointer (some ⟨E, 0, none⟩)), .val (.agg #[.int .i64 2, .int .i64 4, .int .i64 4, .int .i64 20, .int .i64 100, .int .i64 600, .int .i64 3]), .val (.int .i64 (6 + 2 + 4 * 2 + 0 * 3)), .val (.int .i64 ((17 : Nat) : Int)), .val (.int .u64 0), .val (.bool true), .val (.bool true), .val (.bool true)] (by kernel_rfl) Grown.refl Grown.trans (by kernel_rfl) (by kernel_rfl) (by kernel_rfl) ?_
                simp only [relyAll, Act.put, List.setIfInBounds_toArray, List.set_cons_zero, List.set_cons_succ]
                refine ⟨?_, ?_, ?_, ?_, ?_, ?_, ?_, ?_, ?_, ?_, ?_, ?_, ?_, ?_, ?_, ?_, ?_, ?_, ?_, ?_, ?_, ?_, ?_, ?_, ?_, ?_, ?_, ?_, ?_, ?_, ?_, ?_⟩
                · intro w' hg _
                  refine Or.inl ⟨rfl, ?_⟩
                  go_simp
                  exact ⟨Grown.refl _, rfl⟩
                · intro w' hg _
                  refine Or.inl ⟨rfl, ?_⟩
                  go_simp
                  exact ⟨Grown.refl _, rfl⟩
                · intro w' hg _
                  refine Or.inl ⟨rfl, ?_⟩
                  go_simp
                  exact ⟨Grown.refl _, rfl⟩
                · intro w' hg _
                  refine Or.inl ⟨rfl, ?_⟩
                  go_simp
                  refine (hwon_nil _).mono ?_
                  rintro e w'' ⟨rfl, rfl⟩
                  exact ⟨_, rfl, Grown.refl _, rfl⟩
                · intro w' hg _
                  refine Or.inl ⟨rfl, ?_⟩
                  go_simp
                  exact ⟨Grown.refl _, rfl⟩
                · intro w' hg _
                  refine Or.inl ⟨rfl, ?_⟩
                  go_simp
                  exact ⟨Grown.refl _, rfl⟩
                · intro w' hg _
                  refine Or.inl ⟨rfl, ?_⟩
                  go_simp
                  exact ⟨Grown.refl _, rfl⟩
                · intro w' hg _
                  refine Or.inl ⟨rfl, ?_⟩
                  go_simp
                  exact ⟨Grown.refl _, rfl⟩
                · intro w' hg _
                  refine Or.inl ⟨rfl, ?_⟩
                  go_simp
                  exact ⟨Grown.refl _, rfl⟩
                · intro w' hg _
                  refine Or.inl ⟨rfl, ?_⟩
                  go_simp
                  exact ⟨Grown.refl _, rfl⟩
                · intro w' hg _
                  refine Or.inl ⟨rfl, ?_⟩
                  go_simp
                  exact ⟨Grown.refl _, rfl⟩
                · intro w' hg _
                  refine Or.inl ⟨rfl, ?_⟩
                  go_simp
                  exact ⟨Grown.refl _, rfl⟩
                · intro w' hg _
                  refine Or.inl ⟨rfl, ?_⟩
                  go_simp
                  exact ⟨Grown.refl _, rfl⟩
                · intro w' hg _
                  refine Or.inl ⟨rfl, ?_⟩
                  go_simp
                  exact ⟨Grown.refl _, rfl⟩
                · intro w' hg _
                  refine Or.inl ⟨rfl, ?_⟩
                  go_simp
                  exact ⟨Grown.refl _, rfl⟩
                · intro w' hg _
                  refine Or.inl ⟨rfl, ?_⟩
                  go_simp
                  exact ⟨Grown.refl _, rfl⟩
                · intro w' hg _
                  refine Or.inl ⟨rfl, ?_⟩
                  go_simp
                  exact ⟨Grown.refl _, rfl⟩
                · intro w' hg _
                  refine Or.inl ⟨rfl, ?_⟩
                  go_simp
                  exact ⟨Grown.refl _, rfl⟩
                · intro w' hg _
                  refine Or.inl ⟨rfl, ?_⟩
                  go_simp
                  exact ⟨Grown.refl _, rfl⟩
                · intro w' hg _
                  refine Or.inl ⟨rfl, ?_⟩
                  go_simp
                  exact ⟨Grown.refl _, rfl⟩
                · intro w' hg _
                  refine Or.inl ⟨rfl, ?_⟩
                  go_simp
                  exact ⟨Grown.refl _, rfl⟩
                · intro w' hg _
                  refine Or.inl ⟨rfl, ?_⟩
                  go_simp
                  exact ⟨Grown.refl _, rfl⟩
                · intro w' hg _
                  refine Or.inl ⟨rfl, ?_⟩
                  have vv := (v1.grown ((Below.refl _ _).drew)).grown hg
                  have y0 := vv.c0
                  have y1 := vv.c1
                  have y2 := vv.c2
                  have y3 := vv.c3
                  have y4 := vv.c4
                  have y5 := vv.c5
                  have y6 := vv.c6
                  have y7 := vv.c7
                  have y8 := vv.c8
                  go_simp
                  exact ⟨Grown.refl _, rfl⟩
                · intro w' hg _
                  refine Or.inl ⟨rfl, ?_⟩
                  go_simp
                  exact ⟨Grown.refl _, rfl⟩
                · intro w' hg _
                  refine Or.inl ⟨rfl, ?_⟩
                  have vv := (v1.grown ((Below.refl _ _).drew)).grown hg
                  have y0 := vv.c0
                  have y1 := vv.c1
                  have y2 := vv.c2
                  have y3 := vv.c3
                  have y4 := vv.c4
                  have y5 := vv.c5
                  have y6 := vv.c6
                  have y7 := vv.c7
                  have y8 := vv.c8
                  go_simp
                  exact ⟨Grown.refl _, rfl⟩
                · intro w' hg _
                  refine Or.inl ⟨rfl, ?_⟩
                  go_simp
                  refine (lchunk_any _ _ _ _ _ _ _ 0 _ goodH.arena (by omega) (by omega)).mono ?_
                  rintro e w'' ⟨rfl, b9⟩
                  exact ⟨_, rfl, b9, rfl⟩
                · intro w' hg _
                  refine Or.inl ⟨rfl, ?_⟩
                  go_simp
                  first
                    | exact ⟨Grown.refl _, rfl⟩
                    | exact ⟨Grown.refl _, congrArg (Value.int .i64) (by decide)⟩
                · intro w' hg _
                  refine Or.inl ⟨rfl, ?_⟩
                  go_simp
                  refine (peek_is (m1.drew.below hg) 17 hpk17 0 HP0.out).mono ?_
                  rintro e w'' ⟨rfl, rfl⟩
                  exact ⟨_, rfl, Grown.refl _, rfl⟩
                · intro w' hg _
                  refine Or.inl ⟨rfl, ?_⟩
                  go_simp
                  exact ⟨Grown.refl _, rfl⟩
                · intro w' hg _
                  refine Or.inl ⟨rfl, ?_⟩
                  go_simp
                  exact ⟨Grown.refl _, rfl⟩
                · intro w' hg _
                  refine Or.inl ⟨rfl, ?_⟩
                  go_simp
                  exact ⟨Grown.refl _, rfl⟩
                intro w10 hg _
                have b10 : Below w.heap.size w w10 := grow b1.drew hg
                clear hg m1 v1 b1
                go_wp2
                go_ret
                exact ⟨rfl, b10⟩
              · have hE : u1.E = 3 := hE
                go_wp2_with (go_at_call 24; refine (ddone_over d1 hnx).mono ?_; rintro e w9 ⟨rfl, b9⟩; rw [show u1.E = 3 from hE])
                refine wp_over (fun W => MemAt W L s1 ∧ BoxV W E 2 4 4 20 100 600 3 L.p 0 ∧ Below w.heap.size w W) ⟨HD.out.mm.below b9, HD.out.v.grown b9, grow HD.out.b b9⟩ ?_
                clear b9 HD d1 hnx hE i1
                rintro W ⟨m1, v1, b1⟩
                refine wp_region_rely Grown [.val (.bool true), .val (.bool true), .val (.pointer none), .val (.bool false), .val (.bool true), .val (.bool true), .val (.bool true), .val (.int .i64 3), .val (.bool false), .val (.int .i64 0), .val (.bool true), .val (.bool true), .val (.bool true), .val (.bool true), .val (.int .i64 3), .val (.bool true), .val (.int .i64 0), .val (.bool false), .val (.bool true), .val (.bool true), .val (.bool true), .val (.pointer (some ⟨E, 7, none⟩)), .val (.pointer (some ⟨L.p, 0, none⟩)), .val (.pointer (some ⟨E, 0, none⟩)), .val (.agg #[.int .i64 2, .int .i64 4, .int .i64 4, .int .i64 20, .int .i64 100, .int .i64 600, .int .i64 3]), .val (.int .i64 (6 + 2 + 4 * 2 + 0 * 3)), .val (.int .i64 ((17 : Nat) : Int)), .val (.int .u64 0), .val (.bool true), .val (.bool true), .val (.bool true)] (by kernel_rfl) Grown.refl Grown.trans (by kernel_rfl) (by kernel_rfl) (by kernel_rfl) ?_
                simp only [relyAll, Act.put, List.setIfInBounds_toArray, List.set_cons_zero, List.set_cons_succ]
                refine ⟨?_, ?_, ?_, ?_, ?_, ?_, ?_, ?_, ?_, ?_, ?_, ?_, ?_, ?_, ?_, ?_, ?_, ?_, ?_, ?_, ?_, ?_, ?_, ?_, ?_, ?_, ?_, ?_, ?_, ?_, ?_, ?_⟩
                · intro w' hg _
                  refine Or.inl ⟨rfl, ?_⟩
                  go_simp
                  exact ⟨Grown.refl _, rfl⟩
                · intro w' hg _
                  refine Or.inl ⟨rfl, ?_⟩
                  go_simp
                  exact ⟨Grown.refl _, rfl⟩
                · intro w' hg _
                  refine Or.inl ⟨rfl, ?_⟩
                  go_simp
                  exact ⟨Grown.refl _, rfl⟩
                · intro w' hg _
                  refine Or.inl ⟨rfl, ?_⟩
                  go_simp
                  refine (hwon_nil _).mono ?_
                  rintro e w'' ⟨rfl, rfl⟩
                  exact ⟨_, rfl, Grown.refl _, rfl⟩
                · intro w' hg _
                  refine Or.inl ⟨rfl, ?_⟩
                  go_simp
                  exact ⟨Grown.refl _, rfl⟩
                · intro w' hg _
                  refine Or.inl ⟨rfl, ?_⟩
                  go_simp
                  exact ⟨Grown.refl _, rfl⟩
                · intro w' hg _
                  refine Or.inl ⟨rfl, ?_⟩
                  go_simp
                  exact ⟨Grown.refl _, rfl⟩
                · intro w' hg _
                  refine Or.inl ⟨rfl, ?_⟩
                  go_simp
                  exact ⟨Grown.refl _, rfl⟩
                · intro w' hg _
                  refine Or.inl ⟨rfl, ?_⟩
                  go_simp
                  exact ⟨Grown.refl _, rfl⟩
                · intro w' hg _
                  refine Or.inl ⟨rfl, ?_⟩
                  go_simp
                  exact ⟨Grown.refl _, rfl⟩
                · intro w' hg _
                  refine Or.inl ⟨rfl, ?_⟩
                  go_simp
                  exact ⟨Grown.refl _, rfl⟩
                · intro w' hg _
                  refine Or.inl ⟨rfl, ?_⟩
                  go_simp
                  exact ⟨Grown.refl _, rfl⟩
                · intro w' hg _
                  refine Or.inl ⟨rfl, ?_⟩
                  go_simp
                  exact ⟨Grown.refl _, rfl⟩
                · intro w' hg _
                  refine Or.inl ⟨rfl, ?_⟩
                  go_simp
                  exact ⟨Grown.refl _, rfl⟩
                · intro w' hg _
                  refine Or.inl ⟨rfl, ?_⟩
                  go_simp
                  exact ⟨Grown.refl _, rfl⟩
                · intro w' hg _
                  refine Or.inl ⟨rfl, ?_⟩
                  go_simp
                  exact ⟨Grown.refl _, rfl⟩
                · intro w' hg _
                  refine Or.inl ⟨rfl, ?_⟩
                  go_simp
                  exact ⟨Grown.refl _, rfl⟩
                · intro w' hg _
                  refine Or.inl ⟨rfl, ?_⟩
                  go_simp
                  exact ⟨Grown.refl _, rfl⟩
                · intro w' hg _
                  refine Or.inl ⟨rfl, ?_⟩
                  go_simp
                  exact ⟨Grown.refl _, rfl⟩
                · intro w' hg _
                  refine Or.inl ⟨rfl, ?_⟩
                  go_simp
                  exact ⟨Grown.refl _, rfl⟩
                · intro w' hg _
                  refine Or.inl ⟨rfl, ?_⟩
                  go_simp
                  exact ⟨Grown.refl _, rfl⟩
                · intro w' hg _
                  refine Or.inl ⟨rfl, ?_⟩
                  go_simp
                  exact ⟨Grown.refl _, rfl⟩
                · intro w' hg _
                  refine Or.inl ⟨rfl, ?_⟩
                  have vv := (v1.grown ((Below.refl _ _).drew)).grown hg
                  have y0 := vv.c0
                  have y1 := vv.c1
                  have y2 := vv.c2
                  have y3 := vv.c3
                  have y4 := vv.c4
                  have y5 := vv.c5
                  have y6 := vv.c6
                  have y7 := vv.c7
                  have y8 := vv.c8
                  go_simp
                  exact ⟨Grown.refl _, rfl⟩
                · intro w' hg _
                  refine Or.inl ⟨rfl, ?_⟩
                  go_simp
                  exact ⟨Grown.refl _, rfl⟩
                · intro w' hg _
                  refine Or.inl ⟨rfl, ?_⟩
                  have vv := (v1.grown ((Below.refl _ _).drew)).grown hg
                  have y0 := vv.c0
                  have y1 := vv.c1
                  have y2 := vv.c2
                  have y3 := vv.c3
                  have y4 := vv.c4
                  have y5 := vv.c5
                  have y6 := vv.c6
                  have y7 := vv.c7
                  have y8 := vv.c8
                  go_simp
                  exact ⟨Grown.refl _, rfl⟩
                · intro w' hg _
                  refine Or.inl ⟨rfl, ?_⟩
                  go_simp
                  refine (lchunk_any _ _ _ _ _ _ _ 0 _ goodH.arena (by omega) (by omega)).mono ?_
                  rintro e w'' ⟨rfl, b9⟩
                  exact ⟨_, rfl, b9, rfl⟩
                · intro w' hg _
                  refine Or.inl ⟨rfl, ?_⟩
                  go_simp
                  first
                    | exact ⟨Grown.refl _, rfl⟩
                    | exact ⟨Grown.refl _, congrArg (Value.int .i64) (by decide)⟩
                · intro w' hg _
                  refine Or.inl ⟨rfl, ?_⟩
                  go_simp
                  refine (peek_is (m1.drew.below hg) 17 hpk17 0 HP0.out).mono ?_
                  rintro e w'' ⟨rfl, rfl⟩
                  exact ⟨_, rfl, Grown.refl _, rfl⟩
                · intro w' hg _
                  refine Or.inl ⟨rfl, ?_⟩
                  go_simp
                  exact ⟨Grown.refl _, rfl⟩
                · intro w' hg _
                  refine Or.inl ⟨rfl, ?_⟩
                  go_simp
                  exact ⟨Grown.refl _, rfl⟩
                · intro w' hg _
                  refine Or.inl ⟨rfl, ?_⟩
                  go_simp
                  exact ⟨Grown.refl _, rfl⟩
                intro w10 hg _
                have b10 : Below w.heap.size w w10 := grow b1.drew hg
                clear hg m1 v1 b1
                go_wp2
                go_ret
                exact ⟨rfl, b10⟩
    · skip
      have hi' : ¬ (i : Int) < bits .and .i64 steps 63 := by rw [hT]; omega
      have hpk8 : 8 < s1.n := by have := X.tw.len; omega
      have hvp0 := X.tw.swv 0 (by decide)
      rw [G.sc.sw] at hvp0
      by_cases hph : ph = .drop
      · subst hph
        obtain ⟨vD, hvD⟩ : ∃ vD, markW vL = vD := ⟨_, rfl⟩
        have HVP : Hid (s1.wd 8 = vD) := by rw [← hvD]; exact hvp0
        have wD : Wd vD := by rw [← hvD]; exact G.sc.ob.mark.wd
        have IS := slotIs vD wD
        rw [show vD % 8 = 4 by rw [← hvD]; exact G.sc.ob.m8] at IS
        have HX : Hid (Duo w wr L E D s1 σ1 q (ps 0)) := X
        have HG : Hid (Gang 2 4 4 20 100 0 1 A Z 0 vL false q .drop 2 ps) := G
        have HL : Hid (Lv 0 Z q 2 ps R) := LV
        have HP1 : Hid (ps 1 = .see) := hps1
        have HVD : Hid (markW vL = vD) := hvD
        obtain ⟨a0, ha0⟩ : ∃ a0, adOf vD = a0 := ⟨_, rfl⟩
        obtain ⟨g0, hg0⟩ : ∃ g0, genOf vD = g0 := ⟨_, rfl⟩
        obtain ⟨v0, hv0⟩ : ∃ v0, verOf' vD = v0 := ⟨_, rfl⟩
        rw [ha0, hg0, hv0] at IS
        have PK := fun (w' : World) (m' : MemAt w' L s1) => peek_is m' 8 hpk8 vD HVP.out
        have HXm := X.mm
        have HXv := X.v
        have y0 := X.v.c0
        have y1 := X.v.c1
        have y2 := X.v.c2
        have y3 := X.v.c3
        have y4 := X.v.c4
        have y5 := X.v.c5
        have y6 := X.v.c6
        have y7 := X.v.c7
        have y8 := X.v.c8
        clear X G LV hps1 hvp0 hvD ha0 hg0 hv0 wD 
        go_wp2_with (first
          | (go_at_call 18; refine (lslot_any _ _ _ _ _ _ _ 0 _ goodH.arena (by omega) (by omega)).mono ?_; rintro e w5 ⟨rfl, b5⟩; have m5 := HXm.below b5; have v5 := HXv.grown b5; have x0 := v5.c0; have x1 := v5.c1; have x2 := v5.c2; have x3 := v5.c3; have x4 := v5.c4; have x5 := v5.c5; have x6 := v5.c6; have x7 := v5.c7; have x8 := v5.c8)
          | (go_at_call 17; refine (PK _ m5).mono ?_; rintro e w5' ⟨rfl, rfl⟩)
          | (go_at_call 16; refine (IS.call _).mono ?_; rintro e w6 ⟨rfl, b6⟩)
          | (go_at_call 26; refine (newHelp_any _ _ _ _).mono ?_; rintro e w7 ⟨rfl, rfl⟩))
        obtain ⟨T0, TA⟩ := ((HX.out.grown b5).grown b6).trio APD.out (.cells #[.int .i64 4, .int .i64 a0, .int .i64 g0, .int .i64 v0] 48) vD Z
        obtain ⟨H2, hH2⟩ : ∃ H2, w6.heap.size + 1 + 1 = H2 := ⟨_, rfl⟩
        obtain ⟨H1, hH1⟩ : ∃ H1, w6.heap.size + 1 = H1 := ⟨_, rfl⟩
        rw [hH2, hH1] at T0 TA ⊢
        have T0 : Hid (Trio _ _ _ _ _ _ _ _ _ _ _ _ _) := T0
        have TA : Hid (TrioApart w L E D H1 H2) := TA
        clear hH1 hH2 PK HXm HXv IS HX m5 v5 b5 b6 y0 y1 y2 y3 y4 y5 y6 y7 y8 x0 x1 x2 x3 x4 x5 x6 x7 x8 HVP hpk8
        go_loopw [17] (fun iv wr => ∃ (j : Nat) (s2 : Mm) (σ2 : Nat) (q2 : Q) (η : Hp), iv = .int .i64 j ∧ j ≤ 48 ∧ σ2 ≤ 300 + j ∧ Trio w wr L E D H1 H2 s2 σ2 q2 (ps 0) η (.go vD Z 0 none) ∧ Gang 2 4 4 20 100 0 1 A Z 0 vL false q2 .drop 2 ps ∧ Lv 0 Z q2 2 ps R ∧ HpTh vL Z .drop η ∧ hpmu q2 A (verOf' vL + 1) Z η + j ≤ 48) (fun iv _ => 80 - (intOf iv).toNat)
        case atStart => exact ⟨0, _, _, _, .go vD Z 0 none, rfl, by omega, by omega, T0.out, HG.out, HL.out, ⟨HVD.out.symm, rfl, by decide, Or.inl rfl⟩, Nat.le_trans (hmu_up _ _ _ Z 0) (by omega)⟩
        case round =>
          clear T0 HG HL
          obtain ⟨j, s2, σ2, q2, η, rfl, hj, hσ2, X, G, LV, HT, hmu⟩ := hrel
          have hj80 : (j : Int) < 80 := by omega
          obtain ⟨q3, η', ht⟩ : ∃ q' η', hpTurn 100 0 q2 η = (q', η') := ⟨_, _, rfl⟩
          obtain ⟨⟨gd, ho⟩, hlv, alt⟩ := G.help HT ht
          have ST := fun d hd => X.step1 TA.out (by omega) G.sc.wd gd ho ht (d := d) hd
          have LV' := LV.same hlv
          have y0 := X.duo.v.c0
          have y1 := X.duo.v.c1
          have y2 := X.duo.v.c2
          have y3 := X.duo.v.c3
          have y4 := X.duo.v.c4
          have y5 := X.duo.v.c5
          have y6 := X.duo.v.c6
          have y7 := X.duo.v.c7
          have y8 := X.duo.v.c8
          rcases alt with ⟨G', HT', mu⟩ | ⟨G', e9⟩
          · have ST' := ST false HT'.on
            have hj1 : j + 1 ≤ 48 := by omega
            have HH : Hid (Gang 2 4 4 20 100 0 1 A Z 0 vL false q3 .drop 2 ps ∧ Lv 0 Z q3 2 ps R ∧ HpTh vL Z .drop η' ∧ hpmu q3 A (verOf' vL + 1) Z η' + (j + 1) ≤ 48) := ⟨G', LV', HT', by omega⟩
            clear ST X G LV LV' HT HT' G' mu gd ho hlv ht
            go_wp2_with (go_at_call 27; refine ST'.mono ?_; rintro e w8 ⟨rfl, s8, X8⟩)
            go_roundw
            case rel => exact ⟨j + 1, s8, σ2 + 1, q3, η', by go_num, by omega, by omega, X8, HH.out.1, HH.out.2.1, HH.out.2.2.1, HH.out.2.2.2⟩
            case measure => simp [intOf]; omega
          · have e9 : η' = .over true := e9
            subst e9
            have ST' := ST true rfl
            have HG : Hid (Gang 2 4 4 20 100 0 1 A Z 0 vL false q3 .gone 2 ps) := G'
            have HL : Hid (Lv 0 Z q3 2 ps R) := LV'
            clear ST X G LV LV' HT G' gd ho hlv ht hmu
            go_wp2_with (go_at_call 27; refine ST'.mono ?_; rintro e w8 ⟨rfl, s8, X8⟩)
            have T0 : Hid (Trio w w8 L E D H2 H1 s8 (σ2 + 1) q3 (ps 0) (.go vD Z 0 none) (.over true)) := X8.swap
            clear X8 ST' y0 y1 y2 y3 y4 y5 y6 y7 y8
            have TA := TA.out.swap
            have TA : Hid (TrioApart w L E D H2 H1) := TA
            go_loopw [18] (fun iv wr => ∃ (j : Nat) (s2 : Mm) (σ2 : Nat) (q2 : Q) (η : Hp), iv = .int .i64 j ∧ j ≤ 48 ∧ σ2 ≤ 350 + j ∧ Trio w wr L E D H2 H1 s2 σ2 q2 (ps 0) η (.over true) ∧ Gang 2 4 4 20 100 0 1 A Z 0 vL false q2 .gone 2 ps ∧ Lv 0 Z q2 2 ps R ∧ HpTh vL Z .gone η ∧ hpmu q2 A (verOf' vL + 1) Z η + j ≤ 48) (fun iv _ => 80 - (intOf iv).toNat)
            case atStart => exact ⟨0, _, _, _, .go vD Z 0 none, rfl, by omega, by omega, T0.out, HG.out, HL.out, ⟨HVD.out.symm, rfl, by decide, Or.inl rfl⟩, Nat.le_trans (hmu_up _ _ _ Z 0) (by omega)⟩
            case round =>
              clear T0 HG HL
              obtain ⟨j, s2, σ2, q2, η, rfl, hj, hσ2, X, G, LV, HT, hmu⟩ := hrel
              have hj80 : (j : Int) < 80 := by omega
              obtain ⟨q3, η', ht⟩ : ∃ q' η', hpTurn 100 0 q2 η = (q', η') := ⟨_, _, rfl⟩
              obtain ⟨⟨gd, ho⟩, hlv, alt⟩ := G.help HT ht
              have ST := fun d hd => X.step1 TA.out (by omega) G.sc.wd gd ho ht (d := d) hd
              have LV' := LV.same hlv
              have y0 := X.duo.v.c0
              have y1 := X.duo.v.c1
              have y2 := X.duo.v.c2
              have y3 := X.duo.v.c3
              have y4 := X.duo.v.c4
              have y5 := X.duo.v.c5
              have y6 := X.duo.v.c6
              have y7 := X.duo.v.c7
              have y8 := X.duo.v.c8
              rcases alt with ⟨G', HT', mu⟩ | ⟨G', e9⟩
              · have ST' := ST false HT'.on
                have hj1 : j + 1 ≤ 48 := by omega
                have HH : Hid (Gang 2 4 4 20 100 0 1 A Z 0 vL false q3 .gone 2 ps ∧ Lv 0 Z q3 2 ps R ∧ HpTh vL Z .gone η' ∧ hpmu q3 A (verOf' vL + 1) Z η' + (j + 1) ≤ 48) := ⟨G', LV', HT', by omega⟩
                clear ST X G LV LV' HT HT' G' mu gd ho hlv ht
                go_wp2_with (go_at_call 27; refine ST'.mono ?_; rintro e w8 ⟨rfl, s8, X8⟩)
                go_roundw
                case rel => exact ⟨j + 1, s8, σ2 + 1, q3, η', by go_num, by omega, by omega, X8, HH.out.1, HH.out.2.1, HH.out.2.2.1, HH.out.2.2.2⟩
                case measure => simp [intOf]; omega
              · have e9 : η' = .over false := e9
                subst e9
                have ST' := ST true rfl
                have HG : Hid (Gang 2 4 4 20 100 0 1 A Z 0 vL false q3 .gone 2 ps) := G'
                have HL : Hid (Lv 0 Z q3 2 ps R) := LV'
                clear ST X G LV LV' HT G' gd ho hlv ht hmu
                go_wp2_with (go_at_call 27; refine ST'.mono ?_; rintro e w8 ⟨rfl, s8, X8⟩)
                have hσ9 : σ2 + 1 ≤ 400 := by omega
                obtain ⟨s1, hs1⟩ : ∃ s, s8 = s := ⟨_, rfl⟩
                obtain ⟨σ1, hσ1⟩ : ∃ s, σ2 + 1 = s := ⟨_, rfl⟩
                obtain ⟨q, hq⟩ : ∃ s, q3 = s := ⟨_, rfl⟩
                rw [hs1, hσ1, hq] at X8
                rw [hσ1] at hσ9
                rw [hq] at HG HL
                clear hs1 hσ1 hq ST'
                obtain ⟨c1, l1, A1, C1⟩ := X8.h2
                obtain ⟨_, _, _, _, _, rfl⟩ := C1
                obtain ⟨c2, l2, A2, C2⟩ := X8.h1
                obtain ⟨_, _, _, _, _, rfl⟩ := C2
                have HW1 : ∀ p, p = H1 → Calls Tryz.prog 28 #[.pointer (some ⟨p, 0, none⟩)] w8 fun e w' => e = .returned (.bool true) ∧ w' = w8 := fun p h => by rw [h]; exact hwon_any A1
                have HW2 : ∀ p, p = H2 → Calls Tryz.prog 28 #[.pointer (some ⟨p, 0, none⟩)] w8 fun e w' => e = .returned (.bool false) ∧ w' = w8 := fun p h => by rw [h]; exact hwon_any A2
                have X1 := X8.duo
                clear X8 A1 A2
                have G := HG.out
                have LV := HL.out
                have hps1 := HP1.out
                obtain ⟨vB, hvB⟩ : ∃ vB, behindW 100 vL = vB := ⟨_, rfl⟩
                have hB : vB = packS 0 0 2 0 := by
                  rw [← hvB]
                  unfold behindW
                  rw [G.sc.ob.gn, if_neg (by decide)]; rfl
                have ISB : SlotIs vB 0 0 2 0 := by
                  rw [hB]
                  exact ⟨by decide, by decide, by decide, by decide, by decide, by decide⟩
                have HVB : Hid (s1.wd 8 = vB) := by
                  have := X1.tw.swv 0 (by decide)
                  rw [G.sc.sw] at this
                  rw [← hvB]
                  exact this
                have hpk8 : 8 < s1.n := by have := X1.tw.len; omega
                have PKB := fun (w' : World) (m' : MemAt w' L s1) => peek_is m' 8 hpk8 vB HVB.out
                have HXm := X1.mm
                clear hB hvB HG HL HP1
                obtain ⟨ph, hph⟩ : ∃ ph, Ph.gone = ph := ⟨_, rfl⟩
                rw [hph] at G
                clear hph
                have hdm : dmu q A (verOf' vL + 1) Z vL ph (ps 1) ≤ 56 := by
                  rw [hps1]
                  cases ph <;> (simp only [dmu]; omega)
                obtain ⟨M, q2, E1, ph2, hM, run, G2, LV2⟩ := Gang.alone (by decide) 56 G LV (K := 1) (by decide) X1.tw.pile.hdle hdm (by rw [hps1]; rfl)
                rw [hps1] at run
                have h2 : upd ps 1 (.over E1) 0 = ps 0 := upd_other _ _ _ _ (by decide)
                have h3 : upd ps 1 (.over E1) 1 = .over E1 := upd_same _ _ _
                obtain ⟨pq, hpq⟩ : ∃ pq, upd ps 1 (.over E1) = pq := ⟨_, rfl⟩
                rw [hpq] at G2 LV2 h2 h3
                have dm0 : dmu q2 A (verOf' vL + 1) Z vL ph2 (ps 0) ≤ 56 ∨ (ps 0).over? = true := Or.inl (dmu_top _ _ _ _ _ _ _ z2)
                have HDR : Hid (∀ w' : World, MemAt w' L s1 → Calls Tryz.prog 14 #[.agg #[.int .i64 2, .int .i64 4, .int .i64 4, .int .i64 20, .int .i64 100, .int .i64 600, .int .i64 3, .pointer (some ⟨L.p, 0, none⟩), .int .i64 0], .int .u64 65536, .bool false] w' fun e w'' => ∃ (st : Int) (s' : Mm), e = .returned (.agg #[.int .i64 E1, .int .u64 0, .int .i64 0, .int .i64 st]) ∧ MemAt w'' L s' ∧ Town 2 4 4 20 s' (σ1 + M) q2 ∧ Only L.has w' w'') := fun w' m' => drop_goes m' X1.tw goodH G.sc.wd hand1 (by decide) (by omega) (by omega) run
                have HX1 : Hid (Duo w _ L E D s1 σ1 q (ps 0)) := X1
                have HG2 : Hid (Gang 2 4 4 20 100 0 1 A Z 0 vL false q2 ph2 2 pq) := G2
                have HL2 : Hid (Lv 0 Z q2 2 pq R) := LV2
                have HPS : Hid (pq 0 = ps 0 ∧ pq 1 = .over E1) := ⟨h2, h3⟩
                have y0 := X1.v.c0
                have y1 := X1.v.c1
                have y2 := X1.v.c2
                have y3 := X1.v.c3
                have y4 := X1.v.c4
                have y5 := X1.v.c5
                have y6 := X1.v.c6
                have y7 := X1.v.c7
                have y8 := X1.v.c8
                have HDM : Hid (dmu q2 A (verOf' vL + 1) Z vL ph2 (ps 0) ≤ 56 ∨ (ps 0).over? = true) := dm0
                clear run G2 LV2 h2 h3 hpq hdm X1 G LV dm0 hps1
                go_wp2_with (first
                  | (go_at_call 28; refine (HW1 _ (by rfl)).mono ?_; rintro e w5 ⟨rfl, rfl⟩)
                  | (go_at_call 28; refine (HW2 _ (by rfl)).mono ?_; rintro e w5 ⟨rfl, rfl⟩)
                  | (go_at_call 17; refine (PKB _ HXm).mono ?_; rintro e w5' ⟨rfl, rfl⟩)
                  | (go_at_call 16; refine (ISB.call _).mono ?_; rintro e w6 ⟨rfl, b6⟩; have v6 := HX1.out.v.grown b6; have k0 := v6.c0; have k1 := v6.c1; have k2 := v6.c2; have k3 := v6.c3; have k4 := v6.c4; have k5 := v6.c5; have k6 := v6.c6; have k7 := v6.c7; have k8 := v6.c8)
                  | (go_at_call 14; refine (HDR.out _ (HXm.below b6)).mono ?_; rintro e w7 ⟨st7, s7, rfl, m7, t7, o7⟩))
                have X7 : Hid (Duo w w7 L E D s7 (σ1 + M) q2 (ps 0)) := (HX1.out.grown b6).only APD.out o7 m7 t7
                clear m7 t7 o7 y0 y1 y2 y3 y4 y5 y6 y7 y8 HDR HX1 PKB HXm v6 b6 HW1 HW2 k0 k1 k2 k3 k4 k5 k6 k7 k8
                go_loopw [10, 20] (fun dv iv wr => ∃ (i : Nat) (s1 : Mm) (σ1 : Nat) (q : Q) (ph : Ph) (ps : Nat → Dp), dv = .bool (ps 0).over? ∧ iv = .int .i64 i ∧ i ≤ 60 ∧ σ1 ≤ 900 + i ∧ Duo w wr L E D s1 σ1 q (ps 0) ∧ Gang 2 4 4 20 100 0 1 A Z 0 vL false q ph 2 ps ∧ Lv 0 Z q 2 ps R ∧ ps 1 = .over E1 ∧ (dmu q A (verOf' vL + 1) Z vL ph (ps 0) + i ≤ 56 ∨ (ps 0).over? = true)) (fun _ iv _ => 200 - (intOf iv).toNat)
                case atStart => exact ⟨0, s7, σ1 + M, q2, ph2, pq, by rw [HPS.out.1]; first | done | rw [hov], rfl, by omega, by omega, by rw [HPS.out.1]; exact X7.out, HG2.out, HL2.out, HPS.out.2, by rw [HPS.out.1]; exact HDM.out⟩
                case round =>
                  clear X7 HG2 HL2 HPS HDM
                  obtain ⟨i, s1, σ1, q, ph, ps, rfl, rfl, hi60, hσ, X, G, LV, hE1, hdm⟩ := hrel
                  have hi200 : (i : Int) < 200 := by omega
                  cases hov : (ps 0).over? with
                  | false =>
                    have hdm' : dmu q A (verOf' vL + 1) Z vL ph (ps 0) + i ≤ 56 := by
                      rcases hdm with h | h
                      · exact h
                      · rw [hov] at h; cases h
                    obtain ⟨q2, α', ht⟩ : ∃ q' α', dpTurn 2 4 4 20 100 false 0 1 q (ps 0) = (q', α') := ⟨_, _, rfl⟩
                    have hF := X.tw.pile.hdle
                    obtain ⟨ph', G', m1, -⟩ := G.step (K := 0) (by decide) hF (by decide) hov ht
                    have gd := G.good (K := 0) (by decide) hF (by decide) hov
                    have LV' := LV.step G (K := 0) (by decide) (by decide) hov ht
                    obtain ⟨d9, hd9⟩ : ∃ d9, α'.over? = d9 := ⟨_, rfl⟩
                    have ST := X.step APD.out (by omega) G.sc.wd gd hov ht hd9
                    have hdm2 : dmu q2 A (verOf' vL + 1) Z vL ph' α' + (i + 1) ≤ 56 := by omega
                    have hi56 : i + 1 ≤ 56 := by omega
                    have HH : Hid (Gang 2 4 4 20 100 0 1 A Z 0 vL false q2 ph' 2 (upd ps 0 α') ∧ Lv 0 Z q2 2 (upd ps 0 α') R ∧ dmu q2 A (verOf' vL + 1) Z vL ph' α' + (i + 1) ≤ 56 ∧ upd ps 0 α' 1 = .over E1) := ⟨G', LV', hdm2, by rw [upd_other _ _ _ _ (by decide)]; exact hE1⟩
                    have y0 := X.v.c0
                    have y1 := X.v.c1
                    have y2 := X.v.c2
                    have y3 := X.v.c3
                    have y4 := X.v.c4
                    have y5 := X.v.c5
                    have y6 := X.v.c6
                    have y7 := X.v.c7
                    have y8 := X.v.c8
                    clear X G G' LV LV' gd m1 hF hdm hdm' hdm2 ht hE1
                    go_wp2_with (go_at_call 23; refine ST.mono ?_; rintro e w8 ⟨rfl, s8, X8⟩)
                    go_roundw
                    case rel => exact ⟨i + 1, s8, σ1 + 1, q2, ph', upd ps 0 α', by rw [upd_same, hd9], by go_num, by omega, by omega, by rw [upd_same]; exact X8, HH.out.1, HH.out.2.1, HH.out.2.2.2, Or.inl (by rw [upd_same]; exact HH.out.2.2.1)⟩
                    case measure => simp [intOf]; omega
                  | true =>
                    obtain ⟨E0, hE0⟩ : ∃ E0, ps 0 = .over E0 := by
                      cases e : ps 0 with
                      | over E => exact ⟨E, rfl⟩
                      | _ => rw [e] at hov; cases hov
                    obtain ⟨hEE, hlv⟩ := pair_end G LV hE0 hE1
                    have HP0 : Hid (s1.wd 17 = 0) := by
                      have := X.tw.lvv 0 (by decide)
                      rw [hlv, HR0.out] at this
                      exact this
                    have hpk17 : 17 < s1.n := by have := X.tw.len; omega
                    obtain ⟨cs1, u1, d1, i1⟩ := X.dp
                    rw [hE0] at i1
                    have hnx := i1.nx
                    have hE := i1.E
                    have HD : Hid (Duo w wr L E D s1 σ1 q (ps 0)) := X
                    clear X G LV hdm hlv hE1 hE0 hσ hi60
                    rcases hEE with ⟨rfl, rfl⟩ | ⟨rfl, rfl⟩
                    · have hE : u1.E = 0 := hE
                      go_wp2_with (go_at_call 24; refine (ddone_over d1 hnx).mono ?_; rintro e w9 ⟨rfl, b9⟩; rw [show u1.E = 0 from hE])
                      refine wp_over (fun W => MemAt W L s1 ∧ BoxV W E 2 4 4 20 100 600 3 L.p 0 ∧ Below w.heap.size w W) ⟨HD.out.mm.below b9, HD.out.v.grown b9, grow HD.out.b b9⟩ ?_
                      clear b9 HD d1 hnx hE i1
                      rintro W ⟨m1, v1, b1⟩
                      refine wp_region_rely Grown [.val (.bool true), .val (.bool true), .val (.pointer none), .val (.bool false), .val (.bool true), .val (.bool true), .val (.bool true), .val (.int .i64 0), .val (.bool true), .val (.int .i64 3), .val (.bool false), .val (.bool true), .val (.bool true), .val (.bool true), .val (.int .i64 0), .val (.bool false), .val (.int .i64 3), .val (.bool true), .val (.bool true), .val (.bool true), .val (.bool true), .val (.pointer (some ⟨E, 7, none⟩)), .val (.pointer (some ⟨L.p, 0, none⟩)), .val (.pointer (some ⟨E, 0, none⟩)), .val (.agg #[.int .i64 2, .int .i64 4, .int .i64 4, .int .i64 20, .int .i64 100, .int .i64 600, .int .i64 3]), .val (.int .i64 (6 + 2 + 4 * 2 + 0 * 3)), .val (.int .i64 ((17 : Nat) : Int)), .val (.int .u64 0), .val (.bool true), .val (.bool true), .val (.bool true)] (by kernel_rfl) Grown.refl Grown.trans (by kernel_rfl) (by kernel_rfl) (by kernel_rfl) ?_
                      simp only [relyAll, Act.put, List.setIfInBounds_toArray, List.set_cons_zero, List.set_cons_succ]
                      refine ⟨?_, ?_, ?_, ?_, ?_, ?_, ?_, ?_, ?_, ?_, ?_, ?_, ?_, ?_, ?_, ?_, ?_, ?_, ?_, ?_, ?_, ?_, ?_, ?_, ?_, ?_, ?_, ?_, ?_, ?_, ?_, ?_⟩
                      · intro w' hg _
                        refine Or.inl ⟨rfl, ?_⟩
                        go_simp
                        exact ⟨Grown.refl _, rfl⟩
                      · intro w' hg _
                        refine Or.inl ⟨rfl, ?_⟩
                        go_simp
                        exact ⟨Grown.refl _, rfl⟩
                      · intro w' hg _
                        refine Or.inl ⟨rfl, ?_⟩
                        go_simp
                        exact ⟨Grown.refl _, rfl⟩
                      · intro w' hg _
                        refine Or.inl ⟨rfl, ?_⟩
                        go_simp
                        refine (hwon_nil _).mono ?_
                        rintro e w'' ⟨rfl, rfl⟩
                        exact ⟨_, rfl, Grown.refl _, rfl⟩
                      · intro w' hg _
                        refine Or.inl ⟨rfl, ?_⟩
                        go_simp
                        exact ⟨Grown.refl _, rfl⟩
                      · intro w' hg _
                        refine Or.inl ⟨rfl, ?_⟩
                        go_simp
                        exact ⟨Grown.refl _, rfl⟩
                      · intro w' hg _
                        refine Or.inl ⟨rfl, ?_⟩
                        go_simp
                        exact ⟨Grown.refl _, rfl⟩
                      · intro w' hg _
                        refine Or.inl ⟨rfl, ?_⟩
                        go_simp
                        exact ⟨Grown.refl _, rfl⟩
                      · intro w' hg _
                        refine Or.inl ⟨rfl, ?_⟩
                        go_simp
                        exact ⟨Grown.refl _, rfl⟩
                      · intro w' hg _
                        refine Or.inl ⟨rfl, ?_⟩
                        go_simp
                        exact ⟨Grown.refl _, rfl⟩
                      · intro w' hg _
                        refine Or.inl ⟨rfl, ?_⟩
                        go_simp
                        exact ⟨Grown.refl _, rfl⟩
                      · intro w' hg _
                        refine Or.inl ⟨rfl, ?_⟩
                        go_simp
                        exact ⟨Grown.refl _, rfl⟩
                      · intro w' hg _
                        refine Or.inl ⟨rfl, ?_⟩
                        go_simp
                        exact ⟨Grown.refl _, rfl⟩
                      · intro w' hg _
                        refine Or.inl ⟨rfl, ?_⟩
                        go_simp
                        exact ⟨Grown.refl _, rfl⟩
                      · intro w' hg _
                        refine Or.inl ⟨rfl, ?_⟩
                        go_simp
                        exact ⟨Grown.refl _, rfl⟩
                      · intro w' hg _
                        refine Or.inl ⟨rfl, ?_⟩
                        go_simp
                        exact ⟨Grown.refl _, rfl⟩
                      · intro w' hg _
                        refine Or.inl ⟨rfl, ?_⟩
                        go_simp
                        exact ⟨Grown.refl _, rfl⟩
                      · intro w' hg _
                        refine Or.inl ⟨rfl, ?_⟩
                        go_simp
                        exact ⟨Grown.refl _, rfl⟩
                      · intro w' hg _
                        refine Or.inl ⟨rfl, ?_⟩
                        go_simp
                        exact ⟨Grown.refl _, rfl⟩
                      · intro w' hg _
                        refine Or.inl ⟨rfl, ?_⟩
                        go_simp
                        exact ⟨Grown.refl _, rfl⟩
                      · intro w' hg _
                        refine Or.inl ⟨rfl, ?_⟩
                        go_simp
                        exact ⟨Grown.refl _, rfl⟩
                      · intro w' hg _
                        refine Or.inl ⟨rfl, ?_⟩
                        go_simp
                        exact ⟨Grown.refl _, rfl⟩
                      · intro w' hg _
                        refine Or.inl ⟨rfl, ?_⟩
                        have vv := (v1.grown ((Below.refl _ _).drew)).grown hg
                        have y0 := vv.c0
                        have y1 := vv.c1
                        have y2 := vv.c2
                        have y3 := vv.c3
                        have y4 := vv.c4
                        have y5 := vv.c5
                        have y6 := vv.c6
                        have y7 := vv.c7
                        have y8 := vv.c8
                        go_simp
                        exact ⟨Grown.refl _, rfl⟩
                      · intro w' hg _
                        refine Or.inl ⟨rfl, ?_⟩
                        go_simp
                        exact ⟨Grown.refl _, rfl⟩
                      · intro w' hg _
                        refine Or.inl ⟨rfl, ?_⟩
                        have vv := (v1.grown ((Below.refl _ _).drew)).grown hg
                        have y0 := vv.c0
                        have y1 := vv.c1
                        have y2 := vv.c2
                        have y3 := vv.c3
                        have y4 := vv.c4
                        have y5 := vv.c5
                        have y6 := vv.c6
                        have y7 := vv.c7
                        have y8 := vv.c8
                        go_simp
                        exact ⟨Grown.refl _, rfl⟩
                      · intro w' hg _
                        refine Or.inl ⟨rfl, ?_⟩
                        go_simp
                        refine (lchunk_any _ _ _ _ _ _ _ 0 _ goodH.arena (by omega) (by omega)).mono ?_
                        rintro e w'' ⟨rfl, b9⟩
                        exact ⟨_, rfl, b9, rfl⟩
                      · intro w' hg _
                        refine Or.inl ⟨rfl, ?_⟩
                        go_simp
                        first
                          | exact ⟨Grown.refl _, rfl⟩
                          | exact ⟨Grown.refl _, congrArg (Value.int .i64) (by decide)⟩
                      · intro w' hg _
                        refine Or.inl ⟨rfl, ?_⟩
                        go_simp
                        refine (peek_is (m1.drew.below hg) 17 hpk17 0 HP0.out).mono ?_
                        rintro e w'' ⟨rfl, rfl⟩
                        exact ⟨_, rfl, Grown.refl _, rfl⟩
                      · intro w' hg _
                        refine Or.inl ⟨rfl, ?_⟩
                        go_simp
                        exact ⟨Grown.refl _, rfl⟩
                      · intro w' hg _
                        refine Or.inl ⟨rfl, ?_⟩
                        go_simp
                        exact ⟨Grown.refl _, rfl⟩
                      · intro w' hg _
                        refine Or.inl ⟨rfl, ?_⟩
                        go_simp
                        exact ⟨Grown.refl _, rfl⟩
                      intro w10 hg _
                      have b10 : Below w.heap.size w w10 := grow b1.drew hg
                      clear hg m1 v1 b1
                      go_wp2
                      go_ret
                      exact ⟨rfl, b10⟩
                    · have hE : u1.E = 3 := hE
                      go_wp2_with (go_at_call 24; refine (ddone_over d1 hnx).mono ?_; rintro e w9 ⟨rfl, b9⟩; rw [show u1.E = 3 from hE])
                      refine wp_over (fun W => MemAt W L s1 ∧ BoxV W E 2 4 4 20 100 600 3 L.p 0 ∧ Below w.heap.size w W) ⟨HD.out.mm.below b9, HD.out.v.grown b9, grow HD.out.b b9⟩ ?_
                      clear b9 HD d1 hnx hE i1
                      rintro W ⟨m1, v1, b1⟩
                      refine wp_region_rely Grown [.val (.bool true), .val (.bool true), .val (.pointer none), .val (.bool false), .val (.bool true), .val (.bool true), .val (.bool true), .val (.int .i64 3), .val (.bool false), .val (.int .i64 0), .val (.bool true), .val (.bool true), .val (.bool true), .val (.bool true), .val (.int .i64 3), .val (.bool true), .val (.int .i64 0), .val (.bool false), .val (.bool true), .val (.bool true), .val (.bool true), .val (.pointer (some ⟨E, 7, none⟩)), .val (.pointer (some ⟨L.p, 0, none⟩)), .val (.pointer (some ⟨E, 0, none⟩)), .val (.agg #[.int .i64 2, .int .i64 4, .int .i64 4, .int .i64 20, .int .i64 100, .int .i64 600, .int .i64 3]), .val (.int .i64 (6 + 2 + 4 * 2 + 0 * 3)), .val (.int .i64 ((17 : Nat) : Int)), .val (.int .u64 0), .val (.bool true), .val (.bool true), .val (.bool true)] (by kernel_rfl) Grown.refl Grown.trans (by kernel_rfl) (by kernel_rfl) (by kernel_rfl) ?_
                      simp only [relyAll, Act.put, List.setIfInBounds_toArray, List.set_cons_zero, List.set_cons_succ]
                      refine ⟨?_, ?_, ?_, ?_, ?_, ?_, ?_, ?_, ?_, ?_, ?_, ?_, ?_, ?_, ?_, ?_, ?_, ?_, ?_, ?_, ?_, ?_, ?_, ?_, ?_, ?_, ?_, ?_, ?_, ?_, ?_, ?_⟩
                      · intro w' hg _
                        refine Or.inl ⟨rfl, ?_⟩
                        go_simp
                        exact ⟨Grown.refl _, rfl⟩
                      · intro w' hg _
                        refine Or.inl ⟨rfl, ?_⟩
                        go_simp
                        exact ⟨Grown.refl _, rfl⟩
                      · intro w' hg _
                        refine Or.inl ⟨rfl, ?_⟩
                        go_simp
                        exact ⟨Grown.refl _, rfl⟩
                      · intro w' hg _
                        refine Or.inl ⟨rfl, ?_⟩
                        go_simp
                        refine (hwon_nil _).mono ?_
                        rintro e w'' ⟨rfl, rfl⟩
                        exact ⟨_, rfl, Grown.refl _, rfl⟩
                      · intro w' hg _
                        refine Or.inl ⟨rfl, ?_⟩
                        go_simp
                        exact ⟨Grown.refl _, rfl⟩
                      · intro w' hg _
                        refine Or.inl ⟨rfl, ?_⟩
                        go_simp
                        exact ⟨Grown.refl _, rfl⟩
                      · intro w' hg _
                        refine Or.inl ⟨rfl, ?_⟩
                        go_simp
                        exact ⟨Grown.refl _, rfl⟩
                      · intro w' hg _
                        refine Or.inl ⟨rfl, ?_⟩
                        go_simp
                        exact ⟨Grown.refl _, rfl⟩
                      · intro w' hg _
                        refine Or.inl ⟨rfl, ?_⟩
                        go_simp
                        exact ⟨Grown.refl _, rfl⟩
                      · intro w' hg _
                        refine Or.inl ⟨rfl, ?_⟩
                        go_simp
                        exact ⟨Grown.refl _, rfl⟩
                      · intro w' hg _
                        refine Or.inl ⟨rfl, ?_⟩
                        go_simp
                        exact ⟨Grown.refl _, rfl⟩
                      · intro w' hg _
                        refine Or.inl ⟨rfl, ?_⟩
                        go_simp
                        exact ⟨Grown.refl _, rfl⟩
                      · intro w' hg _
                        refine Or.inl ⟨rfl, ?_⟩
                        go_simp
                        exact ⟨Grown.refl _, rfl⟩
                      · intro w' hg _
                        refine Or.inl ⟨rfl, ?_⟩
                        go_simp
                        exact ⟨Grown.refl _, rfl⟩
                      · intro w' hg _
                        refine Or.inl ⟨rfl, ?_⟩
                        go_simp
                        exact ⟨Grown.refl _, rfl⟩
                      · intro w' hg _
                        refine Or.inl ⟨rfl, ?_⟩
                        go_simp
                        exact ⟨Grown.refl _, rfl⟩
                      · intro w' hg _
                        refine Or.inl ⟨rfl, ?_⟩
                        go_simp
                        exact ⟨Grown.refl _, rfl⟩
                      · intro w' hg _
                        refine Or.inl ⟨rfl, ?_⟩
                        go_simp
                        exact ⟨Grown.refl _, rfl⟩
                      · intro w' hg _
                        refine Or.inl ⟨rfl, ?_⟩
                        go_simp
                        exact ⟨Grown.refl _, rfl⟩
                      · intro w' hg _
                        refine Or.inl ⟨rfl, ?_⟩
                        go_simp
                        exact ⟨Grown.refl _, rfl⟩
                      · intro w' hg _
                        refine Or.inl ⟨rfl, ?_⟩
                        go_simp
                        exact ⟨Grown.refl _, rfl⟩
                      · intro w' hg _
                        refine Or.inl ⟨rfl, ?_⟩
                        go_simp
                        exact ⟨Grown.refl _, rfl⟩
                      · intro w' hg _
                        refine Or.inl ⟨rfl, ?_⟩
                        have vv := (v1.grown ((Below.refl _ _).drew)).grown hg
                        have y0 := vv.c0
                        have y1 := vv.c1
                        have y2 := vv.c2
                        have y3 := vv.c3
                        have y4 := vv.c4
                        have y5 := vv.c5
                        have y6 := vv.c6
                        have y7 := vv.c7
                        have y8 := vv.c8
                        go_simp
                        exact ⟨Grown.refl _, rfl⟩
                      · intro w' hg _
                        refine Or.inl ⟨rfl, ?_⟩
                        go_simp
                        exact ⟨Grown.refl _, rfl⟩
                      · intro w' hg _
                        refine Or.inl ⟨rfl, ?_⟩
                        have vv := (v1.grown ((Below.refl _ _).drew)).grown hg
                        have y0 := vv.c0
                        have y1 := vv.c1
                        have y2 := vv.c2
                        have y3 := vv.c3
                        have y4 := vv.c4
                        have y5 := vv.c5
                        have y6 := vv.c6
                        have y7 := vv.c7
                        have y8 := vv.c8
                        go_simp
                        exact ⟨Grown.refl _, rfl⟩
                      · intro w' hg _
                        refine Or.inl ⟨rfl, ?_⟩
                        go_simp
                        refine (lchunk_any _ _ _ _ _ _ _ 0 _ goodH.arena (by omega) (by omega)).mono ?_
                        rintro e w'' ⟨rfl, b9⟩
                        exact ⟨_, rfl, b9, rfl⟩
                      · intro w' hg _
                        refine Or.inl ⟨rfl, ?_⟩
                        go_simp
                        first
                          | exact ⟨Grown.refl _, rfl⟩
                          | exact ⟨Grown.refl _, congrArg (Value.int .i64) (by decide)⟩
                      · intro w' hg _
                        refine Or.inl ⟨rfl, ?_⟩
                        go_simp
                        refine (peek_is (m1.drew.below hg) 17 hpk17 0 HP0.out).mono ?_
                        rintro e w'' ⟨rfl, rfl⟩
                        exact ⟨_, rfl, Grown.refl _, rfl⟩
                      · intro w' hg _
                        refine Or.inl ⟨rfl, ?_⟩
                        go_simp
                        exact ⟨Grown.refl _, rfl⟩
                      · intro w' hg _
                        refine Or.inl ⟨rfl, ?_⟩
                        go_simp
                        exact ⟨Grown.refl _, rfl⟩
                      · intro w' hg _
                        refine Or.inl ⟨rfl, ?_⟩
                        go_simp
                        exact ⟨Grown.refl _, rfl⟩
                      intro w10 hg _
                      have b10 : Below w.heap.size w w10 := grow b1.drew hg
                      clear hg m1 v1 b1
                      go_wp2
                      go_ret
                      exact ⟨rfl, b10⟩
      · obtain ⟨vP, hvP⟩ : ∃ vP, ph.w 100 vL = vP := ⟨_, rfl⟩
        have HVP : Hid (s1.wd 8 = vP) := by rw [← hvP]; exact hvp0
        have wP : Wd vP := by
          have := X.tw.swb 0 (by decide)
          rw [G.sc.sw, hvP] at this
          exact this
        have IS := slotIs vP wP
        have h4 : vP % 8 ≠ 4 := by
          rw [← hvP]
          cases ph with
          | live => exact G.sc.ob.st
          | drop => exact absurd rfl hph
          | gone => intro e; rcases behind_st 100 vL with h | h <;> (rw [show (Ph.gone.w 100 vL) = behindW 100 vL from rfl] at e; omega)
        obtain ⟨st0, hst0⟩ : ∃ st0, vP % 8 = st0 := ⟨_, rfl⟩
        obtain ⟨a0, ha0⟩ : ∃ a0, adOf vP = a0 := ⟨_, rfl⟩
        obtain ⟨g0, hg0⟩ : ∃ g0, genOf vP = g0 := ⟨_, rfl⟩
        obtain ⟨v0, hv0⟩ : ∃ v0, verOf' vP = v0 := ⟨_, rfl⟩
        rw [hst0] at h4 IS
        rw [ha0, hg0, hv0] at IS
        have X1 := X
        have e0 := X.v.c0
        have e1 := X.v.c1
        have e2 := X.v.c2
        have e3 := X.v.c3
        have e4 := X.v.c4
        have e5 := X.v.c5
        have e6 := X.v.c6
        have e7 := X.v.c7
        have e8 := X.v.c8
        have PK := fun (w' : World) (m' : MemAt w' L s1) => peek_is m' 8 hpk8 vP HVP.out
        have HXm := X.mm
        clear X hvP hst0 ha0 hg0 hv0 hvp0 wP hph 
        have hdm : dmu q A (verOf' vL + 1) Z vL ph (ps 1) ≤ 56 := by
          rw [hps1]
          cases ph <;> (simp only [dmu]; omega)
        obtain ⟨M, q2, E1, ph2, hM, run, G2, LV2⟩ := Gang.alone (by decide) 56 G LV (K := 1) (by decide) X1.tw.pile.hdle hdm (by rw [hps1]; rfl)
        rw [hps1] at run
        have h2 : upd ps 1 (.over E1) 0 = ps 0 := upd_other _ _ _ _ (by decide)
        have h3 : upd ps 1 (.over E1) 1 = .over E1 := upd_same _ _ _
        obtain ⟨pq, hpq⟩ : ∃ pq, upd ps 1 (.over E1) = pq := ⟨_, rfl⟩
        rw [hpq] at G2 LV2 h2 h3
        have dm0 : dmu q2 A (verOf' vL + 1) Z vL ph2 (ps 0) ≤ 56 ∨ (ps 0).over? = true := Or.inl (dmu_top _ _ _ _ _ _ _ z2)
        have HDR : Hid (∀ w' : World, MemAt w' L s1 → Calls Tryz.prog 14 #[.agg #[.int .i64 2, .int .i64 4, .int .i64 4, .int .i64 20, .int .i64 100, .int .i64 600, .int .i64 3, .pointer (some ⟨L.p, 0, none⟩), .int .i64 0], .int .u64 65536, .bool false] w' fun e w'' => ∃ (st : Int) (s' : Mm), e = .returned (.agg #[.int .i64 E1, .int .u64 0, .int .i64 0, .int .i64 st]) ∧ MemAt w'' L s' ∧ Town 2 4 4 20 s' (σ1 + M) q2 ∧ Only L.has w' w'') := fun w' m' => drop_goes m' X1.tw goodH G.sc.wd hand1 (by decide) (by omega) (by omega) run
        have HX1 : Hid (Duo w _ L E D s1 σ1 q (ps 0)) := X1
        have HG2 : Hid (Gang 2 4 4 20 100 0 1 A Z 0 vL false q2 ph2 2 pq) := G2
        have HL2 : Hid (Lv 0 Z q2 2 pq R) := LV2
        have HPS : Hid (pq 0 = ps 0 ∧ pq 1 = .over E1) := ⟨h2, h3⟩
        have y0 := X1.v.c0
        have y1 := X1.v.c1
        have y2 := X1.v.c2
        have y3 := X1.v.c3
        have y4 := X1.v.c4
        have y5 := X1.v.c5
        have y6 := X1.v.c6
        have y7 := X1.v.c7
        have y8 := X1.v.c8
        have HDM : Hid (dmu q2 A (verOf' vL + 1) Z vL ph2 (ps 0) ≤ 56 ∨ (ps 0).over? = true) := dm0
        clear run G2 LV2 h2 h3 hpq hdm X1 G LV dm0 hps1
        go_wp2_with (first
          | (go_at_call 18; refine (lslot_any _ _ _ _ _ _ _ 0 _ goodH.arena (by omega) (by omega)).mono ?_; rintro e w5 ⟨rfl, b5⟩; have m5 := HXm.below b5; have v5 := HX1.out.v.grown b5; have x0 := v5.c0; have x1 := v5.c1; have x2 := v5.c2; have x3 := v5.c3; have x4 := v5.c4; have x5 := v5.c5; have x6 := v5.c6; have x7 := v5.c7; have x8 := v5.c8)
          | (go_at_call 17; refine (PK _ m5).mono ?_; rintro e w5' ⟨rfl, rfl⟩)
          | (go_at_call 16; refine (IS.call _).mono ?_; rintro e w6 ⟨rfl, b6⟩; have v6 := (v5.grown b6).grown (grow1 _ (.cells #[.int .i64 st0, .int .i64 a0, .int .i64 g0, .int .i64 v0] 48)); have k0 := v6.c0; have k1 := v6.c1; have k2 := v6.c2; have k3 := v6.c3; have k4 := v6.c4; have k5 := v6.c5; have k6 := v6.c6; have k7 := v6.c7; have k8 := v6.c8)
          | (go_at_call 14; refine (HDR.out _ ((HXm.below b5).below b6 |>.alloc _)).mono ?_; rintro e w7 ⟨st7, s7, rfl, m7, t7, o7⟩))
        have X7 : Hid (Duo w w7 L E D s7 (σ1 + M) q2 (ps 0)) := (((HX1.out.grown b5).grown b6).grown (grow1 _ _)).only APD.out o7 m7 t7
        clear m7 t7 o7 y0 y1 y2 y3 y4 y5 y6 y7 y8 HDR HX1 PK HXm m5 v5 b5 v6 b6 x0 k0 e0 x1 k1 e1 x2 k2 e2 x3 k3 e3 x4 k4 e4 x5 k5 e5 x6 k6 e6 x7 k7 e7 x8 k8 e8
        go_loopw [10, 20] (fun dv iv wr => ∃ (i : Nat) (s1 : Mm) (σ1 : Nat) (q : Q) (ph : Ph) (ps : Nat → Dp), dv = .bool (ps 0).over? ∧ iv = .int .i64 i ∧ i ≤ 60 ∧ σ1 ≤ 900 + i ∧ Duo w wr L E D s1 σ1 q (ps 0) ∧ Gang 2 4 4 20 100 0 1 A Z 0 vL false q ph 2 ps ∧ Lv 0 Z q 2 ps R ∧ ps 1 = .over E1 ∧ (dmu q A (verOf' vL + 1) Z vL ph (ps 0) + i ≤ 56 ∨ (ps 0).over? = true)) (fun _ iv _ => 200 - (intOf iv).toNat)
        case atStart => exact ⟨0, s7, σ1 + M, q2, ph2, pq, by rw [HPS.out.1]; first | done | rw [hov], rfl, by omega, by omega, by rw [HPS.out.1]; exact X7.out, HG2.out, HL2.out, HPS.out.2, by rw [HPS.out.1]; exact HDM.out⟩
        case round =>
          clear X7 HG2 HL2 HPS HDM
          obtain ⟨i, s1, σ1, q, ph, ps, rfl, rfl, hi60, hσ, X, G, LV, hE1, hdm⟩ := hrel
          have hi200 : (i : Int) < 200 := by omega
          cases hov : (ps 0).over? with
          | false =>
            have hdm' : dmu q A (verOf' vL + 1) Z vL ph (ps 0) + i ≤ 56 := by
              rcases hdm with h | h
              · exact h
              · rw [hov] at h; cases h
            obtain ⟨q2, α', ht⟩ : ∃ q' α', dpTurn 2 4 4 20 100 false 0 1 q (ps 0) = (q', α') := ⟨_, _, rfl⟩
            have hF := X.tw.pile.hdle
            obtain ⟨ph', G', m1, -⟩ := G.step (K := 0) (by decide) hF (by decide) hov ht
            have gd := G.good (K := 0) (by decide) hF (by decide) hov
            have LV' := LV.step G (K := 0) (by decide) (by decide) hov ht
            obtain ⟨d9, hd9⟩ : ∃ d9, α'.over? = d9 := ⟨_, rfl⟩
            have ST := X.step APD.out (by omega) G.sc.wd gd hov ht hd9
            have hdm2 : dmu q2 A (verOf' vL + 1) Z vL ph' α' + (i + 1) ≤ 56 := by omega
            have hi56 : i + 1 ≤ 56 := by omega
            have HH : Hid (Gang 2 4 4 20 100 0 1 A Z 0 vL false q2 ph' 2 (upd ps 0 α') ∧ Lv 0 Z q2 2 (upd ps 0 α') R ∧ dmu q2 A (verOf' vL + 1) Z vL ph' α' + (i + 1) ≤ 56 ∧ upd ps 0 α' 1 = .over E1) := ⟨G', LV', hdm2, by rw [upd_other _ _ _ _ (by decide)]; exact hE1⟩
            have y0 := X.v.c0
            have y1 := X.v.c1
            have y2 := X.v.c2
            have y3 := X.v.c3
            have y4 := X.v.c4
            have y5 := X.v.c5
            have y6 := X.v.c6
            have y7 := X.v.c7
            have y8 := X.v.c8
            clear X G G' LV LV' gd m1 hF hdm hdm' hdm2 ht hE1
            go_wp2_with (go_at_call 23; refine ST.mono ?_; rintro e w8 ⟨rfl, s8, X8⟩)
            go_roundw
            case rel => exact ⟨i + 1, s8, σ1 + 1, q2, ph', upd ps 0 α', by rw [upd_same, hd9], by go_num, by omega, by omega, by rw [upd_same]; exact X8, HH.out.1, HH.out.2.1, HH.out.2.2.2, Or.inl (by rw [upd_same]; exact HH.out.2.2.1)⟩
            case measure => simp [intOf]; omega
          | true =>
            obtain ⟨E0, hE0⟩ : ∃ E0, ps 0 = .over E0 := by
              cases e : ps 0 with
              | over E => exact ⟨E, rfl⟩
              | _ => rw [e] at hov; cases hov
            obtain ⟨hEE, hlv⟩ := pair_end G LV hE0 hE1
            have HP0 : Hid (s1.wd 17 = 0) := by
              have := X.tw.lvv 0 (by decide)
              rw [hlv, HR0.out] at this
              exact this
            have hpk17 : 17 < s1.n := by have := X.tw.len; omega
            obtain ⟨cs1, u1, d1, i1⟩ := X.dp
            rw [hE0] at i1
            have hnx := i1.nx
            have hE := i1.E
            have HD : Hid (Duo w wr L E D s1 σ1 q (ps 0)) := X
            clear X G LV hdm hlv hE1 hE0 hσ hi60
            rcases hEE with ⟨rfl, rfl⟩ | ⟨rfl, rfl⟩
            · have hE : u1.E = 0 := hE
              go_wp2_with (go_at_call 24; refine (ddone_over d1 hnx).mono ?_; rintro e w9 ⟨rfl, b9⟩; rw [show u1.E = 0 from hE])
              refine wp_over (fun W => MemAt W L s1 ∧ BoxV W E 2 4 4 20 100 600 3 L.p 0 ∧ Below w.heap.size w W) ⟨HD.out.mm.below b9, HD.out.v.grown b9, grow HD.out.b b9⟩ ?_
              clear b9 HD d1 hnx hE i1
              rintro W ⟨m1, v1, b1⟩
              refine wp_region_rely Grown [.val (.bool true), .val (.bool true), .val (.pointer none), .val (.bool false), .val (.bool true), .val (.bool true), .val (.bool true), .val (.int .i64 0), .val (.bool true), .val (.int .i64 3), .val (.bool false), .val (.bool true), .val (.bool true), .val (.bool true), .val (.int .i64 0), .val (.bool false), .val (.int .i64 3), .val (.bool true), .val (.bool true), .val (.bool true), .val (.bool true), .val (.pointer (some ⟨E, 7, none⟩)), .val (.pointer (some ⟨L.p, 0, none⟩)), .val (.pointer (some ⟨E, 0, none⟩)), .val (.agg #[.int .i64 2, .int .i64 4, .int .i64 4, .int .i64 20, .int .i64 100, .int .i64 600, .int .i64 3]), .val (.int .i64 (6 + 2 + 4 * 2 + 0 * 3)), .val (.int .i64 ((17 : Nat) : Int)), .val (.int .u64 0), .val (.bool true), .val (.bool true), .val (.bool true)] (by kernel_rfl) Grown.refl Grown.trans (by kernel_rfl) (by kernel_rfl) (by kernel_rfl) ?_
              simp only [relyAll, Act.put, List.setIfInBounds_toArray, List.set_cons_zero, List.set_cons_succ]
              refine ⟨?_, ?_, ?_, ?_, ?_, ?_, ?_, ?_, ?_, ?_, ?_, ?_, ?_, ?_, ?_, ?_, ?_, ?_, ?_, ?_, ?_, ?_, ?_, ?_, ?_, ?_, ?_, ?_, ?_, ?_, ?_, ?_⟩
              · intro w' hg _
                refine Or.inl ⟨rfl, ?_⟩
                go_simp
                exact ⟨Grown.refl _, rfl⟩
              · intro w' hg _
                refine Or.inl ⟨rfl, ?_⟩
                go_simp
                exact ⟨Grown.refl _, rfl⟩
              · intro w' hg _
                refine Or.inl ⟨rfl, ?_⟩
                go_simp
                exact ⟨Grown.refl _, rfl⟩
              · intro w' hg _
                refine Or.inl ⟨rfl, ?_⟩
                go_simp
                refine (hwon_nil _).mono ?_
                rintro e w'' ⟨rfl, rfl⟩
                exact ⟨_, rfl, Grown.refl _, rfl⟩
              · intro w' hg _
                refine Or.inl ⟨rfl, ?_⟩
                go_simp
                exact ⟨Grown.refl _, rfl⟩
              · intro w' hg _
                refine Or.inl ⟨rfl, ?_⟩
                go_simp
                exact ⟨Grown.refl _, rfl⟩
              · intro w' hg _
                refine Or.inl ⟨rfl, ?_⟩
                go_simp
                exact ⟨Grown.refl _, rfl⟩
              · intro w' hg _
                refine Or.inl ⟨rfl, ?_⟩
                go_simp
                exact ⟨Grown.refl _, rfl⟩
              · intro w' hg _
                refine Or.inl ⟨rfl, ?_⟩
                go_simp
                exact ⟨Grown.refl _, rfl⟩
              · intro w' hg _
                refine Or.inl ⟨rfl, ?_⟩
                go_simp
                exact ⟨Grown.refl _, rfl⟩
              · intro w' hg _
                refine Or.inl ⟨rfl, ?_⟩
                go_simp
                exact ⟨Grown.refl _, rfl⟩
              · intro w' hg _
                refine Or.inl ⟨rfl, ?_⟩
                go_simp
                exact ⟨Grown.refl _, rfl⟩
              · intro w' hg _
                refine Or.inl ⟨rfl, ?_⟩
                go_simp
                exact ⟨Grown.refl _, rfl⟩
              · intro w' hg _
                refine Or.inl ⟨rfl, ?_⟩
                go_simp
                exact ⟨Grown.refl _, rfl⟩
              · intro w' hg _
                refine Or.inl ⟨rfl, ?_⟩
                go_simp
                exact ⟨Grown.refl _, rfl⟩
              · intro w' hg _
                refine Or.inl ⟨rfl, ?_⟩
                go_simp
                exact ⟨Grown.refl _, rfl⟩
              · intro w' hg _
                refine Or.inl ⟨rfl, ?_⟩
                go_simp
                exact ⟨Grown.refl _, rfl⟩
              · intro w' hg _
                refine Or.inl ⟨rfl, ?_⟩
                go_simp
                exact ⟨Grown.refl _, rfl⟩
              · intro w' hg _
                refine Or.inl ⟨rfl, ?_⟩
                go_simp
                exact ⟨Grown.refl _, rfl⟩
              · intro w' hg _
                refine Or.inl ⟨rfl, ?_⟩
                go_simp
                exact ⟨Grown.refl _, rfl⟩
              · intro w' hg _
                refine Or.inl ⟨rfl, ?_⟩
                go_simp
                exact ⟨Grown.refl _, rfl⟩
              · intro w' hg _
                refine Or.inl ⟨rfl, ?_⟩
                go_simp
                exact ⟨Grown.refl _, rfl⟩
              · intro w' hg _
                refine Or.inl ⟨rfl, ?_⟩
                have vv := (v1.grown ((Below.refl _ _).drew)).grown hg
                have y0 := vv.c0
                have y1 := vv.c1
                have y2 := vv.c2
                have y3 := vv.c3
                have y4 := vv.c4
                have y5 := vv.c5
                have y6 := vv.c6
                have y7 := vv.c7
                have y8 := vv.c8
                go_simp
                exact ⟨Grown.refl _, rfl⟩
              · intro w' hg _
                refine Or.inl ⟨rfl, ?_⟩
                go_simp
                exact ⟨Grown.refl _, rfl⟩
              · intro w' hg _
                refine Or.inl ⟨rfl, ?_⟩
                have vv := (v1.grown ((Below.refl _ _).drew)).grown hg
                have y0 := vv.c0
                have y1 := vv.c1
                have y2 := vv.c2
                have y3 := vv.c3
                have y4 := vv.c4
                have y5 := vv.c5
                have y6 := vv.c6
                have y7 := vv.c7
                have y8 := vv.c8
                go_simp
                exact ⟨Grown.refl _, rfl⟩
              · intro w' hg _
                refine Or.inl ⟨rfl, ?_⟩
                go_simp
                refine (lchunk_any _ _ _ _ _ _ _ 0 _ goodH.arena (by omega) (by omega)).mono ?_
                rintro e w'' ⟨rfl, b9⟩
                exact ⟨_, rfl, b9, rfl⟩
              · intro w' hg _
                refine Or.inl ⟨rfl, ?_⟩
                go_simp
                first
                  | exact ⟨Grown.refl _, rfl⟩
                  | exact ⟨Grown.refl _, congrArg (Value.int .i64) (by decide)⟩
              · intro w' hg _
                refine Or.inl ⟨rfl, ?_⟩
                go_simp
                refine (peek_is (m1.drew.below hg) 17 hpk17 0 HP0.out).mono ?_
                rintro e w'' ⟨rfl, rfl⟩
                exact ⟨_, rfl, Grown.refl _, rfl⟩
              · intro w' hg _
                refine Or.inl ⟨rfl, ?_⟩
                go_simp
                exact ⟨Grown.refl _, rfl⟩
              · intro w' hg _
                refine Or.inl ⟨rfl, ?_⟩
                go_simp
                exact ⟨Grown.refl _, rfl⟩
              · intro w' hg _
                refine Or.inl ⟨rfl, ?_⟩
                go_simp
                exact ⟨Grown.refl _, rfl⟩
              intro w10 hg _
              have b10 : Below w.heap.size w w10 := grow b1.drew hg
              clear hg m1 v1 b1
              go_wp2
              go_ret
              exact ⟨rfl, b10⟩
            · have hE : u1.E = 3 := hE
              go_wp2_with (go_at_call 24; refine (ddone_over d1 hnx).mono ?_; rintro e w9 ⟨rfl, b9⟩; rw [show u1.E = 3 from hE])
              refine wp_over (fun W => MemAt W L s1 ∧ BoxV W E 2 4 4 20 100 600 3 L.p 0 ∧ Below w.heap.size w W) ⟨HD.out.mm.below b9, HD.out.v.grown b9, grow HD.out.b b9⟩ ?_
              clear b9 HD d1 hnx hE i1
              rintro W ⟨m1, v1, b1⟩
              refine wp_region_rely Grown [.val (.bool true), .val (.bool true), .val (.pointer none), .val (.bool false), .val (.bool true), .val (.bool true), .val (.bool true), .val (.int .i64 3), .val (.bool false), .val (.int .i64 0), .val (.bool true), .val (.bool true), .val (.bool true), .val (.bool true), .val (.int .i64 3), .val (.bool true), .val (.int .i64 0), .val (.bool false), .val (.bool true), .val (.bool true), .val (.bool true), .val (.pointer (some ⟨E, 7, none⟩)), .val (.pointer (some ⟨L.p, 0, none⟩)), .val (.pointer (some ⟨E, 0, none⟩)), .val (.agg #[.int .i64 2, .int .i64 4, .int .i64 4, .int .i64 20, .int .i64 100, .int .i64 600, .int .i64 3]), .val (.int .i64 (6 + 2 + 4 * 2 + 0 * 3)), .val (.int .i64 ((17 : Nat) : Int)), .val (.int .u64 0), .val (.bool true), .val (.bool true), .val (.bool true)] (by kernel_rfl) Grown.refl Grown.trans (by kernel_rfl) (by kernel_rfl) (by kernel_rfl) ?_
              simp only [relyAll, Act.put, List.setIfInBounds_toArray, List.set_cons_zero, List.set_cons_succ]
              refine ⟨?_, ?_, ?_, ?_, ?_, ?_, ?_, ?_, ?_, ?_, ?_, ?_, ?_, ?_, ?_, ?_, ?_, ?_, ?_, ?_, ?_, ?_, ?_, ?_, ?_, ?_, ?_, ?_, ?_, ?_, ?_, ?_⟩
              · intro w' hg _
                refine Or.inl ⟨rfl, ?_⟩
                go_simp
                exact ⟨Grown.refl _, rfl⟩
              · intro w' hg _
                refine Or.inl ⟨rfl, ?_⟩
                go_simp
                exact ⟨Grown.refl _, rfl⟩
              · intro w' hg _
                refine Or.inl ⟨rfl, ?_⟩
                go_simp
                exact ⟨Grown.refl _, rfl⟩
              · intro w' hg _
                refine Or.inl ⟨rfl, ?_⟩
                go_simp
                refine (hwon_nil _).mono ?_
                rintro e w'' ⟨rfl, rfl⟩
                exact ⟨_, rfl, Grown.refl _, rfl⟩
              · intro w' hg _
                refine Or.inl ⟨rfl, ?_⟩
                go_simp
                exact ⟨Grown.refl _, rfl⟩
              · intro w' hg _
                refine Or.inl ⟨rfl, ?_⟩
                go_simp
                exact ⟨Grown.refl _, rfl⟩
              · intro w' hg _
                refine Or.inl ⟨rfl, ?_⟩
                go_simp
                exact ⟨Grown.refl _, rfl⟩
              · intro w' hg _
                refine Or.inl ⟨rfl, ?_⟩
                go_simp
                exact ⟨Grown.refl _, rfl⟩
              · intro w' hg _
                refine Or.inl ⟨rfl, ?_⟩
                go_simp
                exact ⟨Grown.refl _, rfl⟩
              · intro w' hg _
                refine Or.inl ⟨rfl, ?_⟩
                go_simp
                exact ⟨Grown.refl _, rfl⟩
              · intro w' hg _
                refine Or.inl ⟨rfl, ?_⟩
                go_simp
                exact ⟨Grown.refl _, rfl⟩
              · intro w' hg _
                refine Or.inl ⟨rfl, ?_⟩
                go_simp
                exact ⟨Grown.refl _, rfl⟩
              · intro w' hg _
                refine Or.inl ⟨rfl, ?_⟩
                go_simp
                exact ⟨Grown.refl _, rfl⟩
              · intro w' hg _
                refine Or.inl ⟨rfl, ?_⟩
                go_simp
                exact ⟨Grown.refl _, rfl⟩
              · intro w' hg _
                refine Or.inl ⟨rfl, ?_⟩
                go_simp
                exact ⟨Grown.refl _, rfl⟩
              · intro w' hg _
                refine Or.inl ⟨rfl, ?_⟩
                go_simp
                exact ⟨Grown.refl _, rfl⟩
              · intro w' hg _
                refine Or.inl ⟨rfl, ?_⟩
                go_simp
                exact ⟨Grown.refl _, rfl⟩
              · intro w' hg _
                refine Or.inl ⟨rfl, ?_⟩
                go_simp
                exact ⟨Grown.refl _, rfl⟩
              · intro w' hg _
                refine Or.inl ⟨rfl, ?_⟩
                go_simp
                exact ⟨Grown.refl _, rfl⟩
              · intro w' hg _
                refine Or.inl ⟨rfl, ?_⟩
                go_simp
                exact ⟨Grown.refl _, rfl⟩
              · intro w' hg _
                refine Or.inl ⟨rfl, ?_⟩
                go_simp
                exact ⟨Grown.refl _, rfl⟩
              · intro w' hg _
                refine Or.inl ⟨rfl, ?_⟩
                go_simp
                exact ⟨Grown.refl _, rfl⟩
              · intro w' hg _
                refine Or.inl ⟨rfl, ?_⟩
                have vv := (v1.grown ((Below.refl _ _).drew)).grown hg
                have y0 := vv.c0
                have y1 := vv.c1
                have y2 := vv.c2
                have y3 := vv.c3
                have y4 := vv.c4
                have y5 := vv.c5
                have y6 := vv.c6
                have y7 := vv.c7
                have y8 := vv.c8
                go_simp
                exact ⟨Grown.refl _, rfl⟩
              · intro w' hg _
                refine Or.inl ⟨rfl, ?_⟩
                go_simp
                exact ⟨Grown.refl _, rfl⟩
              · intro w' hg _
                refine Or.inl ⟨rfl, ?_⟩
                have vv := (v1.grown ((Below.refl _ _).drew)).grown hg
                have y0 := vv.c0
                have y1 := vv.c1
                have y2 := vv.c2
                have y3 := vv.c3
                have y4 := vv.c4
                have y5 := vv.c5
                have y6 := vv.c6
                have y7 := vv.c7
                have y8 := vv.c8
                go_simp
                exact ⟨Grown.refl _, rfl⟩
              · intro w' hg _
                refine Or.inl ⟨rfl, ?_⟩
                go_simp
                refine (lchunk_any _ _ _ _ _ _ _ 0 _ goodH.arena (by omega) (by omega)).mono ?_
                rintro e w'' ⟨rfl, b9⟩
                exact ⟨_, rfl, b9, rfl⟩
              · intro w' hg _
                refine Or.inl ⟨rfl, ?_⟩
                go_simp
                first
                  | exact ⟨Grown.refl _, rfl⟩
                  | exact ⟨Grown.refl _, congrArg (Value.int .i64) (by decide)⟩
              · intro w' hg _
                refine Or.inl ⟨rfl, ?_⟩
                go_simp
                refine (peek_is (m1.drew.below hg) 17 hpk17 0 HP0.out).mono ?_
                rintro e w'' ⟨rfl, rfl⟩
                exact ⟨_, rfl, Grown.refl _, rfl⟩
              · intro w' hg _
                refine Or.inl ⟨rfl, ?_⟩
                go_simp
                exact ⟨Grown.refl _, rfl⟩
              · intro w' hg _
                refine Or.inl ⟨rfl, ?_⟩
                go_simp
                exact ⟨Grown.refl _, rfl⟩
              · intro w' hg _
                refine Or.inl ⟨rfl, ?_⟩
                go_simp
                exact ⟨Grown.refl _, rfl⟩
              intro w10 hg _
              have b10 : Below w.heap.size w w10 := grow b1.drew hg
              clear hg m1 v1 b1
              go_wp2
              go_ret
              exact ⟨rfl, b10⟩

end Go.Proofs.YtbmiieaakbcncaaGreat
