/- DropForged answers true for all acts, numbers and bools, and leaves what was in memory. -/
import Derived.Test.YtbmiieaakbcncaaGreatDropActs
namespace Go.Proofs.YtbmiieaakbcncaaGreat
open Go.RowKit

theorem len_is {w : World} {L : Loc} {s : Mm} (h : MemAt w L s) (K : Nat) (hK : s.n = K) : Calls Tryz.prog 25 #[.pointer (some ⟨L.p, 0, none⟩)] w fun e w' => e = .returned (.int .i64 K) ∧ w' = w := by
  subst hK; exact len_any h

theorem row_more {w : World} {B K q : Nat} {f : Nat → Int} (h : w.rowIs B 37 K (fun i => .int .u64 (if i < q then f i else 0))) (_ : q < K) : (w.setCell ⟨B, q, none⟩ (.int .u64 (f q))).rowIs B 37 K (fun i => .int .u64 (if i < q + 1 then f i else 0)) :=
  (h.set q _).congr fun j _ => by
    by_cases e : j = q
    · subst e; simp
    · by_cases h1 : j < q
      · simp [e, h1, show j < q + 1 by omega]
      · simp [e, h1, show ¬ j < q + 1 by omega]
theorem row_all {w : World} {B K : Nat} {f : Nat → Int} (h : w.rowIs B 37 K (fun i => .int .u64 (if i < K then f i else 0))) : w.rowIs B 37 K (fun i => .int .u64 (f i)) :=
  h.congr fun j hj => by simp [hj]

/-- no object lives by a handle that is of no object in that life -/
theorem Tame.dead {t n k m nx : Nat} {q : Q} {gen : Nat → Nat} {ls : List Ox} {cg : Int} (C : Tame t n k m q nx gen ls) (hG : Good t n k m cg 600 3) (hn : n ≤ 65535) (cov : Cover n q ls) {x G : Nat} (hx : x < n) (h : ∀ o ∈ ls, ¬ (o.x = x ∧ o.g = G)) : (lifeB (q.sw x % 8) && decide (genOf (q.sw x) = G)) = false := by
  rcases cov x hx with hF | ⟨o, ho, rfl⟩
  · have e := C.sw x hF
    have b := (C.gb x hx).2
    have d := packS_dec (st := 0) (A := 0) (G := gen x) (V := 0) (by decide) (by decide) b (by decide)
    rw [e, show packS 0 0 (gen x : Int) 0 = packS ((0 : Nat) : Int) ((0 : Nat) : Int) (gen x) ((0 : Nat) : Int) from rfl, d.1]
    rfl
  · have I := C.is hG hn ho
    have : ¬ genOf (q.sw o.x) = G := fun e => h o ho ⟨rfl, by rw [← I.gn]; exact e⟩
    rw [decide_eq_false this, Bool.and_false]

/-- a number is a handle, of a slot and a life, or none -/
theorem hand_cases (nu : Int) : (nu < 65536 ∨ 4294967296 ≤ nu) ∨ ∃ x G : Nat, HandIs nu x G ∧ x ≤ 65535 ∧ 1 ≤ G ∧ G ≤ 65535 ∧ nu = packH x G := by
  by_cases h1 : nu < 65536 ∨ 4294967296 ≤ nu
  · exact Or.inl h1
  · refine Or.inr ⟨(nu % 65536).toNat, (nu / 65536).toNat, ⟨by omega, by omega, by omega, by omega⟩, by omega, by omega, by omega, ?_⟩
    rw [packH_is _ _ (by omega) (by omega)]
    omega

section
variable {w0 w : World} {L : Loc} {bE t n k m σ nx : Nat} {s : Mm} {q : Q} {ls : List Ox} {nu : Int} {own : Bool}

/-- by a handle that nobody made nothing is let go, and no word is changed -/
theorem forged (hnu : Wd nu) (a : FarmApart w0 L bE t n k m 100) (hσ : σ + 200 < 1000000) (cov : Cover n q ls) (non : ∀ o ∈ ls, ¬ (packH o.x o.g = nu ∧ o.own = own)) (f : Farm w0 w L bE t n k m 100 s σ q nx (fun _ => 1) ls) :
    Calls Tryz.prog 14 #[.agg #[.int .i64 t, .int .i64 n, .int .i64 k, .int .i64 m, .int .i64 100, .int .i64 600, .int .i64 3, .pointer (some ⟨L.p, 0, none⟩), .int .i64 0], .int .u64 nu, .bool own] w fun e w' => ∃ (st : Int) (s' : Mm), e = .returned (.agg #[.int .i64 3, .int .u64 0, .int .i64 0, .int .i64 st]) ∧ MemAt w' L s' ∧ s'.n = s.n ∧ s'.wd = s.wd ∧ BoxV w' bE t n k m 100 600 3 L.p 0 ∧ Below w0.heap.size w0 w' ∧ Only L.has w w' := by
  have hn := f.tw.pile.big
  have hlen := f.tw.len
  rcases hand_cases nu with h | ⟨x, G, hh, hx, g1, g2, hnuE⟩
  · refine (drop_none (own := own) (t := t) (n := n) (k := k) (m := m) f.mm hnu h f.tw.pile.st).mono ?_
    rintro e w' ⟨rfl, m', o'⟩
    exact ⟨_, s, rfl, m', rfl, rfl, f.v.only o' a.e, mgrow f.b o' a.l0, o'⟩
  · by_cases hxn : x < n
    · by_cases hl : ∃ o ∈ ls, o.x = x ∧ o.g = G
      · obtain ⟨o, ho, rfl, rfl⟩ := hl
        have hw : o.own ≠ own := fun e => non o ho ⟨hnuE.symm, e⟩
        rw [hnuE]
        refine (f.other a ho hw hσ).mono ?_
        rintro e w' ⟨st, s', rfl, f', o', e'⟩
        exact ⟨st, s', rfl, f'.mm, by rw [f'.tw.len, hlen], e', f'.v, f'.b, o'⟩
      · refine (f.dead (own := own) a hh hxn (f.tm.dead a.g hn cov hxn fun o ho e => hl ⟨o, ho, e⟩) hσ).mono ?_
        rintro e w' ⟨st, s', rfl, f', o', e'⟩
        exact ⟨st, s', rfl, f'.mm, by rw [f'.tw.len, hlen], e', f'.v, f'.b, o'⟩
    · refine (drop_out (own := own) f.mm a.g (by rw [hlen]; exact Nat.le_refl _) hh (by omega) f.tw.pile.st).mono ?_
      rintro e w' ⟨rfl, m', o'⟩
      exact ⟨_, s, rfl, m', rfl, rfl, f.v.only o' a.e, mgrow f.b o' a.l0, o'⟩
end

set_option maxRecDepth 20000 in
set_option maxHeartbeats 4000000 in
theorem dropForged_any (ao : Option Addr) (N cap : Nat) (A : Acts9) (nu : Int) (own : Bool) (w : World) (hr : Acts9At w ao N A) (hnu : Wd nu) :
    Calls Tryz.prog 5 #[.slice ao N cap, .int .u64 nu, .bool own] w fun e w' => e = .returned (.bool true) ∧ Below w.heap.size w w' := by
  have HR : Hid (Acts9At w ao N A) := hr
  clear hr
  have hG : Good 1 8 4 40 100 600 3 := goodp (by omega) (by omega) (by omega) (by omega)
  have AR := fun w => arena08 hG (by omega) w
  have hfe : ∀ (a b c d : Value) (w : World), (Instr.field 39 (.agg #[a, b, c, d]) 0).run Tryz.prog w = .ok a w := fun a b c d w => by kernel_rfl
  go_enter Tryz.func5, Tryz.ntmps5
  go_wp2_with (first
    | (go_at_call 9; refine (AR _).mono ?_; rintro e w1 ⟨L, s, rfl, m1, t1, b1, f1⟩; obtain ⟨c1, pa⟩ := Farm.first hG m1 t1 b1 f1)
    | (go_at_call 10; refine (awake09_any _).mono ?_; rintro e w2 ⟨rfl, b2⟩; have c2 := c1.grown b2))
  obtain ⟨E, hE⟩ : ∃ E, w1.heap.size = E := ⟨_, rfl⟩
  rw [hE] at c2 pa ⊢
  have FA : Hid (FarmApart w L E 1 8 4 40 100) := pa
  have A3 : Hid (Farm w w2 L E 1 8 4 40 100 s 17 (Q.new 8) 0 (fun _ => 1) []) := c2
  clear c1 c2 pa b2 m1 t1 b1 f1 AR hE
  go_loopw [9] (fun i wr => ∃ (r : Nat) (s' : Mm) (σ : Nat) (q : Q) (nx : Nat) (ls : List Ox), i = .int .i64 r ∧ r ≤ 8 ∧ σ ≤ 17 + 100 * r ∧ Farm w wr L E 1 8 4 40 100 s' σ q nx (fun _ => 1) ls ∧ Cover 8 q ls ∧ ∀ o ∈ ls, ¬ (packH o.x o.g = nu ∧ o.own = own)) (fun i _ => 8 - (intOf i).toNat)
  case atStart => exact ⟨0, s, 17, Q.new 8, 0, [], rfl, by omega, by omega, A3.out, cover0 8, fun o h => by cases h⟩
  case round =>
    clear A3
    obtain ⟨r, s', σ, q, nx, ls, rfl, hr8, hσ, c, cov, non⟩ := hrel
    by_cases hrN : r < N
    · have hrN' : (r : Int) < (N : Int) := by omega
      by_cases hr8' : r < 8
      · have hr8'' : (r : Int) < 8 := by omega
        obtain ⟨zb, zo, rfl, hk0, hk1, hk2, hk3⟩ := HR.out r hrN
        have hzb : zb < w.heap.size := World.block_lt_of_cell? w _ hk0
        have hzL : Hid (¬ L.has zb) := fun hh => by have := FA.out.l0 _ hh; omega
        obtain ⟨Z, hZ, z1, z2⟩ := size15 (A.size r)
        have HZ : Hid ((1 : Int) + bits .and .i64 (A.size r) 15 = (Z : Int)) := hZ
        obtain ⟨E0, H0, q', nx', ls', hnx, lot, mk⟩ := c.lot (own := A.own r) FA.out z1 z2 (by omega)
        have HMK : Hid (∀ w1 : World, Farm w w1 L E 1 8 4 40 100 s' σ q nx (fun _ => 1) ls →
          Calls Tryz.prog 11 #[.agg #[.int .i64 1, .int .i64 8, .int .i64 4, .int .i64 40, .int .i64 100, .int .i64 600, .int .i64 3, .pointer (some ⟨L.p, 0, none⟩), .int .i64 0], .int .i64 Z, .bool (A.own r)] w1 fun e w' => ∃ (st : Nat) (s'' : Mm) (σ' : Nat), e = .returned (.agg #[.int .i64 E0, .int .u64 H0, .int .i64 0, .int .i64 st]) ∧ σ' ≤ σ + 100 ∧ Farm w w' L E 1 8 4 40 100 s'' σ' q' nx' (fun _ => 1) ls' ∧ Only L.has w1 w') := mk
        have HLt : Hid (Lot (fun _ => 1) (A.own r) Z q ls E0 H0 q' ls') := lot
        have COV' : Hid (Cover 8 q' ls') := lot.cover cov
        have NON : Hid (∀ o ∈ ls, ¬ (packH o.x o.g = nu ∧ o.own = own)) := non
        have hc2 := keep' c.b hk2
        have hc3 := keep' c.b hk3
        clear mk lot cov non hZ hk0 hk1
        go_wp2
        refine wp_over (fun W => Farm w W L E 1 8 4 40 100 s' σ q nx (fun _ => 1) ls ∧ W.cell? ⟨zb, zo + r * 4 + 2, none⟩ = some (.int .i64 (A.size r)) ∧ W.cell? ⟨zb, zo + r * 4 + 3, none⟩ = some (.bool (A.own r))) ⟨c, hc2, hc3⟩ ?_
        clear c hc2 hc3 hk2 hk3
        rintro W ⟨c, hz2, hz3⟩
        obtain ⟨Sz, hSz⟩ : ∃ Sz, W.heap.size = Sz := ⟨_, rfl⟩
        have hLS : ∀ i, L.has i → i < Sz := fun i hi => by have := c.mm.lt i hi; omega
        have hLE := FA.out.e
        refine wp_region_phase_tail (Only L.has) Grown (phLot w L E 1 8 4 40 100 s' σ q nx (fun _ => 1) ls q' nx' ls') 15 [13] [.val (.agg #[.int .i64 1, .int .i64 8, .int .i64 4, .int .i64 40, .int .i64 100, .int .i64 600, .int .i64 3, .pointer (some ⟨L.p, 0, none⟩), .int .i64 0]), .val (.slice (some ⟨zb, zo, none⟩) N cap), .val (.int .i64 r), .val (.pointer (some ⟨zb, zo + r * 4, none⟩)), .val (.pointer (some ⟨zb, zo + r * 4 + 2, none⟩)), .val (.int .i64 (A.size r)), .val (.int .i64 (bits .and .i64 (A.size r) 15)), .val (.int .i64 Z), .val (.slice (some ⟨zb, zo, none⟩) N cap), .val (.int .i64 r), .val (.pointer (some ⟨zb, zo + r * 4, none⟩)), .val (.pointer (some ⟨zb, zo + r * 4 + 3, none⟩)), .val (.bool (A.own r)), .that (fun _ v => ∃ st : Nat, v = .agg #[.int .i64 E0, .int .u64 H0, .int .i64 0, .int .i64 st]) (fun _ _ _ _ h => h), .that (fun w' v => ∃ X, v = .pointer (some ⟨X, 0, none⟩) ∧ Sz ≤ X ∧ At w' X 0 39 #[.int .i64 0, .int .u64 0, .int .i64 0, .int .i64 0] [.int .i64 0, .int .u64 0, .int .i64 0, .int .i64 0]) ?_]
          (by kernel_rfl) (Only.refl _) (fun _ _ _ h k => h.trans k) (fun x y h => Only.ofGrown h) (phLot_grown w L E 1 8 4 40 100 s' σ q nx (fun _ => 1) ls q' nx' ls') c.drew (by decide) (by kernel_rfl) (by kernel_rfl) (by kernel_rfl) (by kernel_rfl) (by kernel_rfl) (by kernel_rfl) (by kernel_rfl) (by kernel_rfl) ?_
        · rintro x1 y1 v hg ⟨X, hv, hb, hr⟩
          exact ⟨X, hv, hb, hr.only hg (fun hh => by have := hLS _ hh; omega)⟩
        simp only [List.take_succ_cons, List.take_zero, phaseAll, Act.put, List.setIfInBounds_toArray, List.set_cons_zero, List.set_cons_succ]
        refine ⟨?_, ?_, ?_, ?_, ?_, ?_, ?_, ?_, ?_, ?_, ?_, ?_, ?_, ?_, ?_⟩
        · intro w' hR _
          refine Or.inl ⟨rfl, ?_⟩
          have vv := (c.v.grown ((Below.refl _ _).drew)).only hR hLE
          have y0 := vv.c0
          have y1 := vv.c1
          have y2 := vv.c2
          have y3 := vv.c3
          have y4 := vv.c4
          have y5 := vv.c5
          have y6 := vv.c6
          have y7 := vv.c7
          have y8 := vv.c8
          go_simp
          exact ⟨Grown.refl _, rfl⟩
        · intro w' hR _
          refine Or.inl ⟨rfl, ?_⟩
          go_simp
          exact ⟨Grown.refl _, rfl⟩
        · intro w' hR _
          refine Or.inl ⟨rfl, ?_⟩
          go_simp
          exact ⟨Grown.refl _, rfl⟩
        · intro w' hR _
          refine Or.inl ⟨rfl, ?_⟩
          have hb : (0 : Int) ≤ (r : Int) := by omega
          go_simp
          exact ⟨Grown.refl _, rfl⟩
        · intro w' hR _
          refine Or.inl ⟨rfl, ?_⟩
          go_simp
          exact ⟨Grown.refl _, rfl⟩
        · intro w' hR _
          refine Or.inl ⟨rfl, ?_⟩
          have q0 := hR.keep (b := zb) (o := zo + r * 4 + 2) (v := .int .i64 (A.size r)) hzL.out hz2
          go_simp
          exact ⟨Grown.refl _, rfl⟩
        · intro w' hR _
          refine Or.inl ⟨rfl, ?_⟩
          go_simp
          exact ⟨Grown.refl _, rfl⟩
        · intro w' hR _
          refine Or.inl ⟨rfl, ?_⟩
          go_simp
          exact ⟨Grown.refl _, congrArg (Value.int .i64) (by rw [HZ.out, IntKind.wrap_i64]; omega)⟩
        · intro w' hR _
          refine Or.inl ⟨rfl, ?_⟩
          go_simp
          exact ⟨Grown.refl _, rfl⟩
        · intro w' hR _
          refine Or.inl ⟨rfl, ?_⟩
          go_simp
          exact ⟨Grown.refl _, rfl⟩
        · intro w' hR _
          refine Or.inl ⟨rfl, ?_⟩
          have hb : (0 : Int) ≤ (r : Int) := by omega
          go_simp
          exact ⟨Grown.refl _, rfl⟩
        · intro w' hR _
          refine Or.inl ⟨rfl, ?_⟩
          go_simp
          exact ⟨Grown.refl _, rfl⟩
        · intro w' hR _
          refine Or.inl ⟨rfl, ?_⟩
          have q0 := hR.keep (b := zb) (o := zo + r * 4 + 3) (v := .bool (A.own r)) hzL.out hz3
          go_simp
          exact ⟨Grown.refl _, rfl⟩
        · intro w' hR _ hP
          refine Or.inl ⟨rfl, ?_⟩
          have hP' : Farm w w' L E 1 8 4 40 100 s' σ q nx (fun _ => 1) ls := hP
          go_simp
          refine (HMK.out w' hP').mono ?_
          rintro e w'' ⟨st, s', σ', rfl, h1, h2, h3⟩
          exact ⟨_, rfl, ⟨h3, s', σ', h1, h2⟩, st, rfl⟩
        intro vD
        refine ⟨?_, ?_⟩
        · intro w' hR _
          refine Or.inl ⟨rfl, ?_⟩
          have hzz : Sz ≤ w'.heap.size := by have := hR.size; have e : W.drew.heap.size = W.heap.size := rfl; omega
          have qq := At.new w' 39 [.int .i64 0, .int .u64 0, .int .i64 0, .int .i64 0]
          go_simp
          exact ⟨grow_alloc (Below.refl _ _) _, _, rfl, hzz, qq⟩
        intro vX w8 hR hP hf
        obtain ⟨D, rfl, hDS, d8⟩ := hf.1
        obtain ⟨st, rfl⟩ := hf.2.1
        obtain ⟨s6, σ6, hσ6, c8⟩ : ∃ s' σ', σ' ≤ σ + 100 ∧ Farm w w8 L E 1 8 4 40 100 s' σ' q' nx' (fun _ => 1) ls' := hP
        have hz8 := hR.keep (b := zb) (o := zo + r * 4 + 3) (v := .bool (A.own r)) hzL.out (keep' ((Below.refl _ _).drew) hz3)
        have hLD : ¬ L.has D := fun hh => by have := hLS _ hh; omega
        have hED : E ≠ D := by have := c.ltE; omega
        have hwD : w.heap.size ≤ D := by have := c.b.size; omega
        have hzD : zb ≠ D := by omega
        have x0 := d8.at0 0 rfl
        have x1 := d8.at0 1 rfl
        have x2 := d8.at0 2 rfl
        have x3 := d8.at0 3 rfl
        have xf := d8.fz
        have c9 := (((c8.setIn hwD hED hLD 0 (.int .i64 E0)).setIn hwD hED hLD 1 (.int .u64 H0)).setIn hwD hED hLD 2 (.int .i64 0)).setIn hwD hED hLD 3 (.int .i64 st)
        have d9 := (((d8.put0 0 (.int .i64 E0)).put0 1 (.int .u64 H0)).put0 2 (.int .i64 0)).put0 3 (.int .i64 st)
        have hz9 := cell_other (i := 3) (v := .int .i64 st) (cell_other (i := 2) (v := .int .i64 0) (cell_other (i := 1) (v := .int .u64 H0) (cell_other (i := 0) (v := .int .i64 E0) hz8 hzD) hzD) hzD) hzD
        clear hz8 hR c hz2 hz3 hf c8 d8 hLS hSz hDS HMK
        have lot := HLt.out
        clear HLt
        cases lot with
        | no E' hE q'' hF hs hd =>
          have dE := d9.at0 0 rfl
          have hE0 : (E0 == 0) = false := by rcases hE with rfl | rfl <;> rfl
          go_wp2
          go_roundw
          case rel => exact ⟨r + 1, s6, σ6, q', nx', ls, by go_num, by omega, by omega, c9, COV'.out, NON.out⟩
          case measure => simp [intOf]; omega
        | made o q'' hF hg ho hz =>
          have dE := d9.at0 0 rfl
          have dH := d9.at0 1 rfl
          obtain ⟨H1, hH1⟩ : ∃ H1, packH o.x o.g = H1 := ⟨_, rfl⟩
          have HH1 : Hid (packH o.x o.g = H1) := hH1
          rw [hH1] at dH c9 d9 hz9 ⊢
          by_cases hh : H1 = nu
          · have hh' : (H1 == nu) = true := by simp [hh]
            by_cases how : A.own r = own
            · have how' : (A.own r == own) = true := by simp [how]
              have B9 := c9.b
              clear hh how c9
              go_wp2
              go_ret
              exact ⟨rfl, B9⟩
            · have how' : (A.own r == own) = false := by simpa using how
              have HOW : Hid (¬ A.own r = own) := how
              clear how hh
              go_wp2
              go_roundw
              case rel =>
                refine ⟨r + 1, s6, σ6, q', nx', o :: ls, by go_num, by omega, by omega, c9, COV'.out, fun o' h' => ?_⟩
                rcases List.mem_cons.1 h' with rfl | h'
                · exact fun e => HOW.out (ho.symm.trans e.2)
                · exact NON.out o' h'
              case measure => simp [intOf]; omega
          · have hh' : (H1 == nu) = false := by simpa using hh
            have HNE : Hid (¬ H1 = nu) := hh
            clear hh
            go_wp2
            go_roundw
            case rel =>
              refine ⟨r + 1, s6, σ6, q', nx', o :: ls, by go_num, by omega, by omega, c9, COV'.out, fun o' h' => ?_⟩
              rcases List.mem_cons.1 h' with rfl | h'
              · exact fun e => HNE.out (HH1.out.symm.trans e.1)
              · exact NON.out o' h'
            case measure => simp [intOf]; omega
      · have hr8'' : ¬ (r : Int) < 8 := by omega
        have A5 : Hid (Farm w wr L E 1 8 4 40 100 s' σ q nx (fun _ => 1) ls) := c
        have COV : Hid (Cover 8 q ls) := cov
        have NON : Hid (∀ o ∈ ls, ¬ (packH o.x o.g = nu ∧ o.own = own)) := non
        have hσ5 : σ ≤ 900 := by omega
        have z7 := c.v.c7
        obtain ⟨K, hK⟩ : ∃ K, s'.n = K := ⟨_, rfl⟩
        have hKL : K ≤ 1048576 := by rw [← hK]; exact c.mm.len
        have hmk := run_make_row' (P := Tryz.prog) 31 37 (.int .u64 0) 8 Tryz.underlying31 Tryz.infoW37 rfl .i64 .i64 K (by omega) (by omega)
        clear c cov non hσ
        go_wp2_with (go_at_call 25; refine (len_is A5.out.mm K hK).mono ?_; rintro e w4 ⟨rfl, rfl⟩)
        obtain ⟨B, hB⟩ : ∃ B, B = w4.heap.size := ⟨_, rfl⟩
        have hrow := World.rowIs_made w4 (.int .u64 0) K 37
        have f4 := A5.out.alloc (.cells (madeCells #[.int .u64 0] K) 37)
        have hLB : Hid (¬ L.has B) := fun h => by have := A5.out.mm.lt B h; omega
        have hBw : Hid (w.heap.size ≤ B) := by unfold Hid; have := A5.out.b.size; omega
        have hBe : Hid (E ≠ B) := by unfold Hid; have := A5.out.ltE; omega
        have hK' : Hid (s'.n = K) := hK
        rw [← hB] at hrow ⊢
        have A4 : Hid (Farm w (w4.alloc (.cells (madeCells #[.int .u64 0] K) 37)) L E 1 8 4 40 100 s' σ q nx (fun _ => 1) ls ∧ (w4.alloc (.cells (madeCells #[.int .u64 0] K) 37)).rowIs B 37 K (fun i => .int .u64 (if i < 0 then s'.wd i else 0))) := ⟨f4, hrow⟩
        clear hB A5 f4 hrow hK hmk z7 hr8 hr8' hr8'' hrN hrN'
        go_loopw [12] (fun j wr => ∃ (q0 : Nat), q0 ≤ K ∧ j = .int .i64 q0 ∧ Farm w wr L E 1 8 4 40 100 s' σ q nx (fun _ => 1) ls ∧ wr.rowIs B 37 K (fun i => .int .u64 (if i < q0 then s'.wd i else 0))) (fun j _ => K - (intOf j).toNat)
        case atStart => exact ⟨0, Nat.zero_le _, rfl, A4.out.1, A4.out.2⟩
        case round =>
          clear A4
          obtain ⟨q0, hq, rfl, f, hrow⟩ := hrel
          by_cases hqK : q0 < K
          · have hc := hrow.cell hqK
            have hf := hrow.frozen q0
            have hqK' : (q0 : Int) < (K : Int) := by omega
            have y7 := f.v.c7
            go_wp2_with (go_at_call 17; refine (peek_in f.mm _ (by rw [hK'.out]; exact hqK)).mono ?_; rintro e w5 ⟨rfl, rfl⟩)
            go_roundw
            case rel => exact ⟨q0 + 1, by omega, by go_num, f.setIn hBw.out hBe.out hLB.out _ _, row_more hrow hqK⟩
            case measure => simp [intOf]; omega
          · have hqK' : ¬ (q0 : Int) < (K : Int) := by omega
            have hjj : q0 = K := by omega
            rw [hjj] at hrow
            have hrow := row_all hrow
            have CL := forged (nu := nu) (own := own) hnu FA.out (by omega) COV.out NON.out f
            have HR5 : Hid (wr.rowIs B 37 K (fun i => .int .u64 (s'.wd i))) := hrow
            have z0 := f.v.c0
            have z1 := f.v.c1
            have z2 := f.v.c2
            have z3 := f.v.c3
            have z4 := f.v.c4
            have z5 := f.v.c5
            have z6 := f.v.c6
            have z7 := f.v.c7
            have z8 := f.v.c8
            clear hrow hjj f hqK hq COV NON
            go_wp2_with (go_at_call 14; refine CL.mono ?_; rintro e w5 ⟨st5, s5, rfl, m5, n5, wd5, v5, b5, o5⟩)
            have A6 : Hid (MemAt w5 L s5 ∧ BoxV w5 E 1 8 4 40 100 600 3 L.p 0 ∧ Below w.heap.size w w5 ∧ w5.rowIs B 37 K (fun i => .int .u64 (s'.wd i))) := ⟨m5, v5, b5, HR5.out.of_block (o5.block _ HR5.out.lt hLB.out)⟩
            have hn5 : Hid (s5.n = K) := by unfold Hid; rw [n5]; exact hK'.out
            have hw5 : Hid (s5.wd = s'.wd) := wd5
            clear hqK' CL HR5 m5 v5 b5 o5 n5 wd5 z0 z1 z2 z3 z4 z5 z6 z7 z8
            go_loopw [13] (fun j wr => ∃ (q0 : Nat), q0 ≤ K ∧ j = .int .i64 q0 ∧ MemAt wr L s5 ∧ BoxV wr E 1 8 4 40 100 600 3 L.p 0 ∧ Below w.heap.size w wr ∧ wr.rowIs B 37 K (fun i => .int .u64 (s'.wd i))) (fun j _ => K - (intOf j).toNat)
            case atStart => exact ⟨0, Nat.zero_le _, rfl, A6.out⟩
            case round =>
              clear A6
              obtain ⟨q0, hq, rfl, m5, v5, b5, hrow⟩ := hrel
              by_cases hqK : q0 < K
              · have hqK' : (q0 : Int) < (K : Int) := by omega
                have hc := hrow.cell hqK
                have y7 := v5.c7
                have HW : Hid (s5.wd q0 = s'.wd q0) := congrFun hw5.out q0
                have HQ : Hid (q0 < s5.n) := by unfold Hid; rw [hn5.out]; exact hqK
                go_wp2
                go_quiet ((go_at_call 17; exact Calls.quiet_of_same (peek_is (m5.drewN _) q0 HQ.out (s'.wd q0) HW.out)))
                go_wp2
                go_roundw
                case rel => exact ⟨q0 + 1, by omega, by go_num, m5.drewN _, v5.grown (below_drewN (Below.refl _ _) _), below_drewN b5 _, hrow⟩
                case measure => simp [intOf]; omega
              · have hqK' : ¬ (q0 : Int) < (K : Int) := by omega
                have B9 := b5
                clear m5 v5 b5 hrow
                go_wp2
                go_ret
                exact ⟨rfl, B9⟩
    · have hrN' : ¬ (r : Int) < (N : Int) := by omega
      have A5 : Hid (Farm w wr L E 1 8 4 40 100 s' σ q nx (fun _ => 1) ls) := c
      have COV : Hid (Cover 8 q ls) := cov
      have NON : Hid (∀ o ∈ ls, ¬ (packH o.x o.g = nu ∧ o.own = own)) := non
      have hσ5 : σ ≤ 900 := by omega
      have z7 := c.v.c7
      obtain ⟨K, hK⟩ : ∃ K, s'.n = K := ⟨_, rfl⟩
      have hKL : K ≤ 1048576 := by rw [← hK]; exact c.mm.len
      have hmk := run_make_row' (P := Tryz.prog) 31 37 (.int .u64 0) 8 Tryz.underlying31 Tryz.infoW37 rfl .i64 .i64 K (by omega) (by omega)
      clear c cov non hσ
      go_wp2_with (go_at_call 25; refine (len_is A5.out.mm K hK).mono ?_; rintro e w4 ⟨rfl, rfl⟩)
      obtain ⟨B, hB⟩ : ∃ B, B = w4.heap.size := ⟨_, rfl⟩
      have hrow := World.rowIs_made w4 (.int .u64 0) K 37
      have f4 := A5.out.alloc (.cells (madeCells #[.int .u64 0] K) 37)
      have hLB : Hid (¬ L.has B) := fun h => by have := A5.out.mm.lt B h; omega
      have hBw : Hid (w.heap.size ≤ B) := by unfold Hid; have := A5.out.b.size; omega
      have hBe : Hid (E ≠ B) := by unfold Hid; have := A5.out.ltE; omega
      have hK' : Hid (s'.n = K) := hK
      rw [← hB] at hrow ⊢
      have A4 : Hid (Farm w (w4.alloc (.cells (madeCells #[.int .u64 0] K) 37)) L E 1 8 4 40 100 s' σ q nx (fun _ => 1) ls ∧ (w4.alloc (.cells (madeCells #[.int .u64 0] K) 37)).rowIs B 37 K (fun i => .int .u64 (if i < 0 then s'.wd i else 0))) := ⟨f4, hrow⟩
      clear hB A5 f4 hrow hK hmk z7 hr8 hrN hrN'
      go_loopw [12] (fun j wr => ∃ (q0 : Nat), q0 ≤ K ∧ j = .int .i64 q0 ∧ Farm w wr L E 1 8 4 40 100 s' σ q nx (fun _ => 1) ls ∧ wr.rowIs B 37 K (fun i => .int .u64 (if i < q0 then s'.wd i else 0))) (fun j _ => K - (intOf j).toNat)
      case atStart => exact ⟨0, Nat.zero_le _, rfl, A4.out.1, A4.out.2⟩
      case round =>
        clear A4
        obtain ⟨q0, hq, rfl, f, hrow⟩ := hrel
        by_cases hqK : q0 < K
        · have hc := hrow.cell hqK
          have hf := hrow.frozen q0
          have hqK' : (q0 : Int) < (K : Int) := by omega
          have y7 := f.v.c7
          go_wp2_with (go_at_call 17; refine (peek_in f.mm _ (by rw [hK'.out]; exact hqK)).mono ?_; rintro e w5 ⟨rfl, rfl⟩)
          go_roundw
          case rel => exact ⟨q0 + 1, by omega, by go_num, f.setIn hBw.out hBe.out hLB.out _ _, row_more hrow hqK⟩
          case measure => simp [intOf]; omega
        · have hqK' : ¬ (q0 : Int) < (K : Int) := by omega
          have hjj : q0 = K := by omega
          rw [hjj] at hrow
          have hrow := row_all hrow
          have CL := forged (nu := nu) (own := own) hnu FA.out (by omega) COV.out NON.out f
          have HR5 : Hid (wr.rowIs B 37 K (fun i => .int .u64 (s'.wd i))) := hrow
          have z0 := f.v.c0
          have z1 := f.v.c1
          have z2 := f.v.c2
          have z3 := f.v.c3
          have z4 := f.v.c4
          have z5 := f.v.c5
          have z6 := f.v.c6
          have z7 := f.v.c7
          have z8 := f.v.c8
          clear hrow hjj f hqK hq COV NON
          go_wp2_with (go_at_call 14; refine CL.mono ?_; rintro e w5 ⟨st5, s5, rfl, m5, n5, wd5, v5, b5, o5⟩)
          have A6 : Hid (MemAt w5 L s5 ∧ BoxV w5 E 1 8 4 40 100 600 3 L.p 0 ∧ Below w.heap.size w w5 ∧ w5.rowIs B 37 K (fun i => .int .u64 (s'.wd i))) := ⟨m5, v5, b5, HR5.out.of_block (o5.block _ HR5.out.lt hLB.out)⟩
          have hn5 : Hid (s5.n = K) := by unfold Hid; rw [n5]; exact hK'.out
          have hw5 : Hid (s5.wd = s'.wd) := wd5
          clear hqK' CL HR5 m5 v5 b5 o5 n5 wd5 z0 z1 z2 z3 z4 z5 z6 z7 z8
          go_loopw [13] (fun j wr => ∃ (q0 : Nat), q0 ≤ K ∧ j = .int .i64 q0 ∧ MemAt wr L s5 ∧ BoxV wr E 1 8 4 40 100 600 3 L.p 0 ∧ Below w.heap.size w wr ∧ wr.rowIs B 37 K (fun i => .int .u64 (s'.wd i))) (fun j _ => K - (intOf j).toNat)
          case atStart => exact ⟨0, Nat.zero_le _, rfl, A6.out⟩
          case round =>
            clear A6
            obtain ⟨q0, hq, rfl, m5, v5, b5, hrow⟩ := hrel
            by_cases hqK : q0 < K
            · have hqK' : (q0 : Int) < (K : Int) := by omega
              have hc := hrow.cell hqK
              have y7 := v5.c7
              have HW : Hid (s5.wd q0 = s'.wd q0) := congrFun hw5.out q0
              have HQ : Hid (q0 < s5.n) := by unfold Hid; rw [hn5.out]; exact hqK
              go_wp2
              go_quiet ((go_at_call 17; exact Calls.quiet_of_same (peek_is (m5.drewN _) q0 HQ.out (s'.wd q0) HW.out)))
              go_wp2
              go_roundw
              case rel => exact ⟨q0 + 1, by omega, by go_num, m5.drewN _, v5.grown (below_drewN (Below.refl _ _) _), below_drewN b5 _, hrow⟩
              case measure => simp [intOf]; omega
            · have hqK' : ¬ (q0 : Int) < (K : Int) := by omega
              have B9 := b5
              clear m5 v5 b5 hrow
              go_wp2
              go_ret
              exact ⟨rfl, B9⟩

end Go.Proofs.YtbmiieaakbcncaaGreat
