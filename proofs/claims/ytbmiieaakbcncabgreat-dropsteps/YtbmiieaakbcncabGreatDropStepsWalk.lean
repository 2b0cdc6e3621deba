/- DropSteps answers true for all acts, and leaves what was in memory. -/
import Derived.Test.YtbmiieaakbcncabGreatDropSolo
import Derived.Test.YtbmiieaakbcncabGreatDropLa
namespace Go.Proofs.YtbmiieaakbcncabGreat
open Go.RowKit

theorem ogrow' {w a b : World} {S : Nat → Prop} (h : Below w.heap.size w a) (o : Only S a b) (hc : ∀ k, S k → w.heap.size ≤ k) : Below w.heap.size w b :=
  ⟨o.os.trans h.os, o.tape.trans h.tape, o.output.trans h.output, Nat.le_trans h.size o.size, fun k hk => (o.block k (Nat.lt_of_lt_of_le hk h.size) (fun hh => by have := hc k hh; omega)).trans (h.block k hk)⟩

theorem KindIs.data {t s k n a K I X : Int} (h : KindIs t s k n a K I X) (h9 : K = 9) : 6 + t + s * 2 + k * 3 ≤ a ∨ n < 0 := by
  subst h9
  cases h with
  | word i x i0 ik x0 xn e =>
    by_cases hn : n < 0
    · exact Or.inr hn
    · have := Int.mul_nonneg i0 (show 0 ≤ n by omega)
      left; omega

/-- the memory, while an object is made, and the word that the last step touched -/
def phLa (w0 : World) (L : Loc) (E : Nat) (s : Mm) (σ : Nat) (q : Q) (nx : Nat) (gen : Nat → Nat) (ls : List Ox) (q' : Q) (nx' : Nat) (ls' : List Ox) : Nat → World → Prop
  | 0, w => Farm w0 w L E 1 8 6 40 100 s σ q nx gen ls
  | _, w => ∃ s' σ', σ' ≤ σ + 100 ∧ Farm w0 w L E 1 8 6 40 100 s' σ' q' nx' gen ls' ∧ ∃ a : Nat, s'.la = (a : Int) ∧ a < 1000000

theorem phLa_grown (w0 : World) (L : Loc) (E : Nat) (s : Mm) (σ : Nat) (q : Q) (nx : Nat) (gen : Nat → Nat) (ls : List Ox) (q' : Q) (nx' : Nat) (ls' : List Ox) (x y : World) (p : Nat) (g : Grown x y) (h : phLa w0 L E s σ q nx gen ls q' nx' ls' p x) : phLa w0 L E s σ q nx gen ls q' nx' ls' p y := by
  match p, h with
  | 0, h => exact Farm.grown h g
  | p + 1, ⟨s', σ', h1, h2, h3⟩ => exact ⟨s', σ', h1, h2.grown g, h3⟩

theorem DRuns.head {t n k m : Nat} {cg : Int} {own : Bool} {x G : Nat} {N : Nat} {q : Q} {α : Dp} {q' : Q} {α' : Dp} (g : DRuns t n k m cg own x G N q α q' α') : ∃ α2 q2, dpTurn t n k m cg own x G q α = (q2, α2) ∧ α.good t n k m x G q ∧ α.over? = false ∧ ((α2.over? = true ∧ N = 1 ∧ q2 = q' ∧ α2 = α') ∨ (α2.over? = false ∧ ∃ N2, N = N2 + 1 ∧ DRuns t n k m cg own x G N2 q2 α2 q' α')) := by
  cases g with
  | one ho hg ht h => exact ⟨_, _, ht, hg, ho, Or.inl ⟨h, rfl, rfl, rfl⟩⟩
  | more ho hg ht h g => exact ⟨_, _, ht, hg, ho, Or.inr ⟨h, _, rfl, g⟩⟩

set_option maxRecDepth 20000 in
set_option maxHeartbeats 8000000 in
theorem dropSteps_any (ao : Option Addr) (N cap : Nat) (A : Acts9) (w : World) (hr : Acts9At w ao N A) :
    Calls Tryz.prog 4 #[.slice ao N cap] w fun e w' => e = .returned (.bool true) ∧ Below w.heap.size w w' := by
  have HR : Hid (Acts9At w ao N A) := hr
  clear hr
  have hG : Good 1 8 6 40 100 600 3 := goodp (by omega) (by omega) (by omega) (by omega)
  have AR := fun w => arena08 hG (by omega) w
  have f1 : ∀ (a b c d : Value) (w : World), (Instr.field 33 (.agg #[a, b, c, d]) 1).run Tryz.prog w = .ok b w := fun a b c d w => by kernel_rfl
  have f2 : ∀ (a b c d : Value) (w : World), (Instr.field 36 (.agg #[a, b, c, d]) 1).run Tryz.prog w = .ok b w := fun a b c d w => by kernel_rfl
  have f3 : ∀ (a b c : Value) (w : World), (Instr.field 58 (.agg #[a, b, c]) 0).run Tryz.prog w = .ok a w := fun a b c w => by kernel_rfl
  have f4 : ∀ (a b c : Value) (w : World), (Instr.field 58 (.agg #[a, b, c]) 2).run Tryz.prog w = .ok c w := fun a b c w => by kernel_rfl
  go_enter Tryz.func4, Tryz.ntmps4
  go_wp2_with (first
    | (go_at_call 5; refine (AR _).mono ?_; rintro e w1 ⟨L, s, rfl, m1, t1, b1, l1⟩; obtain ⟨c1, pa⟩ := Farm.first hG m1 t1 b1 l1)
    | (go_at_call 6; refine (awake09_any _).mono ?_; rintro e w2 ⟨rfl, b2⟩; have c2 := c1.grown b2))
  obtain ⟨E, hE⟩ : ∃ E, w1.heap.size = E := ⟨_, rfl⟩
  rw [hE] at c2 pa ⊢
  have FA : Hid (FarmApart w L E 1 8 6 40 100) := pa
  have HL0 : Hid (∀ k, L.has k → w.heap.size ≤ k) := pa.l0
  have HLE : Hid (¬ L.has E) := pa.e
  have A3 : Hid (Farm w w2 L E 1 8 6 40 100 s 17 (Q.new 8) 0 (fun _ => 1) []) := c2
  clear c1 c2 pa b2 m1 t1 b1 l1 AR hE
  go_loopw [5] (fun iv wr => ∃ (r : Nat) (s' : Mm) (σ : Nat) (q : Q) (nx : Nat) (gen : Nat → Nat) (ls : List Ox), iv = .int .i64 r ∧ r ≤ 12 ∧ σ ≤ 17 + 200 * r ∧ Farm w wr L E 1 8 6 40 100 s' σ q nx gen ls ∧ ∀ y, gen y ≤ 1 + r) (fun iv _ => 12 - (intOf iv).toNat)
  case atStart => exact ⟨0, s, 17, Q.new 8, 0, fun _ => 1, [], rfl, by omega, by omega, A3.out, fun y => Nat.le_refl _⟩
  case round =>
    clear A3
    obtain ⟨r, s', σ, q, nx, gen, ls, rfl, hr12, hσ, c, hgen⟩ := hrel
    by_cases hrN : r < N
    · have hrN' : (r : Int) < (N : Int) := by omega
      by_cases hr12' : r < 12
      · have hr12'' : (r : Int) < 12 := by omega
        obtain ⟨zb, zo, rfl, hk0, hk1, hk2, hk3⟩ := HR.out r hrN
        have hzb : zb < w.heap.size := World.block_lt_of_cell? w _ hk0
        have hzL : Hid (¬ L.has zb) := fun hh => by have := FA.out.l0 _ hh; omega
        obtain ⟨Z, hZ, z1, z2⟩ := size15 (A.size r)
        have HZ : Hid ((1 : Int) + bits .and .i64 (A.size r) 15 = (Z : Int)) := hZ
        obtain ⟨E0, H0, q', nx', ls', hnx, lot, mk⟩ := c.lot_la (own := A.own r) FA.out z1 z2 (by omega)
        have HMK : Hid (∀ w1 : World, Farm w w1 L E 1 8 6 40 100 s' σ q nx gen ls →
          Calls Tryz.prog 7 #[.agg #[.int .i64 1, .int .i64 8, .int .i64 6, .int .i64 40, .int .i64 100, .int .i64 600, .int .i64 3, .pointer (some ⟨L.p, 0, none⟩), .int .i64 0], .int .i64 Z, .bool (A.own r)] w1 fun e w' => ∃ (st : Nat) (s'' : Mm) (σ' : Nat), e = .returned (.agg #[.int .i64 E0, .int .u64 H0, .int .i64 0, .int .i64 st]) ∧ σ' ≤ σ + 100 ∧ Farm w w' L E 1 8 6 40 100 s'' σ' q' nx' gen ls' ∧ Only L.has w1 w' ∧ ∃ a : Nat, s''.la = (a : Int) ∧ a < 1000000) := mk
        have HGEN : Hid (∀ y, gen y ≤ 1 + r) := hgen
        obtain ⟨ck, hck⟩ : ∃ ck, (A.kind r == 0) = ck := ⟨_, rfl⟩
        obtain ⟨bw, hbw⟩ : ∃ bw, (!(A.own r == ck)) = bw := ⟨_, rfl⟩
        have HCK : Hid ((A.kind r == 0) = ck) := hck
        have HBW : Hid ((!(A.own r == ck)) = bw) := hbw
        have HLt : Hid (Lot gen (A.own r) Z q ls E0 H0 q' ls') := lot
        clear mk lot hZ hgen hck hbw
        go_wp2
        refine wp_over (fun W => Farm w W L E 1 8 6 40 100 s' σ q nx gen ls) c ?_
        clear c
        intro W c
        have hLE := HLE.out
        refine wp_region_phase (Only L.has) Grown (phLa w L E s' σ q nx gen ls q' nx' ls') [13] [.val (.agg #[.int .i64 1, .int .i64 8, .int .i64 6, .int .i64 40, .int .i64 100, .int .i64 600, .int .i64 3, .pointer (some ⟨L.p, 0, none⟩), .int .i64 0]), .val (.slice (some ⟨zb, zo, none⟩) N cap), .val (.int .i64 r), .val (.pointer (some ⟨zb, zo + r * 4, none⟩)), .val (.pointer (some ⟨zb, zo + r * 4 + 2, none⟩)), .val (.int .i64 (A.size r)), .val (.int .i64 (bits .and .i64 (A.size r) 15)), .val (.int .i64 Z), .val (.slice (some ⟨zb, zo, none⟩) N cap), .val (.int .i64 r), .val (.pointer (some ⟨zb, zo + r * 4, none⟩)), .val (.pointer (some ⟨zb, zo + r * 4 + 3, none⟩)), .val (.bool (A.own r)), .that (fun _ v => ∃ st : Nat, v = .agg #[.int .i64 E0, .int .u64 H0, .int .i64 0, .int .i64 st]) (fun _ _ _ _ h => h), .val (.int .u64 H0), .val (.int .u64 H0)]
          (by kernel_rfl) (Only.refl _) (fun _ _ _ h k => h.trans k) (fun x y h => Only.ofGrown h) (phLa_grown w L E s' σ q nx gen ls q' nx' ls') c.drew (by kernel_rfl) (by kernel_rfl) (by kernel_rfl) (by kernel_rfl) (by kernel_rfl) ?_
        simp only [phaseAll, Act.put, List.setIfInBounds_toArray, List.set_cons_zero, List.set_cons_succ]
        refine ⟨?_, ?_, ?_, ?_, ?_, ?_, ?_, ?_, ?_, ?_, ?_, ?_, ?_, ?_, fun vD => ⟨?_, ?_, ?_⟩⟩
        · intro w' hR _
          refine Or.inl ⟨rfl, ?_⟩
          have vv := (c.v.grown ((Below.refl _ _).drew)).only hR hLE
          have y0 := vv.c0
          have y1 := vv.c1
          have y2 := vv.c2
          have y3 := vv.c3
          have y4 := vv.c4
          have y5 := vv.c5
          have y6 := vv.c6
          have y7 := vv.c7
          have y8 := vv.c8
          go_simp
          exact ⟨Grown.refl _, rfl⟩
        · intro w' hR _
          refine Or.inl ⟨rfl, ?_⟩
          go_simp
          exact ⟨Grown.refl _, rfl⟩
        · intro w' hR _
          refine Or.inl ⟨rfl, ?_⟩
          go_simp
          exact ⟨Grown.refl _, rfl⟩
        · intro w' hR _
          refine Or.inl ⟨rfl, ?_⟩
          have hb : (0 : Int) ≤ (r : Int) := by omega
          go_simp
          exact ⟨Grown.refl _, rfl⟩
        · intro w' hR _
          refine Or.inl ⟨rfl, ?_⟩
          go_simp
          exact ⟨Grown.refl _, rfl⟩
        · intro w' hR _
          refine Or.inl ⟨rfl, ?_⟩
          have q0 := hR.keep (b := zb) (o := zo + r * 4 + 2) (v := .int .i64 (A.size r)) hzL.out (keep' c.b.drew hk2)
          go_simp
          exact ⟨Grown.refl _, rfl⟩
        · intro w' hR _
          refine Or.inl ⟨rfl, ?_⟩
          go_simp
          exact ⟨Grown.refl _, rfl⟩
        · intro w' hR _
          refine Or.inl ⟨rfl, ?_⟩
          go_simp
          exact ⟨Grown.refl _, congrArg (Value.int .i64) (by rw [HZ.out, IntKind.wrap_i64]; omega)⟩
        · intro w' hR _
          refine Or.inl ⟨rfl, ?_⟩
          go_simp
          exact ⟨Grown.refl _, rfl⟩
        · intro w' hR _
          refine Or.inl ⟨rfl, ?_⟩
          go_simp
          exact ⟨Grown.refl _, rfl⟩
        · intro w' hR _
          refine Or.inl ⟨rfl, ?_⟩
          have hb : (0 : Int) ≤ (r : Int) := by omega
          go_simp
          exact ⟨Grown.refl _, rfl⟩
        · intro w' hR _
          refine Or.inl ⟨rfl, ?_⟩
          go_simp
          exact ⟨Grown.refl _, rfl⟩
        · intro w' hR _
          refine Or.inl ⟨rfl, ?_⟩
          have q0 := hR.keep (b := zb) (o := zo + r * 4 + 3) (v := .bool (A.own r)) hzL.out (keep' c.b.drew hk3)
          go_simp
          exact ⟨Grown.refl _, rfl⟩
        · intro w' hR _ hP
          refine Or.inl ⟨rfl, ?_⟩
          have hP' : Farm w w' L E 1 8 6 40 100 s' σ q nx gen ls := hP
          go_simp
          refine (HMK.out w' hP').mono ?_
          rintro e w'' ⟨st, s', σ', rfl, h1, h2, h3, h4⟩
          exact ⟨_, rfl, ⟨h3, s', σ', h1, h2, h4⟩, st, rfl⟩
        · intro w' hR hf
          refine Or.inl ⟨rfl, ?_⟩
          obtain ⟨st, rfl⟩ := hf.1 (by kernel_rfl)
          go_simp
          exact ⟨Grown.refl _, rfl⟩
        · intro w' hR hf
          refine Or.inl ⟨rfl, ?_⟩
          go_simp
          exact ⟨Grown.refl _, rfl⟩
        intro w8 hR hP hf
        obtain ⟨s6, σ6, hσ6, c8, la6⟩ : ∃ s' σ', σ' ≤ σ + 100 ∧ Farm w w8 L E 1 8 6 40 100 s' σ' q' nx' gen ls' ∧ ∃ a : Nat, s'.la = (a : Int) ∧ a < 1000000 := hP
        clear hR hf c
        have lot := HLt.out
        clear HLt HMK
        have hσ7 : σ6 ≤ 17 + 200 * r + 100 := by omega
        have TW6 : Hid (Town 1 8 6 40 s6 σ6 q') := c8.tw
        have C8 : Hid (MemAt w8 L s6 ∧ BoxV w8 E 1 8 6 40 100 600 3 L.p 0 ∧ Below w.heap.size w w8) := ⟨c8.mm, c8.v, c8.b⟩
        cases lot with
        | no E' hE q'' hF hs hd =>
          have TM6 : Hid (Tame 1 8 6 40 q' nx' gen ls) := c8.tm
          have HLA : Hid (s6.la ≤ 9223372036854775807) := by unfold Hid; obtain ⟨a, h1, h2⟩ := la6; omega
          obtain ⟨vS, hvS⟩ : ∃ vS, q'.sw 0 = vS := ⟨_, rfl⟩
          have wS : Wd vS := by rw [← hvS]; exact c8.tw.swb 0 (by decide)
          obtain ⟨ad9, had9⟩ : ∃ ad9, ad9 = 7 := ⟨_, rfl⟩
          have HAD : Hid (ad9 = 7) := had9
          have HV : Hid (s6.wd ad9 = vS) := by have := c8.tw.swv 0 (by decide); rw [hvS] at this; unfold Hid; rw [had9]; exact this
          have hpk : ad9 < s6.n := by have := c8.tw.len; omega
          clear had9
          obtain ⟨st0, hst0⟩ : ∃ st0, vS % 8 = st0 := ⟨_, rfl⟩
          obtain ⟨Aw, hAt⟩ : ∃ Aw, adOf vS = Aw := ⟨_, rfl⟩
          obtain ⟨g9, hg9⟩ : ∃ g9, genOf vS = g9 := ⟨_, rfl⟩
          obtain ⟨vr0, hvr0⟩ : ∃ vr0, verOf' vS = vr0 := ⟨_, rfl⟩
          have IS := slotIs vS wS
          rw [hst0, hAt, hg9, hvr0] at IS
          clear hst0 hAt hg9 hvr0 hvS c8 la6 hE hF hs hd
          go_wp2_with (go_at_call 14; refine (handle_no 0 _ (by decide) (by decide) (Or.inl (by decide))).mono ?_; rintro e w9 ⟨rfl, b9⟩)
          have x9 := At.new w9 48 [.int .i64 0, .int .i64 0]
          obtain ⟨Hx, hHx⟩ : ∃ Hx, w9.heap.size = Hx := ⟨_, rfl⟩
          rw [hHx] at x9 ⊢
          refine wp_over (fun W => MemAt W L s6 ∧ BoxV W E 1 8 6 40 100 600 3 L.p 0 ∧ Below w.heap.size w W ∧ At W Hx 0 48 _ [.int .i64 0, .int .i64 0]) ⟨(C8.out.1.below b9).alloc _, (C8.out.2.1.grown b9).grown (grow1 _ _), grow_alloc (grow C8.out.2.2 b9) _, x9⟩ ?_
          clear x9 b9 hHx C8
          rintro W ⟨m1, v1, b1, x1⟩
          refine wp_region_rely Grown [.val (.pointer (some ⟨E, 7, none⟩)), .val (.pointer (some ⟨L.p, 0, none⟩)), .val (.pointer (some ⟨E, 0, none⟩)), .val (.agg #[.int .i64 1, .int .i64 8, .int .i64 6, .int .i64 40, .int .i64 100, .int .i64 600, .int .i64 3]), .val (.pointer (some ⟨Hx, 0, none⟩)), .val (.int .i64 0), .val (.int .i64 ((ad9 : Nat) : Int)), .val (.int .u64 vS), .val (.agg #[.int .i64 st0, .int .i64 Aw, .int .i64 g9, .int .i64 vr0]), .val (.int .i64 Aw), .val (.int .i64 Aw)] (by kernel_rfl) Grown.refl Grown.trans (by kernel_rfl) (by kernel_rfl) (by kernel_rfl) ?_
          simp only [relyAll, Act.put, List.setIfInBounds_toArray, List.set_cons_zero, List.set_cons_succ]
          refine ⟨?_, ?_, ?_, ?_, ?_, ?_, ?_, ?_, ?_, ?_, ?_, ?_⟩
          · intro w' hg _
            refine Or.inl ⟨rfl, ?_⟩
            go_simp
            exact ⟨Grown.refl _, rfl⟩
          · intro w' hg _
            refine Or.inl ⟨rfl, ?_⟩
            have vv := (v1.grown ((Below.refl _ _).drew)).grown hg
            have y0 := vv.c0
            have y1 := vv.c1
            have y2 := vv.c2
            have y3 := vv.c3
            have y4 := vv.c4
            have y5 := vv.c5
            have y6 := vv.c6
            have y7 := vv.c7
            have y8 := vv.c8
            go_simp
            exact ⟨Grown.refl _, rfl⟩
          · intro w' hg _
            refine Or.inl ⟨rfl, ?_⟩
            go_simp
            exact ⟨Grown.refl _, rfl⟩
          · intro w' hg _
            refine Or.inl ⟨rfl, ?_⟩
            have vv := (v1.grown ((Below.refl _ _).drew)).grown hg
            have y0 := vv.c0
            have y1 := vv.c1
            have y2 := vv.c2
            have y3 := vv.c3
            have y4 := vv.c4
            have y5 := vv.c5
            have y6 := vv.c6
            have y7 := vv.c7
            have y8 := vv.c8
            go_simp
            exact ⟨Grown.refl _, rfl⟩
          · intro w' hg _
            refine Or.inl ⟨rfl, ?_⟩
            go_simp
            exact ⟨Grown.refl _, rfl⟩
          · intro w' hg _
            refine Or.inl ⟨rfl, ?_⟩
            have z := (x1.drew.grown hg).at0 0 rfl
            go_simp
            exact ⟨Grown.refl _, rfl⟩
          · intro w' hg _
            refine Or.inl ⟨rfl, ?_⟩
            go_simp
            refine (lslot_any _ _ _ _ _ _ _ (0 : Int) _ hG.arena (by omega) (by omega)).mono ?_
            rintro e w'' ⟨rfl, b9⟩
            exact ⟨_, rfl, b9, congrArg (Value.int .i64) (by have := HAD.out; omega)⟩
          · intro w' hg _
            refine Or.inl ⟨rfl, ?_⟩
            go_simp
            refine (peek_is (m1.drew.below hg) (ad9) hpk vS HV.out).mono ?_
            rintro e w'' ⟨rfl, rfl⟩
            exact ⟨_, rfl, Grown.refl _, rfl⟩
          · intro w' hg _
            refine Or.inl ⟨rfl, ?_⟩
            go_simp
            refine (IS.call _).mono ?_
            rintro e w'' ⟨rfl, b9⟩
            exact ⟨_, rfl, b9, rfl⟩
          · intro w' hg _
            refine Or.inl ⟨rfl, ?_⟩
            go_simp
            exact ⟨Grown.refl _, rfl⟩
          · intro w' hg _
            refine Or.inl ⟨rfl, ?_⟩
            go_simp
            exact ⟨Grown.refl _, rfl⟩
          intro w9 hg _
          go_wp2
          refine wp_over (fun W => MemAt W L s6 ∧ BoxV W E 1 8 6 40 100 600 3 L.p 0 ∧ Below w.heap.size w W) ⟨m1.drew.below hg, (v1.grown ((Below.refl _ _).drew)).grown hg, grow b1.drew hg⟩ ?_
          clear m1 v1 b1 x1 hg
          rintro W ⟨m1, v1, b1⟩
          obtain ⟨Sz, hSz⟩ : ∃ Sz, W.heap.size = Sz := ⟨_, rfl⟩
          refine wp_region_rely Grown [.val (.int .u64 0), .val (.slice (some ⟨zb, zo, none⟩) N cap), .val (.int .i64 r), .val (.pointer (some ⟨zb, zo + r * 4, none⟩)), .val (.pointer (some ⟨zb, zo + r * 4 + 3, none⟩)), .val (.bool (A.own r)), .val (.slice (some ⟨zb, zo, none⟩) N cap), .val (.int .i64 r), .val (.pointer (some ⟨zb, zo + r * 4, none⟩)), .val (.pointer (some ⟨zb, zo + r * 4, none⟩)), .val (.int .i64 (A.kind r)), .val (.bool ck), .val (.bool bw), .that (fun w' v => ∃ D, v = .pointer (some ⟨D, 0, none⟩) ∧ Sz ≤ D ∧ ∃ cs, DpAt w' D 0 81 cs (dv0 0 bw)) (fun _ _ _ hg h => h.imp fun D k => ⟨k.1, k.2.1, k.2.2.imp fun cs k => k.grown hg⟩), .that (fun w' v => ∃ D, v = .pointer (some ⟨D, 0, none⟩) ∧ Sz ≤ D ∧ ∃ cs, DpAt w' D 0 81 cs (dv0 0 bw)) (fun _ _ _ hg h => h.imp fun D k => ⟨k.1, k.2.1, k.2.2.imp fun cs k => k.grown hg⟩)] (by kernel_rfl) Grown.refl Grown.trans (by kernel_rfl) (by kernel_rfl) (by kernel_rfl) ?_
          simp only [relyAll, Act.put, List.setIfInBounds_toArray, List.set_cons_zero, List.set_cons_succ]
          refine ⟨?_, ?_, ?_, ?_, ?_, ?_, ?_, ?_, ?_, ?_, ?_, ?_, ?_, ?_, fun vD => ⟨?_, fun vE => ?_⟩⟩
          · intro w' hg _
            refine Or.inl ⟨rfl, ?_⟩
            go_simp
            exact ⟨Grown.refl _, rfl⟩
          · intro w' hg _
            refine Or.inl ⟨rfl, ?_⟩
            go_simp
            exact ⟨Grown.refl _, rfl⟩
          · intro w' hg _
            refine Or.inl ⟨rfl, ?_⟩
            go_simp
            exact ⟨Grown.refl _, rfl⟩
          · intro w' hg _
            refine Or.inl ⟨rfl, ?_⟩
            have hb : (0 : Int) ≤ (r : Int) := by omega
            go_simp
            exact ⟨Grown.refl _, rfl⟩
          · intro w' hg _
            refine Or.inl ⟨rfl, ?_⟩
            go_simp
            exact ⟨Grown.refl _, rfl⟩
          · intro w' hg _
            refine Or.inl ⟨rfl, ?_⟩
            have q0 := keep' hg (keep' b1.drew hk3)
            go_simp
            exact ⟨Grown.refl _, rfl⟩
          · intro w' hg _
            refine Or.inl ⟨rfl, ?_⟩
            go_simp
            exact ⟨Grown.refl _, rfl⟩
          · intro w' hg _
            refine Or.inl ⟨rfl, ?_⟩
            go_simp
            exact ⟨Grown.refl _, rfl⟩
          · intro w' hg _
            refine Or.inl ⟨rfl, ?_⟩
            have hb : (0 : Int) ≤ (r : Int) := by omega
            go_simp
            exact ⟨Grown.refl _, rfl⟩
          · intro w' hg _
            refine Or.inl ⟨rfl, ?_⟩
            go_simp
            exact ⟨Grown.refl _, rfl⟩
          · intro w' hg _
            refine Or.inl ⟨rfl, ?_⟩
            have q0 := keep' hg (keep' b1.drew hk0)
            go_simp
            exact ⟨Grown.refl _, rfl⟩
          · intro w' hg _
            refine Or.inl ⟨rfl, ?_⟩
            go_simp
            exact ⟨Grown.refl _, congrArg Value.bool HCK.out⟩
          · intro w' hg _
            refine Or.inl ⟨rfl, ?_⟩
            go_simp
            exact ⟨Grown.refl _, congrArg Value.bool HBW.out⟩
          · intro w' hg _
            refine Or.inl ⟨rfl, ?_⟩
            have hz : Sz ≤ w'.heap.size := by have := hg.size; have e : W.drew.heap.size = W.heap.size := rfl; omega
            obtain ⟨cs, hd0⟩ := drop0_at 0 bw w'
            go_simp
            refine (newDrop_any 0 bw _).mono ?_
            rintro e w'' ⟨rfl, rfl⟩
            exact ⟨_, rfl, grow1 _ _, _, rfl, hz, cs, hd0⟩
          · intro w' hg hf
            refine Or.inl ⟨rfl, ?_⟩
            have k := hf.1 (by kernel_rfl)
            obtain ⟨D, rfl, h2, h3⟩ := k
            go_simp
            exact ⟨Grown.refl _, D, rfl, h2, h3⟩
          intro w9 hg hf
          obtain ⟨D, rfl, hDS, cs0, d9⟩ := hf.1
          have HLD : Hid (¬ L.has D) := fun hh => by have := m1.lt _ hh; omega
          have HED : Hid (¬ E = D) := by unfold Hid; have : E < W.heap.size := World.block_lt_of_cell? _ _ v1.c0; omega
          have HwD : Hid (w.heap.size ≤ D) := by unfold Hid; have := b1.size; omega
          have m9 := m1.drew.below hg
          have v9 := (v1.grown ((Below.refl _ _).drew)).grown hg
          have b9 : Below w.heap.size w w9 := grow b1.drew hg
          have A9 : Hid (MemAt w9 L s6 ∧ BoxV w9 E 1 8 6 40 100 600 3 L.p 0 ∧ Below w.heap.size w w9 ∧ (∃ cs, DpAt w9 D 0 81 cs (dv0 0 bw))) := ⟨m9, v9, b9, cs0, d9⟩
          clear m9 v9 b9 d9 m1 v1 b1 hg hf hDS hSz
          go_wp2
          go_loopw [11] (fun iv wr => iv = .int .i64 0 ∧ MemAt wr L s6 ∧ BoxV wr E 1 8 6 40 100 600 3 L.p 0 ∧ Below w.heap.size w wr ∧ (∃ cs, DpAt wr D 0 81 cs (dv0 0 bw))) (fun iv _ => 80 - (intOf iv).toNat)
          case atStart => exact ⟨rfl, A9.out⟩
          case round =>
            clear A9
            obtain ⟨rfl, mm, v, b, cs, dp⟩ := hrel
            have hst1 : s6.steps = (σ6 : Int) := TW6.out.pile.st
            have y0 := v.c0
            have y1 := v.c1
            have y2 := v.c2
            have y3 := v.c3
            have y4 := v.c4
            have y5 := v.c5
            have y6 := v.c6
            have y7 := v.c7
            have y8 := v.c8
            have HB : Hid (Below w.heap.size w wr ∧ BoxV wr E 1 8 6 40 100 600 3 L.p 0) := ⟨b, v⟩
            clear b
            go_wp2_with (first
              | (go_at_call 16; refine (now_any mm _ _ _ _ _ _ _ _ σ6 hst1).mono ?_; rintro e w5 ⟨rfl, b5⟩; have m5 := mm.below b5; have d5 := dp.grown b5; have v5 := HB.out.2.grown b5; have b5' := grow HB.out.1 b5; have x0 := v5.c0; have x1 := v5.c1; have x2 := v5.c2; have x3 := v5.c3; have x4 := v5.c4; have x5 := v5.c5; have x6 := v5.c6; have x7 := v5.c7; have x8 := v5.c8)
              | (go_at_call 17; refine (dstep_none m5 HLD.out d5 0 (show (0 : Int) ≤ 0 by decide) (show (0 : Int) ≤ _ by decide) (Or.inl (show (0 : Int) < 65536 by decide)) rfl hst1).mono ?_; rintro e w6 ⟨rfl, s2, cs2, u2, m2, o2, i2, q2, hs6, rfl⟩))
            have v2 := v5.only o2 (fun hh => hh.elim HLE.out HED.out)
            have b2 : Below w.heap.size w w6 := ogrow' b5' o2 (fun k hh => hh.elim (HL0.out k) (fun e => e ▸ HwD.out))
            have hs2 : s6 = s2 := hs6.symm
            obtain ⟨σ1, hσ1⟩ : ∃ σ1, σ6 = σ1 := ⟨_, rfl⟩
            have TW2 : Hid (Town 1 8 6 40 s2 σ1 q') := by rw [← hs2, ← hσ1]; exact TW6.out
            have HST : Hid (s2.steps = ((σ1 : Nat) : Int)) := TW2.out.pile.st
            rw [hσ1]
            obtain ⟨la, hlae⟩ : ∃ la : Int, s2.la = la := ⟨_, rfl⟩
            obtain ⟨lc, hlce⟩ : ∃ lc, s2.lc = lc := ⟨_, rfl⟩
            obtain ⟨lw, hlwe⟩ : ∃ lw, s2.lw = lw := ⟨_, rfl⟩
            have LAST : Hid (∀ w' : World, MemAt w' L s2 → Calls Tryz.prog 19 #[.pointer (some ⟨L.p, 0, none⟩)] w' fun e w'' => e = .returned (.agg #[.int .i64 la, .int .i64 lw, .bool lc]) ∧ Below w'.heap.size w' w'') := fun w' m' => by
              have k := last_any m'
              rwa [hlae, hlwe, hlce] at k
            obtain ⟨KK, KI, KX, hK⟩ := KindIs.some (t := 1) (s := 8) (k := 6) (n := 40) hG.arena (by omega) la
            have hla9 : la ≤ 9223372036854775807 := by rw [← hlae, ← hs2]; exact HLA.out
            have KIND : Hid (∀ w' : World, Calls Tryz.prog 18 #[.agg #[.int .i64 1, .int .i64 8, .int .i64 6, .int .i64 40, .int .i64 100, .int .i64 600, .int .i64 3], .int .i64 la] w' fun e w'' => e = .returned (.tuple #[.int .i64 KK, .int .i64 KI, .int .i64 KX]) ∧ Below w'.heap.size w' w'') := fun w' => rkind_is (m := 240) 100 600 3 w' hG.arena (by omega) (by decide) (by omega) (by omega) hla9 hK
            obtain ⟨DX, hDX⟩ : ∃ DX : World → Prop, DX = (fun _ => True) := ⟨_, rfl⟩
            have HDX : Hid (∀ x y : World, DX x → Grown x y → DX y) := by
              intro x y h g
              rw [hDX]; trivial
            have x2' : DX w6 := by rw [hDX]; trivial
            clear x0 x1 x2 x3 x4 x5 x6 x7 x8 y0 y1 y2 y3 y4 y5 y6 y7 y8 m5 d5 v5 b5' hlae hlce hlwe hK hDX b5 mm v dp HB i2 q2 o2
            have x2 := x2'
            clear x2'
            refine wp_over (fun W => MemAt W L s2 ∧ BoxV W E 1 8 6 40 100 600 3 L.p 0 ∧ Below w.heap.size w W ∧ DX W) ⟨m2, v2, b2, x2⟩ ?_
            clear m2 v2 b2 x2
            rintro W ⟨m1, v1, b1, x1⟩
            refine wp_region_rely Grown [.val (.pointer (some ⟨E, 0, none⟩)), .val (.agg #[.int .i64 1, .int .i64 8, .int .i64 6, .int .i64 40, .int .i64 100, .int .i64 600, .int .i64 3]), .val (.pointer (some ⟨E, 7, none⟩)), .val (.pointer (some ⟨L.p, 0, none⟩)), .val (.agg #[.int .i64 la, .int .i64 lw, .bool lc]), .val (.int .i64 la), .val (.tuple #[.int .i64 KK, .int .i64 KI, .int .i64 KX]), .val (.tuple #[.int .i64 KK, .int .i64 KI, .int .i64 KX]), .val (.int .i64 KK), .val (.int .i64 KI), .val (.int .i64 KX), .val (.int .i64 KK), .val (.int .i64 KI), .val (.int .i64 KX)] (by kernel_rfl) Grown.refl Grown.trans (by kernel_rfl) (by kernel_rfl) (by kernel_rfl) ?_
            simp only [relyAll, Act.put, List.setIfInBounds_toArray, List.set_cons_zero, List.set_cons_succ]
            refine ⟨?_, ?_, ?_, ?_, ?_, ?_, ?_, ?_, ?_, ?_, ?_, ?_, ?_, ?_, ?_⟩
            · intro w' hg _
              refine Or.inl ⟨rfl, ?_⟩
              go_simp
              exact ⟨Grown.refl _, rfl⟩
            · intro w' hg _
              refine Or.inl ⟨rfl, ?_⟩
              have vv := (v1.grown ((Below.refl _ _).drew)).grown hg
              have y0 := vv.c0
              have y1 := vv.c1
              have y2 := vv.c2
              have y3 := vv.c3
              have y4 := vv.c4
              have y5 := vv.c5
              have y6 := vv.c6
              have y7 := vv.c7
              have y8 := vv.c8
              go_simp
              exact ⟨Grown.refl _, rfl⟩
            · intro w' hg _
              refine Or.inl ⟨rfl, ?_⟩
              go_simp
              exact ⟨Grown.refl _, rfl⟩
            · intro w' hg _
              refine Or.inl ⟨rfl, ?_⟩
              have vv := (v1.grown ((Below.refl _ _).drew)).grown hg
              have y0 := vv.c0
              have y1 := vv.c1
              have y2 := vv.c2
              have y3 := vv.c3
              have y4 := vv.c4
              have y5 := vv.c5
              have y6 := vv.c6
              have y7 := vv.c7
              have y8 := vv.c8
              go_simp
              exact ⟨Grown.refl _, rfl⟩
            · intro w' hg _
              refine Or.inl ⟨rfl, ?_⟩
              go_simp
              refine (LAST.out _ (m1.drew.below hg)).mono ?_
              rintro e w'' ⟨rfl, b9⟩
              exact ⟨_, rfl, b9, rfl⟩
            · intro w' hg _
              refine Or.inl ⟨rfl, ?_⟩
              go_simp
              exact ⟨Grown.refl _, rfl⟩
            · intro w' hg _
              refine Or.inl ⟨rfl, ?_⟩
              go_simp
              refine (KIND.out _).mono ?_
              rintro e w'' ⟨rfl, b9⟩
              exact ⟨_, rfl, b9, rfl⟩
            · intro w' hg _
              refine Or.inl ⟨rfl, ?_⟩
              go_simp
              exact ⟨Grown.refl _, rfl⟩
            · intro w' hg _
              refine Or.inl ⟨rfl, ?_⟩
              go_simp
              exact ⟨Grown.refl _, rfl⟩
            · intro w' hg _
              refine Or.inl ⟨rfl, ?_⟩
              go_simp
              exact ⟨Grown.refl _, rfl⟩
            · intro w' hg _
              refine Or.inl ⟨rfl, ?_⟩
              go_simp
              exact ⟨Grown.refl _, rfl⟩
            · intro w' hg _
              refine Or.inl ⟨rfl, ?_⟩
              go_simp
              exact ⟨Grown.refl _, rfl⟩
            · intro w' hg _
              refine Or.inl ⟨rfl, ?_⟩
              go_simp
              exact ⟨Grown.refl _, rfl⟩
            · intro w' hg _
              refine Or.inl ⟨rfl, ?_⟩
              go_simp
              exact ⟨Grown.refl _, rfl⟩
            intro w3 hg _
            go_wp2
            refine wp_over (fun W => MemAt W L s2 ∧ BoxV W E 1 8 6 40 100 600 3 L.p 0 ∧ Below w.heap.size w W ∧ DX W) ⟨m1.drew.below hg, (v1.grown ((Below.refl _ _).drew)).grown hg, grow b1.drew hg, HDX.out _ _ (HDX.out _ _ x1 ((Below.refl _ _).drew)) hg⟩ ?_
            clear m1 v1 b1 x1 hg
            rintro W ⟨m1, v1, b1, x1⟩
            refine wp_region_rely Grown [.val (.agg #[.int .i64 1, .int .i64 8, .int .i64 6, .int .i64 40, .int .i64 100, .int .i64 600, .int .i64 3, .pointer (some ⟨L.p, 0, none⟩), .int .i64 0]), .val (.int .i64 (σ1 : Nat)), .val (.int .i64 (σ1 : Nat)), .val (.int .i64 ((σ1 + 1 : Nat) : Int)), .val (.bool false), .val (.bool false), .val (.agg #[.int .i64 1, .int .i64 8, .int .i64 6, .int .i64 40, .int .i64 100, .int .i64 600, .int .i64 3, .pointer (some ⟨L.p, 0, none⟩), .int .i64 0]), .val (.int .i64 (σ1 : Nat)), .val (.int .i64 (σ1 : Nat)), .val (.bool false), .val (.bool false), .val undef, .val undef, .val (.bool false), .val (.bool false), .val undef, .val undef, .val undef, .val undef, .val (.bool false), .val (.bool false), .val undef, .val undef, .val undef, .val undef, .val undef, .val undef, .val undef, .val undef, .val undef, .val undef, .val undef, .val undef, .val undef, .val undef, .val undef, .val undef, .val undef, .val undef, .val undef, .val undef, .val undef, .val undef, .val (.bool false), .val (.bool false)] (by kernel_rfl) Grown.refl Grown.trans (by kernel_rfl) (by kernel_rfl) (by kernel_rfl) ?_
            simp only [relyAll, Act.put, List.setIfInBounds_toArray, List.set_cons_zero, List.set_cons_succ]
            refine ⟨?_, ?_, ?_, ?_, ?_, ?_, ?_, ?_, ?_, ?_, ?_, ?_, ?_, ?_, ?_, ?_, ?_, ?_, ?_, ?_, ?_, ?_, ?_, ?_, ?_, ?_, ?_, ?_, ?_, ?_, ?_, ?_, ?_, ?_, ?_, ?_, ?_, ?_, ?_, ?_, ?_, ?_, ?_, ?_, ?_, ?_⟩
            · intro w' hg _
              refine Or.inl ⟨rfl, ?_⟩
              have vv := (v1.grown ((Below.refl _ _).drew)).grown hg
              have y0 := vv.c0
              have y1 := vv.c1
              have y2 := vv.c2
              have y3 := vv.c3
              have y4 := vv.c4
              have y5 := vv.c5
              have y6 := vv.c6
              have y7 := vv.c7
              have y8 := vv.c8
              go_simp
              exact ⟨Grown.refl _, rfl⟩
            · intro w' hg _
              refine Or.inl ⟨rfl, ?_⟩
              go_simp
              refine (now_any (m1.drew.below hg) _ _ _ _ _ _ _ _ (σ1) HST.out).mono ?_
              rintro e w'' ⟨rfl, b9⟩
              exact ⟨_, rfl, b9, rfl⟩
            · intro w' hg _
              refine Or.inl ⟨rfl, ?_⟩
              go_simp
              exact ⟨Grown.refl _, rfl⟩
            · intro w' hg _
              refine Or.inl ⟨rfl, ?_⟩
              go_simp
              exact ⟨Grown.refl _, congrArg (Value.int .i64) (by rw [IntKind.wrap_i64]; omega)⟩
            · intro w' hg _
              refine Or.inl ⟨rfl, ?_⟩
              go_simp
              first
                | exact ⟨Grown.refl _, rfl⟩
                | exact ⟨Grown.refl _, congrArg Value.bool (decide_eq_false (by omega))⟩
            · intro w' hg _
              refine Or.inl ⟨rfl, ?_⟩
              go_simp
              exact ⟨Grown.refl _, rfl⟩
            · intro w' hg _
              refine Or.inl ⟨rfl, ?_⟩
              have vv := (v1.grown ((Below.refl _ _).drew)).grown hg
              have y0 := vv.c0
              have y1 := vv.c1
              have y2 := vv.c2
              have y3 := vv.c3
              have y4 := vv.c4
              have y5 := vv.c5
              have y6 := vv.c6
              have y7 := vv.c7
              have y8 := vv.c8
              go_simp
              exact ⟨Grown.refl _, rfl⟩
            · intro w' hg _
              refine Or.inl ⟨rfl, ?_⟩
              go_simp
              refine (now_any (m1.drew.below hg) _ _ _ _ _ _ _ _ (σ1) HST.out).mono ?_
              rintro e w'' ⟨rfl, b9⟩
              exact ⟨_, rfl, b9, rfl⟩
            · intro w' hg _
              refine Or.inl ⟨rfl, ?_⟩
              go_simp
              exact ⟨Grown.refl _, rfl⟩
            · intro w' hg _
              refine Or.inl ⟨rfl, ?_⟩
              go_simp
              first
                | exact ⟨Grown.refl _, rfl⟩
                | exact ⟨Grown.refl _, congrArg Value.bool (decide_eq_false (by omega))⟩
            · intro w' hg _
              refine Or.inl ⟨rfl, ?_⟩
              go_simp
              exact ⟨Grown.refl _, rfl⟩
            · intro w' hg _
              exact Or.inr ⟨rfl, rfl⟩
            · intro w' hg _
              exact Or.inr ⟨rfl, rfl⟩
            · intro w' hg _
              refine Or.inl ⟨rfl, ?_⟩
              go_simp
              exact ⟨Grown.refl _, rfl⟩
            · intro w' hg _
              refine Or.inl ⟨rfl, ?_⟩
              go_simp
              exact ⟨Grown.refl _, rfl⟩
            · intro w' hg _
              exact Or.inr ⟨rfl, rfl⟩
            · intro w' hg _
              exact Or.inr ⟨rfl, rfl⟩
            · intro w' hg _
              exact Or.inr ⟨rfl, rfl⟩
            · intro w' hg _
              exact Or.inr ⟨rfl, rfl⟩
            · intro w' hg _
              refine Or.inl ⟨rfl, ?_⟩
              go_simp
              exact ⟨Grown.refl _, rfl⟩
            · intro w' hg _
              refine Or.inl ⟨rfl, ?_⟩
              go_simp
              exact ⟨Grown.refl _, rfl⟩
            · intro w' hg _
              exact Or.inr ⟨rfl, rfl⟩
            · intro w' hg _
              exact Or.inr ⟨rfl, rfl⟩
            · intro w' hg _
              exact Or.inr ⟨rfl, rfl⟩
            · intro w' hg _
              exact Or.inr ⟨rfl, rfl⟩
            · intro w' hg _
              exact Or.inr ⟨rfl, rfl⟩
            · intro w' hg _
              exact Or.inr ⟨rfl, rfl⟩
            · intro w' hg _
              exact Or.inr ⟨rfl, rfl⟩
            · intro w' hg _
              exact Or.inr ⟨rfl, rfl⟩
            · intro w' hg _
              exact Or.inr ⟨rfl, rfl⟩
            · intro w' hg _
              exact Or.inr ⟨rfl, rfl⟩
            · intro w' hg _
              exact Or.inr ⟨rfl, rfl⟩
            · intro w' hg _
              exact Or.inr ⟨rfl, rfl⟩
            · intro w' hg _
              exact Or.inr ⟨rfl, rfl⟩
            · intro w' hg _
              exact Or.inr ⟨rfl, rfl⟩
            · intro w' hg _
              exact Or.inr ⟨rfl, rfl⟩
            · intro w' hg _
              exact Or.inr ⟨rfl, rfl⟩
            · intro w' hg _
              exact Or.inr ⟨rfl, rfl⟩
            · intro w' hg _
              exact Or.inr ⟨rfl, rfl⟩
            · intro w' hg _
              exact Or.inr ⟨rfl, rfl⟩
            · intro w' hg _
              exact Or.inr ⟨rfl, rfl⟩
            · intro w' hg _
              exact Or.inr ⟨rfl, rfl⟩
            · intro w' hg _
              exact Or.inr ⟨rfl, rfl⟩
            · intro w' hg _
              refine Or.inl ⟨rfl, ?_⟩
              go_simp
              exact ⟨Grown.refl _, rfl⟩
            · intro w' hg _
              refine Or.inl ⟨rfl, ?_⟩
              go_simp
              exact ⟨Grown.refl _, rfl⟩
            intro w4 hg _
            have m4 := m1.drew.below hg
            have v4 := (v1.grown ((Below.refl _ _).drew)).grown hg
            have b4 : Below w.heap.size w w4 := grow b1.drew hg
            have x4 := HDX.out _ _ (HDX.out _ _ x1 ((Below.refl _ _).drew)) hg
            clear m1 v1 b1 x1 hg
            go_wp2
            go_roundw
            case rel => exact ⟨r + 1, s2, σ1, q', nx', gen, ls, by go_num, by omega, by omega, ⟨m4, TW2.out, TM6.out, v4, b4⟩, fun y => by have := HGEN.out y; omega⟩
            case measure => simp [intOf]; omega
        | made o q'' hF hg ho hz =>
          have hin : o ∈ o :: ls := by simp
          have I := c8.tm.is hG (by decide) hin
          have K := c8.tm.ok o hin
          have S0 := Tame.solo (own := bw) (l1 := []) (l2 := ls) (o := o) c8.tm hG (by decide)
          have k1 := K.x1
          have k2 := K.g1
          have k3 := K.g2
          have HH0 := handIs (x := o.x) (G := o.g) (by omega) k2 k3
          have hgl : o.g ≤ 1 + r := by rw [hg]; exact HGEN.out _
          have RT : ∃ NN qE EE gen2 ls2, NN ≤ 40 ∧ DRuns 1 8 6 40 100 bw o.x o.g NN q' .see qE (.over EE) ∧ (∀ y, gen2 y ≤ 1 + (r + 1)) ∧ Tame 1 8 6 40 qE nx' gen2 ls2 := by
            by_cases hb : o.own = bw
            · refine ⟨2 * o.Z + 8, _, 0, upd gen o.x (o.g + 1), ls, by have := K.z2; omega, runs_gone I.obj c8.tm.wb I.sz (I.ow.trans hb) I.gn (by rw [I.st]; decide) (by rw [I.vr]; decide) I.cl (by rw [I.rm]; exact c8.tm.room_le (l1 := []) (l2 := ls)) (c8.tm.li o hin).nf c8.tw.pile.hdle (by omega), fun y => ?_, c8.tm.gone (l1 := []) (l2 := ls) hG (by decide) (by omega)⟩
              by_cases e : y = o.x
              · subst e; rw [upd_same]; omega
              · rw [upd_other _ _ _ _ e]; have := HGEN.out y; omega
            · exact ⟨2, q', 3, gen, o :: ls, by decide, runs_other I.obj I.sz I.gn (by rw [I.ow]; exact hb), fun y => by have := HGEN.out y; omega, c8.tm⟩
          obtain ⟨NN, qE, EE, gen2, ls2, hNN, run, hgen2, tame2⟩ := RT
          have TAME : Hid (∃ (gen2 : Nat → Nat) (ls2 : List Ox), (∀ y, gen2 y ≤ 1 + (r + 1)) ∧ Tame 1 8 6 40 qE nx' gen2 ls2) := ⟨gen2, ls2, hgen2, tame2⟩
          have HV0 := c8.tw.swv o.x k1
          have hlen := c8.tw.len
          have IS0 := slotIs (q'.sw o.x) I.obj.wd
          rw [I.st, I.ad, I.gn, I.vr] at IS0
          rw [hz] at S0
          have hoa : o.a ≤ 1048575 := by rw [← I.ad]; exact adOf_le _
          obtain ⟨x, hxe⟩ : ∃ x, o.x = x := ⟨_, rfl⟩
          obtain ⟨g9, hge⟩ : ∃ g9, o.g = g9 := ⟨_, rfl⟩
          obtain ⟨Aw, hate⟩ : ∃ Aw, o.a = Aw := ⟨_, rfl⟩
          obtain ⟨i9, hie⟩ : ∃ i9, o.i = i9 := ⟨_, rfl⟩
          obtain ⟨ow, howe⟩ : ∃ ow, o.own = ow := ⟨_, rfl⟩
          rw [hxe, hge, hate, hie, howe] at S0
          rw [hxe, hge] at run HH0 ⊢
          rw [hxe, hate, hge] at IS0
          rw [hxe] at HV0 k1
          rw [hate] at hoa
          rw [hge] at hgl
          obtain ⟨vS, hvS⟩ : ∃ vS, q'.sw x = vS := ⟨_, rfl⟩
          obtain ⟨H1, hH1⟩ : ∃ H1, packH (x : Int) (g9 : Int) = H1 := ⟨_, rfl⟩
          rw [hvS] at S0 IS0 HV0
          rw [hH1] at HH0 ⊢
          have HH : Hid (HandIs H1 x g9) := HH0
          have RUN : Hid (DRuns 1 8 6 40 100 bw x g9 NN q' .see qE (.over EE)) := run
          have SOLO : Hid (Solo 1 8 6 40 100 x g9 Aw Z i9 vS ow bw q' .live .see) := S0
          have IS : SlotIs vS 1 Aw g9 0 := IS0
          obtain ⟨ad9, had9⟩ : ∃ ad9, ad9 = 6 + 1 + x * 2 := ⟨_, rfl⟩
          have HAD : Hid (ad9 = 6 + 1 + x * 2) := had9
          have HV : Hid (s6.wd ad9 = vS) := by unfold Hid; rw [had9]; exact HV0
          have hx8 : x < 8 := k1
          have hpk : ad9 < s6.n := by omega
          clear had9
          have HG100 : Hid ((g9 : Int) < 100) := by unfold Hid; omega
          clear hH1 hvS hxe hge hate hie howe HV0 IS0 S0 run HH0 k1 k2 k3 I K hin hF hg ho hz c8 hgen2 tame2 hlen la6
          go_wp2_with (go_at_call 14; refine (HH.out.call _).mono ?_; rintro e w9 ⟨rfl, b9⟩)
          have x9 := At.new w9 48 [.int .i64 x, .int .i64 g9]
          obtain ⟨Hx, hHx⟩ : ∃ Hx, w9.heap.size = Hx := ⟨_, rfl⟩
          rw [hHx] at x9 ⊢
          refine wp_over (fun W => MemAt W L s6 ∧ BoxV W E 1 8 6 40 100 600 3 L.p 0 ∧ Below w.heap.size w W ∧ At W Hx 0 48 _ [.int .i64 x, .int .i64 g9]) ⟨(C8.out.1.below b9).alloc _, (C8.out.2.1.grown b9).grown (grow1 _ _), grow_alloc (grow C8.out.2.2 b9) _, x9⟩ ?_
          clear x9 b9 hHx C8
          rintro W ⟨m1, v1, b1, x1⟩
          refine wp_region_rely Grown [.val (.pointer (some ⟨E, 7, none⟩)), .val (.pointer (some ⟨L.p, 0, none⟩)), .val (.pointer (some ⟨E, 0, none⟩)), .val (.agg #[.int .i64 1, .int .i64 8, .int .i64 6, .int .i64 40, .int .i64 100, .int .i64 600, .int .i64 3]), .val (.pointer (some ⟨Hx, 0, none⟩)), .val (.int .i64 x), .val (.int .i64 ((ad9 : Nat) : Int)), .val (.int .u64 vS), .val (.agg #[.int .i64 1, .int .i64 Aw, .int .i64 g9, .int .i64 0]), .val (.int .i64 Aw), .val (.int .i64 Aw)] (by kernel_rfl) Grown.refl Grown.trans (by kernel_rfl) (by kernel_rfl) (by kernel_rfl) ?_
          simp only [relyAll, Act.put, List.setIfInBounds_toArray, List.set_cons_zero, List.set_cons_succ]
          refine ⟨?_, ?_, ?_, ?_, ?_, ?_, ?_, ?_, ?_, ?_, ?_, ?_⟩
          · intro w' hg _
            refine Or.inl ⟨rfl, ?_⟩
            go_simp
            exact ⟨Grown.refl _, rfl⟩
          · intro w' hg _
            refine Or.inl ⟨rfl, ?_⟩
            have vv := (v1.grown ((Below.refl _ _).drew)).grown hg
            have y0 := vv.c0
            have y1 := vv.c1
            have y2 := vv.c2
            have y3 := vv.c3
            have y4 := vv.c4
            have y5 := vv.c5
            have y6 := vv.c6
            have y7 := vv.c7
            have y8 := vv.c8
            go_simp
            exact ⟨Grown.refl _, rfl⟩
          · intro w' hg _
            refine Or.inl ⟨rfl, ?_⟩
            go_simp
            exact ⟨Grown.refl _, rfl⟩
          · intro w' hg _
            refine Or.inl ⟨rfl, ?_⟩
            have vv := (v1.grown ((Below.refl _ _).drew)).grown hg
            have y0 := vv.c0
            have y1 := vv.c1
            have y2 := vv.c2
            have y3 := vv.c3
            have y4 := vv.c4
            have y5 := vv.c5
            have y6 := vv.c6
            have y7 := vv.c7
            have y8 := vv.c8
            go_simp
            exact ⟨Grown.refl _, rfl⟩
          · intro w' hg _
            refine Or.inl ⟨rfl, ?_⟩
            go_simp
            exact ⟨Grown.refl _, rfl⟩
          · intro w' hg _
            refine Or.inl ⟨rfl, ?_⟩
            have z := (x1.drew.grown hg).at0 0 rfl
            go_simp
            exact ⟨Grown.refl _, rfl⟩
          · intro w' hg _
            refine Or.inl ⟨rfl, ?_⟩
            go_simp
            refine (lslot_any _ _ _ _ _ _ _ (x : Int) _ hG.arena (by omega) (by omega)).mono ?_
            rintro e w'' ⟨rfl, b9⟩
            exact ⟨_, rfl, b9, congrArg (Value.int .i64) (by have := HAD.out; omega)⟩
          · intro w' hg _
            refine Or.inl ⟨rfl, ?_⟩
            go_simp
            refine (peek_is (m1.drew.below hg) (ad9) hpk vS HV.out).mono ?_
            rintro e w'' ⟨rfl, rfl⟩
            exact ⟨_, rfl, Grown.refl _, rfl⟩
          · intro w' hg _
            refine Or.inl ⟨rfl, ?_⟩
            go_simp
            refine (IS.call _).mono ?_
            rintro e w'' ⟨rfl, b9⟩
            exact ⟨_, rfl, b9, rfl⟩
          · intro w' hg _
            refine Or.inl ⟨rfl, ?_⟩
            go_simp
            exact ⟨Grown.refl _, rfl⟩
          · intro w' hg _
            refine Or.inl ⟨rfl, ?_⟩
            go_simp
            exact ⟨Grown.refl _, rfl⟩
          intro w9 hg _
          go_wp2
          refine wp_over (fun W => MemAt W L s6 ∧ BoxV W E 1 8 6 40 100 600 3 L.p 0 ∧ Below w.heap.size w W) ⟨m1.drew.below hg, (v1.grown ((Below.refl _ _).drew)).grown hg, grow b1.drew hg⟩ ?_
          clear m1 v1 b1 x1 hg
          rintro W ⟨m1, v1, b1⟩
          obtain ⟨Sz, hSz⟩ : ∃ Sz, W.heap.size = Sz := ⟨_, rfl⟩
          refine wp_region_rely Grown [.val (.int .u64 H1), .val (.slice (some ⟨zb, zo, none⟩) N cap), .val (.int .i64 r), .val (.pointer (some ⟨zb, zo + r * 4, none⟩)), .val (.pointer (some ⟨zb, zo + r * 4 + 3, none⟩)), .val (.bool (A.own r)), .val (.slice (some ⟨zb, zo, none⟩) N cap), .val (.int .i64 r), .val (.pointer (some ⟨zb, zo + r * 4, none⟩)), .val (.pointer (some ⟨zb, zo + r * 4, none⟩)), .val (.int .i64 (A.kind r)), .val (.bool ck), .val (.bool bw), .that (fun w' v => ∃ D, v = .pointer (some ⟨D, 0, none⟩) ∧ Sz ≤ D ∧ ∃ cs, DpAt w' D 0 81 cs (dv0 H1 bw)) (fun _ _ _ hg h => h.imp fun D k => ⟨k.1, k.2.1, k.2.2.imp fun cs k => k.grown hg⟩), .that (fun w' v => ∃ D, v = .pointer (some ⟨D, 0, none⟩) ∧ Sz ≤ D ∧ ∃ cs, DpAt w' D 0 81 cs (dv0 H1 bw)) (fun _ _ _ hg h => h.imp fun D k => ⟨k.1, k.2.1, k.2.2.imp fun cs k => k.grown hg⟩)] (by kernel_rfl) Grown.refl Grown.trans (by kernel_rfl) (by kernel_rfl) (by kernel_rfl) ?_
          simp only [relyAll, Act.put, List.setIfInBounds_toArray, List.set_cons_zero, List.set_cons_succ]
          refine ⟨?_, ?_, ?_, ?_, ?_, ?_, ?_, ?_, ?_, ?_, ?_, ?_, ?_, ?_, fun vD => ⟨?_, fun vE => ?_⟩⟩
          · intro w' hg _
            refine Or.inl ⟨rfl, ?_⟩
            go_simp
            exact ⟨Grown.refl _, rfl⟩
          · intro w' hg _
            refine Or.inl ⟨rfl, ?_⟩
            go_simp
            exact ⟨Grown.refl _, rfl⟩
          · intro w' hg _
            refine Or.inl ⟨rfl, ?_⟩
            go_simp
            exact ⟨Grown.refl _, rfl⟩
          · intro w' hg _
            refine Or.inl ⟨rfl, ?_⟩
            have hb : (0 : Int) ≤ (r : Int) := by omega
            go_simp
            exact ⟨Grown.refl _, rfl⟩
          · intro w' hg _
            refine Or.inl ⟨rfl, ?_⟩
            go_simp
            exact ⟨Grown.refl _, rfl⟩
          · intro w' hg _
            refine Or.inl ⟨rfl, ?_⟩
            have q0 := keep' hg (keep' b1.drew hk3)
            go_simp
            exact ⟨Grown.refl _, rfl⟩
          · intro w' hg _
            refine Or.inl ⟨rfl, ?_⟩
            go_simp
            exact ⟨Grown.refl _, rfl⟩
          · intro w' hg _
            refine Or.inl ⟨rfl, ?_⟩
            go_simp
            exact ⟨Grown.refl _, rfl⟩
          · intro w' hg _
            refine Or.inl ⟨rfl, ?_⟩
            have hb : (0 : Int) ≤ (r : Int) := by omega
            go_simp
            exact ⟨Grown.refl _, rfl⟩
          · intro w' hg _
            refine Or.inl ⟨rfl, ?_⟩
            go_simp
            exact ⟨Grown.refl _, rfl⟩
          · intro w' hg _
            refine Or.inl ⟨rfl, ?_⟩
            have q0 := keep' hg (keep' b1.drew hk0)
            go_simp
            exact ⟨Grown.refl _, rfl⟩
          · intro w' hg _
            refine Or.inl ⟨rfl, ?_⟩
            go_simp
            exact ⟨Grown.refl _, congrArg Value.bool HCK.out⟩
          · intro w' hg _
            refine Or.inl ⟨rfl, ?_⟩
            go_simp
            exact ⟨Grown.refl _, congrArg Value.bool HBW.out⟩
          · intro w' hg _
            refine Or.inl ⟨rfl, ?_⟩
            have hz : Sz ≤ w'.heap.size := by have := hg.size; have e : W.drew.heap.size = W.heap.size := rfl; omega
            obtain ⟨cs, hd0⟩ := drop0_at H1 bw w'
            go_simp
            refine (newDrop_any H1 bw _).mono ?_
            rintro e w'' ⟨rfl, rfl⟩
            exact ⟨_, rfl, grow1 _ _, _, rfl, hz, cs, hd0⟩
          · intro w' hg hf
            refine Or.inl ⟨rfl, ?_⟩
            have k := hf.1 (by kernel_rfl)
            obtain ⟨D, rfl, h2, h3⟩ := k
            go_simp
            exact ⟨Grown.refl _, D, rfl, h2, h3⟩
          intro w9 hg hf
          obtain ⟨D, rfl, hDS, cs0, d9⟩ := hf.1
          have HLD : Hid (¬ L.has D) := fun hh => by have := m1.lt _ hh; omega
          have HED : Hid (¬ E = D) := by unfold Hid; have : E < W.heap.size := World.block_lt_of_cell? _ _ v1.c0; omega
          have HwD : Hid (w.heap.size ≤ D) := by unfold Hid; have := b1.size; omega
          have m9 := m1.drew.below hg
          have v9 := (v1.grown ((Below.refl _ _).drew)).grown hg
          have b9 : Below w.heap.size w w9 := grow b1.drew hg
          have A9 : Hid (MemAt w9 L s6 ∧ Town 1 8 6 40 s6 σ6 q' ∧ BoxV w9 E 1 8 6 40 100 600 3 L.p 0 ∧ Below w.heap.size w w9 ∧ (∃ cs u, DpAt w9 D 0 81 cs u ∧ DpIs 1 8 6 40 H1 bw x .see u)) := ⟨m9, TW6.out, v9, b9, cs0, _, d9, dp0_is 1 8 6 40 H1 bw x⟩
          clear m9 v9 b9 d9 m1 v1 b1 hg hf hDS hSz
          go_wp2
          go_loopw [11] (fun iv wr => ∃ (kk N1 : Nat) (s1 : Mm) (σ1 : Nat) (q1 : Q) (ph : Ph) (α1 : Dp), iv = .int .i64 kk ∧ kk + N1 = NN ∧ DRuns 1 8 6 40 100 bw x g9 N1 q1 α1 qE (.over EE) ∧ Solo 1 8 6 40 100 x g9 Aw Z i9 vS ow bw q1 ph α1 ∧ σ1 ≤ σ6 + kk ∧ MemAt wr L s1 ∧ Town 1 8 6 40 s1 σ1 q1 ∧ BoxV wr E 1 8 6 40 100 600 3 L.p 0 ∧ Below w.heap.size w wr ∧ (∃ cs u, DpAt wr D 0 81 cs u ∧ DpIs 1 8 6 40 H1 bw x α1 u)) (fun iv _ => 80 - (intOf iv).toNat)
          case atStart => exact ⟨0, NN, s6, σ6, q', .live, .see, rfl, by omega, RUN.out, SOLO.out, by omega, A9.out⟩
          case round =>
            clear A9 RUN SOLO
            obtain ⟨kk, N1, s1, σ1, q1, ph, α1, rfl, hkk, gg, so, hσ1, mm, tw, v, b, cs, u, dp, is⟩ := hrel
            have hN1 := gg.pos
            have hk80 : (kk : Int) < 80 := by omega
            have wd1 := so.sc.wd
            have hst1 : s1.steps = (σ1 : Int) := tw.pile.st
            have y0 := v.c0
            have y1 := v.c1
            have y2 := v.c2
            have y3 := v.c3
            have y4 := v.c4
            have y5 := v.c5
            have y6 := v.c6
            have y7 := v.c7
            have y8 := v.c8
            obtain ⟨α2, q2, ht, gd, ho, nxt⟩ := gg.head
            obtain ⟨ph2, so2⟩ := so.step tw.pile.hdle HG100.out ho ht
            have HAT0 := so.at_ ho
            obtain ⟨d9, hd9⟩ : ∃ d9, α2.over? = d9 := ⟨_, rfl⟩
            have STP := fun (w1 : World) (m1 : MemAt w1 L s1) (cs1 : Array Value) (u1 : DV) (dp1 : DpAt w1 D 0 81 cs1 u1) (is1 : DpIs 1 8 6 40 H1 bw x α1 u1) => drop_step m1 HLD.out tw hG (by omega) wd1 HH.out hx8 α1 dp1 is1 gd ho 0 q2 α2 ht d9 hd9
            have HSO : Hid (Solo 1 8 6 40 100 x g9 Aw Z i9 vS ow bw q2 ph2 α2) := so2
            have HNX : Hid ((α2.over? = true ∧ N1 = 1 ∧ q2 = qE ∧ α2 = .over EE) ∨ (α2.over? = false ∧ ∃ N2, N1 = N2 + 1 ∧ DRuns 1 8 6 40 100 bw x g9 N2 q2 α2 qE (.over EE))) := nxt
            have HB : Hid (Below w.heap.size w wr ∧ BoxV wr E 1 8 6 40 100 600 3 L.p 0) := ⟨b, v⟩
            clear gg so so2 nxt b
            go_wp2_with (first
              | (go_at_call 16; refine (now_any mm _ _ _ _ _ _ _ _ σ1 hst1).mono ?_; rintro e w5 ⟨rfl, b5⟩; have m5 := mm.below b5; have d5 := dp.grown b5; have v5 := HB.out.2.grown b5; have b5' := grow HB.out.1 b5; have x0 := v5.c0; have x1 := v5.c1; have x2 := v5.c2; have x3 := v5.c3; have x4 := v5.c4; have x5 := v5.c5; have x6 := v5.c6; have x7 := v5.c7; have x8 := v5.c8)
              | (go_at_call 17; refine (STP _ m5 _ _ d5 is).mono ?_; rintro e w6 ⟨rfl, s2, cs2, u2, P⟩))
            have m2 := P.mm
            have v2 := v5.only P.only (fun hh => hh.elim HLE.out HED.out)
            have b2 : Below w.heap.size w w6 := ogrow' b5' P.only (fun k hh => hh.elim (HL0.out k) (fun e => e ▸ HwD.out))
            have HST : Hid (s2.steps = ((σ1 + 1 : Nat) : Int)) := P.tw.pile.st
            have HTW : Hid (Town 1 8 6 40 s2 (σ1 + 1) q2) := P.tw
            obtain ⟨a, ha⟩ : ∃ a, α1.at 1 8 x = a := ⟨_, rfl⟩
            obtain ⟨vv9, hs2⟩ := P.st
            have hla : s2.la = (a : Int) := by rw [hs2, ha]; rfl
            have hrd : α1.reads = true → s2.lc = false := fun h => by
              rw [P.rd h]
              show (!decide (s1.wd (α1.at 1 8 x) = s1.wd (α1.at 1 8 x))) = false
              rw [decide_eq_true rfl]; rfl
            rw [ha] at HAT0
            have hal : a < s2.n + 10 ∨ True := Or.inr trivial
            clear hal
            obtain ⟨la, hlae⟩ : ∃ la : Int, s2.la = la := ⟨_, rfl⟩
            obtain ⟨lc, hlce⟩ : ∃ lc, s2.lc = lc := ⟨_, rfl⟩
            obtain ⟨lw, hlwe⟩ : ∃ lw, s2.lw = lw := ⟨_, rfl⟩
            have hlaa : la = (a : Int) := hlae.symm.trans hla
            rw [hlce] at hrd
            have LAST : Hid (∀ w' : World, MemAt w' L s2 → Calls Tryz.prog 19 #[.pointer (some ⟨L.p, 0, none⟩)] w' fun e w'' => e = .returned (.agg #[.int .i64 la, .int .i64 lw, .bool lc]) ∧ Below w'.heap.size w' w'') := fun w' m' => by
              have k := last_any m'
              rwa [hlae, hlwe, hlce] at k
            have hab : a ≤ 2000000 := by
              rcases HAT0 with h | ⟨_, h⟩ | ⟨_, h⟩ <;> omega
            obtain ⟨KK, KI, KX, hK⟩ := KindIs.some (t := 1) (s := 8) (k := 6) (n := 40) hG.arena (by omega) la
            have KIND : Hid (∀ w' : World, Calls Tryz.prog 18 #[.agg #[.int .i64 1, .int .i64 8, .int .i64 6, .int .i64 40, .int .i64 100, .int .i64 600, .int .i64 3], .int .i64 la] w' fun e w'' => e = .returned (.tuple #[.int .i64 KK, .int .i64 KI, .int .i64 KX]) ∧ Below w'.heap.size w' w'') := fun w' => rkind_is (m := 240) 100 600 3 w' hG.arena (by omega) (by decide) (by omega) (by omega) (by omega) hK
            have HKI : Hid (KindIs 1 8 6 40 a KK KI KX) := by unfold Hid; rw [← hlaa]; exact hK
            have HAT : Hid (a < 6 + 1 + 8 * 2 + 6 * 3 ∨ (α1.reads = true ∧ a = Aw) ∨ (Aw < a ∧ a ≤ Aw + Z)) := HAT0
            have HRD : Hid (α1.reads = true → lc = false) := hrd
            obtain ⟨DX, hDX⟩ : ∃ DX : World → Prop, DX = (fun W => ∃ cs u, DpAt W D 0 81 cs u ∧ DpIs 1 8 6 40 H1 bw x α2 u) := ⟨_, rfl⟩
            have HDX : Hid (∀ x y : World, DX x → Grown x y → DX y) := by
              intro x y h g
              rw [hDX] at h ⊢
              obtain ⟨cs, u, h1, h2⟩ := h
              exact ⟨cs, u, h1.grown g, h2⟩
            have x2' : DX w6 := by rw [hDX]; exact ⟨cs2, u2, P.dp, P.is⟩
            have EDX : Hid (DX = (fun W => ∃ cs u, DpAt W D 0 81 cs u ∧ DpIs 1 8 6 40 H1 bw x α2 u)) := hDX
            have HLAA : Hid (la = (a : Int)) := hlaa
            clear hlaa hab
            clear x0 x1 x2 x3 x4 x5 x6 x7 x8 y0 y1 y2 y3 y4 y5 y6 y7 y8 STP P m5 d5 v5 b5' hs2 hla hrd hlae hlce hlwe HAT0 hK hDX b5 mm tw v dp is HB wd1 gd ho ht
            have x2 := x2'
            clear x2'
            cases d9 with
            | false =>
              by_cases hK9 : KK = 9
              · have hdata : (6 + 1 + 8 * 2 + 6 * 3 : Nat) ≤ a := by
                  have := HKI.out.data hK9
                  omega
                cases hlc : lc with
                | false =>
                  have HK9 : Hid ((KK == 9) = true) := by unfold Hid; simp [hK9]
                  have HLC : Hid (lc = false) := hlc
                  clear hK9 hlc
                  refine wp_over (fun W => MemAt W L s2 ∧ BoxV W E 1 8 6 40 100 600 3 L.p 0 ∧ Below w.heap.size w W ∧ DX W) ⟨m2, v2, b2, x2⟩ ?_
                  clear m2 v2 b2 x2
                  rintro W ⟨m1, v1, b1, x1⟩
                  refine wp_region_rely Grown [.val (.pointer (some ⟨E, 0, none⟩)), .val (.agg #[.int .i64 1, .int .i64 8, .int .i64 6, .int .i64 40, .int .i64 100, .int .i64 600, .int .i64 3]), .val (.pointer (some ⟨E, 7, none⟩)), .val (.pointer (some ⟨L.p, 0, none⟩)), .val (.agg #[.int .i64 la, .int .i64 lw, .bool lc]), .val (.int .i64 la), .val (.tuple #[.int .i64 KK, .int .i64 KI, .int .i64 KX]), .val (.tuple #[.int .i64 KK, .int .i64 KI, .int .i64 KX]), .val (.int .i64 KK), .val (.int .i64 KI), .val (.int .i64 KX), .val (.int .i64 KK), .val (.int .i64 KI), .val (.int .i64 KX)] (by kernel_rfl) Grown.refl Grown.trans (by kernel_rfl) (by kernel_rfl) (by kernel_rfl) ?_
                  simp only [relyAll, Act.put, List.setIfInBounds_toArray, List.set_cons_zero, List.set_cons_succ]
                  refine ⟨?_, ?_, ?_, ?_, ?_, ?_, ?_, ?_, ?_, ?_, ?_, ?_, ?_, ?_, ?_⟩
                  · intro w' hg _
                    refine Or.inl ⟨rfl, ?_⟩
                    go_simp
                    exact ⟨Grown.refl _, rfl⟩
                  · intro w' hg _
                    refine Or.inl ⟨rfl, ?_⟩
                    have vv := (v1.grown ((Below.refl _ _).drew)).grown hg
                    have y0 := vv.c0
                    have y1 := vv.c1
                    have y2 := vv.c2
                    have y3 := vv.c3
                    have y4 := vv.c4
                    have y5 := vv.c5
                    have y6 := vv.c6
                    have y7 := vv.c7
                    have y8 := vv.c8
                    go_simp
                    exact ⟨Grown.refl _, rfl⟩
                  · intro w' hg _
                    refine Or.inl ⟨rfl, ?_⟩
                    go_simp
                    exact ⟨Grown.refl _, rfl⟩
                  · intro w' hg _
                    refine Or.inl ⟨rfl, ?_⟩
                    have vv := (v1.grown ((Below.refl _ _).drew)).grown hg
                    have y0 := vv.c0
                    have y1 := vv.c1
                    have y2 := vv.c2
                    have y3 := vv.c3
                    have y4 := vv.c4
                    have y5 := vv.c5
                    have y6 := vv.c6
                    have y7 := vv.c7
                    have y8 := vv.c8
                    go_simp
                    exact ⟨Grown.refl _, rfl⟩
                  · intro w' hg _
                    refine Or.inl ⟨rfl, ?_⟩
                    go_simp
                    refine (LAST.out _ (m1.drew.below hg)).mono ?_
                    rintro e w'' ⟨rfl, b9⟩
                    exact ⟨_, rfl, b9, rfl⟩
                  · intro w' hg _
                    refine Or.inl ⟨rfl, ?_⟩
                    go_simp
                    exact ⟨Grown.refl _, rfl⟩
                  · intro w' hg _
                    refine Or.inl ⟨rfl, ?_⟩
                    go_simp
                    refine (KIND.out _).mono ?_
                    rintro e w'' ⟨rfl, b9⟩
                    exact ⟨_, rfl, b9, rfl⟩
                  · intro w' hg _
                    refine Or.inl ⟨rfl, ?_⟩
                    go_simp
                    exact ⟨Grown.refl _, rfl⟩
                  · intro w' hg _
                    refine Or.inl ⟨rfl, ?_⟩
                    go_simp
                    exact ⟨Grown.refl _, rfl⟩
                  · intro w' hg _
                    refine Or.inl ⟨rfl, ?_⟩
                    go_simp
                    exact ⟨Grown.refl _, rfl⟩
                  · intro w' hg _
                    refine Or.inl ⟨rfl, ?_⟩
                    go_simp
                    exact ⟨Grown.refl _, rfl⟩
                  · intro w' hg _
                    refine Or.inl ⟨rfl, ?_⟩
                    go_simp
                    exact ⟨Grown.refl _, rfl⟩
                  · intro w' hg _
                    refine Or.inl ⟨rfl, ?_⟩
                    go_simp
                    exact ⟨Grown.refl _, rfl⟩
                  · intro w' hg _
                    refine Or.inl ⟨rfl, ?_⟩
                    go_simp
                    exact ⟨Grown.refl _, rfl⟩
                  intro w3 hg _
                  go_wp2
                  refine wp_over (fun W => MemAt W L s2 ∧ BoxV W E 1 8 6 40 100 600 3 L.p 0 ∧ Below w.heap.size w W ∧ DX W) ⟨m1.drew.below hg, (v1.grown ((Below.refl _ _).drew)).grown hg, grow b1.drew hg, HDX.out _ _ (HDX.out _ _ x1 ((Below.refl _ _).drew)) hg⟩ ?_
                  clear m1 v1 b1 x1 hg
                  rintro W ⟨m1, v1, b1, x1⟩
                  refine wp_region_rely Grown [.val (.agg #[.int .i64 1, .int .i64 8, .int .i64 6, .int .i64 40, .int .i64 100, .int .i64 600, .int .i64 3, .pointer (some ⟨L.p, 0, none⟩), .int .i64 0]), .val (.int .i64 (σ1 + 1 : Nat)), .val (.int .i64 (σ1 : Nat)), .val (.int .i64 ((σ1 + 1 : Nat) : Int)), .val (.bool false), .val (.bool false), .val (.agg #[.int .i64 1, .int .i64 8, .int .i64 6, .int .i64 40, .int .i64 100, .int .i64 600, .int .i64 3, .pointer (some ⟨L.p, 0, none⟩), .int .i64 0]), .val (.int .i64 (σ1 + 1 : Nat)), .val (.int .i64 (σ1 : Nat)), .val (.bool true), .val (.bool true), .val (.int .i64 KK), .val (.bool true), .val (.bool true), .val (.bool true), .val (.pointer (some ⟨E, 7, none⟩)), .val (.pointer (some ⟨L.p, 0, none⟩)), .val (.agg #[.int .i64 la, .int .i64 lw, .bool lc]), .val (.bool lc), .val (.bool false), .val (.bool false), .val undef, .val undef, .val undef, .val undef, .val undef, .val undef, .val undef, .val undef, .val undef, .val undef, .val undef, .val undef, .val undef, .val undef, .val undef, .val undef, .val undef, .val undef, .val undef, .val undef, .val undef, .val undef, .val (.bool false), .val (.bool false)] (by kernel_rfl) Grown.refl Grown.trans (by kernel_rfl) (by kernel_rfl) (by kernel_rfl) ?_
                  simp only [relyAll, Act.put, List.setIfInBounds_toArray, List.set_cons_zero, List.set_cons_succ]
                  refine ⟨?_, ?_, ?_, ?_, ?_, ?_, ?_, ?_, ?_, ?_, ?_, ?_, ?_, ?_, ?_, ?_, ?_, ?_, ?_, ?_, ?_, ?_, ?_, ?_, ?_, ?_, ?_, ?_, ?_, ?_, ?_, ?_, ?_, ?_, ?_, ?_, ?_, ?_, ?_, ?_, ?_, ?_, ?_, ?_, ?_, ?_⟩
                  · intro w' hg _
                    refine Or.inl ⟨rfl, ?_⟩
                    have vv := (v1.grown ((Below.refl _ _).drew)).grown hg
                    have y0 := vv.c0
                    have y1 := vv.c1
                    have y2 := vv.c2
                    have y3 := vv.c3
                    have y4 := vv.c4
                    have y5 := vv.c5
                    have y6 := vv.c6
                    have y7 := vv.c7
                    have y8 := vv.c8
                    go_simp
                    exact ⟨Grown.refl _, rfl⟩
                  · intro w' hg _
                    refine Or.inl ⟨rfl, ?_⟩
                    go_simp
                    refine (now_any (m1.drew.below hg) _ _ _ _ _ _ _ _ (σ1 + 1) HST.out).mono ?_
                    rintro e w'' ⟨rfl, b9⟩
                    exact ⟨_, rfl, b9, rfl⟩
                  · intro w' hg _
                    refine Or.inl ⟨rfl, ?_⟩
                    go_simp
                    exact ⟨Grown.refl _, rfl⟩
                  · intro w' hg _
                    refine Or.inl ⟨rfl, ?_⟩
                    go_simp
                    exact ⟨Grown.refl _, congrArg (Value.int .i64) (by rw [IntKind.wrap_i64]; omega)⟩
                  · intro w' hg _
                    refine Or.inl ⟨rfl, ?_⟩
                    go_simp
                    first
                      | exact ⟨Grown.refl _, rfl⟩
                      | exact ⟨Grown.refl _, congrArg Value.bool (decide_eq_false (by omega))⟩
                  · intro w' hg _
                    refine Or.inl ⟨rfl, ?_⟩
                    go_simp
                    exact ⟨Grown.refl _, rfl⟩
                  · intro w' hg _
                    refine Or.inl ⟨rfl, ?_⟩
                    have vv := (v1.grown ((Below.refl _ _).drew)).grown hg
                    have y0 := vv.c0
                    have y1 := vv.c1
                    have y2 := vv.c2
                    have y3 := vv.c3
                    have y4 := vv.c4
                    have y5 := vv.c5
                    have y6 := vv.c6
                    have y7 := vv.c7
                    have y8 := vv.c8
                    go_simp
                    exact ⟨Grown.refl _, rfl⟩
                  · intro w' hg _
                    refine Or.inl ⟨rfl, ?_⟩
                    go_simp
                    refine (now_any (m1.drew.below hg) _ _ _ _ _ _ _ _ (σ1 + 1) HST.out).mono ?_
                    rintro e w'' ⟨rfl, b9⟩
                    exact ⟨_, rfl, b9, rfl⟩
                  · intro w' hg _
                    refine Or.inl ⟨rfl, ?_⟩
                    go_simp
                    exact ⟨Grown.refl _, rfl⟩
                  · intro w' hg _
                    refine Or.inl ⟨rfl, ?_⟩
                    go_simp
                    first
                      | exact ⟨Grown.refl _, rfl⟩
                      | exact ⟨Grown.refl _, congrArg Value.bool (decide_eq_true (by omega))⟩
                  · intro w' hg _
                    refine Or.inl ⟨rfl, ?_⟩
                    go_simp
                    exact ⟨Grown.refl _, rfl⟩
                  · intro w' hg _
                    refine Or.inl ⟨rfl, ?_⟩
                    go_simp
                    exact ⟨Grown.refl _, rfl⟩
                  · intro w' hg _
                    refine Or.inl ⟨rfl, ?_⟩
                    go_simp
                    exact ⟨Grown.refl _, congrArg Value.bool HK9.out⟩
                  · intro w' hg _
                    refine Or.inl ⟨rfl, ?_⟩
                    go_simp
                    exact ⟨Grown.refl _, rfl⟩
                  · intro w' hg _
                    refine Or.inl ⟨rfl, ?_⟩
                    go_simp
                    exact ⟨Grown.refl _, rfl⟩
                  · intro w' hg _
                    refine Or.inl ⟨rfl, ?_⟩
                    go_simp
                    exact ⟨Grown.refl _, rfl⟩
                  · intro w' hg _
                    refine Or.inl ⟨rfl, ?_⟩
                    have vv := (v1.grown ((Below.refl _ _).drew)).grown hg
                    have y0 := vv.c0
                    have y1 := vv.c1
                    have y2 := vv.c2
                    have y3 := vv.c3
                    have y4 := vv.c4
                    have y5 := vv.c5
                    have y6 := vv.c6
                    have y7 := vv.c7
                    have y8 := vv.c8
                    go_simp
                    exact ⟨Grown.refl _, rfl⟩
                  · intro w' hg _
                    refine Or.inl ⟨rfl, ?_⟩
                    go_simp
                    refine (LAST.out _ (m1.drew.below hg)).mono ?_
                    rintro e w'' ⟨rfl, b9⟩
                    exact ⟨_, rfl, b9, rfl⟩
                  · intro w' hg _
                    refine Or.inl ⟨rfl, ?_⟩
                    go_simp
                    exact ⟨Grown.refl _, rfl⟩
                  · intro w' hg _
                    refine Or.inl ⟨rfl, ?_⟩
                    go_simp
                    exact ⟨Grown.refl _, congrArg Value.bool HLC.out⟩
                  · intro w' hg _
                    refine Or.inl ⟨rfl, ?_⟩
                    go_simp
                    exact ⟨Grown.refl _, rfl⟩
                  · intro w' hg _
                    exact Or.inr ⟨rfl, rfl⟩
                  · intro w' hg _
                    exact Or.inr ⟨rfl, rfl⟩
                  · intro w' hg _
                    exact Or.inr ⟨rfl, rfl⟩
                  · intro w' hg _
                    exact Or.inr ⟨rfl, rfl⟩
                  · intro w' hg _
                    exact Or.inr ⟨rfl, rfl⟩
                  · intro w' hg _
                    exact Or.inr ⟨rfl, rfl⟩
                  · intro w' hg _
                    exact Or.inr ⟨rfl, rfl⟩
                  · intro w' hg _
                    exact Or.inr ⟨rfl, rfl⟩
                  · intro w' hg _
                    exact Or.inr ⟨rfl, rfl⟩
                  · intro w' hg _
                    exact Or.inr ⟨rfl, rfl⟩
                  · intro w' hg _
                    exact Or.inr ⟨rfl, rfl⟩
                  · intro w' hg _
                    exact Or.inr ⟨rfl, rfl⟩
                  · intro w' hg _
                    exact Or.inr ⟨rfl, rfl⟩
                  · intro w' hg _
                    exact Or.inr ⟨rfl, rfl⟩
                  · intro w' hg _
                    exact Or.inr ⟨rfl, rfl⟩
                  · intro w' hg _
                    exact Or.inr ⟨rfl, rfl⟩
                  · intro w' hg _
                    exact Or.inr ⟨rfl, rfl⟩
                  · intro w' hg _
                    exact Or.inr ⟨rfl, rfl⟩
                  · intro w' hg _
                    exact Or.inr ⟨rfl, rfl⟩
                  · intro w' hg _
                    exact Or.inr ⟨rfl, rfl⟩
                  · intro w' hg _
                    exact Or.inr ⟨rfl, rfl⟩
                  · intro w' hg _
                    exact Or.inr ⟨rfl, rfl⟩
                  · intro w' hg _
                    refine Or.inl ⟨rfl, ?_⟩
                    go_simp
                    exact ⟨Grown.refl _, rfl⟩
                  · intro w' hg _
                    refine Or.inl ⟨rfl, ?_⟩
                    go_simp
                    exact ⟨Grown.refl _, rfl⟩
                  intro w4 hg _
                  have m4 := m1.drew.below hg
                  have v4 := (v1.grown ((Below.refl _ _).drew)).grown hg
                  have b4 : Below w.heap.size w w4 := grow b1.drew hg
                  have x4 := HDX.out _ _ (HDX.out _ _ x1 ((Below.refl _ _).drew)) hg
                  clear m1 v1 b1 x1 hg
                  go_wp2
                  go_roundw
                  case rel =>
                    rcases HNX.out with ⟨h, _⟩ | ⟨_, N2, h2, h3⟩
                    · rw [hd9] at h; cases h
                    · have k := x4
                      rw [EDX.out] at k
                      exact ⟨kk + 1, N2, s2, σ1 + 1, q2, ph2, α2, by go_num, by omega, h3, HSO.out, by omega, m4, HTW.out, v4, b4, k⟩
                  case measure => simp [intOf]; omega
                | true =>
                  have hat : (Aw : Int) < la ∧ la ≤ Aw + Z := by
                    have hlaa := HLAA.out
                    rcases HAT.out with h | ⟨h1, h2⟩ | ⟨h1, h2⟩
                    · omega
                    · have := HRD.out h1
                      rw [hlc] at this; cases this
                    · omega
                  have HK9 : Hid ((KK == 9) = true) := by unfold Hid; simp [hK9]
                  have HLC : Hid (lc = true) := hlc
                  clear hK9 hlc
                  refine wp_over (fun W => MemAt W L s2 ∧ BoxV W E 1 8 6 40 100 600 3 L.p 0 ∧ Below w.heap.size w W ∧ DX W) ⟨m2, v2, b2, x2⟩ ?_
                  clear m2 v2 b2 x2
                  rintro W ⟨m1, v1, b1, x1⟩
                  refine wp_region_rely Grown [.val (.pointer (some ⟨E, 0, none⟩)), .val (.agg #[.int .i64 1, .int .i64 8, .int .i64 6, .int .i64 40, .int .i64 100, .int .i64 600, .int .i64 3]), .val (.pointer (some ⟨E, 7, none⟩)), .val (.pointer (some ⟨L.p, 0, none⟩)), .val (.agg #[.int .i64 la, .int .i64 lw, .bool lc]), .val (.int .i64 la), .val (.tuple #[.int .i64 KK, .int .i64 KI, .int .i64 KX]), .val (.tuple #[.int .i64 KK, .int .i64 KI, .int .i64 KX]), .val (.int .i64 KK), .val (.int .i64 KI), .val (.int .i64 KX), .val (.int .i64 KK), .val (.int .i64 KI), .val (.int .i64 KX)] (by kernel_rfl) Grown.refl Grown.trans (by kernel_rfl) (by kernel_rfl) (by kernel_rfl) ?_
                  simp only [relyAll, Act.put, List.setIfInBounds_toArray, List.set_cons_zero, List.set_cons_succ]
                  refine ⟨?_, ?_, ?_, ?_, ?_, ?_, ?_, ?_, ?_, ?_, ?_, ?_, ?_, ?_, ?_⟩
                  · intro w' hg _
                    refine Or.inl ⟨rfl, ?_⟩
                    go_simp
                    exact ⟨Grown.refl _, rfl⟩
                  · intro w' hg _
                    refine Or.inl ⟨rfl, ?_⟩
                    have vv := (v1.grown ((Below.refl _ _).drew)).grown hg
                    have y0 := vv.c0
                    have y1 := vv.c1
                    have y2 := vv.c2
                    have y3 := vv.c3
                    have y4 := vv.c4
                    have y5 := vv.c5
                    have y6 := vv.c6
                    have y7 := vv.c7
                    have y8 := vv.c8
                    go_simp
                    exact ⟨Grown.refl _, rfl⟩
                  · intro w' hg _
                    refine Or.inl ⟨rfl, ?_⟩
                    go_simp
                    exact ⟨Grown.refl _, rfl⟩
                  · intro w' hg _
                    refine Or.inl ⟨rfl, ?_⟩
                    have vv := (v1.grown ((Below.refl _ _).drew)).grown hg
                    have y0 := vv.c0
                    have y1 := vv.c1
                    have y2 := vv.c2
                    have y3 := vv.c3
                    have y4 := vv.c4
                    have y5 := vv.c5
                    have y6 := vv.c6
                    have y7 := vv.c7
                    have y8 := vv.c8
                    go_simp
                    exact ⟨Grown.refl _, rfl⟩
                  · intro w' hg _
                    refine Or.inl ⟨rfl, ?_⟩
                    go_simp
                    refine (LAST.out _ (m1.drew.below hg)).mono ?_
                    rintro e w'' ⟨rfl, b9⟩
                    exact ⟨_, rfl, b9, rfl⟩
                  · intro w' hg _
                    refine Or.inl ⟨rfl, ?_⟩
                    go_simp
                    exact ⟨Grown.refl _, rfl⟩
                  · intro w' hg _
                    refine Or.inl ⟨rfl, ?_⟩
                    go_simp
                    refine (KIND.out _).mono ?_
                    rintro e w'' ⟨rfl, b9⟩
                    exact ⟨_, rfl, b9, rfl⟩
                  · intro w' hg _
                    refine Or.inl ⟨rfl, ?_⟩
                    go_simp
                    exact ⟨Grown.refl _, rfl⟩
                  · intro w' hg _
                    refine Or.inl ⟨rfl, ?_⟩
                    go_simp
                    exact ⟨Grown.refl _, rfl⟩
                  · intro w' hg _
                    refine Or.inl ⟨rfl, ?_⟩
                    go_simp
                    exact ⟨Grown.refl _, rfl⟩
                  · intro w' hg _
                    refine Or.inl ⟨rfl, ?_⟩
                    go_simp
                    exact ⟨Grown.refl _, rfl⟩
                  · intro w' hg _
                    refine Or.inl ⟨rfl, ?_⟩
                    go_simp
                    exact ⟨Grown.refl _, rfl⟩
                  · intro w' hg _
                    refine Or.inl ⟨rfl, ?_⟩
                    go_simp
                    exact ⟨Grown.refl _, rfl⟩
                  · intro w' hg _
                    refine Or.inl ⟨rfl, ?_⟩
                    go_simp
                    exact ⟨Grown.refl _, rfl⟩
                  intro w3 hg _
                  go_wp2
                  refine wp_over (fun W => MemAt W L s2 ∧ BoxV W E 1 8 6 40 100 600 3 L.p 0 ∧ Below w.heap.size w W ∧ DX W) ⟨m1.drew.below hg, (v1.grown ((Below.refl _ _).drew)).grown hg, grow b1.drew hg, HDX.out _ _ (HDX.out _ _ x1 ((Below.refl _ _).drew)) hg⟩ ?_
                  clear m1 v1 b1 x1 hg
                  rintro W ⟨m1, v1, b1, x1⟩
                  refine wp_region_rely Grown [.val (.agg #[.int .i64 1, .int .i64 8, .int .i64 6, .int .i64 40, .int .i64 100, .int .i64 600, .int .i64 3, .pointer (some ⟨L.p, 0, none⟩), .int .i64 0]), .val (.int .i64 (σ1 + 1 : Nat)), .val (.int .i64 (σ1 : Nat)), .val (.int .i64 ((σ1 + 1 : Nat) : Int)), .val (.bool false), .val (.bool false), .val (.agg #[.int .i64 1, .int .i64 8, .int .i64 6, .int .i64 40, .int .i64 100, .int .i64 600, .int .i64 3, .pointer (some ⟨L.p, 0, none⟩), .int .i64 0]), .val (.int .i64 (σ1 + 1 : Nat)), .val (.int .i64 (σ1 : Nat)), .val (.bool true), .val (.bool true), .val (.int .i64 KK), .val (.bool true), .val (.bool true), .val (.bool true), .val (.pointer (some ⟨E, 7, none⟩)), .val (.pointer (some ⟨L.p, 0, none⟩)), .val (.agg #[.int .i64 la, .int .i64 lw, .bool lc]), .val (.bool lc), .val (.bool true), .val (.bool true), .val (.pointer (some ⟨E, 7, none⟩)), .val (.pointer (some ⟨L.p, 0, none⟩)), .val (.agg #[.int .i64 la, .int .i64 lw, .bool lc]), .val (.int .i64 la), .val (.int .i64 Aw), .val (.bool false), .val (.bool false), .val (.pointer (some ⟨E, 7, none⟩)), .val (.pointer (some ⟨L.p, 0, none⟩)), .val (.agg #[.int .i64 la, .int .i64 lw, .bool lc]), .val (.int .i64 la), .val (.int .i64 Aw), .val (.int .i64 (Aw + 1)), .val (.slice (some ⟨zb, zo, none⟩) N cap), .val (.int .i64 r), .val (.pointer (some ⟨zb, zo + r * 4, none⟩)), .val (.pointer (some ⟨zb, zo + r * 4 + 2, none⟩)), .val (.int .i64 (A.size r)), .val (.int .i64 (bits .and .i64 (A.size r) 15)), .val (.int .i64 (Aw + Z)), .val (.bool false), .val (.bool false), .val (.bool false), .val (.bool false)] (by kernel_rfl) Grown.refl Grown.trans (by kernel_rfl) (by kernel_rfl) (by kernel_rfl) ?_
                  simp only [relyAll, Act.put, List.setIfInBounds_toArray, List.set_cons_zero, List.set_cons_succ]
                  refine ⟨?_, ?_, ?_, ?_, ?_, ?_, ?_, ?_, ?_, ?_, ?_, ?_, ?_, ?_, ?_, ?_, ?_, ?_, ?_, ?_, ?_, ?_, ?_, ?_, ?_, ?_, ?_, ?_, ?_, ?_, ?_, ?_, ?_, ?_, ?_, ?_, ?_, ?_, ?_, ?_, ?_, ?_, ?_, ?_, ?_, ?_⟩
                  · intro w' hg _
                    refine Or.inl ⟨rfl, ?_⟩
                    have vv := (v1.grown ((Below.refl _ _).drew)).grown hg
                    have y0 := vv.c0
                    have y1 := vv.c1
                    have y2 := vv.c2
                    have y3 := vv.c3
                    have y4 := vv.c4
                    have y5 := vv.c5
                    have y6 := vv.c6
                    have y7 := vv.c7
                    have y8 := vv.c8
                    go_simp
                    exact ⟨Grown.refl _, rfl⟩
                  · intro w' hg _
                    refine Or.inl ⟨rfl, ?_⟩
                    go_simp
                    refine (now_any (m1.drew.below hg) _ _ _ _ _ _ _ _ (σ1 + 1) HST.out).mono ?_
                    rintro e w'' ⟨rfl, b9⟩
                    exact ⟨_, rfl, b9, rfl⟩
                  · intro w' hg _
                    refine Or.inl ⟨rfl, ?_⟩
                    go_simp
                    exact ⟨Grown.refl _, rfl⟩
                  · intro w' hg _
                    refine Or.inl ⟨rfl, ?_⟩
                    go_simp
                    exact ⟨Grown.refl _, congrArg (Value.int .i64) (by rw [IntKind.wrap_i64]; omega)⟩
                  · intro w' hg _
                    refine Or.inl ⟨rfl, ?_⟩
                    go_simp
                    first
                      | exact ⟨Grown.refl _, rfl⟩
                      | exact ⟨Grown.refl _, congrArg Value.bool (decide_eq_false (by omega))⟩
                  · intro w' hg _
                    refine Or.inl ⟨rfl, ?_⟩
                    go_simp
                    exact ⟨Grown.refl _, rfl⟩
                  · intro w' hg _
                    refine Or.inl ⟨rfl, ?_⟩
                    have vv := (v1.grown ((Below.refl _ _).drew)).grown hg
                    have y0 := vv.c0
                    have y1 := vv.c1
                    have y2 := vv.c2
                    have y3 := vv.c3
                    have y4 := vv.c4
                    have y5 := vv.c5
                    have y6 := vv.c6
                    have y7 := vv.c7
                    have y8 := vv.c8
                    go_simp
                    exact ⟨Grown.refl _, rfl⟩
                  · intro w' hg _
                    refine Or.inl ⟨rfl, ?_⟩
                    go_simp
                    refine (now_any (m1.drew.below hg) _ _ _ _ _ _ _ _ (σ1 + 1) HST.out).mono ?_
                    rintro e w'' ⟨rfl, b9⟩
                    exact ⟨_, rfl, b9, rfl⟩
                  · intro w' hg _
                    refine Or.inl ⟨rfl, ?_⟩
                    go_simp
                    exact ⟨Grown.refl _, rfl⟩
                  · intro w' hg _
                    refine Or.inl ⟨rfl, ?_⟩
                    go_simp
                    first
                      | exact ⟨Grown.refl _, rfl⟩
                      | exact ⟨Grown.refl _, congrArg Value.bool (decide_eq_true (by omega))⟩
                  · intro w' hg _
                    refine Or.inl ⟨rfl, ?_⟩
                    go_simp
                    exact ⟨Grown.refl _, rfl⟩
                  · intro w' hg _
                    refine Or.inl ⟨rfl, ?_⟩
                    go_simp
                    exact ⟨Grown.refl _, rfl⟩
                  · intro w' hg _
                    refine Or.inl ⟨rfl, ?_⟩
                    go_simp
                    exact ⟨Grown.refl _, congrArg Value.bool HK9.out⟩
                  · intro w' hg _
                    refine Or.inl ⟨rfl, ?_⟩
                    go_simp
                    exact ⟨Grown.refl _, rfl⟩
                  · intro w' hg _
                    refine Or.inl ⟨rfl, ?_⟩
                    go_simp
                    exact ⟨Grown.refl _, rfl⟩
                  · intro w' hg _
                    refine Or.inl ⟨rfl, ?_⟩
                    go_simp
                    exact ⟨Grown.refl _, rfl⟩
                  · intro w' hg _
                    refine Or.inl ⟨rfl, ?_⟩
                    have vv := (v1.grown ((Below.refl _ _).drew)).grown hg
                    have y0 := vv.c0
                    have y1 := vv.c1
                    have y2 := vv.c2
                    have y3 := vv.c3
                    have y4 := vv.c4
                    have y5 := vv.c5
                    have y6 := vv.c6
                    have y7 := vv.c7
                    have y8 := vv.c8
                    go_simp
                    exact ⟨Grown.refl _, rfl⟩
                  · intro w' hg _
                    refine Or.inl ⟨rfl, ?_⟩
                    go_simp
                    refine (LAST.out _ (m1.drew.below hg)).mono ?_
                    rintro e w'' ⟨rfl, b9⟩
                    exact ⟨_, rfl, b9, rfl⟩
                  · intro w' hg _
                    refine Or.inl ⟨rfl, ?_⟩
                    go_simp
                    exact ⟨Grown.refl _, rfl⟩
                  · intro w' hg _
                    refine Or.inl ⟨rfl, ?_⟩
                    go_simp
                    exact ⟨Grown.refl _, congrArg Value.bool HLC.out⟩
                  · intro w' hg _
                    refine Or.inl ⟨rfl, ?_⟩
                    go_simp
                    exact ⟨Grown.refl _, rfl⟩
                  · intro w' hg _
                    refine Or.inl ⟨rfl, ?_⟩
                    go_simp
                    exact ⟨Grown.refl _, rfl⟩
                  · intro w' hg _
                    refine Or.inl ⟨rfl, ?_⟩
                    have vv := (v1.grown ((Below.refl _ _).drew)).grown hg
                    have y0 := vv.c0
                    have y1 := vv.c1
                    have y2 := vv.c2
                    have y3 := vv.c3
                    have y4 := vv.c4
                    have y5 := vv.c5
                    have y6 := vv.c6
                    have y7 := vv.c7
                    have y8 := vv.c8
                    go_simp
                    exact ⟨Grown.refl _, rfl⟩
                  · intro w' hg _
                    refine Or.inl ⟨rfl, ?_⟩
                    go_simp
                    refine (LAST.out _ (m1.drew.below hg)).mono ?_
                    rintro e w'' ⟨rfl, b9⟩
                    exact ⟨_, rfl, b9, rfl⟩
                  · intro w' hg _
                    refine Or.inl ⟨rfl, ?_⟩
                    go_simp
                    exact ⟨Grown.refl _, rfl⟩
                  · intro w' hg _
                    refine Or.inl ⟨rfl, ?_⟩
                    go_simp
                    exact ⟨Grown.refl _, rfl⟩
                  · intro w' hg _
                    refine Or.inl ⟨rfl, ?_⟩
                    go_simp
                    first
                      | exact ⟨Grown.refl _, rfl⟩
                      | exact ⟨Grown.refl _, congrArg Value.bool (decide_eq_false (by omega))⟩
                  · intro w' hg _
                    refine Or.inl ⟨rfl, ?_⟩
                    go_simp
                    exact ⟨Grown.refl _, rfl⟩
                  · intro w' hg _
                    refine Or.inl ⟨rfl, ?_⟩
                    go_simp
                    exact ⟨Grown.refl _, rfl⟩
                  · intro w' hg _
                    refine Or.inl ⟨rfl, ?_⟩
                    have vv := (v1.grown ((Below.refl _ _).drew)).grown hg
                    have y0 := vv.c0
                    have y1 := vv.c1
                    have y2 := vv.c2
                    have y3 := vv.c3
                    have y4 := vv.c4
                    have y5 := vv.c5
                    have y6 := vv.c6
                    have y7 := vv.c7
                    have y8 := vv.c8
                    go_simp
                    exact ⟨Grown.refl _, rfl⟩
                  · intro w' hg _
                    refine Or.inl ⟨rfl, ?_⟩
                    go_simp
                    refine (LAST.out _ (m1.drew.below hg)).mono ?_
                    rintro e w'' ⟨rfl, b9⟩
                    exact ⟨_, rfl, b9, rfl⟩
                  · intro w' hg _
                    refine Or.inl ⟨rfl, ?_⟩
                    go_simp
                    exact ⟨Grown.refl _, rfl⟩
                  · intro w' hg _
                    refine Or.inl ⟨rfl, ?_⟩
                    go_simp
                    exact ⟨Grown.refl _, rfl⟩
                  · intro w' hg _
                    refine Or.inl ⟨rfl, ?_⟩
                    go_simp
                    exact ⟨Grown.refl _, congrArg (Value.int .i64) (by rw [IntKind.wrap_i64]; omega)⟩
                  · intro w' hg _
                    refine Or.inl ⟨rfl, ?_⟩
                    go_simp
                    exact ⟨Grown.refl _, rfl⟩
                  · intro w' hg _
                    refine Or.inl ⟨rfl, ?_⟩
                    go_simp
                    exact ⟨Grown.refl _, rfl⟩
                  · intro w' hg _
                    refine Or.inl ⟨rfl, ?_⟩
                    have hb : (0 : Int) ≤ (r : Int) := by omega
                    go_simp
                    exact ⟨Grown.refl _, rfl⟩
                  · intro w' hg _
                    refine Or.inl ⟨rfl, ?_⟩
                    go_simp
                    exact ⟨Grown.refl _, rfl⟩
                  · intro w' hg _
                    refine Or.inl ⟨rfl, ?_⟩
                    have q0 := keep' hg (keep' b1.drew hk2)
                    go_simp
                    exact ⟨Grown.refl _, rfl⟩
                  · intro w' hg _
                    refine Or.inl ⟨rfl, ?_⟩
                    go_simp
                    exact ⟨Grown.refl _, rfl⟩
                  · intro w' hg _
                    refine Or.inl ⟨rfl, ?_⟩
                    go_simp
                    exact ⟨Grown.refl _, congrArg (Value.int .i64) (by rw [IntKind.wrap_i64]; have := HZ.out; omega)⟩
                  · intro w' hg _
                    refine Or.inl ⟨rfl, ?_⟩
                    go_simp
                    first
                      | exact ⟨Grown.refl _, rfl⟩
                      | exact ⟨Grown.refl _, congrArg Value.bool (decide_eq_false (by omega))⟩
                  · intro w' hg _
                    refine Or.inl ⟨rfl, ?_⟩
                    go_simp
                    exact ⟨Grown.refl _, rfl⟩
                  · intro w' hg _
                    refine Or.inl ⟨rfl, ?_⟩
                    go_simp
                    exact ⟨Grown.refl _, rfl⟩
                  · intro w' hg _
                    refine Or.inl ⟨rfl, ?_⟩
                    go_simp
                    exact ⟨Grown.refl _, rfl⟩
                  intro w4 hg _
                  have m4 := m1.drew.below hg
                  have v4 := (v1.grown ((Below.refl _ _).drew)).grown hg
                  have b4 : Below w.heap.size w w4 := grow b1.drew hg
                  have x4 := HDX.out _ _ (HDX.out _ _ x1 ((Below.refl _ _).drew)) hg
                  clear m1 v1 b1 x1 hg
                  go_wp2
                  go_roundw
                  case rel =>
                    rcases HNX.out with ⟨h, _⟩ | ⟨_, N2, h2, h3⟩
                    · rw [hd9] at h; cases h
                    · have k := x4
                      rw [EDX.out] at k
                      exact ⟨kk + 1, N2, s2, σ1 + 1, q2, ph2, α2, by go_num, by omega, h3, HSO.out, by omega, m4, HTW.out, v4, b4, k⟩
                  case measure => simp [intOf]; omega
              · have HK9 : Hid ((KK == 9) = false) := by unfold Hid; simpa using hK9
                clear hK9
                refine wp_over (fun W => MemAt W L s2 ∧ BoxV W E 1 8 6 40 100 600 3 L.p 0 ∧ Below w.heap.size w W ∧ DX W) ⟨m2, v2, b2, x2⟩ ?_
                clear m2 v2 b2 x2
                rintro W ⟨m1, v1, b1, x1⟩
                refine wp_region_rely Grown [.val (.pointer (some ⟨E, 0, none⟩)), .val (.agg #[.int .i64 1, .int .i64 8, .int .i64 6, .int .i64 40, .int .i64 100, .int .i64 600, .int .i64 3]), .val (.pointer (some ⟨E, 7, none⟩)), .val (.pointer (some ⟨L.p, 0, none⟩)), .val (.agg #[.int .i64 la, .int .i64 lw, .bool lc]), .val (.int .i64 la), .val (.tuple #[.int .i64 KK, .int .i64 KI, .int .i64 KX]), .val (.tuple #[.int .i64 KK, .int .i64 KI, .int .i64 KX]), .val (.int .i64 KK), .val (.int .i64 KI), .val (.int .i64 KX), .val (.int .i64 KK), .val (.int .i64 KI), .val (.int .i64 KX)] (by kernel_rfl) Grown.refl Grown.trans (by kernel_rfl) (by kernel_rfl) (by kernel_rfl) ?_
                simp only [relyAll, Act.put, List.setIfInBounds_toArray, List.set_cons_zero, List.set_cons_succ]
                refine ⟨?_, ?_, ?_, ?_, ?_, ?_, ?_, ?_, ?_, ?_, ?_, ?_, ?_, ?_, ?_⟩
                · intro w' hg _
                  refine Or.inl ⟨rfl, ?_⟩
                  go_simp
                  exact ⟨Grown.refl _, rfl⟩
                · intro w' hg _
                  refine Or.inl ⟨rfl, ?_⟩
                  have vv := (v1.grown ((Below.refl _ _).drew)).grown hg
                  have y0 := vv.c0
                  have y1 := vv.c1
                  have y2 := vv.c2
                  have y3 := vv.c3
                  have y4 := vv.c4
                  have y5 := vv.c5
                  have y6 := vv.c6
                  have y7 := vv.c7
                  have y8 := vv.c8
                  go_simp
                  exact ⟨Grown.refl _, rfl⟩
                · intro w' hg _
                  refine Or.inl ⟨rfl, ?_⟩
                  go_simp
                  exact ⟨Grown.refl _, rfl⟩
                · intro w' hg _
                  refine Or.inl ⟨rfl, ?_⟩
                  have vv := (v1.grown ((Below.refl _ _).drew)).grown hg
                  have y0 := vv.c0
                  have y1 := vv.c1
                  have y2 := vv.c2
                  have y3 := vv.c3
                  have y4 := vv.c4
                  have y5 := vv.c5
                  have y6 := vv.c6
                  have y7 := vv.c7
                  have y8 := vv.c8
                  go_simp
                  exact ⟨Grown.refl _, rfl⟩
                · intro w' hg _
                  refine Or.inl ⟨rfl, ?_⟩
                  go_simp
                  refine (LAST.out _ (m1.drew.below hg)).mono ?_
                  rintro e w'' ⟨rfl, b9⟩
                  exact ⟨_, rfl, b9, rfl⟩
                · intro w' hg _
                  refine Or.inl ⟨rfl, ?_⟩
                  go_simp
                  exact ⟨Grown.refl _, rfl⟩
                · intro w' hg _
                  refine Or.inl ⟨rfl, ?_⟩
                  go_simp
                  refine (KIND.out _).mono ?_
                  rintro e w'' ⟨rfl, b9⟩
                  exact ⟨_, rfl, b9, rfl⟩
                · intro w' hg _
                  refine Or.inl ⟨rfl, ?_⟩
                  go_simp
                  exact ⟨Grown.refl _, rfl⟩
                · intro w' hg _
                  refine Or.inl ⟨rfl, ?_⟩
                  go_simp
                  exact ⟨Grown.refl _, rfl⟩
                · intro w' hg _
                  refine Or.inl ⟨rfl, ?_⟩
                  go_simp
                  exact ⟨Grown.refl _, rfl⟩
                · intro w' hg _
                  refine Or.inl ⟨rfl, ?_⟩
                  go_simp
                  exact ⟨Grown.refl _, rfl⟩
                · intro w' hg _
                  refine Or.inl ⟨rfl, ?_⟩
                  go_simp
                  exact ⟨Grown.refl _, rfl⟩
                · intro w' hg _
                  refine Or.inl ⟨rfl, ?_⟩
                  go_simp
                  exact ⟨Grown.refl _, rfl⟩
                · intro w' hg _
                  refine Or.inl ⟨rfl, ?_⟩
                  go_simp
                  exact ⟨Grown.refl _, rfl⟩
                intro w3 hg _
                go_wp2
                refine wp_over (fun W => MemAt W L s2 ∧ BoxV W E 1 8 6 40 100 600 3 L.p 0 ∧ Below w.heap.size w W ∧ DX W) ⟨m1.drew.below hg, (v1.grown ((Below.refl _ _).drew)).grown hg, grow b1.drew hg, HDX.out _ _ (HDX.out _ _ x1 ((Below.refl _ _).drew)) hg⟩ ?_
                clear m1 v1 b1 x1 hg
                rintro W ⟨m1, v1, b1, x1⟩
                refine wp_region_rely Grown [.val (.agg #[.int .i64 1, .int .i64 8, .int .i64 6, .int .i64 40, .int .i64 100, .int .i64 600, .int .i64 3, .pointer (some ⟨L.p, 0, none⟩), .int .i64 0]), .val (.int .i64 (σ1 + 1 : Nat)), .val (.int .i64 (σ1 : Nat)), .val (.int .i64 ((σ1 + 1 : Nat) : Int)), .val (.bool false), .val (.bool false), .val (.agg #[.int .i64 1, .int .i64 8, .int .i64 6, .int .i64 40, .int .i64 100, .int .i64 600, .int .i64 3, .pointer (some ⟨L.p, 0, none⟩), .int .i64 0]), .val (.int .i64 (σ1 + 1 : Nat)), .val (.int .i64 (σ1 : Nat)), .val (.bool true), .val (.bool true), .val (.int .i64 KK), .val (.bool false), .val (.bool false), .val (.bool false), .val undef, .val undef, .val undef, .val undef, .val (.bool false), .val (.bool false), .val undef, .val undef, .val undef, .val undef, .val undef, .val undef, .val undef, .val undef, .val undef, .val undef, .val undef, .val undef, .val undef, .val undef, .val undef, .val undef, .val undef, .val undef, .val undef, .val undef, .val undef, .val undef, .val (.bool false), .val (.bool false)] (by kernel_rfl) Grown.refl Grown.trans (by kernel_rfl) (by kernel_rfl) (by kernel_rfl) ?_
                simp only [relyAll, Act.put, List.setIfInBounds_toArray, List.set_cons_zero, List.set_cons_succ]
                refine ⟨?_, ?_, ?_, ?_, ?_, ?_, ?_, ?_, ?_, ?_, ?_, ?_, ?_, ?_, ?_, ?_, ?_, ?_, ?_, ?_, ?_, ?_, ?_, ?_, ?_, ?_, ?_, ?_, ?_, ?_, ?_, ?_, ?_, ?_, ?_, ?_, ?_, ?_, ?_, ?_, ?_, ?_, ?_, ?_, ?_, ?_⟩
                · intro w' hg _
                  refine Or.inl ⟨rfl, ?_⟩
                  have vv := (v1.grown ((Below.refl _ _).drew)).grown hg
                  have y0 := vv.c0
                  have y1 := vv.c1
                  have y2 := vv.c2
                  have y3 := vv.c3
                  have y4 := vv.c4
                  have y5 := vv.c5
                  have y6 := vv.c6
                  have y7 := vv.c7
                  have y8 := vv.c8
                  go_simp
                  exact ⟨Grown.refl _, rfl⟩
                · intro w' hg _
                  refine Or.inl ⟨rfl, ?_⟩
                  go_simp
                  refine (now_any (m1.drew.below hg) _ _ _ _ _ _ _ _ (σ1 + 1) HST.out).mono ?_
                  rintro e w'' ⟨rfl, b9⟩
                  exact ⟨_, rfl, b9, rfl⟩
                · intro w' hg _
                  refine Or.inl ⟨rfl, ?_⟩
                  go_simp
                  exact ⟨Grown.refl _, rfl⟩
                · intro w' hg _
                  refine Or.inl ⟨rfl, ?_⟩
                  go_simp
                  exact ⟨Grown.refl _, congrArg (Value.int .i64) (by rw [IntKind.wrap_i64]; omega)⟩
                · intro w' hg _
                  refine Or.inl ⟨rfl, ?_⟩
                  go_simp
                  first
                    | exact ⟨Grown.refl _, rfl⟩
                    | exact ⟨Grown.refl _, congrArg Value.bool (decide_eq_false (by omega))⟩
                · intro w' hg _
                  refine Or.inl ⟨rfl, ?_⟩
                  go_simp
                  exact ⟨Grown.refl _, rfl⟩
                · intro w' hg _
                  refine Or.inl ⟨rfl, ?_⟩
                  have vv := (v1.grown ((Below.refl _ _).drew)).grown hg
                  have y0 := vv.c0
                  have y1 := vv.c1
                  have y2 := vv.c2
                  have y3 := vv.c3
                  have y4 := vv.c4
                  have y5 := vv.c5
                  have y6 := vv.c6
                  have y7 := vv.c7
                  have y8 := vv.c8
                  go_simp
                  exact ⟨Grown.refl _, rfl⟩
                · intro w' hg _
                  refine Or.inl ⟨rfl, ?_⟩
                  go_simp
                  refine (now_any (m1.drew.below hg) _ _ _ _ _ _ _ _ (σ1 + 1) HST.out).mono ?_
                  rintro e w'' ⟨rfl, b9⟩
                  exact ⟨_, rfl, b9, rfl⟩
                · intro w' hg _
                  refine Or.inl ⟨rfl, ?_⟩
                  go_simp
                  exact ⟨Grown.refl _, rfl⟩
                · intro w' hg _
                  refine Or.inl ⟨rfl, ?_⟩
                  go_simp
                  first
                    | exact ⟨Grown.refl _, rfl⟩
                    | exact ⟨Grown.refl _, congrArg Value.bool (decide_eq_true (by omega))⟩
                · intro w' hg _
                  refine Or.inl ⟨rfl, ?_⟩
                  go_simp
                  exact ⟨Grown.refl _, rfl⟩
                · intro w' hg _
                  refine Or.inl ⟨rfl, ?_⟩
                  go_simp
                  exact ⟨Grown.refl _, rfl⟩
                · intro w' hg _
                  refine Or.inl ⟨rfl, ?_⟩
                  go_simp
                  exact ⟨Grown.refl _, congrArg Value.bool HK9.out⟩
                · intro w' hg _
                  refine Or.inl ⟨rfl, ?_⟩
                  go_simp
                  exact ⟨Grown.refl _, rfl⟩
                · intro w' hg _
                  refine Or.inl ⟨rfl, ?_⟩
                  go_simp
                  exact ⟨Grown.refl _, rfl⟩
                · intro w' hg _
                  exact Or.inr ⟨rfl, rfl⟩
                · intro w' hg _
                  exact Or.inr ⟨rfl, rfl⟩
                · intro w' hg _
                  exact Or.inr ⟨rfl, rfl⟩
                · intro w' hg _
                  exact Or.inr ⟨rfl, rfl⟩
                · intro w' hg _
                  refine Or.inl ⟨rfl, ?_⟩
                  go_simp
                  exact ⟨Grown.refl _, rfl⟩
                · intro w' hg _
                  refine Or.inl ⟨rfl, ?_⟩
                  go_simp
                  exact ⟨Grown.refl _, rfl⟩
                · intro w' hg _
                  exact Or.inr ⟨rfl, rfl⟩
                · intro w' hg _
                  exact Or.inr ⟨rfl, rfl⟩
                · intro w' hg _
                  exact Or.inr ⟨rfl, rfl⟩
                · intro w' hg _
                  exact Or.inr ⟨rfl, rfl⟩
                · intro w' hg _
                  exact Or.inr ⟨rfl, rfl⟩
                · intro w' hg _
                  exact Or.inr ⟨rfl, rfl⟩
                · intro w' hg _
                  exact Or.inr ⟨rfl, rfl⟩
                · intro w' hg _
                  exact Or.inr ⟨rfl, rfl⟩
                · intro w' hg _
                  exact Or.inr ⟨rfl, rfl⟩
                · intro w' hg _
                  exact Or.inr ⟨rfl, rfl⟩
                · intro w' hg _
                  exact Or.inr ⟨rfl, rfl⟩
                · intro w' hg _
                  exact Or.inr ⟨rfl, rfl⟩
                · intro w' hg _
                  exact Or.inr ⟨rfl, rfl⟩
                · intro w' hg _
                  exact Or.inr ⟨rfl, rfl⟩
                · intro w' hg _
                  exact Or.inr ⟨rfl, rfl⟩
                · intro w' hg _
                  exact Or.inr ⟨rfl, rfl⟩
                · intro w' hg _
                  exact Or.inr ⟨rfl, rfl⟩
                · intro w' hg _
                  exact Or.inr ⟨rfl, rfl⟩
                · intro w' hg _
                  exact Or.inr ⟨rfl, rfl⟩
                · intro w' hg _
                  exact Or.inr ⟨rfl, rfl⟩
                · intro w' hg _
                  exact Or.inr ⟨rfl, rfl⟩
                · intro w' hg _
                  exact Or.inr ⟨rfl, rfl⟩
                · intro w' hg _
                  refine Or.inl ⟨rfl, ?_⟩
                  go_simp
                  exact ⟨Grown.refl _, rfl⟩
                · intro w' hg _
                  refine Or.inl ⟨rfl, ?_⟩
                  go_simp
                  exact ⟨Grown.refl _, rfl⟩
                intro w4 hg _
                have m4 := m1.drew.below hg
                have v4 := (v1.grown ((Below.refl _ _).drew)).grown hg
                have b4 : Below w.heap.size w w4 := grow b1.drew hg
                have x4 := HDX.out _ _ (HDX.out _ _ x1 ((Below.refl _ _).drew)) hg
                clear m1 v1 b1 x1 hg
                go_wp2
                go_roundw
                case rel =>
                  rcases HNX.out with ⟨h, _⟩ | ⟨_, N2, h2, h3⟩
                  · rw [hd9] at h; cases h
                  · have k := x4
                    rw [EDX.out] at k
                    exact ⟨kk + 1, N2, s2, σ1 + 1, q2, ph2, α2, by go_num, by omega, h3, HSO.out, by omega, m4, HTW.out, v4, b4, k⟩
                case measure => simp [intOf]; omega
            | true =>
              have hend : q2 = qE := by
                rcases HNX.out with ⟨_, _, h, _⟩ | ⟨h, _⟩
                · exact h
                · rw [hd9] at h; cases h
              by_cases hK9 : KK = 9
              · have hdata : (6 + 1 + 8 * 2 + 6 * 3 : Nat) ≤ a := by
                  have := HKI.out.data hK9
                  omega
                cases hlc : lc with
                | false =>
                  have HK9 : Hid ((KK == 9) = true) := by unfold Hid; simp [hK9]
                  have HLC : Hid (lc = false) := hlc
                  clear hK9 hlc
                  refine wp_over (fun W => MemAt W L s2 ∧ BoxV W E 1 8 6 40 100 600 3 L.p 0 ∧ Below w.heap.size w W ∧ DX W) ⟨m2, v2, b2, x2⟩ ?_
                  clear m2 v2 b2 x2
                  rintro W ⟨m1, v1, b1, x1⟩
                  refine wp_region_rely Grown [.val (.pointer (some ⟨E, 0, none⟩)), .val (.agg #[.int .i64 1, .int .i64 8, .int .i64 6, .int .i64 40, .int .i64 100, .int .i64 600, .int .i64 3]), .val (.pointer (some ⟨E, 7, none⟩)), .val (.pointer (some ⟨L.p, 0, none⟩)), .val (.agg #[.int .i64 la, .int .i64 lw, .bool lc]), .val (.int .i64 la), .val (.tuple #[.int .i64 KK, .int .i64 KI, .int .i64 KX]), .val (.tuple #[.int .i64 KK, .int .i64 KI, .int .i64 KX]), .val (.int .i64 KK), .val (.int .i64 KI), .val (.int .i64 KX), .val (.int .i64 KK), .val (.int .i64 KI), .val (.int .i64 KX)] (by kernel_rfl) Grown.refl Grown.trans (by kernel_rfl) (by kernel_rfl) (by kernel_rfl) ?_
                  simp only [relyAll, Act.put, List.setIfInBounds_toArray, List.set_cons_zero, List.set_cons_succ]
                  refine ⟨?_, ?_, ?_, ?_, ?_, ?_, ?_, ?_, ?_, ?_, ?_, ?_, ?_, ?_, ?_⟩
                  · intro w' hg _
                    refine Or.inl ⟨rfl, ?_⟩
                    go_simp
                    exact ⟨Grown.refl _, rfl⟩
                  · intro w' hg _
                    refine Or.inl ⟨rfl, ?_⟩
                    have vv := (v1.grown ((Below.refl _ _).drew)).grown hg
                    have y0 := vv.c0
                    have y1 := vv.c1
                    have y2 := vv.c2
                    have y3 := vv.c3
                    have y4 := vv.c4
                    have y5 := vv.c5
                    have y6 := vv.c6
                    have y7 := vv.c7
                    have y8 := vv.c8
                    go_simp
                    exact ⟨Grown.refl _, rfl⟩
                  · intro w' hg _
                    refine Or.inl ⟨rfl, ?_⟩
                    go_simp
                    exact ⟨Grown.refl _, rfl⟩
                  · intro w' hg _
                    refine Or.inl ⟨rfl, ?_⟩
                    have vv := (v1.grown ((Below.refl _ _).drew)).grown hg
                    have y0 := vv.c0
                    have y1 := vv.c1
                    have y2 := vv.c2
                    have y3 := vv.c3
                    have y4 := vv.c4
                    have y5 := vv.c5
                    have y6 := vv.c6
                    have y7 := vv.c7
                    have y8 := vv.c8
                    go_simp
                    exact ⟨Grown.refl _, rfl⟩
                  · intro w' hg _
                    refine Or.inl ⟨rfl, ?_⟩
                    go_simp
                    refine (LAST.out _ (m1.drew.below hg)).mono ?_
                    rintro e w'' ⟨rfl, b9⟩
                    exact ⟨_, rfl, b9, rfl⟩
                  · intro w' hg _
                    refine Or.inl ⟨rfl, ?_⟩
                    go_simp
                    exact ⟨Grown.refl _, rfl⟩
                  · intro w' hg _
                    refine Or.inl ⟨rfl, ?_⟩
                    go_simp
                    refine (KIND.out _).mono ?_
                    rintro e w'' ⟨rfl, b9⟩
                    exact ⟨_, rfl, b9, rfl⟩
                  · intro w' hg _
                    refine Or.inl ⟨rfl, ?_⟩
                    go_simp
                    exact ⟨Grown.refl _, rfl⟩
                  · intro w' hg _
                    refine Or.inl ⟨rfl, ?_⟩
                    go_simp
                    exact ⟨Grown.refl _, rfl⟩
                  · intro w' hg _
                    refine Or.inl ⟨rfl, ?_⟩
                    go_simp
                    exact ⟨Grown.refl _, rfl⟩
                  · intro w' hg _
                    refine Or.inl ⟨rfl, ?_⟩
                    go_simp
                    exact ⟨Grown.refl _, rfl⟩
                  · intro w' hg _
                    refine Or.inl ⟨rfl, ?_⟩
                    go_simp
                    exact ⟨Grown.refl _, rfl⟩
                  · intro w' hg _
                    refine Or.inl ⟨rfl, ?_⟩
                    go_simp
                    exact ⟨Grown.refl _, rfl⟩
                  · intro w' hg _
                    refine Or.inl ⟨rfl, ?_⟩
                    go_simp
                    exact ⟨Grown.refl _, rfl⟩
                  intro w3 hg _
                  go_wp2
                  refine wp_over (fun W => MemAt W L s2 ∧ BoxV W E 1 8 6 40 100 600 3 L.p 0 ∧ Below w.heap.size w W ∧ DX W) ⟨m1.drew.below hg, (v1.grown ((Below.refl _ _).drew)).grown hg, grow b1.drew hg, HDX.out _ _ (HDX.out _ _ x1 ((Below.refl _ _).drew)) hg⟩ ?_
                  clear m1 v1 b1 x1 hg
                  rintro W ⟨m1, v1, b1, x1⟩
                  refine wp_region_rely Grown [.val (.agg #[.int .i64 1, .int .i64 8, .int .i64 6, .int .i64 40, .int .i64 100, .int .i64 600, .int .i64 3, .pointer (some ⟨L.p, 0, none⟩), .int .i64 0]), .val (.int .i64 (σ1 + 1 : Nat)), .val (.int .i64 (σ1 : Nat)), .val (.int .i64 ((σ1 + 1 : Nat) : Int)), .val (.bool false), .val (.bool false), .val (.agg #[.int .i64 1, .int .i64 8, .int .i64 6, .int .i64 40, .int .i64 100, .int .i64 600, .int .i64 3, .pointer (some ⟨L.p, 0, none⟩), .int .i64 0]), .val (.int .i64 (σ1 + 1 : Nat)), .val (.int .i64 (σ1 : Nat)), .val (.bool true), .val (.bool true), .val (.int .i64 KK), .val (.bool true), .val (.bool true), .val (.bool true), .val (.pointer (some ⟨E, 7, none⟩)), .val (.pointer (some ⟨L.p, 0, none⟩)), .val (.agg #[.int .i64 la, .int .i64 lw, .bool lc]), .val (.bool lc), .val (.bool false), .val (.bool false), .val undef, .val undef, .val undef, .val undef, .val undef, .val undef, .val undef, .val undef, .val undef, .val undef, .val undef, .val undef, .val undef, .val undef, .val undef, .val undef, .val undef, .val undef, .val undef, .val undef, .val undef, .val undef, .val (.bool false), .val (.bool false)] (by kernel_rfl) Grown.refl Grown.trans (by kernel_rfl) (by kernel_rfl) (by kernel_rfl) ?_
                  simp only [relyAll, Act.put, List.setIfInBounds_toArray, List.set_cons_zero, List.set_cons_succ]
                  refine ⟨?_, ?_, ?_, ?_, ?_, ?_, ?_, ?_, ?_, ?_, ?_, ?_, ?_, ?_, ?_, ?_, ?_, ?_, ?_, ?_, ?_, ?_, ?_, ?_, ?_, ?_, ?_, ?_, ?_, ?_, ?_, ?_, ?_, ?_, ?_, ?_, ?_, ?_, ?_, ?_, ?_, ?_, ?_, ?_, ?_, ?_⟩
                  · intro w' hg _
                    refine Or.inl ⟨rfl, ?_⟩
                    have vv := (v1.grown ((Below.refl _ _).drew)).grown hg
                    have y0 := vv.c0
                    have y1 := vv.c1
                    have y2 := vv.c2
                    have y3 := vv.c3
                    have y4 := vv.c4
                    have y5 := vv.c5
                    have y6 := vv.c6
                    have y7 := vv.c7
                    have y8 := vv.c8
                    go_simp
                    exact ⟨Grown.refl _, rfl⟩
                  · intro w' hg _
                    refine Or.inl ⟨rfl, ?_⟩
                    go_simp
                    refine (now_any (m1.drew.below hg) _ _ _ _ _ _ _ _ (σ1 + 1) HST.out).mono ?_
                    rintro e w'' ⟨rfl, b9⟩
                    exact ⟨_, rfl, b9, rfl⟩
                  · intro w' hg _
                    refine Or.inl ⟨rfl, ?_⟩
                    go_simp
                    exact ⟨Grown.refl _, rfl⟩
                  · intro w' hg _
                    refine Or.inl ⟨rfl, ?_⟩
                    go_simp
                    exact ⟨Grown.refl _, congrArg (Value.int .i64) (by rw [IntKind.wrap_i64]; omega)⟩
                  · intro w' hg _
                    refine Or.inl ⟨rfl, ?_⟩
                    go_simp
                    first
                      | exact ⟨Grown.refl _, rfl⟩
                      | exact ⟨Grown.refl _, congrArg Value.bool (decide_eq_false (by omega))⟩
                  · intro w' hg _
                    refine Or.inl ⟨rfl, ?_⟩
                    go_simp
                    exact ⟨Grown.refl _, rfl⟩
                  · intro w' hg _
                    refine Or.inl ⟨rfl, ?_⟩
                    have vv := (v1.grown ((Below.refl _ _).drew)).grown hg
                    have y0 := vv.c0
                    have y1 := vv.c1
                    have y2 := vv.c2
                    have y3 := vv.c3
                    have y4 := vv.c4
                    have y5 := vv.c5
                    have y6 := vv.c6
                    have y7 := vv.c7
                    have y8 := vv.c8
                    go_simp
                    exact ⟨Grown.refl _, rfl⟩
                  · intro w' hg _
                    refine Or.inl ⟨rfl, ?_⟩
                    go_simp
                    refine (now_any (m1.drew.below hg) _ _ _ _ _ _ _ _ (σ1 + 1) HST.out).mono ?_
                    rintro e w'' ⟨rfl, b9⟩
                    exact ⟨_, rfl, b9, rfl⟩
                  · intro w' hg _
                    refine Or.inl ⟨rfl, ?_⟩
                    go_simp
                    exact ⟨Grown.refl _, rfl⟩
                  · intro w' hg _
                    refine Or.inl ⟨rfl, ?_⟩
                    go_simp
                    first
                      | exact ⟨Grown.refl _, rfl⟩
                      | exact ⟨Grown.refl _, congrArg Value.bool (decide_eq_true (by omega))⟩
                  · intro w' hg _
                    refine Or.inl ⟨rfl, ?_⟩
                    go_simp
                    exact ⟨Grown.refl _, rfl⟩
                  · intro w' hg _
                    refine Or.inl ⟨rfl, ?_⟩
                    go_simp
                    exact ⟨Grown.refl _, rfl⟩
                  · intro w' hg _
                    refine Or.inl ⟨rfl, ?_⟩
                    go_simp
                    exact ⟨Grown.refl _, congrArg Value.bool HK9.out⟩
                  · intro w' hg _
                    refine Or.inl ⟨rfl, ?_⟩
                    go_simp
                    exact ⟨Grown.refl _, rfl⟩
                  · intro w' hg _
                    refine Or.inl ⟨rfl, ?_⟩
                    go_simp
                    exact ⟨Grown.refl _, rfl⟩
                  · intro w' hg _
                    refine Or.inl ⟨rfl, ?_⟩
                    go_simp
                    exact ⟨Grown.refl _, rfl⟩
                  · intro w' hg _
                    refine Or.inl ⟨rfl, ?_⟩
                    have vv := (v1.grown ((Below.refl _ _).drew)).grown hg
                    have y0 := vv.c0
                    have y1 := vv.c1
                    have y2 := vv.c2
                    have y3 := vv.c3
                    have y4 := vv.c4
                    have y5 := vv.c5
                    have y6 := vv.c6
                    have y7 := vv.c7
                    have y8 := vv.c8
                    go_simp
                    exact ⟨Grown.refl _, rfl⟩
                  · intro w' hg _
                    refine Or.inl ⟨rfl, ?_⟩
                    go_simp
                    refine (LAST.out _ (m1.drew.below hg)).mono ?_
                    rintro e w'' ⟨rfl, b9⟩
                    exact ⟨_, rfl, b9, rfl⟩
                  · intro w' hg _
                    refine Or.inl ⟨rfl, ?_⟩
                    go_simp
                    exact ⟨Grown.refl _, rfl⟩
                  · intro w' hg _
                    refine Or.inl ⟨rfl, ?_⟩
                    go_simp
                    exact ⟨Grown.refl _, congrArg Value.bool HLC.out⟩
                  · intro w' hg _
                    refine Or.inl ⟨rfl, ?_⟩
                    go_simp
                    exact ⟨Grown.refl _, rfl⟩
                  · intro w' hg _
                    exact Or.inr ⟨rfl, rfl⟩
                  · intro w' hg _
                    exact Or.inr ⟨rfl, rfl⟩
                  · intro w' hg _
                    exact Or.inr ⟨rfl, rfl⟩
                  · intro w' hg _
                    exact Or.inr ⟨rfl, rfl⟩
                  · intro w' hg _
                    exact Or.inr ⟨rfl, rfl⟩
                  · intro w' hg _
                    exact Or.inr ⟨rfl, rfl⟩
                  · intro w' hg _
                    exact Or.inr ⟨rfl, rfl⟩
                  · intro w' hg _
                    exact Or.inr ⟨rfl, rfl⟩
                  · intro w' hg _
                    exact Or.inr ⟨rfl, rfl⟩
                  · intro w' hg _
                    exact Or.inr ⟨rfl, rfl⟩
                  · intro w' hg _
                    exact Or.inr ⟨rfl, rfl⟩
                  · intro w' hg _
                    exact Or.inr ⟨rfl, rfl⟩
                  · intro w' hg _
                    exact Or.inr ⟨rfl, rfl⟩
                  · intro w' hg _
                    exact Or.inr ⟨rfl, rfl⟩
                  · intro w' hg _
                    exact Or.inr ⟨rfl, rfl⟩
                  · intro w' hg _
                    exact Or.inr ⟨rfl, rfl⟩
                  · intro w' hg _
                    exact Or.inr ⟨rfl, rfl⟩
                  · intro w' hg _
                    exact Or.inr ⟨rfl, rfl⟩
                  · intro w' hg _
                    exact Or.inr ⟨rfl, rfl⟩
                  · intro w' hg _
                    exact Or.inr ⟨rfl, rfl⟩
                  · intro w' hg _
                    exact Or.inr ⟨rfl, rfl⟩
                  · intro w' hg _
                    exact Or.inr ⟨rfl, rfl⟩
                  · intro w' hg _
                    refine Or.inl ⟨rfl, ?_⟩
                    go_simp
                    exact ⟨Grown.refl _, rfl⟩
                  · intro w' hg _
                    refine Or.inl ⟨rfl, ?_⟩
                    go_simp
                    exact ⟨Grown.refl _, rfl⟩
                  intro w4 hg _
                  have m4 := m1.drew.below hg
                  have v4 := (v1.grown ((Below.refl _ _).drew)).grown hg
                  have b4 : Below w.heap.size w w4 := grow b1.drew hg
                  have x4 := HDX.out _ _ (HDX.out _ _ x1 ((Below.refl _ _).drew)) hg
                  clear m1 v1 b1 x1 hg
                  go_wp2
                  go_roundw
                  case rel =>
                    have tw := HTW.out
                    rw [hend] at tw
                    obtain ⟨gen2, ls2, hgen, tm⟩ := TAME.out
                    exact ⟨r + 1, s2, σ1 + 1, qE, nx', gen2, ls2, by go_num, by omega, by omega, ⟨m4, tw, tm, v4, b4⟩, hgen⟩
                  case measure => simp [intOf]; omega
                | true =>
                  have hat : (Aw : Int) < la ∧ la ≤ Aw + Z := by
                    have hlaa := HLAA.out
                    rcases HAT.out with h | ⟨h1, h2⟩ | ⟨h1, h2⟩
                    · omega
                    · have := HRD.out h1
                      rw [hlc] at this; cases this
                    · omega
                  have HK9 : Hid ((KK == 9) = true) := by unfold Hid; simp [hK9]
                  have HLC : Hid (lc = true) := hlc
                  clear hK9 hlc
                  refine wp_over (fun W => MemAt W L s2 ∧ BoxV W E 1 8 6 40 100 600 3 L.p 0 ∧ Below w.heap.size w W ∧ DX W) ⟨m2, v2, b2, x2⟩ ?_
                  clear m2 v2 b2 x2
                  rintro W ⟨m1, v1, b1, x1⟩
                  refine wp_region_rely Grown [.val (.pointer (some ⟨E, 0, none⟩)), .val (.agg #[.int .i64 1, .int .i64 8, .int .i64 6, .int .i64 40, .int .i64 100, .int .i64 600, .int .i64 3]), .val (.pointer (some ⟨E, 7, none⟩)), .val (.pointer (some ⟨L.p, 0, none⟩)), .val (.agg #[.int .i64 la, .int .i64 lw, .bool lc]), .val (.int .i64 la), .val (.tuple #[.int .i64 KK, .int .i64 KI, .int .i64 KX]), .val (.tuple #[.int .i64 KK, .int .i64 KI, .int .i64 KX]), .val (.int .i64 KK), .val (.int .i64 KI), .val (.int .i64 KX), .val (.int .i64 KK), .val (.int .i64 KI), .val (.int .i64 KX)] (by kernel_rfl) Grown.refl Grown.trans (by kernel_rfl) (by kernel_rfl) (by kernel_rfl) ?_
                  simp only [relyAll, Act.put, List.setIfInBounds_toArray, List.set_cons_zero, List.set_cons_succ]
                  refine ⟨?_, ?_, ?_, ?_, ?_, ?_, ?_, ?_, ?_, ?_, ?_, ?_, ?_, ?_, ?_⟩
                  · intro w' hg _
                    refine Or.inl ⟨rfl, ?_⟩
                    go_simp
                    exact ⟨Grown.refl _, rfl⟩
                  · intro w' hg _
                    refine Or.inl ⟨rfl, ?_⟩
                    have vv := (v1.grown ((Below.refl _ _).drew)).grown hg
                    have y0 := vv.c0
                    have y1 := vv.c1
                    have y2 := vv.c2
                    have y3 := vv.c3
                    have y4 := vv.c4
                    have y5 := vv.c5
                    have y6 := vv.c6
                    have y7 := vv.c7
                    have y8 := vv.c8
                    go_simp
                    exact ⟨Grown.refl _, rfl⟩
                  · intro w' hg _
                    refine Or.inl ⟨rfl, ?_⟩
                    go_simp
                    exact ⟨Grown.refl _, rfl⟩
                  · intro w' hg _
                    refine Or.inl ⟨rfl, ?_⟩
                    have vv := (v1.grown ((Below.refl _ _).drew)).grown hg
                    have y0 := vv.c0
                    have y1 := vv.c1
                    have y2 := vv.c2
                    have y3 := vv.c3
                    have y4 := vv.c4
                    have y5 := vv.c5
                    have y6 := vv.c6
                    have y7 := vv.c7
                    have y8 := vv.c8
                    go_simp
                    exact ⟨Grown.refl _, rfl⟩
                  · intro w' hg _
                    refine Or.inl ⟨rfl, ?_⟩
                    go_simp
                    refine (LAST.out _ (m1.drew.below hg)).mono ?_
                    rintro e w'' ⟨rfl, b9⟩
                    exact ⟨_, rfl, b9, rfl⟩
                  · intro w' hg _
                    refine Or.inl ⟨rfl, ?_⟩
                    go_simp
                    exact ⟨Grown.refl _, rfl⟩
                  · intro w' hg _
                    refine Or.inl ⟨rfl, ?_⟩
                    go_simp
                    refine (KIND.out _).mono ?_
                    rintro e w'' ⟨rfl, b9⟩
                    exact ⟨_, rfl, b9, rfl⟩
                  · intro w' hg _
                    refine Or.inl ⟨rfl, ?_⟩
                    go_simp
                    exact ⟨Grown.refl _, rfl⟩
                  · intro w' hg _
                    refine Or.inl ⟨rfl, ?_⟩
                    go_simp
                    exact ⟨Grown.refl _, rfl⟩
                  · intro w' hg _
                    refine Or.inl ⟨rfl, ?_⟩
                    go_simp
                    exact ⟨Grown.refl _, rfl⟩
                  · intro w' hg _
                    refine Or.inl ⟨rfl, ?_⟩
                    go_simp
                    exact ⟨Grown.refl _, rfl⟩
                  · intro w' hg _
                    refine Or.inl ⟨rfl, ?_⟩
                    go_simp
                    exact ⟨Grown.refl _, rfl⟩
                  · intro w' hg _
                    refine Or.inl ⟨rfl, ?_⟩
                    go_simp
                    exact ⟨Grown.refl _, rfl⟩
                  · intro w' hg _
                    refine Or.inl ⟨rfl, ?_⟩
                    go_simp
                    exact ⟨Grown.refl _, rfl⟩
                  intro w3 hg _
                  go_wp2
                  refine wp_over (fun W => MemAt W L s2 ∧ BoxV W E 1 8 6 40 100 600 3 L.p 0 ∧ Below w.heap.size w W ∧ DX W) ⟨m1.drew.below hg, (v1.grown ((Below.refl _ _).drew)).grown hg, grow b1.drew hg, HDX.out _ _ (HDX.out _ _ x1 ((Below.refl _ _).drew)) hg⟩ ?_
                  clear m1 v1 b1 x1 hg
                  rintro W ⟨m1, v1, b1, x1⟩
                  refine wp_region_rely Grown [.val (.agg #[.int .i64 1, .int .i64 8, .int .i64 6, .int .i64 40, .int .i64 100, .int .i64 600, .int .i64 3, .pointer (some ⟨L.p, 0, none⟩), .int .i64 0]), .val (.int .i64 (σ1 + 1 : Nat)), .val (.int .i64 (σ1 : Nat)), .val (.int .i64 ((σ1 + 1 : Nat) : Int)), .val (.bool false), .val (.bool false), .val (.agg #[.int .i64 1, .int .i64 8, .int .i64 6, .int .i64 40, .int .i64 100, .int .i64 600, .int .i64 3, .pointer (some ⟨L.p, 0, none⟩), .int .i64 0]), .val (.int .i64 (σ1 + 1 : Nat)), .val (.int .i64 (σ1 : Nat)), .val (.bool true), .val (.bool true), .val (.int .i64 KK), .val (.bool true), .val (.bool true), .val (.bool true), .val (.pointer (some ⟨E, 7, none⟩)), .val (.pointer (some ⟨L.p, 0, none⟩)), .val (.agg #[.int .i64 la, .int .i64 lw, .bool lc]), .val (.bool lc), .val (.bool true), .val (.bool true), .val (.pointer (some ⟨E, 7, none⟩)), .val (.pointer (some ⟨L.p, 0, none⟩)), .val (.agg #[.int .i64 la, .int .i64 lw, .bool lc]), .val (.int .i64 la), .val (.int .i64 Aw), .val (.bool false), .val (.bool false), .val (.pointer (some ⟨E, 7, none⟩)), .val (.pointer (some ⟨L.p, 0, none⟩)), .val (.agg #[.int .i64 la, .int .i64 lw, .bool lc]), .val (.int .i64 la), .val (.int .i64 Aw), .val (.int .i64 (Aw + 1)), .val (.slice (some ⟨zb, zo, none⟩) N cap), .val (.int .i64 r), .val (.pointer (some ⟨zb, zo + r * 4, none⟩)), .val (.pointer (some ⟨zb, zo + r * 4 + 2, none⟩)), .val (.int .i64 (A.size r)), .val (.int .i64 (bits .and .i64 (A.size r) 15)), .val (.int .i64 (Aw + Z)), .val (.bool false), .val (.bool false), .val (.bool false), .val (.bool false)] (by kernel_rfl) Grown.refl Grown.trans (by kernel_rfl) (by kernel_rfl) (by kernel_rfl) ?_
                  simp only [relyAll, Act.put, List.setIfInBounds_toArray, List.set_cons_zero, List.set_cons_succ]
                  refine ⟨?_, ?_, ?_, ?_, ?_, ?_, ?_, ?_, ?_, ?_, ?_, ?_, ?_, ?_, ?_, ?_, ?_, ?_, ?_, ?_, ?_, ?_, ?_, ?_, ?_, ?_, ?_, ?_, ?_, ?_, ?_, ?_, ?_, ?_, ?_, ?_, ?_, ?_, ?_, ?_, ?_, ?_, ?_, ?_, ?_, ?_⟩
                  · intro w' hg _
                    refine Or.inl ⟨rfl, ?_⟩
                    have vv := (v1.grown ((Below.refl _ _).drew)).grown hg
                    have y0 := vv.c0
                    have y1 := vv.c1
                    have y2 := vv.c2
                    have y3 := vv.c3
                    have y4 := vv.c4
                    have y5 := vv.c5
                    have y6 := vv.c6
                    have y7 := vv.c7
                    have y8 := vv.c8
                    go_simp
                    exact ⟨Grown.refl _, rfl⟩
                  · intro w' hg _
                    refine Or.inl ⟨rfl, ?_⟩
                    go_simp
                    refine (now_any (m1.drew.below hg) _ _ _ _ _ _ _ _ (σ1 + 1) HST.out).mono ?_
                    rintro e w'' ⟨rfl, b9⟩
                    exact ⟨_, rfl, b9, rfl⟩
                  · intro w' hg _
                    refine Or.inl ⟨rfl, ?_⟩
                    go_simp
                    exact ⟨Grown.refl _, rfl⟩
                  · intro w' hg _
                    refine Or.inl ⟨rfl, ?_⟩
                    go_simp
                    exact ⟨Grown.refl _, congrArg (Value.int .i64) (by rw [IntKind.wrap_i64]; omega)⟩
                  · intro w' hg _
                    refine Or.inl ⟨rfl, ?_⟩
                    go_simp
                    first
                      | exact ⟨Grown.refl _, rfl⟩
                      | exact ⟨Grown.refl _, congrArg Value.bool (decide_eq_false (by omega))⟩
                  · intro w' hg _
                    refine Or.inl ⟨rfl, ?_⟩
                    go_simp
                    exact ⟨Grown.refl _, rfl⟩
                  · intro w' hg _
                    refine Or.inl ⟨rfl, ?_⟩
                    have vv := (v1.grown ((Below.refl _ _).drew)).grown hg
                    have y0 := vv.c0
                    have y1 := vv.c1
                    have y2 := vv.c2
                    have y3 := vv.c3
                    have y4 := vv.c4
                    have y5 := vv.c5
                    have y6 := vv.c6
                    have y7 := vv.c7
                    have y8 := vv.c8
                    go_simp
                    exact ⟨Grown.refl _, rfl⟩
                  · intro w' hg _
                    refine Or.inl ⟨rfl, ?_⟩
                    go_simp
                    refine (now_any (m1.drew.below hg) _ _ _ _ _ _ _ _ (σ1 + 1) HST.out).mono ?_
                    rintro e w'' ⟨rfl, b9⟩
                    exact ⟨_, rfl, b9, rfl⟩
                  · intro w' hg _
                    refine Or.inl ⟨rfl, ?_⟩
                    go_simp
                    exact ⟨Grown.refl _, rfl⟩
                  · intro w' hg _
                    refine Or.inl ⟨rfl, ?_⟩
                    go_simp
                    first
                      | exact ⟨Grown.refl _, rfl⟩
                      | exact ⟨Grown.refl _, congrArg Value.bool (decide_eq_true (by omega))⟩
                  · intro w' hg _
                    refine Or.inl ⟨rfl, ?_⟩
                    go_simp
                    exact ⟨Grown.refl _, rfl⟩
                  · intro w' hg _
                    refine Or.inl ⟨rfl, ?_⟩
                    go_simp
                    exact ⟨Grown.refl _, rfl⟩
                  · intro w' hg _
                    refine Or.inl ⟨rfl, ?_⟩
                    go_simp
                    exact ⟨Grown.refl _, congrArg Value.bool HK9.out⟩
                  · intro w' hg _
                    refine Or.inl ⟨rfl, ?_⟩
                    go_simp
                    exact ⟨Grown.refl _, rfl⟩
                  · intro w' hg _
                    refine Or.inl ⟨rfl, ?_⟩
                    go_simp
                    exact ⟨Grown.refl _, rfl⟩
                  · intro w' hg _
                    refine Or.inl ⟨rfl, ?_⟩
                    go_simp
                    exact ⟨Grown.refl _, rfl⟩
                  · intro w' hg _
                    refine Or.inl ⟨rfl, ?_⟩
                    have vv := (v1.grown ((Below.refl _ _).drew)).grown hg
                    have y0 := vv.c0
                    have y1 := vv.c1
                    have y2 := vv.c2
                    have y3 := vv.c3
                    have y4 := vv.c4
                    have y5 := vv.c5
                    have y6 := vv.c6
                    have y7 := vv.c7
                    have y8 := vv.c8
                    go_simp
                    exact ⟨Grown.refl _, rfl⟩
                  · intro w' hg _
                    refine Or.inl ⟨rfl, ?_⟩
                    go_simp
                    refine (LAST.out _ (m1.drew.below hg)).mono ?_
                    rintro e w'' ⟨rfl, b9⟩
                    exact ⟨_, rfl, b9, rfl⟩
                  · intro w' hg _
                    refine Or.inl ⟨rfl, ?_⟩
                    go_simp
                    exact ⟨Grown.refl _, rfl⟩
                  · intro w' hg _
                    refine Or.inl ⟨rfl, ?_⟩
                    go_simp
                    exact ⟨Grown.refl _, congrArg Value.bool HLC.out⟩
                  · intro w' hg _
                    refine Or.inl ⟨rfl, ?_⟩
                    go_simp
                    exact ⟨Grown.refl _, rfl⟩
                  · intro w' hg _
                    refine Or.inl ⟨rfl, ?_⟩
                    go_simp
                    exact ⟨Grown.refl _, rfl⟩
                  · intro w' hg _
                    refine Or.inl ⟨rfl, ?_⟩
                    have vv := (v1.grown ((Below.refl _ _).drew)).grown hg
                    have y0 := vv.c0
                    have y1 := vv.c1
                    have y2 := vv.c2
                    have y3 := vv.c3
                    have y4 := vv.c4
                    have y5 := vv.c5
                    have y6 := vv.c6
                    have y7 := vv.c7
                    have y8 := vv.c8
                    go_simp
                    exact ⟨Grown.refl _, rfl⟩
                  · intro w' hg _
                    refine Or.inl ⟨rfl, ?_⟩
                    go_simp
                    refine (LAST.out _ (m1.drew.below hg)).mono ?_
                    rintro e w'' ⟨rfl, b9⟩
                    exact ⟨_, rfl, b9, rfl⟩
                  · intro w' hg _
                    refine Or.inl ⟨rfl, ?_⟩
                    go_simp
                    exact ⟨Grown.refl _, rfl⟩
                  · intro w' hg _
                    refine Or.inl ⟨rfl, ?_⟩
                    go_simp
                    exact ⟨Grown.refl _, rfl⟩
                  · intro w' hg _
                    refine Or.inl ⟨rfl, ?_⟩
                    go_simp
                    first
                      | exact ⟨Grown.refl _, rfl⟩
                      | exact ⟨Grown.refl _, congrArg Value.bool (decide_eq_false (by omega))⟩
                  · intro w' hg _
                    refine Or.inl ⟨rfl, ?_⟩
                    go_simp
                    exact ⟨Grown.refl _, rfl⟩
                  · intro w' hg _
                    refine Or.inl ⟨rfl, ?_⟩
                    go_simp
                    exact ⟨Grown.refl _, rfl⟩
                  · intro w' hg _
                    refine Or.inl ⟨rfl, ?_⟩
                    have vv := (v1.grown ((Below.refl _ _).drew)).grown hg
                    have y0 := vv.c0
                    have y1 := vv.c1
                    have y2 := vv.c2
                    have y3 := vv.c3
                    have y4 := vv.c4
                    have y5 := vv.c5
                    have y6 := vv.c6
                    have y7 := vv.c7
                    have y8 := vv.c8
                    go_simp
                    exact ⟨Grown.refl _, rfl⟩
                  · intro w' hg _
                    refine Or.inl ⟨rfl, ?_⟩
                    go_simp
                    refine (LAST.out _ (m1.drew.below hg)).mono ?_
                    rintro e w'' ⟨rfl, b9⟩
                    exact ⟨_, rfl, b9, rfl⟩
                  · intro w' hg _
                    refine Or.inl ⟨rfl, ?_⟩
                    go_simp
                    exact ⟨Grown.refl _, rfl⟩
                  · intro w' hg _
                    refine Or.inl ⟨rfl, ?_⟩
                    go_simp
                    exact ⟨Grown.refl _, rfl⟩
                  · intro w' hg _
                    refine Or.inl ⟨rfl, ?_⟩
                    go_simp
                    exact ⟨Grown.refl _, congrArg (Value.int .i64) (by rw [IntKind.wrap_i64]; omega)⟩
                  · intro w' hg _
                    refine Or.inl ⟨rfl, ?_⟩
                    go_simp
                    exact ⟨Grown.refl _, rfl⟩
                  · intro w' hg _
                    refine Or.inl ⟨rfl, ?_⟩
                    go_simp
                    exact ⟨Grown.refl _, rfl⟩
                  · intro w' hg _
                    refine Or.inl ⟨rfl, ?_⟩
                    have hb : (0 : Int) ≤ (r : Int) := by omega
                    go_simp
                    exact ⟨Grown.refl _, rfl⟩
                  · intro w' hg _
                    refine Or.inl ⟨rfl, ?_⟩
                    go_simp
                    exact ⟨Grown.refl _, rfl⟩
                  · intro w' hg _
                    refine Or.inl ⟨rfl, ?_⟩
                    have q0 := keep' hg (keep' b1.drew hk2)
                    go_simp
                    exact ⟨Grown.refl _, rfl⟩
                  · intro w' hg _
                    refine Or.inl ⟨rfl, ?_⟩
                    go_simp
                    exact ⟨Grown.refl _, rfl⟩
                  · intro w' hg _
                    refine Or.inl ⟨rfl, ?_⟩
                    go_simp
                    exact ⟨Grown.refl _, congrArg (Value.int .i64) (by rw [IntKind.wrap_i64]; have := HZ.out; omega)⟩
                  · intro w' hg _
                    refine Or.inl ⟨rfl, ?_⟩
                    go_simp
                    first
                      | exact ⟨Grown.refl _, rfl⟩
                      | exact ⟨Grown.refl _, congrArg Value.bool (decide_eq_false (by omega))⟩
                  · intro w' hg _
                    refine Or.inl ⟨rfl, ?_⟩
                    go_simp
                    exact ⟨Grown.refl _, rfl⟩
                  · intro w' hg _
                    refine Or.inl ⟨rfl, ?_⟩
                    go_simp
                    exact ⟨Grown.refl _, rfl⟩
                  · intro w' hg _
                    refine Or.inl ⟨rfl, ?_⟩
                    go_simp
                    exact ⟨Grown.refl _, rfl⟩
                  intro w4 hg _
                  have m4 := m1.drew.below hg
                  have v4 := (v1.grown ((Below.refl _ _).drew)).grown hg
                  have b4 : Below w.heap.size w w4 := grow b1.drew hg
                  have x4 := HDX.out _ _ (HDX.out _ _ x1 ((Below.refl _ _).drew)) hg
                  clear m1 v1 b1 x1 hg
                  go_wp2
                  go_roundw
                  case rel =>
                    have tw := HTW.out
                    rw [hend] at tw
                    obtain ⟨gen2, ls2, hgen, tm⟩ := TAME.out
                    exact ⟨r + 1, s2, σ1 + 1, qE, nx', gen2, ls2, by go_num, by omega, by omega, ⟨m4, tw, tm, v4, b4⟩, hgen⟩
                  case measure => simp [intOf]; omega
              · have HK9 : Hid ((KK == 9) = false) := by unfold Hid; simpa using hK9
                clear hK9
                refine wp_over (fun W => MemAt W L s2 ∧ BoxV W E 1 8 6 40 100 600 3 L.p 0 ∧ Below w.heap.size w W ∧ DX W) ⟨m2, v2, b2, x2⟩ ?_
                clear m2 v2 b2 x2
                rintro W ⟨m1, v1, b1, x1⟩
                refine wp_region_rely Grown [.val (.pointer (some ⟨E, 0, none⟩)), .val (.agg #[.int .i64 1, .int .i64 8, .int .i64 6, .int .i64 40, .int .i64 100, .int .i64 600, .int .i64 3]), .val (.pointer (some ⟨E, 7, none⟩)), .val (.pointer (some ⟨L.p, 0, none⟩)), .val (.agg #[.int .i64 la, .int .i64 lw, .bool lc]), .val (.int .i64 la), .val (.tuple #[.int .i64 KK, .int .i64 KI, .int .i64 KX]), .val (.tuple #[.int .i64 KK, .int .i64 KI, .int .i64 KX]), .val (.int .i64 KK), .val (.int .i64 KI), .val (.int .i64 KX), .val (.int .i64 KK), .val (.int .i64 KI), .val (.int .i64 KX)] (by kernel_rfl) Grown.refl Grown.trans (by kernel_rfl) (by kernel_rfl) (by kernel_rfl) ?_
                simp only [relyAll, Act.put, List.setIfInBounds_toArray, List.set_cons_zero, List.set_cons_succ]
                refine ⟨?_, ?_, ?_, ?_, ?_, ?_, ?_, ?_, ?_, ?_, ?_, ?_, ?_, ?_, ?_⟩
                · intro w' hg _
                  refine Or.inl ⟨rfl, ?_⟩
                  go_simp
                  exact ⟨Grown.refl _, rfl⟩
                · intro w' hg _
                  refine Or.inl ⟨rfl, ?_⟩
                  have vv := (v1.grown ((Below.refl _ _).drew)).grown hg
                  have y0 := vv.c0
                  have y1 := vv.c1
                  have y2 := vv.c2
                  have y3 := vv.c3
                  have y4 := vv.c4
                  have y5 := vv.c5
                  have y6 := vv.c6
                  have y7 := vv.c7
                  have y8 := vv.c8
                  go_simp
                  exact ⟨Grown.refl _, rfl⟩
                · intro w' hg _
                  refine Or.inl ⟨rfl, ?_⟩
                  go_simp
                  exact ⟨Grown.refl _, rfl⟩
                · intro w' hg _
                  refine Or.inl ⟨rfl, ?_⟩
                  have vv := (v1.grown ((Below.refl _ _).drew)).grown hg
                  have y0 := vv.c0
                  have y1 := vv.c1
                  have y2 := vv.c2
                  have y3 := vv.c3
                  have y4 := vv.c4
                  have y5 := vv.c5
                  have y6 := vv.c6
                  have y7 := vv.c7
                  have y8 := vv.c8
                  go_simp
                  exact ⟨Grown.refl _, rfl⟩
                · intro w' hg _
                  refine Or.inl ⟨rfl, ?_⟩
                  go_simp
                  refine (LAST.out _ (m1.drew.below hg)).mono ?_
                  rintro e w'' ⟨rfl, b9⟩
                  exact ⟨_, rfl, b9, rfl⟩
                · intro w' hg _
                  refine Or.inl ⟨rfl, ?_⟩
                  go_simp
                  exact ⟨Grown.refl _, rfl⟩
                · intro w' hg _
                  refine Or.inl ⟨rfl, ?_⟩
                  go_simp
                  refine (KIND.out _).mono ?_
                  rintro e w'' ⟨rfl, b9⟩
                  exact ⟨_, rfl, b9, rfl⟩
                · intro w' hg _
                  refine Or.inl ⟨rfl, ?_⟩
                  go_simp
                  exact ⟨Grown.refl _, rfl⟩
                · intro w' hg _
                  refine Or.inl ⟨rfl, ?_⟩
                  go_simp
                  exact ⟨Grown.refl _, rfl⟩
                · intro w' hg _
                  refine Or.inl ⟨rfl, ?_⟩
                  go_simp
                  exact ⟨Grown.refl _, rfl⟩
                · intro w' hg _
                  refine Or.inl ⟨rfl, ?_⟩
                  go_simp
                  exact ⟨Grown.refl _, rfl⟩
                · intro w' hg _
                  refine Or.inl ⟨rfl, ?_⟩
                  go_simp
                  exact ⟨Grown.refl _, rfl⟩
                · intro w' hg _
                  refine Or.inl ⟨rfl, ?_⟩
                  go_simp
                  exact ⟨Grown.refl _, rfl⟩
                · intro w' hg _
                  refine Or.inl ⟨rfl, ?_⟩
                  go_simp
                  exact ⟨Grown.refl _, rfl⟩
                intro w3 hg _
                go_wp2
                refine wp_over (fun W => MemAt W L s2 ∧ BoxV W E 1 8 6 40 100 600 3 L.p 0 ∧ Below w.heap.size w W ∧ DX W) ⟨m1.drew.below hg, (v1.grown ((Below.refl _ _).drew)).grown hg, grow b1.drew hg, HDX.out _ _ (HDX.out _ _ x1 ((Below.refl _ _).drew)) hg⟩ ?_
                clear m1 v1 b1 x1 hg
                rintro W ⟨m1, v1, b1, x1⟩
                refine wp_region_rely Grown [.val (.agg #[.int .i64 1, .int .i64 8, .int .i64 6, .int .i64 40, .int .i64 100, .int .i64 600, .int .i64 3, .pointer (some ⟨L.p, 0, none⟩), .int .i64 0]), .val (.int .i64 (σ1 + 1 : Nat)), .val (.int .i64 (σ1 : Nat)), .val (.int .i64 ((σ1 + 1 : Nat) : Int)), .val (.bool false), .val (.bool false), .val (.agg #[.int .i64 1, .int .i64 8, .int .i64 6, .int .i64 40, .int .i64 100, .int .i64 600, .int .i64 3, .pointer (some ⟨L.p, 0, none⟩), .int .i64 0]), .val (.int .i64 (σ1 + 1 : Nat)), .val (.int .i64 (σ1 : Nat)), .val (.bool true), .val (.bool true), .val (.int .i64 KK), .val (.bool false), .val (.bool false), .val (.bool false), .val undef, .val undef, .val undef, .val undef, .val (.bool false), .val (.bool false), .val undef, .val undef, .val undef, .val undef, .val undef, .val undef, .val undef, .val undef, .val undef, .val undef, .val undef, .val undef, .val undef, .val undef, .val undef, .val undef, .val undef, .val undef, .val undef, .val undef, .val undef, .val undef, .val (.bool false), .val (.bool false)] (by kernel_rfl) Grown.refl Grown.trans (by kernel_rfl) (by kernel_rfl) (by kernel_rfl) ?_
                simp only [relyAll, Act.put, List.setIfInBounds_toArray, List.set_cons_zero, List.set_cons_succ]
                refine ⟨?_, ?_, ?_, ?_, ?_, ?_, ?_, ?_, ?_, ?_, ?_, ?_, ?_, ?_, ?_, ?_, ?_, ?_, ?_, ?_, ?_, ?_, ?_, ?_, ?_, ?_, ?_, ?_, ?_, ?_, ?_, ?_, ?_, ?_, ?_, ?_, ?_, ?_, ?_, ?_, ?_, ?_, ?_, ?_, ?_, ?_⟩
                · intro w' hg _
                  refine Or.inl ⟨rfl, ?_⟩
                  have vv := (v1.grown ((Below.refl _ _).drew)).grown hg
                  have y0 := vv.c0
                  have y1 := vv.c1
                  have y2 := vv.c2
                  have y3 := vv.c3
                  have y4 := vv.c4
                  have y5 := vv.c5
                  have y6 := vv.c6
                  have y7 := vv.c7
                  have y8 := vv.c8
                  go_simp
                  exact ⟨Grown.refl _, rfl⟩
                · intro w' hg _
                  refine Or.inl ⟨rfl, ?_⟩
                  go_simp
                  refine (now_any (m1.drew.below hg) _ _ _ _ _ _ _ _ (σ1 + 1) HST.out).mono ?_
                  rintro e w'' ⟨rfl, b9⟩
                  exact ⟨_, rfl, b9, rfl⟩
                · intro w' hg _
                  refine Or.inl ⟨rfl, ?_⟩
                  go_simp
                  exact ⟨Grown.refl _, rfl⟩
                · intro w' hg _
                  refine Or.inl ⟨rfl, ?_⟩
                  go_simp
                  exact ⟨Grown.refl _, congrArg (Value.int .i64) (by rw [IntKind.wrap_i64]; omega)⟩
                · intro w' hg _
                  refine Or.inl ⟨rfl, ?_⟩
                  go_simp
                  first
                    | exact ⟨Grown.refl _, rfl⟩
                    | exact ⟨Grown.refl _, congrArg Value.bool (decide_eq_false (by omega))⟩
                · intro w' hg _
                  refine Or.inl ⟨rfl, ?_⟩
                  go_simp
                  exact ⟨Grown.refl _, rfl⟩
                · intro w' hg _
                  refine Or.inl ⟨rfl, ?_⟩
                  have vv := (v1.grown ((Below.refl _ _).drew)).grown hg
                  have y0 := vv.c0
                  have y1 := vv.c1
                  have y2 := vv.c2
                  have y3 := vv.c3
                  have y4 := vv.c4
                  have y5 := vv.c5
                  have y6 := vv.c6
                  have y7 := vv.c7
                  have y8 := vv.c8
                  go_simp
                  exact ⟨Grown.refl _, rfl⟩
                · intro w' hg _
                  refine Or.inl ⟨rfl, ?_⟩
                  go_simp
                  refine (now_any (m1.drew.below hg) _ _ _ _ _ _ _ _ (σ1 + 1) HST.out).mono ?_
                  rintro e w'' ⟨rfl, b9⟩
                  exact ⟨_, rfl, b9, rfl⟩
                · intro w' hg _
                  refine Or.inl ⟨rfl, ?_⟩
                  go_simp
                  exact ⟨Grown.refl _, rfl⟩
                · intro w' hg _
                  refine Or.inl ⟨rfl, ?_⟩
                  go_simp
                  first
                    | exact ⟨Grown.refl _, rfl⟩
                    | exact ⟨Grown.refl _, congrArg Value.bool (decide_eq_true (by omega))⟩
                · intro w' hg _
                  refine Or.inl ⟨rfl, ?_⟩
                  go_simp
                  exact ⟨Grown.refl _, rfl⟩
                · intro w' hg _
                  refine Or.inl ⟨rfl, ?_⟩
                  go_simp
                  exact ⟨Grown.refl _, rfl⟩
                · intro w' hg _
                  refine Or.inl ⟨rfl, ?_⟩
                  go_simp
                  exact ⟨Grown.refl _, congrArg Value.bool HK9.out⟩
                · intro w' hg _
                  refine Or.inl ⟨rfl, ?_⟩
                  go_simp
                  exact ⟨Grown.refl _, rfl⟩
                · intro w' hg _
                  refine Or.inl ⟨rfl, ?_⟩
                  go_simp
                  exact ⟨Grown.refl _, rfl⟩
                · intro w' hg _
                  exact Or.inr ⟨rfl, rfl⟩
                · intro w' hg _
                  exact Or.inr ⟨rfl, rfl⟩
                · intro w' hg _
                  exact Or.inr ⟨rfl, rfl⟩
                · intro w' hg _
                  exact Or.inr ⟨rfl, rfl⟩
                · intro w' hg _
                  refine Or.inl ⟨rfl, ?_⟩
                  go_simp
                  exact ⟨Grown.refl _, rfl⟩
                · intro w' hg _
                  refine Or.inl ⟨rfl, ?_⟩
                  go_simp
                  exact ⟨Grown.refl _, rfl⟩
                · intro w' hg _
                  exact Or.inr ⟨rfl, rfl⟩
                · intro w' hg _
                  exact Or.inr ⟨rfl, rfl⟩
                · intro w' hg _
                  exact Or.inr ⟨rfl, rfl⟩
                · intro w' hg _
                  exact Or.inr ⟨rfl, rfl⟩
                · intro w' hg _
                  exact Or.inr ⟨rfl, rfl⟩
                · intro w' hg _
                  exact Or.inr ⟨rfl, rfl⟩
                · intro w' hg _
                  exact Or.inr ⟨rfl, rfl⟩
                · intro w' hg _
                  exact Or.inr ⟨rfl, rfl⟩
                · intro w' hg _
                  exact Or.inr ⟨rfl, rfl⟩
                · intro w' hg _
                  exact Or.inr ⟨rfl, rfl⟩
                · intro w' hg _
                  exact Or.inr ⟨rfl, rfl⟩
                · intro w' hg _
                  exact Or.inr ⟨rfl, rfl⟩
                · intro w' hg _
                  exact Or.inr ⟨rfl, rfl⟩
                · intro w' hg _
                  exact Or.inr ⟨rfl, rfl⟩
                · intro w' hg _
                  exact Or.inr ⟨rfl, rfl⟩
                · intro w' hg _
                  exact Or.inr ⟨rfl, rfl⟩
                · intro w' hg _
                  exact Or.inr ⟨rfl, rfl⟩
                · intro w' hg _
                  exact Or.inr ⟨rfl, rfl⟩
                · intro w' hg _
                  exact Or.inr ⟨rfl, rfl⟩
                · intro w' hg _
                  exact Or.inr ⟨rfl, rfl⟩
                · intro w' hg _
                  exact Or.inr ⟨rfl, rfl⟩
                · intro w' hg _
                  exact Or.inr ⟨rfl, rfl⟩
                · intro w' hg _
                  refine Or.inl ⟨rfl, ?_⟩
                  go_simp
                  exact ⟨Grown.refl _, rfl⟩
                · intro w' hg _
                  refine Or.inl ⟨rfl, ?_⟩
                  go_simp
                  exact ⟨Grown.refl _, rfl⟩
                intro w4 hg _
                have m4 := m1.drew.below hg
                have v4 := (v1.grown ((Below.refl _ _).drew)).grown hg
                have b4 : Below w.heap.size w w4 := grow b1.drew hg
                have x4 := HDX.out _ _ (HDX.out _ _ x1 ((Below.refl _ _).drew)) hg
                clear m1 v1 b1 x1 hg
                go_wp2
                go_roundw
                case rel =>
                  have tw := HTW.out
                  rw [hend] at tw
                  obtain ⟨gen2, ls2, hgen, tm⟩ := TAME.out
                  exact ⟨r + 1, s2, σ1 + 1, qE, nx', gen2, ls2, by go_num, by omega, by omega, ⟨m4, tw, tm, v4, b4⟩, hgen⟩
                case measure => simp [intOf]; omega
      · have hr12'' : ¬ (r : Int) < 12 := by omega
        have B9 := c.b
        clear c
        go_wp2
        go_ret
        exact ⟨rfl, B9⟩
    · have hrN' : ¬ (r : Int) < (N : Int) := by omega
      have B9 := c.b
      clear c
      go_wp2
      go_ret
      exact ⟨rfl, B9⟩

end Go.Proofs.YtbmiieaakbcncabGreat
