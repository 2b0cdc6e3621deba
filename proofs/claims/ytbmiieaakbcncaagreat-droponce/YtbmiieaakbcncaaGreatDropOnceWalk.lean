/- DropOnce answers true for all numbers and all picks, and leaves what was in memory. -/
import Derived.Test.YtbmiieaakbcncaaGreatDropBand
import Derived.Test.YtbmiieaakbcncaaGreatArgs
namespace Go.Proofs.YtbmiieaakbcncaaGreat
open Go.RowKit

theorem four9 (a : Value) (i : Nat) (hi : i < 4) : (#[a, a, a, a] : Array Value)[i]? = some a := by
  have : i = 0 ∨ i = 1 ∨ i = 2 ∨ i = 3 := by omega
  rcases this with rfl | rfl | rfl | rfl <;> rfl

section
variable {w0 w : World} {L : Loc} {bE σ : Nat} {s : Mm}

def oxB : Ox := ⟨0, 1, base 4 4 2 20 0, 0, 0, 2, 0, false⟩
def qB : Q := (Q.new 4).made 0 [1, 2, 3] y1 (base 4 4 2 20 0) 0 0 2 false

theorem once_make (f : Farm w0 w L bE 4 4 2 20 100 s σ (Q.new 4) 0 (fun _ => 1) []) (a : FarmApart w0 L bE 4 4 2 20 100) (hσ : σ + 400 < 1000000) :
    Calls Tryz.prog 11 #[.agg #[.int .i64 4, .int .i64 4, .int .i64 2, .int .i64 20, .int .i64 100, .int .i64 600, .int .i64 3, .pointer (some ⟨L.p, 0, none⟩), .int .i64 0], .int .i64 2, .bool false] w fun e w' => ∃ (st : Nat) (s' : Mm) (σ' : Nat), e = .returned (.agg #[.int .i64 0, .int .u64 65536, .int .i64 0, .int .i64 st]) ∧ σ' ≤ σ + 100 ∧ Farm w0 w' L bE 4 4 2 20 100 s' σ' qB 1 (fun _ => 1) ([] ++ oxB :: []) := by
  have g : Got 2 20 0 (base 4 4 2 20) (Q.new 4).y 0 y1 (0 + 1) (.won (base 4 4 2 20 0) 0) := .new (fun i h => by simp [Q.new, Y.new] at h) (by decide)
  have k := f.ok (own := false) a (Z := 2) (κ := 0) (by decide) (by decide) rfl (by decide) (x := 0) (F := [1, 2, 3]) rfl g hσ
  rw [show packH ((0 : Nat) : Int) (((fun _ => 1) 0 : Nat) : Int) = 65536 from packH01] at k
  refine k.mono ?_
  rintro e w' ⟨st, s', σ', rfl, -, -, h3, f', o'⟩
  exact ⟨st, s', σ', rfl, h3, f'⟩
end

set_option maxRecDepth 20000 in
set_option maxHeartbeats 4000000 in
theorem dropOnce_any (many : Int) (ao : Option Addr) (M cap : Nat) (z : Nat → Int) (w : World) (hr : IntsAt .i64 w ao M z) :
    Calls Tryz.prog 4 #[.int .i64 many, .slice ao M cap] w fun e w' => e = .returned (.bool true) ∧ Below w.heap.size w w' := by
  have HR : Hid (IntsAt .i64 w ao M z) := hr
  clear hr
  obtain ⟨N, hN, h1, hN4⟩ := lowAt many 3 2 1 (by decide) (by decide)
  have hN' : (1 : Int) + bits .and .i64 many 3 = (N : Int) := hN
  have h4 : N ≤ 4 := by have : ((N : Nat) : Int) ≤ ((1 : Nat) : Int) + 3 := hN4; omega
  clear hN hN4
  have AR := fun w => arena08 goodB (by omega) w
  have f1 : ∀ (a1 a2 a3 a4 : Value) (w : World), (Instr.field 39 (.agg #[a1, a2, a3, a4]) 1).run Tryz.prog w = .ok a2 w := fun a1 a2 a3 a4 w => by kernel_rfl
  have f0 : ∀ (a1 a2 a3 a4 : Value) (w : World), (Instr.field 39 (.agg #[a1, a2, a3, a4]) 0).run Tryz.prog w = .ok a1 w := fun a1 a2 a3 a4 w => by kernel_rfl
  go_enter Tryz.func4, Tryz.ntmps4
  go_wp2_with (first
    | (go_at_call 9; refine (AR _).mono ?_; rintro e w1 ⟨L, s, rfl, m1, t1, b1, l1⟩; obtain ⟨c1, pa⟩ := Farm.first goodB m1 t1 b1 l1)
    | (go_at_call 10; refine (awake09_any _).mono ?_; rintro e w2 ⟨rfl, b2⟩; have c2 := c1.grown b2; have z0 := c2.v.c0; have z1 := c2.v.c1; have z2 := c2.v.c2; have z3 := c2.v.c3; have z4 := c2.v.c4; have z5 := c2.v.c5; have z6 := c2.v.c6; have z7 := c2.v.c7; have z8 := c2.v.c8)
    | (go_at_call 11; refine (once_make c2 pa (by decide)).mono ?_; rintro e w3 ⟨st3, s3, σ3, rfl, h3, c3⟩))
  obtain ⟨E, hE⟩ : ∃ E, w1.heap.size = E := ⟨_, rfl⟩
  rw [hE] at c3 pa ⊢
  have GG0 : Hid (∀ N, Gang 4 4 2 20 100 0 1 (base 4 4 2 20 0) 2 0 (qB.sw 0) false qB .live N (fun _ => .see)) := fun N => c3.tm.gang goodB (by decide)
  obtain ⟨vL, hvL⟩ : ∃ vL, qB.sw 0 = vL := ⟨_, rfl⟩
  obtain ⟨A, hA⟩ : ∃ A, base 4 4 2 20 0 = A := ⟨_, rfl⟩
  rw [hvL, hA] at GG0
  have hσ3 : σ3 ≤ 200 := by omega
  have PA : Hid (FarmApart w L E 4 4 2 20 100) := pa
  have C3 : Hid (Farm w w3 L E 4 4 2 20 100 s3 σ3 qB 1 (fun _ => 1) ([] ++ oxB :: [])) := c3
  clear c1 c2 b2 z0 z1 z2 z3 z4 z5 z6 z7 z8 m1 t1 b1 l1 AR hE c3 pa hvL hA h3 hN'
  have ltE := C3.out.ltE
  have ltL : ∀ a, L.has a → a < w3.heap.size := fun a h => C3.out.mm.lt a h
  have rA : ((w3.alloc (.cells #[.pointer none, .pointer none, .pointer none, .pointer none] 57)).alloc (.cells #[.bool false, .bool false, .bool false, .bool false] 58)).rowIs w3.heap.size 57 4 (fun a => .pointer (if a < 0 then some ⟨(fun _ => 0) a, 0, none⟩ else none)) := by
    refine ⟨#[.pointer none, .pointer none, .pointer none, .pointer none], ?_, rfl, fun i hi => four9 _ i hi⟩
    rw [Go.Deep.blk_alloc_lt _ _ _ (by rw [Go.Deep.nblk_alloc]; omega)]
    exact Go.Deep.blk_alloc_new _ _
  have rD : ((w3.alloc (.cells #[.pointer none, .pointer none, .pointer none, .pointer none] 57)).alloc (.cells #[.bool false, .bool false, .bool false, .bool false] 58)).rowIs (w3.heap.size + 1) 58 4 (fun a => .bool ((fun _ => false) a)) := by
    refine ⟨#[.bool false, .bool false, .bool false, .bool false], ?_, rfl, fun i hi => four9 _ i hi⟩
    have := Go.Deep.blk_alloc_new (w3.alloc (.cells #[.pointer none, .pointer none, .pointer none, .pointer none] 57)) (.cells #[.bool false, .bool false, .bool false, .bool false] 58)
    rwa [Go.Deep.nblk_alloc] at this
  have g4 : Below w3.heap.size w3 ((w3.alloc (.cells #[.pointer none, .pointer none, .pointer none, .pointer none] 57)).alloc (.cells #[.bool false, .bool false, .bool false, .bool false] 58)) := grow_alloc (grow1 _ _) _
  have B0 : Band w ((w3.alloc (.cells #[.pointer none, .pointer none, .pointer none, .pointer none] 57)).alloc (.cells #[.bool false, .bool false, .bool false, .bool false] 58)) L E w3.heap.size (w3.heap.size + 1) s3 σ3 qB 0 (fun _ => 0) (fun _ => .see) (fun _ => false) := ⟨C3.out.mm.below g4, C3.out.tw, C3.out.v.grown g4, grow C3.out.b g4, rA, rD, fun a ha => by omega⟩
  have A0 : BandApart w L E w3.heap.size (w3.heap.size + 1) 0 (fun _ => 0) := ⟨PA.out.l0, PA.out.e, fun h => by have := ltL _ h; omega, fun h => by have := ltL _ h; omega, by omega, by omega, by omega, C3.out.b.size, by have := C3.out.b.size; omega, fun a ha => by omega, fun a b ha => by omega⟩
  obtain ⟨Wb, hWb⟩ : ∃ Wb, w3.heap.size = Wb := ⟨_, rfl⟩
  obtain ⟨Db, hDb⟩ : ∃ Db, Wb + 1 = Db := ⟨_, rfl⟩
  rw [hWb, hDb] at B0 A0 ⊢
  have HB0 : Hid (Band w ((w3.alloc (.cells #[.pointer none, .pointer none, .pointer none, .pointer none] 57)).alloc (.cells #[.bool false, .bool false, .bool false, .bool false] 58)) L E Wb Db s3 σ3 qB 0 (fun _ => 0) (fun _ => .see) (fun _ => false)) := B0
  have HA0 : Hid (BandApart w L E Wb Db 0 (fun _ => 0)) := A0
  clear B0 A0 rA rD g4 ltE ltL C3 PA hWb hDb
  go_loopw [12] (fun iv wr => ∃ (a : Nat) (P : Nat → Nat), iv = .int .i64 a ∧ a ≤ N ∧ Band w wr L E Wb Db s3 σ3 qB a P (fun _ => .see) (fun _ => false) ∧ BandApart w L E Wb Db a P) (fun iv _ => N - (intOf iv).toNat)
  case atStart => exact ⟨0, fun _ => 0, rfl, Nat.zero_le _, HB0.out, HA0.out⟩
  case round =>
    clear HB0 HA0
    obtain ⟨a, P, rfl, haN, B, AP⟩ := hrel
    by_cases ha : a < N
    · have ha' : (a : Int) < (N : Int) := by omega
      have ha4 : (a : Int) < 4 := by omega
      have hb0 : (0 : Int) ≤ (a : Int) := by omega
      have hc := (B.grown (grow1 _ (drop0 65536 false))).ar.cell (i := a) (by omega)
      have hf := (B.grown (grow1 _ (drop0 65536 false))).ar.frozen a
      obtain ⟨B', AP'⟩ := B.more AP
      rw [show upd (fun _ => Dp.see) a Dp.see = fun _ => Dp.see from by funext j; unfold upd; split <;> rfl] at B'
      have HB' : Hid (Band w ((wr.alloc (drop0 65536 false)).setCell ⟨Wb, a, none⟩ (.pointer (some ⟨wr.heap.size, 0, none⟩))) L E Wb Db s3 σ3 qB (a + 1) (upd P a wr.heap.size) (fun _ => .see) (fun _ => false)) := B'
      have HAP' : Hid (BandApart w L E Wb Db (a + 1) (upd P a wr.heap.size)) := AP'
      clear B AP B' AP'
      go_wp2_with (go_at_call 22; refine (newDrop_any 65536 false _).mono ?_; rintro e w5 ⟨rfl, rfl⟩)
      go_roundw
      case rel => exact ⟨a + 1, upd P a wr.heap.size, by go_num, by omega, HB'.out, HAP'.out⟩
      case measure => simp [intOf]; omega
    · have ha' : ¬ (a : Int) < (N : Int) := by omega
      obtain rfl : N = a := by omega
      have HB1 : Hid (Band w wr L E Wb Db s3 σ3 qB N P (fun _ => .see) (fun _ => false)) := B
      have APP : Hid (BandApart w L E Wb Db N P) := AP
      clear B AP
      go_wp2
      clear ha ha' haN
      go_loopw [11, 13] (fun wv iv wr => ∃ (r W : Nat) (s' : Mm) (σ : Nat) (q : Q) (ph : Ph) (ps : Nat → Dp) (dn : Nat → Bool), wv = .int .i64 W ∧ iv = .int .i64 r ∧ r ≤ 300 ∧ σ ≤ 200 + r ∧ Band w wr L E Wb Db s' σ q N P ps dn ∧ Gang 4 4 2 20 100 0 1 A 2 0 vL false q ph N ps ∧ (∀ a, a < N → (ps a).over? = true ∨ dmu q A (verOf' vL + 1) 2 vL ph (ps a) + cnt N a r ≤ 14) ∧ Tell N ps W ∧ (∀ a, a < N → dn a = (ps a).over?)) (fun _ iv _ => 300 - (intOf iv).toNat)
      case atStart => exact ⟨0, 0, s3, σ3, qB, .live, fun _ => .see, fun _ => false, rfl, rfl, by omega, by omega, HB1.out, GG0.out N, fun a ha => Or.inr (show 8 + 3 * 2 + 0 ≤ 14 by decide), Or.inl ⟨rfl, fun a ha e => by cases e⟩, fun a ha => rfl⟩
      case round =>
        clear HB1 GG0
        obtain ⟨r, W, s', σ, q, ph, ps, dn, rfl, rfl, hr3, hσ, B, G, mu, TL, hdn⟩ := hrel
        have AP := APP
        have hN0 : ¬ (N : Int) = 0 := by omega
        by_cases hr : r < 300
        · have hr' : (r : Int) < 300 := by omega
          by_cases hrN : r < M
          · have hrN' : (r : Int) < (M : Int) := by omega
            by_cases hr15 : r < 150
            · have hr15' : (r : Int) < 150 := by omega
              obtain ⟨zb, zo, rfl, hz0⟩ := HR.out r hrN
              have hz := keep' B.b hz0
              obtain ⟨K, hK1, hK, hK3, hK5⟩ := pickN (z r) N h1
              have hrem : ((r : Int).tmod N) = ((r % N : Nat) : Int) := remN r N
              have hcnt : ∀ a, a ≠ K → cnt N a (r + 1) = cnt N a r := fun a e => by
                show cnt N a r + (if 150 ≤ r ∧ r % N = a then 1 else 0) = _
                rw [if_neg (fun h => by omega)]; rfl
              have hcntK : cnt N K (r + 1) ≤ cnt N K r + 1 := by
                show cnt N K r + (if 150 ≤ r ∧ r % N = K then 1 else 0) ≤ _
                split <;> omega
              clear hz0
              have HKN : Hid (K < N) := hK
              have hK4 : K < 4 := by omega
              have hK4' : (K : Int) < 4 := by omega
              have hK4n : (K : Int) < ((4 : Nat) : Int) := by omega
              cases hov : (ps K).over? with
              | true =>
                have HDN : Hid (dn K = true) := (hdn K hK).trans hov
                go_wp2
                refine wp_over (fun W' => Band w W' L E Wb Db s' σ q N P ps dn) B ?_
                clear B hz
                intro W' B
                refine wp_region_rely Grown [.val (.int .i64 K), .val (.pointer (some ⟨Db, K, none⟩)), .val (.bool true), .val (.bool true), .val undef, .val undef, .val undef, .val undef, .val undef, .val undef, .val (.bool true)] (by kernel_rfl) Grown.refl Grown.trans (by kernel_rfl) (by kernel_rfl) (by kernel_rfl) ?_
                simp only [relyAll, Act.put, List.setIfInBounds_toArray, List.set_cons_zero, List.set_cons_succ]
                refine ⟨?_, ?_, ?_, ?_, ?_, ?_, ?_, ?_, ?_, ?_, ?_, ?_⟩
                · intro w' hg _
                  refine Or.inl ⟨rfl, ?_⟩
                  go_simp
                  exact ⟨Grown.refl _, rfl⟩
                · intro w' hg _
                  refine Or.inl ⟨rfl, ?_⟩
                  have hb : (0 : Int) ≤ (K : Int) := by omega
                  go_simp
                  exact ⟨Grown.refl _, rfl⟩
                · intro w' hg _
                  refine Or.inl ⟨rfl, ?_⟩
                  have z := (B.drew.grown hg).dr.cell (i := K) (by omega)
                  rw [HDN.out] at z
                  go_simp
                  exact ⟨Grown.refl _, rfl⟩
                · intro w' hg _
                  refine Or.inl ⟨rfl, ?_⟩
                  go_simp
                  exact ⟨Grown.refl _, rfl⟩
                · intro w' hg _
                  exact Or.inr ⟨rfl, rfl⟩
                · intro w' hg _
                  exact Or.inr ⟨rfl, rfl⟩
                · intro w' hg _
                  exact Or.inr ⟨rfl, rfl⟩
                · intro w' hg _
                  exact Or.inr ⟨rfl, rfl⟩
                · intro w' hg _
                  exact Or.inr ⟨rfl, rfl⟩
                · intro w' hg _
                  exact Or.inr ⟨rfl, rfl⟩
                · intro w' hg _
                  refine Or.inl ⟨rfl, ?_⟩
                  go_simp
                  exact ⟨Grown.refl _, rfl⟩
                intro w5 hg _
                have B5 := B.drew.grown hg
                clear B hg
                go_wp2
                go_roundw
                case rel =>
                  refine ⟨r + 1, W, s', σ, q, ph, ps, dn, by go_num, by go_num, by omega, by omega, B5, G, fun a ha => ?_, TL, hdn⟩
                  rcases mu a ha with h | h
                  · exact Or.inl h
                  · by_cases e : a = K
                    · subst e; exact Or.inl hov
                    · refine Or.inr ?_
                      rw [hcnt a e]; exact h
                case measure => simp [intOf]; omega
              | false =>
                have HDN : Hid (dn K = false) := (hdn K hK).trans hov
                obtain ⟨q', α', ht⟩ : ∃ q' α', dpTurn 4 4 2 20 100 false 0 1 q (ps K) = (q', α') := ⟨_, _, rfl⟩
                have hF := B.tw.pile.hdle
                obtain ⟨ph', G', m1, m2⟩ := G.step hK hF (by decide) hov ht
                have gd := G.good hK hF (by decide) hov
                have mu' : ∀ a, a < N → (upd ps K α' a).over? = true ∨ dmu q' A (verOf' vL + 1) 2 vL ph' (upd ps K α' a) + cnt N a (r + 1) ≤ 14 := fun a ha => by
                  by_cases e : a = K
                  · subst e
                    rw [upd_same]
                    rcases mu a ha with h | h
                    · rw [hov] at h; cases h
                    · have := hcntK
                      exact Or.inr (by omega)
                  · rw [upd_other _ _ _ _ e]
                    rcases mu a ha with h | h
                    · exact Or.inl h
                    · have := m2 (ps a)
                      have := hcnt a e
                      exact Or.inr (by omega)
                have hno : ∀ E, ps K ≠ .over E := fun E e => by rw [e] at hov; cases hov
                have ST := fun (w1 : World) (B1 : Band w w1 L E Wb Db s' σ q N P ps dn) (d : Bool) (hd : α'.over? = d) => B1.step AP.out hK (by omega) G.sc.wd gd hov ht hd
                have HG : Hid (Gang 4 4 2 20 100 0 1 A 2 0 vL false q' ph' N (upd ps K α')) := G'
                have HMU : Hid (∀ a, a < N → (upd ps K α' a).over? = true ∨ dmu q' A (verOf' vL + 1) 2 vL ph' (upd ps K α' a) + cnt N a (r + 1) ≤ 14) := mu'
                have HTL : Hid (Tell N ps W) := TL
                have HDD : Hid (∀ a, a < N → dn a = (ps a).over?) := hdn
                clear mu mu' m1 m2 G G' gd TL hdn hF hcnt hcntK ht
                go_wp2
                refine wp_over (fun W' => Band w W' L E Wb Db s' σ q N P ps dn) B ?_
                clear B hz
                intro W' B
                refine wp_region_rely_tail Grown 8 [.val (.int .i64 K), .val (.pointer (some ⟨Db, K, none⟩)), .val (.bool false), .val (.bool false), .val (.int .i64 K), .val (.pointer (some ⟨Wb, K, none⟩)), .val (.pointer (some ⟨P K, 0, none⟩)), .val (.agg #[.int .i64 4, .int .i64 4, .int .i64 2, .int .i64 20, .int .i64 100, .int .i64 600, .int .i64 3, .pointer (some ⟨L.p, 0, none⟩), .int .i64 0])] (by kernel_rfl) Grown.refl Grown.trans (by decide) (by kernel_rfl) (by kernel_rfl) (by kernel_rfl) (by kernel_rfl) (by kernel_rfl) (by kernel_rfl) ?_
                simp only [List.take_succ_cons, List.take_zero, relyAll, Act.put, List.setIfInBounds_toArray, List.set_cons_zero, List.set_cons_succ]
                refine ⟨?_, ?_, ?_, ?_, ?_, ?_, ?_, ?_, ?_⟩
                · intro w' hg _
                  refine Or.inl ⟨rfl, ?_⟩
                  go_simp
                  exact ⟨Grown.refl _, rfl⟩
                · intro w' hg _
                  refine Or.inl ⟨rfl, ?_⟩
                  have hb : (0 : Int) ≤ (K : Int) := by omega
                  go_simp
                  exact ⟨Grown.refl _, rfl⟩
                · intro w' hg _
                  refine Or.inl ⟨rfl, ?_⟩
                  have z := (B.drew.grown hg).dr.cell (i := K) (by omega)
                  rw [HDN.out] at z
                  go_simp
                  exact ⟨Grown.refl _, rfl⟩
                · intro w' hg _
                  refine Or.inl ⟨rfl, ?_⟩
                  go_simp
                  exact ⟨Grown.refl _, rfl⟩
                · intro w' hg _
                  refine Or.inl ⟨rfl, ?_⟩
                  go_simp
                  exact ⟨Grown.refl _, rfl⟩
                · intro w' hg _
                  refine Or.inl ⟨rfl, ?_⟩
                  have hb : (0 : Int) ≤ (K : Int) := by omega
                  go_simp
                  exact ⟨Grown.refl _, rfl⟩
                · intro w' hg _
                  refine Or.inl ⟨rfl, ?_⟩
                  have z := (B.drew.grown hg).ar.cell (i := K) (by omega)
                  simp only [HKN.out, if_true] at z
                  go_simp
                  exact ⟨Grown.refl _, rfl⟩
                · intro w' hg _
                  refine Or.inl ⟨rfl, ?_⟩
                  have vv := (B.drew.grown hg).v
                  have y0 := vv.c0
                  have y1 := vv.c1
                  have y2 := vv.c2
                  have y3 := vv.c3
                  have y4 := vv.c4
                  have y5 := vv.c5
                  have y6 := vv.c6
                  have y7 := vv.c7
                  have y8 := vv.c8
                  go_simp
                  exact ⟨Grown.refl _, rfl⟩
                intro w5 hg _
                have B5 := B.drew.grown hg
                clear B hg
                cases hd : α'.over? with
                | false =>
                  go_wp2_with (go_at_call 23; refine (ST _ B5 false hd).mono ?_; rintro e w6 ⟨rfl, s6, B6⟩)
                  go_roundw
                  case rel =>
                    refine ⟨r + 1, W, s6, σ + 1, q', ph', upd ps K α', dn, by go_num, by go_num, by omega, by omega, B6, HG.out, HMU.out, HTL.out.on hno (fun E e => by rw [e] at hd; cases hd), fun a ha => ?_⟩
                    by_cases e : a = K
                    · subst e; rw [upd_same, hd]; exact HDN.out
                    · rw [upd_other _ _ _ _ e]; exact HDD.out a ha
                  case measure => simp [intOf]; omega
                | true =>
                  obtain ⟨E9, rfl⟩ : ∃ E9, α' = .over E9 := by
                    cases α' with
                    | over E9 => exact ⟨E9, rfl⟩
                    | _ => cases hd
                  have hE9 : E9 = 0 ∨ E9 = 3 := by
                    have T := HG.out.th K HKN.out
                    rw [upd_same] at T
                    exact T.imp (fun h => h.1) (fun h => h.1)
                  have hdd : ∀ a, a < N → upd dn K true a = (upd ps K (.over E9) a).over? := fun a ha => by
                    by_cases e : a = K
                    · subst e; rw [upd_same, upd_same]; rfl
                    · rw [upd_other _ _ _ _ e, upd_other _ _ _ _ e]; exact HDD.out a ha
                  rcases hE9 with rfl | rfl
                  · obtain ⟨hW, TL'⟩ := HTL.out.won HKN.out hno HG.out
                    subst hW
                    go_wp2_with (first
                      | (go_at_call 23; refine (ST _ B5 true hd).mono ?_; rintro e w6 ⟨rfl, s6, B6⟩; have dz := B6.dr.cell (i := K) hK4; have dfz := B6.dr.frozen K; have B7 := B6.setD AP.out K true; have wz := B7.ar.cell (i := K) hK4; simp only [HKN.out, if_true] at wz; obtain ⟨cs8, u8, d8, i8⟩ := B7.at_ K HKN.out; rw [upd_same] at i8; have hnx := i8.nx; have hE := i8.E)
                      | (go_at_call 24; refine (ddone_over d8 hnx).mono ?_; rintro e w9 ⟨rfl, b9⟩; rw [show u8.E = 0 from hE]))
                    go_roundw
                    case rel => exact ⟨r + 1, 1, s6, σ + 1, q', ph', upd ps K (.over 0), upd dn K true, by go_num, by go_num, by omega, by omega, B7.grown b9, HG.out, HMU.out, TL', hdd⟩
                    case measure => simp [intOf]; omega
                  · have TL' := HTL.out.lost hno
                    go_wp2_with (first
                      | (go_at_call 23; refine (ST _ B5 true hd).mono ?_; rintro e w6 ⟨rfl, s6, B6⟩; have dz := B6.dr.cell (i := K) hK4; have dfz := B6.dr.frozen K; have B7 := B6.setD AP.out K true; have wz := B7.ar.cell (i := K) hK4; simp only [HKN.out, if_true] at wz; obtain ⟨cs8, u8, d8, i8⟩ := B7.at_ K HKN.out; rw [upd_same] at i8; have hnx := i8.nx; have hE := i8.E)
                      | (go_at_call 24; refine (ddone_over d8 hnx).mono ?_; rintro e w9 ⟨rfl, b9⟩; rw [show u8.E = 3 from hE]))
                    go_roundw
                    case rel => exact ⟨r + 1, W, s6, σ + 1, q', ph', upd ps K (.over 3), upd dn K true, by go_num, by go_num, by omega, by omega, B7.grown b9, HG.out, HMU.out, TL', hdd⟩
                    case measure => simp [intOf]; omega
            · have hr15' : ¬ (r : Int) < 150 := by omega
              obtain ⟨K, hKr⟩ : ∃ K, r % N = K := ⟨_, rfl⟩
              have hK : K < N := by rw [← hKr]; exact Nat.mod_lt _ (by omega)
              have hrem : ((r : Int).tmod N) = (K : Int) := by rw [remN, hKr]
              have hcnt : ∀ a, a ≠ K → cnt N a (r + 1) = cnt N a r := fun a e => by
                show cnt N a r + (if 150 ≤ r ∧ r % N = a then 1 else 0) = _
                rw [if_neg (fun h => e (h.2.symm.trans hKr))]; rfl
              have hcntK : cnt N K (r + 1) ≤ cnt N K r + 1 := by
                show cnt N K r + (if 150 ≤ r ∧ r % N = K then 1 else 0) ≤ _
                split <;> omega
              have hKr' := hKr
              clear hKr
              have HKN : Hid (K < N) := hK
              have hK4 : K < 4 := by omega
              have hK4' : (K : Int) < 4 := by omega
              have hK4n : (K : Int) < ((4 : Nat) : Int) := by omega
              cases hov : (ps K).over? with
              | true =>
                have HDN : Hid (dn K = true) := (hdn K hK).trans hov
                go_wp2
                refine wp_over (fun W' => Band w W' L E Wb Db s' σ q N P ps dn) B ?_
                clear B
                intro W' B
                refine wp_region_rely Grown [.val (.int .i64 K), .val (.pointer (some ⟨Db, K, none⟩)), .val (.bool true), .val (.bool true), .val undef, .val undef, .val undef, .val undef, .val undef, .val undef, .val (.bool true)] (by kernel_rfl) Grown.refl Grown.trans (by kernel_rfl) (by kernel_rfl) (by kernel_rfl) ?_
                simp only [relyAll, Act.put, List.setIfInBounds_toArray, List.set_cons_zero, List.set_cons_succ]
                refine ⟨?_, ?_, ?_, ?_, ?_, ?_, ?_, ?_, ?_, ?_, ?_, ?_⟩
                · intro w' hg _
                  refine Or.inl ⟨rfl, ?_⟩
                  go_simp
                  exact ⟨Grown.refl _, rfl⟩
                · intro w' hg _
                  refine Or.inl ⟨rfl, ?_⟩
                  have hb : (0 : Int) ≤ (K : Int) := by omega
                  go_simp
                  exact ⟨Grown.refl _, rfl⟩
                · intro w' hg _
                  refine Or.inl ⟨rfl, ?_⟩
                  have z := (B.drew.grown hg).dr.cell (i := K) (by omega)
                  rw [HDN.out] at z
                  go_simp
                  exact ⟨Grown.refl _, rfl⟩
                · intro w' hg _
                  refine Or.inl ⟨rfl, ?_⟩
                  go_simp
                  exact ⟨Grown.refl _, rfl⟩
                · intro w' hg _
                  exact Or.inr ⟨rfl, rfl⟩
                · intro w' hg _
                  exact Or.inr ⟨rfl, rfl⟩
                · intro w' hg _
                  exact Or.inr ⟨rfl, rfl⟩
                · intro w' hg _
                  exact Or.inr ⟨rfl, rfl⟩
                · intro w' hg _
                  exact Or.inr ⟨rfl, rfl⟩
                · intro w' hg _
                  exact Or.inr ⟨rfl, rfl⟩
                · intro w' hg _
                  refine Or.inl ⟨rfl, ?_⟩
                  go_simp
                  exact ⟨Grown.refl _, rfl⟩
                intro w5 hg _
                have B5 := B.drew.grown hg
                clear B hg
                go_wp2
                go_roundw
                case rel =>
                  refine ⟨r + 1, W, s', σ, q, ph, ps, dn, by go_num, by go_num, by omega, by omega, B5, G, fun a ha => ?_, TL, hdn⟩
                  rcases mu a ha with h | h
                  · exact Or.inl h
                  · by_cases e : a = K
                    · subst e; exact Or.inl hov
                    · refine Or.inr ?_
                      rw [hcnt a e]; exact h
                case measure => simp [intOf]; omega
              | false =>
                have HDN : Hid (dn K = false) := (hdn K hK).trans hov
                obtain ⟨q', α', ht⟩ : ∃ q' α', dpTurn 4 4 2 20 100 false 0 1 q (ps K) = (q', α') := ⟨_, _, rfl⟩
                have hF := B.tw.pile.hdle
                obtain ⟨ph', G', m1, m2⟩ := G.step hK hF (by decide) hov ht
                have gd := G.good hK hF (by decide) hov
                have mu' : ∀ a, a < N → (upd ps K α' a).over? = true ∨ dmu q' A (verOf' vL + 1) 2 vL ph' (upd ps K α' a) + cnt N a (r + 1) ≤ 14 := fun a ha => by
                  by_cases e : a = K
                  · subst e
                    rw [upd_same]
                    rcases mu a ha with h | h
                    · rw [hov] at h; cases h
                    · have := hcntK
                      exact Or.inr (by omega)
                  · rw [upd_other _ _ _ _ e]
                    rcases mu a ha with h | h
                    · exact Or.inl h
                    · have := m2 (ps a)
                      have := hcnt a e
                      exact Or.inr (by omega)
                have hno : ∀ E, ps K ≠ .over E := fun E e => by rw [e] at hov; cases hov
                have ST := fun (w1 : World) (B1 : Band w w1 L E Wb Db s' σ q N P ps dn) (d : Bool) (hd : α'.over? = d) => B1.step AP.out hK (by omega) G.sc.wd gd hov ht hd
                have HG : Hid (Gang 4 4 2 20 100 0 1 A 2 0 vL false q' ph' N (upd ps K α')) := G'
                have HMU : Hid (∀ a, a < N → (upd ps K α' a).over? = true ∨ dmu q' A (verOf' vL + 1) 2 vL ph' (upd ps K α' a) + cnt N a (r + 1) ≤ 14) := mu'
                have HTL : Hid (Tell N ps W) := TL
                have HDD : Hid (∀ a, a < N → dn a = (ps a).over?) := hdn
                clear mu mu' m1 m2 G G' gd TL hdn hF hcnt hcntK ht
                go_wp2
                refine wp_over (fun W' => Band w W' L E Wb Db s' σ q N P ps dn) B ?_
                clear B
                intro W' B
                refine wp_region_rely_tail Grown 8 [.val (.int .i64 K), .val (.pointer (some ⟨Db, K, none⟩)), .val (.bool false), .val (.bool false), .val (.int .i64 K), .val (.pointer (some ⟨Wb, K, none⟩)), .val (.pointer (some ⟨P K, 0, none⟩)), .val (.agg #[.int .i64 4, .int .i64 4, .int .i64 2, .int .i64 20, .int .i64 100, .int .i64 600, .int .i64 3, .pointer (some ⟨L.p, 0, none⟩), .int .i64 0])] (by kernel_rfl) Grown.refl Grown.trans (by decide) (by kernel_rfl) (by kernel_rfl) (by kernel_rfl) (by kernel_rfl) (by kernel_rfl) (by kernel_rfl) ?_
                simp only [List.take_succ_cons, List.take_zero, relyAll, Act.put, List.setIfInBounds_toArray, List.set_cons_zero, List.set_cons_succ]
                refine ⟨?_, ?_, ?_, ?_, ?_, ?_, ?_, ?_, ?_⟩
                · intro w' hg _
                  refine Or.inl ⟨rfl, ?_⟩
                  go_simp
                  exact ⟨Grown.refl _, rfl⟩
                · intro w' hg _
                  refine Or.inl ⟨rfl, ?_⟩
                  have hb : (0 : Int) ≤ (K : Int) := by omega
                  go_simp
                  exact ⟨Grown.refl _, rfl⟩
                · intro w' hg _
                  refine Or.inl ⟨rfl, ?_⟩
                  have z := (B.drew.grown hg).dr.cell (i := K) (by omega)
                  rw [HDN.out] at z
                  go_simp
                  exact ⟨Grown.refl _, rfl⟩
                · intro w' hg _
                  refine Or.inl ⟨rfl, ?_⟩
                  go_simp
                  exact ⟨Grown.refl _, rfl⟩
                · intro w' hg _
                  refine Or.inl ⟨rfl, ?_⟩
                  go_simp
                  exact ⟨Grown.refl _, rfl⟩
                · intro w' hg _
                  refine Or.inl ⟨rfl, ?_⟩
                  have hb : (0 : Int) ≤ (K : Int) := by omega
                  go_simp
                  exact ⟨Grown.refl _, rfl⟩
                · intro w' hg _
                  refine Or.inl ⟨rfl, ?_⟩
                  have z := (B.drew.grown hg).ar.cell (i := K) (by omega)
                  simp only [HKN.out, if_true] at z
                  go_simp
                  exact ⟨Grown.refl _, rfl⟩
                · intro w' hg _
                  refine Or.inl ⟨rfl, ?_⟩
                  have vv := (B.drew.grown hg).v
                  have y0 := vv.c0
                  have y1 := vv.c1
                  have y2 := vv.c2
                  have y3 := vv.c3
                  have y4 := vv.c4
                  have y5 := vv.c5
                  have y6 := vv.c6
                  have y7 := vv.c7
                  have y8 := vv.c8
                  go_simp
                  exact ⟨Grown.refl _, rfl⟩
                intro w5 hg _
                have B5 := B.drew.grown hg
                clear B hg
                cases hd : α'.over? with
                | false =>
                  go_wp2_with (go_at_call 23; refine (ST _ B5 false hd).mono ?_; rintro e w6 ⟨rfl, s6, B6⟩)
                  go_roundw
                  case rel =>
                    refine ⟨r + 1, W, s6, σ + 1, q', ph', upd ps K α', dn, by go_num, by go_num, by omega, by omega, B6, HG.out, HMU.out, HTL.out.on hno (fun E e => by rw [e] at hd; cases hd), fun a ha => ?_⟩
                    by_cases e : a = K
                    · subst e; rw [upd_same, hd]; exact HDN.out
                    · rw [upd_other _ _ _ _ e]; exact HDD.out a ha
                  case measure => simp [intOf]; omega
                | true =>
                  obtain ⟨E9, rfl⟩ : ∃ E9, α' = .over E9 := by
                    cases α' with
                    | over E9 => exact ⟨E9, rfl⟩
                    | _ => cases hd
                  have hE9 : E9 = 0 ∨ E9 = 3 := by
                    have T := HG.out.th K HKN.out
                    rw [upd_same] at T
                    exact T.imp (fun h => h.1) (fun h => h.1)
                  have hdd : ∀ a, a < N → upd dn K true a = (upd ps K (.over E9) a).over? := fun a ha => by
                    by_cases e : a = K
                    · subst e; rw [upd_same, upd_same]; rfl
                    · rw [upd_other _ _ _ _ e, upd_other _ _ _ _ e]; exact HDD.out a ha
                  rcases hE9 with rfl | rfl
                  · obtain ⟨hW, TL'⟩ := HTL.out.won HKN.out hno HG.out
                    subst hW
                    go_wp2_with (first
                      | (go_at_call 23; refine (ST _ B5 true hd).mono ?_; rintro e w6 ⟨rfl, s6, B6⟩; have dz := B6.dr.cell (i := K) hK4; have dfz := B6.dr.frozen K; have B7 := B6.setD AP.out K true; have wz := B7.ar.cell (i := K) hK4; simp only [HKN.out, if_true] at wz; obtain ⟨cs8, u8, d8, i8⟩ := B7.at_ K HKN.out; rw [upd_same] at i8; have hnx := i8.nx; have hE := i8.E)
                      | (go_at_call 24; refine (ddone_over d8 hnx).mono ?_; rintro e w9 ⟨rfl, b9⟩; rw [show u8.E = 0 from hE]))
                    go_roundw
                    case rel => exact ⟨r + 1, 1, s6, σ + 1, q', ph', upd ps K (.over 0), upd dn K true, by go_num, by go_num, by omega, by omega, B7.grown b9, HG.out, HMU.out, TL', hdd⟩
                    case measure => simp [intOf]; omega
                  · have TL' := HTL.out.lost hno
                    go_wp2_with (first
                      | (go_at_call 23; refine (ST _ B5 true hd).mono ?_; rintro e w6 ⟨rfl, s6, B6⟩; have dz := B6.dr.cell (i := K) hK4; have dfz := B6.dr.frozen K; have B7 := B6.setD AP.out K true; have wz := B7.ar.cell (i := K) hK4; simp only [HKN.out, if_true] at wz; obtain ⟨cs8, u8, d8, i8⟩ := B7.at_ K HKN.out; rw [upd_same] at i8; have hnx := i8.nx; have hE := i8.E)
                      | (go_at_call 24; refine (ddone_over d8 hnx).mono ?_; rintro e w9 ⟨rfl, b9⟩; rw [show u8.E = 3 from hE]))
                    go_roundw
                    case rel => exact ⟨r + 1, W, s6, σ + 1, q', ph', upd ps K (.over 3), upd dn K true, by go_num, by go_num, by omega, by omega, B7.grown b9, HG.out, HMU.out, TL', hdd⟩
                    case measure => simp [intOf]; omega
          · have hrN' : ¬ (r : Int) < (M : Int) := by omega
            obtain ⟨K, hKr⟩ : ∃ K, r % N = K := ⟨_, rfl⟩
            have hK : K < N := by rw [← hKr]; exact Nat.mod_lt _ (by omega)
            have hrem : ((r : Int).tmod N) = (K : Int) := by rw [remN, hKr]
            have hcnt : ∀ a, a ≠ K → cnt N a (r + 1) = cnt N a r := fun a e => by
              show cnt N a r + (if 150 ≤ r ∧ r % N = a then 1 else 0) = _
              rw [if_neg (fun h => e (h.2.symm.trans hKr))]; rfl
            have hcntK : cnt N K (r + 1) ≤ cnt N K r + 1 := by
              show cnt N K r + (if 150 ≤ r ∧ r % N = K then 1 else 0) ≤ _
              split <;> omega
            have hKr' := hKr
            clear hKr
            have HKN : Hid (K < N) := hK
            have hK4 : K < 4 := by omega
            have hK4' : (K : Int) < 4 := by omega
            have hK4n : (K : Int) < ((4 : Nat) : Int) := by omega
            cases hov : (ps K).over? with
            | true =>
              have HDN : Hid (dn K = true) := (hdn K hK).trans hov
              go_wp2
              refine wp_over (fun W' => Band w W' L E Wb Db s' σ q N P ps dn) B ?_
              clear B
              intro W' B
              refine wp_region_rely Grown [.val (.int .i64 K), .val (.pointer (some ⟨Db, K, none⟩)), .val (.bool true), .val (.bool true), .val undef, .val undef, .val undef, .val undef, .val undef, .val undef, .val (.bool true)] (by kernel_rfl) Grown.refl Grown.trans (by kernel_rfl) (by kernel_rfl) (by kernel_rfl) ?_
              simp only [relyAll, Act.put, List.setIfInBounds_toArray, List.set_cons_zero, List.set_cons_succ]
              refine ⟨?_, ?_, ?_, ?_, ?_, ?_, ?_, ?_, ?_, ?_, ?_, ?_⟩
              · intro w' hg _
                refine Or.inl ⟨rfl, ?_⟩
                go_simp
                exact ⟨Grown.refl _, rfl⟩
              · intro w' hg _
                refine Or.inl ⟨rfl, ?_⟩
                have hb : (0 : Int) ≤ (K : Int) := by omega
                go_simp
                exact ⟨Grown.refl _, rfl⟩
              · intro w' hg _
                refine Or.inl ⟨rfl, ?_⟩
                have z := (B.drew.grown hg).dr.cell (i := K) (by omega)
                rw [HDN.out] at z
                go_simp
                exact ⟨Grown.refl _, rfl⟩
              · intro w' hg _
                refine Or.inl ⟨rfl, ?_⟩
                go_simp
                exact ⟨Grown.refl _, rfl⟩
              · intro w' hg _
                exact Or.inr ⟨rfl, rfl⟩
              · intro w' hg _
                exact Or.inr ⟨rfl, rfl⟩
              · intro w' hg _
                exact Or.inr ⟨rfl, rfl⟩
              · intro w' hg _
                exact Or.inr ⟨rfl, rfl⟩
              · intro w' hg _
                exact Or.inr ⟨rfl, rfl⟩
              · intro w' hg _
                exact Or.inr ⟨rfl, rfl⟩
              · intro w' hg _
                refine Or.inl ⟨rfl, ?_⟩
                go_simp
                exact ⟨Grown.refl _, rfl⟩
              intro w5 hg _
              have B5 := B.drew.grown hg
              clear B hg
              go_wp2
              go_roundw
              case rel =>
                refine ⟨r + 1, W, s', σ, q, ph, ps, dn, by go_num, by go_num, by omega, by omega, B5, G, fun a ha => ?_, TL, hdn⟩
                rcases mu a ha with h | h
                · exact Or.inl h
                · by_cases e : a = K
                  · subst e; exact Or.inl hov
                  · refine Or.inr ?_
                    rw [hcnt a e]; exact h
              case measure => simp [intOf]; omega
            | false =>
              have HDN : Hid (dn K = false) := (hdn K hK).trans hov
              obtain ⟨q', α', ht⟩ : ∃ q' α', dpTurn 4 4 2 20 100 false 0 1 q (ps K) = (q', α') := ⟨_, _, rfl⟩
              have hF := B.tw.pile.hdle
              obtain ⟨ph', G', m1, m2⟩ := G.step hK hF (by decide) hov ht
              have gd := G.good hK hF (by decide) hov
              have mu' : ∀ a, a < N → (upd ps K α' a).over? = true ∨ dmu q' A (verOf' vL + 1) 2 vL ph' (upd ps K α' a) + cnt N a (r + 1) ≤ 14 := fun a ha => by
                by_cases e : a = K
                · subst e
                  rw [upd_same]
                  rcases mu a ha with h | h
                  · rw [hov] at h; cases h
                  · have := hcntK
                    exact Or.inr (by omega)
                · rw [upd_other _ _ _ _ e]
                  rcases mu a ha with h | h
                  · exact Or.inl h
                  · have := m2 (ps a)
                    have := hcnt a e
                    exact Or.inr (by omega)
              have hno : ∀ E, ps K ≠ .over E := fun E e => by rw [e] at hov; cases hov
              have ST := fun (w1 : World) (B1 : Band w w1 L E Wb Db s' σ q N P ps dn) (d : Bool) (hd : α'.over? = d) => B1.step AP.out hK (by omega) G.sc.wd gd hov ht hd
              have HG : Hid (Gang 4 4 2 20 100 0 1 A 2 0 vL false q' ph' N (upd ps K α')) := G'
              have HMU : Hid (∀ a, a < N → (upd ps K α' a).over? = true ∨ dmu q' A (verOf' vL + 1) 2 vL ph' (upd ps K α' a) + cnt N a (r + 1) ≤ 14) := mu'
              have HTL : Hid (Tell N ps W) := TL
              have HDD : Hid (∀ a, a < N → dn a = (ps a).over?) := hdn
              clear mu mu' m1 m2 G G' gd TL hdn hF hcnt hcntK ht
              go_wp2
              refine wp_over (fun W' => Band w W' L E Wb Db s' σ q N P ps dn) B ?_
              clear B
              intro W' B
              refine wp_region_rely_tail Grown 8 [.val (.int .i64 K), .val (.pointer (some ⟨Db, K, none⟩)), .val (.bool false), .val (.bool false), .val (.int .i64 K), .val (.pointer (some ⟨Wb, K, none⟩)), .val (.pointer (some ⟨P K, 0, none⟩)), .val (.agg #[.int .i64 4, .int .i64 4, .int .i64 2, .int .i64 20, .int .i64 100, .int .i64 600, .int .i64 3, .pointer (some ⟨L.p, 0, none⟩), .int .i64 0])] (by kernel_rfl) Grown.refl Grown.trans (by decide) (by kernel_rfl) (by kernel_rfl) (by kernel_rfl) (by kernel_rfl) (by kernel_rfl) (by kernel_rfl) ?_
              simp only [List.take_succ_cons, List.take_zero, relyAll, Act.put, List.setIfInBounds_toArray, List.set_cons_zero, List.set_cons_succ]
              refine ⟨?_, ?_, ?_, ?_, ?_, ?_, ?_, ?_, ?_⟩
              · intro w' hg _
                refine Or.inl ⟨rfl, ?_⟩
                go_simp
                exact ⟨Grown.refl _, rfl⟩
              · intro w' hg _
                refine Or.inl ⟨rfl, ?_⟩
                have hb : (0 : Int) ≤ (K : Int) := by omega
                go_simp
                exact ⟨Grown.refl _, rfl⟩
              · intro w' hg _
                refine Or.inl ⟨rfl, ?_⟩
                have z := (B.drew.grown hg).dr.cell (i := K) (by omega)
                rw [HDN.out] at z
                go_simp
                exact ⟨Grown.refl _, rfl⟩
              · intro w' hg _
                refine Or.inl ⟨rfl, ?_⟩
                go_simp
                exact ⟨Grown.refl _, rfl⟩
              · intro w' hg _
                refine Or.inl ⟨rfl, ?_⟩
                go_simp
                exact ⟨Grown.refl _, rfl⟩
              · intro w' hg _
                refine Or.inl ⟨rfl, ?_⟩
                have hb : (0 : Int) ≤ (K : Int) := by omega
                go_simp
                exact ⟨Grown.refl _, rfl⟩
              · intro w' hg _
                refine Or.inl ⟨rfl, ?_⟩
                have z := (B.drew.grown hg).ar.cell (i := K) (by omega)
                simp only [HKN.out, if_true] at z
                go_simp
                exact ⟨Grown.refl _, rfl⟩
              · intro w' hg _
                refine Or.inl ⟨rfl, ?_⟩
                have vv := (B.drew.grown hg).v
                have y0 := vv.c0
                have y1 := vv.c1
                have y2 := vv.c2
                have y3 := vv.c3
                have y4 := vv.c4
                have y5 := vv.c5
                have y6 := vv.c6
                have y7 := vv.c7
                have y8 := vv.c8
                go_simp
                exact ⟨Grown.refl _, rfl⟩
              intro w5 hg _
              have B5 := B.drew.grown hg
              clear B hg
              cases hd : α'.over? with
              | false =>
                go_wp2_with (go_at_call 23; refine (ST _ B5 false hd).mono ?_; rintro e w6 ⟨rfl, s6, B6⟩)
                go_roundw
                case rel =>
                  refine ⟨r + 1, W, s6, σ + 1, q', ph', upd ps K α', dn, by go_num, by go_num, by omega, by omega, B6, HG.out, HMU.out, HTL.out.on hno (fun E e => by rw [e] at hd; cases hd), fun a ha => ?_⟩
                  by_cases e : a = K
                  · subst e; rw [upd_same, hd]; exact HDN.out
                  · rw [upd_other _ _ _ _ e]; exact HDD.out a ha
                case measure => simp [intOf]; omega
              | true =>
                obtain ⟨E9, rfl⟩ : ∃ E9, α' = .over E9 := by
                  cases α' with
                  | over E9 => exact ⟨E9, rfl⟩
                  | _ => cases hd
                have hE9 : E9 = 0 ∨ E9 = 3 := by
                  have T := HG.out.th K HKN.out
                  rw [upd_same] at T
                  exact T.imp (fun h => h.1) (fun h => h.1)
                have hdd : ∀ a, a < N → upd dn K true a = (upd ps K (.over E9) a).over? := fun a ha => by
                  by_cases e : a = K
                  · subst e; rw [upd_same, upd_same]; rfl
                  · rw [upd_other _ _ _ _ e, upd_other _ _ _ _ e]; exact HDD.out a ha
                rcases hE9 with rfl | rfl
                · obtain ⟨hW, TL'⟩ := HTL.out.won HKN.out hno HG.out
                  subst hW
                  go_wp2_with (first
                    | (go_at_call 23; refine (ST _ B5 true hd).mono ?_; rintro e w6 ⟨rfl, s6, B6⟩; have dz := B6.dr.cell (i := K) hK4; have dfz := B6.dr.frozen K; have B7 := B6.setD AP.out K true; have wz := B7.ar.cell (i := K) hK4; simp only [HKN.out, if_true] at wz; obtain ⟨cs8, u8, d8, i8⟩ := B7.at_ K HKN.out; rw [upd_same] at i8; have hnx := i8.nx; have hE := i8.E)
                    | (go_at_call 24; refine (ddone_over d8 hnx).mono ?_; rintro e w9 ⟨rfl, b9⟩; rw [show u8.E = 0 from hE]))
                  go_roundw
                  case rel => exact ⟨r + 1, 1, s6, σ + 1, q', ph', upd ps K (.over 0), upd dn K true, by go_num, by go_num, by omega, by omega, B7.grown b9, HG.out, HMU.out, TL', hdd⟩
                  case measure => simp [intOf]; omega
                · have TL' := HTL.out.lost hno
                  go_wp2_with (first
                    | (go_at_call 23; refine (ST _ B5 true hd).mono ?_; rintro e w6 ⟨rfl, s6, B6⟩; have dz := B6.dr.cell (i := K) hK4; have dfz := B6.dr.frozen K; have B7 := B6.setD AP.out K true; have wz := B7.ar.cell (i := K) hK4; simp only [HKN.out, if_true] at wz; obtain ⟨cs8, u8, d8, i8⟩ := B7.at_ K HKN.out; rw [upd_same] at i8; have hnx := i8.nx; have hE := i8.E)
                    | (go_at_call 24; refine (ddone_over d8 hnx).mono ?_; rintro e w9 ⟨rfl, b9⟩; rw [show u8.E = 3 from hE]))
                  go_roundw
                  case rel => exact ⟨r + 1, W, s6, σ + 1, q', ph', upd ps K (.over 3), upd dn K true, by go_num, by go_num, by omega, by omega, B7.grown b9, HG.out, HMU.out, TL', hdd⟩
                  case measure => simp [intOf]; omega
        · have hr' : ¬ (r : Int) < 300 := by omega
          obtain rfl : r = 300 := by omega
          have hall : ∀ a, a < N → (ps a).over? = true := fun a ha => by
            rcases mu a ha with h | h
            · exact h
            · have := cnt_all N (by omega) a ha
              omega
          have hW : W = 1 := G.told h1 TL hall
          have HAL : Hid (∀ a, a < N → dn a = true) := fun a ha => (hdn a ha).trans (hall a ha)
          have HB : Hid (Band w wr L E Wb Db s' σ q N P ps dn) := B
          clear B G mu TL hdn hall
          subst hW
          go_wp2
          clear hr hr' hr3
          go_loopw [15] (fun iv wr => ∃ (a : Nat), iv = .int .i64 a ∧ a ≤ N ∧ Band w wr L E Wb Db s' σ q N P ps dn) (fun iv _ => N - (intOf iv).toNat)
          case atStart => exact ⟨0, rfl, Nat.zero_le _, HB.out⟩
          case round =>
            clear HB
            obtain ⟨a, rfl, haN, B⟩ := hrel
            by_cases ha : a < N
            · have ha' : (a : Int) < (N : Int) := by omega
              have ha4 : (a : Int) < 4 := by omega
              have hb0 : (0 : Int) ≤ (a : Int) := by omega
              have hc := B.dr.cell (i := a) (by omega)
              rw [HAL.out a ha] at hc
              have HB2 : Hid (Band w wr L E Wb Db s' σ q N P ps dn) := B
              clear B
              go_wp2
              go_roundw
              case rel => exact ⟨a + 1, by go_num, by omega, HB2.out⟩
              case measure => simp [intOf]; omega
            · have ha' : ¬ (a : Int) < (N : Int) := by omega
              have B9 := B.b
              clear B
              go_wp2
              go_ret
              exact ⟨rfl, B9⟩

end Go.Proofs.YtbmiieaakbcncaaGreat
