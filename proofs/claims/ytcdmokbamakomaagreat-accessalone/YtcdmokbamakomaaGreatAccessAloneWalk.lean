/- AccessAlone answers true for all sizes and wants, and leaves what was in memory. -/
import Derived.Test.YtcdmokbamakomaaGreatAccGrid
import Derived.Test.YtcdmokbamakomaaGreatDropActs
namespace Go.Proofs.YtcdmokbamakomaaGreat
open Go.RowKit

theorem goodG : Good 1 8 8 40 100 600 3 := goodp (by omega) (by omega) (by omega) (by omega)
def noJ (_ : Nat → Option Value) : Prop := True
def duo {α : Type} (a b : α) : Nat → α
  | 0 => a
  | _ => b

theorem Farm.also10 {w0 w w' : World} {L : Loc} {bE t n k m σ nx : Nat} {cg : Int} {s : Mm} {q : Q} {gen : Nat → Nat} {ls : List Ox} {S : Nat → Prop} (f : Farm w0 w L bE t n k m cg s σ q nx gen ls) (o : Only S w w') (hS : ∀ i, S i → Lone w0 L bE i) : Farm w0 w' L bE t n k m cg s σ q nx gen ls :=
  ⟨f.mm.only o (fun i hi hs => (hS i hs).l hi), f.tw, f.tm, f.v.only o (fun hs => (hS _ hs).e rfl), f.b.trans (o.below f.b.size (fun i hi hs => by have := (hS i hs).p; omega))⟩

set_option maxRecDepth 20000 in
set_option maxHeartbeats 8000000 in
theorem accessAlone_any (ao : Option Addr) (N cap : Nat) (z : Nat → Int) (bo : Option Addr) (M capM : Nat) (A : Nat → Wt) (w : World) (hr : IntsAt .i64 w ao N z) (hw : WantsAt w bo M A) (hF : ∀ i, i < M → WantFit (A i)) :
    Calls Tryz.prog 3 #[.slice ao N cap, .slice bo M capM] w fun e w' => e = .returned (.bool true) ∧ Below w.heap.size w w' := by
  have HR : Hid (IntsAt .i64 w ao N z) := hr
  have HW : Hid (WantsAt w bo M A) := hw
  have HF : Hid (∀ i, i < M → WantFit (A i)) := hF
  clear hr hw hF
  have AR := fun w => arena08 goodG (by omega) w
  go_enter Tryz.func3, Tryz.ntmps3
  go_wp2_with (first
    | (go_at_call 9; refine (AR _).mono ?_; rintro e w1 ⟨L, s, rfl, m1, t1, b1, l1⟩; obtain ⟨c1, pa⟩ := Farm.first goodG m1 t1 b1 l1)
    | (go_at_call 10; refine (awake10_any _).mono ?_; rintro e w2 ⟨rfl, b2⟩; have c2 := c1.grown b2))
  obtain ⟨E, hE⟩ : ∃ E, w1.heap.size = E := ⟨_, rfl⟩
  rw [hE] at c2 pa ⊢
  have FA : Hid (FarmApart w L E 1 8 8 40 100) := pa
  have n1 := Rw.fresh w2 35
  have n2 := Rw.fresh (w2.alloc (.cells #[] 35)) 22
  have hEl := c2.ltE
  have hws := c2.b.size
  have lone : ∀ b, w2.heap.size ≤ b → Lone w L E b := fun b hb => ⟨by omega, fun h => by have := c2.mm.lt b h; omega, by omega⟩
  have c3 := (c2.alloc (.cells #[] 35)).alloc (.cells #[] 22)
  simp only [Go.Deep.nblk_alloc] at n2
  have g3 : Grid w ((w2.alloc (.cells #[] 35)).alloc (.cells #[] 22)) L E [] (fun _ _ => 0) w2.heap.size 0 (w2.heap.size + 1) 0 := ⟨n1.grown (grow1 _ _), n2, fun K r e => by simp at e, fun K K' r r' _ e => by simp at e, lone _ (Nat.le_refl _), lone _ (by omega), fun K r e => by simp at e⟩
  obtain ⟨B2, h2⟩ : ∃ B, w2.heap.size + 1 = B := ⟨_, rfl⟩
  obtain ⟨B1, h1⟩ : ∃ B, w2.heap.size = B := ⟨_, rfl⟩
  rw [h2, h1] at g3 ⊢
  have A3 : Hid (Farm w ((w2.alloc (.cells #[] 35)).alloc (.cells #[] 22)) L E 1 8 8 40 100 s 17 (Q.new 8) 0 (fun _ => 1) [] ∧ Grid w ((w2.alloc (.cells #[] 35)).alloc (.cells #[] 22)) L E [] (fun _ _ => 0) B1 0 B2 0) := ⟨c3, g3⟩
  clear c1 c2 c3 g3 n1 n2 hEl hws lone pa b2 m1 t1 b1 l1 AR hE h1 h2
  go_loopw [7, 8, 9] (fun v7 v8 v9 wr => ∃ (r : Nat) (s' : Mm) (σ : Nat) (q : Q) (nx : Nat) (rs : List Ob) (b1 c1 b2 c2 : Nat), v7 = .slice (some ⟨b1, 0, none⟩) rs.length c1 ∧ v8 = .slice (some ⟨b2, 0, none⟩) rs.length c2 ∧ v9 = .int .i64 r ∧ r ≤ 6 ∧ rs.length ≤ r ∧ σ ≤ 17 + 100 * r ∧ Farm w wr L E 1 8 8 40 100 s' σ q nx (fun _ => 1) (rs.map Ob.o).reverse ∧ Grid w wr L E rs (fun _ _ => 0) b1 c1 b2 c2 ∧ ∀ r ∈ rs, r.o.own = false) (fun _ _ v9 _ => 6 - (intOf v9).toNat)
  case atStart => exact ⟨0, s, 17, Q.new 8, 0, [], B1, 0, B2, 0, rfl, rfl, rfl, by omega, by simp, by omega, A3.out.1, A3.out.2, fun _ h => by cases h⟩
  case round =>
    clear A3
    obtain ⟨r, s', σ, q, nx, rs, b1, c1, b2, c2, rfl, rfl, rfl, hr6, hrl, hσ, C, G, ow⟩ := hrel
    have HOW : Hid (∀ r ∈ rs, r.o.own = false) := ow
    clear ow
    by_cases hrN : r < N
    · have hrN' : (r : Int) < (N : Int) := by omega
      by_cases hr6' : r < 6
      · have hr6'' : (r : Int) < 6 := by omega
        obtain ⟨zb, zo, rfl, hk0⟩ := HR.out r hrN
        have hz0 := keep' C.b hk0
        obtain ⟨Z, hZ, z1, z2⟩ := size15 (z r)
        obtain ⟨E0, H0, q', nx', ls', hnx, lot, mk⟩ := C.lot (own := false) FA.out z1 z2 (by omega)
        have z0 := C.v.c0
        have z1 := C.v.c1
        have z2 := C.v.c2
        have z3 := C.v.c3
        have z4 := C.v.c4
        have z5 := C.v.c5
        have z6 := C.v.c6
        have z7 := C.v.c7
        have z8 := C.v.c8
        have HC : Hid (Farm w wr L E 1 8 8 40 100 s' σ q nx (fun _ => 1) (rs.map Ob.o).reverse) := C
        have HG : Hid (Grid w wr L E rs (fun _ _ => 0) b1 c1 b2 c2) := G
        clear C G hk0
        cases lot with
        | no E hE q' hF hs hd =>
          rcases hE with rfl | rfl
          · skip
            as_aux_lemma =>
              go_wp2_with (go_at_call 11; refine (mk _ HC.out).mono ?_; rintro e w4 ⟨st4, s4, σ4, rfl, h4, f4, o4⟩)
              go_roundw
              case rel => exact ⟨r + 1, s4, σ4, _, nx', rs, b1, c1, b2, c2, rfl, rfl, by go_num, by omega, by omega, by omega, f4.alloc _, (HG.out.mem o4).grown (grow1 _ _), HOW.out⟩
              case measure => simp [intOf]; omega
          · skip
            as_aux_lemma =>
              go_wp2_with (go_at_call 11; refine (mk _ HC.out).mono ?_; rintro e w4 ⟨st4, s4, σ4, rfl, h4, f4, o4⟩)
              go_roundw
              case rel => exact ⟨r + 1, s4, σ4, _, nx', rs, b1, c1, b2, c2, rfl, rfl, by go_num, by omega, by omega, by omega, f4.alloc _, (HG.out.mem o4).grown (grow1 _ _), HOW.out⟩
              case measure => simp [intOf]; omega
        | made o q' hF hgn hoo hoz =>
          as_aux_lemma =>
            obtain ⟨H1, hH1⟩ : ∃ H1, packH o.x o.g = H1 := ⟨_, rfl⟩
            have HH1 : Hid (packH o.x o.g = H1) := hH1
            have HOO : Hid (o.own = false) := hoo
            have HOZ : Hid (o.Z = Z) := hoz
            rw [hH1] at mk
            clear hgn hF hH1 hoo hoz
            go_wp2_with (go_at_call 11; refine (mk _ HC.out).mono ?_; rintro e w4 ⟨st4, s4, σ4, rfl, h4, f4, o4⟩)
            have f5 := f4.alloc (.cells #[.int .i64 0, .int .u64 H1, .int .i64 0, .int .i64 st4] 37)
            have G5 := (HG.out.mem o4).grown (grow1 _ (.cells #[.int .i64 0, .int .u64 H1, .int .i64 0, .int .i64 st4] 37))
            have hD5 : (w4.alloc (.cells #[.int .i64 0, .int .u64 H1, .int .i64 0, .int .i64 st4] 37)).cell? ⟨w4.heap.size, 1, none⟩ = some (.int .u64 H1) := (At.new w4 37 [.int .i64 0, .int .u64 H1, .int .i64 0, .int .i64 st4]).at0 1 rfl
            have hlt1 := (HG.out.mem o4).r1.lt
            have hlt2 := (HG.out.mem o4).r2.lt
            obtain ⟨Da, hDa⟩ : ∃ D, w4.heap.size = D := ⟨_, rfl⟩
            rw [hDa] at hD5 hlt1 hlt2 ⊢
            refine wp_over (fun W => Farm w W L E 1 8 8 40 100 s4 σ4 q' nx' (fun _ => 1) (o :: (rs.map Ob.o).reverse) ∧ Grid w W L E rs (fun _ _ => 0) b1 c1 b2 c2 ∧ W.cell? ⟨Da, 1, none⟩ = some (.int .u64 H1)) ⟨f5, G5, hD5⟩ ?_
            clear f5 G5 hD5
            rintro W ⟨f5, G5, hD5⟩
            have G5d := G5.grown ((Below.refl W.heap.size W).drew)
            obtain ⟨Bz, hBz⟩ : ∃ B, W.heap.size = B := ⟨_, rfl⟩
            have hf2 : ∀ a, a < 2 → Duo.b (⟨duo b1 b2, duo c1 c2, duo (rs.map Ob.h) (rs.map Ob.w), H1, Z, Bz⟩ : Duo) a < Bz := by
              intro a ha
              have : a = 0 ∨ a = 1 := by omega
              rcases this with rfl | rfl
              · rw [← hBz]; exact G5.r1.lt
              · rw [← hBz]; exact G5.r2.lt
            have h12 : b1 ≠ b2 := G5.r1.ne G5.r2 (by decide)
            have hne0 : ∀ a', a' < 2 → a' ≠ 0 → Duo.b (⟨duo b1 b2, duo c1 c2, duo (rs.map Ob.h) (rs.map Ob.w), H1, Z, Bz⟩ : Duo) a' ≠ Duo.b (⟨duo b1 b2, duo c1 c2, duo (rs.map Ob.h) (rs.map Ob.w), H1, Z, Bz⟩ : Duo) 0 := fun a' h1 h2 => by
              obtain rfl : a' = 1 := by omega
              exact h12.symm
            have hne1 : ∀ a', a' < 2 → a' ≠ 1 → Duo.b (⟨duo b1 b2, duo c1 c2, duo (rs.map Ob.h) (rs.map Ob.w), H1, Z, Bz⟩ : Duo) a' ≠ Duo.b (⟨duo b1 b2, duo c1 c2, duo (rs.map Ob.h) (rs.map Ob.w), H1, Z, Bz⟩ : Duo) 1 := fun a' h1 h2 => by
              obtain rfl : a' = 0 := by omega
              exact h12
            have nDa : ¬ Duo.has (⟨duo b1 b2, duo c1 c2, duo (rs.map Ob.h) (rs.map Ob.w), H1, Z, Bz⟩ : Duo) Da := by
              rintro ⟨a, ha, e⟩
              have : a = 0 ∨ a = 1 := by omega
              rcases this with rfl | rfl
              · have e : Da = b1 := e; omega
              · have e : Da = b2 := e; omega
            have HRW0 : Hid (Rw W.drew (duoT 0) (Duo.b (⟨duo b1 b2, duo c1 c2, duo (rs.map Ob.h) (rs.map Ob.w), H1, Z, Bz⟩ : Duo) 0) (Duo.c (⟨duo b1 b2, duo c1 c2, duo (rs.map Ob.h) (rs.map Ob.w), H1, Z, Bz⟩ : Duo) 0) (Duo.l (⟨duo b1 b2, duo c1 c2, duo (rs.map Ob.h) (rs.map Ob.w), H1, Z, Bz⟩ : Duo) 0)) := G5d.r1
            have HRW1 : Hid (Rw W.drew (duoT 1) (Duo.b (⟨duo b1 b2, duo c1 c2, duo (rs.map Ob.h) (rs.map Ob.w), H1, Z, Bz⟩ : Duo) 1) (Duo.c (⟨duo b1 b2, duo c1 c2, duo (rs.map Ob.h) (rs.map Ob.w), H1, Z, Bz⟩ : Duo) 1) (Duo.l (⟨duo b1 b2, duo c1 c2, duo (rs.map Ob.h) (rs.map Ob.w), H1, Z, Bz⟩ : Duo) 1)) := G5d.r2
            have HG5 : Hid (Grid w W.drew L E rs (fun _ _ => 0) b1 c1 b2 c2) := G5d
            have HF5 : Hid (Farm w W.drew L E 1 8 8 40 100 s4 σ4 q' nx' (fun _ => 1) (o :: (rs.map Ob.o).reverse)) := f5.drew
            have hBd : W.drew.heap.size = Bz := hBz
            clear G5d G5 f5
            refine wp_region_relyX_tail (Keep2 (⟨duo b1 b2, duo c1 c2, duo (rs.map Ob.h) (rs.map Ob.w), H1, Z, Bz⟩ : Duo)) noJ 10 [.val (.slice (some ⟨b1, 0, none⟩) rs.length c1), .val (.pointer (some ⟨Da, 1, none⟩)), .val (.int .u64 H1), .that (Duo.boxd (⟨duo b1 b2, duo c1 c2, duo (rs.map Ob.h) (rs.map Ob.w), H1, Z, Bz⟩ : Duo) 0) (Duo.boxd_stays hf2), .that (Duo.grew (⟨duo b1 b2, duo c1 c2, duo (rs.map Ob.h) (rs.map Ob.w), H1, Z, Bz⟩ : Duo) 0) (Duo.grew_stays (by decide) hf2), .val (.slice (some ⟨b2, 0, none⟩) rs.length c2), .val (.int .i64 Z), .that (Duo.ph (⟨duo b1 b2, duo c1 c2, duo (rs.map Ob.h) (rs.map Ob.w), H1, Z, Bz⟩ : Duo) 1) (Duo.ph_keep hf2), .that (Duo.boxd (⟨duo b1 b2, duo c1 c2, duo (rs.map Ob.h) (rs.map Ob.w), H1, Z, Bz⟩ : Duo) 1) (Duo.boxd_stays hf2), .that (Duo.grew (⟨duo b1 b2, duo c1 c2, duo (rs.map Ob.h) (rs.map Ob.w), H1, Z, Bz⟩ : Duo) 1) (Duo.grew_stays (by decide) hf2)] (by kernel_rfl) Keep2.refl Keep2.trans (by decide) (by kernel_rfl) (by kernel_rfl) (by kernel_rfl) (by kernel_rfl) (by kernel_rfl) (by kernel_rfl) trivial ?_
            simp only [List.take_succ_cons, List.take_zero, relyAllX, Act.put, List.setIfInBounds_toArray, List.set_cons_zero, List.set_cons_succ]
            refine ⟨?_, ?_, ?_, ?_, fun v3 => ⟨?_, fun v4 => ⟨?_, ?_, ?_, fun v7 => ⟨?_, fun v8 => ⟨?_, fun v9 => ?_⟩⟩⟩⟩⟩
            · intro w' l hg hf hJ hl hp
              refine Or.inl ⟨rfl, ?_⟩
              go_simp
              exact ⟨Keep2.refl _, rfl, trivial⟩
            · intro w' l hg hf hJ hl hp
              refine Or.inl ⟨rfl, ?_⟩
              go_simp
              exact ⟨Keep2.refl _, rfl, trivial⟩
            · intro w' l hg hf hJ hl hp
              refine Or.inl ⟨rfl, ?_⟩
              have z := hg.only.keep (b := Da) nDa hD5
              go_simp
              exact ⟨Keep2.refl _, rfl, trivial⟩
            · intro w' l hg hf hJ hl hp
              refine Or.inl ⟨rfl, ?_⟩
              have hz : Bz ≤ w'.heap.size := by have := hg.only.size; have e : W.drew.heap.size = W.heap.size := rfl; omega
              go_simp
              exact ⟨Keep2.grown hf2 (grow_alloc (Below.refl _ _) _), ⟨_, _, rfl, hz, rfl, by simp⟩, trivial⟩
            · intro w' l hg hf hJ hl hp
              refine Or.inl ⟨rfl, ?_⟩
              have hz : Bz ≤ w'.heap.size := by have := hg.only.size; have e : W.drew.heap.size = W.heap.size := rfl; omega
              have f0 := hf.1 (by kernel_rfl)
              clear hf
              obtain ⟨v', w4', hrun, hk, hgr⟩ := Duo.app (F := (⟨duo b1 b2, duo c1 c2, duo (rs.map Ob.h) (rs.map Ob.w), H1, Z, Bz⟩ : Duo)) (a := 0) (by decide) hf2 hne0 Tryz.underlying32 Tryz.infoR35 rfl (by decide) HRW0.out hg f0 (by show (rs.map Ob.h).length ≤ 1000; simp; omega) hz 32 rfl rfl (by show (rs.map Ob.h).length = rs.length; simp)
              exact rely_append2 (.tmp 52) (.tmp 55) rfl rfl rfl hrun hk ⟨hgr, trivial⟩
            · intro w' l hg hf hJ hl hp
              refine Or.inl ⟨rfl, ?_⟩
              go_simp
              exact ⟨Keep2.refl _, rfl, trivial⟩
            · intro w' l hg hf hJ hl hp
              refine Or.inl ⟨rfl, ?_⟩
              go_simp
              exact ⟨Keep2.refl _, rfl, trivial⟩
            · intro w' l hg hf hJ hl hp
              refine Or.inl ⟨rfl, ?_⟩
              have hz : Bz ≤ w'.heap.size := by have := hg.only.size; have e : W.drew.heap.size = W.heap.size := rfl; omega
              have hmk := run_make_row' (P := Tryz.prog) 22 3 (.int .i64 0) 8 Tryz.underlying22 Tryz.infoW3 rfl .i64 .i64 Z (by omega) (by omega)
              have hr := World.rowIs_made w' (.int .i64 0) Z 3
              go_simp
              exact ⟨Keep2.grown hf2 (grow_alloc (Below.refl _ _) _), ⟨_, rfl, hz, hr⟩, trivial⟩
            · intro w' l hg hf hJ hl hp
              refine Or.inl ⟨rfl, ?_⟩
              have hz : Bz ≤ w'.heap.size := by have := hg.only.size; have e : W.drew.heap.size = W.heap.size := rfl; omega
              obtain ⟨g, rfl, h1, h2⟩ := hf.1 (by kernel_rfl)
              have h3 := grow1 w' (.cells #[.slice (some ⟨g, 0, none⟩) Z Z] 22)
              clear hf
              go_simp
              exact ⟨Keep2.grown hf2 h3, ⟨_, _, rfl, hz, ⟨g, rfl, h1, h2.of_block (h3.block _ h2.lt)⟩, by simp⟩, trivial⟩
            · intro w' l hg hf hJ hl hp
              refine Or.inl ⟨rfl, ?_⟩
              have hz : Bz ≤ w'.heap.size := by have := hg.only.size; have e : W.drew.heap.size = W.heap.size := rfl; omega
              have f0 := hf.1 (by kernel_rfl)
              clear hf
              obtain ⟨v', w4', hrun, hk, hgr⟩ := Duo.app (F := (⟨duo b1 b2, duo c1 c2, duo (rs.map Ob.h) (rs.map Ob.w), H1, Z, Bz⟩ : Duo)) (a := 1) (by decide) hf2 hne1 Tryz.underlying33 Tryz.infoR22 rfl (by decide) HRW1.out hg f0 (by show (rs.map Ob.w).length ≤ 1000; simp; omega) hz 33 rfl rfl (by show (rs.map Ob.w).length = rs.length; simp)
              exact rely_append2 (.tmp 57) (.tmp 60) rfl rfl rfl hrun hk ⟨hgr, trivial⟩
            intro w9 hg hf hJ
            obtain ⟨g9, -, -, g4, -⟩ := hf
            obtain ⟨bo, b1', c1', b2', c2', rfl, rfl, G6⟩ := HG5.out.grew HF5.out.ltE HF5.out.b.size (fun b hb => HF5.out.mm.lt b hb) (F := (⟨duo b1 b2, duo c1 c2, duo (rs.map Ob.h) (rs.map Ob.w), H1, Z, Bz⟩ : Duo)) (o := o) rfl rfl rfl rfl HH1.out.symm HOZ.out.symm hBd.symm hg g4 g9
            have f6 : Farm w w9 L E 1 8 8 40 100 s4 σ4 q' nx' (fun _ => 1) (((rs ++ [(⟨o, bo⟩ : Ob)]).map Ob.o).reverse) := by
              have := HF5.out.also10 hg.only (fun i hi => by
                obtain ⟨a, ha, rfl⟩ := hi
                have : a = 0 ∨ a = 1 := by omega
                rcases this with rfl | rfl
                · exact HG5.out.f1
                · exact HG5.out.f2)
              simpa using this
            have HF6 : Hid (Farm w w9 L E 1 8 8 40 100 s4 σ4 q' nx' (fun _ => 1) (((rs ++ [(⟨o, bo⟩ : Ob)]).map Ob.o).reverse)) := f6
            have HG6 : Hid (Grid w w9 L E (rs ++ [(⟨o, bo⟩ : Ob)]) (fun _ _ => 0) b1' c1' b2' c2') := G6
            have HOW' : Hid (∀ r ∈ rs ++ [(⟨o, bo⟩ : Ob)], r.o.own = false) := fun r hr => by
              rcases List.mem_append.1 hr with h | h
              · exact HOW.out r h
              · simp at h; subst h; exact HOO.out
            clear f6 G6 g9 g4 hg hD5 hf2 h12 hne0 hne1 nDa HRW0 HRW1 HG5 HF5 hBd hBz hJ
            go_wp2
            go_roundw
            case rel => exact ⟨r + 1, s4, σ4, q', nx', rs ++ [(⟨o, bo⟩ : Ob)], b1', c1', b2', c2', by simp, by simp, by go_num, by omega, by simp; omega, by omega, HF6.out, HG6.out, HOW'.out⟩
            case measure => simp [intOf]; omega
      · have hr6'' : ¬ (r : Int) < 6 := by omega
        have hrl6 : rs.length ≤ 6 := by omega
        have CR : Hid (Crop q rs (fun _ _ => 0)) := crop0 goodG C.tm HOW.out
        have S2 : Hid (Spt w wr L E 1 8 8 40 s' σ q) := C.spt
        have G2 : Hid (Grid w wr L E rs (fun _ _ => 0) b1 c1 b2 c2) := G
        have hσ2 : σ ≤ 617 := by omega
        clear C G HOW hσ hrl
        go_wp2
        go_loopw [12] (fun v12 wr => ∃ (i : Nat) (s' : Mm) (σ : Nat) (q : Q) (F : Nat → Nat → Int), v12 = .int .i64 i ∧ i ≤ 80 ∧ σ ≤ 617 + 4 * i ∧ Spt w wr L E 1 8 8 40 s' σ q ∧ Grid w wr L E rs F b1 c1 b2 c2 ∧ Crop q rs F) (fun v12 _ => 80 - (intOf v12).toNat)
        case atStart => exact ⟨0, s', σ, q, _, rfl, by omega, by omega, S2.out, G2.out, CR.out⟩
        case round =>
          clear S2 G2 CR hσ2
          obtain ⟨i, s', σ, q, F, rfl, hi80, hσ, B, G, Cr⟩ := hrel
          by_cases hiM : i < M
          · have hiM' : (i : Int) < (M : Int) := by omega
            by_cases hi : i < 80
            · have hi' : (i : Int) < 80 := by omega
              by_cases hl0 : 0 < rs.length
              · have hl0' : (0 : Int) < (rs.length : Int) := by omega
                obtain ⟨zb, zo, rfl, hk0, hk1, hk2, hk3, hk4⟩ := HW.out i hiM
                obtain ⟨fk, fn, fi, fv, fo⟩ := HF.out i hiM
                obtain ⟨AA, hAA⟩ : ∃ AA, A i = AA := ⟨_, rfl⟩
                rw [hAA] at hk0 hk1 hk2 hk3 hk4 fk fn fi fv fo
                have c0 := keep' B.b hk0
                have c1' := keep' B.b hk1
                have c2' := keep' B.b hk2
                have c3 := keep' B.b hk3
                have c4 := keep' B.b hk4
                obtain ⟨kd, hkd, hk3', e1, e2⟩ := kind3 AA.kd
                obtain ⟨y1, hy1, v1⟩ := value_any AA.vl
                obtain ⟨y2, hy2, v2⟩ := value_any AA.ol
                obtain ⟨K, hK1, hK⟩ := pick10 AA.nu rs.length (by omega) fn.1
                obtain ⟨ρ, hρ⟩ : ∃ ρ, rs[K]? = some ρ := ⟨rs[K], List.getElem?_eq_getElem hK⟩
                obtain ⟨H, hH⟩ : ∃ H, packH ρ.o.x ρ.o.g = H := ⟨_, rfl⟩
                have hcH0 : wr.cell? ⟨b1, K, none⟩ = some (.int .u64 H) := G.r1.cell (by rw [List.getElem?_map, hρ, ← hH]; rfl)
                have HRO : Hid (rs[K]? = some ρ) := hρ
                have HH : Hid (packH ρ.o.x ρ.o.g = H) := hH
                have HK3 : Hid (kd = 1 ∨ kd = 2 ∨ kd = 3) := hk3'
                have HY1 : Hid (0 ≤ y1 ∧ y1 ≤ 1099511627775) := hy1
                have V1 : Hid (∀ w : World, Calls Tryz.prog 12 #[.int .i64 AA.vl] w fun e w' => e = .returned (.int .i64 y1) ∧ w' = w) := v1
                have V2 : Hid (∀ w : World, Calls Tryz.prog 12 #[.int .i64 AA.ol] w fun e w' => e = .returned (.int .i64 y2) ∧ w' = w) := v2
                have HCR : Hid (Crop q rs F) := Cr
                clear hk3' hy1 hy2 v1 v2 hk0 hk1 hk2 hk3 hk4 hAA fk fi fv fo Cr hρ hH
                have wt0 := wt_new wr AA
                have B0 := B.grown (grow1 _ (.cells #[.int .i64 AA.kd, .int .u64 AA.nu, .int .i64 AA.ix, .int .i64 AA.vl, .int .i64 AA.ol] 40))
                have G0 := G.grown (grow1 _ (.cells #[.int .i64 AA.kd, .int .u64 AA.nu, .int .i64 AA.ix, .int .i64 AA.vl, .int .i64 AA.ol] 40))
                have hcH1 : (wr.alloc (.cells #[.int .i64 AA.kd, .int .u64 AA.nu, .int .i64 AA.ix, .int .i64 AA.vl, .int .i64 AA.ol] 40)).cell? ⟨b1, K, none⟩ = some (.int .u64 H) := keep' (grow1 _ _) hcH0
                obtain ⟨X, hX⟩ : ∃ X, wr.heap.size = X := ⟨_, rfl⟩
                have HXL : Hid (¬ L.has X) := fun h => by have := B.mm.lt _ h; omega
                have HXE : Hid (E ≠ X) := by unfold Hid; have := B.ltE; omega
                have HXW : Hid (w.heap.size ≤ X) := by unfold Hid; have := B.b.size; omega
                have HXG : Hid (∀ b, Gh rs b1 b2 b → b ≠ X) := fun b hb => by have := G.lt hb; omega
                have HXB1 : Hid (¬ b1 = X) := HXG.out b1 (Or.inl rfl)
                rw [hX] at wt0
                clear B G hcH0
                go_wp2
              
                try rw [hX]
                refine wp_over (fun W => Spt w W L E 1 8 8 40 s' σ q ∧ Grid w W L E rs F b1 c1 b2 c2 ∧ W.cell? ⟨b1, K, none⟩ = some (.int .u64 H) ∧ WtAt W X AA) ⟨B0, G0, hcH1, wt0⟩ ?_
                clear B0 G0 hcH1 wt0 hX c0 c1' c2' c3 c4
                rintro W ⟨B, G, hcH, wt⟩
                refine wp_region_phaseE (Only (fun b => b = X)) Grown (phW X [AA, { AA with nu := H }, { AA with nu := H, kd := kd }, { AA with nu := H, kd := kd, vl := y1 }, (⟨kd, H, AA.ix, y1, y2⟩ : Wt)]) [17, 19, 21, 23] [5, 11, 14] [.val (.slice (some ⟨b1, 0, none⟩) rs.length c1), .val (.int .i64 K), .val (.pointer (some ⟨b1, K, none⟩)), .val (.int .u64 H), .val (.pointer (some ⟨X, 0, none⟩)), .val (.int .i64 AA.kd), .val (.int .i64 (AA.kd.tmod 3)), .val (.int .i64 (AA.kd.tmod 3 + 3)), .val (.int .i64 (AA.kd.tmod 3 % 3)), .val (.int .i64 (kd)), .val (.pointer (some ⟨X, 3, none⟩)), .val (.int .i64 AA.vl), .val (.int .i64 y1), .val (.pointer (some ⟨X, 4, none⟩)), .val (.int .i64 AA.ol), .val (.int .i64 y2), .val (.pointer (some ⟨X, 1, none⟩)), .that (fun _ _ => True) (fun _ _ _ _ _ => trivial), .val (.pointer (some ⟨X, 0, none⟩)), .that (fun _ _ => True) (fun _ _ _ _ _ => trivial), .val (.pointer (some ⟨X, 3, none⟩)), .that (fun _ _ => True) (fun _ _ _ _ _ => trivial), .val (.pointer (some ⟨X, 4, none⟩)), .that (fun _ _ => True) (fun _ _ _ _ _ => trivial)]
                  (by kernel_rfl) (Only.refl _) (fun _ _ _ h k => h.trans k) (fun x y h => Only.ofGrown h) phW_grown ⟨_, rfl, wt.drew⟩ (by kernel_rfl) (by kernel_rfl) (by kernel_rfl) (by kernel_rfl) (by kernel_rfl) (by kernel_rfl) ?_
                simp only [phaseAllE, Act.put, List.setIfInBounds_toArray, List.set_cons_zero, List.set_cons_succ]
                refine ⟨?_, ?_, ?_, ?_, ?_, ?_, ?_, ?_, ?_, ?_, ?_, ?_, ?_, ?_, ?_, ?_, ?_, ?_, fun _ => ⟨?_, ?_, fun _ => ⟨?_, ?_, fun _ => ⟨?_, ?_, fun _ => ?_⟩⟩⟩⟩
                · intro w' hR _ _
                  refine Or.inl ⟨rfl, ?_⟩
                  go_simp
                  exact ⟨Grown.refl _, rfl⟩
                · intro w' hR _ _
                  refine Or.inl ⟨rfl, ?_⟩
                  go_simp
                  exact ⟨Grown.refl _, rfl⟩
                · intro w' hR _ _
                  refine Or.inl ⟨rfl, ?_⟩
                  have hb : (0 : Int) ≤ (K : Int) := by omega
                  have hb2 : (K : Int) < (rs.length : Int) := by omega
                  go_simp
                  exact ⟨Grown.refl _, by simp [Want.pred]⟩
                · intro w' hR _ _
                  refine Or.inl ⟨rfl, ?_⟩
                  have z := hR.keep (b := b1) HXB1.out (show W.drew.cell? ⟨b1, K, none⟩ = some (.int .u64 H) from hcH)
                  go_simp
                  exact ⟨Grown.refl _, rfl⟩
                · intro w' hR _ _
                  refine Or.inl ⟨rfl, ?_⟩
                  go_simp
                  exact ⟨Grown.refl _, rfl⟩
                · intro w' hR _ hE
                  refine Or.inl ⟨rfl, ?_⟩
                  obtain ⟨A0, eA, wa⟩ := hE (by kernel_rfl)
                  cases eA
                  have z := wa.c0
                  go_simp
                  exact ⟨Grown.refl _, rfl⟩
                · intro w' hR _ _
                  refine Or.inl ⟨rfl, ?_⟩
                  go_simp
                  exact ⟨Grown.refl _, rfl⟩
                · intro w' hR _ _
                  refine Or.inl ⟨rfl, ?_⟩
                  go_simp
                  refine ⟨Grown.refl _, congrArg (Value.int .i64) ?_⟩
                  first
                    | rfl
                    | omega
                    | (rw [IntKind.wrap_i64]; omega)
                    | exact (Int.tmod_eq_emod_of_nonneg (by omega)).trans (by omega)
                · intro w' hR _ _
                  refine Or.inl ⟨rfl, ?_⟩
                  go_simp
                  refine ⟨Grown.refl _, congrArg (Value.int .i64) ?_⟩
                  first
                    | rfl
                    | omega
                    | (rw [IntKind.wrap_i64]; omega)
                    | exact (Int.tmod_eq_emod_of_nonneg (by omega)).trans (by omega)
                · intro w' hR _ _
                  refine Or.inl ⟨rfl, ?_⟩
                  go_simp
                  refine ⟨Grown.refl _, congrArg (Value.int .i64) ?_⟩
                  first
                    | rfl
                    | omega
                    | (rw [IntKind.wrap_i64]; omega)
                    | exact (Int.tmod_eq_emod_of_nonneg (by omega)).trans (by omega)
                · intro w' hR _ _
                  refine Or.inl ⟨rfl, ?_⟩
                  go_simp
                  exact ⟨Grown.refl _, rfl⟩
                · intro w' hR _ hE
                  refine Or.inl ⟨rfl, ?_⟩
                  obtain ⟨A0, eA, wa⟩ := hE (by kernel_rfl)
                  cases eA
                  have z := wa.c3
                  go_simp
                  exact ⟨Grown.refl _, rfl⟩
                · intro w' hR _ _
                  refine Or.inl ⟨rfl, ?_⟩
                  go_simp
                  refine (V1.out _).mono ?_
                  rintro e w'' ⟨rfl, rfl⟩
                  exact ⟨_, rfl, Grown.refl _, rfl⟩
                · intro w' hR _ _
                  refine Or.inl ⟨rfl, ?_⟩
                  go_simp
                  exact ⟨Grown.refl _, rfl⟩
                · intro w' hR _ hE
                  refine Or.inl ⟨rfl, ?_⟩
                  obtain ⟨A0, eA, wa⟩ := hE (by kernel_rfl)
                  cases eA
                  have z := wa.c4
                  go_simp
                  exact ⟨Grown.refl _, rfl⟩
                · intro w' hR _ _
                  refine Or.inl ⟨rfl, ?_⟩
                  go_simp
                  refine (V2.out _).mono ?_
                  rintro e w'' ⟨rfl, rfl⟩
                  exact ⟨_, rfl, Grown.refl _, rfl⟩
                · intro w' hR _ _
                  refine Or.inl ⟨rfl, ?_⟩
                  go_simp
                  exact ⟨Grown.refl _, rfl⟩
                · intro w' hR _ hP
                  refine Or.inl ⟨rfl, ?_⟩
                  obtain ⟨A0, eA, wa⟩ := hP
                  cases eA
                  have z0 := wa.c1
                  have z1 := wa.fz
                  go_simp
                  exact ⟨⟨only_set _ _ _, _, rfl, wa.set1 _⟩, trivial⟩
                · intro w' hR _ _
                  refine Or.inl ⟨rfl, ?_⟩
                  go_simp
                  exact ⟨Grown.refl _, rfl⟩
                · intro w' hR _ hP
                  refine Or.inl ⟨rfl, ?_⟩
                  obtain ⟨A0, eA, wa⟩ := hP
                  cases eA
                  have z0 := wa.c0
                  have z1 := wa.fz
                  go_simp
                  exact ⟨⟨only_set _ _ _, _, rfl, wa.set0 _⟩, trivial⟩
                · intro w' hR _ _
                  refine Or.inl ⟨rfl, ?_⟩
                  go_simp
                  exact ⟨Grown.refl _, rfl⟩
                · intro w' hR _ hP
                  refine Or.inl ⟨rfl, ?_⟩
                  obtain ⟨A0, eA, wa⟩ := hP
                  cases eA
                  have z0 := wa.c3
                  have z1 := wa.fz
                  go_simp
                  exact ⟨⟨only_set _ _ _, _, rfl, wa.set3 _⟩, trivial⟩
                · intro w' hR _ _
                  refine Or.inl ⟨rfl, ?_⟩
                  go_simp
                  exact ⟨Grown.refl _, rfl⟩
                · intro w' hR _ hP
                  refine Or.inl ⟨rfl, ?_⟩
                  obtain ⟨A0, eA, wa⟩ := hP
                  cases eA
                  have z0 := wa.c4
                  have z1 := wa.fz
                  go_simp
                  exact ⟨⟨only_set _ _ _, _, rfl, wa.set4 _⟩, trivial⟩
                intro w9 hR hP _
                obtain ⟨A0, eA, wt⟩ := hP
                cases eA
                have B := B.drew.block hR HXW.out HXE.out HXL.out
                have G := (G.grown ((Below.refl _ _).drew)).only hR HXG.out
                obtain ⟨W, hW⟩ : ∃ W : Wt, W = ⟨kd, H, AA.ix, y1, y2⟩ := ⟨_, rfl⟩
                have HWO : Hid W.ok := by unfold Hid; rw [hW]; exact ⟨HK3.out, ⟨by show -9223372036854775808 ≤ y1; have := HY1.out; omega, by show y1 ≤ 9223372036854775807; have := HY1.out; omega⟩⟩
                have HWN : Hid (HandIs W.nu ρ.o.x ρ.o.g) := by unfold Hid; rw [hW]; show HandIs H _ _; rw [← HH.out]; exact (HCR.out.hd K ρ HRO.out).1
                have HWV : Hid (0 ≤ W.vl ∧ W.vl ≤ 1099511627775) := by unfold Hid; rw [hW]; exact HY1.out
                have wt : WtAt w9 X W := by rw [hW]; exact wt
                have HKD : Hid (W.kd = 1 ∨ W.kd = 2 ∨ W.kd = 3) := HWO.out.k
                have x0 := wt.c0
                have x1 := wt.c1
                have x2 := wt.c2
                have x3 := wt.c3
                have x4 := wt.c4
                have z0 := B.v.c0
                have z1 := B.v.c1
                have z2 := B.v.c2
                have z3 := B.v.c3
                have z4 := B.v.c4
                have z5 := B.v.c5
                have z6 := B.v.c6
                have z7 := B.v.c7
                have z8 := B.v.c8
                have HB : Hid (Spt w w9 L E 1 8 8 40 s' σ q) := B
                have HG : Hid (Grid w w9 L E rs F b1 c1 b2 c2) := G
                have HT : Hid (WtAt w9 X W) := wt
                have hxn := (HCR.out.hd K ρ HRO.out).2
                clear hR hW B G wt hcH
                clear x0 x1 x2 x3 x4
                by_cases hn : W.ix < 0
                · skip
                  as_aux_lemma =>
                    obtain ⟨τ, hτ⟩ : ∃ τ, σ + 1 = τ := ⟨_, rfl⟩
                    have ru := HCR.out.out HRO.out (W := W) (σ := σ) (by omega)
                    rw [hτ] at ru
                    have CL := HB.out.do FA.out (HCR.out.sc K ρ HRO.out).wd HWN.out hxn HWO.out (by omega) (N := 2) (by decide) (ru)
                    clear ru hτ
                    have x0 := HT.out.c0
                    have x1 := HT.out.c1
                    have x2 := HT.out.c2
                    have x3 := HT.out.c3
                    have x4 := HT.out.c4
                    go_wp2_with (go_at_call 13; refine CL.mono ?_; rintro e w5 ⟨rfl, s5, B5, o5, -⟩)
                    have HB5 := B5.grown (grow1 w5 (.cells #[.int .i64 4, .int .u64 0, .int .i64 0, .int .i64 τ] 37))
                    have HG5 := (HG.out.mem o5).grown (grow1 w5 (.cells #[.int .i64 4, .int .u64 0, .int .i64 0, .int .i64 τ] 37))
                    have HT5 := (HT.out.only o5 HXL.out).grown (grow1 w5 (.cells #[.int .i64 4, .int .u64 0, .int .i64 0, .int .i64 τ] 37))
                    have HD5 := At.new w5 37 [.int .i64 4, .int .u64 0, .int .i64 0, .int .i64 τ]
                    obtain ⟨D, hD⟩ : ∃ D, w5.heap.size = D := ⟨_, rfl⟩
                    have HDG : Hid (∀ b, Gh rs b1 b2 b → b ≠ D) := fun b hb => by have := (HG.out.mem o5).lt hb; omega
                    rw [hD] at HD5 ⊢
                    refine wp_over (fun w' => Spt w w' L E 1 8 8 40 s5 (σ + 2) q ∧ Grid w w' L E rs F b1 c1 b2 c2 ∧ WtAt w' X W ∧ At w' D 0 37 #[.int .i64 4, .int .u64 0, .int .i64 0, .int .i64 τ] [.int .i64 4, .int .u64 0, .int .i64 0, .int .i64 τ]) ⟨HB5, HG5, HT5, HD5⟩ ?_
                    clear HB5 HG5 HT5 HD5 B5 o5 hD x0 x1 x2 x3 x4 HB HG HT z0 z1 z2 z3 z4 z5 z6 z7 z8
                    rintro W9 ⟨B, G, wt, dn⟩
                    refine wp_region_rely Grown [.val (.pointer (some ⟨X, 2, none⟩)), .val (.int .i64 W.ix), .val (.bool true), .val (.bool true), .val undef, .val undef, .val undef, .val undef, .val undef, .val undef, .val undef, .val undef, .val (.bool true)] (by kernel_rfl) Grown.refl Grown.trans (by kernel_rfl) (by kernel_rfl) (by kernel_rfl) ?_
                    simp only [relyAll, Act.put, List.setIfInBounds_toArray, List.set_cons_zero, List.set_cons_succ]
                    refine ⟨?_, ?_, ?_, ?_, ?_, ?_, ?_, ?_, ?_, ?_, ?_, ?_, ?_, ?_⟩
                    · intro w' hg _
                      refine Or.inl ⟨rfl, ?_⟩
                      go_simp
                      exact ⟨Grown.refl _, by first | rfl | (simp [Want.pred]; done) | (simp [Want.pred]; omega)⟩
                    · intro w' hg _
                      refine Or.inl ⟨rfl, ?_⟩
                      have z := (wt.drew.grown hg).c2
                      go_simp
                      exact ⟨Grown.refl _, by first | rfl | (simp [Want.pred]; done) | (simp [Want.pred]; omega)⟩
                    · intro w' hg _
                      refine Or.inl ⟨rfl, ?_⟩
                      go_simp
                      exact ⟨Grown.refl _, by first | rfl | (simp [Want.pred]; done) | (simp [Want.pred]; omega)⟩
                    · intro w' hg _
                      refine Or.inl ⟨rfl, ?_⟩
                      go_simp
                      exact ⟨Grown.refl _, by first | rfl | (simp [Want.pred]; done) | (simp [Want.pred]; omega)⟩
                    · intro w' hg _
                      exact Or.inr ⟨rfl, rfl⟩
                    · intro w' hg _
                      exact Or.inr ⟨rfl, rfl⟩
                    · intro w' hg _
                      exact Or.inr ⟨rfl, rfl⟩
                    · intro w' hg _
                      exact Or.inr ⟨rfl, rfl⟩
                    · intro w' hg _
                      exact Or.inr ⟨rfl, rfl⟩
                    · intro w' hg _
                      exact Or.inr ⟨rfl, rfl⟩
                    · intro w' hg _
                      exact Or.inr ⟨rfl, rfl⟩
                    · intro w' hg _
                      exact Or.inr ⟨rfl, rfl⟩
                    · intro w' hg _
                      refine Or.inl ⟨rfl, ?_⟩
                      go_simp
                      exact ⟨Grown.refl _, by first | rfl | (simp [Want.pred]; done) | (simp [Want.pred]; omega)⟩
                    intro w10 hg _
                    have B := (B.grown ((Below.refl _ _).drew)).grown hg
                    have G := (G.grown ((Below.refl _ _).drew)).grown hg
                    have wt := wt.drew.grown hg
                    have dn := dn.drew.grown hg
                    clear hg
                    have x0 := wt.c0
                    have x3 := wt.c3
                    have x4 := wt.c4
                    have d0 := dn.at0 0 rfl
                    have d2 := dn.at0 2 rfl
                    have HB9 : Hid (Spt w w10 L E 1 8 8 40 s5 (σ + 2) q) := B
                    have HG9 : Hid (Grid w w10 L E rs F b1 c1 b2 c2) := G
                    clear B G wt dn
                    go_wp2
                    go_roundw
                    case rel => exact ⟨i + 1, s5, σ + 2, q, F, by go_num, by omega, by omega, HB9.out, HG9.out, HCR.out⟩
                    case measure => simp [intOf]; omega
                · by_cases hz : W.ix < (ρ.o.Z : Int)
                  · obtain ⟨j, hj⟩ : ∃ j : Nat, W.ix = (j : Int) := ⟨W.ix.toNat, by omega⟩
                    have hjZ : j < ρ.o.Z := by omega
                    have hjZ' : (j : Int) < (ρ.o.Z : Int) := by omega
                    obtain ⟨fv, hfv⟩ : ∃ fv, F K j = fv := ⟨_, rfl⟩
                    clear hn hz
                    by_cases hk1 : W.kd = 1
                    · skip
                      as_aux_lemma =>
                        obtain ⟨τ, hτ⟩ : ∃ τ, σ + 3 = τ := ⟨_, rfl⟩
                        have ru := HCR.out.reads HRO.out (W := W) (σ := σ) hjZ hj (E := 0) (Or.inl ⟨hk1, rfl⟩)
                        have HCR5 : Hid (Crop q rs F) := HCR.out
                        rw [hτ, hfv] at ru
                        have CL := HB.out.do FA.out (HCR.out.sc K ρ HRO.out).wd HWN.out hxn HWO.out (by omega) (N := 4) (by decide) (ru)
                        have HT1 : Hid (1 ≤ (τ : Int) ∧ (τ : Int) ≤ ((σ + 4 : Nat) : Int)) := ⟨by omega, by omega⟩
                        have HKV : Hid (W.kd = 1) := hk1
                        have HFV : Hid (F K j = fv) := hfv
                        have HHJ : Hid (W.ix = (j : Int)) := hj
                        have HJZ : Hid (j < ρ.o.Z) := hjZ
                        clear ru hτ hfv hj hk1 HCR
                        have x0 := HT.out.c0
                        have x1 := HT.out.c1
                        have x2 := HT.out.c2
                        have x3 := HT.out.c3
                        have x4 := HT.out.c4
                        go_wp2_with (go_at_call 13; refine CL.mono ?_; rintro e w5 ⟨rfl, s5, B5, o5, -⟩)
                        have HB5 := B5.grown (grow1 w5 (.cells #[.int .i64 0, .int .u64 0, .int .i64 fv, .int .i64 τ] 37))
                        have HG5 := (HG.out.mem o5).grown (grow1 w5 (.cells #[.int .i64 0, .int .u64 0, .int .i64 fv, .int .i64 τ] 37))
                        have HT5 := (HT.out.only o5 HXL.out).grown (grow1 w5 (.cells #[.int .i64 0, .int .u64 0, .int .i64 fv, .int .i64 τ] 37))
                        have HD5 := At.new w5 37 [.int .i64 0, .int .u64 0, .int .i64 fv, .int .i64 τ]
                        obtain ⟨D, hD⟩ : ∃ D, w5.heap.size = D := ⟨_, rfl⟩
                        have HDG : Hid (∀ b, Gh rs b1 b2 b → b ≠ D) := fun b hb => by have := (HG.out.mem o5).lt hb; omega
                        rw [hD] at HD5 ⊢
                        refine wp_over (fun w' => Spt w w' L E 1 8 8 40 s5 (σ + 4) q ∧ Grid w w' L E rs F b1 c1 b2 c2 ∧ WtAt w' X W ∧ At w' D 0 37 #[.int .i64 0, .int .u64 0, .int .i64 fv, .int .i64 τ] [.int .i64 0, .int .u64 0, .int .i64 fv, .int .i64 τ]) ⟨HB5, HG5, HT5, HD5⟩ ?_
                        clear HB5 HG5 HT5 HD5 B5 o5 hD x0 x1 x2 x3 x4 HB HG HT z0 z1 z2 z3 z4 z5 z6 z7 z8
                        rintro W9 ⟨B, G, wt, dn⟩
                        have hjn : ¬ (j : Int) < 0 := by omega
                        have hjg : ¬ (ρ.o.Z : Int) ≤ (j : Int) := by omega
                        refine wp_region_rely Grown [.val (.pointer (some ⟨X, 2, none⟩)), .val (.int .i64 j), .val (.bool false), .val (.bool false), .val (.pointer (some ⟨X, 2, none⟩)), .val (.int .i64 j), .val (.slice (some ⟨b2, 0, none⟩) rs.length c2), .val (.int .i64 K), .val (.pointer (some ⟨b2, K, none⟩)), .val (.slice (some ⟨ρ.b, 0, none⟩) ρ.o.Z ρ.o.Z), .val (.int .i64 ρ.o.Z), .val (.bool false), .val (.bool false)] (by kernel_rfl) Grown.refl Grown.trans (by kernel_rfl) (by kernel_rfl) (by kernel_rfl) ?_
                        simp only [relyAll, Act.put, List.setIfInBounds_toArray, List.set_cons_zero, List.set_cons_succ]
                        refine ⟨?_, ?_, ?_, ?_, ?_, ?_, ?_, ?_, ?_, ?_, ?_, ?_, ?_, ?_⟩
                        · intro w' hg _
                          refine Or.inl ⟨rfl, ?_⟩
                          go_simp
                          exact ⟨Grown.refl _, by first | rfl | (simp [Want.pred]; done) | (simp [Want.pred]; omega)⟩
                        · intro w' hg _
                          refine Or.inl ⟨rfl, ?_⟩
                          have z := (wt.drew.grown hg).c2
                          rw [HHJ.out] at z
                          go_simp
                          exact ⟨Grown.refl _, by first | rfl | (simp [Want.pred]; done) | (simp [Want.pred]; omega)⟩
                        · intro w' hg _
                          refine Or.inl ⟨rfl, ?_⟩
                          go_simp
                          exact ⟨Grown.refl _, by first | rfl | (simp [Want.pred]; done) | (simp [Want.pred]; omega)⟩
                        · intro w' hg _
                          refine Or.inl ⟨rfl, ?_⟩
                          go_simp
                          exact ⟨Grown.refl _, by first | rfl | (simp [Want.pred]; done) | (simp [Want.pred]; omega)⟩
                        · intro w' hg _
                          refine Or.inl ⟨rfl, ?_⟩
                          go_simp
                          exact ⟨Grown.refl _, by first | rfl | (simp [Want.pred]; done) | (simp [Want.pred]; omega)⟩
                        · intro w' hg _
                          refine Or.inl ⟨rfl, ?_⟩
                          have z := (wt.drew.grown hg).c2
                          rw [HHJ.out] at z
                          go_simp
                          exact ⟨Grown.refl _, by first | rfl | (simp [Want.pred]; done) | (simp [Want.pred]; omega)⟩
                        · intro w' hg _
                          refine Or.inl ⟨rfl, ?_⟩
                          go_simp
                          exact ⟨Grown.refl _, by first | rfl | (simp [Want.pred]; done) | (simp [Want.pred]; omega)⟩
                        · intro w' hg _
                          refine Or.inl ⟨rfl, ?_⟩
                          go_simp
                          exact ⟨Grown.refl _, by first | rfl | (simp [Want.pred]; done) | (simp [Want.pred]; omega)⟩
                        · intro w' hg _
                          refine Or.inl ⟨rfl, ?_⟩
                          have hb : (0 : Int) ≤ (K : Int) := by omega
                          have hb2 : (K : Int) < (rs.length : Int) := by omega
                          go_simp
                          exact ⟨Grown.refl _, by first | rfl | (simp [Want.pred]; done) | (simp [Want.pred]; omega)⟩
                        · intro w' hg _
                          refine Or.inl ⟨rfl, ?_⟩
                          have z : w'.cell? ⟨b2, K, none⟩ = some (.slice (some ⟨ρ.b, 0, none⟩) ρ.o.Z ρ.o.Z) := ((G.grown ((Below.refl _ _).drew)).grown hg).r2.cell (by rw [List.getElem?_map, HRO.out]; rfl)
                          go_simp
                          exact ⟨Grown.refl _, by first | rfl | (simp [Want.pred]; done) | (simp [Want.pred]; omega)⟩
                        · intro w' hg _
                          refine Or.inl ⟨rfl, ?_⟩
                          go_simp
                          exact ⟨Grown.refl _, by first | rfl | (simp [Want.pred]; done) | (simp [Want.pred]; omega)⟩
                        · intro w' hg _
                          refine Or.inl ⟨rfl, ?_⟩
                          go_simp
                          exact ⟨Grown.refl _, by first | rfl | (simp [Want.pred]; done) | (simp [Want.pred]; omega)⟩
                        · intro w' hg _
                          refine Or.inl ⟨rfl, ?_⟩
                          go_simp
                          exact ⟨Grown.refl _, by first | rfl | (simp [Want.pred]; done) | (simp [Want.pred]; omega)⟩
                        intro w10 hg _
                        have B := (B.grown ((Below.refl _ _).drew)).grown hg
                        have G := (G.grown ((Below.refl _ _).drew)).grown hg
                        have wt := wt.drew.grown hg
                        have dn := dn.drew.grown hg
                        clear hg
                        go_wp2
                        refine wp_region_rely Grown [.val (.slice (some ⟨b2, 0, none⟩) rs.length c2), .val (.int .i64 K), .val (.pointer (some ⟨b2, K, none⟩)), .val (.slice (some ⟨ρ.b, 0, none⟩) ρ.o.Z ρ.o.Z), .val (.pointer (some ⟨X, 2, none⟩)), .val (.int .i64 j), .val (.pointer (some ⟨ρ.b, j, none⟩)), .val (.int .i64 fv), .val (.int .i64 fv), .val (.int .i64 0)] (by kernel_rfl) Grown.refl Grown.trans (by kernel_rfl) (by kernel_rfl) (by kernel_rfl) ?_
                        simp only [relyAll, Act.put, List.setIfInBounds_toArray, List.set_cons_zero, List.set_cons_succ]
                        refine ⟨?_, ?_, ?_, ?_, ?_, ?_, ?_, ?_, ?_, ?_, ?_⟩
                        · intro w' hg _
                          refine Or.inl ⟨rfl, ?_⟩
                          go_simp
                          exact ⟨Grown.refl _, by first | rfl | (simp [Want.pred]; done) | (simp [Want.pred]; omega)⟩
                        · intro w' hg _
                          refine Or.inl ⟨rfl, ?_⟩
                          go_simp
                          exact ⟨Grown.refl _, by first | rfl | (simp [Want.pred]; done) | (simp [Want.pred]; omega)⟩
                        · intro w' hg _
                          refine Or.inl ⟨rfl, ?_⟩
                          have hb : (0 : Int) ≤ (K : Int) := by omega
                          have hb2 : (K : Int) < (rs.length : Int) := by omega
                          go_simp
                          exact ⟨Grown.refl _, by first | rfl | (simp [Want.pred]; done) | (simp [Want.pred]; omega)⟩
                        · intro w' hg _
                          refine Or.inl ⟨rfl, ?_⟩
                          have z : w'.cell? ⟨b2, K, none⟩ = some (.slice (some ⟨ρ.b, 0, none⟩) ρ.o.Z ρ.o.Z) := ((G.grown ((Below.refl _ _).drew)).grown hg).r2.cell (by rw [List.getElem?_map, HRO.out]; rfl)
                          go_simp
                          exact ⟨Grown.refl _, by first | rfl | (simp [Want.pred]; done) | (simp [Want.pred]; omega)⟩
                        · intro w' hg _
                          refine Or.inl ⟨rfl, ?_⟩
                          go_simp
                          exact ⟨Grown.refl _, by first | rfl | (simp [Want.pred]; done) | (simp [Want.pred]; omega)⟩
                        · intro w' hg _
                          refine Or.inl ⟨rfl, ?_⟩
                          have z := (wt.drew.grown hg).c2
                          rw [HHJ.out] at z
                          go_simp
                          exact ⟨Grown.refl _, by first | rfl | (simp [Want.pred]; done) | (simp [Want.pred]; omega)⟩
                        · intro w' hg _
                          refine Or.inl ⟨rfl, ?_⟩
                          have hb : (0 : Int) ≤ (j : Int) := by omega
                          have hb2 : (j : Int) < (ρ.o.Z : Int) := by omega
                          go_simp
                          exact ⟨Grown.refl _, by first | rfl | (simp [Want.pred]; done) | (simp [Want.pred]; omega)⟩
                        · intro w' hg _
                          refine Or.inl ⟨rfl, ?_⟩
                          have z := (((G.grown ((Below.refl _ _).drew)).grown hg).wr K ρ HRO.out).cell HJZ.out
                          rw [HFV.out] at z
                          go_simp
                          exact ⟨Grown.refl _, by first | rfl | (simp [Want.pred]; done) | (simp [Want.pred]; omega)⟩
                        · intro w' hg _
                          refine Or.inl ⟨rfl, ?_⟩
                          go_simp
                          exact ⟨Grown.refl _, by first | rfl | (simp [Want.pred]; done) | (simp [Want.pred]; omega)⟩
                        · intro w' hg _
                          refine Or.inl ⟨rfl, ?_⟩
                          go_simp
                          exact ⟨Grown.refl _, by first | rfl | (simp [Want.pred]; done) | (simp [Want.pred]; omega)⟩
                        intro w11 hg _
                        have B := (B.grown ((Below.refl _ _).drew)).grown hg
                        have G := (G.grown ((Below.refl _ _).drew)).grown hg
                        have wt := wt.drew.grown hg
                        have dn := dn.drew.grown hg
                        clear hg
                        have x0 := wt.c0
                        have x3 := wt.c3
                        have x4 := wt.c4
                        have d0 := dn.at0 0 rfl
                        have d2 := dn.at0 2 rfl
                        have hkv := HKV.out
                        rw [hkv] at x0
                        clear hkv
                        go_wp2
                        have hst : s5.steps = ((σ + 4 : Nat) : Int) := B.tw.pile.st
                        have ht := HT1.out
                        obtain ⟨σ5, hσ5⟩ : ∃ σ5, σ + 4 = σ5 := ⟨_, rfl⟩
                        rw [hσ5] at B hst ht
                        have HS5 : Hid (σ + 4 = σ5) := hσ5
                        have HST : Hid (s5.steps = (σ5 : Int)) := hst
                        have ht1 : ¬ (τ : Int) < 1 := by omega
                        have ht2 : ¬ (σ5 : Int) < (τ : Int) := by omega
                        clear hst hσ5 HT1 ht
                        refine wp_region_rely Grown [.val (.pointer (some ⟨D, 0, none⟩)), .val (.int .i64 0), .val (.int .i64 0), .val (.bool false), .val (.bool false), .val (.pointer (some ⟨D, 2, none⟩)), .val (.int .i64 fv), .val (.int .i64 fv), .val (.bool false), .val (.bool false), .val (.bool false), .val (.pointer (some ⟨D, 3, none⟩)), .val (.int .i64 τ), .val (.bool false), .val (.bool false), .val (.bool false), .val (.pointer (some ⟨D, 3, none⟩)), .val (.int .i64 τ), .val (.agg #[.int .i64 1, .int .i64 8, .int .i64 8, .int .i64 40, .int .i64 100, .int .i64 600, .int .i64 3, .pointer (some ⟨L.p, 0, none⟩), .int .i64 0]), .val (.int .i64 σ5), .val (.bool false), .val (.bool false)] (by kernel_rfl) Grown.refl Grown.trans (by kernel_rfl) (by kernel_rfl) (by kernel_rfl) ?_
                        simp only [relyAll, Act.put, List.setIfInBounds_toArray, List.set_cons_zero, List.set_cons_succ]
                        refine ⟨?_, ?_, ?_, ?_, ?_, ?_, ?_, ?_, ?_, ?_, ?_, ?_, ?_, ?_, ?_, ?_, ?_, ?_, ?_, ?_, ?_, ?_, ?_⟩
                        · intro w' hg _
                          refine Or.inl ⟨rfl, ?_⟩
                          go_simp
                          exact ⟨Grown.refl _, by first | rfl | (simp [Want.pred]; done) | (simp [Want.pred]; omega)⟩
                        · intro w' hg _
                          refine Or.inl ⟨rfl, ?_⟩
                          have z := (dn.drew.grown hg).at0 0 rfl
                          go_simp
                          exact ⟨Grown.refl _, by first | rfl | (simp [Want.pred]; done) | (simp [Want.pred]; omega)⟩
                        · intro w' hg _
                          refine Or.inl ⟨rfl, ?_⟩
                          go_simp
                          exact ⟨Grown.refl _, by first | rfl | (simp [Want.pred]; done) | (simp [Want.pred]; omega)⟩
                        · intro w' hg _
                          refine Or.inl ⟨rfl, ?_⟩
                          go_simp
                          exact ⟨Grown.refl _, by first | rfl | (simp [Want.pred]; done) | (simp [Want.pred]; omega)⟩
                        · intro w' hg _
                          refine Or.inl ⟨rfl, ?_⟩
                          go_simp
                          exact ⟨Grown.refl _, by first | rfl | (simp [Want.pred]; done) | (simp [Want.pred]; omega)⟩
                        · intro w' hg _
                          refine Or.inl ⟨rfl, ?_⟩
                          go_simp
                          exact ⟨Grown.refl _, by first | rfl | (simp [Want.pred]; done) | (simp [Want.pred]; omega)⟩
                        · intro w' hg _
                          refine Or.inl ⟨rfl, ?_⟩
                          have z := (dn.drew.grown hg).at0 2 rfl
                          go_simp
                          exact ⟨Grown.refl _, by first | rfl | (simp [Want.pred]; done) | (simp [Want.pred]; omega)⟩
                        · intro w' hg _
                          refine Or.inl ⟨rfl, ?_⟩
                          go_simp
                          exact ⟨Grown.refl _, by first | rfl | (simp [Want.pred]; done) | (simp [Want.pred]; omega)⟩
                        · intro w' hg _
                          refine Or.inl ⟨rfl, ?_⟩
                          go_simp
                          exact ⟨Grown.refl _, by first | rfl | (simp [Want.pred]; done) | (simp [Want.pred]; omega)⟩
                        · intro w' hg _
                          refine Or.inl ⟨rfl, ?_⟩
                          go_simp
                          exact ⟨Grown.refl _, by first | rfl | (simp [Want.pred]; done) | (simp [Want.pred]; omega)⟩
                        · intro w' hg _
                          refine Or.inl ⟨rfl, ?_⟩
                          go_simp
                          exact ⟨Grown.refl _, by first | rfl | (simp [Want.pred]; done) | (simp [Want.pred]; omega)⟩
                        · intro w' hg _
                          refine Or.inl ⟨rfl, ?_⟩
                          go_simp
                          exact ⟨Grown.refl _, by first | rfl | (simp [Want.pred]; done) | (simp [Want.pred]; omega)⟩
                        · intro w' hg _
                          refine Or.inl ⟨rfl, ?_⟩
                          have z := (dn.drew.grown hg).at0 3 rfl
                          go_simp
                          exact ⟨Grown.refl _, by first | rfl | (simp [Want.pred]; done) | (simp [Want.pred]; omega)⟩
                        · intro w' hg _
                          refine Or.inl ⟨rfl, ?_⟩
                          go_simp
                          exact ⟨Grown.refl _, by first | rfl | (simp [Want.pred]; done) | (simp [Want.pred]; omega)⟩
                        · intro w' hg _
                          refine Or.inl ⟨rfl, ?_⟩
                          go_simp
                          exact ⟨Grown.refl _, by first | rfl | (simp [Want.pred]; done) | (simp [Want.pred]; omega)⟩
                        · intro w' hg _
                          refine Or.inl ⟨rfl, ?_⟩
                          go_simp
                          exact ⟨Grown.refl _, by first | rfl | (simp [Want.pred]; done) | (simp [Want.pred]; omega)⟩
                        · intro w' hg _
                          refine Or.inl ⟨rfl, ?_⟩
                          go_simp
                          exact ⟨Grown.refl _, by first | rfl | (simp [Want.pred]; done) | (simp [Want.pred]; omega)⟩
                        · intro w' hg _
                          refine Or.inl ⟨rfl, ?_⟩
                          have z := (dn.drew.grown hg).at0 3 rfl
                          go_simp
                          exact ⟨Grown.refl _, by first | rfl | (simp [Want.pred]; done) | (simp [Want.pred]; omega)⟩
                        · intro w' hg _
                          refine Or.inl ⟨rfl, ?_⟩
                          have vv := (B.v.grown ((Below.refl _ _).drew)).grown hg
                          have y0 := vv.c0
                          have y1 := vv.c1
                          have y2 := vv.c2
                          have y3 := vv.c3
                          have y4 := vv.c4
                          have y5 := vv.c5
                          have y6 := vv.c6
                          have y7 := vv.c7
                          have y8 := vv.c8
                          go_simp
                          exact ⟨Grown.refl _, rfl⟩
                        · intro w' hg _
                          refine Or.inl ⟨rfl, ?_⟩
                          go_simp
                          refine (now_any (B.mm.drew.below hg) _ _ _ _ _ _ _ _ σ5 HST.out).mono ?_
                          rintro e w'' ⟨rfl, b9⟩
                          exact ⟨_, rfl, b9, rfl⟩
                        · intro w' hg _
                          refine Or.inl ⟨rfl, ?_⟩
                          go_simp
                          exact ⟨Grown.refl _, by first | rfl | (simp [Want.pred]; done) | (simp [Want.pred]; omega)⟩
                        · intro w' hg _
                          refine Or.inl ⟨rfl, ?_⟩
                          go_simp
                          exact ⟨Grown.refl _, by first | rfl | (simp [Want.pred]; done) | (simp [Want.pred]; omega)⟩
                        intro w13 hg _
                        have B := (B.grown ((Below.refl _ _).drew)).grown hg
                        have G := (G.grown ((Below.refl _ _).drew)).grown hg
                        have wt := wt.drew.grown hg
                        have dn := dn.drew.grown hg
                        clear hg
                        have HB9 : Hid (Spt w w13 L E 1 8 8 40 s5 σ5 q) := B
                        have HG9 : Hid (Grid w w13 L E rs F b1 c1 b2 c2) := G
                        clear B G wt dn
                        go_wp2
                        go_roundw
                        case rel =>
                          have := HS5.out
                          exact ⟨i + 1, s5, σ5, q, _, by go_num, by omega, by omega, HB9.out, HG9.out, HCR5.out⟩
                        case measure => simp [intOf]; omega
                    · by_cases hk2 : W.kd = 2
                      · skip
                        as_aux_lemma =>
                          obtain ⟨τ, hτ⟩ : ∃ τ, σ + 4 = τ := ⟨_, rfl⟩
                          obtain ⟨q5, ru, Cr5⟩ := HCR.out.lays HRO.out (W := W) (σ := σ) hjZ hj HWV.out (Or.inl hk2)
                          have HCR5 : Hid (Crop q5 rs (fun K' j' => if K' = K ∧ j' = j then W.vl else F K' j')) := Cr5
                          clear Cr5
                          rw [hτ, hfv] at ru
                          have CL := HB.out.do FA.out (HCR.out.sc K ρ HRO.out).wd HWN.out hxn HWO.out (by omega) (N := 4) (by decide) (ru)
                          have HT1 : Hid (1 ≤ (τ : Int) ∧ (τ : Int) ≤ ((σ + 4 : Nat) : Int)) := ⟨by omega, by omega⟩
                          have HKV : Hid (W.kd = 2) := hk2
                          have HFV : Hid (F K j = fv) := hfv
                          have HHJ : Hid (W.ix = (j : Int)) := hj
                          have HJZ : Hid (j < ρ.o.Z) := hjZ
                          clear ru hτ hfv hj hk1 hk2 HCR
                          have x0 := HT.out.c0
                          have x1 := HT.out.c1
                          have x2 := HT.out.c2
                          have x3 := HT.out.c3
                          have x4 := HT.out.c4
                          go_wp2_with (go_at_call 13; refine CL.mono ?_; rintro e w5 ⟨rfl, s5, B5, o5, -⟩)
                          have HB5 := B5.grown (grow1 w5 (.cells #[.int .i64 0, .int .u64 0, .int .i64 fv, .int .i64 τ] 37))
                          have HG5 := (HG.out.mem o5).grown (grow1 w5 (.cells #[.int .i64 0, .int .u64 0, .int .i64 fv, .int .i64 τ] 37))
                          have HT5 := (HT.out.only o5 HXL.out).grown (grow1 w5 (.cells #[.int .i64 0, .int .u64 0, .int .i64 fv, .int .i64 τ] 37))
                          have HD5 := At.new w5 37 [.int .i64 0, .int .u64 0, .int .i64 fv, .int .i64 τ]
                          obtain ⟨D, hD⟩ : ∃ D, w5.heap.size = D := ⟨_, rfl⟩
                          have HDG : Hid (∀ b, Gh rs b1 b2 b → b ≠ D) := fun b hb => by have := (HG.out.mem o5).lt hb; omega
                          rw [hD] at HD5 ⊢
                          refine wp_over (fun w' => Spt w w' L E 1 8 8 40 s5 (σ + 4) q5 ∧ Grid w w' L E rs F b1 c1 b2 c2 ∧ WtAt w' X W ∧ At w' D 0 37 #[.int .i64 0, .int .u64 0, .int .i64 fv, .int .i64 τ] [.int .i64 0, .int .u64 0, .int .i64 fv, .int .i64 τ]) ⟨HB5, HG5, HT5, HD5⟩ ?_
                          clear HB5 HG5 HT5 HD5 B5 o5 hD x0 x1 x2 x3 x4 HB HG HT z0 z1 z2 z3 z4 z5 z6 z7 z8
                          rintro W9 ⟨B, G, wt, dn⟩
                          have hjn : ¬ (j : Int) < 0 := by omega
                          have hjg : ¬ (ρ.o.Z : Int) ≤ (j : Int) := by omega
                          refine wp_region_rely Grown [.val (.pointer (some ⟨X, 2, none⟩)), .val (.int .i64 j), .val (.bool false), .val (.bool false), .val (.pointer (some ⟨X, 2, none⟩)), .val (.int .i64 j), .val (.slice (some ⟨b2, 0, none⟩) rs.length c2), .val (.int .i64 K), .val (.pointer (some ⟨b2, K, none⟩)), .val (.slice (some ⟨ρ.b, 0, none⟩) ρ.o.Z ρ.o.Z), .val (.int .i64 ρ.o.Z), .val (.bool false), .val (.bool false)] (by kernel_rfl) Grown.refl Grown.trans (by kernel_rfl) (by kernel_rfl) (by kernel_rfl) ?_
                          simp only [relyAll, Act.put, List.setIfInBounds_toArray, List.set_cons_zero, List.set_cons_succ]
                          refine ⟨?_, ?_, ?_, ?_, ?_, ?_, ?_, ?_, ?_, ?_, ?_, ?_, ?_, ?_⟩
                          · intro w' hg _
                            refine Or.inl ⟨rfl, ?_⟩
                            go_simp
                            exact ⟨Grown.refl _, by first | rfl | (simp [Want.pred]; done) | (simp [Want.pred]; omega)⟩
                          · intro w' hg _
                            refine Or.inl ⟨rfl, ?_⟩
                            have z := (wt.drew.grown hg).c2
                            rw [HHJ.out] at z
                            go_simp
                            exact ⟨Grown.refl _, by first | rfl | (simp [Want.pred]; done) | (simp [Want.pred]; omega)⟩
                          · intro w' hg _
                            refine Or.inl ⟨rfl, ?_⟩
                            go_simp
                            exact ⟨Grown.refl _, by first | rfl | (simp [Want.pred]; done) | (simp [Want.pred]; omega)⟩
                          · intro w' hg _
                            refine Or.inl ⟨rfl, ?_⟩
                            go_simp
                            exact ⟨Grown.refl _, by first | rfl | (simp [Want.pred]; done) | (simp [Want.pred]; omega)⟩
                          · intro w' hg _
                            refine Or.inl ⟨rfl, ?_⟩
                            go_simp
                            exact ⟨Grown.refl _, by first | rfl | (simp [Want.pred]; done) | (simp [Want.pred]; omega)⟩
                          · intro w' hg _
                            refine Or.inl ⟨rfl, ?_⟩
                            have z := (wt.drew.grown hg).c2
                            rw [HHJ.out] at z
                            go_simp
                            exact ⟨Grown.refl _, by first | rfl | (simp [Want.pred]; done) | (simp [Want.pred]; omega)⟩
                          · intro w' hg _
                            refine Or.inl ⟨rfl, ?_⟩
                            go_simp
                            exact ⟨Grown.refl _, by first | rfl | (simp [Want.pred]; done) | (simp [Want.pred]; omega)⟩
                          · intro w' hg _
                            refine Or.inl ⟨rfl, ?_⟩
                            go_simp
                            exact ⟨Grown.refl _, by first | rfl | (simp [Want.pred]; done) | (simp [Want.pred]; omega)⟩
                          · intro w' hg _
                            refine Or.inl ⟨rfl, ?_⟩
                            have hb : (0 : Int) ≤ (K : Int) := by omega
                            have hb2 : (K : Int) < (rs.length : Int) := by omega
                            go_simp
                            exact ⟨Grown.refl _, by first | rfl | (simp [Want.pred]; done) | (simp [Want.pred]; omega)⟩
                          · intro w' hg _
                            refine Or.inl ⟨rfl, ?_⟩
                            have z : w'.cell? ⟨b2, K, none⟩ = some (.slice (some ⟨ρ.b, 0, none⟩) ρ.o.Z ρ.o.Z) := ((G.grown ((Below.refl _ _).drew)).grown hg).r2.cell (by rw [List.getElem?_map, HRO.out]; rfl)
                            go_simp
                            exact ⟨Grown.refl _, by first | rfl | (simp [Want.pred]; done) | (simp [Want.pred]; omega)⟩
                          · intro w' hg _
                            refine Or.inl ⟨rfl, ?_⟩
                            go_simp
                            exact ⟨Grown.refl _, by first | rfl | (simp [Want.pred]; done) | (simp [Want.pred]; omega)⟩
                          · intro w' hg _
                            refine Or.inl ⟨rfl, ?_⟩
                            go_simp
                            exact ⟨Grown.refl _, by first | rfl | (simp [Want.pred]; done) | (simp [Want.pred]; omega)⟩
                          · intro w' hg _
                            refine Or.inl ⟨rfl, ?_⟩
                            go_simp
                            exact ⟨Grown.refl _, by first | rfl | (simp [Want.pred]; done) | (simp [Want.pred]; omega)⟩
                          intro w10 hg _
                          have B := (B.grown ((Below.refl _ _).drew)).grown hg
                          have G := (G.grown ((Below.refl _ _).drew)).grown hg
                          have wt := wt.drew.grown hg
                          have dn := dn.drew.grown hg
                          clear hg
                          go_wp2
                          refine wp_region_rely Grown [.val (.slice (some ⟨b2, 0, none⟩) rs.length c2), .val (.int .i64 K), .val (.pointer (some ⟨b2, K, none⟩)), .val (.slice (some ⟨ρ.b, 0, none⟩) ρ.o.Z ρ.o.Z), .val (.pointer (some ⟨X, 2, none⟩)), .val (.int .i64 j), .val (.pointer (some ⟨ρ.b, j, none⟩)), .val (.int .i64 fv), .val (.int .i64 fv), .val (.int .i64 0)] (by kernel_rfl) Grown.refl Grown.trans (by kernel_rfl) (by kernel_rfl) (by kernel_rfl) ?_
                          simp only [relyAll, Act.put, List.setIfInBounds_toArray, List.set_cons_zero, List.set_cons_succ]
                          refine ⟨?_, ?_, ?_, ?_, ?_, ?_, ?_, ?_, ?_, ?_, ?_⟩
                          · intro w' hg _
                            refine Or.inl ⟨rfl, ?_⟩
                            go_simp
                            exact ⟨Grown.refl _, by first | rfl | (simp [Want.pred]; done) | (simp [Want.pred]; omega)⟩
                          · intro w' hg _
                            refine Or.inl ⟨rfl, ?_⟩
                            go_simp
                            exact ⟨Grown.refl _, by first | rfl | (simp [Want.pred]; done) | (simp [Want.pred]; omega)⟩
                          · intro w' hg _
                            refine Or.inl ⟨rfl, ?_⟩
                            have hb : (0 : Int) ≤ (K : Int) := by omega
                            have hb2 : (K : Int) < (rs.length : Int) := by omega
                            go_simp
                            exact ⟨Grown.refl _, by first | rfl | (simp [Want.pred]; done) | (simp [Want.pred]; omega)⟩
                          · intro w' hg _
                            refine Or.inl ⟨rfl, ?_⟩
                            have z : w'.cell? ⟨b2, K, none⟩ = some (.slice (some ⟨ρ.b, 0, none⟩) ρ.o.Z ρ.o.Z) := ((G.grown ((Below.refl _ _).drew)).grown hg).r2.cell (by rw [List.getElem?_map, HRO.out]; rfl)
                            go_simp
                            exact ⟨Grown.refl _, by first | rfl | (simp [Want.pred]; done) | (simp [Want.pred]; omega)⟩
                          · intro w' hg _
                            refine Or.inl ⟨rfl, ?_⟩
                            go_simp
                            exact ⟨Grown.refl _, by first | rfl | (simp [Want.pred]; done) | (simp [Want.pred]; omega)⟩
                          · intro w' hg _
                            refine Or.inl ⟨rfl, ?_⟩
                            have z := (wt.drew.grown hg).c2
                            rw [HHJ.out] at z
                            go_simp
                            exact ⟨Grown.refl _, by first | rfl | (simp [Want.pred]; done) | (simp [Want.pred]; omega)⟩
                          · intro w' hg _
                            refine Or.inl ⟨rfl, ?_⟩
                            have hb : (0 : Int) ≤ (j : Int) := by omega
                            have hb2 : (j : Int) < (ρ.o.Z : Int) := by omega
                            go_simp
                            exact ⟨Grown.refl _, by first | rfl | (simp [Want.pred]; done) | (simp [Want.pred]; omega)⟩
                          · intro w' hg _
                            refine Or.inl ⟨rfl, ?_⟩
                            have z := (((G.grown ((Below.refl _ _).drew)).grown hg).wr K ρ HRO.out).cell HJZ.out
                            rw [HFV.out] at z
                            go_simp
                            exact ⟨Grown.refl _, by first | rfl | (simp [Want.pred]; done) | (simp [Want.pred]; omega)⟩
                          · intro w' hg _
                            refine Or.inl ⟨rfl, ?_⟩
                            go_simp
                            exact ⟨Grown.refl _, by first | rfl | (simp [Want.pred]; done) | (simp [Want.pred]; omega)⟩
                          · intro w' hg _
                            refine Or.inl ⟨rfl, ?_⟩
                            go_simp
                            exact ⟨Grown.refl _, by first | rfl | (simp [Want.pred]; done) | (simp [Want.pred]; omega)⟩
                          intro w11 hg _
                          have B := (B.grown ((Below.refl _ _).drew)).grown hg
                          have G := (G.grown ((Below.refl _ _).drew)).grown hg
                          have wt := wt.drew.grown hg
                          have dn := dn.drew.grown hg
                          clear hg
                          have x0 := wt.c0
                          have x3 := wt.c3
                          have x4 := wt.c4
                          have d0 := dn.at0 0 rfl
                          have d2 := dn.at0 2 rfl
                          have hkv := HKV.out
                          rw [hkv] at x0
                          clear hkv
                          go_wp2
                          refine wp_region_rely_tail Grown 9 [.val (.slice (some ⟨b2, 0, none⟩) rs.length c2), .val (.int .i64 K), .val (.pointer (some ⟨b2, K, none⟩)), .val (.slice (some ⟨ρ.b, 0, none⟩) ρ.o.Z ρ.o.Z), .val (.pointer (some ⟨X, 2, none⟩)), .val (.int .i64 j), .val (.pointer (some ⟨X, 3, none⟩)), .val (.int .i64 W.vl), .val (.pointer (some ⟨ρ.b, j, none⟩))] (by kernel_rfl) Grown.refl Grown.trans (by decide) (by kernel_rfl) (by kernel_rfl) (by kernel_rfl) (by kernel_rfl) (by kernel_rfl) (by kernel_rfl) ?_
                          simp only [List.take_succ_cons, List.take_zero, relyAll, Act.put, List.setIfInBounds_toArray, List.set_cons_zero, List.set_cons_succ]
                          refine ⟨?_, ?_, ?_, ?_, ?_, ?_, ?_, ?_, ?_, ?_⟩
                          · intro w' hg _
                            refine Or.inl ⟨rfl, ?_⟩
                            go_simp
                            exact ⟨Grown.refl _, by first | rfl | (simp [Want.pred]; done) | (simp [Want.pred]; omega)⟩
                          · intro w' hg _
                            refine Or.inl ⟨rfl, ?_⟩
                            go_simp
                            exact ⟨Grown.refl _, by first | rfl | (simp [Want.pred]; done) | (simp [Want.pred]; omega)⟩
                          · intro w' hg _
                            refine Or.inl ⟨rfl, ?_⟩
                            have hb : (0 : Int) ≤ (K : Int) := by omega
                            have hb2 : (K : Int) < (rs.length : Int) := by omega
                            go_simp
                            exact ⟨Grown.refl _, by first | rfl | (simp [Want.pred]; done) | (simp [Want.pred]; omega)⟩
                          · intro w' hg _
                            refine Or.inl ⟨rfl, ?_⟩
                            have z : w'.cell? ⟨b2, K, none⟩ = some (.slice (some ⟨ρ.b, 0, none⟩) ρ.o.Z ρ.o.Z) := ((G.grown ((Below.refl _ _).drew)).grown hg).r2.cell (by rw [List.getElem?_map, HRO.out]; rfl)
                            go_simp
                            exact ⟨Grown.refl _, by first | rfl | (simp [Want.pred]; done) | (simp [Want.pred]; omega)⟩
                          · intro w' hg _
                            refine Or.inl ⟨rfl, ?_⟩
                            go_simp
                            exact ⟨Grown.refl _, by first | rfl | (simp [Want.pred]; done) | (simp [Want.pred]; omega)⟩
                          · intro w' hg _
                            refine Or.inl ⟨rfl, ?_⟩
                            have z := (wt.drew.grown hg).c2
                            rw [HHJ.out] at z
                            go_simp
                            exact ⟨Grown.refl _, by first | rfl | (simp [Want.pred]; done) | (simp [Want.pred]; omega)⟩
                          · intro w' hg _
                            refine Or.inl ⟨rfl, ?_⟩
                            go_simp
                            exact ⟨Grown.refl _, by first | rfl | (simp [Want.pred]; done) | (simp [Want.pred]; omega)⟩
                          · intro w' hg _
                            refine Or.inl ⟨rfl, ?_⟩
                            have z := (wt.drew.grown hg).c3
                            go_simp
                            exact ⟨Grown.refl _, by first | rfl | (simp [Want.pred]; done) | (simp [Want.pred]; omega)⟩
                          · intro w' hg _
                            refine Or.inl ⟨rfl, ?_⟩
                            have hb : (0 : Int) ≤ (j : Int) := by omega
                            have hb2 : (j : Int) < (ρ.o.Z : Int) := by omega
                            go_simp
                            exact ⟨Grown.refl _, by first | rfl | (simp [Want.pred]; done) | (simp [Want.pred]; omega)⟩
                          intro w12 hg _
                          have B := (B.grown ((Below.refl _ _).drew)).grown hg
                          have G := (G.grown ((Below.refl _ _).drew)).grown hg
                          have wt := wt.drew.grown hg
                          have dn := dn.drew.grown hg
                          clear hg
                          have kc := (G.wr K ρ HRO.out).cell HJZ.out
                          have kf := (G.wr K ρ HRO.out).frozen j
                          have lo := G.fr K ρ HRO.out
                          have hXr : X ≠ ρ.b := fun e => HXG.out _ (Or.inr (Or.inr ⟨K, ρ, HRO.out, rfl⟩)) e.symm
                          have hDr : D ≠ ρ.b := fun e => HDG.out _ (Or.inr (Or.inr ⟨K, ρ, HRO.out, rfl⟩)) e.symm
                          have B1 := B.setIn lo.p lo.e lo.l j (.int .i64 W.vl)
                          have G1 := G.set HRO.out j W.vl
                          have wt1 := wt.other hXr j (.int .i64 W.vl)
                          have dn1 := dn.other hDr j (.int .i64 W.vl)
                          clear B G wt dn lo hXr hDr x0 x3 x4 d0 d2
                          go_wp2
                          refine wp_over (fun w' => Spt w w' L E 1 8 8 40 s5 (σ + 4) q5 ∧ Grid w w' L E rs (fun K' j' => if K' = K ∧ j' = j then W.vl else F K' j') b1 c1 b2 c2 ∧ WtAt w' X W ∧ At w' D 0 37 _ [.int .i64 0, .int .u64 0, .int .i64 fv, .int .i64 τ]) ⟨B1, G1, wt1, dn1⟩ ?_
                          clear B1 G1 wt1 dn1 kc kf
                          rintro W12 ⟨B, G, wt, dn⟩
                          have hst : s5.steps = ((σ + 4 : Nat) : Int) := B.tw.pile.st
                          have ht := HT1.out
                          obtain ⟨σ5, hσ5⟩ : ∃ σ5, σ + 4 = σ5 := ⟨_, rfl⟩
                          rw [hσ5] at B hst ht
                          have HS5 : Hid (σ + 4 = σ5) := hσ5
                          have HST : Hid (s5.steps = (σ5 : Int)) := hst
                          have ht1 : ¬ (τ : Int) < 1 := by omega
                          have ht2 : ¬ (σ5 : Int) < (τ : Int) := by omega
                          clear hst hσ5 HT1 ht
                          refine wp_region_rely Grown [.val (.pointer (some ⟨D, 0, none⟩)), .val (.int .i64 0), .val (.int .i64 0), .val (.bool false), .val (.bool false), .val (.pointer (some ⟨D, 2, none⟩)), .val (.int .i64 fv), .val (.int .i64 fv), .val (.bool false), .val (.bool false), .val (.bool false), .val (.pointer (some ⟨D, 3, none⟩)), .val (.int .i64 τ), .val (.bool false), .val (.bool false), .val (.bool false), .val (.pointer (some ⟨D, 3, none⟩)), .val (.int .i64 τ), .val (.agg #[.int .i64 1, .int .i64 8, .int .i64 8, .int .i64 40, .int .i64 100, .int .i64 600, .int .i64 3, .pointer (some ⟨L.p, 0, none⟩), .int .i64 0]), .val (.int .i64 σ5), .val (.bool false), .val (.bool false)] (by kernel_rfl) Grown.refl Grown.trans (by kernel_rfl) (by kernel_rfl) (by kernel_rfl) ?_
                          simp only [relyAll, Act.put, List.setIfInBounds_toArray, List.set_cons_zero, List.set_cons_succ]
                          refine ⟨?_, ?_, ?_, ?_, ?_, ?_, ?_, ?_, ?_, ?_, ?_, ?_, ?_, ?_, ?_, ?_, ?_, ?_, ?_, ?_, ?_, ?_, ?_⟩
                          · intro w' hg _
                            refine Or.inl ⟨rfl, ?_⟩
                            go_simp
                            exact ⟨Grown.refl _, by first | rfl | (simp [Want.pred]; done) | (simp [Want.pred]; omega)⟩
                          · intro w' hg _
                            refine Or.inl ⟨rfl, ?_⟩
                            have z := (dn.drew.grown hg).at0 0 rfl
                            go_simp
                            exact ⟨Grown.refl _, by first | rfl | (simp [Want.pred]; done) | (simp [Want.pred]; omega)⟩
                          · intro w' hg _
                            refine Or.inl ⟨rfl, ?_⟩
                            go_simp
                            exact ⟨Grown.refl _, by first | rfl | (simp [Want.pred]; done) | (simp [Want.pred]; omega)⟩
                          · intro w' hg _
                            refine Or.inl ⟨rfl, ?_⟩
                            go_simp
                            exact ⟨Grown.refl _, by first | rfl | (simp [Want.pred]; done) | (simp [Want.pred]; omega)⟩
                          · intro w' hg _
                            refine Or.inl ⟨rfl, ?_⟩
                            go_simp
                            exact ⟨Grown.refl _, by first | rfl | (simp [Want.pred]; done) | (simp [Want.pred]; omega)⟩
                          · intro w' hg _
                            refine Or.inl ⟨rfl, ?_⟩
                            go_simp
                            exact ⟨Grown.refl _, by first | rfl | (simp [Want.pred]; done) | (simp [Want.pred]; omega)⟩
                          · intro w' hg _
                            refine Or.inl ⟨rfl, ?_⟩
                            have z := (dn.drew.grown hg).at0 2 rfl
                            go_simp
                            exact ⟨Grown.refl _, by first | rfl | (simp [Want.pred]; done) | (simp [Want.pred]; omega)⟩
                          · intro w' hg _
                            refine Or.inl ⟨rfl, ?_⟩
                            go_simp
                            exact ⟨Grown.refl _, by first | rfl | (simp [Want.pred]; done) | (simp [Want.pred]; omega)⟩
                          · intro w' hg _
                            refine Or.inl ⟨rfl, ?_⟩
                            go_simp
                            exact ⟨Grown.refl _, by first | rfl | (simp [Want.pred]; done) | (simp [Want.pred]; omega)⟩
                          · intro w' hg _
                            refine Or.inl ⟨rfl, ?_⟩
                            go_simp
                            exact ⟨Grown.refl _, by first | rfl | (simp [Want.pred]; done) | (simp [Want.pred]; omega)⟩
                          · intro w' hg _
                            refine Or.inl ⟨rfl, ?_⟩
                            go_simp
                            exact ⟨Grown.refl _, by first | rfl | (simp [Want.pred]; done) | (simp [Want.pred]; omega)⟩
                          · intro w' hg _
                            refine Or.inl ⟨rfl, ?_⟩
                            go_simp
                            exact ⟨Grown.refl _, by first | rfl | (simp [Want.pred]; done) | (simp [Want.pred]; omega)⟩
                          · intro w' hg _
                            refine Or.inl ⟨rfl, ?_⟩
                            have z := (dn.drew.grown hg).at0 3 rfl
                            go_simp
                            exact ⟨Grown.refl _, by first | rfl | (simp [Want.pred]; done) | (simp [Want.pred]; omega)⟩
                          · intro w' hg _
                            refine Or.inl ⟨rfl, ?_⟩
                            go_simp
                            exact ⟨Grown.refl _, by first | rfl | (simp [Want.pred]; done) | (simp [Want.pred]; omega)⟩
                          · intro w' hg _
                            refine Or.inl ⟨rfl, ?_⟩
                            go_simp
                            exact ⟨Grown.refl _, by first | rfl | (simp [Want.pred]; done) | (simp [Want.pred]; omega)⟩
                          · intro w' hg _
                            refine Or.inl ⟨rfl, ?_⟩
                            go_simp
                            exact ⟨Grown.refl _, by first | rfl | (simp [Want.pred]; done) | (simp [Want.pred]; omega)⟩
                          · intro w' hg _
                            refine Or.inl ⟨rfl, ?_⟩
                            go_simp
                            exact ⟨Grown.refl _, by first | rfl | (simp [Want.pred]; done) | (simp [Want.pred]; omega)⟩
                          · intro w' hg _
                            refine Or.inl ⟨rfl, ?_⟩
                            have z := (dn.drew.grown hg).at0 3 rfl
                            go_simp
                            exact ⟨Grown.refl _, by first | rfl | (simp [Want.pred]; done) | (simp [Want.pred]; omega)⟩
                          · intro w' hg _
                            refine Or.inl ⟨rfl, ?_⟩
                            have vv := (B.v.grown ((Below.refl _ _).drew)).grown hg
                            have y0 := vv.c0
                            have y1 := vv.c1
                            have y2 := vv.c2
                            have y3 := vv.c3
                            have y4 := vv.c4
                            have y5 := vv.c5
                            have y6 := vv.c6
                            have y7 := vv.c7
                            have y8 := vv.c8
                            go_simp
                            exact ⟨Grown.refl _, rfl⟩
                          · intro w' hg _
                            refine Or.inl ⟨rfl, ?_⟩
                            go_simp
                            refine (now_any (B.mm.drew.below hg) _ _ _ _ _ _ _ _ σ5 HST.out).mono ?_
                            rintro e w'' ⟨rfl, b9⟩
                            exact ⟨_, rfl, b9, rfl⟩
                          · intro w' hg _
                            refine Or.inl ⟨rfl, ?_⟩
                            go_simp
                            exact ⟨Grown.refl _, by first | rfl | (simp [Want.pred]; done) | (simp [Want.pred]; omega)⟩
                          · intro w' hg _
                            refine Or.inl ⟨rfl, ?_⟩
                            go_simp
                            exact ⟨Grown.refl _, by first | rfl | (simp [Want.pred]; done) | (simp [Want.pred]; omega)⟩
                          intro w13 hg _
                          have B := (B.grown ((Below.refl _ _).drew)).grown hg
                          have G := (G.grown ((Below.refl _ _).drew)).grown hg
                          have wt := wt.drew.grown hg
                          have dn := dn.drew.grown hg
                          clear hg
                          have HB9 : Hid (Spt w w13 L E 1 8 8 40 s5 σ5 q5) := B
                          have HG9 : Hid (Grid w w13 L E rs (fun K' j' => if K' = K ∧ j' = j then W.vl else F K' j') b1 c1 b2 c2) := G
                          clear B G wt dn
                          go_wp2
                          go_roundw
                          case rel =>
                            have := HS5.out
                            exact ⟨i + 1, s5, σ5, q5, _, by go_num, by omega, by omega, HB9.out, HG9.out, HCR5.out⟩
                          case measure => simp [intOf]; omega
                      · have hk3 : W.kd = 3 := by have := HKD.out; omega
                        by_cases ho : fv = W.ol
                        · skip
                          as_aux_lemma =>
                            obtain ⟨τ, hτ⟩ : ∃ τ, σ + 4 = τ := ⟨_, rfl⟩
                            obtain ⟨q5, ru, Cr5⟩ := HCR.out.lays HRO.out (W := W) (σ := σ) hjZ hj HWV.out (Or.inr ⟨hk3, hfv.trans ho⟩)
                            have HCR5 : Hid (Crop q5 rs (fun K' j' => if K' = K ∧ j' = j then W.vl else F K' j')) := Cr5
                            clear Cr5
                            rw [hτ, hfv] at ru
                            have CL := HB.out.do FA.out (HCR.out.sc K ρ HRO.out).wd HWN.out hxn HWO.out (by omega) (N := 4) (by decide) (ru)
                            have HT1 : Hid (1 ≤ (τ : Int) ∧ (τ : Int) ≤ ((σ + 4 : Nat) : Int)) := ⟨by omega, by omega⟩
                            have HKV : Hid (W.kd = 3) := hk3
                            have HO : Hid (fv = W.ol) := ho
                            have HFV : Hid (F K j = fv) := hfv
                            have HHJ : Hid (W.ix = (j : Int)) := hj
                            have HJZ : Hid (j < ρ.o.Z) := hjZ
                            clear ru hτ hfv hj hk1 hk2 hk3 ho HCR
                            have x0 := HT.out.c0
                            have x1 := HT.out.c1
                            have x2 := HT.out.c2
                            have x3 := HT.out.c3
                            have x4 := HT.out.c4
                            go_wp2_with (go_at_call 13; refine CL.mono ?_; rintro e w5 ⟨rfl, s5, B5, o5, -⟩)
                            have HB5 := B5.grown (grow1 w5 (.cells #[.int .i64 0, .int .u64 0, .int .i64 fv, .int .i64 τ] 37))
                            have HG5 := (HG.out.mem o5).grown (grow1 w5 (.cells #[.int .i64 0, .int .u64 0, .int .i64 fv, .int .i64 τ] 37))
                            have HT5 := (HT.out.only o5 HXL.out).grown (grow1 w5 (.cells #[.int .i64 0, .int .u64 0, .int .i64 fv, .int .i64 τ] 37))
                            have HD5 := At.new w5 37 [.int .i64 0, .int .u64 0, .int .i64 fv, .int .i64 τ]
                            obtain ⟨D, hD⟩ : ∃ D, w5.heap.size = D := ⟨_, rfl⟩
                            have HDG : Hid (∀ b, Gh rs b1 b2 b → b ≠ D) := fun b hb => by have := (HG.out.mem o5).lt hb; omega
                            rw [hD] at HD5 ⊢
                            refine wp_over (fun w' => Spt w w' L E 1 8 8 40 s5 (σ + 4) q5 ∧ Grid w w' L E rs F b1 c1 b2 c2 ∧ WtAt w' X W ∧ At w' D 0 37 #[.int .i64 0, .int .u64 0, .int .i64 fv, .int .i64 τ] [.int .i64 0, .int .u64 0, .int .i64 fv, .int .i64 τ]) ⟨HB5, HG5, HT5, HD5⟩ ?_
                            clear HB5 HG5 HT5 HD5 B5 o5 hD x0 x1 x2 x3 x4 HB HG HT z0 z1 z2 z3 z4 z5 z6 z7 z8
                            rintro W9 ⟨B, G, wt, dn⟩
                            have hjn : ¬ (j : Int) < 0 := by omega
                            have hjg : ¬ (ρ.o.Z : Int) ≤ (j : Int) := by omega
                            refine wp_region_rely Grown [.val (.pointer (some ⟨X, 2, none⟩)), .val (.int .i64 j), .val (.bool false), .val (.bool false), .val (.pointer (some ⟨X, 2, none⟩)), .val (.int .i64 j), .val (.slice (some ⟨b2, 0, none⟩) rs.length c2), .val (.int .i64 K), .val (.pointer (some ⟨b2, K, none⟩)), .val (.slice (some ⟨ρ.b, 0, none⟩) ρ.o.Z ρ.o.Z), .val (.int .i64 ρ.o.Z), .val (.bool false), .val (.bool false)] (by kernel_rfl) Grown.refl Grown.trans (by kernel_rfl) (by kernel_rfl) (by kernel_rfl) ?_
                            simp only [relyAll, Act.put, List.setIfInBounds_toArray, List.set_cons_zero, List.set_cons_succ]
                            refine ⟨?_, ?_, ?_, ?_, ?_, ?_, ?_, ?_, ?_, ?_, ?_, ?_, ?_, ?_⟩
                            · intro w' hg _
                              refine Or.inl ⟨rfl, ?_⟩
                              go_simp
                              exact ⟨Grown.refl _, by first | rfl | (simp [Want.pred]; done) | (simp [Want.pred]; omega)⟩
                            · intro w' hg _
                              refine Or.inl ⟨rfl, ?_⟩
                              have z := (wt.drew.grown hg).c2
                              rw [HHJ.out] at z
                              go_simp
                              exact ⟨Grown.refl _, by first | rfl | (simp [Want.pred]; done) | (simp [Want.pred]; omega)⟩
                            · intro w' hg _
                              refine Or.inl ⟨rfl, ?_⟩
                              go_simp
                              exact ⟨Grown.refl _, by first | rfl | (simp [Want.pred]; done) | (simp [Want.pred]; omega)⟩
                            · intro w' hg _
                              refine Or.inl ⟨rfl, ?_⟩
                              go_simp
                              exact ⟨Grown.refl _, by first | rfl | (simp [Want.pred]; done) | (simp [Want.pred]; omega)⟩
                            · intro w' hg _
                              refine Or.inl ⟨rfl, ?_⟩
                              go_simp
                              exact ⟨Grown.refl _, by first | rfl | (simp [Want.pred]; done) | (simp [Want.pred]; omega)⟩
                            · intro w' hg _
                              refine Or.inl ⟨rfl, ?_⟩
                              have z := (wt.drew.grown hg).c2
                              rw [HHJ.out] at z
                              go_simp
                              exact ⟨Grown.refl _, by first | rfl | (simp [Want.pred]; done) | (simp [Want.pred]; omega)⟩
                            · intro w' hg _
                              refine Or.inl ⟨rfl, ?_⟩
                              go_simp
                              exact ⟨Grown.refl _, by first | rfl | (simp [Want.pred]; done) | (simp [Want.pred]; omega)⟩
                            · intro w' hg _
                              refine Or.inl ⟨rfl, ?_⟩
                              go_simp
                              exact ⟨Grown.refl _, by first | rfl | (simp [Want.pred]; done) | (simp [Want.pred]; omega)⟩
                            · intro w' hg _
                              refine Or.inl ⟨rfl, ?_⟩
                              have hb : (0 : Int) ≤ (K : Int) := by omega
                              have hb2 : (K : Int) < (rs.length : Int) := by omega
                              go_simp
                              exact ⟨Grown.refl _, by first | rfl | (simp [Want.pred]; done) | (simp [Want.pred]; omega)⟩
                            · intro w' hg _
                              refine Or.inl ⟨rfl, ?_⟩
                              have z : w'.cell? ⟨b2, K, none⟩ = some (.slice (some ⟨ρ.b, 0, none⟩) ρ.o.Z ρ.o.Z) := ((G.grown ((Below.refl _ _).drew)).grown hg).r2.cell (by rw [List.getElem?_map, HRO.out]; rfl)
                              go_simp
                              exact ⟨Grown.refl _, by first | rfl | (simp [Want.pred]; done) | (simp [Want.pred]; omega)⟩
                            · intro w' hg _
                              refine Or.inl ⟨rfl, ?_⟩
                              go_simp
                              exact ⟨Grown.refl _, by first | rfl | (simp [Want.pred]; done) | (simp [Want.pred]; omega)⟩
                            · intro w' hg _
                              refine Or.inl ⟨rfl, ?_⟩
                              go_simp
                              exact ⟨Grown.refl _, by first | rfl | (simp [Want.pred]; done) | (simp [Want.pred]; omega)⟩
                            · intro w' hg _
                              refine Or.inl ⟨rfl, ?_⟩
                              go_simp
                              exact ⟨Grown.refl _, by first | rfl | (simp [Want.pred]; done) | (simp [Want.pred]; omega)⟩
                            intro w10 hg _
                            have B := (B.grown ((Below.refl _ _).drew)).grown hg
                            have G := (G.grown ((Below.refl _ _).drew)).grown hg
                            have wt := wt.drew.grown hg
                            have dn := dn.drew.grown hg
                            clear hg
                            go_wp2
                            refine wp_region_rely Grown [.val (.slice (some ⟨b2, 0, none⟩) rs.length c2), .val (.int .i64 K), .val (.pointer (some ⟨b2, K, none⟩)), .val (.slice (some ⟨ρ.b, 0, none⟩) ρ.o.Z ρ.o.Z), .val (.pointer (some ⟨X, 2, none⟩)), .val (.int .i64 j), .val (.pointer (some ⟨ρ.b, j, none⟩)), .val (.int .i64 fv), .val (.int .i64 fv), .val (.int .i64 0)] (by kernel_rfl) Grown.refl Grown.trans (by kernel_rfl) (by kernel_rfl) (by kernel_rfl) ?_
                            simp only [relyAll, Act.put, List.setIfInBounds_toArray, List.set_cons_zero, List.set_cons_succ]
                            refine ⟨?_, ?_, ?_, ?_, ?_, ?_, ?_, ?_, ?_, ?_, ?_⟩
                            · intro w' hg _
                              refine Or.inl ⟨rfl, ?_⟩
                              go_simp
                              exact ⟨Grown.refl _, by first | rfl | (simp [Want.pred]; done) | (simp [Want.pred]; omega)⟩
                            · intro w' hg _
                              refine Or.inl ⟨rfl, ?_⟩
                              go_simp
                              exact ⟨Grown.refl _, by first | rfl | (simp [Want.pred]; done) | (simp [Want.pred]; omega)⟩
                            · intro w' hg _
                              refine Or.inl ⟨rfl, ?_⟩
                              have hb : (0 : Int) ≤ (K : Int) := by omega
                              have hb2 : (K : Int) < (rs.length : Int) := by omega
                              go_simp
                              exact ⟨Grown.refl _, by first | rfl | (simp [Want.pred]; done) | (simp [Want.pred]; omega)⟩
                            · intro w' hg _
                              refine Or.inl ⟨rfl, ?_⟩
                              have z : w'.cell? ⟨b2, K, none⟩ = some (.slice (some ⟨ρ.b, 0, none⟩) ρ.o.Z ρ.o.Z) := ((G.grown ((Below.refl _ _).drew)).grown hg).r2.cell (by rw [List.getElem?_map, HRO.out]; rfl)
                              go_simp
                              exact ⟨Grown.refl _, by first | rfl | (simp [Want.pred]; done) | (simp [Want.pred]; omega)⟩
                            · intro w' hg _
                              refine Or.inl ⟨rfl, ?_⟩
                              go_simp
                              exact ⟨Grown.refl _, by first | rfl | (simp [Want.pred]; done) | (simp [Want.pred]; omega)⟩
                            · intro w' hg _
                              refine Or.inl ⟨rfl, ?_⟩
                              have z := (wt.drew.grown hg).c2
                              rw [HHJ.out] at z
                              go_simp
                              exact ⟨Grown.refl _, by first | rfl | (simp [Want.pred]; done) | (simp [Want.pred]; omega)⟩
                            · intro w' hg _
                              refine Or.inl ⟨rfl, ?_⟩
                              have hb : (0 : Int) ≤ (j : Int) := by omega
                              have hb2 : (j : Int) < (ρ.o.Z : Int) := by omega
                              go_simp
                              exact ⟨Grown.refl _, by first | rfl | (simp [Want.pred]; done) | (simp [Want.pred]; omega)⟩
                            · intro w' hg _
                              refine Or.inl ⟨rfl, ?_⟩
                              have z := (((G.grown ((Below.refl _ _).drew)).grown hg).wr K ρ HRO.out).cell HJZ.out
                              rw [HFV.out] at z
                              go_simp
                              exact ⟨Grown.refl _, by first | rfl | (simp [Want.pred]; done) | (simp [Want.pred]; omega)⟩
                            · intro w' hg _
                              refine Or.inl ⟨rfl, ?_⟩
                              go_simp
                              exact ⟨Grown.refl _, by first | rfl | (simp [Want.pred]; done) | (simp [Want.pred]; omega)⟩
                            · intro w' hg _
                              refine Or.inl ⟨rfl, ?_⟩
                              go_simp
                              exact ⟨Grown.refl _, by first | rfl | (simp [Want.pred]; done) | (simp [Want.pred]; omega)⟩
                            intro w11 hg _
                            have B := (B.grown ((Below.refl _ _).drew)).grown hg
                            have G := (G.grown ((Below.refl _ _).drew)).grown hg
                            have wt := wt.drew.grown hg
                            have dn := dn.drew.grown hg
                            clear hg
                            have x0 := wt.c0
                            have x3 := wt.c3
                            have x4 := wt.c4
                            have d0 := dn.at0 0 rfl
                            have d2 := dn.at0 2 rfl
                            have hkv := HKV.out
                            rw [hkv] at x0
                            have ho := HO.out
                            rw [← ho] at x4
                            clear hkv
                            go_wp2
                            refine wp_region_rely_tail Grown 9 [.val (.slice (some ⟨b2, 0, none⟩) rs.length c2), .val (.int .i64 K), .val (.pointer (some ⟨b2, K, none⟩)), .val (.slice (some ⟨ρ.b, 0, none⟩) ρ.o.Z ρ.o.Z), .val (.pointer (some ⟨X, 2, none⟩)), .val (.int .i64 j), .val (.pointer (some ⟨X, 3, none⟩)), .val (.int .i64 W.vl), .val (.pointer (some ⟨ρ.b, j, none⟩))] (by kernel_rfl) Grown.refl Grown.trans (by decide) (by kernel_rfl) (by kernel_rfl) (by kernel_rfl) (by kernel_rfl) (by kernel_rfl) (by kernel_rfl) ?_
                            simp only [List.take_succ_cons, List.take_zero, relyAll, Act.put, List.setIfInBounds_toArray, List.set_cons_zero, List.set_cons_succ]
                            refine ⟨?_, ?_, ?_, ?_, ?_, ?_, ?_, ?_, ?_, ?_⟩
                            · intro w' hg _
                              refine Or.inl ⟨rfl, ?_⟩
                              go_simp
                              exact ⟨Grown.refl _, by first | rfl | (simp [Want.pred]; done) | (simp [Want.pred]; omega)⟩
                            · intro w' hg _
                              refine Or.inl ⟨rfl, ?_⟩
                              go_simp
                              exact ⟨Grown.refl _, by first | rfl | (simp [Want.pred]; done) | (simp [Want.pred]; omega)⟩
                            · intro w' hg _
                              refine Or.inl ⟨rfl, ?_⟩
                              have hb : (0 : Int) ≤ (K : Int) := by omega
                              have hb2 : (K : Int) < (rs.length : Int) := by omega
                              go_simp
                              exact ⟨Grown.refl _, by first | rfl | (simp [Want.pred]; done) | (simp [Want.pred]; omega)⟩
                            · intro w' hg _
                              refine Or.inl ⟨rfl, ?_⟩
                              have z : w'.cell? ⟨b2, K, none⟩ = some (.slice (some ⟨ρ.b, 0, none⟩) ρ.o.Z ρ.o.Z) := ((G.grown ((Below.refl _ _).drew)).grown hg).r2.cell (by rw [List.getElem?_map, HRO.out]; rfl)
                              go_simp
                              exact ⟨Grown.refl _, by first | rfl | (simp [Want.pred]; done) | (simp [Want.pred]; omega)⟩
                            · intro w' hg _
                              refine Or.inl ⟨rfl, ?_⟩
                              go_simp
                              exact ⟨Grown.refl _, by first | rfl | (simp [Want.pred]; done) | (simp [Want.pred]; omega)⟩
                            · intro w' hg _
                              refine Or.inl ⟨rfl, ?_⟩
                              have z := (wt.drew.grown hg).c2
                              rw [HHJ.out] at z
                              go_simp
                              exact ⟨Grown.refl _, by first | rfl | (simp [Want.pred]; done) | (simp [Want.pred]; omega)⟩
                            · intro w' hg _
                              refine Or.inl ⟨rfl, ?_⟩
                              go_simp
                              exact ⟨Grown.refl _, by first | rfl | (simp [Want.pred]; done) | (simp [Want.pred]; omega)⟩
                            · intro w' hg _
                              refine Or.inl ⟨rfl, ?_⟩
                              have z := (wt.drew.grown hg).c3
                              go_simp
                              exact ⟨Grown.refl _, by first | rfl | (simp [Want.pred]; done) | (simp [Want.pred]; omega)⟩
                            · intro w' hg _
                              refine Or.inl ⟨rfl, ?_⟩
                              have hb : (0 : Int) ≤ (j : Int) := by omega
                              have hb2 : (j : Int) < (ρ.o.Z : Int) := by omega
                              go_simp
                              exact ⟨Grown.refl _, by first | rfl | (simp [Want.pred]; done) | (simp [Want.pred]; omega)⟩
                            intro w12 hg _
                            have B := (B.grown ((Below.refl _ _).drew)).grown hg
                            have G := (G.grown ((Below.refl _ _).drew)).grown hg
                            have wt := wt.drew.grown hg
                            have dn := dn.drew.grown hg
                            clear hg
                            have kc := (G.wr K ρ HRO.out).cell HJZ.out
                            have kf := (G.wr K ρ HRO.out).frozen j
                            have lo := G.fr K ρ HRO.out
                            have hXr : X ≠ ρ.b := fun e => HXG.out _ (Or.inr (Or.inr ⟨K, ρ, HRO.out, rfl⟩)) e.symm
                            have hDr : D ≠ ρ.b := fun e => HDG.out _ (Or.inr (Or.inr ⟨K, ρ, HRO.out, rfl⟩)) e.symm
                            have B1 := B.setIn lo.p lo.e lo.l j (.int .i64 W.vl)
                            have G1 := G.set HRO.out j W.vl
                            have wt1 := wt.other hXr j (.int .i64 W.vl)
                            have dn1 := dn.other hDr j (.int .i64 W.vl)
                            clear B G wt dn lo hXr hDr x0 x3 x4 d0 d2
                            go_wp2
                            refine wp_over (fun w' => Spt w w' L E 1 8 8 40 s5 (σ + 4) q5 ∧ Grid w w' L E rs (fun K' j' => if K' = K ∧ j' = j then W.vl else F K' j') b1 c1 b2 c2 ∧ WtAt w' X W ∧ At w' D 0 37 _ [.int .i64 0, .int .u64 0, .int .i64 fv, .int .i64 τ]) ⟨B1, G1, wt1, dn1⟩ ?_
                            clear B1 G1 wt1 dn1 kc kf
                            rintro W12 ⟨B, G, wt, dn⟩
                            have hst : s5.steps = ((σ + 4 : Nat) : Int) := B.tw.pile.st
                            have ht := HT1.out
                            obtain ⟨σ5, hσ5⟩ : ∃ σ5, σ + 4 = σ5 := ⟨_, rfl⟩
                            rw [hσ5] at B hst ht
                            have HS5 : Hid (σ + 4 = σ5) := hσ5
                            have HST : Hid (s5.steps = (σ5 : Int)) := hst
                            have ht1 : ¬ (τ : Int) < 1 := by omega
                            have ht2 : ¬ (σ5 : Int) < (τ : Int) := by omega
                            clear hst hσ5 HT1 ht
                            refine wp_region_rely Grown [.val (.pointer (some ⟨D, 0, none⟩)), .val (.int .i64 0), .val (.int .i64 0), .val (.bool false), .val (.bool false), .val (.pointer (some ⟨D, 2, none⟩)), .val (.int .i64 fv), .val (.int .i64 fv), .val (.bool false), .val (.bool false), .val (.bool false), .val (.pointer (some ⟨D, 3, none⟩)), .val (.int .i64 τ), .val (.bool false), .val (.bool false), .val (.bool false), .val (.pointer (some ⟨D, 3, none⟩)), .val (.int .i64 τ), .val (.agg #[.int .i64 1, .int .i64 8, .int .i64 8, .int .i64 40, .int .i64 100, .int .i64 600, .int .i64 3, .pointer (some ⟨L.p, 0, none⟩), .int .i64 0]), .val (.int .i64 σ5), .val (.bool false), .val (.bool false)] (by kernel_rfl) Grown.refl Grown.trans (by kernel_rfl) (by kernel_rfl) (by kernel_rfl) ?_
                            simp only [relyAll, Act.put, List.setIfInBounds_toArray, List.set_cons_zero, List.set_cons_succ]
                            refine ⟨?_, ?_, ?_, ?_, ?_, ?_, ?_, ?_, ?_, ?_, ?_, ?_, ?_, ?_, ?_, ?_, ?_, ?_, ?_, ?_, ?_, ?_, ?_⟩
                            · intro w' hg _
                              refine Or.inl ⟨rfl, ?_⟩
                              go_simp
                              exact ⟨Grown.refl _, by first | rfl | (simp [Want.pred]; done) | (simp [Want.pred]; omega)⟩
                            · intro w' hg _
                              refine Or.inl ⟨rfl, ?_⟩
                              have z := (dn.drew.grown hg).at0 0 rfl
                              go_simp
                              exact ⟨Grown.refl _, by first | rfl | (simp [Want.pred]; done) | (simp [Want.pred]; omega)⟩
                            · intro w' hg _
                              refine Or.inl ⟨rfl, ?_⟩
                              go_simp
                              exact ⟨Grown.refl _, by first | rfl | (simp [Want.pred]; done) | (simp [Want.pred]; omega)⟩
                            · intro w' hg _
                              refine Or.inl ⟨rfl, ?_⟩
                              go_simp
                              exact ⟨Grown.refl _, by first | rfl | (simp [Want.pred]; done) | (simp [Want.pred]; omega)⟩
                            · intro w' hg _
                              refine Or.inl ⟨rfl, ?_⟩
                              go_simp
                              exact ⟨Grown.refl _, by first | rfl | (simp [Want.pred]; done) | (simp [Want.pred]; omega)⟩
                            · intro w' hg _
                              refine Or.inl ⟨rfl, ?_⟩
                              go_simp
                              exact ⟨Grown.refl _, by first | rfl | (simp [Want.pred]; done) | (simp [Want.pred]; omega)⟩
                            · intro w' hg _
                              refine Or.inl ⟨rfl, ?_⟩
                              have z := (dn.drew.grown hg).at0 2 rfl
                              go_simp
                              exact ⟨Grown.refl _, by first | rfl | (simp [Want.pred]; done) | (simp [Want.pred]; omega)⟩
                            · intro w' hg _
                              refine Or.inl ⟨rfl, ?_⟩
                              go_simp
                              exact ⟨Grown.refl _, by first | rfl | (simp [Want.pred]; done) | (simp [Want.pred]; omega)⟩
                            · intro w' hg _
                              refine Or.inl ⟨rfl, ?_⟩
                              go_simp
                              exact ⟨Grown.refl _, by first | rfl | (simp [Want.pred]; done) | (simp [Want.pred]; omega)⟩
                            · intro w' hg _
                              refine Or.inl ⟨rfl, ?_⟩
                              go_simp
                              exact ⟨Grown.refl _, by first | rfl | (simp [Want.pred]; done) | (simp [Want.pred]; omega)⟩
                            · intro w' hg _
                              refine Or.inl ⟨rfl, ?_⟩
                              go_simp
                              exact ⟨Grown.refl _, by first | rfl | (simp [Want.pred]; done) | (simp [Want.pred]; omega)⟩
                            · intro w' hg _
                              refine Or.inl ⟨rfl, ?_⟩
                              go_simp
                              exact ⟨Grown.refl _, by first | rfl | (simp [Want.pred]; done) | (simp [Want.pred]; omega)⟩
                            · intro w' hg _
                              refine Or.inl ⟨rfl, ?_⟩
                              have z := (dn.drew.grown hg).at0 3 rfl
                              go_simp
                              exact ⟨Grown.refl _, by first | rfl | (simp [Want.pred]; done) | (simp [Want.pred]; omega)⟩
                            · intro w' hg _
                              refine Or.inl ⟨rfl, ?_⟩
                              go_simp
                              exact ⟨Grown.refl _, by first | rfl | (simp [Want.pred]; done) | (simp [Want.pred]; omega)⟩
                            · intro w' hg _
                              refine Or.inl ⟨rfl, ?_⟩
                              go_simp
                              exact ⟨Grown.refl _, by first | rfl | (simp [Want.pred]; done) | (simp [Want.pred]; omega)⟩
                            · intro w' hg _
                              refine Or.inl ⟨rfl, ?_⟩
                              go_simp
                              exact ⟨Grown.refl _, by first | rfl | (simp [Want.pred]; done) | (simp [Want.pred]; omega)⟩
                            · intro w' hg _
                              refine Or.inl ⟨rfl, ?_⟩
                              go_simp
                              exact ⟨Grown.refl _, by first | rfl | (simp [Want.pred]; done) | (simp [Want.pred]; omega)⟩
                            · intro w' hg _
                              refine Or.inl ⟨rfl, ?_⟩
                              have z := (dn.drew.grown hg).at0 3 rfl
                              go_simp
                              exact ⟨Grown.refl _, by first | rfl | (simp [Want.pred]; done) | (simp [Want.pred]; omega)⟩
                            · intro w' hg _
                              refine Or.inl ⟨rfl, ?_⟩
                              have vv := (B.v.grown ((Below.refl _ _).drew)).grown hg
                              have y0 := vv.c0
                              have y1 := vv.c1
                              have y2 := vv.c2
                              have y3 := vv.c3
                              have y4 := vv.c4
                              have y5 := vv.c5
                              have y6 := vv.c6
                              have y7 := vv.c7
                              have y8 := vv.c8
                              go_simp
                              exact ⟨Grown.refl _, rfl⟩
                            · intro w' hg _
                              refine Or.inl ⟨rfl, ?_⟩
                              go_simp
                              refine (now_any (B.mm.drew.below hg) _ _ _ _ _ _ _ _ σ5 HST.out).mono ?_
                              rintro e w'' ⟨rfl, b9⟩
                              exact ⟨_, rfl, b9, rfl⟩
                            · intro w' hg _
                              refine Or.inl ⟨rfl, ?_⟩
                              go_simp
                              exact ⟨Grown.refl _, by first | rfl | (simp [Want.pred]; done) | (simp [Want.pred]; omega)⟩
                            · intro w' hg _
                              refine Or.inl ⟨rfl, ?_⟩
                              go_simp
                              exact ⟨Grown.refl _, by first | rfl | (simp [Want.pred]; done) | (simp [Want.pred]; omega)⟩
                            intro w13 hg _
                            have B := (B.grown ((Below.refl _ _).drew)).grown hg
                            have G := (G.grown ((Below.refl _ _).drew)).grown hg
                            have wt := wt.drew.grown hg
                            have dn := dn.drew.grown hg
                            clear hg
                            have HB9 : Hid (Spt w w13 L E 1 8 8 40 s5 σ5 q5) := B
                            have HG9 : Hid (Grid w w13 L E rs (fun K' j' => if K' = K ∧ j' = j then W.vl else F K' j') b1 c1 b2 c2) := G
                            clear B G wt dn
                            go_wp2
                            go_roundw
                            case rel =>
                              have := HS5.out
                              exact ⟨i + 1, s5, σ5, q5, _, by go_num, by omega, by omega, HB9.out, HG9.out, HCR5.out⟩
                            case measure => simp [intOf]; omega
                        · skip
                          as_aux_lemma =>
                            obtain ⟨τ, hτ⟩ : ∃ τ, σ + 3 = τ := ⟨_, rfl⟩
                            have ru := HCR.out.reads HRO.out (W := W) (σ := σ) hjZ hj (E := 8) (Or.inr ⟨hk3, by rw [hfv]; exact ho, rfl⟩)
                            have HCR5 : Hid (Crop q rs F) := HCR.out
                            rw [hτ, hfv] at ru
                            have CL := HB.out.do FA.out (HCR.out.sc K ρ HRO.out).wd HWN.out hxn HWO.out (by omega) (N := 4) (by decide) (ru)
                            have HT1 : Hid (1 ≤ (τ : Int) ∧ (τ : Int) ≤ ((σ + 4 : Nat) : Int)) := ⟨by omega, by omega⟩
                            have HKV : Hid (W.kd = 3) := hk3
                            have HO : Hid (¬ fv = W.ol) := ho
                            have HFV : Hid (F K j = fv) := hfv
                            have HHJ : Hid (W.ix = (j : Int)) := hj
                            have HJZ : Hid (j < ρ.o.Z) := hjZ
                            clear ru hτ hfv hj hk1 hk2 hk3 ho HCR
                            have x0 := HT.out.c0
                            have x1 := HT.out.c1
                            have x2 := HT.out.c2
                            have x3 := HT.out.c3
                            have x4 := HT.out.c4
                            go_wp2_with (go_at_call 13; refine CL.mono ?_; rintro e w5 ⟨rfl, s5, B5, o5, -⟩)
                            have HB5 := B5.grown (grow1 w5 (.cells #[.int .i64 8, .int .u64 0, .int .i64 fv, .int .i64 τ] 37))
                            have HG5 := (HG.out.mem o5).grown (grow1 w5 (.cells #[.int .i64 8, .int .u64 0, .int .i64 fv, .int .i64 τ] 37))
                            have HT5 := (HT.out.only o5 HXL.out).grown (grow1 w5 (.cells #[.int .i64 8, .int .u64 0, .int .i64 fv, .int .i64 τ] 37))
                            have HD5 := At.new w5 37 [.int .i64 8, .int .u64 0, .int .i64 fv, .int .i64 τ]
                            obtain ⟨D, hD⟩ : ∃ D, w5.heap.size = D := ⟨_, rfl⟩
                            have HDG : Hid (∀ b, Gh rs b1 b2 b → b ≠ D) := fun b hb => by have := (HG.out.mem o5).lt hb; omega
                            rw [hD] at HD5 ⊢
                            refine wp_over (fun w' => Spt w w' L E 1 8 8 40 s5 (σ + 4) q ∧ Grid w w' L E rs F b1 c1 b2 c2 ∧ WtAt w' X W ∧ At w' D 0 37 #[.int .i64 8, .int .u64 0, .int .i64 fv, .int .i64 τ] [.int .i64 8, .int .u64 0, .int .i64 fv, .int .i64 τ]) ⟨HB5, HG5, HT5, HD5⟩ ?_
                            clear HB5 HG5 HT5 HD5 B5 o5 hD x0 x1 x2 x3 x4 HB HG HT z0 z1 z2 z3 z4 z5 z6 z7 z8
                            rintro W9 ⟨B, G, wt, dn⟩
                            have hjn : ¬ (j : Int) < 0 := by omega
                            have hjg : ¬ (ρ.o.Z : Int) ≤ (j : Int) := by omega
                            refine wp_region_rely Grown [.val (.pointer (some ⟨X, 2, none⟩)), .val (.int .i64 j), .val (.bool false), .val (.bool false), .val (.pointer (some ⟨X, 2, none⟩)), .val (.int .i64 j), .val (.slice (some ⟨b2, 0, none⟩) rs.length c2), .val (.int .i64 K), .val (.pointer (some ⟨b2, K, none⟩)), .val (.slice (some ⟨ρ.b, 0, none⟩) ρ.o.Z ρ.o.Z), .val (.int .i64 ρ.o.Z), .val (.bool false), .val (.bool false)] (by kernel_rfl) Grown.refl Grown.trans (by kernel_rfl) (by kernel_rfl) (by kernel_rfl) ?_
                            simp only [relyAll, Act.put, List.setIfInBounds_toArray, List.set_cons_zero, List.set_cons_succ]
                            refine ⟨?_, ?_, ?_, ?_, ?_, ?_, ?_, ?_, ?_, ?_, ?_, ?_, ?_, ?_⟩
                            · intro w' hg _
                              refine Or.inl ⟨rfl, ?_⟩
                              go_simp
                              exact ⟨Grown.refl _, by first | rfl | (simp [Want.pred]; done) | (simp [Want.pred]; omega)⟩
                            · intro w' hg _
                              refine Or.inl ⟨rfl, ?_⟩
                              have z := (wt.drew.grown hg).c2
                              rw [HHJ.out] at z
                              go_simp
                              exact ⟨Grown.refl _, by first | rfl | (simp [Want.pred]; done) | (simp [Want.pred]; omega)⟩
                            · intro w' hg _
                              refine Or.inl ⟨rfl, ?_⟩
                              go_simp
                              exact ⟨Grown.refl _, by first | rfl | (simp [Want.pred]; done) | (simp [Want.pred]; omega)⟩
                            · intro w' hg _
                              refine Or.inl ⟨rfl, ?_⟩
                              go_simp
                              exact ⟨Grown.refl _, by first | rfl | (simp [Want.pred]; done) | (simp [Want.pred]; omega)⟩
                            · intro w' hg _
                              refine Or.inl ⟨rfl, ?_⟩
                              go_simp
                              exact ⟨Grown.refl _, by first | rfl | (simp [Want.pred]; done) | (simp [Want.pred]; omega)⟩
                            · intro w' hg _
                              refine Or.inl ⟨rfl, ?_⟩
                              have z := (wt.drew.grown hg).c2
                              rw [HHJ.out] at z
                              go_simp
                              exact ⟨Grown.refl _, by first | rfl | (simp [Want.pred]; done) | (simp [Want.pred]; omega)⟩
                            · intro w' hg _
                              refine Or.inl ⟨rfl, ?_⟩
                              go_simp
                              exact ⟨Grown.refl _, by first | rfl | (simp [Want.pred]; done) | (simp [Want.pred]; omega)⟩
                            · intro w' hg _
                              refine Or.inl ⟨rfl, ?_⟩
                              go_simp
                              exact ⟨Grown.refl _, by first | rfl | (simp [Want.pred]; done) | (simp [Want.pred]; omega)⟩
                            · intro w' hg _
                              refine Or.inl ⟨rfl, ?_⟩
                              have hb : (0 : Int) ≤ (K : Int) := by omega
                              have hb2 : (K : Int) < (rs.length : Int) := by omega
                              go_simp
                              exact ⟨Grown.refl _, by first | rfl | (simp [Want.pred]; done) | (simp [Want.pred]; omega)⟩
                            · intro w' hg _
                              refine Or.inl ⟨rfl, ?_⟩
                              have z : w'.cell? ⟨b2, K, none⟩ = some (.slice (some ⟨ρ.b, 0, none⟩) ρ.o.Z ρ.o.Z) := ((G.grown ((Below.refl _ _).drew)).grown hg).r2.cell (by rw [List.getElem?_map, HRO.out]; rfl)
                              go_simp
                              exact ⟨Grown.refl _, by first | rfl | (simp [Want.pred]; done) | (simp [Want.pred]; omega)⟩
                            · intro w' hg _
                              refine Or.inl ⟨rfl, ?_⟩
                              go_simp
                              exact ⟨Grown.refl _, by first | rfl | (simp [Want.pred]; done) | (simp [Want.pred]; omega)⟩
                            · intro w' hg _
                              refine Or.inl ⟨rfl, ?_⟩
                              go_simp
                              exact ⟨Grown.refl _, by first | rfl | (simp [Want.pred]; done) | (simp [Want.pred]; omega)⟩
                            · intro w' hg _
                              refine Or.inl ⟨rfl, ?_⟩
                              go_simp
                              exact ⟨Grown.refl _, by first | rfl | (simp [Want.pred]; done) | (simp [Want.pred]; omega)⟩
                            intro w10 hg _
                            have B := (B.grown ((Below.refl _ _).drew)).grown hg
                            have G := (G.grown ((Below.refl _ _).drew)).grown hg
                            have wt := wt.drew.grown hg
                            have dn := dn.drew.grown hg
                            clear hg
                            go_wp2
                            refine wp_region_rely Grown [.val (.slice (some ⟨b2, 0, none⟩) rs.length c2), .val (.int .i64 K), .val (.pointer (some ⟨b2, K, none⟩)), .val (.slice (some ⟨ρ.b, 0, none⟩) ρ.o.Z ρ.o.Z), .val (.pointer (some ⟨X, 2, none⟩)), .val (.int .i64 j), .val (.pointer (some ⟨ρ.b, j, none⟩)), .val (.int .i64 fv), .val (.int .i64 fv), .val (.int .i64 0)] (by kernel_rfl) Grown.refl Grown.trans (by kernel_rfl) (by kernel_rfl) (by kernel_rfl) ?_
                            simp only [relyAll, Act.put, List.setIfInBounds_toArray, List.set_cons_zero, List.set_cons_succ]
                            refine ⟨?_, ?_, ?_, ?_, ?_, ?_, ?_, ?_, ?_, ?_, ?_⟩
                            · intro w' hg _
                              refine Or.inl ⟨rfl, ?_⟩
                              go_simp
                              exact ⟨Grown.refl _, by first | rfl | (simp [Want.pred]; done) | (simp [Want.pred]; omega)⟩
                            · intro w' hg _
                              refine Or.inl ⟨rfl, ?_⟩
                              go_simp
                              exact ⟨Grown.refl _, by first | rfl | (simp [Want.pred]; done) | (simp [Want.pred]; omega)⟩
                            · intro w' hg _
                              refine Or.inl ⟨rfl, ?_⟩
                              have hb : (0 : Int) ≤ (K : Int) := by omega
                              have hb2 : (K : Int) < (rs.length : Int) := by omega
                              go_simp
                              exact ⟨Grown.refl _, by first | rfl | (simp [Want.pred]; done) | (simp [Want.pred]; omega)⟩
                            · intro w' hg _
                              refine Or.inl ⟨rfl, ?_⟩
                              have z : w'.cell? ⟨b2, K, none⟩ = some (.slice (some ⟨ρ.b, 0, none⟩) ρ.o.Z ρ.o.Z) := ((G.grown ((Below.refl _ _).drew)).grown hg).r2.cell (by rw [List.getElem?_map, HRO.out]; rfl)
                              go_simp
                              exact ⟨Grown.refl _, by first | rfl | (simp [Want.pred]; done) | (simp [Want.pred]; omega)⟩
                            · intro w' hg _
                              refine Or.inl ⟨rfl, ?_⟩
                              go_simp
                              exact ⟨Grown.refl _, by first | rfl | (simp [Want.pred]; done) | (simp [Want.pred]; omega)⟩
                            · intro w' hg _
                              refine Or.inl ⟨rfl, ?_⟩
                              have z := (wt.drew.grown hg).c2
                              rw [HHJ.out] at z
                              go_simp
                              exact ⟨Grown.refl _, by first | rfl | (simp [Want.pred]; done) | (simp [Want.pred]; omega)⟩
                            · intro w' hg _
                              refine Or.inl ⟨rfl, ?_⟩
                              have hb : (0 : Int) ≤ (j : Int) := by omega
                              have hb2 : (j : Int) < (ρ.o.Z : Int) := by omega
                              go_simp
                              exact ⟨Grown.refl _, by first | rfl | (simp [Want.pred]; done) | (simp [Want.pred]; omega)⟩
                            · intro w' hg _
                              refine Or.inl ⟨rfl, ?_⟩
                              have z := (((G.grown ((Below.refl _ _).drew)).grown hg).wr K ρ HRO.out).cell HJZ.out
                              rw [HFV.out] at z
                              go_simp
                              exact ⟨Grown.refl _, by first | rfl | (simp [Want.pred]; done) | (simp [Want.pred]; omega)⟩
                            · intro w' hg _
                              refine Or.inl ⟨rfl, ?_⟩
                              go_simp
                              exact ⟨Grown.refl _, by first | rfl | (simp [Want.pred]; done) | (simp [Want.pred]; omega)⟩
                            · intro w' hg _
                              refine Or.inl ⟨rfl, ?_⟩
                              go_simp
                              exact ⟨Grown.refl _, by first | rfl | (simp [Want.pred]; done) | (simp [Want.pred]; omega)⟩
                            intro w11 hg _
                            have B := (B.grown ((Below.refl _ _).drew)).grown hg
                            have G := (G.grown ((Below.refl _ _).drew)).grown hg
                            have wt := wt.drew.grown hg
                            have dn := dn.drew.grown hg
                            clear hg
                            have x0 := wt.c0
                            have x3 := wt.c3
                            have x4 := wt.c4
                            have d0 := dn.at0 0 rfl
                            have d2 := dn.at0 2 rfl
                            have hkv := HKV.out
                            rw [hkv] at x0
                            obtain ⟨ol, hol⟩ : ∃ ol, W.ol = ol := ⟨_, rfl⟩
                            have ho0 := HO.out
                            rw [hol] at x4 ho0
                            clear hol
                            have ho : (fv != ol) = true := by simpa using ho0
                            clear ho0
                            clear hkv
                            go_wp2
                            have hst : s5.steps = ((σ + 4 : Nat) : Int) := B.tw.pile.st
                            have ht := HT1.out
                            obtain ⟨σ5, hσ5⟩ : ∃ σ5, σ + 4 = σ5 := ⟨_, rfl⟩
                            rw [hσ5] at B hst ht
                            have HS5 : Hid (σ + 4 = σ5) := hσ5
                            have HST : Hid (s5.steps = (σ5 : Int)) := hst
                            have ht1 : ¬ (τ : Int) < 1 := by omega
                            have ht2 : ¬ (σ5 : Int) < (τ : Int) := by omega
                            clear hst hσ5 HT1 ht
                            refine wp_region_rely Grown [.val (.pointer (some ⟨D, 0, none⟩)), .val (.int .i64 8), .val (.int .i64 8), .val (.bool false), .val (.bool false), .val (.pointer (some ⟨D, 2, none⟩)), .val (.int .i64 fv), .val (.int .i64 fv), .val (.bool false), .val (.bool false), .val (.bool false), .val (.pointer (some ⟨D, 3, none⟩)), .val (.int .i64 τ), .val (.bool false), .val (.bool false), .val (.bool false), .val (.pointer (some ⟨D, 3, none⟩)), .val (.int .i64 τ), .val (.agg #[.int .i64 1, .int .i64 8, .int .i64 8, .int .i64 40, .int .i64 100, .int .i64 600, .int .i64 3, .pointer (some ⟨L.p, 0, none⟩), .int .i64 0]), .val (.int .i64 σ5), .val (.bool false), .val (.bool false)] (by kernel_rfl) Grown.refl Grown.trans (by kernel_rfl) (by kernel_rfl) (by kernel_rfl) ?_
                            simp only [relyAll, Act.put, List.setIfInBounds_toArray, List.set_cons_zero, List.set_cons_succ]
                            refine ⟨?_, ?_, ?_, ?_, ?_, ?_, ?_, ?_, ?_, ?_, ?_, ?_, ?_, ?_, ?_, ?_, ?_, ?_, ?_, ?_, ?_, ?_, ?_⟩
                            · intro w' hg _
                              refine Or.inl ⟨rfl, ?_⟩
                              go_simp
                              exact ⟨Grown.refl _, by first | rfl | (simp [Want.pred]; done) | (simp [Want.pred]; omega)⟩
                            · intro w' hg _
                              refine Or.inl ⟨rfl, ?_⟩
                              have z := (dn.drew.grown hg).at0 0 rfl
                              go_simp
                              exact ⟨Grown.refl _, by first | rfl | (simp [Want.pred]; done) | (simp [Want.pred]; omega)⟩
                            · intro w' hg _
                              refine Or.inl ⟨rfl, ?_⟩
                              go_simp
                              exact ⟨Grown.refl _, by first | rfl | (simp [Want.pred]; done) | (simp [Want.pred]; omega)⟩
                            · intro w' hg _
                              refine Or.inl ⟨rfl, ?_⟩
                              go_simp
                              exact ⟨Grown.refl _, by first | rfl | (simp [Want.pred]; done) | (simp [Want.pred]; omega)⟩
                            · intro w' hg _
                              refine Or.inl ⟨rfl, ?_⟩
                              go_simp
                              exact ⟨Grown.refl _, by first | rfl | (simp [Want.pred]; done) | (simp [Want.pred]; omega)⟩
                            · intro w' hg _
                              refine Or.inl ⟨rfl, ?_⟩
                              go_simp
                              exact ⟨Grown.refl _, by first | rfl | (simp [Want.pred]; done) | (simp [Want.pred]; omega)⟩
                            · intro w' hg _
                              refine Or.inl ⟨rfl, ?_⟩
                              have z := (dn.drew.grown hg).at0 2 rfl
                              go_simp
                              exact ⟨Grown.refl _, by first | rfl | (simp [Want.pred]; done) | (simp [Want.pred]; omega)⟩
                            · intro w' hg _
                              refine Or.inl ⟨rfl, ?_⟩
                              go_simp
                              exact ⟨Grown.refl _, by first | rfl | (simp [Want.pred]; done) | (simp [Want.pred]; omega)⟩
                            · intro w' hg _
                              refine Or.inl ⟨rfl, ?_⟩
                              go_simp
                              exact ⟨Grown.refl _, by first | rfl | (simp [Want.pred]; done) | (simp [Want.pred]; omega)⟩
                            · intro w' hg _
                              refine Or.inl ⟨rfl, ?_⟩
                              go_simp
                              exact ⟨Grown.refl _, by first | rfl | (simp [Want.pred]; done) | (simp [Want.pred]; omega)⟩
                            · intro w' hg _
                              refine Or.inl ⟨rfl, ?_⟩
                              go_simp
                              exact ⟨Grown.refl _, by first | rfl | (simp [Want.pred]; done) | (simp [Want.pred]; omega)⟩
                            · intro w' hg _
                              refine Or.inl ⟨rfl, ?_⟩
                              go_simp
                              exact ⟨Grown.refl _, by first | rfl | (simp [Want.pred]; done) | (simp [Want.pred]; omega)⟩
                            · intro w' hg _
                              refine Or.inl ⟨rfl, ?_⟩
                              have z := (dn.drew.grown hg).at0 3 rfl
                              go_simp
                              exact ⟨Grown.refl _, by first | rfl | (simp [Want.pred]; done) | (simp [Want.pred]; omega)⟩
                            · intro w' hg _
                              refine Or.inl ⟨rfl, ?_⟩
                              go_simp
                              exact ⟨Grown.refl _, by first | rfl | (simp [Want.pred]; done) | (simp [Want.pred]; omega)⟩
                            · intro w' hg _
                              refine Or.inl ⟨rfl, ?_⟩
                              go_simp
                              exact ⟨Grown.refl _, by first | rfl | (simp [Want.pred]; done) | (simp [Want.pred]; omega)⟩
                            · intro w' hg _
                              refine Or.inl ⟨rfl, ?_⟩
                              go_simp
                              exact ⟨Grown.refl _, by first | rfl | (simp [Want.pred]; done) | (simp [Want.pred]; omega)⟩
                            · intro w' hg _
                              refine Or.inl ⟨rfl, ?_⟩
                              go_simp
                              exact ⟨Grown.refl _, by first | rfl | (simp [Want.pred]; done) | (simp [Want.pred]; omega)⟩
                            · intro w' hg _
                              refine Or.inl ⟨rfl, ?_⟩
                              have z := (dn.drew.grown hg).at0 3 rfl
                              go_simp
                              exact ⟨Grown.refl _, by first | rfl | (simp [Want.pred]; done) | (simp [Want.pred]; omega)⟩
                            · intro w' hg _
                              refine Or.inl ⟨rfl, ?_⟩
                              have vv := (B.v.grown ((Below.refl _ _).drew)).grown hg
                              have y0 := vv.c0
                              have y1 := vv.c1
                              have y2 := vv.c2
                              have y3 := vv.c3
                              have y4 := vv.c4
                              have y5 := vv.c5
                              have y6 := vv.c6
                              have y7 := vv.c7
                              have y8 := vv.c8
                              go_simp
                              exact ⟨Grown.refl _, rfl⟩
                            · intro w' hg _
                              refine Or.inl ⟨rfl, ?_⟩
                              go_simp
                              refine (now_any (B.mm.drew.below hg) _ _ _ _ _ _ _ _ σ5 HST.out).mono ?_
                              rintro e w'' ⟨rfl, b9⟩
                              exact ⟨_, rfl, b9, rfl⟩
                            · intro w' hg _
                              refine Or.inl ⟨rfl, ?_⟩
                              go_simp
                              exact ⟨Grown.refl _, by first | rfl | (simp [Want.pred]; done) | (simp [Want.pred]; omega)⟩
                            · intro w' hg _
                              refine Or.inl ⟨rfl, ?_⟩
                              go_simp
                              exact ⟨Grown.refl _, by first | rfl | (simp [Want.pred]; done) | (simp [Want.pred]; omega)⟩
                            intro w13 hg _
                            have B := (B.grown ((Below.refl _ _).drew)).grown hg
                            have G := (G.grown ((Below.refl _ _).drew)).grown hg
                            have wt := wt.drew.grown hg
                            have dn := dn.drew.grown hg
                            clear hg
                            have HB9 : Hid (Spt w w13 L E 1 8 8 40 s5 σ5 q) := B
                            have HG9 : Hid (Grid w w13 L E rs F b1 c1 b2 c2) := G
                            clear B G wt dn
                            go_wp2
                            go_roundw
                            case rel =>
                              have := HS5.out
                              exact ⟨i + 1, s5, σ5, q, _, by go_num, by omega, by omega, HB9.out, HG9.out, HCR5.out⟩
                            case measure => simp [intOf]; omega
                  · have hz' : W.ix ≥ (ρ.o.Z : Int) := by omega
                    as_aux_lemma =>
                      obtain ⟨τ, hτ⟩ : ∃ τ, σ + 1 = τ := ⟨_, rfl⟩
                      have ru := HCR.out.out HRO.out (W := W) (σ := σ) (by omega)
                      rw [hτ] at ru
                      have CL := HB.out.do FA.out (HCR.out.sc K ρ HRO.out).wd HWN.out hxn HWO.out (by omega) (N := 2) (by decide) (ru)
                      clear ru hτ
                      have x0 := HT.out.c0
                      have x1 := HT.out.c1
                      have x2 := HT.out.c2
                      have x3 := HT.out.c3
                      have x4 := HT.out.c4
                      go_wp2_with (go_at_call 13; refine CL.mono ?_; rintro e w5 ⟨rfl, s5, B5, o5, -⟩)
                      have HB5 := B5.grown (grow1 w5 (.cells #[.int .i64 4, .int .u64 0, .int .i64 0, .int .i64 τ] 37))
                      have HG5 := (HG.out.mem o5).grown (grow1 w5 (.cells #[.int .i64 4, .int .u64 0, .int .i64 0, .int .i64 τ] 37))
                      have HT5 := (HT.out.only o5 HXL.out).grown (grow1 w5 (.cells #[.int .i64 4, .int .u64 0, .int .i64 0, .int .i64 τ] 37))
                      have HD5 := At.new w5 37 [.int .i64 4, .int .u64 0, .int .i64 0, .int .i64 τ]
                      obtain ⟨D, hD⟩ : ∃ D, w5.heap.size = D := ⟨_, rfl⟩
                      have HDG : Hid (∀ b, Gh rs b1 b2 b → b ≠ D) := fun b hb => by have := (HG.out.mem o5).lt hb; omega
                      rw [hD] at HD5 ⊢
                      refine wp_over (fun w' => Spt w w' L E 1 8 8 40 s5 (σ + 2) q ∧ Grid w w' L E rs F b1 c1 b2 c2 ∧ WtAt w' X W ∧ At w' D 0 37 #[.int .i64 4, .int .u64 0, .int .i64 0, .int .i64 τ] [.int .i64 4, .int .u64 0, .int .i64 0, .int .i64 τ]) ⟨HB5, HG5, HT5, HD5⟩ ?_
                      clear HB5 HG5 HT5 HD5 B5 o5 hD x0 x1 x2 x3 x4 HB HG HT z0 z1 z2 z3 z4 z5 z6 z7 z8
                      rintro W9 ⟨B, G, wt, dn⟩
                      refine wp_region_rely Grown [.val (.pointer (some ⟨X, 2, none⟩)), .val (.int .i64 W.ix), .val (.bool false), .val (.bool false), .val (.pointer (some ⟨X, 2, none⟩)), .val (.int .i64 W.ix), .val (.slice (some ⟨b2, 0, none⟩) rs.length c2), .val (.int .i64 K), .val (.pointer (some ⟨b2, K, none⟩)), .val (.slice (some ⟨ρ.b, 0, none⟩) ρ.o.Z ρ.o.Z), .val (.int .i64 ρ.o.Z), .val (.bool true), .val (.bool true)] (by kernel_rfl) Grown.refl Grown.trans (by kernel_rfl) (by kernel_rfl) (by kernel_rfl) ?_
                      simp only [relyAll, Act.put, List.setIfInBounds_toArray, List.set_cons_zero, List.set_cons_succ]
                      refine ⟨?_, ?_, ?_, ?_, ?_, ?_, ?_, ?_, ?_, ?_, ?_, ?_, ?_, ?_⟩
                      · intro w' hg _
                        refine Or.inl ⟨rfl, ?_⟩
                        go_simp
                        exact ⟨Grown.refl _, by first | rfl | (simp [Want.pred]; done) | (simp [Want.pred]; omega)⟩
                      · intro w' hg _
                        refine Or.inl ⟨rfl, ?_⟩
                        have z := (wt.drew.grown hg).c2
                        go_simp
                        exact ⟨Grown.refl _, by first | rfl | (simp [Want.pred]; done) | (simp [Want.pred]; omega)⟩
                      · intro w' hg _
                        refine Or.inl ⟨rfl, ?_⟩
                        go_simp
                        exact ⟨Grown.refl _, by first | rfl | (simp [Want.pred]; done) | (simp [Want.pred]; omega)⟩
                      · intro w' hg _
                        refine Or.inl ⟨rfl, ?_⟩
                        go_simp
                        exact ⟨Grown.refl _, by first | rfl | (simp [Want.pred]; done) | (simp [Want.pred]; omega)⟩
                      · intro w' hg _
                        refine Or.inl ⟨rfl, ?_⟩
                        go_simp
                        exact ⟨Grown.refl _, by first | rfl | (simp [Want.pred]; done) | (simp [Want.pred]; omega)⟩
                      · intro w' hg _
                        refine Or.inl ⟨rfl, ?_⟩
                        have z := (wt.drew.grown hg).c2
                        go_simp
                        exact ⟨Grown.refl _, by first | rfl | (simp [Want.pred]; done) | (simp [Want.pred]; omega)⟩
                      · intro w' hg _
                        refine Or.inl ⟨rfl, ?_⟩
                        go_simp
                        exact ⟨Grown.refl _, by first | rfl | (simp [Want.pred]; done) | (simp [Want.pred]; omega)⟩
                      · intro w' hg _
                        refine Or.inl ⟨rfl, ?_⟩
                        go_simp
                        exact ⟨Grown.refl _, by first | rfl | (simp [Want.pred]; done) | (simp [Want.pred]; omega)⟩
                      · intro w' hg _
                        refine Or.inl ⟨rfl, ?_⟩
                        have hb : (0 : Int) ≤ (K : Int) := by omega
                        have hb2 : (K : Int) < (rs.length : Int) := by omega
                        go_simp
                        exact ⟨Grown.refl _, by first | rfl | (simp [Want.pred]; done) | (simp [Want.pred]; omega)⟩
                      · intro w' hg _
                        refine Or.inl ⟨rfl, ?_⟩
                        have z : w'.cell? ⟨b2, K, none⟩ = some (.slice (some ⟨ρ.b, 0, none⟩) ρ.o.Z ρ.o.Z) := ((G.grown ((Below.refl _ _).drew)).grown hg).r2.cell (by rw [List.getElem?_map, HRO.out]; rfl)
                        go_simp
                        exact ⟨Grown.refl _, by first | rfl | (simp [Want.pred]; done) | (simp [Want.pred]; omega)⟩
                      · intro w' hg _
                        refine Or.inl ⟨rfl, ?_⟩
                        go_simp
                        exact ⟨Grown.refl _, by first | rfl | (simp [Want.pred]; done) | (simp [Want.pred]; omega)⟩
                      · intro w' hg _
                        refine Or.inl ⟨rfl, ?_⟩
                        go_simp
                        exact ⟨Grown.refl _, by first | rfl | (simp [Want.pred]; done) | (simp [Want.pred]; omega)⟩
                      · intro w' hg _
                        refine Or.inl ⟨rfl, ?_⟩
                        go_simp
                        exact ⟨Grown.refl _, by first | rfl | (simp [Want.pred]; done) | (simp [Want.pred]; omega)⟩
                      intro w10 hg _
                      have B := (B.grown ((Below.refl _ _).drew)).grown hg
                      have G := (G.grown ((Below.refl _ _).drew)).grown hg
                      have wt := wt.drew.grown hg
                      have dn := dn.drew.grown hg
                      clear hg
                      have x0 := wt.c0
                      have x3 := wt.c3
                      have x4 := wt.c4
                      have d0 := dn.at0 0 rfl
                      have d2 := dn.at0 2 rfl
                      have HB9 : Hid (Spt w w10 L E 1 8 8 40 s5 (σ + 2) q) := B
                      have HG9 : Hid (Grid w w10 L E rs F b1 c1 b2 c2) := G
                      clear B G wt dn
                      go_wp2
                      go_roundw
                      case rel => exact ⟨i + 1, s5, σ + 2, q, F, by go_num, by omega, by omega, HB9.out, HG9.out, HCR.out⟩
                      case measure => simp [intOf]; omega
              · have hl0' : ¬ (0 : Int) < (rs.length : Int) := by omega
                as_aux_lemma =>
                  have b9 := B.b
                  clear B G Cr
                  go_wp2
                  go_ret
                  exact ⟨rfl, b9⟩
            · have hi' : ¬ (i : Int) < 80 := by omega
              as_aux_lemma =>
                have b9 := B.b
                clear B G Cr
                go_wp2
                go_ret
                exact ⟨rfl, b9⟩
          · have hiM' : ¬ (i : Int) < (M : Int) := by omega
            as_aux_lemma =>
              have b9 := B.b
              clear B G Cr
              go_wp2
              go_ret
              exact ⟨rfl, b9⟩
    · have hrN' : ¬ (r : Int) < (N : Int) := by omega
      have hrl6 : rs.length ≤ 6 := by omega
      have CR : Hid (Crop q rs (fun _ _ => 0)) := crop0 goodG C.tm HOW.out
      have S2 : Hid (Spt w wr L E 1 8 8 40 s' σ q) := C.spt
      have G2 : Hid (Grid w wr L E rs (fun _ _ => 0) b1 c1 b2 c2) := G
      have hσ2 : σ ≤ 617 := by omega
      clear C G HOW hσ hrl
      go_wp2
      go_loopw [12] (fun v12 wr => ∃ (i : Nat) (s' : Mm) (σ : Nat) (q : Q) (F : Nat → Nat → Int), v12 = .int .i64 i ∧ i ≤ 80 ∧ σ ≤ 617 + 4 * i ∧ Spt w wr L E 1 8 8 40 s' σ q ∧ Grid w wr L E rs F b1 c1 b2 c2 ∧ Crop q rs F) (fun v12 _ => 80 - (intOf v12).toNat)
      case atStart => exact ⟨0, s', σ, q, _, rfl, by omega, by omega, S2.out, G2.out, CR.out⟩
      case round =>
        clear S2 G2 CR hσ2
        obtain ⟨i, s', σ, q, F, rfl, hi80, hσ, B, G, Cr⟩ := hrel
        by_cases hiM : i < M
        · have hiM' : (i : Int) < (M : Int) := by omega
          by_cases hi : i < 80
          · have hi' : (i : Int) < 80 := by omega
            by_cases hl0 : 0 < rs.length
            · have hl0' : (0 : Int) < (rs.length : Int) := by omega
              obtain ⟨zb, zo, rfl, hk0, hk1, hk2, hk3, hk4⟩ := HW.out i hiM
              obtain ⟨fk, fn, fi, fv, fo⟩ := HF.out i hiM
              obtain ⟨AA, hAA⟩ : ∃ AA, A i = AA := ⟨_, rfl⟩
              rw [hAA] at hk0 hk1 hk2 hk3 hk4 fk fn fi fv fo
              have c0 := keep' B.b hk0
              have c1' := keep' B.b hk1
              have c2' := keep' B.b hk2
              have c3 := keep' B.b hk3
              have c4 := keep' B.b hk4
              obtain ⟨kd, hkd, hk3', e1, e2⟩ := kind3 AA.kd
              obtain ⟨y1, hy1, v1⟩ := value_any AA.vl
              obtain ⟨y2, hy2, v2⟩ := value_any AA.ol
              obtain ⟨K, hK1, hK⟩ := pick10 AA.nu rs.length (by omega) fn.1
              obtain ⟨ρ, hρ⟩ : ∃ ρ, rs[K]? = some ρ := ⟨rs[K], List.getElem?_eq_getElem hK⟩
              obtain ⟨H, hH⟩ : ∃ H, packH ρ.o.x ρ.o.g = H := ⟨_, rfl⟩
              have hcH0 : wr.cell? ⟨b1, K, none⟩ = some (.int .u64 H) := G.r1.cell (by rw [List.getElem?_map, hρ, ← hH]; rfl)
              have HRO : Hid (rs[K]? = some ρ) := hρ
              have HH : Hid (packH ρ.o.x ρ.o.g = H) := hH
              have HK3 : Hid (kd = 1 ∨ kd = 2 ∨ kd = 3) := hk3'
              have HY1 : Hid (0 ≤ y1 ∧ y1 ≤ 1099511627775) := hy1
              have V1 : Hid (∀ w : World, Calls Tryz.prog 12 #[.int .i64 AA.vl] w fun e w' => e = .returned (.int .i64 y1) ∧ w' = w) := v1
              have V2 : Hid (∀ w : World, Calls Tryz.prog 12 #[.int .i64 AA.ol] w fun e w' => e = .returned (.int .i64 y2) ∧ w' = w) := v2
              have HCR : Hid (Crop q rs F) := Cr
              clear hk3' hy1 hy2 v1 v2 hk0 hk1 hk2 hk3 hk4 hAA fk fi fv fo Cr hρ hH
              have wt0 := wt_new wr AA
              have B0 := B.grown (grow1 _ (.cells #[.int .i64 AA.kd, .int .u64 AA.nu, .int .i64 AA.ix, .int .i64 AA.vl, .int .i64 AA.ol] 40))
              have G0 := G.grown (grow1 _ (.cells #[.int .i64 AA.kd, .int .u64 AA.nu, .int .i64 AA.ix, .int .i64 AA.vl, .int .i64 AA.ol] 40))
              have hcH1 : (wr.alloc (.cells #[.int .i64 AA.kd, .int .u64 AA.nu, .int .i64 AA.ix, .int .i64 AA.vl, .int .i64 AA.ol] 40)).cell? ⟨b1, K, none⟩ = some (.int .u64 H) := keep' (grow1 _ _) hcH0
              obtain ⟨X, hX⟩ : ∃ X, wr.heap.size = X := ⟨_, rfl⟩
              have HXL : Hid (¬ L.has X) := fun h => by have := B.mm.lt _ h; omega
              have HXE : Hid (E ≠ X) := by unfold Hid; have := B.ltE; omega
              have HXW : Hid (w.heap.size ≤ X) := by unfold Hid; have := B.b.size; omega
              have HXG : Hid (∀ b, Gh rs b1 b2 b → b ≠ X) := fun b hb => by have := G.lt hb; omega
              have HXB1 : Hid (¬ b1 = X) := HXG.out b1 (Or.inl rfl)
              rw [hX] at wt0
              clear B G hcH0
              go_wp2
            
              try rw [hX]
              refine wp_over (fun W => Spt w W L E 1 8 8 40 s' σ q ∧ Grid w W L E rs F b1 c1 b2 c2 ∧ W.cell? ⟨b1, K, none⟩ = some (.int .u64 H) ∧ WtAt W X AA) ⟨B0, G0, hcH1, wt0⟩ ?_
              clear B0 G0 hcH1 wt0 hX c0 c1' c2' c3 c4
              rintro W ⟨B, G, hcH, wt⟩
              refine wp_region_phaseE (Only (fun b => b = X)) Grown (phW X [AA, { AA with nu := H }, { AA with nu := H, kd := kd }, { AA with nu := H, kd := kd, vl := y1 }, (⟨kd, H, AA.ix, y1, y2⟩ : Wt)]) [17, 19, 21, 23] [5, 11, 14] [.val (.slice (some ⟨b1, 0, none⟩) rs.length c1), .val (.int .i64 K), .val (.pointer (some ⟨b1, K, none⟩)), .val (.int .u64 H), .val (.pointer (some ⟨X, 0, none⟩)), .val (.int .i64 AA.kd), .val (.int .i64 (AA.kd.tmod 3)), .val (.int .i64 (AA.kd.tmod 3 + 3)), .val (.int .i64 (AA.kd.tmod 3 % 3)), .val (.int .i64 (kd)), .val (.pointer (some ⟨X, 3, none⟩)), .val (.int .i64 AA.vl), .val (.int .i64 y1), .val (.pointer (some ⟨X, 4, none⟩)), .val (.int .i64 AA.ol), .val (.int .i64 y2), .val (.pointer (some ⟨X, 1, none⟩)), .that (fun _ _ => True) (fun _ _ _ _ _ => trivial), .val (.pointer (some ⟨X, 0, none⟩)), .that (fun _ _ => True) (fun _ _ _ _ _ => trivial), .val (.pointer (some ⟨X, 3, none⟩)), .that (fun _ _ => True) (fun _ _ _ _ _ => trivial), .val (.pointer (some ⟨X, 4, none⟩)), .that (fun _ _ => True) (fun _ _ _ _ _ => trivial)]
                (by kernel_rfl) (Only.refl _) (fun _ _ _ h k => h.trans k) (fun x y h => Only.ofGrown h) phW_grown ⟨_, rfl, wt.drew⟩ (by kernel_rfl) (by kernel_rfl) (by kernel_rfl) (by kernel_rfl) (by kernel_rfl) (by kernel_rfl) ?_
              simp only [phaseAllE, Act.put, List.setIfInBounds_toArray, List.set_cons_zero, List.set_cons_succ]
              refine ⟨?_, ?_, ?_, ?_, ?_, ?_, ?_, ?_, ?_, ?_, ?_, ?_, ?_, ?_, ?_, ?_, ?_, ?_, fun _ => ⟨?_, ?_, fun _ => ⟨?_, ?_, fun _ => ⟨?_, ?_, fun _ => ?_⟩⟩⟩⟩
              · intro w' hR _ _
                refine Or.inl ⟨rfl, ?_⟩
                go_simp
                exact ⟨Grown.refl _, rfl⟩
              · intro w' hR _ _
                refine Or.inl ⟨rfl, ?_⟩
                go_simp
                exact ⟨Grown.refl _, rfl⟩
              · intro w' hR _ _
                refine Or.inl ⟨rfl, ?_⟩
                have hb : (0 : Int) ≤ (K : Int) := by omega
                have hb2 : (K : Int) < (rs.length : Int) := by omega
                go_simp
                exact ⟨Grown.refl _, by simp [Want.pred]⟩
              · intro w' hR _ _
                refine Or.inl ⟨rfl, ?_⟩
                have z := hR.keep (b := b1) HXB1.out (show W.drew.cell? ⟨b1, K, none⟩ = some (.int .u64 H) from hcH)
                go_simp
                exact ⟨Grown.refl _, rfl⟩
              · intro w' hR _ _
                refine Or.inl ⟨rfl, ?_⟩
                go_simp
                exact ⟨Grown.refl _, rfl⟩
              · intro w' hR _ hE
                refine Or.inl ⟨rfl, ?_⟩
                obtain ⟨A0, eA, wa⟩ := hE (by kernel_rfl)
                cases eA
                have z := wa.c0
                go_simp
                exact ⟨Grown.refl _, rfl⟩
              · intro w' hR _ _
                refine Or.inl ⟨rfl, ?_⟩
                go_simp
                exact ⟨Grown.refl _, rfl⟩
              · intro w' hR _ _
                refine Or.inl ⟨rfl, ?_⟩
                go_simp
                refine ⟨Grown.refl _, congrArg (Value.int .i64) ?_⟩
                first
                  | rfl
                  | omega
                  | (rw [IntKind.wrap_i64]; omega)
                  | exact (Int.tmod_eq_emod_of_nonneg (by omega)).trans (by omega)
              · intro w' hR _ _
                refine Or.inl ⟨rfl, ?_⟩
                go_simp
                refine ⟨Grown.refl _, congrArg (Value.int .i64) ?_⟩
                first
                  | rfl
                  | omega
                  | (rw [IntKind.wrap_i64]; omega)
                  | exact (Int.tmod_eq_emod_of_nonneg (by omega)).trans (by omega)
              · intro w' hR _ _
                refine Or.inl ⟨rfl, ?_⟩
                go_simp
                refine ⟨Grown.refl _, congrArg (Value.int .i64) ?_⟩
                first
                  | rfl
                  | omega
                  | (rw [IntKind.wrap_i64]; omega)
                  | exact (Int.tmod_eq_emod_of_nonneg (by omega)).trans (by omega)
              · intro w' hR _ _
                refine Or.inl ⟨rfl, ?_⟩
                go_simp
                exact ⟨Grown.refl _, rfl⟩
              · intro w' hR _ hE
                refine Or.inl ⟨rfl, ?_⟩
                obtain ⟨A0, eA, wa⟩ := hE (by kernel_rfl)
                cases eA
                have z := wa.c3
                go_simp
                exact ⟨Grown.refl _, rfl⟩
              · intro w' hR _ _
                refine Or.inl ⟨rfl, ?_⟩
                go_simp
                refine (V1.out _).mono ?_
                rintro e w'' ⟨rfl, rfl⟩
                exact ⟨_, rfl, Grown.refl _, rfl⟩
              · intro w' hR _ _
                refine Or.inl ⟨rfl, ?_⟩
                go_simp
                exact ⟨Grown.refl _, rfl⟩
              · intro w' hR _ hE
                refine Or.inl ⟨rfl, ?_⟩
                obtain ⟨A0, eA, wa⟩ := hE (by kernel_rfl)
                cases eA
                have z := wa.c4
                go_simp
                exact ⟨Grown.refl _, rfl⟩
              · intro w' hR _ _
                refine Or.inl ⟨rfl, ?_⟩
                go_simp
                refine (V2.out _).mono ?_
                rintro e w'' ⟨rfl, rfl⟩
                exact ⟨_, rfl, Grown.refl _, rfl⟩
              · intro w' hR _ _
                refine Or.inl ⟨rfl, ?_⟩
                go_simp
                exact ⟨Grown.refl _, rfl⟩
              · intro w' hR _ hP
                refine Or.inl ⟨rfl, ?_⟩
                obtain ⟨A0, eA, wa⟩ := hP
                cases eA
                have z0 := wa.c1
                have z1 := wa.fz
                go_simp
                exact ⟨⟨only_set _ _ _, _, rfl, wa.set1 _⟩, trivial⟩
              · intro w' hR _ _
                refine Or.inl ⟨rfl, ?_⟩
                go_simp
                exact ⟨Grown.refl _, rfl⟩
              · intro w' hR _ hP
                refine Or.inl ⟨rfl, ?_⟩
                obtain ⟨A0, eA, wa⟩ := hP
                cases eA
                have z0 := wa.c0
                have z1 := wa.fz
                go_simp
                exact ⟨⟨only_set _ _ _, _, rfl, wa.set0 _⟩, trivial⟩
              · intro w' hR _ _
                refine Or.inl ⟨rfl, ?_⟩
                go_simp
                exact ⟨Grown.refl _, rfl⟩
              · intro w' hR _ hP
                refine Or.inl ⟨rfl, ?_⟩
                obtain ⟨A0, eA, wa⟩ := hP
                cases eA
                have z0 := wa.c3
                have z1 := wa.fz
                go_simp
                exact ⟨⟨only_set _ _ _, _, rfl, wa.set3 _⟩, trivial⟩
              · intro w' hR _ _
                refine Or.inl ⟨rfl, ?_⟩
                go_simp
                exact ⟨Grown.refl _, rfl⟩
              · intro w' hR _ hP
                refine Or.inl ⟨rfl, ?_⟩
                obtain ⟨A0, eA, wa⟩ := hP
                cases eA
                have z0 := wa.c4
                have z1 := wa.fz
                go_simp
                exact ⟨⟨only_set _ _ _, _, rfl, wa.set4 _⟩, trivial⟩
              intro w9 hR hP _
              obtain ⟨A0, eA, wt⟩ := hP
              cases eA
              have B := B.drew.block hR HXW.out HXE.out HXL.out
              have G := (G.grown ((Below.refl _ _).drew)).only hR HXG.out
              obtain ⟨W, hW⟩ : ∃ W : Wt, W = ⟨kd, H, AA.ix, y1, y2⟩ := ⟨_, rfl⟩
              have HWO : Hid W.ok := by unfold Hid; rw [hW]; exact ⟨HK3.out, ⟨by show -9223372036854775808 ≤ y1; have := HY1.out; omega, by show y1 ≤ 9223372036854775807; have := HY1.out; omega⟩⟩
              have HWN : Hid (HandIs W.nu ρ.o.x ρ.o.g) := by unfold Hid; rw [hW]; show HandIs H _ _; rw [← HH.out]; exact (HCR.out.hd K ρ HRO.out).1
              have HWV : Hid (0 ≤ W.vl ∧ W.vl ≤ 1099511627775) := by unfold Hid; rw [hW]; exact HY1.out
              have wt : WtAt w9 X W := by rw [hW]; exact wt
              have HKD : Hid (W.kd = 1 ∨ W.kd = 2 ∨ W.kd = 3) := HWO.out.k
              have x0 := wt.c0
              have x1 := wt.c1
              have x2 := wt.c2
              have x3 := wt.c3
              have x4 := wt.c4
              have z0 := B.v.c0
              have z1 := B.v.c1
              have z2 := B.v.c2
              have z3 := B.v.c3
              have z4 := B.v.c4
              have z5 := B.v.c5
              have z6 := B.v.c6
              have z7 := B.v.c7
              have z8 := B.v.c8
              have HB : Hid (Spt w w9 L E 1 8 8 40 s' σ q) := B
              have HG : Hid (Grid w w9 L E rs F b1 c1 b2 c2) := G
              have HT : Hid (WtAt w9 X W) := wt
              have hxn := (HCR.out.hd K ρ HRO.out).2
              clear hR hW B G wt hcH
              clear x0 x1 x2 x3 x4
              by_cases hn : W.ix < 0
              · skip
                as_aux_lemma =>
                  obtain ⟨τ, hτ⟩ : ∃ τ, σ + 1 = τ := ⟨_, rfl⟩
                  have ru := HCR.out.out HRO.out (W := W) (σ := σ) (by omega)
                  rw [hτ] at ru
                  have CL := HB.out.do FA.out (HCR.out.sc K ρ HRO.out).wd HWN.out hxn HWO.out (by omega) (N := 2) (by decide) (ru)
                  clear ru hτ
                  have x0 := HT.out.c0
                  have x1 := HT.out.c1
                  have x2 := HT.out.c2
                  have x3 := HT.out.c3
                  have x4 := HT.out.c4
                  go_wp2_with (go_at_call 13; refine CL.mono ?_; rintro e w5 ⟨rfl, s5, B5, o5, -⟩)
                  have HB5 := B5.grown (grow1 w5 (.cells #[.int .i64 4, .int .u64 0, .int .i64 0, .int .i64 τ] 37))
                  have HG5 := (HG.out.mem o5).grown (grow1 w5 (.cells #[.int .i64 4, .int .u64 0, .int .i64 0, .int .i64 τ] 37))
                  have HT5 := (HT.out.only o5 HXL.out).grown (grow1 w5 (.cells #[.int .i64 4, .int .u64 0, .int .i64 0, .int .i64 τ] 37))
                  have HD5 := At.new w5 37 [.int .i64 4, .int .u64 0, .int .i64 0, .int .i64 τ]
                  obtain ⟨D, hD⟩ : ∃ D, w5.heap.size = D := ⟨_, rfl⟩
                  have HDG : Hid (∀ b, Gh rs b1 b2 b → b ≠ D) := fun b hb => by have := (HG.out.mem o5).lt hb; omega
                  rw [hD] at HD5 ⊢
                  refine wp_over (fun w' => Spt w w' L E 1 8 8 40 s5 (σ + 2) q ∧ Grid w w' L E rs F b1 c1 b2 c2 ∧ WtAt w' X W ∧ At w' D 0 37 #[.int .i64 4, .int .u64 0, .int .i64 0, .int .i64 τ] [.int .i64 4, .int .u64 0, .int .i64 0, .int .i64 τ]) ⟨HB5, HG5, HT5, HD5⟩ ?_
                  clear HB5 HG5 HT5 HD5 B5 o5 hD x0 x1 x2 x3 x4 HB HG HT z0 z1 z2 z3 z4 z5 z6 z7 z8
                  rintro W9 ⟨B, G, wt, dn⟩
                  refine wp_region_rely Grown [.val (.pointer (some ⟨X, 2, none⟩)), .val (.int .i64 W.ix), .val (.bool true), .val (.bool true), .val undef, .val undef, .val undef, .val undef, .val undef, .val undef, .val undef, .val undef, .val (.bool true)] (by kernel_rfl) Grown.refl Grown.trans (by kernel_rfl) (by kernel_rfl) (by kernel_rfl) ?_
                  simp only [relyAll, Act.put, List.setIfInBounds_toArray, List.set_cons_zero, List.set_cons_succ]
                  refine ⟨?_, ?_, ?_, ?_, ?_, ?_, ?_, ?_, ?_, ?_, ?_, ?_, ?_, ?_⟩
                  · intro w' hg _
                    refine Or.inl ⟨rfl, ?_⟩
                    go_simp
                    exact ⟨Grown.refl _, by first | rfl | (simp [Want.pred]; done) | (simp [Want.pred]; omega)⟩
                  · intro w' hg _
                    refine Or.inl ⟨rfl, ?_⟩
                    have z := (wt.drew.grown hg).c2
                    go_simp
                    exact ⟨Grown.refl _, by first | rfl | (simp [Want.pred]; done) | (simp [Want.pred]; omega)⟩
                  · intro w' hg _
                    refine Or.inl ⟨rfl, ?_⟩
                    go_simp
                    exact ⟨Grown.refl _, by first | rfl | (simp [Want.pred]; done) | (simp [Want.pred]; omega)⟩
                  · intro w' hg _
                    refine Or.inl ⟨rfl, ?_⟩
                    go_simp
                    exact ⟨Grown.refl _, by first | rfl | (simp [Want.pred]; done) | (simp [Want.pred]; omega)⟩
                  · intro w' hg _
                    exact Or.inr ⟨rfl, rfl⟩
                  · intro w' hg _
                    exact Or.inr ⟨rfl, rfl⟩
                  · intro w' hg _
                    exact Or.inr ⟨rfl, rfl⟩
                  · intro w' hg _
                    exact Or.inr ⟨rfl, rfl⟩
                  · intro w' hg _
                    exact Or.inr ⟨rfl, rfl⟩
                  · intro w' hg _
                    exact Or.inr ⟨rfl, rfl⟩
                  · intro w' hg _
                    exact Or.inr ⟨rfl, rfl⟩
                  · intro w' hg _
                    exact Or.inr ⟨rfl, rfl⟩
                  · intro w' hg _
                    refine Or.inl ⟨rfl, ?_⟩
                    go_simp
                    exact ⟨Grown.refl _, by first | rfl | (simp [Want.pred]; done) | (simp [Want.pred]; omega)⟩
                  intro w10 hg _
                  have B := (B.grown ((Below.refl _ _).drew)).grown hg
                  have G := (G.grown ((Below.refl _ _).drew)).grown hg
                  have wt := wt.drew.grown hg
                  have dn := dn.drew.grown hg
                  clear hg
                  have x0 := wt.c0
                  have x3 := wt.c3
                  have x4 := wt.c4
                  have d0 := dn.at0 0 rfl
                  have d2 := dn.at0 2 rfl
                  have HB9 : Hid (Spt w w10 L E 1 8 8 40 s5 (σ + 2) q) := B
                  have HG9 : Hid (Grid w w10 L E rs F b1 c1 b2 c2) := G
                  clear B G wt dn
                  go_wp2
                  go_roundw
                  case rel => exact ⟨i + 1, s5, σ + 2, q, F, by go_num, by omega, by omega, HB9.out, HG9.out, HCR.out⟩
                  case measure => simp [intOf]; omega
              · by_cases hz : W.ix < (ρ.o.Z : Int)
                · obtain ⟨j, hj⟩ : ∃ j : Nat, W.ix = (j : Int) := ⟨W.ix.toNat, by omega⟩
                  have hjZ : j < ρ.o.Z := by omega
                  have hjZ' : (j : Int) < (ρ.o.Z : Int) := by omega
                  obtain ⟨fv, hfv⟩ : ∃ fv, F K j = fv := ⟨_, rfl⟩
                  clear hn hz
                  by_cases hk1 : W.kd = 1
                  · skip
                    as_aux_lemma =>
                      obtain ⟨τ, hτ⟩ : ∃ τ, σ + 3 = τ := ⟨_, rfl⟩
                      have ru := HCR.out.reads HRO.out (W := W) (σ := σ) hjZ hj (E := 0) (Or.inl ⟨hk1, rfl⟩)
                      have HCR5 : Hid (Crop q rs F) := HCR.out
                      rw [hτ, hfv] at ru
                      have CL := HB.out.do FA.out (HCR.out.sc K ρ HRO.out).wd HWN.out hxn HWO.out (by omega) (N := 4) (by decide) (ru)
                      have HT1 : Hid (1 ≤ (τ : Int) ∧ (τ : Int) ≤ ((σ + 4 : Nat) : Int)) := ⟨by omega, by omega⟩
                      have HKV : Hid (W.kd = 1) := hk1
                      have HFV : Hid (F K j = fv) := hfv
                      have HHJ : Hid (W.ix = (j : Int)) := hj
                      have HJZ : Hid (j < ρ.o.Z) := hjZ
                      clear ru hτ hfv hj hk1 HCR
                      have x0 := HT.out.c0
                      have x1 := HT.out.c1
                      have x2 := HT.out.c2
                      have x3 := HT.out.c3
                      have x4 := HT.out.c4
                      go_wp2_with (go_at_call 13; refine CL.mono ?_; rintro e w5 ⟨rfl, s5, B5, o5, -⟩)
                      have HB5 := B5.grown (grow1 w5 (.cells #[.int .i64 0, .int .u64 0, .int .i64 fv, .int .i64 τ] 37))
                      have HG5 := (HG.out.mem o5).grown (grow1 w5 (.cells #[.int .i64 0, .int .u64 0, .int .i64 fv, .int .i64 τ] 37))
                      have HT5 := (HT.out.only o5 HXL.out).grown (grow1 w5 (.cells #[.int .i64 0, .int .u64 0, .int .i64 fv, .int .i64 τ] 37))
                      have HD5 := At.new w5 37 [.int .i64 0, .int .u64 0, .int .i64 fv, .int .i64 τ]
                      obtain ⟨D, hD⟩ : ∃ D, w5.heap.size = D := ⟨_, rfl⟩
                      have HDG : Hid (∀ b, Gh rs b1 b2 b → b ≠ D) := fun b hb => by have := (HG.out.mem o5).lt hb; omega
                      rw [hD] at HD5 ⊢
                      refine wp_over (fun w' => Spt w w' L E 1 8 8 40 s5 (σ + 4) q ∧ Grid w w' L E rs F b1 c1 b2 c2 ∧ WtAt w' X W ∧ At w' D 0 37 #[.int .i64 0, .int .u64 0, .int .i64 fv, .int .i64 τ] [.int .i64 0, .int .u64 0, .int .i64 fv, .int .i64 τ]) ⟨HB5, HG5, HT5, HD5⟩ ?_
                      clear HB5 HG5 HT5 HD5 B5 o5 hD x0 x1 x2 x3 x4 HB HG HT z0 z1 z2 z3 z4 z5 z6 z7 z8
                      rintro W9 ⟨B, G, wt, dn⟩
                      have hjn : ¬ (j : Int) < 0 := by omega
                      have hjg : ¬ (ρ.o.Z : Int) ≤ (j : Int) := by omega
                      refine wp_region_rely Grown [.val (.pointer (some ⟨X, 2, none⟩)), .val (.int .i64 j), .val (.bool false), .val (.bool false), .val (.pointer (some ⟨X, 2, none⟩)), .val (.int .i64 j), .val (.slice (some ⟨b2, 0, none⟩) rs.length c2), .val (.int .i64 K), .val (.pointer (some ⟨b2, K, none⟩)), .val (.slice (some ⟨ρ.b, 0, none⟩) ρ.o.Z ρ.o.Z), .val (.int .i64 ρ.o.Z), .val (.bool false), .val (.bool false)] (by kernel_rfl) Grown.refl Grown.trans (by kernel_rfl) (by kernel_rfl) (by kernel_rfl) ?_
                      simp only [relyAll, Act.put, List.setIfInBounds_toArray, List.set_cons_zero, List.set_cons_succ]
                      refine ⟨?_, ?_, ?_, ?_, ?_, ?_, ?_, ?_, ?_, ?_, ?_, ?_, ?_, ?_⟩
                      · intro w' hg _
                        refine Or.inl ⟨rfl, ?_⟩
                        go_simp
                        exact ⟨Grown.refl _, by first | rfl | (simp [Want.pred]; done) | (simp [Want.pred]; omega)⟩
                      · intro w' hg _
                        refine Or.inl ⟨rfl, ?_⟩
                        have z := (wt.drew.grown hg).c2
                        rw [HHJ.out] at z
                        go_simp
                        exact ⟨Grown.refl _, by first | rfl | (simp [Want.pred]; done) | (simp [Want.pred]; omega)⟩
                      · intro w' hg _
                        refine Or.inl ⟨rfl, ?_⟩
                        go_simp
                        exact ⟨Grown.refl _, by first | rfl | (simp [Want.pred]; done) | (simp [Want.pred]; omega)⟩
                      · intro w' hg _
                        refine Or.inl ⟨rfl, ?_⟩
                        go_simp
                        exact ⟨Grown.refl _, by first | rfl | (simp [Want.pred]; done) | (simp [Want.pred]; omega)⟩
                      · intro w' hg _
                        refine Or.inl ⟨rfl, ?_⟩
                        go_simp
                        exact ⟨Grown.refl _, by first | rfl | (simp [Want.pred]; done) | (simp [Want.pred]; omega)⟩
                      · intro w' hg _
                        refine Or.inl ⟨rfl, ?_⟩
                        have z := (wt.drew.grown hg).c2
                        rw [HHJ.out] at z
                        go_simp
                        exact ⟨Grown.refl _, by first | rfl | (simp [Want.pred]; done) | (simp [Want.pred]; omega)⟩
                      · intro w' hg _
                        refine Or.inl ⟨rfl, ?_⟩
                        go_simp
                        exact ⟨Grown.refl _, by first | rfl | (simp [Want.pred]; done) | (simp [Want.pred]; omega)⟩
                      · intro w' hg _
                        refine Or.inl ⟨rfl, ?_⟩
                        go_simp
                        exact ⟨Grown.refl _, by first | rfl | (simp [Want.pred]; done) | (simp [Want.pred]; omega)⟩
                      · intro w' hg _
                        refine Or.inl ⟨rfl, ?_⟩
                        have hb : (0 : Int) ≤ (K : Int) := by omega
                        have hb2 : (K : Int) < (rs.length : Int) := by omega
                        go_simp
                        exact ⟨Grown.refl _, by first | rfl | (simp [Want.pred]; done) | (simp [Want.pred]; omega)⟩
                      · intro w' hg _
                        refine Or.inl ⟨rfl, ?_⟩
                        have z : w'.cell? ⟨b2, K, none⟩ = some (.slice (some ⟨ρ.b, 0, none⟩) ρ.o.Z ρ.o.Z) := ((G.grown ((Below.refl _ _).drew)).grown hg).r2.cell (by rw [List.getElem?_map, HRO.out]; rfl)
                        go_simp
                        exact ⟨Grown.refl _, by first | rfl | (simp [Want.pred]; done) | (simp [Want.pred]; omega)⟩
                      · intro w' hg _
                        refine Or.inl ⟨rfl, ?_⟩
                        go_simp
                        exact ⟨Grown.refl _, by first | rfl | (simp [Want.pred]; done) | (simp [Want.pred]; omega)⟩
                      · intro w' hg _
                        refine Or.inl ⟨rfl, ?_⟩
                        go_simp
                        exact ⟨Grown.refl _, by first | rfl | (simp [Want.pred]; done) | (simp [Want.pred]; omega)⟩
                      · intro w' hg _
                        refine Or.inl ⟨rfl, ?_⟩
                        go_simp
                        exact ⟨Grown.refl _, by first | rfl | (simp [Want.pred]; done) | (simp [Want.pred]; omega)⟩
                      intro w10 hg _
                      have B := (B.grown ((Below.refl _ _).drew)).grown hg
                      have G := (G.grown ((Below.refl _ _).drew)).grown hg
                      have wt := wt.drew.grown hg
                      have dn := dn.drew.grown hg
                      clear hg
                      go_wp2
                      refine wp_region_rely Grown [.val (.slice (some ⟨b2, 0, none⟩) rs.length c2), .val (.int .i64 K), .val (.pointer (some ⟨b2, K, none⟩)), .val (.slice (some ⟨ρ.b, 0, none⟩) ρ.o.Z ρ.o.Z), .val (.pointer (some ⟨X, 2, none⟩)), .val (.int .i64 j), .val (.pointer (some ⟨ρ.b, j, none⟩)), .val (.int .i64 fv), .val (.int .i64 fv), .val (.int .i64 0)] (by kernel_rfl) Grown.refl Grown.trans (by kernel_rfl) (by kernel_rfl) (by kernel_rfl) ?_
                      simp only [relyAll, Act.put, List.setIfInBounds_toArray, List.set_cons_zero, List.set_cons_succ]
                      refine ⟨?_, ?_, ?_, ?_, ?_, ?_, ?_, ?_, ?_, ?_, ?_⟩
                      · intro w' hg _
                        refine Or.inl ⟨rfl, ?_⟩
                        go_simp
                        exact ⟨Grown.refl _, by first | rfl | (simp [Want.pred]; done) | (simp [Want.pred]; omega)⟩
                      · intro w' hg _
                        refine Or.inl ⟨rfl, ?_⟩
                        go_simp
                        exact ⟨Grown.refl _, by first | rfl | (simp [Want.pred]; done) | (simp [Want.pred]; omega)⟩
                      · intro w' hg _
                        refine Or.inl ⟨rfl, ?_⟩
                        have hb : (0 : Int) ≤ (K : Int) := by omega
                        have hb2 : (K : Int) < (rs.length : Int) := by omega
                        go_simp
                        exact ⟨Grown.refl _, by first | rfl | (simp [Want.pred]; done) | (simp [Want.pred]; omega)⟩
                      · intro w' hg _
                        refine Or.inl ⟨rfl, ?_⟩
                        have z : w'.cell? ⟨b2, K, none⟩ = some (.slice (some ⟨ρ.b, 0, none⟩) ρ.o.Z ρ.o.Z) := ((G.grown ((Below.refl _ _).drew)).grown hg).r2.cell (by rw [List.getElem?_map, HRO.out]; rfl)
                        go_simp
                        exact ⟨Grown.refl _, by first | rfl | (simp [Want.pred]; done) | (simp [Want.pred]; omega)⟩
                      · intro w' hg _
                        refine Or.inl ⟨rfl, ?_⟩
                        go_simp
                        exact ⟨Grown.refl _, by first | rfl | (simp [Want.pred]; done) | (simp [Want.pred]; omega)⟩
                      · intro w' hg _
                        refine Or.inl ⟨rfl, ?_⟩
                        have z := (wt.drew.grown hg).c2
                        rw [HHJ.out] at z
                        go_simp
                        exact ⟨Grown.refl _, by first | rfl | (simp [Want.pred]; done) | (simp [Want.pred]; omega)⟩
                      · intro w' hg _
                        refine Or.inl ⟨rfl, ?_⟩
                        have hb : (0 : Int) ≤ (j : Int) := by omega
                        have hb2 : (j : Int) < (ρ.o.Z : Int) := by omega
                        go_simp
                        exact ⟨Grown.refl _, by first | rfl | (simp [Want.pred]; done) | (simp [Want.pred]; omega)⟩
                      · intro w' hg _
                        refine Or.inl ⟨rfl, ?_⟩
                        have z := (((G.grown ((Below.refl _ _).drew)).grown hg).wr K ρ HRO.out).cell HJZ.out
                        rw [HFV.out] at z
                        go_simp
                        exact ⟨Grown.refl _, by first | rfl | (simp [Want.pred]; done) | (simp [Want.pred]; omega)⟩
                      · intro w' hg _
                        refine Or.inl ⟨rfl, ?_⟩
                        go_simp
                        exact ⟨Grown.refl _, by first | rfl | (simp [Want.pred]; done) | (simp [Want.pred]; omega)⟩
                      · intro w' hg _
                        refine Or.inl ⟨rfl, ?_⟩
                        go_simp
                        exact ⟨Grown.refl _, by first | rfl | (simp [Want.pred]; done) | (simp [Want.pred]; omega)⟩
                      intro w11 hg _
                      have B := (B.grown ((Below.refl _ _).drew)).grown hg
                      have G := (G.grown ((Below.refl _ _).drew)).grown hg
                      have wt := wt.drew.grown hg
                      have dn := dn.drew.grown hg
                      clear hg
                      have x0 := wt.c0
                      have x3 := wt.c3
                      have x4 := wt.c4
                      have d0 := dn.at0 0 rfl
                      have d2 := dn.at0 2 rfl
                      have hkv := HKV.out
                      rw [hkv] at x0
                      clear hkv
                      go_wp2
                      have hst : s5.steps = ((σ + 4 : Nat) : Int) := B.tw.pile.st
                      have ht := HT1.out
                      obtain ⟨σ5, hσ5⟩ : ∃ σ5, σ + 4 = σ5 := ⟨_, rfl⟩
                      rw [hσ5] at B hst ht
                      have HS5 : Hid (σ + 4 = σ5) := hσ5
                      have HST : Hid (s5.steps = (σ5 : Int)) := hst
                      have ht1 : ¬ (τ : Int) < 1 := by omega
                      have ht2 : ¬ (σ5 : Int) < (τ : Int) := by omega
                      clear hst hσ5 HT1 ht
                      refine wp_region_rely Grown [.val (.pointer (some ⟨D, 0, none⟩)), .val (.int .i64 0), .val (.int .i64 0), .val (.bool false), .val (.bool false), .val (.pointer (some ⟨D, 2, none⟩)), .val (.int .i64 fv), .val (.int .i64 fv), .val (.bool false), .val (.bool false), .val (.bool false), .val (.pointer (some ⟨D, 3, none⟩)), .val (.int .i64 τ), .val (.bool false), .val (.bool false), .val (.bool false), .val (.pointer (some ⟨D, 3, none⟩)), .val (.int .i64 τ), .val (.agg #[.int .i64 1, .int .i64 8, .int .i64 8, .int .i64 40, .int .i64 100, .int .i64 600, .int .i64 3, .pointer (some ⟨L.p, 0, none⟩), .int .i64 0]), .val (.int .i64 σ5), .val (.bool false), .val (.bool false)] (by kernel_rfl) Grown.refl Grown.trans (by kernel_rfl) (by kernel_rfl) (by kernel_rfl) ?_
                      simp only [relyAll, Act.put, List.setIfInBounds_toArray, List.set_cons_zero, List.set_cons_succ]
                      refine ⟨?_, ?_, ?_, ?_, ?_, ?_, ?_, ?_, ?_, ?_, ?_, ?_, ?_, ?_, ?_, ?_, ?_, ?_, ?_, ?_, ?_, ?_, ?_⟩
                      · intro w' hg _
                        refine Or.inl ⟨rfl, ?_⟩
                        go_simp
                        exact ⟨Grown.refl _, by first | rfl | (simp [Want.pred]; done) | (simp [Want.pred]; omega)⟩
                      · intro w' hg _
                        refine Or.inl ⟨rfl, ?_⟩
                        have z := (dn.drew.grown hg).at0 0 rfl
                        go_simp
                        exact ⟨Grown.refl _, by first | rfl | (simp [Want.pred]; done) | (simp [Want.pred]; omega)⟩
                      · intro w' hg _
                        refine Or.inl ⟨rfl, ?_⟩
                        go_simp
                        exact ⟨Grown.refl _, by first | rfl | (simp [Want.pred]; done) | (simp [Want.pred]; omega)⟩
                      · intro w' hg _
                        refine Or.inl ⟨rfl, ?_⟩
                        go_simp
                        exact ⟨Grown.refl _, by first | rfl | (simp [Want.pred]; done) | (simp [Want.pred]; omega)⟩
                      · intro w' hg _
                        refine Or.inl ⟨rfl, ?_⟩
                        go_simp
                        exact ⟨Grown.refl _, by first | rfl | (simp [Want.pred]; done) | (simp [Want.pred]; omega)⟩
                      · intro w' hg _
                        refine Or.inl ⟨rfl, ?_⟩
                        go_simp
                        exact ⟨Grown.refl _, by first | rfl | (simp [Want.pred]; done) | (simp [Want.pred]; omega)⟩
                      · intro w' hg _
                        refine Or.inl ⟨rfl, ?_⟩
                        have z := (dn.drew.grown hg).at0 2 rfl
                        go_simp
                        exact ⟨Grown.refl _, by first | rfl | (simp [Want.pred]; done) | (simp [Want.pred]; omega)⟩
                      · intro w' hg _
                        refine Or.inl ⟨rfl, ?_⟩
                        go_simp
                        exact ⟨Grown.refl _, by first | rfl | (simp [Want.pred]; done) | (simp [Want.pred]; omega)⟩
                      · intro w' hg _
                        refine Or.inl ⟨rfl, ?_⟩
                        go_simp
                        exact ⟨Grown.refl _, by first | rfl | (simp [Want.pred]; done) | (simp [Want.pred]; omega)⟩
                      · intro w' hg _
                        refine Or.inl ⟨rfl, ?_⟩
                        go_simp
                        exact ⟨Grown.refl _, by first | rfl | (simp [Want.pred]; done) | (simp [Want.pred]; omega)⟩
                      · intro w' hg _
                        refine Or.inl ⟨rfl, ?_⟩
                        go_simp
                        exact ⟨Grown.refl _, by first | rfl | (simp [Want.pred]; done) | (simp [Want.pred]; omega)⟩
                      · intro w' hg _
                        refine Or.inl ⟨rfl, ?_⟩
                        go_simp
                        exact ⟨Grown.refl _, by first | rfl | (simp [Want.pred]; done) | (simp [Want.pred]; omega)⟩
                      · intro w' hg _
                        refine Or.inl ⟨rfl, ?_⟩
                        have z := (dn.drew.grown hg).at0 3 rfl
                        go_simp
                        exact ⟨Grown.refl _, by first | rfl | (simp [Want.pred]; done) | (simp [Want.pred]; omega)⟩
                      · intro w' hg _
                        refine Or.inl ⟨rfl, ?_⟩
                        go_simp
                        exact ⟨Grown.refl _, by first | rfl | (simp [Want.pred]; done) | (simp [Want.pred]; omega)⟩
                      · intro w' hg _
                        refine Or.inl ⟨rfl, ?_⟩
                        go_simp
                        exact ⟨Grown.refl _, by first | rfl | (simp [Want.pred]; done) | (simp [Want.pred]; omega)⟩
                      · intro w' hg _
                        refine Or.inl ⟨rfl, ?_⟩
                        go_simp
                        exact ⟨Grown.refl _, by first | rfl | (simp [Want.pred]; done) | (simp [Want.pred]; omega)⟩
                      · intro w' hg _
                        refine Or.inl ⟨rfl, ?_⟩
                        go_simp
                        exact ⟨Grown.refl _, by first | rfl | (simp [Want.pred]; done) | (simp [Want.pred]; omega)⟩
                      · intro w' hg _
                        refine Or.inl ⟨rfl, ?_⟩
                        have z := (dn.drew.grown hg).at0 3 rfl
                        go_simp
                        exact ⟨Grown.refl _, by first | rfl | (simp [Want.pred]; done) | (simp [Want.pred]; omega)⟩
                      · intro w' hg _
                        refine Or.inl ⟨rfl, ?_⟩
                        have vv := (B.v.grown ((Below.refl _ _).drew)).grown hg
                        have y0 := vv.c0
                        have y1 := vv.c1
                        have y2 := vv.c2
                        have y3 := vv.c3
                        have y4 := vv.c4
                        have y5 := vv.c5
                        have y6 := vv.c6
                        have y7 := vv.c7
                        have y8 := vv.c8
                        go_simp
                        exact ⟨Grown.refl _, rfl⟩
                      · intro w' hg _
                        refine Or.inl ⟨rfl, ?_⟩
                        go_simp
                        refine (now_any (B.mm.drew.below hg) _ _ _ _ _ _ _ _ σ5 HST.out).mono ?_
                        rintro e w'' ⟨rfl, b9⟩
                        exact ⟨_, rfl, b9, rfl⟩
                      · intro w' hg _
                        refine Or.inl ⟨rfl, ?_⟩
                        go_simp
                        exact ⟨Grown.refl _, by first | rfl | (simp [Want.pred]; done) | (simp [Want.pred]; omega)⟩
                      · intro w' hg _
                        refine Or.inl ⟨rfl, ?_⟩
                        go_simp
                        exact ⟨Grown.refl _, by first | rfl | (simp [Want.pred]; done) | (simp [Want.pred]; omega)⟩
                      intro w13 hg _
                      have B := (B.grown ((Below.refl _ _).drew)).grown hg
                      have G := (G.grown ((Below.refl _ _).drew)).grown hg
                      have wt := wt.drew.grown hg
                      have dn := dn.drew.grown hg
                      clear hg
                      have HB9 : Hid (Spt w w13 L E 1 8 8 40 s5 σ5 q) := B
                      have HG9 : Hid (Grid w w13 L E rs F b1 c1 b2 c2) := G
                      clear B G wt dn
                      go_wp2
                      go_roundw
                      case rel =>
                        have := HS5.out
                        exact ⟨i + 1, s5, σ5, q, _, by go_num, by omega, by omega, HB9.out, HG9.out, HCR5.out⟩
                      case measure => simp [intOf]; omega
                  · by_cases hk2 : W.kd = 2
                    · skip
                      as_aux_lemma =>
                        obtain ⟨τ, hτ⟩ : ∃ τ, σ + 4 = τ := ⟨_, rfl⟩
                        obtain ⟨q5, ru, Cr5⟩ := HCR.out.lays HRO.out (W := W) (σ := σ) hjZ hj HWV.out (Or.inl hk2)
                        have HCR5 : Hid (Crop q5 rs (fun K' j' => if K' = K ∧ j' = j then W.vl else F K' j')) := Cr5
                        clear Cr5
                        rw [hτ, hfv] at ru
                        have CL := HB.out.do FA.out (HCR.out.sc K ρ HRO.out).wd HWN.out hxn HWO.out (by omega) (N := 4) (by decide) (ru)
                        have HT1 : Hid (1 ≤ (τ : Int) ∧ (τ : Int) ≤ ((σ + 4 : Nat) : Int)) := ⟨by omega, by omega⟩
                        have HKV : Hid (W.kd = 2) := hk2
                        have HFV : Hid (F K j = fv) := hfv
                        have HHJ : Hid (W.ix = (j : Int)) := hj
                        have HJZ : Hid (j < ρ.o.Z) := hjZ
                        clear ru hτ hfv hj hk1 hk2 HCR
                        have x0 := HT.out.c0
                        have x1 := HT.out.c1
                        have x2 := HT.out.c2
                        have x3 := HT.out.c3
                        have x4 := HT.out.c4
                        go_wp2_with (go_at_call 13; refine CL.mono ?_; rintro e w5 ⟨rfl, s5, B5, o5, -⟩)
                        have HB5 := B5.grown (grow1 w5 (.cells #[.int .i64 0, .int .u64 0, .int .i64 fv, .int .i64 τ] 37))
                        have HG5 := (HG.out.mem o5).grown (grow1 w5 (.cells #[.int .i64 0, .int .u64 0, .int .i64 fv, .int .i64 τ] 37))
                        have HT5 := (HT.out.only o5 HXL.out).grown (grow1 w5 (.cells #[.int .i64 0, .int .u64 0, .int .i64 fv, .int .i64 τ] 37))
                        have HD5 := At.new w5 37 [.int .i64 0, .int .u64 0, .int .i64 fv, .int .i64 τ]
                        obtain ⟨D, hD⟩ : ∃ D, w5.heap.size = D := ⟨_, rfl⟩
                        have HDG : Hid (∀ b, Gh rs b1 b2 b → b ≠ D) := fun b hb => by have := (HG.out.mem o5).lt hb; omega
                        rw [hD] at HD5 ⊢
                        refine wp_over (fun w' => Spt w w' L E 1 8 8 40 s5 (σ + 4) q5 ∧ Grid w w' L E rs F b1 c1 b2 c2 ∧ WtAt w' X W ∧ At w' D 0 37 #[.int .i64 0, .int .u64 0, .int .i64 fv, .int .i64 τ] [.int .i64 0, .int .u64 0, .int .i64 fv, .int .i64 τ]) ⟨HB5, HG5, HT5, HD5⟩ ?_
                        clear HB5 HG5 HT5 HD5 B5 o5 hD x0 x1 x2 x3 x4 HB HG HT z0 z1 z2 z3 z4 z5 z6 z7 z8
                        rintro W9 ⟨B, G, wt, dn⟩
                        have hjn : ¬ (j : Int) < 0 := by omega
                        have hjg : ¬ (ρ.o.Z : Int) ≤ (j : Int) := by omega
                        refine wp_region_rely Grown [.val (.pointer (some ⟨X, 2, none⟩)), .val (.int .i64 j), .val (.bool false), .val (.bool false), .val (.pointer (some ⟨X, 2, none⟩)), .val (.int .i64 j), .val (.slice (some ⟨b2, 0, none⟩) rs.length c2), .val (.int .i64 K), .val (.pointer (some ⟨b2, K, none⟩)), .val (.slice (some ⟨ρ.b, 0, none⟩) ρ.o.Z ρ.o.Z), .val (.int .i64 ρ.o.Z), .val (.bool false), .val (.bool false)] (by kernel_rfl) Grown.refl Grown.trans (by kernel_rfl) (by kernel_rfl) (by kernel_rfl) ?_
                        simp only [relyAll, Act.put, List.setIfInBounds_toArray, List.set_cons_zero, List.set_cons_succ]
                        refine ⟨?_, ?_, ?_, ?_, ?_, ?_, ?_, ?_, ?_, ?_, ?_, ?_, ?_, ?_⟩
                        · intro w' hg _
                          refine Or.inl ⟨rfl, ?_⟩
                          go_simp
                          exact ⟨Grown.refl _, by first | rfl | (simp [Want.pred]; done) | (simp [Want.pred]; omega)⟩
                        · intro w' hg _
                          refine Or.inl ⟨rfl, ?_⟩
                          have z := (wt.drew.grown hg).c2
                          rw [HHJ.out] at z
                          go_simp
                          exact ⟨Grown.refl _, by first | rfl | (simp [Want.pred]; done) | (simp [Want.pred]; omega)⟩
                        · intro w' hg _
                          refine Or.inl ⟨rfl, ?_⟩
                          go_simp
                          exact ⟨Grown.refl _, by first | rfl | (simp [Want.pred]; done) | (simp [Want.pred]; omega)⟩
                        · intro w' hg _
                          refine Or.inl ⟨rfl, ?_⟩
                          go_simp
                          exact ⟨Grown.refl _, by first | rfl | (simp [Want.pred]; done) | (simp [Want.pred]; omega)⟩
                        · intro w' hg _
                          refine Or.inl ⟨rfl, ?_⟩
                          go_simp
                          exact ⟨Grown.refl _, by first | rfl | (simp [Want.pred]; done) | (simp [Want.pred]; omega)⟩
                        · intro w' hg _
                          refine Or.inl ⟨rfl, ?_⟩
                          have z := (wt.drew.grown hg).c2
                          rw [HHJ.out] at z
                          go_simp
                          exact ⟨Grown.refl _, by first | rfl | (simp [Want.pred]; done) | (simp [Want.pred]; omega)⟩
                        · intro w' hg _
                          refine Or.inl ⟨rfl, ?_⟩
                          go_simp
                          exact ⟨Grown.refl _, by first | rfl | (simp [Want.pred]; done) | (simp [Want.pred]; omega)⟩
                        · intro w' hg _
                          refine Or.inl ⟨rfl, ?_⟩
                          go_simp
                          exact ⟨Grown.refl _, by first | rfl | (simp [Want.pred]; done) | (simp [Want.pred]; omega)⟩
                        · intro w' hg _
                          refine Or.inl ⟨rfl, ?_⟩
                          have hb : (0 : Int) ≤ (K : Int) := by omega
                          have hb2 : (K : Int) < (rs.length : Int) := by omega
                          go_simp
                          exact ⟨Grown.refl _, by first | rfl | (simp [Want.pred]; done) | (simp [Want.pred]; omega)⟩
                        · intro w' hg _
                          refine Or.inl ⟨rfl, ?_⟩
                          have z : w'.cell? ⟨b2, K, none⟩ = some (.slice (some ⟨ρ.b, 0, none⟩) ρ.o.Z ρ.o.Z) := ((G.grown ((Below.refl _ _).drew)).grown hg).r2.cell (by rw [List.getElem?_map, HRO.out]; rfl)
                          go_simp
                          exact ⟨Grown.refl _, by first | rfl | (simp [Want.pred]; done) | (simp [Want.pred]; omega)⟩
                        · intro w' hg _
                          refine Or.inl ⟨rfl, ?_⟩
                          go_simp
                          exact ⟨Grown.refl _, by first | rfl | (simp [Want.pred]; done) | (simp [Want.pred]; omega)⟩
                        · intro w' hg _
                          refine Or.inl ⟨rfl, ?_⟩
                          go_simp
                          exact ⟨Grown.refl _, by first | rfl | (simp [Want.pred]; done) | (simp [Want.pred]; omega)⟩
                        · intro w' hg _
                          refine Or.inl ⟨rfl, ?_⟩
                          go_simp
                          exact ⟨Grown.refl _, by first | rfl | (simp [Want.pred]; done) | (simp [Want.pred]; omega)⟩
                        intro w10 hg _
                        have B := (B.grown ((Below.refl _ _).drew)).grown hg
                        have G := (G.grown ((Below.refl _ _).drew)).grown hg
                        have wt := wt.drew.grown hg
                        have dn := dn.drew.grown hg
                        clear hg
                        go_wp2
                        refine wp_region_rely Grown [.val (.slice (some ⟨b2, 0, none⟩) rs.length c2), .val (.int .i64 K), .val (.pointer (some ⟨b2, K, none⟩)), .val (.slice (some ⟨ρ.b, 0, none⟩) ρ.o.Z ρ.o.Z), .val (.pointer (some ⟨X, 2, none⟩)), .val (.int .i64 j), .val (.pointer (some ⟨ρ.b, j, none⟩)), .val (.int .i64 fv), .val (.int .i64 fv), .val (.int .i64 0)] (by kernel_rfl) Grown.refl Grown.trans (by kernel_rfl) (by kernel_rfl) (by kernel_rfl) ?_
                        simp only [relyAll, Act.put, List.setIfInBounds_toArray, List.set_cons_zero, List.set_cons_succ]
                        refine ⟨?_, ?_, ?_, ?_, ?_, ?_, ?_, ?_, ?_, ?_, ?_⟩
                        · intro w' hg _
                          refine Or.inl ⟨rfl, ?_⟩
                          go_simp
                          exact ⟨Grown.refl _, by first | rfl | (simp [Want.pred]; done) | (simp [Want.pred]; omega)⟩
                        · intro w' hg _
                          refine Or.inl ⟨rfl, ?_⟩
                          go_simp
                          exact ⟨Grown.refl _, by first | rfl | (simp [Want.pred]; done) | (simp [Want.pred]; omega)⟩
                        · intro w' hg _
                          refine Or.inl ⟨rfl, ?_⟩
                          have hb : (0 : Int) ≤ (K : Int) := by omega
                          have hb2 : (K : Int) < (rs.length : Int) := by omega
                          go_simp
                          exact ⟨Grown.refl _, by first | rfl | (simp [Want.pred]; done) | (simp [Want.pred]; omega)⟩
                        · intro w' hg _
                          refine Or.inl ⟨rfl, ?_⟩
                          have z : w'.cell? ⟨b2, K, none⟩ = some (.slice (some ⟨ρ.b, 0, none⟩) ρ.o.Z ρ.o.Z) := ((G.grown ((Below.refl _ _).drew)).grown hg).r2.cell (by rw [List.getElem?_map, HRO.out]; rfl)
                          go_simp
                          exact ⟨Grown.refl _, by first | rfl | (simp [Want.pred]; done) | (simp [Want.pred]; omega)⟩
                        · intro w' hg _
                          refine Or.inl ⟨rfl, ?_⟩
                          go_simp
                          exact ⟨Grown.refl _, by first | rfl | (simp [Want.pred]; done) | (simp [Want.pred]; omega)⟩
                        · intro w' hg _
                          refine Or.inl ⟨rfl, ?_⟩
                          have z := (wt.drew.grown hg).c2
                          rw [HHJ.out] at z
                          go_simp
                          exact ⟨Grown.refl _, by first | rfl | (simp [Want.pred]; done) | (simp [Want.pred]; omega)⟩
                        · intro w' hg _
                          refine Or.inl ⟨rfl, ?_⟩
                          have hb : (0 : Int) ≤ (j : Int) := by omega
                          have hb2 : (j : Int) < (ρ.o.Z : Int) := by omega
                          go_simp
                          exact ⟨Grown.refl _, by first | rfl | (simp [Want.pred]; done) | (simp [Want.pred]; omega)⟩
                        · intro w' hg _
                          refine Or.inl ⟨rfl, ?_⟩
                          have z := (((G.grown ((Below.refl _ _).drew)).grown hg).wr K ρ HRO.out).cell HJZ.out
                          rw [HFV.out] at z
                          go_simp
                          exact ⟨Grown.refl _, by first | rfl | (simp [Want.pred]; done) | (simp [Want.pred]; omega)⟩
                        · intro w' hg _
                          refine Or.inl ⟨rfl, ?_⟩
                          go_simp
                          exact ⟨Grown.refl _, by first | rfl | (simp [Want.pred]; done) | (simp [Want.pred]; omega)⟩
                        · intro w' hg _
                          refine Or.inl ⟨rfl, ?_⟩
                          go_simp
                          exact ⟨Grown.refl _, by first | rfl | (simp [Want.pred]; done) | (simp [Want.pred]; omega)⟩
                        intro w11 hg _
                        have B := (B.grown ((Below.refl _ _).drew)).grown hg
                        have G := (G.grown ((Below.refl _ _).drew)).grown hg
                        have wt := wt.drew.grown hg
                        have dn := dn.drew.grown hg
                        clear hg
                        have x0 := wt.c0
                        have x3 := wt.c3
                        have x4 := wt.c4
                        have d0 := dn.at0 0 rfl
                        have d2 := dn.at0 2 rfl
                        have hkv := HKV.out
                        rw [hkv] at x0
                        clear hkv
                        go_wp2
                        refine wp_region_rely_tail Grown 9 [.val (.slice (some ⟨b2, 0, none⟩) rs.length c2), .val (.int .i64 K), .val (.pointer (some ⟨b2, K, none⟩)), .val (.slice (some ⟨ρ.b, 0, none⟩) ρ.o.Z ρ.o.Z), .val (.pointer (some ⟨X, 2, none⟩)), .val (.int .i64 j), .val (.pointer (some ⟨X, 3, none⟩)), .val (.int .i64 W.vl), .val (.pointer (some ⟨ρ.b, j, none⟩))] (by kernel_rfl) Grown.refl Grown.trans (by decide) (by kernel_rfl) (by kernel_rfl) (by kernel_rfl) (by kernel_rfl) (by kernel_rfl) (by kernel_rfl) ?_
                        simp only [List.take_succ_cons, List.take_zero, relyAll, Act.put, List.setIfInBounds_toArray, List.set_cons_zero, List.set_cons_succ]
                        refine ⟨?_, ?_, ?_, ?_, ?_, ?_, ?_, ?_, ?_, ?_⟩
                        · intro w' hg _
                          refine Or.inl ⟨rfl, ?_⟩
                          go_simp
                          exact ⟨Grown.refl _, by first | rfl | (simp [Want.pred]; done) | (simp [Want.pred]; omega)⟩
                        · intro w' hg _
                          refine Or.inl ⟨rfl, ?_⟩
                          go_simp
                          exact ⟨Grown.refl _, by first | rfl | (simp [Want.pred]; done) | (simp [Want.pred]; omega)⟩
                        · intro w' hg _
                          refine Or.inl ⟨rfl, ?_⟩
                          have hb : (0 : Int) ≤ (K : Int) := by omega
                          have hb2 : (K : Int) < (rs.length : Int) := by omega
                          go_simp
                          exact ⟨Grown.refl _, by first | rfl | (simp [Want.pred]; done) | (simp [Want.pred]; omega)⟩
                        · intro w' hg _
                          refine Or.inl ⟨rfl, ?_⟩
                          have z : w'.cell? ⟨b2, K, none⟩ = some (.slice (some ⟨ρ.b, 0, none⟩) ρ.o.Z ρ.o.Z) := ((G.grown ((Below.refl _ _).drew)).grown hg).r2.cell (by rw [List.getElem?_map, HRO.out]; rfl)
                          go_simp
                          exact ⟨Grown.refl _, by first | rfl | (simp [Want.pred]; done) | (simp [Want.pred]; omega)⟩
                        · intro w' hg _
                          refine Or.inl ⟨rfl, ?_⟩
                          go_simp
                          exact ⟨Grown.refl _, by first | rfl | (simp [Want.pred]; done) | (simp [Want.pred]; omega)⟩
                        · intro w' hg _
                          refine Or.inl ⟨rfl, ?_⟩
                          have z := (wt.drew.grown hg).c2
                          rw [HHJ.out] at z
                          go_simp
                          exact ⟨Grown.refl _, by first | rfl | (simp [Want.pred]; done) | (simp [Want.pred]; omega)⟩
                        · intro w' hg _
                          refine Or.inl ⟨rfl, ?_⟩
                          go_simp
                          exact ⟨Grown.refl _, by first | rfl | (simp [Want.pred]; done) | (simp [Want.pred]; omega)⟩
                        · intro w' hg _
                          refine Or.inl ⟨rfl, ?_⟩
                          have z := (wt.drew.grown hg).c3
                          go_simp
                          exact ⟨Grown.refl _, by first | rfl | (simp [Want.pred]; done) | (simp [Want.pred]; omega)⟩
                        · intro w' hg _
                          refine Or.inl ⟨rfl, ?_⟩
                          have hb : (0 : Int) ≤ (j : Int) := by omega
                          have hb2 : (j : Int) < (ρ.o.Z : Int) := by omega
                          go_simp
                          exact ⟨Grown.refl _, by first | rfl | (simp [Want.pred]; done) | (simp [Want.pred]; omega)⟩
                        intro w12 hg _
                        have B := (B.grown ((Below.refl _ _).drew)).grown hg
                        have G := (G.grown ((Below.refl _ _).drew)).grown hg
                        have wt := wt.drew.grown hg
                        have dn := dn.drew.grown hg
                        clear hg
                        have kc := (G.wr K ρ HRO.out).cell HJZ.out
                        have kf := (G.wr K ρ HRO.out).frozen j
                        have lo := G.fr K ρ HRO.out
                        have hXr : X ≠ ρ.b := fun e => HXG.out _ (Or.inr (Or.inr ⟨K, ρ, HRO.out, rfl⟩)) e.symm
                        have hDr : D ≠ ρ.b := fun e => HDG.out _ (Or.inr (Or.inr ⟨K, ρ, HRO.out, rfl⟩)) e.symm
                        have B1 := B.setIn lo.p lo.e lo.l j (.int .i64 W.vl)
                        have G1 := G.set HRO.out j W.vl
                        have wt1 := wt.other hXr j (.int .i64 W.vl)
                        have dn1 := dn.other hDr j (.int .i64 W.vl)
                        clear B G wt dn lo hXr hDr x0 x3 x4 d0 d2
                        go_wp2
                        refine wp_over (fun w' => Spt w w' L E 1 8 8 40 s5 (σ + 4) q5 ∧ Grid w w' L E rs (fun K' j' => if K' = K ∧ j' = j then W.vl else F K' j') b1 c1 b2 c2 ∧ WtAt w' X W ∧ At w' D 0 37 _ [.int .i64 0, .int .u64 0, .int .i64 fv, .int .i64 τ]) ⟨B1, G1, wt1, dn1⟩ ?_
                        clear B1 G1 wt1 dn1 kc kf
                        rintro W12 ⟨B, G, wt, dn⟩
                        have hst : s5.steps = ((σ + 4 : Nat) : Int) := B.tw.pile.st
                        have ht := HT1.out
                        obtain ⟨σ5, hσ5⟩ : ∃ σ5, σ + 4 = σ5 := ⟨_, rfl⟩
                        rw [hσ5] at B hst ht
                        have HS5 : Hid (σ + 4 = σ5) := hσ5
                        have HST : Hid (s5.steps = (σ5 : Int)) := hst
                        have ht1 : ¬ (τ : Int) < 1 := by omega
                        have ht2 : ¬ (σ5 : Int) < (τ : Int) := by omega
                        clear hst hσ5 HT1 ht
                        refine wp_region_rely Grown [.val (.pointer (some ⟨D, 0, none⟩)), .val (.int .i64 0), .val (.int .i64 0), .val (.bool false), .val (.bool false), .val (.pointer (some ⟨D, 2, none⟩)), .val (.int .i64 fv), .val (.int .i64 fv), .val (.bool false), .val (.bool false), .val (.bool false), .val (.pointer (some ⟨D, 3, none⟩)), .val (.int .i64 τ), .val (.bool false), .val (.bool false), .val (.bool false), .val (.pointer (some ⟨D, 3, none⟩)), .val (.int .i64 τ), .val (.agg #[.int .i64 1, .int .i64 8, .int .i64 8, .int .i64 40, .int .i64 100, .int .i64 600, .int .i64 3, .pointer (some ⟨L.p, 0, none⟩), .int .i64 0]), .val (.int .i64 σ5), .val (.bool false), .val (.bool false)] (by kernel_rfl) Grown.refl Grown.trans (by kernel_rfl) (by kernel_rfl) (by kernel_rfl) ?_
                        simp only [relyAll, Act.put, List.setIfInBounds_toArray, List.set_cons_zero, List.set_cons_succ]
                        refine ⟨?_, ?_, ?_, ?_, ?_, ?_, ?_, ?_, ?_, ?_, ?_, ?_, ?_, ?_, ?_, ?_, ?_, ?_, ?_, ?_, ?_, ?_, ?_⟩
                        · intro w' hg _
                          refine Or.inl ⟨rfl, ?_⟩
                          go_simp
                          exact ⟨Grown.refl _, by first | rfl | (simp [Want.pred]; done) | (simp [Want.pred]; omega)⟩
                        · intro w' hg _
                          refine Or.inl ⟨rfl, ?_⟩
                          have z := (dn.drew.grown hg).at0 0 rfl
                          go_simp
                          exact ⟨Grown.refl _, by first | rfl | (simp [Want.pred]; done) | (simp [Want.pred]; omega)⟩
                        · intro w' hg _
                          refine Or.inl ⟨rfl, ?_⟩
                          go_simp
                          exact ⟨Grown.refl _, by first | rfl | (simp [Want.pred]; done) | (simp [Want.pred]; omega)⟩
                        · intro w' hg _
                          refine Or.inl ⟨rfl, ?_⟩
                          go_simp
                          exact ⟨Grown.refl _, by first | rfl | (simp [Want.pred]; done) | (simp [Want.pred]; omega)⟩
                        · intro w' hg _
                          refine Or.inl ⟨rfl, ?_⟩
                          go_simp
                          exact ⟨Grown.refl _, by first | rfl | (simp [Want.pred]; done) | (simp [Want.pred]; omega)⟩
                        · intro w' hg _
                          refine Or.inl ⟨rfl, ?_⟩
                          go_simp
                          exact ⟨Grown.refl _, by first | rfl | (simp [Want.pred]; done) | (simp [Want.pred]; omega)⟩
                        · intro w' hg _
                          refine Or.inl ⟨rfl, ?_⟩
                          have z := (dn.drew.grown hg).at0 2 rfl
                          go_simp
                          exact ⟨Grown.refl _, by first | rfl | (simp [Want.pred]; done) | (simp [Want.pred]; omega)⟩
                        · intro w' hg _
                          refine Or.inl ⟨rfl, ?_⟩
                          go_simp
                          exact ⟨Grown.refl _, by first | rfl | (simp [Want.pred]; done) | (simp [Want.pred]; omega)⟩
                        · intro w' hg _
                          refine Or.inl ⟨rfl, ?_⟩
                          go_simp
                          exact ⟨Grown.refl _, by first | rfl | (simp [Want.pred]; done) | (simp [Want.pred]; omega)⟩
                        · intro w' hg _
                          refine Or.inl ⟨rfl, ?_⟩
                          go_simp
                          exact ⟨Grown.refl _, by first | rfl | (simp [Want.pred]; done) | (simp [Want.pred]; omega)⟩
                        · intro w' hg _
                          refine Or.inl ⟨rfl, ?_⟩
                          go_simp
                          exact ⟨Grown.refl _, by first | rfl | (simp [Want.pred]; done) | (simp [Want.pred]; omega)⟩
                        · intro w' hg _
                          refine Or.inl ⟨rfl, ?_⟩
                          go_simp
                          exact ⟨Grown.refl _, by first | rfl | (simp [Want.pred]; done) | (simp [Want.pred]; omega)⟩
                        · intro w' hg _
                          refine Or.inl ⟨rfl, ?_⟩
                          have z := (dn.drew.grown hg).at0 3 rfl
                          go_simp
                          exact ⟨Grown.refl _, by first | rfl | (simp [Want.pred]; done) | (simp [Want.pred]; omega)⟩
                        · intro w' hg _
                          refine Or.inl ⟨rfl, ?_⟩
                          go_simp
                          exact ⟨Grown.refl _, by first | rfl | (simp [Want.pred]; done) | (simp [Want.pred]; omega)⟩
                        · intro w' hg _
                          refine Or.inl ⟨rfl, ?_⟩
                          go_simp
                          exact ⟨Grown.refl _, by first | rfl | (simp [Want.pred]; done) | (simp [Want.pred]; omega)⟩
                        · intro w' hg _
                          refine Or.inl ⟨rfl, ?_⟩
                          go_simp
                          exact ⟨Grown.refl _, by first | rfl | (simp [Want.pred]; done) | (simp [Want.pred]; omega)⟩
                        · intro w' hg _
                          refine Or.inl ⟨rfl, ?_⟩
                          go_simp
                          exact ⟨Grown.refl _, by first | rfl | (simp [Want.pred]; done) | (simp [Want.pred]; omega)⟩
                        · intro w' hg _
                          refine Or.inl ⟨rfl, ?_⟩
                          have z := (dn.drew.grown hg).at0 3 rfl
                          go_simp
                          exact ⟨Grown.refl _, by first | rfl | (simp [Want.pred]; done) | (simp [Want.pred]; omega)⟩
                        · intro w' hg _
                          refine Or.inl ⟨rfl, ?_⟩
                          have vv := (B.v.grown ((Below.refl _ _).drew)).grown hg
                          have y0 := vv.c0
                          have y1 := vv.c1
                          have y2 := vv.c2
                          have y3 := vv.c3
                          have y4 := vv.c4
                          have y5 := vv.c5
                          have y6 := vv.c6
                          have y7 := vv.c7
                          have y8 := vv.c8
                          go_simp
                          exact ⟨Grown.refl _, rfl⟩
                        · intro w' hg _
                          refine Or.inl ⟨rfl, ?_⟩
                          go_simp
                          refine (now_any (B.mm.drew.below hg) _ _ _ _ _ _ _ _ σ5 HST.out).mono ?_
                          rintro e w'' ⟨rfl, b9⟩
                          exact ⟨_, rfl, b9, rfl⟩
                        · intro w' hg _
                          refine Or.inl ⟨rfl, ?_⟩
                          go_simp
                          exact ⟨Grown.refl _, by first | rfl | (simp [Want.pred]; done) | (simp [Want.pred]; omega)⟩
                        · intro w' hg _
                          refine Or.inl ⟨rfl, ?_⟩
                          go_simp
                          exact ⟨Grown.refl _, by first | rfl | (simp [Want.pred]; done) | (simp [Want.pred]; omega)⟩
                        intro w13 hg _
                        have B := (B.grown ((Below.refl _ _).drew)).grown hg
                        have G := (G.grown ((Below.refl _ _).drew)).grown hg
                        have wt := wt.drew.grown hg
                        have dn := dn.drew.grown hg
                        clear hg
                        have HB9 : Hid (Spt w w13 L E 1 8 8 40 s5 σ5 q5) := B
                        have HG9 : Hid (Grid w w13 L E rs (fun K' j' => if K' = K ∧ j' = j then W.vl else F K' j') b1 c1 b2 c2) := G
                        clear B G wt dn
                        go_wp2
                        go_roundw
                        case rel =>
                          have := HS5.out
                          exact ⟨i + 1, s5, σ5, q5, _, by go_num, by omega, by omega, HB9.out, HG9.out, HCR5.out⟩
                        case measure => simp [intOf]; omega
                    · have hk3 : W.kd = 3 := by have := HKD.out; omega
                      by_cases ho : fv = W.ol
                      · skip
                        as_aux_lemma =>
                          obtain ⟨τ, hτ⟩ : ∃ τ, σ + 4 = τ := ⟨_, rfl⟩
                          obtain ⟨q5, ru, Cr5⟩ := HCR.out.lays HRO.out (W := W) (σ := σ) hjZ hj HWV.out (Or.inr ⟨hk3, hfv.trans ho⟩)
                          have HCR5 : Hid (Crop q5 rs (fun K' j' => if K' = K ∧ j' = j then W.vl else F K' j')) := Cr5
                          clear Cr5
                          rw [hτ, hfv] at ru
                          have CL := HB.out.do FA.out (HCR.out.sc K ρ HRO.out).wd HWN.out hxn HWO.out (by omega) (N := 4) (by decide) (ru)
                          have HT1 : Hid (1 ≤ (τ : Int) ∧ (τ : Int) ≤ ((σ + 4 : Nat) : Int)) := ⟨by omega, by omega⟩
                          have HKV : Hid (W.kd = 3) := hk3
                          have HO : Hid (fv = W.ol) := ho
                          have HFV : Hid (F K j = fv) := hfv
                          have HHJ : Hid (W.ix = (j : Int)) := hj
                          have HJZ : Hid (j < ρ.o.Z) := hjZ
                          clear ru hτ hfv hj hk1 hk2 hk3 ho HCR
                          have x0 := HT.out.c0
                          have x1 := HT.out.c1
                          have x2 := HT.out.c2
                          have x3 := HT.out.c3
                          have x4 := HT.out.c4
                          go_wp2_with (go_at_call 13; refine CL.mono ?_; rintro e w5 ⟨rfl, s5, B5, o5, -⟩)
                          have HB5 := B5.grown (grow1 w5 (.cells #[.int .i64 0, .int .u64 0, .int .i64 fv, .int .i64 τ] 37))
                          have HG5 := (HG.out.mem o5).grown (grow1 w5 (.cells #[.int .i64 0, .int .u64 0, .int .i64 fv, .int .i64 τ] 37))
                          have HT5 := (HT.out.only o5 HXL.out).grown (grow1 w5 (.cells #[.int .i64 0, .int .u64 0, .int .i64 fv, .int .i64 τ] 37))
                          have HD5 := At.new w5 37 [.int .i64 0, .int .u64 0, .int .i64 fv, .int .i64 τ]
                          obtain ⟨D, hD⟩ : ∃ D, w5.heap.size = D := ⟨_, rfl⟩
                          have HDG : Hid (∀ b, Gh rs b1 b2 b → b ≠ D) := fun b hb => by have := (HG.out.mem o5).lt hb; omega
                          rw [hD] at HD5 ⊢
                          refine wp_over (fun w' => Spt w w' L E 1 8 8 40 s5 (σ + 4) q5 ∧ Grid w w' L E rs F b1 c1 b2 c2 ∧ WtAt w' X W ∧ At w' D 0 37 #[.int .i64 0, .int .u64 0, .int .i64 fv, .int .i64 τ] [.int .i64 0, .int .u64 0, .int .i64 fv, .int .i64 τ]) ⟨HB5, HG5, HT5, HD5⟩ ?_
                          clear HB5 HG5 HT5 HD5 B5 o5 hD x0 x1 x2 x3 x4 HB HG HT z0 z1 z2 z3 z4 z5 z6 z7 z8
                          rintro W9 ⟨B, G, wt, dn⟩
                          have hjn : ¬ (j : Int) < 0 := by omega
                          have hjg : ¬ (ρ.o.Z : Int) ≤ (j : Int) := by omega
                          refine wp_region_rely Grown [.val (.pointer (some ⟨X, 2, none⟩)), .val (.int .i64 j), .val (.bool false), .val (.bool false), .val (.pointer (some ⟨X, 2, none⟩)), .val (.int .i64 j), .val (.slice (some ⟨b2, 0, none⟩) rs.length c2), .val (.int .i64 K), .val (.pointer (some ⟨b2, K, none⟩)), .val (.slice (some ⟨ρ.b, 0, none⟩) ρ.o.Z ρ.o.Z), .val (.int .i64 ρ.o.Z), .val (.bool false), .val (.bool false)] (by kernel_rfl) Grown.refl Grown.trans (by kernel_rfl) (by kernel_rfl) (by kernel_rfl) ?_
                          simp only [relyAll, Act.put, List.setIfInBounds_toArray, List.set_cons_zero, List.set_cons_succ]
                          refine ⟨?_, ?_, ?_, ?_, ?_, ?_, ?_, ?_, ?_, ?_, ?_, ?_, ?_, ?_⟩
                          · intro w' hg _
                            refine Or.inl ⟨rfl, ?_⟩
                            go_simp
                            exact ⟨Grown.refl _, by first | rfl | (simp [Want.pred]; done) | (simp [Want.pred]; omega)⟩
                          · intro w' hg _
                            refine Or.inl ⟨rfl, ?_⟩
                            have z := (wt.drew.grown hg).c2
                            rw [HHJ.out] at z
                            go_simp
                            exact ⟨Grown.refl _, by first | rfl | (simp [Want.pred]; done) | (simp [Want.pred]; omega)⟩
                          · intro w' hg _
                            refine Or.inl ⟨rfl, ?_⟩
                            go_simp
                            exact ⟨Grown.refl _, by first | rfl | (simp [Want.pred]; done) | (simp [Want.pred]; omega)⟩
                          · intro w' hg _
                            refine Or.inl ⟨rfl, ?_⟩
                            go_simp
                            exact ⟨Grown.refl _, by first | rfl | (simp [Want.pred]; done) | (simp [Want.pred]; omega)⟩
                          · intro w' hg _
                            refine Or.inl ⟨rfl, ?_⟩
                            go_simp
                            exact ⟨Grown.refl _, by first | rfl | (simp [Want.pred]; done) | (simp [Want.pred]; omega)⟩
                          · intro w' hg _
                            refine Or.inl ⟨rfl, ?_⟩
                            have z := (wt.drew.grown hg).c2
                            rw [HHJ.out] at z
                            go_simp
                            exact ⟨Grown.refl _, by first | rfl | (simp [Want.pred]; done) | (simp [Want.pred]; omega)⟩
                          · intro w' hg _
                            refine Or.inl ⟨rfl, ?_⟩
                            go_simp
                            exact ⟨Grown.refl _, by first | rfl | (simp [Want.pred]; done) | (simp [Want.pred]; omega)⟩
                          · intro w' hg _
                            refine Or.inl ⟨rfl, ?_⟩
                            go_simp
                            exact ⟨Grown.refl _, by first | rfl | (simp [Want.pred]; done) | (simp [Want.pred]; omega)⟩
                          · intro w' hg _
                            refine Or.inl ⟨rfl, ?_⟩
                            have hb : (0 : Int) ≤ (K : Int) := by omega
                            have hb2 : (K : Int) < (rs.length : Int) := by omega
                            go_simp
                            exact ⟨Grown.refl _, by first | rfl | (simp [Want.pred]; done) | (simp [Want.pred]; omega)⟩
                          · intro w' hg _
                            refine Or.inl ⟨rfl, ?_⟩
                            have z : w'.cell? ⟨b2, K, none⟩ = some (.slice (some ⟨ρ.b, 0, none⟩) ρ.o.Z ρ.o.Z) := ((G.grown ((Below.refl _ _).drew)).grown hg).r2.cell (by rw [List.getElem?_map, HRO.out]; rfl)
                            go_simp
                            exact ⟨Grown.refl _, by first | rfl | (simp [Want.pred]; done) | (simp [Want.pred]; omega)⟩
                          · intro w' hg _
                            refine Or.inl ⟨rfl, ?_⟩
                            go_simp
                            exact ⟨Grown.refl _, by first | rfl | (simp [Want.pred]; done) | (simp [Want.pred]; omega)⟩
                          · intro w' hg _
                            refine Or.inl ⟨rfl, ?_⟩
                            go_simp
                            exact ⟨Grown.refl _, by first | rfl | (simp [Want.pred]; done) | (simp [Want.pred]; omega)⟩
                          · intro w' hg _
                            refine Or.inl ⟨rfl, ?_⟩
                            go_simp
                            exact ⟨Grown.refl _, by first | rfl | (simp [Want.pred]; done) | (simp [Want.pred]; omega)⟩
                          intro w10 hg _
                          have B := (B.grown ((Below.refl _ _).drew)).grown hg
                          have G := (G.grown ((Below.refl _ _).drew)).grown hg
                          have wt := wt.drew.grown hg
                          have dn := dn.drew.grown hg
                          clear hg
                          go_wp2
                          refine wp_region_rely Grown [.val (.slice (some ⟨b2, 0, none⟩) rs.length c2), .val (.int .i64 K), .val (.pointer (some ⟨b2, K, none⟩)), .val (.slice (some ⟨ρ.b, 0, none⟩) ρ.o.Z ρ.o.Z), .val (.pointer (some ⟨X, 2, none⟩)), .val (.int .i64 j), .val (.pointer (some ⟨ρ.b, j, none⟩)), .val (.int .i64 fv), .val (.int .i64 fv), .val (.int .i64 0)] (by kernel_rfl) Grown.refl Grown.trans (by kernel_rfl) (by kernel_rfl) (by kernel_rfl) ?_
                          simp only [relyAll, Act.put, List.setIfInBounds_toArray, List.set_cons_zero, List.set_cons_succ]
                          refine ⟨?_, ?_, ?_, ?_, ?_, ?_, ?_, ?_, ?_, ?_, ?_⟩
                          · intro w' hg _
                            refine Or.inl ⟨rfl, ?_⟩
                            go_simp
                            exact ⟨Grown.refl _, by first | rfl | (simp [Want.pred]; done) | (simp [Want.pred]; omega)⟩
                          · intro w' hg _
                            refine Or.inl ⟨rfl, ?_⟩
                            go_simp
                            exact ⟨Grown.refl _, by first | rfl | (simp [Want.pred]; done) | (simp [Want.pred]; omega)⟩
                          · intro w' hg _
                            refine Or.inl ⟨rfl, ?_⟩
                            have hb : (0 : Int) ≤ (K : Int) := by omega
                            have hb2 : (K : Int) < (rs.length : Int) := by omega
                            go_simp
                            exact ⟨Grown.refl _, by first | rfl | (simp [Want.pred]; done) | (simp [Want.pred]; omega)⟩
                          · intro w' hg _
                            refine Or.inl ⟨rfl, ?_⟩
                            have z : w'.cell? ⟨b2, K, none⟩ = some (.slice (some ⟨ρ.b, 0, none⟩) ρ.o.Z ρ.o.Z) := ((G.grown ((Below.refl _ _).drew)).grown hg).r2.cell (by rw [List.getElem?_map, HRO.out]; rfl)
                            go_simp
                            exact ⟨Grown.refl _, by first | rfl | (simp [Want.pred]; done) | (simp [Want.pred]; omega)⟩
                          · intro w' hg _
                            refine Or.inl ⟨rfl, ?_⟩
                            go_simp
                            exact ⟨Grown.refl _, by first | rfl | (simp [Want.pred]; done) | (simp [Want.pred]; omega)⟩
                          · intro w' hg _
                            refine Or.inl ⟨rfl, ?_⟩
                            have z := (wt.drew.grown hg).c2
                            rw [HHJ.out] at z
                            go_simp
                            exact ⟨Grown.refl _, by first | rfl | (simp [Want.pred]; done) | (simp [Want.pred]; omega)⟩
                          · intro w' hg _
                            refine Or.inl ⟨rfl, ?_⟩
                            have hb : (0 : Int) ≤ (j : Int) := by omega
                            have hb2 : (j : Int) < (ρ.o.Z : Int) := by omega
                            go_simp
                            exact ⟨Grown.refl _, by first | rfl | (simp [Want.pred]; done) | (simp [Want.pred]; omega)⟩
                          · intro w' hg _
                            refine Or.inl ⟨rfl, ?_⟩
                            have z := (((G.grown ((Below.refl _ _).drew)).grown hg).wr K ρ HRO.out).cell HJZ.out
                            rw [HFV.out] at z
                            go_simp
                            exact ⟨Grown.refl _, by first | rfl | (simp [Want.pred]; done) | (simp [Want.pred]; omega)⟩
                          · intro w' hg _
                            refine Or.inl ⟨rfl, ?_⟩
                            go_simp
                            exact ⟨Grown.refl _, by first | rfl | (simp [Want.pred]; done) | (simp [Want.pred]; omega)⟩
                          · intro w' hg _
                            refine Or.inl ⟨rfl, ?_⟩
                            go_simp
                            exact ⟨Grown.refl _, by first | rfl | (simp [Want.pred]; done) | (simp [Want.pred]; omega)⟩
                          intro w11 hg _
                          have B := (B.grown ((Below.refl _ _).drew)).grown hg
                          have G := (G.grown ((Below.refl _ _).drew)).grown hg
                          have wt := wt.drew.grown hg
                          have dn := dn.drew.grown hg
                          clear hg
                          have x0 := wt.c0
                          have x3 := wt.c3
                          have x4 := wt.c4
                          have d0 := dn.at0 0 rfl
                          have d2 := dn.at0 2 rfl
                          have hkv := HKV.out
                          rw [hkv] at x0
                          have ho := HO.out
                          rw [← ho] at x4
                          clear hkv
                          go_wp2
                          refine wp_region_rely_tail Grown 9 [.val (.slice (some ⟨b2, 0, none⟩) rs.length c2), .val (.int .i64 K), .val (.pointer (some ⟨b2, K, none⟩)), .val (.slice (some ⟨ρ.b, 0, none⟩) ρ.o.Z ρ.o.Z), .val (.pointer (some ⟨X, 2, none⟩)), .val (.int .i64 j), .val (.pointer (some ⟨X, 3, none⟩)), .val (.int .i64 W.vl), .val (.pointer (some ⟨ρ.b, j, none⟩))] (by kernel_rfl) Grown.refl Grown.trans (by decide) (by kernel_rfl) (by kernel_rfl) (by kernel_rfl) (by kernel_rfl) (by kernel_rfl) (by kernel_rfl) ?_
                          simp only [List.take_succ_cons, List.take_zero, relyAll, Act.put, List.setIfInBounds_toArray, List.set_cons_zero, List.set_cons_succ]
                          refine ⟨?_, ?_, ?_, ?_, ?_, ?_, ?_, ?_, ?_, ?_⟩
                          · intro w' hg _
                            refine Or.inl ⟨rfl, ?_⟩
                            go_simp
                            exact ⟨Grown.refl _, by first | rfl | (simp [Want.pred]; done) | (simp [Want.pred]; omega)⟩
                          · intro w' hg _
                            refine Or.inl ⟨rfl, ?_⟩
                            go_simp
                            exact ⟨Grown.refl _, by first | rfl | (simp [Want.pred]; done) | (simp [Want.pred]; omega)⟩
                          · intro w' hg _
                            refine Or.inl ⟨rfl, ?_⟩
                            have hb : (0 : Int) ≤ (K : Int) := by omega
                            have hb2 : (K : Int) < (rs.length : Int) := by omega
                            go_simp
                            exact ⟨Grown.refl _, by first | rfl | (simp [Want.pred]; done) | (simp [Want.pred]; omega)⟩
                          · intro w' hg _
                            refine Or.inl ⟨rfl, ?_⟩
                            have z : w'.cell? ⟨b2, K, none⟩ = some (.slice (some ⟨ρ.b, 0, none⟩) ρ.o.Z ρ.o.Z) := ((G.grown ((Below.refl _ _).drew)).grown hg).r2.cell (by rw [List.getElem?_map, HRO.out]; rfl)
                            go_simp
                            exact ⟨Grown.refl _, by first | rfl | (simp [Want.pred]; done) | (simp [Want.pred]; omega)⟩
                          · intro w' hg _
                            refine Or.inl ⟨rfl, ?_⟩
                            go_simp
                            exact ⟨Grown.refl _, by first | rfl | (simp [Want.pred]; done) | (simp [Want.pred]; omega)⟩
                          · intro w' hg _
                            refine Or.inl ⟨rfl, ?_⟩
                            have z := (wt.drew.grown hg).c2
                            rw [HHJ.out] at z
                            go_simp
                            exact ⟨Grown.refl _, by first | rfl | (simp [Want.pred]; done) | (simp [Want.pred]; omega)⟩
                          · intro w' hg _
                            refine Or.inl ⟨rfl, ?_⟩
                            go_simp
                            exact ⟨Grown.refl _, by first | rfl | (simp [Want.pred]; done) | (simp [Want.pred]; omega)⟩
                          · intro w' hg _
                            refine Or.inl ⟨rfl, ?_⟩
                            have z := (wt.drew.grown hg).c3
                            go_simp
                            exact ⟨Grown.refl _, by first | rfl | (simp [Want.pred]; done) | (simp [Want.pred]; omega)⟩
                          · intro w' hg _
                            refine Or.inl ⟨rfl, ?_⟩
                            have hb : (0 : Int) ≤ (j : Int) := by omega
                            have hb2 : (j : Int) < (ρ.o.Z : Int) := by omega
                            go_simp
                            exact ⟨Grown.refl _, by first | rfl | (simp [Want.pred]; done) | (simp [Want.pred]; omega)⟩
                          intro w12 hg _
                          have B := (B.grown ((Below.refl _ _).drew)).grown hg
                          have G := (G.grown ((Below.refl _ _).drew)).grown hg
                          have wt := wt.drew.grown hg
                          have dn := dn.drew.grown hg
                          clear hg
                          have kc := (G.wr K ρ HRO.out).cell HJZ.out
                          have kf := (G.wr K ρ HRO.out).frozen j
                          have lo := G.fr K ρ HRO.out
                          have hXr : X ≠ ρ.b := fun e => HXG.out _ (Or.inr (Or.inr ⟨K, ρ, HRO.out, rfl⟩)) e.symm
                          have hDr : D ≠ ρ.b := fun e => HDG.out _ (Or.inr (Or.inr ⟨K, ρ, HRO.out, rfl⟩)) e.symm
                          have B1 := B.setIn lo.p lo.e lo.l j (.int .i64 W.vl)
                          have G1 := G.set HRO.out j W.vl
                          have wt1 := wt.other hXr j (.int .i64 W.vl)
                          have dn1 := dn.other hDr j (.int .i64 W.vl)
                          clear B G wt dn lo hXr hDr x0 x3 x4 d0 d2
                          go_wp2
                          refine wp_over (fun w' => Spt w w' L E 1 8 8 40 s5 (σ + 4) q5 ∧ Grid w w' L E rs (fun K' j' => if K' = K ∧ j' = j then W.vl else F K' j') b1 c1 b2 c2 ∧ WtAt w' X W ∧ At w' D 0 37 _ [.int .i64 0, .int .u64 0, .int .i64 fv, .int .i64 τ]) ⟨B1, G1, wt1, dn1⟩ ?_
                          clear B1 G1 wt1 dn1 kc kf
                          rintro W12 ⟨B, G, wt, dn⟩
                          have hst : s5.steps = ((σ + 4 : Nat) : Int) := B.tw.pile.st
                          have ht := HT1.out
                          obtain ⟨σ5, hσ5⟩ : ∃ σ5, σ + 4 = σ5 := ⟨_, rfl⟩
                          rw [hσ5] at B hst ht
                          have HS5 : Hid (σ + 4 = σ5) := hσ5
                          have HST : Hid (s5.steps = (σ5 : Int)) := hst
                          have ht1 : ¬ (τ : Int) < 1 := by omega
                          have ht2 : ¬ (σ5 : Int) < (τ : Int) := by omega
                          clear hst hσ5 HT1 ht
                          refine wp_region_rely Grown [.val (.pointer (some ⟨D, 0, none⟩)), .val (.int .i64 0), .val (.int .i64 0), .val (.bool false), .val (.bool false), .val (.pointer (some ⟨D, 2, none⟩)), .val (.int .i64 fv), .val (.int .i64 fv), .val (.bool false), .val (.bool false), .val (.bool false), .val (.pointer (some ⟨D, 3, none⟩)), .val (.int .i64 τ), .val (.bool false), .val (.bool false), .val (.bool false), .val (.pointer (some ⟨D, 3, none⟩)), .val (.int .i64 τ), .val (.agg #[.int .i64 1, .int .i64 8, .int .i64 8, .int .i64 40, .int .i64 100, .int .i64 600, .int .i64 3, .pointer (some ⟨L.p, 0, none⟩), .int .i64 0]), .val (.int .i64 σ5), .val (.bool false), .val (.bool false)] (by kernel_rfl) Grown.refl Grown.trans (by kernel_rfl) (by kernel_rfl) (by kernel_rfl) ?_
                          simp only [relyAll, Act.put, List.setIfInBounds_toArray, List.set_cons_zero, List.set_cons_succ]
                          refine ⟨?_, ?_, ?_, ?_, ?_, ?_, ?_, ?_, ?_, ?_, ?_, ?_, ?_, ?_, ?_, ?_, ?_, ?_, ?_, ?_, ?_, ?_, ?_⟩
                          · intro w' hg _
                            refine Or.inl ⟨rfl, ?_⟩
                            go_simp
                            exact ⟨Grown.refl _, by first | rfl | (simp [Want.pred]; done) | (simp [Want.pred]; omega)⟩
                          · intro w' hg _
                            refine Or.inl ⟨rfl, ?_⟩
                            have z := (dn.drew.grown hg).at0 0 rfl
                            go_simp
                            exact ⟨Grown.refl _, by first | rfl | (simp [Want.pred]; done) | (simp [Want.pred]; omega)⟩
                          · intro w' hg _
                            refine Or.inl ⟨rfl, ?_⟩
                            go_simp
                            exact ⟨Grown.refl _, by first | rfl | (simp [Want.pred]; done) | (simp [Want.pred]; omega)⟩
                          · intro w' hg _
                            refine Or.inl ⟨rfl, ?_⟩
                            go_simp
                            exact ⟨Grown.refl _, by first | rfl | (simp [Want.pred]; done) | (simp [Want.pred]; omega)⟩
                          · intro w' hg _
                            refine Or.inl ⟨rfl, ?_⟩
                            go_simp
                            exact ⟨Grown.refl _, by first | rfl | (simp [Want.pred]; done) | (simp [Want.pred]; omega)⟩
                          · intro w' hg _
                            refine Or.inl ⟨rfl, ?_⟩
                            go_simp
                            exact ⟨Grown.refl _, by first | rfl | (simp [Want.pred]; done) | (simp [Want.pred]; omega)⟩
                          · intro w' hg _
                            refine Or.inl ⟨rfl, ?_⟩
                            have z := (dn.drew.grown hg).at0 2 rfl
                            go_simp
                            exact ⟨Grown.refl _, by first | rfl | (simp [Want.pred]; done) | (simp [Want.pred]; omega)⟩
                          · intro w' hg _
                            refine Or.inl ⟨rfl, ?_⟩
                            go_simp
                            exact ⟨Grown.refl _, by first | rfl | (simp [Want.pred]; done) | (simp [Want.pred]; omega)⟩
                          · intro w' hg _
                            refine Or.inl ⟨rfl, ?_⟩
                            go_simp
                            exact ⟨Grown.refl _, by first | rfl | (simp [Want.pred]; done) | (simp [Want.pred]; omega)⟩
                          · intro w' hg _
                            refine Or.inl ⟨rfl, ?_⟩
                            go_simp
                            exact ⟨Grown.refl _, by first | rfl | (simp [Want.pred]; done) | (simp [Want.pred]; omega)⟩
                          · intro w' hg _
                            refine Or.inl ⟨rfl, ?_⟩
                            go_simp
                            exact ⟨Grown.refl _, by first | rfl | (simp [Want.pred]; done) | (simp [Want.pred]; omega)⟩
                          · intro w' hg _
                            refine Or.inl ⟨rfl, ?_⟩
                            go_simp
                            exact ⟨Grown.refl _, by first | rfl | (simp [Want.pred]; done) | (simp [Want.pred]; omega)⟩
                          · intro w' hg _
                            refine Or.inl ⟨rfl, ?_⟩
                            have z := (dn.drew.grown hg).at0 3 rfl
                            go_simp
                            exact ⟨Grown.refl _, by first | rfl | (simp [Want.pred]; done) | (simp [Want.pred]; omega)⟩
                          · intro w' hg _
                            refine Or.inl ⟨rfl, ?_⟩
                            go_simp
                            exact ⟨Grown.refl _, by first | rfl | (simp [Want.pred]; done) | (simp [Want.pred]; omega)⟩
                          · intro w' hg _
                            refine Or.inl ⟨rfl, ?_⟩
                            go_simp
                            exact ⟨Grown.refl _, by first | rfl | (simp [Want.pred]; done) | (simp [Want.pred]; omega)⟩
                          · intro w' hg _
                            refine Or.inl ⟨rfl, ?_⟩
                            go_simp
                            exact ⟨Grown.refl _, by first | rfl | (simp [Want.pred]; done) | (simp [Want.pred]; omega)⟩
                          · intro w' hg _
                            refine Or.inl ⟨rfl, ?_⟩
                            go_simp
                            exact ⟨Grown.refl _, by first | rfl | (simp [Want.pred]; done) | (simp [Want.pred]; omega)⟩
                          · intro w' hg _
                            refine Or.inl ⟨rfl, ?_⟩
                            have z := (dn.drew.grown hg).at0 3 rfl
                            go_simp
                            exact ⟨Grown.refl _, by first | rfl | (simp [Want.pred]; done) | (simp [Want.pred]; omega)⟩
                          · intro w' hg _
                            refine Or.inl ⟨rfl, ?_⟩
                            have vv := (B.v.grown ((Below.refl _ _).drew)).grown hg
                            have y0 := vv.c0
                            have y1 := vv.c1
                            have y2 := vv.c2
                            have y3 := vv.c3
                            have y4 := vv.c4
                            have y5 := vv.c5
                            have y6 := vv.c6
                            have y7 := vv.c7
                            have y8 := vv.c8
                            go_simp
                            exact ⟨Grown.refl _, rfl⟩
                          · intro w' hg _
                            refine Or.inl ⟨rfl, ?_⟩
                            go_simp
                            refine (now_any (B.mm.drew.below hg) _ _ _ _ _ _ _ _ σ5 HST.out).mono ?_
                            rintro e w'' ⟨rfl, b9⟩
                            exact ⟨_, rfl, b9, rfl⟩
                          · intro w' hg _
                            refine Or.inl ⟨rfl, ?_⟩
                            go_simp
                            exact ⟨Grown.refl _, by first | rfl | (simp [Want.pred]; done) | (simp [Want.pred]; omega)⟩
                          · intro w' hg _
                            refine Or.inl ⟨rfl, ?_⟩
                            go_simp
                            exact ⟨Grown.refl _, by first | rfl | (simp [Want.pred]; done) | (simp [Want.pred]; omega)⟩
                          intro w13 hg _
                          have B := (B.grown ((Below.refl _ _).drew)).grown hg
                          have G := (G.grown ((Below.refl _ _).drew)).grown hg
                          have wt := wt.drew.grown hg
                          have dn := dn.drew.grown hg
                          clear hg
                          have HB9 : Hid (Spt w w13 L E 1 8 8 40 s5 σ5 q5) := B
                          have HG9 : Hid (Grid w w13 L E rs (fun K' j' => if K' = K ∧ j' = j then W.vl else F K' j') b1 c1 b2 c2) := G
                          clear B G wt dn
                          go_wp2
                          go_roundw
                          case rel =>
                            have := HS5.out
                            exact ⟨i + 1, s5, σ5, q5, _, by go_num, by omega, by omega, HB9.out, HG9.out, HCR5.out⟩
                          case measure => simp [intOf]; omega
                      · skip
                        as_aux_lemma =>
                          obtain ⟨τ, hτ⟩ : ∃ τ, σ + 3 = τ := ⟨_, rfl⟩
                          have ru := HCR.out.reads HRO.out (W := W) (σ := σ) hjZ hj (E := 8) (Or.inr ⟨hk3, by rw [hfv]; exact ho, rfl⟩)
                          have HCR5 : Hid (Crop q rs F) := HCR.out
                          rw [hτ, hfv] at ru
                          have CL := HB.out.do FA.out (HCR.out.sc K ρ HRO.out).wd HWN.out hxn HWO.out (by omega) (N := 4) (by decide) (ru)
                          have HT1 : Hid (1 ≤ (τ : Int) ∧ (τ : Int) ≤ ((σ + 4 : Nat) : Int)) := ⟨by omega, by omega⟩
                          have HKV : Hid (W.kd = 3) := hk3
                          have HO : Hid (¬ fv = W.ol) := ho
                          have HFV : Hid (F K j = fv) := hfv
                          have HHJ : Hid (W.ix = (j : Int)) := hj
                          have HJZ : Hid (j < ρ.o.Z) := hjZ
                          clear ru hτ hfv hj hk1 hk2 hk3 ho HCR
                          have x0 := HT.out.c0
                          have x1 := HT.out.c1
                          have x2 := HT.out.c2
                          have x3 := HT.out.c3
                          have x4 := HT.out.c4
                          go_wp2_with (go_at_call 13; refine CL.mono ?_; rintro e w5 ⟨rfl, s5, B5, o5, -⟩)
                          have HB5 := B5.grown (grow1 w5 (.cells #[.int .i64 8, .int .u64 0, .int .i64 fv, .int .i64 τ] 37))
                          have HG5 := (HG.out.mem o5).grown (grow1 w5 (.cells #[.int .i64 8, .int .u64 0, .int .i64 fv, .int .i64 τ] 37))
                          have HT5 := (HT.out.only o5 HXL.out).grown (grow1 w5 (.cells #[.int .i64 8, .int .u64 0, .int .i64 fv, .int .i64 τ] 37))
                          have HD5 := At.new w5 37 [.int .i64 8, .int .u64 0, .int .i64 fv, .int .i64 τ]
                          obtain ⟨D, hD⟩ : ∃ D, w5.heap.size = D := ⟨_, rfl⟩
                          have HDG : Hid (∀ b, Gh rs b1 b2 b → b ≠ D) := fun b hb => by have := (HG.out.mem o5).lt hb; omega
                          rw [hD] at HD5 ⊢
                          refine wp_over (fun w' => Spt w w' L E 1 8 8 40 s5 (σ + 4) q ∧ Grid w w' L E rs F b1 c1 b2 c2 ∧ WtAt w' X W ∧ At w' D 0 37 #[.int .i64 8, .int .u64 0, .int .i64 fv, .int .i64 τ] [.int .i64 8, .int .u64 0, .int .i64 fv, .int .i64 τ]) ⟨HB5, HG5, HT5, HD5⟩ ?_
                          clear HB5 HG5 HT5 HD5 B5 o5 hD x0 x1 x2 x3 x4 HB HG HT z0 z1 z2 z3 z4 z5 z6 z7 z8
                          rintro W9 ⟨B, G, wt, dn⟩
                          have hjn : ¬ (j : Int) < 0 := by omega
                          have hjg : ¬ (ρ.o.Z : Int) ≤ (j : Int) := by omega
                          refine wp_region_rely Grown [.val (.pointer (some ⟨X, 2, none⟩)), .val (.int .i64 j), .val (.bool false), .val (.bool false), .val (.pointer (some ⟨X, 2, none⟩)), .val (.int .i64 j), .val (.slice (some ⟨b2, 0, none⟩) rs.length c2), .val (.int .i64 K), .val (.pointer (some ⟨b2, K, none⟩)), .val (.slice (some ⟨ρ.b, 0, none⟩) ρ.o.Z ρ.o.Z), .val (.int .i64 ρ.o.Z), .val (.bool false), .val (.bool false)] (by kernel_rfl) Grown.refl Grown.trans (by kernel_rfl) (by kernel_rfl) (by kernel_rfl) ?_
                          simp only [relyAll, Act.put, List.setIfInBounds_toArray, List.set_cons_zero, List.set_cons_succ]
                          refine ⟨?_, ?_, ?_, ?_, ?_, ?_, ?_, ?_, ?_, ?_, ?_, ?_, ?_, ?_⟩
                          · intro w' hg _
                            refine Or.inl ⟨rfl, ?_⟩
                            go_simp
                            exact ⟨Grown.refl _, by first | rfl | (simp [Want.pred]; done) | (simp [Want.pred]; omega)⟩
                          · intro w' hg _
                            refine Or.inl ⟨rfl, ?_⟩
                            have z := (wt.drew.grown hg).c2
                            rw [HHJ.out] at z
                            go_simp
                            exact ⟨Grown.refl _, by first | rfl | (simp [Want.pred]; done) | (simp [Want.pred]; omega)⟩
                          · intro w' hg _
                            refine Or.inl ⟨rfl, ?_⟩
                            go_simp
                            exact ⟨Grown.refl _, by first | rfl | (simp [Want.pred]; done) | (simp [Want.pred]; omega)⟩
                          · intro w' hg _
                            refine Or.inl ⟨rfl, ?_⟩
                            go_simp
                            exact ⟨Grown.refl _, by first | rfl | (simp [Want.pred]; done) | (simp [Want.pred]; omega)⟩
                          · intro w' hg _
                            refine Or.inl ⟨rfl, ?_⟩
                            go_simp
                            exact ⟨Grown.refl _, by first | rfl | (simp [Want.pred]; done) | (simp [Want.pred]; omega)⟩
                          · intro w' hg _
                            refine Or.inl ⟨rfl, ?_⟩
                            have z := (wt.drew.grown hg).c2
                            rw [HHJ.out] at z
                            go_simp
                            exact ⟨Grown.refl _, by first | rfl | (simp [Want.pred]; done) | (simp [Want.pred]; omega)⟩
                          · intro w' hg _
                            refine Or.inl ⟨rfl, ?_⟩
                            go_simp
                            exact ⟨Grown.refl _, by first | rfl | (simp [Want.pred]; done) | (simp [Want.pred]; omega)⟩
                          · intro w' hg _
                            refine Or.inl ⟨rfl, ?_⟩
                            go_simp
                            exact ⟨Grown.refl _, by first | rfl | (simp [Want.pred]; done) | (simp [Want.pred]; omega)⟩
                          · intro w' hg _
                            refine Or.inl ⟨rfl, ?_⟩
                            have hb : (0 : Int) ≤ (K : Int) := by omega
                            have hb2 : (K : Int) < (rs.length : Int) := by omega
                            go_simp
                            exact ⟨Grown.refl _, by first | rfl | (simp [Want.pred]; done) | (simp [Want.pred]; omega)⟩
                          · intro w' hg _
                            refine Or.inl ⟨rfl, ?_⟩
                            have z : w'.cell? ⟨b2, K, none⟩ = some (.slice (some ⟨ρ.b, 0, none⟩) ρ.o.Z ρ.o.Z) := ((G.grown ((Below.refl _ _).drew)).grown hg).r2.cell (by rw [List.getElem?_map, HRO.out]; rfl)
                            go_simp
                            exact ⟨Grown.refl _, by first | rfl | (simp [Want.pred]; done) | (simp [Want.pred]; omega)⟩
                          · intro w' hg _
                            refine Or.inl ⟨rfl, ?_⟩
                            go_simp
                            exact ⟨Grown.refl _, by first | rfl | (simp [Want.pred]; done) | (simp [Want.pred]; omega)⟩
                          · intro w' hg _
                            refine Or.inl ⟨rfl, ?_⟩
                            go_simp
                            exact ⟨Grown.refl _, by first | rfl | (simp [Want.pred]; done) | (simp [Want.pred]; omega)⟩
                          · intro w' hg _
                            refine Or.inl ⟨rfl, ?_⟩
                            go_simp
                            exact ⟨Grown.refl _, by first | rfl | (simp [Want.pred]; done) | (simp [Want.pred]; omega)⟩
                          intro w10 hg _
                          have B := (B.grown ((Below.refl _ _).drew)).grown hg
                          have G := (G.grown ((Below.refl _ _).drew)).grown hg
                          have wt := wt.drew.grown hg
                          have dn := dn.drew.grown hg
                          clear hg
                          go_wp2
                          refine wp_region_rely Grown [.val (.slice (some ⟨b2, 0, none⟩) rs.length c2), .val (.int .i64 K), .val (.pointer (some ⟨b2, K, none⟩)), .val (.slice (some ⟨ρ.b, 0, none⟩) ρ.o.Z ρ.o.Z), .val (.pointer (some ⟨X, 2, none⟩)), .val (.int .i64 j), .val (.pointer (some ⟨ρ.b, j, none⟩)), .val (.int .i64 fv), .val (.int .i64 fv), .val (.int .i64 0)] (by kernel_rfl) Grown.refl Grown.trans (by kernel_rfl) (by kernel_rfl) (by kernel_rfl) ?_
                          simp only [relyAll, Act.put, List.setIfInBounds_toArray, List.set_cons_zero, List.set_cons_succ]
                          refine ⟨?_, ?_, ?_, ?_, ?_, ?_, ?_, ?_, ?_, ?_, ?_⟩
                          · intro w' hg _
                            refine Or.inl ⟨rfl, ?_⟩
                            go_simp
                            exact ⟨Grown.refl _, by first | rfl | (simp [Want.pred]; done) | (simp [Want.pred]; omega)⟩
                          · intro w' hg _
                            refine Or.inl ⟨rfl, ?_⟩
                            go_simp
                            exact ⟨Grown.refl _, by first | rfl | (simp [Want.pred]; done) | (simp [Want.pred]; omega)⟩
                          · intro w' hg _
                            refine Or.inl ⟨rfl, ?_⟩
                            have hb : (0 : Int) ≤ (K : Int) := by omega
                            have hb2 : (K : Int) < (rs.length : Int) := by omega
                            go_simp
                            exact ⟨Grown.refl _, by first | rfl | (simp [Want.pred]; done) | (simp [Want.pred]; omega)⟩
                          · intro w' hg _
                            refine Or.inl ⟨rfl, ?_⟩
                            have z : w'.cell? ⟨b2, K, none⟩ = some (.slice (some ⟨ρ.b, 0, none⟩) ρ.o.Z ρ.o.Z) := ((G.grown ((Below.refl _ _).drew)).grown hg).r2.cell (by rw [List.getElem?_map, HRO.out]; rfl)
                            go_simp
                            exact ⟨Grown.refl _, by first | rfl | (simp [Want.pred]; done) | (simp [Want.pred]; omega)⟩
                          · intro w' hg _
                            refine Or.inl ⟨rfl, ?_⟩
                            go_simp
                            exact ⟨Grown.refl _, by first | rfl | (simp [Want.pred]; done) | (simp [Want.pred]; omega)⟩
                          · intro w' hg _
                            refine Or.inl ⟨rfl, ?_⟩
                            have z := (wt.drew.grown hg).c2
                            rw [HHJ.out] at z
                            go_simp
                            exact ⟨Grown.refl _, by first | rfl | (simp [Want.pred]; done) | (simp [Want.pred]; omega)⟩
                          · intro w' hg _
                            refine Or.inl ⟨rfl, ?_⟩
                            have hb : (0 : Int) ≤ (j : Int) := by omega
                            have hb2 : (j : Int) < (ρ.o.Z : Int) := by omega
                            go_simp
                            exact ⟨Grown.refl _, by first | rfl | (simp [Want.pred]; done) | (simp [Want.pred]; omega)⟩
                          · intro w' hg _
                            refine Or.inl ⟨rfl, ?_⟩
                            have z := (((G.grown ((Below.refl _ _).drew)).grown hg).wr K ρ HRO.out).cell HJZ.out
                            rw [HFV.out] at z
                            go_simp
                            exact ⟨Grown.refl _, by first | rfl | (simp [Want.pred]; done) | (simp [Want.pred]; omega)⟩
                          · intro w' hg _
                            refine Or.inl ⟨rfl, ?_⟩
                            go_simp
                            exact ⟨Grown.refl _, by first | rfl | (simp [Want.pred]; done) | (simp [Want.pred]; omega)⟩
                          · intro w' hg _
                            refine Or.inl ⟨rfl, ?_⟩
                            go_simp
                            exact ⟨Grown.refl _, by first | rfl | (simp [Want.pred]; done) | (simp [Want.pred]; omega)⟩
                          intro w11 hg _
                          have B := (B.grown ((Below.refl _ _).drew)).grown hg
                          have G := (G.grown ((Below.refl _ _).drew)).grown hg
                          have wt := wt.drew.grown hg
                          have dn := dn.drew.grown hg
                          clear hg
                          have x0 := wt.c0
                          have x3 := wt.c3
                          have x4 := wt.c4
                          have d0 := dn.at0 0 rfl
                          have d2 := dn.at0 2 rfl
                          have hkv := HKV.out
                          rw [hkv] at x0
                          obtain ⟨ol, hol⟩ : ∃ ol, W.ol = ol := ⟨_, rfl⟩
                          have ho0 := HO.out
                          rw [hol] at x4 ho0
                          clear hol
                          have ho : (fv != ol) = true := by simpa using ho0
                          clear ho0
                          clear hkv
                          go_wp2
                          have hst : s5.steps = ((σ + 4 : Nat) : Int) := B.tw.pile.st
                          have ht := HT1.out
                          obtain ⟨σ5, hσ5⟩ : ∃ σ5, σ + 4 = σ5 := ⟨_, rfl⟩
                          rw [hσ5] at B hst ht
                          have HS5 : Hid (σ + 4 = σ5) := hσ5
                          have HST : Hid (s5.steps = (σ5 : Int)) := hst
                          have ht1 : ¬ (τ : Int) < 1 := by omega
                          have ht2 : ¬ (σ5 : Int) < (τ : Int) := by omega
                          clear hst hσ5 HT1 ht
                          refine wp_region_rely Grown [.val (.pointer (some ⟨D, 0, none⟩)), .val (.int .i64 8), .val (.int .i64 8), .val (.bool false), .val (.bool false), .val (.pointer (some ⟨D, 2, none⟩)), .val (.int .i64 fv), .val (.int .i64 fv), .val (.bool false), .val (.bool false), .val (.bool false), .val (.pointer (some ⟨D, 3, none⟩)), .val (.int .i64 τ), .val (.bool false), .val (.bool false), .val (.bool false), .val (.pointer (some ⟨D, 3, none⟩)), .val (.int .i64 τ), .val (.agg #[.int .i64 1, .int .i64 8, .int .i64 8, .int .i64 40, .int .i64 100, .int .i64 600, .int .i64 3, .pointer (some ⟨L.p, 0, none⟩), .int .i64 0]), .val (.int .i64 σ5), .val (.bool false), .val (.bool false)] (by kernel_rfl) Grown.refl Grown.trans (by kernel_rfl) (by kernel_rfl) (by kernel_rfl) ?_
                          simp only [relyAll, Act.put, List.setIfInBounds_toArray, List.set_cons_zero, List.set_cons_succ]
                          refine ⟨?_, ?_, ?_, ?_, ?_, ?_, ?_, ?_, ?_, ?_, ?_, ?_, ?_, ?_, ?_, ?_, ?_, ?_, ?_, ?_, ?_, ?_, ?_⟩
                          · intro w' hg _
                            refine Or.inl ⟨rfl, ?_⟩
                            go_simp
                            exact ⟨Grown.refl _, by first | rfl | (simp [Want.pred]; done) | (simp [Want.pred]; omega)⟩
                          · intro w' hg _
                            refine Or.inl ⟨rfl, ?_⟩
                            have z := (dn.drew.grown hg).at0 0 rfl
                            go_simp
                            exact ⟨Grown.refl _, by first | rfl | (simp [Want.pred]; done) | (simp [Want.pred]; omega)⟩
                          · intro w' hg _
                            refine Or.inl ⟨rfl, ?_⟩
                            go_simp
                            exact ⟨Grown.refl _, by first | rfl | (simp [Want.pred]; done) | (simp [Want.pred]; omega)⟩
                          · intro w' hg _
                            refine Or.inl ⟨rfl, ?_⟩
                            go_simp
                            exact ⟨Grown.refl _, by first | rfl | (simp [Want.pred]; done) | (simp [Want.pred]; omega)⟩
                          · intro w' hg _
                            refine Or.inl ⟨rfl, ?_⟩
                            go_simp
                            exact ⟨Grown.refl _, by first | rfl | (simp [Want.pred]; done) | (simp [Want.pred]; omega)⟩
                          · intro w' hg _
                            refine Or.inl ⟨rfl, ?_⟩
                            go_simp
                            exact ⟨Grown.refl _, by first | rfl | (simp [Want.pred]; done) | (simp [Want.pred]; omega)⟩
                          · intro w' hg _
                            refine Or.inl ⟨rfl, ?_⟩
                            have z := (dn.drew.grown hg).at0 2 rfl
                            go_simp
                            exact ⟨Grown.refl _, by first | rfl | (simp [Want.pred]; done) | (simp [Want.pred]; omega)⟩
                          · intro w' hg _
                            refine Or.inl ⟨rfl, ?_⟩
                            go_simp
                            exact ⟨Grown.refl _, by first | rfl | (simp [Want.pred]; done) | (simp [Want.pred]; omega)⟩
                          · intro w' hg _
                            refine Or.inl ⟨rfl, ?_⟩
                            go_simp
                            exact ⟨Grown.refl _, by first | rfl | (simp [Want.pred]; done) | (simp [Want.pred]; omega)⟩
                          · intro w' hg _
                            refine Or.inl ⟨rfl, ?_⟩
                            go_simp
                            exact ⟨Grown.refl _, by first | rfl | (simp [Want.pred]; done) | (simp [Want.pred]; omega)⟩
                          · intro w' hg _
                            refine Or.inl ⟨rfl, ?_⟩
                            go_simp
                            exact ⟨Grown.refl _, by first | rfl | (simp [Want.pred]; done) | (simp [Want.pred]; omega)⟩
                          · intro w' hg _
                            refine Or.inl ⟨rfl, ?_⟩
                            go_simp
                            exact ⟨Grown.refl _, by first | rfl | (simp [Want.pred]; done) | (simp [Want.pred]; omega)⟩
                          · intro w' hg _
                            refine Or.inl ⟨rfl, ?_⟩
                            have z := (dn.drew.grown hg).at0 3 rfl
                            go_simp
                            exact ⟨Grown.refl _, by first | rfl | (simp [Want.pred]; done) | (simp [Want.pred]; omega)⟩
                          · intro w' hg _
                            refine Or.inl ⟨rfl, ?_⟩
                            go_simp
                            exact ⟨Grown.refl _, by first | rfl | (simp [Want.pred]; done) | (simp [Want.pred]; omega)⟩
                          · intro w' hg _
                            refine Or.inl ⟨rfl, ?_⟩
                            go_simp
                            exact ⟨Grown.refl _, by first | rfl | (simp [Want.pred]; done) | (simp [Want.pred]; omega)⟩
                          · intro w' hg _
                            refine Or.inl ⟨rfl, ?_⟩
                            go_simp
                            exact ⟨Grown.refl _, by first | rfl | (simp [Want.pred]; done) | (simp [Want.pred]; omega)⟩
                          · intro w' hg _
                            refine Or.inl ⟨rfl, ?_⟩
                            go_simp
                            exact ⟨Grown.refl _, by first | rfl | (simp [Want.pred]; done) | (simp [Want.pred]; omega)⟩
                          · intro w' hg _
                            refine Or.inl ⟨rfl, ?_⟩
                            have z := (dn.drew.grown hg).at0 3 rfl
                            go_simp
                            exact ⟨Grown.refl _, by first | rfl | (simp [Want.pred]; done) | (simp [Want.pred]; omega)⟩
                          · intro w' hg _
                            refine Or.inl ⟨rfl, ?_⟩
                            have vv := (B.v.grown ((Below.refl _ _).drew)).grown hg
                            have y0 := vv.c0
                            have y1 := vv.c1
                            have y2 := vv.c2
                            have y3 := vv.c3
                            have y4 := vv.c4
                            have y5 := vv.c5
                            have y6 := vv.c6
                            have y7 := vv.c7
                            have y8 := vv.c8
                            go_simp
                            exact ⟨Grown.refl _, rfl⟩
                          · intro w' hg _
                            refine Or.inl ⟨rfl, ?_⟩
                            go_simp
                            refine (now_any (B.mm.drew.below hg) _ _ _ _ _ _ _ _ σ5 HST.out).mono ?_
                            rintro e w'' ⟨rfl, b9⟩
                            exact ⟨_, rfl, b9, rfl⟩
                          · intro w' hg _
                            refine Or.inl ⟨rfl, ?_⟩
                            go_simp
                            exact ⟨Grown.refl _, by first | rfl | (simp [Want.pred]; done) | (simp [Want.pred]; omega)⟩
                          · intro w' hg _
                            refine Or.inl ⟨rfl, ?_⟩
                            go_simp
                            exact ⟨Grown.refl _, by first | rfl | (simp [Want.pred]; done) | (simp [Want.pred]; omega)⟩
                          intro w13 hg _
                          have B := (B.grown ((Below.refl _ _).drew)).grown hg
                          have G := (G.grown ((Below.refl _ _).drew)).grown hg
                          have wt := wt.drew.grown hg
                          have dn := dn.drew.grown hg
                          clear hg
                          have HB9 : Hid (Spt w w13 L E 1 8 8 40 s5 σ5 q) := B
                          have HG9 : Hid (Grid w w13 L E rs F b1 c1 b2 c2) := G
                          clear B G wt dn
                          go_wp2
                          go_roundw
                          case rel =>
                            have := HS5.out
                            exact ⟨i + 1, s5, σ5, q, _, by go_num, by omega, by omega, HB9.out, HG9.out, HCR5.out⟩
                          case measure => simp [intOf]; omega
                · have hz' : W.ix ≥ (ρ.o.Z : Int) := by omega
                  as_aux_lemma =>
                    obtain ⟨τ, hτ⟩ : ∃ τ, σ + 1 = τ := ⟨_, rfl⟩
                    have ru := HCR.out.out HRO.out (W := W) (σ := σ) (by omega)
                    rw [hτ] at ru
                    have CL := HB.out.do FA.out (HCR.out.sc K ρ HRO.out).wd HWN.out hxn HWO.out (by omega) (N := 2) (by decide) (ru)
                    clear ru hτ
                    have x0 := HT.out.c0
                    have x1 := HT.out.c1
                    have x2 := HT.out.c2
                    have x3 := HT.out.c3
                    have x4 := HT.out.c4
                    go_wp2_with (go_at_call 13; refine CL.mono ?_; rintro e w5 ⟨rfl, s5, B5, o5, -⟩)
                    have HB5 := B5.grown (grow1 w5 (.cells #[.int .i64 4, .int .u64 0, .int .i64 0, .int .i64 τ] 37))
                    have HG5 := (HG.out.mem o5).grown (grow1 w5 (.cells #[.int .i64 4, .int .u64 0, .int .i64 0, .int .i64 τ] 37))
                    have HT5 := (HT.out.only o5 HXL.out).grown (grow1 w5 (.cells #[.int .i64 4, .int .u64 0, .int .i64 0, .int .i64 τ] 37))
                    have HD5 := At.new w5 37 [.int .i64 4, .int .u64 0, .int .i64 0, .int .i64 τ]
                    obtain ⟨D, hD⟩ : ∃ D, w5.heap.size = D := ⟨_, rfl⟩
                    have HDG : Hid (∀ b, Gh rs b1 b2 b → b ≠ D) := fun b hb => by have := (HG.out.mem o5).lt hb; omega
                    rw [hD] at HD5 ⊢
                    refine wp_over (fun w' => Spt w w' L E 1 8 8 40 s5 (σ + 2) q ∧ Grid w w' L E rs F b1 c1 b2 c2 ∧ WtAt w' X W ∧ At w' D 0 37 #[.int .i64 4, .int .u64 0, .int .i64 0, .int .i64 τ] [.int .i64 4, .int .u64 0, .int .i64 0, .int .i64 τ]) ⟨HB5, HG5, HT5, HD5⟩ ?_
                    clear HB5 HG5 HT5 HD5 B5 o5 hD x0 x1 x2 x3 x4 HB HG HT z0 z1 z2 z3 z4 z5 z6 z7 z8
                    rintro W9 ⟨B, G, wt, dn⟩
                    refine wp_region_rely Grown [.val (.pointer (some ⟨X, 2, none⟩)), .val (.int .i64 W.ix), .val (.bool false), .val (.bool false), .val (.pointer (some ⟨X, 2, none⟩)), .val (.int .i64 W.ix), .val (.slice (some ⟨b2, 0, none⟩) rs.length c2), .val (.int .i64 K), .val (.pointer (some ⟨b2, K, none⟩)), .val (.slice (some ⟨ρ.b, 0, none⟩) ρ.o.Z ρ.o.Z), .val (.int .i64 ρ.o.Z), .val (.bool true), .val (.bool true)] (by kernel_rfl) Grown.refl Grown.trans (by kernel_rfl) (by kernel_rfl) (by kernel_rfl) ?_
                    simp only [relyAll, Act.put, List.setIfInBounds_toArray, List.set_cons_zero, List.set_cons_succ]
                    refine ⟨?_, ?_, ?_, ?_, ?_, ?_, ?_, ?_, ?_, ?_, ?_, ?_, ?_, ?_⟩
                    · intro w' hg _
                      refine Or.inl ⟨rfl, ?_⟩
                      go_simp
                      exact ⟨Grown.refl _, by first | rfl | (simp [Want.pred]; done) | (simp [Want.pred]; omega)⟩
                    · intro w' hg _
                      refine Or.inl ⟨rfl, ?_⟩
                      have z := (wt.drew.grown hg).c2
                      go_simp
                      exact ⟨Grown.refl _, by first | rfl | (simp [Want.pred]; done) | (simp [Want.pred]; omega)⟩
                    · intro w' hg _
                      refine Or.inl ⟨rfl, ?_⟩
                      go_simp
                      exact ⟨Grown.refl _, by first | rfl | (simp [Want.pred]; done) | (simp [Want.pred]; omega)⟩
                    · intro w' hg _
                      refine Or.inl ⟨rfl, ?_⟩
                      go_simp
                      exact ⟨Grown.refl _, by first | rfl | (simp [Want.pred]; done) | (simp [Want.pred]; omega)⟩
                    · intro w' hg _
                      refine Or.inl ⟨rfl, ?_⟩
                      go_simp
                      exact ⟨Grown.refl _, by first | rfl | (simp [Want.pred]; done) | (simp [Want.pred]; omega)⟩
                    · intro w' hg _
                      refine Or.inl ⟨rfl, ?_⟩
                      have z := (wt.drew.grown hg).c2
                      go_simp
                      exact ⟨Grown.refl _, by first | rfl | (simp [Want.pred]; done) | (simp [Want.pred]; omega)⟩
                    · intro w' hg _
                      refine Or.inl ⟨rfl, ?_⟩
                      go_simp
                      exact ⟨Grown.refl _, by first | rfl | (simp [Want.pred]; done) | (simp [Want.pred]; omega)⟩
                    · intro w' hg _
                      refine Or.inl ⟨rfl, ?_⟩
                      go_simp
                      exact ⟨Grown.refl _, by first | rfl | (simp [Want.pred]; done) | (simp [Want.pred]; omega)⟩
                    · intro w' hg _
                      refine Or.inl ⟨rfl, ?_⟩
                      have hb : (0 : Int) ≤ (K : Int) := by omega
                      have hb2 : (K : Int) < (rs.length : Int) := by omega
                      go_simp
                      exact ⟨Grown.refl _, by first | rfl | (simp [Want.pred]; done) | (simp [Want.pred]; omega)⟩
                    · intro w' hg _
                      refine Or.inl ⟨rfl, ?_⟩
                      have z : w'.cell? ⟨b2, K, none⟩ = some (.slice (some ⟨ρ.b, 0, none⟩) ρ.o.Z ρ.o.Z) := ((G.grown ((Below.refl _ _).drew)).grown hg).r2.cell (by rw [List.getElem?_map, HRO.out]; rfl)
                      go_simp
                      exact ⟨Grown.refl _, by first | rfl | (simp [Want.pred]; done) | (simp [Want.pred]; omega)⟩
                    · intro w' hg _
                      refine Or.inl ⟨rfl, ?_⟩
                      go_simp
                      exact ⟨Grown.refl _, by first | rfl | (simp [Want.pred]; done) | (simp [Want.pred]; omega)⟩
                    · intro w' hg _
                      refine Or.inl ⟨rfl, ?_⟩
                      go_simp
                      exact ⟨Grown.refl _, by first | rfl | (simp [Want.pred]; done) | (simp [Want.pred]; omega)⟩
                    · intro w' hg _
                      refine Or.inl ⟨rfl, ?_⟩
                      go_simp
                      exact ⟨Grown.refl _, by first | rfl | (simp [Want.pred]; done) | (simp [Want.pred]; omega)⟩
                    intro w10 hg _
                    have B := (B.grown ((Below.refl _ _).drew)).grown hg
                    have G := (G.grown ((Below.refl _ _).drew)).grown hg
                    have wt := wt.drew.grown hg
                    have dn := dn.drew.grown hg
                    clear hg
                    have x0 := wt.c0
                    have x3 := wt.c3
                    have x4 := wt.c4
                    have d0 := dn.at0 0 rfl
                    have d2 := dn.at0 2 rfl
                    have HB9 : Hid (Spt w w10 L E 1 8 8 40 s5 (σ + 2) q) := B
                    have HG9 : Hid (Grid w w10 L E rs F b1 c1 b2 c2) := G
                    clear B G wt dn
                    go_wp2
                    go_roundw
                    case rel => exact ⟨i + 1, s5, σ + 2, q, F, by go_num, by omega, by omega, HB9.out, HG9.out, HCR.out⟩
                    case measure => simp [intOf]; omega
            · have hl0' : ¬ (0 : Int) < (rs.length : Int) := by omega
              as_aux_lemma =>
                have b9 := B.b
                clear B G Cr
                go_wp2
                go_ret
                exact ⟨rfl, b9⟩
          · have hi' : ¬ (i : Int) < 80 := by omega
            as_aux_lemma =>
              have b9 := B.b
              clear B G Cr
              go_wp2
              go_ret
              exact ⟨rfl, b9⟩
        · have hiM' : ¬ (i : Int) < (M : Int) := by omega
          as_aux_lemma =>
            have b9 := B.b
            clear B G Cr
            go_wp2
            go_ret
            exact ⟨rfl, b9⟩
end Go.Proofs.YtcdmokbamakomaaGreat
