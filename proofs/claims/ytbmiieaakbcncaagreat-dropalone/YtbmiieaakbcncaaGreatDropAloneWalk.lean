/- DropAlone answers true for all things to be done, and leaves what was in memory. -/
import Derived.Test.YtbmiieaakbcncaaGreatDropFate
namespace Go.Proofs.YtbmiieaakbcncaaGreat
open Go.RowKit

theorem goodA : Good 1 8 8 40 100 600 3 := goodp (by omega) (by omega) (by omega) (by omega)

theorem Rw.new (w : World) (T : TypeId) : Rw (w.alloc (.cells #[] T)) T w.heap.size 0 [] := ⟨⟨#[], Go.Deep.blk_alloc_new _ _, by simp, fun i x h => by simp at h⟩, by simp⟩

theorem Farm.shed {w0 w : World} {L : Loc} {E : Nat} {s : Mm} {σ : Nat} {q : Q} {nx : Nat} {gen : Nat → Nat} {ls : List Ox} (f : Farm w0 w L E 1 8 8 40 100 s σ q nx gen ls) :
    Shed w0 ((((w.alloc (.cells #[] 37)).alloc (.cells #[] 4)).alloc (.cells #[] 4)).alloc (.cells #[] 3)) L E s σ q nx gen ls [] w.heap.size 0 (w.heap.size + 1) 0 (w.heap.size + 1 + 1) 0 (w.heap.size + 1 + 1 + 1) 0 := by
  have hb := f.b.size
  have hE : E < w.heap.size := World.block_lt_of_cell? _ _ f.v.c0
  have n1 := Rw.new w 37
  have n2 := Rw.new (w.alloc (.cells #[] 37)) 4
  have n3 := Rw.new ((w.alloc (.cells #[] 37)).alloc (.cells #[] 4)) 4
  have n4 := Rw.new (((w.alloc (.cells #[] 37)).alloc (.cells #[] 4)).alloc (.cells #[] 4)) 3
  simp only [Go.Deep.nblk_alloc] at n2 n3 n4
  have nl : ∀ b, w.heap.size ≤ b → ¬ L.has b := fun b hb h => by have := f.mm.lt _ h; omega
  exact ⟨(((f.alloc _).alloc _).alloc _).alloc _, ((n1.grown (grow1 _ _)).grown (grow1 _ _)).grown (grow1 _ _), (n2.grown (grow1 _ _)).grown (grow1 _ _), n3.grown (grow1 _ _), n4, by omega, ⟨by omega, by omega, by omega, by omega⟩, ⟨nl _ (by omega), nl _ (by omega), nl _ (by omega), nl _ (by omega)⟩, by omega, by omega, by omega, by omega⟩

set_option maxRecDepth 20000 in
set_option maxHeartbeats 8000000 in
theorem dropAlone_any (ao : Option Addr) (N cap : Nat) (A : Acts9) (w : World) (hr : Acts9At w ao N A) (hfit : Acts9Fit N A) :
    Calls Tryz.prog 3 #[.slice ao N cap] w fun e w' => e = .returned (.bool true) ∧ Below w.heap.size w w' := by
  have HR : Hid (Acts9At w ao N A) := hr
  have HFIT : Hid (Acts9Fit N A) := hfit
  clear hr hfit
  have AR := fun w => arena08 goodA (by omega) w
  have hfe : ∀ (a b c d : Value) (w : World), (Instr.field 39 (.agg #[a, b, c, d]) 0).run Tryz.prog w = .ok a w := fun a b c d w => by kernel_rfl
  go_enter Tryz.func3, Tryz.ntmps3
  go_wp2_with (first
    | (go_at_call 9; refine (AR _).mono ?_; rintro e w1 ⟨L, s, rfl, m1, t1, b1, f1⟩; obtain ⟨c1, pa⟩ := Farm.first goodA m1 t1 b1 f1)
    | (go_at_call 10; refine (awake09_any _).mono ?_; rintro e w2 ⟨rfl, b2⟩; have c2 := c1.grown b2))
  obtain ⟨E, hE⟩ : ∃ E, w1.heap.size = E := ⟨_, rfl⟩
  rw [hE] at c2 pa ⊢
  have FA : Hid (FarmApart w L E 1 8 8 40 100) := pa
  have A3 := c2.shed
  clear c1 c2 pa b2 m1 t1 b1 f1 AR hE
  obtain ⟨B4, h4⟩ : ∃ B, w2.heap.size + 1 + 1 + 1 = B := ⟨_, rfl⟩
  obtain ⟨B3, h3⟩ : ∃ B, w2.heap.size + 1 + 1 = B := ⟨_, rfl⟩
  obtain ⟨B2, h2⟩ : ∃ B, w2.heap.size + 1 = B := ⟨_, rfl⟩
  obtain ⟨B1, h1⟩ : ∃ B, w2.heap.size = B := ⟨_, rfl⟩
  rw [h4, h3, h2, h1] at A3 ⊢
  have A3 : Hid (Shed _ _ _ _ _ _ _ _ _ _ _ _ _ _ _ _ _ _ _) := A3
  clear h1 h2 h3 h4
  go_loopw [5, 6, 7, 8, 9, 10] (fun v5 v6 v7 v8 v9 v10 wr => ∃ (r : Nat) (s' : Mm) (σ : Nat) (q : Q) (nx : Nat) (gen : Nat → Nat) (ls : List Ox) (rs : List Rec) (b1 c1 b2 c2 b3 c3 b4 c4 : Nat), v5 = .slice (some ⟨b1, 0, none⟩) rs.length c1 ∧ v6 = .slice (some ⟨b2, 0, none⟩) rs.length c2 ∧ v7 = .slice (some ⟨b3, 0, none⟩) rs.length c3 ∧ v8 = .slice (some ⟨b4, 0, none⟩) rs.length c4 ∧ v9 = .int .i64 (tot ls : Nat) ∧ v10 = .int .i64 r ∧ r ≤ 60 ∧ tot ls ≤ 17 * r ∧ σ ≤ 17 + 200 * r ∧ Shed w wr L E s' σ q nx gen ls rs b1 c1 b2 c2 b3 c3 b4 c4 ∧ Book 8 r q gen ls rs) (fun _ _ _ _ _ v10 _ => 60 - (intOf v10).toNat)
  case atStart => exact ⟨0, s, 17, Q.new 8, 0, _, [], [], B1, 0, B2, 0, B3, 0, B4, 0, rfl, rfl, rfl, rfl, rfl, rfl, by omega, Nat.zero_le _, by omega, A3.out, book0 8⟩
  case round =>
    clear A3
    obtain ⟨r, s', σ, q, nx, gen, ls, rs, b1, c1, b2, c2, b3, c3, b4, c4, rfl, rfl, rfl, rfl, rfl, rfl, hr60, htot, hσ, S, B⟩ := hrel
    by_cases hrN : r < N
    · have hrN' : (r : Int) < (N : Int) := by omega
      by_cases hr60' : r < 60
      · have hr60'' : (r : Int) < 60 := by omega
        obtain ⟨zb, zo, rfl, hk0, hk1, hk2, hk3⟩ := HR.out r hrN
        by_cases hk2' : A.kind r < 2
        · skip
          obtain ⟨Z, hZ, z1, z2⟩ := size15 (A.size r)
          obtain ⟨E0, H0, q', nx', ls', hnx, lot, mk⟩ := S.f.lot (own := A.own r) FA.out z1 z2 (by omega)
          have hc0 := keep' S.f.b hk0
          have hc1 := keep' S.f.b hk1
          have hc2 := keep' S.f.b hk2
          have hc3 := keep' S.f.b hk3
          have HS : Hid (Shed w wr L E s' σ q nx gen ls rs b1 c1 b2 c2 b3 c3 b4 c4) := S
          have HB : Hid (Book 8 r q gen ls rs) := B
          have av := S.f.v.grown (grow1 wr (.cells #[.int .i64 (A.kind r), .int .i64 (A.at_ r), .int .i64 (A.size r), .bool (A.own r)] 35))
          have y0 := S.f.v.c0
          have y1 := S.f.v.c1
          have y2 := S.f.v.c2
          have y3 := S.f.v.c3
          have y4 := S.f.v.c4
          have y5 := S.f.v.c5
          have y6 := S.f.v.c6
          have y7 := S.f.v.c7
          have y8 := S.f.v.c8
          have k0 := av.c0
          have k1 := av.c1
          have k2 := av.c2
          have k3 := av.c3
          have k4 := av.c4
          have k5 := av.c5
          have k6 := av.c6
          have k7 := av.c7
          have k8 := av.c8
          clear S B av hk0 hk1 hk2 hk3
          cases lot with
          | no E hE q' hF hs hd =>
            rcases hE with rfl | rfl
            · skip
              as_aux_lemma =>
                go_wp2_with (go_at_call 11; refine (mk _ (HS.out.f.alloc _)).mono ?_; rintro e w4 ⟨st4, s4, σ4, rfl, h4, f4, o4⟩)
                go_roundw
                case rel => exact ⟨r + 1, s4, σ4, _, nx', gen, ls, rs, b1, c1, b2, c2, b3, c3, b4, c4, rfl, rfl, rfl, rfl, rfl, by go_num, by omega, by omega, by omega, ((HS.out.grown (grow1 _ _)).only o4 f4).grown (grow1 _ _), HB.out.no hF⟩
                case measure => simp [intOf]; omega
            · skip
              as_aux_lemma =>
                go_wp2_with (go_at_call 11; refine (mk _ (HS.out.f.alloc _)).mono ?_; rintro e w4 ⟨st4, s4, σ4, rfl, h4, f4, o4⟩)
                go_roundw
                case rel => exact ⟨r + 1, s4, σ4, _, nx', gen, ls, rs, b1, c1, b2, c2, b3, c3, b4, c4, rfl, rfl, rfl, rfl, rfl, by go_num, by omega, by omega, by omega, ((HS.out.grown (grow1 _ _)).only o4 f4).grown (grow1 _ _), HB.out.no hF⟩
                case measure => simp [intOf]; omega
          | made o q' hF hgn ho hz =>
            as_aux_lemma =>
              go_wp2_with (go_at_call 11; refine (mk _ (HS.out.f.alloc _)).mono ?_; rintro e w4 ⟨st4, s4, σ4, rfl, h4, f4, o4⟩)
              have S5 := ((HS.out.grown (grow1 _ (.cells #[.int .i64 (A.kind r), .int .i64 (A.at_ r), .int .i64 (A.size r), .bool (A.own r)] 35))).only o4 f4).grown (grow1 _ (.cells #[.int .i64 0, .int .u64 (packH o.x (gen o.x)), .int .i64 0, .int .i64 st4] 39))
              have hA5 : (w4.alloc (.cells #[.int .i64 0, .int .u64 (packH o.x (gen o.x)), .int .i64 0, .int .i64 st4] 39)).cell? ⟨wr.heap.size, 3, none⟩ = some (.bool (A.own r)) := by
                have q := At.new wr 35 [.int .i64 (A.kind r), .int .i64 (A.at_ r), .int .i64 (A.size r), .bool (A.own r)]
                exact ((q.only o4 (fun hh => by have := HS.out.f.mm.lt _ hh; omega)).grown (grow1 _ _)).at0 3 rfl
              have hD5 : (w4.alloc (.cells #[.int .i64 0, .int .u64 (packH o.x (gen o.x)), .int .i64 0, .int .i64 st4] 39)).cell? ⟨w4.heap.size, 1, none⟩ = some (.int .u64 (packH o.x (gen o.x))) := (At.new w4 39 [.int .i64 0, .int .u64 (packH o.x (gen o.x)), .int .i64 0, .int .i64 st4]).at0 1 rfl
              have hlt := HS.out.r1.lt
              have hlt2 := HS.out.r2.lt
              have hlt3 := HS.out.r3.lt
              have hlt4 := HS.out.r4.lt
              have hoz := o4.size
              rw [Go.Deep.nblk_alloc] at hoz
              obtain ⟨Da, hDa⟩ : ∃ D, w4.heap.size = D := ⟨_, rfl⟩
              obtain ⟨Aa, hAa⟩ : ∃ D, wr.heap.size = D := ⟨_, rfl⟩
              rw [hDa] at hD5 hoz ⊢
              rw [hAa] at hA5 hoz hlt hlt2 hlt3 hlt4 ⊢
              refine wp_over (fun W => Shed w W L E s4 σ4 q' nx' gen (o :: ls) rs b1 c1 b2 c2 b3 c3 b4 c4 ∧ W.cell? ⟨Aa, 3, none⟩ = some (.bool (A.own r)) ∧ W.cell? ⟨Da, 1, none⟩ = some (.int .u64 (packH o.x (gen o.x)))) ⟨S5, hA5, hD5⟩ ?_
              clear S5 hA5 hD5
              rintro W ⟨S5, hA5, hD5⟩
              have ok9 := S5.f.tm.ok o (by simp)
              have S5d := S5.grown ((Below.refl W.heap.size W).drew)
              obtain ⟨Bz, hBz⟩ : ∃ B, W.heap.size = B := ⟨_, rfl⟩
              have hf4 : ∀ a, a < 4 → (fourOf b1 c1 b2 c2 b3 c3 b4 c4 rs ⟨o.x, gen o.x, Z, A.own r, true⟩).b a < Bz := by rw [← hBz]; exact S5.fourLt
              have hne23 : (fourOf b1 c1 b2 c2 b3 c3 b4 c4 rs ⟨o.x, gen o.x, Z, A.own r, true⟩).b 1 ≠ (fourOf b1 c1 b2 c2 b3 c3 b4 c4 rs ⟨o.x, gen o.x, Z, A.own r, true⟩).b 2 := S5.ne
              have hrl : rs.length ≤ 60 := Nat.le_trans HB.out.len hr60
              have nAa : ¬ (fourOf b1 c1 b2 c2 b3 c3 b4 c4 rs ⟨o.x, gen o.x, Z, A.own r, true⟩).has Aa := fourNot (by omega) (by omega) (by omega) (by omega)
              have nDa : ¬ (fourOf b1 c1 b2 c2 b3 c3 b4 c4 rs ⟨o.x, gen o.x, Z, A.own r, true⟩).has Da := fourNot (by omega) (by omega) (by omega) (by omega)
              have S5d : Hid (Shed w W.drew L E s4 σ4 q' nx' gen (o :: ls) rs b1 c1 b2 c2 b3 c3 b4 c4) := S5d
              refine wp_region_relyX_tail (Keep4 (fourOf b1 c1 b2 c2 b3 c3 b4 c4 rs ⟨o.x, gen o.x, Z, A.own r, true⟩)) two4 17 [.val (.slice (some ⟨b1, 0, none⟩) rs.length c1), .val (.pointer (some ⟨Da, 1, none⟩)), .val (.int .u64 (packH o.x (gen o.x))), .that (boxd Bz ((fourOf b1 c1 b2 c2 b3 c3 b4 c4 rs ⟨o.x, gen o.x, Z, A.own r, true⟩).x 0)) (boxd_stays hf4 _), .that ((fourOf b1 c1 b2 c2 b3 c3 b4 c4 rs ⟨o.x, gen o.x, Z, A.own r, true⟩).grew Bz 0) (Four.grew_stays (by decide) hf4), .val (.slice (some ⟨b2, 0, none⟩) rs.length c2), .that (boxd Bz ((fourOf b1 c1 b2 c2 b3 c3 b4 c4 rs ⟨o.x, gen o.x, Z, A.own r, true⟩).x 1)) (boxd_stays hf4 _), .that ((fourOf b1 c1 b2 c2 b3 c3 b4 c4 rs ⟨o.x, gen o.x, Z, A.own r, true⟩).grew Bz 1) (Four.grew_stays (by decide) hf4), .val (.slice (some ⟨b3, 0, none⟩) rs.length c3), .val (.pointer (some ⟨Aa, 3, none⟩)), .val (.bool (A.own r)), .that (boxd Bz ((fourOf b1 c1 b2 c2 b3 c3 b4 c4 rs ⟨o.x, gen o.x, Z, A.own r, true⟩).x 2)) (boxd_stays hf4 _), .that ((fourOf b1 c1 b2 c2 b3 c3 b4 c4 rs ⟨o.x, gen o.x, Z, A.own r, true⟩).grew Bz 2) (Four.grew_stays (by decide) hf4), .val (.slice (some ⟨b4, 0, none⟩) rs.length c4), .val (.int .i64 Z), .that (boxd Bz ((fourOf b1 c1 b2 c2 b3 c3 b4 c4 rs ⟨o.x, gen o.x, Z, A.own r, true⟩).x 3)) (boxd_stays hf4 _), .that ((fourOf b1 c1 b2 c2 b3 c3 b4 c4 rs ⟨o.x, gen o.x, Z, A.own r, true⟩).grew Bz 3) (Four.grew_stays (by decide) hf4)] (by kernel_rfl) Keep4.refl Keep4.trans (by decide) (by kernel_rfl) (by kernel_rfl) (by kernel_rfl) (by kernel_rfl) (by kernel_rfl) (by kernel_rfl) two4.none ?_
              simp only [List.take_succ_cons, List.take_zero, relyAllX, Act.put, List.setIfInBounds_toArray, List.set_cons_zero, List.set_cons_succ]
              refine ⟨?_, ?_, ?_, ?_, fun v3 => ⟨?_, fun v4 => ⟨?_, ?_, fun v6 => ⟨?_, fun v7 => ⟨?_, ?_, ?_, ?_, fun v11 => ⟨?_, fun v12 => ⟨?_, ?_, ?_, fun v15 => ⟨?_, fun v16 => ?_⟩⟩⟩⟩⟩⟩⟩⟩
              · intro w' l hg hf hJ hl hp
                refine Or.inl ⟨rfl, ?_⟩
                go_simp
                exact ⟨Keep4.refl _, rfl, hJ.other (by decide) _⟩
              · intro w' l hg hf hJ hl hp
                refine Or.inl ⟨rfl, ?_⟩
                go_simp
                exact ⟨Keep4.refl _, rfl, hJ.other (by decide) _⟩
              · intro w' l hg hf hJ hl hp
                refine Or.inl ⟨rfl, ?_⟩
                have z := hg.only.keep (b := Da) nDa hD5
                go_simp
                exact ⟨Keep4.refl _, rfl, hJ.other (by decide) _⟩
              · intro w' l hg hf hJ hl hp
                refine Or.inl ⟨rfl, ?_⟩
                have hz : Bz ≤ w'.heap.size := by have := hg.only.size; have e : W.drew.heap.size = W.heap.size := rfl; omega
                go_simp
                exact ⟨Keep4.grown (grow_alloc (Below.refl _ _) _), ⟨_, rfl, hz, by simp [fourOf, four, Rec.h, Rec.l, Rec.o, Rec.z]⟩, hJ.other (by decide) _⟩
              · intro w' l hg hf hJ hl hp
                refine Or.inl ⟨rfl, ?_⟩
                have f0 := hf.1 (by kernel_rfl)
                clear hf
                obtain ⟨v', w4', hrun, hk, hgr, hnow⟩ := (hBz ▸ S5d.out.app) hg (a := 0) (by decide) Tryz.underlying31 Tryz.infoR37 rfl (by decide) rfl f0 (by omega) 31 rfl rfl
                exact rely_append (.tmp 71) (.tmp 74) rfl rfl rfl hrun hk ⟨hgr, hJ.other (by decide) _⟩
              · intro w' l hg hf hJ hl hp
                refine Or.inl ⟨rfl, ?_⟩
                go_simp
                exact ⟨Keep4.refl _, rfl, hJ.other (by decide) _⟩
              · intro w' l hg hf hJ hl hp
                refine Or.inl ⟨rfl, ?_⟩
                have hz : Bz ≤ w'.heap.size := by have := hg.only.size; have e : W.drew.heap.size = W.heap.size := rfl; omega
                go_simp
                exact ⟨Keep4.grown (grow_alloc (Below.refl _ _) _), ⟨_, rfl, hz, by simp [fourOf, four, Rec.h, Rec.l, Rec.o, Rec.z]⟩, hJ.other (by decide) _⟩
              · intro w' l hg hf hJ hl hp
                refine Or.inl ⟨rfl, ?_⟩
                have f0 := hf.1 (by kernel_rfl)
                clear hf
                obtain ⟨v', w4', hrun, hk, hgr, hnow⟩ := (hBz ▸ S5d.out.app) hg (a := 1) (by decide) Tryz.underlying32 Tryz.infoR4 rfl (by decide) rfl f0 (by omega) 32 rfl rfl
                exact rely_append (.tmp 76) (.tmp 77) rfl rfl rfl hrun hk ⟨hgr, two4.at7 (fun v hv => (grew_two (F := fourOf b1 c1 b2 c2 b3 c3 b4 c4 rs ⟨o.x, gen o.x, Z, A.own r, true⟩) (a := 1) (a' := 2) (by decide) hne23 hf4 hnow (hp 12 _ v rfl hv)).1)⟩
              · intro w' l hg hf hJ hl hp
                refine Or.inl ⟨rfl, ?_⟩
                go_simp
                exact ⟨Keep4.refl _, rfl, hJ.other (by decide) _⟩
              · intro w' l hg hf hJ hl hp
                refine Or.inl ⟨rfl, ?_⟩
                go_simp
                exact ⟨Keep4.refl _, rfl, hJ.other (by decide) _⟩
              · intro w' l hg hf hJ hl hp
                refine Or.inl ⟨rfl, ?_⟩
                have z := hg.only.keep (b := Aa) nAa hA5
                go_simp
                exact ⟨Keep4.refl _, rfl, hJ.other (by decide) _⟩
              · intro w' l hg hf hJ hl hp
                refine Or.inl ⟨rfl, ?_⟩
                have hz : Bz ≤ w'.heap.size := by have := hg.only.size; have e : W.drew.heap.size = W.heap.size := rfl; omega
                go_simp
                exact ⟨Keep4.grown (grow_alloc (Below.refl _ _) _), ⟨_, rfl, hz, by simp [fourOf, four, Rec.h, Rec.l, Rec.o, Rec.z]⟩, hJ.other (by decide) _⟩
              · intro w' l hg hf hJ hl hp
                refine Or.inl ⟨rfl, ?_⟩
                have f0 := hf.1 (by kernel_rfl)
                clear hf
                obtain ⟨v', w4', hrun, hk, hgr, hnow⟩ := (hBz ▸ S5d.out.app) hg (a := 2) (by decide) Tryz.underlying32 Tryz.infoR4 rfl (by decide) rfl f0 (by omega) 32 rfl rfl
                exact rely_append (.tmp 79) (.tmp 82) rfl rfl rfl hrun hk ⟨hgr, two4.at12 (fun v hv => (grew_two (F := fourOf b1 c1 b2 c2 b3 c3 b4 c4 rs ⟨o.x, gen o.x, Z, A.own r, true⟩) (a := 2) (a' := 1) (by decide) (Ne.symm hne23) hf4 hnow (hp 7 _ v rfl hv)).2)⟩
              · intro w' l hg hf hJ hl hp
                refine Or.inl ⟨rfl, ?_⟩
                go_simp
                exact ⟨Keep4.refl _, rfl, hJ.other (by decide) _⟩
              · intro w' l hg hf hJ hl hp
                refine Or.inl ⟨rfl, ?_⟩
                go_simp
                exact ⟨Keep4.refl _, rfl, hJ.other (by decide) _⟩
              · intro w' l hg hf hJ hl hp
                refine Or.inl ⟨rfl, ?_⟩
                have hz : Bz ≤ w'.heap.size := by have := hg.only.size; have e : W.drew.heap.size = W.heap.size := rfl; omega
                go_simp
                exact ⟨Keep4.grown (grow_alloc (Below.refl _ _) _), ⟨_, rfl, hz, by simp [fourOf, four, Rec.h, Rec.l, Rec.o, Rec.z]⟩, hJ.other (by decide) _⟩
              · intro w' l hg hf hJ hl hp
                refine Or.inl ⟨rfl, ?_⟩
                have f0 := hf.1 (by kernel_rfl)
                clear hf
                obtain ⟨v', w4', hrun, hk, hgr, hnow⟩ := (hBz ▸ S5d.out.app) hg (a := 3) (by decide) Tryz.underlying33 Tryz.infoR3 rfl (by decide) rfl f0 (by omega) 33 rfl rfl
                exact rely_append (.tmp 84) (.tmp 86) rfl rfl rfl hrun hk ⟨hgr, hJ.other (by decide) _⟩
              intro w9 hg hf hJ
              have two : slTwo v7 v12 := hJ v7 v12 rfl rfl
              obtain ⟨g20, -, g19, -, g18, -, g17, -⟩ := hf
              rw [← hBz] at g20 g19 g18 g17
              obtain ⟨b1', c1', b2', c2', b3', c3', b4', c4', rfl, rfl, rfl, rfl, S6⟩ := S5d.out.grew hg g17 g18 g19 g20 two
              clear g20 g19 g18 g17 two hJ hf4 hne23 nAa nDa S5d S5 hA5 hD5
              have HS6 : Hid (Shed w w9 L E s4 σ4 q' nx' gen (o :: ls) (rs ++ [⟨o.x, gen o.x, Z, A.own r, true⟩]) b1' c1' b2' c2' b3' c3' b4' c4') := S6
              clear S6
              have hcl : classOf (Z : Nat) = (o.κ : Nat) := by rw [← hz]; exact ok9.kz
              have hrm := room17 o.κ
              have hk4 := ok9.k4
              have hkc : Hid (classOf (Z : Nat) = (o.κ : Nat)) := hcl
              have hwr : Hid (IntKind.i64.wrap ((tot ls : Nat) + (room o.κ : Nat) : Int) = ((tot (o :: ls) : Nat) : Int)) := by
                unfold Hid
                rw [IntKind.wrap_i64]
                show _ = ((room o.κ + tot ls : Nat) : Int)
                omega
              obtain ⟨rm, hrmE⟩ : ∃ rm, room o.κ = rm := ⟨_, rfl⟩
              clear hcl
              go_wp2_with (first
                | (go_at_call 13; refine (lclass_of hkc.out _).mono ?_; rintro e w10 ⟨rfl, rfl⟩)
                | (go_at_call 12; refine (lroom_w o.κ hk4 _).mono ?_; rintro e w11 ⟨rfl, rfl⟩))
              have hb := HB.out.made HS.out.f.tm HS6.out.f.tm hF ((Lot.made o q' hF hgn ho hz : Lot gen (A.own r) Z q ls 0 (packH o.x o.g) q' (o :: ls)).cover HB.out.cov)
              rw [hgn, ho, hz] at hb
              refine ⟨⟨r + 1, s4, σ4, q', nx', gen, o :: ls, rs ++ [⟨o.x, gen o.x, Z, A.own r, true⟩], b1', c1', b2', c2', b3', c3', b4', c4', by simp, by simp, by simp, by simp, congrArg (Value.int .i64) ?_, by go_num, by omega, ?_, by omega, HS6.out, hb⟩, by simp [intOf]; omega⟩
              · show _ = ((room o.κ + tot ls : Nat) : Int)
                rw [hrmE]; omega
              · show room o.κ + tot ls ≤ 17 * (r + 1)
                omega
        · by_cases hl0 : rs.length = 0
          · have hrs : rs = [] := List.eq_nil_of_length_eq_zero hl0
            subst hrs
            clear hl0
            obtain ⟨Z, hZ, z1, z2⟩ := size15 (A.size r)
            obtain ⟨E0, H0, q', nx', ls', hnx, lot, mk⟩ := S.f.lot (own := A.own r) FA.out z1 z2 (by omega)
            have hc0 := keep' S.f.b hk0
            have hc1 := keep' S.f.b hk1
            have hc2 := keep' S.f.b hk2
            have hc3 := keep' S.f.b hk3
            have HS : Hid (Shed w wr L E s' σ q nx gen ls [] b1 c1 b2 c2 b3 c3 b4 c4) := S
            have HB : Hid (Book 8 r q gen ls []) := B
            have av := S.f.v.grown (grow1 wr (.cells #[.int .i64 (A.kind r), .int .i64 (A.at_ r), .int .i64 (A.size r), .bool (A.own r)] 35))
            have y0 := S.f.v.c0
            have y1 := S.f.v.c1
            have y2 := S.f.v.c2
            have y3 := S.f.v.c3
            have y4 := S.f.v.c4
            have y5 := S.f.v.c5
            have y6 := S.f.v.c6
            have y7 := S.f.v.c7
            have y8 := S.f.v.c8
            have k0 := av.c0
            have k1 := av.c1
            have k2 := av.c2
            have k3 := av.c3
            have k4 := av.c4
            have k5 := av.c5
            have k6 := av.c6
            have k7 := av.c7
            have k8 := av.c8
            clear S B av hk0 hk1 hk2 hk3
            cases lot with
            | no E hE q' hF hs hd =>
              rcases hE with rfl | rfl
              · skip
                as_aux_lemma =>
                  go_wp2_with (go_at_call 11; refine (mk _ (HS.out.f.alloc _)).mono ?_; rintro e w4 ⟨st4, s4, σ4, rfl, h4, f4, o4⟩)
                  go_roundw
                  case rel => exact ⟨r + 1, s4, σ4, _, nx', gen, ls, [], b1, c1, b2, c2, b3, c3, b4, c4, rfl, rfl, rfl, rfl, rfl, by go_num, by omega, by omega, by omega, ((HS.out.grown (grow1 _ _)).only o4 f4).grown (grow1 _ _), HB.out.no hF⟩
                  case measure => simp [intOf]; omega
              · skip
                as_aux_lemma =>
                  go_wp2_with (go_at_call 11; refine (mk _ (HS.out.f.alloc _)).mono ?_; rintro e w4 ⟨st4, s4, σ4, rfl, h4, f4, o4⟩)
                  go_roundw
                  case rel => exact ⟨r + 1, s4, σ4, _, nx', gen, ls, [], b1, c1, b2, c2, b3, c3, b4, c4, rfl, rfl, rfl, rfl, rfl, by go_num, by omega, by omega, by omega, ((HS.out.grown (grow1 _ _)).only o4 f4).grown (grow1 _ _), HB.out.no hF⟩
                  case measure => simp [intOf]; omega
            | made o q' hF hgn ho hz =>
              as_aux_lemma =>
                go_wp2_with (go_at_call 11; refine (mk _ (HS.out.f.alloc _)).mono ?_; rintro e w4 ⟨st4, s4, σ4, rfl, h4, f4, o4⟩)
                have S5 := ((HS.out.grown (grow1 _ (.cells #[.int .i64 (A.kind r), .int .i64 (A.at_ r), .int .i64 (A.size r), .bool (A.own r)] 35))).only o4 f4).grown (grow1 _ (.cells #[.int .i64 0, .int .u64 (packH o.x (gen o.x)), .int .i64 0, .int .i64 st4] 39))
                have hA5 : (w4.alloc (.cells #[.int .i64 0, .int .u64 (packH o.x (gen o.x)), .int .i64 0, .int .i64 st4] 39)).cell? ⟨wr.heap.size, 3, none⟩ = some (.bool (A.own r)) := by
                  have q := At.new wr 35 [.int .i64 (A.kind r), .int .i64 (A.at_ r), .int .i64 (A.size r), .bool (A.own r)]
                  exact ((q.only o4 (fun hh => by have := HS.out.f.mm.lt _ hh; omega)).grown (grow1 _ _)).at0 3 rfl
                have hD5 : (w4.alloc (.cells #[.int .i64 0, .int .u64 (packH o.x (gen o.x)), .int .i64 0, .int .i64 st4] 39)).cell? ⟨w4.heap.size, 1, none⟩ = some (.int .u64 (packH o.x (gen o.x))) := (At.new w4 39 [.int .i64 0, .int .u64 (packH o.x (gen o.x)), .int .i64 0, .int .i64 st4]).at0 1 rfl
                have hlt := HS.out.r1.lt
                have hlt2 := HS.out.r2.lt
                have hlt3 := HS.out.r3.lt
                have hlt4 := HS.out.r4.lt
                have hoz := o4.size
                rw [Go.Deep.nblk_alloc] at hoz
                obtain ⟨Da, hDa⟩ : ∃ D, w4.heap.size = D := ⟨_, rfl⟩
                obtain ⟨Aa, hAa⟩ : ∃ D, wr.heap.size = D := ⟨_, rfl⟩
                rw [hDa] at hD5 hoz ⊢
                rw [hAa] at hA5 hoz hlt hlt2 hlt3 hlt4 ⊢
                refine wp_over (fun W => Shed w W L E s4 σ4 q' nx' gen (o :: ls) [] b1 c1 b2 c2 b3 c3 b4 c4 ∧ W.cell? ⟨Aa, 3, none⟩ = some (.bool (A.own r)) ∧ W.cell? ⟨Da, 1, none⟩ = some (.int .u64 (packH o.x (gen o.x)))) ⟨S5, hA5, hD5⟩ ?_
                clear S5 hA5 hD5
                rintro W ⟨S5, hA5, hD5⟩
                have ok9 := S5.f.tm.ok o (by simp)
                have S5d := S5.grown ((Below.refl W.heap.size W).drew)
                obtain ⟨Bz, hBz⟩ : ∃ B, W.heap.size = B := ⟨_, rfl⟩
                have hf4 : ∀ a, a < 4 → (fourOf b1 c1 b2 c2 b3 c3 b4 c4 [] ⟨o.x, gen o.x, Z, A.own r, true⟩).b a < Bz := by rw [← hBz]; exact S5.fourLt
                have hne23 : (fourOf b1 c1 b2 c2 b3 c3 b4 c4 [] ⟨o.x, gen o.x, Z, A.own r, true⟩).b 1 ≠ (fourOf b1 c1 b2 c2 b3 c3 b4 c4 [] ⟨o.x, gen o.x, Z, A.own r, true⟩).b 2 := S5.ne
                have hrl : ([] : List Rec).length ≤ 60 := Nat.le_trans HB.out.len hr60
                have nAa : ¬ (fourOf b1 c1 b2 c2 b3 c3 b4 c4 [] ⟨o.x, gen o.x, Z, A.own r, true⟩).has Aa := fourNot (by omega) (by omega) (by omega) (by omega)
                have nDa : ¬ (fourOf b1 c1 b2 c2 b3 c3 b4 c4 [] ⟨o.x, gen o.x, Z, A.own r, true⟩).has Da := fourNot (by omega) (by omega) (by omega) (by omega)
                have S5d : Hid (Shed w W.drew L E s4 σ4 q' nx' gen (o :: ls) [] b1 c1 b2 c2 b3 c3 b4 c4) := S5d
                refine wp_region_relyX_tail (Keep4 (fourOf b1 c1 b2 c2 b3 c3 b4 c4 [] ⟨o.x, gen o.x, Z, A.own r, true⟩)) two4 17 [.val (.slice (some ⟨b1, 0, none⟩) ([] : List Rec).length c1), .val (.pointer (some ⟨Da, 1, none⟩)), .val (.int .u64 (packH o.x (gen o.x))), .that (boxd Bz ((fourOf b1 c1 b2 c2 b3 c3 b4 c4 [] ⟨o.x, gen o.x, Z, A.own r, true⟩).x 0)) (boxd_stays hf4 _), .that ((fourOf b1 c1 b2 c2 b3 c3 b4 c4 [] ⟨o.x, gen o.x, Z, A.own r, true⟩).grew Bz 0) (Four.grew_stays (by decide) hf4), .val (.slice (some ⟨b2, 0, none⟩) ([] : List Rec).length c2), .that (boxd Bz ((fourOf b1 c1 b2 c2 b3 c3 b4 c4 [] ⟨o.x, gen o.x, Z, A.own r, true⟩).x 1)) (boxd_stays hf4 _), .that ((fourOf b1 c1 b2 c2 b3 c3 b4 c4 [] ⟨o.x, gen o.x, Z, A.own r, true⟩).grew Bz 1) (Four.grew_stays (by decide) hf4), .val (.slice (some ⟨b3, 0, none⟩) ([] : List Rec).length c3), .val (.pointer (some ⟨Aa, 3, none⟩)), .val (.bool (A.own r)), .that (boxd Bz ((fourOf b1 c1 b2 c2 b3 c3 b4 c4 [] ⟨o.x, gen o.x, Z, A.own r, true⟩).x 2)) (boxd_stays hf4 _), .that ((fourOf b1 c1 b2 c2 b3 c3 b4 c4 [] ⟨o.x, gen o.x, Z, A.own r, true⟩).grew Bz 2) (Four.grew_stays (by decide) hf4), .val (.slice (some ⟨b4, 0, none⟩) ([] : List Rec).length c4), .val (.int .i64 Z), .that (boxd Bz ((fourOf b1 c1 b2 c2 b3 c3 b4 c4 [] ⟨o.x, gen o.x, Z, A.own r, true⟩).x 3)) (boxd_stays hf4 _), .that ((fourOf b1 c1 b2 c2 b3 c3 b4 c4 [] ⟨o.x, gen o.x, Z, A.own r, true⟩).grew Bz 3) (Four.grew_stays (by decide) hf4)] (by kernel_rfl) Keep4.refl Keep4.trans (by decide) (by kernel_rfl) (by kernel_rfl) (by kernel_rfl) (by kernel_rfl) (by kernel_rfl) (by kernel_rfl) two4.none ?_
                simp only [List.take_succ_cons, List.take_zero, relyAllX, Act.put, List.setIfInBounds_toArray, List.set_cons_zero, List.set_cons_succ]
                refine ⟨?_, ?_, ?_, ?_, fun v3 => ⟨?_, fun v4 => ⟨?_, ?_, fun v6 => ⟨?_, fun v7 => ⟨?_, ?_, ?_, ?_, fun v11 => ⟨?_, fun v12 => ⟨?_, ?_, ?_, fun v15 => ⟨?_, fun v16 => ?_⟩⟩⟩⟩⟩⟩⟩⟩
                · intro w' l hg hf hJ hl hp
                  refine Or.inl ⟨rfl, ?_⟩
                  go_simp
                  exact ⟨Keep4.refl _, rfl, hJ.other (by decide) _⟩
                · intro w' l hg hf hJ hl hp
                  refine Or.inl ⟨rfl, ?_⟩
                  go_simp
                  exact ⟨Keep4.refl _, rfl, hJ.other (by decide) _⟩
                · intro w' l hg hf hJ hl hp
                  refine Or.inl ⟨rfl, ?_⟩
                  have z := hg.only.keep (b := Da) nDa hD5
                  go_simp
                  exact ⟨Keep4.refl _, rfl, hJ.other (by decide) _⟩
                · intro w' l hg hf hJ hl hp
                  refine Or.inl ⟨rfl, ?_⟩
                  have hz : Bz ≤ w'.heap.size := by have := hg.only.size; have e : W.drew.heap.size = W.heap.size := rfl; omega
                  go_simp
                  exact ⟨Keep4.grown (grow_alloc (Below.refl _ _) _), ⟨_, rfl, hz, by simp [fourOf, four, Rec.h, Rec.l, Rec.o, Rec.z]⟩, hJ.other (by decide) _⟩
                · intro w' l hg hf hJ hl hp
                  refine Or.inl ⟨rfl, ?_⟩
                  have f0 := hf.1 (by kernel_rfl)
                  clear hf
                  obtain ⟨v', w4', hrun, hk, hgr, hnow⟩ := (hBz ▸ S5d.out.app) hg (a := 0) (by decide) Tryz.underlying31 Tryz.infoR37 rfl (by decide) rfl f0 (by omega) 31 rfl rfl
                  exact rely_append (.tmp 71) (.tmp 74) rfl rfl rfl hrun hk ⟨hgr, hJ.other (by decide) _⟩
                · intro w' l hg hf hJ hl hp
                  refine Or.inl ⟨rfl, ?_⟩
                  go_simp
                  exact ⟨Keep4.refl _, rfl, hJ.other (by decide) _⟩
                · intro w' l hg hf hJ hl hp
                  refine Or.inl ⟨rfl, ?_⟩
                  have hz : Bz ≤ w'.heap.size := by have := hg.only.size; have e : W.drew.heap.size = W.heap.size := rfl; omega
                  go_simp
                  exact ⟨Keep4.grown (grow_alloc (Below.refl _ _) _), ⟨_, rfl, hz, by simp [fourOf, four, Rec.h, Rec.l, Rec.o, Rec.z]⟩, hJ.other (by decide) _⟩
                · intro w' l hg hf hJ hl hp
                  refine Or.inl ⟨rfl, ?_⟩
                  have f0 := hf.1 (by kernel_rfl)
                  clear hf
                  obtain ⟨v', w4', hrun, hk, hgr, hnow⟩ := (hBz ▸ S5d.out.app) hg (a := 1) (by decide) Tryz.underlying32 Tryz.infoR4 rfl (by decide) rfl f0 (by omega) 32 rfl rfl
                  exact rely_append (.tmp 76) (.tmp 77) rfl rfl rfl hrun hk ⟨hgr, two4.at7 (fun v hv => (grew_two (F := fourOf b1 c1 b2 c2 b3 c3 b4 c4 [] ⟨o.x, gen o.x, Z, A.own r, true⟩) (a := 1) (a' := 2) (by decide) hne23 hf4 hnow (hp 12 _ v rfl hv)).1)⟩
                · intro w' l hg hf hJ hl hp
                  refine Or.inl ⟨rfl, ?_⟩
                  go_simp
                  exact ⟨Keep4.refl _, rfl, hJ.other (by decide) _⟩
                · intro w' l hg hf hJ hl hp
                  refine Or.inl ⟨rfl, ?_⟩
                  go_simp
                  exact ⟨Keep4.refl _, rfl, hJ.other (by decide) _⟩
                · intro w' l hg hf hJ hl hp
                  refine Or.inl ⟨rfl, ?_⟩
                  have z := hg.only.keep (b := Aa) nAa hA5
                  go_simp
                  exact ⟨Keep4.refl _, rfl, hJ.other (by decide) _⟩
                · intro w' l hg hf hJ hl hp
                  refine Or.inl ⟨rfl, ?_⟩
                  have hz : Bz ≤ w'.heap.size := by have := hg.only.size; have e : W.drew.heap.size = W.heap.size := rfl; omega
                  go_simp
                  exact ⟨Keep4.grown (grow_alloc (Below.refl _ _) _), ⟨_, rfl, hz, by simp [fourOf, four, Rec.h, Rec.l, Rec.o, Rec.z]⟩, hJ.other (by decide) _⟩
                · intro w' l hg hf hJ hl hp
                  refine Or.inl ⟨rfl, ?_⟩
                  have f0 := hf.1 (by kernel_rfl)
                  clear hf
                  obtain ⟨v', w4', hrun, hk, hgr, hnow⟩ := (hBz ▸ S5d.out.app) hg (a := 2) (by decide) Tryz.underlying32 Tryz.infoR4 rfl (by decide) rfl f0 (by omega) 32 rfl rfl
                  exact rely_append (.tmp 79) (.tmp 82) rfl rfl rfl hrun hk ⟨hgr, two4.at12 (fun v hv => (grew_two (F := fourOf b1 c1 b2 c2 b3 c3 b4 c4 [] ⟨o.x, gen o.x, Z, A.own r, true⟩) (a := 2) (a' := 1) (by decide) (Ne.symm hne23) hf4 hnow (hp 7 _ v rfl hv)).2)⟩
                · intro w' l hg hf hJ hl hp
                  refine Or.inl ⟨rfl, ?_⟩
                  go_simp
                  exact ⟨Keep4.refl _, rfl, hJ.other (by decide) _⟩
                · intro w' l hg hf hJ hl hp
                  refine Or.inl ⟨rfl, ?_⟩
                  go_simp
                  exact ⟨Keep4.refl _, rfl, hJ.other (by decide) _⟩
                · intro w' l hg hf hJ hl hp
                  refine Or.inl ⟨rfl, ?_⟩
                  have hz : Bz ≤ w'.heap.size := by have := hg.only.size; have e : W.drew.heap.size = W.heap.size := rfl; omega
                  go_simp
                  exact ⟨Keep4.grown (grow_alloc (Below.refl _ _) _), ⟨_, rfl, hz, by simp [fourOf, four, Rec.h, Rec.l, Rec.o, Rec.z]⟩, hJ.other (by decide) _⟩
                · intro w' l hg hf hJ hl hp
                  refine Or.inl ⟨rfl, ?_⟩
                  have f0 := hf.1 (by kernel_rfl)
                  clear hf
                  obtain ⟨v', w4', hrun, hk, hgr, hnow⟩ := (hBz ▸ S5d.out.app) hg (a := 3) (by decide) Tryz.underlying33 Tryz.infoR3 rfl (by decide) rfl f0 (by omega) 33 rfl rfl
                  exact rely_append (.tmp 84) (.tmp 86) rfl rfl rfl hrun hk ⟨hgr, hJ.other (by decide) _⟩
                intro w9 hg hf hJ
                have two : slTwo v7 v12 := hJ v7 v12 rfl rfl
                obtain ⟨g20, -, g19, -, g18, -, g17, -⟩ := hf
                rw [← hBz] at g20 g19 g18 g17
                obtain ⟨b1', c1', b2', c2', b3', c3', b4', c4', rfl, rfl, rfl, rfl, S6⟩ := S5d.out.grew hg g17 g18 g19 g20 two
                clear g20 g19 g18 g17 two hJ hf4 hne23 nAa nDa S5d S5 hA5 hD5
                have HS6 : Hid (Shed w w9 L E s4 σ4 q' nx' gen (o :: ls) ([] ++ [⟨o.x, gen o.x, Z, A.own r, true⟩]) b1' c1' b2' c2' b3' c3' b4' c4') := S6
                clear S6
                have hcl : classOf (Z : Nat) = (o.κ : Nat) := by rw [← hz]; exact ok9.kz
                have hrm := room17 o.κ
                have hk4 := ok9.k4
                have hkc : Hid (classOf (Z : Nat) = (o.κ : Nat)) := hcl
                have hwr : Hid (IntKind.i64.wrap ((tot ls : Nat) + (room o.κ : Nat) : Int) = ((tot (o :: ls) : Nat) : Int)) := by
                  unfold Hid
                  rw [IntKind.wrap_i64]
                  show _ = ((room o.κ + tot ls : Nat) : Int)
                  omega
                obtain ⟨rm, hrmE⟩ : ∃ rm, room o.κ = rm := ⟨_, rfl⟩
                clear hcl
                go_wp2_with (first
                  | (go_at_call 13; refine (lclass_of hkc.out _).mono ?_; rintro e w10 ⟨rfl, rfl⟩)
                  | (go_at_call 12; refine (lroom_w o.κ hk4 _).mono ?_; rintro e w11 ⟨rfl, rfl⟩))
                have hb := HB.out.made HS.out.f.tm HS6.out.f.tm hF ((Lot.made o q' hF hgn ho hz : Lot gen (A.own r) Z q ls 0 (packH o.x o.g) q' (o :: ls)).cover HB.out.cov)
                rw [hgn, ho, hz] at hb
                refine ⟨⟨r + 1, s4, σ4, q', nx', gen, o :: ls, [] ++ [⟨o.x, gen o.x, Z, A.own r, true⟩], b1', c1', b2', c2', b3', c3', b4', c4', by simp, by simp, by simp, by simp, congrArg (Value.int .i64) ?_, by go_num, by omega, ?_, by omega, HS6.out, hb⟩, by simp [intOf]; omega⟩
                · show _ = ((room o.κ + tot ls : Nat) : Int)
                  rw [hrmE]; omega
                · show room o.κ + tot ls ≤ 17 * (r + 1)
                  omega
          · have hl0' : ¬ (rs.length : Int) = 0 := by omega
            obtain ⟨K, hK1, hK, hK3, hK5⟩ := pickL (A.at_ r) rs.length (by omega)
            obtain ⟨rc, hrc⟩ : ∃ rc, rs[K]? = some rc := ⟨rs[K], List.getElem?_eq_getElem hK⟩
            obtain ⟨E0, q', gen', ls', fate, mk⟩ := S.f.fate (own := A.own r) FA.out B (by omega) hrc (by omega)
            have rg := B.rg K rc hrc
            have hrl : rs.length ≤ 60 := Nat.le_trans B.len hr60
            have hc0 := keep' S.f.b hk0
            have hc1 := keep' S.f.b hk1
            have hc2 := keep' S.f.b hk2
            have hc3 := keep' S.f.b hk3
            have HS : Hid (Shed w wr L E s' σ q nx gen ls rs b1 c1 b2 c2 b3 c3 b4 c4) := S
            have HB : Hid (Book 8 r q gen ls rs) := B
            have HRC : Hid (rs[K]? = some rc) := hrc
            have HFT : Hid (Fate q gen ls rc (A.own r) E0 q' gen' ls') := fate
            have HMK : Hid (∀ w1 : World, Farm w w1 L E 1 8 8 40 100 s' σ q nx gen ls → Calls Tryz.prog 14 #[.agg #[.int .i64 ((1 : Nat) : Int), .int .i64 ((8 : Nat) : Int), .int .i64 ((8 : Nat) : Int), .int .i64 ((40 : Nat) : Int), .int .i64 100, .int .i64 600, .int .i64 3, .pointer (some ⟨L.p, 0, none⟩), .int .i64 0], .int .u64 (packH rc.x rc.g), .bool (A.own r)] w1 fun e w' => ∃ (st : Int) (s' : Mm) (σ' : Nat), e = .returned (.agg #[.int .i64 E0, .int .u64 0, .int .i64 0, .int .i64 st]) ∧ σ' ≤ σ + 40 ∧ Farm w w' L E 1 8 8 40 100 s' σ' q' nx gen' ls' ∧ Only L.has w1 w') := mk
            have Sc := S.grown (grow1 _ (.cells #[.int .i64 (A.kind r), .int .i64 (A.at_ r), .int .i64 (A.size r), .bool (A.own r)] 35))
            have hAc := (At.new wr 35 [.int .i64 (A.kind r), .int .i64 (A.at_ r), .int .i64 (A.size r), .bool (A.own r)]).at0 3 rfl
            have hAlt : b1 < wr.heap.size ∧ b2 < wr.heap.size ∧ b3 < wr.heap.size ∧ b4 < wr.heap.size ∧ E < wr.heap.size ∧ w.heap.size ≤ wr.heap.size := ⟨S.r1.lt, S.r2.lt, S.r3.lt, S.r4.lt, S.f.ltE, S.f.b.size⟩
            have hLA : ¬ L.has wr.heap.size := fun hh => by have := S.f.mm.lt _ hh; omega
            clear S B hk0 hk1 hk2 hk3 fate mk hrc
            go_wp2
            obtain ⟨Aa, hAa⟩ : ∃ D, wr.heap.size = D := ⟨_, rfl⟩
            rw [hAa] at hAlt hLA hAc ⊢
            refine wp_over (fun W => Shed w W L E s' σ q nx gen ls rs b1 c1 b2 c2 b3 c3 b4 c4 ∧ W.cell? ⟨Aa, 3, none⟩ = some (.bool (A.own r))) ⟨Sc, hAc⟩ ?_
            clear Sc hAc
            rintro W ⟨c, hA⟩
            have hAW : Aa < W.heap.size := World.block_lt_of_cell? W _ hA
            obtain ⟨Sz, hSz⟩ : ∃ Sz, W.heap.size = Sz := ⟨_, rfl⟩
            have hLS : ∀ i, L.has i → i < Sz := fun i hi => by have := c.f.mm.lt i hi; omega
            have hLE := FA.out.e
            have hcH : W.cell? ⟨b1, K, none⟩ = some (.int .u64 (packH rc.x rc.g)) := c.r1.cell (by rw [List.getElem?_map, HRC.out]; rfl)
            refine wp_region_phase_tail (Only L.has) Grown (phShed w L E s' σ q nx gen ls rs b1 c1 b2 c2 b3 c3 b4 c4 q' gen' ls') 9 [7] [.val (.agg #[.int .i64 ((1 : Nat) : Int), .int .i64 ((8 : Nat) : Int), .int .i64 ((8 : Nat) : Int), .int .i64 ((40 : Nat) : Int), .int .i64 100, .int .i64 600, .int .i64 3, .pointer (some ⟨L.p, 0, none⟩), .int .i64 0]), .val (.slice (some ⟨b1, 0, none⟩) rs.length c1), .val (.int .i64 K), .val (.pointer (some ⟨b1, K, none⟩)), .val (.int .u64 (packH rc.x rc.g)), .val (.pointer (some ⟨Aa, 3, none⟩)), .val (.bool (A.own r)), .that (fun _ v => ∃ st : Int, v = .agg #[.int .i64 E0, .int .u64 0, .int .i64 0, .int .i64 st]) (fun _ _ _ _ h => h), .that (fun w' v => ∃ X, v = .pointer (some ⟨X, 0, none⟩) ∧ Sz ≤ X ∧ At w' X 0 39 #[.int .i64 0, .int .u64 0, .int .i64 0, .int .i64 0] [.int .i64 0, .int .u64 0, .int .i64 0, .int .i64 0]) ?_]
              (by kernel_rfl) (Only.refl _) (fun _ _ _ h k => h.trans k) (fun x y h => Only.ofGrown h) (phShed_grown w L E s' σ q nx gen ls rs b1 c1 b2 c2 b3 c3 b4 c4 q' gen' ls') (c.grown ((Below.refl _ _).drew)) (by decide) (by kernel_rfl) (by kernel_rfl) (by kernel_rfl) (by kernel_rfl) (by kernel_rfl) (by kernel_rfl) (by kernel_rfl) (by kernel_rfl) ?_
            · rintro x1 y1 v hg ⟨X, hv, hb, hr⟩
              exact ⟨X, hv, hb, hr.only hg (fun hh => by have := hLS _ hh; omega)⟩
            simp only [List.take_succ_cons, List.take_zero, phaseAll, Act.put, List.setIfInBounds_toArray, List.set_cons_zero, List.set_cons_succ]
            refine ⟨?_, ?_, ?_, ?_, ?_, ?_, ?_, ?_, ?_⟩
            · intro w' hR _
              refine Or.inl ⟨rfl, ?_⟩
              have vv := (c.f.v.grown ((Below.refl _ _).drew)).only hR hLE
              have y0 := vv.c0
              have y1 := vv.c1
              have y2 := vv.c2
              have y3 := vv.c3
              have y4 := vv.c4
              have y5 := vv.c5
              have y6 := vv.c6
              have y7 := vv.c7
              have y8 := vv.c8
              go_simp
              exact ⟨Grown.refl _, by simp [Want.pred]⟩
            · intro w' hR _
              refine Or.inl ⟨rfl, ?_⟩
              go_simp
              exact ⟨Grown.refl _, by simp [Want.pred]⟩
            · intro w' hR _
              refine Or.inl ⟨rfl, ?_⟩
              go_simp
              exact ⟨Grown.refl _, by simp [Want.pred]⟩
            · intro w' hR _
              refine Or.inl ⟨rfl, ?_⟩
              have hb : (0 : Int) ≤ (K : Int) := by omega
              have hb2 : (K : Int) < (rs.length : Int) := by omega
              go_simp
              exact ⟨Grown.refl _, by simp [Want.pred]⟩
            · intro w' hR _
              refine Or.inl ⟨rfl, ?_⟩
              have q0 := hR.keep (b := b1) c.l.1 hcH
              go_simp
              exact ⟨Grown.refl _, by simp [Want.pred]⟩
            · intro w' hR _
              refine Or.inl ⟨rfl, ?_⟩
              go_simp
              exact ⟨Grown.refl _, by simp [Want.pred]⟩
            · intro w' hR _
              refine Or.inl ⟨rfl, ?_⟩
              have q0 := hR.keep (b := Aa) hLA hA
              go_simp
              exact ⟨Grown.refl _, by simp [Want.pred]⟩
            · intro w' hR _ hP
              refine Or.inl ⟨rfl, ?_⟩
              have hP' : Shed w w' L E s' σ q nx gen ls rs b1 c1 b2 c2 b3 c3 b4 c4 := hP
              go_simp
              refine (HMK.out w' hP'.f).mono ?_
              rintro e w'' ⟨st, s', σ', rfl, h1, h2, h3⟩
              exact ⟨_, rfl, ⟨h3, s', σ', h1, hP'.only h3 h2⟩, st, rfl⟩
            intro vD
            refine ⟨?_, ?_⟩
            · intro w' hR _
              refine Or.inl ⟨rfl, ?_⟩
              have hzz : Sz ≤ w'.heap.size := by have := hR.size; have e : W.drew.heap.size = W.heap.size := rfl; omega
              have qq := At.new w' 39 [.int .i64 0, .int .u64 0, .int .i64 0, .int .i64 0]
              go_simp
              exact ⟨grow_alloc (Below.refl _ _) _, _, rfl, hzz, qq⟩
            intro vX w8 hR hP hf
            obtain ⟨D, rfl, hDS, d8⟩ := hf.1
            obtain ⟨st, rfl⟩ := hf.2.1
            obtain ⟨s6, σ6, hσ6, c8⟩ : ∃ s' σ', σ' ≤ σ + 40 ∧ Shed w w8 L E s' σ' q' nx gen' ls' rs b1 c1 b2 c2 b3 c3 b4 c4 := hP
            have hA8 := hR.keep (b := Aa) hLA (show W.drew.cell? _ = _ from hA)
            have hLD : ¬ L.has D := fun hh => by have := hLS _ hh; omega
            have hED : E ≠ D := by have := c.f.ltE; omega
            have hwD : w.heap.size ≤ D := by have := c.f.b.size; omega
            have hAD : Aa ≠ D := by omega
            have hbD : b1 ≠ D ∧ b2 ≠ D ∧ b3 ≠ D ∧ b4 ≠ D := by have h1 := c.r1.lt; have h2 := c.r2.lt; have h3 := c.r3.lt; have h4 := c.r4.lt; omega
            have x0 := d8.at0 0 rfl
            have x1 := d8.at0 1 rfl
            have x2 := d8.at0 2 rfl
            have x3 := d8.at0 3 rfl
            have xf := d8.fz
            have c9 := (((c8.setIn hwD hED hLD hbD 0 (.int .i64 E0)).setIn hwD hED hLD hbD 1 (.int .u64 0)).setIn hwD hED hLD hbD 2 (.int .i64 0)).setIn hwD hED hLD hbD 3 (.int .i64 st)
            have d9 := (((d8.put0 0 (.int .i64 E0)).put0 1 (.int .u64 0)).put0 2 (.int .i64 0)).put0 3 (.int .i64 st)
            have hA9 := cell_other (i := 3) (v := .int .i64 st) (cell_other (i := 2) (v := .int .i64 0) (cell_other (i := 1) (v := .int .u64 0) (cell_other (i := 0) (v := .int .i64 E0) hA8 hAD) hAD) hAD) hAD
            have dE9 := d9.at0 0 rfl
            clear hR hA hf c8 d8 hLS hSz hDS HMK hcH hA8
            go_wp2
            refine wp_over (fun W => Shed w W L E s6 σ6 q' nx gen' ls' rs b1 c1 b2 c2 b3 c3 b4 c4 ∧ W.cell? ⟨Aa, 3, none⟩ = some (.bool (A.own r)) ∧ W.cell? ⟨D, 0, none⟩ = some (.int .i64 E0)) ⟨c9, hA9, dE9⟩ ?_
            clear c9 hA9 dE9 d9 x0 x1 x2 x3 xf c
            rintro W ⟨c, kAa3, kD0⟩
            have ft := HFT.out
            clear HFT
            cases ft with
            | dead hl =>
              as_aux_lemma =>
                have kb2K : W.cell? ⟨b2, K, none⟩ = some (.bool false) := c.r2.cell (by rw [List.getElem?_map, HRC.out]; show some (Value.bool rc.live) = _; rw [hl])
                have kb3K : W.cell? ⟨b3, K, none⟩ = some (.bool rc.own) := c.r3.cell (by rw [List.getElem?_map, HRC.out]; rfl)
                refine wp_region_rely Grown [.val (.pointer (some ⟨D, 0, none⟩)), .val (.int .i64 3), .val (.bool false), .val (.slice (some ⟨b2, 0, none⟩) rs.length c2), .val (.int .i64 K), .val (.pointer (some ⟨b2, K, none⟩)), .val (.bool false), .val (.bool false), .val undef, .val undef, .val undef, .val undef, .val undef, .val undef, .val undef, .val (.bool false), .val (.bool false), .val (.bool false), .val (.pointer (some ⟨D, 0, none⟩)), .val (.int .i64 3), .val (.bool true), .val (.bool true), .val (.pointer (some ⟨D, 0, none⟩)), .val (.int .i64 3), .val (.bool false), .val (.bool false), .val (.bool false)] (by kernel_rfl) Grown.refl Grown.trans (by kernel_rfl) (by kernel_rfl) (by kernel_rfl) ?_
                simp only [relyAll, Act.put, List.setIfInBounds_toArray, List.set_cons_zero, List.set_cons_succ]
                refine ⟨?_, ?_, ?_, ?_, ?_, ?_, ?_, ?_, ?_, ?_, ?_, ?_, ?_, ?_, ?_, ?_, ?_, ?_, ?_, ?_, ?_, ?_, ?_, ?_, ?_, ?_, ?_, ?_⟩
                · intro w' hg _
                  refine Or.inl ⟨rfl, ?_⟩
                  go_simp
                  exact ⟨Grown.refl _, by simp [Want.pred]⟩
                · intro w' hg _
                  refine Or.inl ⟨rfl, ?_⟩
                  have z := keep' hg (show W.drew.cell? ⟨D, 0, none⟩ = some (.int .i64 3) from kD0)
                  go_simp
                  exact ⟨Grown.refl _, by simp [Want.pred]⟩
                · intro w' hg _
                  refine Or.inl ⟨rfl, ?_⟩
                  go_simp
                  exact ⟨Grown.refl _, by simp [Want.pred]⟩
                · intro w' hg _
                  refine Or.inl ⟨rfl, ?_⟩
                  go_simp
                  exact ⟨Grown.refl _, by simp [Want.pred]⟩
                · intro w' hg _
                  refine Or.inl ⟨rfl, ?_⟩
                  go_simp
                  exact ⟨Grown.refl _, by simp [Want.pred]⟩
                · intro w' hg _
                  refine Or.inl ⟨rfl, ?_⟩
                  have hb : (0 : Int) ≤ (K : Int) := by omega
                  have hb2 : (K : Int) < (rs.length : Int) := by omega
                  go_simp
                  exact ⟨Grown.refl _, by simp [Want.pred]⟩
                · intro w' hg _
                  refine Or.inl ⟨rfl, ?_⟩
                  have z := keep' hg (show W.drew.cell? ⟨b2, K, none⟩ = some (.bool false) from kb2K)
                  go_simp
                  exact ⟨Grown.refl _, by simp [Want.pred]⟩
                · intro w' hg _
                  refine Or.inl ⟨rfl, ?_⟩
                  go_simp
                  exact ⟨Grown.refl _, by simp [Want.pred]⟩
                · intro w' hg _
                  exact Or.inr ⟨rfl, rfl⟩
                · intro w' hg _
                  exact Or.inr ⟨rfl, rfl⟩
                · intro w' hg _
                  exact Or.inr ⟨rfl, rfl⟩
                · intro w' hg _
                  exact Or.inr ⟨rfl, rfl⟩
                · intro w' hg _
                  exact Or.inr ⟨rfl, rfl⟩
                · intro w' hg _
                  exact Or.inr ⟨rfl, rfl⟩
                · intro w' hg _
                  exact Or.inr ⟨rfl, rfl⟩
                · intro w' hg _
                  refine Or.inl ⟨rfl, ?_⟩
                  go_simp
                  exact ⟨Grown.refl _, by simp [Want.pred]⟩
                · intro w' hg _
                  refine Or.inl ⟨rfl, ?_⟩
                  go_simp
                  exact ⟨Grown.refl _, by simp [Want.pred]⟩
                · intro w' hg _
                  refine Or.inl ⟨rfl, ?_⟩
                  go_simp
                  exact ⟨Grown.refl _, by simp [Want.pred]⟩
                · intro w' hg _
                  refine Or.inl ⟨rfl, ?_⟩
                  go_simp
                  exact ⟨Grown.refl _, by simp [Want.pred]⟩
                · intro w' hg _
                  refine Or.inl ⟨rfl, ?_⟩
                  have z := keep' hg (show W.drew.cell? ⟨D, 0, none⟩ = some (.int .i64 3) from kD0)
                  go_simp
                  exact ⟨Grown.refl _, by simp [Want.pred]⟩
                · intro w' hg _
                  refine Or.inl ⟨rfl, ?_⟩
                  go_simp
                  exact ⟨Grown.refl _, by simp [Want.pred]⟩
                · intro w' hg _
                  refine Or.inl ⟨rfl, ?_⟩
                  go_simp
                  exact ⟨Grown.refl _, by simp [Want.pred]⟩
                · intro w' hg _
                  refine Or.inl ⟨rfl, ?_⟩
                  go_simp
                  exact ⟨Grown.refl _, by simp [Want.pred]⟩
                · intro w' hg _
                  refine Or.inl ⟨rfl, ?_⟩
                  have z := keep' hg (show W.drew.cell? ⟨D, 0, none⟩ = some (.int .i64 3) from kD0)
                  go_simp
                  exact ⟨Grown.refl _, by simp [Want.pred]⟩
                · intro w' hg _
                  refine Or.inl ⟨rfl, ?_⟩
                  go_simp
                  exact ⟨Grown.refl _, by simp [Want.pred]⟩
                · intro w' hg _
                  refine Or.inl ⟨rfl, ?_⟩
                  go_simp
                  exact ⟨Grown.refl _, by simp [Want.pred]⟩
                · intro w' hg _
                  refine Or.inl ⟨rfl, ?_⟩
                  go_simp
                  exact ⟨Grown.refl _, by simp [Want.pred]⟩
                intro w10 hg _
                have c10 := (c.grown ((Below.refl _ _).drew)).grown hg
                have kD := keep' hg (show W.drew.cell? ⟨D, 0, none⟩ = _ from kD0)
                clear kb2K kb3K c kD0 kAa3 hg
                go_wp2
                go_roundw
                case rel => exact ⟨r + 1, s6, σ6, q, nx, gen, ls, rs, b1, c1, b2, c2, b3, c3, b4, c4, rfl, rfl, rfl, rfl, rfl, by go_num, by omega, by omega, by omega, c10, HB.out.on⟩
                case measure => simp [intOf]; omega
            | other hl hoe =>
              as_aux_lemma =>
                have kb2K : W.cell? ⟨b2, K, none⟩ = some (.bool true) := c.r2.cell (by rw [List.getElem?_map, HRC.out]; show some (Value.bool rc.live) = _; rw [hl])
                have kb3K : W.cell? ⟨b3, K, none⟩ = some (.bool rc.own) := c.r3.cell (by rw [List.getElem?_map, HRC.out]; rfl)
                refine wp_region_rely Grown [.val (.pointer (some ⟨D, 0, none⟩)), .val (.int .i64 3), .val (.bool false), .val (.slice (some ⟨b2, 0, none⟩) rs.length c2), .val (.int .i64 K), .val (.pointer (some ⟨b2, K, none⟩)), .val (.bool true), .val (.bool true), .val (.slice (some ⟨b3, 0, none⟩) rs.length c3), .val (.int .i64 K), .val (.pointer (some ⟨b3, K, none⟩)), .val (.bool rc.own), .val (.pointer (some ⟨Aa, 3, none⟩)), .val (.bool (A.own r)), .val (.bool false), .val (.bool false), .val (.bool false), .val (.bool false), .val (.pointer (some ⟨D, 0, none⟩)), .val (.int .i64 3), .val (.bool true), .val (.bool true), .val (.pointer (some ⟨D, 0, none⟩)), .val (.int .i64 3), .val (.bool false), .val (.bool false), .val (.bool false)] (by kernel_rfl) Grown.refl Grown.trans (by kernel_rfl) (by kernel_rfl) (by kernel_rfl) ?_
                simp only [relyAll, Act.put, List.setIfInBounds_toArray, List.set_cons_zero, List.set_cons_succ]
                refine ⟨?_, ?_, ?_, ?_, ?_, ?_, ?_, ?_, ?_, ?_, ?_, ?_, ?_, ?_, ?_, ?_, ?_, ?_, ?_, ?_, ?_, ?_, ?_, ?_, ?_, ?_, ?_, ?_⟩
                · intro w' hg _
                  refine Or.inl ⟨rfl, ?_⟩
                  go_simp
                  exact ⟨Grown.refl _, by simp [Want.pred]⟩
                · intro w' hg _
                  refine Or.inl ⟨rfl, ?_⟩
                  have z := keep' hg (show W.drew.cell? ⟨D, 0, none⟩ = some (.int .i64 3) from kD0)
                  go_simp
                  exact ⟨Grown.refl _, by simp [Want.pred]⟩
                · intro w' hg _
                  refine Or.inl ⟨rfl, ?_⟩
                  go_simp
                  exact ⟨Grown.refl _, by simp [Want.pred]⟩
                · intro w' hg _
                  refine Or.inl ⟨rfl, ?_⟩
                  go_simp
                  exact ⟨Grown.refl _, by simp [Want.pred]⟩
                · intro w' hg _
                  refine Or.inl ⟨rfl, ?_⟩
                  go_simp
                  exact ⟨Grown.refl _, by simp [Want.pred]⟩
                · intro w' hg _
                  refine Or.inl ⟨rfl, ?_⟩
                  have hb : (0 : Int) ≤ (K : Int) := by omega
                  have hb2 : (K : Int) < (rs.length : Int) := by omega
                  go_simp
                  exact ⟨Grown.refl _, by simp [Want.pred]⟩
                · intro w' hg _
                  refine Or.inl ⟨rfl, ?_⟩
                  have z := keep' hg (show W.drew.cell? ⟨b2, K, none⟩ = some (.bool true) from kb2K)
                  go_simp
                  exact ⟨Grown.refl _, by simp [Want.pred]⟩
                · intro w' hg _
                  refine Or.inl ⟨rfl, ?_⟩
                  go_simp
                  exact ⟨Grown.refl _, by simp [Want.pred]⟩
                · intro w' hg _
                  refine Or.inl ⟨rfl, ?_⟩
                  go_simp
                  exact ⟨Grown.refl _, by simp [Want.pred]⟩
                · intro w' hg _
                  refine Or.inl ⟨rfl, ?_⟩
                  go_simp
                  exact ⟨Grown.refl _, by simp [Want.pred]⟩
                · intro w' hg _
                  refine Or.inl ⟨rfl, ?_⟩
                  have hb : (0 : Int) ≤ (K : Int) := by omega
                  have hb2 : (K : Int) < (rs.length : Int) := by omega
                  go_simp
                  exact ⟨Grown.refl _, by simp [Want.pred]⟩
                · intro w' hg _
                  refine Or.inl ⟨rfl, ?_⟩
                  have z := keep' hg (show W.drew.cell? ⟨b3, K, none⟩ = some (.bool rc.own) from kb3K)
                  go_simp
                  exact ⟨Grown.refl _, by simp [Want.pred]⟩
                · intro w' hg _
                  refine Or.inl ⟨rfl, ?_⟩
                  go_simp
                  exact ⟨Grown.refl _, by simp [Want.pred]⟩
                · intro w' hg _
                  refine Or.inl ⟨rfl, ?_⟩
                  have z := keep' hg (show W.drew.cell? ⟨Aa, 3, none⟩ = some (.bool (A.own r)) from kAa3)
                  go_simp
                  exact ⟨Grown.refl _, by simp [Want.pred]⟩
                · intro w' hg _
                  refine Or.inl ⟨rfl, ?_⟩
                  go_simp
                  exact ⟨Grown.refl _, by simp [Want.pred]⟩
                · intro w' hg _
                  refine Or.inl ⟨rfl, ?_⟩
                  go_simp
                  exact ⟨Grown.refl _, by simp [Want.pred]⟩
                · intro w' hg _
                  refine Or.inl ⟨rfl, ?_⟩
                  go_simp
                  exact ⟨Grown.refl _, by simp [Want.pred]⟩
                · intro w' hg _
                  refine Or.inl ⟨rfl, ?_⟩
                  go_simp
                  exact ⟨Grown.refl _, by simp [Want.pred]⟩
                · intro w' hg _
                  refine Or.inl ⟨rfl, ?_⟩
                  go_simp
                  exact ⟨Grown.refl _, by simp [Want.pred]⟩
                · intro w' hg _
                  refine Or.inl ⟨rfl, ?_⟩
                  have z := keep' hg (show W.drew.cell? ⟨D, 0, none⟩ = some (.int .i64 3) from kD0)
                  go_simp
                  exact ⟨Grown.refl _, by simp [Want.pred]⟩
                · intro w' hg _
                  refine Or.inl ⟨rfl, ?_⟩
                  go_simp
                  exact ⟨Grown.refl _, by simp [Want.pred]⟩
                · intro w' hg _
                  refine Or.inl ⟨rfl, ?_⟩
                  go_simp
                  exact ⟨Grown.refl _, by simp [Want.pred]⟩
                · intro w' hg _
                  refine Or.inl ⟨rfl, ?_⟩
                  go_simp
                  exact ⟨Grown.refl _, by simp [Want.pred]⟩
                · intro w' hg _
                  refine Or.inl ⟨rfl, ?_⟩
                  have z := keep' hg (show W.drew.cell? ⟨D, 0, none⟩ = some (.int .i64 3) from kD0)
                  go_simp
                  exact ⟨Grown.refl _, by simp [Want.pred]⟩
                · intro w' hg _
                  refine Or.inl ⟨rfl, ?_⟩
                  go_simp
                  exact ⟨Grown.refl _, by simp [Want.pred]⟩
                · intro w' hg _
                  refine Or.inl ⟨rfl, ?_⟩
                  go_simp
                  exact ⟨Grown.refl _, by simp [Want.pred]⟩
                · intro w' hg _
                  refine Or.inl ⟨rfl, ?_⟩
                  go_simp
                  exact ⟨Grown.refl _, by simp [Want.pred]⟩
                intro w10 hg _
                have c10 := (c.grown ((Below.refl _ _).drew)).grown hg
                have kD := keep' hg (show W.drew.cell? ⟨D, 0, none⟩ = _ from kD0)
                clear kb2K kb3K c kD0 kAa3 hg
                go_wp2
                go_roundw
                case rel => exact ⟨r + 1, s6, σ6, q, nx, gen, ls, rs, b1, c1, b2, c2, b3, c3, b4, c4, rfl, rfl, rfl, rfl, rfl, by go_num, by omega, by omega, by omega, c10, HB.out.on⟩
                case measure => simp [intOf]; omega
            | gone l1 o l2 e hx hg9 hz hl ho =>
              have hoe : (rc.own == A.own r) = true := by simp [ho]
              as_aux_lemma =>
                have kb2K : W.cell? ⟨b2, K, none⟩ = some (.bool true) := c.r2.cell (by rw [List.getElem?_map, HRC.out]; show some (Value.bool rc.live) = _; rw [hl])
                have kb3K : W.cell? ⟨b3, K, none⟩ = some (.bool rc.own) := c.r3.cell (by rw [List.getElem?_map, HRC.out]; rfl)
                refine wp_region_rely Grown [.val (.pointer (some ⟨D, 0, none⟩)), .val (.int .i64 0), .val (.bool true), .val (.slice (some ⟨b2, 0, none⟩) rs.length c2), .val (.int .i64 K), .val (.pointer (some ⟨b2, K, none⟩)), .val (.bool true), .val (.bool true), .val (.slice (some ⟨b3, 0, none⟩) rs.length c3), .val (.int .i64 K), .val (.pointer (some ⟨b3, K, none⟩)), .val (.bool rc.own), .val (.pointer (some ⟨Aa, 3, none⟩)), .val (.bool (A.own r)), .val (.bool true), .val (.bool true), .val (.bool false), .val (.bool false), .val (.pointer (some ⟨D, 0, none⟩)), .val (.int .i64 0), .val (.bool false), .val (.bool false), .val undef, .val undef, .val undef, .val (.bool false), .val (.bool false)] (by kernel_rfl) Grown.refl Grown.trans (by kernel_rfl) (by kernel_rfl) (by kernel_rfl) ?_
                simp only [relyAll, Act.put, List.setIfInBounds_toArray, List.set_cons_zero, List.set_cons_succ]
                refine ⟨?_, ?_, ?_, ?_, ?_, ?_, ?_, ?_, ?_, ?_, ?_, ?_, ?_, ?_, ?_, ?_, ?_, ?_, ?_, ?_, ?_, ?_, ?_, ?_, ?_, ?_, ?_, ?_⟩
                · intro w' hg _
                  refine Or.inl ⟨rfl, ?_⟩
                  go_simp
                  exact ⟨Grown.refl _, by simp [Want.pred]⟩
                · intro w' hg _
                  refine Or.inl ⟨rfl, ?_⟩
                  have z := keep' hg (show W.drew.cell? ⟨D, 0, none⟩ = some (.int .i64 0) from kD0)
                  go_simp
                  exact ⟨Grown.refl _, by simp [Want.pred]⟩
                · intro w' hg _
                  refine Or.inl ⟨rfl, ?_⟩
                  go_simp
                  exact ⟨Grown.refl _, by simp [Want.pred]⟩
                · intro w' hg _
                  refine Or.inl ⟨rfl, ?_⟩
                  go_simp
                  exact ⟨Grown.refl _, by simp [Want.pred]⟩
                · intro w' hg _
                  refine Or.inl ⟨rfl, ?_⟩
                  go_simp
                  exact ⟨Grown.refl _, by simp [Want.pred]⟩
                · intro w' hg _
                  refine Or.inl ⟨rfl, ?_⟩
                  have hb : (0 : Int) ≤ (K : Int) := by omega
                  have hb2 : (K : Int) < (rs.length : Int) := by omega
                  go_simp
                  exact ⟨Grown.refl _, by simp [Want.pred]⟩
                · intro w' hg _
                  refine Or.inl ⟨rfl, ?_⟩
                  have z := keep' hg (show W.drew.cell? ⟨b2, K, none⟩ = some (.bool true) from kb2K)
                  go_simp
                  exact ⟨Grown.refl _, by simp [Want.pred]⟩
                · intro w' hg _
                  refine Or.inl ⟨rfl, ?_⟩
                  go_simp
                  exact ⟨Grown.refl _, by simp [Want.pred]⟩
                · intro w' hg _
                  refine Or.inl ⟨rfl, ?_⟩
                  go_simp
                  exact ⟨Grown.refl _, by simp [Want.pred]⟩
                · intro w' hg _
                  refine Or.inl ⟨rfl, ?_⟩
                  go_simp
                  exact ⟨Grown.refl _, by simp [Want.pred]⟩
                · intro w' hg _
                  refine Or.inl ⟨rfl, ?_⟩
                  have hb : (0 : Int) ≤ (K : Int) := by omega
                  have hb2 : (K : Int) < (rs.length : Int) := by omega
                  go_simp
                  exact ⟨Grown.refl _, by simp [Want.pred]⟩
                · intro w' hg _
                  refine Or.inl ⟨rfl, ?_⟩
                  have z := keep' hg (show W.drew.cell? ⟨b3, K, none⟩ = some (.bool rc.own) from kb3K)
                  go_simp
                  exact ⟨Grown.refl _, by simp [Want.pred]⟩
                · intro w' hg _
                  refine Or.inl ⟨rfl, ?_⟩
                  go_simp
                  exact ⟨Grown.refl _, by simp [Want.pred]⟩
                · intro w' hg _
                  refine Or.inl ⟨rfl, ?_⟩
                  have z := keep' hg (show W.drew.cell? ⟨Aa, 3, none⟩ = some (.bool (A.own r)) from kAa3)
                  go_simp
                  exact ⟨Grown.refl _, by simp [Want.pred]⟩
                · intro w' hg _
                  refine Or.inl ⟨rfl, ?_⟩
                  go_simp
                  exact ⟨Grown.refl _, by simp [Want.pred]⟩
                · intro w' hg _
                  refine Or.inl ⟨rfl, ?_⟩
                  go_simp
                  exact ⟨Grown.refl _, by simp [Want.pred]⟩
                · intro w' hg _
                  refine Or.inl ⟨rfl, ?_⟩
                  go_simp
                  exact ⟨Grown.refl _, by simp [Want.pred]⟩
                · intro w' hg _
                  refine Or.inl ⟨rfl, ?_⟩
                  go_simp
                  exact ⟨Grown.refl _, by simp [Want.pred]⟩
                · intro w' hg _
                  refine Or.inl ⟨rfl, ?_⟩
                  go_simp
                  exact ⟨Grown.refl _, by simp [Want.pred]⟩
                · intro w' hg _
                  refine Or.inl ⟨rfl, ?_⟩
                  have z := keep' hg (show W.drew.cell? ⟨D, 0, none⟩ = some (.int .i64 0) from kD0)
                  go_simp
                  exact ⟨Grown.refl _, by simp [Want.pred]⟩
                · intro w' hg _
                  refine Or.inl ⟨rfl, ?_⟩
                  go_simp
                  exact ⟨Grown.refl _, by simp [Want.pred]⟩
                · intro w' hg _
                  refine Or.inl ⟨rfl, ?_⟩
                  go_simp
                  exact ⟨Grown.refl _, by simp [Want.pred]⟩
                · intro w' hg _
                  exact Or.inr ⟨rfl, rfl⟩
                · intro w' hg _
                  exact Or.inr ⟨rfl, rfl⟩
                · intro w' hg _
                  exact Or.inr ⟨rfl, rfl⟩
                · intro w' hg _
                  refine Or.inl ⟨rfl, ?_⟩
                  go_simp
                  exact ⟨Grown.refl _, by simp [Want.pred]⟩
                · intro w' hg _
                  refine Or.inl ⟨rfl, ?_⟩
                  go_simp
                  exact ⟨Grown.refl _, by simp [Want.pred]⟩
                intro w10 hg _
                have c10 := (c.grown ((Below.refl _ _).drew)).grown hg
                have kD := keep' hg (show W.drew.cell? ⟨D, 0, none⟩ = _ from kD0)
                clear kb2K kb3K c kD0 kAa3 hg
                have hlr := hl
                subst e
                have ok9 := HS.out.f.tm.ok o (by simp)
                obtain ⟨hpw, ct, hct, hpt⟩ := c10.f.after ok9.x1
                have hσn := hσ
                have dd := c10.dies HRC.out
                have HDD : Hid (Shed w (w10.setCell ⟨b2, K, none⟩ (.bool false)) L E s6 σ6 (q.gone 100 o.x (q.sw o.x) o.Z o.i) nx (upd gen o.x (o.g + 1)) (l1 ++ l2) (rs.set K { rc with live := false }) b1 c1 b2 c2 b3 c3 b4 c4) := dd
                have kl := c10.r2.cell (i := K) (x := .bool true) (by rw [List.getElem?_map, HRC.out]; show some (Value.bool rc.live) = _; rw [hl])
                have kf := c10.r2.fz K
                have kz := dd.r4.cell (i := K) (x := .int .i64 rc.Z) (by rw [List.getElem?_map, List.getElem?_set_self hK]; rfl)
                have km := dd.r1.cell (i := K) (x := .int .u64 (packH rc.x rc.g)) (by rw [List.getElem?_map, List.getElem?_set_self hK]; rfl)
                have hcl : Hid (classOf (rc.Z : Nat) = (o.κ : Nat)) := by rw [← hz]; exact ok9.kz
                have hk4 := ok9.k4
                have hrm := room17 o.κ
                have htm := tot_mid l1 o l2
                obtain ⟨rm, hrmE⟩ : ∃ rm, room o.κ = rm := ⟨_, rfl⟩
                obtain ⟨T0, hT0⟩ : ∃ T, tot (l1 ++ o :: l2) = T := ⟨_, rfl⟩
                obtain ⟨T1, hT1⟩ : ∃ T, tot (l1 ++ l2) = T := ⟨_, rfl⟩
                have hx1 := rg.1
                have hh := handIs (x := rc.x) (G := rc.g) (by omega) rg.2.1 rg.2.2.1
                have HH : Hid (HandIs (packH rc.x rc.g) rc.x rc.g) := hh
                rw [hT0] at htot ⊢
                rw [hT0, hT1, hrmE] at htm
                have htm' : Hid (T0 = rm + T1) := htm
                have htm2 : (rm : Int) ≤ (T0 : Int) := by omega
                have hT0b : T0 ≤ 1020 := by omega
                clear dd htm hh
                go_wp2_with (first
                  | (go_at_call 13; refine (lclass_of hcl.out _).mono ?_; rintro e w11 ⟨rfl, rfl⟩)
                  | (go_at_call 12; refine (lroom_w o.κ hk4 _).mono ?_; rintro e w12 ⟨rfl, rfl⟩)
                  | (go_at_call 15; refine (HH.out.call _).mono ?_; rintro e w13 ⟨rfl, b13⟩))
                have S13 := (HDD.out.grown b13).grown (grow1 _ (.cells #[.int .i64 rc.x, .int .i64 rc.g] 44))
                have n13 := At.new w13 44 [.int .i64 rc.x, .int .i64 rc.g]
                have hHlt : b1 < w13.heap.size ∧ b2 < w13.heap.size ∧ b3 < w13.heap.size ∧ b4 < w13.heap.size ∧ E < w13.heap.size ∧ w.heap.size ≤ w13.heap.size := by have q := HDD.out.grown b13; exact ⟨q.r1.lt, q.r2.lt, q.r3.lt, q.r4.lt, q.f.ltE, q.f.b.size⟩
                obtain ⟨Hh, hHh⟩ : ∃ D, w13.heap.size = D := ⟨_, rfl⟩
                rw [hHh] at hHlt n13 ⊢
                refine wp_over (fun W => Shed w W L E s6 σ6 (q.gone 100 o.x (q.sw o.x) o.Z o.i) nx (upd gen o.x (o.g + 1)) (l1 ++ l2) (rs.set K { rc with live := false }) b1 c1 b2 c2 b3 c3 b4 c4 ∧ At W Hh 0 44 _ [.int .i64 rc.x, .int .i64 rc.g]) ⟨S13, n13⟩ ?_
                clear S13 n13 HDD kl kf kz km c10 kD b13 hHh
                rintro W ⟨c, qh⟩
                have m1 := c.f.mm
                have v1 := c.f.v
                have hxe : o.x = rc.x := hx
                rw [hx, hg9] at hpw
                obtain ⟨G1, hG1⟩ : ∃ G : Nat, rc.g + 1 = G := ⟨_, rfl⟩
                rw [hG1] at hpw
                have hgb : rc.g ≤ 61 := by have := HB.out.gb o.x; have h2 := HS.out.f.tm.gn o (by simp); omega
                obtain ⟨wv, IS⟩ := slotFree (G := G1) (by omega)
                obtain ⟨v, hv⟩ : ∃ v, packS 0 0 (G1 : Int) 0 = v := ⟨_, rfl⟩
                rw [hv] at hpw wv IS
                have HV : Hid (s6.wd (6 + 1 + rc.x * 2) = v) := hpw
                have hpk : 6 + 1 + rc.x * 2 < s6.n := by have := c.f.tw.len; unfold arenaLen at this; omega
                have hpk1 : 1 < s6.n := by omega
                rw [hx] at hpt
                have HPT : Hid (s6.wd 1 = topw (rc.x + 1) ct) := hpt
                clear hpw hpt hv
                obtain ⟨Sz, hSz⟩ : ∃ Sz, W.heap.size = Sz := ⟨_, rfl⟩
                refine wp_region_rely_tail Grown 10 [.val (.pointer (some ⟨E, 7, none⟩)), .val (.pointer (some ⟨L.p, 0, none⟩)), .val (.pointer (some ⟨E, 0, none⟩)), .val (.agg #[.int .i64 ((1 : Nat) : Int), .int .i64 ((8 : Nat) : Int), .int .i64 ((8 : Nat) : Int), .int .i64 ((40 : Nat) : Int), .int .i64 100, .int .i64 600, .int .i64 3]), .val (.pointer (some ⟨Hh, 0, none⟩)), .val (.int .i64 rc.x), .val (.int .i64 ((6 + 1 + rc.x * 2 : Nat) : Int)), .val (.int .u64 v), .val (.agg #[.int .i64 0, .int .i64 0, .int .i64 (G1 : Int), .int .i64 0]), .that (fun w' v => ∃ X, v = .pointer (some ⟨X, 0, none⟩) ∧ Sz ≤ X ∧ At w' X 0 48 #[.int .i64 0, .int .i64 0, .int .i64 0, .int .i64 0] [.int .i64 0, .int .i64 0, .int .i64 0, .int .i64 0]) ?_] (by kernel_rfl) Grown.refl Grown.trans (by decide) (by kernel_rfl) (by kernel_rfl) (by kernel_rfl) (by kernel_rfl) (by kernel_rfl) (by kernel_rfl) ?_
                · rintro x1 y1 v hg ⟨X, hv, hb, hr⟩
                  exact ⟨X, hv, hb, hr.grown hg⟩
                simp only [List.take_succ_cons, List.take_zero, relyAll, Act.put, List.setIfInBounds_toArray, List.set_cons_zero, List.set_cons_succ]
                refine ⟨?_, ?_, ?_, ?_, ?_, ?_, ?_, ?_, ?_, ?_, ?_⟩
                · intro w' hg _
                  refine Or.inl ⟨rfl, ?_⟩
                  go_simp
                  exact ⟨Grown.refl _, rfl⟩
                · intro w' hg _
                  refine Or.inl ⟨rfl, ?_⟩
                  have vv := (v1.grown ((Below.refl _ _).drew)).grown hg
                  have y0 := vv.c0
                  have y1 := vv.c1
                  have y2 := vv.c2
                  have y3 := vv.c3
                  have y4 := vv.c4
                  have y5 := vv.c5
                  have y6 := vv.c6
                  have y7 := vv.c7
                  have y8 := vv.c8
                  go_simp
                  exact ⟨Grown.refl _, rfl⟩
                · intro w' hg _
                  refine Or.inl ⟨rfl, ?_⟩
                  go_simp
                  exact ⟨Grown.refl _, rfl⟩
                · intro w' hg _
                  refine Or.inl ⟨rfl, ?_⟩
                  have vv := (v1.grown ((Below.refl _ _).drew)).grown hg
                  have y0 := vv.c0
                  have y1 := vv.c1
                  have y2 := vv.c2
                  have y3 := vv.c3
                  have y4 := vv.c4
                  have y5 := vv.c5
                  have y6 := vv.c6
                  have y7 := vv.c7
                  have y8 := vv.c8
                  go_simp
                  exact ⟨Grown.refl _, rfl⟩
                · intro w' hg _
                  refine Or.inl ⟨rfl, ?_⟩
                  go_simp
                  exact ⟨Grown.refl _, rfl⟩
                · intro w' hg _
                  refine Or.inl ⟨rfl, ?_⟩
                  have z := (qh.drew.grown hg).at0 0 rfl
                  go_simp
                  exact ⟨Grown.refl _, rfl⟩
                · intro w' hg _
                  refine Or.inl ⟨rfl, ?_⟩
                  go_simp
                  refine (lslot_any _ _ _ _ _ _ _ (rc.x : Int) _ FA.out.g.arena (by omega) (by omega)).mono ?_
                  rintro e w'' ⟨rfl, b9⟩
                  exact ⟨_, rfl, b9, congrArg (Value.int .i64) (by omega)⟩
                · intro w' hg _
                  refine Or.inl ⟨rfl, ?_⟩
                  go_simp
                  refine (peek_is (m1.drew.below hg) (6 + 1 + rc.x * 2) hpk v HV.out).mono ?_
                  rintro e w'' ⟨rfl, rfl⟩
                  exact ⟨_, rfl, Grown.refl _, rfl⟩
                · intro w' hg _
                  refine Or.inl ⟨rfl, ?_⟩
                  go_simp
                  refine (IS.call _).mono ?_
                  rintro e w'' ⟨rfl, b9⟩
                  exact ⟨_, rfl, b9, rfl⟩
                · intro w' hg _
                  refine Or.inl ⟨rfl, ?_⟩
                  have hz : Sz ≤ w'.heap.size := by have := hg.size; have e : W.drew.heap.size = W.heap.size := rfl; omega
                  have q := At.new w' 48 [.int .i64 0, .int .i64 0, .int .i64 0, .int .i64 0]
                  go_simp
                  exact ⟨grow_alloc (Below.refl _ _) _, _, rfl, hz, q⟩
                intro vX w8 hg hf
                obtain ⟨S, rfl, hXS, q8⟩ := hf.1
                have q0 := q8.at0 0 rfl
                have q1 := q8.at0 1 rfl
                have q2 := q8.at0 2 rfl
                have q3 := q8.at0 3 rfl
                have qf := q8.fz
                have hHS : Hh < Sz := by have := qh.lt; omega
                have hLS : ¬ L.has S := fun hh => by have := m1.lt _ hh; omega
                have hES : E ≠ S := by omega
                have hwS : w.heap.size ≤ S := by omega
                have hbS : b1 ≠ S ∧ b2 ≠ S ∧ b3 ≠ S ∧ b4 ≠ S := by omega
                have c9 := ((((((c.grown ((Below.refl _ _).drew)).grown hg).setIn hwS hES hLS hbS 0 (.int .i64 0)).setIn hwS hES hLS hbS 1 (.int .i64 0)).setIn hwS hES hLS hbS 2 (.int .i64 (G1 : Int))).setIn hwS hES hLS hbS 3 (.int .i64 0))
                have s9 := ((((q8.put0 0 (.int .i64 0)).put0 1 (.int .i64 0)).put0 2 (.int .i64 (G1 : Int))).put0 3 (.int .i64 0))
                have qh9 := (((((qh.drew.grown hg).other (k := S) (by omega) 0 (.int .i64 0)).other (k := S) (by omega) 1 (.int .i64 0)).other (k := S) (by omega) 2 (.int .i64 (G1 : Int))).other (k := S) (by omega) 3 (.int .i64 0))
                clear hf hg hXS hSz c m1 v1 HV qh
                go_wp2
                refine wp_over (fun W => Shed w W L E s6 σ6 (q.gone 100 o.x (q.sw o.x) o.Z o.i) nx (upd gen o.x (o.g + 1)) (l1 ++ l2) (rs.set K { rc with live := false }) b1 c1 b2 c2 b3 c3 b4 c4 ∧ At W Hh 0 44 _ [.int .i64 rc.x, .int .i64 rc.g] ∧ At W S 0 48 _ [.int .i64 0, .int .i64 0, .int .i64 G1, .int .i64 0]) ⟨c9, qh9, s9⟩ ?_
                clear c9 qh9 s9 q0 q1 q2 q3 qf q8
                rintro W ⟨c, qh, qs⟩
                have m1 := c.f.mm
                have v1 := c.f.v
                refine wp_region_rely Grown [.val (.pointer (some ⟨E, 7, none⟩)), .val (.pointer (some ⟨L.p, 0, none⟩)), .val (.int .i64 ((1 : Nat) : Int)), .val (.int .u64 (topw (rc.x + 1) ct)), .val (.tuple #[.int .i64 rc.x, .int .i64 ct]), .val (.tuple #[.int .i64 rc.x, .int .i64 ct]), .val (.int .i64 rc.x), .val (.int .i64 ct), .val (.int .i64 rc.x), .val (.int .i64 ct)] (by kernel_rfl) Grown.refl Grown.trans (by kernel_rfl) (by kernel_rfl) (by kernel_rfl) ?_
                simp only [relyAll, Act.put, List.setIfInBounds_toArray, List.set_cons_zero, List.set_cons_succ]
                refine ⟨?_, ?_, ?_, ?_, ?_, ?_, ?_, ?_, ?_, ?_, ?_⟩
                · intro w' hg _
                  refine Or.inl ⟨rfl, ?_⟩
                  go_simp
                  exact ⟨Grown.refl _, rfl⟩
                · intro w' hg _
                  refine Or.inl ⟨rfl, ?_⟩
                  have vv := (v1.grown ((Below.refl _ _).drew)).grown hg
                  have y0 := vv.c0
                  have y1 := vv.c1
                  have y2 := vv.c2
                  have y3 := vv.c3
                  have y4 := vv.c4
                  have y5 := vv.c5
                  have y6 := vv.c6
                  have y7 := vv.c7
                  have y8 := vv.c8
                  go_simp
                  exact ⟨Grown.refl _, rfl⟩
                · intro w' hg _
                  refine Or.inl ⟨rfl, ?_⟩
                  go_simp
                  refine (ltop_any _).mono ?_
                  rintro e w'' ⟨rfl, rfl⟩
                  exact ⟨_, rfl, Grown.refl _, rfl⟩
                · intro w' hg _
                  refine Or.inl ⟨rfl, ?_⟩
                  go_simp
                  refine (peek_is (m1.drew.below hg) 1 hpk1 (topw (rc.x + 1) ct) HPT.out).mono ?_
                  rintro e w'' ⟨rfl, rfl⟩
                  exact ⟨_, rfl, Grown.refl _, rfl⟩
                · intro w' hg _
                  refine Or.inl ⟨rfl, ?_⟩
                  go_simp
                  refine (top_w (rc.x + 1) ct _ (by omega) (by omega)).mono ?_
                  rintro e w'' ⟨rfl, rfl⟩
                  exact ⟨_, rfl, Grown.refl _, by simp [Want.pred]⟩
                · intro w' hg _
                  refine Or.inl ⟨rfl, ?_⟩
                  go_simp
                  exact ⟨Grown.refl _, by simp [Want.pred]⟩
                · intro w' hg _
                  refine Or.inl ⟨rfl, ?_⟩
                  go_simp
                  exact ⟨Grown.refl _, by simp [Want.pred]⟩
                · intro w' hg _
                  refine Or.inl ⟨rfl, ?_⟩
                  go_simp
                  exact ⟨Grown.refl _, by simp [Want.pred]⟩
                · intro w' hg _
                  refine Or.inl ⟨rfl, ?_⟩
                  go_simp
                  exact ⟨Grown.refl _, by simp [Want.pred]⟩
                · intro w' hg _
                  refine Or.inl ⟨rfl, ?_⟩
                  go_simp
                  exact ⟨Grown.refl _, by simp [Want.pred]⟩
                intro w14 hg _
                have c14 := (c.grown ((Below.refl _ _).drew)).grown hg
                have h0 := (qh.drew.grown hg).at0 0 rfl
                have h1 := (qh.drew.grown hg).at0 1 rfl
                have t0 := (qs.drew.grown hg).at0 0 rfl
                have t1 := (qs.drew.grown hg).at0 1 rfl
                have t2 := (qs.drew.grown hg).at0 2 rfl
                have t3 := (qs.drew.grown hg).at0 3 rfl
                have hG1' : (rc.g : Int) + 1 = (G1 : Int) := by omega
                clear hg c qh qs m1 v1
                go_wp2
                go_roundw
                case rel =>
                  refine ⟨r + 1, s6, σ6, _, nx, _, l1 ++ l2, rs.set K { rc with live := false }, b1, c1, b2, c2, b3, c3, b4, c4, by simp, by simp, by simp, by simp, congrArg (Value.int .i64) ?_, by go_num, by omega, ?_, by omega, c14, HB.out.gone HS.out.f.tm HRC.out hlr hxe hg9 rfl⟩
                  · rw [hT1]; have := htm'.out; omega
                  · rw [hT1]; have := htm'.out; omega
                case measure => simp [intOf]; omega
      · have hr60'' : ¬ (r : Int) < 60 := by omega
        as_aux_lemma =>
          have hsum := sum_live 8 ls (fun o ho => (S.f.tm.ok o ho).ik)
          have hlv : ∀ i, i < 8 → s'.wd (6 + 1 + 8 * 2 + i * 3 + 1) = (liveIn i ls : Int) := fun i hi => by rw [S.f.tw.lvv i hi, S.f.tm.lv i hi]
          have hle : ∀ j, j ≤ 8 → sumTo (fun i => liveIn i ls) j ≤ tot ls := fun j hj => by
            rw [← hsum]
            exact sumTo_mono _ hj
          have HSUM : Hid (sumTo (fun i => liveIn i ls) 8 = tot ls) := hsum
          have HLV : Hid (∀ i, i < 8 → s'.wd (6 + 1 + 8 * 2 + i * 3 + 1) = (liveIn i ls : Int)) := hlv
          have HLE : Hid (∀ j, j ≤ 8 → sumTo (fun i => liveIn i ls) j ≤ tot ls) := hle
          have HLN : Hid (s'.n = arenaLen 1 8 8 40) := S.f.tw.len
          have A3 : Hid (MemAt wr L s' ∧ BoxV wr E 1 8 8 40 100 600 3 L.p 0 ∧ Below w.heap.size w wr) := ⟨S.f.mm, S.f.v, S.f.b⟩
          have htb : tot ls ≤ 1020 := by omega
          clear S B hsum hlv hle
          go_wp2
          go_loopw [21, 22] (fun v21 v22 wr => ∃ (j : Nat), j ≤ 8 ∧ v21 = .int .i64 (sumTo (fun i => liveIn i ls) j : Nat) ∧ v22 = .int .i64 j ∧ MemAt wr L s' ∧ BoxV wr E 1 8 8 40 100 600 3 L.p 0 ∧ Below w.heap.size w wr) (fun _ v22 _ => 8 - (intOf v22).toNat)
          case atStart => exact ⟨0, by omega, rfl, rfl, A3.out.1, A3.out.2.1, A3.out.2.2⟩
          case round =>
            clear A3
            obtain ⟨j, hj8, rfl, rfl, m0, v0, b0⟩ := hrel
            by_cases hj : j < 8
            · have hj' : (j : Int) < 8 := by omega
              have z2 := v0.c2
              have h1 := HLE.out j hj8
              have h2 := HLE.out (j + 1) (by omega)
              obtain ⟨lv, hl⟩ : ∃ lv, liveIn j ls = lv := ⟨_, rfl⟩
              have h3 : sumTo (fun i => liveIn i ls) (j + 1) = sumTo (fun i => liveIn i ls) j + lv := by rw [← hl]; rfl
              obtain ⟨sj, hsj⟩ : ∃ sj, sumTo (fun i => liveIn i ls) j = sj := ⟨_, rfl⟩
              rw [hsj] at h1 h3 ⊢
              have H3 : Hid (sumTo (fun i => liveIn i ls) (j + 1) = sj + lv) := h3
              have HW : Hid (s'.wd (6 + 1 + 8 * 2 + j * 3 + 1) = (lv : Int)) := by rw [← hl]; exact HLV.out j hj
              have hpk : 6 + 1 + 8 * 2 + j * 3 + 1 < s'.n := by rw [HLN.out]; unfold arenaLen; omega
              have hlb : sj + lv ≤ 1020 := by omega
              clear h1 h2 h3 hsj hl
              go_wp2
              refine wp_over (fun W => MemAt W L s' ∧ BoxV W E 1 8 8 40 100 600 3 L.p 0 ∧ Below w.heap.size w W) ⟨m0, v0, b0⟩ ?_
              clear m0 v0 b0 z2
              rintro W ⟨m1, v1, b1⟩
              refine wp_region_rely_tail Grown 11 [.val (.int .i64 sj), .val (.pointer (some ⟨E, 7, none⟩)), .val (.pointer (some ⟨L.p, 0, none⟩)), .val (.pointer (some ⟨E, 0, none⟩)), .val (.agg #[.int .i64 ((1 : Nat) : Int), .int .i64 ((8 : Nat) : Int), .int .i64 ((8 : Nat) : Int), .int .i64 ((40 : Nat) : Int), .int .i64 100, .int .i64 600, .int .i64 3]), .val (.int .i64 j), .val (.int .i64 ((6 + 1 + 8 * 2 + j * 3 : Nat) : Int)), .val (.int .i64 ((6 + 1 + 8 * 2 + j * 3 + 1 : Nat))), .val (.int .u64 lv), .val (.int .i64 ((lv : Nat))), .val (.int .i64 (((sj + lv : Nat) : Int)))] (by kernel_rfl) Grown.refl Grown.trans (by decide) (by kernel_rfl) (by kernel_rfl) (by kernel_rfl) (by kernel_rfl) (by kernel_rfl) (by kernel_rfl) ?_
              simp only [List.take_succ_cons, List.take_zero, relyAll, Act.put, List.setIfInBounds_toArray, List.set_cons_zero, List.set_cons_succ]
              refine ⟨?_, ?_, ?_, ?_, ?_, ?_, ?_, ?_, ?_, ?_, ?_, ?_⟩
              · intro w' hg _
                refine Or.inl ⟨rfl, ?_⟩
                go_simp
                exact ⟨Grown.refl _, rfl⟩
              · intro w' hg _
                refine Or.inl ⟨rfl, ?_⟩
                go_simp
                exact ⟨Grown.refl _, rfl⟩
              · intro w' hg _
                refine Or.inl ⟨rfl, ?_⟩
                have vv := (v1.grown ((Below.refl _ _).drew)).grown hg
                have y0 := vv.c0
                have y1 := vv.c1
                have y2 := vv.c2
                have y3 := vv.c3
                have y4 := vv.c4
                have y5 := vv.c5
                have y6 := vv.c6
                have y7 := vv.c7
                have y8 := vv.c8
                go_simp
                exact ⟨Grown.refl _, rfl⟩
              · intro w' hg _
                refine Or.inl ⟨rfl, ?_⟩
                go_simp
                exact ⟨Grown.refl _, rfl⟩
              · intro w' hg _
                refine Or.inl ⟨rfl, ?_⟩
                have vv := (v1.grown ((Below.refl _ _).drew)).grown hg
                have y0 := vv.c0
                have y1 := vv.c1
                have y2 := vv.c2
                have y3 := vv.c3
                have y4 := vv.c4
                have y5 := vv.c5
                have y6 := vv.c6
                have y7 := vv.c7
                have y8 := vv.c8
                go_simp
                exact ⟨Grown.refl _, rfl⟩
              · intro w' hg _
                refine Or.inl ⟨rfl, ?_⟩
                go_simp
                exact ⟨Grown.refl _, rfl⟩
              · intro w' hg _
                refine Or.inl ⟨rfl, ?_⟩
                go_simp
                refine (lchunk_any _ _ _ _ _ _ _ (j : Int) _ FA.out.g.arena (by omega) (by omega)).mono ?_
                rintro e w'' ⟨rfl, b9⟩
                exact ⟨_, rfl, b9, congrArg (Value.int .i64) (by omega)⟩
              · intro w' hg _
                refine Or.inl ⟨rfl, ?_⟩
                go_simp
                exact ⟨Grown.refl _, congrArg (Value.int .i64) (by first | omega | (rw [IntKind.wrap_i64]; omega))⟩
              · intro w' hg _
                refine Or.inl ⟨rfl, ?_⟩
                go_simp
                refine (peek_is (m1.drew.below hg) (6 + 1 + 8 * 2 + j * 3 + 1) hpk lv HW.out).mono ?_
                rintro e w'' ⟨rfl, rfl⟩
                exact ⟨_, rfl, Grown.refl _, rfl⟩
              · intro w' hg _
                refine Or.inl ⟨rfl, ?_⟩
                go_simp
                exact ⟨Grown.refl _, congrArg (Value.int .i64) (by first | omega | (rw [IntKind.wrap_i64]; omega))⟩
              · intro w' hg _
                refine Or.inl ⟨rfl, ?_⟩
                go_simp
                exact ⟨Grown.refl _, congrArg (Value.int .i64) (by first | omega | (rw [IntKind.wrap_i64]; omega))⟩
              intro w5 hg _
              have m5 := m1.drew.below hg
              have v5 := (v1.grown ((Below.refl _ _).drew)).grown hg
              have b5 : Below w.heap.size w w5 := grow b1.drew hg
              clear hg m1 v1 b1
              go_wp2
              go_roundw
              case rel => exact ⟨j + 1, by omega, congrArg (Value.int .i64) (by rw [H3.out]; omega), by go_num, m5, v5, b5⟩
              case measure => simp [intOf]; omega
            · have hj' : ¬ (j : Int) < 8 := by omega
              obtain rfl : j = 8 := by omega
              have z2 := v0.c2
              rw [HSUM.out]
              go_wp2
              go_ret
              exact ⟨rfl, b0⟩
    · have hrN' : ¬ (r : Int) < (N : Int) := by omega
      as_aux_lemma =>
        have hsum := sum_live 8 ls (fun o ho => (S.f.tm.ok o ho).ik)
        have hlv : ∀ i, i < 8 → s'.wd (6 + 1 + 8 * 2 + i * 3 + 1) = (liveIn i ls : Int) := fun i hi => by rw [S.f.tw.lvv i hi, S.f.tm.lv i hi]
        have hle : ∀ j, j ≤ 8 → sumTo (fun i => liveIn i ls) j ≤ tot ls := fun j hj => by
          rw [← hsum]
          exact sumTo_mono _ hj
        have HSUM : Hid (sumTo (fun i => liveIn i ls) 8 = tot ls) := hsum
        have HLV : Hid (∀ i, i < 8 → s'.wd (6 + 1 + 8 * 2 + i * 3 + 1) = (liveIn i ls : Int)) := hlv
        have HLE : Hid (∀ j, j ≤ 8 → sumTo (fun i => liveIn i ls) j ≤ tot ls) := hle
        have HLN : Hid (s'.n = arenaLen 1 8 8 40) := S.f.tw.len
        have A3 : Hid (MemAt wr L s' ∧ BoxV wr E 1 8 8 40 100 600 3 L.p 0 ∧ Below w.heap.size w wr) := ⟨S.f.mm, S.f.v, S.f.b⟩
        have htb : tot ls ≤ 1020 := by omega
        clear S B hsum hlv hle
        go_wp2
        go_loopw [21, 22] (fun v21 v22 wr => ∃ (j : Nat), j ≤ 8 ∧ v21 = .int .i64 (sumTo (fun i => liveIn i ls) j : Nat) ∧ v22 = .int .i64 j ∧ MemAt wr L s' ∧ BoxV wr E 1 8 8 40 100 600 3 L.p 0 ∧ Below w.heap.size w wr) (fun _ v22 _ => 8 - (intOf v22).toNat)
        case atStart => exact ⟨0, by omega, rfl, rfl, A3.out.1, A3.out.2.1, A3.out.2.2⟩
        case round =>
          clear A3
          obtain ⟨j, hj8, rfl, rfl, m0, v0, b0⟩ := hrel
          by_cases hj : j < 8
          · have hj' : (j : Int) < 8 := by omega
            have z2 := v0.c2
            have h1 := HLE.out j hj8
            have h2 := HLE.out (j + 1) (by omega)
            obtain ⟨lv, hl⟩ : ∃ lv, liveIn j ls = lv := ⟨_, rfl⟩
            have h3 : sumTo (fun i => liveIn i ls) (j + 1) = sumTo (fun i => liveIn i ls) j + lv := by rw [← hl]; rfl
            obtain ⟨sj, hsj⟩ : ∃ sj, sumTo (fun i => liveIn i ls) j = sj := ⟨_, rfl⟩
            rw [hsj] at h1 h3 ⊢
            have H3 : Hid (sumTo (fun i => liveIn i ls) (j + 1) = sj + lv) := h3
            have HW : Hid (s'.wd (6 + 1 + 8 * 2 + j * 3 + 1) = (lv : Int)) := by rw [← hl]; exact HLV.out j hj
            have hpk : 6 + 1 + 8 * 2 + j * 3 + 1 < s'.n := by rw [HLN.out]; unfold arenaLen; omega
            have hlb : sj + lv ≤ 1020 := by omega
            clear h1 h2 h3 hsj hl
            go_wp2
            refine wp_over (fun W => MemAt W L s' ∧ BoxV W E 1 8 8 40 100 600 3 L.p 0 ∧ Below w.heap.size w W) ⟨m0, v0, b0⟩ ?_
            clear m0 v0 b0 z2
            rintro W ⟨m1, v1, b1⟩
            refine wp_region_rely_tail Grown 11 [.val (.int .i64 sj), .val (.pointer (some ⟨E, 7, none⟩)), .val (.pointer (some ⟨L.p, 0, none⟩)), .val (.pointer (some ⟨E, 0, none⟩)), .val (.agg #[.int .i64 ((1 : Nat) : Int), .int .i64 ((8 : Nat) : Int), .int .i64 ((8 : Nat) : Int), .int .i64 ((40 : Nat) : Int), .int .i64 100, .int .i64 600, .int .i64 3]), .val (.int .i64 j), .val (.int .i64 ((6 + 1 + 8 * 2 + j * 3 : Nat) : Int)), .val (.int .i64 ((6 + 1 + 8 * 2 + j * 3 + 1 : Nat))), .val (.int .u64 lv), .val (.int .i64 ((lv : Nat))), .val (.int .i64 (((sj + lv : Nat) : Int)))] (by kernel_rfl) Grown.refl Grown.trans (by decide) (by kernel_rfl) (by kernel_rfl) (by kernel_rfl) (by kernel_rfl) (by kernel_rfl) (by kernel_rfl) ?_
            simp only [List.take_succ_cons, List.take_zero, relyAll, Act.put, List.setIfInBounds_toArray, List.set_cons_zero, List.set_cons_succ]
            refine ⟨?_, ?_, ?_, ?_, ?_, ?_, ?_, ?_, ?_, ?_, ?_, ?_⟩
            · intro w' hg _
              refine Or.inl ⟨rfl, ?_⟩
              go_simp
              exact ⟨Grown.refl _, rfl⟩
            · intro w' hg _
              refine Or.inl ⟨rfl, ?_⟩
              go_simp
              exact ⟨Grown.refl _, rfl⟩
            · intro w' hg _
              refine Or.inl ⟨rfl, ?_⟩
              have vv := (v1.grown ((Below.refl _ _).drew)).grown hg
              have y0 := vv.c0
              have y1 := vv.c1
              have y2 := vv.c2
              have y3 := vv.c3
              have y4 := vv.c4
              have y5 := vv.c5
              have y6 := vv.c6
              have y7 := vv.c7
              have y8 := vv.c8
              go_simp
              exact ⟨Grown.refl _, rfl⟩
            · intro w' hg _
              refine Or.inl ⟨rfl, ?_⟩
              go_simp
              exact ⟨Grown.refl _, rfl⟩
            · intro w' hg _
              refine Or.inl ⟨rfl, ?_⟩
              have vv := (v1.grown ((Below.refl _ _).drew)).grown hg
              have y0 := vv.c0
              have y1 := vv.c1
              have y2 := vv.c2
              have y3 := vv.c3
              have y4 := vv.c4
              have y5 := vv.c5
              have y6 := vv.c6
              have y7 := vv.c7
              have y8 := vv.c8
              go_simp
              exact ⟨Grown.refl _, rfl⟩
            · intro w' hg _
              refine Or.inl ⟨rfl, ?_⟩
              go_simp
              exact ⟨Grown.refl _, rfl⟩
            · intro w' hg _
              refine Or.inl ⟨rfl, ?_⟩
              go_simp
              refine (lchunk_any _ _ _ _ _ _ _ (j : Int) _ FA.out.g.arena (by omega) (by omega)).mono ?_
              rintro e w'' ⟨rfl, b9⟩
              exact ⟨_, rfl, b9, congrArg (Value.int .i64) (by omega)⟩
            · intro w' hg _
              refine Or.inl ⟨rfl, ?_⟩
              go_simp
              exact ⟨Grown.refl _, congrArg (Value.int .i64) (by first | omega | (rw [IntKind.wrap_i64]; omega))⟩
            · intro w' hg _
              refine Or.inl ⟨rfl, ?_⟩
              go_simp
              refine (peek_is (m1.drew.below hg) (6 + 1 + 8 * 2 + j * 3 + 1) hpk lv HW.out).mono ?_
              rintro e w'' ⟨rfl, rfl⟩
              exact ⟨_, rfl, Grown.refl _, rfl⟩
            · intro w' hg _
              refine Or.inl ⟨rfl, ?_⟩
              go_simp
              exact ⟨Grown.refl _, congrArg (Value.int .i64) (by first | omega | (rw [IntKind.wrap_i64]; omega))⟩
            · intro w' hg _
              refine Or.inl ⟨rfl, ?_⟩
              go_simp
              exact ⟨Grown.refl _, congrArg (Value.int .i64) (by first | omega | (rw [IntKind.wrap_i64]; omega))⟩
            intro w5 hg _
            have m5 := m1.drew.below hg
            have v5 := (v1.grown ((Below.refl _ _).drew)).grown hg
            have b5 : Below w.heap.size w w5 := grow b1.drew hg
            clear hg m1 v1 b1
            go_wp2
            go_roundw
            case rel => exact ⟨j + 1, by omega, congrArg (Value.int .i64) (by rw [H3.out]; omega), by go_num, m5, v5, b5⟩
            case measure => simp [intOf]; omega
          · have hj' : ¬ (j : Int) < 8 := by omega
            obtain rfl : j = 8 := by omega
            have z2 := v0.c2
            rw [HSUM.out]
            go_wp2
            go_ret
            exact ⟨rfl, b0⟩

end Go.Proofs.YtbmiieaakbcncaaGreat
