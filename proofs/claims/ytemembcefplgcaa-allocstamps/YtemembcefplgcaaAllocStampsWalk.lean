/- AllocStamps answers true for every number, and leaves what was in memory. -/
import Derived.Test.YtemembcefplgcaaAllocSite
namespace Go.Proofs.Ytemembcefplgcaa
open Go.RowKit

def Al.isReady : Al → Bool
  | .ready _ _ _ _ _ => true
  | _ => false
def Al.isShw : Al → Bool
  | .shw _ _ _ _ => true
  | _ => false

section
variable {t n k m κ : Nat} {z : Int} {own : Bool} {N σ : Nat} {q q' : Q} {α α' : Al} {E H : Int} {st : Nat}

theorem runs_shw {x g a i : Nat} (r : Runs t n k m κ z own N σ q (.shw x g a i) q' (.over E H st)) : N = 2 ∧ H = packH x g ∧ st = σ + 1 := by
  cases r with
  | one ho ht h => cases ht
  | more ho ht h g =>
    cases ht
    cases g with
    | one ho ht h => cases ht; exact ⟨rfl, rfl, rfl⟩
    | more ho ht h g => cases ht; cases h

theorem runs_ready {x g a i st' : Nat} (r : Runs t n k m κ z own N σ q (.ready x g a i st') q' (.over E H st)) : N = 1 ∧ st = st' ∧ H = packH x g := by
  cases r with
  | one ho ht h => cases ht; exact ⟨rfl, rfl, rfl⟩
  | more ho ht h g => cases ht; cases h

theorem turn_other (hs : α.isShw = false) (ho : α.over? = false) (ht : alTurn t n k m κ z own σ q α = (q', α')) : q'.sw = q.sw ∧ α'.isReady = false ∧ (∀ H st, α' = .over 0 H st → α.isReady = true) := by
  cases α with
  | take τ =>
    obtain ⟨c', F', τ', e⟩ : ∃ c' F' τ', tkTurn q.c q.lk q.F τ = (c', F', τ') := ⟨_, _, _, rfl⟩
    simp only [alTurn, e] at ht
    cases τ' <;> (simp only [alTake, Prod.mk.injEq] at ht; obtain ⟨rfl, rfl⟩ := ht; exact ⟨rfl, rfl, fun _ _ h => by cases h⟩)
  | ask x =>
    simp only [alTurn, Prod.mk.injEq] at ht
    obtain ⟨rfl, rfl⟩ := ht
    exact ⟨rfl, rfl, fun _ _ h => by cases h⟩
  | place x g τ =>
    obtain ⟨y', τ', e⟩ : ∃ y' τ', turn k m κ (base t n k m) q.y τ = (y', τ') := ⟨_, _, rfl⟩
    simp only [alTurn, e] at ht
    cases τ' <;> (simp only [alPlace, Prod.mk.injEq] at ht; obtain ⟨rfl, rfl⟩ := ht; exact ⟨rfl, rfl, fun _ _ h => by cases h⟩)
  | count x g a i =>
    simp only [alTurn, Prod.mk.injEq] at ht
    obtain ⟨rfl, rfl⟩ := ht
    exact ⟨rfl, rfl, fun _ _ h => by cases h⟩
  | head x g a i =>
    simp only [alTurn, Prod.mk.injEq] at ht
    obtain ⟨rfl, rfl⟩ := ht
    exact ⟨rfl, rfl, fun _ _ h => by cases h⟩
  | shw x g a i => cases hs
  | ready x g a i st =>
    simp only [alTurn, Prod.mk.injEq] at ht
    obtain ⟨rfl, rfl⟩ := ht
    exact ⟨rfl, rfl, fun _ _ _ => rfl⟩
  | give x g γ =>
    obtain ⟨c', lk', F', γ', e⟩ : ∃ c' lk' F' γ', gvTurn q.c q.lk q.F x γ = (c', lk', F', γ') := ⟨_, _, _, _, rfl⟩
    simp only [alTurn, e] at ht
    cases γ' <;> (simp only [alGive, Prod.mk.injEq] at ht; obtain ⟨rfl, rfl⟩ := ht; exact ⟨rfl, rfl, fun _ _ h => by cases h⟩)
  | over => cases ho

end

theorem slot_st (a b c d : Value) (w : World) : (Instr.field 53 (.agg #[a, b, c, d]) 0).run Try.prog w = .ok a w := by kernel_rfl

set_option maxRecDepth 20000 in
set_option maxHeartbeats 4000000 in
theorem allocStamps_any (size : Int) (w : World) :
    Calls Try.prog 5 #[.int .i64 size] w fun e w' => e = .returned (.bool true) ∧ Below w.heap.size w w' := by
  obtain ⟨Z, hZ, hZ1, hZ16⟩ := lowAt size 15 4 1 (by decide) (by decide)
  have hZ' : (1 : Int) + bits .and .i64 size 15 = (Z : Int) := hZ
  clear hZ
  have hZ16' : Z ≤ 16 := by omega
  obtain ⟨κ, hz, hκ⟩ := class_of hZ1 hZ16'
  have fz : Fit (Z : Int) := class_fit hZ16'
  have hG : Good 1 4 4 20 100 600 3 := goodp (by omega) (by omega) (by omega) (by omega)
  have AR := fun w => arena08 (t := 1) (n := 4) (k := 4) (m := 20) hG (by omega) w
  have hls : ∀ w, Calls Try.prog 20 #[.agg #[.int .i64 1, .int .i64 4, .int .i64 4, .int .i64 20, .int .i64 100, .int .i64 600, .int .i64 3], .int .i64 0] w fun e w' => e = .returned (.int .i64 7) ∧ Below w.heap.size w w' := fun w => lslot_any 1 4 4 20 100 600 3 0 w hG.arena (by omega) (by omega)
  have hr := room_bd κ
  have g7 : Goes 4 20 κ (base 1 4 4 20) 7 Y.new .see ⟨upd Y.new.ck 0 ⟨1, κ, room κ, (Y.new.ck 0).sp + 1⟩, upd Y.new.op κ (0 + 1)⟩ (.won (base 1 4 4 20 0) 0) :=
    .more (y1 := Y.new) (τ1 := .look 0 0) rfl (by simp [turn, Y.new, adv]) rfl (goes_take (y := Y.new) (nx := 0) (by omega) rfl rfl)
  obtain ⟨q', RR⟩ : ∃ q', Runs 1 4 4 20 κ Z false 15 9 (Q.new 4) (.take .idle) q' (.over 0 65536 23) := ⟨_, runs_made' (q := Q.new 4) (x := 0) (F := [1, 2, 3]) rfl g7 gen1 packH01 (by decide) (by decide)⟩
  have HR : Hid (Runs 1 4 4 20 κ Z false 15 9 (Q.new 4) (.take .idle) q' (.over 0 65536 23)) := RR
  have HZ : Hid (classOf Z = κ) := hz
  have sst := slot_st
  clear RR g7 hz hr
  go_enter Try.func5, Try.ntmps5
  go_wp2_with (first
    | (go_at_call 8; refine (AR _).mono ?_; rintro e w1 ⟨L, s, rfl, m1, t1, b1, f1⟩; obtain ⟨c1, pa⟩ := Camp.first hG m1 t1 (calm0 1 4 4 20) b1 f1)
    | (go_at_call 9; refine (awake08_any _).mono ?_; rintro e w2 ⟨rfl, b2⟩; have c2 := c1.grown b2)
    | (go_at_call 16; refine (newAlloc_any Z false _).mono ?_; rintro e w3 ⟨rfl, rfl⟩))
  have PA : Hid (PlotApart w L w1.heap.size 1 4 4 20) := pa
  obtain ⟨E, hE⟩ : ∃ E, w1.heap.size = E := ⟨_, rfl⟩
  obtain ⟨B, hB⟩ : ∃ B, w2.heap.size = B := ⟨_, rfl⟩
  have A2 : Hid (Site w (w2.alloc (alloc0 Z false)) L E 1 4 4 20 s (9 + 0) (Q.new 4) ∧ Maker (w2.alloc (alloc0 Z false)) B Z false κ (.take .idle)) := by
    rw [hE] at c2
    have m0 := maker0 Z false κ w2
    rw [hB] at m0
    exact ⟨(c2.alloc _).site, m0⟩
  have hLB : Hid (¬ L.has B) := by rw [← hB]; exact c2.ltL
  have hEB : Hid (E ≠ B) := by have := c2.ltE; unfold Hid; omega
  have hWB : Hid (w.heap.size ≤ B) := by have := c2.b.size; unfold Hid; omega
  rw [hE] at PA ⊢
  rw [hB]
  clear c2 c1 pa m1 t1 b1 f1 b2 AR hE hB hZ'
  go_loopw [7, 8] (fun av i wr => ∃ (j N1 : Nat) (A : Int) (s1 : Mm) (q1 : Q) (α1 : Al), av = .int .i64 A ∧ i = .int .i64 j ∧ j + N1 = 15 ∧ Runs 1 4 4 20 κ Z false N1 (9 + j) q1 α1 q' (.over 0 65536 23) ∧ Site w wr L E 1 4 4 20 s1 (9 + j) q1 ∧ Maker wr B Z false κ α1 ∧ α1.good 1 4 4 20 κ (9 + j) q1 ∧ ((A = 0 ∧ q1.sw 0 = 8388608 ∧ α1.isReady = false) ∨ (A = 23 ∧ j = 14 ∧ α1.isReady = true))) (fun _ i _ => 60 - (intOf i).toNat)
  case atStart => exact ⟨0, 15, (0 : Int), s, Q.new 4, _, rfl, rfl, rfl, HR.out, A2.out.1, A2.out.2, ⟨trivial, rfl⟩, .inl ⟨rfl, rfl, rfl⟩⟩
  case round =>
    clear A2 HR
    obtain ⟨j, N1, A, s1, q1, α1, rfl, rfl, hj, gg, f, i3, gd, hcase⟩ := hrel
    have hN1 := gg.pos
    have hj3 : (j : Int) < 60 := by omega
    have HGd : Hid (α1.good 1 4 4 20 κ (9 + j) q1) := gd
    have z0 := f.v.c0
    have z1 := f.v.c1
    have z2 := f.v.c2
    have z3 := f.v.c3
    have z4 := f.v.c4
    have z5 := f.v.c5
    have z6 := f.v.c6
    have z7 := f.v.c7
    have z8 := f.v.c8
    obtain ⟨⟨q2, α2⟩, ht⟩ : ∃ p, alTurn 1 4 4 20 κ Z false (9 + j) q1 α1 = p := ⟨_, rfl⟩
    have HT : Hid (alTurn 1 4 4 20 κ Z false (9 + j) q1 α1 = (q2, α2)) := ht
    rcases hcase with ⟨rfl, hsw, hnr⟩ | ⟨rfl, rfl, hrd⟩
    · cases gg with
      | one ho ht' h1 =>
        exfalso
        rw [ht] at ht'
        cases ht'
        cases hs : α1.isShw with
        | true =>
          cases α1 with
          | shw x g a i => cases ht
          | _ => cases hs
        | false =>
          have := (turn_other hs ho ht).2.2 _ _ rfl
          rw [hnr] at this
          cases this
      | more ho ht' h1 g1 =>
        rw [ht] at ht'
        cases ht'
        have HO : Hid (α1.over? = false) := ho
        cases hs : α1.isShw with
        | true =>
          cases α1 with
          | shw x g a i =>
            have hq2 : ({ q1 with sw := upd q1.sw x (packS 1 a g 0) }, Al.ready x g a i (9 + j + 1)) = (q2, α2) := ht
            obtain ⟨rfl, rfl⟩ := Prod.mk.inj hq2
            obtain ⟨r1, r2, r3⟩ := runs_ready g1
            have hj13 : j = 13 := by omega
            obtain ⟨gx, gF, gg2, gi, ga0, ga1⟩ := gd
            have hx0 : x = 0 := by
              rw [packH_is x g (by omega) gg2] at r3
              omega
            subst hx0
            have hsd := fun w => slot_dec a g (by omega) gg2 w
            obtain ⟨V, hV⟩ : ∃ V, packS 1 a g 0 = V := ⟨_, rfl⟩
            rw [hV] at hsd
            clear ht ho hs h1 hnr hsw
            go_wp2_with (go_at_call 17; refine (f.step PA.out hLB.out hEB.out hWB.out (by omega) fz HZ.out hκ i3 HGd.out HO.out _ _ HT.out false rfl).mono ?_; rintro e w6 ⟨rfl, s6, f6, i6, gd6, o6, -⟩)
            have hlen6 : Hid (7 < s6.n) := by have := f6.tw.len; unfold Hid; omega
            have HV : Hid (s6.wd 7 = V) := by
              have h7 : s6.wd (6 + 1 + 0 * 2) = upd q1.sw 0 (packS 1 a g 0) 0 := f6.tw.swv 0 (by omega)
              rw [upd_same, hV] at h7
              exact h7
            rw [hV] at f6 g1 gd6
            clear hV
            refine wp_over (fun W => Site w W L E 1 4 4 20 s6 (9 + j + 1) { q1 with sw := upd q1.sw 0 V } ∧ Maker W B Z false κ (.ready 0 g a i (9 + j + 1))) ⟨f6, i6⟩ ?_
            clear f i3 z0 z1 z2 z3 z4 z5 z6 z7 z8 f6 i6 o6
            rintro W ⟨f, i6⟩
            have e0 := fun N : Later W => (f.v.grown N.below).c0
            have e1 := fun N : Later W => (f.v.grown N.below).c1
            have e2 := fun N : Later W => (f.v.grown N.below).c2
            have e3 := fun N : Later W => (f.v.grown N.below).c3
            have e4 := fun N : Later W => (f.v.grown N.below).c4
            have e5 := fun N : Later W => (f.v.grown N.below).c5
            have e6 := fun N : Later W => (f.v.grown N.below).c6
            have e7 := fun N : Later W => (f.v.grown N.below).c7
            haveI := Later.exists W
            refine wp_region_later (by kernel_rfl) (by kernel_rfl) ?_
            repeat (go_big_quiet_step (first
              | (go_at_call 20; exact Calls.later (hls _))
              | (go_at_call 14; exact Calls.later_same (peek_is (f.mm.below (Later.below _)) 7 hlen6.out V HV.out))
              | (go_at_call 19; exact Calls.later (hsd _))))
            refine wpQuiet_nil ?_
            rintro _ ⟨nq, rfl⟩
            clear e0 e1 e2 e3 e4 e5 e6 e7
            have f7 := f.grown nq.below
            have i7 := i6.grown nq.below
            clear f i6
            have z0 := f7.v.c0
            have z1 := f7.v.c1
            have z2 := f7.v.c2
            have z3 := f7.v.c3
            have z4 := f7.v.c4
            have z5 := f7.v.c5
            have z6 := f7.v.c6
            have z7 := f7.v.c7
            have z8 := f7.v.c8
            go_wp2_with (go_at_call 21; refine (f7.now 23 (by omega)).mono ?_; rintro e w8 ⟨rfl, b8⟩)
            go_roundw
            case rel => exact ⟨j + 1, _, 23, s6, _, _, rfl, by go_num, by omega, g1, f7.grown b8, i7.grown b8, gd6, .inr ⟨rfl, by omega, rfl⟩⟩
            case measure => simp [intOf]; omega
          | _ => cases hs
        | false =>
          obtain ⟨e1, e2, -⟩ := turn_other hs ho ht
          have hsw2 : q2.sw 0 = 8388608 := by rw [e1]; exact hsw
          have hsd := fun w => slot_any 8388608 w (by decide) (by decide)
          have HS2 : Hid (q2.sw 0 = 8388608) := hsw2
          clear ht ho hs hnr hsw gd e1 hsw2
          go_wp2_with (go_at_call 17; refine (f.step PA.out hLB.out hEB.out hWB.out (by omega) fz HZ.out hκ i3 HGd.out HO.out q2 α2 HT.out false h1).mono ?_; rintro e w6 ⟨rfl, s6, f6, i6, gd6, o6, -⟩)
          have hlen6 : Hid (7 < s6.n) := by have := f6.tw.len; unfold Hid; omega
          have HV : Hid (s6.wd 7 = 8388608) := by
            have h7 : s6.wd (6 + 1 + 0 * 2) = q2.sw 0 := f6.tw.swv 0 (by omega)
            rw [HS2.out] at h7
            exact h7
          refine wp_over (fun W => Site w W L E 1 4 4 20 s6 (9 + j + 1) q2 ∧ Maker W B Z false κ α2) ⟨f6, i6⟩ ?_
          clear f i3 z0 z1 z2 z3 z4 z5 z6 z7 z8 f6 i6 o6
          rintro W ⟨f, i6⟩
          have e0 := fun N : Later W => (f.v.grown N.below).c0
          have e1 := fun N : Later W => (f.v.grown N.below).c1
          have e2 := fun N : Later W => (f.v.grown N.below).c2
          have e3 := fun N : Later W => (f.v.grown N.below).c3
          have e4 := fun N : Later W => (f.v.grown N.below).c4
          have e5 := fun N : Later W => (f.v.grown N.below).c5
          have e6 := fun N : Later W => (f.v.grown N.below).c6
          have e7 := fun N : Later W => (f.v.grown N.below).c7
          haveI := Later.exists W
          refine wp_region_later (by kernel_rfl) (by kernel_rfl) ?_
          repeat (go_big_quiet_step (first
            | (go_at_call 20; exact Calls.later (hls _))
            | (go_at_call 14; exact Calls.later_same (peek_is (f.mm.below (Later.below _)) 7 hlen6.out 8388608 HV.out))
            | (go_at_call 19; exact Calls.later (hsd _))))
          refine wpQuiet_nil ?_
          rintro _ ⟨nq, rfl⟩
          clear e0 e1 e2 e3 e4 e5 e6 e7
          have f7 := f.grown nq.below
          have i7 := i6.grown nq.below
          clear f i6
          have z0 := f7.v.c0
          have z1 := f7.v.c1
          have z2 := f7.v.c2
          have z3 := f7.v.c3
          have z4 := f7.v.c4
          have z5 := f7.v.c5
          have z6 := f7.v.c6
          have z7 := f7.v.c7
          have z8 := f7.v.c8
          go_wp2
          go_roundw
          case rel => exact ⟨j + 1, _, 0, s6, _, _, rfl, by go_num, by omega, g1, f7, i7, gd6, .inl ⟨rfl, HS2.out, e2⟩⟩
          case measure => simp [intOf]; omega
    · cases α1 with
      | ready x g a i st =>
        obtain ⟨r1, -, -⟩ := runs_ready gg
        subst r1
        cases gg with
        | more ho ht' h1 g1 => have := g1.pos; omega
        | one ho ht' h1 =>
          rw [ht] at ht'
          cases ht'
          have HO : Hid ((Al.ready x g a i st).over? = false) := ho
          clear ht ho hrd gd
          go_wp2_with (go_at_call 17; refine (f.step PA.out hLB.out hEB.out hWB.out (by omega) fz HZ.out hκ i3 HGd.out HO.out _ _ HT.out true rfl).mono ?_; rintro e w6 ⟨rfl, s6, f6, i6, gd6, o6, -⟩)
          have hlen6 : Hid (7 < s6.n) := by have := f6.tw.len; unfold Hid; omega
          refine wp_over (fun W => Site w W L E 1 4 4 20 s6 (9 + 14 + 1) q' ∧ Maker W B Z false κ (.over 0 65536 23)) ⟨f6, i6⟩ ?_
          clear f i3 z0 z1 z2 z3 z4 z5 z6 z7 z8 f6 i6 o6
          rintro W ⟨f, i6⟩
          haveI := Later.exists W
          refine wp_region_later (by kernel_rfl) (by kernel_rfl) ?_
          repeat (go_big_quiet_step (fail))
          refine wpQuiet_nil ?_
          rintro _ ⟨nq, rfl⟩
          have f7 := f.grown nq.below
          have i7 := i6.grown nq.below
          clear f i6
          have dn : Calls Try.prog 18 #[.pointer (some ⟨B, 0, none⟩)] nq.now fun e w' => e = .returned (.agg #[.int .i64 0, .int .u64 65536, .int .i64 0, .int .i64 23]) ∧ Below nq.now.heap.size nq.now w' := i7.done
          go_wp2_with (first
            | (go_at_call 18; refine dn.mono ?_; rintro e w8 ⟨rfl, b8⟩; have f8 := (f7.grown b8).alloc (.cells #[.int .i64 0, .int .u64 65536, .int .i64 0, .int .i64 23] 36); have z0 := f8.v.c0; have z1 := f8.v.c1; have z2 := f8.v.c2; have z3 := f8.v.c3; have z4 := f8.v.c4; have z5 := f8.v.c5; have z6 := f8.v.c6; have z7 := f8.v.c7; have z8 := f8.v.c8)
            | (go_at_call 21; refine (f8.now 24 (by omega)).mono ?_; rintro e w9 ⟨rfl, b9⟩))
          go_ret
          exact ⟨rfl, grow f8.b b9⟩
      | _ => cases hrd

end Go.Proofs.Ytemembcefplgcaa
