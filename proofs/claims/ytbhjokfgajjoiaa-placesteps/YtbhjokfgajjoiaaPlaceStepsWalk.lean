/- PlaceSteps answers true for every number and every slice of numbers, and leaves what was in memory. -/
import Derived.Test.YtbhjokfgajjoiaaPlaceRows
namespace Go.Proofs.Ytbhjokfgajjoiaa
open Go.RowKit

theorem touch_addr (a b c : Value) (w : World) : (Instr.field 59 (.agg #[a, b, c]) 0).run Try.prog w = .ok a w := by kernel_rfl

theorem last_la {w : World} {L : Loc} {s : Mm} (h : MemAt w L s) (a : Int) (ha : s.la = a) :
    Calls Try.prog 24 #[.pointer (some ⟨L.p, 0, none⟩)] w fun e w' => e = .returned (.agg #[.int .i64 a, .int .i64 s.lw, .bool s.lc]) ∧ Below w.heap.size w w' := by
  subst ha; exact last_any h

/-- each step is at an open chunk's place, or at a chunk's word -/
theorem at_kind {t n k m κ σ : Nat} {τ : Pl} (hκ : κ < 4) (h : τ.good k m κ σ) (ho : τ.over = false) : ∃ K I X, KindIs t n k m ((τ.at t n κ : Nat) : Int) K I X ∧ (K = 2 ∨ K = 6) := by
  have hop : ∃ K I X, KindIs t n k m ((2 + κ : Nat) : Int) K I X ∧ (K = 2 ∨ K = 6) := ⟨2, κ, 0, .opens (κ : Int) (by omega) (by omega) (by omega), .inl rfl⟩
  have hch : ∀ i, i < k → ∃ K I X, KindIs t n k m ((6 + t + n * 2 + i * 3 : Nat) : Int) K I X ∧ (K = 2 ∨ K = 6) := fun i hi => ⟨6, i, 0, .chunk (i : Int) (by omega) (by omega) (by omega), .inr rfl⟩
  cases τ with
  | see => exact hop
  | ask i => exact hch i h
  | grow i c => exact hch i h.1
  | look sn i => exact hch i h.1
  | take sn i c => exact hch i h.1
  | opn sn i c => exact hop
  | fre sn i c => exact hch i h.1
  | won a i => cases ho
  | none => cases ho

set_option maxRecDepth 20000 in
set_option maxHeartbeats 4000000 in
theorem placeSteps_any (chunks : Int) (ao : Option Addr) (N cap : Nat) (z : Nat → Int) (w : World) (hr : IntsAt .i64 w ao N z) :
    Calls Try.prog 6 #[.int .i64 chunks, .slice ao N cap] w fun e w' => e = .returned (.bool true) ∧ Below w.heap.size w w' := by
  have HR : Hid (IntsAt .i64 w ao N z) := hr
  clear hr
  obtain ⟨k, hk, hk1, hk8⟩ := lowAt chunks 7 3 1 (by decide) (by decide)
  have hk' : (1 : Int) + bits .and .i64 chunks 7 = (k : Int) := hk
  clear hk
  have hG : Good 1 1 k 20 100 600 3 := goodp (by omega) (by omega) (by omega) (by omega)
  have HG : Hid (Good 1 1 k 20 100 600 3) := hG
  have AR := fun w => arena07 hG w
  clear hG
  have ta := touch_addr
  go_enter Try.func6, Try.ntmps6
  go_wp2_with (first
    | (go_at_call 8; refine (AR _).mono ?_; rintro e w1 ⟨L, s, rfl, m1, y1, b1, f1⟩; obtain ⟨p1, pa⟩ := Plot.first HG.out m1 y1 b1 f1)
    | (go_at_call 9; refine (awake07_any _).mono ?_; rintro e w2 ⟨rfl, b2⟩; have p2 := p1.grown b2))
  have FA : Hid (PlotApart w L w1.heap.size 1 1 k 20) := pa
  obtain ⟨E, hE⟩ : ∃ E, w1.heap.size = E := ⟨_, rfl⟩
  rw [hE] at FA p2 ⊢
  have A2 : Hid (Plot w w2 L E 1 1 k 20 s 3 Y.new) := p2
  clear p2 p1 pa m1 y1 b1 f1 b2 AR hE
  go_loopw [8] (fun j wr => ∃ (r : Nat) (s2 : Mm) (σ : Nat) (y : Y), r ≤ 20 ∧ j = .int .i64 r ∧ σ ≤ 3 + 60 * r ∧ Plot w wr L E 1 1 k 20 s2 σ y) (fun j _ => 20 - (intOf j).toNat)
  case atStart => exact ⟨0, s, 3, _, by omega, rfl, by omega, A2.out⟩
  case round =>
    clear A2
    obtain ⟨r, s2, σ, y, hr20, rfl, hσ, f⟩ := hrel
    by_cases hr' : r < N ∧ r < 20
    · obtain ⟨hrN, hr3⟩ := hr'
      have hr3' : (r : Int) < 20 := by omega
      have hrN' : (r : Int) < (N : Int) := by omega
      obtain ⟨zb, zo, rfl, hz0⟩ := HR.out r hrN
      have hz := keep' f.b hz0
      obtain ⟨κ, hκ, hκ4⟩ := bits3 (z r)
      have hLW : Hid (¬ L.has wr.heap.size) := f.ltL
      have hEW : Hid (E ≠ wr.heap.size) := by unfold Hid; have := f.ltE; omega
      have hWW : Hid (w.heap.size ≤ wr.heap.size) := f.b.size
      have A3 : Hid (Plot w (wr.alloc (place0 κ)) L E 1 1 k 20 s2 (σ + 0) y ∧ ∃ cs, PlAt (wr.alloc (place0 κ)) wr.heap.size 0 71 cs κ .see) := ⟨f.alloc _, _, place0_at κ wr⟩
      clear hz0 f
      go_wp2_with (go_at_call 17; refine (newPlace_any κ _).mono ?_; rintro e w5 ⟨rfl, rfl⟩)
      clear hz
      obtain ⟨B, hB⟩ : ∃ B, wr.heap.size = B := ⟨_, rfl⟩
      rw [hB] at A3 hLW hEW hWW ⊢
      clear hB
      go_loopw [10] (fun j wq => ∃ (q : Nat) (s3 : Mm) (cs : Array Value) (y3 : Y) (τ : Pl), q ≤ 60 ∧ j = .int .i64 q ∧ Plot w wq L E 1 1 k 20 s3 (σ + q) y3 ∧ PlAt wq B 0 71 cs κ τ ∧ τ.good k 20 κ (σ + q) ∧ τ.over = false) (fun j _ => 60 - (intOf j).toNat)
      case atStart =>
        obtain ⟨f, cs, i⟩ := A3.out
        exact ⟨0, s2, cs, y, .see, by omega, rfl, f, i, trivial, rfl⟩
      case round =>
        clear A3
        obtain ⟨q, s3, cs, y3, τ, hq60, rfl, f, i3, gd, ho⟩ := hrel
        by_cases hq : q < 60
        · have hq' : (q : Int) < 60 := by omega
          obtain ⟨⟨y4, τ4⟩, ht⟩ : ∃ p, turn k 20 κ (base 1 1 k 20) y3 τ = p := ⟨_, rfl⟩
          obtain ⟨d, hd⟩ : ∃ d, τ4.over = d := ⟨_, rfl⟩
          obtain ⟨K, I, X, hkd, hK26⟩ := at_kind (t := 1) (n := 1) (m := 20) hκ4 gd ho
          obtain ⟨A, hA⟩ : ∃ A : Nat, τ.at 1 1 κ = A := ⟨_, rfl⟩
          rw [hA] at hkd
          have hkb : A ≤ 1000 := by
            cases hkd <;> first | omega | (have := HG.out.k1; omega) | skip
            all_goals (cases hK26 <;> omega)
          have ck := fun w => rkind_is (m := (k : Int) * 20) 100 600 3 w HG.out.arena (by omega) rfl (by omega) (by omega) (by omega) hkd
          have CK : Hid (∀ w, Calls Try.prog 23 #[.agg #[.int .i64 1, .int .i64 1, .int .i64 k, .int .i64 20, .int .i64 100, .int .i64 600, .int .i64 3], .int .i64 A] w fun e w' => e = .returned (.tuple #[.int .i64 K, .int .i64 I, .int .i64 X]) ∧ Below w.heap.size w w') := ck
          have HT : Hid (turn k 20 κ (base 1 1 k 20) y3 τ = (y4, τ4)) := ht
          have HO : Hid (τ.over = false) := ho
          have HA : Hid (τ.at 1 1 κ = A) := hA
          have HGd : Hid (τ.good k 20 κ (σ + q)) := gd
          have HI : Hid (PlAt wr B 0 71 cs κ τ) := i3
          clear ck hkd hkb ht ho hA gd i3
          have y0 := f.v.c0
          have y1 := f.v.c1
          have y2 := f.v.c2
          have y3' := f.v.c3
          have y4' := f.v.c4
          have y5 := f.v.c5
          have y6 := f.v.c6
          have y7 := f.v.c7
          have y8 := f.v.c8
          go_wp2_with (first
            | (go_at_call 18; refine (f5.step FA.out hLW.out hEW.out hWW.out (by omega) hκ4 (HI.out.grown b5) HGd.out HO.out y4 τ4 HT.out d hd).mono ?_; rintro e w6 ⟨rfl, s6, cs6, f6, i6, gd6, o6, kp6, la6⟩)
            | (go_at_call 22; refine (f.now (σ + q) rfl).mono ?_; rintro e w5 ⟨rfl, b5⟩; have f5 := f.grown b5; have z0 := f5.v.c0; have z1 := f5.v.c1; have z2 := f5.v.c2; have z3 := f5.v.c3; have z4 := f5.v.c4; have z5 := f5.v.c5; have z6 := f5.v.c6; have z7 := f5.v.c7; have z8 := f5.v.c8))
          rw [HA.out] at la6
          refine wp_over (fun W => Plot w W L E 1 1 k 20 s6 (σ + q + 1) y4 ∧ PlAt W B 0 71 cs6 κ τ4) ⟨f6, i6⟩ ?_
          clear y0 y1 y2 y3' y4' y5 y6 y7 y8 z0 z1 z2 z3 z4 z5 z6 z7 z8 f5 b5 f HI HGd HO HT f6 i6 o6 kp6
          rintro W ⟨f, i6⟩
          have e0 := fun N : Later W => (f.v.grown N.below).c0
          have e1 := fun N : Later W => (f.v.grown N.below).c1
          have e2 := fun N : Later W => (f.v.grown N.below).c2
          have e3 := fun N : Later W => (f.v.grown N.below).c3
          have e4 := fun N : Later W => (f.v.grown N.below).c4
          have e5 := fun N : Later W => (f.v.grown N.below).c5
          have e6 := fun N : Later W => (f.v.grown N.below).c6
          have e7 := fun N : Later W => (f.v.grown N.below).c7
          haveI := Later.exists W
          refine wp_region_later (by kernel_rfl) (by kernel_rfl) ?_
          repeat (go_big_quiet_step (first
            | (go_at_call 24; exact Calls.later (last_la (f.mm.below (Later.below _)) _ la6))
            | (go_at_call 23; exact Calls.later (CK.out _))))
          refine wpQuiet_nil ?_
          rintro _ ⟨nq, rfl⟩
          clear e0 e1 e2 e3 e4 e5 e6 e7
          have f7 := f.grown nq.below
          have i7 := i6.grown nq.below
          clear f i6
          have y0 := f7.v.c0
          have y1 := f7.v.c1
          have y2 := f7.v.c2
          have y3' := f7.v.c3
          have y4' := f7.v.c4
          have y5 := f7.v.c5
          have y6 := f7.v.c6
          have y7 := f7.v.c7
          have y8 := f7.v.c8
          have hwr : (((σ + q + 1 : Nat) : Int) != ((σ + q : Nat) : Int) + 1) = false := by simp
          rcases hK26 with rfl | rfl
          · cases d with
            | true =>
              go_wp2_with (go_at_call 22; refine (f7.now (σ + q + 1) rfl).mono ?_; rintro e w8 ⟨rfl, b8⟩)
              go_roundw
              case rel => exact ⟨r + 1, s6, _, y4, by omega, by go_num, by omega, f7.grown b8⟩
              case measure => simp [intOf]; omega
            | false =>
              go_wp2_with (go_at_call 22; refine (f7.now (σ + q + 1) rfl).mono ?_; rintro e w8 ⟨rfl, b8⟩)
              go_roundw
              case rel => exact ⟨q + 1, s6, cs6, y4, τ4, by omega, by go_num, f7.grown b8, i7.grown b8, gd6, hd⟩
              case measure => simp [intOf]; omega
          · cases d with
            | true =>
              go_wp2_with (go_at_call 22; refine (f7.now (σ + q + 1) rfl).mono ?_; rintro e w8 ⟨rfl, b8⟩)
              go_roundw
              case rel => exact ⟨r + 1, s6, _, y4, by omega, by go_num, by omega, f7.grown b8⟩
              case measure => simp [intOf]; omega
            | false =>
              go_wp2_with (go_at_call 22; refine (f7.now (σ + q + 1) rfl).mono ?_; rintro e w8 ⟨rfl, b8⟩)
              go_roundw
              case rel => exact ⟨q + 1, s6, cs6, y4, τ4, by omega, by go_num, f7.grown b8, i7.grown b8, gd6, hd⟩
              case measure => simp [intOf]; omega
        · have hq' : ¬ (q : Int) < 60 := by omega
          go_wp2
          go_roundw
          case rel => exact ⟨r + 1, s3, _, y3, by omega, by go_num, by omega, f⟩
          case measure => simp [intOf]; omega
    · by_cases hrN : r < N
      · have hrN' : (r : Int) < (N : Int) := by omega
        have hr3' : ¬ (r : Int) < 20 := by omega
        have F9 : Hid (Plot w wr L E 1 1 k 20 s2 σ y) := f
        clear f
        go_wp2_with (go_at_call 19; refine (spot_nobody _).mono ?_; rintro e w9 ⟨rfl, b9⟩)
        go_ret
        exact ⟨rfl, ((F9.out.grown b9).alloc _).b⟩
      · have hrN' : ¬ (r : Int) < (N : Int) := by omega
        have F9 : Hid (Plot w wr L E 1 1 k 20 s2 σ y) := f
        clear f
        go_wp2_with (go_at_call 19; refine (spot_nobody _).mono ?_; rintro e w9 ⟨rfl, b9⟩)
        go_ret
        exact ⟨rfl, ((F9.out.grown b9).alloc _).b⟩

end Go.Proofs.Ytbhjokfgajjoiaa
