/- PinSteps answers true for every slice of bools, and leaves what was in memory. -/
import Derived.Test.YthfedefdiofdnaaPinRace
namespace Go.Proofs.Ythfedefdiofdnaa
open Go.RowKit

theorem enow_is {w : World} {L : Loc} {s : Mm} (h : MemAt w L s) (c0 c1 c2 c3 c4 c5 c6 who x : Int) (hx : s.steps = x) :
    Calls Try.prog 13 #[.agg #[.int .i64 c0, .int .i64 c1, .int .i64 c2, .int .i64 c3, .int .i64 c4, .int .i64 c5, .int .i64 c6, .pointer (some ⟨L.p, 0, none⟩), .int .i64 who]] w fun e w' => e = .returned (.int .i64 x) ∧ Below w.heap.size w w' := by
  subst hx; exact enow_any h _ _ _ _ _ _ _ _

theorem last_is {w : World} {L : Loc} {s : Mm} (h : MemAt w L s) (a b : Int) (c : Bool) (ha : s.la = a) (hb : s.lw = b) (hc : s.lc = c) :
    Calls Try.prog 14 #[.pointer (some ⟨L.p, 0, none⟩)] w fun e w' => e = .returned (.agg #[.int .i64 a, .int .i64 b, .bool c]) ∧ Below w.heap.size w w' := by
  subst ha hb hc; exact last_any h

set_option maxRecDepth 20000 in
set_option maxHeartbeats 2000000 in
theorem pinSteps_any (ao : Option Addr) (n cap : Nat) (z : Nat → Bool) (w : World) (hr : BoolsAt w ao n z) :
    Calls Try.prog 4 #[.slice ao n cap] w fun e w' => e = .returned (.bool true) ∧ Below w.heap.size w w' := by
  have HR : Hid (BoolsAt w ao n z) := hr
  clear hr
  go_enter Try.func4, Try.ntmps4
  go_wp2_with (first
    | (go_at_call 6; refine (arena_any _ _).mono ?_; rintro e w1 ⟨L, rfl, m1, b1, f1⟩)
    | (go_at_call 7; refine (awake05_any _).mono ?_; rintro e w2 ⟨rfl, b2⟩))
  have z2 : w1.heap.size + 1 ≤ w2.heap.size := by have := b2.size; rw [Go.Deep.nblk_alloc] at this; exact this
  have AP : Hid (RaceApart w L w1.heap.size w2.heap.size) := ⟨fun hh => by have := m1.lt _ hh; omega, fun hh => by have := m1.lt _ hh; omega, by omega, f1, by have := b1.size; omega⟩
  have R0 : Hid (RaceAt w (w2.alloc (.cells #[.int .i64 0, .int .u64 0] 34)) L w1.heap.size w2.heap.size 2 (Mm.laid 4 1 32 1) 0 0) :=
    ⟨((m1.alloc _).below b2).alloc _, ⟨_, Go.Deep.blk_alloc_new _ _, rfl, rfl⟩, (BoxV.new.grown b2).grown (grow_alloc (Below.refl _ _) _), grow_alloc (grow (grow_alloc b1 _) b2) _⟩
  clear m1 b1 f1 b2 z2
  go_loopw [6] (fun i wr => ∃ (k : Nat) (s : Mm) (nx ep : Int), i = .int .i64 k ∧ Race 2 s nx ep k ∧ RaceAt w wr L w1.heap.size w2.heap.size 2 s nx ep) (fun i _ => 200 - (intOf i).toNat)
  case atStart => exact ⟨0, _, 0, 0, rfl, Race.start 2, R0.out⟩
  case round =>
    clear R0
    obtain ⟨k, s, nx, ep, rfl, R, A⟩ := hrel
    have hk3 := R.lt
    have hk2 : (k : Int) < 200 := by omega
    have RH : Hid (Race 2 s nx ep k) := R
    have AH : Hid (RaceAt w wr L w1.heap.size w2.heap.size 2 s nx ep) := A
    clear R
    have y0 := A.v.c0
    have y1 := A.v.c1
    have y2 := A.v.c2
    have y3 := A.v.c3
    have y4 := A.v.c4
    have y5 := A.v.c5
    have y6 := A.v.c6
    have y7 := A.v.c7
    have y8 := A.v.c8
    clear A
    obtain ⟨x, HX⟩ : ∃ x, decide (nx = 2 ∧ s.wd 0 = ep) = x := ⟨_, rfl⟩
    have HX' : Hid (decide (nx = 2 ∧ s.wd 0 = ep) = x) := HX
    clear HX
    go_wp2_with (first
      | (go_at_call 13; refine (enow_any AH.out.m _ _ _ _ _ _ _ _).mono ?_; rintro e w8 ⟨rfl, b8⟩; have A8 := AH.out.grown b8; have y0 := A8.v.c0; have y1 := A8.v.c1; have y2 := A8.v.c2; have y3 := A8.v.c3; have y4 := A8.v.c4; have y5 := A8.v.c5; have y6 := A8.v.c6; have y7 := A8.v.c7; have y8 := A8.v.c8)
      | (go_at_call 8; refine (A8.step AP.out RH.out (by decide) x HX'.out).mono ?_; rintro e w3 ⟨rfl, s3, nx3, ep3, hp, A3⟩; obtain ⟨-, -, hst, hlw, hlac⟩ := hp.keeps; obtain ⟨la, hla⟩ : ∃ a, s3.la = a := ⟨_, rfl⟩; obtain ⟨lc, hlc⟩ : ∃ a, s3.lc = a := ⟨_, rfl⟩; rw [hla, hlc] at hlac; have y7 := A3.v.c7)
      | (go_at_call 14; refine (last_is A3.m la 2 lc hla hlw hlc).mono ?_; rintro e w4 ⟨rfl, b4⟩))
    obtain ⟨S, hS⟩ : ∃ S, s.steps = S := ⟨_, rfl⟩
    rw [hS] at hst ⊢
    have t0 : (w4.alloc (.cells #[.int .i64 la, .int .i64 2, .bool lc] 44)).cell? ⟨w4.heap.size, 0, none⟩ = some (.int .i64 la) := by simp
    have t1 : (w4.alloc (.cells #[.int .i64 la, .int .i64 2, .bool lc] 44)).cell? ⟨w4.heap.size, 1, none⟩ = some (.int .i64 2) := by simp
    have t2 : (w4.alloc (.cells #[.int .i64 la, .int .i64 2, .bool lc] 44)).cell? ⟨w4.heap.size, 2, none⟩ = some (.bool lc) := by simp
    have A5 : RaceAt w (w4.alloc (.cells #[.int .i64 la, .int .i64 2, .bool lc] 44)) L w1.heap.size w2.heap.size 2 s3 nx3 ep3 := (A3.grown b4).grown (grow_alloc (Below.refl _ _) _)
    clear A3 b4 y0 y1 y2 y3 y4 y5 y6 y7 y8 b8 A8
    refine wp_over (fun W => W.cell? ⟨w4.heap.size, 0, none⟩ = some (.int .i64 la) ∧ W.cell? ⟨w4.heap.size, 1, none⟩ = some (.int .i64 2) ∧ W.cell? ⟨w4.heap.size, 2, none⟩ = some (.bool lc) ∧ RaceAt w W L w1.heap.size w2.heap.size 2 s3 nx3 ep3) ⟨t0, t1, t2, A5⟩ ?_
    clear t0 t1 t2 A5
    rintro W ⟨t0, t1, t2, A5⟩
    have q0 := fun N : Later W => N.cell t0
    have q1 := fun N : Later W => N.cell t1
    have q2 := fun N : Later W => N.cell t2
    have AA := fun N : Later W => A5.grown N.below
    have y0 := fun N : Later W => (AA N).v.c0
    have y1 := fun N : Later W => (AA N).v.c1
    have y2 := fun N : Later W => (AA N).v.c2
    have y3 := fun N : Later W => (AA N).v.c3
    have y4 := fun N : Later W => (AA N).v.c4
    have y5 := fun N : Later W => (AA N).v.c5
    have y6 := fun N : Later W => (AA N).v.c6
    have y7 := fun N : Later W => (AA N).v.c7
    have y8 := fun N : Later W => (AA N).v.c8
    haveI := Later.exists W
    obtain ⟨a, ha⟩ : ∃ a, a = wrap64 (S + 1) := ⟨_, rfl⟩
    have hlac' : (la = 0 ∧ lc = false) ∨ (la = 8 ∧ lc = false) ∨ (la = 8 ∧ lc = true) := by
      rcases hlac with h | h
      · exact Or.inl h
      · cases lc
        · exact Or.inr (Or.inl ⟨h, rfl⟩)
        · exact Or.inr (Or.inr ⟨h, rfl⟩)
    clear hlac
    rcases hlac' with ⟨rfl, rfl⟩ | ⟨rfl, rfl⟩ | ⟨rfl, rfl⟩
    all_goals
      refine wp_region_later (by kernel_rfl) (by kernel_rfl) ?_
      repeat (go_big_quiet_step ((first
        | (go_at_call 10; exact Calls.later_same (lpin_any _ _ (by omega) (by omega)))
        | (go_at_call 11; exact Calls.later_same (lepoch_any _))
        | (go_at_call 13; exact Calls.later (enow_is (AA _).m _ _ _ _ _ _ _ _ _ hst)))))
      refine wpQuiet_nil ?_
      rintro _ ⟨nq, rfl⟩
      have A4 := AA nq
      clear q0 q1 q2 AA y0 y1 y2 y3 y4 y5 y6 y7 y8 t0 t1 t2 A5
      cases x with
      | true =>
        go_wp2
        go_ret
        exact ⟨rfl, A4.b⟩
      | false =>
        by_cases hlt : k < n
        · by_cases hk1 : k < 100
          · obtain ⟨b, off, rfl, hc⟩ := HR.out k hlt
            have hc1 := keep' A4.b hc
            cases hz : z k with
            | true =>
              rw [hz] at hc1
              go_wp2
              have R4 : Hid (Race 2 s3 nx3 ep3 (k + 1)) := RH.out.next hp
              have A6 : Hid (RaceAt w nq.now.drew L w1.heap.size w2.heap.size 2 s3 nx3 ep3) := A4.grown ((Below.refl _ _).drew)
              refine wp_region_phase (Only L.has) (fun x y => y = x) (fun p W' => match p with | 0 => MemAt W' L s3 | _ => MemAt W' L (s3.step 0 (sum64 (s3.wd 0) 1))) [3] [.val (.pointer (some ⟨w1.heap.size, 7, none⟩)), .val (.pointer (some ⟨L.p, 0, none⟩)), .val (.int .i64 0), .val (.tuple #[.int .u64 (s3.wd 0), .int .i64 0])]
                (by kernel_rfl) (Only.refl _) (fun _ _ _ h k => h.trans k) (fun x y h => by subst h; exact Only.refl _ _) (fun x y p h k => by subst h; exact k) A6.out.m (by kernel_rfl) (by kernel_rfl) (by kernel_rfl) (by kernel_rfl) (by kernel_rfl) ?_
              simp only [phaseAll, Act.put, List.setIfInBounds_toArray, List.set_cons_zero, List.set_cons_succ]
              refine ⟨?_, ?_, ?_, ?_, ?_⟩
              · intro w' hR _
                refine Or.inl ⟨rfl, ?_⟩
                go_simp
                exact ⟨rfl, rfl⟩
              · intro w' hR _
                refine Or.inl ⟨rfl, ?_⟩
                have yy := (A6.out.v.only hR AP.out.e).c7
                go_simp
                exact ⟨rfl, rfl⟩
              · intro w' hR _
                refine Or.inl ⟨rfl, ?_⟩
                go_simp
                refine (lepoch_any _).mono ?_
                rintro e w'' ⟨rfl, rfl⟩
                exact ⟨_, rfl, rfl, rfl⟩
              · intro w' hR _ hP
                refine Or.inl ⟨rfl, ?_⟩
                go_simp
                refine (add_in (s := s3) hP 0 (by have := R4.out.n; omega) _).mono ?_
                rintro e w'' ⟨rfl, m5, o5, _⟩
                exact ⟨_, rfl, ⟨o5, m5⟩, rfl⟩
              intro w4 hR hP _
              have hP' : MemAt w4 L (s3.step 0 (sum64 (s3.wd 0) 1)) := hP
              clear hP
              have A5 : Hid (RaceAt w w4 L w1.heap.size w2.heap.size 2 (s3.step 0 (sum64 (s3.wd 0) 1)) nx3 ep3) := A6.out.goes AP.out hP' hR
              clear hP' hR A6
              go_wp2
              go_roundw
              case rel => exact ⟨k + 1, _, nx3, ep3, by go_num, R4.out.goes hk1 _, A5.out⟩
              case measure => simp [intOf]; omega
            | false =>
              rw [hz] at hc1
              go_wp2
              go_roundw
              case rel => exact ⟨k + 1, _, nx3, ep3, by go_num, RH.out.next hp, A4⟩
              case measure => simp [intOf]; omega
          · go_wp2
            go_roundw
            case rel => exact ⟨k + 1, _, nx3, ep3, by go_num, RH.out.next hp, A4⟩
            case measure => simp [intOf]; omega
        · go_wp2
          go_roundw
          case rel => exact ⟨k + 1, _, nx3, ep3, by go_num, RH.out.next hp, A4⟩
          case measure => simp [intOf]; omega

end Go.Proofs.Ythfedefdiofdnaa
