/- PinRaces answers true for every slice of bools, and leaves what was in memory. -/
import Derived.Test.YthfedefdiofdnaaPinRace
namespace Go.Proofs.Ythfedefdiofdnaa
open Go.RowKit

set_option maxRecDepth 20000 in
set_option maxHeartbeats 2000000 in
theorem pinRaces_any (ao : Option Addr) (n cap : Nat) (z : Nat → Bool) (w : World) (hr : BoolsAt w ao n z) :
    Calls Try.prog 3 #[.slice ao n cap] w fun e w' => e = .returned (.bool true) ∧ Below w.heap.size w w' := by
  have HR : Hid (BoolsAt w ao n z) := hr
  clear hr
  go_enter Try.func3, Try.ntmps3
  go_wp2_with (first
    | (go_at_call 6; refine (arena_any _ _).mono ?_; rintro e w1 ⟨L, rfl, m1, b1, f1⟩)
    | (go_at_call 7; refine (awake05_any _).mono ?_; rintro e w2 ⟨rfl, b2⟩))
  have z2 : w1.heap.size + 1 ≤ w2.heap.size := by have := b2.size; rw [Go.Deep.nblk_alloc] at this; exact this
  have AP : Hid (RaceApart w L w1.heap.size w2.heap.size) := ⟨fun hh => by have := m1.lt _ hh; omega, fun hh => by have := m1.lt _ hh; omega, by omega, f1, by have := b1.size; omega⟩
  have R0 : Hid (RaceAt w (w2.alloc (.cells #[.int .i64 0, .int .u64 0] 34)) L w1.heap.size w2.heap.size 0 (Mm.laid 4 1 32 1) 0 0) :=
    ⟨((m1.alloc _).below b2).alloc _, ⟨_, Go.Deep.blk_alloc_new _ _, rfl, rfl⟩, (BoxV.new.grown b2).grown (grow_alloc (Below.refl _ _) _), grow_alloc (grow (grow_alloc b1 _) b2) _⟩
  clear m1 b1 f1 b2 z2
  go_loopw [6] (fun i wr => ∃ (k : Nat) (s : Mm) (nx ep : Int), i = .int .i64 k ∧ Race 0 s nx ep k ∧ RaceAt w wr L w1.heap.size w2.heap.size 0 s nx ep) (fun i _ => 200 - (intOf i).toNat)
  case atStart => exact ⟨0, _, 0, 0, rfl, Race.start 0, R0.out⟩
  case round =>
    clear R0
    obtain ⟨k, s, nx, ep, rfl, R, A⟩ := hrel
    have hk3 := R.lt
    have hk2 : (k : Int) < 200 := by omega
    have RH : Hid (Race 0 s nx ep k) := R
    have AH : Hid (RaceAt w wr L w1.heap.size w2.heap.size 0 s nx ep) := A
    clear R
    have y0 := A.v.c0
    have y1 := A.v.c1
    have y2 := A.v.c2
    have y3 := A.v.c3
    have y4 := A.v.c4
    have y5 := A.v.c5
    have y6 := A.v.c6
    have y7 := A.v.c7
    have y8 := A.v.c8
    clear A
    obtain ⟨x, HX⟩ : ∃ x, decide (nx = 2 ∧ s.wd 0 = ep) = x := ⟨_, rfl⟩
    cases x with
    | true =>
      go_wp2_with (go_at_call 8; refine (AH.out.step AP.out RH.out (by decide) true HX).mono ?_; rintro e w3 ⟨rfl, s3, nx3, ep3, hp, A3⟩)
      obtain ⟨n3, hpin⟩ := RH.out.done hp
      have A4 : Hid (RaceAt w w3.drew L w1.heap.size w2.heap.size 0 s3 nx3 ep3) := A3.grown ((Below.refl _ _).drew)
      obtain ⟨E, hE⟩ : ∃ E, s3.wd 0 = E := ⟨_, rfl⟩
      rw [hE] at hpin
      clear hp A3
      refine wp_region_rely Grown [.val (.pointer (some ⟨w1.heap.size, 7, none⟩)), .val (.pointer (some ⟨L.p, 0, none⟩)), .val (.int .i64 6), .val (.int .u64 (sum64 E 1)), .val (.pointer (some ⟨w1.heap.size, 7, none⟩)), .val (.pointer (some ⟨L.p, 0, none⟩)), .val (.int .i64 0), .val (.int .u64 E), .val (.int .u64 (sum64 E 1)), .val (.bool true), .val (.bool true)]
        (by kernel_rfl) Grown.refl Grown.trans (by kernel_rfl) (by kernel_rfl) (by kernel_rfl) ?_
      simp only [relyAll, Act.put, List.setIfInBounds_toArray, List.set_cons_zero, List.set_cons_succ]
      refine ⟨?_, ?_, ?_, ?_, ?_, ?_, ?_, ?_, ?_, ?_, ?_, ?_⟩
      · intro w' hR _
        refine Or.inl ⟨rfl, ?_⟩
        go_simp
        exact ⟨Grown.refl _, rfl⟩
      · intro w' hR _
        refine Or.inl ⟨rfl, ?_⟩
        have yy := (A4.out.v.grown hR).c7
        go_simp
        exact ⟨Grown.refl _, rfl⟩
      · intro w' hR _
        refine Or.inl ⟨rfl, ?_⟩
        go_simp
        refine (lpin_any _ _ (by omega) (by omega)).mono ?_
        rintro e w'' ⟨rfl, rfl⟩
        exact ⟨_, rfl, Grown.refl _, rfl⟩
      · intro w' hR _
        refine Or.inl ⟨rfl, ?_⟩
        go_simp
        refine (peek_is (A4.out.m.below hR) 6 (by rw [n3]; decide) _ hpin).mono ?_
        rintro e w'' ⟨rfl, rfl⟩
        exact ⟨_, rfl, Grown.refl _, rfl⟩
      · intro w' hR _
        refine Or.inl ⟨rfl, ?_⟩
        go_simp
        exact ⟨Grown.refl _, rfl⟩
      · intro w' hR _
        refine Or.inl ⟨rfl, ?_⟩
        have yy := (A4.out.v.grown hR).c7
        go_simp
        exact ⟨Grown.refl _, rfl⟩
      · intro w' hR _
        refine Or.inl ⟨rfl, ?_⟩
        go_simp
        refine (lepoch_any _).mono ?_
        rintro e w'' ⟨rfl, rfl⟩
        exact ⟨_, rfl, Grown.refl _, rfl⟩
      · intro w' hR _
        refine Or.inl ⟨rfl, ?_⟩
        go_simp
        refine (peek_is (A4.out.m.below hR) 0 (by rw [n3]; decide) _ hE).mono ?_
        rintro e w'' ⟨rfl, rfl⟩
        exact ⟨_, rfl, Grown.refl _, rfl⟩
      · intro w' hR _
        refine Or.inl ⟨rfl, ?_⟩
        go_simp
        exact ⟨Grown.refl _, rfl⟩
      · intro w' hR _
        refine Or.inl ⟨rfl, ?_⟩
        go_simp
        exact ⟨Grown.refl _, rfl⟩
      · intro w' hR _
        refine Or.inl ⟨rfl, ?_⟩
        go_simp
        exact ⟨Grown.refl _, rfl⟩
      intro w4 hR _
      have B4 := grow A4.out.b hR
      go_wp2
      go_ret
      exact ⟨rfl, B4⟩
    | false =>
      by_cases hlt : k < n
      · by_cases hk1 : k < 100
        · obtain ⟨b, off, rfl, hc⟩ := HR.out k hlt
          have hc1 := keep' AH.out.b hc
          cases hz : z k with
          | true =>
            rw [hz] at hc hc1
            go_wp2_with (go_at_call 8; refine (AH.out.step AP.out RH.out (by decide) false HX).mono ?_; rintro e w3 ⟨rfl, s3, nx3, ep3, hp, A3⟩; have hc3 := keep' A3.b hc)
            have R4 : Hid (Race 0 s3 nx3 ep3 (k + 1)) := RH.out.next hp
            have A4 : Hid (RaceAt w w3.drew L w1.heap.size w2.heap.size 0 s3 nx3 ep3) := A3.grown ((Below.refl _ _).drew)
            refine wp_region_phase (Only L.has) (fun x y => y = x) (fun p W' => match p with | 0 => MemAt W' L s3 | _ => MemAt W' L (s3.step 0 (sum64 (s3.wd 0) 1))) [3] [.val (.pointer (some ⟨w1.heap.size, 7, none⟩)), .val (.pointer (some ⟨L.p, 0, none⟩)), .val (.int .i64 0), .val (.tuple #[.int .u64 (s3.wd 0), .int .i64 0])]
              (by kernel_rfl) (Only.refl _) (fun _ _ _ h k => h.trans k) (fun x y h => by subst h; exact Only.refl _ _) (fun x y p h k => by subst h; exact k) A4.out.m (by kernel_rfl) (by kernel_rfl) (by kernel_rfl) (by kernel_rfl) (by kernel_rfl) ?_
            simp only [phaseAll, Act.put, List.setIfInBounds_toArray, List.set_cons_zero, List.set_cons_succ]
            refine ⟨?_, ?_, ?_, ?_, ?_⟩
            · intro w' hR _
              refine Or.inl ⟨rfl, ?_⟩
              go_simp
              exact ⟨rfl, rfl⟩
            · intro w' hR _
              refine Or.inl ⟨rfl, ?_⟩
              have yy := (A4.out.v.only hR AP.out.e).c7
              go_simp
              exact ⟨rfl, rfl⟩
            · intro w' hR _
              refine Or.inl ⟨rfl, ?_⟩
              go_simp
              refine (lepoch_any _).mono ?_
              rintro e w'' ⟨rfl, rfl⟩
              exact ⟨_, rfl, rfl, rfl⟩
            · intro w' hR _ hP
              refine Or.inl ⟨rfl, ?_⟩
              go_simp
              refine (add_in (s := s3) hP 0 (by have := R4.out.n; omega) _).mono ?_
              rintro e w'' ⟨rfl, m5, o5, _⟩
              exact ⟨_, rfl, ⟨o5, m5⟩, rfl⟩
            intro w4 hR hP _
            have hP' : MemAt w4 L (s3.step 0 (sum64 (s3.wd 0) 1)) := hP
            clear hP
            have A5 : Hid (RaceAt w w4 L w1.heap.size w2.heap.size 0 (s3.step 0 (sum64 (s3.wd 0) 1)) nx3 ep3) := A4.out.goes AP.out hP' hR
            clear hP' hR A4
            go_wp2
            go_roundw
            case rel => exact ⟨k + 1, _, nx3, ep3, by go_num, R4.out.goes hk1 _, A5.out⟩
            case measure => simp [intOf]; omega
          | false =>
            rw [hz] at hc hc1
            go_wp2_with (go_at_call 8; refine (AH.out.step AP.out RH.out (by decide) false HX).mono ?_; rintro e w3 ⟨rfl, s3, nx3, ep3, hp, A3⟩; have hc3 := keep' A3.b hc)
            go_roundw
            case rel => exact ⟨k + 1, _, nx3, ep3, by go_num, RH.out.next hp, A3⟩
            case measure => simp [intOf]; omega
        · go_wp2_with (go_at_call 8; refine (AH.out.step AP.out RH.out (by decide) false HX).mono ?_; rintro e w3 ⟨rfl, s3, nx3, ep3, hp, A3⟩)
          go_roundw
          case rel => exact ⟨k + 1, _, nx3, ep3, by go_num, RH.out.next hp, A3⟩
          case measure => simp [intOf]; omega
      · go_wp2_with (go_at_call 8; refine (AH.out.step AP.out RH.out (by decide) false HX).mono ?_; rintro e w3 ⟨rfl, s3, nx3, ep3, hp, A3⟩)
        go_roundw
        case rel => exact ⟨k + 1, _, nx3, ep3, by go_num, RH.out.next hp, A3⟩
        case measure => simp [intOf]; omega

end Go.Proofs.Ythfedefdiofdnaa
