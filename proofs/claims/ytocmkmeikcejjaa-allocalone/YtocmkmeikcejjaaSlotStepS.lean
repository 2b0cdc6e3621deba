/- What a step of one who takes, or gives, a slot comes to (package slot), whatever is done next. -/
import Derived.Test.YtocmkmeikcejjaaSlotPile
import Derived.Test.YtocmkmeikcejjaaStruct
namespace Go.Proofs.Ytocmkmeikcejjaa
open Go.RowKit

theorem putTop_next (Q C : Nat) (w : World) (a : Q ≤ 65536) (b : C ≤ 1000000) :
    Calls Try.prog 28 #[.int .i64 ((Q : Int) - 1), .int .i64 ((C : Int) + 1)] w fun e w' => e = .returned (.int .u64 (topw Q (C + 1))) ∧ w' = w := putTop_w Q (C + 1) w a (by omega)

/-- the cells of one who takes -/
def TkV (nx tp sl bh : Int) : List Value := [.int .i64 nx, .int .u64 tp, .int .i64 sl, .int .i64 bh]

/-- the cells of one who gives -/
def GvV (nx sl tp : Int) : List Value := [.int .i64 nx, .int .i64 sl, .int .u64 tp]

theorem shas_any (L : Loc) (c0 c1 c2 c3 c4 c5 c6 who sl : Int) (w : World) (d : Bool) (hd : decide (0 ≤ sl ∧ sl < c1) = d) :
    Calls Try.prog 78 #[.agg #[.int .i64 c0, .int .i64 c1, .int .i64 c2, .int .i64 c3, .int .i64 c4, .int .i64 c5, .int .i64 c6, .pointer (some ⟨L.p, 0, none⟩), .int .i64 who], .int .i64 sl] w fun e w' => e = .returned (.bool d) ∧ Below w.heap.size w w' := by
  subst hd
  by_cases h1 : 0 ≤ sl
  · by_cases h2 : sl < c1
    · go_enter Try.func78, Try.ntmps78
      go_wp2
      go_ret
      exact ⟨by simp [h1, h2], grow_alloc (Below.refl _ _) _⟩
    · go_enter Try.func78, Try.ntmps78
      go_wp2
      go_ret
      exact ⟨by simp [h2], grow_alloc (Below.refl _ _) _⟩
  · go_enter Try.func78, Try.ntmps78
    go_wp2
    go_ret
    exact ⟨by simp; omega, grow_alloc (Below.refl _ _) _⟩

theorem slotAt_any (t s k n g p r i : Int) (w : World) (t0 : 0 ≤ t) (t1 : t ≤ 8) (h0 : 0 ≤ i) (h1 : i ≤ 1000000) :
    Calls Try.prog 18 #[.agg #[.int .i64 t, .int .i64 s, .int .i64 k, .int .i64 n, .int .i64 g, .int .i64 p, .int .i64 r], .int .i64 i] w fun e w' => e = .returned (.int .i64 (6 + t + i * 2)) ∧ Below w.heap.size w w' := by
  go_enter Try.func18, Try.ntmps18
  go_wp2_with (go_at_call 39; refine (lpin_any _ _ (by omega) (by omega)).mono ?_; rintro e w' ⟨rfl, rfl⟩)
  go_ret
  exact ⟨rfl, grow_alloc (Below.refl _ _) _⟩

theorem slink_any (L : Loc) (c0 c1 c2 c3 c4 c5 c6 who sl : Int) (w : World) (hc : 0 ≤ c0 ∧ c0 ≤ 8) (hs : 0 ≤ sl ∧ sl ≤ 65536) :
    Calls Try.prog 64 #[.agg #[.int .i64 c0, .int .i64 c1, .int .i64 c2, .int .i64 c3, .int .i64 c4, .int .i64 c5, .int .i64 c6, .pointer (some ⟨L.p, 0, none⟩), .int .i64 who], .int .i64 sl] w fun e w' => e = .returned (.int .i64 (6 + c0 + sl * 2 + 1)) ∧ Below w.heap.size w w' := by
  obtain ⟨hc1, hc2⟩ := hc
  obtain ⟨hs1, hs2⟩ := hs
  go_enter Try.func64, Try.ntmps64
  go_wp2_with (go_at_call 18; refine (slotAt_any _ _ _ _ _ _ _ _ _ (by omega) (by omega) (by omega) (by omega)).mono ?_; rintro e w' ⟨rfl, b1⟩)
  go_ret
  exact ⟨rfl, grow (grow_alloc (Below.refl _ _) _) b1⟩

/-- what an exchange of the first free slot comes to -/
def SwTo (s : Mm) (H C : Nat) (n : Int) (d : Bool) (z v : Int) : Prop := (s.wd 1 = topw H C ∧ d = true ∧ z = 3 ∧ v = n) ∨ (¬ s.wd 1 = topw H C ∧ d = false ∧ z = 0 ∧ v = s.wd 1)
theorem SwTo.dec {s : Mm} {H C : Nat} {n z v : Int} {d : Bool} (h : SwTo s H C n d z v) : decide (s.wd 1 = topw H C) = d ∧ (s.by 0).wd 1 = s.wd 1 ∧ v = if s.wd 1 = topw H C then n else s.wd 1 := by
  rcases h with ⟨e, rfl, rfl, rfl⟩ | ⟨e, rfl, rfl, rfl⟩
  · exact ⟨decide_eq_true e, rfl, (if_pos e).symm⟩
  · exact ⟨decide_eq_false e, rfl, (if_neg e).symm⟩

theorem swap_any {w : World} {L : Loc} {s : Mm} (h : MemAt w L s) (c0 c1 c2 c3 c4 c5 c6 who : Int) (H C Q : Nat) (hn : 1 < s.n) (hH : H ≤ 65536) (hC : C ≤ 1000000) (hQ : Q ≤ 65536) {d : Bool} {z v : Int} (HZ : SwTo s H C (topw Q (C + 1)) d z v) :
    Calls Try.prog 65 #[.agg #[.int .i64 c0, .int .i64 c1, .int .i64 c2, .int .i64 c3, .int .i64 c4, .int .i64 c5, .int .i64 c6, .pointer (some ⟨L.p, 0, none⟩), .int .i64 who], .int .u64 (topw H C), .int .i64 ((Q : Int) - 1)] w fun e w' => e = .returned (.int .i64 z) ∧ MemAt w' L ((s.by who).step 1 v) ∧ Only L.has w w' := by
  have hbv : ¬ L.has w.heap.size := fun hh => by have := h.lt _ hh; omega
  go_enter Try.func65, Try.ntmps65
  go_wp2_with (go_at_call 63; refine (top_w H C _ hH (by omega)).mono ?_; rintro e w1 ⟨rfl, rfl⟩)
  refine wp_over (fun W => MemAt W L s ∧ BoxV W w.heap.size c0 c1 c2 c3 c4 c5 c6 L.p who ∧ Only L.has w W) ⟨h.alloc _, BoxV.new, (Only.refl _ _).alloc _⟩ ?_
  rintro W ⟨m1, v1, o1⟩
  refine wp_region_phase (Only L.has) Grown (fun p W' => match p with | 0 => MemAt W' L s | _ => MemAt W' L ((s.by who).step 1 v)) [7] [.val (.agg #[.int .i64 c0, .int .i64 c1, .int .i64 c2, .int .i64 c3, .int .i64 c4, .int .i64 c5, .int .i64 c6, .pointer (some ⟨L.p, 0, none⟩), .int .i64 who]), .val (.int .i64 1), .val (.int .u64 (topw H C)), .val (.int .i64 ((Q : Int) - 1)), .val (.int .i64 C), .val (.int .i64 ((C : Int) + 1)), .val (.int .u64 (topw Q (C + 1))), .val (.bool d)]
    (by kernel_rfl) (Only.refl _) (fun _ _ _ h k => h.trans k) (fun x y h => Only.ofGrown h) (fun x y p h k => by match p, k with | 0, k => exact k.below h | p + 1, k => exact k.below h) m1.drew (by kernel_rfl) (by kernel_rfl) (by kernel_rfl) (by kernel_rfl) (by kernel_rfl) ?_
  simp only [phaseAll, Act.put, List.setIfInBounds_toArray, List.set_cons_zero, List.set_cons_succ]
  refine ⟨?_, ?_, ?_, ?_, ?_, ?_, ?_, ?_, ?_⟩
  · intro w' hR _
    refine Or.inl ⟨rfl, ?_⟩
    have vv := (v1.grown ((Below.refl _ _).drew)).only hR hbv
    have y0 := vv.c0
    have y1 := vv.c1
    have y2 := vv.c2
    have y3 := vv.c3
    have y4 := vv.c4
    have y5 := vv.c5
    have y6 := vv.c6
    have y7 := vv.c7
    have y8 := vv.c8
    go_simp
    exact ⟨Grown.refl _, rfl⟩
  · intro w' hR _
    refine Or.inl ⟨rfl, ?_⟩
    go_simp
    refine (ltop_any _).mono ?_
    rintro e w'' ⟨rfl, rfl⟩
    exact ⟨_, rfl, Grown.refl _, rfl⟩
  · intro w' hR _
    refine Or.inl ⟨rfl, ?_⟩
    go_simp
    exact ⟨Grown.refl _, rfl⟩
  · intro w' hR _
    refine Or.inl ⟨rfl, ?_⟩
    go_simp
    exact ⟨Grown.refl _, rfl⟩
  · intro w' hR _
    refine Or.inl ⟨rfl, ?_⟩
    go_simp
    exact ⟨Grown.refl _, rfl⟩
  · intro w' hR _
    refine Or.inl ⟨rfl, ?_⟩
    go_simp
    exact ⟨Grown.refl _, by simp only [Want.pred]; rw [IntKind.wrap_i64]; exact congrArg (Value.int .i64) (by omega)⟩
  · intro w' hR _
    refine Or.inl ⟨rfl, ?_⟩
    go_simp
    refine (putTop_next Q C _ hQ hC).mono ?_
    rintro e w'' ⟨rfl, rfl⟩
    exact ⟨_, rfl, Grown.refl _, rfl⟩
  · intro w' hR _ hP
    refine Or.inl ⟨rfl, ?_⟩
    go_simp
    refine (ecas_in (s := s) hP _ _ _ _ _ _ _ _ 1 hn _ _).mono ?_
    rintro e w'' ⟨rfl, m2, o2⟩
    have m3 : MemAt w'' L ((s.by who).step 1 v) := by
      rcases HZ with ⟨e, -, -, rfl⟩ | ⟨e, -, -, rfl⟩
      · rw [← show (s.by who).cas 1 (topw H C) (topw Q (C + 1)) = (s.by who).step 1 (topw Q (C + 1)) from if_pos e]; exact m2
      · rw [← show (s.by who).cas 1 (topw H C) (topw Q (C + 1)) = (s.by who).step 1 (s.wd 1) from if_neg e]; exact m2
    refine ⟨_, rfl, ⟨o2, m3⟩, ?_⟩
    exact congrArg Value.bool HZ.dec.1
  intro w2 hR m2 _
  have m2' : MemAt w2 L ((s.by who).step 1 v) := m2
  have o2 : Only L.has w w2 := o1.drew.trans hR
  clear m1 v1 o1 hR m2
  rcases HZ with ⟨-, rfl, rfl, rfl⟩ | ⟨-, rfl, rfl, rfl⟩
  all_goals
    go_wp2
    go_ret
    exact ⟨rfl, m2', o2⟩

theorem swap_at {w : World} {L : Loc} {s : Mm} (h : MemAt w L s) (c0 c1 c2 c3 c4 c5 c6 who : Int) (H C sl : Nat) (hn : 1 < s.n) (hH : H ≤ 65536) (hC : C ≤ 1000000) (hs : sl ≤ 65535) {d : Bool} {z v : Int} (HZ : SwTo s H C (topw (sl + 1) (C + 1)) d z v) :
    Calls Try.prog 65 #[.agg #[.int .i64 c0, .int .i64 c1, .int .i64 c2, .int .i64 c3, .int .i64 c4, .int .i64 c5, .int .i64 c6, .pointer (some ⟨L.p, 0, none⟩), .int .i64 who], .int .u64 (topw H C), .int .i64 sl] w fun e w' => e = .returned (.int .i64 z) ∧ MemAt w' L ((s.by who).step 1 v) ∧ Only L.has w w' := by
  have k := swap_any h c0 c1 c2 c3 c4 c5 c6 who H C (sl + 1) hn hH hC (by omega) HZ
  have e : ((sl + 1 : Nat) : Int) - 1 = sl := by omega
  rwa [e] at k

set_option maxHeartbeats 400000 in
theorem tload_any {w : World} {L : Loc} {s : Mm} {b o : Nat} {T : TypeId} {cs : Array Value} {tp sl bh : Int} (h : MemAt w L s) (hb : ¬ L.has b) (hi : At w b o T cs (TkV 0 tp sl bh)) (c0 c1 c2 c3 c4 c5 c6 who : Int) (H C : Nat) (hn : 1 < s.n) (hw : s.wd 1 = topw H C) (hC : C ≤ 1000000) (hH : H ≤ 65536) {d : Bool} {z : Int} (hd : decide (0 ≤ (H : Int) - 1 ∧ (H : Int) - 1 < c1) = d) (hz : (d = true ∧ z = 1) ∨ (d = false ∧ z = 4)) :
    Calls Try.prog 62 #[.pointer (some ⟨b, o, none⟩), .agg #[.int .i64 c0, .int .i64 c1, .int .i64 c2, .int .i64 c3, .int .i64 c4, .int .i64 c5, .int .i64 c6, .pointer (some ⟨L.p, 0, none⟩), .int .i64 who]] w fun e w' => e = .returned (.tuple #[]) ∧ ∃ cs', MemAt w' L ((s.by who).step 1 (s.wd 1)) ∧ At w' b o T cs' (TkV z (topw H C) ((H : Int) - 1) bh) ∧ Same o 4 cs cs' ∧ Only (L.and b) w w' := by
  have hbv : ¬ L.has w.heap.size := fun hh => by have := h.lt _ hh; omega
  have hbb : ¬ w.heap.size = b := fun hh => by have := hi.lt; omega
  have t1 := fun w => top_w H C w (by omega) (by omega)
  obtain ⟨X, hX⟩ : ∃ X, s.wd 1 = X := ⟨_, rfl⟩
  rw [hX] at hw ⊢
  subst hw
  go_enter Try.func62, Try.ntmps62
  go_wp2
  refine wp_over (fun W => MemAt W L s ∧ At W b o T cs (TkV 0 tp sl bh) ∧ BoxV W w.heap.size c0 c1 c2 c3 c4 c5 c6 L.p who ∧ Only (L.and b) w W) ⟨h.alloc _, hi.grown (grow_alloc (Below.refl _ _) _), BoxV.new, (Only.refl _ _).alloc _⟩ ?_
  rintro W ⟨m1, i1, v1, o1⟩
  refine wp_region_phase (Only (L.and b)) Grown (phAt L b o T cs (cs.setIfInBounds (o + 1) (.int .u64 (topw H C))) s ((s.by who).step 1 (topw H C)) (TkV 0 tp sl bh) (TkV 0 (topw H C) sl bh)) [3, 6] [.val (.pointer (some ⟨b, o, none⟩)), .val (.agg #[.int .i64 c0, .int .i64 c1, .int .i64 c2, .int .i64 c3, .int .i64 c4, .int .i64 c5, .int .i64 c6, .pointer (some ⟨L.p, 0, none⟩), .int .i64 who]), .val (.int .i64 1), .val (.int .u64 (topw H C)), .val (.pointer (some ⟨b, o, none⟩)), .val (.pointer (some ⟨b, o + 1, none⟩)), .that (fun _ _ => True) (fun _ _ _ _ _ => trivial)]
    (by kernel_rfl) (Only.refl _) (fun _ _ _ h k => h.trans k) (fun x y h => Only.ofGrown h) phAt_grown ⟨m1.drew, i1.drew⟩ (by kernel_rfl) (by kernel_rfl) (by kernel_rfl) (by kernel_rfl) (by kernel_rfl) ?_
  simp only [phaseAll, Act.put, List.setIfInBounds_toArray, List.set_cons_zero, List.set_cons_succ]
  refine ⟨?_, ?_, ?_, ?_, ?_, ?_, ?_, ?_⟩
  · intro w' hR _
    refine Or.inl ⟨rfl, ?_⟩
    go_simp
    exact ⟨Grown.refl _, rfl⟩
  · intro w' hR _
    refine Or.inl ⟨rfl, ?_⟩
    have vv := (v1.grown ((Below.refl _ _).drew)).only hR (fun hh => hh.elim hbv hbb)
    have y0 := vv.c0
    have y1 := vv.c1
    have y2 := vv.c2
    have y3 := vv.c3
    have y4 := vv.c4
    have y5 := vv.c5
    have y6 := vv.c6
    have y7 := vv.c7
    have y8 := vv.c8
    go_simp
    exact ⟨Grown.refl _, rfl⟩
  · intro w' hR _
    refine Or.inl ⟨rfl, ?_⟩
    go_simp
    refine (ltop_any _).mono ?_
    rintro e w'' ⟨rfl, rfl⟩
    exact ⟨_, rfl, Grown.refl _, rfl⟩
  · intro w' hR _ hP
    refine Or.inl ⟨rfl, ?_⟩
    go_simp
    refine (eload_in (s := s) hP.1 _ _ _ _ _ _ _ _ 1 hn).mono ?_
    rintro e w'' ⟨rfl, m2, o2⟩
    rw [hX] at m2
    exact ⟨_, rfl, ⟨o2.andL, m2, hP.2.only o2 hb⟩, by simp [Want.pred, hX]⟩
  · intro w' hR _
    refine Or.inl ⟨rfl, ?_⟩
    go_simp
    exact ⟨Grown.refl _, rfl⟩
  · intro w' hR _
    refine Or.inl ⟨rfl, ?_⟩
    go_simp
    exact ⟨Grown.refl _, rfl⟩
  · intro w' hR _ hP
    refine Or.inl ⟨rfl, ?_⟩
    have z0 := hP.2.cell 1 rfl
    have z1 := hP.2.fz
    go_simp
    exact ⟨⟨(Only.refl _ _).set _ _, hP.1.setIn hb _ _, hP.2.set 1 _⟩, trivial⟩
  intro v w2 hR hP _
  obtain ⟨m2, i2⟩ : MemAt w2 L ((s.by who).step 1 (topw H C)) ∧ At w2 b o T (cs.setIfInBounds (o + 1) (.int .u64 (topw H C))) (TkV 0 (topw H C) sl bh) := hP
  have o2 : Only (L.and b) w w2 := o1.drew.trans hR
  have v2 := (v1.grown ((Below.refl _ _).drew)).only hR (fun hh => hh.elim hbv hbb)
  have s2 : Same o 4 cs (cs.setIfInBounds (o + 1) (.int .u64 (topw H C))) := Same.refl.set (by omega) _
  clear hR o1 v1 m1 i1 hX
  have k0 := i2.cell0 rfl
  have k1 := i2.cell 1 rfl
  have k2 := i2.cell 2 rfl
  have kf := i2.fz
  go_wp2_with (go_at_call 63; refine (t1 _).mono ?_; rintro e w1 ⟨rfl, rfl⟩)
  have i3 := (i2.set 2 (.int .i64 ((H : Int) - 1))).set0 (.int .i64 1)
  have m3 := (m2.setIn hb (o + 2) (.int .i64 ((H : Int) - 1))).setIn hb o (.int .i64 1)
  have o3 := (o2.set (o + 2) (.int .i64 ((H : Int) - 1))).set o (.int .i64 1)
  have s3 := (s2.set (j := o + 2) (by omega) (.int .i64 ((H : Int) - 1))).set (j := o) (by omega) (.int .i64 1)
  refine wp_over (fun W => MemAt W L _ ∧ At W b o T _ (TkV 1 (topw H C) ((H : Int) - 1) bh) ∧ BoxV W w.heap.size c0 c1 c2 c3 c4 c5 c6 L.p who ∧ Only (L.and b) w W) ⟨m3, i3, (v2.setIn hbb _ _).setIn hbb _ _, o3⟩ ?_
  clear m2 i2 o2 v2 s2 k0 k1 k2 kf m3 i3 o3
  rintro W3 ⟨m3, i3, v3, o3⟩
  have e0 := fun N : Later W3 => (v3.grown N.below).c0
  have e1 := fun N : Later W3 => (v3.grown N.below).c1
  have e2 := fun N : Later W3 => (v3.grown N.below).c2
  have e3 := fun N : Later W3 => (v3.grown N.below).c3
  have e4 := fun N : Later W3 => (v3.grown N.below).c4
  have e5 := fun N : Later W3 => (v3.grown N.below).c5
  have e6 := fun N : Later W3 => (v3.grown N.below).c6
  have e7 := fun N : Later W3 => (v3.grown N.below).c7
  have e8 := fun N : Later W3 => (v3.grown N.below).c8
  have e9 := fun N : Later W3 => (i3.grown N.below).cell 2 rfl
  haveI := Later.exists W3
  refine wp_region_later (by kernel_rfl) (by kernel_rfl) ?_
  repeat (go_big_quiet_step ((go_at_call 78; exact Calls.later (shas_any L _ _ _ _ _ _ _ _ _ _ d hd))))
  refine wpQuiet_nil ?_
  rintro _ ⟨nq, rfl⟩
  have i4 := i3.grown nq.below
  have m4 := m3.below nq.below
  have o4 : Only (L.and b) w nq.now := o3.trans (Only.ofGrown nq.below)
  clear e0 e1 e2 e3 e4 e5 e6 e7 e8 e9 v3 i3 m3 o3
  have k0 := i4.cell0 rfl
  have kf := i4.fz
  rcases hz with ⟨rfl, rfl⟩ | ⟨rfl, rfl⟩
  · go_wp2
    go_end0
    exact ⟨rfl, _, m4, i4, s3, o4⟩
  · go_wp2
    go_end0
    exact ⟨rfl, _, m4.setIn hb _ _, i4.set0 _, s3.set (j := o) (by omega) _, o4.set _ _⟩

theorem tstep_some {w : World} {L : Loc} {s : Mm} {b o : Nat} {T : TypeId} {cs : Array Value} {tp sl bh : Int} (h : MemAt w L s) (hb : ¬ L.has b) (hi : At w b o T cs (TkV 0 tp sl bh)) (c0 c1 c2 c3 c4 c5 c6 who : Int) (H C : Nat) (hn : 1 < s.n) (hw : s.wd 1 = topw (H + 1) C) (hC : C ≤ 1000000) (hH : H ≤ 65535) (yes : (H : Int) < c1) :
    Calls Try.prog 46 #[.pointer (some ⟨b, o, none⟩), .agg #[.int .i64 c0, .int .i64 c1, .int .i64 c2, .int .i64 c3, .int .i64 c4, .int .i64 c5, .int .i64 c6, .pointer (some ⟨L.p, 0, none⟩), .int .i64 who]] w fun e w' => e = .returned (.bool false) ∧ ∃ cs', MemAt w' L ((s.by who).step 1 (s.wd 1)) ∧ At w' b o T cs' (TkV 1 (topw (H + 1) C) (H : Int) bh) ∧ Same o 4 cs cs' ∧ Only (L.and b) w w' := by
  have k0 := hi.cell0 rfl
  have m1 := h.alloc (.cells #[.int .i64 c0, .int .i64 c1, .int .i64 c2, .int .i64 c3, .int .i64 c4, .int .i64 c5, .int .i64 c6, .pointer (some ⟨L.p, 0, none⟩), .int .i64 who] 27)
  have i1 := hi.grown (grow_alloc (Below.refl _ _) (.cells #[.int .i64 c0, .int .i64 c1, .int .i64 c2, .int .i64 c3, .int .i64 c4, .int .i64 c5, .int .i64 c6, .pointer (some ⟨L.p, 0, none⟩), .int .i64 who] 27))
  have o1 : Only (L.and b) w (w.alloc (.cells #[.int .i64 c0, .int .i64 c1, .int .i64 c2, .int .i64 c3, .int .i64 c4, .int .i64 c5, .int .i64 c6, .pointer (some ⟨L.p, 0, none⟩), .int .i64 who] 27)) := (Only.refl _ _).alloc _
  have k1 := i1.cell0 rfl
  go_enter Try.func46, Try.ntmps46
  go_wp2_with (go_at_call 62; refine (tload_any m1 hb i1 _ _ _ _ _ _ _ _ (H + 1) C hn hw hC (by omega) (d := true) (decide_eq_true ⟨by omega, by omega⟩) (Or.inl ⟨rfl, rfl⟩)).mono ?_; rintro e w2 ⟨rfl, cs', m2, i2, s2, o2⟩; rw [show ((H + 1 : Nat) : Int) - 1 = H by omega] at i2; have k2 := i2.cell0 rfl)
  go_ret
  exact ⟨rfl, cs', m2, i2, s2, o1.trans o2⟩

theorem tstep_none {w : World} {L : Loc} {s : Mm} {b o : Nat} {T : TypeId} {cs : Array Value} {tp sl bh : Int} (h : MemAt w L s) (hb : ¬ L.has b) (hi : At w b o T cs (TkV 0 tp sl bh)) (c0 c1 c2 c3 c4 c5 c6 who : Int) (C : Nat) (hn : 1 < s.n) (hw : s.wd 1 = topw 0 C) (hC : C ≤ 1000000)  :
    Calls Try.prog 46 #[.pointer (some ⟨b, o, none⟩), .agg #[.int .i64 c0, .int .i64 c1, .int .i64 c2, .int .i64 c3, .int .i64 c4, .int .i64 c5, .int .i64 c6, .pointer (some ⟨L.p, 0, none⟩), .int .i64 who]] w fun e w' => e = .returned (.bool true) ∧ ∃ cs', MemAt w' L ((s.by who).step 1 (s.wd 1)) ∧ At w' b o T cs' (TkV 4 (topw 0 C) (-1 : Int) bh) ∧ Same o 4 cs cs' ∧ Only (L.and b) w w' := by
  have k0 := hi.cell0 rfl
  have m1 := h.alloc (.cells #[.int .i64 c0, .int .i64 c1, .int .i64 c2, .int .i64 c3, .int .i64 c4, .int .i64 c5, .int .i64 c6, .pointer (some ⟨L.p, 0, none⟩), .int .i64 who] 27)
  have i1 := hi.grown (grow_alloc (Below.refl _ _) (.cells #[.int .i64 c0, .int .i64 c1, .int .i64 c2, .int .i64 c3, .int .i64 c4, .int .i64 c5, .int .i64 c6, .pointer (some ⟨L.p, 0, none⟩), .int .i64 who] 27))
  have o1 : Only (L.and b) w (w.alloc (.cells #[.int .i64 c0, .int .i64 c1, .int .i64 c2, .int .i64 c3, .int .i64 c4, .int .i64 c5, .int .i64 c6, .pointer (some ⟨L.p, 0, none⟩), .int .i64 who] 27)) := (Only.refl _ _).alloc _
  have k1 := i1.cell0 rfl
  go_enter Try.func46, Try.ntmps46
  go_wp2_with (go_at_call 62; refine (tload_any m1 hb i1 _ _ _ _ _ _ _ _ 0 C hn hw hC (by omega) (d := false) (decide_eq_false (by omega)) (Or.inr ⟨rfl, rfl⟩)).mono ?_; rintro e w2 ⟨rfl, cs', m2, i2, s2, o2⟩; have k2 := i2.cell0 rfl)
  go_ret
  exact ⟨rfl, cs', m2, i2, s2, o1.trans o2⟩

theorem tstep_link {w : World} {L : Loc} {s : Mm} {b o : Nat} {T : TypeId} {cs : Array Value} {tp bh : Int} (h : MemAt w L s) (hb : ¬ L.has b) {sl : Nat} (hi : At w b o T cs (TkV 1 tp sl bh)) (c0 c1 c2 c3 c4 c5 c6 who : Int) (Q A : Nat) (hA : (6 : Int) + c0 + (sl : Int) * 2 + 1 = A) (ht0 : 0 ≤ c0) (ht8 : c0 ≤ 8) (hs : sl ≤ 65535) (hn : A < s.n) (hw : s.wd A = topw Q 0) (hQ : Q ≤ 65536) :
    Calls Try.prog 46 #[.pointer (some ⟨b, o, none⟩), .agg #[.int .i64 c0, .int .i64 c1, .int .i64 c2, .int .i64 c3, .int .i64 c4, .int .i64 c5, .int .i64 c6, .pointer (some ⟨L.p, 0, none⟩), .int .i64 who]] w fun e w' => e = .returned (.bool false) ∧ ∃ cs', MemAt w' L ((s.by who).step A (s.wd A)) ∧ At w' b o T cs' (TkV 2 tp sl ((Q : Int) - 1)) ∧ Same o 4 cs cs' ∧ Only (L.and b) w w' := by
  have hbv : ¬ L.has w.heap.size := fun hh => by have := h.lt _ hh; omega
  have hbb : ¬ w.heap.size = b := fun hh => by have := hi.lt; omega
  have k0 := fun O => alloc_cell (hi.cell0 rfl) O
  have HA : Hid ((6 : Int) + c0 + (sl : Int) * 2 + 1 = A) := hA
  clear hA
  obtain ⟨X, hX⟩ : ∃ X, s.wd A = X := ⟨_, rfl⟩
  rw [hX] at hw ⊢
  have HX : Hid (s.wd A = topw Q 0) := hX.trans hw
  subst hw
  clear hX
  go_enter Try.func46, Try.ntmps46
  go_wp2
  refine wp_over (fun W => MemAt W L s ∧ At W b o T cs (TkV 1 tp sl bh) ∧ BoxV W w.heap.size c0 c1 c2 c3 c4 c5 c6 L.p who ∧ Only (L.and b) w W) ⟨h.alloc _, hi.grown (grow_alloc (Below.refl _ _) _), BoxV.new, (Only.refl _ _).alloc _⟩ ?_
  rintro W ⟨m1, i1, v1, o1⟩
  refine wp_region_phase (OnlyBut L b (o + 3)) Grown (phAt L b o T cs (cs.setIfInBounds (o + 3) (.int .i64 ((Q : Int) - 1))) s ((s.by who).step A (topw Q 0)) (TkV 1 tp sl bh) (TkV 1 tp sl ((Q : Int) - 1))) [8, 15] [.val (.pointer (some ⟨b, o, none⟩)), .val (.agg #[.int .i64 c0, .int .i64 c1, .int .i64 c2, .int .i64 c3, .int .i64 c4, .int .i64 c5, .int .i64 c6, .pointer (some ⟨L.p, 0, none⟩), .int .i64 who]), .val (.agg #[.int .i64 c0, .int .i64 c1, .int .i64 c2, .int .i64 c3, .int .i64 c4, .int .i64 c5, .int .i64 c6, .pointer (some ⟨L.p, 0, none⟩), .int .i64 who]), .val (.pointer (some ⟨b, o, none⟩)), .val (.pointer (some ⟨b, o, none⟩)), .val (.pointer (some ⟨b, o + 2, none⟩)), .val (.int .i64 sl), .val (.int .i64 A), .val (.int .u64 (topw Q 0)), .val (.tuple #[.int .i64 ((Q : Int) - 1), .int .i64 0]), .val (.tuple #[.int .i64 ((Q : Int) - 1), .int .i64 0]), .val (.int .i64 ((Q : Int) - 1)), .val (.int .i64 0), .val (.pointer (some ⟨b, o, none⟩)), .val (.pointer (some ⟨b, o + 3, none⟩)), .that (fun _ _ => True) (fun _ _ _ _ _ => trivial)]
    (by kernel_rfl) OnlyBut.refl OnlyBut.trans OnlyBut.ofGrown phAt_grown ⟨m1.drew, i1.drew⟩ (by kernel_rfl) (by kernel_rfl) (by kernel_rfl) (by kernel_rfl) (by kernel_rfl) ?_
  simp only [phaseAll, Act.put, List.setIfInBounds_toArray, List.set_cons_zero, List.set_cons_succ]
  refine ⟨?_, ?_, ?_, ?_, ?_, ?_, ?_, ?_, ?_, ?_, ?_, ?_, ?_, ?_, ?_, ?_, ?_⟩
  · intro w' hR _
    refine Or.inl ⟨rfl, ?_⟩
    go_simp
    exact ⟨Grown.refl _, rfl⟩
  · intro w' hR _
    refine Or.inl ⟨rfl, ?_⟩
    have vv := (v1.grown ((Below.refl _ _).drew)).only hR.only (fun hh => hh.elim hbv hbb)
    have y0 := vv.c0
    have y1 := vv.c1
    have y2 := vv.c2
    have y3 := vv.c3
    have y4 := vv.c4
    have y5 := vv.c5
    have y6 := vv.c6
    have y7 := vv.c7
    have y8 := vv.c8
    go_simp
    exact ⟨Grown.refl _, rfl⟩
  · intro w' hR _
    refine Or.inl ⟨rfl, ?_⟩
    have vv := (v1.grown ((Below.refl _ _).drew)).only hR.only (fun hh => hh.elim hbv hbb)
    have y0 := vv.c0
    have y1 := vv.c1
    have y2 := vv.c2
    have y3 := vv.c3
    have y4 := vv.c4
    have y5 := vv.c5
    have y6 := vv.c6
    have y7 := vv.c7
    have y8 := vv.c8
    go_simp
    exact ⟨Grown.refl _, rfl⟩
  · intro w' hR _
    refine Or.inl ⟨rfl, ?_⟩
    go_simp
    exact ⟨Grown.refl _, rfl⟩
  · intro w' hR _
    refine Or.inl ⟨rfl, ?_⟩
    go_simp
    exact ⟨Grown.refl _, rfl⟩
  · intro w' hR _
    refine Or.inl ⟨rfl, ?_⟩
    go_simp
    exact ⟨Grown.refl _, rfl⟩
  · intro w' hR _
    refine Or.inl ⟨rfl, ?_⟩
    have z := hR.keep (j := o + 2) (by omega) (i1.drew.cell 2 rfl)
    go_simp
    exact ⟨Grown.refl _, rfl⟩
  · intro w' hR _
    refine Or.inl ⟨rfl, ?_⟩
    go_simp
    refine (slink_any L _ _ _ _ _ _ _ _ _ _ ⟨ht0, ht8⟩ (by omega)).mono ?_
    rintro e w'' ⟨rfl, b9⟩
    exact ⟨_, rfl, b9, by rw [HA.out]; rfl⟩
  · intro w' hR _ hP
    refine Or.inl ⟨rfl, ?_⟩
    go_simp
    refine (eload_in (s := s) hP.1 _ _ _ _ _ _ _ _ A hn).mono ?_
    rintro e w'' ⟨rfl, m2, o2⟩
    rw [HX.out] at m2
    exact ⟨_, rfl, ⟨OnlyBut.ofOnly o2 hb, m2, hP.2.only o2 hb⟩, by simp [Want.pred, HX.out]⟩
  · intro w' hR _
    refine Or.inl ⟨rfl, ?_⟩
    go_simp
    refine (top_w Q 0 _ hQ (by omega)).mono ?_
    rintro e w'' ⟨rfl, rfl⟩
    exact ⟨_, rfl, Grown.refl _, rfl⟩
  · intro w' hR _
    refine Or.inl ⟨rfl, ?_⟩
    go_simp
    exact ⟨Grown.refl _, rfl⟩
  · intro w' hR _
    refine Or.inl ⟨rfl, ?_⟩
    go_simp
    exact ⟨Grown.refl _, rfl⟩
  · intro w' hR _
    refine Or.inl ⟨rfl, ?_⟩
    go_simp
    exact ⟨Grown.refl _, rfl⟩
  · intro w' hR _
    refine Or.inl ⟨rfl, ?_⟩
    go_simp
    exact ⟨Grown.refl _, rfl⟩
  · intro w' hR _
    refine Or.inl ⟨rfl, ?_⟩
    go_simp
    exact ⟨Grown.refl _, rfl⟩
  · intro w' hR _ hP
    refine Or.inl ⟨rfl, ?_⟩
    have z0 := hP.2.cell 3 rfl
    have z1 := hP.2.fz
    go_simp
    exact ⟨⟨OnlyBut.set _ _, hP.1.setIn hb _ _, hP.2.set 3 _⟩, trivial⟩
  intro v w2 hR hP _
  obtain ⟨m2, i2⟩ : MemAt w2 L ((s.by who).step A (topw Q 0)) ∧ At w2 b o T (cs.setIfInBounds (o + 3) (.int .i64 ((Q : Int) - 1))) (TkV 1 tp sl ((Q : Int) - 1)) := hP
  have o2 : Only (L.and b) w w2 := o1.drew.trans hR.only
  have s2 : Same o 4 cs (cs.setIfInBounds (o + 3) (.int .i64 ((Q : Int) - 1))) := Same.refl.set (by omega) _
  clear hR o1 v1 m1 i1 k0 HX HA
  have k0 := i2.cell0 rfl
  have kf := i2.fz
  go_wp2
  go_ret
  exact ⟨rfl, _, m2.setIn hb _ _, i2.set0 _, s2.set (j := o) (by omega) _, o2.set _ _⟩

theorem tstep_swap {w : World} {L : Loc} {s : Mm} {b o : Nat} {T : TypeId} {cs : Array Value} {sl : Int} (h : MemAt w L s) (hb : ¬ L.has b) (H C Q : Nat) (hi : At w b o T cs (TkV 2 (topw H C) sl ((Q : Int) - 1))) (c0 c1 c2 c3 c4 c5 c6 who : Int) (hn : 1 < s.n) (hH : H ≤ 65536) (hC : C ≤ 1000000) (hQ : Q ≤ 65536) {d : Bool} {z nv : Int} (HZ : SwTo s H C (topw Q (C + 1)) d z nv) :
    Calls Try.prog 46 #[.pointer (some ⟨b, o, none⟩), .agg #[.int .i64 c0, .int .i64 c1, .int .i64 c2, .int .i64 c3, .int .i64 c4, .int .i64 c5, .int .i64 c6, .pointer (some ⟨L.p, 0, none⟩), .int .i64 who]] w fun e w' => e = .returned (.bool d) ∧ ∃ cs', MemAt w' L ((s.by who).step 1 nv) ∧ At w' b o T cs' (TkV z (topw H C) sl ((Q : Int) - 1)) ∧ Same o 4 cs cs' ∧ Only (L.and b) w w' := by
  have hbv : ¬ L.has w.heap.size := fun hh => by have := h.lt _ hh; omega
  have hbb : ¬ w.heap.size = b := fun hh => by have := hi.lt; omega
  have k0 := fun O => alloc_cell (hi.cell0 rfl) O
  have HW : Hid (SwTo s H C (topw Q (C + 1)) d z nv) := HZ
  clear HZ
  go_enter Try.func46, Try.ntmps46
  go_wp2
  refine wp_over (fun W => MemAt W L s ∧ At W b o T cs (TkV 2 (topw H C) sl ((Q : Int) - 1)) ∧ BoxV W w.heap.size c0 c1 c2 c3 c4 c5 c6 L.p who ∧ Only (L.and b) w W) ⟨h.alloc _, hi.grown (grow_alloc (Below.refl _ _) _), BoxV.new, (Only.refl _ _).alloc _⟩ ?_
  rintro W ⟨m1, i1, v1, o1⟩
  refine wp_region_phase (OnlyBut L b o) Grown (phAt L b o T cs (cs.setIfInBounds o (.int .i64 z)) s ((s.by who).step 1 nv) (TkV 2 (topw H C) sl ((Q : Int) - 1)) (TkV z (topw H C) sl ((Q : Int) - 1))) [10, 13] [.val (.pointer (some ⟨b, o, none⟩)), .val (.agg #[.int .i64 c0, .int .i64 c1, .int .i64 c2, .int .i64 c3, .int .i64 c4, .int .i64 c5, .int .i64 c6, .pointer (some ⟨L.p, 0, none⟩), .int .i64 who]), .val (.pointer (some ⟨b, o, none⟩)), .val (.pointer (some ⟨b, o, none⟩)), .val (.pointer (some ⟨b, o + 1, none⟩)), .val (.int .u64 (topw H C)), .val (.pointer (some ⟨b, o, none⟩)), .val (.pointer (some ⟨b, o, none⟩)), .val (.pointer (some ⟨b, o + 3, none⟩)), .val (.int .i64 ((Q : Int) - 1)), .val (.int .i64 z), .val (.pointer (some ⟨b, o, none⟩)), .val (.pointer (some ⟨b, o, none⟩)), .that (fun _ _ => True) (fun _ _ _ _ _ => trivial)]
    (by kernel_rfl) OnlyBut.refl OnlyBut.trans OnlyBut.ofGrown phAt_grown ⟨m1.drew, i1.drew⟩ (by kernel_rfl) (by kernel_rfl) (by kernel_rfl) (by kernel_rfl) (by kernel_rfl) ?_
  simp only [phaseAll, Act.put, List.setIfInBounds_toArray, List.set_cons_zero, List.set_cons_succ]
  refine ⟨?_, ?_, ?_, ?_, ?_, ?_, ?_, ?_, ?_, ?_, ?_, ?_, ?_, ?_, ?_⟩
  · intro w' hR _
    refine Or.inl ⟨rfl, ?_⟩
    go_simp
    exact ⟨Grown.refl _, rfl⟩
  · intro w' hR _
    refine Or.inl ⟨rfl, ?_⟩
    have vv := (v1.grown ((Below.refl _ _).drew)).only hR.only (fun hh => hh.elim hbv hbb)
    have y0 := vv.c0
    have y1 := vv.c1
    have y2 := vv.c2
    have y3 := vv.c3
    have y4 := vv.c4
    have y5 := vv.c5
    have y6 := vv.c6
    have y7 := vv.c7
    have y8 := vv.c8
    go_simp
    exact ⟨Grown.refl _, rfl⟩
  · intro w' hR _
    refine Or.inl ⟨rfl, ?_⟩
    go_simp
    exact ⟨Grown.refl _, rfl⟩
  · intro w' hR _
    refine Or.inl ⟨rfl, ?_⟩
    go_simp
    exact ⟨Grown.refl _, rfl⟩
  · intro w' hR _
    refine Or.inl ⟨rfl, ?_⟩
    go_simp
    exact ⟨Grown.refl _, rfl⟩
  · intro w' hR _
    refine Or.inl ⟨rfl, ?_⟩
    have z := hR.keep (j := o + 1) (by omega) (i1.drew.cell 1 rfl)
    go_simp
    exact ⟨Grown.refl _, rfl⟩
  · intro w' hR _
    refine Or.inl ⟨rfl, ?_⟩
    go_simp
    exact ⟨Grown.refl _, rfl⟩
  · intro w' hR _
    refine Or.inl ⟨rfl, ?_⟩
    go_simp
    exact ⟨Grown.refl _, rfl⟩
  · intro w' hR _
    refine Or.inl ⟨rfl, ?_⟩
    go_simp
    exact ⟨Grown.refl _, rfl⟩
  · intro w' hR _
    refine Or.inl ⟨rfl, ?_⟩
    have z := hR.keep (j := o + 3) (by omega) (i1.drew.cell 3 rfl)
    go_simp
    exact ⟨Grown.refl _, rfl⟩
  · intro w' hR _ hP
    refine Or.inl ⟨rfl, ?_⟩
    go_simp
    refine (swap_any (s := s) hP.1 _ _ _ _ _ _ _ _ H C Q hn hH hC hQ HW.out).mono ?_
    rintro e w'' ⟨rfl, m2, o2⟩
    exact ⟨_, rfl, ⟨OnlyBut.ofOnly o2 hb, m2, hP.2.only o2 hb⟩, rfl⟩
  · intro w' hR _
    refine Or.inl ⟨rfl, ?_⟩
    go_simp
    exact ⟨Grown.refl _, rfl⟩
  · intro w' hR _
    refine Or.inl ⟨rfl, ?_⟩
    go_simp
    exact ⟨Grown.refl _, rfl⟩
  · intro w' hR _ hP
    refine Or.inl ⟨rfl, ?_⟩
    have z0 := hP.2.cell0 rfl
    have z1 := hP.2.fz
    go_simp
    exact ⟨⟨OnlyBut.set _ _, hP.1.setIn hb _ _, hP.2.set0 _⟩, trivial⟩
  intro v w2 hR hP _
  obtain ⟨m2, i2⟩ : MemAt w2 L ((s.by who).step 1 nv) ∧ At w2 b o T (cs.setIfInBounds o (.int .i64 z)) (TkV z (topw H C) sl ((Q : Int) - 1)) := hP
  have o2 : Only (L.and b) w w2 := o1.drew.trans hR.only
  have s2 : Same o 4 cs (cs.setIfInBounds o (.int .i64 z)) := Same.refl.set (by omega) _
  clear hR o1 v1 m1 i1 k0
  have k0 := i2.cell0 rfl
  have kf := i2.fz
  rcases HW.out with ⟨-, rfl, rfl, rfl⟩ | ⟨-, rfl, rfl, rfl⟩
  all_goals
    go_wp2
    go_ret
    exact ⟨rfl, _, m2, i2, s2, o2⟩

theorem gstep_load {w : World} {L : Loc} {s : Mm} {b o : Nat} {T : TypeId} {cs : Array Value} {tp : Int} {sl : Nat} (h : MemAt w L s) (hb : ¬ L.has b) (hi : At w b o T cs (GvV 0 sl tp)) (c0 c1 c2 c3 c4 c5 c6 who : Int) (H C : Nat) (hn : 1 < s.n) (hsl : (sl : Int) < c1) (hw : s.wd 1 = topw H C) :
    Calls Try.prog 59 #[.pointer (some ⟨b, o, none⟩), .agg #[.int .i64 c0, .int .i64 c1, .int .i64 c2, .int .i64 c3, .int .i64 c4, .int .i64 c5, .int .i64 c6, .pointer (some ⟨L.p, 0, none⟩), .int .i64 who]] w fun e w' => e = .returned (.bool false) ∧ ∃ cs', MemAt w' L ((s.by who).step 1 (s.wd 1)) ∧ At w' b o T cs' (GvV 1 sl (topw H C)) ∧ Same o 3 cs cs' ∧ Only (L.and b) w w' := by
  have hn1 : decide ((s.n : Int) ≤ 1) = false := decide_eq_false (by omega)
  have hbv : ¬ L.has w.heap.size := fun hh => by have := h.lt _ hh; omega
  have hbb : ¬ w.heap.size = b := fun hh => by have := hi.lt; omega
  obtain ⟨X, hX⟩ : ∃ X, s.wd 1 = X := ⟨_, rfl⟩
  rw [hX] at hw ⊢
  have HX : Hid (s.wd 1 = topw H C) := hX.trans hw
  subst hw
  clear hX
  go_enter Try.func59, Try.ntmps59
  go_wp2
  refine wp_over (fun W => MemAt W L s ∧ At W b o T cs (GvV 0 sl tp) ∧ BoxV W w.heap.size c0 c1 c2 c3 c4 c5 c6 L.p who ∧ Only (L.and b) w W) ⟨h.alloc _, hi.grown (grow_alloc (Below.refl _ _) _), BoxV.new, (Only.refl _ _).alloc _⟩ ?_
  rintro W ⟨m1, i1, v1, o1⟩
  have e0 := fun N : Later W => (v1.grown N.below).c0
  have e1 := fun N : Later W => (v1.grown N.below).c1
  have e2 := fun N : Later W => (v1.grown N.below).c2
  have e3 := fun N : Later W => (v1.grown N.below).c3
  have e4 := fun N : Later W => (v1.grown N.below).c4
  have e5 := fun N : Later W => (v1.grown N.below).c5
  have e6 := fun N : Later W => (v1.grown N.below).c6
  have e7 := fun N : Later W => (v1.grown N.below).c7
  have e8 := fun N : Later W => (v1.grown N.below).c8
  have e9 := fun N : Later W => (i1.grown N.below).cell 1 rfl
  have hm := fun N : Later W => m1.below N.below
  haveI := Later.exists W
  refine wp_region_later (by kernel_rfl) (by kernel_rfl) ?_
  repeat (go_big_quiet_step ((first
    | (go_at_call 78; exact Calls.later (shas_any L _ _ _ _ _ _ _ _ _ _ true (decide_eq_true ⟨by omega, by omega⟩)))
    | (go_at_call 27; exact Calls.later_same (ltop_any _))
    | (go_at_call 77; exact Calls.later_same (len_any (hm _))))))
  refine wpQuiet_nil ?_
  rintro _ ⟨nq, rfl⟩
  clear e0 e1 e2 e3 e4 e5 e6 e7 e8 e9 hm hn1
  have i2 := i1.grown nq.below
  have m2 := m1.below nq.below
  have v2 := v1.grown nq.below
  have o2 : Only (L.and b) w nq.now := o1.trans (Only.ofGrown nq.below)
  have k0 := i2.cell0 rfl
  have k2 := i2.cell 2 rfl
  have kf := i2.fz
  clear m1 i1 v1 o1
  go_wp2
  refine wp_over (fun W => MemAt W L s ∧ At W b o T cs (GvV 0 sl tp) ∧ BoxV W w.heap.size c0 c1 c2 c3 c4 c5 c6 L.p who ∧ Only (L.and b) w W) ⟨m2, i2, v2, o2⟩ ?_
  clear m2 i2 v2 o2 k0 k2 kf
  rintro W ⟨m1, i1, v1, o1⟩
  refine wp_region_phase (OnlyBut L b (o + 2)) Grown (phAt L b o T cs (cs.setIfInBounds (o + 2) (.int .u64 (topw H C))) s ((s.by who).step 1 (topw H C)) (GvV 0 sl tp) (GvV 0 sl (topw H C))) [3, 6] [.val (.pointer (some ⟨b, o, none⟩)), .val (.agg #[.int .i64 c0, .int .i64 c1, .int .i64 c2, .int .i64 c3, .int .i64 c4, .int .i64 c5, .int .i64 c6, .pointer (some ⟨L.p, 0, none⟩), .int .i64 who]), .val (.int .i64 1), .val (.int .u64 (topw H C)), .val (.pointer (some ⟨b, o, none⟩)), .val (.pointer (some ⟨b, o + 2, none⟩)), .that (fun _ _ => True) (fun _ _ _ _ _ => trivial)]
    (by kernel_rfl) OnlyBut.refl OnlyBut.trans OnlyBut.ofGrown phAt_grown ⟨m1.drew, i1.drew⟩ (by kernel_rfl) (by kernel_rfl) (by kernel_rfl) (by kernel_rfl) (by kernel_rfl) ?_
  simp only [phaseAll, Act.put, List.setIfInBounds_toArray, List.set_cons_zero, List.set_cons_succ]
  refine ⟨?_, ?_, ?_, ?_, ?_, ?_, ?_, ?_⟩
  · intro w' hR _
    refine Or.inl ⟨rfl, ?_⟩
    go_simp
    exact ⟨Grown.refl _, rfl⟩
  · intro w' hR _
    refine Or.inl ⟨rfl, ?_⟩
    have vv := (v1.grown ((Below.refl _ _).drew)).only hR.only (fun hh => hh.elim hbv hbb)
    have y0 := vv.c0
    have y1 := vv.c1
    have y2 := vv.c2
    have y3 := vv.c3
    have y4 := vv.c4
    have y5 := vv.c5
    have y6 := vv.c6
    have y7 := vv.c7
    have y8 := vv.c8
    go_simp
    exact ⟨Grown.refl _, rfl⟩
  · intro w' hR _
    refine Or.inl ⟨rfl, ?_⟩
    go_simp
    refine (ltop_any _).mono ?_
    rintro e w'' ⟨rfl, rfl⟩
    exact ⟨_, rfl, Grown.refl _, rfl⟩
  · intro w' hR _ hP
    refine Or.inl ⟨rfl, ?_⟩
    go_simp
    refine (eload_in (s := s) hP.1 _ _ _ _ _ _ _ _ 1 hn).mono ?_
    rintro e w'' ⟨rfl, m2, o2⟩
    rw [HX.out] at m2
    exact ⟨_, rfl, ⟨OnlyBut.ofOnly o2 hb, m2, hP.2.only o2 hb⟩, by simp [Want.pred, HX.out]⟩
  · intro w' hR _
    refine Or.inl ⟨rfl, ?_⟩
    go_simp
    exact ⟨Grown.refl _, rfl⟩
  · intro w' hR _
    refine Or.inl ⟨rfl, ?_⟩
    go_simp
    exact ⟨Grown.refl _, rfl⟩
  · intro w' hR _ hP
    refine Or.inl ⟨rfl, ?_⟩
    have z0 := hP.2.cell 2 rfl
    have z1 := hP.2.fz
    go_simp
    exact ⟨⟨OnlyBut.set _ _, hP.1.setIn hb _ _, hP.2.set 2 _⟩, trivial⟩
  intro v w2 hR hP _
  obtain ⟨m2, i2⟩ : MemAt w2 L ((s.by who).step 1 (topw H C)) ∧ At w2 b o T (cs.setIfInBounds (o + 2) (.int .u64 (topw H C))) (GvV 0 sl (topw H C)) := hP
  have o2 : Only (L.and b) w w2 := o1.drew.trans hR.only
  have s2 : Same o 3 cs (cs.setIfInBounds (o + 2) (.int .u64 (topw H C))) := Same.refl.set (by omega) _
  clear hR o1 v1 m1 i1 HX
  have k0 := i2.cell0 rfl
  have kf := i2.fz
  go_wp2
  go_ret
  exact ⟨rfl, _, m2.setIn hb _ _, i2.set0 _, s2.set (j := o) (by omega) _, o2.set _ _⟩

theorem gstep_lay {w : World} {L : Loc} {s : Mm} {b o : Nat} {T : TypeId} {cs : Array Value} {sl : Nat} (h : MemAt w L s) (hb : ¬ L.has b) (H C A : Nat) (hi : At w b o T cs (GvV 1 sl (topw H C))) (c0 c1 c2 c3 c4 c5 c6 who : Int) (hA : (6 : Int) + c0 + (sl : Int) * 2 + 1 = A) (ht0 : 0 ≤ c0) (ht8 : c0 ≤ 8) (hs : sl ≤ 65535) (hn : A < s.n) (hsl : (sl : Int) < c1) (hH : H ≤ 65536) (hC : C ≤ 1000000) :
    Calls Try.prog 59 #[.pointer (some ⟨b, o, none⟩), .agg #[.int .i64 c0, .int .i64 c1, .int .i64 c2, .int .i64 c3, .int .i64 c4, .int .i64 c5, .int .i64 c6, .pointer (some ⟨L.p, 0, none⟩), .int .i64 who]] w fun e w' => e = .returned (.bool false) ∧ ∃ cs', MemAt w' L ((s.by who).step A (topw H 0)) ∧ At w' b o T cs' (GvV 2 sl (topw H C)) ∧ Same o 3 cs cs' ∧ Only (L.and b) w w' := by
  have hn1 : decide ((s.n : Int) ≤ 1) = false := decide_eq_false (by omega)
  have hbv : ¬ L.has w.heap.size := fun hh => by have := h.lt _ hh; omega
  have hbb : ¬ w.heap.size = b := fun hh => by have := hi.lt; omega
  have HA : Hid ((6 : Int) + c0 + (sl : Int) * 2 + 1 = A) := hA
  clear hA
  go_enter Try.func59, Try.ntmps59
  go_wp2
  refine wp_over (fun W => MemAt W L s ∧ At W b o T cs (GvV 1 sl (topw H C)) ∧ BoxV W w.heap.size c0 c1 c2 c3 c4 c5 c6 L.p who ∧ Only (L.and b) w W) ⟨h.alloc _, hi.grown (grow_alloc (Below.refl _ _) _), BoxV.new, (Only.refl _ _).alloc _⟩ ?_
  rintro W ⟨m1, i1, v1, o1⟩
  have e0 := fun N : Later W => (v1.grown N.below).c0
  have e1 := fun N : Later W => (v1.grown N.below).c1
  have e2 := fun N : Later W => (v1.grown N.below).c2
  have e3 := fun N : Later W => (v1.grown N.below).c3
  have e4 := fun N : Later W => (v1.grown N.below).c4
  have e5 := fun N : Later W => (v1.grown N.below).c5
  have e6 := fun N : Later W => (v1.grown N.below).c6
  have e7 := fun N : Later W => (v1.grown N.below).c7
  have e8 := fun N : Later W => (v1.grown N.below).c8
  have e9 := fun N : Later W => (i1.grown N.below).cell 1 rfl
  have hm := fun N : Later W => m1.below N.below
  haveI := Later.exists W
  refine wp_region_later (by kernel_rfl) (by kernel_rfl) ?_
  repeat (go_big_quiet_step ((first
    | (go_at_call 78; exact Calls.later (shas_any L _ _ _ _ _ _ _ _ _ _ true (decide_eq_true ⟨by omega, by omega⟩)))
    | (go_at_call 27; exact Calls.later_same (ltop_any _))
    | (go_at_call 77; exact Calls.later_same (len_any (hm _))))))
  refine wpQuiet_nil ?_
  rintro _ ⟨nq, rfl⟩
  clear e0 e1 e2 e3 e4 e5 e6 e7 e8 e9 hm hn1
  have i2 := i1.grown nq.below
  have m2 := m1.below nq.below
  have v2 := v1.grown nq.below
  have o2 : Only (L.and b) w nq.now := o1.trans (Only.ofGrown nq.below)
  have k0 := i2.cell0 rfl
  have k2 := i2.cell 2 rfl
  have kf := i2.fz
  clear m1 i1 v1 o1
  go_wp2_with (go_at_call 63; refine (top_w H C _ hH (by omega)).mono ?_; rintro e w1 ⟨rfl, rfl⟩)
  refine wp_over (fun W => MemAt W L s ∧ At W b o T cs (GvV 1 sl (topw H C)) ∧ BoxV W w.heap.size c0 c1 c2 c3 c4 c5 c6 L.p who ∧ Only (L.and b) w W) ⟨m2, i2, v2, o2⟩ ?_
  clear m2 i2 v2 o2 k0 k2 kf
  rintro W ⟨m1, i1, v1, o1⟩
  refine wp_region_phase (Only L.has) Grown (fun p W' => match p with | 0 => MemAt W' L s | _ => MemAt W' L ((s.by who).step A (topw H 0))) [9] [.val (.agg #[.int .i64 c0, .int .i64 c1, .int .i64 c2, .int .i64 c3, .int .i64 c4, .int .i64 c5, .int .i64 c6, .pointer (some ⟨L.p, 0, none⟩), .int .i64 who]), .val (.agg #[.int .i64 c0, .int .i64 c1, .int .i64 c2, .int .i64 c3, .int .i64 c4, .int .i64 c5, .int .i64 c6, .pointer (some ⟨L.p, 0, none⟩), .int .i64 who]), .val (.pointer (some ⟨b, o, none⟩)), .val (.pointer (some ⟨b, o, none⟩)), .val (.pointer (some ⟨b, o + 1, none⟩)), .val (.int .i64 sl), .val (.int .i64 A), .val (.int .i64 ((H : Int) - 1)), .val (.int .u64 (topw H 0)), .that (fun _ _ => True) (fun _ _ _ _ _ => trivial)]
    (by kernel_rfl) (Only.refl _) (fun _ _ _ h k => h.trans k) (fun x y h => Only.ofGrown h) (fun x y p h k => by match p, k with | 0, k => exact k.below h | p + 1, k => exact k.below h) m1.drew (by kernel_rfl) (by kernel_rfl) (by kernel_rfl) (by kernel_rfl) (by kernel_rfl) ?_
  simp only [phaseAll, Act.put, List.setIfInBounds_toArray, List.set_cons_zero, List.set_cons_succ]
  refine ⟨?_, ?_, ?_, ?_, ?_, ?_, ?_, ?_, ?_, ?_, ?_⟩
  · intro w' hR _
    refine Or.inl ⟨rfl, ?_⟩
    have vv := (v1.grown ((Below.refl _ _).drew)).only hR hbv
    have y0 := vv.c0
    have y1 := vv.c1
    have y2 := vv.c2
    have y3 := vv.c3
    have y4 := vv.c4
    have y5 := vv.c5
    have y6 := vv.c6
    have y7 := vv.c7
    have y8 := vv.c8
    go_simp
    exact ⟨Grown.refl _, rfl⟩
  · intro w' hR _
    refine Or.inl ⟨rfl, ?_⟩
    have vv := (v1.grown ((Below.refl _ _).drew)).only hR hbv
    have y0 := vv.c0
    have y1 := vv.c1
    have y2 := vv.c2
    have y3 := vv.c3
    have y4 := vv.c4
    have y5 := vv.c5
    have y6 := vv.c6
    have y7 := vv.c7
    have y8 := vv.c8
    go_simp
    exact ⟨Grown.refl _, rfl⟩
  · intro w' hR _
    refine Or.inl ⟨rfl, ?_⟩
    go_simp
    exact ⟨Grown.refl _, rfl⟩
  · intro w' hR _
    refine Or.inl ⟨rfl, ?_⟩
    go_simp
    exact ⟨Grown.refl _, rfl⟩
  · intro w' hR _
    refine Or.inl ⟨rfl, ?_⟩
    go_simp
    exact ⟨Grown.refl _, rfl⟩
  · intro w' hR _
    refine Or.inl ⟨rfl, ?_⟩
    have z := (i1.drew.only hR hb).cell 1 rfl
    go_simp
    exact ⟨Grown.refl _, rfl⟩
  · intro w' hR _
    refine Or.inl ⟨rfl, ?_⟩
    go_simp
    refine (slink_any L _ _ _ _ _ _ _ _ _ _ ⟨ht0, ht8⟩ (by omega)).mono ?_
    rintro e w'' ⟨rfl, b9⟩
    exact ⟨_, rfl, b9, by rw [HA.out]; rfl⟩
  · intro w' hR _
    refine Or.inl ⟨rfl, ?_⟩
    go_simp
    exact ⟨Grown.refl _, rfl⟩
  · intro w' hR _
    refine Or.inl ⟨rfl, ?_⟩
    go_simp
    refine (putTop_w H 0 _ hH (by omega)).mono ?_
    rintro e w'' ⟨rfl, rfl⟩
    exact ⟨_, rfl, Grown.refl _, rfl⟩
  · intro w' hR _ hP
    refine Or.inl ⟨rfl, ?_⟩
    go_simp
    refine (estore_in (s := s) hP _ _ _ _ _ _ _ _ A hn _).mono ?_
    rintro e w'' ⟨rfl, m2, o2⟩
    exact ⟨_, rfl, ⟨o2, m2⟩, trivial⟩
  intro v w2 hR hP _
  have m2 : MemAt w2 L ((s.by who).step A (topw H 0)) := hP
  have i2 := i1.drew.only hR hb
  have o2 : Only (L.and b) w w2 := o1.drew.trans hR.andL
  clear hR o1 v1 m1 i1 HA hP
  have k0 := i2.cell0 rfl
  have kf := i2.fz
  go_wp2
  go_ret
  exact ⟨rfl, _, m2.setIn hb _ _, i2.set0 _, Same.refl.set (j := o) (by omega) _, o2.set _ _⟩

theorem gstep_swap {w : World} {L : Loc} {s : Mm} {b o : Nat} {T : TypeId} {cs : Array Value} {sl : Nat} (h : MemAt w L s) (hb : ¬ L.has b) (H C : Nat) (hi : At w b o T cs (GvV 2 sl (topw H C))) (c0 c1 c2 c3 c4 c5 c6 who : Int) (hn : 1 < s.n) (hsl : (sl : Int) < c1) (hs : sl ≤ 65535) (hH : H ≤ 65536) (hC : C ≤ 1000000) {d : Bool} {z nv : Int} (HZ : SwTo s H C (topw (sl + 1) (C + 1)) d z nv) :
    Calls Try.prog 59 #[.pointer (some ⟨b, o, none⟩), .agg #[.int .i64 c0, .int .i64 c1, .int .i64 c2, .int .i64 c3, .int .i64 c4, .int .i64 c5, .int .i64 c6, .pointer (some ⟨L.p, 0, none⟩), .int .i64 who]] w fun e w' => e = .returned (.bool d) ∧ ∃ cs', MemAt w' L ((s.by who).step 1 nv) ∧ At w' b o T cs' (GvV z sl (topw H C)) ∧ Same o 3 cs cs' ∧ Only (L.and b) w w' := by
  have hn1 : decide ((s.n : Int) ≤ 1) = false := decide_eq_false (by omega)
  have hbv : ¬ L.has w.heap.size := fun hh => by have := h.lt _ hh; omega
  have hbb : ¬ w.heap.size = b := fun hh => by have := hi.lt; omega
  have HW : Hid (SwTo s H C (topw (sl + 1) (C + 1)) d z nv) := HZ
  clear HZ
  go_enter Try.func59, Try.ntmps59
  go_wp2
  refine wp_over (fun W => MemAt W L s ∧ At W b o T cs (GvV 2 sl (topw H C)) ∧ BoxV W w.heap.size c0 c1 c2 c3 c4 c5 c6 L.p who ∧ Only (L.and b) w W) ⟨h.alloc _, hi.grown (grow_alloc (Below.refl _ _) _), BoxV.new, (Only.refl _ _).alloc _⟩ ?_
  rintro W ⟨m1, i1, v1, o1⟩
  have e0 := fun N : Later W => (v1.grown N.below).c0
  have e1 := fun N : Later W => (v1.grown N.below).c1
  have e2 := fun N : Later W => (v1.grown N.below).c2
  have e3 := fun N : Later W => (v1.grown N.below).c3
  have e4 := fun N : Later W => (v1.grown N.below).c4
  have e5 := fun N : Later W => (v1.grown N.below).c5
  have e6 := fun N : Later W => (v1.grown N.below).c6
  have e7 := fun N : Later W => (v1.grown N.below).c7
  have e8 := fun N : Later W => (v1.grown N.below).c8
  have e9 := fun N : Later W => (i1.grown N.below).cell 1 rfl
  have hm := fun N : Later W => m1.below N.below
  haveI := Later.exists W
  refine wp_region_later (by kernel_rfl) (by kernel_rfl) ?_
  repeat (go_big_quiet_step ((first
    | (go_at_call 78; exact Calls.later (shas_any L _ _ _ _ _ _ _ _ _ _ true (decide_eq_true ⟨by omega, by omega⟩)))
    | (go_at_call 27; exact Calls.later_same (ltop_any _))
    | (go_at_call 77; exact Calls.later_same (len_any (hm _))))))
  refine wpQuiet_nil ?_
  rintro _ ⟨nq, rfl⟩
  clear e0 e1 e2 e3 e4 e5 e6 e7 e8 e9 hm hn1
  have i2 := i1.grown nq.below
  have m2 := m1.below nq.below
  have v2 := v1.grown nq.below
  have o2 : Only (L.and b) w nq.now := o1.trans (Only.ofGrown nq.below)
  have k0 := i2.cell0 rfl
  have k2 := i2.cell 2 rfl
  have kf := i2.fz
  clear m1 i1 v1 o1
  go_wp2
  refine wp_over (fun W => MemAt W L s ∧ At W b o T cs (GvV 2 sl (topw H C)) ∧ BoxV W w.heap.size c0 c1 c2 c3 c4 c5 c6 L.p who ∧ Only (L.and b) w W) ⟨m2, i2, v2, o2⟩ ?_
  clear m2 i2 v2 o2 k0 k2 kf
  rintro W ⟨m1, i1, v1, o1⟩
  refine wp_region_phase (OnlyBut L b o) Grown (phAt L b o T cs (cs.setIfInBounds o (.int .i64 z)) s ((s.by who).step 1 nv) (GvV 2 sl (topw H C)) (GvV z sl (topw H C))) [10, 13] [.val (.pointer (some ⟨b, o, none⟩)), .val (.agg #[.int .i64 c0, .int .i64 c1, .int .i64 c2, .int .i64 c3, .int .i64 c4, .int .i64 c5, .int .i64 c6, .pointer (some ⟨L.p, 0, none⟩), .int .i64 who]), .val (.pointer (some ⟨b, o, none⟩)), .val (.pointer (some ⟨b, o, none⟩)), .val (.pointer (some ⟨b, o + 2, none⟩)), .val (.int .u64 (topw H C)), .val (.pointer (some ⟨b, o, none⟩)), .val (.pointer (some ⟨b, o, none⟩)), .val (.pointer (some ⟨b, o + 1, none⟩)), .val (.int .i64 sl), .val (.int .i64 z), .val (.pointer (some ⟨b, o, none⟩)), .val (.pointer (some ⟨b, o, none⟩)), .that (fun _ _ => True) (fun _ _ _ _ _ => trivial)]
    (by kernel_rfl) OnlyBut.refl OnlyBut.trans OnlyBut.ofGrown phAt_grown ⟨m1.drew, i1.drew⟩ (by kernel_rfl) (by kernel_rfl) (by kernel_rfl) (by kernel_rfl) (by kernel_rfl) ?_
  simp only [phaseAll, Act.put, List.setIfInBounds_toArray, List.set_cons_zero, List.set_cons_succ]
  refine ⟨?_, ?_, ?_, ?_, ?_, ?_, ?_, ?_, ?_, ?_, ?_, ?_, ?_, ?_, ?_⟩
  · intro w' hR _
    refine Or.inl ⟨rfl, ?_⟩
    go_simp
    exact ⟨Grown.refl _, rfl⟩
  · intro w' hR _
    refine Or.inl ⟨rfl, ?_⟩
    have vv := (v1.grown ((Below.refl _ _).drew)).only hR.only (fun hh => hh.elim hbv hbb)
    have y0 := vv.c0
    have y1 := vv.c1
    have y2 := vv.c2
    have y3 := vv.c3
    have y4 := vv.c4
    have y5 := vv.c5
    have y6 := vv.c6
    have y7 := vv.c7
    have y8 := vv.c8
    go_simp
    exact ⟨Grown.refl _, rfl⟩
  · intro w' hR _
    refine Or.inl ⟨rfl, ?_⟩
    go_simp
    exact ⟨Grown.refl _, rfl⟩
  · intro w' hR _
    refine Or.inl ⟨rfl, ?_⟩
    go_simp
    exact ⟨Grown.refl _, rfl⟩
  · intro w' hR _
    refine Or.inl ⟨rfl, ?_⟩
    go_simp
    exact ⟨Grown.refl _, rfl⟩
  · intro w' hR _
    refine Or.inl ⟨rfl, ?_⟩
    have z := hR.keep (j := o + 2) (by omega) (i1.drew.cell 2 rfl)
    go_simp
    exact ⟨Grown.refl _, rfl⟩
  · intro w' hR _
    refine Or.inl ⟨rfl, ?_⟩
    go_simp
    exact ⟨Grown.refl _, rfl⟩
  · intro w' hR _
    refine Or.inl ⟨rfl, ?_⟩
    go_simp
    exact ⟨Grown.refl _, rfl⟩
  · intro w' hR _
    refine Or.inl ⟨rfl, ?_⟩
    go_simp
    exact ⟨Grown.refl _, rfl⟩
  · intro w' hR _
    refine Or.inl ⟨rfl, ?_⟩
    have z := hR.keep (j := o + 1) (by omega) (i1.drew.cell 1 rfl)
    go_simp
    exact ⟨Grown.refl _, rfl⟩
  · intro w' hR _ hP
    refine Or.inl ⟨rfl, ?_⟩
    go_simp
    refine (swap_at (s := s) hP.1 _ _ _ _ _ _ _ _ H C sl hn hH hC hs HW.out).mono ?_
    rintro e w'' ⟨rfl, m2, o2⟩
    exact ⟨_, rfl, ⟨OnlyBut.ofOnly o2 hb, m2, hP.2.only o2 hb⟩, rfl⟩
  · intro w' hR _
    refine Or.inl ⟨rfl, ?_⟩
    go_simp
    exact ⟨Grown.refl _, rfl⟩
  · intro w' hR _
    refine Or.inl ⟨rfl, ?_⟩
    go_simp
    exact ⟨Grown.refl _, rfl⟩
  · intro w' hR _ hP
    refine Or.inl ⟨rfl, ?_⟩
    have z0 := hP.2.cell0 rfl
    have z1 := hP.2.fz
    go_simp
    exact ⟨⟨OnlyBut.set _ _, hP.1.setIn hb _ _, hP.2.set0 _⟩, trivial⟩
  intro v w2 hR hP _
  obtain ⟨m2, i2⟩ : MemAt w2 L ((s.by who).step 1 nv) ∧ At w2 b o T (cs.setIfInBounds o (.int .i64 z)) (GvV z sl (topw H C)) := hP
  have o2 : Only (L.and b) w w2 := o1.drew.trans hR.only
  have s2 : Same o 3 cs (cs.setIfInBounds o (.int .i64 z)) := Same.refl.set (by omega) _
  clear hR o1 v1 m1 i1
  have k0 := i2.cell0 rfl
  have kf := i2.fz
  rcases HW.out with ⟨-, rfl, rfl, rfl⟩ | ⟨-, rfl, rfl, rfl⟩
  all_goals
    go_wp2
    go_ret
    exact ⟨rfl, _, m2, i2, s2, o2⟩

end Go.Proofs.Ytocmkmeikcejjaa
