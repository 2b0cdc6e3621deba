/- What a step of a thread that pins comes to, whatever it does next. -/
import Derived.Test.YthfedefdiofdnaaPin
namespace Go.Proofs.Ythfedefdiofdnaa
open Go.RowKit

/-- what a step of a thread that pins comes to: the memory, what it does next, the epoch that it loaded last, and whether it is done -/
inductive PinStep (who : Nat) (s : Mm) : Int → Int → Mm → Int → Int → Bool → Prop where
  | load (ep : Int) : PinStep who s 0 ep ((s.by who).step 0 (s.wd 0)) 1 (s.wd 0) false
  | lay (ep : Int) : PinStep who s 1 ep ((s.by who).step (6 + who) (sum64 ep 1)) 2 ep false
  | same : PinStep who s 2 (s.wd 0) ((s.by who).step 0 (s.wd 0)) 3 (s.wd 0) true
  | other (ep : Int) (h : ¬ s.wd 0 = ep) : PinStep who s 2 ep ((s.by who).step 0 (s.wd 0)) 1 (s.wd 0) false

/-- the memory and the thread, while the epoch is loaded and noted -/
def phLoad (L : Loc) (b o : Nat) (T : TypeId) (c : Array Value) (s s' : Mm) (nx ep ep' : Int) : Nat → World → Prop
  | 0, w => MemAt w L s ∧ InAt w b o T c nx ep
  | 1, w => MemAt w L s' ∧ InAt w b o T c nx ep
  | _, w => MemAt w L s' ∧ InAt w b o T (c.setIfInBounds (o + 1) (.int .u64 ep')) nx ep'

theorem Only.andL {L : Loc} {b : Nat} {w w' : World} (h : Only L.has w w') : Only (L.and b) w w' := h.mono fun _ _ k => Or.inl k
theorem Only.set {L : Loc} {b : Nat} {w w' : World} (h : Only (L.and b) w w') (i : Nat) (v : Value) : Only (L.and b) w (w'.setCell ⟨b, i, none⟩ v) := h.setCell (fun _ => Or.inr rfl) v
theorem Only.ofGrown {S : Nat → Prop} {w w' : World} (h : Below w.heap.size w w') : Only S w w' := (Only.ofBelow h).mono fun i hi k => absurd k (by omega)
theorem MemAt.setIn {L : Loc} {s : Mm} {b : Nat} {w : World} (h : MemAt w L s) (hb : ¬ L.has b) (i : Nat) (v : Value) : MemAt (w.setCell ⟨b, i, none⟩ v) L s := h.other hb v

theorem look_any {w : World} {L : Loc} {s : Mm} {b o : Nat} {T : TypeId} {c : Array Value} {ep : Int} (h : MemAt w L s) (hb : ¬ L.has b) (hi : InAt w b o T c 2 ep) (c0 c1 c2 c3 c4 c5 c6 : Int) (who : Nat) (hn : 0 < s.n) :
    Calls Try.prog 20 #[.pointer (some ⟨b, o, none⟩), .agg #[.int .i64 c0, .int .i64 c1, .int .i64 c2, .int .i64 c3, .int .i64 c4, .int .i64 c5, .int .i64 c6, .pointer (some ⟨L.p, 0, none⟩), .int .i64 who]] w fun e w' => e = .returned (.tuple #[]) ∧ ∃ c' nx', MemAt w' L ((s.by who).step 0 (s.wd 0)) ∧ InAt w' b o T c' nx' (s.wd 0) ∧ Same2 o c c' ∧ Only (L.and b) w w' ∧ ((nx' = 3 ∧ s.wd 0 = ep) ∨ (nx' = 1 ∧ ¬ s.wd 0 = ep)) := by
  have hbv : ¬ L.has w.heap.size := fun hh => by have := h.lt _ hh; omega
  go_enter Try.func20, Try.ntmps20
  go_wp2
  refine wp_over (fun W => MemAt W L s ∧ InAt W b o T c 2 ep ∧ BoxV W w.heap.size c0 c1 c2 c3 c4 c5 c6 L.p who ∧ Only (L.and b) w W) ⟨h.alloc _, hi.grown (grow_alloc (Below.refl _ _) _), BoxV.new, (Only.refl _ _).alloc _⟩ ?_
  rintro W ⟨m1, i1, v1, o1⟩
  refine wp_region_phase (Only L.has) (fun x y => y = x) (fun p W' => match p with | 0 => MemAt W' L s | _ => MemAt W' L ((s.by who).step 0 (s.wd 0))) [2] [.val (.agg #[.int .i64 c0, .int .i64 c1, .int .i64 c2, .int .i64 c3, .int .i64 c4, .int .i64 c5, .int .i64 c6, .pointer (some ⟨L.p, 0, none⟩), .int .i64 who]), .val (.int .i64 0), .val (.int .u64 (s.wd 0)), .val (.int .u64 (s.wd 0))]
    (by kernel_rfl) (Only.refl _) (fun _ _ _ h k => h.trans k) (fun x y h => by subst h; exact Only.refl _ _) (fun x y p h k => by subst h; exact k) m1.drew (by kernel_rfl) (by kernel_rfl) (by kernel_rfl) (by kernel_rfl) (by kernel_rfl) ?_
  simp only [phaseAll, Act.put, List.setIfInBounds_toArray, List.set_cons_zero, List.set_cons_succ]
  refine ⟨?_, ?_, ?_, ?_, ?_⟩
  · intro w' hR _
    refine Or.inl ⟨rfl, ?_⟩
    have vv := (v1.grown ((Below.refl _ _).drew)).only hR hbv
    have y0 := vv.c0
    have y1 := vv.c1
    have y2 := vv.c2
    have y3 := vv.c3
    have y4 := vv.c4
    have y5 := vv.c5
    have y6 := vv.c6
    have y7 := vv.c7
    have y8 := vv.c8
    go_simp
    exact ⟨rfl, rfl⟩
  · intro w' hR _
    refine Or.inl ⟨rfl, ?_⟩
    go_simp
    refine (lepoch_any _).mono ?_
    rintro e w'' ⟨rfl, rfl⟩
    exact ⟨_, rfl, rfl, rfl⟩
  · intro w' hR _ hP
    refine Or.inl ⟨rfl, ?_⟩
    go_simp
    refine (eload_in (s := s) hP _ _ _ _ _ _ _ _ 0 hn).mono ?_
    rintro e w'' ⟨rfl, m2, o2⟩
    exact ⟨_, rfl, ⟨o2, m2⟩, rfl⟩
  · intro w' hR _
    refine Or.inl ⟨rfl, ?_⟩
    go_simp
    exact ⟨rfl, rfl⟩
  intro w2 hR m2 _
  have m2' : MemAt w2 L ((s.by who).step 0 (s.wd 0)) := m2
  clear m2
  have i2 := (i1.grown ((Below.refl _ _).drew)).only hR hb
  have o2 : Only (L.and b) w w2 := o1.drew.trans (hR.andL)
  have k0 := i2.c0
  have k1 := i2.c1
  have kf := i2.fz
  clear m1 i1 v1 o1 hR
  by_cases he : s.wd 0 = ep
  · go_wp2
    refine bodyPost_ret (results_none rfl _ _ _) rfl ?_
    exact ⟨rfl, _, 3, m2'.setIn hb _ _, by rw [he]; exact i2.set0 3, Same2.set0 _, o2.set _ _, Or.inl ⟨rfl, he⟩⟩
  · go_wp2
    go_end0
    exact ⟨rfl, _, 1, (m2'.setIn hb _ _).setIn hb _ _, (i2.set1 _).set0 1, (Same2.set1 _).trans (Same2.set0 _), (o2.set _ _).set _ _, Or.inr ⟨rfl, he⟩⟩

/-- what a step leaves -/
def Stepped (who : Nat) (L : Loc) (b o : Nat) (T : TypeId) (c : Array Value) (s : Mm) (nx ep : Int) (w : World) (e : Ending) (w' : World) : Prop :=
  ∃ d s' c' nx' ep', e = .returned (.bool d) ∧ PinStep who s nx ep s' nx' ep' d ∧ MemAt w' L s' ∧ InAt w' b o T c' nx' ep' ∧ Same2 o c c' ∧ Only (L.and b) w w'

theorem step_load {w : World} {L : Loc} {s : Mm} {b o : Nat} {T : TypeId} {c : Array Value} {ep : Int} (h : MemAt w L s) (hb : ¬ L.has b) (hi : InAt w b o T c 0 ep) (c0 c1 c2 c3 c4 c5 c6 : Int) (who : Nat) (hn : 0 < s.n) (hw : (who : Int) < c0) :
    Calls Try.prog 8 #[.pointer (some ⟨b, o, none⟩), .agg #[.int .i64 c0, .int .i64 c1, .int .i64 c2, .int .i64 c3, .int .i64 c4, .int .i64 c5, .int .i64 c6, .pointer (some ⟨L.p, 0, none⟩), .int .i64 who]] w (Stepped who L b o T c s 0 ep w) := by
  have hbv : ¬ L.has w.heap.size := fun hh => by have := h.lt _ hh; omega
  have hbb : ¬ w.heap.size = b := fun hh => by have := hi.lt; omega
  go_enter Try.func8, Try.ntmps8
  go_wp2_with (go_at_call 17; refine (haspin_any L c0 c1 c2 c3 c4 c5 c6 who (by omega) hw _).mono ?_; rintro e w1 ⟨rfl, b1⟩; have i1 := (hi.grown (grow_alloc (Below.refl _ _) _)).grown b1; have k0 := i1.c0; have k1 := i1.c1; have kf := i1.fz)
  have m1 := (h.alloc (.cells #[.int .i64 c0, .int .i64 c1, .int .i64 c2, .int .i64 c3, .int .i64 c4, .int .i64 c5, .int .i64 c6, .pointer (some ⟨L.p, 0, none⟩), .int .i64 who] 27)).below b1
  have v1 : BoxV w1 w.heap.size c0 c1 c2 c3 c4 c5 c6 L.p who := BoxV.new.grown b1
  have o1 : Only (L.and b) w w1 := ((Only.refl _ _).alloc _).trans (Only.ofGrown b1)
  refine wp_region_phase (Only (L.and b)) (fun x y => y = x) (phLoad L b o T c s ((s.by who).step 0 (s.wd 0)) 0 ep (s.wd 0)) [3, 6] [.val (.pointer (some ⟨b, o, none⟩)), .val (.agg #[.int .i64 c0, .int .i64 c1, .int .i64 c2, .int .i64 c3, .int .i64 c4, .int .i64 c5, .int .i64 c6, .pointer (some ⟨L.p, 0, none⟩), .int .i64 who]), .val (.int .i64 0), .val (.int .u64 (s.wd 0)), .val (.pointer (some ⟨b, o, none⟩)), .val (.pointer (some ⟨b, o + 1, none⟩)), .that (fun _ _ => True) (fun _ _ _ _ _ => trivial)]
    (by kernel_rfl) (Only.refl _) (fun _ _ _ h k => h.trans k) (fun x y h => by subst h; exact Only.refl _ _) (fun x y p h k => by subst h; exact k) ⟨m1.drew, i1.grown ((Below.refl _ _).drew)⟩ (by kernel_rfl) (by kernel_rfl) (by kernel_rfl) (by kernel_rfl) (by kernel_rfl) ?_
  simp only [phaseAll, Act.put, List.setIfInBounds_toArray, List.set_cons_zero, List.set_cons_succ]
  refine ⟨?_, ?_, ?_, ?_, ?_, ?_, ?_, ?_⟩
  · intro w' hR _
    refine Or.inl ⟨rfl, ?_⟩
    go_simp
    exact ⟨rfl, rfl⟩
  · intro w' hR _
    refine Or.inl ⟨rfl, ?_⟩
    have vv := (v1.grown ((Below.refl _ _).drew)).only hR (fun hh => hh.elim hbv hbb)
    have y0 := vv.c0
    have y1 := vv.c1
    have y2 := vv.c2
    have y3 := vv.c3
    have y4 := vv.c4
    have y5 := vv.c5
    have y6 := vv.c6
    have y7 := vv.c7
    have y8 := vv.c8
    go_simp
    exact ⟨rfl, rfl⟩
  · intro w' hR _
    refine Or.inl ⟨rfl, ?_⟩
    go_simp
    refine (lepoch_any _).mono ?_
    rintro e w'' ⟨rfl, rfl⟩
    exact ⟨_, rfl, rfl, rfl⟩
  · intro w' hR _ hP
    refine Or.inl ⟨rfl, ?_⟩
    go_simp
    refine (eload_in (s := s) hP.1 _ _ _ _ _ _ _ _ 0 hn).mono ?_
    rintro e w'' ⟨rfl, m2, o2⟩
    exact ⟨_, rfl, ⟨o2.andL, m2, hP.2.only o2 hb⟩, rfl⟩
  · intro w' hR _
    refine Or.inl ⟨rfl, ?_⟩
    go_simp
    exact ⟨rfl, rfl⟩
  · intro w' hR _
    refine Or.inl ⟨rfl, ?_⟩
    go_simp
    exact ⟨rfl, rfl⟩
  · intro w' hR _ hP
    refine Or.inl ⟨rfl, ?_⟩
    have z0 := hP.2.c1
    have z1 := hP.2.fz
    go_simp
    exact ⟨⟨(Only.refl _ _).set _ _, hP.1.setIn hb _ _, hP.2.set1 _⟩, trivial⟩
  intro v w2 hR hP _
  obtain ⟨m2, i2⟩ : MemAt w2 L ((s.by who).step 0 (s.wd 0)) ∧ InAt w2 b o T (c.setIfInBounds (o + 1) (.int .u64 (s.wd 0))) 0 (s.wd 0) := hP
  have o2 : Only (L.and b) w w2 := o1.drew.trans hR
  clear hR o1 v1 m1 i1 k0 k1 kf
  have k0 := i2.c0
  have k1 := i2.c1
  have kf := i2.fz
  go_wp2
  go_ret
  exact ⟨false, _, _, 1, _, rfl, .load ep, m2.setIn hb _ _, i2.set0 1, (Same2.set1 _).trans (Same2.set0 _), o2.set _ _⟩

theorem step_lay {w : World} {L : Loc} {s : Mm} {b o : Nat} {T : TypeId} {c : Array Value} {ep : Int} (h : MemAt w L s) (hb : ¬ L.has b) (hi : InAt w b o T c 1 ep) (c0 c1 c2 c3 c4 c5 c6 : Int) (who : Nat) (hn : 6 + who < s.n) (hw : (who : Int) < c0) (hc : c0 ≤ 8) :
    Calls Try.prog 8 #[.pointer (some ⟨b, o, none⟩), .agg #[.int .i64 c0, .int .i64 c1, .int .i64 c2, .int .i64 c3, .int .i64 c4, .int .i64 c5, .int .i64 c6, .pointer (some ⟨L.p, 0, none⟩), .int .i64 who]] w (Stepped who L b o T c s 1 ep w) := by
  have hbv : ¬ L.has w.heap.size := fun hh => by have := h.lt _ hh; omega
  have hbb : ¬ w.heap.size = b := fun hh => by have := hi.lt; omega
  go_enter Try.func8, Try.ntmps8
  go_wp2_with (go_at_call 17; refine (haspin_any L c0 c1 c2 c3 c4 c5 c6 who (by omega) hw _).mono ?_; rintro e w1 ⟨rfl, b1⟩; have i1 := (hi.grown (grow_alloc (Below.refl _ _) _)).grown b1; have k0 := i1.c0; have k1 := i1.c1; have kf := i1.fz)
  have m1 := (h.alloc (.cells #[.int .i64 c0, .int .i64 c1, .int .i64 c2, .int .i64 c3, .int .i64 c4, .int .i64 c5, .int .i64 c6, .pointer (some ⟨L.p, 0, none⟩), .int .i64 who] 27)).below b1
  have v1 : BoxV w1 w.heap.size c0 c1 c2 c3 c4 c5 c6 L.p who := BoxV.new.grown b1
  have o1 : Only (L.and b) w w1 := ((Only.refl _ _).alloc _).trans (Only.ofGrown b1)
  refine wp_region_phase (Only L.has) (fun x y => y = x) (fun p W' => match p with | 0 => MemAt W' L s | _ => MemAt W' L ((s.by who).step (6 + who) (sum64 ep 1))) [9] [.val (.agg #[.int .i64 c0, .int .i64 c1, .int .i64 c2, .int .i64 c3, .int .i64 c4, .int .i64 c5, .int .i64 c6, .pointer (some ⟨L.p, 0, none⟩), .int .i64 who]), .val (.pointer (some ⟨w.heap.size, 8, none⟩)), .val (.int .i64 who), .val (.int .i64 (6 + who : Nat)), .val (.pointer (some ⟨b, o, none⟩)), .val (.pointer (some ⟨b, o, none⟩)), .val (.pointer (some ⟨b, o + 1, none⟩)), .val (.int .u64 ep), .val (.int .u64 (sum64 ep 1)), .that (fun _ _ => True) (fun _ _ _ _ _ => trivial)]
    (by kernel_rfl) (Only.refl _) (fun _ _ _ h k => h.trans k) (fun x y h => by subst h; exact Only.refl _ _) (fun x y p h k => by subst h; exact k) m1.drew (by kernel_rfl) (by kernel_rfl) (by kernel_rfl) (by kernel_rfl) (by kernel_rfl) ?_
  simp only [phaseAll, Act.put, List.setIfInBounds_toArray, List.set_cons_zero, List.set_cons_succ]
  refine ⟨?_, ?_, ?_, ?_, ?_, ?_, ?_, ?_, ?_, ?_, ?_⟩
  · intro w' hR _
    refine Or.inl ⟨rfl, ?_⟩
    have vv := (v1.grown ((Below.refl _ _).drew)).only hR hbv
    have y0 := vv.c0
    have y1 := vv.c1
    have y2 := vv.c2
    have y3 := vv.c3
    have y4 := vv.c4
    have y5 := vv.c5
    have y6 := vv.c6
    have y7 := vv.c7
    have y8 := vv.c8
    go_simp
    exact ⟨rfl, rfl⟩
  · intro w' hR _
    refine Or.inl ⟨rfl, ?_⟩
    go_simp
    exact ⟨rfl, rfl⟩
  · intro w' hR _
    refine Or.inl ⟨rfl, ?_⟩
    have y8 := ((v1.grown ((Below.refl _ _).drew)).only hR hbv).c8
    go_simp
    exact ⟨rfl, rfl⟩
  · intro w' hR _
    refine Or.inl ⟨rfl, ?_⟩
    go_simp
    refine (lpin_any _ _ (by omega) (by omega)).mono ?_
    rintro e w'' ⟨rfl, rfl⟩
    exact ⟨_, rfl, rfl, by simp [Want.pred]⟩
  · intro w' hR _
    refine Or.inl ⟨rfl, ?_⟩
    go_simp
    exact ⟨rfl, rfl⟩
  · intro w' hR _
    refine Or.inl ⟨rfl, ?_⟩
    go_simp
    exact ⟨rfl, rfl⟩
  · intro w' hR _
    refine Or.inl ⟨rfl, ?_⟩
    go_simp
    exact ⟨rfl, rfl⟩
  · intro w' hR _
    refine Or.inl ⟨rfl, ?_⟩
    have y1 := ((i1.grown ((Below.refl _ _).drew)).only hR hb).c1
    go_simp
    exact ⟨rfl, rfl⟩
  · intro w' hR _
    refine Or.inl ⟨rfl, ?_⟩
    go_simp
    exact ⟨rfl, rfl⟩
  · intro w' hR _ hP
    refine Or.inl ⟨rfl, ?_⟩
    go_simp
    refine (estore_in (s := s) hP _ _ _ _ _ _ _ _ (6 + who) hn _).mono ?_
    rintro e w'' ⟨rfl, m2, o2⟩
    exact ⟨_, rfl, ⟨o2, m2⟩, trivial⟩
  intro v w2 hR hP _
  have m2 : MemAt w2 L ((s.by who).step (6 + who) (sum64 ep 1)) := hP
  have i2 := (i1.grown ((Below.refl _ _).drew)).only hR hb
  have o2 : Only (L.and b) w w2 := o1.drew.trans hR.andL
  clear hR o1 v1 m1 i1 k0 k1 kf hP
  have k0 := i2.c0
  have k1 := i2.c1
  have kf := i2.fz
  go_wp2
  go_ret
  exact ⟨false, _, _, 2, _, rfl, .lay ep, m2.setIn hb _ _, i2.set0 2, Same2.set0 _, o2.set _ _⟩

theorem step_look {w : World} {L : Loc} {s : Mm} {b o : Nat} {T : TypeId} {c : Array Value} {ep : Int} (h : MemAt w L s) (hb : ¬ L.has b) (hi : InAt w b o T c 2 ep) (c0 c1 c2 c3 c4 c5 c6 : Int) (who : Nat) (hn : 0 < s.n) (hw : (who : Int) < c0) :
    Calls Try.prog 8 #[.pointer (some ⟨b, o, none⟩), .agg #[.int .i64 c0, .int .i64 c1, .int .i64 c2, .int .i64 c3, .int .i64 c4, .int .i64 c5, .int .i64 c6, .pointer (some ⟨L.p, 0, none⟩), .int .i64 who]] w (Stepped who L b o T c s 2 ep w) := by
  go_enter Try.func8, Try.ntmps8
  go_wp2_with (first
    | (go_at_call 17; refine (haspin_any L c0 c1 c2 c3 c4 c5 c6 who (by omega) hw _).mono ?_; rintro e w1 ⟨rfl, b1⟩; have i1 := (hi.grown (grow_alloc (Below.refl _ _) _)).grown b1; have v1 : BoxV w1 w.heap.size c0 c1 c2 c3 c4 c5 c6 L.p who := BoxV.new.grown b1; have k0 := i1.c0; have k1 := i1.c1; have y0 := v1.c0; have y1 := v1.c1; have y2 := v1.c2; have y3 := v1.c3; have y4 := v1.c4; have y5 := v1.c5; have y6 := v1.c6; have y7 := v1.c7; have y8 := v1.c8)
    | (go_at_call 20; refine (look_any ((h.alloc _).below b1) hb i1 _ _ _ _ _ _ _ who hn).mono ?_; rintro e w2 ⟨rfl, c', nx', m2, i2, sm, o2, hx⟩; have k0 := i2.c0))
  have o1 : Only (L.and b) w w2 := (((Only.refl _ _).alloc _).trans (Only.ofGrown b1)).trans o2
  rcases hx with ⟨rfl, rfl⟩ | ⟨rfl, hne⟩
  · go_ret
    exact ⟨true, _, _, 3, _, rfl, .same, m2, i2, sm, o1⟩
  · go_ret
    exact ⟨false, _, _, 1, _, rfl, .other ep hne, m2, i2, sm, o1⟩

theorem step_pin {w : World} {L : Loc} {s : Mm} {b o : Nat} {T : TypeId} {c : Array Value} {nx ep : Int} (h : MemAt w L s) (hb : ¬ L.has b) (hi : InAt w b o T c nx ep) (hx : nx = 0 ∨ nx = 1 ∨ nx = 2) (c0 c1 c2 c3 c4 c5 c6 : Int) (who : Nat) (hn : 6 + who < s.n) (hw : (who : Int) < c0) (hc : c0 ≤ 8) :
    Calls Try.prog 8 #[.pointer (some ⟨b, o, none⟩), .agg #[.int .i64 c0, .int .i64 c1, .int .i64 c2, .int .i64 c3, .int .i64 c4, .int .i64 c5, .int .i64 c6, .pointer (some ⟨L.p, 0, none⟩), .int .i64 who]] w (Stepped who L b o T c s nx ep w) := by
  rcases hx with rfl | rfl | rfl
  · exact step_load h hb hi _ _ _ _ _ _ _ who (by omega) hw
  · exact step_lay h hb hi _ _ _ _ _ _ _ who hn hw hc
  · exact step_look h hb hi _ _ _ _ _ _ _ who (by omega) hw

end Go.Proofs.Ythfedefdiofdnaa
