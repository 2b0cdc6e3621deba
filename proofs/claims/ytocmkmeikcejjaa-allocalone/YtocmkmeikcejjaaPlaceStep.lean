/- What a step of one who wants words comes to (package place), whatever is done next. -/
import Derived.Test.YtocmkmeikcejjaaPlaceYard
namespace Go.Proofs.Ytocmkmeikcejjaa
open Go.RowKit

/-- the cells of one who wants words -/
def PlV (nx ka sn ch ws sa sb : Int) : List Value := [.int .i64 nx, .int .i64 ka, .int .u64 sn, .int .i64 ch, .int .u64 ws, .int .i64 sa, .int .i64 sb]

theorem pat_any {w : World} {L : Loc} {b o : Nat} {ch : Nat} (hi : w.cell? ⟨b, o + 3, none⟩ = some (.int .i64 ch)) (c0 c1 c2 c3 c4 c5 c6 who : Int) (A : Nat) (ar : Arena c0 c1 c2 c3) (hch : ch ≤ 1000000) (hA : 6 + c0 + c1 * 2 + (ch : Int) * 3 = A) :
    Calls Try.prog 82 #[.pointer (some ⟨b, o, none⟩), .agg #[.int .i64 c0, .int .i64 c1, .int .i64 c2, .int .i64 c3, .int .i64 c4, .int .i64 c5, .int .i64 c6, .pointer (some ⟨L.p, 0, none⟩), .int .i64 who]] w fun e w' => e = .returned (.int .i64 A) ∧ Below w.heap.size w w' := by
  have HA : Hid (6 + c0 + c1 * 2 + (ch : Int) * 3 = A) := hA
  clear hA
  go_enter Try.func82, Try.ntmps82
  go_wp2
  refine wp_over (fun W => W.cell? ⟨b, o + 3, none⟩ = some (.int .i64 ch) ∧ BoxV W w.heap.size c0 c1 c2 c3 c4 c5 c6 L.p who ∧ Below w.heap.size w W) ⟨keep' (grow_alloc (Below.refl _ _) _) hi, BoxV.new, grow_alloc (Below.refl _ _) _⟩ ?_
  rintro W ⟨i1, v1, o1⟩
  have f3 := fun N : Later W => keep' N.below i1
  have e0 := fun N : Later W => (v1.grown N.below).c0
  have e1 := fun N : Later W => (v1.grown N.below).c1
  have e2 := fun N : Later W => (v1.grown N.below).c2
  have e3 := fun N : Later W => (v1.grown N.below).c3
  have e4 := fun N : Later W => (v1.grown N.below).c4
  have e5 := fun N : Later W => (v1.grown N.below).c5
  have e6 := fun N : Later W => (v1.grown N.below).c6
  have e7 := fun N : Later W => (v1.grown N.below).c7
  have e8 := fun N : Later W => (v1.grown N.below).c8
  haveI := Later.exists W
  refine wp_region_later (by kernel_rfl) (by kernel_rfl) ?_
  repeat (go_big_quiet_step ((go_at_call 11; exact Calls.later (lchunk_any _ _ _ _ _ _ _ _ _ ar (by omega) (by omega)))))
  refine wpQuiet_nil ?_
  rintro _ ⟨nq, rfl⟩
  clear e0 e1 e2 e3 e4 e5 e6 e7 e8 f3
  go_wp2
  go_ret
  exact ⟨ret_int HA.out, grow o1 nq.below⟩

theorem plook_any {w : World} {L : Loc} {s : Mm} {b o : Nat} {T : TypeId} {cs : Array Value} {nx ka sn ch ws sa sb : Int} (h : MemAt w L s) (hb : ¬ L.has b) (hi : At w b o T cs (PlV nx ka sn ch ws sa sb)) (c0 c1 c2 c3 c4 c5 c6 who : Int) (i nx' : Int) (hnx : (if c2 ≤ i then 8 else 3) = nx') :
    Calls Try.prog 81 #[.pointer (some ⟨b, o, none⟩), .agg #[.int .i64 c0, .int .i64 c1, .int .i64 c2, .int .i64 c3, .int .i64 c4, .int .i64 c5, .int .i64 c6, .pointer (some ⟨L.p, 0, none⟩), .int .i64 who], .int .i64 i] w fun e w' => e = .returned (.tuple #[]) ∧ MemAt w' L s ∧ Only (L.and b) w w' ∧ ∃ cs', At w' b o T cs' (PlV nx' ka sn i ws sa sb) ∧ Same o 7 cs cs' := by
  have hbv : ¬ L.has w.heap.size := fun hh => by have := h.lt _ hh; omega
  have hbb : ¬ w.heap.size = b := fun hh => by have := hi.lt; omega
  subst hnx
  have i1 := hi.grown (grow_alloc (Below.refl _ _) (.cells #[.int .i64 c0, .int .i64 c1, .int .i64 c2, .int .i64 c3, .int .i64 c4, .int .i64 c5, .int .i64 c6, .pointer (some ⟨L.p, 0, none⟩), .int .i64 who] 27))
  have k0 := i1.cell0 rfl
  have k3 := i1.cell 3 rfl
  have kf := i1.fz
  have v1 : BoxV (w.alloc (.cells #[.int .i64 c0, .int .i64 c1, .int .i64 c2, .int .i64 c3, .int .i64 c4, .int .i64 c5, .int .i64 c6, .pointer (some ⟨L.p, 0, none⟩), .int .i64 who] 27)) w.heap.size c0 c1 c2 c3 c4 c5 c6 L.p who := BoxV.new
  have v2 := ((v1.setIn hbb (o + 3) (.int .i64 i)).setIn hbb o (.int .i64 3)).c2
  have i2 := (i1.set 3 (.int .i64 i)).set0 (.int .i64 3)
  have j0 := i2.cell0 rfl
  have jf := i2.fz
  by_cases hc : c2 ≤ i
  · rw [if_pos hc]
    have i3 := i2.set0 (.int .i64 8)
    go_enter Try.func81, Try.ntmps81
    go_wp2
    go_end0
    exact ⟨rfl, (((h.alloc _).setIn hb _ _).setIn hb _ _).setIn hb _ _, ((((Only.refl _ _).alloc _).set _ _).set _ _).set _ _, _, i3, ((Same.refl.set (by omega) _).set (by omega) _).set (by omega) _⟩
  · rw [if_neg hc]
    go_enter Try.func81, Try.ntmps81
    go_wp2
    go_end0
    exact ⟨rfl, ((h.alloc _).setIn hb _ _).setIn hb _ _, (((Only.refl _ _).alloc _).set _ _).set _ _, _, i2, (Same.refl.set (by omega) _).set (by omega) _⟩

theorem pturn_any {w : World} {L : Loc} {s : Mm} {b o : Nat} {T : TypeId} {cs : Array Value} {nx ka sn sa sb : Int} {ch : Nat} (h : MemAt w L s) (hb : ¬ L.has b) (C : Ck) (hi : At w b o T cs (PlV nx ka sn ch C.w sa sb)) (c0 c1 c2 c3 c4 c5 c6 who : Int) (A : Nat) (ar : Arena c0 c1 c2 c3) (hch : ch ≤ 1000000) (hA : 6 + c0 + c1 * 2 + (ch : Int) * 3 = A) (hn : A < s.n) (x1 x2 σ : Nat) (hC : C.ok σ) (hx : x1 ≤ 3 ∧ x2 ≤ 3) (hσ : σ ≤ 1000000) (d : Bool) (hd : decide (s.wd A = C.w) = d) :
    Calls Try.prog 84 #[.pointer (some ⟨b, o, none⟩), .agg #[.int .i64 c0, .int .i64 c1, .int .i64 c2, .int .i64 c3, .int .i64 c4, .int .i64 c5, .int .i64 c6, .pointer (some ⟨L.p, 0, none⟩), .int .i64 who], .agg #[.int .i64 x1, .int .i64 x2, .int .i64 0, .int .i64 0]] w fun e w' => e = .returned (.bool d) ∧ MemAt w' L ((s.by who).cas A C.w (⟨x1, x2, 0, C.sp + 1⟩ : Ck).w) ∧ Only (L.and b) w w' ∧ ∃ cs', At w' b o T cs' (PlV nx ka sn ch (⟨x1, x2, 0, C.sp + 1⟩ : Ck).w sa sb) ∧ Same o 7 cs cs' := by
  have hbv : ¬ L.has w.heap.size := fun hh => by have := h.lt _ hh; omega
  have hbb : ¬ w.heap.size = b := fun hh => by have := hi.lt; omega
  have HA : Hid (6 + c0 + c1 * 2 + (ch : Int) * 3 = A) := hA
  have HD : Hid (decide (s.wd A = C.w) = d) := hd
  have HC : Hid (C.ok σ) := hC
  have hC4 := hC.sp
  have hN : (⟨x1, x2, 0, C.sp + 1⟩ : Ck).ok (σ + 1) := ⟨hx.1, hx.2, by simp, by simp only; omega⟩
  have HN : Hid ((⟨x1, x2, 0, C.sp + 1⟩ : Ck).ok (σ + 1)) := hN
  have hwr : wrap64 ((C.sp : Int) + 1) = ((C.sp + 1 : Nat) : Int) := by unfold wrap64; omega
  have cw := fun w => chunk_w C σ hC (by omega) w
  have pw := fun w => putChunk_w (⟨x1, x2, 0, C.sp + 1⟩ : Ck) (σ + 1) hN (by omega) x1 x2 0 ((C.sp + 1 : Nat) : Int) rfl rfl rfl rfl w
  have fl : ∀ (a1 a2 a3 a4 : Value) (w : World), (Instr.field 59 (.agg #[a1, a2, a3, a4]) 3).run Try.prog w = .ok a4 w := fun a1 a2 a3 a4 w => by kernel_rfl
  clear hA hd hN hC
  obtain ⟨X, hX⟩ : ∃ X, (⟨x1, x2, 0, C.sp + 1⟩ : Ck).w = X := ⟨_, rfl⟩
  rw [hX] at pw ⊢
  obtain ⟨Z, hZ⟩ : ∃ Z, C.w = Z := ⟨_, rfl⟩
  rw [hZ] at cw hi ⊢
  have hbc : ¬ L.has (w.heap.size + 1) := fun hh => by have := h.lt _ hh; omega
  have hbd : ¬ w.heap.size + 1 = b := fun hh => by have := hi.lt; omega
  have i0 := hi.grown (grow_alloc (grow_alloc (Below.refl _ _) (.cells #[.int .i64 c0, .int .i64 c1, .int .i64 c2, .int .i64 c3, .int .i64 c4, .int .i64 c5, .int .i64 c6, .pointer (some ⟨L.p, 0, none⟩), .int .i64 who] 27)) (.cells #[.int .i64 x1, .int .i64 x2, .int .i64 0, .int .i64 0] 59))
  have k4 := i0.cell 4 rfl
  go_enter Try.func84, Try.ntmps84
  go_wp2_with (first
    | (go_at_call 20; refine (cw _).mono ?_; rintro e w1 ⟨rfl, b1⟩; have j1 := (At.new (w.alloc (.cells #[.int .i64 c0, .int .i64 c1, .int .i64 c2, .int .i64 c3, .int .i64 c4, .int .i64 c5, .int .i64 c6, .pointer (some ⟨L.p, 0, none⟩), .int .i64 who] 27)) 59 [.int .i64 x1, .int .i64 x2, .int .i64 0, .int .i64 0]).grown b1; rw [Go.Deep.nblk_alloc] at j1; have q0 := j1.at0 0 rfl; have q1 := j1.at0 1 rfl; have q2 := j1.at0 2 rfl; have q3 := j1.at0 3 rfl; have qf := j1.fz; have j2 := j1.put0 3 (.int .i64 ((C.sp + 1 : Nat) : Int)); have r0 := j2.at0 0 rfl; have r1 := j2.at0 1 rfl; have r2 := j2.at0 2 rfl; have r3 := j2.at0 3 rfl)
    | (go_at_call 83; refine (pw _).mono ?_; rintro e w2 ⟨rfl, b2⟩))
  refine wp_over (fun W => MemAt W L s ∧ At W b o T cs (PlV nx ka sn ch Z sa sb) ∧ BoxV W w.heap.size c0 c1 c2 c3 c4 c5 c6 L.p who ∧ Only (L.and b) w W) ⟨((((h.alloc _).alloc _).below b1).setIn hbc _ _).below b2, ((i0.grown b1).other (fun e => hbd e.symm) _ _).grown b2, (((BoxV.newB _).grown b1).setIn (by omega) _ _).grown b2, (((((Only.refl _ _).alloc _).alloc _).trans (Only.ofGrown b1)).setCell (fun hlt => by simp only at hlt; omega) _).trans (Only.ofGrown b2)⟩ ?_
  clear b1 b2 j1 j2 q0 q1 q2 q3 qf r0 r1 r2 r3 k4 i0
  rintro W ⟨m1, i1, v1, o1⟩
  rw [hZ] at HD
  refine wp_region_phase (Only L.has) Grown (fun p W' => match p with | 0 => MemAt W' L s | _ => MemAt W' L ((s.by who).cas A Z X)) [9] [.val (.agg #[.int .i64 c0, .int .i64 c1, .int .i64 c2, .int .i64 c3, .int .i64 c4, .int .i64 c5, .int .i64 c6, .pointer (some ⟨L.p, 0, none⟩), .int .i64 who]), .val (.pointer (some ⟨b, o, none⟩)), .val (.agg #[.int .i64 c0, .int .i64 c1, .int .i64 c2, .int .i64 c3, .int .i64 c4, .int .i64 c5, .int .i64 c6, .pointer (some ⟨L.p, 0, none⟩), .int .i64 who]), .val (.int .i64 A), .val (.pointer (some ⟨b, o, none⟩)), .val (.pointer (some ⟨b, o, none⟩)), .val (.pointer (some ⟨b, o + 4, none⟩)), .val (.int .u64 Z), .val (.int .u64 X), .val (.bool d), .val (.bool d)]
    (by kernel_rfl) (Only.refl _) (fun _ _ _ h k => h.trans k) (fun x y h => Only.ofGrown h) (fun x y p h k => by match p, k with | 0, k => exact k.below h | p + 1, k => exact k.below h) m1.drew (by kernel_rfl) (by kernel_rfl) (by kernel_rfl) (by kernel_rfl) (by kernel_rfl) ?_
  simp only [phaseAll, Act.put, List.setIfInBounds_toArray, List.set_cons_zero, List.set_cons_succ]
  refine ⟨?_, ?_, ?_, ?_, ?_, ?_, ?_, ?_, ?_, ?_, ?_, ?_⟩
  · intro w' hR _
    refine Or.inl ⟨rfl, ?_⟩
    have vv := (v1.grown ((Below.refl _ _).drew)).only hR hbv
    have y0 := vv.c0
    have y1 := vv.c1
    have y2 := vv.c2
    have y3 := vv.c3
    have y4 := vv.c4
    have y5 := vv.c5
    have y6 := vv.c6
    have y7 := vv.c7
    have y8 := vv.c8
    go_simp
    exact ⟨Grown.refl _, rfl⟩
  · intro w' hR _
    refine Or.inl ⟨rfl, ?_⟩
    go_simp
    exact ⟨Grown.refl _, rfl⟩
  · intro w' hR _
    refine Or.inl ⟨rfl, ?_⟩
    have vv := (v1.grown ((Below.refl _ _).drew)).only hR hbv
    have y0 := vv.c0
    have y1 := vv.c1
    have y2 := vv.c2
    have y3 := vv.c3
    have y4 := vv.c4
    have y5 := vv.c5
    have y6 := vv.c6
    have y7 := vv.c7
    have y8 := vv.c8
    go_simp
    exact ⟨Grown.refl _, rfl⟩
  · intro w' hR _
    refine Or.inl ⟨rfl, ?_⟩
    go_simp
    refine (pat_any ((i1.drew.only hR hb).cell 3 rfl) _ _ _ _ _ _ _ _ A ar hch HA.out).mono ?_
    rintro e w'' ⟨rfl, b9⟩
    exact ⟨_, rfl, b9, rfl⟩
  · intro w' hR _
    refine Or.inl ⟨rfl, ?_⟩
    go_simp
    exact ⟨Grown.refl _, rfl⟩
  · intro w' hR _
    refine Or.inl ⟨rfl, ?_⟩
    go_simp
    exact ⟨Grown.refl _, rfl⟩
  · intro w' hR _
    refine Or.inl ⟨rfl, ?_⟩
    go_simp
    exact ⟨Grown.refl _, rfl⟩
  · intro w' hR _
    refine Or.inl ⟨rfl, ?_⟩
    have z := (i1.drew.only hR hb).cell 4 rfl
    go_simp
    exact ⟨Grown.refl _, rfl⟩
  · intro w' hR _
    refine Or.inl ⟨rfl, ?_⟩
    go_simp
    exact ⟨Grown.refl _, rfl⟩
  · intro w' hR _ hP
    refine Or.inl ⟨rfl, ?_⟩
    go_simp
    refine (ecas_in (s := s) hP _ _ _ _ _ _ _ _ A hn _ _).mono ?_
    rintro e w'' ⟨rfl, m2, o2⟩
    exact ⟨_, rfl, ⟨o2, m2⟩, congrArg Value.bool HD.out⟩
  · intro w' hR _
    refine Or.inl ⟨rfl, ?_⟩
    go_simp
    exact ⟨Grown.refl _, rfl⟩
  intro w2 hR m2 _
  have m2' : MemAt w2 L ((s.by who).cas A Z X) := m2
  have i2 := i1.drew.only hR hb
  have o2 : Only (L.and b) w w2 := o1.drew.trans hR.andL
  clear m1 i1 v1 o1 hR m2 HA HD HC HN cw pw
  have k4 := i2.cell 4 rfl
  have kf := i2.fz
  go_wp2
  go_ret
  exact ⟨rfl, m2'.setIn hb _ _, o2.set _ _, _, i2.set 4 _, Same.refl.set (by omega) _⟩

end Go.Proofs.Ytocmkmeikcejjaa
