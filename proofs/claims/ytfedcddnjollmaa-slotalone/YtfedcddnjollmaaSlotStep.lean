/- What a step of one who takes, or gives, a slot comes to (package slot), whatever is done next. -/
import Derived.Test.YtfedcddnjollmaaSlotPile
import Derived.Test.YtfedcddnjollmaaBox
import Derived.Test.YtfedcddnjollmaaPhase
namespace Go.Proofs.Ytfedcddnjollmaa
open Go.RowKit

/-- a struct lies in a block, from a place on: its cells -/
structure At (w : World) (b o : Nat) (T : TypeId) (c : Array Value) (l : List Value) : Prop where
  obj : w.heap[b]? = some (.cells c T (0, 0))
  is : ∀ i v, l[i]? = some v → c[o + i]? = some v

/-- all cells but those of the struct are as they were -/
def Same (o k : Nat) (c c' : Array Value) : Prop := c'.size = c.size ∧ ∀ i, ¬ (o ≤ i ∧ i < o + k) → c'[i]? = c[i]?

theorem Same.refl {o k : Nat} {c : Array Value} : Same o k c c := ⟨rfl, fun _ _ => rfl⟩
theorem Same.set {o k : Nat} {c c' : Array Value} (h : Same o k c c') {j : Nat} (hj : o ≤ j ∧ j < o + k) (v : Value) : Same o k c (c'.setIfInBounds j v) :=
  ⟨by rw [Array.size_setIfInBounds]; exact h.1, fun i hi => by rw [Array.getElem?_setIfInBounds_ne (fun e => hi (by rw [← e]; exact hj))]; exact h.2 i hi⟩
theorem Same.trans {o k : Nat} {c c' c'' : Array Value} (h : Same o k c c') (g : Same o k c' c'') : Same o k c c'' := ⟨g.1.trans h.1, fun i hi => (g.2 i hi).trans (h.2 i hi)⟩

namespace At
variable {w w' : World} {b o : Nat} {T : TypeId} {c : Array Value} {l : List Value}

theorem cell (h : At w b o T c l) (i : Nat) {v : Value} (hv : l[i]? = some v) : w.cell? ⟨b, o + i, none⟩ = some v := blk_cell h.obj (h.is i v hv)
theorem cell0 (h : At w b o T c l) {v : Value} (hv : l[0]? = some v) : w.cell? ⟨b, o, none⟩ = some v := h.cell 0 hv
theorem fz (h : At w b o T c l) (i : Nat) : w.frozen? ⟨b, i, none⟩ = false := blk_frozen h.obj i
theorem lt (h : At w b o T c l) : b < w.heap.size := blk_lt h.obj
theorem of_block (h : At w b o T c l) (e : w'.heap[b]? = w.heap[b]?) : At w' b o T c l := ⟨e.trans h.obj, h.is⟩
theorem grown (h : At w b o T c l) (g : Below w.heap.size w w') : At w' b o T c l := h.of_block (g.block _ h.lt)
theorem drew (h : At w b o T c l) : At w.drew b o T c l := h.of_block rfl
theorem only {S : Nat → Prop} (h : At w b o T c l) (g : Only S w w') (hs : ¬ S b) : At w' b o T c l := h.of_block (g.block _ h.lt hs)
theorem other (h : At w b o T c l) {k : Nat} (hk : b ≠ k) (i : Nat) (v : Value) : At (w.setCell ⟨k, i, none⟩ v) b o T c l := h.of_block (Go.Deep.blk_setCell_other _ _ _ _ (by simpa using hk))
theorem ltc (h : At w b o T c l) {i : Nat} (hi : i < l.length) : o + i < c.size := by
  have := h.is i _ (List.getElem?_eq_getElem hi)
  exact (Array.getElem?_eq_some_iff.1 this).1
theorem set (h : At w b o T c l) (i : Nat) (v : Value) : At (w.setCell ⟨b, o + i, none⟩ v) b o T (c.setIfInBounds (o + i) v) (l.set i v) :=
  ⟨blk_setCell _ _ _ _ _ _ h.obj, fun j u hj => by
    rw [List.getElem?_set] at hj
    by_cases hij : i = j
    · subst hij
      rw [if_pos rfl] at hj
      by_cases hl : i < l.length
      · rw [if_pos hl] at hj
        rw [Array.getElem?_setIfInBounds_self_of_lt (h.ltc hl)]; exact hj
      · rw [if_neg hl] at hj; cases hj
    · rw [if_neg hij] at hj
      rw [Array.getElem?_setIfInBounds_ne (by omega)]; exact h.is j u hj⟩
theorem set0 (h : At w b o T c l) (v : Value) : At (w.setCell ⟨b, o, none⟩ v) b o T (c.setIfInBounds o v) (l.set 0 v) := h.set 0 v
theorem new (w : World) (T : TypeId) (l : List Value) : At (w.alloc (.cells l.toArray T)) w.heap.size 0 T l.toArray l :=
  ⟨Go.Deep.blk_alloc_new _ _, fun i v hv => by simpa using hv⟩
end At

theorem Only.andL {L : Loc} {b : Nat} {w w' : World} (h : Only L.has w w') : Only (L.and b) w w' := h.mono fun _ _ k => Or.inl k
theorem Only.set {L : Loc} {b : Nat} {w w' : World} (h : Only (L.and b) w w') (i : Nat) (v : Value) : Only (L.and b) w (w'.setCell ⟨b, i, none⟩ v) := h.setCell (fun _ => Or.inr rfl) v
theorem Only.ofGrown {S : Nat → Prop} {w w' : World} (h : Below w.heap.size w w') : Only S w w' := (Only.ofBelow h).mono fun i hi k => absurd k (by omega)
theorem MemAt.setIn {L : Loc} {s : Mm} {b : Nat} {w : World} (h : MemAt w L s) (hb : ¬ L.has b) (i : Nat) (v : Value) : MemAt (w.setCell ⟨b, i, none⟩ v) L s := h.other hb v
theorem below_setIn {w w' : World} {b : Nat} (h : Below w.heap.size w w') (hb : w.heap.size ≤ b) (i : Nat) (v : Value) : Below w.heap.size w (w'.setCell ⟨b, i, none⟩ v) :=
  ⟨h.os, h.tape, h.output, by rw [Go.Deep.nblk_setCell]; exact h.size, fun k hk => by
    rw [Go.Deep.blk_setCell_other _ _ _ _ (fun e => by simp only at e; omega)]; exact h.block k hk⟩

theorem putTop_next (Q C : Nat) (w : World) (a : Q ≤ 65536) (b : C ≤ 1000000) :
    Calls Try.prog 30 #[.int .i64 ((Q : Int) - 1), .int .i64 ((C : Int) + 1)] w fun e w' => e = .returned (.int .u64 (topw Q (C + 1))) ∧ w' = w := putTop_w Q (C + 1) w a (by omega)

theorem BoxV.setIn {w : World} {B P : Nat} {c0 c1 c2 c3 c4 c5 c6 who : Int} (h : BoxV w B c0 c1 c2 c3 c4 c5 c6 P who) {b : Nat} (hb : ¬ B = b) (i : Nat) (v : Value) : BoxV (w.setCell ⟨b, i, none⟩ v) B c0 c1 c2 c3 c4 c5 c6 P who :=
  h.only (S := fun k => k = b) (Only.setCell (a := ⟨b, i, none⟩) (Only.refl (fun k => k = b) _) (fun _ => rfl) _) hb

/-- the cells of one who takes -/
def TkV (nx tp sl bh : Int) : List Value := [.int .i64 nx, .int .u64 tp, .int .i64 sl, .int .i64 bh]

/-- the cells of one who gives -/
def GvV (nx sl tp : Int) : List Value := [.int .i64 nx, .int .i64 sl, .int .u64 tp]

theorem shas_any (L : Loc) (c0 c1 c2 c3 c4 c5 c6 who sl : Int) (w : World) (d : Bool) (hd : decide (0 ≤ sl ∧ sl < c1) = d) :
    Calls Try.prog 26 #[.agg #[.int .i64 c0, .int .i64 c1, .int .i64 c2, .int .i64 c3, .int .i64 c4, .int .i64 c5, .int .i64 c6, .pointer (some ⟨L.p, 0, none⟩), .int .i64 who], .int .i64 sl] w fun e w' => e = .returned (.bool d) ∧ Below w.heap.size w w' := by
  subst hd
  by_cases h1 : 0 ≤ sl
  · by_cases h2 : sl < c1
    · go_enter Try.func26, Try.ntmps26
      go_wp2
      go_ret
      exact ⟨by simp [h1, h2], grow_alloc (Below.refl _ _) _⟩
    · go_enter Try.func26, Try.ntmps26
      go_wp2
      go_ret
      exact ⟨by simp [h2], grow_alloc (Below.refl _ _) _⟩
  · go_enter Try.func26, Try.ntmps26
    go_wp2
    go_ret
    exact ⟨by simp; omega, grow_alloc (Below.refl _ _) _⟩

theorem slotAt_any (t s k n g p r i : Int) (w : World) (t0 : 0 ≤ t) (t1 : t ≤ 8) (h0 : 0 ≤ i) (h1 : i ≤ 1000000) :
    Calls Try.prog 20 #[.agg #[.int .i64 t, .int .i64 s, .int .i64 k, .int .i64 n, .int .i64 g, .int .i64 p, .int .i64 r], .int .i64 i] w fun e w' => e = .returned (.int .i64 (6 + t + i * 2)) ∧ Below w.heap.size w w' := by
  go_enter Try.func20, Try.ntmps20
  go_wp2_with (go_at_call 34; refine (lpin_any _ _ (by omega) (by omega)).mono ?_; rintro e w' ⟨rfl, rfl⟩)
  go_ret
  exact ⟨rfl, grow_alloc (Below.refl _ _) _⟩

theorem slink_any (L : Loc) (c0 c1 c2 c3 c4 c5 c6 who sl : Int) (w : World) (hc : 0 ≤ c0 ∧ c0 ≤ 8) (hs : 0 ≤ sl ∧ sl ≤ 65536) :
    Calls Try.prog 29 #[.agg #[.int .i64 c0, .int .i64 c1, .int .i64 c2, .int .i64 c3, .int .i64 c4, .int .i64 c5, .int .i64 c6, .pointer (some ⟨L.p, 0, none⟩), .int .i64 who], .int .i64 sl] w fun e w' => e = .returned (.int .i64 (6 + c0 + sl * 2 + 1)) ∧ Below w.heap.size w w' := by
  obtain ⟨hc1, hc2⟩ := hc
  obtain ⟨hs1, hs2⟩ := hs
  go_enter Try.func29, Try.ntmps29
  go_wp2_with (go_at_call 20; refine (slotAt_any _ _ _ _ _ _ _ _ _ (by omega) (by omega) (by omega) (by omega)).mono ?_; rintro e w' ⟨rfl, b1⟩)
  go_ret
  exact ⟨rfl, grow (grow_alloc (Below.refl _ _) _) b1⟩

theorem swap_yes {w : World} {L : Loc} {s : Mm} (h : MemAt w L s) (c0 c1 c2 c3 c4 c5 c6 who : Int) (H C Q : Nat) (hn : 1 < s.n) (hH : H ≤ 65536) (hC : C ≤ 1000000) (hQ : Q ≤ 65536) (yes : s.wd 1 = topw H C) :
    Calls Try.prog 31 #[.agg #[.int .i64 c0, .int .i64 c1, .int .i64 c2, .int .i64 c3, .int .i64 c4, .int .i64 c5, .int .i64 c6, .pointer (some ⟨L.p, 0, none⟩), .int .i64 who], .int .u64 (topw H C), .int .i64 ((Q : Int) - 1)] w fun e w' => e = .returned (.int .i64 3) ∧ MemAt w' L ((s.by who).step 1 (topw Q (C + 1))) ∧ Only L.has w w' := by
  have hbv : ¬ L.has w.heap.size := fun hh => by have := h.lt _ hh; omega
  go_enter Try.func31, Try.ntmps31
  go_wp2_with (go_at_call 22; refine (top_w H C _ hH (by omega)).mono ?_; rintro e w1 ⟨rfl, rfl⟩)
  refine wp_over (fun W => MemAt W L s ∧ BoxV W w.heap.size c0 c1 c2 c3 c4 c5 c6 L.p who ∧ Only L.has w W) ⟨h.alloc _, BoxV.new, (Only.refl _ _).alloc _⟩ ?_
  rintro W ⟨m1, v1, o1⟩
  refine wp_region_phase (Only L.has) Grown (fun p W' => match p with | 0 => MemAt W' L s | _ => MemAt W' L ((s.by who).step 1 (topw Q (C + 1)))) [7] [.val (.agg #[.int .i64 c0, .int .i64 c1, .int .i64 c2, .int .i64 c3, .int .i64 c4, .int .i64 c5, .int .i64 c6, .pointer (some ⟨L.p, 0, none⟩), .int .i64 who]), .val (.int .i64 1), .val (.int .u64 (topw H C)), .val (.int .i64 ((Q : Int) - 1)), .val (.int .i64 C), .val (.int .i64 ((C : Int) + 1)), .val (.int .u64 (topw Q (C + 1))), .val (.bool true)]
    (by kernel_rfl) (Only.refl _) (fun _ _ _ h k => h.trans k) (fun x y h => Only.ofGrown h) (fun x y p h k => by match p, k with | 0, k => exact k.below h | p + 1, k => exact k.below h) m1.drew (by kernel_rfl) (by kernel_rfl) (by kernel_rfl) (by kernel_rfl) (by kernel_rfl) ?_
  simp only [phaseAll, Act.put, List.setIfInBounds_toArray, List.set_cons_zero, List.set_cons_succ]
  refine ⟨?_, ?_, ?_, ?_, ?_, ?_, ?_, ?_, ?_⟩
  · intro w' hR _
    refine Or.inl ⟨rfl, ?_⟩
    have vv := (v1.grown ((Below.refl _ _).drew)).only hR hbv
    have y0 := vv.c0
    have y1 := vv.c1
    have y2 := vv.c2
    have y3 := vv.c3
    have y4 := vv.c4
    have y5 := vv.c5
    have y6 := vv.c6
    have y7 := vv.c7
    have y8 := vv.c8
    go_simp
    exact ⟨Grown.refl _, rfl⟩
  · intro w' hR _
    refine Or.inl ⟨rfl, ?_⟩
    go_simp
    refine (ltop_any _).mono ?_
    rintro e w'' ⟨rfl, rfl⟩
    exact ⟨_, rfl, Grown.refl _, rfl⟩
  · intro w' hR _
    refine Or.inl ⟨rfl, ?_⟩
    go_simp
    exact ⟨Grown.refl _, rfl⟩
  · intro w' hR _
    refine Or.inl ⟨rfl, ?_⟩
    go_simp
    exact ⟨Grown.refl _, rfl⟩
  · intro w' hR _
    refine Or.inl ⟨rfl, ?_⟩
    go_simp
    exact ⟨Grown.refl _, rfl⟩
  · intro w' hR _
    refine Or.inl ⟨rfl, ?_⟩
    go_simp
    exact ⟨Grown.refl _, by simp only [Want.pred]; rw [IntKind.wrap_i64]; exact congrArg (Value.int .i64) (by omega)⟩
  · intro w' hR _
    refine Or.inl ⟨rfl, ?_⟩
    go_simp
    refine (putTop_next Q C _ hQ hC).mono ?_
    rintro e w'' ⟨rfl, rfl⟩
    exact ⟨_, rfl, Grown.refl _, rfl⟩
  · intro w' hR _ hP
    refine Or.inl ⟨rfl, ?_⟩
    go_simp
    refine (ecas_in (s := s) hP _ _ _ _ _ _ _ _ 1 hn _ _).mono ?_
    rintro e w'' ⟨rfl, m2, o2⟩
    rw [show (s.by who).cas 1 (topw H C) (topw Q (C + 1)) = (s.by who).step 1 (topw Q (C + 1)) from if_pos yes] at m2
    refine ⟨_, rfl, ⟨o2, m2⟩, ?_⟩
    simp [Want.pred, yes]
  intro w2 hR m2 _
  have m2' : MemAt w2 L ((s.by who).step 1 (topw Q (C + 1))) := m2
  have o2 : Only L.has w w2 := o1.drew.trans hR
  clear m1 v1 o1 hR m2
  go_wp2
  go_ret
  exact ⟨rfl, m2', o2⟩

theorem swap_no {w : World} {L : Loc} {s : Mm} (h : MemAt w L s) (c0 c1 c2 c3 c4 c5 c6 who : Int) (H C Q : Nat) (hn : 1 < s.n) (hH : H ≤ 65536) (hC : C ≤ 1000000) (hQ : Q ≤ 65536) (no : ¬ s.wd 1 = topw H C) :
    Calls Try.prog 31 #[.agg #[.int .i64 c0, .int .i64 c1, .int .i64 c2, .int .i64 c3, .int .i64 c4, .int .i64 c5, .int .i64 c6, .pointer (some ⟨L.p, 0, none⟩), .int .i64 who], .int .u64 (topw H C), .int .i64 ((Q : Int) - 1)] w fun e w' => e = .returned (.int .i64 0) ∧ MemAt w' L ((s.by who).step 1 (s.wd 1)) ∧ Only L.has w w' := by
  have hbv : ¬ L.has w.heap.size := fun hh => by have := h.lt _ hh; omega
  go_enter Try.func31, Try.ntmps31
  go_wp2_with (go_at_call 22; refine (top_w H C _ hH (by omega)).mono ?_; rintro e w1 ⟨rfl, rfl⟩)
  refine wp_over (fun W => MemAt W L s ∧ BoxV W w.heap.size c0 c1 c2 c3 c4 c5 c6 L.p who ∧ Only L.has w W) ⟨h.alloc _, BoxV.new, (Only.refl _ _).alloc _⟩ ?_
  rintro W ⟨m1, v1, o1⟩
  refine wp_region_phase (Only L.has) Grown (fun p W' => match p with | 0 => MemAt W' L s | _ => MemAt W' L ((s.by who).step 1 (s.wd 1))) [7] [.val (.agg #[.int .i64 c0, .int .i64 c1, .int .i64 c2, .int .i64 c3, .int .i64 c4, .int .i64 c5, .int .i64 c6, .pointer (some ⟨L.p, 0, none⟩), .int .i64 who]), .val (.int .i64 1), .val (.int .u64 (topw H C)), .val (.int .i64 ((Q : Int) - 1)), .val (.int .i64 C), .val (.int .i64 ((C : Int) + 1)), .val (.int .u64 (topw Q (C + 1))), .val (.bool false)]
    (by kernel_rfl) (Only.refl _) (fun _ _ _ h k => h.trans k) (fun x y h => Only.ofGrown h) (fun x y p h k => by match p, k with | 0, k => exact k.below h | p + 1, k => exact k.below h) m1.drew (by kernel_rfl) (by kernel_rfl) (by kernel_rfl) (by kernel_rfl) (by kernel_rfl) ?_
  simp only [phaseAll, Act.put, List.setIfInBounds_toArray, List.set_cons_zero, List.set_cons_succ]
  refine ⟨?_, ?_, ?_, ?_, ?_, ?_, ?_, ?_, ?_⟩
  · intro w' hR _
    refine Or.inl ⟨rfl, ?_⟩
    have vv := (v1.grown ((Below.refl _ _).drew)).only hR hbv
    have y0 := vv.c0
    have y1 := vv.c1
    have y2 := vv.c2
    have y3 := vv.c3
    have y4 := vv.c4
    have y5 := vv.c5
    have y6 := vv.c6
    have y7 := vv.c7
    have y8 := vv.c8
    go_simp
    exact ⟨Grown.refl _, rfl⟩
  · intro w' hR _
    refine Or.inl ⟨rfl, ?_⟩
    go_simp
    refine (ltop_any _).mono ?_
    rintro e w'' ⟨rfl, rfl⟩
    exact ⟨_, rfl, Grown.refl _, rfl⟩
  · intro w' hR _
    refine Or.inl ⟨rfl, ?_⟩
    go_simp
    exact ⟨Grown.refl _, rfl⟩
  · intro w' hR _
    refine Or.inl ⟨rfl, ?_⟩
    go_simp
    exact ⟨Grown.refl _, rfl⟩
  · intro w' hR _
    refine Or.inl ⟨rfl, ?_⟩
    go_simp
    exact ⟨Grown.refl _, rfl⟩
  · intro w' hR _
    refine Or.inl ⟨rfl, ?_⟩
    go_simp
    exact ⟨Grown.refl _, by simp only [Want.pred]; rw [IntKind.wrap_i64]; exact congrArg (Value.int .i64) (by omega)⟩
  · intro w' hR _
    refine Or.inl ⟨rfl, ?_⟩
    go_simp
    refine (putTop_next Q C _ hQ hC).mono ?_
    rintro e w'' ⟨rfl, rfl⟩
    exact ⟨_, rfl, Grown.refl _, rfl⟩
  · intro w' hR _ hP
    refine Or.inl ⟨rfl, ?_⟩
    go_simp
    refine (ecas_in (s := s) hP _ _ _ _ _ _ _ _ 1 hn _ _).mono ?_
    rintro e w'' ⟨rfl, m2, o2⟩
    rw [show (s.by who).cas 1 (topw H C) (topw Q (C + 1)) = (s.by who).step 1 (s.wd 1) from if_neg no] at m2
    refine ⟨_, rfl, ⟨o2, m2⟩, ?_⟩
    simp [Want.pred, no]
  intro w2 hR m2 _
  have m2' : MemAt w2 L ((s.by who).step 1 (s.wd 1)) := m2
  have o2 : Only L.has w w2 := o1.drew.trans hR
  clear m1 v1 o1 hR m2
  go_wp2
  go_ret
  exact ⟨rfl, m2', o2⟩

theorem swap_yes_at {w : World} {L : Loc} {s : Mm} (h : MemAt w L s) (c0 c1 c2 c3 c4 c5 c6 who : Int) (H C sl : Nat) (hn : 1 < s.n) (hH : H ≤ 65536) (hC : C ≤ 1000000) (hs : sl ≤ 65535) (yes : s.wd 1 = topw H C) :
    Calls Try.prog 31 #[.agg #[.int .i64 c0, .int .i64 c1, .int .i64 c2, .int .i64 c3, .int .i64 c4, .int .i64 c5, .int .i64 c6, .pointer (some ⟨L.p, 0, none⟩), .int .i64 who], .int .u64 (topw H C), .int .i64 sl] w fun e w' => e = .returned (.int .i64 3) ∧ MemAt w' L ((s.by who).step 1 (topw (sl + 1) (C + 1))) ∧ Only L.has w w' := by
  have k := swap_yes h c0 c1 c2 c3 c4 c5 c6 who H C (sl + 1) hn hH hC (by omega) yes
  have e : ((sl + 1 : Nat) : Int) - 1 = sl := by omega
  rwa [e] at k

theorem swap_no_at {w : World} {L : Loc} {s : Mm} (h : MemAt w L s) (c0 c1 c2 c3 c4 c5 c6 who : Int) (H C sl : Nat) (hn : 1 < s.n) (hH : H ≤ 65536) (hC : C ≤ 1000000) (hs : sl ≤ 65535) (no : ¬ s.wd 1 = topw H C) :
    Calls Try.prog 31 #[.agg #[.int .i64 c0, .int .i64 c1, .int .i64 c2, .int .i64 c3, .int .i64 c4, .int .i64 c5, .int .i64 c6, .pointer (some ⟨L.p, 0, none⟩), .int .i64 who], .int .u64 (topw H C), .int .i64 sl] w fun e w' => e = .returned (.int .i64 0) ∧ MemAt w' L ((s.by who).step 1 (s.wd 1)) ∧ Only L.has w w' := by
  have k := swap_no h c0 c1 c2 c3 c4 c5 c6 who H C (sl + 1) hn hH hC (by omega) no
  have e : ((sl + 1 : Nat) : Int) - 1 = sl := by omega
  rwa [e] at k

/-- the memory and a struct, while a step is done and what it told is noted -/
def phAt (L : Loc) (b o : Nat) (T : TypeId) (c c' : Array Value) (s s' : Mm) (l l' : List Value) : Nat → World → Prop
  | 0, w => MemAt w L s ∧ At w b o T c l
  | 1, w => MemAt w L s' ∧ At w b o T c l
  | _, w => MemAt w L s' ∧ At w b o T c' l'

theorem phAt_grown {L : Loc} {b o : Nat} {T : TypeId} {c c' : Array Value} {s s' : Mm} {l l' : List Value} (x y : World) (p : Nat) (g : Grown x y) (k : phAt L b o T c c' s s' l l' p x) : phAt L b o T c c' s s' l l' p y := by
  match p, k with
  | 0, k => exact ⟨k.1.below g, k.2.grown g⟩
  | 1, k => exact ⟨k.1.below g, k.2.grown g⟩
  | p + 2, k => exact ⟨k.1.below g, k.2.grown g⟩

theorem tload_yes {w : World} {L : Loc} {s : Mm} {b o : Nat} {T : TypeId} {cs : Array Value} {tp sl bh : Int} (h : MemAt w L s) (hb : ¬ L.has b) (hi : At w b o T cs (TkV 0 tp sl bh)) (c0 c1 c2 c3 c4 c5 c6 who : Int) (H C : Nat) (hn : 1 < s.n) (hw : s.wd 1 = topw (H + 1) C) (hC : C ≤ 1000000) (hH : H ≤ 65535) (yes : (H : Int) < c1) :
    Calls Try.prog 32 #[.pointer (some ⟨b, o, none⟩), .agg #[.int .i64 c0, .int .i64 c1, .int .i64 c2, .int .i64 c3, .int .i64 c4, .int .i64 c5, .int .i64 c6, .pointer (some ⟨L.p, 0, none⟩), .int .i64 who]] w fun e w' => e = .returned (.tuple #[]) ∧ ∃ cs', MemAt w' L ((s.by who).step 1 (s.wd 1)) ∧ At w' b o T cs' (TkV 1 (topw (H + 1) C) (H : Int) bh) ∧ Same o 4 cs cs' ∧ Only (L.and b) w w' := by
  have hbv : ¬ L.has w.heap.size := fun hh => by have := h.lt _ hh; omega
  have hbb : ¬ w.heap.size = b := fun hh => by have := hi.lt; omega
  have e1 : ((H + 1 : Nat) : Int) - 1 = H := by omega
  have t1 := fun w => top_w (H + 1) C w (by omega) (by omega)
  rw [e1] at t1
  obtain ⟨X, hX⟩ : ∃ X, s.wd 1 = X := ⟨_, rfl⟩
  rw [hX] at hw ⊢
  subst hw
  go_enter Try.func32, Try.ntmps32
  go_wp2
  refine wp_over (fun W => MemAt W L s ∧ At W b o T cs (TkV 0 tp sl bh) ∧ BoxV W w.heap.size c0 c1 c2 c3 c4 c5 c6 L.p who ∧ Only (L.and b) w W) ⟨h.alloc _, hi.grown (grow_alloc (Below.refl _ _) _), BoxV.new, (Only.refl _ _).alloc _⟩ ?_
  rintro W ⟨m1, i1, v1, o1⟩
  refine wp_region_phase (Only (L.and b)) Grown (phAt L b o T cs (cs.setIfInBounds (o + 1) (.int .u64 (topw (H + 1) C))) s ((s.by who).step 1 (topw (H + 1) C)) (TkV 0 tp sl bh) (TkV 0 (topw (H + 1) C) sl bh)) [3, 6] [.val (.pointer (some ⟨b, o, none⟩)), .val (.agg #[.int .i64 c0, .int .i64 c1, .int .i64 c2, .int .i64 c3, .int .i64 c4, .int .i64 c5, .int .i64 c6, .pointer (some ⟨L.p, 0, none⟩), .int .i64 who]), .val (.int .i64 1), .val (.int .u64 (topw (H + 1) C)), .val (.pointer (some ⟨b, o, none⟩)), .val (.pointer (some ⟨b, o + 1, none⟩)), .that (fun _ _ => True) (fun _ _ _ _ _ => trivial)]
    (by kernel_rfl) (Only.refl _) (fun _ _ _ h k => h.trans k) (fun x y h => Only.ofGrown h) phAt_grown ⟨m1.drew, i1.drew⟩ (by kernel_rfl) (by kernel_rfl) (by kernel_rfl) (by kernel_rfl) (by kernel_rfl) ?_
  simp only [phaseAll, Act.put, List.setIfInBounds_toArray, List.set_cons_zero, List.set_cons_succ]
  refine ⟨?_, ?_, ?_, ?_, ?_, ?_, ?_, ?_⟩
  · intro w' hR _
    refine Or.inl ⟨rfl, ?_⟩
    go_simp
    exact ⟨Grown.refl _, rfl⟩
  · intro w' hR _
    refine Or.inl ⟨rfl, ?_⟩
    have vv := (v1.grown ((Below.refl _ _).drew)).only hR (fun hh => hh.elim hbv hbb)
    have y0 := vv.c0
    have y1 := vv.c1
    have y2 := vv.c2
    have y3 := vv.c3
    have y4 := vv.c4
    have y5 := vv.c5
    have y6 := vv.c6
    have y7 := vv.c7
    have y8 := vv.c8
    go_simp
    exact ⟨Grown.refl _, rfl⟩
  · intro w' hR _
    refine Or.inl ⟨rfl, ?_⟩
    go_simp
    refine (ltop_any _).mono ?_
    rintro e w'' ⟨rfl, rfl⟩
    exact ⟨_, rfl, Grown.refl _, rfl⟩
  · intro w' hR _ hP
    refine Or.inl ⟨rfl, ?_⟩
    go_simp
    refine (eload_in (s := s) hP.1 _ _ _ _ _ _ _ _ 1 hn).mono ?_
    rintro e w'' ⟨rfl, m2, o2⟩
    rw [hX] at m2
    exact ⟨_, rfl, ⟨o2.andL, m2, hP.2.only o2 hb⟩, by simp [Want.pred, hX]⟩
  · intro w' hR _
    refine Or.inl ⟨rfl, ?_⟩
    go_simp
    exact ⟨Grown.refl _, rfl⟩
  · intro w' hR _
    refine Or.inl ⟨rfl, ?_⟩
    go_simp
    exact ⟨Grown.refl _, rfl⟩
  · intro w' hR _ hP
    refine Or.inl ⟨rfl, ?_⟩
    have z0 := hP.2.cell 1 rfl
    have z1 := hP.2.fz
    go_simp
    exact ⟨⟨(Only.refl _ _).set _ _, hP.1.setIn hb _ _, hP.2.set 1 _⟩, trivial⟩
  intro v w2 hR hP _
  obtain ⟨m2, i2⟩ : MemAt w2 L ((s.by who).step 1 (topw (H + 1) C)) ∧ At w2 b o T (cs.setIfInBounds (o + 1) (.int .u64 (topw (H + 1) C))) (TkV 0 (topw (H + 1) C) sl bh) := hP
  have o2 : Only (L.and b) w w2 := o1.drew.trans hR
  have v2 := (v1.grown ((Below.refl _ _).drew)).only hR (fun hh => hh.elim hbv hbb)
  have s2 : Same o 4 cs (cs.setIfInBounds (o + 1) (.int .u64 (topw (H + 1) C))) := Same.refl.set (by omega) _
  clear hR o1 v1 m1 i1 hX
  have k0 := i2.cell0 rfl
  have k1 := i2.cell 1 rfl
  have k2 := i2.cell 2 rfl
  have kf := i2.fz
  go_wp2_with (go_at_call 22; refine (t1 _).mono ?_; rintro e w1 ⟨rfl, rfl⟩)
  have i3 := (i2.set 2 (.int .i64 (H : Int))).set0 (.int .i64 1)
  have m3 := (m2.setIn hb (o + 2) (.int .i64 (H : Int))).setIn hb o (.int .i64 1)
  have o3 := (o2.set (o + 2) (.int .i64 (H : Int))).set o (.int .i64 1)
  have s3 := (s2.set (j := o + 2) (by omega) (.int .i64 (H : Int))).set (j := o) (by omega) (.int .i64 1)
  refine wp_over (fun W => MemAt W L _ ∧ At W b o T _ (TkV 1 (topw (H + 1) C) (H : Int) bh) ∧ BoxV W w.heap.size c0 c1 c2 c3 c4 c5 c6 L.p who ∧ Only (L.and b) w W) ⟨m3, i3, (v2.setIn hbb _ _).setIn hbb _ _, o3⟩ ?_
  clear m2 i2 o2 v2 s2 k0 k1 k2 kf m3 i3 o3
  rintro W3 ⟨m3, i3, v3, o3⟩
  have e0 := fun N : Later W3 => (v3.grown N.below).c0
  have e1 := fun N : Later W3 => (v3.grown N.below).c1
  have e2 := fun N : Later W3 => (v3.grown N.below).c2
  have e3 := fun N : Later W3 => (v3.grown N.below).c3
  have e4 := fun N : Later W3 => (v3.grown N.below).c4
  have e5 := fun N : Later W3 => (v3.grown N.below).c5
  have e6 := fun N : Later W3 => (v3.grown N.below).c6
  have e7 := fun N : Later W3 => (v3.grown N.below).c7
  have e8 := fun N : Later W3 => (v3.grown N.below).c8
  have e9 := fun N : Later W3 => (i3.grown N.below).cell 2 rfl
  haveI := Later.exists W3
  refine wp_region_later (by kernel_rfl) (by kernel_rfl) ?_
  repeat (go_big_quiet_step ((go_at_call 26; exact Calls.later (shas_any L _ _ _ _ _ _ _ _ _ _ true (decide_eq_true ⟨by omega, by omega⟩)))))
  refine wpQuiet_nil ?_
  rintro _ ⟨nq, rfl⟩
  have i4 := i3.grown nq.below
  have m4 := m3.below nq.below
  have o4 : Only (L.and b) w nq.now := o3.trans (Only.ofGrown nq.below)
  clear e0 e1 e2 e3 e4 e5 e6 e7 e8 e9 v3 i3 m3 o3
  have k0 := i4.cell0 rfl
  have kf := i4.fz
  go_wp2
  go_end0
  exact ⟨rfl, _, m4, i4, s3, o4⟩

theorem tload_no {w : World} {L : Loc} {s : Mm} {b o : Nat} {T : TypeId} {cs : Array Value} {tp sl bh : Int} (h : MemAt w L s) (hb : ¬ L.has b) (hi : At w b o T cs (TkV 0 tp sl bh)) (c0 c1 c2 c3 c4 c5 c6 who : Int) (C : Nat) (hn : 1 < s.n) (hw : s.wd 1 = topw 0 C) (hC : C ≤ 1000000)  :
    Calls Try.prog 32 #[.pointer (some ⟨b, o, none⟩), .agg #[.int .i64 c0, .int .i64 c1, .int .i64 c2, .int .i64 c3, .int .i64 c4, .int .i64 c5, .int .i64 c6, .pointer (some ⟨L.p, 0, none⟩), .int .i64 who]] w fun e w' => e = .returned (.tuple #[]) ∧ ∃ cs', MemAt w' L ((s.by who).step 1 (s.wd 1)) ∧ At w' b o T cs' (TkV 4 (topw 0 C) (-1 : Int) bh) ∧ Same o 4 cs cs' ∧ Only (L.and b) w w' := by
  have hbv : ¬ L.has w.heap.size := fun hh => by have := h.lt _ hh; omega
  have hbb : ¬ w.heap.size = b := fun hh => by have := hi.lt; omega
  have t1 : ∀ w, Calls Try.prog 22 #[.int .u64 (topw 0 C)] w fun e w' => e = .returned (.tuple #[.int .i64 (-1), .int .i64 C]) ∧ w' = w := fun w => top_w 0 C w (by omega) (by omega)
  obtain ⟨X, hX⟩ : ∃ X, s.wd 1 = X := ⟨_, rfl⟩
  rw [hX] at hw ⊢
  subst hw
  go_enter Try.func32, Try.ntmps32
  go_wp2
  refine wp_over (fun W => MemAt W L s ∧ At W b o T cs (TkV 0 tp sl bh) ∧ BoxV W w.heap.size c0 c1 c2 c3 c4 c5 c6 L.p who ∧ Only (L.and b) w W) ⟨h.alloc _, hi.grown (grow_alloc (Below.refl _ _) _), BoxV.new, (Only.refl _ _).alloc _⟩ ?_
  rintro W ⟨m1, i1, v1, o1⟩
  refine wp_region_phase (Only (L.and b)) Grown (phAt L b o T cs (cs.setIfInBounds (o + 1) (.int .u64 (topw 0 C))) s ((s.by who).step 1 (topw 0 C)) (TkV 0 tp sl bh) (TkV 0 (topw 0 C) sl bh)) [3, 6] [.val (.pointer (some ⟨b, o, none⟩)), .val (.agg #[.int .i64 c0, .int .i64 c1, .int .i64 c2, .int .i64 c3, .int .i64 c4, .int .i64 c5, .int .i64 c6, .pointer (some ⟨L.p, 0, none⟩), .int .i64 who]), .val (.int .i64 1), .val (.int .u64 (topw 0 C)), .val (.pointer (some ⟨b, o, none⟩)), .val (.pointer (some ⟨b, o + 1, none⟩)), .that (fun _ _ => True) (fun _ _ _ _ _ => trivial)]
    (by kernel_rfl) (Only.refl _) (fun _ _ _ h k => h.trans k) (fun x y h => Only.ofGrown h) phAt_grown ⟨m1.drew, i1.drew⟩ (by kernel_rfl) (by kernel_rfl) (by kernel_rfl) (by kernel_rfl) (by kernel_rfl) ?_
  simp only [phaseAll, Act.put, List.setIfInBounds_toArray, List.set_cons_zero, List.set_cons_succ]
  refine ⟨?_, ?_, ?_, ?_, ?_, ?_, ?_, ?_⟩
  · intro w' hR _
    refine Or.inl ⟨rfl, ?_⟩
    go_simp
    exact ⟨Grown.refl _, rfl⟩
  · intro w' hR _
    refine Or.inl ⟨rfl, ?_⟩
    have vv := (v1.grown ((Below.refl _ _).drew)).only hR (fun hh => hh.elim hbv hbb)
    have y0 := vv.c0
    have y1 := vv.c1
    have y2 := vv.c2
    have y3 := vv.c3
    have y4 := vv.c4
    have y5 := vv.c5
    have y6 := vv.c6
    have y7 := vv.c7
    have y8 := vv.c8
    go_simp
    exact ⟨Grown.refl _, rfl⟩
  · intro w' hR _
    refine Or.inl ⟨rfl, ?_⟩
    go_simp
    refine (ltop_any _).mono ?_
    rintro e w'' ⟨rfl, rfl⟩
    exact ⟨_, rfl, Grown.refl _, rfl⟩
  · intro w' hR _ hP
    refine Or.inl ⟨rfl, ?_⟩
    go_simp
    refine (eload_in (s := s) hP.1 _ _ _ _ _ _ _ _ 1 hn).mono ?_
    rintro e w'' ⟨rfl, m2, o2⟩
    rw [hX] at m2
    exact ⟨_, rfl, ⟨o2.andL, m2, hP.2.only o2 hb⟩, by simp [Want.pred, hX]⟩
  · intro w' hR _
    refine Or.inl ⟨rfl, ?_⟩
    go_simp
    exact ⟨Grown.refl _, rfl⟩
  · intro w' hR _
    refine Or.inl ⟨rfl, ?_⟩
    go_simp
    exact ⟨Grown.refl _, rfl⟩
  · intro w' hR _ hP
    refine Or.inl ⟨rfl, ?_⟩
    have z0 := hP.2.cell 1 rfl
    have z1 := hP.2.fz
    go_simp
    exact ⟨⟨(Only.refl _ _).set _ _, hP.1.setIn hb _ _, hP.2.set 1 _⟩, trivial⟩
  intro v w2 hR hP _
  obtain ⟨m2, i2⟩ : MemAt w2 L ((s.by who).step 1 (topw 0 C)) ∧ At w2 b o T (cs.setIfInBounds (o + 1) (.int .u64 (topw 0 C))) (TkV 0 (topw 0 C) sl bh) := hP
  have o2 : Only (L.and b) w w2 := o1.drew.trans hR
  have v2 := (v1.grown ((Below.refl _ _).drew)).only hR (fun hh => hh.elim hbv hbb)
  have s2 : Same o 4 cs (cs.setIfInBounds (o + 1) (.int .u64 (topw 0 C))) := Same.refl.set (by omega) _
  clear hR o1 v1 m1 i1 hX
  have k0 := i2.cell0 rfl
  have k1 := i2.cell 1 rfl
  have k2 := i2.cell 2 rfl
  have kf := i2.fz
  go_wp2_with (go_at_call 22; refine (t1 _).mono ?_; rintro e w1 ⟨rfl, rfl⟩)
  have i3 := (i2.set 2 (.int .i64 (-1 : Int))).set0 (.int .i64 1)
  have m3 := (m2.setIn hb (o + 2) (.int .i64 (-1 : Int))).setIn hb o (.int .i64 1)
  have o3 := (o2.set (o + 2) (.int .i64 (-1 : Int))).set o (.int .i64 1)
  have s3 := (s2.set (j := o + 2) (by omega) (.int .i64 (-1 : Int))).set (j := o) (by omega) (.int .i64 1)
  refine wp_over (fun W => MemAt W L _ ∧ At W b o T _ (TkV 1 (topw 0 C) (-1 : Int) bh) ∧ BoxV W w.heap.size c0 c1 c2 c3 c4 c5 c6 L.p who ∧ Only (L.and b) w W) ⟨m3, i3, (v2.setIn hbb _ _).setIn hbb _ _, o3⟩ ?_
  clear m2 i2 o2 v2 s2 k0 k1 k2 kf m3 i3 o3
  rintro W3 ⟨m3, i3, v3, o3⟩
  have e0 := fun N : Later W3 => (v3.grown N.below).c0
  have e1 := fun N : Later W3 => (v3.grown N.below).c1
  have e2 := fun N : Later W3 => (v3.grown N.below).c2
  have e3 := fun N : Later W3 => (v3.grown N.below).c3
  have e4 := fun N : Later W3 => (v3.grown N.below).c4
  have e5 := fun N : Later W3 => (v3.grown N.below).c5
  have e6 := fun N : Later W3 => (v3.grown N.below).c6
  have e7 := fun N : Later W3 => (v3.grown N.below).c7
  have e8 := fun N : Later W3 => (v3.grown N.below).c8
  have e9 := fun N : Later W3 => (i3.grown N.below).cell 2 rfl
  haveI := Later.exists W3
  refine wp_region_later (by kernel_rfl) (by kernel_rfl) ?_
  repeat (go_big_quiet_step ((go_at_call 26; exact Calls.later (shas_any L _ _ _ _ _ _ _ _ _ _ false (decide_eq_false (by omega))))))
  refine wpQuiet_nil ?_
  rintro _ ⟨nq, rfl⟩
  have i4 := i3.grown nq.below
  have m4 := m3.below nq.below
  have o4 : Only (L.and b) w nq.now := o3.trans (Only.ofGrown nq.below)
  clear e0 e1 e2 e3 e4 e5 e6 e7 e8 e9 v3 i3 m3 o3
  have k0 := i4.cell0 rfl
  have kf := i4.fz
  go_wp2
  go_end0
  exact ⟨rfl, _, m4.setIn hb _ _, i4.set0 _, s3.set (j := o) (by omega) _, o4.set _ _⟩

theorem tstep_some {w : World} {L : Loc} {s : Mm} {b o : Nat} {T : TypeId} {cs : Array Value} {tp sl bh : Int} (h : MemAt w L s) (hb : ¬ L.has b) (hi : At w b o T cs (TkV 0 tp sl bh)) (c0 c1 c2 c3 c4 c5 c6 who : Int) (H C : Nat) (hn : 1 < s.n) (hw : s.wd 1 = topw (H + 1) C) (hC : C ≤ 1000000) (hH : H ≤ 65535) (yes : (H : Int) < c1) :
    Calls Try.prog 13 #[.pointer (some ⟨b, o, none⟩), .agg #[.int .i64 c0, .int .i64 c1, .int .i64 c2, .int .i64 c3, .int .i64 c4, .int .i64 c5, .int .i64 c6, .pointer (some ⟨L.p, 0, none⟩), .int .i64 who]] w fun e w' => e = .returned (.bool false) ∧ ∃ cs', MemAt w' L ((s.by who).step 1 (s.wd 1)) ∧ At w' b o T cs' (TkV 1 (topw (H + 1) C) (H : Int) bh) ∧ Same o 4 cs cs' ∧ Only (L.and b) w w' := by
  have k0 := hi.cell0 rfl
  have m1 := h.alloc (.cells #[.int .i64 c0, .int .i64 c1, .int .i64 c2, .int .i64 c3, .int .i64 c4, .int .i64 c5, .int .i64 c6, .pointer (some ⟨L.p, 0, none⟩), .int .i64 who] 27)
  have i1 := hi.grown (grow_alloc (Below.refl _ _) (.cells #[.int .i64 c0, .int .i64 c1, .int .i64 c2, .int .i64 c3, .int .i64 c4, .int .i64 c5, .int .i64 c6, .pointer (some ⟨L.p, 0, none⟩), .int .i64 who] 27))
  have o1 : Only (L.and b) w (w.alloc (.cells #[.int .i64 c0, .int .i64 c1, .int .i64 c2, .int .i64 c3, .int .i64 c4, .int .i64 c5, .int .i64 c6, .pointer (some ⟨L.p, 0, none⟩), .int .i64 who] 27)) := (Only.refl _ _).alloc _
  have k1 := i1.cell0 rfl
  go_enter Try.func13, Try.ntmps13
  go_wp2_with (go_at_call 32; refine (tload_yes m1 hb i1 _ _ _ _ _ _ _ _ H C hn hw hC hH yes).mono ?_; rintro e w2 ⟨rfl, cs', m2, i2, s2, o2⟩; have k2 := i2.cell0 rfl)
  go_ret
  exact ⟨rfl, cs', m2, i2, s2, o1.trans o2⟩

theorem tstep_none {w : World} {L : Loc} {s : Mm} {b o : Nat} {T : TypeId} {cs : Array Value} {tp sl bh : Int} (h : MemAt w L s) (hb : ¬ L.has b) (hi : At w b o T cs (TkV 0 tp sl bh)) (c0 c1 c2 c3 c4 c5 c6 who : Int) (C : Nat) (hn : 1 < s.n) (hw : s.wd 1 = topw 0 C) (hC : C ≤ 1000000)  :
    Calls Try.prog 13 #[.pointer (some ⟨b, o, none⟩), .agg #[.int .i64 c0, .int .i64 c1, .int .i64 c2, .int .i64 c3, .int .i64 c4, .int .i64 c5, .int .i64 c6, .pointer (some ⟨L.p, 0, none⟩), .int .i64 who]] w fun e w' => e = .returned (.bool true) ∧ ∃ cs', MemAt w' L ((s.by who).step 1 (s.wd 1)) ∧ At w' b o T cs' (TkV 4 (topw 0 C) (-1 : Int) bh) ∧ Same o 4 cs cs' ∧ Only (L.and b) w w' := by
  have k0 := hi.cell0 rfl
  have m1 := h.alloc (.cells #[.int .i64 c0, .int .i64 c1, .int .i64 c2, .int .i64 c3, .int .i64 c4, .int .i64 c5, .int .i64 c6, .pointer (some ⟨L.p, 0, none⟩), .int .i64 who] 27)
  have i1 := hi.grown (grow_alloc (Below.refl _ _) (.cells #[.int .i64 c0, .int .i64 c1, .int .i64 c2, .int .i64 c3, .int .i64 c4, .int .i64 c5, .int .i64 c6, .pointer (some ⟨L.p, 0, none⟩), .int .i64 who] 27))
  have o1 : Only (L.and b) w (w.alloc (.cells #[.int .i64 c0, .int .i64 c1, .int .i64 c2, .int .i64 c3, .int .i64 c4, .int .i64 c5, .int .i64 c6, .pointer (some ⟨L.p, 0, none⟩), .int .i64 who] 27)) := (Only.refl _ _).alloc _
  have k1 := i1.cell0 rfl
  go_enter Try.func13, Try.ntmps13
  go_wp2_with (go_at_call 32; refine (tload_no m1 hb i1 _ _ _ _ _ _ _ _ C hn hw hC).mono ?_; rintro e w2 ⟨rfl, cs', m2, i2, s2, o2⟩; have k2 := i2.cell0 rfl)
  go_ret
  exact ⟨rfl, cs', m2, i2, s2, o1.trans o2⟩

/-- of the blocks that were there only the memory's and b were written, and of b only the cell f -/
structure OnlyBut (L : Loc) (b f : Nat) (x y : World) : Prop where
  only : Only (L.and b) x y
  cell : ∀ j, j ≠ f → b < x.heap.size → y.cell? ⟨b, j, none⟩ = x.cell? ⟨b, j, none⟩

namespace OnlyBut
variable {L : Loc} {b f : Nat} {x y z : World}
theorem refl (x : World) : OnlyBut L b f x x := ⟨Only.refl _ _, fun _ _ _ => rfl⟩
theorem trans (x y z : World) (h : OnlyBut L b f x y) (k : OnlyBut L b f y z) : OnlyBut L b f x z :=
  ⟨h.only.trans k.only, fun j hj hb => (k.cell j hj (Nat.lt_of_lt_of_le hb h.only.size)).trans (h.cell j hj hb)⟩
theorem ofGrown (x y : World) (h : Grown x y) : OnlyBut L b f x y := ⟨Only.ofGrown h, fun j _ hb => h.cell (p := ⟨b, j, none⟩) hb⟩
theorem ofOnly (h : Only L.has x y) (hb : ¬ L.has b) : OnlyBut L b f x y := ⟨h.andL, fun j _ hl => h.cell (p := ⟨b, j, none⟩) hl hb⟩
theorem set (x : World) (v : Value) : OnlyBut L b f x (x.setCell ⟨b, f, none⟩ v) := ⟨(Only.refl _ _).set _ _, fun j hj _ => World.cell?_setCell_other _ _ _ _ (fun e => hj (by cases e; rfl))⟩
theorem keep (h : OnlyBut L b f x y) {j : Nat} {v : Value} (hj : j ≠ f) (hc : x.cell? ⟨b, j, none⟩ = some v) : y.cell? ⟨b, j, none⟩ = some v :=
  (h.cell j hj (World.block_lt_of_cell? x _ hc)).trans hc
end OnlyBut

theorem tstep_link {w : World} {L : Loc} {s : Mm} {b o : Nat} {T : TypeId} {cs : Array Value} {tp bh : Int} (h : MemAt w L s) (hb : ¬ L.has b) {sl : Nat} (hi : At w b o T cs (TkV 1 tp sl bh)) (c0 c1 c2 c3 c4 c5 c6 who : Int) (Q A : Nat) (hA : (6 : Int) + c0 + (sl : Int) * 2 + 1 = A) (ht0 : 0 ≤ c0) (ht8 : c0 ≤ 8) (hs : sl ≤ 65535) (hn : A < s.n) (hw : s.wd A = topw Q 0) (hQ : Q ≤ 65536) :
    Calls Try.prog 13 #[.pointer (some ⟨b, o, none⟩), .agg #[.int .i64 c0, .int .i64 c1, .int .i64 c2, .int .i64 c3, .int .i64 c4, .int .i64 c5, .int .i64 c6, .pointer (some ⟨L.p, 0, none⟩), .int .i64 who]] w fun e w' => e = .returned (.bool false) ∧ ∃ cs', MemAt w' L ((s.by who).step A (s.wd A)) ∧ At w' b o T cs' (TkV 2 tp sl ((Q : Int) - 1)) ∧ Same o 4 cs cs' ∧ Only (L.and b) w w' := by
  have hbv : ¬ L.has w.heap.size := fun hh => by have := h.lt _ hh; omega
  have hbb : ¬ w.heap.size = b := fun hh => by have := hi.lt; omega
  have k0 := fun O => alloc_cell (hi.cell0 rfl) O
  have HA : Hid ((6 : Int) + c0 + (sl : Int) * 2 + 1 = A) := hA
  clear hA
  obtain ⟨X, hX⟩ : ∃ X, s.wd A = X := ⟨_, rfl⟩
  rw [hX] at hw ⊢
  have HX : Hid (s.wd A = topw Q 0) := hX.trans hw
  subst hw
  clear hX
  go_enter Try.func13, Try.ntmps13
  go_wp2
  refine wp_over (fun W => MemAt W L s ∧ At W b o T cs (TkV 1 tp sl bh) ∧ BoxV W w.heap.size c0 c1 c2 c3 c4 c5 c6 L.p who ∧ Only (L.and b) w W) ⟨h.alloc _, hi.grown (grow_alloc (Below.refl _ _) _), BoxV.new, (Only.refl _ _).alloc _⟩ ?_
  rintro W ⟨m1, i1, v1, o1⟩
  refine wp_region_phase (OnlyBut L b (o + 3)) Grown (phAt L b o T cs (cs.setIfInBounds (o + 3) (.int .i64 ((Q : Int) - 1))) s ((s.by who).step A (topw Q 0)) (TkV 1 tp sl bh) (TkV 1 tp sl ((Q : Int) - 1))) [8, 15] [.val (.pointer (some ⟨b, o, none⟩)), .val (.agg #[.int .i64 c0, .int .i64 c1, .int .i64 c2, .int .i64 c3, .int .i64 c4, .int .i64 c5, .int .i64 c6, .pointer (some ⟨L.p, 0, none⟩), .int .i64 who]), .val (.agg #[.int .i64 c0, .int .i64 c1, .int .i64 c2, .int .i64 c3, .int .i64 c4, .int .i64 c5, .int .i64 c6, .pointer (some ⟨L.p, 0, none⟩), .int .i64 who]), .val (.pointer (some ⟨b, o, none⟩)), .val (.pointer (some ⟨b, o, none⟩)), .val (.pointer (some ⟨b, o + 2, none⟩)), .val (.int .i64 sl), .val (.int .i64 A), .val (.int .u64 (topw Q 0)), .val (.tuple #[.int .i64 ((Q : Int) - 1), .int .i64 0]), .val (.tuple #[.int .i64 ((Q : Int) - 1), .int .i64 0]), .val (.int .i64 ((Q : Int) - 1)), .val (.int .i64 0), .val (.pointer (some ⟨b, o, none⟩)), .val (.pointer (some ⟨b, o + 3, none⟩)), .that (fun _ _ => True) (fun _ _ _ _ _ => trivial)]
    (by kernel_rfl) OnlyBut.refl OnlyBut.trans OnlyBut.ofGrown phAt_grown ⟨m1.drew, i1.drew⟩ (by kernel_rfl) (by kernel_rfl) (by kernel_rfl) (by kernel_rfl) (by kernel_rfl) ?_
  simp only [phaseAll, Act.put, List.setIfInBounds_toArray, List.set_cons_zero, List.set_cons_succ]
  refine ⟨?_, ?_, ?_, ?_, ?_, ?_, ?_, ?_, ?_, ?_, ?_, ?_, ?_, ?_, ?_, ?_, ?_⟩
  · intro w' hR _
    refine Or.inl ⟨rfl, ?_⟩
    go_simp
    exact ⟨Grown.refl _, rfl⟩
  · intro w' hR _
    refine Or.inl ⟨rfl, ?_⟩
    have vv := (v1.grown ((Below.refl _ _).drew)).only hR.only (fun hh => hh.elim hbv hbb)
    have y0 := vv.c0
    have y1 := vv.c1
    have y2 := vv.c2
    have y3 := vv.c3
    have y4 := vv.c4
    have y5 := vv.c5
    have y6 := vv.c6
    have y7 := vv.c7
    have y8 := vv.c8
    go_simp
    exact ⟨Grown.refl _, rfl⟩
  · intro w' hR _
    refine Or.inl ⟨rfl, ?_⟩
    have vv := (v1.grown ((Below.refl _ _).drew)).only hR.only (fun hh => hh.elim hbv hbb)
    have y0 := vv.c0
    have y1 := vv.c1
    have y2 := vv.c2
    have y3 := vv.c3
    have y4 := vv.c4
    have y5 := vv.c5
    have y6 := vv.c6
    have y7 := vv.c7
    have y8 := vv.c8
    go_simp
    exact ⟨Grown.refl _, rfl⟩
  · intro w' hR _
    refine Or.inl ⟨rfl, ?_⟩
    go_simp
    exact ⟨Grown.refl _, rfl⟩
  · intro w' hR _
    refine Or.inl ⟨rfl, ?_⟩
    go_simp
    exact ⟨Grown.refl _, rfl⟩
  · intro w' hR _
    refine Or.inl ⟨rfl, ?_⟩
    go_simp
    exact ⟨Grown.refl _, rfl⟩
  · intro w' hR _
    refine Or.inl ⟨rfl, ?_⟩
    have z := hR.keep (j := o + 2) (by omega) (i1.drew.cell 2 rfl)
    go_simp
    exact ⟨Grown.refl _, rfl⟩
  · intro w' hR _
    refine Or.inl ⟨rfl, ?_⟩
    go_simp
    refine (slink_any L _ _ _ _ _ _ _ _ _ _ ⟨ht0, ht8⟩ (by omega)).mono ?_
    rintro e w'' ⟨rfl, b9⟩
    exact ⟨_, rfl, b9, by rw [HA.out]; rfl⟩
  · intro w' hR _ hP
    refine Or.inl ⟨rfl, ?_⟩
    go_simp
    refine (eload_in (s := s) hP.1 _ _ _ _ _ _ _ _ A hn).mono ?_
    rintro e w'' ⟨rfl, m2, o2⟩
    rw [HX.out] at m2
    exact ⟨_, rfl, ⟨OnlyBut.ofOnly o2 hb, m2, hP.2.only o2 hb⟩, by simp [Want.pred, HX.out]⟩
  · intro w' hR _
    refine Or.inl ⟨rfl, ?_⟩
    go_simp
    refine (top_w Q 0 _ hQ (by omega)).mono ?_
    rintro e w'' ⟨rfl, rfl⟩
    exact ⟨_, rfl, Grown.refl _, rfl⟩
  · intro w' hR _
    refine Or.inl ⟨rfl, ?_⟩
    go_simp
    exact ⟨Grown.refl _, rfl⟩
  · intro w' hR _
    refine Or.inl ⟨rfl, ?_⟩
    go_simp
    exact ⟨Grown.refl _, rfl⟩
  · intro w' hR _
    refine Or.inl ⟨rfl, ?_⟩
    go_simp
    exact ⟨Grown.refl _, rfl⟩
  · intro w' hR _
    refine Or.inl ⟨rfl, ?_⟩
    go_simp
    exact ⟨Grown.refl _, rfl⟩
  · intro w' hR _
    refine Or.inl ⟨rfl, ?_⟩
    go_simp
    exact ⟨Grown.refl _, rfl⟩
  · intro w' hR _ hP
    refine Or.inl ⟨rfl, ?_⟩
    have z0 := hP.2.cell 3 rfl
    have z1 := hP.2.fz
    go_simp
    exact ⟨⟨OnlyBut.set _ _, hP.1.setIn hb _ _, hP.2.set 3 _⟩, trivial⟩
  intro v w2 hR hP _
  obtain ⟨m2, i2⟩ : MemAt w2 L ((s.by who).step A (topw Q 0)) ∧ At w2 b o T (cs.setIfInBounds (o + 3) (.int .i64 ((Q : Int) - 1))) (TkV 1 tp sl ((Q : Int) - 1)) := hP
  have o2 : Only (L.and b) w w2 := o1.drew.trans hR.only
  have s2 : Same o 4 cs (cs.setIfInBounds (o + 3) (.int .i64 ((Q : Int) - 1))) := Same.refl.set (by omega) _
  clear hR o1 v1 m1 i1 k0 HX HA
  have k0 := i2.cell0 rfl
  have kf := i2.fz
  go_wp2
  go_ret
  exact ⟨rfl, _, m2.setIn hb _ _, i2.set0 _, s2.set (j := o) (by omega) _, o2.set _ _⟩

theorem tstep_yes {w : World} {L : Loc} {s : Mm} {b o : Nat} {T : TypeId} {cs : Array Value} {sl : Int} (h : MemAt w L s) (hb : ¬ L.has b) (H C Q : Nat) (hi : At w b o T cs (TkV 2 (topw H C) sl ((Q : Int) - 1))) (c0 c1 c2 c3 c4 c5 c6 who : Int) (hn : 1 < s.n) (hH : H ≤ 65536) (hC : C ≤ 1000000) (hQ : Q ≤ 65536) (yes : s.wd 1 = topw H C) :
    Calls Try.prog 13 #[.pointer (some ⟨b, o, none⟩), .agg #[.int .i64 c0, .int .i64 c1, .int .i64 c2, .int .i64 c3, .int .i64 c4, .int .i64 c5, .int .i64 c6, .pointer (some ⟨L.p, 0, none⟩), .int .i64 who]] w fun e w' => e = .returned (.bool true) ∧ ∃ cs', MemAt w' L ((s.by who).step 1 (topw Q (C + 1))) ∧ At w' b o T cs' (TkV 3 (topw H C) sl ((Q : Int) - 1)) ∧ Same o 4 cs cs' ∧ Only (L.and b) w w' := by
  have hbv : ¬ L.has w.heap.size := fun hh => by have := h.lt _ hh; omega
  have hbb : ¬ w.heap.size = b := fun hh => by have := hi.lt; omega
  have k0 := fun O => alloc_cell (hi.cell0 rfl) O
  have HW : Hid (s.wd 1 = topw H C) := yes
  clear yes
  go_enter Try.func13, Try.ntmps13
  go_wp2
  refine wp_over (fun W => MemAt W L s ∧ At W b o T cs (TkV 2 (topw H C) sl ((Q : Int) - 1)) ∧ BoxV W w.heap.size c0 c1 c2 c3 c4 c5 c6 L.p who ∧ Only (L.and b) w W) ⟨h.alloc _, hi.grown (grow_alloc (Below.refl _ _) _), BoxV.new, (Only.refl _ _).alloc _⟩ ?_
  rintro W ⟨m1, i1, v1, o1⟩
  refine wp_region_phase (OnlyBut L b o) Grown (phAt L b o T cs (cs.setIfInBounds o (.int .i64 3)) s ((s.by who).step 1 (topw Q (C + 1))) (TkV 2 (topw H C) sl ((Q : Int) - 1)) (TkV 3 (topw H C) sl ((Q : Int) - 1))) [10, 13] [.val (.pointer (some ⟨b, o, none⟩)), .val (.agg #[.int .i64 c0, .int .i64 c1, .int .i64 c2, .int .i64 c3, .int .i64 c4, .int .i64 c5, .int .i64 c6, .pointer (some ⟨L.p, 0, none⟩), .int .i64 who]), .val (.pointer (some ⟨b, o, none⟩)), .val (.pointer (some ⟨b, o, none⟩)), .val (.pointer (some ⟨b, o + 1, none⟩)), .val (.int .u64 (topw H C)), .val (.pointer (some ⟨b, o, none⟩)), .val (.pointer (some ⟨b, o, none⟩)), .val (.pointer (some ⟨b, o + 3, none⟩)), .val (.int .i64 ((Q : Int) - 1)), .val (.int .i64 3), .val (.pointer (some ⟨b, o, none⟩)), .val (.pointer (some ⟨b, o, none⟩)), .that (fun _ _ => True) (fun _ _ _ _ _ => trivial)]
    (by kernel_rfl) OnlyBut.refl OnlyBut.trans OnlyBut.ofGrown phAt_grown ⟨m1.drew, i1.drew⟩ (by kernel_rfl) (by kernel_rfl) (by kernel_rfl) (by kernel_rfl) (by kernel_rfl) ?_
  simp only [phaseAll, Act.put, List.setIfInBounds_toArray, List.set_cons_zero, List.set_cons_succ]
  refine ⟨?_, ?_, ?_, ?_, ?_, ?_, ?_, ?_, ?_, ?_, ?_, ?_, ?_, ?_, ?_⟩
  · intro w' hR _
    refine Or.inl ⟨rfl, ?_⟩
    go_simp
    exact ⟨Grown.refl _, rfl⟩
  · intro w' hR _
    refine Or.inl ⟨rfl, ?_⟩
    have vv := (v1.grown ((Below.refl _ _).drew)).only hR.only (fun hh => hh.elim hbv hbb)
    have y0 := vv.c0
    have y1 := vv.c1
    have y2 := vv.c2
    have y3 := vv.c3
    have y4 := vv.c4
    have y5 := vv.c5
    have y6 := vv.c6
    have y7 := vv.c7
    have y8 := vv.c8
    go_simp
    exact ⟨Grown.refl _, rfl⟩
  · intro w' hR _
    refine Or.inl ⟨rfl, ?_⟩
    go_simp
    exact ⟨Grown.refl _, rfl⟩
  · intro w' hR _
    refine Or.inl ⟨rfl, ?_⟩
    go_simp
    exact ⟨Grown.refl _, rfl⟩
  · intro w' hR _
    refine Or.inl ⟨rfl, ?_⟩
    go_simp
    exact ⟨Grown.refl _, rfl⟩
  · intro w' hR _
    refine Or.inl ⟨rfl, ?_⟩
    have z := hR.keep (j := o + 1) (by omega) (i1.drew.cell 1 rfl)
    go_simp
    exact ⟨Grown.refl _, rfl⟩
  · intro w' hR _
    refine Or.inl ⟨rfl, ?_⟩
    go_simp
    exact ⟨Grown.refl _, rfl⟩
  · intro w' hR _
    refine Or.inl ⟨rfl, ?_⟩
    go_simp
    exact ⟨Grown.refl _, rfl⟩
  · intro w' hR _
    refine Or.inl ⟨rfl, ?_⟩
    go_simp
    exact ⟨Grown.refl _, rfl⟩
  · intro w' hR _
    refine Or.inl ⟨rfl, ?_⟩
    have z := hR.keep (j := o + 3) (by omega) (i1.drew.cell 3 rfl)
    go_simp
    exact ⟨Grown.refl _, rfl⟩
  · intro w' hR _ hP
    refine Or.inl ⟨rfl, ?_⟩
    go_simp
    refine (swap_yes (s := s) hP.1 _ _ _ _ _ _ _ _ H C Q hn hH hC hQ HW.out).mono ?_
    rintro e w'' ⟨rfl, m2, o2⟩
    exact ⟨_, rfl, ⟨OnlyBut.ofOnly o2 hb, m2, hP.2.only o2 hb⟩, rfl⟩
  · intro w' hR _
    refine Or.inl ⟨rfl, ?_⟩
    go_simp
    exact ⟨Grown.refl _, rfl⟩
  · intro w' hR _
    refine Or.inl ⟨rfl, ?_⟩
    go_simp
    exact ⟨Grown.refl _, rfl⟩
  · intro w' hR _ hP
    refine Or.inl ⟨rfl, ?_⟩
    have z0 := hP.2.cell0 rfl
    have z1 := hP.2.fz
    go_simp
    exact ⟨⟨OnlyBut.set _ _, hP.1.setIn hb _ _, hP.2.set0 _⟩, trivial⟩
  intro v w2 hR hP _
  obtain ⟨m2, i2⟩ : MemAt w2 L ((s.by who).step 1 (topw Q (C + 1))) ∧ At w2 b o T (cs.setIfInBounds o (.int .i64 3)) (TkV 3 (topw H C) sl ((Q : Int) - 1)) := hP
  have o2 : Only (L.and b) w w2 := o1.drew.trans hR.only
  have s2 : Same o 4 cs (cs.setIfInBounds o (.int .i64 3)) := Same.refl.set (by omega) _
  clear hR o1 v1 m1 i1 k0 HW
  have k0 := i2.cell0 rfl
  have kf := i2.fz
  go_wp2
  go_ret
  exact ⟨rfl, _, m2, i2, s2, o2⟩

theorem tstep_no {w : World} {L : Loc} {s : Mm} {b o : Nat} {T : TypeId} {cs : Array Value} {sl : Int} (h : MemAt w L s) (hb : ¬ L.has b) (H C Q : Nat) (hi : At w b o T cs (TkV 2 (topw H C) sl ((Q : Int) - 1))) (c0 c1 c2 c3 c4 c5 c6 who : Int) (hn : 1 < s.n) (hH : H ≤ 65536) (hC : C ≤ 1000000) (hQ : Q ≤ 65536) (no : ¬ s.wd 1 = topw H C) :
    Calls Try.prog 13 #[.pointer (some ⟨b, o, none⟩), .agg #[.int .i64 c0, .int .i64 c1, .int .i64 c2, .int .i64 c3, .int .i64 c4, .int .i64 c5, .int .i64 c6, .pointer (some ⟨L.p, 0, none⟩), .int .i64 who]] w fun e w' => e = .returned (.bool false) ∧ ∃ cs', MemAt w' L ((s.by who).step 1 (s.wd 1)) ∧ At w' b o T cs' (TkV 0 (topw H C) sl ((Q : Int) - 1)) ∧ Same o 4 cs cs' ∧ Only (L.and b) w w' := by
  have hbv : ¬ L.has w.heap.size := fun hh => by have := h.lt _ hh; omega
  have hbb : ¬ w.heap.size = b := fun hh => by have := hi.lt; omega
  have k0 := fun O => alloc_cell (hi.cell0 rfl) O
  have HW : Hid (¬ s.wd 1 = topw H C) := no
  clear no
  go_enter Try.func13, Try.ntmps13
  go_wp2
  refine wp_over (fun W => MemAt W L s ∧ At W b o T cs (TkV 2 (topw H C) sl ((Q : Int) - 1)) ∧ BoxV W w.heap.size c0 c1 c2 c3 c4 c5 c6 L.p who ∧ Only (L.and b) w W) ⟨h.alloc _, hi.grown (grow_alloc (Below.refl _ _) _), BoxV.new, (Only.refl _ _).alloc _⟩ ?_
  rintro W ⟨m1, i1, v1, o1⟩
  refine wp_region_phase (OnlyBut L b o) Grown (phAt L b o T cs (cs.setIfInBounds o (.int .i64 0)) s ((s.by who).step 1 (s.wd 1)) (TkV 2 (topw H C) sl ((Q : Int) - 1)) (TkV 0 (topw H C) sl ((Q : Int) - 1))) [10, 13] [.val (.pointer (some ⟨b, o, none⟩)), .val (.agg #[.int .i64 c0, .int .i64 c1, .int .i64 c2, .int .i64 c3, .int .i64 c4, .int .i64 c5, .int .i64 c6, .pointer (some ⟨L.p, 0, none⟩), .int .i64 who]), .val (.pointer (some ⟨b, o, none⟩)), .val (.pointer (some ⟨b, o, none⟩)), .val (.pointer (some ⟨b, o + 1, none⟩)), .val (.int .u64 (topw H C)), .val (.pointer (some ⟨b, o, none⟩)), .val (.pointer (some ⟨b, o, none⟩)), .val (.pointer (some ⟨b, o + 3, none⟩)), .val (.int .i64 ((Q : Int) - 1)), .val (.int .i64 0), .val (.pointer (some ⟨b, o, none⟩)), .val (.pointer (some ⟨b, o, none⟩)), .that (fun _ _ => True) (fun _ _ _ _ _ => trivial)]
    (by kernel_rfl) OnlyBut.refl OnlyBut.trans OnlyBut.ofGrown phAt_grown ⟨m1.drew, i1.drew⟩ (by kernel_rfl) (by kernel_rfl) (by kernel_rfl) (by kernel_rfl) (by kernel_rfl) ?_
  simp only [phaseAll, Act.put, List.setIfInBounds_toArray, List.set_cons_zero, List.set_cons_succ]
  refine ⟨?_, ?_, ?_, ?_, ?_, ?_, ?_, ?_, ?_, ?_, ?_, ?_, ?_, ?_, ?_⟩
  · intro w' hR _
    refine Or.inl ⟨rfl, ?_⟩
    go_simp
    exact ⟨Grown.refl _, rfl⟩
  · intro w' hR _
    refine Or.inl ⟨rfl, ?_⟩
    have vv := (v1.grown ((Below.refl _ _).drew)).only hR.only (fun hh => hh.elim hbv hbb)
    have y0 := vv.c0
    have y1 := vv.c1
    have y2 := vv.c2
    have y3 := vv.c3
    have y4 := vv.c4
    have y5 := vv.c5
    have y6 := vv.c6
    have y7 := vv.c7
    have y8 := vv.c8
    go_simp
    exact ⟨Grown.refl _, rfl⟩
  · intro w' hR _
    refine Or.inl ⟨rfl, ?_⟩
    go_simp
    exact ⟨Grown.refl _, rfl⟩
  · intro w' hR _
    refine Or.inl ⟨rfl, ?_⟩
    go_simp
    exact ⟨Grown.refl _, rfl⟩
  · intro w' hR _
    refine Or.inl ⟨rfl, ?_⟩
    go_simp
    exact ⟨Grown.refl _, rfl⟩
  · intro w' hR _
    refine Or.inl ⟨rfl, ?_⟩
    have z := hR.keep (j := o + 1) (by omega) (i1.drew.cell 1 rfl)
    go_simp
    exact ⟨Grown.refl _, rfl⟩
  · intro w' hR _
    refine Or.inl ⟨rfl, ?_⟩
    go_simp
    exact ⟨Grown.refl _, rfl⟩
  · intro w' hR _
    refine Or.inl ⟨rfl, ?_⟩
    go_simp
    exact ⟨Grown.refl _, rfl⟩
  · intro w' hR _
    refine Or.inl ⟨rfl, ?_⟩
    go_simp
    exact ⟨Grown.refl _, rfl⟩
  · intro w' hR _
    refine Or.inl ⟨rfl, ?_⟩
    have z := hR.keep (j := o + 3) (by omega) (i1.drew.cell 3 rfl)
    go_simp
    exact ⟨Grown.refl _, rfl⟩
  · intro w' hR _ hP
    refine Or.inl ⟨rfl, ?_⟩
    go_simp
    refine (swap_no (s := s) hP.1 _ _ _ _ _ _ _ _ H C Q hn hH hC hQ HW.out).mono ?_
    rintro e w'' ⟨rfl, m2, o2⟩
    exact ⟨_, rfl, ⟨OnlyBut.ofOnly o2 hb, m2, hP.2.only o2 hb⟩, rfl⟩
  · intro w' hR _
    refine Or.inl ⟨rfl, ?_⟩
    go_simp
    exact ⟨Grown.refl _, rfl⟩
  · intro w' hR _
    refine Or.inl ⟨rfl, ?_⟩
    go_simp
    exact ⟨Grown.refl _, rfl⟩
  · intro w' hR _ hP
    refine Or.inl ⟨rfl, ?_⟩
    have z0 := hP.2.cell0 rfl
    have z1 := hP.2.fz
    go_simp
    exact ⟨⟨OnlyBut.set _ _, hP.1.setIn hb _ _, hP.2.set0 _⟩, trivial⟩
  intro v w2 hR hP _
  obtain ⟨m2, i2⟩ : MemAt w2 L ((s.by who).step 1 (s.wd 1)) ∧ At w2 b o T (cs.setIfInBounds o (.int .i64 0)) (TkV 0 (topw H C) sl ((Q : Int) - 1)) := hP
  have o2 : Only (L.and b) w w2 := o1.drew.trans hR.only
  have s2 : Same o 4 cs (cs.setIfInBounds o (.int .i64 0)) := Same.refl.set (by omega) _
  clear hR o1 v1 m1 i1 k0 HW
  have k0 := i2.cell0 rfl
  have kf := i2.fz
  go_wp2
  go_ret
  exact ⟨rfl, _, m2, i2, s2, o2⟩

theorem gstep_load {w : World} {L : Loc} {s : Mm} {b o : Nat} {T : TypeId} {cs : Array Value} {tp : Int} {sl : Nat} (h : MemAt w L s) (hb : ¬ L.has b) (hi : At w b o T cs (GvV 0 sl tp)) (c0 c1 c2 c3 c4 c5 c6 who : Int) (H C : Nat) (hn : 1 < s.n) (hsl : (sl : Int) < c1) (hw : s.wd 1 = topw H C) :
    Calls Try.prog 12 #[.pointer (some ⟨b, o, none⟩), .agg #[.int .i64 c0, .int .i64 c1, .int .i64 c2, .int .i64 c3, .int .i64 c4, .int .i64 c5, .int .i64 c6, .pointer (some ⟨L.p, 0, none⟩), .int .i64 who]] w fun e w' => e = .returned (.bool false) ∧ ∃ cs', MemAt w' L ((s.by who).step 1 (s.wd 1)) ∧ At w' b o T cs' (GvV 1 sl (topw H C)) ∧ Same o 3 cs cs' ∧ Only (L.and b) w w' := by
  have hn1 : decide ((s.n : Int) ≤ 1) = false := decide_eq_false (by omega)
  have hbv : ¬ L.has w.heap.size := fun hh => by have := h.lt _ hh; omega
  have hbb : ¬ w.heap.size = b := fun hh => by have := hi.lt; omega
  obtain ⟨X, hX⟩ : ∃ X, s.wd 1 = X := ⟨_, rfl⟩
  rw [hX] at hw ⊢
  have HX : Hid (s.wd 1 = topw H C) := hX.trans hw
  subst hw
  clear hX
  go_enter Try.func12, Try.ntmps12
  go_wp2
  refine wp_over (fun W => MemAt W L s ∧ At W b o T cs (GvV 0 sl tp) ∧ BoxV W w.heap.size c0 c1 c2 c3 c4 c5 c6 L.p who ∧ Only (L.and b) w W) ⟨h.alloc _, hi.grown (grow_alloc (Below.refl _ _) _), BoxV.new, (Only.refl _ _).alloc _⟩ ?_
  rintro W ⟨m1, i1, v1, o1⟩
  have e0 := fun N : Later W => (v1.grown N.below).c0
  have e1 := fun N : Later W => (v1.grown N.below).c1
  have e2 := fun N : Later W => (v1.grown N.below).c2
  have e3 := fun N : Later W => (v1.grown N.below).c3
  have e4 := fun N : Later W => (v1.grown N.below).c4
  have e5 := fun N : Later W => (v1.grown N.below).c5
  have e6 := fun N : Later W => (v1.grown N.below).c6
  have e7 := fun N : Later W => (v1.grown N.below).c7
  have e8 := fun N : Later W => (v1.grown N.below).c8
  have e9 := fun N : Later W => (i1.grown N.below).cell 1 rfl
  have hm := fun N : Later W => m1.below N.below
  haveI := Later.exists W
  refine wp_region_later (by kernel_rfl) (by kernel_rfl) ?_
  repeat (go_big_quiet_step ((first
    | (go_at_call 26; exact Calls.later (shas_any L _ _ _ _ _ _ _ _ _ _ true (decide_eq_true ⟨by omega, by omega⟩)))
    | (go_at_call 19; exact Calls.later_same (ltop_any _))
    | (go_at_call 24; exact Calls.later_same (len_any (hm _))))))
  refine wpQuiet_nil ?_
  rintro _ ⟨nq, rfl⟩
  clear e0 e1 e2 e3 e4 e5 e6 e7 e8 e9 hm hn1
  have i2 := i1.grown nq.below
  have m2 := m1.below nq.below
  have v2 := v1.grown nq.below
  have o2 : Only (L.and b) w nq.now := o1.trans (Only.ofGrown nq.below)
  have k0 := i2.cell0 rfl
  have k2 := i2.cell 2 rfl
  have kf := i2.fz
  clear m1 i1 v1 o1
  go_wp2
  refine wp_over (fun W => MemAt W L s ∧ At W b o T cs (GvV 0 sl tp) ∧ BoxV W w.heap.size c0 c1 c2 c3 c4 c5 c6 L.p who ∧ Only (L.and b) w W) ⟨m2, i2, v2, o2⟩ ?_
  clear m2 i2 v2 o2 k0 k2 kf
  rintro W ⟨m1, i1, v1, o1⟩
  refine wp_region_phase (OnlyBut L b (o + 2)) Grown (phAt L b o T cs (cs.setIfInBounds (o + 2) (.int .u64 (topw H C))) s ((s.by who).step 1 (topw H C)) (GvV 0 sl tp) (GvV 0 sl (topw H C))) [3, 6] [.val (.pointer (some ⟨b, o, none⟩)), .val (.agg #[.int .i64 c0, .int .i64 c1, .int .i64 c2, .int .i64 c3, .int .i64 c4, .int .i64 c5, .int .i64 c6, .pointer (some ⟨L.p, 0, none⟩), .int .i64 who]), .val (.int .i64 1), .val (.int .u64 (topw H C)), .val (.pointer (some ⟨b, o, none⟩)), .val (.pointer (some ⟨b, o + 2, none⟩)), .that (fun _ _ => True) (fun _ _ _ _ _ => trivial)]
    (by kernel_rfl) OnlyBut.refl OnlyBut.trans OnlyBut.ofGrown phAt_grown ⟨m1.drew, i1.drew⟩ (by kernel_rfl) (by kernel_rfl) (by kernel_rfl) (by kernel_rfl) (by kernel_rfl) ?_
  simp only [phaseAll, Act.put, List.setIfInBounds_toArray, List.set_cons_zero, List.set_cons_succ]
  refine ⟨?_, ?_, ?_, ?_, ?_, ?_, ?_, ?_⟩
  · intro w' hR _
    refine Or.inl ⟨rfl, ?_⟩
    go_simp
    exact ⟨Grown.refl _, rfl⟩
  · intro w' hR _
    refine Or.inl ⟨rfl, ?_⟩
    have vv := (v1.grown ((Below.refl _ _).drew)).only hR.only (fun hh => hh.elim hbv hbb)
    have y0 := vv.c0
    have y1 := vv.c1
    have y2 := vv.c2
    have y3 := vv.c3
    have y4 := vv.c4
    have y5 := vv.c5
    have y6 := vv.c6
    have y7 := vv.c7
    have y8 := vv.c8
    go_simp
    exact ⟨Grown.refl _, rfl⟩
  · intro w' hR _
    refine Or.inl ⟨rfl, ?_⟩
    go_simp
    refine (ltop_any _).mono ?_
    rintro e w'' ⟨rfl, rfl⟩
    exact ⟨_, rfl, Grown.refl _, rfl⟩
  · intro w' hR _ hP
    refine Or.inl ⟨rfl, ?_⟩
    go_simp
    refine (eload_in (s := s) hP.1 _ _ _ _ _ _ _ _ 1 hn).mono ?_
    rintro e w'' ⟨rfl, m2, o2⟩
    rw [HX.out] at m2
    exact ⟨_, rfl, ⟨OnlyBut.ofOnly o2 hb, m2, hP.2.only o2 hb⟩, by simp [Want.pred, HX.out]⟩
  · intro w' hR _
    refine Or.inl ⟨rfl, ?_⟩
    go_simp
    exact ⟨Grown.refl _, rfl⟩
  · intro w' hR _
    refine Or.inl ⟨rfl, ?_⟩
    go_simp
    exact ⟨Grown.refl _, rfl⟩
  · intro w' hR _ hP
    refine Or.inl ⟨rfl, ?_⟩
    have z0 := hP.2.cell 2 rfl
    have z1 := hP.2.fz
    go_simp
    exact ⟨⟨OnlyBut.set _ _, hP.1.setIn hb _ _, hP.2.set 2 _⟩, trivial⟩
  intro v w2 hR hP _
  obtain ⟨m2, i2⟩ : MemAt w2 L ((s.by who).step 1 (topw H C)) ∧ At w2 b o T (cs.setIfInBounds (o + 2) (.int .u64 (topw H C))) (GvV 0 sl (topw H C)) := hP
  have o2 : Only (L.and b) w w2 := o1.drew.trans hR.only
  have s2 : Same o 3 cs (cs.setIfInBounds (o + 2) (.int .u64 (topw H C))) := Same.refl.set (by omega) _
  clear hR o1 v1 m1 i1 HX
  have k0 := i2.cell0 rfl
  have kf := i2.fz
  go_wp2
  go_ret
  exact ⟨rfl, _, m2.setIn hb _ _, i2.set0 _, s2.set (j := o) (by omega) _, o2.set _ _⟩

theorem gstep_lay {w : World} {L : Loc} {s : Mm} {b o : Nat} {T : TypeId} {cs : Array Value} {sl : Nat} (h : MemAt w L s) (hb : ¬ L.has b) (H C A : Nat) (hi : At w b o T cs (GvV 1 sl (topw H C))) (c0 c1 c2 c3 c4 c5 c6 who : Int) (hA : (6 : Int) + c0 + (sl : Int) * 2 + 1 = A) (ht0 : 0 ≤ c0) (ht8 : c0 ≤ 8) (hs : sl ≤ 65535) (hn : A < s.n) (hsl : (sl : Int) < c1) (hH : H ≤ 65536) (hC : C ≤ 1000000) :
    Calls Try.prog 12 #[.pointer (some ⟨b, o, none⟩), .agg #[.int .i64 c0, .int .i64 c1, .int .i64 c2, .int .i64 c3, .int .i64 c4, .int .i64 c5, .int .i64 c6, .pointer (some ⟨L.p, 0, none⟩), .int .i64 who]] w fun e w' => e = .returned (.bool false) ∧ ∃ cs', MemAt w' L ((s.by who).step A (topw H 0)) ∧ At w' b o T cs' (GvV 2 sl (topw H C)) ∧ Same o 3 cs cs' ∧ Only (L.and b) w w' := by
  have hn1 : decide ((s.n : Int) ≤ 1) = false := decide_eq_false (by omega)
  have hbv : ¬ L.has w.heap.size := fun hh => by have := h.lt _ hh; omega
  have hbb : ¬ w.heap.size = b := fun hh => by have := hi.lt; omega
  have HA : Hid ((6 : Int) + c0 + (sl : Int) * 2 + 1 = A) := hA
  clear hA
  go_enter Try.func12, Try.ntmps12
  go_wp2
  refine wp_over (fun W => MemAt W L s ∧ At W b o T cs (GvV 1 sl (topw H C)) ∧ BoxV W w.heap.size c0 c1 c2 c3 c4 c5 c6 L.p who ∧ Only (L.and b) w W) ⟨h.alloc _, hi.grown (grow_alloc (Below.refl _ _) _), BoxV.new, (Only.refl _ _).alloc _⟩ ?_
  rintro W ⟨m1, i1, v1, o1⟩
  have e0 := fun N : Later W => (v1.grown N.below).c0
  have e1 := fun N : Later W => (v1.grown N.below).c1
  have e2 := fun N : Later W => (v1.grown N.below).c2
  have e3 := fun N : Later W => (v1.grown N.below).c3
  have e4 := fun N : Later W => (v1.grown N.below).c4
  have e5 := fun N : Later W => (v1.grown N.below).c5
  have e6 := fun N : Later W => (v1.grown N.below).c6
  have e7 := fun N : Later W => (v1.grown N.below).c7
  have e8 := fun N : Later W => (v1.grown N.below).c8
  have e9 := fun N : Later W => (i1.grown N.below).cell 1 rfl
  have hm := fun N : Later W => m1.below N.below
  haveI := Later.exists W
  refine wp_region_later (by kernel_rfl) (by kernel_rfl) ?_
  repeat (go_big_quiet_step ((first
    | (go_at_call 26; exact Calls.later (shas_any L _ _ _ _ _ _ _ _ _ _ true (decide_eq_true ⟨by omega, by omega⟩)))
    | (go_at_call 19; exact Calls.later_same (ltop_any _))
    | (go_at_call 24; exact Calls.later_same (len_any (hm _))))))
  refine wpQuiet_nil ?_
  rintro _ ⟨nq, rfl⟩
  clear e0 e1 e2 e3 e4 e5 e6 e7 e8 e9 hm hn1
  have i2 := i1.grown nq.below
  have m2 := m1.below nq.below
  have v2 := v1.grown nq.below
  have o2 : Only (L.and b) w nq.now := o1.trans (Only.ofGrown nq.below)
  have k0 := i2.cell0 rfl
  have k2 := i2.cell 2 rfl
  have kf := i2.fz
  clear m1 i1 v1 o1
  go_wp2_with (go_at_call 22; refine (top_w H C _ hH (by omega)).mono ?_; rintro e w1 ⟨rfl, rfl⟩)
  refine wp_over (fun W => MemAt W L s ∧ At W b o T cs (GvV 1 sl (topw H C)) ∧ BoxV W w.heap.size c0 c1 c2 c3 c4 c5 c6 L.p who ∧ Only (L.and b) w W) ⟨m2, i2, v2, o2⟩ ?_
  clear m2 i2 v2 o2 k0 k2 kf
  rintro W ⟨m1, i1, v1, o1⟩
  refine wp_region_phase (Only L.has) Grown (fun p W' => match p with | 0 => MemAt W' L s | _ => MemAt W' L ((s.by who).step A (topw H 0))) [9] [.val (.agg #[.int .i64 c0, .int .i64 c1, .int .i64 c2, .int .i64 c3, .int .i64 c4, .int .i64 c5, .int .i64 c6, .pointer (some ⟨L.p, 0, none⟩), .int .i64 who]), .val (.agg #[.int .i64 c0, .int .i64 c1, .int .i64 c2, .int .i64 c3, .int .i64 c4, .int .i64 c5, .int .i64 c6, .pointer (some ⟨L.p, 0, none⟩), .int .i64 who]), .val (.pointer (some ⟨b, o, none⟩)), .val (.pointer (some ⟨b, o, none⟩)), .val (.pointer (some ⟨b, o + 1, none⟩)), .val (.int .i64 sl), .val (.int .i64 A), .val (.int .i64 ((H : Int) - 1)), .val (.int .u64 (topw H 0)), .that (fun _ _ => True) (fun _ _ _ _ _ => trivial)]
    (by kernel_rfl) (Only.refl _) (fun _ _ _ h k => h.trans k) (fun x y h => Only.ofGrown h) (fun x y p h k => by match p, k with | 0, k => exact k.below h | p + 1, k => exact k.below h) m1.drew (by kernel_rfl) (by kernel_rfl) (by kernel_rfl) (by kernel_rfl) (by kernel_rfl) ?_
  simp only [phaseAll, Act.put, List.setIfInBounds_toArray, List.set_cons_zero, List.set_cons_succ]
  refine ⟨?_, ?_, ?_, ?_, ?_, ?_, ?_, ?_, ?_, ?_, ?_⟩
  · intro w' hR _
    refine Or.inl ⟨rfl, ?_⟩
    have vv := (v1.grown ((Below.refl _ _).drew)).only hR hbv
    have y0 := vv.c0
    have y1 := vv.c1
    have y2 := vv.c2
    have y3 := vv.c3
    have y4 := vv.c4
    have y5 := vv.c5
    have y6 := vv.c6
    have y7 := vv.c7
    have y8 := vv.c8
    go_simp
    exact ⟨Grown.refl _, rfl⟩
  · intro w' hR _
    refine Or.inl ⟨rfl, ?_⟩
    have vv := (v1.grown ((Below.refl _ _).drew)).only hR hbv
    have y0 := vv.c0
    have y1 := vv.c1
    have y2 := vv.c2
    have y3 := vv.c3
    have y4 := vv.c4
    have y5 := vv.c5
    have y6 := vv.c6
    have y7 := vv.c7
    have y8 := vv.c8
    go_simp
    exact ⟨Grown.refl _, rfl⟩
  · intro w' hR _
    refine Or.inl ⟨rfl, ?_⟩
    go_simp
    exact ⟨Grown.refl _, rfl⟩
  · intro w' hR _
    refine Or.inl ⟨rfl, ?_⟩
    go_simp
    exact ⟨Grown.refl _, rfl⟩
  · intro w' hR _
    refine Or.inl ⟨rfl, ?_⟩
    go_simp
    exact ⟨Grown.refl _, rfl⟩
  · intro w' hR _
    refine Or.inl ⟨rfl, ?_⟩
    have z := (i1.drew.only hR hb).cell 1 rfl
    go_simp
    exact ⟨Grown.refl _, rfl⟩
  · intro w' hR _
    refine Or.inl ⟨rfl, ?_⟩
    go_simp
    refine (slink_any L _ _ _ _ _ _ _ _ _ _ ⟨ht0, ht8⟩ (by omega)).mono ?_
    rintro e w'' ⟨rfl, b9⟩
    exact ⟨_, rfl, b9, by rw [HA.out]; rfl⟩
  · intro w' hR _
    refine Or.inl ⟨rfl, ?_⟩
    go_simp
    exact ⟨Grown.refl _, rfl⟩
  · intro w' hR _
    refine Or.inl ⟨rfl, ?_⟩
    go_simp
    refine (putTop_w H 0 _ hH (by omega)).mono ?_
    rintro e w'' ⟨rfl, rfl⟩
    exact ⟨_, rfl, Grown.refl _, rfl⟩
  · intro w' hR _ hP
    refine Or.inl ⟨rfl, ?_⟩
    go_simp
    refine (estore_in (s := s) hP _ _ _ _ _ _ _ _ A hn _).mono ?_
    rintro e w'' ⟨rfl, m2, o2⟩
    exact ⟨_, rfl, ⟨o2, m2⟩, trivial⟩
  intro v w2 hR hP _
  have m2 : MemAt w2 L ((s.by who).step A (topw H 0)) := hP
  have i2 := i1.drew.only hR hb
  have o2 : Only (L.and b) w w2 := o1.drew.trans hR.andL
  clear hR o1 v1 m1 i1 HA hP
  have k0 := i2.cell0 rfl
  have kf := i2.fz
  go_wp2
  go_ret
  exact ⟨rfl, _, m2.setIn hb _ _, i2.set0 _, Same.refl.set (j := o) (by omega) _, o2.set _ _⟩

theorem gstep_yes {w : World} {L : Loc} {s : Mm} {b o : Nat} {T : TypeId} {cs : Array Value} {sl : Nat} (h : MemAt w L s) (hb : ¬ L.has b) (H C : Nat) (hi : At w b o T cs (GvV 2 sl (topw H C))) (c0 c1 c2 c3 c4 c5 c6 who : Int) (hn : 1 < s.n) (hsl : (sl : Int) < c1) (hs : sl ≤ 65535) (hH : H ≤ 65536) (hC : C ≤ 1000000) (yes : s.wd 1 = topw H C) :
    Calls Try.prog 12 #[.pointer (some ⟨b, o, none⟩), .agg #[.int .i64 c0, .int .i64 c1, .int .i64 c2, .int .i64 c3, .int .i64 c4, .int .i64 c5, .int .i64 c6, .pointer (some ⟨L.p, 0, none⟩), .int .i64 who]] w fun e w' => e = .returned (.bool true) ∧ ∃ cs', MemAt w' L ((s.by who).step 1 (topw (sl + 1) (C + 1))) ∧ At w' b o T cs' (GvV 3 sl (topw H C)) ∧ Same o 3 cs cs' ∧ Only (L.and b) w w' := by
  have hn1 : decide ((s.n : Int) ≤ 1) = false := decide_eq_false (by omega)
  have hbv : ¬ L.has w.heap.size := fun hh => by have := h.lt _ hh; omega
  have hbb : ¬ w.heap.size = b := fun hh => by have := hi.lt; omega
  have HW : Hid (s.wd 1 = topw H C) := yes
  clear yes
  go_enter Try.func12, Try.ntmps12
  go_wp2
  refine wp_over (fun W => MemAt W L s ∧ At W b o T cs (GvV 2 sl (topw H C)) ∧ BoxV W w.heap.size c0 c1 c2 c3 c4 c5 c6 L.p who ∧ Only (L.and b) w W) ⟨h.alloc _, hi.grown (grow_alloc (Below.refl _ _) _), BoxV.new, (Only.refl _ _).alloc _⟩ ?_
  rintro W ⟨m1, i1, v1, o1⟩
  have e0 := fun N : Later W => (v1.grown N.below).c0
  have e1 := fun N : Later W => (v1.grown N.below).c1
  have e2 := fun N : Later W => (v1.grown N.below).c2
  have e3 := fun N : Later W => (v1.grown N.below).c3
  have e4 := fun N : Later W => (v1.grown N.below).c4
  have e5 := fun N : Later W => (v1.grown N.below).c5
  have e6 := fun N : Later W => (v1.grown N.below).c6
  have e7 := fun N : Later W => (v1.grown N.below).c7
  have e8 := fun N : Later W => (v1.grown N.below).c8
  have e9 := fun N : Later W => (i1.grown N.below).cell 1 rfl
  have hm := fun N : Later W => m1.below N.below
  haveI := Later.exists W
  refine wp_region_later (by kernel_rfl) (by kernel_rfl) ?_
  repeat (go_big_quiet_step ((first
    | (go_at_call 26; exact Calls.later (shas_any L _ _ _ _ _ _ _ _ _ _ true (decide_eq_true ⟨by omega, by omega⟩)))
    | (go_at_call 19; exact Calls.later_same (ltop_any _))
    | (go_at_call 24; exact Calls.later_same (len_any (hm _))))))
  refine wpQuiet_nil ?_
  rintro _ ⟨nq, rfl⟩
  clear e0 e1 e2 e3 e4 e5 e6 e7 e8 e9 hm hn1
  have i2 := i1.grown nq.below
  have m2 := m1.below nq.below
  have v2 := v1.grown nq.below
  have o2 : Only (L.and b) w nq.now := o1.trans (Only.ofGrown nq.below)
  have k0 := i2.cell0 rfl
  have k2 := i2.cell 2 rfl
  have kf := i2.fz
  clear m1 i1 v1 o1
  go_wp2
  refine wp_over (fun W => MemAt W L s ∧ At W b o T cs (GvV 2 sl (topw H C)) ∧ BoxV W w.heap.size c0 c1 c2 c3 c4 c5 c6 L.p who ∧ Only (L.and b) w W) ⟨m2, i2, v2, o2⟩ ?_
  clear m2 i2 v2 o2 k0 k2 kf
  rintro W ⟨m1, i1, v1, o1⟩
  refine wp_region_phase (OnlyBut L b o) Grown (phAt L b o T cs (cs.setIfInBounds o (.int .i64 3)) s ((s.by who).step 1 (topw (sl + 1) (C + 1))) (GvV 2 sl (topw H C)) (GvV 3 sl (topw H C))) [10, 13] [.val (.pointer (some ⟨b, o, none⟩)), .val (.agg #[.int .i64 c0, .int .i64 c1, .int .i64 c2, .int .i64 c3, .int .i64 c4, .int .i64 c5, .int .i64 c6, .pointer (some ⟨L.p, 0, none⟩), .int .i64 who]), .val (.pointer (some ⟨b, o, none⟩)), .val (.pointer (some ⟨b, o, none⟩)), .val (.pointer (some ⟨b, o + 2, none⟩)), .val (.int .u64 (topw H C)), .val (.pointer (some ⟨b, o, none⟩)), .val (.pointer (some ⟨b, o, none⟩)), .val (.pointer (some ⟨b, o + 1, none⟩)), .val (.int .i64 sl), .val (.int .i64 3), .val (.pointer (some ⟨b, o, none⟩)), .val (.pointer (some ⟨b, o, none⟩)), .that (fun _ _ => True) (fun _ _ _ _ _ => trivial)]
    (by kernel_rfl) OnlyBut.refl OnlyBut.trans OnlyBut.ofGrown phAt_grown ⟨m1.drew, i1.drew⟩ (by kernel_rfl) (by kernel_rfl) (by kernel_rfl) (by kernel_rfl) (by kernel_rfl) ?_
  simp only [phaseAll, Act.put, List.setIfInBounds_toArray, List.set_cons_zero, List.set_cons_succ]
  refine ⟨?_, ?_, ?_, ?_, ?_, ?_, ?_, ?_, ?_, ?_, ?_, ?_, ?_, ?_, ?_⟩
  · intro w' hR _
    refine Or.inl ⟨rfl, ?_⟩
    go_simp
    exact ⟨Grown.refl _, rfl⟩
  · intro w' hR _
    refine Or.inl ⟨rfl, ?_⟩
    have vv := (v1.grown ((Below.refl _ _).drew)).only hR.only (fun hh => hh.elim hbv hbb)
    have y0 := vv.c0
    have y1 := vv.c1
    have y2 := vv.c2
    have y3 := vv.c3
    have y4 := vv.c4
    have y5 := vv.c5
    have y6 := vv.c6
    have y7 := vv.c7
    have y8 := vv.c8
    go_simp
    exact ⟨Grown.refl _, rfl⟩
  · intro w' hR _
    refine Or.inl ⟨rfl, ?_⟩
    go_simp
    exact ⟨Grown.refl _, rfl⟩
  · intro w' hR _
    refine Or.inl ⟨rfl, ?_⟩
    go_simp
    exact ⟨Grown.refl _, rfl⟩
  · intro w' hR _
    refine Or.inl ⟨rfl, ?_⟩
    go_simp
    exact ⟨Grown.refl _, rfl⟩
  · intro w' hR _
    refine Or.inl ⟨rfl, ?_⟩
    have z := hR.keep (j := o + 2) (by omega) (i1.drew.cell 2 rfl)
    go_simp
    exact ⟨Grown.refl _, rfl⟩
  · intro w' hR _
    refine Or.inl ⟨rfl, ?_⟩
    go_simp
    exact ⟨Grown.refl _, rfl⟩
  · intro w' hR _
    refine Or.inl ⟨rfl, ?_⟩
    go_simp
    exact ⟨Grown.refl _, rfl⟩
  · intro w' hR _
    refine Or.inl ⟨rfl, ?_⟩
    go_simp
    exact ⟨Grown.refl _, rfl⟩
  · intro w' hR _
    refine Or.inl ⟨rfl, ?_⟩
    have z := hR.keep (j := o + 1) (by omega) (i1.drew.cell 1 rfl)
    go_simp
    exact ⟨Grown.refl _, rfl⟩
  · intro w' hR _ hP
    refine Or.inl ⟨rfl, ?_⟩
    go_simp
    refine (swap_yes_at (s := s) hP.1 _ _ _ _ _ _ _ _ H C sl hn hH hC hs HW.out).mono ?_
    rintro e w'' ⟨rfl, m2, o2⟩
    exact ⟨_, rfl, ⟨OnlyBut.ofOnly o2 hb, m2, hP.2.only o2 hb⟩, rfl⟩
  · intro w' hR _
    refine Or.inl ⟨rfl, ?_⟩
    go_simp
    exact ⟨Grown.refl _, rfl⟩
  · intro w' hR _
    refine Or.inl ⟨rfl, ?_⟩
    go_simp
    exact ⟨Grown.refl _, rfl⟩
  · intro w' hR _ hP
    refine Or.inl ⟨rfl, ?_⟩
    have z0 := hP.2.cell0 rfl
    have z1 := hP.2.fz
    go_simp
    exact ⟨⟨OnlyBut.set _ _, hP.1.setIn hb _ _, hP.2.set0 _⟩, trivial⟩
  intro v w2 hR hP _
  obtain ⟨m2, i2⟩ : MemAt w2 L ((s.by who).step 1 (topw (sl + 1) (C + 1))) ∧ At w2 b o T (cs.setIfInBounds o (.int .i64 3)) (GvV 3 sl (topw H C)) := hP
  have o2 : Only (L.and b) w w2 := o1.drew.trans hR.only
  have s2 : Same o 3 cs (cs.setIfInBounds o (.int .i64 3)) := Same.refl.set (by omega) _
  clear hR o1 v1 m1 i1 HW
  have k0 := i2.cell0 rfl
  have kf := i2.fz
  go_wp2
  go_ret
  exact ⟨rfl, _, m2, i2, s2, o2⟩

theorem gstep_no {w : World} {L : Loc} {s : Mm} {b o : Nat} {T : TypeId} {cs : Array Value} {sl : Nat} (h : MemAt w L s) (hb : ¬ L.has b) (H C : Nat) (hi : At w b o T cs (GvV 2 sl (topw H C))) (c0 c1 c2 c3 c4 c5 c6 who : Int) (hn : 1 < s.n) (hsl : (sl : Int) < c1) (hs : sl ≤ 65535) (hH : H ≤ 65536) (hC : C ≤ 1000000) (no : ¬ s.wd 1 = topw H C) :
    Calls Try.prog 12 #[.pointer (some ⟨b, o, none⟩), .agg #[.int .i64 c0, .int .i64 c1, .int .i64 c2, .int .i64 c3, .int .i64 c4, .int .i64 c5, .int .i64 c6, .pointer (some ⟨L.p, 0, none⟩), .int .i64 who]] w fun e w' => e = .returned (.bool false) ∧ ∃ cs', MemAt w' L ((s.by who).step 1 (s.wd 1)) ∧ At w' b o T cs' (GvV 0 sl (topw H C)) ∧ Same o 3 cs cs' ∧ Only (L.and b) w w' := by
  have hn1 : decide ((s.n : Int) ≤ 1) = false := decide_eq_false (by omega)
  have hbv : ¬ L.has w.heap.size := fun hh => by have := h.lt _ hh; omega
  have hbb : ¬ w.heap.size = b := fun hh => by have := hi.lt; omega
  have HW : Hid (¬ s.wd 1 = topw H C) := no
  clear no
  go_enter Try.func12, Try.ntmps12
  go_wp2
  refine wp_over (fun W => MemAt W L s ∧ At W b o T cs (GvV 2 sl (topw H C)) ∧ BoxV W w.heap.size c0 c1 c2 c3 c4 c5 c6 L.p who ∧ Only (L.and b) w W) ⟨h.alloc _, hi.grown (grow_alloc (Below.refl _ _) _), BoxV.new, (Only.refl _ _).alloc _⟩ ?_
  rintro W ⟨m1, i1, v1, o1⟩
  have e0 := fun N : Later W => (v1.grown N.below).c0
  have e1 := fun N : Later W => (v1.grown N.below).c1
  have e2 := fun N : Later W => (v1.grown N.below).c2
  have e3 := fun N : Later W => (v1.grown N.below).c3
  have e4 := fun N : Later W => (v1.grown N.below).c4
  have e5 := fun N : Later W => (v1.grown N.below).c5
  have e6 := fun N : Later W => (v1.grown N.below).c6
  have e7 := fun N : Later W => (v1.grown N.below).c7
  have e8 := fun N : Later W => (v1.grown N.below).c8
  have e9 := fun N : Later W => (i1.grown N.below).cell 1 rfl
  have hm := fun N : Later W => m1.below N.below
  haveI := Later.exists W
  refine wp_region_later (by kernel_rfl) (by kernel_rfl) ?_
  repeat (go_big_quiet_step ((first
    | (go_at_call 26; exact Calls.later (shas_any L _ _ _ _ _ _ _ _ _ _ true (decide_eq_true ⟨by omega, by omega⟩)))
    | (go_at_call 19; exact Calls.later_same (ltop_any _))
    | (go_at_call 24; exact Calls.later_same (len_any (hm _))))))
  refine wpQuiet_nil ?_
  rintro _ ⟨nq, rfl⟩
  clear e0 e1 e2 e3 e4 e5 e6 e7 e8 e9 hm hn1
  have i2 := i1.grown nq.below
  have m2 := m1.below nq.below
  have v2 := v1.grown nq.below
  have o2 : Only (L.and b) w nq.now := o1.trans (Only.ofGrown nq.below)
  have k0 := i2.cell0 rfl
  have k2 := i2.cell 2 rfl
  have kf := i2.fz
  clear m1 i1 v1 o1
  go_wp2
  refine wp_over (fun W => MemAt W L s ∧ At W b o T cs (GvV 2 sl (topw H C)) ∧ BoxV W w.heap.size c0 c1 c2 c3 c4 c5 c6 L.p who ∧ Only (L.and b) w W) ⟨m2, i2, v2, o2⟩ ?_
  clear m2 i2 v2 o2 k0 k2 kf
  rintro W ⟨m1, i1, v1, o1⟩
  refine wp_region_phase (OnlyBut L b o) Grown (phAt L b o T cs (cs.setIfInBounds o (.int .i64 0)) s ((s.by who).step 1 (s.wd 1)) (GvV 2 sl (topw H C)) (GvV 0 sl (topw H C))) [10, 13] [.val (.pointer (some ⟨b, o, none⟩)), .val (.agg #[.int .i64 c0, .int .i64 c1, .int .i64 c2, .int .i64 c3, .int .i64 c4, .int .i64 c5, .int .i64 c6, .pointer (some ⟨L.p, 0, none⟩), .int .i64 who]), .val (.pointer (some ⟨b, o, none⟩)), .val (.pointer (some ⟨b, o, none⟩)), .val (.pointer (some ⟨b, o + 2, none⟩)), .val (.int .u64 (topw H C)), .val (.pointer (some ⟨b, o, none⟩)), .val (.pointer (some ⟨b, o, none⟩)), .val (.pointer (some ⟨b, o + 1, none⟩)), .val (.int .i64 sl), .val (.int .i64 0), .val (.pointer (some ⟨b, o, none⟩)), .val (.pointer (some ⟨b, o, none⟩)), .that (fun _ _ => True) (fun _ _ _ _ _ => trivial)]
    (by kernel_rfl) OnlyBut.refl OnlyBut.trans OnlyBut.ofGrown phAt_grown ⟨m1.drew, i1.drew⟩ (by kernel_rfl) (by kernel_rfl) (by kernel_rfl) (by kernel_rfl) (by kernel_rfl) ?_
  simp only [phaseAll, Act.put, List.setIfInBounds_toArray, List.set_cons_zero, List.set_cons_succ]
  refine ⟨?_, ?_, ?_, ?_, ?_, ?_, ?_, ?_, ?_, ?_, ?_, ?_, ?_, ?_, ?_⟩
  · intro w' hR _
    refine Or.inl ⟨rfl, ?_⟩
    go_simp
    exact ⟨Grown.refl _, rfl⟩
  · intro w' hR _
    refine Or.inl ⟨rfl, ?_⟩
    have vv := (v1.grown ((Below.refl _ _).drew)).only hR.only (fun hh => hh.elim hbv hbb)
    have y0 := vv.c0
    have y1 := vv.c1
    have y2 := vv.c2
    have y3 := vv.c3
    have y4 := vv.c4
    have y5 := vv.c5
    have y6 := vv.c6
    have y7 := vv.c7
    have y8 := vv.c8
    go_simp
    exact ⟨Grown.refl _, rfl⟩
  · intro w' hR _
    refine Or.inl ⟨rfl, ?_⟩
    go_simp
    exact ⟨Grown.refl _, rfl⟩
  · intro w' hR _
    refine Or.inl ⟨rfl, ?_⟩
    go_simp
    exact ⟨Grown.refl _, rfl⟩
  · intro w' hR _
    refine Or.inl ⟨rfl, ?_⟩
    go_simp
    exact ⟨Grown.refl _, rfl⟩
  · intro w' hR _
    refine Or.inl ⟨rfl, ?_⟩
    have z := hR.keep (j := o + 2) (by omega) (i1.drew.cell 2 rfl)
    go_simp
    exact ⟨Grown.refl _, rfl⟩
  · intro w' hR _
    refine Or.inl ⟨rfl, ?_⟩
    go_simp
    exact ⟨Grown.refl _, rfl⟩
  · intro w' hR _
    refine Or.inl ⟨rfl, ?_⟩
    go_simp
    exact ⟨Grown.refl _, rfl⟩
  · intro w' hR _
    refine Or.inl ⟨rfl, ?_⟩
    go_simp
    exact ⟨Grown.refl _, rfl⟩
  · intro w' hR _
    refine Or.inl ⟨rfl, ?_⟩
    have z := hR.keep (j := o + 1) (by omega) (i1.drew.cell 1 rfl)
    go_simp
    exact ⟨Grown.refl _, rfl⟩
  · intro w' hR _ hP
    refine Or.inl ⟨rfl, ?_⟩
    go_simp
    refine (swap_no_at (s := s) hP.1 _ _ _ _ _ _ _ _ H C sl hn hH hC hs HW.out).mono ?_
    rintro e w'' ⟨rfl, m2, o2⟩
    exact ⟨_, rfl, ⟨OnlyBut.ofOnly o2 hb, m2, hP.2.only o2 hb⟩, rfl⟩
  · intro w' hR _
    refine Or.inl ⟨rfl, ?_⟩
    go_simp
    exact ⟨Grown.refl _, rfl⟩
  · intro w' hR _
    refine Or.inl ⟨rfl, ?_⟩
    go_simp
    exact ⟨Grown.refl _, rfl⟩
  · intro w' hR _ hP
    refine Or.inl ⟨rfl, ?_⟩
    have z0 := hP.2.cell0 rfl
    have z1 := hP.2.fz
    go_simp
    exact ⟨⟨OnlyBut.set _ _, hP.1.setIn hb _ _, hP.2.set0 _⟩, trivial⟩
  intro v w2 hR hP _
  obtain ⟨m2, i2⟩ : MemAt w2 L ((s.by who).step 1 (s.wd 1)) ∧ At w2 b o T (cs.setIfInBounds o (.int .i64 0)) (GvV 0 sl (topw H C)) := hP
  have o2 : Only (L.and b) w w2 := o1.drew.trans hR.only
  have s2 : Same o 3 cs (cs.setIfInBounds o (.int .i64 0)) := Same.refl.set (by omega) _
  clear hR o1 v1 m1 i1 HW
  have k0 := i2.cell0 rfl
  have kf := i2.fz
  go_wp2
  go_ret
  exact ⟨rfl, _, m2, i2, s2, o2⟩

end Go.Proofs.Ytfedcddnjollmaa
