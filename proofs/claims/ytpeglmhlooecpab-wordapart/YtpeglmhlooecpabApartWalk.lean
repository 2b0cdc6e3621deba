/- WordApart answers true for every two handles' words and every two heads, and leaves what was in memory. -/
import Derived.Test.YtpeglmhlooecpabAwake
import Derived.Test.YtpeglmhlooecpabRefget
import Derived.Test.YtpeglmhlooecpabFloat
import Derived.Deep.CutRange
namespace Go.Proofs.Ytpeglmhlooecpab
open Go.RowKit

theorem eqSlot (a b c d a' b' c' d' : Int) (w : World) :
    (binOp .eql 23 (.agg #[.int .i64 a, .int .i64 b, .int .i64 c, .int .i64 d]) (.agg #[.int .i64 a', .int .i64 b', .int .i64 c', .int .i64 d'])).run Try.prog w = .ok (.bool (decide (a = a' ∧ b = b' ∧ c = c' ∧ d = d'))) w := by
  go_simp
  by_cases h1 : a = a' <;> by_cases h2 : b = b' <;> by_cases h3 : c = c' <;> by_cases h4 : d = d' <;> simp [h1, h2, h3, h4]
theorem eqHead (a b c d a' b' c' d' : Int) (o o' : Bool) (w : World) :
    (binOp .eql 26 (.agg #[.int .i64 a, .int .i64 b, .int .i64 c, .int .i64 d, .bool o]) (.agg #[.int .i64 a', .int .i64 b', .int .i64 c', .int .i64 d', .bool o'])).run Try.prog w = .ok (.bool (decide (a = a' ∧ b = b' ∧ c = c' ∧ d = d' ∧ o = o'))) w := by
  go_simp
  by_cases h1 : a = a' <;> by_cases h2 : b = b' <;> by_cases h3 : c = c' <;> by_cases h4 : d = d' <;> by_cases h5 : o = o' <;> simp [h1, h2, h3, h4, h5]

/-- a handle's word that fits, and its number -/
structure SlotOf (a b c d x : Int) : Prop where
  ra : 0 ≤ a ∧ a ≤ 7
  rb : 0 ≤ b ∧ b ≤ 1048575
  rc : 0 ≤ c ∧ c ≤ 65535
  rd : 0 ≤ d ∧ d ≤ 4194303
  rx : x = a + b * 8 + c * 8388608 + d * 549755813888

/-- a head that fits, and its number -/
structure HeadOf (a b c d : Int) (o : Bool) (x : Int) : Prop where
  ra : 0 ≤ a ∧ a ≤ 3
  rb : 0 ≤ b ∧ b ≤ 65535
  rc : 0 ≤ c ∧ c ≤ 65535
  rd : 0 ≤ d ∧ d ≤ 65535
  rx : x = a + b * 4 + c * 262144 + d * 17179869184 + if o then 1125899906842624 else 0

theorem SlotOf.same {a b c d x a' b' c' d' x' : Int} (h : SlotOf a b c d x) (h' : SlotOf a' b' c' d' x') : (x == x') = decide (a = a' ∧ b = b' ∧ c = c' ∧ d = d') := by
  have := h.ra; have := h.rb; have := h.rc; have := h.rd; have := h.rx
  have := h'.ra; have := h'.rb; have := h'.rc; have := h'.rd; have := h'.rx
  show decide (x = x') = _
  congr 1
  simp only [eq_iff_iff]
  omega

theorem HeadOf.same {a b c d x a' b' c' d' x' : Int} {o o' : Bool} (h : HeadOf a b c d o x) (h' : HeadOf a' b' c' d' o' x') : (x == x') = decide (a = a' ∧ b = b' ∧ c = c' ∧ d = d' ∧ o = o') := by
  have := h.ra; have := h.rb; have := h.rc; have := h.rd; have h1 := h.rx
  have := h'.ra; have := h'.rb; have := h'.rc; have := h'.rd; have h2 := h'.rx
  show decide (x = x') = _
  congr 1
  simp only [eq_iff_iff]
  cases o <;> cases o' <;> simp at h1 h2 ⊢ <;> omega

theorem SlotOf.put {a b c d x : Int} (h : SlotOf a b c d x) (w : World) :
    Calls Try.prog 11 #[.agg #[.int .i64 a, .int .i64 b, .int .i64 c, .int .i64 d]] w fun e w' => e = .returned (.int .u64 x) ∧ Below w.heap.size w w' := by
  have e : packS a b c d = x := by
    rw [h.rx]; unfold packS
    rw [cut_id a 3 h.ra.1 (by have := h.ra; omega), cut_id b 20 h.rb.1 (by have := h.rb; omega), cut_id c 16 h.rc.1 (by have := h.rc; omega), cut_id d 22 h.rd.1 (by have := h.rd; omega)]
  rw [← e]
  have := h.ra; have := h.rb; have := h.rc; have := h.rd
  exact putSlot_any a b c d w ⟨by omega, by omega⟩ ⟨by omega, by omega⟩ ⟨by omega, by omega⟩ ⟨by omega, by omega⟩

theorem HeadOf.put {a b c d x : Int} {o : Bool} (h : HeadOf a b c d o x) (w : World) :
    Calls Try.prog 12 #[.agg #[.int .i64 a, .int .i64 b, .int .i64 c, .int .i64 d, .bool o]] w fun e w' => e = .returned (.int .u64 x) ∧ Below w.heap.size w w' := by
  have e : packOw a b c d o = x := by
    rw [h.rx]; unfold packOw packO
    rw [cut_id a 2 h.ra.1 (by have := h.ra; omega), cut_id b 16 h.rb.1 (by have := h.rb; omega), cut_id c 16 h.rc.1 (by have := h.rc; omega), cut_id d 16 h.rd.1 (by have := h.rd; omega)]
    split <;> omega
  rw [← e]
  have := h.ra; have := h.rb; have := h.rc; have := h.rd
  exact putHead_any a b c d o w ⟨by omega, by omega⟩ ⟨by omega, by omega⟩ ⟨by omega, by omega⟩ ⟨by omega, by omega⟩

/-- what the document's own packing and unpacking makes of any four numbers fits -/
theorem slotThere (a b c d : Int) (ha : Fit a) (hb : Fit b) (hc : Fit c) (hd : Fit d) : ∃ u A B C D x, (∀ w : World, Calls Try.prog 7 #[.agg #[.int .i64 a, .int .i64 b, .int .i64 c, .int .i64 d]] w fun e w' => e = .returned (.int .u64 u) ∧ Below w.heap.size w w') ∧
    (∀ w : World, Calls Try.prog 6 #[.int .u64 u] w fun e w' => e = .returned (.agg #[.int .i64 A, .int .i64 B, .int .i64 C, .int .i64 D]) ∧ Below w.heap.size w w') ∧ SlotOf A B C D x := by
  have hb' := packS_bd a b c d
  exact ⟨_, _, _, _, _, _, fun w => refSlot_any a b c d w ha hb hc hd, fun w => refGetSlot_any _ w hb'.1 (by omega), by omega, by omega, by omega, by omega, rfl⟩

theorem headThere (a b c d : Int) (o : Bool) (ha : Fit a) (hb : Fit b) (hc : Fit c) (hd : Fit d) : ∃ u A B C D O x, (∀ w : World, Calls Try.prog 9 #[.agg #[.int .i64 a, .int .i64 b, .int .i64 c, .int .i64 d, .bool o]] w fun e w' => e = .returned (.int .u64 u) ∧ Below w.heap.size w w') ∧
    (∀ w : World, Calls Try.prog 8 #[.int .u64 u] w fun e w' => e = .returned (.agg #[.int .i64 A, .int .i64 B, .int .i64 C, .int .i64 D, .bool O]) ∧ Below w.heap.size w w') ∧ HeadOf A B C D O x := by
  have hb' := packOw_bd a b c d o
  exact ⟨_, _, _, _, _, _, _, fun w => refHead_any a b c d o w ha hb hc hd, fun w => refGetHead_any _ w hb'.1 (by omega), by omega, by omega, by omega, by omega, rfl⟩

theorem hid {p : Prop} (h : p) : Hid p := h

theorem zero4 {w : World} {k : Nat} {a b c d : Value} {t : TypeId} (h : w.heap[k]? = some (.cells #[a, b, c, d] t)) :
    w.cell? ⟨k, 0, none⟩ = some a ∧ w.cell? ⟨k, 1, none⟩ = some b ∧ w.cell? ⟨k, 2, none⟩ = some c ∧ w.cell? ⟨k, 3, none⟩ = some d ∧
    w.frozen? ⟨k, 0, none⟩ = false ∧ w.frozen? ⟨k, 1, none⟩ = false ∧ w.frozen? ⟨k, 2, none⟩ = false ∧ w.frozen? ⟨k, 3, none⟩ = false := by
  simp [World.cell?, World.frozen?, h]
theorem zero5 {w : World} {k : Nat} {a b c d o : Value} {t : TypeId} (h : w.heap[k]? = some (.cells #[a, b, c, d, o] t)) :
    w.cell? ⟨k, 0, none⟩ = some a ∧ w.cell? ⟨k, 1, none⟩ = some b ∧ w.cell? ⟨k, 2, none⟩ = some c ∧ w.cell? ⟨k, 3, none⟩ = some d ∧ w.cell? ⟨k, 4, none⟩ = some o ∧
    w.frozen? ⟨k, 0, none⟩ = false ∧ w.frozen? ⟨k, 1, none⟩ = false ∧ w.frozen? ⟨k, 2, none⟩ = false ∧ w.frozen? ⟨k, 3, none⟩ = false ∧ w.frozen? ⟨k, 4, none⟩ = false := by
  simp [World.cell?, World.frozen?, h]

set_option maxHeartbeats 1000000 in
theorem apart_any (a1 b1 c1 d1 a2 b2 c2 d2 hk1 hz1 ht1 hg1 hk2 hz2 ht2 hg2 : Int) (o1 o2 : Bool) (w : World) (fa1 : Fit a1) (fb1 : Fit b1) (fc1 : Fit c1) (fd1 : Fit d1) (fa2 : Fit a2) (fb2 : Fit b2) (fc2 : Fit c2) (fd2 : Fit d2) (fhk1 : Fit hk1) (fhz1 : Fit hz1) (fht1 : Fit ht1) (fhg1 : Fit hg1) (fhk2 : Fit hk2) (fhz2 : Fit hz2) (fht2 : Fit ht2) (fhg2 : Fit hg2) :
    Calls Try.prog 3 #[.agg #[.int .i64 a1, .int .i64 b1, .int .i64 c1, .int .i64 d1, .int .i64 a2, .int .i64 b2, .int .i64 c2, .int .i64 d2], .agg #[.int .i64 hk1, .int .i64 hz1, .int .i64 ht1, .int .i64 hg1, .bool o1, .int .i64 hk2, .int .i64 hz2, .int .i64 ht2, .int .i64 hg2, .bool o2]] w fun e w' => e = .returned (.bool true) ∧ Below w.heap.size w w' := by
  obtain ⟨u1, A1, B1, C1, D1, x1, HS1, HG1, X1⟩ := slotThere a1 b1 c1 d1 fa1 fb1 fc1 fd1
  obtain ⟨u2, A2, B2, C2, D2, x2, HS2, HG2, X2⟩ := slotThere a2 b2 c2 d2 fa2 fb2 fc2 fd2
  obtain ⟨v1, K1, Z1, T1, G1, O1, y1, HH1, HI1, Y1⟩ := headThere hk1 hz1 ht1 hg1 o1 fhk1 fhz1 fht1 fhg1
  obtain ⟨v2, K2, Z2, T2, G2, O2, y2, HH2, HI2, Y2⟩ := headThere hk2 hz2 ht2 hg2 o2 fhk2 fhz2 fht2 fhg2
  replace HS1 := hid HS1
  replace HS2 := hid HS2
  replace HG1 := hid HG1
  replace HG2 := hid HG2
  replace HH1 := hid HH1
  replace HH2 := hid HH2
  replace HI1 := hid HI1
  replace HI2 := hid HI2
  clear fa1 fb1 fc1 fd1 fa2 fb2 fc2 fd2 fhk1 fhz1 fht1 fhg1 fhk2 fhz2 fht2 fhg2
  go_enter Try.func3, Try.ntmps3
  go_wp2_with fail
  refine wp_over (fun W => ((W.cell? ⟨w.heap.size, 0, none⟩ = some (.int .i64 a1) ∧ W.cell? ⟨w.heap.size, 1, none⟩ = some (.int .i64 b1) ∧ W.cell? ⟨w.heap.size, 2, none⟩ = some (.int .i64 c1) ∧ W.cell? ⟨w.heap.size, 3, none⟩ = some (.int .i64 d1) ∧ W.cell? ⟨w.heap.size, 4, none⟩ = some (.int .i64 a2) ∧ W.cell? ⟨w.heap.size, 5, none⟩ = some (.int .i64 b2) ∧ W.cell? ⟨w.heap.size, 6, none⟩ = some (.int .i64 c2) ∧ W.cell? ⟨w.heap.size, 7, none⟩ = some (.int .i64 d2)) ∧ (W.cell? ⟨w.heap.size + 1, 0, none⟩ = some (.int .i64 hk1) ∧ W.cell? ⟨w.heap.size + 1, 1, none⟩ = some (.int .i64 hz1) ∧ W.cell? ⟨w.heap.size + 1, 2, none⟩ = some (.int .i64 ht1) ∧ W.cell? ⟨w.heap.size + 1, 3, none⟩ = some (.int .i64 hg1) ∧ W.cell? ⟨w.heap.size + 1, 4, none⟩ = some (.bool o1) ∧ W.cell? ⟨w.heap.size + 1, 5, none⟩ = some (.int .i64 hk2) ∧ W.cell? ⟨w.heap.size + 1, 6, none⟩ = some (.int .i64 hz2) ∧ W.cell? ⟨w.heap.size + 1, 7, none⟩ = some (.int .i64 ht2) ∧ W.cell? ⟨w.heap.size + 1, 8, none⟩ = some (.int .i64 hg2) ∧ W.cell? ⟨w.heap.size + 1, 9, none⟩ = some (.bool o2))) ∧ Below w.heap.size w W) ?_ ?_
  · refine ⟨⟨⟨by go_simp, by go_simp, by go_simp, by go_simp, by go_simp, by go_simp, by go_simp, by go_simp⟩, ⟨by go_simp, by go_simp, by go_simp, by go_simp, by go_simp, by go_simp, by go_simp, by go_simp, by go_simp, by go_simp⟩⟩, grow_alloc (grow_alloc (Below.refl _ _) _) _⟩
  rintro W ⟨⟨⟨p0, p1, p2, p3, p4, p5, p6, p7⟩, ⟨q0, q1, q2, q3, q4, q5, q6, q7, q8, q9⟩⟩, BW⟩
  obtain ⟨N, hN⟩ : ∃ N, N = w.heap.size := ⟨_, rfl⟩
  rw [← hN] at p0 p1 p2 p3 p4 p5 p6 p7 q0 q1 q2 q3 q4 q5 q6 q7 q8 q9
  have HN : Hid (N = w.heap.size) := hN
  rw [← hN]
  clear hN
  go_cut [5, 6] from 9 to 16 (fun s5 s6 wx => ∃ k l, s5 = .pointer (some ⟨k, 0, none⟩) ∧ s6 = .pointer (some ⟨l, 0, none⟩) ∧ (wx.cell? ⟨k, 0, none⟩ = some (.int .i64 A1) ∧ wx.cell? ⟨k, 1, none⟩ = some (.int .i64 B1) ∧ wx.cell? ⟨k, 2, none⟩ = some (.int .i64 C1) ∧ wx.cell? ⟨k, 3, none⟩ = some (.int .i64 D1)) ∧ (wx.cell? ⟨l, 0, none⟩ = some (.int .i64 A2) ∧ wx.cell? ⟨l, 1, none⟩ = some (.int .i64 B2) ∧ wx.cell? ⟨l, 2, none⟩ = some (.int .i64 C2) ∧ wx.cell? ⟨l, 3, none⟩ = some (.int .i64 D2)) ∧ Below W.heap.size W wx)
  case first =>
    refine wp_region_float (m := 8) (g := 2) (.cells #[.int .i64 0, .int .i64 0, .int .i64 0, .int .i64 0] 23) (.cells #[.int .i64 0, .int .i64 0, .int .i64 0, .int .i64 0] 23)
      [.pointer (some ⟨N, 0, none⟩), .agg #[.int .i64 a1, .int .i64 b1, .int .i64 c1, .int .i64 d1], .int .u64 u1, .agg #[.int .i64 A1, .int .i64 B1, .int .i64 C1, .int .i64 D1], .pointer (some ⟨N, 4, none⟩), .agg #[.int .i64 a2, .int .i64 b2, .int .i64 c2, .int .i64 d2], .int .u64 u2, .agg #[.int .i64 A2, .int .i64 B2, .int .i64 C2, .int .i64 D2]]
      (by kernel_rfl) rfl (by decide) (by kernel_rfl) (by kernel_rfl) (by kernel_rfl) (by kernel_rfl) (by kernel_rfl) rfl rfl rfl rfl rfl rfl (by decide) (fun e w => by kernel_rfl) (fun e w => by kernel_rfl) ?_ ?_
    · simp only [List.take_succ_cons, List.take_zero, softAll, soft, and_true]
      refine ⟨fun w' b' => ?_, fun w' b' => ?_, fun w' b' => ?_, fun w' b' => ?_, fun w' b' => ?_, fun w' b' => ?_, fun w' b' => ?_, fun w' b' => ?_⟩
      all_goals
        have m0 := keep b' p0
        have m1 := keep b' p1
        have m2 := keep b' p2
        have m3 := keep b' p3
        have m4 := keep b' p4
        have m5 := keep b' p5
        have m6 := keep b' p6
        have m7 := keep b' p7
        clear p0 p1 p2 p3 p4 p5 p6 p7
        go_simp
      · exact ⟨rfl, rfl⟩
      · exact ⟨rfl, rfl⟩
      · exact ⟨rfl, HS1.out _⟩
      · exact ⟨rfl, HG1.out _⟩
      · exact ⟨rfl, rfl⟩
      · exact ⟨rfl, rfl⟩
      · exact ⟨rfl, HS2.out _⟩
      · exact ⟨rfl, HG2.out _⟩
    · intro k l w' hw
      simp only [List.take_succ_cons, List.take_zero, putL, putO, if_true, Act.put, List.setIfInBounds_toArray, List.set_cons_zero, List.set_cons_succ]
      obtain ⟨xx0, xx1, xx2, xx3, ff0, ff1, ff2, ff3⟩ := zero4 (hw.p k rfl).2
      obtain ⟨yy0, yy1, yy2, yy3, hh0, hh1, hh2, hh3⟩ := zero4 (hw.q l rfl).2
      have hkl := hw.ne k l rfl rfl
      have hlk := Ne.symm hkl
      have gk := (hw.p k rfl).1
      have gl := (hw.q l rfl).1
      have hB := hw.below
      clear hw
      refine wpAny_ready (rs := [10]) (by kernel_rfl) (by simp) ?_
      refine AllReady.cons rfl (fun K hK => ?_) AllReady.nil
      go_simp
      refine hK _ _ ?_
      clear hK K
      refine wpAny_ready (rs := [11]) (by kernel_rfl) (by simp) ?_
      refine AllReady.cons rfl (fun K hK => ?_) AllReady.nil
      go_simp
      refine hK _ _ ?_
      clear hK K
      refine wpAny_done (by kernel_rfl) ?_ _
      go_wp2_with fail
      go_meet
      case rel =>
        refine ⟨k, l, rfl, rfl, ⟨by go_simp, by go_simp, by go_simp, by go_simp⟩, ⟨by go_simp, by go_simp, by go_simp, by go_simp⟩, ?_⟩
        exact ((((((((hB.setCell (p := ⟨k, 0, none⟩) gk _).setCell (p := ⟨k, 1, none⟩) gk _).setCell (p := ⟨k, 2, none⟩) gk _).setCell (p := ⟨k, 3, none⟩) gk _).setCell (p := ⟨l, 0, none⟩) gl _).setCell (p := ⟨l, 1, none⟩) gl _).setCell (p := ⟨l, 2, none⟩) gl _).setCell (p := ⟨l, 3, none⟩) gl _)
  case rest =>
    obtain ⟨k, l, rfl, rfl, ⟨k0, k1, k2, k3⟩, ⟨l0, l1, l2, l3⟩, hB⟩ := hcut
    have B2 := grow BW hB
    replace q0 := keep hB q0
    replace q1 := keep hB q1
    replace q2 := keep hB q2
    replace q3 := keep hB q3
    replace q4 := keep hB q4
    replace q5 := keep hB q5
    replace q6 := keep hB q6
    replace q7 := keep hB q7
    replace q8 := keep hB q8
    replace q9 := keep hB q9
    clear BW hB p0 p1 p2 p3 p4 p5 p6 p7 HS1 HS2 HG1 HG2
    go_wp2_with fail
    obtain ⟨W2, hW2⟩ : ∃ W2, W2 = wc := ⟨_, rfl⟩
    subst hW2
    go_cut [7, 8] from 17 to 24 (fun s5 s6 wx => ∃ k l, s5 = .pointer (some ⟨k, 0, none⟩) ∧ s6 = .pointer (some ⟨l, 0, none⟩) ∧ (wx.cell? ⟨k, 0, none⟩ = some (.int .i64 K1) ∧ wx.cell? ⟨k, 1, none⟩ = some (.int .i64 Z1) ∧ wx.cell? ⟨k, 2, none⟩ = some (.int .i64 T1) ∧ wx.cell? ⟨k, 3, none⟩ = some (.int .i64 G1) ∧ wx.cell? ⟨k, 4, none⟩ = some (.bool O1)) ∧ (wx.cell? ⟨l, 0, none⟩ = some (.int .i64 K2) ∧ wx.cell? ⟨l, 1, none⟩ = some (.int .i64 Z2) ∧ wx.cell? ⟨l, 2, none⟩ = some (.int .i64 T2) ∧ wx.cell? ⟨l, 3, none⟩ = some (.int .i64 G2) ∧ wx.cell? ⟨l, 4, none⟩ = some (.bool O2)) ∧ Below W2.heap.size W2 wx)
    case first =>
      refine wp_region_float (m := 8) (g := 2) (.cells #[.int .i64 0, .int .i64 0, .int .i64 0, .int .i64 0, .bool false] 26) (.cells #[.int .i64 0, .int .i64 0, .int .i64 0, .int .i64 0, .bool false] 26)
        [.pointer (some ⟨N + 1, 0, none⟩), .agg #[.int .i64 hk1, .int .i64 hz1, .int .i64 ht1, .int .i64 hg1, .bool o1], .int .u64 v1, .agg #[.int .i64 K1, .int .i64 Z1, .int .i64 T1, .int .i64 G1, .bool O1], .pointer (some ⟨N + 1, 5, none⟩), .agg #[.int .i64 hk2, .int .i64 hz2, .int .i64 ht2, .int .i64 hg2, .bool o2], .int .u64 v2, .agg #[.int .i64 K2, .int .i64 Z2, .int .i64 T2, .int .i64 G2, .bool O2]]
        (by kernel_rfl) rfl (by decide) (by kernel_rfl) (by kernel_rfl) (by kernel_rfl) (by kernel_rfl) (by kernel_rfl) rfl rfl rfl rfl rfl rfl (by decide) (fun e w => by kernel_rfl) (fun e w => by kernel_rfl) ?_ ?_
      · simp only [List.take_succ_cons, List.take_zero, softAll, soft, and_true]
        refine ⟨fun w' b' => ?_, fun w' b' => ?_, fun w' b' => ?_, fun w' b' => ?_, fun w' b' => ?_, fun w' b' => ?_, fun w' b' => ?_, fun w' b' => ?_⟩
        all_goals
          have m0 := keep b' q0
          have m1 := keep b' q1
          have m2 := keep b' q2
          have m3 := keep b' q3
          have m4 := keep b' q4
          have m5 := keep b' q5
          have m6 := keep b' q6
          have m7 := keep b' q7
          have m8 := keep b' q8
          have m9 := keep b' q9
          clear q0 q1 q2 q3 q4 q5 q6 q7 q8 q9
          go_simp
        · exact ⟨rfl, rfl⟩
        · exact ⟨rfl, rfl⟩
        · exact ⟨rfl, HH1.out _⟩
        · exact ⟨rfl, HI1.out _⟩
        · exact ⟨rfl, rfl⟩
        · exact ⟨rfl, rfl⟩
        · exact ⟨rfl, HH2.out _⟩
        · exact ⟨rfl, HI2.out _⟩
      · intro k l w' hw
        simp only [List.take_succ_cons, List.take_zero, putL, putO, if_true, Act.put, List.setIfInBounds_toArray, List.set_cons_zero, List.set_cons_succ]
        obtain ⟨xx0, xx1, xx2, xx3, xx4, ff0, ff1, ff2, ff3, ff4⟩ := zero5 (hw.p k rfl).2
        obtain ⟨yy0, yy1, yy2, yy3, yy4, hh0, hh1, hh2, hh3, hh4⟩ := zero5 (hw.q l rfl).2
        have hkl := hw.ne k l rfl rfl
        have hlk := Ne.symm hkl
        have gk := (hw.p k rfl).1
        have gl := (hw.q l rfl).1
        have hB := hw.below
        clear hw
        refine wpAny_ready (rs := [10]) (by kernel_rfl) (by simp) ?_
        refine AllReady.cons rfl (fun K hK => ?_) AllReady.nil
        go_simp
        refine hK _ _ ?_
        clear hK K
        refine wpAny_ready (rs := [11]) (by kernel_rfl) (by simp) ?_
        refine AllReady.cons rfl (fun K hK => ?_) AllReady.nil
        go_simp
        refine hK _ _ ?_
        clear hK K
        refine wpAny_done (by kernel_rfl) ?_ _
        go_wp2_with fail
        go_meet
        case rel =>
          refine ⟨k, l, rfl, rfl, ⟨by go_simp, by go_simp, by go_simp, by go_simp, by go_simp⟩, ⟨by go_simp, by go_simp, by go_simp, by go_simp, by go_simp⟩, ?_⟩
          exact ((((((((((hB.setCell (p := ⟨k, 0, none⟩) gk _).setCell (p := ⟨k, 1, none⟩) gk _).setCell (p := ⟨k, 2, none⟩) gk _).setCell (p := ⟨k, 3, none⟩) gk _).setCell (p := ⟨k, 4, none⟩) gk _).setCell (p := ⟨l, 0, none⟩) gl _).setCell (p := ⟨l, 1, none⟩) gl _).setCell (p := ⟨l, 2, none⟩) gl _).setCell (p := ⟨l, 3, none⟩) gl _).setCell (p := ⟨l, 4, none⟩) gl _)
    case rest =>
      obtain ⟨r, s, rfl, rfl, ⟨r0, r1, r2, r3, r4⟩, ⟨s0, s1, s2, s3, s4⟩, hB⟩ := hcut
      have B3 := grow B2 hB
      replace k0 := keep hB k0
      replace k1 := keep hB k1
      replace k2 := keep hB k2
      replace k3 := keep hB k3
      replace l0 := keep hB l0
      replace l1 := keep hB l1
      replace l2 := keep hB l2
      replace l3 := keep hB l3
      clear B2 hB q0 q1 q2 q3 q4 q5 q6 q7 q8 q9 HH1 HH2 HI1 HI2 HN
      obtain ⟨es, hes⟩ : ∃ e, e = decide (A1 = A2 ∧ B1 = B2 ∧ C1 = C2 ∧ D1 = D2) := ⟨_, rfl⟩
      obtain ⟨eh, heh⟩ : ∃ e, e = decide (K1 = K2 ∧ Z1 = Z2 ∧ T1 = T2 ∧ G1 = G2 ∧ O1 = O2) := ⟨_, rfl⟩
      have es1 := X1.same X2
      have eh1 := Y1.same Y2
      have es2 := eqSlot A1 B1 C1 D1 A2 B2 C2 D2
      have eh2 := eqHead K1 Z1 T1 G1 K2 Z2 T2 G2 O1 O2
      rw [← hes] at es1 es2
      rw [← heh] at eh1 eh2
      clear hes heh
      go_wp2_with fail
      refine wp_over (fun W => (W.cell? ⟨k, 0, none⟩ = some (.int .i64 A1) ∧ W.cell? ⟨k, 1, none⟩ = some (.int .i64 B1) ∧ W.cell? ⟨k, 2, none⟩ = some (.int .i64 C1) ∧ W.cell? ⟨k, 3, none⟩ = some (.int .i64 D1)) ∧ (W.cell? ⟨l, 0, none⟩ = some (.int .i64 A2) ∧ W.cell? ⟨l, 1, none⟩ = some (.int .i64 B2) ∧ W.cell? ⟨l, 2, none⟩ = some (.int .i64 C2) ∧ W.cell? ⟨l, 3, none⟩ = some (.int .i64 D2)) ∧ (W.cell? ⟨r, 0, none⟩ = some (.int .i64 K1) ∧ W.cell? ⟨r, 1, none⟩ = some (.int .i64 Z1) ∧ W.cell? ⟨r, 2, none⟩ = some (.int .i64 T1) ∧ W.cell? ⟨r, 3, none⟩ = some (.int .i64 G1) ∧ W.cell? ⟨r, 4, none⟩ = some (.bool O1)) ∧ (W.cell? ⟨s, 0, none⟩ = some (.int .i64 K2) ∧ W.cell? ⟨s, 1, none⟩ = some (.int .i64 Z2) ∧ W.cell? ⟨s, 2, none⟩ = some (.int .i64 T2) ∧ W.cell? ⟨s, 3, none⟩ = some (.int .i64 G2) ∧ W.cell? ⟨s, 4, none⟩ = some (.bool O2)) ∧ Below w.heap.size w W) ⟨⟨k0, k1, k2, k3⟩, ⟨l0, l1, l2, l3⟩, ⟨r0, r1, r2, r3, r4⟩, ⟨s0, s1, s2, s3, s4⟩, B3⟩ ?_
      clear k0 k1 k2 k3 l0 l1 l2 l3 r0 r1 r2 r3 r4 s0 s1 s2 s3 s4 B3
      rintro W3 ⟨⟨k0, k1, k2, k3⟩, ⟨l0, l1, l2, l3⟩, ⟨r0, r1, r2, r3, r4⟩, ⟨s0, s1, s2, s3, s4⟩, B3⟩
      have nk0 := fun n : Later W3 => n.cell k0
      have nk1 := fun n : Later W3 => n.cell k1
      have nk2 := fun n : Later W3 => n.cell k2
      have nk3 := fun n : Later W3 => n.cell k3
      have nl0 := fun n : Later W3 => n.cell l0
      have nl1 := fun n : Later W3 => n.cell l1
      have nl2 := fun n : Later W3 => n.cell l2
      have nl3 := fun n : Later W3 => n.cell l3
      have nr0 := fun n : Later W3 => n.cell r0
      have nr1 := fun n : Later W3 => n.cell r1
      have nr2 := fun n : Later W3 => n.cell r2
      have nr3 := fun n : Later W3 => n.cell r3
      have nr4 := fun n : Later W3 => n.cell r4
      have ns0 := fun n : Later W3 => n.cell s0
      have ns1 := fun n : Later W3 => n.cell s1
      have ns2 := fun n : Later W3 => n.cell s2
      have ns3 := fun n : Later W3 => n.cell s3
      have ns4 := fun n : Later W3 => n.cell s4
      clear k0 k1 k2 k3 l0 l1 l2 l3 r0 r1 r2 r3 r4 s0 s1 s2 s3 s4
      haveI := Later.exists W3
      refine wp_region_later (by kernel_rfl) (by kernel_rfl) ?_
      repeat (go_big_quiet_step ((first
        | (go_at_call 10; exact Calls.later (awake_any _))
        | (go_at_call_of 11 A1; exact Calls.later (X1.put _))
        | (go_at_call_of 11 A2; exact Calls.later (X2.put _))
        | (go_at_call_of 12 K1; exact Calls.later (Y1.put _))
        | (go_at_call_of 12 K2; exact Calls.later (Y2.put _)))))
  
      refine wpQuiet_nil ?_
      intro _ hw'
      obtain ⟨nq, hw''⟩ := hw'
      subst hw''
      go_wp2
      go_ret
      exact ⟨rfl, grow B3 nq.below⟩

end Go.Proofs.Ytpeglmhlooecpab
