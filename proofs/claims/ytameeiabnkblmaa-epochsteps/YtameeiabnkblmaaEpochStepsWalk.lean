/- EpochSteps answers true for every number and every slice of pins, and leaves what was in memory. -/
import Derived.Test.YtameeiabnkblmaaEpSettle
import Derived.Test.YtameeiabnkblmaaEpLaw
import Derived.Test.YtameeiabnkblmaaLayRef
namespace Go.Proofs.Ytameeiabnkblmaa
open Go.RowKit

/-- the memory: the epoch is a word, and no chunk was touched -/
structure Tw (s : Mm) : Prop where
  n : s.n = 78
  z : ∀ a, 12 ≤ a → s.wd a = 0

theorem Tw.pin {s : Mm} (h : Tw s) {j : Nat} (hj : j < 4) (v : Int) : Tw (s.step (6 + j) v) :=
  ⟨h.n, fun a ha => by
    show upd s.wd (6 + j) v a = 0
    rw [upd_other _ _ _ _ (by omega)]; exact h.z a ha⟩

theorem Tw.adv {s s' : Mm} {x : Bool} (h : Tw s) (k : AdEnd 4 s s' x) : Tw s' := by
  refine ⟨k.n.trans h.n, fun a ha => ?_⟩
  rw [k.wd]
  cases x with
  | false => rw [if_neg (by decide)]; exact h.z a ha
  | true => rw [if_pos rfl, upd_other _ _ _ _ (by omega)]; exact h.z a ha

/-- what a step of one who lets the epoch go on tells: it is one step, and what it changed is the epoch -/
theorem ad_told {t : Nat} {who : Int} {s s' : Mm} {d d' : Ad} (ho : d.over? = false) (ht : adTurn t who s d = (s', d')) : s'.steps = wrap64 (s.steps + 1) ∧ (s'.lc = false ∨ (s'.lc = true ∧ s'.la = 0)) := by
  have ld : ∀ a, ((s.by who).step a (s.wd a)).lc = false := fun a => by
    show (!decide (s.wd a = s.wd a)) = false
    rw [decide_eq_true rfl]; rfl
  cases d with
  | over x => cases ho
  | first =>
    obtain ⟨rfl, -⟩ := Prod.mk.inj ht
    exact ⟨rfl, Or.inl (ld 0)⟩
  | ask E j =>
    simp only [adTurn] at ht
    by_cases hj : j < t
    · rw [if_pos hj] at ht
      obtain ⟨rfl, -⟩ := Prod.mk.inj ht
      exact ⟨rfl, Or.inl (ld _)⟩
    · rw [if_neg hj] at ht
      obtain ⟨rfl, -⟩ := Prod.mk.inj ht
      unfold Mm.cas
      by_cases hE : (s.by who).wd 0 = E
      · rw [if_pos hE]
        refine ⟨rfl, ?_⟩
        cases hc : ((s.by who).step 0 (sum64 E 1)).lc with
        | false => exact Or.inl rfl
        | true => exact Or.inr ⟨rfl, rfl⟩
      · rw [if_neg hE]
        exact ⟨rfl, Or.inl (ld 0)⟩

/-- the chunk that is settled, and the epoch -/
structure Cw (U : Nat) (s : Mm) : Prop where
  n : s.n = 78
  c : s.wd 12 = (Ck.mk 3 0 U 0).w
  a : s.wd 14 = 0
  e : s.wd 0 = 9

theorem Tw.lay {s : Mm} (h : Tw s) (U : Nat) : Cw U ((s.step 12 (Ck.mk 3 0 U 0).w).step 0 9) := by
  refine ⟨h.n, rfl, ?_, rfl⟩
  show upd (upd s.wd 12 (Ck.mk 3 0 U 0).w) 0 9 14 = 0
  rw [upd_other _ _ _ _ (by decide), upd_other _ _ _ _ (by decide)]; exact h.z 14 (by decide)

theorem Cw.seh {U : Nat} {s : Mm} (h : Cw U s) (hu : U ≤ 16) : SeH 4 1 2 30 0 s ⟨3, 0, U, 0⟩ :=
  ⟨by decide, h.c, ⟨by simp, by simp, by simp only; omega, by simp⟩, by simp only; omega, by simp, by rw [h.e]; decide, by rw [show ckAt 4 1 0 + 2 = 14 from rfl, h.a]; decide⟩

theorem Cw.ripe {U : Nat} {s : Mm} (h : Cw U s) : Ripe 4 1 0 s ⟨3, 0, U, 0⟩ :=
  ⟨rfl, by rw [show ckAt 4 1 0 + 2 = 14 from rfl, h.a, h.e]; decide⟩

/-- what a step of one who settles a chunk tells: it is one step, at a word of the arena -/
theorem se_told {who : Int} {s0 s s' : Mm} {c0 : Ck} {cnt : Nat} {d d' : Se} (hu : c0.us ≤ 16) (h : SeI 4 1 2 30 0 s0 c0 s cnt d) (ht : seTurn 4 1 2 30 0 who c0 s d = (s', d')) : s'.steps = wrap64 (s.steps + 1) ∧ s'.la ≤ 1000 := by
  cases d with
  | over x => exact h.elim
  | see => obtain ⟨rfl, -⟩ := Prod.mk.inj ht; exact ⟨rfl, by show ((12 : Nat) : Int) ≤ 1000; omega⟩
  | ask c => obtain ⟨rfl, -⟩ := Prod.mk.inj ht; exact ⟨rfl, by show ((14 : Nat) : Int) ≤ 1000; omega⟩
  | look c S => obtain ⟨rfl, -⟩ := Prod.mk.inj ht; exact ⟨rfl, by show ((0 : Nat) : Int) ≤ 1000; omega⟩
  | free c => obtain ⟨rfl, -⟩ := Prod.mk.inj ht; exact ⟨rfl, by show ((12 : Nat) : Int) ≤ 1000; omega⟩
  | clear c j =>
    obtain ⟨-, -, -, rfl, -, hj⟩ := h
    simp only [seTurn] at ht
    by_cases hju : j < c.us
    · rw [if_pos hju] at ht
      obtain ⟨rfl, -⟩ := Prod.mk.inj ht
      exact ⟨rfl, by show ((18 + j : Nat) : Int) ≤ 1000; omega⟩
    · rw [if_neg hju] at ht
      obtain ⟨rfl, -⟩ := Prod.mk.inj ht
      exact ⟨rfl, by show ((13 : Nat) : Int) ≤ 1000; omega⟩

theorem lof13 (a : Int) (ha : a ≤ 1000) : ∃ x : Int, ∀ w : World,
    Calls Try.prog 27 #[.agg #[.int .i64 4, .int .i64 1, .int .i64 2, .int .i64 30, .int .i64 100, .int .i64 600, .int .i64 3], .int .i64 a] w fun e w' => e = .returned (.int .i64 x) ∧ Below w.heap.size w w' := by
  have hG : Good 4 1 2 30 100 600 3 := by constructor <;> decide
  have hA : Arena (4 : Int) 1 2 30 := hG.arena
  by_cases h : a < 6 + 4 + 1 * 2 + 2 * 3
  · exact ⟨_, fun w => lof_low 4 1 2 30 100 600 3 a w hA h⟩
  · by_cases h2 : (a - (6 + 4 + 1 * 2 + 2 * 3)) / 30 < 2
    · exact ⟨_, fun w => lof_in 4 1 2 30 100 600 3 a _ w hA (by decide) (by omega) (by omega) rfl h2⟩
    · exact ⟨_, fun w => lof_high 4 1 2 30 100 600 3 a _ w hA (by decide) (by omega) (by omega) rfl (by omega)⟩

theorem now13 {w : World} {L : Loc} {s : Mm} (h : MemAt w L s) (c0 c1 c2 c3 c4 c5 c6 who x : Int) (hx : s.steps = x) :
    Calls Try.prog 21 #[.agg #[.int .i64 c0, .int .i64 c1, .int .i64 c2, .int .i64 c3, .int .i64 c4, .int .i64 c5, .int .i64 c6, .pointer (some ⟨L.p, 0, none⟩), .int .i64 who]] w fun e w' => e = .returned (.int .i64 x) ∧ Below w.heap.size w w' := by
  subst hx; exact enow_any h _ _ _ _ _ _ _ _

theorem last13 {w : World} {L : Loc} {s : Mm} (h : MemAt w L s) (a b : Int) (c : Bool) (ha : s.la = a) (hb : s.lw = b) (hc : s.lc = c) :
    Calls Try.prog 23 #[.pointer (some ⟨L.p, 0, none⟩)] w fun e w' => e = .returned (.agg #[.int .i64 a, .int .i64 b, .bool c]) ∧ Below w.heap.size w w' := by
  subst ha hb hc; exact last_any h

theorem wrapEq (x : Int) : IntKind.i64.wrap x = wrap64 x := by rw [IntKind.wrap_i64]; unfold wrap64; omega

set_option maxRecDepth 20000 in
set_option maxHeartbeats 8000000 in
theorem epochSteps_any (a : Int) (ao : Option Addr) (n cap : Nat) (z : Nat → Int) (w : World) (hr : IntsAt .u64 w ao n z) :
    Calls Try.prog 6 #[.int .i64 a, .slice ao n cap] w fun e w' => e = .returned (.bool true) ∧ Below w.heap.size w w' := by
  have HR : Hid (IntsAt .u64 w ao n z) := hr
  obtain ⟨y, hy, hy1⟩ := low0 a 15 4 (by decide) (by decide)
  obtain ⟨U, hU⟩ : ∃ U, 1 + y = U := ⟨_, rfl⟩
  have hokc : (Ck.mk 3 0 U 0).ok 100000 := ⟨by simp, by simp, by simp only; omega, by simp⟩
  have pc := fun w => putChunk_w ⟨3, 0, U, 0⟩ 100000 hokc (by decide) 3 0 U 0 rfl rfl rfl rfl w
  have ckc := fun w => chunk_w ⟨3, 0, U, 0⟩ 100000 hokc (by decide) w
  obtain ⟨cw, hcw⟩ : ∃ x, (Ck.mk 3 0 U 0).w = x := ⟨_, rfl⟩
  rw [hcw] at pc ckc
  have HCW : Hid ((Ck.mk 3 0 U 0).w = cw) := hcw
  have ffT0 : ∀ (a1 a2 a3 : Value) (w : World), (Instr.field 56 (.agg #[a1, a2, a3]) 0).run Try.prog w = .ok a1 w := fun a1 a2 a3 w => by kernel_rfl
  have ffT2 : ∀ (a1 a2 a3 : Value) (w : World), (Instr.field 56 (.agg #[a1, a2, a3]) 2).run Try.prog w = .ok a3 w := fun a1 a2 a3 w => by kernel_rfl
  have ffC0 : ∀ (a1 a2 a3 a4 : Value) (w : World), (Instr.field 47 (.agg #[a1, a2, a3, a4]) 0).run Try.prog w = .ok a1 w := fun a1 a2 a3 a4 w => by kernel_rfl
  clear hr hokc hcw
  have hg : Good 4 1 2 30 100 600 3 := by constructor <;> decide
  have hN0 : (Mm.laid 4 1 (arenaLen 4 1 2 30) 1).n = arenaLen 4 1 2 30 := Mm.laid_n _ _ _ _
  have hZ0 : ∀ a, a ≠ 1 → (a < 6 + 4 ∨ 6 + 4 + 1 * 2 ≤ a) → (Mm.laid 4 1 (arenaLen 4 1 2 30) 1).wd a = 0 := fun a h1 h2 => laid_else _ _ _ _ _ h1 h2
  have HN0 : Hid (∀ S0, Mm.laid 4 1 (arenaLen 4 1 2 30) 1 = S0 → S0.n = 78) := fun S0 h => by rw [← h, hN0]; rfl
  generalize hS : Mm.laid 4 1 (arenaLen 4 1 2 30) 1 = S0 at hN0 hZ0
  have HS : Hid (Mm.laid 4 1 (arenaLen 4 1 2 30) 1 = S0) := hS
  have SN : Hid (S0.n = 78) := HN0.out S0 hS
  have SZ : Hid (∀ a, a ≠ 1 → (a < 6 + 4 ∨ 6 + 4 + 1 * 2 ≤ a) → S0.wd a = 0) := hZ0
  clear hN0 hZ0 hS HN0
  have hGd := hg
  go_enter Try.func6, Try.ntmps6
  go_wp2_with (first
    | (go_at_call 8; refine (arena04_any hg _).mono ?_; rintro e w1 ⟨L, rfl, m1, b1, f1⟩; rw [HS.out] at m1; have g1 := Gd.new (t := 4) (n := 1) (k := 2) (m' := 30) m1 b1 f1)
    | (go_at_call 9; refine (awake13_any _).mono ?_; rintro e w2 ⟨rfl, b2⟩; have g2 := g1.grown b2))
  obtain ⟨E, hE⟩ : ∃ E, w1.heap.size = E := ⟨_, rfl⟩
  rw [hE] at g2
  try rw [hE]
  have A0 : Hid (Gd w w2 L E 4 1 2 30 0 S0 ∧ Tw S0) := ⟨g2, SN.out, fun a ha => SZ.out a (by omega) (by omega)⟩
  clear g1 g2 b1 b2 m1 f1
  go_loopw [7] (fun i wr => ∃ (j : Nat) (s' : Mm), i = .int .i64 j ∧ j ≤ 4 ∧ Tw s' ∧ Gd w wr L E 4 1 2 30 0 s') (fun i _ => 4 - (intOf i).toNat)
  case atStart => exact ⟨0, _, rfl, by omega, A0.out.2, A0.out.1⟩
  case round =>
    clear A0
    obtain ⟨j, s1, rfl, hj4, hT, GG⟩ := hrel
    have HT : Hid (Tw s1) := hT
    clear hT
    have y0 := GG.v.c0
    have y1 := GG.v.c1
    have y2 := GG.v.c2
    have y3 := GG.v.c3
    have y4 := GG.v.c4
    have y5 := GG.v.c5
    have y6 := GG.v.c6
    have y7 := GG.v.c7
    have y8 := GG.v.c8
    by_cases hlt : j < n ∧ j < 4
    · obtain ⟨hlt, hl4⟩ := hlt
      have hlt' : (j : Int) < (n : Int) := by omega
      have hl4' : (j : Int) < 4 := by omega
      obtain ⟨zb, zo, rfl, hk⟩ := HR.out j hlt
      have hk1 := keep' GG.b hk
      obtain ⟨v, hv⟩ : ∃ v, bits .and .u64 (z j) 1 = v := ⟨_, rfl⟩
      have T2 := HT.out.pin hl4 v
      go_wp2
      refine wp_over (fun W => Gd w W L E 4 1 2 30 0 s1 ∧ W.cell? ⟨zb, zo + j, none⟩ = some (.int .u64 (z j))) ⟨GG, hk1⟩ ?_
      clear GG hk1 hk y0 y1 y2 y3 y4 y5 y6 y7 y8
      rintro W ⟨G1, hkW⟩
      refine wp_region_rely_tail Grown 9 [.val (.pointer (some ⟨E, 7, none⟩)), .val (.pointer (some ⟨L.p, 0, none⟩)), .val (.int .i64 j), .val (.int .i64 ((6 + j : Nat) : Int)), .val (.slice (some ⟨zb, zo, none⟩) n cap), .val (.int .i64 j), .val (.pointer (some ⟨zb, zo + j, none⟩)), .val (.int .u64 (z j)), .val (.int .u64 v)] (by kernel_rfl) Grown.refl Grown.trans (by decide) (by kernel_rfl) (by kernel_rfl) (by kernel_rfl) (by kernel_rfl) (by kernel_rfl) (by kernel_rfl) ?_
      simp only [List.take_succ_cons, List.take_zero, relyAll, Act.put, List.setIfInBounds_toArray, List.set_cons_zero, List.set_cons_succ]
      refine ⟨?_, ?_, ?_, ?_, ?_, ?_, ?_, ?_, ?_, ?_⟩
      · intro w' hg _
        refine Or.inl ⟨rfl, ?_⟩
        go_simp
        exact ⟨Grown.refl _, rfl⟩
      · intro w' hg _
        refine Or.inl ⟨rfl, ?_⟩
        have vv := (G1.drew.grown hg).v
        have y0 := vv.c0
        have y1 := vv.c1
        have y2 := vv.c2
        have y3 := vv.c3
        have y4 := vv.c4
        have y5 := vv.c5
        have y6 := vv.c6
        have y7 := vv.c7
        have y8 := vv.c8
        go_simp
        exact ⟨Grown.refl _, rfl⟩
      · intro w' hg _
        refine Or.inl ⟨rfl, ?_⟩
        go_simp
        exact ⟨Grown.refl _, rfl⟩
      · intro w' hg _
        refine Or.inl ⟨rfl, ?_⟩
        go_simp
        refine (lpin_any _ _ (by omega) (by omega)).mono ?_
        rintro e w'' ⟨rfl, rfl⟩
        exact ⟨_, rfl, Grown.refl _, by first | rfl | simp [Want.pred]⟩
      · intro w' hg _
        refine Or.inl ⟨rfl, ?_⟩
        go_simp
        exact ⟨Grown.refl _, rfl⟩
      · intro w' hg _
        refine Or.inl ⟨rfl, ?_⟩
        go_simp
        exact ⟨Grown.refl _, rfl⟩
      · intro w' hg _
        refine Or.inl ⟨rfl, ?_⟩
        go_simp
        exact ⟨Grown.refl _, rfl⟩
      · intro w' hg _
        refine Or.inl ⟨rfl, ?_⟩
        have z := keep' hg (keep' ((Below.refl _ _).drew) hkW)
        go_simp
        exact ⟨Grown.refl _, rfl⟩
      · intro w' hg _
        refine Or.inl ⟨rfl, ?_⟩
        go_simp
        exact ⟨Grown.refl _, rfl⟩
      intro w5 hg _
      have GG := G1.drew.grown hg
      clear hg G1 hkW
      go_wp2_with (go_at_call 10; refine (store_in GG.mm (6 + j) (by rw [HT.out.n]; omega) v).mono ?_; rintro e w6 ⟨rfl, m6, o6, -⟩; have GG := GG.mem o6 m6)
      go_roundw
      case rel => exact ⟨j + 1, _, by go_num, by omega, T2, GG⟩
      case measure => simp [intOf]; omega
    · have hx : (¬ (j : Int) < (n : Int)) ∨ ((j : Int) < (n : Int) ∧ ¬ (j : Int) < 4) := by omega
      clear hlt hj4
      rcases hx with h1 | ⟨h1, h2⟩
      · have a2 := adv0_at wr
        have GG2 := GG.grown (gro1 _ adv0)
        have HK : Hid (¬ L.has wr.heap.size ∧ E ≠ wr.heap.size ∧ w.heap.size ≤ wr.heap.size) := ⟨fun hh => by have := GG.mm.lt _ hh; omega, (fun e => by have := GG.lt; omega), GG.b.size⟩
        unfold adv0 at a2 GG2
        obtain ⟨s0, hs0⟩ : ∃ s0, s1 = s0 := ⟨_, rfl⟩
        rw [hs0] at HT GG2
        clear hs0 GG y0 y1 y2 y3 y4 y5 y6 y7 y8
        go_wp2
        obtain ⟨Kb, hKb⟩ : ∃ K, wr.heap.size = K := ⟨_, rfl⟩
        rw [hKb] at a2 HK
        try rw [hKb]
        have A2 : Hid (∃ cs, Gd w (wr.alloc (.cells #[.bool false, .int .u64 0, .int .i64 0, .bool false, .bool false] 54)) L E 4 1 2 30 0 s0 ∧ AdAt (wr.alloc (.cells #[.bool false, .int .u64 0, .int .i64 0, .bool false, .bool false] 54)) Kb 0 54 cs .first) := by
          obtain ⟨cs, q⟩ := a2
          exact ⟨cs, GG2, q⟩
        clear a2 GG2 hKb
        go_loopw [9] (fun i wr => ∃ (j : Nat) (s' : Mm) (d : Ad) (cs : Array Value), i = .int .i64 j ∧ AdI 4 s0 s' j d ∧ Gd w wr L E 4 1 2 30 0 s' ∧ AdAt wr Kb 0 54 cs d) (fun i _ => 20 - (intOf i).toNat)
        case atStart =>
          obtain ⟨cs, h1, h2⟩ := A2.out
          exact ⟨0, s0, .first, cs, rfl, ⟨rfl, rfl, rfl⟩, h1, h2⟩
        case round =>
          clear A2
          obtain ⟨j, s1, d, cs, rfl, hI, GG, a0⟩ := hrel
          have hjle := hI.le
          have hj6 : (j : Int) < 20 := by omega
          obtain ⟨sg, hsg⟩ : ∃ x, s1.steps = x := ⟨_, rfl⟩
          have HS1 : Hid (s1.steps = sg) := hsg
          obtain ⟨s2, d2, ht⟩ : ∃ s2 d2, adTurn 4 0 s1 d = (s2, d2) := ⟨_, _, rfl⟩
          have told := ad_told hI.on ht
          rw [hsg] at told
          have HSt : Hid (s2.steps = wrap64 (sg + 1)) := told.1
          obtain ⟨la, hla⟩ : ∃ x, s2.la = x := ⟨_, rfl⟩
          obtain ⟨lw, hlw⟩ : ∃ x, s2.lw = x := ⟨_, rfl⟩
          have HLw : Hid (s2.lw = lw) := hlw
          have hT2 := told.2
          have hl1 : Hid (arenaLen 4 1 2 30 ≤ s1.n) := by unfold Hid; rw [hI.n, HT.out.n]; decide
          have HOn : Hid (d.over? = false) := hI.on
          have stp : ∀ W, Gd w W L E 4 1 2 30 0 s1 → AdAt W Kb 0 54 cs d → ∀ x, d2.over? = x → Calls Try.prog 22 #[.pointer (some ⟨Kb, 0, none⟩), .agg #[.int .i64 ((4 : Nat) : Int), .int .i64 ((1 : Nat) : Int), .int .i64 ((2 : Nat) : Int), .int .i64 ((30 : Nat) : Int), .int .i64 100, .int .i64 600, .int .i64 3, .pointer (some ⟨L.p, 0, none⟩), .int .i64 0]] W fun e w' => e = .returned (.bool x) ∧ ∃ cs', Adv L Kb 0 54 cs W w' s2 d2 cs' := fun W gW aW x hx =>
            adv_step gW.mm HK.out.1 aW hGd hl1.out 0 HOn.out s2 d2 ht x hx
          have hh := ad_turn 0 hI ht
          clear told hsg hlw hI ht
          have y0 := GG.v.c0
          have y1 := GG.v.c1
          have y2 := GG.v.c2
          have y3 := GG.v.c3
          have y4 := GG.v.c4
          have y5 := GG.v.c5
          have y6 := GG.v.c6
          have y7 := GG.v.c7
          have y8 := GG.v.c8
          rcases hh with ⟨ho, I2⟩ | ⟨ho, e2⟩
          · rcases hT2 with hc | ⟨hc, ha⟩
            · have HLa : Hid (s2.la = la) := hla
              have HLc : Hid (s2.lc = false) := hc
              clear hla hc
              go_wp2_with (first
                | (go_at_call 21; refine (now13 (by first | exact GS.mm | exact GG.mm) _ _ _ _ _ _ _ _ _ (by first | exact HSt.out | exact HS1.out)).mono ?_; rintro e w8 ⟨rfl, b8⟩; first | (have GS := GS.grown b8; have aa := aa.grown b8; have z0 := GS.v.c0; have z1 := GS.v.c1; have z2 := GS.v.c2; have z3 := GS.v.c3; have z4 := GS.v.c4; have z5 := GS.v.c5; have z6 := GS.v.c6; have z7 := GS.v.c7; have z8 := GS.v.c8) | (have GG := GG.grown b8; have a0 := a0.grown b8; have y0 := GG.v.c0; have y1 := GG.v.c1; have y2 := GG.v.c2; have y3 := GG.v.c3; have y4 := GG.v.c4; have y5 := GG.v.c5; have y6 := GG.v.c6; have y7 := GG.v.c7; have y8 := GG.v.c8))
                | (go_at_call 22; refine (stp _ GG a0 false ho).mono ?_; rintro e w4 ⟨rfl, cs2, A2⟩; have GS := GG.and A2.only A2.m HK.out.2.1 HK.out.2.2; have aa := A2.a; have z0 := GS.v.c0; have z1 := GS.v.c1; have z2 := GS.v.c2; have z3 := GS.v.c3; have z4 := GS.v.c4; have z5 := GS.v.c5; have z6 := GS.v.c6; have z7 := GS.v.c7; have z8 := GS.v.c8)
                | (go_at_call 23; refine (last13 GS.mm la lw false HLa.out HLw.out HLc.out).mono ?_; rintro e w9 ⟨rfl, b9⟩; have GS := GS.grown b9; have aa := aa.grown b9; have z0 := GS.v.c0; have z1 := GS.v.c1; have z2 := GS.v.c2; have z3 := GS.v.c3; have z4 := GS.v.c4; have z5 := GS.v.c5; have z6 := GS.v.c6; have z7 := GS.v.c7; have z8 := GS.v.c8)
                | (go_at_call 11; refine (lepoch_any _).mono ?_; rintro e w7 ⟨rfl, rfl⟩))
              go_roundw
              case rel => exact ⟨j + 1, s2, d2, cs2, by go_num, I2, GS, aa⟩
              case measure => simp [intOf]; omega
            · have HLa : Hid (s2.la = 0) := ha
              have HLc : Hid (s2.lc = true) := hc
              clear hla hc ha
              go_wp2_with (first
                | (go_at_call 21; refine (now13 (by first | exact GS.mm | exact GG.mm) _ _ _ _ _ _ _ _ _ (by first | exact HSt.out | exact HS1.out)).mono ?_; rintro e w8 ⟨rfl, b8⟩; first | (have GS := GS.grown b8; have aa := aa.grown b8; have z0 := GS.v.c0; have z1 := GS.v.c1; have z2 := GS.v.c2; have z3 := GS.v.c3; have z4 := GS.v.c4; have z5 := GS.v.c5; have z6 := GS.v.c6; have z7 := GS.v.c7; have z8 := GS.v.c8) | (have GG := GG.grown b8; have a0 := a0.grown b8; have y0 := GG.v.c0; have y1 := GG.v.c1; have y2 := GG.v.c2; have y3 := GG.v.c3; have y4 := GG.v.c4; have y5 := GG.v.c5; have y6 := GG.v.c6; have y7 := GG.v.c7; have y8 := GG.v.c8))
                | (go_at_call 22; refine (stp _ GG a0 false ho).mono ?_; rintro e w4 ⟨rfl, cs2, A2⟩; have GS := GG.and A2.only A2.m HK.out.2.1 HK.out.2.2; have aa := A2.a; have z0 := GS.v.c0; have z1 := GS.v.c1; have z2 := GS.v.c2; have z3 := GS.v.c3; have z4 := GS.v.c4; have z5 := GS.v.c5; have z6 := GS.v.c6; have z7 := GS.v.c7; have z8 := GS.v.c8)
                | (go_at_call 23; refine (last13 GS.mm 0 lw true HLa.out HLw.out HLc.out).mono ?_; rintro e w9 ⟨rfl, b9⟩; have GS := GS.grown b9; have aa := aa.grown b9; have z0 := GS.v.c0; have z1 := GS.v.c1; have z2 := GS.v.c2; have z3 := GS.v.c3; have z4 := GS.v.c4; have z5 := GS.v.c5; have z6 := GS.v.c6; have z7 := GS.v.c7; have z8 := GS.v.c8)
                | (go_at_call 11; refine (lepoch_any _).mono ?_; rintro e w7 ⟨rfl, rfl⟩))
              go_roundw
              case rel => exact ⟨j + 1, s2, d2, cs2, by go_num, I2, GS, aa⟩
              case measure => simp [intOf]; omega
          · rcases hT2 with hc | ⟨hc, ha⟩
            · have HLa : Hid (s2.la = la) := hla
              have HLc : Hid (s2.lc = false) := hc
              clear hla hc
              as_aux_lemma =>
                go_wp2_with (first
                  | (go_at_call 21; refine (now13 (by first | exact GS.mm | exact GG.mm) _ _ _ _ _ _ _ _ _ (by first | exact HSt.out | exact HS1.out)).mono ?_; rintro e w8 ⟨rfl, b8⟩; first | (have GS := GS.grown b8; have aa := aa.grown b8; have z0 := GS.v.c0; have z1 := GS.v.c1; have z2 := GS.v.c2; have z3 := GS.v.c3; have z4 := GS.v.c4; have z5 := GS.v.c5; have z6 := GS.v.c6; have z7 := GS.v.c7; have z8 := GS.v.c8) | (have GG := GG.grown b8; have a0 := a0.grown b8; have y0 := GG.v.c0; have y1 := GG.v.c1; have y2 := GG.v.c2; have y3 := GG.v.c3; have y4 := GG.v.c4; have y5 := GG.v.c5; have y6 := GG.v.c6; have y7 := GG.v.c7; have y8 := GG.v.c8))
                  | (go_at_call 22; refine (stp _ GG a0 true ho).mono ?_; rintro e w4 ⟨rfl, cs2, A2⟩; have GS := GG.and A2.only A2.m HK.out.2.1 HK.out.2.2; have aa := A2.a; have z0 := GS.v.c0; have z1 := GS.v.c1; have z2 := GS.v.c2; have z3 := GS.v.c3; have z4 := GS.v.c4; have z5 := GS.v.c5; have z6 := GS.v.c6; have z7 := GS.v.c7; have z8 := GS.v.c8)
                  | (go_at_call 23; refine (last13 GS.mm la lw false HLa.out HLw.out HLc.out).mono ?_; rintro e w9 ⟨rfl, b9⟩; have GS := GS.grown b9; have aa := aa.grown b9; have z0 := GS.v.c0; have z1 := GS.v.c1; have z2 := GS.v.c2; have z3 := GS.v.c3; have z4 := GS.v.c4; have z5 := GS.v.c5; have z6 := GS.v.c6; have z7 := GS.v.c7; have z8 := GS.v.c8)
                  | (go_at_call 11; refine (lepoch_any _).mono ?_; rintro e w7 ⟨rfl, rfl⟩))
                have hW2 : Hid (Tw s2) := HT.out.adv e2
                clear e2 stp
                have GG := GS
                clear GS A2
                refine wp_over (fun W => Gd w W L E 4 1 2 30 0 s2) GG ?_
                clear GG z0 z1 z2 z3 z4 z5 z6 z7 z8
                rintro W G1
                refine wp_region_rely_tail Grown 10 [.val (.pointer (some ⟨E, 7, none⟩)), .val (.pointer (some ⟨L.p, 0, none⟩)), .val (.pointer (some ⟨E, 0, none⟩)), .val (.agg #[.int .i64 4, .int .i64 1, .int .i64 2, .int .i64 30, .int .i64 100, .int .i64 600, .int .i64 3]), .val (.int .i64 12), .val (.int .i64 a), .val (.int .i64 y), .val (.int .i64 U), .val (.agg #[.int .i64 3, .int .i64 0, .int .i64 U, .int .i64 0]), .val (.int .u64 cw)] (by kernel_rfl) Grown.refl Grown.trans (by decide) (by kernel_rfl) (by kernel_rfl) (by kernel_rfl) (by kernel_rfl) (by kernel_rfl) (by kernel_rfl) ?_
                simp only [List.take_succ_cons, List.take_zero, relyAll, Act.put, List.setIfInBounds_toArray, List.set_cons_zero, List.set_cons_succ]
                refine ⟨?_, ?_, ?_, ?_, ?_, ?_, ?_, ?_, ?_, ?_, ?_⟩
                · intro w' hg _
                  refine Or.inl ⟨rfl, ?_⟩
                  go_simp
                  exact ⟨Grown.refl _, rfl⟩
                · intro w' hg _
                  refine Or.inl ⟨rfl, ?_⟩
                  have vv := (G1.drew.grown hg).v
                  have y0 := vv.c0
                  have y1 := vv.c1
                  have y2 := vv.c2
                  have y3 := vv.c3
                  have y4 := vv.c4
                  have y5 := vv.c5
                  have y6 := vv.c6
                  have y7 := vv.c7
                  have y8 := vv.c8
                  go_simp
                  exact ⟨Grown.refl _, rfl⟩
                · intro w' hg _
                  refine Or.inl ⟨rfl, ?_⟩
                  go_simp
                  exact ⟨Grown.refl _, rfl⟩
                · intro w' hg _
                  refine Or.inl ⟨rfl, ?_⟩
                  have vv := (G1.drew.grown hg).v
                  have y0 := vv.c0
                  have y1 := vv.c1
                  have y2 := vv.c2
                  have y3 := vv.c3
                  have y4 := vv.c4
                  have y5 := vv.c5
                  have y6 := vv.c6
                  have y7 := vv.c7
                  have y8 := vv.c8
                  go_simp
                  exact ⟨Grown.refl _, rfl⟩
                · intro w' hg _
                  refine Or.inl ⟨rfl, ?_⟩
                  go_simp
                  refine (lchunk_any _ _ _ _ _ _ _ 0 _ hGd.arena (by decide) (by decide)).mono ?_
                  rintro e w'' ⟨rfl, b9⟩
                  exact ⟨_, rfl, b9, congrArg (Value.int .i64) (by omega)⟩
                · intro w' hg _
                  refine Or.inl ⟨rfl, ?_⟩
                  go_simp
                  exact ⟨Grown.refl _, rfl⟩
                · intro w' hg _
                  refine Or.inl ⟨rfl, ?_⟩
                  go_simp
                  exact ⟨Grown.refl _, rfl⟩
                · intro w' hg _
                  refine Or.inl ⟨rfl, ?_⟩
                  go_simp
                  exact ⟨Grown.refl _, congrArg (Value.int .i64) (by rw [IntKind.wrap_i64]; omega)⟩
                · intro w' hg _
                  refine Or.inl ⟨rfl, ?_⟩
                  go_simp
                  exact ⟨Grown.refl _, rfl⟩
                · intro w' hg _
                  refine Or.inl ⟨rfl, ?_⟩
                  go_simp
                  refine (pc _).mono ?_
                  rintro e w'' ⟨rfl, b9⟩
                  exact ⟨_, rfl, b9, rfl⟩
                intro w5 hg _
                have GG := G1.drew.grown hg
                clear hg G1
                go_wp2_with (go_at_call 10; refine (store_in GG.mm 12 (by rw [hW2.out.n]; decide) cw).mono ?_; rintro e w6 ⟨rfl, m6, o6, -⟩; have GG := GG.mem o6 m6)
                refine wp_over (fun W => Gd w W L E 4 1 2 30 0 (s2.step 12 cw)) GG ?_
                clear GG m6 o6
                rintro W G1
                refine wp_region_rely_tail Grown 3 [.val (.pointer (some ⟨E, 7, none⟩)), .val (.pointer (some ⟨L.p, 0, none⟩)), .val (.int .i64 0)] (by kernel_rfl) Grown.refl Grown.trans (by decide) (by kernel_rfl) (by kernel_rfl) (by kernel_rfl) (by kernel_rfl) (by kernel_rfl) (by kernel_rfl) ?_
                simp only [List.take_succ_cons, List.take_zero, relyAll, Act.put, List.setIfInBounds_toArray, List.set_cons_zero, List.set_cons_succ]
                refine ⟨?_, ?_, ?_, ?_⟩
                · intro w' hg _
                  refine Or.inl ⟨rfl, ?_⟩
                  go_simp
                  exact ⟨Grown.refl _, rfl⟩
                · intro w' hg _
                  refine Or.inl ⟨rfl, ?_⟩
                  have vv := (G1.drew.grown hg).v
                  have y0 := vv.c0
                  have y1 := vv.c1
                  have y2 := vv.c2
                  have y3 := vv.c3
                  have y4 := vv.c4
                  have y5 := vv.c5
                  have y6 := vv.c6
                  have y7 := vv.c7
                  have y8 := vv.c8
                  go_simp
                  exact ⟨Grown.refl _, rfl⟩
                · intro w' hg _
                  refine Or.inl ⟨rfl, ?_⟩
                  go_simp
                  refine (lepoch_any _).mono ?_
                  rintro e w'' ⟨rfl, rfl⟩
                  exact ⟨_, rfl, Grown.refl _, rfl⟩
                intro w5 hg _
                have GG := G1.drew.grown hg
                clear hg G1
                obtain ⟨s3, hs3⟩ : ∃ s3, (s2.step 12 cw).step 0 9 = s3 := ⟨_, rfl⟩
                have HCw : Hid (Cw U s3) := by
                  unfold Hid
                  rw [← hs3, ← HCW.out]
                  exact hW2.out.lay U
                go_wp2_with (first
                  | (go_at_call 10; refine (store_in GG.mm 0 (show 0 < s2.n by rw [hW2.out.n]; decide) 9).mono ?_; rintro e w6 ⟨rfl, m6, o6, -⟩; have GG := GG.mem o6 m6; rw [hs3] at GG)
                  | (go_at_call 24; refine (newSettle_any _ _).mono ?_; rintro e w7 ⟨rfl, rfl⟩))
                have a7 := st_new 0 w6
                have G7 := GG.grown (gro1 _ (set0 ((0 : Nat) : Int)))
                have HK : Hid (¬ L.has w6.heap.size ∧ E ≠ w6.heap.size ∧ w.heap.size ≤ w6.heap.size) := ⟨fun hh => by have := GG.mm.lt _ hh; omega, (fun e => by have := GG.lt; omega), GG.b.size⟩
                obtain ⟨K, hK⟩ : ∃ K, w6.heap.size = K := ⟨_, rfl⟩
                rw [hK] at a7 HK
                try rw [hK]
                have HSeh : Hid (SeH 4 1 2 30 0 s3 ⟨3, 0, U, 0⟩) := HCw.out.seh (by omega)
                have A3 : Hid (∃ cs, Gd w (w6.alloc (set0 ((0 : Nat) : Int))) L E 4 1 2 30 0 s3 ∧ StAt (w6.alloc (set0 ((0 : Nat) : Int))) K 0 74 cs 0 .see) := by
                  obtain ⟨cs, q⟩ := a7
                  exact ⟨cs, G7, q⟩
                clear GG G7 a7 m6 o6 hs3 hW2 hK
                go_loopw [13] (fun i wr => ∃ (j : Nat) (s' : Mm) (d : Se) (cs : Array Value), i = .int .i64 j ∧ SeI 4 1 2 30 0 s3 ⟨3, 0, U, 0⟩ s' j d ∧ Gd w wr L E 4 1 2 30 0 s' ∧ StAt wr K 0 74 cs 0 d) (fun i _ => 60 - (intOf i).toNat)
                case atStart =>
                  obtain ⟨cs, h1, h2⟩ := A3.out
                  exact ⟨0, s3, .see, cs, rfl, ⟨rfl, rfl, rfl⟩, h1, h2⟩
                case round =>
                  clear A3
                  obtain ⟨j, s1, d, cs, rfl, hI, GG, a0⟩ := hrel
                  have hjle := hI.le
                  have hj6 : (j : Int) < 60 := by simp only at hjle; omega
                  obtain ⟨sg, hsg⟩ : ∃ x, s1.steps = x := ⟨_, rfl⟩
                  have HS1 : Hid (s1.steps = sg) := hsg
                  have hlo := hI.low HSeh.out
                  have HCk : Hid (s1.wd 12 = cw) := by unfold Hid; rw [← HCW.out]; exact hlo.1
                  obtain ⟨s2, d2, ht⟩ : ∃ s2 d2, seTurn 4 1 2 30 0 0 ⟨3, 0, U, 0⟩ s1 d = (s2, d2) := ⟨_, _, rfl⟩
                  have told := se_told (by simp only; omega) hI ht
                  rw [hsg] at told
                  have HSt : Hid (s2.steps = wrap64 (sg + 1)) := told.1
                  obtain ⟨la, hla⟩ : ∃ x, s2.la = x := ⟨_, rfl⟩
                  obtain ⟨lw, hlw⟩ : ∃ x, s2.lw = x := ⟨_, rfl⟩
                  obtain ⟨lc, hlc⟩ : ∃ x, s2.lc = x := ⟨_, rfl⟩
                  have HLa : Hid (s2.la = la) := hla
                  have HLw : Hid (s2.lw = lw) := hlw
                  have HLc : Hid (s2.lc = lc) := hlc
                  obtain ⟨ci, hof⟩ := lof13 la (by rw [← hla]; exact told.2)
                  have HOf : Hid (∀ w : World, Calls Try.prog 27 #[.agg #[.int .i64 4, .int .i64 1, .int .i64 2, .int .i64 30, .int .i64 100, .int .i64 600, .int .i64 3], .int .i64 la] w fun e w' => e = .returned (.int .i64 ci) ∧ Below w.heap.size w w') := hof
                  clear hof hla hlw hlc told hsg
                  have y0 := GG.v.c0
                  have y1 := GG.v.c1
                  have y2 := GG.v.c2
                  have y3 := GG.v.c3
                  have y4 := GG.v.c4
                  have y5 := GG.v.c5
                  have y6 := GG.v.c6
                  have y7 := GG.v.c7
                  have y8 := GG.v.c8
                  go_wp2
                  refine wp_over (fun W => Gd w W L E 4 1 2 30 0 s1 ∧ StAt W K 0 74 cs 0 d) ⟨GG, a0⟩ ?_
                  clear GG a0 y0 y1 y2 y3 y4 y5 y6 y7 y8
                  rintro W ⟨G1, a1⟩
                  refine wp_region_rely Grown [.val (.agg #[.int .i64 4, .int .i64 1, .int .i64 2, .int .i64 30, .int .i64 100, .int .i64 600, .int .i64 3, .pointer (some ⟨L.p, 0, none⟩), .int .i64 0]), .val (.int .i64 sg), .val (.pointer (some ⟨E, 7, none⟩)), .val (.pointer (some ⟨L.p, 0, none⟩)), .val (.pointer (some ⟨E, 0, none⟩)), .val (.agg #[.int .i64 4, .int .i64 1, .int .i64 2, .int .i64 30, .int .i64 100, .int .i64 600, .int .i64 3]), .val (.int .i64 12), .val (.int .u64 cw), .val (.agg #[.int .i64 3, .int .i64 0, .int .i64 U, .int .i64 0]), .val (.int .i64 3), .val (.int .i64 sg), .val (.int .i64 3)] (by kernel_rfl) Grown.refl Grown.trans (by kernel_rfl) (by kernel_rfl) (by kernel_rfl) ?_
                  simp only [relyAll, Act.put, List.setIfInBounds_toArray, List.set_cons_zero, List.set_cons_succ]
                  refine ⟨?_, ?_, ?_, ?_, ?_, ?_, ?_, ?_, ?_, ?_, ?_, ?_, ?_⟩
                  · intro w' hg _
                    refine Or.inl ⟨rfl, ?_⟩
                    have vv := (G1.drew.grown hg).v
                    have y0 := vv.c0
                    have y1 := vv.c1
                    have y2 := vv.c2
                    have y3 := vv.c3
                    have y4 := vv.c4
                    have y5 := vv.c5
                    have y6 := vv.c6
                    have y7 := vv.c7
                    have y8 := vv.c8
                    go_simp
                    exact ⟨Grown.refl _, rfl⟩
                  · intro w' hg _
                    refine Or.inl ⟨rfl, ?_⟩
                    go_simp
                    refine (now13 (G1.drew.grown hg).mm _ _ _ _ _ _ _ _ _ HS1.out).mono ?_
                    rintro e w'' ⟨rfl, b9⟩
                    exact ⟨_, rfl, b9, rfl⟩
                  · intro w' hg _
                    refine Or.inl ⟨rfl, ?_⟩
                    go_simp
                    exact ⟨Grown.refl _, rfl⟩
                  · intro w' hg _
                    refine Or.inl ⟨rfl, ?_⟩
                    have vv := (G1.drew.grown hg).v
                    have y0 := vv.c0
                    have y1 := vv.c1
                    have y2 := vv.c2
                    have y3 := vv.c3
                    have y4 := vv.c4
                    have y5 := vv.c5
                    have y6 := vv.c6
                    have y7 := vv.c7
                    have y8 := vv.c8
                    go_simp
                    exact ⟨Grown.refl _, rfl⟩
                  · intro w' hg _
                    refine Or.inl ⟨rfl, ?_⟩
                    go_simp
                    exact ⟨Grown.refl _, rfl⟩
                  · intro w' hg _
                    refine Or.inl ⟨rfl, ?_⟩
                    have vv := (G1.drew.grown hg).v
                    have y0 := vv.c0
                    have y1 := vv.c1
                    have y2 := vv.c2
                    have y3 := vv.c3
                    have y4 := vv.c4
                    have y5 := vv.c5
                    have y6 := vv.c6
                    have y7 := vv.c7
                    have y8 := vv.c8
                    go_simp
                    exact ⟨Grown.refl _, rfl⟩
                  · intro w' hg _
                    refine Or.inl ⟨rfl, ?_⟩
                    go_simp
                    refine (lchunk_any _ _ _ _ _ _ _ 0 _ hGd.arena (by decide) (by decide)).mono ?_
                    rintro e w'' ⟨rfl, b9⟩
                    exact ⟨_, rfl, b9, congrArg (Value.int .i64) (by omega)⟩
                  · intro w' hg _
                    refine Or.inl ⟨rfl, ?_⟩
                    go_simp
                    refine (peek_is (G1.drew.grown hg).mm 12 (show 12 < s1.n by rw [hI.len, HCw.out.n]; decide) cw (HCk.out)).mono ?_
                    rintro e w'' ⟨rfl, rfl⟩
                    exact ⟨_, rfl, Grown.refl _, rfl⟩
                  · intro w' hg _
                    refine Or.inl ⟨rfl, ?_⟩
                    go_simp
                    refine (ckc _).mono ?_
                    rintro e w'' ⟨rfl, b9⟩
                    exact ⟨_, rfl, b9, rfl⟩
                  · intro w' hg _
                    refine Or.inl ⟨rfl, ?_⟩
                    go_simp
                    exact ⟨Grown.refl _, rfl⟩
                  · intro w' hg _
                    refine Or.inl ⟨rfl, ?_⟩
                    go_simp
                    exact ⟨Grown.refl _, rfl⟩
                  · intro w' hg _
                    refine Or.inl ⟨rfl, ?_⟩
                    go_simp
                    exact ⟨Grown.refl _, rfl⟩
                  intro w3 hg _
                  have GG := G1.drew.grown hg
                  have a3 := (a1.grown ((Below.refl _ _).drew)).grown hg
                  clear hg G1 a1
                  have hl1 : arenaLen 4 1 2 30 ≤ s1.n := by rw [hI.len, HCw.out.n]; decide
                  have st := set_step GG.mm HK.out.1 a3 hGd hl1 (by decide) 0 hlo.1 HSeh.out.ok (by decide) (by rw [hlo.2]; exact HSeh.out.e1) (hI.good HSeh.out) hI.on s2 d2 ht
                  have y0 := GG.v.c0
                  have y1 := GG.v.c1
                  have y2 := GG.v.c2
                  have y3 := GG.v.c3
                  have y4 := GG.v.c4
                  have y5 := GG.v.c5
                  have y6 := GG.v.c6
                  have y7 := GG.v.c7
                  have y8 := GG.v.c8
                  have hh := se_turn 0 HSeh.out hI ht
                  clear hl1 hlo ht a3 hI
                  rcases hh with ⟨ho, I2⟩ | ⟨ho, e2⟩
                  · have st := st false ho
                    go_wp2_with (go_at_call 26; refine st.mono ?_; rintro e w4 ⟨rfl, cs2, A2⟩; have GS := GG.and A2.only A2.m HK.out.2.1 HK.out.2.2; have z0 := GS.v.c0; have z1 := GS.v.c1; have z2 := GS.v.c2; have z3 := GS.v.c3; have z4 := GS.v.c4; have z5 := GS.v.c5; have z6 := GS.v.c6; have z7 := GS.v.c7; have z8 := GS.v.c8)
                    clear st
                    cases hy : (ci == 0) with
                    | true =>
                      have hci : (ci == 0) = true := hy
                      have GG := GS
                      clear GS
                      refine wp_over (fun W => Gd w W L E 4 1 2 30 0 s2 ∧ StAt W K 0 74 cs2 0 d2) ⟨GG, A2.a⟩ ?_
                      clear GG A2 y0 y1 y2 y3 y4 y5 y6 y7 y8 z0 z1 z2 z3 z4 z5 z6 z7 z8 HCk
                      rintro W ⟨G1, a1⟩
                      refine wp_region_rely Grown [.val (.agg #[.int .i64 4, .int .i64 1, .int .i64 2, .int .i64 30, .int .i64 100, .int .i64 600, .int .i64 3, .pointer (some ⟨L.p, 0, none⟩), .int .i64 0]), .val (.int .i64 (wrap64 (sg + 1))), .val (.int .i64 sg), .val (.int .i64 (wrap64 (sg + 1))), .val (.bool false), .val (.bool false), .val (.pointer (some ⟨E, 0, none⟩)), .val (.agg #[.int .i64 4, .int .i64 1, .int .i64 2, .int .i64 30, .int .i64 100, .int .i64 600, .int .i64 3]), .val (.pointer (some ⟨E, 7, none⟩)), .val (.pointer (some ⟨L.p, 0, none⟩)), .val (.agg #[.int .i64 la, .int .i64 lw, .bool lc]), .val (.int .i64 la), .val (.int .i64 ci), .val (.bool true), .val (.bool true), .val (.int .i64 3), .val (.bool false), .val (.bool false), .val (.bool false)] (by kernel_rfl) Grown.refl Grown.trans (by kernel_rfl) (by kernel_rfl) (by kernel_rfl) ?_
                      simp only [relyAll, Act.put, List.setIfInBounds_toArray, List.set_cons_zero, List.set_cons_succ]
                      refine ⟨?_, ?_, ?_, ?_, ?_, ?_, ?_, ?_, ?_, ?_, ?_, ?_, ?_, ?_, ?_, ?_, ?_, ?_, ?_, ?_⟩
                      · intro w' hg _
                        refine Or.inl ⟨rfl, ?_⟩
                        have vv := (G1.drew.grown hg).v
                        have y0 := vv.c0
                        have y1 := vv.c1
                        have y2 := vv.c2
                        have y3 := vv.c3
                        have y4 := vv.c4
                        have y5 := vv.c5
                        have y6 := vv.c6
                        have y7 := vv.c7
                        have y8 := vv.c8
                        go_simp
                        exact ⟨Grown.refl _, rfl⟩
                      · intro w' hg _
                        refine Or.inl ⟨rfl, ?_⟩
                        go_simp
                        refine (now13 (G1.drew.grown hg).mm _ _ _ _ _ _ _ _ _ HSt.out).mono ?_
                        rintro e w'' ⟨rfl, b9⟩
                        exact ⟨_, rfl, b9, rfl⟩
                      · intro w' hg _
                        refine Or.inl ⟨rfl, ?_⟩
                        go_simp
                        exact ⟨Grown.refl _, rfl⟩
                      · intro w' hg _
                        refine Or.inl ⟨rfl, ?_⟩
                        go_simp
                        exact ⟨Grown.refl _, congrArg (Value.int .i64) (wrapEq _)⟩
                      · intro w' hg _
                        refine Or.inl ⟨rfl, ?_⟩
                        go_simp
                        exact ⟨Grown.refl _, rfl⟩
                      · intro w' hg _
                        refine Or.inl ⟨rfl, ?_⟩
                        go_simp
                        exact ⟨Grown.refl _, rfl⟩
                      · intro w' hg _
                        refine Or.inl ⟨rfl, ?_⟩
                        go_simp
                        exact ⟨Grown.refl _, rfl⟩
                      · intro w' hg _
                        refine Or.inl ⟨rfl, ?_⟩
                        have vv := (G1.drew.grown hg).v
                        have y0 := vv.c0
                        have y1 := vv.c1
                        have y2 := vv.c2
                        have y3 := vv.c3
                        have y4 := vv.c4
                        have y5 := vv.c5
                        have y6 := vv.c6
                        have y7 := vv.c7
                        have y8 := vv.c8
                        go_simp
                        exact ⟨Grown.refl _, rfl⟩
                      · intro w' hg _
                        refine Or.inl ⟨rfl, ?_⟩
                        go_simp
                        exact ⟨Grown.refl _, rfl⟩
                      · intro w' hg _
                        refine Or.inl ⟨rfl, ?_⟩
                        have vv := (G1.drew.grown hg).v
                        have y0 := vv.c0
                        have y1 := vv.c1
                        have y2 := vv.c2
                        have y3 := vv.c3
                        have y4 := vv.c4
                        have y5 := vv.c5
                        have y6 := vv.c6
                        have y7 := vv.c7
                        have y8 := vv.c8
                        go_simp
                        exact ⟨Grown.refl _, rfl⟩
                      · intro w' hg _
                        refine Or.inl ⟨rfl, ?_⟩
                        go_simp
                        refine (last13 (G1.drew.grown hg).mm la lw lc HLa.out HLw.out HLc.out).mono ?_
                        rintro e w'' ⟨rfl, b9⟩
                        exact ⟨_, rfl, b9, rfl⟩
                      · intro w' hg _
                        refine Or.inl ⟨rfl, ?_⟩
                        go_simp
                        exact ⟨Grown.refl _, rfl⟩
                      · intro w' hg _
                        refine Or.inl ⟨rfl, ?_⟩
                        go_simp
                        refine (HOf.out _).mono ?_
                        rintro e w'' ⟨rfl, b9⟩
                        exact ⟨_, rfl, b9, rfl⟩
                      · intro w' hg _
                        refine Or.inl ⟨rfl, ?_⟩
                        have z := hci
                        go_simp
                        exact ⟨Grown.refl _, rfl⟩
                      · intro w' hg _
                        refine Or.inl ⟨rfl, ?_⟩
                        go_simp
                        exact ⟨Grown.refl _, rfl⟩
                      · intro w' hg _
                        refine Or.inl ⟨rfl, ?_⟩
                        go_simp
                        exact ⟨Grown.refl _, rfl⟩
                      · intro w' hg _
                        refine Or.inl ⟨rfl, ?_⟩
                        go_simp
                        exact ⟨Grown.refl _, rfl⟩
                      · intro w' hg _
                        refine Or.inl ⟨rfl, ?_⟩
                        go_simp
                        exact ⟨Grown.refl _, rfl⟩
                      · intro w' hg _
                        refine Or.inl ⟨rfl, ?_⟩
                        go_simp
                        exact ⟨Grown.refl _, rfl⟩
                      intro w7 hg _
                      have GG := G1.drew.grown hg
                      have aa := (a1.grown ((Below.refl _ _).drew)).grown hg
                      clear hg G1 a1 HOf hci HLa HLw HLc HSt
                      go_wp2
                      go_roundw
                      case rel => exact ⟨j + 1, s2, d2, cs2, by go_num, I2, GG, aa⟩
                      case measure => simp [intOf]; omega
                    | false =>
                      have hci : (ci == 0) = false := hy
                      have GG := GS
                      clear GS
                      refine wp_over (fun W => Gd w W L E 4 1 2 30 0 s2 ∧ StAt W K 0 74 cs2 0 d2) ⟨GG, A2.a⟩ ?_
                      clear GG A2 y0 y1 y2 y3 y4 y5 y6 y7 y8 z0 z1 z2 z3 z4 z5 z6 z7 z8 HCk
                      rintro W ⟨G1, a1⟩
                      refine wp_region_rely Grown [.val (.agg #[.int .i64 4, .int .i64 1, .int .i64 2, .int .i64 30, .int .i64 100, .int .i64 600, .int .i64 3, .pointer (some ⟨L.p, 0, none⟩), .int .i64 0]), .val (.int .i64 (wrap64 (sg + 1))), .val (.int .i64 sg), .val (.int .i64 (wrap64 (sg + 1))), .val (.bool false), .val (.bool false), .val (.pointer (some ⟨E, 0, none⟩)), .val (.agg #[.int .i64 4, .int .i64 1, .int .i64 2, .int .i64 30, .int .i64 100, .int .i64 600, .int .i64 3]), .val (.pointer (some ⟨E, 7, none⟩)), .val (.pointer (some ⟨L.p, 0, none⟩)), .val (.agg #[.int .i64 la, .int .i64 lw, .bool lc]), .val (.int .i64 la), .val (.int .i64 ci), .val (.bool false), .val (.bool false), .val undef, .val undef, .val (.bool false), .val (.bool false)] (by kernel_rfl) Grown.refl Grown.trans (by kernel_rfl) (by kernel_rfl) (by kernel_rfl) ?_
                      simp only [relyAll, Act.put, List.setIfInBounds_toArray, List.set_cons_zero, List.set_cons_succ]
                      refine ⟨?_, ?_, ?_, ?_, ?_, ?_, ?_, ?_, ?_, ?_, ?_, ?_, ?_, ?_, ?_, ?_, ?_, ?_, ?_, ?_⟩
                      · intro w' hg _
                        refine Or.inl ⟨rfl, ?_⟩
                        have vv := (G1.drew.grown hg).v
                        have y0 := vv.c0
                        have y1 := vv.c1
                        have y2 := vv.c2
                        have y3 := vv.c3
                        have y4 := vv.c4
                        have y5 := vv.c5
                        have y6 := vv.c6
                        have y7 := vv.c7
                        have y8 := vv.c8
                        go_simp
                        exact ⟨Grown.refl _, rfl⟩
                      · intro w' hg _
                        refine Or.inl ⟨rfl, ?_⟩
                        go_simp
                        refine (now13 (G1.drew.grown hg).mm _ _ _ _ _ _ _ _ _ HSt.out).mono ?_
                        rintro e w'' ⟨rfl, b9⟩
                        exact ⟨_, rfl, b9, rfl⟩
                      · intro w' hg _
                        refine Or.inl ⟨rfl, ?_⟩
                        go_simp
                        exact ⟨Grown.refl _, rfl⟩
                      · intro w' hg _
                        refine Or.inl ⟨rfl, ?_⟩
                        go_simp
                        exact ⟨Grown.refl _, congrArg (Value.int .i64) (wrapEq _)⟩
                      · intro w' hg _
                        refine Or.inl ⟨rfl, ?_⟩
                        go_simp
                        exact ⟨Grown.refl _, rfl⟩
                      · intro w' hg _
                        refine Or.inl ⟨rfl, ?_⟩
                        go_simp
                        exact ⟨Grown.refl _, rfl⟩
                      · intro w' hg _
                        refine Or.inl ⟨rfl, ?_⟩
                        go_simp
                        exact ⟨Grown.refl _, rfl⟩
                      · intro w' hg _
                        refine Or.inl ⟨rfl, ?_⟩
                        have vv := (G1.drew.grown hg).v
                        have y0 := vv.c0
                        have y1 := vv.c1
                        have y2 := vv.c2
                        have y3 := vv.c3
                        have y4 := vv.c4
                        have y5 := vv.c5
                        have y6 := vv.c6
                        have y7 := vv.c7
                        have y8 := vv.c8
                        go_simp
                        exact ⟨Grown.refl _, rfl⟩
                      · intro w' hg _
                        refine Or.inl ⟨rfl, ?_⟩
                        go_simp
                        exact ⟨Grown.refl _, rfl⟩
                      · intro w' hg _
                        refine Or.inl ⟨rfl, ?_⟩
                        have vv := (G1.drew.grown hg).v
                        have y0 := vv.c0
                        have y1 := vv.c1
                        have y2 := vv.c2
                        have y3 := vv.c3
                        have y4 := vv.c4
                        have y5 := vv.c5
                        have y6 := vv.c6
                        have y7 := vv.c7
                        have y8 := vv.c8
                        go_simp
                        exact ⟨Grown.refl _, rfl⟩
                      · intro w' hg _
                        refine Or.inl ⟨rfl, ?_⟩
                        go_simp
                        refine (last13 (G1.drew.grown hg).mm la lw lc HLa.out HLw.out HLc.out).mono ?_
                        rintro e w'' ⟨rfl, b9⟩
                        exact ⟨_, rfl, b9, rfl⟩
                      · intro w' hg _
                        refine Or.inl ⟨rfl, ?_⟩
                        go_simp
                        exact ⟨Grown.refl _, rfl⟩
                      · intro w' hg _
                        refine Or.inl ⟨rfl, ?_⟩
                        go_simp
                        refine (HOf.out _).mono ?_
                        rintro e w'' ⟨rfl, b9⟩
                        exact ⟨_, rfl, b9, rfl⟩
                      · intro w' hg _
                        refine Or.inl ⟨rfl, ?_⟩
                        have z := hci
                        go_simp
                        exact ⟨Grown.refl _, rfl⟩
                      · intro w' hg _
                        refine Or.inl ⟨rfl, ?_⟩
                        go_simp
                        exact ⟨Grown.refl _, rfl⟩
                      · intro w' hg _
                        exact Or.inr ⟨rfl, rfl⟩
                      · intro w' hg _
                        exact Or.inr ⟨rfl, rfl⟩
                      · intro w' hg _
                        refine Or.inl ⟨rfl, ?_⟩
                        go_simp
                        exact ⟨Grown.refl _, rfl⟩
                      · intro w' hg _
                        refine Or.inl ⟨rfl, ?_⟩
                        go_simp
                        exact ⟨Grown.refl _, rfl⟩
                      intro w7 hg _
                      have GG := G1.drew.grown hg
                      have aa := (a1.grown ((Below.refl _ _).drew)).grown hg
                      clear hg G1 a1 HOf hci HLa HLw HLc HSt
                      go_wp2
                      go_roundw
                      case rel => exact ⟨j + 1, s2, d2, cs2, by go_num, I2, GG, aa⟩
                      case measure => simp [intOf]; omega
                  · have st := st true ho
                    have hfr : d2.freed = true := by
                      cases hf : d2.freed with
                      | true => rfl
                      | false => exact absurd HCw.out.ripe (e2.no hf).1
                    clear e2
                    go_wp2_with (go_at_call 26; refine st.mono ?_; rintro e w4 ⟨rfl, cs2, A2⟩; have GS := GG.and A2.only A2.m HK.out.2.1 HK.out.2.2; have z0 := GS.v.c0; have z1 := GS.v.c1; have z2 := GS.v.c2; have z3 := GS.v.c3; have z4 := GS.v.c4; have z5 := GS.v.c5; have z6 := GS.v.c6; have z7 := GS.v.c7; have z8 := GS.v.c8)
                    clear st
                    cases hy : (ci == 0) with
                    | true =>
                      have hci : (ci == 0) = true := hy
                      have GG := GS
                      clear GS
                      refine wp_over (fun W => Gd w W L E 4 1 2 30 0 s2 ∧ StAt W K 0 74 cs2 0 d2) ⟨GG, A2.a⟩ ?_
                      clear GG A2 y0 y1 y2 y3 y4 y5 y6 y7 y8 z0 z1 z2 z3 z4 z5 z6 z7 z8 HCk
                      rintro W ⟨G1, a1⟩
                      refine wp_region_rely Grown [.val (.agg #[.int .i64 4, .int .i64 1, .int .i64 2, .int .i64 30, .int .i64 100, .int .i64 600, .int .i64 3, .pointer (some ⟨L.p, 0, none⟩), .int .i64 0]), .val (.int .i64 (wrap64 (sg + 1))), .val (.int .i64 sg), .val (.int .i64 (wrap64 (sg + 1))), .val (.bool false), .val (.bool false), .val (.pointer (some ⟨E, 0, none⟩)), .val (.agg #[.int .i64 4, .int .i64 1, .int .i64 2, .int .i64 30, .int .i64 100, .int .i64 600, .int .i64 3]), .val (.pointer (some ⟨E, 7, none⟩)), .val (.pointer (some ⟨L.p, 0, none⟩)), .val (.agg #[.int .i64 la, .int .i64 lw, .bool lc]), .val (.int .i64 la), .val (.int .i64 ci), .val (.bool true), .val (.bool true), .val (.int .i64 3), .val (.bool false), .val (.bool false), .val (.bool false)] (by kernel_rfl) Grown.refl Grown.trans (by kernel_rfl) (by kernel_rfl) (by kernel_rfl) ?_
                      simp only [relyAll, Act.put, List.setIfInBounds_toArray, List.set_cons_zero, List.set_cons_succ]
                      refine ⟨?_, ?_, ?_, ?_, ?_, ?_, ?_, ?_, ?_, ?_, ?_, ?_, ?_, ?_, ?_, ?_, ?_, ?_, ?_, ?_⟩
                      · intro w' hg _
                        refine Or.inl ⟨rfl, ?_⟩
                        have vv := (G1.drew.grown hg).v
                        have y0 := vv.c0
                        have y1 := vv.c1
                        have y2 := vv.c2
                        have y3 := vv.c3
                        have y4 := vv.c4
                        have y5 := vv.c5
                        have y6 := vv.c6
                        have y7 := vv.c7
                        have y8 := vv.c8
                        go_simp
                        exact ⟨Grown.refl _, rfl⟩
                      · intro w' hg _
                        refine Or.inl ⟨rfl, ?_⟩
                        go_simp
                        refine (now13 (G1.drew.grown hg).mm _ _ _ _ _ _ _ _ _ HSt.out).mono ?_
                        rintro e w'' ⟨rfl, b9⟩
                        exact ⟨_, rfl, b9, rfl⟩
                      · intro w' hg _
                        refine Or.inl ⟨rfl, ?_⟩
                        go_simp
                        exact ⟨Grown.refl _, rfl⟩
                      · intro w' hg _
                        refine Or.inl ⟨rfl, ?_⟩
                        go_simp
                        exact ⟨Grown.refl _, congrArg (Value.int .i64) (wrapEq _)⟩
                      · intro w' hg _
                        refine Or.inl ⟨rfl, ?_⟩
                        go_simp
                        exact ⟨Grown.refl _, rfl⟩
                      · intro w' hg _
                        refine Or.inl ⟨rfl, ?_⟩
                        go_simp
                        exact ⟨Grown.refl _, rfl⟩
                      · intro w' hg _
                        refine Or.inl ⟨rfl, ?_⟩
                        go_simp
                        exact ⟨Grown.refl _, rfl⟩
                      · intro w' hg _
                        refine Or.inl ⟨rfl, ?_⟩
                        have vv := (G1.drew.grown hg).v
                        have y0 := vv.c0
                        have y1 := vv.c1
                        have y2 := vv.c2
                        have y3 := vv.c3
                        have y4 := vv.c4
                        have y5 := vv.c5
                        have y6 := vv.c6
                        have y7 := vv.c7
                        have y8 := vv.c8
                        go_simp
                        exact ⟨Grown.refl _, rfl⟩
                      · intro w' hg _
                        refine Or.inl ⟨rfl, ?_⟩
                        go_simp
                        exact ⟨Grown.refl _, rfl⟩
                      · intro w' hg _
                        refine Or.inl ⟨rfl, ?_⟩
                        have vv := (G1.drew.grown hg).v
                        have y0 := vv.c0
                        have y1 := vv.c1
                        have y2 := vv.c2
                        have y3 := vv.c3
                        have y4 := vv.c4
                        have y5 := vv.c5
                        have y6 := vv.c6
                        have y7 := vv.c7
                        have y8 := vv.c8
                        go_simp
                        exact ⟨Grown.refl _, rfl⟩
                      · intro w' hg _
                        refine Or.inl ⟨rfl, ?_⟩
                        go_simp
                        refine (last13 (G1.drew.grown hg).mm la lw lc HLa.out HLw.out HLc.out).mono ?_
                        rintro e w'' ⟨rfl, b9⟩
                        exact ⟨_, rfl, b9, rfl⟩
                      · intro w' hg _
                        refine Or.inl ⟨rfl, ?_⟩
                        go_simp
                        exact ⟨Grown.refl _, rfl⟩
                      · intro w' hg _
                        refine Or.inl ⟨rfl, ?_⟩
                        go_simp
                        refine (HOf.out _).mono ?_
                        rintro e w'' ⟨rfl, b9⟩
                        exact ⟨_, rfl, b9, rfl⟩
                      · intro w' hg _
                        refine Or.inl ⟨rfl, ?_⟩
                        have z := hci
                        go_simp
                        exact ⟨Grown.refl _, rfl⟩
                      · intro w' hg _
                        refine Or.inl ⟨rfl, ?_⟩
                        go_simp
                        exact ⟨Grown.refl _, rfl⟩
                      · intro w' hg _
                        refine Or.inl ⟨rfl, ?_⟩
                        go_simp
                        exact ⟨Grown.refl _, rfl⟩
                      · intro w' hg _
                        refine Or.inl ⟨rfl, ?_⟩
                        go_simp
                        exact ⟨Grown.refl _, rfl⟩
                      · intro w' hg _
                        refine Or.inl ⟨rfl, ?_⟩
                        go_simp
                        exact ⟨Grown.refl _, rfl⟩
                      · intro w' hg _
                        refine Or.inl ⟨rfl, ?_⟩
                        go_simp
                        exact ⟨Grown.refl _, rfl⟩
                      intro w7 hg _
                      have GG := G1.drew.grown hg
                      have aa := (a1.grown ((Below.refl _ _).drew)).grown hg
                      clear hg G1 a1 HOf hci HLa HLw HLc HSt
                      go_wp2_with (first
                        | (go_at_call_of 28 (Value.pointer (some ({ block := K, off := 0, spot := none } : Addr))); refine (freed_at aa ho).mono ?_; rintro e w8 ⟨rfl, rfl⟩; rw [hfr])
                        | (go_at_call 29; refine (went_nil _).mono ?_; rintro e w8 ⟨rfl, rfl⟩)
                        | (go_at_call 28; refine (freed_nil _).mono ?_; rintro e w8 ⟨rfl, rfl⟩))
                      go_ret
                      exact ⟨rfl, GG.b⟩
                    | false =>
                      have hci : (ci == 0) = false := hy
                      have GG := GS
                      clear GS
                      refine wp_over (fun W => Gd w W L E 4 1 2 30 0 s2 ∧ StAt W K 0 74 cs2 0 d2) ⟨GG, A2.a⟩ ?_
                      clear GG A2 y0 y1 y2 y3 y4 y5 y6 y7 y8 z0 z1 z2 z3 z4 z5 z6 z7 z8 HCk
                      rintro W ⟨G1, a1⟩
                      refine wp_region_rely Grown [.val (.agg #[.int .i64 4, .int .i64 1, .int .i64 2, .int .i64 30, .int .i64 100, .int .i64 600, .int .i64 3, .pointer (some ⟨L.p, 0, none⟩), .int .i64 0]), .val (.int .i64 (wrap64 (sg + 1))), .val (.int .i64 sg), .val (.int .i64 (wrap64 (sg + 1))), .val (.bool false), .val (.bool false), .val (.pointer (some ⟨E, 0, none⟩)), .val (.agg #[.int .i64 4, .int .i64 1, .int .i64 2, .int .i64 30, .int .i64 100, .int .i64 600, .int .i64 3]), .val (.pointer (some ⟨E, 7, none⟩)), .val (.pointer (some ⟨L.p, 0, none⟩)), .val (.agg #[.int .i64 la, .int .i64 lw, .bool lc]), .val (.int .i64 la), .val (.int .i64 ci), .val (.bool false), .val (.bool false), .val undef, .val undef, .val (.bool false), .val (.bool false)] (by kernel_rfl) Grown.refl Grown.trans (by kernel_rfl) (by kernel_rfl) (by kernel_rfl) ?_
                      simp only [relyAll, Act.put, List.setIfInBounds_toArray, List.set_cons_zero, List.set_cons_succ]
                      refine ⟨?_, ?_, ?_, ?_, ?_, ?_, ?_, ?_, ?_, ?_, ?_, ?_, ?_, ?_, ?_, ?_, ?_, ?_, ?_, ?_⟩
                      · intro w' hg _
                        refine Or.inl ⟨rfl, ?_⟩
                        have vv := (G1.drew.grown hg).v
                        have y0 := vv.c0
                        have y1 := vv.c1
                        have y2 := vv.c2
                        have y3 := vv.c3
                        have y4 := vv.c4
                        have y5 := vv.c5
                        have y6 := vv.c6
                        have y7 := vv.c7
                        have y8 := vv.c8
                        go_simp
                        exact ⟨Grown.refl _, rfl⟩
                      · intro w' hg _
                        refine Or.inl ⟨rfl, ?_⟩
                        go_simp
                        refine (now13 (G1.drew.grown hg).mm _ _ _ _ _ _ _ _ _ HSt.out).mono ?_
                        rintro e w'' ⟨rfl, b9⟩
                        exact ⟨_, rfl, b9, rfl⟩
                      · intro w' hg _
                        refine Or.inl ⟨rfl, ?_⟩
                        go_simp
                        exact ⟨Grown.refl _, rfl⟩
                      · intro w' hg _
                        refine Or.inl ⟨rfl, ?_⟩
                        go_simp
                        exact ⟨Grown.refl _, congrArg (Value.int .i64) (wrapEq _)⟩
                      · intro w' hg _
                        refine Or.inl ⟨rfl, ?_⟩
                        go_simp
                        exact ⟨Grown.refl _, rfl⟩
                      · intro w' hg _
                        refine Or.inl ⟨rfl, ?_⟩
                        go_simp
                        exact ⟨Grown.refl _, rfl⟩
                      · intro w' hg _
                        refine Or.inl ⟨rfl, ?_⟩
                        go_simp
                        exact ⟨Grown.refl _, rfl⟩
                      · intro w' hg _
                        refine Or.inl ⟨rfl, ?_⟩
                        have vv := (G1.drew.grown hg).v
                        have y0 := vv.c0
                        have y1 := vv.c1
                        have y2 := vv.c2
                        have y3 := vv.c3
                        have y4 := vv.c4
                        have y5 := vv.c5
                        have y6 := vv.c6
                        have y7 := vv.c7
                        have y8 := vv.c8
                        go_simp
                        exact ⟨Grown.refl _, rfl⟩
                      · intro w' hg _
                        refine Or.inl ⟨rfl, ?_⟩
                        go_simp
                        exact ⟨Grown.refl _, rfl⟩
                      · intro w' hg _
                        refine Or.inl ⟨rfl, ?_⟩
                        have vv := (G1.drew.grown hg).v
                        have y0 := vv.c0
                        have y1 := vv.c1
                        have y2 := vv.c2
                        have y3 := vv.c3
                        have y4 := vv.c4
                        have y5 := vv.c5
                        have y6 := vv.c6
                        have y7 := vv.c7
                        have y8 := vv.c8
                        go_simp
                        exact ⟨Grown.refl _, rfl⟩
                      · intro w' hg _
                        refine Or.inl ⟨rfl, ?_⟩
                        go_simp
                        refine (last13 (G1.drew.grown hg).mm la lw lc HLa.out HLw.out HLc.out).mono ?_
                        rintro e w'' ⟨rfl, b9⟩
                        exact ⟨_, rfl, b9, rfl⟩
                      · intro w' hg _
                        refine Or.inl ⟨rfl, ?_⟩
                        go_simp
                        exact ⟨Grown.refl _, rfl⟩
                      · intro w' hg _
                        refine Or.inl ⟨rfl, ?_⟩
                        go_simp
                        refine (HOf.out _).mono ?_
                        rintro e w'' ⟨rfl, b9⟩
                        exact ⟨_, rfl, b9, rfl⟩
                      · intro w' hg _
                        refine Or.inl ⟨rfl, ?_⟩
                        have z := hci
                        go_simp
                        exact ⟨Grown.refl _, rfl⟩
                      · intro w' hg _
                        refine Or.inl ⟨rfl, ?_⟩
                        go_simp
                        exact ⟨Grown.refl _, rfl⟩
                      · intro w' hg _
                        exact Or.inr ⟨rfl, rfl⟩
                      · intro w' hg _
                        exact Or.inr ⟨rfl, rfl⟩
                      · intro w' hg _
                        refine Or.inl ⟨rfl, ?_⟩
                        go_simp
                        exact ⟨Grown.refl _, rfl⟩
                      · intro w' hg _
                        refine Or.inl ⟨rfl, ?_⟩
                        go_simp
                        exact ⟨Grown.refl _, rfl⟩
                      intro w7 hg _
                      have GG := G1.drew.grown hg
                      have aa := (a1.grown ((Below.refl _ _).drew)).grown hg
                      clear hg G1 a1 HOf hci HLa HLw HLc HSt
                      go_wp2_with (first
                        | (go_at_call_of 28 (Value.pointer (some ({ block := K, off := 0, spot := none } : Addr))); refine (freed_at aa ho).mono ?_; rintro e w8 ⟨rfl, rfl⟩; rw [hfr])
                        | (go_at_call 29; refine (went_nil _).mono ?_; rintro e w8 ⟨rfl, rfl⟩)
                        | (go_at_call 28; refine (freed_nil _).mono ?_; rintro e w8 ⟨rfl, rfl⟩))
                      go_ret
                      exact ⟨rfl, GG.b⟩
            · have HLa : Hid (s2.la = 0) := ha
              have HLc : Hid (s2.lc = true) := hc
              clear hla hc ha
              as_aux_lemma =>
                go_wp2_with (first
                  | (go_at_call 21; refine (now13 (by first | exact GS.mm | exact GG.mm) _ _ _ _ _ _ _ _ _ (by first | exact HSt.out | exact HS1.out)).mono ?_; rintro e w8 ⟨rfl, b8⟩; first | (have GS := GS.grown b8; have aa := aa.grown b8; have z0 := GS.v.c0; have z1 := GS.v.c1; have z2 := GS.v.c2; have z3 := GS.v.c3; have z4 := GS.v.c4; have z5 := GS.v.c5; have z6 := GS.v.c6; have z7 := GS.v.c7; have z8 := GS.v.c8) | (have GG := GG.grown b8; have a0 := a0.grown b8; have y0 := GG.v.c0; have y1 := GG.v.c1; have y2 := GG.v.c2; have y3 := GG.v.c3; have y4 := GG.v.c4; have y5 := GG.v.c5; have y6 := GG.v.c6; have y7 := GG.v.c7; have y8 := GG.v.c8))
                  | (go_at_call 22; refine (stp _ GG a0 true ho).mono ?_; rintro e w4 ⟨rfl, cs2, A2⟩; have GS := GG.and A2.only A2.m HK.out.2.1 HK.out.2.2; have aa := A2.a; have z0 := GS.v.c0; have z1 := GS.v.c1; have z2 := GS.v.c2; have z3 := GS.v.c3; have z4 := GS.v.c4; have z5 := GS.v.c5; have z6 := GS.v.c6; have z7 := GS.v.c7; have z8 := GS.v.c8)
                  | (go_at_call 23; refine (last13 GS.mm 0 lw true HLa.out HLw.out HLc.out).mono ?_; rintro e w9 ⟨rfl, b9⟩; have GS := GS.grown b9; have aa := aa.grown b9; have z0 := GS.v.c0; have z1 := GS.v.c1; have z2 := GS.v.c2; have z3 := GS.v.c3; have z4 := GS.v.c4; have z5 := GS.v.c5; have z6 := GS.v.c6; have z7 := GS.v.c7; have z8 := GS.v.c8)
                  | (go_at_call 11; refine (lepoch_any _).mono ?_; rintro e w7 ⟨rfl, rfl⟩))
                have hW2 : Hid (Tw s2) := HT.out.adv e2
                clear e2 stp
                have GG := GS
                clear GS A2
                refine wp_over (fun W => Gd w W L E 4 1 2 30 0 s2) GG ?_
                clear GG z0 z1 z2 z3 z4 z5 z6 z7 z8
                rintro W G1
                refine wp_region_rely_tail Grown 10 [.val (.pointer (some ⟨E, 7, none⟩)), .val (.pointer (some ⟨L.p, 0, none⟩)), .val (.pointer (some ⟨E, 0, none⟩)), .val (.agg #[.int .i64 4, .int .i64 1, .int .i64 2, .int .i64 30, .int .i64 100, .int .i64 600, .int .i64 3]), .val (.int .i64 12), .val (.int .i64 a), .val (.int .i64 y), .val (.int .i64 U), .val (.agg #[.int .i64 3, .int .i64 0, .int .i64 U, .int .i64 0]), .val (.int .u64 cw)] (by kernel_rfl) Grown.refl Grown.trans (by decide) (by kernel_rfl) (by kernel_rfl) (by kernel_rfl) (by kernel_rfl) (by kernel_rfl) (by kernel_rfl) ?_
                simp only [List.take_succ_cons, List.take_zero, relyAll, Act.put, List.setIfInBounds_toArray, List.set_cons_zero, List.set_cons_succ]
                refine ⟨?_, ?_, ?_, ?_, ?_, ?_, ?_, ?_, ?_, ?_, ?_⟩
                · intro w' hg _
                  refine Or.inl ⟨rfl, ?_⟩
                  go_simp
                  exact ⟨Grown.refl _, rfl⟩
                · intro w' hg _
                  refine Or.inl ⟨rfl, ?_⟩
                  have vv := (G1.drew.grown hg).v
                  have y0 := vv.c0
                  have y1 := vv.c1
                  have y2 := vv.c2
                  have y3 := vv.c3
                  have y4 := vv.c4
                  have y5 := vv.c5
                  have y6 := vv.c6
                  have y7 := vv.c7
                  have y8 := vv.c8
                  go_simp
                  exact ⟨Grown.refl _, rfl⟩
                · intro w' hg _
                  refine Or.inl ⟨rfl, ?_⟩
                  go_simp
                  exact ⟨Grown.refl _, rfl⟩
                · intro w' hg _
                  refine Or.inl ⟨rfl, ?_⟩
                  have vv := (G1.drew.grown hg).v
                  have y0 := vv.c0
                  have y1 := vv.c1
                  have y2 := vv.c2
                  have y3 := vv.c3
                  have y4 := vv.c4
                  have y5 := vv.c5
                  have y6 := vv.c6
                  have y7 := vv.c7
                  have y8 := vv.c8
                  go_simp
                  exact ⟨Grown.refl _, rfl⟩
                · intro w' hg _
                  refine Or.inl ⟨rfl, ?_⟩
                  go_simp
                  refine (lchunk_any _ _ _ _ _ _ _ 0 _ hGd.arena (by decide) (by decide)).mono ?_
                  rintro e w'' ⟨rfl, b9⟩
                  exact ⟨_, rfl, b9, congrArg (Value.int .i64) (by omega)⟩
                · intro w' hg _
                  refine Or.inl ⟨rfl, ?_⟩
                  go_simp
                  exact ⟨Grown.refl _, rfl⟩
                · intro w' hg _
                  refine Or.inl ⟨rfl, ?_⟩
                  go_simp
                  exact ⟨Grown.refl _, rfl⟩
                · intro w' hg _
                  refine Or.inl ⟨rfl, ?_⟩
                  go_simp
                  exact ⟨Grown.refl _, congrArg (Value.int .i64) (by rw [IntKind.wrap_i64]; omega)⟩
                · intro w' hg _
                  refine Or.inl ⟨rfl, ?_⟩
                  go_simp
                  exact ⟨Grown.refl _, rfl⟩
                · intro w' hg _
                  refine Or.inl ⟨rfl, ?_⟩
                  go_simp
                  refine (pc _).mono ?_
                  rintro e w'' ⟨rfl, b9⟩
                  exact ⟨_, rfl, b9, rfl⟩
                intro w5 hg _
                have GG := G1.drew.grown hg
                clear hg G1
                go_wp2_with (go_at_call 10; refine (store_in GG.mm 12 (by rw [hW2.out.n]; decide) cw).mono ?_; rintro e w6 ⟨rfl, m6, o6, -⟩; have GG := GG.mem o6 m6)
                refine wp_over (fun W => Gd w W L E 4 1 2 30 0 (s2.step 12 cw)) GG ?_
                clear GG m6 o6
                rintro W G1
                refine wp_region_rely_tail Grown 3 [.val (.pointer (some ⟨E, 7, none⟩)), .val (.pointer (some ⟨L.p, 0, none⟩)), .val (.int .i64 0)] (by kernel_rfl) Grown.refl Grown.trans (by decide) (by kernel_rfl) (by kernel_rfl) (by kernel_rfl) (by kernel_rfl) (by kernel_rfl) (by kernel_rfl) ?_
                simp only [List.take_succ_cons, List.take_zero, relyAll, Act.put, List.setIfInBounds_toArray, List.set_cons_zero, List.set_cons_succ]
                refine ⟨?_, ?_, ?_, ?_⟩
                · intro w' hg _
                  refine Or.inl ⟨rfl, ?_⟩
                  go_simp
                  exact ⟨Grown.refl _, rfl⟩
                · intro w' hg _
                  refine Or.inl ⟨rfl, ?_⟩
                  have vv := (G1.drew.grown hg).v
                  have y0 := vv.c0
                  have y1 := vv.c1
                  have y2 := vv.c2
                  have y3 := vv.c3
                  have y4 := vv.c4
                  have y5 := vv.c5
                  have y6 := vv.c6
                  have y7 := vv.c7
                  have y8 := vv.c8
                  go_simp
                  exact ⟨Grown.refl _, rfl⟩
                · intro w' hg _
                  refine Or.inl ⟨rfl, ?_⟩
                  go_simp
                  refine (lepoch_any _).mono ?_
                  rintro e w'' ⟨rfl, rfl⟩
                  exact ⟨_, rfl, Grown.refl _, rfl⟩
                intro w5 hg _
                have GG := G1.drew.grown hg
                clear hg G1
                obtain ⟨s3, hs3⟩ : ∃ s3, (s2.step 12 cw).step 0 9 = s3 := ⟨_, rfl⟩
                have HCw : Hid (Cw U s3) := by
                  unfold Hid
                  rw [← hs3, ← HCW.out]
                  exact hW2.out.lay U
                go_wp2_with (first
                  | (go_at_call 10; refine (store_in GG.mm 0 (show 0 < s2.n by rw [hW2.out.n]; decide) 9).mono ?_; rintro e w6 ⟨rfl, m6, o6, -⟩; have GG := GG.mem o6 m6; rw [hs3] at GG)
                  | (go_at_call 24; refine (newSettle_any _ _).mono ?_; rintro e w7 ⟨rfl, rfl⟩))
                have a7 := st_new 0 w6
                have G7 := GG.grown (gro1 _ (set0 ((0 : Nat) : Int)))
                have HK : Hid (¬ L.has w6.heap.size ∧ E ≠ w6.heap.size ∧ w.heap.size ≤ w6.heap.size) := ⟨fun hh => by have := GG.mm.lt _ hh; omega, (fun e => by have := GG.lt; omega), GG.b.size⟩
                obtain ⟨K, hK⟩ : ∃ K, w6.heap.size = K := ⟨_, rfl⟩
                rw [hK] at a7 HK
                try rw [hK]
                have HSeh : Hid (SeH 4 1 2 30 0 s3 ⟨3, 0, U, 0⟩) := HCw.out.seh (by omega)
                have A3 : Hid (∃ cs, Gd w (w6.alloc (set0 ((0 : Nat) : Int))) L E 4 1 2 30 0 s3 ∧ StAt (w6.alloc (set0 ((0 : Nat) : Int))) K 0 74 cs 0 .see) := by
                  obtain ⟨cs, q⟩ := a7
                  exact ⟨cs, G7, q⟩
                clear GG G7 a7 m6 o6 hs3 hW2 hK
                go_loopw [13] (fun i wr => ∃ (j : Nat) (s' : Mm) (d : Se) (cs : Array Value), i = .int .i64 j ∧ SeI 4 1 2 30 0 s3 ⟨3, 0, U, 0⟩ s' j d ∧ Gd w wr L E 4 1 2 30 0 s' ∧ StAt wr K 0 74 cs 0 d) (fun i _ => 60 - (intOf i).toNat)
                case atStart =>
                  obtain ⟨cs, h1, h2⟩ := A3.out
                  exact ⟨0, s3, .see, cs, rfl, ⟨rfl, rfl, rfl⟩, h1, h2⟩
                case round =>
                  clear A3
                  obtain ⟨j, s1, d, cs, rfl, hI, GG, a0⟩ := hrel
                  have hjle := hI.le
                  have hj6 : (j : Int) < 60 := by simp only at hjle; omega
                  obtain ⟨sg, hsg⟩ : ∃ x, s1.steps = x := ⟨_, rfl⟩
                  have HS1 : Hid (s1.steps = sg) := hsg
                  have hlo := hI.low HSeh.out
                  have HCk : Hid (s1.wd 12 = cw) := by unfold Hid; rw [← HCW.out]; exact hlo.1
                  obtain ⟨s2, d2, ht⟩ : ∃ s2 d2, seTurn 4 1 2 30 0 0 ⟨3, 0, U, 0⟩ s1 d = (s2, d2) := ⟨_, _, rfl⟩
                  have told := se_told (by simp only; omega) hI ht
                  rw [hsg] at told
                  have HSt : Hid (s2.steps = wrap64 (sg + 1)) := told.1
                  obtain ⟨la, hla⟩ : ∃ x, s2.la = x := ⟨_, rfl⟩
                  obtain ⟨lw, hlw⟩ : ∃ x, s2.lw = x := ⟨_, rfl⟩
                  obtain ⟨lc, hlc⟩ : ∃ x, s2.lc = x := ⟨_, rfl⟩
                  have HLa : Hid (s2.la = la) := hla
                  have HLw : Hid (s2.lw = lw) := hlw
                  have HLc : Hid (s2.lc = lc) := hlc
                  obtain ⟨ci, hof⟩ := lof13 la (by rw [← hla]; exact told.2)
                  have HOf : Hid (∀ w : World, Calls Try.prog 27 #[.agg #[.int .i64 4, .int .i64 1, .int .i64 2, .int .i64 30, .int .i64 100, .int .i64 600, .int .i64 3], .int .i64 la] w fun e w' => e = .returned (.int .i64 ci) ∧ Below w.heap.size w w') := hof
                  clear hof hla hlw hlc told hsg
                  have y0 := GG.v.c0
                  have y1 := GG.v.c1
                  have y2 := GG.v.c2
                  have y3 := GG.v.c3
                  have y4 := GG.v.c4
                  have y5 := GG.v.c5
                  have y6 := GG.v.c6
                  have y7 := GG.v.c7
                  have y8 := GG.v.c8
                  go_wp2
                  refine wp_over (fun W => Gd w W L E 4 1 2 30 0 s1 ∧ StAt W K 0 74 cs 0 d) ⟨GG, a0⟩ ?_
                  clear GG a0 y0 y1 y2 y3 y4 y5 y6 y7 y8
                  rintro W ⟨G1, a1⟩
                  refine wp_region_rely Grown [.val (.agg #[.int .i64 4, .int .i64 1, .int .i64 2, .int .i64 30, .int .i64 100, .int .i64 600, .int .i64 3, .pointer (some ⟨L.p, 0, none⟩), .int .i64 0]), .val (.int .i64 sg), .val (.pointer (some ⟨E, 7, none⟩)), .val (.pointer (some ⟨L.p, 0, none⟩)), .val (.pointer (some ⟨E, 0, none⟩)), .val (.agg #[.int .i64 4, .int .i64 1, .int .i64 2, .int .i64 30, .int .i64 100, .int .i64 600, .int .i64 3]), .val (.int .i64 12), .val (.int .u64 cw), .val (.agg #[.int .i64 3, .int .i64 0, .int .i64 U, .int .i64 0]), .val (.int .i64 3), .val (.int .i64 sg), .val (.int .i64 3)] (by kernel_rfl) Grown.refl Grown.trans (by kernel_rfl) (by kernel_rfl) (by kernel_rfl) ?_
                  simp only [relyAll, Act.put, List.setIfInBounds_toArray, List.set_cons_zero, List.set_cons_succ]
                  refine ⟨?_, ?_, ?_, ?_, ?_, ?_, ?_, ?_, ?_, ?_, ?_, ?_, ?_⟩
                  · intro w' hg _
                    refine Or.inl ⟨rfl, ?_⟩
                    have vv := (G1.drew.grown hg).v
                    have y0 := vv.c0
                    have y1 := vv.c1
                    have y2 := vv.c2
                    have y3 := vv.c3
                    have y4 := vv.c4
                    have y5 := vv.c5
                    have y6 := vv.c6
                    have y7 := vv.c7
                    have y8 := vv.c8
                    go_simp
                    exact ⟨Grown.refl _, rfl⟩
                  · intro w' hg _
                    refine Or.inl ⟨rfl, ?_⟩
                    go_simp
                    refine (now13 (G1.drew.grown hg).mm _ _ _ _ _ _ _ _ _ HS1.out).mono ?_
                    rintro e w'' ⟨rfl, b9⟩
                    exact ⟨_, rfl, b9, rfl⟩
                  · intro w' hg _
                    refine Or.inl ⟨rfl, ?_⟩
                    go_simp
                    exact ⟨Grown.refl _, rfl⟩
                  · intro w' hg _
                    refine Or.inl ⟨rfl, ?_⟩
                    have vv := (G1.drew.grown hg).v
                    have y0 := vv.c0
                    have y1 := vv.c1
                    have y2 := vv.c2
                    have y3 := vv.c3
                    have y4 := vv.c4
                    have y5 := vv.c5
                    have y6 := vv.c6
                    have y7 := vv.c7
                    have y8 := vv.c8
                    go_simp
                    exact ⟨Grown.refl _, rfl⟩
                  · intro w' hg _
                    refine Or.inl ⟨rfl, ?_⟩
                    go_simp
                    exact ⟨Grown.refl _, rfl⟩
                  · intro w' hg _
                    refine Or.inl ⟨rfl, ?_⟩
                    have vv := (G1.drew.grown hg).v
                    have y0 := vv.c0
                    have y1 := vv.c1
                    have y2 := vv.c2
                    have y3 := vv.c3
                    have y4 := vv.c4
                    have y5 := vv.c5
                    have y6 := vv.c6
                    have y7 := vv.c7
                    have y8 := vv.c8
                    go_simp
                    exact ⟨Grown.refl _, rfl⟩
                  · intro w' hg _
                    refine Or.inl ⟨rfl, ?_⟩
                    go_simp
                    refine (lchunk_any _ _ _ _ _ _ _ 0 _ hGd.arena (by decide) (by decide)).mono ?_
                    rintro e w'' ⟨rfl, b9⟩
                    exact ⟨_, rfl, b9, congrArg (Value.int .i64) (by omega)⟩
                  · intro w' hg _
                    refine Or.inl ⟨rfl, ?_⟩
                    go_simp
                    refine (peek_is (G1.drew.grown hg).mm 12 (show 12 < s1.n by rw [hI.len, HCw.out.n]; decide) cw (HCk.out)).mono ?_
                    rintro e w'' ⟨rfl, rfl⟩
                    exact ⟨_, rfl, Grown.refl _, rfl⟩
                  · intro w' hg _
                    refine Or.inl ⟨rfl, ?_⟩
                    go_simp
                    refine (ckc _).mono ?_
                    rintro e w'' ⟨rfl, b9⟩
                    exact ⟨_, rfl, b9, rfl⟩
                  · intro w' hg _
                    refine Or.inl ⟨rfl, ?_⟩
                    go_simp
                    exact ⟨Grown.refl _, rfl⟩
                  · intro w' hg _
                    refine Or.inl ⟨rfl, ?_⟩
                    go_simp
                    exact ⟨Grown.refl _, rfl⟩
                  · intro w' hg _
                    refine Or.inl ⟨rfl, ?_⟩
                    go_simp
                    exact ⟨Grown.refl _, rfl⟩
                  intro w3 hg _
                  have GG := G1.drew.grown hg
                  have a3 := (a1.grown ((Below.refl _ _).drew)).grown hg
                  clear hg G1 a1
                  have hl1 : arenaLen 4 1 2 30 ≤ s1.n := by rw [hI.len, HCw.out.n]; decide
                  have st := set_step GG.mm HK.out.1 a3 hGd hl1 (by decide) 0 hlo.1 HSeh.out.ok (by decide) (by rw [hlo.2]; exact HSeh.out.e1) (hI.good HSeh.out) hI.on s2 d2 ht
                  have y0 := GG.v.c0
                  have y1 := GG.v.c1
                  have y2 := GG.v.c2
                  have y3 := GG.v.c3
                  have y4 := GG.v.c4
                  have y5 := GG.v.c5
                  have y6 := GG.v.c6
                  have y7 := GG.v.c7
                  have y8 := GG.v.c8
                  have hh := se_turn 0 HSeh.out hI ht
                  clear hl1 hlo ht a3 hI
                  rcases hh with ⟨ho, I2⟩ | ⟨ho, e2⟩
                  · have st := st false ho
                    go_wp2_with (go_at_call 26; refine st.mono ?_; rintro e w4 ⟨rfl, cs2, A2⟩; have GS := GG.and A2.only A2.m HK.out.2.1 HK.out.2.2; have z0 := GS.v.c0; have z1 := GS.v.c1; have z2 := GS.v.c2; have z3 := GS.v.c3; have z4 := GS.v.c4; have z5 := GS.v.c5; have z6 := GS.v.c6; have z7 := GS.v.c7; have z8 := GS.v.c8)
                    clear st
                    cases hy : (ci == 0) with
                    | true =>
                      have hci : (ci == 0) = true := hy
                      have GG := GS
                      clear GS
                      refine wp_over (fun W => Gd w W L E 4 1 2 30 0 s2 ∧ StAt W K 0 74 cs2 0 d2) ⟨GG, A2.a⟩ ?_
                      clear GG A2 y0 y1 y2 y3 y4 y5 y6 y7 y8 z0 z1 z2 z3 z4 z5 z6 z7 z8 HCk
                      rintro W ⟨G1, a1⟩
                      refine wp_region_rely Grown [.val (.agg #[.int .i64 4, .int .i64 1, .int .i64 2, .int .i64 30, .int .i64 100, .int .i64 600, .int .i64 3, .pointer (some ⟨L.p, 0, none⟩), .int .i64 0]), .val (.int .i64 (wrap64 (sg + 1))), .val (.int .i64 sg), .val (.int .i64 (wrap64 (sg + 1))), .val (.bool false), .val (.bool false), .val (.pointer (some ⟨E, 0, none⟩)), .val (.agg #[.int .i64 4, .int .i64 1, .int .i64 2, .int .i64 30, .int .i64 100, .int .i64 600, .int .i64 3]), .val (.pointer (some ⟨E, 7, none⟩)), .val (.pointer (some ⟨L.p, 0, none⟩)), .val (.agg #[.int .i64 la, .int .i64 lw, .bool lc]), .val (.int .i64 la), .val (.int .i64 ci), .val (.bool true), .val (.bool true), .val (.int .i64 3), .val (.bool false), .val (.bool false), .val (.bool false)] (by kernel_rfl) Grown.refl Grown.trans (by kernel_rfl) (by kernel_rfl) (by kernel_rfl) ?_
                      simp only [relyAll, Act.put, List.setIfInBounds_toArray, List.set_cons_zero, List.set_cons_succ]
                      refine ⟨?_, ?_, ?_, ?_, ?_, ?_, ?_, ?_, ?_, ?_, ?_, ?_, ?_, ?_, ?_, ?_, ?_, ?_, ?_, ?_⟩
                      · intro w' hg _
                        refine Or.inl ⟨rfl, ?_⟩
                        have vv := (G1.drew.grown hg).v
                        have y0 := vv.c0
                        have y1 := vv.c1
                        have y2 := vv.c2
                        have y3 := vv.c3
                        have y4 := vv.c4
                        have y5 := vv.c5
                        have y6 := vv.c6
                        have y7 := vv.c7
                        have y8 := vv.c8
                        go_simp
                        exact ⟨Grown.refl _, rfl⟩
                      · intro w' hg _
                        refine Or.inl ⟨rfl, ?_⟩
                        go_simp
                        refine (now13 (G1.drew.grown hg).mm _ _ _ _ _ _ _ _ _ HSt.out).mono ?_
                        rintro e w'' ⟨rfl, b9⟩
                        exact ⟨_, rfl, b9, rfl⟩
                      · intro w' hg _
                        refine Or.inl ⟨rfl, ?_⟩
                        go_simp
                        exact ⟨Grown.refl _, rfl⟩
                      · intro w' hg _
                        refine Or.inl ⟨rfl, ?_⟩
                        go_simp
                        exact ⟨Grown.refl _, congrArg (Value.int .i64) (wrapEq _)⟩
                      · intro w' hg _
                        refine Or.inl ⟨rfl, ?_⟩
                        go_simp
                        exact ⟨Grown.refl _, rfl⟩
                      · intro w' hg _
                        refine Or.inl ⟨rfl, ?_⟩
                        go_simp
                        exact ⟨Grown.refl _, rfl⟩
                      · intro w' hg _
                        refine Or.inl ⟨rfl, ?_⟩
                        go_simp
                        exact ⟨Grown.refl _, rfl⟩
                      · intro w' hg _
                        refine Or.inl ⟨rfl, ?_⟩
                        have vv := (G1.drew.grown hg).v
                        have y0 := vv.c0
                        have y1 := vv.c1
                        have y2 := vv.c2
                        have y3 := vv.c3
                        have y4 := vv.c4
                        have y5 := vv.c5
                        have y6 := vv.c6
                        have y7 := vv.c7
                        have y8 := vv.c8
                        go_simp
                        exact ⟨Grown.refl _, rfl⟩
                      · intro w' hg _
                        refine Or.inl ⟨rfl, ?_⟩
                        go_simp
                        exact ⟨Grown.refl _, rfl⟩
                      · intro w' hg _
                        refine Or.inl ⟨rfl, ?_⟩
                        have vv := (G1.drew.grown hg).v
                        have y0 := vv.c0
                        have y1 := vv.c1
                        have y2 := vv.c2
                        have y3 := vv.c3
                        have y4 := vv.c4
                        have y5 := vv.c5
                        have y6 := vv.c6
                        have y7 := vv.c7
                        have y8 := vv.c8
                        go_simp
                        exact ⟨Grown.refl _, rfl⟩
                      · intro w' hg _
                        refine Or.inl ⟨rfl, ?_⟩
                        go_simp
                        refine (last13 (G1.drew.grown hg).mm la lw lc HLa.out HLw.out HLc.out).mono ?_
                        rintro e w'' ⟨rfl, b9⟩
                        exact ⟨_, rfl, b9, rfl⟩
                      · intro w' hg _
                        refine Or.inl ⟨rfl, ?_⟩
                        go_simp
                        exact ⟨Grown.refl _, rfl⟩
                      · intro w' hg _
                        refine Or.inl ⟨rfl, ?_⟩
                        go_simp
                        refine (HOf.out _).mono ?_
                        rintro e w'' ⟨rfl, b9⟩
                        exact ⟨_, rfl, b9, rfl⟩
                      · intro w' hg _
                        refine Or.inl ⟨rfl, ?_⟩
                        have z := hci
                        go_simp
                        exact ⟨Grown.refl _, rfl⟩
                      · intro w' hg _
                        refine Or.inl ⟨rfl, ?_⟩
                        go_simp
                        exact ⟨Grown.refl _, rfl⟩
                      · intro w' hg _
                        refine Or.inl ⟨rfl, ?_⟩
                        go_simp
                        exact ⟨Grown.refl _, rfl⟩
                      · intro w' hg _
                        refine Or.inl ⟨rfl, ?_⟩
                        go_simp
                        exact ⟨Grown.refl _, rfl⟩
                      · intro w' hg _
                        refine Or.inl ⟨rfl, ?_⟩
                        go_simp
                        exact ⟨Grown.refl _, rfl⟩
                      · intro w' hg _
                        refine Or.inl ⟨rfl, ?_⟩
                        go_simp
                        exact ⟨Grown.refl _, rfl⟩
                      intro w7 hg _
                      have GG := G1.drew.grown hg
                      have aa := (a1.grown ((Below.refl _ _).drew)).grown hg
                      clear hg G1 a1 HOf hci HLa HLw HLc HSt
                      go_wp2
                      go_roundw
                      case rel => exact ⟨j + 1, s2, d2, cs2, by go_num, I2, GG, aa⟩
                      case measure => simp [intOf]; omega
                    | false =>
                      have hci : (ci == 0) = false := hy
                      have GG := GS
                      clear GS
                      refine wp_over (fun W => Gd w W L E 4 1 2 30 0 s2 ∧ StAt W K 0 74 cs2 0 d2) ⟨GG, A2.a⟩ ?_
                      clear GG A2 y0 y1 y2 y3 y4 y5 y6 y7 y8 z0 z1 z2 z3 z4 z5 z6 z7 z8 HCk
                      rintro W ⟨G1, a1⟩
                      refine wp_region_rely Grown [.val (.agg #[.int .i64 4, .int .i64 1, .int .i64 2, .int .i64 30, .int .i64 100, .int .i64 600, .int .i64 3, .pointer (some ⟨L.p, 0, none⟩), .int .i64 0]), .val (.int .i64 (wrap64 (sg + 1))), .val (.int .i64 sg), .val (.int .i64 (wrap64 (sg + 1))), .val (.bool false), .val (.bool false), .val (.pointer (some ⟨E, 0, none⟩)), .val (.agg #[.int .i64 4, .int .i64 1, .int .i64 2, .int .i64 30, .int .i64 100, .int .i64 600, .int .i64 3]), .val (.pointer (some ⟨E, 7, none⟩)), .val (.pointer (some ⟨L.p, 0, none⟩)), .val (.agg #[.int .i64 la, .int .i64 lw, .bool lc]), .val (.int .i64 la), .val (.int .i64 ci), .val (.bool false), .val (.bool false), .val undef, .val undef, .val (.bool false), .val (.bool false)] (by kernel_rfl) Grown.refl Grown.trans (by kernel_rfl) (by kernel_rfl) (by kernel_rfl) ?_
                      simp only [relyAll, Act.put, List.setIfInBounds_toArray, List.set_cons_zero, List.set_cons_succ]
                      refine ⟨?_, ?_, ?_, ?_, ?_, ?_, ?_, ?_, ?_, ?_, ?_, ?_, ?_, ?_, ?_, ?_, ?_, ?_, ?_, ?_⟩
                      · intro w' hg _
                        refine Or.inl ⟨rfl, ?_⟩
                        have vv := (G1.drew.grown hg).v
                        have y0 := vv.c0
                        have y1 := vv.c1
                        have y2 := vv.c2
                        have y3 := vv.c3
                        have y4 := vv.c4
                        have y5 := vv.c5
                        have y6 := vv.c6
                        have y7 := vv.c7
                        have y8 := vv.c8
                        go_simp
                        exact ⟨Grown.refl _, rfl⟩
                      · intro w' hg _
                        refine Or.inl ⟨rfl, ?_⟩
                        go_simp
                        refine (now13 (G1.drew.grown hg).mm _ _ _ _ _ _ _ _ _ HSt.out).mono ?_
                        rintro e w'' ⟨rfl, b9⟩
                        exact ⟨_, rfl, b9, rfl⟩
                      · intro w' hg _
                        refine Or.inl ⟨rfl, ?_⟩
                        go_simp
                        exact ⟨Grown.refl _, rfl⟩
                      · intro w' hg _
                        refine Or.inl ⟨rfl, ?_⟩
                        go_simp
                        exact ⟨Grown.refl _, congrArg (Value.int .i64) (wrapEq _)⟩
                      · intro w' hg _
                        refine Or.inl ⟨rfl, ?_⟩
                        go_simp
                        exact ⟨Grown.refl _, rfl⟩
                      · intro w' hg _
                        refine Or.inl ⟨rfl, ?_⟩
                        go_simp
                        exact ⟨Grown.refl _, rfl⟩
                      · intro w' hg _
                        refine Or.inl ⟨rfl, ?_⟩
                        go_simp
                        exact ⟨Grown.refl _, rfl⟩
                      · intro w' hg _
                        refine Or.inl ⟨rfl, ?_⟩
                        have vv := (G1.drew.grown hg).v
                        have y0 := vv.c0
                        have y1 := vv.c1
                        have y2 := vv.c2
                        have y3 := vv.c3
                        have y4 := vv.c4
                        have y5 := vv.c5
                        have y6 := vv.c6
                        have y7 := vv.c7
                        have y8 := vv.c8
                        go_simp
                        exact ⟨Grown.refl _, rfl⟩
                      · intro w' hg _
                        refine Or.inl ⟨rfl, ?_⟩
                        go_simp
                        exact ⟨Grown.refl _, rfl⟩
                      · intro w' hg _
                        refine Or.inl ⟨rfl, ?_⟩
                        have vv := (G1.drew.grown hg).v
                        have y0 := vv.c0
                        have y1 := vv.c1
                        have y2 := vv.c2
                        have y3 := vv.c3
                        have y4 := vv.c4
                        have y5 := vv.c5
                        have y6 := vv.c6
                        have y7 := vv.c7
                        have y8 := vv.c8
                        go_simp
                        exact ⟨Grown.refl _, rfl⟩
                      · intro w' hg _
                        refine Or.inl ⟨rfl, ?_⟩
                        go_simp
                        refine (last13 (G1.drew.grown hg).mm la lw lc HLa.out HLw.out HLc.out).mono ?_
                        rintro e w'' ⟨rfl, b9⟩
                        exact ⟨_, rfl, b9, rfl⟩
                      · intro w' hg _
                        refine Or.inl ⟨rfl, ?_⟩
                        go_simp
                        exact ⟨Grown.refl _, rfl⟩
                      · intro w' hg _
                        refine Or.inl ⟨rfl, ?_⟩
                        go_simp
                        refine (HOf.out _).mono ?_
                        rintro e w'' ⟨rfl, b9⟩
                        exact ⟨_, rfl, b9, rfl⟩
                      · intro w' hg _
                        refine Or.inl ⟨rfl, ?_⟩
                        have z := hci
                        go_simp
                        exact ⟨Grown.refl _, rfl⟩
                      · intro w' hg _
                        refine Or.inl ⟨rfl, ?_⟩
                        go_simp
                        exact ⟨Grown.refl _, rfl⟩
                      · intro w' hg _
                        exact Or.inr ⟨rfl, rfl⟩
                      · intro w' hg _
                        exact Or.inr ⟨rfl, rfl⟩
                      · intro w' hg _
                        refine Or.inl ⟨rfl, ?_⟩
                        go_simp
                        exact ⟨Grown.refl _, rfl⟩
                      · intro w' hg _
                        refine Or.inl ⟨rfl, ?_⟩
                        go_simp
                        exact ⟨Grown.refl _, rfl⟩
                      intro w7 hg _
                      have GG := G1.drew.grown hg
                      have aa := (a1.grown ((Below.refl _ _).drew)).grown hg
                      clear hg G1 a1 HOf hci HLa HLw HLc HSt
                      go_wp2
                      go_roundw
                      case rel => exact ⟨j + 1, s2, d2, cs2, by go_num, I2, GG, aa⟩
                      case measure => simp [intOf]; omega
                  · have st := st true ho
                    have hfr : d2.freed = true := by
                      cases hf : d2.freed with
                      | true => rfl
                      | false => exact absurd HCw.out.ripe (e2.no hf).1
                    clear e2
                    go_wp2_with (go_at_call 26; refine st.mono ?_; rintro e w4 ⟨rfl, cs2, A2⟩; have GS := GG.and A2.only A2.m HK.out.2.1 HK.out.2.2; have z0 := GS.v.c0; have z1 := GS.v.c1; have z2 := GS.v.c2; have z3 := GS.v.c3; have z4 := GS.v.c4; have z5 := GS.v.c5; have z6 := GS.v.c6; have z7 := GS.v.c7; have z8 := GS.v.c8)
                    clear st
                    cases hy : (ci == 0) with
                    | true =>
                      have hci : (ci == 0) = true := hy
                      have GG := GS
                      clear GS
                      refine wp_over (fun W => Gd w W L E 4 1 2 30 0 s2 ∧ StAt W K 0 74 cs2 0 d2) ⟨GG, A2.a⟩ ?_
                      clear GG A2 y0 y1 y2 y3 y4 y5 y6 y7 y8 z0 z1 z2 z3 z4 z5 z6 z7 z8 HCk
                      rintro W ⟨G1, a1⟩
                      refine wp_region_rely Grown [.val (.agg #[.int .i64 4, .int .i64 1, .int .i64 2, .int .i64 30, .int .i64 100, .int .i64 600, .int .i64 3, .pointer (some ⟨L.p, 0, none⟩), .int .i64 0]), .val (.int .i64 (wrap64 (sg + 1))), .val (.int .i64 sg), .val (.int .i64 (wrap64 (sg + 1))), .val (.bool false), .val (.bool false), .val (.pointer (some ⟨E, 0, none⟩)), .val (.agg #[.int .i64 4, .int .i64 1, .int .i64 2, .int .i64 30, .int .i64 100, .int .i64 600, .int .i64 3]), .val (.pointer (some ⟨E, 7, none⟩)), .val (.pointer (some ⟨L.p, 0, none⟩)), .val (.agg #[.int .i64 la, .int .i64 lw, .bool lc]), .val (.int .i64 la), .val (.int .i64 ci), .val (.bool true), .val (.bool true), .val (.int .i64 3), .val (.bool false), .val (.bool false), .val (.bool false)] (by kernel_rfl) Grown.refl Grown.trans (by kernel_rfl) (by kernel_rfl) (by kernel_rfl) ?_
                      simp only [relyAll, Act.put, List.setIfInBounds_toArray, List.set_cons_zero, List.set_cons_succ]
                      refine ⟨?_, ?_, ?_, ?_, ?_, ?_, ?_, ?_, ?_, ?_, ?_, ?_, ?_, ?_, ?_, ?_, ?_, ?_, ?_, ?_⟩
                      · intro w' hg _
                        refine Or.inl ⟨rfl, ?_⟩
                        have vv := (G1.drew.grown hg).v
                        have y0 := vv.c0
                        have y1 := vv.c1
                        have y2 := vv.c2
                        have y3 := vv.c3
                        have y4 := vv.c4
                        have y5 := vv.c5
                        have y6 := vv.c6
                        have y7 := vv.c7
                        have y8 := vv.c8
                        go_simp
                        exact ⟨Grown.refl _, rfl⟩
                      · intro w' hg _
                        refine Or.inl ⟨rfl, ?_⟩
                        go_simp
                        refine (now13 (G1.drew.grown hg).mm _ _ _ _ _ _ _ _ _ HSt.out).mono ?_
                        rintro e w'' ⟨rfl, b9⟩
                        exact ⟨_, rfl, b9, rfl⟩
                      · intro w' hg _
                        refine Or.inl ⟨rfl, ?_⟩
                        go_simp
                        exact ⟨Grown.refl _, rfl⟩
                      · intro w' hg _
                        refine Or.inl ⟨rfl, ?_⟩
                        go_simp
                        exact ⟨Grown.refl _, congrArg (Value.int .i64) (wrapEq _)⟩
                      · intro w' hg _
                        refine Or.inl ⟨rfl, ?_⟩
                        go_simp
                        exact ⟨Grown.refl _, rfl⟩
                      · intro w' hg _
                        refine Or.inl ⟨rfl, ?_⟩
                        go_simp
                        exact ⟨Grown.refl _, rfl⟩
                      · intro w' hg _
                        refine Or.inl ⟨rfl, ?_⟩
                        go_simp
                        exact ⟨Grown.refl _, rfl⟩
                      · intro w' hg _
                        refine Or.inl ⟨rfl, ?_⟩
                        have vv := (G1.drew.grown hg).v
                        have y0 := vv.c0
                        have y1 := vv.c1
                        have y2 := vv.c2
                        have y3 := vv.c3
                        have y4 := vv.c4
                        have y5 := vv.c5
                        have y6 := vv.c6
                        have y7 := vv.c7
                        have y8 := vv.c8
                        go_simp
                        exact ⟨Grown.refl _, rfl⟩
                      · intro w' hg _
                        refine Or.inl ⟨rfl, ?_⟩
                        go_simp
                        exact ⟨Grown.refl _, rfl⟩
                      · intro w' hg _
                        refine Or.inl ⟨rfl, ?_⟩
                        have vv := (G1.drew.grown hg).v
                        have y0 := vv.c0
                        have y1 := vv.c1
                        have y2 := vv.c2
                        have y3 := vv.c3
                        have y4 := vv.c4
                        have y5 := vv.c5
                        have y6 := vv.c6
                        have y7 := vv.c7
                        have y8 := vv.c8
                        go_simp
                        exact ⟨Grown.refl _, rfl⟩
                      · intro w' hg _
                        refine Or.inl ⟨rfl, ?_⟩
                        go_simp
                        refine (last13 (G1.drew.grown hg).mm la lw lc HLa.out HLw.out HLc.out).mono ?_
                        rintro e w'' ⟨rfl, b9⟩
                        exact ⟨_, rfl, b9, rfl⟩
                      · intro w' hg _
                        refine Or.inl ⟨rfl, ?_⟩
                        go_simp
                        exact ⟨Grown.refl _, rfl⟩
                      · intro w' hg _
                        refine Or.inl ⟨rfl, ?_⟩
                        go_simp
                        refine (HOf.out _).mono ?_
                        rintro e w'' ⟨rfl, b9⟩
                        exact ⟨_, rfl, b9, rfl⟩
                      · intro w' hg _
                        refine Or.inl ⟨rfl, ?_⟩
                        have z := hci
                        go_simp
                        exact ⟨Grown.refl _, rfl⟩
                      · intro w' hg _
                        refine Or.inl ⟨rfl, ?_⟩
                        go_simp
                        exact ⟨Grown.refl _, rfl⟩
                      · intro w' hg _
                        refine Or.inl ⟨rfl, ?_⟩
                        go_simp
                        exact ⟨Grown.refl _, rfl⟩
                      · intro w' hg _
                        refine Or.inl ⟨rfl, ?_⟩
                        go_simp
                        exact ⟨Grown.refl _, rfl⟩
                      · intro w' hg _
                        refine Or.inl ⟨rfl, ?_⟩
                        go_simp
                        exact ⟨Grown.refl _, rfl⟩
                      · intro w' hg _
                        refine Or.inl ⟨rfl, ?_⟩
                        go_simp
                        exact ⟨Grown.refl _, rfl⟩
                      intro w7 hg _
                      have GG := G1.drew.grown hg
                      have aa := (a1.grown ((Below.refl _ _).drew)).grown hg
                      clear hg G1 a1 HOf hci HLa HLw HLc HSt
                      go_wp2_with (first
                        | (go_at_call_of 28 (Value.pointer (some ({ block := K, off := 0, spot := none } : Addr))); refine (freed_at aa ho).mono ?_; rintro e w8 ⟨rfl, rfl⟩; rw [hfr])
                        | (go_at_call 29; refine (went_nil _).mono ?_; rintro e w8 ⟨rfl, rfl⟩)
                        | (go_at_call 28; refine (freed_nil _).mono ?_; rintro e w8 ⟨rfl, rfl⟩))
                      go_ret
                      exact ⟨rfl, GG.b⟩
                    | false =>
                      have hci : (ci == 0) = false := hy
                      have GG := GS
                      clear GS
                      refine wp_over (fun W => Gd w W L E 4 1 2 30 0 s2 ∧ StAt W K 0 74 cs2 0 d2) ⟨GG, A2.a⟩ ?_
                      clear GG A2 y0 y1 y2 y3 y4 y5 y6 y7 y8 z0 z1 z2 z3 z4 z5 z6 z7 z8 HCk
                      rintro W ⟨G1, a1⟩
                      refine wp_region_rely Grown [.val (.agg #[.int .i64 4, .int .i64 1, .int .i64 2, .int .i64 30, .int .i64 100, .int .i64 600, .int .i64 3, .pointer (some ⟨L.p, 0, none⟩), .int .i64 0]), .val (.int .i64 (wrap64 (sg + 1))), .val (.int .i64 sg), .val (.int .i64 (wrap64 (sg + 1))), .val (.bool false), .val (.bool false), .val (.pointer (some ⟨E, 0, none⟩)), .val (.agg #[.int .i64 4, .int .i64 1, .int .i64 2, .int .i64 30, .int .i64 100, .int .i64 600, .int .i64 3]), .val (.pointer (some ⟨E, 7, none⟩)), .val (.pointer (some ⟨L.p, 0, none⟩)), .val (.agg #[.int .i64 la, .int .i64 lw, .bool lc]), .val (.int .i64 la), .val (.int .i64 ci), .val (.bool false), .val (.bool false), .val undef, .val undef, .val (.bool false), .val (.bool false)] (by kernel_rfl) Grown.refl Grown.trans (by kernel_rfl) (by kernel_rfl) (by kernel_rfl) ?_
                      simp only [relyAll, Act.put, List.setIfInBounds_toArray, List.set_cons_zero, List.set_cons_succ]
                      refine ⟨?_, ?_, ?_, ?_, ?_, ?_, ?_, ?_, ?_, ?_, ?_, ?_, ?_, ?_, ?_, ?_, ?_, ?_, ?_, ?_⟩
                      · intro w' hg _
                        refine Or.inl ⟨rfl, ?_⟩
                        have vv := (G1.drew.grown hg).v
                        have y0 := vv.c0
                        have y1 := vv.c1
                        have y2 := vv.c2
                        have y3 := vv.c3
                        have y4 := vv.c4
                        have y5 := vv.c5
                        have y6 := vv.c6
                        have y7 := vv.c7
                        have y8 := vv.c8
                        go_simp
                        exact ⟨Grown.refl _, rfl⟩
                      · intro w' hg _
                        refine Or.inl ⟨rfl, ?_⟩
                        go_simp
                        refine (now13 (G1.drew.grown hg).mm _ _ _ _ _ _ _ _ _ HSt.out).mono ?_
                        rintro e w'' ⟨rfl, b9⟩
                        exact ⟨_, rfl, b9, rfl⟩
                      · intro w' hg _
                        refine Or.inl ⟨rfl, ?_⟩
                        go_simp
                        exact ⟨Grown.refl _, rfl⟩
                      · intro w' hg _
                        refine Or.inl ⟨rfl, ?_⟩
                        go_simp
                        exact ⟨Grown.refl _, congrArg (Value.int .i64) (wrapEq _)⟩
                      · intro w' hg _
                        refine Or.inl ⟨rfl, ?_⟩
                        go_simp
                        exact ⟨Grown.refl _, rfl⟩
                      · intro w' hg _
                        refine Or.inl ⟨rfl, ?_⟩
                        go_simp
                        exact ⟨Grown.refl _, rfl⟩
                      · intro w' hg _
                        refine Or.inl ⟨rfl, ?_⟩
                        go_simp
                        exact ⟨Grown.refl _, rfl⟩
                      · intro w' hg _
                        refine Or.inl ⟨rfl, ?_⟩
                        have vv := (G1.drew.grown hg).v
                        have y0 := vv.c0
                        have y1 := vv.c1
                        have y2 := vv.c2
                        have y3 := vv.c3
                        have y4 := vv.c4
                        have y5 := vv.c5
                        have y6 := vv.c6
                        have y7 := vv.c7
                        have y8 := vv.c8
                        go_simp
                        exact ⟨Grown.refl _, rfl⟩
                      · intro w' hg _
                        refine Or.inl ⟨rfl, ?_⟩
                        go_simp
                        exact ⟨Grown.refl _, rfl⟩
                      · intro w' hg _
                        refine Or.inl ⟨rfl, ?_⟩
                        have vv := (G1.drew.grown hg).v
                        have y0 := vv.c0
                        have y1 := vv.c1
                        have y2 := vv.c2
                        have y3 := vv.c3
                        have y4 := vv.c4
                        have y5 := vv.c5
                        have y6 := vv.c6
                        have y7 := vv.c7
                        have y8 := vv.c8
                        go_simp
                        exact ⟨Grown.refl _, rfl⟩
                      · intro w' hg _
                        refine Or.inl ⟨rfl, ?_⟩
                        go_simp
                        refine (last13 (G1.drew.grown hg).mm la lw lc HLa.out HLw.out HLc.out).mono ?_
                        rintro e w'' ⟨rfl, b9⟩
                        exact ⟨_, rfl, b9, rfl⟩
                      · intro w' hg _
                        refine Or.inl ⟨rfl, ?_⟩
                        go_simp
                        exact ⟨Grown.refl _, rfl⟩
                      · intro w' hg _
                        refine Or.inl ⟨rfl, ?_⟩
                        go_simp
                        refine (HOf.out _).mono ?_
                        rintro e w'' ⟨rfl, b9⟩
                        exact ⟨_, rfl, b9, rfl⟩
                      · intro w' hg _
                        refine Or.inl ⟨rfl, ?_⟩
                        have z := hci
                        go_simp
                        exact ⟨Grown.refl _, rfl⟩
                      · intro w' hg _
                        refine Or.inl ⟨rfl, ?_⟩
                        go_simp
                        exact ⟨Grown.refl _, rfl⟩
                      · intro w' hg _
                        exact Or.inr ⟨rfl, rfl⟩
                      · intro w' hg _
                        exact Or.inr ⟨rfl, rfl⟩
                      · intro w' hg _
                        refine Or.inl ⟨rfl, ?_⟩
                        go_simp
                        exact ⟨Grown.refl _, rfl⟩
                      · intro w' hg _
                        refine Or.inl ⟨rfl, ?_⟩
                        go_simp
                        exact ⟨Grown.refl _, rfl⟩
                      intro w7 hg _
                      have GG := G1.drew.grown hg
                      have aa := (a1.grown ((Below.refl _ _).drew)).grown hg
                      clear hg G1 a1 HOf hci HLa HLw HLc HSt
                      go_wp2_with (first
                        | (go_at_call_of 28 (Value.pointer (some ({ block := K, off := 0, spot := none } : Addr))); refine (freed_at aa ho).mono ?_; rintro e w8 ⟨rfl, rfl⟩; rw [hfr])
                        | (go_at_call 29; refine (went_nil _).mono ?_; rintro e w8 ⟨rfl, rfl⟩)
                        | (go_at_call 28; refine (freed_nil _).mono ?_; rintro e w8 ⟨rfl, rfl⟩))
                      go_ret
                      exact ⟨rfl, GG.b⟩
      · have a2 := adv0_at wr
        have GG2 := GG.grown (gro1 _ adv0)
        have HK : Hid (¬ L.has wr.heap.size ∧ E ≠ wr.heap.size ∧ w.heap.size ≤ wr.heap.size) := ⟨fun hh => by have := GG.mm.lt _ hh; omega, (fun e => by have := GG.lt; omega), GG.b.size⟩
        unfold adv0 at a2 GG2
        obtain ⟨s0, hs0⟩ : ∃ s0, s1 = s0 := ⟨_, rfl⟩
        rw [hs0] at HT GG2
        clear hs0 GG y0 y1 y2 y3 y4 y5 y6 y7 y8
        go_wp2
        obtain ⟨Kb, hKb⟩ : ∃ K, wr.heap.size = K := ⟨_, rfl⟩
        rw [hKb] at a2 HK
        try rw [hKb]
        have A2 : Hid (∃ cs, Gd w (wr.alloc (.cells #[.bool false, .int .u64 0, .int .i64 0, .bool false, .bool false] 54)) L E 4 1 2 30 0 s0 ∧ AdAt (wr.alloc (.cells #[.bool false, .int .u64 0, .int .i64 0, .bool false, .bool false] 54)) Kb 0 54 cs .first) := by
          obtain ⟨cs, q⟩ := a2
          exact ⟨cs, GG2, q⟩
        clear a2 GG2 hKb
        go_loopw [9] (fun i wr => ∃ (j : Nat) (s' : Mm) (d : Ad) (cs : Array Value), i = .int .i64 j ∧ AdI 4 s0 s' j d ∧ Gd w wr L E 4 1 2 30 0 s' ∧ AdAt wr Kb 0 54 cs d) (fun i _ => 20 - (intOf i).toNat)
        case atStart =>
          obtain ⟨cs, h1, h2⟩ := A2.out
          exact ⟨0, s0, .first, cs, rfl, ⟨rfl, rfl, rfl⟩, h1, h2⟩
        case round =>
          clear A2
          obtain ⟨j, s1, d, cs, rfl, hI, GG, a0⟩ := hrel
          have hjle := hI.le
          have hj6 : (j : Int) < 20 := by omega
          obtain ⟨sg, hsg⟩ : ∃ x, s1.steps = x := ⟨_, rfl⟩
          have HS1 : Hid (s1.steps = sg) := hsg
          obtain ⟨s2, d2, ht⟩ : ∃ s2 d2, adTurn 4 0 s1 d = (s2, d2) := ⟨_, _, rfl⟩
          have told := ad_told hI.on ht
          rw [hsg] at told
          have HSt : Hid (s2.steps = wrap64 (sg + 1)) := told.1
          obtain ⟨la, hla⟩ : ∃ x, s2.la = x := ⟨_, rfl⟩
          obtain ⟨lw, hlw⟩ : ∃ x, s2.lw = x := ⟨_, rfl⟩
          have HLw : Hid (s2.lw = lw) := hlw
          have hT2 := told.2
          have hl1 : Hid (arenaLen 4 1 2 30 ≤ s1.n) := by unfold Hid; rw [hI.n, HT.out.n]; decide
          have HOn : Hid (d.over? = false) := hI.on
          have stp : ∀ W, Gd w W L E 4 1 2 30 0 s1 → AdAt W Kb 0 54 cs d → ∀ x, d2.over? = x → Calls Try.prog 22 #[.pointer (some ⟨Kb, 0, none⟩), .agg #[.int .i64 ((4 : Nat) : Int), .int .i64 ((1 : Nat) : Int), .int .i64 ((2 : Nat) : Int), .int .i64 ((30 : Nat) : Int), .int .i64 100, .int .i64 600, .int .i64 3, .pointer (some ⟨L.p, 0, none⟩), .int .i64 0]] W fun e w' => e = .returned (.bool x) ∧ ∃ cs', Adv L Kb 0 54 cs W w' s2 d2 cs' := fun W gW aW x hx =>
            adv_step gW.mm HK.out.1 aW hGd hl1.out 0 HOn.out s2 d2 ht x hx
          have hh := ad_turn 0 hI ht
          clear told hsg hlw hI ht
          have y0 := GG.v.c0
          have y1 := GG.v.c1
          have y2 := GG.v.c2
          have y3 := GG.v.c3
          have y4 := GG.v.c4
          have y5 := GG.v.c5
          have y6 := GG.v.c6
          have y7 := GG.v.c7
          have y8 := GG.v.c8
          rcases hh with ⟨ho, I2⟩ | ⟨ho, e2⟩
          · rcases hT2 with hc | ⟨hc, ha⟩
            · have HLa : Hid (s2.la = la) := hla
              have HLc : Hid (s2.lc = false) := hc
              clear hla hc
              go_wp2_with (first
                | (go_at_call 21; refine (now13 (by first | exact GS.mm | exact GG.mm) _ _ _ _ _ _ _ _ _ (by first | exact HSt.out | exact HS1.out)).mono ?_; rintro e w8 ⟨rfl, b8⟩; first | (have GS := GS.grown b8; have aa := aa.grown b8; have z0 := GS.v.c0; have z1 := GS.v.c1; have z2 := GS.v.c2; have z3 := GS.v.c3; have z4 := GS.v.c4; have z5 := GS.v.c5; have z6 := GS.v.c6; have z7 := GS.v.c7; have z8 := GS.v.c8) | (have GG := GG.grown b8; have a0 := a0.grown b8; have y0 := GG.v.c0; have y1 := GG.v.c1; have y2 := GG.v.c2; have y3 := GG.v.c3; have y4 := GG.v.c4; have y5 := GG.v.c5; have y6 := GG.v.c6; have y7 := GG.v.c7; have y8 := GG.v.c8))
                | (go_at_call 22; refine (stp _ GG a0 false ho).mono ?_; rintro e w4 ⟨rfl, cs2, A2⟩; have GS := GG.and A2.only A2.m HK.out.2.1 HK.out.2.2; have aa := A2.a; have z0 := GS.v.c0; have z1 := GS.v.c1; have z2 := GS.v.c2; have z3 := GS.v.c3; have z4 := GS.v.c4; have z5 := GS.v.c5; have z6 := GS.v.c6; have z7 := GS.v.c7; have z8 := GS.v.c8)
                | (go_at_call 23; refine (last13 GS.mm la lw false HLa.out HLw.out HLc.out).mono ?_; rintro e w9 ⟨rfl, b9⟩; have GS := GS.grown b9; have aa := aa.grown b9; have z0 := GS.v.c0; have z1 := GS.v.c1; have z2 := GS.v.c2; have z3 := GS.v.c3; have z4 := GS.v.c4; have z5 := GS.v.c5; have z6 := GS.v.c6; have z7 := GS.v.c7; have z8 := GS.v.c8)
                | (go_at_call 11; refine (lepoch_any _).mono ?_; rintro e w7 ⟨rfl, rfl⟩))
              go_roundw
              case rel => exact ⟨j + 1, s2, d2, cs2, by go_num, I2, GS, aa⟩
              case measure => simp [intOf]; omega
            · have HLa : Hid (s2.la = 0) := ha
              have HLc : Hid (s2.lc = true) := hc
              clear hla hc ha
              go_wp2_with (first
                | (go_at_call 21; refine (now13 (by first | exact GS.mm | exact GG.mm) _ _ _ _ _ _ _ _ _ (by first | exact HSt.out | exact HS1.out)).mono ?_; rintro e w8 ⟨rfl, b8⟩; first | (have GS := GS.grown b8; have aa := aa.grown b8; have z0 := GS.v.c0; have z1 := GS.v.c1; have z2 := GS.v.c2; have z3 := GS.v.c3; have z4 := GS.v.c4; have z5 := GS.v.c5; have z6 := GS.v.c6; have z7 := GS.v.c7; have z8 := GS.v.c8) | (have GG := GG.grown b8; have a0 := a0.grown b8; have y0 := GG.v.c0; have y1 := GG.v.c1; have y2 := GG.v.c2; have y3 := GG.v.c3; have y4 := GG.v.c4; have y5 := GG.v.c5; have y6 := GG.v.c6; have y7 := GG.v.c7; have y8 := GG.v.c8))
                | (go_at_call 22; refine (stp _ GG a0 false ho).mono ?_; rintro e w4 ⟨rfl, cs2, A2⟩; have GS := GG.and A2.only A2.m HK.out.2.1 HK.out.2.2; have aa := A2.a; have z0 := GS.v.c0; have z1 := GS.v.c1; have z2 := GS.v.c2; have z3 := GS.v.c3; have z4 := GS.v.c4; have z5 := GS.v.c5; have z6 := GS.v.c6; have z7 := GS.v.c7; have z8 := GS.v.c8)
                | (go_at_call 23; refine (last13 GS.mm 0 lw true HLa.out HLw.out HLc.out).mono ?_; rintro e w9 ⟨rfl, b9⟩; have GS := GS.grown b9; have aa := aa.grown b9; have z0 := GS.v.c0; have z1 := GS.v.c1; have z2 := GS.v.c2; have z3 := GS.v.c3; have z4 := GS.v.c4; have z5 := GS.v.c5; have z6 := GS.v.c6; have z7 := GS.v.c7; have z8 := GS.v.c8)
                | (go_at_call 11; refine (lepoch_any _).mono ?_; rintro e w7 ⟨rfl, rfl⟩))
              go_roundw
              case rel => exact ⟨j + 1, s2, d2, cs2, by go_num, I2, GS, aa⟩
              case measure => simp [intOf]; omega
          · rcases hT2 with hc | ⟨hc, ha⟩
            · have HLa : Hid (s2.la = la) := hla
              have HLc : Hid (s2.lc = false) := hc
              clear hla hc
              as_aux_lemma =>
                go_wp2_with (first
                  | (go_at_call 21; refine (now13 (by first | exact GS.mm | exact GG.mm) _ _ _ _ _ _ _ _ _ (by first | exact HSt.out | exact HS1.out)).mono ?_; rintro e w8 ⟨rfl, b8⟩; first | (have GS := GS.grown b8; have aa := aa.grown b8; have z0 := GS.v.c0; have z1 := GS.v.c1; have z2 := GS.v.c2; have z3 := GS.v.c3; have z4 := GS.v.c4; have z5 := GS.v.c5; have z6 := GS.v.c6; have z7 := GS.v.c7; have z8 := GS.v.c8) | (have GG := GG.grown b8; have a0 := a0.grown b8; have y0 := GG.v.c0; have y1 := GG.v.c1; have y2 := GG.v.c2; have y3 := GG.v.c3; have y4 := GG.v.c4; have y5 := GG.v.c5; have y6 := GG.v.c6; have y7 := GG.v.c7; have y8 := GG.v.c8))
                  | (go_at_call 22; refine (stp _ GG a0 true ho).mono ?_; rintro e w4 ⟨rfl, cs2, A2⟩; have GS := GG.and A2.only A2.m HK.out.2.1 HK.out.2.2; have aa := A2.a; have z0 := GS.v.c0; have z1 := GS.v.c1; have z2 := GS.v.c2; have z3 := GS.v.c3; have z4 := GS.v.c4; have z5 := GS.v.c5; have z6 := GS.v.c6; have z7 := GS.v.c7; have z8 := GS.v.c8)
                  | (go_at_call 23; refine (last13 GS.mm la lw false HLa.out HLw.out HLc.out).mono ?_; rintro e w9 ⟨rfl, b9⟩; have GS := GS.grown b9; have aa := aa.grown b9; have z0 := GS.v.c0; have z1 := GS.v.c1; have z2 := GS.v.c2; have z3 := GS.v.c3; have z4 := GS.v.c4; have z5 := GS.v.c5; have z6 := GS.v.c6; have z7 := GS.v.c7; have z8 := GS.v.c8)
                  | (go_at_call 11; refine (lepoch_any _).mono ?_; rintro e w7 ⟨rfl, rfl⟩))
                have hW2 : Hid (Tw s2) := HT.out.adv e2
                clear e2 stp
                have GG := GS
                clear GS A2
                refine wp_over (fun W => Gd w W L E 4 1 2 30 0 s2) GG ?_
                clear GG z0 z1 z2 z3 z4 z5 z6 z7 z8
                rintro W G1
                refine wp_region_rely_tail Grown 10 [.val (.pointer (some ⟨E, 7, none⟩)), .val (.pointer (some ⟨L.p, 0, none⟩)), .val (.pointer (some ⟨E, 0, none⟩)), .val (.agg #[.int .i64 4, .int .i64 1, .int .i64 2, .int .i64 30, .int .i64 100, .int .i64 600, .int .i64 3]), .val (.int .i64 12), .val (.int .i64 a), .val (.int .i64 y), .val (.int .i64 U), .val (.agg #[.int .i64 3, .int .i64 0, .int .i64 U, .int .i64 0]), .val (.int .u64 cw)] (by kernel_rfl) Grown.refl Grown.trans (by decide) (by kernel_rfl) (by kernel_rfl) (by kernel_rfl) (by kernel_rfl) (by kernel_rfl) (by kernel_rfl) ?_
                simp only [List.take_succ_cons, List.take_zero, relyAll, Act.put, List.setIfInBounds_toArray, List.set_cons_zero, List.set_cons_succ]
                refine ⟨?_, ?_, ?_, ?_, ?_, ?_, ?_, ?_, ?_, ?_, ?_⟩
                · intro w' hg _
                  refine Or.inl ⟨rfl, ?_⟩
                  go_simp
                  exact ⟨Grown.refl _, rfl⟩
                · intro w' hg _
                  refine Or.inl ⟨rfl, ?_⟩
                  have vv := (G1.drew.grown hg).v
                  have y0 := vv.c0
                  have y1 := vv.c1
                  have y2 := vv.c2
                  have y3 := vv.c3
                  have y4 := vv.c4
                  have y5 := vv.c5
                  have y6 := vv.c6
                  have y7 := vv.c7
                  have y8 := vv.c8
                  go_simp
                  exact ⟨Grown.refl _, rfl⟩
                · intro w' hg _
                  refine Or.inl ⟨rfl, ?_⟩
                  go_simp
                  exact ⟨Grown.refl _, rfl⟩
                · intro w' hg _
                  refine Or.inl ⟨rfl, ?_⟩
                  have vv := (G1.drew.grown hg).v
                  have y0 := vv.c0
                  have y1 := vv.c1
                  have y2 := vv.c2
                  have y3 := vv.c3
                  have y4 := vv.c4
                  have y5 := vv.c5
                  have y6 := vv.c6
                  have y7 := vv.c7
                  have y8 := vv.c8
                  go_simp
                  exact ⟨Grown.refl _, rfl⟩
                · intro w' hg _
                  refine Or.inl ⟨rfl, ?_⟩
                  go_simp
                  refine (lchunk_any _ _ _ _ _ _ _ 0 _ hGd.arena (by decide) (by decide)).mono ?_
                  rintro e w'' ⟨rfl, b9⟩
                  exact ⟨_, rfl, b9, congrArg (Value.int .i64) (by omega)⟩
                · intro w' hg _
                  refine Or.inl ⟨rfl, ?_⟩
                  go_simp
                  exact ⟨Grown.refl _, rfl⟩
                · intro w' hg _
                  refine Or.inl ⟨rfl, ?_⟩
                  go_simp
                  exact ⟨Grown.refl _, rfl⟩
                · intro w' hg _
                  refine Or.inl ⟨rfl, ?_⟩
                  go_simp
                  exact ⟨Grown.refl _, congrArg (Value.int .i64) (by rw [IntKind.wrap_i64]; omega)⟩
                · intro w' hg _
                  refine Or.inl ⟨rfl, ?_⟩
                  go_simp
                  exact ⟨Grown.refl _, rfl⟩
                · intro w' hg _
                  refine Or.inl ⟨rfl, ?_⟩
                  go_simp
                  refine (pc _).mono ?_
                  rintro e w'' ⟨rfl, b9⟩
                  exact ⟨_, rfl, b9, rfl⟩
                intro w5 hg _
                have GG := G1.drew.grown hg
                clear hg G1
                go_wp2_with (go_at_call 10; refine (store_in GG.mm 12 (by rw [hW2.out.n]; decide) cw).mono ?_; rintro e w6 ⟨rfl, m6, o6, -⟩; have GG := GG.mem o6 m6)
                refine wp_over (fun W => Gd w W L E 4 1 2 30 0 (s2.step 12 cw)) GG ?_
                clear GG m6 o6
                rintro W G1
                refine wp_region_rely_tail Grown 3 [.val (.pointer (some ⟨E, 7, none⟩)), .val (.pointer (some ⟨L.p, 0, none⟩)), .val (.int .i64 0)] (by kernel_rfl) Grown.refl Grown.trans (by decide) (by kernel_rfl) (by kernel_rfl) (by kernel_rfl) (by kernel_rfl) (by kernel_rfl) (by kernel_rfl) ?_
                simp only [List.take_succ_cons, List.take_zero, relyAll, Act.put, List.setIfInBounds_toArray, List.set_cons_zero, List.set_cons_succ]
                refine ⟨?_, ?_, ?_, ?_⟩
                · intro w' hg _
                  refine Or.inl ⟨rfl, ?_⟩
                  go_simp
                  exact ⟨Grown.refl _, rfl⟩
                · intro w' hg _
                  refine Or.inl ⟨rfl, ?_⟩
                  have vv := (G1.drew.grown hg).v
                  have y0 := vv.c0
                  have y1 := vv.c1
                  have y2 := vv.c2
                  have y3 := vv.c3
                  have y4 := vv.c4
                  have y5 := vv.c5
                  have y6 := vv.c6
                  have y7 := vv.c7
                  have y8 := vv.c8
                  go_simp
                  exact ⟨Grown.refl _, rfl⟩
                · intro w' hg _
                  refine Or.inl ⟨rfl, ?_⟩
                  go_simp
                  refine (lepoch_any _).mono ?_
                  rintro e w'' ⟨rfl, rfl⟩
                  exact ⟨_, rfl, Grown.refl _, rfl⟩
                intro w5 hg _
                have GG := G1.drew.grown hg
                clear hg G1
                obtain ⟨s3, hs3⟩ : ∃ s3, (s2.step 12 cw).step 0 9 = s3 := ⟨_, rfl⟩
                have HCw : Hid (Cw U s3) := by
                  unfold Hid
                  rw [← hs3, ← HCW.out]
                  exact hW2.out.lay U
                go_wp2_with (first
                  | (go_at_call 10; refine (store_in GG.mm 0 (show 0 < s2.n by rw [hW2.out.n]; decide) 9).mono ?_; rintro e w6 ⟨rfl, m6, o6, -⟩; have GG := GG.mem o6 m6; rw [hs3] at GG)
                  | (go_at_call 24; refine (newSettle_any _ _).mono ?_; rintro e w7 ⟨rfl, rfl⟩))
                have a7 := st_new 0 w6
                have G7 := GG.grown (gro1 _ (set0 ((0 : Nat) : Int)))
                have HK : Hid (¬ L.has w6.heap.size ∧ E ≠ w6.heap.size ∧ w.heap.size ≤ w6.heap.size) := ⟨fun hh => by have := GG.mm.lt _ hh; omega, (fun e => by have := GG.lt; omega), GG.b.size⟩
                obtain ⟨K, hK⟩ : ∃ K, w6.heap.size = K := ⟨_, rfl⟩
                rw [hK] at a7 HK
                try rw [hK]
                have HSeh : Hid (SeH 4 1 2 30 0 s3 ⟨3, 0, U, 0⟩) := HCw.out.seh (by omega)
                have A3 : Hid (∃ cs, Gd w (w6.alloc (set0 ((0 : Nat) : Int))) L E 4 1 2 30 0 s3 ∧ StAt (w6.alloc (set0 ((0 : Nat) : Int))) K 0 74 cs 0 .see) := by
                  obtain ⟨cs, q⟩ := a7
                  exact ⟨cs, G7, q⟩
                clear GG G7 a7 m6 o6 hs3 hW2 hK
                go_loopw [13] (fun i wr => ∃ (j : Nat) (s' : Mm) (d : Se) (cs : Array Value), i = .int .i64 j ∧ SeI 4 1 2 30 0 s3 ⟨3, 0, U, 0⟩ s' j d ∧ Gd w wr L E 4 1 2 30 0 s' ∧ StAt wr K 0 74 cs 0 d) (fun i _ => 60 - (intOf i).toNat)
                case atStart =>
                  obtain ⟨cs, h1, h2⟩ := A3.out
                  exact ⟨0, s3, .see, cs, rfl, ⟨rfl, rfl, rfl⟩, h1, h2⟩
                case round =>
                  clear A3
                  obtain ⟨j, s1, d, cs, rfl, hI, GG, a0⟩ := hrel
                  have hjle := hI.le
                  have hj6 : (j : Int) < 60 := by simp only at hjle; omega
                  obtain ⟨sg, hsg⟩ : ∃ x, s1.steps = x := ⟨_, rfl⟩
                  have HS1 : Hid (s1.steps = sg) := hsg
                  have hlo := hI.low HSeh.out
                  have HCk : Hid (s1.wd 12 = cw) := by unfold Hid; rw [← HCW.out]; exact hlo.1
                  obtain ⟨s2, d2, ht⟩ : ∃ s2 d2, seTurn 4 1 2 30 0 0 ⟨3, 0, U, 0⟩ s1 d = (s2, d2) := ⟨_, _, rfl⟩
                  have told := se_told (by simp only; omega) hI ht
                  rw [hsg] at told
                  have HSt : Hid (s2.steps = wrap64 (sg + 1)) := told.1
                  obtain ⟨la, hla⟩ : ∃ x, s2.la = x := ⟨_, rfl⟩
                  obtain ⟨lw, hlw⟩ : ∃ x, s2.lw = x := ⟨_, rfl⟩
                  obtain ⟨lc, hlc⟩ : ∃ x, s2.lc = x := ⟨_, rfl⟩
                  have HLa : Hid (s2.la = la) := hla
                  have HLw : Hid (s2.lw = lw) := hlw
                  have HLc : Hid (s2.lc = lc) := hlc
                  obtain ⟨ci, hof⟩ := lof13 la (by rw [← hla]; exact told.2)
                  have HOf : Hid (∀ w : World, Calls Try.prog 27 #[.agg #[.int .i64 4, .int .i64 1, .int .i64 2, .int .i64 30, .int .i64 100, .int .i64 600, .int .i64 3], .int .i64 la] w fun e w' => e = .returned (.int .i64 ci) ∧ Below w.heap.size w w') := hof
                  clear hof hla hlw hlc told hsg
                  have y0 := GG.v.c0
                  have y1 := GG.v.c1
                  have y2 := GG.v.c2
                  have y3 := GG.v.c3
                  have y4 := GG.v.c4
                  have y5 := GG.v.c5
                  have y6 := GG.v.c6
                  have y7 := GG.v.c7
                  have y8 := GG.v.c8
                  go_wp2
                  refine wp_over (fun W => Gd w W L E 4 1 2 30 0 s1 ∧ StAt W K 0 74 cs 0 d) ⟨GG, a0⟩ ?_
                  clear GG a0 y0 y1 y2 y3 y4 y5 y6 y7 y8
                  rintro W ⟨G1, a1⟩
                  refine wp_region_rely Grown [.val (.agg #[.int .i64 4, .int .i64 1, .int .i64 2, .int .i64 30, .int .i64 100, .int .i64 600, .int .i64 3, .pointer (some ⟨L.p, 0, none⟩), .int .i64 0]), .val (.int .i64 sg), .val (.pointer (some ⟨E, 7, none⟩)), .val (.pointer (some ⟨L.p, 0, none⟩)), .val (.pointer (some ⟨E, 0, none⟩)), .val (.agg #[.int .i64 4, .int .i64 1, .int .i64 2, .int .i64 30, .int .i64 100, .int .i64 600, .int .i64 3]), .val (.int .i64 12), .val (.int .u64 cw), .val (.agg #[.int .i64 3, .int .i64 0, .int .i64 U, .int .i64 0]), .val (.int .i64 3), .val (.int .i64 sg), .val (.int .i64 3)] (by kernel_rfl) Grown.refl Grown.trans (by kernel_rfl) (by kernel_rfl) (by kernel_rfl) ?_
                  simp only [relyAll, Act.put, List.setIfInBounds_toArray, List.set_cons_zero, List.set_cons_succ]
                  refine ⟨?_, ?_, ?_, ?_, ?_, ?_, ?_, ?_, ?_, ?_, ?_, ?_, ?_⟩
                  · intro w' hg _
                    refine Or.inl ⟨rfl, ?_⟩
                    have vv := (G1.drew.grown hg).v
                    have y0 := vv.c0
                    have y1 := vv.c1
                    have y2 := vv.c2
                    have y3 := vv.c3
                    have y4 := vv.c4
                    have y5 := vv.c5
                    have y6 := vv.c6
                    have y7 := vv.c7
                    have y8 := vv.c8
                    go_simp
                    exact ⟨Grown.refl _, rfl⟩
                  · intro w' hg _
                    refine Or.inl ⟨rfl, ?_⟩
                    go_simp
                    refine (now13 (G1.drew.grown hg).mm _ _ _ _ _ _ _ _ _ HS1.out).mono ?_
                    rintro e w'' ⟨rfl, b9⟩
                    exact ⟨_, rfl, b9, rfl⟩
                  · intro w' hg _
                    refine Or.inl ⟨rfl, ?_⟩
                    go_simp
                    exact ⟨Grown.refl _, rfl⟩
                  · intro w' hg _
                    refine Or.inl ⟨rfl, ?_⟩
                    have vv := (G1.drew.grown hg).v
                    have y0 := vv.c0
                    have y1 := vv.c1
                    have y2 := vv.c2
                    have y3 := vv.c3
                    have y4 := vv.c4
                    have y5 := vv.c5
                    have y6 := vv.c6
                    have y7 := vv.c7
                    have y8 := vv.c8
                    go_simp
                    exact ⟨Grown.refl _, rfl⟩
                  · intro w' hg _
                    refine Or.inl ⟨rfl, ?_⟩
                    go_simp
                    exact ⟨Grown.refl _, rfl⟩
                  · intro w' hg _
                    refine Or.inl ⟨rfl, ?_⟩
                    have vv := (G1.drew.grown hg).v
                    have y0 := vv.c0
                    have y1 := vv.c1
                    have y2 := vv.c2
                    have y3 := vv.c3
                    have y4 := vv.c4
                    have y5 := vv.c5
                    have y6 := vv.c6
                    have y7 := vv.c7
                    have y8 := vv.c8
                    go_simp
                    exact ⟨Grown.refl _, rfl⟩
                  · intro w' hg _
                    refine Or.inl ⟨rfl, ?_⟩
                    go_simp
                    refine (lchunk_any _ _ _ _ _ _ _ 0 _ hGd.arena (by decide) (by decide)).mono ?_
                    rintro e w'' ⟨rfl, b9⟩
                    exact ⟨_, rfl, b9, congrArg (Value.int .i64) (by omega)⟩
                  · intro w' hg _
                    refine Or.inl ⟨rfl, ?_⟩
                    go_simp
                    refine (peek_is (G1.drew.grown hg).mm 12 (show 12 < s1.n by rw [hI.len, HCw.out.n]; decide) cw (HCk.out)).mono ?_
                    rintro e w'' ⟨rfl, rfl⟩
                    exact ⟨_, rfl, Grown.refl _, rfl⟩
                  · intro w' hg _
                    refine Or.inl ⟨rfl, ?_⟩
                    go_simp
                    refine (ckc _).mono ?_
                    rintro e w'' ⟨rfl, b9⟩
                    exact ⟨_, rfl, b9, rfl⟩
                  · intro w' hg _
                    refine Or.inl ⟨rfl, ?_⟩
                    go_simp
                    exact ⟨Grown.refl _, rfl⟩
                  · intro w' hg _
                    refine Or.inl ⟨rfl, ?_⟩
                    go_simp
                    exact ⟨Grown.refl _, rfl⟩
                  · intro w' hg _
                    refine Or.inl ⟨rfl, ?_⟩
                    go_simp
                    exact ⟨Grown.refl _, rfl⟩
                  intro w3 hg _
                  have GG := G1.drew.grown hg
                  have a3 := (a1.grown ((Below.refl _ _).drew)).grown hg
                  clear hg G1 a1
                  have hl1 : arenaLen 4 1 2 30 ≤ s1.n := by rw [hI.len, HCw.out.n]; decide
                  have st := set_step GG.mm HK.out.1 a3 hGd hl1 (by decide) 0 hlo.1 HSeh.out.ok (by decide) (by rw [hlo.2]; exact HSeh.out.e1) (hI.good HSeh.out) hI.on s2 d2 ht
                  have y0 := GG.v.c0
                  have y1 := GG.v.c1
                  have y2 := GG.v.c2
                  have y3 := GG.v.c3
                  have y4 := GG.v.c4
                  have y5 := GG.v.c5
                  have y6 := GG.v.c6
                  have y7 := GG.v.c7
                  have y8 := GG.v.c8
                  have hh := se_turn 0 HSeh.out hI ht
                  clear hl1 hlo ht a3 hI
                  rcases hh with ⟨ho, I2⟩ | ⟨ho, e2⟩
                  · have st := st false ho
                    go_wp2_with (go_at_call 26; refine st.mono ?_; rintro e w4 ⟨rfl, cs2, A2⟩; have GS := GG.and A2.only A2.m HK.out.2.1 HK.out.2.2; have z0 := GS.v.c0; have z1 := GS.v.c1; have z2 := GS.v.c2; have z3 := GS.v.c3; have z4 := GS.v.c4; have z5 := GS.v.c5; have z6 := GS.v.c6; have z7 := GS.v.c7; have z8 := GS.v.c8)
                    clear st
                    cases hy : (ci == 0) with
                    | true =>
                      have hci : (ci == 0) = true := hy
                      have GG := GS
                      clear GS
                      refine wp_over (fun W => Gd w W L E 4 1 2 30 0 s2 ∧ StAt W K 0 74 cs2 0 d2) ⟨GG, A2.a⟩ ?_
                      clear GG A2 y0 y1 y2 y3 y4 y5 y6 y7 y8 z0 z1 z2 z3 z4 z5 z6 z7 z8 HCk
                      rintro W ⟨G1, a1⟩
                      refine wp_region_rely Grown [.val (.agg #[.int .i64 4, .int .i64 1, .int .i64 2, .int .i64 30, .int .i64 100, .int .i64 600, .int .i64 3, .pointer (some ⟨L.p, 0, none⟩), .int .i64 0]), .val (.int .i64 (wrap64 (sg + 1))), .val (.int .i64 sg), .val (.int .i64 (wrap64 (sg + 1))), .val (.bool false), .val (.bool false), .val (.pointer (some ⟨E, 0, none⟩)), .val (.agg #[.int .i64 4, .int .i64 1, .int .i64 2, .int .i64 30, .int .i64 100, .int .i64 600, .int .i64 3]), .val (.pointer (some ⟨E, 7, none⟩)), .val (.pointer (some ⟨L.p, 0, none⟩)), .val (.agg #[.int .i64 la, .int .i64 lw, .bool lc]), .val (.int .i64 la), .val (.int .i64 ci), .val (.bool true), .val (.bool true), .val (.int .i64 3), .val (.bool false), .val (.bool false), .val (.bool false)] (by kernel_rfl) Grown.refl Grown.trans (by kernel_rfl) (by kernel_rfl) (by kernel_rfl) ?_
                      simp only [relyAll, Act.put, List.setIfInBounds_toArray, List.set_cons_zero, List.set_cons_succ]
                      refine ⟨?_, ?_, ?_, ?_, ?_, ?_, ?_, ?_, ?_, ?_, ?_, ?_, ?_, ?_, ?_, ?_, ?_, ?_, ?_, ?_⟩
                      · intro w' hg _
                        refine Or.inl ⟨rfl, ?_⟩
                        have vv := (G1.drew.grown hg).v
                        have y0 := vv.c0
                        have y1 := vv.c1
                        have y2 := vv.c2
                        have y3 := vv.c3
                        have y4 := vv.c4
                        have y5 := vv.c5
                        have y6 := vv.c6
                        have y7 := vv.c7
                        have y8 := vv.c8
                        go_simp
                        exact ⟨Grown.refl _, rfl⟩
                      · intro w' hg _
                        refine Or.inl ⟨rfl, ?_⟩
                        go_simp
                        refine (now13 (G1.drew.grown hg).mm _ _ _ _ _ _ _ _ _ HSt.out).mono ?_
                        rintro e w'' ⟨rfl, b9⟩
                        exact ⟨_, rfl, b9, rfl⟩
                      · intro w' hg _
                        refine Or.inl ⟨rfl, ?_⟩
                        go_simp
                        exact ⟨Grown.refl _, rfl⟩
                      · intro w' hg _
                        refine Or.inl ⟨rfl, ?_⟩
                        go_simp
                        exact ⟨Grown.refl _, congrArg (Value.int .i64) (wrapEq _)⟩
                      · intro w' hg _
                        refine Or.inl ⟨rfl, ?_⟩
                        go_simp
                        exact ⟨Grown.refl _, rfl⟩
                      · intro w' hg _
                        refine Or.inl ⟨rfl, ?_⟩
                        go_simp
                        exact ⟨Grown.refl _, rfl⟩
                      · intro w' hg _
                        refine Or.inl ⟨rfl, ?_⟩
                        go_simp
                        exact ⟨Grown.refl _, rfl⟩
                      · intro w' hg _
                        refine Or.inl ⟨rfl, ?_⟩
                        have vv := (G1.drew.grown hg).v
                        have y0 := vv.c0
                        have y1 := vv.c1
                        have y2 := vv.c2
                        have y3 := vv.c3
                        have y4 := vv.c4
                        have y5 := vv.c5
                        have y6 := vv.c6
                        have y7 := vv.c7
                        have y8 := vv.c8
                        go_simp
                        exact ⟨Grown.refl _, rfl⟩
                      · intro w' hg _
                        refine Or.inl ⟨rfl, ?_⟩
                        go_simp
                        exact ⟨Grown.refl _, rfl⟩
                      · intro w' hg _
                        refine Or.inl ⟨rfl, ?_⟩
                        have vv := (G1.drew.grown hg).v
                        have y0 := vv.c0
                        have y1 := vv.c1
                        have y2 := vv.c2
                        have y3 := vv.c3
                        have y4 := vv.c4
                        have y5 := vv.c5
                        have y6 := vv.c6
                        have y7 := vv.c7
                        have y8 := vv.c8
                        go_simp
                        exact ⟨Grown.refl _, rfl⟩
                      · intro w' hg _
                        refine Or.inl ⟨rfl, ?_⟩
                        go_simp
                        refine (last13 (G1.drew.grown hg).mm la lw lc HLa.out HLw.out HLc.out).mono ?_
                        rintro e w'' ⟨rfl, b9⟩
                        exact ⟨_, rfl, b9, rfl⟩
                      · intro w' hg _
                        refine Or.inl ⟨rfl, ?_⟩
                        go_simp
                        exact ⟨Grown.refl _, rfl⟩
                      · intro w' hg _
                        refine Or.inl ⟨rfl, ?_⟩
                        go_simp
                        refine (HOf.out _).mono ?_
                        rintro e w'' ⟨rfl, b9⟩
                        exact ⟨_, rfl, b9, rfl⟩
                      · intro w' hg _
                        refine Or.inl ⟨rfl, ?_⟩
                        have z := hci
                        go_simp
                        exact ⟨Grown.refl _, rfl⟩
                      · intro w' hg _
                        refine Or.inl ⟨rfl, ?_⟩
                        go_simp
                        exact ⟨Grown.refl _, rfl⟩
                      · intro w' hg _
                        refine Or.inl ⟨rfl, ?_⟩
                        go_simp
                        exact ⟨Grown.refl _, rfl⟩
                      · intro w' hg _
                        refine Or.inl ⟨rfl, ?_⟩
                        go_simp
                        exact ⟨Grown.refl _, rfl⟩
                      · intro w' hg _
                        refine Or.inl ⟨rfl, ?_⟩
                        go_simp
                        exact ⟨Grown.refl _, rfl⟩
                      · intro w' hg _
                        refine Or.inl ⟨rfl, ?_⟩
                        go_simp
                        exact ⟨Grown.refl _, rfl⟩
                      intro w7 hg _
                      have GG := G1.drew.grown hg
                      have aa := (a1.grown ((Below.refl _ _).drew)).grown hg
                      clear hg G1 a1 HOf hci HLa HLw HLc HSt
                      go_wp2
                      go_roundw
                      case rel => exact ⟨j + 1, s2, d2, cs2, by go_num, I2, GG, aa⟩
                      case measure => simp [intOf]; omega
                    | false =>
                      have hci : (ci == 0) = false := hy
                      have GG := GS
                      clear GS
                      refine wp_over (fun W => Gd w W L E 4 1 2 30 0 s2 ∧ StAt W K 0 74 cs2 0 d2) ⟨GG, A2.a⟩ ?_
                      clear GG A2 y0 y1 y2 y3 y4 y5 y6 y7 y8 z0 z1 z2 z3 z4 z5 z6 z7 z8 HCk
                      rintro W ⟨G1, a1⟩
                      refine wp_region_rely Grown [.val (.agg #[.int .i64 4, .int .i64 1, .int .i64 2, .int .i64 30, .int .i64 100, .int .i64 600, .int .i64 3, .pointer (some ⟨L.p, 0, none⟩), .int .i64 0]), .val (.int .i64 (wrap64 (sg + 1))), .val (.int .i64 sg), .val (.int .i64 (wrap64 (sg + 1))), .val (.bool false), .val (.bool false), .val (.pointer (some ⟨E, 0, none⟩)), .val (.agg #[.int .i64 4, .int .i64 1, .int .i64 2, .int .i64 30, .int .i64 100, .int .i64 600, .int .i64 3]), .val (.pointer (some ⟨E, 7, none⟩)), .val (.pointer (some ⟨L.p, 0, none⟩)), .val (.agg #[.int .i64 la, .int .i64 lw, .bool lc]), .val (.int .i64 la), .val (.int .i64 ci), .val (.bool false), .val (.bool false), .val undef, .val undef, .val (.bool false), .val (.bool false)] (by kernel_rfl) Grown.refl Grown.trans (by kernel_rfl) (by kernel_rfl) (by kernel_rfl) ?_
                      simp only [relyAll, Act.put, List.setIfInBounds_toArray, List.set_cons_zero, List.set_cons_succ]
                      refine ⟨?_, ?_, ?_, ?_, ?_, ?_, ?_, ?_, ?_, ?_, ?_, ?_, ?_, ?_, ?_, ?_, ?_, ?_, ?_, ?_⟩
                      · intro w' hg _
                        refine Or.inl ⟨rfl, ?_⟩
                        have vv := (G1.drew.grown hg).v
                        have y0 := vv.c0
                        have y1 := vv.c1
                        have y2 := vv.c2
                        have y3 := vv.c3
                        have y4 := vv.c4
                        have y5 := vv.c5
                        have y6 := vv.c6
                        have y7 := vv.c7
                        have y8 := vv.c8
                        go_simp
                        exact ⟨Grown.refl _, rfl⟩
                      · intro w' hg _
                        refine Or.inl ⟨rfl, ?_⟩
                        go_simp
                        refine (now13 (G1.drew.grown hg).mm _ _ _ _ _ _ _ _ _ HSt.out).mono ?_
                        rintro e w'' ⟨rfl, b9⟩
                        exact ⟨_, rfl, b9, rfl⟩
                      · intro w' hg _
                        refine Or.inl ⟨rfl, ?_⟩
                        go_simp
                        exact ⟨Grown.refl _, rfl⟩
                      · intro w' hg _
                        refine Or.inl ⟨rfl, ?_⟩
                        go_simp
                        exact ⟨Grown.refl _, congrArg (Value.int .i64) (wrapEq _)⟩
                      · intro w' hg _
                        refine Or.inl ⟨rfl, ?_⟩
                        go_simp
                        exact ⟨Grown.refl _, rfl⟩
                      · intro w' hg _
                        refine Or.inl ⟨rfl, ?_⟩
                        go_simp
                        exact ⟨Grown.refl _, rfl⟩
                      · intro w' hg _
                        refine Or.inl ⟨rfl, ?_⟩
                        go_simp
                        exact ⟨Grown.refl _, rfl⟩
                      · intro w' hg _
                        refine Or.inl ⟨rfl, ?_⟩
                        have vv := (G1.drew.grown hg).v
                        have y0 := vv.c0
                        have y1 := vv.c1
                        have y2 := vv.c2
                        have y3 := vv.c3
                        have y4 := vv.c4
                        have y5 := vv.c5
                        have y6 := vv.c6
                        have y7 := vv.c7
                        have y8 := vv.c8
                        go_simp
                        exact ⟨Grown.refl _, rfl⟩
                      · intro w' hg _
                        refine Or.inl ⟨rfl, ?_⟩
                        go_simp
                        exact ⟨Grown.refl _, rfl⟩
                      · intro w' hg _
                        refine Or.inl ⟨rfl, ?_⟩
                        have vv := (G1.drew.grown hg).v
                        have y0 := vv.c0
                        have y1 := vv.c1
                        have y2 := vv.c2
                        have y3 := vv.c3
                        have y4 := vv.c4
                        have y5 := vv.c5
                        have y6 := vv.c6
                        have y7 := vv.c7
                        have y8 := vv.c8
                        go_simp
                        exact ⟨Grown.refl _, rfl⟩
                      · intro w' hg _
                        refine Or.inl ⟨rfl, ?_⟩
                        go_simp
                        refine (last13 (G1.drew.grown hg).mm la lw lc HLa.out HLw.out HLc.out).mono ?_
                        rintro e w'' ⟨rfl, b9⟩
                        exact ⟨_, rfl, b9, rfl⟩
                      · intro w' hg _
                        refine Or.inl ⟨rfl, ?_⟩
                        go_simp
                        exact ⟨Grown.refl _, rfl⟩
                      · intro w' hg _
                        refine Or.inl ⟨rfl, ?_⟩
                        go_simp
                        refine (HOf.out _).mono ?_
                        rintro e w'' ⟨rfl, b9⟩
                        exact ⟨_, rfl, b9, rfl⟩
                      · intro w' hg _
                        refine Or.inl ⟨rfl, ?_⟩
                        have z := hci
                        go_simp
                        exact ⟨Grown.refl _, rfl⟩
                      · intro w' hg _
                        refine Or.inl ⟨rfl, ?_⟩
                        go_simp
                        exact ⟨Grown.refl _, rfl⟩
                      · intro w' hg _
                        exact Or.inr ⟨rfl, rfl⟩
                      · intro w' hg _
                        exact Or.inr ⟨rfl, rfl⟩
                      · intro w' hg _
                        refine Or.inl ⟨rfl, ?_⟩
                        go_simp
                        exact ⟨Grown.refl _, rfl⟩
                      · intro w' hg _
                        refine Or.inl ⟨rfl, ?_⟩
                        go_simp
                        exact ⟨Grown.refl _, rfl⟩
                      intro w7 hg _
                      have GG := G1.drew.grown hg
                      have aa := (a1.grown ((Below.refl _ _).drew)).grown hg
                      clear hg G1 a1 HOf hci HLa HLw HLc HSt
                      go_wp2
                      go_roundw
                      case rel => exact ⟨j + 1, s2, d2, cs2, by go_num, I2, GG, aa⟩
                      case measure => simp [intOf]; omega
                  · have st := st true ho
                    have hfr : d2.freed = true := by
                      cases hf : d2.freed with
                      | true => rfl
                      | false => exact absurd HCw.out.ripe (e2.no hf).1
                    clear e2
                    go_wp2_with (go_at_call 26; refine st.mono ?_; rintro e w4 ⟨rfl, cs2, A2⟩; have GS := GG.and A2.only A2.m HK.out.2.1 HK.out.2.2; have z0 := GS.v.c0; have z1 := GS.v.c1; have z2 := GS.v.c2; have z3 := GS.v.c3; have z4 := GS.v.c4; have z5 := GS.v.c5; have z6 := GS.v.c6; have z7 := GS.v.c7; have z8 := GS.v.c8)
                    clear st
                    cases hy : (ci == 0) with
                    | true =>
                      have hci : (ci == 0) = true := hy
                      have GG := GS
                      clear GS
                      refine wp_over (fun W => Gd w W L E 4 1 2 30 0 s2 ∧ StAt W K 0 74 cs2 0 d2) ⟨GG, A2.a⟩ ?_
                      clear GG A2 y0 y1 y2 y3 y4 y5 y6 y7 y8 z0 z1 z2 z3 z4 z5 z6 z7 z8 HCk
                      rintro W ⟨G1, a1⟩
                      refine wp_region_rely Grown [.val (.agg #[.int .i64 4, .int .i64 1, .int .i64 2, .int .i64 30, .int .i64 100, .int .i64 600, .int .i64 3, .pointer (some ⟨L.p, 0, none⟩), .int .i64 0]), .val (.int .i64 (wrap64 (sg + 1))), .val (.int .i64 sg), .val (.int .i64 (wrap64 (sg + 1))), .val (.bool false), .val (.bool false), .val (.pointer (some ⟨E, 0, none⟩)), .val (.agg #[.int .i64 4, .int .i64 1, .int .i64 2, .int .i64 30, .int .i64 100, .int .i64 600, .int .i64 3]), .val (.pointer (some ⟨E, 7, none⟩)), .val (.pointer (some ⟨L.p, 0, none⟩)), .val (.agg #[.int .i64 la, .int .i64 lw, .bool lc]), .val (.int .i64 la), .val (.int .i64 ci), .val (.bool true), .val (.bool true), .val (.int .i64 3), .val (.bool false), .val (.bool false), .val (.bool false)] (by kernel_rfl) Grown.refl Grown.trans (by kernel_rfl) (by kernel_rfl) (by kernel_rfl) ?_
                      simp only [relyAll, Act.put, List.setIfInBounds_toArray, List.set_cons_zero, List.set_cons_succ]
                      refine ⟨?_, ?_, ?_, ?_, ?_, ?_, ?_, ?_, ?_, ?_, ?_, ?_, ?_, ?_, ?_, ?_, ?_, ?_, ?_, ?_⟩
                      · intro w' hg _
                        refine Or.inl ⟨rfl, ?_⟩
                        have vv := (G1.drew.grown hg).v
                        have y0 := vv.c0
                        have y1 := vv.c1
                        have y2 := vv.c2
                        have y3 := vv.c3
                        have y4 := vv.c4
                        have y5 := vv.c5
                        have y6 := vv.c6
                        have y7 := vv.c7
                        have y8 := vv.c8
                        go_simp
                        exact ⟨Grown.refl _, rfl⟩
                      · intro w' hg _
                        refine Or.inl ⟨rfl, ?_⟩
                        go_simp
                        refine (now13 (G1.drew.grown hg).mm _ _ _ _ _ _ _ _ _ HSt.out).mono ?_
                        rintro e w'' ⟨rfl, b9⟩
                        exact ⟨_, rfl, b9, rfl⟩
                      · intro w' hg _
                        refine Or.inl ⟨rfl, ?_⟩
                        go_simp
                        exact ⟨Grown.refl _, rfl⟩
                      · intro w' hg _
                        refine Or.inl ⟨rfl, ?_⟩
                        go_simp
                        exact ⟨Grown.refl _, congrArg (Value.int .i64) (wrapEq _)⟩
                      · intro w' hg _
                        refine Or.inl ⟨rfl, ?_⟩
                        go_simp
                        exact ⟨Grown.refl _, rfl⟩
                      · intro w' hg _
                        refine Or.inl ⟨rfl, ?_⟩
                        go_simp
                        exact ⟨Grown.refl _, rfl⟩
                      · intro w' hg _
                        refine Or.inl ⟨rfl, ?_⟩
                        go_simp
                        exact ⟨Grown.refl _, rfl⟩
                      · intro w' hg _
                        refine Or.inl ⟨rfl, ?_⟩
                        have vv := (G1.drew.grown hg).v
                        have y0 := vv.c0
                        have y1 := vv.c1
                        have y2 := vv.c2
                        have y3 := vv.c3
                        have y4 := vv.c4
                        have y5 := vv.c5
                        have y6 := vv.c6
                        have y7 := vv.c7
                        have y8 := vv.c8
                        go_simp
                        exact ⟨Grown.refl _, rfl⟩
                      · intro w' hg _
                        refine Or.inl ⟨rfl, ?_⟩
                        go_simp
                        exact ⟨Grown.refl _, rfl⟩
                      · intro w' hg _
                        refine Or.inl ⟨rfl, ?_⟩
                        have vv := (G1.drew.grown hg).v
                        have y0 := vv.c0
                        have y1 := vv.c1
                        have y2 := vv.c2
                        have y3 := vv.c3
                        have y4 := vv.c4
                        have y5 := vv.c5
                        have y6 := vv.c6
                        have y7 := vv.c7
                        have y8 := vv.c8
                        go_simp
                        exact ⟨Grown.refl _, rfl⟩
                      · intro w' hg _
                        refine Or.inl ⟨rfl, ?_⟩
                        go_simp
                        refine (last13 (G1.drew.grown hg).mm la lw lc HLa.out HLw.out HLc.out).mono ?_
                        rintro e w'' ⟨rfl, b9⟩
                        exact ⟨_, rfl, b9, rfl⟩
                      · intro w' hg _
                        refine Or.inl ⟨rfl, ?_⟩
                        go_simp
                        exact ⟨Grown.refl _, rfl⟩
                      · intro w' hg _
                        refine Or.inl ⟨rfl, ?_⟩
                        go_simp
                        refine (HOf.out _).mono ?_
                        rintro e w'' ⟨rfl, b9⟩
                        exact ⟨_, rfl, b9, rfl⟩
                      · intro w' hg _
                        refine Or.inl ⟨rfl, ?_⟩
                        have z := hci
                        go_simp
                        exact ⟨Grown.refl _, rfl⟩
                      · intro w' hg _
                        refine Or.inl ⟨rfl, ?_⟩
                        go_simp
                        exact ⟨Grown.refl _, rfl⟩
                      · intro w' hg _
                        refine Or.inl ⟨rfl, ?_⟩
                        go_simp
                        exact ⟨Grown.refl _, rfl⟩
                      · intro w' hg _
                        refine Or.inl ⟨rfl, ?_⟩
                        go_simp
                        exact ⟨Grown.refl _, rfl⟩
                      · intro w' hg _
                        refine Or.inl ⟨rfl, ?_⟩
                        go_simp
                        exact ⟨Grown.refl _, rfl⟩
                      · intro w' hg _
                        refine Or.inl ⟨rfl, ?_⟩
                        go_simp
                        exact ⟨Grown.refl _, rfl⟩
                      intro w7 hg _
                      have GG := G1.drew.grown hg
                      have aa := (a1.grown ((Below.refl _ _).drew)).grown hg
                      clear hg G1 a1 HOf hci HLa HLw HLc HSt
                      go_wp2_with (first
                        | (go_at_call_of 28 (Value.pointer (some ({ block := K, off := 0, spot := none } : Addr))); refine (freed_at aa ho).mono ?_; rintro e w8 ⟨rfl, rfl⟩; rw [hfr])
                        | (go_at_call 29; refine (went_nil _).mono ?_; rintro e w8 ⟨rfl, rfl⟩)
                        | (go_at_call 28; refine (freed_nil _).mono ?_; rintro e w8 ⟨rfl, rfl⟩))
                      go_ret
                      exact ⟨rfl, GG.b⟩
                    | false =>
                      have hci : (ci == 0) = false := hy
                      have GG := GS
                      clear GS
                      refine wp_over (fun W => Gd w W L E 4 1 2 30 0 s2 ∧ StAt W K 0 74 cs2 0 d2) ⟨GG, A2.a⟩ ?_
                      clear GG A2 y0 y1 y2 y3 y4 y5 y6 y7 y8 z0 z1 z2 z3 z4 z5 z6 z7 z8 HCk
                      rintro W ⟨G1, a1⟩
                      refine wp_region_rely Grown [.val (.agg #[.int .i64 4, .int .i64 1, .int .i64 2, .int .i64 30, .int .i64 100, .int .i64 600, .int .i64 3, .pointer (some ⟨L.p, 0, none⟩), .int .i64 0]), .val (.int .i64 (wrap64 (sg + 1))), .val (.int .i64 sg), .val (.int .i64 (wrap64 (sg + 1))), .val (.bool false), .val (.bool false), .val (.pointer (some ⟨E, 0, none⟩)), .val (.agg #[.int .i64 4, .int .i64 1, .int .i64 2, .int .i64 30, .int .i64 100, .int .i64 600, .int .i64 3]), .val (.pointer (some ⟨E, 7, none⟩)), .val (.pointer (some ⟨L.p, 0, none⟩)), .val (.agg #[.int .i64 la, .int .i64 lw, .bool lc]), .val (.int .i64 la), .val (.int .i64 ci), .val (.bool false), .val (.bool false), .val undef, .val undef, .val (.bool false), .val (.bool false)] (by kernel_rfl) Grown.refl Grown.trans (by kernel_rfl) (by kernel_rfl) (by kernel_rfl) ?_
                      simp only [relyAll, Act.put, List.setIfInBounds_toArray, List.set_cons_zero, List.set_cons_succ]
                      refine ⟨?_, ?_, ?_, ?_, ?_, ?_, ?_, ?_, ?_, ?_, ?_, ?_, ?_, ?_, ?_, ?_, ?_, ?_, ?_, ?_⟩
                      · intro w' hg _
                        refine Or.inl ⟨rfl, ?_⟩
                        have vv := (G1.drew.grown hg).v
                        have y0 := vv.c0
                        have y1 := vv.c1
                        have y2 := vv.c2
                        have y3 := vv.c3
                        have y4 := vv.c4
                        have y5 := vv.c5
                        have y6 := vv.c6
                        have y7 := vv.c7
                        have y8 := vv.c8
                        go_simp
                        exact ⟨Grown.refl _, rfl⟩
                      · intro w' hg _
                        refine Or.inl ⟨rfl, ?_⟩
                        go_simp
                        refine (now13 (G1.drew.grown hg).mm _ _ _ _ _ _ _ _ _ HSt.out).mono ?_
                        rintro e w'' ⟨rfl, b9⟩
                        exact ⟨_, rfl, b9, rfl⟩
                      · intro w' hg _
                        refine Or.inl ⟨rfl, ?_⟩
                        go_simp
                        exact ⟨Grown.refl _, rfl⟩
                      · intro w' hg _
                        refine Or.inl ⟨rfl, ?_⟩
                        go_simp
                        exact ⟨Grown.refl _, congrArg (Value.int .i64) (wrapEq _)⟩
                      · intro w' hg _
                        refine Or.inl ⟨rfl, ?_⟩
                        go_simp
                        exact ⟨Grown.refl _, rfl⟩
                      · intro w' hg _
                        refine Or.inl ⟨rfl, ?_⟩
                        go_simp
                        exact ⟨Grown.refl _, rfl⟩
                      · intro w' hg _
                        refine Or.inl ⟨rfl, ?_⟩
                        go_simp
                        exact ⟨Grown.refl _, rfl⟩
                      · intro w' hg _
                        refine Or.inl ⟨rfl, ?_⟩
                        have vv := (G1.drew.grown hg).v
                        have y0 := vv.c0
                        have y1 := vv.c1
                        have y2 := vv.c2
                        have y3 := vv.c3
                        have y4 := vv.c4
                        have y5 := vv.c5
                        have y6 := vv.c6
                        have y7 := vv.c7
                        have y8 := vv.c8
                        go_simp
                        exact ⟨Grown.refl _, rfl⟩
                      · intro w' hg _
                        refine Or.inl ⟨rfl, ?_⟩
                        go_simp
                        exact ⟨Grown.refl _, rfl⟩
                      · intro w' hg _
                        refine Or.inl ⟨rfl, ?_⟩
                        have vv := (G1.drew.grown hg).v
                        have y0 := vv.c0
                        have y1 := vv.c1
                        have y2 := vv.c2
                        have y3 := vv.c3
                        have y4 := vv.c4
                        have y5 := vv.c5
                        have y6 := vv.c6
                        have y7 := vv.c7
                        have y8 := vv.c8
                        go_simp
                        exact ⟨Grown.refl _, rfl⟩
                      · intro w' hg _
                        refine Or.inl ⟨rfl, ?_⟩
                        go_simp
                        refine (last13 (G1.drew.grown hg).mm la lw lc HLa.out HLw.out HLc.out).mono ?_
                        rintro e w'' ⟨rfl, b9⟩
                        exact ⟨_, rfl, b9, rfl⟩
                      · intro w' hg _
                        refine Or.inl ⟨rfl, ?_⟩
                        go_simp
                        exact ⟨Grown.refl _, rfl⟩
                      · intro w' hg _
                        refine Or.inl ⟨rfl, ?_⟩
                        go_simp
                        refine (HOf.out _).mono ?_
                        rintro e w'' ⟨rfl, b9⟩
                        exact ⟨_, rfl, b9, rfl⟩
                      · intro w' hg _
                        refine Or.inl ⟨rfl, ?_⟩
                        have z := hci
                        go_simp
                        exact ⟨Grown.refl _, rfl⟩
                      · intro w' hg _
                        refine Or.inl ⟨rfl, ?_⟩
                        go_simp
                        exact ⟨Grown.refl _, rfl⟩
                      · intro w' hg _
                        exact Or.inr ⟨rfl, rfl⟩
                      · intro w' hg _
                        exact Or.inr ⟨rfl, rfl⟩
                      · intro w' hg _
                        refine Or.inl ⟨rfl, ?_⟩
                        go_simp
                        exact ⟨Grown.refl _, rfl⟩
                      · intro w' hg _
                        refine Or.inl ⟨rfl, ?_⟩
                        go_simp
                        exact ⟨Grown.refl _, rfl⟩
                      intro w7 hg _
                      have GG := G1.drew.grown hg
                      have aa := (a1.grown ((Below.refl _ _).drew)).grown hg
                      clear hg G1 a1 HOf hci HLa HLw HLc HSt
                      go_wp2_with (first
                        | (go_at_call_of 28 (Value.pointer (some ({ block := K, off := 0, spot := none } : Addr))); refine (freed_at aa ho).mono ?_; rintro e w8 ⟨rfl, rfl⟩; rw [hfr])
                        | (go_at_call 29; refine (went_nil _).mono ?_; rintro e w8 ⟨rfl, rfl⟩)
                        | (go_at_call 28; refine (freed_nil _).mono ?_; rintro e w8 ⟨rfl, rfl⟩))
                      go_ret
                      exact ⟨rfl, GG.b⟩
            · have HLa : Hid (s2.la = 0) := ha
              have HLc : Hid (s2.lc = true) := hc
              clear hla hc ha
              as_aux_lemma =>
                go_wp2_with (first
                  | (go_at_call 21; refine (now13 (by first | exact GS.mm | exact GG.mm) _ _ _ _ _ _ _ _ _ (by first | exact HSt.out | exact HS1.out)).mono ?_; rintro e w8 ⟨rfl, b8⟩; first | (have GS := GS.grown b8; have aa := aa.grown b8; have z0 := GS.v.c0; have z1 := GS.v.c1; have z2 := GS.v.c2; have z3 := GS.v.c3; have z4 := GS.v.c4; have z5 := GS.v.c5; have z6 := GS.v.c6; have z7 := GS.v.c7; have z8 := GS.v.c8) | (have GG := GG.grown b8; have a0 := a0.grown b8; have y0 := GG.v.c0; have y1 := GG.v.c1; have y2 := GG.v.c2; have y3 := GG.v.c3; have y4 := GG.v.c4; have y5 := GG.v.c5; have y6 := GG.v.c6; have y7 := GG.v.c7; have y8 := GG.v.c8))
                  | (go_at_call 22; refine (stp _ GG a0 true ho).mono ?_; rintro e w4 ⟨rfl, cs2, A2⟩; have GS := GG.and A2.only A2.m HK.out.2.1 HK.out.2.2; have aa := A2.a; have z0 := GS.v.c0; have z1 := GS.v.c1; have z2 := GS.v.c2; have z3 := GS.v.c3; have z4 := GS.v.c4; have z5 := GS.v.c5; have z6 := GS.v.c6; have z7 := GS.v.c7; have z8 := GS.v.c8)
                  | (go_at_call 23; refine (last13 GS.mm 0 lw true HLa.out HLw.out HLc.out).mono ?_; rintro e w9 ⟨rfl, b9⟩; have GS := GS.grown b9; have aa := aa.grown b9; have z0 := GS.v.c0; have z1 := GS.v.c1; have z2 := GS.v.c2; have z3 := GS.v.c3; have z4 := GS.v.c4; have z5 := GS.v.c5; have z6 := GS.v.c6; have z7 := GS.v.c7; have z8 := GS.v.c8)
                  | (go_at_call 11; refine (lepoch_any _).mono ?_; rintro e w7 ⟨rfl, rfl⟩))
                have hW2 : Hid (Tw s2) := HT.out.adv e2
                clear e2 stp
                have GG := GS
                clear GS A2
                refine wp_over (fun W => Gd w W L E 4 1 2 30 0 s2) GG ?_
                clear GG z0 z1 z2 z3 z4 z5 z6 z7 z8
                rintro W G1
                refine wp_region_rely_tail Grown 10 [.val (.pointer (some ⟨E, 7, none⟩)), .val (.pointer (some ⟨L.p, 0, none⟩)), .val (.pointer (some ⟨E, 0, none⟩)), .val (.agg #[.int .i64 4, .int .i64 1, .int .i64 2, .int .i64 30, .int .i64 100, .int .i64 600, .int .i64 3]), .val (.int .i64 12), .val (.int .i64 a), .val (.int .i64 y), .val (.int .i64 U), .val (.agg #[.int .i64 3, .int .i64 0, .int .i64 U, .int .i64 0]), .val (.int .u64 cw)] (by kernel_rfl) Grown.refl Grown.trans (by decide) (by kernel_rfl) (by kernel_rfl) (by kernel_rfl) (by kernel_rfl) (by kernel_rfl) (by kernel_rfl) ?_
                simp only [List.take_succ_cons, List.take_zero, relyAll, Act.put, List.setIfInBounds_toArray, List.set_cons_zero, List.set_cons_succ]
                refine ⟨?_, ?_, ?_, ?_, ?_, ?_, ?_, ?_, ?_, ?_, ?_⟩
                · intro w' hg _
                  refine Or.inl ⟨rfl, ?_⟩
                  go_simp
                  exact ⟨Grown.refl _, rfl⟩
                · intro w' hg _
                  refine Or.inl ⟨rfl, ?_⟩
                  have vv := (G1.drew.grown hg).v
                  have y0 := vv.c0
                  have y1 := vv.c1
                  have y2 := vv.c2
                  have y3 := vv.c3
                  have y4 := vv.c4
                  have y5 := vv.c5
                  have y6 := vv.c6
                  have y7 := vv.c7
                  have y8 := vv.c8
                  go_simp
                  exact ⟨Grown.refl _, rfl⟩
                · intro w' hg _
                  refine Or.inl ⟨rfl, ?_⟩
                  go_simp
                  exact ⟨Grown.refl _, rfl⟩
                · intro w' hg _
                  refine Or.inl ⟨rfl, ?_⟩
                  have vv := (G1.drew.grown hg).v
                  have y0 := vv.c0
                  have y1 := vv.c1
                  have y2 := vv.c2
                  have y3 := vv.c3
                  have y4 := vv.c4
                  have y5 := vv.c5
                  have y6 := vv.c6
                  have y7 := vv.c7
                  have y8 := vv.c8
                  go_simp
                  exact ⟨Grown.refl _, rfl⟩
                · intro w' hg _
                  refine Or.inl ⟨rfl, ?_⟩
                  go_simp
                  refine (lchunk_any _ _ _ _ _ _ _ 0 _ hGd.arena (by decide) (by decide)).mono ?_
                  rintro e w'' ⟨rfl, b9⟩
                  exact ⟨_, rfl, b9, congrArg (Value.int .i64) (by omega)⟩
                · intro w' hg _
                  refine Or.inl ⟨rfl, ?_⟩
                  go_simp
                  exact ⟨Grown.refl _, rfl⟩
                · intro w' hg _
                  refine Or.inl ⟨rfl, ?_⟩
                  go_simp
                  exact ⟨Grown.refl _, rfl⟩
                · intro w' hg _
                  refine Or.inl ⟨rfl, ?_⟩
                  go_simp
                  exact ⟨Grown.refl _, congrArg (Value.int .i64) (by rw [IntKind.wrap_i64]; omega)⟩
                · intro w' hg _
                  refine Or.inl ⟨rfl, ?_⟩
                  go_simp
                  exact ⟨Grown.refl _, rfl⟩
                · intro w' hg _
                  refine Or.inl ⟨rfl, ?_⟩
                  go_simp
                  refine (pc _).mono ?_
                  rintro e w'' ⟨rfl, b9⟩
                  exact ⟨_, rfl, b9, rfl⟩
                intro w5 hg _
                have GG := G1.drew.grown hg
                clear hg G1
                go_wp2_with (go_at_call 10; refine (store_in GG.mm 12 (by rw [hW2.out.n]; decide) cw).mono ?_; rintro e w6 ⟨rfl, m6, o6, -⟩; have GG := GG.mem o6 m6)
                refine wp_over (fun W => Gd w W L E 4 1 2 30 0 (s2.step 12 cw)) GG ?_
                clear GG m6 o6
                rintro W G1
                refine wp_region_rely_tail Grown 3 [.val (.pointer (some ⟨E, 7, none⟩)), .val (.pointer (some ⟨L.p, 0, none⟩)), .val (.int .i64 0)] (by kernel_rfl) Grown.refl Grown.trans (by decide) (by kernel_rfl) (by kernel_rfl) (by kernel_rfl) (by kernel_rfl) (by kernel_rfl) (by kernel_rfl) ?_
                simp only [List.take_succ_cons, List.take_zero, relyAll, Act.put, List.setIfInBounds_toArray, List.set_cons_zero, List.set_cons_succ]
                refine ⟨?_, ?_, ?_, ?_⟩
                · intro w' hg _
                  refine Or.inl ⟨rfl, ?_⟩
                  go_simp
                  exact ⟨Grown.refl _, rfl⟩
                · intro w' hg _
                  refine Or.inl ⟨rfl, ?_⟩
                  have vv := (G1.drew.grown hg).v
                  have y0 := vv.c0
                  have y1 := vv.c1
                  have y2 := vv.c2
                  have y3 := vv.c3
                  have y4 := vv.c4
                  have y5 := vv.c5
                  have y6 := vv.c6
                  have y7 := vv.c7
                  have y8 := vv.c8
                  go_simp
                  exact ⟨Grown.refl _, rfl⟩
                · intro w' hg _
                  refine Or.inl ⟨rfl, ?_⟩
                  go_simp
                  refine (lepoch_any _).mono ?_
                  rintro e w'' ⟨rfl, rfl⟩
                  exact ⟨_, rfl, Grown.refl _, rfl⟩
                intro w5 hg _
                have GG := G1.drew.grown hg
                clear hg G1
                obtain ⟨s3, hs3⟩ : ∃ s3, (s2.step 12 cw).step 0 9 = s3 := ⟨_, rfl⟩
                have HCw : Hid (Cw U s3) := by
                  unfold Hid
                  rw [← hs3, ← HCW.out]
                  exact hW2.out.lay U
                go_wp2_with (first
                  | (go_at_call 10; refine (store_in GG.mm 0 (show 0 < s2.n by rw [hW2.out.n]; decide) 9).mono ?_; rintro e w6 ⟨rfl, m6, o6, -⟩; have GG := GG.mem o6 m6; rw [hs3] at GG)
                  | (go_at_call 24; refine (newSettle_any _ _).mono ?_; rintro e w7 ⟨rfl, rfl⟩))
                have a7 := st_new 0 w6
                have G7 := GG.grown (gro1 _ (set0 ((0 : Nat) : Int)))
                have HK : Hid (¬ L.has w6.heap.size ∧ E ≠ w6.heap.size ∧ w.heap.size ≤ w6.heap.size) := ⟨fun hh => by have := GG.mm.lt _ hh; omega, (fun e => by have := GG.lt; omega), GG.b.size⟩
                obtain ⟨K, hK⟩ : ∃ K, w6.heap.size = K := ⟨_, rfl⟩
                rw [hK] at a7 HK
                try rw [hK]
                have HSeh : Hid (SeH 4 1 2 30 0 s3 ⟨3, 0, U, 0⟩) := HCw.out.seh (by omega)
                have A3 : Hid (∃ cs, Gd w (w6.alloc (set0 ((0 : Nat) : Int))) L E 4 1 2 30 0 s3 ∧ StAt (w6.alloc (set0 ((0 : Nat) : Int))) K 0 74 cs 0 .see) := by
                  obtain ⟨cs, q⟩ := a7
                  exact ⟨cs, G7, q⟩
                clear GG G7 a7 m6 o6 hs3 hW2 hK
                go_loopw [13] (fun i wr => ∃ (j : Nat) (s' : Mm) (d : Se) (cs : Array Value), i = .int .i64 j ∧ SeI 4 1 2 30 0 s3 ⟨3, 0, U, 0⟩ s' j d ∧ Gd w wr L E 4 1 2 30 0 s' ∧ StAt wr K 0 74 cs 0 d) (fun i _ => 60 - (intOf i).toNat)
                case atStart =>
                  obtain ⟨cs, h1, h2⟩ := A3.out
                  exact ⟨0, s3, .see, cs, rfl, ⟨rfl, rfl, rfl⟩, h1, h2⟩
                case round =>
                  clear A3
                  obtain ⟨j, s1, d, cs, rfl, hI, GG, a0⟩ := hrel
                  have hjle := hI.le
                  have hj6 : (j : Int) < 60 := by simp only at hjle; omega
                  obtain ⟨sg, hsg⟩ : ∃ x, s1.steps = x := ⟨_, rfl⟩
                  have HS1 : Hid (s1.steps = sg) := hsg
                  have hlo := hI.low HSeh.out
                  have HCk : Hid (s1.wd 12 = cw) := by unfold Hid; rw [← HCW.out]; exact hlo.1
                  obtain ⟨s2, d2, ht⟩ : ∃ s2 d2, seTurn 4 1 2 30 0 0 ⟨3, 0, U, 0⟩ s1 d = (s2, d2) := ⟨_, _, rfl⟩
                  have told := se_told (by simp only; omega) hI ht
                  rw [hsg] at told
                  have HSt : Hid (s2.steps = wrap64 (sg + 1)) := told.1
                  obtain ⟨la, hla⟩ : ∃ x, s2.la = x := ⟨_, rfl⟩
                  obtain ⟨lw, hlw⟩ : ∃ x, s2.lw = x := ⟨_, rfl⟩
                  obtain ⟨lc, hlc⟩ : ∃ x, s2.lc = x := ⟨_, rfl⟩
                  have HLa : Hid (s2.la = la) := hla
                  have HLw : Hid (s2.lw = lw) := hlw
                  have HLc : Hid (s2.lc = lc) := hlc
                  obtain ⟨ci, hof⟩ := lof13 la (by rw [← hla]; exact told.2)
                  have HOf : Hid (∀ w : World, Calls Try.prog 27 #[.agg #[.int .i64 4, .int .i64 1, .int .i64 2, .int .i64 30, .int .i64 100, .int .i64 600, .int .i64 3], .int .i64 la] w fun e w' => e = .returned (.int .i64 ci) ∧ Below w.heap.size w w') := hof
                  clear hof hla hlw hlc told hsg
                  have y0 := GG.v.c0
                  have y1 := GG.v.c1
                  have y2 := GG.v.c2
                  have y3 := GG.v.c3
                  have y4 := GG.v.c4
                  have y5 := GG.v.c5
                  have y6 := GG.v.c6
                  have y7 := GG.v.c7
                  have y8 := GG.v.c8
                  go_wp2
                  refine wp_over (fun W => Gd w W L E 4 1 2 30 0 s1 ∧ StAt W K 0 74 cs 0 d) ⟨GG, a0⟩ ?_
                  clear GG a0 y0 y1 y2 y3 y4 y5 y6 y7 y8
                  rintro W ⟨G1, a1⟩
                  refine wp_region_rely Grown [.val (.agg #[.int .i64 4, .int .i64 1, .int .i64 2, .int .i64 30, .int .i64 100, .int .i64 600, .int .i64 3, .pointer (some ⟨L.p, 0, none⟩), .int .i64 0]), .val (.int .i64 sg), .val (.pointer (some ⟨E, 7, none⟩)), .val (.pointer (some ⟨L.p, 0, none⟩)), .val (.pointer (some ⟨E, 0, none⟩)), .val (.agg #[.int .i64 4, .int .i64 1, .int .i64 2, .int .i64 30, .int .i64 100, .int .i64 600, .int .i64 3]), .val (.int .i64 12), .val (.int .u64 cw), .val (.agg #[.int .i64 3, .int .i64 0, .int .i64 U, .int .i64 0]), .val (.int .i64 3), .val (.int .i64 sg), .val (.int .i64 3)] (by kernel_rfl) Grown.refl Grown.trans (by kernel_rfl) (by kernel_rfl) (by kernel_rfl) ?_
                  simp only [relyAll, Act.put, List.setIfInBounds_toArray, List.set_cons_zero, List.set_cons_succ]
                  refine ⟨?_, ?_, ?_, ?_, ?_, ?_, ?_, ?_, ?_, ?_, ?_, ?_, ?_⟩
                  · intro w' hg _
                    refine Or.inl ⟨rfl, ?_⟩
                    have vv := (G1.drew.grown hg).v
                    have y0 := vv.c0
                    have y1 := vv.c1
                    have y2 := vv.c2
                    have y3 := vv.c3
                    have y4 := vv.c4
                    have y5 := vv.c5
                    have y6 := vv.c6
                    have y7 := vv.c7
                    have y8 := vv.c8
                    go_simp
                    exact ⟨Grown.refl _, rfl⟩
                  · intro w' hg _
                    refine Or.inl ⟨rfl, ?_⟩
                    go_simp
                    refine (now13 (G1.drew.grown hg).mm _ _ _ _ _ _ _ _ _ HS1.out).mono ?_
                    rintro e w'' ⟨rfl, b9⟩
                    exact ⟨_, rfl, b9, rfl⟩
                  · intro w' hg _
                    refine Or.inl ⟨rfl, ?_⟩
                    go_simp
                    exact ⟨Grown.refl _, rfl⟩
                  · intro w' hg _
                    refine Or.inl ⟨rfl, ?_⟩
                    have vv := (G1.drew.grown hg).v
                    have y0 := vv.c0
                    have y1 := vv.c1
                    have y2 := vv.c2
                    have y3 := vv.c3
                    have y4 := vv.c4
                    have y5 := vv.c5
                    have y6 := vv.c6
                    have y7 := vv.c7
                    have y8 := vv.c8
                    go_simp
                    exact ⟨Grown.refl _, rfl⟩
                  · intro w' hg _
                    refine Or.inl ⟨rfl, ?_⟩
                    go_simp
                    exact ⟨Grown.refl _, rfl⟩
                  · intro w' hg _
                    refine Or.inl ⟨rfl, ?_⟩
                    have vv := (G1.drew.grown hg).v
                    have y0 := vv.c0
                    have y1 := vv.c1
                    have y2 := vv.c2
                    have y3 := vv.c3
                    have y4 := vv.c4
                    have y5 := vv.c5
                    have y6 := vv.c6
                    have y7 := vv.c7
                    have y8 := vv.c8
                    go_simp
                    exact ⟨Grown.refl _, rfl⟩
                  · intro w' hg _
                    refine Or.inl ⟨rfl, ?_⟩
                    go_simp
                    refine (lchunk_any _ _ _ _ _ _ _ 0 _ hGd.arena (by decide) (by decide)).mono ?_
                    rintro e w'' ⟨rfl, b9⟩
                    exact ⟨_, rfl, b9, congrArg (Value.int .i64) (by omega)⟩
                  · intro w' hg _
                    refine Or.inl ⟨rfl, ?_⟩
                    go_simp
                    refine (peek_is (G1.drew.grown hg).mm 12 (show 12 < s1.n by rw [hI.len, HCw.out.n]; decide) cw (HCk.out)).mono ?_
                    rintro e w'' ⟨rfl, rfl⟩
                    exact ⟨_, rfl, Grown.refl _, rfl⟩
                  · intro w' hg _
                    refine Or.inl ⟨rfl, ?_⟩
                    go_simp
                    refine (ckc _).mono ?_
                    rintro e w'' ⟨rfl, b9⟩
                    exact ⟨_, rfl, b9, rfl⟩
                  · intro w' hg _
                    refine Or.inl ⟨rfl, ?_⟩
                    go_simp
                    exact ⟨Grown.refl _, rfl⟩
                  · intro w' hg _
                    refine Or.inl ⟨rfl, ?_⟩
                    go_simp
                    exact ⟨Grown.refl _, rfl⟩
                  · intro w' hg _
                    refine Or.inl ⟨rfl, ?_⟩
                    go_simp
                    exact ⟨Grown.refl _, rfl⟩
                  intro w3 hg _
                  have GG := G1.drew.grown hg
                  have a3 := (a1.grown ((Below.refl _ _).drew)).grown hg
                  clear hg G1 a1
                  have hl1 : arenaLen 4 1 2 30 ≤ s1.n := by rw [hI.len, HCw.out.n]; decide
                  have st := set_step GG.mm HK.out.1 a3 hGd hl1 (by decide) 0 hlo.1 HSeh.out.ok (by decide) (by rw [hlo.2]; exact HSeh.out.e1) (hI.good HSeh.out) hI.on s2 d2 ht
                  have y0 := GG.v.c0
                  have y1 := GG.v.c1
                  have y2 := GG.v.c2
                  have y3 := GG.v.c3
                  have y4 := GG.v.c4
                  have y5 := GG.v.c5
                  have y6 := GG.v.c6
                  have y7 := GG.v.c7
                  have y8 := GG.v.c8
                  have hh := se_turn 0 HSeh.out hI ht
                  clear hl1 hlo ht a3 hI
                  rcases hh with ⟨ho, I2⟩ | ⟨ho, e2⟩
                  · have st := st false ho
                    go_wp2_with (go_at_call 26; refine st.mono ?_; rintro e w4 ⟨rfl, cs2, A2⟩; have GS := GG.and A2.only A2.m HK.out.2.1 HK.out.2.2; have z0 := GS.v.c0; have z1 := GS.v.c1; have z2 := GS.v.c2; have z3 := GS.v.c3; have z4 := GS.v.c4; have z5 := GS.v.c5; have z6 := GS.v.c6; have z7 := GS.v.c7; have z8 := GS.v.c8)
                    clear st
                    cases hy : (ci == 0) with
                    | true =>
                      have hci : (ci == 0) = true := hy
                      have GG := GS
                      clear GS
                      refine wp_over (fun W => Gd w W L E 4 1 2 30 0 s2 ∧ StAt W K 0 74 cs2 0 d2) ⟨GG, A2.a⟩ ?_
                      clear GG A2 y0 y1 y2 y3 y4 y5 y6 y7 y8 z0 z1 z2 z3 z4 z5 z6 z7 z8 HCk
                      rintro W ⟨G1, a1⟩
                      refine wp_region_rely Grown [.val (.agg #[.int .i64 4, .int .i64 1, .int .i64 2, .int .i64 30, .int .i64 100, .int .i64 600, .int .i64 3, .pointer (some ⟨L.p, 0, none⟩), .int .i64 0]), .val (.int .i64 (wrap64 (sg + 1))), .val (.int .i64 sg), .val (.int .i64 (wrap64 (sg + 1))), .val (.bool false), .val (.bool false), .val (.pointer (some ⟨E, 0, none⟩)), .val (.agg #[.int .i64 4, .int .i64 1, .int .i64 2, .int .i64 30, .int .i64 100, .int .i64 600, .int .i64 3]), .val (.pointer (some ⟨E, 7, none⟩)), .val (.pointer (some ⟨L.p, 0, none⟩)), .val (.agg #[.int .i64 la, .int .i64 lw, .bool lc]), .val (.int .i64 la), .val (.int .i64 ci), .val (.bool true), .val (.bool true), .val (.int .i64 3), .val (.bool false), .val (.bool false), .val (.bool false)] (by kernel_rfl) Grown.refl Grown.trans (by kernel_rfl) (by kernel_rfl) (by kernel_rfl) ?_
                      simp only [relyAll, Act.put, List.setIfInBounds_toArray, List.set_cons_zero, List.set_cons_succ]
                      refine ⟨?_, ?_, ?_, ?_, ?_, ?_, ?_, ?_, ?_, ?_, ?_, ?_, ?_, ?_, ?_, ?_, ?_, ?_, ?_, ?_⟩
                      · intro w' hg _
                        refine Or.inl ⟨rfl, ?_⟩
                        have vv := (G1.drew.grown hg).v
                        have y0 := vv.c0
                        have y1 := vv.c1
                        have y2 := vv.c2
                        have y3 := vv.c3
                        have y4 := vv.c4
                        have y5 := vv.c5
                        have y6 := vv.c6
                        have y7 := vv.c7
                        have y8 := vv.c8
                        go_simp
                        exact ⟨Grown.refl _, rfl⟩
                      · intro w' hg _
                        refine Or.inl ⟨rfl, ?_⟩
                        go_simp
                        refine (now13 (G1.drew.grown hg).mm _ _ _ _ _ _ _ _ _ HSt.out).mono ?_
                        rintro e w'' ⟨rfl, b9⟩
                        exact ⟨_, rfl, b9, rfl⟩
                      · intro w' hg _
                        refine Or.inl ⟨rfl, ?_⟩
                        go_simp
                        exact ⟨Grown.refl _, rfl⟩
                      · intro w' hg _
                        refine Or.inl ⟨rfl, ?_⟩
                        go_simp
                        exact ⟨Grown.refl _, congrArg (Value.int .i64) (wrapEq _)⟩
                      · intro w' hg _
                        refine Or.inl ⟨rfl, ?_⟩
                        go_simp
                        exact ⟨Grown.refl _, rfl⟩
                      · intro w' hg _
                        refine Or.inl ⟨rfl, ?_⟩
                        go_simp
                        exact ⟨Grown.refl _, rfl⟩
                      · intro w' hg _
                        refine Or.inl ⟨rfl, ?_⟩
                        go_simp
                        exact ⟨Grown.refl _, rfl⟩
                      · intro w' hg _
                        refine Or.inl ⟨rfl, ?_⟩
                        have vv := (G1.drew.grown hg).v
                        have y0 := vv.c0
                        have y1 := vv.c1
                        have y2 := vv.c2
                        have y3 := vv.c3
                        have y4 := vv.c4
                        have y5 := vv.c5
                        have y6 := vv.c6
                        have y7 := vv.c7
                        have y8 := vv.c8
                        go_simp
                        exact ⟨Grown.refl _, rfl⟩
                      · intro w' hg _
                        refine Or.inl ⟨rfl, ?_⟩
                        go_simp
                        exact ⟨Grown.refl _, rfl⟩
                      · intro w' hg _
                        refine Or.inl ⟨rfl, ?_⟩
                        have vv := (G1.drew.grown hg).v
                        have y0 := vv.c0
                        have y1 := vv.c1
                        have y2 := vv.c2
                        have y3 := vv.c3
                        have y4 := vv.c4
                        have y5 := vv.c5
                        have y6 := vv.c6
                        have y7 := vv.c7
                        have y8 := vv.c8
                        go_simp
                        exact ⟨Grown.refl _, rfl⟩
                      · intro w' hg _
                        refine Or.inl ⟨rfl, ?_⟩
                        go_simp
                        refine (last13 (G1.drew.grown hg).mm la lw lc HLa.out HLw.out HLc.out).mono ?_
                        rintro e w'' ⟨rfl, b9⟩
                        exact ⟨_, rfl, b9, rfl⟩
                      · intro w' hg _
                        refine Or.inl ⟨rfl, ?_⟩
                        go_simp
                        exact ⟨Grown.refl _, rfl⟩
                      · intro w' hg _
                        refine Or.inl ⟨rfl, ?_⟩
                        go_simp
                        refine (HOf.out _).mono ?_
                        rintro e w'' ⟨rfl, b9⟩
                        exact ⟨_, rfl, b9, rfl⟩
                      · intro w' hg _
                        refine Or.inl ⟨rfl, ?_⟩
                        have z := hci
                        go_simp
                        exact ⟨Grown.refl _, rfl⟩
                      · intro w' hg _
                        refine Or.inl ⟨rfl, ?_⟩
                        go_simp
                        exact ⟨Grown.refl _, rfl⟩
                      · intro w' hg _
                        refine Or.inl ⟨rfl, ?_⟩
                        go_simp
                        exact ⟨Grown.refl _, rfl⟩
                      · intro w' hg _
                        refine Or.inl ⟨rfl, ?_⟩
                        go_simp
                        exact ⟨Grown.refl _, rfl⟩
                      · intro w' hg _
                        refine Or.inl ⟨rfl, ?_⟩
                        go_simp
                        exact ⟨Grown.refl _, rfl⟩
                      · intro w' hg _
                        refine Or.inl ⟨rfl, ?_⟩
                        go_simp
                        exact ⟨Grown.refl _, rfl⟩
                      intro w7 hg _
                      have GG := G1.drew.grown hg
                      have aa := (a1.grown ((Below.refl _ _).drew)).grown hg
                      clear hg G1 a1 HOf hci HLa HLw HLc HSt
                      go_wp2
                      go_roundw
                      case rel => exact ⟨j + 1, s2, d2, cs2, by go_num, I2, GG, aa⟩
                      case measure => simp [intOf]; omega
                    | false =>
                      have hci : (ci == 0) = false := hy
                      have GG := GS
                      clear GS
                      refine wp_over (fun W => Gd w W L E 4 1 2 30 0 s2 ∧ StAt W K 0 74 cs2 0 d2) ⟨GG, A2.a⟩ ?_
                      clear GG A2 y0 y1 y2 y3 y4 y5 y6 y7 y8 z0 z1 z2 z3 z4 z5 z6 z7 z8 HCk
                      rintro W ⟨G1, a1⟩
                      refine wp_region_rely Grown [.val (.agg #[.int .i64 4, .int .i64 1, .int .i64 2, .int .i64 30, .int .i64 100, .int .i64 600, .int .i64 3, .pointer (some ⟨L.p, 0, none⟩), .int .i64 0]), .val (.int .i64 (wrap64 (sg + 1))), .val (.int .i64 sg), .val (.int .i64 (wrap64 (sg + 1))), .val (.bool false), .val (.bool false), .val (.pointer (some ⟨E, 0, none⟩)), .val (.agg #[.int .i64 4, .int .i64 1, .int .i64 2, .int .i64 30, .int .i64 100, .int .i64 600, .int .i64 3]), .val (.pointer (some ⟨E, 7, none⟩)), .val (.pointer (some ⟨L.p, 0, none⟩)), .val (.agg #[.int .i64 la, .int .i64 lw, .bool lc]), .val (.int .i64 la), .val (.int .i64 ci), .val (.bool false), .val (.bool false), .val undef, .val undef, .val (.bool false), .val (.bool false)] (by kernel_rfl) Grown.refl Grown.trans (by kernel_rfl) (by kernel_rfl) (by kernel_rfl) ?_
                      simp only [relyAll, Act.put, List.setIfInBounds_toArray, List.set_cons_zero, List.set_cons_succ]
                      refine ⟨?_, ?_, ?_, ?_, ?_, ?_, ?_, ?_, ?_, ?_, ?_, ?_, ?_, ?_, ?_, ?_, ?_, ?_, ?_, ?_⟩
                      · intro w' hg _
                        refine Or.inl ⟨rfl, ?_⟩
                        have vv := (G1.drew.grown hg).v
                        have y0 := vv.c0
                        have y1 := vv.c1
                        have y2 := vv.c2
                        have y3 := vv.c3
                        have y4 := vv.c4
                        have y5 := vv.c5
                        have y6 := vv.c6
                        have y7 := vv.c7
                        have y8 := vv.c8
                        go_simp
                        exact ⟨Grown.refl _, rfl⟩
                      · intro w' hg _
                        refine Or.inl ⟨rfl, ?_⟩
                        go_simp
                        refine (now13 (G1.drew.grown hg).mm _ _ _ _ _ _ _ _ _ HSt.out).mono ?_
                        rintro e w'' ⟨rfl, b9⟩
                        exact ⟨_, rfl, b9, rfl⟩
                      · intro w' hg _
                        refine Or.inl ⟨rfl, ?_⟩
                        go_simp
                        exact ⟨Grown.refl _, rfl⟩
                      · intro w' hg _
                        refine Or.inl ⟨rfl, ?_⟩
                        go_simp
                        exact ⟨Grown.refl _, congrArg (Value.int .i64) (wrapEq _)⟩
                      · intro w' hg _
                        refine Or.inl ⟨rfl, ?_⟩
                        go_simp
                        exact ⟨Grown.refl _, rfl⟩
                      · intro w' hg _
                        refine Or.inl ⟨rfl, ?_⟩
                        go_simp
                        exact ⟨Grown.refl _, rfl⟩
                      · intro w' hg _
                        refine Or.inl ⟨rfl, ?_⟩
                        go_simp
                        exact ⟨Grown.refl _, rfl⟩
                      · intro w' hg _
                        refine Or.inl ⟨rfl, ?_⟩
                        have vv := (G1.drew.grown hg).v
                        have y0 := vv.c0
                        have y1 := vv.c1
                        have y2 := vv.c2
                        have y3 := vv.c3
                        have y4 := vv.c4
                        have y5 := vv.c5
                        have y6 := vv.c6
                        have y7 := vv.c7
                        have y8 := vv.c8
                        go_simp
                        exact ⟨Grown.refl _, rfl⟩
                      · intro w' hg _
                        refine Or.inl ⟨rfl, ?_⟩
                        go_simp
                        exact ⟨Grown.refl _, rfl⟩
                      · intro w' hg _
                        refine Or.inl ⟨rfl, ?_⟩
                        have vv := (G1.drew.grown hg).v
                        have y0 := vv.c0
                        have y1 := vv.c1
                        have y2 := vv.c2
                        have y3 := vv.c3
                        have y4 := vv.c4
                        have y5 := vv.c5
                        have y6 := vv.c6
                        have y7 := vv.c7
                        have y8 := vv.c8
                        go_simp
                        exact ⟨Grown.refl _, rfl⟩
                      · intro w' hg _
                        refine Or.inl ⟨rfl, ?_⟩
                        go_simp
                        refine (last13 (G1.drew.grown hg).mm la lw lc HLa.out HLw.out HLc.out).mono ?_
                        rintro e w'' ⟨rfl, b9⟩
                        exact ⟨_, rfl, b9, rfl⟩
                      · intro w' hg _
                        refine Or.inl ⟨rfl, ?_⟩
                        go_simp
                        exact ⟨Grown.refl _, rfl⟩
                      · intro w' hg _
                        refine Or.inl ⟨rfl, ?_⟩
                        go_simp
                        refine (HOf.out _).mono ?_
                        rintro e w'' ⟨rfl, b9⟩
                        exact ⟨_, rfl, b9, rfl⟩
                      · intro w' hg _
                        refine Or.inl ⟨rfl, ?_⟩
                        have z := hci
                        go_simp
                        exact ⟨Grown.refl _, rfl⟩
                      · intro w' hg _
                        refine Or.inl ⟨rfl, ?_⟩
                        go_simp
                        exact ⟨Grown.refl _, rfl⟩
                      · intro w' hg _
                        exact Or.inr ⟨rfl, rfl⟩
                      · intro w' hg _
                        exact Or.inr ⟨rfl, rfl⟩
                      · intro w' hg _
                        refine Or.inl ⟨rfl, ?_⟩
                        go_simp
                        exact ⟨Grown.refl _, rfl⟩
                      · intro w' hg _
                        refine Or.inl ⟨rfl, ?_⟩
                        go_simp
                        exact ⟨Grown.refl _, rfl⟩
                      intro w7 hg _
                      have GG := G1.drew.grown hg
                      have aa := (a1.grown ((Below.refl _ _).drew)).grown hg
                      clear hg G1 a1 HOf hci HLa HLw HLc HSt
                      go_wp2
                      go_roundw
                      case rel => exact ⟨j + 1, s2, d2, cs2, by go_num, I2, GG, aa⟩
                      case measure => simp [intOf]; omega
                  · have st := st true ho
                    have hfr : d2.freed = true := by
                      cases hf : d2.freed with
                      | true => rfl
                      | false => exact absurd HCw.out.ripe (e2.no hf).1
                    clear e2
                    go_wp2_with (go_at_call 26; refine st.mono ?_; rintro e w4 ⟨rfl, cs2, A2⟩; have GS := GG.and A2.only A2.m HK.out.2.1 HK.out.2.2; have z0 := GS.v.c0; have z1 := GS.v.c1; have z2 := GS.v.c2; have z3 := GS.v.c3; have z4 := GS.v.c4; have z5 := GS.v.c5; have z6 := GS.v.c6; have z7 := GS.v.c7; have z8 := GS.v.c8)
                    clear st
                    cases hy : (ci == 0) with
                    | true =>
                      have hci : (ci == 0) = true := hy
                      have GG := GS
                      clear GS
                      refine wp_over (fun W => Gd w W L E 4 1 2 30 0 s2 ∧ StAt W K 0 74 cs2 0 d2) ⟨GG, A2.a⟩ ?_
                      clear GG A2 y0 y1 y2 y3 y4 y5 y6 y7 y8 z0 z1 z2 z3 z4 z5 z6 z7 z8 HCk
                      rintro W ⟨G1, a1⟩
                      refine wp_region_rely Grown [.val (.agg #[.int .i64 4, .int .i64 1, .int .i64 2, .int .i64 30, .int .i64 100, .int .i64 600, .int .i64 3, .pointer (some ⟨L.p, 0, none⟩), .int .i64 0]), .val (.int .i64 (wrap64 (sg + 1))), .val (.int .i64 sg), .val (.int .i64 (wrap64 (sg + 1))), .val (.bool false), .val (.bool false), .val (.pointer (some ⟨E, 0, none⟩)), .val (.agg #[.int .i64 4, .int .i64 1, .int .i64 2, .int .i64 30, .int .i64 100, .int .i64 600, .int .i64 3]), .val (.pointer (some ⟨E, 7, none⟩)), .val (.pointer (some ⟨L.p, 0, none⟩)), .val (.agg #[.int .i64 la, .int .i64 lw, .bool lc]), .val (.int .i64 la), .val (.int .i64 ci), .val (.bool true), .val (.bool true), .val (.int .i64 3), .val (.bool false), .val (.bool false), .val (.bool false)] (by kernel_rfl) Grown.refl Grown.trans (by kernel_rfl) (by kernel_rfl) (by kernel_rfl) ?_
                      simp only [relyAll, Act.put, List.setIfInBounds_toArray, List.set_cons_zero, List.set_cons_succ]
                      refine ⟨?_, ?_, ?_, ?_, ?_, ?_, ?_, ?_, ?_, ?_, ?_, ?_, ?_, ?_, ?_, ?_, ?_, ?_, ?_, ?_⟩
                      · intro w' hg _
                        refine Or.inl ⟨rfl, ?_⟩
                        have vv := (G1.drew.grown hg).v
                        have y0 := vv.c0
                        have y1 := vv.c1
                        have y2 := vv.c2
                        have y3 := vv.c3
                        have y4 := vv.c4
                        have y5 := vv.c5
                        have y6 := vv.c6
                        have y7 := vv.c7
                        have y8 := vv.c8
                        go_simp
                        exact ⟨Grown.refl _, rfl⟩
                      · intro w' hg _
                        refine Or.inl ⟨rfl, ?_⟩
                        go_simp
                        refine (now13 (G1.drew.grown hg).mm _ _ _ _ _ _ _ _ _ HSt.out).mono ?_
                        rintro e w'' ⟨rfl, b9⟩
                        exact ⟨_, rfl, b9, rfl⟩
                      · intro w' hg _
                        refine Or.inl ⟨rfl, ?_⟩
                        go_simp
                        exact ⟨Grown.refl _, rfl⟩
                      · intro w' hg _
                        refine Or.inl ⟨rfl, ?_⟩
                        go_simp
                        exact ⟨Grown.refl _, congrArg (Value.int .i64) (wrapEq _)⟩
                      · intro w' hg _
                        refine Or.inl ⟨rfl, ?_⟩
                        go_simp
                        exact ⟨Grown.refl _, rfl⟩
                      · intro w' hg _
                        refine Or.inl ⟨rfl, ?_⟩
                        go_simp
                        exact ⟨Grown.refl _, rfl⟩
                      · intro w' hg _
                        refine Or.inl ⟨rfl, ?_⟩
                        go_simp
                        exact ⟨Grown.refl _, rfl⟩
                      · intro w' hg _
                        refine Or.inl ⟨rfl, ?_⟩
                        have vv := (G1.drew.grown hg).v
                        have y0 := vv.c0
                        have y1 := vv.c1
                        have y2 := vv.c2
                        have y3 := vv.c3
                        have y4 := vv.c4
                        have y5 := vv.c5
                        have y6 := vv.c6
                        have y7 := vv.c7
                        have y8 := vv.c8
                        go_simp
                        exact ⟨Grown.refl _, rfl⟩
                      · intro w' hg _
                        refine Or.inl ⟨rfl, ?_⟩
                        go_simp
                        exact ⟨Grown.refl _, rfl⟩
                      · intro w' hg _
                        refine Or.inl ⟨rfl, ?_⟩
                        have vv := (G1.drew.grown hg).v
                        have y0 := vv.c0
                        have y1 := vv.c1
                        have y2 := vv.c2
                        have y3 := vv.c3
                        have y4 := vv.c4
                        have y5 := vv.c5
                        have y6 := vv.c6
                        have y7 := vv.c7
                        have y8 := vv.c8
                        go_simp
                        exact ⟨Grown.refl _, rfl⟩
                      · intro w' hg _
                        refine Or.inl ⟨rfl, ?_⟩
                        go_simp
                        refine (last13 (G1.drew.grown hg).mm la lw lc HLa.out HLw.out HLc.out).mono ?_
                        rintro e w'' ⟨rfl, b9⟩
                        exact ⟨_, rfl, b9, rfl⟩
                      · intro w' hg _
                        refine Or.inl ⟨rfl, ?_⟩
                        go_simp
                        exact ⟨Grown.refl _, rfl⟩
                      · intro w' hg _
                        refine Or.inl ⟨rfl, ?_⟩
                        go_simp
                        refine (HOf.out _).mono ?_
                        rintro e w'' ⟨rfl, b9⟩
                        exact ⟨_, rfl, b9, rfl⟩
                      · intro w' hg _
                        refine Or.inl ⟨rfl, ?_⟩
                        have z := hci
                        go_simp
                        exact ⟨Grown.refl _, rfl⟩
                      · intro w' hg _
                        refine Or.inl ⟨rfl, ?_⟩
                        go_simp
                        exact ⟨Grown.refl _, rfl⟩
                      · intro w' hg _
                        refine Or.inl ⟨rfl, ?_⟩
                        go_simp
                        exact ⟨Grown.refl _, rfl⟩
                      · intro w' hg _
                        refine Or.inl ⟨rfl, ?_⟩
                        go_simp
                        exact ⟨Grown.refl _, rfl⟩
                      · intro w' hg _
                        refine Or.inl ⟨rfl, ?_⟩
                        go_simp
                        exact ⟨Grown.refl _, rfl⟩
                      · intro w' hg _
                        refine Or.inl ⟨rfl, ?_⟩
                        go_simp
                        exact ⟨Grown.refl _, rfl⟩
                      intro w7 hg _
                      have GG := G1.drew.grown hg
                      have aa := (a1.grown ((Below.refl _ _).drew)).grown hg
                      clear hg G1 a1 HOf hci HLa HLw HLc HSt
                      go_wp2_with (first
                        | (go_at_call_of 28 (Value.pointer (some ({ block := K, off := 0, spot := none } : Addr))); refine (freed_at aa ho).mono ?_; rintro e w8 ⟨rfl, rfl⟩; rw [hfr])
                        | (go_at_call 29; refine (went_nil _).mono ?_; rintro e w8 ⟨rfl, rfl⟩)
                        | (go_at_call 28; refine (freed_nil _).mono ?_; rintro e w8 ⟨rfl, rfl⟩))
                      go_ret
                      exact ⟨rfl, GG.b⟩
                    | false =>
                      have hci : (ci == 0) = false := hy
                      have GG := GS
                      clear GS
                      refine wp_over (fun W => Gd w W L E 4 1 2 30 0 s2 ∧ StAt W K 0 74 cs2 0 d2) ⟨GG, A2.a⟩ ?_
                      clear GG A2 y0 y1 y2 y3 y4 y5 y6 y7 y8 z0 z1 z2 z3 z4 z5 z6 z7 z8 HCk
                      rintro W ⟨G1, a1⟩
                      refine wp_region_rely Grown [.val (.agg #[.int .i64 4, .int .i64 1, .int .i64 2, .int .i64 30, .int .i64 100, .int .i64 600, .int .i64 3, .pointer (some ⟨L.p, 0, none⟩), .int .i64 0]), .val (.int .i64 (wrap64 (sg + 1))), .val (.int .i64 sg), .val (.int .i64 (wrap64 (sg + 1))), .val (.bool false), .val (.bool false), .val (.pointer (some ⟨E, 0, none⟩)), .val (.agg #[.int .i64 4, .int .i64 1, .int .i64 2, .int .i64 30, .int .i64 100, .int .i64 600, .int .i64 3]), .val (.pointer (some ⟨E, 7, none⟩)), .val (.pointer (some ⟨L.p, 0, none⟩)), .val (.agg #[.int .i64 la, .int .i64 lw, .bool lc]), .val (.int .i64 la), .val (.int .i64 ci), .val (.bool false), .val (.bool false), .val undef, .val undef, .val (.bool false), .val (.bool false)] (by kernel_rfl) Grown.refl Grown.trans (by kernel_rfl) (by kernel_rfl) (by kernel_rfl) ?_
                      simp only [relyAll, Act.put, List.setIfInBounds_toArray, List.set_cons_zero, List.set_cons_succ]
                      refine ⟨?_, ?_, ?_, ?_, ?_, ?_, ?_, ?_, ?_, ?_, ?_, ?_, ?_, ?_, ?_, ?_, ?_, ?_, ?_, ?_⟩
                      · intro w' hg _
                        refine Or.inl ⟨rfl, ?_⟩
                        have vv := (G1.drew.grown hg).v
                        have y0 := vv.c0
                        have y1 := vv.c1
                        have y2 := vv.c2
                        have y3 := vv.c3
                        have y4 := vv.c4
                        have y5 := vv.c5
                        have y6 := vv.c6
                        have y7 := vv.c7
                        have y8 := vv.c8
                        go_simp
                        exact ⟨Grown.refl _, rfl⟩
                      · intro w' hg _
                        refine Or.inl ⟨rfl, ?_⟩
                        go_simp
                        refine (now13 (G1.drew.grown hg).mm _ _ _ _ _ _ _ _ _ HSt.out).mono ?_
                        rintro e w'' ⟨rfl, b9⟩
                        exact ⟨_, rfl, b9, rfl⟩
                      · intro w' hg _
                        refine Or.inl ⟨rfl, ?_⟩
                        go_simp
                        exact ⟨Grown.refl _, rfl⟩
                      · intro w' hg _
                        refine Or.inl ⟨rfl, ?_⟩
                        go_simp
                        exact ⟨Grown.refl _, congrArg (Value.int .i64) (wrapEq _)⟩
                      · intro w' hg _
                        refine Or.inl ⟨rfl, ?_⟩
                        go_simp
                        exact ⟨Grown.refl _, rfl⟩
                      · intro w' hg _
                        refine Or.inl ⟨rfl, ?_⟩
                        go_simp
                        exact ⟨Grown.refl _, rfl⟩
                      · intro w' hg _
                        refine Or.inl ⟨rfl, ?_⟩
                        go_simp
                        exact ⟨Grown.refl _, rfl⟩
                      · intro w' hg _
                        refine Or.inl ⟨rfl, ?_⟩
                        have vv := (G1.drew.grown hg).v
                        have y0 := vv.c0
                        have y1 := vv.c1
                        have y2 := vv.c2
                        have y3 := vv.c3
                        have y4 := vv.c4
                        have y5 := vv.c5
                        have y6 := vv.c6
                        have y7 := vv.c7
                        have y8 := vv.c8
                        go_simp
                        exact ⟨Grown.refl _, rfl⟩
                      · intro w' hg _
                        refine Or.inl ⟨rfl, ?_⟩
                        go_simp
                        exact ⟨Grown.refl _, rfl⟩
                      · intro w' hg _
                        refine Or.inl ⟨rfl, ?_⟩
                        have vv := (G1.drew.grown hg).v
                        have y0 := vv.c0
                        have y1 := vv.c1
                        have y2 := vv.c2
                        have y3 := vv.c3
                        have y4 := vv.c4
                        have y5 := vv.c5
                        have y6 := vv.c6
                        have y7 := vv.c7
                        have y8 := vv.c8
                        go_simp
                        exact ⟨Grown.refl _, rfl⟩
                      · intro w' hg _
                        refine Or.inl ⟨rfl, ?_⟩
                        go_simp
                        refine (last13 (G1.drew.grown hg).mm la lw lc HLa.out HLw.out HLc.out).mono ?_
                        rintro e w'' ⟨rfl, b9⟩
                        exact ⟨_, rfl, b9, rfl⟩
                      · intro w' hg _
                        refine Or.inl ⟨rfl, ?_⟩
                        go_simp
                        exact ⟨Grown.refl _, rfl⟩
                      · intro w' hg _
                        refine Or.inl ⟨rfl, ?_⟩
                        go_simp
                        refine (HOf.out _).mono ?_
                        rintro e w'' ⟨rfl, b9⟩
                        exact ⟨_, rfl, b9, rfl⟩
                      · intro w' hg _
                        refine Or.inl ⟨rfl, ?_⟩
                        have z := hci
                        go_simp
                        exact ⟨Grown.refl _, rfl⟩
                      · intro w' hg _
                        refine Or.inl ⟨rfl, ?_⟩
                        go_simp
                        exact ⟨Grown.refl _, rfl⟩
                      · intro w' hg _
                        exact Or.inr ⟨rfl, rfl⟩
                      · intro w' hg _
                        exact Or.inr ⟨rfl, rfl⟩
                      · intro w' hg _
                        refine Or.inl ⟨rfl, ?_⟩
                        go_simp
                        exact ⟨Grown.refl _, rfl⟩
                      · intro w' hg _
                        refine Or.inl ⟨rfl, ?_⟩
                        go_simp
                        exact ⟨Grown.refl _, rfl⟩
                      intro w7 hg _
                      have GG := G1.drew.grown hg
                      have aa := (a1.grown ((Below.refl _ _).drew)).grown hg
                      clear hg G1 a1 HOf hci HLa HLw HLc HSt
                      go_wp2_with (first
                        | (go_at_call_of 28 (Value.pointer (some ({ block := K, off := 0, spot := none } : Addr))); refine (freed_at aa ho).mono ?_; rintro e w8 ⟨rfl, rfl⟩; rw [hfr])
                        | (go_at_call 29; refine (went_nil _).mono ?_; rintro e w8 ⟨rfl, rfl⟩)
                        | (go_at_call 28; refine (freed_nil _).mono ?_; rintro e w8 ⟨rfl, rfl⟩))
                      go_ret
                      exact ⟨rfl, GG.b⟩

end Go.Proofs.Ytameeiabnkblmaa
