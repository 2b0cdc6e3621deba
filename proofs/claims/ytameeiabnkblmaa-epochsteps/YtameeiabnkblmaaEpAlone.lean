/- The epoch goes on, and chunks settle, alone: what many steps come to, told without a program; the statements' own helpers advance and settle. -/
import Derived.Test.YtameeiabnkblmaaEpTurn
import Derived.Test.YtameeiabnkblmaaArena04
namespace Go.Proofs.Ytameeiabnkblmaa
open Go.RowKit

/-- by its pins the epoch may go on -/
def goesB (t : Nat) (f : Nat → Int) : Bool := decide (∀ j, j < t → stopB (f (6 + j)) (f 0) = false)

/-- what is known while it asks -/
def AdI (t : Nat) (s0 s : Mm) (i : Nat) : Ad → Prop
  | .first => s.n = s0.n ∧ s.wd = s0.wd ∧ i = 0
  | .ask E j => s.n = s0.n ∧ s.wd = s0.wd ∧ E = s0.wd 0 ∧ i = j + 1 ∧ j ≤ t ∧ ∀ q, q < j → stopB (s0.wd (6 + q)) (s0.wd 0) = false
  | .over _ => False

/-- what is known when it is over -/
structure AdEnd (t : Nat) (s0 s : Mm) (x : Bool) : Prop where
  n : s.n = s0.n
  is : x = goesB t s0.wd
  wd : s.wd = if x = true then upd s0.wd 0 (sum64 (s0.wd 0) 1) else s0.wd

section
variable {t : Nat} {s0 s : Mm} {i : Nat} {d : Ad}

theorem AdI.on (h : AdI t s0 s i d) : d.over? = false := by
  cases d with
  | over x => exact h.elim
  | _ => rfl

theorem AdI.n (h : AdI t s0 s i d) : s.n = s0.n := by
  cases d with
  | over x => exact h.elim
  | first => exact h.1
  | ask E j => exact h.1

theorem AdI.le (h : AdI t s0 s i d) : i ≤ t + 1 := by
  cases d with
  | over x => exact h.elim
  | first => have := h.2.2; omega
  | ask E j => obtain ⟨-, -, -, h1, h2, -⟩ := h; omega

theorem load_wd (who : Int) (s : Mm) (a : Nat) : ((s.by who).step a (s.wd a)).wd = s.wd := upd_id _ _

theorem ad_turn (who : Int) (h : AdI t s0 s i d) {s' : Mm} {d' : Ad} (ht : adTurn t who s d = (s', d')) :
    (d'.over? = false ∧ AdI t s0 s' (i + 1) d') ∨ (d'.over? = true ∧ AdEnd t s0 s' d'.went) := by
  cases d with
  | over x => exact h.elim
  | first =>
    obtain ⟨hn, hw, rfl⟩ := h
    obtain ⟨rfl, rfl⟩ := Prod.mk.inj ht
    exact Or.inl ⟨rfl, hn, (load_wd _ _ _).trans hw, by rw [hw], rfl, Nat.zero_le _, fun q hq => absurd hq (Nat.not_lt_zero _)⟩
  | ask E j =>
    obtain ⟨hn, hw, rfl, rfl, hj, hq⟩ := h
    simp only [adTurn] at ht
    by_cases hjt : j < t
    · rw [if_pos hjt] at ht
      obtain ⟨rfl, hd⟩ := Prod.mk.inj ht
      have hw' : ((s.by who).step (6 + j) (s.wd (6 + j))).wd = s0.wd := (load_wd _ _ _).trans hw
      rw [hw] at hd
      by_cases hs : stopB (s0.wd (6 + j)) (s0.wd 0) = true
      · rw [if_pos hs] at hd
        subst hd
        refine Or.inr ⟨rfl, hn, ?_, ?_⟩
        · show false = goesB t s0.wd
          refine (decide_eq_false fun hh => ?_).symm
          rw [hh j hjt] at hs; cases hs
        · rw [if_neg (by simp [Ad.went])]; exact hw'
      · rw [if_neg hs] at hd
        subst hd
        refine Or.inl ⟨rfl, hn, hw', rfl, rfl, by omega, fun q hq' => ?_⟩
        by_cases e : q = j
        · subst e; simpa using hs
        · exact hq q (by omega)
    · rw [if_neg hjt] at ht
      obtain ⟨rfl, rfl⟩ := Prod.mk.inj ht
      obtain rfl : t = j := by omega
      have hg : goesB t s0.wd = true := decide_eq_true hq
      have he : s.wd 0 = s0.wd 0 := by rw [hw]
      refine Or.inr ⟨rfl, ?_, ?_, ?_⟩
      · unfold Mm.cas; split <;> exact hn
      · show decide (s.wd 0 = s0.wd 0) = _
        rw [decide_eq_true he, hg]
      · rw [if_pos (show (Ad.over (decide (s.wd 0 = s0.wd 0))).went = true from decide_eq_true he)]
        unfold Mm.cas
        rw [if_pos (show (s.by who).wd 0 = s0.wd 0 from he)]
        show upd s.wd 0 _ = _
        rw [hw]
end

theorem Only.drop {L : Loc} {b : Nat} {w w' : World} (h : Only (L.and b) w w') (hb : w.heap.size ≤ b) : Only L.has w w' := h.mono fun i hi k => k.elim id fun e => by omega

def adv0 : Obj := .cells #[.bool false, .int .u64 0, .int .i64 0, .bool false, .bool false] 54

theorem adv0_at (w : World) : ∃ cs, AdAt (w.alloc adv0) w.heap.size 0 54 cs .first :=
  ⟨_, _, ⟨Go.Deep.blk_alloc_new _ _, rfl, rfl, rfl, rfl, rfl⟩, rfl⟩

section
variable {w : World} {L : Loc} {s : Mm} {t n k m : Nat} {g p r : Int}

set_option maxHeartbeats 1000000 in
theorem advance_any (h : MemAt w L s) (hG : Good t n k m g p r) (hl : arenaLen t n k m ≤ s.n) (who : Int) (x : Bool) (hx : goesB t s.wd = x) :
    Calls Try.prog 13 #[.agg #[.int .i64 t, .int .i64 n, .int .i64 k, .int .i64 m, .int .i64 g, .int .i64 p, .int .i64 r, .pointer (some ⟨L.p, 0, none⟩), .int .i64 who]] w fun e w' => e = .returned (.bool x) ∧ ∃ s', MemAt w' L s' ∧ AdEnd t s s' x ∧ Only L.has w w' := by
  have HX : Hid (goesB t s.wd = x) := hx
  have hG1 := hG.t1
  clear hx
  obtain ⟨cs0, a0⟩ := adv0_at (w.alloc (.cells #[.int .i64 t, .int .i64 n, .int .i64 k, .int .i64 m, .int .i64 g, .int .i64 p, .int .i64 r, .pointer (some ⟨L.p, 0, none⟩), .int .i64 who] 28))
  have m0 := (h.alloc (.cells #[.int .i64 t, .int .i64 n, .int .i64 k, .int .i64 m, .int .i64 g, .int .i64 p, .int .i64 r, .pointer (some ⟨L.p, 0, none⟩), .int .i64 who] 28)).alloc adv0
  have v0 : BoxV ((w.alloc (.cells #[.int .i64 t, .int .i64 n, .int .i64 k, .int .i64 m, .int .i64 g, .int .i64 p, .int .i64 r, .pointer (some ⟨L.p, 0, none⟩), .int .i64 who] 28)).alloc adv0) w.heap.size t n k m g p r L.p who := BoxV.newB _
  rw [Go.Deep.nblk_alloc] at a0
  have o0 : Only (L.and (w.heap.size + 1)) w ((w.alloc (.cells #[.int .i64 t, .int .i64 n, .int .i64 k, .int .i64 m, .int .i64 g, .int .i64 p, .int .i64 r, .pointer (some ⟨L.p, 0, none⟩), .int .i64 who] 28)).alloc adv0) := ((Only.refl _ _).alloc _).alloc _
  have hb : ¬ L.has (w.heap.size + 1) := fun hh => by have := h.lt _ hh; omega
  have hv : ¬ L.and (w.heap.size + 1) w.heap.size := fun hh => hh.elim (fun hh => by have := h.lt _ hh; omega) (by omega)
  unfold adv0 at a0 m0 v0 o0
  obtain ⟨B, hB⟩ : ∃ B, w.heap.size + 1 = B := ⟨_, rfl⟩
  rw [hB] at a0 hb hv o0
  go_enter Try.func13, Try.ntmps13
  go_wp2
  try rw [hB]
  have Z0 : Hid (∃ (s' : Mm) (d : Ad) (cs : Array Value), AdI t s s' 0 d ∧ MemAt _ L s' ∧ AdAt _ B 0 54 cs d ∧ BoxV _ w.heap.size t n k m g p r L.p who ∧ Only (L.and B) w _) := ⟨s, .first, cs0, ⟨rfl, rfl, rfl⟩, m0, a0, v0, o0⟩
  clear a0 m0 v0 o0
  go_loopw [4] (fun i wr => ∃ (j : Nat) (s' : Mm) (d : Ad) (cs : Array Value), i = .int .i64 j ∧ AdI t s s' j d ∧ MemAt wr L s' ∧ AdAt wr B 0 54 cs d ∧ BoxV wr w.heap.size t n k m g p r L.p who ∧ Only (L.and B) w wr) (fun i _ => 40 - (intOf i).toNat)
  case atStart =>
    obtain ⟨s', d, cs, h1, h2, h3, h4, h5⟩ := Z0.out
    exact ⟨0, s', d, cs, rfl, h1, h2, h3, h4, h5⟩
  case round =>
    clear Z0
    obtain ⟨j, s1, d, cs, rfl, hI, m1, a1, v1, o1⟩ := hrel
    have hj := hI.le
    have hj4 : (j : Int) < 40 := by omega
    have y0 := v1.c0
    have y1 := v1.c1
    have y2 := v1.c2
    have y3 := v1.c3
    have y4 := v1.c4
    have y5 := v1.c5
    have y6 := v1.c6
    have y7 := v1.c7
    have y8 := v1.c8
    obtain ⟨s2, d2, ht⟩ : ∃ s2 d2, adTurn t who s1 d = (s2, d2) := ⟨_, _, rfl⟩
    have st := adv_step m1 hb a1 hG (by rw [hI.n]; exact hl) who hI.on s2 d2 ht
    rcases ad_turn who hI ht with ⟨ho, I2⟩ | ⟨ho, E2⟩
    · have st := st false ho
      clear ht
      go_wp2_with (go_at_call 22; refine st.mono ?_; rintro e w2 ⟨rfl, cs2, A2⟩)
      go_roundw
      case rel => exact ⟨j + 1, s2, d2, cs2, by go_num, I2, A2.m, A2.a, v1.only A2.only hv, o1.trans A2.only⟩
      case measure => simp [intOf]; omega
    · have st := st true ho
      clear ht
      have hw : d2.went = x := E2.is.trans HX.out
      rw [hw] at E2
      go_wp2_with (first
        | (go_at_call 22; refine st.mono ?_; rintro e w2 ⟨rfl, cs2, A2⟩)
        | (go_at_call 29; refine (went_at A2.a ho).mono ?_; rintro e w3 ⟨rfl, rfl⟩; rw [hw]))
      go_ret
      exact ⟨rfl, s2, A2.m, E2, (o1.trans A2.only).drop (by omega)⟩
end

end Go.Proofs.Ytameeiabnkblmaa
