/- A chunk settles, alone: what many steps come to, told without a program; the statements' own helper settle. -/
import Derived.Test.YtameeiabnkblmaaEpAlone
namespace Go.Proofs.Ytameeiabnkblmaa
open Go.RowKit

/-- the first words of a chunk are laid 0 -/
def zer (f : Nat → Int) (B j : Nat) (a : Nat) : Int := if B ≤ a ∧ a < B + j then 0 else f a

theorem zer_low (f : Nat → Int) {B j a : Nat} (h : a < B) : zer f B j a = f a := by unfold zer; rw [if_neg (by omega)]
theorem zer_in (f : Nat → Int) {B j q : Nat} (h : q < j) : zer f B j (B + q) = 0 := by unfold zer; rw [if_pos (by omega)]
theorem zer_zero (f : Nat → Int) (B : Nat) : zer f B 0 = f := by funext a; unfold zer; rw [if_neg (by omega)]
theorem zer_succ (f : Nat → Int) (B j : Nat) : upd (zer f B j) (B + j) 0 = zer f B (j + 1) := by
  funext a
  by_cases e : a = B + j
  · subst e; rw [upd_same]; unfold zer; rw [if_pos (by omega)]
  · rw [upd_other _ _ _ _ e]; unfold zer
    by_cases h : B ≤ a ∧ a < B + j
    · rw [if_pos h, if_pos (by omega)]
    · rw [if_neg h, if_neg (by omega)]

/-- a chunk that may be settled: its word, when it was evacuated, and the epoch -/
structure SeH (t n k m i : Nat) (s0 : Mm) (c0 : Ck) : Prop where
  ik : i < k
  c : s0.wd (ckAt t n i) = c0.w
  ok : c0.ok 2000000
  us : c0.us ≤ m
  sp : c0.sp < 2000000
  e1 : s0.wd 0 < 18446744073709551616
  si : 0 ≤ s0.wd (ckAt t n i + 2)

/-- its time has come -/
def Ripe (t n i : Nat) (s0 : Mm) (c0 : Ck) : Prop := c0.st = 3 ∧ s0.wd (ckAt t n i + 2) + 2 ≤ s0.wd 0

instance (t n i : Nat) (s0 : Mm) (c0 : Ck) : Decidable (Ripe t n i s0 c0) := by unfold Ripe; infer_instance

/-- what is known behind so many steps -/
def SeI (t n k m i : Nat) (s0 : Mm) (c0 : Ck) (s : Mm) (cnt : Nat) : Se → Prop
  | .see => s.n = s0.n ∧ s.wd = s0.wd ∧ cnt = 0
  | .ask c => s.n = s0.n ∧ s.wd = s0.wd ∧ cnt = 1 ∧ c = c0 ∧ c0.st = 3
  | .look c S => s.n = s0.n ∧ s.wd = s0.wd ∧ cnt = 2 ∧ c = c0 ∧ c0.st = 3 ∧ S = s0.wd (ckAt t n i + 2)
  | .clear c j => s.n = s0.n ∧ s.wd = zer s0.wd (bsAt t n k m i) j ∧ cnt = 3 + j ∧ c = c0 ∧ Ripe t n i s0 c0 ∧ j ≤ c0.us
  | .free c => s.n = s0.n ∧ s.wd = upd (zer s0.wd (bsAt t n k m i) c0.us) (ckAt t n i + 1) 0 ∧ cnt = 4 + c0.us ∧ c = c0 ∧ Ripe t n i s0 c0
  | .over _ => False

/-- the words behind it -/
def settled (t n k m i : Nat) (s0 : Mm) (c0 : Ck) : Nat → Int := upd (upd (zer s0.wd (bsAt t n k m i) c0.us) (ckAt t n i + 1) 0) (ckAt t n i) (Ck.mk 0 0 0 (c0.sp + 1)).w

/-- what is known when it is over -/
structure SeEnd (t n k m i : Nat) (s0 : Mm) (c0 : Ck) (s : Mm) (x : Bool) : Prop where
  len : s.n = s0.n
  yes : x = true → Ripe t n i s0 c0 ∧ s.wd = settled t n k m i s0 c0
  no : x = false → ¬ Ripe t n i s0 c0 ∧ s.wd = s0.wd

section
variable {t n k m i : Nat} {s0 s : Mm} {c0 : Ck} {cnt : Nat} {d : Se}

theorem ck_bs (hik : i < k) : ckAt t n i + 3 ≤ bsAt t n k m i := by
  unfold ckAt bsAt
  have := Nat.zero_le (i * m)
  omega

theorem SeI.on (h : SeI t n k m i s0 c0 s cnt d) : d.over? = false := by
  cases d with
  | over x => exact h.elim
  | _ => rfl

theorem SeI.len (h : SeI t n k m i s0 c0 s cnt d) : s.n = s0.n := by
  cases d with
  | over x => exact h.elim
  | _ => exact h.1

theorem SeI.le (h : SeI t n k m i s0 c0 s cnt d) : cnt ≤ 4 + c0.us := by
  cases d with
  | over x => exact h.elim
  | see => have := h.2.2; omega
  | ask c => have := h.2.2.1; omega
  | look c S => have := h.2.2.1; omega
  | clear c j => obtain ⟨-, -, h1, -, -, h2⟩ := h; omega
  | free c => have := h.2.2.1; omega

/-- the chunk's word, and the epoch, stay till the end -/
theorem SeI.low (hh : SeH t n k m i s0 c0) (h : SeI t n k m i s0 c0 s cnt d) : s.wd (ckAt t n i) = c0.w ∧ s.wd 0 = s0.wd 0 := by
  have hb := ck_bs (t := t) (n := n) (m := m) hh.ik
  cases d with
  | over x => exact h.elim
  | see => rw [h.2.1]; exact ⟨hh.c, rfl⟩
  | ask c => rw [h.2.1]; exact ⟨hh.c, rfl⟩
  | look c S => rw [h.2.1]; exact ⟨hh.c, rfl⟩
  | clear c j => rw [h.2.1, zer_low _ (by omega), zer_low _ (by omega)]; exact ⟨hh.c, rfl⟩
  | free c => rw [h.2.1, upd_other _ _ _ _ (by omega), upd_other _ _ _ _ (by unfold ckAt; omega), zer_low _ (by omega), zer_low _ (by omega)]; exact ⟨hh.c, rfl⟩

theorem SeI.good (hh : SeH t n k m i s0 c0) (h : SeI t n k m i s0 c0 s cnt d) : d.good m := by
  cases d with
  | over x => exact h.elim
  | see => trivial
  | ask c => obtain ⟨-, -, -, rfl, -⟩ := h; exact ⟨hh.us, hh.sp⟩
  | look c S => obtain ⟨-, -, -, rfl, -, rfl⟩ := h; exact ⟨hh.us, hh.sp, hh.si⟩
  | clear c j => obtain ⟨-, -, -, rfl, -, -⟩ := h; exact ⟨hh.us, hh.sp⟩
  | free c => obtain ⟨-, -, -, rfl, -⟩ := h; exact hh.sp

theorem se_turn (who : Int) (hh : SeH t n k m i s0 c0) (h : SeI t n k m i s0 c0 s cnt d) {s' : Mm} {d' : Se} (ht : seTurn t n k m i who c0 s d = (s', d')) :
    (d'.over? = false ∧ SeI t n k m i s0 c0 s' (cnt + 1) d') ∨ (d'.over? = true ∧ SeEnd t n k m i s0 c0 s' d'.freed) := by
  have hl := h.low hh
  have ld : ∀ a v, s.wd a = v → ((s.by who).step a v).wd = s.wd := fun a v e => by subst e; exact upd_id _ _
  cases d with
  | over x => exact h.elim
  | see =>
    obtain ⟨hn, hw, rfl⟩ := h
    obtain ⟨rfl, hd⟩ := Prod.mk.inj ht
    have hw' := (ld _ _ hl.1).trans hw
    by_cases hst : c0.st = 3
    · rw [if_pos hst] at hd; subst hd
      exact Or.inl ⟨rfl, hn, hw', rfl, rfl, hst⟩
    · rw [if_neg hst] at hd; subst hd
      exact Or.inr ⟨rfl, hn, (fun e => by cases e), fun _ => ⟨fun r => hst r.1, hw'⟩⟩
  | ask c =>
    obtain ⟨hn, hw, rfl, rfl, hst⟩ := h
    obtain ⟨rfl, rfl⟩ := Prod.mk.inj ht
    exact Or.inl ⟨rfl, hn, (ld _ _ rfl).trans hw, rfl, rfl, hst, by rw [hw]⟩
  | look c S =>
    obtain ⟨hn, hw, rfl, rfl, hst, rfl⟩ := h
    obtain ⟨rfl, hd⟩ := Prod.mk.inj ht
    have hw' := (ld 0 _ rfl).trans hw
    rw [hl.2] at hd
    by_cases hr : s0.wd (ckAt t n i + 2) + 2 ≤ s0.wd 0
    · rw [if_pos hr] at hd; subst hd
      exact Or.inl ⟨rfl, hn, by rw [zer_zero]; exact hw', rfl, rfl, ⟨hst, hr⟩, Nat.zero_le _⟩
    · rw [if_neg hr] at hd; subst hd
      exact Or.inr ⟨rfl, hn, (fun e => by cases e), fun _ => ⟨fun r => hr r.2, hw'⟩⟩
  | clear c j =>
    obtain ⟨hn, hw, rfl, rfl, hr, hj⟩ := h
    simp only [seTurn] at ht
    by_cases hju : j < c.us
    · rw [if_pos hju] at ht
      obtain ⟨rfl, rfl⟩ := Prod.mk.inj ht
      refine Or.inl ⟨rfl, hn, ?_, by omega, rfl, hr, by omega⟩
      show upd s.wd _ 0 = _
      rw [hw, zer_succ]
    · rw [if_neg hju] at ht
      obtain ⟨rfl, rfl⟩ := Prod.mk.inj ht
      obtain rfl : j = c.us := by omega
      refine Or.inl ⟨rfl, hn, ?_, by omega, rfl, hr⟩
      show upd s.wd _ 0 = _
      rw [hw]
  | free c =>
    obtain ⟨hn, hw, rfl, rfl, hr⟩ := h
    obtain ⟨rfl, rfl⟩ := Prod.mk.inj ht
    refine Or.inr ⟨rfl, hn, (fun _ => ⟨hr, ?_⟩), fun e => by cases e⟩
    show upd s.wd _ _ = _
    rw [hw]; rfl
end

section
variable {w : World} {L : Loc} {s : Mm} {t n k m i : Nat} {g p r : Int} {c0 : Ck}

set_option maxHeartbeats 1000000 in
theorem settle_any (h : MemAt w L s) (hG : Good t n k m g p r) (hl : arenaLen t n k m ≤ s.n) (who : Int) (hh : SeH t n k m i s c0) (x : Bool) (hx : decide (Ripe t n i s c0) = x) :
    Calls Try.prog 20 #[.agg #[.int .i64 t, .int .i64 n, .int .i64 k, .int .i64 m, .int .i64 g, .int .i64 p, .int .i64 r, .pointer (some ⟨L.p, 0, none⟩), .int .i64 who], .int .i64 i] w fun e w' => e = .returned (.bool x) ∧ ∃ s', MemAt w' L s' ∧ SeEnd t n k m i s c0 s' x ∧ Only L.has w w' := by
  have HX : Hid (decide (Ripe t n i s c0) = x) := hx
  have hm1 := hG.n1
  have hus := hh.us
  clear hx
  have m0 := h.alloc (.cells #[.int .i64 t, .int .i64 n, .int .i64 k, .int .i64 m, .int .i64 g, .int .i64 p, .int .i64 r, .pointer (some ⟨L.p, 0, none⟩), .int .i64 who] 28)
  have v0 : BoxV (w.alloc (.cells #[.int .i64 t, .int .i64 n, .int .i64 k, .int .i64 m, .int .i64 g, .int .i64 p, .int .i64 r, .pointer (some ⟨L.p, 0, none⟩), .int .i64 who] 28)) w.heap.size t n k m g p r L.p who := BoxV.new
  have hb : ¬ L.has (w.heap.size + 1) := fun hh => by have := h.lt _ hh; omega
  have hv : ¬ L.and (w.heap.size + 1) w.heap.size := fun hh => hh.elim (fun hh => by have := h.lt _ hh; omega) (by omega)
  obtain ⟨cs0, a0⟩ := st_new i (w.alloc (.cells #[.int .i64 t, .int .i64 n, .int .i64 k, .int .i64 m, .int .i64 g, .int .i64 p, .int .i64 r, .pointer (some ⟨L.p, 0, none⟩), .int .i64 who] 28))
  rw [Go.Deep.nblk_alloc] at a0
  have m1 := m0.alloc (set0 i)
  have v1 := v0.grown (gro1 _ (set0 i))
  have o1 : Only (L.and (w.heap.size + 1)) w ((w.alloc (.cells #[.int .i64 t, .int .i64 n, .int .i64 k, .int .i64 m, .int .i64 g, .int .i64 p, .int .i64 r, .pointer (some ⟨L.p, 0, none⟩), .int .i64 who] 28)).alloc (set0 i)) := ((Only.refl _ _).alloc _).alloc _
  obtain ⟨B, hB⟩ : ∃ B, w.heap.size + 1 = B := ⟨_, rfl⟩
  rw [hB] at a0 hb hv o1
  go_enter Try.func20, Try.ntmps20
  go_wp2_with (go_at_call 24; refine (newSettle_any _ _).mono ?_; rintro e w1 ⟨rfl, rfl⟩; rw [Go.Deep.nblk_alloc, hB])
  have Z0 : Hid (∃ (s' : Mm) (d : Se) (cs : Array Value), SeI t n k m i s c0 s' 0 d ∧ MemAt _ L s' ∧ StAt _ B 0 74 cs i d ∧ BoxV _ w.heap.size t n k m g p r L.p who ∧ Only (L.and B) w _) := ⟨s, .see, cs0, ⟨rfl, rfl, rfl⟩, m1, a0, v1, o1⟩
  clear a0 m0 v0 o1 m1 v1
  go_loopw [6] (fun q wr => ∃ (j : Nat) (s' : Mm) (d : Se) (cs : Array Value), q = .int .i64 j ∧ SeI t n k m i s c0 s' j d ∧ MemAt wr L s' ∧ StAt wr B 0 74 cs i d ∧ BoxV wr w.heap.size t n k m g p r L.p who ∧ Only (L.and B) w wr) (fun q _ => 400 - (intOf q).toNat)
  case atStart =>
    obtain ⟨s', d, cs, h1, h2, h3, h4, h5⟩ := Z0.out
    exact ⟨0, s', d, cs, rfl, h1, h2, h3, h4, h5⟩
  case round =>
    clear Z0
    obtain ⟨j, s1, d, cs, rfl, hI, m1, a1, v1, o1⟩ := hrel
    have hj := hI.le
    have hj4 : (j : Int) < 400 := by omega
    have y0 := v1.c0
    have y1 := v1.c1
    have y2 := v1.c2
    have y3 := v1.c3
    have y4 := v1.c4
    have y5 := v1.c5
    have y6 := v1.c6
    have y7 := v1.c7
    have y8 := v1.c8
    obtain ⟨s2, d2, ht⟩ : ∃ s2 d2, seTurn t n k m i who c0 s1 d = (s2, d2) := ⟨_, _, rfl⟩
    have hlo := hI.low hh
    have st := set_step m1 hb a1 hG (by rw [hI.len]; exact hl) hh.ik who hlo.1 hh.ok (by omega) (by rw [hlo.2]; exact hh.e1) (hI.good hh) hI.on s2 d2 ht
    clear hlo
    rcases se_turn who hh hI ht with ⟨ho, I2⟩ | ⟨ho, E2⟩
    · have st := st false ho
      clear ht
      go_wp2_with (go_at_call 26; refine st.mono ?_; rintro e w2 ⟨rfl, cs2, A2⟩)
      go_roundw
      case rel => exact ⟨j + 1, s2, d2, cs2, by go_num, I2, A2.m, A2.a, v1.only A2.only hv, o1.trans A2.only⟩
      case measure => simp [intOf]; omega
    · have st := st true ho
      clear ht
      have hw : d2.freed = x := by
        rw [← HX.out]
        cases hf : d2.freed with
        | true => exact (decide_eq_true (E2.yes hf).1).symm
        | false => exact (decide_eq_false (E2.no hf).1).symm
      rw [hw] at E2
      go_wp2_with (first
        | (go_at_call 26; refine st.mono ?_; rintro e w2 ⟨rfl, cs2, A2⟩)
        | (go_at_call 28; refine (freed_at A2.a ho).mono ?_; rintro e w3 ⟨rfl, rfl⟩; rw [hw]))
      go_ret
      exact ⟨rfl, s2, A2.m, E2, (o1.trans A2.only).drop (by omega)⟩
end

end Go.Proofs.Ytameeiabnkblmaa
