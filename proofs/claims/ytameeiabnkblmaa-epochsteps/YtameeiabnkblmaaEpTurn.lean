/- One who lets the epoch go on, and one who settles a chunk: what each step comes to, told without a program; the contract of a step says so. -/
import Derived.Test.YtameeiabnkblmaaEpGo
namespace Go.Proofs.Ytameeiabnkblmaa
open Go.RowKit

/-- one who lets the epoch go on: it begins; it asks the pins, the epoch being loaded; it is over -/
inductive Ad where
  | first
  | ask (E : Int) (j : Nat)
  | over (x : Bool)

def Ad.over? : Ad → Bool
  | .over _ => true
  | _ => false

def Ad.went : Ad → Bool
  | .over x => x
  | _ => false

/-- what a step comes to -/
def adTurn (t : Nat) (who : Int) (s : Mm) : Ad → Mm × Ad
  | .first => ((s.by who).step 0 (s.wd 0), .ask (s.wd 0) 0)
  | .ask E j => if j < t then ((s.by who).step (6 + j) (s.wd (6 + j)), if stopB (s.wd (6 + j)) E = true then .over false else .ask E (j + 1)) else ((s.by who).cas 0 E (sum64 E 1), .over (decide (s.wd 0 = E)))
  | .over x => (s, .over x)

def Ad.cells : Ad → EV → Prop
  | .first, a => a = ⟨false, 0, 0, false, false⟩
  | .ask E j, a => a = ⟨true, E, j, false, false⟩
  | .over x, a => a.ov = true ∧ a.wt = x

/-- it lies in a block, from a place on -/
def AdAt (w : World) (b o : Nat) (T : TypeId) (cs : Array Value) (d : Ad) : Prop := ∃ a, EvAt w b o T cs a ∧ d.cells a

section
variable {w w' : World} {L : Loc} {s : Mm} {b o : Nat} {T : TypeId} {cs : Array Value} {t n k m : Nat} {g p r : Int} {d : Ad}

theorem AdAt.lt (h : AdAt w b o T cs d) : b < w.heap.size := h.elim fun _ k => k.1.lt
theorem AdAt.grown (h : AdAt w b o T cs d) (g : Below w.heap.size w w') : AdAt w' b o T cs d := h.imp fun _ k => ⟨k.1.grown g, k.2⟩
theorem AdAt.only {S : Nat → Prop} (h : AdAt w b o T cs d) (g : Only S w w') (hs : ¬ S b) : AdAt w' b o T cs d := h.imp fun _ k => ⟨k.1.only g hs, k.2⟩

theorem went_at (h : AdAt w b o T cs d) (ho : d.over? = true) :
    Calls Try.prog 29 #[.pointer (some ⟨b, o, none⟩)] w fun e w' => e = .returned (.bool d.went) ∧ w' = w := by
  obtain ⟨a, hi, hc⟩ := h
  cases d with
  | first => cases ho
  | ask E j => cases ho
  | over x =>
    have := went_any hi
    rw [hc.2] at this
    exact this

/-- what a step leaves -/
structure Adv (L : Loc) (b o : Nat) (T : TypeId) (cs : Array Value) (w w' : World) (s' : Mm) (d' : Ad) (cs' : Array Value) : Prop where
  m : MemAt w' L s'
  a : AdAt w' b o T cs' d'
  same : Same o 5 cs cs'
  only : Only (L.and b) w w'

theorem adv_step (h : MemAt w L s) (hb : ¬ L.has b) (hi : AdAt w b o T cs d) (hG : Good t n k m g p r) (hl : arenaLen t n k m ≤ s.n) (who : Int) (ho : d.over? = false) (s' : Mm) (d' : Ad) (ht : adTurn t who s d = (s', d')) (x : Bool) (hx : d'.over? = x) :
    Calls Try.prog 22 #[.pointer (some ⟨b, o, none⟩), .agg #[.int .i64 t, .int .i64 n, .int .i64 k, .int .i64 m, .int .i64 g, .int .i64 p, .int .i64 r, .pointer (some ⟨L.p, 0, none⟩), .int .i64 who]] w fun e w' => e = .returned (.bool x) ∧ ∃ cs', Adv L b o T cs w w' s' d' cs' := by
  obtain ⟨a, hi, hc⟩ := hi
  cases d with
  | first =>
    have hc : a = ⟨false, 0, 0, false, false⟩ := hc
    subst hc
    obtain ⟨rfl, rfl⟩ : (s.by who).step 0 (s.wd 0) = s' ∧ Ad.ask (s.wd 0) 0 = d' := by simpa [adTurn] using ht
    obtain rfl : false = x := hx
    refine (estep_load h hb hi who hG hl rfl rfl rfl).mono ?_
    rintro e w' ⟨rfl, s2, cs2, a2, m2, o2, i2, q2, rfl, rfl⟩
    exact ⟨rfl, cs2, m2, ⟨_, i2, rfl⟩, q2, o2⟩
  | over x => cases ho
  | ask E j =>
    have hc : a = ⟨true, E, j, false, false⟩ := hc
    subst hc
    simp only [adTurn] at ht
    by_cases hj : j < t
    · rw [if_pos hj] at ht
      obtain ⟨rfl, hd⟩ := Prod.mk.inj ht
      refine (estep_ask h hb hi who hG hl rfl rfl rfl hj rfl rfl).mono ?_
      rintro e w' ⟨rfl, s2, cs2, a2, m2, o2, i2, q2, rfl, rfl⟩
      by_cases hs : stopB (s.wd (6 + j)) E = true
      · rw [if_pos hs] at hd
        subst hd
        obtain rfl : true = x := hx
        exact ⟨by rw [hs], cs2, m2, ⟨_, i2, hs, rfl⟩, q2, o2⟩
      · rw [if_neg hs] at hd
        subst hd
        obtain rfl : false = x := hx
        have hs' : stopB (s.wd (6 + j)) E = false := by simpa using hs
        exact ⟨by rw [hs'], cs2, m2, ⟨_, i2, by rw [hs']; rfl⟩, q2, o2⟩
    · rw [if_neg hj] at ht
      obtain ⟨rfl, rfl⟩ := Prod.mk.inj ht
      obtain rfl : true = x := hx
      refine (estep_go h hb hi who hG hl rfl rfl (j := j) rfl (by omega) rfl).mono ?_
      rintro e w' ⟨rfl, s2, cs2, a2, m2, o2, i2, q2, rfl, rfl⟩
      exact ⟨rfl, cs2, m2, ⟨_, i2, rfl, rfl⟩, q2, o2⟩
end

/-- one who settles a chunk: what comes next, and what is known -/
inductive Se where
  | see
  | ask (c : Ck)
  | look (c : Ck) (S : Int)
  | clear (c : Ck) (j : Nat)
  | free (c : Ck)
  | over (x : Bool)

def Se.over? : Se → Bool
  | .over _ => true
  | _ => false

def Se.freed : Se → Bool
  | .over x => x
  | _ => false

/-- where a chunk's word stands, where its words begin -/
def ckAt (t n i : Nat) : Nat := 6 + t + n * 2 + i * 3
def bsAt (t n k m i : Nat) : Nat := 6 + t + n * 2 + k * 3 + i * m

/-- what a step comes to; c0: the chunk's word -/
def seTurn (t n k m i : Nat) (who : Int) (c0 : Ck) (s : Mm) : Se → Mm × Se
  | .see => ((s.by who).step (ckAt t n i) c0.w, if c0.st = 3 then .ask c0 else .over false)
  | .ask c => ((s.by who).step (ckAt t n i + 2) (s.wd (ckAt t n i + 2)), .look c (s.wd (ckAt t n i + 2)))
  | .look c S => ((s.by who).step 0 (s.wd 0), if S + 2 ≤ s.wd 0 then .clear c 0 else .over false)
  | .clear c j => if j < c.us then ((s.by who).step (bsAt t n k m i + j) 0, .clear c (j + 1)) else ((s.by who).step (ckAt t n i + 1) 0, .free c)
  | .free c => ((s.by who).step (ckAt t n i) (Ck.mk 0 0 0 (c.sp + 1)).w, .over true)
  | .over x => (s, .over x)

/-- the chunk's word, as it was loaded -/
def Ck.seen (c : Ck) (a : SV) : Prop := a.st = c.st ∧ a.cl = c.cl ∧ a.us = c.us ∧ a.sp = c.sp

def Se.cells : Se → SV → Prop
  | .see, a => a.nx = 0 ∧ a.cr = 0 ∧ a.fr = false
  | .ask c, a => a.nx = 1 ∧ a.cr = 0 ∧ a.fr = false ∧ c.seen a
  | .look c S, a => a.nx = 2 ∧ a.cr = 0 ∧ a.fr = false ∧ c.seen a ∧ a.si = S
  | .clear c j, a => a.nx = 3 ∧ a.cr = j ∧ a.fr = false ∧ c.seen a
  | .free c, a => a.nx = 5 ∧ a.fr = false ∧ c.seen a
  | .over x, a => a.nx = 6 ∧ a.fr = x

/-- what is known fits -/
def Se.good (m : Nat) : Se → Prop
  | .ask c => c.us ≤ m ∧ c.sp < 2000000
  | .look c S => c.us ≤ m ∧ c.sp < 2000000 ∧ 0 ≤ S
  | .clear c _ => c.us ≤ m ∧ c.sp < 2000000
  | .free c => c.sp < 2000000
  | _ => True

/-- it lies in a block, from a place on -/
def StAt (w : World) (b o : Nat) (T : TypeId) (cs : Array Value) (i : Nat) (d : Se) : Prop := ∃ a, SeAt w b o T cs a ∧ a.ch = i ∧ d.cells a

section
variable {w w' : World} {L : Loc} {s : Mm} {b o : Nat} {T : TypeId} {cs : Array Value} {t n k m i : Nat} {g p r : Int} {d : Se}

theorem StAt.lt (h : StAt w b o T cs i d) : b < w.heap.size := h.elim fun _ k => k.1.lt
theorem StAt.grown (h : StAt w b o T cs i d) (g : Below w.heap.size w w') : StAt w' b o T cs i d := h.imp fun _ k => ⟨k.1.grown g, k.2⟩
theorem StAt.only {S : Nat → Prop} (h : StAt w b o T cs i d) (g : Only S w w') (hs : ¬ S b) : StAt w' b o T cs i d := h.imp fun _ k => ⟨k.1.only g hs, k.2⟩

theorem freed_at (h : StAt w b o T cs i d) (ho : d.over? = true) :
    Calls Try.prog 28 #[.pointer (some ⟨b, o, none⟩)] w fun e w' => e = .returned (.bool d.freed) ∧ w' = w := by
  obtain ⟨a, hi, -, hc⟩ := h
  cases d with
  | over x =>
    have := freed_any hi
    rw [hc.2] at this
    exact this
  | _ => cases ho

theorem st_new (i : Nat) (w : World) : ∃ cs, StAt (w.alloc (set0 i)) w.heap.size 0 74 cs i .see :=
  (set0_at i w).imp fun _ k => ⟨_, k, rfl, rfl, rfl, rfl⟩

/-- what a step leaves -/
structure Std (L : Loc) (b o : Nat) (T : TypeId) (cs : Array Value) (i : Nat) (w w' : World) (s' : Mm) (d' : Se) (cs' : Array Value) : Prop where
  m : MemAt w' L s'
  a : StAt w' b o T cs' i d'
  same : Same o 9 cs cs'
  only : Only (L.and b) w w'

theorem set_step (h : MemAt w L s) (hb : ¬ L.has b) (hi : StAt w b o T cs i d) (hG : Good t n k m g p r) (hl : arenaLen t n k m ≤ s.n) (hik : i < k) (who : Int) {c0 : Ck} {σ : Nat} (hc0 : s.wd (ckAt t n i) = c0.w) (hok : c0.ok σ) (hσ : σ ≤ 2000000) (hN : s.wd 0 < 18446744073709551616)
    (hgd : d.good m) (ho : d.over? = false) (s' : Mm) (d' : Se) (ht : seTurn t n k m i who c0 s d = (s', d')) (x : Bool) (hx : d'.over? = x) :
    Calls Try.prog 26 #[.pointer (some ⟨b, o, none⟩), .agg #[.int .i64 t, .int .i64 n, .int .i64 k, .int .i64 m, .int .i64 g, .int .i64 p, .int .i64 r, .pointer (some ⟨L.p, 0, none⟩), .int .i64 who]] w fun e w' => e = .returned (.bool x) ∧ ∃ cs', Std L b o T cs i w w' s' d' cs' := by
  obtain ⟨a, hi, hch, hc⟩ := hi
  cases d with
  | over x => cases ho
  | see =>
    obtain ⟨hnx, hcr, hfr⟩ := hc
    obtain ⟨rfl, hd⟩ := Prod.mk.inj ht
    by_cases hst : c0.st = 3
    · rw [if_pos hst] at hd
      subst hd
      obtain rfl : false = x := hx
      refine (sstep_quiet h hb hi who hG hik hch hl hnx hc0 hok hσ hst).mono ?_
      rintro e w' ⟨rfl, s2, cs2, a2, m2, o2, i2, q2, rfl, rfl⟩
      exact ⟨rfl, cs2, m2, ⟨_, i2, hch, rfl, hcr, hfr, rfl, rfl, rfl, rfl⟩, q2, o2⟩
    · rw [if_neg hst] at hd
      subst hd
      obtain rfl : true = x := hx
      refine (sstep_other h hb hi who hG hik hch hl hnx hc0 hok hσ hst).mono ?_
      rintro e w' ⟨rfl, s2, cs2, a2, m2, o2, i2, q2, rfl, rfl⟩
      exact ⟨rfl, cs2, m2, ⟨_, i2, hch, rfl, hfr⟩, q2, o2⟩
  | ask c =>
    obtain ⟨hnx, hcr, hfr, hsn⟩ := hc
    obtain ⟨rfl, rfl⟩ := Prod.mk.inj ht
    obtain rfl : false = x := hx
    refine (sstep_ask h hb hi who hG hik hch hl hnx rfl).mono ?_
    rintro e w' ⟨rfl, s2, cs2, a2, m2, o2, i2, q2, rfl, rfl⟩
    exact ⟨rfl, cs2, m2, ⟨_, i2, hch, rfl, hcr, hfr, hsn, rfl⟩, q2, o2⟩
  | look c S =>
    obtain ⟨hnx, hcr, hfr, hsn, hsi⟩ := hc
    obtain ⟨rfl, hd⟩ := Prod.mk.inj ht
    by_cases hst : S + 2 ≤ s.wd 0
    · rw [if_pos hst] at hd
      subst hd
      obtain rfl : false = x := hx
      refine (sstep_on h hb hi who hG hik hch hl hnx rfl (by rw [hsi]; exact hgd.2.2) (by rw [hsi]; exact hst) hN).mono ?_
      rintro e w' ⟨rfl, s2, cs2, a2, m2, o2, i2, q2, rfl, rfl⟩
      exact ⟨rfl, cs2, m2, ⟨_, i2, hch, rfl, hcr, hfr, hsn⟩, q2, o2⟩
    · rw [if_neg hst] at hd
      subst hd
      obtain rfl : true = x := hx
      refine (sstep_off h hb hi who hG hik hch hl hnx rfl (by rw [hsi]; omega)).mono ?_
      rintro e w' ⟨rfl, s2, cs2, a2, m2, o2, i2, q2, rfl, rfl⟩
      exact ⟨rfl, cs2, m2, ⟨_, i2, hch, rfl, hfr⟩, q2, o2⟩
  | clear c j =>
    obtain ⟨hnx, hcr, hfr, hsn⟩ := hc
    simp only [seTurn] at ht
    by_cases hj : j < c.us
    · rw [if_pos hj] at ht
      obtain ⟨rfl, rfl⟩ := Prod.mk.inj ht
      obtain rfl : false = x := hx
      refine (sstep_clear h hb hi who hG hik hch hl hnx hcr hsn.2.2.1 hgd.1 hj).mono ?_
      rintro e w' ⟨rfl, s2, cs2, a2, m2, o2, i2, q2, rfl, rfl⟩
      exact ⟨rfl, cs2, m2, ⟨_, i2, hch, hnx, rfl, hfr, hsn⟩, q2, o2⟩
    · rw [if_neg hj] at ht
      obtain ⟨rfl, rfl⟩ := Prod.mk.inj ht
      obtain rfl : false = x := hx
      refine (sstep_count h hb hi who hG hik hch hl hnx hcr hsn.2.2.1 hgd.1 (by omega)).mono ?_
      rintro e w' ⟨rfl, s2, cs2, a2, m2, o2, i2, q2, rfl, rfl⟩
      exact ⟨rfl, cs2, m2, ⟨_, i2, hch, rfl, hfr, hsn⟩, q2, o2⟩
  | free c =>
    obtain ⟨hnx, hfr, hsn⟩ := hc
    obtain ⟨rfl, rfl⟩ := Prod.mk.inj ht
    obtain rfl : true = x := hx
    refine (sstep_free h hb hi who hG hik hch hl hnx hsn.2.2.2 hgd).mono ?_
    rintro e w' ⟨rfl, s2, cs2, a2, m2, o2, i2, q2, rfl, rfl⟩
    exact ⟨rfl, cs2, m2, ⟨_, i2, hch, rfl, rfl⟩, q2, o2⟩
end

end Go.Proofs.Ytameeiabnkblmaa
