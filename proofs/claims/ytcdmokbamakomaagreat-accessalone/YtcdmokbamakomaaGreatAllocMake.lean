/- An arena in which objects are made: its slots, its chunks, its live words, the words of its slots and of its chunks; one who makes an object: what each step comes to, told without a program. -/
import Derived.Test.YtcdmokbamakomaaGreatAllocGo
namespace Go.Proofs.YtcdmokbamakomaaGreat
open Go.RowKit

/-- an arena in which objects are made: the count, the links, the free slots; the chunks; live words; the slots' words; the chunks' words -/
structure Q where
  c : Nat
  lk : Nat → Nat
  F : List Nat
  y : Y
  lv : Nat → Nat
  sw : Nat → Int
  dw : Nat → Int

/-- it lies in a memory -/
structure Town (t n k m : Nat) (s : Mm) (σ : Nat) (q : Q) : Prop where
  pile : Pile t n s σ q.c q.lk q.F
  yard : Yard t n k m s σ q.y
  lvv : ∀ i, i < k → s.wd (6 + t + n * 2 + i * 3 + 1) = (q.lv i : Int)
  lvb : ∀ i, i < k → q.lv i ≤ 17 * σ
  swv : ∀ x, x < n → s.wd (6 + t + x * 2) = q.sw x
  swb : ∀ x, x < n → 0 ≤ q.sw x ∧ q.sw x ≤ 18446744073709551615
  dwv : ∀ a, 6 + t + n * 2 + k * 3 ≤ a → s.wd a = q.dw a

/-- one who makes an object -/
inductive Al where
  | take (τ : Tk)
  | ask (x : Nat)
  | place (x g : Nat) (τ : Pl)
  | count (x g a i : Nat)
  | head (x g a i : Nat)
  | shw (x g a i : Nat)
  | ready (x g a i st : Nat)
  | give (x g : Nat) (γ : Gv)
  | over (E H : Int) (st : Nat)

def Al.over? : Al → Bool
  | .over _ _ _ => true
  | _ => false

def genOf (v : Int) : Nat := (v / 8388608 % 65536).toNat

def alTake (q : Q) (σ : Nat) : Nat × List Nat × Tk → Q × Al
  | (c', F', .won x) => ({ q with c := c', F := F' }, .ask x)
  | (c', F', .none) => ({ q with c := c', F := F' }, .over 7 0 (σ + 1))
  | (c', F', τ') => ({ q with c := c', F := F' }, .take τ')

def alPlace (q : Q) (x g : Nat) : Y × Pl → Q × Al
  | (y', .won a i) => ({ q with y := y' }, .count x g a i)
  | (y', .none) => ({ q with y := y' }, .give x g .idle)
  | (y', τ') => ({ q with y := y' }, .place x g τ')

def alGive (q : Q) (σ x g : Nat) : Nat × (Nat → Nat) × List Nat × Gv → Q × Al
  | (c', lk', F', .over) => ({ q with c := c', lk := lk', F := F' }, .over 6 0 (σ + 1))
  | (c', lk', F', γ') => ({ q with c := c', lk := lk', F := F' }, .give x g γ')

/-- what a step comes to -/
def alTurn (t n k m κ : Nat) (z : Int) (own : Bool) (σ : Nat) (q : Q) : Al → Q × Al
  | .take τ => alTake q σ (tkTurn q.c q.lk q.F τ)
  | .ask x => (q, .place x (genOf (q.sw x)) .see)
  | .place x g τ => alPlace q x g (turn k m κ (base t n k m) q.y τ)
  | .count x g a i => ({ q with lv := upd q.lv i (q.lv i + room κ) }, .head x g a i)
  | .head x g a i => ({ q with dw := upd q.dw a (packOw 1 z x g own) }, .shw x g a i)
  | .shw x g a i => ({ q with sw := upd q.sw x (packS 1 a g 0) }, .ready x g a i (σ + 1))
  | .ready x g a _ st => ({ q with dw := upd q.dw a (packOw 2 z x g own) }, .over 0 (packH x g) st)
  | .give x g γ => alGive q σ x g (gvTurn q.c q.lk q.F x γ)
  | .over E H st => (q, .over E H st)

/-- what one who makes an object knows -/
def Al.good (t n k m κ σ : Nat) (q : Q) : Al → Prop
  | .take τ => τ.good n q.c q.lk q.F ∧ τ.over = false
  | .ask x => x < n ∧ x ∉ q.F
  | .place x g τ => x < n ∧ x ∉ q.F ∧ g ≤ 65535 ∧ τ.good k m κ σ ∧ τ.over = false
  | .count x g a i => x < n ∧ x ∉ q.F ∧ g ≤ 65535 ∧ i < k ∧ 6 + t + n * 2 + k * 3 ≤ a ∧ a < 6 + t + n * 2 + k * 3 + k * m
  | .head x g a i => x < n ∧ x ∉ q.F ∧ g ≤ 65535 ∧ i < k ∧ 6 + t + n * 2 + k * 3 ≤ a ∧ a < 6 + t + n * 2 + k * 3 + k * m
  | .shw x g a i => x < n ∧ x ∉ q.F ∧ g ≤ 65535 ∧ i < k ∧ 6 + t + n * 2 + k * 3 ≤ a ∧ a < 6 + t + n * 2 + k * 3 + k * m
  | .ready x g a i _ => x < n ∧ x ∉ q.F ∧ g ≤ 65535 ∧ i < k ∧ 6 + t + n * 2 + k * 3 ≤ a ∧ a < 6 + t + n * 2 + k * 3 + k * m
  | .give x _ γ => x < n ∧ x ∉ q.F ∧ γ.good n q.c q.lk q.F x ∧ γ.done = false
  | .over _ _ _ => True

/-- the word that the next step touches -/
def Al.at (t n κ : Nat) : Al → Nat
  | .take τ => τ.at t
  | .ask x => 6 + t + x * 2
  | .place _ _ τ => τ.at t n κ
  | .count _ _ _ i => 6 + t + n * 2 + i * 3 + 1
  | .head _ _ a _ => a
  | .shw x _ _ _ => 6 + t + x * 2
  | .ready _ _ a _ _ => a
  | .give x _ γ => γ.at t x
  | .over _ _ _ => 0

def Al.nx : Al → Int
  | .take _ => 0
  | .ask _ => 1
  | .place _ _ _ => 2
  | .count _ _ _ _ => 3
  | .head _ _ _ _ => 4
  | .shw _ _ _ _ => 5
  | .ready _ _ _ _ _ => 6
  | .give _ _ _ => 7
  | .over _ _ _ => 8

theorem Al.nx_over (α : Al) : (α.nx == 8) = α.over? := by cases α <;> rfl

def Al.tkc : Al → List Value → Prop
  | .take τ, l => τ.cells l
  | _, _ => True
def Al.plc (κ : Nat) : Al → List Value → Prop
  | .place _ _ τ, l => τ.cells κ l
  | _, _ => True
def Al.gvc : Al → List Value → Prop
  | .give x _ γ, l => γ.cells x l
  | _, _ => True
def Al.slc : Al → Int → Int → Prop
  | .take _, _, _ => True
  | .ask x, s, _ => s = x
  | .place x g _, s, h => s = x ∧ h = g
  | .count x g _ _, s, h => s = x ∧ h = g
  | .head x g _ _, s, h => s = x ∧ h = g
  | .shw x g _ _, s, h => s = x ∧ h = g
  | .ready x g _ _ _, s, h => s = x ∧ h = g
  | .give x g _, s, h => s = x ∧ h = g
  | .over _ _ _, _, _ => True
def Al.spc : Al → Int → Int → Prop
  | .count _ _ a i, s, c => s = a ∧ c = i
  | .head _ _ a i, s, c => s = a ∧ c = i
  | .shw _ _ a i, s, c => s = a ∧ c = i
  | .ready _ _ a i _, s, c => s = a ∧ c = i
  | _, _, _ => True
def Al.cmc : Al → Int → Int → Int → Int → Prop
  | .over E H st, e, h, v, s => e = E ∧ h = H ∧ v = 0 ∧ s = st
  | .ready x g _ _ st, e, h, v, s => e = 0 ∧ h = packH x g ∧ v = 0 ∧ s = st
  | _, e, h, v, s => e = 0 ∧ h = 0 ∧ v = 0 ∧ s = 0

/-- its cells -/
structure AlIs (z : Int) (own : Bool) (κ : Nat) (α : Al) (a : AV) : Prop where
  nx : a.nx = α.nx
  sz : a.sz = z
  ow : a.own = own
  tk : α.tkc a.tk
  pl : α.plc κ a.pl
  gv : α.gvc a.gv
  sl : α.slc a.sl a.gn
  sp : α.spc a.sa a.sc
  cm : α.cmc a.E a.H a.V a.St

theorem al0_is (z : Int) (own : Bool) (κ : Nat) : AlIs z own κ (.take .idle) (av0 z own) := ⟨rfl, rfl, rfl, ⟨0, 0, 0, rfl⟩, trivial, trivial, trivial, trivial, rfl, rfl, rfl, rfl⟩

theorem genOf_is (v : Int) : v / 8388608 % 65536 = (genOf v : Int) := by unfold genOf; omega
theorem genOf_le (v : Int) : genOf v ≤ 65535 := by unfold genOf; omega

/-- where one who wants words does a step -/
theorem Pl.at_in {t n k m κ σ : Nat} {τ : Pl} (h : τ.good k m κ σ) : τ.at t n κ = 2 + κ ∨ ∃ i, i < k ∧ τ.at t n κ = 6 + t + n * 2 + i * 3 := by
  cases τ with
  | see => exact Or.inl rfl
  | ask i => exact Or.inr ⟨i, h, rfl⟩
  | grow i c => exact Or.inr ⟨i, h.1, rfl⟩
  | look sn i => exact Or.inr ⟨i, h.1, rfl⟩
  | take sn i c => exact Or.inr ⟨i, h.1, rfl⟩
  | opn sn i c => exact Or.inl rfl
  | fre sn i c => exact Or.inr ⟨i, h.1, rfl⟩
  | won a i => exact Or.inl rfl
  | none => exact Or.inl rfl

theorem Tk.at_in {t n c : Nat} {lk : Nat → Nat} {F : List Nat} {τ : Tk} (h : τ.good n c lk F) : τ.at t = 1 ∨ ∃ x, x < n ∧ τ.at t = 6 + t + x * 2 + 1 := by
  cases τ with
  | saw x c' => exact Or.inr ⟨x, h.1, rfl⟩
  | _ => exact Or.inl rfl

theorem Gv.at_in {t n x : Nat} (hx : x < n) (γ : Gv) : γ.at t x = 1 ∨ ∃ y, y < n ∧ γ.at t x = 6 + t + y * 2 + 1 := by
  cases γ with
  | saw h c' => exact Or.inr ⟨x, hx, rfl⟩
  | _ => exact Or.inl rfl

namespace Town
variable {t n k m : Nat} {s : Mm} {σ : Nat} {q : Q}

theorem len (h : Town t n k m s σ q) : s.n = 6 + t + n * 2 + k * 3 + k * m := h.yard.len

/-- a step at a word: what is known of other words -/
theorem step_wd (who : Int) (a x : Nat) (v : Int) (h : x ≠ a) : ((s.by who).step a v).wd x = s.wd x := upd_other s.wd a x v h
theorem step_at (who : Int) (a : Nat) (v : Int) : ((s.by who).step a v).wd a = v := upd_same s.wd a v

/-- a step at the first free slot's word, or at a link -/
theorem slots (h : Town t n k m s σ q) (hσ : σ < 1000000) (who : Int) (a : Nat) (v : Int) (ha : a = 1 ∨ ∃ x, x < n ∧ a = 6 + t + x * 2 + 1) {c' : Nat} {lk' : Nat → Nat} {F' : List Nat} (hp : Pile t n ((s.by who).step a v) (σ + 1) c' lk' F') :
    Town t n k m ((s.by who).step a v) (σ + 1) { q with c := c', lk := lk', F := F' } := by
  have hne : ∀ b, b ≠ 1 → (∀ x, x < n → b ≠ 6 + t + x * 2 + 1) → b ≠ a := fun b h1 h2 e => by
    rcases ha with ha | ⟨x, hx, ha⟩
    · omega
    · exact h2 x hx (by omega)
  refine ⟨hp, h.yard.off hσ who a v ?_ ?_, fun i hi => ?_, fun i hi => ?_, fun x hx => ?_, h.swb, fun b hb => ?_⟩
  · rcases ha with ha | ⟨x, hx, ha⟩ <;> omega
  · intro i hi
    rcases ha with ha | ⟨x, hx, ha⟩ <;> omega
  · rw [step_wd who a _ v (hne _ (by omega) (fun x hx => by omega))]; exact h.lvv i hi
  · have := h.lvb i hi; show q.lv i ≤ 17 * (σ + 1); omega
  · rw [step_wd who a _ v (hne _ (by omega) (fun y hy => by omega))]; exact h.swv x hx
  · rw [step_wd who a _ v (hne _ (by omega) (fun y hy => by omega))]; exact h.dwv b hb

/-- a step at a chunk's word, or at an open chunk's place -/
theorem chunks (h : Town t n k m s σ q) (hσ : σ < 1000000) (who : Int) {κ : Nat} (hκ : κ < 4) (a : Nat) (v : Int) (ha : a = 2 + κ ∨ ∃ i, i < k ∧ a = 6 + t + n * 2 + i * 3) {y' : Y} (hy : Yard t n k m ((s.by who).step a v) (σ + 1) y') :
    Town t n k m ((s.by who).step a v) (σ + 1) { q with y := y' } := by
  have hne : ∀ b, ¬ (2 ≤ b ∧ b < 6) → (∀ i, i < k → b ≠ 6 + t + n * 2 + i * 3) → b ≠ a := fun b h1 h2 e => by
    rcases ha with ha | ⟨i, hi, ha⟩
    · omega
    · exact h2 i hi (by omega)
  refine ⟨h.pile.off hσ who a v ?_ ?_, hy, fun i hi => ?_, fun i hi => ?_, fun x hx => ?_, h.swb, fun b hb => ?_⟩
  · rcases ha with ha | ⟨i, hi, ha⟩ <;> omega
  · intro i hi
    rcases ha with ha | ⟨j, hj, ha⟩ <;> omega
  · rw [step_wd who a _ v (hne _ (by omega) (fun x hx => by omega))]; exact h.lvv i hi
  · have := h.lvb i hi; show q.lv i ≤ 17 * (σ + 1); omega
  · rw [step_wd who a _ v (hne _ (by omega) (fun y hy => by omega))]; exact h.swv x hx
  · rw [step_wd who a _ v (hne _ (by omega) (fun y hy => by omega))]; exact h.dwv b hb

/-- a word is loaded -/
theorem same (h : Town t n k m s σ q) (hσ : σ < 1000000) (who : Int) (a : Nat) : Town t n k m ((s.by who).step a (s.wd a)) (σ + 1) q := by
  have e : ((s.by who).step a (s.wd a)).wd = s.wd := upd_id _ _
  refine ⟨h.pile.same hσ who a, h.yard.same hσ who a, fun i hi => by rw [e]; exact h.lvv i hi, fun i hi => ?_, fun x hx => by rw [e]; exact h.swv x hx, h.swb, fun b hb => by rw [e]; exact h.dwv b hb⟩
  have := h.lvb i hi; omega

/-- live words are counted -/
theorem counts (h : Town t n k m s σ q) (hσ : σ < 1000000) (who : Int) {i r : Nat} (hi : i < k) (hr : r ≤ 17) :
    Town t n k m ((s.by who).step (6 + t + n * 2 + i * 3 + 1) (sum64 (s.wd (6 + t + n * 2 + i * 3 + 1)) (word64 r))) (σ + 1) { q with lv := upd q.lv i (q.lv i + r) } := by
  have hb := h.lvb i hi
  have hv : sum64 (s.wd (6 + t + n * 2 + i * 3 + 1)) (word64 r) = ((q.lv i + r : Nat) : Int) := by
    rw [h.lvv i hi]; unfold sum64 word64; omega
  refine ⟨h.pile.off hσ who _ _ (by omega) (fun x hx => by omega), h.yard.off hσ who _ _ (by omega) (fun j hj => by omega), fun j hj => ?_, fun j hj => ?_, fun x hx => ?_, h.swb, fun b hb => ?_⟩
  · by_cases e : j = i
    · subst e
      rw [step_at, hv]
      show _ = ((upd q.lv j (q.lv j + r) j : Nat) : Int)
      rw [upd_same]
    · rw [step_wd who _ _ _ (by omega)]
      show _ = ((upd q.lv i (q.lv i + r) j : Nat) : Int)
      rw [upd_other _ _ _ _ e]; exact h.lvv j hj
  · show upd q.lv i (q.lv i + r) j ≤ 17 * (σ + 1)
    by_cases e : j = i
    · subst e; rw [upd_same]; omega
    · rw [upd_other _ _ _ _ e]; have := h.lvb j hj; omega
  · rw [step_wd who _ _ _ (by omega)]; exact h.swv x hx
  · rw [step_wd who _ _ _ (by omega)]; exact h.dwv b hb

/-- a chunk's word is laid -/
theorem lays (h : Town t n k m s σ q) (hσ : σ < 1000000) (who : Int) {a : Nat} (ha : 6 + t + n * 2 + k * 3 ≤ a) (v : Int) :
    Town t n k m ((s.by who).step a v) (σ + 1) { q with dw := upd q.dw a v } := by
  refine ⟨h.pile.off hσ who _ _ (by omega) (fun x hx => by omega), h.yard.off hσ who _ _ (by omega) (fun j hj => by omega), fun j hj => ?_, fun j hj => ?_, fun x hx => ?_, h.swb, fun b hb => ?_⟩
  · rw [step_wd who _ _ _ (by omega)]; exact h.lvv j hj
  · have := h.lvb j hj; show q.lv j ≤ 17 * (σ + 1); omega
  · rw [step_wd who _ _ _ (by omega)]; exact h.swv x hx
  · show _ = upd q.dw a v b
    by_cases e : b = a
    · subst e; rw [step_at, upd_same]
    · rw [step_wd who _ _ _ e, upd_other _ _ _ _ e]; exact h.dwv b hb

/-- a slot's word is laid -/
theorem shows (h : Town t n k m s σ q) (hσ : σ < 1000000) (who : Int) {x : Nat} (hx : x < n) (v : Int) (v0 : 0 ≤ v) (v1 : v ≤ 18446744073709551615) :
    Town t n k m ((s.by who).step (6 + t + x * 2) v) (σ + 1) { q with sw := upd q.sw x v } := by
  refine ⟨h.pile.off hσ who _ _ (by omega) (fun x hx => by omega), h.yard.off hσ who _ _ (by omega) (fun j hj => by omega), fun j hj => ?_, fun j hj => ?_, fun y hy => ?_, fun y hy => ?_, fun b hb => ?_⟩
  · rw [step_wd who _ _ _ (by omega)]; exact h.lvv j hj
  · have := h.lvb j hj; show q.lv j ≤ 17 * (σ + 1); omega
  · show _ = upd q.sw x v y
    by_cases e : y = x
    · subst e; rw [step_at, upd_same]
    · rw [step_wd who _ _ _ (by omega), upd_other _ _ _ _ e]; exact h.swv y hy
  · show 0 ≤ upd q.sw x v y ∧ upd q.sw x v y ≤ _
    by_cases e : y = x
    · subst e; rw [upd_same]; exact ⟨v0, v1⟩
    · rw [upd_other _ _ _ _ e]; exact h.swb y hy
  · rw [step_wd who _ _ _ (by omega)]; exact h.dwv b hb
end Town

/-- a fresh arena -/
def Q.new (n : Nat) : Q := ⟨0, link0 n, upFrom n n, Y.new, fun _ => 0, fun _ => 8388608, fun _ => 0⟩

theorem town0 {t n k m : Nat} {g p r : Int} (hG : Good t n k m g p r) (hn : n ≤ 65535) : Town t n k m (Mm.laid t n (arenaLen t n k m) n) (1 + 2 * n) (Q.new n) := by
  have hs := hG.s0
  have hs1 := hG.s1
  refine ⟨pile0 t n _ hs hn (by unfold arenaLen; omega), yard0 t n k m hs1, fun i hi => ?_, fun i hi => Nat.zero_le _, fun x hx => laid_slot _ _ _ _ _ hx, fun x hx => ⟨by simp [Q.new], by simp [Q.new]⟩, fun a ha => ?_⟩
  · rw [laid_else _ _ _ _ _ (by omega) (Or.inr (by omega))]; rfl
  · rw [laid_else _ _ _ _ _ (by omega) (Or.inr (by omega))]; rfl

/-- whoever gets words gets them within a chunk -/
theorem turn_won {k m κ σ : Nat} {bs : Nat → Nat} {y y' : Y} {τ : Pl} {a i : Nat} (hg : τ.good k m κ σ) (ho : τ.over = false) (ht : turn k m κ bs y τ = (y', .won a i)) : ∃ c : Ck, τ = .grow i c ∧ i < k ∧ y.ck i = c ∧ a = bs i + c.us ∧ c.us + room κ ≤ m ∧ c.st = 1 ∧ c.cl = κ ∧ y' = ⟨upd y.ck i ⟨c.st, c.cl, c.us + room κ, c.sp⟩, y.op⟩ := by
  cases τ with
  | see =>
    simp only [turn, adv] at ht
    split at ht
    · split at ht <;> cases ht
    · cases ht
  | ask j =>
    simp only [turn, adv] at ht
    split at ht
    · cases ht
    · split at ht <;> cases ht
  | grow j c =>
    obtain ⟨hik, hc, h1, h2, h3⟩ := hg
    simp only [turn] at ht
    split at ht
    · rename_i e
      obtain ⟨rfl, rfl, rfl⟩ : _ = y' ∧ bs j + c.us = a ∧ j = i := by simpa using ht
      exact ⟨c, rfl, hik, e, rfl, h3, h1, h2, rfl⟩
    · cases ht
  | look sn j =>
    simp only [turn, adv] at ht
    split at ht
    · cases ht
    · split at ht <;> cases ht
  | take sn j c =>
    simp only [turn, adv] at ht
    split at ht
    · cases ht
    · split at ht <;> cases ht
  | opn sn j c =>
    simp only [turn] at ht
    split at ht <;> cases ht
  | fre sn j c =>
    simp only [turn] at ht
    split at ht <;> cases ht
  | won a j => cases ho
  | none => cases ho

theorem base_in {t n k m i u r : Nat} (hi : i < k) (hu : u + r ≤ m) : 6 + t + n * 2 + k * 3 ≤ base t n k m i + u ∧ base t n k m i + u + r ≤ 6 + t + n * 2 + k * 3 + k * m := by
  unfold base
  have : i * m + m ≤ k * m := by
    have := Nat.mul_le_mul_right m (Nat.succ_le_of_lt hi)
    rw [Nat.succ_mul] at this
    exact this
  omega

end Go.Proofs.YtcdmokbamakomaaGreat

/- One who makes an object, beside others: a step of the program is a step of what is told without it. -/
namespace Go.Proofs.YtcdmokbamakomaaGreat
open Go.RowKit

/-- what a step of one who makes an object leaves -/
structure Did (w : World) (L : Loc) (s : Mm) (b o : Nat) (T : TypeId) (cs : Array Value) (t n k m σ κ : Nat) (z : Int) (own : Bool) (who : Int) (α : Al) (q' : Q) (α' : Al) (w' : World) (s' : Mm) (cs' : Array Value) (a' : AV) : Prop where
  mm : MemAt w' L s'
  tw : Town t n k m s' (σ + 1) q'
  al : AlAt w' b o T cs' a'
  is : AlIs z own κ α' a'
  good : α'.good t n k m κ (σ + 1) q'
  same : Same o 26 cs cs'
  only : Only (L.and b) w w'
  st : ∃ v, s' = (s.by who).step (α.at t n κ) v

theorem tk_fate (τ : Tk) : (τ.over = false) ∨ (∃ x, τ = .won x) ∨ τ = .none := by
  cases τ with
  | won x => exact Or.inr (Or.inl ⟨x, rfl⟩)
  | none => exact Or.inr (Or.inr rfl)
  | _ => exact Or.inl rfl
theorem pl_fate (τ : Pl) : (τ.over = false) ∨ (∃ a i, τ = .won a i) ∨ τ = .none := by
  cases τ with
  | won a i => exact Or.inr (Or.inl ⟨a, i, rfl⟩)
  | none => exact Or.inr (Or.inr rfl)
  | _ => exact Or.inl rfl

theorem alTake_on {q : Q} {σ c' : Nat} {F' : List Nat} {τ' : Tk} (h : τ'.over = false) : alTake q σ (c', F', τ') = ({ q with c := c', F := F' }, .take τ') := by
  cases τ' with
  | won => cases h
  | none => cases h
  | _ => rfl
theorem alPlace_on {q : Q} {x g : Nat} {y' : Y} {τ' : Pl} (h : τ'.over = false) : alPlace q x g (y', τ') = ({ q with y := y' }, .place x g τ') := by
  cases τ' with
  | won => cases h
  | none => cases h
  | _ => rfl
theorem alGive_on {q : Q} {σ x g c' : Nat} {lk' : Nat → Nat} {F' : List Nat} {γ' : Gv} (h : γ'.done = false) : alGive q σ x g (c', lk', F', γ') = ({ q with c := c', lk := lk', F := F' }, .give x g γ') := by
  cases γ' with
  | over => cases h
  | _ => rfl
theorem Gv.is_over {γ : Gv} (h : γ.done = true) : γ = .over := by
  cases γ with
  | over => rfl
  | _ => cases h

section
variable {w : World} {L : Loc} {s : Mm} {b o : Nat} {T : TypeId} {cs : Array Value} {a : AV} {t n k m σ κ : Nat} {g p r : Int} {z : Int} {own : Bool} {q : Q}

set_option maxHeartbeats 400000 in
theorem alloc_step (h : MemAt w L s) (hb : ¬ L.has b) (hT : Town t n k m s σ q) (hG : Good t n k m g p r) (hσ : σ < 1000000) (fz : Fit z) (hz : classOf z = κ) (hκ : κ < 4) (α : Al) (hi : AlAt w b o T cs a) (his : AlIs z own κ α a) (hg : α.good t n k m κ σ q) (ho : α.over? = false) (who : Int) (q' : Q) (α' : Al) (hq : alTurn t n k m κ z own σ q α = (q', α')) (d : Bool) (hd : α'.over? = d) :
    Calls Tryz.prog 29 #[.pointer (some ⟨b, o, none⟩), .agg #[.int .i64 t, .int .i64 n, .int .i64 k, .int .i64 m, .int .i64 g, .int .i64 p, .int .i64 r, .pointer (some ⟨L.p, 0, none⟩), .int .i64 who]] w fun e w' => e = .returned (.bool d) ∧ ∃ s' cs' a', Did w L s b o T cs t n k m σ κ z own who α q' α' w' s' cs' a' := by
  have hG' := hG
  obtain ⟨t0, t1, n0, n1, k0, k1, m0, m1, g0, g1, p0, p1, r0, r1⟩ := hG
  have hmk : k * m ≤ 64 * 256 := Nat.mul_le_mul k1 m1
  have har := hG'.arena
  have hlen := hT.len
  have hbig := hT.pile.big
  have hst : wrap64 (s.steps + 1) = ((σ + 1 : Nat) : Int) := by rw [hT.pile.st]; exact hT.pile.wrapS hσ
  obtain ⟨inx, isz, iow, itk, ipl, igv, isl, isp, icm⟩ := his
  have hK : classOf a.sz = κ := by rw [isz]; exact hz
  have hdn := Al.nx_over α'
  rw [hd] at hdn
  cases α with
  | over E H st => cases ho
  | take τ =>
    obtain ⟨gt, go⟩ := hg
    obtain ⟨c', F', τ', ht⟩ : ∃ c' F' τ', tkTurn q.c q.lk q.F τ = (c', F', τ') := ⟨_, _, _, rfl⟩
    have hat := Tk.at_in (t := t) gt
    simp only [alTurn, ht] at hq
    rcases tk_fate τ' with hf | ⟨x, hf⟩ | hf
    · rw [alTake_on hf] at hq
      obtain ⟨rfl, rfl⟩ := Prod.mk.inj hq
      refine (astep_take h hi who inx _ d ?_ (fun w1 m1 i1 => atake_on m1 hb i1 who hT.pile hσ t1 κ hK τ itk gt go c' F' τ' ht hf)).mono ?_
      · rintro s' a' ⟨_, _, _, l, _, rfl⟩
        rw [← hdn]
        show (a.nx == 8) = _
        rw [inx]; rfl
      · rintro e w' ⟨rfl, s', cs', a', m', o', i', sm, p', ⟨v, rfl⟩, g', l, hl, rfl⟩
        exact ⟨rfl, _, cs', _, m', hT.slots hσ who _ v hat p', i', ⟨inx, isz, iow, hl, ipl, igv, isl, isp, icm⟩, ⟨g', hf⟩, sm, o', v, rfl⟩
    · subst hf
      have hq' : ({ q with c := c', F := F' }, Al.ask x) = (q', α') := hq
      obtain ⟨rfl, rfl⟩ := Prod.mk.inj hq'
      have hxF : x ∉ F' := by
        cases τ with
        | idle =>
          simp only [tkTurn] at ht
          split at ht <;> cases ht
        | saw => cases ht
        | lnk y c0 q0 =>
          simp only [tkTurn] at ht
          split at ht
          · rename_i e
            obtain ⟨_, rfl, hyx⟩ : _ ∧ q.F.tail = F' ∧ Tk.won y = Tk.won x := by simpa using ht
            cases hyx
            have hh := (gt.2.2.2 e).1
            have nd := hT.pile.nd
            intro hm
            cases hF : q.F with
            | nil => rw [hF] at hh; simp [Go.Proofs.YtcdmokbamakomaaGreat.hd] at hh
            | cons u F2 =>
              rw [hF] at hh hm nd
              have : u = x := by simpa [Go.Proofs.YtcdmokbamakomaaGreat.hd] using hh
              subst this
              exact (List.nodup_cons.1 nd).1 hm
          · cases ht
        | won => cases go
        | none => cases go
      refine (astep_take h hi who inx _ d ?_ (fun w1 m1 i1 => atake_won m1 hb i1 who hT.pile hσ t1 κ hK τ itk gt go c' F' _ ht x rfl)).mono ?_
      · rintro s' a' ⟨_, _, _, l, _, rfl⟩
        rw [← hdn]; rfl
      · rintro e w' ⟨rfl, s', cs', a', m', o', i', sm, p', ⟨v, rfl⟩, hx, l, hl, rfl⟩
        exact ⟨rfl, _, cs', _, m', hT.slots hσ who _ v hat p', i', ⟨rfl, isz, iow, trivial, trivial, trivial, rfl, trivial, icm⟩, ⟨hx, hxF⟩, sm, o', v, rfl⟩
    · subst hf
      have hq' : ({ q with c := c', F := F' }, Al.over 7 0 (σ + 1)) = (q', α') := hq
      obtain ⟨rfl, rfl⟩ := Prod.mk.inj hq'
      refine (astep_take h hi who inx _ d ?_ (fun w1 m1 i1 => atake_none m1 hb i1 who hT.pile hσ t1 κ hK τ itk gt go c' F' _ ht rfl)).mono ?_
      · rintro s' a' ⟨_, _, l, _, rfl⟩
        rw [← hdn]; rfl
      · rintro e w' ⟨rfl, s', cs', a', m', o', i', sm, p', ⟨v, rfl⟩, l, hl, rfl⟩
        exact ⟨rfl, _, cs', _, m', hT.slots hσ who _ v hat p', i', ⟨rfl, isz, iow, trivial, trivial, trivial, trivial, trivial, rfl, rfl, rfl, rfl⟩, trivial, sm, o', v, rfl⟩
  | ask x =>
    obtain ⟨hx, hxF⟩ := hg
    have hq' : (q, Al.place x (genOf (q.sw x)) .see) = (q', α') := hq
    obtain ⟨rfl, rfl⟩ := Prod.mk.inj hq'
    obtain ⟨v0, v1⟩ := hT.swb x hx
    refine (astep_ask h hi who inx _ d ?_ (fun w1 m1 i1 => aask m1 hb i1 who har x isl (by omega) (by omega) (q.sw x) (hT.swv x hx) v0 v1 (genOf (q.sw x)) (genOf_is _) κ hK)).mono ?_
    · rintro s' a' ⟨_, rfl⟩
      rw [← hdn]; rfl
    · rintro e w' ⟨rfl, s', cs', a', m', o', i', sm, rfl, rfl⟩
      exact ⟨rfl, _, cs', _, m', hT.same hσ who _, i', ⟨rfl, isz, iow, trivial, ⟨_, _, _, _, _, rfl⟩, trivial, ⟨isl, rfl⟩, trivial, icm⟩, ⟨hx, hxF, genOf_le _, trivial, rfl⟩, sm, o', _, rfl⟩
  | place x G τ =>
    obtain ⟨hx, hxF, hGb, gt, go⟩ := hg
    obtain ⟨y', τ', ht⟩ : ∃ y' τ', turn k m κ (base t n k m) q.y τ = (y', τ') := ⟨_, _, rfl⟩
    have hat := Pl.at_in (t := t) (n := n) gt
    simp only [alTurn, ht] at hq
    rcases pl_fate τ' with hf | ⟨A, i, hf⟩ | hf
    · rw [alPlace_on hf] at hq
      obtain ⟨rfl, rfl⟩ := Prod.mk.inj hq
      refine (astep_words h hi who inx _ d ?_ (fun w1 m1 i1 => awords_on m1 hb i1 who hT.yard hG' hσ hκ τ ipl gt go y' τ' ht hf)).mono ?_
      · rintro s' a' ⟨_, _, _, l, _, rfl⟩
        rw [← hdn]
        show (a.nx == 8) = _
        rw [inx]; rfl
      · rintro e w' ⟨rfl, s', cs', a', m', o', i', sm, p', ⟨v, rfl⟩, g', l, hl, rfl⟩
        exact ⟨rfl, _, cs', _, m', hT.chunks hσ who hκ _ v hat p', i', ⟨inx, isz, iow, trivial, hl, trivial, isl, trivial, icm⟩, ⟨hx, hxF, hGb, g', hf⟩, sm, o', v, rfl⟩
    · subst hf
      have hq' : ({ q with y := y' }, Al.count x G A i) = (q', α') := hq
      obtain ⟨rfl, rfl⟩ := Prod.mk.inj hq'
      obtain ⟨c, -, hik, -, rfl, hu, -⟩ := turn_won gt go ht
      have hin := base_in (t := t) (n := n) hik hu
      have hr := room_bd κ
      refine (astep_words h hi who inx _ d ?_ (fun w1 m1 i1 => awords_won m1 hb i1 who hT.yard hG' hσ hκ τ ipl gt go y' _ ht _ i rfl)).mono ?_
      · rintro s' a' ⟨_, _, l, _, rfl⟩
        rw [← hdn]; rfl
      · rintro e w' ⟨rfl, s', cs', a', m', o', i', sm, p', ⟨v, rfl⟩, l, hl, rfl⟩
        exact ⟨rfl, _, cs', _, m', hT.chunks hσ who hκ _ v hat p', i', ⟨rfl, isz, iow, trivial, trivial, trivial, isl, ⟨rfl, rfl⟩, icm⟩, ⟨hx, hxF, hGb, hik, hin.1, by omega⟩, sm, o', v, rfl⟩
    · subst hf
      have hq' : ({ q with y := y' }, Al.give x G .idle) = (q', α') := hq
      obtain ⟨rfl, rfl⟩ := Prod.mk.inj hq'
      refine (astep_words h hi who inx _ d ?_ (fun w1 m1 i1 => awords_none m1 hb i1 who hT.yard hG' hσ hκ τ ipl gt go y' _ ht x isl.1 rfl)).mono ?_
      · rintro s' a' ⟨_, _, l, _, rfl⟩
        rw [← hdn]; rfl
      · rintro e w' ⟨rfl, s', cs', a', m', o', i', sm, p', ⟨v, rfl⟩, l, hl, rfl⟩
        exact ⟨rfl, _, cs', _, m', hT.chunks hσ who hκ _ v hat p', i', ⟨rfl, isz, iow, trivial, trivial, ⟨_, rfl⟩, isl, trivial, icm⟩, ⟨hx, hxF, trivial, rfl⟩, sm, o', v, rfl⟩
  | count x G A i =>
    obtain ⟨hx, hxF, hGb, hik, ha0, ha1⟩ := hg
    have hq' : ({ q with lv := upd q.lv i (q.lv i + room κ) }, Al.head x G A i) = (q', α') := hq
    obtain ⟨rfl, rfl⟩ := Prod.mk.inj hq'
    refine (astep_count h hi who inx _ d ?_ (fun w1 m1 i1 => acount m1 hb i1 who har n1 t1 i isp.2 (by omega) (by omega) κ hκ hK)).mono ?_
    · rintro s' a' ⟨_, rfl⟩
      rw [← hdn]; rfl
    · rintro e w' ⟨rfl, s', cs', a', m', o', i', sm, rfl, rfl⟩
      exact ⟨rfl, _, cs', _, m', hT.counts hσ who hik (room_bd κ).2, i', ⟨rfl, isz, iow, trivial, trivial, trivial, isl, isp, icm⟩, ⟨hx, hxF, hGb, hik, ha0, ha1⟩, sm, o', _, rfl⟩
  | head x G A i =>
    obtain ⟨hx, hxF, hGb, hik, ha0, ha1⟩ := hg
    have hq' : ({ q with dw := upd q.dw A (packOw 1 z x G own) }, Al.shw x G A i) = (q', α') := hq
    obtain ⟨rfl, rfl⟩ := Prod.mk.inj hq'
    refine (astep_head h hb hi who inx z fz isz x G A isl.1 isl.2 isp.1 own iow (by omega) (by omega) (by omega)).mono ?_
    rintro e w' ⟨rfl, s', cs', a', m', o', i', sm, rfl, rfl⟩
    exact ⟨by rw [← hd]; rfl, _, cs', _, m', hT.lays hσ who ha0 _, i', ⟨rfl, isz, iow, trivial, trivial, trivial, isl, isp, icm⟩, ⟨hx, hxF, hGb, hik, ha0, ha1⟩, sm, o', _, rfl⟩
  | shw x G A i =>
    obtain ⟨hx, hxF, hGb, hik, ha0, ha1⟩ := hg
    have hq' : ({ q with sw := upd q.sw x (packS 1 A G 0) }, Al.ready x G A i (σ + 1)) = (q', α') := hq
    obtain ⟨rfl, rfl⟩ := Prod.mk.inj hq'
    have hbd := packS_bd 1 A G 0
    refine (astep_show h hi who inx _ d ?_ (fun w1 m1 i1 => ashow m1 hb i1 who har x G A isl.1 isl.2 isp.1 (by omega) (by omega) (by omega) (by omega) (σ + 1) hst)).mono ?_
    · rintro s' a' ⟨_, rfl⟩
      rw [← hdn]; rfl
    · rintro e w' ⟨rfl, s', cs', a', m', o', i', sm, rfl, rfl⟩
      exact ⟨rfl, _, cs', _, m', hT.shows hσ who hx _ hbd.1 (Int.le_trans hbd.2 (by decide)), i', ⟨rfl, isz, iow, trivial, trivial, trivial, isl, isp, ⟨icm.1, rfl, icm.2.2.1, rfl⟩⟩, ⟨hx, hxF, hGb, hik, ha0, ha1⟩, sm, o', _, rfl⟩
  | ready x G A i st =>
    obtain ⟨hx, hxF, hGb, hik, ha0, ha1⟩ := hg
    have hq' : ({ q with dw := upd q.dw A (packOw 2 z x G own) }, Al.over 0 (packH x G) st) = (q', α') := hq
    obtain ⟨rfl, rfl⟩ := Prod.mk.inj hq'
    refine (astep_ready h hb hi who inx z fz isz x G A isl.1 isl.2 isp.1 own iow (by omega) (by omega) (by omega)).mono ?_
    rintro e w' ⟨rfl, s', cs', a', m', o', i', sm, rfl, rfl⟩
    exact ⟨by rw [← hd]; rfl, _, cs', _, m', hT.lays hσ who ha0 _, i', ⟨rfl, isz, iow, trivial, trivial, trivial, trivial, trivial, icm⟩, trivial, sm, o', _, rfl⟩
  | give x G γ =>
    obtain ⟨hx, hxF, gt, go⟩ := hg
    obtain ⟨c', lk', F', γ', ht⟩ : ∃ c' lk' F' γ', gvTurn q.c q.lk q.F x γ = (c', lk', F', γ') := ⟨_, _, _, _, rfl⟩
    have hat := Gv.at_in (t := t) hx γ
    simp only [alTurn, ht] at hq
    cases hf : γ'.done with
    | false =>
      rw [alGive_on hf] at hq
      obtain ⟨rfl, rfl⟩ := Prod.mk.inj hq
      have hFF : F' = q.F := by
        cases γ with
        | idle => obtain ⟨_, _, rfl, _⟩ : q.c = c' ∧ q.lk = lk' ∧ q.F = F' ∧ _ = γ' := by simpa [gvTurn] using ht
                  rfl
        | saw hh cc => obtain ⟨_, _, rfl, _⟩ : q.c = c' ∧ _ = lk' ∧ q.F = F' ∧ _ = γ' := by simpa [gvTurn] using ht
                       rfl
        | lnk hh cc =>
          simp only [gvTurn] at ht
          split at ht
          · obtain ⟨_, _, _, rfl⟩ : _ ∧ _ ∧ _ ∧ Gv.over = γ' := by simpa using ht
            cases hf
          · obtain ⟨_, _, rfl, _⟩ : q.c = c' ∧ q.lk = lk' ∧ q.F = F' ∧ _ = γ' := by simpa using ht
            rfl
        | over => cases go
      refine (astep_give h hi who inx _ d ?_ (fun w1 m1 i1 => agive_on m1 hb i1 who hT.pile hσ t1 hx hxF γ igv gt go c' lk' F' γ' ht hf)).mono ?_
      · rintro s' a' ⟨_, _, _, l, _, rfl⟩
        rw [← hdn]
        show (a.nx == 8) = _
        rw [inx]; rfl
      · rintro e w' ⟨rfl, s', cs', a', m', o', i', sm, p', ⟨v, rfl⟩, g', l, hl, rfl⟩
        exact ⟨rfl, _, cs', _, m', hT.slots hσ who _ v hat p', i', ⟨inx, isz, iow, trivial, trivial, hl, isl, trivial, icm⟩, ⟨hx, (by rw [← hFF] at hxF; exact hxF), g', hf⟩, sm, o', v, rfl⟩
    | true =>
      have := Gv.is_over hf
      subst this
      have hq' : ({ q with c := c', lk := lk', F := F' }, Al.over 6 0 (σ + 1)) = (q', α') := hq
      obtain ⟨rfl, rfl⟩ := Prod.mk.inj hq'
      refine (astep_give h hi who inx _ d ?_ (fun w1 m1 i1 => agive_over m1 hb i1 who hT.pile hσ t1 hx hxF γ igv gt go c' lk' F' _ ht rfl)).mono ?_
      · rintro s' a' ⟨_, _, l, _, rfl⟩
        rw [← hdn]; rfl
      · rintro e w' ⟨rfl, s', cs', a', m', o', i', sm, p', ⟨v, rfl⟩, l, hl, rfl⟩
        exact ⟨rfl, _, cs', _, m', hT.slots hσ who _ v hat p', i', ⟨rfl, isz, iow, trivial, trivial, trivial, trivial, trivial, rfl, rfl, rfl, rfl⟩, trivial, sm, o', v, rfl⟩
end

end Go.Proofs.YtcdmokbamakomaaGreat

/- The statements' own helper: to make an object alone. -/
namespace Go.Proofs.YtcdmokbamakomaaGreat
open Go.RowKit

/-- alone: so many steps, the last of which ends it -/
inductive Runs (t n k m κ : Nat) (z : Int) (own : Bool) : Nat → Nat → Q → Al → Q → Al → Prop where
  | one {σ : Nat} {q : Q} {α : Al} {q' : Q} {α' : Al} (ho : α.over? = false) (ht : alTurn t n k m κ z own σ q α = (q', α')) (h : α'.over? = true) : Runs t n k m κ z own 1 σ q α q' α'
  | more {N σ : Nat} {q : Q} {α : Al} {q1 : Q} {α1 : Al} {q' : Q} {α' : Al} (ho : α.over? = false) (ht : alTurn t n k m κ z own σ q α = (q1, α1)) (h : α1.over? = false) (g : Runs t n k m κ z own N (σ + 1) q1 α1 q' α') : Runs t n k m κ z own (N + 1) σ q α q' α'

theorem Runs.pos {t n k m κ : Nat} {z : Int} {own : Bool} {N σ : Nat} {q : Q} {α : Al} {q' : Q} {α' : Al} (g : Runs t n k m κ z own N σ q α q' α') : 1 ≤ N := by
  cases g <;> omega

section
variable {w : World} {L : Loc} {t n k m σ κ : Nat} {s : Mm} {q : Q} {z : Int} {own : Bool}

set_option maxHeartbeats 1000000 in
theorem make_goes {cg cp cr : Int} (h : MemAt w L s) (hT : Town t n k m s σ q) (hG : Good t n k m cg cp cr) (fz : Fit z) (hz : classOf z = κ) (hκ : κ < 4) (hσ : σ + 400 < 1000000) {N : Nat} (hN : N ≤ 400) {q' : Q} {E H : Int} {st : Nat} (g : Runs t n k m κ z own N σ q (.take .idle) q' (.over E H st)) :
    Calls Tryz.prog 11 #[.agg #[.int .i64 t, .int .i64 n, .int .i64 k, .int .i64 m, .int .i64 cg, .int .i64 cp, .int .i64 cr, .pointer (some ⟨L.p, 0, none⟩), .int .i64 0], .int .i64 z, .bool own] w fun e w' => e = .returned (.agg #[.int .i64 E, .int .u64 H, .int .i64 0, .int .i64 st]) ∧ ∃ s', MemAt w' L s' ∧ Town t n k m s' (σ + N) q' ∧ Only L.has w w' := by
  have hB : Hid (¬ L.has w.heap.size) := fun hh => by have := h.lt _ hh; omega
  have hB1 : Hid (¬ L.has (w.heap.size + 1)) := fun hh => by have := h.lt _ hh; omega
  have hB2 : Hid (¬ L.has (w.heap.size + 1 + 1)) := fun hh => by have := h.lt _ hh; omega
  have HT : Hid (Town t n k m s σ q) := hT
  have HM : Hid (MemAt w L s) := h
  have HG : Hid (Good t n k m cg cp cr) := hG
  have HZ : Hid (classOf z = κ) := hz
  have GG : Hid (Runs t n k m κ z own N σ q (.take .idle) q' (.over E H st)) := g
  clear h hT hG g hz
  go_enter Tryz.func11, Tryz.ntmps11
  go_wp2_with (go_at_call 28; refine (newAlloc_any z own _).mono ?_; rintro e w1 ⟨rfl, rfl⟩)
  have A1 : Hid (∃ s1 cs1 a1, MemAt (((w.alloc (.cells #[.int .i64 t, .int .i64 n, .int .i64 k, .int .i64 m, .int .i64 cg, .int .i64 cp, .int .i64 cr, .pointer (some ⟨L.p, 0, none⟩), .int .i64 0] 28)).alloc (.cells #[.int .i64 0, .int .u64 0, .int .i64 0, .int .i64 0] 37)).alloc (alloc0 z own)) L s1 ∧ Town t n k m s1 (σ + 0) q ∧ AlAt (((w.alloc (.cells #[.int .i64 t, .int .i64 n, .int .i64 k, .int .i64 m, .int .i64 cg, .int .i64 cp, .int .i64 cr, .pointer (some ⟨L.p, 0, none⟩), .int .i64 0] 28)).alloc (.cells #[.int .i64 0, .int .u64 0, .int .i64 0, .int .i64 0] 37)).alloc (alloc0 z own)) (w.heap.size + 1 + 1) 0 109 cs1 a1 ∧ AlIs z own κ (.take .idle) a1 ∧ (Al.take .idle).good t n k m κ (σ + 0) q ∧ BoxV (((w.alloc (.cells #[.int .i64 t, .int .i64 n, .int .i64 k, .int .i64 m, .int .i64 cg, .int .i64 cp, .int .i64 cr, .pointer (some ⟨L.p, 0, none⟩), .int .i64 0] 28)).alloc (.cells #[.int .i64 0, .int .u64 0, .int .i64 0, .int .i64 0] 37)).alloc (alloc0 z own)) w.heap.size t n k m cg cp cr L.p 0 ∧ At (((w.alloc (.cells #[.int .i64 t, .int .i64 n, .int .i64 k, .int .i64 m, .int .i64 cg, .int .i64 cp, .int .i64 cr, .pointer (some ⟨L.p, 0, none⟩), .int .i64 0] 28)).alloc (.cells #[.int .i64 0, .int .u64 0, .int .i64 0, .int .i64 0] 37)).alloc (alloc0 z own)) (w.heap.size + 1) 0 37 #[.int .i64 0, .int .u64 0, .int .i64 0, .int .i64 0] [.int .i64 0, .int .u64 0, .int .i64 0, .int .i64 0] ∧ Only (L.and (w.heap.size + 1 + 1)) w (((w.alloc (.cells #[.int .i64 t, .int .i64 n, .int .i64 k, .int .i64 m, .int .i64 cg, .int .i64 cp, .int .i64 cr, .pointer (some ⟨L.p, 0, none⟩), .int .i64 0] 28)).alloc (.cells #[.int .i64 0, .int .u64 0, .int .i64 0, .int .i64 0] 37)).alloc (alloc0 z own))) := by
    obtain ⟨cs, q0⟩ := alloc0_at z own ((w.alloc (.cells #[.int .i64 t, .int .i64 n, .int .i64 k, .int .i64 m, .int .i64 cg, .int .i64 cp, .int .i64 cr, .pointer (some ⟨L.p, 0, none⟩), .int .i64 0] 28)).alloc (.cells #[.int .i64 0, .int .u64 0, .int .i64 0, .int .i64 0] 37))
    rw [Go.Deep.nblk_alloc, Go.Deep.nblk_alloc] at q0
    have q1 := (At.new (w.alloc (.cells #[.int .i64 t, .int .i64 n, .int .i64 k, .int .i64 m, .int .i64 cg, .int .i64 cp, .int .i64 cr, .pointer (some ⟨L.p, 0, none⟩), .int .i64 0] 28)) 37 [.int .i64 0, .int .u64 0, .int .i64 0, .int .i64 0]).grown (grow_alloc (Below.refl _ _) (alloc0 z own))
    rw [Go.Deep.nblk_alloc] at q1
    exact ⟨s, cs, _, ((HM.out.alloc _).alloc _).alloc _, HT.out, q0, al0_is z own κ, ⟨trivial, rfl⟩, (BoxV.newB _).grown (grow_alloc (Below.refl _ _) _), q1, (((Only.refl _ _).alloc _).alloc _).alloc _⟩
  clear HM HT
  go_loopw [8] (fun i wr => ∃ (j N1 : Nat) (s1 : Mm) (cs1 : Array Value) (a1 : AV) (q1 : Q) (α1 : Al), i = .int .i64 j ∧ j + N1 = N ∧ Runs t n k m κ z own N1 (σ + j) q1 α1 q' (.over E H st) ∧ MemAt wr L s1 ∧ Town t n k m s1 (σ + j) q1 ∧ AlAt wr (w.heap.size + 1 + 1) 0 109 cs1 a1 ∧ AlIs z own κ α1 a1 ∧ α1.good t n k m κ (σ + j) q1 ∧ BoxV wr w.heap.size t n k m cg cp cr L.p 0 ∧ At wr (w.heap.size + 1) 0 37 #[.int .i64 0, .int .u64 0, .int .i64 0, .int .i64 0] [.int .i64 0, .int .u64 0, .int .i64 0, .int .i64 0] ∧ Only (L.and (w.heap.size + 1 + 1)) w wr) (fun i _ => 400 - (intOf i).toNat)
  case atStart =>
    obtain ⟨s1, cs1, a1, hm⟩ := A1.out
    exact ⟨0, N, s1, cs1, a1, q, _, rfl, by omega, GG.out, hm⟩
  case round =>
    clear A1 GG
    obtain ⟨j, N1, s1, cs1, a1, q1, α1, rfl, hj, gg, mm, tw, ia, is1, gd, v, j1, on⟩ := hrel
    have hN1 := gg.pos
    have hj3 : (j : Int) < 400 := by omega
    have y0 := v.c0
    have y1 := v.c1
    have y2 := v.c2
    have y3 := v.c3
    have y4 := v.c4
    have y5 := v.c5
    have y6 := v.c6
    have y7 := v.c7
    have y8 := v.c8
    cases gg with
    | one ho ht h1 =>
      have HT1 : Hid (alTurn t n k m κ z own (σ + j) q1 α1 = (q', .over E H st)) := ht
      have HO : Hid (α1.over? = false) := ho
      clear ht ho
      go_wp2_with (first
        | (go_at_call 29; refine (alloc_step mm hB2.out tw HG.out (by omega) fz HZ.out hκ α1 ia is1 gd HO.out 0 _ _ HT1.out true h1).mono ?_; rintro e w2 ⟨rfl, s2, cs2, a2, P⟩; obtain ⟨c1, c2, c3, c4⟩ := P.is.cm; have hnx := P.is.nx)
        | (go_at_call 30; refine (adone_over P.al hnx).mono ?_; rintro e w3 ⟨rfl, b3⟩; rw [c1, c2, c3, c4]; have j3 := (j1.only P.only (fun hh => hh.elim hB1.out (by omega))).grown b3; have z0 := j3.at0 0 rfl; have z1 := j3.at0 1 rfl; have z2 := j3.at0 2 rfl; have z3 := j3.at0 3 rfl; have qf := j3.fz))
      refine bodyPost_ret (v := .agg #[.int .i64 E, .int .u64 H, .int .i64 0, .int .i64 st]) (by simp [results, Tryz.results11, go_sem, z0, z1, z2, z3]) rfl ?_
      refine ⟨rfl, s2, ((((P.mm.below b3).setIn hB1.out _ _).setIn hB1.out _ _).setIn hB1.out _ _).setIn hB1.out _ _, ?_, ?_⟩
      · have := P.tw
        rwa [show σ + j + 1 = σ + N by omega] at this
      · exact ((((((on.trans P.only).trans (Only.ofGrown b3)).setCell (fun hlt => by simp only at hlt; omega) _).setCell (fun hlt => by simp only at hlt; omega) _).setCell (fun hlt => by simp only at hlt; omega) _).setCell (fun hlt => by simp only at hlt; omega) _).mono (fun x hx hh => hh.elim id (fun e => absurd e (by omega)))
    | more ho ht h1 g1 =>
      have HT1 : Hid (alTurn t n k m κ z own (σ + j) q1 α1 = (_, _)) := ht
      have HO : Hid (α1.over? = false) := ho
      clear ht ho
      go_wp2_with (go_at_call 29; refine (alloc_step mm hB2.out tw HG.out (by omega) fz HZ.out hκ α1 ia is1 gd HO.out 0 _ _ HT1.out false h1).mono ?_; rintro e w2 ⟨rfl, s2, cs2, a2, P⟩)
      go_roundw
      case rel =>
        exact ⟨j + 1, _, s2, cs2, a2, _, _, by go_num, by omega, g1, P.mm, P.tw, P.al, P.is, P.good, v.only P.only (fun hh => hh.elim hB.out (by omega)), j1.only P.only (fun hh => hh.elim hB1.out (by omega)), on.trans P.only⟩
      case measure => simp [intOf]; omega

end

end Go.Proofs.YtcdmokbamakomaaGreat
