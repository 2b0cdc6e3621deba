/- An arena in which objects are made: its slots, its chunks, its live words, the words of its slots and of its chunks; one who makes an object: what each step comes to, told without a program. -/
import Derived.Test.YtocmkmeikcejjaaAllocGo
namespace Go.Proofs.Ytocmkmeikcejjaa
open Go.RowKit

/-- an arena in which objects are made: the count, the links, the free slots; the chunks; live words; the slots' words; the chunks' words -/
structure Q where
  c : Nat
  lk : Nat → Nat
  F : List Nat
  y : Y
  lv : Nat → Nat
  sw : Nat → Int
  dw : Nat → Int
  db : Nat → Nat := fun _ => 0

/-- what stands where live words are counted: those that live, less those that are not counted yet -/
def owe (a d : Nat) : Int := ((a : Int) - (d : Int)) % 18446744073709551616
theorem owe0 {a : Nat} (h : a ≤ 17000017) : owe a 0 = (a : Int) := by unfold owe; omega
theorem owe_add (a d r : Nat) : sum64 (owe a d) (word64 (r : Int)) = owe (a + r) d := by unfold sum64 word64 owe; omega
theorem owe_sub (a d r : Nat) (h : r ≤ a) : sum64 (owe a d) (word64 (-(r : Int))) = owe (a - r) d := by unfold sum64 word64 owe; omega
theorem owe_pay (a d r : Nat) (h : r ≤ d) : sum64 (owe a d) (word64 (r : Int)) = owe a (d - r) := by unfold sum64 word64 owe; omega
theorem owe_both (a d r : Nat) : owe (a + r) (d + r) = owe a d := by unfold owe; omega

/-- it lies in a memory -/
structure Town (t n k m : Nat) (s : Mm) (σ : Nat) (q : Q) : Prop where
  pile : Pile t n s σ q.c q.lk q.F
  yard : Yard t n k m s σ q.y
  lvw : ∀ i, i < k → s.wd (6 + t + n * 2 + i * 3 + 1) = owe (q.lv i) (q.db i)
  lvb : ∀ i, i < k → q.lv i ≤ 17 * σ
  swv : ∀ x, x < n → s.wd (6 + t + x * 2) = q.sw x
  swb : ∀ x, x < n → 0 ≤ q.sw x ∧ q.sw x ≤ 18446744073709551615
  dwv : ∀ a, 6 + t + n * 2 + k * 3 ≤ a → s.wd a = q.dw a
  ep : 0 ≤ s.wd 0 ∧ s.wd 0 ≤ 18446744073709551615

/-- one who makes an object -/
inductive Al where
  | take (τ : Tk)
  | ask (x : Nat)
  | place (x g : Nat) (τ : Pl)
  | count (x g a i : Nat)
  | head (x g a i : Nat)
  | shw (x g a i : Nat)
  | ready (x g a i st : Nat)
  | give (x g : Nat) (γ : Gv)
  | over (E H : Int) (st : Nat)

def Al.over? : Al → Bool
  | .over _ _ _ => true
  | _ => false

def genOf (v : Int) : Nat := (v / 8388608 % 65536).toNat

def alTake (q : Q) (σ : Nat) : Nat × List Nat × Tk → Q × Al
  | (c', F', .won x) => ({ q with c := c', F := F' }, .ask x)
  | (c', F', .none) => ({ q with c := c', F := F' }, .over 7 0 (σ + 1))
  | (c', F', τ') => ({ q with c := c', F := F' }, .take τ')

def alPlace (q : Q) (x g : Nat) : Y × Pl → Q × Al
  | (y', .won a i) => ({ q with y := y' }, .count x g a i)
  | (y', .none) => ({ q with y := y' }, .give x g .idle)
  | (y', τ') => ({ q with y := y' }, .place x g τ')

def alGive (q : Q) (σ x g : Nat) : Nat × (Nat → Nat) × List Nat × Gv → Q × Al
  | (c', lk', F', .over) => ({ q with c := c', lk := lk', F := F' }, .over 6 0 (σ + 1))
  | (c', lk', F', γ') => ({ q with c := c', lk := lk', F := F' }, .give x g γ')

/-- what a step comes to -/
def alTurn (t n k m κ : Nat) (z : Int) (own : Bool) (σ : Nat) (q : Q) : Al → Q × Al
  | .take τ => alTake q σ (tkTurn q.c q.lk q.F τ)
  | .ask x => (q, .place x (genOf (q.sw x)) .see)
  | .place x g τ => alPlace q x g (turn k m κ (base t n k m) q.y τ)
  | .count x g a i => ({ q with lv := upd q.lv i (q.lv i + room κ) }, .head x g a i)
  | .head x g a i => ({ q with dw := upd q.dw a (packOw 1 z x g own) }, .shw x g a i)
  | .shw x g a i => ({ q with sw := upd q.sw x (packS 1 a g 0) }, .ready x g a i (σ + 1))
  | .ready x g a _ st => ({ q with dw := upd q.dw a (packOw 2 z x g own) }, .over 0 (packH x g) st)
  | .give x g γ => alGive q σ x g (gvTurn q.c q.lk q.F x γ)
  | .over E H st => (q, .over E H st)

/-- what one who makes an object knows -/
def Al.good (t n k m κ σ : Nat) (q : Q) : Al → Prop
  | .take τ => τ.good n q.c q.lk q.F ∧ τ.over = false
  | .ask x => x < n ∧ x ∉ q.F
  | .place x g τ => x < n ∧ x ∉ q.F ∧ g ≤ 65535 ∧ τ.good k m κ σ ∧ τ.over = false
  | .count x g a i => x < n ∧ x ∉ q.F ∧ g ≤ 65535 ∧ i < k ∧ 6 + t + n * 2 + k * 3 ≤ a ∧ a < 6 + t + n * 2 + k * 3 + k * m
  | .head x g a i => x < n ∧ x ∉ q.F ∧ g ≤ 65535 ∧ i < k ∧ 6 + t + n * 2 + k * 3 ≤ a ∧ a < 6 + t + n * 2 + k * 3 + k * m
  | .shw x g a i => x < n ∧ x ∉ q.F ∧ g ≤ 65535 ∧ i < k ∧ 6 + t + n * 2 + k * 3 ≤ a ∧ a < 6 + t + n * 2 + k * 3 + k * m
  | .ready x g a i _ => x < n ∧ x ∉ q.F ∧ g ≤ 65535 ∧ i < k ∧ 6 + t + n * 2 + k * 3 ≤ a ∧ a < 6 + t + n * 2 + k * 3 + k * m
  | .give x _ γ => x < n ∧ x ∉ q.F ∧ γ.good n q.c q.lk q.F x ∧ γ.done = false
  | .over _ _ _ => True

/-- the word that the next step touches -/
def Al.at (t n κ : Nat) : Al → Nat
  | .take τ => τ.at t
  | .ask x => 6 + t + x * 2
  | .place _ _ τ => τ.at t n κ
  | .count _ _ _ i => 6 + t + n * 2 + i * 3 + 1
  | .head _ _ a _ => a
  | .shw x _ _ _ => 6 + t + x * 2
  | .ready _ _ a _ _ => a
  | .give x _ γ => γ.at t x
  | .over _ _ _ => 0

def Al.nx : Al → Int
  | .take _ => 0
  | .ask _ => 1
  | .place _ _ _ => 2
  | .count _ _ _ _ => 3
  | .head _ _ _ _ => 4
  | .shw _ _ _ _ => 5
  | .ready _ _ _ _ _ => 6
  | .give _ _ _ => 7
  | .over _ _ _ => 8

theorem Al.nx_over (α : Al) : (α.nx == 8) = α.over? := by cases α <;> rfl

def Al.tkc : Al → List Value → Prop
  | .take τ, l => τ.cells l
  | _, _ => True
def Al.plc (κ : Nat) : Al → List Value → Prop
  | .place _ _ τ, l => τ.cells κ l
  | _, _ => True
def Al.gvc : Al → List Value → Prop
  | .give x _ γ, l => γ.cells x l
  | _, _ => True
def Al.slc : Al → Int → Int → Prop
  | .take _, _, _ => True
  | .ask x, s, _ => s = x
  | .place x g _, s, h => s = x ∧ h = g
  | .count x g _ _, s, h => s = x ∧ h = g
  | .head x g _ _, s, h => s = x ∧ h = g
  | .shw x g _ _, s, h => s = x ∧ h = g
  | .ready x g _ _ _, s, h => s = x ∧ h = g
  | .give x g _, s, h => s = x ∧ h = g
  | .over _ _ _, _, _ => True
def Al.spc : Al → Int → Int → Prop
  | .count _ _ a i, s, c => s = a ∧ c = i
  | .head _ _ a i, s, c => s = a ∧ c = i
  | .shw _ _ a i, s, c => s = a ∧ c = i
  | .ready _ _ a i _, s, c => s = a ∧ c = i
  | _, _, _ => True
def Al.cmc : Al → Int → Int → Int → Int → Prop
  | .over E H st, e, h, v, s => e = E ∧ h = H ∧ v = 0 ∧ s = st
  | .ready x g _ _ st, e, h, v, s => e = 0 ∧ h = packH x g ∧ v = 0 ∧ s = st
  | _, e, h, v, s => e = 0 ∧ h = 0 ∧ v = 0 ∧ s = 0

/-- its cells -/
structure AlIs (z : Int) (own : Bool) (κ : Nat) (α : Al) (a : AV) : Prop where
  nx : a.nx = α.nx
  sz : a.sz = z
  ow : a.own = own
  tk : α.tkc a.tk
  pl : α.plc κ a.pl
  gv : α.gvc a.gv
  sl : α.slc a.sl a.gn
  sp : α.spc a.sa a.sc
  cm : α.cmc a.E a.H a.V a.St

theorem al0_is (z : Int) (own : Bool) (κ : Nat) : AlIs z own κ (.take .idle) (av0 z own) := ⟨rfl, rfl, rfl, ⟨0, 0, 0, rfl⟩, trivial, trivial, trivial, trivial, rfl, rfl, rfl, rfl⟩

theorem genOf_is (v : Int) : v / 8388608 % 65536 = (genOf v : Int) := by unfold genOf; omega
theorem genOf_le (v : Int) : genOf v ≤ 65535 := by unfold genOf; omega

/-- where one who wants words does a step -/
theorem Pl.at_in {t n k m κ σ : Nat} {τ : Pl} (h : τ.good k m κ σ) : τ.at t n κ = 2 + κ ∨ ∃ i, i < k ∧ τ.at t n κ = 6 + t + n * 2 + i * 3 := by
  cases τ with
  | see => exact Or.inl rfl
  | ask i => exact Or.inr ⟨i, h, rfl⟩
  | grow i c => exact Or.inr ⟨i, h.1, rfl⟩
  | look sn i => exact Or.inr ⟨i, h.1, rfl⟩
  | take sn i c => exact Or.inr ⟨i, h.1, rfl⟩
  | opn sn i c => exact Or.inl rfl
  | fre sn i c => exact Or.inr ⟨i, h.1, rfl⟩
  | won a i => exact Or.inl rfl
  | none => exact Or.inl rfl

theorem Tk.at_in {t n c : Nat} {lk : Nat → Nat} {F : List Nat} {τ : Tk} (h : τ.good n c lk F) : τ.at t = 1 ∨ ∃ x, x < n ∧ τ.at t = 6 + t + x * 2 + 1 := by
  cases τ with
  | saw x c' => exact Or.inr ⟨x, h.1, rfl⟩
  | _ => exact Or.inl rfl

theorem Gv.at_in {t n x : Nat} (hx : x < n) (γ : Gv) : γ.at t x = 1 ∨ ∃ y, y < n ∧ γ.at t x = 6 + t + y * 2 + 1 := by
  cases γ with
  | saw h c' => exact Or.inr ⟨x, hx, rfl⟩
  | _ => exact Or.inl rfl

namespace Town
variable {t n k m : Nat} {s : Mm} {σ : Nat} {q : Q}

theorem len (h : Town t n k m s σ q) : s.n = 6 + t + n * 2 + k * 3 + k * m := h.yard.len

/-- where nothing is owed -/
theorem lvv (h : Town t n k m s σ q) (hσ : σ ≤ 1000000) (i : Nat) (hi : i < k) (hd : q.db i = 0) : s.wd (6 + t + n * 2 + i * 3 + 1) = (q.lv i : Int) := by
  have := h.lvb i hi
  rw [h.lvw i hi, hd, owe0 (by omega)]

/-- a step at a word: what is known of other words -/
theorem step_wd (who : Int) (a x : Nat) (v : Int) (h : x ≠ a) : ((s.by who).step a v).wd x = s.wd x := upd_other s.wd a x v h
theorem step_at (who : Int) (a : Nat) (v : Int) : ((s.by who).step a v).wd a = v := upd_same s.wd a v

/-- a step at the first free slot's word, or at a link -/
theorem slots (h : Town t n k m s σ q) (hσ : σ < 1000000) (who : Int) (a : Nat) (v : Int) (ha : a = 1 ∨ ∃ x, x < n ∧ a = 6 + t + x * 2 + 1) {c' : Nat} {lk' : Nat → Nat} {F' : List Nat} (hp : Pile t n ((s.by who).step a v) (σ + 1) c' lk' F') :
    Town t n k m ((s.by who).step a v) (σ + 1) { q with c := c', lk := lk', F := F' } := by
  have hne : ∀ b, b ≠ 1 → (∀ x, x < n → b ≠ 6 + t + x * 2 + 1) → b ≠ a := fun b h1 h2 e => by
    rcases ha with ha | ⟨x, hx, ha⟩
    · omega
    · exact h2 x hx (by omega)
  refine ⟨hp, h.yard.off hσ who a v ?_ ?_, fun i hi => ?_, fun i hi => ?_, fun x hx => ?_, h.swb, fun b hb => ?_, ?_⟩
  · rcases ha with ha | ⟨x, hx, ha⟩ <;> omega
  · intro i hi
    rcases ha with ha | ⟨x, hx, ha⟩ <;> omega
  · rw [step_wd who a _ v (hne _ (by omega) (fun x hx => by omega))]; exact h.lvw i hi
  · have := h.lvb i hi; show q.lv i ≤ 17 * (σ + 1); omega
  · rw [step_wd who a _ v (hne _ (by omega) (fun y hy => by omega))]; exact h.swv x hx
  · rw [step_wd who a _ v (hne _ (by omega) (fun y hy => by omega))]; exact h.dwv b hb
  · rw [step_wd who a _ v (hne 0 (by omega) (fun y hy => by omega))]; exact h.ep

/-- a step at a chunk's word, or at an open chunk's place -/
theorem chunks (h : Town t n k m s σ q) (hσ : σ < 1000000) (who : Int) {κ : Nat} (hκ : κ < 4) (a : Nat) (v : Int) (ha : a = 2 + κ ∨ ∃ i, i < k ∧ a = 6 + t + n * 2 + i * 3) {y' : Y} (hy : Yard t n k m ((s.by who).step a v) (σ + 1) y') :
    Town t n k m ((s.by who).step a v) (σ + 1) { q with y := y' } := by
  have hne : ∀ b, ¬ (2 ≤ b ∧ b < 6) → (∀ i, i < k → b ≠ 6 + t + n * 2 + i * 3) → b ≠ a := fun b h1 h2 e => by
    rcases ha with ha | ⟨i, hi, ha⟩
    · omega
    · exact h2 i hi (by omega)
  refine ⟨h.pile.off hσ who a v ?_ ?_, hy, fun i hi => ?_, fun i hi => ?_, fun x hx => ?_, h.swb, fun b hb => ?_, ?_⟩
  · rcases ha with ha | ⟨i, hi, ha⟩ <;> omega
  · intro i hi
    rcases ha with ha | ⟨j, hj, ha⟩ <;> omega
  · rw [step_wd who a _ v (hne _ (by omega) (fun x hx => by omega))]; exact h.lvw i hi
  · have := h.lvb i hi; show q.lv i ≤ 17 * (σ + 1); omega
  · rw [step_wd who a _ v (hne _ (by omega) (fun y hy => by omega))]; exact h.swv x hx
  · rw [step_wd who a _ v (hne _ (by omega) (fun y hy => by omega))]; exact h.dwv b hb
  · rw [step_wd who a _ v (hne 0 (by omega) (fun y hy => by omega))]; exact h.ep

/-- a word is loaded -/
theorem same (h : Town t n k m s σ q) (hσ : σ < 1000000) (who : Int) (a : Nat) : Town t n k m ((s.by who).step a (s.wd a)) (σ + 1) q := by
  have e : ((s.by who).step a (s.wd a)).wd = s.wd := upd_id _ _
  refine ⟨h.pile.same hσ who a, h.yard.same hσ who a, fun i hi => by rw [e]; exact h.lvw i hi, fun i hi => ?_, fun x hx => by rw [e]; exact h.swv x hx, h.swb, fun b hb => by rw [e]; exact h.dwv b hb, by rw [e]; exact h.ep⟩
  have := h.lvb i hi; omega

/-- live words are counted -/
theorem counts (h : Town t n k m s σ q) (hσ : σ < 1000000) (who : Int) {i r : Nat} (hi : i < k) (hr : r ≤ 17) :
    Town t n k m ((s.by who).step (6 + t + n * 2 + i * 3 + 1) (sum64 (s.wd (6 + t + n * 2 + i * 3 + 1)) (word64 r))) (σ + 1) { q with lv := upd q.lv i (q.lv i + r) } := by
  have hb := h.lvb i hi
  have hv : sum64 (s.wd (6 + t + n * 2 + i * 3 + 1)) (word64 r) = owe (q.lv i + r) (q.db i) := by
    rw [h.lvw i hi]; exact owe_add _ _ _
  refine ⟨h.pile.off hσ who _ _ (by omega) (fun x hx => by omega), h.yard.off hσ who _ _ (by omega) (fun j hj => by omega), fun j hj => ?_, fun j hj => ?_, fun x hx => ?_, h.swb, fun b hb => ?_, ?_⟩
  · by_cases e : j = i
    · subst e
      rw [step_at, hv]
      show _ = owe (upd q.lv j (q.lv j + r) j) (q.db j)
      rw [upd_same]
    · rw [step_wd who _ _ _ (by omega)]
      show _ = owe (upd q.lv i (q.lv i + r) j) (q.db j)
      rw [upd_other _ _ _ _ e]; exact h.lvw j hj
  · show upd q.lv i (q.lv i + r) j ≤ 17 * (σ + 1)
    by_cases e : j = i
    · subst e; rw [upd_same]; omega
    · rw [upd_other _ _ _ _ e]; have := h.lvb j hj; omega
  · rw [step_wd who _ _ _ (by omega)]; exact h.swv x hx
  · rw [step_wd who _ _ _ (by omega)]; exact h.dwv b hb
  · rw [step_wd who _ _ _ (by omega)]; exact h.ep

/-- a chunk's word is laid -/
theorem lays (h : Town t n k m s σ q) (hσ : σ < 1000000) (who : Int) {a : Nat} (ha : 6 + t + n * 2 + k * 3 ≤ a) (v : Int) :
    Town t n k m ((s.by who).step a v) (σ + 1) { q with dw := upd q.dw a v } := by
  refine ⟨h.pile.off hσ who _ _ (by omega) (fun x hx => by omega), h.yard.off hσ who _ _ (by omega) (fun j hj => by omega), fun j hj => ?_, fun j hj => ?_, fun x hx => ?_, h.swb, fun b hb => ?_, ?_⟩
  · rw [step_wd who _ _ _ (by omega)]; exact h.lvw j hj
  · have := h.lvb j hj; show q.lv j ≤ 17 * (σ + 1); omega
  · rw [step_wd who _ _ _ (by omega)]; exact h.swv x hx
  · show _ = upd q.dw a v b
    by_cases e : b = a
    · subst e; rw [step_at, upd_same]
    · rw [step_wd who _ _ _ e, upd_other _ _ _ _ e]; exact h.dwv b hb
  · rw [step_wd who _ _ _ (by omega)]; exact h.ep

/-- a slot's word is laid -/
theorem shows (h : Town t n k m s σ q) (hσ : σ < 1000000) (who : Int) {x : Nat} (hx : x < n) (v : Int) (v0 : 0 ≤ v) (v1 : v ≤ 18446744073709551615) :
    Town t n k m ((s.by who).step (6 + t + x * 2) v) (σ + 1) { q with sw := upd q.sw x v } := by
  refine ⟨h.pile.off hσ who _ _ (by omega) (fun x hx => by omega), h.yard.off hσ who _ _ (by omega) (fun j hj => by omega), fun j hj => ?_, fun j hj => ?_, fun y hy => ?_, fun y hy => ?_, fun b hb => ?_, ?_⟩
  · rw [step_wd who _ _ _ (by omega)]; exact h.lvw j hj
  · have := h.lvb j hj; show q.lv j ≤ 17 * (σ + 1); omega
  · show _ = upd q.sw x v y
    by_cases e : y = x
    · subst e; rw [step_at, upd_same]
    · rw [step_wd who _ _ _ (by omega), upd_other _ _ _ _ e]; exact h.swv y hy
  · show 0 ≤ upd q.sw x v y ∧ upd q.sw x v y ≤ _
    by_cases e : y = x
    · subst e; rw [upd_same]; exact ⟨v0, v1⟩
    · rw [upd_other _ _ _ _ e]; exact h.swb y hy
  · rw [step_wd who _ _ _ (by omega)]; exact h.dwv b hb
  · rw [step_wd who _ _ _ (by omega)]; exact h.ep
end Town

/-- a fresh arena -/
def Q.new (n : Nat) : Q := ⟨0, link0 n, upFrom n n, Y.new, fun _ => 0, fun _ => 8388608, fun _ => 0, fun _ => 0⟩

theorem town0 {t n k m : Nat} {g p r : Int} (hG : Good t n k m g p r) (hn : n ≤ 65535) : Town t n k m (Mm.laid t n (arenaLen t n k m) n) (1 + 2 * n) (Q.new n) := by
  have hs := hG.s0
  have hs1 := hG.s1
  refine ⟨pile0 t n _ hs hn (by unfold arenaLen; omega), yard0 t n k m hs1, fun i hi => ?_, fun i hi => Nat.zero_le _, fun x hx => laid_slot _ _ _ _ _ hx, fun x hx => ⟨by simp [Q.new], by simp [Q.new]⟩, fun a ha => ?_, ?_⟩
  · rw [laid_else _ _ _ _ _ (by omega) (Or.inr (by omega))]; rfl
  · rw [laid_else _ _ _ _ _ (by omega) (Or.inr (by omega))]; rfl
  · rw [laid_else _ _ _ _ _ (by omega) (Or.inl (by omega))]; exact ⟨by decide, by decide⟩

/-- whoever gets words gets them within a chunk -/
theorem turn_won {k m κ σ : Nat} {bs : Nat → Nat} {y y' : Y} {τ : Pl} {a i : Nat} (hg : τ.good k m κ σ) (ho : τ.over = false) (ht : turn k m κ bs y τ = (y', .won a i)) : ∃ c : Ck, τ = .grow i c ∧ i < k ∧ y.ck i = c ∧ a = bs i + c.us ∧ c.us + room κ ≤ m ∧ c.st = 1 ∧ c.cl = κ ∧ y' = ⟨upd y.ck i ⟨c.st, c.cl, c.us + room κ, c.sp⟩, y.op⟩ := by
  cases τ with
  | see =>
    simp only [turn, adv] at ht
    split at ht
    · split at ht <;> cases ht
    · cases ht
  | ask j =>
    simp only [turn, adv] at ht
    split at ht
    · cases ht
    · split at ht <;> cases ht
  | grow j c =>
    obtain ⟨hik, hc, h1, h2, h3⟩ := hg
    simp only [turn] at ht
    split at ht
    · rename_i e
      obtain ⟨rfl, rfl, rfl⟩ : _ = y' ∧ bs j + c.us = a ∧ j = i := by simpa using ht
      exact ⟨c, rfl, hik, e, rfl, h3, h1, h2, rfl⟩
    · cases ht
  | look sn j =>
    simp only [turn, adv] at ht
    split at ht
    · cases ht
    · split at ht <;> cases ht
  | take sn j c =>
    simp only [turn, adv] at ht
    split at ht
    · cases ht
    · split at ht <;> cases ht
  | opn sn j c =>
    simp only [turn] at ht
    split at ht <;> cases ht
  | fre sn j c =>
    simp only [turn] at ht
    split at ht <;> cases ht
  | won a j => cases ho
  | none => cases ho

theorem base_in {t n k m i u r : Nat} (hi : i < k) (hu : u + r ≤ m) : 6 + t + n * 2 + k * 3 ≤ base t n k m i + u ∧ base t n k m i + u + r ≤ 6 + t + n * 2 + k * 3 + k * m := by
  unfold base
  have : i * m + m ≤ k * m := by
    have := Nat.mul_le_mul_right m (Nat.succ_le_of_lt hi)
    rw [Nat.succ_mul] at this
    exact this
  omega

end Go.Proofs.Ytocmkmeikcejjaa
