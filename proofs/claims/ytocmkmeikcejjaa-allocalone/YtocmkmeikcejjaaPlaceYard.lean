/- The chunks of an arena and which are open, in the arena's memory; one who wants words of a class: what each step comes to, told without a program. -/
import Derived.Test.YtocmkmeikcejjaaLayAwake
import Derived.Test.YtocmkmeikcejjaaStruct
namespace Go.Proofs.Ytocmkmeikcejjaa
open Go.RowKit

/-- a chunk: its state, its class, how many of its words are used, its stamp -/
structure Ck where
  st : Nat
  cl : Nat
  us : Nat
  sp : Nat
  deriving DecidableEq

/-- its word -/
def Ck.w (c : Ck) : Int := (c.st : Int) + (c.cl : Int) * 4 + (c.us : Int) * 256 + (c.sp : Int) * 268435456

/-- it fits into a word -/
structure Ck.ok (c : Ck) (σ : Nat) : Prop where
  st : c.st ≤ 3
  cl : c.cl ≤ 3
  us : c.us ≤ 1000
  sp : c.sp ≤ σ

theorem Ck.ok.up {c : Ck} {σ σ' : Nat} (h : c.ok σ) (hs : σ ≤ σ') : c.ok σ' := ⟨h.st, h.cl, h.us, Nat.le_trans h.sp hs⟩

theorem Ck.inj {c d : Ck} {σ σ' : Nat} (h : c.ok σ) (h' : d.ok σ') (e : c.w = d.w) : c = d := by
  obtain ⟨a1, a2, a3, a4⟩ := c
  obtain ⟨b1, b2, b3, b4⟩ := d
  obtain ⟨h1, h2, h3, h4⟩ := h
  obtain ⟨g1, g2, g3, g4⟩ := h'
  simp only [Ck.w] at e h1 h2 h3 h4 g1 g2 g3 g4
  have : a1 = b1 ∧ a2 = b2 ∧ a3 = b3 ∧ a4 = b4 := by omega
  obtain ⟨rfl, rfl, rfl, rfl⟩ := this
  rfl

theorem Ck.dec {c d : Ck} {σ σ' : Nat} (h : c.ok σ) (h' : d.ok σ') : decide (c.w = d.w) = decide (c = d) := by
  by_cases e : c = d
  · subst e; simp
  · rw [decide_eq_false e, decide_eq_false (fun k => e (Ck.inj h h' k))]

theorem chunk_w (c : Ck) (σ : Nat) (h : c.ok σ) (hσ : σ ≤ 2000000) (w : World) :
    Calls Try.prog 20 #[.int .u64 c.w] w fun e w' => e = .returned (.agg #[.int .i64 c.st, .int .i64 c.cl, .int .i64 c.us, .int .i64 c.sp]) ∧ Below w.heap.size w w' := by
  obtain ⟨h1, h2, h3, h4⟩ := h
  have k := chunk_any c.w w (by unfold Ck.w; omega) (by unfold Ck.w; omega)
  have e1 : c.w % 4 = (c.st : Int) := by unfold Ck.w; omega
  have e2 : c.w / 4 % 64 = (c.cl : Int) := by unfold Ck.w; omega
  have e3 : c.w / 256 % 1048576 = (c.us : Int) := by unfold Ck.w; omega
  have e4 : c.w / 268435456 % 68719476736 = (c.sp : Int) := by unfold Ck.w; omega
  rwa [e1, e2, e3, e4] at k

theorem putChunk_w (c : Ck) (σ : Nat) (h : c.ok σ) (hσ : σ ≤ 2000000) (x1 x2 x3 x4 : Int) (e1 : x1 = c.st) (e2 : x2 = c.cl) (e3 : x3 = c.us) (e4 : x4 = c.sp) (w : World) :
    Calls Try.prog 83 #[.agg #[.int .i64 x1, .int .i64 x2, .int .i64 x3, .int .i64 x4]] w fun e w' => e = .returned (.int .u64 c.w) ∧ Below w.heap.size w w' := by
  obtain ⟨h1, h2, h3, h4⟩ := h
  subst e1 e2 e3 e4
  have k := putChunk_any (c.st : Int) c.cl c.us c.sp w ⟨by omega, by omega⟩ ⟨by omega, by omega⟩ ⟨by omega, by omega⟩ ⟨by omega, by omega⟩
  have e : packC (c.st : Int) c.cl c.us c.sp = c.w := by
    unfold packC Ck.w
    rw [cut_id _ 2 (by omega) (by simp; omega), cut_id _ 6 (by omega) (by simp; omega), cut_id _ 20 (by omega) (by simp; omega), cut_id _ 36 (by omega) (by simp; omega)]
  rwa [e] at k

/-- how many words an object of a class takes -/
def room : Nat → Nat
  | 0 => 3
  | 1 => 5
  | 2 => 9
  | _ => 17

theorem room_bd (κ : Nat) : 3 ≤ room κ ∧ room κ ≤ 17 := by
  match κ with
  | 0 => simp [room]
  | 1 => simp [room]
  | 2 => simp [room]
  | _ + 3 => simp [room]

theorem lroom_w (κ : Nat) (h : κ < 4) (w : World) : Calls Try.prog 54 #[.int .i64 κ] w fun e w' => e = .returned (.int .i64 (room κ)) ∧ w' = w := by
  have k := lroom_any (κ : Int) w (by omega) (by omega)
  have e : 2 * 2 ^ ((κ : Int)).toNat + 1 = ((room κ : Nat) : Int) := by
    match κ, h with
    | 0, _ => rfl
    | 1, _ => rfl
    | 2, _ => rfl
    | 3, _ => rfl
  rwa [e] at k

/-- all chunks, and which one is open for a class (one more than it; 0: none) -/
structure Y where
  ck : Nat → Ck
  op : Nat → Nat

/-- the chunks of an arena lie in its memory -/
structure Yard (t n k m : Nat) (s : Mm) (σ : Nat) (y : Y) : Prop where
  len : s.n = 6 + t + n * 2 + k * 3 + k * m
  st : s.steps = σ
  ckv : ∀ i, i < k → s.wd (6 + t + n * 2 + i * 3) = (y.ck i).w
  opv : ∀ c, c < 4 → s.wd (2 + c) = (y.op c : Int)
  ok : ∀ i, i < k → (y.ck i).ok σ
  opk : ∀ c, c < 4 → y.op c ≤ k

/-- what is no open chunk's place and no chunk's word stays -/
def Kept (t n k : Nat) (s s' : Mm) : Prop := s'.n = s.n ∧ ∀ a, ¬ (2 ≤ a ∧ a < 6) → (∀ i, i < k → a ≠ 6 + t + n * 2 + i * 3) → s'.wd a = s.wd a

theorem Kept.refl (t n k : Nat) (s : Mm) : Kept t n k s s := ⟨rfl, fun _ _ _ => rfl⟩
theorem Kept.trans {t n k : Nat} {s s' s'' : Mm} (h : Kept t n k s s') (g : Kept t n k s' s'') : Kept t n k s s'' :=
  ⟨g.1.trans h.1, fun a ha hb => (g.2 a ha hb).trans (h.2 a ha hb)⟩

namespace Yard
variable {t n k m : Nat} {s : Mm} {σ : Nat} {y : Y}

theorem wrapS (_ : Yard t n k m s σ y) (hσ : σ < 1000000) : wrap64 ((σ : Int) + 1) = ((σ + 1 : Nat) : Int) := by
  unfold wrap64; omega

/-- a word is loaded, or exchanged in vain -/
theorem same (h : Yard t n k m s σ y) (hσ : σ < 1000000) (who : Int) (a : Nat) : Yard t n k m ((s.by who).step a (s.wd a)) (σ + 1) y := by
  have e : ((s.by who).step a (s.wd a)).wd = s.wd := upd_id _ _
  refine ⟨h.len, ?_, fun i hi => by rw [e]; exact h.ckv i hi, fun c hc => by rw [e]; exact h.opv c hc, fun i hi => (h.ok i hi).up (by omega), h.opk⟩
  show wrap64 (s.steps + 1) = _
  rw [h.st, h.wrapS hσ]

/-- a chunk's word is laid -/
theorem lay (h : Yard t n k m s σ y) (hσ : σ < 1000000) (who : Int) {i : Nat} (hi : i < k) (c : Ck) (hc : c.ok (σ + 1)) : Yard t n k m ((s.by who).step (6 + t + n * 2 + i * 3) c.w) (σ + 1) ⟨upd y.ck i c, y.op⟩ := by
  refine ⟨h.len, ?_, fun j hj => ?_, fun κ hκ => ?_, fun j hj => ?_, h.opk⟩
  · show wrap64 (s.steps + 1) = _
    rw [h.st, h.wrapS hσ]
  · show upd s.wd _ _ _ = (upd y.ck i c j).w
    by_cases e : j = i
    · subst e; rw [upd_same, upd_same]
    · rw [upd_other _ _ _ _ (by omega), upd_other _ _ _ _ e]; exact h.ckv j hj
  · show upd s.wd _ _ _ = _
    rw [upd_other _ _ _ _ (by omega)]; exact h.opv κ hκ
  · show (upd y.ck i c j).ok (σ + 1)
    by_cases e : j = i
    · subst e; rw [upd_same]; exact hc
    · rw [upd_other _ _ _ _ e]; exact (h.ok j hj).up (by omega)

/-- an open chunk's place is laid -/
theorem opens (h : Yard t n k m s σ y) (hσ : σ < 1000000) (who : Int) {κ : Nat} (hκ : κ < 4) (x : Nat) (hx : x ≤ k) : Yard t n k m ((s.by who).step (2 + κ) (x : Int)) (σ + 1) ⟨y.ck, upd y.op κ x⟩ := by
  refine ⟨h.len, ?_, fun j hj => ?_, fun c hc => ?_, fun j hj => (h.ok j hj).up (by omega), fun c hc => ?_⟩
  · show wrap64 (s.steps + 1) = _
    rw [h.st, h.wrapS hσ]
  · show upd s.wd _ _ _ = _
    rw [upd_other _ _ _ _ (by omega)]; exact h.ckv j hj
  · show upd s.wd _ _ _ = ((upd y.op κ x c : Nat) : Int)
    by_cases e : c = κ
    · subst e; rw [upd_same, upd_same]
    · rw [upd_other _ _ _ _ (by omega), upd_other _ _ _ _ e]; exact h.opv c hc
  · show upd y.op κ x c ≤ k
    by_cases e : c = κ
    · subst e; rw [upd_same]; exact hx
    · rw [upd_other _ _ _ _ e]; exact h.opk c hc
end Yard

theorem kept_same (t n k : Nat) (s : Mm) (who : Int) (a : Nat) : Kept t n k s ((s.by who).step a (s.wd a)) :=
  ⟨rfl, fun x _ _ => congrFun (upd_id s.wd a) x⟩
theorem kept_lay (t n k : Nat) (s : Mm) (who : Int) {i : Nat} (hi : i < k) (v : Int) : Kept t n k s ((s.by who).step (6 + t + n * 2 + i * 3) v) :=
  ⟨rfl, fun x _ h => upd_other s.wd _ x v (h i hi)⟩
theorem kept_opens (t n k : Nat) (s : Mm) (who : Int) {κ : Nat} (hκ : κ < 4) (v : Int) : Kept t n k s ((s.by who).step (2 + κ) v) :=
  ⟨rfl, fun x h _ => upd_other s.wd _ x v (by omega)⟩

/-- all chunks are free, none is open -/
def Y.new : Y := ⟨fun _ => ⟨0, 0, 0, 0⟩, fun _ => 0⟩

theorem laidSteps (t s len j : Nat) (hj : j ≤ 65536) : (Mm.laid t s len j).steps = ((1 + 2 * j : Nat) : Int) := by
  induction j with
  | zero => show wrap64 (0 + 1) = _; unfold wrap64; omega
  | succ j ih =>
    show wrap64 (wrap64 ((Mm.laid t s len j).steps + 1) + 1) = _
    rw [ih (by omega)]
    unfold wrap64; omega

theorem yard0 (t n k m : Nat) (hn : n ≤ 65536) : Yard t n k m (Mm.laid t n (arenaLen t n k m) n) (1 + 2 * n) Y.new := by
  refine ⟨by rw [Mm.laid_n]; rfl, laidSteps _ _ _ _ hn, fun i hi => ?_, fun c hc => ?_, fun i _ => ?_, fun c _ => Nat.zero_le _⟩
  · rw [laid_else _ _ _ _ _ (by omega) (Or.inr (by omega))]; simp [Y.new, Ck.w]
  · rw [laid_else _ _ _ _ _ (by omega) (Or.inl (by omega))]; simp [Y.new]
  · exact ⟨Nat.zero_le _, Nat.zero_le _, Nat.zero_le _, Nat.zero_le _⟩

/-- one who wants words: what is done next, and what was seen -/
inductive Pl where
  | see
  | ask (i : Nat)
  | grow (i : Nat) (c : Ck)
  | look (sn i : Nat)
  | take (sn i : Nat) (c : Ck)
  | opn (sn i : Nat) (c : Ck)
  | fre (sn i : Nat) (c : Ck)
  | won (a i : Nat)
  | none

/-- it is done -/
def Pl.over : Pl → Bool
  | .won _ _ => true
  | .none => true
  | _ => false

/-- chunk i is looked at next, if there is one -/
def adv (k sn i : Nat) : Pl := if i < k then .look sn i else .none

/-- what a step comes to, in an arena of k chunks of m words, whose words begin at bs -/
def turn (k m κ : Nat) (bs : Nat → Nat) (y : Y) : Pl → Y × Pl
  | .see => (y, match y.op κ with | 0 => adv k 0 0 | i + 1 => .ask i)
  | .ask i => (y, if (y.ck i).st = 1 ∧ (y.ck i).cl = κ ∧ (y.ck i).us + room κ ≤ m then .grow i (y.ck i) else adv k (i + 1) 0)
  | .grow i c => if y.ck i = c then (⟨upd y.ck i ⟨c.st, c.cl, c.us + room κ, c.sp⟩, y.op⟩, .won (bs i + c.us) i) else (y, .see)
  | .look sn i => (y, if (y.ck i).st = 0 then .take sn i (y.ck i) else adv k sn (i + 1))
  | .take sn i c => if y.ck i = c then (⟨upd y.ck i ⟨1, κ, 0, c.sp + 1⟩, y.op⟩, .opn sn i ⟨1, κ, 0, c.sp + 1⟩) else (y, adv k sn (i + 1))
  | .opn sn i c => if y.op κ = sn then (⟨y.ck, upd y.op κ (i + 1)⟩, .see) else (y, .fre sn i c)
  | .fre _ i c => if y.ck i = c then (⟨upd y.ck i ⟨0, 0, 0, c.sp + 1⟩, y.op⟩, .see) else (y, .see)
  | τ => (y, τ)

/-- what one who wants words knows -/
def Pl.good (k m κ σ : Nat) : Pl → Prop
  | .see => True
  | .ask i => i < k
  | .grow i c => i < k ∧ c.ok σ ∧ c.st = 1 ∧ c.cl = κ ∧ c.us + room κ ≤ m
  | .look sn i => i < k ∧ sn ≤ k
  | .take sn i c => i < k ∧ sn ≤ k ∧ c.ok σ ∧ c.st = 0
  | .opn sn i c => i < k ∧ sn ≤ k ∧ c.ok σ ∧ c.st = 1 ∧ c.cl = κ ∧ c.us = 0
  | .fre sn i c => i < k ∧ sn ≤ k ∧ c.ok σ ∧ c.st = 1 ∧ c.cl = κ ∧ c.us = 0
  | .won _ _ => True
  | .none => True

theorem adv_good {k m κ σ sn i : Nat} (hs : sn ≤ k) : (adv k sn i).good k m κ σ := by
  unfold adv
  split
  · exact ⟨by assumption, hs⟩
  · trivial

/-- where the next step is done -/
def Pl.at (t n κ : Nat) : Pl → Nat
  | .ask i => 6 + t + n * 2 + i * 3
  | .grow i _ => 6 + t + n * 2 + i * 3
  | .look _ i => 6 + t + n * 2 + i * 3
  | .take _ i _ => 6 + t + n * 2 + i * 3
  | .fre _ i _ => 6 + t + n * 2 + i * 3
  | _ => 2 + κ

theorem Pl.good.up {k m κ σ σ' : Nat} (hs : σ ≤ σ') {τ : Pl} (h : τ.good k m κ σ) : τ.good k m κ σ' := by
  cases τ with
  | see => trivial
  | ask i => exact h
  | grow i c => exact ⟨h.1, h.2.1.up hs, h.2.2⟩
  | look sn i => exact h
  | take sn i c => exact ⟨h.1, h.2.1, h.2.2.1.up hs, h.2.2.2⟩
  | opn sn i c => exact ⟨h.1, h.2.1, h.2.2.1.up hs, h.2.2.2⟩
  | fre sn i c => exact ⟨h.1, h.2.1, h.2.2.1.up hs, h.2.2.2⟩
  | won a i => trivial
  | none => trivial

/-- what one who wants words knows behind a step -/
theorem turn_good {k m κ σ : Nat} {bs : Nat → Nat} {y : Y} {τ : Pl} (hκ : κ < 4) (hok : ∀ i, i < k → (y.ck i).ok σ) (hop : ∀ c, c < 4 → y.op c ≤ k) (h : τ.good k m κ σ) : (turn k m κ bs y τ).2.good k m κ (σ + 1) := by
  cases τ with
  | see =>
    have h1 := hop κ hκ
    simp only [turn]
    split
    · exact adv_good (Nat.zero_le _)
    · rename_i i e
      show i < k
      omega
  | ask i =>
    have hi : i < k := h
    simp only [turn]
    split
    · rename_i e
      exact ⟨hi, (hok i hi).up (by omega), e⟩
    · exact adv_good hi
  | grow i c =>
    simp only [turn]
    split <;> trivial
  | look sn i =>
    simp only [turn]
    split
    · rename_i e
      exact ⟨h.1, h.2, (hok i h.1).up (by omega), e⟩
    · exact adv_good h.2
  | take sn i c =>
    have hs := h.2.2.1.sp
    simp only [turn]
    split
    · exact ⟨h.1, h.2.1, ⟨by simp, by simp only; omega, by simp, by simp only; omega⟩, rfl, rfl, rfl⟩
    · exact adv_good h.2.1
  | opn sn i c =>
    simp only [turn]
    split
    · trivial
    · exact Pl.good.up (by omega) h
  | fre sn i c =>
    simp only [turn]
    split <;> trivial
  | won a i => trivial
  | none => trivial

end Go.Proofs.Ytocmkmeikcejjaa
