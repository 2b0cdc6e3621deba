/- Free slots as a pile in an arena's memory: what each step that is done to it leaves. -/
import Derived.Test.YtocmkmeikcejjaaLayAwake
import Derived.Test.YtocmkmeikcejjaaLayEnv
import Derived.Test.YtocmkmeikcejjaaUnword
namespace Go.Proofs.Ytocmkmeikcejjaa
open Go.RowKit

/-- a first free slot's word: one more than the slot (0: none), and the count -/
def topw (h c : Nat) : Int := (h : Int) + (c : Int) * 131072

theorem topw_inj {h c h' c' : Nat} (a : h < 131072) (a' : h' < 131072) (e : topw h c = topw h' c') : h = h' ∧ c = c' := by
  unfold topw at e; omega

theorem topw_is (h c : Nat) (a : h ≤ 65536) (b : c ≤ 68719476735) : packT (h : Int) c = topw h c := by
  unfold packT topw
  rw [cut_id _ 17 (by omega) (by simp; omega), cut_id _ 36 (by omega) (by simp; omega)]

/-- a first free slot's word is told apart -/
theorem top_w (h c : Nat) (w : World) (a : h ≤ 65536) (b : c ≤ 68719476735) :
    Calls Try.prog 63 #[.int .u64 (topw h c)] w fun e w' => e = .returned (.tuple #[.int .i64 ((h : Int) - 1), .int .i64 c]) ∧ w' = w := by
  have k := top_any (topw h c) w (by unfold topw; omega) (by unfold topw; omega)
  have e1 : topw h c % 131072 - 1 = (h : Int) - 1 := by unfold topw; omega
  have e2 : topw h c / 131072 % 68719476736 = (c : Int) := by unfold topw; omega
  rwa [e1, e2] at k

theorem putTop_w (h c : Nat) (w : World) (a : h ≤ 65536) (b : c ≤ 68719476735) :
    Calls Try.prog 28 #[.int .i64 ((h : Int) - 1), .int .i64 c] w fun e w' => e = .returned (.int .u64 (topw h c)) ∧ w' = w := by
  have k := putTop_any ((h : Int) - 1) c w (by omega) (by omega) ⟨by omega, by omega⟩
  have e1 : (h : Int) - 1 + 1 = h := by omega
  rwa [e1, topw_is h c a b] at k

/-- one more than the first one; 0: none -/
def hd : List Nat → Nat
  | [] => 0
  | x :: _ => x + 1

/-- each free slot is linked to the next one -/
def Chain (lk : Nat → Nat) : List Nat → Prop
  | [] => True
  | x :: F => lk x = hd F ∧ Chain lk F

theorem Chain.set {lk : Nat → Nat} {F : List Nat} (h : Chain lk F) (x v : Nat) (hx : x ∉ F) : Chain (upd lk x v) F := by
  induction F with
  | nil => trivial
  | cons y F ih =>
    simp only [List.mem_cons, not_or] at hx
    exact ⟨by rw [upd_other _ _ _ _ (fun e => hx.1 e.symm)]; exact h.1, ih h.2 hx.2⟩

/-- the free slots of an arena of t threads and n slots: its memory, how many steps were done, the count, the links, the slots -/
structure Pile (t n : Nat) (s : Mm) (σ c : Nat) (lk : Nat → Nat) (F : List Nat) : Prop where
  len : 6 + t + n * 2 ≤ s.n
  big : n ≤ 65535
  st : s.steps = σ
  cs : c ≤ σ
  top : s.wd 1 = topw (hd F) c
  lkv : ∀ i, i < n → s.wd (6 + t + i * 2 + 1) = topw (lk i) 0
  lkle : ∀ i, i < n → lk i ≤ n
  chain : Chain lk F
  nd : F.Nodup
  lt : ∀ x, x ∈ F → x < n

namespace Pile
variable {t n : Nat} {s : Mm} {σ c : Nat} {lk : Nat → Nat} {F : List Nat}

theorem hdle (h : Pile t n s σ c lk F) : hd F ≤ n := by
  cases F with
  | nil => exact Nat.zero_le _
  | cons x F => have := h.lt x (by simp); simp only [hd]; omega

theorem wrapS (_ : Pile t n s σ c lk F) (hσ : σ < 1000000) : wrap64 ((σ : Int) + 1) = ((σ + 1 : Nat) : Int) := by
  unfold wrap64; omega

/-- a word is loaded -/
theorem same (h : Pile t n s σ c lk F) (hσ : σ < 1000000) (who : Int) (a : Nat) : Pile t n ((s.by who).step a (s.wd a)) (σ + 1) c lk F := by
  have e : ((s.by who).step a (s.wd a)).wd = s.wd := upd_id _ _
  refine ⟨h.len, h.big, ?_, by have := h.cs; omega, by rw [e]; exact h.top, fun i hi => by rw [e]; exact h.lkv i hi, h.lkle, h.chain, h.nd, h.lt⟩
  show wrap64 (s.steps + 1) = _
  rw [h.st, h.wrapS hσ]

/-- the first one is taken -/
theorem pop {x : Nat} (h : Pile t n s σ c lk (x :: F)) (hσ : σ < 1000000) (who : Int) : Pile t n ((s.by who).step 1 (topw (lk x) (c + 1))) (σ + 1) (c + 1) lk F := by
  refine ⟨h.len, h.big, ?_, by have := h.cs; omega, ?_, fun i hi => ?_, h.lkle, h.chain.2, (List.nodup_cons.1 h.nd).2, fun y hy => h.lt y (List.mem_cons_of_mem _ hy)⟩
  · show wrap64 (s.steps + 1) = _
    rw [h.st, h.wrapS hσ]
  · rw [h.chain.1]
    show upd s.wd 1 (topw (hd F) (c + 1)) 1 = topw (hd F) (c + 1)
    exact upd_same _ _ _
  · show upd s.wd 1 _ _ = _
    rw [upd_other _ _ _ _ (by omega)]; exact h.lkv i hi

/-- a link is laid -/
theorem lay (h : Pile t n s σ c lk F) (hσ : σ < 1000000) (who : Int) {x : Nat} (hx : x < n) (hF : x ∉ F) (q : Nat) (hq : q ≤ n) : Pile t n ((s.by who).step (6 + t + x * 2 + 1) (topw q 0)) (σ + 1) c (upd lk x q) F := by
  refine ⟨h.len, h.big, ?_, by have := h.cs; omega, ?_, fun i hi => ?_, fun i hi => ?_, h.chain.set x q hF, h.nd, h.lt⟩
  · show wrap64 (s.steps + 1) = _
    rw [h.st, h.wrapS hσ]
  · show upd s.wd _ _ 1 = _
    rw [upd_other _ _ _ _ (by omega)]; exact h.top
  · show upd s.wd _ _ _ = _
    by_cases hi' : i = x
    · subst hi'; rw [upd_same, upd_same]
    · rw [upd_other _ _ _ _ (by omega), upd_other _ _ _ _ hi']; exact h.lkv i hi
  · by_cases hi' : i = x
    · subst hi'; rw [upd_same]; exact hq
    · rw [upd_other _ _ _ _ hi']; exact h.lkle i hi

/-- a slot is given -/
theorem push (h : Pile t n s σ c lk F) (hσ : σ < 1000000) (who : Int) {x : Nat} (hx : x < n) (hF : x ∉ F) (hl : lk x = hd F) : Pile t n ((s.by who).step 1 (topw (x + 1) (c + 1))) (σ + 1) (c + 1) lk (x :: F) := by
  refine ⟨h.len, h.big, ?_, by have := h.cs; omega, ?_, fun i hi => ?_, h.lkle, ⟨hl, h.chain⟩, List.nodup_cons.2 ⟨hF, h.nd⟩, fun y hy => ?_⟩
  · show wrap64 (s.steps + 1) = _
    rw [h.st, h.wrapS hσ]
  · show upd s.wd 1 _ 1 = _
    rw [upd_same]; rfl
  · show upd s.wd 1 _ _ = _
    rw [upd_other _ _ _ _ (by omega)]; exact h.lkv i hi
  · rcases List.mem_cons.1 hy with rfl | hy
    · exact hx
    · exact h.lt y hy
end Pile

/-- so many slots, from the j-th on -/
def upFrom (s : Nat) : Nat → List Nat
  | 0 => []
  | k + 1 => (s - (k + 1)) :: upFrom s k

theorem upFrom_mem (s : Nat) : ∀ k, k ≤ s → ∀ x, x ∈ upFrom s k → s - k ≤ x ∧ x < s
  | 0, _, x, h => by simp [upFrom] at h
  | k + 1, hk, x, h => by
    rcases List.mem_cons.1 h with rfl | h
    · omega
    · have := upFrom_mem s k (by omega) x h; omega

theorem upFrom_nodup (s : Nat) : ∀ k, k ≤ s → (upFrom s k).Nodup
  | 0, _ => List.nodup_nil
  | k + 1, hk => List.nodup_cons.2 ⟨fun h => by have := upFrom_mem s k (by omega) _ h; omega, upFrom_nodup s k (by omega)⟩

theorem upFrom_len (s : Nat) : ∀ k, (upFrom s k).length = k
  | 0 => rfl
  | k + 1 => by simp [upFrom, upFrom_len s k]

/-- the links of a fresh arena of s slots -/
def link0 (s j : Nat) : Nat := if j + 1 < s then j + 2 else 0

theorem upFrom_chain (s : Nat) : ∀ k, k ≤ s → Chain (link0 s) (upFrom s k)
  | 0, _ => trivial
  | 1, hk => ⟨if_neg (show ¬ (s - (0 + 1) + 1 < s) by omega), trivial⟩
  | k + 2, hk => ⟨(if_pos (show s - (k + 1 + 1) + 1 < s by omega)).trans (show s - (k + 1 + 1) + 2 = s - (k + 1) + 1 by omega), upFrom_chain s (k + 1) (by omega)⟩

theorem laid_steps (t s len j : Nat) (hj : j ≤ 65536) : (Mm.laid t s len j).steps = ((1 + 2 * j : Nat) : Int) := by
  induction j with
  | zero => show wrap64 (0 + 1) = _; unfold wrap64; omega
  | succ j ih =>
    show wrap64 (wrap64 ((Mm.laid t s len j).steps + 1) + 1) = _
    rw [ih (by omega)]
    unfold wrap64; omega

/-- all slots of a fresh arena are free -/
theorem pile0 (t n len : Nat) (h1 : 1 ≤ n) (h2 : n ≤ 65535) (hl : 6 + t + n * 2 ≤ len) : Pile t n (Mm.laid t n len n) (1 + 2 * n) 0 (link0 n) (upFrom n n) := by
  refine ⟨by rw [Mm.laid_n]; exact hl, h2, laid_steps t n len n (by omega), Nat.zero_le _, ?_, fun i hi => ?_, fun i hi => ?_, upFrom_chain n n (Nat.le_refl _), upFrom_nodup n n (Nat.le_refl _), fun x hx => (upFrom_mem n n (Nat.le_refl _) x hx).2⟩
  · rw [laid_top]
    cases n with
    | zero => omega
    | succ k => simp only [upFrom, hd, topw]; omega
  · rw [laid_link t n len n i hi]
    unfold linkOf link0 topw
    split <;> omega
  · unfold link0; split <;> omega

end Go.Proofs.Ytocmkmeikcejjaa
