/- Words are got by one alone: which steps that takes, and what it comes to (no program in it). -/
import Derived.Test.YtocmkmeikcejjaaPlaceField
namespace Go.Proofs.Ytocmkmeikcejjaa
open Go.RowKit

theorem upd_upd {α : Type} (f : Nat → α) (a : Nat) (u v : α) : upd (upd f a u) a v = upd f a v := by
  funext x
  by_cases h : x = a
  · subst h; rw [upd_same, upd_same]
  · rw [upd_other _ _ _ _ h, upd_other _ _ _ _ h, upd_other _ _ _ _ h]

/-- words were got by one behind the other alone: the chunks below nx are open ones, the others free -/
structure Alone (k : Nat) (y : Y) (nx : Nat) : Prop where
  le : nx ≤ k
  opd : ∀ i, i < nx → (y.ck i).st = 1
  fre : ∀ i, nx ≤ i → i < k → (y.ck i).st = 0 ∧ (y.ck i).us = 0
  opn : ∀ κ, κ < 4 → ∀ i, y.op κ = i + 1 → i < nx ∧ (y.ck i).cl = κ

theorem alone0 (k : Nat) : Alone k Y.new 0 := ⟨Nat.zero_le _, fun i h => absurd h (by omega), fun _ _ _ => ⟨rfl, rfl⟩, fun _ _ i h => absurd h (by simp [Y.new])⟩

/-- what it comes to, to get words of a class alone -/
inductive Got (k m κ : Nat) (bs : Nat → Nat) (y : Y) (nx : Nat) : Y → Nat → Pl → Prop where
  | fit (i : Nat) (h : y.op κ = i + 1) (hu : (y.ck i).us + room κ ≤ m) : Got k m κ bs y nx ⟨upd y.ck i ⟨1, κ, (y.ck i).us + room κ, (y.ck i).sp⟩, y.op⟩ nx (.won (bs i + (y.ck i).us) i)
  | new (hno : ∀ i, y.op κ = i + 1 → ¬ (y.ck i).us + room κ ≤ m) (h : nx < k) : Got k m κ bs y nx ⟨upd y.ck nx ⟨1, κ, room κ, (y.ck nx).sp + 1⟩, upd y.op κ (nx + 1)⟩ (nx + 1) (.won (bs nx) nx)
  | none (hno : ∀ i, y.op κ = i + 1 → ¬ (y.ck i).us + room κ ≤ m) (h : nx = k) : Got k m κ bs y nx y nx .none

section
variable {k m κ nx : Nat} {bs : Nat → Nat} {y : Y}

theorem goes_fit (A : Alone k y nx) (hκ : κ < 4) {i : Nat} (h : y.op κ = i + 1) (hu : (y.ck i).us + room κ ≤ m) : Goes k m κ bs 3 y .see ⟨upd y.ck i ⟨1, κ, (y.ck i).us + room κ, (y.ck i).sp⟩, y.op⟩ (.won (bs i + (y.ck i).us) i) := by
  obtain ⟨hi, hc⟩ := A.opn κ hκ i h
  have h1 := A.opd i hi
  refine .more (y1 := y) (τ1 := .ask i) rfl (by simp [turn, h]) rfl (.more (y1 := y) (τ1 := .grow i (y.ck i)) rfl (by simp [turn, h1, hc, hu]) rfl (.one rfl ?_ rfl))
  simp only [turn, if_pos, h1, hc]

theorem goes_take (hm : room κ ≤ m) {sn : Nat} (ho : y.op κ = sn) (h0 : (y.ck nx).st = 0) : Goes k m κ bs 6 y (.look sn nx) ⟨upd y.ck nx ⟨1, κ, room κ, (y.ck nx).sp + 1⟩, upd y.op κ (nx + 1)⟩ (.won (bs nx) nx) := by
  refine .more (y1 := y) (τ1 := .take sn nx (y.ck nx)) rfl (by simp [turn, h0]) rfl ?_
  refine .more (y1 := ⟨upd y.ck nx ⟨1, κ, 0, (y.ck nx).sp + 1⟩, y.op⟩) (τ1 := .opn sn nx ⟨1, κ, 0, (y.ck nx).sp + 1⟩) rfl (by simp [turn]) rfl ?_
  refine .more (y1 := ⟨upd y.ck nx ⟨1, κ, 0, (y.ck nx).sp + 1⟩, upd y.op κ (nx + 1)⟩) (τ1 := .see) rfl (by simp [turn, ho]) rfl ?_
  refine .more (y1 := ⟨upd y.ck nx ⟨1, κ, 0, (y.ck nx).sp + 1⟩, upd y.op κ (nx + 1)⟩) (τ1 := .ask nx) rfl (by simp [turn, upd_same]) rfl ?_
  refine .more (y1 := ⟨upd y.ck nx ⟨1, κ, 0, (y.ck nx).sp + 1⟩, upd y.op κ (nx + 1)⟩) (τ1 := .grow nx ⟨1, κ, 0, (y.ck nx).sp + 1⟩) rfl (by simp [turn, upd_same, hm]) rfl ?_
  refine .one rfl ?_ rfl
  simp [turn, upd_same, upd_upd]

theorem goes_look (A : Alone k y nx) (hm : room κ ≤ m) (hk : nx < k) {sn : Nat} (ho : y.op κ = sn) : ∀ d j, j + d = nx → Goes k m κ bs (d + 6) y (.look sn j) ⟨upd y.ck nx ⟨1, κ, room κ, (y.ck nx).sp + 1⟩, upd y.op κ (nx + 1)⟩ (.won (bs nx) nx)
  | 0, j, hj => by
    obtain rfl : j = nx := by omega
    have := goes_take (k := k) (bs := bs) (m := m) hm ho (A.fre j (Nat.le_refl _) hk).1
    simpa using this
  | d + 1, j, hj => by
    have h1 := A.opd j (by omega)
    have := goes_look A hm hk ho d (j + 1) (by omega)
    refine Goes.more (y1 := y) (τ1 := .look sn (j + 1)) rfl ?_ rfl this
    simp only [turn, h1, adv]
    rw [if_neg (by omega), if_pos (by omega)]

theorem goes_out (A : Alone k y nx) (hk : nx = k) {sn : Nat} : ∀ d j, j + d + 1 = k → Goes k m κ bs (d + 1) y (.look sn j) y .none
  | 0, j, hj => by
    have h1 := A.opd j (by omega)
    refine .one rfl ?_ rfl
    simp only [turn, h1, adv]
    rw [if_neg (by omega), if_neg (by omega)]
  | d + 1, j, hj => by
    have h1 := A.opd j (by omega)
    refine Goes.more (y1 := y) (τ1 := .look sn (j + 1)) rfl ?_ rfl (goes_out A hk d (j + 1) (by omega))
    simp only [turn, h1, adv]
    rw [if_neg (by omega), if_pos (by omega)]

/-- the steps from the first look at a chunk on, ahead of which the open one, if there is one, was seen to be full -/
theorem goes_full (hk0 : 1 ≤ k) (hno : ∀ i, y.op κ = i + 1 → ¬ (y.ck i).us + room κ ≤ m) {N : Nat} {y' : Y} {τ' : Pl} (g : ∀ sn, y.op κ = sn → Goes k m κ bs N y (.look sn 0) y' τ') : ∃ N', N' ≤ N + 2 ∧ Goes k m κ bs N' y .see y' τ' := by
  cases h : y.op κ with
  | zero =>
    refine ⟨N + 1, by omega, .more (y1 := y) (τ1 := .look 0 0) rfl ?_ rfl (g 0 h)⟩
    simp only [turn, h, adv]
    rw [if_pos (by omega)]
  | succ i =>
    have h2 := hno i h
    refine ⟨N + 1 + 1, by omega, .more (y1 := y) (τ1 := .ask i) rfl (by simp [turn, h]) rfl (.more (y1 := y) (τ1 := .look (i + 1) 0) rfl ?_ rfl (g (i + 1) h))⟩
    simp only [turn, adv]
    rw [if_neg (fun e => h2 e.2.2), if_pos (by omega)]

theorem Got.alone {y' : Y} {nx' : Nat} {τ' : Pl} (A : Alone k y nx) (hκ : κ < 4) (g : Got k m κ bs y nx y' nx' τ') : Alone k y' nx' := by
  cases g with
  | fit i h hu =>
    obtain ⟨hi, hc⟩ := A.opn κ hκ i h
    refine ⟨A.le, fun j hj => ?_, fun j h1 h2 => ?_, fun c hcc j hj => ?_⟩
    · by_cases e : j = i
      · subst e; simp [upd_same]
      · simp only [upd_other _ _ _ _ e]; exact A.opd j hj
    · have e : j ≠ i := by omega
      simp only [upd_other _ _ _ _ e]; exact A.fre j h1 h2
    · obtain ⟨a1, a2⟩ := A.opn c hcc j hj
      refine ⟨a1, ?_⟩
      by_cases e : j = i
      · subst e; simp only [upd_same]; exact hc.symm.trans a2
      · simp only [upd_other _ _ _ _ e]; exact a2
  | new hno h =>
    refine ⟨h, fun j hj => ?_, fun j h1 h2 => ?_, fun c hcc j hj => ?_⟩
    · by_cases e : j = nx
      · subst e; simp [upd_same]
      · simp only [upd_other _ _ _ _ e]; exact A.opd j (by omega)
    · have e : j ≠ nx := by omega
      simp only [upd_other _ _ _ _ e]; exact A.fre j (by omega) h2
    · by_cases ec : c = κ
      · subst ec
        simp only [upd_same] at hj
        obtain rfl : nx = j := by omega
        exact ⟨by omega, by simp [upd_same]⟩
      · simp only [upd_other _ _ _ _ ec] at hj
        obtain ⟨a1, a2⟩ := A.opn c hcc j hj
        have e : j ≠ nx := by omega
        exact ⟨by omega, by simp only [upd_other _ _ _ _ e]; exact a2⟩
  | none hno h => exact A

/-- to get words alone: it ends, and comes to that -/
theorem alone_goes (A : Alone k y nx) (hκ : κ < 4) (hm : 17 ≤ m) (hk0 : 1 ≤ k) (hk : k ≤ 64) : ∃ N y' nx' τ', N ≤ k + 8 ∧ Goes k m κ bs N y .see y' τ' ∧ Got k m κ bs y nx y' nx' τ' := by
  have hr := room_bd κ
  have hle := A.le
  by_cases hf : ∃ i, y.op κ = i + 1 ∧ (y.ck i).us + room κ ≤ m
  · obtain ⟨i, h, hu⟩ := hf
    exact ⟨3, _, _, _, by omega, goes_fit A hκ h hu, .fit i h hu⟩
  · have hno : ∀ i, y.op κ = i + 1 → ¬ (y.ck i).us + room κ ≤ m := fun i h hu => hf ⟨i, h, hu⟩
    by_cases hn : nx < k
    · obtain ⟨N', hN, g⟩ := goes_full hk0 hno (fun sn h => goes_look (bs := bs) A (by omega) hn h nx 0 (by omega))
      exact ⟨N', _, _, _, by omega, g, .new hno hn⟩
    · obtain ⟨N', hN, g⟩ := goes_full hk0 hno (fun sn h => goes_out (m := m) (κ := κ) (bs := bs) A (by omega) (k - 1) 0 (by omega))
      exact ⟨N', _, _, _, by omega, g, .none hno (by omega)⟩

end

theorem goodp {t n k m : Nat} (ht : 1 ≤ t ∧ t ≤ 8) (hn : 1 ≤ n ∧ n ≤ 16) (hk : 1 ≤ k ∧ k ≤ 64) (hm : 17 ≤ m ∧ m ≤ 256) : Good t n k m 100 600 3 := by
  obtain ⟨t0, t1⟩ := ht
  obtain ⟨n0, n1⟩ := hn
  obtain ⟨k0, k1⟩ := hk
  obtain ⟨m0, m1⟩ := hm
  constructor <;> omega

end Go.Proofs.Ytocmkmeikcejjaa
