/- Several who add one by reading and exchanging the word of one object, told without a program: none is lost. -/
import Derived.Test.YtcdmokbamakomaaGreatAccRace
namespace Go.Proofs.YtcdmokbamakomaaGreat
open Go.RowKit

/-- what one wants who read that, or nothing yet -/
def wtC (old : Int) : Wt := if 0 ≤ old then ⟨3, 65536, 0, old + 1, old⟩ else ⟨1, 65536, 0, 0, 0⟩

theorem wtC_nu (old : Int) : (wtC old).nu = 65536 := by unfold wtC; split <;> rfl
theorem wtC_ix (old : Int) : (wtC old).ix = 0 := by unfold wtC; split <;> rfl
theorem wtC_val {old : Int} (h : old ≤ 10000) : Val (wtC old).vl := by
  unfold wtC
  split
  · exact ⟨by show 0 ≤ old + 1; omega, by show old + 1 ≤ 1099511627775; omega⟩
  · exact ⟨Int.le_refl _, by decide⟩
theorem wtC_ok {old : Int} (h : old ≤ 10000) : (wtC old).ok := by
  have v := wtC_val h
  refine ⟨?_, by have := v.1; omega, by have := v.2; omega⟩
  unfold wtC
  split
  · exact Or.inr (Or.inr rfl)
  · exact Or.inl rfl

/-- what is known of one of them -/
structure CThr (v : Int) (old : Int) (α : Ac) (W : Wt) : Prop where
  w : W = wtC old
  th : AcTh W v α
  ov : α.over? = false
  bd : ∀ v' c0 ld, α = .check v' c0 ld → c0 ≤ 10000

/-- all of them; what is there -/
structure CntI (v : Int) (q : Q) (c : Int) (old : Nat → Int) (P : Nat → Option Nat) (ps : Nat → Ac) (Ws : Nat → Wt) : Prop where
  s : Cell1 4 4 2 20 0 1 v q c
  ol : ∀ a, a < 3 → -1 ≤ old a ∧ old a ≤ 10000
  th : ∀ a, a < 3 → ∀ p, P a = some p → CThr v (old a) (ps a) (Ws a)

section
variable {v c : Int} {q q' : Q} {old : Nat → Int} {P : Nat → Option Nat} {ps : Nat → Ac} {Ws : Nat → Wt} {K σ : Nat} {α' : Ac}

/-- what a step of one of them comes to -/
theorem CntI.step (I : CntI v q c old P ps Ws) (hK : K < 3) {p : Nat} (hp : P K = some p) (hc : c ≤ 10000) (ht : acTurn (Ws K) false 0 1 σ q (ps K) = (q', α')) :
    (ps K).good 4 4 2 20 (Ws K) 0 1 q ∧ ((α'.over? = false ∧ CntI v q' c old P (upd ps K α') Ws) ∨
      (∃ E c0 st, α' = .over E c0 st ∧ (0 ≤ c0 ∧ c0 ≤ 10000) ∧ ((old K < 0 ∧ E = 0) ∨ (0 ≤ old K ∧ E = 8)) ∧ Cell1 4 4 2 20 0 1 v q' c) ∨
      (∃ c0 st, α' = .over 0 c0 st ∧ 0 ≤ old K ∧ Cell1 4 4 2 20 0 1 v q' (c + 1))) := by
  have T := I.th K hK p hp
  have hol := I.ol K hK
  obtain ⟨g, T', c', S, M⟩ := cell1_step I.s (by rw [T.w]; exact wtC_ix _) (by rw [T.w]; exact wtC_val hol.2) T.th T.ov ht
  refine ⟨g, ?_⟩
  have on : c' = c → α'.over? = false → (∀ v' c0 ld, α' = .check v' c0 ld → c0 ≤ 10000) → CntI v q' c old P (upd ps K α') Ws := fun e ho hb => by
    subst e
    refine ⟨S, I.ol, fun a ha p' hp' => ?_⟩
    by_cases e : a = K
    · subst e
      rw [upd_same]
      exact ⟨T.w, T', ho, hb⟩
    · rw [upd_other _ _ _ _ e]; exact I.th a ha p' hp'
  have bd := T.bd
  have hw := T.w
  generalize hα : ps K = α at M bd
  generalize hWK : Ws K = W at M hw
  cases M with
  | see => exact Or.inl ⟨rfl, on rfl rfl (fun _ _ _ e => by cases e)⟩
  | ask a => exact Or.inl ⟨rfl, on rfl rfl (fun _ _ _ e => by cases e)⟩
  | check hr => exact Or.inl ⟨rfl, on rfl rfl (fun _ _ _ e => by cases e; exact hc)⟩
  | lay hr => exact Or.inl ⟨rfl, on rfl rfl (fun _ _ _ e => by cases e)⟩
  | vain c0 hne hr => exact Or.inl ⟨rfl, on rfl rfl (fun _ _ _ e => by cases e)⟩
  | told c0 ld h0 hr =>
    refine Or.inr (Or.inl ⟨_, c0, ld, rfl, ⟨h0.1, bd _ _ _ rfl⟩, ?_, S⟩)
    subst hw
    by_cases h : 0 ≤ old K
    · refine Or.inr ⟨h, ?_⟩
      have e : wtC (old K) = ⟨3, 65536, 0, old K + 1, old K⟩ := if_pos h
      rw [e] at hr ⊢
      have : (Wt.other ⟨3, 65536, 0, old K + 1, old K⟩ c0) = true := by
        unfold Wt.reads at hr
        simpa using hr
      rw [this, if_pos rfl]
    · refine Or.inl ⟨by omega, ?_⟩
      have e : wtC (old K) = ⟨1, 65536, 0, 0, 0⟩ := if_neg h
      rw [e]
      have : (Wt.other ⟨1, 65536, 0, 0, 0⟩ c0) = false := by unfold Wt.other; simp
      rw [this, if_neg (by decide)]
  | laid hr =>
    subst hw
    by_cases h : 0 ≤ old K
    · have e : wtC (old K) = ⟨3, 65536, 0, old K + 1, old K⟩ := if_pos h
      rw [e] at hr S
      have hcv := I.s.val
      have hco : c = old K := by
        unfold Wt.reads Wt.other at hr
        rw [vOf_val hcv.1 hcv.2] at hr
        simpa using hr
      refine Or.inr (Or.inr ⟨c, _, rfl, h, ?_⟩)
      rw [hco]; exact S
    · have e : wtC (old K) = ⟨1, 65536, 0, 0, 0⟩ := if_neg h
      rw [e] at hr
      unfold Wt.reads at hr
      simp at hr

/-- one of them is done -/
theorem CntI.drop (I : CntI v q c old P ps Ws) {c' : Int} {x : Int} (S : Cell1 4 4 2 20 0 1 v q' c') (hx : -1 ≤ x ∧ x ≤ 10000) (α : Ac) : CntI v q' c' (upd old K x) (upd P K none) (upd ps K α) Ws := by
  refine ⟨S, fun a ha => ?_, fun a ha p hp => ?_⟩
  · by_cases e : a = K
    · subst e; rw [upd_same]; exact hx
    · rw [upd_other _ _ _ _ e]; exact I.ol a ha
  · by_cases e : a = K
    · subst e; rw [upd_same] at hp; cases hp
    · rw [upd_other _ _ _ _ e] at hp
      rw [upd_other _ _ _ _ e, upd_other _ _ _ _ e]; exact I.th a ha p hp

theorem CntI.drop' (I : CntI v q c old P ps Ws) {c' : Int} (S : Cell1 4 4 2 20 0 1 v q' c') (α : Ac) : CntI v q' c' old (upd P K none) (upd ps K α) Ws := by
  refine ⟨S, I.ol, fun a ha p hp => ?_⟩
  by_cases e : a = K
  · subst e; rw [upd_same] at hp; cases hp
  · rw [upd_other _ _ _ _ e] at hp
    rw [upd_other _ _ _ _ e]; exact I.th a ha p hp

/-- one of them begins -/
theorem CntI.more (I : CntI v q c old P ps Ws) (p : Nat) : CntI v q c old (upd P K (some p)) (upd ps K .see) (upd Ws K (wtC (old K))) := by
  refine ⟨I.s, I.ol, fun a ha p' hp' => ?_⟩
  by_cases e : a = K
  · subst e
    rw [upd_same, upd_same]
    exact ⟨rfl, trivial, rfl, fun _ _ _ e => by cases e⟩
  · rw [upd_other _ _ _ _ e] at hp'
    rw [upd_other _ _ _ _ e, upd_other _ _ _ _ e]; exact I.th a ha p' hp'
end

/-- which one of three is picked -/
theorem pick3 (z : Int) : ∃ K : Nat, z.tmod 3 % 3 = (K : Int) ∧ K < 3 ∧ -3 < z.tmod 3 ∧ z.tmod 3 < 3 := by
  have h1 : -(3 : Int) < z.tmod 3 := Int.lt_tmod_of_pos z (by omega)
  have h3 : z.tmod 3 < 3 := Int.tmod_lt_of_pos z (by omega)
  exact ⟨(z.tmod 3 % 3).toNat, by omega, by omega, h1, h3⟩

theorem three10 (a : Value) (i : Nat) (hi : i < 3) : (#[a, a, a] : Array Value)[i]? = some a := by
  have : i = 0 ∨ i = 1 ∨ i = 2 := by omega
  rcases this with rfl | rfl | rfl <;> rfl

end Go.Proofs.YtcdmokbamakomaaGreat
