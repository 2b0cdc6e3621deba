/- Many who let one object go: one of them alone to the end; one who helps beside them; the words that are counted. No program in it. -/
import Derived.Test.YtbmiieaakbcncaaGreatDropGang
namespace Go.Proofs.YtbmiieaakbcncaaGreat
open Go.RowKit

section
variable {t n k m x G A Z i : Nat} {vL cg : Int} {own : Bool} {q q' : Q} {ph : Ph} {N : Nat} {ps : Nat → Dp}

/-- one who helps beside them -/
theorem Gang.help (g : Gang t n k m cg x G A Z i vL own q ph N ps) {η η' : Hp} (T : HpTh vL Z ph η) (ht : hpTurn cg x q η = (q', η')) :
    (η.good t n k m ∧ η.over? = false) ∧ q'.lv = q.lv ∧ ((Gang t n k m cg x G A Z i vL own q' ph N ps ∧ HpTh vL Z ph η' ∧ hpmu q' A (verOf' vL + 1) Z η' < hpmu q A (verOf' vL + 1) Z η) ∨ (Gang t n k m cg x G A Z i vL own q' .gone N ps ∧ η' = .over (decide (ph = .drop)))) := by
  obtain ⟨gd, fz, kn, alt⟩ := scene_help g.sc T ht
  have hnl : ph ≠ .live := by
    cases η with
    | over => cases T
    | go => exact T.2.2.1
  refine ⟨gd, kn.1, ?_⟩
  rcases alt with ⟨S', T', mu⟩ | ⟨S', e⟩
  · exact Or.inl ⟨⟨S', g.th, fun a ha hw => Dp.res_kin (g.rs a ha hw) kn, fun h => absurd h hnl, g.one, g.no, g.ex⟩, T', mu⟩
  · exact Or.inr ⟨⟨S', fun a ha => (g.th a ha).up (Ph.up_gone _), fun a ha hw => Dp.res_kin (g.rs a ha hw) kn, (fun h => by cases h), g.one, (fun h => by cases h), fun _ => g.ex hnl⟩, e⟩

/-- words that were counted, till they are counted no more -/
def Dp.paid : Dp → Bool
  | .give _ => true
  | .over _ => true
  | _ => false

def Lv (i Z : Nat) (q : Q) (N : Nat) (ps : Nat → Dp) (R : Nat) : Prop :=
  ((∃ a, a < N ∧ (ps a).win = true ∧ (ps a).paid = true) ∧ q.lv i = R - room (classOf Z).toNat) ∨ ((∀ a, a < N → (ps a).win = true → (ps a).paid = false) ∧ q.lv i = R)

theorem dpTurn_lv {α α' : Dp} (hc : ∀ Z i, α ≠ .count Z i) (ht : dpTurn t n k m cg own x G q α = (q', α')) : q'.lv = q.lv := by
  have hp : ∀ η q1 η1, hpTurn cg x q η = (q1, η1) → q1.lv = q.lv := by
    intro η q1 η1 h
    have e : ∀ v, hpEnd cg x q v = (q1, η1) → q1.lv = q.lv := by
      intro v hv
      unfold hpEnd at hv
      split at hv <;> (obtain ⟨rfl, -⟩ := Prod.mk.inj hv; rfl)
    cases η with
    | over => obtain ⟨rfl, -⟩ := Prod.mk.inj h; rfl
    | go v Z j u =>
      cases u with
      | none =>
        simp only [hpTurn] at h
        split at h
        · exact e v h
        · split at h <;> (obtain ⟨rfl, -⟩ := Prod.mk.inj h; rfl)
      | some u =>
        simp only [hpTurn] at h
        split at h
        · exact e v h
        · split at h <;> (obtain ⟨rfl, -⟩ := Prod.mk.inj h; rfl)
  cases α with
  | see => obtain ⟨rfl, -⟩ := Prod.mk.inj ht; rfl
  | ask v => obtain ⟨rfl, -⟩ := Prod.mk.inj ht; rfl
  | mark v Z =>
    simp only [dpTurn] at ht
    split at ht <;> (obtain ⟨rfl, -⟩ := Prod.mk.inj ht; rfl)
  | help η =>
    obtain ⟨q1, η1, h1⟩ : ∃ q1 η1, hpTurn cg x q η = (q1, η1) := ⟨_, _, rfl⟩
    simp only [dpTurn, h1] at ht
    have := hp η q1 η1 h1
    cases η1 <;> (simp only [dpHelp] at ht; obtain ⟨rfl, -⟩ := Prod.mk.inj ht; exact this)
  | fin Z i η =>
    obtain ⟨q1, η1, h1⟩ : ∃ q1 η1, hpTurn cg x q η = (q1, η1) := ⟨_, _, rfl⟩
    simp only [dpTurn, h1] at ht
    have := hp η q1 η1 h1
    cases η1 <;> (simp only [dpFin] at ht; obtain ⟨rfl, -⟩ := Prod.mk.inj ht; exact this)
  | count Z i => exact absurd rfl (hc Z i)
  | give γ =>
    obtain ⟨c', lk', F', γ', h1⟩ : ∃ c' lk' F' γ', gvTurn q.c q.lk q.F x γ = (c', lk', F', γ') := ⟨_, _, _, _, rfl⟩
    simp only [dpTurn, h1] at ht
    cases γ' <;> (simp only [dpGive] at ht; obtain ⟨rfl, -⟩ := Prod.mk.inj ht; rfl)
  | over => obtain ⟨rfl, -⟩ := Prod.mk.inj ht; rfl

/-- who is paid was paid, or counts -/
theorem paid_step {α α' : Dp} (ho : α.over? = false) (hc : ∀ Z i, α ≠ .count Z i) (ht : dpTurn t n k m cg own x G q α = (q', α')) : (α'.win = true ∧ α'.paid = true) ↔ α.paid = true := by
  cases α with
  | see =>
    obtain ⟨-, rfl⟩ := Prod.mk.inj ht
    constructor
    · intro h
      split at h <;> simp [Dp.win, Dp.paid] at h
    · intro h; cases h
  | ask v =>
    obtain ⟨-, rfl⟩ := Prod.mk.inj ht
    constructor
    · intro h
      unfold dpAsk at h
      split at h
      · split at h <;> simp [Dp.win, Dp.paid] at h
      · simp [Dp.win, Dp.paid] at h
    · intro h; cases h
  | mark v Z =>
    simp only [dpTurn] at ht
    constructor
    · intro h
      split at ht <;> (obtain ⟨-, rfl⟩ := Prod.mk.inj ht; simp [Dp.win, Dp.paid] at h)
    · intro h; cases h
  | help η =>
    obtain ⟨q1, η1, h1⟩ : ∃ q1 η1, hpTurn cg x q η = (q1, η1) := ⟨_, _, rfl⟩
    simp only [dpTurn, h1] at ht
    constructor
    · intro h
      cases η1 <;> (simp only [dpHelp] at ht; obtain ⟨-, rfl⟩ := Prod.mk.inj ht; simp [Dp.win, Dp.paid] at h)
    · intro h; cases h
  | fin Z i η =>
    obtain ⟨q1, η1, h1⟩ : ∃ q1 η1, hpTurn cg x q η = (q1, η1) := ⟨_, _, rfl⟩
    simp only [dpTurn, h1] at ht
    constructor
    · intro h
      cases η1 <;> (simp only [dpFin] at ht; obtain ⟨-, rfl⟩ := Prod.mk.inj ht; simp [Dp.win, Dp.paid] at h)
    · intro h; cases h
  | count Z i => exact absurd rfl (hc Z i)
  | give γ =>
    obtain ⟨c', lk', F', γ', h1⟩ : ∃ c' lk' F' γ', gvTurn q.c q.lk q.F x γ = (c', lk', F', γ') := ⟨_, _, _, _, rfl⟩
    simp only [dpTurn, h1] at ht
    constructor
    · intro _; rfl
    · intro _
      cases γ' <;> (simp only [dpGive] at ht; obtain ⟨-, rfl⟩ := Prod.mk.inj ht; exact ⟨rfl, rfl⟩)
  | over => cases ho

theorem Lv.step {R : Nat} (h : Lv i Z q N ps R) (g : Gang t n k m cg x G A Z i vL own q ph N ps) {K : Nat} (hK : K < N) (hl : (G : Int) < cg) (ho : (ps K).over? = false) {α' : Dp} (ht : dpTurn t n k m cg own x G q (ps K) = (q', α')) : Lv i Z q' N (upd ps K α') R := by
  by_cases hc : ∃ Z' i', ps K = .count Z' i'
  · obtain ⟨Z', i', e⟩ := hc
    have T := g.th K hK
    rw [e] at T ht
    obtain ⟨rfl, rfl, _⟩ := T
    simp only [dpTurn, show ¬ cg ≤ (G : Int) by omega, if_false] at ht
    obtain ⟨rfl, rfl⟩ := Prod.mk.inj ht
    have hw : (ps K).win = true := by rw [e]; rfl
    refine Or.inl ⟨⟨K, hK, by rw [upd_same]; rfl, by rw [upd_same]; rfl⟩, ?_⟩
    show upd q.lv i' (q.lv i' - room (classOf Z').toNat) i' = _
    rw [upd_same]
    rcases h with ⟨⟨a, ha, h1, h2⟩, _⟩ | ⟨_, h⟩
    · have := g.one a K ha hK h1 hw
      subst this
      rw [e] at h2; cases h2
    · rw [h]
  · have hc' : ∀ Z' i', ps K ≠ .count Z' i' := fun Z' i' e => hc ⟨Z', i', e⟩
    have lve := dpTurn_lv hc' ht
    have pd := paid_step ho hc' ht
    rcases h with ⟨⟨a, ha, h1, h2⟩, h⟩ | ⟨h1, h⟩
    · refine Or.inl ⟨⟨a, ha, ?_⟩, by rw [lve]; exact h⟩
      by_cases ea : a = K
      · subst ea; rw [upd_same]; exact pd.2 h2
      · rw [upd_other _ _ _ _ ea]; exact ⟨h1, h2⟩
    · refine Or.inr ⟨fun a ha hw => ?_, by rw [lve]; exact h⟩
      by_cases ea : a = K
      · subst ea
        rw [upd_same] at hw ⊢
        cases hp : α'.paid with
        | false => rfl
        | true =>
          have k1 := pd.1 ⟨hw, hp⟩
          cases e : ps a with
          | give γ => have := h1 a ha (by rw [e]; rfl); rw [k1] at this; cases this
          | over E => rw [e] at ho; cases ho
          | _ => rw [e] at k1; cases k1
      · rw [upd_other _ _ _ _ ea] at hw ⊢; exact h1 a ha hw

theorem dpTurn_hd {α α' : Dp} (hx : x < n) (hh : hd q.F ≤ n) (ht : dpTurn t n k m cg own x G q α = (q', α')) : hd q'.F ≤ n := by
  have hp : ∀ η q1 η1, hpTurn cg x q η = (q1, η1) → q1.F = q.F := by
    intro η q1 η1 h
    have e : ∀ v, hpEnd cg x q v = (q1, η1) → q1.F = q.F := by
      intro v hv
      unfold hpEnd at hv
      split at hv <;> (obtain ⟨rfl, -⟩ := Prod.mk.inj hv; rfl)
    cases η with
    | over => obtain ⟨rfl, -⟩ := Prod.mk.inj h; rfl
    | go v Z j u =>
      cases u with
      | none =>
        simp only [hpTurn] at h
        split at h
        · exact e v h
        · split at h <;> (obtain ⟨rfl, -⟩ := Prod.mk.inj h; rfl)
      | some u =>
        simp only [hpTurn] at h
        split at h
        · exact e v h
        · split at h <;> (obtain ⟨rfl, -⟩ := Prod.mk.inj h; rfl)
  cases α with
  | see => obtain ⟨rfl, -⟩ := Prod.mk.inj ht; exact hh
  | ask v => obtain ⟨rfl, -⟩ := Prod.mk.inj ht; exact hh
  | mark v Z =>
    simp only [dpTurn] at ht
    split at ht <;> (obtain ⟨rfl, -⟩ := Prod.mk.inj ht; exact hh)
  | help η =>
    obtain ⟨q1, η1, h1⟩ : ∃ q1 η1, hpTurn cg x q η = (q1, η1) := ⟨_, _, rfl⟩
    simp only [dpTurn, h1] at ht
    have := hp η q1 η1 h1
    cases η1 <;> (simp only [dpHelp] at ht; obtain ⟨rfl, -⟩ := Prod.mk.inj ht; rw [this]; exact hh)
  | fin Z i η =>
    obtain ⟨q1, η1, h1⟩ : ∃ q1 η1, hpTurn cg x q η = (q1, η1) := ⟨_, _, rfl⟩
    simp only [dpTurn, h1] at ht
    have := hp η q1 η1 h1
    cases η1 <;> (simp only [dpFin] at ht; obtain ⟨rfl, -⟩ := Prod.mk.inj ht; rw [this]; exact hh)
  | count Z i => obtain ⟨rfl, -⟩ := Prod.mk.inj ht; exact hh
  | give γ =>
    have hF : ∀ c' lk' F' γ', gvTurn q.c q.lk q.F x γ = (c', lk', F', γ') → hd F' ≤ n := by
      intro c' lk' F' γ' h
      cases γ with
      | idle => simp only [gvTurn, Prod.mk.injEq] at h; obtain ⟨-, -, rfl, -⟩ := h; exact hh
      | saw a b => simp only [gvTurn, Prod.mk.injEq] at h; obtain ⟨-, -, rfl, -⟩ := h; exact hh
      | over => simp only [gvTurn, Prod.mk.injEq] at h; obtain ⟨-, -, rfl, -⟩ := h; exact hh
      | lnk a b =>
        simp only [gvTurn] at h
        split at h
        · simp only [Prod.mk.injEq] at h
          obtain ⟨-, -, rfl, -⟩ := h
          show x + 1 ≤ n
          omega
        · simp only [Prod.mk.injEq] at h; obtain ⟨-, -, rfl, -⟩ := h; exact hh
    obtain ⟨c', lk', F', γ', h1⟩ : ∃ c' lk' F' γ', gvTurn q.c q.lk q.F x γ = (c', lk', F', γ') := ⟨_, _, _, _, rfl⟩
    have := hF c' lk' F' γ' h1
    simp only [dpTurn, h1] at ht
    cases γ' <;> (simp only [dpGive] at ht; obtain ⟨rfl, -⟩ := Prod.mk.inj ht; exact this)
  | over => obtain ⟨rfl, -⟩ := Prod.mk.inj ht; exact hh

/-- one of them, alone to the end -/
theorem Gang.alone (hl : (G : Int) < cg) : ∀ (μ : Nat) {q : Q} {ph : Ph} {ps : Nat → Dp} {R K : Nat}, Gang t n k m cg x G A Z i vL own q ph N ps → Lv i Z q N ps R → K < N → hd q.F ≤ n → dmu q A (verOf' vL + 1) Z vL ph (ps K) ≤ μ → (ps K).over? = false →
    ∃ M q' E ph', M ≤ μ ∧ DRuns t n k m cg own x G M q (ps K) q' (.over E) ∧ Gang t n k m cg x G A Z i vL own q' ph' N (upd ps K (.over E)) ∧ Lv i Z q' N (upd ps K (.over E)) R := by
  intro μ
  induction μ with
  | zero =>
    intro q ph ps R K g lv hK hh hμ ho
    obtain ⟨q', α', ht⟩ : ∃ q' α', dpTurn t n k m cg own x G q (ps K) = (q', α') := ⟨_, _, rfl⟩
    obtain ⟨ph', g', m1, -⟩ := g.step hK hh hl ho ht
    omega
  | succ μ ih =>
    intro q ph ps R K g lv hK hh hμ ho
    obtain ⟨q', α', ht⟩ : ∃ q' α', dpTurn t n k m cg own x G q (ps K) = (q', α') := ⟨_, _, rfl⟩
    obtain ⟨ph', g', m1, -⟩ := g.step hK hh hl ho ht
    have gd := g.good hK hh hl ho
    have lv' := lv.step g hK hl ho ht
    cases hov : α'.over? with
    | true =>
      obtain ⟨E, rfl⟩ : ∃ E, α' = .over E := by
        cases α' with
        | over E => exact ⟨E, rfl⟩
        | _ => cases hov
      exact ⟨1, q', E, ph', by omega, .one ho gd ht rfl, g', lv'⟩
    | false =>
      have hh' := dpTurn_hd g.sc.ob.xn hh ht
      have e : upd ps K α' K = α' := upd_same _ _ _
      obtain ⟨M, q2, E, ph2, hM, r, g2, l2⟩ := ih (K := K) g' lv' hK hh' (by rw [e]; omega) (by rw [e]; exact hov)
      rw [e] at r
      rw [upd_upd] at g2 l2
      exact ⟨M + 1, q2, E, ph2, by omega, .more ho gd ht hov r, g2, l2⟩
end

end Go.Proofs.YtbmiieaakbcncaaGreat
