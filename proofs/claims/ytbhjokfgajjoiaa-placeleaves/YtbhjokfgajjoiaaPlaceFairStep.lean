/- Three who want words of one class: what is true of them stays true at each step, and each step of one brings it nearer to its end. -/
import Derived.Test.YtbhjokfgajjoiaaPlaceFair
namespace Go.Proofs.Ytbhjokfgajjoiaa
open Go.RowKit

section
variable {κ : Nat} {y : Y} {τ : Nat → Pl} {o : Nat} {sq : Nat → Nat} {g W : Nat} {s t P : Nat → Nat} {X : Nat} {bs : Nat → Nat}

theorem val_inj (h3 : ∀ i j, i < o → j < o → sq i = sq j → i = j) {x : Nat} (hx : x ≤ o) (e : val sq o = val sq x) : x = o := by
  cases o with
  | zero => omega
  | succ a =>
    cases x with
    | zero => simp [val] at e
    | succ b =>
      simp only [val] at e
      have := h3 a b (by omega) (by omega) (by omega)
      omega

namespace Fair

/-- a chunk that is not free is opened, or held, and was taken once -/
theorem spn (f : Fair κ y τ o sq g W s t P) {i : Nat} (hi : i < 6) (h : (y.ck i).st ≠ 0) : (y.ck i).sp ≠ 0 := fun e => h (by rw [f.cZ i hi e])

theorem held_st (f : Fair κ y τ o sq g W s t P) (hX : X < 3) {i : Nat} (h : (τ X).held i) : (y.ck i).st = 1 ∧ (y.ck i).us = 0 ∧ ∀ j, j < o → sq j ≠ i := by
  have a := f.th X hX
  cases hτ : τ X with
  | opn sn j c =>
    rw [hτ] at a h
    obtain ⟨a1, a2, a3, a4, a5, a6, a7, a8, a9, a10, a11⟩ := a
    obtain rfl : j = i := h
    rw [a6]
    exact ⟨a7, a9, a10⟩
  | fre sn j c =>
    rw [hτ] at a h
    obtain ⟨a1, a2, a3, a4, a5, a6, a7, a8, a9, a10, a11⟩ := a
    obtain rfl : j = i := h
    rw [a6]
    exact ⟨a7, a9, a10⟩
  | see => rw [hτ] at h; exact h.elim
  | ask j => rw [hτ] at h; exact h.elim
  | grow j c => rw [hτ] at h; exact h.elim
  | look sn j => rw [hτ] at h; exact h.elim
  | take sn j c => rw [hτ] at h; exact h.elim
  | won a j => rw [hτ] at h; exact h.elim
  | none => rw [hτ] at h; exact h.elim

/-- the chunks are looked at further on -/
theorem next (f : Fair κ y τ o sq g W s t P) (hX : X < 3) {sn i : Nat} (hu : (τ X).over = false) (hn : ∀ i, ¬ (τ X).held i) (hi : i < 6) (h1 : s X ≤ o) (h2 : sn = val sq (s X)) (h3 : Full κ y sq (s X)) (h4 : t X ≤ s X) (h5 : ∀ j, j < i → (y.ck j).sp ≠ 0) (h6 : (y.ck i).sp ≠ 0) (h7 : 17 * (2 - s X) + 3 * (3 - g) + 2 * (6 - i) + 5 ≤ P X) : ∃ o' sq' g' W' s' t', Fair κ y (upd τ X (adv 6 sn (i + 1))) o' sq' g' W' s' t' (upd P X (P X - 1)) := by
  have hf := f.few hX hu (by have := f.sg h1 h3; omega)
  have hall := n1_all (y := y) hi (fun j hj => by
    by_cases e : j = i
    · subst e; exact h6
    · exact h5 j (by omega))
  have hi5 : i + 1 < 6 := by omega
  have hw0 : wn (τ X) = 0 := by rcases wn_bd (τ X) with h | h; exact h.1; rw [hu] at h; cases h.2
  have ha : adv 6 sn (i + 1) = .look sn (i + 1) := if_pos hi5
  rw [ha]
  exact ⟨o, sq, g, W, _, _, f.same hX (.look sn (i + 1)) (s X) ⟨hi5, h1, h2, h3, h4, fun j hj => by
    by_cases e : j = i
    · subst e; exact h6
    · exact h5 j (by omega), by omega⟩ (fun i => ⟨fun h => False.elim h, fun h => absurd h (hn i)⟩) hw0.symm⟩

theorem step (f : Fair κ y τ o sq g W s t P) (hX : X < 3) (ho : (τ X).over = false) : 1 ≤ P X ∧ ∃ o' sq' g' W' s' t', Fair κ (turn 6 20 κ bs y (τ X)).1 (upd τ X (turn 6 20 κ bs y (τ X)).2) o' sq' g' W' s' t' (upd P X (P X - 1)) := by
  have a := f.th X hX
  have hg2 := f.gle hX ho
  have hrb := room_bd κ
  have hw0 : wn (τ X) = 0 := by rcases wn_bd (τ X) with h | h; exact h.1; rw [ho] at h; cases h.2
  cases hτ : τ X with
  | won b i => rw [hτ] at ho; cases ho
  | none => rw [hτ] at ho; cases ho
  | see =>
    rw [hτ] at a
    obtain ⟨a1, a2⟩ := a
    have hn : ∀ i, ¬ (τ X).held i := fun i h => by rw [hτ] at h; exact h
    refine ⟨by omega, ?_⟩
    have hop := f.op
    cases eo : o with
    | zero =>
      rw [eo] at hop
      have ht : turn 6 20 κ bs y .see = (y, .look 0 0) := by simp [turn, hop, val, adv]
      rw [ht]
      exact ⟨o, sq, g, W, _, _, f.same hX (.look 0 0) 0 ⟨by omega, by omega, rfl, fun j e => by omega, by omega, fun j hj => by omega, by omega⟩ (fun i => ⟨fun h => False.elim h, fun h => absurd h (hn i)⟩) hw0.symm⟩
    | succ j =>
      rw [eo] at hop
      have ht : turn 6 20 κ bs y .see = (y, .ask (sq j)) := by simp [turn, hop, val]
      rw [ht]
      exact ⟨o, sq, g, W, _, _, f.same hX (.ask (sq j)) (j + 1) ⟨j, by omega, rfl, rfl, by omega, by rw [eo] at a2; omega⟩ (fun i => ⟨fun h => False.elim h, fun h => absurd h (hn i)⟩) hw0.symm⟩
  | ask i =>
    rw [hτ] at a
    obtain ⟨j, a1, a2, a3, a4, a5⟩ := a
    have hn : ∀ i, ¬ (τ X).held i := fun i h => by rw [hτ] at h; exact h
    refine ⟨by omega, ?_⟩
    obtain ⟨b1, b2, b3⟩ := f.o2 j a1
    rw [a2] at b1 b2 b3
    by_cases hu : (y.ck i).us + room κ ≤ 20
    · have ht : turn 6 20 κ bs y (.ask i) = (y, .grow i (y.ck i)) := by simp [turn, b2, b3, hu]
      rw [ht]
      exact ⟨o, sq, g, W, _, _, f.same hX (.grow i (y.ck i)) (s X) ⟨j, a1, a2, a3, a4, b2, b3, rfl, Nat.le_refl _, hu, by omega, fun h => by omega⟩ (fun i => ⟨fun h => False.elim h, fun h => absurd h (hn i)⟩) hw0.symm⟩
    · have ht : turn 6 20 κ bs y (.ask i) = (y, .look (i + 1) 0) := by simp [turn, b2, b3, hu, adv]
      rw [ht]
      have hF : Full κ y sq (s X) := fun j' e => by
        obtain rfl : j' = j := by omega
        rw [a2]; omega
      have hs := f.sg (by omega) hF
      exact ⟨o, sq, g, W, _, _, f.same hX (.look (i + 1) 0) (s X) ⟨by omega, by omega, by rw [a3]; simp only [val]; omega, hF, a4, fun j hj => by omega, by omega⟩ (fun i => ⟨fun h => False.elim h, fun h => absurd h (hn i)⟩) hw0.symm⟩
  | grow i c =>
    rw [hτ] at a
    obtain ⟨j, a1, a2, a3, a4, a5, a6, a7, a8, a9, a10, a11⟩ := a
    have hn : ∀ i, ¬ (τ X).held i := fun i h => by rw [hτ] at h; exact h
    refine ⟨by omega, ?_⟩
    obtain ⟨b1, b2, b3⟩ := f.o2 j a1
    rw [a2] at b1 b2 b3
    by_cases he : y.ck i = c
    · have ht : turn 6 20 κ bs y (.grow i c) = (⟨upd y.ck i ⟨c.st, c.cl, c.us + room κ, c.sp⟩, y.op⟩, .won (bs i + c.us) i) := by simp [turn, he]
      rw [ht]
      have o5 := f.o5
      have hus : ∀ q, (y.ck q).us ≤ (upd y.ck i ⟨c.st, c.cl, c.us + room κ, c.sp⟩ q).us := fun q => by
        by_cases e : q = i
        · subst e; rw [upd_same, he]; simp
        · rw [upd_other _ _ _ _ e]; exact Nat.le_refl _
      have hsp : ∀ q, (upd y.ck i ⟨c.st, c.cl, c.us + room κ, c.sp⟩ q).sp = (y.ck q).sp := fun q => by
        by_cases e : q = i
        · subst e; rw [upd_same, he]
        · rw [upd_other _ _ _ _ e]
      refine ⟨o, sq, g + 1, W + t X, upd s X (s X), upd t X 0, ?_⟩
      refine ⟨f.op, fun q hq => ?_, f.o3, fun q hq => ?_, by omega, fun q hq _ => by omega, fun q hq hs => ?_, fun q hq => ?_, fun q hq hs => ?_, th_put rfl (fun Z hZ hne => ?_), hd_put f.hd (fun i h => h.elim), ?_, ?_, ?_, ?_⟩
      · obtain ⟨c1, c2, c3⟩ := f.o2 q hq
        refine ⟨c1, ?_⟩
        by_cases e : sq q = i
        · rw [e]; simp only [upd_same]; exact ⟨a5, a6⟩
        · simp only [upd_other _ _ _ _ e]; exact ⟨c2, c3⟩
      · have h1 := f.o4 q hq
        have h2 := hus (sq q)
        show 20 < (upd y.ck i ⟨c.st, c.cl, c.us + room κ, c.sp⟩ (sq q)).us + room κ
        omega
      · by_cases e : q = i
        · subst e; simp only [upd_same] at hs; omega
        · simp only [upd_other _ _ _ _ e] at hs ⊢; exact f.cU q hq hs
      · by_cases e : q = i
        · exact .inr (.inl ⟨j, a1, by rw [a2, e]⟩)
        · simp only [upd_other _ _ _ _ e]
          rcases f.cS q hq with h | h | ⟨Z, hZ, h⟩
          · exact .inl h
          · exact .inr (.inl h)
          · refine .inr (.inr ⟨Z, hZ, ?_⟩)
            by_cases eZ : Z = X
            · subst eZ; exact absurd h (hn q)
            · rw [upd_other _ _ _ _ eZ]; exact h
      · have hs' : (y.ck q).sp = 0 := (hsp q).symm.trans hs
        by_cases e : q = i
        · subst e
          have h1 := f.cZ q hq hs'
          rw [h1] at b2
          cases b2
        · simp only [upd_other _ _ _ _ e]; exact f.cZ q hq hs'
      · refine (f.th Z hZ).mono (Nat.le_refl _) (fun _ _ => rfl) (fun q hq => ⟨hsp _, hus _⟩) (fun q => Nat.le_of_eq (hsp q).symm) (.inr ⟨rfl, by omega⟩) (fun q hq => ?_)
        obtain ⟨k1, k2, k3⟩ := f.held_st hZ hq
        have e : q ≠ i := fun e => k3 j a1 (by rw [a2, e])
        exact ⟨upd_other _ _ _ _ e, k3⟩
      · have h1 := f.gw
        have h2 := sum3_upd (fun X => wn (τ X)) X (wn (.won (bs i + c.us) i)) hX
        rw [wn_put]
        have h3 : wn (.won (bs i + c.us) i) = 1 := rfl
        rw [h3] at h2 ⊢
        rw [hw0] at h2
        omega
      · have h1 := f.w2
        have hgs : g = 0 ∨ g = 1 ∨ g = 2 := by omega
        rcases hgs with e | e | e <;> rw [e] at h1 ⊢ <;> omega
      · rw [n1Of_put]
        have h1 := sum6_upd (n1Of y) i (n1 ⟨c.st, c.cl, c.us + room κ, c.sp⟩) b1
        have h2 : n1 ⟨c.st, c.cl, c.us + room κ, c.sp⟩ = n1Of y i := by simp only [n1Of, n1, he]
        have h3 := sum3_upd t X 0 hX
        have h4 := f.cn
        rw [h2] at h1 ⊢
        omega
      · rw [usOf_put]
        have h1 := sum6_upd (usOf y) i (c.us + room κ) b1
        have h2 : usOf y i = c.us := by simp only [usOf, he]
        have h3 := f.us
        have h4 : (g + 1) * room κ = g * room κ + room κ := Nat.succ_mul _ _
        simp only
        omega
    · have ht : turn 6 20 κ bs y (.grow i c) = (y, .see) := by simp [turn, he]
      rw [ht]
      have hlt : c.us < (y.ck i).us := by
        by_cases e : c.us = (y.ck i).us
        · exfalso
          apply he
          have : ∀ d : Ck, d.st = c.st → d.cl = c.cl → d.us = c.us → d.sp = c.sp → d = c := fun d h1 h2 h3 h4 => by
            cases d; cases c; simp only at h1 h2 h3 h4; subst h1 h2 h3 h4; rfl
          exact this _ (by rw [b2, a5]) (by rw [b3, a6]) e.symm a7.symm
        · omega
      have := a11 hlt
      exact ⟨o, sq, g, W, _, _, f.same hX .see (s X) ⟨by omega, by omega⟩ (fun i => ⟨fun h => False.elim h, fun h => absurd h (hn i)⟩) hw0.symm⟩
  | look sn i =>
    rw [hτ] at a
    obtain ⟨a1, a2, a3, a4, a5, a6, a7⟩ := a
    have hn : ∀ i, ¬ (τ X).held i := fun i h => by rw [hτ] at h; exact h
    refine ⟨by omega, ?_⟩
    by_cases hs : (y.ck i).st = 0
    · have ht : turn 6 20 κ bs y (.look sn i) = (y, .take sn i (y.ck i)) := by simp [turn, hs]
      rw [ht]
      exact ⟨o, sq, g, W, _, _, f.same hX (.take sn i (y.ck i)) (s X) ⟨a1, a2, a3, a4, a5, a6, hs, Nat.le_refl _, f.cZ i a1, by omega⟩ (fun i => ⟨fun h => False.elim h, fun h => absurd h (hn i)⟩) hw0.symm⟩
    · have ht : turn 6 20 κ bs y (.look sn i) = (y, adv 6 sn (i + 1)) := by simp [turn, hs]
      rw [ht]
      exact f.next hX ho hn a1 a2 a3 a4 a5 a6 (f.spn a1 hs) (by omega)
  | take sn i c =>
    rw [hτ] at a
    obtain ⟨a1, a2, a3, a4, a5, a6, a7, a8, a9, a10⟩ := a
    have hn : ∀ i, ¬ (τ X).held i := fun i h => by rw [hτ] at h; exact h
    refine ⟨by omega, ?_⟩
    by_cases he : y.ck i = c
    · have ht : turn 6 20 κ bs y (.take sn i c) = (⟨upd y.ck i ⟨1, κ, 0, c.sp + 1⟩, y.op⟩, .opn sn i ⟨1, κ, 0, c.sp + 1⟩) := by simp [turn, he]
      rw [ht]
      have hst : (y.ck i).st = 0 := by rw [he]; exact a7
      have hno : ∀ q, q < o → sq q ≠ i := fun q hq e => by
        have := (f.o2 q hq).2.1
        rw [e, hst] at this
        cases this
      have hnh : ∀ Z, Z < 3 → ¬ (τ Z).held i := fun Z hZ h => by
        have := (f.held_st hZ h).1
        rw [hst] at this
        cases this
      have hoth : ∀ q, q < o → upd y.ck i ⟨1, κ, 0, c.sp + 1⟩ (sq q) = y.ck (sq q) := fun q hq => upd_other _ _ _ _ (hno q hq)
      have hsp : ∀ q, (y.ck q).sp ≤ (upd y.ck i ⟨1, κ, 0, c.sp + 1⟩ q).sp := fun q => by
        by_cases e : q = i
        · subst e; rw [upd_same, he]; simp
        · rw [upd_other _ _ _ _ e]; exact Nat.le_refl _
      refine ⟨o, sq, g, W, upd s X (s X), upd t X (t X + 1), ?_⟩
      refine ⟨f.op, fun q hq => ?_, f.o3, fun q hq => ?_, f.o5, fun q hq hu => ?_, fun q hq hs => ?_, fun q hq => ?_, fun q hq hs => ?_, th_put ⟨a1, a2, a3, a4.mono a2 (fun _ _ => rfl) (fun q hq => by show (y.ck (sq q)).us ≤ (upd y.ck i ⟨1, κ, 0, c.sp + 1⟩ (sq q)).us; rw [hoth q hq]; exact Nat.le_refl _), by omega, upd_same _ _ _, rfl, rfl, rfl, hno, by omega⟩ (fun Z hZ hne => ?_), hd_put f.hd (fun q h Z hZ _ => by obtain rfl : i = q := h; exact hnh Z hZ), ?_, f.w2, ?_, ?_⟩
      · obtain ⟨c1, c2, c3⟩ := f.o2 q hq
        refine ⟨c1, ?_⟩
        simp only [hoth q hq]
        exact ⟨c2, c3⟩
      · simp only [hoth q (by omega)]; exact f.o4 q hq
      · simp only [hoth q (by omega)] at hu; exact f.o6 q hq hu
      · by_cases e : q = i
        · subst e; simp only [upd_same]
        · simp only [upd_other _ _ _ _ e] at hs ⊢; exact f.cU q hq hs
      · by_cases e : q = i
        · exact .inr (.inr ⟨X, hX, by rw [upd_same]; exact e.symm⟩)
        · simp only [upd_other _ _ _ _ e]
          rcases f.cS q hq with h | h | ⟨Z, hZ, h⟩
          · exact .inl h
          · exact .inr (.inl h)
          · refine .inr (.inr ⟨Z, hZ, ?_⟩)
            by_cases eZ : Z = X
            · subst eZ; exact absurd h (hn q)
            · rw [upd_other _ _ _ _ eZ]; exact h
      · by_cases e : q = i
        · subst e; simp only [upd_same] at hs; omega
        · simp only [upd_other _ _ _ _ e] at hs ⊢; exact f.cZ q hq hs
      · refine (f.th Z hZ).mono (Nat.le_refl _) (fun _ _ => rfl) (fun q hq => by simp only [hoth q hq]; exact ⟨trivial, Nat.le_refl _⟩) hsp (.inl ⟨rfl, fun q hq => by simp only [hoth q hq]⟩) (fun q hq => ?_)
        obtain ⟨k1, k2, k3⟩ := f.held_st hZ hq
        have e : q ≠ i := fun e => hnh Z hZ (e ▸ hq)
        exact ⟨upd_other _ _ _ _ e, k3⟩
      · rw [wn_put]
        have h1 : upd (fun X => wn (τ X)) X (wn (.opn sn i ⟨1, κ, 0, c.sp + 1⟩)) = fun X => wn (τ X) := by
          have h3 : wn (.opn sn i ⟨1, κ, 0, c.sp + 1⟩) = (fun X => wn (τ X)) X := hw0.symm
          rw [h3, upd_id]
        rw [h1]
        exact f.gw
      · rw [n1Of_put]
        have h1 := sum6_upd (n1Of y) i (n1 ⟨1, κ, 0, c.sp + 1⟩) a1
        have h2 : n1 ⟨1, κ, 0, c.sp + 1⟩ = 1 := by simp [n1]
        have h3 := sum3_upd t X (t X + 1) hX
        have h4 := f.cn
        rw [h2] at h1 ⊢
        omega
      · rw [usOf_put]
        have h1 := sum6_upd (usOf y) i 0 a1
        have h2 : usOf y i = 0 := f.cU i a1 hst
        have h3 := f.us
        simp only
        omega
    · have ht : turn 6 20 κ bs y (.take sn i c) = (y, adv 6 sn (i + 1)) := by simp [turn, he]
      rw [ht]
      have hsp : (y.ck i).sp ≠ 0 := fun e => by
        apply he
        rw [f.cZ i a1 e, a9 (by omega)]
      exact f.next hX ho hn a1 a2 a3 a4 a5 a6 hsp (by omega)
  | opn sn i c =>
    rw [hτ] at a
    obtain ⟨a1, a2, a3, a4, a5, a6, a7, a8, a9, a10, a11⟩ := a
    have hh : ∀ q, (τ X).held q → i = q := fun q h => by rw [hτ] at h; exact h
    refine ⟨by omega, ?_⟩
    have hop := f.op
    have hs := f.sg a2 a4
    by_cases he : y.op κ = sn
    · have ht : turn 6 20 κ bs y (.opn sn i c) = (⟨y.ck, upd y.op κ (i + 1)⟩, .see) := by simp [turn, he]
      rw [ht]
      have hso : s X = o := val_inj f.o3 a2 (by rw [← hop, he, a3])
      have hsq : ∀ q, q < o → upd sq o i q = sq q := fun q hq => upd_other _ _ _ _ (by omega)
      refine ⟨o + 1, upd sq o i, g, W, upd s X (s X), upd t X (t X), ?_⟩
      refine ⟨?_, fun q hq => ?_, fun p q hp hq e => ?_, fun q hq => ?_, by omega, fun q hq hu => ?_, f.cU, fun q hq => ?_, f.cZ, th_put ⟨by omega, by omega⟩ (fun Z hZ hne => ?_), hd_put f.hd (fun i h => h.elim), ?_, f.w2, ?_, f.us⟩
      · show upd y.op κ (i + 1) κ = val (upd sq o i) (o + 1)
        rw [upd_same]; simp only [val]; rw [upd_same]
      · by_cases e : q = o
        · subst e; rw [upd_same]; simp only [a6]; exact ⟨a1, a7, a8⟩
        · rw [upd_other _ _ _ _ e]; exact f.o2 q (by omega)
      · by_cases ep : p = o
        · subst ep
          by_cases eq : q = p
          · exact eq.symm
          · rw [upd_same, upd_other _ _ _ _ eq] at e
            exact absurd e.symm (a10 q (by omega))
        · by_cases eq : q = o
          · subst eq
            rw [upd_same, upd_other _ _ _ _ ep] at e
            exact absurd e (a10 p (by omega))
          · rw [upd_other _ _ _ _ ep, upd_other _ _ _ _ eq] at e
            exact f.o3 p q (by omega) (by omega) e
      · rw [hsq q (by omega)]
        by_cases e : q + 1 < o
        · exact f.o4 q e
        · exact a4 q (by omega)
      · have e : q = o := by omega
        subst e
        rw [upd_same] at hu
        simp only [a6] at hu
        exact absurd a9 hu
      · rcases f.cS q hq with h | ⟨j, hj, h⟩ | ⟨Z, hZ, h⟩
        · exact .inl h
        · exact .inr (.inl ⟨j, by omega, by rw [hsq j hj]; exact h⟩)
        · by_cases eZ : Z = X
          · subst eZ
            exact .inr (.inl ⟨o, by omega, by rw [upd_same]; exact hh q h⟩)
          · exact .inr (.inr ⟨Z, hZ, by rw [upd_other _ _ _ _ eZ]; exact h⟩)
      · refine (f.th Z hZ).mono (Nat.le_succ _) hsq (fun q hq => ⟨rfl, Nat.le_refl _⟩) (fun q => Nat.le_refl _) (.inl ⟨rfl, fun _ _ => rfl⟩) (fun q hq => ?_)
        obtain ⟨k1, k2, k3⟩ := f.held_st hZ hq
        refine ⟨rfl, fun j hj => ?_⟩
        by_cases e : j = o
        · subst e
          rw [upd_same]
          intro e
          exact f.hd Z X hZ hX hne q hq (by rw [hτ]; exact e)
        · rw [hsq j (by omega)]; exact k3 j (by omega)
      · rw [wn_put]
        have h1 : upd (fun X => wn (τ X)) X (wn .see) = fun X => wn (τ X) := by
          have h3 : wn .see = (fun X => wn (τ X)) X := hw0.symm
          rw [h3, upd_id]
        rw [h1]
        exact f.gw
      · rw [upd_id]; exact f.cn
    · have ht : turn 6 20 κ bs y (.opn sn i c) = (y, .fre sn i c) := by simp [turn, he]
      rw [ht]
      have hso : s X ≠ o := fun e => he (by rw [hop, a3, e])
      exact ⟨o, sq, g, W, _, _, f.same hX (.fre sn i c) (s X) ⟨a1, by omega, a3, a4, a5, a6, a7, a8, a9, a10, by omega⟩ (fun q => by rw [hτ]; exact Iff.rfl) hw0.symm⟩
  | fre sn i c =>
    rw [hτ] at a
    obtain ⟨a1, a2, a3, a4, a5, a6, a7, a8, a9, a10, a11⟩ := a
    have hh : ∀ q, (τ X).held q → i = q := fun q h => by rw [hτ] at h; exact h
    refine ⟨by omega, ?_⟩
    have ht : turn 6 20 κ bs y (.fre sn i c) = (⟨upd y.ck i ⟨0, 0, 0, c.sp + 1⟩, y.op⟩, .see) := by simp [turn, a6]
    rw [ht]
    have hs := f.sg (Nat.le_of_lt a2) a4
    have hnh : ∀ Z, Z < 3 → Z ≠ X → ¬ (τ Z).held i := fun Z hZ hne h => f.hd Z X hZ hX hne i h (by rw [hτ]; exact rfl)
    have hoth : ∀ q, q < o → upd y.ck i ⟨0, 0, 0, c.sp + 1⟩ (sq q) = y.ck (sq q) := fun q hq => upd_other _ _ _ _ (a10 q hq)
    have hcsp : c.sp ≠ 0 := by
      have := f.spn a1 (by rw [a6, a7]; omega)
      rwa [a6] at this
    have hsp : ∀ q, (y.ck q).sp ≤ (upd y.ck i ⟨0, 0, 0, c.sp + 1⟩ q).sp := fun q => by
      by_cases e : q = i
      · subst e; rw [upd_same, a6]; simp
      · rw [upd_other _ _ _ _ e]; exact Nat.le_refl _
    refine ⟨o, sq, g, W, upd s X (s X), upd t X (t X), ?_⟩
    refine ⟨f.op, fun q hq => ?_, f.o3, fun q hq => ?_, f.o5, fun q hq hu => ?_, fun q hq hs => ?_, fun q hq => ?_, fun q hq hs => ?_, th_put ⟨by omega, by omega⟩ (fun Z hZ hne => ?_), hd_put f.hd (fun i h => h.elim), ?_, f.w2, ?_, ?_⟩
    · obtain ⟨c1, c2, c3⟩ := f.o2 q hq
      refine ⟨c1, ?_⟩
      simp only [hoth q hq]
      exact ⟨c2, c3⟩
    · simp only [hoth q (by omega)]; exact f.o4 q hq
    · simp only [hoth q (by omega)] at hu; exact f.o6 q hq hu
    · by_cases e : q = i
      · subst e; simp only [upd_same]
      · simp only [upd_other _ _ _ _ e] at hs ⊢; exact f.cU q hq hs
    · by_cases e : q = i
      · subst e; exact .inl (by simp only [upd_same])
      · simp only [upd_other _ _ _ _ e]
        rcases f.cS q hq with h | h | ⟨Z, hZ, h⟩
        · exact .inl h
        · exact .inr (.inl h)
        · by_cases eZ : Z = X
          · subst eZ; exact absurd (hh q h).symm e
          · exact .inr (.inr ⟨Z, hZ, by rw [upd_other _ _ _ _ eZ]; exact h⟩)
    · by_cases e : q = i
      · subst e; simp only [upd_same] at hs; omega
      · simp only [upd_other _ _ _ _ e] at hs ⊢; exact f.cZ q hq hs
    · refine (f.th Z hZ).mono (Nat.le_refl _) (fun _ _ => rfl) (fun q hq => by simp only [hoth q hq]; exact ⟨trivial, Nat.le_refl _⟩) hsp (.inl ⟨rfl, fun q hq => by simp only [hoth q hq]⟩) (fun q hq => ?_)
      obtain ⟨k1, k2, k3⟩ := f.held_st hZ hq
      have e : q ≠ i := fun e => hnh Z hZ hne (e ▸ hq)
      exact ⟨upd_other _ _ _ _ e, k3⟩
    · rw [wn_put]
      have h1 : upd (fun X => wn (τ X)) X (wn .see) = fun X => wn (τ X) := by
        have h3 : wn .see = (fun X => wn (τ X)) X := hw0.symm
        rw [h3, upd_id]
      rw [h1]
      exact f.gw
    · rw [n1Of_put, upd_id]
      have h1 := sum6_upd (n1Of y) i (n1 ⟨0, 0, 0, c.sp + 1⟩) a1
      have h2 : n1 ⟨0, 0, 0, c.sp + 1⟩ = 1 := by simp [n1]
      have h3 : n1Of y i = 1 := by simp [n1Of, n1, a6, hcsp]
      have h4 := f.cn
      rw [h2] at h1 ⊢
      omega
    · rw [usOf_put]
      have h1 := sum6_upd (usOf y) i 0 a1
      have h2 : usOf y i = 0 := by simp only [usOf, a6]; exact a9
      have h3 := f.us
      simp only
      omega

/-- behind the last step of all: one chunk is open, of the class; all others are free, or full -/
theorem ends (f : Fair κ y τ o sq g W s t P) (h : ∀ X, X < 3 → (τ X).over = true) : ∃ i0, y.op κ = i0 + 1 ∧ i0 < 6 ∧ (y.ck i0).st = 1 ∧ (y.ck i0).cl = κ ∧ (∀ i, i < 6 → i ≠ i0 → (y.ck i).st = 1 → 20 < (y.ck i).us + room κ) ∧ sum6 (usOf y) = 3 * room κ := by
  have hrb := room_bd κ
  have hnh : ∀ X, X < 3 → ∀ i, ¬ (τ X).held i := fun X hX i hh => by
    have := h X hX
    cases hτ : τ X with
    | opn sn j c => rw [hτ] at this; cases this
    | fre sn j c => rw [hτ] at this; cases this
    | see => rw [hτ] at hh; exact hh
    | ask j => rw [hτ] at hh; exact hh
    | grow j c => rw [hτ] at hh; exact hh
    | look sn j => rw [hτ] at hh; exact hh
    | take sn j c => rw [hτ] at hh; exact hh
    | won a j => rw [hτ] at hh; exact hh
    | none => rw [hτ] at hh; exact hh
  have hg : g = 3 := by
    have h1 := f.gw
    simp only [sum3, wn, h 0 (by omega), h 1 (by omega), h 2 (by omega), if_true] at h1
    exact h1
  have hus := f.us
  rw [hg] at hus
  have hop := f.op
  cases eo : o with
  | zero =>
    exfalso
    have h0 : ∀ i, i < 6 → usOf y i = 0 := fun i hi => by
      rcases f.cS i hi with h1 | ⟨j, hj, _⟩ | ⟨X, hX, h1⟩
      · exact f.cU i hi h1
      · omega
      · exact absurd h1 (hnh X hX i)
    have e0 := h0 0 (by omega)
    have e1 := h0 1 (by omega)
    have e2 := h0 2 (by omega)
    have e3 := h0 3 (by omega)
    have e4 := h0 4 (by omega)
    have e5 := h0 5 (by omega)
    unfold sum6 at hus
    omega
  | succ j =>
    rw [eo] at hop
    obtain ⟨c1, c2, c3⟩ := f.o2 j (by omega)
    refine ⟨sq j, hop, c1, c2, c3, fun i hi hne hst => ?_, hus⟩
    rcases f.cS i hi with h1 | ⟨q, hq, h1⟩ | ⟨X, hX, h1⟩
    · omega
    · have hqj : q ≠ j := fun e => hne (by rw [← h1, e])
      have := f.o4 q (by omega)
      rwa [h1] at this
    · exact absurd h1 (hnh X hX i)
end Fair

/-- the three begin -/
theorem fair0 (κ : Nat) : Fair κ Y.new (fun _ => .see) 0 (fun _ => 0) 0 0 (fun _ => 0) (fun _ => 0) (fun _ => 63) :=
  ⟨rfl, fun j hj => absurd hj (by omega), fun i j hi => absurd hi (by omega), fun j hj => absurd hj (by omega), by omega, fun j hj => absurd hj (by omega), fun _ _ _ => rfl, fun _ _ => .inl rfl, fun _ _ _ => rfl, fun _ _ => ⟨by omega, by omega⟩, fun _ _ _ _ _ _ h => h.elim, rfl, by omega, by simp [n1Of, n1, Y.new, sum6], by simp [usOf, Y.new, sum6]⟩
end

end Go.Proofs.Ytbhjokfgajjoiaa
