/- Three who want words of one class, in an arena of 6 chunks of 20 words, whoever is picked: each of them gets words within so many steps of its own, and chunks that were taken in vain are free again. -/
import Derived.Test.YtbhjokfgajjoiaaPlaceTrio
namespace Go.Proofs.Ytbhjokfgajjoiaa
open Go.RowKit

/-- a sum over the chunks -/
def sum6 (f : Nat → Nat) : Nat := f 0 + f 1 + f 2 + f 3 + f 4 + f 5
/-- a sum over the three -/
def sum3 (f : Nat → Nat) : Nat := f 0 + f 1 + f 2

theorem sum6_upd (f : Nat → Nat) (i v : Nat) (hi : i < 6) : sum6 (upd f i v) + f i = sum6 f + v := by
  have : i = 0 ∨ i = 1 ∨ i = 2 ∨ i = 3 ∨ i = 4 ∨ i = 5 := by omega
  rcases this with rfl | rfl | rfl | rfl | rfl | rfl <;> simp [sum6, upd] <;> omega
theorem sum3_upd (f : Nat → Nat) (i v : Nat) (hi : i < 3) : sum3 (upd f i v) + f i = sum3 f + v := by
  have : i = 0 ∨ i = 1 ∨ i = 2 := by omega
  rcases this with rfl | rfl | rfl <;> simp [sum3, upd] <;> omega

/-- how much is used of a chunk, as a sum's part -/
def usOf (y : Y) : Nat → Nat := fun i => (y.ck i).us
/-- was a chunk ever taken? -/
def n1 (c : Ck) : Nat := if c.sp = 0 then 0 else 1
def n1Of (y : Y) : Nat → Nat := fun i => n1 (y.ck i)
/-- is it done? -/
def wn (τ : Pl) : Nat := if τ.over = true then 1 else 0

theorem usOf_put (y : Y) (i : Nat) (c : Ck) (op : Nat → Nat) : usOf ⟨upd y.ck i c, op⟩ = upd (usOf y) i c.us := by
  funext j
  by_cases e : j = i
  · subst e; simp [usOf, upd_same]
  · simp [usOf, upd_other _ _ _ _ e]
theorem n1Of_put (y : Y) (i : Nat) (c : Ck) (op : Nat → Nat) : n1Of ⟨upd y.ck i c, op⟩ = upd (n1Of y) i (n1 c) := by
  funext j
  by_cases e : j = i
  · subst e; simp [n1Of, upd_same]
  · simp [n1Of, upd_other _ _ _ _ e]
theorem wn_put (τ : Nat → Pl) (i : Nat) (t : Pl) : (fun j => wn (upd τ i t j)) = upd (fun j => wn (τ j)) i (wn t) := by
  funext j
  by_cases e : j = i
  · subst e; simp [upd_same]
  · simp [upd_other _ _ _ _ e]

/-- if all chunks up to i were taken once, there are as many -/
theorem n1_all {y : Y} {i : Nat} (hi : i < 6) (h : ∀ j, j ≤ i → (y.ck j).sp ≠ 0) : i + 1 ≤ sum6 (n1Of y) := by
  have hj : ∀ j, j ≤ i → n1Of y j = 1 := fun j hj => by simp [n1Of, n1, h j hj]
  have : i = 0 ∨ i = 1 ∨ i = 2 ∨ i = 3 ∨ i = 4 ∨ i = 5 := by omega
  unfold sum6
  rcases this with rfl | rfl | rfl | rfl | rfl | rfl
  · have h0 := hj 0 (by omega); omega
  · have h0 := hj 0 (by omega); have h1 := hj 1 (by omega); omega
  · have h0 := hj 0 (by omega); have h1 := hj 1 (by omega); have h2 := hj 2 (by omega); omega
  · have h0 := hj 0 (by omega); have h1 := hj 1 (by omega); have h2 := hj 2 (by omega); have h3 := hj 3 (by omega); omega
  · have h0 := hj 0 (by omega); have h1 := hj 1 (by omega); have h2 := hj 2 (by omega); have h3 := hj 3 (by omega); have h4 := hj 4 (by omega); omega
  · have h0 := hj 0 (by omega); have h1 := hj 1 (by omega); have h2 := hj 2 (by omega); have h3 := hj 3 (by omega); have h4 := hj 4 (by omega); have h5 := hj 5 (by omega); omega

/-- the open chunk's place behind so many openings -/
def val (sq : Nat → Nat) : Nat → Nat
  | 0 => 0
  | j + 1 => sq j + 1

/-- which chunk one holds, that is not open yet -/
def Pl.held (i : Nat) : Pl → Prop
  | .opn _ j _ => j = i
  | .fre _ j _ => j = i
  | _ => False

/-- the chunk that was seen open, if any, is full -/
def Full (κ : Nat) (y : Y) (sq : Nat → Nat) (s : Nat) : Prop := ∀ j, s = j + 1 → 20 < (y.ck (sq j)).us + room κ

/-- what is true of one of the three: s how many openings it saw, t how many chunks it took, p how many steps it has at most -/
def Apt (κ : Nat) (y : Y) (o : Nat) (sq : Nat → Nat) (g s t p : Nat) : Pl → Prop
  | .see => t ≤ o ∧ 17 * (3 - o) + 3 * (3 - g) + 3 ≤ p
  | .ask i => ∃ j, j < o ∧ sq j = i ∧ s = j + 1 ∧ t ≤ s ∧ 17 * (3 - s) + 3 * (3 - g) + 2 ≤ p
  | .grow i c => ∃ j, j < o ∧ sq j = i ∧ s = j + 1 ∧ t ≤ s ∧ c.st = 1 ∧ c.cl = κ ∧ c.sp = (y.ck i).sp ∧ c.us ≤ (y.ck i).us ∧ c.us + room κ ≤ 20 ∧ 17 * (3 - s) + 3 * (3 - g) + 1 ≤ p ∧ (c.us < (y.ck i).us → 17 * (3 - s) + 3 * (3 - g) + 4 ≤ p)
  | .look sn i => i < 6 ∧ s ≤ o ∧ sn = val sq s ∧ Full κ y sq s ∧ t ≤ s ∧ (∀ j, j < i → (y.ck j).sp ≠ 0) ∧ 17 * (2 - s) + 3 * (3 - g) + 2 * (6 - i) + 6 ≤ p
  | .take sn i c => i < 6 ∧ s ≤ o ∧ sn = val sq s ∧ Full κ y sq s ∧ t ≤ s ∧ (∀ j, j < i → (y.ck j).sp ≠ 0) ∧ c.st = 0 ∧ c.sp ≤ (y.ck i).sp ∧ (c.sp = 0 → c = ⟨0, 0, 0, 0⟩) ∧ 17 * (2 - s) + 3 * (3 - g) + 2 * (6 - i) + 5 ≤ p
  | .opn sn i c => i < 6 ∧ s ≤ o ∧ sn = val sq s ∧ Full κ y sq s ∧ t ≤ s + 1 ∧ y.ck i = c ∧ c.st = 1 ∧ c.cl = κ ∧ c.us = 0 ∧ (∀ j, j < o → sq j ≠ i) ∧ 17 * (2 - s) + 3 * (3 - g) + 5 ≤ p
  | .fre sn i c => i < 6 ∧ s < o ∧ sn = val sq s ∧ Full κ y sq s ∧ t ≤ s + 1 ∧ y.ck i = c ∧ c.st = 1 ∧ c.cl = κ ∧ c.us = 0 ∧ (∀ j, j < o → sq j ≠ i) ∧ 17 * (2 - s) + 3 * (3 - g) + 4 ≤ p
  | .won _ _ => t = 0
  | .none => False

/-- what is true of the three, of the chunks, and of the openings so far -/
structure Fair (κ : Nat) (y : Y) (τ : Nat → Pl) (o : Nat) (sq : Nat → Nat) (g W : Nat) (s t P : Nat → Nat) : Prop where
  op : y.op κ = val sq o
  o2 : ∀ j, j < o → sq j < 6 ∧ (y.ck (sq j)).st = 1 ∧ (y.ck (sq j)).cl = κ
  o3 : ∀ i j, i < o → j < o → sq i = sq j → i = j
  o4 : ∀ j, j + 1 < o → 20 < (y.ck (sq j)).us + room κ
  o5 : o ≤ g + 1
  o6 : ∀ j, j + 1 = o → (y.ck (sq j)).us ≠ 0 → o ≤ g
  cU : ∀ i, i < 6 → (y.ck i).st = 0 → (y.ck i).us = 0
  cS : ∀ i, i < 6 → (y.ck i).st = 0 ∨ (∃ j, j < o ∧ sq j = i) ∨ ∃ X, X < 3 ∧ (τ X).held i
  cZ : ∀ i, i < 6 → (y.ck i).sp = 0 → y.ck i = ⟨0, 0, 0, 0⟩
  th : ∀ X, X < 3 → Apt κ y o sq g (s X) (t X) (P X) (τ X)
  hd : ∀ X Z, X < 3 → Z < 3 → X ≠ Z → ∀ i, (τ X).held i → ¬ (τ Z).held i
  gw : g = sum3 (fun X => wn (τ X))
  w2 : 2 * W ≤ g * (g + 1)
  cn : sum6 (n1Of y) ≤ W + sum3 t
  us : sum6 (usOf y) = g * room κ

section
variable {κ : Nat} {y y' : Y} {o o' g g' : Nat} {sq sq' : Nat → Nat} {s t p : Nat} {τ : Pl}

theorem val_same (h : ∀ j, j < o → sq' j = sq j) (hs : s ≤ o) : val sq' s = val sq s := by
  cases s with
  | zero => rfl
  | succ j => simp only [val]; rw [h j (by omega)]

theorem Full.mono (h : Full κ y sq s) (hs : s ≤ o) (h2 : ∀ j, j < o → sq' j = sq j) (h3 : ∀ j, j < o → (y.ck (sq j)).us ≤ (y'.ck (sq j)).us) : Full κ y' sq' s := fun j e => by
  have h1 := h j e
  have h4 := h3 j (by omega)
  rw [h2 j (by omega)]
  omega

/-- what stays true of one, while another one does a step -/
theorem Apt.mono (f : Apt κ y o sq g s t p τ) (h1 : o ≤ o') (h2 : ∀ j, j < o → sq' j = sq j) (h3 : ∀ j, j < o → (y'.ck (sq j)).sp = (y.ck (sq j)).sp ∧ (y.ck (sq j)).us ≤ (y'.ck (sq j)).us) (h4 : ∀ i, (y.ck i).sp ≤ (y'.ck i).sp) (h5 : (g' = g ∧ ∀ j, j < o → (y'.ck (sq j)).us = (y.ck (sq j)).us) ∨ (g' = g + 1 ∧ g < 3)) (h6 : ∀ i, τ.held i → y'.ck i = y.ck i ∧ ∀ j, j < o' → sq' j ≠ i) : Apt κ y' o' sq' g' s t p τ := by
  have hg : g ≤ g' := by rcases h5 with h | h <;> omega
  cases τ with
  | see => exact ⟨by have := f.1; omega, by have := f.2; omega⟩
  | ask i =>
    obtain ⟨j, a1, a2, a3, a4, a5⟩ := f
    exact ⟨j, by omega, by rw [h2 j a1]; exact a2, a3, a4, by omega⟩
  | grow i c =>
    obtain ⟨j, a1, a2, a3, a4, a5, a6, a7, a8, a9, a10, a11⟩ := f
    have b3 := h3 j a1
    rw [a2] at b3
    refine ⟨j, by omega, by rw [h2 j a1]; exact a2, a3, a4, a5, a6, by rw [b3.1]; exact a7, by omega, a9, by omega, fun hlt => ?_⟩
    rcases h5 with ⟨e, h5⟩ | ⟨e, hg3⟩
    · have b5 := h5 j a1
      rw [a2] at b5
      have := a11 (by omega)
      omega
    · omega
  | look sn i =>
    obtain ⟨a1, a2, a3, a4, a5, a6, a7⟩ := f
    exact ⟨a1, by omega, by rw [val_same h2 a2]; exact a3, a4.mono a2 h2 (fun j hj => (h3 j hj).2), a5, fun j hj => by have := a6 j hj; have := h4 j; omega, by omega⟩
  | take sn i c =>
    obtain ⟨a1, a2, a3, a4, a5, a6, a7, a8, a9, a10⟩ := f
    exact ⟨a1, by omega, by rw [val_same h2 a2]; exact a3, a4.mono a2 h2 (fun j hj => (h3 j hj).2), a5, fun j hj => (by have := a6 j hj; have := h4 j; omega), a7, by have := h4 i; omega, a9, by omega⟩
  | opn sn i c =>
    obtain ⟨a1, a2, a3, a4, a5, a6, a7, a8, a9, a10, a11⟩ := f
    obtain ⟨b1, b2⟩ := h6 i rfl
    exact ⟨a1, by omega, by rw [val_same h2 a2]; exact a3, a4.mono a2 h2 (fun j hj => (h3 j hj).2), a5, b1.trans a6, a7, a8, a9, b2, by omega⟩
  | fre sn i c =>
    obtain ⟨a1, a2, a3, a4, a5, a6, a7, a8, a9, a10, a11⟩ := f
    obtain ⟨b1, b2⟩ := h6 i rfl
    exact ⟨a1, by omega, by rw [val_same h2 (by omega)]; exact a3, a4.mono (Nat.le_of_lt a2) h2 (fun j hj => (h3 j hj).2), a5, b1.trans a6, a7, a8, a9, b2, by omega⟩
  | won a i => exact f
  | none => exact f
end

section
variable {κ : Nat} {y : Y} {τ : Nat → Pl} {o : Nat} {sq : Nat → Nat} {g W : Nat} {s t P : Nat → Nat} {X : Nat}

theorem th_put {y' : Y} {o' g' s' t' p' : Nat} {sq' : Nat → Nat} {τ' : Pl} (hA : Apt κ y' o' sq' g' s' t' p' τ') (hm : ∀ Z, Z < 3 → Z ≠ X → Apt κ y' o' sq' g' (s Z) (t Z) (P Z) (τ Z)) : ∀ Z, Z < 3 → Apt κ y' o' sq' g' (upd s X s' Z) (upd t X t' Z) (upd P X p' Z) (upd τ X τ' Z) := fun Z hZ => by
  by_cases e : Z = X
  · subst e; rw [upd_same, upd_same, upd_same, upd_same]; exact hA
  · rw [upd_other _ _ _ _ e, upd_other _ _ _ _ e, upd_other _ _ _ _ e, upd_other _ _ _ _ e]; exact hm Z hZ e

theorem hd_put (f : ∀ X Z, X < 3 → Z < 3 → X ≠ Z → ∀ i, (τ X).held i → ¬ (τ Z).held i) {τ' : Pl} (h : ∀ i, τ'.held i → ∀ Z, Z < 3 → Z ≠ X → ¬ (τ Z).held i) : ∀ A B, A < 3 → B < 3 → A ≠ B → ∀ i, (upd τ X τ' A).held i → ¬ (upd τ X τ' B).held i := fun A B hA hB hne i => by
  by_cases eA : A = X
  · subst eA
    rw [upd_same, upd_other _ _ _ _ (Ne.symm hne)]
    exact fun h1 => h i h1 B hB (Ne.symm hne)
  · rw [upd_other _ _ _ _ eA]
    by_cases eB : B = X
    · subst eB
      rw [upd_same]
      exact fun h1 h2 => h i h2 A hA eA h1
    · rw [upd_other _ _ _ _ eB]
      exact f A B hA hB hne i

namespace Fair

/-- nothing but one of the three is another one -/
theorem same (f : Fair κ y τ o sq g W s t P) (hX : X < 3) (τ' : Pl) (s' : Nat) (hA : Apt κ y o sq g s' (t X) (P X - 1) τ') (hh : ∀ i, τ'.held i ↔ (τ X).held i) (hw : wn τ' = wn (τ X)) : Fair κ y (upd τ X τ') o sq g W (upd s X s') t (upd P X (P X - 1)) := by
  refine ⟨f.op, f.o2, f.o3, f.o4, f.o5, f.o6, f.cU, fun i hi => ?_, f.cZ, ?_, hd_put f.hd (fun i h Z hZ hne => f.hd X Z hX hZ (Ne.symm hne) i ((hh i).1 h)), ?_, f.w2, f.cn, f.us⟩
  · rcases f.cS i hi with h | h | ⟨Z, hZ, h⟩
    · exact .inl h
    · exact .inr (.inl h)
    · refine .inr (.inr ⟨Z, hZ, ?_⟩)
      by_cases e : Z = X
      · subst e; rw [upd_same]; exact (hh i).2 h
      · rw [upd_other _ _ _ _ e]; exact h
  · have := th_put (X := X) (t := t) (t' := t X) (τ := τ) (s := s) (P := P) hA (fun Z hZ _ => f.th Z hZ)
    rwa [upd_id] at this
  · rw [wn_put, hw, upd_id (fun X => wn (τ X)) X]
    exact f.gw

/-- who saw so many openings, the last of which is full: as many got words -/
theorem sg (f : Fair κ y τ o sq g W s t P) {x : Nat} (hs : x ≤ o) (hf : Full κ y sq x) : x ≤ g := by
  have h5 := f.o5
  cases x with
  | zero => exact Nat.zero_le _
  | succ j =>
    have h1 := hf j rfl
    have hr := room_bd κ
    by_cases e : j + 1 = o
    · have := f.o6 j e (by omega)
      omega
    · omega

theorem wn_bd (τ : Pl) : wn τ = 0 ∧ τ.over = false ∨ wn τ = 1 ∧ τ.over = true := by
  unfold wn
  cases τ.over with
  | false => exact .inl ⟨rfl, rfl⟩
  | true => exact .inr ⟨rfl, rfl⟩

/-- how many chunks each one took -/
theorem tle (f : Fair κ y τ o sq g W s t P) (hX : X < 3) : wn (τ X) = 0 ∧ t X ≤ g + 1 ∨ wn (τ X) = 1 ∧ t X = 0 := by
  have h5 := f.o5
  have a := f.th X hX
  cases hτ : τ X with
  | see => rw [hτ] at a; exact .inl ⟨rfl, by have := a.1; omega⟩
  | ask i => rw [hτ] at a; obtain ⟨j, a1, a2, a3, a4, a5⟩ := a; exact .inl ⟨rfl, by omega⟩
  | grow i c => rw [hτ] at a; obtain ⟨j, a1, a2, a3, a4, a5⟩ := a; exact .inl ⟨rfl, by omega⟩
  | look sn i => rw [hτ] at a; obtain ⟨a1, a2, a3, a4, a5, a6⟩ := a; exact .inl ⟨rfl, by omega⟩
  | take sn i c => rw [hτ] at a; obtain ⟨a1, a2, a3, a4, a5, a6⟩ := a; exact .inl ⟨rfl, by omega⟩
  | opn sn i c => rw [hτ] at a; obtain ⟨a1, a2, a3, a4, a5, a6⟩ := a; have := f.sg a2 a4; exact .inl ⟨rfl, by omega⟩
  | fre sn i c => rw [hτ] at a; obtain ⟨a1, a2, a3, a4, a5, a6⟩ := a; have := f.sg (Nat.le_of_lt a2) a4; exact .inl ⟨rfl, by omega⟩
  | won b i => rw [hτ] at a; exact .inr ⟨rfl, a⟩
  | none => rw [hτ] at a; exact a.elim

theorem wle (f : Fair κ y τ o sq g W s t P) : (g = 0 → W = 0) ∧ (g = 1 → W ≤ 1) ∧ (g = 2 → W ≤ 3) := by
  have h := f.w2
  refine ⟨fun e => ?_, fun e => ?_, fun e => ?_⟩ <;> rw [e] at h <;> omega

/-- while one is not done: at most two got words -/
theorem gle (f : Fair κ y τ o sq g W s t P) (hX : X < 3) (ho : (τ X).over = false) : g ≤ 2 := by
  have h := f.gw
  have h0 : wn (τ X) = 0 := by rcases wn_bd (τ X) with h | h; exact h.1; rw [ho] at h; cases h.2
  simp only [sum3] at h
  have b0 := wn_bd (τ 0)
  have b1 := wn_bd (τ 1)
  have b2 := wn_bd (τ 2)
  have : X = 0 ∨ X = 1 ∨ X = 2 := by omega
  rcases this with rfl | rfl | rfl <;> omega

/-- while one looks at chunks: at most five were ever taken -/
theorem few (f : Fair κ y τ o sq g W s t P) (hX : X < 3) (ho : (τ X).over = false) (ht : t X ≤ g) : sum6 (n1Of y) ≤ 5 := by
  have hg := f.gle hX ho
  have h := f.gw
  have hc := f.cn
  obtain ⟨w0, w1, w2⟩ := f.wle
  have h0 : wn (τ X) = 0 := by rcases wn_bd (τ X) with h | h; exact h.1; rw [ho] at h; cases h.2
  have t0 := f.tle (X := 0) (by omega)
  have t1 := f.tle (X := 1) (by omega)
  have t2 := f.tle (X := 2) (by omega)
  simp only [sum3] at h hc
  have hgs : g = 0 ∨ g = 1 ∨ g = 2 := by omega
  have : X = 0 ∨ X = 1 ∨ X = 2 := by omega
  rcases this with rfl | rfl | rfl <;> rcases hgs with e | e | e <;> omega
end Fair
end

end Go.Proofs.Ytbhjokfgajjoiaa
