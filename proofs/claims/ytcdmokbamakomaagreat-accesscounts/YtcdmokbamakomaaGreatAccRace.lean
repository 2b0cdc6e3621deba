/- Several who lay the word of one object at the same time, told without a program: one of those who exchange it does; of those who lay it the last one's value is there. -/
import Derived.Test.YtcdmokbamakomaaGreatAccTeam
import Derived.Test.YtcdmokbamakomaaGreatAccAwake
namespace Go.Proofs.YtcdmokbamakomaaGreat
open Go.RowKit

/-- what one of them wants -/
def wtN (kd : Int) (a : Nat) : Wt := ⟨kd, 65536, 0, 10 + (a : Int), 0⟩

/-- how often one of N is picked from 150 on -/
def cntA (N a : Nat) : Nat → Nat
  | 0 => 0
  | i + 1 => cntA N a i + (if 150 ≤ i ∧ i % N = a then 1 else 0)

theorem cntA_300 : ∀ N, N < 5 → ∀ a, a < N → 15 ≤ cntA N a 300 := by decide +kernel
theorem cntA_400 : ∀ N, N < 5 → ∀ a, a < N → 25 ≤ cntA N a 400 := by decide +kernel

theorem reads3 {a : Nat} {c : Int} (h : Val c) : (wtN 3 a).reads c = decide (c ≠ 0) := by
  unfold Wt.reads Wt.other wtN
  simp only [show ¬ (3 : Int) = 1 by decide, decide_false, Bool.false_or, decide_true, Bool.true_and, vOf_val h.1 h.2]
theorem other3 {a : Nat} {c : Int} (h : Val c) : (wtN 3 a).other c = decide (c ≠ 0) := by
  unfold Wt.other wtN
  simp only [decide_true, Bool.true_and, vOf_val h.1 h.2]
theorem reads2 {a : Nat} {c : Int} : (wtN 2 a).reads c = false := by
  unfold Wt.reads Wt.other wtN
  simp

theorem wtN_ok {kd : Int} (h : kd = 2 ∨ kd = 3) (a : Nat) (ha : a < 4) : (wtN kd a).ok := ⟨Or.inr h, by show -9223372036854775808 ≤ 10 + (a : Int); omega, by show 10 + (a : Int) ≤ 9223372036854775807; omega⟩
theorem wtN_val {kd : Int} (a : Nat) (ha : a < 4) : Val (wtN kd a).vl := ⟨by show 0 ≤ 10 + (a : Int); omega, by show 10 + (a : Int) ≤ 1099511627775; omega⟩

/-- they are there, and what each does -/
structure Race (kd : Int) (v : Int) (q : Q) (c : Int) (N : Nat) (ps : Nat → Ac) : Prop where
  s : Cell1 4 4 2 20 0 1 v q c
  th : ∀ a, a < N → AcTh (wtN kd a) v (ps a)

theorem Race.step {kd v c : Int} {q q' : Q} {N K σ : Nat} {ps : Nat → Ac} {α' : Ac} (R : Race kd v q c N ps) (hK : K < N) (hN : N ≤ 4) (ho : (ps K).over? = false) (ht : acTurn (wtN kd K) false 0 1 σ q (ps K) = (q', α')) :
    (ps K).good 4 4 2 20 (wtN kd K) 0 1 q ∧ ∃ c', Race kd v q' c' N (upd ps K α') ∧ Mv (wtN kd K) v σ c (ps K) c' α' := by
  obtain ⟨g, T, c', S, M⟩ := cell1_step R.s rfl (wtN_val K (by omega)) (R.th K hK) ho ht
  refine ⟨g, c', ⟨S, fun a ha => ?_⟩, M⟩
  by_cases e : a = K
  · subst e; rw [upd_same]; exact T
  · rw [upd_other _ _ _ _ e]; exact R.th a ha

/-- how many steps one has, if nobody else lays -/
def rk1 : Ac → Nat
  | .see => 4
  | .ask _ _ => 3
  | .load _ _ => 2
  | .lay _ _ => 1
  | _ => 0

/-- who is on the way to lay -/
def Ac.fresh : Ac → Bool
  | .see => true
  | .ask _ _ => true
  | .load _ _ => true
  | .lay _ _ => true
  | _ => false

/-- so far: none did, or one; what is there -/
def OneI (N : Nat) (ps : Nat → Ac) (c : Int) (W : Nat) (y : Int) (r : Nat) : Prop :=
  (W = 0 ∧ c = 0 ∧ y = 0 ∧ ∀ a, a < N → (ps a).fresh = true ∧ rk1 (ps a) + cntA N a r ≤ 4) ∨ (W = 1 ∧ c ≠ 0 ∧ y = c)

theorem rk1_pos {α : Ac} (h : α.fresh = true) : 1 ≤ rk1 α := by
  cases α <;> first | (cases h; done) | (simp [rk1]; done)

theorem OneI.skip {N : Nat} {ps : Nat → Ac} {c y : Int} {W r K : Nat} (h : OneI N ps c W y r) (hK : K < N) (ho : (ps K).over? = true) : OneI N ps c W y (r + 1) := by
  rcases h with ⟨_, _, _, h⟩ | h
  · have := (h K hK).1
    cases e : ps K with
    | over => rw [e] at this; cases this
    | _ => rw [e] at ho; cases ho
  · exact Or.inr h

theorem OneI.step {v c y : Int} {N K σ W r : Nat} {ps : Nat → Ac} {α' : Ac} {c' : Int} (h : OneI N ps c W y r) (hK : K < N) (hc : Val c) (M : Mv (wtN 3 K) v σ c (ps K) c' α') (T : AcTh (wtN 3 K) v (ps K)) (h1 : ∀ a, a ≠ K → cntA N a (r + 1) = cntA N a r) (h2 : cntA N K (r + 1) ≤ cntA N K r + 1) :
    (α'.over? = false ∧ OneI N (upd ps K α') c' W y (r + 1)) ∨ (W = 0 ∧ (∃ st, α' = .over 0 0 st) ∧ OneI N (upd ps K α') c' 1 (10 + (K : Int)) (r + 1)) ∨ (W = 1 ∧ (∃ val st, α' = .over 8 val st) ∧ OneI N (upd ps K α') c' 1 y (r + 1)) := by
  rcases h with ⟨rfl, rfl, rfl, h⟩ | ⟨rfl, hc0, hy⟩
  · have on : ∀ β : Ac, β.fresh = true → rk1 β + 1 ≤ rk1 (ps K) → OneI N (upd ps K β) 0 0 0 (r + 1) := fun β hf hr => Or.inl ⟨rfl, rfl, rfl, fun a ha => by
      by_cases e : a = K
      · subst e
        rw [upd_same]
        have := (h a ha).2
        exact ⟨hf, by omega⟩
      · rw [upd_other _ _ _ _ e, h1 a e]; exact h a ha⟩
    have fK := (h K hK).1
    generalize hp : ps K = α at M T fK on
    cases M with
    | see => exact Or.inl ⟨rfl, on _ rfl (by simp [rk1])⟩
    | ask a => exact Or.inl ⟨rfl, on _ rfl (by simp [rk1])⟩
    | check hr => rw [reads3 hc] at hr; simp at hr
    | lay hr => exact Or.inl ⟨rfl, on _ rfl (by simp [rk1])⟩
    | told c0 ld h0 hr => cases fK
    | laid hr => exact Or.inr (Or.inl ⟨rfl, ⟨_, rfl⟩, Or.inr ⟨rfl, by show (10 : Int) + (K : Int) ≠ 0; omega, rfl⟩⟩)
    | vain c0 hne hr =>
      have hv := T.2.1
      rw [reads3 hv] at hr
      simp at hr
      exact absurd hr hne
  · have on : ∀ β : Ac, OneI N (upd ps K β) c 1 y (r + 1) := fun β => Or.inr ⟨rfl, hc0, hy⟩
    generalize hp : ps K = α at M T on
    cases M with
    | see => exact Or.inl ⟨rfl, on _⟩
    | ask a => exact Or.inl ⟨rfl, on _⟩
    | check hr => exact Or.inl ⟨rfl, on _⟩
    | lay hr => rw [reads3 hc] at hr; simp at hr; exact absurd hr hc0
    | told c0 ld h0 hr =>
      have ho := other3 (a := K) h0
      rw [reads3 h0] at hr
      rw [hr] at ho
      rw [ho, if_pos rfl]
      exact Or.inr (Or.inr ⟨rfl, ⟨_, _, rfl⟩, on _⟩)
    | laid hr => rw [reads3 hc] at hr; simp at hr; exact absurd hr hc0
    | vain c0 hne hr => exact Or.inl ⟨rfl, on _⟩

theorem OneI.end {N : Nat} {ps : Nat → Ac} {c y : Int} {W : Nat} (h : OneI N ps c W y 300) (h1 : 1 ≤ N) (hN : N ≤ 4) : W = 1 ∧ y = c := by
  rcases h with ⟨_, _, _, h⟩ | ⟨h, _, h'⟩
  · have := h 0 (by omega)
    have := cntA_300 N (by omega) 0 (by omega)
    have := rk1_pos (h 0 (by omega)).1
    omega
  · exact ⟨h, h'⟩

/-- how many are done -/
def nOv (ps : Nat → Ac) : Nat → Nat
  | 0 => 0
  | a + 1 => nOv ps a + (if (ps a).over? then 1 else 0)

theorem nOv_le (ps : Nat → Ac) (N : Nat) : nOv ps N ≤ N := by
  induction N with
  | zero => exact Nat.le_refl _
  | succ n ih => unfold nOv; split <;> omega
theorem nOv_out {ps : Nat → Ac} {N K : Nat} (h : N ≤ K) (α : Ac) : nOv (upd ps K α) N = nOv ps N := by
  induction N with
  | zero => rfl
  | succ n ih =>
    unfold nOv
    rw [ih (by omega), upd_other _ _ _ _ (by omega)]
theorem nOv_same {ps : Nat → Ac} {N K : Nat} {α : Ac} (e : α.over? = (ps K).over?) : nOv (upd ps K α) N = nOv ps N := by
  induction N with
  | zero => rfl
  | succ n ih =>
    unfold nOv
    rw [ih]
    by_cases h : n = K
    · subst h; rw [upd_same, e]
    · rw [upd_other _ _ _ _ h]
theorem nOv_more {ps : Nat → Ac} {N K : Nat} {α : Ac} (hK : K < N) (h0 : (ps K).over? = false) (h1 : α.over? = true) : nOv (upd ps K α) N = nOv ps N + 1 := by
  induction N with
  | zero => omega
  | succ n ih =>
    unfold nOv
    by_cases h : n = K
    · subst h
      rw [nOv_out (Nat.le_refl _), upd_same, h0, h1]
      simp
    · rw [ih (by omega), upd_other _ _ _ _ h]; omega
theorem nOv_lt {ps : Nat → Ac} {N K : Nat} (hK : K < N) (h0 : (ps K).over? = false) : nOv ps N < N := by
  have h := nOv_more (α := .over 0 0 0) hK h0 rfl
  have := nOv_le (upd ps K (.over 0 0 0)) N
  omega

def rk2 (c : Int) : Ac → Nat
  | .see => 4
  | .ask _ _ => 3
  | .load _ _ => 2
  | .lay _ c0 => if c0 = c then 1 else 5
  | _ => 0

theorem rk2_le (c c' : Int) (α : Ac) : rk2 c' α ≤ rk2 c α + 4 := by
  cases α with
  | lay v c0 =>
    show (if c0 = c' then 1 else 5) ≤ (if c0 = c then 1 else 5) + 4
    split <;> split <;> omega
  | _ => simp [rk2]

/-- all of them are done in the end -/
def LastI (N : Nat) (ps : Nat → Ac) (c : Int) (r : Nat) : Prop := ∀ a, a < N → (ps a).over? = true ∨ rk2 c (ps a) + 4 * (N - nOv ps N) + cntA N a r ≤ 4 * N + 4

theorem LastI.skip {N : Nat} {ps : Nat → Ac} {c : Int} {r K : Nat} (h : LastI N ps c r) (ho : (ps K).over? = true) (h1 : ∀ a, a ≠ K → cntA N a (r + 1) = cntA N a r) : LastI N ps c (r + 1) := fun a ha => by
  by_cases e : a = K
  · subst e; exact Or.inl ho
  · rw [h1 a e]; exact h a ha

theorem LastI.step {v c : Int} {N K σ r : Nat} {ps : Nat → Ac} {α' : Ac} {c' : Int} (h : LastI N ps c r) (hK : K < N) (ho : (ps K).over? = false) (M : Mv (wtN 2 K) v σ c (ps K) c' α') (h1 : ∀ a, a ≠ K → cntA N a (r + 1) = cntA N a r) (h2 : cntA N K (r + 1) ≤ cntA N K r + 1) :
    LastI N (upd ps K α') c' (r + 1) ∧ ((α'.over? = false ∧ c' = c) ∨ (α' = .over 0 c (σ + 1) ∧ c' = 10 + (K : Int))) := by
  have hKK : rk2 c (ps K) + 4 * (N - nOv ps N) + cntA N K r ≤ 4 * N + 4 := (h K hK).resolve_left (by rw [ho]; simp)
  have on : ∀ β : Ac, β.over? = false → rk2 c β + 1 ≤ rk2 c (ps K) → LastI N (upd ps K β) c (r + 1) := fun β hb hr a ha => by
    rw [nOv_same (by rw [hb, ho])]
    by_cases e : a = K
    · subst e
      rw [upd_same]
      exact Or.inr (by omega)
    · rw [upd_other _ _ _ _ e, h1 a e]; exact h a ha
  have done : ∀ (β : Ac) (c1 : Int), β.over? = true → LastI N (upd ps K β) c1 (r + 1) := fun β c1 hb a ha => by
    have lt := nOv_lt hK ho
    rw [nOv_more hK ho hb]
    by_cases e : a = K
    · subst e; rw [upd_same]; exact Or.inl hb
    · rw [upd_other _ _ _ _ e, h1 a e]
      rcases h a ha with h | h
      · exact Or.inl h
      · have := rk2_le c c1 (ps a)
        exact Or.inr (by omega)
  generalize hp : ps K = α at M on
  cases M with
  | see => exact ⟨on _ rfl (by simp [rk2]), Or.inl ⟨rfl, rfl⟩⟩
  | ask a => exact ⟨on _ rfl (by simp [rk2]), Or.inl ⟨rfl, rfl⟩⟩
  | check hr => rw [reads2] at hr; cases hr
  | lay hr => exact ⟨on _ rfl (by simp [rk2]), Or.inl ⟨rfl, rfl⟩⟩
  | told c0 ld h0 hr => rw [reads2] at hr; cases hr
  | laid hr => exact ⟨done _ _ rfl, Or.inr ⟨rfl, rfl⟩⟩
  | vain c0 hne hr => exact ⟨on _ rfl (by simp [rk2, hne]), Or.inl ⟨rfl, rfl⟩⟩

theorem LastI.end {N : Nat} {ps : Nat → Ac} {c : Int} (h : LastI N ps c 400) (hN : N ≤ 4) : ∀ a, a < N → (ps a).over? = true := fun a ha => by
  rcases h a ha with h | h
  · exact h
  · have := cntA_400 N (by omega) a ha
    omega

/-- which one of so many is picked -/
theorem pickA (z : Int) (N : Nat) (h0 : 1 ≤ N) : ∃ K : Nat, (z.tmod N + N).tmod N = (K : Int) ∧ K < N ∧ -(N : Int) < z.tmod N ∧ z.tmod N < N := by
  have h1 : -(N : Int) < z.tmod N := Int.lt_tmod_of_pos z (by omega)
  have h3 : z.tmod N < N := Int.tmod_lt_of_pos z (by omega)
  have h4 := Int.emod_nonneg (z.tmod N + N) (b := (N : Int)) (by omega)
  have h5 := Int.emod_lt_of_pos (z.tmod N + N) (b := (N : Int)) (by omega)
  exact ⟨((z.tmod N + N) % N).toNat, by rw [Int.tmod_eq_emod_of_nonneg (by omega)]; omega, by omega, h1, h3⟩
theorem remA (i N : Nat) : ((i : Int).tmod N) = ((i % N : Nat) : Int) := by
  rw [Int.tmod_eq_emod_of_nonneg (by omega)]; rfl

/-- the first object of the arena, of one word -/
def oxW : Ox := ⟨0, 1, base 4 4 2 20 0, 0, 0, 1, 0, false⟩
def qW : Q := (Q.new 4).made 0 [1, 2, 3] y1 (base 4 4 2 20 0) 0 0 1 false

theorem word_make {w0 w : World} {L : Loc} {bE σ : Nat} {s : Mm} (f : Farm w0 w L bE 4 4 2 20 100 s σ (Q.new 4) 0 (fun _ => 1) []) (a : FarmApart w0 L bE 4 4 2 20 100) (hσ : σ + 400 < 1000000) :
    Calls Tryz.prog 11 #[.agg #[.int .i64 4, .int .i64 4, .int .i64 2, .int .i64 20, .int .i64 100, .int .i64 600, .int .i64 3, .pointer (some ⟨L.p, 0, none⟩), .int .i64 0], .int .i64 1, .bool false] w fun e w' => ∃ (st : Nat) (s' : Mm) (σ' : Nat), e = .returned (.agg #[.int .i64 0, .int .u64 65536, .int .i64 0, .int .i64 st]) ∧ σ' ≤ σ + 100 ∧ Farm w0 w' L bE 4 4 2 20 100 s' σ' qW 1 (fun _ => 1) ([] ++ oxW :: []) := by
  have g : Got 2 20 0 (base 4 4 2 20) (Q.new 4).y 0 y1 (0 + 1) (.won (base 4 4 2 20 0) 0) := .new (fun i h => by simp [Q.new, Y.new] at h) (by decide)
  have k := f.ok (own := false) a (Z := 1) (κ := 0) (by decide) (by decide) rfl (by decide) (x := 0) (F := [1, 2, 3]) rfl g hσ
  rw [show packH ((0 : Nat) : Int) (((fun _ => 1) 0 : Nat) : Int) = 65536 from packH01] at k
  refine k.mono ?_
  rintro e w' ⟨st, s', σ', rfl, -, -, h3, f', o'⟩
  exact ⟨st, s', σ', rfl, h3, f'⟩

theorem word_cell {w0 w : World} {L : Loc} {bE σ : Nat} {s : Mm} (f : Farm w0 w L bE 4 4 2 20 100 s σ qW 1 (fun _ => 1) ([] ++ oxW :: [])) : Cell1 4 4 2 20 0 1 (qW.sw 0) qW 0 := by
  have ho : oxW ∈ [] ++ oxW :: [] := by simp
  have S := f.tm.scn goodA (by decide) ho
  have I := f.tm.is goodA (by decide) ho
  have A := f.tm.li oxW ho
  refine ⟨S, ?_, ⟨Int.le_refl _, by decide⟩⟩
  rw [show adOf (qW.sw 0) = oxW.a from I.ad]
  exact A.nt 1 (by decide) (by decide)

theorem four10 (a : Value) (i : Nat) (hi : i < 4) : (#[a, a, a, a] : Array Value)[i]? = some a := by
  have : i = 0 ∨ i = 1 ∨ i = 2 ∨ i = 3 := by omega
  rcases this with rfl | rfl | rfl | rfl <;> rfl

end Go.Proofs.YtcdmokbamakomaaGreat
