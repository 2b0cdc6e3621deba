/- Three who make objects, whoever is picked: what is true at each round (no program in it). -/
import Derived.Test.YtemembcefplgcaaAllocSite
namespace Go.Proofs.Ytemembcefplgcaa
open Go.RowKit

theorem Tk.good_more {n c c' : Nat} {lk lk' : Nat → Nat} {F F' : List Nat} {τ : Tk} (h : τ.good n c lk F) (hc : c < c') : τ.good n c' lk' F' := by
  cases τ with
  | idle => trivial
  | saw x c0 => exact ⟨h.1, by have := h.2.1; omega, fun e => by have := h.2.1; omega⟩
  | lnk x c0 q => exact ⟨h.1, h.2.1, by have := h.2.2.1; omega, fun e => by have := h.2.2.1; omega⟩
  | won x => exact h
  | none => trivial

theorem Gv.good_more {n c c' : Nat} {lk : Nat → Nat} {F F' : List Nat} {x : Nat} {γ : Gv} (h : γ.good n c lk F x) (hc : c < c') : γ.good n c' lk F' x := by
  cases γ with
  | idle => trivial
  | saw q c0 => exact ⟨h.1, by have := h.2.1; omega, fun e => by have := h.2.1; omega⟩
  | lnk q c0 => exact ⟨h.1, h.2.1, by have := h.2.2.1; omega, fun e => by have := h.2.2.1; omega⟩
  | over => trivial

theorem Tk.good_lay {n c : Nat} {lk : Nat → Nat} {F : List Nat} {τ : Tk} (h : τ.good n c lk F) {x : Nat} (hx : x ∉ F) (q : Nat) : τ.good n c (upd lk x q) F := by
  cases τ with
  | idle => trivial
  | saw y c0 => exact h
  | lnk y c0 q' =>
    refine ⟨h.1, h.2.1, h.2.2.1, fun e => ⟨(h.2.2.2 e).1, ?_⟩⟩
    have hy : y ∈ F := by
      have := (h.2.2.2 e).1
      cases F with
      | nil => simp [hd] at this
      | cons z F => simp [hd] at this; subst this; simp
    rw [upd_other lk x y q (fun e' => hx (by rw [← e']; exact hy))]
    exact (h.2.2.2 e).2
  | won x => exact h
  | none => trivial

theorem Gv.good_lay {n c : Nat} {lk : Nat → Nat} {F : List Nat} {y : Nat} {γ : Gv} (h : γ.good n c lk F y) {x : Nat} (hx : y ≠ x) (q : Nat) : γ.good n c (upd lk x q) F y := by
  cases γ with
  | idle => trivial
  | saw q' c0 => exact h
  | lnk q' c0 => exact ⟨h.1, by rw [upd_other _ _ _ _ hx]; exact h.2.1, h.2.2⟩
  | over => trivial

/-- the slot that one has -/
def Al.has (x : Nat) : Al → Prop
  | .ask y => y = x
  | .place y _ _ => y = x
  | .count y _ _ _ => y = x
  | .head y _ _ _ => y = x
  | .shw y _ _ _ => y = x
  | .ready y _ _ _ _ => y = x
  | .give y _ _ => y = x
  | _ => False

def Al.g : Al → Nat
  | .take _ => 0
  | .over _ _ _ => 0
  | _ => 1

/-- the place of one's head -/
def Al.at? (d : Nat) : Al → Prop
  | .count _ _ a _ => a = d
  | .head _ _ a _ => a = d
  | .shw _ _ a _ => a = d
  | .ready _ _ a _ _ => a = d
  | _ => False

/-- the words of an object that is made with a slot: in a chunk of the class, and its own -/
structure Lot (n : Nat) (q : Q) (ow : Nat → Nat) (κ x a i : Nat) : Prop where
  ik : i < 6
  ex : ∃ u, a = base 4 n 6 20 i + u ∧ u + room κ ≤ (q.y.ck i).us
  st : (q.y.ck i).st = 1
  cl : (q.y.ck i).cl = κ
  ow : ∀ d, a ≤ d → d < a + room κ → ow d = x + 1

def Al.snd (n : Nat) (q : Q) (ow : Nat → Nat) (κ : Nat) : Al → Prop
  | .take _ => True
  | .ask x => q.sw x = 8388608
  | .place x g _ => q.sw x = 8388608 ∧ g = 1
  | .count x g a i => q.sw x = 8388608 ∧ g = 1 ∧ Lot n q ow κ x a i
  | .head x g a i => q.sw x = 8388608 ∧ g = 1 ∧ Lot n q ow κ x a i
  | .shw x g a i => q.sw x = 8388608 ∧ g = 1 ∧ Lot n q ow κ x a i
  | .ready x g a i _ => q.sw x = packS 1 a 1 0 ∧ g = 1 ∧ Lot n q ow κ x a i
  | .give x _ _ => q.sw x = 8388608
  | .over _ _ _ => True

/-- a step at the slots, as others see it who have no x -/
structure Shift (n x : Nat) (q q' : Q) : Prop where
  tk : ∀ τ : Tk, τ.good n q.c q.lk q.F → τ.good n q'.c q'.lk q'.F
  gv : ∀ (y : Nat) (γ : Gv), y ≠ x → γ.good n q.c q.lk q.F y → γ.good n q'.c q'.lk q'.F y
  nf : ∀ y, y ≠ x → y ∉ q.F → y ∉ q'.F

theorem Shift.same (n x : Nat) {q q' : Q} (h1 : q'.c = q.c) (h2 : q'.lk = q.lk) (h3 : q'.F = q.F) : Shift n x q q' :=
  ⟨fun τ h => by rw [h1, h2, h3]; exact h, fun y γ _ h => by rw [h1, h2, h3]; exact h, fun y _ h => by rw [h3]; exact h⟩

/-- what one knows who was not picked -/
theorem Al.good_other {n σ κ x : Nat} {q q' : Q} (S : Shift n x q q') {β : Al} (hx : ¬ β.has x) (h : β.good 4 n 6 20 κ σ q) : β.good 4 n 6 20 κ (σ + 1) q' := by
  cases β with
  | take τ => exact ⟨S.tk τ h.1, h.2⟩
  | ask y => exact ⟨h.1, S.nf y hx h.2⟩
  | place y g τ => exact ⟨h.1, S.nf y hx h.2.1, h.2.2.1, h.2.2.2.1.up (by omega), h.2.2.2.2⟩
  | count y g a i => exact ⟨h.1, S.nf y hx h.2.1, h.2.2⟩
  | head y g a i => exact ⟨h.1, S.nf y hx h.2.1, h.2.2⟩
  | shw y g a i => exact ⟨h.1, S.nf y hx h.2.1, h.2.2⟩
  | ready y g a i st => exact ⟨h.1, S.nf y hx h.2.1, h.2.2⟩
  | give y g γ => exact ⟨h.1, S.nf y hx h.2.1, S.gv y γ hx h.2.2.1, h.2.2.2⟩
  | over E H st => trivial

/-- chunks in which words were given out stay what they are, and what is used of them does not get less -/
def Keeps6 (q q' : Q) : Prop := ∀ i, i < 6 → (q.y.ck i).st = 1 → 0 < (q.y.ck i).us → (q'.y.ck i).st = 1 ∧ (q'.y.ck i).cl = (q.y.ck i).cl ∧ (q.y.ck i).us ≤ (q'.y.ck i).us

theorem Keeps6.same {q q' : Q} (h : q'.y = q.y) : Keeps6 q q' := fun i _ h1 _ => by rw [h]; exact ⟨h1, rfl, Nat.le_refl _⟩

theorem Lot.keep {n κ x a i : Nat} {q q' : Q} {ow ow' : Nat → Nat} (h : Lot n q ow κ x a i) (hk : Keeps6 q q') (ho : ∀ d, ow d ≠ 0 → ow' d = ow d) : Lot n q' ow' κ x a i := by
  obtain ⟨u, h1, h2⟩ := h.ex
  have hr := room_bd κ
  obtain ⟨k1, k2, k3⟩ := hk i h.ik h.st (by omega)
  exact ⟨h.ik, ⟨u, h1, by omega⟩, k1, k2.trans h.cl, fun d e1 e2 => by have := h.ow d e1 e2; rw [ho d (by omega)]; exact this⟩

theorem Al.snd_other {n κ : Nat} {q q' : Q} {ow ow' : Nat → Nat} {β : Al} (h : β.snd n q ow κ) (hk : Keeps6 q q') (ho : ∀ d, ow d ≠ 0 → ow' d = ow d) (hs : ∀ y, β.has y → q'.sw y = q.sw y) : β.snd n q' ow' κ := by
  cases β with
  | take τ => trivial
  | ask y => exact (hs y rfl).trans h
  | place y g τ => exact ⟨(hs y rfl).trans h.1, h.2⟩
  | count y g a i => exact ⟨(hs y rfl).trans h.1, h.2.1, h.2.2.keep hk ho⟩
  | head y g a i => exact ⟨(hs y rfl).trans h.1, h.2.1, h.2.2.keep hk ho⟩
  | shw y g a i => exact ⟨(hs y rfl).trans h.1, h.2.1, h.2.2.keep hk ho⟩
  | ready y g a i st => exact ⟨(hs y rfl).trans h.1, h.2.1, h.2.2.keep hk ho⟩
  | give y g γ => exact (hs y rfl).trans h
  | over E H st => trivial

/-- a step of one who wants words keeps chunks -/
theorem keeps_turn {κ σ : Nat} {bs : Nat → Nat} {q : Q} {τ : Pl} (hg : τ.good 6 20 κ σ) : Keeps6 q { q with y := (turn 6 20 κ bs q.y τ).1 } := by
  intro i hi h1 h2
  have upd_case : ∀ (j : Nat) (c : Ck), (i = j → c.st = 1 ∧ c.cl = (q.y.ck i).cl ∧ (q.y.ck i).us ≤ c.us) → (upd q.y.ck j c i).st = 1 ∧ (upd q.y.ck j c i).cl = (q.y.ck i).cl ∧ (q.y.ck i).us ≤ (upd q.y.ck j c i).us := fun j c hc => by
    by_cases e : i = j
    · subst e; rw [upd_same]; exact hc rfl
    · rw [upd_other _ _ _ _ e]; exact ⟨h1, rfl, Nat.le_refl _⟩
  have same : (q.y.ck i).st = 1 ∧ (q.y.ck i).cl = (q.y.ck i).cl ∧ (q.y.ck i).us ≤ (q.y.ck i).us := ⟨h1, rfl, Nat.le_refl _⟩
  cases τ with
  | see => exact same
  | ask j => exact same
  | grow j c =>
    obtain ⟨hik, hc, k1, k2, k3⟩ := hg
    simp only [turn]
    split
    · rename_i e
      refine upd_case j _ (fun ij => ?_)
      subst ij
      rw [e]
      exact ⟨k1, rfl, Nat.le_add_right _ _⟩
    · exact same
  | look sn j => exact same
  | take sn j c =>
    obtain ⟨hik, hsn, hc, h0⟩ := hg
    simp only [turn]
    split
    · rename_i e
      refine upd_case j _ (fun ij => ?_)
      subst ij
      rw [e, h0] at h1; cases h1
    · exact same
  | opn sn j c =>
    simp only [turn]
    split <;> exact same
  | fre sn j c =>
    obtain ⟨hik, hsn, hc, k0, k1, k2⟩ := hg
    simp only [turn]
    split
    · rename_i e
      refine upd_case j _ (fun ij => ?_)
      subst ij
      rw [e, k2] at h2; cases h2
    · exact same
  | won a j => exact same
  | none => exact same

/-- an object that was made -/
structure Ob where
  x : Nat
  a : Nat
  i : Nat
  Z : Nat
  κ : Nat

/-- one of the three: nobody, or one who makes an object -/
inductive Wh where
  | nil
  | at (b Z κ : Nat) (α : Al)

def Wh.g : Wh → Nat
  | .nil => 0
  | .at _ _ _ α => α.g
def Wh.has (x : Nat) : Wh → Prop
  | .nil => False
  | .at _ _ _ α => α.has x
def Wh.at? (d : Nat) : Wh → Prop
  | .nil => False
  | .at _ _ _ α => α.at? d
def Wh.ok (n : Nat) (q : Q) (σ : Nat) (ow : Nat → Nat) : Wh → Prop
  | .nil => True
  | .at _ Z κ α => α.good 4 n 6 20 κ σ q ∧ α.over? = false ∧ κ < 4 ∧ classOf Z = κ ∧ 1 ≤ Z ∧ Z ≤ 16 ∧ α.snd n q ow κ

/-- an object that was made lives -/
structure Fine (n : Nat) (q : Q) (ow : Nat → Nat) (o : Ob) : Prop where
  lt : o.x < n
  nf : o.x ∉ q.F
  lot : Lot n q ow o.κ o.x o.a o.i
  sw : q.sw o.x = packS 1 o.a 1 0
  hw : q.dw o.a = packOw 2 o.Z o.x 1 false
  z1 : 1 ≤ o.Z
  z2 : o.Z ≤ 16
  k4 : o.κ < 4
  kz : classOf o.Z = o.κ

/-- what is true of the three, and of what was made -/
structure Jam (n : Nat) (q : Q) (σ : Nat) (ow : Nat → Nat) (θ : Nat → Wh) (ms : List Ob) : Prop where
  ok : ∀ j, j < 3 → (θ j).ok n q σ ow
  sep : ∀ i j x, i < 3 → j < 3 → i ≠ j → (θ i).has x → ¬ (θ j).has x
  fine : ∀ o, o ∈ ms → Fine n q ow o
  mt : ∀ o, o ∈ ms → ∀ j, j < 3 → ¬ (θ j).has o.x
  mn : ∀ o o', o ∈ ms → o' ∈ ms → o.x = o'.x → o = o'
  pw : ms.Pairwise (fun o o' => o.x ≠ o'.x)
  sum : q.F.length + ((θ 0).g + (θ 1).g + (θ 2).g) + ms.length = n
  dw : ∀ d, q.dw d ≠ 0 → (∃ o, o ∈ ms ∧ o.a = d) ∨ ∃ j, j < 3 ∧ (θ j).at? d
  us : ∀ i, i < 6 → (q.y.ck i).us ≤ 20
  ins : ∀ d, ow d ≠ 0 → ∃ c, c < 6 ∧ (q.y.ck c).st = 1 ∧ base 4 n 6 20 c ≤ d ∧ d < base 4 n 6 20 c + (q.y.ck c).us
  fr : ∀ x, x ∈ q.F → q.sw x = 8388608

theorem upd_g {θ : Nat → Wh} {K : Nat} (hK : K < 3) (t : Wh) : (upd θ K t 0).g + (upd θ K t 1).g + (upd θ K t 2).g + (θ K).g = (θ 0).g + (θ 1).g + (θ 2).g + t.g := by
  have : K = 0 ∨ K = 1 ∨ K = 2 := by omega
  rcases this with rfl | rfl | rfl <;> simp [upd] <;> omega

section
variable {n σ : Nat} {q q' : Q} {ow ow' : Nat → Nat} {θ : Nat → Wh} {ms : List Ob} {K : Nat}

/-- the picked one becomes another one; the others keep what they know -/
theorem Jam.put (J : Jam n q σ ow θ ms) (hK : K < 3) (t : Wh) (x : Nat) (S : Shift n x q q') (hx : ∀ j, j < 3 → j ≠ K → ¬ (θ j).has x) (hmx : ∀ o, o ∈ ms → o.x ≠ x) (hk : Keeps6 q q') (ho : ∀ d, ow d ≠ 0 → ow' d = ow d) (hs : ∀ y, y ≠ x → q'.sw y = q.sw y)
    (ht : t.ok n q' (σ + 1) ow') (hth : ∀ y, t.has y → y = x) (hg : q'.F.length + t.g = q.F.length + (θ K).g) (hdw : ∀ d, q'.dw d ≠ 0 → q.dw d ≠ 0 ∧ ¬ (θ K).at? d ∨ t.at? d) (hdm : ∀ o, o ∈ ms → q'.dw o.a = q.dw o.a) (hus : ∀ i, i < 6 → (q'.y.ck i).us ≤ 20) (hins : ∀ d, ow' d ≠ 0 → ∃ c, c < 6 ∧ (q'.y.ck c).st = 1 ∧ base 4 n 6 20 c ≤ d ∧ d < base 4 n 6 20 c + (q'.y.ck c).us) (hfr : ∀ y, y ∈ q'.F → q'.sw y = 8388608) : Jam n q' (σ + 1) ow' (upd θ K t) ms := by
  refine ⟨fun j hj => ?_, fun i j y hi hj hij hy => ?_, fun o ho' => ?_, fun o ho' j hj hh => ?_, J.mn, J.pw, ?_, fun d hd => ?_, hus, hins, hfr⟩
  · by_cases e : j = K
    · subst e; rw [upd_same]; exact ht
    · rw [upd_other _ _ _ _ e]
      have h1 := J.ok j hj
      have h2 := hx j hj e
      cases hθ : θ j with
      | nil => trivial
      | «at» b Z κ α =>
        rw [hθ] at h1 h2
        exact ⟨Al.good_other S h2 h1.1, h1.2.1, h1.2.2.1, h1.2.2.2.1, h1.2.2.2.2.1, h1.2.2.2.2.2.1, Al.snd_other h1.2.2.2.2.2.2 hk ho (fun y hy => hs y (fun e' => h2 (by rw [← e']; exact hy)))⟩
  · by_cases e : i = K
    · subst e
      rw [upd_same] at hy
      rw [upd_other _ _ _ _ (Ne.symm hij), hth y hy]
      exact hx j hj (Ne.symm hij)
    · rw [upd_other _ _ _ _ e] at hy
      by_cases e' : j = K
      · subst e'
        rw [upd_same]
        intro h9
        rw [hth y h9] at hy
        exact hx i hi e hy
      · rw [upd_other _ _ _ _ e']; exact J.sep i j y hi hj hij hy
  · have h := J.fine o ho'
    have hne := hmx o ho'
    exact ⟨h.lt, S.nf _ hne h.nf, h.lot.keep hk ho, (hs _ hne).trans h.sw, (hdm o ho').trans h.hw, h.z1, h.z2, h.k4, h.kz⟩
  · by_cases e : j = K
    · subst e
      rw [upd_same] at hh
      exact hmx o ho' (hth _ hh)
    · rw [upd_other _ _ _ _ e] at hh; exact J.mt o ho' j hj hh
  · have h1 := upd_g hK (θ := θ) t
    have h2 := J.sum
    omega
  · rcases hdw d hd with ⟨h, h'⟩ | h
    · rcases J.dw d h with h1 | ⟨j, hj, h1⟩
      · exact .inl h1
      · refine .inr ⟨j, hj, ?_⟩
        by_cases e : j = K
        · subst e; exact absurd h1 h'
        · rw [upd_other _ _ _ _ e]; exact h1
    · exact .inr ⟨K, hK, by rw [upd_same]; exact h⟩

end

end Go.Proofs.Ytemembcefplgcaa
