/- One object that several let go at the same time, told without a program: what stays true, and that each ends. -/
import Derived.Test.YtcdmokbamakomaaGreatDropFarm
namespace Go.Proofs.YtcdmokbamakomaaGreat
open Go.RowKit

/-- an object's life: it lives, it is being let go, it is gone -/
inductive Ph where
  | live
  | drop
  | gone
deriving DecidableEq

def Ph.w (cg : Int) (vL : Int) : Ph → Int
  | .live => vL
  | .drop => markW vL
  | .gone => behindW cg vL

/-- an object, with its slot's word while it lives -/
structure Ob (t n k m : Nat) (x G A Z i : Nat) (vL : Int) : Prop where
  o : Obj9 t n k m vL Z i
  st : vL % 8 ≠ 4
  gn : genOf vL = G
  ad : adOf vL = A
  vr : verOf' vL < 4194303
  xn : x < n

section
variable {t n k m x G A Z i : Nat} {vL cg : Int}

theorem Ob.mark (O : Ob t n k m x G A Z i vL) : Obj9 t n k m (markW vL) Z i := O.o.mark O.vr
theorem Ob.m8 (O : Ob t n k m x G A Z i vL) : markW vL % 8 = 4 := (mark_dec O.vr).1
theorem Ob.mad (O : Ob t n k m x G A Z i vL) : adOf (markW vL) = A := (mark_dec O.vr).2.1.trans O.ad
theorem Ob.mgn (O : Ob t n k m x G A Z i vL) : genOf (markW vL) = G := (mark_dec O.vr).2.2.1.trans O.gn
theorem Ob.mvr (O : Ob t n k m x G A Z i vL) : verOf' (markW vL) = verOf' vL + 1 := (mark_dec O.vr).2.2.2

theorem behind_st (cg v : Int) : behindW cg v % 8 = 0 ∨ behindW cg v % 8 = 3 := by
  unfold behindW
  have hg := genOf_le v
  split
  · have := packS_dec (st := 3) (A := 0) (G := genOf v) (V := 0) (by decide) (by decide) hg (by decide)
    exact Or.inr this.1
  · left
    unfold packS
    rw [cut_id 0 3 (by omega) (by decide), cut_id 0 20 (by omega) (by decide), cut_id 0 22 (by omega) (by decide)]
    omega

theorem behind_dead (cg v : Int) : lifeB (behindW cg v % 8) = false := by
  rcases behind_st cg v with h | h <;> rw [h] <;> rfl

theorem Ob.ne1 (O : Ob t n k m x G A Z i vL) : vL ≠ markW vL := fun e => O.st (by rw [e]; exact O.m8)
theorem Ob.ne2 (O : Ob t n k m x G A Z i vL) : behindW cg vL ≠ markW vL := fun e => by
  have h := O.m8
  rw [← e] at h
  rcases behind_st cg vL with k | k <;> omega
theorem Ob.ne3 (O : Ob t n k m x G A Z i vL) : behindW cg vL ≠ vL := fun e => by
  have h := O.o.life
  rw [← e, behind_dead] at h
  cases h
end

/-- the cells and the words of an object that several let go -/
structure Scene (t n k m : Nat) (cg : Int) (x G A Z i : Nat) (vL : Int) (ow : Bool) (q : Q) (ph : Ph) : Prop where
  ob : Ob t n k m x G A Z i vL
  sw : q.sw x = ph.w cg vL
  sz : szOf (q.dw A) = Z
  ow : ownOf (q.dw A) = ow
  wd : ∀ a, Wd (q.dw a)
  cl : ∀ j, j < Z → frozenIn (q.dw (A + 1 + j)) (verOf' vL + 1) = true ∨ q.dw (A + 1 + j) = 0

/-- what is left of the cells -/
def hmu (q : Q) (A V Z j : Nat) : Option Int → Nat
  | none => if frozenIn (q.dw (A + 1 + j)) V then 3 * (Z - j) - 2 else 3 * (Z - j)
  | some _ => 3 * (Z - j) - 1

/-- one who helps, there -/
def HpTh (vL : Int) (Z : Nat) (ph : Ph) : Hp → Prop
  | .go v Z' j u => v = markW vL ∧ Z' = Z ∧ ph ≠ .live ∧ (u = none ∨ (u = some 0 ∧ j < Z))
  | .over _ => False

/-- one who lets it go, there -/
def DpTh (vL : Int) (Z i : Nat) (b : Prop) (ph : Ph) : Dp → Prop
  | .see => True
  | .ask v => v = vL ∨ (v = markW vL ∧ ph ≠ .live)
  | .mark v Z' => v = vL ∧ Z' = Z
  | .help η => HpTh vL Z ph η
  | .fin Z' i' η => Z' = Z ∧ i' = i ∧ HpTh vL Z ph η
  | .count Z' i' => Z' = Z ∧ i' = i ∧ ph = .gone
  | .give γ => ph = .gone ∧ γ.done = false
  | .over E => (E = 0 ∧ ph = .gone) ∨ (E = 3 ∧ (b → ph = .gone))

def hpmu (q : Q) (A V Z : Nat) : Hp → Nat
  | .go _ _ j u => hmu q A V Z j u
  | .over _ => 0

/-- how many steps it has at most -/
def dmu (q : Q) (A V Z : Nat) (vL : Int) (ph : Ph) : Dp → Nat
  | .see => match ph with | .live => 8 + 3 * Z | .drop => 4 + 3 * Z | .gone => 1
  | .ask v => if v = vL then 7 + 3 * Z else 3 + 3 * Z
  | .mark _ _ => 6 + 3 * Z
  | .help η => 2 + hpmu q A V Z η
  | .fin _ _ η => 5 + hpmu q A V Z η
  | .count _ _ => 4
  | .give .idle => 3
  | .give (.saw _ _) => 2
  | .give (.lnk _ _) => 1
  | .give .over => 0
  | .over _ => 0

/-- who marked it -/
def Dp.win : Dp → Bool
  | .fin _ _ _ => true
  | .count _ _ => true
  | .give _ => true
  | .over E => decide (E = 0)
  | _ => false

/-- what that one has to give back -/
def Dp.res (x Z i : Nat) (q : Q) : Dp → Prop
  | .fin _ _ _ => room (classOf Z).toNat ≤ q.lv i ∧ x ∉ q.F
  | .count _ _ => room (classOf Z).toNat ≤ q.lv i ∧ x ∉ q.F
  | .give .idle => x ∉ q.F
  | .give (.saw h c) => x ∉ q.F ∧ h = hd q.F ∧ c = q.c
  | .give (.lnk h c) => x ∉ q.F ∧ h = hd q.F ∧ c = q.c ∧ q.lk x = hd q.F
  | _ => True

theorem froze_in (V : Nat) (hV : V ≤ 4194303) : frozenIn (froze 0 V) V = true := by
  unfold froze packX frozenIn
  rw [if_pos rfl, cut_id (0 % 1099511627776) 40 (by decide) (by decide), cut_id V 22 (by omega) (by simp; omega)]
  rw [Bool.and_eq_true]
  exact ⟨decide_eq_true (by omega), decide_eq_true (by omega)⟩

theorem zero_in (V : Nat) : frozenIn 0 V = false := rfl

section
variable {t n k m x G A Z i : Nat} {vL cg : Int} {ow own : Bool} {q q' : Q} {ph : Ph}

/-- cells get frozen, and nothing else -/
def Froz (A V Z : Nat) (q q' : Q) : Prop := ∀ j, j < Z → frozenIn (q.dw (A + 1 + j)) V = true → frozenIn (q'.dw (A + 1 + j)) V = true

theorem Froz.refl {A V Z : Nat} (q : Q) : Froz A V Z q q := fun _ _ h => h

theorem hmu_le {A V Z j : Nat} {u : Option Int} (h : Froz A V Z q q') : hmu q' A V Z j u ≤ hmu q A V Z j u := by
  cases u with
  | none =>
    unfold hmu
    by_cases hj : j < Z
    · by_cases f : frozenIn (q.dw (A + 1 + j)) V = true
      · simp only [f, h j hj f, if_true]; exact Nat.le_refl _
      · simp only [f]
        simp only [Bool.false_eq_true, if_false]
        split <;> omega
    · have : Z - j = 0 := by omega
      simp only [this]
      split <;> split <;> omega
  | some u => exact Nat.le_refl _

theorem hmu_up (q : Q) (A V Z j : Nat) : hmu q A V Z j none ≤ 3 * (Z - j) := by
  show (if frozenIn (q.dw (A + 1 + j)) V then 3 * (Z - j) - 2 else 3 * (Z - j)) ≤ _
  by_cases f : frozenIn (q.dw (A + 1 + j)) V = true
  · rw [if_pos f]; omega
  · rw [if_neg f]; exact Nat.le_refl _

/-- a step of one who helps -/
theorem scene_help (S : Scene t n k m cg x G A Z i vL ow q ph) {η η' : Hp} (T : HpTh vL Z ph η) (ht : hpTurn cg x q η = (q', η')) :
    (η.good t n k m ∧ η.over? = false) ∧ Froz A (verOf' vL + 1) Z q q' ∧ (q'.lv = q.lv ∧ q'.F = q.F ∧ q'.c = q.c ∧ q'.lk = q.lk) ∧
    ((Scene t n k m cg x G A Z i vL ow q' ph ∧ HpTh vL Z ph η' ∧ hpmu q' A (verOf' vL + 1) Z η' < hpmu q A (verOf' vL + 1) Z η) ∨ (Scene t n k m cg x G A Z i vL ow q' .gone ∧ η' = .over (decide (ph = .drop)))) := by
  have O := S.ob
  cases η with
  | over => cases T
  | go v Z' j u =>
    obtain ⟨hvv, hZZ, hph, hu⟩ := T
    subst hZZ
    have mO := O.mark
    have mad := O.mad
    have mvr := O.mvr
    have bm := behind_mark (cg := cg) O.vr
    have ne2 := O.ne2 (cg := cg)
    have hsw := S.sw
    rw [← hvv] at mO mad mvr bm ne2
    have hgood : Hp.good t n k m (.go v Z' j u) := ⟨⟨i, mO⟩, fun u' hu' => by
      rcases hu with rfl | ⟨rfl, _⟩
      · cases hu'
      · cases hu'; exact ⟨Int.le_refl 0, by decide⟩⟩
    refine ⟨⟨hgood, rfl⟩, ?_⟩
    by_cases hj : Z' ≤ j
    · have hq : hpEnd cg x q v = (q', η') := by cases u <;> simpa [hpTurn, hj] using ht
      unfold hpEnd at hq
      cases ph with
      | live => exact absurd rfl hph
      | drop =>
        have e : q.sw x = v := hsw.trans hvv.symm
        rw [if_pos e] at hq
        obtain ⟨rfl, rfl⟩ := Prod.mk.inj hq
        refine ⟨fun _ _ h => h, ⟨rfl, rfl, rfl, rfl⟩, Or.inr ⟨⟨O, ?_, S.sz, S.ow, S.wd, S.cl⟩, rfl⟩⟩
        show upd q.sw x _ x = behindW cg vL
        rw [upd_same, bm]
      | gone =>
        have e : q.sw x ≠ v := by rw [hsw]; exact ne2
        rw [if_neg e] at hq
        obtain ⟨rfl, rfl⟩ := Prod.mk.inj hq
        exact ⟨fun _ _ h => h, ⟨rfl, rfl, rfl, rfl⟩, Or.inr ⟨S, rfl⟩⟩
    · have hj' : j < Z' := by omega
      rcases hu with rfl | ⟨rfl, -⟩
      · simp only [hpTurn, hj, if_false, mad, mvr] at ht
        by_cases hf : frozenIn (q.dw (A + 1 + j)) (verOf' vL + 1) = true
        · rw [if_pos hf] at ht
          obtain ⟨rfl, rfl⟩ := Prod.mk.inj ht
          refine ⟨fun _ _ h => h, ⟨rfl, rfl, rfl, rfl⟩, Or.inl ⟨S, ⟨hvv, rfl, hph, Or.inl rfl⟩, ?_⟩⟩
          have up := hmu_up q A (verOf' vL + 1) Z' (j + 1)
          have eq : hmu q A (verOf' vL + 1) Z' j none = 3 * (Z' - j) - 2 := if_pos hf
          show hmu q A _ Z' (j + 1) none < hmu q A _ Z' j none
          omega
        · rw [if_neg hf] at ht
          obtain ⟨rfl, rfl⟩ := Prod.mk.inj ht
          have h0 := (S.cl j hj').resolve_left hf
          refine ⟨fun _ _ h => h, ⟨rfl, rfl, rfl, rfl⟩, Or.inl ⟨S, ⟨hvv, rfl, hph, Or.inr ⟨by rw [h0], hj'⟩⟩, ?_⟩⟩
          have e1 : hmu q A (verOf' vL + 1) Z' j none = 3 * (Z' - j) := if_neg hf
          have e2 : hmu q A (verOf' vL + 1) Z' j (some (q.dw (A + 1 + j))) = 3 * (Z' - j) - 1 := rfl
          show hmu q A (verOf' vL + 1) Z' j (some (q.dw (A + 1 + j))) < hmu q A (verOf' vL + 1) Z' j none
          omega
      · simp only [hpTurn, hj, if_false, mad, mvr] at ht
        by_cases h0 : q.dw (A + 1 + j) = 0
        · rw [if_pos h0] at ht
          obtain ⟨rfl, rfl⟩ := Prod.mk.inj ht
          have hV : verOf' vL + 1 ≤ 4194303 := by have := O.vr; omega
          have fr := froze_in (verOf' vL + 1) hV
          have cells : ∀ b, (upd q.dw (A + 1 + j) (froze 0 (verOf' vL + 1))) b = if b = A + 1 + j then froze 0 (verOf' vL + 1) else q.dw b := fun b => rfl
          have hFz : Froz A (verOf' vL + 1) Z' q { q with dw := upd q.dw (A + 1 + j) (froze 0 (verOf' vL + 1)) } := by
            intro j' _ hf
            show frozenIn (upd q.dw _ _ (A + 1 + j')) _ = true
            by_cases e : j' = j
            · subst e; rw [upd_same]; exact fr
            · rw [upd_other _ _ _ _ (by omega)]; exact hf
          refine ⟨hFz, ⟨rfl, rfl, rfl, rfl⟩, Or.inl ⟨⟨O, S.sw, ?_, ?_, fun a => ?_, fun j' hj2 => ?_⟩, ⟨hvv, rfl, hph, Or.inl rfl⟩, ?_⟩⟩
          · show szOf (upd q.dw _ _ A) = _
            rw [upd_other _ _ _ _ (by omega)]; exact S.sz
          · show ownOf (upd q.dw _ _ A) = _
            rw [upd_other _ _ _ _ (by omega)]; exact S.ow
          · show Wd (upd q.dw _ _ a)
            by_cases e : a = A + 1 + j
            · subst e; rw [upd_same]; exact froze_wd _ _
            · rw [upd_other _ _ _ _ e]; exact S.wd a
          · show frozenIn (upd q.dw _ _ (A + 1 + j')) _ = true ∨ upd q.dw _ _ (A + 1 + j') = 0
            by_cases e : j' = j
            · subst e; rw [upd_same]; exact Or.inl fr
            · rw [upd_other _ _ _ _ (by omega)]; exact S.cl j' hj2
          · have up := hmu_up { q with dw := upd q.dw (A + 1 + j) (froze 0 (verOf' vL + 1)) } A (verOf' vL + 1) Z' (j + 1)
            have eq : hmu q A (verOf' vL + 1) Z' j (some 0) = 3 * (Z' - j) - 1 := rfl
            show hmu { q with dw := upd q.dw (A + 1 + j) (froze 0 (verOf' vL + 1)) } A (verOf' vL + 1) Z' (j + 1) none < hmu q A (verOf' vL + 1) Z' j (some 0)
            omega
        · rw [if_neg h0] at ht
          obtain ⟨rfl, rfl⟩ := Prod.mk.inj ht
          have hf := (S.cl j hj').resolve_right h0
          refine ⟨fun _ _ h => h, ⟨rfl, rfl, rfl, rfl⟩, Or.inl ⟨S, ⟨hvv, rfl, hph, Or.inl rfl⟩, ?_⟩⟩
          have e1 : hmu q A (verOf' vL + 1) Z' j none = 3 * (Z' - j) - 2 := if_pos hf
          have e2 : hmu q A (verOf' vL + 1) Z' j (some 0) = 3 * (Z' - j) - 1 := rfl
          show hmu q A (verOf' vL + 1) Z' j none < hmu q A (verOf' vL + 1) Z' j (some 0)
          omega

theorem HpTh.up {ph' : Ph} {η : Hp} (h : HpTh vL Z ph η) (hp : ph ≠ .live → ph' ≠ .live) : HpTh vL Z ph' η := by
  cases η with
  | over => exact h
  | go v Z' j u => exact ⟨h.1, h.2.1, hp h.2.2.1, h.2.2.2⟩

/-- later -/
def Ph.up (ph ph' : Ph) : Prop := (ph ≠ .live → ph' ≠ .live) ∧ (ph = .gone → ph' = .gone)

theorem Ph.up_refl (ph : Ph) : ph.up ph := ⟨id, id⟩
theorem Ph.up_gone (ph : Ph) : ph.up .gone := ⟨fun _ => by decide, fun _ => rfl⟩
theorem Ph.up_live (ph' : Ph) : Ph.live.up ph' := ⟨fun h => absurd rfl h, fun h => by cases h⟩

theorem DpTh.up {ph' : Ph} {b : Prop} {α : Dp} (h : DpTh vL Z i b ph α) (hp : ph.up ph') : DpTh vL Z i b ph' α := by
  cases α with
  | see => trivial
  | ask v => exact h.imp id fun h => ⟨h.1, hp.1 h.2⟩
  | mark v Z' => exact h
  | help η => exact HpTh.up h hp.1
  | fin Z' i' η => exact ⟨h.1, h.2.1, HpTh.up h.2.2 hp.1⟩
  | count Z' i' => exact ⟨h.1, h.2.1, hp.2 h.2.2⟩
  | give γ => exact ⟨hp.2 h.1, h.2⟩
  | over E => exact h.imp (fun h => ⟨h.1, hp.2 h.2⟩) (fun h => ⟨h.1, fun hb => hp.2 (h.2 hb)⟩)

theorem hpmu_le {A V Z : Nat} {η : Hp} (h : Froz A V Z q q') : hpmu q' A V Z η ≤ hpmu q A V Z η := by
  cases η with
  | over => exact Nat.le_refl _
  | go v Z' j u => exact hmu_le h

theorem dmu_le {ph' : Ph} {V : Nat} {α : Dp} (h : Froz A V Z q q') (hp : ph.up ph') : dmu q' A V Z vL ph' α ≤ dmu q A V Z vL ph α := by
  cases α with
  | see =>
    cases ph with
    | live => cases ph' <;> simp only [dmu] <;> omega
    | drop => cases ph' with
      | live => exact absurd rfl (hp.1 (by decide))
      | drop => exact Nat.le_refl _
      | gone => simp only [dmu]; omega
    | gone => rw [hp.2 rfl]; exact Nat.le_refl _
  | ask v => exact Nat.le_refl _
  | mark v Z' => exact Nat.le_refl _
  | help η => exact Nat.add_le_add_left (hpmu_le h) _
  | fin Z' i' η => exact Nat.add_le_add_left (hpmu_le h) _
  | count Z' i' => exact Nat.le_refl _
  | give γ => cases γ <;> exact Nat.le_refl _
  | over E => exact Nat.le_refl _

/-- what is had and free stays -/
def Kin (q q' : Q) : Prop := q'.lv = q.lv ∧ q'.F = q.F ∧ q'.c = q.c ∧ q'.lk = q.lk

theorem Dp.res_kin {α : Dp} (h : α.res x Z i q) (e : Kin q q') : α.res x Z i q' := by
  obtain ⟨e1, e2, e3, e4⟩ := e
  cases α with
  | fin => unfold Dp.res at h ⊢; rw [e1, e2]; exact h
  | count => unfold Dp.res at h ⊢; rw [e1, e2]; exact h
  | give γ => cases γ <;> (unfold Dp.res at h ⊢; first | (rw [e2, e3, e4]; exact h) | (rw [e2, e3]; exact h) | (rw [e2]; exact h) | trivial)
  | _ => trivial

/-- what a step of one who lets the object go leaves -/
structure Went (t n k m : Nat) (cg : Int) (x G A Z i : Nat) (vL : Int) (ow own : Bool) (q : Q) (ph : Ph) (α : Dp) (q' : Q) (ph' : Ph) (α' : Dp) : Prop where
  sc : Scene t n k m cg x G A Z i vL ow q' ph'
  up : ph.up ph'
  fz : Froz A (verOf' vL + 1) Z q q'
  th : DpTh vL Z i (own = ow) ph' α'
  mu : dmu q' A (verOf' vL + 1) Z vL ph' α' < dmu q A (verOf' vL + 1) Z vL ph α
  kin : α.win = false → Kin q q'
  res : α'.win = true → α'.res x Z i q'
  keep : α.win = true → α'.win = true
  won : α'.win = true → α.win = true ∨ ph = .live
  live : ph = .live → ph' ≠ .live → α'.win = true
  good : α.good t n k m x G q

set_option maxHeartbeats 1000000 in
theorem scene_step (S : Scene t n k m cg x G A Z i vL ow q ph) {α α' : Dp} (T : DpTh vL Z i (own = ow) ph α) (R : α.win = true → α.res x Z i q) (L : ph = .live → room (classOf Z).toNat ≤ q.lv i ∧ x ∉ q.F) (hh : hd q.F ≤ n) (hl : (G : Int) < cg) (ho : α.over? = false) (ht : dpTurn t n k m cg own x G q α = (q', α')) :
    ∃ ph', Went t n k m cg x G A Z i vL ow own q ph α q' ph' α' := by
  have O := S.ob
  have kin0 : Kin q q := ⟨rfl, rfl, rfl, rfl⟩
  cases α with
  | over => cases ho
  | see =>
    simp only [dpTurn] at ht
    obtain ⟨rfl, hα⟩ := Prod.mk.inj ht
    have hsw := S.sw
    cases ph with
    | live =>
      have e : q.sw x = vL := hsw
      rw [e, O.o.life, O.gn, decide_eq_true rfl, Bool.and_self, if_pos rfl] at hα
      subst hα
      refine ⟨.live, S, Ph.up_refl _, Froz.refl _, Or.inl rfl, ?_, fun _ => kin0, (fun h => by cases h), (fun h => by cases h), (fun h => by cases h), (fun _ h => absurd rfl h), fun _ _ => ⟨i, ?_⟩⟩
      · show (if vL = vL then 7 + 3 * Z else 3 + 3 * Z) < 8 + 3 * Z
        rw [if_pos rfl]; omega
      · rw [e, O.ad, S.sz]; exact O.o
    | drop =>
      have e : q.sw x = markW vL := hsw
      rw [e, O.mark.life, O.mgn, decide_eq_true rfl, Bool.and_self, if_pos rfl] at hα
      subst hα
      refine ⟨.drop, S, Ph.up_refl _, Froz.refl _, Or.inr ⟨rfl, by decide⟩, ?_, fun _ => kin0, (fun h => by cases h), (fun h => by cases h), (fun h => by cases h), (fun h => by cases h), fun _ _ => ⟨i, ?_⟩⟩
      · show (if markW vL = vL then 7 + 3 * Z else 3 + 3 * Z) < 4 + 3 * Z
        rw [if_neg O.ne1.symm]; omega
      · rw [e, O.mad, S.sz]; exact O.mark
    | gone =>
      have e : q.sw x = behindW cg vL := hsw
      rw [e, behind_dead, Bool.false_and, if_neg (by decide)] at hα
      subst hα
      refine ⟨.gone, S, Ph.up_refl _, Froz.refl _, Or.inr ⟨rfl, fun _ => rfl⟩, Nat.zero_lt_one, fun _ => kin0, (fun h => by cases h), (fun h => by cases h), (fun h => by cases h), (fun h => by cases h), fun h1 _ => ?_⟩
      rw [e, behind_dead] at h1; cases h1
  | ask v =>
    simp only [dpTurn] at ht
    obtain ⟨rfl, hα⟩ := Prod.mk.inj ht
    have hst : Stands t n k m q v := by
      rcases T with e | ⟨e, -⟩
      · rw [e]; exact ⟨i, by rw [O.ad, S.sz]; exact O.o⟩
      · rw [e]; exact ⟨i, by rw [O.mad, S.sz]; exact O.mark⟩
    have hav : adOf v = A := by
      rcases T with e | ⟨e, -⟩
      · rw [e]; exact O.ad
      · rw [e]; exact O.mad
    rw [hav] at hα
    unfold dpAsk at hα
    rw [S.ow, S.sz] at hα
    by_cases hw : ow = own
    · rw [hw, beq_self_eq_true, if_pos rfl] at hα
      rcases T with e | ⟨e, hp⟩
      · rw [if_neg (by rw [e]; exact O.st)] at hα
        subst hα
        refine ⟨ph, S, Ph.up_refl _, Froz.refl _, ⟨e, rfl⟩, ?_, fun _ => kin0, (fun h => by cases h), (fun h => by cases h), (fun h => by cases h), (fun h1 h => absurd h1 h), hst⟩
        show 6 + 3 * Z < (if v = vL then 7 + 3 * Z else 3 + 3 * Z)
        rw [if_pos e]; omega
      · rw [if_pos (by rw [e]; exact O.m8)] at hα
        subst hα
        refine ⟨ph, S, Ph.up_refl _, Froz.refl _, ⟨e, rfl, hp, Or.inl rfl⟩, ?_, fun _ => kin0, (fun h => by cases h), (fun h => by cases h), (fun h => by cases h), (fun h1 h => absurd h1 h), hst⟩
        have up := hmu_up q A (verOf' vL + 1) Z 0
        show 2 + hmu q A (verOf' vL + 1) Z 0 none < (if v = vL then 7 + 3 * Z else 3 + 3 * Z)
        rw [if_neg (by rw [e]; exact O.ne1.symm)]; omega
    · have hb : (ow == own) = false := by simpa using hw
      rw [hb, if_neg (by decide)] at hα
      subst hα
      refine ⟨ph, S, Ph.up_refl _, Froz.refl _, Or.inr ⟨rfl, fun h => absurd h.symm hw⟩, ?_, fun _ => kin0, (fun h => by cases h), (fun h => by cases h), (fun h => by cases h), (fun h1 h => absurd h1 h), hst⟩
      show 0 < (if v = vL then 7 + 3 * Z else 3 + 3 * Z)
      split <;> omega
  | mark v Z' =>
    obtain ⟨e, rfl⟩ := T
    have hsw := S.sw
    have hO : Obj9 t n k m v Z' i := by rw [e]; exact O.o
    cases ph with
    | live =>
      have e2 : q.sw x = v := by rw [e]; exact hsw
      have hm : markW v = markW vL := by rw [e]
      have ci : (chunkOf t n k m (adOf v)).toNat = i := by rw [hO.c1]; simp
      simp only [dpTurn, e2, if_true, ci] at ht
      obtain ⟨rfl, rfl⟩ := Prod.mk.inj ht
      obtain ⟨l1, l2⟩ := L rfl
      refine ⟨.drop, ⟨O, ?_, S.sz, S.ow, S.wd, S.cl⟩, Ph.up_live _, fun _ _ h => h, ⟨rfl, rfl, hm, rfl, by decide, Or.inl rfl⟩, ?_, fun _ => ⟨rfl, rfl, rfl, rfl⟩, fun _ => ⟨l1, l2⟩, (fun h => by cases h), fun _ => Or.inr rfl, fun _ _ => rfl, ⟨i, hO⟩⟩
      · show upd q.sw x (markW v) x = markW vL
        rw [upd_same, hm]
      · have up := hmu_up { q with sw := upd q.sw x (markW v) } A (verOf' vL + 1) Z' 0
        show 5 + hmu { q with sw := upd q.sw x (markW v) } A (verOf' vL + 1) Z' 0 none < 6 + 3 * Z'
        omega
    | drop =>
      have e2 : q.sw x ≠ v := by rw [e, hsw]; exact O.ne1.symm
      simp only [dpTurn, e2, if_false] at ht
      obtain ⟨rfl, rfl⟩ := Prod.mk.inj ht
      refine ⟨.drop, S, Ph.up_refl _, Froz.refl _, trivial, ?_, fun _ => kin0, (fun h => by cases h), (fun h => by cases h), (fun h => by cases h), (fun h => by cases h), ⟨i, hO⟩⟩
      show 4 + 3 * Z' < 6 + 3 * Z'
      omega
    | gone =>
      have e2 : q.sw x ≠ v := by rw [e, hsw]; exact O.ne3
      simp only [dpTurn, e2, if_false] at ht
      obtain ⟨rfl, rfl⟩ := Prod.mk.inj ht
      refine ⟨.gone, S, Ph.up_refl _, Froz.refl _, trivial, ?_, fun _ => kin0, (fun h => by cases h), (fun h => by cases h), (fun h => by cases h), (fun h => by cases h), ⟨i, hO⟩⟩
      show 1 < 6 + 3 * Z'
      omega
  | help η =>
    obtain ⟨q1, η1, h1⟩ : ∃ q1 η1, hpTurn cg x q η = (q1, η1) := ⟨_, _, rfl⟩
    simp only [dpTurn, h1] at ht
    obtain ⟨gd, fz, kn, alt⟩ := scene_help S T h1
    rcases alt with ⟨S', T', mu⟩ | ⟨S', rfl⟩
    · have hov : η1.over? = false := by
        cases η1 with
        | over => cases T'
        | go => rfl
      rw [dpHelp_on hov] at ht
      obtain ⟨rfl, rfl⟩ := Prod.mk.inj ht
      exact ⟨ph, S', Ph.up_refl _, fz, T', Nat.add_lt_add_left mu 2, fun _ => kn, (fun h => by cases h), (fun h => by cases h), (fun h => by cases h), (fun h1 h => absurd h1 h), gd⟩
    · have ht' : (q1, Dp.see) = (q', α') := ht
      obtain ⟨rfl, rfl⟩ := Prod.mk.inj ht'
      refine ⟨.gone, S', Ph.up_gone _, fz, trivial, ?_, fun _ => kn, (fun h => by cases h), (fun h => by cases h), (fun h => by cases h), (fun h _ => ?_), gd⟩
      · show 1 < 2 + _
        omega
      · subst h
        cases η with
        | over => cases T
        | go => exact absurd rfl T.2.2.1
  | fin Z' i' η =>
    obtain ⟨rfl, rfl, T⟩ := T
    obtain ⟨q1, η1, h1⟩ : ∃ q1 η1, hpTurn cg x q η = (q1, η1) := ⟨_, _, rfl⟩
    simp only [dpTurn, h1] at ht
    obtain ⟨gd, fz, kn, alt⟩ := scene_help S T h1
    have R' := R rfl
    rcases alt with ⟨S', T', mu⟩ | ⟨S', rfl⟩
    · have hov : η1.over? = false := by
        cases η1 with
        | over => cases T'
        | go => rfl
      rw [dpFin_on hov] at ht
      obtain ⟨rfl, rfl⟩ := Prod.mk.inj ht
      exact ⟨ph, S', Ph.up_refl _, fz, ⟨rfl, rfl, T'⟩, Nat.add_lt_add_left mu 5, fun _ => kn, fun _ => Dp.res_kin (α := .fin Z' i' η1) R' kn, fun _ => rfl, fun _ => Or.inl rfl, fun _ _ => rfl, gd⟩
    · have ht' : (q1, Dp.count Z' i') = (q', α') := ht
      obtain ⟨rfl, rfl⟩ := Prod.mk.inj ht'
      refine ⟨.gone, S', Ph.up_gone _, fz, ⟨rfl, rfl, rfl⟩, ?_, fun _ => kn, fun _ => Dp.res_kin (α := .count Z' i') R' kn, fun _ => rfl, fun _ => Or.inl rfl, fun _ _ => rfl, gd⟩
      show 4 < 5 + _
      omega
  | count Z' i' =>
    obtain ⟨rfl, rfl, rfl⟩ := T
    obtain ⟨r1, r2⟩ := R rfl
    simp only [dpTurn, show ¬ cg ≤ (G : Int) by omega, if_false] at ht
    obtain ⟨rfl, rfl⟩ := Prod.mk.inj ht
    exact ⟨.gone, ⟨O, S.sw, S.sz, S.ow, S.wd, S.cl⟩, Ph.up_refl _, fun _ _ h => h, ⟨rfl, rfl⟩, (show (3 : Nat) < 4 by decide), (fun h => by cases h), fun _ => r2, fun _ => rfl, fun _ => Or.inl rfl, fun _ _ => rfl, ⟨O.o.z1, O.o.z2, O.o.ik, r1⟩⟩
  | give γ =>
    obtain ⟨rfl, hd0⟩ := T
    have R' := R rfl
    cases γ with
    | over => cases hd0
    | idle =>
      have ht' : (({ q with c := q.c, lk := q.lk, F := q.F } : Q), Dp.give (.saw (hd q.F) q.c)) = (q', α') := ht
      obtain ⟨rfl, rfl⟩ := Prod.mk.inj ht'
      exact ⟨.gone, S, Ph.up_refl _, fun _ _ h => h, ⟨rfl, rfl⟩, (show (2 : Nat) < 3 by decide), (fun h => by cases h), fun _ => ⟨R', rfl, rfl⟩, fun _ => rfl, fun _ => Or.inl rfl, fun _ _ => rfl, ⟨R', trivial, rfl⟩⟩
    | saw h c =>
      obtain ⟨r1, r2, r3⟩ := R'
      have ht' : (({ q with c := q.c, lk := upd q.lk x h, F := q.F } : Q), Dp.give (.lnk h c)) = (q', α') := ht
      obtain ⟨rfl, rfl⟩ := Prod.mk.inj ht'
      exact ⟨.gone, ⟨O, S.sw, S.sz, S.ow, S.wd, S.cl⟩, Ph.up_refl _, fun _ _ h => h, ⟨rfl, rfl⟩, (show (1 : Nat) < 2 by decide), (fun h => by cases h), fun _ => ⟨r1, r2, r3, (upd_same _ _ _).trans r2⟩, fun _ => rfl, fun _ => Or.inl rfl, fun _ _ => rfl, ⟨r1, ⟨by rw [r2]; exact hh, by rw [r3]; exact Nat.le_refl _, fun _ => r2.symm⟩, rfl⟩⟩
    | lnk h c =>
      obtain ⟨r1, r2, r3, r4⟩ := R'
      have ht' : (({ q with c := q.c + 1, lk := q.lk, F := x :: q.F } : Q), Dp.over 0) = (q', α') := by rw [← ht]; simp only [dpTurn, gvTurn, r3, if_true, dpGive]
      obtain ⟨rfl, rfl⟩ := Prod.mk.inj ht'
      exact ⟨.gone, ⟨O, S.sw, S.sz, S.ow, S.wd, S.cl⟩, Ph.up_refl _, fun _ _ h => h, Or.inl ⟨rfl, rfl⟩, (show (0 : Nat) < 1 by decide), (fun h => by cases h), fun _ => trivial, fun _ => rfl, fun _ => Or.inl rfl, fun _ _ => rfl, ⟨r1, ⟨by rw [r2]; exact hh, by rw [r4, r2], by rw [r3]; exact Nat.le_refl _, fun _ => r2.symm⟩, rfl⟩⟩
end

end Go.Proofs.YtcdmokbamakomaaGreat
