/- Several who read and lay the word of one object, told without a program. -/
import Derived.Test.YtlolfmoolgenpaaGreatAccTown
namespace Go.Proofs.YtlolfmoolgenpaaGreat
open Go.RowKit

def IntsAt (k : IntKind) (w : World) (ao : Option Addr) (n : Nat) (z : Nat → Int) : Prop :=
  ∀ i, i < n → ∃ b off, ao = some ⟨b, off, none⟩ ∧ w.cell? ⟨b, off + i, none⟩ = some (.int k (z i))

section
variable {t n k m x G Z i σ : Nat} {v : Int} {own : Bool} {q : Q} {W : Wt}
theorem Scn.upd (S : Scn t n k m x G Z i v own q) {j : Nat} {c : Int} (hc : Wd c) : Scn t n k m x G Z i v own { q with dw := upd q.dw (adOf v + 1 + j) c } := by
  refine ⟨S.sw, S.o, S.st, S.gn, ?_, ?_, fun a => ?_, S.xn⟩
  · show szOf (Go.Proofs.YtlolfmoolgenpaaGreat.upd q.dw _ _ _) = _
    rw [upd_other _ _ _ _ (by omega)]; exact S.sz
  · show ownOf (Go.Proofs.YtlolfmoolgenpaaGreat.upd q.dw _ _ _) = _
    rw [upd_other _ _ _ _ (by omega)]; exact S.ow
  · show Wd (Go.Proofs.YtlolfmoolgenpaaGreat.upd q.dw _ _ a)
    by_cases e : a = adOf v + 1 + j
    · subst e; rw [upd_same]; exact hc
    · rw [upd_other _ _ _ _ e]; exact S.wd a
end


/-- a value that may be -/
def Val (c : Int) : Prop := 0 ≤ c ∧ c ≤ 1099511627775

/-- an object of one word lives; what is there -/
structure Cell1 (t n k m x G i : Nat) (v : Int) (q : Q) (c : Int) : Prop where
  sc : Scn t n k m x G 1 i v false q
  cc : q.dw (adOf v + 1) = c
  val : Val c

/-- one who reads or lays it -/
def AcTh (W : Wt) (v : Int) : Ac → Prop
  | .see => True
  | .ask v' _ => v' = v
  | .load v' Z => v' = v ∧ Z = 1
  | .check v' c _ => v' = v ∧ Val c ∧ W.reads c = true
  | .stop _ => False
  | .lay v' c => v' = v ∧ Val c ∧ W.reads c = false
  | .over _ _ _ => True

/-- what a step comes to: what is there ahead of it and behind it -/
inductive Mv (W : Wt) (v : Int) (σ : Nat) (c : Int) : Ac → Int → Ac → Prop where
  | see : Mv W v σ c .see c (.ask v (σ + 1))
  | ask (a : Nat) : Mv W v σ c (.ask v a) c (.load v 1)
  | check (h : W.reads c = true) : Mv W v σ c (.load v 1) c (.check v c (σ + 1))
  | lay (h : W.reads c = false) : Mv W v σ c (.load v 1) c (.lay v c)
  | told (c0 : Int) (ld : Nat) (h0 : Val c0) (h : W.reads c0 = true) : Mv W v σ c (.check v c0 ld) c (.over (if W.other c0 then 8 else 0) c0 ld)
  | laid (h : W.reads c = false) : Mv W v σ c (.lay v c) W.vl (.over 0 c (σ + 1))
  | vain (c0 : Int) (h : c0 ≠ c) (hr : W.reads c0 = false) : Mv W v σ c (.lay v c0) c .see

section
variable {t n k m x G i σ : Nat} {v c : Int} {q q' : Q} {W : Wt}

theorem cell1_step (S : Cell1 t n k m x G i v q c) (hix : W.ix = 0) (hvl : Val W.vl) {α α' : Ac} (T : AcTh W v α) (ho : α.over? = false) (ht : acTurn W false x G σ q α = (q', α')) :
    α.good t n k m W x G q ∧ AcTh W v α' ∧ ∃ c', Cell1 t n k m x G i v q' c' ∧ Mv W v σ c α c' α' := by
  have hat : W.at v = adOf v + 1 := by unfold Wt.at; rw [hix]; rfl
  have hz : (0 : Int) ≤ W.ix := by omega
  have hz1 : W.ix < ((1 : Nat) : Int) := by omega
  cases α with
  | over => cases ho
  | stop => exact T.elim
  | see =>
    rw [S.sc.turn_see] at ht
    obtain ⟨rfl, rfl⟩ := Prod.mk.inj ht
    exact ⟨S.sc.good_see, rfl, c, S, .see⟩
  | ask v' a =>
    have hv : v' = v := T
    subst hv
    rw [S.sc.turn_ask hz hz1] at ht
    obtain ⟨rfl, rfl⟩ := Prod.mk.inj ht
    exact ⟨S.sc.good_ask _, ⟨rfl, rfl⟩, c, S, .ask a⟩
  | load v' Z =>
    obtain ⟨hv, rfl⟩ := T
    subst hv
    have gd : Ac.good t n k m W x G q (.load v' 1) := ⟨⟨i, S.sc.o⟩, hz, hz1, S.sc.st⟩
    simp only [acTurn, hat, S.cc] at ht
    obtain ⟨rfl, hα⟩ := Prod.mk.inj ht
    cases hr : W.reads c with
    | true =>
      simp only [acLoad, hr, if_true] at hα
      subst hα
      exact ⟨gd, ⟨rfl, S.val, hr⟩, c, S, .check hr⟩
    | false =>
      simp only [acLoad, hr, frB_val S.val.2, Bool.false_and, Bool.false_eq_true, if_false] at hα
      subst hα
      exact ⟨gd, ⟨rfl, S.val, hr⟩, c, S, .lay hr⟩
  | check v' c0 ld =>
    obtain ⟨hv, hc0, hr⟩ := T
    subst hv
    rw [S.sc.turn_check] at ht
    obtain ⟨rfl, rfl⟩ := Prod.mk.inj ht
    rw [vOf_val hc0.1 hc0.2]
    exact ⟨⟨S.sc.o.wd, hc0.1, by have := hc0.2; omega⟩, trivial, c, S, .told c0 ld hc0 hr⟩
  | lay v' c0 =>
    obtain ⟨hv, hc0, hr⟩ := T
    subst hv
    have gd : Ac.good t n k m W x G q (.lay v' c0) := ⟨⟨1, i, S.sc.o, hz1⟩, hz, hc0.1, by have := hc0.2; omega⟩
    by_cases e : c = c0
    · subst e
      simp only [acTurn, hat, S.cc, if_true] at ht
      obtain ⟨rfl, rfl⟩ := Prod.mk.inj ht
      rw [vOf_val hc0.1 hc0.2]
      have hw : W.w = W.vl := packX_val hvl.1 hvl.2
      rw [hw]
      refine ⟨gd, trivial, W.vl, ⟨S.sc.upd (j := 0) ⟨hvl.1, by have := hvl.2; omega⟩, upd_same _ _ _, hvl⟩, .laid hr⟩
    · simp only [acTurn, hat, S.cc, e, if_false] at ht
      obtain ⟨rfl, rfl⟩ := Prod.mk.inj ht
      exact ⟨gd, trivial, c, S, .vain c0 (fun h => e h.symm) hr⟩

/-- to read it alone -/
theorem Cell1.read (S : Cell1 t n k m x G i v q c) (hix : W.ix = 0) (hkd : W.kd = 1) : ARuns t n k m W false x G true 4 σ q .see q (.over 0 c (σ + 3)) := by
  have hat : W.at v = adOf v + 1 := by unfold Wt.at; rw [hix]; rfl
  have hr : W.reads c = true := by unfold Wt.reads; rw [hkd]; rfl
  have ho : W.other c = false := by unfold Wt.other; rw [hkd]; rfl
  have := S.sc.reads (W := W) (σ := σ) (by omega) (by omega) (c := c) (by rw [hat]; exact S.cc) hr
  rwa [ho, if_neg (by decide), vOf_val S.val.1 S.val.2] at this

end

end Go.Proofs.YtlolfmoolgenpaaGreat
