import Derived.Test.YtkgpffcnimmdkaaGreatMovLay
namespace Go.Proofs.YtkgpffcnimmdkaaGreat
open Go.RowKit
def wpot (W : Wt) (q : Q) : Ac -> Nat
 | .see=>4
 | .ask v _=>if q.sw 0 = v then 3 else 7
 | .load v _=>if q.sw 0 = v then 2 else 6
 | .check _ _ _=>0
 | .stop _=>5
 | .lay v u=>if q.dw (W.at v) = u then 1 else 5
 | .over _ _ _=>0
theorem wpot_le (W : Wt) (q : Q) (α : Ac) : wpot W q α <= 7:=by
 cases α <;> simp only [wpot] <;> (try split) <;> omega
section
variable {Z c V r : Nat} {val : Nat -> Int} {q : Q} {yE : Y}
theorem wi_end {ix σ : Nat} {x o : Int} {τ : Pl} {α α' : Ac} {q' : Q} (h : MI true Z c V val yE r q (.over o τ)) (hix : ix < Z) (I : WI Z c V q α) (ho : α.over? = false) (ht : acTurn (wtL ix x) false 0 1 σ q α = (q',α')) :
 α'.over? = true \/ wpot (wtL ix x) q' α' + 1 <= wpot (wtL ix x) q α:=by
 have ph:=h.ph
 have hr : ∀ u,(wtL ix x).reads u = false:=fun u=>by unfold Wt.reads Wt.other wtL;simp
 have h0 : (0 : Int) <= (wtL ix x).ix:=by show (0 : Int) <= (ix : Int);omega
 have h1 : (wtL ix x).ix < Z:=by show (ix : Int) < (Z : Int);omega
 have hat : ∀ v,(wtL ix x).at v = adOf v + 1 + ix:=fun v=>by unfold Wt.at wtL;simp
 have hs1 : q.sw 0 % 8 = 1:=by
  rcases h with ⟨-,hB,-⟩ | ⟨-,-,hA⟩
  · exact hB.sw.s
  · exact hA.sw.s
 have fresh : frB (q.dw ((wtL ix x).at (q.sw 0))) = true -> crOf (q.dw ((wtL ix x).at (q.sw 0))) < verOf' (q.sw 0):=fun hf=>by
  rw [hat] at hf ⊢
  rcases h with ⟨-,hB,-⟩ | ⟨-,-,hA⟩
  · rw [hB.sw.a,hB.cl ix hix,(val_cell (hB.cm.vb ix hix)).2.2] at hf
    cases hf
  · rw [hA.sw.a] at hf ⊢
    rw [hA.sw.r]
    exact ((hA.cl ix hix).2 hf).2 rfl
 cases α with
 | over=>cases ho
 | check=>exact I.elim
 | see =>
  have S:=ph.seen
  obtain ⟨i,O,e1,e2⟩:=ph.obj S
  have hl : lifeB (q.sw 0 % 8) = true:=O.life
  simp only [acTurn,hl,S.g,decide_true,Bool.and_self,if_true] at ht
  obtain ⟨rfl,rfl⟩:=Prod.mk.inj ht
  exact Or.inr (by simp only [wpot,if_true];omega)
 | ask v a =>
  have S : Seen c V (q.sw 0) v:=I
  obtain ⟨i,O,e1,e2⟩:=ph.obj S
  simp only [acTurn,acAsk,e1,e2,beq_self_eq_true,if_true,h0,h1,and_self] at ht
  obtain ⟨rfl,rfl⟩:=Prod.mk.inj ht
  refine Or.inr ?_
  simp only [wpot]
  split <;> omega
 | load v Z' =>
  obtain ⟨S,rfl⟩:=I
  simp only [acTurn,acLoad,hr,Bool.false_eq_true,if_false] at ht
  obtain ⟨rfl,hα⟩:=Prod.mk.inj ht
  refine Or.inr ?_
  by_cases b1 : (frB (q.dw ((wtL ix x).at v)) && decide (crOf (q.dw ((wtL ix x).at v)) = (verOf' v : Int)) && decide (v % 8 = 2)) = true
  · rw [if_pos b1] at hα
    subst hα
    simp only [Bool.and_eq_true,decide_eq_true_eq] at b1
    have hv : ¬ q.sw 0 = v:=fun e=>by rw [e] at hs1;omega
    simp only [wpot,if_neg hv];omega
  · rw [if_neg b1] at hα
    by_cases b2 : (frB (q.dw ((wtL ix x).at v)) && decide ((verOf' v : Int) <= crOf (q.dw ((wtL ix x).at v)))) = true
    · rw [if_pos b2] at hα
      subst hα
      simp only [Bool.and_eq_true,decide_eq_true_eq] at b2
      have hv : ¬ q.sw 0 = v:=fun e=>by
       rw [e] at fresh
       have:=fresh b2.1
       omega
      simp only [wpot,if_neg hv];omega
    · rw [if_neg b2] at hα
      subst hα
      simp only [wpot,if_true]
      split <;> omega
 | stop v =>
  have hv : ¬ q.sw 0 = v:=fun e=>by have:=I.2;rw [e] at hs1;omega
  simp only [acTurn,hv,if_false] at ht
  obtain ⟨rfl,rfl⟩:=Prod.mk.inj ht
  exact Or.inr (by simp only [wpot];omega)
 | lay v u =>
  by_cases e : q.dw ((wtL ix x).at v) = u
  · simp only [acTurn,e,if_true] at ht
    obtain ⟨rfl,rfl⟩:=Prod.mk.inj ht
    exact Or.inl rfl
  · simp only [acTurn,e,if_false] at ht
    obtain ⟨rfl,rfl⟩:=Prod.mk.inj ht
    exact Or.inr (by simp only [wpot,e,if_false];omega)
end
end Go.Proofs.YtkgpffcnimmdkaaGreat
