/- One who lets an object go alone, step by step: which word each step touches. No program in it. -/
import Derived.Test.YtbmiieaakbcncabGreatDropScene
namespace Go.Proofs.YtbmiieaakbcncabGreat
open Go.RowKit

/-- one who lets an object go, alone with it -/
structure Solo (t n k m : Nat) (cg : Int) (x G A Z i : Nat) (vL : Int) (ow own : Bool) (q : Q) (ph : Ph) (α : Dp) : Prop where
  sc : Scene t n k m cg x G A Z i vL ow q ph
  th : DpTh vL Z i (own = ow) ph α
  rs : α.win = true → α.res x Z i q
  lv : ph = .live → room (classOf Z).toNat ≤ q.lv i ∧ x ∉ q.F

section
variable {t n k m x G A Z i : Nat} {vL cg : Int} {ow own : Bool} {q q' : Q} {ph : Ph} {α α' : Dp}

theorem DpTh.win_ph' {b : Prop} (h : DpTh vL Z i b ph α) (w : α.win = true) : ph ≠ .live := by
  cases α with
  | fin Z' i' η =>
    obtain ⟨_, _, h⟩ := h
    cases η with
    | over => cases h
    | go => exact h.2.2.1
  | count => obtain ⟨_, _, rfl⟩ := h; decide
  | give => obtain ⟨rfl, _⟩ := h; decide
  | over E =>
    rcases h with ⟨_, rfl⟩ | ⟨rfl, _⟩
    · decide
    · cases w
  | see => cases w
  | ask => cases w
  | mark => cases w
  | help => cases w

theorem Solo.step (S : Solo t n k m cg x G A Z i vL ow own q ph α) (hh : hd q.F ≤ n) (hl : (G : Int) < cg) (ho : α.over? = false) (ht : dpTurn t n k m cg own x G q α = (q', α')) : ∃ ph', Solo t n k m cg x G A Z i vL ow own q' ph' α' := by
  obtain ⟨ph', W⟩ := scene_step S.sc S.th S.rs S.lv hh hl ho ht
  refine ⟨ph', W.sc, W.th, W.res, fun h => ?_⟩
  have e : ph = .live := by
    by_cases e : ph = .live
    · exact e
    · exact absurd h (W.up.1 e)
  have hw : α.win = false := by
    cases hw : α.win with
    | false => rfl
    | true => exact absurd e (S.th.win_ph' hw)
  obtain ⟨k1, k2, _, _⟩ := W.kin hw
  rw [k1, k2]; exact S.lv e

/-- where a step is done: not at a chunk's word; at the object's head, which is loaded; at one of its cells -/
theorem Solo.at_ (S : Solo t n k m cg x G A Z i vL ow own q ph α) (ho : α.over? = false) : α.at t n x < 6 + t + n * 2 + k * 3 ∨ (α.reads = true ∧ α.at t n x = A) ∨ (A < α.at t n x ∧ α.at t n x ≤ A + Z) := by
  have O := S.sc.ob
  have hx := O.xn
  have T := S.th
  have hp : ∀ η, HpTh vL Z ph η → Hp.at t x η < 6 + t + n * 2 + k * 3 ∨ (A < Hp.at t x η ∧ Hp.at t x η ≤ A + Z) := by
    intro η h
    cases η with
    | over => cases h
    | go v Z' j u =>
      obtain ⟨hv, hZ, _, _⟩ := h
      subst hZ
      have had : adOf v = A := by rw [hv]; exact O.mad
      by_cases hj : Z' ≤ j
      · left
        have e : Hp.at t x (.go v Z' j u) = 6 + t + x * 2 := if_pos hj
        rw [e]; omega
      · right
        have e : Hp.at t x (.go v Z' j u) = adOf v + 1 + j := if_neg hj
        rw [e, had]; omega
  cases α with
  | over => cases ho
  | see => left; show 6 + t + x * 2 < _; omega
  | ask v =>
    right; left
    refine ⟨rfl, ?_⟩
    show adOf v = A
    rcases T with e | ⟨e, _⟩
    · rw [e]; exact O.ad
    · rw [e]; exact O.mad
  | mark v Z' => left; show 6 + t + x * 2 < _; omega
  | help η => exact (hp η T).imp id Or.inr
  | fin Z' i' η => exact (hp η T.2.2).imp id Or.inr
  | count Z' i' =>
    left
    have := O.o.ik
    obtain ⟨_, rfl, _⟩ := T
    show 6 + t + n * 2 + i' * 3 + 1 < _
    omega
  | give γ =>
    left
    cases γ with
    | saw h c => show 6 + t + x * 2 + 1 < _; omega
    | _ => show (1 : Nat) < _; omega

/-- an object that lives, and one who begins -/
theorem Tame.solo {nx : Nat} {gen : Nat → Nat} {l1 l2 : List Ox} {o : Ox} (C : Tame t n k m q nx gen (l1 ++ o :: l2)) (hG : Good t n k m cg 600 3) (hn : n ≤ 65535) : Solo t n k m cg o.x o.g o.a o.Z o.i (q.sw o.x) o.own own q .live .see := by
  have ho : o ∈ l1 ++ o :: l2 := by simp
  have I := C.is hG hn ho
  refine ⟨⟨⟨I.obj, by rw [I.st]; decide, I.gn, I.ad, by rw [I.vr]; decide, (C.ok o ho).x1⟩, rfl, by rw [← I.ad]; exact I.sz, by rw [← I.ad]; exact I.ow, C.wb, fun j hj => Or.inr ?_⟩, trivial, (fun h => by cases h), fun _ => ⟨by rw [I.rm]; exact C.room_le, (C.li o ho).nf⟩⟩
  rw [Nat.add_assoc]
  exact (C.li o ho).nt (1 + j) (by omega) (by omega)
end

end Go.Proofs.YtbmiieaakbcncabGreat
