/- An object that is being moved: to read it, to lay a word of it, told without a program. -/
import Derived.Test.YtcdmokbamakomaaGreatAccAwake
namespace Go.Proofs.YtcdmokbamakomaaGreat
open Go.RowKit

/-- an object of two words is being moved, in a version -/
structure Halt (q : Q) (v : Int) (A V : Nat) : Prop where
  s : Scn 1 4 2 20 0 1 2 0 v false q
  st : v % 8 = 2
  ad : adOf v = A
  vr : verOf' v = V
  vb : V ≤ 65535

theorem froze_dec (z : Int) (V : Nat) (h0 : 0 ≤ z) (h1 : z ≤ 1099511627775) (hV : V ≤ 4194303) : vOf (packX z true V) = z ∧ frB (packX z true V) = true ∧ crOf (packX z true V) = V := by
  have e : packX z true V = z + V * 1099511627776 + 9223372036854775808 := by
    unfold packX
    rw [if_pos rfl, cut_id z 40 h0 (by simp; omega), cut_id V 22 (by omega) (by simp; omega)]
  rw [e]
  unfold vOf frB crOf
  exact ⟨by omega, decide_eq_true (by omega), by rw [if_pos (by omega)]; omega⟩

section
variable {q : Q} {v : Int} {A V σ : Nat}

def wtR (kd : Int) : Wt := ⟨kd, 65536, 0, 9, 0⟩

theorem wtR_at (H : Halt q v A V) (kd : Int) : (wtR kd).at v = A + 1 := by
  unfold Wt.at wtR
  rw [H.ad]; rfl

theorem Halt.read (H : Halt q v A V) {c : Int} (hc : q.dw (A + 1) = c) : ARuns 1 4 2 20 (wtR 1) false 0 1 true 4 σ q .see q (.over 0 (vOf c) (σ + 3)) := by
  have r := H.s.reads (W := wtR 1) (σ := σ) (by decide) (by decide) (c := c) (by rw [wtR_at H]; exact hc) rfl
  have ho : (wtR 1).other c = false := by unfold Wt.other wtR; simp
  rwa [ho, if_neg (by decide)] at r

theorem Halt.write (H : Halt q v A V) (hc : q.dw (A + 1) = 0) : ARuns 1 4 2 20 (wtR 2) false 0 1 false 4 σ q .see { q with dw := upd q.dw (A + 1) 9 } (.over 0 0 (σ + 4)) := by
  have r := H.s.lays (W := wtR 2) (σ := σ) (by decide) (by decide) (c := 0) (by rw [wtR_at H]; exact hc) (by unfold Wt.reads Wt.other wtR; simp) (by rw [frB_val (by decide)]; rfl)
  have hw : (wtR 2).w = 9 := packX_val (by decide) (by decide)
  rwa [wtR_at H, hw, show vOf 0 = 0 from rfl] at r

theorem stop_dec (H : Halt q v A V) : stopW v % 8 = 1 ∧ adOf (stopW v) = A ∧ genOf (stopW v) = 1 ∧ verOf' (stopW v) = V + 1 := by
  have hv := H.vb
  have hr := H.vr
  have e : stopW v = packS ((1 : Nat) : Int) (adOf v) (genOf v) ((verOf' v + 1 : Nat) : Int) := by unfold stopW; simp
  have d : stopW v % 8 = 1 ∧ adOf (stopW v) = adOf v ∧ genOf (stopW v) = genOf v ∧ verOf' (stopW v) = verOf' v + 1 := by
    have d0 := packS_dec (st := 1) (A := adOf v) (G := genOf v) (V := verOf' v + 1) (by decide) (adOf_le v) (genOf_le v) (by omega)
    rw [← e] at d0
    obtain ⟨a1, a2, a3, a4⟩ := d0
    generalize stopW v = u at a1 a2 a3 a4 ⊢
    exact ⟨a1, a2, a3, a4⟩
  obtain ⟨d1, d2, d3, d4⟩ := d
  exact ⟨d1, d2.trans H.ad, d3.trans H.s.gn, by rw [d4, hr]⟩

theorem Halt.stopped (H : Halt q v A V) : Scn 1 4 2 20 0 1 2 0 (stopW v) false { q with sw := upd q.sw 0 (stopW v) } := by
  obtain ⟨d1, d2, d3, d4⟩ := stop_dec H
  have O := H.s.o
  refine ⟨(show upd q.sw 0 (stopW v) 0 = stopW v from upd_same q.sw 0 (stopW v)), ⟨stopW_wd _, by rw [d1]; rfl, O.z1, O.z2, O.ik, by rw [d2, ← H.ad]; exact O.ad⟩, by rw [d1]; decide, d3, ?_, ?_, H.s.wd, H.s.xn⟩
  · rw [d2, ← H.ad]; exact H.s.sz
  · rw [d2, ← H.ad]; exact H.s.ow

theorem Halt.stop (H : Halt q v A V) (hc : q.dw (A + 1) = packX 3 true V) : ARuns 1 4 2 20 (wtR 2) false 0 1 false 8 σ q .see { q with sw := upd q.sw 0 (stopW v), dw := upd q.dw (A + 1) 9 } (.over 0 3 (σ + 8)) := by
  obtain ⟨d1, d2, d3, d4⟩ := stop_dec H
  obtain ⟨c1, c2, c3⟩ := froze_dec 3 V (by decide) (by decide) (by have := H.vb; omega)
  have hat := wtR_at H 2
  have hat2 : (wtR 2).at (stopW v) = A + 1 := by unfold Wt.at wtR; rw [d2]; rfl
  have hw : (wtR 2).w = 9 := packX_val (by decide) (by decide)
  have hr : ∀ c, (wtR 2).reads c = false := fun c => by unfold Wt.reads Wt.other wtR; simp
  have r := H.stopped.lays (W := wtR 2) (σ := σ + 1 + 1 + 1 + 1) (by decide) (by decide) (c := packX 3 true V) (by rw [hat2]; exact hc) (hr _) (by rw [c2, c3, d4, Bool.true_and]; exact decide_eq_false (by omega))
  rw [hat2, hw, c1] at r
  refine .more (by simp) rfl H.s.good_see H.s.turn_see rfl (.more (by simp) rfl (H.s.good_ask _) (H.s.turn_ask (by decide) (by decide) _) rfl (.more (q1 := q) (α1 := .stop v) (by simp) rfl ⟨⟨0, H.s.o⟩, by decide, by decide, H.s.st⟩ ?_ rfl (.more (q1 := { q with sw := upd q.sw 0 (stopW v) }) (α1 := .see) (by simp) rfl H.s.o.wd ?_ rfl r)))
  · simp only [acTurn, hat, hc, acLoad, hr, c2, c3, H.vr, H.st, decide_true, Bool.and_self, Bool.false_eq_true, if_false, if_true]
  · simp only [acTurn, H.s.sw, if_true]
end

end Go.Proofs.YtcdmokbamakomaaGreat
