/- An object is let go by one who is alone: the steps, and what they come to; what stays true between calls. No program in it. -/
import Derived.Test.YtbmiieaakbcncaaGreatDropRun
namespace Go.Proofs.YtbmiieaakbcncaaGreat
open Go.RowKit

theorem packS_all (st A G V : Nat) (h1 : st ≤ 7) (h2 : A ≤ 1048575) (h3 : G ≤ 65535) (h4 : V ≤ 4194303) : packS st A G V = st + A * 8 + G * 8388608 + V * 549755813888 := by
  unfold packS
  rw [cut_id st 3 (by omega) (by simp; omega), cut_id A 20 (by omega) (by simp; omega), cut_id G 16 (by omega) (by simp; omega), cut_id V 22 (by omega) (by simp; omega)]

/-- what a slot's word holds that was packed -/
theorem packS_dec {st A G V : Nat} (h1 : st ≤ 7) (h2 : A ≤ 1048575) (h3 : G ≤ 65535) (h4 : V ≤ 4194303) : packS st A G V % 8 = st ∧ adOf (packS st A G V) = A ∧ genOf (packS st A G V) = G ∧ verOf' (packS st A G V) = V := by
  rw [packS_all st A G V h1 h2 h3 h4]
  unfold adOf genOf verOf'
  refine ⟨?_, ?_, ?_, ?_⟩ <;> omega

theorem genOf_le' (v : Int) : genOf v ≤ 65535 := genOf_le v

theorem mark_dec {v : Int} (hv : verOf' v < 4194303) : markW v % 8 = 4 ∧ adOf (markW v) = adOf v ∧ genOf (markW v) = genOf v ∧ verOf' (markW v) = verOf' v + 1 := by
  have e : markW v = packS ((4 : Nat) : Int) (adOf v) (genOf v) ((verOf' v + 1 : Nat) : Int) := by unfold markW; simp
  rw [e]
  exact packS_dec (by decide) (adOf_le v) (genOf_le v) (by omega)

/-- cells behind a place are frozen, so many -/
def frz (dw : Nat → Int) (a V j : Nat) : Nat → Int := fun b => if a < b ∧ b ≤ a + j then froze (dw b) V else dw b

theorem frz0 (dw : Nat → Int) (a V : Nat) : frz dw a V 0 = dw := by
  funext b
  unfold frz
  rw [if_neg (by omega)]
theorem frz_next (dw : Nat → Int) (a V j : Nat) : upd (frz dw a V j) (a + 1 + j) (froze (dw (a + 1 + j)) V) = frz dw a V (j + 1) := by
  funext b
  by_cases e : b = a + 1 + j
  · subst e
    rw [upd_same]
    unfold frz
    rw [if_pos (by omega)]
  · rw [upd_other _ _ _ _ e]
    unfold frz
    by_cases h : a < b ∧ b ≤ a + j
    · rw [if_pos h, if_pos (by omega)]
    · rw [if_neg h, if_neg (by omega)]
theorem frz_at (dw : Nat → Int) (a V j : Nat) : frz dw a V j (a + 1 + j) = dw (a + 1 + j) := by
  unfold frz
  rw [if_neg (by omega)]
theorem frz_out (dw : Nat → Int) (a V j b : Nat) (h : ¬ (a < b ∧ b ≤ a + j)) : frz dw a V j b = dw b := by
  unfold frz
  rw [if_neg h]

def Q.fz (q : Q) (a V j : Nat) : Q := { q with dw := frz q.dw a V j }

/-- an object lives no more: its slot's word is another one, its cells are frozen, its words are counted no more -/
def Q.end (q : Q) (cg : Int) (x : Nat) (v : Int) (Z i : Nat) : Q :=
  { q with lv := upd q.lv i (q.lv i - room (classOf Z).toNat), sw := upd q.sw x (behindW cg v), dw := frz q.dw (adOf v) (verOf' v + 1) Z }

/-- and its slot is given back -/
def Q.gone (q : Q) (cg : Int) (x : Nat) (v : Int) (Z i : Nat) : Q := { q.end cg x v Z i with c := q.c + 1, lk := upd q.lk x (hd q.F), F := x :: q.F }

section
variable {t n k m : Nat} {cg : Int} {own : Bool} {x G : Nat}

/-- the cells are frozen one by one -/
theorem fin_runs {q : Q} {v : Int} {Z i : Nat} (O : ∃ i, Obj9 t n k m v Z i) (hdw : ∀ a, Wd (q.dw a)) (hc : ∀ j, j < Z → frozenIn (q.dw (adOf v + 1 + j)) (verOf' v) = false) {M : Nat} {q' : Q} {α' : Dp} (g : DRuns t n k m cg own x G M (q.fz (adOf v) (verOf' v) Z) (.fin Z i (.go v Z Z none)) q' α') : ∀ d j, j + d = Z → DRuns t n k m cg own x G (2 * d + M) (q.fz (adOf v) (verOf' v) j) (.fin Z i (.go v Z j none)) q' α' := by
  intro d
  induction d with
  | zero => intro j hj; obtain rfl : j = Z := by omega
            rw [Nat.mul_zero, Nat.zero_add]; exact g
  | succ d ih =>
    intro j hj
    have hlt : ¬ Z ≤ j := by omega
    rw [show 2 * (d + 1) + M = (2 * d + M) + 1 + 1 by omega]
    refine .more (q1 := q.fz (adOf v) (verOf' v) j) (α1 := .fin Z i (.go v Z j (some (q.dw (adOf v + 1 + j))))) rfl ⟨⟨O, fun u hu => by cases hu⟩, rfl⟩ ?_ rfl (.more (q1 := q.fz (adOf v) (verOf' v) (j + 1)) (α1 := .fin Z i (.go v Z (j + 1) none)) rfl ⟨⟨O, fun u hu => by cases hu; exact hdw _⟩, rfl⟩ ?_ rfl (ih (j + 1) (by omega)))
    · have e : (q.fz (adOf v) (verOf' v) j).dw (adOf v + 1 + j) = q.dw (adOf v + 1 + j) := frz_at _ _ _ _
      simp only [dpTurn, hpTurn, hlt, if_false, e, hc j (by omega)]
      rfl
    · have e : (q.fz (adOf v) (verOf' v) j).dw (adOf v + 1 + j) = q.dw (adOf v + 1 + j) := frz_at _ _ _ _
      simp only [dpTurn, hpTurn, hlt, if_false, e, if_true]
      have := frz_next q.dw (adOf v) (verOf' v) j
      simp only [Q.fz, dpFin, this]

theorem Obj9.mark {v : Int} {Z i : Nat} (O : Obj9 t n k m v Z i) (hv : verOf' v < 4194303) : Obj9 t n k m (markW v) Z i := by
  obtain ⟨d1, d2, _, _⟩ := mark_dec hv
  exact ⟨packS_wd _ _ _ _, by rw [d1]; rfl, O.z1, O.z2, O.ik, by rw [d2]; exact O.ad⟩

theorem behind_mark {v : Int} (hv : verOf' v < 4194303) : behindW cg (markW v) = behindW cg v := by
  unfold behindW
  rw [(mark_dec hv).2.2.1]

/-- an object that is no more ahead of being let go: how it goes from the mark on, in one's hand -/
theorem mark_runs {q : Q} {v : Int} {Z i : Nat} (O : Obj9 t n k m v Z i) (hdw : ∀ a, Wd (q.dw a)) (hv : verOf' v < 4194303) (hc : ∀ j, j < Z → frozenIn (q.dw (adOf v + 1 + j)) (verOf' v + 1) = false) (hw : q.sw x = v) {M : Nat} {q' : Q} {α' : Dp} (g : DRuns t n k m cg own x G M { q with sw := upd q.sw x (behindW cg v), dw := frz q.dw (adOf v) (verOf' v + 1) Z } (.count Z i) q' α') : DRuns t n k m cg own x G (2 * Z + (M + 1) + 1) q (.mark v Z) q' α' := by
  obtain ⟨d1, d2, d3, d4⟩ := mark_dec hv
  have O' := O.mark hv
  have ci : (chunkOf t n k m (adOf v)).toNat = i := by rw [O.c1]; simp
  refine .more (q1 := { q with sw := upd q.sw x (markW v) }) (α1 := .fin Z i (.go (markW v) Z 0 none)) rfl ⟨i, O⟩ ?_ rfl ?_
  · simp only [dpTurn, hw, if_true, ci]
  · have f := fin_runs (cg := cg) (own := own) (x := x) (G := G) (i := i) (q := { q with sw := upd q.sw x (markW v) }) (v := markW v) (Z := Z) ⟨i, O'⟩ hdw (fun j hj => by rw [d2, d4]; exact hc j hj) (M := M + 1) (q' := q') (α' := α') ?_ Z 0 (by omega)
    · rwa [show Q.fz { q with sw := upd q.sw x (markW v) } (adOf (markW v)) (verOf' (markW v)) 0 = { q with sw := upd q.sw x (markW v) } by unfold Q.fz; rw [frz0]] at f
    · refine .more (q1 := { q with sw := upd q.sw x (behindW cg v), dw := frz q.dw (adOf v) (verOf' v + 1) Z }) (α1 := .count Z i) rfl ⟨⟨⟨i, O'⟩, fun u hu => by cases hu⟩, rfl⟩ ?_ rfl g
      have e : (Q.fz { q with sw := upd q.sw x (markW v) } (adOf (markW v)) (verOf' (markW v)) Z).sw x = markW v := upd_same _ _ _
      simp only [dpTurn, hpTurn, Nat.le_refl, if_true, hpEnd, e, dpFin]
      simp only [Q.fz, d2, d4, upd_upd, behind_mark hv]

theorem give_runs {q : Q} (hxF : x ∉ q.F) (hh : hd q.F ≤ n) : DRuns t n k m cg own x G 3 q (.give .idle) { q with c := q.c + 1, lk := upd q.lk x (hd q.F), F := x :: q.F } (.over 0) := by
  refine .more (q1 := q) (α1 := .give (.saw (hd q.F) q.c)) rfl ⟨hxF, trivial, rfl⟩ rfl rfl (.more (q1 := { q with lk := upd q.lk x (hd q.F) }) (α1 := .give (.lnk (hd q.F) q.c)) rfl ⟨hxF, ⟨hh, Nat.le_refl _, fun _ => rfl⟩, rfl⟩ rfl rfl (.one rfl ⟨hxF, ⟨hh, upd_same _ _ _, Nat.le_refl _, fun _ => rfl⟩, rfl⟩ ?_ rfl))
  simp only [dpTurn, gvTurn, if_true, dpGive]

/-- the count, and what follows it -/
theorem count_runs {q : Q} {Z i : Nat} (z1 : 1 ≤ Z) (z2 : Z ≤ 16) (hik : i < k) (hlv : room (classOf Z).toNat ≤ q.lv i) (hxF : x ∉ q.F) (hh : hd q.F ≤ n) (hl : (G : Int) < cg) : DRuns t n k m cg own x G 4 q (.count Z i) { q with lv := upd q.lv i (q.lv i - room (classOf Z).toNat), c := q.c + 1, lk := upd q.lk x (hd q.F), F := x :: q.F } (.over 0) := by
  refine .more (q1 := { q with lv := upd q.lv i (q.lv i - room (classOf Z).toNat) }) (α1 := .give .idle) rfl ⟨z1, z2, hik, hlv⟩ ?_ rfl (give_runs (q := { q with lv := upd q.lv i (q.lv i - room (classOf Z).toNat) }) hxF hh)
  simp only [dpTurn, show ¬ cg ≤ (G : Int) by omega, if_false]

theorem count_last {q : Q} {Z i : Nat} (z1 : 1 ≤ Z) (z2 : Z ≤ 16) (hik : i < k) (hlv : room (classOf Z).toNat ≤ q.lv i) (hl : cg ≤ (G : Int)) : DRuns t n k m cg own x G 1 q (.count Z i) { q with lv := upd q.lv i (q.lv i - room (classOf Z).toNat) } (.over 0) := by
  refine .one rfl ⟨z1, z2, hik, hlv⟩ ?_ rfl
  simp only [dpTurn, hl, if_true]

/-- whoever sees an object that lives comes to the mark -/
theorem see_runs {q : Q} {Z i : Nat} (O : Obj9 t n k m (q.sw x) Z i) (hz : szOf (q.dw (adOf (q.sw x))) = Z) (ho : ownOf (q.dw (adOf (q.sw x))) = own) (hG : genOf (q.sw x) = G) (h4 : q.sw x % 8 ≠ 4) {M : Nat} {q' : Q} {α' : Dp} (g : DRuns t n k m cg own x G M q (.mark (q.sw x) Z) q' α') : DRuns t n k m cg own x G (M + 1 + 1) q .see q' α' := by
  refine .more (q1 := q) (α1 := .ask (q.sw x)) rfl (fun _ _ => ⟨i, by rw [hz]; exact O⟩) ?_ rfl (.more (q1 := q) (α1 := .mark (q.sw x) Z) rfl ⟨i, by rw [hz]; exact O⟩ ?_ rfl g)
  · simp only [dpTurn, O.life, hG, decide_true, Bool.and_self, if_true]
  · simp only [dpTurn, dpAsk, ho, beq_self_eq_true, if_true, h4, if_false, hz]

/-- an object that lives is let go -/
theorem runs_gone {q : Q} {Z i : Nat} (O : Obj9 t n k m (q.sw x) Z i) (hdw : ∀ a, Wd (q.dw a)) (hz : szOf (q.dw (adOf (q.sw x))) = Z) (ho : ownOf (q.dw (adOf (q.sw x))) = own) (hG : genOf (q.sw x) = G) (h4 : q.sw x % 8 ≠ 4) (hv : verOf' (q.sw x) < 4194303) (hc : ∀ j, j < Z → frozenIn (q.dw (adOf (q.sw x) + 1 + j)) (verOf' (q.sw x) + 1) = false) (hlv : room (classOf Z).toNat ≤ q.lv i) (hxF : x ∉ q.F) (hh : hd q.F ≤ n) (hl : (G : Int) < cg) : DRuns t n k m cg own x G (2 * Z + 8) q .see (q.gone cg x (q.sw x) Z i) (.over 0) :=
  see_runs O hz ho hG h4 (mark_runs O hdw hv hc rfl (count_runs (q := { q with sw := upd q.sw x (behindW cg (q.sw x)), dw := frz q.dw (adOf (q.sw x)) (verOf' (q.sw x) + 1) Z }) O.z1 O.z2 O.ik hlv hxF hh hl))

theorem runs_last {q : Q} {Z i : Nat} (O : Obj9 t n k m (q.sw x) Z i) (hdw : ∀ a, Wd (q.dw a)) (hz : szOf (q.dw (adOf (q.sw x))) = Z) (ho : ownOf (q.dw (adOf (q.sw x))) = own) (hG : genOf (q.sw x) = G) (h4 : q.sw x % 8 ≠ 4) (hv : verOf' (q.sw x) < 4194303) (hc : ∀ j, j < Z → frozenIn (q.dw (adOf (q.sw x) + 1 + j)) (verOf' (q.sw x) + 1) = false) (hlv : room (classOf Z).toNat ≤ q.lv i) (hl : cg ≤ (G : Int)) : DRuns t n k m cg own x G (2 * Z + 5) q .see (q.end cg x (q.sw x) Z i) (.over 0) :=
  see_runs O hz ho hG h4 (mark_runs O hdw hv hc rfl (count_last (q := { q with sw := upd q.sw x (behindW cg (q.sw x)), dw := frz q.dw (adOf (q.sw x)) (verOf' (q.sw x) + 1) Z }) O.z1 O.z2 O.ik hlv hl))

/-- no object lives by the handle -/
theorem runs_dead {q : Q} (h : (lifeB (q.sw x % 8) && decide (genOf (q.sw x) = G)) = false) : DRuns t n k m cg own x G 1 q .see q (.over 3) := by
  refine .one rfl (fun h1 h2 => ?_) ?_ rfl
  · rw [h1, h2] at h
    simp at h
  · simp only [dpTurn, h]
    rfl

/-- it is not as is said -/
theorem runs_other {q : Q} {Z i : Nat} (O : Obj9 t n k m (q.sw x) Z i) (hz : szOf (q.dw (adOf (q.sw x))) = Z) (hG : genOf (q.sw x) = G) (ho : ownOf (q.dw (adOf (q.sw x))) ≠ own) : DRuns t n k m cg own x G 2 q .see q (.over 3) := by
  refine .more (q1 := q) (α1 := .ask (q.sw x)) rfl (fun _ _ => ⟨i, by rw [hz]; exact O⟩) ?_ rfl (.one rfl ⟨i, by rw [hz]; exact O⟩ ?_ rfl)
  · simp only [dpTurn, O.life, hG, decide_true, Bool.and_self, if_true]
  · have : (ownOf (q.dw (adOf (q.sw x))) == own) = false := by simpa using ho
    simp only [dpTurn, dpAsk, this]
    rfl
/-- no object lives by the handle -/
theorem reads_dead {q : Q} (h : (lifeB (q.sw x % 8) && decide (genOf (q.sw x) = G)) = false) : DReads t n k m cg own x G 1 q .see q (.over 3) := by
  refine .one rfl rfl (fun h1 h2 => ?_) ?_ rfl
  · rw [h1, h2] at h
    simp at h
  · simp only [dpTurn, h]
    rfl

/-- it is not as is said -/
theorem reads_other {q : Q} {Z i : Nat} (O : Obj9 t n k m (q.sw x) Z i) (hz : szOf (q.dw (adOf (q.sw x))) = Z) (hG : genOf (q.sw x) = G) (ho : ownOf (q.dw (adOf (q.sw x))) ≠ own) : DReads t n k m cg own x G 2 q .see q (.over 3) := by
  refine .more (q1 := q) (α1 := .ask (q.sw x)) rfl rfl (fun _ _ => ⟨i, by rw [hz]; exact O⟩) ?_ rfl (.one rfl rfl ⟨i, by rw [hz]; exact O⟩ ?_ rfl)
  · simp only [dpTurn, O.life, hG, decide_true, Bool.and_self, if_true]
  · have : (ownOf (q.dw (adOf (q.sw x))) == own) = false := by simpa using ho
    simp only [dpTurn, dpAsk, this]
    rfl
end

end Go.Proofs.YtbmiieaakbcncaaGreat
