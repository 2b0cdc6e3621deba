/- Objects are made by one alone, one behind the other: which steps that takes, and what it comes to. -/
import Derived.Test.YtocmkmeikcejjaaAllocSound
import Derived.Test.YtocmkmeikcejjaaPlaceLone
namespace Go.Proofs.Ytocmkmeikcejjaa
open Go.RowKit

section
variable {t n k m κ : Nat} {z : Int} {own : Bool}

theorem place_over {τ : Pl} {q : Q} {x G : Nat} {y' : Y} {τ' : Pl} {σ : Nat} (ht : turn k m κ (base t n k m) q.y τ = (y', τ')) : alTurn t n k m κ z own σ q (.place x G τ) = alPlace q x G (y', τ') := by
  simp only [alTurn, ht]

/-- the steps by which words are got, and what follows -/
theorem Goes.lift {x G : Nat} {N : Nat} {y0 : Y} {τ : Pl} {y' : Y} {τ' : Pl} (g : Goes k m κ (base t n k m) N y0 τ y' τ') : ∀ {σ : Nat} {q : Q}, q.y = y0 → ∀ {M : Nat} {q' : Q} {β α' : Al}, (alPlace { q with y := y' } x G (y', τ')).2 = β → β.over? = false → Runs t n k m κ z own M (σ + N) { q with y := y' } β q' α' → Runs t n k m κ z own (N + M) σ q (.place x G τ) q' α' := by
  induction g with
  | @one y τ y' τ' ho ht h =>
    intro σ q hq M q' β α' hβ hb r
    subst hq
    have e := place_over (z := z) (own := own) (x := x) (G := G) (σ := σ) ht
    have e2 : alPlace q x G (y', τ') = ({ q with y := y' }, β) := by
      subst hβ
      rcases pl_fate τ' with hf | ⟨a, i, rfl⟩ | rfl
      · rw [h] at hf; cases hf
      · rfl
      · rfl
    rw [Nat.add_comm 1 M]
    exact .more rfl (e.trans e2) hb r
  | @more N y τ y1 τ1 y' τ' ho ht h g ih =>
    intro σ q hq M q' β α' hβ hb r
    subst hq
    have e := place_over (z := z) (own := own) (x := x) (G := G) (σ := σ) ht
    rw [alPlace_on h] at e
    rw [show N + 1 + M = N + M + 1 by omega]
    exact .more rfl e rfl (ih (q := { q with y := y1 }) rfl (β := β) hβ hb (by rw [show σ + 1 + N = σ + (N + 1) by omega]; exact r))

/-- an object was made -/
def Q.made (q : Q) (x : Nat) (F : List Nat) (y' : Y) (a i κ : Nat) (z : Int) (own : Bool) : Q :=
  ⟨q.c + 1, q.lk, F, y', upd q.lv i (q.lv i + room κ), upd q.sw x (packS 1 a (genOf (q.sw x)) 0), upd (upd q.dw a (packOw 1 z x (genOf (q.sw x)) own)) a (packOw 2 z x (genOf (q.sw x)) own), q.db⟩

/-- there was no room -/
def Q.back (q : Q) (x : Nat) (F : List Nat) (y' : Y) : Q := ⟨q.c + 1 + 1, upd q.lk x (hd F), x :: F, y', q.lv, q.sw, q.dw, q.db⟩

theorem runs_none {q : Q} {σ : Nat} (h : q.F = []) : Runs t n k m κ z own 1 σ q (.take .idle) q (.over 7 0 (σ + 1)) := by
  refine .one rfl ?_ rfl
  simp only [alTurn, tkTurn, h, alTake]
  rw [← h]

theorem runs_take {q : Q} {σ x : Nat} {F : List Nat} (h : q.F = x :: F) {M : Nat} {q' : Q} {α' : Al} (g : Runs t n k m κ z own M (σ + 4) { q with c := q.c + 1, F := F } (.place x (genOf (q.sw x)) .see) q' α') : Runs t n k m κ z own (M + 4) σ q (.take .idle) q' α' := by
  refine .more (q1 := q) (α1 := .take (.saw x q.c)) rfl ?_ rfl (.more (q1 := q) (α1 := .take (.lnk x q.c (q.lk x))) rfl ?_ rfl (.more (q1 := { q with c := q.c + 1, F := F }) (α1 := .ask x) rfl ?_ rfl (.more (q1 := { q with c := q.c + 1, F := F }) (α1 := .place x (genOf (q.sw x)) .see) rfl ?_ rfl g)))
  · simp only [alTurn, tkTurn, h, alTake]
    rw [← h]
  · simp only [alTurn, tkTurn, alTake]
  · simp only [alTurn, tkTurn, h, alTake, if_true, List.tail_cons]
  · rfl

theorem runs_made {q : Q} {σ x : Nat} {F : List Nat} (h : q.F = x :: F) {N : Nat} {y' : Y} {a i : Nat} (g : Goes k m κ (base t n k m) N q.y .see y' (.won a i)) : Runs t n k m κ z own (N + 4 + 4) σ q (.take .idle) (q.made x F y' a i κ z own) (.over 0 (packH x (genOf (q.sw x))) (σ + 4 + N + 2 + 1)) := by
  refine runs_take h ?_
  refine Goes.lift (q := { q with c := q.c + 1, F := F }) g rfl (β := .count x (genOf (q.sw x)) a i) rfl rfl ?_
  exact .more (α1 := .head x (genOf (q.sw x)) a i) rfl rfl rfl (.more (α1 := .shw x (genOf (q.sw x)) a i) rfl rfl rfl (.more (α1 := .ready x (genOf (q.sw x)) a i (σ + 4 + N + 1 + 1 + 1)) rfl rfl rfl (.one rfl rfl rfl)))

theorem runs_back {q : Q} {σ x : Nat} {F : List Nat} (h : q.F = x :: F) {N : Nat} {y' : Y} (g : Goes k m κ (base t n k m) N q.y .see y' .none) : Runs t n k m κ z own (N + 3 + 4) σ q (.take .idle) (q.back x F y') (.over 6 0 (σ + 4 + N + 2 + 1)) := by
  refine runs_take h ?_
  refine Goes.lift (q := { q with c := q.c + 1, F := F }) g rfl (β := .give x (genOf (q.sw x)) .idle) rfl rfl ?_
  refine .more (α1 := .give x (genOf (q.sw x)) (.saw (hd F) (q.c + 1))) rfl rfl rfl (.more (α1 := .give x (genOf (q.sw x)) (.lnk (hd F) (q.c + 1))) rfl rfl rfl (.one rfl ?_ rfl))
  simp only [alTurn, gvTurn, if_true, alGive]
  rfl

end

/-- between objects that are made alone: chunks below nx are open ones; free slots are in their first life; all words that are used live; what isn't used is nought -/
structure Calm (t n k m : Nat) (q : Q) (nx : Nat) : Prop where
  al : Alone k q.y nx
  sw : ∀ x, x ∈ q.F → q.sw x = 8388608
  lv : ∀ i, i < k → q.lv i = (q.y.ck i).us
  us : ∀ i, i < k → (q.y.ck i).us ≤ m
  dw : ∀ i, i < k → ∀ u, (q.y.ck i).us ≤ u → u < m → q.dw (base t n k m i + u) = 0
  db : ∀ i, q.db i = 0

theorem calm0 (t n k m : Nat) : Calm t n k m (Q.new n) 0 := ⟨alone0 k, fun _ _ => rfl, fun _ _ => rfl, fun _ _ => Nat.zero_le _, fun _ _ _ _ _ => rfl, fun _ => rfl⟩

theorem gen1 : genOf 8388608 = 1 := by decide

/-- what was got is of a chunk that is open, of the class -/
theorem Got.won_is {k m κ : Nat} {bs : Nat → Nat} {y y' : Y} {nx nx' a i : Nat} (A : Alone k y nx) (hκ : κ < 4) (hm : room κ ≤ m) (g : Got k m κ bs y nx y' nx' (.won a i)) : i < k ∧ a = bs i + (y.ck i).us ∧ (y.ck i).us + room κ ≤ m ∧ (∃ sp, y'.ck i = ⟨1, κ, (y.ck i).us + room κ, sp⟩) ∧ ∀ j, j ≠ i → y'.ck j = y.ck j := by
  cases g with
  | fit _ h hu =>
    have hlt := (A.opn κ hκ i h).1
    have := A.le
    exact ⟨by omega, rfl, hu, ⟨(y.ck i).sp, by simp only [upd_same]⟩, fun j hj => by simp only [upd_other _ _ _ _ hj]⟩
  | new hno h =>
    have h0 := (A.fre nx (Nat.le_refl _) h).2
    refine ⟨h, by rw [h0]; rfl, by omega, ⟨(y.ck nx).sp + 1, by simp only [upd_same]; rw [h0, Nat.zero_add]⟩, fun j hj => by simp only [upd_other _ _ _ _ hj]⟩

theorem base_apart {t n k m i j u v : Nat} (hu : u < m) (hv : v < m) (hij : j ≠ i) : base t n k m i + u ≠ base t n k m j + v := by
  unfold base
  intro e
  rcases Nat.lt_or_gt_of_ne hij with h | h
  · have := Nat.mul_le_mul_right m (Nat.succ_le_of_lt h)
    rw [Nat.succ_mul] at this
    omega
  · have := Nat.mul_le_mul_right m (Nat.succ_le_of_lt h)
    rw [Nat.succ_mul] at this
    omega

section
variable {t n k m κ nx : Nat} {q : Q} {z : Int} {own : Bool}

theorem Calm.made (C : Calm t n k m q nx) (hκ : κ < 4) (hm : 17 ≤ m) {x : Nat} {F : List Nat} (hF : q.F = x :: F) (hnd : q.F.Nodup) {y' : Y} {nx' a i : Nat} (g : Got k m κ (base t n k m) q.y nx y' nx' (.won a i)) : Calm t n k m (q.made x F y' a i κ z own) nx' := by
  have hr := room_bd κ
  obtain ⟨hik, ha, hu, ⟨sp, hck⟩, hoth⟩ := g.won_is C.al hκ (by omega)
  rw [hF] at hnd
  refine ⟨g.alone C.al hκ, fun v hv => ?_, fun j hj => ?_, fun j hj => ?_, fun j hj v h1 h2 => ?_, C.db⟩
  · show upd q.sw x _ v = _
    have hne : v ≠ x := fun e => (List.nodup_cons.1 hnd).1 (e ▸ hv)
    rw [upd_other _ _ _ _ hne]
    exact C.sw v (by rw [hF]; exact List.mem_cons_of_mem _ hv)
  · show upd q.lv i (q.lv i + room κ) j = (y'.ck j).us
    by_cases e : j = i
    · subst e; rw [upd_same, hck, C.lv j hj]
    · rw [upd_other _ _ _ _ e, hoth j e]; exact C.lv j hj
  · show (y'.ck j).us ≤ m
    by_cases e : j = i
    · subst e; rw [hck]; exact hu
    · rw [hoth j e]; exact C.us j hj
  · show upd (upd q.dw a _) a _ _ = 0
    have h1' : (y'.ck j).us ≤ v := h1
    have hne : base t n k m j + v ≠ a := by
      rw [ha]
      by_cases e : j = i
      · subst e; rw [hck] at h1'
        have h2' : (q.y.ck j).us + room κ ≤ v := h1'
        omega
      · exact base_apart h2 (by omega) (Ne.symm e)
    rw [upd_other _ _ _ _ hne, upd_other _ _ _ _ hne]
    refine C.dw j hj v ?_ h2
    by_cases e : j = i
    · subst e
      rw [hck] at h1'
      have h2' : (q.y.ck j).us + room κ ≤ v := h1'
      omega
    · rw [hoth j e] at h1'; exact h1'

theorem Calm.back (C : Calm t n k m q nx) {x : Nat} {F : List Nat} (hF : q.F = x :: F) : Calm t n k m (q.back x F q.y) nx :=
  ⟨C.al, fun v hv => C.sw v (by rw [hF]; exact hv), C.lv, C.us, C.dw, C.db⟩

/-- the object that was made lives -/
theorem Calm.lives {Z : Nat} (C : Calm t n k m q nx) (hκ : κ < 4) (hm : 17 ≤ m) (z1 : 1 ≤ Z) (z2 : Z ≤ 16) (kz : classOf Z = κ) {x : Nat} {F : List Nat} (hF : q.F = x :: F) (hx : x < n) {y' : Y} {nx' a i : Nat} (g : Got k m κ (base t n k m) q.y nx y' nx' (.won a i)) {s' : Mm} {σ' : Nat} (T : Town t n k m s' σ' (q.made x F y' a i κ Z own)) : Lives t n k m s' σ' x 1 a i (q.y.ck i).us own Z κ (y'.ck i) := by
  have hr := room_bd κ
  obtain ⟨hik, ha, hu, ⟨sp, hck⟩, hoth⟩ := g.won_is C.al hκ (by omega)
  have hg : genOf (q.sw x) = 1 := by rw [C.sw x (by rw [hF]; simp)]; exact gen1
  have hin := base_in (t := t) (n := n) hik hu
  rw [← ha] at hin
  have hsr := size_room z1 kz
  refine ⟨z1, z2, kz, hκ, hx, Nat.le_refl _, by omega, ?_, ?_, fun j h1 h2 => ?_, ha, hik, hu, T.yard.ok i hik, T.yard.ckv i hik, by rw [hck], by rw [hck]⟩
  · rw [T.swv x hx]
    show upd q.sw x _ x = _
    rw [upd_same, hg]
  · rw [T.dwv a hin.1]
    show upd (upd q.dw a _) a _ a = _
    rw [upd_same, hg]
  · rw [T.dwv (a + j) (by omega)]
    show upd (upd q.dw a _) a _ (a + j) = _
    rw [upd_other _ _ _ _ (by omega), upd_other _ _ _ _ (by omega), ha, Nat.add_assoc]
    exact C.dw i hik _ (by omega) (by omega)

end

end Go.Proofs.Ytocmkmeikcejjaa
