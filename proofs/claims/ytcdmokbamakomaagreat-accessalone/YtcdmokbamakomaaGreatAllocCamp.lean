/- Words are got by one alone: which steps that takes, and what it comes to (no program in it). -/
import Derived.Test.YtcdmokbamakomaaGreatAllocAt
import Derived.Test.YtcdmokbamakomaaGreatAllocSound
import Derived.Test.YtcdmokbamakomaaGreatPhase
namespace Go.Proofs.YtcdmokbamakomaaGreat
open Go.RowKit

theorem upd_upd {α : Type} (f : Nat → α) (a : Nat) (u v : α) : upd (upd f a u) a v = upd f a v := by
  funext x
  by_cases h : x = a
  · subst h; rw [upd_same, upd_same]
  · rw [upd_other _ _ _ _ h, upd_other _ _ _ _ h, upd_other _ _ _ _ h]

/-- words were got by one behind the other alone: the chunks below nx are open ones, the others free -/
structure Alone (k : Nat) (y : Y) (nx : Nat) : Prop where
  le : nx ≤ k
  opd : ∀ i, i < nx → (y.ck i).st = 1
  fre : ∀ i, nx ≤ i → i < k → (y.ck i).st = 0 ∧ (y.ck i).us = 0
  opn : ∀ κ, κ < 4 → ∀ i, y.op κ = i + 1 → i < nx ∧ (y.ck i).cl = κ

theorem alone0 (k : Nat) : Alone k Y.new 0 := ⟨Nat.zero_le _, fun i h => absurd h (by omega), fun _ _ _ => ⟨rfl, rfl⟩, fun _ _ i h => absurd h (by simp [Y.new])⟩

/-- what it comes to, to get words of a class alone -/
inductive Got (k m κ : Nat) (bs : Nat → Nat) (y : Y) (nx : Nat) : Y → Nat → Pl → Prop where
  | fit (i : Nat) (h : y.op κ = i + 1) (hu : (y.ck i).us + room κ ≤ m) : Got k m κ bs y nx ⟨upd y.ck i ⟨1, κ, (y.ck i).us + room κ, (y.ck i).sp⟩, y.op⟩ nx (.won (bs i + (y.ck i).us) i)
  | new (hno : ∀ i, y.op κ = i + 1 → ¬ (y.ck i).us + room κ ≤ m) (h : nx < k) : Got k m κ bs y nx ⟨upd y.ck nx ⟨1, κ, room κ, (y.ck nx).sp + 1⟩, upd y.op κ (nx + 1)⟩ (nx + 1) (.won (bs nx) nx)
  | none (hno : ∀ i, y.op κ = i + 1 → ¬ (y.ck i).us + room κ ≤ m) (h : nx = k) : Got k m κ bs y nx y nx .none

section
variable {k m κ nx : Nat} {bs : Nat → Nat} {y : Y}

theorem goes_fit (A : Alone k y nx) (hκ : κ < 4) {i : Nat} (h : y.op κ = i + 1) (hu : (y.ck i).us + room κ ≤ m) : Goes k m κ bs 3 y .see ⟨upd y.ck i ⟨1, κ, (y.ck i).us + room κ, (y.ck i).sp⟩, y.op⟩ (.won (bs i + (y.ck i).us) i) := by
  obtain ⟨hi, hc⟩ := A.opn κ hκ i h
  have h1 := A.opd i hi
  refine .more (y1 := y) (τ1 := .ask i) rfl (by simp [turn, h]) rfl (.more (y1 := y) (τ1 := .grow i (y.ck i)) rfl (by simp [turn, h1, hc, hu]) rfl (.one rfl ?_ rfl))
  simp only [turn, if_pos, h1, hc]

theorem goes_take (hm : room κ ≤ m) {sn : Nat} (ho : y.op κ = sn) (h0 : (y.ck nx).st = 0) : Goes k m κ bs 6 y (.look sn nx) ⟨upd y.ck nx ⟨1, κ, room κ, (y.ck nx).sp + 1⟩, upd y.op κ (nx + 1)⟩ (.won (bs nx) nx) := by
  refine .more (y1 := y) (τ1 := .take sn nx (y.ck nx)) rfl (by simp [turn, h0]) rfl ?_
  refine .more (y1 := ⟨upd y.ck nx ⟨1, κ, 0, (y.ck nx).sp + 1⟩, y.op⟩) (τ1 := .opn sn nx ⟨1, κ, 0, (y.ck nx).sp + 1⟩) rfl (by simp [turn]) rfl ?_
  refine .more (y1 := ⟨upd y.ck nx ⟨1, κ, 0, (y.ck nx).sp + 1⟩, upd y.op κ (nx + 1)⟩) (τ1 := .see) rfl (by simp [turn, ho]) rfl ?_
  refine .more (y1 := ⟨upd y.ck nx ⟨1, κ, 0, (y.ck nx).sp + 1⟩, upd y.op κ (nx + 1)⟩) (τ1 := .ask nx) rfl (by simp [turn, upd_same]) rfl ?_
  refine .more (y1 := ⟨upd y.ck nx ⟨1, κ, 0, (y.ck nx).sp + 1⟩, upd y.op κ (nx + 1)⟩) (τ1 := .grow nx ⟨1, κ, 0, (y.ck nx).sp + 1⟩) rfl (by simp [turn, upd_same, hm]) rfl ?_
  refine .one rfl ?_ rfl
  simp [turn, upd_same, upd_upd]

theorem goes_look (A : Alone k y nx) (hm : room κ ≤ m) (hk : nx < k) {sn : Nat} (ho : y.op κ = sn) : ∀ d j, j + d = nx → Goes k m κ bs (d + 6) y (.look sn j) ⟨upd y.ck nx ⟨1, κ, room κ, (y.ck nx).sp + 1⟩, upd y.op κ (nx + 1)⟩ (.won (bs nx) nx)
  | 0, j, hj => by
    obtain rfl : j = nx := by omega
    have := goes_take (k := k) (bs := bs) (m := m) hm ho (A.fre j (Nat.le_refl _) hk).1
    simpa using this
  | d + 1, j, hj => by
    have h1 := A.opd j (by omega)
    have := goes_look A hm hk ho d (j + 1) (by omega)
    refine Goes.more (y1 := y) (τ1 := .look sn (j + 1)) rfl ?_ rfl this
    simp only [turn, h1, adv]
    rw [if_neg (by omega), if_pos (by omega)]

theorem goes_out (A : Alone k y nx) (hk : nx = k) {sn : Nat} : ∀ d j, j + d + 1 = k → Goes k m κ bs (d + 1) y (.look sn j) y .none
  | 0, j, hj => by
    have h1 := A.opd j (by omega)
    refine .one rfl ?_ rfl
    simp only [turn, h1, adv]
    rw [if_neg (by omega), if_neg (by omega)]
  | d + 1, j, hj => by
    have h1 := A.opd j (by omega)
    refine Goes.more (y1 := y) (τ1 := .look sn (j + 1)) rfl ?_ rfl (goes_out A hk d (j + 1) (by omega))
    simp only [turn, h1, adv]
    rw [if_neg (by omega), if_pos (by omega)]

/-- the steps from the first look at a chunk on, ahead of which the open one, if there is one, was seen to be full -/
theorem goes_full (hk0 : 1 ≤ k) (hno : ∀ i, y.op κ = i + 1 → ¬ (y.ck i).us + room κ ≤ m) {N : Nat} {y' : Y} {τ' : Pl} (g : ∀ sn, y.op κ = sn → Goes k m κ bs N y (.look sn 0) y' τ') : ∃ N', N' ≤ N + 2 ∧ Goes k m κ bs N' y .see y' τ' := by
  cases h : y.op κ with
  | zero =>
    refine ⟨N + 1, by omega, .more (y1 := y) (τ1 := .look 0 0) rfl ?_ rfl (g 0 h)⟩
    simp only [turn, h, adv]
    rw [if_pos (by omega)]
  | succ i =>
    have h2 := hno i h
    refine ⟨N + 1 + 1, by omega, .more (y1 := y) (τ1 := .ask i) rfl (by simp [turn, h]) rfl (.more (y1 := y) (τ1 := .look (i + 1) 0) rfl ?_ rfl (g (i + 1) h))⟩
    simp only [turn, adv]
    rw [if_neg (fun e => h2 e.2.2), if_pos (by omega)]

theorem Got.alone {y' : Y} {nx' : Nat} {τ' : Pl} (A : Alone k y nx) (hκ : κ < 4) (g : Got k m κ bs y nx y' nx' τ') : Alone k y' nx' := by
  cases g with
  | fit i h hu =>
    obtain ⟨hi, hc⟩ := A.opn κ hκ i h
    refine ⟨A.le, fun j hj => ?_, fun j h1 h2 => ?_, fun c hcc j hj => ?_⟩
    · by_cases e : j = i
      · subst e; simp [upd_same]
      · simp only [upd_other _ _ _ _ e]; exact A.opd j hj
    · have e : j ≠ i := by omega
      simp only [upd_other _ _ _ _ e]; exact A.fre j h1 h2
    · obtain ⟨a1, a2⟩ := A.opn c hcc j hj
      refine ⟨a1, ?_⟩
      by_cases e : j = i
      · subst e; simp only [upd_same]; exact hc.symm.trans a2
      · simp only [upd_other _ _ _ _ e]; exact a2
  | new hno h =>
    refine ⟨h, fun j hj => ?_, fun j h1 h2 => ?_, fun c hcc j hj => ?_⟩
    · by_cases e : j = nx
      · subst e; simp [upd_same]
      · simp only [upd_other _ _ _ _ e]; exact A.opd j (by omega)
    · have e : j ≠ nx := by omega
      simp only [upd_other _ _ _ _ e]; exact A.fre j (by omega) h2
    · by_cases ec : c = κ
      · subst ec
        simp only [upd_same] at hj
        obtain rfl : nx = j := by omega
        exact ⟨by omega, by simp [upd_same]⟩
      · simp only [upd_other _ _ _ _ ec] at hj
        obtain ⟨a1, a2⟩ := A.opn c hcc j hj
        have e : j ≠ nx := by omega
        exact ⟨by omega, by simp only [upd_other _ _ _ _ e]; exact a2⟩
  | none hno h => exact A

/-- to get words alone: it ends, and comes to that -/
theorem alone_goes (A : Alone k y nx) (hκ : κ < 4) (hm : 17 ≤ m) (hk0 : 1 ≤ k) (hk : k ≤ 64) : ∃ N y' nx' τ', N ≤ k + 8 ∧ Goes k m κ bs N y .see y' τ' ∧ Got k m κ bs y nx y' nx' τ' := by
  have hr := room_bd κ
  have hle := A.le
  by_cases hf : ∃ i, y.op κ = i + 1 ∧ (y.ck i).us + room κ ≤ m
  · obtain ⟨i, h, hu⟩ := hf
    exact ⟨3, _, _, _, by omega, goes_fit A hκ h hu, .fit i h hu⟩
  · have hno : ∀ i, y.op κ = i + 1 → ¬ (y.ck i).us + room κ ≤ m := fun i h hu => hf ⟨i, h, hu⟩
    by_cases hn : nx < k
    · obtain ⟨N', hN, g⟩ := goes_full hk0 hno (fun sn h => goes_look (bs := bs) A (by omega) hn h nx 0 (by omega))
      exact ⟨N', _, _, _, by omega, g, .new hno hn⟩
    · obtain ⟨N', hN, g⟩ := goes_full hk0 hno (fun sn h => goes_out (m := m) (κ := κ) (bs := bs) A (by omega) (k - 1) 0 (by omega))
      exact ⟨N', _, _, _, by omega, g, .none hno (by omega)⟩
end

theorem goodp {t n k m : Nat} (ht : 1 ≤ t ∧ t ≤ 8) (hn : 1 ≤ n ∧ n ≤ 16) (hk : 1 ≤ k ∧ k ≤ 64) (hm : 17 ≤ m ∧ m ≤ 256) : Good t n k m 100 600 3 := by
  obtain ⟨t0, t1⟩ := ht
  obtain ⟨n0, n1⟩ := hn
  obtain ⟨k0, k1⟩ := hk
  obtain ⟨m0, m1⟩ := hm
  constructor <;> omega

end Go.Proofs.YtcdmokbamakomaaGreat

/- Objects are made by one alone, one behind the other: which steps that takes, and what it comes to. -/
namespace Go.Proofs.YtcdmokbamakomaaGreat
open Go.RowKit

section
variable {t n k m κ : Nat} {z : Int} {own : Bool}

theorem place_over {τ : Pl} {q : Q} {x G : Nat} {y' : Y} {τ' : Pl} {σ : Nat} (ht : turn k m κ (base t n k m) q.y τ = (y', τ')) : alTurn t n k m κ z own σ q (.place x G τ) = alPlace q x G (y', τ') := by
  simp only [alTurn, ht]

/-- the steps by which words are got, and what follows -/
theorem Goes.lift {x G : Nat} {N : Nat} {y0 : Y} {τ : Pl} {y' : Y} {τ' : Pl} (g : Goes k m κ (base t n k m) N y0 τ y' τ') : ∀ {σ : Nat} {q : Q}, q.y = y0 → ∀ {M : Nat} {q' : Q} {β α' : Al}, (alPlace { q with y := y' } x G (y', τ')).2 = β → β.over? = false → Runs t n k m κ z own M (σ + N) { q with y := y' } β q' α' → Runs t n k m κ z own (N + M) σ q (.place x G τ) q' α' := by
  induction g with
  | @one y τ y' τ' ho ht h =>
    intro σ q hq M q' β α' hβ hb r
    subst hq
    have e := place_over (z := z) (own := own) (x := x) (G := G) (σ := σ) ht
    have e2 : alPlace q x G (y', τ') = ({ q with y := y' }, β) := by
      subst hβ
      rcases pl_fate τ' with hf | ⟨a, i, rfl⟩ | rfl
      · rw [h] at hf; cases hf
      · rfl
      · rfl
    rw [Nat.add_comm 1 M]
    exact .more rfl (e.trans e2) hb r
  | @more N y τ y1 τ1 y' τ' ho ht h g ih =>
    intro σ q hq M q' β α' hβ hb r
    subst hq
    have e := place_over (z := z) (own := own) (x := x) (G := G) (σ := σ) ht
    rw [alPlace_on h] at e
    rw [show N + 1 + M = N + M + 1 by omega]
    exact .more rfl e rfl (ih (q := { q with y := y1 }) rfl (β := β) hβ hb (by rw [show σ + 1 + N = σ + (N + 1) by omega]; exact r))

/-- an object was made -/
def Q.made (q : Q) (x : Nat) (F : List Nat) (y' : Y) (a i κ : Nat) (z : Int) (own : Bool) : Q :=
  ⟨q.c + 1, q.lk, F, y', upd q.lv i (q.lv i + room κ), upd q.sw x (packS 1 a (genOf (q.sw x)) 0), upd (upd q.dw a (packOw 1 z x (genOf (q.sw x)) own)) a (packOw 2 z x (genOf (q.sw x)) own)⟩

/-- there was no room -/
def Q.back (q : Q) (x : Nat) (F : List Nat) (y' : Y) : Q := ⟨q.c + 1 + 1, upd q.lk x (hd F), x :: F, y', q.lv, q.sw, q.dw⟩

theorem runs_none {q : Q} {σ : Nat} (h : q.F = []) : Runs t n k m κ z own 1 σ q (.take .idle) q (.over 7 0 (σ + 1)) := by
  refine .one rfl ?_ rfl
  simp only [alTurn, tkTurn, h, alTake]
  rw [← h]

theorem runs_take {q : Q} {σ x : Nat} {F : List Nat} (h : q.F = x :: F) {M : Nat} {q' : Q} {α' : Al} (g : Runs t n k m κ z own M (σ + 4) { q with c := q.c + 1, F := F } (.place x (genOf (q.sw x)) .see) q' α') : Runs t n k m κ z own (M + 4) σ q (.take .idle) q' α' := by
  refine .more (q1 := q) (α1 := .take (.saw x q.c)) rfl ?_ rfl (.more (q1 := q) (α1 := .take (.lnk x q.c (q.lk x))) rfl ?_ rfl (.more (q1 := { q with c := q.c + 1, F := F }) (α1 := .ask x) rfl ?_ rfl (.more (q1 := { q with c := q.c + 1, F := F }) (α1 := .place x (genOf (q.sw x)) .see) rfl ?_ rfl g)))
  · simp only [alTurn, tkTurn, h, alTake]
    rw [← h]
  · simp only [alTurn, tkTurn, alTake]
  · simp only [alTurn, tkTurn, h, alTake, if_true, List.tail_cons]
  · rfl

theorem runs_made {q : Q} {σ x : Nat} {F : List Nat} (h : q.F = x :: F) {N : Nat} {y' : Y} {a i : Nat} (g : Goes k m κ (base t n k m) N q.y .see y' (.won a i)) : Runs t n k m κ z own (N + 4 + 4) σ q (.take .idle) (q.made x F y' a i κ z own) (.over 0 (packH x (genOf (q.sw x))) (σ + 4 + N + 2 + 1)) := by
  refine runs_take h ?_
  refine Goes.lift (q := { q with c := q.c + 1, F := F }) g rfl (β := .count x (genOf (q.sw x)) a i) rfl rfl ?_
  exact .more (α1 := .head x (genOf (q.sw x)) a i) rfl rfl rfl (.more (α1 := .shw x (genOf (q.sw x)) a i) rfl rfl rfl (.more (α1 := .ready x (genOf (q.sw x)) a i (σ + 4 + N + 1 + 1 + 1)) rfl rfl rfl (.one rfl rfl rfl)))

theorem runs_back {q : Q} {σ x : Nat} {F : List Nat} (h : q.F = x :: F) {N : Nat} {y' : Y} (g : Goes k m κ (base t n k m) N q.y .see y' .none) : Runs t n k m κ z own (N + 3 + 4) σ q (.take .idle) (q.back x F y') (.over 6 0 (σ + 4 + N + 2 + 1)) := by
  refine runs_take h ?_
  refine Goes.lift (q := { q with c := q.c + 1, F := F }) g rfl (β := .give x (genOf (q.sw x)) .idle) rfl rfl ?_
  refine .more (α1 := .give x (genOf (q.sw x)) (.saw (hd F) (q.c + 1))) rfl rfl rfl (.more (α1 := .give x (genOf (q.sw x)) (.lnk (hd F) (q.c + 1))) rfl rfl rfl (.one rfl ?_ rfl))
  simp only [alTurn, gvTurn, if_true, alGive]
  rfl
end

/-- what was got is of a chunk that is open, of the class -/
theorem Got.won_is {k m κ : Nat} {bs : Nat → Nat} {y y' : Y} {nx nx' a i : Nat} (A : Alone k y nx) (hκ : κ < 4) (hm : room κ ≤ m) (g : Got k m κ bs y nx y' nx' (.won a i)) : i < k ∧ a = bs i + (y.ck i).us ∧ (y.ck i).us + room κ ≤ m ∧ (∃ sp, y'.ck i = ⟨1, κ, (y.ck i).us + room κ, sp⟩) ∧ ∀ j, j ≠ i → y'.ck j = y.ck j := by
  cases g with
  | fit _ h hu =>
    have hlt := (A.opn κ hκ i h).1
    have := A.le
    exact ⟨by omega, rfl, hu, ⟨(y.ck i).sp, by simp only [upd_same]⟩, fun j hj => by simp only [upd_other _ _ _ _ hj]⟩
  | new hno h =>
    have h0 := (A.fre nx (Nat.le_refl _) h).2
    refine ⟨h, by rw [h0]; rfl, by omega, ⟨(y.ck nx).sp + 1, by simp only [upd_same]; rw [h0, Nat.zero_add]⟩, fun j hj => by simp only [upd_other _ _ _ _ hj]⟩

theorem base_apart {t n k m i j u v : Nat} (hu : u < m) (hv : v < m) (hij : j ≠ i) : base t n k m i + u ≠ base t n k m j + v := by
  unfold base
  intro e
  rcases Nat.lt_or_gt_of_ne hij with h | h
  · have := Nat.mul_le_mul_right m (Nat.succ_le_of_lt h)
    rw [Nat.succ_mul] at this
    omega
  · have := Nat.mul_le_mul_right m (Nat.succ_le_of_lt h)
    rw [Nat.succ_mul] at this
    omega

section
variable {t n k m κ nx : Nat} {q : Q} {z : Int} {own : Bool}

end

end Go.Proofs.YtcdmokbamakomaaGreat

/- Regions that draw their order and write, whose last operations come one behind the other. -/
namespace Go.Proofs.YtcdmokbamakomaaGreat
open Go.RowKit

section
variable {P : Program} {ops : Array Oper} {Q : Exit → Act → World → Prop} {R : World → World → Prop}
variable {G : World → World → Prop} {Φ : Nat → World → Prop} {ws : List Nat}

theorem wpAny_phaseT {m g : Nat} {W : World} {ks : List (Want R)} {a : Act} {K : Act → World → Prop} (htr : ∀ x y z, R x y → R y z → R x z) (hGR : ∀ x y, G x y → R x y) (hGΦ : ∀ x y p, G x y → Φ p x → Φ p y)
    (hsz : ops.size = m + g) (htail : g = 0 ∨ (Region.sinkB .any ops m = true ∧ Region.chainB .any ops m = true)) (hsel : Region.noSelect ops = true) (hB : relyB ops m = true) (hback : backB ops m = true) (hfo : followB ops ws = true) (hwm : ws.all (· < m) = true)
    (hall : phaseAll P R G Φ ws ops W K 0 (ops.toList.take m) ks [] a)
    (hK : ∀ (a' : Act) (w' : World) (listed : Array Bool), K a' w' → listed.size = ops.size → (∀ i, i < ops.size → listed.getD i false = decide (i < m)) → wpAny P .any ops Q g listed a' w') :
    ∀ (f : Nat) (listed : Array Bool) (vs : List Value) (w : World), left m listed = f → HeadInv .any ops m listed → vs.length = m → (∀ (r : Nat) (c : Value), ks[r]? = some (Want.val c) → vs[r]? = some c) →
      (∀ (r : Nat) (k : Want R) (v : Value), ks[r]? = some k → vs[r]? = some v → listed.getD r false = true → k.pred w v) → R W w → Φ (doneN ws listed) w →
      wpAny P .any ops Q (f + g) listed (putL (fun k => listed.getD k false) (ops.toList.take m) vs 0 a) w := by
  have hlen : (ops.toList.take m).length = m := by simp; omega
  have hks : ks.length = m := by rw [phaseAll_length _ _ _ _ _ hall, hlen]
  have hpre : ∀ r, r < m → (ops.toList.take m)[r]? = ops[r]? := fun r hr => by
    rw [List.getElem?_take_of_lt hr]; simp
  intro f
  induction f with
  | zero =>
    intro listed vs w hl inv hvl hvc hp hw hΦ
    have h1 := left_zero hl
    rw [Nat.zero_add, putL_congr (L' := fun _ => true) _ _ _ _ (fun i _ hi => h1 i (by omega))]
    have hdone : doneN ws listed = ws.length := by
      unfold doneN
      rw [List.countP_eq_length]
      intro c hc
      exact h1 c (by simpa using List.all_eq_true.1 hwm c hc)
    rw [hdone] at hΦ
    refine hK _ _ listed (phaseAll_end _ ks vs 0 [] a hall (by omega) w hw hΦ trivial fun r k v hk hv => hp r k v hk hv (h1 r ?_)) inv.size fun i hi => ?_
    · have := (List.getElem?_eq_some_iff.1 hk).1; omega
    · rcases Nat.lt_or_ge i m with h2 | h2
      · rw [h1 i h2]; simp [h2]
      · rw [getD_both (inv.tail i h2 hi)]; simp; omega
  | succ f ih =>
    intro listed vs w hl inv hvl hvc hp hw hΦ
    rw [show f + 1 + g = (f + g) + 1 from by omega]
    obtain ⟨i0, hi0, hu0, hb0⟩ := left_some m (by omega : left m listed ≠ 0)
    have hu0' : listed.getD i0 true = false := getD_in (by rw [inv.size]; omega) hu0
    refine ⟨fun h0 => ?_, fun i hi => ?_⟩
    · exfalso
      have h1 := List.all_eq_true.1 hback i0 (List.mem_range.2 hi0)
      have hlt : i0 < ops.size := by omega
      rw [Array.getElem?_eq_getElem hlt] at h1
      have h2 : i0 ∈ Region.ready .any ops listed := by
        rw [mem_ready]
        refine ⟨hu0', ops[i0], Array.getElem?_eq_getElem hlt, fun e he hb => ?_⟩
        have := Array.all_eq_true_iff_forall_mem.1 h1 e he
        simp [hb] at this
        exact hb0 _ this
      rw [h0] at h2
      cases h2
    · obtain ⟨hun, o, ho, hafter⟩ := mem_ready.1 hi
      have hin : i < m := by
        rcases Nat.lt_or_ge i m with h | h
        · exact h
        · rcases htail with h0 | ⟨hsink, hchain⟩
          · have := (Array.getElem?_eq_some_iff.1 ho).1; omega
          · have hlt := (Array.getElem?_eq_some_iff.1 ho).1
            exact absurd hi (tail_waits hsink hchain (by omega) inv _ i0 rfl hi0 hu0' i h)
      have hun' := getD_both hun
      have hisz : i < listed.size := by rw [inv.size]; omega
      have inv' := inv.set hi hin
      have hl' : left m (listed.setIfInBounds i true) = f := by have := left_set hisz hun' m hin; omega
      have hset : (listed.setIfInBounds i true).getD i false = true := by simp [hisz]
      have so := relyB_spec hB hin ho
      obtain ⟨k, hk⟩ : ∃ k, ks[i]? = some k := ⟨ks[i], List.getElem?_eq_getElem (by omega)⟩
      have hwaits : ∀ r, Region.waitsFor .any ops i r = true → listed.getD r false = true := fun r hr => by
        obtain ⟨oj, hoj, e, he, hb, hon⟩ := Region.waitsFor_spec hr
        have : oj = o := Option.some.inj (hoj.symm.trans ho)
        subst this
        have h3 := hafter e he hb
        rwa [hon] at h3
      have hst0 := phaseAll_at (i := i) _ ks vs 0 [] a o k hall ((hpre i hin).trans ho) hk (by omega) hvc w hw trivial
        (fun r k' v _ h1 h2 h3 => hp r k' v h1 h2 (hwaits r (by simpa using h3)))
      rw [Nat.zero_add] at hst0
      -- what the operation does, whichever it is
      have hst : phaseStep P (fun x y => R x y ∧ Φ (doneN ws (listed.setIfInBounds i true)) y) ops o (putL (fun q => decide (q < i)) (ops.toList.take m) vs 0 a) w k.pred := by
        have weak : ∀ {E : World → World → Prop} {E' : World → World → Prop} (φ : World → Value → Prop) (x : World) (r : Result Next), (∀ y, E x y → E' x y) → relyUpon P E x φ r → relyUpon P E' x φ r := by
          intro E E' φ x r hE h
          cases r with
          | ok n w' =>
            cases n <;> simp only [relyUpon] at h ⊢
            case value u => exact ⟨hE _ h.1, h.2⟩
            case skip => exact ⟨hE _ h.1, h.2⟩
            case enter fn args => exact h.mono fun e w'' ⟨u, he, h1, h2⟩ => ⟨u, he, hE _ h1, h2⟩
          | halt x w' => simp only [relyUpon] at h
        cases hph : phaseOf ws i with
        | some p =>
          rw [hph] at hst0
          have hd := done_is inv hfo hi hph
          rw [hd] at hΦ
          rw [done_set inv hfo hi hin hisz hph]
          rcases hst0 hΦ with ⟨h1, h2⟩ | ⟨h1, h2, h3⟩
          · exact .inl ⟨h1, weak _ _ _ (fun y hy => hy) h2⟩
          · exact .inr ⟨h1, h2, h3⟩
        | none =>
          rw [hph] at hst0
          rw [done_same hph]
          rcases hst0 with ⟨h1, h2⟩ | ⟨h1, h2, h3⟩
          · exact .inl ⟨h1, weak _ _ _ (fun y hy => ⟨hGR _ _ hy, hGΦ _ _ _ hy hΦ⟩) h2⟩
          · exact .inr ⟨h1, ⟨hGR _ _ h2, hGΦ _ _ _ h2 hΦ⟩, h3⟩
      have hsame : ∀ t, t ∈ o.looksAt ops → (putL (fun k => listed.getD k false) (ops.toList.take m) vs 0 a).eval (.tmp t) = (putL (fun q => decide (q < i)) (ops.toList.take m) vs 0 a).eval (.tmp t) := fun t hlook => by
        refine putL_eval _ _ _ _ _ rfl rfl fun r o' ho' hd => ?_
        have hrm : r < m := by have := (List.getElem?_eq_some_iff.1 ho').1; omega
        obtain ⟨h1, h2⟩ := so.data r o' t hrm ((hpre r hrm).symm.trans ho') hd hlook
        simp only [Nat.zero_add]
        rw [hwaits r h2]; simp [h1]
      have heq : execOp (putL (fun k => listed.getD k false) (ops.toList.take m) vs 0 a).eval o = execOp (putL (fun q => decide (q < i)) (ops.toList.take m) vs 0 a).eval o := by
        refine execOp_congr o (fun cs b => Region.noSelect_spec hsel i o cs b ho) fun x hx => ?_
        cases x with
        | tmp t => exact hsame t (List.mem_append_left _ (List.mem_filterMap.2 ⟨.tmp t, by simpa using hx, rfl⟩))
        | _ => rfl
      have hwant := wanted_same (ops := ops) (o := o) (a := putL (fun k => listed.getD k false) (ops.toList.take m) vs 0 a) (a' := putL (fun q => decide (q < i)) (ops.toList.take m) vs 0 a) (by rw [putL_size, putL_size]) hsame
      -- what follows an operation's outcome
      have next : ∀ (u : Value) (w' : World), (R w w' ∧ Φ (doneN ws (listed.setIfInBounds i true)) w') → k.pred w' u → wpAny P .any ops Q (f + g) (listed.setIfInBounds i true) ((putL (fun k => listed.getD k false) (ops.toList.take m) vs 0 a).put o.dst u) w' := by
        intro u w' hRΦ hku
        have hR := hRΦ.1
        have hiv : i < vs.length := by omega
        have hfr : (putL (fun k => listed.getD k false) (ops.toList.take m) vs 0 a).put o.dst u = putL (fun k => (listed.setIfInBounds i true).getD k false) (ops.toList.take m) (vs.set i u) 0 a := by
          rw [putL_vals (L := fun k => listed.getD k false) (ops.toList.take m) vs (vs.set i u) 0 a (by simp) (fun r hr => ?_)]
          · rw [putL_set (L := fun k => listed.getD k false) (L' := fun k => (listed.setIfInBounds i true).getD k false) (i := i) (ops.toList.take m) (vs.set i u) 0 a o u ((hpre i hin).trans ho) (by simp [hiv]) ?_ ?_ ?_ ?_]
            · intro r s x y hx hy hrs d hd
              have hsm : s < m := by have := (List.getElem?_eq_some_iff.1 hy).1; omega
              exact (relyB_spec hB hsm ((hpre s hsm).symm.trans hy)).ap r x d hrs ((hpre r (by omega)).symm.trans hx) hd
            · simpa using hun'
            · simpa using hset
            · intro q hq; exact getD_set_ne false (by omega)
          · have : i ≠ r := fun e => by subst e; simp only [Nat.zero_add] at hr; rw [hun'] at hr; cases hr
            rw [List.getElem?_set_ne this]
        rw [hfr]
        refine ih _ (vs.set i u) w' hl' inv' (by simpa using hvl) (fun r c hc => ?_) (fun r k' v hk' hv hlr => ?_) (htr _ _ _ hw hR) hRΦ.2
        · by_cases e : i = r
          · subst e
            rw [hk] at hc
            cases hc
            have : u = c := hku
            subst this
            simp [hiv]
          · rw [List.getElem?_set_ne e]; exact hvc r c hc
        · by_cases e : i = r
          · subst e
            rw [hk] at hk'
            cases hk'
            simp only [List.getElem?_set_self hiv, Option.some.injEq] at hv
            subst hv
            exact hku
          · rw [List.getElem?_set_ne e] at hv
            rw [getD_set_ne false e] at hlr
            exact k'.keeps hR (hp r k' v hk' hv hlr)
      unfold wpOp
      simp only [ho]
      rcases hst with ⟨hwt, hup⟩ | ⟨hwt, hE, hup⟩
      · rw [if_pos (hwant.trans hwt)]
        refine .inl ?_
        unfold Oper.wp
        rw [heq]
        generalize (execOp (putL (fun q => decide (q < i)) (ops.toList.take m) vs 0 a).eval o).run P w = r at *
        cases r with
        | ok n w' =>
          cases n <;> simp only [relyUpon] at hup <;> simp only [Oper.upon]
          case value u => exact next u w' hup.1 hup.2
          case skip => exact next undef w' hup.1 hup.2
          case enter fn args => exact hup.mono fun e w'' ⟨u, he, h1, h2⟩ => by subst he; exact next u w'' h1 h2
        | halt x w' => simp only [relyUpon] at hup
      · rw [if_neg (by rw [hwant, hwt]; simp)]
        exact next undef w hE hup

/-- **THE REGION**: ws are the places of the operations that write, in their order; from the m-th on they come last, one behind the other -/
theorem wp_region_phase_tail {id : Nat} {l : List Oper} {a : Act} {W : World} (R G : World → World → Prop) (Φ : Nat → World → Prop) (m : Nat) (ws : List Nat) (ks : List (Want R)) (hm : P.follows .mixedOrders = true) (hrefl : ∀ x, R x x) (htr : ∀ x y z, R x y → R y z → R x z)
    (hGR : ∀ x y, G x y → R x y) (hGΦ : ∀ x y p, G x y → Φ p x → Φ p y) (hΦ : Φ 0 W.drew) (hlt : m ≤ l.length)
    (hsel : Region.noSelect l.toArray = true) (hB : relyB l.toArray m = true) (hback : backB l.toArray m = true) (hfo : followB l.toArray ws = true) (hwm : ws.all (· < m) = true)
    (hsink : Region.sinkB .any l.toArray m = true) (hchain : Region.chainB .any l.toArray m = true) (hseq : Region.seqB .any l.toArray (l.drop m).length m (headListed m (l.drop m).length) = true)
    (hall : phaseAll P R G Φ ws l.toArray W.drew (fun a' w' => wpList P l.toArray Q (l.drop m) a' w') 0 (l.take m) ks [] a) : (Code.region id l.toArray true).wp P Q a W := by
  refine wp_region_any hm ?_
  have hz : ∀ i, (Array.replicate l.toArray.size false).getD i false = false := fun i => getD_replicate_false _ _
  have hsz : l.toArray.size = m + (l.drop m).length := by simp; omega
  have hlen : ks.length = m := by
    rw [phaseAll_length _ _ _ _ _ hall]; simp; omega
  have h := wpAny_phaseT (P := P) (ops := l.toArray) (Q := Q) (m := m) (g := (l.drop m).length) (W := W.drew) (ks := ks) (a := a) (K := fun a' w' => wpList P l.toArray Q (l.drop m) a' w') htr hGR hGΦ hsz (.inr ⟨hsink, hchain⟩) hsel hB hback hfo hwm (by simpa using hall) ?_ m (Array.replicate l.toArray.size false) (ks.map Want.guess) W.drew ?_ ?_ (by simpa using hlen) (guess_val ks)
    (fun r k v _ _ h => by rw [hz r] at h; cases h) (hrefl _) ?_
  · rw [putL_none _ _ _ _ (fun i _ => hz i), ← hsz] at h
    exact h
  · intro a' w' listed hk hs hL
    have e : listed = headListed m (l.drop m).length := by
      apply Array.ext
      · rw [hs, hsz]; simp [headListed]
      · intro i h1 h2
        have h3 := hL i (by omega)
        simp [h1] at h3
        simp [headListed, h3]
    rw [e]
    exact wpAny_of_seq (l.drop m) m _ a' w' (fun j => by simp [List.getElem?_drop]) hseq hk
  · unfold left
    rw [List.countP_eq_length.2 (fun i _ => by rw [hz i]; rfl)]
    simp
  · refine ⟨by simp, fun j oj _ h => ?_, fun t ht ht' => by simp at ht'; simp [ht']⟩
    rw [hz j] at h; cases h
  · have : doneN ws (Array.replicate l.toArray.size false) = 0 := by
      unfold doneN
      rw [List.countP_eq_zero]
      intro c _
      rw [hz c]; simp
    rw [this]
    exact hΦ

end
end Go.Proofs.YtcdmokbamakomaaGreat

/- Objects that are made alone, in an arena of the statements: what each making comes to. -/
namespace Go.Proofs.YtcdmokbamakomaaGreat
open Go.RowKit

theorem Got.same {k m κ : Nat} {bs : Nat → Nat} {y y' y1 : Y} {nx nx' nx1 : Nat} {τ' τ1 : Pl} (g : Got k m κ bs y nx y' nx' τ') (g1 : Got k m κ bs y nx y1 nx1 τ1) : y1 = y' ∧ nx1 = nx' ∧ τ1 = τ' := by
  cases g with
  | fit i h hu =>
    cases g1 with
    | fit j h' hu' => obtain rfl : i = j := by omega
                      exact ⟨rfl, rfl, rfl⟩
    | new hno _ => exact absurd hu (hno i h)
    | none hno _ => exact absurd hu (hno i h)
  | new hno hn =>
    cases g1 with
    | fit j h' hu' => exact absurd hu' (hno j h')
    | new _ _ => exact ⟨rfl, rfl, rfl⟩
    | none _ h => omega
  | none hno hn =>
    cases g1 with
    | fit j h' hu' => exact absurd hu' (hno j h')
    | new _ h => omega
    | none _ _ => exact ⟨rfl, rfl, rfl⟩

theorem class_fit {Z : Nat} (z2 : Z ≤ 16) : Fit (Z : Int) := ⟨by omega, by omega⟩

section
variable {w0 w w' : World} {L : Loc} {bE t n k m σ nx : Nat} {s : Mm} {q : Q} {own : Bool}

end

theorem packH01 : packH ((0 : Nat) : Int) ((1 : Nat) : Int) = 65536 := packH_is 0 1 (by decide) (by decide)
theorem arena08 {t n k m : Nat} (hG : Good t n k m 100 600 3) (hn : n ≤ 65535) (w : World) :
    Calls Tryz.prog 9 #[.int .i64 t, .int .i64 n, .int .i64 k, .int .i64 m] w fun e w' => ∃ (L : Loc) (s : Mm), e = .returned (.tuple #[.agg #[.int .i64 t, .int .i64 n, .int .i64 k, .int .i64 m, .int .i64 100, .int .i64 600, .int .i64 3, .pointer (some ⟨L.p, 0, none⟩), .int .i64 0], .bool true]) ∧ MemAt w' L s ∧ Town t n k m s (1 + 2 * n) (Q.new n) ∧ Below w.heap.size w w' ∧ ∀ k, L.has k → w.heap.size ≤ k := by
  refine (arena04_any hG w).mono ?_
  rintro e w' ⟨L, rfl, m', b, f⟩
  exact ⟨L, _, rfl, m', town0 hG hn, b, f⟩

/-- the chunks of the first object's arena, behind it -/
def y1 : Y := ⟨upd Y.new.ck 0 ⟨1, 0, room 0, (Y.new.ck 0).sp + 1⟩, upd Y.new.op 0 (0 + 1)⟩
end Go.Proofs.YtcdmokbamakomaaGreat
