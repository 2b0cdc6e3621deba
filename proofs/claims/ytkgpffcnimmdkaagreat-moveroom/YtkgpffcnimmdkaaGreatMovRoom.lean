/- An object is moved where there is no room elsewhere, or what is asked for does not live there: nothing is done. -/
import Derived.Test.YtkgpffcnimmdkaaGreatMovFree
namespace Go.Proofs.YtkgpffcnimmdkaaGreat
open Go.RowKit

/-- the chunks ahead of n that were free are quiet -/
def yQ (κ n : Nat) : Y := ⟨fun i => if 1 ≤ i ∧ i < n then ⟨3, 0, 0, 0⟩ else (yB κ).ck i, (yB κ).op⟩

theorem yQ_1 (κ : Nat) : yQ κ 1 = yB κ := by
  unfold yQ
  have e : (fun i => if 1 ≤ i ∧ i < 1 then (⟨3, 0, 0, 0⟩ : Ck) else (yB κ).ck i) = (yB κ).ck := funext fun i => if_neg (by omega)
  rw [e]
theorem yQ_0 (κ : Nat) : yQ κ 0 = yB κ := by
  unfold yQ
  have e : (fun i => if 1 ≤ i ∧ i < 0 then (⟨3, 0, 0, 0⟩ : Ck) else (yB κ).ck i) = (yB κ).ck := funext fun i => if_neg (by omega)
  rw [e]
theorem yQ_next (κ n : Nat) (h : 1 ≤ n) : (⟨upd (yQ κ n).ck n ⟨3, 0, 0, 0⟩, (yQ κ n).op⟩ : Y) = yQ κ (n + 1) := by
  have e : upd (yQ κ n).ck n ⟨3, 0, 0, 0⟩ = (yQ κ (n + 1)).ck := funext fun i => by
    show _ = if 1 ≤ i ∧ i < n + 1 then (⟨3, 0, 0, 0⟩ : Ck) else (yB κ).ck i
    by_cases hi : i = n
    · subst hi; rw [upd_same, if_pos ⟨h, by omega⟩]
    · rw [upd_other _ _ _ _ hi]
      show (if 1 ≤ i ∧ i < n then (⟨3, 0, 0, 0⟩ : Ck) else (yB κ).ck i) = _
      by_cases h2 : 1 ≤ i ∧ i < n
      · rw [if_pos h2, if_pos ⟨h2.1, by omega⟩]
      · rw [if_neg h2, if_neg (by omega)]
  rw [e]; rfl
theorem yQ_free (κ n : Nat) (h1 : 1 ≤ n) (h4 : n < 4) : (yQ κ n).ck n = ⟨0, 0, 0, 0⟩ := by
  show (if 1 ≤ n ∧ n < n then (⟨3, 0, 0, 0⟩ : Ck) else (yB κ).ck n) = _
  rw [if_neg (by omega)]
  obtain rfl | rfl | rfl : n = 1 ∨ n = 2 ∨ n = 3 := by omega
  · rfl
  · rfl
  · rfl
theorem yQ_ck0 (κ n : Nat) : (yQ κ n).ck 0 = ⟨2, κ, room κ, 2⟩ := by
  show (if 1 ≤ 0 ∧ 0 < n then (⟨3, 0, 0, 0⟩ : Ck) else (yB κ).ck 0) = _
  rw [if_neg (by omega)]
  exact upd_same (yA κ).ck 0 ⟨2, κ, room κ, 2⟩

theorem goesQ (κ : Nat) : Goes 4 20 κ (base 4 8 4 20) 6 (yQ κ 4) .see (yQ κ 4) .none := by
  have ho : (yQ κ 4).op κ = 1 := upd_same _ _ _
  have h0 := yQ_ck0 κ 4
  have hq : ∀ i, 1 ≤ i → i < 4 → (yQ κ 4).ck i = ⟨3, 0, 0, 0⟩ := fun i h1 h2 => if_pos ⟨h1, h2⟩
  refine .more (y1 := yQ κ 4) (τ1 := .ask 0) rfl (by simp [turn, ho]) rfl ?_
  refine .more (y1 := yQ κ 4) (τ1 := .look 1 0) rfl (by simp [turn, h0, adv]) rfl ?_
  refine .more (y1 := yQ κ 4) (τ1 := .look 1 1) rfl (by simp [turn, h0, adv]) rfl ?_
  refine .more (y1 := yQ κ 4) (τ1 := .look 1 2) rfl (by simp [turn, hq 1 (by decide) (by decide), adv]) rfl ?_
  refine .more (y1 := yQ κ 4) (τ1 := .look 1 3) rfl (by simp [turn, hq 2 (by decide) (by decide), adv]) rfl ?_
  exact .one rfl (by simp [turn, hq 3 (by decide) (by decide), adv]) rfl

/-- a chunk is made quiet -/
theorem quiet_town {κ σ i ad : Nat} {s : Mm} {q : Q} (T : Town 4 8 4 20 s σ q) (hσ : σ < 1000000) (h1 : 1 ≤ i) (h4 : i < 4) (hy : q.y = yQ κ i) (had : 26 + i * 3 = ad) :
    s.wd ad = (⟨0, 0, 0, 0⟩ : Ck).w ∧ ad < s.n ∧ Town 4 8 4 20 (s.step ad (⟨3, 0, 0, 0⟩ : Ck).w) (σ + 1) { q with y := yQ κ (i + 1) } := by
  subst had
  have hn : s.n = 118 := T.len
  refine ⟨?_, by omega, ?_⟩
  · have e := T.yard.ckv i h4
    rw [hy, yQ_free κ i h1 h4] at e
    exact e
  · have yd := T.yard.lay hσ s.who (i := i) h4 ⟨3, 0, 0, 0⟩ ⟨by decide, by decide, by decide, Nat.zero_le _⟩
    rw [hy, yQ_next κ i h1] at yd
    exact T.chunks hσ s.who (κ := 0) (by decide) (26 + i * 3) _ (Or.inr ⟨i, h4, rfl⟩) yd

/-- which object is asked for -/
def mwg (Z G : Nat) : Mw := ⟨base 4 8 4 20 0, 0, Z, (classOf Z).toNat, 0, G, false, 3⟩
theorem mwg_ok {Z G : Nat} (z1 : 1 ≤ Z) (z2 : Z ≤ 16) (hG : G ≤ 65535) : (mwg Z G).ok 4 8 4 20 := by
  obtain ⟨h1, h2⟩ := class_room z1 z2
  exact ⟨z1, z2, h1, h2, (by decide : (0 : Nat) < 8), hG, (by decide : (0 : Nat) < 4), 0, by show 0 + Z < 20; omega, rfl⟩

/-- what is known of the one who moves it -/
def RmI (κ G r : Nat) (q : Q) : Mv → Prop
  | .see τ f => τ = .see ∧ f = 0 ∧ q.y = yQ κ 4
  | .place v τ f => G = 1 ∧ f = 0 ∧ Wd v ∧ r ≤ 6 ∧ Goes 4 20 κ (base 4 8 4 20) r q.y τ (yQ κ 4) .none
  | .over o τ => (G = 1 ∧ o = 4 ∧ τ = .none) ∨ (G = 2 ∧ o = 2 ∧ τ = .see)
  | _ => False

def rpot (r : Nat) : Mv → Nat
  | .see _ _ => 8
  | .place _ _ _ => r
  | _ => 0

theorem rm_step {Z G r : Nat} {q q' : Q} {μ μ' : Mv} (hG : G = 1 ∨ G = 2) (hw : Wo (q.sw 0) 1 (base 4 8 4 20 0) 0) (h : RmI (mwg Z G).κ G r q μ) (ho : μ.over? = false) (ht : mvTurn (mwg Z G) 4 20 (base 4 8 4 20) q μ = (q', μ')) (σ : Nat) (hpg : ∀ v τ f, μ = .place v τ f → τ.good 4 20 (mwg Z G).κ σ) :
    μ.good 4 8 4 20 σ (mwg Z G) q ∧ (q'.sw = q.sw ∧ q'.dw = q.dw) ∧ ∃ r', RmI (mwg Z G).κ G r' q' μ' ∧ rpot r' μ' + 1 ≤ rpot r μ := by
  cases μ with
  | over => cases ho
  | see τ f =>
    obtain ⟨rfl, rfl, hy⟩ := h
    obtain ⟨rfl, hμ⟩ := Prod.mk.inj (show (q, mvSee (mwg Z G) (q.sw 0) .see 0) = (q', μ') from ht)
    refine ⟨⟨Or.inl rfl, by omega⟩, ⟨rfl, rfl⟩, ?_⟩
    unfold mvSee at hμ
    have hs4 : ¬ q.sw 0 % 8 = 4 := by rw [hw.s]; decide
    rw [decide_eq_false hs4, Bool.and_false, if_neg (by decide)] at hμ
    rcases hG with rfl | rfl
    · have hh : (mwg Z 1).here (q.sw 0) = true := by
        unfold Mw.here
        rw [decide_eq_true (show genOf (q.sw 0) = (mwg Z 1).G from hw.g), decide_eq_true (show adOf (q.sw 0) = (mwg Z 1).A from hw.a)]
        rfl
      rw [hh, decide_eq_true (show q.sw 0 % 8 = 1 from hw.s), if_pos (show (true && true) = true from rfl), if_neg (by rw [hw.r]; decide)] at hμ
      subst hμ
      exact ⟨6, ⟨rfl, rfl, hw.wd, by omega, by rw [hy]; exact goesQ _⟩, by simp only [rpot, mvNext]; omega⟩
    · have hh : (mwg Z 2).here (q.sw 0) = false := by
        unfold Mw.here
        rw [decide_eq_false (show ¬ genOf (q.sw 0) = (mwg Z 2).G by rw [hw.g]; show ¬ 1 = 2; decide), Bool.false_and]
      rw [hh, Bool.false_and, if_neg (by decide)] at hμ
      subst hμ
      exact ⟨0, Or.inr ⟨rfl, rfl, rfl⟩, by simp only [rpot, mvEnd]; omega⟩
  | place v τ f =>
    obtain ⟨rfl, rfl, wv, hr, hgo⟩ := h
    have gd := hpg _ _ _ rfl
    have ht' : mvPlace q v 0 (turn 4 20 (mwg Z 1).κ (base 4 8 4 20) q.y τ) = (q', μ') := ht
    cases hgo with
    | one hov htu h1 =>
      rw [htu] at ht'
      obtain ⟨rfl, rfl⟩ := Prod.mk.inj (show ({ q with y := yQ (mwg Z 1).κ 4 }, Mv.over 4 .none) = (q', μ') from ht')
      exact ⟨⟨gd, hov, wv, by omega⟩, ⟨rfl, rfl⟩, 0, Or.inl ⟨rfl, rfl, rfl⟩, by simp only [rpot]; omega⟩
    | @more N _ _ y1 τ1 _ _ hov htu h1 g1 =>
      rw [htu] at ht'
      have e : mvPlace q v 0 (y1, τ1) = ({ q with y := y1 }, .place v τ1 0) := by
        cases τ1 <;> first | rfl | cases h1
      rw [e] at ht'
      obtain ⟨rfl, rfl⟩ := Prod.mk.inj ht'
      exact ⟨⟨gd, hov, wv, by omega⟩, ⟨rfl, rfl⟩, N, ⟨rfl, rfl, wv, by omega, g1⟩, by simp only [rpot]; omega⟩
  | _ => exact absurd h (by simp [RmI])

theorem scv_new {w0 W1 : World} {L : Loc} {E H Z σ : Nat} {s : Mm} {q : Q} (f : Sc w0 W1 L E H Z s σ q) (A : ScA w0 L E H) (kd : Int) (Wm : Mw) :
    ScV w0 (W1.alloc (mov0 Wm.A kd Wm.Z Wm.x Wm.G Wm.own Wm.κ)) L E H W1.heap.size Z s σ q Wm (.see .see 0) ∧ ScMA w0 L E H W1.heap.size := by
  obtain ⟨cs, k⟩ := mov0_at Wm.A kd Wm.Z Wm.x Wm.G Wm.own Wm.κ W1
  exact ⟨⟨f.grown (grow1 _ _), ⟨cs, _, k, mv0_is Wm kd⟩, trivial⟩, ⟨A, fun hh => by have := f.sp.mm.lt _ hh; omega, f.sp.b.size, by have := f.sp.ltE; omega, by have := f.ltH; omega⟩⟩

theorem newG {Z G : Nat} (z1 : 1 ≤ Z) (z2 : Z ≤ 16) (w : World) :
    Calls Tryz.prog 11 #[.int .i64 38, .agg #[.int .i64 2, .int .i64 Z, .int .i64 0, .int .i64 G, .bool false]] w fun e w' => ∃ W, e = .returned (.pointer (some ⟨W.heap.size, 0, none⟩)) ∧ w' = W.alloc (mov0 (mwg Z G).A 2 (mwg Z G).Z (mwg Z G).x (mwg Z G).G (mwg Z G).own (mwg Z G).κ) ∧ Below w.heap.size w W :=
  newMov_any _ 2 _ 0 _ false (mwg Z G).κ (class_room z1 z2).1 w

theorem AtA.withY' {Z c V st : Nat} {val : Nat → Int} {q : Q} (h : AtA Z c V st val q) (y : Y) : AtA Z c V st val { q with y := y } :=
  ⟨⟨h.cm.z1, h.cm.z2, h.cm.c2, h.cm.wd, h.cm.hA, h.cm.nf, h.cm.vb⟩, h.sw, h.cl, h.lv⟩

theorem chunkAt11 (i ad : Nat) (h : 26 + i * 3 = ad) (hi : i ≤ 4) (w : World) :
    Calls Tryz.prog 20 #[.agg #[.int .i64 4, .int .i64 8, .int .i64 4, .int .i64 20, .int .i64 100, .int .i64 600, .int .i64 3], .int .i64 i] w fun e w' => e = .returned (.int .i64 ad) ∧ Below w.heap.size w w' := by
  refine (lchunk_any 4 8 4 20 100 600 3 i w good11.arena (by omega) (by omega)).mono ?_
  rintro e w' ⟨rfl, b⟩
  exact ⟨by rw [show ((6 : Int) + 4 + 8 * 2 + (i : Int) * 3) = (ad : Int) by omega], b⟩

end Go.Proofs.YtkgpffcnimmdkaaGreat
