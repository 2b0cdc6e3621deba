/- One who reads or lays words of an object alone, step by step, told without a program. -/
import Derived.Test.YtcdmokbamakomaaGreatAccWant
namespace Go.Proofs.YtcdmokbamakomaaGreat
open Go.RowKit

/-- an object lives, and its words are values -/
structure Solo (t n k m x G Z i : Nat) (v : Int) (q : Q) : Prop where
  sc : Scn t n k m x G Z i v false q
  cl : ∀ j, j < Z → 0 ≤ q.dw (adOf v + 1 + j) ∧ q.dw (adOf v + 1 + j) ≤ 1099511627775

/-- what is known of one who is alone -/
def AcZ (W : Wt) (v : Int) (Z : Nat) (q : Q) : Ac → Prop
  | .see => True
  | .ask v' _ => v' = v
  | .load v' Z' => v' = v ∧ Z' = Z ∧ 0 ≤ W.ix ∧ W.ix < Z
  | .check v' c _ => v' = v ∧ Wd c
  | .stop _ => False
  | .lay v' c => v' = v ∧ 0 ≤ W.ix ∧ W.ix < Z ∧ c = q.dw (W.at v) ∧ W.reads c = false
  | .over _ _ _ => True

def rk3 : Ac → Nat
  | .see => 4
  | .ask _ _ => 3
  | .load _ _ => 2
  | .check _ _ _ => 1
  | .lay _ _ => 1
  | _ => 0

section
variable {t n k m x G Z i σ : Nat} {v : Int} {q q' : Q} {W : Wt}

theorem Solo.at_val (S : Solo t n k m x G Z i v q) (h0 : 0 ≤ W.ix) (h1 : W.ix < Z) : 0 ≤ q.dw (W.at v) ∧ q.dw (W.at v) ≤ 1099511627775 := S.cl W.ix.toNat (by omega)

/-- a word of it is laid -/
theorem Solo.lay (S : Solo t n k m x G Z i v q) (hvl : 0 ≤ W.vl ∧ W.vl ≤ 1099511627775) : Solo t n k m x G Z i v { q with dw := upd q.dw (W.at v) W.w } := by
  have hw : W.w = W.vl := packX_val hvl.1 hvl.2
  refine ⟨S.sc.upd W.w_wd, fun j hj => ?_⟩
  show 0 ≤ upd q.dw (W.at v) W.w (adOf v + 1 + j) ∧ upd q.dw (W.at v) W.w (adOf v + 1 + j) ≤ 1099511627775
  by_cases e : adOf v + 1 + j = W.at v
  · rw [e, upd_same, hw]; exact hvl
  · rw [upd_other _ _ _ _ e]; exact S.cl j hj

theorem solo_step (S : Solo t n k m x G Z i v q) (hvl : 0 ≤ W.vl ∧ W.vl ≤ 1099511627775) {α α' : Ac} (T : AcZ W v Z q α) (ho : α.over? = false) (ht : acTurn W false x G σ q α = (q', α')) :
    α.good t n k m W x G q ∧ Solo t n k m x G Z i v q' ∧ AcZ W v Z q' α' ∧ (α'.over? = false → rk3 α' + 1 ≤ rk3 α) ∧ (α.reads = true ∨ (α'.over? = true ∧ W.kd ≠ 1 ∧ 0 ≤ W.ix ∧ W.ix < Z ∧ α.at t x W = W.at v)) := by
  cases α with
  | over => cases ho
  | stop => exact T.elim
  | see =>
    rw [S.sc.turn_see] at ht
    obtain ⟨rfl, rfl⟩ := Prod.mk.inj ht
    exact ⟨S.sc.good_see, S, rfl, fun _ => by simp [rk3], Or.inl rfl⟩
  | ask v' a =>
    have hv : v' = v := T
    subst hv
    by_cases h : 0 ≤ W.ix ∧ W.ix < Z
    · rw [S.sc.turn_ask h.1 h.2] at ht
      obtain ⟨rfl, rfl⟩ := Prod.mk.inj ht
      exact ⟨S.sc.good_ask _, S, ⟨rfl, rfl, h⟩, fun _ => by simp [rk3], Or.inl rfl⟩
    · have e : acTurn W false x G σ q (.ask v' a) = (q, .over 4 0 a) := by
        simp only [acTurn, acAsk, S.sc.ow, S.sc.sz, beq_self_eq_true, if_true, h, if_false]
      rw [e] at ht
      obtain ⟨rfl, rfl⟩ := Prod.mk.inj ht
      exact ⟨S.sc.good_ask _, S, trivial, fun h => (by cases h), Or.inl rfl⟩
  | load v' Z' =>
    obtain ⟨hv, rfl, h0, h1⟩ := T
    subst hv
    have gd : Ac.good t n k m W x G q (.load v' Z') := ⟨⟨i, S.sc.o⟩, h0, h1, S.sc.st⟩
    have cv := S.at_val h0 h1
    simp only [acTurn] at ht
    obtain ⟨rfl, hα⟩ := Prod.mk.inj ht
    cases hr : W.reads (q.dw (W.at v')) with
    | true =>
      simp only [acLoad, hr, if_true] at hα
      subst hα
      exact ⟨gd, S, ⟨rfl, S.sc.wd _⟩, fun _ => by simp [rk3], Or.inl rfl⟩
    | false =>
      simp only [acLoad, hr, frB_val cv.2, Bool.false_and, Bool.false_eq_true, if_false] at hα
      subst hα
      exact ⟨gd, S, ⟨rfl, h0, h1, rfl, hr⟩, fun _ => by simp [rk3], Or.inl rfl⟩
  | check v' c ld =>
    obtain ⟨hv, wc⟩ := T
    subst hv
    rw [S.sc.turn_check] at ht
    obtain ⟨rfl, rfl⟩ := Prod.mk.inj ht
    exact ⟨⟨S.sc.o.wd, wc⟩, S, trivial, fun h => (by cases h), Or.inl rfl⟩
  | lay v' c =>
    obtain ⟨hv, h0, h1, hc, hr⟩ := T
    subst hv
    have gd : Ac.good t n k m W x G q (.lay v' c) := ⟨⟨Z, i, S.sc.o, h1⟩, h0, by rw [hc]; exact S.sc.wd _⟩
    simp only [acTurn, hc, if_true] at ht
    obtain ⟨rfl, rfl⟩ := Prod.mk.inj ht
    refine ⟨gd, S.lay hvl, trivial, fun h => (by cases h), Or.inr ⟨rfl, fun e => ?_, h0, h1, rfl⟩⟩
    unfold Wt.reads at hr
    rw [e] at hr
    simp at hr

/-- a cell is a word of a chunk -/
theorem cell_kind (O : Obj9 t n k m v Z i) (h0 : 0 ≤ W.ix) (h1 : W.ix < Z) : ∃ I X, KindIs t n k m ((W.at v : Nat) : Int) 9 I X := by
  obtain ⟨u, hu, e⟩ := O.ad
  have hik := O.ik
  refine ⟨i, ((u + 1 + W.ix.toNat : Nat) : Int), .word _ _ (by omega) (by omega) (by omega) (by omega) ?_⟩
  have : W.at v = base t n k m i + (u + 1 + W.ix.toNat) := by unfold Wt.at; omega
  rw [this]
  unfold base
  simp only [Int.natCast_add, Int.natCast_mul]
  omega

theorem rk3_pos {α : Ac} (h : α.over? = false) (T : AcZ W v Z q α) : 1 ≤ rk3 α := by
  cases α with
  | over => cases h
  | stop => exact T.elim
  | _ => simp [rk3]
end

/-- a fresh arena: an object is made -/
theorem fresh_make {w0 w : World} {L : Loc} {bE k m σ Z : Nat} {s : Mm} (f : Farm w0 w L bE 1 4 k m 100 s σ (Q.new 4) 0 (fun _ => 1) []) (a : FarmApart w0 L bE 1 4 k m 100) (z1 : 1 ≤ Z) (z2 : Z ≤ 16) (hk : 0 < k) (hσ : σ + 400 < 1000000) :
    ∃ (q' : Q) (v : Int), Solo 1 4 k m 0 1 Z 0 v q' ∧ (∀ j, j < Z → q'.dw (adOf v + 1 + j) = 0) ∧ ∀ w1 : World, Farm w0 w1 L bE 1 4 k m 100 s σ (Q.new 4) 0 (fun _ => 1) [] →
      Calls Tryz.prog 11 #[.agg #[.int .i64 1, .int .i64 4, .int .i64 k, .int .i64 m, .int .i64 100, .int .i64 600, .int .i64 3, .pointer (some ⟨L.p, 0, none⟩), .int .i64 0], .int .i64 Z, .bool false] w1 fun e w' => ∃ (st : Nat) (s' : Mm) (σ' : Nat), e = .returned (.agg #[.int .i64 0, .int .u64 65536, .int .i64 0, .int .i64 st]) ∧ σ' ≤ σ + 100 ∧ Spt w0 w' L bE 1 4 k m s' σ' q' := by
  obtain ⟨kz, hκ⟩ := class_room z1 z2
  obtain ⟨y', g⟩ : ∃ y', Got k m (classOf Z).toNat (base 1 4 k m) (Q.new 4).y 0 y' (0 + 1) (.won (base 1 4 k m 0) 0) := ⟨_, .new (fun i h => by simp [Q.new, Y.new] at h) hk⟩
  have key := fun (w1 : World) (f1 : Farm w0 w1 L bE 1 4 k m 100 s σ (Q.new 4) 0 (fun _ => 1) []) => f1.ok (own := false) a z1 z2 kz hκ (x := 0) (F := [1, 2, 3]) rfl g hσ
  have tame : ∃ (s' : Mm) (σ' : Nat) (w' : World), Farm w0 w' L bE 1 4 k m 100 s' σ' ((Q.new 4).made 0 [1, 2, 3] y' (base 1 4 k m 0) 0 (classOf Z).toNat Z false) (0 + 1) (fun _ => 1) ((Q.new 4).ox (fun _ => 1) 0 (base 1 4 k m 0) 0 Z (classOf Z).toNat false :: []) := by
    have c := key w f []
    obtain ⟨e, w', fr, h1, -⟩ := c
    obtain ⟨st, s', σ', -, -, -, -, f', -⟩ := h1
    exact ⟨s', σ', w', f'⟩
  obtain ⟨s', σ', w', f'⟩ := tame
  have S := f'.tm.scn a.g f'.tw.pile.big (o := (Q.new 4).ox (fun _ => 1) 0 (base 1 4 k m 0) 0 Z (classOf Z).toNat false) (by simp)
  have I := f'.tm.is a.g f'.tw.pile.big (o := (Q.new 4).ox (fun _ => 1) 0 (base 1 4 k m 0) 0 Z (classOf Z).toNat false) (by simp)
  have A := f'.tm.li ((Q.new 4).ox (fun _ => 1) 0 (base 1 4 k m 0) 0 Z (classOf Z).toNat false) (by simp)
  have zero : ∀ j, j < Z → ((Q.new 4).made 0 [1, 2, 3] y' (base 1 4 k m 0) 0 (classOf Z).toNat Z false).dw (adOf (((Q.new 4).made 0 [1, 2, 3] y' (base 1 4 k m 0) 0 (classOf Z).toNat Z false).sw 0) + 1 + j) = 0 := fun j hj => by
    have e := I.ad
    have e' : adOf (((Q.new 4).made 0 [1, 2, 3] y' (base 1 4 k m 0) 0 (classOf Z).toNat Z false).sw 0) = base 1 4 k m 0 := e
    rw [e', Nat.add_assoc]
    exact A.nt (1 + j) (by omega) (by show 1 + j ≤ Z; omega)
  refine ⟨_, _, ⟨S, fun j hj => ?_⟩, zero, fun w1 f1 => ?_⟩
  · exact ⟨Int.le_of_eq (zero j hj).symm, Int.le_trans (Int.le_of_eq (zero j hj)) (by decide)⟩
  · have c := key w1 f1
    rw [show packH ((0 : Nat) : Int) (((fun _ => 1) 0 : Nat) : Int) = 65536 from packH01] at c
    refine c.mono ?_
    rintro e w' ⟨st, s', σ', rfl, -, -, h3, f', o'⟩
    exact ⟨st, s', σ', rfl, h3, f'.spt⟩

end Go.Proofs.YtcdmokbamakomaaGreat
