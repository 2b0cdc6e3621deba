/- The statements' own helper: to let an object go alone. -/
import Derived.Test.YtcdmokbamakomaaGreatDropTown
namespace Go.Proofs.YtcdmokbamakomaaGreat
open Go.RowKit

theorem hpTurn_wd {cg : Int} {x : Nat} {q : Q} {η : Hp} {q' : Q} {η' : Hp} (h : ∀ a, Wd (q.dw a)) (ht : hpTurn cg x q η = (q', η')) : ∀ a, Wd (q'.dw a) := by
  have e : ∀ v, hpEnd cg x q v = (q', η') → ∀ a, Wd (q'.dw a) := by
    intro v hv
    unfold hpEnd at hv
    split at hv <;> (obtain ⟨rfl, -⟩ := Prod.mk.inj hv; exact h)
  cases η with
  | over => obtain ⟨rfl, -⟩ := Prod.mk.inj ht; exact h
  | go v Z j u =>
    cases u with
    | none =>
      simp only [hpTurn] at ht
      split at ht
      · exact e v ht
      · split at ht <;> (obtain ⟨rfl, -⟩ := Prod.mk.inj ht; exact h)
    | some u =>
      simp only [hpTurn] at ht
      split at ht
      · exact e v ht
      · split at ht
        · obtain ⟨rfl, -⟩ := Prod.mk.inj ht
          intro a
          show Wd (upd q.dw _ _ a)
          unfold upd
          split
          · exact froze_wd _ _
          · exact h a
        · obtain ⟨rfl, -⟩ := Prod.mk.inj ht; exact h

theorem dpTurn_wd {t n k m : Nat} {cg : Int} {own : Bool} {x G : Nat} {q : Q} {α : Dp} {q' : Q} {α' : Dp} (h : ∀ a, Wd (q.dw a)) (ht : dpTurn t n k m cg own x G q α = (q', α')) : ∀ a, Wd (q'.dw a) := by
  cases α with
  | see => obtain ⟨rfl, -⟩ := Prod.mk.inj ht; exact h
  | ask v => obtain ⟨rfl, -⟩ := Prod.mk.inj ht; exact h
  | mark v Z =>
    simp only [dpTurn] at ht
    split at ht <;> (obtain ⟨rfl, -⟩ := Prod.mk.inj ht; exact h)
  | help η =>
    obtain ⟨q1, η1, h1⟩ : ∃ q1 η1, hpTurn cg x q η = (q1, η1) := ⟨_, _, rfl⟩
    simp only [dpTurn, h1] at ht
    have := hpTurn_wd h h1
    cases η1 <;> (simp only [dpHelp] at ht; obtain ⟨rfl, -⟩ := Prod.mk.inj ht; exact this)
  | fin Z i η =>
    obtain ⟨q1, η1, h1⟩ : ∃ q1 η1, hpTurn cg x q η = (q1, η1) := ⟨_, _, rfl⟩
    simp only [dpTurn, h1] at ht
    have := hpTurn_wd h h1
    cases η1 <;> (simp only [dpFin] at ht; obtain ⟨rfl, -⟩ := Prod.mk.inj ht; exact this)
  | count Z i => obtain ⟨rfl, -⟩ := Prod.mk.inj ht; exact h
  | give γ =>
    obtain ⟨c', lk', F', γ', h1⟩ : ∃ c' lk' F' γ', gvTurn q.c q.lk q.F x γ = (c', lk', F', γ') := ⟨_, _, _, _, rfl⟩
    simp only [dpTurn, h1] at ht
    cases γ' <;> (simp only [dpGive] at ht; obtain ⟨rfl, -⟩ := Prod.mk.inj ht; exact h)
  | over => obtain ⟨rfl, -⟩ := Prod.mk.inj ht; exact h

section
variable {w : World} {L : Loc} {t n k m σ : Nat} {s : Mm} {q : Q} {nu : Int} {own : Bool}

end

end Go.Proofs.YtcdmokbamakomaaGreat

/- An object is let go by one who is alone: the steps, and what they come to; what stays true between calls. No program in it. -/
namespace Go.Proofs.YtcdmokbamakomaaGreat
open Go.RowKit

theorem packS_all (st A G V : Nat) (h1 : st ≤ 7) (h2 : A ≤ 1048575) (h3 : G ≤ 65535) (h4 : V ≤ 4194303) : packS st A G V = st + A * 8 + G * 8388608 + V * 549755813888 := by
  unfold packS
  rw [cut_id st 3 (by omega) (by simp; omega), cut_id A 20 (by omega) (by simp; omega), cut_id G 16 (by omega) (by simp; omega), cut_id V 22 (by omega) (by simp; omega)]

/-- what a slot's word holds that was packed -/
theorem packS_dec {st A G V : Nat} (h1 : st ≤ 7) (h2 : A ≤ 1048575) (h3 : G ≤ 65535) (h4 : V ≤ 4194303) : packS st A G V % 8 = st ∧ adOf (packS st A G V) = A ∧ genOf (packS st A G V) = G ∧ verOf' (packS st A G V) = V := by
  rw [packS_all st A G V h1 h2 h3 h4]
  unfold adOf genOf verOf'
  refine ⟨?_, ?_, ?_, ?_⟩ <;> omega

theorem mark_dec {v : Int} (hv : verOf' v < 4194303) : markW v % 8 = 4 ∧ adOf (markW v) = adOf v ∧ genOf (markW v) = genOf v ∧ verOf' (markW v) = verOf' v + 1 := by
  have e : markW v = packS ((4 : Nat) : Int) (adOf v) (genOf v) ((verOf' v + 1 : Nat) : Int) := by unfold markW; simp
  rw [e]
  exact packS_dec (by decide) (adOf_le v) (genOf_le v) (by omega)

/-- cells behind a place are frozen, so many -/
def frz (dw : Nat → Int) (a V j : Nat) : Nat → Int := fun b => if a < b ∧ b ≤ a + j then froze (dw b) V else dw b

theorem frz0 (dw : Nat → Int) (a V : Nat) : frz dw a V 0 = dw := by
  funext b
  unfold frz
  rw [if_neg (by omega)]
theorem frz_next (dw : Nat → Int) (a V j : Nat) : upd (frz dw a V j) (a + 1 + j) (froze (dw (a + 1 + j)) V) = frz dw a V (j + 1) := by
  funext b
  by_cases e : b = a + 1 + j
  · subst e
    rw [upd_same]
    unfold frz
    rw [if_pos (by omega)]
  · rw [upd_other _ _ _ _ e]
    unfold frz
    by_cases h : a < b ∧ b ≤ a + j
    · rw [if_pos h, if_pos (by omega)]
    · rw [if_neg h, if_neg (by omega)]
theorem frz_at (dw : Nat → Int) (a V j : Nat) : frz dw a V j (a + 1 + j) = dw (a + 1 + j) := by
  unfold frz
  rw [if_neg (by omega)]
theorem frz_out (dw : Nat → Int) (a V j b : Nat) (h : ¬ (a < b ∧ b ≤ a + j)) : frz dw a V j b = dw b := by
  unfold frz
  rw [if_neg h]

def Q.fz (q : Q) (a V j : Nat) : Q := { q with dw := frz q.dw a V j }

/-- an object lives no more: its slot's word is another one, its cells are frozen, its words are counted no more -/
def Q.end (q : Q) (cg : Int) (x : Nat) (v : Int) (Z i : Nat) : Q :=
  { q with lv := upd q.lv i (q.lv i - room (classOf Z).toNat), sw := upd q.sw x (behindW cg v), dw := frz q.dw (adOf v) (verOf' v + 1) Z }

/-- and its slot is given back -/
def Q.gone (q : Q) (cg : Int) (x : Nat) (v : Int) (Z i : Nat) : Q := { q.end cg x v Z i with c := q.c + 1, lk := upd q.lk x (hd q.F), F := x :: q.F }

section
variable {t n k m : Nat} {cg : Int} {own : Bool} {x G : Nat}

theorem Obj9.mark {v : Int} {Z i : Nat} (O : Obj9 t n k m v Z i) (hv : verOf' v < 4194303) : Obj9 t n k m (markW v) Z i := by
  obtain ⟨d1, d2, _, _⟩ := mark_dec hv
  exact ⟨packS_wd _ _ _ _, by rw [d1]; rfl, O.z1, O.z2, O.ik, by rw [d2]; exact O.ad⟩

theorem behind_mark {v : Int} (hv : verOf' v < 4194303) : behindW cg (markW v) = behindW cg v := by
  unfold behindW
  rw [(mark_dec hv).2.2.1]

end

end Go.Proofs.YtcdmokbamakomaaGreat

/- Objects that live, in an arena in which one is alone: one of them is let go, or it is told that it is not there. -/
namespace Go.Proofs.YtcdmokbamakomaaGreat
open Go.RowKit

theorem handIs {x G : Nat} (hx : x ≤ 65535) (g1 : 1 ≤ G) (g2 : G ≤ 65535) : HandIs (packH x G) x G := by
  rw [packH_is x G hx g2]
  refine ⟨?_, ?_, ?_, ?_⟩ <;> omega

theorem packOw_dec {Z x G : Nat} {own : Bool} (hZ : Z ≤ 65535) (hx : x ≤ 65535) (hG : G ≤ 65535) : szOf (packOw 2 Z x G own) = Z ∧ ownOf (packOw 2 Z x G own) = own := by
  have e := packOw_is 2 Z x G own (by decide) hZ hx hG
  rw [show ((2 : Nat) : Int) = 2 from rfl] at e
  rw [e]
  unfold szOf ownOf
  cases own
  · rw [if_neg (by decide)]
    exact ⟨by omega, decide_eq_false (by omega)⟩
  · rw [if_pos rfl]
    exact ⟨by omega, decide_eq_true (by omega)⟩

theorem liveIn_mid (i : Nat) (l1 : List Ox) (o : Ox) (l2 : List Ox) : liveIn i (l1 ++ o :: l2) = (if o.i = i then room o.κ else 0) + liveIn i (l1 ++ l2) := by
  induction l1 with
  | nil => rfl
  | cons a l ih =>
    show (if a.i = i then room a.κ else 0) + liveIn i (l ++ o :: l2) = _ + ((if a.i = i then room a.κ else 0) + liveIn i (l ++ l2))
    rw [ih]; omega

section
variable {t n k m nx : Nat} {q : Q} {gen : Nat → Nat} {ls : List Ox} {cg : Int}

/-- what is known of an object that lives -/
structure OxIs (t n k m : Nat) (q : Q) (o : Ox) : Prop where
  obj : Obj9 t n k m (q.sw o.x) o.Z o.i
  st : q.sw o.x % 8 = 1
  ad : adOf (q.sw o.x) = o.a
  gn : genOf (q.sw o.x) = o.g
  vr : verOf' (q.sw o.x) = 0
  sz : szOf (q.dw (adOf (q.sw o.x))) = o.Z
  ow : ownOf (q.dw (adOf (q.sw o.x))) = o.own
  cl : ∀ j, j < o.Z → frozenIn (q.dw (adOf (q.sw o.x) + 1 + j)) (verOf' (q.sw o.x) + 1) = false
  rm : (classOf o.Z).toNat = o.κ

theorem Tame.is (C : Tame t n k m q nx gen ls) (hG : Good t n k m cg 600 3) (hn : n ≤ 65535) {o : Ox} (ho : o ∈ ls) : OxIs t n k m q o := by
  have K := C.ok o ho
  have A := C.li o ho
  have hmk : k * m ≤ 64 * 256 := Nat.mul_le_mul hG.k1 hG.n1
  have ht := hG.t1
  have hk := hG.k1
  have hin := base_in (t := t) (n := n) K.ik K.uk
  rw [← K.ae] at hin
  have hr := size_room K.z1 K.kz
  have hx1 := K.x1
  have dec := packS_dec (st := 1) (A := o.a) (G := o.g) (V := 0) (by decide) (by omega) K.g2 (by decide)
  have e : q.sw o.x = packS ((1 : Nat) : Int) o.a o.g ((0 : Nat) : Int) := A.sw
  rw [← e] at dec
  obtain ⟨d1, d2, d3, d4⟩ := dec
  have z2 := K.z2
  have g2 := K.g2
  obtain ⟨hs, hw2⟩ := packOw_dec (Z := o.Z) (x := o.x) (G := o.g) (own := o.own) (by omega) (by omega) g2
  rw [← show q.dw o.a = packOw 2 o.Z o.x o.g o.own from A.hw] at hs hw2
  refine ⟨⟨by rw [e]; exact packS_wd _ _ _ _, by rw [d1]; rfl, K.z1, K.z2, K.ik, o.u, ?_, by rw [d2]; exact K.ae⟩, d1, d2, d3, d4, by rw [d2]; exact hs, by rw [d2]; exact hw2, fun j hj => ?_, by rw [K.kz]; simp⟩
  · have := K.uk; omega
  · rw [d2, Nat.add_assoc, A.nt (1 + j) (by omega) (by omega)]
    rfl

theorem Tame.room_le {l1 l2 : List Ox} {o : Ox} (C : Tame t n k m q nx gen (l1 ++ o :: l2)) : room o.κ ≤ q.lv o.i := by
  rw [C.lv o.i (C.ok o (by simp)).ik, liveIn_mid, if_pos rfl]
  omega

end

section
variable {w0 w w' : World} {L : Loc} {bE t n k m σ nx : Nat} {cg : Int} {s : Mm} {q : Q} {gen : Nat → Nat} {own : Bool}

variable {ls : List Ox}

end

theorem Farm.first {w0 w1 : World} {L : Loc} {t n k m : Nat} {cg : Int} {s : Mm} {σ : Nat} (hG : Good t n k m cg 600 3) (mm : MemAt w1 L s) (tw : Town t n k m s σ (Q.new n)) (b : Below w0.heap.size w0 w1) (f : ∀ k, L.has k → w0.heap.size ≤ k) :
    Farm w0 (w1.alloc (.cells #[.int .i64 t, .int .i64 n, .int .i64 k, .int .i64 m, .int .i64 cg, .int .i64 600, .int .i64 3, .pointer (some ⟨L.p, 0, none⟩), .int .i64 0] 28)) L w1.heap.size t n k m cg s σ (Q.new n) 0 (fun _ => 1) [] ∧ FarmApart w0 L w1.heap.size t n k m cg :=
  ⟨⟨mm.alloc _, tw, tame0 t n k m, BoxV.new, grow_alloc b _⟩, ⟨f, fun hh => by have := mm.lt _ hh; omega, b.size, hG⟩⟩

end Go.Proofs.YtcdmokbamakomaaGreat
