/- One who helps, and one who lets an object go: what each step comes to, told without a program; a step of the program is a step of that. -/
import Derived.Test.YtcdmokbamakomaaGreatDropGo
import Derived.Test.YtcdmokbamakomaaGreatDropTame
namespace Go.Proofs.YtcdmokbamakomaaGreat
open Go.RowKit

def adOf (v : Int) : Nat := (v / 8 % 1048576).toNat
def verOf' (v : Int) : Nat := (v / 549755813888 % 4194304).toNat
def szOf (u : Int) : Nat := (u / 4 % 65536).toNat
def ownOf (u : Int) : Bool := decide (u / 1125899906842624 % 2 = 1)

/-- a cell is frozen in a move of that version -/
def frozenIn (u : Int) (V : Nat) : Bool := decide (9223372036854775808 ≤ u) && decide (u / 1099511627776 % 4194304 = (V : Int))
def Wd (v : Int) : Prop := 0 ≤ v ∧ v ≤ 18446744073709551615

theorem slotIs (v : Int) (h : Wd v) : SlotIs v (v % 8) (adOf v) (genOf v) (verOf' v) :=
  ⟨h.1, h.2, rfl, by unfold adOf; omega, by unfold genOf; omega, by unfold verOf'; omega⟩
theorem adOf_le (v : Int) : adOf v ≤ 1048575 := by unfold adOf; omega

theorem headIs (u : Int) (h : Wd u) : HeadIs u (u % 4) (szOf u) (u / 262144 % 65536) (u / 17179869184 % 65536) (ownOf u) :=
  ⟨h.1, h.2, rfl, by unfold szOf; omega, rfl, rfl, rfl⟩

theorem packX_wd (a : Int) (f : Bool) (d : Int) : Wd (packX a f d) := packX_bd a f d
theorem packS_wd (a b c d : Int) : Wd (packS a b c d) := ⟨(packS_bd a b c d).1, Int.le_trans (packS_bd a b c d).2 (by decide)⟩
/-- a word is that of an object of a size, in a chunk -/
structure Obj9 (t n k m : Nat) (v : Int) (Z i : Nat) : Prop where
  wd : Wd v
  life : lifeB (v % 8) = true
  z1 : 1 ≤ Z
  z2 : Z ≤ 16
  ik : i < k
  ad : ∃ u, u + Z < m ∧ adOf v = base t n k m i + u

theorem Obj9.c1 {t n k m : Nat} {v : Int} {Z i : Nat} (h : Obj9 t n k m v Z i) : chunkOf t n k m (adOf v) = i := by
  obtain ⟨u, hu, e⟩ := h.ad
  rw [e]; exact chunkOf_in (u := u) h.ik (by have := h.z1; omega)
theorem Obj9.c2 {t n k m : Nat} {v : Int} {Z i : Nat} (h : Obj9 t n k m v Z i) : chunkOf t n k m ((adOf v : Int) + (Z : Int)) = i := by
  obtain ⟨u, hu, e⟩ := h.ad
  have : (adOf v : Int) + (Z : Int) = ((base t n k m i + (u + Z) : Nat) : Int) := by rw [e]; omega
  rw [this]; exact chunkOf_in h.ik hu
theorem Obj9.inn {t n k m : Nat} {v : Int} {Z i : Nat} (h : Obj9 t n k m v Z i) : 6 + t + n * 2 + k * 3 ≤ adOf v ∧ adOf v + Z < 6 + t + n * 2 + k * 3 + k * m := by
  obtain ⟨u, hu, e⟩ := h.ad
  have := base_in (t := t) (n := n) (m := m) (u := u) (r := Z + 1) h.ik (by omega)
  rw [e]; omega

section
variable {w : World} {L : Loc} {s : Mm} {b o : Nat} {T : TypeId} {cs : Array Value} {t n k m σ : Nat} {g p r : Int} {q : Q}

theorem cas_hit {s : Mm} {who : Int} {a : Nat} {old v : Int} (h : s.wd a = old) : (s.by who).cas a old v = (s.by who).step a v := by
  show (if s.wd a = old then _ else _) = _
  rw [if_pos h]
theorem cas_miss {s : Mm} {who : Int} {a : Nat} {old v : Int} (h : s.wd a ≠ old) : (s.by who).cas a old v = (s.by who).step a (s.wd a) := by
  show (if s.wd a = old then _ else _) = _
  rw [if_neg h]; rfl

end

/-- a slot's word is that of an object, which stands there -/
def Stands (t n k m : Nat) (q : Q) (v : Int) : Prop := ∃ i, Obj9 t n k m v (szOf (q.dw (adOf v))) i

theorem class_room {Z : Nat} (z1 : 1 ≤ Z) (z2 : Z ≤ 16) : classOf Z = ((classOf Z).toNat : Nat) ∧ (classOf Z).toNat < 4 := by
  unfold classOf
  rw [if_neg (by omega)]
  repeat' split
  all_goals omega

section
variable {w : World} {L : Loc} {s : Mm} {b o : Nat} {T : TypeId} {cs : Array Value} {t n k m σ : Nat} {g p r : Int} {q : Q} {nu : Int} {own : Bool}

end

end Go.Proofs.YtcdmokbamakomaaGreat
