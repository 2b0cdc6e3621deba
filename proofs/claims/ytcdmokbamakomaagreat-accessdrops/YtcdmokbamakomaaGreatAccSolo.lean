/- One who reads or lays words of an object alone, step by step, told without a program. -/
import Derived.Test.YtcdmokbamakomaaGreatAccWant
namespace Go.Proofs.YtcdmokbamakomaaGreat
open Go.RowKit

/-- an object lives, and its words are values -/
structure Solo (t n k m x G Z i : Nat) (v : Int) (q : Q) : Prop where
  sc : Scn t n k m x G Z i v false q
  cl : ∀ j, j < Z → 0 ≤ q.dw (adOf v + 1 + j) ∧ q.dw (adOf v + 1 + j) ≤ 1099511627775

def rk3 : Ac → Nat
  | .see => 4
  | .ask _ _ => 3
  | .load _ _ => 2
  | .check _ _ _ => 1
  | .lay _ _ => 1
  | _ => 0

section
variable {t n k m x G Z i σ : Nat} {v : Int} {q q' : Q} {W : Wt}

theorem Solo.at_val (S : Solo t n k m x G Z i v q) (h0 : 0 ≤ W.ix) (h1 : W.ix < Z) : 0 ≤ q.dw (W.at v) ∧ q.dw (W.at v) ≤ 1099511627775 := S.cl W.ix.toNat (by omega)

/-- a word of it is laid -/
theorem Solo.lay (S : Solo t n k m x G Z i v q) (hvl : 0 ≤ W.vl ∧ W.vl ≤ 1099511627775) : Solo t n k m x G Z i v { q with dw := upd q.dw (W.at v) W.w } := by
  have hw : W.w = W.vl := packX_val hvl.1 hvl.2
  refine ⟨S.sc.upd W.w_wd, fun j hj => ?_⟩
  show 0 ≤ upd q.dw (W.at v) W.w (adOf v + 1 + j) ∧ upd q.dw (W.at v) W.w (adOf v + 1 + j) ≤ 1099511627775
  by_cases e : adOf v + 1 + j = W.at v
  · rw [e, upd_same, hw]; exact hvl
  · rw [upd_other _ _ _ _ e]; exact S.cl j hj

end

end Go.Proofs.YtcdmokbamakomaaGreat
