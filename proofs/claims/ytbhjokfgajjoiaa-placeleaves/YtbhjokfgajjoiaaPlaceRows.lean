/- A slice of words that a statement makes, filled from an arena's memory. -/
import Derived.Test.YtbhjokfgajjoiaaPlaceAwake
import Derived.Test.YtbhjokfgajjoiaaLayRef
import Derived.Test.YtbhjokfgajjoiaaArgs
import Derived.Test.YtbhjokfgajjoiaaLow
namespace Go.Proofs.Ytbhjokfgajjoiaa
open Go.RowKit

theorem row_more {w : World} {B : Nat} {f : Nat → Int} {K j : Nat} (h : w.rowIs B 41 K (fun i => .int .u64 (if i < j then f i else 0))) (hj : j < K) :
    (w.setCell ⟨B, j, none⟩ (.int .u64 (f j))).rowIs B 41 K (fun i => .int .u64 (if i < j + 1 then f i else 0)) := by
  refine (h.set j (.int .u64 (f j))).congr fun i hi => ?_
  by_cases e : i = j
  · subst e; simp
  · rw [if_neg e]
    by_cases hlt : i < j
    · rw [if_pos hlt, if_pos (by omega)]
    · rw [if_neg hlt, if_neg (by omega)]

theorem row_all {w : World} {B : Nat} {f : Nat → Int} {K : Nat} (h : w.rowIs B 41 K (fun i => .int .u64 (if i < K then f i else 0))) : w.rowIs B 41 K (fun i => .int .u64 (f i)) :=
  h.congr fun i hi => by rw [if_pos hi]

theorem len_is {w : World} {L : Loc} {s : Mm} (h : MemAt w L s) (K : Nat) (hK : s.n = K) :
    Calls Try.prog 25 #[.pointer (some ⟨L.p, 0, none⟩)] w fun e w' => e = .returned (.int .i64 K) ∧ w' = w := by
  subst hK; exact len_any h

/-- what is at an address of an arena stays where words are given out, but for open chunks' places and chunks' words -/
theorem kind_kept {t n k m : Nat} {g p r : Int} (hG : Good t n k m g p r) {s s' : Mm} (h : Kept t n k s s') {q : Nat} {K I X : Int} (hK : KindIs t n k m q K I X) (h2 : ¬ K = 2) (h6 : ¬ K = 6) : s'.wd q = s.wd q := by
  refine h.2 q (fun hq => h2 ?_) (fun i hi hq => h6 ?_)
  · exact (KindIs.same hG.arena hK (.opens ((q : Int) - 2) (by omega) (by omega) (by omega))).1
  · exact (KindIs.same hG.arena hK (.chunk (i : Int) (by omega) (by omega) (by omega))).1

theorem bits3 (x : Int) : ∃ κ : Nat, bits .and .i64 x 3 = (κ : Int) ∧ κ < 4 := by
  obtain ⟨y, h, h'⟩ := low0 x 3 2 (by decide) (by decide)
  exact ⟨y, h, by omega⟩

end Go.Proofs.Ytbhjokfgajjoiaa
