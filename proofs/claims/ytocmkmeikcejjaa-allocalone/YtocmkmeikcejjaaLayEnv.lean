/- What is done in an arena by somebody (package layout's Env): it is done in its memory, by that one. -/
import Derived.Test.YtocmkmeikcejjaaLay
import Derived.Test.YtocmkmeikcejjaaMem
namespace Go.Proofs.Ytocmkmeikcejjaa
open Go.RowKit

/-- the memory behind a step by somebody -/
def Mm.by (s : Mm) (who : Int) : Mm := { s with who := who }

theorem eload_in {w : World} {L : Loc} {s : Mm} (h : MemAt w L s) (c0 c1 c2 c3 c4 c5 c6 who : Int) (a : Nat) (ha : a < s.n) :
    Calls Try.prog 48 #[.agg #[.int .i64 c0, .int .i64 c1, .int .i64 c2, .int .i64 c3, .int .i64 c4, .int .i64 c5, .int .i64 c6, .pointer (some ⟨L.p, 0, none⟩), .int .i64 who], .int .i64 a] w fun e w' => e = .returned (.int .u64 (s.wd a)) ∧ MemAt w' L ((s.by who).step a (s.wd a)) ∧ Only L.has w w' := by
  go_enter Try.func48, Try.ntmps48
  go_wp2_with (first
    | (go_at_call 66; refine (by_any (h.alloc _) _).mono ?_; rintro e w1 ⟨rfl, m1, o1, z1⟩; have k7 := o1.keep (b := w.heap.size) (o := 7) (v := .pointer (some ⟨L.p, 0, none⟩)) (fun hh => by have := h.lt _ hh; omega) (by simp))
    | (go_at_call 67; refine (load_in m1 a ha).mono ?_; rintro e w2 ⟨rfl, m2, o2, z2⟩))
  go_ret
  exact ⟨rfl, m2, ((Only.refl _ _).alloc _).trans (o1.trans o2)⟩

theorem estore_in {w : World} {L : Loc} {s : Mm} (h : MemAt w L s) (c0 c1 c2 c3 c4 c5 c6 who : Int) (a : Nat) (ha : a < s.n) (v : Int) :
    Calls Try.prog 55 #[.agg #[.int .i64 c0, .int .i64 c1, .int .i64 c2, .int .i64 c3, .int .i64 c4, .int .i64 c5, .int .i64 c6, .pointer (some ⟨L.p, 0, none⟩), .int .i64 who], .int .i64 a, .int .u64 v] w fun e w' => e = .returned (.tuple #[]) ∧ MemAt w' L ((s.by who).step a v) ∧ Only L.has w w' := by
  go_enter Try.func55, Try.ntmps55
  go_wp2_with (first
    | (go_at_call 66; refine (by_any (h.alloc _) _).mono ?_; rintro e w1 ⟨rfl, m1, o1, z1⟩; have k7 := o1.keep (b := w.heap.size) (o := 7) (v := .pointer (some ⟨L.p, 0, none⟩)) (fun hh => by have := h.lt _ hh; omega) (by simp))
    | (go_at_call 26; refine (store_in m1 a ha _).mono ?_; rintro e w2 ⟨rfl, m2, o2, z2⟩))
  go_end0
  exact ⟨rfl, m2, ((Only.refl _ _).alloc _).trans (o1.trans o2)⟩

theorem ecas_in {w : World} {L : Loc} {s : Mm} (h : MemAt w L s) (c0 c1 c2 c3 c4 c5 c6 who : Int) (a : Nat) (ha : a < s.n) (old v : Int) :
    Calls Try.prog 79 #[.agg #[.int .i64 c0, .int .i64 c1, .int .i64 c2, .int .i64 c3, .int .i64 c4, .int .i64 c5, .int .i64 c6, .pointer (some ⟨L.p, 0, none⟩), .int .i64 who], .int .i64 a, .int .u64 old, .int .u64 v] w fun e w' => e = .returned (.bool (decide (s.wd a = old))) ∧ MemAt w' L ((s.by who).cas a old v) ∧ Only L.has w w' := by
  go_enter Try.func79, Try.ntmps79
  go_wp2_with (first
    | (go_at_call 66; refine (by_any (h.alloc _) _).mono ?_; rintro e w1 ⟨rfl, m1, o1, z1⟩; have k7 := o1.keep (b := w.heap.size) (o := 7) (v := .pointer (some ⟨L.p, 0, none⟩)) (fun hh => by have := h.lt _ hh; omega) (by simp))
    | (go_at_call 85; refine (cas_in m1 a ha _ _).mono ?_; rintro e w2 ⟨rfl, m2, o2, z2⟩))
  go_ret
  exact ⟨rfl, m2, ((Only.refl _ _).alloc _).trans (o1.trans o2)⟩

/-- a number as a word: what is below 0 wraps round -/
def word64 (d : Int) : Int := d % 18446744073709551616

theorem eadd_in {w : World} {L : Loc} {s : Mm} (h : MemAt w L s) (c0 c1 c2 c3 c4 c5 c6 who : Int) (a : Nat) (ha : a < s.n) (d : Int) :
    Calls Try.prog 53 #[.agg #[.int .i64 c0, .int .i64 c1, .int .i64 c2, .int .i64 c3, .int .i64 c4, .int .i64 c5, .int .i64 c6, .pointer (some ⟨L.p, 0, none⟩), .int .i64 who], .int .i64 a, .int .i64 d] w fun e w' => e = .returned (.tuple #[]) ∧ MemAt w' L ((s.by who).step a (sum64 (s.wd a) (word64 d))) ∧ Only L.has w w' := by
  go_enter Try.func53, Try.ntmps53
  go_wp2_with (first
    | (go_at_call 66; refine (by_any (h.alloc _) _).mono ?_; rintro e w1 ⟨rfl, m1, o1, z1⟩; have k7 := o1.keep (b := w.heap.size) (o := 7) (v := .pointer (some ⟨L.p, 0, none⟩)) (fun hh => by have := h.lt _ hh; omega) (by simp))
    | (go_at_call 75; refine (add_in m1 a ha _).mono ?_; rintro e w2 ⟨rfl, m2, o2, z2⟩))
  go_end0
  exact ⟨rfl, m2, ((Only.refl _ _).alloc _).trans (o1.trans o2)⟩

theorem enow_any {w : World} {L : Loc} {s : Mm} (h : MemAt w L s) (c0 c1 c2 c3 c4 c5 c6 who : Int) :
    Calls Try.prog 58 #[.agg #[.int .i64 c0, .int .i64 c1, .int .i64 c2, .int .i64 c3, .int .i64 c4, .int .i64 c5, .int .i64 c6, .pointer (some ⟨L.p, 0, none⟩), .int .i64 who]] w fun e w' => e = .returned (.int .i64 s.steps) ∧ Below w.heap.size w w' := by
  go_enter Try.func58, Try.ntmps58
  go_wp2_with (go_at_call 76; refine (steps_any (h.alloc _)).mono ?_; rintro e w1 ⟨rfl, rfl⟩)
  go_ret
  exact ⟨rfl, grow_alloc (Below.refl _ _) _⟩

end Go.Proofs.Ytocmkmeikcejjaa
