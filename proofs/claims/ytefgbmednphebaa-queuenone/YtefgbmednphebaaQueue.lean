/- What package queue's functions come to: a queue is its room and the numbers that wait, the first one first; each function of the package leaves all blocks but the queue's own as they were. -/
import Derived.Test.YtefgbmednphebaaRows
import Derived.Test.YtefgbmednphebaaOnly
import Derived.Conc.LoneCalls
import Derived.Conc.LoneSelect
import Derived.Conc.LoneSelectN
namespace Go.Proofs.Ytefgbmednphebaa
open Go.RowKit Go.Conc

/-- where a queue's two blocks lie -/
structure Qloc where
  p : Nat
  c : Nat

def Qloc.has (L : Qloc) (k : Nat) : Prop := k = L.c

/-- numbers as a channel holds them -/
def bufOf (l : List Int) : Array Value := (l.map (Value.int .i64)).toArray

theorem bufOf_size (l : List Int) : (bufOf l).size = l.length := by simp [bufOf]
theorem bufOf_push (l : List Int) (x : Int) : (bufOf l).push (.int .i64 x) = bufOf (l ++ [x]) := by simp [bufOf]
theorem bufOf_pop (l : List Int) (x : Int) : (bufOf (x :: l)).extract 1 (bufOf (x :: l)).size = bufOf l := by
  simp only [bufOf_size, List.length_cons]
  simp [bufOf, List.take_of_length_le]
theorem bufOf_first (l : List Int) (x : Int) : (bufOf (x :: l)).getD 0 undef = .int .i64 x := by simp [bufOf]

/-- a queue with room for m, in which the numbers l wait, lies at L -/
structure QueueAt (w : World) (L : Qloc) (m : Nat) (l : List Int) : Prop where
  obj : w.heap[L.p]? = some (.cells #[.chan (some L.c), .int .i64 m] 37 (0, 0))
  ch : ∃ s r, w.heap[L.c]? = some (.chan m (bufOf l) false s r false)
  d : L.p ≠ L.c
  most : m ≤ 256
  len : l.length ≤ m

namespace QueueAt
variable {w w' : World} {L : Qloc} {m : Nat} {l : List Int}

theorem c0 (h : QueueAt w L m l) : w.cell? ⟨L.p, 0, none⟩ = some (.chan (some L.c)) := blk_cell h.obj rfl
theorem c1 (h : QueueAt w L m l) : w.cell? ⟨L.p, 1, none⟩ = some (.int .i64 m) := blk_cell h.obj rfl
theorem ltp (h : QueueAt w L m l) : L.p < w.heap.size := blk_lt h.obj
theorem ltc (h : QueueAt w L m l) : L.c < w.heap.size := by obtain ⟨s, r, e⟩ := h.ch; exact blk_lt e

/-- what leaves the queue's two blocks leaves the queue -/
theorem only {S : Nat → Prop} (h : QueueAt w L m l) (o : Only S w w') (hp : ¬ S L.p) (hc : ¬ S L.c) : QueueAt w' L m l :=
  ⟨(o.block _ h.ltp hp).trans h.obj, by obtain ⟨s, r, e⟩ := h.ch; exact ⟨s, r, (o.block _ h.ltc hc).trans e⟩, h.d, h.most, h.len⟩

theorem below (h : QueueAt w L m l) (b : Below w.heap.size w w') : QueueAt w' L m l :=
  h.only (Only.ofBelow b) (by have := h.ltp; omega) (by have := h.ltc; omega)

/-- the channel holds other numbers -/
theorem put (h : QueueAt w L m l) (l' : List Int) (hl : l'.length ≤ m) (s r : Nat) : QueueAt (w.setChan L.c m (bufOf l') false s r false) L m l' :=
  ⟨by rw [show (w.setChan L.c m (bufOf l') false s r false).heap[L.p]? = w.heap[L.p]? by simp [World.setChan, Array.getElem?_setIfInBounds_ne h.d.symm]]; exact h.obj,
    ⟨s, r, heap_setChan _ _ _ _ _ _ _ _ h.ltc⟩, h.d, h.most, hl⟩

end QueueAt

theorem only_setChan (w : World) (L : Qloc) (m : Nat) (b : Array Value) (s r : Nat) : Only L.has w (w.setChan L.c m b false s r false) :=
  ⟨rfl, rfl, rfl, by simp [World.setChan], fun k _ hs => by
    simp only [World.setChan]; exact Array.getElem?_setIfInBounds_ne (fun e => hs e.symm)⟩

theorem bytesInt : ∃ i, Try.prog.info? 3 = some i ∧ i.bytes = 8 := by
  have h : (Try.prog.info? 3).map (·.bytes) = some 8 := by kernel_rfl
  obtain ⟨i, hi, hb⟩ := Option.map_eq_some_iff.1 h
  exact ⟨i, hi, hb⟩

theorem mkChan (n : Nat) (hn : n ≤ 256) (w : World) : (Instr.makeChan 35 (.int .i64 n)).run Try.prog w = .ok (.chan (some w.heap.size)) (w.alloc (.chan n #[] false 0 0 false)) := by
  obtain ⟨i, hi, hb⟩ := bytesInt
  simpa using run_makeChan (P := Try.prog) (w := w) Try.underlying35 hi .i64 n (by omega) (by rw [hb]; omega)

theorem qnew_in (n : Nat) (h1 : 1 ≤ n) (h2 : n ≤ 256) (w : World) :
    Calls Try.prog 7 #[.int .i64 n] w fun e w' => ∃ L : Qloc, e = .returned (.tuple #[.pointer (some ⟨L.p, 0, none⟩), .int .i64 0]) ∧ QueueAt w' L n [] ∧ Below w.heap.size w w' ∧ w.heap.size ≤ L.c := by
  have hm := mkChan n h2
  go_enter Try.func7, Try.ntmps7
  go_wp2
  go_ret2
  refine ⟨⟨w.heap.size + 1, w.heap.size⟩, rfl, ⟨?_, ⟨0, 0, ?_⟩, by simp, h2, by simp⟩, ((Below.refl _ _).alloc (Nat.le_refl _) _).alloc (by simp) _, Nat.le_refl _⟩
  · have e := Go.Deep.blk_alloc_new (w.alloc (.chan n #[] false 0 0 false)) (.cells #[.chan (some w.heap.size), .int .i64 n] 37)
    simpa only [Go.Deep.nblk_alloc] using e
  · rw [Go.Deep.blk_alloc_lt _ _ _ (by simp)]
    exact Go.Deep.blk_alloc_new w _

theorem qnew_out (n : Int) (h1 : n < 1 ∨ 256 < n) (w : World) :
    Calls Try.prog 7 #[.int .i64 n] w fun e w' => e = .returned (.tuple #[.pointer none, .int .i64 1]) ∧ w' = w := by
  by_cases h : n < 1
  · go_enter Try.func7, Try.ntmps7
    go_wp2
    go_ret2
    exact ⟨rfl, rfl⟩
  · have h2 : 256 < n := by omega
    go_enter Try.func7, Try.ntmps7
    go_wp2
    go_ret2
    exact ⟨rfl, rfl⟩

theorem qlen_any {w : World} {L : Qloc} {m : Nat} {l : List Int} (h : QueueAt w L m l) :
    Calls Try.prog 11 #[.pointer (some ⟨L.p, 0, none⟩)] w fun e w' => e = .returned (.int .i64 l.length) ∧ w' = w := by
  have k0 := h.c0
  obtain ⟨s, r, k1⟩ := h.ch
  have hlen := fun ty => run_len_chan (P := Try.prog) 35 ty Try.underlying35 k1
  rw [bufOf_size] at hlen
  go_enter Try.func11, Try.ntmps11
  go_wp2
  go_ret
  exact ⟨rfl, rfl⟩

theorem qlen_nil (w : World) :
    Calls Try.prog 11 #[.pointer none] w fun e w' => e = .returned (.int .i64 0) ∧ w' = w := by
  go_enter Try.func11, Try.ntmps11
  go_wp2
  go_ret
  exact ⟨rfl, rfl⟩

theorem qroom_nil (w : World) :
    Calls Try.prog 12 #[.pointer none] w fun e w' => e = .returned (.int .i64 0) ∧ w' = w := by
  go_enter Try.func12, Try.ntmps12
  go_wp2
  go_ret
  exact ⟨rfl, rfl⟩

theorem qpush_nil (x : Int) (w : World) :
    Calls Try.prog 10 #[.pointer none, .int .i64 x] w fun e w' => e = .returned (.int .i64 1) ∧ w' = w := by
  go_enter Try.func10, Try.ntmps10
  go_wp2
  go_ret
  exact ⟨rfl, rfl⟩

theorem qpop_nil (w : World) :
    Calls Try.prog 9 #[.pointer none] w fun e w' => e = .returned (.tuple #[.int .i64 0, .bool false]) ∧ w' = w := by
  go_enter Try.func9, Try.ntmps9
  go_wp2
  go_ret2
  exact ⟨rfl, rfl⟩

theorem qroom_any {w : World} {L : Qloc} {m : Nat} {l : List Int} (h : QueueAt w L m l) :
    Calls Try.prog 12 #[.pointer (some ⟨L.p, 0, none⟩)] w fun e w' => e = .returned (.int .i64 (m - l.length)) ∧ ∃ n, w' = w.drewN n := by
  have k0 := h.c0
  have k2 := h.c1
  obtain ⟨s, r, k1⟩ := h.ch
  have hm := h.most
  have hl := h.len
  have hlen := fun ty => run_len_chan (P := Try.prog) (w := w.drew) 35 ty Try.underlying35 k1
  rw [bufOf_size] at hlen
  go_enter Try.func12, Try.ntmps12
  go_wp2
  go_region
  all_goals go_wp2
  all_goals go_ret
  all_goals exact ⟨rfl, _, rfl⟩

end Go.Proofs.Ytefgbmednphebaa
