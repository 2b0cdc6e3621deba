/- What the program's unpacking comes to: Handle, Slot, Chunk, Head, Cell and Top of package word, for every word; what was in memory stays. -/
import Derived.Test.YtkgpffcnimmdkabGreatWord
import Derived.Test.YtkgpffcnimmdkabGreatLayEnv
import Derived.Test.YtkgpffcnimmdkabGreatBox
import Derived.Test.YtkgpffcnimmdkabGreatPhase
import Derived.Test.YtkgpffcnimmdkabGreatLay
namespace Go.Proofs.YtkgpffcnimmdkabGreat
open Go.RowKit

set_option maxHeartbeats 400000 in
theorem slot_any (x : Int) (w : World) (x0 : 0 ≤ x) (x1 : x ≤ 18446744073709551615) :
    Calls Tryz.prog 23 #[.int .u64 x] w fun e w' => e = .returned (.agg #[.int .i64 (x % 8), .int .i64 (x / 8 % 1048576), .int .i64 (x / 8388608 % 65536), .int .i64 (x / 549755813888 % 4194304)]) ∧ Below w.heap.size w w' := by
  go_enter Tryz.func23, Tryz.ntmps23
  go_wp2_with (go_at_call 56; refine (get_any _ _ _ _ x0 x1 (by decide) (by decide) (by decide) (by decide)).mono ?_; rintro e w' ⟨rfl, rfl⟩)
  exact bodyPost_ret (v := .agg #[.int .i64 (x % 8), .int .i64 (x / 8 % 1048576), .int .i64 (x / 8388608 % 65536), .int .i64 (x / 549755813888 % 4194304)]) (by simp [results, Tryz.results23, go_sem]) rfl ⟨rfl, (Below.refl _ _).alloc (Nat.le_refl _) _⟩

set_option maxHeartbeats 400000 in
theorem chunk_any (x : Int) (w : World) (x0 : 0 ≤ x) (x1 : x ≤ 18446744073709551615) :
    Calls Tryz.prog 27 #[.int .u64 x] w fun e w' => e = .returned (.agg #[.int .i64 (x % 4), .int .i64 (x / 4 % 64), .int .i64 (x / 256 % 1048576), .int .i64 (x / 268435456 % 68719476736)]) ∧ Below w.heap.size w w' := by
  go_enter Tryz.func27, Tryz.ntmps27
  go_wp2_with (go_at_call 56; refine (get_any _ _ _ _ x0 x1 (by decide) (by decide) (by decide) (by decide)).mono ?_; rintro e w' ⟨rfl, rfl⟩)
  exact bodyPost_ret (v := .agg #[.int .i64 (x % 4), .int .i64 (x / 4 % 64), .int .i64 (x / 256 % 1048576), .int .i64 (x / 268435456 % 68719476736)]) (by simp [results, Tryz.results27, go_sem]) rfl ⟨rfl, (Below.refl _ _).alloc (Nat.le_refl _) _⟩

set_option maxHeartbeats 400000 in
theorem head_any (x : Int) (w : World) (x0 : 0 ≤ x) (x1 : x ≤ 18446744073709551615) :
    Calls Tryz.prog 29 #[.int .u64 x] w fun e w' => e = .returned (.agg #[.int .i64 (x % 4), .int .i64 (x / 4 % 65536), .int .i64 (x / 262144 % 65536), .int .i64 (x / 17179869184 % 65536), .bool (decide (x / 1125899906842624 % 2 = 1))]) ∧ Below w.heap.size w w' := by
  rw [← bit_at x 1125899906842624 50 (by decide) (by decide) x0 x1]
  go_enter Tryz.func29, Tryz.ntmps29
  go_wp2_with (go_at_call 56; refine (get_any _ _ _ _ x0 x1 (by decide) (by decide) (by decide) (by decide)).mono ?_; rintro e w' ⟨rfl, rfl⟩)
  exact bodyPost_ret (v := .agg #[.int .i64 (x % 4), .int .i64 (x / 4 % 65536), .int .i64 (x / 262144 % 65536), .int .i64 (x / 17179869184 % 65536), .bool (bits .and .u64 x 1125899906842624 != 0)]) (by simp [results, Tryz.results29, go_sem]) rfl ⟨rfl, (Below.refl _ _).alloc (Nat.le_refl _) _⟩

set_option maxHeartbeats 400000 in
theorem cell_any (x : Int) (w : World) (x0 : 0 ≤ x) (x1 : x ≤ 18446744073709551615) :
    Calls Tryz.prog 71 #[.int .u64 x] w fun e w' => e = .returned (.agg #[.int .i64 (x % 1099511627776), .bool (decide (9223372036854775808 ≤ x)), .int .i64 (if 9223372036854775808 ≤ x then x / 1099511627776 % 4194304 else 0)]) ∧ Below w.heap.size w w' := by
  have hb := bit_at x 9223372036854775808 63 (by decide) (by decide) x0 x1
  have H : Hid ((bits .and .u64 x 9223372036854775808 != 0) = decide (9223372036854775808 ≤ x)) := by
    rw [hb]; unfold Hid; congr 1; simp only [eq_iff_iff]; omega
  clear hb
  by_cases h : 9223372036854775808 ≤ x
  · have h1 : (bits .and .u64 x 9223372036854775808 != 0) = true := by rw [H.out]; simp [h]
    clear H
    rw [decide_eq_true h, if_pos h]
    clear h
    go_enter Tryz.func71, Tryz.ntmps71
    go_wp2_with (go_at_call 56; refine (get_any _ _ _ _ x0 x1 (by decide) (by decide) (by decide) (by decide)).mono ?_; rintro e w' ⟨rfl, rfl⟩)
    exact bodyPost_ret (v := .agg #[.int .i64 (x % 1099511627776), .bool true, .int .i64 (x / 1099511627776 % 4194304)]) (by simp [results, Tryz.results71, go_sem]) rfl ⟨rfl, ((Below.refl _ _).alloc (Nat.le_refl _) _).alloc (by simp) _⟩
  · have h1 : (bits .and .u64 x 9223372036854775808 != 0) = false := by rw [H.out]; simpa using h
    clear H
    rw [decide_eq_false h, if_neg h]
    clear h
    go_enter Tryz.func71, Tryz.ntmps71
    go_wp2_with (go_at_call 56; refine (get_any _ _ _ _ x0 x1 (by decide) (by decide) (by decide) (by decide)).mono ?_; rintro e w' ⟨rfl, rfl⟩)
    exact bodyPost_ret (v := .agg #[.int .i64 (x % 1099511627776), .bool false, .int .i64 0]) (by simp [results, Tryz.results71, go_sem]) rfl ⟨rfl, ((Below.refl _ _).alloc (Nat.le_refl _) _).alloc (by simp) _⟩

set_option maxHeartbeats 400000 in
theorem top_any (x : Int) (w : World) (x0 : 0 ≤ x) (x1 : x ≤ 18446744073709551615) :
    Calls Tryz.prog 123 #[.int .u64 x] w fun e w' => e = .returned (.tuple #[.int .i64 (x % 131072 - 1), .int .i64 (x / 131072 % 68719476736)]) ∧ w' = w := by
  go_enter Tryz.func123, Tryz.ntmps123
  go_wp2_with (go_at_call 56; refine (get_any _ _ _ _ x0 x1 (by decide) (by decide) (by decide) (by decide)).mono ?_; rintro e w' ⟨rfl, rfl⟩)
  go_ret2
  exact ⟨rfl, rfl⟩

set_option maxHeartbeats 400000 in
theorem handle_yes (x : Int) (w : World) (x0 : 65536 ≤ x) (x1 : x ≤ 4294967295) :
    Calls Tryz.prog 22 #[.int .u64 x] w fun e w' => e = .returned (.tuple #[.agg #[.int .i64 (x % 65536), .int .i64 (x / 65536)], .bool true]) ∧ Below w.heap.size w w' := by
  have h1 : (x / 65536 % 65536 == 0) = false := by simp; omega
  have h2 : (x / 4294967296 != 0) = false := by simp; omega
  have h3 : x / 65536 = x / 65536 % 65536 := by omega
  rw [h3]
  clear h3
  go_enter Tryz.func22, Tryz.ntmps22
  go_wp2_with (go_at_call 56; refine (get_any _ _ _ _ (by omega) (by omega) (by decide) (by decide) (by decide) (by decide)).mono ?_; rintro e w' ⟨rfl, rfl⟩)
  exact bodyPost_ret (v := .tuple #[.agg #[.int .i64 (x % 65536), .int .i64 (x / 65536 % 65536)], .bool true]) (by simp [results, Tryz.results22, go_sem]) rfl ⟨rfl, (Below.refl _ _).alloc (Nat.le_refl _) _⟩

end Go.Proofs.YtkgpffcnimmdkabGreat

/- A struct in a block (its cells as a list), and regions that read it, write one of its cells, and do a step in a memory. -/
namespace Go.Proofs.YtkgpffcnimmdkabGreat
open Go.RowKit

/-- a struct lies in a block, from a place on: its cells -/
structure At (w : World) (b o : Nat) (T : TypeId) (c : Array Value) (l : List Value) : Prop where
  obj : w.heap[b]? = some (.cells c T (0, 0))
  is : ∀ i v, l[i]? = some v → c[o + i]? = some v

/-- all cells but those of the struct are as they were -/
def Same (o k : Nat) (c c' : Array Value) : Prop := c'.size = c.size ∧ ∀ i, ¬ (o ≤ i ∧ i < o + k) → c'[i]? = c[i]?

theorem Same.refl {o k : Nat} {c : Array Value} : Same o k c c := ⟨rfl, fun _ _ => rfl⟩
theorem Same.set {o k : Nat} {c c' : Array Value} (h : Same o k c c') {j : Nat} (hj : o ≤ j ∧ j < o + k) (v : Value) : Same o k c (c'.setIfInBounds j v) :=
  ⟨by rw [Array.size_setIfInBounds]; exact h.1, fun i hi => by rw [Array.getElem?_setIfInBounds_ne (fun e => hi (by rw [← e]; exact hj))]; exact h.2 i hi⟩
theorem Same.trans {o k : Nat} {c c' c'' : Array Value} (h : Same o k c c') (g : Same o k c' c'') : Same o k c c'' := ⟨g.1.trans h.1, fun i hi => (g.2 i hi).trans (h.2 i hi)⟩

namespace At
variable {w w' : World} {b o : Nat} {T : TypeId} {c : Array Value} {l : List Value}

theorem cell (h : At w b o T c l) (i : Nat) {v : Value} (hv : l[i]? = some v) : w.cell? ⟨b, o + i, none⟩ = some v := blk_cell h.obj (h.is i v hv)
theorem cell0 (h : At w b o T c l) {v : Value} (hv : l[0]? = some v) : w.cell? ⟨b, o, none⟩ = some v := h.cell 0 hv
theorem at0 (h : At w b 0 T c l) (i : Nat) {v : Value} (hv : l[i]? = some v) : w.cell? ⟨b, i, none⟩ = some v := by
  have := h.cell i hv
  rwa [Nat.zero_add] at this
theorem fz (h : At w b o T c l) (i : Nat) : w.frozen? ⟨b, i, none⟩ = false := blk_frozen h.obj i
theorem lt (h : At w b o T c l) : b < w.heap.size := blk_lt h.obj
theorem of_block (h : At w b o T c l) (e : w'.heap[b]? = w.heap[b]?) : At w' b o T c l := ⟨e.trans h.obj, h.is⟩
theorem grown (h : At w b o T c l) (g : Below w.heap.size w w') : At w' b o T c l := h.of_block (g.block _ h.lt)
theorem drew (h : At w b o T c l) : At w.drew b o T c l := h.of_block rfl
theorem only {S : Nat → Prop} (h : At w b o T c l) (g : Only S w w') (hs : ¬ S b) : At w' b o T c l := h.of_block (g.block _ h.lt hs)
theorem other (h : At w b o T c l) {k : Nat} (hk : b ≠ k) (i : Nat) (v : Value) : At (w.setCell ⟨k, i, none⟩ v) b o T c l := h.of_block (Go.Deep.blk_setCell_other _ _ _ _ (by simpa using hk))
theorem ltc (h : At w b o T c l) {i : Nat} (hi : i < l.length) : o + i < c.size := by
  have := h.is i _ (List.getElem?_eq_getElem hi)
  exact (Array.getElem?_eq_some_iff.1 this).1
theorem set (h : At w b o T c l) (i : Nat) (v : Value) : At (w.setCell ⟨b, o + i, none⟩ v) b o T (c.setIfInBounds (o + i) v) (l.set i v) :=
  ⟨blk_setCell _ _ _ _ _ _ h.obj, fun j u hj => by
    rw [List.getElem?_set] at hj
    by_cases hij : i = j
    · subst hij
      rw [if_pos rfl] at hj
      by_cases hl : i < l.length
      · rw [if_pos hl] at hj
        rw [Array.getElem?_setIfInBounds_self_of_lt (h.ltc hl)]; exact hj
      · rw [if_neg hl] at hj; cases hj
    · rw [if_neg hij] at hj
      rw [Array.getElem?_setIfInBounds_ne (by omega)]; exact h.is j u hj⟩
theorem put0 (h : At w b 0 T c l) (i : Nat) (v : Value) : At (w.setCell ⟨b, i, none⟩ v) b 0 T (c.setIfInBounds i v) (l.set i v) := by
  have := h.set i v
  rwa [Nat.zero_add] at this
theorem set0 (h : At w b o T c l) (v : Value) : At (w.setCell ⟨b, o, none⟩ v) b o T (c.setIfInBounds o v) (l.set 0 v) := h.set 0 v
theorem new (w : World) (T : TypeId) (l : List Value) : At (w.alloc (.cells l.toArray T)) w.heap.size 0 T l.toArray l :=
  ⟨Go.Deep.blk_alloc_new _ _, fun i v hv => by simpa using hv⟩
end At

theorem Only.andL {L : Loc} {b : Nat} {w w' : World} (h : Only L.has w w') : Only (L.and b) w w' := h.mono fun _ _ k => Or.inl k
theorem Only.set {L : Loc} {b : Nat} {w w' : World} (h : Only (L.and b) w w') (i : Nat) (v : Value) : Only (L.and b) w (w'.setCell ⟨b, i, none⟩ v) := h.setCell (fun _ => Or.inr rfl) v
theorem Only.ofGrown {S : Nat → Prop} {w w' : World} (h : Below w.heap.size w w') : Only S w w' := (Only.ofBelow h).mono fun i hi k => absurd k (by omega)
theorem MemAt.setIn {L : Loc} {s : Mm} {b : Nat} {w : World} (h : MemAt w L s) (hb : ¬ L.has b) (i : Nat) (v : Value) : MemAt (w.setCell ⟨b, i, none⟩ v) L s := h.other hb v
theorem below_setIn {w w' : World} {b : Nat} (h : Below w.heap.size w w') (hb : w.heap.size ≤ b) (i : Nat) (v : Value) : Below w.heap.size w (w'.setCell ⟨b, i, none⟩ v) :=
  ⟨h.os, h.tape, h.output, by rw [Go.Deep.nblk_setCell]; exact h.size, fun k hk => by
    rw [Go.Deep.blk_setCell_other _ _ _ _ (fun e => by simp only at e; omega)]; exact h.block k hk⟩

theorem BoxV.setIn {w : World} {B P : Nat} {c0 c1 c2 c3 c4 c5 c6 who : Int} (h : BoxV w B c0 c1 c2 c3 c4 c5 c6 P who) {b : Nat} (hb : ¬ B = b) (i : Nat) (v : Value) : BoxV (w.setCell ⟨b, i, none⟩ v) B c0 c1 c2 c3 c4 c5 c6 P who :=
  h.only (S := fun k => k = b) (Only.setCell (a := ⟨b, i, none⟩) (Only.refl (fun k => k = b) _) (fun _ => rfl) _) hb

theorem BoxV.newB {w : World} {P : Nat} {c0 c1 c2 c3 c4 c5 c6 who : Int} {T : TypeId} (O : Obj) : BoxV ((w.alloc (.cells #[.int .i64 c0, .int .i64 c1, .int .i64 c2, .int .i64 c3, .int .i64 c4, .int .i64 c5, .int .i64 c6, .pointer (some ⟨P, 0, none⟩), .int .i64 who] T)).alloc O) w.heap.size c0 c1 c2 c3 c4 c5 c6 P who := BoxV.new.grown (grow_alloc (Below.refl _ _) _)

/-- the memory and a struct, while a step is done and what it told is noted -/
def phAt (L : Loc) (b o : Nat) (T : TypeId) (c c' : Array Value) (s s' : Mm) (l l' : List Value) : Nat → World → Prop
  | 0, w => MemAt w L s ∧ At w b o T c l
  | 1, w => MemAt w L s' ∧ At w b o T c l
  | _, w => MemAt w L s' ∧ At w b o T c' l'

theorem phAt_grown {L : Loc} {b o : Nat} {T : TypeId} {c c' : Array Value} {s s' : Mm} {l l' : List Value} (x y : World) (p : Nat) (g : Grown x y) (k : phAt L b o T c c' s s' l l' p x) : phAt L b o T c c' s s' l l' p y := by
  match p, k with
  | 0, k => exact ⟨k.1.below g, k.2.grown g⟩
  | 1, k => exact ⟨k.1.below g, k.2.grown g⟩
  | p + 2, k => exact ⟨k.1.below g, k.2.grown g⟩

/-- of the blocks that were there only the memory's and b were written, and of b only the cell f -/
structure OnlyBut (L : Loc) (b f : Nat) (x y : World) : Prop where
  only : Only (L.and b) x y
  cell : ∀ j, j ≠ f → b < x.heap.size → y.cell? ⟨b, j, none⟩ = x.cell? ⟨b, j, none⟩

namespace OnlyBut
variable {L : Loc} {b f : Nat} {x y z : World}
theorem refl (x : World) : OnlyBut L b f x x := ⟨Only.refl _ _, fun _ _ _ => rfl⟩
theorem trans (x y z : World) (h : OnlyBut L b f x y) (k : OnlyBut L b f y z) : OnlyBut L b f x z :=
  ⟨h.only.trans k.only, fun j hj hb => (k.cell j hj (Nat.lt_of_lt_of_le hb h.only.size)).trans (h.cell j hj hb)⟩
theorem ofGrown (x y : World) (h : Grown x y) : OnlyBut L b f x y := ⟨Only.ofGrown h, fun j _ hb => h.cell (p := ⟨b, j, none⟩) hb⟩
theorem ofOnly (h : Only L.has x y) (hb : ¬ L.has b) : OnlyBut L b f x y := ⟨h.andL, fun j _ hl => h.cell (p := ⟨b, j, none⟩) hl hb⟩
theorem set (x : World) (v : Value) : OnlyBut L b f x (x.setCell ⟨b, f, none⟩ v) := ⟨(Only.refl _ _).set _ _, fun j hj _ => World.cell?_setCell_other _ _ _ _ (fun e => hj (by cases e; rfl))⟩
theorem keep (h : OnlyBut L b f x y) {j : Nat} {v : Value} (hj : j ≠ f) (hc : x.cell? ⟨b, j, none⟩ = some v) : y.cell? ⟨b, j, none⟩ = some v :=
  (h.cell j hj (World.block_lt_of_cell? x _ hc)).trans hc
end OnlyBut

end Go.Proofs.YtkgpffcnimmdkabGreat

/- What the document's own account of an arena comes to (package footlockerref04), for every number; what was in memory stays. -/
namespace Go.Proofs.YtkgpffcnimmdkabGreat
open Go.RowKit

theorem lof_in (t s k n g p r a q : Int) (w : World) (h : Arena t s k n) (hn : 1 ≤ n) (ha : 6 + t + s * 2 + k * 3 ≤ a) (ha2 : a ≤ 9223372036854775807) (hq : (a - (6 + t + s * 2 + k * 3)) / n = q) (hk : q < k) :
    Calls Tryz.prog 26 #[.agg #[.int .i64 t, .int .i64 s, .int .i64 k, .int .i64 n, .int .i64 g, .int .i64 p, .int .i64 r], .int .i64 a] w fun e w' => e = .returned (.int .i64 q) ∧ Below w.heap.size w w' := by
  have hA := h
  obtain ⟨t0, t1, s0, s1, k0, k1, n0, n1⟩ := h
  have q0 : 0 ≤ q := by rw [← hq]; exact Int.ediv_nonneg (by omega) (by omega)
  go_enter Tryz.func26, Tryz.ntmps26
  go_wp2_with (go_at_call 57; refine (lbase_any _ _ _ _ _ _ _ 0 0 _ hA (by simp) (by omega) (by omega)).mono ?_; rintro e w1 ⟨rfl, b1⟩; have hc := CfgAt.new.grown b1; have e2 := hc.c2; have e3 := hc.c3)
  go_ret
  exact ⟨rfl, grow (grow_alloc (Below.refl _ _) _) b1⟩

theorem lof_low (t s k n g p r a : Int) (w : World) (h : Arena t s k n) (ha : a < 6 + t + s * 2 + k * 3) :
    Calls Tryz.prog 26 #[.agg #[.int .i64 t, .int .i64 s, .int .i64 k, .int .i64 n, .int .i64 g, .int .i64 p, .int .i64 r], .int .i64 a] w fun e w' => e = .returned (.int .i64 (-1)) ∧ Below w.heap.size w w' := by
  have hA := h
  obtain ⟨t0, t1, s0, s1, k0, k1, n0, n1⟩ := h
  go_enter Tryz.func26, Tryz.ntmps26
  go_wp2_with (go_at_call 57; refine (lbase_any _ _ _ _ _ _ _ 0 0 _ hA (by simp) (by omega) (by omega)).mono ?_; rintro e w1 ⟨rfl, b1⟩; have hc := CfgAt.new.grown b1; have e2 := hc.c2; have e3 := hc.c3)
  go_ret
  exact ⟨rfl, grow (grow_alloc (Below.refl _ _) _) b1⟩

theorem lof_high (t s k n g p r a q : Int) (w : World) (h : Arena t s k n) (hn : 1 ≤ n) (ha : 6 + t + s * 2 + k * 3 ≤ a) (ha2 : a ≤ 9223372036854775807) (hq : (a - (6 + t + s * 2 + k * 3)) / n = q) (hk : k ≤ q) :
    Calls Tryz.prog 26 #[.agg #[.int .i64 t, .int .i64 s, .int .i64 k, .int .i64 n, .int .i64 g, .int .i64 p, .int .i64 r], .int .i64 a] w fun e w' => e = .returned (.int .i64 (-1)) ∧ Below w.heap.size w w' := by
  have hA := h
  obtain ⟨t0, t1, s0, s1, k0, k1, n0, n1⟩ := h
  go_enter Tryz.func26, Tryz.ntmps26
  go_wp2_with (go_at_call 57; refine (lbase_any _ _ _ _ _ _ _ 0 0 _ hA (by simp) (by omega) (by omega)).mono ?_; rintro e w1 ⟨rfl, b1⟩; have hc := CfgAt.new.grown b1; have e2 := hc.c2; have e3 := hc.c3)
  go_ret
  exact ⟨rfl, grow (grow_alloc (Below.refl _ _) _) b1⟩

/-- what stands at the address a: its kind, which one, and which word of it -/
inductive KindIs (t s k n a : Int) : Int → Int → Int → Prop where
  | low : a < 0 → KindIs t s k n a (-1) 0 0
  | epoch : a = 0 → KindIs t s k n a 0 0 0
  | top : a = 1 → KindIs t s k n a 1 0 0
  | opens (i : Int) : 0 ≤ i → i < 4 → a = 2 + i → KindIs t s k n a 2 i 0
  | pin (i : Int) : 0 ≤ i → i < t → a = 6 + i → KindIs t s k n a 3 i 0
  | slot (i : Int) : 0 ≤ i → i < s → a = 6 + t + i * 2 → KindIs t s k n a 4 i 0
  | link (i : Int) : 0 ≤ i → i < s → a = 6 + t + i * 2 + 1 → KindIs t s k n a 5 i 0
  | chunk (i : Int) : 0 ≤ i → i < k → a = 6 + t + s * 2 + i * 3 → KindIs t s k n a 6 i 0
  | live (i : Int) : 0 ≤ i → i < k → a = 6 + t + s * 2 + i * 3 + 1 → KindIs t s k n a 7 i 0
  | when (i : Int) : 0 ≤ i → i < k → a = 6 + t + s * 2 + i * 3 + 2 → KindIs t s k n a 8 i 0
  | word (i x : Int) : 0 ≤ i → i < k → 0 ≤ x → x < n → a = 6 + t + s * 2 + k * 3 + i * n + x → KindIs t s k n a 9 i x
  | high : 6 + t + s * 2 + k * 3 + k * n ≤ a → KindIs t s k n a (-1) 0 0

/-- the words of what stands in an arena, in their order -/
def rowAt (t s k m : Int) (j : Nat) : Int := [1, 1, 4, t, s * 2, k * 3, m].getD j 0
/-- how many words stand ahead of the j-th of these -/
def rowUpto (t s k m : Int) (j : Nat) : Int := [0, 1, 2, 6, 6 + t, 6 + t + s * 2, 6 + t + s * 2 + k * 3, 6 + t + s * 2 + k * 3 + m].getD j 0

theorem rowUpto_succ (t s k m : Int) (j : Nat) (h : j < 7) : rowUpto t s k m (j + 1) = rowUpto t s k m j + rowAt t s k m j := by
  match j, h with
  | 0, _ | 1, _ | 2, _ | 3, _ | 4, _ | 5, _ | 6, _ => simp [rowUpto, rowAt]

theorem rowAt_bd {t s k n m : Int} (h : Arena t s k n) (m0 : 0 ≤ m) (m1 : m ≤ 1000000) (j : Nat) : 0 ≤ rowAt t s k m j ∧ rowAt t s k m j ≤ 1000000 := by
  obtain ⟨t0, t1, s0, s1, k0, k1, n0, n1⟩ := h
  match j with
  | 0 | 1 | 2 => simp [rowAt]
  | 3 | 4 | 5 | 6 => simp [rowAt]; omega
  | j + 7 => simp [rowAt]

/-- the rows as they lie in memory -/
theorem rows_cell {w : World} {t s k m : Int} {T : TypeId} (j : Nat) (h : j < 7) :
    (w.alloc (.cells #[.int .i64 1, .int .i64 1, .int .i64 4, .int .i64 t, .int .i64 (2 * s), .int .i64 (3 * k), .int .i64 m] T)).cell? ⟨w.heap.size, j, none⟩ = some (.int .i64 (rowAt t s k m j)) := by
  match j, h with
  | 0, _ | 1, _ | 2, _ | 3, _ | 4, _ | 5, _ | 6, _ => simp [rowAt, Int.mul_comm]

set_option maxHeartbeats 2000000 in
theorem rkind_any (t s k n g p r a m : Int) (w : World) (h : Arena t s k n) (hn : 1 ≤ n) (hm : k * n = m) (m0 : 0 ≤ m) (m1 : m ≤ 1000000) (ha2 : a ≤ 9223372036854775807) :
    Calls Tryz.prog 12 #[.agg #[.int .i64 t, .int .i64 s, .int .i64 k, .int .i64 n, .int .i64 g, .int .i64 p, .int .i64 r], .int .i64 a] w fun e w' => ∃ K I X, e = .returned (.tuple #[.int .i64 K, .int .i64 I, .int .i64 X]) ∧ KindIs t s k n a K I X ∧ Below w.heap.size w w' := by
  have hA := h
  obtain ⟨t0, t1, s0, s1, k0, k1, n0, n1⟩ := h
  by_cases hlow : a < 0
  · go_enter Tryz.func12, Tryz.ntmps12
    go_wp2
    go_ret3
    exact ⟨_, _, _, rfl, .low hlow, grow_alloc (Below.refl _ _) _⟩
  · go_enter Tryz.func12, Tryz.ntmps12
    go_wp2
    refine wp_over (fun W => CfgAt W w.heap.size t s k n g p r ∧ (∀ j, j < 7 → W.cell? ⟨w.heap.size + 1, j, none⟩ = some (.int .i64 (rowAt t s k m j))) ∧ Below w.heap.size w W) ⟨CfgAt.new.grown (grow_alloc (Below.refl _ _) _), fun j hj => ?_, grow_alloc (grow_alloc (Below.refl _ _) _) _⟩ ?_
    · have e := rows_cell (w := w.alloc (.cells #[.int .i64 t, .int .i64 s, .int .i64 k, .int .i64 n, .int .i64 g, .int .i64 p, .int .i64 r] 24)) (t := t) (s := s) (k := k) (m := m) (T := 3) j hj
      simpa using e
    rintro W ⟨hc, hr, hb⟩
    have e3 := hc.c3
    go_loop [1, 8] (fun va i => ∃ (j : Nat) (x : Int), j ≤ 7 ∧ i = .int .i64 j ∧ va = .int .i64 x ∧ 0 ≤ x ∧ x ≤ a ∧ Hid (a = rowUpto t s k m j + x)) (fun _ i => 7 - (intOf i).toNat)
    case atStart => exact ⟨0, a, by omega, rfl, rfl, hlow, Int.le_refl _, (show a = 0 + a by omega)⟩
    case round =>
      obtain ⟨j, x, hj, rfl, rfl, x0, xa, hx⟩ := hrel
      by_cases hlt : j < 7
      · have hlt' : (j : Int) < 7 := by omega
        have hcell := hr j hlt
        have hbd := rowAt_bd hA m0 m1 j
        by_cases hge : rowAt t s k m j ≤ x
        · have hx1 : Hid (a = rowUpto t s k m (j + 1) + (x - rowAt t s k m j)) := by
            have := hx.out; have := rowUpto_succ t s k m j hlt
            exact (show a = _ by omega)
          have x2 : x ≤ 9223372036854775807 := by omega
          clear hx hr
          go_wp2
          go_round
          case rel => exact ⟨j + 1, x - rowAt t s k m j, by omega, by go_num, rfl, by omega, by omega, hx1⟩
          case measure => simp [intOf]; omega
        · clear hr
          have x2 : x ≤ 9223372036854775807 := by omega
          have hjs : j = 0 ∨ j = 1 ∨ j = 2 ∨ j = 3 ∨ j = 4 ∨ j = 5 ∨ j = 6 := by omega
          rcases hjs with rfl | rfl | rfl | rfl | rfl | rfl | rfl
          · simp [rowAt] at hcell hge
            have hx1 := hx.out
            simp [rowUpto] at hx1
            have HX : Hid (a = x) := (show a = _ by omega)
            clear hx1
            obtain rfl : x = 0 := by omega
            go_wp2
            go_ret3
            exact ⟨0, 0, 0, rfl, .epoch HX.out, hb⟩
          · simp [rowAt] at hcell hge
            have hx1 := hx.out
            simp [rowUpto] at hx1
            have HX : Hid (a = 1 + x) := (show a = _ by omega)
            clear hx1
            obtain rfl : x = 0 := by omega
            go_wp2
            go_ret3
            exact ⟨1, 0, 0, rfl, .top HX.out, hb⟩
          · simp [rowAt] at hcell hge
            have hx1 := hx.out
            simp [rowUpto] at hx1
            have HX : Hid (a = 2 + x) := (show a = _ by omega)
            clear hx1
            go_wp2
            go_ret3
            exact ⟨2, x, 0, rfl, .opens x x0 (by omega) HX.out, hb⟩
          · simp [rowAt] at hcell hge
            have hx1 := hx.out
            simp [rowUpto] at hx1
            have HX : Hid (a = 6 + x) := (show a = _ by omega)
            clear hx1
            go_wp2
            go_ret3
            exact ⟨3, x, 0, rfl, .pin x x0 (by omega) HX.out, hb⟩
          · simp [rowAt] at hcell hge
            have hx1 := hx.out
            simp [rowUpto] at hx1
            have HX : Hid (a = 6 + t + x) := (show a = _ by omega)
            clear hx1
            have hq : x / 2 * 2 + x % 2 = x := by omega
            by_cases h2 : x % 2 = 0
            · go_wp2
              go_ret3
              exact ⟨4, x / 2, 0, by simp, .slot _ (by omega) (by omega) (by have := HX.out; omega), hb⟩
            · have h3 : x % 2 = 1 := by omega
              clear h2
              go_wp2
              go_ret3
              exact ⟨5, x / 2, 0, by simp, .link _ (by omega) (by omega) (by have := HX.out; omega), hb⟩
          · simp [rowAt] at hcell hge
            have hx1 := hx.out
            simp [rowUpto] at hx1
            have HX : Hid (a = 6 + t + s * 2 + x) := (show a = _ by omega)
            clear hx1
            have hm3 : x % 3 = 0 ∨ x % 3 = 1 ∨ x % 3 = 2 := by omega
            rcases hm3 with h3 | h3 | h3
            · go_wp2
              go_ret3
              exact ⟨6, x / 3, 0, by simp, .chunk _ (by omega) (by omega) (by have := HX.out; omega), hb⟩
            · go_wp2
              go_ret3
              exact ⟨7, x / 3, 0, by simp, .live _ (by omega) (by omega) (by have := HX.out; omega), hb⟩
            · go_wp2
              go_ret3
              exact ⟨8, x / 3, 0, by simp, .when _ (by omega) (by omega) (by have := HX.out; omega), hb⟩
          · simp [rowAt] at hcell hge
            have hx1 := hx.out
            simp [rowUpto] at hx1
            have HX : Hid (a = 6 + t + s * 2 + k * 3 + x) := (show a = _ by omega)
            clear hx1
            have hd := Int.mul_ediv_add_emod x n
            have hr0 := Int.emod_nonneg x (b := n) (by omega)
            have hr1 := Int.emod_lt_of_pos x (b := n) (by omega)
            have hq0 : 0 ≤ x / n := Int.ediv_nonneg x0 (by omega)
            have hq1 : x / n < k := Int.ediv_lt_of_lt_mul (by omega) (by omega)
            go_wp2
            go_quiet (fail)
            go_wp2
            go_ret3
            exact ⟨9, x / n, x % n, rfl, .word _ _ hq0 hq1 hr0 hr1 (by have := HX.out; rw [Int.mul_comm (x / n)]; omega), below_drewN hb _⟩
      · have hx1 := hx.out
        rw [show j = 7 by omega] at hx1
        simp [rowUpto] at hx1
        have HX : Hid (6 + t + s * 2 + k * 3 + k * n ≤ a) := (show _ ≤ a by omega)
        clear hx1 hr
        have hlt' : ¬ (j : Int) < 7 := by omega
        go_wp2
        go_ret3
        exact ⟨-1, 0, 0, rfl, .high HX.out, hb⟩

theorem ret_bool {a b : Bool} (h : a = b) : Ending.returned (.bool a) = .returned (.bool b) := by rw [h]

theorem mul_gap {i j n : Int} (hn : 0 ≤ n) (h : i < j) : i * n + n ≤ j * n := by
  have := Int.mul_le_mul_of_nonneg_right (show i + 1 ≤ j by omega) hn
  rw [Int.add_mul] at this
  omega

/-- at one address there is one thing -/
theorem KindIs.same {t s k n a K I X K' I' X' : Int} (hA : Arena t s k n) (h1 : KindIs t s k n a K I X) (h2 : KindIs t s k n a K' I' X') : K = K' ∧ I = I' ∧ X = X' := by
  obtain ⟨t0, t1, s0, s1, k0, k1, n0, n1⟩ := hA
  have hk := Int.mul_nonneg k0 n0
  cases h1 with
  | word i x i0 i1 x0 x1 e =>
    have := mul_gap n0 i1
    have := Int.mul_nonneg i0 n0
    cases h2 with
    | word j y j0 j1 y0 y1 e' =>
      rcases Int.lt_trichotomy I I' with h | h | h
      · have := mul_gap n0 h; omega
      · subst h; exact ⟨rfl, rfl, by omega⟩
      · have := mul_gap n0 h; omega
    | _ => omega
  | _ =>
    cases h2 with
    | word j y j0 j1 y0 y1 e' =>
      have := mul_gap n0 j1
      have := Int.mul_nonneg j0 n0
      omega
    | _ => omega

theorem KindIs.some {t s k n : Int} (hA : Arena t s k n) (hn : 1 ≤ n) (a : Int) : ∃ K I X, KindIs t s k n a K I X := by
  obtain ⟨t0, t1, s0, s1, k0, k1, n0, n1⟩ := hA
  by_cases h0 : a < 0
  · exact ⟨_, _, _, .low h0⟩
  by_cases h1 : a = 0
  · exact ⟨_, _, _, .epoch h1⟩
  by_cases h2 : a = 1
  · exact ⟨_, _, _, .top h2⟩
  by_cases h3 : a < 6
  · exact ⟨_, _, _, .opens (a - 2) (by omega) (by omega) (by omega)⟩
  by_cases h4 : a < 6 + t
  · exact ⟨_, _, _, .pin (a - 6) (by omega) (by omega) (by omega)⟩
  by_cases h5 : a < 6 + t + s * 2
  · by_cases h : (a - (6 + t)) % 2 = 0
    · exact ⟨_, _, _, .slot ((a - (6 + t)) / 2) (by omega) (by omega) (by omega)⟩
    · exact ⟨_, _, _, .link ((a - (6 + t)) / 2) (by omega) (by omega) (by omega)⟩
  by_cases h6 : a < 6 + t + s * 2 + k * 3
  · by_cases h : (a - (6 + t + s * 2)) % 3 = 0
    · exact ⟨_, _, _, .chunk ((a - (6 + t + s * 2)) / 3) (by omega) (by omega) (by omega)⟩
    · by_cases h' : (a - (6 + t + s * 2)) % 3 = 1
      · exact ⟨_, _, _, .live ((a - (6 + t + s * 2)) / 3) (by omega) (by omega) (by omega)⟩
      · exact ⟨_, _, _, .when ((a - (6 + t + s * 2)) / 3) (by omega) (by omega) (by omega)⟩
  by_cases h7 : a < 6 + t + s * 2 + k * 3 + k * n
  · obtain ⟨x, hx⟩ : ∃ x, x = a - (6 + t + s * 2 + k * 3) := ⟨_, rfl⟩
    have hd := Int.mul_ediv_add_emod x n
    have hr0 := Int.emod_nonneg x (b := n) (by omega)
    have hr1 := Int.emod_lt_of_pos x (b := n) (by omega)
    have hq0 : 0 ≤ x / n := Int.ediv_nonneg (by omega) (by omega)
    have hq1 : x / n < k := Int.ediv_lt_of_lt_mul (by omega) (by omega)
    exact ⟨_, _, _, .word _ _ hq0 hq1 hr0 hr1 (by rw [Int.mul_comm (x / n)]; omega)⟩
  · exact ⟨_, _, _, .high (by omega)⟩

theorem rkind_is {t s k n a m K I X : Int} (g p r : Int) (w : World) (h : Arena t s k n) (hn : 1 ≤ n) (hm : k * n = m) (m0 : 0 ≤ m) (m1 : m ≤ 1000000) (ha2 : a ≤ 9223372036854775807) (hK : KindIs t s k n a K I X) :
    Calls Tryz.prog 12 #[.agg #[.int .i64 t, .int .i64 s, .int .i64 k, .int .i64 n, .int .i64 g, .int .i64 p, .int .i64 r], .int .i64 a] w fun e w' => e = .returned (.tuple #[.int .i64 K, .int .i64 I, .int .i64 X]) ∧ Below w.heap.size w w' :=
  (rkind_any t s k n g p r a m w h hn hm m0 m1 ha2).mono fun e w' ⟨K', I', X', he, hk, hb⟩ => by
    obtain ⟨rfl, rfl, rfl⟩ := KindIs.same h hk hK
    exact ⟨he, hb⟩

end Go.Proofs.YtkgpffcnimmdkabGreat
