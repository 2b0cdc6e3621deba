/- Slices of ints that a function makes itself: what append, and a shorter slice, come to. -/
import Derived.Test.YtfedcddnjollmaaSlotArena
import Derived.ArgAppend
namespace Go.Proofs.Ytfedcddnjollmaa
open Go.RowKit

/-- a slice of the ints l, with so much room, lies in a block from a place on -/
structure Vec (w : World) (b off cap : Nat) (l : List Int) : Prop where
  ex : ∃ c, w.heap[b]? = some (.cells c 3 (0, 0)) ∧ off + cap ≤ c.size ∧ ∀ i x, l[i]? = some x → c[off + i]? = some (.int .i64 x)
  le : l.length ≤ cap

namespace Vec
variable {w w' : World} {b off cap : Nat} {l : List Int}

theorem lt (h : Vec w b off cap l) : b < w.heap.size := by obtain ⟨c, k, _⟩ := h.ex; exact blk_lt k
theorem cell (h : Vec w b off cap l) {i : Nat} {x : Int} (hx : l[i]? = some x) : w.cell? ⟨b, off + i, none⟩ = some (.int .i64 x) := by
  obtain ⟨c, k, _, k2⟩ := h.ex; exact blk_cell k (k2 i x hx)
theorem of_block (h : Vec w b off cap l) (e : w'.heap[b]? = w.heap[b]?) : Vec w' b off cap l := ⟨h.ex.imp fun _ k => ⟨e.trans k.1, k.2⟩, h.le⟩
theorem grown (h : Vec w b off cap l) (g : Below w.heap.size w w') : Vec w' b off cap l := h.of_block (g.block _ h.lt)
theorem only {S : Nat → Prop} (h : Vec w b off cap l) (o : Only S w w') (hs : ¬ S b) : Vec w' b off cap l := h.of_block (o.block _ h.lt hs)
theorem init {x : Int} (h : Vec w b off cap (l ++ [x])) : Vec w b off cap l := by
  obtain ⟨c, k, k1, k2⟩ := h.ex
  have hl := h.le
  simp at hl
  exact ⟨⟨c, k, k1, fun i y hy => k2 i y (by rw [List.getElem?_append_left (List.getElem?_eq_some_iff.1 hy).1]; exact hy)⟩, by omega⟩
theorem tail {x : Int} (h : Vec w b off cap (x :: l)) : Vec w b (off + 1) (cap - 1) l := by
  obtain ⟨c, k, k1, k2⟩ := h.ex
  have hl := h.le
  simp at hl
  exact ⟨⟨c, k, by omega, fun i y hy => by rw [show off + 1 + i = off + (i + 1) by omega]; exact k2 (i + 1) y (by simpa using hy)⟩, by omega⟩
theorem tail1 {x : Int} (h : Vec w b off cap (x :: l)) (h1 : cap = 1) : Vec w b off (cap - 1) l := by
  obtain ⟨c, k, k1, k2⟩ := h.ex
  have hl := h.le
  simp at hl
  have : l = [] := List.eq_nil_of_length_eq_zero (by omega)
  subst this
  exact ⟨⟨c, k, by omega, fun i y hy => by simp at hy⟩, by simp⟩
end Vec

theorem Try.infoI3 : (Try.prog.info? 3).map (fun i => (i.zero, i.size, i.bytes)) = some (some (.int .i64 0), 1, 8) := by kernel_rfl

theorem Grown.of {w w' : World} (h : w.grownBy w' none) : Grown w w' := ⟨h.os, h.tape, h.output, h.size, fun k hk => h.block k hk (by simp)⟩

theorem vec_own {w : World} {v : Value} {l : List Int} {base n : Nat} (h : w.ownsRow base 3 1 v n (l.map (Value.int .i64))) (hn : n = l.length) (h0 : 0 < n) : ∃ g cap, v = .slice (some ⟨g, 0, none⟩) n cap ∧ base ≤ g ∧ Vec w g 0 cap l := by
  subst hn
  rcases h.2 with ⟨_, h2⟩ | ⟨g, cap, cur, h', hb, hg, hcap, hmax, hsz, htake⟩
  · omega
  · subst h'
    refine ⟨g, cap, rfl, hb, ⟨cur, hg, by omega, fun i x hx => ?_⟩, hcap⟩
    have hlt : i < l.length := (List.getElem?_eq_some_iff.1 hx).1
    have e := congrArg (fun q => q[i]?) htake
    simp only [Nat.mul_one, List.getElem?_map, hx, Option.map_some] at e
    rw [List.getElem?_take_of_lt hlt] at e
    rw [Nat.zero_add]
    simpa using e

theorem add_lit (b off j : Nat) : (⟨b, off, none⟩ : Addr).add j = ⟨b, off + j, none⟩ := by unfold Addr.add; split <;> simp_all

/-- an append of one number -/
theorem Vec.app {w : World} {b off cap : Nat} {l : List Int} (h : Vec w b off cap l) (g : Nat) (x : Int) (hg : w.cell? ⟨g, 0, none⟩ = some (.int .i64 x)) (hl : l.length ≤ 1000) (ty : TypeId) :
    ∃ b' off' cap' w', (Builtin.append_ #[31, 31] ty #[.slice (some ⟨b, off, none⟩) l.length cap, .slice (some ⟨g, 0, none⟩) 1 1]).run Try.prog w = .ok (.slice (some ⟨b', off', none⟩) (l.length + 1) cap') w' ∧ Vec w' b' off' cap' (l ++ [x]) ∧ Only (fun k => k = b) w w' ∧ ((b' = b ∧ off' = off ∧ cap' = cap ∧ Vec w' b off cap l) ∨ (w.heap.size ≤ b' ∧ Grown w w')) := by
  obtain ⟨i0, hi, hz0, hz1, hz2⟩ := info_parts Try.infoI3
  obtain ⟨c, k, k1, k2⟩ := h.ex
  have hle := h.le
  have hnews : ∀ j u, [Value.int .i64 x][j]? = some u → w.cell? ((⟨g, 0, none⟩ : Addr).add j) = some u := fun j u hu => by
    cases j with
    | zero => simp at hu; subst hu; rw [add_lit]; exact hg
    | succ j => simp at hu
  by_cases hr : l.length + 1 ≤ cap
  · have hlt : off + l.length < c.size := by omega
    have hcell : w.cell? ⟨b, off + l.length, none⟩ = some (c[off + l.length]) := blk_cell k (Array.getElem?_eq_getElem hlt)
    have hrun := run_append_room_cells (P := Try.prog) w 31 ty 3 i0 Try.underlying31 hi b off l.length cap ⟨g, 0, none⟩ 1 1 [.int .i64 x] (by simp [hz1]) hnews (by simp [Value.oneCell']) hr
      (fun j hj => by
        have : j = 0 := by simpa using hj
        subst this; rw [hz1, Nat.mul_one, Nat.add_zero, hcell]; rfl)
      (fun j hj => blk_frozen k _)
    refine ⟨b, off, cap, _, hrun, ?_, ?_, Or.inl ⟨rfl, rfl, rfl, ?_⟩⟩
    · rw [hz1, Nat.mul_one]
      refine ⟨⟨c.setIfInBounds (off + l.length) (.int .i64 x), ?_, by simpa using k1, fun i y hy => ?_⟩, by simpa using hr⟩
      · simpa [World.setCells] using blk_setCell _ _ _ _ _ _ k
      · by_cases hil : i < l.length
        · rw [List.getElem?_append_left hil] at hy
          rw [Array.getElem?_setIfInBounds_ne (by omega)]; exact k2 i y hy
        · have hi2 : i < (l ++ [x]).length := (List.getElem?_eq_some_iff.1 hy).1
          simp at hi2
          obtain rfl : i = l.length := by omega
          simp at hy
          subst hy
          rw [Array.getElem?_setIfInBounds_self_of_lt hlt]
    · rw [hz1, Nat.mul_one]
      simpa [World.setCells] using Only.setCell (a := ⟨b, off + l.length, none⟩) (Only.refl (fun k => k = b) w) (fun _ => rfl) (.int .i64 x)
    · rw [hz1, Nat.mul_one]
      refine ⟨⟨c.setIfInBounds (off + l.length) (.int .i64 x), ?_, by simpa using k1, fun i y hy => ?_⟩, hle⟩
      · simpa [World.setCells] using blk_setCell _ _ _ _ _ _ k
      · have hil : i < l.length := (List.getElem?_eq_some_iff.1 hy).1
        rw [Array.getElem?_setIfInBounds_ne (by omega)]; exact k2 i y hy
  · obtain ⟨v', w', hrun, ho, hgr⟩ := run_append_arg_grows (P := Try.prog) w 31 ty 3 i0 (.int .i64 0) 1 8 Try.underlying31 hi hz0 hz1 hz2 rfl (by decide) ⟨b, off, none⟩ l.length cap (l.map (Value.int .i64)) (by simp)
      (fun j u hu => by
        rw [List.getElem?_map] at hu
        obtain ⟨y, hy, rfl⟩ := Option.map_eq_some_iff.1 hu
        rw [add_lit]; exact h.cell hy)
      ⟨g, 0, none⟩ 1 1 [.int .i64 x] (by simp) hnews (by omega) (by unfold maxLen; omega) (by omega)
    have ho' : w'.ownsRow w.heap.size 3 1 v' (l.length + 1) ((l ++ [x]).map (Value.int .i64)) := by simpa using ho
    obtain ⟨g', cap', rfl, hge, hv⟩ := vec_own ho' (by simp) (by omega)
    exact ⟨g', 0, cap', w', hrun, hv, Only.ofGrown (Grown.of hgr), Or.inr ⟨hge, Grown.of hgr⟩⟩

/-- an append whose outcome is known, at its place in a list of operations -/
theorem wpList_ran {P : Program} {ops : Array Oper} {rest : List Oper} {o : Oper} {a : Act} {Q : Exit → Act → World → Prop} {w w' : World} {v vx v' : Value} {t : TypeId} (hg : o.guard = none) (s x : Operand)
    (hop : o.op = Op.call { callee := Callee.builtin Builtin.append, args := #[s, x], argTypes := #[t, t] }) (hs : a.eval s = v) (hx : a.eval x = vx)
    (hrun : (Builtin.append_ #[t, t] o.type #[v, vx]).run P w = .ok v' w') (hK : wpList P ops Q rest (a.put o.dst v') w') : wpList P ops Q (o :: rest) a w := by
  refine wpList_plain hg fun K hK' => ?_
  unfold Oper.wp
  simp [execOp, hop, resolve, invoke, builtin, hs, hx, hrun, Result.andThen]
  exact hK' _ _ hK

/-- a copy of a slice's numbers: an append to an empty slice -/
theorem Vec.copy {w : World} {b off cap : Nat} {l : List Int} (h : Vec w b off cap l) (g : Nat) (hg : w.heap[g]? = some (.cells #[] 3 (0, 0))) (hl : l.length ≤ 1000) (ty : TypeId) (base : Nat) (hb : base ≤ g) :
    ∃ b' cap' w', (Builtin.append_ #[31, 31] ty #[.slice (some ⟨g, 0, none⟩) 0 0, .slice (some ⟨b, off, none⟩) l.length cap]).run Try.prog w = .ok (.slice (some ⟨b', 0, none⟩) l.length cap') w' ∧ Vec w' b' 0 cap' l ∧ Grown w w' ∧ base ≤ b' := by
  obtain ⟨i0, hi, hz0, hz1, hz2⟩ := info_parts Try.infoI3
  have hnews : ∀ j u, (l.map (Value.int .i64))[j]? = some u → w.cell? ((⟨b, off, none⟩ : Addr).add j) = some u := fun j u hu => by
    rw [List.getElem?_map] at hu
    obtain ⟨y, hy, rfl⟩ := Option.map_eq_some_iff.1 hu
    rw [add_lit]; exact h.cell hy
  have hgs := blk_lt hg
  cases l with
  | nil =>
    have hr := run_append_room_cells (P := Try.prog) w 31 ty 3 i0 Try.underlying31 hi g 0 0 0 ⟨b, off, none⟩ 0 cap [] (by simp) (by simp) (by simp) (by omega) (by simp) (by simp)
    refine ⟨g, 0, w, ?_, ⟨⟨#[], hg, by simp, fun i x hx => by simp at hx⟩, by simp⟩, Grown.refl w, hb⟩
    simpa [World.setCells] using hr
  | cons x t =>
    obtain ⟨v', w', hr, ho, hgr⟩ := run_append_arg_grows (P := Try.prog) w 31 ty 3 i0 (.int .i64 0) 1 8 Try.underlying31 hi hz0 hz1 hz2 rfl (by decide) ⟨g, 0, none⟩ 0 0 [] (by simp) (by simp)
      ⟨b, off, none⟩ (x :: t).length cap ((x :: t).map (Value.int .i64)) (by simp) hnews (by simp) (by unfold maxLen; simp at hl ⊢; omega) (by simp at hl ⊢; omega)
    have ho' : w'.ownsRow w.heap.size 3 1 v' (x :: t).length ((x :: t).map (Value.int .i64)) := by simpa using ho
    obtain ⟨g', cap', rfl, hge, hv⟩ := vec_own ho' rfl (by simp)
    exact ⟨g', cap', w', hr, hv, Grown.of hgr, by omega⟩

end Go.Proofs.Ytfedcddnjollmaa
