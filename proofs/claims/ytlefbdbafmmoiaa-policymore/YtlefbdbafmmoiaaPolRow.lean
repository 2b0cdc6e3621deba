/- Slices of what is seen of chunks: as they are handed in, and as a function makes them itself: what append comes to. -/
import Derived.Test.YtlefbdbafmmoiaaPolMay
import Derived.Test.YtlefbdbafmmoiaaPolPick
import Derived.Test.YtlefbdbafmmoiaaLater
import Derived.Test.YtlefbdbafmmoiaaRely
import Derived.ArgAppend
namespace Go.Proofs.Ytlefbdbafmmoiaa
open Go.RowKit

/-- the first n behind the address are those of A -/
def SnsAt (w : World) (ao : Option Addr) (n : Nat) (A : Nat → Sn) : Prop :=
  ∀ i, i < n → ∃ b off, ao = some ⟨b, off, none⟩ ∧ w.cell? ⟨b, off + i * 6, none⟩ = some (.int .i64 (A i).st) ∧ w.cell? ⟨b, off + i * 6 + 1, none⟩ = some (.int .i64 (A i).cl) ∧
    w.cell? ⟨b, off + i * 6 + 2, none⟩ = some (.int .i64 (A i).us) ∧ w.cell? ⟨b, off + i * 6 + 3, none⟩ = some (.int .i64 (A i).sm) ∧ w.cell? ⟨b, off + i * 6 + 4, none⟩ = some (.int .i64 (A i).lv) ∧ w.cell? ⟨b, off + i * 6 + 5, none⟩ = some (.bool (A i).op)

theorem SnsAt.grown {w w' : World} {ao : Option Addr} {n : Nat} {A : Nat → Sn} (h : SnsAt w ao n A) (g : Below w.heap.size w w') : SnsAt w' ao n A := fun i hi => by
  obtain ⟨b, off, e, k0, k1, k2, k3, k4, k5⟩ := h i hi
  exact ⟨b, off, e, keep' g k0, keep' g k1, keep' g k2, keep' g k3, keep' g k4, keep' g k5⟩

/-- the cells of one -/
def Sn.cells (q : Sn) : List Value := [.int .i64 q.st, .int .i64 q.cl, .int .i64 q.us, .int .i64 q.sm, .int .i64 q.lv, .bool q.op]
def snsFlat (l : List Sn) : List Value := l.flatMap Sn.cells
theorem snsFlat_len (l : List Sn) : (snsFlat l).length = 6 * l.length := by
  induction l with
  | nil => rfl
  | cons q t ih => simp only [snsFlat, List.flatMap_cons, List.length_append, List.length_cons] at *; rw [ih]; simp [Sn.cells]; omega
theorem snsFlat_app (l l' : List Sn) : snsFlat (l ++ l') = snsFlat l ++ snsFlat l' := by simp [snsFlat]
theorem snsFlat_at {l : List Sn} {i j : Nat} {q : Sn} (h : l[i]? = some q) (hj : j < 6) : (snsFlat l)[i * 6 + j]? = q.cells[j]? := by
  induction l generalizing i with
  | nil => simp at h
  | cons a t ih =>
    simp only [snsFlat, List.flatMap_cons] at *
    have hl : a.cells.length = 6 := rfl
    cases i with
    | zero =>
      simp at h; subst h
      rw [Nat.zero_mul, Nat.zero_add, List.getElem?_append_left (by omega)]
    | succ i =>
      rw [List.getElem?_append_right (by omega), show (i + 1) * 6 + j - a.cells.length = i * 6 + j by omega]
      exact ih (by simpa using h)

/-- a slice of the chunks l, with so much room, lies in a block -/
structure Sns (w : World) (b cap : Nat) (l : List Sn) : Prop where
  ex : ∃ c, w.heap[b]? = some (.cells c 25 (0, 0)) ∧ 6 * cap ≤ c.size ∧ ∀ (i : Nat) (x : Value), (snsFlat l)[i]? = some x → c[i]? = some x
  le : l.length ≤ cap

namespace Sns
variable {w w' : World} {b b' cap cap' : Nat} {l l' : List Sn}
theorem lt (h : Sns w b cap l) : b < w.heap.size := by obtain ⟨c, k, _⟩ := h.ex; exact blk_lt k
theorem cell (h : Sns w b cap l) {i : Nat} {x : Value} (hx : (snsFlat l)[i]? = some x) : w.cell? ⟨b, i, none⟩ = some x := by
  obtain ⟨c, k, _, k2⟩ := h.ex; exact blk_cell k (k2 i x hx)
theorem of_block (h : Sns w b cap l) (e : w'.heap[b]? = w.heap[b]?) : Sns w' b cap l := ⟨h.ex.imp fun _ k => ⟨e.trans k.1, k.2⟩, h.le⟩
theorem grown (h : Sns w b cap l) (g : Below w.heap.size w w') : Sns w' b cap l := h.of_block (g.block _ h.lt)
theorem only {S : Nat → Prop} (h : Sns w b cap l) (o : Only S w w') (hs : ¬ S b) : Sns w' b cap l := h.of_block (o.block _ h.lt hs)
theorem drew (h : Sns w b cap l) : Sns w.drew b cap l := h.of_block rfl
theorem alloc (h : Sns w b cap l) (o : Obj) : Sns (w.alloc o) b cap l := h.of_block (Go.Deep.blk_alloc_lt _ _ _ h.lt)
theorem init {q : Sn} (h : Sns w b cap (l ++ [q])) : Sns w b cap l := by
  obtain ⟨c, k, k1, k2⟩ := h.ex
  have hl := h.le
  simp at hl
  refine ⟨⟨c, k, k1, fun i x hx => k2 i x ?_⟩, by omega⟩
  rw [snsFlat_app, List.getElem?_append_left (List.getElem?_eq_some_iff.1 hx).1]; exact hx
theorem at' (h : Sns w b cap l) {i : Nat} {q : Sn} (hq : l[i]? = some q) : w.cell? ⟨b, i * 6, none⟩ = some (.int .i64 q.st) ∧ w.cell? ⟨b, i * 6 + 1, none⟩ = some (.int .i64 q.cl) ∧ w.cell? ⟨b, i * 6 + 2, none⟩ = some (.int .i64 q.us) ∧
    w.cell? ⟨b, i * 6 + 3, none⟩ = some (.int .i64 q.sm) ∧ w.cell? ⟨b, i * 6 + 4, none⟩ = some (.int .i64 q.lv) ∧ w.cell? ⟨b, i * 6 + 5, none⟩ = some (.bool q.op) :=
  ⟨h.cell ((snsFlat_at hq (j := 0) (by omega)).trans rfl), h.cell ((snsFlat_at hq (j := 1) (by omega)).trans rfl), h.cell ((snsFlat_at hq (j := 2) (by omega)).trans rfl), h.cell ((snsFlat_at hq (j := 3) (by omega)).trans rfl), h.cell ((snsFlat_at hq (j := 4) (by omega)).trans rfl), h.cell ((snsFlat_at hq (j := 5) (by omega)).trans rfl)⟩
/-- as it is handed to a function -/
theorem sns (h : Sns w b cap l) {A : Nat → Sn} (hA : ∀ (i : Nat) q, l[i]? = some q → A i = q) : SnsAt w (some ⟨b, 0, none⟩) l.length A := fun i hi => by
  have hq : l[i]? = some l[i] := List.getElem?_eq_getElem hi
  have e := hA i _ hq
  obtain ⟨k0, k1, k2, k3, k4, k5⟩ := h.at' hq
  rw [e]
  exact ⟨b, 0, rfl, by simpa using k0, by simpa using k1, by simpa using k2, by simpa using k3, by simpa using k4, by simpa using k5⟩
/-- a block that was just made -/
theorem made (w : World) (l : List Sn) : Sns (w.alloc (.cells (snsFlat l).toArray 25)) w.heap.size l.length l :=
  ⟨⟨_, Go.Deep.blk_alloc_new _ _, by simp [snsFlat_len], fun i x hx => by simpa using hx⟩, Nat.le_refl _⟩
theorem one (w : World) (q : Sn) : Sns (w.alloc (.cells #[.int .i64 q.st, .int .i64 q.cl, .int .i64 q.us, .int .i64 q.sm, .int .i64 q.lv, .bool q.op] 25)) w.heap.size 1 [q] := made w [q]
theorem zero (w : World) : Sns (w.alloc (.cells #[] 25)) w.heap.size 0 [] := made w []
end Sns

theorem setCells_blk {b : Nat} {T : TypeId} (news : List Value) : ∀ (w : World) (off : Nat) (c : Array Value), w.heap[b]? = some (.cells c T (0, 0)) →
    ∃ c', (w.setCells b off news).heap[b]? = some (.cells c' T (0, 0)) ∧ c'.size = c.size ∧ (∀ i, i < off → c'[i]? = c[i]?) ∧ (∀ (j : Nat) u, news[j]? = some u → off + j < c.size → c'[off + j]? = some u) := by
  induction news with
  | nil => intro w off c h; exact ⟨c, by simpa [World.setCells] using h, rfl, fun _ _ => rfl, fun j u hu => by simp at hu⟩
  | cons x t ih =>
    intro w off c h
    have h1 := blk_setCell w b off x c T h
    obtain ⟨c', k, k1, k2, k3⟩ := ih _ (off + 1) _ h1
    refine ⟨c', by simpa [World.setCells] using k, by simpa using k1, fun i hi => ?_, fun j u hu hj => ?_⟩
    · rw [k2 i (by omega), Array.getElem?_setIfInBounds_ne (by omega)]
    · cases j with
      | zero =>
        simp at hu; subst hu
        rw [Nat.add_zero, k2 off (by omega), Array.getElem?_setIfInBounds_self_of_lt (by omega)]
      | succ j =>
        have := k3 j u (by simpa using hu) (by simp; omega)
        rw [show off + (j + 1) = off + 1 + j by omega]; exact this

theorem setCells_only {b : Nat} (news : List Value) : ∀ (w w0 : World) (off : Nat), Only (fun k => k = b) w0 w → Only (fun k => k = b) w0 (w.setCells b off news) := by
  induction news with
  | nil => intro w w0 off h; simpa [World.setCells] using h
  | cons x t ih =>
    intro w w0 off h
    have := ih (w.setCell ⟨b, off, none⟩ x) w0 (off + 1) (Only.setCell (a := ⟨b, off, none⟩) h (fun _ => rfl) x)
    simpa [World.setCells] using this

theorem Only.ofGrown {S : Nat → Prop} {w w' : World} (h : Below w.heap.size w w') : Only S w w' := (Only.ofBelow h).mono fun i hi k => absurd k (by omega)

theorem Grown.of {w w' : World} (h : w.grownBy w' none) : Grown w w' := ⟨h.os, h.tape, h.output, h.size, fun k hk => h.block k hk (by simp)⟩

theorem add_lit (b off j : Nat) : (⟨b, off, none⟩ : Addr).add j = ⟨b, off + j, none⟩ := by unfold Addr.add; split <;> simp_all

theorem Try.infoS25 : (Try.prog.info? 25).map (fun i => (i.zero, i.size, i.bytes)) = some (some (.agg #[.int .i64 0, .int .i64 0, .int .i64 0, .int .i64 0, .int .i64 0, .bool false]), 6, 48) := by kernel_rfl

/-- an append of all of another one -/
theorem Sns.app {w : World} {b cap g cap2 : Nat} {l l2 : List Sn} (h : Sns w b cap l) (h2 : Sns w g cap2 l2) (hl : l.length + l2.length ≤ 1000) (ty : TypeId) :
    ∃ b' cap' w', (Builtin.append_ #[32, 32] ty #[.slice (some ⟨b, 0, none⟩) l.length cap, .slice (some ⟨g, 0, none⟩) l2.length cap2]).run Try.prog w = .ok (.slice (some ⟨b', 0, none⟩) (l.length + l2.length) cap') w' ∧ Sns w' b' cap' (l ++ l2) ∧ Only (fun k => k = b) w w' ∧ ((b' = b ∧ cap' = cap ∧ Sns w' b cap l) ∨ (w.heap.size ≤ b' ∧ Grown w w')) := by
  obtain ⟨i0, hi, hz0, hz1, hz2⟩ := info_parts Try.infoS25
  obtain ⟨c, k, k1, k2⟩ := h.ex
  have hle := h.le
  have hf := snsFlat_len l
  have hf2 := snsFlat_len l2
  have hnews : ∀ (j : Nat) u, (snsFlat l2)[j]? = some u → w.cell? ((⟨g, 0, none⟩ : Addr).add j) = some u := fun j u hu => by rw [add_lit, Nat.zero_add]; exact h2.cell hu
  by_cases hr : l.length + l2.length ≤ cap
  · have hcell : ∀ j, j < 6 * l2.length → ∃ v, w.cell? ⟨b, 6 * l.length + j, none⟩ = some v := fun j hj => ⟨_, blk_cell k (Array.getElem?_eq_getElem (show 6 * l.length + j < c.size by omega))⟩
    have hone : ∀ u ∈ snsFlat l2, u.oneCell' = true := by
      intro u hu
      simp only [snsFlat, List.mem_flatMap] at hu
      obtain ⟨q, -, hq⟩ := hu
      simp only [Sn.cells, List.mem_cons, List.not_mem_nil, or_false] at hq
      rcases hq with rfl | rfl | rfl | rfl | rfl | rfl <;> rfl
    have hrun := run_append_room_cells (P := Try.prog) w 32 ty 25 i0 Try.underlying32 hi b 0 l.length cap ⟨g, 0, none⟩ l2.length cap2 (snsFlat l2) (by rw [hz1, hf2]; omega) hnews hone hr
      (fun j hj => by
        obtain ⟨v, hv⟩ := hcell j (by omega)
        rw [hz1, Nat.zero_add, Nat.mul_comm l.length 6, hv]; rfl)
      (fun j hj => blk_frozen k _)
    rw [hz1, Nat.zero_add, Nat.mul_comm l.length 6] at hrun
    obtain ⟨c', q, q1, q2, q3⟩ := setCells_blk (snsFlat l2) w (6 * l.length) c k
    refine ⟨b, cap, _, hrun, ?_, setCells_only _ _ _ _ (Only.refl _ _), Or.inl ⟨rfl, rfl, ?_⟩⟩
    · refine ⟨⟨c', q, by omega, fun i x hx => ?_⟩, by simpa using hr⟩
      rw [snsFlat_app] at hx
      by_cases hil : i < (snsFlat l).length
      · rw [List.getElem?_append_left hil] at hx
        rw [q2 i (by omega)]; exact k2 i x hx
      · rw [List.getElem?_append_right (by omega)] at hx
        have := q3 _ x hx (by have := (List.getElem?_eq_some_iff.1 hx).1; omega)
        rwa [show 6 * l.length + (i - (snsFlat l).length) = i by omega] at this
    · refine ⟨⟨c', q, by omega, fun i x hx => ?_⟩, hle⟩
      have := (List.getElem?_eq_some_iff.1 hx).1
      rw [q2 i (by omega)]; exact k2 i x hx
  · obtain ⟨v', w', hrun, ho, hgr⟩ := run_append_arg_grows (P := Try.prog) w 32 ty 25 i0 (.agg #[.int .i64 0, .int .i64 0, .int .i64 0, .int .i64 0, .int .i64 0, .bool false]) 6 48 Try.underlying32 hi hz0 hz1 hz2 rfl (by decide) ⟨b, 0, none⟩ l.length cap (snsFlat l) (by omega)
      (fun j u hu => by rw [add_lit, Nat.zero_add]; exact h.cell hu)
      ⟨g, 0, none⟩ l2.length cap2 (snsFlat l2) (by omega) hnews (by omega) (by unfold maxLen; omega) (by omega)
    rw [← snsFlat_app] at ho
    rcases ho.2 with ⟨_, h3⟩ | ⟨g', cap', cur, h', hb, hg', hcap, hmax, hsz, htake⟩
    · omega
    · subst h'
      refine ⟨g', cap', w', hrun, ⟨⟨cur, hg', by omega, fun i u hu => ?_⟩, by simpa using hcap⟩, Only.ofGrown (Grown.of hgr), Or.inr ⟨hb, Grown.of hgr⟩⟩
      have e := congrArg (fun q => q[i]?) htake
      have hlt : i < (l.length + l2.length) * 6 := by have := (List.getElem?_eq_some_iff.1 hu).1; rw [snsFlat_len] at this; simp at this; omega
      rw [List.getElem?_take_of_lt hlt, hu] at e
      simpa using e

/-- an append of one more -/
theorem Sns.more {w : World} {b cap g n : Nat} {l : List Sn} {q : Sn} (h : Sns w b cap l) (hn : l.length = n) (h2 : Sns w g 1 [q]) (hl : n ≤ 900) (ty : TypeId) :
    ∃ b' cap' w', (Builtin.append_ #[32, 32] ty #[.slice (some ⟨b, 0, none⟩) n cap, .slice (some ⟨g, 0, none⟩) 1 1]).run Try.prog w = .ok (.slice (some ⟨b', 0, none⟩) (n + 1) cap') w' ∧ Sns w' b' cap' (l ++ [q]) ∧ Only (fun k => k = b) w w' ∧ (b' = b ∨ w.heap.size ≤ b') := by
  subst hn
  obtain ⟨b', cap', w', h3, h4, h5, h6⟩ := Sns.app h h2 (by simp; omega) ty
  exact ⟨b', cap', w', h3, h4, h5, h6.imp (fun k => k.1) (fun k => k.1)⟩

/-- an append whose outcome is known, at its place in a list of operations -/
theorem wpList_ran {P : Program} {ops : Array Oper} {rest : List Oper} {o : Oper} {a : Act} {Q : Exit → Act → World → Prop} {w w' : World} {v vx v' : Value} {t : TypeId} (hg : o.guard = none) (s x : Operand)
    (hop : o.op = Op.call { callee := Callee.builtin Builtin.append, args := #[s, x], argTypes := #[t, t] }) (hs : a.eval s = v) (hx : a.eval x = vx)
    (hrun : (Builtin.append_ #[t, t] o.type #[v, vx]).run P w = .ok v' w') (hK : wpList P ops Q rest (a.put o.dst v') w') : wpList P ops Q (o :: rest) a w := by
  refine wpList_plain hg fun K hK' => ?_
  unfold Oper.wp
  simp [execOp, hop, resolve, invoke, builtin, hs, hx, hrun, Result.andThen]
  exact hK' _ _ hK

/-- the first k, as the statements make them -/
def sq (A : Nat → Sn) (k : Nat) : List Sn := (List.range k).map fun i => (A i).cut
theorem sq_len (A : Nat → Sn) (k : Nat) : (sq A k).length = k := by simp [sq]
theorem sq_succ (A : Nat → Sn) (k : Nat) : sq A (k + 1) = sq A k ++ [(A k).cut] := by simp [sq, List.range_succ]
theorem sq_at (A : Nat → Sn) {i k : Nat} (h : i < k) : (sq A k)[i]? = some (A i).cut := by simp [sq, h]
theorem sq_is (A : Nat → Sn) (k i : Nat) (q : Sn) (h : (sq A k)[i]? = some q) : (A i).cut = q := by
  by_cases hi : i < k
  · rw [sq_at A hi] at h; exact Option.some.inj h
  · rw [List.getElem?_eq_none (by rw [sq_len]; omega)] at h; cases h

/-- what is made of one's own memory leaves what was there -/
theorem below_own {w w' w'' : World} {b : Nat} (h : Below w.heap.size w w') (o : Only (fun k => k = b) w' w'') (hb : w.heap.size ≤ b) : Below w.heap.size w w'' :=
  h.trans (o.below h.size (fun k hk e => by omega))

end Go.Proofs.Ytlefbdbafmmoiaa
