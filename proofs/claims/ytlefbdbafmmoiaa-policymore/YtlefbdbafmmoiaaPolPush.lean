/- One more, appended to a copy, while others are read: what stays however it is done. -/
import Derived.Test.YtlefbdbafmmoiaaPolSmall
namespace Go.Proofs.Ytlefbdbafmmoiaa
open Go.RowKit

/-- a slice stays that has at the place where the one is laid just that one, or nothing -/
theorem Sns.laid {w : World} {b d c n : Nat} {q : Sn} {M : List Sn} {C : Array Value} (hk : w.heap[b]? = some (.cells C 25 (0, 0))) (h : Sns w d c M) (hM : M.length ≤ n ∨ M[n]? = some q ∧ M.length = n + 1) : Sns (w.setCells b (6 * n) q.cells) d c M := by
  by_cases e : d = b
  · subst e
    obtain ⟨C', k, k1, k2⟩ := h.ex
    rw [hk] at k
    cases k
    obtain ⟨c', q0, q1, q2, q3⟩ := setCells_blk q.cells w (6 * n) C hk
    refine ⟨⟨c', q0, by omega, fun i x hx => ?_⟩, h.le⟩
    have hl := (List.getElem?_eq_some_iff.1 hx).1
    have hC := (Array.getElem?_eq_some_iff.1 (k2 i x hx)).1
    rw [snsFlat_len] at hl
    by_cases hi : i < 6 * n
    · rw [q2 i hi]; exact k2 i x hx
    · rcases hM with hM | ⟨hM, hM2⟩
      · omega
      · have e2 := snsFlat_at hM (j := i - 6 * n) (by omega)
        rw [show n * 6 + (i - 6 * n) = i by omega, hx] at e2
        have := q3 (i - 6 * n) x e2.symm (by omega)
        rwa [show 6 * n + (i - 6 * n) = i by omega] at this
  · exact h.only (setCells_only q.cells w w (6 * n) (Only.refl (fun k => k = b) w)) e

/-- what stays: all that was there, and slices of nothing, of L, of q alone, and of both -/
structure Keep12 (B : Nat) (L : List Sn) (q : Sn) (x y : World) : Prop where
  below : Below B x y
  k0 : ∀ {b c}, Sns x b c [] → Sns y b c []
  k1 : ∀ {b c}, Sns x b c L → Sns y b c L
  k2 : ∀ {b c}, Sns x b c [q] → Sns y b c [q]
  k3 : ∀ {b c}, Sns x b c (L ++ [q]) → Sns y b c (L ++ [q])

namespace Keep12
variable {B : Nat} {L : List Sn} {q : Sn}
theorem refl (x : World) : Keep12 B L q x x := ⟨Below.refl _ _, id, id, id, id⟩
theorem trans (x y z : World) (h : Keep12 B L q x y) (k : Keep12 B L q y z) : Keep12 B L q x z := ⟨h.below.trans k.below, k.k0 ∘ h.k0, k.k1 ∘ h.k1, k.k2 ∘ h.k2, k.k3 ∘ h.k3⟩
theorem grown {x y : World} (hB : B ≤ x.heap.size) (h : Grown x y) : Keep12 B L q x y := ⟨Below.mono h hB, fun s => s.grown h, fun s => s.grown h, fun s => s.grown h, fun s => s.grown h⟩
end Keep12

/-- an append of one more, to a slice of L of one's own -/
theorem Sns.push {w : World} {b cap g n B : Nat} {L : List Sn} {q : Sn} (h : Sns w b cap L) (hn : L.length = n) (h2 : Sns w g 1 [q]) (hl : n ≤ 900) (hB : B ≤ b) (hB2 : B ≤ w.heap.size) (ty : TypeId) :
    ∃ b' cap' w', (Builtin.append_ #[32, 32] ty #[.slice (some ⟨b, 0, none⟩) n cap, .slice (some ⟨g, 0, none⟩) 1 1]).run Try.prog w = .ok (.slice (some ⟨b', 0, none⟩) (n + 1) cap') w' ∧ Sns w' b' cap' (L ++ [q]) ∧ Keep12 B L q w w' := by
  subst hn
  by_cases hr : L.length + 1 ≤ cap
  · obtain ⟨i0, hi, hz0, hz1, hz2⟩ := info_parts Try.infoS25
    obtain ⟨c, k, k1, k2⟩ := h.ex
    have hf := snsFlat_len L
    have hnews : ∀ (j : Nat) u, q.cells[j]? = some u → w.cell? ((⟨g, 0, none⟩ : Addr).add j) = some u := fun j u hu => by
      rw [add_lit, Nat.zero_add]
      exact h2.cell (by simpa [snsFlat] using hu)
    have hcell : ∀ j, j < 6 → ∃ v, w.cell? ⟨b, 6 * L.length + j, none⟩ = some v := fun j hj => ⟨_, blk_cell k (Array.getElem?_eq_getElem (show 6 * L.length + j < c.size by omega))⟩
    have hone : ∀ u ∈ q.cells, u.oneCell' = true := by
      intro u hq
      simp only [Sn.cells, List.mem_cons, List.not_mem_nil, or_false] at hq
      rcases hq with rfl | rfl | rfl | rfl | rfl | rfl <;> rfl
    have hrun := run_append_room_cells (P := Try.prog) w 32 ty 25 i0 Try.underlying32 hi b 0 L.length cap ⟨g, 0, none⟩ 1 1 q.cells (by rw [hz1]; rfl) hnews hone hr
      (fun j hj => by
        obtain ⟨v, hv⟩ := hcell j (by simpa [Sn.cells] using hj)
        rw [hz1, Nat.zero_add, Nat.mul_comm L.length 6, hv]; rfl)
      (fun j hj => blk_frozen k _)
    rw [hz1, Nat.zero_add, Nat.mul_comm L.length 6] at hrun
    obtain ⟨c', q0, q1, q2, q3⟩ := setCells_blk q.cells w (6 * L.length) c k
    refine ⟨b, cap, _, hrun, ?_, ?_⟩
    · refine ⟨⟨c', q0, by omega, fun i x hx => ?_⟩, by simpa using hr⟩
      rw [snsFlat_app] at hx
      by_cases hil : i < (snsFlat L).length
      · rw [List.getElem?_append_left hil] at hx
        rw [q2 i (by omega)]; exact k2 i x hx
      · rw [List.getElem?_append_right (by omega)] at hx
        have hx' : q.cells[i - (snsFlat L).length]? = some x := by simpa [snsFlat] using hx
        have hl6 : i - (snsFlat L).length < 6 := (List.getElem?_eq_some_iff.1 hx').1
        have := q3 _ x hx' (by omega)
        rwa [show 6 * L.length + (i - (snsFlat L).length) = i by omega] at this
    · refine ⟨?_, fun s => s.laid k (Or.inl (by simp)), fun s => s.laid k (Or.inl (Nat.le_refl _)), fun s => ?_, fun s => s.laid k (Or.inr ⟨by simp, by simp⟩)⟩
      · exact (setCells_only q.cells w w (6 * L.length) (Only.refl (fun k => k = b) w)).below hB2 (fun k hk e => by omega)
      · refine s.laid k ?_
        cases L with
        | nil => exact Or.inr ⟨rfl, rfl⟩
        | cons a t => exact Or.inl (by simp)
  · obtain ⟨b', cap', w', h3, h4, h5, h6⟩ := Sns.app h h2 (by simp; omega) ty
    rcases h6 with ⟨rfl, rfl, _⟩ | ⟨_, h7⟩
    · have := h4.le
      simp at this
      omega
    · exact ⟨b', cap', w', h3, h4, Keep12.grown hB2 h7⟩

/-- a copy: an append to a slice of nothing -/
theorem Sns.copy {w : World} {b cap g n : Nat} {L : List Sn} (h : Sns w b cap L) (hn : L.length = n) (h2 : Sns w g 0 []) (hl : n ≤ 900) (ty : TypeId) :
    ∃ b' cap' w', (Builtin.append_ #[32, 32] ty #[.slice (some ⟨g, 0, none⟩) 0 0, .slice (some ⟨b, 0, none⟩) n cap]).run Try.prog w = .ok (.slice (some ⟨b', 0, none⟩) n cap') w' ∧ Sns w' b' cap' L ∧ Grown w w' ∧ (b' = g ∨ w.heap.size ≤ b') := by
  subst hn
  cases L with
  | nil =>
    obtain ⟨i0, hi, hz0, hz1, hz2⟩ := info_parts Try.infoS25
    have hr := run_append_room_cells (P := Try.prog) w 32 ty 25 i0 Try.underlying32 hi g 0 0 0 ⟨b, 0, none⟩ 0 cap [] (by simp) (by simp) (by simp) (by omega) (by simp) (by simp)
    refine ⟨g, 0, w, ?_, h2, Grown.refl w, Or.inl rfl⟩
    simpa [World.setCells] using hr
  | cons a t =>
    obtain ⟨b', cap', w', h3, h4, h5, h6⟩ := Sns.app h2 h (by simp at hl ⊢; omega) ty
    simp only [List.length_nil, Nat.zero_add, List.nil_append] at h3 h4
    rcases h6 with ⟨rfl, rfl, _⟩ | ⟨h7, h8⟩
    · have := h4.le
      simp at this
    · exact ⟨b', cap', w', h3, h4, h8, Or.inr h7⟩

theorem rely_append {P : Program} {R : World → World → Prop} {o : Oper} {a : Act} {w w' : World} {φ : World → Value → Prop} {t : TypeId} {v vx v' : Value} (s x : Operand)
    (ho : o.op = .call { callee := .builtin .append, args := #[s, x], argTypes := #[t, t] }) (hs : a.eval s = v) (hx : a.eval x = vx)
    (hr : (Builtin.append_ #[t, t] o.type #[v, vx]).run P w = .ok v' w') (hR : R w w') (hφ : φ w' v') : relyUpon P R w φ ((execOp a.eval o).run P w) := by
  unfold execOp
  simp only [ho, resolve, invoke, builtin, Sem.run_bind, Sem.run_pure, Result.andThen_ok, List.map_toArray, List.map_cons, List.map_nil, hs, hx, hr]
  exact ⟨hR, hφ⟩

set_option maxHeartbeats 1000000 in
theorem run_one {o : Oper} (ev : Operand → Value) (w : World) (q : Sn) (s : Operand) (ho : o.op = .buildSlice 32 1 #[(0, s)]) (hs : ev s = .agg #[.int .i64 q.st, .int .i64 q.cl, .int .i64 q.us, .int .i64 q.sm, .int .i64 q.lv, .bool q.op]) :
    (execOp ev o).run Try.prog w = .ok (.value (.slice (some ⟨w.heap.size, 0, none⟩) 1 1)) (w.alloc (.cells #[.int .i64 q.st, .int .i64 q.cl, .int .i64 q.us, .int .i64 q.sm, .int .i64 q.lv, .bool q.op] 25)) := by
  unfold execOp
  simp only [ho]
  go_simp

/-- a slice of one is made, at its place among other operations -/
theorem rely_one {R : World → World → Prop} {o : Oper} {a : Act} {w : World} {φ : World → Value → Prop} {q : Sn} (s : Operand)
    (ho : o.op = .buildSlice 32 1 #[(0, s)]) (hs : a.eval s = .agg #[.int .i64 q.st, .int .i64 q.cl, .int .i64 q.us, .int .i64 q.sm, .int .i64 q.lv, .bool q.op])
    (hR : R w (w.alloc (.cells #[.int .i64 q.st, .int .i64 q.cl, .int .i64 q.us, .int .i64 q.sm, .int .i64 q.lv, .bool q.op] 25))) (hφ : φ (w.alloc (.cells #[.int .i64 q.st, .int .i64 q.cl, .int .i64 q.us, .int .i64 q.sm, .int .i64 q.lv, .bool q.op] 25)) (.slice (some ⟨w.heap.size, 0, none⟩) 1 1)) : relyUpon Try.prog R w φ ((execOp a.eval o).run Try.prog w) := by
  rw [run_one a.eval w q s ho hs]
  exact ⟨hR, hφ⟩

/-- the first k and one more -/
def plus (A : Nat → Sn) (k : Nat) (q : Sn) : Nat → Sn := fun i => if i < k then (A i).cut else q
theorem plus_is (A : Nat → Sn) (k : Nat) (q : Sn) (i : Nat) (p : Sn) (h : (sq A k ++ [q])[i]? = some p) : plus A k q i = p := by
  unfold plus
  by_cases hi : i < k
  · rw [if_pos hi]
    rw [List.getElem?_append_left (by rw [sq_len]; exact hi)] at h
    exact sq_is A k i p h
  · rw [if_neg hi]
    rw [List.getElem?_append_right (by rw [sq_len]; omega)] at h
    have := (List.getElem?_eq_some_iff.1 h).1
    simp [sq_len] at this
    rw [show i - (sq A k).length = 0 by rw [sq_len]; omega] at h
    simpa using h

/-- what is chosen with one more -/
theorem plus_pick {A : Nat → Sn} {k : Nat} {q : Sn} {n ra : Int} (h : Pick k (fun i => (A i).cut.may n) (fun i => (A i).cut.lv) ra) :
    Pick (k + 1) (fun i => (plus A k q i).may n) (fun i => (plus A k q i).lv) (if q.may n = true ∧ ∀ i, i < k → (A i).cut.may n = true → q.lv < (A i).cut.lv then (k : Int) else ra) := by
  have h' : Pick k (fun i => (plus A k q i).may n) (fun i => (plus A k q i).lv) ra := h.congr (fun i hi => by simp [plus, hi]) (fun i hi => by simp [plus, hi])
  have hm := h'.more
  have ek : plus A k q k = q := by simp [plus]
  simp only [ek] at hm
  have e : (q.may n = true ∧ (ra < 0 ∨ q.lv < (plus A k q ra.toNat).lv)) ↔ (q.may n = true ∧ ∀ i, i < k → (A i).cut.may n = true → q.lv < (A i).cut.lv) := by
    refine and_congr_right fun _ => ?_
    rcases h with ⟨rfl, g⟩ | ⟨i, hi, rfl, g1, g2, g3⟩
    · refine ⟨fun _ i hi e => ?_, fun _ => Or.inl (by omega)⟩
      have : (A i).cut.may n = false := g i hi
      rw [this] at e; cases e
    · have ei : plus A k q (i : Int).toNat = (A i).cut := by simp [plus, hi]
      rw [ei]
      refine ⟨fun g j hj e => ?_, fun g => Or.inr (g i hi g1)⟩
      have := g3 j hj e
      simp only at this
      omega
  by_cases c : q.may n = true ∧ ∀ i, i < k → (A i).cut.may n = true → q.lv < (A i).cut.lv
  · rw [if_pos c]; rw [if_pos (e.2 c)] at hm; exact hm
  · rw [if_neg c]; rw [if_neg (fun x => c (e.1 x))] at hm; exact hm

end Go.Proofs.Ytlefbdbafmmoiaa
