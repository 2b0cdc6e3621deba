/- The three begin: each takes; and what a round leaves of them. -/
import Derived.Test.YtfedcddnjollmaaSlotFree
namespace Go.Proofs.Ytfedcddnjollmaa
open Go.RowKit

/-- the first k of the three are laid -/
structure Start (w0 w : World) (L : Loc) (bE bA n : Nat) (s : Mm) (σ c : Nat) (lk : Nat → Nat) (F : List Nat) (k : Nat) (β : Nat → Nat) : Prop where
  f : Field w0 w L bE 4 n s σ c lk F
  a : ∃ cl, w.heap[bA]? = some (.cells cl 40 (0, 0)) ∧ cl.size = 9 ∧ ∀ j, j < k → cl[j * 3]? = some (.pointer (some ⟨β j, 0, none⟩)) ∧ cl[j * 3 + 1]? = some (.pointer none) ∧ cl[j * 3 + 2]? = some (.int .i64 (-1))
  th : ∀ j, j < k → ∃ cs, TkAt w (β j) 0 43 cs .idle
  lo : ∀ j, j < k → bA < β j
  dif : ∀ i j, i < k → j < k → i ≠ j → β i ≠ β j

theorem Start.cell {w0 w : World} {L : Loc} {bE bA n : Nat} {s : Mm} {σ c : Nat} {lk : Nat → Nat} {F : List Nat} {k : Nat} {β : Nat → Nat} (h : Start w0 w L bE bA n s σ c lk F k β) (i : Nat) (hi : i < 9) : (∃ v, w.cell? ⟨bA, i, none⟩ = some v) ∧ ∀ O i, (w.alloc O).frozen? ⟨bA, i, none⟩ = false := by
  obtain ⟨cl, k1, k2, _⟩ := h.a
  exact ⟨⟨cl[i]'(by omega), blk_cell k1 (Array.getElem?_eq_getElem (by omega))⟩, fun O i => blk_frozen ((Go.Deep.blk_alloc_lt _ O _ (blk_lt k1)).trans k1) i⟩

theorem Start.lt {w0 w : World} {L : Loc} {bE bA n : Nat} {s : Mm} {σ c : Nat} {lk : Nat → Nat} {F : List Nat} {k : Nat} {β : Nat → Nat} (h : Start w0 w L bE bA n s σ c lk F k β) : bA < w.heap.size := by
  obtain ⟨cl, k1, _⟩ := h.a; exact blk_lt k1

theorem Start.next {w0 w : World} {L : Loc} {bE bA n : Nat} {s : Mm} {σ c : Nat} {lk : Nat → Nat} {F : List Nat} {k : Nat} {β : Nat → Nat} (h : Start w0 w L bE bA n s σ c lk F k β) (p : CrewApart w0 L bE bA) (hk : k < 3) :
    Start w0 ((((w.alloc (.cells #[.int .i64 0, .int .u64 0, .int .i64 0, .int .i64 0] 43)).setCell ⟨bA, k * 3, none⟩ (.pointer (some ⟨w.heap.size, 0, none⟩))).setCell ⟨bA, k * 3 + 1, none⟩ (.pointer none)).setCell ⟨bA, k * 3 + 2, none⟩ (.int .i64 (-1))) L bE bA n s σ c lk F (k + 1) (upd β k w.heap.size) := by
  have hlt := h.lt
  obtain ⟨cl, k1, k2, k3⟩ := h.a
  have k1' : (w.alloc (.cells #[.int .i64 0, .int .u64 0, .int .i64 0, .int .i64 0] 43)).heap[bA]? = some (.cells cl 40 (0, 0)) := (Go.Deep.blk_alloc_lt _ _ _ hlt).trans k1
  refine ⟨(((h.f.alloc _).setIn p.b0 p.e p.l _ _).setIn p.b0 p.e p.l _ _).setIn p.b0 p.e p.l _ _, ⟨_, blk_setCell _ _ _ _ _ _ (blk_setCell _ _ _ _ _ _ (blk_setCell _ _ _ _ _ _ k1')), by simp [k2], fun j hj => ?_⟩, fun j hj => ?_, fun j hj => ?_, fun i j hi hj hij => ?_⟩
  · by_cases e : j = k
    · subst e
      rw [upd_same]
      refine ⟨?_, ?_, ?_⟩
      · rw [Array.getElem?_setIfInBounds_ne (by omega), Array.getElem?_setIfInBounds_ne (by omega), Array.getElem?_setIfInBounds_self_of_lt (by omega)]
      · rw [Array.getElem?_setIfInBounds_ne (by omega), Array.getElem?_setIfInBounds_self_of_lt (by simp; omega)]
      · rw [Array.getElem?_setIfInBounds_self_of_lt (by simp; omega)]
    · rw [upd_other _ _ _ _ e]
      have := k3 j (by omega)
      refine ⟨?_, ?_, ?_⟩
      · rw [Array.getElem?_setIfInBounds_ne (by omega), Array.getElem?_setIfInBounds_ne (by omega), Array.getElem?_setIfInBounds_ne (by omega)]; exact this.1
      · rw [Array.getElem?_setIfInBounds_ne (by omega), Array.getElem?_setIfInBounds_ne (by omega), Array.getElem?_setIfInBounds_ne (by omega)]; exact this.2.1
      · rw [Array.getElem?_setIfInBounds_ne (by omega), Array.getElem?_setIfInBounds_ne (by omega), Array.getElem?_setIfInBounds_ne (by omega)]; exact this.2.2
  · by_cases e : j = k
    · subst e
      rw [upd_same]
      refine ⟨_, (take0 w).of_block ?_⟩
      have hne : w.heap.size ≠ bA := by omega
      rw [Go.Deep.blk_setCell_other _ _ _ _ (by simpa using hne), Go.Deep.blk_setCell_other _ _ _ _ (by simpa using hne), Go.Deep.blk_setCell_other _ _ _ _ (by simpa using hne)]
    · rw [upd_other _ _ _ _ e]
      obtain ⟨cs, ht⟩ := h.th j (by omega)
      have hne : β j ≠ bA := by have := h.lo j (by omega); omega
      refine ⟨cs, ht.of_block ?_⟩
      rw [Go.Deep.blk_setCell_other _ _ _ _ (by simpa using hne), Go.Deep.blk_setCell_other _ _ _ _ (by simpa using hne), Go.Deep.blk_setCell_other _ _ _ _ (by simpa using hne), Go.Deep.blk_alloc_lt _ _ _ ht.lt]
  · by_cases e : j = k
    · subst e; rw [upd_same]; exact hlt
    · rw [upd_other _ _ _ _ e]; exact h.lo j (by omega)
  · have hl : ∀ j, j < k → β j < w.heap.size := fun j hj => by obtain ⟨cs, ht⟩ := h.th j hj; exact ht.lt
    by_cases e : i = k
    · subst e
      rw [upd_same, upd_other _ _ _ _ (Ne.symm hij)]
      have := hl j (by omega); omega
    · rw [upd_other _ _ _ _ e]
      by_cases e' : j = k
      · subst e'; rw [upd_same]; have := hl i (by omega); omega
      · rw [upd_other _ _ _ _ e']; exact h.dif i j (by omega) (by omega) hij

/-- all three are laid -/
theorem Start.all {w0 w : World} {L : Loc} {bE bA n : Nat} {s : Mm} {σ c : Nat} {lk : Nat → Nat} {F : List Nat} {β : Nat → Nat} (h : Start w0 w L bE bA n s σ c lk F 3 β) (p : CrewApart w0 L bE bA) (hE : bE < bA) (hL : ∀ k, L.has k → k < bA) (hF : F.length = n) : CrewAt w0 w L bE bA n s σ c lk F (fun j => .take (β j) .idle) ∧ Crew n c lk F (fun j => .take (β j) .idle) := by
  refine ⟨⟨h.f, ?_, h.th, fun j hj => ?_, fun j hj => ?_, fun j hj => ?_, fun j hj => ?_, h.dif⟩, ⟨fun j hj => ⟨trivial, rfl⟩, fun i j x _ _ _ hx => hx.elim, by simpa [Th.g] using hF⟩⟩
  · obtain ⟨cl, k1, k2, k3⟩ := h.a
    exact ⟨cl, k1, k3⟩
  · have := h.lo j hj; show β j ≠ bE; omega
  · have := h.lo j hj; show β j ≠ bA; omega
  · intro hh; have h1 : β j < bA := hL _ hh; have := h.lo j hj; omega
  · have := h.lo j hj; have := p.b0; show w0.heap.size ≤ β j; omega

theorem TkAt.other {w : World} {b o : Nat} {T : TypeId} {c : Array Value} {τ : Tk} (h : TkAt w b o T c τ) {k : Nat} (hk : b ≠ k) (i : Nat) (v : Value) : TkAt (w.setCell ⟨k, i, none⟩ v) b o T c τ := h.of_block (Go.Deep.blk_setCell_other _ _ _ _ (by simpa using hk))
theorem GvAt.other {w : World} {b o : Nat} {T : TypeId} {c : Array Value} {x : Nat} {γ : Gv} (h : GvAt w b o T c x γ) {k : Nat} (hk : b ≠ k) (i : Nat) (v : Value) : GvAt (w.setCell ⟨k, i, none⟩ v) b o T c x γ := h.of_block (Go.Deep.blk_setCell_other _ _ _ _ (by simpa using hk))

/-- none of the three is gone -/
def NoGone (θ : Nat → Th) : Prop := ∀ j b v, j < 3 → θ j ≠ .gone b v

theorem NoGone.put {θ : Nat → Th} (h : NoGone θ) (K : Nat) (t : Th) (ht : ∀ b v, t ≠ .gone b v) : NoGone (upd θ K t) := fun j b v hj => by
  by_cases e : j = K
  · subst e; rw [upd_same]; exact ht b v
  · rw [upd_other _ _ _ _ e]; exact h j b v hj

section
variable {w0 w : World} {L : Loc} {bE bA n σ c : Nat} {s : Mm} {lk : Nat → Nat} {F : List Nat} {θ : Nat → Th} {K : Nat}

/-- the picked one is laid as it is -/
theorem CrewAt.again (h : CrewAt w0 w L bE bA n s σ c lk F θ) (p : CrewApart w0 L bE bA) (hK : K < 3) {v0 v1 : Value} {v2 : Int} (e0 : v0 = (θ K).v0) (e1 : v1 = (θ K).v1) (e2 : v2 = (θ K).have) :
    CrewAt w0 (((w.setCell ⟨bA, K * 3, none⟩ v0).setCell ⟨bA, K * 3 + 1, none⟩ v1).setCell ⟨bA, K * 3 + 2, none⟩ (.int .i64 v2)) L bE bA n s σ c lk F θ := by
  have := h.put p hK (θ K) (h.th K hK) (h.ae K hK) (h.aa K hK) (h.al K hK) (h.a0 K hK) (fun j hj hjK => h.dif j K hj hK hjK) e0 e1 e2
  rwa [upd_id] at this

/-- a new one is laid, behind what is ours alone -/
theorem CrewAt.fresh (h : CrewAt w0 w L bE bA n s σ c lk F θ) (p : CrewApart w0 L bE bA) (hK : K < 3) (t : Th) (ht : t.at w) (hb : w0.heap.size ≤ t.b) (hE : t.b ≠ bE) (hA : t.b ≠ bA) (hL : ¬ L.has t.b) (hT : ∀ j, j < 3 → (θ j).b ≠ t.b) {v0 v1 : Value} {v2 : Int} (e0 : v0 = t.v0) (e1 : v1 = t.v1) (e2 : v2 = t.have) :
    CrewAt w0 (((w.setCell ⟨bA, K * 3, none⟩ v0).setCell ⟨bA, K * 3 + 1, none⟩ v1).setCell ⟨bA, K * 3 + 2, none⟩ (.int .i64 v2)) L bE bA n s σ c lk F (upd θ K t) :=
  h.put p hK t ht hE hA hL hb (fun j hj _ => hT j hj) e0 e1 e2

/-- a number that the picked one has is no other's -/
theorem have_ne {t : Th} {x : Nat} (h : ¬ t.has x) (hg : ∀ b v, t ≠ .gone b v) : ¬ t.have = (x : Int) := by
  cases t with
  | take => show ¬ (-1 : Int) = x; omega
  | give b y γ =>
    intro e
    have e' : (y : Int) = x := e
    exact h (show y = x by omega)
  | gone b v => exact absurd rfl (hg b v)

end

end Go.Proofs.Ytfedcddnjollmaa
