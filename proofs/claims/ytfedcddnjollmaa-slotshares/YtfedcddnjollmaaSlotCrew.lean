/- Three who take and give slots, whoever is picked: what is true at each round. -/
import Derived.Test.YtfedcddnjollmaaSlotArena
namespace Go.Proofs.Ytfedcddnjollmaa
open Go.RowKit

/-- one of them: it takes, or gives a slot, or has given it -/
inductive Th where
  | take (b : Nat) (τ : Tk)
  | give (b x : Nat) (γ : Gv)
  | gone (b : Nat) (v : Int)

def Th.b : Th → Nat
  | .take b _ => b
  | .give b _ _ => b
  | .gone b _ => b

def Th.v0 : Th → Value
  | .take b _ => .pointer (some ⟨b, 0, none⟩)
  | _ => .pointer none

def Th.v1 : Th → Value
  | .give b _ _ => .pointer (some ⟨b, 0, none⟩)
  | _ => .pointer none

def Th.have : Th → Int
  | .take _ _ => -1
  | .give _ x _ => x
  | .gone _ v => v

/-- how many slots it has -/
def Th.g : Th → Nat
  | .give _ _ _ => 1
  | _ => 0

def Th.has (x : Nat) : Th → Prop
  | .give _ y _ => y = x
  | _ => False

def Th.ok (n c : Nat) (lk : Nat → Nat) (F : List Nat) : Th → Prop
  | .take _ τ => τ.good n c lk F ∧ τ.over = false
  | .give _ x γ => x < n ∧ x ∉ F ∧ γ.good n c lk F x ∧ γ.done = false
  | .gone _ _ => True

def Th.at (w : World) : Th → Prop
  | .take b τ => ∃ cs, TkAt w b 0 43 cs τ
  | .give b x γ => ∃ cs, GvAt w b 0 65 cs x γ
  | .gone b _ => b < w.heap.size

theorem Tk.good_more {n c c' : Nat} {lk lk' : Nat → Nat} {F F' : List Nat} {τ : Tk} (h : τ.good n c lk F) (hc : c < c') : τ.good n c' lk' F' := by
  cases τ with
  | idle => trivial
  | saw x c0 => exact ⟨h.1, by have := h.2.1; omega, fun e => by have := h.2.1; omega⟩
  | lnk x c0 q => exact ⟨h.1, h.2.1, by have := h.2.2.1; omega, fun e => by have := h.2.2.1; omega⟩
  | won x => exact h
  | none => trivial

theorem Gv.good_more {n c c' : Nat} {lk : Nat → Nat} {F F' : List Nat} {x : Nat} {γ : Gv} (h : γ.good n c lk F x) (hc : c < c') : γ.good n c' lk F' x := by
  cases γ with
  | idle => trivial
  | saw q c0 => exact ⟨h.1, by have := h.2.1; omega, fun e => by have := h.2.1; omega⟩
  | lnk q c0 => exact ⟨h.1, h.2.1, by have := h.2.2.1; omega, fun e => by have := h.2.2.1; omega⟩
  | over => trivial

theorem Tk.good_lay {n c : Nat} {lk : Nat → Nat} {F : List Nat} {τ : Tk} (h : τ.good n c lk F) {x : Nat} (hx : x ∉ F) (q : Nat) : τ.good n c (upd lk x q) F := by
  cases τ with
  | idle => trivial
  | saw y c0 => exact h
  | lnk y c0 q' =>
    refine ⟨h.1, h.2.1, h.2.2.1, fun e => ⟨(h.2.2.2 e).1, ?_⟩⟩
    have hy : y ∈ F := by
      have := (h.2.2.2 e).1
      cases F with
      | nil => simp [hd] at this
      | cons z F => simp [hd] at this; subst this; simp
    rw [upd_other lk x y q (fun e' => hx (by rw [← e']; exact hy))]
    exact (h.2.2.2 e).2
  | won x => exact h
  | none => trivial

theorem Gv.good_lay {n c : Nat} {lk : Nat → Nat} {F : List Nat} {y : Nat} {γ : Gv} (h : γ.good n c lk F y) {x : Nat} (hx : y ≠ x) (q : Nat) : γ.good n c (upd lk x q) F y := by
  cases γ with
  | idle => trivial
  | saw q' c0 => exact h
  | lnk q' c0 => exact ⟨h.1, by rw [upd_other _ _ _ _ hx]; exact h.2.1, h.2.2⟩
  | over => trivial

/-- what is true of the three and of the free slots -/
structure Crew (n c : Nat) (lk : Nat → Nat) (F : List Nat) (θ : Nat → Th) : Prop where
  ok : ∀ j, j < 3 → (θ j).ok n c lk F
  sep : ∀ i j x, i < 3 → j < 3 → i ≠ j → (θ i).has x → ¬ (θ j).has x
  sum : F.length + ((θ 0).g + (θ 1).g + (θ 2).g) = n

theorem upd_g {θ : Nat → Th} {K : Nat} (hK : K < 3) (t : Th) : (upd θ K t 0).g + (upd θ K t 1).g + (upd θ K t 2).g + (θ K).g = (θ 0).g + (θ 1).g + (θ 2).g + t.g := by
  have : K = 0 ∨ K = 1 ∨ K = 2 := by omega
  rcases this with rfl | rfl | rfl <;> simp [upd] <;> omega

section
variable {n c c' : Nat} {lk lk' : Nat → Nat} {F F' : List Nat} {θ : Nat → Th} {K : Nat}

theorem Crew.put (h : Crew n c lk F θ) (hK : K < 3) (t : Th) (ho : ∀ j, j < 3 → j ≠ K → (θ j).ok n c' lk' F') (ht : t.ok n c' lk' F') (hs : ∀ x, t.has x → ∀ j, j < 3 → j ≠ K → ¬ (θ j).has x) (hg : F'.length + t.g = F.length + (θ K).g) : Crew n c' lk' F' (upd θ K t) := by
  refine ⟨fun j hj => ?_, fun i j x hi hj hij hx => ?_, ?_⟩
  · by_cases e : j = K
    · subst e; rw [upd_same]; exact ht
    · rw [upd_other _ _ _ _ e]; exact ho j hj e
  · by_cases e : i = K
    · subst e
      rw [upd_same] at hx
      rw [upd_other _ _ _ _ (Ne.symm hij)]
      exact hs x hx j hj (Ne.symm hij)
    · rw [upd_other _ _ _ _ e] at hx
      by_cases e' : j = K
      · subst e'
        rw [upd_same]
        exact fun ht' => hs x ht' i hi e hx
      · rw [upd_other _ _ _ _ e']; exact h.sep i j x hi hj hij hx
  · have := upd_g hK (θ := θ) t
    have := h.sum
    omega

/-- a step of one who takes, and is not done -/
theorem Crew.take {b : Nat} {τ τ' : Tk} (h : Crew n c lk F θ) (hK : K < 3) (hθ : θ K = .take b τ) (ht : TkStep n c lk F τ c' F' τ') (hg : τ'.good n c' lk F') (ho : τ'.over = false) : Crew n c' lk F' (upd θ K (.take b τ')) := by
  have e : c' = c ∧ F' = F := by
    cases ht with
    | none => exact ⟨rfl, rfl⟩
    | saw => exact ⟨rfl, rfl⟩
    | link => exact ⟨rfl, rfl⟩
    | took => cases ho
    | vain => exact ⟨rfl, rfl⟩
  obtain ⟨rfl, rfl⟩ := e
  exact h.put hK _ (fun j hj _ => h.ok j hj) ⟨hg, ho⟩ (fun x hx => hx.elim) (by rw [hθ]; rfl)

/-- one who takes finds none -/
theorem Crew.takeNone {b b2 : Nat} {τ : Tk} (h : Crew n c lk F θ) (hK : K < 3) (hθ : θ K = .take b τ) (ht : TkStep n c lk F τ c' F' .none) : Crew n c' lk F' (upd θ K (.take b2 .idle)) := by
  cases ht
  exact h.put hK _ (fun j hj _ => h.ok j hj) ⟨trivial, rfl⟩ (fun x hx => hx.elim) (by rw [hθ]; rfl)

/-- one who takes took a slot: it is had by nobody -/
theorem Crew.won {b : Nat} {τ : Tk} {x : Nat} (h : Crew n c lk F θ) (hθ : θ K = .take b τ) (ht : TkStep n c lk F τ c' F' (.won x)) : (∀ j, j < 3 → ¬ (θ j).has x) ∧ F = x :: F' ∧ c' = c + 1 := by
  cases ht with
  | took _ _ hx =>
    refine ⟨fun j hj hh => ?_, rfl, rfl⟩
    have := h.ok j hj
    cases e : θ j with
    | take => rw [e] at hh; exact hh
    | gone => rw [e] at hh; exact hh
    | give b' y γ =>
      rw [e] at hh this
      have hh' : y = x := hh
      subst hh'
      exact this.2.1 (by simp)

theorem Crew.took {b b2 : Nat} {τ : Tk} {x : Nat} (h : Crew n c lk F θ) (nd : F.Nodup) (hK : K < 3) (hθ : θ K = .take b τ) (hxn : x < n) (ht : TkStep n c lk F τ c' F' (.won x)) : Crew n c' lk F' (upd θ K (.give b2 x .idle)) := by
  obtain ⟨hno, rfl, rfl⟩ := h.won hθ ht
  refine h.put hK _ (fun j hj hjK => ?_) ⟨hxn, (List.nodup_cons.1 nd).1, trivial, rfl⟩ (fun y hy j hj _ => ?_) (by rw [hθ]; simp [Th.g])
  · have := h.ok j hj
    cases e : θ j with
    | take b' τ' => rw [e] at this; exact ⟨Tk.good_more this.1 (by omega), this.2⟩
    | gone => trivial
    | give b' y γ =>
      rw [e] at this
      exact ⟨this.1, fun hh => this.2.1 (List.mem_cons_of_mem _ hh), Gv.good_more this.2.2.1 (by omega), this.2.2.2⟩
  · have hy' : x = y := hy
    subst hy'
    exact hno j hj

/-- a step of one who gives: the others know what they knew -/
theorem Crew.others {b x : Nat} {γ γ' : Gv} (h : Crew n c lk F θ) (hK : K < 3) (hθ : θ K = .give b x γ) (ht : GvStep n c x lk F γ c' lk' F' γ') (j : Nat) (hj : j < 3) (hjK : j ≠ K) : (θ j).ok n c' lk' F' := by
  have hx : x ∉ F := by have := h.ok K hK; rw [hθ] at this; exact this.2.1
  have hne : ∀ b' y γ0, θ j = .give b' y γ0 → y ≠ x := fun b' y γ0 e e' => h.sep K j x hK hj (Ne.symm hjK) (by rw [hθ]; rfl) (by rw [e]; exact e')
  have := h.ok j hj
  cases ht with
  | load => exact this
  | vain => exact this
  | lay q c0 =>
    cases e : θ j with
    | take b' τ' => rw [e] at this; exact ⟨Tk.good_lay this.1 hx _, this.2⟩
    | gone => trivial
    | give b' y γ0 =>
      rw [e] at this
      exact ⟨this.1, this.2.1, Gv.good_lay this.2.2.1 (hne _ _ _ e) _, this.2.2.2⟩
  | gave =>
    cases e : θ j with
    | take b' τ' => rw [e] at this; exact ⟨Tk.good_more this.1 (by omega), this.2⟩
    | gone => trivial
    | give b' y γ0 =>
      rw [e] at this
      refine ⟨this.1, fun hh => ?_, Gv.good_more this.2.2.1 (by omega), this.2.2.2⟩
      rcases List.mem_cons.1 hh with hh | hh
      · exact hne _ _ _ e hh
      · exact this.2.1 hh

theorem Crew.give {b x : Nat} {γ γ' : Gv} (h : Crew n c lk F θ) (hK : K < 3) (hθ : θ K = .give b x γ) (ht : GvStep n c x lk F γ c' lk' F' γ') (hg : γ'.good n c' lk' F' x) (ho : γ'.done = false) : Crew n c' lk' F' (upd θ K (.give b x γ')) := by
  have hk := h.ok K hK
  rw [hθ] at hk
  have e : F' = F := by
    cases ht with
    | load => rfl
    | vain => rfl
    | lay => rfl
    | gave => cases ho
  subst e
  exact h.put hK _ (h.others hK hθ ht) ⟨hk.1, hk.2.1, hg, ho⟩ (fun y hy j hj hjK => by
    have hy' : x = y := hy
    subst hy'
    exact h.sep K j x hK hj (Ne.symm hjK) (by rw [hθ]; rfl)) (by rw [hθ]; rfl)

/-- one who gives has given: it is free for something else -/
theorem Crew.gave {b x : Nat} {γ γ' : Gv} (h : Crew n c lk F θ) (hK : K < 3) (hθ : θ K = .give b x γ) (ht : GvStep n c x lk F γ c' lk' F' γ') (ho : γ'.done = true) (t : Th) (htk : t.ok n c' lk' F') (htg : t.g = 0) (hth : ∀ y, ¬ t.has y) : Crew n c' lk' F' (upd θ K t) := by
  refine h.put hK _ (h.others hK hθ ht) htk (fun y hy => absurd hy (hth y)) ?_
  cases ht with
  | load => cases ho
  | vain => cases ho
  | lay => cases ho
  | gave => rw [hθ, htg]; simp [Th.g]

end

/-- the three, in an array -/
def AllAt (w : World) (bA : Nat) (θ : Nat → Th) : Prop :=
  ∃ c, w.heap[bA]? = some (.cells c 40 (0, 0)) ∧ ∀ j, j < 3 → c[j * 3]? = some (θ j).v0 ∧ c[j * 3 + 1]? = some (θ j).v1 ∧ c[j * 3 + 2]? = some (.int .i64 (θ j).have)

theorem AllAt.of_block {w w' : World} {bA : Nat} {θ : Nat → Th} (h : AllAt w bA θ) (e : w'.heap[bA]? = w.heap[bA]?) : AllAt w' bA θ := h.imp fun _ k => ⟨e.trans k.1, k.2⟩
theorem AllAt.lt {w : World} {bA : Nat} {θ : Nat → Th} (h : AllAt w bA θ) : bA < w.heap.size := by obtain ⟨c, k, _⟩ := h; exact blk_lt k
theorem AllAt.c0 {w : World} {bA : Nat} {θ : Nat → Th} (h : AllAt w bA θ) {j : Nat} (hj : j < 3) : w.cell? ⟨bA, j * 3, none⟩ = some (θ j).v0 := by obtain ⟨c, k, k2⟩ := h; exact blk_cell k (k2 j hj).1
theorem AllAt.c1 {w : World} {bA : Nat} {θ : Nat → Th} (h : AllAt w bA θ) {j : Nat} (hj : j < 3) : w.cell? ⟨bA, j * 3 + 1, none⟩ = some (θ j).v1 := by obtain ⟨c, k, k2⟩ := h; exact blk_cell k (k2 j hj).2.1
theorem AllAt.c2 {w : World} {bA : Nat} {θ : Nat → Th} (h : AllAt w bA θ) {j : Nat} (hj : j < 3) : w.cell? ⟨bA, j * 3 + 2, none⟩ = some (.int .i64 (θ j).have) := by obtain ⟨c, k, k2⟩ := h; exact blk_cell k (k2 j hj).2.2
theorem AllAt.fz {w : World} {bA : Nat} {θ : Nat → Th} (h : AllAt w bA θ) (i : Nat) : w.frozen? ⟨bA, i, none⟩ = false := by obtain ⟨c, k, k2⟩ := h; exact blk_frozen k i

theorem AllAt.put {w : World} {bA : Nat} {θ : Nat → Th} (h : AllAt w bA θ) {K : Nat} (hK : K < 3) (t : Th) {v0 v1 : Value} {v2 : Int} (e0 : v0 = t.v0) (e1 : v1 = t.v1) (e2 : v2 = t.have) : AllAt (((w.setCell ⟨bA, K * 3, none⟩ v0).setCell ⟨bA, K * 3 + 1, none⟩ v1).setCell ⟨bA, K * 3 + 2, none⟩ (.int .i64 v2)) bA (upd θ K t) := by
  subst e0 e1 e2
  obtain ⟨c, k, k2⟩ := h
  refine ⟨_, blk_setCell _ _ _ _ _ _ (blk_setCell _ _ _ _ _ _ (blk_setCell _ _ _ _ _ _ k)), fun j hj => ?_⟩
  have hk := k2 K hK
  have l0 := (Array.getElem?_eq_some_iff.1 hk.1).1
  have l1 := (Array.getElem?_eq_some_iff.1 hk.2.1).1
  have l2 := (Array.getElem?_eq_some_iff.1 hk.2.2).1
  by_cases e : j = K
  · subst e
    rw [upd_same]
    refine ⟨?_, ?_, ?_⟩
    · rw [Array.getElem?_setIfInBounds_ne (by omega), Array.getElem?_setIfInBounds_ne (by omega), Array.getElem?_setIfInBounds_self_of_lt l0]
    · rw [Array.getElem?_setIfInBounds_ne (by omega), Array.getElem?_setIfInBounds_self_of_lt (by simpa using l1)]
    · rw [Array.getElem?_setIfInBounds_self_of_lt (by simpa using l2)]
  · rw [upd_other _ _ _ _ e]
    have := k2 j hj
    refine ⟨?_, ?_, ?_⟩
    · rw [Array.getElem?_setIfInBounds_ne (by omega), Array.getElem?_setIfInBounds_ne (by omega), Array.getElem?_setIfInBounds_ne (by omega)]; exact this.1
    · rw [Array.getElem?_setIfInBounds_ne (by omega), Array.getElem?_setIfInBounds_ne (by omega), Array.getElem?_setIfInBounds_ne (by omega)]; exact this.2.1
    · rw [Array.getElem?_setIfInBounds_ne (by omega), Array.getElem?_setIfInBounds_ne (by omega), Array.getElem?_setIfInBounds_ne (by omega)]; exact this.2.2

theorem Th.at_of {w w' : World} {t : Th} (h : t.at w) (e : w'.heap[t.b]? = w.heap[t.b]?) (hs : w.heap.size ≤ w'.heap.size) : t.at w' := by
  cases t with
  | take b τ => exact h.imp fun _ k => k.of_block e
  | give b x γ => exact h.imp fun _ k => k.of_block e
  | gone b v => exact Nat.lt_of_lt_of_le h hs

theorem Th.at_lt {w : World} {t : Th} (h : t.at w) : t.b < w.heap.size := by
  cases t with
  | take b τ => obtain ⟨_, k⟩ := h; exact k.lt
  | give b x γ => obtain ⟨_, k⟩ := h; exact k.lt
  | gone b v => exact h

/-- where all lies -/
structure CrewAt (w0 w : World) (L : Loc) (bE bA n : Nat) (s : Mm) (σ c : Nat) (lk : Nat → Nat) (F : List Nat) (θ : Nat → Th) : Prop where
  f : Field w0 w L bE 4 n s σ c lk F
  a : AllAt w bA θ
  th : ∀ j, j < 3 → (θ j).at w
  ae : ∀ j, j < 3 → (θ j).b ≠ bE
  aa : ∀ j, j < 3 → (θ j).b ≠ bA
  al : ∀ j, j < 3 → ¬ L.has (θ j).b
  a0 : ∀ j, j < 3 → w0.heap.size ≤ (θ j).b
  dif : ∀ i j, i < 3 → j < 3 → i ≠ j → (θ i).b ≠ (θ j).b

structure CrewApart (w0 : World) (L : Loc) (bE bA : Nat) : Prop where
  f : FieldApart w0 L bE
  l : ¬ L.has bA
  e : bE ≠ bA
  b0 : w0.heap.size ≤ bA

section
variable {w0 w w' : World} {L : Loc} {bE bA n σ c c' : Nat} {s s' : Mm} {lk lk' : Nat → Nat} {F F' : List Nat} {θ : Nat → Th} {K : Nat}

theorem CrewAt.grown (h : CrewAt w0 w L bE bA n s σ c lk F θ) (g : Below w.heap.size w w') : CrewAt w0 w' L bE bA n s σ c lk F θ :=
  ⟨h.f.grown g, h.a.of_block (g.block _ h.a.lt), fun j hj => Th.at_of (h.th j hj) (g.block _ (Th.at_lt (h.th j hj))) g.size, h.ae, h.aa, h.al, h.a0, h.dif⟩

/-- one of them does a step -/
theorem CrewAt.step (h : CrewAt w0 w L bE bA n s σ c lk F θ) (p : CrewApart w0 L bE bA) (hK : K < 3) {σ' : Nat} (t : Th) (e0 : t.v0 = (θ K).v0) (e1 : t.v1 = (θ K).v1) (e2 : t.have = (θ K).have) (eb : t.b = (θ K).b) (o : Only (L.and (θ K).b) w w') (m : MemAt w' L s') (pl : Pile 4 n s' σ' c' lk' F') (ht : t.at w') : CrewAt w0 w' L bE bA n s' σ' c' lk' F' (upd θ K t) := by
  have hb : ∀ j, j < 3 → (upd θ K t j).b = (θ j).b := fun j hj => by
    by_cases e : j = K
    · subst e; rw [upd_same]; exact eb
    · rw [upd_other _ _ _ _ e]
  refine ⟨h.f.only p.f (h.a0 K hK) (h.ae K hK).symm o m pl, ?_, fun j hj => ?_, fun j hj => ?_, fun j hj => ?_, fun j hj => ?_, fun j hj => ?_, fun i j hi hj hij => ?_⟩
  · obtain ⟨cl, k, k2⟩ := h.a
    refine ⟨cl, (o.block _ (blk_lt k) (fun hh => hh.elim p.l (h.aa K hK).symm)).trans k, fun j hj => ?_⟩
    by_cases e : j = K
    · subst e; rw [upd_same, e0, e1, e2]; exact k2 j hj
    · rw [upd_other _ _ _ _ e]; exact k2 j hj
  · by_cases e : j = K
    · subst e; rw [upd_same]; exact ht
    · rw [upd_other _ _ _ _ e]
      exact Th.at_of (h.th j hj) (o.block _ (Th.at_lt (h.th j hj)) (fun hh => hh.elim (h.al j hj) (h.dif j K hj hK e))) o.size
  · rw [hb j hj]; exact h.ae j hj
  · rw [hb j hj]; exact h.aa j hj
  · rw [hb j hj]; exact h.al j hj
  · rw [hb j hj]; exact h.a0 j hj
  · rw [hb i hi, hb j hj]; exact h.dif i j hi hj hij

/-- a cell of a block of our own is laid -/
theorem CrewAt.own (h : CrewAt w0 w L bE bA n s σ c lk F θ) {b : Nat} (hb : w0.heap.size ≤ b) (he : bE ≠ b) (hl : ¬ L.has b) (ha : bA ≠ b) (ht : ∀ j, j < 3 → (θ j).b ≠ b) (i : Nat) (v : Value) : CrewAt w0 (w.setCell ⟨b, i, none⟩ v) L bE bA n s σ c lk F θ :=
  ⟨h.f.setIn hb he hl i v, h.a.of_block (Go.Deep.blk_setCell_other _ _ _ _ (by simpa using ha)), fun j hj => Th.at_of (h.th j hj) (Go.Deep.blk_setCell_other _ _ _ _ (by simpa using ht j hj)) (by rw [Go.Deep.nblk_setCell]; exact Nat.le_refl _), h.ae, h.aa, h.al, h.a0, h.dif⟩

/-- the picked one is laid anew -/
theorem CrewAt.put (h : CrewAt w0 w L bE bA n s σ c lk F θ) (p : CrewApart w0 L bE bA) (hK : K < 3) (t : Th) (ht : t.at w) (te : t.b ≠ bE) (ta : t.b ≠ bA) (tl : ¬ L.has t.b) (t0 : w0.heap.size ≤ t.b) (td : ∀ j, j < 3 → j ≠ K → (θ j).b ≠ t.b) {v0 v1 : Value} {v2 : Int} (e0 : v0 = t.v0) (e1 : v1 = t.v1) (e2 : v2 = t.have) :
    CrewAt w0 (((w.setCell ⟨bA, K * 3, none⟩ v0).setCell ⟨bA, K * 3 + 1, none⟩ v1).setCell ⟨bA, K * 3 + 2, none⟩ (.int .i64 v2)) L bE bA n s σ c lk F (upd θ K t) := by
  have blk : ∀ k, k ≠ bA → (((w.setCell ⟨bA, K * 3, none⟩ v0).setCell ⟨bA, K * 3 + 1, none⟩ v1).setCell ⟨bA, K * 3 + 2, none⟩ (.int .i64 v2)).heap[k]? = w.heap[k]? := fun k hk => by
    rw [Go.Deep.blk_setCell_other _ _ _ _ (by simpa using hk), Go.Deep.blk_setCell_other _ _ _ _ (by simpa using hk), Go.Deep.blk_setCell_other _ _ _ _ (by simpa using hk)]
  have sz : w.heap.size ≤ (((w.setCell ⟨bA, K * 3, none⟩ v0).setCell ⟨bA, K * 3 + 1, none⟩ v1).setCell ⟨bA, K * 3 + 2, none⟩ (.int .i64 v2)).heap.size := by
    rw [Go.Deep.nblk_setCell, Go.Deep.nblk_setCell, Go.Deep.nblk_setCell]; exact Nat.le_refl _
  refine ⟨((h.f.setIn p.b0 p.e p.l _ _).setIn p.b0 p.e p.l _ _).setIn p.b0 p.e p.l _ _, h.a.put hK t e0 e1 e2, fun j hj => ?_, fun j hj => ?_, fun j hj => ?_, fun j hj => ?_, fun j hj => ?_, fun i j hi hj hij => ?_⟩
  · by_cases e : j = K
    · subst e; rw [upd_same]; exact Th.at_of ht (blk _ ta) sz
    · rw [upd_other _ _ _ _ e]; exact Th.at_of (h.th j hj) (blk _ (h.aa j hj)) sz
  · by_cases e : j = K
    · subst e; rw [upd_same]; exact te
    · rw [upd_other _ _ _ _ e]; exact h.ae j hj
  · by_cases e : j = K
    · subst e; rw [upd_same]; exact ta
    · rw [upd_other _ _ _ _ e]; exact h.aa j hj
  · by_cases e : j = K
    · subst e; rw [upd_same]; exact tl
    · rw [upd_other _ _ _ _ e]; exact h.al j hj
  · by_cases e : j = K
    · subst e; rw [upd_same]; exact t0
    · rw [upd_other _ _ _ _ e]; exact h.a0 j hj
  · by_cases e : i = K
    · subst e
      rw [upd_same, upd_other _ _ _ _ (Ne.symm hij)]
      exact (td j hj (Ne.symm hij)).symm
    · rw [upd_other _ _ _ _ e]
      by_cases e' : j = K
      · subst e'; rw [upd_same]; exact td i hi e
      · rw [upd_other _ _ _ _ e']; exact h.dif i j hi hj hij

end

end Go.Proofs.Ytfedcddnjollmaa
