/- Three who make objects, in arrays, and the slice of what was made: where they lie, and what each step leaves. -/
import Derived.Test.YtemembcefplgcaaAllocJamStep
import Derived.Test.YtemembcefplgcaaArgs
import Derived.ArgAppend
namespace Go.Proofs.Ytemembcefplgcaa
open Go.RowKit

theorem Try.infoO50 : (Try.prog.info? 50).map (fun i => (i.zero, i.size, i.bytes)) = some (some (.agg #[.int .u64 0, .int .i64 0]), 2, 16) := by kernel_rfl

/-- the cells of what was made -/
def flat : List (Int × Int) → List Value
  | [] => []
  | p :: l => .int .u64 p.1 :: .int .i64 p.2 :: flat l

theorem flat_len (l : List (Int × Int)) : (flat l).length = 2 * l.length := by
  induction l with
  | nil => rfl
  | cons p l ih => simp only [flat, List.length_cons, ih]; omega

theorem flat_app (l : List (Int × Int)) (p : Int × Int) : flat (l ++ [p]) = flat l ++ [.int .u64 p.1, .int .i64 p.2] := by
  induction l with
  | nil => rfl
  | cons q l ih => simp only [List.cons_append, flat, ih]

theorem flat_get {l : List (Int × Int)} {i : Nat} {p : Int × Int} (h : l[i]? = some p) : (flat l)[2 * i]? = some (.int .u64 p.1) ∧ (flat l)[2 * i + 1]? = some (.int .i64 p.2) := by
  induction l generalizing i with
  | nil => simp at h
  | cons q l ih =>
    cases i with
    | zero => simp at h; subst h; exact ⟨rfl, rfl⟩
    | succ i =>
      have := ih (i := i) (by simpa using h)
      rw [show 2 * (i + 1) = 2 * i + 1 + 1 by omega]
      simpa [flat] using this

/-- a slice of what was made lies in a block -/
structure Prs (w : World) (b cap : Nat) (l : List (Int × Int)) : Prop where
  ex : ∃ c, w.heap[b]? = some (.cells c 50 (0, 0)) ∧ 2 * cap ≤ c.size ∧ ∀ (i : Nat) (u : Value), (flat l)[i]? = some u → c[i]? = some u
  le : l.length ≤ cap

namespace Prs
variable {w w' : World} {b cap : Nat} {l : List (Int × Int)}
theorem lt (h : Prs w b cap l) : b < w.heap.size := by obtain ⟨c, k, _⟩ := h.ex; exact blk_lt k
theorem of_block (h : Prs w b cap l) (e : w'.heap[b]? = w.heap[b]?) : Prs w' b cap l := ⟨h.ex.imp fun _ k => ⟨e.trans k.1, k.2⟩, h.le⟩
theorem grown (h : Prs w b cap l) (g : Below w.heap.size w w') : Prs w' b cap l := h.of_block (g.block _ h.lt)
theorem only {S : Nat → Prop} (h : Prs w b cap l) (o : Only S w w') (hs : ¬ S b) : Prs w' b cap l := h.of_block (o.block _ h.lt hs)
theorem other (h : Prs w b cap l) {k : Nat} (hk : b ≠ k) (i : Nat) (v : Value) : Prs (w.setCell ⟨k, i, none⟩ v) b cap l := h.of_block (Go.Deep.blk_setCell_other _ _ _ _ (by simpa using hk))
theorem cell (h : Prs w b cap l) {i : Nat} {u : Value} (hu : (flat l)[i]? = some u) : w.cell? ⟨b, i, none⟩ = some u := by
  obtain ⟨c, k, _, k2⟩ := h.ex; exact blk_cell k (k2 i u hu)
end Prs

theorem Grown.of {w w' : World} (h : w.grownBy w' none) : Grown w w' := ⟨h.os, h.tape, h.output, h.size, fun k hk => h.block k hk (by simp)⟩

theorem add_lit (b off j : Nat) : (⟨b, off, none⟩ : Addr).add j = ⟨b, off + j, none⟩ := by unfold Addr.add; split <;> simp_all

/-- an append of one -/
theorem Prs.app {w : World} {b cap : Nat} {l : List (Int × Int)} (h : Prs w b cap l) (g : Nat) (x y : Int) (hg0 : w.cell? ⟨g, 0, none⟩ = some (.int .u64 x)) (hg1 : w.cell? ⟨g, 1, none⟩ = some (.int .i64 y)) (hl : l.length ≤ 1000) (ty : TypeId) :
    ∃ b' cap' w', (Builtin.append_ #[45, 45] ty #[.slice (some ⟨b, 0, none⟩) l.length cap, .slice (some ⟨g, 0, none⟩) 1 1]).run Try.prog w = .ok (.slice (some ⟨b', 0, none⟩) (l.length + 1) cap') w' ∧ Prs w' b' cap' (l ++ [(x, y)]) ∧ Only (fun k => k = b) w w' ∧ (b' = b ∨ w.heap.size ≤ b') := by
  obtain ⟨i0, hi, hz0, hz1, hz2⟩ := info_parts Try.infoO50
  obtain ⟨c, k, k1, k2⟩ := h.ex
  have hle := h.le
  have hfl := flat_len l
  have hnews : ∀ j u, [Value.int .u64 x, Value.int .i64 y][j]? = some u → w.cell? ((⟨g, 0, none⟩ : Addr).add j) = some u := fun j u hu => by
    rw [add_lit, Nat.zero_add]
    match j, hu with
    | 0, hu => simp at hu; subst hu; exact hg0
    | 1, hu => simp at hu; subst hu; exact hg1
    | j + 2, hu => simp at hu
  by_cases hr : l.length + 1 ≤ cap
  · have hlt : 2 * l.length + 1 < c.size := by omega
    have hcell : ∀ j, j < 2 → ∃ v, w.cell? ⟨b, 2 * l.length + j, none⟩ = some v := fun j hj => ⟨_, blk_cell k (Array.getElem?_eq_getElem (show 2 * l.length + j < c.size by omega))⟩
    have hrun := run_append_room_cells (P := Try.prog) w 45 ty 50 i0 Try.underlying45 hi b 0 l.length cap ⟨g, 0, none⟩ 1 1 [.int .u64 x, .int .i64 y] (by simp [hz1]) hnews (by simp [Value.oneCell']) hr
      (fun j hj => by
        obtain ⟨v, hv⟩ := hcell j (by simpa using hj)
        rw [hz1, Nat.zero_add, Nat.mul_comm l.length 2, hv]; rfl)
      (fun j hj => blk_frozen k _)
    refine ⟨b, cap, _, hrun, ?_, ?_, Or.inl rfl⟩
    · rw [hz1, Nat.zero_add, Nat.mul_comm l.length 2]
      refine ⟨⟨(c.setIfInBounds (2 * l.length) (.int .u64 x)).setIfInBounds (2 * l.length + 1) (.int .i64 y), ?_, by simpa using k1, fun i u hu => ?_⟩, by simpa using hr⟩
      · have h1 := blk_setCell w b (2 * l.length) (.int .u64 x) c 50 k
        have h2 := blk_setCell _ b (2 * l.length + 1) (.int .i64 y) _ 50 h1
        simpa [World.setCells] using h2
      · rw [flat_app] at hu
        by_cases hil : i < (flat l).length
        · rw [List.getElem?_append_left hil] at hu
          rw [Array.getElem?_setIfInBounds_ne (by omega), Array.getElem?_setIfInBounds_ne (by omega)]; exact k2 i u hu
        · rw [List.getElem?_append_right (by omega)] at hu
          have hi2 : i - (flat l).length < 2 := by have := lt_of_some hu; simpa using this
          by_cases e : i = 2 * l.length
          · subst e
            rw [hfl, Nat.sub_self] at hu
            simp at hu
            subst hu
            rw [Array.getElem?_setIfInBounds_ne (by omega), Array.getElem?_setIfInBounds_self_of_lt (by omega)]
          · obtain rfl : i = 2 * l.length + 1 := by omega
            rw [hfl, show 2 * l.length + 1 - 2 * l.length = 1 by omega] at hu
            simp at hu
            subst hu
            rw [Array.getElem?_setIfInBounds_self_of_lt (by simpa using hlt)]
    · rw [hz1, Nat.zero_add]
      have h1 := Only.setCell (a := ⟨b, l.length * 2, none⟩) (Only.refl (fun k => k = b) w) (fun _ => rfl) (.int .u64 x)
      have h2 := Only.setCell (a := ⟨b, l.length * 2 + 1, none⟩) h1 (fun _ => rfl) (.int .i64 y)
      simpa [World.setCells] using h2
  · obtain ⟨v', w', hrun, ho, hgr⟩ := run_append_arg_grows (P := Try.prog) w 45 ty 50 i0 (.agg #[.int .u64 0, .int .i64 0]) 2 16 Try.underlying45 hi hz0 hz1 hz2 rfl (by decide) ⟨b, 0, none⟩ l.length cap (flat l) (by rw [hfl]; omega)
      (fun j u hu => by rw [add_lit, Nat.zero_add]; exact h.cell hu)
      ⟨g, 0, none⟩ 1 1 [.int .u64 x, .int .i64 y] (by simp) hnews (by omega) (by unfold maxLen; omega) (by omega)
    have ho' : w'.ownsRow w.heap.size 50 2 v' (l.length + 1) (flat (l ++ [(x, y)])) := by rw [flat_app]; simpa using ho
    rcases ho'.2 with ⟨_, h2⟩ | ⟨g', cap', cur, h', hb, hg, hcap, hmax, hsz, htake⟩
    · omega
    · subst h'
      refine ⟨g', cap', w', hrun, ⟨⟨cur, hg, by omega, fun i u hu => ?_⟩, by simpa using hcap⟩, Only.ofGrown (Grown.of hgr), Or.inr hb⟩
      have e := congrArg (fun q => q[i]?) htake
      rw [hu] at e
      have hlt : i < (l.length + 1) * 2 := by
        have := lt_of_some hu
        rw [flat_len] at this
        simp at this
        omega
      rw [List.getElem?_take_of_lt hlt] at e
      simpa using e

def Wh.v : Wh → Value
  | .nil => .pointer none
  | .at b _ _ _ => .pointer (some ⟨b, 0, none⟩)

/-- the three lie behind M; their arena, the arrays A and C, the slice of what was made -/
structure Three (w0 W : World) (L : Loc) (E A C M n : Nat) (s : Mm) (σ : Nat) (q : Q) (θ : Nat → Wh) (cl : Nat → Nat) (pb cap : Nat) (l : List (Int × Int)) : Prop where
  f : Site w0 W L E 4 n 6 20 s σ q
  a : W.rowIs A 43 3 (fun j => (θ j).v)
  c : W.rowIs C 44 3 (fun j => .int .i64 (cl j))
  th : ∀ j, j < 3 → ∀ b Z κ α, θ j = .at b Z κ α → Maker W b Z false κ α ∧ M ≤ b ∧ cl j = Z ∧ b ≠ pb
  dif : ∀ i j, i < 3 → j < 3 → i ≠ j → ∀ b Z κ α b' Z' κ' α', θ i = .at b Z κ α → θ j = .at b' Z' κ' α' → b ≠ b'
  p : Prs W pb cap l
  pm : M ≤ pb

structure ThreeApart (w0 : World) (L : Loc) (E A C M n : Nat) : Prop where
  pa : PlotApart w0 L E 4 n 6 20
  al : ¬ L.has A
  cl : ¬ L.has C
  ea : E ≠ A
  ec : E ≠ C
  ac : A ≠ C
  a0 : w0.heap.size ≤ A
  c0 : w0.heap.size ≤ C
  lm : ∀ k, L.has k → k < M
  em : E < M
  am : A < M
  cm : C < M
  m0 : w0.heap.size ≤ M

section
variable {w0 W W' : World} {L : Loc} {E A C M n σ : Nat} {s : Mm} {q : Q} {θ : Nat → Wh} {cl : Nat → Nat} {pb cap : Nat} {l : List (Int × Int)}

theorem Three.grown (h : Three w0 W L E A C M n s σ q θ cl pb cap l) (g : Below W.heap.size W W') : Three w0 W' L E A C M n s σ q θ cl pb cap l :=
  ⟨h.f.grown g, h.a.of_block (g.block _ h.a.lt), h.c.of_block (g.block _ h.c.lt), fun j hj b Z κ α e => by
    obtain ⟨h1, h2⟩ := h.th j hj b Z κ α e
    exact ⟨h1.grown g, h2⟩, h.dif, h.p.grown g, h.pm⟩

/-- one begins -/
theorem Three.begin (h : Three w0 W L E A C M n s σ q θ cl pb cap l) (p : ThreeApart w0 L E A C M n) (hM : M ≤ W.heap.size) {j Z κ : Nat} (hθ : θ j = .nil) : Three w0 (((W.setCell ⟨C, j, none⟩ (.int .i64 Z)).alloc (alloc0 Z false)).setCell ⟨A, j, none⟩ (.pointer (some ⟨(W.setCell ⟨C, j, none⟩ (.int .i64 Z)).heap.size, 0, none⟩))) L E A C M n s σ q (upd θ j (.at (W.setCell ⟨C, j, none⟩ (.int .i64 Z)).heap.size Z κ (.take .idle))) (upd cl j Z) pb cap l := by
  have hsz : (W.setCell ⟨C, j, none⟩ (.int .i64 (Z : Int))).heap.size = W.heap.size := Go.Deep.nblk_setCell _ _ _
  have hcm := p.cm
  have ham := p.am
  have hplt := h.p.lt
  have hne : W.heap.size ≠ A := by omega
  refine ⟨((h.f.setIn p.c0 p.ec p.cl _ _).alloc _).setIn p.a0 p.ea p.al _ _, ?_, ?_, fun i hi b Z' κ' α e => ?_, fun i i' hi hi' hni b Z1 κ1 α b' Z' κ' α' e e' => ?_, ?_, h.pm⟩
  · refine (((h.a.setOther p.ac _).alloc _).set j _).congr fun i _ => ?_
    by_cases ei : i = j
    · subst ei; rw [upd_same]; simp [Wh.v]
    · rw [upd_other _ _ _ _ ei, if_neg ei]
  · refine (((h.c.set j _).alloc _).setOther (fun e => p.ac (by simpa using e.symm)) _).congr fun i _ => ?_
    by_cases ei : i = j
    · subst ei; rw [upd_same]; simp
    · rw [upd_other _ _ _ _ ei, if_neg ei]
  · by_cases ei : i = j
    · subst ei
      rw [upd_same] at e
      cases e
      rw [hsz]
      refine ⟨?_, hM, upd_same _ _ _, by omega⟩
      have m0 := maker0 (Z : Int) false κ (W.setCell ⟨C, i, none⟩ (.int .i64 (Z : Int)))
      rw [hsz] at m0
      exact m0.other hne _ _
    · rw [upd_other _ _ _ _ ei] at e
      obtain ⟨h1, h2, h3, h4⟩ := h.th i hi b Z' κ' α e
      refine ⟨((h1.other (by omega) _ _).grown (grow_alloc (Below.refl _ _) _)).other (by omega) _ _, h2, by rw [upd_other _ _ _ _ ei]; exact h3, h4⟩
  · have old : ∀ i, i < 3 → ∀ b Z κ α, θ i = .at b Z κ α → b < W.heap.size := fun i hi b Z κ α e => (h.th i hi b Z κ α e).1.lt
    by_cases ei : i = j
    · subst ei
      rw [upd_same] at e
      rw [upd_other _ _ _ _ (Ne.symm hni)] at e'
      cases e
      have := old i' hi' b' Z' κ' α' e'
      rw [hsz]; omega
    · rw [upd_other _ _ _ _ ei] at e
      by_cases ei' : i' = j
      · subst ei'
        rw [upd_same] at e'
        cases e'
        have := old i hi b Z1 κ1 α e
        rw [hsz]; omega
      · rw [upd_other _ _ _ _ ei'] at e'
        exact h.dif i i' hi hi' hni b Z1 κ1 α b' Z' κ' α' e e'
  · have := h.pm
    exact ((h.p.other (by omega) _ _).grown (grow_alloc (Below.refl _ _) _)).other (by omega) _ _

/-- the picked one is nobody any more -/
theorem Three.drop (h : Three w0 W L E A C M n s σ q θ cl pb cap l) (p : ThreeApart w0 L E A C M n) {j : Nat} : Three w0 (W.setCell ⟨A, j, none⟩ (.pointer none)) L E A C M n s σ q (upd θ j .nil) cl pb cap l := by
  have ham := p.am
  refine ⟨h.f.setIn p.a0 p.ea p.al _ _, (h.a.set j _).congr fun i _ => ?_, h.c.setOther (fun e => p.ac (by simpa using e.symm)) _, fun i hi b Z κ α e => ?_, fun i i' hi hi' hne b Z κ α b' Z' κ' α' e e' => ?_, h.p.other (by have := h.pm; omega) _ _, h.pm⟩
  · by_cases ei : i = j
    · subst ei; rw [upd_same]; simp [Wh.v]
    · rw [upd_other _ _ _ _ ei, if_neg ei]
  · by_cases ei : i = j
    · subst ei; rw [upd_same] at e; cases e
    · rw [upd_other _ _ _ _ ei] at e
      obtain ⟨h1, h2, h3⟩ := h.th i hi b Z κ α e
      exact ⟨h1.other (by omega) _ _, h2, h3⟩
  · by_cases ei : i = j
    · subst ei; rw [upd_same] at e; cases e
    · by_cases ei' : i' = j
      · subst ei'; rw [upd_same] at e'; cases e'
      · rw [upd_other _ _ _ _ ei] at e; rw [upd_other _ _ _ _ ei'] at e'
        exact h.dif i i' hi hi' hne b Z κ α b' Z' κ' α' e e'

/-- a step of the picked one -/
theorem Three.step {j b Z κ : Nat} {α : Al} {q' : Q} {α' : Al} {d : Bool} (h : Three w0 W L E A C M n s σ q θ cl pb cap l) (p : ThreeApart w0 L E A C M n) (hj : j < 3) (hθ : θ j = .at b Z κ α) (hσ : σ < 1000000) (hg : α.good 4 n 6 20 κ σ q) (ho : α.over? = false) (hκ : κ < 4) (kz : classOf Z = κ) (z2 : Z ≤ 16) (ht : alTurn 4 n 6 20 κ Z false σ q α = (q', α')) (hd : α'.over? = d) :
    Calls Try.prog 17 #[.pointer (some ⟨b, 0, none⟩), .agg #[.int .i64 4, .int .i64 n, .int .i64 6, .int .i64 20, .int .i64 100, .int .i64 600, .int .i64 3, .pointer (some ⟨L.p, 0, none⟩), .int .i64 0]] W fun e w' => e = .returned (.bool d) ∧ ∃ s', Three w0 w' L E A C M n s' (σ + 1) q' (upd θ j (.at b Z κ α')) cl pb cap l ∧ α'.good 4 n 6 20 κ (σ + 1) q' := by
  obtain ⟨hm, hM, hc, hpb⟩ := h.th j hj b Z κ α hθ
  have hbL : ¬ L.has b := fun hh => by have := p.lm _ hh; omega
  have hbE : E ≠ b := by have := p.em; omega
  refine (h.f.step p.pa hbL hbE (by have := p.m0; omega) hσ (class_fit z2) kz hκ hm hg ho q' α' ht d hd).mono ?_
  rintro e w' ⟨rfl, s', f', m', g', o', -⟩
  have hbA : A ≠ b := by have := p.am; omega
  have hbC : C ≠ b := by have := p.cm; omega
  have hpL : ¬ L.has pb := fun hh => by have := p.lm _ hh; have := h.pm; omega
  refine ⟨rfl, s', ⟨f', (h.a.of_block (o'.block _ h.a.lt (fun hh => hh.elim p.al hbA))).congr fun i _ => ?_, h.c.of_block (o'.block _ h.c.lt (fun hh => hh.elim p.cl hbC)), fun i hi b' Z' κ' α'' e => ?_, fun i i' hi1 hi2 hni b1 Z1 κ1 α1 b2 Z2 κ2 α2 e e' => ?_, h.p.only o' (fun hh => hh.elim hpL (Ne.symm hpb)), h.pm⟩, g'⟩
  · by_cases ei : i = j
    · subst ei; rw [upd_same, hθ]; rfl
    · rw [upd_other _ _ _ _ ei]
  · by_cases ei : i = j
    · subst ei
      rw [upd_same] at e
      cases e
      exact ⟨m', hM, hc, hpb⟩
    · rw [upd_other _ _ _ _ ei] at e
      obtain ⟨h1, h2, h3⟩ := h.th i hi b' Z' κ' α'' e
      have hne := h.dif i j hi hj ei b' Z' κ' α'' b Z κ α e hθ
      have hbL' : ¬ L.has b' := fun hh => by have := p.lm _ hh; omega
      exact ⟨h1.only o' (fun hh => hh.elim hbL' hne), h2, h3⟩
  · by_cases ei : i = j
    · subst ei
      rw [upd_same] at e
      rw [upd_other _ _ _ _ (Ne.symm hni)] at e'
      cases e
      exact h.dif i i' hi1 hi2 hni _ _ _ _ _ _ _ _ hθ e'
    · rw [upd_other _ _ _ _ ei] at e
      by_cases ei' : i' = j
      · subst ei'
        rw [upd_same] at e'
        cases e'
        exact h.dif i i' hi1 hi2 hni _ _ _ _ _ _ _ _ e hθ
      · rw [upd_other _ _ _ _ ei'] at e'
        exact h.dif i i' hi1 hi2 hni _ _ _ _ _ _ _ _ e e'

/-- one more was made -/
theorem Three.more (h : Three w0 W L E A C M n s σ q θ cl pb cap l) (p : ThreeApart w0 L E A C M n) {b' cap' : Nat} {l' : List (Int × Int)} (o : Only (fun k => k = pb) W W') (hp : Prs W' b' cap' l') (hb : b' = pb ∨ W.heap.size ≤ b') (hM : M ≤ W.heap.size) : Three w0 W' L E A C M n s σ q θ cl b' cap' l' := by
  have hpm := h.pm
  have hpL : ¬ L.has pb := fun hh => by have := p.lm _ hh; omega
  have hem := p.em
  have ham := p.am
  have hcm := p.cm
  have hm0 := p.m0
  refine ⟨⟨h.f.mm.only o (fun i hi e => hpL (e ▸ hi)), h.f.tw, h.f.v.only o (by omega), h.f.b.trans (o.below h.f.b.size (fun k hk hh => by omega))⟩, h.a.of_block (o.block _ h.a.lt (by omega)), h.c.of_block (o.block _ h.c.lt (by omega)), fun j hj b Z κ α e => ?_, h.dif, hp, by rcases hb with rfl | hb <;> omega⟩
  obtain ⟨h1, h2, h3, h4⟩ := h.th j hj b Z κ α e
  refine ⟨h1.only o h4, h2, h3, ?_⟩
  have := h1.lt
  rcases hb with rfl | hb
  · exact h4
  · omega

end

/-- an error is that of slots, or of room -/
theorem over_67 {n σ : Nat} {q : Q} {ow : Nat → Nat} {θ : Nat → Wh} {ms : List Ob} {K b Z κ : Nat} {α : Al} {q' : Q} {E H : Int} {st : Nat} (J : Jam n q σ ow θ ms) (hK : K < 3) (hθ : θ K = .at b Z κ α) (ht : alTurn 4 n 6 20 κ Z false σ q α = (q', .over E H st)) (hE : E ≠ 0) : E = 6 ∨ E = 7 :=
  ((J.step hK hθ ht trivial).2.1 E H st rfl hE).1

theorem rem3 (k : Nat) : ∃ K : Nat, (k : Int).tmod 3 = (K : Int) ∧ K < 3 :=
  ⟨k % 3, by rw [Int.tmod_eq_emod_of_nonneg (by omega)]; omega, by omega⟩

theorem pick3 (x : Int) : ∃ K : Nat, (x.tmod 3 + 3).tmod 3 = (K : Int) ∧ (x.tmod 3 + 3) % 3 = (K : Int) ∧ K < 3 ∧ -3 < x.tmod 3 ∧ x.tmod 3 < 3 := by
  have h1 : -3 < x.tmod 3 := Int.lt_tmod_of_pos x (by decide)
  have h3 : x.tmod 3 < 3 := Int.tmod_lt_of_pos x (by decide)
  have h4 := Int.emod_nonneg (x.tmod 3 + 3) (b := 3) (by omega)
  have h5 := Int.emod_lt_of_pos (x.tmod 3 + 3) (b := 3) (by omega)
  exact ⟨((x.tmod 3 + 3) % 3).toNat, by rw [Int.tmod_eq_emod_of_nonneg (by omega)]; omega, by omega, by omega, h1, h3⟩

end Go.Proofs.Ytemembcefplgcaa
