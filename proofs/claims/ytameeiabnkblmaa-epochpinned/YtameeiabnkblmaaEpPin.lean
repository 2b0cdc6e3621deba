/- A thread that pins, alone, in a statement's arena. -/
import Derived.Test.YtameeiabnkblmaaEpLaw
import Derived.Test.YtameeiabnkblmaaPinStepS
namespace Go.Proofs.Ytameeiabnkblmaa
open Go.RowKit

/-- what is known behind so many of its steps -/
def PinI (who : Nat) (s0 s : Mm) (j : Nat) (nx ep : Int) : Prop :=
  s.n = s0.n ∧ nx = (j : Int) ∧ ((j = 0 ∧ s.wd = s0.wd) ∨ (j = 1 ∧ ep = s0.wd 0 ∧ s.wd = s0.wd) ∨ (j = 2 ∧ ep = s0.wd 0 ∧ s.wd = upd s0.wd (6 + who) (sum64 (s0.wd 0) 1)))

/-- the memory when it is pinned -/
def Pinned (who : Nat) (s0 s : Mm) : Prop := s.n = s0.n ∧ s.wd = upd s0.wd (6 + who) (sum64 (s0.wd 0) 1)

theorem pin_turn {who : Nat} {s0 s s' : Mm} {j : Nat} {nx ep nx' ep' : Int} {d : Bool} (h : PinI who s0 s j nx ep) (hp : PinStep who s nx ep s' nx' ep' d) :
    (j < 2 ∧ d = false ∧ PinI who s0 s' (j + 1) nx' ep') ∨ (j = 2 ∧ d = true ∧ Pinned who s0 s') := by
  obtain ⟨hn, hx, hc⟩ := h
  have ld : ∀ a, ((s.by who).step a (s.wd a)).wd = s.wd := fun a => upd_id _ _
  cases hp with
  | load =>
    rcases hc with ⟨rfl, hw⟩ | ⟨rfl, -⟩ | ⟨rfl, -⟩
    · exact Or.inl ⟨by omega, rfl, hn, rfl, Or.inr (Or.inl ⟨rfl, by rw [hw], (ld 0).trans hw⟩)⟩
    · omega
    · omega
  | lay =>
    rcases hc with ⟨rfl, -⟩ | ⟨rfl, he, hw⟩ | ⟨rfl, -⟩
    · omega
    · refine Or.inl ⟨by omega, rfl, hn, rfl, Or.inr (Or.inr ⟨rfl, he, ?_⟩)⟩
      show upd s.wd (6 + who) (sum64 ep 1) = _
      rw [hw, he]
    · omega
  | same =>
    rcases hc with ⟨rfl, -⟩ | ⟨rfl, -⟩ | ⟨rfl, -, hw⟩
    · omega
    · omega
    · exact Or.inr ⟨rfl, rfl, hn, (ld 0).trans hw⟩
  | other _ hne =>
    rcases hc with ⟨rfl, -⟩ | ⟨rfl, -⟩ | ⟨rfl, he, hw⟩
    · omega
    · omega
    · refine absurd ?_ hne
      rw [he, hw, upd_other _ _ _ _ (by omega)]

/-- a thread that pins, in a block of its own -/
structure Pn (w0 w : World) (L : Loc) (E X t n k m who : Nat) (s0 : Mm) (j : Nat) : Prop where
  ex : ∃ s c nx ep, Gd w0 w L E t n k m who s ∧ InAt w X 0 42 c nx ep ∧ PinI who s0 s j nx ep
  nx : ¬ L.has X
  ne : E ≠ X
  x0 : w0.heap.size ≤ X

namespace Pn
variable {w0 w w' : World} {L : Loc} {E X t n k m who : Nat} {s0 : Mm} {j : Nat}

theorem le (h : Pn w0 w L E X t n k m who s0 j) : j ≤ 2 := by
  obtain ⟨s, c, nx, ep, g, i, p⟩ := h.ex
  rcases p.2.2 with ⟨rfl, -⟩ | ⟨rfl, -⟩ | ⟨rfl, -⟩ <;> omega

theorem v (h : Pn w0 w L E X t n k m who s0 j) : BoxV w E t n k m 100 600 3 L.p who := by
  obtain ⟨s, c, nx, ep, g, i, p⟩ := h.ex
  exact g.v

theorem start {s : Mm} (h : Gd w0 w L E t n k m who s) : Pn w0 (w.alloc (.cells #[.int .i64 0, .int .u64 0] 42)) L E w.heap.size t n k m who s 0 :=
  ⟨⟨s, _, 0, 0, h.grown (gro1 _ _), ⟨Go.Deep.blk_alloc_new _ _, rfl, rfl⟩, rfl, rfl, Or.inl ⟨rfl, rfl⟩⟩, fun hh => by have := h.mm.lt _ hh; omega, fun e => by have := h.lt; omega, h.b.size⟩

theorem startAs {who0 : Int} {s : Mm} (h : Gd w0 w L E t n k m who0 s) (who : Nat) : Pn w0 ((w.alloc (.cells #[.int .i64 0, .int .u64 0] 42)).setCell ⟨E, 8, none⟩ (.int .i64 who)) L E w.heap.size t n k m who s 0 := by
  have hne : E ≠ w.heap.size := fun e => by have := h.lt; omega
  refine ⟨⟨s, _, 0, 0, (h.grown (gro1 _ _)).who_ who, ⟨(Go.Deep.blk_setCell_other _ _ _ _ (by simpa using hne.symm)).trans (Go.Deep.blk_alloc_new _ _), rfl, rfl⟩, rfl, rfl, Or.inl ⟨rfl, rfl⟩⟩, fun hh => by have := h.mm.lt _ hh; omega, hne, h.b.size⟩

theorem step (h : Pn w0 w L E X t n k m who s0 j) (hw : who < t) (ht : t ≤ 8) (hn : 6 + who < s0.n) (x : Bool) (hx : x = decide (j = 2)) :
    Calls Try.prog 15 #[.pointer (some ⟨X, 0, none⟩), .agg #[.int .i64 t, .int .i64 n, .int .i64 k, .int .i64 m, .int .i64 100, .int .i64 600, .int .i64 3, .pointer (some ⟨L.p, 0, none⟩), .int .i64 who]] w fun e w' => e = .returned (.bool x) ∧
      (x = false → Pn w0 w' L E X t n k m who s0 (j + 1)) ∧ (x = true → ∃ s', Gd w0 w' L E t n k m who s' ∧ Pinned who s0 s') := by
  have hj := h.le
  obtain ⟨s, c, nx, ep, g, i, p⟩ := h.ex
  refine (step_pin g.mm h.nx i (by have := p.2.1; omega) t n k m 100 600 3 who (by rw [p.1]; exact hn) (by omega) (by omega)).mono ?_
  rintro e w' ⟨d, s', c', nx', ep', rfl, hp, m2, i2, -, o2⟩
  have g2 := g.and o2 m2 h.ne h.x0
  rcases pin_turn p hp with ⟨h2, rfl, q⟩ | ⟨h2, rfl, q⟩
  · have : x = false := by rw [hx]; exact decide_eq_false (by omega)
    subst this
    exact ⟨rfl, fun _ => ⟨⟨s', c', nx', ep', g2, i2, q⟩, h.nx, h.ne, h.x0⟩, fun e => by cases e⟩
  · have : x = true := by rw [hx]; exact decide_eq_true h2
    subst this
    exact ⟨rfl, (fun e => by cases e), fun _ => ⟨s', g2, q⟩⟩
end Pn

/-- who lets its pin go, in a statement's arena -/
theorem Gd.out {w0 w : World} {L : Loc} {E t n k m who : Nat} {s : Mm} (h : Gd w0 w L E t n k m who s) (hw : who < t) (ht : t ≤ 8) (hn : 6 + who < s.n) :
    Calls Try.prog 16 #[.agg #[], .agg #[.int .i64 t, .int .i64 n, .int .i64 k, .int .i64 m, .int .i64 100, .int .i64 600, .int .i64 3, .pointer (some ⟨L.p, 0, none⟩), .int .i64 who]] w fun e w' => e = .returned (.bool true) ∧ Gd w0 w' L E t n k m who ((s.by who).step (6 + who) 0) := by
  refine (out_any h.mm t n k m 100 600 3 who hn (by omega) (by omega)).mono ?_
  rintro e w' ⟨rfl, m2, o2⟩
  exact ⟨rfl, h.mem o2 m2⟩

end Go.Proofs.Ytameeiabnkblmaa
