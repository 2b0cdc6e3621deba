/- A want in a block of its own, some cells of which are laid in one statement. -/
import Derived.Test.YtcdmokbamakomaaGreatAccArgs
import Derived.Test.YtcdmokbamakomaaGreatPhaseEarly
namespace Go.Proofs.YtcdmokbamakomaaGreat
open Go.RowKit

def wtL (A : Wt) : List Value := [.int .i64 A.kd, .int .u64 A.nu, .int .i64 A.ix, .int .i64 A.vl, .int .i64 A.ol]

/-- a want lies in a block -/
def WtAt (w : World) (X : Nat) (A : Wt) : Prop := ∃ cs, At w X 0 40 cs (wtL A)

namespace WtAt
variable {w w' : World} {X : Nat} {A : Wt}
theorem c0 (h : WtAt w X A) : w.cell? ⟨X, 0, none⟩ = some (.int .i64 A.kd) := by obtain ⟨cs, h⟩ := h; exact h.at0 0 rfl
theorem c1 (h : WtAt w X A) : w.cell? ⟨X, 1, none⟩ = some (.int .u64 A.nu) := by obtain ⟨cs, h⟩ := h; exact h.at0 1 rfl
theorem c2 (h : WtAt w X A) : w.cell? ⟨X, 2, none⟩ = some (.int .i64 A.ix) := by obtain ⟨cs, h⟩ := h; exact h.at0 2 rfl
theorem c3 (h : WtAt w X A) : w.cell? ⟨X, 3, none⟩ = some (.int .i64 A.vl) := by obtain ⟨cs, h⟩ := h; exact h.at0 3 rfl
theorem c4 (h : WtAt w X A) : w.cell? ⟨X, 4, none⟩ = some (.int .i64 A.ol) := by obtain ⟨cs, h⟩ := h; exact h.at0 4 rfl
theorem fz (h : WtAt w X A) (i : Nat) : w.frozen? ⟨X, i, none⟩ = false := by obtain ⟨cs, h⟩ := h; exact h.fz i
theorem grown (h : WtAt w X A) (g : Below w.heap.size w w') : WtAt w' X A := by obtain ⟨cs, h⟩ := h; exact ⟨cs, h.grown g⟩
theorem drew (h : WtAt w X A) : WtAt w.drew X A := by obtain ⟨cs, h⟩ := h; exact ⟨cs, h.drew⟩
theorem only {S : Nat → Prop} (h : WtAt w X A) (g : Only S w w') (hs : ¬ S X) : WtAt w' X A := by obtain ⟨cs, h⟩ := h; exact ⟨cs, h.only g hs⟩
theorem other (h : WtAt w X A) {k : Nat} (hk : X ≠ k) (i : Nat) (v : Value) : WtAt (w.setCell ⟨k, i, none⟩ v) X A := by obtain ⟨cs, h⟩ := h; exact ⟨cs, h.other hk i v⟩
theorem set0 (h : WtAt w X A) (v : Int) : WtAt (w.setCell ⟨X, 0, none⟩ (.int .i64 v)) X { A with kd := v } := by obtain ⟨cs, h⟩ := h; exact ⟨_, h.put0 0 _⟩
theorem set1 (h : WtAt w X A) (v : Int) : WtAt (w.setCell ⟨X, 1, none⟩ (.int .u64 v)) X { A with nu := v } := by obtain ⟨cs, h⟩ := h; exact ⟨_, h.put0 1 _⟩
theorem set3 (h : WtAt w X A) (v : Int) : WtAt (w.setCell ⟨X, 3, none⟩ (.int .i64 v)) X { A with vl := v } := by obtain ⟨cs, h⟩ := h; exact ⟨_, h.put0 3 _⟩
theorem set4 (h : WtAt w X A) (v : Int) : WtAt (w.setCell ⟨X, 4, none⟩ (.int .i64 v)) X { A with ol := v } := by obtain ⟨cs, h⟩ := h; exact ⟨_, h.put0 4 _⟩
end WtAt

theorem wt_new (w : World) (A : Wt) : WtAt (w.alloc (.cells #[.int .i64 A.kd, .int .u64 A.nu, .int .i64 A.ix, .int .i64 A.vl, .int .i64 A.ol] 40)) w.heap.size A := ⟨_, At.new w 40 (wtL A)⟩

/-- a want, while some of its cells are laid, one behind the other -/
def phW (X : Nat) (As : List Wt) (p : Nat) (w : World) : Prop := ∃ A, As[p]? = some A ∧ WtAt w X A

theorem phW_grown {X : Nat} {As : List Wt} (x y : World) (p : Nat) (g : Grown x y) (h : phW X As p x) : phW X As p y := by
  obtain ⟨A, e, h⟩ := h
  exact ⟨A, e, h.grown g⟩

theorem only_set {X : Nat} (w : World) (i : Nat) (v : Value) : Only (fun b => b = X) w (w.setCell ⟨X, i, none⟩ v) := (Only.refl (fun b => b = X) w).setCell (a := ⟨X, i, none⟩) (fun _ => rfl) v

section
variable {w0 w w' : World} {L : Loc} {bE t n k m σ nx : Nat} {s : Mm} {q : Q} {gen : Nat → Nat} {ls : List Ox} {cg : Int} {X : Nat}

theorem below_block (h : Below w0.heap.size w0 w) (o : Only (fun b => b = X) w w') (h0 : w0.heap.size ≤ X) : Below w0.heap.size w0 w' :=
  ⟨o.os.trans h.os, o.tape.trans h.tape, o.output.trans h.output, Nat.le_trans h.size o.size, fun k hk => (o.block k (Nat.lt_of_lt_of_le hk h.size) (fun hh => by have hh' : k = X := hh; omega)).trans (h.block k hk)⟩

theorem Spt.block (f : Spt w0 w L bE t n k m s σ q) (o : Only (fun b => b = X) w w') (h0 : w0.heap.size ≤ X) (hE : bE ≠ X) (hL : ¬ L.has X) : Spt w0 w' L bE t n k m s σ q :=
  ⟨f.mm.and hL o, f.tw, f.v.only o hE, below_block f.b o h0⟩

end

end Go.Proofs.YtcdmokbamakomaaGreat
