/- One who moves, whatever is known of the object: a step of it, where all lies in the statements. -/
import Derived.Test.YtkgpffcnimmdkabGreatMovAwake
namespace Go.Proofs.YtkgpffcnimmdkabGreat
open Go.RowKit

structure ScV (w0 W : World) (L : Loc) (E H M Z : Nat) (s : Mm) (σ : Nat) (q : Q) (Wm : Mw) (μ : Mv) : Prop where
  sc : Sc w0 W L E H Z s σ q
  mv : ∃ cs a, MvAt W M 0 82 cs a ∧ MvIs Wm μ a
  pg : μ.pg 4 20 Wm.κ σ

section
variable {w0 W W' : World} {L : Loc} {E H M Z σ : Nat} {s : Mm} {q : Q} {Wm : Mw} {μ : Mv}

theorem ScM.free {wr : Bool} {c V r : Nat} {val : Nat → Int} {yE : Y} (f : ScM w0 W L E H M Z s σ q wr c V val yE r μ) : ScV w0 W L E H M Z s σ q (mw Z c) μ := ⟨f.sc, f.mv, f.pg⟩
theorem ScV.grown (f : ScV w0 W L E H M Z s σ q Wm μ) (g : Below W.heap.size W W') : ScV w0 W' L E H M Z s σ q Wm μ := ⟨f.sc.grown g, by obtain ⟨cs, a, h, k⟩ := f.mv; exact ⟨cs, a, h.grown g, k⟩, f.pg⟩
theorem ScV.step (f : ScV w0 W L E H M Z s σ q Wm μ) (A : ScMA w0 L E H M) (hσ : σ < 1000000) (hdw : ∀ a, Wd (q.dw a)) (hW : Wm.ok 4 8 4 20) (htr : Wm.tr = 3) (gd : μ.good 4 8 4 20 σ Wm q) (ho : μ.over? = false) {q' : Q} {μ' : Mv} (ht : mvTurn Wm 4 20 (base 4 8 4 20) q μ = (q', μ')) (d : Bool) (hd : μ'.over? = d) :
    Calls Tryz.prog 9 #[.pointer (some ⟨M, 0, none⟩), .agg #[.int .i64 4, .int .i64 8, .int .i64 4, .int .i64 20, .int .i64 100, .int .i64 600, .int .i64 3, .pointer (some ⟨L.p, 0, none⟩), .int .i64 0]] W fun e w' => e = .returned (.bool d) ∧ ∃ s', ScV w0 w' L E H M Z s' (σ + 1) q' Wm μ' ∧ Only (L.and M) W w' ∧ ∃ v, s' = (s.by 0).step (μ.at 4 8 Wm) v := by
  obtain ⟨cs, a, mv, is⟩ := f.mv
  have k := move_step f.sc.sp.mm A.ml f.sc.sp.tw good11 hσ hdw hW htr μ mv is gd ho 0 q' μ' ht d hd
  refine k.mono ?_
  rintro e w' ⟨rfl, s', cs', a', D⟩
  exact ⟨rfl, s', ⟨⟨⟨D.mm, D.tw, f.sc.sp.v.only D.only (fun h => h.elim A.sa.fa.e (fun e => A.em e)), below_and f.sc.sp.b D.only A.sa.fa.l0 A.m0⟩, f.sc.hd.imp fun _ h => h.only D.only (fun h => h.elim A.sa.hl (fun e => A.hm e))⟩, ⟨cs', a', D.mv, D.is⟩, D.pg⟩, D.only, D.st⟩

theorem ScV.out {o : Int} {τ : Pl} (f : ScV w0 W L E H M Z s σ q Wm (.over o τ)) :
    Calls Tryz.prog 13 #[.pointer (some ⟨M, 0, none⟩)] W fun e w' => e = .returned (.int .i64 o) ∧ w' = W := by
  obtain ⟨cs, a, mv, is⟩ := f.mv
  have k := mout_over mv is.nx
  rw [show a.ou = o from is.sec] at k
  exact k
theorem ScV.spot (f : ScV w0 W L E H M Z s σ q Wm μ) {A i : Nat} {d : Bool} (ht : μ.pl.told = (A, i, d)) :
    Calls Tryz.prog 11 #[.pointer (some ⟨M, 0, none⟩)] W fun e w' => e = .returned (.tuple #[.agg #[.int .i64 A, .int .i64 i], .bool d]) ∧ Below W.heap.size W w' := by
  obtain ⟨cs, a, mv, is⟩ := f.mv
  exact mspot_any mv is.pl ht
end

end Go.Proofs.YtkgpffcnimmdkabGreat
