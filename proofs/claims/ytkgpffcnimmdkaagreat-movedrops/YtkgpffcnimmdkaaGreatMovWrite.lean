import Derived.Test.YtkgpffcnimmdkaaGreatMovAwake
namespace Go.Proofs.YtkgpffcnimmdkaaGreat
open Go.RowKit
def Ph (Z c V : Nat) (val : Nat -> Int) (q : Q) : Prop :=
 (∃ st,(st = 1 \/ st = 2) /\ AtA Z c V st val q) \/ (∃ h l d,(h = 1 \/ h = 2) /\ AtB Z c V ((h : Nat) : Int) l d val q)
section
variable {wr : Bool} {Z c V r : Nat} {val : Nat -> Int} {q : Q} {yE : Y} {μ : Mv}
theorem Rn.ph {f : Nat} {v : Int} {jf jc : Nat} (h : Rn wr Z c V f val q v jf jc) : Ph Z c V val q:=by
 rcases h with ⟨hA,-⟩ | ⟨-,hA,-⟩
 · exact Or.inl ⟨2,Or.inr rfl,hA⟩
 · exact Or.inl ⟨1,Or.inl rfl,hA⟩
theorem MI.ph (h : MI wr Z c V val yE r q μ) : Ph Z c V val q:=by
 cases μ with
 | see=>exact Or.inl ⟨1,Or.inl rfl,h.1⟩
 | place=>exact Or.inl ⟨1,Or.inl rfl,h.1⟩
 | head=>exact Or.inl ⟨1,Or.inl rfl,h.1⟩
 | mark=>exact Or.inl ⟨1,Or.inl rfl,h.1⟩
 | load=>exact h.1.ph
 | freeze=>exact h.1.ph
 | copy=>exact h.1.ph
 | shw=>exact h.1.ph
 | ready=>exact Or.inr ⟨1,_,_,Or.inl rfl,h.1⟩
 | grow=>exact Or.inr ⟨2,_,_,Or.inr rfl,h.1⟩
 | fall=>exact Or.inr ⟨2,_,_,Or.inr rfl,h.1⟩
 | bury=>exact Or.inl ⟨1,Or.inl rfl,h.2.2.1⟩
 | over=>rcases h with h | h;exact Or.inr ⟨2,_,_,Or.inr rfl,h.2.1⟩;exact Or.inl ⟨1,Or.inl rfl,h.2.2⟩
structure Seen (c V : Nat) (cur v : Int) : Prop where
 wd : Wd v
 g : genOf v = 1
 s : v % 8 = 1 \/ v % 8 = 2
 a : (adOf v = base 4 8 4 20 c /\ verOf' v <= V) \/ (adOf v = base 4 8 4 20 (c + 1) /\ adOf cur = base 4 8 4 20 (c + 1))
theorem Ph.seen (h : Ph Z c V val q) : Seen c V (q.sw 0) (q.sw 0):=by
 rcases h with ⟨st,hs,hA⟩ | ⟨h,l,d,-,hB⟩
 · exact ⟨hA.sw.wd,hA.sw.g,by rw [hA.sw.s];omega,Or.inl ⟨hA.sw.a,Nat.le_of_eq hA.sw.r⟩⟩
 · exact ⟨hB.sw.wd,hB.sw.g,Or.inl hB.sw.s,Or.inr ⟨hB.sw.a,hB.sw.a⟩⟩
end
end Go.Proofs.YtkgpffcnimmdkaaGreat
