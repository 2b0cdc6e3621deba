import Derived.Test.YtlolfmoolgenpaaGreatActHut
namespace Go.Proofs.YtlolfmoolgenpaaGreat
open Go.RowKit
theorem packH_wd {x G : Nat} (hx : x <= 65535) (h1 : 1 <= G) (hG : G <= 65535) : Wd (packH x G) /\ packH x G ≠ 0:=by
 rw [packH_is x G hx hG]
 exact ⟨⟨by omega,by omega⟩,by omega⟩
section
variable {t n k m nx nx' : Nat} {q q' : Q} {gen gen' : Nat -> Nat} {ls ls' : List Ox} {X : Xa} {E H V : Int}
theorem Out.gb (O : Out k X q nx gen ls E H V q' nx' gen' ls') {c : Nat} (hn : ∀ o ∈ ls,gen o.x = o.g) (h : ∀ x,gen x <= c) : ∀ x,gen' x <= c + 1:=by
 cases O with
 | gone h' l1 o l2 e =>
  intro x
  have:=hn o (by rw [e];simp)
  have:=h o.x
  unfold upd
  split
  · omega
  · have:=h x;omega
 | _=>intro x;have:=h x;omega
theorem Out.hd (O : Out k X q nx gen ls E H V q' nx' gen' ls') (C : Tame t n k m q' nx' gen' ls') (hn : n <= 65535) : (E = 0 /\ H ≠ 0 /\ Wd H) \/ (E = 0 /\ H = 0) \/ (E ≠ 0 /\ H = 0):=by
 cases O with
 | made h' hz o =>
  have K:=C.ok o (by simp)
  have:=K.x1
  obtain ⟨h1,h2⟩:=packH_wd (x:=o.x) (G:=o.g) (by omega) K.g1 K.g2
  exact Or.inl ⟨rfl,h2,h1⟩
 | size=>exact Or.inr (Or.inr ⟨by decide,rfl⟩)
 | empty=>exact Or.inr (Or.inr ⟨by decide,rfl⟩)
 | full=>exact Or.inr (Or.inr ⟨by decide,rfl⟩)
 | dead=>exact Or.inr (Or.inr ⟨by decide,rfl⟩)
 | gone=>exact Or.inr (Or.inl ⟨rfl,rfl⟩)
 | index=>exact Or.inr (Or.inr ⟨by decide,rfl⟩)
 | read=>exact Or.inr (Or.inl ⟨rfl,rfl⟩)
 | other=>exact Or.inr (Or.inr ⟨by decide,rfl⟩)
 | laid=>exact Or.inr (Or.inl ⟨rfl,rfl⟩)
end
theorem good15d : Good 1 6 8 40 100 600 3:=⟨by decide,by decide,by decide,by decide,by decide,by decide,by decide,by decide,by decide,by decide,by decide,by decide,by decide,by decide⟩
theorem may_nu {Y : Xa} (h : Y.may = true) (nu : Int) : Xa.may ⟨Y.kd,Y.sz,nu,Y.ix,Y.vl,Y.ol,Y.own⟩ = true:=h
end Go.Proofs.YtlolfmoolgenpaaGreat
