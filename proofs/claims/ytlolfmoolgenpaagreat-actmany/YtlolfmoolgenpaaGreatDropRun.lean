import Derived.Test.YtlolfmoolgenpaaGreatDropTown
namespace Go.Proofs.YtlolfmoolgenpaaGreat
open Go.RowKit
theorem hpTurn_wd {cg : Int} {x : Nat} {q : Q} {η : Hp} {q' : Q} {η' : Hp} (h : ∀ a,Wd (q.dw a)) (ht : hpTurn cg x q η = (q',η')) : ∀ a,Wd (q'.dw a):=by
 have e : ∀ v,hpEnd cg x q v = (q',η') -> ∀ a,Wd (q'.dw a):=by
  intro v hv
  unfold hpEnd at hv
  split at hv <;> (obtain ⟨rfl,-⟩:=Prod.mk.inj hv;exact h)
 cases η with
 | over=>obtain ⟨rfl,-⟩:=Prod.mk.inj ht;exact h
 | go v Z j u =>
  cases u with
  | none =>
   simp only [hpTurn] at ht
   split at ht
   · exact e v ht
   · split at ht <;> (obtain ⟨rfl,-⟩:=Prod.mk.inj ht;exact h)
  | some u =>
   simp only [hpTurn] at ht
   split at ht
   · exact e v ht
   · split at ht
     · obtain ⟨rfl,-⟩:=Prod.mk.inj ht
       intro a
       show Wd (upd q.dw _ _ a)
       unfold upd
       split
       · exact froze_wd _ _
       · exact h a
     · obtain ⟨rfl,-⟩:=Prod.mk.inj ht;exact h
theorem dpTurn_wd {t n k m : Nat} {cg : Int} {own : Bool} {x G : Nat} {q : Q} {α : Dp} {q' : Q} {α' : Dp} (h : ∀ a,Wd (q.dw a)) (ht : dpTurn t n k m cg own x G q α = (q',α')) : ∀ a,Wd (q'.dw a):=by
 cases α with
 | see=>obtain ⟨rfl,-⟩:=Prod.mk.inj ht;exact h
 | ask v=>obtain ⟨rfl,-⟩:=Prod.mk.inj ht;exact h
 | mark v Z =>
  simp only [dpTurn] at ht
  split at ht <;> (obtain ⟨rfl,-⟩:=Prod.mk.inj ht;exact h)
 | help η =>
  obtain ⟨q1,η1,h1⟩ : ∃ q1 η1,hpTurn cg x q η = (q1,η1):=⟨_,_,rfl⟩
  simp only [dpTurn,h1] at ht
  have:=hpTurn_wd h h1
  cases η1 <;> (simp only [dpHelp] at ht;obtain ⟨rfl,-⟩:=Prod.mk.inj ht;exact this)
 | fin Z i η =>
  obtain ⟨q1,η1,h1⟩ : ∃ q1 η1,hpTurn cg x q η = (q1,η1):=⟨_,_,rfl⟩
  simp only [dpTurn,h1] at ht
  have:=hpTurn_wd h h1
  cases η1 <;> (simp only [dpFin] at ht;obtain ⟨rfl,-⟩:=Prod.mk.inj ht;exact this)
 | count Z i=>obtain ⟨rfl,-⟩:=Prod.mk.inj ht;exact h
 | give γ =>
  obtain ⟨c',lk',F',γ',h1⟩ : ∃ c' lk' F' γ',gvTurn q.c q.lk q.F x γ = (c',lk',F',γ'):=⟨_,_,_,_,rfl⟩
  simp only [dpTurn,h1] at ht
  cases γ' <;> (simp only [dpGive] at ht;obtain ⟨rfl,-⟩:=Prod.mk.inj ht;exact h)
 | over=>obtain ⟨rfl,-⟩:=Prod.mk.inj ht;exact h
inductive DReads (t n k m : Nat) (cg : Int) (own : Bool) (x G : Nat) : Nat -> Q -> Dp -> Q -> Dp -> Prop where
 | one {q : Q} {α : Dp} {q' : Q} {α' : Dp} (ho : α.over? = false) (hr : α.reads = true) (hg : α.good t n k m x G q) (ht : dpTurn t n k m cg own x G q α = (q',α')) (h : α'.over? = true) : DReads t n k m cg own x G 1 q α q' α'
 | more {N : Nat} {q : Q} {α : Dp} {q1 : Q} {α1 : Dp} {q' : Q} {α' : Dp} (ho : α.over? = false) (hr : α.reads = true) (hg : α.good t n k m x G q) (ht : dpTurn t n k m cg own x G q α = (q1,α1)) (h : α1.over? = false) (g : DReads t n k m cg own x G N q1 α1 q' α') : DReads t n k m cg own x G (N + 1) q α q' α'
section
variable {w : World} {L : Loc} {t n k m σ : Nat} {s : Mm} {q : Q} {nu : Int} {own : Bool}
end
end Go.Proofs.YtlolfmoolgenpaaGreat
