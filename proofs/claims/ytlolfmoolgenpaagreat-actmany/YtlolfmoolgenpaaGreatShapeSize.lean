import Derived.Test.YtlolfmoolgenpaaGreatShapeInts
import Derived.SizedLaws
namespace Go.Proofs.YtlolfmoolgenpaaGreat
open Go.ChangeShapes Go.WideShapes Go.ChangeAt Go.RowKit
set_option maxRecDepth 20000 in
theorem ints_len {H : Type} {enc : TypeId × Value -> H} {W : World} {ao : Option Addr} {n cap : Nat} {d : DataW H} {p : List MemPlace} (h : DataW.Trod enc Tryz.prog W 0 (fun _=>true) true 43 (.slice ao n cap) d p) :
 n = 0 \/ ∃ el sp,d = .slice el sp /\ el.length = n:=by
 obtain ⟨fuel,hf⟩:=h
 rcases open_ints Tryz.underlying43 Tryz.underlying3 Tryz.cells3 hf with ⟨hcs,_⟩ | ⟨a,len',cap',zs,hcs,_,hl,hm,hz,hx,hcell,hwz⟩
 · simp [Value.cells] at hcs
   obtain ⟨rfl,rfl,rfl⟩:=hcs
   exact Or.inl rfl
 · simp [Value.cells] at hcs
   obtain ⟨rfl,rfl,rfl⟩:=hcs
   simp only [if_pos] at hz
   obtain ⟨rfl,-⟩:=Prod.mk.inj hx
   refine Or.inr ⟨_,_,rfl,?_⟩
   simp only [lits,List.length_map,List.length_take]
   omega
end Go.Proofs.YtlolfmoolgenpaaGreat
