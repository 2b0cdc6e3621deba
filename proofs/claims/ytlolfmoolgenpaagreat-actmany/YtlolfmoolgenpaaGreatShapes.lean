import Derived.Test.YtlolfmoolgenpaaGreatRows
import Derived.Test.YtlolfmoolgenpaaGreatLay
import Derived.ProofKit
import Derived.OpenShut
import Derived.ChangeOld
namespace Go.Proofs.YtlolfmoolgenpaaGreat
open Go.ChangeShapes Go.WideShapes Go.ChangeAt Go.RowKit
theorem own : ownKnob Tryz.prog.godebug = none:=by kernel_rfl
theorem laidOut : laidOutB Tryz.prog = true:=by kernel_rfl
section
variable {H : Type} {enc : TypeId × Value -> H} {W : World} {base : Nat} {v : Value} {d : DataW H} {p : List MemPlace}
theorem Tryz.cells3 : Tryz.prog.cellsOf 3 = 1:=by kernel_rfl
theorem Tryz.cells4 : Tryz.prog.cellsOf 4 = 1:=by kernel_rfl
theorem field_int {fs : Array Field} {fuel : Nat} {xs : List (DataW H × List MemPlace)} {cs : List Value} (i o : Nat) (f : Field)
 (hf : ∀ (i : Nat) (f : Field),fs[i]? = some f -> DataW.trod enc Tryz.prog W 0 (fun _=>true) true fuel f.type (List.take (Tryz.prog.cellsOf f.type) (List.drop f.offset cs)) = xs[i]?)
 (hl : xs.length = fs.size) (hi : fs[i]? = some f) (ho : f.offset = o) (ht : f.type = 3) (c : Value) (hc : cs[o]? = some c) : ∃ n,c = .int .i64 n /\ Fit n:=by
 have h:=hf i f hi
 have hlt : i < xs.length:=by rw [hl];exact (Array.getElem?_eq_some_iff.1 hi).1
 rw [ht,ho,Tryz.cells3,List.getElem?_eq_getElem hlt] at h
 obtain ⟨n,h1,_,h2⟩:=DataW.trod_int Tryz.underlying3 h
 have h3 : List.take 1 (List.drop o cs) = [c]:=by
  obtain ⟨hlo,hce⟩:=List.getElem?_eq_some_iff.1 hc
  rw [List.drop_eq_getElem_cons hlo,hce];simp
 rw [h3] at h1
 simp at h1
 exact ⟨n,h1,bounds_i64 h2⟩
theorem field_bool {fs : Array Field} {fuel : Nat} {xs : List (DataW H × List MemPlace)} {cs : List Value} (i o : Nat) (f : Field)
 (hf : ∀ (i : Nat) (f : Field),fs[i]? = some f -> DataW.trod enc Tryz.prog W 0 (fun _=>true) true fuel f.type (List.take (Tryz.prog.cellsOf f.type) (List.drop f.offset cs)) = xs[i]?)
 (hl : xs.length = fs.size) (hi : fs[i]? = some f) (ho : f.offset = o) (ht : f.type = 4) (c : Value) (hc : cs[o]? = some c) : ∃ b,c = .bool b:=by
 have h:=hf i f hi
 have hlt : i < xs.length:=by rw [hl];exact (Array.getElem?_eq_some_iff.1 hi).1
 rw [ht,ho,Tryz.cells4,List.getElem?_eq_getElem hlt] at h
 obtain ⟨b,h1,_⟩:=DataW.trod_bool Tryz.underlying4 h
 have h3 : List.take 1 (List.drop o cs) = [c]:=by
  obtain ⟨hlo,hce⟩:=List.getElem?_eq_some_iff.1 hc
  rw [List.drop_eq_getElem_cons hlo,hce];simp
 rw [h3] at h1
 simp at h1
 exact ⟨b,h1⟩
end
end Go.Proofs.YtlolfmoolgenpaaGreat
