import Derived.Test.YtpbghmeikcphnaaGreatAbb
import Derived.Test.YtpbghmeikcphnaaGreatRows
import Derived.Test.YtpbghmeikcphnaaGreatLstChain
import Derived.ProofKit
import Derived.OpenShut
import Derived.ChangeOld
namespace Go.Proofs.YtpbghmeikcphnaaGreat
open Go.RowKit
section
open Go.ChangeShapes Go.WideShapes Go.ChangeAt Go.RowKit
theorem own : ownKnob Tryz.prog.godebug = none:=by kernel_rfl
theorem laidOut : laidOutB Tryz.prog = true:=by kernel_rfl
section
variable {H : Type} {enc : TypeId × Value -> H} {W : World} {base : Nat} {v : Value} {d : DataW H} {p : List MemPlace}
theorem array2 {α : Type} {cs : Array α} (h : cs.size = 2) : ∃ c0 c1,cs = #[c0,c1]:=by
 obtain ⟨l⟩:=cs
 match l,h with
 | [c0,c1],_=>exact ⟨c0,c1,rfl⟩
theorem Tryz.cells4 : Tryz.prog.cellsOf 4 = 1:=by kernel_rfl
theorem JS {fs : Array Field} {fuel : Nat} {xs : List (DataW H × List MemPlace)} {cs : List Value} (i o : Nat) (f : Field)
 (hf : ∀ (i : Nat) (f : Field),fs[i]? = some f -> DataW.trod enc Tryz.prog W 0 (fun _=>true) true fuel f.type (List.take (Tryz.prog.cellsOf f.type) (List.drop f.offset cs)) = xs[i]?)
 (hl : xs.length = fs.size) (hi : fs[i]? = some f) (ho : f.offset = o) (ht : f.type = 4) (c : Value) (hc : cs[o]? = some c) : ∃ b,c = .bool b:=by
 have h:=hf i f hi
 have hlt : i < xs.length:=by rw [hl];exact (Array.getElem?_eq_some_iff.1 hi).1
 rw [ht,ho,Tryz.cells4,List.getElem?_eq_getElem hlt] at h
 obtain ⟨b,h1,_⟩:=DataW.trod_bool Tryz.underlying4 h
 have h3 : List.take 1 (List.drop o cs) = [c]:=by
  obtain ⟨hlo,hce⟩:=List.getElem?_eq_some_iff.1 hc
  rw [List.drop_eq_getElem_cons hlo,hce];simp
 rw [h3] at h1
 simp at h1
 exact ⟨b,h1⟩
set_option maxRecDepth 20000 in
theorem Hy (hv : Value.okWide Tryz.prog W .any base 3 v) (h : DataW.Trod enc Tryz.prog W 0 (fun _=>true) true 3 v d p) : ∃ n,v = iV n /\ Fit n:=by
 obtain ⟨n,rfl,_,_,w0⟩:=open_int Tryz.underlying3 hv h
 exact ⟨n,rfl,bounds_i64 w0⟩
end
end
section
open Go.ChangeShapes Go.WideShapes Go.ChangeAt Go.RowKit
theorem JU {H : Type} {enc : TypeId × Value -> H} {W : World} {fs : Array Field} {fuel : Nat} {xs : List (DataW H × List MemPlace)} {cs : List Value} (i o : Nat) (f : Field)
 (hf : ∀ (i : Nat) (f : Field),fs[i]? = some f -> DataW.trod enc Tryz.prog W 0 (fun _=>true) true fuel f.type (List.take (Tryz.prog.cellsOf f.type) (List.drop f.offset cs)) = xs[i]?)
 (hl : xs.length = fs.size) (hi : fs[i]? = some f) (ho : f.offset = o) (ht : f.type = 28) (c : Value) (hc : cs[o]? = some c) : ∃ n,c = .int .u64 n /\ 0 <= n /\ n <= 18446744073709551615:=by
 have h:=hf i f hi
 have hlt : i < xs.length:=by rw [hl];exact (Array.getElem?_eq_some_iff.1 hi).1
 have c1 : Tryz.prog.cellsOf 28 = 1:=by kernel_rfl
 rw [ht,ho,c1,List.getElem?_eq_getElem hlt] at h
 obtain ⟨n,h1,_,h2⟩:=DataW.trod_int Tryz.underlying28 h
 have h3 : List.take 1 (List.drop o cs) = [c]:=by
  obtain ⟨hlo,hce⟩:=List.getElem?_eq_some_iff.1 hc
  rw [List.drop_eq_getElem_cons hlo,hce];simp
 rw [h3] at h1
 simp at h1
 exact ⟨n,h1,bounds_u64 h2⟩
theorem Tryz.cells59 : Tryz.prog.cellsOf 59 = 2:=by kernel_rfl
set_option maxRecDepth 100000 in
theorem Lm {H : Type} {enc : TypeId × Value -> H} {W : World} {base : Nat} {v : Value} {d : DataW H} {p : List MemPlace} (hv : Value.okWide Tryz.prog W .any base 59 v) (h : DataW.Trod enc Tryz.prog W 0 (fun _=>true) true 59 v d p) :
 ∃ a b,v = .agg #[.int .u64 a,.bool b] /\ 0 <= a /\ a <= 18446744073709551615:=by
 obtain ⟨cs,rfl,hsz⟩:=okWide_struct Tryz.underlying59 hv
 obtain ⟨c0,c1,rfl⟩:=array2 (hsz.trans Tryz.cells59)
 obtain ⟨fuel,hf⟩:=h
 obtain ⟨xs,n,_,_,_,hlen,qZ⟩:=DataW.trod_struct Tryz.underlying59 hf
 obtain ⟨a,rfl,fa⟩:=JU 0 0 _ qZ hlen rfl rfl rfl c0 rfl
 obtain ⟨b,rfl⟩:=JS 1 1 _ qZ hlen rfl rfl rfl c1 rfl
 exact ⟨a,b,rfl,fa⟩
end
end Go.Proofs.YtpbghmeikcphnaaGreat
