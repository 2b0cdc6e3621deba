import Derived.Test.YtlolfmoolgenpaaGreatActArgs
import Derived.Test.YtlolfmoolgenpaaGreatShapes
import Derived.Deep.Slices
namespace Go.Proofs.YtlolfmoolgenpaaGreat
open Go.ChangeShapes Go.WideShapes Go.ChangeAt Go.RowKit Go.Deep
theorem field_word {H : Type} {enc : TypeId × Value -> H} {W : World} {fs : Array Field} {fuel : Nat} {xs : List (DataW H × List MemPlace)} {cs : List Value} (i o : Nat) (f : Field)
 (hf : ∀ (i : Nat) (f : Field),fs[i]? = some f -> DataW.trod enc Tryz.prog W 0 (fun _=>true) true fuel f.type (List.take (Tryz.prog.cellsOf f.type) (List.drop f.offset cs)) = xs[i]?)
 (hl : xs.length = fs.size) (hi : fs[i]? = some f) (ho : f.offset = o) (ht : f.type = 34) (c : Value) (hc : cs[o]? = some c) : ∃ n,c = .int .u64 n /\ 0 <= n /\ n <= 18446744073709551615:=by
 have h:=hf i f hi
 have hlt : i < xs.length:=by rw [hl];exact (Array.getElem?_eq_some_iff.1 hi).1
 have c1 : Tryz.prog.cellsOf 34 = 1:=by kernel_rfl
 rw [ht,ho,c1,List.getElem?_eq_getElem hlt] at h
 obtain ⟨n,h1,_,h2⟩:=DataW.trod_int Tryz.underlying34 h
 have h3 : List.take 1 (List.drop o cs) = [c]:=by
  obtain ⟨hlo,hce⟩:=List.getElem?_eq_some_iff.1 hc
  rw [List.drop_eq_getElem_cons hlo,hce];simp
 rw [h3] at h1
 simp at h1
 exact ⟨n,h1,bounds_u64 h2⟩
theorem Tryz.cells36 : Tryz.prog.cellsOf 36 = 7:=by kernel_rfl
theorem array7 {α : Type} {cs : Array α} (h : cs.size = 7) : ∃ c0 c1 c2 c3 c4 c5 c6,cs = #[c0,c1,c2,c3,c4,c5,c6]:=by
 match cs,h with
 | ⟨[c0,c1,c2,c3,c4,c5,c6]⟩,_=>exact ⟨c0,c1,c2,c3,c4,c5,c6,rfl⟩
section
variable {H : Type} {enc : TypeId × Value -> H} {W : World} {base : Nat} {v : Value} {d : DataW H} {p : List MemPlace}
set_option maxRecDepth 100000 in
theorem shape_Act (hv : Value.okWide Tryz.prog W .any base 36 v) (h : DataW.Trod enc Tryz.prog W 0 (fun _=>true) true 36 v d p) :
 ∃ X : Xa,v = .agg #[.int .i64 X.kd,.int .i64 X.sz,.int .u64 X.nu,.int .i64 X.ix,.int .i64 X.vl,.int .i64 X.ol,.bool X.own] /\ XaFit X:=by
 obtain ⟨cs,rfl,hsz⟩:=okWide_struct Tryz.underlying36 hv
 obtain ⟨c0,c1,c2,c3,c4,c5,c6,rfl⟩:=array7 (hsz.trans Tryz.cells36)
 obtain ⟨fuel,hf⟩:=h
 obtain ⟨xs,n,_,_,_,hlen,hff⟩:=DataW.trod_struct Tryz.underlying36 hf
 obtain ⟨q0,rfl,f0⟩:=field_int 0 0 _ hff hlen rfl rfl rfl c0 rfl
 obtain ⟨q1,rfl,f1⟩:=field_int 1 1 _ hff hlen rfl rfl rfl c1 rfl
 obtain ⟨q2,rfl,f2⟩:=field_word 2 2 _ hff hlen rfl rfl rfl c2 rfl
 obtain ⟨q3,rfl,f3⟩:=field_int 3 3 _ hff hlen rfl rfl rfl c3 rfl
 obtain ⟨q4,rfl,f4⟩:=field_int 4 4 _ hff hlen rfl rfl rfl c4 rfl
 obtain ⟨q5,rfl,f5⟩:=field_int 5 5 _ hff hlen rfl rfl rfl c5 rfl
 obtain ⟨q6,rfl⟩:=field_bool 6 6 _ hff hlen rfl rfl rfl c6 rfl
 exact ⟨⟨q0,q1,q2,q3,q4,q5,q6⟩,rfl,f0,f1,f2,f3,f4,f5⟩
end
end Go.Proofs.YtlolfmoolgenpaaGreat
