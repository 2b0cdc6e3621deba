import Derived.Test.YtlolfmoolgenpaaGreatActArgs
import Derived.Test.YtlolfmoolgenpaaGreatShapes
import Derived.Deep.Slices
namespace Go.Proofs.YtlolfmoolgenpaaGreat
open Go.ChangeShapes Go.WideShapes Go.ChangeAt Go.RowKit Go.Deep
theorem field_word {H : Type} {enc : TypeId × Value -> H} {W : World} {fs : Array Field} {fuel : Nat} {xs : List (DataW H × List MemPlace)} {cs : List Value} (i o : Nat) (f : Field)
 (hf : ∀ (i : Nat) (f : Field),fs[i]? = some f -> DataW.trod enc Tryz.prog W 0 (fun _=>true) true fuel f.type (List.take (Tryz.prog.cellsOf f.type) (List.drop f.offset cs)) = xs[i]?)
 (hl : xs.length = fs.size) (hi : fs[i]? = some f) (ho : f.offset = o) (ht : f.type = 34) (c : Value) (hc : cs[o]? = some c) : ∃ n,c = .int .u64 n /\ 0 <= n /\ n <= 18446744073709551615:=by
 have h:=hf i f hi
 have hlt : i < xs.length:=by rw [hl];exact (Array.getElem?_eq_some_iff.1 hi).1
 have c1 : Tryz.prog.cellsOf 34 = 1:=by kernel_rfl
 rw [ht,ho,c1,List.getElem?_eq_getElem hlt] at h
 obtain ⟨n,h1,_,h2⟩:=DataW.trod_int Tryz.underlying34 h
 have h3 : List.take 1 (List.drop o cs) = [c]:=by
  obtain ⟨hlo,hce⟩:=List.getElem?_eq_some_iff.1 hc
  rw [List.drop_eq_getElem_cons hlo,hce];simp
 rw [h3] at h1
 simp at h1
 exact ⟨n,h1,bounds_u64 h2⟩
theorem Tryz.cells36 : Tryz.prog.cellsOf 36 = 7:=by kernel_rfl
section
variable {H : Type} {enc : TypeId × Value -> H} {W : World} {base : Nat} {v : Value} {d : DataW H} {p : List MemPlace}
theorem addr_add15 {a : Addr} (h : a.spot = none) (j : Nat) : a.add j = ⟨a.block,a.off + j,none⟩:=by
 cases j with
 | zero=>obtain ⟨b,o,s⟩:=a;simp at h;subst h;simp [Addr.add]
 | succ n=>rw [Addr.add_succ']
theorem list7 {α : Type} {cs : List α} (h : cs.length = 7) : ∃ c0 c1 c2 c3 c4 c5 c6,cs = [c0,c1,c2,c3,c4,c5,c6]:=by
 match cs,h with
 | [c0,c1,c2,c3,c4,c5,c6],_=>exact ⟨c0,c1,c2,c3,c4,c5,c6,rfl⟩
set_option maxRecDepth 100000 in
theorem shape_Acts (hv : Value.okWide Tryz.prog W .any base 22 v) (h : DataW.Trod enc Tryz.prog W 0 (fun _=>true) true 22 v d p) :
 ∃ ao n cap A,v = .slice ao n cap /\ XasAt W ao n A /\ n <= 9223372036854775807 /\ ∀ i,i < n -> XaFit (A i):=by
 obtain ⟨a0,len,cap,rfl⟩:=okWide_slice Tryz.underlying22 hv
 obtain ⟨fuel,hf⟩:=h
 rcases open_slice Tryz.underlying22 hf with ⟨hcs,_⟩ | ⟨a,len',cap',m,n,D,Pl,hcs,_,hl,hm,hmm,_,hx⟩
 · simp [Value.cells] at hcs
   obtain ⟨rfl,rfl,rfl⟩:=hcs
   exact ⟨none,0,0,fun _=>⟨0,0,0,0,0,0,false⟩,rfl,fun i hi=>by omega,by omega,fun i hi=>by omega⟩
 · simp [Value.cells] at hcs
   obtain ⟨rfl,rfl,rfl⟩:=hcs
   simp only [if_pos] at hmm
   subst hmm
   rw [Tryz.cells36] at hx
   have each : ∀ i,i < len -> ∃ q : Xa,XaFit q /\ a.spot = none /\ W.cell? ⟨a.block,a.off + i * 7,none⟩ = some (.int .i64 q.kd) /\ W.cell? ⟨a.block,a.off + i * 7 + 1,none⟩ = some (.int .i64 q.sz) /\ W.cell? ⟨a.block,a.off + i * 7 + 2,none⟩ = some (.int .u64 q.nu) /\ W.cell? ⟨a.block,a.off + i * 7 + 3,none⟩ = some (.int .i64 q.ix) /\ W.cell? ⟨a.block,a.off + i * 7 + 4,none⟩ = some (.int .i64 q.vl) /\ W.cell? ⟨a.block,a.off + i * 7 + 5,none⟩ = some (.int .i64 q.ol) /\ W.cell? ⟨a.block,a.off + i * 7 + 6,none⟩ = some (.bool q.own):=by
    have hs : 0 < len -> a.spot = none:=by
     intro h0
     obtain ⟨cs',h1,_⟩:=hx 0 (by omega)
     obtain ⟨_,hlen,hc⟩:=World.cells?_some h1
     obtain ⟨c0,c1,c2,c3,c4,c5,c6,rfl⟩:=list7 hlen
     have:=hc 0 (by omega)
     simp only [Nat.zero_mul] at this
     have:=World.cell?_spot this
     simpa [Addr.add] using this
    intro i hi
    have hsp:=hs (by omega)
    obtain ⟨cs',h1,h2⟩:=hx i (by omega)
    obtain ⟨_,hlen,hc⟩:=World.cells?_some h1
    obtain ⟨c0,c1,c2,c3,c4,c5,c6,rfl⟩:=list7 hlen
    obtain ⟨xs,n',_,_,_,hlen',hff⟩:=DataW.trod_struct Tryz.underlying36 h2
    obtain ⟨q0,rfl,f0⟩:=field_int 0 0 _ hff hlen' rfl rfl rfl c0 rfl
    obtain ⟨q1,rfl,f1⟩:=field_int 1 1 _ hff hlen' rfl rfl rfl c1 rfl
    obtain ⟨q2,rfl,f2⟩:=field_word 2 2 _ hff hlen' rfl rfl rfl c2 rfl
    obtain ⟨q3,rfl,f3⟩:=field_int 3 3 _ hff hlen' rfl rfl rfl c3 rfl
    obtain ⟨q4,rfl,f4⟩:=field_int 4 4 _ hff hlen' rfl rfl rfl c4 rfl
    obtain ⟨q5,rfl,f5⟩:=field_int 5 5 _ hff hlen' rfl rfl rfl c5 rfl
    obtain ⟨q6,rfl⟩:=field_bool 6 6 _ hff hlen' rfl rfl rfl c6 rfl
    have e : ∀ j,(a.add (i * 7)).add j = ⟨a.block,a.off + i * 7 + j,none⟩:=fun j=>by
     rw [addr_add15 hsp,addr_add15 rfl]
    refine ⟨⟨q0,q1,q2,q3,q4,q5,q6⟩,⟨f0,f1,f2,f3,f4,f5⟩,hsp,?_,?_,?_,?_,?_,?_,?_⟩
    · have:=hc 0 (by omega);rw [e] at this;exact this
    · have:=hc 1 (by omega);rw [e] at this;exact this
    · have:=hc 2 (by omega);rw [e] at this;exact this
    · have:=hc 3 (by omega);rw [e] at this;exact this
    · have:=hc 4 (by omega);rw [e] at this;exact this
    · have:=hc 5 (by omega);rw [e] at this;exact this
    · have:=hc 6 (by omega);rw [e] at this;exact this
   haveI : Inhabited Xa:=⟨⟨0,0,0,0,0,0,false⟩⟩
   obtain ⟨Q,hQ⟩:=choose_lt (n:=len) (α:=Xa) (p:=fun i q=>XaFit q /\ a.spot = none /\ W.cell? ⟨a.block,a.off + i * 7,none⟩ = some (.int .i64 q.kd) /\ W.cell? ⟨a.block,a.off + i * 7 + 1,none⟩ = some (.int .i64 q.sz) /\ W.cell? ⟨a.block,a.off + i * 7 + 2,none⟩ = some (.int .u64 q.nu) /\ W.cell? ⟨a.block,a.off + i * 7 + 3,none⟩ = some (.int .i64 q.ix) /\ W.cell? ⟨a.block,a.off + i * 7 + 4,none⟩ = some (.int .i64 q.vl) /\ W.cell? ⟨a.block,a.off + i * 7 + 5,none⟩ = some (.int .i64 q.ol) /\ W.cell? ⟨a.block,a.off + i * 7 + 6,none⟩ = some (.bool q.own)) each
   refine ⟨some a,len,m,Q,rfl,fun i hi=>?_,by unfold maxLen at hm;omega,fun i hi=>(hQ i hi).1⟩
   obtain ⟨_,hsp,k0,k1,k2,k3,k4,k5,k6⟩:=hQ i hi
   exact ⟨a.block,a.off,by obtain ⟨b,o,s⟩:=a;simp at hsp;subst hsp;rfl,k0,k1,k2,k3,k4,k5,k6⟩
end
end Go.Proofs.YtlolfmoolgenpaaGreat
