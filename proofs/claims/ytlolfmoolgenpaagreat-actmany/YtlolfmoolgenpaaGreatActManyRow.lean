import Derived.Test.YtlolfmoolgenpaaGreatActManyWalk
import Derived.Test.YtlolfmoolgenpaaGreatShapes
import Derived.Test.YtlolfmoolgenpaaGreatShapeActs15
import Derived.Test.YtlolfmoolgenpaaGreatShapeInts
import Derived.Test.YtlolfmoolgenpaaGreatShapeSize
namespace Go.Proofs.YtlolfmoolgenpaaGreat.actMany
open Go.ChangeShapes Go.WideShapes Go.ChangeAt Go.RowKit
set_option maxRecDepth 100000 in
theorem lifted (os : Os) (started : os.Started) (H : Type) (enc : TypeId × Value -> H) :
 ReturnsInHanded {} Tryz.checked os 7 .any (Rows.actManySpec.pre6 enc Tryz.prog Tryz.f7 Rows.actManyRow.domain false) (Rows.actManySpec.post enc Tryz.prog Tryz.f7 false true false false):=by
 refine returnsInHanded_of_change_sized (C:=Tryz.checked) own started (by kernel_rfl) Tryz.func7
  (ChangeSpec.witness6 (enc:=enc) (C:=Tryz.checked) false ⟨#[],#[.slice none 0 0,.slice none 0 0],[]⟩ 8 (by kernel_rfl) (by kernel_rfl) (by kernel_rfl) (by kernel_rfl)) ?_
 intro W base args ds gs before hval0 hW hcnd hsz _
 have hval : ∀ (j : Nat) t v,Tryz.f7.params[j]? = some t -> args[j]? = some v -> Value.okWide Tryz.prog W .any base t v:=hval0
 have hW':=hW
 obtain ⟨p,q,hA0,hV,rfl,hfz,hnd⟩:=hW
 have hA : DataW.TrodAll enc Tryz.prog W 0 (fun _=>true) true Tryz.f7.params.toList args.toList ds p:=hA0
 rw [Tryz.params7] at hA hval
 obtain ⟨v0,vs0,d0,ds0,p0,q0,hargs,rfl,rfl,h0,r0⟩:=trodAll_cons hA
 obtain ⟨v1,vs1,d1,ds1,p1,q1,rfl,rfl,rfl,h1,r1⟩:=trodAll_cons r0
 obtain ⟨rfl,rfl,rfl⟩:=trodAll_nil r1
 obtain rfl : args = #[v0,v1]:=by cases args;simp_all
 obtain ⟨rfl,rfl⟩:=trodVars_none hV
 have lt0 : ∀ x ∈ p0,x.block < W.heap.size:=by obtain ⟨m,hm⟩:=h0;exact DataW.trod_lt m _ _ _ hm
 obtain ⟨ao,n,cap,A,rfl,hr,_,hf⟩:=shape_Acts (hval 0 22 v0 rfl rfl) h0
 have lt1 : ∀ x ∈ p1,x.block < W.heap.size:=by obtain ⟨m,hm⟩:=h1;exact DataW.trod_lt m _ _ _ hm
 obtain ⟨ao2,n2,cap2,z,rfl,hr2,_,_⟩:=shape_ints (hval 1 43 v1 rfl rfl) h1
 have sz1 : n2 * 8 <= 140737488351232:=by
  rcases ints_len h1 with e | ⟨el,sp,rfl,e⟩
  · omega
  · have:=sized_slice hsz (j:=1) (t:=43) (e:=3) rfl rfl Tryz.underlying43
    rw [show Tryz.checked.prog.bytesOf 3 = 8 from by kernel_rfl] at this
    simp only [reachBytes] at this
    omega
 clear hA0 hval0
 refine (actMany_any ao n cap A ao2 n2 cap2 z W hr hf hr2 (by omega)).mono fun e W' ⟨he,bel⟩=>?_
 subst he
 exact ⟨_,rfl,_,_,_,[],_,[],hW',trodAll_mk1 (shut_bool Tryz.underlying4 _),(trodAll_cons_mk (Below.trod laidOut (by kernel_rfl) (of_decide_eq_true (by kernel_rfl)) h0 bel lt0) (trodAll_cons_mk (Below.trod laidOut (by kernel_rfl) (of_decide_eq_true (by kernel_rfl)) h1 bel lt1) trodAll_mk0)),rfl,bel.frame _,fun h=>by cases h⟩
theorem over : Rows.actManyRow.holds Tryz.pinned (OpenSpec.ofChange Rows.actManySpec) :=
 OpenClaim.holds_of_wide 7 Tryz.f7 rfl rfl rfl rfl rfl rfl rfl ⟨rfl,rfl,rfl,rfl,rfl⟩ rfl rfl rfl rfl rfl (by kernel_rfl) Tryz.func7 (by kernel_rfl)
  (of_decide_eq_true (by kernel_rfl)) (by unfold Func.isWrapper;first | (rw [if_pos (by decide +kernel)];kernel_rfl) | (rw [if_neg (by decide +kernel)];exact ⟨rfl,rfl⟩))
  (fun os started H enc _=>lifted os started H enc)
end Go.Proofs.YtlolfmoolgenpaaGreat.actMany
namespace Go.Proofs.YtlolfmoolgenpaaGreat
theorem actMany_holds : Rows.ActManySaid:=actMany.over
#print axioms actMany_holds
end Go.Proofs.YtlolfmoolgenpaaGreat
