import Derived.Test.YtibmjlefcaonnaaGreatAbb
import Derived.Test.YtibmjlefcaonnaaGreatRows
import Derived.Test.YtibmjlefcaonnaaGreatOnly
import Derived.ProofKit
import Derived.OpenShut
import Derived.ChangeOld
import Derived.Test.YtibmjlefcaonnaaGreatShelfSpreadsWalk
import Derived.Deep.Slices
namespace Go.Proofs.YtibmjlefcaonnaaGreat
open Go.RowKit
section
open Go.ChangeShapes Go.WideShapes Go.ChangeAt Go.RowKit
theorem own:ownKnob Tryz.prog.godebug=none:=by kernel_rfl
theorem laidOut:laidOutB Tryz.prog=true:=by kernel_rfl
section
variable {H:Type} {enc:TypeId × Value->H} {W:World} {base:Nat} {v:Value} {d:DataW H} {p:List MemPlace}
theorem Tryz.cells3:Tryz.prog.cellsOf 3=1:=by kernel_rfl
theorem TE {fs:Array Field} {fuel:Nat} {xs:List (DataW H × List MemPlace)} {cs:List Value} (i o:Nat) (f:Field)
 (hf:∀ (i:Nat) (f:Field),fs[i]?=some f->DataW.trod enc Tryz.prog W 0 (fun _=>true) true fuel f.type (List.take (Tryz.prog.cellsOf f.type) (List.drop f.offset cs))=xs[i]?)
 (hl:xs.length=fs.size) (hi:fs[i]?=some f) (ho:f.offset=o) (ht:f.type=3) (c:Value) (hc:cs[o]?=some c):∃ n,c=iV n/\Fit n:=by
 have h:=hf i f hi
 have hlt:i<xs.length:=by rw[hl];exact(Array.getElem?_eq_some_iff.1 hi).1
 rw[ht,ho,Tryz.cells3,List.getElem?_eq_getElem hlt] at h
 obtain⟨n,h1,_,h2⟩:=DataW.trod_int Tryz.underlying3 h
 have h3:List.take 1 (List.drop o cs)=[c]:=by
  obtain⟨hlo,hce⟩:=List.getElem?_eq_some_iff.1 hc
  rw[List.drop_eq_getElem_cons hlo,hce];simp
 rw[h3] at h1
 simp at h1
 exact⟨n,h1,bounds_i64 h2⟩
set_option maxRecDepth 20000 in
theorem H9 (hv:Value.okWide Tryz.prog W .any base 3 v) (h:DataW.Trod enc Tryz.prog W 0 (fun _=>true) true 3 v d p):∃ n,v=iV n/\Fit n:=by
 obtain⟨n,rfl,_,_,w0⟩:=open_int Tryz.underlying3 hv h
 exact⟨n,rfl,bounds_i64 w0⟩
end
end
section
open Go.ChangeShapes Go.WideShapes Go.ChangeAt Go.RowKit Go.Deep
theorem Tryz.cells43:Tryz.prog.cellsOf 43=3:=by kernel_rfl
section
variable {H:Type} {enc:TypeId × Value->H} {W:World} {base:Nat} {v:Value} {d:DataW H} {p:List MemPlace}
theorem Q5 {a:Addr} (h:a.spot=none) (j:Nat):a.add j=⟨a.block,a.off+j,none⟩:=by
 cases j with
 | zero=>obtain⟨b,o,s⟩:=a;simp at h;subst h;simp[Addr.add]
 | succ n=>rw[Addr.add_succ']
theorem Bv {α:Type} {cs:List α} (h:cs.length=3):∃ c0 c1 c2,cs=[c0,c1,c2]:=by
 match cs,h with
 | [c0,c1,c2],_=>exact⟨c0,c1,c2,rfl⟩
set_option maxRecDepth 100000 in
theorem QK (hv:Value.okWide Tryz.prog W .any base 40 v) (h:DataW.Trod enc Tryz.prog W 0 (fun _=>true) true 40 v d p) :
 ∃ ao n cap A,v=.slice ao n cap/\Qu W ao n A/\n<=9223372036854775807/\Ll n A:=by
 obtain⟨a0,len,cap,rfl⟩:=okWide_slice Tryz.underlying40 hv
 obtain⟨fuel,hf⟩:=h
 rcases open_slice Tryz.underlying40 hf with⟨hcs,_⟩ | ⟨a,len',cap',m,n,D,Pl,hcs,_,hl,hm,hmm,_,hx⟩
 . simp[Value.cells] at hcs
   obtain⟨rfl,rfl,rfl⟩:=hcs
   exact⟨none,0,0,⟨fun _=>0,fun _=>0,fun _=>0⟩,rfl,fun i hi=>by omega,by omega,fun i hi=>by omega⟩
 . simp[Value.cells] at hcs
   obtain⟨rfl,rfl,rfl⟩:=hcs
   simp only[if_pos] at hmm
   subst hmm
   rw[Tryz.cells43] at hx
   have each:∀ i,i<len->∃ q:Int × Int × Int,(Fit q.1/\Fit q.2.1/\Fit q.2.2)/\a.spot=none/\W.cell? ⟨a.block,a.off+i * 3,none⟩=some (iV q.1)/\W.cell? ⟨a.block,a.off+i * 3+1,none⟩=some (iV q.2.1) /\
    W.cell? ⟨a.block,a.off+i * 3+2,none⟩=some (iV q.2.2):=by
    have hs:0<len->a.spot=none:=by
     intro h0
     obtain⟨cs',h1,_⟩:=hx 0 (by omega)
     obtain⟨_,hlen,hc⟩:=World.cells?_some h1
     obtain⟨c0,c1,c2,rfl⟩:=Bv hlen
     have:=hc 0 (by omega)
     simp only[Nat.zero_mul] at this
     have:=World.cell?_spot this
     simpa [Addr.add] using this
    intro i hi
    have hsp:=hs (by omega)
    obtain⟨cs',h1,h2⟩:=hx i (by omega)
    obtain⟨_,hlen,hc⟩:=World.cells?_some h1
    obtain⟨c0,c1,c2,rfl⟩:=Bv hlen
    obtain⟨xs,n',_,_,_,hlen',tY⟩:=DataW.trod_struct Tryz.underlying43 h2
    obtain⟨q0,rfl,f0⟩:=TE 0 0 _ tY hlen' rfl rfl rfl c0 rfl
    obtain⟨q1,rfl,f1⟩:=TE 1 1 _ tY hlen' rfl rfl rfl c1 rfl
    obtain⟨q2,rfl,f2⟩:=TE 2 2 _ tY hlen' rfl rfl rfl c2 rfl
    have e:∀ j,(a.add (i * 3)).add j=⟨a.block,a.off+i * 3+j,none⟩:=fun j=>by
     rw[Q5 hsp,Q5 rfl]
    refine⟨(q0,q1,q2),⟨f0,f1,f2⟩,hsp,?_,?_,?_⟩
    . have:=hc 0 (by omega);rw[e] at this;exact this
    . have:=hc 1 (by omega);rw[e] at this;exact this
    . have:=hc 2 (by omega);rw[e] at this;exact this
   obtain⟨Q,hQ⟩:=choose_lt (n:=len) (α:=Int × Int × Int) (p:=fun i q=>(Fit q.1/\Fit q.2.1/\Fit q.2.2)/\a.spot=none/\W.cell? ⟨a.block,a.off+i * 3,none⟩=some (iV q.1)/\W.cell? ⟨a.block,a.off+i * 3+1,none⟩=some (iV q.2.1) /\
    W.cell? ⟨a.block,a.off+i * 3+2,none⟩=some (iV q.2.2)) each
   refine⟨some a,len,m,⟨fun i=>(Q i).1,fun i=>(Q i).2.1,fun i=>(Q i).2.2⟩,rfl,fun i hi=>?_,by unfold maxLen at hm;omega,fun i hi=>(hQ i hi).1⟩
   obtain⟨_,hsp,k0,k1,k2⟩:=hQ i hi
   exact⟨a.block,a.off,by obtain⟨b,o,s⟩:=a;simp at hsp;subst hsp;rfl,k0,k1,k2⟩
end
end
end Go.Proofs.YtibmjlefcaonnaaGreat
