import Derived.Test.YtgehjolndmgffaaGreatAbb
import Derived.Test.YtgehjolndmgffaaGreatRows
import Derived.Test.YtgehjolndmgffaaGreatLay
import Derived.ProofKit
import Derived.OpenShut
import Derived.ChangeOld
import Derived.Test.YtgehjolndmgffaaGreatWorkerChecksWalk
import Derived.Deep.Slices
namespace Go.Proofs.YtgehjolndmgffaaGreat
open Go.RowKit
section
open Go.ChangeShapes Go.WideShapes Go.ChangeAt Go.RowKit
theorem own:ownKnob Tryz.prog.godebug=none:=by kernel_rfl
theorem laidOut:laidOutB Tryz.prog=true:=by kernel_rfl
section
variable {H:Type} {enc:TypeId × Value->H} {W:World} {base:Nat} {v:Value} {d:DataW H} {p:List MemPlace}
theorem Tryz.cells3:Tryz.prog.cellsOf 3=1:=by kernel_rfl
theorem Ym {fs:Array Field} {fuel:Nat} {xs:List (DataW H × List MemPlace)} {cs:List Value} (i o:Nat) (f:Field)
 (hf:∀ (i:Nat) (f:Field),fs[i]?=some f->DataW.trod enc Tryz.prog W 0 (fun _=>true) true fuel f.type (List.take (Tryz.prog.cellsOf f.type) (List.drop f.offset cs))=xs[i]?)
 (hl:xs.length=fs.size) (hi:fs[i]?=some f) (ho:f.offset=o) (ht:f.type=3) (c:Value) (hc:cs[o]?=some c):∃ n,c=iV n/\Fit n:=by
 have h:=hf i f hi
 have hlt:i<xs.length:=by rw[hl];exact(Array.getElem?_eq_some_iff.1 hi).1
 rw[ht,ho,Tryz.cells3,List.getElem?_eq_getElem hlt] at h
 obtain⟨n,h1,_,h2⟩:=DataW.trod_int Tryz.underlying3 h
 have h3:List.take 1 (List.drop o cs)=[c]:=by
  obtain⟨hlo,hce⟩:=List.getElem?_eq_some_iff.1 hc
  rw[List.drop_eq_getElem_cons hlo,hce];simp
 rw[h3] at h1
 simp at h1
 exact⟨n,h1,bounds_i64 h2⟩
set_option maxRecDepth 20000 in
theorem Qg (hv:Value.okWide Tryz.prog W .any base 3 v) (h:DataW.Trod enc Tryz.prog W 0 (fun _=>true) true 3 v d p):∃ n,v=iV n/\Fit n:=by
 obtain⟨n,rfl,_,_,w0⟩:=open_int Tryz.underlying3 hv h
 exact⟨n,rfl,bounds_i64 w0⟩
end
end
section
open Go.ChangeShapes Go.WideShapes Go.ChangeAt Go.RowKit Go.Deep
theorem He {H:Type} {enc:TypeId × Value->H} {W:World} {fs:Array Field} {fuel:Nat} {xs:List (DataW H × List MemPlace)} {cs:List Value} (i o:Nat) (f:Field)
 (hf:∀ (i:Nat) (f:Field),fs[i]?=some f->DataW.trod enc Tryz.prog W 0 (fun _=>true) true fuel f.type (List.take (Tryz.prog.cellsOf f.type) (List.drop f.offset cs))=xs[i]?)
 (hl:xs.length=fs.size) (hi:fs[i]?=some f) (ho:f.offset=o) (ht:f.type=41) (c:Value) (hc:cs[o]?=some c):∃ n,c=.int .u64 n/\wz n:=by
 have h:=hf i f hi
 have hlt:i<xs.length:=by rw[hl];exact(Array.getElem?_eq_some_iff.1 hi).1
 have c1:Tryz.prog.cellsOf 41=1:=by kernel_rfl
 rw[ht,ho,c1,List.getElem?_eq_getElem hlt] at h
 obtain⟨n,h1,_,h2⟩:=DataW.trod_int Tryz.underlying41 h
 have h3:List.take 1 (List.drop o cs)=[c]:=by
  obtain⟨hlo,hce⟩:=List.getElem?_eq_some_iff.1 hc
  rw[List.drop_eq_getElem_cons hlo,hce];simp
 rw[h3] at h1
 simp at h1
 exact⟨n,h1,bounds_u64 h2⟩
theorem Tryz.Ha:Tryz.prog.cellsOf 45=9:=by kernel_rfl
theorem vZ {α:Type} {cs:List α} (h:cs.length=9):∃ c0 c1 c2 c3 c4 c5 c6 c7 c8,cs=[c0,c1,c2,c3,c4,c5,c6,c7,c8]:=by
 match cs,h with
 | [c0,c1,c2,c3,c4,c5,c6,c7,c8],_=>exact⟨c0,c1,c2,c3,c4,c5,c6,c7,c8,rfl⟩
section
variable {H:Type} {enc:TypeId × Value->H} {W:World} {base:Nat} {v:Value} {d:DataW H} {p:List MemPlace}
set_option maxRecDepth 100000 in
theorem KD {fs:Array Field} {fuel:Nat} {xs:List (DataW H × List MemPlace)} {c0 c1 c2 c3 c4 c5 c6 c7 c8:Value}
 (hu:Tryz.prog.underlying 45=some (.struct fs))
 (BM:∀ (i:Nat) (f:Field),fs[i]?=some f->DataW.trod enc Tryz.prog W 0 (fun _=>true) true fuel f.type (List.take (Tryz.prog.cellsOf f.type) (List.drop f.offset [c0,c1,c2,c3,c4,c5,c6,c7,c8]))=xs[i]?) (hlen:xs.length=fs.size) :
 ∃ c:Wc,[c0,c1,c2,c3,c4,c5,c6,c7,c8]=c.l/\AA c:=by
 rw[Tryz.underlying45] at hu
 cases hu
 obtain⟨q0,rfl,f0⟩:=Ym 0 0 _ BM hlen rfl rfl rfl c0 rfl
 obtain⟨q1,rfl,f1⟩:=Ym 1 1 _ BM hlen rfl rfl rfl c1 rfl
 have hR:=BM 2 _ rfl
 rw[List.getElem?_eq_getElem (by rw[hlen];decide)] at hR
 obtain⟨ys,_,_,_,_,hl2,g2⟩:=DataW.trod_struct Tryz.underlying43 hR
 obtain⟨q2,rfl,f2⟩:=Ym 0 0 _ g2 hl2 rfl rfl rfl c2 rfl
 obtain⟨q3,rfl,f3⟩:=Ym 1 1 _ g2 hl2 rfl rfl rfl c3 rfl
 obtain⟨q4,rfl,f4⟩:=He 2 2 _ g2 hl2 rfl rfl rfl c4 rfl
 obtain⟨q5,rfl,f5⟩:=Ym 3 5 _ BM hlen rfl rfl rfl c5 rfl
 obtain⟨q6,rfl,f6⟩:=Ym 4 6 _ BM hlen rfl rfl rfl c6 rfl
 obtain⟨q7,rfl,f7⟩:=Ym 5 7 _ BM hlen rfl rfl rfl c7 rfl
 obtain⟨q8,rfl,f8⟩:=Ym 6 8 _ BM hlen rfl rfl rfl c8 rfl
 exact⟨⟨q0,q1,q2,q3,q4,q5,q6,q7,q8⟩,rfl,f0,f1,f2,f3,f4,f5,f6,f7,f8⟩
set_option maxRecDepth 100000 in
theorem KC (hv:Value.okWide Tryz.prog W .any base 45 v) (h:DataW.Trod enc Tryz.prog W 0 (fun _=>true) true 45 v d p):∃ c:Wc,v=c.v/\AA c:=by
 obtain⟨cs,rfl,hsz⟩:=okWide_struct Tryz.underlying45 hv
 obtain⟨l⟩:=cs
 obtain⟨c0,c1,c2,c3,c4,c5,c6,c7,c8,rfl⟩:=vZ (show l.length=9 from hsz.trans Tryz.Ha)
 obtain⟨fuel,hf⟩:=h
 obtain⟨xs,n,_,_,_,hlen,BM⟩:=DataW.trod_struct Tryz.underlying45 hf
 obtain⟨c,e,f⟩:=KD Tryz.underlying45 BM hlen
 exact⟨c,by show Value.agg ⟨[c0,c1,c2,c3,c4,c5,c6,c7,c8]⟩=_;rw[e],f⟩
end
end
end Go.Proofs.YtgehjolndmgffaaGreat
