import Derived.Test.YtgehjolndmgffaaGreatAbb
import Derived.Test.YtgehjolndmgffaaGreatRows
import Derived.Test.YtgehjolndmgffaaGreatLay
import Derived.ProofKit
import Derived.OpenShut
import Derived.ChangeOld
import Derived.Test.YtgehjolndmgffaaGreatWorkerStepsWalk
import Derived.Deep.Slices
namespace Go.Proofs.YtgehjolndmgffaaGreat
open Go.RowKit
section
open Go.ChangeShapes Go.WideShapes Go.ChangeAt Go.RowKit
theorem own:ownKnob Tryz.prog.godebug=none:=by kernel_rfl
theorem laidOut:laidOutB Tryz.prog=true:=by kernel_rfl
section
variable {H:Type} {enc:TypeId × Value->H} {W:World} {base:Nat} {v:Value} {d:DataW H} {p:List MemPlace}
theorem Tryz.cells3:Tryz.prog.cellsOf 3=1:=by kernel_rfl
theorem Yl {fs:Array Field} {fuel:Nat} {xs:List (DataW H × List MemPlace)} {cs:List Value} (i o:Nat) (f:Field)
 (hf:∀ (i:Nat) (f:Field),fs[i]?=some f->DataW.trod enc Tryz.prog W 0 (fun _=>true) true fuel f.type (List.take (Tryz.prog.cellsOf f.type) (List.drop f.offset cs))=xs[i]?)
 (hl:xs.length=fs.size) (hi:fs[i]?=some f) (ho:f.offset=o) (ht:f.type=3) (c:Value) (hc:cs[o]?=some c):∃ n,c=iV n/\Fit n:=by
 have h:=hf i f hi
 have hlt:i<xs.length:=by rw[hl];exact(Array.getElem?_eq_some_iff.1 hi).1
 rw[ht,ho,Tryz.cells3,List.getElem?_eq_getElem hlt] at h
 obtain⟨n,h1,_,h2⟩:=DataW.trod_int Tryz.underlying3 h
 have h3:List.take 1 (List.drop o cs)=[c]:=by
  obtain⟨hlo,hce⟩:=List.getElem?_eq_some_iff.1 hc
  rw[List.drop_eq_getElem_cons hlo,hce];simp
 rw[h3] at h1
 simp at h1
 exact⟨n,h1,bounds_i64 h2⟩
end
end
section
open Go.ChangeShapes Go.WideShapes Go.ChangeAt Go.RowKit Go.Deep
theorem GZ {H:Type} {enc:TypeId × Value->H} {W:World} {fs:Array Field} {fuel:Nat} {xs:List (DataW H × List MemPlace)} {cs:List Value} (i o:Nat) (f:Field)
 (hf:∀ (i:Nat) (f:Field),fs[i]?=some f->DataW.trod enc Tryz.prog W 0 (fun _=>true) true fuel f.type (List.take (Tryz.prog.cellsOf f.type) (List.drop f.offset cs))=xs[i]?)
 (hl:xs.length=fs.size) (hi:fs[i]?=some f) (ho:f.offset=o) (ht:f.type=41) (c:Value) (hc:cs[o]?=some c):∃ n,c=.int .u64 n/\yL n:=by
 have h:=hf i f hi
 have hlt:i<xs.length:=by rw[hl];exact(Array.getElem?_eq_some_iff.1 hi).1
 have c1:Tryz.prog.cellsOf 41=1:=by kernel_rfl
 rw[ht,ho,c1,List.getElem?_eq_getElem hlt] at h
 obtain⟨n,h1,_,h2⟩:=DataW.trod_int Tryz.underlying41 h
 have h3:List.take 1 (List.drop o cs)=[c]:=by
  obtain⟨hlo,hce⟩:=List.getElem?_eq_some_iff.1 hc
  rw[List.drop_eq_getElem_cons hlo,hce];simp
 rw[h3] at h1
 simp at h1
 exact⟨n,h1,bounds_u64 h2⟩
theorem Tryz.GY:Tryz.prog.cellsOf 45=9:=by kernel_rfl
theorem Ap {α:Type} {cs:List α} (h:cs.length=9):∃ c0 c1 c2 c3 c4 c5 c6 c7 c8,cs=[c0,c1,c2,c3,c4,c5,c6,c7,c8]:=by
 match cs,h with
 | [c0,c1,c2,c3,c4,c5,c6,c7,c8],_=>exact⟨c0,c1,c2,c3,c4,c5,c6,c7,c8,rfl⟩
section
variable {H:Type} {enc:TypeId × Value->H} {W:World} {base:Nat} {v:Value} {d:DataW H} {p:List MemPlace}
set_option maxRecDepth 100000 in
theorem Kz {fs:Array Field} {fuel:Nat} {xs:List (DataW H × List MemPlace)} {c0 c1 c2 c3 c4 c5 c6 c7 c8:Value}
 (hu:Tryz.prog.underlying 45=some (.struct fs))
 (BG:∀ (i:Nat) (f:Field),fs[i]?=some f->DataW.trod enc Tryz.prog W 0 (fun _=>true) true fuel f.type (List.take (Tryz.prog.cellsOf f.type) (List.drop f.offset [c0,c1,c2,c3,c4,c5,c6,c7,c8]))=xs[i]?) (hlen:xs.length=fs.size) :
 ∃ c:Wc,[c0,c1,c2,c3,c4,c5,c6,c7,c8]=c.l/\QX c:=by
 rw[Tryz.underlying45] at hu
 cases hu
 obtain⟨q0,rfl,f0⟩:=Yl 0 0 _ BG hlen rfl rfl rfl c0 rfl
 obtain⟨q1,rfl,f1⟩:=Yl 1 1 _ BG hlen rfl rfl rfl c1 rfl
 have hR:=BG 2 _ rfl
 rw[List.getElem?_eq_getElem (by rw[hlen];decide)] at hR
 obtain⟨ys,_,_,_,_,hl2,g2⟩:=DataW.trod_struct Tryz.underlying43 hR
 obtain⟨q2,rfl,f2⟩:=Yl 0 0 _ g2 hl2 rfl rfl rfl c2 rfl
 obtain⟨q3,rfl,f3⟩:=Yl 1 1 _ g2 hl2 rfl rfl rfl c3 rfl
 obtain⟨q4,rfl,f4⟩:=GZ 2 2 _ g2 hl2 rfl rfl rfl c4 rfl
 obtain⟨q5,rfl,f5⟩:=Yl 3 5 _ BG hlen rfl rfl rfl c5 rfl
 obtain⟨q6,rfl,f6⟩:=Yl 4 6 _ BG hlen rfl rfl rfl c6 rfl
 obtain⟨q7,rfl,f7⟩:=Yl 5 7 _ BG hlen rfl rfl rfl c7 rfl
 obtain⟨q8,rfl,f8⟩:=Yl 6 8 _ BG hlen rfl rfl rfl c8 rfl
 exact⟨⟨q0,q1,q2,q3,q4,q5,q6,q7,q8⟩,rfl,f0,f1,f2,f3,f4,f5,f6,f7,f8⟩
theorem QW {a:Addr} (h:a.spot=none) (j:Nat):a.add j=⟨a.block,a.off+j,none⟩:=by
 cases j with
 | zero=>obtain⟨b,o,s⟩:=a;simp at h;subst h;simp[Addr.add]
 | succ n=>rw[Addr.add_succ']
set_option maxRecDepth 100000 in
theorem Nq (hv:Value.okWide Tryz.prog W .any base 22 v) (h:DataW.Trod enc Tryz.prog W 0 (fun _=>true) true 22 v d p) :
 ∃ ao n cap A,v=.slice ao n cap/\Vx W ao n A/\n<=9223372036854775807/\∀ i,i<n->QX (A i):=by
 obtain⟨a0,len,cap,rfl⟩:=okWide_slice Tryz.underlying22 hv
 obtain⟨fuel,hf⟩:=h
 rcases open_slice Tryz.underlying22 hf with⟨hcs,_⟩ | ⟨a,len',cap',m,n,D,Pl,hcs,_,hl,hm,hmm,_,hx⟩
 . simp[Value.cells] at hcs
   obtain⟨rfl,rfl,rfl⟩:=hcs
   exact⟨none,0,0,fun _=>⟨0,0,0,0,0,0,0,0,0⟩,rfl,fun i hi=>by omega,by omega,fun i hi=>by omega⟩
 . simp[Value.cells] at hcs
   obtain⟨rfl,rfl,rfl⟩:=hcs
   simp only[if_pos] at hmm
   subst hmm
   rw[Tryz.GY] at hx
   have each:∀ i,i<len->∃ q:Wc,QX q/\a.spot=none/\W.cell? ⟨a.block,a.off+i * 9,none⟩=some (iV (q).kd)/\W.cell? ⟨a.block,a.off+i * 9+1,none⟩=some (iV (q).sz)/\W.cell? ⟨a.block,a.off+i * 9+2,none⟩=some (iV (q).rt)/\W.cell? ⟨a.block,a.off+i * 9+3,none⟩=some (iV (q).ra)/\W.cell? ⟨a.block,a.off+i * 9+4,none⟩=some (.int .u64 (q).rr)/\W.cell? ⟨a.block,a.off+i * 9+5,none⟩=some (iV (q).ix)/\W.cell? ⟨a.block,a.off+i * 9+6,none⟩=some (iV (q).vl)/\W.cell? ⟨a.block,a.off+i * 9+7,none⟩=some (iV (q).ol)/\W.cell? ⟨a.block,a.off+i * 9+8,none⟩=some (iV (q).ky):=by
    have hs:0<len->a.spot=none:=by
     intro h0
     obtain⟨cs',h1,_⟩:=hx 0 (by omega)
     obtain⟨_,hlen,hc⟩:=World.cells?_some h1
     obtain⟨c0,c1,c2,c3,c4,c5,c6,c7,c8,rfl⟩:=Ap hlen
     have:=hc 0 (by omega)
     simp only[Nat.zero_mul] at this
     have:=World.cell?_spot this
     simpa [Addr.add] using this
    intro i hi
    have hsp:=hs (by omega)
    obtain⟨cs',h1,h2⟩:=hx i (by omega)
    obtain⟨_,hlen,hc⟩:=World.cells?_some h1
    obtain⟨c0,c1,c2,c3,c4,c5,c6,c7,c8,rfl⟩:=Ap hlen
    obtain⟨xs,n',_,_,_,hlen',BG⟩:=DataW.trod_struct Tryz.underlying45 h2
    obtain⟨q,eq,fq⟩:=Kz Tryz.underlying45 BG hlen'
    rw[eq] at hc
    have e:∀ j,(a.add (i * 9)).add j=⟨a.block,a.off+i * 9+j,none⟩:=fun j=>by
     rw[QW hsp,QW rfl]
    refine⟨q,fq,hsp,?_,?_,?_,?_,?_,?_,?_,?_,?_⟩
    . have:=hc 0 (by show 0<9;omega);rw[e] at this;exact this
    . have:=hc 1 (by show 1<9;omega);rw[e] at this;exact this
    . have:=hc 2 (by show 2<9;omega);rw[e] at this;exact this
    . have:=hc 3 (by show 3<9;omega);rw[e] at this;exact this
    . have:=hc 4 (by show 4<9;omega);rw[e] at this;exact this
    . have:=hc 5 (by show 5<9;omega);rw[e] at this;exact this
    . have:=hc 6 (by show 6<9;omega);rw[e] at this;exact this
    . have:=hc 7 (by show 7<9;omega);rw[e] at this;exact this
    . have:=hc 8 (by show 8<9;omega);rw[e] at this;exact this
   haveI:Inhabited Wc:=⟨⟨0,0,0,0,0,0,0,0,0⟩⟩
   obtain⟨Q,hQ⟩:=choose_lt (n:=len) (α:=Wc) (p:=fun i q=>QX q/\a.spot=none/\W.cell? ⟨a.block,a.off+i * 9,none⟩=some (iV (q).kd)/\W.cell? ⟨a.block,a.off+i * 9+1,none⟩=some (iV (q).sz)/\W.cell? ⟨a.block,a.off+i * 9+2,none⟩=some (iV (q).rt)/\W.cell? ⟨a.block,a.off+i * 9+3,none⟩=some (iV (q).ra)/\W.cell? ⟨a.block,a.off+i * 9+4,none⟩=some (.int .u64 (q).rr)/\W.cell? ⟨a.block,a.off+i * 9+5,none⟩=some (iV (q).ix)/\W.cell? ⟨a.block,a.off+i * 9+6,none⟩=some (iV (q).vl)/\W.cell? ⟨a.block,a.off+i * 9+7,none⟩=some (iV (q).ol)/\W.cell? ⟨a.block,a.off+i * 9+8,none⟩=some (iV (q).ky)) each
   refine⟨some a,len,m,Q,rfl,fun i hi=>?_,by unfold maxLen at hm;omega,fun i hi=>(hQ i hi).1⟩
   obtain⟨_,hsp,k0,k1,k2,k3,k4,k5,k6,k7,k8⟩:=hQ i hi
   exact⟨a.block,a.off,by obtain⟨b,o,s⟩:=a;simp at hsp;subst hsp;rfl,k0,k1,k2,k3,k4,k5,k6,k7,k8⟩
end
end
end Go.Proofs.YtgehjolndmgffaaGreat
