import Derived.Test.YtgehjolndmgffaaGreatLstCall
import Derived.Test.YtgehjolndmgffaaGreatPlaceSee
import Derived.ArgAppend
namespace Go.Proofs.YtgehjolndmgffaaGreat
open Go.RowKit
def OY (key N:Int):Int:=key % 4294967296 * 2654435769 % 4294967296 % N
theorem Q3 (key:Int) {N:Int} (h:1<=N):0<=OY key N/\OY key N<N :=
 ⟨Int.emod_nonneg _ (by omega),Int.emod_lt_of_pos _ (by omega)⟩
theorem vY (key N:Int) (h1:1<=N) (h2:N<=9223372036854775807) (w:World):Calls Tryz.prog 73 #[iV key,iV N] w fun e w'=>e=.returned (iV (OY key N))/\w'=w:=by
 have e1:=IntKind.wrap_u32 key
 have e2:wrap64 (key % 4294967296 * 2654435769 % 4294967296 % N)=OY key N:=by
  have:=Q3 key h1
  show wrap64 (OY key N)=_
  unfold wrap64;omega
 go_enter Tryz.func73,Tryz.ntmps73
 go_wp2
 go_ret
 exact⟨Zi e2,rfl⟩
structure Hr (w:World) (b cap N:Nat):Prop where
 ex:∃ c,w.heap[b]?=some (.cells c 41 (0,0))/\cap<=c.size/\∀ i,i<N->c[i]?=some (.int .u64 (65536+(i:Int)))
 le:N<=cap
namespace Hr
variable {w w':World} {b cap N:Nat}
theorem lt (h:Hr w b cap N):b<w.heap.size:=by obtain⟨c,k,-⟩:=h.ex;exact XP k
theorem cell (h:Hr w b cap N) {i:Nat} (hi:i<N):w.cell? ⟨b,i,none⟩=some (.int .u64 (65536+(i:Int))):=by
 obtain⟨c,k,-,k2⟩:=h.ex;exact ZW k (k2 i hi)
theorem of_block (h:Hr w b cap N) (e:w'.heap[b]?=w.heap[b]?):Hr w' b cap N:=⟨h.ex.imp fun _ k=>⟨e.trans k.1,k.2⟩,h.le⟩
theorem grown (h:Hr w b cap N) (g:Below w.heap.size w w'):Hr w' b cap N:=h.of_block (g.block _ h.lt)
theorem only {S:Nat->Prop} (h:Hr w b cap N) (o:Only S w w') (hs:¬ S b):Hr w' b cap N:=h.of_block (o.block _ h.lt hs)
theorem other (h:Hr w b cap N) {k:Nat} (hk:b≠k) (i:Nat) (v:Value):Hr (w.setCell ⟨k,i,none⟩ v) b cap N:=h.of_block (Go.Deep.blk_setCell_other _ _ _ _ (by simpa using hk))
end Hr
theorem Hr.laid {w:World} {b b' cap' M:Nat} (h:Hr w b' cap' M) (N:Nat):Hr (w.setCell ⟨b,N,none⟩ (.int .u64 (65536+(N:Int)))) b' cap' M:=by
 by_cases e:b'=b
 . subst e
   obtain⟨c,k,k1,k2⟩:=h.ex
   refine⟨⟨c.setIfInBounds N (.int .u64 (65536+(N:Int))),ZV _ _ _ _ _ _ k,by simpa using k1,fun i hi=>?_⟩,h.le⟩
   by_cases e:i=N
   . subst e
     have:=(Array.getElem?_eq_some_iff.1 (k2 i hi)).1
     rw[Array.getElem?_setIfInBounds_self_of_lt this]
   . rw[Array.getElem?_setIfInBounds_ne (fun e'=>e e'.symm)];exact k2 i hi
 . exact h.other e _ _
structure YE (v:Value) (x y:World):Prop where
 only:Only (fun k=>v.ownBlock=some k) x y
 k:∀ {b c M},Hr x b c M->Hr y b c M
namespace YE
variable {v:Value}
theorem refl (x:World):YE v x x:=⟨Only.refl _ _,id⟩
theorem trans (x y z:World) (h:YE v x y) (g:YE v y z):YE v x z:=⟨h.only.trans g.only,g.k ∘ h.k⟩
theorem grown {x y:World} (h:Grown x y):YE v x y:=⟨Only.Z5 h,fun s=>s.grown h⟩
end YE
def OM (w:World) (v:Value) (N:Nat):Prop:=(v=.slice none 0 0/\N=0)\/∃ b cap,v=.slice (some ⟨b,0,none⟩) N cap/\Hr w b cap N/\0<N
namespace OM
variable {w w':World} {v:Value} {N:Nat}
theorem nil (w:World):OM w (.slice none 0 0) 0:=Or.inl ⟨rfl,rfl⟩
theorem only {S:Nat->Prop} (h:OM w v N) (o:Only S w w') (hs:∀ k,v.ownBlock=some k->¬ S k):OM w' v N :=
 h.imp id fun⟨B,cap,e,k,p⟩=>⟨B,cap,e,k.only o (hs B (by rw[e];rfl)),p⟩
theorem grown (h:OM w v N) (g:Below w.heap.size w w'):OM w' v N:=h.imp id fun⟨B,cap,e,k,p⟩=>⟨B,cap,e,k.grown g,p⟩
theorem keep {x y:World} {u:Value} (h:OM x v N) (g:YE u x y):OM y v N:=h.imp id fun⟨B,cap,e,k,p⟩=>⟨B,cap,e,g.k k,p⟩
theorem lt (h:OM w v N) {k:Nat} (hk:v.ownBlock=some k):k<w.heap.size:=by
 rcases h with⟨rfl,-⟩ | ⟨B,cap,rfl,s,-⟩
 . cases hk
 . cases hk;exact s.lt
end OM
theorem VP {P:Program} {ops:Array Oper} {rest:List Oper} {o:Oper} {a:Act} {Q:Exit->Act->World->Prop} {w w':World} {v vx v':Value} {t:TypeId} (hg:o.guard=none) (s x:Operand)
 (hop:o.op=Op.call { callee:=Callee.builtin Builtin.append,args:=#[s,x],argTypes:=#[t,t] }) (hs:a.eval s=v) (hx:a.eval x=vx)
 (hrun:(Builtin.append_ #[t,t] o.type #[v,vx]).run P w=.ok v' w') (hK:wpList P ops Q rest (a.put o.dst v') w'):wpList P ops Q (o :: rest) a w:=by
 refine wpList_plain hg fun K hK'=>?_
 unfold Oper.wp
 simp[execOp,hop,resolve,invoke,builtin,hs,hx,hrun,Result.andThen]
 exact hK' _ _ hK
theorem Uw {P:Program} {R:World->World->Prop} {o:Oper} {a:Act} {w w':World} {φ:World->Value->Prop} {t:TypeId} {v vx v':Value} (s x:Operand)
 (ho:o.op=.call { callee:=.builtin .append,args:=#[s,x],argTypes:=#[t,t] }) (hs:a.eval s=v) (hx:a.eval x=vx)
 (hr:(Builtin.append_ #[t,t] o.type #[v,vx]).run P w=.ok v' w') (hR:R w w') (hφ:φ w' v'):Za P R w φ ((execOp a.eval o).run P w):=by
 unfold execOp
 simp only[ho,resolve,invoke,builtin,Sem.run_bind,Sem.run_pure,Result.andThen_ok,List.map_toArray,List.map_cons,List.map_nil,hs,hx,hr]
 exact⟨hR,hφ⟩
theorem ou:(Tryz.prog.info? 41).map (fun i=>(i.zero,i.size,i.bytes))=some (some (.int .u64 0),1,8):=by kernel_rfl
theorem grown_of {w w':World} (h:w.grownBy w' none):Grown w w':=⟨h.os,h.tape,h.output,h.size,fun k hk=>h.block k hk (by simp)⟩
theorem ED (b off j:Nat):(⟨b,off,none⟩:Addr).add j=⟨b,off+j,none⟩:=by unfold Addr.add;split <;> simp_all
theorem OM.push {w:World} {v:Value} {N:Nat} (h:OM w v N) (g:Nat) (hg:w.cell? ⟨g,0,none⟩=some (.int .u64 (65536+(N:Int)))) (hN:N<=900) (ty:TypeId) :
 ∃ b' cap' w',(Builtin.append_ #[82,82] ty #[v,.slice (some ⟨g,0,none⟩) 1 1]).run Tryz.prog w=.ok (.slice (some ⟨b',0,none⟩) (N+1) cap') w'/\Hr w' b' cap' (N+1)/\YE v w w'/\(v.ownBlock=some b'\/w.heap.size<=b'):=by
 obtain⟨i0,hi,hz0,hz1,hz2⟩:=info_parts ou
 have hnews:∀ j u,[Value.int .u64 (65536+(N:Int))][j]?=some u->w.cell? ((⟨g,0,none⟩:Addr).add j)=some u:=fun j u hu=>by
  cases j with
  | zero=>simp at hu;subst hu;rw[ED];exact hg
  | succ j=>simp at hu
 rcases h with⟨rfl,rfl⟩ | ⟨b,cap,rfl,h,-⟩
 . obtain⟨v',w',hrun,ho,hgr,-⟩:=run_append_own (P:=Tryz.prog) w w.heap.size 82 ty 41 i0 (.int .u64 0) 1 8 Tryz.underlying82 hi hz0 hz1 hz2 rfl (by decide) (.slice none 0 0) 0 [] (World.ownsRow_nil w _ 41 1) ⟨g,0,none⟩ 1 1 [.int .u64 (65536+((0:Nat):Int))] rfl hnews (by simp[Value.oneCell']) (by unfold maxLen;omega) (by omega) (Nat.le_refl _)
   rcases ho.2 with⟨_,h3⟩ | ⟨g',cap',cur,h',hb,hg',hcap,hmax,hsz,htake⟩
   . omega
   . subst h'
     refine⟨g',cap',w',hrun,⟨⟨cur,hg',by omega,fun i hi=>?_⟩,by simpa using hcap⟩,YE.grown (grown_of hgr),Or.inr hb⟩
     obtain rfl:i=0:=by omega
     have e:=congrArg (fun q=>q[0]?) htake
     rw[List.getElem?_take_of_lt (by decide)] at e
     simpa using e
 . by_cases hr:N+1<=cap
   . obtain⟨c,k,k1,k2⟩:=h.ex
     have hlt:N<c.size:=by omega
     have hcell:w.cell? ⟨b,N,none⟩=some (c[N]):=ZW k (Array.getElem?_eq_getElem hlt)
     have hrun:=run_append_room_cells (P:=Tryz.prog) w 82 ty 41 i0 Tryz.underlying82 hi b 0 N cap ⟨g,0,none⟩ 1 1 [.int .u64 (65536+(N:Int))] (by simp[hz1]) hnews (by simp[Value.oneCell']) hr
      (fun j hj=>by
       have:j=0:=by simpa using hj
       subst this;rw[hz1,Nat.mul_one,Nat.add_zero,Nat.zero_add,hcell];rfl)
      (fun j hj=>YV k _)
     rw[hz1,Nat.mul_one,Nat.zero_add,show w.setCells b N [.int .u64 (65536+(N:Int))]=w.setCell ⟨b,N,none⟩ (.int .u64 (65536+(N:Int))) by simp[World.setCells]] at hrun
     refine⟨b,cap,_,hrun,⟨⟨c.setIfInBounds N (.int .u64 (65536+(N:Int))),ZV _ _ _ _ _ _ k,by simpa using k1,fun i hi=>?_⟩,hr⟩,⟨(Only.setCell (a:=⟨b,N,none⟩) (Only.refl (fun k=>k=b) w) (fun _=>rfl) _).mono (fun i _ e=>by rw[e];rfl),fun s=>s.laid N⟩,Or.inl rfl⟩
     by_cases e:i=N
     . subst e;rw[Array.getElem?_setIfInBounds_self_of_lt hlt]
     . rw[Array.getElem?_setIfInBounds_ne (fun e'=>e e'.symm)];exact k2 i (by omega)
   . obtain⟨v',w',hrun,ho,hgr⟩:=run_append_arg_grows (P:=Tryz.prog) w 82 ty 41 i0 (.int .u64 0) 1 8 Tryz.underlying82 hi hz0 hz1 hz2 rfl (by decide) ⟨b,0,none⟩ N cap ((List.range N).map fun(i:Nat)=>Value.int .u64 (65536+(i:Int))) (by simp)
      (fun j u hu=>by
       have hj:=(List.getElem?_eq_some_iff.1 hu).1
       simp at hj
       rw[List.getElem?_map,List.getElem?_range hj] at hu
       simp at hu;subst hu
       rw[ED,Nat.zero_add];exact h.cell hj)
      ⟨g,0,none⟩ 1 1 [.int .u64 (65536+(N:Int))] (by simp) hnews (by omega) (by unfold maxLen;omega) (by omega)
     rcases ho.2 with⟨_,h2⟩ | ⟨g',cap',cur,h',hb,hg',hcap,hmax,hsz,htake⟩
     . omega
     . subst h'
       refine⟨g',cap',w',hrun,⟨⟨cur,hg',by omega,fun i hi=>?_⟩,by simpa using hcap⟩,YE.grown (grown_of hgr),Or.inr hb⟩
       have e:=congrArg (fun q=>q[i]?) htake
       rw[List.getElem?_take_of_lt (by omega)] at e
       by_cases hiN:i<N
       . rw[List.getElem?_append_left (by simpa using hiN),List.getElem?_map,List.getElem?_range hiN] at e
         simpa using e
       . obtain rfl:i=N:=by omega
         rw[List.getElem?_append_right (by simp)] at e
         simpa using e
structure ShAt (w:World) (b N:Nat):Prop where
 ex:∃ c v,At w b 0 84 c [v]/\OM w v N/\v.ownBlock≠some b
 le:N<=8
namespace ShAt
variable {w w':World} {b N:Nat}
theorem grown (h:ShAt w b N) (g:Below w.heap.size w w'):ShAt w' b N:=⟨by obtain⟨c,v,a,k,n⟩:=h.ex;exact⟨c,v,a.grown g,k.grown g,n⟩,h.le⟩
end ShAt
structure Sh (w:World) (L:Loc) (B0 b N:Nat):Prop where
 ex:∃ c v,At w b 0 84 c [v]/\OM w v N/\∀ k,v.ownBlock=some k->¬ L.has k/\B0<=k/\k≠b
 nb:¬ L.has b
 ge:B0<=b
 le:N<=8
namespace Sh
variable {w w':World} {L:Loc} {B0 b N:Nat}
theorem sh (h:Sh w L B0 b N):ShAt w b N:=by
 obtain⟨c,v,a,k,o⟩:=h.ex
 exact⟨⟨c,v,a,k,fun e=>(o b e).2.2 rfl⟩,h.le⟩
theorem grown (h:Sh w L B0 b N) (g:Below w.heap.size w w'):Sh w' L B0 b N:=⟨by obtain⟨c,v,a,k,n⟩:=h.ex;exact⟨c,v,a.grown g,k.grown g,n⟩,h.nb,h.ge,h.le⟩
end Sh
section
variable {w:World} {b N:Nat}
theorem G9 (w:World):Calls Tryz.prog 39 #[.pointer none] w fun e w'=>e=.returned (iV 0)/\w'=w:=by
 go_enter Tryz.func39,Tryz.ntmps39
 go_wp2
 go_ret
 exact⟨rfl,rfl⟩
theorem Qe (h:ShAt w b N):Calls Tryz.prog 39 #[pP b 0] w fun e w'=>e=.returned (iV N)/\w'=w:=by
 obtain⟨c,v,a,hv,-⟩:=h.ex
 have k0:=a.at0 0 rfl
 rcases hv with⟨rfl,rfl⟩ | ⟨b,cap,rfl,-⟩
 . go_enter Tryz.func39,Tryz.ntmps39
   go_wp2
   go_ret
   exact⟨rfl,rfl⟩
 . go_enter Tryz.func39,Tryz.ntmps39
   go_wp2
   go_ret
   exact⟨rfl,rfl⟩
theorem G8 (h:ShAt w b N) (h0:0<N) (key:Int):Calls Tryz.prog 66 #[pP b 0,iV key] w fun e w'=>e=.returned (.tuple #[.int .u64 (65536+OY key N),.bool true])/\Below w.heap.size w w':=by
 have hl:=Qe h
 obtain⟨c,v,a,hv,-⟩:=h.ex
 have k0:=a.at0 0 rfl
 have hle:=h.le
 have ho:=fun w=>vY key N (by omega) (by omega) w
 obtain⟨p,hp⟩:∃ p:Nat,OY key N=p:=⟨(OY key N).toNat,by have:=Q3 key (N:=N) (by omega);omega⟩
 have oq:p<N:=by have:=Q3 key (N:=N) (by omega);omega
 rcases hv with⟨rfl,rfl⟩ | ⟨b1,cap,rfl,hr,-⟩
 . omega
 have hcl:=hr.cell oq
 have hN0:((N:Int) == 0)=false:=by simp;omega
 have hpb:(0:Int)<=(p:Int)/\(p:Int)<(N:Int):=by omega
 rw[hp] at ho ⊢
 clear hr hle hp
 go_enter Tryz.func66,Tryz.ntmps66
 go_wp2_with (go_at_call 39;refine hl.mono ?_;rintro e w1 ⟨rfl,rfl⟩)
 clear hl k0
 apply Xy 9;. kernel_rfl
 apply rV;. intros;apply ol;go_simp;exact gl
 apply rV;. intro w' hg _;apply ol;have k0:=(a.drew.grown hg).at0 0 rfl;go_simp;exact gl
 apply rV;. intro w' hg _;apply ol;have k0:=(a.drew.grown hg).at0 0 rfl;go_simp;exact gl
 apply rV;. intro w' hg _;apply ol;have k0:=(a.drew.grown hg).at0 0 rfl;go_simp;exact gl
 iterate 2 (apply rV;. intros;apply ol;go_simp;exact gl)
 try simp only[pu,s0,s1]
 apply rV;. intro w' hg _;apply ol;go_simp;exact cc (ho _)
 apply rV;. intros;apply ol;go_simp;exact gl
 apply XW;. intro w' hg _;apply ol;have k1:=keep' hg hcl;go_simp;exact gl
 try simp only[pu,s0,s1]
 intro w5 hg _
 go_wp2
 go_ret2
 exact⟨rfl,grow ((Below.refl _ _).drew) hg⟩
theorem EC (h:ShAt w b N) (h0:0<N) {kd key:Int} (hm:V4 kd key=true):Calls Tryz.prog 58 #[pP b 0,iV kd,iV key] w fun e w'=>∃ b',e=.returned (.tuple #[pP b' 0,iV 0])/\ZJ w' b' (.pointer none) (Gx kd key (65536+OY key N))/\Below w.heap.size w w'/\w.heap.size<=b':=by
 have hh:=G8 h h0 key
 have hn:=fun w=>EU kd key (65536+OY key N) hm w
 clear h hm
 generalize 65536+OY key N=H at hh hn ⊢
 go_enter Tryz.func58,Tryz.ntmps58
 go_wp2_with (first
  | (go_at_call 66;refine hh.mono ?_;rintro e w1 ⟨rfl,g1⟩)
  | (go_at_call 67;refine(hn _).mono ?_;rintro e w2 ⟨b2,rfl,lr,g2,h2⟩))
 go_ret2
 exact⟨b2,rfl,lr,grow g1 g2,Nat.le_trans g1.size h2⟩
end
end Go.Proofs.YtgehjolndmgffaaGreat
