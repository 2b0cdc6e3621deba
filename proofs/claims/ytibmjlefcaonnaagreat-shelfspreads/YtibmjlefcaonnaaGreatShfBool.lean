import Derived.Test.YtibmjlefcaonnaaGreatLstSole
import Derived.Test.YtibmjlefcaonnaaGreatPlaceSee
import Derived.ArgAppend
import Derived.Test.YtibmjlefcaonnaaGreatShfAsk
import Derived.OwnWalk
namespace Go.Proofs.YtibmjlefcaonnaaGreat
open Go.RowKit
section
def Pg (key N:Int):Int:=key % 4294967296 * 2654435769 % 4294967296 % N
theorem Q4 (key:Int) {N:Int} (h:1<=N):0<=Pg key N/\Pg key N<N :=
 ⟨Int.emod_nonneg _ (by omega),Int.emod_lt_of_pos _ (by omega)⟩
theorem Bq (key N:Int) (h1:1<=N) (h2:N<=9223372036854775807) (w:World):Calls Tryz.prog 8 #[iV key,iV N] w fun e w'=>e=.returned (iV (Pg key N))/\w'=w:=by
 have e1:=IntKind.wrap_u32 key
 have e2:wrap64 (key % 4294967296 * 2654435769 % 4294967296 % N)=Pg key N:=by
  have:=Q4 key h1
  show wrap64 (Pg key N)=_
  unfold wrap64;omega
 go_enter Tryz.func8,Tryz.ntmps8
 go_wp2
 go_ret
 exact⟨Zg e2,rfl⟩
theorem EW (key N:Int) (h1:1<=N) (h2:N<=65535) (w:World):Calls Tryz.prog 10 #[iV key,iV N] w fun e w'=>e=.returned (iV (Pg key N))/\w'=w:=by
 have e2:wrap64 (((IntKind.u64.wrap ((IntKind.u64.wrap key).tmod 4294967296 * 2654435769)).tmod 4294967296).tmod N)=Pg key N:=by
  have hn:0<=key % 4294967296/\key % 4294967296<4294967296:=by omega
  have k0:0<=IntKind.u64.wrap key:=by rw[IntKind.wrap_u64];omega
  have e0:IntKind.u64.wrap key % 4294967296=key % 4294967296:=by rw[IntKind.wrap_u64];omega
  have e1:IntKind.u64.wrap (key % 4294967296 * 2654435769)=key % 4294967296 * 2654435769:=by rw[IntKind.wrap_u64];omega
  rw[Int.tmod_eq_emod_of_nonneg k0,e0,e1,Int.tmod_eq_emod_of_nonneg (by omega:0<=key % 4294967296 * 2654435769),Int.tmod_eq_emod_of_nonneg (by omega:0<=key % 4294967296 * 2654435769 % 4294967296)]
  have:=Q4 key h1
  show wrap64 (Pg key N)=_
  unfold wrap64;omega
 have e3:N % 4294967296=N:=by omega
 go_enter Tryz.func10,Tryz.ntmps10
 go_wp2
 go_ret
 exact⟨Zg e2,rfl⟩
structure Hr (w:World) (b cap N:Nat):Prop where
 ex:∃ c,w.heap[b]?=some (.cells c 39 (0,0))/\cap<=c.size/\∀ i,i<N->c[i]?=some (.int .u64 (65536+(i:Int)))
 le:N<=cap
namespace Hr
variable {w w':World} {b cap N:Nat}
theorem lt (h:Hr w b cap N):b<w.heap.size:=by obtain⟨c,k,-⟩:=h.ex;exact We k
theorem cell (h:Hr w b cap N) {i:Nat} (hi:i<N):w.cell? ⟨b,i,none⟩=some (.int .u64 (65536+(i:Int))):=by
 obtain⟨c,k,-,k2⟩:=h.ex;exact ZV k (k2 i hi)
theorem of_block (h:Hr w b cap N) (e:w'.heap[b]?=w.heap[b]?):Hr w' b cap N:=⟨h.ex.imp fun _ k=>⟨e.trans k.1,k.2⟩,h.le⟩
theorem grown (h:Hr w b cap N) (g:Below w.heap.size w w'):Hr w' b cap N:=h.of_block (g.block _ h.lt)
theorem only {S:Nat->Prop} (h:Hr w b cap N) (o:Only S w w') (hs:¬ S b):Hr w' b cap N:=h.of_block (o.block _ h.lt hs)
theorem other (h:Hr w b cap N) {k:Nat} (hk:b≠k) (i:Nat) (v:Value):Hr (w.setCell ⟨k,i,none⟩ v) b cap N:=h.of_block (Go.Deep.blk_setCell_other _ _ _ _ (by simpa using hk))
end Hr
theorem Hr.laid {w:World} {b b' cap' M:Nat} (h:Hr w b' cap' M) (N:Nat):Hr (w.setCell ⟨b,N,none⟩ (.int .u64 (65536+(N:Int)))) b' cap' M:=by
 by_cases e:b'=b
 . subst e
   obtain⟨c,k,k1,k2⟩:=h.ex
   refine⟨⟨c.setIfInBounds N (.int .u64 (65536+(N:Int))),ZW _ _ _ _ _ _ k,by simpa using k1,fun i hi=>?_⟩,h.le⟩
   by_cases e:i=N
   . subst e
     have:=(Array.getElem?_eq_some_iff.1 (k2 i hi)).1
     rw[Array.getElem?_setIfInBounds_self_of_lt this]
   . rw[Array.getElem?_setIfInBounds_ne (fun e'=>e e'.symm)];exact k2 i hi
 . exact h.other e _ _
structure YB (v:Value) (x y:World):Prop where
 only:Only (fun k=>v.ownBlock=some k) x y
 k:∀ {b c M},Hr x b c M->Hr y b c M
namespace YB
variable {v:Value}
theorem refl (x:World):YB v x x:=⟨Only.refl _ _,id⟩
theorem trans (x y z:World) (h:YB v x y) (g:YB v y z):YB v x z:=⟨h.only.trans g.only,g.k ∘ h.k⟩
theorem grown {x y:World} (h:Grown x y):YB v x y:=⟨Only.ZZ h,fun s=>s.grown h⟩
end YB
def QV (w:World) (v:Value) (N:Nat):Prop:=(v=.slice none 0 0/\N=0)\/∃ b cap,v=.slice (some ⟨b,0,none⟩) N cap/\Hr w b cap N/\0<N
namespace QV
variable {w w':World} {v:Value} {N:Nat}
theorem nil (w:World):QV w (.slice none 0 0) 0:=Or.inl ⟨rfl,rfl⟩
theorem only {S:Nat->Prop} (h:QV w v N) (o:Only S w w') (hs:∀ k,v.ownBlock=some k->¬ S k):QV w' v N :=
 h.imp id fun⟨B,cap,e,k,p⟩=>⟨B,cap,e,k.only o (hs B (by rw[e];rfl)),p⟩
theorem grown (h:QV w v N) (g:Below w.heap.size w w'):QV w' v N:=h.imp id fun⟨B,cap,e,k,p⟩=>⟨B,cap,e,k.grown g,p⟩
theorem keep {x y:World} {u:Value} (h:QV x v N) (g:YB u x y):QV y v N:=h.imp id fun⟨B,cap,e,k,p⟩=>⟨B,cap,e,g.k k,p⟩
theorem lt (h:QV w v N) {k:Nat} (hk:v.ownBlock=some k):k<w.heap.size:=by
 rcases h with⟨rfl,-⟩ | ⟨B,cap,rfl,s,-⟩
 . cases hk
 . cases hk;exact s.lt
end QV
theorem NC {P:Program} {ops:Array Oper} {rest:List Oper} {o:Oper} {a:Act} {Q:Exit->Act->World->Prop} {w w':World} {v vx v':Value} {t:TypeId} (hg:o.guard=none) (s x:Operand)
 (hop:o.op=Op.call { callee:=Callee.builtin Builtin.append,args:=#[s,x],argTypes:=#[t,t] }) (hs:a.eval s=v) (hx:a.eval x=vx)
 (hrun:(Builtin.append_ #[t,t] o.type #[v,vx]).run P w=.ok v' w') (hK:wpList P ops Q rest (a.put o.dst v') w'):wpList P ops Q (o :: rest) a w:=by
 refine wpList_plain hg fun K hK'=>?_
 unfold Oper.wp
 simp[execOp,hop,resolve,invoke,builtin,hs,hx,hrun,Result.andThen]
 exact hK' _ _ hK
theorem O8 {P:Program} {R:World->World->Prop} {o:Oper} {a:Act} {w w':World} {φ:World->Value->Prop} {t:TypeId} {v vx v':Value} (s x:Operand)
 (ho:o.op=.call { callee:=.builtin .append,args:=#[s,x],argTypes:=#[t,t] }) (hs:a.eval s=v) (hx:a.eval x=vx)
 (hr:(Builtin.append_ #[t,t] o.type #[v,vx]).run P w=.ok v' w') (hR:R w w') (hφ:φ w' v'):Y6 P R w φ ((execOp a.eval o).run P w):=by
 unfold execOp
 simp only[ho,resolve,invoke,builtin,Sem.run_bind,Sem.run_pure,Result.andThen_ok,List.map_toArray,List.map_cons,List.map_nil,hs,hx,hr]
 exact⟨hR,hφ⟩
theorem rH:(Tryz.prog.info? 39).map (fun i=>(i.zero,i.size,i.bytes))=some (some (.int .u64 0),1,8):=by kernel_rfl
theorem grown_of {w w':World} (h:w.grownBy w' none):Grown w w':=⟨h.os,h.tape,h.output,h.size,fun k hk=>h.block k hk (by simp)⟩
theorem KN (b off j:Nat):(⟨b,off,none⟩:Addr).add j=⟨b,off+j,none⟩:=by unfold Addr.add;split <;> simp_all
theorem QV.push {w:World} {v:Value} {N:Nat} (h:QV w v N) (g:Nat) (hg:w.cell? ⟨g,0,none⟩=some (.int .u64 (65536+(N:Int)))) (hN:N<=900) (ty:TypeId) :
 ∃ b' cap' w',(Builtin.append_ #[36,36] ty #[v,.slice (some ⟨g,0,none⟩) 1 1]).run Tryz.prog w=.ok (.slice (some ⟨b',0,none⟩) (N+1) cap') w'/\Hr w' b' cap' (N+1)/\YB v w w'/\(v.ownBlock=some b'\/w.heap.size<=b'):=by
 obtain⟨i0,hi,hz0,hz1,hz2⟩:=info_parts rH
 have hnews:∀ j u,[Value.int .u64 (65536+(N:Int))][j]?=some u->w.cell? ((⟨g,0,none⟩:Addr).add j)=some u:=fun j u hu=>by
  cases j with
  | zero=>simp at hu;subst hu;rw[KN];exact hg
  | succ j=>simp at hu
 rcases h with⟨rfl,rfl⟩ | ⟨b,cap,rfl,h,-⟩
 . obtain⟨v',w',hrun,ho,hgr,-⟩:=run_append_own (P:=Tryz.prog) w w.heap.size 36 ty 39 i0 (.int .u64 0) 1 8 Tryz.underlying36 hi hz0 hz1 hz2 rfl (by decide) (.slice none 0 0) 0 [] (World.ownsRow_nil w _ 39 1) ⟨g,0,none⟩ 1 1 [.int .u64 (65536+((0:Nat):Int))] rfl hnews (by simp[Value.oneCell']) (by unfold maxLen;omega) (by omega) (Nat.le_refl _)
   rcases ho.2 with⟨_,h3⟩ | ⟨g',cap',cur,h',hb,hg',hcap,hmax,hsz,htake⟩
   . omega
   . subst h'
     refine⟨g',cap',w',hrun,⟨⟨cur,hg',by omega,fun i hi=>?_⟩,by simpa using hcap⟩,YB.grown (grown_of hgr),Or.inr hb⟩
     obtain rfl:i=0:=by omega
     have e:=congrArg (fun q=>q[0]?) htake
     rw[List.getElem?_take_of_lt (by decide)] at e
     simpa using e
 . by_cases hr:N+1<=cap
   . obtain⟨c,k,k1,k2⟩:=h.ex
     have hlt:N<c.size:=by omega
     have hcell:w.cell? ⟨b,N,none⟩=some (c[N]):=ZV k (Array.getElem?_eq_getElem hlt)
     have hrun:=run_append_room_cells (P:=Tryz.prog) w 36 ty 39 i0 Tryz.underlying36 hi b 0 N cap ⟨g,0,none⟩ 1 1 [.int .u64 (65536+(N:Int))] (by simp[hz1]) hnews (by simp[Value.oneCell']) hr
      (fun j hj=>by
       have:j=0:=by simpa using hj
       subst this;rw[hz1,Nat.mul_one,Nat.add_zero,Nat.zero_add,hcell];rfl)
      (fun j hj=>YK k _)
     rw[hz1,Nat.mul_one,Nat.zero_add,show w.setCells b N [.int .u64 (65536+(N:Int))]=w.setCell ⟨b,N,none⟩ (.int .u64 (65536+(N:Int))) by simp[World.setCells]] at hrun
     refine⟨b,cap,_,hrun,⟨⟨c.setIfInBounds N (.int .u64 (65536+(N:Int))),ZW _ _ _ _ _ _ k,by simpa using k1,fun i hi=>?_⟩,hr⟩,⟨(Only.setCell (a:=⟨b,N,none⟩) (Only.refl (fun k=>k=b) w) (fun _=>rfl) _).mono (fun i _ e=>by rw[e];rfl),fun s=>s.laid N⟩,Or.inl rfl⟩
     by_cases e:i=N
     . subst e;rw[Array.getElem?_setIfInBounds_self_of_lt hlt]
     . rw[Array.getElem?_setIfInBounds_ne (fun e'=>e e'.symm)];exact k2 i (by omega)
   . obtain⟨v',w',hrun,ho,hgr⟩:=run_append_arg_grows (P:=Tryz.prog) w 36 ty 39 i0 (.int .u64 0) 1 8 Tryz.underlying36 hi hz0 hz1 hz2 rfl (by decide) ⟨b,0,none⟩ N cap ((List.range N).map fun(i:Nat)=>Value.int .u64 (65536+(i:Int))) (by simp)
      (fun j u hu=>by
       have hj:=(List.getElem?_eq_some_iff.1 hu).1
       simp at hj
       rw[List.getElem?_map,List.getElem?_range hj] at hu
       simp at hu;subst hu
       rw[KN,Nat.zero_add];exact h.cell hj)
      ⟨g,0,none⟩ 1 1 [.int .u64 (65536+(N:Int))] (by simp) hnews (by omega) (by unfold maxLen;omega) (by omega)
     rcases ho.2 with⟨_,h2⟩ | ⟨g',cap',cur,h',hb,hg',hcap,hmax,hsz,htake⟩
     . omega
     . subst h'
       refine⟨g',cap',w',hrun,⟨⟨cur,hg',by omega,fun i hi=>?_⟩,by simpa using hcap⟩,YB.grown (grown_of hgr),Or.inr hb⟩
       have e:=congrArg (fun q=>q[i]?) htake
       rw[List.getElem?_take_of_lt (by omega)] at e
       by_cases hiN:i<N
       . rw[List.getElem?_append_left (by simpa using hiN),List.getElem?_map,List.getElem?_range hiN] at e
         simpa using e
       . obtain rfl:i=N:=by omega
         rw[List.getElem?_append_right (by simp)] at e
         simpa using e
set_option maxRecDepth 20000 in
theorem Hr.clone {w:World} {b cap N:Nat} (h:Hr w b cap N) (h0:0<N) (hN:N<=900):Calls Tryz.prog 22 #[.slice (some ⟨b,0,none⟩) N cap] w fun e w'=>∃ b' cap',e=.returned (.slice (some ⟨b',0,none⟩) N cap')/\Hr w' b' cap' N/\Below w.heap.size w w'/\w.heap.size<=b':=by
 obtain⟨i0,hi,hz0,hz1,hz2⟩:=info_parts rH
 have h1:=h.grown (Z5 (Below.refl _ _) (.cells #[] 39))
 obtain⟨v',w',hrun,ho,hgr⟩:=run_append_arg_grows (P:=Tryz.prog) (w.alloc (.cells #[] 39)) 36 36 39 i0 (.int .u64 0) 1 8 Tryz.underlying36 hi hz0 hz1 hz2 rfl (by decide) ⟨w.heap.size,0,none⟩ 0 0 [] (by simp) (by simp)
  ⟨b,0,none⟩ N cap ((List.range N).map fun(i:Nat)=>Value.int .u64 (65536+(i:Int))) (by simp) (fun j u hu=>by
   have hj:=(List.getElem?_eq_some_iff.1 hu).1
   simp at hj
   rw[List.getElem?_map,List.getElem?_range hj] at hu
   simp at hu;subst hu
   rw[KN,Nat.zero_add];exact h1.cell hj) (by omega) (by unfold maxLen;omega) (by omega)
 rw[Nat.zero_add] at ho
 rcases ho.2 with⟨_,h2⟩ | ⟨g',cap',cur,h',hb,hg',hcap,hmax,hsz,htake⟩
 . omega
 subst h'
 have hr:Hr w' g' cap' N:=⟨⟨cur,hg',by omega,fun i hi=>by
  have e:=congrArg (fun q=>q[i]?) htake
  rw[List.getElem?_take_of_lt (by omega)] at e
  rw[List.nil_append,List.getElem?_map,List.getElem?_range hi] at e
  simpa using e⟩,by simpa using hcap⟩
 rw[Go.Deep.nblk_alloc] at hb
 have hB:Below w.heap.size w w':=grow (Z5 (Below.refl _ _) (.cells #[] 39)) (grown_of hgr)
 clear ho htake hg' hcap hmax hsz hgr h h1 hi hz0 hz1 hz2
 have he:∀ w,(binOp .eql 36 (.slice (some ⟨b,0,none⟩) N cap) (.slice none 0 0)).run Tryz.prog w=.ok (.bool false) w:=fun w=>by kernel_rfl
 go_enter Tryz.func22,Tryz.ntmps22
 go_wp2_with (at_builtin;refine NC rfl (.tmp 5) (.tmp 6) rfl rfl rfl hrun ?_)
 go_ret
 exact⟨g',cap',rfl,hr,hB,by omega⟩
set_option maxRecDepth 20000 in
theorem clone_nil (w:World):Calls Tryz.prog 22 #[.slice none 0 0] w fun e w'=>e=.returned (.slice none 0 0)/\w'=w:=by
 have he:∀ w,(binOp .eql 36 (.slice none 0 0) (.slice none 0 0)).run Tryz.prog w=.ok (.bool true) w:=fun w=>by kernel_rfl
 go_enter Tryz.func22,Tryz.ntmps22
 go_wp2
 go_ret
 exact⟨rfl,rfl⟩
theorem QV.clone {w:World} {v:Value} {N:Nat} (h:QV w v N) (hN:N<=900):Calls Tryz.prog 22 #[v] w fun e w'=>∃ v',e=.returned v'/\QV w' v' N/\Below w.heap.size w w'/\∀ k,v'.ownBlock=some k->w.heap.size<=k:=by
 rcases h with⟨rfl,rfl⟩ | ⟨b,cap,rfl,h,h0⟩
 . refine(clone_nil w).mono ?_
   rintro e w' ⟨rfl,rfl⟩
   exact⟨_,rfl,QV.nil _,Below.refl _ _,fun k hk=>by cases hk⟩
 . refine(h.clone h0 hN).mono ?_
   rintro e w' ⟨b',cap',rfl,hr,hB,hge⟩
   exact⟨_,rfl,Or.inr ⟨b',cap',rfl,hr,h0⟩,hB,fun k hk=>by cases hk;exact hge⟩
structure ShAt (w:World) (b N:Nat):Prop where
 ex:∃ c v,At w b 0 59 c [v]/\QV w v N/\v.ownBlock≠some b
 le:N<=8
namespace ShAt
variable {w w':World} {b N:Nat}
end ShAt
structure Sh (w:World) (L:Loc) (B0 b N:Nat):Prop where
 ex:∃ c v,At w b 0 59 c [v]/\QV w v N/\∀ k,v.ownBlock=some k->¬ L.has k/\B0<=k/\k≠b
 nb:¬ L.has b
 ge:B0<=b
 le:N<=8
namespace Sh
variable {w w':World} {L:Loc} {B0 b N:Nat}
theorem sh (h:Sh w L B0 b N):ShAt w b N:=by
 obtain⟨c,v,a,k,o⟩:=h.ex
 exact⟨⟨c,v,a,k,fun e=>(o b e).2.2 rfl⟩,h.le⟩
theorem grown (h:Sh w L B0 b N) (g:Below w.heap.size w w'):Sh w' L B0 b N:=⟨by obtain⟨c,v,a,k,n⟩:=h.ex;exact⟨c,v,a.grown g,k.grown g,n⟩,h.nb,h.ge,h.le⟩
theorem only (h:Sh w L B0 b N) (o:Only L.has w w'):Sh w' L B0 b N:=⟨by obtain⟨c,v,a,k,n⟩:=h.ex;exact⟨c,v,a.only o h.nb,k.only o (fun x hx=>(n x hx).1),n⟩,h.nb,h.ge,h.le⟩
end Sh
section
variable {w:World} {b N:Nat}
theorem Qj (h:ShAt w b N):Calls Tryz.prog 14 #[pP b 0] w fun e w'=>e=.returned (iV N)/\w'=w:=by
 obtain⟨c,v,a,hv,-⟩:=h.ex
 have k0:=a.at0 0 rfl
 rcases hv with⟨rfl,rfl⟩ | ⟨b,cap,rfl,-⟩
 . go_enter Tryz.func14,Tryz.ntmps14
   go_wp2
   go_ret
   exact⟨rfl,rfl⟩
 . go_enter Tryz.func14,Tryz.ntmps14
   go_wp2
   go_ret
   exact⟨rfl,rfl⟩
theorem H8 (h:ShAt w b N):Calls Tryz.prog 13 #[pP b 0] w fun e w'=>∃ v',e=.returned v'/\QV w' v' N/\Below w.heap.size w w'/\∀ k,v'.ownBlock=some k->w.heap.size<=k:=by
 obtain⟨c,v,a,hv,-⟩:=h.ex
 have k0:=a.at0 0 rfl
 have hc:=hv.clone (by have:=h.le;omega)
 go_enter Tryz.func13,Tryz.ntmps13
 go_wp2_with (go_at_call 22;refine hc.mono ?_;rintro e w1 ⟨v',rfl,r1,r2,r3⟩)
 go_ret
 exact⟨v',rfl,r1,r2,r3⟩
theorem ET (h:ShAt w b N):Calls Tryz.prog 13 #[pP b 0] w fun e w'=>∃ (a:Option Addr) (cap:Nat),e=.returned (.slice a N cap)/\(∀ i,i<N->∃ B,a=some ⟨B,0,none⟩/\w.heap.size<=B/\Hr w' B cap N)/\Below w.heap.size w w':=by
 refine(H8 h).mono ?_
 rintro e w' ⟨v',rfl,⟨rfl,rfl⟩ | ⟨B,cap,rfl,hr,hh⟩,g,k⟩
 . exact⟨none,0,rfl,fun i hi=>absurd hi (by omega),g⟩
 . exact⟨_,cap,rfl,fun i hi=>⟨B,rfl,k B rfl,hr⟩,g⟩
theorem TC (h:ShAt w b N) (h0:0<N) (key:Int):Calls Tryz.prog 16 #[pP b 0,iV key] w fun e w'=>e=.returned (.tuple #[.int .u64 (65536+Pg key N),.bool true])/\Below w.heap.size w w':=by
 have hl:=Qj h
 obtain⟨c,v,a,hv,-⟩:=h.ex
 have k0:=a.at0 0 rfl
 have hle:=h.le
 have ho:=fun w=>Bq key N (by omega) (by omega) w
 obtain⟨p,hp⟩:∃ p:Nat,Pg key N=p:=⟨(Pg key N).toNat,by have:=Q4 key (N:=N) (by omega);omega⟩
 have vY:p<N:=by have:=Q4 key (N:=N) (by omega);omega
 rcases hv with⟨rfl,rfl⟩ | ⟨b1,cap,rfl,hr,-⟩
 . omega
 have hcl:=hr.cell vY
 have hN0:((N:Int) == 0)=false:=by simp;omega
 have hpb:(0:Int)<=(p:Int)/\(p:Int)<(N:Int):=by omega
 rw[hp] at ho ⊢
 clear hr hle hp
 go_enter Tryz.func16,Tryz.ntmps16
 go_wp2_with (go_at_call 14;refine hl.mono ?_;rintro e w1 ⟨rfl,rfl⟩)
 clear hl k0
 apply Xk 9;. kernel_rfl
 apply rV;. intros;apply ol;go_simp;exact gl
 apply rV;. intro w' hg _;apply ol;have k0:=(a.drew.grown hg).at0 0 rfl;go_simp;exact gl
 apply rV;. intro w' hg _;apply ol;have k0:=(a.drew.grown hg).at0 0 rfl;go_simp;exact gl
 apply rV;. intro w' hg _;apply ol;have k0:=(a.drew.grown hg).at0 0 rfl;go_simp;exact gl
 iterate 2 (apply rV;. intros;apply ol;go_simp;exact gl)
 try simp only[pu,s0,s1]
 apply rV;. intro w' hg _;apply ol;go_simp;exact cc (ho _)
 apply rV;. intros;apply ol;go_simp;exact gl
 apply XQ;. intro w' hg _;apply ol;have k1:=keep' hg hcl;go_simp;exact gl
 try simp only[pu,s0,s1]
 intro w5 hg _
 go_wp2
 go_ret2
 exact⟨rfl,grow ((Below.refl _ _).drew) hg⟩
theorem EU (h:ShAt w b N) (h0:0<N) {kd key:Int} (hm:UW kd key=true):Calls Tryz.prog 15 #[pP b 0,iV kd,iV key] w fun e w'=>∃ b',e=.returned (.tuple #[pP b' 0,iV 0])/\ZH w' b' (.pointer none) (Af kd key (65536+Pg key N))/\Below w.heap.size w w'/\w.heap.size<=b':=by
 have hh:=TC h h0 key
 have hn:=fun w=>F8 kd key (65536+Pg key N) hm w
 clear h hm
 generalize 65536+Pg key N=H at hh hn ⊢
 go_enter Tryz.func15,Tryz.ntmps15
 go_wp2_with (first
  | (go_at_call 16;refine hh.mono ?_;rintro e w1 ⟨rfl,g1⟩)
  | (go_at_call 23;refine(hn _).mono ?_;rintro e w2 ⟨b2,rfl,lr,g2,h2⟩))
 go_ret2
 exact⟨b2,rfl,lr,grow g1 g2,Nat.le_trans g1.size h2⟩
end
end
section
def Qk (n k N Jm J:Nat) (L:Loc) (w:World) (σm:Nat) (S:Nat->Int->Prop):Prop :=
 ∃ s σ q pv h hd P F,O9 1 n k L 0 Jm J w s σ q pv h N hd P F S/\(∀ a,a<N->h.H (hd a)=65536+(a:Int))/\σ<=σm
def yY (n k N Jm J:Nat) (L:Loc) (w:World) (σm:Nat) (S:Nat->Int->Prop) (i:Nat) (kd key v:Int):Prop :=
 ∃ S',Qk n k N Jm (J+(if kd=2 then 1 else 0)) L w σm S'/\((v=1/\(S i key↔kd≠2))\/(v=0/\¬ (S i key↔kd≠2)))/\(∀ x,0<=x->(S' i x↔if kd≠1/\x=key then kd=2 else S i x))/\(∀ a,a≠i->S' a=S a)
def CB (n k N Jm J:Nat) (L:Loc) (W:World) (σm:Nat) (S:Nat->Int->Prop) (i:Nat) (kd key:Int) (b M j:Nat) (w1:World):Prop :=
 ∃ s σ q pv h hd P F,O9 1 n k L 0 Jm J W s σ q pv h N hd P F S/\(∀ a,a<N->h.H (hd a)=65536+(a:Int))/\σ<=σm/\IX 1 n k L 0 Jm J (S i) kd key (h.H (hd i)) (hd i) b M σ W (h.view (P i)) j w1
section
variable {n k N Jm J M σm:Nat} {L:Loc} {w w':World} {S:Nat->Int->Prop} {i:Nat} {kd key v:Int}
theorem Qk.first {s:Mm} {σ:Nat} {q:Q} (A:UN 1 n k 40 N q) (hk:1<=k) (h3:N<=13) (hN:N≠0) (mm:Z7 w L s) (vl:XF 1 n k 40 s σ q (fun _=>0)) (EK:3 * Jm<(k - 2) * 38) (hσ:σ<=σm):Qk n k N Jm N L w σm (fun _ _=>False) :=
 ⟨_,_,_,_,_,_,_,_,A.oC hk h3 hN mm vl EK,fun a ha=>Bo (by omega),hσ⟩
theorem Qk.grown (A:Qk n k N Jm J L w σm S) (g:Below w.heap.size w w'):Qk n k N Jm J L w' σm S:=by
 obtain⟨s,σ,q,pv,h,hd,P,F,A,hH,hs⟩:=A
 exact⟨s,σ,q,pv,h,hd,P,F,{ A with mm:=A.mm.below g },hH,hs⟩
theorem yY.of {σ:Nat} {h:Gh} {hd:Nat->Nat} (A:sZ 1 n k L 0 Jm J N hd S i kd key v h σ M w) (hH:∀ a,a<N->h.H (hd a)=65536+(a:Int)) (hs:σ<=σm):yY n k N Jm J L w (σm+M) S i kd key v:=by
 obtain⟨s',σ',q',pv',h',P',F',S',A',a1,a2,a3,a4,a5,a6⟩:=A
 exact⟨S',⟨s',σ',q',pv',h',hd,P',F',A',fun a ha=>(a4 a ha).trans (hH a ha),by omega⟩,a1,a2,a3⟩
theorem Qk.begin {g p r:Int} {w1:World} {b:Nat} (A:Qk n k N Jm J L w σm S) (hi:i<N) (hG:Good 1 n k 40 g p r) (hn:n<=65535) (hM:60 * n+2 * k+126<=M) (EK:J+1<=Jm) (IW:Jm<=97) (hk:kd=1\/kd=2\/kd=3) (k0:0<=key) (k1:key<1073741824) (g1:Below w.heap.size w w1) (hb:w.heap.size<=b) (lr:ZH w1 b (.pointer none) (Af kd key (65536+(i:Int)))):CB n k N Jm J L w σm S i kd key b M 0 w1:=by
 obtain⟨s,σ,q,pv,h,hd,P,F,A,hH,hs⟩:=A
 have len:=A.len hi
 exact⟨s,σ,q,pv,h,hd,P,F,A,hH,hs,A.begin hi hG hn EK IW (by decide) (by omega) hk k0 k1 g1 hb (by rw[hH i hi];exact lr)⟩
theorem wW {n k:Nat} (h1:1<=n) (h2:n<=60) (h3:1<=k) (h4:k<=16):Good 1 n k 40 100 600 3:=⟨by decide,by decide,by omega,by omega,by omega,by omega,by decide,by decide,by decide,by decide,by decide,by decide,by decide,by decide⟩
theorem CB.only {b j:Nat} {w1:World} (I:CB n k N Jm J L w σm S i kd key b M j w1):Only L.has w w1:=by
 obtain⟨s,σ,q,pv,h,hd,P,F,A,hH,hs,s',σ',q',Yu,h',CY,F',u',ts',C,rs,S2,a,ph,-,-,-,-,-,-,-,-,-,-,-,on,-⟩:=I
 exact on
theorem CB.step {g p r:Int} {w1:World} {b j:Nat} (I:CB n k N Jm J L w σm S i kd key b M j w1) (hi:i<N) (hG:Good 1 n k 40 g p r) (hn:n<=65535) (vV:J+1<n) (IW:Jm<=97) (hg:99<=g) (hσ:σm+M<1000000) (hb:w.heap.size<=b) :
 Calls Tryz.prog 17 #[pP b 0,Dt 1 n k 40 g p r L.p 0] w1 fun e w'=>(e=.returned (.bool false)/\j+1<M/\CB n k N Jm J L w σm S i kd key b M (j+1) w')\/(e=.returned (.bool true)/\Only L.has w w'/\∃ (v:Int),(∃ S2,ZH w' b (.pointer none) S2/\S2.kd≠0/\S2.nx=13/\S2.cE=0/\S2.cH=0/\S2.cV=v)/\yY n k N Jm J L w' (σm+M) S i kd key v):=by
 obtain⟨s,σ,q,pv,h,hd,P,F,A,hH,hs,I⟩:=I
 refine(I.step hG hn IW hg (by decide) (by decide) (by omega) hb).mono ?_
 rintro e w' (⟨rfl,hj,I'⟩ | ⟨rfl,D⟩)
 . exact Or.inl ⟨rfl,hj,s,σ,q,pv,h,hd,P,F,A,hH,hs,I'⟩
 . obtain⟨S2,v,st,lr,b1,b2,b3,b4,b5,b6,on,T⟩:=A.done hi (by decide) vV D
   exact Or.inr ⟨rfl,on,v,⟨S2,lr,b1,b2,b3,b4,b5⟩,yY.of T hH hs⟩
end
end
section
theorem wV:∃ i0,Tryz.prog.info? 4=some i0/\i0.zero=some (.bool false)/\i0.size=1/\i0.bytes=1:=by
 have h:(Tryz.prog.info? 4).map (fun i=>(i.zero,i.size,i.bytes))=some (some (.bool false),1,1):=by kernel_rfl
 cases e:Tryz.prog.info? 4 with
 | none=>rw[e] at h;cases h
 | some i =>
  rw[e] at h
  simp only[Option.map_some,Option.some.injEq,Prod.mk.injEq] at h
  exact⟨i,rfl,h.1,h.2.1,h.2.2⟩
theorem ND {w w':World} (h:w.grownBy w' none):Grown w w':=⟨h.os,h.tape,h.output,h.size,fun k hk=>h.block k hk (by simp)⟩
structure Bz (w:World) (B ln:Nat) (z:Nat->Bool):Prop where
 ex:∃ c,w.heap[B]?=some (.cells c 4 (0,0))/\ln<=c.size/\∀ i,i<ln->c[i]?=some (.bool (z i))
namespace Bz
variable {w w':World} {B ln:Nat} {z:Nat->Bool}
theorem lt (h:Bz w B ln z):B<w.heap.size:=by obtain⟨c,k,-⟩:=h.ex;exact We k
theorem cell (h:Bz w B ln z) {i:Nat} (hi:i<ln):w.cell? ⟨B,i,none⟩=some (.bool (z i)):=by
 obtain⟨c,k,-,k2⟩:=h.ex;exact ZV k (k2 i hi)
theorem fz (h:Bz w B ln z) (i:Nat):w.frozen? ⟨B,i,none⟩=false:=by obtain⟨c,k,-⟩:=h.ex;exact YK k i
theorem of_block (h:Bz w B ln z) (e:w'.heap[B]?=w.heap[B]?):Bz w' B ln z:=⟨h.ex.imp fun _ k=>⟨e.trans k.1,k.2⟩⟩
theorem grown (h:Bz w B ln z) (g:Below w.heap.size w w'):Bz w' B ln z:=h.of_block (g.block _ h.lt)
theorem only {S:Nat->Prop} (h:Bz w B ln z) (o:Only S w w') (hs:¬ S B):Bz w' B ln z:=h.of_block (o.block _ h.lt hs)
theorem set (h:Bz w B ln z) {j:Nat} (hj:j<ln) (v:Bool):Bz (w.setCell ⟨B,j,none⟩ (.bool v)) B ln (upd z j v):=by
 obtain⟨c,k,k1,k2⟩:=h.ex
 refine⟨⟨c.setIfInBounds j (.bool v),ZW _ _ _ _ _ _ k,by simpa using k1,fun i hi=>?_⟩⟩
 by_cases e:i=j
 . subst e
   rw[upd_same,Array.getElem?_setIfInBounds_self_of_lt (by omega)]
 . rw[Z8 _ _ _ _ e,Array.getElem?_setIfInBounds_ne (fun e'=>e e'.symm)];exact k2 i hi
theorem made {base:Nat} {B ln:Nat} (h:w.ownsRow base 4 1 (.slice (some ⟨B,0,none⟩) ln ln) ln (madeCells #[.bool false] (ln * 1)).toList) (h0:0<ln):Bz w B ln (fun _=>false):=by
 rcases h.2 with⟨_,h2⟩ | ⟨g',cap',cur,h',hb,hg',hcap,hmax,hsz,htake⟩
 . omega
 . cases h'
   refine⟨⟨cur,hg',by omega,fun i hi=>?_⟩⟩
   have e1:cur.toList[i]?=(madeCells #[.bool false] (ln * 1)).toList[i]?:=by
    rw[<- htake,List.getElem?_take,if_pos (by omega)]
   rw[Array.getElem?_toList] at e1
   rw[e1,Array.getElem?_toList]
   unfold madeCells
   rw[Array.getElem?_map,Array.getElem?_range,if_pos (by omega)]
   simp[Nat.mod_one]
end Bz
theorem CE (key:Int) {N:Nat} (h:1<=N):∃ p:Nat,Pg key N=p/\p<N:=by
 have:=Q4 key (N:=N) (by omega)
 exact⟨(Pg key N).toNat,by omega,by omega⟩
def Kz (S:Nat->Int->Prop) (N:Nat) (z:Nat->Bool):Prop:=∀ x p:Nat,x<32->Pg x N=p->(S p x↔z x=true)
theorem Kz.none (N:Nat):Kz (fun _ _=>False) N (fun _=>false):=fun _ _ _ _=>⟨False.elim,fun h=>by cases h⟩
section
variable {n k N Jm J M σm:Nat} {L:Loc} {w w':World} {S:Nat->Int->Prop} {i:Nat} {kd v:Int} {key:Nat} {z:Nat->Bool}
theorem yY.kz (A:yY n k N Jm J L w σm S i kd key v) (h:Kz S N z) (hk:key<32) (hi:Pg key N=i):v=(if z key=decide (kd≠2) then 1 else 0)/\∃ S',Qk n k N Jm (J+(if kd=2 then 1 else 0)) L w σm S'/\Kz S' N (upd z key (if kd=1 then z key else decide (kd=2))):=by
 obtain⟨S',A',a1,a2,a3⟩:=A
 refine⟨?_,S',A',fun x p hx hp=>?_⟩
 . rw[h key i hk hi] at a1
   have e:z key=decide (kd≠2)↔(z key=true↔kd≠2):=by
    by_cases hd:kd=2
    . cases z key <;> simp[hd]
    . cases z key <;> simp[hd]
   rcases a1 with⟨a1,b⟩ | ⟨a1,b⟩
   . rw[if_pos (e.2 b)];exact a1
   . rw[if_neg (fun hh=>b (e.1 hh))];exact a1
 . by_cases ex:x=key
   . subst ex
     obtain rfl:p=i:=by have:(p:Int)=(i:Int):=hp.symm.trans hi;omega
     rw[a2 x (by omega),upd_same]
     by_cases h1:kd=1
     . rw[if_neg (fun hh=>hh.1 h1),if_pos h1];exact h x p hx hp
     . rw[if_pos ⟨h1,rfl⟩,if_neg h1];simp
   . rw[Z8 _ _ _ _ ex]
     by_cases ep:p=i
     . subst ep
       rw[a2 x (by omega),if_neg (fun hh=>ex (by omega))];exact h x p hx hp
     . rw[a3 p ep];exact h x p hx hp
theorem Qk.ZX (A:Qk n k N Jm J L w σm S) {B:Nat} (hB:¬ L.has B) (j:Nat) (u:Value):Qk n k N Jm J L (w.setCell ⟨B,j,none⟩ u) σm S:=by
 obtain⟨s,σ,q,pv,h,hd,P,F,A,hH,hs⟩:=A
 exact⟨s,σ,q,pv,h,hd,P,F,{ A with mm:=A.mm.ZX hB j u },hH,hs⟩
end
end
end Go.Proofs.YtibmjlefcaonnaaGreat
