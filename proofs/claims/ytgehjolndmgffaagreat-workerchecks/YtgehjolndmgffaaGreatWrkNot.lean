import Derived.Test.YtgehjolndmgffaaGreatBox
import Derived.Test.YtgehjolndmgffaaGreatDropActs
import Derived.ArgAppend
import Derived.Test.YtgehjolndmgffaaGreatLstRec
import Derived.Test.YtgehjolndmgffaaGreatShfLeaf
import Derived.Test.YtgehjolndmgffaaGreatWrkLeaf
namespace Go.Proofs.YtgehjolndmgffaaGreat
open Go.RowKit
section
end
section
namespace Rw
variable {w w':World} {T T':TypeId} {b b' cap cap':Nat} {l l':List Value}
end Rw
theorem Grown.of {w w':World} (h:w.grownBy w' none):Grown w w':=⟨h.os,h.tape,h.output,h.size,fun k hk=>h.block k hk (by simp)⟩
theorem add_lit (b off j:Nat):(⟨b,off,none⟩:Addr).add j=⟨b,off+j,none⟩:=by unfold Addr.add;split <;> simp_all
end
section
theorem WY {z:Nat} {l:List (List Value)} (h:∀ e∈l,e.length=z):l.flatten.length=z * l.length:=by
 induction l with
 | nil=>rfl
 | cons q t ih =>
  have:=h q (List.mem_cons_self ..)
  have:=ih fun e he=>h e (List.mem_cons_of_mem _ he)
  rw[List.flatten_cons,List.length_append,List.length_cons,Nat.mul_add];omega
theorem DD {z i j:Nat} {l:List (List Value)} {e:List Value} (hl:∀ e∈l,e.length=z) (h:l[i]?=some e) (hj:j<z):l.flatten[i * z+j]?=e[j]?:=by
 induction l generalizing i with
 | nil=>simp at h
 | cons a t ih =>
  have ha:=hl a (List.mem_cons_self ..)
  rw[List.flatten_cons]
  cases i with
  | zero =>
   simp at h;subst h
   rw[Nat.zero_mul,Nat.zero_add,List.getElem?_append_left (by omega)]
  | succ i =>
   rw[Nat.succ_mul,List.getElem?_append_right (by omega),show i * z+z+j - a.length=i * z+j by omega]
   exact ih (fun e he=>hl e (List.mem_cons_of_mem _ he)) (by simpa using h)
structure Rz (w:World) (T:TypeId) (z b cap:Nat) (l:List (List Value)):Prop where
 ex:∃ c,w.heap[b]?=some (.cells c T (0,0))/\z * cap<=c.size/\∀ (i:Nat) (x:Value),l.flatten[i]?=some x->c[i]?=some x
 le:l.length<=cap
 ln:∀ e∈l,e.length=z
namespace Rz
variable {w w':World} {T:TypeId} {z b cap:Nat} {l:List (List Value)}
theorem lt (h:Rz w T z b cap l):b<w.heap.size:=by obtain⟨c,k,_⟩:=h.ex;exact XP k
theorem cell0 (h:Rz w T z b cap l) {i:Nat} {x:Value} (hx:l.flatten[i]?=some x):w.cell? ⟨b,i,none⟩=some x:=by
 obtain⟨c,k,_,k2⟩:=h.ex;exact ZW k (k2 i x hx)
theorem cell (h:Rz w T z b cap l) {i j:Nat} {e:List Value} {x:Value} (he:l[i]?=some e) (hx:e[j]?=some x):w.cell? ⟨b,i * z+j,none⟩=some x:=by
 have hl:=h.ln e (List.mem_of_getElem? he)
 have hj:=(List.getElem?_eq_some_iff.1 hx).1
 exact h.cell0 ((DD h.ln he (by omega)).trans hx)
theorem of_block (h:Rz w T z b cap l) (e:w'.heap[b]?=w.heap[b]?):Rz w' T z b cap l:=⟨h.ex.imp fun _ k=>⟨e.trans k.1,k.2⟩,h.le,h.ln⟩
theorem grown (h:Rz w T z b cap l) (g:Below w.heap.size w w'):Rz w' T z b cap l:=h.of_block (g.block _ h.lt)
theorem only {S:Nat->Prop} (h:Rz w T z b cap l) (o:Only S w w') (hs:¬ S b):Rz w' T z b cap l:=h.of_block (o.block _ h.lt hs)
theorem fresh (w:World) (T:TypeId) (z:Nat):Rz (w.alloc (.cells #[] T)) T z w.heap.size 0 []:=⟨⟨#[],Go.Deep.blk_alloc_new _ _,by simp,fun i x h=>by simp at h⟩,by simp,fun _ h=>by cases h⟩
end Rz
theorem UQ {b:Nat} {T:TypeId} (news:List Value):∀ (w:World) (off:Nat) (c:Array Value),w.heap[b]?=some (.cells c T (0,0)) ->
 ∃ c',(w.setCells b off news).heap[b]?=some (.cells c' T (0,0))/\c'.size=c.size/\(∀ i,(i<off\/off+news.length<=i)->c'[i]?=c[i]?)/\(∀ (j:Nat) u,news[j]?=some u->off+j<c.size->c'[off+j]?=some u):=by
 induction news with
 | nil=>intro w off c h;exact⟨c,by simpa [World.setCells] using h,rfl,fun _ _=>rfl,fun j u hu=>by simp at hu⟩
 | cons x t ih =>
  intro w off c h
  have h1:=ZV w b off x c T h
  obtain⟨c',k,k1,k2,k3⟩:=ih _ (off+1) _ h1
  refine⟨c',by simpa [World.setCells] using k,by simpa using k1,fun i hi=>?_,fun j u hu hj=>?_⟩
  . have:i<off\/off+(t.length+1)<=i:=by simpa using hi
    rw[k2 i (by omega),Array.getElem?_setIfInBounds_ne (by omega)]
  . cases j with
    | zero =>
     simp at hu;subst hu
     rw[Nat.add_zero,k2 off (by omega),Array.getElem?_setIfInBounds_self_of_lt (by omega)]
    | succ j =>
     have:=k3 j u (by simpa using hu) (by simp;omega)
     rw[show off+(j+1)=off+1+j by omega];exact this
theorem Vt {b:Nat} (news:List Value):∀ (w w0:World) (off:Nat),Only (fun k=>k=b) w0 w->Only (fun k=>k=b) w0 (w.setCells b off news):=by
 induction news with
 | nil=>intro w w0 off h;simpa [World.setCells] using h
 | cons x t ih =>
  intro w w0 off h
  have:=ih (w.setCell ⟨b,off,none⟩ x) w0 (off+1) (Only.setCell (a:=⟨b,off,none⟩) h (fun _=>rfl) x)
  simpa [World.setCells] using this
theorem Rz.app {w:World} {T S:TypeId} {z b cap bytes:Nat} {l:List (List Value)} {zv:Value} (hu:Tryz.prog.underlying S=some (.slice T)) (hi0:(Tryz.prog.info? T).map (fun i=>(i.zero,i.size,i.bytes))=some (some zv,z,bytes)) (hz:zv.cells.size=z) (hz0:0<z) (hby:bytes<=1000)
 (h:Rz w T z b cap l) (g:Nat) (e:List Value) (he:e.length=z) (ho:∀ u∈e,u.oneCell'=true) (hg:∀ (j:Nat) u,e[j]?=some u->w.cell? ⟨g,j,none⟩=some u) (hl:l.length<=5000) (ty:TypeId) :
 ∃ b' cap' w',(Builtin.append_ #[S,S] ty #[.slice (some ⟨b,0,none⟩) l.length cap,.slice (some ⟨g,0,none⟩) 1 1]).run Tryz.prog w=.ok (.slice (some ⟨b',0,none⟩) (l.length+1) cap') w'/\Rz w' T z b' cap' (l ++ [e])/\Only (fun k=>k=b) w w'/\((b'=b/\cap'=cap/\Rz w' T z b cap l)\/(w.heap.size<=b'/\Grown w w')):=by
 obtain⟨i0,hi,hz0',hz1,hz2⟩:=info_parts hi0
 obtain⟨c,k,k1,k2⟩:=h.ex
 have hle:=h.le
 have hf:=WY h.ln
 have hln:∀ e'∈l ++ [e],e'.length=z:=fun e' h'=>by
  rcases List.mem_append.1 h' with h' | h'
  . exact h.ln e' h'
  . rw[List.mem_singleton.1 h'];exact he
 have hfa:(l ++ [e]).flatten=l.flatten ++ e:=by simp
 have hnews:∀ (j:Nat) u,e[j]?=some u->w.cell? ((⟨g,0,none⟩:Addr).add j)=some u:=fun j u hu=>by rw[add_lit,Nat.zero_add];exact hg j u hu
 by_cases hr:l.length+1<=cap
 . have hzc:z * l.length+z<=z * cap:=by
    have:=Nat.mul_le_mul_left z hr
    rw[Nat.mul_add,Nat.mul_one] at this;exact this
   have hcell:∀ j,j<e.length->∃ v,w.cell? ⟨b,z * l.length+j,none⟩=some v:=fun j hj=>⟨_,ZW k (Array.getElem?_eq_getElem (show z * l.length+j<c.size by omega))⟩
   have hrun:=run_append_room_cells (P:=Tryz.prog) w S ty T i0 hu hi b 0 l.length cap ⟨g,0,none⟩ 1 1 e (by rw[hz1,he,Nat.one_mul]) hnews ho hr
    (fun j hj=>by
     obtain⟨v,hv⟩:=hcell j hj
     rw[hz1,Nat.zero_add,Nat.mul_comm l.length z,hv];rfl)
    (fun j hj=>YV k _)
   rw[hz1,Nat.zero_add,Nat.mul_comm l.length z] at hrun
   obtain⟨c',q,q1,q2,q3⟩:=UQ e w (z * l.length) c k
   refine⟨b,cap,_,hrun,?_,Vt _ _ _ _ (Only.refl _ _),Or.inl ⟨rfl,rfl,?_⟩⟩
   . refine⟨⟨c',q,by omega,fun i x hx=>?_⟩,by simpa using hr,hln⟩
     rw[hfa] at hx
     by_cases hil:i<l.flatten.length
     . rw[List.getElem?_append_left hil] at hx
       rw[q2 i (by omega)];exact k2 i x hx
     . rw[List.getElem?_append_right (by omega)] at hx
       have:=q3 _ x hx (by have:=(List.getElem?_eq_some_iff.1 hx).1;omega)
       rwa [show z * l.length+(i - l.flatten.length)=i by omega] at this
   . refine⟨⟨c',q,by omega,fun i x hx=>?_⟩,hle,h.ln⟩
     have:=(List.getElem?_eq_some_iff.1 hx).1
     rw[q2 i (by omega)];exact k2 i x hx
 . obtain⟨v',w',hrun,ho,hgr⟩:=run_append_arg_grows (P:=Tryz.prog) w S ty T i0 zv z bytes hu hi hz0' hz1 hz2 hz hz0 ⟨b,0,none⟩ l.length cap l.flatten (by rw[hf,Nat.mul_comm])
    (fun j u hu=>by rw[add_lit,Nat.zero_add];exact h.cell0 hu)
    ⟨g,0,none⟩ 1 1 e (by rw[he,Nat.one_mul]) hnews (by omega) (by unfold maxLen;omega) (Nat.le_trans (Nat.mul_le_mul_left _ hby) (by omega))
   rw[<- hfa] at ho
   rcases ho.2 with⟨_,h3⟩ | ⟨g',cap',cur,h',hb,hg',hcap,hmax,hsz,htake⟩
   . omega
   . subst h'
     refine⟨g',cap',w',hrun,⟨⟨cur,hg',by rw[hsz,Nat.mul_comm];exact Nat.le_refl _,fun i u hu=>?_⟩,by simpa using hcap,hln⟩,Only.Z5 (Grown.of hgr),Or.inr ⟨hb,Grown.of hgr⟩⟩
     have e1:=congrArg (fun q=>q[i]?) htake
     have hlt:i<(l.length+1) * z:=by
      have:=(List.getElem?_eq_some_iff.1 hu).1
      rw[WY hln] at this
      simp only[List.length_append,List.length_cons,List.length_nil] at this
      rw[Nat.mul_comm];exact this
     rw[List.getElem?_take_of_lt hlt,hu] at e1
     simpa using e1
section
variable {X Y:World}
end
end
section
def Sl (w:World) (T:TypeId) (z:Nat) (v:Value) (l:List (List Value)):Prop:=(v=.slice none 0 0/\l=[])\/∃ b cap,v=.slice (some ⟨b,0,none⟩) l.length cap/\Rz w T z b cap l
theorem Sl.grown {w w':World} {T:TypeId} {z:Nat} {v:Value} {l:List (List Value)} (h:Sl w T z v l) (g:Below w.heap.size w w'):Sl w' T z v l:=h.imp id fun⟨b,cap,e,r⟩=>⟨b,cap,e,r.grown g⟩
theorem Sl.is {w:World} {T:TypeId} {z:Nat} {v:Value} {l:List (List Value)} (h:Sl w T z v l):∃ a cap,v=.slice a l.length cap/\∀ (i:Nat) (e:List Value),l[i]?=some e->∃ b,a=some ⟨b,0,none⟩/\b<w.heap.size/\∀ (j:Nat) (x:Value),e[j]?=some x->w.cell? ⟨b,i * z+j,none⟩=some x:=by
 rcases h with⟨rfl,rfl⟩ | ⟨b,cap,rfl,r⟩
 . exact⟨none,0,rfl,fun i e h=>by simp at h⟩
 . exact⟨some ⟨b,0,none⟩,cap,rfl,fun i e h=>⟨b,rfl,r.lt,fun j x hx=>r.cell h hx⟩⟩
def qN (P:Nat->Prop) (v:Value):Prop:=∀ x,v.ownBlock=some x->P x
theorem Sl.only {S:Nat->Prop} {w w':World} {T:TypeId} {z:Nat} {v:Value} {l:List (List Value)} (h:Sl w T z v l) (o:Only S w w') (hs:qN (fun x=>¬ S x) v):Sl w' T z v l:=h.imp id fun⟨b,cap,e,r⟩=>⟨b,cap,e,r.only o (hs b (by rw[e];rfl))⟩
theorem Sl.lt {w:World} {T:TypeId} {z:Nat} {v:Value} {l:List (List Value)} (h:Sl w T z v l):qN (fun x=>x<w.heap.size) v:=fun x hx=>by
 rcases h with⟨rfl,-⟩ | ⟨b,cap,rfl,r⟩
 . cases hx
 . cases hx;exact r.lt
end
section
theorem Rz.rJ {w:World} {T S:TypeId} {z b cap bytes:Nat} {l:List (List Value)} {zv:Value} (hu:Tryz.prog.underlying S=some (.slice T)) (hi0:(Tryz.prog.info? T).map (fun i=>(i.zero,i.size,i.bytes))=some (some zv,z,bytes)) (hz:zv.cells.size=z) (hz0:0<z) (hby:bytes<=1000)
 (h:Rz w T z b cap l) (g:Nat) (e:List Value) (he:e.length=z) (ho:∀ u∈e,u.oneCell'=true) (hg:∀ (j:Nat) u,e[j]?=some u->w.cell? ⟨g,j,none⟩=some u) (hl:l.length<=5000) (ty:TypeId) :
 ∃ b' cap' w',(Builtin.append_ #[S,S] ty #[.slice (some ⟨b,0,none⟩) l.length cap,.slice (some ⟨g,0,none⟩) 1 1]).run Tryz.prog w=.ok (.slice (some ⟨b',0,none⟩) (l.length+1) cap') w'/\Rz w' T z b' cap' (l ++ [e])/\Only (fun k=>k=b) w w'/\((b'=b/\cap'=cap/\Rz w' T z b cap l)\/(w.heap.size<=b'/\Grown w w'))/\(∀ c,w.heap[b]?=some (.cells c T (0,0))->∃ c',w'.heap[b]?=some (.cells c' T (0,0))/\c'.size=c.size/\∀ (i:Nat) (u:Value),(l ++ [e]).flatten[i]?=some u->c[i]?=some u->c'[i]?=some u):=by
 obtain⟨i0,hi,hz0',hz1,hz2⟩:=info_parts hi0
 obtain⟨c,k,k1,k2⟩:=h.ex
 have hle:=h.le
 have hf:=WY h.ln
 have hln:∀ e'∈l ++ [e],e'.length=z:=fun e' h'=>by
  rcases List.mem_append.1 h' with h' | h'
  . exact h.ln e' h'
  . rw[List.mem_singleton.1 h'];exact he
 have hfa:(l ++ [e]).flatten=l.flatten ++ e:=by simp
 have hnews:∀ (j:Nat) u,e[j]?=some u->w.cell? ((⟨g,0,none⟩:Addr).add j)=some u:=fun j u hu=>by rw[add_lit,Nat.zero_add];exact hg j u hu
 by_cases hr:l.length+1<=cap
 . have hzc:z * l.length+z<=z * cap:=by
    have:=Nat.mul_le_mul_left z hr
    rw[Nat.mul_add,Nat.mul_one] at this;exact this
   have hcell:∀ j,j<e.length->∃ v,w.cell? ⟨b,z * l.length+j,none⟩=some v:=fun j hj=>⟨_,ZW k (Array.getElem?_eq_getElem (show z * l.length+j<c.size by omega))⟩
   have hrun:=run_append_room_cells (P:=Tryz.prog) w S ty T i0 hu hi b 0 l.length cap ⟨g,0,none⟩ 1 1 e (by rw[hz1,he,Nat.one_mul]) hnews ho hr
    (fun j hj=>by
     obtain⟨v,hv⟩:=hcell j hj
     rw[hz1,Nat.zero_add,Nat.mul_comm l.length z,hv];rfl)
    (fun j hj=>YV k _)
   rw[hz1,Nat.zero_add,Nat.mul_comm l.length z] at hrun
   obtain⟨c',q,q1,q2,q3⟩:=UQ e w (z * l.length) c k
   refine⟨b,cap,_,hrun,?_,Vt _ _ _ _ (Only.refl _ _),Or.inl ⟨rfl,rfl,?_⟩,fun c0 k0=>?_⟩
   . refine⟨⟨c',q,by omega,fun i x hx=>?_⟩,by simpa using hr,hln⟩
     rw[hfa] at hx
     by_cases hil:i<l.flatten.length
     . rw[List.getElem?_append_left hil] at hx
       rw[q2 i (by omega)];exact k2 i x hx
     . rw[List.getElem?_append_right (by omega)] at hx
       have:=q3 _ x hx (by have:=(List.getElem?_eq_some_iff.1 hx).1;omega)
       rwa [show z * l.length+(i - l.flatten.length)=i by omega] at this
   . refine⟨⟨c',q,by omega,fun i x hx=>?_⟩,hle,h.ln⟩
     have:=(List.getElem?_eq_some_iff.1 hx).1
     rw[q2 i (by omega)];exact k2 i x hx
   . rw[k] at k0
     cases k0
     refine⟨c',q,q1,fun i u hu hc=>?_⟩
     rw[hfa] at hu
     by_cases hil:i<l.flatten.length
     . rw[q2 i (by omega)];exact hc
     . rw[List.getElem?_append_right (by omega)] at hu
       have:=q3 _ u hu (by have:=(List.getElem?_eq_some_iff.1 hu).1;omega)
       rwa [show z * l.length+(i - l.flatten.length)=i by omega] at this
 . obtain⟨v',w',hrun,ho,hgr⟩:=run_append_arg_grows (P:=Tryz.prog) w S ty T i0 zv z bytes hu hi hz0' hz1 hz2 hz hz0 ⟨b,0,none⟩ l.length cap l.flatten (by rw[hf,Nat.mul_comm])
    (fun j u hu=>by rw[add_lit,Nat.zero_add];exact h.cell0 hu)
    ⟨g,0,none⟩ 1 1 e (by rw[he,Nat.one_mul]) hnews (by omega) (by unfold maxLen;omega) (Nat.le_trans (Nat.mul_le_mul_left _ hby) (by omega))
   rw[<- hfa] at ho
   rcases ho.2 with⟨_,h3⟩ | ⟨g',cap',cur,h',hb,hg',hcap,hmax,hsz,htake⟩
   . omega
   . subst h'
     refine⟨g',cap',w',hrun,⟨⟨cur,hg',by rw[hsz,Nat.mul_comm];exact Nat.le_refl _,fun i u hu=>?_⟩,by simpa using hcap,hln⟩,Only.Z5 (Grown.of hgr),Or.inr ⟨hb,Grown.of hgr⟩,fun c0 k0=>⟨c0,((Grown.of hgr).block _ (XP k0)).trans k0,rfl,fun _ _ _ h'=>h'⟩⟩
     have e1:=congrArg (fun q=>q[i]?) htake
     have hlt:i<(l.length+1) * z:=by
      have:=(List.getElem?_eq_some_iff.1 hu).1
      rw[WY hln] at this
      simp only[List.length_append,List.length_cons,List.length_nil] at this
      rw[Nat.mul_comm];exact this
     rw[List.getElem?_take_of_lt hlt,hu] at e1
     simpa using e1
section
variable {w:World} {T S:TypeId} {z bytes:Nat} {v:Value} {l:List (List Value)} {zv:Value}
theorem Sl.push (hu:Tryz.prog.underlying S=some (.slice T)) (hi0:(Tryz.prog.info? T).map (fun i=>(i.zero,i.size,i.bytes))=some (some zv,z,bytes)) (hz:zv.cells.size=z) (hz0:0<z) (hby:bytes<=1000)
 (h:Sl w T z v l) (g:Nat) (e:List Value) (he:e.length=z) (ho:∀ u∈e,u.oneCell'=true) (hg:∀ (j:Nat) u,e[j]?=some u->w.cell? ⟨g,j,none⟩=some u) (hl:l.length<=5000) (ty:TypeId) :
 ∃ v' w',(Builtin.append_ #[S,S] ty #[v,.slice (some ⟨g,0,none⟩) 1 1]).run Tryz.prog w=.ok v' w'/\Sl w' T z v' (l ++ [e])/\Only (fun k=>v.ownBlock=some k) w w'/\(∀ k,v'.ownBlock=some k->v.ownBlock=some k\/w.heap.size<=k):=by
 rcases h with⟨rfl,rfl⟩ | ⟨b,cap,rfl,h⟩
 . obtain⟨i0,hi,hz0',hz1,hz2⟩:=info_parts hi0
   have hnews:∀ (j:Nat) u,e[j]?=some u->w.cell? ((⟨g,0,none⟩:Addr).add j)=some u:=fun j u hu=>by rw[add_lit,Nat.zero_add];exact hg j u hu
   obtain⟨v',w',hrun,ho',hgr,-⟩:=run_append_own (P:=Tryz.prog) w w.heap.size S ty T i0 zv z bytes hu hi hz0' hz1 hz2 hz hz0 (.slice none 0 0) 0 [] (World.ownsRow_nil w _ T z) ⟨g,0,none⟩ 1 1 e (by rw[he,Nat.one_mul]) hnews (fun u hu=>ho u hu) (by unfold maxLen;omega) (by omega) (Nat.le_refl _)
   rcases ho'.2 with⟨_,h3⟩ | ⟨g',cap',cur,h',hb,hg',hcap,hmax,hsz,htake⟩
   . omega
   . subst h'
     refine⟨_,w',hrun,Or.inr ⟨g',cap',rfl,⟨cur,hg',by rw[hsz,Nat.mul_comm];exact Nat.le_refl _,fun i u hu=>?_⟩,by simpa using hcap,fun e' he'=>?_⟩,Only.Z5 (grown_of hgr),fun k hk=>by cases hk;exact Or.inr hb⟩
     . have e1:=congrArg (fun q=>q[i]?) htake
       have hu':e[i]?=some u:=by simpa using hu
       have hlt:i<(0+1) * z:=by
        have:=(List.getElem?_eq_some_iff.1 hu').1
        omega
       rw[List.getElem?_take_of_lt hlt,List.nil_append,hu'] at e1
       simpa using e1
     . rw[List.nil_append] at he';rw[List.mem_singleton.1 he'];exact he
 . obtain⟨b',cap',w',hrun,hr,on,hor⟩:=h.app hu hi0 hz hz0 hby g e he ho hg hl ty
   refine⟨_,w',hrun,Or.inr ⟨b',cap',by simp,hr⟩,on.mono fun k _ e=>by rw[e];rfl,fun k hk=>?_⟩
   cases hk
   rcases hor with⟨rfl,-,-⟩ | ⟨hb,-⟩
   . exact Or.inl rfl
   . exact Or.inr hb
structure GL (v:Value) (T:TypeId) (L:List (List Value)) (x y:World):Prop where
 on:Only (fun k=>v.ownBlock=some k) x y
 kp:∀ b c,v.ownBlock=some b->x.heap[b]?=some (.cells c T (0,0))->∃ c',y.heap[b]?=some (.cells c' T (0,0))/\c'.size=c.size/\∀ (i:Nat) (u:Value),L.flatten[i]?=some u->c[i]?=some u->c'[i]?=some u
namespace GL
variable {L:List (List Value)} {x y t:World}
theorem refl:GL v T L x x:=⟨Only.refl _ _,fun _ c _ h=>⟨c,h,rfl,fun _ _ _ h'=>h'⟩⟩
theorem trans (h:GL v T L x y) (g:GL v T L y t):GL v T L x t:=⟨h.on.trans g.on,fun b c hb hc=>by
 obtain⟨c1,k1,k2,k3⟩:=h.kp b c hb hc
 obtain⟨c2,q1,q2,q3⟩:=g.kp b c1 hb k1
 exact⟨c2,q1,q2.trans k2,fun i u hu hc=>q3 i u hu (k3 i u hu hc)⟩⟩
theorem grown (h:Grown x y):GL v T L x y:=⟨Only.Z5 h,fun _ c _ hc=>⟨c,(h.block _ (XP hc)).trans hc,rfl,fun _ _ _ h'=>h'⟩⟩
theorem sl {v':Value} (h:GL v T L x y) (s:Sl x T z v' L):Sl y T z v' L:=by
 rcases s with⟨rfl,rfl⟩ | ⟨b,cap,rfl,r⟩
 . exact Or.inl ⟨rfl,rfl⟩
 . refine Or.inr ⟨b,cap,rfl,?_⟩
   by_cases e:v.ownBlock=some b
   . obtain⟨c,k,k1,k2⟩:=r.ex
     obtain⟨c',q,q1,q2⟩:=h.kp b c e k
     exact⟨⟨c',q,by omega,fun i u hu=>q2 i u hu (k2 i u hu)⟩,r.le,r.ln⟩
   . exact r.only h.on e
end GL
theorem Sl.vJ (hu:Tryz.prog.underlying S=some (.slice T)) (hi0:(Tryz.prog.info? T).map (fun i=>(i.zero,i.size,i.bytes))=some (some zv,z,bytes)) (hz:zv.cells.size=z) (hz0:0<z) (hby:bytes<=1000)
 (h:Sl w T z v l) (g:Nat) (e:List Value) (he:e.length=z) (ho:∀ u∈e,u.oneCell'=true) (hg:∀ (j:Nat) u,e[j]?=some u->w.cell? ⟨g,j,none⟩=some u) (hl:l.length<=5000) (ty:TypeId) :
 ∃ v' w',(Builtin.append_ #[S,S] ty #[v,.slice (some ⟨g,0,none⟩) 1 1]).run Tryz.prog w=.ok v' w'/\Sl w' T z v' (l ++ [e])/\GL v T (l ++ [e]) w w'/\(∀ k,v'.ownBlock=some k->v.ownBlock=some k\/w.heap.size<=k):=by
 rcases h with⟨rfl,rfl⟩ | ⟨b,cap,rfl,h⟩
 . obtain⟨v',w',h1,h2,h3,h4⟩:=Sl.push hu hi0 hz hz0 hby (Or.inl ⟨rfl,rfl⟩:Sl w T z (.slice none 0 0) []) g e he ho hg (by decide) ty
   exact⟨v',w',h1,h2,⟨h3,fun b c hb=>by cases hb⟩,h4⟩
 . obtain⟨b',cap',w',hrun,hr,on,hor,hk⟩:=h.rJ hu hi0 hz hz0 hby g e he ho hg hl ty
   refine⟨_,w',hrun,Or.inr ⟨b',cap',by simp,hr⟩,⟨on.mono fun k _ e=>by rw[e];rfl,fun b0 c hb hc=>?_⟩,fun k hk=>?_⟩
   . cases hb
     exact hk c hc
   . cases hk
     rcases hor with⟨rfl,-,-⟩ | ⟨hb,-⟩
     . exact Or.inl rfl
     . exact Or.inr hb
theorem Rz.all {b cap:Nat} (hu:Tryz.prog.underlying S=some (.slice T)) (hi0:(Tryz.prog.info? T).map (fun i=>(i.zero,i.size,i.bytes))=some (some zv,z,bytes)) (hz:zv.cells.size=z) (hz0:0<z) (hby:bytes<=1000)
 (h:Rz w T z b cap l) (hl:l.length<=5000) (ty:TypeId) :
 ∃ v' w',(Builtin.append_ #[S,S] ty #[.slice (some ⟨w.heap.size,0,none⟩) 0 0,.slice (some ⟨b,0,none⟩) l.length cap]).run Tryz.prog (w.alloc (.cells #[] T))=.ok v' w'/\Sl w' T z v' l/\Below w.heap.size w w'/\(∀ k,v'.ownBlock=some k->w.heap.size<=k):=by
 obtain⟨i0,hi,hz0',hz1,hz2⟩:=info_parts hi0
 have g0:=Z7 (Below.refl w.heap.size w) (.cells #[] T)
 have h1:=h.grown g0
 have hf:=WY h.ln
 have hnews:∀ (j:Nat) u,l.flatten[j]?=some u->(w.alloc (.cells #[] T)).cell? ((⟨b,0,none⟩:Addr).add j)=some u:=fun j u hu=>by rw[add_lit,Nat.zero_add];exact h1.cell0 hu
 by_cases h0:l=[]
 . subst h0
   have hrun:=run_append_room_cells (P:=Tryz.prog) (w.alloc (.cells #[] T)) S ty T i0 hu hi w.heap.size 0 0 0 ⟨b,0,none⟩ 0 cap [] (by simp) (by simp) (by simp) (Nat.le_refl _) (fun j hj=>absurd hj (by simp)) (fun j hj=>absurd hj (by simp))
   exact⟨_,_,hrun,Or.inr ⟨w.heap.size,0,rfl,by simpa [World.setCells] using Rz.fresh w T z⟩,by simpa [World.setCells] using g0,fun k hk=>by cases hk;exact Nat.le_refl _⟩
 . have hpos:0<l.length:=List.length_pos_iff.2 h0
   obtain⟨v',w',hrun,ho,hgr⟩:=run_append_arg_grows (P:=Tryz.prog) (w.alloc (.cells #[] T)) S ty T i0 zv z bytes hu hi hz0' hz1 hz2 hz hz0 ⟨w.heap.size,0,none⟩ 0 0 [] (by simp) (by simp)
    ⟨b,0,none⟩ l.length cap l.flatten (by rw[hf,Nat.mul_comm]) hnews (by omega) (by unfold maxLen;omega) (Nat.le_trans (Nat.mul_le_mul_left _ hby) (by omega))
   rw[Nat.zero_add] at ho
   rcases ho.2 with⟨_,h2⟩ | ⟨g',cap',cur,h',hb,hg',hcap,hmax,hsz,htake⟩
   . omega
   subst h'
   rw[Go.Deep.nblk_alloc] at hb
   refine⟨_,w',hrun,Or.inr ⟨g',cap',rfl,⟨cur,hg',by rw[hsz,Nat.mul_comm];exact Nat.le_refl _,fun i u hu=>?_⟩,hcap,h.ln⟩,grow g0 (grown_of hgr),fun k hk=>by cases hk;show w.heap.size<=g';omega⟩
   have e1:=congrArg (fun q=>q[i]?) htake
   have hlt:i<l.length * z:=by
    have:=(List.getElem?_eq_some_iff.1 hu).1
    rw[hf] at this
    rw[Nat.mul_comm];exact this
   rw[List.getElem?_take_of_lt hlt,List.nil_append,hu] at e1
   simpa using e1
end
theorem Az:(Tryz.prog.info? 45).map (fun i=>(i.zero,i.size,i.bytes))=some (some (.agg #[iV 0,iV 0,iV 0,iV 0,.int .u64 0,iV 0,iV 0,iV 0,iV 0]),9,72):=by kernel_rfl
theorem Aq:(Tryz.prog.info? 55).map (fun i=>(i.zero,i.size,i.bytes))=some (some (.agg #[iV 0,iV 0,iV 0,iV 0,iV 0,iV 0,.int .u64 0,iV 0,iV 0,iV 0,iV 0,.int .u64 0,iV 0,.int .u64 0,iV 0,iV 0,iV 0,iV 0]),18,144):=by kernel_rfl
set_option maxRecDepth 20000 in
theorem Rz.J7 {w:World} {b cap:Nat} {l:List (List Value)} (h:Rz w 45 9 b cap l) (hl:l.length<=5000):Calls Tryz.prog 26 #[.slice (some ⟨b,0,none⟩) l.length cap] w fun e w'=>∃ v',e=.returned v'/\Sl w' 45 9 v' l/\Below w.heap.size w w'/\∀ k,v'.ownBlock=some k->w.heap.size<=k:=by
 obtain⟨v',w',hrun,hr,hB,hf⟩:=h.all (S:=22) Tryz.underlying22 Az rfl (by decide) (by decide) hl 22
 clear h
 have he:∀ w,(binOp .eql 22 (.slice (some ⟨b,0,none⟩) l.length cap) (.slice none 0 0)).run Tryz.prog w=.ok (.bool false) w:=fun w=>by kernel_rfl
 go_enter Tryz.func26,Tryz.ntmps26
 go_wp2_with (at_builtin;refine VP rfl (.tmp 5) (.tmp 6) rfl rfl rfl hrun ?_)
 go_ret
 exact⟨v',rfl,hr,hB,hf⟩
set_option maxRecDepth 20000 in
theorem J6 (w:World):Calls Tryz.prog 26 #[.slice none 0 0] w fun e w'=>e=.returned (.slice none 0 0)/\w'=w:=by
 have he:∀ w,(binOp .eql 22 (.slice none 0 0) (.slice none 0 0)).run Tryz.prog w=.ok (.bool true) w:=fun w=>by kernel_rfl
 go_enter Tryz.func26,Tryz.ntmps26
 go_wp2
 go_ret
 exact⟨rfl,rfl⟩
theorem Sl.J7 {w:World} {v:Value} {l:List (List Value)} (h:Sl w 45 9 v l) (hl:l.length<=5000):Calls Tryz.prog 26 #[v] w fun e w'=>∃ v',e=.returned v'/\Sl w' 45 9 v' l/\Below w.heap.size w w'/\∀ k,v'.ownBlock=some k->w.heap.size<=k:=by
 rcases h with⟨rfl,rfl⟩ | ⟨b,cap,rfl,h⟩
 . refine(J6 w).mono ?_
   rintro e w' ⟨rfl,rfl⟩
   exact⟨_,rfl,Or.inl ⟨rfl,rfl⟩,Below.refl _ _,fun k hk=>by cases hk⟩
 . exact h.J7 hl
set_option maxRecDepth 20000 in
theorem Rz.Kr {w:World} {b cap:Nat} {l:List (List Value)} (h:Rz w 55 18 b cap l) (hl:l.length<=5000):Calls Tryz.prog 35 #[.slice (some ⟨b,0,none⟩) l.length cap] w fun e w'=>∃ v',e=.returned v'/\Sl w' 55 18 v' l/\Below w.heap.size w w'/\∀ k,v'.ownBlock=some k->w.heap.size<=k:=by
 obtain⟨v',w',hrun,hr,hB,hf⟩:=h.all (S:=48) Tryz.underlying48 Aq rfl (by decide) (by decide) hl 48
 clear h
 have he:∀ w,(binOp .eql 48 (.slice (some ⟨b,0,none⟩) l.length cap) (.slice none 0 0)).run Tryz.prog w=.ok (.bool false) w:=fun w=>by kernel_rfl
 go_enter Tryz.func35,Tryz.ntmps35
 go_wp2_with (at_builtin;refine VP rfl (.tmp 5) (.tmp 6) rfl rfl rfl hrun ?_)
 go_ret
 exact⟨v',rfl,hr,hB,hf⟩
set_option maxRecDepth 20000 in
theorem J5 (w:World):Calls Tryz.prog 35 #[.slice none 0 0] w fun e w'=>e=.returned (.slice none 0 0)/\w'=w:=by
 have he:∀ w,(binOp .eql 48 (.slice none 0 0) (.slice none 0 0)).run Tryz.prog w=.ok (.bool true) w:=fun w=>by kernel_rfl
 go_enter Tryz.func35,Tryz.ntmps35
 go_wp2
 go_ret
 exact⟨rfl,rfl⟩
theorem Sl.Kr {w:World} {v:Value} {l:List (List Value)} (h:Sl w 55 18 v l) (hl:l.length<=5000):Calls Tryz.prog 35 #[v] w fun e w'=>∃ v',e=.returned v'/\Sl w' 55 18 v' l/\Below w.heap.size w w'/\∀ k,v'.ownBlock=some k->w.heap.size<=k:=by
 rcases h with⟨rfl,rfl⟩ | ⟨b,cap,rfl,h⟩
 . refine(J5 w).mono ?_
   rintro e w' ⟨rfl,rfl⟩
   exact⟨_,rfl,Or.inl ⟨rfl,rfl⟩,Below.refl _ _,fun k hk=>by cases hk⟩
 . exact h.Kr hl
end
section
set_option maxRecDepth 20000 in
theorem QX (c:Wc) (w:World):Calls Tryz.prog 16 #[c.v] w fun e w'=>e=.returned (.bool c.may)/\Below w.heap.size w w':=by
 have x0:=OX.new c w
 have g0:=ZZ w (.cells #[iV c.kd,iV c.sz,iV c.rt,iV c.ra,.int .u64 c.rr,iV c.ix,iV c.vl,iV c.ol,iV c.ky] 45)
 have ha:=fun w=>Vx c w
 have cells:∀ w1,Grown (w.alloc (.cells #[iV c.kd,iV c.sz,iV c.rt,iV c.ra,.int .u64 c.rr,iV c.ix,iV c.vl,iV c.ol,iV c.ky] 45)) w1->At w1 w.heap.size 0 45 #[iV c.kd,iV c.sz,iV c.rt,iV c.ra,.int .u64 c.rr,iV c.ix,iV c.vl,iV c.ol,iV c.ky] c.l:=fun w1 g=>x0.grown g
 have t0:=x0.at0 0 rfl
 have t1:=x0.at0 1 rfl
 have t2:=x0.at0 2 rfl
 have t3:=x0.at0 3 rfl
 have t4:=x0.at0 4 rfl
 have t5:=x0.at0 5 rfl
 have t6:=x0.at0 6 rfl
 have t7:=x0.at0 7 rfl
 have t8:=x0.at0 8 rfl
 cases hk:c.asks with
 | true =>
  have hm:c.may=V4 (c.kd - 5) c.ky:=by unfold Wc.may;rw[hk];rfl
  have hq:=fun w=>QV c hk w
  have hl:=fun w=>TE (c.kd - 5) c.ky w
  rw[hk] at ha
  rw[hm]
  generalize c.kd - 5=K at *
  go_enter Tryz.func16,Tryz.ntmps16
  go_wp2_with (go_at_call 30;refine(ha _).mono ?_;rintro e w1 ⟨rfl,g1⟩)
  apply Xy 5;. kernel_rfl
  apply rV;. intro w' hg _;apply ol;have x1:=cells _ (grow (grow g1 ((Below.refl _ _).drew)) hg);have t0:=x1.at0 0 rfl;have t1:=x1.at0 1 rfl;have t2:=x1.at0 2 rfl;have t3:=x1.at0 3 rfl;have t4:=x1.at0 4 rfl;have t5:=x1.at0 5 rfl;have t6:=x1.at0 6 rfl;have t7:=x1.at0 7 rfl;have t8:=x1.at0 8 rfl;go_simp;exact gl
  apply rV (c:=iV K);. intro w' hg _;apply ol;go_simp;refine(hq _).mono ?_;rintro e w'' ⟨rfl,g⟩;exact⟨_,rfl,g,rfl⟩
  apply rV;. intros;apply ol;go_simp;exact gl
  apply rV;. intro w' hg _;apply ol;have x1:=cells _ (grow (grow g1 ((Below.refl _ _).drew)) hg);have t8:=x1.at0 8 rfl;go_simp;exact gl
  apply XW;. intro w' hg _;apply ol;go_simp;exact cc (hl _)
  try simp only[pu,s0,s1]
  intro w5 hg _
  go_wp2
  go_ret
  exact⟨rfl,grow g0 (grow (grow g1 ((Below.refl _ _).drew)) hg)⟩
 | false =>
  have hm:c.may=(c.x 0).may:=by unfold Wc.may;rw[hk];rfl
  have hq:=fun w=>P8 c 0 w
  have hl:=fun w=>check_any (c.x 0) w
  rw[hk] at ha
  rw[hm]
  generalize (c.x 0).may=K at *
  generalize (c.x 0).v=X at *
  go_enter Tryz.func16,Tryz.ntmps16
  go_wp2_with (first
   | (go_at_call 30;refine(ha _).mono ?_;rintro e w1 ⟨rfl,g1⟩;have x1:=cells _ g1;have t0:=x1.at0 0 rfl;have t1:=x1.at0 1 rfl;have t2:=x1.at0 2 rfl;have t3:=x1.at0 3 rfl;have t4:=x1.at0 4 rfl;have t5:=x1.at0 5 rfl;have t6:=x1.at0 6 rfl;have t7:=x1.at0 7 rfl;have t8:=x1.at0 8 rfl)
   | (go_at_call 34;refine(hq _).mono ?_;rintro e w2 ⟨rfl,g2⟩)
   | (go_at_call 33;refine(hl _).mono ?_;rintro e w3 ⟨rfl,g3⟩))
  go_ret
  exact⟨rfl,grow g0 (grow g1 (grow g2 g3))⟩
theorem QG (w:World):CallsD Tryz.prog 57 #[] .returning w fun e u' w'=>e=.returned (.tuple #[])/\u'=.returning/\w'=w:=by
 refine callsD_of_wpS Tryz.func57 rfl fun c₀ cs hu=>?_
 apply wpS_region
 cases c₀
 simp_all [wpOpsS,go_sem,recoverD,Tryz.ntmps57,bodyPostS,results,Tryz.results57]
set_option maxRecDepth 20000 in
theorem QH (c:Wc) (h:¬ c.rt<0) (H:Int) (w:World) (hm:∀ w1,Below w.heap.size w w1->Calls Tryz.prog 14 #[c.rf] w1 fun e w'=>e=.returned (.int .u64 H)/\Below w1.heap.size w1 w'):Calls Tryz.prog 42 #[c.rf,.func (.func 14) #[] #[]] w fun e w'=>e=.returned (.int .u64 H)/\Below w.heap.size w w':=by
 have x0:=At.new w 43 [iV c.rt,iV c.ra,.int .u64 c.rr]
 have t0:=x0.at0 0 rfl
 have t1:=x0.at0 1 rfl
 have t2:=x0.at0 2 rfl
 have g0:=ZZ w (.cells #[iV c.rt,iV c.ra,.int .u64 c.rr] 43)
 have hm:=hm _ g0
 go_enter_defers Tryz.func42,Tryz.ntmps42
 go_wp2_with (go_at_call 14;refine hm.mono ?_;rintro e w1 ⟨rfl,g1⟩)
 refine leaves_cons (f:=57) (args:=#[]) (by simp) (by simp[go_sem]) ?_
 refine(QG _).mono ?_
 rintro e u' w'' ⟨rfl,rfl,rfl⟩
 simp[Leaves,settle,results,Tryz.results42,go_sem]
 exact grow g0 g1
end
section
def yO (w:World) (sp:Option Addr) (n:Nat):Prop:=(sp=none/\n=0)\/∃ b,sp=some ⟨b,0,none⟩/\ShAt w b n
section
variable {w w':World} {sp:Option Addr} {n:Nat}
theorem GK (h:yO w sp n):Calls Tryz.prog 39 #[.pointer sp] w fun e w'=>e=.returned (iV n)/\w'=w:=by
 rcases h with⟨rfl,rfl⟩ | ⟨b,rfl,s⟩
 . exact G9 w
 . exact Qe s
def Wc.bad (n:Nat) (c:Wc):Bool:=!c.may || (c.asks && decide (n=0))
theorem QT (h:yO w sp n):Calls Tryz.prog 23 #[.pointer sp] w fun e w'=>∃ p,e=.returned (.func (.func 40) #[] #[pP p 0])/\w'.cell? ⟨p,0,none⟩=some (iV n)/\w.heap.size<=p/\Below w.heap.size w w':=by
 have hl:=GK h
 have hmf:∀ (fn:Fn) (first cap:Array Value) (w:World),(Instr.makeFunc fn first cap).run Tryz.prog w=.ok (.func fn first cap) w:=fun _ _ _ _=>rfl
 go_enter Tryz.func23,Tryz.ntmps23
 go_wp2_with (go_at_call 39;refine hl.mono ?_;rintro e w1 ⟨rfl,rfl⟩)
 go_ret
 exact⟨_,rfl,ZW (o:=0) (Go.Deep.blk_alloc_new _ _) rfl,Nat.le_refl _,Z7 (Below.refl _ _) _⟩
set_option maxRecDepth 20000 in
theorem MZ (c:Wc) {p:Nat} (hp:w.cell? ⟨p,0,none⟩=some (iV n)):Calls Tryz.prog 40 #[c.v,pP p 0] w fun e w'=>e=.returned (.bool (c.bad n))/\Below w.heap.size w w':=by
 have x0:=OX.new c w
 have g0:=ZZ w (.cells #[iV c.kd,iV c.sz,iV c.rt,iV c.ra,.int .u64 c.rr,iV c.ix,iV c.vl,iV c.ol,iV c.ky] 45)
 have ha:=fun w=>Vx c w
 have hc:=fun w=>QX c w
 have t0:=x0.at0 0 rfl
 have t1:=x0.at0 1 rfl
 have t2:=x0.at0 2 rfl
 have t3:=x0.at0 3 rfl
 have t4:=x0.at0 4 rfl
 have t5:=x0.at0 5 rfl
 have t6:=x0.at0 6 rfl
 have t7:=x0.at0 7 rfl
 have t8:=x0.at0 8 rfl
 cases hm:c.may with
 | false =>
  have e:c.bad n=true:=by unfold Wc.bad;rw[hm];rfl
  rw[e]
  rw[hm] at hc
  go_enter Tryz.func40,Tryz.ntmps40
  go_wp2_with (go_at_call 16;refine(hc _).mono ?_;rintro e w1 ⟨rfl,g1⟩)
  go_ret
  exact⟨rfl,grow g0 g1⟩
 | true =>
  rw[hm] at hc
  cases hk:c.asks with
  | false =>
   have e:c.bad n=false:=by unfold Wc.bad;rw[hm,hk];rfl
   rw[e]
   rw[hk] at ha
   go_enter Tryz.func40,Tryz.ntmps40
   go_wp2_with (first
    | (go_at_call 16;refine(hc _).mono ?_;rintro e w1 ⟨rfl,g1⟩;have x1:=x0.grown g1;have t0:=x1.at0 0 rfl;have t1:=x1.at0 1 rfl;have t2:=x1.at0 2 rfl;have t3:=x1.at0 3 rfl;have t4:=x1.at0 4 rfl;have t5:=x1.at0 5 rfl;have t6:=x1.at0 6 rfl;have t7:=x1.at0 7 rfl;have t8:=x1.at0 8 rfl)
    | (go_at_call 30;refine(ha _).mono ?_;rintro e w2 ⟨rfl,g2⟩))
   go_ret
   exact⟨rfl,grow g0 (grow g1 g2)⟩
  | true =>
   have e:c.bad n=decide (n=0):=by unfold Wc.bad;rw[hm,hk];rfl
   rw[e]
   rw[hk] at ha
   by_cases h0:n=0
   . subst h0
     go_enter Tryz.func40,Tryz.ntmps40
     go_wp2_with (first
      | (go_at_call 16;refine(hc _).mono ?_;rintro e w1 ⟨rfl,g1⟩;have x1:=x0.grown g1;have t0:=x1.at0 0 rfl;have t1:=x1.at0 1 rfl;have t2:=x1.at0 2 rfl;have t3:=x1.at0 3 rfl;have t4:=x1.at0 4 rfl;have t5:=x1.at0 5 rfl;have t6:=x1.at0 6 rfl;have t7:=x1.at0 7 rfl;have t8:=x1.at0 8 rfl)
      | (go_at_call 30;refine(ha _).mono ?_;rintro e w2 ⟨rfl,g2⟩;have hp:=keep' g0 hp;have hp:=keep' g1 hp;have hp:=keep' g2 hp))
     go_ret
     exact⟨rfl,grow g0 (grow g1 g2)⟩
   . have hn:((n:Int) == 0)=false:=by simp;omega
     rw[decide_eq_false h0]
     go_enter Tryz.func40,Tryz.ntmps40
     go_wp2_with (first
      | (go_at_call 16;refine(hc _).mono ?_;rintro e w1 ⟨rfl,g1⟩;have x1:=x0.grown g1;have t0:=x1.at0 0 rfl;have t1:=x1.at0 1 rfl;have t2:=x1.at0 2 rfl;have t3:=x1.at0 3 rfl;have t4:=x1.at0 4 rfl;have t5:=x1.at0 5 rfl;have t6:=x1.at0 6 rfl;have t7:=x1.at0 7 rfl;have t8:=x1.at0 8 rfl)
      | (go_at_call 30;refine(ha _).mono ?_;rintro e w2 ⟨rfl,g2⟩;have hp:=keep' g0 hp;have hp:=keep' g1 hp;have hp:=keep' g2 hp))
     go_ret
     exact⟨rfl,grow g0 (grow g1 g2)⟩
set_option maxRecDepth 20000 in
theorem GI {cv:Value} {cs:List Wc} (h:Sl w 45 9 cv (cs.map Wc.l)) (hl:cs.length<=1000) {p:Nat} (hp:w.cell? ⟨p,0,none⟩=some (iV n)):Calls Tryz.prog 38 #[cv,.func (.func 40) #[] #[pP p 0]] w fun e w'=>∃ i:Int,e=.returned (iV i)/\decide (0<=i)=cs.any (Wc.bad n)/\Below w.heap.size w w':=by
 obtain⟨a,cap,rfl,hs⟩:=h.is
 have hlen:(cs.map Wc.l).length=cs.length:=by simp
 have hrow:∀ (i:Nat) (c:Wc),cs[i]?=some c->(cs.map Wc.l)[i]?=some c.l:=fun i c h=>by simp[h]
 have HLEN:Hid ((cs.map Wc.l).length=cs.length):=hlen
 clear h hlen
 generalize cs.map Wc.l=rows at *
 go_enter Tryz.func38,Tryz.ntmps38
 go_wp2
 go_loopw [8] (fun iv wr=>∃ i:Nat,iv=iV i/\i<=rows.length/\(∀ j c,j<i->cs[j]?=some c->c.bad n=false)/\Below w.heap.size w wr) (fun iv _=>2000 - (intOf iv).toNat)
 case atStart=>exact⟨0,rfl,Nat.zero_le _,fun j c hj=>absurd hj (by omega),Below.refl _ _⟩
 case round =>
  obtain⟨i,rfl,hi,he,g⟩:=hrel
  have HE:Hid (∀ j c,j<i->cs[j]?=some c->c.bad n=false):=he
  clear he
  by_cases hin:i<rows.length
  . have hi1:(i:Int)<(rows.length:Int):=by omega
    have hib:(0:Int)<=(i:Int)/\(i:Int)<(rows.length:Int):=by omega
    have hi9:(i:Int)<=1000:=by have:=HLEN.out;omega
    obtain⟨c,hc⟩:∃ c,cs[i]?=some c:=⟨_,List.getElem?_eq_getElem (by have:=HLEN.out;omega)⟩
    obtain⟨b,rfl,hb,hcl⟩:=hs i _ (hrow i c hc)
    have c0:=keep' g (hcl 0 _ rfl)
    have c1:=keep' g (hcl 1 _ rfl)
    have c2:=keep' g (hcl 2 _ rfl)
    have c3:=keep' g (hcl 3 _ rfl)
    have c4:=keep' g (hcl 4 _ rfl)
    have c5:=keep' g (hcl 5 _ rfl)
    have c6:=keep' g (hcl 6 _ rfl)
    have c7:=keep' g (hcl 7 _ rfl)
    have c8:=keep' g (hcl 8 _ rfl)
    rw[Nat.add_zero] at c0
    have hm:=MZ c (keep' g hp)
    have HI:Hid (i<rows.length/\rows.length<=1000/\cs[i]?=some c):=⟨hin,by have:=HLEN.out;omega,hc⟩
    clear hin hi hc hs hrow hcl
    cases hbd:c.bad n with
    | true =>
     rw[hbd] at hm
     go_wp2_with (go_at_call 40;refine hm.mono ?_;rintro e w1 ⟨rfl,g1⟩)
     go_ret
     exact⟨_,rfl,by rw[decide_eq_true (by omega)];exact(List.any_eq_true.2 ⟨c,List.mem_of_getElem? HI.out.2.2,hbd⟩).symm,grow g g1⟩
    | false =>
     rw[hbd] at hm
     go_wp2_with (go_at_call 40;refine hm.mono ?_;rintro e w1 ⟨rfl,g1⟩)
     go_roundw
     case rel =>
      refine⟨i+1,by go_num,HI.out.1,fun j z hj hz=>?_,grow g g1⟩
      by_cases e:j=i
      . subst e
        rw[HI.out.2.2] at hz
        cases hz;exact hbd
      . exact HE.out j z (by omega) hz
     case measure=>have:=HI.out;simp[intOf];omega
  . obtain rfl:i=rows.length:=by omega
    have hi1:¬ (rows.length:Int)<(rows.length:Int):=by omega
    go_wp2
    go_ret
    refine⟨-1,rfl,?_,g⟩
    rw[decide_eq_false (by decide)]
    refine(Bool.eq_false_iff.2 fun hm=>?_).symm
    obtain⟨c,hc,hb⟩:=List.any_eq_true.1 hm
    obtain⟨j,hj⟩:=List.mem_iff_getElem?.1 hc
    rw[HE.out j c (by have:=(List.getElem?_eq_some_iff.1 hj).1;have:=HLEN.out;omega) hj] at hb
    cases hb
theorem Ur {cv:Value} {cs:List Wc} (h:Sl w 45 9 cv (cs.map Wc.l)) (hl:cs.length<=1000) {p:Nat} (hp:w.cell? ⟨p,0,none⟩=some (iV n)):Calls Tryz.prog 22 #[cv,.func (.func 40) #[] #[pP p 0]] w fun e w'=>e=.returned (.bool (cs.any (Wc.bad n)))/\Below w.heap.size w w':=by
 have hi:=GI h hl hp
 clear h
 go_enter Tryz.func22,Tryz.ntmps22
 go_wp2_with (go_at_call 38;refine hi.mono ?_;rintro e w1 ⟨i,rfl,hd,g1⟩)
 go_ret
 exact⟨by rw[<- hd];rfl,g1⟩
end
end
end Go.Proofs.YtgehjolndmgffaaGreat
