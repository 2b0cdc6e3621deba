import Derived.Test.YtlolfmoolgenpaaGreatDropRow
import Derived.Test.YtlolfmoolgenpaaGreatActStep
namespace Go.Proofs.YtlolfmoolgenpaaGreat
open Go.RowKit
theorem flat_len {z : Nat} {l : List (List Value)} (h : ∀ e ∈ l,e.length = z) : l.flatten.length = z * l.length:=by
 induction l with
 | nil=>rfl
 | cons q t ih =>
  have:=h q (List.mem_cons_self ..)
  have:=ih fun e he=>h e (List.mem_cons_of_mem _ he)
  rw [List.flatten_cons,List.length_append,List.length_cons,Nat.mul_add];omega
theorem flat_at {z i j : Nat} {l : List (List Value)} {e : List Value} (hl : ∀ e ∈ l,e.length = z) (h : l[i]? = some e) (hj : j < z) : l.flatten[i * z + j]? = e[j]?:=by
 induction l generalizing i with
 | nil=>simp at h
 | cons a t ih =>
  have ha:=hl a (List.mem_cons_self ..)
  rw [List.flatten_cons]
  cases i with
  | zero =>
   simp at h;subst h
   rw [Nat.zero_mul,Nat.zero_add,List.getElem?_append_left (by omega)]
  | succ i =>
   rw [Nat.succ_mul,List.getElem?_append_right (by omega),show i * z + z + j - a.length = i * z + j by omega]
   exact ih (fun e he=>hl e (List.mem_cons_of_mem _ he)) (by simpa using h)
structure Rz (w : World) (T : TypeId) (z b cap : Nat) (l : List (List Value)) : Prop where
 ex : ∃ c,w.heap[b]? = some (.cells c T (0,0)) /\ z * cap <= c.size /\ ∀ (i : Nat) (x : Value),l.flatten[i]? = some x -> c[i]? = some x
 le : l.length <= cap
 ln : ∀ e ∈ l,e.length = z
namespace Rz
variable {w w' : World} {T : TypeId} {z b cap : Nat} {l : List (List Value)}
theorem lt (h : Rz w T z b cap l) : b < w.heap.size:=by obtain ⟨c,k,_⟩:=h.ex;exact blk_lt k
theorem cell0 (h : Rz w T z b cap l) {i : Nat} {x : Value} (hx : l.flatten[i]? = some x) : w.cell? ⟨b,i,none⟩ = some x:=by
 obtain ⟨c,k,_,k2⟩:=h.ex;exact blk_cell k (k2 i x hx)
theorem cell (h : Rz w T z b cap l) {i j : Nat} {e : List Value} {x : Value} (he : l[i]? = some e) (hx : e[j]? = some x) : w.cell? ⟨b,i * z + j,none⟩ = some x:=by
 have hl:=h.ln e (List.mem_of_getElem? he)
 have hj:=(List.getElem?_eq_some_iff.1 hx).1
 exact h.cell0 ((flat_at h.ln he (by omega)).trans hx)
theorem of_block (h : Rz w T z b cap l) (e : w'.heap[b]? = w.heap[b]?) : Rz w' T z b cap l:=⟨h.ex.imp fun _ k=>⟨e.trans k.1,k.2⟩,h.le,h.ln⟩
theorem grown (h : Rz w T z b cap l) (g : Below w.heap.size w w') : Rz w' T z b cap l:=h.of_block (g.block _ h.lt)
theorem only {S : Nat -> Prop} (h : Rz w T z b cap l) (o : Only S w w') (hs : ¬ S b) : Rz w' T z b cap l:=h.of_block (o.block _ h.lt hs)
theorem fresh (w : World) (T : TypeId) (z : Nat) : Rz (w.alloc (.cells #[] T)) T z w.heap.size 0 []:=⟨⟨#[],Go.Deep.blk_alloc_new _ _,by simp,fun i x h=>by simp at h⟩,by simp,fun _ h=>by cases h⟩
end Rz
theorem setCells_blk {b : Nat} {T : TypeId} (news : List Value) : ∀ (w : World) (off : Nat) (c : Array Value),w.heap[b]? = some (.cells c T (0,0)) ->
 ∃ c',(w.setCells b off news).heap[b]? = some (.cells c' T (0,0)) /\ c'.size = c.size /\ (∀ i,(i < off \/ off + news.length <= i) -> c'[i]? = c[i]?) /\ (∀ (j : Nat) u,news[j]? = some u -> off + j < c.size -> c'[off + j]? = some u):=by
 induction news with
 | nil=>intro w off c h;exact ⟨c,by simpa [World.setCells] using h,rfl,fun _ _=>rfl,fun j u hu=>by simp at hu⟩
 | cons x t ih =>
  intro w off c h
  have h1:=blk_setCell w b off x c T h
  obtain ⟨c',k,k1,k2,k3⟩:=ih _ (off + 1) _ h1
  refine ⟨c',by simpa [World.setCells] using k,by simpa using k1,fun i hi=>?_,fun j u hu hj=>?_⟩
  · have : i < off \/ off + (t.length + 1) <= i:=by simpa using hi
    rw [k2 i (by omega),Array.getElem?_setIfInBounds_ne (by omega)]
  · cases j with
    | zero =>
     simp at hu;subst hu
     rw [Nat.add_zero,k2 off (by omega),Array.getElem?_setIfInBounds_self_of_lt (by omega)]
    | succ j =>
     have:=k3 j u (by simpa using hu) (by simp;omega)
     rw [show off + (j + 1) = off + 1 + j by omega];exact this
theorem setCells_only {b : Nat} (news : List Value) : ∀ (w w0 : World) (off : Nat),Only (fun k=>k = b) w0 w -> Only (fun k=>k = b) w0 (w.setCells b off news):=by
 induction news with
 | nil=>intro w w0 off h;simpa [World.setCells] using h
 | cons x t ih =>
  intro w w0 off h
  have:=ih (w.setCell ⟨b,off,none⟩ x) w0 (off + 1) (Only.setCell (a:=⟨b,off,none⟩) h (fun _=>rfl) x)
  simpa [World.setCells] using this
theorem Rz.app {w : World} {T S : TypeId} {z b cap bytes : Nat} {l : List (List Value)} {zv : Value} (hu : Tryz.prog.underlying S = some (.slice T)) (hi0 : (Tryz.prog.info? T).map (fun i=>(i.zero,i.size,i.bytes)) = some (some zv,z,bytes)) (hz : zv.cells.size = z) (hz0 : 0 < z) (hby : bytes <= 64)
 (h : Rz w T z b cap l) (g : Nat) (e : List Value) (he : e.length = z) (ho : ∀ u ∈ e,u.oneCell' = true) (hg : ∀ (j : Nat) u,e[j]? = some u -> w.cell? ⟨g,j,none⟩ = some u) (hl : l.length <= 5000) (ty : TypeId) :
 ∃ b' cap' w',(Builtin.append_ #[S,S] ty #[.slice (some ⟨b,0,none⟩) l.length cap,.slice (some ⟨g,0,none⟩) 1 1]).run Tryz.prog w = .ok (.slice (some ⟨b',0,none⟩) (l.length + 1) cap') w' /\ Rz w' T z b' cap' (l ++ [e]) /\ Only (fun k=>k = b) w w' /\ ((b' = b /\ cap' = cap /\ Rz w' T z b cap l) \/ (w.heap.size <= b' /\ Grown w w')):=by
 obtain ⟨i0,hi,hz0',hz1,hz2⟩:=info_parts hi0
 obtain ⟨c,k,k1,k2⟩:=h.ex
 have hle:=h.le
 have hf:=flat_len h.ln
 have hln : ∀ e' ∈ l ++ [e],e'.length = z:=fun e' h'=>by
  rcases List.mem_append.1 h' with h' | h'
  · exact h.ln e' h'
  · rw [List.mem_singleton.1 h'];exact he
 have hfa : (l ++ [e]).flatten = l.flatten ++ e:=by simp
 have hnews : ∀ (j : Nat) u,e[j]? = some u -> w.cell? ((⟨g,0,none⟩ : Addr).add j) = some u:=fun j u hu=>by rw [add_lit,Nat.zero_add];exact hg j u hu
 by_cases hr : l.length + 1 <= cap
 · have hzc : z * l.length + z <= z * cap:=by
    have:=Nat.mul_le_mul_left z hr
    rw [Nat.mul_add,Nat.mul_one] at this;exact this
   have hcell : ∀ j,j < e.length -> ∃ v,w.cell? ⟨b,z * l.length + j,none⟩ = some v:=fun j hj=>⟨_,blk_cell k (Array.getElem?_eq_getElem (show z * l.length + j < c.size by omega))⟩
   have hrun:=run_append_room_cells (P:=Tryz.prog) w S ty T i0 hu hi b 0 l.length cap ⟨g,0,none⟩ 1 1 e (by rw [hz1,he,Nat.one_mul]) hnews ho hr
    (fun j hj=>by
     obtain ⟨v,hv⟩:=hcell j hj
     rw [hz1,Nat.zero_add,Nat.mul_comm l.length z,hv];rfl)
    (fun j hj=>blk_frozen k _)
   rw [hz1,Nat.zero_add,Nat.mul_comm l.length z] at hrun
   obtain ⟨c',q,q1,q2,q3⟩:=setCells_blk e w (z * l.length) c k
   refine ⟨b,cap,_,hrun,?_,setCells_only _ _ _ _ (Only.refl _ _),Or.inl ⟨rfl,rfl,?_⟩⟩
   · refine ⟨⟨c',q,by omega,fun i x hx=>?_⟩,by simpa using hr,hln⟩
     rw [hfa] at hx
     by_cases hil : i < l.flatten.length
     · rw [List.getElem?_append_left hil] at hx
       rw [q2 i (by omega)];exact k2 i x hx
     · rw [List.getElem?_append_right (by omega)] at hx
       have:=q3 _ x hx (by have:=(List.getElem?_eq_some_iff.1 hx).1;omega)
       rwa [show z * l.length + (i - l.flatten.length) = i by omega] at this
   · refine ⟨⟨c',q,by omega,fun i x hx=>?_⟩,hle,h.ln⟩
     have:=(List.getElem?_eq_some_iff.1 hx).1
     rw [q2 i (by omega)];exact k2 i x hx
 · obtain ⟨v',w',hrun,ho,hgr⟩:=run_append_arg_grows (P:=Tryz.prog) w S ty T i0 zv z bytes hu hi hz0' hz1 hz2 hz hz0 ⟨b,0,none⟩ l.length cap l.flatten (by rw [hf,Nat.mul_comm])
    (fun j u hu=>by rw [add_lit,Nat.zero_add];exact h.cell0 hu)
    ⟨g,0,none⟩ 1 1 e (by rw [he,Nat.one_mul]) hnews (by omega) (by unfold maxLen;omega) (Nat.le_trans (Nat.mul_le_mul_left _ hby) (by omega))
   rw [<- hfa] at ho
   rcases ho.2 with ⟨_,h3⟩ | ⟨g',cap',cur,h',hb,hg',hcap,hmax,hsz,htake⟩
   · omega
   · subst h'
     refine ⟨g',cap',w',hrun,⟨⟨cur,hg',by rw [hsz,Nat.mul_comm];exact Nat.le_refl _,fun i u hu=>?_⟩,by simpa using hcap,hln⟩,Only.ofGrown (Grown.of hgr),Or.inr ⟨hb,Grown.of hgr⟩⟩
     have e1:=congrArg (fun q=>q[i]?) htake
     have hlt : i < (l.length + 1) * z:=by
      have:=(List.getElem?_eq_some_iff.1 hu).1
      rw [flat_len hln] at this
      simp only [List.length_append,List.length_cons,List.length_nil] at this
      rw [Nat.mul_comm];exact this
     rw [List.getElem?_take_of_lt hlt,hu] at e1
     simpa using e1
structure Two where
 b : Nat -> Nat
 c : Nat -> Nat
 l : Nat -> List (List Value)
 e : Nat -> List Value
 base : Nat
def twoT : Nat -> TypeId
 | 0=>40
 | _=>36
def twoZ : Nat -> Nat
 | 0=>4
 | _=>7
def Two.has (F : Two) (k : Nat) : Prop:=∃ a,a < 2 /\ k = F.b a
structure KeepT (F : Two) (X Y : World) : Prop where
 only : Only F.has X Y
 v1 : ∀ a,a < 2 -> Rz X (twoT a) (twoZ a) (F.b a) (F.c a) (F.l a) -> Rz Y (twoT a) (twoZ a) (F.b a) (F.c a) (F.l a)
 v2 : ∀ a,a < 2 -> Rz X (twoT a) (twoZ a) (F.b a) (F.c a) (F.l a ++ [F.e a]) -> Rz Y (twoT a) (twoZ a) (F.b a) (F.c a) (F.l a ++ [F.e a])
section
variable {F : Two} {X Y : World}
theorem KeepT.refl (X : World) : KeepT F X X:=⟨Only.refl _ _,fun _ _ h=>h,fun _ _ h=>h⟩
theorem KeepT.trans (X Y Z : World) (h : KeepT F X Y) (k : KeepT F Y Z) : KeepT F X Z:=⟨h.only.trans k.only,fun a ha r=>k.v1 a ha (h.v1 a ha r),fun a ha r=>k.v2 a ha (h.v2 a ha r)⟩
theorem KeepT.grown (g : Grown X Y) : KeepT F X Y:=⟨Only.ofGrown g,fun _ _ h=>h.grown g,fun _ _ h=>h.grown g⟩
theorem KeepT.app {a : Nat} (ha : a < 2) (hne : ∀ a',a' < 2 -> a' ≠ a -> F.b a' ≠ F.b a) (o : Only (fun k=>k = F.b a) X Y) (h1 : Rz Y (twoT a) (twoZ a) (F.b a) (F.c a) (F.l a)) (h2 : Rz Y (twoT a) (twoZ a) (F.b a) (F.c a) (F.l a ++ [F.e a])) : KeepT F X Y:=by
 refine ⟨⟨o.os,o.tape,o.output,o.size,fun k hk hn=>o.block k hk (fun e=>hn ⟨a,ha,e⟩)⟩,fun a' ha' h=>?_,fun a' ha' h=>?_⟩
 · by_cases e : a' = a
   · subst e;exact h1
   · exact h.only o (hne a' ha' e)
 · by_cases e : a' = a
   · subst e;exact h2
   · exact h.only o (hne a' ha' e)
def Two.grew (F : Two) (a : Nat) (W : World) (v : Value) : Prop:=∃ b' c',v = .slice (some ⟨b',0,none⟩) ((F.l a).length + 1) c' /\ Rz W (twoT a) (twoZ a) b' c' (F.l a ++ [F.e a]) /\ ((b' = F.b a /\ c' = F.c a) \/ F.base <= b')
theorem Two.grew_stays {a : Nat} (ha : a < 2) (hb : ∀ a,a < 2 -> F.b a < F.base) (X Y : World) (v : Value) (k : KeepT F X Y) (h : F.grew a X v) : F.grew a Y v:=by
 obtain ⟨b',c',rfl,r,e⟩:=h
 rcases e with ⟨rfl,rfl⟩ | e
 · exact ⟨_,_,rfl,k.v2 a ha r,Or.inl ⟨rfl,rfl⟩⟩
 · refine ⟨b',c',rfl,r.only k.only ?_,Or.inr e⟩
   rintro ⟨a',ha',e'⟩
   have:=hb a' ha'
   omega
def Two.boxd (F : Two) (a : Nat) (W : World) (v : Value) : Prop:=∃ g,v = .slice (some ⟨g,0,none⟩) 1 1 /\ F.base <= g /\ ∀ (j : Nat) u,(F.e a)[j]? = some u -> W.cell? ⟨g,j,none⟩ = some u
theorem Two.boxd_stays {a : Nat} (hb : ∀ a,a < 2 -> F.b a < F.base) (X Y : World) (v : Value) (k : KeepT F X Y) (h : F.boxd a X v) : F.boxd a Y v:=by
 obtain ⟨g,rfl,h1,h2⟩:=h
 refine ⟨g,rfl,h1,fun j u hu=>k.only.keep (b:=g) ?_ (h2 j u hu)⟩
 rintro ⟨a',ha',e⟩
 have:=hb a' ha'
 omega
theorem Tryz.infoZ40 : (Tryz.prog.info? 40).map (fun i=>(i.zero,i.size,i.bytes)) = some (some (.agg #[.int .i64 0,.int .u64 0,.int .i64 0,.int .i64 0]),4,32):=by kernel_rfl
theorem Tryz.infoZ36 : (Tryz.prog.info? 36).map (fun i=>(i.zero,i.size,i.bytes)) = some (some (.agg #[.int .i64 0,.int .i64 0,.int .u64 0,.int .i64 0,.int .i64 0,.int .i64 0,.bool false]),7,56):=by kernel_rfl
theorem Two.app {a : Nat} (ha : a < 2) (hne : ∀ a',a' < 2 -> a' ≠ a -> F.b a' ≠ F.b a) {S : TypeId} {zv : Value} {bytes : Nat} (hu : Tryz.prog.underlying S = some (.slice (twoT a))) (hi0 : (Tryz.prog.info? (twoT a)).map (fun i=>(i.zero,i.size,i.bytes)) = some (some zv,twoZ a,bytes)) (hz : zv.cells.size = twoZ a) (hz0 : 0 < twoZ a) (hby : bytes <= 64)
 {w0 w : World} (h0 : Rz w0 (twoT a) (twoZ a) (F.b a) (F.c a) (F.l a)) (k : KeepT F w0 w) {v : Value} (hv : F.boxd a w v) (he : (F.e a).length = twoZ a) (ho : ∀ u ∈ F.e a,u.oneCell' = true) (hl : (F.l a).length <= 5000) (hbw : F.base <= w.heap.size) (ty : TypeId) {b c n : Nat} (eb : F.b a = b) (ec : F.c a = c) (en : (F.l a).length = n) :
 ∃ v' w',(Builtin.append_ #[S,S] ty #[.slice (some ⟨b,0,none⟩) n c,v]).run Tryz.prog w = .ok v' w' /\ KeepT F w w' /\ F.grew a w' v':=by
 subst eb ec en
 obtain ⟨g,rfl,h1,h2⟩:=hv
 obtain ⟨b',c',w',hrun,r,o,e⟩:=(k.v1 a ha h0).app hu hi0 hz hz0 hby g (F.e a) he ho h2 hl ty
 refine ⟨_,w',hrun,?_,b',c',rfl,r,?_⟩
 · rcases e with ⟨rfl,rfl,h1⟩ | ⟨_,g⟩
   · exact KeepT.app ha hne o h1 r
   · exact KeepT.grown g
 · rcases e with ⟨rfl,rfl,_⟩ | ⟨h,_⟩
   · exact Or.inl ⟨rfl,rfl⟩
   · exact Or.inr (Nat.le_trans hbw h)
end
theorem rely_append3 {P : Program} {R : World -> World -> Prop} {o : Oper} {a : Act} {w w' : World} {φ : World -> Value -> Prop} {t : TypeId} {v vx v' : Value} (s x : Operand)
 (ho : o.op = .call { callee:=.builtin .append,args:=#[s,x],argTypes:=#[t,t] }) (hs : a.eval s = v) (hx : a.eval x = vx)
 (hr : (Builtin.append_ #[t,t] o.type #[v,vx]).run P w = .ok v' w') (hR : R w w') (hφ : φ w' v') : relyUpon P R w φ ((execOp a.eval o).run P w):=by
 unfold execOp
 simp only [ho,resolve,invoke,builtin,Sem.run_bind,Sem.run_pure,Result.andThen_ok,List.map_toArray,List.map_cons,List.map_nil,hs,hx,hr]
 exact ⟨hR,hφ⟩
def two {α : Type} (x y : α) : Nat -> α
 | 0=>x
 | _=>y
def anyJ (_ : Nat -> Option Value) : Prop:=True
end Go.Proofs.YtlolfmoolgenpaaGreat
