import Derived.Test.YtlolfmoolgenpaaGreatDropActs
import Derived.Test.YtlolfmoolgenpaaGreatRelyAlso
import Derived.ArgAppend
namespace Go.Proofs.YtlolfmoolgenpaaGreat
open Go.RowKit
structure Rw (w : World) (T : TypeId) (b cap : Nat) (l : List Value) : Prop where
 ex : ∃ c,w.heap[b]? = some (.cells c T (0,0)) /\ cap <= c.size /\ ∀ (i : Nat) (x : Value),l[i]? = some x -> c[i]? = some x
 le : l.length <= cap
namespace Rw
variable {w w' : World} {T T' : TypeId} {b b' cap cap' : Nat} {l l' : List Value}
theorem lt (h : Rw w T b cap l) : b < w.heap.size:=by obtain ⟨c,k,_⟩:=h.ex;exact blk_lt k
theorem cell (h : Rw w T b cap l) {i : Nat} {x : Value} (hx : l[i]? = some x) : w.cell? ⟨b,i,none⟩ = some x:=by
 obtain ⟨c,k,_,k2⟩:=h.ex;exact blk_cell k (k2 i x hx)
theorem fz (h : Rw w T b cap l) (i : Nat) : w.frozen? ⟨b,i,none⟩ = false:=by obtain ⟨c,k,_⟩:=h.ex;exact blk_frozen k i
theorem of_block (h : Rw w T b cap l) (e : w'.heap[b]? = w.heap[b]?) : Rw w' T b cap l:=⟨h.ex.imp fun _ k=>⟨e.trans k.1,k.2⟩,h.le⟩
theorem grown (h : Rw w T b cap l) (g : Below w.heap.size w w') : Rw w' T b cap l:=h.of_block (g.block _ h.lt)
theorem only {S : Nat -> Prop} (h : Rw w T b cap l) (o : Only S w w') (hs : ¬ S b) : Rw w' T b cap l:=h.of_block (o.block _ h.lt hs)
theorem ne (h : Rw w T b cap l) (h' : Rw w T' b' cap' l') (e : T ≠ T') : b ≠ b':=fun e'=>by
 subst e'
 obtain ⟨c,k,_⟩:=h.ex
 obtain ⟨c',k',_⟩:=h'.ex
 rw [k] at k'
 cases k'
 exact e rfl
theorem set (h : Rw w T b cap l) {j : Nat} (hj : j < l.length) (v : Value) : Rw (w.setCell ⟨b,j,none⟩ v) T b cap (l.set j v):=by
 obtain ⟨c,k,k1,k2⟩:=h.ex
 have hle:=h.le
 refine ⟨⟨c.setIfInBounds j v,blk_setCell _ _ _ _ _ _ k,by simpa using k1,fun i x hx=>?_⟩,by simpa using hle⟩
 by_cases e : j = i
 · subst e
   rw [List.getElem?_set_self hj] at hx
   rw [Array.getElem?_setIfInBounds_self_of_lt (by omega)];exact hx
 · rw [List.getElem?_set_ne e] at hx
   rw [Array.getElem?_setIfInBounds_ne e];exact k2 i x hx
end Rw
theorem Grown.of {w w' : World} (h : w.grownBy w' none) : Grown w w':=⟨h.os,h.tape,h.output,h.size,fun k hk=>h.block k hk (by simp)⟩
theorem add_lit (b off j : Nat) : (⟨b,off,none⟩ : Addr).add j = ⟨b,off + j,none⟩:=by unfold Addr.add;split <;> simp_all
theorem Rw.app {w : World} {T S : TypeId} {b cap bytes : Nat} {l : List Value} {z : Value} (hu : Tryz.prog.underlying S = some (.slice T)) (hi0 : (Tryz.prog.info? T).map (fun i=>(i.zero,i.size,i.bytes)) = some (some z,1,bytes)) (hz : z.cells.size = 1) (hby : bytes <= 24)
 (h : Rw w T b cap l) (g : Nat) (x : Value) (hx : x.oneCell' = true) (hg : w.cell? ⟨g,0,none⟩ = some x) (hl : l.length <= 1000) (ty : TypeId) :
 ∃ b' cap' w',(Builtin.append_ #[S,S] ty #[.slice (some ⟨b,0,none⟩) l.length cap,.slice (some ⟨g,0,none⟩) 1 1]).run Tryz.prog w = .ok (.slice (some ⟨b',0,none⟩) (l.length + 1) cap') w' /\ Rw w' T b' cap' (l ++ [x]) /\ Only (fun k=>k = b) w w' /\ ((b' = b /\ cap' = cap /\ Rw w' T b cap l) \/ (w.heap.size <= b' /\ Grown w w')):=by
 obtain ⟨i0,hi,hz0,hz1,hz2⟩:=info_parts hi0
 obtain ⟨c,k,k1,k2⟩:=h.ex
 have hle:=h.le
 have hnews : ∀ j u,[x][j]? = some u -> w.cell? ((⟨g,0,none⟩ : Addr).add j) = some u:=fun j u hu=>by
  cases j with
  | zero=>simp at hu;subst hu;rw [add_lit];exact hg
  | succ j=>simp at hu
 by_cases hr : l.length + 1 <= cap
 · have hlt : l.length < c.size:=by omega
   have hcell : w.cell? ⟨b,l.length,none⟩ = some (c[l.length]):=blk_cell k (Array.getElem?_eq_getElem hlt)
   have hrun:=run_append_room_cells (P:=Tryz.prog) w S ty T i0 hu hi b 0 l.length cap ⟨g,0,none⟩ 1 1 [x] (by simp [hz1]) hnews (by simpa using hx) hr
    (fun j hj=>by
     have : j = 0:=by simpa using hj
     subst this;rw [hz1,Nat.mul_one,Nat.add_zero,Nat.zero_add,hcell];rfl)
    (fun j hj=>blk_frozen k _)
   rw [hz1,Nat.mul_one,Nat.zero_add] at hrun
   have hs : w.setCells b l.length [x] = w.setCell ⟨b,l.length,none⟩ x:=by simp [World.setCells]
   rw [hs] at hrun
   refine ⟨b,cap,_,hrun,?_,?_,Or.inl ⟨rfl,rfl,?_⟩⟩
   · refine ⟨⟨c.setIfInBounds l.length x,blk_setCell _ _ _ _ _ _ k,by simpa using k1,fun i y hy=>?_⟩,by simpa using hr⟩
     by_cases hil : i < l.length
     · rw [List.getElem?_append_left hil] at hy
       rw [Array.getElem?_setIfInBounds_ne (by omega)];exact k2 i y hy
     · have hi2 : i < (l ++ [x]).length:=(List.getElem?_eq_some_iff.1 hy).1
       simp at hi2
       obtain rfl : i = l.length:=by omega
       simp at hy
       subst hy
       rw [Array.getElem?_setIfInBounds_self_of_lt hlt]
   · exact Only.setCell (a:=⟨b,l.length,none⟩) (Only.refl (fun k=>k = b) w) (fun _=>rfl) x
   · refine ⟨⟨c.setIfInBounds l.length x,blk_setCell _ _ _ _ _ _ k,by simpa using k1,fun i y hy=>?_⟩,hle⟩
     have hil : i < l.length:=(List.getElem?_eq_some_iff.1 hy).1
     rw [Array.getElem?_setIfInBounds_ne (by omega)];exact k2 i y hy
 · obtain ⟨v',w',hrun,ho,hgr⟩:=run_append_arg_grows (P:=Tryz.prog) w S ty T i0 z 1 bytes hu hi hz0 hz1 hz2 hz (by decide) ⟨b,0,none⟩ l.length cap l (by simp)
    (fun j u hu=>by rw [add_lit,Nat.zero_add];exact h.cell hu)
    ⟨g,0,none⟩ 1 1 [x] (by simp) hnews (by omega) (by unfold maxLen;omega) (Nat.le_trans (Nat.mul_le_mul_left _ hby) (by omega))
   rcases ho.2 with ⟨_,h2⟩ | ⟨g',cap',cur,h',hb,hg',hcap,hmax,hsz,htake⟩
   · omega
   · subst h'
     refine ⟨g',cap',w',hrun,⟨⟨cur,hg',by omega,fun i u hu=>?_⟩,by simpa using hcap⟩,Only.ofGrown (Grown.of hgr),Or.inr ⟨hb,Grown.of hgr⟩⟩
     have e:=congrArg (fun q=>q[i]?) htake
     have hlt : i < l.length + 1:=by have:=lt_of_some hu;simpa using this
     simp only [Nat.mul_one] at e
     rw [List.getElem?_take_of_lt hlt,hu] at e
     simpa using e
theorem Tryz.infoR3 : (Tryz.prog.info? 3).map (fun i=>(i.zero,i.size,i.bytes)) = some (some (.int .i64 0),1,8):=by kernel_rfl
theorem Tryz.infoR34 : (Tryz.prog.info? 34).map (fun i=>(i.zero,i.size,i.bytes)) = some (some (.int .u64 0),1,8):=by kernel_rfl
theorem Tryz.infoR4 : (Tryz.prog.info? 4).map (fun i=>(i.zero,i.size,i.bytes)) = some (some (.bool false),1,1):=by kernel_rfl
end Go.Proofs.YtlolfmoolgenpaaGreat
