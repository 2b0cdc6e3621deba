import Derived.Test.YtmnnhjhhhfabiaaGreatCompLand
import Derived.Test.YtmnnhjhhhfabiaaGreatPolPick
import Derived.Test.YtmnnhjhhhfabiaaGreatLay
import Derived.Test.YtmnnhjhhhfabiaaGreatStruct
import Derived.ArgAppend
import Derived.Deep.LoopGhost
import Derived.Deep.MidRow
import Derived.Test.YtmnnhjhhhfabiaaGreatMovAt
import Derived.Test.YtmnnhjhhhfabiaaGreatPlaceSee
import Derived.Test.YtmnnhjhhhfabiaaGreatMovTown
namespace Go.Proofs.YtmnnhjhhhfabiaaGreat
open Go.RowKit
section
def TR (w : World) (ao : Option Addr) (n : Nat) (A : Nat -> Sn) : Prop :=
 ∀ i,i < n -> ∃ b off,ao = some ⟨b,off,none⟩ /\ w.cell? ⟨b,off + i * 6,none⟩ = some (iV (A i).st) /\ w.cell? ⟨b,off + i * 6 + 1,none⟩ = some (iV (A i).cl) /\
  w.cell? ⟨b,off + i * 6 + 2,none⟩ = some (iV (A i).us) /\ w.cell? ⟨b,off + i * 6 + 3,none⟩ = some (iV (A i).sm) /\ w.cell? ⟨b,off + i * 6 + 4,none⟩ = some (iV (A i).lv) /\ w.cell? ⟨b,off + i * 6 + 5,none⟩ = some (.bool (A i).op)
theorem TR.grown {w w' : World} {ao : Option Addr} {n : Nat} {A : Nat -> Sn} (h : TR w ao n A) (g : Below w.heap.size w w') : TR w' ao n A:=fun i hi=>by
 obtain ⟨b,off,e,k0,k1,k2,k3,k4,k5⟩:=h i hi
 exact ⟨b,off,e,keep' g k0,keep' g k1,keep' g k2,keep' g k3,keep' g k4,keep' g k5⟩
def Sn.cells (q : Sn) : List Value:=[iV q.st,iV q.cl,iV q.us,iV q.sm,iV q.lv,.bool q.op]
def Ze (l : List Sn) : List Value:=l.flatMap Sn.cells
theorem XX (l : List Sn) : (Ze l).length = 6 * l.length:=by
 induction l with
 | nil=>rfl
 | cons q t ih=>simp only [Ze,List.flatMap_cons,List.length_append,List.length_cons] at *;rw [ih];simp [Sn.cells];omega
theorem Vf (l l' : List Sn) : Ze (l ++ l') = Ze l ++ Ze l':=by simp [Ze]
theorem Yx {l : List Sn} {i j : Nat} {q : Sn} (h : l[i]? = some q) (hj : j < 6) : (Ze l)[i * 6 + j]? = q.cells[j]?:=by
 induction l generalizing i with
 | nil=>simp at h
 | cons a t ih =>
  simp only [Ze,List.flatMap_cons] at *
  have hl : a.cells.length = 6:=rfl
  cases i with
  | zero =>
   simp at h;subst h
   rw [Nat.zero_mul,Nat.zero_add,List.getElem?_append_left (by omega)]
  | succ i =>
   rw [List.getElem?_append_right (by omega),show (i + 1) * 6 + j - a.cells.length = i * 6 + j by omega]
   exact ih (by simpa using h)
structure YC (w : World) (b cap : Nat) (l : List Sn) : Prop where
 ex : ∃ c,w.heap[b]? = some (.cells c 163 (0,0)) /\ 6 * cap <= c.size /\ ∀ (i : Nat) (x : Value),(Ze l)[i]? = some x -> c[i]? = some x
 le : l.length <= cap
namespace YC
variable {w w' : World} {b b' cap cap' : Nat} {l l' : List Sn}
theorem lt (h : YC w b cap l) : b < w.heap.size:=by obtain ⟨c,k,_⟩:=h.ex;exact WO k
theorem cell (h : YC w b cap l) {i : Nat} {x : Value} (hx : (Ze l)[i]? = some x) : w.cell? ⟨b,i,none⟩ = some x:=by
 obtain ⟨c,k,_,k2⟩:=h.ex;exact ZW k (k2 i x hx)
theorem of_block (h : YC w b cap l) (e : w'.heap[b]? = w.heap[b]?) : YC w' b cap l:=⟨h.ex.imp fun _ k=>⟨e.trans k.1,k.2⟩,h.le⟩
theorem grown (h : YC w b cap l) (g : Below w.heap.size w w') : YC w' b cap l:=h.of_block (g.block _ h.lt)
theorem only {S : Nat -> Prop} (h : YC w b cap l) (o : Only S w w') (hs : ¬ S b) : YC w' b cap l:=h.of_block (o.block _ h.lt hs)
theorem drew (h : YC w b cap l) : YC w.drew b cap l:=h.of_block rfl
theorem at' (h : YC w b cap l) {i : Nat} {q : Sn} (hq : l[i]? = some q) : w.cell? ⟨b,i * 6,none⟩ = some (iV q.st) /\ w.cell? ⟨b,i * 6 + 1,none⟩ = some (iV q.cl) /\ w.cell? ⟨b,i * 6 + 2,none⟩ = some (iV q.us) /\
 w.cell? ⟨b,i * 6 + 3,none⟩ = some (iV q.sm) /\ w.cell? ⟨b,i * 6 + 4,none⟩ = some (iV q.lv) /\ w.cell? ⟨b,i * 6 + 5,none⟩ = some (.bool q.op) :=
 ⟨h.cell ((Yx hq (j:=0) (by omega)).trans rfl),h.cell ((Yx hq (j:=1) (by omega)).trans rfl),h.cell ((Yx hq (j:=2) (by omega)).trans rfl),h.cell ((Yx hq (j:=3) (by omega)).trans rfl),h.cell ((Yx hq (j:=4) (by omega)).trans rfl),h.cell ((Yx hq (j:=5) (by omega)).trans rfl)⟩
theorem V8 (h : YC w b cap l) {A : Nat -> Sn} (hA : ∀ (i : Nat) q,l[i]? = some q -> A i = q) : TR w (some ⟨b,0,none⟩) l.length A:=fun i hi=>by
 have hq : l[i]? = some l[i]:=List.getElem?_eq_getElem hi
 have e:=hA i _ hq
 obtain ⟨k0,k1,k2,k3,k4,k5⟩:=h.at' hq
 rw [e]
 exact ⟨b,0,rfl,by simpa using k0,by simpa using k1,by simpa using k2,by simpa using k3,by simpa using k4,by simpa using k5⟩
theorem made (w : World) (l : List Sn) : YC (w.alloc (.cells (Ze l).toArray 163)) w.heap.size l.length l :=
 ⟨⟨_,Go.Deep.blk_alloc_new _ _,by simp [XX],fun i x hx=>by simpa using hx⟩,Nat.le_refl _⟩
theorem one (w : World) (q : Sn) : YC (w.alloc (.cells #[iV q.st,iV q.cl,iV q.us,iV q.sm,iV q.lv,.bool q.op] 163)) w.heap.size 1 [q]:=made w [q]
end YC
theorem VH {b : Nat} {T : TypeId} (news : List Value) : ∀ (w : World) (off : Nat) (c : Array Value),w.heap[b]? = some (.cells c T (0,0)) ->
 ∃ c',(w.setCells b off news).heap[b]? = some (.cells c' T (0,0)) /\ c'.size = c.size /\ (∀ i,i < off -> c'[i]? = c[i]?) /\ (∀ (j : Nat) u,news[j]? = some u -> off + j < c.size -> c'[off + j]? = some u):=by
 induction news with
 | nil=>intro w off c h;exact ⟨c,by simpa [World.setCells] using h,rfl,fun _ _=>rfl,fun j u hu=>by simp at hu⟩
 | cons x t ih =>
  intro w off c h
  have h1:=ZU w b off x c T h
  obtain ⟨c',k,k1,k2,k3⟩:=ih _ (off + 1) _ h1
  refine ⟨c',by simpa [World.setCells] using k,by simpa using k1,fun i hi=>?_,fun j u hu hj=>?_⟩
  · rw [k2 i (by omega),Array.getElem?_setIfInBounds_ne (by omega)]
  · cases j with
    | zero =>
     simp at hu;subst hu
     rw [Nat.add_zero,k2 off (by omega),Array.getElem?_setIfInBounds_self_of_lt (by omega)]
    | succ j =>
     have:=k3 j u (by simpa using hu) (by simp;omega)
     rw [show off + (j + 1) = off + 1 + j by omega];exact this
theorem YT {b : Nat} (news : List Value) : ∀ (w w0 : World) (off : Nat),Only (fun k=>k = b) w0 w -> Only (fun k=>k = b) w0 (w.setCells b off news):=by
 induction news with
 | nil=>intro w w0 off h;simpa [World.setCells] using h
 | cons x t ih =>
  intro w w0 off h
  have:=ih (w.setCell ⟨b,off,none⟩ x) w0 (off + 1) (Only.setCell (a:=⟨b,off,none⟩) h (fun _=>rfl) x)
  simpa [World.setCells] using this
theorem Grown.of {w w' : World} (h : w.grownBy w' none) : Grown w w':=⟨h.os,h.tape,h.output,h.size,fun k hk=>h.block k hk (by simp)⟩
theorem add_lit (b off j : Nat) : (⟨b,off,none⟩ : Addr).add j = ⟨b,off + j,none⟩:=by unfold Addr.add;split <;> simp_all
theorem Tryz.Nl : (Tryz.prog.info? 163).map (fun i=>(i.zero,i.size,i.bytes)) = some (some (.agg #[iV 0,iV 0,iV 0,iV 0,iV 0,.bool false]),6,48):=by kernel_rfl
theorem YC.app {w : World} {b cap g cap2 : Nat} {l l2 : List Sn} (h : YC w b cap l) (h2 : YC w g cap2 l2) (hl : l.length + l2.length <= 1000) (ty : TypeId) :
 ∃ b' cap' w',(Builtin.append_ #[98,98] ty #[.slice (some ⟨b,0,none⟩) l.length cap,.slice (some ⟨g,0,none⟩) l2.length cap2]).run Tryz.prog w = .ok (.slice (some ⟨b',0,none⟩) (l.length + l2.length) cap') w' /\ YC w' b' cap' (l ++ l2) /\ Only (fun k=>k = b) w w' /\ ((b' = b /\ cap' = cap /\ YC w' b cap l) \/ (w.heap.size <= b' /\ Grown w w')):=by
 obtain ⟨i0,hi,hz0,hz1,hz2⟩:=info_parts Tryz.Nl
 obtain ⟨c,k,k1,k2⟩:=h.ex
 have hle:=h.le
 have hf:=XX l
 have hf2:=XX l2
 have hnews : ∀ (j : Nat) u,(Ze l2)[j]? = some u -> w.cell? ((⟨g,0,none⟩ : Addr).add j) = some u:=fun j u hu=>by rw [add_lit,Nat.zero_add];exact h2.cell hu
 by_cases hr : l.length + l2.length <= cap
 · have hcell : ∀ j,j < 6 * l2.length -> ∃ v,w.cell? ⟨b,6 * l.length + j,none⟩ = some v:=fun j hj=>⟨_,ZW k (Array.getElem?_eq_getElem (show 6 * l.length + j < c.size by omega))⟩
   have hone : ∀ u ∈ Ze l2,u.oneCell' = true:=by
    intro u hu
    simp only [Ze,List.mem_flatMap] at hu
    obtain ⟨q,-,hq⟩:=hu
    simp only [Sn.cells,List.mem_cons,List.not_mem_nil,or_false] at hq
    rcases hq with rfl | rfl | rfl | rfl | rfl | rfl <;> rfl
   have hrun:=run_append_room_cells (P:=Tryz.prog) w 98 ty 163 i0 Tryz.underlying98 hi b 0 l.length cap ⟨g,0,none⟩ l2.length cap2 (Ze l2) (by rw [hz1,hf2];omega) hnews hone hr
    (fun j hj=>by
     obtain ⟨v,hv⟩:=hcell j (by omega)
     rw [hz1,Nat.zero_add,Nat.mul_comm l.length 6,hv];rfl)
    (fun j hj=>Zc k _)
   rw [hz1,Nat.zero_add,Nat.mul_comm l.length 6] at hrun
   obtain ⟨c',q,q1,q2,q3⟩:=VH (Ze l2) w (6 * l.length) c k
   refine ⟨b,cap,_,hrun,?_,YT _ _ _ _ (Only.refl _ _),Or.inl ⟨rfl,rfl,?_⟩⟩
   · refine ⟨⟨c',q,by omega,fun i x hx=>?_⟩,by simpa using hr⟩
     rw [Vf] at hx
     by_cases hil : i < (Ze l).length
     · rw [List.getElem?_append_left hil] at hx
       rw [q2 i (by omega)];exact k2 i x hx
     · rw [List.getElem?_append_right (by omega)] at hx
       have:=q3 _ x hx (by have:=(List.getElem?_eq_some_iff.1 hx).1;omega)
       rwa [show 6 * l.length + (i - (Ze l).length) = i by omega] at this
   · refine ⟨⟨c',q,by omega,fun i x hx=>?_⟩,hle⟩
     have:=(List.getElem?_eq_some_iff.1 hx).1
     rw [q2 i (by omega)];exact k2 i x hx
 · obtain ⟨v',w',hrun,ho,hgr⟩:=run_append_arg_grows (P:=Tryz.prog) w 98 ty 163 i0 (.agg #[iV 0,iV 0,iV 0,iV 0,iV 0,.bool false]) 6 48 Tryz.underlying98 hi hz0 hz1 hz2 rfl (by decide) ⟨b,0,none⟩ l.length cap (Ze l) (by omega)
    (fun j u hu=>by rw [add_lit,Nat.zero_add];exact h.cell hu)
    ⟨g,0,none⟩ l2.length cap2 (Ze l2) (by omega) hnews (by omega) (by unfold maxLen;omega) (by omega)
   rw [<- Vf] at ho
   rcases ho.2 with ⟨_,h3⟩ | ⟨g',cap',cur,h',hb,hg',hcap,hmax,hsz,htake⟩
   · omega
   · subst h'
     refine ⟨g',cap',w',hrun,⟨⟨cur,hg',by omega,fun i u hu=>?_⟩,by simpa using hcap⟩,Only.ZZ (Grown.of hgr),Or.inr ⟨hb,Grown.of hgr⟩⟩
     have e:=congrArg (fun q=>q[i]?) htake
     have hlt : i < (l.length + l2.length) * 6:=by have:=(List.getElem?_eq_some_iff.1 hu).1;rw [XX] at this;simp at this;omega
     rw [List.getElem?_take_of_lt hlt,hu] at e
     simpa using e
theorem KN {P : Program} {ops : Array Oper} {rest : List Oper} {o : Oper} {a : Act} {Q : Exit -> Act -> World -> Prop} {w w' : World} {v vx v' : Value} {t : TypeId} (hg : o.guard = none) (s x : Operand)
 (hop : o.op = Op.call { callee:=Callee.builtin Builtin.append,args:=#[s,x],argTypes:=#[t,t] }) (hs : a.eval s = v) (hx : a.eval x = vx)
 (hrun : (Builtin.append_ #[t,t] o.type #[v,vx]).run P w = .ok v' w') (hK : wpList P ops Q rest (a.put o.dst v') w') : wpList P ops Q (o :: rest) a w:=by
 refine wpList_plain hg fun K hK'=>?_
 unfold Oper.wp
 simp [execOp,hop,resolve,invoke,builtin,hs,hx,hrun,Result.andThen]
 exact hK' _ _ hK
end
section
set_option maxRecDepth 20000 in
set_option maxHeartbeats 4000000 in
theorem QU (c0 c1 c2 c3 c4 sp c6 : Int) (hp : Fit sp) (ao : Option Addr) (n cap : Nat) (hn : n <= 9223372036854775807) (A : Nat -> Sn) (hA : ∀ i,i < n -> TS (A i)) {r : Int} (hr : Pick n (fun i=>(A i).may sp) (fun i=>(A i).lv) r) (w : World) (h : TR w ao n A) :
 Calls Tryz.prog 179 #[.agg #[iV c0,iV c1,iV c2,iV c3,iV c4,iV sp,iV c6],.slice ao n cap] w fun e w'=>e = .returned (iV r) /\ Below w.heap.size w w':=by
 have HA : Hid (∀ i,i < n -> TS (A i)):=hA
 have HR : Hid (Pick n (fun i=>(A i).may sp) (fun i=>(A i).lv) r):=hr
 have HN : Hid (n <= 9223372036854775807):=hn
 have HS : Hid (TR (w.alloc (.cells #[iV c0,iV c1,iV c2,iV c3,iV c4,iV sp,iV c6] 25)) ao n A):=h.grown (Z5 (Below.refl _ _) _)
 clear hA hr h hn
 go_enter Tryz.func179,Tryz.ntmps179
 go_wp2
 go_step3
 go_wp2
 go_step3
 go_wp2_with fail
 obtain ⟨B,hB⟩ : ∃ B,w.heap.size = B:=⟨_,rfl⟩
 refine ZY (fun W=>Hid (TR W ao n A) /\ Below w.heap.size w W /\ W.heap[w.heap.size]? = some (.cells #[iV c0,iV c1,iV c2,iV c3,iV c4,iV sp,iV c6] 25 (0,0))) ⟨HS,Z5 (Below.refl _ _) _,Go.Deep.blk_alloc_new _ _⟩ ?_
 intro W1 ⟨oz,hB1,hx⟩
 rw [hB] at hB1 hx ⊢
 clear HS
 have y0:=ZW (o:=0) hx rfl
 have y1:=ZW (o:=1) hx rfl
 have y2:=ZW (o:=2) hx rfl
 have y3:=ZW (o:=3) hx rfl
 have y4:=ZW (o:=4) hx rfl
 have y5:=ZW (o:=5) hx rfl
 have y6:=ZW (o:=6) hx rfl
 have HB : Hid (w.heap.size = B /\ Below B w W1):=⟨hB,hB1⟩
 clear hB hB1 hx
 go_loopg [5] n (fun g s5 wx=>∃ (i : Nat),i + g = n /\ s5 = iV i /\ Hid (VR n i (fun i=>(A i).may sp) (fun i=>(A i).lv)) /\ Grown W1 wx)
 case atStart=>exact ⟨0,by omega,rfl,VR.zero _ _ _,Grown.refl _⟩
 case round =>
  obtain ⟨i,hig,rfl,HI,hg1⟩:=hrel
  have x0:=keep' hg1 y0
  have x1:=keep' hg1 y1
  have x2:=keep' hg1 y2
  have x3:=keep' hg1 y3
  have x4:=keep' hg1 y4
  have x5:=keep' hg1 y5
  have x6:=keep' hg1 y6
  cases gk with
  | zero =>
   have hin : ¬ ((i : Int) < (n : Int)):=by omega
   obtain rfl : i = n:=by omega
   have HP : Hid (Pick i (fun i=>(A i).may sp) (fun i=>(A i).lv) (-1)):=VR.out HI.out
   go_wp2
   try rw [Exit.noGoto_ret]
   go_ret
   obtain ⟨e1,e2⟩:=HB.out
   rw [e1,HR.out.same HP.out]
   exact ⟨rfl,e2.trans (Below.mono hg1 (by rw [<- e1];exact e2.size))⟩
  | succ g =>
   have hin : (i : Int) < (n : Int):=by omega
   have hin' : i < n:=by omega
   obtain ⟨b,off,rfl,t0,t1,t2,t3,t4,t5⟩:=oz.out i hin'
   have k0:=keep' hg1 t0
   have k1:=keep' hg1 t1
   have k2:=keep' hg1 t2
   have k3:=keep' hg1 t3
   have k4:=keep' hg1 t4
   have k5:=keep' hg1 t5
   have Mi:=fun w=>Iz c0 c1 c2 c3 c4 sp c6 hp (A i) (HA.out i hin') w
   cases hm : (A i).may sp
   · rw [hm] at Mi
     have HM : Hid ((A i).may sp = false):=hm
     clear hm
     go_wp2_with fail
     refine Zu Grown [.val (.agg #[iV c0,iV c1,iV c2,iV c3,iV c4,iV sp,iV c6]),.val (.slice (some ⟨b,off,none⟩) n cap),.val (iV i),.val (pP b (off + i * 6)),.val (.agg #[iV (A i).st,iV (A i).cl,iV (A i).us,iV (A i).sm,iV (A i).lv,.bool (A i).op]),.val (.bool false),.val (.bool true)] (by kernel_rfl) Grown.refl Grown.trans (by kernel_rfl) (by kernel_rfl) (by kernel_rfl) ?_
     simp only [ZE,Act.put,List.setIfInBounds_toArray,List.set_cons_zero,List.set_cons_succ]
     refine ⟨?_,?_,?_,?_,?_,?_,?_,?_⟩
     · intro w' hg _;apply ol;have z0:=keep' hg x0;have z1:=keep' hg x1;have z2:=keep' hg x2;have z3:=keep' hg x3;have z4:=keep' hg x4;have z5:=keep' hg x5;have z6:=keep' hg x6;go_simp;exact gl
     · intros;apply ol;go_simp;exact gl
     · intros;apply ol;go_simp;exact gl
     · intros;apply ol;go_simp;exact gl
     · intro w' hg _;apply ol;have z0:=keep' hg k0;have z1:=keep' hg k1;have z2:=keep' hg k2;have z3:=keep' hg k3;have z4:=keep' hg k4;have z5:=keep' hg k5;go_simp;exact gl
     · intro w' hg _;apply ol;go_simp;exact cb (Mi _)
     · intros;apply ol;go_simp;exact gl
     intro w2 hg _
     have hg2 : Grown W1 w2:=Grown.trans _ _ _ hg1 (Grown.trans _ _ _ (Grown.drew _) hg)
     have hov : wrap64 ((i : Int) + 1) = ((i + 1 : Nat) : Int):=by have:=HN.out;unfold wrap64;omega
     have HO : Hid (wrap64 ((i : Int) + 1) = ((i + 1 : Nat) : Int)):=hov
     clear hov
     go_wp2
     go_roundg g
     case measure=>omega
     case rel=>exact ⟨i + 1,by omega,by first | rfl | (exact congrArg (Value.int .i64) HO.out) | simp,VR.over HI.out HM.out,hg2⟩
   · rw [hm] at Mi
     have HM : Hid ((A i).may sp = true):=hm
     clear hm
     go_wp2_with fail
     refine Zu Grown [.val (.agg #[iV c0,iV c1,iV c2,iV c3,iV c4,iV sp,iV c6]),.val (.slice (some ⟨b,off,none⟩) n cap),.val (iV i),.val (pP b (off + i * 6)),.val (.agg #[iV (A i).st,iV (A i).cl,iV (A i).us,iV (A i).sm,iV (A i).lv,.bool (A i).op]),.val (.bool true),.val (.bool false)] (by kernel_rfl) Grown.refl Grown.trans (by kernel_rfl) (by kernel_rfl) (by kernel_rfl) ?_
     simp only [ZE,Act.put,List.setIfInBounds_toArray,List.set_cons_zero,List.set_cons_succ]
     refine ⟨?_,?_,?_,?_,?_,?_,?_,?_⟩
     · intro w' hg _;apply ol;have z0:=keep' hg x0;have z1:=keep' hg x1;have z2:=keep' hg x2;have z3:=keep' hg x3;have z4:=keep' hg x4;have z5:=keep' hg x5;have z6:=keep' hg x6;go_simp;exact gl
     · intros;apply ol;go_simp;exact gl
     · intros;apply ol;go_simp;exact gl
     · intros;apply ol;go_simp;exact gl
     · intro w' hg _;apply ol;have z0:=keep' hg k0;have z1:=keep' hg k1;have z2:=keep' hg k2;have z3:=keep' hg k3;have z4:=keep' hg k4;have z5:=keep' hg k5;go_simp;exact gl
     · intro w' hg _;apply ol;go_simp;exact cb (Mi _)
     · intros;apply ol;go_simp;exact gl
     intro w2 hg _
     have hg2 : Grown W1 w2:=Grown.trans _ _ _ hg1 (Grown.trans _ _ _ (Grown.drew _) hg)
     have hov : wrap64 ((i : Int) + 1) = ((i + 1 : Nat) : Int):=by have:=HN.out;unfold wrap64;omega
     have HO : Hid (wrap64 ((i : Int) + 1) = ((i + 1 : Nat) : Int)):=hov
     clear hov x0 x1 x2 x3 x4 x5 x6 k0 k1 k2 k3 k4 k5 hg
     go_wp2
     go_loopg [5,6] g (fun g2 s5 s6 wy=>∃ (k : Nat),i < k /\ k + g2 = n /\ s5 = iV i /\ s6 = iV k /\ Hid (∀ j,i < j -> j < k -> (A j).may sp = true -> (A i).lv <= (A j).lv) /\ Grown W1 wy)
     case atStart=>exact ⟨i + 1,by omega,by omega,rfl,by first | rfl | (exact congrArg (Value.int .i64) HO.out) | simp,fun j h1 h2 _=>by omega,hg2⟩
     case round =>
      clear hg2
      obtain ⟨k,hik,hkg,rfl,rfl,HK,hg3⟩:=hrel
      have x0:=keep' hg3 y0
      have x1:=keep' hg3 y1
      have x2:=keep' hg3 y2
      have x3:=keep' hg3 y3
      have x4:=keep' hg3 y4
      have x5:=keep' hg3 y5
      have x6:=keep' hg3 y6
      cases gk with
      | zero =>
       have hkn : ¬ ((k : Int) < (n : Int)):=by omega
       have HE : Hid (k = n):=by unfold Hid;omega
       go_wp2
       try rw [Exit.noGoto_ret]
       go_ret
       obtain ⟨e1,e2⟩:=HB.out
       have HP : Pick n (fun i=>(A i).may sp) (fun i=>(A i).lv) i:=VR.done HI.out hin' HM.out (fun j h1 h2 h3=>HK.out j h1 (by rw [HE.out];exact h2) h3)
       rw [e1,HR.out.same HP]
       exact ⟨rfl,e2.trans (Below.mono hg3 (by rw [<- e1];exact e2.size))⟩
      | succ g2 =>
       have hkn : (k : Int) < (n : Int):=by omega
       have hkn' : k < n:=by omega
       obtain ⟨b',off',eq,s0,s1,s2,s3,s4,s5⟩:=oz.out k hkn'
       cases eq
       have k4:=keep' hg3 t4
       have q0:=keep' hg3 s0
       have q1:=keep' hg3 s1
       have q2:=keep' hg3 s2
       have q3:=keep' hg3 s3
       have q4:=keep' hg3 s4
       have q5:=keep' hg3 s5
       have hov : wrap64 ((k : Int) + 1) = ((k + 1 : Nat) : Int):=by have:=HN.out;unfold wrap64;omega
       have oq : Hid (wrap64 ((k : Int) + 1) = ((k + 1 : Nat) : Int)):=hov
       have Mk:=fun w=>Iz c0 c1 c2 c3 c4 sp c6 hp (A k) (HA.out k hkn') w
       clear hov
       cases hm : (A k).may sp
       · rw [hm] at Mk
         have pI : Hid ((A k).may sp = false):=hm
         clear hm
         go_wp2_with fail
         refine Zu Grown [.val (.agg #[iV c0,iV c1,iV c2,iV c3,iV c4,iV sp,iV c6]),.val (.slice (some ⟨b,off,none⟩) n cap),.val (iV k),.val (pP b (off + k * 6)),.val (.agg #[iV (A k).st,iV (A k).cl,iV (A k).us,iV (A k).sm,iV (A k).lv,.bool (A k).op]),.val (.bool false),.val (.bool false),.val undef,.val undef,.val undef,.val undef,.val undef,.val undef,.val undef,.val undef,.val undef,.val undef,.val undef,.val (.bool false)] (by kernel_rfl) Grown.refl Grown.trans (by kernel_rfl) (by kernel_rfl) (by kernel_rfl) ?_
         simp only [ZE,Act.put,List.setIfInBounds_toArray,List.set_cons_zero,List.set_cons_succ]
         refine ⟨?_,?_,?_,?_,?_,?_,?_,?_,?_,?_,?_,?_,?_,?_,?_,?_,?_,?_,?_,?_⟩
         · intro w' hg _;apply ol;have z0:=keep' hg x0;have z1:=keep' hg x1;have z2:=keep' hg x2;have z3:=keep' hg x3;have z4:=keep' hg x4;have z5:=keep' hg x5;have z6:=keep' hg x6;go_simp;exact gl
         · intros;apply ol;go_simp;exact gl
         · intros;apply ol;go_simp;exact gl
         · intros;apply ol;go_simp;exact gl
         · intro w' hg _;apply ol;have z0:=keep' hg q0;have z1:=keep' hg q1;have z2:=keep' hg q2;have z3:=keep' hg q3;have z4:=keep' hg q4;have z5:=keep' hg q5;go_simp;exact gl
         · intro w' hg _;apply ol;go_simp;exact cb (Mk _)
         · intros;apply ol;go_simp;exact gl
         · intros;exact ur
         · intros;exact ur
         · intros;exact ur
         · intros;exact ur
         · intros;exact ur
         · intros;exact ur
         · intros;exact ur
         · intros;exact ur
         · intros;exact ur
         · intros;exact ur
         · intros;exact ur
         · intros;apply ol;go_simp;exact gl
         intro w2 hg _
         have hg4 : Grown W1 w2:=Grown.trans _ _ _ hg3 (Grown.trans _ _ _ (Grown.drew _) hg)
         go_wp2
         go_roundg g2
         case measure=>omega
         case rel=>exact ⟨k + 1,by omega,by omega,rfl,by first | rfl | (exact congrArg (Value.int .i64) oq.out) | simp,fun j h1 h2 h3=>by
          by_cases e : j = k
          · subst e;rw [pI.out] at h3;cases h3
          · exact HK.out j h1 (by omega) h3,hg4⟩
       · rw [hm] at Mk
         have pI : Hid ((A k).may sp = true):=hm
         clear hm
         by_cases hl : (A k).lv < (A i).lv
         · have hd : decide ((A k).lv < (A i).lv) = true:=decide_eq_true hl
           go_wp2_with fail
           refine Zu Grown [.val (.agg #[iV c0,iV c1,iV c2,iV c3,iV c4,iV sp,iV c6]),.val (.slice (some ⟨b,off,none⟩) n cap),.val (iV k),.val (pP b (off + k * 6)),.val (.agg #[iV (A k).st,iV (A k).cl,iV (A k).us,iV (A k).sm,iV (A k).lv,.bool (A k).op]),.val (.bool true),.val (.bool true),.val (.slice (some ⟨b,off,none⟩) n cap),.val (iV k),.val (pP b (off + k * 6)),.val (pP b (off + k * 6 + 4)),.val (iV (A k).lv),.val (.slice (some ⟨b,off,none⟩) n cap),.val (iV i),.val (pP b (off + i * 6)),.val (pP b (off + i * 6 + 4)),.val (iV (A i).lv),.val (.bool true),.val (.bool true)] (by kernel_rfl) Grown.refl Grown.trans (by kernel_rfl) (by kernel_rfl) (by kernel_rfl) ?_
           simp only [ZE,Act.put,List.setIfInBounds_toArray,List.set_cons_zero,List.set_cons_succ]
           refine ⟨?_,?_,?_,?_,?_,?_,?_,?_,?_,?_,?_,?_,?_,?_,?_,?_,?_,?_,?_,?_⟩
           · intro w' hg _;apply ol;have z0:=keep' hg x0;have z1:=keep' hg x1;have z2:=keep' hg x2;have z3:=keep' hg x3;have z4:=keep' hg x4;have z5:=keep' hg x5;have z6:=keep' hg x6;go_simp;exact gl
           · intros;apply ol;go_simp;exact gl
           · intros;apply ol;go_simp;exact gl
           · intros;apply ol;go_simp;exact gl
           · intro w' hg _;apply ol;have z0:=keep' hg q0;have z1:=keep' hg q1;have z2:=keep' hg q2;have z3:=keep' hg q3;have z4:=keep' hg q4;have z5:=keep' hg q5;go_simp;exact gl
           · intro w' hg _;apply ol;go_simp;exact cb (Mk _)
           · intros;apply ol;go_simp;exact gl
           · intros;apply ol;go_simp;exact gl
           · intros;apply ol;go_simp;exact gl
           · intros;apply ol;go_simp;exact gl
           · intros;apply ol;go_simp;exact gl
           · intro w' hg _;apply ol;have z0:=keep' hg q4;go_simp;exact gl
           · intros;apply ol;go_simp;exact gl
           · intros;apply ol;go_simp;exact gl
           · intros;apply ol;go_simp;exact gl
           · intros;apply ol;go_simp;exact gl
           · intro w' hg _;apply ol;have z0:=keep' hg k4;go_simp;exact gl
           · intros;apply ol;go_simp;exact gl
           · intros;apply ol;go_simp;exact gl
           intro w2 hg _
           have hg4 : Grown W1 w2:=Grown.trans _ _ _ hg3 (Grown.trans _ _ _ (Grown.drew _) hg)
           go_wp2
           go_roundg (n - k)
           case measure=>omega
           case rel=>exact ⟨k,by omega,by first | rfl | simp,VR.jump HI.out HK.out hkn' pI.out hl,hg4⟩
         · have hd : decide ((A k).lv < (A i).lv) = false:=decide_eq_false hl
           go_wp2_with fail
           refine Zu Grown [.val (.agg #[iV c0,iV c1,iV c2,iV c3,iV c4,iV sp,iV c6]),.val (.slice (some ⟨b,off,none⟩) n cap),.val (iV k),.val (pP b (off + k * 6)),.val (.agg #[iV (A k).st,iV (A k).cl,iV (A k).us,iV (A k).sm,iV (A k).lv,.bool (A k).op]),.val (.bool true),.val (.bool true),.val (.slice (some ⟨b,off,none⟩) n cap),.val (iV k),.val (pP b (off + k * 6)),.val (pP b (off + k * 6 + 4)),.val (iV (A k).lv),.val (.slice (some ⟨b,off,none⟩) n cap),.val (iV i),.val (pP b (off + i * 6)),.val (pP b (off + i * 6 + 4)),.val (iV (A i).lv),.val (.bool false),.val (.bool false)] (by kernel_rfl) Grown.refl Grown.trans (by kernel_rfl) (by kernel_rfl) (by kernel_rfl) ?_
           simp only [ZE,Act.put,List.setIfInBounds_toArray,List.set_cons_zero,List.set_cons_succ]
           refine ⟨?_,?_,?_,?_,?_,?_,?_,?_,?_,?_,?_,?_,?_,?_,?_,?_,?_,?_,?_,?_⟩
           · intro w' hg _;apply ol;have z0:=keep' hg x0;have z1:=keep' hg x1;have z2:=keep' hg x2;have z3:=keep' hg x3;have z4:=keep' hg x4;have z5:=keep' hg x5;have z6:=keep' hg x6;go_simp;exact gl
           · intros;apply ol;go_simp;exact gl
           · intros;apply ol;go_simp;exact gl
           · intros;apply ol;go_simp;exact gl
           · intro w' hg _;apply ol;have z0:=keep' hg q0;have z1:=keep' hg q1;have z2:=keep' hg q2;have z3:=keep' hg q3;have z4:=keep' hg q4;have z5:=keep' hg q5;go_simp;exact gl
           · intro w' hg _;apply ol;go_simp;exact cb (Mk _)
           · intros;apply ol;go_simp;exact gl
           · intros;apply ol;go_simp;exact gl
           · intros;apply ol;go_simp;exact gl
           · intros;apply ol;go_simp;exact gl
           · intros;apply ol;go_simp;exact gl
           · intro w' hg _;apply ol;have z0:=keep' hg q4;go_simp;exact gl
           · intros;apply ol;go_simp;exact gl
           · intros;apply ol;go_simp;exact gl
           · intros;apply ol;go_simp;exact gl
           · intros;apply ol;go_simp;exact gl
           · intro w' hg _;apply ol;have z0:=keep' hg k4;go_simp;exact gl
           · intros;apply ol;go_simp;exact gl
           · intros;apply ol;go_simp;exact gl
           intro w2 hg _
           have hg4 : Grown W1 w2:=Grown.trans _ _ _ hg3 (Grown.trans _ _ _ (Grown.drew _) hg)
           go_wp2
           go_roundg g2
           case measure=>omega
           case rel=>exact ⟨k + 1,by omega,by omega,rfl,by first | rfl | (exact congrArg (Value.int .i64) oq.out) | simp,fun j h1 h2 h3=>by
            by_cases e : j = k
            · subst e;omega
            · exact HK.out j h1 (by omega) h3,hg4⟩
end
section
theorem Only.own {w : World} {b : Nat} : Only (fun k=>k = b) w w:=Only.refl _ _
theorem Only.Zk {w w' : World} {b : Nat} (h : Only (fun k=>k = b) w w') (i : Nat) (v : Value) : Only (fun k=>k = b) w (w'.setCell ⟨b,i,none⟩ v):=h.setCell (fun _=>rfl) v
theorem Qc {b : Nat} {T : TypeId} (news : List Value) : ∀ (w : World) (off : Nat) (c : Array Value),w.heap[b]? = some (.cells c T (0,0)) ->
 ∃ c',(w.setCells b off news).heap[b]? = some (.cells c' T (0,0)) /\ Same off news.length c c' /\ (∀ (j : Nat) u,news[j]? = some u -> off + j < c.size -> c'[off + j]? = some u):=by
 induction news with
 | nil=>intro w off c h;exact ⟨c,by simpa [World.setCells] using h,Same.refl,fun j u hu=>by simp at hu⟩
 | cons v r ih =>
  intro w off c h
  obtain ⟨c',k,sm,hr⟩:=ih (w.setCell ⟨b,off,none⟩ v) (off + 1) _ (ZU _ _ _ _ _ _ h)
  refine ⟨c',by simpa [World.setCells] using k,⟨by rw [sm.1,Array.size_setIfInBounds],fun i hi=>?_⟩,fun j u hu hj=>?_⟩
  · rw [List.length_cons] at hi
    rw [sm.2 i (by omega),Array.getElem?_setIfInBounds_ne (by omega)]
  · cases j with
    | zero =>
     obtain rfl : v = u:=by simpa using hu
     rw [sm.2 _ (by omega),Nat.add_zero,Array.getElem?_setIfInBounds_self_of_lt (by omega)]
    | succ j =>
     have:=hr j u (by simpa using hu) (by rw [Array.size_setIfInBounds];omega)
     rwa [show off + 1 + j = off + (j + 1) by omega] at this
structure ZN (w : World) (b o : Nat) (T : TypeId) (c : Array Value) (f : Nat -> Value) : Prop where
 obj : w.heap[b]? = some (.cells c T (0,0))
 is : ∀ i,i < 54 -> c[o + i]? = some (f i)
def lays (f : Nat -> Value) (q : Nat) : List Value -> Nat -> Value
 | []=>f
 | v :: r=>lays (upd f q v) (q + 1) r
theorem Zd (l : List Value) : ∀ (f : Nat -> Value) (q i : Nat),(i < q \/ q + l.length <= i) -> lays f q l i = f i:=by
 induction l with
 | nil=>intro f q i _;rfl
 | cons v r ih =>
  intro f q i h
  rw [List.length_cons] at h
  show lays (upd f q v) (q + 1) r i = f i
  rw [ih _ _ _ (by omega),Z7 _ _ _ _ (by omega)]
theorem Rx (l : List Value) : ∀ (f : Nat -> Value) (q j : Nat) (v : Value),l[j]? = some v -> lays f q l (q + j) = v:=by
 induction l with
 | nil=>intro f q j v h;simp at h
 | cons u r ih =>
  intro f q j v h
  show lays (upd f q u) (q + 1) r (q + j) = v
  cases j with
  | zero =>
   obtain rfl : u = v:=by simpa using h
   rw [Zd _ _ _ _ (Or.inl (by omega)),Nat.add_zero,upd_same]
  | succ j=>rw [show q + (j + 1) = q + 1 + j by omega];exact ih _ _ _ _ (by simpa using h)
namespace ZN
variable {w w' : World} {b o : Nat} {T : TypeId} {c c' : Array Value} {f : Nat -> Value}
theorem lt (h : ZN w b o T c f) : b < w.heap.size:=WO h.obj
theorem fz (h : ZN w b o T c f) (i : Nat) : w.frozen? ⟨b,i,none⟩ = false:=Zc h.obj i
theorem of_block (h : ZN w b o T c f) (e : w'.heap[b]? = w.heap[b]?) : ZN w' b o T c f:=⟨e.trans h.obj,h.is⟩
theorem grown (h : ZN w b o T c f) (g : Below w.heap.size w w') : ZN w' b o T c f:=h.of_block (g.block _ h.lt)
theorem drew (h : ZN w b o T c f) : ZN w.drew b o T c f:=h.of_block rfl
theorem only {S : Nat -> Prop} (h : ZN w b o T c f) (g : Only S w w') (hs : ¬ S b) : ZN w' b o T c f:=h.of_block (g.block _ h.lt hs)
theorem other (h : ZN w b o T c f) {k : Nat} (hk : b ≠ k) (i : Nat) (v : Value) : ZN (w.setCell ⟨k,i,none⟩ v) b o T c f:=h.of_block (Go.Deep.blk_setCell_other _ _ _ _ (by simpa using hk))
theorem sz (h : ZN w b o T c f) : o + 54 <= c.size:=by have:=(Array.getElem?_eq_some_iff.1 (h.is 53 (by decide))).1;omega
theorem cell (h : ZN w b o T c f) (i : Nat) (hi : i < 54) : w.cell? ⟨b,o + i,none⟩ = some (f i):=ZW h.obj (h.is i hi)
theorem ZP (h : ZN w b o T c f) (i : Nat) {v : Value} (e : f i = v) (hi : i < 54:=by decide) : w.cell? ⟨b,o + i,none⟩ = some v:=by rw [<- e];exact h.cell i hi
theorem c_0 (h : ZN w b o T c f) {v : Value} (e : f 0 = v) : w.cell? ⟨b,o,none⟩ = some v:=h.ZP 0 e
theorem set (h : ZN w b o T c f) (i : Nat) (v : Value) : ZN (w.setCell ⟨b,o + i,none⟩ v) b o T (c.setIfInBounds (o + i) v) (upd f i v) :=
 ⟨ZU _ _ _ _ _ _ h.obj,fun j hj=>by
  by_cases e : j = i
  · subst e;rw [upd_same,Array.getElem?_setIfInBounds_self_of_lt (by have:=h.sz;omega)]
  · rw [Z7 _ _ _ _ e,Array.getElem?_setIfInBounds_ne (by omega)];exact h.is j hj⟩
theorem set0 (h : ZN w b o T c f) (v : Value) : ZN (w.setCell ⟨b,o,none⟩ v) b o T (c.setIfInBounds o v) (upd f 0 v):=h.set 0 v
theorem lay (h : ZN w b o T c f) (q : Nat) (l : List Value) (hq : q + l.length <= 54) : ∃ c',ZN (w.setCells b (o + q) l) b o T c' (lays f q l):=by
 obtain ⟨c',k,sm,hr⟩:=Qc l w (o + q) c h.obj
 refine ⟨c',k,fun j hj=>?_⟩
 by_cases e : q <= j /\ j < q + l.length
 · have hl : l[j - q]? = some l[j - q]:=List.getElem?_eq_getElem (by omega)
   have:=hr (j - q) _ hl (by have:=h.sz;omega)
   rw [show o + q + (j - q) = o + j by omega] at this
   have e2:=Rx l f q _ _ hl
   rw [show q + (j - q) = j by omega] at e2
   rw [this,e2]
 · rw [sm.2 _ (by omega),Zd _ _ _ _ (by omega)];exact h.is j hj
theorem sub (h : ZN w b o T c f) (e : w'.heap[b]? = some (.cells c' T (0,0))) {q k : Nat} (sm : Same (o + q) k c c') : ∃ f',ZN w' b o T c' f' /\ ∀ i,i < q \/ q + k <= i -> f' i = f i:=by
 refine ⟨fun i=>if q <= i /\ i < q + k then c'[o + i]?.getD undef else f i,⟨e,fun j hj=>?_⟩,fun i hi=>if_neg (by omega)⟩
 by_cases hq : q <= j /\ j < q + k
 · rw [if_pos hq,Array.getElem?_eq_getElem (show o + j < c'.size by rw [sm.1];have:=h.sz;omega)];rfl
 · rw [if_neg hq,sm.2 _ (by omega)];exact h.is j hj
theorem there (h : ZN w b o T c f) (q N : Nat) (hq : q + N <= 54) : w.there b (o + q) N:=fun j hj=>by
 have hv:=h.cell (q + j) (by omega)
 rw [<- Nat.add_assoc] at hv
 exact ⟨by rw [hv];rfl,h.fz _⟩
theorem range (h : ZN w b o T c f) (q : Nat) (l : List Value) (hq : q + l.length <= 54) (hl : ∀ j v,l[j]? = some v -> f (q + j) = v) : w.rangeAt b (o + q) l:=fun j v hv=>by
 have:=h.ZP (q + j) (hl j v hv) (by have:=(List.getElem?_eq_some_iff.1 hv).1;omega)
 rwa [<- Nat.add_assoc] at this
theorem sat (h : ZN w b o T c f) (q : Nat) (l : List Value) (hq : q + l.length <= 54) (hl : ∀ j v,l[j]? = some v -> f (q + j) = v) : At w b (o + q) T c l :=
 ⟨h.obj,fun j v hv=>by
  have:=h.is (q + j) (by have:=(List.getElem?_eq_some_iff.1 hv).1;omega)
  rw [hl j v hv] at this
  rwa [<- Nat.add_assoc] at this⟩
end ZN
def Qb (L : Loc) (b o : Nat) (T : TypeId) (w w' : World) (X : Mm -> (Nat -> Value) -> Prop) : Prop :=
 ∃ s' cs' f',Z9 w' L s' /\ Only (L.and b) w w' /\ ZN w' b o T cs' f' /\ X s' f'
def wZ (L : Loc) (b o : Nat) (T : TypeId) (c c' : Array Value) (s s' : Mm) (a a' : Nat -> Value) : Nat -> World -> Prop
 | 0,w=>Z9 w L s /\ ZN w b o T c a
 | 1,w=>Z9 w L s' /\ ZN w b o T c a
 | _,w=>Z9 w L s' /\ ZN w b o T c' a'
theorem KQ {L : Loc} {b o : Nat} {T : TypeId} {c c' : Array Value} {s s' : Mm} {a a' : Nat -> Value} (x y : World) (p : Nat) (g : Grown x y) (k : wZ L b o T c c' s s' a a' p x) : wZ L b o T c c' s s' a a' p y:=by
 match p,k with
 | 0,k=>exact ⟨k.1.below g,k.2.grown g⟩
 | 1,k=>exact ⟨k.1.below g,k.2.grown g⟩
 | p + 2,k=>exact ⟨k.1.below g,k.2.grown g⟩
end
section
set_option maxHeartbeats 1000000
set_option maxRecDepth 20000
variable {w : World} {L : Loc} {s : Mm} {b o : Nat} {T : TypeId} {cs : Array Value} {t n k m : Nat} {g p r : Int} {f : Nat -> Value}
theorem Wn (h : Z9 w L s) (hG : Good t n k m g p r) (hl : ZR t n k m <= s.n) (who : Int) :
 Calls Tryz.prog 59 #[eV t n k m g p r L.p who] w fun e w'=>e = .returned (.bool true) /\ Below w.heap.size w w':=by
 go_enter Tryz.func59,Tryz.ntmps59
 go_wp2
 refine ZY (fun W=>Z9 W L s /\ ZV W w.heap.size t n k m g p r L.p who /\ Below w.heap.size w W) ⟨h.alloc _,ZV.new,Zh _ _⟩ ?_
 rintro W ⟨m1,v1,o1⟩
 apply Xr;· kernel_rfl
 apply rV;· intros;apply ol;go_simp;exact gl
 apply rV;· intro w' hg _;apply ol;have y:=(v1.dg hg).yy;go_simp;exact gl
 apply rV;· intro w' hg _;apply ol;go_simp;exact cb (Xq hG _)
 iterate 2 (apply rV;· intros;apply ol;go_simp;exact gl)
 apply rV;· intro w' hg _;apply ol;have y:=(v1.dg hg).yy;go_simp;exact gl
 try simp only [pu,s0,s1]
 apply rV;· intro w' hg _;apply ol;go_simp;exact cc (len_any (m1.drew.below hg))
 apply rV;· intros;apply ol;go_simp;exact gl
 apply rV;· intro w' hg _;apply ol;have y:=(v1.dg hg).yy;go_simp;exact gl
 apply rV;· intro w' hg _;apply ol;go_simp;exact cb (WT hG _)
 apply rV;· intro w' hg _;apply ol;have z : decide ((s.n : Int) ≥ ((ZR t n k m : Nat) : Int)) = true:=decide_eq_true (by omega);go_simp;exact gl
 apply rV;· intros;apply ol;go_simp;exact gl
 try simp only [pu,s0,s1]
 apply Zb;· intros;apply ol;go_simp;exact gl
 try simp only [pu,s0,s1]
 intro w5 hg _
 go_wp2
 go_ret
 exact ⟨rfl,grow (o1.trans ((Below.refl _ _).drew)) hg⟩
def Vu : Obj:=.cells #[iV 0,iV 0,.slice none 0 0,iV 0,iV 0,iV 0,iV 0,iV 0,iV 0,iV 0,iV 0,iV 0,iV 0,iV 0,iV 0,.bool false,iV 0,iV 0,.int .u64 0,iV 0,.int .u64 0,iV 0,iV 0,.int .u64 0,iV 0,.int .u64 0,iV 0,iV 0,.int .u64 0,.bool false,.int .u64 0,iV 0,.bool false,.bool false,iV 0,iV 0,iV 0,iV 0,iV 0,iV 0,.int .u64 0,iV 0,.bool false,iV 0,iV 0,iV 0,iV 0,iV 0,iV 0,iV 0,iV 0,iV 0,iV 0,iV 0] 110
def cmp0 (i : Nat) : Value:=#[iV 0,iV 0,.slice none 0 0,iV 0,iV 0,iV 0,iV 0,iV 0,iV 0,iV 0,iV 0,iV 0,iV 0,iV 0,iV 0,.bool false,iV 0,iV 0,.int .u64 0,iV 0,.int .u64 0,iV 0,iV 0,.int .u64 0,iV 0,.int .u64 0,iV 0,iV 0,.int .u64 0,.bool false,.int .u64 0,iV 0,.bool false,.bool false,iV 0,iV 0,iV 0,iV 0,iV 0,iV 0,.int .u64 0,iV 0,.bool false,iV 0,iV 0,iV 0,iV 0,iV 0,iV 0,iV 0,iV 0,iV 0,iV 0,iV 0].getD i undef
theorem Vj (w : World) :
 Calls Tryz.prog 17 #[] w fun e w'=>e = .returned (pP w.heap.size 0) /\ w' = w.alloc Vu:=by
 unfold Vu
 go_enter Tryz.func17,Tryz.ntmps17
 go_wp2
 go_ret
 exact ⟨rfl,rfl⟩
theorem Ef (w : World) : ∃ cs,ZN (w.alloc Vu) w.heap.size 0 110 cs cmp0:=by
 refine ⟨_,Go.Deep.blk_alloc_new _ _,fun i hi=>?_⟩
 rw [Nat.zero_add,Array.getElem?_eq_getElem (by simpa using hi)]
 unfold cmp0
 rw [Array.getD,dif_pos (by simpa using hi)]
 rfl
theorem XI (hi : ZN w b o T cs f) {we wl wf wm wr : Int} (f43 : f 43 = iV we) (f44 : f 44 = iV wl) (f45 : f 45 = iV wf) (f46 : f 46 = iV wm) (f47 : f 47 = iV wr) :
 Calls Tryz.prog 25 #[pP b o] w fun e w'=>e = .returned (.agg #[iV we,iV wl,iV wf,iV wm,iV wr]) /\ Below w.heap.size w w':=by
 have i1:=hi.grown (Zh _ (.cells #[iV 0,iV 0,iV 0,iV 0,iV 0] 63))
 have k0 : (w.alloc (.cells #[iV 0,iV 0,iV 0,iV 0,iV 0] 63)).cell? ⟨b,o + 43,none⟩ = some (iV we):=i1.ZP 43 f43
 have k1 : (w.alloc (.cells #[iV 0,iV 0,iV 0,iV 0,iV 0] 63)).cell? ⟨b,o + 43 + 1,none⟩ = some (iV wl):=i1.ZP 44 f44
 have k2 : (w.alloc (.cells #[iV 0,iV 0,iV 0,iV 0,iV 0] 63)).cell? ⟨b,o + 43 + 2,none⟩ = some (iV wf):=i1.ZP 45 f45
 have k3 : (w.alloc (.cells #[iV 0,iV 0,iV 0,iV 0,iV 0] 63)).cell? ⟨b,o + 43 + 3,none⟩ = some (iV wm):=i1.ZP 46 f46
 have k4 : (w.alloc (.cells #[iV 0,iV 0,iV 0,iV 0,iV 0] 63)).cell? ⟨b,o + 43 + 4,none⟩ = some (iV wr):=i1.ZP 47 f47
 clear hi i1 f43 f44 f45 f46 f47
 go_enter Tryz.func25,Tryz.ntmps25
 go_wp2
 refine bodyPost_ret (v:=.agg #[iV we,iV wl,iV wf,iV wm,iV wr]) (by simp [results,Tryz.results25,go_sem]) rfl ?_
 exact ⟨rfl,Zh _ _⟩
theorem PH (w : World) :
 Calls Tryz.prog 25 #[.pointer none] w fun e w'=>e = .returned (.agg #[iV 0,iV 0,iV 0,iV 0,iV 0]) /\ Below w.heap.size w w':=by
 go_enter Tryz.func25,Tryz.ntmps25
 go_wp2
 refine bodyPost_ret (v:=.agg #[iV 0,iV 0,iV 0,iV 0,iV 0]) (by simp [results,Tryz.results25,go_sem]) rfl ?_
 exact ⟨rfl,Zh _ _⟩
theorem PG (hi : ZN w b o T cs f) {x : Int} (ng : f 53 = iV x) :
 Calls Tryz.prog 27 #[pP b o] w fun e w'=>e = .returned (iV x) /\ w' = w:=by
 have k0:=hi.ZP 53 ng
 go_enter Tryz.func27,Tryz.ntmps27
 go_wp2
 go_ret
 exact ⟨rfl,rfl⟩
theorem PE (w : World) :
 Calls Tryz.prog 27 #[.pointer none] w fun e w'=>e = .returned (iV 0) /\ w' = w:=by
 go_enter Tryz.func27,Tryz.ntmps27
 go_wp2
 go_ret
 exact ⟨rfl,rfl⟩
theorem PD (w : World) :
 Calls Tryz.prog 32 #[.pointer none] w fun e w'=>e = .returned (.bool false) /\ w' = w:=by
 go_enter Tryz.func32,Tryz.ntmps32
 go_wp2
 go_ret
 exact ⟨rfl,rfl⟩
theorem Hm (hi : ZN w b o T cs f) {x y : Int} (h0 : f 0 = iV x) (h1 : f 1 = iV y) :
 Calls Tryz.prog 32 #[pP b o] w fun e w'=>e = .returned (.bool (x != 0 || y != 0)) /\ w' = w:=by
 have k0:=hi.c_0 h0
 have k1:=hi.ZP 1 h1
 cases hx : (x != 0)
 · go_enter Tryz.func32,Tryz.ntmps32
   go_wp2
   go_ret
   exact ⟨rfl,rfl⟩
 · go_enter Tryz.func32,Tryz.ntmps32
   go_wp2
   go_ret
   exact ⟨rfl,rfl⟩
theorem Hl (hi : ZN w b o T cs f) :
 Calls Tryz.prog 96 #[pP b o] w fun e w'=>e = .returned (.tuple #[]) /\ (∃ cs',ZN w' b o T cs' (upd (upd f 1 (iV 0)) 0 (iV 2))) /\ Only (fun k=>k = b) w w':=by
 have k0:=hi.c_0 rfl
 have k1:=hi.ZP 1 rfl
 have kf:=hi.fz
 have l0:=(hi.set 1 (iV 0)).c_0 rfl
 have lf:=(hi.set 1 (iV 0)).fz
 go_enter Tryz.func96,Tryz.ntmps96
 go_wp2
 go_end0
 exact ⟨rfl,⟨_,(hi.set 1 _).set0 _⟩,(Only.own.Zk _ _).Zk _ _⟩
theorem YE.wL {c : Array Value} {a0 : Bool} {a1 a2 : Int} {a3 a4 : Bool} (h : At w b o T c [.bool a0,.int .u64 a1,iV a2,.bool a3,.bool a4]) : YE w b o T c ⟨a0,a1,a2,a3,a4⟩ :=
 ⟨h.obj,h.is 0 _ rfl,h.is 1 _ rfl,h.is 2 _ rfl,h.is 3 _ rfl,h.is 4 _ rfl⟩
theorem Zi.wL {c : Array Value} {a0 a1 a2 a3 a4 a5 a6 a7 : Int} {a8 : Bool} (h : At w b o T c [iV a0,iV a1,iV a2,iV a3,iV a4,iV a5,.int .u64 a6,iV a7,.bool a8]) : Zi w b o T c ⟨a0,a1,a2,a3,a4,a5,a6,a7,a8⟩ :=
 ⟨h.obj,h.is 0 _ rfl,h.is 1 _ rfl,h.is 2 _ rfl,h.is 3 _ rfl,h.is 4 _ rfl,h.is 5 _ rfl,h.is 6 _ rfl,h.is 7 _ rfl,h.is 8 _ rfl⟩
def ad0 : List Value:=[.bool false,.int .u64 0,iV 0,.bool false,.bool false]
def Qh (i : Int) : List Value:=[iV 0,iV i,iV 0,iV 0,iV 0,iV 0,.int .u64 0,iV 0,.bool false]
theorem OD (hi : ZN w b o T cs (upd (lays f 29 ad0) 0 (iV 10))) : ND w b (o + 29) T cs .first :=
 ⟨_,YE.wL (hi.sat 29 ad0 (by decide) (fun j v hv=>by rw [Z7 _ _ _ _ (by omega)];exact Rx _ _ _ _ _ hv)),rfl⟩
theorem KI {i : Nat} {g : Nat -> Value} (hi : ZN w b o T cs (upd (lays g 34 (Qh i)) 0 (iV 11))) : RN w b (o + 34) T cs i .see :=
 ⟨_,Zi.wL (hi.sat 34 (Qh i) (by simp [Qh]) (fun j v hv=>by rw [Z7 _ _ _ _ (by omega)];exact Rx _ _ _ _ _ hv)),rfl,rfl,rfl,rfl⟩
theorem Xi (hi : ZN w b o T cs f) :
 Calls Tryz.prog 100 #[pP b o] w fun e w'=>e = .returned (.tuple #[]) /\ (∃ cs',ZN w' b o T cs' (upd (lays f 29 ad0) 0 (iV 10))) /\ Only (fun k=>k = b) w w':=by
 have kf:=hi.fz
 have k0:=hi.ZP 29 rfl
 have k1 : w.cell? ⟨b,o + 29 + 1,none⟩ = _:=hi.ZP 30 rfl
 have k2 : w.cell? ⟨b,o + 29 + 2,none⟩ = _:=hi.ZP 31 rfl
 have k3 : w.cell? ⟨b,o + 29 + 3,none⟩ = _:=hi.ZP 32 rfl
 have k4 : w.cell? ⟨b,o + 29 + 4,none⟩ = _:=hi.ZP 33 rfl
 have I:=((((hi.set 29 (.bool false)).set 30 (.int .u64 0)).set 31 (iV 0)).set 32 (.bool false)).set 33 (.bool false)
 have l0:=I.c_0 rfl
 have lf:=I.fz
 go_enter Tryz.func100,Tryz.ntmps100
 go_wp2
 go_end0
 exact ⟨rfl,⟨_,I.set0 _⟩,(((((Only.own.Zk _ _).Zk _ _).Zk _ _).Zk _ _).Zk _ _).Zk _ _⟩
theorem Xh (hi : ZN w b o T cs f) (i : Nat) :
 Calls Tryz.prog 108 #[pP b o,iV i] w fun e w'=>e = .returned (.tuple #[]) /\ (∃ cs',ZN w' b o T cs' (upd (lays (upd f 1 (iV i)) 34 (Qh i)) 0 (iV 11))) /\ Only (fun k=>k = b) w w':=by
 have k1:=hi.ZP 1 rfl
 have kf:=hi.fz
 have NF : ∀ w1 : World,w1 = (w.setCell ⟨b,o + 1,none⟩ (iV i)).alloc (set0 i) -> ZN w1 b o T (cs.setIfInBounds (o + 1) (iV i)) (upd f 1 (iV i)) /\ w1.rangeAt w.heap.size 0 (Qh i) /\ Only (fun k=>k = b) w w1:=by
  rintro w1 rfl
  refine ⟨(hi.set 1 _).grown (Zh _ (set0 i)),?_,(Only.own.Zk _ _).alloc _⟩
  have N0:=At.new (w.setCell ⟨b,o + 1,none⟩ (iV i)) 108 (Qh i)
  rw [Go.Deep.nblk_setCell] at N0
  exact fun j v hv=>N0.cell j hv
 go_enter Tryz.func108,Tryz.ntmps108
 go_wp2_with (first
  | (go_at_call 155;refine (PY (i : Int) _).mono ?_;rintro e w1 ⟨rfl,hw⟩;obtain ⟨I2,N0,O2⟩:=NF w1 hw;clear hw NF hi;rw [Go.Deep.nblk_setCell];clear kf k1)
  | (refine wpList_load_mid rfl 108 (.tmp 11) rfl _ 0 rfl (Qh i) _ N0 Tryz.underlying108 rfl (by kernel_rfl) ?_;simp only [Act.put,List.setIfInBounds_toArray,List.set_cons_zero,List.set_cons_succ])
  | (refine wpList_store_mid rfl 108 (.tmp 14) (.tmp 12) rfl b (o + 34) (Qh i).toArray rfl rfl (I2.there 34 9 (by decide)) (by kernel_rfl) (by simp [Qh,Value.oneCell']) ?_;obtain ⟨c3,I3⟩:=I2.lay 34 (Qh i) (by simp [Qh]);have O3:=YT (Qh i) _ _ (o + 34) O2;simp only [Act.put];generalize w1.setCells b (o + 34) (Qh i) = w3 at I3 O3 ⊢;have l0:=I3.c_0 rfl;have lf:=I3.fz))
 go_end0
 exact ⟨rfl,⟨_,I3.set0 _⟩,O3.Zk _ _⟩
theorem Hg (hi : ZN w b o T cs f) {we wl wf wm wr : Int} (f43 : f 43 = iV we) (f44 : f 44 = iV wl) (f45 : f 45 = iV wf) (f46 : f 46 = iV wm) (f47 : f 47 = iV wr) {ae af am x : Int} (f48 : f 48 = iV ae) (f51 : f 51 = iV am) (f50 : f 50 = iV af) (f53 : f 53 = iV x) (h0 : 0 <= x /\ x <= 1000000) (h1 : 0 <= wr /\ wr <= 1000000) (e1 : (we != ae) = false) (e2 : (wm != am) = false) (e3 : (wf != af) = false) :
 Calls Tryz.prog 111 #[pP b o] w fun e w'=>e = .returned (.tuple #[]) /\ (∃ cs',ZN w' b o T cs' (upd (upd (lays (upd (upd f 53 (iV (x + 1))) 47 (iV (wr + 1))) 48 [iV we,iV wl,iV wf,iV wm,iV (wr + 1)]) 1 (iV 0)) 0 (iV 0))) /\ Only (fun k=>k = b) w w':=by
 have k0:=hi.ZP 53 f53
 have kf:=hi.fz
 have w1 : wrap64 (x + 1) = x + 1:=by unfold wrap64;omega
 have w2 : wrap64 (wr + 1) = wr + 1:=by unfold wrap64;omega
 go_enter Tryz.func111,Tryz.ntmps111
 go_wp2
 refine ZY (fun W=>ZN W b o T (cs.setIfInBounds (o + 53) (iV (x + 1))) (upd f 53 (iV (x + 1))) /\ Only (fun k=>k = b) w W) ⟨hi.set 53 _,Only.own.Zk _ _⟩ ?_
 rintro W ⟨i1,o1⟩
 clear k0 kf hi
 have wK : W.cell? ⟨b,o + 43,none⟩ = some (iV we):=i1.ZP 43 f43
 have l48 : W.cell? ⟨b,o + 48,none⟩ = some (iV ae):=i1.ZP 48 f48
 have l46 : W.cell? ⟨b,o + 43 + 3,none⟩ = some (iV wm):=i1.ZP 46 f46
 have l51 : W.cell? ⟨b,o + 48 + 3,none⟩ = some (iV am):=i1.ZP 51 f51
 have l45 : W.cell? ⟨b,o + 43 + 2,none⟩ = some (iV wf):=i1.ZP 45 f45
 have wJ : W.cell? ⟨b,o + 48 + 2,none⟩ = some (iV af):=i1.ZP 50 f50
 have lf:=i1.fz
 go_region
 replace i1:=i1.drew
 replace o1:=o1.drew
 clear wK l48 l46 l51 l45 wJ lf
 generalize W.drew = V at i1 o1 ⊢
 have q7 : V.cell? ⟨b,o + 43 + 4,none⟩ = some (iV wr):=i1.ZP 47 f47
 have qf:=i1.fz
 have HI : Hid (ZN (V.setCell ⟨b,o + 43 + 4,none⟩ (iV (wr + 1))) b o T _ _):=i1.set 47 (iV (wr + 1))
 have HO : Hid (Only _ w (V.setCell ⟨b,o + 43 + 4,none⟩ (iV (wr + 1)))):=o1.Zk (o + 47) (iV (wr + 1))
 have HR : Hid ((V.setCell ⟨b,o + 43 + 4,none⟩ (iV (wr + 1))).rangeAt b (o + 43) [iV we,iV wl,iV wf,iV wm,iV (wr + 1)]):=HI.out.range 43 _ (by simp) (fun j v hv=>by
  match j,hv with
  | 0,hv=>cases hv;exact f43
  | 1,hv=>cases hv;exact f44
  | 2,hv=>cases hv;exact f45
  | 3,hv=>cases hv;exact f46
  | 4,hv=>cases hv;rfl)
 clear i1 o1 f43 f44 f45 f46 f47 f48 f50 f51 f53
 go_wp2_with (first
  | (refine wpList_load_mid rfl 63 (.tmp 61) rfl b (o + 43) rfl [iV we,iV wl,iV wf,iV wm,iV (wr + 1)] _ HR.out Tryz.underlying63 rfl (by kernel_rfl) ?_;simp only [Act.put,List.setIfInBounds_toArray,List.set_cons_zero,List.set_cons_succ])
  | (refine wpList_store_mid rfl 63 (.tmp 64) (.tmp 62) rfl b (o + 48) #[iV we,iV wl,iV wf,iV wm,iV (wr + 1)] rfl rfl (HI.out.there 48 5 (by decide)) (by kernel_rfl) (by simp [Value.oneCell']) ?_;obtain ⟨c3,I3⟩:=HI.out.lay 48 [iV we,iV wl,iV wf,iV wm,iV (wr + 1)] (by simp);have O3:=YT [iV we,iV wl,iV wf,iV wm,iV (wr + 1)] _ _ (o + 48) HO.out;simp only [Act.put];generalize (V.setCell ⟨b,o + 43 + 4,none⟩ (iV (wr + 1))).setCells b (o + 48) [iV we,iV wl,iV wf,iV wm,iV (wr + 1)] = w3 at I3 O3 ⊢;clear HI HO HR q7 qf;have d1:=I3.ZP 1 rfl;have df:=I3.fz;have d2:=(I3.set 1 (iV 0)).c_0 rfl;have dg:=(I3.set 1 (iV 0)).fz))
 go_end0
 exact ⟨rfl,⟨_,(I3.set 1 _).set0 _⟩,(O3.Zk _ _).Zk _ _⟩
theorem zt (hi : ZN w b o T cs f) {we wl wf wm wr : Int} (f43 : f 43 = iV we) (f44 : f 44 = iV wl) (f45 : f 45 = iV wf) (f46 : f 46 = iV wm) (f47 : f 47 = iV wr) {ae af am x : Int} (f48 : f 48 = iV ae) (f51 : f 51 = iV am) (f50 : f 50 = iV af) (f53 : f 53 = iV x) (h0 : 0 <= x /\ x <= 1000000) (h1 : 0 <= wr /\ wr <= 1000000) (e1 : (we != ae) = true) :
 Calls Tryz.prog 111 #[pP b o] w fun e w'=>e = .returned (.tuple #[]) /\ (∃ cs',ZN w' b o T cs' (upd (upd (lays (upd (upd (upd f 53 (iV (x + 1))) 53 (iV 0)) 47 (iV (wr + 1))) 48 [iV we,iV wl,iV wf,iV wm,iV (wr + 1)]) 1 (iV 0)) 0 (iV 0))) /\ Only (fun k=>k = b) w w':=by
 have k0:=hi.ZP 53 f53
 have kf:=hi.fz
 have w1 : wrap64 (x + 1) = x + 1:=by unfold wrap64;omega
 have w2 : wrap64 (wr + 1) = wr + 1:=by unfold wrap64;omega
 go_enter Tryz.func111,Tryz.ntmps111
 go_wp2
 refine ZY (fun W=>ZN W b o T (cs.setIfInBounds (o + 53) (iV (x + 1))) (upd f 53 (iV (x + 1))) /\ Only (fun k=>k = b) w W) ⟨hi.set 53 _,Only.own.Zk _ _⟩ ?_
 rintro W ⟨i1,o1⟩
 clear k0 kf hi
 have wK : W.cell? ⟨b,o + 43,none⟩ = some (iV we):=i1.ZP 43 f43
 have l48 : W.cell? ⟨b,o + 48,none⟩ = some (iV ae):=i1.ZP 48 f48
 have l46 : W.cell? ⟨b,o + 43 + 3,none⟩ = some (iV wm):=i1.ZP 46 f46
 have l51 : W.cell? ⟨b,o + 48 + 3,none⟩ = some (iV am):=i1.ZP 51 f51
 have l45 : W.cell? ⟨b,o + 43 + 2,none⟩ = some (iV wf):=i1.ZP 45 f45
 have wJ : W.cell? ⟨b,o + 48 + 2,none⟩ = some (iV af):=i1.ZP 50 f50
 have lf:=i1.fz
 go_region
 replace i1:=i1.drew
 replace o1:=o1.drew
 clear wK l48 l46 l51 l45 wJ lf
 generalize W.drew = V at i1 o1 ⊢
 have k8:=i1.ZP 53 rfl
 have k9:=i1.fz
 replace i1:=i1.set 53 (iV 0)
 replace o1:=o1.Zk (o + 53) (iV 0)
 have q7 : (V.setCell ⟨b,o + 53,none⟩ (iV 0)).cell? ⟨b,o + 43 + 4,none⟩ = some (iV wr):=i1.ZP 47 f47
 have qf:=i1.fz
 have HI : Hid (ZN ((V.setCell ⟨b,o + 53,none⟩ (iV 0)).setCell ⟨b,o + 43 + 4,none⟩ (iV (wr + 1))) b o T _ _):=i1.set 47 (iV (wr + 1))
 have HO : Hid (Only _ w ((V.setCell ⟨b,o + 53,none⟩ (iV 0)).setCell ⟨b,o + 43 + 4,none⟩ (iV (wr + 1)))):=o1.Zk (o + 47) (iV (wr + 1))
 have HR : Hid (((V.setCell ⟨b,o + 53,none⟩ (iV 0)).setCell ⟨b,o + 43 + 4,none⟩ (iV (wr + 1))).rangeAt b (o + 43) [iV we,iV wl,iV wf,iV wm,iV (wr + 1)]):=HI.out.range 43 _ (by simp) (fun j v hv=>by
  match j,hv with
  | 0,hv=>cases hv;exact f43
  | 1,hv=>cases hv;exact f44
  | 2,hv=>cases hv;exact f45
  | 3,hv=>cases hv;exact f46
  | 4,hv=>cases hv;rfl)
 clear i1 o1 f43 f44 f45 f46 f47 f48 f50 f51 f53
 go_wp2_with (first
  | (refine wpList_load_mid rfl 63 (.tmp 61) rfl b (o + 43) rfl [iV we,iV wl,iV wf,iV wm,iV (wr + 1)] _ HR.out Tryz.underlying63 rfl (by kernel_rfl) ?_;simp only [Act.put,List.setIfInBounds_toArray,List.set_cons_zero,List.set_cons_succ])
  | (refine wpList_store_mid rfl 63 (.tmp 64) (.tmp 62) rfl b (o + 48) #[iV we,iV wl,iV wf,iV wm,iV (wr + 1)] rfl rfl (HI.out.there 48 5 (by decide)) (by kernel_rfl) (by simp [Value.oneCell']) ?_;obtain ⟨c3,I3⟩:=HI.out.lay 48 [iV we,iV wl,iV wf,iV wm,iV (wr + 1)] (by simp);have O3:=YT [iV we,iV wl,iV wf,iV wm,iV (wr + 1)] _ _ (o + 48) HO.out;simp only [Act.put];generalize ((V.setCell ⟨b,o + 53,none⟩ (iV 0)).setCell ⟨b,o + 43 + 4,none⟩ (iV (wr + 1))).setCells b (o + 48) [iV we,iV wl,iV wf,iV wm,iV (wr + 1)] = w3 at I3 O3 ⊢;clear HI HO HR q7 qf;have d1:=I3.ZP 1 rfl;have df:=I3.fz;have d2:=(I3.set 1 (iV 0)).c_0 rfl;have dg:=(I3.set 1 (iV 0)).fz))
 go_end0
 exact ⟨rfl,⟨_,(I3.set 1 _).set0 _⟩,(O3.Zk _ _).Zk _ _⟩
theorem zq (hi : ZN w b o T cs f) {we wl wf wm wr : Int} (f43 : f 43 = iV we) (f44 : f 44 = iV wl) (f45 : f 45 = iV wf) (f46 : f 46 = iV wm) (f47 : f 47 = iV wr) {ae af am x : Int} (f48 : f 48 = iV ae) (f51 : f 51 = iV am) (f50 : f 50 = iV af) (f53 : f 53 = iV x) (h0 : 0 <= x /\ x <= 1000000) (h1 : 0 <= wr /\ wr <= 1000000) (e1 : (we != ae) = false) (e2 : (wm != am) = true) :
 Calls Tryz.prog 111 #[pP b o] w fun e w'=>e = .returned (.tuple #[]) /\ (∃ cs',ZN w' b o T cs' (upd (upd (lays (upd (upd (upd f 53 (iV (x + 1))) 53 (iV 0)) 47 (iV (wr + 1))) 48 [iV we,iV wl,iV wf,iV wm,iV (wr + 1)]) 1 (iV 0)) 0 (iV 0))) /\ Only (fun k=>k = b) w w':=by
 have k0:=hi.ZP 53 f53
 have kf:=hi.fz
 have w1 : wrap64 (x + 1) = x + 1:=by unfold wrap64;omega
 have w2 : wrap64 (wr + 1) = wr + 1:=by unfold wrap64;omega
 go_enter Tryz.func111,Tryz.ntmps111
 go_wp2
 refine ZY (fun W=>ZN W b o T (cs.setIfInBounds (o + 53) (iV (x + 1))) (upd f 53 (iV (x + 1))) /\ Only (fun k=>k = b) w W) ⟨hi.set 53 _,Only.own.Zk _ _⟩ ?_
 rintro W ⟨i1,o1⟩
 clear k0 kf hi
 have wK : W.cell? ⟨b,o + 43,none⟩ = some (iV we):=i1.ZP 43 f43
 have l48 : W.cell? ⟨b,o + 48,none⟩ = some (iV ae):=i1.ZP 48 f48
 have l46 : W.cell? ⟨b,o + 43 + 3,none⟩ = some (iV wm):=i1.ZP 46 f46
 have l51 : W.cell? ⟨b,o + 48 + 3,none⟩ = some (iV am):=i1.ZP 51 f51
 have l45 : W.cell? ⟨b,o + 43 + 2,none⟩ = some (iV wf):=i1.ZP 45 f45
 have wJ : W.cell? ⟨b,o + 48 + 2,none⟩ = some (iV af):=i1.ZP 50 f50
 have lf:=i1.fz
 go_region
 replace i1:=i1.drew
 replace o1:=o1.drew
 clear wK l48 l46 l51 l45 wJ lf
 generalize W.drew = V at i1 o1 ⊢
 have k8:=i1.ZP 53 rfl
 have k9:=i1.fz
 replace i1:=i1.set 53 (iV 0)
 replace o1:=o1.Zk (o + 53) (iV 0)
 have q7 : (V.setCell ⟨b,o + 53,none⟩ (iV 0)).cell? ⟨b,o + 43 + 4,none⟩ = some (iV wr):=i1.ZP 47 f47
 have qf:=i1.fz
 have HI : Hid (ZN ((V.setCell ⟨b,o + 53,none⟩ (iV 0)).setCell ⟨b,o + 43 + 4,none⟩ (iV (wr + 1))) b o T _ _):=i1.set 47 (iV (wr + 1))
 have HO : Hid (Only _ w ((V.setCell ⟨b,o + 53,none⟩ (iV 0)).setCell ⟨b,o + 43 + 4,none⟩ (iV (wr + 1)))):=o1.Zk (o + 47) (iV (wr + 1))
 have HR : Hid (((V.setCell ⟨b,o + 53,none⟩ (iV 0)).setCell ⟨b,o + 43 + 4,none⟩ (iV (wr + 1))).rangeAt b (o + 43) [iV we,iV wl,iV wf,iV wm,iV (wr + 1)]):=HI.out.range 43 _ (by simp) (fun j v hv=>by
  match j,hv with
  | 0,hv=>cases hv;exact f43
  | 1,hv=>cases hv;exact f44
  | 2,hv=>cases hv;exact f45
  | 3,hv=>cases hv;exact f46
  | 4,hv=>cases hv;rfl)
 clear i1 o1 f43 f44 f45 f46 f47 f48 f50 f51 f53
 go_wp2_with (first
  | (refine wpList_load_mid rfl 63 (.tmp 61) rfl b (o + 43) rfl [iV we,iV wl,iV wf,iV wm,iV (wr + 1)] _ HR.out Tryz.underlying63 rfl (by kernel_rfl) ?_;simp only [Act.put,List.setIfInBounds_toArray,List.set_cons_zero,List.set_cons_succ])
  | (refine wpList_store_mid rfl 63 (.tmp 64) (.tmp 62) rfl b (o + 48) #[iV we,iV wl,iV wf,iV wm,iV (wr + 1)] rfl rfl (HI.out.there 48 5 (by decide)) (by kernel_rfl) (by simp [Value.oneCell']) ?_;obtain ⟨c3,I3⟩:=HI.out.lay 48 [iV we,iV wl,iV wf,iV wm,iV (wr + 1)] (by simp);have O3:=YT [iV we,iV wl,iV wf,iV wm,iV (wr + 1)] _ _ (o + 48) HO.out;simp only [Act.put];generalize ((V.setCell ⟨b,o + 53,none⟩ (iV 0)).setCell ⟨b,o + 43 + 4,none⟩ (iV (wr + 1))).setCells b (o + 48) [iV we,iV wl,iV wf,iV wm,iV (wr + 1)] = w3 at I3 O3 ⊢;clear HI HO HR q7 qf;have d1:=I3.ZP 1 rfl;have df:=I3.fz;have d2:=(I3.set 1 (iV 0)).c_0 rfl;have dg:=(I3.set 1 (iV 0)).fz))
 go_end0
 exact ⟨rfl,⟨_,(I3.set 1 _).set0 _⟩,(O3.Zk _ _).Zk _ _⟩
theorem zn (hi : ZN w b o T cs f) {we wl wf wm wr : Int} (f43 : f 43 = iV we) (f44 : f 44 = iV wl) (f45 : f 45 = iV wf) (f46 : f 46 = iV wm) (f47 : f 47 = iV wr) {ae af am x : Int} (f48 : f 48 = iV ae) (f51 : f 51 = iV am) (f50 : f 50 = iV af) (f53 : f 53 = iV x) (h0 : 0 <= x /\ x <= 1000000) (h1 : 0 <= wr /\ wr <= 1000000) (e1 : (we != ae) = false) (e2 : (wm != am) = false) (e3 : (wf != af) = true) :
 Calls Tryz.prog 111 #[pP b o] w fun e w'=>e = .returned (.tuple #[]) /\ (∃ cs',ZN w' b o T cs' (upd (upd (lays (upd (upd (upd f 53 (iV (x + 1))) 53 (iV 0)) 47 (iV (wr + 1))) 48 [iV we,iV wl,iV wf,iV wm,iV (wr + 1)]) 1 (iV 0)) 0 (iV 0))) /\ Only (fun k=>k = b) w w':=by
 have k0:=hi.ZP 53 f53
 have kf:=hi.fz
 have w1 : wrap64 (x + 1) = x + 1:=by unfold wrap64;omega
 have w2 : wrap64 (wr + 1) = wr + 1:=by unfold wrap64;omega
 go_enter Tryz.func111,Tryz.ntmps111
 go_wp2
 refine ZY (fun W=>ZN W b o T (cs.setIfInBounds (o + 53) (iV (x + 1))) (upd f 53 (iV (x + 1))) /\ Only (fun k=>k = b) w W) ⟨hi.set 53 _,Only.own.Zk _ _⟩ ?_
 rintro W ⟨i1,o1⟩
 clear k0 kf hi
 have wK : W.cell? ⟨b,o + 43,none⟩ = some (iV we):=i1.ZP 43 f43
 have l48 : W.cell? ⟨b,o + 48,none⟩ = some (iV ae):=i1.ZP 48 f48
 have l46 : W.cell? ⟨b,o + 43 + 3,none⟩ = some (iV wm):=i1.ZP 46 f46
 have l51 : W.cell? ⟨b,o + 48 + 3,none⟩ = some (iV am):=i1.ZP 51 f51
 have l45 : W.cell? ⟨b,o + 43 + 2,none⟩ = some (iV wf):=i1.ZP 45 f45
 have wJ : W.cell? ⟨b,o + 48 + 2,none⟩ = some (iV af):=i1.ZP 50 f50
 have lf:=i1.fz
 go_region
 replace i1:=i1.drew
 replace o1:=o1.drew
 clear wK l48 l46 l51 l45 wJ lf
 generalize W.drew = V at i1 o1 ⊢
 have k8:=i1.ZP 53 rfl
 have k9:=i1.fz
 replace i1:=i1.set 53 (iV 0)
 replace o1:=o1.Zk (o + 53) (iV 0)
 have q7 : (V.setCell ⟨b,o + 53,none⟩ (iV 0)).cell? ⟨b,o + 43 + 4,none⟩ = some (iV wr):=i1.ZP 47 f47
 have qf:=i1.fz
 have HI : Hid (ZN ((V.setCell ⟨b,o + 53,none⟩ (iV 0)).setCell ⟨b,o + 43 + 4,none⟩ (iV (wr + 1))) b o T _ _):=i1.set 47 (iV (wr + 1))
 have HO : Hid (Only _ w ((V.setCell ⟨b,o + 53,none⟩ (iV 0)).setCell ⟨b,o + 43 + 4,none⟩ (iV (wr + 1)))):=o1.Zk (o + 47) (iV (wr + 1))
 have HR : Hid (((V.setCell ⟨b,o + 53,none⟩ (iV 0)).setCell ⟨b,o + 43 + 4,none⟩ (iV (wr + 1))).rangeAt b (o + 43) [iV we,iV wl,iV wf,iV wm,iV (wr + 1)]):=HI.out.range 43 _ (by simp) (fun j v hv=>by
  match j,hv with
  | 0,hv=>cases hv;exact f43
  | 1,hv=>cases hv;exact f44
  | 2,hv=>cases hv;exact f45
  | 3,hv=>cases hv;exact f46
  | 4,hv=>cases hv;rfl)
 clear i1 o1 f43 f44 f45 f46 f47 f48 f50 f51 f53
 go_wp2_with (first
  | (refine wpList_load_mid rfl 63 (.tmp 61) rfl b (o + 43) rfl [iV we,iV wl,iV wf,iV wm,iV (wr + 1)] _ HR.out Tryz.underlying63 rfl (by kernel_rfl) ?_;simp only [Act.put,List.setIfInBounds_toArray,List.set_cons_zero,List.set_cons_succ])
  | (refine wpList_store_mid rfl 63 (.tmp 64) (.tmp 62) rfl b (o + 48) #[iV we,iV wl,iV wf,iV wm,iV (wr + 1)] rfl rfl (HI.out.there 48 5 (by decide)) (by kernel_rfl) (by simp [Value.oneCell']) ?_;obtain ⟨c3,I3⟩:=HI.out.lay 48 [iV we,iV wl,iV wf,iV wm,iV (wr + 1)] (by simp);have O3:=YT [iV we,iV wl,iV wf,iV wm,iV (wr + 1)] _ _ (o + 48) HO.out;simp only [Act.put];generalize ((V.setCell ⟨b,o + 53,none⟩ (iV 0)).setCell ⟨b,o + 43 + 4,none⟩ (iV (wr + 1))).setCells b (o + 48) [iV we,iV wl,iV wf,iV wm,iV (wr + 1)] = w3 at I3 O3 ⊢;clear HI HO HR q7 qf;have d1:=I3.ZP 1 rfl;have df:=I3.fz;have d2:=(I3.set 1 (iV 0)).c_0 rfl;have dg:=(I3.set 1 (iV 0)).fz))
 go_end0
 exact ⟨rfl,⟨_,(I3.set 1 _).set0 _⟩,(O3.Zk _ _).Zk _ _⟩
end
section
set_option maxRecDepth 20000
variable {w : World} {L : Loc} {s : Mm} {b o : Nat} {T : TypeId} {cs : Array Value} {t n k m : Nat} {g p r : Int} {f : Nat -> Value}
theorem Vh (st cl us sp x : Int) (h0 : 0 <= sp) (h1 : sp <= 100000000) (w : World) :
 Calls Tryz.prog 146 #[.agg #[iV st,iV cl,iV us,iV sp],iV x] w fun e w'=>e = .returned (.agg #[iV x,iV cl,iV us,iV (sp + 1)]) /\ Below w.heap.size w w':=by
 have hw : wrap64 (sp + 1) = sp + 1:=by unfold wrap64;omega
 go_enter Tryz.func146,Tryz.ntmps146
 go_wp2
 refine bodyPost_ret (v:=.agg #[iV x,iV cl,iV us,iV (sp + 1)]) (by simp [results,Tryz.results146,go_sem]) rfl ?_
 refine ⟨rfl,?_⟩
 first
  | exact Z5 (Z5 (Below.refl _ _) _) _
  | exact ZF (ZF (Z5 (Z5 (Below.refl _ _) _) _) (Nat.le_refl _) _ _) (Nat.le_refl _) _ _
  | (repeat (first | exact Z5 (Z5 (Below.refl _ _) _) _ | refine ZF ?_ (by omega) _ _))
theorem U0 {i : Nat} (hz : w.cell? ⟨b,o + 3,none⟩ = some (iV i)) (hG : Good t n k m g p r) (hik : i < k) (P : Nat) (who : Int) :
 Calls Tryz.prog 106 #[pP b o,eV t n k m g p r P who] w fun e w'=>e = .returned (iV (((6 + t + n * 2 + i * 3) : Nat) : Int)) /\ Below w.heap.size w w':=by
 have hk1:=hG.k1
 go_enter Tryz.func106,Tryz.ntmps106
 go_wp2
 refine ZY (fun W=>W.cell? ⟨b,o + 3,none⟩ = some (iV i) /\ ZV W w.heap.size t n k m g p r P who /\ Below w.heap.size w W) ⟨keep' (Zh _ _) hz,ZV.new,Zh _ _⟩ ?_
 rintro W ⟨i1,v1,o1⟩
 apply Xr;· kernel_rfl
 apply rV;· intros;apply ol;go_simp;exact gl
 apply rV;· intro w' hg _;apply ol;have y:=(v1.dg hg).yy;go_simp;exact gl
 iterate 3 (apply rV;· intros;apply ol;go_simp;exact gl)
 apply rV;· intro w' hg _;apply ol;have z:=keep' hg (keep' ((Below.refl _ _).drew) i1);go_simp;exact gl
 try simp only [pu,s0,s1]
 apply rV (c:=iV (((6 + t + n * 2 + i * 3) : Nat) : Int));· intro w' hg _;apply ol;go_simp;refine (Y8 _ _ _ _ _ _ _ (i : Int) _ hG.arena (by omega) (by omega)).mono ?_;rintro e w'' ⟨rfl,b9⟩;exact ⟨_,rfl,b9,congrArg (Value.int .i64) (by omega)⟩
 apply Zb;· intros;apply ol;go_simp;exact gl
 try simp only [pu,s0,s1]
 intro w5 hg _
 go_wp2
 go_ret
 exact ⟨rfl,grow (o1.trans ((Below.refl _ _).drew)) hg⟩
theorem Uu {U : Nat} (hz : w.cell? ⟨b,o + 6,none⟩ = some (iV U)) (hU : U <= m) (P : Nat) (who : Int) :
 Calls Tryz.prog 101 #[pP b o,eV t n k m g p r P who] w fun e w'=>e = .returned (iV (U : Int)) /\ Below w.heap.size w w':=by
 go_enter Tryz.func101,Tryz.ntmps101
 go_wp2
 refine ZY (fun W=>W.cell? ⟨b,o + 6,none⟩ = some (iV U) /\ ZV W w.heap.size t n k m g p r P who /\ Below w.heap.size w W) ⟨keep' (Zh _ _) hz,ZV.new,Zh _ _⟩ ?_
 rintro W ⟨i1,v1,o1⟩
 apply Xr;· kernel_rfl
 iterate 4 (apply rV;· intros;apply ol;go_simp;exact gl)
 apply rV;· intro w' hg _;apply ol;have z:=keep' hg (keep' ((Below.refl _ _).drew) i1);go_simp;exact gl
 apply rV;· intros;apply ol;go_simp;exact gl
 try simp only [pu,s0,s1]
 apply rV;· intros;apply ol;go_simp;exact gl
 apply rV;· intro w' hg _;apply ol;have y:=(v1.dg hg).yy;go_simp;exact gl
 apply rV (c:=iV U)
 · intro w' hg _
   apply ol
   have z : (min (U : Int) (m : Int)) = U:=by omega
   go_simp
   refine ⟨Grown.refl _,?_⟩
   first
    | rfl
    | exact congrArg (Value.int .i64) (by omega)
 apply Zb;· intros;apply ol;go_simp;exact gl
 try simp only [pu,s0,s1]
 intro w5 hg _
 go_wp2
 go_ret
 exact ⟨rfl,grow (o1.trans ((Below.refl _ _).drew)) hg⟩
theorem Du {Z κ : Nat} (h : ZM Z = κ) (w : World) : Calls Tryz.prog 36 #[iV Z] w fun e w'=>e = .returned (iV κ) /\ w' = w:=by
 have:=YH (Z : Int) w
 rwa [h] at this
theorem KE (hi : ZN w b o T cs f) {u U Z κ : Nat} {kd x G : Int} {own : Bool} (f8 : f 8 = iV u) (f6 : f 6 = iV U) (hU : U <= m) (hm : m <= 256) (hZ : ZM Z = κ) (hu : u + Z < U) (who : Int) :
 Calls Tryz.prog 148 #[pP b o,eV t n k m g p r L.p who,.agg #[iV kd,iV Z,iV x,iV G,.bool own]] w fun e w'=>e = .returned (.bool true) /\ Below w.heap.size w w':=by
 go_enter Tryz.func148,Tryz.ntmps148
 go_wp2
 have X0:=At.new (w.alloc (eO t n k m g p r L.p who)) 42 [iV kd,iV Z,iV x,iV G,.bool own]
 rw [Go.Deep.nblk_alloc] at X0
 refine ZY (fun W=>W.cell? ⟨b,o + 8,none⟩ = some (iV u) /\ W.cell? ⟨b,o + 6,none⟩ = some (iV U) /\ ZV W w.heap.size t n k m g p r L.p who /\ At W (w.heap.size + 1) 0 42 #[iV kd,iV Z,iV x,iV G,.bool own] [iV kd,iV Z,iV x,iV G,.bool own] /\ Below w.heap.size w W) ⟨keep' (Z5 (Zh _ _) _) (hi.ZP 8 f8),keep' (Z5 (Zh _ _) _) (hi.ZP 6 f6),ZV.WX _,X0,Z5 (Zh _ _) _⟩ ?_
 rintro W ⟨i1,j1,v1,x1,o1⟩
 clear X0
 apply Xr;· kernel_rfl
 apply rV;· intros;apply ol;go_simp;exact gl
 apply rV;· intro w' hg _;apply ol;have z0:=(x1.drew.grown hg).at0 1 rfl;go_simp;exact gl
 apply rV;· intro w' hg _;apply ol;go_simp;exact cc (Du hZ _)
 apply rV;· intro w' hg _;apply ol;have z : decide ((κ : Int) < 0) = false:=decide_eq_false (by omega);go_simp;exact gl
 iterate 2 (apply rV;· intros;apply ol;go_simp;exact gl)
 try simp only [pu,s0,s1]
 iterate 2 (apply rV;· intros;apply ol;go_simp;exact gl)
 apply rV;· intro w' hg _;apply ol;have z:=keep' hg (keep' ((Below.refl _ _).drew) i1);go_simp;exact gl
 apply rV;· intros;apply ol;go_simp;exact gl
 apply rV;· intro w' hg _;apply ol;have z0:=(x1.drew.grown hg).at0 1 rfl;go_simp;exact gl
 apply rV (c:=iV ((u : Int) + Z));· intro w' hg _;apply ol;go_simp;exact ⟨Grown.refl _,congrArg (Value.int .i64) (by rw [IntKind.wrap_i64];omega)⟩
 try simp only [pu,s0,s1]
 apply rV;· intros;apply ol;go_simp;exact gl
 apply rV;· intro w' hg _;apply ol;have y:=(v1.dg hg).yy;go_simp;exact gl
 apply rV;· intro w' hg _;apply ol;go_simp;exact cb (Uu (keep' hg (keep' ((Below.refl _ _).drew) j1)) hU L.p who)
 apply rV;· intro w' hg _;apply ol;have z : decide ((u : Int) + (Z : Int) < (U : Int)) = true:=decide_eq_true (by omega);go_simp;exact gl
 apply rV;· intros;apply ol;go_simp;exact gl
 apply Zb;· intros;apply ol;go_simp;exact gl
 try simp only [pu,s0,s1]
 intro w5 hg _
 go_wp2
 go_ret
 exact ⟨rfl,grow (o1.trans ((Below.refl _ _).drew)) hg⟩
theorem Tc (hi : ZN w b o T cs f) {u κ : Nat} (f5 : f 5 = iV κ) (hκ : κ < 4) (f8 : f 8 = iV u) (hu : u <= 1000) :
 Calls Tryz.prog 147 #[pP b o] w fun e w'=>e = .returned (.tuple #[]) /\ (∃ cs',ZN w' b o T cs' (upd (upd f 8 (iV ((u + room κ : Nat) : Int))) 0 (iV 4))) /\ Only (fun k=>k = b) w w':=by
 have hr:=Zv κ
 obtain ⟨R,hR⟩ : ∃ R,room κ = R:=⟨_,rfl⟩
 have rm:=fun w=>YU κ hκ w
 rw [hR] at rm hr ⊢
 have hw : wrap64 ((u : Int) + R) = (u : Int) + R:=by unfold wrap64;omega
 rw [show ((u + R : Nat) : Int) = (u : Int) + R by omega]
 have h0 : ((R : Int) == 0) = false:=by simp;omega
 have k5 : w.cell? ⟨b,o + 4 + 1,none⟩ = some (iV κ):=hi.ZP 5 f5
 have k8:=hi.ZP 8 f8
 have kf:=hi.fz
 have I:=hi.set 8 (iV ((u : Int) + R))
 have l0:=I.c_0 rfl
 have lf:=I.fz
 clear hR
 go_enter Tryz.func147,Tryz.ntmps147
 go_wp2_with (go_at_call 122;refine (rm _).mono ?_;rintro e w1 ⟨rfl,rfl⟩)
 go_end0
 exact ⟨rfl,⟨_,I.set0 _⟩,(Only.own.Zk _ _).Zk _ _⟩
set_option maxHeartbeats 1000000 in
theorem Py (h : Z9 w L s) (hb : ¬ L.has b) (hi : ZN w b o T cs f) (who : Int) (hG : Good t n k m g p r) {i : Nat} (hik : i < k) (f3 : f 3 = iV i) {c : Ck} {σ : Nat} (hc : c.ok σ) (hσ : σ <= 1000000) (f4 : f 4 = iV c.st) (f5 : f 5 = iV c.cl) (f6 : f 6 = iV c.us) (f7 : f 7 = iV c.sp) (hl : ZR t n k m <= s.n) {x : Nat} (hx : x <= 3) :
 Calls Tryz.prog 105 #[pP b o,eV t n k m g p r L.p who,iV x] w fun e w'=>e = .returned (.tuple #[]) /\ Qb L b o T w w' (fun s' f'=>s' = (s.by who).step (6 + t + n * 2 + i * 3) (Ck.mk x c.cl c.us (c.sp + 1)).w /\ f' = lays f 4 [iV x,iV c.cl,iV c.us,iV ((c.sp + 1 : Nat) : Int)]):=by
 have HK : Hid ((Ck.mk x c.cl c.us (c.sp + 1)).ok (σ + 1)):=⟨hx,hc.cl,hc.us,by have:=hc.sp;simp only;omega⟩
 have hsp:=hc.sp
 have hn : (6 + t + n * 2 + i * 3) < s.n:=by
  have : 6 + t + n * 2 + k * 3 + k * m <= s.n:=hl
  omega
 have tn:=fun w=>Vh (c.st : Int) c.cl c.us c.sp x (by omega) (by omega) w
 have es : (c.sp : Int) + 1 = ((c.sp + 1 : Nat) : Int):=by omega
 rw [es] at tn
 clear es
 obtain ⟨hbv,hbb⟩:=nb h hi.lt
 have i0:=hi.grown (Zh _ (eO t n k m g p r L.p who))
 have m0:=h.alloc (eO t n k m g p r L.p who)
 have v0 : ZV (w.alloc (eO t n k m g p r L.p who)) w.heap.size t n k m g p r L.p who:=ZV.new
 have k4:=i0.ZP 4 f4
 have k5 : (w.alloc (eO t n k m g p r L.p who)).cell? ⟨b,o + 4 + 1,none⟩ = _:=i0.ZP 5 f5
 have k6 : (w.alloc (eO t n k m g p r L.p who)).cell? ⟨b,o + 4 + 2,none⟩ = _:=i0.ZP 6 f6
 have k7 : (w.alloc (eO t n k m g p r L.p who)).cell? ⟨b,o + 4 + 3,none⟩ = _:=i0.ZP 7 f7
 go_enter Tryz.func105,Tryz.ntmps105
 go_wp2_with (go_at_call 146;refine (tn _).mono ?_;rintro e w1 ⟨rfl,b1⟩;have i2:=i0.grown b1;have q4:=i2.ZP 4 rfl;have q5 : w1.cell? ⟨b,o + 4 + 1,none⟩ = _:=i2.ZP 5 rfl;have q6 : w1.cell? ⟨b,o + 4 + 2,none⟩ = _:=i2.ZP 6 rfl;have q7 : w1.cell? ⟨b,o + 4 + 3,none⟩ = _:=i2.ZP 7 rfl;have qf:=i2.fz)
 refine ZY (fun W=>Z9 W L s /\ (∃ c2,ZN W b o T c2 (lays f 4 [iV x,iV c.cl,iV c.us,iV ((c.sp + 1 : Nat) : Int)])) /\ ZV W w.heap.size t n k m g p r L.p who /\ Only (L.and b) w W) ⟨((((m0.below b1).Z4 hb _ _).Z4 hb _ _).Z4 hb _ _).Z4 hb _ _,⟨_,(((i2.set 4 _).set 5 _).set 6 _).set 7 _⟩,((((v0.grown b1).Z4 hbb _ _).Z4 hbb _ _).Z4 hbb _ _).Z4 hbb _ _,(((((Only.refl _ _).alloc _).trans (Only.ZZ b1)).set _ _).set _ _).set _ _ |>.set _ _⟩ ?_
 rintro W ⟨m1,⟨c2,i1⟩,v1,o1⟩
 clear i0 m0 v0 k4 k5 k6 k7 i2 q4 q5 q6 q7 qf b1 tn
 apply Yc 9;· kernel_rfl
 apply rV;· intro w' hg _;apply ol;have y:=(v1.dg hg).yy;go_simp;exact gl
 apply rV;· intros;apply ol;go_simp;exact gl
 apply rV;· intro w' hg _;apply ol;have y:=(v1.dg hg).yy;go_simp;exact gl
 apply rV;· intro w' hg _;apply ol;go_simp;exact cb (U0 ((i1.drew.grown hg).ZP 3 f3) hG hik L.p who)
 iterate 2 (apply rV;· intros;apply ol;go_simp;exact gl)
 try simp only [pu,s0,s1]
 apply rV;· intros;apply ol;go_simp;exact gl
 apply rV;· intro w' hg _;apply ol;have z0:=(i1.drew.grown hg).ZP 4 rfl;have z1:=(i1.drew.grown hg).ZP 5 rfl;have z2:=(i1.drew.grown hg).ZP 6 rfl;have z3:=(i1.drew.grown hg).ZP 7 rfl;go_simp;exact gl
 apply Zb;· intro w' hg _;apply ol;go_simp;exact cb (Yl (Ck.mk x c.cl c.us (c.sp + 1)) (σ + 1) HK.out (by omega) _ _ _ _ rfl rfl rfl rfl _)
 try simp only [pu,s0,s1]
 intro w5 hg _
 have m5:=m1.drew.below hg
 have i5:=i1.drew.grown hg
 have v5:=v1.dg hg
 have o5:=o1.og hg
 clear hg m1 i1 v1 o1
 go_wp2_with (go_at_call 55;refine (Yr m5 _ _ _ _ _ _ _ _ (6 + t + n * 2 + i * 3) hn _).mono ?_;rintro e w6 ⟨rfl,m6,o6⟩)
 go_end0
 exact ⟨rfl,_,_,_,m6,o5.trans (o6.Y4 (b:=b)),i5.only o6 hb,rfl,rfl⟩
end
section
set_option maxHeartbeats 1000000
set_option maxRecDepth 20000
variable {w : World} {L : Loc} {s : Mm} {b o : Nat} {T : TypeId} {cs : Array Value} {t n k m : Nat} {g p r : Int} {f : Nat -> Value}
theorem Hu (h : Z9 w L s) (hb : ¬ L.has b) (hi : ZN w b o T cs f) (who : Int) (hG : Good t n k m g p r) (hl : ZR t n k m <= s.n) {i : Nat} (hik : i < k) (f3 : f 3 = iV i) {c : Ck} {σ : Nat} (hc : c.ok σ) (hσ : σ <= 1000000) (f4 : f 4 = iV c.st) (f5 : f 5 = iV c.cl) (f6 : f 6 = iV c.us) (f7 : f 7 = iV c.sp) (hd : decide (s.wd (6 + t + n * 2 + i * 3) = c.w) = true) :
 Calls Tryz.prog 102 #[pP b o,eV t n k m g p r L.p who] w fun e w'=>e = .returned (.tuple #[]) /\ Qb L b o T w w' (fun s' f'=>s' = ((s.by who).Xj (6 + t + n * 2 + i * 3) c.w (Ck.mk 2 c.cl c.us (c.sp + 1)).w) /\ f' = upd (upd (lays f 4 [iV 2,iV c.cl,iV c.us,iV ((c.sp + 1 : Nat) : Int)]) 8 (iV 0)) 0 (iV 4)):=by
 have HK : Hid ((Ck.mk 2 c.cl c.us (c.sp + 1)).ok (σ + 1)):=⟨by simp,hc.cl,hc.us,by have:=hc.sp;simp only;omega⟩
 have hsp:=hc.sp
 have hn : (6 + t + n * 2 + i * 3) + 2 < s.n:=by
  have : 6 + t + n * 2 + k * 3 + k * m <= s.n:=hl
  omega
 have tn:=fun w=>Vh (c.st : Int) c.cl c.us c.sp 2 (by omega) (by omega) w
 have es : (c.sp : Int) + 1 = ((c.sp + 1 : Nat) : Int):=by omega
 rw [es] at tn
 clear es
 have pw:=fun w=>Yl c σ hc (by omega) _ _ _ _ rfl rfl rfl rfl w
 have HD : Hid (decide (s.wd (6 + t + n * 2 + i * 3) = c.w) = true):=hd
 clear hd
 obtain ⟨hbv,hbb⟩:=nb h hi.lt
 have i0:=hi.grown (Zh _ (eO t n k m g p r L.p who))
 have m0:=h.alloc (eO t n k m g p r L.p who)
 have v0 : ZV (w.alloc (eO t n k m g p r L.p who)) w.heap.size t n k m g p r L.p who:=ZV.new
 have k4:=i0.ZP 4 f4
 have k5 : (w.alloc (eO t n k m g p r L.p who)).cell? ⟨b,o + 4 + 1,none⟩ = _:=i0.ZP 5 f5
 have k6 : (w.alloc (eO t n k m g p r L.p who)).cell? ⟨b,o + 4 + 2,none⟩ = _:=i0.ZP 6 f6
 have k7 : (w.alloc (eO t n k m g p r L.p who)).cell? ⟨b,o + 4 + 3,none⟩ = _:=i0.ZP 7 f7
 go_enter Tryz.func102,Tryz.ntmps102
 go_wp2_with (first
  | (go_at_call 145;refine (pw _).mono ?_;rintro e w9 ⟨rfl,b9⟩;replace i0:=i0.grown b9;replace m0:=m0.below b9;replace v0:=v0.grown b9;have o0 : Only (L.and b) w w9:=((Only.refl _ _).alloc _).trans (Only.ZZ b9);clear k4 k5 k6 k7 b9;have k4:=i0.ZP 4 f4;have k5 : w9.cell? ⟨b,o + 4 + 1,none⟩ = _:=i0.ZP 5 f5;have k6 : w9.cell? ⟨b,o + 4 + 2,none⟩ = _:=i0.ZP 6 f6;have k7 : w9.cell? ⟨b,o + 4 + 3,none⟩ = _:=i0.ZP 7 f7)
  | (go_at_call 146;refine (tn _).mono ?_;rintro e w1 ⟨rfl,b1⟩;have i2:=i0.grown b1;have q4:=i2.ZP 4 rfl;have q5 : w1.cell? ⟨b,o + 4 + 1,none⟩ = _:=i2.ZP 5 rfl;have q6 : w1.cell? ⟨b,o + 4 + 2,none⟩ = _:=i2.ZP 6 rfl;have q7 : w1.cell? ⟨b,o + 4 + 3,none⟩ = _:=i2.ZP 7 rfl;have qf:=i2.fz))
 refine ZY (fun W=>Z9 W L s /\ (∃ c2,ZN W b o T c2 (lays f 4 [iV 2,iV c.cl,iV c.us,iV ((c.sp + 1 : Nat) : Int)])) /\ ZV W w.heap.size t n k m g p r L.p who /\ Only (L.and b) w W) ⟨((((m0.below b1).Z4 hb _ _).Z4 hb _ _).Z4 hb _ _).Z4 hb _ _,⟨_,(((i2.set 4 _).set 5 _).set 6 _).set 7 _⟩,((((v0.grown b1).Z4 hbb _ _).Z4 hbb _ _).Z4 hbb _ _).Z4 hbb _ _,((((o0.trans (Only.ZZ b1)).set _ _).set _ _).set _ _).set _ _⟩ ?_
 rintro W ⟨m1,⟨c2,i1⟩,v1,o1⟩
 clear i0 m0 v0 o0 k4 k5 k6 k7 i2 q4 q5 q6 q7 qf b1 tn pw
 apply Yc 10;· kernel_rfl
 apply rV;· intro w' hg _;apply ol;have y:=(v1.dg hg).yy;go_simp;exact gl
 apply rV;· intros;apply ol;go_simp;exact gl
 apply rV;· intro w' hg _;apply ol;have y:=(v1.dg hg).yy;go_simp;exact gl
 apply rV;· intro w' hg _;apply ol;go_simp;exact cb (U0 ((i1.drew.grown hg).ZP 3 f3) hG hik L.p who)
 iterate 2 (apply rV;· intros;apply ol;go_simp;exact gl)
 try simp only [pu,s0,s1]
 iterate 2 (apply rV;· intros;apply ol;go_simp;exact gl)
 apply rV;· intro w' hg _;apply ol;have z0:=(i1.drew.grown hg).ZP 4 rfl;have z1:=(i1.drew.grown hg).ZP 5 rfl;have z2:=(i1.drew.grown hg).ZP 6 rfl;have z3:=(i1.drew.grown hg).ZP 7 rfl;go_simp;exact gl
 apply Zb;· intro w' hg _;apply ol;go_simp;exact cb (Yl (Ck.mk 2 c.cl c.us (c.sp + 1)) (σ + 1) HK.out (by omega) _ _ _ _ rfl rfl rfl rfl _)
 try simp only [pu,s0,s1]
 intro w5 hg _
 have m5:=m1.drew.below hg
 have i5:=i1.drew.grown hg
 have v5:=v1.dg hg
 have o5:=o1.og hg
 clear hg m1 i1 v1 o1
 go_wp2_with (first
  | (go_at_call 132;refine (Y3 m5 _ _ _ _ _ _ _ _ (6 + t + n * 2 + i * 3) (by omega) _ _).mono ?_;rintro e w6 ⟨rfl,m6,o6⟩;rw [HD.out];have i6:=i5.only o6 hb;have o7:=o5.trans (o6.Y4 (b:=b));have l8:=i6.ZP 8 rfl;have lf:=i6.fz;have I7:=i6.set 8 (iV 0);have l0:=I7.c_0 rfl;have lg:=I7.fz)
  | (go_at_call 100;refine (Xi i6).mono ?_;rintro e w8 ⟨rfl,⟨c8,i8⟩,o8⟩))
 go_end0
 exact ⟨rfl,_,_,_,(m6.Z4 hb _ _).Z4 hb _ _,(o7.set _ _).set _ _,I7.set0 _,rfl,rfl⟩
theorem DZ (h : Z9 w L s) (hb : ¬ L.has b) (hi : ZN w b o T cs f) (who : Int) (hG : Good t n k m g p r) (hl : ZR t n k m <= s.n) {i : Nat} (hik : i < k) (f3 : f 3 = iV i) {c : Ck} {σ : Nat} (hc : c.ok σ) (hσ : σ <= 1000000) (f4 : f 4 = iV c.st) (f5 : f 5 = iV c.cl) (f6 : f 6 = iV c.us) (f7 : f 7 = iV c.sp) (hd : decide (s.wd (6 + t + n * 2 + i * 3) = c.w) = false) :
 Calls Tryz.prog 102 #[pP b o,eV t n k m g p r L.p who] w fun e w'=>e = .returned (.tuple #[]) /\ Qb L b o T w w' (fun s' f'=>s' = ((s.by who).Xj (6 + t + n * 2 + i * 3) c.w (Ck.mk 2 c.cl c.us (c.sp + 1)).w) /\ f' = upd (lays (lays f 4 [iV 2,iV c.cl,iV c.us,iV ((c.sp + 1 : Nat) : Int)]) 29 ad0) 0 (iV 10)):=by
 have HK : Hid ((Ck.mk 2 c.cl c.us (c.sp + 1)).ok (σ + 1)):=⟨by simp,hc.cl,hc.us,by have:=hc.sp;simp only;omega⟩
 have hsp:=hc.sp
 have hn : (6 + t + n * 2 + i * 3) + 2 < s.n:=by
  have : 6 + t + n * 2 + k * 3 + k * m <= s.n:=hl
  omega
 have tn:=fun w=>Vh (c.st : Int) c.cl c.us c.sp 2 (by omega) (by omega) w
 have es : (c.sp : Int) + 1 = ((c.sp + 1 : Nat) : Int):=by omega
 rw [es] at tn
 clear es
 have pw:=fun w=>Yl c σ hc (by omega) _ _ _ _ rfl rfl rfl rfl w
 have HD : Hid (decide (s.wd (6 + t + n * 2 + i * 3) = c.w) = false):=hd
 clear hd
 obtain ⟨hbv,hbb⟩:=nb h hi.lt
 have i0:=hi.grown (Zh _ (eO t n k m g p r L.p who))
 have m0:=h.alloc (eO t n k m g p r L.p who)
 have v0 : ZV (w.alloc (eO t n k m g p r L.p who)) w.heap.size t n k m g p r L.p who:=ZV.new
 have k4:=i0.ZP 4 f4
 have k5 : (w.alloc (eO t n k m g p r L.p who)).cell? ⟨b,o + 4 + 1,none⟩ = _:=i0.ZP 5 f5
 have k6 : (w.alloc (eO t n k m g p r L.p who)).cell? ⟨b,o + 4 + 2,none⟩ = _:=i0.ZP 6 f6
 have k7 : (w.alloc (eO t n k m g p r L.p who)).cell? ⟨b,o + 4 + 3,none⟩ = _:=i0.ZP 7 f7
 go_enter Tryz.func102,Tryz.ntmps102
 go_wp2_with (first
  | (go_at_call 145;refine (pw _).mono ?_;rintro e w9 ⟨rfl,b9⟩;replace i0:=i0.grown b9;replace m0:=m0.below b9;replace v0:=v0.grown b9;have o0 : Only (L.and b) w w9:=((Only.refl _ _).alloc _).trans (Only.ZZ b9);clear k4 k5 k6 k7 b9;have k4:=i0.ZP 4 f4;have k5 : w9.cell? ⟨b,o + 4 + 1,none⟩ = _:=i0.ZP 5 f5;have k6 : w9.cell? ⟨b,o + 4 + 2,none⟩ = _:=i0.ZP 6 f6;have k7 : w9.cell? ⟨b,o + 4 + 3,none⟩ = _:=i0.ZP 7 f7)
  | (go_at_call 146;refine (tn _).mono ?_;rintro e w1 ⟨rfl,b1⟩;have i2:=i0.grown b1;have q4:=i2.ZP 4 rfl;have q5 : w1.cell? ⟨b,o + 4 + 1,none⟩ = _:=i2.ZP 5 rfl;have q6 : w1.cell? ⟨b,o + 4 + 2,none⟩ = _:=i2.ZP 6 rfl;have q7 : w1.cell? ⟨b,o + 4 + 3,none⟩ = _:=i2.ZP 7 rfl;have qf:=i2.fz))
 refine ZY (fun W=>Z9 W L s /\ (∃ c2,ZN W b o T c2 (lays f 4 [iV 2,iV c.cl,iV c.us,iV ((c.sp + 1 : Nat) : Int)])) /\ ZV W w.heap.size t n k m g p r L.p who /\ Only (L.and b) w W) ⟨((((m0.below b1).Z4 hb _ _).Z4 hb _ _).Z4 hb _ _).Z4 hb _ _,⟨_,(((i2.set 4 _).set 5 _).set 6 _).set 7 _⟩,((((v0.grown b1).Z4 hbb _ _).Z4 hbb _ _).Z4 hbb _ _).Z4 hbb _ _,((((o0.trans (Only.ZZ b1)).set _ _).set _ _).set _ _).set _ _⟩ ?_
 rintro W ⟨m1,⟨c2,i1⟩,v1,o1⟩
 clear i0 m0 v0 o0 k4 k5 k6 k7 i2 q4 q5 q6 q7 qf b1 tn pw
 apply Yc 10;· kernel_rfl
 apply rV;· intro w' hg _;apply ol;have y:=(v1.dg hg).yy;go_simp;exact gl
 apply rV;· intros;apply ol;go_simp;exact gl
 apply rV;· intro w' hg _;apply ol;have y:=(v1.dg hg).yy;go_simp;exact gl
 apply rV;· intro w' hg _;apply ol;go_simp;exact cb (U0 ((i1.drew.grown hg).ZP 3 f3) hG hik L.p who)
 iterate 2 (apply rV;· intros;apply ol;go_simp;exact gl)
 try simp only [pu,s0,s1]
 iterate 2 (apply rV;· intros;apply ol;go_simp;exact gl)
 apply rV;· intro w' hg _;apply ol;have z0:=(i1.drew.grown hg).ZP 4 rfl;have z1:=(i1.drew.grown hg).ZP 5 rfl;have z2:=(i1.drew.grown hg).ZP 6 rfl;have z3:=(i1.drew.grown hg).ZP 7 rfl;go_simp;exact gl
 apply Zb;· intro w' hg _;apply ol;go_simp;exact cb (Yl (Ck.mk 2 c.cl c.us (c.sp + 1)) (σ + 1) HK.out (by omega) _ _ _ _ rfl rfl rfl rfl _)
 try simp only [pu,s0,s1]
 intro w5 hg _
 have m5:=m1.drew.below hg
 have i5:=i1.drew.grown hg
 have v5:=v1.dg hg
 have o5:=o1.og hg
 clear hg m1 i1 v1 o1
 go_wp2_with (first
  | (go_at_call 132;refine (Y3 m5 _ _ _ _ _ _ _ _ (6 + t + n * 2 + i * 3) (by omega) _ _).mono ?_;rintro e w6 ⟨rfl,m6,o6⟩;rw [HD.out];have i6:=i5.only o6 hb;have o7:=o5.trans (o6.Y4 (b:=b));have l8:=i6.ZP 8 rfl;have lf:=i6.fz;have I7:=i6.set 8 (iV 0);have l0:=I7.c_0 rfl;have lg:=I7.fz)
  | (go_at_call 100;refine (Xi i6).mono ?_;rintro e w8 ⟨rfl,⟨c8,i8⟩,o8⟩))
 refine bodyPost_ret (results_none rfl _ _ _) rfl ?_
 exact ⟨rfl,_,_,_,m6.and hb o8,o7.trans (o8.mono (fun _ _ e=>Or.inr e)),i8,rfl,rfl⟩
end
section
set_option maxRecDepth 20000
variable {w : World} {L : Loc} {s : Mm} {b o : Nat} {T : TypeId} {cs : Array Value} {t n k m : Nat} {g p r : Int} {f : Nat -> Value}
def KH (A kd Z x G : Int) (own : Bool) (κ : Int) : List Value:=[iV 0,iV A,iV kd,iV Z,iV x,iV G,.bool own,iV 0,iV κ,.int .u64 0,iV 0,.int .u64 0,iV 0,iV 0,.int .u64 0,iV 0,.int .u64 0,iV 0,iV 0]
theorem wR {A kd Z x G : Int} {own : Bool} {κ : Int} {g : Nat -> Value} (hi : ZN w b o T cs (upd (lays g 9 (KH A kd Z x G own κ)) 0 (iV 5))) : ZL w b (o + 9) T cs (pq A kd Z x G own κ):=by
 have h:=hi.sat 9 (KH A kd Z x G own κ) (by simp [KH]) (fun j v hv=>by rw [Z7 _ _ _ _ (by omega)];exact Rx _ _ _ _ _ hv)
 refine ⟨h.obj,rfl,fun j v hv=>?_,h.is 0 _ rfl,h.is 1 _ rfl,h.is 2 _ rfl,h.is 3 _ rfl,h.is 4 _ rfl,h.is 5 _ rfl,h.is 6 _ rfl,h.is 14 _ rfl,h.is 15 _ rfl,h.is 16 _ rfl,h.is 17 _ rfl,h.is 18 _ rfl⟩
 have hl : j < 7:=lt_of_some hv
 have : (KH A kd Z x G own κ)[7 + j]? = some v:=by
  match j,hl with
  | 0,_=>exact hv
  | 1,_=>exact hv
  | 2,_=>exact hv
  | 3,_=>exact hv
  | 4,_=>exact hv
  | 5,_=>exact hv
  | 6,_=>exact hv
 have z:=h.is (7 + j) v this
 rwa [<- Nat.add_assoc] at z
set_option maxRecDepth 20000 in
set_option maxHeartbeats 2000000 in
theorem KG (h : Z9 w L s) (hb : ¬ L.has b) (hi : ZN w b o T cs f) (who : Int) (hG : Good t n k m g p r) (hl : ZR t n k m <= s.n) {i : Nat} (hik : i < k) (f3 : f 3 = iV i) {u : Nat} (f8 : f 8 = iV u) (hu : u < m) {hw : Int} (hv : s.wd (6 + t + n * 2 + k * 3 + i * m + u) = hw) {kd Z x G : Int} {own : Bool} (hh : ∀ w,Calls Tryz.prog 13 #[.int .u64 hw] w fun e w'=>e = .returned (.agg #[iV kd,iV Z,iV x,iV G,.bool own]) /\ Below w.heap.size w w') {κ : Nat} (hkd : (kd == 3) = true) (f5 : f 5 = iV κ) (hκ : κ < 4) :
 Calls Tryz.prog 103 #[pP b o,eV t n k m g p r L.p who] w fun e w'=>e = .returned (.tuple #[]) /\ Qb L b o T w w' (fun s' f'=>s' = (s.by who).step (6 + t + n * 2 + k * 3 + i * m + u) hw /\ f' = upd (upd f 8 (iV ((u + room κ : Nat) : Int))) 0 (iV 4)):=by
 have him : i * m + m <= k * m:=by
  have:=Nat.mul_le_mul_right m (Nat.succ_le_of_lt hik)
  rwa [Nat.succ_mul] at this
 have hn : (6 + t + n * 2 + k * 3 + i * m + u) < s.n:=by
  have : 6 + t + n * 2 + k * 3 + k * m <= s.n:=hl
  omega
 have hmk : k * m <= 64 * 256:=Nat.mul_le_mul hG.k1 hG.n1
 have ht1:=hG.t1
 have hs1:=hG.s1
 have hk1:=hG.k1
 have HV : Hid (s.wd (6 + t + n * 2 + k * 3 + i * m + u) = hw):=hv
 clear hv
 obtain ⟨hbv,hbb⟩:=nb h hi.lt
 go_enter Tryz.func103,Tryz.ntmps103
 go_wp2
 refine wo b h (fun _ g=>hi.grown g) ?_
 rintro W ⟨m1,i1,v1,o1⟩
 apply Xr;· kernel_rfl
 apply rV;· intros;apply ol;go_simp;exact gl
 apply rV;· intro w' hg _;apply ol;have y:=(v1.dg hg).yy;go_simp;exact gl
 iterate 3 (apply rV;· intros;apply ol;go_simp;exact gl)
 apply rV;· intro w' hg _;apply ol;have z0:=(i1.drew.grown hg).ZP 3 f3;go_simp;exact gl
 try simp only [pu,s0,s1]
 apply rV (c:=iV ((6 + t + n * 2 + k * 3 + i * m : Nat) : Int));· intro w' hg _;apply ol;go_simp;refine (YD _ _ _ _ _ _ _ (i : Int) ((i * m : Nat) : Int) _ hG.arena (by simp) (by omega) (by omega)).mono ?_;rintro e w'' ⟨rfl,b9⟩;exact ⟨_,rfl,b9,congrArg (Value.int .i64) (by omega)⟩
 iterate 3 (apply rV;· intros;apply ol;go_simp;exact gl)
 apply rV;· intro w' hg _;apply ol;have z0:=(i1.drew.grown hg).ZP 8 f8;go_simp;exact gl
 apply rV (c:=iV (((6 + t + n * 2 + k * 3 + i * m + u) : Nat)));· intro w' hg _;apply ol;go_simp;exact ⟨Grown.refl _,congrArg (Value.int .i64) (by rw [IntKind.wrap_i64];omega)⟩
 try simp only [pu,s0,s1]
 apply Zb;· intros;apply ol;go_simp;exact gl
 try simp only [pu,s0,s1]
 intro w5 hg _
 have m5:=m1.drew.below hg
 have i5:=i1.drew.grown hg
 have v5:=v1.dg hg
 have o5:=o1.og hg
 clear hg m1 i1 v1 o1
 obtain ⟨y0,y1,y2,y3,y4,y5,y6,y7,y8⟩:=id v5
 go_wp2_with (first
  | (go_at_call 53;refine (ZK m5 _ _ _ _ _ _ _ _ (6 + t + n * 2 + k * 3 + i * m + u) hn).mono ?_;rintro e w6 ⟨rfl,m6,o6⟩;rw [HV.out];rw [HV.out] at m6;have i6:=i5.only o6 hb;have v6:=v5.only o6 hbv;have o7 : Only (L.and b) w w6:=o5.trans (o6.Y4 (b:=b));clear y0 y1 y2 y3 y4 y5 y6 y7 y8 o5 v5 m5 i5 o6)
  | (go_at_call 13;refine (hh _).mono ?_;rintro e w7 ⟨rfl,b7⟩;have i7:=(i6.grown b7).grown (Zh _ (.cells #[iV kd,iV Z,iV x,iV G,.bool own] 42));have m7:=(m6.below b7).alloc (.cells #[iV kd,iV Z,iV x,iV G,.bool own] 42);have v7:=(v6.grown b7).grown (Zh _ (.cells #[iV kd,iV Z,iV x,iV G,.bool own] 42));have o8:=(o7.trans (Only.ZZ b7)).alloc (.cells #[iV kd,iV Z,iV x,iV G,.bool own] 42);have x7:=At.new w7 42 [iV kd,iV Z,iV x,iV G,.bool own];have q0:=x7.at0 0 rfl;have q1:=x7.at0 1 rfl;have q2:=x7.at0 2 rfl;have q3:=x7.at0 3 rfl;have q4:=x7.at0 4 rfl;obtain ⟨z0,z1,z2,z3,z4,z5,z6,z7,z8⟩:=id v7;have l0:=i7.c_0 rfl;have lf:=i7.fz;clear b7 v6 i6 m6 o7)
  | (go_at_call 147;refine (Tc i7 f5 hκ f8 (by have:=hG.n1;omega)).mono ?_;rintro e w9 ⟨rfl,⟨c9,i9⟩,o9⟩))
 go_end0
 exact ⟨rfl,_,_,_,m7.and hb o9,o8.trans (o9.mono (fun _ _ e=>Or.inr e)),i9,rfl,rfl⟩
set_option maxRecDepth 20000 in
set_option maxHeartbeats 2000000 in
theorem KF (h : Z9 w L s) (hb : ¬ L.has b) (hi : ZN w b o T cs f) (who : Int) (hG : Good t n k m g p r) (hl : ZR t n k m <= s.n) {i : Nat} (hik : i < k) (f3 : f 3 = iV i) {u : Nat} (f8 : f 8 = iV u) (hu : u < m) {hw : Int} (hv : s.wd (6 + t + n * 2 + k * 3 + i * m + u) = hw) {kd Z x G : Int} {own : Bool} (hh : ∀ w,Calls Tryz.prog 13 #[.int .u64 hw] w fun e w'=>e = .returned (.agg #[iV kd,iV Z,iV x,iV G,.bool own]) /\ Below w.heap.size w w') (hkd : (kd == 3) = false) (hk2 : (kd == 2) = false) :
 Calls Tryz.prog 103 #[pP b o,eV t n k m g p r L.p who] w fun e w'=>e = .returned (.tuple #[]) /\ Qb L b o T w w' (fun s' f'=>s' = (s.by who).step (6 + t + n * 2 + k * 3 + i * m + u) hw /\ f' = upd f 0 (iV 6)):=by
 have him : i * m + m <= k * m:=by
  have:=Nat.mul_le_mul_right m (Nat.succ_le_of_lt hik)
  rwa [Nat.succ_mul] at this
 have hn : (6 + t + n * 2 + k * 3 + i * m + u) < s.n:=by
  have : 6 + t + n * 2 + k * 3 + k * m <= s.n:=hl
  omega
 have hmk : k * m <= 64 * 256:=Nat.mul_le_mul hG.k1 hG.n1
 have ht1:=hG.t1
 have hs1:=hG.s1
 have hk1:=hG.k1
 have HV : Hid (s.wd (6 + t + n * 2 + k * 3 + i * m + u) = hw):=hv
 clear hv
 obtain ⟨hbv,hbb⟩:=nb h hi.lt
 go_enter Tryz.func103,Tryz.ntmps103
 go_wp2
 refine wo b h (fun _ g=>hi.grown g) ?_
 rintro W ⟨m1,i1,v1,o1⟩
 apply Xr;· kernel_rfl
 apply rV;· intros;apply ol;go_simp;exact gl
 apply rV;· intro w' hg _;apply ol;have y:=(v1.dg hg).yy;go_simp;exact gl
 iterate 3 (apply rV;· intros;apply ol;go_simp;exact gl)
 apply rV;· intro w' hg _;apply ol;have z0:=(i1.drew.grown hg).ZP 3 f3;go_simp;exact gl
 try simp only [pu,s0,s1]
 apply rV (c:=iV ((6 + t + n * 2 + k * 3 + i * m : Nat) : Int));· intro w' hg _;apply ol;go_simp;refine (YD _ _ _ _ _ _ _ (i : Int) ((i * m : Nat) : Int) _ hG.arena (by simp) (by omega) (by omega)).mono ?_;rintro e w'' ⟨rfl,b9⟩;exact ⟨_,rfl,b9,congrArg (Value.int .i64) (by omega)⟩
 iterate 3 (apply rV;· intros;apply ol;go_simp;exact gl)
 apply rV;· intro w' hg _;apply ol;have z0:=(i1.drew.grown hg).ZP 8 f8;go_simp;exact gl
 apply rV (c:=iV (((6 + t + n * 2 + k * 3 + i * m + u) : Nat)));· intro w' hg _;apply ol;go_simp;exact ⟨Grown.refl _,congrArg (Value.int .i64) (by rw [IntKind.wrap_i64];omega)⟩
 try simp only [pu,s0,s1]
 apply Zb;· intros;apply ol;go_simp;exact gl
 try simp only [pu,s0,s1]
 intro w5 hg _
 have m5:=m1.drew.below hg
 have i5:=i1.drew.grown hg
 have v5:=v1.dg hg
 have o5:=o1.og hg
 clear hg m1 i1 v1 o1
 obtain ⟨y0,y1,y2,y3,y4,y5,y6,y7,y8⟩:=id v5
 go_wp2_with (first
  | (go_at_call 53;refine (ZK m5 _ _ _ _ _ _ _ _ (6 + t + n * 2 + k * 3 + i * m + u) hn).mono ?_;rintro e w6 ⟨rfl,m6,o6⟩;rw [HV.out];rw [HV.out] at m6;have i6:=i5.only o6 hb;have v6:=v5.only o6 hbv;have o7 : Only (L.and b) w w6:=o5.trans (o6.Y4 (b:=b));clear y0 y1 y2 y3 y4 y5 y6 y7 y8 o5 v5 m5 i5 o6)
  | (go_at_call 13;refine (hh _).mono ?_;rintro e w7 ⟨rfl,b7⟩;have i7:=(i6.grown b7).grown (Zh _ (.cells #[iV kd,iV Z,iV x,iV G,.bool own] 42));have m7:=(m6.below b7).alloc (.cells #[iV kd,iV Z,iV x,iV G,.bool own] 42);have v7:=(v6.grown b7).grown (Zh _ (.cells #[iV kd,iV Z,iV x,iV G,.bool own] 42));have o8:=(o7.trans (Only.ZZ b7)).alloc (.cells #[iV kd,iV Z,iV x,iV G,.bool own] 42);have x7:=At.new w7 42 [iV kd,iV Z,iV x,iV G,.bool own];have q0:=x7.at0 0 rfl;have q1:=x7.at0 1 rfl;have q2:=x7.at0 2 rfl;have q3:=x7.at0 3 rfl;have q4:=x7.at0 4 rfl;obtain ⟨z0,z1,z2,z3,z4,z5,z6,z7,z8⟩:=id v7;have l0:=i7.c_0 rfl;have lf:=i7.fz;clear b7 v6 i6 m6 o7)
  | fail)
 go_end0
 exact ⟨rfl,_,_,_,m7.Z4 hb _ _,o8.set _ _,i7.set0 _,rfl,rfl⟩
set_option maxRecDepth 20000 in
set_option maxHeartbeats 2000000 in
theorem NC (h : Z9 w L s) (hb : ¬ L.has b) (hi : ZN w b o T cs f) (who : Int) (hG : Good t n k m g p r) (hl : ZR t n k m <= s.n) {i : Nat} (hik : i < k) (f3 : f 3 = iV i) {u : Nat} (f8 : f 8 = iV u) (hu : u < m) {hw : Int} (hv : s.wd (6 + t + n * 2 + k * 3 + i * m + u) = hw) {Z : Nat} {kd x G : Int} {own : Bool} (hh : ∀ w,Calls Tryz.prog 13 #[.int .u64 hw] w fun e w'=>e = .returned (.agg #[iV kd,iV Z,iV x,iV G,.bool own]) /\ Below w.heap.size w w') {κ U : Nat} (hkd : (kd == 3) = false) (hk2 : (kd == 2) = true) (hcl : ZM Z = κ) (f6 : f 6 = iV U) (hU : U <= m) (vw : u + Z < U) :
 Calls Tryz.prog 103 #[pP b o,eV t n k m g p r L.p who] w fun e w'=>e = .returned (.tuple #[]) /\ Qb L b o T w w' (fun s' f'=>s' = (s.by who).step (6 + t + n * 2 + k * 3 + i * m + u) hw /\ f' = upd (lays f 9 (KH (((6 + t + n * 2 + k * 3 + i * m + u) : Nat) : Int) kd Z x G own κ)) 0 (iV 5)):=by
 have him : i * m + m <= k * m:=by
  have:=Nat.mul_le_mul_right m (Nat.succ_le_of_lt hik)
  rwa [Nat.succ_mul] at this
 have hn : (6 + t + n * 2 + k * 3 + i * m + u) < s.n:=by
  have : 6 + t + n * 2 + k * 3 + k * m <= s.n:=hl
  omega
 have hmk : k * m <= 64 * 256:=Nat.mul_le_mul hG.k1 hG.n1
 have ht1:=hG.t1
 have hs1:=hG.s1
 have hk1:=hG.k1
 have HV : Hid (s.wd (6 + t + n * 2 + k * 3 + i * m + u) = hw):=hv
 clear hv
 have NM : ∀ (w9 W9 : World),w9 = W9.alloc (wQ (((6 + t + n * 2 + k * 3 + i * m + u) : Nat) : Int) kd Z x G own κ) -> ZN W9 b o T cs f -> Z9 W9 L ((s.by who).step (6 + t + n * 2 + k * 3 + i * m + u) hw) -> Only (L.and b) w W9 -> ZN w9 b o T cs f /\ w9.rangeAt W9.heap.size 0 (KH (((6 + t + n * 2 + k * 3 + i * m + u) : Nat) : Int) kd Z x G own κ) /\ Z9 w9 L ((s.by who).step (6 + t + n * 2 + k * 3 + i * m + u) hw) /\ Only (L.and b) w w9:=by
  rintro w9 W9 rfl i9 m9 o9
  exact ⟨i9.grown (Zh _ _),fun j v hv=>(At.new W9 104 (KH (((6 + t + n * 2 + k * 3 + i * m + u) : Nat) : Int) kd Z x G own κ)).cell j hv,m9.alloc _,o9.alloc _⟩
 obtain ⟨hbv,hbb⟩:=nb h hi.lt
 go_enter Tryz.func103,Tryz.ntmps103
 go_wp2
 refine wo b h (fun _ g=>hi.grown g) ?_
 rintro W ⟨m1,i1,v1,o1⟩
 apply Xr;· kernel_rfl
 apply rV;· intros;apply ol;go_simp;exact gl
 apply rV;· intro w' hg _;apply ol;have y:=(v1.dg hg).yy;go_simp;exact gl
 iterate 3 (apply rV;· intros;apply ol;go_simp;exact gl)
 apply rV;· intro w' hg _;apply ol;have z0:=(i1.drew.grown hg).ZP 3 f3;go_simp;exact gl
 try simp only [pu,s0,s1]
 apply rV (c:=iV ((6 + t + n * 2 + k * 3 + i * m : Nat) : Int));· intro w' hg _;apply ol;go_simp;refine (YD _ _ _ _ _ _ _ (i : Int) ((i * m : Nat) : Int) _ hG.arena (by simp) (by omega) (by omega)).mono ?_;rintro e w'' ⟨rfl,b9⟩;exact ⟨_,rfl,b9,congrArg (Value.int .i64) (by omega)⟩
 iterate 3 (apply rV;· intros;apply ol;go_simp;exact gl)
 apply rV;· intro w' hg _;apply ol;have z0:=(i1.drew.grown hg).ZP 8 f8;go_simp;exact gl
 apply rV (c:=iV (((6 + t + n * 2 + k * 3 + i * m + u) : Nat)));· intro w' hg _;apply ol;go_simp;exact ⟨Grown.refl _,congrArg (Value.int .i64) (by rw [IntKind.wrap_i64];omega)⟩
 try simp only [pu,s0,s1]
 apply Zb;· intros;apply ol;go_simp;exact gl
 try simp only [pu,s0,s1]
 intro w5 hg _
 have m5:=m1.drew.below hg
 have i5:=i1.drew.grown hg
 have v5:=v1.dg hg
 have o5:=o1.og hg
 clear hg m1 i1 v1 o1
 obtain ⟨y0,y1,y2,y3,y4,y5,y6,y7,y8⟩:=id v5
 go_wp2_with (first
  | (go_at_call 53;refine (ZK m5 _ _ _ _ _ _ _ _ (6 + t + n * 2 + k * 3 + i * m + u) hn).mono ?_;rintro e w6 ⟨rfl,m6,o6⟩;rw [HV.out];rw [HV.out] at m6;have i6:=i5.only o6 hb;have v6:=v5.only o6 hbv;have o7 : Only (L.and b) w w6:=o5.trans (o6.Y4 (b:=b));clear y0 y1 y2 y3 y4 y5 y6 y7 y8 o5 v5 m5 i5 o6)
  | (go_at_call 13;refine (hh _).mono ?_;rintro e w7 ⟨rfl,b7⟩;have i7:=(i6.grown b7).grown (Zh _ (.cells #[iV kd,iV Z,iV x,iV G,.bool own] 42));have m7:=(m6.below b7).alloc (.cells #[iV kd,iV Z,iV x,iV G,.bool own] 42);have v7:=(v6.grown b7).grown (Zh _ (.cells #[iV kd,iV Z,iV x,iV G,.bool own] 42));have o8:=(o7.trans (Only.ZZ b7)).alloc (.cells #[iV kd,iV Z,iV x,iV G,.bool own] 42);have x7:=At.new w7 42 [iV kd,iV Z,iV x,iV G,.bool own];have q0:=x7.at0 0 rfl;have q1:=x7.at0 1 rfl;have q2:=x7.at0 2 rfl;have q3:=x7.at0 3 rfl;have q4:=x7.at0 4 rfl;obtain ⟨z0,z1,z2,z3,z4,z5,z6,z7,z8⟩:=id v7;have l0:=i7.c_0 rfl;have lf:=i7.fz;clear b7 v6 i6 m6 o7)
  | (go_at_call 148;refine (KE i7 f8 f6 hU hG.n1 hcl vw who).mono ?_;rintro e w8 ⟨rfl,b8⟩;replace i7:=i7.grown b8;replace m7:=m7.below b8;replace o8:=o8.trans (Only.ZZ b8);replace x7:=x7.grown b8;clear q0 q1 q2 q3 q4 l0 lf z0 z1 z2 z3 z4 z5 z6 z7 z8 v7;have q0:=x7.at0 0 rfl;have q1:=x7.at0 1 rfl;have q2:=x7.at0 2 rfl;have q3:=x7.at0 3 rfl;have q4:=x7.at0 4 rfl;clear x7)
  | (go_at_call 149;refine (KD _ _ _ _ _ _ _ hcl _).mono ?_;rintro e w9 ⟨W9,rfl,oZ,b9⟩;obtain ⟨I9,N9,M9,O9⟩:=NM w9 W9 oZ (i7.grown b9) (m7.below b9) (o8.trans (Only.ZZ b9));clear oZ b9 NM i7 m7 o8 q0 q1 q2 q3 q4)
  | (refine wpList_load_mid rfl 104 (.tmp 45) rfl _ 0 rfl (KH (((6 + t + n * 2 + k * 3 + i * m + u) : Nat) : Int) kd Z x G own κ) _ N9 Tryz.underlying104 rfl (by kernel_rfl) ?_;simp only [Act.put,List.setIfInBounds_toArray,List.set_cons_zero,List.set_cons_succ])
  | (refine wpList_store_mid rfl 104 (.tmp 48) (.tmp 46) rfl b (o + 9) (KH (((6 + t + n * 2 + k * 3 + i * m + u) : Nat) : Int) kd Z x G own κ).toArray rfl rfl (I9.there 9 19 (by decide)) (by kernel_rfl) (by simp [KH,Value.oneCell']) ?_;obtain ⟨c3,I3⟩:=I9.lay 9 (KH (((6 + t + n * 2 + k * 3 + i * m + u) : Nat) : Int) kd Z x G own κ) (by simp [KH]);have O3:=(YT (KH (((6 + t + n * 2 + k * 3 + i * m + u) : Nat) : Int) kd Z x G own κ) w9 w9 (o + 9) (Only.own (b:=b)));have M3:=M9.and hb O3;simp only [Act.put];generalize w9.setCells b (o + 9) (KH (((6 + t + n * 2 + k * 3 + i * m + u) : Nat) : Int) kd Z x G own κ) = w3 at I3 O3 M3 ⊢;have n0:=I3.c_0 rfl;have nf:=I3.fz))
 go_end0
 exact ⟨rfl,_,_,_,M3.Z4 hb _ _,(O9.trans (O3.mono (fun _ _ e=>Or.inr e))).set _ _,I3.set0 _,rfl,rfl⟩
end
section
set_option maxHeartbeats 1000000
set_option maxRecDepth 20000
variable {w : World} {L : Loc} {s : Mm} {b o : Nat} {T : TypeId} {cs : Array Value} {t n k m : Nat} {g p r : Int} {f : Nat -> Value}
theorem DX (h : Z9 w L s) (hi : ZN w b o T cs f) (who : Int) (X : Mm -> MV -> Prop) (hst : ∀ w1,Below w.heap.size w w1 -> Calls Tryz.prog 150 #[pP b (o + 9),eV t n k m g p r L.p who] w1 fun e w'=>e = .returned (.bool false) /\ ∃ s' cs' a',Z9 w' L s' /\ ZL w' b (o + 9) T cs' a' /\ Same (o + 9) 19 cs cs' /\ Only (L.and b) w1 w' /\ X s' a')  :
 Calls Tryz.prog 104 #[pP b o,eV t n k m g p r L.p who] w fun e w'=>e = .returned (.tuple #[]) /\ ∃ s' cs' f' a',Z9 w' L s' /\ Only (L.and b) w w' /\ ZN w' b o T cs' f' /\ X s' a' /\ ZL w' b (o + 9) T cs' a' /\ ∀ i,i < 9 \/ 28 <= i -> f' i = f i:=by
 obtain ⟨hbv,hbb⟩:=nb h hi.lt
 go_enter Tryz.func104,Tryz.ntmps104
 go_wp2
 refine Qd b h (fun _ g=>hi.grown g) ?_
 rintro W ⟨m1,i1,v1,o1,g1⟩
 apply Yc 4;· kernel_rfl
 iterate 3 (apply rV;· intros;apply ol;go_simp;exact gl)
 apply Zb;· intro w' hg _;apply ol;have y:=(v1.dg hg).yy;go_simp;exact gl
 try simp only [pu,s0,s1]
 intro w5 hg _
 have m5:=m1.drew.below hg
 have i5:=i1.drew.grown hg
 have v5:=v1.dg hg
 have o5:=o1.og hg
 have g5 : Below w.heap.size w w5:=grow (g1.trans ((Below.refl _ _).drew)) hg
 clear g1 hg m1 i1 v1 o1
 go_wp2_with (first
  | (go_at_call 150;refine (hst _ g5).mono ?_;rintro e w6 ⟨rfl,s6,XD,a6,m6,k6,q6,o6,x6⟩;obtain ⟨F6,i6,e6⟩:=i5.sub k6.obj q6;have o7:=o5.trans o6;clear o5 o6 v5 m5 i5 g5 hst)
  | fail)
 refine bodyPost_ret (results_none rfl _ _ _) rfl ?_
 exact ⟨rfl,_,_,_,_,m6,o7,i6,x6,k6,fun i hh=>e6 i (by omega)⟩
theorem KJ (h : Z9 w L s) (hb : ¬ L.has b) (hi : ZN w b o T cs f) (who : Int) (X : Mm -> MV -> Prop) (hst : ∀ w1,Below w.heap.size w w1 -> Calls Tryz.prog 150 #[pP b (o + 9),eV t n k m g p r L.p who] w1 fun e w'=>e = .returned (.bool true) /\ ∃ s' cs' a',Z9 w' L s' /\ ZL w' b (o + 9) T cs' a' /\ Same (o + 9) 19 cs cs' /\ Only (L.and b) w1 w' /\ X s' a') (NH : ∀ s' a',X s' a' -> a'.nx = 12) {ou : Int} (NG : ∀ s' a',X s' a' -> a'.ou = ou) {u κ : Nat} (f5 : f 5 = iV κ) (hκ : κ < 4) (f8 : f 8 = iV u) (hu : u <= 1000) (h1 : (ou == 1) = true) {wm : Int} (f46 : f 46 = iV wm) (hwm : 0 <= wm /\ wm <= 100000000) :
 Calls Tryz.prog 104 #[pP b o,eV t n k m g p r L.p who] w fun e w'=>e = .returned (.tuple #[]) /\ ∃ s' cs' f' a',Z9 w' L s' /\ Only (L.and b) w w' /\ ZN w' b o T cs' f' /\ X s' a' /\ f' 0 = iV 4 /\ f' 8 = iV ((u + room κ : Nat) : Int) /\ f' 46 = iV (wm + 1) /\ ∀ i,i ≠ 0 -> i ≠ 8 -> i ≠ 46 -> (i < 9 \/ 28 <= i) -> f' i = f i:=by
 have HN : Hid (∀ s' a',X s' a' -> a'.nx = 12):=NH
 have HO : Hid (∀ s' a',X s' a' -> a'.ou = ou):=NG
 clear NH NG
 have hw1 : wrap64 (wm + 1) = wm + 1:=by unfold wrap64;omega
 obtain ⟨hbv,hbb⟩:=nb h hi.lt
 go_enter Tryz.func104,Tryz.ntmps104
 go_wp2
 refine Qd b h (fun _ g=>hi.grown g) ?_
 rintro W ⟨m1,i1,v1,o1,g1⟩
 apply Yc 4;· kernel_rfl
 iterate 3 (apply rV;· intros;apply ol;go_simp;exact gl)
 apply Zb;· intro w' hg _;apply ol;have y:=(v1.dg hg).yy;go_simp;exact gl
 try simp only [pu,s0,s1]
 intro w5 hg _
 have m5:=m1.drew.below hg
 have i5:=i1.drew.grown hg
 have v5:=v1.dg hg
 have o5:=o1.og hg
 have g5 : Below w.heap.size w w5:=grow (g1.trans ((Below.refl _ _).drew)) hg
 clear g1 hg m1 i1 v1 o1
 go_wp2_with (first
  | (go_at_call 150;refine (hst _ g5).mono ?_;rintro e w6 ⟨rfl,s6,XD,a6,m6,k6,q6,o6,x6⟩;obtain ⟨F6,i6,e6⟩:=i5.sub k6.obj q6;have o7:=o5.trans o6;clear o5 o6 v5 m5 i5 g5 hst;have hnx:=HN.out s6 a6 x6;have hou:=HO.out s6 a6 x6)
  | (go_at_call 151;refine (Td k6 hnx).mono ?_;rintro e w8 ⟨rfl,rfl⟩;rw [hou];have n0:=i6.c_0 rfl;have nf:=i6.fz;have n6 : w8.cell? ⟨b,o + 43 + 3,none⟩ = some (iV wm):=i6.ZP 46 ((e6 46 (by omega)).trans f46);have I6:=i6.set 46 (iV (wm + 1));have M6:=m6.Z4 hb (o + 46) (iV (wm + 1));have O6:=o7.set (o + 46) (iV (wm + 1));have qN : upd F6 46 (iV (wm + 1)) 5 = iV κ:=(Z7 _ _ _ _ (by decide)).trans ((e6 5 (by omega)).trans f5);have qM : upd F6 46 (iV (wm + 1)) 8 = iV u:=(Z7 _ _ _ _ (by decide)).trans ((e6 8 (by omega)).trans f8))
  | (go_at_call 147;refine (Tc I6 qN hκ qM hu).mono ?_;rintro e w9 ⟨rfl,⟨c9,i9⟩,o9⟩))
 go_end0
 refine ⟨rfl,_,_,_,_,M6.and hb o9,O6.trans (o9.mono (fun _ _ e=>Or.inr e)),i9,x6,upd_same _ _ _,?_,?_,fun i h0 h8 h46 hh=>?_⟩
 · rw [Z7 _ _ _ _ (by decide),upd_same]
 · rw [Z7 _ _ _ _ (by decide),Z7 _ _ _ _ (by decide),upd_same]
 · rw [Z7 _ _ _ _ h0,Z7 _ _ _ _ h8,Z7 _ _ _ _ h46];exact e6 i (by omega)
theorem Ht (h : Z9 w L s) (hb : ¬ L.has b) (hi : ZN w b o T cs f) (who : Int) (X : Mm -> MV -> Prop) (hst : ∀ w1,Below w.heap.size w w1 -> Calls Tryz.prog 150 #[pP b (o + 9),eV t n k m g p r L.p who] w1 fun e w'=>e = .returned (.bool true) /\ ∃ s' cs' a',Z9 w' L s' /\ ZL w' b (o + 9) T cs' a' /\ Same (o + 9) 19 cs cs' /\ Only (L.and b) w1 w' /\ X s' a') (NH : ∀ s' a',X s' a' -> a'.nx = 12) {ou : Int} (NG : ∀ s' a',X s' a' -> a'.ou = ou) {u κ : Nat} (f5 : f 5 = iV κ) (hκ : κ < 4) (f8 : f 8 = iV u) (hu : u <= 1000) (h1 : (ou == 1) = false) (h2 : (ou == 2) = true) :
 Calls Tryz.prog 104 #[pP b o,eV t n k m g p r L.p who] w fun e w'=>e = .returned (.tuple #[]) /\ ∃ s' cs' f' a',Z9 w' L s' /\ Only (L.and b) w w' /\ ZN w' b o T cs' f' /\ X s' a' /\ f' 0 = iV 4 /\ f' 8 = iV ((u + room κ : Nat) : Int) /\ ∀ i,i ≠ 0 -> i ≠ 8 -> (i < 9 \/ 28 <= i) -> f' i = f i:=by
 have HN : Hid (∀ s' a',X s' a' -> a'.nx = 12):=NH
 have HO : Hid (∀ s' a',X s' a' -> a'.ou = ou):=NG
 clear NH NG
 obtain ⟨hbv,hbb⟩:=nb h hi.lt
 go_enter Tryz.func104,Tryz.ntmps104
 go_wp2
 refine Qd b h (fun _ g=>hi.grown g) ?_
 rintro W ⟨m1,i1,v1,o1,g1⟩
 apply Yc 4;· kernel_rfl
 iterate 3 (apply rV;· intros;apply ol;go_simp;exact gl)
 apply Zb;· intro w' hg _;apply ol;have y:=(v1.dg hg).yy;go_simp;exact gl
 try simp only [pu,s0,s1]
 intro w5 hg _
 have m5:=m1.drew.below hg
 have i5:=i1.drew.grown hg
 have v5:=v1.dg hg
 have o5:=o1.og hg
 have g5 : Below w.heap.size w w5:=grow (g1.trans ((Below.refl _ _).drew)) hg
 clear g1 hg m1 i1 v1 o1
 go_wp2_with (first
  | (go_at_call 150;refine (hst _ g5).mono ?_;rintro e w6 ⟨rfl,s6,XD,a6,m6,k6,q6,o6,x6⟩;obtain ⟨F6,i6,e6⟩:=i5.sub k6.obj q6;have o7:=o5.trans o6;clear o5 o6 v5 m5 i5 g5 hst;have hnx:=HN.out s6 a6 x6;have hou:=HO.out s6 a6 x6)
  | (go_at_call 151;refine (Td k6 hnx).mono ?_;rintro e w8 ⟨rfl,rfl⟩;rw [hou];have n0:=i6.c_0 rfl;have nf:=i6.fz;have qN:=(e6 5 (by omega)).trans f5;have qM:=(e6 8 (by omega)).trans f8)
  | (go_at_call 147;refine (Tc i6 qN hκ qM hu).mono ?_;rintro e w9 ⟨rfl,⟨c9,i9⟩,o9⟩))
 go_end0
 refine ⟨rfl,_,_,_,_,m6.and hb o9,o7.trans (o9.mono (fun _ _ e=>Or.inr e)),i9,x6,upd_same _ _ _,?_,fun i h0 h8 hh=>?_⟩
 · rw [Z7 _ _ _ _ (by decide),upd_same]
 · rw [Z7 _ _ _ _ h0,Z7 _ _ _ _ h8];exact e6 i (by omega)
theorem Hq (h : Z9 w L s) (hb : ¬ L.has b) (hi : ZN w b o T cs f) (who : Int) (X : Mm -> MV -> Prop) (hst : ∀ w1,Below w.heap.size w w1 -> Calls Tryz.prog 150 #[pP b (o + 9),eV t n k m g p r L.p who] w1 fun e w'=>e = .returned (.bool true) /\ ∃ s' cs' a',Z9 w' L s' /\ ZL w' b (o + 9) T cs' a' /\ Same (o + 9) 19 cs cs' /\ Only (L.and b) w1 w' /\ X s' a') (NH : ∀ s' a',X s' a' -> a'.nx = 12) {ou : Int} (NG : ∀ s' a',X s' a' -> a'.ou = ou) (h1 : (ou == 1) = false) (h2 : (ou == 2) = false) :
 Calls Tryz.prog 104 #[pP b o,eV t n k m g p r L.p who] w fun e w'=>e = .returned (.tuple #[]) /\ ∃ s' cs' f' a',Z9 w' L s' /\ Only (L.and b) w w' /\ ZN w' b o T cs' f' /\ X s' a' /\ f' 0 = iV 6 /\ ∀ i,i ≠ 0 -> (i < 9 \/ 28 <= i) -> f' i = f i:=by
 have HN : Hid (∀ s' a',X s' a' -> a'.nx = 12):=NH
 have HO : Hid (∀ s' a',X s' a' -> a'.ou = ou):=NG
 clear NH NG
 obtain ⟨hbv,hbb⟩:=nb h hi.lt
 go_enter Tryz.func104,Tryz.ntmps104
 go_wp2
 refine Qd b h (fun _ g=>hi.grown g) ?_
 rintro W ⟨m1,i1,v1,o1,g1⟩
 apply Yc 4;· kernel_rfl
 iterate 3 (apply rV;· intros;apply ol;go_simp;exact gl)
 apply Zb;· intro w' hg _;apply ol;have y:=(v1.dg hg).yy;go_simp;exact gl
 try simp only [pu,s0,s1]
 intro w5 hg _
 have m5:=m1.drew.below hg
 have i5:=i1.drew.grown hg
 have v5:=v1.dg hg
 have o5:=o1.og hg
 have g5 : Below w.heap.size w w5:=grow (g1.trans ((Below.refl _ _).drew)) hg
 clear g1 hg m1 i1 v1 o1
 go_wp2_with (first
  | (go_at_call 150;refine (hst _ g5).mono ?_;rintro e w6 ⟨rfl,s6,XD,a6,m6,k6,q6,o6,x6⟩;obtain ⟨F6,i6,e6⟩:=i5.sub k6.obj q6;have o7:=o5.trans o6;clear o5 o6 v5 m5 i5 g5 hst;have hnx:=HN.out s6 a6 x6;have hou:=HO.out s6 a6 x6)
  | (go_at_call 151;refine (Td k6 hnx).mono ?_;rintro e w8 ⟨rfl,rfl⟩;rw [hou];have n0:=i6.c_0 rfl;have nf:=i6.fz))
 go_end0
 refine ⟨rfl,_,_,_,_,m6.Z4 hb _ _,o7.set _ _,i6.set0 _,x6,upd_same _ _ _,fun i h0 hh=>?_⟩
 rw [Z7 _ _ _ _ h0];exact e6 i (by omega)
theorem zD (h : Z9 w L s) (hi : ZN w b o T cs f) (who : Int) (s9 : Mm) (d9 : Ad) (hst : ∀ w1,Below w.heap.size w w1 -> Calls Tryz.prog 107 #[pP b (o + 29),eV t n k m g p r L.p who] w1 fun e w'=>e = .returned (.bool false) /\ ∃ cs',qL L b (o + 29) T cs w1 w' s9 d9 cs') :
 Calls Tryz.prog 62 #[pP b o,eV t n k m g p r L.p who] w fun e w'=>e = .returned (.tuple #[]) /\ ∃ cs' f',Z9 w' L s9 /\ Only (L.and b) w w' /\ ZN w' b o T cs' f' /\ ND w' b (o + 29) T cs' d9 /\ ∀ i,i < 29 \/ 34 <= i -> f' i = f i:=by
 obtain ⟨hbv,hbb⟩:=nb h hi.lt
 go_enter Tryz.func62,Tryz.ntmps62
 go_wp2
 refine Qd b h (fun _ g=>hi.grown g) ?_
 rintro W ⟨m1,i1,v1,o1,g1⟩
 apply Yc 4;· kernel_rfl
 iterate 3 (apply rV;· intros;apply ol;go_simp;exact gl)
 apply Zb;· intro w' hg _;apply ol;have y:=(v1.dg hg).yy;go_simp;exact gl
 try simp only [pu,s0,s1]
 intro w5 hg _
 have m5:=m1.drew.below hg
 have i5:=i1.drew.grown hg
 have v5:=v1.dg hg
 have o5:=o1.og hg
 have g5 : Below w.heap.size w w5:=grow (g1.trans ((Below.refl _ _).drew)) hg
 clear g1 hg m1 i1 v1 o1
 go_wp2_with (first
  | (go_at_call 107;refine (hst _ g5).mono ?_;rintro e w6 ⟨rfl,XD,D6⟩;obtain ⟨a6,k6,c6⟩:=D6.a;obtain ⟨F6,i6,e6⟩:=i5.sub k6.obj D6.same;have o7:=o5.trans D6.only;clear o5 v5 m5 i5 g5 hst)
  | fail)
 go_end0
 exact ⟨rfl,_,_,D6.m,o7,i6,⟨a6,k6,c6⟩,fun i hh=>e6 i (by omega)⟩
theorem DW (h : Z9 w L s) (hb : ¬ L.has b) (hi : ZN w b o T cs f) (who : Int) (s9 : Mm) (d9 : Ad) (hst : ∀ w1,Below w.heap.size w w1 -> Calls Tryz.prog 107 #[pP b (o + 29),eV t n k m g p r L.p who] w1 fun e w'=>e = .returned (.bool true) /\ ∃ cs',qL L b (o + 29) T cs w1 w' s9 d9 cs') :
 Calls Tryz.prog 62 #[pP b o,eV t n k m g p r L.p who] w fun e w'=>e = .returned (.tuple #[]) /\ ∃ cs' f',Z9 w' L s9 /\ Only (L.and b) w w' /\ ZN w' b o T cs' f' /\ RN w' b (o + 34) T cs' 0 .see /\ f' 0 = iV 11 /\ f' 1 = iV 0 /\ ∀ i,i ≠ 0 -> i ≠ 1 -> (i < 29 \/ 43 <= i) -> f' i = f i:=by
 obtain ⟨hbv,hbb⟩:=nb h hi.lt
 go_enter Tryz.func62,Tryz.ntmps62
 go_wp2
 refine Qd b h (fun _ g=>hi.grown g) ?_
 rintro W ⟨m1,i1,v1,o1,g1⟩
 apply Yc 4;· kernel_rfl
 iterate 3 (apply rV;· intros;apply ol;go_simp;exact gl)
 apply Zb;· intro w' hg _;apply ol;have y:=(v1.dg hg).yy;go_simp;exact gl
 try simp only [pu,s0,s1]
 intro w5 hg _
 have m5:=m1.drew.below hg
 have i5:=i1.drew.grown hg
 have v5:=v1.dg hg
 have o5:=o1.og hg
 have g5 : Below w.heap.size w w5:=grow (g1.trans ((Below.refl _ _).drew)) hg
 clear g1 hg m1 i1 v1 o1
 go_wp2_with (first
  | (go_at_call 107;refine (hst _ g5).mono ?_;rintro e w6 ⟨rfl,XD,D6⟩;obtain ⟨a6,k6,c6⟩:=D6.a;obtain ⟨F6,i6,e6⟩:=i5.sub k6.obj D6.same;have o7:=o5.trans D6.only;clear o5 v5 m5 i5 g5 hst)
  | (go_at_call 108;refine (Xh i6 0).mono ?_;rintro e w9 ⟨rfl,⟨c9,i9⟩,o9⟩))
 go_end0
 refine ⟨rfl,_,_,D6.m.and hb o9,o7.trans (o9.mono (fun _ _ e=>Or.inr e)),i9,KI i9,upd_same _ _ _,?_,fun i h0 h1 hh=>?_⟩
 · rw [Z7 _ _ _ _ (by decide),Zd _ _ _ _ (by simp),upd_same];rfl
 · rw [Z7 _ _ _ _ h0,Zd _ _ _ _ (by simp [Qh];omega),Z7 _ _ _ _ h1];exact e6 i (by omega)
end
section
set_option maxHeartbeats 1000000
set_option maxRecDepth 20000
variable {w : World} {L : Loc} {s : Mm} {b o : Nat} {T : TypeId} {cs : Array Value} {t n k m : Nat} {g p r : Int} {f : Nat -> Value}
theorem CW (h : Z9 w L s) (hi : ZN w b o T cs f) (who : Int) {i : Nat} (s9 : Mm) (d9 : Se) (hst : ∀ w1,Below w.heap.size w w1 -> Calls Tryz.prog 109 #[pP b (o + 34),eV t n k m g p r L.p who] w1 fun e w'=>e = .returned (.bool false) /\ ∃ cs',Std L b (o + 34) T cs i w1 w' s9 d9 cs')  :
 Calls Tryz.prog 63 #[pP b o,eV t n k m g p r L.p who] w fun e w'=>e = .returned (.tuple #[]) /\ ∃ cs' f',Z9 w' L s9 /\ Only (L.and b) w w' /\ ZN w' b o T cs' f' /\ RN w' b (o + 34) T cs' i d9 /\ ∀ j,j < 34 \/ 43 <= j -> f' j = f j:=by
 obtain ⟨hbv,hbb⟩:=nb h hi.lt
 go_enter Tryz.func63,Tryz.ntmps63
 go_wp2
 refine Qd b h (fun _ g=>hi.grown g) ?_
 rintro W ⟨m1,i1,v1,o1,g1⟩
 apply Yc 4;· kernel_rfl
 iterate 3 (apply rV;· intros;apply ol;go_simp;exact gl)
 apply Zb;· intro w' hg _;apply ol;have y:=(v1.dg hg).yy;go_simp;exact gl
 try simp only [pu,s0,s1]
 intro w5 hg _
 have m5:=m1.drew.below hg
 have i5:=i1.drew.grown hg
 have v5:=v1.dg hg
 have o5:=o1.og hg
 have g5 : Below w.heap.size w w5:=grow (g1.trans ((Below.refl _ _).drew)) hg
 clear g1 hg m1 i1 v1 o1
 go_wp2_with (first
  | (go_at_call 109;refine (hst _ g5).mono ?_;rintro e w6 ⟨rfl,XD,D6⟩;obtain ⟨a6,k6,c6,c7⟩:=D6.a;obtain ⟨F6,i6,e6⟩:=i5.sub k6.obj D6.same;have o7:=o5.trans D6.only;have v6:=v5.only D6.only (fun hh=>hh.elim hbv hbb);clear o5 v5 m5 i5 g5 hst)
  | fail)
 refine bodyPost_ret (results_none rfl _ _ _) rfl ?_
 exact ⟨rfl,_,_,D6.m,o7,i6,⟨a6,k6,c6,c7⟩,fun j hh=>e6 j (by omega)⟩
theorem Om (h : Z9 w L s) (hb : ¬ L.has b) (hi : ZN w b o T cs f) (who : Int) {i : Nat} (s9 : Mm) (d9 : Se) (hst : ∀ w1,Below w.heap.size w w1 -> Calls Tryz.prog 109 #[pP b (o + 34),eV t n k m g p r L.p who] w1 fun e w'=>e = .returned (.bool true) /\ ∃ cs',Std L b (o + 34) T cs i w1 w' s9 d9 cs') (ho : d9 = .over false) (hik : i + 1 < k) (hk1 : k <= 64) (f1 : f 1 = iV i) :
 Calls Tryz.prog 63 #[pP b o,eV t n k m g p r L.p who] w fun e w'=>e = .returned (.tuple #[]) /\ ∃ cs' f',Z9 w' L s9 /\ Only (L.and b) w w' /\ ZN w' b o T cs' f' /\ RN w' b (o + 34) T cs' (i + 1) .see /\ f' 0 = iV 11 /\ f' 1 = iV ((i + 1 : Nat) : Int) /\ ∀ j,j ≠ 0 -> j ≠ 1 -> (j < 34 \/ 43 <= j) -> f' j = (f) j:=by
 have hw1 : wrap64 ((i : Int) + 1) = (i : Int) + 1:=by unfold wrap64;omega
 have es : Hid ((i : Int) + 1 = ((i + 1 : Nat) : Int)):=by unfold Hid;omega
 subst ho
 obtain ⟨hbv,hbb⟩:=nb h hi.lt
 go_enter Tryz.func63,Tryz.ntmps63
 go_wp2
 refine Qd b h (fun _ g=>hi.grown g) ?_
 rintro W ⟨m1,i1,v1,o1,g1⟩
 apply Yc 4;· kernel_rfl
 iterate 3 (apply rV;· intros;apply ol;go_simp;exact gl)
 apply Zb;· intro w' hg _;apply ol;have y:=(v1.dg hg).yy;go_simp;exact gl
 try simp only [pu,s0,s1]
 intro w5 hg _
 have m5:=m1.drew.below hg
 have i5:=i1.drew.grown hg
 have v5:=v1.dg hg
 have o5:=o1.og hg
 have g5 : Below w.heap.size w w5:=grow (g1.trans ((Below.refl _ _).drew)) hg
 clear g1 hg m1 i1 v1 o1
 go_wp2_with (first
  | (go_at_call 109;refine (hst _ g5).mono ?_;rintro e w6 ⟨rfl,XD,D6⟩;obtain ⟨a6,k6,c6,c7⟩:=D6.a;obtain ⟨F6,i6,e6⟩:=i5.sub k6.obj D6.same;have o7:=o5.trans D6.only;have v6:=v5.only D6.only (fun hh=>hh.elim hbv hbb);clear o5 v5 m5 i5 g5 hst)
  | (go_at_call 110;refine (TP (d:=.over false) ⟨a6,k6,c6,c7⟩ rfl).mono ?_;rintro e w8 ⟨rfl,rfl⟩;simp only [Se.freed];have I7:=i6;have M7:=D6.m;have O7:=o7;have V7:=v6;have n1 : w8.cell? ⟨b,o + 1,none⟩ = some (iV i):=I7.ZP 1 ((e6 1 (by omega)).trans f1);have E7 : ∀ j,j < 34 \/ 43 <= j -> F6 j = f j:=fun j hj=>e6 j (by omega))
  | (go_at_call 108;rw [es.out];refine (Xh I7 (i + 1)).mono ?_;rintro e w9 ⟨rfl,⟨c9,i9⟩,o9⟩))
 refine ZY (fun W=>Z9 W L s9 /\ ZN W b o T c9 _ /\ ZV W w.heap.size t n k m g p r L.p who /\ Only (L.and b) w W) ⟨M7.and hb o9,i9,V7.only o9 hbb,O7.trans (o9.mono (fun _ _ e=>Or.inr e))⟩ ?_
 have E9 : ∀ j,j ≠ 0 -> j ≠ 1 -> (j < 34 \/ 43 <= j) -> (upd (lays (upd (F6) 1 (iV ((i + 1 : Nat) : Int))) 34 (Qh ((i + 1 : Nat) : Int))) 0 (iV 11)) j = (f) j:=fun j h0 h1 hh=>by
  rw [Z7 _ _ _ _ h0,Zd _ _ _ _ (by simp [Qh];omega),Z7 _ _ _ _ h1];exact E7 j hh
 clear M7 I7 O7 V7 i9 o9 n1 v6 o7 i6 k6 c6 c7 D6 E7 es
 rintro W3 ⟨m3,i3,v3,o3⟩
 have k1 : W3.cell? ⟨b,o + 1,none⟩ = some (iV ((i + 1 : Nat) : Int)):=i3.ZP 1 (by rw [Z7 _ _ _ _ (by decide),Zd _ _ _ _ (by simp),upd_same])
 have y2:=v3.c2
 have hge : decide (((i + 1 : Nat) : Int) ≥ (k : Int)) = false:=by simp;omega
 go_region
 go_wp2
 go_end0
 refine ⟨rfl,_,_,m3.drew,o3.drew,i3.drew,KI i3.drew,upd_same _ _ _,?_,E9⟩
 rw [Z7 _ _ _ _ (by decide),Zd _ _ _ _ (by simp),upd_same]
theorem QM (h : Z9 w L s) (hb : ¬ L.has b) (hi : ZN w b o T cs f) (who : Int) {i : Nat} (s9 : Mm) (d9 : Se) (hst : ∀ w1,Below w.heap.size w w1 -> Calls Tryz.prog 109 #[pP b (o + 34),eV t n k m g p r L.p who] w1 fun e w'=>e = .returned (.bool true) /\ ∃ cs',Std L b (o + 34) T cs i w1 w' s9 d9 cs') (ho : d9 = .over false) (hik : k <= i + 1 /\ i < k) (hk1 : k <= 64) (f1 : f 1 = iV i) (X : (Nat -> Value) -> Prop) (hend : ∀ w1 c1 F,ZN w1 b o T c1 F -> (∀ j,j ≠ 0 -> j ≠ 1 -> j < 34 \/ 43 <= j -> F j = (f) j) -> Calls Tryz.prog 111 #[pP b o] w1 fun e w'=>e = .returned (.tuple #[]) /\ (∃ cs' f',ZN w' b o T cs' f' /\ X f') /\ Only (fun k=>k = b) w1 w') :
 Calls Tryz.prog 63 #[pP b o,eV t n k m g p r L.p who] w fun e w'=>e = .returned (.tuple #[]) /\ ∃ cs' f',Z9 w' L s9 /\ Only (L.and b) w w' /\ ZN w' b o T cs' f' /\ X f':=by
 have hw1 : wrap64 ((i : Int) + 1) = (i : Int) + 1:=by unfold wrap64;omega
 have es : Hid ((i : Int) + 1 = ((i + 1 : Nat) : Int)):=by unfold Hid;omega
 subst ho
 obtain ⟨hbv,hbb⟩:=nb h hi.lt
 go_enter Tryz.func63,Tryz.ntmps63
 go_wp2
 refine Qd b h (fun _ g=>hi.grown g) ?_
 rintro W ⟨m1,i1,v1,o1,g1⟩
 apply Yc 4;· kernel_rfl
 iterate 3 (apply rV;· intros;apply ol;go_simp;exact gl)
 apply Zb;· intro w' hg _;apply ol;have y:=(v1.dg hg).yy;go_simp;exact gl
 try simp only [pu,s0,s1]
 intro w5 hg _
 have m5:=m1.drew.below hg
 have i5:=i1.drew.grown hg
 have v5:=v1.dg hg
 have o5:=o1.og hg
 have g5 : Below w.heap.size w w5:=grow (g1.trans ((Below.refl _ _).drew)) hg
 clear g1 hg m1 i1 v1 o1
 go_wp2_with (first
  | (go_at_call 109;refine (hst _ g5).mono ?_;rintro e w6 ⟨rfl,XD,D6⟩;obtain ⟨a6,k6,c6,c7⟩:=D6.a;obtain ⟨F6,i6,e6⟩:=i5.sub k6.obj D6.same;have o7:=o5.trans D6.only;have v6:=v5.only D6.only (fun hh=>hh.elim hbv hbb);clear o5 v5 m5 i5 g5 hst)
  | (go_at_call 110;refine (TP (d:=.over false) ⟨a6,k6,c6,c7⟩ rfl).mono ?_;rintro e w8 ⟨rfl,rfl⟩;simp only [Se.freed];have I7:=i6;have M7:=D6.m;have O7:=o7;have V7:=v6;have n1 : w8.cell? ⟨b,o + 1,none⟩ = some (iV i):=I7.ZP 1 ((e6 1 (by omega)).trans f1);have E7 : ∀ j,j < 34 \/ 43 <= j -> F6 j = f j:=fun j hj=>e6 j (by omega))
  | (go_at_call 108;rw [es.out];refine (Xh I7 (i + 1)).mono ?_;rintro e w9 ⟨rfl,⟨c9,i9⟩,o9⟩))
 refine ZY (fun W=>Z9 W L s9 /\ ZN W b o T c9 _ /\ ZV W w.heap.size t n k m g p r L.p who /\ Only (L.and b) w W) ⟨M7.and hb o9,i9,V7.only o9 hbb,O7.trans (o9.mono (fun _ _ e=>Or.inr e))⟩ ?_
 have E9 : ∀ j,j ≠ 0 -> j ≠ 1 -> (j < 34 \/ 43 <= j) -> (upd (lays (upd (F6) 1 (iV ((i + 1 : Nat) : Int))) 34 (Qh ((i + 1 : Nat) : Int))) 0 (iV 11)) j = (f) j:=fun j h0 h1 hh=>by
  rw [Z7 _ _ _ _ h0,Zd _ _ _ _ (by simp [Qh];omega),Z7 _ _ _ _ h1];exact E7 j hh
 clear M7 I7 O7 V7 i9 o9 n1 v6 o7 i6 k6 c6 c7 D6 E7 es
 rintro W3 ⟨m3,i3,v3,o3⟩
 have k1 : W3.cell? ⟨b,o + 1,none⟩ = some (iV ((i + 1 : Nat) : Int)):=i3.ZP 1 (by rw [Z7 _ _ _ _ (by decide),Zd _ _ _ _ (by simp),upd_same])
 have y2:=v3.c2
 have hge : decide (((i + 1 : Nat) : Int) ≥ (k : Int)) = true:=by simp;omega
 go_region
 go_wp2_with (go_at_call 111;refine (hend _ _ _ i3.drew E9).mono ?_;rintro e w4 ⟨rfl,⟨c4,f4,i4,x4⟩,o4⟩)
 go_end0
 exact ⟨rfl,_,_,m3.drew.and hb o4,o3.drew.trans (o4.mono (fun _ _ e=>Or.inr e)),i4,x4⟩
theorem PW (h : Z9 w L s) (hb : ¬ L.has b) (hi : ZN w b o T cs f) (who : Int) {i : Nat} (s9 : Mm) (d9 : Se) (hst : ∀ w1,Below w.heap.size w w1 -> Calls Tryz.prog 109 #[pP b (o + 34),eV t n k m g p r L.p who] w1 fun e w'=>e = .returned (.bool true) /\ ∃ cs',Std L b (o + 34) T cs i w1 w' s9 d9 cs') (ho : d9 = .over true) (hik : i + 1 < k) (hk1 : k <= 64) (f1 : f 1 = iV i) {wf : Int} (f45 : f 45 = iV wf) (hwf : 0 <= wf /\ wf <= 100000000) :
 Calls Tryz.prog 63 #[pP b o,eV t n k m g p r L.p who] w fun e w'=>e = .returned (.tuple #[]) /\ ∃ cs' f',Z9 w' L s9 /\ Only (L.and b) w w' /\ ZN w' b o T cs' f' /\ RN w' b (o + 34) T cs' (i + 1) .see /\ f' 0 = iV 11 /\ f' 1 = iV ((i + 1 : Nat) : Int) /\ ∀ j,j ≠ 0 -> j ≠ 1 -> (j < 34 \/ 43 <= j) -> f' j = (upd f 45 (iV (wf + 1))) j:=by
 have hw1 : wrap64 ((i : Int) + 1) = (i : Int) + 1:=by unfold wrap64;omega
 have es : Hid ((i : Int) + 1 = ((i + 1 : Nat) : Int)):=by unfold Hid;omega
 have hw2 : wrap64 (wf + 1) = wf + 1:=by unfold wrap64;omega
 subst ho
 obtain ⟨hbv,hbb⟩:=nb h hi.lt
 go_enter Tryz.func63,Tryz.ntmps63
 go_wp2
 refine Qd b h (fun _ g=>hi.grown g) ?_
 rintro W ⟨m1,i1,v1,o1,g1⟩
 apply Yc 4;· kernel_rfl
 iterate 3 (apply rV;· intros;apply ol;go_simp;exact gl)
 apply Zb;· intro w' hg _;apply ol;have y:=(v1.dg hg).yy;go_simp;exact gl
 try simp only [pu,s0,s1]
 intro w5 hg _
 have m5:=m1.drew.below hg
 have i5:=i1.drew.grown hg
 have v5:=v1.dg hg
 have o5:=o1.og hg
 have g5 : Below w.heap.size w w5:=grow (g1.trans ((Below.refl _ _).drew)) hg
 clear g1 hg m1 i1 v1 o1
 go_wp2_with (first
  | (go_at_call 109;refine (hst _ g5).mono ?_;rintro e w6 ⟨rfl,XD,D6⟩;obtain ⟨a6,k6,c6,c7⟩:=D6.a;obtain ⟨F6,i6,e6⟩:=i5.sub k6.obj D6.same;have o7:=o5.trans D6.only;have v6:=v5.only D6.only (fun hh=>hh.elim hbv hbb);clear o5 v5 m5 i5 g5 hst)
  | (go_at_call 110;refine (TP (d:=.over true) ⟨a6,k6,c6,c7⟩ rfl).mono ?_;rintro e w8 ⟨rfl,rfl⟩;simp only [Se.freed];have n5 : w8.cell? ⟨b,o + 43 + 2,none⟩ = some (iV wf):=i6.ZP 45 ((e6 45 (by omega)).trans f45);have nf:=i6.fz;have I7:=i6.set 45 (iV (wf + 1));have M7:=D6.m.Z4 hb (o + 45) (iV (wf + 1));have O7:=o7.set (o + 45) (iV (wf + 1));have V7:=v6.Z4 hbb (o + 45) (iV (wf + 1));have n1 : (w8.setCell ⟨b,o + 43 + 2,none⟩ (iV (wf + 1))).cell? ⟨b,o + 1,none⟩ = some (iV i):=I7.ZP 1 ((Z7 _ _ _ _ (by decide)).trans ((e6 1 (by omega)).trans f1));have E7 : ∀ j,j < 34 \/ 43 <= j -> upd F6 45 (iV (wf + 1)) j = upd f 45 (iV (wf + 1)) j:=fun j hj=>by by_cases e : j = 45;(· rw [e,upd_same,upd_same]);rw [Z7 _ _ _ _ e,Z7 _ _ _ _ e];exact e6 j (by omega))
  | (go_at_call 108;rw [es.out];refine (Xh I7 (i + 1)).mono ?_;rintro e w9 ⟨rfl,⟨c9,i9⟩,o9⟩))
 refine ZY (fun W=>Z9 W L s9 /\ ZN W b o T c9 _ /\ ZV W w.heap.size t n k m g p r L.p who /\ Only (L.and b) w W) ⟨M7.and hb o9,i9,V7.only o9 hbb,O7.trans (o9.mono (fun _ _ e=>Or.inr e))⟩ ?_
 have E9 : ∀ j,j ≠ 0 -> j ≠ 1 -> (j < 34 \/ 43 <= j) -> (upd (lays (upd (upd F6 45 (iV (wf + 1))) 1 (iV ((i + 1 : Nat) : Int))) 34 (Qh ((i + 1 : Nat) : Int))) 0 (iV 11)) j = (upd f 45 (iV (wf + 1))) j:=fun j h0 h1 hh=>by
  rw [Z7 _ _ _ _ h0,Zd _ _ _ _ (by simp [Qh];omega),Z7 _ _ _ _ h1];exact E7 j hh
 clear M7 I7 O7 V7 i9 o9 n1 v6 o7 i6 k6 c6 c7 D6 E7 es n5 nf
 rintro W3 ⟨m3,i3,v3,o3⟩
 have k1 : W3.cell? ⟨b,o + 1,none⟩ = some (iV ((i + 1 : Nat) : Int)):=i3.ZP 1 (by rw [Z7 _ _ _ _ (by decide),Zd _ _ _ _ (by simp),upd_same])
 have y2:=v3.c2
 have hge : decide (((i + 1 : Nat) : Int) ≥ (k : Int)) = false:=by simp;omega
 go_region
 go_wp2
 go_end0
 refine ⟨rfl,_,_,m3.drew,o3.drew,i3.drew,KI i3.drew,upd_same _ _ _,?_,E9⟩
 rw [Z7 _ _ _ _ (by decide),Zd _ _ _ _ (by simp),upd_same]
theorem RJ (h : Z9 w L s) (hb : ¬ L.has b) (hi : ZN w b o T cs f) (who : Int) {i : Nat} (s9 : Mm) (d9 : Se) (hst : ∀ w1,Below w.heap.size w w1 -> Calls Tryz.prog 109 #[pP b (o + 34),eV t n k m g p r L.p who] w1 fun e w'=>e = .returned (.bool true) /\ ∃ cs',Std L b (o + 34) T cs i w1 w' s9 d9 cs') (ho : d9 = .over true) (hik : k <= i + 1 /\ i < k) (hk1 : k <= 64) (f1 : f 1 = iV i) {wf : Int} (f45 : f 45 = iV wf) (hwf : 0 <= wf /\ wf <= 100000000) (X : (Nat -> Value) -> Prop) (hend : ∀ w1 c1 F,ZN w1 b o T c1 F -> (∀ j,j ≠ 0 -> j ≠ 1 -> j < 34 \/ 43 <= j -> F j = (upd f 45 (iV (wf + 1))) j) -> Calls Tryz.prog 111 #[pP b o] w1 fun e w'=>e = .returned (.tuple #[]) /\ (∃ cs' f',ZN w' b o T cs' f' /\ X f') /\ Only (fun k=>k = b) w1 w') :
 Calls Tryz.prog 63 #[pP b o,eV t n k m g p r L.p who] w fun e w'=>e = .returned (.tuple #[]) /\ ∃ cs' f',Z9 w' L s9 /\ Only (L.and b) w w' /\ ZN w' b o T cs' f' /\ X f':=by
 have hw1 : wrap64 ((i : Int) + 1) = (i : Int) + 1:=by unfold wrap64;omega
 have es : Hid ((i : Int) + 1 = ((i + 1 : Nat) : Int)):=by unfold Hid;omega
 have hw2 : wrap64 (wf + 1) = wf + 1:=by unfold wrap64;omega
 subst ho
 obtain ⟨hbv,hbb⟩:=nb h hi.lt
 go_enter Tryz.func63,Tryz.ntmps63
 go_wp2
 refine Qd b h (fun _ g=>hi.grown g) ?_
 rintro W ⟨m1,i1,v1,o1,g1⟩
 apply Yc 4;· kernel_rfl
 iterate 3 (apply rV;· intros;apply ol;go_simp;exact gl)
 apply Zb;· intro w' hg _;apply ol;have y:=(v1.dg hg).yy;go_simp;exact gl
 try simp only [pu,s0,s1]
 intro w5 hg _
 have m5:=m1.drew.below hg
 have i5:=i1.drew.grown hg
 have v5:=v1.dg hg
 have o5:=o1.og hg
 have g5 : Below w.heap.size w w5:=grow (g1.trans ((Below.refl _ _).drew)) hg
 clear g1 hg m1 i1 v1 o1
 go_wp2_with (first
  | (go_at_call 109;refine (hst _ g5).mono ?_;rintro e w6 ⟨rfl,XD,D6⟩;obtain ⟨a6,k6,c6,c7⟩:=D6.a;obtain ⟨F6,i6,e6⟩:=i5.sub k6.obj D6.same;have o7:=o5.trans D6.only;have v6:=v5.only D6.only (fun hh=>hh.elim hbv hbb);clear o5 v5 m5 i5 g5 hst)
  | (go_at_call 110;refine (TP (d:=.over true) ⟨a6,k6,c6,c7⟩ rfl).mono ?_;rintro e w8 ⟨rfl,rfl⟩;simp only [Se.freed];have n5 : w8.cell? ⟨b,o + 43 + 2,none⟩ = some (iV wf):=i6.ZP 45 ((e6 45 (by omega)).trans f45);have nf:=i6.fz;have I7:=i6.set 45 (iV (wf + 1));have M7:=D6.m.Z4 hb (o + 45) (iV (wf + 1));have O7:=o7.set (o + 45) (iV (wf + 1));have V7:=v6.Z4 hbb (o + 45) (iV (wf + 1));have n1 : (w8.setCell ⟨b,o + 43 + 2,none⟩ (iV (wf + 1))).cell? ⟨b,o + 1,none⟩ = some (iV i):=I7.ZP 1 ((Z7 _ _ _ _ (by decide)).trans ((e6 1 (by omega)).trans f1));have E7 : ∀ j,j < 34 \/ 43 <= j -> upd F6 45 (iV (wf + 1)) j = upd f 45 (iV (wf + 1)) j:=fun j hj=>by by_cases e : j = 45;(· rw [e,upd_same,upd_same]);rw [Z7 _ _ _ _ e,Z7 _ _ _ _ e];exact e6 j (by omega))
  | (go_at_call 108;rw [es.out];refine (Xh I7 (i + 1)).mono ?_;rintro e w9 ⟨rfl,⟨c9,i9⟩,o9⟩))
 refine ZY (fun W=>Z9 W L s9 /\ ZN W b o T c9 _ /\ ZV W w.heap.size t n k m g p r L.p who /\ Only (L.and b) w W) ⟨M7.and hb o9,i9,V7.only o9 hbb,O7.trans (o9.mono (fun _ _ e=>Or.inr e))⟩ ?_
 have E9 : ∀ j,j ≠ 0 -> j ≠ 1 -> (j < 34 \/ 43 <= j) -> (upd (lays (upd (upd F6 45 (iV (wf + 1))) 1 (iV ((i + 1 : Nat) : Int))) 34 (Qh ((i + 1 : Nat) : Int))) 0 (iV 11)) j = (upd f 45 (iV (wf + 1))) j:=fun j h0 h1 hh=>by
  rw [Z7 _ _ _ _ h0,Zd _ _ _ _ (by simp [Qh];omega),Z7 _ _ _ _ h1];exact E7 j hh
 clear M7 I7 O7 V7 i9 o9 n1 v6 o7 i6 k6 c6 c7 D6 E7 es n5 nf
 rintro W3 ⟨m3,i3,v3,o3⟩
 have k1 : W3.cell? ⟨b,o + 1,none⟩ = some (iV ((i + 1 : Nat) : Int)):=i3.ZP 1 (by rw [Z7 _ _ _ _ (by decide),Zd _ _ _ _ (by simp),upd_same])
 have y2:=v3.c2
 have hge : decide (((i + 1 : Nat) : Int) ≥ (k : Int)) = true:=by simp;omega
 go_region
 go_wp2_with (go_at_call 111;refine (hend _ _ _ i3.drew E9).mono ?_;rintro e w4 ⟨rfl,⟨c4,f4,i4,x4⟩,o4⟩)
 go_end0
 exact ⟨rfl,_,_,m3.drew.and hb o4,o3.drew.trans (o4.mono (fun _ _ e=>Or.inr e)),i4,x4⟩
end
end Go.Proofs.YtmnnhjhhhfabiaaGreat
