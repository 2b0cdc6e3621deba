import Derived.Test.YtmnnhjhhhfabiaaGreatCompWays
import Derived.Deep.AppendLies
import Derived.Test.YtmnnhjhhhfabiaaGreatCompLand
import Derived.Test.YtmnnhjhhhfabiaaGreatDropFarm
namespace Go.Proofs.YtmnnhjhhhfabiaaGreat
open Go.RowKit
section
theorem YC.laid {w : World} {b d c n : Nat} {q : Sn} {M : List Sn} {C : Array Value} (hk : w.heap[b]? = some (.cells C 163 (0,0))) (h : YC w d c M) (hM : M.length <= n \/ M[n]? = some q /\ M.length = n + 1) : YC (w.setCells b (6 * n) q.cells) d c M:=by
 by_cases e : d = b
 · subst e
   obtain ⟨C',k,k1,k2⟩:=h.ex
   rw [hk] at k
   cases k
   obtain ⟨c',q0,q1,q2,q3⟩:=VH q.cells w (6 * n) C hk
   refine ⟨⟨c',q0,by omega,fun i x hx=>?_⟩,h.le⟩
   have hl:=(List.getElem?_eq_some_iff.1 hx).1
   have hC:=(Array.getElem?_eq_some_iff.1 (k2 i x hx)).1
   rw [XX] at hl
   by_cases hi : i < 6 * n
   · rw [q2 i hi];exact k2 i x hx
   · rcases hM with hM | ⟨hM,hM2⟩
     · omega
     · have e2:=Yx hM (j:=i - 6 * n) (by omega)
       rw [show n * 6 + (i - 6 * n) = i by omega,hx] at e2
       have:=q3 (i - 6 * n) x e2.symm (by omega)
       rwa [show 6 * n + (i - 6 * n) = i by omega] at this
 · exact h.only (YT q.cells w w (6 * n) (Only.refl (fun k=>k = b) w)) e
structure Ye (v : Value) (L : List Sn) (q : Sn) (x y : World) : Prop where
 only : Only (fun k=>v.ownBlock = some k) x y
 k1 : ∀ {b c},YC x b c L -> YC y b c L
 k2 : ∀ {b c},YC x b c [q] -> YC y b c [q]
 k3 : ∀ {b c},YC x b c (L ++ [q]) -> YC y b c (L ++ [q])
namespace Ye
variable {v : Value} {L : List Sn} {q : Sn}
theorem refl (x : World) : Ye v L q x x:=⟨Only.refl _ _,id,id,id⟩
theorem trans (x y z : World) (h : Ye v L q x y) (k : Ye v L q y z) : Ye v L q x z:=⟨h.only.trans k.only,k.k1 ∘ h.k1,k.k2 ∘ h.k2,k.k3 ∘ h.k3⟩
theorem grown {x y : World} (h : Grown x y) : Ye v L q x y:=⟨Only.ZZ h,fun s=>s.grown h,fun s=>s.grown h,fun s=>s.grown h⟩
end Ye
def YK (w : World) (v : Value) (L : List Sn) : Prop:=(v = .slice none 0 0 /\ L = []) \/ ∃ B cap,v = .slice (some ⟨B,0,none⟩) L.length cap /\ YC w B cap L
theorem YK.only {w w' : World} {v : Value} {L : List Sn} {S : Nat -> Prop} (h : YK w v L) (g : Only S w w') (hs : ∀ k,v.ownBlock = some k -> ¬ S k) : YK w' v L :=
 h.imp id fun ⟨B,cap,e,k⟩=>⟨B,cap,e,k.only g (hs B (by rw [e];rfl))⟩
theorem YK.grown {w w' : World} {v : Value} {L : List Sn} (h : YK w v L) (g : Below w.heap.size w w') : YK w' v L:=h.imp id fun ⟨B,cap,e,k⟩=>⟨B,cap,e,k.grown g⟩
theorem YK.drew {w : World} {v : Value} {L : List Sn} (h : YK w v L) : YK w.drew v L:=h.imp id fun ⟨B,cap,e,k⟩=>⟨B,cap,e,k.drew⟩
theorem YK.nil (w : World) : YK w (.slice none 0 0) []:=Or.inl ⟨rfl,rfl⟩
theorem YK.lt {w : World} {v : Value} {L : List Sn} (h : YK w v L) {k : Nat} (hk : v.ownBlock = some k) : k < w.heap.size:=by
 rcases h with ⟨rfl,-⟩ | ⟨B,cap,rfl,s⟩
 · cases hk
 · cases hk;exact s.lt
theorem YK.keep {x y : World} {v : Value} {L : List Sn} {q : Sn} (h : YK x v L) (k : Ye v L q x y) : YK y v L:=h.imp id fun ⟨B,cap,e,s⟩=>⟨B,cap,e,k.k1 s⟩
theorem YK.push {w : World} {v : Value} {g : Nat} {L : List Sn} {q : Sn} (h : YK w v L) (h2 : YC w g 1 [q]) (hl : L.length <= 900) (ty : TypeId) :
 ∃ b' cap' w',(Builtin.append_ #[98,98] ty #[v,.slice (some ⟨g,0,none⟩) 1 1]).run Tryz.prog w = .ok (.slice (some ⟨b',0,none⟩) (L.length + 1) cap') w' /\ YC w' b' cap' (L ++ [q]) /\ Ye v L q w w' /\ (v.ownBlock = some b' \/ w.heap.size <= b'):=by
 obtain ⟨i0,hi,hz0,hz1,hz2⟩:=info_parts Tryz.Nl
 have hnews : ∀ (j : Nat) u,q.cells[j]? = some u -> w.cell? ((⟨g,0,none⟩ : Addr).add j) = some u:=fun j u hu=>by
  rw [add_lit,Nat.zero_add]
  exact h2.cell (by simpa [Ze] using hu)
 have hone : ∀ u ∈ q.cells,u.oneCell' = true:=by
  intro u hq
  simp only [Sn.cells,List.mem_cons,List.not_mem_nil,or_false] at hq
  rcases hq with rfl | rfl | rfl | rfl | rfl | rfl <;> rfl
 rcases h with ⟨rfl,rfl⟩ | ⟨b,cap,rfl,h⟩
 · obtain ⟨v',w',hrun,ho,hgr,-⟩:=run_append_own (P:=Tryz.prog) w w.heap.size 98 ty 163 i0 (.agg #[iV 0,iV 0,iV 0,iV 0,iV 0,.bool false]) 6 48 Tryz.underlying98 hi hz0 hz1 hz2 rfl (by decide) (.slice none 0 0) 0 [] (World.ownsRow_nil w _ 163 6) ⟨g,0,none⟩ 1 1 q.cells rfl hnews hone (by unfold maxLen;omega) (by omega) (Nat.le_refl _)
   rcases ho.2 with ⟨_,h3⟩ | ⟨g',cap',cur,h',hb,hg',hcap,hmax,hsz,htake⟩
   · omega
   · subst h'
     refine ⟨g',cap',w',hrun,⟨⟨cur,hg',by omega,fun i u hu=>?_⟩,by simpa using hcap⟩,Ye.grown (Grown.of hgr),Or.inr hb⟩
     have e:=congrArg (fun q=>q[i]?) htake
     have hu' : q.cells[i]? = some u:=by simpa [Ze] using hu
     have hlt : i < (0 + 1) * 6:=(List.getElem?_eq_some_iff.1 hu').1
     simp only [List.nil_append] at e
     rw [List.getElem?_take_of_lt hlt,hu'] at e
     simpa using e
 · by_cases hr : L.length + 1 <= cap
   · obtain ⟨c,k,k1,k2⟩:=h.ex
     have hf:=XX L
     have hcell : ∀ j,j < 6 -> ∃ v,w.cell? ⟨b,6 * L.length + j,none⟩ = some v:=fun j hj=>⟨_,ZW k (Array.getElem?_eq_getElem (show 6 * L.length + j < c.size by omega))⟩
     have hrun:=run_append_room_cells (P:=Tryz.prog) w 98 ty 163 i0 Tryz.underlying98 hi b 0 L.length cap ⟨g,0,none⟩ 1 1 q.cells (by rw [hz1];rfl) hnews hone hr
      (fun j hj=>by
       obtain ⟨v,hv⟩:=hcell j (by simpa [Sn.cells] using hj)
       rw [hz1,Nat.zero_add,Nat.mul_comm L.length 6,hv];rfl)
      (fun j hj=>Zc k _)
     rw [hz1,Nat.zero_add,Nat.mul_comm L.length 6] at hrun
     obtain ⟨c',q0,q1,q2,q3⟩:=VH q.cells w (6 * L.length) c k
     refine ⟨b,cap,_,hrun,?_,?_,Or.inl rfl⟩
     · refine ⟨⟨c',q0,by omega,fun i x hx=>?_⟩,by simpa using hr⟩
       rw [Vf] at hx
       by_cases hil : i < (Ze L).length
       · rw [List.getElem?_append_left hil] at hx
         rw [q2 i (by omega)];exact k2 i x hx
       · rw [List.getElem?_append_right (by omega)] at hx
         have hx' : q.cells[i - (Ze L).length]? = some x:=by simpa [Ze] using hx
         have lq : i - (Ze L).length < 6:=(List.getElem?_eq_some_iff.1 hx').1
         have:=q3 _ x hx' (by omega)
         rwa [show 6 * L.length + (i - (Ze L).length) = i by omega] at this
     · refine ⟨(YT q.cells w w (6 * L.length) (Only.refl (fun k=>k = b) w)).mono (fun i _ e=>by rw [e];rfl),fun s=>s.laid k (Or.inl (Nat.le_refl _)),fun s=>?_,fun s=>s.laid k (Or.inr ⟨by simp,by simp⟩)⟩
       refine s.laid k ?_
       cases L with
       | nil=>exact Or.inr ⟨rfl,rfl⟩
       | cons a t=>exact Or.inl (by simp)
   · obtain ⟨b',cap',w',h3,h4,h5,h6⟩:=YC.app h h2 (by simp;omega) ty
     rcases h6 with ⟨rfl,rfl,_⟩ | ⟨h8,h7⟩
     · have:=h4.le
       simp at this
       omega
     · exact ⟨b',cap',w',h3,h4,Ye.grown h7,Or.inr h8⟩
theorem Nz {P : Program} {R : World -> World -> Prop} {o : Oper} {a : Act} {w w' : World} {φ : World -> Value -> Prop} {t : TypeId} {v vx v' : Value} (s x : Operand)
 (ho : o.op = .call { callee:=.builtin .append,args:=#[s,x],argTypes:=#[t,t] }) (hs : a.eval s = v) (hx : a.eval x = vx)
 (hr : (Builtin.append_ #[t,t] o.type #[v,vx]).run P w = .ok v' w') (hR : R w w') (hφ : φ w' v') : YX P R w φ ((execOp a.eval o).run P w):=by
 unfold execOp
 simp only [ho,resolve,invoke,builtin,Sem.run_bind,Sem.run_pure,Result.andThen_ok,List.map_toArray,List.map_cons,List.map_nil,hs,hx,hr]
 exact ⟨hR,hφ⟩
set_option maxHeartbeats 1000000 in
theorem zi {o : Oper} (ev : Operand -> Value) (w : World) (q : Sn) (s : Operand) (ho : o.op = .buildSlice 98 1 #[(0,s)]) (hs : ev s = .agg #[iV q.st,iV q.cl,iV q.us,iV q.sm,iV q.lv,.bool q.op]) :
 (execOp ev o).run Tryz.prog w = .ok (.value (.slice (some ⟨w.heap.size,0,none⟩) 1 1)) (w.alloc (.cells #[iV q.st,iV q.cl,iV q.us,iV q.sm,iV q.lv,.bool q.op] 163)):=by
 unfold execOp
 simp only [ho]
 go_simp
theorem DL {R : World -> World -> Prop} {o : Oper} {a : Act} {w : World} {φ : World -> Value -> Prop} {q : Sn} (s : Operand)
 (ho : o.op = .buildSlice 98 1 #[(0,s)]) (hs : a.eval s = .agg #[iV q.st,iV q.cl,iV q.us,iV q.sm,iV q.lv,.bool q.op])
 (hR : R w (w.alloc (.cells #[iV q.st,iV q.cl,iV q.us,iV q.sm,iV q.lv,.bool q.op] 163))) (hφ : φ (w.alloc (.cells #[iV q.st,iV q.cl,iV q.us,iV q.sm,iV q.lv,.bool q.op] 163)) (.slice (some ⟨w.heap.size,0,none⟩) 1 1)) : YX Tryz.prog R w φ ((execOp a.eval o).run Tryz.prog w):=by
 rw [zi a.eval w q s ho hs]
 exact ⟨hR,hφ⟩
theorem YC.put {w : World} {b cap : Nat} {l : List Sn} (h : YC w b cap l) {i j : Nat} {q q' : Sn} (hq : l[i]? = some q) (hj : j < 6) {v : Value} (hv : q.cells.set j v = q'.cells) : YC (w.setCell ⟨b,i * 6 + j,none⟩ v) b cap (l.set i q'):=by
 obtain ⟨c,k,k1,k2⟩:=h.ex
 have hil:=(List.getElem?_eq_some_iff.1 hq).1
 refine ⟨⟨_,ZU _ _ _ _ _ _ k,by rw [Array.size_setIfInBounds];exact k1,fun x u hx=>?_⟩,by rw [List.length_set];exact h.le⟩
 have hxl:=(List.getElem?_eq_some_iff.1 hx).1
 rw [XX,List.length_set] at hxl
 have hi2 : x / 6 < (l.set i q').length:=by rw [List.length_set];omega
 have e:=Yx (List.getElem?_eq_getElem hi2) (j:=x % 6) (by omega)
 rw [show x / 6 * 6 + x % 6 = x by omega,hx] at e
 by_cases hxi : x / 6 = i
 · have e2 : (l.set i q')[x / 6] = q':=by simp [hxi]
   rw [e2,<- hv,List.getElem?_set] at e
   by_cases hxj : j = x % 6
   · rw [if_pos hxj,if_pos (show j < q.cells.length from hj)] at e
     cases e
     have hb : i * 6 + j < c.size:=by have:=h.le;omega
     rw [show x = i * 6 + j by omega,Array.getElem?_setIfInBounds_self_of_lt hb]
   · rw [if_neg hxj] at e
     rw [Array.getElem?_setIfInBounds_ne (by omega)]
     refine k2 x u ?_
     have e3:=Yx hq (j:=x % 6) (by omega)
     rw [show i * 6 + x % 6 = x by omega] at e3
     rw [e3];exact e.symm
 · rw [Array.getElem?_setIfInBounds_ne (by omega)]
   refine k2 x u ?_
   have qp : x / 6 < l.length:=by omega
   have e3:=Yx (List.getElem?_eq_getElem qp) (j:=x % 6) (by omega)
   rw [show x / 6 * 6 + x % 6 = x by omega] at e3
   rw [e3]
   have e4 : (l.set i q')[x / 6] = l[x / 6]:=by rw [List.getElem_set_ne (by omega)]
   rw [e4] at e
   exact e.symm
end
section
set_option maxHeartbeats 1000000
set_option maxRecDepth 20000
variable {w : World} {L : Loc} {s : Mm} {b o : Nat} {T : TypeId} {cs : Array Value} {t n k m : Nat} {g p r : Int} {f : Nat -> Value}
set_option maxRecDepth 20000 in
theorem DN (h : Z9 w L s) (hb : ¬ L.has b) (hi : ZN w b o T cs f) (who : Int) (hG : Good t n k m g p r) (hl : ZR t n k m <= s.n) {i : Nat} (hik : i < k) (f1 : f 1 = iV i) {v : Value} (f2 : f 2 = v) {l : List Sn} (hS : YK w v l) (hv : ∀ x,v.ownBlock = some x -> x ≠ b /\ ¬ L.has x) (hlen : l.length <= 900) {c : Ck} {σ : Nat} (hc : s.wd (6 + t + n * 2 + i * 3) = c.w) (hok : c.ok σ) (hσ : σ <= 2000000) :
 Calls Tryz.prog 97 #[pP b o,eV t n k m g p r L.p who] w fun e w'=>e = .returned (.tuple #[]) /\ ∃ cs' B cap,Z9 w' L ((s.by who).step (6 + t + n * 2 + i * 3) c.w) /\ ZN w' b o T cs' (upd (upd f 2 (.slice (some ⟨B,0,none⟩) (l.length + 1) cap)) 0 (iV 1)) /\ YC w' B cap (l ++ [⟨c.st,c.cl,c.us,c.sp,0,false⟩]) /\ (v.ownBlock = some B \/ w.heap.size <= B) /\ Only (fun x=>L.and b x \/ v.ownBlock = some x) w w':=by
 have hn : (6 + t + n * 2 + i * 3) + 2 < s.n:=by
  have : 6 + t + n * 2 + k * 3 + k * m <= s.n:=hl
  omega
 have HC : Hid (s.wd (6 + t + n * 2 + i * 3) = c.w):=hc
 have HF2 : Hid (f 2 = v):=f2
 have hk1:=hG.k1
 have hvb : ¬ v.ownBlock = some b:=fun hh=>(hv b hh).1 rfl
 have hvL : ∀ x,v.ownBlock = some x -> ¬ L.has x:=fun x hx=>(hv x hx).2
 clear hc f2 hv
 obtain ⟨hbv,hbb⟩:=nb h hi.lt
 go_enter Tryz.func97,Tryz.ntmps97
 go_wp2
 refine ZY (fun W=>Z9 W L s /\ ZN W b o T cs f /\ YK W v l /\ ZV W w.heap.size t n k m g p r L.p who /\ Only (L.and b) w W) ⟨h.alloc _,hi.grown (Zh _ _),hS.grown (Zh _ _),ZV.new,(Only.refl _ _).alloc _⟩ ?_
 rintro W ⟨m1,i1,S1,v1,o1⟩
 clear hS
 apply Yc 8;· kernel_rfl
 apply rV;· intro w' hg _;apply ol;have y:=(v1.dg hg).yy;go_simp;exact gl
 apply rV;· intros;apply ol;go_simp;exact gl
 apply rV;· intro w' hg _;apply ol;have y:=(v1.dg hg).yy;go_simp;exact gl
 iterate 3 (apply rV;· intros;apply ol;go_simp;exact gl)
 try simp only [pu,s0,s1]
 apply rV;· intro w' hg _;apply ol;have z0:=(i1.drew.grown hg).ZP 1 f1;go_simp;exact gl
 apply Zb (c:=iV (((6 + t + n * 2 + i * 3) : Nat) : Int));· intro w' hg _;apply ol;go_simp;refine (Y8 _ _ _ _ _ _ _ (i : Int) _ hG.arena (by omega) (by omega)).mono ?_;rintro e w'' ⟨rfl,b9⟩;exact ⟨_,rfl,b9,congrArg (Value.int .i64) (by omega)⟩
 try simp only [pu,s0,s1]
 intro w5 hg _
 have m5:=m1.drew.below hg
 have i5:=i1.drew.grown hg
 have v5:=v1.dg hg
 have o5:=o1.og hg
 have S5:=S1.drew.grown hg
 clear S1 hg m1 i1 v1 o1
 go_wp2_with (go_at_call 53;refine (ZK m5 _ _ _ _ _ _ _ _ (6 + t + n * 2 + i * 3) (by omega)).mono ?_;rintro e w6 ⟨rfl,m6,o6⟩;rw [HC.out];rw [HC.out] at m6)
 refine ZY (fun W=>Z9 W L ((s.by who).step (6 + t + n * 2 + i * 3) c.w) /\ ZN W b o T cs f /\ YK W v l /\ Only (L.and b) w W) ⟨m6,i5.only o6 hb,S5.only o6 hvL,o5.trans (o6.Y4 (b:=b))⟩ ?_
 clear m6 i5 S5 o5 o6 v5 m5
 rintro W2 ⟨m2,i2,hS2,o2⟩
 have hwz : w.heap.size <= W2.drew.heap.size:=o2.size
 refine Zx (Ye v l ⟨c.st,c.cl,c.us,c.sp,0,false⟩) 12 [.val (pP b o),.val (pP b o),.val (pP b o),.val (pP b (o + 2)),.val v,.val (.int .u64 c.w),.val (.agg #[iV c.st,iV c.cl,iV c.us,iV c.sp]),.val (.agg #[iV c.st,iV c.cl,iV c.us,iV c.sp,iV 0,.bool false]),.that (fun W v=>∃ g,v = .slice (some ⟨g,0,none⟩) 1 1 /\ YC W g 1 [⟨c.st,c.cl,c.us,c.sp,0,false⟩]) (fun x y v hxy ⟨g,h1,h3⟩=>⟨g,h1,hxy.k2 h3⟩),.that (fun W u=>∃ B cap,u = .slice (some ⟨B,0,none⟩) (l.length + 1) cap /\ YC W B cap (l ++ [⟨c.st,c.cl,c.us,c.sp,0,false⟩]) /\ (v.ownBlock = some B \/ w.heap.size <= B)) (fun x y v hxy ⟨B,cap,h1,h3,h4⟩=>⟨B,cap,h1,hxy.k3 h3,h4⟩),.val (pP b o),.val (pP b (o + 2))] (by kernel_rfl) Ye.refl Ye.trans (by decide) (by kernel_rfl) (by kernel_rfl) (by kernel_rfl) (by kernel_rfl) (by kernel_rfl) (by kernel_rfl) ?_
 simp only [List.take_succ_cons,List.take_zero,ZE,Act.put,List.setIfInBounds_toArray,List.set_cons_zero,List.set_cons_succ]
 refine ⟨?_,⟨?_,⟨?_,⟨?_,⟨?_,⟨?_,⟨?_,⟨?_,⟨?_,fun _=>⟨?_,fun _=>⟨?_,⟨?_,?_⟩⟩⟩⟩⟩⟩⟩⟩⟩⟩⟩⟩
 · intro w' hR HF
   apply ol
   go_simp
   exact ⟨Ye.refl _,rfl⟩
 · intro w' hR HF
   apply ol
   go_simp
   exact ⟨Ye.refl _,rfl⟩
 · intro w' hR HF
   apply ol
   go_simp
   exact ⟨Ye.refl _,rfl⟩
 · intro w' hR HF
   apply ol
   go_simp
   exact ⟨Ye.refl _,rfl⟩
 · intro w' hR HF
   apply ol
   have z:=(i2.drew.only hR.only hvb).ZP 2 HF2.out
   go_simp
   exact ⟨Ye.refl _,rfl⟩
 · intro w' hR HF
   apply ol
   go_simp
   exact ⟨Ye.refl _,rfl⟩
 · intro w' hR HF
   apply ol
   go_simp
   refine (Yu c σ hok hσ _).mono ?_
   rintro e w'' ⟨rfl,b9⟩
   exact ⟨_,rfl,Ye.grown b9,rfl⟩
 · intro w' hR HF
   apply ol
   go_simp
   exact ⟨Ye.refl _,rfl⟩
 · intro w' hR HF
   apply ol
   clear HF
   exact DL (q:=⟨c.st,c.cl,c.us,c.sp,0,false⟩) (.tmp 21) rfl rfl (Ye.grown (Zh _ _)) ⟨_,rfl,YC.one _ _⟩
 · intro w' hR HF
   apply ol
   obtain ⟨g9,e1,e2⟩:=HF.1 (by kernel_rfl)
   clear HF
   subst e1
   obtain ⟨b9,c9,w9,hr,ho,hk,hf⟩:=YK.push (hS2.drew.keep hR) e2 hlen 98
   have hsz:=hR.only.size
   exact Nz (.tmp 18) (.tmp 22) rfl rfl rfl hr hk ⟨b9,c9,rfl,ho,hf.imp id (fun hh=>Nat.le_trans hwz (Nat.le_trans hsz hh))⟩
 · intro w' hR HF
   apply ol
   go_simp
   exact ⟨Ye.refl _,rfl⟩
 · intro w' hR HF
   apply ol
   go_simp
   exact ⟨Ye.refl _,rfl⟩
 intro w3 hR HF
 obtain ⟨⟨B,cap,rfl,S3,hB⟩,-,-⟩:=HF
 have i3:=i2.drew.only hR.only hvb
 have m3:=m2.drew.only hR.only (fun x hx e=>hvL x e hx)
 have o3 : Only (fun x=>L.and b x \/ v.ownBlock = some x) w w3:=(o2.drew.mono (fun _ _ hh=>Or.inl hh)).trans (hR.only.mono (fun _ _ hh=>Or.inr hh))
 have hBb : b ≠ B:=fun e=>by
  rcases hB with hB | hB
  · exact hvb (e ▸ hB)
  · have:=hi.lt;omega
 have tN : B ≠ b:=fun e=>hBb e.symm
 clear hR m2 i2 o2 hS2
 simp only [List.drop_succ_cons,List.drop_zero]
 have k2:=i3.ZP 2 rfl
 have kf:=i3.fz
 have I:=i3.set 2 (.slice (some ⟨B,0,none⟩) (l.length + 1) cap)
 have l0:=I.c_0 rfl
 have lf:=I.fz
 go_wp2
 go_end0
 exact ⟨rfl,_,B,cap,(m3.Z4 hb _ _).Z4 hb _ _,I.set0 _,(S3.of_block (Go.Deep.blk_setCell_other _ _ _ _ (by simpa using tN))).of_block (Go.Deep.blk_setCell_other _ _ _ _ (by simpa using tN)),hB,(o3.setCell (fun _=>Or.inl (Or.inr rfl)) _).setCell (fun _=>Or.inl (Or.inr rfl)) _⟩
def zl (L : Loc) (B cap : Nat) (s s' : Mm) (l l' : List Sn) : Nat -> World -> Prop
 | 0,w=>Z9 w L s /\ YC w B cap l
 | 1,w=>Z9 w L s' /\ YC w B cap l
 | _,w=>Z9 w L s' /\ YC w B cap l'
theorem QX {L : Loc} {B cap : Nat} {s s' : Mm} {l l' : List Sn} (x y : World) (p : Nat) (g : Grown x y) (k : zl L B cap s s' l l' p x) : zl L B cap s s' l l' p y:=by
 match p,k with
 | 0,k=>exact ⟨k.1.below g,k.2.grown g⟩
 | 1,k=>exact ⟨k.1.below g,k.2.grown g⟩
 | p + 2,k=>exact ⟨k.1.below g,k.2.grown g⟩
set_option maxRecDepth 20000 in
theorem Hf (h : Z9 w L s) (hb : ¬ L.has b) (hi : ZN w b o T cs f) (who : Int) (hG : Good t n k m g p r) (hl : ZR t n k m <= s.n) {i : Nat} (hik : i + 1 < k) (f1 : f 1 = iV i) {B cap N : Nat} (f2 : f 2 = .slice (some ⟨B,0,none⟩) N cap) (hBb : b ≠ B) (hBL : ¬ L.has B) {l : List Sn} (hS : YC w B cap l) (hiN : i < N) {q : Sn} (hq : l[i]? = some q) {u x : Int} (hu : s.wd ((6 + t + n * 2 + i * 3) + 1) = u) (hx : wrap64 u = x) :
 Calls Tryz.prog 98 #[pP b o,eV t n k m g p r L.p who] w fun e w'=>e = .returned (.tuple #[]) /\ ∃ cs',Z9 w' L ((s.by who).step ((6 + t + n * 2 + i * 3) + 1) u) /\ ZN w' b o T cs' (upd (upd f 1 (iV ((i : Int) + 1))) 0 (iV 0)) /\ YC w' B cap (l.set i { q with lv:=x }) /\ Only (fun y=>L.and b y \/ y = B) w w':=by
 have hn : (6 + t + n * 2 + i * 3) + 2 < s.n:=by
  have : 6 + t + n * 2 + k * 3 + k * m <= s.n:=hl
  omega
 have HU : Hid (s.wd ((6 + t + n * 2 + i * 3) + 1) = u):=hu
 have HX : Hid (wrap64 u = x):=hx
 have hk1:=hG.k1
 have ht1:=hG.t1
 have hs1:=hG.s1
 have hw1 : wrap64 ((i : Int) + 1) = (i : Int) + 1:=by unfold wrap64;omega
 clear hu hx
 obtain ⟨hbv,hbb⟩:=nb h hi.lt
 have Ux : ¬ w.heap.size = B:=fun hh=>by have:=hS.lt;omega
 have hbB : ¬ L.and B b:=fun hh=>hh.elim hb hBb
 go_enter Tryz.func98,Tryz.ntmps98
 go_wp2
 refine ZY (fun W=>Z9 W L s /\ ZN W b o T cs f /\ YC W B cap l /\ ZV W w.heap.size t n k m g p r L.p who /\ Only (fun y=>L.and b y \/ y = B) w W) ⟨h.alloc _,hi.grown (Zh _ _),hS.grown (Zh _ _),ZV.new,(Only.refl _ _).alloc _⟩ ?_
 rintro W ⟨m1,i1,S1,v1,o1⟩
 clear hS
 apply V3 (R:=Only (L.and B)) (zl L B cap s ((s.by who).step ((6 + t + n * 2 + i * 3) + 1) u) l (l.set i { q with lv:=x })) [17,21] ED QX ⟨m1.drew,S1.drew⟩;· kernel_rfl
 iterate 3 (apply pV;· intros;apply ol;go_simp;exact gl)
 apply pV;· intro w' hR _;apply ol;have z0:=hR.keep hbB (i1.drew.ZP 2 f2);go_simp;exact gl
 iterate 2 (apply pV;· intros;apply ol;go_simp;exact gl)
 try simp only [pu,s0,s1]
 apply pV;· intros;apply ol;go_simp;exact gl
 apply pV;· intro w' hR _;apply ol;have z0:=hR.keep hbB (i1.drew.ZP 1 f1);go_simp;exact gl
 apply pV;· intro w' hR _;apply ol;obtain ⟨y0,y1,y2,y3,y4,y5,y6,y7,y8⟩:=(v1.grown ((Below.refl _ _).drew)).only hR (fun hh=>hh.elim hbv Ux);go_simp;exact gl
 apply pV;· intros;apply ol;go_simp;exact gl
 apply pV;· intro w' hR _;apply ol;obtain ⟨y0,y1,y2,y3,y4,y5,y6,y7,y8⟩:=(v1.grown ((Below.refl _ _).drew)).only hR (fun hh=>hh.elim hbv Ux);go_simp;exact gl
 apply pV;· intros;apply ol;go_simp;exact gl
 try simp only [pu,s0,s1]
 iterate 2 (apply pV;· intros;apply ol;go_simp;exact gl)
 apply pV;· intro w' hR _;apply ol;have z0:=hR.keep hbB (i1.drew.ZP 1 f1);go_simp;exact gl
 apply pV (c:=iV (((6 + t + n * 2 + i * 3) : Nat) : Int));· intro w' hR _;apply ol;go_simp;refine (Y8 _ _ _ _ _ _ _ (i : Int) _ hG.arena (by omega) (by omega)).mono ?_;rintro e w'' ⟨rfl,b9⟩;exact ⟨_,rfl,b9,congrArg (Value.int .i64) (by omega)⟩
 apply pV (c:=iV (((6 + t + n * 2 + i * 3) + 1 : Nat) : Int));· intro w' hR _;apply ol;go_simp;exact ⟨Grown.refl _,congrArg (Value.int .i64) (by rw [IntKind.wrap_i64];omega)⟩
 apply pV (c:=.int .u64 u);· intro w' hR _ hP;apply ol;go_simp;refine (ZK (s:=s) hP.1 _ _ _ _ _ _ _ _ ((6 + t + n * 2 + i * 3) + 1) (by omega)).mono ?_;rintro e w'' ⟨rfl,m2,o2⟩;rw [HU.out] at m2;exact ⟨_,rfl,⟨o2.Y4 (b:=B),m2,hP.2.only o2 hBL⟩,by simp [Want.pred,HU.out]⟩
 try simp only [pu,s0,s1]
 apply pV (c:=iV x);· intro w' hR _;apply ol;go_simp;exact ⟨Grown.refl _,congrArg (Value.int .i64) (by rw [<- HX.out,IntKind.wrap_i64];unfold wrap64;rfl)⟩
 apply pV
 · intro w' hR _
   apply ol
   have z : (i : Int) < (N : Int):=by omega
   go_simp
   exact gl
 apply pV;· intros;apply ol;go_simp;exact gl
 apply U4
 · intro w' hR _ hP
   apply ol
   have z0:=(hP.2.at' hq).2.2.2.2.1
   obtain ⟨c9,q9,-,-⟩:=hP.2.ex
   have z1:=fun j=>Zc q9 j
   go_simp
   exact ⟨⟨(Only.refl _ _).setCell (fun _=>Or.inr rfl) _,hP.1.Z4 hBL _ _,hP.2.put hq (by decide) rfl⟩,trivial⟩
 try simp only [pu,s0,s1]
 try simp only [pn]
 intro vv w2 hR hP _
 obtain ⟨m2,S2⟩ : Z9 w2 L ((s.by who).step ((6 + t + n * 2 + i * 3) + 1) u) /\ YC w2 B cap (l.set i { q with lv:=x }):=hP
 have i2:=i1.drew.only hR hbB
 have v2:=(v1.grown ((Below.refl _ _).drew)).only hR (fun hh=>hh.elim hbv Ux)
 have o2 : Only (fun y=>L.and b y \/ y = B) w w2:=o1.drew.trans (hR.mono (fun _ _ hh=>hh.elim (fun z=>Or.inl (Or.inl z)) Or.inr))
 clear hR o1 v1 m1 i1 S1
 have k1:=i2.ZP 1 f1
 have kf:=i2.fz
 have I1:=i2.set 1 (iV ((i : Int) + 1))
 have l0:=I1.c_0 rfl
 have lf:=I1.fz
 have I2:=I1.set0 (iV 0)
 have M2:=(m2.Z4 hb (o + 1) (iV ((i : Int) + 1))).Z4 hb o (iV 0)
 have O2:=(o2.setCell (a:=⟨b,o + 1,none⟩) (fun _=>Or.inl (Or.inr rfl)) (iV ((i : Int) + 1))).setCell (a:=⟨b,o,none⟩) (fun _=>Or.inl (Or.inr rfl)) (iV 0)
 have V2:=(v2.Z4 hbb (o + 1) (iV ((i : Int) + 1))).Z4 hbb o (iV 0)
 have T2 : YC ((w2.setCell ⟨b,o + 1,none⟩ (iV ((i : Int) + 1))).setCell ⟨b,o,none⟩ (iV 0)) B cap (l.set i { q with lv:=x }):=(S2.of_block (Go.Deep.blk_setCell_other _ _ _ _ (by simpa using hBb.symm))).of_block (Go.Deep.blk_setCell_other _ _ _ _ (by simpa using hBb.symm))
 go_wp2
 refine ZY (fun W=>Z9 W L ((s.by who).step ((6 + t + n * 2 + i * 3) + 1) u) /\ ZN W b o T _ _ /\ YC W B cap (l.set i { q with lv:=x }) /\ ZV W w.heap.size t n k m g p r L.p who /\ Only (fun y=>L.and b y \/ y = B) w W) ⟨M2,I2,T2,V2,O2⟩ ?_
 clear M2 I2 T2 V2 O2 I1 l0 lf k1 kf m2 i2 v2 o2 S2
 rintro W3 ⟨m3,i3,S3,v3,o3⟩
 have k1 : W3.cell? ⟨b,o + 1,none⟩ = some (iV ((i : Int) + 1)):=i3.ZP 1 rfl
 have y2:=v3.c2
 have hge : decide ((i : Int) + 1 ≥ (k : Int)) = false:=by simp;omega
 go_region
 go_wp2
 go_end0
 exact ⟨rfl,_,m3.drew,i3.drew,S3.drew,o3.drew⟩
set_option maxRecDepth 20000 in
theorem Ny (h : Z9 w L s) (hb : ¬ L.has b) (hi : ZN w b o T cs f) (who : Int) (hG : Good t n k m g p r) (hl : ZR t n k m <= s.n) {i : Nat} (hik : i + 1 = k) (f1 : f 1 = iV i) {B cap N : Nat} (f2 : f 2 = .slice (some ⟨B,0,none⟩) N cap) (hBb : b ≠ B) (hBL : ¬ L.has B) {l : List Sn} (hS : YC w B cap l) (hiN : i < N) {q : Sn} (hq : l[i]? = some q) {u x : Int} (hu : s.wd ((6 + t + n * 2 + i * 3) + 1) = u) (hx : wrap64 u = x) :
 Calls Tryz.prog 98 #[pP b o,eV t n k m g p r L.p who] w fun e w'=>e = .returned (.tuple #[]) /\ ∃ cs',Z9 w' L ((s.by who).step ((6 + t + n * 2 + i * 3) + 1) u) /\ ZN w' b o T cs' (upd (upd (upd (upd f 1 (iV ((i : Int) + 1))) 0 (iV 0)) 1 (iV 0)) 0 (iV 2)) /\ YC w' B cap (l.set i { q with lv:=x }) /\ Only (fun y=>L.and b y \/ y = B) w w':=by
 have hn : (6 + t + n * 2 + i * 3) + 2 < s.n:=by
  have : 6 + t + n * 2 + k * 3 + k * m <= s.n:=hl
  omega
 have HU : Hid (s.wd ((6 + t + n * 2 + i * 3) + 1) = u):=hu
 have HX : Hid (wrap64 u = x):=hx
 have hk1:=hG.k1
 have ht1:=hG.t1
 have hs1:=hG.s1
 have hw1 : wrap64 ((i : Int) + 1) = (i : Int) + 1:=by unfold wrap64;omega
 clear hu hx
 obtain ⟨hbv,hbb⟩:=nb h hi.lt
 have Ux : ¬ w.heap.size = B:=fun hh=>by have:=hS.lt;omega
 have hbB : ¬ L.and B b:=fun hh=>hh.elim hb hBb
 go_enter Tryz.func98,Tryz.ntmps98
 go_wp2
 refine ZY (fun W=>Z9 W L s /\ ZN W b o T cs f /\ YC W B cap l /\ ZV W w.heap.size t n k m g p r L.p who /\ Only (fun y=>L.and b y \/ y = B) w W) ⟨h.alloc _,hi.grown (Zh _ _),hS.grown (Zh _ _),ZV.new,(Only.refl _ _).alloc _⟩ ?_
 rintro W ⟨m1,i1,S1,v1,o1⟩
 clear hS
 apply V3 (R:=Only (L.and B)) (zl L B cap s ((s.by who).step ((6 + t + n * 2 + i * 3) + 1) u) l (l.set i { q with lv:=x })) [17,21] ED QX ⟨m1.drew,S1.drew⟩;· kernel_rfl
 iterate 3 (apply pV;· intros;apply ol;go_simp;exact gl)
 apply pV;· intro w' hR _;apply ol;have z0:=hR.keep hbB (i1.drew.ZP 2 f2);go_simp;exact gl
 iterate 2 (apply pV;· intros;apply ol;go_simp;exact gl)
 try simp only [pu,s0,s1]
 apply pV;· intros;apply ol;go_simp;exact gl
 apply pV;· intro w' hR _;apply ol;have z0:=hR.keep hbB (i1.drew.ZP 1 f1);go_simp;exact gl
 apply pV;· intro w' hR _;apply ol;obtain ⟨y0,y1,y2,y3,y4,y5,y6,y7,y8⟩:=(v1.grown ((Below.refl _ _).drew)).only hR (fun hh=>hh.elim hbv Ux);go_simp;exact gl
 apply pV;· intros;apply ol;go_simp;exact gl
 apply pV;· intro w' hR _;apply ol;obtain ⟨y0,y1,y2,y3,y4,y5,y6,y7,y8⟩:=(v1.grown ((Below.refl _ _).drew)).only hR (fun hh=>hh.elim hbv Ux);go_simp;exact gl
 apply pV;· intros;apply ol;go_simp;exact gl
 try simp only [pu,s0,s1]
 iterate 2 (apply pV;· intros;apply ol;go_simp;exact gl)
 apply pV;· intro w' hR _;apply ol;have z0:=hR.keep hbB (i1.drew.ZP 1 f1);go_simp;exact gl
 apply pV (c:=iV (((6 + t + n * 2 + i * 3) : Nat) : Int));· intro w' hR _;apply ol;go_simp;refine (Y8 _ _ _ _ _ _ _ (i : Int) _ hG.arena (by omega) (by omega)).mono ?_;rintro e w'' ⟨rfl,b9⟩;exact ⟨_,rfl,b9,congrArg (Value.int .i64) (by omega)⟩
 apply pV (c:=iV (((6 + t + n * 2 + i * 3) + 1 : Nat) : Int));· intro w' hR _;apply ol;go_simp;exact ⟨Grown.refl _,congrArg (Value.int .i64) (by rw [IntKind.wrap_i64];omega)⟩
 apply pV (c:=.int .u64 u);· intro w' hR _ hP;apply ol;go_simp;refine (ZK (s:=s) hP.1 _ _ _ _ _ _ _ _ ((6 + t + n * 2 + i * 3) + 1) (by omega)).mono ?_;rintro e w'' ⟨rfl,m2,o2⟩;rw [HU.out] at m2;exact ⟨_,rfl,⟨o2.Y4 (b:=B),m2,hP.2.only o2 hBL⟩,by simp [Want.pred,HU.out]⟩
 try simp only [pu,s0,s1]
 apply pV (c:=iV x);· intro w' hR _;apply ol;go_simp;exact ⟨Grown.refl _,congrArg (Value.int .i64) (by rw [<- HX.out,IntKind.wrap_i64];unfold wrap64;rfl)⟩
 apply pV
 · intro w' hR _
   apply ol
   have z : (i : Int) < (N : Int):=by omega
   go_simp
   exact gl
 apply pV;· intros;apply ol;go_simp;exact gl
 apply U4
 · intro w' hR _ hP
   apply ol
   have z0:=(hP.2.at' hq).2.2.2.2.1
   obtain ⟨c9,q9,-,-⟩:=hP.2.ex
   have z1:=fun j=>Zc q9 j
   go_simp
   exact ⟨⟨(Only.refl _ _).setCell (fun _=>Or.inr rfl) _,hP.1.Z4 hBL _ _,hP.2.put hq (by decide) rfl⟩,trivial⟩
 try simp only [pu,s0,s1]
 try simp only [pn]
 intro vv w2 hR hP _
 obtain ⟨m2,S2⟩ : Z9 w2 L ((s.by who).step ((6 + t + n * 2 + i * 3) + 1) u) /\ YC w2 B cap (l.set i { q with lv:=x }):=hP
 have i2:=i1.drew.only hR hbB
 have v2:=(v1.grown ((Below.refl _ _).drew)).only hR (fun hh=>hh.elim hbv Ux)
 have o2 : Only (fun y=>L.and b y \/ y = B) w w2:=o1.drew.trans (hR.mono (fun _ _ hh=>hh.elim (fun z=>Or.inl (Or.inl z)) Or.inr))
 clear hR o1 v1 m1 i1 S1
 have k1:=i2.ZP 1 f1
 have kf:=i2.fz
 have I1:=i2.set 1 (iV ((i : Int) + 1))
 have l0:=I1.c_0 rfl
 have lf:=I1.fz
 have I2:=I1.set0 (iV 0)
 have M2:=(m2.Z4 hb (o + 1) (iV ((i : Int) + 1))).Z4 hb o (iV 0)
 have O2:=(o2.setCell (a:=⟨b,o + 1,none⟩) (fun _=>Or.inl (Or.inr rfl)) (iV ((i : Int) + 1))).setCell (a:=⟨b,o,none⟩) (fun _=>Or.inl (Or.inr rfl)) (iV 0)
 have V2:=(v2.Z4 hbb (o + 1) (iV ((i : Int) + 1))).Z4 hbb o (iV 0)
 have T2 : YC ((w2.setCell ⟨b,o + 1,none⟩ (iV ((i : Int) + 1))).setCell ⟨b,o,none⟩ (iV 0)) B cap (l.set i { q with lv:=x }):=(S2.of_block (Go.Deep.blk_setCell_other _ _ _ _ (by simpa using hBb.symm))).of_block (Go.Deep.blk_setCell_other _ _ _ _ (by simpa using hBb.symm))
 go_wp2
 refine ZY (fun W=>Z9 W L ((s.by who).step ((6 + t + n * 2 + i * 3) + 1) u) /\ ZN W b o T _ _ /\ YC W B cap (l.set i { q with lv:=x }) /\ ZV W w.heap.size t n k m g p r L.p who /\ Only (fun y=>L.and b y \/ y = B) w W) ⟨M2,I2,T2,V2,O2⟩ ?_
 clear M2 I2 T2 V2 O2 I1 l0 lf k1 kf m2 i2 v2 o2 S2
 rintro W3 ⟨m3,i3,S3,v3,o3⟩
 have k1 : W3.cell? ⟨b,o + 1,none⟩ = some (iV ((i : Int) + 1)):=i3.ZP 1 rfl
 have y2:=v3.c2
 have hge : decide ((i : Int) + 1 ≥ (k : Int)) = true:=by simp;omega
 go_region
 go_wp2_with (go_at_call 96;refine (Hl i3.drew).mono ?_;rintro e w4 ⟨rfl,⟨c4,i4⟩,o4⟩)
 go_end0
 exact ⟨rfl,_,m3.drew.and hb o4,i4,S3.drew.only o4 hBb.symm,o3.drew.trans (o4.mono (fun _ _ e=>Or.inl (Or.inr e)))⟩
end
section
set_option maxHeartbeats 1000000
set_option maxRecDepth 20000
variable {w : World} {L : Loc} {s : Mm} {b o : Nat} {T : TypeId} {cs : Array Value} {t n k m : Nat} {g p r : Int} {f : Nat -> Value}
set_option maxRecDepth 20000 in
theorem OC (hi : ZN w b o T cs f) (who : Int) (P : Nat) (hp : Fit p) {B cap N : Nat} (hN : N <= 1000) (f2 : f 2 = .slice (some ⟨B,0,none⟩) N cap) (hBb : b ≠ B) {l : List Sn} (hl : l.length = N) (hS : YC w B cap l) (hA : ∀ q ∈ l,TS q) (hr : Pick N (fun i=>(l[i]?.getD ⟨0,0,0,0,0,false⟩).may p) (fun i=>(l[i]?.getD ⟨0,0,0,0,0,false⟩).lv) (-1)) :
 Calls Tryz.prog 144 #[pP b o,eV t n k m g p r P who] w fun e w'=>e = .returned (.tuple #[]) /\ (∃ cs',ZN w' b o T cs' (upd (lays (upd (upd f 2 (.slice none 0 0)) 3 (iV (-1))) 29 ad0) 0 (iV 10))) /\ Only (fun y=>y = b) w w':=by
 have hbb : ¬ w.heap.size = b:=fun hh=>by have:=hi.lt;omega
 have hsn : ∀ w1 : World,YC w1 B cap l -> TR w1 (some ⟨B,0,none⟩) N (fun i=>l[i]?.getD ⟨0,0,0,0,0,false⟩):=fun w1 h1=>by
  rw [<- hl]
  exact h1.V8 (fun i q e=>by rw [e];rfl)
 have HA : Hid (∀ i,i < N -> TS (l[i]?.getD ⟨0,0,0,0,0,false⟩)):=fun i hi'=>by
  rw [List.getElem?_eq_getElem (by omega)]
  exact hA _ (List.getElem_mem _)
 have HP : Hid (Pick N _ _ _):=hr
 clear hr
 have i0:=hi.grown (Zh _ (eO t n k m g p r P who))
 have S0:=hS.grown (Zh _ (eO t n k m g p r P who))
 have v0 : ZV _ w.heap.size t n k m g p r P who:=ZV.new (w:=w) (T:=28)
 have k2:=i0.ZP 2 f2
 have kf:=i0.fz
 have S1:=S0.of_block (Go.Deep.blk_setCell_other _ ⟨b,o + 2,none⟩ (.slice none 0 0) B (by simpa using hBb.symm))
 have i1:=i0.set 2 (.slice none 0 0)
 have v1:=v0.Z4 hbb (o + 2) (.slice none 0 0)
 obtain ⟨y0,y1,y2,y3,y4,y5,y6,y7,y8⟩:=id v1
 have o1 : Only (fun y=>y = b) w _:=(((Only.refl _ _).alloc (eO t n k m g p r P who))).Zk (b:=b) (o + 2) (.slice none 0 0)
 go_enter Tryz.func144,Tryz.ntmps144
 go_wp2_with (first
  | (go_at_call 179;refine (QU _ _ _ _ _ _ _ hp _ N cap (by omega) _ HA.out HP.out _ (hsn _ S1)).mono ?_;rintro e w2 ⟨rfl,b2⟩;have i2:=i1.grown b2;have S2:=S1.grown b2;have o2:=o1.trans (Only.ZZ b2);have k3:=i2.ZP 3 rfl;have kg:=i2.fz;have i3:=i2.set 3 (iV (-1));have l3 : (w2.setCell ⟨b,o + 3,none⟩ (iV (-1))).cell? ⟨b,o + 3,none⟩ = some (iV (-1)):=i3.ZP 3 rfl)
  | (go_at_call 100;refine (Xi i3).mono ?_;rintro e w4 ⟨rfl,⟨c4,i4⟩,o4⟩))
 refine bodyPost_ret (results_none rfl _ _ _) rfl ?_
 exact ⟨rfl,⟨_,i4⟩,(o2.Zk _ _).trans o4⟩
set_option maxRecDepth 20000 in
theorem OB (hi : ZN w b o T cs f) (who : Int) (P : Nat) (hp : Fit p) {B cap N : Nat} (hN : N <= 1000) (f2 : f 2 = .slice (some ⟨B,0,none⟩) N cap) (hBb : b ≠ B) {l : List Sn} (hl : l.length = N) (hS : YC w B cap l) (hA : ∀ q ∈ l,TS q) {j : Nat} {q : Sn} (hq : l[j]? = some q) (hr : Pick N (fun i=>(l[i]?.getD ⟨0,0,0,0,0,false⟩).may p) (fun i=>(l[i]?.getD ⟨0,0,0,0,0,false⟩).lv) (j : Int)) :
 Calls Tryz.prog 144 #[pP b o,eV t n k m g p r P who] w fun e w'=>e = .returned (.tuple #[]) /\ (∃ cs',ZN w' b o T cs' (upd (lays (upd (upd f 2 (.slice none 0 0)) 3 (iV j)) 4 [iV q.st,iV q.cl,iV q.us,iV q.sm]) 0 (iV 3))) /\ Only (fun y=>y = b) w w':=by
 have hbb : ¬ w.heap.size = b:=fun hh=>by have:=hi.lt;omega
 have hsn : ∀ w1 : World,YC w1 B cap l -> TR w1 (some ⟨B,0,none⟩) N (fun i=>l[i]?.getD ⟨0,0,0,0,0,false⟩):=fun w1 h1=>by
  rw [<- hl]
  exact h1.V8 (fun i q e=>by rw [e];rfl)
 have HA : Hid (∀ i,i < N -> TS (l[i]?.getD ⟨0,0,0,0,0,false⟩)):=fun i hi'=>by
  rw [List.getElem?_eq_getElem (by omega)]
  exact hA _ (List.getElem_mem _)
 have HP : Hid (Pick N _ _ _):=hr
 clear hr
 have hjN : (j : Int) < (N : Int):=by have:=(List.getElem?_eq_some_iff.1 hq).1;omega
 have hj0 : decide ((j : Int) < 0) = false:=decide_eq_false (by omega)
 have i0:=hi.grown (Zh _ (eO t n k m g p r P who))
 have S0:=hS.grown (Zh _ (eO t n k m g p r P who))
 have v0 : ZV _ w.heap.size t n k m g p r P who:=ZV.new (w:=w) (T:=28)
 have k2:=i0.ZP 2 f2
 have kf:=i0.fz
 have S1:=S0.of_block (Go.Deep.blk_setCell_other _ ⟨b,o + 2,none⟩ (.slice none 0 0) B (by simpa using hBb.symm))
 have i1:=i0.set 2 (.slice none 0 0)
 have v1:=v0.Z4 hbb (o + 2) (.slice none 0 0)
 obtain ⟨y0,y1,y2,y3,y4,y5,y6,y7,y8⟩:=id v1
 have o1 : Only (fun y=>y = b) w _:=(((Only.refl _ _).alloc (eO t n k m g p r P who))).Zk (b:=b) (o + 2) (.slice none 0 0)
 go_enter Tryz.func144,Tryz.ntmps144
 go_wp2_with (first
  | (go_at_call 179;refine (QU _ _ _ _ _ _ _ hp _ N cap (by omega) _ HA.out HP.out _ (hsn _ S1)).mono ?_;rintro e w2 ⟨rfl,b2⟩;have i2:=i1.grown b2;have S2:=S1.grown b2;have o2:=o1.trans (Only.ZZ b2);have k3:=i2.ZP 3 rfl;have kg:=i2.fz;have i3:=i2.set 3 (iV (j : Int));have l3 : (w2.setCell ⟨b,o + 3,none⟩ (iV (j : Int))).cell? ⟨b,o + 3,none⟩ = some (iV (j : Int)):=i3.ZP 3 rfl;have S3:=S2.of_block (Go.Deep.blk_setCell_other _ ⟨b,o + 3,none⟩ (iV (j : Int)) B (by simpa using hBb.symm));obtain ⟨z0,z1,z2,z3,-,-⟩:=S3.at' hq;have l4:=i3.ZP 4 rfl;have l5 : (w2.setCell ⟨b,o + 3,none⟩ (iV (j : Int))).cell? ⟨b,o + 4 + 1,none⟩ = _:=i3.ZP 5 rfl;have l6 : (w2.setCell ⟨b,o + 3,none⟩ (iV (j : Int))).cell? ⟨b,o + 4 + 2,none⟩ = _:=i3.ZP 6 rfl;have l7 : (w2.setCell ⟨b,o + 3,none⟩ (iV (j : Int))).cell? ⟨b,o + 4 + 3,none⟩ = _:=i3.ZP 7 rfl;have lf:=i3.fz;have i4:=(((i3.set 4 (iV q.st)).set 5 (iV q.cl)).set 6 (iV q.us)).set 7 (iV q.sm);have n0:=i4.c_0 rfl;have nf:=i4.fz)
  | fail)
 go_end0
 exact ⟨rfl,⟨_,i4.set0 _⟩,(((((o2.Zk _ _).Zk _ _).Zk _ _).Zk _ _).Zk _ _).Zk _ _⟩
set_option maxRecDepth 20000 in
theorem Dz (h : Z9 w L s) (hb : ¬ L.has b) (hi : ZN w b o T cs f) (who : Int) (hG : Good t n k m g p r) (hl : ZR t n k m <= s.n) {κ : Nat} (hκ : κ < 3) (f1 : f 1 = iV κ) {B cap N : Nat} (hN : N <= 1000) (f2 : f 2 = .slice (some ⟨B,0,none⟩) N cap) (hBb : b ≠ B) (hBL : ¬ L.has B) {l : List Sn} (hS : YC w B cap l) {x : Int} (hu : s.wd (2 + κ) = x) (hx : x = 0) :
 Calls Tryz.prog 99 #[pP b o,eV t n k m g p r L.p who] w fun e w'=>e = .returned (.tuple #[]) /\ ∃ cs',Z9 w' L ((s.by who).step (2 + κ) x) /\ ZN w' b o T cs' (upd f 1 (iV ((κ : Int) + 1))) /\ YC w' B cap (l) /\ Only (fun y=>L.and b y \/ y = B) w w':=by
 have hn : 6 < s.n:=by
  have : 6 + t + n * 2 + k * 3 + k * m <= s.n:=hl
  have:=hG.k0
  omega
 have HU : Hid (s.wd (2 + κ) = x):=hu
 have HX : Hid (x = 0):=hx
 have hk1:=hG.k1
 have hw1 : wrap64 ((κ : Int) + 1) = (κ : Int) + 1:=by unfold wrap64;omega
 have hcl : IntKind.u64.wrap (N : Int) = (N : Int):=by rw [IntKind.wrap_u64];omega
 have hlt : decide ((18446744073709551615 : Int) < (N : Int)) = false:=decide_eq_false (by omega)
 clear hu hx
 have hx1 : IntKind.u64.wrap (x - 1) = 18446744073709551615:=by rw [HX.out];rfl
 obtain ⟨hbv,hbb⟩:=nb h hi.lt
 have Ux : ¬ w.heap.size = B:=fun hh=>by have:=hS.lt;omega
 have hbB : ¬ L.and B b:=fun hh=>hh.elim hb hBb
 go_enter Tryz.func99,Tryz.ntmps99
 go_wp2
 refine ZY (fun W=>Z9 W L s /\ ZN W b o T cs f /\ YC W B cap l /\ ZV W w.heap.size t n k m g p r L.p who /\ Only (L.and b) w W) ⟨h.alloc _,hi.grown (Zh _ _),hS.grown (Zh _ _),ZV.new,(Only.refl _ _).alloc _⟩ ?_
 rintro W ⟨m1,i1,S1,v1,o1⟩
 clear hS
 apply Yc 6;· kernel_rfl
 apply rV;· intro w' hg _;apply ol;have y:=(v1.dg hg).yy;go_simp;exact gl
 iterate 3 (apply rV;· intros;apply ol;go_simp;exact gl)
 apply rV;· intro w' hg _;apply ol;have z0:=(i1.drew.grown hg).ZP 1 f1;go_simp;exact gl
 apply Zb (c:=iV ((2 + κ : Nat) : Int));· intro w' hg _;apply ol;go_simp;refine (Ya (κ : Int) _ (by omega) (by omega)).mono ?_;rintro e w'' ⟨rfl,rfl⟩;exact ⟨_,rfl,Grown.refl _,congrArg (Value.int .i64) (by omega)⟩
 try simp only [pu,s0,s1]
 intro w5 hg _
 have m5:=m1.drew.below hg
 have i5:=i1.drew.grown hg
 have v5:=v1.dg hg
 have o5:=o1.og hg
 have S5:=S1.drew.grown hg
 clear S1 hg m1 i1 v1 o1
 go_wp2_with (go_at_call 53;refine (ZK m5 _ _ _ _ _ _ _ _ (2 + κ) (by omega)).mono ?_;rintro e w6 ⟨rfl,m6,o6⟩;rw [HU.out];rw [HU.out] at m6)
 refine ZY (fun W=>Z9 W L ((s.by who).step (2 + κ) x) /\ ZN W b o T cs f /\ YC W B cap l /\ ZV W w.heap.size t n k m g p r L.p who /\ Only (fun y=>L.and b y \/ y = B) w W) ⟨m6,i5.only o6 hb,S5.only o6 hBL,v5.only o6 hbv,(o5.trans (o6.Y4 (b:=b))).mono (fun _ _ hh=>Or.inl hh)⟩ ?_
 clear m6 i5 S5 o5 o6 v5 m5
 rintro W2 ⟨m2,i2,S2,v2,o2⟩
 have k1:=i2.ZP 1 f1
 have k2:=i2.ZP 2 f2
 go_region
 replace m2:=m2.drew
 replace i2:=i2.drew
 replace S2:=S2.drew
 replace v2:=v2.grown ((Below.refl _ _).drew)
 replace o2:=o2.drew
 clear k1 k2
 generalize W2.drew = W3 at m2 i2 S2 v2 o2 ⊢
 have k1:=i2.ZP 1 f1
 have kf:=i2.fz
 have I2:=i2.set 1 (iV ((κ : Int) + 1))
 have M2:=m2.Z4 hb (o + 1) (iV ((κ : Int) + 1))
 have T2:=S2.of_block (Go.Deep.blk_setCell_other _ ⟨b,o + 1,none⟩ (iV ((κ : Int) + 1)) B (by simpa using hBb.symm))
 have O2:=o2.setCell (a:=⟨b,o + 1,none⟩) (fun _=>Or.inl (Or.inr rfl)) (iV ((κ : Int) + 1))
 have V2:=v2.Z4 hbb (o + 1) (iV ((κ : Int) + 1))
 have e1 : (W3.setCell ⟨b,o + 1,none⟩ (iV ((κ : Int) + 1))).cell? ⟨b,o + 1,none⟩ = some (iV ((κ : Int) + 1)):=I2.ZP 1 rfl
 have hge : decide ((κ : Int) + 1 ≥ 4) = false:=decide_eq_false (by omega)
 go_wp2
 go_end0
 exact ⟨rfl,_,M2,I2,T2,O2⟩
set_option maxRecDepth 20000 in
theorem G9 (h : Z9 w L s) (hb : ¬ L.has b) (hi : ZN w b o T cs f) (who : Int) (hG : Good t n k m g p r) (hl : ZR t n k m <= s.n) {κ : Nat} (hκ : 3 <= κ /\ κ < 4) (f1 : f 1 = iV κ) {B cap N : Nat} (hN : N <= 1000) (f2 : f 2 = .slice (some ⟨B,0,none⟩) N cap) (hBb : b ≠ B) (hBL : ¬ L.has B) {l : List Sn} (hS : YC w B cap l) {x : Int} (hu : s.wd (2 + κ) = x) (hx : x = 0) (f' : Nat -> Value) (hch : ∀ w1 c1,ZN w1 b o T c1 (upd f 1 (iV ((κ : Int) + 1))) -> YC w1 B cap (l) -> Calls Tryz.prog 144 #[pP b o,eV t n k m g p r L.p who] w1 fun e w'=>e = .returned (.tuple #[]) /\ (∃ cs',ZN w' b o T cs' f') /\ Only (fun y=>y = b) w1 w') :
 Calls Tryz.prog 99 #[pP b o,eV t n k m g p r L.p who] w fun e w'=>e = .returned (.tuple #[]) /\ Z9 w' L ((s.by who).step (2 + κ) x) /\ Only (fun y=>L.and b y \/ y = B) w w' /\ ∃ cs',ZN w' b o T cs' f':=by
 have hn : 6 < s.n:=by
  have : 6 + t + n * 2 + k * 3 + k * m <= s.n:=hl
  have:=hG.k0
  omega
 have HU : Hid (s.wd (2 + κ) = x):=hu
 have HX : Hid (x = 0):=hx
 have hk1:=hG.k1
 have hw1 : wrap64 ((κ : Int) + 1) = (κ : Int) + 1:=by unfold wrap64;omega
 have hcl : IntKind.u64.wrap (N : Int) = (N : Int):=by rw [IntKind.wrap_u64];omega
 have hlt : decide ((18446744073709551615 : Int) < (N : Int)) = false:=decide_eq_false (by omega)
 clear hu hx
 have hx1 : IntKind.u64.wrap (x - 1) = 18446744073709551615:=by rw [HX.out];rfl
 obtain ⟨hbv,hbb⟩:=nb h hi.lt
 have Ux : ¬ w.heap.size = B:=fun hh=>by have:=hS.lt;omega
 have hbB : ¬ L.and B b:=fun hh=>hh.elim hb hBb
 go_enter Tryz.func99,Tryz.ntmps99
 go_wp2
 refine ZY (fun W=>Z9 W L s /\ ZN W b o T cs f /\ YC W B cap l /\ ZV W w.heap.size t n k m g p r L.p who /\ Only (L.and b) w W) ⟨h.alloc _,hi.grown (Zh _ _),hS.grown (Zh _ _),ZV.new,(Only.refl _ _).alloc _⟩ ?_
 rintro W ⟨m1,i1,S1,v1,o1⟩
 clear hS
 apply Yc 6;· kernel_rfl
 apply rV;· intro w' hg _;apply ol;have y:=(v1.dg hg).yy;go_simp;exact gl
 iterate 3 (apply rV;· intros;apply ol;go_simp;exact gl)
 apply rV;· intro w' hg _;apply ol;have z0:=(i1.drew.grown hg).ZP 1 f1;go_simp;exact gl
 apply Zb (c:=iV ((2 + κ : Nat) : Int));· intro w' hg _;apply ol;go_simp;refine (Ya (κ : Int) _ (by omega) (by omega)).mono ?_;rintro e w'' ⟨rfl,rfl⟩;exact ⟨_,rfl,Grown.refl _,congrArg (Value.int .i64) (by omega)⟩
 try simp only [pu,s0,s1]
 intro w5 hg _
 have m5:=m1.drew.below hg
 have i5:=i1.drew.grown hg
 have v5:=v1.dg hg
 have o5:=o1.og hg
 have S5:=S1.drew.grown hg
 clear S1 hg m1 i1 v1 o1
 go_wp2_with (go_at_call 53;refine (ZK m5 _ _ _ _ _ _ _ _ (2 + κ) (by omega)).mono ?_;rintro e w6 ⟨rfl,m6,o6⟩;rw [HU.out];rw [HU.out] at m6)
 refine ZY (fun W=>Z9 W L ((s.by who).step (2 + κ) x) /\ ZN W b o T cs f /\ YC W B cap l /\ ZV W w.heap.size t n k m g p r L.p who /\ Only (fun y=>L.and b y \/ y = B) w W) ⟨m6,i5.only o6 hb,S5.only o6 hBL,v5.only o6 hbv,(o5.trans (o6.Y4 (b:=b))).mono (fun _ _ hh=>Or.inl hh)⟩ ?_
 clear m6 i5 S5 o5 o6 v5 m5
 rintro W2 ⟨m2,i2,S2,v2,o2⟩
 have k1:=i2.ZP 1 f1
 have k2:=i2.ZP 2 f2
 go_region
 replace m2:=m2.drew
 replace i2:=i2.drew
 replace S2:=S2.drew
 replace v2:=v2.grown ((Below.refl _ _).drew)
 replace o2:=o2.drew
 clear k1 k2
 generalize W2.drew = W3 at m2 i2 S2 v2 o2 ⊢
 have k1:=i2.ZP 1 f1
 have kf:=i2.fz
 have I2:=i2.set 1 (iV ((κ : Int) + 1))
 have M2:=m2.Z4 hb (o + 1) (iV ((κ : Int) + 1))
 have T2:=S2.of_block (Go.Deep.blk_setCell_other _ ⟨b,o + 1,none⟩ (iV ((κ : Int) + 1)) B (by simpa using hBb.symm))
 have O2:=o2.setCell (a:=⟨b,o + 1,none⟩) (fun _=>Or.inl (Or.inr rfl)) (iV ((κ : Int) + 1))
 have V2:=v2.Z4 hbb (o + 1) (iV ((κ : Int) + 1))
 have e1 : (W3.setCell ⟨b,o + 1,none⟩ (iV ((κ : Int) + 1))).cell? ⟨b,o + 1,none⟩ = some (iV ((κ : Int) + 1)):=I2.ZP 1 rfl
 have hge : decide ((κ : Int) + 1 ≥ 4) = true:=decide_eq_true (by omega)
 obtain ⟨y0,y1,y2,y3,y4,y5,y6,y7,y8⟩:=id V2
 go_wp2_with (go_at_call 144;refine (hch _ _ I2 T2).mono ?_;rintro e w7 ⟨rfl,i7,o7⟩)
 go_end0
 exact ⟨rfl,M2.and hb o7,O2.trans (o7.mono (fun _ _ e=>Or.inl (Or.inr e))),i7⟩
set_option maxRecDepth 20000 in
theorem Dy (h : Z9 w L s) (hb : ¬ L.has b) (hi : ZN w b o T cs f) (who : Int) (hG : Good t n k m g p r) (hl : ZR t n k m <= s.n) {κ : Nat} (hκ : κ < 3) (f1 : f 1 = iV κ) {B cap N : Nat} (hN : N <= 1000) (f2 : f 2 = .slice (some ⟨B,0,none⟩) N cap) (hBb : b ≠ B) (hBL : ¬ L.has B) {l : List Sn} (hS : YC w B cap l) {x : Int} (hu : s.wd (2 + κ) = x) {j : Nat} {q : Sn} (hq : l[j]? = some q) (hjN : j < N) (hx : x = (j : Int) + 1) (hqk : (q.cl == (κ : Int)) = true) :
 Calls Tryz.prog 99 #[pP b o,eV t n k m g p r L.p who] w fun e w'=>e = .returned (.tuple #[]) /\ ∃ cs',Z9 w' L ((s.by who).step (2 + κ) x) /\ ZN w' b o T cs' (upd f 1 (iV ((κ : Int) + 1))) /\ YC w' B cap (l.set j { q with op:=true }) /\ Only (fun y=>L.and b y \/ y = B) w w':=by
 have hn : 6 < s.n:=by
  have : 6 + t + n * 2 + k * 3 + k * m <= s.n:=hl
  have:=hG.k0
  omega
 have HU : Hid (s.wd (2 + κ) = x):=hu
 have HX : Hid (x = (j : Int) + 1):=hx
 have hk1:=hG.k1
 have hw1 : wrap64 ((κ : Int) + 1) = (κ : Int) + 1:=by unfold wrap64;omega
 have hcl : IntKind.u64.wrap (N : Int) = (N : Int):=by rw [IntKind.wrap_u64];omega
 have hlt : decide ((j : Int) < (N : Int)) = true:=decide_eq_true (by omega)
 clear hu hx
 have hx1 : IntKind.u64.wrap (x - 1) = (j : Int):=by rw [HX.out,IntKind.wrap_u64];omega
 obtain ⟨hbv,hbb⟩:=nb h hi.lt
 have Ux : ¬ w.heap.size = B:=fun hh=>by have:=hS.lt;omega
 have hbB : ¬ L.and B b:=fun hh=>hh.elim hb hBb
 go_enter Tryz.func99,Tryz.ntmps99
 go_wp2
 refine ZY (fun W=>Z9 W L s /\ ZN W b o T cs f /\ YC W B cap l /\ ZV W w.heap.size t n k m g p r L.p who /\ Only (L.and b) w W) ⟨h.alloc _,hi.grown (Zh _ _),hS.grown (Zh _ _),ZV.new,(Only.refl _ _).alloc _⟩ ?_
 rintro W ⟨m1,i1,S1,v1,o1⟩
 clear hS
 apply Yc 6;· kernel_rfl
 apply rV;· intro w' hg _;apply ol;have y:=(v1.dg hg).yy;go_simp;exact gl
 iterate 3 (apply rV;· intros;apply ol;go_simp;exact gl)
 apply rV;· intro w' hg _;apply ol;have z0:=(i1.drew.grown hg).ZP 1 f1;go_simp;exact gl
 apply Zb (c:=iV ((2 + κ : Nat) : Int));· intro w' hg _;apply ol;go_simp;refine (Ya (κ : Int) _ (by omega) (by omega)).mono ?_;rintro e w'' ⟨rfl,rfl⟩;exact ⟨_,rfl,Grown.refl _,congrArg (Value.int .i64) (by omega)⟩
 try simp only [pu,s0,s1]
 intro w5 hg _
 have m5:=m1.drew.below hg
 have i5:=i1.drew.grown hg
 have v5:=v1.dg hg
 have o5:=o1.og hg
 have S5:=S1.drew.grown hg
 clear S1 hg m1 i1 v1 o1
 go_wp2_with (go_at_call 53;refine (ZK m5 _ _ _ _ _ _ _ _ (2 + κ) (by omega)).mono ?_;rintro e w6 ⟨rfl,m6,o6⟩;rw [HU.out];rw [HU.out] at m6)
 refine ZY (fun W=>Z9 W L ((s.by who).step (2 + κ) x) /\ ZN W b o T cs f /\ YC W B cap l /\ ZV W w.heap.size t n k m g p r L.p who /\ Only (fun y=>L.and b y \/ y = B) w W) ⟨m6,i5.only o6 hb,S5.only o6 hBL,v5.only o6 hbv,(o5.trans (o6.Y4 (b:=b))).mono (fun _ _ hh=>Or.inl hh)⟩ ?_
 clear m6 i5 S5 o5 o6 v5 m5
 rintro W2 ⟨m2,i2,S2,v2,o2⟩
 have k1:=i2.ZP 1 f1
 have k2:=i2.ZP 2 f2
 have z1:=(S2.at' hq).2.1
 go_region
 replace m2:=m2.drew
 replace i2:=i2.drew
 replace S2:=S2.drew
 replace v2:=v2.grown ((Below.refl _ _).drew)
 replace o2:=o2.drew
 clear k1 k2 z1
 generalize W2.drew = W3 at m2 i2 S2 v2 o2 ⊢
 have k1:=i2.ZP 1 f1
 have kf:=i2.fz
 have k2:=i2.ZP 2 f2
 have z1:=(S2.at' hq).2.2.2.2.2
 obtain ⟨c9,q9,-,-⟩:=S2.ex
 have z2:=fun i=>Zc q9 i
 have hjN : (j : Int) < (N : Int):=by omega
 clear k1 kf
 have m3:=m2.Z4 hBL (j * 6 + 5) (.bool true)
 have i3:=i2.other hBb (j * 6 + 5) (.bool true)
 have S3 : YC (W3.setCell ⟨B,j * 6 + 5,none⟩ (.bool true)) B cap (l.set j { q with op:=true }):=S2.put hq (by decide) rfl
 have v3:=v2.Z4 Ux (j * 6 + 5) (.bool true)
 have o3:=o2.setCell (a:=⟨B,j * 6 + 5,none⟩) (fun _=>Or.inr rfl) (.bool true)
 clear m2 i2 S2 v2 o2
 have k1:=i3.ZP 1 f1
 have kf:=i3.fz
 have m2:=m3
 have i2:=i3
 have S2:=S3
 have v2:=v3
 have o2:=o3
 have I2:=i2.set 1 (iV ((κ : Int) + 1))
 have M2:=m2.Z4 hb (o + 1) (iV ((κ : Int) + 1))
 have T2:=S2.of_block (Go.Deep.blk_setCell_other _ ⟨b,o + 1,none⟩ (iV ((κ : Int) + 1)) B (by simpa using hBb.symm))
 have O2:=o2.setCell (a:=⟨b,o + 1,none⟩) (fun _=>Or.inl (Or.inr rfl)) (iV ((κ : Int) + 1))
 have V2:=v2.Z4 hbb (o + 1) (iV ((κ : Int) + 1))
 have e1 : ((W3.setCell ⟨B,j * 6 + 5,none⟩ (.bool true)).setCell ⟨b,o + 1,none⟩ (iV ((κ : Int) + 1))).cell? ⟨b,o + 1,none⟩ = some (iV ((κ : Int) + 1)):=I2.ZP 1 rfl
 have hge : decide ((κ : Int) + 1 ≥ 4) = false:=decide_eq_false (by omega)
 go_wp2
 go_end0
 exact ⟨rfl,_,M2,I2,T2,O2⟩
set_option maxRecDepth 20000 in
theorem G8 (h : Z9 w L s) (hb : ¬ L.has b) (hi : ZN w b o T cs f) (who : Int) (hG : Good t n k m g p r) (hl : ZR t n k m <= s.n) {κ : Nat} (hκ : 3 <= κ /\ κ < 4) (f1 : f 1 = iV κ) {B cap N : Nat} (hN : N <= 1000) (f2 : f 2 = .slice (some ⟨B,0,none⟩) N cap) (hBb : b ≠ B) (hBL : ¬ L.has B) {l : List Sn} (hS : YC w B cap l) {x : Int} (hu : s.wd (2 + κ) = x) {j : Nat} {q : Sn} (hq : l[j]? = some q) (hjN : j < N) (hx : x = (j : Int) + 1) (hqk : (q.cl == (κ : Int)) = true) (f' : Nat -> Value) (hch : ∀ w1 c1,ZN w1 b o T c1 (upd f 1 (iV ((κ : Int) + 1))) -> YC w1 B cap (l.set j { q with op:=true }) -> Calls Tryz.prog 144 #[pP b o,eV t n k m g p r L.p who] w1 fun e w'=>e = .returned (.tuple #[]) /\ (∃ cs',ZN w' b o T cs' f') /\ Only (fun y=>y = b) w1 w') :
 Calls Tryz.prog 99 #[pP b o,eV t n k m g p r L.p who] w fun e w'=>e = .returned (.tuple #[]) /\ Z9 w' L ((s.by who).step (2 + κ) x) /\ Only (fun y=>L.and b y \/ y = B) w w' /\ ∃ cs',ZN w' b o T cs' f':=by
 have hn : 6 < s.n:=by
  have : 6 + t + n * 2 + k * 3 + k * m <= s.n:=hl
  have:=hG.k0
  omega
 have HU : Hid (s.wd (2 + κ) = x):=hu
 have HX : Hid (x = (j : Int) + 1):=hx
 have hk1:=hG.k1
 have hw1 : wrap64 ((κ : Int) + 1) = (κ : Int) + 1:=by unfold wrap64;omega
 have hcl : IntKind.u64.wrap (N : Int) = (N : Int):=by rw [IntKind.wrap_u64];omega
 have hlt : decide ((j : Int) < (N : Int)) = true:=decide_eq_true (by omega)
 clear hu hx
 have hx1 : IntKind.u64.wrap (x - 1) = (j : Int):=by rw [HX.out,IntKind.wrap_u64];omega
 obtain ⟨hbv,hbb⟩:=nb h hi.lt
 have Ux : ¬ w.heap.size = B:=fun hh=>by have:=hS.lt;omega
 have hbB : ¬ L.and B b:=fun hh=>hh.elim hb hBb
 go_enter Tryz.func99,Tryz.ntmps99
 go_wp2
 refine ZY (fun W=>Z9 W L s /\ ZN W b o T cs f /\ YC W B cap l /\ ZV W w.heap.size t n k m g p r L.p who /\ Only (L.and b) w W) ⟨h.alloc _,hi.grown (Zh _ _),hS.grown (Zh _ _),ZV.new,(Only.refl _ _).alloc _⟩ ?_
 rintro W ⟨m1,i1,S1,v1,o1⟩
 clear hS
 apply Yc 6;· kernel_rfl
 apply rV;· intro w' hg _;apply ol;have y:=(v1.dg hg).yy;go_simp;exact gl
 iterate 3 (apply rV;· intros;apply ol;go_simp;exact gl)
 apply rV;· intro w' hg _;apply ol;have z0:=(i1.drew.grown hg).ZP 1 f1;go_simp;exact gl
 apply Zb (c:=iV ((2 + κ : Nat) : Int));· intro w' hg _;apply ol;go_simp;refine (Ya (κ : Int) _ (by omega) (by omega)).mono ?_;rintro e w'' ⟨rfl,rfl⟩;exact ⟨_,rfl,Grown.refl _,congrArg (Value.int .i64) (by omega)⟩
 try simp only [pu,s0,s1]
 intro w5 hg _
 have m5:=m1.drew.below hg
 have i5:=i1.drew.grown hg
 have v5:=v1.dg hg
 have o5:=o1.og hg
 have S5:=S1.drew.grown hg
 clear S1 hg m1 i1 v1 o1
 go_wp2_with (go_at_call 53;refine (ZK m5 _ _ _ _ _ _ _ _ (2 + κ) (by omega)).mono ?_;rintro e w6 ⟨rfl,m6,o6⟩;rw [HU.out];rw [HU.out] at m6)
 refine ZY (fun W=>Z9 W L ((s.by who).step (2 + κ) x) /\ ZN W b o T cs f /\ YC W B cap l /\ ZV W w.heap.size t n k m g p r L.p who /\ Only (fun y=>L.and b y \/ y = B) w W) ⟨m6,i5.only o6 hb,S5.only o6 hBL,v5.only o6 hbv,(o5.trans (o6.Y4 (b:=b))).mono (fun _ _ hh=>Or.inl hh)⟩ ?_
 clear m6 i5 S5 o5 o6 v5 m5
 rintro W2 ⟨m2,i2,S2,v2,o2⟩
 have k1:=i2.ZP 1 f1
 have k2:=i2.ZP 2 f2
 have z1:=(S2.at' hq).2.1
 go_region
 replace m2:=m2.drew
 replace i2:=i2.drew
 replace S2:=S2.drew
 replace v2:=v2.grown ((Below.refl _ _).drew)
 replace o2:=o2.drew
 clear k1 k2 z1
 generalize W2.drew = W3 at m2 i2 S2 v2 o2 ⊢
 have k1:=i2.ZP 1 f1
 have kf:=i2.fz
 have k2:=i2.ZP 2 f2
 have z1:=(S2.at' hq).2.2.2.2.2
 obtain ⟨c9,q9,-,-⟩:=S2.ex
 have z2:=fun i=>Zc q9 i
 have hjN : (j : Int) < (N : Int):=by omega
 clear k1 kf
 have m3:=m2.Z4 hBL (j * 6 + 5) (.bool true)
 have i3:=i2.other hBb (j * 6 + 5) (.bool true)
 have S3 : YC (W3.setCell ⟨B,j * 6 + 5,none⟩ (.bool true)) B cap (l.set j { q with op:=true }):=S2.put hq (by decide) rfl
 have v3:=v2.Z4 Ux (j * 6 + 5) (.bool true)
 have o3:=o2.setCell (a:=⟨B,j * 6 + 5,none⟩) (fun _=>Or.inr rfl) (.bool true)
 clear m2 i2 S2 v2 o2
 have k1:=i3.ZP 1 f1
 have kf:=i3.fz
 have m2:=m3
 have i2:=i3
 have S2:=S3
 have v2:=v3
 have o2:=o3
 have I2:=i2.set 1 (iV ((κ : Int) + 1))
 have M2:=m2.Z4 hb (o + 1) (iV ((κ : Int) + 1))
 have T2:=S2.of_block (Go.Deep.blk_setCell_other _ ⟨b,o + 1,none⟩ (iV ((κ : Int) + 1)) B (by simpa using hBb.symm))
 have O2:=o2.setCell (a:=⟨b,o + 1,none⟩) (fun _=>Or.inl (Or.inr rfl)) (iV ((κ : Int) + 1))
 have V2:=v2.Z4 hbb (o + 1) (iV ((κ : Int) + 1))
 have e1 : ((W3.setCell ⟨B,j * 6 + 5,none⟩ (.bool true)).setCell ⟨b,o + 1,none⟩ (iV ((κ : Int) + 1))).cell? ⟨b,o + 1,none⟩ = some (iV ((κ : Int) + 1)):=I2.ZP 1 rfl
 have hge : decide ((κ : Int) + 1 ≥ 4) = true:=decide_eq_true (by omega)
 obtain ⟨y0,y1,y2,y3,y4,y5,y6,y7,y8⟩:=id V2
 go_wp2_with (go_at_call 144;refine (hch _ _ I2 T2).mono ?_;rintro e w7 ⟨rfl,i7,o7⟩)
 go_end0
 exact ⟨rfl,M2.and hb o7,O2.trans (o7.mono (fun _ _ e=>Or.inl (Or.inr e))),i7⟩
set_option maxRecDepth 20000 in
theorem Ky (h : Z9 w L s) (hb : ¬ L.has b) (hi : ZN w b o T cs f) (who : Int) (hG : Good t n k m g p r) (hl : ZR t n k m <= s.n) {κ : Nat} (hκ : κ < 3) (f1 : f 1 = iV κ) {B cap N : Nat} (hN : N <= 1000) (f2 : f 2 = .slice (some ⟨B,0,none⟩) N cap) (hBb : b ≠ B) (hBL : ¬ L.has B) {l : List Sn} (hS : YC w B cap l) {x : Int} (hu : s.wd (2 + κ) = x) {j : Nat} {q : Sn} (hq : l[j]? = some q) (hjN : j < N) (hx : x = (j : Int) + 1) (hqk : (q.cl == (κ : Int)) = false) :
 Calls Tryz.prog 99 #[pP b o,eV t n k m g p r L.p who] w fun e w'=>e = .returned (.tuple #[]) /\ ∃ cs',Z9 w' L ((s.by who).step (2 + κ) x) /\ ZN w' b o T cs' (upd f 1 (iV ((κ : Int) + 1))) /\ YC w' B cap (l) /\ Only (fun y=>L.and b y \/ y = B) w w':=by
 have hn : 6 < s.n:=by
  have : 6 + t + n * 2 + k * 3 + k * m <= s.n:=hl
  have:=hG.k0
  omega
 have HU : Hid (s.wd (2 + κ) = x):=hu
 have HX : Hid (x = (j : Int) + 1):=hx
 have hk1:=hG.k1
 have hw1 : wrap64 ((κ : Int) + 1) = (κ : Int) + 1:=by unfold wrap64;omega
 have hcl : IntKind.u64.wrap (N : Int) = (N : Int):=by rw [IntKind.wrap_u64];omega
 have hlt : decide ((j : Int) < (N : Int)) = true:=decide_eq_true (by omega)
 clear hu hx
 have hx1 : IntKind.u64.wrap (x - 1) = (j : Int):=by rw [HX.out,IntKind.wrap_u64];omega
 obtain ⟨hbv,hbb⟩:=nb h hi.lt
 have Ux : ¬ w.heap.size = B:=fun hh=>by have:=hS.lt;omega
 have hbB : ¬ L.and B b:=fun hh=>hh.elim hb hBb
 go_enter Tryz.func99,Tryz.ntmps99
 go_wp2
 refine ZY (fun W=>Z9 W L s /\ ZN W b o T cs f /\ YC W B cap l /\ ZV W w.heap.size t n k m g p r L.p who /\ Only (L.and b) w W) ⟨h.alloc _,hi.grown (Zh _ _),hS.grown (Zh _ _),ZV.new,(Only.refl _ _).alloc _⟩ ?_
 rintro W ⟨m1,i1,S1,v1,o1⟩
 clear hS
 apply Yc 6;· kernel_rfl
 apply rV;· intro w' hg _;apply ol;have y:=(v1.dg hg).yy;go_simp;exact gl
 iterate 3 (apply rV;· intros;apply ol;go_simp;exact gl)
 apply rV;· intro w' hg _;apply ol;have z0:=(i1.drew.grown hg).ZP 1 f1;go_simp;exact gl
 apply Zb (c:=iV ((2 + κ : Nat) : Int));· intro w' hg _;apply ol;go_simp;refine (Ya (κ : Int) _ (by omega) (by omega)).mono ?_;rintro e w'' ⟨rfl,rfl⟩;exact ⟨_,rfl,Grown.refl _,congrArg (Value.int .i64) (by omega)⟩
 try simp only [pu,s0,s1]
 intro w5 hg _
 have m5:=m1.drew.below hg
 have i5:=i1.drew.grown hg
 have v5:=v1.dg hg
 have o5:=o1.og hg
 have S5:=S1.drew.grown hg
 clear S1 hg m1 i1 v1 o1
 go_wp2_with (go_at_call 53;refine (ZK m5 _ _ _ _ _ _ _ _ (2 + κ) (by omega)).mono ?_;rintro e w6 ⟨rfl,m6,o6⟩;rw [HU.out];rw [HU.out] at m6)
 refine ZY (fun W=>Z9 W L ((s.by who).step (2 + κ) x) /\ ZN W b o T cs f /\ YC W B cap l /\ ZV W w.heap.size t n k m g p r L.p who /\ Only (fun y=>L.and b y \/ y = B) w W) ⟨m6,i5.only o6 hb,S5.only o6 hBL,v5.only o6 hbv,(o5.trans (o6.Y4 (b:=b))).mono (fun _ _ hh=>Or.inl hh)⟩ ?_
 clear m6 i5 S5 o5 o6 v5 m5
 rintro W2 ⟨m2,i2,S2,v2,o2⟩
 have k1:=i2.ZP 1 f1
 have k2:=i2.ZP 2 f2
 have z1:=(S2.at' hq).2.1
 go_region
 replace m2:=m2.drew
 replace i2:=i2.drew
 replace S2:=S2.drew
 replace v2:=v2.grown ((Below.refl _ _).drew)
 replace o2:=o2.drew
 clear k1 k2 z1
 generalize W2.drew = W3 at m2 i2 S2 v2 o2 ⊢
 have k1:=i2.ZP 1 f1
 have kf:=i2.fz
 have I2:=i2.set 1 (iV ((κ : Int) + 1))
 have M2:=m2.Z4 hb (o + 1) (iV ((κ : Int) + 1))
 have T2:=S2.of_block (Go.Deep.blk_setCell_other _ ⟨b,o + 1,none⟩ (iV ((κ : Int) + 1)) B (by simpa using hBb.symm))
 have O2:=o2.setCell (a:=⟨b,o + 1,none⟩) (fun _=>Or.inl (Or.inr rfl)) (iV ((κ : Int) + 1))
 have V2:=v2.Z4 hbb (o + 1) (iV ((κ : Int) + 1))
 have e1 : (W3.setCell ⟨b,o + 1,none⟩ (iV ((κ : Int) + 1))).cell? ⟨b,o + 1,none⟩ = some (iV ((κ : Int) + 1)):=I2.ZP 1 rfl
 have hge : decide ((κ : Int) + 1 ≥ 4) = false:=decide_eq_false (by omega)
 go_wp2
 go_end0
 exact ⟨rfl,_,M2,I2,T2,O2⟩
set_option maxRecDepth 20000 in
theorem Nu (h : Z9 w L s) (hb : ¬ L.has b) (hi : ZN w b o T cs f) (who : Int) (hG : Good t n k m g p r) (hl : ZR t n k m <= s.n) {κ : Nat} (hκ : 3 <= κ /\ κ < 4) (f1 : f 1 = iV κ) {B cap N : Nat} (hN : N <= 1000) (f2 : f 2 = .slice (some ⟨B,0,none⟩) N cap) (hBb : b ≠ B) (hBL : ¬ L.has B) {l : List Sn} (hS : YC w B cap l) {x : Int} (hu : s.wd (2 + κ) = x) {j : Nat} {q : Sn} (hq : l[j]? = some q) (hjN : j < N) (hx : x = (j : Int) + 1) (hqk : (q.cl == (κ : Int)) = false) (f' : Nat -> Value) (hch : ∀ w1 c1,ZN w1 b o T c1 (upd f 1 (iV ((κ : Int) + 1))) -> YC w1 B cap (l) -> Calls Tryz.prog 144 #[pP b o,eV t n k m g p r L.p who] w1 fun e w'=>e = .returned (.tuple #[]) /\ (∃ cs',ZN w' b o T cs' f') /\ Only (fun y=>y = b) w1 w') :
 Calls Tryz.prog 99 #[pP b o,eV t n k m g p r L.p who] w fun e w'=>e = .returned (.tuple #[]) /\ Z9 w' L ((s.by who).step (2 + κ) x) /\ Only (fun y=>L.and b y \/ y = B) w w' /\ ∃ cs',ZN w' b o T cs' f':=by
 have hn : 6 < s.n:=by
  have : 6 + t + n * 2 + k * 3 + k * m <= s.n:=hl
  have:=hG.k0
  omega
 have HU : Hid (s.wd (2 + κ) = x):=hu
 have HX : Hid (x = (j : Int) + 1):=hx
 have hk1:=hG.k1
 have hw1 : wrap64 ((κ : Int) + 1) = (κ : Int) + 1:=by unfold wrap64;omega
 have hcl : IntKind.u64.wrap (N : Int) = (N : Int):=by rw [IntKind.wrap_u64];omega
 have hlt : decide ((j : Int) < (N : Int)) = true:=decide_eq_true (by omega)
 clear hu hx
 have hx1 : IntKind.u64.wrap (x - 1) = (j : Int):=by rw [HX.out,IntKind.wrap_u64];omega
 obtain ⟨hbv,hbb⟩:=nb h hi.lt
 have Ux : ¬ w.heap.size = B:=fun hh=>by have:=hS.lt;omega
 have hbB : ¬ L.and B b:=fun hh=>hh.elim hb hBb
 go_enter Tryz.func99,Tryz.ntmps99
 go_wp2
 refine ZY (fun W=>Z9 W L s /\ ZN W b o T cs f /\ YC W B cap l /\ ZV W w.heap.size t n k m g p r L.p who /\ Only (L.and b) w W) ⟨h.alloc _,hi.grown (Zh _ _),hS.grown (Zh _ _),ZV.new,(Only.refl _ _).alloc _⟩ ?_
 rintro W ⟨m1,i1,S1,v1,o1⟩
 clear hS
 apply Yc 6;· kernel_rfl
 apply rV;· intro w' hg _;apply ol;have y:=(v1.dg hg).yy;go_simp;exact gl
 iterate 3 (apply rV;· intros;apply ol;go_simp;exact gl)
 apply rV;· intro w' hg _;apply ol;have z0:=(i1.drew.grown hg).ZP 1 f1;go_simp;exact gl
 apply Zb (c:=iV ((2 + κ : Nat) : Int));· intro w' hg _;apply ol;go_simp;refine (Ya (κ : Int) _ (by omega) (by omega)).mono ?_;rintro e w'' ⟨rfl,rfl⟩;exact ⟨_,rfl,Grown.refl _,congrArg (Value.int .i64) (by omega)⟩
 try simp only [pu,s0,s1]
 intro w5 hg _
 have m5:=m1.drew.below hg
 have i5:=i1.drew.grown hg
 have v5:=v1.dg hg
 have o5:=o1.og hg
 have S5:=S1.drew.grown hg
 clear S1 hg m1 i1 v1 o1
 go_wp2_with (go_at_call 53;refine (ZK m5 _ _ _ _ _ _ _ _ (2 + κ) (by omega)).mono ?_;rintro e w6 ⟨rfl,m6,o6⟩;rw [HU.out];rw [HU.out] at m6)
 refine ZY (fun W=>Z9 W L ((s.by who).step (2 + κ) x) /\ ZN W b o T cs f /\ YC W B cap l /\ ZV W w.heap.size t n k m g p r L.p who /\ Only (fun y=>L.and b y \/ y = B) w W) ⟨m6,i5.only o6 hb,S5.only o6 hBL,v5.only o6 hbv,(o5.trans (o6.Y4 (b:=b))).mono (fun _ _ hh=>Or.inl hh)⟩ ?_
 clear m6 i5 S5 o5 o6 v5 m5
 rintro W2 ⟨m2,i2,S2,v2,o2⟩
 have k1:=i2.ZP 1 f1
 have k2:=i2.ZP 2 f2
 have z1:=(S2.at' hq).2.1
 go_region
 replace m2:=m2.drew
 replace i2:=i2.drew
 replace S2:=S2.drew
 replace v2:=v2.grown ((Below.refl _ _).drew)
 replace o2:=o2.drew
 clear k1 k2 z1
 generalize W2.drew = W3 at m2 i2 S2 v2 o2 ⊢
 have k1:=i2.ZP 1 f1
 have kf:=i2.fz
 have I2:=i2.set 1 (iV ((κ : Int) + 1))
 have M2:=m2.Z4 hb (o + 1) (iV ((κ : Int) + 1))
 have T2:=S2.of_block (Go.Deep.blk_setCell_other _ ⟨b,o + 1,none⟩ (iV ((κ : Int) + 1)) B (by simpa using hBb.symm))
 have O2:=o2.setCell (a:=⟨b,o + 1,none⟩) (fun _=>Or.inl (Or.inr rfl)) (iV ((κ : Int) + 1))
 have V2:=v2.Z4 hbb (o + 1) (iV ((κ : Int) + 1))
 have e1 : (W3.setCell ⟨b,o + 1,none⟩ (iV ((κ : Int) + 1))).cell? ⟨b,o + 1,none⟩ = some (iV ((κ : Int) + 1)):=I2.ZP 1 rfl
 have hge : decide ((κ : Int) + 1 ≥ 4) = true:=decide_eq_true (by omega)
 obtain ⟨y0,y1,y2,y3,y4,y5,y6,y7,y8⟩:=id V2
 go_wp2_with (go_at_call 144;refine (hch _ _ I2 T2).mono ?_;rintro e w7 ⟨rfl,i7,o7⟩)
 go_end0
 exact ⟨rfl,M2.and hb o7,O2.trans (o7.mono (fun _ _ e=>Or.inl (Or.inr e))),i7⟩
end
section
set_option maxHeartbeats 1000000
set_option maxRecDepth 20000
variable {w : World} {L : Loc} {s : Mm} {b o : Nat} {T : TypeId} {cs : Array Value} {t n k m : Nat} {g p r : Int} {f : Nat -> Value}
set_option maxRecDepth 20000 in
theorem Dt (h : Z9 w L s) (hi : ZN w b o T cs f) (who : Int) (f0 : f 0 = iV 3) {i : Nat} (hik : i < k) (f3 : f 3 = iV i) (Z : World -> Prop) (hst : ∀ w1,Below w.heap.size w w1 -> Calls Tryz.prog 102 #[pP b o,eV t n k m g p r L.p who] w1 fun e w'=>e = .returned (.tuple #[]) /\ Z w') :
 Calls Tryz.prog 61 #[pP b o,eV t n k m g p r L.p who] w fun e w'=>e = .returned (.tuple #[]) /\ Z w':=by
 obtain ⟨hbv,hbb⟩:=nb h hi.lt
 go_enter Tryz.func61,Tryz.ntmps61
 go_wp2
 refine Qd b h (fun _ g=>hi.grown g) ?_
 rintro W ⟨m1,i1,v1,o1,g1⟩
 have k3:=i1.ZP 3 f3
 have y2:=v1.c2
 have hge : decide ((i : Int) ≥ (k : Int)) = false:=decide_eq_false (by omega)
 go_region
 clear k3 y2
 replace m1:=m1.drew
 replace i1:=i1.drew
 replace v1:=v1.grown ((Below.refl _ _).drew)
 replace o1:=o1.drew
 replace g1:=g1.trans ((Below.refl _ _).drew)
 generalize W.drew = W at m1 i1 v1 o1 g1 ⊢
 go_wp2
 have k0:=i1.c_0 f0
 go_region
 clear k0
 replace m1:=m1.drew
 replace i1:=i1.drew
 replace v1:=v1.grown ((Below.refl _ _).drew)
 replace o1:=o1.drew
 replace g1:=g1.trans ((Below.refl _ _).drew)
 generalize W.drew = W at m1 i1 v1 o1 g1 ⊢
 have k0:=i1.c_0 f0
 obtain ⟨y0,y1,y2,y3,y4,y5,y6,y7,y8⟩:=id v1
 go_wp2_with (go_at_call 102;refine (hst _ g1).mono ?_;rintro e w9 ⟨rfl,z9⟩)
 go_end0
 exact ⟨rfl,z9⟩
set_option maxRecDepth 20000 in
theorem zh (h : Z9 w L s) (hi : ZN w b o T cs f) (who : Int) (f0 : f 0 = iV 5) {i : Nat} (hik : i < k) (f3 : f 3 = iV i) (Z : World -> Prop) (hst : ∀ w1,Below w.heap.size w w1 -> Calls Tryz.prog 104 #[pP b o,eV t n k m g p r L.p who] w1 fun e w'=>e = .returned (.tuple #[]) /\ Z w') :
 Calls Tryz.prog 61 #[pP b o,eV t n k m g p r L.p who] w fun e w'=>e = .returned (.tuple #[]) /\ Z w':=by
 obtain ⟨hbv,hbb⟩:=nb h hi.lt
 go_enter Tryz.func61,Tryz.ntmps61
 go_wp2
 refine Qd b h (fun _ g=>hi.grown g) ?_
 rintro W ⟨m1,i1,v1,o1,g1⟩
 have k3:=i1.ZP 3 f3
 have y2:=v1.c2
 have hge : decide ((i : Int) ≥ (k : Int)) = false:=decide_eq_false (by omega)
 go_region
 clear k3 y2
 replace m1:=m1.drew
 replace i1:=i1.drew
 replace v1:=v1.grown ((Below.refl _ _).drew)
 replace o1:=o1.drew
 replace g1:=g1.trans ((Below.refl _ _).drew)
 generalize W.drew = W at m1 i1 v1 o1 g1 ⊢
 go_wp2
 have k0:=i1.c_0 f0
 go_region
 clear k0
 replace m1:=m1.drew
 replace i1:=i1.drew
 replace v1:=v1.grown ((Below.refl _ _).drew)
 replace o1:=o1.drew
 replace g1:=g1.trans ((Below.refl _ _).drew)
 generalize W.drew = W at m1 i1 v1 o1 g1 ⊢
 have k0:=i1.c_0 f0
 obtain ⟨y0,y1,y2,y3,y4,y5,y6,y7,y8⟩:=id v1
 go_wp2_with (go_at_call 104;refine (hst _ g1).mono ?_;rintro e w9 ⟨rfl,z9⟩)
 go_end0
 exact ⟨rfl,z9⟩
set_option maxRecDepth 20000 in
theorem Dq (h : Z9 w L s) (hi : ZN w b o T cs f) (who : Int) (f0 : f 0 = iV 4) {i : Nat} (hik : i < k) (f3 : f 3 = iV i) {u U : Nat} (f8 : f 8 = iV u) (f6 : f 6 = iV U) (hU : U <= m) (hu : u < U) (Z : World -> Prop) (hst : ∀ w1,Below w.heap.size w w1 -> Calls Tryz.prog 103 #[pP b o,eV t n k m g p r L.p who] w1 fun e w'=>e = .returned (.tuple #[]) /\ Z w') :
 Calls Tryz.prog 61 #[pP b o,eV t n k m g p r L.p who] w fun e w'=>e = .returned (.tuple #[]) /\ Z w':=by
 obtain ⟨hbv,hbb⟩:=nb h hi.lt
 go_enter Tryz.func61,Tryz.ntmps61
 go_wp2
 refine Qd b h (fun _ g=>hi.grown g) ?_
 rintro W ⟨m1,i1,v1,o1,g1⟩
 have k3:=i1.ZP 3 f3
 have y2:=v1.c2
 have hge : decide ((i : Int) ≥ (k : Int)) = false:=decide_eq_false (by omega)
 go_region
 clear k3 y2
 replace m1:=m1.drew
 replace i1:=i1.drew
 replace v1:=v1.grown ((Below.refl _ _).drew)
 replace o1:=o1.drew
 replace g1:=g1.trans ((Below.refl _ _).drew)
 generalize W.drew = W at m1 i1 v1 o1 g1 ⊢
 go_wp2
 apply Xr;· kernel_rfl
 iterate 3 (apply rV;· intros;apply ol;go_simp;exact gl)
 apply rV;· intro w' hg _;apply ol;have z0:=(i1.drew.grown hg).c_0 f0;go_simp;exact gl
 iterate 2 (apply rV;· intros;apply ol;go_simp;exact gl)
 try simp only [pu,s0,s1]
 iterate 3 (apply rV;· intros;apply ol;go_simp;exact gl)
 apply rV;· intro w' hg _;apply ol;have z0:=(i1.drew.grown hg).ZP 8 f8;go_simp;exact gl
 apply rV;· intros;apply ol;go_simp;exact gl
 apply rV;· intro w' hg _;apply ol;have y:=(v1.dg hg).yy;go_simp;exact gl
 try simp only [pu,s0,s1]
 apply rV;· intro w' hg _;apply ol;go_simp;exact cb (Uu ((i1.drew.grown hg).ZP 6 f6) hU L.p who)
 apply rV (c:=.bool false);· intro w' hg _;apply ol;go_simp;exact ⟨Grown.refl _,by first | rfl | exact congrArg Value.bool (decide_eq_false (by omega))⟩
 apply Zb;· intros;apply ol;go_simp;exact gl
 try simp only [pu,s0,s1]
 intro w5 hg _
 replace m1:=m1.drew.below hg
 replace i1:=i1.drew.grown hg
 replace v1:=v1.dg hg
 replace o1 : Only (L.and b) w w5:=o1.drew.trans (Only.ZZ hg)
 replace g1 : Below w.heap.size w w5:=grow (g1.trans ((Below.refl _ _).drew)) hg
 clear hg
 have k0:=i1.c_0 f0
 obtain ⟨y0,y1,y2,y3,y4,y5,y6,y7,y8⟩:=id v1
 go_wp2_with (go_at_call 103;refine (hst _ g1).mono ?_;rintro e w9 ⟨rfl,z9⟩)
 go_end0
 exact ⟨rfl,z9⟩
set_option maxRecDepth 20000 in
theorem Dn (h : Z9 w L s) (hb : ¬ L.has b) (hi : ZN w b o T cs f) (who : Int) (f0 : f 0 = iV 4) {i : Nat} (hik : i < k) (f3 : f 3 = iV i) {u U : Nat} (f8 : f 8 = iV u) (f6 : f 6 = iV U) (hU : U <= m) (hu : U <= u) (hG : Good t n k m g p r) (hl : ZR t n k m <= s.n) {E : Int} (hE : s.wd 0 = E) :
 Calls Tryz.prog 61 #[pP b o,eV t n k m g p r L.p who] w fun e w'=>e = .returned (.tuple #[]) /\ Qb L b o T w w' (fun s' f'=>s' = (s.by who).step 0 E /\ f' = upd (upd (upd f 0 (iV 7)) 28 (.int .u64 E)) 0 (iV 8)):=by
 have hn : 6 + t < s.n:=by
  have : 6 + t + n * 2 + k * 3 + k * m <= s.n:=hl
  have:=hG.k0
  omega
 have HU : Hid (s.wd 0 = E):=hE
 clear hE
 obtain ⟨hbv,hbb⟩:=nb h hi.lt
 go_enter Tryz.func61,Tryz.ntmps61
 go_wp2
 refine Qd b h (fun _ g=>hi.grown g) ?_
 rintro W ⟨m1,i1,v1,o1,g1⟩
 have k3:=i1.ZP 3 f3
 have y2:=v1.c2
 have hge : decide ((i : Int) ≥ (k : Int)) = false:=decide_eq_false (by omega)
 go_region
 clear k3 y2
 replace m1:=m1.drew
 replace i1:=i1.drew
 replace v1:=v1.grown ((Below.refl _ _).drew)
 replace o1:=o1.drew
 replace g1:=g1.trans ((Below.refl _ _).drew)
 generalize W.drew = W at m1 i1 v1 o1 g1 ⊢
 go_wp2
 apply Xr;· kernel_rfl
 iterate 3 (apply rV;· intros;apply ol;go_simp;exact gl)
 apply rV;· intro w' hg _;apply ol;have z0:=(i1.drew.grown hg).c_0 f0;go_simp;exact gl
 iterate 2 (apply rV;· intros;apply ol;go_simp;exact gl)
 try simp only [pu,s0,s1]
 iterate 3 (apply rV;· intros;apply ol;go_simp;exact gl)
 apply rV;· intro w' hg _;apply ol;have z0:=(i1.drew.grown hg).ZP 8 f8;go_simp;exact gl
 apply rV;· intros;apply ol;go_simp;exact gl
 apply rV;· intro w' hg _;apply ol;have y:=(v1.dg hg).yy;go_simp;exact gl
 try simp only [pu,s0,s1]
 apply rV;· intro w' hg _;apply ol;go_simp;exact cb (Uu ((i1.drew.grown hg).ZP 6 f6) hU L.p who)
 apply rV (c:=.bool true);· intro w' hg _;apply ol;go_simp;exact ⟨Grown.refl _,by first | rfl | exact congrArg Value.bool (decide_eq_true (by omega))⟩
 apply Zb;· intros;apply ol;go_simp;exact gl
 try simp only [pu,s0,s1]
 intro w5 hg _
 replace m1:=m1.drew.below hg
 replace i1:=i1.drew.grown hg
 replace v1:=v1.dg hg
 replace o1 : Only (L.and b) w w5:=o1.drew.trans (Only.ZZ hg)
 replace g1 : Below w.heap.size w w5:=grow (g1.trans ((Below.refl _ _).drew)) hg
 clear hg
 have k0:=i1.c_0 f0
 have kf:=i1.fz
 have j1:=i1.set0 (iV 7)
 have l0 : (w5.setCell ⟨b,o,none⟩ (iV 7)).cell? ⟨b,o,none⟩ = some (iV 7):=j1.c_0 rfl
 go_wp2
 refine ZY (fun W=>Z9 W L s /\ ZN W b o T (cs.setIfInBounds o (iV 7)) (upd f 0 (iV 7)) /\ ZV W w.heap.size t n k m g p r L.p who /\ Only (L.and b) w W) ⟨m1.Z4 hb _ _,j1,v1.Z4 hbb _ _,o1.set _ _⟩ ?_
 clear m1 i1 v1 o1 g1 k0 kf j1 l0
 rintro W9 ⟨m1,i1,v1,o1⟩
 apply V3 (R:=ZX L b (o + 28)) (wZ L b o T (cs.setIfInBounds o (iV 7)) ((cs.setIfInBounds o (iV 7)).setIfInBounds (o + 28) (.int .u64 E)) s ((s.by who).step 0 E) (upd f 0 (iV 7)) (upd (upd f 0 (iV 7)) 28 (.int .u64 E))) [3,6] Uf KQ ⟨m1.drew,i1.drew⟩;· kernel_rfl
 apply pV;· intros;apply ol;go_simp;exact gl
 apply pV;· intro w' hR _;apply ol;have y:=(v1.dn hR.only hbv hbb).yy;go_simp;exact gl
 apply pV;· intro w' hR _;apply ol;go_simp;exact cc (WI _)
 apply pV (c:=.int .u64 E);· intro w' hR _ hP;apply ol;go_simp;refine (ZK (s:=s) hP.1 _ _ _ _ _ _ _ _ 0 (by omega)).mono ?_;rintro e w'' ⟨rfl,m2,o2⟩;rw [HU.out] at m2;exact ⟨_,rfl,⟨ZX.Zj o2 hb,m2,hP.2.only o2 hb⟩,by simp [Want.pred,HU.out]⟩
 iterate 2 (apply pV;· intros;apply ol;go_simp;exact gl)
 try simp only [pu,s0,s1]
 apply U4;· intro w' hR _ hP;apply ol;have z0:=hP.2.ZP 28 rfl;have z1:=hP.2.fz;go_simp;exact ⟨⟨ZX.set _ _,hP.1.Z4 hb _ _,hP.2.set 28 _⟩,trivial⟩
 try simp only [pn]
 intro vv w2 hR hP _
 obtain ⟨m2,i2⟩ : Z9 w2 L ((s.by who).step 0 E) /\ ZN w2 b o T ((cs.setIfInBounds o (iV 7)).setIfInBounds (o + 28) (.int .u64 E)) (upd (upd f 0 (iV 7)) 28 (.int .u64 E)):=hP
 have o2 : Only (L.and b) w w2:=o1.drew.trans hR.only
 clear hR o1 v1 m1 i1
 have k0:=i2.c_0 rfl
 have kf:=i2.fz
 go_wp2
 go_end0
 exact ⟨rfl,_,_,_,m2.Z4 hb _ _,o2.set _ _,i2.set0 _,rfl,rfl⟩
set_option maxRecDepth 20000 in
theorem Dl (h : Z9 w L s) (hb : ¬ L.has b) (hi : ZN w b o T cs f) (who : Int) (f0 : f 0 = iV 8) {i : Nat} (hik : i < k) (f3 : f 3 = iV i) (hG : Good t n k m g p r) (hl : ZR t n k m <= s.n) {E : Int} (f28 : f 28 = .int .u64 E) :
 Calls Tryz.prog 61 #[pP b o,eV t n k m g p r L.p who] w fun e w'=>e = .returned (.tuple #[]) /\ Qb L b o T w w' (fun s' f'=>s' = (s.by who).step ((6 + t + n * 2 + i * 3) + 2) E /\ f' = upd f 0 (iV 9)):=by
 have hn : (6 + t + n * 2 + i * 3) + 2 < s.n:=by
  have : 6 + t + n * 2 + k * 3 + k * m <= s.n:=hl
  omega
 have hk1:=hG.k1
 have ht1:=hG.t1
 have hs1:=hG.s1
 obtain ⟨hbv,hbb⟩:=nb h hi.lt
 go_enter Tryz.func61,Tryz.ntmps61
 go_wp2
 refine Qd b h (fun _ g=>hi.grown g) ?_
 rintro W ⟨m1,i1,v1,o1,g1⟩
 have k3:=i1.ZP 3 f3
 have y2:=v1.c2
 have hge : decide ((i : Int) ≥ (k : Int)) = false:=decide_eq_false (by omega)
 go_region
 clear k3 y2
 replace m1:=m1.drew
 replace i1:=i1.drew
 replace v1:=v1.grown ((Below.refl _ _).drew)
 replace o1:=o1.drew
 replace g1:=g1.trans ((Below.refl _ _).drew)
 generalize W.drew = W at m1 i1 v1 o1 g1 ⊢
 go_wp2
 have k0:=i1.c_0 f0
 go_region
 clear k0
 replace m1:=m1.drew
 replace i1:=i1.drew
 replace v1:=v1.grown ((Below.refl _ _).drew)
 replace o1:=o1.drew
 replace g1:=g1.trans ((Below.refl _ _).drew)
 generalize W.drew = W at m1 i1 v1 o1 g1 ⊢
 have k0:=i1.c_0 f0
 go_wp2
 clear k0 g1
 apply Yc 9;· kernel_rfl
 apply rV;· intro w' hg _;apply ol;have y:=(v1.dg hg).yy;go_simp;exact gl
 apply rV;· intros;apply ol;go_simp;exact gl
 apply rV;· intro w' hg _;apply ol;have y:=(v1.dg hg).yy;go_simp;exact gl
 apply rV;· intro w' hg _;apply ol;go_simp;exact cb (U0 ((i1.drew.grown hg).ZP 3 f3) hG hik L.p who)
 apply rV (c:=iV (((6 + t + n * 2 + i * 3) + 2 : Nat)));· intro w' hg _;apply ol;go_simp;exact ⟨Grown.refl _,congrArg (Value.int .i64) (by rw [IntKind.wrap_i64];omega)⟩
 apply rV;· intros;apply ol;go_simp;exact gl
 try simp only [pu,s0,s1]
 iterate 2 (apply rV;· intros;apply ol;go_simp;exact gl)
 apply Zb;· intro w' hg _;apply ol;have z0:=(i1.drew.grown hg).ZP 28 f28;go_simp;exact gl
 try simp only [pu,s0,s1]
 intro w5 hg _
 have m5:=m1.drew.below hg
 have i5:=i1.drew.grown hg
 have v5:=v1.dg hg
 have o5:=o1.og hg
 clear hg m1 i1 v1 o1
 go_wp2_with (go_at_call 55;refine (Yr m5 _ _ _ _ _ _ _ _ ((6 + t + n * 2 + i * 3) + 2) hn _).mono ?_;rintro e w6 ⟨rfl,m6,o6⟩;have i6:=i5.only o6 hb;have l0:=i6.c_0 rfl;have lf:=i6.fz)
 go_end0
 exact ⟨rfl,_,_,_,m6.Z4 hb _ _,(o5.trans (o6.Y4 (b:=b))).set _ _,i6.set0 _,rfl,rfl⟩
set_option maxRecDepth 20000 in
theorem GV (h : Z9 w L s) (hb : ¬ L.has b) (hi : ZN w b o T cs f) (who : Int) (f0 : f 0 = iV 6) {i : Nat} (hik : i < k) (f3 : f 3 = iV i) (hG : Good t n k m g p r) (hl : ZR t n k m <= s.n) {c : Ck} {σ : Nat} (hc : c.ok σ) (hσ : σ <= 1000000) (f4 : f 4 = iV c.st) (f5 : f 5 = iV c.cl) (f6 : f 6 = iV c.us) (f7 : f 7 = iV c.sp) {q : Int} (fq : f 44 = iV q) (hq : 0 <= q /\ q <= 100000000) :
 Calls Tryz.prog 61 #[pP b o,eV t n k m g p r L.p who] w fun e w'=>e = .returned (.tuple #[]) /\ Qb L b o T w w' (fun s' f'=>s' = (s.by who).step (6 + t + n * 2 + i * 3) (Ck.mk 1 c.cl c.us (c.sp + 1)).w /\ f' = upd (lays (upd (lays f 4 [iV (1 : Nat),iV c.cl,iV c.us,iV ((c.sp + 1 : Nat) : Int)]) 44 (iV (q + 1))) 29 ad0) 0 (iV 10)):=by
 have hw1 : wrap64 (q + 1) = q + 1:=by unfold wrap64;omega
 obtain ⟨hbv,hbb⟩:=nb h hi.lt
 go_enter Tryz.func61,Tryz.ntmps61
 go_wp2
 refine Qd b h (fun _ g=>hi.grown g) ?_
 rintro W ⟨m1,i1,v1,o1,g1⟩
 have k3:=i1.ZP 3 f3
 have y2:=v1.c2
 have hge : decide ((i : Int) ≥ (k : Int)) = false:=decide_eq_false (by omega)
 go_region
 clear k3 y2
 replace m1:=m1.drew
 replace i1:=i1.drew
 replace v1:=v1.grown ((Below.refl _ _).drew)
 replace o1:=o1.drew
 replace g1:=g1.trans ((Below.refl _ _).drew)
 generalize W.drew = W at m1 i1 v1 o1 g1 ⊢
 go_wp2
 have k0:=i1.c_0 f0
 go_region
 clear k0
 replace m1:=m1.drew
 replace i1:=i1.drew
 replace v1:=v1.grown ((Below.refl _ _).drew)
 replace o1:=o1.drew
 replace g1:=g1.trans ((Below.refl _ _).drew)
 generalize W.drew = W at m1 i1 v1 o1 g1 ⊢
 have k0:=i1.c_0 f0
 obtain ⟨y0,y1,y2,y3,y4,y5,y6,y7,y8⟩:=id v1
 go_wp2_with (first
  | (go_at_call 105;refine (Py (x:=1) m1 hb i1 who hG hik f3 hc hσ f4 f5 f6 f7 hl (by decide)).mono ?_;rintro e w6 ⟨rfl,s6,c6,F6,m6,o6,i6,rfl,rfl⟩;have n1 : w6.cell? ⟨b,o + 43 + 1,none⟩ = some (iV q):=i6.ZP 44 ((Zd _ _ _ _ (by simp)).trans fq);have nf:=i6.fz;have I7:=i6.set 44 (iV (q + 1));have M7:=m6.Z4 hb (o + 44) (iV (q + 1));have O7:=(o1.trans o6).set (o + 44) (iV (q + 1));clear y0 y1 y2 y3 y4 y5 y6 y7 y8 k0)
  | (go_at_call 100;refine (Xi I7).mono ?_;rintro e w9 ⟨rfl,⟨c9,i9⟩,o9⟩))
 go_end0
 exact ⟨rfl,_,_,_,M7.and hb o9,O7.trans (o9.mono (fun _ _ e=>Or.inr e)),i9,rfl,rfl⟩
set_option maxRecDepth 20000 in
theorem GU (h : Z9 w L s) (hb : ¬ L.has b) (hi : ZN w b o T cs f) (who : Int) (f0 : f 0 = iV 9) {i : Nat} (hik : i < k) (f3 : f 3 = iV i) (hG : Good t n k m g p r) (hl : ZR t n k m <= s.n) {c : Ck} {σ : Nat} (hc : c.ok σ) (hσ : σ <= 1000000) (f4 : f 4 = iV c.st) (f5 : f 5 = iV c.cl) (f6 : f 6 = iV c.us) (f7 : f 7 = iV c.sp) {q : Int} (fq : f 43 = iV q) (hq : 0 <= q /\ q <= 100000000) :
 Calls Tryz.prog 61 #[pP b o,eV t n k m g p r L.p who] w fun e w'=>e = .returned (.tuple #[]) /\ Qb L b o T w w' (fun s' f'=>s' = (s.by who).step (6 + t + n * 2 + i * 3) (Ck.mk 3 c.cl c.us (c.sp + 1)).w /\ f' = upd (lays (upd (lays f 4 [iV (3 : Nat),iV c.cl,iV c.us,iV ((c.sp + 1 : Nat) : Int)]) 43 (iV (q + 1))) 29 ad0) 0 (iV 10)):=by
 have hw1 : wrap64 (q + 1) = q + 1:=by unfold wrap64;omega
 obtain ⟨hbv,hbb⟩:=nb h hi.lt
 go_enter Tryz.func61,Tryz.ntmps61
 go_wp2
 refine Qd b h (fun _ g=>hi.grown g) ?_
 rintro W ⟨m1,i1,v1,o1,g1⟩
 have k3:=i1.ZP 3 f3
 have y2:=v1.c2
 have hge : decide ((i : Int) ≥ (k : Int)) = false:=decide_eq_false (by omega)
 go_region
 clear k3 y2
 replace m1:=m1.drew
 replace i1:=i1.drew
 replace v1:=v1.grown ((Below.refl _ _).drew)
 replace o1:=o1.drew
 replace g1:=g1.trans ((Below.refl _ _).drew)
 generalize W.drew = W at m1 i1 v1 o1 g1 ⊢
 go_wp2
 have k0:=i1.c_0 f0
 go_region
 clear k0
 replace m1:=m1.drew
 replace i1:=i1.drew
 replace v1:=v1.grown ((Below.refl _ _).drew)
 replace o1:=o1.drew
 replace g1:=g1.trans ((Below.refl _ _).drew)
 generalize W.drew = W at m1 i1 v1 o1 g1 ⊢
 have k0:=i1.c_0 f0
 obtain ⟨y0,y1,y2,y3,y4,y5,y6,y7,y8⟩:=id v1
 go_wp2_with (first
  | (go_at_call 105;refine (Py (x:=3) m1 hb i1 who hG hik f3 hc hσ f4 f5 f6 f7 hl (by decide)).mono ?_;rintro e w6 ⟨rfl,s6,c6,F6,m6,o6,i6,rfl,rfl⟩;have n1 : w6.cell? ⟨b,o + 43,none⟩ = some (iV q):=i6.ZP 43 ((Zd _ _ _ _ (by simp)).trans fq);have nf:=i6.fz;have I7:=i6.set 43 (iV (q + 1));have M7:=m6.Z4 hb (o + 43) (iV (q + 1));have O7:=(o1.trans o6).set (o + 43) (iV (q + 1));clear y0 y1 y2 y3 y4 y5 y6 y7 y8 k0)
  | (go_at_call 100;refine (Xi I7).mono ?_;rintro e w9 ⟨rfl,⟨c9,i9⟩,o9⟩))
 go_end0
 exact ⟨rfl,_,_,_,M7.and hb o9,O7.trans (o9.mono (fun _ _ e=>Or.inr e)),i9,rfl,rfl⟩
theorem zg (h : Z9 w L s) (hi : ZN w b o T cs f) (who : Int) (f0 : f 0 = iV 0) {i : Nat} (hik : i < k) (f1 : f 1 = iV i) (Z : World -> Prop) (hst : ∀ w1,Below w.heap.size w w1 -> Calls Tryz.prog 97 #[pP b o,eV t n k m g p r L.p who] w1 fun e w'=>e = .returned (.tuple #[]) /\ Z w') :
 Calls Tryz.prog 60 #[pP b o,eV t n k m g p r L.p who] w fun e w'=>e = .returned (.tuple #[]) /\ Z w':=by
 obtain ⟨hbv,hbb⟩:=nb h hi.lt
 go_enter Tryz.func60,Tryz.ntmps60
 go_wp2
 refine Qd b h (fun _ g=>hi.grown g) ?_
 rintro W ⟨m1,i1,v1,o1,g1⟩
 have k0:=i1.c_0 f0
 have k1:=i1.ZP 1 f1
 have y2:=v1.c2
 have hge : decide ((i : Int) ≥ (k : Int)) = false:=decide_eq_false (by omega)
 go_region
 clear k0 k1 y2
 replace m1:=m1.drew
 replace i1:=i1.drew
 replace v1:=v1.grown ((Below.refl _ _).drew)
 replace o1:=o1.drew
 replace g1:=g1.trans ((Below.refl _ _).drew)
 generalize W.drew = W at m1 i1 v1 o1 g1 ⊢
 have k0:=i1.c_0 f0
 obtain ⟨y0,y1,y2,y3,y4,y5,y6,y7,y8⟩:=id v1
 go_wp2_with (go_at_call 97;refine (hst _ g1).mono ?_;rintro e w9 ⟨rfl,z9⟩)
 go_end0
 exact ⟨rfl,z9⟩
theorem GR (h : Z9 w L s) (hi : ZN w b o T cs f) (who : Int) (f0 : f 0 = iV 1) {i : Nat} (hik : i < k) (f1 : f 1 = iV i) (Z : World -> Prop) (hst : ∀ w1,Below w.heap.size w w1 -> Calls Tryz.prog 98 #[pP b o,eV t n k m g p r L.p who] w1 fun e w'=>e = .returned (.tuple #[]) /\ Z w') :
 Calls Tryz.prog 60 #[pP b o,eV t n k m g p r L.p who] w fun e w'=>e = .returned (.tuple #[]) /\ Z w':=by
 obtain ⟨hbv,hbb⟩:=nb h hi.lt
 go_enter Tryz.func60,Tryz.ntmps60
 go_wp2
 refine Qd b h (fun _ g=>hi.grown g) ?_
 rintro W ⟨m1,i1,v1,o1,g1⟩
 have k0:=i1.c_0 f0
 have k1:=i1.ZP 1 f1
 have y2:=v1.c2
 have hge : decide ((i : Int) ≥ (k : Int)) = false:=decide_eq_false (by omega)
 go_region
 clear k0 k1 y2
 replace m1:=m1.drew
 replace i1:=i1.drew
 replace v1:=v1.grown ((Below.refl _ _).drew)
 replace o1:=o1.drew
 replace g1:=g1.trans ((Below.refl _ _).drew)
 generalize W.drew = W at m1 i1 v1 o1 g1 ⊢
 have k0:=i1.c_0 f0
 obtain ⟨y0,y1,y2,y3,y4,y5,y6,y7,y8⟩:=id v1
 go_wp2_with (go_at_call 98;refine (hst _ g1).mono ?_;rintro e w9 ⟨rfl,z9⟩)
 go_end0
 exact ⟨rfl,z9⟩
theorem Dk (h : Z9 w L s) (hi : ZN w b o T cs f) (who : Int) (f0 : f 0 = iV 2)  (Z : World -> Prop) (hst : ∀ w1,Below w.heap.size w w1 -> Calls Tryz.prog 99 #[pP b o,eV t n k m g p r L.p who] w1 fun e w'=>e = .returned (.tuple #[]) /\ Z w') :
 Calls Tryz.prog 60 #[pP b o,eV t n k m g p r L.p who] w fun e w'=>e = .returned (.tuple #[]) /\ Z w':=by
 obtain ⟨hbv,hbb⟩:=nb h hi.lt
 go_enter Tryz.func60,Tryz.ntmps60
 go_wp2
 refine Qd b h (fun _ g=>hi.grown g) ?_
 rintro W ⟨m1,i1,v1,o1,g1⟩
 have k0:=i1.c_0 f0
 go_region
 clear k0
 replace m1:=m1.drew
 replace i1:=i1.drew
 replace v1:=v1.grown ((Below.refl _ _).drew)
 replace o1:=o1.drew
 replace g1:=g1.trans ((Below.refl _ _).drew)
 generalize W.drew = W at m1 i1 v1 o1 g1 ⊢
 have k0:=i1.c_0 f0
 obtain ⟨y0,y1,y2,y3,y4,y5,y6,y7,y8⟩:=id v1
 go_wp2_with (go_at_call 99;refine (hst _ g1).mono ?_;rintro e w9 ⟨rfl,z9⟩)
 go_end0
 exact ⟨rfl,z9⟩
theorem QO (h : Z9 w L s) (hi : ZN w b o T cs f) (who : Int) (hG : Good t n k m g p r) (hl : ZR t n k m <= s.n) {nx : Int} (f0 : f 0 = iV nx) (h1 : decide (nx <= 2) = true) (Z : World -> Prop) (hst : ∀ w1,Below w.heap.size w w1 -> Calls Tryz.prog 60 #[pP b o,eV t n k m g p r L.p who] w1 fun e w'=>e = .returned (.tuple #[]) /\ Z w') :
 Calls Tryz.prog 29 #[pP b o,eV t n k m g p r L.p who] w fun e w'=>e = .returned (.tuple #[]) /\ Z w':=by
 have st:=fun (w' : World) (m' : Z9 w' L s)=>Wn m' hG hl who
 have i0:=hi.grown (Zh _ (eO t n k m g p r L.p who))
 have m0:=h.alloc (eO t n k m g p r L.p who)
 have v0 : ZV (w.alloc (eO t n k m g p r L.p who)) w.heap.size t n k m g p r L.p who:=ZV.new
 obtain ⟨y0,y1,y2,y3,y4,y5,y6,y7,y8⟩:=id v0
 go_enter Tryz.func29,Tryz.ntmps29
 go_wp2_with (first
  | (go_at_call 59;refine (st _ m0).mono ?_;rintro e w1 ⟨rfl,b1⟩;have i1:=i0.grown b1;have v1:=v0.grown b1;have g1 : Below w.heap.size w w1:=grow (Zh _ _) b1;clear i0 m0 v0 b1 y0 y1 y2 y3 y4 y5 y6 y7 y8 st;have k0:=i1.c_0 f0;obtain ⟨y0,y1,y2,y3,y4,y5,y6,y7,y8⟩:=id v1)
  | (go_at_call 60;refine (hst _ g1).mono ?_;rintro e w9 ⟨rfl,z9⟩))
 go_end0
 exact ⟨rfl,z9⟩
theorem WH (h : Z9 w L s) (hi : ZN w b o T cs f) (who : Int) (hG : Good t n k m g p r) (hl : ZR t n k m <= s.n) {nx : Int} (f0 : f 0 = iV nx) (h1 : decide (nx <= 2) = false) (h2 : decide (nx <= 9) = true) (Z : World -> Prop) (hst : ∀ w1,Below w.heap.size w w1 -> Calls Tryz.prog 61 #[pP b o,eV t n k m g p r L.p who] w1 fun e w'=>e = .returned (.tuple #[]) /\ Z w') :
 Calls Tryz.prog 29 #[pP b o,eV t n k m g p r L.p who] w fun e w'=>e = .returned (.tuple #[]) /\ Z w':=by
 have st:=fun (w' : World) (m' : Z9 w' L s)=>Wn m' hG hl who
 have i0:=hi.grown (Zh _ (eO t n k m g p r L.p who))
 have m0:=h.alloc (eO t n k m g p r L.p who)
 have v0 : ZV (w.alloc (eO t n k m g p r L.p who)) w.heap.size t n k m g p r L.p who:=ZV.new
 obtain ⟨y0,y1,y2,y3,y4,y5,y6,y7,y8⟩:=id v0
 go_enter Tryz.func29,Tryz.ntmps29
 go_wp2_with (first
  | (go_at_call 59;refine (st _ m0).mono ?_;rintro e w1 ⟨rfl,b1⟩;have i1:=i0.grown b1;have v1:=v0.grown b1;have g1 : Below w.heap.size w w1:=grow (Zh _ _) b1;clear i0 m0 v0 b1 y0 y1 y2 y3 y4 y5 y6 y7 y8 st;have k0:=i1.c_0 f0;obtain ⟨y0,y1,y2,y3,y4,y5,y6,y7,y8⟩:=id v1)
  | (go_at_call 61;refine (hst _ g1).mono ?_;rintro e w9 ⟨rfl,z9⟩))
 go_end0
 exact ⟨rfl,z9⟩
theorem Dj (h : Z9 w L s) (hi : ZN w b o T cs f) (who : Int) (hG : Good t n k m g p r) (hl : ZR t n k m <= s.n) {nx : Int} (f0 : f 0 = iV nx) (h1 : decide (nx <= 2) = false) (h2 : decide (nx <= 9) = false) (h3 : (nx == 10) = true) (Z : World -> Prop) (hst : ∀ w1,Below w.heap.size w w1 -> Calls Tryz.prog 62 #[pP b o,eV t n k m g p r L.p who] w1 fun e w'=>e = .returned (.tuple #[]) /\ Z w') :
 Calls Tryz.prog 29 #[pP b o,eV t n k m g p r L.p who] w fun e w'=>e = .returned (.tuple #[]) /\ Z w':=by
 have st:=fun (w' : World) (m' : Z9 w' L s)=>Wn m' hG hl who
 have i0:=hi.grown (Zh _ (eO t n k m g p r L.p who))
 have m0:=h.alloc (eO t n k m g p r L.p who)
 have v0 : ZV (w.alloc (eO t n k m g p r L.p who)) w.heap.size t n k m g p r L.p who:=ZV.new
 obtain ⟨y0,y1,y2,y3,y4,y5,y6,y7,y8⟩:=id v0
 go_enter Tryz.func29,Tryz.ntmps29
 go_wp2_with (first
  | (go_at_call 59;refine (st _ m0).mono ?_;rintro e w1 ⟨rfl,b1⟩;have i1:=i0.grown b1;have v1:=v0.grown b1;have g1 : Below w.heap.size w w1:=grow (Zh _ _) b1;clear i0 m0 v0 b1 y0 y1 y2 y3 y4 y5 y6 y7 y8 st;have k0:=i1.c_0 f0;obtain ⟨y0,y1,y2,y3,y4,y5,y6,y7,y8⟩:=id v1)
  | (go_at_call 62;refine (hst _ g1).mono ?_;rintro e w9 ⟨rfl,z9⟩))
 go_end0
 exact ⟨rfl,z9⟩
theorem Di (h : Z9 w L s) (hi : ZN w b o T cs f) (who : Int) (hG : Good t n k m g p r) (hl : ZR t n k m <= s.n) {nx : Int} (f0 : f 0 = iV nx) (h1 : decide (nx <= 2) = false) (h2 : decide (nx <= 9) = false) (h3 : (nx == 10) = false) (Z : World -> Prop) (hst : ∀ w1,Below w.heap.size w w1 -> Calls Tryz.prog 63 #[pP b o,eV t n k m g p r L.p who] w1 fun e w'=>e = .returned (.tuple #[]) /\ Z w') :
 Calls Tryz.prog 29 #[pP b o,eV t n k m g p r L.p who] w fun e w'=>e = .returned (.tuple #[]) /\ Z w':=by
 have st:=fun (w' : World) (m' : Z9 w' L s)=>Wn m' hG hl who
 have i0:=hi.grown (Zh _ (eO t n k m g p r L.p who))
 have m0:=h.alloc (eO t n k m g p r L.p who)
 have v0 : ZV (w.alloc (eO t n k m g p r L.p who)) w.heap.size t n k m g p r L.p who:=ZV.new
 obtain ⟨y0,y1,y2,y3,y4,y5,y6,y7,y8⟩:=id v0
 go_enter Tryz.func29,Tryz.ntmps29
 go_wp2_with (first
  | (go_at_call 59;refine (st _ m0).mono ?_;rintro e w1 ⟨rfl,b1⟩;have i1:=i0.grown b1;have v1:=v0.grown b1;have g1 : Below w.heap.size w w1:=grow (Zh _ _) b1;clear i0 m0 v0 b1 y0 y1 y2 y3 y4 y5 y6 y7 y8 st;have k0:=i1.c_0 f0;obtain ⟨y0,y1,y2,y3,y4,y5,y6,y7,y8⟩:=id v1)
  | (go_at_call 63;refine (hst _ g1).mono ?_;rintro e w9 ⟨rfl,z9⟩))
 go_end0
 exact ⟨rfl,z9⟩
end
section
def Ck.lies (f : Nat -> Value) (c : Ck) : Prop:=f 4 = iV c.st /\ f 5 = iV c.cl /\ f 6 = iV c.us /\ f 7 = iV c.sp
def Cm.is (w : World) (b o : Nat) (T : TypeId) (cs : Array Value) (f : Nat -> Value) (N : Nat -> Prop) : Cm -> Prop
 | .see l=>f 0 = iV 0 /\ f 1 = iV l.length /\ YK w (f 2) l /\ ∀ x,(f 2).ownBlock = some x -> N x
 | .cnt l c=>f 0 = iV 1 /\ f 1 = iV l.length /\ ∃ B cap,f 2 = .slice (some ⟨B,0,none⟩) (l.length + 1) cap /\ YC w B cap (l ++ [c.sn 0]) /\ N B
 | .opn l κ=>f 0 = iV 2 /\ f 1 = iV κ /\ ∃ B cap,f 2 = .slice (some ⟨B,0,none⟩) l.length cap /\ YC w B cap l /\ N B
 | .shut i c=>f 0 = iV 3 /\ f 2 = .slice none 0 0 /\ f 3 = iV i /\ c.lies f
 | .head i c u=>f 0 = iV 4 /\ f 2 = .slice none 0 0 /\ f 3 = iV i /\ c.lies f /\ f 8 = iV u
 | .OO i c u W μ=>f 0 = iV 5 /\ f 2 = .slice none 0 0 /\ f 3 = iV i /\ c.lies f /\ f 8 = iV u /\ ∃ a,ZL w b (o + 9) T cs a /\ QN W μ a
 | .leave i c=>f 0 = iV 6 /\ f 2 = .slice none 0 0 /\ f 3 = iV i /\ c.lies f
 | .note i c E=>f 0 = iV 8 /\ f 2 = .slice none 0 0 /\ f 3 = iV i /\ c.lies f /\ f 28 = .int .u64 E
 | .quiet i c=>f 0 = iV 9 /\ f 2 = .slice none 0 0 /\ f 3 = iV i /\ c.lies f
 | .Yf d=>f 0 = iV 10 /\ f 2 = .slice none 0 0 /\ ND w b (o + 29) T cs d
 | .Y5 i d=>f 0 = iV 11 /\ f 2 = .slice none 0 0 /\ f 1 = iV i /\ RN w b (o + 34) T cs i d
structure Oo (f : Nat -> Value) (cp : Cp) : Prop where
 Qa : f 43 = iV cp.wk.ev
 P9 : f 44 = iV cp.wk.lf
 Qi : f 45 = iV cp.wk.fr
 P8 : f 46 = iV cp.wk.mv
 NK : f 47 = iV cp.wk.rd
 zf : f 48 = iV cp.ah.ev
 y9 : f 50 = iV cp.ah.fr
 yZ : f 51 = iV cp.ah.mv
 Dh : f 53 = iV cp.Uz
theorem Oo.congr {f f' : Nat -> Value} {cp : Cp} (h : Oo f cp) (e : ∀ j,43 <= j -> f' j = f j) {cm : Cm} : Oo f' { cp with cm:=cm } :=
 ⟨(e 43 (by decide)).trans h.Qa,(e 44 (by decide)).trans h.P9,(e 45 (by decide)).trans h.Qi,(e 46 (by decide)).trans h.P8,(e 47 (by decide)).trans h.NK,(e 48 (by decide)).trans h.zf,(e 50 (by decide)).trans h.y9,(e 51 (by decide)).trans h.yZ,(e 53 (by decide)).trans h.Dh⟩
structure XZ (w : World) (b o : Nat) (T : TypeId) (L : Loc) (K : Nat -> Prop) (cp : Cp) (cs : Array Value) (f : Nat -> Value) : Prop where
 cm : ZN w b o T cs f
 is : cp.cm.is w b o T cs f (fun x=>¬ K x /\ x ≠ b /\ ¬ L.has x)
 ct : Oo f cp
structure Kp (K : Nat -> Prop) (L : Loc) (b : Nat) (w : World) : Prop where
 kb : ¬ K b
 kl : ∀ y,K y -> ¬ L.has y
 lt : ∀ y,K y -> y < w.heap.size
theorem Kp.and {K : Nat -> Prop} {L : Loc} {b : Nat} {w : World} (h : Kp K L b w) {w1 w2 : World} (o : Only (L.and b) w1 w2) : Only (fun y=>¬ K y) w1 w2 :=
 o.mono fun y _ e=>e.elim (fun hl hk=>h.kl y hk hl) (fun e hk=>h.kb (e ▸ hk))
def After (t n k m σ : Nat) (L : Loc) (K : Nat -> Prop) (b o : Nat) (T : TypeId) (s : Mm) (who : Int) (a : Nat) (w : World) (z' : Zt) (cp' : Cp) (w' : World) : Prop :=
 ∃ s',Z9 w' L s' /\ YQ t n k m s' (σ + 1) z' /\ (∃ cs' f',XZ w' b o T L K cp' cs' f') /\ Only (fun y=>¬ K y) w w' /\ ∃ v,s' = (s.by who).step a v
section
variable {w : World} {L : Loc} {K : Nat -> Prop} {s : Mm} {b o : Nat} {T : TypeId} {t n k m σ : Nat} {g p r : Int} {z : Zt} {cp : Cp} {cs : Array Value} {f : Nat -> Value}
theorem Df (h : Z9 w L s) (hb : ¬ L.has b) (hK : Kp K L b w) (hz : YQ t n k m s σ z) (hG : Good t n k m g p r) (hσ : σ < 1000000) (who : Int) {l : List Sn} (hc : XZ w b o T L K cp cs f) (hcm : cp.cm = .see l) (hl : l.length < k) :
 Calls Tryz.prog 29 #[pP b o,eV t n k m g p r L.p who] w fun e w'=>e = .returned (.tuple #[]) /\ After t n k m σ L K b o T s who (Zr t n l.length) w z { cp with cm:=.cnt l (z.q.y.ck l.length) } w':=by
 have I:=hc.is
 rw [hcm] at I
 obtain ⟨f0,f1,S,hN⟩:=I
 have hk1:=hG.k1
 have hck : s.wd (6 + t + n * 2 + l.length * 3) = (z.q.y.ck l.length).w:=hz.tw.YN.LG _ hl
 refine QO h hc.cm who hG hz.le f0 (by decide) _ (fun w1 g1=>?_)
 refine zg (h.below g1) (hc.cm.grown g1) who f0 hl f1 _ (fun w2 g2=>?_)
 have g3:=grow g1 g2
 refine (DN (h.below g3) hb (hc.cm.grown g3) who hG hz.le hl f1 rfl (S.grown g3) (fun x hx=>⟨(hN x hx).2.1,(hN x hx).2.2⟩) (by omega) hck (hz.tw.YN.ok _ hl) (by omega)).mono ?_
 rintro e w' ⟨rfl,cs',B,cap,m',i',S',hB,o'⟩
 have mQ : ¬ K B /\ B ≠ b /\ ¬ L.has B:=by
  rcases hB with hB | hB
  · exact hN B hB
  · have:=g3.size
    have hlb:=hc.cm.lt
    exact ⟨fun hk=>by have:=hK.lt B hk;omega,by omega,fun hL=>by have:=h.lt B hL;omega⟩
 have hsame:=hz.same hσ who (Zr t n l.length)
 rw [show s.wd (Zr t n l.length) = (z.q.y.ck l.length).w from hck] at hsame
 refine ⟨rfl,_,m',hsame,⟨cs',_,i',⟨rfl,f1,B,cap,rfl,S',mQ⟩,hc.ct.congr (fun j hj=>?_)⟩,?_,_,rfl⟩
 · rw [Z7 _ _ _ _ (by omega),Z7 _ _ _ _ (by omega)]
 · refine (Only.ZZ g3).trans (o'.mono fun y _ e=>?_)
   rcases e with (e | e) | e
   · exact fun hk=>hK.kl y hk e
   · exact fun hk=>hK.kb (e ▸ hk)
   · exact (hN y e).1
set_option maxHeartbeats 400000 in
theorem Dc (h : Z9 w L s) (hb : ¬ L.has b) (hK : Kp K L b w) (hz : YQ t n k m s σ z) (hG : Good t n k m g p r) (hσ : σ < 1000000) (who : Int) {l : List Sn} {c : Ck} (hc : XZ w b o T L K cp cs f) (hcm : cp.cm = .cnt l c) (hl : l.length < k) (H8 : z.q.db l.length <= 1000000) :
 Calls Tryz.prog 29 #[pP b o,eV t n k m g p r L.p who] w fun e w'=>e = .returned (.tuple #[]) /\ After t n k m σ L K b o T s who (Zr t n l.length + 1) w z { cp with cm:=if l.length + 1 < k then .see (l ++ [c.sn ((z.q.lv l.length : Int) - z.q.db l.length)]) else .opn (l ++ [c.sn ((z.q.lv l.length : Int) - z.q.db l.length)]) 0 } w':=by
 have I:=hc.is
 rw [hcm] at I
 obtain ⟨f0,f1,B,cap,f2,S,hN⟩:=I
 have hk1:=hG.k1
 have mP:=hz.tw.LJ _ hl
 have hu : s.wd (6 + t + n * 2 + l.length * 3 + 1) = Ub (z.q.lv l.length) (z.q.db l.length):=hz.tw.KW _ hl
 obtain ⟨x,hx⟩ : ∃ x,(z.q.lv l.length : Int) - z.q.db l.length = x:=⟨_,rfl⟩
 have hw : wrap64 (Ub (z.q.lv l.length) (z.q.db l.length)) = x:=by rw [<- hx];unfold wrap64 Ub;omega
 rw [hx]
 have hq : (l ++ [c.sn 0])[l.length]? = some (c.sn 0):=by simp
 have hset : (l ++ [c.sn 0]).set l.length { c.sn 0 with lv:=x } = l ++ [c.sn x]:=by simp [Ck.sn]
 have hsame:=hz.same hσ who (Zr t n l.length + 1)
 rw [show s.wd (Zr t n l.length + 1) = Ub (z.q.lv l.length) (z.q.db l.length) from hu] at hsame
 have hfr : ∀ {w1 w2 : World},Only (fun y=>L.and b y \/ y = B) w1 w2 -> Only (fun y=>¬ K y) w1 w2:=fun o1=>o1.mono fun y _ e=>by
  rcases e with (e | e) | e
  · exact fun hk=>hK.kl y hk e
  · exact fun hk=>hK.kb (e ▸ hk)
  · exact e ▸ hN.1
 refine QO h hc.cm who hG hz.le f0 (by decide) _ (fun w1 g1=>?_)
 refine GR (h.below g1) (hc.cm.grown g1) who f0 hl f1 _ (fun w2 g2=>?_)
 have g3:=grow g1 g2
 by_cases hlt : l.length + 1 < k
 · rw [if_pos hlt]
   refine (Hf (h.below g3) hb (hc.cm.grown g3) who hG hz.le hlt f1 f2 (Ne.symm hN.2.1) hN.2.2 (S.grown g3) (by omega) hq hu hw).mono ?_
   rintro e w' ⟨rfl,cs',m',i',S',o'⟩
   rw [hset] at S'
   refine ⟨rfl,_,m',hsame,⟨cs',_,i',⟨rfl,?_,Or.inr ⟨B,cap,?_,S'⟩,?_⟩,hc.ct.congr (fun j hj=>?_)⟩,(Only.ZZ g3).trans (hfr o'),_,rfl⟩
   · show iV ((l.length : Int) + 1) = _
     rw [List.length_append];rfl
   · rw [List.length_append];exact f2
   · intro y hy
     rw [show (upd (upd f 1 (Value.int IntKind.i64 (↑l.length + 1))) 0 (Value.int IntKind.i64 0)) 2 = f 2 from rfl,f2] at hy
     cases hy
     exact hN
   · rw [Z7 _ _ _ _ (by omega),Z7 _ _ _ _ (by omega)]
 · rw [if_neg hlt]
   refine (Ny (h.below g3) hb (hc.cm.grown g3) who hG hz.le (by omega) f1 f2 (Ne.symm hN.2.1) hN.2.2 (S.grown g3) (by omega) hq hu hw).mono ?_
   rintro e w' ⟨rfl,cs',m',i',S',o'⟩
   rw [hset] at S'
   refine ⟨rfl,_,m',hsame,⟨cs',_,i',⟨rfl,rfl,B,cap,?_,S',hN⟩,hc.ct.congr (fun j hj=>?_)⟩,(Only.ZZ g3).trans (hfr o'),_,rfl⟩
   · rw [List.length_append];exact f2
   · rw [Z7 _ _ _ _ (by omega),Z7 _ _ _ _ (by omega),Z7 _ _ _ _ (by omega),Z7 _ _ _ _ (by omega)]
end
end
section
section
variable {w : World} {L : Loc} {K : Nat -> Prop} {s : Mm} {b o : Nat} {T : TypeId} {t n k m σ : Nat} {g p r : Int} {z : Zt} {cp : Cp} {cs : Array Value} {f : Nat -> Value}
theorem GN (hG : Good t n k m g p r) (who : Int) {B cap N : Nat} (hN : N <= 1000) (f2 : f 2 = .slice (some ⟨B,0,none⟩) N cap) (hBb : b ≠ B) {l : List Sn} (hl : l.length = N) (hA : ∀ q ∈ l,Xa σ q) :
 ∃ f',(∀ w1 c1,ZN w1 b o T c1 f -> YC w1 B cap l -> Calls Tryz.prog 144 #[pP b o,eV t n k m g p r L.p who] w1 fun e w'=>e = .returned (.tuple #[]) /\ (∃ cs',ZN w' b o T cs' f') /\ Only (fun y=>y = b) w1 w') /\ (∀ w1 c1,ZN w1 b o T c1 f' -> (chosen p l).is w1 b o T c1 f' (fun x=>¬ K x /\ x ≠ b /\ ¬ L.has x)) /\ ∀ j,43 <= j -> f' j = f j:=by
 have hp : Fit p:=⟨by have:=hG.p0;omega,by have:=hG.p1;omega⟩
 have hfit : ∀ q ∈ l,TS q:=fun q hq=>(hA q hq).1
 have hpk:=OE (fun i=>(l[i]?.getD LC).may p) (fun i=>(l[i]?.getD LC).lv) l.length
 rw [hl] at hpk
 have hch : Sj (fun i=>(l[i]?.getD LC).may p) (fun i=>(l[i]?.getD LC).lv) N = choice p l:=by unfold choice;rw [hl]
 rw [hch] at hpk
 rcases hpk.bd with he | ⟨j,hj,he,-⟩
 · rw [he] at hpk
   refine ⟨_,fun w1 c1 i1 S1=>OC i1 who L.p hp hN f2 hBb hl S1 hfit hpk,fun w1 c1 i1=>?_,fun j hj=>?_⟩
   · unfold chosen
     rw [he,if_pos (by decide)]
     exact ⟨rfl,rfl,OD i1⟩
   · rw [Z7 _ _ _ _ (by omega),Zd _ _ _ _ (by simp [ad0];omega),Z7 _ _ _ _ (by omega),Z7 _ _ _ _ (by omega)]
 · have hq : l[j]? = some l[j]:=List.getElem?_eq_getElem (by omega)
   rw [he] at hpk
   obtain ⟨-,e1,e2,e3,e4⟩:=(hA _ (List.getElem_mem (show j < l.length by omega))).ck
   refine ⟨_,fun w1 c1 i1 S1=>OB i1 who L.p hp hN f2 hBb hl S1 hfit hq hpk,fun w1 c1 i1=>?_,fun i hi=>?_⟩
   · unfold chosen
     rw [he,if_neg (by omega),Int.toNat_natCast,hq]
     exact ⟨rfl,rfl,rfl,congrArg (Value.int .i64) e1,congrArg (Value.int .i64) e2,congrArg (Value.int .i64) e3,congrArg (Value.int .i64) e4⟩
   · rw [Z7 _ _ _ _ (by omega),Zd _ _ _ _ (by simp;omega),Z7 _ _ _ _ (by omega),Z7 _ _ _ _ (by omega)]
set_option maxHeartbeats 1000000 in
theorem step_opn (h : Z9 w L s) (hb : ¬ L.has b) (hK : Kp K L b w) (hz : YQ t n k m s σ z) (hG : Good t n k m g p r) (hσ : σ < 1000000) (who : Int) {l : List Sn} {κ : Nat} (hc : XZ w b o T L K cp cs f) (hcm : cp.cm = .opn l κ) (hl : l.length = k) (hκ : κ < 4) (hA : ∀ q ∈ l,Xa σ q) :
 Calls Tryz.prog 29 #[pP b o,eV t n k m g p r L.p who] w fun e w'=>e = .returned (.tuple #[]) /\ After t n k m σ L K b o T s who (2 + κ) w z { cp with cm:=if κ < 3 then .opn (mark z.q.y l κ) (κ + 1) else chosen p (mark z.q.y l κ) } w':=by
 have I:=hc.is
 rw [hcm] at I
 obtain ⟨f0,f1,B,cap,f2,S,hN⟩:=I
 have hk1:=hG.k1
 have hop:=hz.tw.YN.yl κ hκ
 have hu : s.wd (2 + κ) = (z.q.y.op κ : Int):=hz.tw.YN.xe κ hκ
 have hml:=TU z.q.y l κ
 have hsame:=hz.same hσ who (2 + κ)
 rw [hu] at hsame
 have hfr : ∀ {w1 w2 : World},Only (fun y=>L.and b y \/ y = B) w1 w2 -> Only (fun y=>¬ K y) w1 w2:=fun o1=>o1.mono fun y _ e=>by
  rcases e with (e | e) | e
  · exact fun hk=>hK.kl y hk e
  · exact fun hk=>hK.kb (e ▸ hk)
  · exact e ▸ hN.1
 refine QO h hc.cm who hG hz.le f0 (by decide) _ (fun w1 g1=>?_)
 refine Dk (h.below g1) (hc.cm.grown g1) who f0 _ (fun w2 g2=>?_)
 have g3:=grow g1 g2
 have H:=h.below g3
 have C:=hc.cm.grown g3
 have S3:=S.grown g3
 have hBb : b ≠ B:=Ne.symm hN.2.1
 have hlk : l.length <= 1000:=by omega
 have fin : ∀ w' (l2 : List Sn),l2 = mark z.q.y l κ -> (∃ cs',Z9 w' L ((s.by who).step (2 + κ) (z.q.y.op κ : Int)) /\ ZN w' b o T cs' (upd f 1 (iV ((κ : Int) + 1))) /\ YC w' B cap l2 /\ Only (fun y=>L.and b y \/ y = B) w2 w') -> κ < 3 -> After t n k m σ L K b o T s who (2 + κ) w z { cp with cm:=if κ < 3 then .opn (mark z.q.y l κ) (κ + 1) else chosen p (mark z.q.y l κ) } w':=by
  rintro w' l2 rfl ⟨cs',m',i',S',o'⟩ h3
  rw [if_pos h3]
  refine ⟨_,m',hsame,⟨cs',_,i',⟨f0,rfl,B,cap,?_,S',hN⟩,hc.ct.congr (fun j hj=>Z7 _ _ _ _ (by omega))⟩,(Only.ZZ g3).trans (hfr o'),_,rfl⟩
  rw [hml];exact f2
 have C9 : ∀ w' f',(∀ w1 c1,ZN w1 b o T c1 f' -> (chosen p (mark z.q.y l κ)).is w1 b o T c1 f' (fun x=>¬ K x /\ x ≠ b /\ ¬ L.has x)) -> (∀ j,43 <= j -> f' j = upd f 1 (iV ((κ : Int) + 1)) j) -> (Z9 w' L ((s.by who).step (2 + κ) (z.q.y.op κ : Int)) /\ Only (fun y=>L.and b y \/ y = B) w2 w' /\ ∃ cs',ZN w' b o T cs' f') -> ¬ κ < 3 -> After t n k m σ L K b o T s who (2 + κ) w z { cp with cm:=if κ < 3 then .opn (mark z.q.y l κ) (κ + 1) else chosen p (mark z.q.y l κ) } w':=by
  rintro w' f' his hct ⟨m',o',cs',i'⟩ h3
  rw [if_neg h3]
  exact ⟨_,m',hsame,⟨cs',_,i',his _ _ i',hc.ct.congr (fun j hj=>(hct j hj).trans (Z7 _ _ _ _ (by omega)))⟩,(Only.ZZ g3).trans (hfr o'),_,rfl⟩
 obtain ⟨f',hcall,his,hct⟩:=GN (f:=upd f 1 (iV ((κ : Int) + 1))) (L:=L) (K:=K) (o:=o) (T:=T) hG who hlk f2 hBb hml (Xa.mark (y:=z.q.y) (κ:=κ) hA)
 cases ho : z.q.y.op κ with
 | zero =>
  have hm : mark z.q.y l κ = l:=by unfold mark;rw [ho]
  have hx : s.wd (2 + κ) = 0:=by rw [hu,ho];rfl
  rw [ho] at fin C9
  by_cases h3 : κ < 3
  · refine (Dz H hb C who hG hz.le h3 f1 hlk f2 hBb hN.2.2 S3 hx rfl).mono ?_
    rintro e w' ⟨rfl,F⟩
    exact ⟨rfl,fin w' l hm.symm F h3⟩
  · rw [hm] at hcall
    refine (G9 H hb C who hG hz.le ⟨by omega,hκ⟩ f1 hlk f2 hBb hN.2.2 S3 hx rfl f' hcall).mono ?_
    rintro e w' ⟨rfl,F⟩
    exact ⟨rfl,C9 w' f' his hct F h3⟩
 | succ j =>
  have hjl : j < l.length:=by omega
  have hq : l[j]? = some l[j]:=List.getElem?_eq_getElem hjl
  have hx : s.wd (2 + κ) = ((j + 1 : Nat) : Int):=by rw [hu,ho]
  rw [ho] at fin C9
  by_cases hk : l[j].cl = κ
  · have hm : mark z.q.y l κ = l.set j { l[j] with op:=true }:=by unfold mark;rw [ho];simp only [hq];rw [if_pos hk]
    have hkb : (l[j].cl == (κ : Int)) = true:=by rw [hk];simp
    by_cases h3 : κ < 3
    · refine (Dy H hb C who hG hz.le h3 f1 hlk f2 hBb hN.2.2 S3 hx hq hjl (by omega) hkb).mono ?_
      rintro e w' ⟨rfl,F⟩
      exact ⟨rfl,fin w' _ hm.symm F h3⟩
    · rw [hm] at hcall
      refine (G8 H hb C who hG hz.le ⟨by omega,hκ⟩ f1 hlk f2 hBb hN.2.2 S3 hx hq hjl (by omega) hkb f' hcall).mono ?_
      rintro e w' ⟨rfl,F⟩
      exact ⟨rfl,C9 w' f' his hct F h3⟩
  · have hm : mark z.q.y l κ = l:=by unfold mark;rw [ho];simp only [hq];rw [if_neg hk]
    have hkb : (l[j].cl == (κ : Int)) = false:=by simpa using hk
    by_cases h3 : κ < 3
    · refine (Ky H hb C who hG hz.le h3 f1 hlk f2 hBb hN.2.2 S3 hx hq hjl (by omega) hkb).mono ?_
      rintro e w' ⟨rfl,F⟩
      exact ⟨rfl,fin w' l hm.symm F h3⟩
    · rw [hm] at hcall
      refine (Nu H hb C who hG hz.le ⟨by omega,hκ⟩ f1 hlk f2 hBb hN.2.2 S3 hx hq hjl (by omega) hkb f' hcall).mono ?_
      rintro e w' ⟨rfl,F⟩
      exact ⟨rfl,C9 w' f' his hct F h3⟩
theorem step_shut (h : Z9 w L s) (hb : ¬ L.has b) (hK : Kp K L b w) (hz : YQ t n k m s σ z) (hG : Good t n k m g p r) (hσ : σ < 1000000) (who : Int) {i : Nat} {c : Ck} (hc : XZ w b o T L K cp cs f) (hcm : cp.cm = .shut i c) (hi : i < k) (hok : c.ok σ) {z' : Zt} {qo : Cm} (hz' : (if z.q.y.ck i = c then (z.lay i ⟨2,c.cl,c.us,c.sp + 1⟩,Cm.head i ⟨2,c.cl,c.us,c.sp + 1⟩ 0) else (z,Cm.Yf .first)) = (z',qo)) :
 Calls Tryz.prog 29 #[pP b o,eV t n k m g p r L.p who] w fun e w'=>e = .returned (.tuple #[]) /\ After t n k m σ L K b o T s who (Zr t n i) w z' { cp with cm:=qo } w':=by
 have I:=hc.is
 rw [hcm] at I
 obtain ⟨f0,f2,f3,f4,f5,f6,f7⟩:=I
 have hck : s.wd (Zr t n i) = (z.q.y.ck i).w:=hz.tw.YN.LG _ hi
 have hd : decide (s.wd (6 + t + n * 2 + i * 3) = c.w) = decide (z.q.y.ck i = c):=by
  rw [show s.wd (6 + t + n * 2 + i * 3) = (z.q.y.ck i).w from hck];exact Ck.dec (hz.tw.YN.ok i hi) hok
 refine WH h hc.cm who hG hz.le f0 (by decide) (by decide) _ (fun w1 g1=>?_)
 refine Dt (h.below g1) (hc.cm.grown g1) who f0 hi f3 _ (fun w2 g2=>?_)
 have g3:=grow g1 g2
 by_cases e : z.q.y.ck i = c
 · rw [if_pos e] at hz'
   obtain ⟨rfl,rfl⟩:=Prod.mk.inj hz'
   refine (Hu (h.below g3) hb (hc.cm.grown g3) who hG hz.le hi f3 hok (by omega) f4 f5 f6 f7 (by rw [hd];exact decide_eq_true e)).mono ?_
   rintro e' w' ⟨rfl,s',cs',f',m',o',i',rfl,rfl⟩
   have hcas : (s.by who).Xj (6 + t + n * 2 + i * 3) c.w (Ck.mk 2 c.cl c.us (c.sp + 1)).w = (s.by who).step (Zr t n i) (Ck.mk 2 c.cl c.us (c.sp + 1)).w:=by
    unfold Mm.Xj
    exact if_pos (show s.wd (Zr t n i) = c.w by rw [hck,e])
   rw [hcas] at m'
   refine ⟨rfl,_,m',hz.chunk hσ who hi _ ⟨by simp,hok.cl,hok.us,by have:=hok.sp;simp only;omega⟩,⟨cs',_,i',⟨rfl,f2,f3,⟨rfl,rfl,rfl,rfl⟩,rfl⟩,hc.ct.congr (fun j hj=>?_)⟩,(Only.ZZ g3).trans (hK.and o'),_,rfl⟩
   rw [Z7 _ _ _ _ (by omega),Z7 _ _ _ _ (by omega),Zd _ _ _ _ (by simp;omega)]
 · rw [if_neg e] at hz'
   obtain ⟨rfl,rfl⟩:=Prod.mk.inj hz'
   refine (DZ (h.below g3) hb (hc.cm.grown g3) who hG hz.le hi f3 hok (by omega) f4 f5 f6 f7 (by rw [hd];exact decide_eq_false e)).mono ?_
   rintro e' w' ⟨rfl,s',cs',f',m',o',i',rfl,rfl⟩
   have hcas : (s.by who).Xj (6 + t + n * 2 + i * 3) c.w (Ck.mk 2 c.cl c.us (c.sp + 1)).w = (s.by who).step (Zr t n i) (s.wd (Zr t n i)):=by
    unfold Mm.Xj
    exact if_neg (fun q=>e (of_decide_eq_true (hd ▸ decide_eq_true q)))
   rw [hcas] at m'
   refine ⟨rfl,_,m',hz.same hσ who _,⟨cs',_,i',⟨rfl,f2,OD i'⟩,hc.ct.congr (fun j hj=>?_)⟩,(Only.ZZ g3).trans (hK.and o'),_,rfl⟩
   rw [Z7 _ _ _ _ (by omega),Zd _ _ _ _ (by simp [ad0];omega),Zd _ _ _ _ (by simp;omega)]
theorem SK {v : Int} (hv : Wd v) (w : World) : Calls Tryz.prog 13 #[.int .u64 v] w fun e w'=>e = .returned (.agg #[iV (v % 4),iV (Ws v : Nat),iV (v / 262144 % 65536),iV (v / 17179869184 % 65536),.bool (VV v)]) /\ Below w.heap.size w w':=(CZ v hv).call w
theorem step_head (h : Z9 w L s) (hb : ¬ L.has b) (hK : Kp K L b w) (hz : YQ t n k m s σ z) (hG : Good t n k m g p r) (hσ : σ < 1000000) (who : Int) {i u : Nat} {c : Ck} (hc : XZ w b o T L K cp cs f) (hcm : cp.cm = .head i c u) (hi : i < k) (hok : c.ok σ) (hus : c.us <= m) (hu : u < c.us) {v : Int} (hv : z.q.dw (base t n k m i + u) = v) (hW : v % 4 = 2 -> (LD v (base t n k m i + u) i r).ok t n k m /\ u + Ws v < c.us) :
 Calls Tryz.prog 29 #[pP b o,eV t n k m g p r L.p who] w fun e w'=>e = .returned (.tuple #[]) /\ After t n k m σ L K b o T s who (base t n k m i + u) w z { cp with cm:=if v % 4 = 3 then .head i c (u + room c.cl) else if v % 4 = 2 then .OO i c u (LD v (base t n k m i + u) i r) (.see .see 0) else .leave i c } w':=by
 have I:=hc.is
 rw [hcm] at I
 obtain ⟨f0,f2,f3,⟨f4,f5,f6,f7⟩,f8⟩:=I
 have hvw : Wd v:=by rw [<- hv];exact hz.Jd _
 have hba : 6 + t + n * 2 + k * 3 <= base t n k m i + u:=by unfold base;omega
 have hwd : s.wd (6 + t + n * 2 + k * 3 + i * m + u) = v:=by rw [<- hv];exact hz.tw.LH _ hba
 have hsame:=hz.same hσ who (base t n k m i + u)
 rw [show s.wd (base t n k m i + u) = v from hwd] at hsame
 refine WH h hc.cm who hG hz.le f0 (by decide) (by decide) _ (fun w1 g1=>?_)
 refine Dq (h.below g1) (hc.cm.grown g1) who f0 hi f3 f8 f6 hus hu _ (fun w2 g2=>?_)
 have g3:=grow g1 g2
 by_cases h3 : v % 4 = 3
 · rw [if_pos h3]
   refine (KG (h.below g3) hb (hc.cm.grown g3) who hG hz.le hi f3 f8 (by omega) hwd (SK hvw) (by rw [h3];rfl) f5 (by have:=hok.cl;omega)).mono ?_
   rintro e w' ⟨rfl,s',cs',f',m',o',i',rfl,rfl⟩
   refine ⟨rfl,_,m',hsame,⟨cs',_,i',⟨rfl,f2,f3,⟨f4,f5,f6,f7⟩,rfl⟩,hc.ct.congr (fun j hj=>?_)⟩,(Only.ZZ g3).trans (hK.and o'),_,rfl⟩
   rw [Z7 _ _ _ _ (by omega),Z7 _ _ _ _ (by omega)]
 · rw [if_neg h3]
   have h3b : (v % 4 == 3) = false:=by simpa using h3
   by_cases h2 : v % 4 = 2
   · rw [if_pos h2]
     obtain ⟨hw,vw⟩:=hW h2
     refine (NC (Z:=Ws v) (κ:=(LD v (base t n k m i + u) i r).κ) (h.below g3) hb (hc.cm.grown g3) who hG hz.le hi f3 f8 (by omega) hwd (SK hvw) h3b (by rw [h2];rfl) hw.kz f6 hus vw).mono ?_
     rintro e w' ⟨rfl,s',cs',f',m',o',i',rfl,rfl⟩
     have mv:=wR i'
     have e1 : ((LD v (base t n k m i + u) i r).x : Int) = v / 262144 % 65536:=by show (((v / 262144 % 65536).toNat : Nat) : Int) = _;omega
     have e2 : ((LD v (base t n k m i + u) i r).G : Int) = v / 17179869184 % 65536:=by show (((v / 17179869184 % 65536).toNat : Nat) : Int) = _;omega
     have ms:=wB (LD v (base t n k m i + u) i r) (v % 4)
     rw [e1,e2] at ms
     refine ⟨rfl,_,m',hsame,⟨cs',_,i',⟨rfl,f2,f3,⟨f4,f5,f6,f7⟩,f8,_,mv,ms⟩,hc.ct.congr (fun j hj=>?_)⟩,(Only.ZZ g3).trans (hK.and o'),_,rfl⟩
     rw [Z7 _ _ _ _ (by omega),Zd _ _ _ _ (by simp [KH];omega)]
   · rw [if_neg h2]
     refine (KF (h.below g3) hb (hc.cm.grown g3) who hG hz.le hi f3 f8 (by omega) hwd (SK hvw) h3b (by simpa using h2)).mono ?_
     rintro e w' ⟨rfl,s',cs',f',m',o',i',rfl,rfl⟩
     exact ⟨rfl,_,m',hsame,⟨cs',_,i',⟨rfl,f2,f3,f4,f5,f6,f7⟩,hc.ct.congr (fun j hj=>Z7 _ _ _ _ (by omega))⟩,(Only.ZZ g3).trans (hK.and o'),_,rfl⟩
theorem GM (h : Z9 w L s) (hb : ¬ L.has b) (hK : Kp K L b w) (hz : YQ t n k m s σ z) (hG : Good t n k m g p r) (hσ : σ < 1000000) (who : Int) {i u : Nat} {c : Ck} (hc : XZ w b o T L K cp cs f) (hcm : cp.cm = .head i c u) (hi : i < k) (hus : c.us <= m) (hu : c.us <= u) :
 Calls Tryz.prog 29 #[pP b o,eV t n k m g p r L.p who] w fun e w'=>e = .returned (.tuple #[]) /\ After t n k m σ L K b o T s who 0 w z { cp with cm:=.note i c z.ep } w':=by
 have I:=hc.is
 rw [hcm] at I
 obtain ⟨f0,f2,f3,⟨f4,f5,f6,f7⟩,f8⟩:=I
 have hsame:=hz.same hσ who 0
 rw [hz.ep] at hsame
 refine WH h hc.cm who hG hz.le f0 (by decide) (by decide) _ (fun w1 g1=>?_)
 refine (Dn (h.below g1) hb (hc.cm.grown g1) who f0 hi f3 f8 f6 hus hu hG hz.le hz.ep).mono ?_
 rintro e w' ⟨rfl,s',cs',f',m',o',i',rfl,rfl⟩
 exact ⟨rfl,_,m',hsame,⟨cs',_,i',⟨rfl,f2,f3,⟨f4,f5,f6,f7⟩,rfl⟩,hc.ct.congr (fun j hj=>by rw [Z7 _ _ _ _ (by omega),Z7 _ _ _ _ (by omega),Z7 _ _ _ _ (by omega)])⟩,(Only.ZZ g1).trans (hK.and o'),_,rfl⟩
theorem GL (h : Z9 w L s) (hb : ¬ L.has b) (hK : Kp K L b w) (hz : YQ t n k m s σ z) (hG : Good t n k m g p r) (hσ : σ < 1000000) (who : Int) {i : Nat} {c : Ck} {E : Int} (hc : XZ w b o T L K cp cs f) (hcm : cp.cm = .note i c E) (hi : i < k) (hE : 0 <= E) :
 Calls Tryz.prog 29 #[pP b o,eV t n k m g p r L.p who] w fun e w'=>e = .returned (.tuple #[]) /\ After t n k m σ L K b o T s who (Zr t n i + 2) w { z with si:=upd z.si i E } { cp with cm:=.quiet i c } w':=by
 have I:=hc.is
 rw [hcm] at I
 obtain ⟨f0,f2,f3,hck,f28⟩:=I
 refine WH h hc.cm who hG hz.le f0 (by decide) (by decide) _ (fun w1 g1=>?_)
 refine (Dl (h.below g1) hb (hc.cm.grown g1) who f0 hi f3 hG hz.le f28).mono ?_
 rintro e w' ⟨rfl,s',cs',f',m',o',i',rfl,rfl⟩
 exact ⟨rfl,_,m',hz.since hσ who hi hE,⟨cs',_,i',⟨rfl,f2,f3,hck⟩,hc.ct.congr (fun j hj=>Z7 _ _ _ _ (by omega))⟩,(Only.ZZ g1).trans (hK.and o'),_,rfl⟩
theorem Ku (h : Z9 w L s) (hb : ¬ L.has b) (hK : Kp K L b w) (hz : YQ t n k m s σ z) (hG : Good t n k m g p r) (hσ : σ < 1000000) (who : Int) {i : Nat} {c : Ck} (hc : XZ w b o T L K cp cs f) (hcm : cp.cm = .leave i c) (hi : i < k) (hok : c.ok σ) (hw : cp.wk.lf <= 1000000) :
 Calls Tryz.prog 29 #[pP b o,eV t n k m g p r L.p who] w fun e w'=>e = .returned (.tuple #[]) /\ After t n k m σ L K b o T s who (Zr t n i) w (z.lay i ⟨1,c.cl,c.us,c.sp + 1⟩) { cp with cm:=.Yf .first,wk:={ cp.wk with lf:=cp.wk.lf + 1 } } w':=by
 have I:=hc.is
 rw [hcm] at I
 obtain ⟨f0,f2,f3,f4,f5,f6,f7⟩:=I
 have ct:=hc.ct
 refine WH h hc.cm who hG hz.le f0 (by decide) (by decide) _ (fun w1 g1=>?_)
 refine (GV (h.below g1) hb (hc.cm.grown g1) who f0 hi f3 hG hz.le hok (by omega) f4 f5 f6 f7 ct.P9 ⟨by omega,by omega⟩).mono ?_
 rintro e w' ⟨rfl,s',cs',f',m',o',i',rfl,rfl⟩
 refine ⟨rfl,_,m',hz.chunk hσ who hi _ ⟨by simp,hok.cl,hok.us,by have:=hok.sp;simp only;omega⟩,⟨cs',_,i',⟨rfl,f2,OD i'⟩,⟨ct.Qa,rfl,ct.Qi,ct.P8,ct.NK,ct.zf,ct.y9,ct.yZ,ct.Dh⟩⟩,(Only.ZZ g1).trans (hK.and o'),_,rfl⟩
theorem Kt (h : Z9 w L s) (hb : ¬ L.has b) (hK : Kp K L b w) (hz : YQ t n k m s σ z) (hG : Good t n k m g p r) (hσ : σ < 1000000) (who : Int) {i : Nat} {c : Ck} (hc : XZ w b o T L K cp cs f) (hcm : cp.cm = .quiet i c) (hi : i < k) (hok : c.ok σ) (hw : cp.wk.ev <= 1000000) :
 Calls Tryz.prog 29 #[pP b o,eV t n k m g p r L.p who] w fun e w'=>e = .returned (.tuple #[]) /\ After t n k m σ L K b o T s who (Zr t n i) w (z.lay i ⟨3,c.cl,c.us,c.sp + 1⟩) { cp with cm:=.Yf .first,wk:={ cp.wk with ev:=cp.wk.ev + 1 } } w':=by
 have I:=hc.is
 rw [hcm] at I
 obtain ⟨f0,f2,f3,f4,f5,f6,f7⟩:=I
 have ct:=hc.ct
 refine WH h hc.cm who hG hz.le f0 (by decide) (by decide) _ (fun w1 g1=>?_)
 refine (GU (h.below g1) hb (hc.cm.grown g1) who f0 hi f3 hG hz.le hok (by omega) f4 f5 f6 f7 ct.Qa ⟨by omega,by omega⟩).mono ?_
 rintro e w' ⟨rfl,s',cs',f',m',o',i',rfl,rfl⟩
 refine ⟨rfl,_,m',hz.chunk hσ who hi _ ⟨by simp,hok.cl,hok.us,by have:=hok.sp;simp only;omega⟩,⟨cs',_,i',⟨rfl,f2,OD i'⟩,⟨rfl,ct.P9,ct.Qi,ct.P8,ct.NK,ct.zf,ct.y9,ct.yZ,ct.Dh⟩⟩,(Only.ZZ g1).trans (hK.and o'),_,rfl⟩
theorem GK (h : Z9 w L s) (hb : ¬ L.has b) (hK : Kp K L b w) (hz : YQ t n k m s σ z) (hG : Good t n k m g p r) (hσ : σ < 1000000) (who : Int) {d : Ad} (hc : XZ w b o T L K cp cs f) (hcm : cp.cm = .Yf d) (ho : d.Zy = false) :
 Calls Tryz.prog 29 #[pP b o,eV t n k m g p r L.p who] w fun e w'=>e = .returned (.tuple #[]) /\ After t n k m σ L K b o T s who (Cm.at t n k m (.Yf d)) w (SY t z d).1 { cp with cm:=if (SY t z d).2.Zy = true then .Y5 0 .see else .Yf (SY t z d).2 } w':=by
 have I:=hc.is
 rw [hcm] at I
 obtain ⟨f0,f2,ad⟩:=I
 obtain ⟨s',d',ht⟩ : ∃ s' d',SN t who s d = (s',d'):=⟨_,_,rfl⟩
 obtain ⟨hl,hd',hv⟩:=zx hz hσ hG.k0 who ho ht
 rw [<- hd']
 refine Dj h hc.cm who hG hz.le f0 (by decide) (by decide) rfl _ (fun w1 g1=>?_)
 cases hx : d'.Zy with
 | false =>
  refine (zD (h.below g1) (hc.cm.grown g1) who s' d' (fun w2 g2=>?_)).mono ?_
  · have g3:=grow g1 g2
    exact Nk (h.below g3) hb (ad.grown g3) hG hz.le who ho s' d' ht false hx
  · rintro e w' ⟨rfl,cs',f',m',o',i',ad',hf⟩
    rw [if_neg (by simp)]
    refine ⟨rfl,s',m',hl,⟨cs',_,i',⟨(hf 0 (by omega)).trans f0,(hf 2 (by omega)).trans f2,ad'⟩,hc.ct.congr (fun j hj=>hf j (by omega))⟩,(Only.ZZ g1).trans (hK.and o'),hv⟩
 | true =>
  refine (DW (h.below g1) hb (hc.cm.grown g1) who s' d' (fun w2 g2=>?_)).mono ?_
  · have g3:=grow g1 g2
    exact Nk (h.below g3) hb (ad.grown g3) hG hz.le who ho s' d' ht true hx
  · rintro e w' ⟨rfl,cs',f',m',o',i',wz,h0,h1,hf⟩
    rw [if_pos rfl]
    refine ⟨rfl,s',m',hl,⟨cs',_,i',⟨h0,(hf 2 (by decide) (by decide) (by omega)).trans f2,h1,wz⟩,hc.ct.congr (fun j hj=>hf j (by omega) (by omega) (by omega))⟩,(Only.ZZ g1).trans (hK.and o'),hv⟩
end
end
section
section
variable {w : World} {L : Loc} {K : Nat -> Prop} {s : Mm} {b o : Nat} {T : TypeId} {t n k m σ : Nat} {g p r : Int} {z : Zt} {cp : Cp} {cs : Array Value} {f : Nat -> Value}
theorem CY (h : Z9 w L s) (hb : ¬ L.has b) (hK : Kp K L b w) (hz : YQ t n k m s σ z) (hG : Good t n k m g p r) (hσ : σ < 1000000) (who : Int) {i u : Nat} {c : Ck} {W : Mw} {μ : Mv} (hc : XZ w b o T L K cp cs f) (hcm : cp.cm = .OO i c u W μ) (hi : i < k) (hok : c.ok σ) (hu : u <= 900) (hW : W.ok t n k m) (htr : W.tr = r) (hg : μ.good t n k m σ W z.q) (ho : μ.Zy = false) (hw : cp.wk.mv <= 1000000) {q' : Q} {μ' : Mv} (hq : Yo W k m (base t n k m) z.q μ = (q',μ')) :
 Calls Tryz.prog 29 #[pP b o,eV t n k m g p r L.p who] w fun e w'=>e = .returned (.tuple #[]) /\ After t n k m σ L K b o T s who (μ.at t n W) w { z with q:=q' } (VL cp i c u W μ') w':=by
 have I:=hc.is
 rw [hcm] at I
 obtain ⟨f0,f2,f3,⟨f4,f5,f6,f7⟩,f8,a,hm,hms⟩:=I
 have ct:=hc.ct
 obtain ⟨a0,a1,a2⟩:=tV hW hg ho
 have hcl : c.cl < 4:=by have:=hok.cl;omega
 have st : ∀ (d : Bool),μ'.Zy = d -> ∀ w1,Below w.heap.size w w1 -> Calls Tryz.prog 150 #[pP b (o + 9),eV t n k m g p r L.p who] w1 fun e w'=>e = .returned (.bool d) /\ ∃ s' cs' a',Z9 w' L s' /\ ZL w' b (o + 9) T cs' a' /\ Same (o + 9) 19 cs cs' /\ Only (L.and b) w1 w' /\ (YQ t n k m s' (σ + 1) { z with q:=q' } /\ QN W μ' a' /\ ∃ v,s' = (s.by who).step (μ.at t n W) v):=by
  intro d hd w1 g1
  refine (GI (h.below g1) hb hz.tw hG hσ hz.Jd hW htr μ (hm.grown g1) hms hg ho who q' μ' hq d hd).mono ?_
  rintro e w' ⟨rfl,s',cs',a',D⟩
  obtain ⟨v,hv⟩:=D.st
  refine ⟨rfl,s',cs',a',D.mm,D.mv,D.same,D.only,?_,D.is,v,hv⟩
  have tw:=D.tw
  rw [hv] at tw ⊢
  exact hz.rest who _ v a0 a1 a2 tw (GH hz.Jd hq)
 refine WH h hc.cm who hG hz.le f0 (by decide) (by decide) _ (fun w1 g1=>?_)
 refine zh (h.below g1) (hc.cm.grown g1) who f0 hi f3 _ (fun w2 g2=>?_)
 have g3:=grow g1 g2
 have rF:=fun d hd w3 (g4 : Below w2.heap.size w2 w3)=>st d hd w3 (grow g3 g4)
 cases hx : μ'.Zy with
 | false =>
  refine (DX (h.below g3) (hc.cm.grown g3) who _ (rF false hx)).mono ?_
  rintro e w' ⟨rfl,s',cs',f',a',m',o',i',⟨hl,his,hv⟩,mv',hf⟩
  rw [Uy _ _ _ _ _ hx]
  exact ⟨rfl,s',m',hl,⟨cs',_,i',⟨(hf 0 (by omega)).trans f0,(hf 2 (by omega)).trans f2,(hf 3 (by omega)).trans f3,⟨(hf 4 (by omega)).trans f4,(hf 5 (by omega)).trans f5,(hf 6 (by omega)).trans f6,(hf 7 (by omega)).trans f7⟩,(hf 8 (by omega)).trans f8,a',mv',his⟩,ct.congr (fun j hj=>hf j (by omega))⟩,(Only.ZZ g3).trans (hK.and o'),hv⟩
 | true =>
  cases μ' with
  | over ou τ =>
   have wu : ∀ s' a',(YQ t n k m s' (σ + 1) { z with q:=q' } /\ QN W (.over ou τ) a' /\ ∃ v,s' = (s.by who).step (μ.at t n W) v) -> a'.nx = 12:=fun _ _ hh=>hh.2.1.nx
   have hou : ∀ s' a',(YQ t n k m s' (σ + 1) { z with q:=q' } /\ QN W (.over ou τ) a' /\ ∃ v,s' = (s.by who).step (μ.at t n W) v) -> a'.ou = ou:=fun _ _ hh=>hh.2.1.sec
   unfold VL
   simp only
   by_cases h1 : ou = 1
   · rw [if_pos h1]
     refine (KJ (h.below g3) hb (hc.cm.grown g3) who _ (rF true hx) wu hou f5 hcl f8 (by omega) (by rw [h1];rfl) ct.P8 ⟨by omega,by omega⟩).mono ?_
     rintro e w' ⟨rfl,s',cs',f',a',m',o',i',⟨hl,his,hv⟩,e0,e8,e46,hf⟩
     have F:=fun j (h0 : j ≠ 0) (h8 : j ≠ 8) (h46 : j ≠ 46) hh=>hf j h0 h8 h46 hh
     exact ⟨rfl,s',m',hl,⟨cs',_,i',⟨e0,(F 2 (by decide) (by decide) (by decide) (by omega)).trans f2,(F 3 (by decide) (by decide) (by decide) (by omega)).trans f3,⟨(F 4 (by decide) (by decide) (by decide) (by omega)).trans f4,(F 5 (by decide) (by decide) (by decide) (by omega)).trans f5,(F 6 (by decide) (by decide) (by decide) (by omega)).trans f6,(F 7 (by decide) (by decide) (by decide) (by omega)).trans f7⟩,e8⟩,⟨(F 43 (by decide) (by decide) (by decide) (by omega)).trans ct.Qa,(F 44 (by decide) (by decide) (by decide) (by omega)).trans ct.P9,(F 45 (by decide) (by decide) (by decide) (by omega)).trans ct.Qi,e46,(F 47 (by decide) (by decide) (by decide) (by omega)).trans ct.NK,(F 48 (by decide) (by decide) (by decide) (by omega)).trans ct.zf,(F 50 (by decide) (by decide) (by decide) (by omega)).trans ct.y9,(F 51 (by decide) (by decide) (by decide) (by omega)).trans ct.yZ,(F 53 (by decide) (by decide) (by decide) (by omega)).trans ct.Dh⟩⟩,(Only.ZZ g3).trans (hK.and o'),hv⟩
   · rw [if_neg h1]
     have h1b : (ou == 1) = false:=by simpa using h1
     by_cases h2 : ou = 2
     · rw [if_pos h2]
       refine (Ht (h.below g3) hb (hc.cm.grown g3) who _ (rF true hx) wu hou f5 hcl f8 (by omega) h1b (by rw [h2];rfl)).mono ?_
       rintro e w' ⟨rfl,s',cs',f',a',m',o',i',⟨hl,his,hv⟩,e0,e8,hf⟩
       exact ⟨rfl,s',m',hl,⟨cs',_,i',⟨e0,(hf 2 (by decide) (by decide) (by omega)).trans f2,(hf 3 (by decide) (by decide) (by omega)).trans f3,⟨(hf 4 (by decide) (by decide) (by omega)).trans f4,(hf 5 (by decide) (by decide) (by omega)).trans f5,(hf 6 (by decide) (by decide) (by omega)).trans f6,(hf 7 (by decide) (by decide) (by omega)).trans f7⟩,e8⟩,ct.congr (fun j hj=>hf j (by omega) (by omega) (by omega))⟩,(Only.ZZ g3).trans (hK.and o'),hv⟩
     · rw [if_neg h2]
       refine (Hq (h.below g3) hb (hc.cm.grown g3) who _ (rF true hx) wu hou h1b (by simpa using h2)).mono ?_
       rintro e w' ⟨rfl,s',cs',f',a',m',o',i',⟨hl,his,hv⟩,e0,hf⟩
       exact ⟨rfl,s',m',hl,⟨cs',_,i',⟨e0,(hf 2 (by decide) (by omega)).trans f2,(hf 3 (by decide) (by omega)).trans f3,(hf 4 (by decide) (by omega)).trans f4,(hf 5 (by decide) (by omega)).trans f5,(hf 6 (by decide) (by omega)).trans f6,(hf 7 (by decide) (by omega)).trans f7⟩,ct.congr (fun j hj=>hf j (by omega) (by omega))⟩,(Only.ZZ g3).trans (hK.and o'),hv⟩
  | _=>cases hx
theorem yY (hi : ZN w b o T cs f) (ct : Oo f cp) (f2 : f 2 = .slice none 0 0) (h0 : cp.Uz <= 1000000) (h1 : cp.wk.rd <= 1000000) :
 Calls Tryz.prog 111 #[pP b o] w fun e w'=>e = .returned (.tuple #[]) /\ (∃ cs' f',ZN w' b o T cs' f' /\ f' 0 = iV 0 /\ f' 1 = iV 0 /\ f' 2 = .slice none 0 0 /\ Oo f' cp.Xb) /\ Only (fun k=>k = b) w w':=by
 have hx : (0 : Int) <= (cp.Uz : Int) /\ (cp.Uz : Int) <= 1000000:=⟨by omega,by omega⟩
 have hr : (0 : Int) <= (cp.wk.rd : Int) /\ (cp.wk.rd : Int) <= 1000000:=⟨by omega,by omega⟩
 have eq : ∀ {a b : Nat},¬ a = b -> (((a : Nat) : Int) != ((b : Nat) : Int)) = true:=fun {a b} e=>by simp;omega
 have eq' : ∀ {a b : Nat},a = b -> (((a : Nat) : Int) != ((b : Nat) : Int)) = false:=fun {a b} e=>by simp [e]
 have cast : ((cp.wk.rd : Nat) : Int) + 1 = ((cp.wk.rd + 1 : Nat) : Int):=by omega
 have tC : ((cp.Uz : Nat) : Int) + 1 = ((cp.Uz + 1 : Nat) : Int):=by omega
 unfold Cp.Xb
 by_cases e1 : cp.wk.ev = cp.ah.ev
 · by_cases e2 : cp.wk.mv = cp.ah.mv
   · by_cases e3 : cp.wk.fr = cp.ah.fr
     · rw [if_pos ⟨e1,e2,e3⟩]
       refine (Hg hi ct.Qa ct.P9 ct.Qi ct.P8 ct.NK ct.zf ct.yZ ct.y9 ct.Dh hx hr (eq' e1) (eq' e2) (eq' e3)).mono ?_
       rintro e w' ⟨rfl,⟨cs',i'⟩,o'⟩
       rw [cast,tC] at i'
       exact ⟨rfl,⟨cs',_,i',rfl,rfl,f2,⟨ct.Qa,ct.P9,ct.Qi,ct.P8,rfl,rfl,rfl,rfl,rfl⟩⟩,o'⟩
     · rw [if_neg (fun hh=>e3 hh.2.2)]
       refine (zn hi ct.Qa ct.P9 ct.Qi ct.P8 ct.NK ct.zf ct.yZ ct.y9 ct.Dh hx hr (eq' e1) (eq' e2) (eq e3)).mono ?_
       rintro e w' ⟨rfl,⟨cs',i'⟩,o'⟩
       rw [cast] at i'
       exact ⟨rfl,⟨cs',_,i',rfl,rfl,f2,⟨ct.Qa,ct.P9,ct.Qi,ct.P8,rfl,rfl,rfl,rfl,rfl⟩⟩,o'⟩
   · rw [if_neg (fun hh=>e2 hh.2.1)]
     refine (zq hi ct.Qa ct.P9 ct.Qi ct.P8 ct.NK ct.zf ct.yZ ct.y9 ct.Dh hx hr (eq' e1) (eq e2)).mono ?_
     rintro e w' ⟨rfl,⟨cs',i'⟩,o'⟩
     rw [cast] at i'
     exact ⟨rfl,⟨cs',_,i',rfl,rfl,f2,⟨ct.Qa,ct.P9,ct.Qi,ct.P8,rfl,rfl,rfl,rfl,rfl⟩⟩,o'⟩
 · rw [if_neg (fun hh=>e1 hh.1)]
   refine (zt hi ct.Qa ct.P9 ct.Qi ct.P8 ct.NK ct.zf ct.yZ ct.y9 ct.Dh hx hr (eq e1)).mono ?_
   rintro e w' ⟨rfl,⟨cs',i'⟩,o'⟩
   rw [cast] at i'
   exact ⟨rfl,⟨cs',_,i',rfl,rfl,f2,⟨ct.Qa,ct.P9,ct.Qi,ct.P8,rfl,rfl,rfl,rfl,rfl⟩⟩,o'⟩
theorem Gz (h : Z9 w L s) (hb : ¬ L.has b) (hK : Kp K L b w) (hz : YQ t n k m s σ z) (hG : Good t n k m g p r) (hσ : σ < 1000000) (who : Int) {i : Nat} {d : Se} (hc : XZ w b o T L K cp cs f) (hcm : cp.cm = .Y5 i d) (hi : i < k) (hgd : d.good m) (ho : d.Zy = false) (hsp : ∀ c,d = .free c -> c.sp <= σ) (hw : cp.wk.fr <= 1000000 /\ cp.wk.rd <= 1000000 /\ cp.Uz <= 1000000) :
 Calls Tryz.prog 29 #[pP b o,eV t n k m g p r L.p who] w fun e w'=>e = .returned (.tuple #[]) /\ After t n k m σ L K b o T s who (Cm.at t n k m (.Y5 i d)) w (Wv t n k m i z d).1 (if (Wv t n k m i z d).2.Zy = true then Za k i cp (Wv t n k m i z d).2.freed else { cp with cm:=.Y5 i (Wv t n k m i z d).2 }) w':=by
 have I:=hc.is
 rw [hcm] at I
 obtain ⟨f0,f2,f1,se⟩:=I
 have ct:=hc.ct
 have hk1:=hG.k1
 obtain ⟨s',d',ht⟩ : ∃ s' d',QY t n k m i who (z.q.y.ck i) s d = (s',d'):=⟨_,_,rfl⟩
 obtain ⟨hl,hd',hv⟩:=zu hz hσ hi who hgd ho hsp ht
 rw [<- hd']
 have hN : s.wd 0 < 18446744073709551616:=by have:=hz.tw.ep.2;omega
 have st : ∀ x,d'.Zy = x -> ∀ w1,Below w.heap.size w w1 -> _:=fun x hx w1 (g1 : Below w.heap.size w w1)=>CX (h.below g1) hb (se.grown g1) hG hz.le hi who (hz.tw.YN.LG i hi) (hz.tw.YN.ok i hi) (by omega) hN hgd ho s' d' ht x hx
 refine Di h hc.cm who hG hz.le f0 (by decide) (by decide) rfl _ (fun w1 g1=>?_)
 have st1:=fun x hx w2 (g2 : Below w1.heap.size w1 w2)=>st x hx w2 (grow g1 g2)
 cases hx : d'.Zy with
 | false =>
  refine (CW (h.below g1) (hc.cm.grown g1) who s' d' (st1 false hx)).mono ?_
  rintro e w' ⟨rfl,cs',f',m',o',i',wz,hf⟩
  rw [if_neg (by simp)]
  exact ⟨rfl,s',m',hl,⟨cs',_,i',⟨(hf 0 (by omega)).trans f0,(hf 2 (by omega)).trans f2,(hf 1 (by omega)).trans f1,wz⟩,ct.congr (fun j hj=>hf j (by omega))⟩,(Only.ZZ g1).trans (hK.and o'),hv⟩
 | true =>
  rw [if_pos rfl]
  cases d' with
  | over x =>
   have hfr : (Se.over x).freed = x:=rfl
   rw [hfr]
   -- the counts behind it
   have fin : ∀ (cp1 : Cp) (G : Nat -> Value),Oo G cp1 -> (∀ j,j < 43 -> G j = f j) -> cp1.wk.rd <= 1000000 -> cp1.Uz <= 1000000 -> ∀ w2 c2 F,ZN w2 b o T c2 F -> (∀ j,j ≠ 0 -> j ≠ 1 -> j < 34 \/ 43 <= j -> F j = G j) -> Calls Tryz.prog 111 #[pP b o] w2 fun e w'=>e = .returned (.tuple #[]) /\ (∃ cs' f',ZN w' b o T cs' f' /\ (f' 0 = iV 0 /\ f' 1 = iV 0 /\ f' 2 = .slice none 0 0 /\ Oo f' cp1.Xb)) /\ Only (fun k=>k = b) w2 w':=by
    intro cp1 G hG1 hG2 hr hid w2 c2 F iF eF
    exact yY iF (hG1.congr (cm:=cp1.cm) (fun j hj=>eF j (by omega) (by omega) (by omega))) ((eF 2 (by decide) (by decide) (by omega)).trans ((hG2 2 (by decide)).trans f2)) hid hr
   cases x with
   | false =>
    by_cases hlt : i + 1 < k
    · have e : Za k i cp false = { cp with cm:=.Y5 (i + 1) .see }:=by unfold Za;rw [if_pos hlt,if_neg (by simp)]
      rw [e]
      refine (Om (h.below g1) hb (hc.cm.grown g1) who s' _ (st1 true rfl) rfl hlt hk1 f1).mono ?_
      rintro e w' ⟨rfl,cs',f',m',o',i',wz,e0,e1,hf⟩
      exact ⟨rfl,s',m',hl,⟨cs',_,i',⟨e0,(hf 2 (by decide) (by decide) (by omega)).trans f2,e1,wz⟩,ct.congr (fun j hj=>hf j (by omega) (by omega) (by omega))⟩,(Only.ZZ g1).trans (hK.and o'),hv⟩
    · have e : Za k i cp false = cp.Xb:=by unfold Za;rw [if_neg hlt,if_neg (by simp)]
      rw [e]
      refine (QM (h.below g1) hb (hc.cm.grown g1) who s' _ (st1 true rfl) rfl ⟨by omega,hi⟩ hk1 f1 _ (fin cp f ct (fun _ _=>rfl) hw.2.1 hw.2.2)).mono ?_
      rintro e w' ⟨rfl,cs',f',m',o',i',e0,e1,e2,ec⟩
      exact ⟨rfl,s',m',hl,⟨cs',_,i',⟨e0,e1,Or.inl ⟨e2,rfl⟩,fun y hy=>by rw [e2] at hy;cases hy⟩,ec⟩,(Only.ZZ g1).trans (hK.and o'),hv⟩
   | true =>
    have hwf : (0 : Int) <= (cp.wk.fr : Int) /\ (cp.wk.fr : Int) <= 100000000:=⟨by omega,by have:=hw.1;omega⟩
    have mO : ((cp.wk.fr : Nat) : Int) + 1 = ((cp.wk.fr + 1 : Nat) : Int):=by omega
    have oN : Oo (upd f 45 (iV ((cp.wk.fr : Int) + 1))) { cp with wk:={ cp.wk with fr:=cp.wk.fr + 1 } }:=⟨ct.Qa,ct.P9,congrArg (Value.int .i64) mO,ct.P8,ct.NK,ct.zf,ct.y9,ct.yZ,ct.Dh⟩
    by_cases hlt : i + 1 < k
    · have e : Za k i cp true = { cp with cm:=.Y5 (i + 1) .see,wk:={ cp.wk with fr:=cp.wk.fr + 1 } }:=by unfold Za;rw [if_pos hlt,if_pos rfl]
      rw [e]
      refine (PW (h.below g1) hb (hc.cm.grown g1) who s' _ (st1 true rfl) rfl hlt hk1 f1 ct.Qi hwf).mono ?_
      rintro e w' ⟨rfl,cs',f',m',o',i',wz,e0,e1,hf⟩
      exact ⟨rfl,s',m',hl,⟨cs',_,i',⟨e0,(hf 2 (by decide) (by decide) (by omega)).trans f2,e1,wz⟩,oN.congr (cm:=.Y5 (i + 1) .see) (fun j hj=>hf j (by omega) (by omega) (by omega))⟩,(Only.ZZ g1).trans (hK.and o'),hv⟩
    · have e : Za k i cp true = ({ cp with wk:={ cp.wk with fr:=cp.wk.fr + 1 } } : Cp).Xb:=by unfold Za;rw [if_neg hlt,if_pos rfl]
      rw [e]
      refine (RJ (h.below g1) hb (hc.cm.grown g1) who s' _ (st1 true rfl) rfl ⟨by omega,hi⟩ hk1 f1 ct.Qi hwf _ (fin _ _ oN (fun j hj=>Z7 _ _ _ _ (by omega)) hw.2.1 hw.2.2)).mono ?_
      rintro e w' ⟨rfl,cs',f',m',o',i',e0,e1,e2,ec⟩
      exact ⟨rfl,s',m',hl,⟨cs',_,i',⟨e0,e1,Or.inl ⟨e2,rfl⟩,fun y hy=>by rw [e2] at hy;cases hy⟩,ec⟩,(Only.ZZ g1).trans (hK.and o'),hv⟩
  | _=>cases hx
structure Cp.few (cp : Cp) (σ : Nat) : Prop where
 wk : cp.wk.le 1000000
 id : cp.Uz <= 1000000
 sp : ∀ i c,cp.cm = .Y5 i (.free c) -> c.sp <= σ
theorem Jb (h : Z9 w L s) (hb : ¬ L.has b) (hK : Kp K L b w) (hz : YQ t n k m s σ z) (hG : Good t n k m g p r) (hσ : σ < 1000000) (who : Int) (hc : XZ w b o T L K cp cs f) (hg : cp.cm.good t n k m σ r z) (hw : cp.few σ) {z' : Zt} {cp' : Cp} (ht : Zf t n k m p r z cp = (z',cp')) :
 Calls Tryz.prog 29 #[pP b o,eV t n k m g p r L.p who] w fun e w'=>e = .returned (.tuple #[]) /\ After t n k m σ L K b o T s who (cp.cm.at t n k m) w z' cp' w':=by
 obtain ⟨⟨w1,w2,w3,w4,w5⟩,hid,hsp⟩:=hw
 cases hcm : cp.cm with
 | see l =>
  rw [hcm] at hg
  simp only [Zf,hcm] at ht
  obtain ⟨rfl,rfl⟩:=Prod.mk.inj ht
  exact Df h hb hK hz hG hσ who hc hcm hg.1
 | cnt l c =>
  rw [hcm] at hg
  simp only [Zf,hcm] at ht
  obtain ⟨rfl,rfl⟩:=Prod.mk.inj ht
  exact Dc h hb hK hz hG hσ who hc hcm hg.1 hg.2.2.2
 | opn l κ =>
  rw [hcm] at hg
  simp only [Zf,hcm] at ht
  obtain ⟨rfl,rfl⟩:=Prod.mk.inj ht
  exact step_opn h hb hK hz hG hσ who hc hcm hg.1 hg.2.1 hg.2.2
 | shut i c =>
  rw [hcm] at hg
  simp only [Zf,hcm] at ht
  refine step_shut h hb hK hz hG hσ who hc hcm hg.1 hg.2 (z':=z') (qo:=cp'.cm) ?_ |>.mono ?_
  · by_cases e : z.q.y.ck i = c
    · rw [if_pos e] at ht ⊢;obtain ⟨rfl,rfl⟩:=Prod.mk.inj ht;rfl
    · rw [if_neg e] at ht ⊢;obtain ⟨rfl,rfl⟩:=Prod.mk.inj ht;rfl
  · rintro e w' ⟨rfl,A⟩
    have e2 : cp' = { cp with cm:=cp'.cm }:=by
     by_cases e : z.q.y.ck i = c
     · rw [if_pos e] at ht;obtain ⟨rfl,rfl⟩:=Prod.mk.inj ht;rfl
     · rw [if_neg e] at ht;obtain ⟨rfl,rfl⟩:=Prod.mk.inj ht;rfl
    rw [<- e2] at A
    exact ⟨rfl,A⟩
 | head i c u =>
  rw [hcm] at hg
  obtain ⟨hi,hok,hus,hW,lh⟩:=hg
  simp only [Zf,hcm] at ht
  by_cases hu : c.us <= u
  · rw [if_pos hu] at ht
    obtain ⟨rfl,rfl⟩:=Prod.mk.inj ht
    have : Cm.at t n k m (.head i c u) = 0:=if_pos hu
    rw [this]
    exact GM h hb hK hz hG hσ who hc hcm hi hus hu
  · rw [if_neg hu] at ht
    obtain ⟨rfl,rfl⟩:=Prod.mk.inj ht
    have : Cm.at t n k m (.head i c u) = base t n k m i + u:=if_neg hu
    rw [this]
    exact step_head h hb hK hz hG hσ who hc hcm hi hok hus (by omega) rfl (hW (by omega))
 | OO i c u W μ =>
  rw [hcm] at hg
  obtain ⟨hi,hok,-,hu,mM,htr,hgd,ho⟩:=hg
  simp only [Zf,hcm] at ht
  obtain ⟨rfl,rfl⟩:=Prod.mk.inj ht
  exact CY h hb hK hz hG hσ who hc hcm hi hok hu mM htr hgd ho w4 rfl
 | leave i c =>
  rw [hcm] at hg
  simp only [Zf,hcm] at ht
  obtain ⟨rfl,rfl⟩:=Prod.mk.inj ht
  exact Ku h hb hK hz hG hσ who hc hcm hg.1 hg.2 w2
 | note i c E =>
  rw [hcm] at hg
  simp only [Zf,hcm] at ht
  obtain ⟨rfl,rfl⟩:=Prod.mk.inj ht
  exact GL h hb hK hz hG hσ who hc hcm hg.1 hg.2.2
 | quiet i c =>
  rw [hcm] at hg
  simp only [Zf,hcm] at ht
  obtain ⟨rfl,rfl⟩:=Prod.mk.inj ht
  exact Kt h hb hK hz hG hσ who hc hcm hg.1 hg.2 w1
 | Yf d =>
  rw [hcm] at hg
  simp only [Zf,hcm] at ht
  obtain ⟨rfl,rfl⟩:=Prod.mk.inj ht
  exact GK h hb hK hz hG hσ who hc hcm hg
 | Y5 i d =>
  rw [hcm] at hg
  simp only [Zf,hcm] at ht
  obtain ⟨rfl,rfl⟩:=Prod.mk.inj ht
  exact Gz h hb hK hz hG hσ who hc hcm hg.1 hg.2.1 hg.2.2 (fun c e=>hsp i c (by rw [hcm,e])) ⟨w3,w5,hid⟩
end
end
section
inductive Path (t n k m : Nat) (sp tr : Int) (R : Nat) : Nat -> Nat -> Zt -> Cp -> Zt -> Cp -> Prop where
 | nil {σ : Nat} {z : Zt} {cp : Cp} : Path t n k m sp tr R 0 σ z cp z cp
 | cons {N σ : Nat} {z : Zt} {cp : Cp} {z1 : Zt} {cp1 : Cp} {z' : Zt} {cp' : Cp} (hr : cp.wk.rd = R) (hg : cp.cm.good t n k m σ tr z) (hf : cp.few σ) (ht : Zf t n k m sp tr z cp = (z1,cp1)) (g : Path t n k m sp tr R N (σ + 1) z1 cp1 z' cp') : Path t n k m sp tr R (N + 1) σ z cp z' cp'
section
variable {t n k m : Nat} {sp tr : Int} {R : Nat}
theorem Path.trans {N M σ : Nat} {z z1 z2 : Zt} {cp cp1 cp2 : Cp} (h : Path t n k m sp tr R N σ z cp z1 cp1) (g : Path t n k m sp tr R M (σ + N) z1 cp1 z2 cp2) : Path t n k m sp tr R (N + M) σ z cp z2 cp2:=by
 induction h with
 | nil=>rw [Nat.zero_add];exact g
 | cons hr hg hf ht _ ih =>
  rename_i N' σ' _ _ _ _ _ _ _
  rw [show N' + 1 + M = N' + M + 1 by omega]
  exact .cons hr hg hf ht (ih (by rw [show σ' + 1 + N' = σ' + (N' + 1) by omega];exact g))
theorem Path.one {σ : Nat} {z z1 : Zt} {cp cp1 : Cp} (hr : cp.wk.rd = R) (hg : cp.cm.good t n k m σ tr z) (hf : cp.few σ) (ht : Zf t n k m sp tr z cp = (z1,cp1)) : Path t n k m sp tr R 1 σ z cp z1 cp1:=.cons hr hg hf ht .nil
theorem Cp.few.cm {cp : Cp} {σ σ' : Nat} (h : cp.few σ) {c : Cm} (hc : ∀ i d,c ≠ .Y5 i (.free d)) : ({ cp with cm:=c } : Cp).few σ':=⟨h.wk,h.id,fun i d e=>absurd e (hc i d)⟩
def Y.isOpen (y : Y) (i : Nat) : Bool:=decide ((y.ck i).cl < 4 /\ y.op (y.ck i).cl = i + 1)
def Zt.sn (z : Zt) (κ i : Nat) : Sn:=⟨(z.q.y.ck i).st,(z.q.y.ck i).cl,(z.q.y.ck i).us,(z.q.y.ck i).sp,(z.q.lv i : Int) - z.q.db i,decide ((z.q.y.ck i).cl < κ) && z.q.y.isOpen i⟩
def Zt.V8 (z : Zt) (κ N : Nat) : List Sn:=(List.range N).map (z.sn κ)
theorem Zt.Wl (z : Zt) (κ N : Nat) : (z.V8 κ N).length = N:=by simp [Zt.V8]
theorem Zt.SL (z : Zt) (κ N : Nat) {i : Nat} (h : i < N) : (z.V8 κ N)[i]? = some (z.sn κ i):=by simp [Zt.V8,h]
theorem Zt.Ns (z : Zt) (N : Nat) : z.V8 0 (N + 1) = z.V8 0 N ++ [(z.q.y.ck N).sn ((z.q.lv N : Int) - z.q.db N)]:=by
 simp [Zt.V8,List.range_succ,Zt.sn,Ck.sn]
theorem Zt.Nr (z : Zt) {κ : Nat} (hκ : κ < 4) (hop : z.q.y.op κ <= k) : mark z.q.y (z.V8 κ k) κ = z.V8 (κ + 1) k:=by
 apply List.ext_getElem?
 intro i
 have hlen : (mark z.q.y (z.V8 κ k) κ).length = k:=by rw [TU,Zt.Wl]
 by_cases hi : i < k
 · rw [z.SL (κ + 1) k hi]
   have other : (z.q.y.ck i).cl ≠ κ \/ z.q.y.op κ ≠ i + 1 -> z.sn (κ + 1) i = z.sn κ i:=fun hh=>by
    have e : (decide ((z.q.y.ck i).cl < κ + 1) && z.q.y.isOpen i) = (decide ((z.q.y.ck i).cl < κ) && z.q.y.isOpen i):=by
     by_cases hc : (z.q.y.ck i).cl = κ
     · have ho:=hh.resolve_left (fun g=>g hc)
       have : z.q.y.isOpen i = false:=decide_eq_false (by rw [hc];exact fun g=>ho g.2)
       rw [this,Bool.and_false,Bool.and_false]
     · have : decide ((z.q.y.ck i).cl < κ + 1) = decide ((z.q.y.ck i).cl < κ):=by
        apply decide_eq_decide.2;omega
       rw [this]
    unfold Zt.sn
    rw [e]
   unfold mark
   cases ho : z.q.y.op κ with
   | zero =>
    simp only
    rw [z.SL κ k hi,other (Or.inr (by omega))]
   | succ j =>
    have hj : j < k:=by omega
    simp only [z.SL κ k hj]
    by_cases hc : (z.sn κ j).cl = κ
    · rw [if_pos hc]
      have hcn : (z.q.y.ck j).cl = κ:=by have : ((z.q.y.ck j).cl : Int) = κ:=hc;omega
      by_cases e : i = j
      · subst e
        rw [List.getElem?_set_self (by rw [Zt.Wl];exact hi)]
        have : (decide ((z.q.y.ck i).cl < κ + 1) && z.q.y.isOpen i) = true:=by
         rw [decide_eq_true (by omega),Bool.true_and]
         exact decide_eq_true ⟨by omega,by rw [hcn];exact ho⟩
        unfold Zt.sn
        rw [this]
      · rw [List.getElem?_set_ne (fun h=>e h.symm),z.SL κ k hi,other (Or.inr (by omega))]
    · rw [if_neg hc,z.SL κ k hi]
      by_cases e : i = j
      · subst e
        rw [other (Or.inl (fun h=>hc (by show ((z.q.y.ck i).cl : Int) = κ;omega)))]
      · rw [other (Or.inr (by omega))]
 · rw [List.getElem?_eq_none (by omega),List.getElem?_eq_none (by rw [Zt.Wl];omega)]
structure Zt.calm (k m σ : Nat) (z : Zt) : Prop where
 ok : ∀ i,i < k -> (z.q.y.ck i).ok σ
 op : ∀ c,c < 4 -> z.q.y.op c <= k
 us : ∀ i,i < k -> (z.q.y.ck i).us <= m
 lv : ∀ i,i < k -> z.q.lv i <= 100000 /\ z.q.db i = 0
theorem Zt.calm.up {σ σ' : Nat} {z : Zt} (h : z.calm k m σ) (hs : σ <= σ') : z.calm k m σ':=⟨fun i hi=>(h.ok i hi).up hs,h.op,h.us,h.lv⟩
theorem Zt.calm.V8 {σ : Nat} {z : Zt} (h : z.calm k m σ) (hσ : σ <= 1000000) (κ N : Nat) (hN : N <= k) : ∀ q ∈ z.V8 κ N,Xa σ q:=by
 intro q hq
 simp only [Zt.V8,List.mem_map,List.mem_range] at hq
 obtain ⟨i,hi,rfl⟩:=hq
 have hl:=h.lv i (by omega)
 have:=Ck.xZ (h.ok i (by omega)) (by omega) (v:=(z.q.lv i : Int) - z.q.db i) (by omega) (by omega)
 exact ⟨this.1,this.2⟩
theorem Nq {σ : Nat} {z : Zt} (h : z.calm k m σ) (hσ : σ + 2 * k <= 1000000) {cp : Cp} (hr : cp.wk.rd = R) (hf : cp.few σ) : ∀ N,N < k -> Path t n k m sp tr R (2 * N) σ z { cp with cm:=.see [] } z { cp with cm:=.see (z.V8 0 N) }:=by
 intro N
 induction N with
 | zero=>intro _;exact .nil
 | succ N ih =>
  intro hN
  refine (ih (by omega)).trans (M:=2) ?_
  have hl:=z.Wl 0 N
  have hc:=h.up (σ':=σ + 2 * N) (by omega)
  refine .cons hr ⟨by rw [hl];omega,hc.V8 (by omega) 0 N (by omega)⟩ (hf.cm (fun _ _ e=>by cases e)) (show Zf t n k m sp tr z _ = (z,{ cp with cm:=.cnt (z.V8 0 N) (z.q.y.ck (z.V8 0 N).length) }) from rfl) (.one hr ⟨by rw [hl];omega,(hc.up (Nat.le_succ _)).V8 (by omega) 0 N (by omega),by rw [hl];exact (hc.up (Nat.le_succ _)).ok N (by omega),by rw [hl,(h.lv N (by omega)).2];omega⟩ (hf.cm (fun _ _ e=>by cases e)) ?_)
  show (z,_) = _
  rw [hl,if_pos (by omega),z.Ns]
theorem G7 {σ : Nat} {z : Zt} (h : z.calm k m σ) (hk : 0 < k) (hσ : σ + 2 * k <= 1000000) {cp : Cp} (hr : cp.wk.rd = R) (hf : cp.few σ) : Path t n k m sp tr R (2 * k) σ z { cp with cm:=.see [] } z { cp with cm:=.opn (z.V8 0 k) 0 }:=by
 obtain ⟨N,rfl⟩ : ∃ N,k = N + 1:=⟨k - 1,by omega⟩
 refine (Nq h hσ hr hf N (by omega)).trans (M:=2) ?_
 have hl:=z.Wl 0 N
 have hc:=h.up (σ':=σ + 2 * N) (by omega)
 refine .cons hr ⟨by rw [hl];omega,hc.V8 (by omega) 0 N (by omega)⟩ (hf.cm (fun _ _ e=>by cases e)) (show Zf t n (N + 1) m sp tr z _ = (z,{ cp with cm:=.cnt (z.V8 0 N) (z.q.y.ck (z.V8 0 N).length) }) from rfl) (.one hr ⟨by rw [hl];omega,(hc.up (Nat.le_succ _)).V8 (by omega) 0 N (by omega),by rw [hl];exact (hc.up (Nat.le_succ _)).ok N (by omega),by rw [hl,(h.lv N (by omega)).2];omega⟩ (hf.cm (fun _ _ e=>by cases e)) ?_)
 show (z,_) = _
 rw [hl,if_neg (by omega),z.Ns]
theorem OA {σ : Nat} {z : Zt} (h : z.calm k m σ) (hσ : σ + 4 <= 1000000) {cp : Cp} (hr : cp.wk.rd = R) (hf : cp.few σ) : Path t n k m sp tr R 4 σ z { cp with cm:=.opn (z.V8 0 k) 0 } z { cp with cm:=chosen sp (z.V8 4 k) }:=by
 have go : ∀ κ,κ < 3 -> ∀ σ',σ <= σ' -> σ' <= 1000000 -> Path t n k m sp tr R 1 σ' z { cp with cm:=.opn (z.V8 κ k) κ } z { cp with cm:=.opn (z.V8 (κ + 1) k) (κ + 1) }:=fun κ hκ σ' h1 h2=>by
  refine .one hr ⟨z.Wl κ k,by omega,(h.up h1).V8 h2 κ k (Nat.le_refl _)⟩ (hf.cm (fun _ _ e=>by cases e)) ?_
  show (z,_) = _
  rw [if_pos hκ,z.Nr (by omega) (h.op κ (by omega))]
 refine ((go 0 (by decide) σ (Nat.le_refl _) (by omega)).trans (M:=3) ((go 1 (by decide) _ (by omega) (by omega)).trans (M:=2) ((go 2 (by decide) _ (by omega) (by omega)).trans (M:=1) ?_)))
 refine .one hr ⟨z.Wl 3 k,by decide,(h.up (by omega)).V8 (by omega) 3 k (Nat.le_refl _)⟩ (hf.cm (fun _ _ e=>by cases e)) ?_
 show (z,_) = _
 rw [if_neg (by decide),z.Nr (by decide) (h.op 3 (by decide))]
def Zt.may (sp : Int) (z : Zt) (i : Nat) : Bool:=decide ((z.q.y.ck i).st = 1 /\ z.q.y.isOpen i = false /\ 0 < (z.q.y.ck i).us /\ (z.q.lv i = 0 \/ 1000 * (z.q.lv i : Int) < sp * (z.q.y.ck i).us))
theorem Zt.calm.may {σ : Nat} {z : Zt} (h : z.calm k m σ) {i : Nat} (hi : i < k) : (z.sn 4 i).may sp = z.may sp i:=by
 have hcl:=(h.ok i hi).cl
 have hd:=(h.lv i hi).2
 unfold Sn.may Zt.may Zt.sn
 simp only
 rw [decide_eq_true (show (z.q.y.ck i).cl < 4 by omega),Bool.true_and,hd]
 apply decide_eq_decide.2
 constructor
 · rintro ⟨a,b,c,d⟩;exact ⟨by omega,b,by omega,by rcases d with d | d;exact Or.inl (by omega);right;simpa using d⟩
 · rintro ⟨a,b,c,d⟩;exact ⟨by omega,b,by omega,by rcases d with d | d;exact Or.inl (by omega);right;simpa using d⟩
theorem G6 {σ : Nat} {z : Zt} (h : z.calm k m σ) : (chosen sp (z.V8 4 k) = .Yf .first /\ ∀ i,i < k -> z.may sp i = false) \/ ∃ i,i < k /\ z.may sp i = true /\ chosen sp (z.V8 4 k) = .shut i (z.q.y.ck i) /\ ∀ j,j < k -> z.may sp j = true -> z.q.lv i <= z.q.lv j:=by
 have hp:=OE (fun i=>((z.V8 4 k)[i]?.getD LC).may sp) (fun i=>((z.V8 4 k)[i]?.getD LC).lv) (z.V8 4 k).length
 have e : Sj (fun i=>((z.V8 4 k)[i]?.getD LC).may sp) (fun i=>((z.V8 4 k)[i]?.getD LC).lv) (z.V8 4 k).length = choice sp (z.V8 4 k):=rfl
 rw [e,z.Wl] at hp
 have get : ∀ i,i < k -> (z.V8 4 k)[i]?.getD LC = z.sn 4 i:=fun i hi=>by rw [z.SL 4 k hi];rfl
 unfold chosen
 rcases hp with ⟨hr,hn⟩ | ⟨i,hi,hr,hm,-,hle⟩
 · left
   rw [hr,if_pos (by decide)]
   refine ⟨rfl,fun i hi=>?_⟩
   have:=hn i hi
   simp only [get i hi] at this
   rwa [h.may hi] at this
 · right
   simp only [get i hi] at hm
   rw [h.may hi] at hm
   refine ⟨i,hi,hm,?_,fun j hj hmj=>?_⟩
   · rw [hr,if_neg (by omega),Int.toNat_natCast,get i hi]
     congr 1
   · have:=hle j hj
     simp only [get j hj,get i hi] at this
     rw [h.may hj] at this
     have:=this hmj
     simp only [Zt.sn,(h.lv i hi).2,(h.lv j hj).2] at this
     omega
end
end
section
section
variable {t n k m : Nat} {sp tr : Int} {R : Nat}
theorem Ja {σ : Nat} {z : Zt} {cp : Cp} (hr : cp.wk.rd = R) (hf : cp.few σ) : ∀ j,j <= t -> (∀ i,i < j -> Wj (z.pn i) z.ep = false) -> Path t n k m sp tr R (j + 1) σ z { cp with cm:=.Yf .first } z { cp with cm:=.Yf (.ask z.ep j) }:=by
 intro j
 induction j with
 | zero=>intro _ _;exact .one hr rfl (hf.cm (fun _ _ e=>by cases e)) rfl
 | succ j ih =>
  intro hj hs
  refine (ih (by omega) (fun i hi=>hs i (by omega))).trans (M:=1) (.one hr rfl (hf.cm (fun _ _ e=>by cases e)) ?_)
  show ((SY t z (.ask z.ep j)).1,_) = _
  have e : SY t z (.ask z.ep j) = (z,.ask z.ep (j + 1)):=by
   simp only [SY]
   rw [if_pos (by omega),if_neg (by rw [hs j (by omega)];simp)]
  rw [e]
  rfl
theorem wF {σ : Nat} {z : Zt} {cp : Cp} (hr : cp.wk.rd = R) (hf : cp.few σ) (hs : ∀ i,i < t -> Wj (z.pn i) z.ep = false) : Path t n k m sp tr R (t + 2) σ z { cp with cm:=.Yf .first } { z with ep:=sum64 z.ep 1 } { cp with cm:=.Y5 0 .see }:=by
 refine (Ja hr hf t (Nat.le_refl _) hs).trans (M:=1) (.one hr rfl (hf.cm (fun _ _ e=>by cases e)) ?_)
 show ((SY t z (.ask z.ep t)).1,_) = _
 have e : SY t z (.ask z.ep t) = ({ z with ep:=sum64 z.ep 1 },.over true):=by
  simp only [SY]
  rw [if_neg (by omega)]
  simp
 rw [e]
 rfl
theorem tH {σ : Nat} {z : Zt} {cp : Cp} (hr : cp.wk.rd = R) (hf : cp.few σ) {j : Nat} (hj : j < t) (hs : ∀ i,i < j -> Wj (z.pn i) z.ep = false) (hn : Wj (z.pn j) z.ep = true) : Path t n k m sp tr R (j + 2) σ z { cp with cm:=.Yf .first } z { cp with cm:=.Y5 0 .see }:=by
 refine (Ja hr hf j (by omega) hs).trans (M:=1) (.one hr rfl (hf.cm (fun _ _ e=>by cases e)) ?_)
 show ((SY t z (.ask z.ep j)).1,_) = _
 have e : SY t z (.ask z.ep j) = (z,.over false):=by
  simp only [SY]
  rw [if_pos hj,if_pos hn]
 rw [e]
 rfl
def Zt.due (z : Zt) (i : Nat) : Bool:=decide ((z.q.y.ck i).st = 3 /\ z.si i + 2 <= z.ep)
def P7 (z : Zt) : Nat -> Nat
 | 0=>0
 | j + 1=>P7 z j + if z.due j = true then 1 else 0
theorem zk (z : Zt) (j : Nat) : P7 z j <= j:=by
 induction j with
 | zero=>exact Nat.le_refl _
 | succ j ih=>unfold P7;split <;> omega
def PZ (t n k m b : Nat) : Nat:=(b - (6 + t + n * 2 + k * 3)) / m
def GZ (t n k m b : Nat) : Nat:=(b - (6 + t + n * 2 + k * 3)) % m
theorem Xu {i u : Nat} (hu : u < m) : PZ t n k m (base t n k m i + u) = i /\ GZ t n k m (base t n k m i + u) = u:=by
 unfold PZ GZ base
 have e : 6 + t + n * 2 + k * 3 + i * m + u - (6 + t + n * 2 + k * 3) = u + m * i:=by rw [Nat.mul_comm m i];omega
 rw [e]
 constructor
 · rw [Nat.add_mul_div_left _ _ (by omega),Nat.div_eq_of_lt hu,Nat.zero_add]
 · rw [Nat.add_mul_mod_self_left,Nat.mod_eq_of_lt hu]
def Zt.Q3 (t n k m : Nat) (z : Zt) (j v b : Nat) : Int :=
 if 6 + t + n * 2 + k * 3 <= b /\ z.due (PZ t n k m b) = true /\ GZ t n k m b < (z.q.y.ck (PZ t n k m b)).us /\ (PZ t n k m b < j \/ PZ t n k m b = j /\ GZ t n k m b < v) then 0 else z.q.dw b
def Zt.settled (t n k m : Nat) (z : Zt) (j v : Nat) (l : Bool) : Zt :=
 { z with q:={ z.q with
  y:=⟨fun i=>if i < j /\ z.due i = true then ⟨0,0,0,(z.q.y.ck i).sp + 1⟩ else z.q.y.ck i,z.q.y.op⟩
  lv:=fun i=>if (i < j \/ i = j /\ l = true) /\ z.due i = true then 0 else z.q.lv i
  db:=fun i=>if (i < j \/ i = j /\ l = true) /\ z.due i = true then 0 else z.q.db i
  dw:=z.Q3 t n k m j v } }
theorem WJ (z : Zt) {ck vg : Nat -> Ck} {lv qE db qC : Nat -> Nat} {dw qB : Nat -> Int} (h1 : ∀ i,ck i = vg i) (h2 : ∀ i,lv i = qE i) (h3 : ∀ i,db i = qC i) (h4 : ∀ i,dw i = qB i) : ({ z with q:={ z.q with y:=⟨ck,z.q.y.op⟩,lv:=lv,db:=db,dw:=dw } } : Zt) = { z with q:={ z.q with y:=⟨vg,z.q.y.op⟩,lv:=qE,db:=qC,dw:=qB } }:=by
 rw [funext h1,funext h2,funext h3,funext h4]
theorem Zt.Dw (z : Zt) : z.settled t n k m 0 0 false = z:=by
 refine WJ z (vg:=z.q.y.ck) (qE:=z.q.lv) (qC:=z.q.db) (qB:=z.q.dw) (fun i=>if_neg (fun h=>absurd h.1 (Nat.not_lt_zero _))) (fun i=>if_neg (by simp)) (fun i=>if_neg (by simp)) (fun b=>?_)
 exact if_neg (fun h=>h.2.2.2.elim (Nat.not_lt_zero _) (fun g=>Nat.not_lt_zero _ g.2))
theorem wU {α : Type} {f g : Nat -> α} {a : Nat} {v : α} (h1 : g a = v) (h2 : ∀ i,i ≠ a -> g i = f i) : upd f a v = g:=by
 funext i
 by_cases e : i = a
 · subst e;rw [upd_same,h1]
 · rw [Z7 _ _ _ _ e,h2 i e]
theorem Zt.Oz {z : Zt} {j : Nat} (h : z.due j = false) : z.settled t n k m j 0 false = z.settled t n k m (j + 1) 0 false:=by
 have e : ∀ i,(i < j /\ z.due i = true) ↔ (i < j + 1 /\ z.due i = true):=fun i=>by
  by_cases hi : i = j
  · subst hi;rw [h];simp
  · constructor
    · rintro ⟨a,b⟩;exact ⟨by omega,b⟩
    · rintro ⟨a,b⟩;exact ⟨by omega,b⟩
 refine WJ z (fun i=>?_) (fun i=>?_) (fun i=>?_) (fun b=>?_)
 · simp only [e i]
 · simp only [and_false,or_false,Bool.false_eq_true,e i]
 · simp only [and_false,or_false,Bool.false_eq_true,e i]
 · unfold Zt.Q3
   by_cases hj : PZ t n k m b = j
   · rw [if_neg (by rw [hj,h];simp),if_neg (by rw [hj,h];simp)]
   · congr 1
     simp only [eq_iff_iff]
     constructor
     · rintro ⟨a1,a2,a3,a4⟩;exact ⟨a1,a2,a3,by omega⟩
     · rintro ⟨a1,a2,a3,a4⟩;exact ⟨a1,a2,a3,by omega⟩
theorem Zt.QS (z : Zt) (j v : Nat) (l : Bool) {i : Nat} (h : j <= i) : (z.settled t n k m j v l).q.y.ck i = z.q.y.ck i:=if_neg (by omega)
theorem QR {σ : Nat} {z : Zt} {cp : Cp} (hr : cp.wk.rd = R) (hf : cp.few σ) {j : Nat} (hj : j < k) (hc : (z.q.y.ck j).us <= m /\ (z.q.y.ck j).sp <= σ) (hσ : σ <= 1000000) (hs : 0 <= z.si j) (hd : z.due j = false) : ∃ N,1 <= N /\ N <= 3 /\ Path t n k m sp tr R N σ (z.settled t n k m j 0 false) { cp with cm:=.Y5 j .see } (z.settled t n k m (j + 1) 0 false) (Za k j cp false):=by
 have hck:=z.QS (t:=t) (n:=n) (k:=k) (m:=m) j 0 false (Nat.le_refl j)
 rw [<- Zt.Oz hd]
 have sn : Za k j { cp with cm:=.Y5 j .see } false = Za k j cp false:=by unfold Za Cp.Xb;rfl
 by_cases h3 : (z.q.y.ck j).st = 3
 · have hne : ¬ z.si j + 2 <= z.ep:=fun h=>by have : z.due j = true:=decide_eq_true ⟨h3,h⟩;rw [this] at hd;cases hd
   refine ⟨3,by decide,by decide,?_⟩
   refine .cons (z1:=z.settled t n k m j 0 false) (cp1:={ cp with cm:=.Y5 j (.ask (z.q.y.ck j)) }) hr ⟨hj,trivial,rfl⟩ (hf.cm (fun _ _ e=>by cases e)) ?_ (.cons (z1:=z.settled t n k m j 0 false) (cp1:={ cp with cm:=.Y5 j (.look (z.q.y.ck j) (z.si j)) }) hr ⟨hj,⟨hc.1,by omega⟩,rfl⟩ (hf.cm (fun _ _ e=>by cases e)) rfl (.one hr ⟨hj,⟨hc.1,by omega,hs⟩,rfl⟩ (hf.cm (fun _ _ e=>by cases e)) ?_))
   · show ((Wv t n k m j (z.settled t n k m j 0 false) .see).1,_) = _
     have e : Wv t n k m j (z.settled t n k m j 0 false) .see = (z.settled t n k m j 0 false,.ask (z.q.y.ck j)):=by
      simp only [Wv,hck];rw [if_pos h3]
     rw [e];rfl
   · show ((Wv t n k m j (z.settled t n k m j 0 false) (.look (z.q.y.ck j) (z.si j))).1,_) = _
     have e : Wv t n k m j (z.settled t n k m j 0 false) (.look (z.q.y.ck j) (z.si j)) = (z.settled t n k m j 0 false,.over false):=by
      simp only [Wv]
      rw [if_neg (show ¬ z.si j + 2 <= (z.settled t n k m j 0 false).ep from hne)]
     rw [e];rfl
 · refine ⟨1,by decide,by decide,.one hr ⟨hj,trivial,rfl⟩ (hf.cm (fun _ _ e=>by cases e)) ?_⟩
   show ((Wv t n k m j (z.settled t n k m j 0 false) .see).1,_) = _
   have e : Wv t n k m j (z.settled t n k m j 0 false) .see = (z.settled t n k m j 0 false,.over false):=by
    simp only [Wv,hck];rw [if_neg h3]
   rw [e];rfl
theorem Zt.Oy {z : Zt} {j v : Nat} (hd : z.due j = true) (hv : v < (z.q.y.ck j).us) (hu : (z.q.y.ck j).us <= m) : ({ z.settled t n k m j v false with q:={ (z.settled t n k m j v false).q with dw:=upd (z.settled t n k m j v false).q.dw (base t n k m j + v) 0 } } : Zt) = z.settled t n k m j (v + 1) false:=by
 refine WJ z (fun i=>rfl) (fun i=>rfl) (fun i=>rfl) (fun b=>?_)
 have hb:=Xu (t:=t) (n:=n) (k:=k) (m:=m) (i:=j) (u:=v) (by omega)
 by_cases e : b = base t n k m j + v
 · subst e
   rw [upd_same]
   unfold Zt.Q3
   rw [hb.1,hb.2,if_pos ⟨by unfold base;omega,hd,hv,Or.inr ⟨rfl,by omega⟩⟩]
 · rw [Z7 _ _ _ _ e]
   show z.Q3 t n k m j v b = z.Q3 t n k m j (v + 1) b
   unfold Zt.Q3
   congr 1
   simp only [eq_iff_iff]
   constructor
   · rintro ⟨a1,a2,a3,a4⟩;exact ⟨a1,a2,a3,by omega⟩
   · rintro ⟨a1,a2,a3,a4⟩
     refine ⟨a1,a2,a3,?_⟩
     rcases a4 with a4 | ⟨a4,a5⟩
     · exact Or.inl a4
     · by_cases hh : GZ t n k m b = v
       · exfalso
         apply e
         have hm : 0 < m:=by omega
         have:=Nat.div_add_mod (b - (6 + t + n * 2 + k * 3)) m
         unfold PZ at a4
         unfold GZ at hh
         rw [a4,hh,Nat.mul_comm] at this
         unfold base
         omega
       · exact Or.inr ⟨a4,by omega⟩
theorem Zt.Ov {z : Zt} {j : Nat} (hd : z.due j = true) (v : Nat) : ({ z.settled t n k m j v false with q:={ (z.settled t n k m j v false).q with lv:=upd (z.settled t n k m j v false).q.lv j 0,db:=upd (z.settled t n k m j v false).q.db j 0 } } : Zt) = z.settled t n k m j v true:=by
 refine WJ z (fun i=>rfl) (fun i=>?_) (fun i=>?_) (fun b=>rfl)
 · show upd (fun i=>if (i < j \/ i = j /\ false = true) /\ z.due i = true then 0 else z.q.lv i) j 0 i = if (i < j \/ i = j /\ true = true) /\ z.due i = true then 0 else z.q.lv i
   by_cases e : i = j
   · subst e;rw [upd_same,if_pos ⟨Or.inr ⟨rfl,rfl⟩,hd⟩]
   · rw [Z7 _ _ _ _ e]
     simp only [e,false_and,or_false]
 · show upd (fun i=>if (i < j \/ i = j /\ false = true) /\ z.due i = true then 0 else z.q.db i) j 0 i = if (i < j \/ i = j /\ true = true) /\ z.due i = true then 0 else z.q.db i
   by_cases e : i = j
   · subst e;rw [upd_same,if_pos ⟨Or.inr ⟨rfl,rfl⟩,hd⟩]
   · rw [Z7 _ _ _ _ e]
     simp only [e,false_and,or_false]
theorem Zt.Ou {z : Zt} {j : Nat} (hd : z.due j = true) : (z.settled t n k m j (z.q.y.ck j).us true).lay j ⟨0,0,0,(z.q.y.ck j).sp + 1⟩ = z.settled t n k m (j + 1) 0 false:=by
 refine WJ z (fun i=>?_) (fun i=>?_) (fun i=>?_) (fun b=>?_)
 · show upd (fun i=>if i < j /\ z.due i = true then (⟨0,0,0,(z.q.y.ck i).sp + 1⟩ : Ck) else z.q.y.ck i) j ⟨0,0,0,(z.q.y.ck j).sp + 1⟩ i = if i < j + 1 /\ z.due i = true then ⟨0,0,0,(z.q.y.ck i).sp + 1⟩ else z.q.y.ck i
   by_cases e : i = j
   · subst e;rw [upd_same,if_pos ⟨by omega,hd⟩]
   · rw [Z7 _ _ _ _ e]
     simp only [show (i < j + 1 /\ z.due i = true) ↔ (i < j /\ z.due i = true) from ⟨fun h=>⟨by omega,h.2⟩,fun h=>⟨by omega,h.2⟩⟩]
 · show (if (i < j \/ i = j /\ true = true) /\ z.due i = true then 0 else z.q.lv i) = if (i < j + 1 \/ i = j + 1 /\ false = true) /\ z.due i = true then 0 else z.q.lv i
   simp only [Bool.false_eq_true,and_false,or_false,and_true,show (i < j \/ i = j) ↔ i < j + 1 by omega]
 · show (if (i < j \/ i = j /\ true = true) /\ z.due i = true then 0 else z.q.db i) = if (i < j + 1 \/ i = j + 1 /\ false = true) /\ z.due i = true then 0 else z.q.db i
   simp only [Bool.false_eq_true,and_false,or_false,and_true,show (i < j \/ i = j) ↔ i < j + 1 by omega]
 · show z.Q3 t n k m j (z.q.y.ck j).us b = z.Q3 t n k m (j + 1) 0 b
   unfold Zt.Q3
   congr 1
   simp only [eq_iff_iff]
   constructor
   · rintro ⟨a1,a2,a3,a4⟩;exact ⟨a1,a2,a3,by omega⟩
   · rintro ⟨a1,a2,a3,a4⟩
     refine ⟨a1,a2,a3,?_⟩
     by_cases hh : PZ t n k m b = j
     · exact Or.inr ⟨hh,by rw [hh] at a3;exact a3⟩
     · exact Or.inl (by omega)
theorem Ot {σ : Nat} {z : Zt} {cp : Cp} (hr : cp.wk.rd = R) (hf : cp.few σ) {j : Nat} (hj : j < k) (hc : (z.q.y.ck j).us <= m /\ (z.q.y.ck j).sp <= σ) (hσ : σ <= 1000000) (hd : z.due j = true) : ∀ v,v <= (z.q.y.ck j).us -> Path t n k m sp tr R v σ (z.settled t n k m j 0 false) { cp with cm:=.Y5 j (.clear (z.q.y.ck j) 0) } (z.settled t n k m j v false) { cp with cm:=.Y5 j (.clear (z.q.y.ck j) v) }:=by
 intro v
 induction v with
 | zero=>intro _;exact .nil
 | succ v ih =>
  intro hv
  refine (ih (by omega)).trans (M:=1) (.one hr ⟨hj,⟨hc.1,by omega⟩,rfl⟩ (hf.cm (fun _ _ e=>by cases e)) ?_)
  show ((Wv t n k m j (z.settled t n k m j v false) (.clear (z.q.y.ck j) v)).1,_) = _
  have e : Wv t n k m j (z.settled t n k m j v false) (.clear (z.q.y.ck j) v) = (z.settled t n k m j (v + 1) false,.clear (z.q.y.ck j) (v + 1)):=by
   simp only [Wv]
   rw [if_pos (by omega),Zt.Oy hd (by omega) hc.1]
  rw [e];rfl
theorem QQ {σ : Nat} {z : Zt} {cp : Cp} (hr : cp.wk.rd = R) (hf : cp.few σ) {j : Nat} (hj : j < k) (hc : (z.q.y.ck j).us <= m /\ (z.q.y.ck j).sp <= σ) (hσ : σ + m + 10 <= 1000000) (hs : 0 <= z.si j) (hd : z.due j = true) : Path t n k m sp tr R ((z.q.y.ck j).us + 5) σ (z.settled t n k m j 0 false) { cp with cm:=.Y5 j .see } (z.settled t n k m (j + 1) 0 false) (Za k j cp true):=by
 have hck:=z.QS (t:=t) (n:=n) (k:=k) (m:=m) j 0 false (Nat.le_refl j)
 have hd':=of_decide_eq_true hd
 have sn : Za k j { cp with cm:=.Y5 j .see } true = Za k j cp true:=by unfold Za Cp.Xb;rfl
 have first : Path t n k m sp tr R 3 σ (z.settled t n k m j 0 false) { cp with cm:=.Y5 j .see } (z.settled t n k m j 0 false) { cp with cm:=.Y5 j (.clear (z.q.y.ck j) 0) }:=by
  refine .cons (z1:=z.settled t n k m j 0 false) (cp1:={ cp with cm:=.Y5 j (.ask (z.q.y.ck j)) }) hr ⟨hj,trivial,rfl⟩ (hf.cm (fun _ _ e=>by cases e)) ?_ (.cons (z1:=z.settled t n k m j 0 false) (cp1:={ cp with cm:=.Y5 j (.look (z.q.y.ck j) (z.si j)) }) hr ⟨hj,⟨hc.1,by omega⟩,rfl⟩ (hf.cm (fun _ _ e=>by cases e)) rfl (.one hr ⟨hj,⟨hc.1,by omega,hs⟩,rfl⟩ (hf.cm (fun _ _ e=>by cases e)) ?_))
  · show ((Wv t n k m j (z.settled t n k m j 0 false) .see).1,_) = _
    have e : Wv t n k m j (z.settled t n k m j 0 false) .see = (z.settled t n k m j 0 false,.ask (z.q.y.ck j)):=by
     simp only [Wv,hck];rw [if_pos hd'.1]
    rw [e];rfl
  · show ((Wv t n k m j (z.settled t n k m j 0 false) (.look (z.q.y.ck j) (z.si j))).1,_) = _
    have e : Wv t n k m j (z.settled t n k m j 0 false) (.look (z.q.y.ck j) (z.si j)) = (z.settled t n k m j 0 false,.clear (z.q.y.ck j) 0):=by
     simp only [Wv]
     rw [if_pos (show z.si j + 2 <= (z.settled t n k m j 0 false).ep from hd'.2)]
    rw [e];rfl
 have mid:=Ot (t:=t) (n:=n) (sp:=sp) (tr:=tr) (σ:=σ + 3) (cp:=cp) hr ⟨hf.wk,hf.id,fun i c e=>by have:=hf.sp i c e;omega⟩ hj ⟨hc.1,by omega⟩ (by omega) hd _ (Nat.le_refl _)
 have last : Path t n k m sp tr R 2 (σ + (3 + (z.q.y.ck j).us)) (z.settled t n k m j (z.q.y.ck j).us false) { cp with cm:=.Y5 j (.clear (z.q.y.ck j) (z.q.y.ck j).us) } (z.settled t n k m (j + 1) 0 false) (Za k j cp true):=by
  refine .cons (z1:=z.settled t n k m j (z.q.y.ck j).us true) (cp1:={ cp with cm:=.Y5 j (.free (z.q.y.ck j)) }) hr ⟨hj,⟨hc.1,by omega⟩,rfl⟩ (hf.cm (fun _ _ e=>by cases e)) ?_ (.one hr ⟨hj,show (z.q.y.ck j).sp < 2000000 by omega,rfl⟩ ⟨hf.wk,hf.id,fun i c e=>by cases e;omega⟩ ?_)
  · show ((Wv t n k m j (z.settled t n k m j (z.q.y.ck j).us false) (.clear (z.q.y.ck j) (z.q.y.ck j).us)).1,_) = _
    have e : Wv t n k m j (z.settled t n k m j (z.q.y.ck j).us false) (.clear (z.q.y.ck j) (z.q.y.ck j).us) = (z.settled t n k m j (z.q.y.ck j).us true,.free (z.q.y.ck j)):=by
     simp only [Wv]
     rw [if_neg (by omega),Zt.Ov hd]
    rw [e];rfl
  · show ((Wv t n k m j (z.settled t n k m j (z.q.y.ck j).us true) (.free (z.q.y.ck j))).1,_) = _
    have e : Wv t n k m j (z.settled t n k m j (z.q.y.ck j).us true) (.free (z.q.y.ck j)) = (z.settled t n k m (j + 1) 0 false,.over true):=by
     simp only [Wv]
     rw [Zt.Ou hd]
    rw [e];rfl
 have:=(first.trans mid).trans last
 rwa [show 3 + (z.q.y.ck j).us + 2 = (z.q.y.ck j).us + 5 by omega] at this
def Cp.upto (cp : Cp) (z : Zt) (j : Nat) : Cp:={ cp with cm:=.Y5 j .see,wk:={ cp.wk with fr:=cp.wk.fr + P7 z j } }
def Cp.past (cp : Cp) (z : Zt) (k : Nat) : Cp:=({ cp with wk:={ cp.wk with fr:=cp.wk.fr + P7 z k } } : Cp).Xb
theorem Np {cp : Cp} {σ' : Nat} (hw : cp.wk.le 999000) (hi : cp.Uz <= 1000000) (z : Zt) {j : Nat} (hj : j <= 64) : (cp.upto z j).few σ':=by
 obtain ⟨h1,h2,h3,h4,h5⟩:=hw
 have:=zk z j
 exact ⟨⟨by simp only [Cp.upto];omega,by simp only [Cp.upto];omega,by simp only [Cp.upto];omega,by simp only [Cp.upto];omega,by simp only [Cp.upto];omega⟩,hi,fun i c e=>by cases e⟩
theorem TQ {cp : Cp} {z : Zt} {j : Nat} : Za k j (cp.upto z j) (z.due j) = if j + 1 < k then cp.upto z (j + 1) else cp.past z (j + 1):=by
 unfold Za Cp.upto Cp.past
 cases h : z.due j
 · simp only [P7,h]
   simp
   rfl
 · simp only [P7,h]
   simp
   rfl
theorem Kw {σ : Nat} {z : Zt} {cp : Cp} (hr : cp.wk.rd = R) (hw : cp.wk.le 999000) (hi : cp.Uz <= 1000000) (hk : k <= 64) (hm : m <= 256) (hc : ∀ i,i < k -> (z.q.y.ck i).us <= m /\ (z.q.y.ck i).sp <= σ /\ 0 <= z.si i) (hσ : σ + 300 * k <= 999000) : ∀ j,j < k -> ∃ N,j <= N /\ N <= 261 * j /\ Path t n k m sp tr R N σ z { cp with cm:=.Y5 0 .see } (z.settled t n k m j 0 false) (cp.upto z j):=by
 intro j
 induction j with
 | zero =>
  intro _
  refine ⟨0,Nat.le_refl _,by omega,?_⟩
  rw [Zt.Dw]
  have : cp.upto z 0 = { cp with cm:=.Y5 0 .see }:=rfl
  rw [this]
  exact .nil
 | succ j ih =>
  intro hj
  obtain ⟨N,hN1,hN,P⟩:=ih (by omega)
  obtain ⟨c1,c2,c3⟩:=hc j (by omega)
  have fw:=Np (σ':=σ + N) hw hi z (show j <= 64 by omega)
  have sn:=TQ (k:=k) (cp:=cp) (z:=z) (j:=j)
  rw [if_pos hj] at sn
  cases hd : z.due j with
  | false =>
   rw [hd] at sn
   obtain ⟨M,hM0,hM,P2⟩:=QR (t:=t) (n:=n) (m:=m) (sp:=sp) (tr:=tr) (R:=R) (cp:=cp.upto z j) (show (cp.upto z j).wk.rd = R from hr) fw (show j < k by omega) ⟨c1,by omega⟩ (by omega) c3 hd
   rw [sn] at P2
   exact ⟨N + M,by omega,by omega,P.trans P2⟩
  | true =>
   rw [hd] at sn
   have P2:=QQ (t:=t) (n:=n) (m:=m) (sp:=sp) (tr:=tr) (R:=R) (cp:=cp.upto z j) (show (cp.upto z j).wk.rd = R from hr) fw (show j < k by omega) ⟨c1,by omega⟩ (by omega) c3 hd
   rw [sn] at P2
   exact ⟨N + _,by omega,by omega,P.trans P2⟩
theorem Kv {σ : Nat} {z : Zt} {cp : Cp} (hr : cp.wk.rd = R) (hw : cp.wk.le 999000) (hi : cp.Uz <= 1000000) (hk0 : 0 < k) (hk : k <= 64) (hm : m <= 256) (hc : ∀ i,i < k -> (z.q.y.ck i).us <= m /\ (z.q.y.ck i).sp <= σ /\ 0 <= z.si i) (hσ : σ + 300 * k <= 999000) : ∃ N,k <= N /\ N <= 261 * k /\ Path t n k m sp tr R N σ z { cp with cm:=.Y5 0 .see } (z.settled t n k m k 0 false) (cp.past z k):=by
 obtain ⟨j,rfl⟩ : ∃ j,k = j + 1:=⟨k - 1,by omega⟩
 obtain ⟨N,hN1,hN,P⟩:=Kw (t:=t) (n:=n) (sp:=sp) (tr:=tr) hr hw hi hk hm hc hσ j (by omega)
 obtain ⟨c1,c2,c3⟩:=hc j (by omega)
 have fw:=Np (σ':=σ + N) hw hi z (show j <= 64 by omega)
 have sn:=TQ (k:=j + 1) (cp:=cp) (z:=z) (j:=j)
 rw [if_neg (by omega)] at sn
 cases hd : z.due j with
 | false =>
  rw [hd] at sn
  obtain ⟨M,hM0,hM,P2⟩:=QR (t:=t) (n:=n) (m:=m) (sp:=sp) (tr:=tr) (R:=R) (cp:=cp.upto z j) (show (cp.upto z j).wk.rd = R from hr) fw (show j < j + 1 by omega) ⟨c1,by omega⟩ (by omega) c3 hd
  rw [sn] at P2
  exact ⟨N + M,by omega,by omega,P.trans P2⟩
 | true =>
  rw [hd] at sn
  have P2:=QQ (t:=t) (n:=n) (m:=m) (sp:=sp) (tr:=tr) (R:=R) (cp:=cp.upto z j) (show (cp.upto z j).wk.rd = R from hr) fw (show j < j + 1 by omega) ⟨c1,by omega⟩ (by omega) c3 hd
  rw [sn] at P2
  exact ⟨N + _,by omega,by omega,P.trans P2⟩
end
end
section
set_option maxRecDepth 20000
inductive Vk (t n k m : Nat) (sp tr : Int) (want : Nat) : Nat -> Nat -> Zt -> Cp -> Zt -> Cp -> Prop where
 | nil {σ : Nat} {z : Zt} {cp : Cp} (h : cp.wk.rd = want) : Vk t n k m sp tr want 0 σ z cp z cp
 | cons {N σ : Nat} {z : Zt} {cp : Cp} {z1 : Zt} {cp1 : Cp} {z' : Zt} {cp' : Cp} (hr : cp.wk.rd < want) (hg : cp.cm.good t n k m σ tr z) (hf : cp.few σ) (ht : Zf t n k m sp tr z cp = (z1,cp1)) (g : Vk t n k m sp tr want N (σ + 1) z1 cp1 z' cp') : Vk t n k m sp tr want (N + 1) σ z cp z' cp'
theorem Path.runs {t n k m : Nat} {sp tr : Int} {R want N M σ : Nat} {z z1 z2 : Zt} {cp cp1 cp2 : Cp} (h : Path t n k m sp tr R N σ z cp z1 cp1) (hR : R < want) (g : Vk t n k m sp tr want M (σ + N) z1 cp1 z2 cp2) : Vk t n k m sp tr want (N + M) σ z cp z2 cp2:=by
 induction h with
 | nil=>rw [Nat.zero_add];exact g
 | cons hr hg hf ht _ ih =>
  rename_i N' σ' _ _ _ _ _ _ _
  rw [show N' + 1 + M = N' + M + 1 by omega]
  exact .cons (by omega) hg hf ht (ih (by rw [show σ' + 1 + N' = σ' + (N' + 1) by omega];exact g))
section
variable {w : World} {L : Loc} {K : Nat -> Prop} {s : Mm} {b : Nat} {t n k m σ : Nat} {g p r : Int} {z : Zt} {cp : Cp}
theorem XZ.more {cs : Array Value} {f : Nat -> Value} {o : Nat} {T : TypeId} (h : XZ w b o T L K cp cs f) {X : Nat} (hX : w.heap.size <= X) : XZ w b o T L (fun y=>K y \/ y = X) cp cs f:=by
 have up : ∀ x,x < w.heap.size -> (¬ K x /\ x ≠ b /\ ¬ L.has x) -> (¬ (K x \/ x = X) /\ x ≠ b /\ ¬ L.has x):=fun x hx hh=>⟨fun e=>e.elim hh.1 (fun e=>by omega),hh.2⟩
 refine ⟨h.cm,?_,h.ct⟩
 have I:=h.is
 cases hcm : cp.cm with
 | see l=>rw [hcm] at I;exact ⟨I.1,I.2.1,I.2.2.1,fun x hx=>up x (I.2.2.1.lt hx) (I.2.2.2 x hx)⟩
 | cnt l c=>rw [hcm] at I;obtain ⟨a,b,B,cap,c,d,e⟩:=I;exact ⟨a,b,B,cap,c,d,up B d.lt e⟩
 | opn l κ=>rw [hcm] at I;obtain ⟨a,b,B,cap,c,d,e⟩:=I;exact ⟨a,b,B,cap,c,d,up B d.lt e⟩
 | shut i c=>rw [hcm] at I;exact I
 | head i c u=>rw [hcm] at I;exact I
 | OO i c u W μ=>rw [hcm] at I;exact I
 | leave i c=>rw [hcm] at I;exact I
 | note i c E=>rw [hcm] at I;exact I
 | quiet i c=>rw [hcm] at I;exact I
 | Yf d=>rw [hcm] at I;exact I
 | Y5 i d=>rw [hcm] at I;exact I
theorem XZ.less {cs : Array Value} {f : Nat -> Value} {o : Nat} {T : TypeId} {K' : Nat -> Prop} (h : XZ w b o T L K' cp cs f) (hK : ∀ y,K y -> K' y) : XZ w b o T L K cp cs f:=by
 have up : ∀ x,(¬ K' x /\ x ≠ b /\ ¬ L.has x) -> (¬ K x /\ x ≠ b /\ ¬ L.has x):=fun x hh=>⟨fun e=>hh.1 (hK x e),hh.2⟩
 refine ⟨h.cm,?_,h.ct⟩
 have I:=h.is
 cases hcm : cp.cm with
 | see l=>rw [hcm] at I;exact ⟨I.1,I.2.1,I.2.2.1,fun x hx=>up x (I.2.2.2 x hx)⟩
 | cnt l c=>rw [hcm] at I;obtain ⟨a,b,B,cap,c,d,e⟩:=I;exact ⟨a,b,B,cap,c,d,up B e⟩
 | opn l κ=>rw [hcm] at I;obtain ⟨a,b,B,cap,c,d,e⟩:=I;exact ⟨a,b,B,cap,c,d,up B e⟩
 | shut i c=>rw [hcm] at I;exact I
 | head i c u=>rw [hcm] at I;exact I
 | OO i c u W μ=>rw [hcm] at I;exact I
 | leave i c=>rw [hcm] at I;exact I
 | note i c E=>rw [hcm] at I;exact I
 | quiet i c=>rw [hcm] at I;exact I
 | Yf d=>rw [hcm] at I;exact I
 | Y5 i d=>rw [hcm] at I;exact I
theorem Cm.Dv {c : Cm} {cs : Array Value} {f : Nat -> Value} {o : Nat} {T : TypeId} {N : Nat -> Prop} {w' : World} (h : c.is w b o T cs f N) (g : Below w.heap.size w w') : c.is w' b o T cs f N:=by
 cases c with
 | see l=>exact ⟨h.1,h.2.1,h.2.2.1.grown g,h.2.2.2⟩
 | cnt l c=>obtain ⟨a,b,B,cap,c,d,e⟩:=h;exact ⟨a,b,B,cap,c,d.grown g,e⟩
 | opn l κ=>obtain ⟨a,b,B,cap,c,d,e⟩:=h;exact ⟨a,b,B,cap,c,d.grown g,e⟩
 | OO i c u W μ=>obtain ⟨a1,a2,a3,a4,a5,a,a6,a7⟩:=h;exact ⟨a1,a2,a3,a4,a5,a,a6.grown g,a7⟩
 | Yf d=>exact ⟨h.1,h.2.1,h.2.2.grown g⟩
 | Y5 i d=>exact ⟨h.1,h.2.1,h.2.2.1,h.2.2.2.grown g⟩
 | shut i c=>exact h
 | head i c u=>exact h
 | leave i c=>exact h
 | note i c E=>exact h
 | quiet i c=>exact h
theorem XZ.grown {cs : Array Value} {f : Nat -> Value} {o : Nat} {T : TypeId} {w' : World} (h : XZ w b o T L K cp cs f) (g : Below w.heap.size w w') : XZ w' b o T L K cp cs f:=⟨h.cm.grown g,Cm.Dv h.is g,h.ct⟩
set_option maxRecDepth 20000 in
set_option maxHeartbeats 2000000 in
theorem NL (h : Z9 w L s) (hb : ¬ L.has b) (hK : Kp K L b w) (hz : YQ t n k m s σ z) (hG : Good t n k m g p r) (hc : ∃ cs f,XZ w b 0 110 L K cp cs f) (who : Int) {c : Nat} (hc1 : c <= 100) {N : Nat} (hN : N <= 3000 * c) (hσ : σ + N < 1000000) (hrd : cp.wk.rd <= 1000) {z' : Zt} {cp' : Cp} (gg : Vk t n k m p r (cp.wk.rd + c) N σ z cp z' cp') :
 Calls Tryz.prog 18 #[eV t n k m g p r L.p who,pP b 0,iV c] w fun e w'=>e = .returned (.bool true) /\ ∃ s',Z9 w' L s' /\ YQ t n k m s' (σ + N) z' /\ (∃ cs f,XZ w' b 0 110 L K cp' cs f) /\ Only (fun y=>¬ K y) w w':=by
 have fl : ∀ (a1 a2 a3 a4 a5 : Value) (w : World),(Instr.field 63 (.agg #[a1,a2,a3,a4,a5]) 4).run Tryz.prog w = .ok a5 w:=fun a1 a2 a3 a4 a5 w=>by kernel_rfl
 obtain ⟨W,hW⟩ : ∃ W,cp.wk.rd + c = W:=⟨_,rfl⟩
 rw [hW] at gg
 have HW : Hid (cp.wk.rd + c = W):=hW
 have hw3 : wrap64 (3000 * (c : Int)) = 3000 * (c : Int):=by unfold wrap64;omega
 clear hW
 have hB : Hid (¬ L.has w.heap.size):=fun hh=>by have:=h.lt _ hh;omega
 obtain ⟨cs0,F0,C0⟩:=hc
 have hbs:=C0.cm.lt
 have c0:=(C0.more (Nat.le_refl _)).grown (Zh _ (eO t n k m g p r L.p (-1)))
 have m0:=h.alloc (eO t n k m g p r L.p (-1))
 have v0 : ZV (w.alloc (eO t n k m g p r L.p (-1))) w.heap.size t n k m g p r L.p (-1):=ZV.new
 have HK : Hid (Kp (fun y=>K y \/ y = w.heap.size) L b (w.alloc (eO t n k m g p r L.p (-1)))):=by
  refine ⟨fun e=>e.elim hK.kb (fun e=>by omega),fun y e=>e.elim (hK.kl y) (fun e=>by rw [e];exact hB.out),fun y e=>?_⟩
  rw [Go.Deep.nblk_alloc]
  exact e.elim (fun e=>by have:=hK.lt y e;omega) (fun e=>by omega)
 have o0 : Only (fun y=>¬ K y) w (w.alloc (eO t n k m g p r L.p (-1))):=(Only.refl _ _).alloc _
 go_enter Tryz.func18,Tryz.ntmps18
 go_wp2_with (go_at_call 25;refine (XI c0.cm c0.ct.Qa c0.ct.P9 c0.ct.Qi c0.ct.P8 c0.ct.NK).mono ?_;rintro e w1 ⟨rfl,b1⟩)
 have A1 : Hid (∃ s1 z1 cp1,Vk t n k m p r W N (σ + 0) z1 cp1 z' cp' /\ Z9 w1 L s1 /\ YQ t n k m s1 (σ + 0) z1 /\ (∃ cs f,XZ w1 b 0 110 L (fun y=>K y \/ y = w.heap.size) cp1 cs f) /\ ZV w1 w.heap.size t n k m g p r L.p (-1) /\ Only (fun y=>¬ K y) w w1 /\ Kp (fun y=>K y \/ y = w.heap.size) L b w1):=by
  refine ⟨s,z,cp,gg,m0.below b1,hz,⟨cs0,F0,c0.grown b1⟩,v0.grown b1,o0.trans (Only.ZZ b1),HK.out.kb,HK.out.kl,fun y hy=>?_⟩
  have:=HK.out.lt y hy
  have:=b1.size
  omega
 have HG : Hid (Good t n k m g p r):=hG
 have Hσ : Hid (σ + N < 1000000):=hσ
 have mX : Hid (N <= 3000 * c):=hN
 clear C0 c0 m0 v0 HK o0 gg hz h hK b1 hG hσ hN
 go_loopw [8] (fun i wr=>∃ (j N1 : Nat) (s1 : Mm) (z1 : Zt) (cp1 : Cp),i = iV j /\ j + N1 = N /\ Vk t n k m p r W N1 (σ + j) z1 cp1 z' cp' /\ Z9 wr L s1 /\ YQ t n k m s1 (σ + j) z1 /\ (∃ cs f,XZ wr b 0 110 L (fun y=>K y \/ y = w.heap.size) cp1 cs f) /\ ZV wr w.heap.size t n k m g p r L.p (-1) /\ Only (fun y=>¬ K y) w wr /\ Kp (fun y=>K y \/ y = w.heap.size) L b wr) (fun i _=>300001 - (intOf i).toNat)
 case atStart =>
  obtain ⟨s1,z1,cp1,hm⟩:=A1.out
  exact ⟨0,N,s1,z1,cp1,rfl,by omega,hm⟩
 case round =>
  clear A1
  obtain ⟨j,N1,s1,z1,cp1,rfl,hj,gr,mm,oP,⟨cs1,f1,C⟩,v,on,kp⟩:=hrel
  have mW:=Hσ.out
  have hN':=mX.out
  cases gr with
  | nil qy =>
   have mV : decide ((cp'.wk.rd : Int) < (cp.wk.rd : Int) + (c : Int)) = false:=decide_eq_false (by have:=HW.out;omega)
   have lC : decide ((cp.wk.rd : Int) + (c : Int) <= (cp'.wk.rd : Int)) = true:=decide_eq_true (by have:=HW.out;omega)
   have fin : ∀ w9 : World,Below wr.heap.size wr w9 -> ∃ s',Z9 w9 L s' /\ YQ t n k m s' (σ + N) z' /\ (∃ cs f,XZ w9 b 0 110 L K cp' cs f) /\ Only (fun y=>¬ K y) w w9:=fun w9 g9=>by
    have hjN : j = N:=by omega
    subst hjN
    exact ⟨s1,mm.below g9,oP,⟨cs1,f1,(C.grown g9).less (fun y hy=>Or.inl hy)⟩,on.trans (Only.ZZ g9)⟩
   clear qy
   by_cases hlt : (j : Int) < 3000 * (c : Int)
   · have hlb : decide ((j : Int) < 3000 * (c : Int)) = true:=decide_eq_true hlt
     clear hlt hj
     go_wp2_with (first
      | (go_at_call 25;refine (XI C.cm C.ct.Qa C.ct.P9 C.ct.Qi C.ct.P8 C.ct.NK).mono ?_;rintro e w2 ⟨rfl,b2⟩)
      | (go_at_call 25;refine (XI (C.grown b2).cm C.ct.Qa C.ct.P9 C.ct.Qi C.ct.P8 C.ct.NK).mono ?_;rintro e w3 ⟨rfl,b3⟩))
     go_ret
     exact ⟨rfl,fin _ (grow b2 b3)⟩
   · have hlb : decide ((j : Int) < 3000 * (c : Int)) = false:=decide_eq_false hlt
     clear hlt hj
     go_wp2_with (go_at_call 25;refine (XI C.cm C.ct.Qa C.ct.P9 C.ct.Qi C.ct.P8 C.ct.NK).mono ?_;rintro e w2 ⟨rfl,b2⟩)
     go_ret
     exact ⟨rfl,fin _ b2⟩
  | cons hr1 hg1 hf1 ht1 g1 =>
   have mV : decide ((cp1.wk.rd : Int) < (cp.wk.rd : Int) + (c : Int)) = true:=decide_eq_true (by have:=HW.out;omega)
   have hlb : decide ((j : Int) < 3000 * (c : Int)) = true:=decide_eq_true (by omega)
   have hs1 : σ + j < 1000000:=by omega
   have lu : (j : Int) < 300000:=by omega
   have HT : Hid (Zf t n k m p r z1 cp1 = _):=ht1
   have hbv : ¬ (fun y=>K y \/ y = w.heap.size) b:=kp.kb
   clear ht1
   go_wp2_with (first
    | (go_at_call 25;refine (XI C.cm C.ct.Qa C.ct.P9 C.ct.Qi C.ct.P8 C.ct.NK).mono ?_;rintro e w2 ⟨rfl,b2⟩;have v2:=v.grown b2;obtain ⟨y0,y1,y2,y3,y4,y5,y6,y7,y8⟩:=id v2;have oO : Kp (fun y=>K y \/ y = w.heap.size) L b w2:=⟨kp.kb,kp.kl,fun y hy=>by have:=kp.lt y hy;have:=b2.size;omega⟩)
    | (go_at_call 29;refine (Jb (mm.below b2) hb oO oP HG.out hs1 (-1) (C.grown b2) hg1 hf1 HT.out).mono ?_;rintro e w3 ⟨rfl,s3,m3,l3,c3,o3,v3,hv3⟩))
   go_roundw
   case rel =>
    refine ⟨j + 1,_,s3,_,_,by go_num,by omega,g1,m3,l3,c3,v2.only o3 (fun hh=>hh (Or.inr rfl)),(on.trans (Only.ZZ b2)).trans (o3.mono (fun _ _ hh hk=>hh (Or.inl hk))),kp.kb,kp.kl,fun y hy=>?_⟩
    have:=oO.lt y hy
    have:=o3.size
    omega
   case measure=>simp [intOf];omega
end
end
section
section
variable {t n k m : Nat} {sp tr : Int} {R : Nat}
def Zt.gone (t n k m : Nat) (tr : Int) (z : Zt) (i : Nat) (c : Ck) (u : Nat) : Prop :=
 z.q.dw (base t n k m i + u) % 4 = 3 \/ (z.q.dw (base t n k m i + u) % 4 = 2 /\ (LD (z.q.dw (base t n k m i + u)) (base t n k m i + u) i tr).ok t n k m /\ u + Ws (z.q.dw (base t n k m i + u)) < c.us /\ Vt (LD (z.q.dw (base t n k m i + u)) (base t n k m i + u) i tr) (z.q.sw (LD (z.q.dw (base t n k m i + u)) (base t n k m i + u) i tr).x) .see 0 = .over 2 .see)
theorem Hz {σ : Nat} {z : Zt} {cp : Cp} (hr : cp.wk.rd = R) (hf : cp.few σ) {i : Nat} {c : Ck} (hi : i < k) (hok : c.ok σ) (hus : c.us <= m) (hm : m <= 256) (hg : ∀ j,j * room c.cl < c.us -> z.gone t n k m tr i c (j * room c.cl)) : ∀ j,j * room c.cl < c.us + room c.cl -> ∃ N,N <= 2 * j /\ Path t n k m sp tr R N σ z { cp with cm:=.head i c 0 } z { cp with cm:=.head i c (j * room c.cl) }:=by
 have hrm:=Zv c.cl
 intro j
 induction j with
 | zero=>intro _;refine ⟨0,Nat.le_refl _,?_⟩;rw [Nat.zero_mul];exact .nil
 | succ j ih =>
  intro hj
  have hj' : j * room c.cl < c.us:=by rw [Nat.succ_mul] at hj;omega
  obtain ⟨N,hN,P⟩:=ih (by omega)
  have hjb : j <= 256:=by
   have : j * 1 <= j * room c.cl:=Nat.mul_le_mul_left j (by omega)
   omega
  have hst : ∀ M,M <= 600 -> c.ok (σ + M):=fun M _=>hok.up (by omega)
  have em : (j + 1) * room c.cl = j * room c.cl + room c.cl:=Nat.succ_mul _ _
  rw [em]
  rcases hg j hj' with h3 | ⟨h2,hW,hz,hs⟩
  · refine ⟨N + 1,by omega,P.trans (.one hr ⟨hi,hst N (by omega),hus,fun _ e=>by rw [h3] at e;omega,by omega⟩ (hf.cm (fun _ _ e=>by cases e)) ?_)⟩
    simp only [Zf]
    rw [if_neg (by omega),if_pos h3]
  · refine ⟨N + 2,by omega,P.trans (.cons (z1:=z) (cp1:={ cp with cm:=.OO i c (j * room c.cl) (LD (z.q.dw (base t n k m i + j * room c.cl)) (base t n k m i + j * room c.cl) i tr) (.see .see 0) }) hr ⟨hi,hst N (by omega),hus,fun _ _=>⟨hW,hz⟩,by omega⟩ (hf.cm (fun _ _ e=>by cases e)) ?_ (.one hr ⟨hi,hst (N + 1) (by omega),hus,by omega,hW,rfl,⟨Or.inl rfl,by decide⟩,rfl⟩ (hf.cm (fun _ _ e=>by cases e)) ?_))⟩
    · simp only [Zf]
      rw [if_neg (by omega),if_neg (by omega),if_pos h2]
    · simp only [Zf,Yo,hs,VL]
      rw [if_neg (by decide)]
      simp only [if_true]
def Zt.quiet (z : Zt) (i : Nat) : Zt:={ z.lay i ⟨3,(z.q.y.ck i).cl,(z.q.y.ck i).us,(z.q.y.ck i).sp + 2⟩ with si:=upd z.si i z.ep }
theorem Hy {σ : Nat} {z : Zt} {cp : Cp} (hr : cp.wk.rd = R) (hw : cp.wk.le 999000) (hid : cp.Uz <= 1000000) {i : Nat} (hi : i < k) (hok : (z.q.y.ck i).ok σ) (hus : (z.q.y.ck i).us <= m) (hm : m <= 256) (yc : 0 <= z.ep) (hmul : ∃ j,(z.q.y.ck i).us = j * room (z.q.y.ck i).cl) (hg : ∀ j,j * room (z.q.y.ck i).cl < (z.q.y.ck i).us -> z.gone t n k m tr i (z.q.y.ck i) (j * room (z.q.y.ck i).cl)) : ∃ N,N <= 600 /\ Path t n k m sp tr R N σ z { cp with cm:=.shut i (z.q.y.ck i) } (z.quiet i) { cp with cm:=.Yf .first,wk:={ cp.wk with ev:=cp.wk.ev + 1 } }:=by
 obtain ⟨h1,h2,h3,h4,h5⟩:=hw
 have hf : ∀ σ' (c : Cm),(∀ i d,c ≠ .Y5 i (.free d)) -> ({ cp with cm:=c } : Cp).few σ':=fun σ' c hc=>⟨⟨by simp only;omega,by simp only;omega,by simp only;omega,by simp only;omega,by simp only;omega⟩,hid,fun i d e=>absurd e (hc i d)⟩
 obtain ⟨c,hc⟩ : ∃ c,z.q.y.ck i = c:=⟨_,rfl⟩
 rw [hc] at hok hus hmul hg ⊢
 obtain ⟨J,hJ⟩:=hmul
 have hrm:=Zv c.cl
 have ok2 : (Ck.mk 2 c.cl c.us (c.sp + 1)).ok (σ + 1):=⟨by simp,hok.cl,hok.us,by have:=hok.sp;simp only;omega⟩
 have uo : ∀ j,j * room c.cl < c.us -> (z.lay i ⟨2,c.cl,c.us,c.sp + 1⟩).gone t n k m tr i ⟨2,c.cl,c.us,c.sp + 1⟩ (j * room c.cl):=fun j hj=>hg j hj
 have P1 : Path t n k m sp tr R 1 σ z { cp with cm:=.shut i c } (z.lay i ⟨2,c.cl,c.us,c.sp + 1⟩) { cp with cm:=.head i ⟨2,c.cl,c.us,c.sp + 1⟩ 0 }:=by
  refine .one hr ⟨hi,hok⟩ (hf _ _ (fun _ _ e=>by cases e)) ?_
  simp only [Zf]
  rw [if_pos hc]
 obtain ⟨N,hN,P2⟩:=Hz (t:=t) (n:=n) (k:=k) (sp:=sp) (tr:=tr) (R:=R) (z:=z.lay i ⟨2,c.cl,c.us,c.sp + 1⟩) (cp:={ cp with cm:=.head i ⟨2,c.cl,c.us,c.sp + 1⟩ 0 }) hr (hf (σ + 1) _ (fun _ _ e=>by cases e)) hi ok2 hus hm uo J (by show J * room c.cl < c.us + room c.cl;omega)
 have lG : J <= 256:=by
  have : J * 1 <= J * room c.cl:=Nat.mul_le_mul_left J (by omega)
  omega
 have nJ : (z.lay i ⟨2,c.cl,c.us,c.sp + 1⟩).ep = z.ep:=rfl
 have P3 : Path t n k m sp tr R 3 (σ + (1 + N)) (z.lay i ⟨2,c.cl,c.us,c.sp + 1⟩) { cp with cm:=.head i ⟨2,c.cl,c.us,c.sp + 1⟩ (J * room c.cl) } (z.quiet i) { cp with cm:=.Yf .first,wk:={ cp.wk with ev:=cp.wk.ev + 1 } }:=by
  refine .cons (z1:=z.lay i ⟨2,c.cl,c.us,c.sp + 1⟩) (cp1:={ cp with cm:=.note i ⟨2,c.cl,c.us,c.sp + 1⟩ z.ep }) hr ⟨hi,ok2.up (by omega),hus,fun h=>absurd h (by show ¬ J * room c.cl < c.us;omega),by omega⟩ (hf _ _ (fun _ _ e=>by cases e)) ?_ (.cons (z1:={ z.lay i ⟨2,c.cl,c.us,c.sp + 1⟩ with si:=upd z.si i z.ep }) (cp1:={ cp with cm:=.quiet i ⟨2,c.cl,c.us,c.sp + 1⟩ }) hr ⟨hi,ok2.up (by omega),yc⟩ (hf _ _ (fun _ _ e=>by cases e)) rfl (.one hr ⟨hi,ok2.up (by omega)⟩ (hf _ _ (fun _ _ e=>by cases e)) ?_))
  · simp only [Zf]
    rw [if_pos (by omega)]
    rfl
  · simp only [Zf]
    unfold Zt.quiet Zt.lay
    rw [hc]
    simp only
    congr 4
    exact wU (upd_same _ _ _) (fun j hj=>by rw [Z7 _ _ _ _ hj,Z7 _ _ _ _ hj])
 refine ⟨1 + N + 3,by omega,(P1.trans P2).trans P3⟩
end
end
section
structure TW (t n k m : Nat) (q : Q) (gen : Nat -> Nat) (ls : List Ox) : Prop where
 gw : ∀ x,x < n -> Zz (q.sw x) = gen x
 lp : ∀ o ∈ ls,o.κ = (q.y.ck o.i).cl /\ ∃ j,o.u = j * room o.κ
 pl : ∀ i,i < k -> ∃ J,(q.y.ck i).us = J * room (q.y.ck i).cl /\ ∀ j,j < J -> ∃ o : Ox,o.ok t n k m /\ o.i = i /\ o.u = j * room (q.y.ck i).cl /\ o.κ = (q.y.ck i).cl /\ q.dw o.a = Zg 2 o.Z o.x o.g o.own /\ (o ∈ ls \/ o.g < gen o.x)
theorem zC (n : Nat) (x : Nat) : Zz ((Q.new n).sw x) = 1:=rf
theorem uq (t n k m : Nat) : TW t n k m (Q.new n) (fun _=>1) [] :=
 ⟨fun x _=>zC n x,fun _ h=>(by cases h),fun i _=>⟨0,by show (0 : Nat) = _;rw [Nat.zero_mul],fun j hj=>absurd hj (by omega)⟩⟩
section
variable {t n k m κ nx : Nat} {q : Q} {gen : Nat -> Nat} {ls : List Ox} {own : Bool} {cg : Int}
theorem LK.uj {bs : Nat -> Nat} {y y' : Y} {nx nx' a i : Nat} (A : Alone k y nx) (hκ : κ < 4) (g : LK k m κ bs y nx y' nx' (.Yn a i)) : (y.ck i).us = 0 \/ (y.ck i).cl = κ:=by
 cases g with
 | fit _ h hu=>exact Or.inr (A.opn κ hκ i h).2
 | new hno h=>exact Or.inl (A.UH nx (Nat.le_refl _) h).2
theorem TW.back (H : TW t n k m q gen ls) (x : Nat) (F : List Nat) : TW t n k m (q.back x F q.y) gen ls:=⟨H.gw,H.lp,H.pl⟩
theorem TW.made {Z : Nat} (H : TW t n k m q gen ls) (C : WY t n k m q nx gen ls) (hG : Good t n k m cg 600 3) (hn : n <= 65535) (hκ : κ < 4) (z1 : 1 <= Z) (z2 : Z <= 16) (kz : ZM Z = κ) {x : Nat} {F : List Nat} (hF : q.F = x :: F) (hnd : q.F.Nodup) (hx : x < n) {y' : Y} {nx' a i : Nat} (g : LK k m κ (base t n k m) q.y nx y' nx' (.Yn a i)) : TW t n k m (q.made x F y' a i κ Z own) gen (q.ox gen x a i Z κ own :: ls):=by
 have hr:=Zv κ
 have hm:=hG.n0
 have C':=C.made (own:=own) hκ hm z1 z2 kz hF hnd hx g
 have hcl:=g.uj C.al hκ
 obtain ⟨hik,ha,hu,⟨sp,hck⟩,hoth⟩:=g.Ew C.al hκ (by omega)
 have ho : q.ox gen x a i Z κ own ∈ q.ox gen x a i Z κ own :: ls:=List.mem_cons_self
 have I:=C'.is hG hn ho
 have K:=C'.ok _ ho
 have L:=C'.li _ ho
 have hy : (q.made x F y' a i κ Z own).y = y':=rfl
 have hdw : ∀ b,b ≠ a -> (q.made x F y' a i κ Z own).dw b = q.dw b:=fun b hb=>by
  show upd (upd q.dw a _) a _ b = _
  rw [Z7 _ _ _ _ hb,Z7 _ _ _ _ hb]
 refine ⟨fun v hv=>?_,fun o h=>?_,fun j hj=>?_⟩
 · by_cases e : v = x
   · subst e;exact I.gn
   · show Zz (upd q.sw x _ v) = _
     rw [Z7 _ _ _ _ e];exact H.gw v hv
 · rw [hy]
   rcases List.mem_cons.1 h with rfl | h
   · show κ = (y'.ck i).cl /\ ∃ j,(q.y.ck i).us = j * room κ
     rw [hck]
     refine ⟨rfl,?_⟩
     obtain ⟨J,hJ,_⟩:=H.pl i hik
     rcases hcl with e | e
     · exact ⟨0,by rw [e,Nat.zero_mul]⟩
     · rw [e] at hJ;exact ⟨J,hJ⟩
   · obtain ⟨p1,p2⟩:=H.lp o h
     refine ⟨?_,p2⟩
     by_cases e : o.i = i
     · rw [p1,e,hck]
       have h1:=(C.li o h).us
       have h2:=Zv o.κ
       rw [e] at h1
       exact hcl.resolve_left (by omega)
     · rw [hoth _ e];exact p1
 · rw [hy]
   obtain ⟨J,hJ,hp⟩:=H.pl j hj
   by_cases e : j = i
   · subst e
     rw [hck]
     show ∃ J',(q.y.ck j).us + room κ = J' * room κ /\ ∀ j',j' < J' -> ∃ o : Ox,o.ok t n k m /\ o.i = j /\ o.u = j' * room κ /\ o.κ = κ /\ _ /\ _
     have hJ' : (q.y.ck j).us = J * room κ:=by
      rcases hcl with e | e
      · rw [e] at hJ
        have h2:=Zv (q.y.ck j).cl
        rcases Nat.eq_zero_or_pos J with e0 | e0
        · rw [e,e0,Nat.zero_mul]
        · have:=Nat.mul_le_mul e0 h2.1
          omega
      · rw [e] at hJ;exact hJ
     have qK : 0 < J -> (q.y.ck j).cl = κ:=fun h0=>hcl.resolve_left (fun e=>by
      rw [hJ'] at e
      have:=Nat.mul_le_mul h0 hr.1
      omega)
     refine ⟨J + 1,by rw [hJ',Nat.succ_mul],fun j' hj'=>?_⟩
     by_cases ej : j' = J
     · subst ej
       exact ⟨_,K,rfl,hJ',rfl,L.hw,Or.inl ho⟩
     · obtain ⟨o,o1,o2,o3,o4,o5,o6⟩:=hp j' (by omega)
       rw [qK (by omega)] at o3 o4
       refine ⟨o,o1,o2,o3,o4,?_,o6.imp (fun h=>List.mem_cons_of_mem _ h) id⟩
       rw [hdw o.a,o5]
       have hjj : j' * room κ + room κ <= J * room κ:=by
        have:=Nat.mul_le_mul_right (room κ) (show j' + 1 <= J by omega)
        rwa [Nat.succ_mul] at this
       have:=Ox.XY o1 (j:=0) (i:=j) (u:=(q.y.ck j).us) (Nat.zero_le _) (by omega) (Or.inr (by rw [o3,o4];omega))
       rw [ha];exact this
   · rw [hoth j e]
     refine ⟨J,hJ,fun j' hj'=>?_⟩
     obtain ⟨o,o1,o2,o3,o4,o5,o6⟩:=hp j' hj'
     refine ⟨o,o1,o2,o3,o4,?_,o6.imp (fun h=>List.mem_cons_of_mem _ h) id⟩
     rw [hdw o.a,o5]
     have:=Ox.XY o1 (j:=0) (i:=i) (u:=(q.y.ck i).us) (Nat.zero_le _) (by omega) (Or.inl (by rw [o2];exact e))
     rw [ha];exact this
theorem TW.gone {l1 l2 : List Ox} {o : Ox} (H : TW t n k m q gen (l1 ++ o :: l2)) (C : WY t n k m q nx gen (l1 ++ o :: l2)) (hG : Good t n k m cg 600 3) (hn : n <= 65535) (hl : (o.g : Int) < cg) : TW t n k m (q.gone cg o.x (q.sw o.x) o.Z o.i) (upd gen o.x (o.g + 1)) (l1 ++ l2):=by
 have ho : o ∈ l1 ++ o :: l2:=by simp
 have hsub : ∀ o',o' ∈ l1 ++ l2 -> o' ∈ l1 ++ o :: l2:=fun o' h'=>by
  rcases List.mem_append.1 h' with h' | h' <;> simp [h']
 have C':=C.gone hG hn hl
 have I:=C.is hG hn ho
 have K:=C.ok o ho
 have hgn:=C.gn o ho
 have vk:=Yb K.z1 K.kz
 obtain ⟨p1,p2⟩:=H.lp o ho
 have hy : (q.gone cg o.x (q.sw o.x) o.Z o.i).y = q.y:=rfl
 refine ⟨fun v hv=>?_,fun o' h'=>H.lp o' (hsub o' h'),fun i hi=>?_⟩
 · by_cases e : v = o.x
   · subst e
     exact C'.OM (by show o.x ∈ o.x :: q.F;simp) hv
   · show Zz (upd q.sw o.x _ v) = _
     rw [Z7 _ _ _ _ e,Z7 _ _ _ _ e];exact H.gw v hv
 · rw [hy]
   obtain ⟨J,hJ,hp⟩:=H.pl i hi
   refine ⟨J,hJ,fun j hj=>?_⟩
   obtain ⟨o',o1,o2,o3,o4,o5,o6⟩:=hp j hj
   refine ⟨o',o1,o2,o3,o4,?_,?_⟩
   · show P5 q.dw _ _ _ o'.a = _
     rw [Ru,o5]
     rintro ⟨h1,h2⟩
     rw [I.ad] at h1 h2
     have hk1:=o1.uk
     have hk2:=K.uk
     by_cases e : o.i = i
     · obtain ⟨j0,hj0⟩:=p2
       rw [e,<- o4] at p1
       rw [<- o4] at o3
       rw [p1] at hj0 vk
       have a1:=o1.ae
       have a2:=K.ae
       rw [o2] at a1
       rw [e] at a2
       have hlt : j0 * room o'.κ < j * room o'.κ:=by omega
       have hjj : j0 < j:=Nat.lt_of_mul_lt_mul_right hlt
       have:=Nat.mul_le_mul_right (room o'.κ) (show j0 + 1 <= j by omega)
       rw [Nat.succ_mul] at this
       omega
     · have hb:=Zv o'.κ
       exact Ox.XY K (j:=o'.a - o.a) (i:=i) (u:=o'.u) (by omega) (by omega) (Or.inl e) (by have:=o1.ae;rw [o2] at this;omega)
   · by_cases e : o'.x = o.x
     · rw [e,upd_same]
       rcases o6 with h | h
       · by_cases e2 : o' ∈ l1 ++ l2
         · exact Or.inl e2
         · have : o' = o:=by
            rcases List.mem_append.1 h with h | h
            · exact absurd (List.mem_append_left _ h) e2
            · rcases List.mem_cons.1 h with h | h
              · exact h
              · exact absurd (List.mem_append_right _ h) e2
           right;rw [this];omega
       · right;rw [e,hgn] at h;omega
     · rw [Z7 _ _ _ _ e]
       rcases o6 with h | h
       · left
         rcases List.mem_append.1 h with h | h
         · exact List.mem_append_left _ h
         · rcases List.mem_cons.1 h with h | h
           · exact absurd (by rw [h]) e
           · exact List.mem_append_right _ h
       · exact Or.inr h
theorem VJ {Z x G : Nat} {own : Bool} (hZ : Z <= 65535) (hx : x <= 65535) (hG : G <= 65535) : Zg 2 Z x G own % 4 = 2 /\ (Zg 2 Z x G own / 262144 % 65536).toNat = x /\ (Zg 2 Z x G own / 17179869184 % 65536).toNat = G:=by
 have e:=Tq 2 Z x G own (by decide) hZ hx hG
 rw [show ((2 : Nat) : Int) = 2 from rfl] at e
 rw [e]
 cases own
 · rw [if_neg (by decide)]
   exact ⟨by omega,by omega,by omega⟩
 · rw [if_pos rfl]
   exact ⟨by omega,by omega,by omega⟩
theorem Sm {i : Nat} : ∀ {l : List Ox},Yk i l = 0 -> ∀ o ∈ l,o.i ≠ i
 | a :: l,h,o,ho=>by
  have hr:=Zv a.κ
  have h' : (if a.i = i then room a.κ else 0) + Yk i l = 0:=h
  rcases List.mem_cons.1 ho with rfl | ho
  · intro e;rw [if_pos e] at h';omega
  · exact Sm (by omega) o ho
theorem TW.dead {z : Zt} {tr : Int} (H : TW t n k m z.q gen ls) (C : WY t n k m z.q nx gen ls) (hn : n <= 65535) {i : Nat} (hi : i < k) (h0 : z.q.lv i = 0) : (∃ j,(z.q.y.ck i).us = j * room (z.q.y.ck i).cl) /\ ∀ j,j * room (z.q.y.ck i).cl < (z.q.y.ck i).us -> z.gone t n k m tr i (z.q.y.ck i) (j * room (z.q.y.ck i).cl):=by
 obtain ⟨J,hJ,hp⟩:=H.pl i hi
 refine ⟨⟨J,hJ⟩,fun j hj=>?_⟩
 rw [hJ] at hj
 have nG : j < J:=Nat.lt_of_mul_lt_mul_right hj
 obtain ⟨o,o1,o2,o3,o4,o5,o6⟩:=hp j nG
 have hnl : o ∉ ls:=fun h=>Sm (by rw [<- C.lv i hi];exact h0) o h o2
 have hlt : o.g < gen o.x:=o6.resolve_left hnl
 have hae : base t n k m i + j * room (z.q.y.ck i).cl = o.a:=by rw [o1.ae,o2,o3]
 have z2:=o1.z2
 have x1:=o1.x1
 obtain ⟨d1,d2⟩:=VI (Z:=o.Z) (x:=o.x) (G:=o.g) (own:=o.own) (by omega) (by omega) o1.g2
 obtain ⟨d3,d4,d5⟩:=VJ (Z:=o.Z) (x:=o.x) (G:=o.g) (own:=o.own) (by omega) (by omega) o1.g2
 have hW : LD (Zg 2 o.Z o.x o.g o.own) o.a i tr = ⟨o.a,i,o.Z,o.κ,o.x,o.g,o.own,tr⟩:=by
  unfold LD
  rw [d1,d2,d4,d5,o1.kz]
  rfl
 have vk:=Yb o1.z1 o1.kz
 have hJs:=Nat.mul_le_mul_right (room (z.q.y.ck i).cl) (show j + 1 <= J by omega)
 rw [Nat.succ_mul] at hJs
 rw [o4] at vk
 have oW:=o1.uk
 right
 rw [hae,o5,hW]
 refine ⟨d3,⟨o1.z1,z2,o1.kz,o1.k4,x1,o1.g2,hi,o.u,by rw [o4] at oW;show o.u + o.Z < m;omega,by show o.a = _;rw [o1.ae,o2]⟩,by rw [d1,hJ];omega,?_⟩
 unfold Vt Mw.here
 have hg:=H.gw o.x x1
 have : decide (Zz (z.q.sw o.x) = o.g) = false:=decide_eq_false (by omega)
 simp only [this,Bool.false_and]
 rfl
end
end
end Go.Proofs.YtmnnhjhhhfabiaaGreat
