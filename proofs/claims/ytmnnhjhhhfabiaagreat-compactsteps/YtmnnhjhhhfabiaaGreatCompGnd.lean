import Derived.Test.YtmnnhjhhhfabiaaGreatBox
import Derived.Test.YtmnnhjhhhfabiaaGreatDropActs
import Derived.ArgAppend
import Derived.Test.YtmnnhjhhhfabiaaGreatCompAwakeA
namespace Go.Proofs.YtmnnhjhhhfabiaaGreat
open Go.RowKit
section
section
variable {P : Program} {ops : Array Oper} {Q : Exit -> Act -> World -> Prop} {R : World -> World -> Prop} {J : (Nat -> Option Value) -> Prop} {kR : List (Want R)}
end
end
section
structure Rw (w : World) (T : TypeId) (b cap : Nat) (l : List Value) : Prop where
 ex : ∃ c,w.heap[b]? = some (.cells c T (0,0)) /\ cap <= c.size /\ ∀ (i : Nat) (x : Value),l[i]? = some x -> c[i]? = some x
 le : l.length <= cap
namespace Rw
variable {w w' : World} {T T' : TypeId} {b b' cap cap' : Nat} {l l' : List Value}
theorem lt (h : Rw w T b cap l) : b < w.heap.size:=by obtain ⟨c,k,_⟩:=h.ex;exact WO k
theorem cell (h : Rw w T b cap l) {i : Nat} {x : Value} (hx : l[i]? = some x) : w.cell? ⟨b,i,none⟩ = some x:=by
 obtain ⟨c,k,_,k2⟩:=h.ex;exact ZW k (k2 i x hx)
theorem of_block (h : Rw w T b cap l) (e : w'.heap[b]? = w.heap[b]?) : Rw w' T b cap l:=⟨h.ex.imp fun _ k=>⟨e.trans k.1,k.2⟩,h.le⟩
theorem grown (h : Rw w T b cap l) (g : Below w.heap.size w w') : Rw w' T b cap l:=h.of_block (g.block _ h.lt)
theorem only {S : Nat -> Prop} (h : Rw w T b cap l) (o : Only S w w') (hs : ¬ S b) : Rw w' T b cap l:=h.of_block (o.block _ h.lt hs)
end Rw
theorem Rw.app {w : World} {T S : TypeId} {b cap bytes : Nat} {l : List Value} {z : Value} (hu : Tryz.prog.underlying S = some (.slice T)) (hi0 : (Tryz.prog.info? T).map (fun i=>(i.zero,i.size,i.bytes)) = some (some z,1,bytes)) (hz : z.cells.size = 1) (hby : bytes <= 24)
 (h : Rw w T b cap l) (g : Nat) (x : Value) (hx : x.oneCell' = true) (hg : w.cell? ⟨g,0,none⟩ = some x) (hl : l.length <= 1000) (ty : TypeId) :
 ∃ b' cap' w',(Builtin.append_ #[S,S] ty #[.slice (some ⟨b,0,none⟩) l.length cap,.slice (some ⟨g,0,none⟩) 1 1]).run Tryz.prog w = .ok (.slice (some ⟨b',0,none⟩) (l.length + 1) cap') w' /\ Rw w' T b' cap' (l ++ [x]) /\ Only (fun k=>k = b) w w' /\ ((b' = b /\ cap' = cap /\ Rw w' T b cap l) \/ (w.heap.size <= b' /\ Grown w w')):=by
 obtain ⟨i0,hi,hz0,hz1,hz2⟩:=info_parts hi0
 obtain ⟨c,k,k1,k2⟩:=h.ex
 have hle:=h.le
 have hnews : ∀ j u,[x][j]? = some u -> w.cell? ((⟨g,0,none⟩ : Addr).add j) = some u:=fun j u hu=>by
  cases j with
  | zero=>simp at hu;subst hu;rw [add_lit];exact hg
  | succ j=>simp at hu
 by_cases hr : l.length + 1 <= cap
 · have hlt : l.length < c.size:=by omega
   have hcell : w.cell? ⟨b,l.length,none⟩ = some (c[l.length]):=ZW k (Array.getElem?_eq_getElem hlt)
   have hrun:=run_append_room_cells (P:=Tryz.prog) w S ty T i0 hu hi b 0 l.length cap ⟨g,0,none⟩ 1 1 [x] (by simp [hz1]) hnews (by simpa using hx) hr
    (fun j hj=>by
     have : j = 0:=by simpa using hj
     subst this;rw [hz1,Nat.mul_one,Nat.add_zero,Nat.zero_add,hcell];rfl)
    (fun j hj=>Zc k _)
   rw [hz1,Nat.mul_one,Nat.zero_add] at hrun
   have hs : w.setCells b l.length [x] = w.setCell ⟨b,l.length,none⟩ x:=by simp [World.setCells]
   rw [hs] at hrun
   refine ⟨b,cap,_,hrun,?_,?_,Or.inl ⟨rfl,rfl,?_⟩⟩
   · refine ⟨⟨c.setIfInBounds l.length x,ZU _ _ _ _ _ _ k,by simpa using k1,fun i y hy=>?_⟩,by simpa using hr⟩
     by_cases hil : i < l.length
     · rw [List.getElem?_append_left hil] at hy
       rw [Array.getElem?_setIfInBounds_ne (by omega)];exact k2 i y hy
     · have hi2 : i < (l ++ [x]).length:=(List.getElem?_eq_some_iff.1 hy).1
       simp at hi2
       obtain rfl : i = l.length:=by omega
       simp at hy
       subst hy
       rw [Array.getElem?_setIfInBounds_self_of_lt hlt]
   · exact Only.setCell (a:=⟨b,l.length,none⟩) (Only.refl (fun k=>k = b) w) (fun _=>rfl) x
   · refine ⟨⟨c.setIfInBounds l.length x,ZU _ _ _ _ _ _ k,by simpa using k1,fun i y hy=>?_⟩,hle⟩
     have hil : i < l.length:=(List.getElem?_eq_some_iff.1 hy).1
     rw [Array.getElem?_setIfInBounds_ne (by omega)];exact k2 i y hy
 · obtain ⟨v',w',hrun,ho,hgr⟩:=run_append_arg_grows (P:=Tryz.prog) w S ty T i0 z 1 bytes hu hi hz0 hz1 hz2 hz (by decide) ⟨b,0,none⟩ l.length cap l (by simp)
    (fun j u hu=>by rw [add_lit,Nat.zero_add];exact h.cell hu)
    ⟨g,0,none⟩ 1 1 [x] (by simp) hnews (by omega) (by unfold maxLen;omega) (Nat.le_trans (Nat.mul_le_mul_left _ hby) (by omega))
   rcases ho.2 with ⟨_,h2⟩ | ⟨g',cap',cur,h',hb,hg',hcap,hmax,hsz,htake⟩
   · omega
   · subst h'
     refine ⟨g',cap',w',hrun,⟨⟨cur,hg',by omega,fun i u hu=>?_⟩,by simpa using hcap⟩,Only.ZZ (Grown.of hgr),Or.inr ⟨hb,Grown.of hgr⟩⟩
     have e:=congrArg (fun q=>q[i]?) htake
     have hlt : i < l.length + 1:=by have:=lt_of_some hu;simpa using this
     simp only [Nat.mul_one] at e
     rw [List.getElem?_take_of_lt hlt,hu] at e
     simpa using e
theorem Tryz.zI : (Tryz.prog.info? 34).map (fun i=>(i.zero,i.size,i.bytes)) = some (some (.int .u64 0),1,8):=by kernel_rfl
end
section
set_option maxRecDepth 20000
theorem Jh {S : Nat -> Prop} {w0 w w' : World} (b : Below w0.heap.size w0 w) (o : Only S w w') (h : ∀ x,S x -> w0.heap.size <= x) : Below w0.heap.size w0 w' :=
 b.trans (o.below b.size (fun i hi hs=>by have:=h i hs;omega))
structure Jg (w0 w : World) (L : Loc) (E t n k m : Nat) (s : Mm) (σ : Nat) (z : Zt) (nx : Nat) (gen : Nat -> Nat) (ls : List Ox) : Prop where
 mm : Z9 w L s
 r : YF t n k m s σ z nx gen ls
 v : ZV w E t n k m 100 600 3 L.p 0
 b : Below w0.heap.size w0 w
structure wY (w0 : World) (L : Loc) (E : Nat) : Prop where
 l0 : ∀ k,L.has k -> w0.heap.size <= k
 e : ¬ L.has E
 e0 : w0.heap.size <= E
section
variable {w0 w w' : World} {L : Loc} {E t n k m σ nx : Nat} {s : Mm} {z : Zt} {gen : Nat -> Nat} {ls : List Ox}
theorem Jg.grown (f : Jg w0 w L E t n k m s σ z nx gen ls) (g : Below w.heap.size w w') : Jg w0 w' L E t n k m s σ z nx gen ls:=⟨f.mm.below g,f.r,f.v.grown g,grow f.b g⟩
theorem Jg.only {s' : Mm} {σ' : Nat} {z' : Zt} {nx' : Nat} {Ic : Nat -> Nat} {ls' : List Ox} (f : Jg w0 w L E t n k m s σ z nx gen ls) (a : wY w0 L E) (o : Only L.has w w') (mm : Z9 w' L s') (r : YF t n k m s' σ' z' nx' Ic ls') : Jg w0 w' L E t n k m s' σ' z' nx' Ic ls' :=
 ⟨mm,r,f.v.only o a.e,PM f.b o a.l0⟩
theorem Jg.own (f : Jg w0 w L E t n k m s σ z nx gen ls) {b : Nat} (o : Only (fun x=>x = b) w w') (h0 : w0.heap.size <= b) (he : b ≠ E) (hl : ¬ L.has b) : Jg w0 w' L E t n k m s σ z nx gen ls :=
 ⟨f.mm.only o (fun _ hx e=>hl (e ▸ hx)),f.r,f.v.only o (fun e=>he e.symm),Jh f.b o (fun _ e=>e ▸ h0)⟩
end
theorem Rw.zL (w : World) (T : TypeId) : Rw (w.alloc (.cells #[] T)) T w.heap.size 0 []:=⟨⟨#[],Go.Deep.blk_alloc_new _ _,by simp,fun i x h=>by simp at h⟩,by simp⟩
def hsA (j : Nat) : List Value:=(List.range j).map (fun d : Nat=>.int .u64 (YL (d : Int) (1 : Int)))
theorem Jf (j : Nat) : (hsA j).length = j:=by simp [hsA]
theorem Eg (j : Nat) : hsA (j + 1) = hsA j ++ [.int .u64 (YL (j : Int) (1 : Int))]:=by simp [hsA,List.range_succ]
theorem wX {j d : Nat} (h : d < j) : (hsA j)[d]? = some (.int .u64 (YL (d : Int) (1 : Int))):=by simp [hsA,h]
theorem KO (w : World) (L : Loc) (K : Nat -> Prop) : ∃ cs f,XZ (w.alloc Vu) w.heap.size 0 110 L K cp0 cs f:=by
 obtain ⟨cs,h⟩:=Ef w
 exact ⟨cs,cmp0,h,⟨rfl,rfl,YK.nil _,fun x hx=>by cases hx⟩,⟨rfl,rfl,rfl,rfl,rfl,rfl,rfl,rfl,rfl⟩⟩
theorem Ib {w : World} {L : Loc} {s : Mm} {σ j nx : Nat} {q : Q} {ls : List Ox} (hj : j < 7) (A : yj j q nx ls) (h : Z9 w L s) (R : YF 1 20 4 20 s σ ⟨q,0,fun _=>0,fun _=>0⟩ nx (fun _=>1) ls) (hσ : σ + 400 < 1000000) :
 Calls Tryz.prog 11 #[eV 1 20 4 20 100 600 3 L.p 0,iV 2,.bool false] w fun e w'=>∃ (st : Nat) (s' : Mm) (σ' : Nat) (q' : Q) (nx' : Nat) (ls' : List Ox),e = .returned (.agg #[iV 0,.int .u64 (YL (j : Int) (1 : Int)),iV 0,iV st]) /\ yj (j + 1) q' nx' ls' /\ Z9 w' L s' /\ YF 1 20 4 20 s' σ' ⟨q',0,fun _=>0,fun _=>0⟩ nx' (fun _=>1) ls' /\ σ' <= σ + 100 /\ Only L.has w w':=by
 have k2 : ZM ((2 : Nat) : Int) = ((0 : Nat) : Int):=by decide
 refine (YF.make (own:=false) (Z:=2) (κ:=0) h R Ti (by decide) (by decide) k2 (by decide) hσ 0).mono ?_
 rintro e w' ⟨E1,H1,st,s',σ',q',nx',ls',he,M,m2,r2,h2,o2⟩
 obtain ⟨A2,e1,e2⟩:=zK hj A R.tm.al M
 rw [e1,e2] at he
 exact ⟨st,s',σ',q',nx',ls',he,A2,m2,r2,h2,o2⟩
theorem Ia {w : World} {L : Loc} {s : Mm} {σ d nx : Nat} {q : Q} {gen : Nat -> Nat} (hd : d < 6) (A : wW q nx) (db : ∀ i,q.db i = 0) (h : Z9 w L s) (R : YF 1 20 4 20 s σ ⟨q,0,fun _=>0,fun _=>0⟩ nx gen (Q4 d)) (hσ : σ + 200 < 1000000) :
 Calls Tryz.prog 16 #[eV 1 20 4 20 100 600 3 L.p 0,.int .u64 (YL (d : Int) (1 : Int)),.bool false] w fun e w'=>∃ (st : Int) (s' : Mm) (σ' : Nat) (q' : Q) (Ic : Nat -> Nat),e = .returned (.agg #[iV 0,.int .u64 0,iV 0,iV st]) /\ wW q' nx /\ (∀ i,q'.db i = 0) /\ Z9 w' L s' /\ YF 1 20 4 20 s' σ' ⟨q',0,fun _=>0,fun _=>0⟩ nx Ic (Q4 (d + 1)) /\ σ' <= σ + 40 /\ Only L.has w w':=by
 rw [zJ d hd] at R
 have k:=YF.drop h R Ti (show (((Ee d).g : Nat) : Int) < 100 from (by show ((1 : Nat) : Int) < 100;decide)) hσ 0
 rw [List.append_nil] at k
 refine k.mono ?_
 rintro e w' ⟨st,s',σ',he,m2,r2,h2,o2⟩
 exact ⟨st,s',σ',q.gone 100 (Ee d).x (q.sw (Ee d).x) (Ee d).Z (Ee d).i,_,he,⟨A.nx,A.op,A.u0,A.c0,A.u1,A.c1⟩,db,m2,r2,h2,o2⟩
theorem OQ {w : World} {L : Loc} {s : Mm} {σ : Nat} {y : Y} (st c : Int) (h : Z9 w L s) (hY : Yg 1 20 4 20 s σ y) (NR : σ <= 2000000) (hc : ((Yp y st 4 : Nat) : Int) = c) :
 Calls Tryz.prog 20 #[eV 1 20 4 20 100 600 3 L.p 0,iV st] w fun e w'=>e = .returned (iV c) /\ Below w.heap.size w w':=by
 have k:=Ed h hY Ti NR st 0
 rw [hc] at k
 exact k
set_option maxRecDepth 20000 in
set_option maxHeartbeats 2000000 in
theorem NQ (w : World) :
 Calls Tryz.prog 10 #[] w fun e w'=>e = .returned (.bool true) /\ Below w.heap.size w w':=by
 have f1 : ∀ (a1 a2 a3 a4 : Value) (w : World),(Instr.field 36 (.agg #[a1,a2,a3,a4]) 1).run Tryz.prog w = .ok a2 w:=fun a1 a2 a3 a4 w=>by kernel_rfl
 have fl : ∀ (a1 a2 a3 a4 a5 : Value) (w : World),(Instr.field 63 (.agg #[a1,a2,a3,a4,a5]) 2).run Tryz.prog w = .ok a3 w:=fun a1 a2 a3 a4 a5 w=>by kernel_rfl
 have AR:=fun w=>Sr Ti w
 have R0:=Ec Ti (by decide)
 go_enter Tryz.func10,Tryz.ntmps10
 go_wp2_with (go_at_call 9;refine (AR _).mono ?_;rintro e w1 ⟨L,rfl,m1,b1,l1⟩)
 obtain ⟨E,hE⟩ : ∃ E,w1.heap.size = E:=⟨_,rfl⟩
 have hle:=b1.size
 have G0 : Hid (Jg w (w1.alloc (eO 1 20 4 20 100 600 3 L.p 0)) L E 1 20 4 20 (Mm.laid 1 20 (ZR 1 20 4 20) 20) (1 + 2 * 20) ⟨Q.new 20,0,fun _=>0,fun _=>0⟩ 0 (fun _=>1) []):=⟨m1.alloc _,R0,hE ▸ ZV.new,Z5 b1 _⟩
 have GA : Hid (wY w L E):=⟨l1,fun hh=>by have:=m1.lt _ hh;omega,by omega⟩
 have qW:=Rw.zL (w1.alloc (eO 1 20 4 20 100 600 3 L.p 0)) 34
 rw [Go.Deep.nblk_alloc,hE] at qW
 have W0 : Hid (Rw _ 34 (E + 1) 0 []):=qW
 have hS0 : Hid (¬ L.has (E + 1) /\ w.heap.size <= E + 1 /\ E + 1 ≠ E):=⟨fun hh=>by have:=m1.lt _ hh;omega,by omega,by omega⟩
 clear qW R0 m1 b1 l1
 simp only [hE]
 go_loopw [3,4] (fun v iv wr=>∃ (j bl cap : Nat) (s : Mm) (σ : Nat) (q : Q) (nx : Nat) (ls : List Ox),iv = iV j /\ v = .slice (some ⟨bl,0,none⟩) j cap /\ j <= 7 /\ σ <= 41 + 100 * j /\ Jg w wr L E 1 20 4 20 s σ ⟨q,0,fun _=>0,fun _=>0⟩ nx (fun _=>1) ls /\ yj j q nx ls /\ Rw wr 34 bl cap (hsA j) /\ ¬ L.has bl /\ w.heap.size <= bl /\ bl ≠ E) (fun _ iv _=>7 - (intOf iv).toNat)
 case atStart=>exact ⟨0,E + 1,0,_,_,_,_,_,rfl,rfl,by decide,by decide,G0.out.grown (Zh _ _),Eb,W0.out,hS0.out⟩
 case round =>
 clear G0 W0 hS0 hE hle
 obtain ⟨j,bl,cap,s,σ,q,nx,ls,rfl,rfl,hj,hσ,f,A,rw,hnl,hw0,hne⟩:=hrel
 by_cases nR : j < 7
 · have hjd : decide ((j : Int) < 7) = true:=decide_eq_true (by omega)
   have HA : Hid (yj j q nx ls):=A
   have Ea : σ + 400 < 1000000:=by omega
   have hw1 : wrap64 ((j : Int) + 1) = (j : Int) + 1:=by unfold wrap64;omega
   clear A
   obtain ⟨y0,y1,y2,y3,y4,y5,y6,y7,y8⟩:=f.v
   go_wp2_with (first
    | (go_at_call 11;refine (Ib nR HA.out f.mm f.r Ea).mono ?_;rintro e w2 ⟨st,s',σ',q',nx',ls',rfl,A2,m2,r2,h2,o2⟩;go_must (have f2 : Jg w w2 L E 1 20 4 20 s' σ' ⟨q',0,fun _=>0,fun _=>0⟩ nx' (fun _=>1) ls':=f.only GA.out o2 m2 r2;have nP:=(rw.only o2 hnl).grown (Zh _ (.cells #[.int .u64 (YL (j : Int) (1 : Int))] 34));have hg1 : (w2.alloc (.cells #[.int .u64 (YL (j : Int) (1 : Int))] 34)).cell? ⟨w2.heap.size,0,none⟩ = some (.int .u64 (YL (j : Int) (1 : Int))):=(by simp);obtain ⟨b',cap',w',hrun,r',o',hwh⟩:=Rw.app (S:=32) (by kernel_rfl) Tryz.zI rfl (by decide) nP w2.heap.size (.int .u64 (YL (j : Int) (1 : Int))) rfl hg1 (by rw [Jf];omega) 32;rw [Jf] at hrun;have HH : Hid ((b' = bl /\ cap' = cap /\ Rw w' 34 bl cap (hsA j)) \/ ((w2.alloc (.cells #[.int .u64 (YL (j : Int) (1 : Int))] 34)).heap.size <= b' /\ Grown (w2.alloc (.cells #[.int .u64 (YL (j : Int) (1 : Int))] 34)) w')):=hwh;clear hwh))
    | (at_builtin;go_must (refine KN rfl (.tmp 18) (.tmp 22) rfl rfl rfl hrun ?_)))
   go_roundw
   case rel =>
    refine ⟨j + 1,b',cap',s',σ',q',nx',ls',by go_num,rfl,by omega,by omega,(f2.grown (Zh _ _)).own o' hw0 hne hnl,A2,by rw [Eg];exact r',?_⟩
    rcases HH.out with ⟨rfl,_,_⟩ | ⟨hge,_⟩
    · exact ⟨hnl,hw0,hne⟩
    · rw [Go.Deep.nblk_alloc] at hge
      have hb:=f2.b.size
      have hE:=World.block_lt_of_cell? _ _ f2.v.c0
      simp only at hE
      exact ⟨fun hh=>by have:=f2.mm.lt _ hh;omega,by omega,by omega⟩
   case measure=>simp [intOf];omega
 · obtain rfl : j = 7:=by omega
   have pG : Hid (wW q nx):=by
    rcases A.y with ⟨h,_⟩ | ⟨_,h,_⟩ | ⟨_,h⟩
    · omega
    · omega
    · exact h
   have H8 : Hid (∀ i,q.db i = 0):=A.db
   have hls:=A.ls
   subst hls
   have F0 : Hid (Jg w wr L E 1 20 4 20 s σ ⟨q,0,fun _=>0,fun _=>0⟩ nx (fun _=>1) (Q4 0)):=f
   have W0 : Hid (Rw wr 34 bl cap (hsA 7)):=rw
   clear f rw A
   go_wp2
   go_loopw [5] (fun iv wr=>∃ (d : Nat) (s : Mm) (σ : Nat) (q : Q) (gen : Nat -> Nat),iv = iV d /\ d <= 6 /\ σ <= 741 + 40 * d /\ Jg w wr L E 1 20 4 20 s σ ⟨q,0,fun _=>0,fun _=>0⟩ nx gen (Q4 d) /\ wW q nx /\ (∀ i,q.db i = 0) /\ Rw wr 34 bl cap (hsA 7)) (fun iv _=>6 - (intOf iv).toNat)
   case atStart=>exact ⟨0,s,σ,q,_,rfl,by decide,by omega,F0.out,pG.out,H8.out,W0.out⟩
   case round =>
   clear F0 W0 pG H8
   obtain ⟨d,s1,σ1,q1,gen,rfl,hd,nO,f,A,db,rw⟩:=hrel
   have HA : Hid (wW q1 nx /\ ∀ i,q1.db i = 0):=⟨A,db⟩
   clear A db
   by_cases hd6 : d < 6
   · have hdd : decide ((d : Int) < 6) = true:=decide_eq_true (by omega)
     have hcell:=wX (j:=7) (d:=d) (by omega)
     have Ea : σ1 + 200 < 1000000:=by omega
     have hw1 : wrap64 ((d : Int) + 1) = (d : Int) + 1:=by unfold wrap64;omega
     go_wp2
     apply Yc 5;· kernel_rfl
     apply rV;· intro w' hg _;apply ol;obtain ⟨y0,y1,y2,y3,y4,y5,y6,y7,y8⟩:=(f.v.grown ((Below.refl _ _).drew)).grown hg;go_simp;exact gl
     iterate 2 (apply rV;· intros;apply ol;go_simp;exact gl)
     apply rV
     · intro w' hg _
       apply ol
       have hb1 : (0 : Int) <= (d : Int) /\ (d : Int) < 7:=by omega
       go_simp
       exact gl
     apply Zb;· intro w' hg _;apply ol;have z:=((rw.grown ((Below.refl _ _).drew)).grown hg).cell hcell;go_simp;exact gl
     try simp only [pu,s0,s1]
     intro w5 hg _
     have f5:=(f.grown ((Below.refl _ _).drew)).grown hg
     have nN:=(rw.grown ((Below.refl _ _).drew)).grown hg
     clear hg
     go_wp2_with (go_at_call 16;go_must (refine (Ia hd6 HA.out.1 HA.out.2 f5.mm f5.r Ea).mono ?_;rintro e w6 ⟨st,s',σ',q',Ic,rfl,A2,nM,m2,r2,h2,o2⟩))
     go_roundw
     case rel=>exact ⟨d + 1,s',σ',q',Ic,by go_num,by omega,by omega,f5.only GA.out o2 m2 r2,A2,nM,nN.only o2 hnl⟩
     case measure=>simp [intOf];omega
   · obtain rfl : d = 6:=by omega
     obtain ⟨c2,N,z',NP,id',hN,gg,cA,cB,hfr⟩:=H6 f.r HA.out.1 HA.out.2 (by omega)
     have HG : Hid (Vk 1 20 4 20 600 3 4 N σ1 ⟨q1,0,fun _=>0,fun _=>0⟩ cp0 z' ⟨.see [],NP,NP,id'⟩):=gg
     have HC : Hid (((Yp q1.y 1 4 : Nat) : Int) = 2 /\ ((Yp z'.q.y 1 4 : Nat) : Int) = 1 /\ ((Yp z'.q.y 0 4 : Nat) : Int) = 3 /\ NP.fr = 1):=⟨by rw [c2];rfl,by rw [cA];rfl,by rw [cB];rfl,hfr⟩
     have HS : Hid (w.heap.size <= E /\ E < wr.heap.size /\ ¬ L.has wr.heap.size /\ w.heap.size <= wr.heap.size):=⟨GA.out.e0,World.block_lt_of_cell? _ _ f.v.c0,fun hh=>by have:=f.mm.lt _ hh;omega,f.b.size⟩
     have hsg : σ1 <= 2000000:=by omega
     have hsn : σ1 + N <= 2000000:=by omega
     have qV : σ1 + N < 1000000:=by omega
     have hN3 : N <= 3000 * 4:=hN
     clear c2 gg cA cB hfr HA hN
     have f3:=f.grown (Zh _ Vu)
     have KP : Hid (Kp (fun y=>y < w.heap.size \/ y = E) L wr.heap.size (wr.alloc Vu)):=⟨fun e=>e.elim (fun e=>by have:=HS.out.2.2.2;omega) (fun e=>by have:=HS.out.2.1;omega),fun y e hh=>e.elim (fun e=>by have:=GA.out.l0 y hh;omega) (fun e=>GA.out.e (e ▸ hh)),fun y e=>by rw [Go.Deep.nblk_alloc];have:=HS.out;rcases e with e | e <;> omega⟩
     obtain ⟨y0,y1,y2,y3,y4,y5,y6,y7,y8⟩:=f3.v
     clear f
     go_wp2_with (go_at_call 17;go_must (refine (Vj _).mono ?_;rintro e w3 ⟨rfl,rfl⟩))
     go_wp2_with (go_at_call 20;go_must (refine (OQ 1 2 f3.mm f3.r.ld.tw.YN hsg HC.out.1).mono ?_;rintro e w4 ⟨rfl,b4⟩;have f4:=f3.grown b4;obtain ⟨z0,z1,z2,z3,z4,z5,z6,z7,z8⟩:=f4.v))
     go_wp2_with (go_at_call 18;go_must (refine (NL (c:=4) (cp:=cp0) f4.mm HS.out.2.2.1 ⟨KP.out.kb,KP.out.kl,fun y hy=>by have:=KP.out.lt y hy;have:=b4.size;omega⟩ f4.r.ld Ti ((KO wr L _).imp fun _ h=>h.imp fun _ h=>h.grown b4) 0 (by decide) hN3 qV (by decide) HG.out).mono ?_;rintro e w5 ⟨rfl,s5,m5,l5,⟨yg,F5,C5⟩,o5⟩;have v5:=f4.v.only o5 (fun hh=>hh (Or.inr rfl));have nK : Below w.heap.size w w5:=Jh f4.b o5 (fun x hx=>by have : ¬ x < w.heap.size:=fun e=>hx (Or.inl e);omega);obtain ⟨u0,u1,u2,u3,u4,u5,u6,u7,u8⟩:=id v5))
     have k5:=OQ 1 1 m5 l5.tw.YN hsn HC.out.2.1
     refine k5.mono ?_
     rintro e w6 ⟨rfl,b6⟩
     have v6:=v5.grown b6
     obtain ⟨x0,x1,x2,x3,x4,x5,x6,x7,x8⟩:=id v6
     clear k5 y0 y1 y2 y3 y4 y5 y6 y7 y8 z0 z1 z2 z3 z4 z5 z6 z7 z8 u0 u1 u2 u3 u4 u5 u6 u7 u8
     go_wp2_with fail
     have k6:=OQ 0 3 (m5.below b6) l5.tw.YN hsn HC.out.2.2.1
     refine k6.mono ?_
     rintro e w7 ⟨rfl,b7⟩
     clear k6
     have wV : F5 45 = iV 1:=C5.ct.Qi.trans (show iV (NP.fr : Nat) = iV 1 from (by rw [HC.out.2.2.2];rfl))
     have k7:=XI ((C5.grown b6).grown b7).cm C5.ct.Qa C5.ct.P9 wV C5.ct.P8 C5.ct.NK
     have H7 : Hid (F5 45 = iV 1):=wV
     clear wV
     go_wp2_with (go_at_call 25;go_must (refine k7.mono ?_;rintro e w8 ⟨rfl,b8⟩))
     go_ret
     exact ⟨rfl,grow (grow (grow nK b6) b7) b8⟩
end
section
section
variable {p : Int} {w0 w w' : World} {L : Loc} {E t n k m σ nx : Nat} {s : Mm} {z : Zt} {gen : Nat -> Nat} {ls : List Ox}
end
theorem meas {N i : Nat} (h : i < N) : N - (intOf (iV ((i : Int) + 1))).toNat < N - (intOf (iV (i : Int))).toNat:=by
 have e : (intOf (iV ((i : Int) + 1))).toNat = i + 1:=by simp only [intOf];omega
 have e2 : (intOf (iV (i : Int))).toNat = i:=by simp only [intOf];omega
 rw [e,e2]
 omega
theorem Xt : Good 1 30 8 34 100 600 3:=by constructor <;> decide
theorem DY {Z : Nat} (h1 : 1 <= Z) (h2 : Z <= 16) : ∃ κ : Nat,ZM (Z : Int) = (κ : Int) /\ κ < 4:=by
 unfold ZM
 repeat' split
 all_goals first
  | exact ⟨0,rfl,by decide⟩
  | exact ⟨1,rfl,by decide⟩
  | exact ⟨2,rfl,by decide⟩
  | exact ⟨3,rfl,by decide⟩
  | omega
end
end Go.Proofs.YtmnnhjhhhfabiaaGreat
