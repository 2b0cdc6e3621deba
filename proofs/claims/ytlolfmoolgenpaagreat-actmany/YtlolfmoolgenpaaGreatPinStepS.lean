import Derived.Test.YtlolfmoolgenpaaGreatLayRef
namespace Go.Proofs.YtlolfmoolgenpaaGreat
open Go.RowKit
set_option maxRecDepth 20000
theorem haspin_any (L : Loc) (c0 c1 c2 c3 c4 c5 c6 who : Int) (h0 : 0 <= who) (h1 : who < c0) (w : World) :
 Calls Tryz.prog 63 #[.agg #[.int .i64 c0,.int .i64 c1,.int .i64 c2,.int .i64 c3,.int .i64 c4,.int .i64 c5,.int .i64 c6,.pointer (some ⟨L.p,0,none⟩),.int .i64 who]] w fun e w'=>e = .returned (.bool true) /\ Below w.heap.size w w':=by
 go_enter Tryz.func63,Tryz.ntmps63
 go_wp2
 go_ret
 exact ⟨rfl,grow_alloc (Below.refl _ _) _⟩
structure InAt (w : World) (b o : Nat) (T : TypeId) (c : Array Value) (nx ep : Int) : Prop where
 obj : w.heap[b]? = some (.cells c T (0,0))
 h0 : c[o]? = some (.int .i64 nx)
 h1 : c[o + 1]? = some (.int .u64 ep)
def Same2 (o : Nat) (c c' : Array Value) : Prop:=c'.size = c.size /\ ∀ i,i ≠ o -> i ≠ o + 1 -> c'[i]? = c[i]?
section
variable {w w' : World} {b o : Nat} {T : TypeId} {c : Array Value} {nx ep : Int}
theorem Same2.trans {c' c'' : Array Value} (h : Same2 o c c') (k : Same2 o c' c'') : Same2 o c c'':=⟨k.1.trans h.1,fun i h1 h2=>(k.2 i h1 h2).trans (h.2 i h1 h2)⟩
theorem Same2.set0 (v : Value) : Same2 o c (c.setIfInBounds o v):=⟨by simp,fun i h1 _=>by simp [Ne.symm h1]⟩
theorem Same2.set1 (v : Value) : Same2 o c (c.setIfInBounds (o + 1) v):=⟨by simp,fun i _ h2=>by simp [Ne.symm h2]⟩
theorem InAt.c0 (h : InAt w b o T c nx ep) : w.cell? ⟨b,o,none⟩ = some (.int .i64 nx):=blk_cell h.obj h.h0
theorem InAt.c1 (h : InAt w b o T c nx ep) : w.cell? ⟨b,o + 1,none⟩ = some (.int .u64 ep):=blk_cell h.obj h.h1
theorem InAt.fz (h : InAt w b o T c nx ep) (i : Nat) : w.frozen? ⟨b,i,none⟩ = false:=blk_frozen h.obj i
theorem InAt.lt (h : InAt w b o T c nx ep) : b < w.heap.size:=blk_lt h.obj
theorem InAt.lt0 (h : InAt w b o T c nx ep) : o < c.size:=(Array.getElem?_eq_some_iff.1 h.h0).1
theorem InAt.lt1 (h : InAt w b o T c nx ep) : o + 1 < c.size:=(Array.getElem?_eq_some_iff.1 h.h1).1
theorem InAt.of_block (h : InAt w b o T c nx ep) (e : w'.heap[b]? = w.heap[b]?) : InAt w' b o T c nx ep:=⟨e.trans h.obj,h.h0,h.h1⟩
theorem InAt.grown (h : InAt w b o T c nx ep) (g : Below w.heap.size w w') : InAt w' b o T c nx ep:=h.of_block (g.block _ h.lt)
theorem InAt.only {S : Nat -> Prop} (h : InAt w b o T c nx ep) (g : Only S w w') (hs : ¬ S b) : InAt w' b o T c nx ep:=h.of_block (g.block _ h.lt hs)
theorem InAt.set0 (h : InAt w b o T c nx ep) (n : Int) : InAt (w.setCell ⟨b,o,none⟩ (.int .i64 n)) b o T (c.setIfInBounds o (.int .i64 n)) n ep :=
 ⟨blk_setCell _ _ _ _ _ _ h.obj,by simp [h.lt0],by rw [Array.getElem?_setIfInBounds_ne (by omega)];exact h.h1⟩
theorem InAt.set1 (h : InAt w b o T c nx ep) (n : Int) : InAt (w.setCell ⟨b,o + 1,none⟩ (.int .u64 n)) b o T (c.setIfInBounds (o + 1) (.int .u64 n)) nx n :=
 ⟨blk_setCell _ _ _ _ _ _ h.obj,by rw [Array.getElem?_setIfInBounds_ne (by omega)];exact h.h0,by simp [h.lt1]⟩
end
inductive PinStep (who : Nat) (s : Mm) : Int -> Int -> Mm -> Int -> Int -> Bool -> Prop where
 | load (ep : Int) : PinStep who s 0 ep ((s.by who).step 0 (s.wd 0)) 1 (s.wd 0) false
 | lay (ep : Int) : PinStep who s 1 ep ((s.by who).step (6 + who) (sum64 ep 1)) 2 ep false
 | same : PinStep who s 2 (s.wd 0) ((s.by who).step 0 (s.wd 0)) 3 (s.wd 0) true
 | other (ep : Int) (h : ¬ s.wd 0 = ep) : PinStep who s 2 ep ((s.by who).step 0 (s.wd 0)) 1 (s.wd 0) false
def phLoad (L : Loc) (b o : Nat) (T : TypeId) (c : Array Value) (s s' : Mm) (nx ep ep' : Int) : Nat -> World -> Prop
 | 0,w=>MemAt w L s /\ InAt w b o T c nx ep
 | 1,w=>MemAt w L s' /\ InAt w b o T c nx ep
 | _,w=>MemAt w L s' /\ InAt w b o T (c.setIfInBounds (o + 1) (.int .u64 ep')) nx ep'
theorem look_any {w : World} {L : Loc} {s : Mm} {b o : Nat} {T : TypeId} {c : Array Value} {ep : Int} (h : MemAt w L s) (hb : ¬ L.has b) (hi : InAt w b o T c 2 ep) (c0 c1 c2 c3 c4 c5 c6 : Int) (who : Nat) (hn : 0 < s.n) :
 Calls Tryz.prog 62 #[.pointer (some ⟨b,o,none⟩),.agg #[.int .i64 c0,.int .i64 c1,.int .i64 c2,.int .i64 c3,.int .i64 c4,.int .i64 c5,.int .i64 c6,.pointer (some ⟨L.p,0,none⟩),.int .i64 who]] w fun e w'=>e = .returned (.tuple #[]) /\ ∃ c' nx',MemAt w' L ((s.by who).step 0 (s.wd 0)) /\ InAt w' b o T c' nx' (s.wd 0) /\ Same2 o c c' /\ Only (L.and b) w w' /\ ((nx' = 3 /\ s.wd 0 = ep) \/ (nx' = 1 /\ ¬ s.wd 0 = ep)):=by
 have hbv : ¬ L.has w.heap.size:=fun hh=>by have:=h.lt _ hh;omega
 go_enter Tryz.func62,Tryz.ntmps62
 go_wp2
 refine wp_over (fun W=>MemAt W L s /\ InAt W b o T c 2 ep /\ BoxV W w.heap.size c0 c1 c2 c3 c4 c5 c6 L.p who /\ Only (L.and b) w W) ⟨h.alloc _,hi.grown (grow_alloc (Below.refl _ _) _),BoxV.new,(Only.refl _ _).alloc _⟩ ?_
 rintro W ⟨m1,i1,v1,o1⟩
 refine wp_region_phase (Only L.has) (fun x y=>y = x) (fun p W'=>match p with | 0=>MemAt W' L s | _=>MemAt W' L ((s.by who).step 0 (s.wd 0))) [2] [.val (.agg #[.int .i64 c0,.int .i64 c1,.int .i64 c2,.int .i64 c3,.int .i64 c4,.int .i64 c5,.int .i64 c6,.pointer (some ⟨L.p,0,none⟩),.int .i64 who]),.val (.int .i64 0),.val (.int .u64 (s.wd 0)),.val (.int .u64 (s.wd 0))]
  (by kernel_rfl) (Only.refl _) (fun _ _ _ h k=>h.trans k) (fun x y h=>by subst h;exact Only.refl _ _) (fun x y p h k=>by subst h;exact k) m1.drew (by kernel_rfl) (by kernel_rfl) (by kernel_rfl) (by kernel_rfl) (by kernel_rfl) ?_
 simp only [phaseAll,Act.put,List.setIfInBounds_toArray,List.set_cons_zero,List.set_cons_succ]
 refine ⟨?_,?_,?_,?_,?_⟩
 · intro w' hR _
   apply ol
   obtain ⟨y0,y1,y2,y3,y4,y5,y6,y7,y8⟩:=(v1.grown ((Below.refl _ _).drew)).only hR hbv
   go_simp
   exact ⟨rfl,rfl⟩
 · intro w' hR _
   apply ol
   go_simp
   refine (lepoch_any _).mono ?_
   rintro e w'' ⟨rfl,rfl⟩
   exact ⟨_,rfl,rfl,rfl⟩
 · intro w' hR _ hP
   apply ol
   go_simp
   refine (eload_in (s:=s) hP _ _ _ _ _ _ _ _ 0 hn).mono ?_
   rintro e w'' ⟨rfl,m2,o2⟩
   exact ⟨_,rfl,⟨o2,m2⟩,rfl⟩
 · intro w' hR _
   apply ol
   go_simp
   exact ⟨rfl,rfl⟩
 intro w2 hR m2 _
 have m2' : MemAt w2 L ((s.by who).step 0 (s.wd 0)):=m2
 clear m2
 have i2:=(i1.grown ((Below.refl _ _).drew)).only hR hb
 have o2 : Only (L.and b) w w2:=o1.drew.trans (hR.andL)
 have k0:=i2.c0
 have k1:=i2.c1
 have kf:=i2.fz
 clear m1 i1 v1 o1 hR
 by_cases he : s.wd 0 = ep
 · go_wp2
   refine bodyPost_ret (results_none rfl _ _ _) rfl ?_
   exact ⟨rfl,_,3,m2'.setIn hb _ _,by rw [he];exact i2.set0 3,Same2.set0 _,o2.set _ _,Or.inl ⟨rfl,he⟩⟩
 · go_wp2
   go_end0
   exact ⟨rfl,_,1,(m2'.setIn hb _ _).setIn hb _ _,(i2.set1 _).set0 1,(Same2.set1 _).trans (Same2.set0 _),(o2.set _ _).set _ _,Or.inr ⟨rfl,he⟩⟩
def Stepped (who : Nat) (L : Loc) (b o : Nat) (T : TypeId) (c : Array Value) (s : Mm) (nx ep : Int) (w : World) (e : Ending) (w' : World) : Prop :=
 ∃ d s' c' nx' ep',e = .returned (.bool d) /\ PinStep who s nx ep s' nx' ep' d /\ MemAt w' L s' /\ InAt w' b o T c' nx' ep' /\ Same2 o c c' /\ Only (L.and b) w w'
theorem step_load {w : World} {L : Loc} {s : Mm} {b o : Nat} {T : TypeId} {c : Array Value} {ep : Int} (h : MemAt w L s) (hb : ¬ L.has b) (hi : InAt w b o T c 0 ep) (c0 c1 c2 c3 c4 c5 c6 : Int) (who : Nat) (hn : 0 < s.n) (hw : (who : Int) < c0) :
 Calls Tryz.prog 61 #[.pointer (some ⟨b,o,none⟩),.agg #[.int .i64 c0,.int .i64 c1,.int .i64 c2,.int .i64 c3,.int .i64 c4,.int .i64 c5,.int .i64 c6,.pointer (some ⟨L.p,0,none⟩),.int .i64 who]] w (Stepped who L b o T c s 0 ep w):=by
 have hbv : ¬ L.has w.heap.size:=fun hh=>by have:=h.lt _ hh;omega
 have hbb : ¬ w.heap.size = b:=fun hh=>by have:=hi.lt;omega
 go_enter Tryz.func61,Tryz.ntmps61
 go_wp2_with (go_at_call 63;refine (haspin_any L c0 c1 c2 c3 c4 c5 c6 who (by omega) hw _).mono ?_;rintro e w1 ⟨rfl,b1⟩;have i1:=(hi.grown (grow_alloc (Below.refl _ _) _)).grown b1;have k0:=i1.c0;have k1:=i1.c1;have kf:=i1.fz)
 have m1:=(h.alloc (.cells #[.int .i64 c0,.int .i64 c1,.int .i64 c2,.int .i64 c3,.int .i64 c4,.int .i64 c5,.int .i64 c6,.pointer (some ⟨L.p,0,none⟩),.int .i64 who] 27)).below b1
 have v1 : BoxV w1 w.heap.size c0 c1 c2 c3 c4 c5 c6 L.p who:=BoxV.new.grown b1
 have o1 : Only (L.and b) w w1:=((Only.refl _ _).alloc _).trans (Only.ofGrown b1)
 refine wp_region_phase (Only (L.and b)) (fun x y=>y = x) (phLoad L b o T c s ((s.by who).step 0 (s.wd 0)) 0 ep (s.wd 0)) [3,6] [.val (.pointer (some ⟨b,o,none⟩)),.val (.agg #[.int .i64 c0,.int .i64 c1,.int .i64 c2,.int .i64 c3,.int .i64 c4,.int .i64 c5,.int .i64 c6,.pointer (some ⟨L.p,0,none⟩),.int .i64 who]),.val (.int .i64 0),.val (.int .u64 (s.wd 0)),.val (.pointer (some ⟨b,o,none⟩)),.val (.pointer (some ⟨b,o + 1,none⟩)),.that (fun _ _=>True) (fun _ _ _ _ _=>trivial)]
  (by kernel_rfl) (Only.refl _) (fun _ _ _ h k=>h.trans k) (fun x y h=>by subst h;exact Only.refl _ _) (fun x y p h k=>by subst h;exact k) ⟨m1.drew,i1.grown ((Below.refl _ _).drew)⟩ (by kernel_rfl) (by kernel_rfl) (by kernel_rfl) (by kernel_rfl) (by kernel_rfl) ?_
 simp only [phaseAll,Act.put,List.setIfInBounds_toArray,List.set_cons_zero,List.set_cons_succ]
 refine ⟨?_,?_,?_,?_,?_,?_,?_,?_⟩
 · intro w' hR _
   apply ol
   go_simp
   exact ⟨rfl,rfl⟩
 · intro w' hR _
   apply ol
   obtain ⟨y0,y1,y2,y3,y4,y5,y6,y7,y8⟩:=(v1.grown ((Below.refl _ _).drew)).only hR (fun hh=>hh.elim hbv hbb)
   go_simp
   exact ⟨rfl,rfl⟩
 · intro w' hR _
   apply ol
   go_simp
   refine (lepoch_any _).mono ?_
   rintro e w'' ⟨rfl,rfl⟩
   exact ⟨_,rfl,rfl,rfl⟩
 · intro w' hR _ hP
   apply ol
   go_simp
   refine (eload_in (s:=s) hP.1 _ _ _ _ _ _ _ _ 0 hn).mono ?_
   rintro e w'' ⟨rfl,m2,o2⟩
   exact ⟨_,rfl,⟨o2.andL,m2,hP.2.only o2 hb⟩,rfl⟩
 · intro w' hR _
   apply ol
   go_simp
   exact ⟨rfl,rfl⟩
 · intro w' hR _
   apply ol
   go_simp
   exact ⟨rfl,rfl⟩
 · intro w' hR _ hP
   apply ol
   have z0:=hP.2.c1
   have z1:=hP.2.fz
   go_simp
   exact ⟨⟨(Only.refl _ _).set _ _,hP.1.setIn hb _ _,hP.2.set1 _⟩,trivial⟩
 intro v w2 hR hP _
 obtain ⟨m2,i2⟩ : MemAt w2 L ((s.by who).step 0 (s.wd 0)) /\ InAt w2 b o T (c.setIfInBounds (o + 1) (.int .u64 (s.wd 0))) 0 (s.wd 0):=hP
 have o2 : Only (L.and b) w w2:=o1.drew.trans hR
 clear hR o1 v1 m1 i1 k0 k1 kf
 have k0:=i2.c0
 have k1:=i2.c1
 have kf:=i2.fz
 go_wp2
 go_ret
 exact ⟨false,_,_,1,_,rfl,.load ep,m2.setIn hb _ _,i2.set0 1,(Same2.set1 _).trans (Same2.set0 _),o2.set _ _⟩
theorem step_lay {w : World} {L : Loc} {s : Mm} {b o : Nat} {T : TypeId} {c : Array Value} {ep : Int} (h : MemAt w L s) (hb : ¬ L.has b) (hi : InAt w b o T c 1 ep) (c0 c1 c2 c3 c4 c5 c6 : Int) (who : Nat) (hn : 6 + who < s.n) (hw : (who : Int) < c0) (hc : c0 <= 8) :
 Calls Tryz.prog 61 #[.pointer (some ⟨b,o,none⟩),.agg #[.int .i64 c0,.int .i64 c1,.int .i64 c2,.int .i64 c3,.int .i64 c4,.int .i64 c5,.int .i64 c6,.pointer (some ⟨L.p,0,none⟩),.int .i64 who]] w (Stepped who L b o T c s 1 ep w):=by
 have hbv : ¬ L.has w.heap.size:=fun hh=>by have:=h.lt _ hh;omega
 have hbb : ¬ w.heap.size = b:=fun hh=>by have:=hi.lt;omega
 go_enter Tryz.func61,Tryz.ntmps61
 go_wp2_with (go_at_call 63;refine (haspin_any L c0 c1 c2 c3 c4 c5 c6 who (by omega) hw _).mono ?_;rintro e w1 ⟨rfl,b1⟩;have i1:=(hi.grown (grow_alloc (Below.refl _ _) _)).grown b1;have k0:=i1.c0;have k1:=i1.c1;have kf:=i1.fz)
 have m1:=(h.alloc (.cells #[.int .i64 c0,.int .i64 c1,.int .i64 c2,.int .i64 c3,.int .i64 c4,.int .i64 c5,.int .i64 c6,.pointer (some ⟨L.p,0,none⟩),.int .i64 who] 27)).below b1
 have v1 : BoxV w1 w.heap.size c0 c1 c2 c3 c4 c5 c6 L.p who:=BoxV.new.grown b1
 have o1 : Only (L.and b) w w1:=((Only.refl _ _).alloc _).trans (Only.ofGrown b1)
 refine wp_region_phase (Only L.has) (fun x y=>y = x) (fun p W'=>match p with | 0=>MemAt W' L s | _=>MemAt W' L ((s.by who).step (6 + who) (sum64 ep 1))) [9] [.val (.agg #[.int .i64 c0,.int .i64 c1,.int .i64 c2,.int .i64 c3,.int .i64 c4,.int .i64 c5,.int .i64 c6,.pointer (some ⟨L.p,0,none⟩),.int .i64 who]),.val (.pointer (some ⟨w.heap.size,8,none⟩)),.val (.int .i64 who),.val (.int .i64 (6 + who : Nat)),.val (.pointer (some ⟨b,o,none⟩)),.val (.pointer (some ⟨b,o,none⟩)),.val (.pointer (some ⟨b,o + 1,none⟩)),.val (.int .u64 ep),.val (.int .u64 (sum64 ep 1)),.that (fun _ _=>True) (fun _ _ _ _ _=>trivial)]
  (by kernel_rfl) (Only.refl _) (fun _ _ _ h k=>h.trans k) (fun x y h=>by subst h;exact Only.refl _ _) (fun x y p h k=>by subst h;exact k) m1.drew (by kernel_rfl) (by kernel_rfl) (by kernel_rfl) (by kernel_rfl) (by kernel_rfl) ?_
 simp only [phaseAll,Act.put,List.setIfInBounds_toArray,List.set_cons_zero,List.set_cons_succ]
 refine ⟨?_,?_,?_,?_,?_,?_,?_,?_,?_,?_,?_⟩
 · intro w' hR _
   apply ol
   obtain ⟨y0,y1,y2,y3,y4,y5,y6,y7,y8⟩:=(v1.grown ((Below.refl _ _).drew)).only hR hbv
   go_simp
   exact ⟨rfl,rfl⟩
 · intro w' hR _
   apply ol
   go_simp
   exact ⟨rfl,rfl⟩
 · intro w' hR _
   apply ol
   have y8:=((v1.grown ((Below.refl _ _).drew)).only hR hbv).c8
   go_simp
   exact ⟨rfl,rfl⟩
 · intro w' hR _
   apply ol
   go_simp
   refine (lpin_any _ _ (by omega) (by omega)).mono ?_
   rintro e w'' ⟨rfl,rfl⟩
   exact ⟨_,rfl,rfl,by simp [Want.pred]⟩
 · intro w' hR _
   apply ol
   go_simp
   exact ⟨rfl,rfl⟩
 · intro w' hR _
   apply ol
   go_simp
   exact ⟨rfl,rfl⟩
 · intro w' hR _
   apply ol
   go_simp
   exact ⟨rfl,rfl⟩
 · intro w' hR _
   apply ol
   have y1:=((i1.grown ((Below.refl _ _).drew)).only hR hb).c1
   go_simp
   exact ⟨rfl,rfl⟩
 · intro w' hR _
   apply ol
   go_simp
   exact ⟨rfl,rfl⟩
 · intro w' hR _ hP
   apply ol
   go_simp
   refine (estore_in (s:=s) hP _ _ _ _ _ _ _ _ (6 + who) hn _).mono ?_
   rintro e w'' ⟨rfl,m2,o2⟩
   exact ⟨_,rfl,⟨o2,m2⟩,trivial⟩
 intro v w2 hR hP _
 have m2 : MemAt w2 L ((s.by who).step (6 + who) (sum64 ep 1)):=hP
 have i2:=(i1.grown ((Below.refl _ _).drew)).only hR hb
 have o2 : Only (L.and b) w w2:=o1.drew.trans hR.andL
 clear hR o1 v1 m1 i1 k0 k1 kf hP
 have k0:=i2.c0
 have k1:=i2.c1
 have kf:=i2.fz
 go_wp2
 go_ret
 exact ⟨false,_,_,2,_,rfl,.lay ep,m2.setIn hb _ _,i2.set0 2,Same2.set0 _,o2.set _ _⟩
theorem step_look {w : World} {L : Loc} {s : Mm} {b o : Nat} {T : TypeId} {c : Array Value} {ep : Int} (h : MemAt w L s) (hb : ¬ L.has b) (hi : InAt w b o T c 2 ep) (c0 c1 c2 c3 c4 c5 c6 : Int) (who : Nat) (hn : 0 < s.n) (hw : (who : Int) < c0) :
 Calls Tryz.prog 61 #[.pointer (some ⟨b,o,none⟩),.agg #[.int .i64 c0,.int .i64 c1,.int .i64 c2,.int .i64 c3,.int .i64 c4,.int .i64 c5,.int .i64 c6,.pointer (some ⟨L.p,0,none⟩),.int .i64 who]] w (Stepped who L b o T c s 2 ep w):=by
 go_enter Tryz.func61,Tryz.ntmps61
 go_wp2_with (first
  | (go_at_call 63;refine (haspin_any L c0 c1 c2 c3 c4 c5 c6 who (by omega) hw _).mono ?_;rintro e w1 ⟨rfl,b1⟩;have i1:=(hi.grown (grow_alloc (Below.refl _ _) _)).grown b1;have v1 : BoxV w1 w.heap.size c0 c1 c2 c3 c4 c5 c6 L.p who:=BoxV.new.grown b1;have k0:=i1.c0;have k1:=i1.c1;obtain ⟨y0,y1,y2,y3,y4,y5,y6,y7,y8⟩:=id v1)
  | (go_at_call 62;refine (look_any ((h.alloc _).below b1) hb i1 _ _ _ _ _ _ _ who hn).mono ?_;rintro e w2 ⟨rfl,c',nx',m2,i2,sm,o2,hx⟩;have k0:=i2.c0))
 have o1 : Only (L.and b) w w2:=(((Only.refl _ _).alloc _).trans (Only.ofGrown b1)).trans o2
 rcases hx with ⟨rfl,rfl⟩ | ⟨rfl,hne⟩
 · go_ret
   exact ⟨true,_,_,3,_,rfl,.same,m2,i2,sm,o1⟩
 · go_ret
   exact ⟨false,_,_,1,_,rfl,.other ep hne,m2,i2,sm,o1⟩
theorem step_pin {w : World} {L : Loc} {s : Mm} {b o : Nat} {T : TypeId} {c : Array Value} {nx ep : Int} (h : MemAt w L s) (hb : ¬ L.has b) (hi : InAt w b o T c nx ep) (hx : nx = 0 \/ nx = 1 \/ nx = 2) (c0 c1 c2 c3 c4 c5 c6 : Int) (who : Nat) (hn : 6 + who < s.n) (hw : (who : Int) < c0) (hc : c0 <= 8) :
 Calls Tryz.prog 61 #[.pointer (some ⟨b,o,none⟩),.agg #[.int .i64 c0,.int .i64 c1,.int .i64 c2,.int .i64 c3,.int .i64 c4,.int .i64 c5,.int .i64 c6,.pointer (some ⟨L.p,0,none⟩),.int .i64 who]] w (Stepped who L b o T c s nx ep w):=by
 rcases hx with rfl | rfl | rfl
 · exact step_load h hb hi _ _ _ _ _ _ _ who (by omega) hw
 · exact step_lay h hb hi _ _ _ _ _ _ _ who hn hw hc
 · exact step_look h hb hi _ _ _ _ _ _ _ who (by omega) hw
theorem out_any {w : World} {L : Loc} {s : Mm} (h : MemAt w L s) (c0 c1 c2 c3 c4 c5 c6 : Int) (who : Nat) (hn : 6 + who < s.n) (hw : (who : Int) < c0) (hc : c0 <= 8) :
 Calls Tryz.prog 68 #[.agg #[],.agg #[.int .i64 c0,.int .i64 c1,.int .i64 c2,.int .i64 c3,.int .i64 c4,.int .i64 c5,.int .i64 c6,.pointer (some ⟨L.p,0,none⟩),.int .i64 who]] w fun e w'=>e = .returned (.bool true) /\ MemAt w' L ((s.by who).step (6 + who) 0) /\ Only L.has w w':=by
 have v0 : BoxV ((w.alloc (.cells #[] 68)).alloc (.cells #[.int .i64 c0,.int .i64 c1,.int .i64 c2,.int .i64 c3,.int .i64 c4,.int .i64 c5,.int .i64 c6,.pointer (some ⟨L.p,0,none⟩),.int .i64 who] 27)) (w.heap.size + 1) c0 c1 c2 c3 c4 c5 c6 L.p who:=by
  have:=BoxV.new (w:=w.alloc (.cells #[] 68)) (T:=27) (c0:=c0) (c1:=c1) (c2:=c2) (c3:=c3) (c4:=c4) (c5:=c5) (c6:=c6) (P:=L.p) (who:=who)
  rwa [Go.Deep.nblk_alloc] at this
 have m0:=(h.alloc (.cells #[] 68)).alloc (.cells #[.int .i64 c0,.int .i64 c1,.int .i64 c2,.int .i64 c3,.int .i64 c4,.int .i64 c5,.int .i64 c6,.pointer (some ⟨L.p,0,none⟩),.int .i64 who] 27)
 obtain ⟨y0,y1,y2,y3,y4,y5,y6,y7,y8⟩:=id v0
 go_enter Tryz.func68,Tryz.ntmps68
 go_wp2_with (go_at_call 63;refine (haspin_any L c0 c1 c2 c3 c4 c5 c6 who (by omega) hw _).mono ?_;rintro e w1 ⟨rfl,b1⟩)
 refine wp_over (fun W=>MemAt W L s /\ BoxV W (w.heap.size + 1) c0 c1 c2 c3 c4 c5 c6 L.p who /\ Only L.has w W) ⟨m0.below b1,v0.grown b1,(((Only.refl _ _).alloc _).alloc _).trans (Only.ofGrown b1)⟩ ?_
 clear m0 v0 y0 y1 y2 y3 y4 y5 y6 y7 y8 b1
 rintro W ⟨m1,v1,o1⟩
 refine wp_region_rely_tail Grown 4 [.val (.agg #[.int .i64 c0,.int .i64 c1,.int .i64 c2,.int .i64 c3,.int .i64 c4,.int .i64 c5,.int .i64 c6,.pointer (some ⟨L.p,0,none⟩),.int .i64 who]),.val (.pointer (some ⟨w.heap.size + 1,8,none⟩)),.val (.int .i64 who),.val (.int .i64 ((6 + who : Nat) : Int))] (by kernel_rfl) Grown.refl Grown.trans (by decide) (by kernel_rfl) (by kernel_rfl) (by kernel_rfl) (by kernel_rfl) (by kernel_rfl) (by kernel_rfl) ?_
 simp only [List.take_succ_cons,List.take_zero,relyAll,Act.put,List.setIfInBounds_toArray,List.set_cons_zero,List.set_cons_succ]
 refine ⟨?_,?_,?_,?_,?_⟩
 · intro w' hg _
   apply ol
   obtain ⟨y0,y1,y2,y3,y4,y5,y6,y7,y8⟩:=(v1.grown ((Below.refl _ _).drew)).grown hg
   go_simp
   exact gl
 · intros;apply ol;go_simp;exact gl
 · intro w' hg _
   apply ol
   obtain ⟨y0,y1,y2,y3,y4,y5,y6,y7,y8⟩:=(v1.grown ((Below.refl _ _).drew)).grown hg
   go_simp
   exact gl
 · intro w' hg _
   apply ol
   go_simp
   refine (lpin_any _ _ (by omega) (by omega)).mono ?_
   rintro e w'' ⟨rfl,rfl⟩
   exact ⟨_,rfl,Grown.refl _,by simp [Want.pred]⟩
 intro w5 hg _
 have m5:=m1.drew.below hg
 go_wp2_with (go_at_call 66;refine (estore_in m5 _ _ _ _ _ _ _ _ (6 + who) hn 0).mono ?_;rintro e w6 ⟨rfl,m6,o6⟩)
 go_ret
 exact ⟨rfl,m6,(o1.drew.trans (Only.ofGrown hg)).trans o6⟩
end Go.Proofs.YtlolfmoolgenpaaGreat
