import Derived.Test.YtlolfmoolgenpaaGreatAccCheck
import Derived.Test.YtlolfmoolgenpaaGreatDropAwake
namespace Go.Proofs.YtlolfmoolgenpaaGreat
open Go.RowKit
set_option maxRecDepth 20000
set_option maxHeartbeats 1000000 in
theorem astop_any {w : World} {L : Loc} {s : Mm} {b o : Nat} {T : TypeId} {cs : Array Value} {t n k m : Nat} {g p r : Int} {a : CV} (h : MemAt w L s) (hb : ¬ L.has b) (hi : AcAt w b o T cs a) (who : Int) (hG : Good t n k m g p r) {x : Nat} {G : Int} (hx : x < n) (hn : (6 + t + x * 2) < s.n) {st : Int} {A : Nat} {Gs V : Int} (hs : SlotIs a.se st A Gs V) :
 Calls Tryz.prog 151 #[.pointer (some ⟨b,o,none⟩),.agg #[.int .i64 t,.int .i64 n,.int .i64 k,.int .i64 m,.int .i64 g,.int .i64 p,.int .i64 r,.pointer (some ⟨L.p,0,none⟩),.int .i64 who],.agg #[.int .i64 x,.int .i64 G]] w fun e w'=>e = .returned (.tuple #[]) /\ Cact L b o T cs w w' (fun s' a'=>s' = ((s.by who).cas (6 + t + x * 2) a.se (packS 1 A Gs (V + 1))) /\ a' = { a with nx:=0 }):=by
 have sw:=hs.call
 have hs1:=hG.s1
 have ab : (A : Int) <= 1048575:=by have:=hs.ad;omega
 have gb : 0 <= Gs /\ Gs <= 65535:=by have:=hs.gn;omega
 have vb : 0 <= V /\ V <= 4194303:=by have:=hs.vr;omega
 have ps:=fun w=>putSlot_any 1 A Gs (V + 1) w ⟨by omega,by omega⟩ ⟨by omega,by omega⟩ ⟨by omega,by omega⟩ ⟨by omega,by omega⟩
 have hvw : IntKind.i64.wrap (V + 1) = V + 1:=by rw [IntKind.wrap_i64];omega
 clear hs
 have hbv : ¬ L.has w.heap.size:=fun hh=>by have:=h.lt _ hh;omega
 have hbb : ¬ w.heap.size = b:=fun hh=>by have:=hi.lt;omega
 have hbv1 : ¬ L.has (w.heap.size + 1):=fun hh=>by have:=h.lt _ hh;omega
 have hbb1 : ¬ w.heap.size + 1 = b:=fun hh=>by have:=hi.lt;omega
 have i0:=(hi.grown (grow1 _ (.cells #[.int .i64 t,.int .i64 n,.int .i64 k,.int .i64 m,.int .i64 g,.int .i64 p,.int .i64 r,.pointer (some ⟨L.p,0,none⟩),.int .i64 who] 27))).grown (grow1 _ (.cells #[.int .i64 x,.int .i64 G] 154))
 have k3:=i0.c_se
 go_enter Tryz.func151,Tryz.ntmps151
 go_wp2_with (go_at_call 82;refine (sw _).mono ?_;rintro e w3 ⟨rfl,b3⟩;have q3:=At.new w3 87 [.int .i64 st,.int .i64 A,.int .i64 Gs,.int .i64 V];have z0:=q3.at0 0 rfl;have z3:=(q3.put0 0 (.int .i64 1)).at0 3 rfl)
 have q0:=At.new w3 87 [.int .i64 1,.int .i64 A,.int .i64 Gs,.int .i64 (V + 1)]
 refine wp_over (fun W=>MemAt W L s /\ AcAt W b o T cs a /\ BoxV W w.heap.size t n k m g p r L.p who /\ At W (w.heap.size + 1) 0 154 #[.int .i64 x,.int .i64 G] [.int .i64 x,.int .i64 G] /\ At W w3.heap.size 0 87 _ [.int .i64 1,.int .i64 A,.int .i64 Gs,.int .i64 (V + 1)] /\ Only (L.and b) w W) ⟨(((h.alloc _).alloc _).below b3).alloc _,(i0.grown b3).grown (grow1 _ _),((BoxV.newB _).grown b3).grown (grow1 _ _),((At.new2 _ _ _ [.int .i64 (x : Nat),.int .i64 G]).grown b3).grown (grow1 _ _),q0,((((Only.refl _ _).alloc _).alloc _).trans (Only.ofGrown b3)).alloc _⟩ ?_
 clear b3 i0 k3 sw q0 q3 z0 z3
 rintro W ⟨m1,i1,v1,x1,q1,o1⟩
 refine wp_region_rely_tail Grown 12 [.val (.agg #[.int .i64 t,.int .i64 n,.int .i64 k,.int .i64 m,.int .i64 g,.int .i64 p,.int .i64 r,.pointer (some ⟨L.p,0,none⟩),.int .i64 who]),.val (.pointer (some ⟨w.heap.size,0,none⟩)),.val (.agg #[.int .i64 t,.int .i64 n,.int .i64 k,.int .i64 m,.int .i64 g,.int .i64 p,.int .i64 r]),.val (.pointer (some ⟨w.heap.size + 1,0,none⟩)),.val (.int .i64 (x : Nat)),.val (.int .i64 (((6 + t + x * 2) : Nat) : Int)),.val (.pointer (some ⟨b,o,none⟩)),.val (.pointer (some ⟨b,o,none⟩)),.val (.pointer (some ⟨b,o + 7,none⟩)),.val (.int .u64 a.se),.val (.agg #[.int .i64 1,.int .i64 A,.int .i64 Gs,.int .i64 (V + 1)]),.val (.int .u64 (packS 1 A Gs (V + 1)))] (by kernel_rfl) Grown.refl Grown.trans (by decide) (by kernel_rfl) (by kernel_rfl) (by kernel_rfl) (by kernel_rfl) (by kernel_rfl) (by kernel_rfl) ?_
 simp only [List.take_succ_cons,List.take_zero,relyAll,Act.put,List.setIfInBounds_toArray,List.set_cons_zero,List.set_cons_succ]
 refine ⟨?_,?_,?_,?_,?_,?_,?_,?_,?_,?_,?_,?_,?_⟩
 · intro w' hg _
   apply ol
   obtain ⟨y0,y1,y2,y3,y4,y5,y6,y7,y8⟩:=(v1.grown ((Below.refl _ _).drew)).grown hg
   go_simp
   exact gl
 · intros;apply ol;go_simp;exact gl
 · intro w' hg _
   apply ol
   obtain ⟨y0,y1,y2,y3,y4,y5,y6,y7,y8⟩:=(v1.grown ((Below.refl _ _).drew)).grown hg
   go_simp
   exact gl
 · intros;apply ol;go_simp;exact gl
 · intro w' hg _
   apply ol
   have z:=(x1.drew.grown hg).at0 0 rfl
   go_simp
   exact gl
 · intro w' hg _
   apply ol
   go_simp
   refine (lslot_any _ _ _ _ _ _ _ (x : Int) _ hG.arena (by omega) (by omega)).mono ?_
   rintro e w'' ⟨rfl,b9⟩
   exact ⟨_,rfl,b9,congrArg (Value.int .i64) (by omega)⟩
 · intros;apply ol;go_simp;exact gl
 · intros;apply ol;go_simp;exact gl
 · intros;apply ol;go_simp;exact gl
 · intro w' hg _
   apply ol
   have z:=(i1.drew.grown hg).c_se
   go_simp
   exact gl
 · intro w' hg _
   apply ol
   have z0:=(q1.drew.grown hg).at0 0 rfl
   have z1:=(q1.drew.grown hg).at0 1 rfl
   have z2:=(q1.drew.grown hg).at0 2 rfl
   have z3:=(q1.drew.grown hg).at0 3 rfl
   go_simp
   exact gl
 · intro w' hg _
   apply ol
   go_simp
   refine (ps _).mono ?_
   rintro e w'' ⟨rfl,b9⟩
   exact ⟨_,rfl,b9,rfl⟩
 intro w7 hg _
 have m7:=m1.drew.below hg
 have i7:=i1.drew.grown hg
 have o7 : Only (L.and b) w w7:=o1.drew.trans (Only.ofGrown hg)
 clear hg m1 i1 v1 x1 q1 o1
 go_wp2_with (go_at_call 107;refine (ecas_in m7 _ _ _ _ _ _ _ _ (6 + t + x * 2) hn _ _).mono ?_;rintro e w8 ⟨rfl,m8,o8⟩;have i8:=i7.only o8 hb;have k0:=i8.c_nx;have kf:=i8.fz)
 go_end0
 exact ⟨rfl,_,_,_,m8.setIn hb _ _,(o7.trans (o8.andL (b:=b))).set _ _,i8.set_nx 0,Same.refl.set (by omega) _,rfl,rfl⟩
set_option maxHeartbeats 1000000 in
theorem alay_no {w : World} {L : Loc} {s : Mm} {b o : Nat} {T : TypeId} {cs : Array Value} {t n k m : Nat} {g p r : Int} {a : CV} (h : MemAt w L s) (hb : ¬ L.has b) (hi : AcAt w b o T cs a) (who : Int) {st : Int} {A : Nat} {Gs V : Int} (hs : SlotIs a.se st A Gs V) {j : Nat} (hix : a.ix = j) (j1 : j <= 16) (hn : (A + 1 + j) < s.n) {vl : Int} (hvl : a.vl = vl) (fv : Fit vl) (hd : decide (s.wd (A + 1 + j) = a.ce) = false)  :
 Calls Tryz.prog 152 #[.pointer (some ⟨b,o,none⟩),.agg #[.int .i64 t,.int .i64 n,.int .i64 k,.int .i64 m,.int .i64 g,.int .i64 p,.int .i64 r,.pointer (some ⟨L.p,0,none⟩),.int .i64 who]] w fun e w'=>e = .returned (.tuple #[]) /\ Cact L b o T cs w w' (fun s' a'=>s' = ((s.by who).cas (A + 1 + j) a.ce (packX vl false 0)) /\ a' = { a with nx:=0 }):=by
 have HD : Hid (decide (s.wd (A + 1 + j) = a.ce) = false):=hd
 have HX : Hid (a.ix = j):=hix
 have sw:=hs.call
 have ab : (A : Int) <= 1048575:=by have:=hs.ad;omega
 have pc:=fun w=>putCell_any vl false 0 w fv ⟨by decide,by decide⟩
 clear hd hs hix
 have hbv : ¬ L.has w.heap.size:=fun hh=>by have:=h.lt _ hh;omega
 have hbb : ¬ w.heap.size = b:=fun hh=>by have:=hi.lt;omega
 have i0:=hi.grown (grow1 _ (.cells #[.int .i64 t,.int .i64 n,.int .i64 k,.int .i64 m,.int .i64 g,.int .i64 p,.int .i64 r,.pointer (some ⟨L.p,0,none⟩),.int .i64 who] 27))
 have k3:=i0.c_vl
 rw [hvl] at k3
 go_enter Tryz.func152,Tryz.ntmps152
 go_wp2_with (go_at_call 140;refine (pc _).mono ?_;rintro e w3 ⟨rfl,b3⟩)
 refine wp_over (fun W=>MemAt W L s /\ AcAt W b o T cs a /\ BoxV W w.heap.size t n k m g p r L.p who /\ Only (L.and b) w W) ⟨(h.alloc _).below b3,i0.grown b3,BoxV.new.grown b3,((Only.refl _ _).alloc _).trans (Only.ofGrown b3)⟩ ?_
 clear b3 i0 k3 pc
 rintro W ⟨m1,i1,v1,o1⟩
 refine wp_region_rely_tail Grown 13 [.val (.agg #[.int .i64 t,.int .i64 n,.int .i64 k,.int .i64 m,.int .i64 g,.int .i64 p,.int .i64 r,.pointer (some ⟨L.p,0,none⟩),.int .i64 who]),.val (.pointer (some ⟨b,o,none⟩)),.val (.pointer (some ⟨b,o,none⟩)),.val (.pointer (some ⟨b,o,none⟩)),.val (.pointer (some ⟨b,o + 7,none⟩)),.val (.int .u64 a.se),.val (.agg #[.int .i64 st,.int .i64 A,.int .i64 Gs,.int .i64 V]),.val (.int .i64 (((A + 1 + j) : Nat) : Int)),.val (.pointer (some ⟨b,o,none⟩)),.val (.pointer (some ⟨b,o,none⟩)),.val (.pointer (some ⟨b,o + 10,none⟩)),.val (.int .u64 a.ce),.val (.int .u64 (packX vl false 0))] (by kernel_rfl) Grown.refl Grown.trans (by decide) (by kernel_rfl) (by kernel_rfl) (by kernel_rfl) (by kernel_rfl) (by kernel_rfl) (by kernel_rfl) ?_
 simp only [List.take_succ_cons,List.take_zero,relyAll,Act.put,List.setIfInBounds_toArray,List.set_cons_zero,List.set_cons_succ]
 refine ⟨?_,?_,?_,?_,?_,?_,?_,?_,?_,?_,?_,?_,?_,?_⟩
 · intro w' hg _
   apply ol
   obtain ⟨y0,y1,y2,y3,y4,y5,y6,y7,y8⟩:=(v1.grown ((Below.refl _ _).drew)).grown hg
   go_simp
   exact gl
 · intros;apply ol;go_simp;exact gl
 · intros;apply ol;go_simp;exact gl
 · intros;apply ol;go_simp;exact gl
 · intros;apply ol;go_simp;exact gl
 · intro w' hg _
   apply ol
   have z:=(i1.drew.grown hg).c_se
   go_simp
   exact gl
 · intro w' hg _
   apply ol
   go_simp
   refine (sw _).mono ?_
   rintro e w'' ⟨rfl,b9⟩
   exact ⟨_,rfl,b9,rfl⟩
 · intro w' hg _
   apply ol
   go_simp
   refine (aplace_any st A Gs V j (by have z:=(i1.drew.grown hg).c_ix;rwa [HX.out] at z) (by omega) (by omega) (by omega) (by omega)).mono ?_
   rintro e w'' ⟨rfl,b9⟩
   exact ⟨_,rfl,b9,congrArg (Value.int .i64) (by omega)⟩
 · intros;apply ol;go_simp;exact gl
 · intros;apply ol;go_simp;exact gl
 · intros;apply ol;go_simp;exact gl
 · intro w' hg _
   apply ol
   have z:=(i1.drew.grown hg).c_ce
   go_simp
   exact gl
 · intros;apply ol;go_simp;exact gl
 intro w5 hg _
 have m5:=m1.drew.below hg
 have i5:=i1.drew.grown hg
 have v5:=(v1.grown ((Below.refl _ _).drew)).grown hg
 have o5 : Only (L.and b) w w5:=o1.drew.trans (Only.ofGrown hg)
 clear hg m1 i1 v1 o1 sw
 go_wp2_with (go_at_call 107;refine (ecas_in m5 _ _ _ _ _ _ _ _ (A + 1 + j) hn _ _).mono ?_;rintro e w6 ⟨rfl,m6,o6⟩;rw [HD.out];have i6:=i5.only o6 hb;have k0:=i6.c_nx;have kf:=i6.fz)
 refine bodyPost_ret (results_none rfl _ _ _) rfl ?_
 exact ⟨rfl,_,_,_,m6.setIn hb _ _,(o5.trans (o6.andL (b:=b))).set _ _,i6.set_nx 0,Same.refl.set (by omega) _,rfl,rfl⟩
set_option maxHeartbeats 1000000 in
theorem alay_yes {w : World} {L : Loc} {s : Mm} {b o : Nat} {T : TypeId} {cs : Array Value} {t n k m : Nat} {g p r : Int} {a : CV} (h : MemAt w L s) (hb : ¬ L.has b) (hi : AcAt w b o T cs a) (who : Int) {st : Int} {A : Nat} {Gs V : Int} (hs : SlotIs a.se st A Gs V) {j : Nat} (hix : a.ix = j) (j1 : j <= 16) (hn : (A + 1 + j) < s.n) {vl : Int} (hvl : a.vl = vl) (fv : Fit vl) (hd : decide (s.wd (A + 1 + j) = a.ce) = true) {z vr : Int} {fz : Bool} (hc : CellIs a.ce z fz vr) {σ : Nat} (hσ : wrap64 (s.steps + 1) = σ) :
 Calls Tryz.prog 152 #[.pointer (some ⟨b,o,none⟩),.agg #[.int .i64 t,.int .i64 n,.int .i64 k,.int .i64 m,.int .i64 g,.int .i64 p,.int .i64 r,.pointer (some ⟨L.p,0,none⟩),.int .i64 who]] w fun e w'=>e = .returned (.tuple #[]) /\ Cact L b o T cs w w' (fun s' a'=>s' = ((s.by who).cas (A + 1 + j) a.ce (packX vl false 0)) /\ a' = { a with nx:=7,E:=0,H:=0,V:=z,St:=σ }):=by
 have HD : Hid (decide (s.wd (A + 1 + j) = a.ce) = true):=hd
 have HX : Hid (a.ix = j):=hix
 have sw:=hs.call
 have ab : (A : Int) <= 1048575:=by have:=hs.ad;omega
 have pc:=fun w=>putCell_any vl false 0 w fv ⟨by decide,by decide⟩
 have cc:=hc.call
 have HS : Hid ((((s.by who).cas (A + 1 + j) a.ce (packX vl false 0))).steps = σ):=by
  unfold Hid
  rw [<- hσ]
  show (Mm.cas _ _ _ _).steps = _
  unfold Mm.cas
  split <;> rfl
 have ff : ∀ (a1 a2 a3 : Value) (w : World),(Instr.field 185 (.agg #[a1,a2,a3]) 0).run Tryz.prog w = .ok a1 w:=fun a1 a2 a3 w=>by kernel_rfl
 clear hc hσ
 clear hd hs hix
 have hbv : ¬ L.has w.heap.size:=fun hh=>by have:=h.lt _ hh;omega
 have hbb : ¬ w.heap.size = b:=fun hh=>by have:=hi.lt;omega
 have i0:=hi.grown (grow1 _ (.cells #[.int .i64 t,.int .i64 n,.int .i64 k,.int .i64 m,.int .i64 g,.int .i64 p,.int .i64 r,.pointer (some ⟨L.p,0,none⟩),.int .i64 who] 27))
 have k3:=i0.c_vl
 rw [hvl] at k3
 go_enter Tryz.func152,Tryz.ntmps152
 go_wp2_with (go_at_call 140;refine (pc _).mono ?_;rintro e w3 ⟨rfl,b3⟩)
 refine wp_over (fun W=>MemAt W L s /\ AcAt W b o T cs a /\ BoxV W w.heap.size t n k m g p r L.p who /\ Only (L.and b) w W) ⟨(h.alloc _).below b3,i0.grown b3,BoxV.new.grown b3,((Only.refl _ _).alloc _).trans (Only.ofGrown b3)⟩ ?_
 clear b3 i0 k3 pc
 rintro W ⟨m1,i1,v1,o1⟩
 refine wp_region_rely_tail Grown 13 [.val (.agg #[.int .i64 t,.int .i64 n,.int .i64 k,.int .i64 m,.int .i64 g,.int .i64 p,.int .i64 r,.pointer (some ⟨L.p,0,none⟩),.int .i64 who]),.val (.pointer (some ⟨b,o,none⟩)),.val (.pointer (some ⟨b,o,none⟩)),.val (.pointer (some ⟨b,o,none⟩)),.val (.pointer (some ⟨b,o + 7,none⟩)),.val (.int .u64 a.se),.val (.agg #[.int .i64 st,.int .i64 A,.int .i64 Gs,.int .i64 V]),.val (.int .i64 (((A + 1 + j) : Nat) : Int)),.val (.pointer (some ⟨b,o,none⟩)),.val (.pointer (some ⟨b,o,none⟩)),.val (.pointer (some ⟨b,o + 10,none⟩)),.val (.int .u64 a.ce),.val (.int .u64 (packX vl false 0))] (by kernel_rfl) Grown.refl Grown.trans (by decide) (by kernel_rfl) (by kernel_rfl) (by kernel_rfl) (by kernel_rfl) (by kernel_rfl) (by kernel_rfl) ?_
 simp only [List.take_succ_cons,List.take_zero,relyAll,Act.put,List.setIfInBounds_toArray,List.set_cons_zero,List.set_cons_succ]
 refine ⟨?_,?_,?_,?_,?_,?_,?_,?_,?_,?_,?_,?_,?_,?_⟩
 · intro w' hg _
   apply ol
   obtain ⟨y0,y1,y2,y3,y4,y5,y6,y7,y8⟩:=(v1.grown ((Below.refl _ _).drew)).grown hg
   go_simp
   exact gl
 · intros;apply ol;go_simp;exact gl
 · intros;apply ol;go_simp;exact gl
 · intros;apply ol;go_simp;exact gl
 · intros;apply ol;go_simp;exact gl
 · intro w' hg _
   apply ol
   have z:=(i1.drew.grown hg).c_se
   go_simp
   exact gl
 · intro w' hg _
   apply ol
   go_simp
   refine (sw _).mono ?_
   rintro e w'' ⟨rfl,b9⟩
   exact ⟨_,rfl,b9,rfl⟩
 · intro w' hg _
   apply ol
   go_simp
   refine (aplace_any st A Gs V j (by have z:=(i1.drew.grown hg).c_ix;rwa [HX.out] at z) (by omega) (by omega) (by omega) (by omega)).mono ?_
   rintro e w'' ⟨rfl,b9⟩
   exact ⟨_,rfl,b9,congrArg (Value.int .i64) (by omega)⟩
 · intros;apply ol;go_simp;exact gl
 · intros;apply ol;go_simp;exact gl
 · intros;apply ol;go_simp;exact gl
 · intro w' hg _
   apply ol
   have z:=(i1.drew.grown hg).c_ce
   go_simp
   exact gl
 · intros;apply ol;go_simp;exact gl
 intro w5 hg _
 have m5:=m1.drew.below hg
 have i5:=i1.drew.grown hg
 have v5:=(v1.grown ((Below.refl _ _).drew)).grown hg
 have o5 : Only (L.and b) w w5:=o1.drew.trans (Only.ofGrown hg)
 clear hg m1 i1 v1 o1 sw
 go_wp2_with (go_at_call 107;refine (ecas_in m5 _ _ _ _ _ _ _ _ (A + 1 + j) hn _ _).mono ?_;rintro e w6 ⟨rfl,m6,o6⟩;rw [HD.out];have i6:=i5.only o6 hb;have k0:=i6.c_nx;have kf:=i6.fz)
 refine wp_over (fun W=>MemAt W L ((s.by who).cas (A + 1 + j) a.ce (packX vl false 0)) /\ AcAt W b o T cs a /\ BoxV W w.heap.size t n k m g p r L.p who /\ Only (L.and b) w W) ⟨m6,i6,v5.only o6 hbv,o5.trans (o6.andL (b:=b))⟩ ?_
 clear m5 i5 v5 o5 m6 i6 o6 k0 kf
 rintro W ⟨m1,i1,v1,o1⟩
 refine wp_region_rely_tail Grown 9 [.val (.pointer (some ⟨b,o,none⟩)),.val (.pointer (some ⟨b,o,none⟩)),.val (.pointer (some ⟨b,o,none⟩)),.val (.pointer (some ⟨b,o + 10,none⟩)),.val (.int .u64 a.ce),.val (.agg #[.int .i64 z,.bool fz,.int .i64 vr]),.val (.int .i64 z),.val (.agg #[.int .i64 t,.int .i64 n,.int .i64 k,.int .i64 m,.int .i64 g,.int .i64 p,.int .i64 r,.pointer (some ⟨L.p,0,none⟩),.int .i64 who]),.val (.int .i64 (σ : Nat))] (by kernel_rfl) Grown.refl Grown.trans (by decide) (by kernel_rfl) (by kernel_rfl) (by kernel_rfl) (by kernel_rfl) (by kernel_rfl) (by kernel_rfl) ?_
 simp only [List.take_succ_cons,List.take_zero,relyAll,Act.put,List.setIfInBounds_toArray,List.set_cons_zero,List.set_cons_succ]
 refine ⟨?_,?_,?_,?_,?_,?_,?_,?_,?_,?_⟩
 · intros;apply ol;go_simp;exact gl
 · intros;apply ol;go_simp;exact gl
 · intros;apply ol;go_simp;exact gl
 · intros;apply ol;go_simp;exact gl
 · intro w' hg _
   apply ol
   have z:=(i1.drew.grown hg).c_ce
   go_simp
   exact gl
 · intro w' hg _
   apply ol
   go_simp
   refine (cc _).mono ?_
   rintro e w'' ⟨rfl,b9⟩
   exact ⟨_,rfl,b9,rfl⟩
 · intros;apply ol;go_simp;exact gl
 · intro w' hg _
   apply ol
   obtain ⟨y0,y1,y2,y3,y4,y5,y6,y7,y8⟩:=(v1.grown ((Below.refl _ _).drew)).grown hg
   go_simp
   exact gl
 · intro w' hg _
   apply ol
   go_simp
   refine (now_any (m1.drew.below hg) _ _ _ _ _ _ _ _ σ HS.out).mono ?_
   rintro e w'' ⟨rfl,b9⟩
   exact ⟨_,rfl,b9,rfl⟩
 intro w7 hg _
 have m7:=m1.drew.below hg
 have i7:=i1.drew.grown hg
 have o7 : Only (L.and b) w w7:=o1.drew.trans (Only.ofGrown hg)
 clear hg m1 i1 v1 o1
 go_wp2_with (go_at_call 144;refine (aend m7 hb i7 0 z σ).mono ?_;rintro e w9 ⟨rfl,s9,cs9,a9,m9,o9,i9,q9,rfl,rfl⟩)
 go_end0
 exact ⟨rfl,_,_,_,m9,o7.trans o9,i9,q9,rfl,rfl⟩
end Go.Proofs.YtlolfmoolgenpaaGreat

namespace Go.Proofs.YtlolfmoolgenpaaGreat
open Go.RowKit
set_option maxRecDepth 20000
set_option maxHeartbeats 400000 in
theorem adoes_see {w : World} {L : Loc} {s : Mm} {b o : Nat} {T : TypeId} {cs : Array Value} {t n k m : Nat} {g p r : Int} {a : CV} (h : MemAt w L s) (hi : AcAt w b o T cs a) (who : Int) (x : Nat) (G : Int) (hnx : a.nx = 0) (X : Mm -> CV -> Prop)
 (hc : ∀ w1 : World,MemAt w1 L s -> AcAt w1 b o T cs a -> Calls Tryz.prog 147 #[.pointer (some ⟨b,o,none⟩),.agg #[.int .i64 t,.int .i64 n,.int .i64 k,.int .i64 m,.int .i64 g,.int .i64 p,.int .i64 r,.pointer (some ⟨L.p,0,none⟩),.int .i64 who],.agg #[.int .i64 x,.int .i64 G]] w1 fun e w'=>e = .returned (.tuple #[]) /\ Cact L b o T cs w1 w' X) :
 Calls Tryz.prog 146 #[.pointer (some ⟨b,o,none⟩),.agg #[.int .i64 t,.int .i64 n,.int .i64 k,.int .i64 m,.int .i64 g,.int .i64 p,.int .i64 r,.pointer (some ⟨L.p,0,none⟩),.int .i64 who],.agg #[.int .i64 x,.int .i64 G]] w fun e w'=>e = .returned (.tuple #[]) /\ Cact L b o T cs w w' X:=by
 have m0:=(h.alloc (.cells #[.int .i64 t,.int .i64 n,.int .i64 k,.int .i64 m,.int .i64 g,.int .i64 p,.int .i64 r,.pointer (some ⟨L.p,0,none⟩),.int .i64 who] 27)).alloc (.cells #[.int .i64 x,.int .i64 G] 154)
 have i0:=(hi.grown (grow1 _ (.cells #[.int .i64 t,.int .i64 n,.int .i64 k,.int .i64 m,.int .i64 g,.int .i64 p,.int .i64 r,.pointer (some ⟨L.p,0,none⟩),.int .i64 who] 27))).grown (grow1 _ (.cells #[.int .i64 x,.int .i64 G] 154))
 have o0 : Only (L.and b) w ((w.alloc (.cells #[.int .i64 t,.int .i64 n,.int .i64 k,.int .i64 m,.int .i64 g,.int .i64 p,.int .i64 r,.pointer (some ⟨L.p,0,none⟩),.int .i64 who] 27)).alloc (.cells #[.int .i64 x,.int .i64 G] 154)):=((Only.refl _ _).alloc _).alloc _
 have v0 : BoxV ((w.alloc (.cells #[.int .i64 t,.int .i64 n,.int .i64 k,.int .i64 m,.int .i64 g,.int .i64 p,.int .i64 r,.pointer (some ⟨L.p,0,none⟩),.int .i64 who] 27)).alloc (.cells #[.int .i64 x,.int .i64 G] 154)) w.heap.size t n k m g p r L.p who:=BoxV.newB _
 have x0:=At.new2 w (.cells #[.int .i64 t,.int .i64 n,.int .i64 k,.int .i64 m,.int .i64 g,.int .i64 p,.int .i64 r,.pointer (some ⟨L.p,0,none⟩),.int .i64 who] 27) 154 [.int .i64 (x : Nat),.int .i64 G]
 have k0:=i0.c_nx
 rw [hnx] at k0
 obtain ⟨y0,y1,y2,y3,y4,y5,y6,y7,y8⟩:=id v0
 have u0:=x0.at0 0 rfl
 have u1:=x0.at0 1 rfl
 go_enter Tryz.func146,Tryz.ntmps146
 go_wp2_with (go_at_call 147;refine (hc _ m0 i0).mono ?_;rintro e w3 ⟨rfl,s3,cs3,a3,m3,o3,i3,q3,p3⟩)
 go_end0
 exact ⟨rfl,s3,cs3,a3,m3,o0.trans o3,i3,q3,p3⟩
set_option maxHeartbeats 400000 in
theorem adoes_ask {w : World} {L : Loc} {s : Mm} {b o : Nat} {T : TypeId} {cs : Array Value} {t n k m : Nat} {g p r : Int} {a : CV} (h : MemAt w L s) (hi : AcAt w b o T cs a) (who : Int) (x : Nat) (G : Int) (hnx : a.nx = 1) (X : Mm -> CV -> Prop)
 (hc : ∀ w1 : World,MemAt w1 L s -> AcAt w1 b o T cs a -> Calls Tryz.prog 148 #[.pointer (some ⟨b,o,none⟩),.agg #[.int .i64 t,.int .i64 n,.int .i64 k,.int .i64 m,.int .i64 g,.int .i64 p,.int .i64 r,.pointer (some ⟨L.p,0,none⟩),.int .i64 who]] w1 fun e w'=>e = .returned (.tuple #[]) /\ Cact L b o T cs w1 w' X) :
 Calls Tryz.prog 146 #[.pointer (some ⟨b,o,none⟩),.agg #[.int .i64 t,.int .i64 n,.int .i64 k,.int .i64 m,.int .i64 g,.int .i64 p,.int .i64 r,.pointer (some ⟨L.p,0,none⟩),.int .i64 who],.agg #[.int .i64 x,.int .i64 G]] w fun e w'=>e = .returned (.tuple #[]) /\ Cact L b o T cs w w' X:=by
 have m0:=(h.alloc (.cells #[.int .i64 t,.int .i64 n,.int .i64 k,.int .i64 m,.int .i64 g,.int .i64 p,.int .i64 r,.pointer (some ⟨L.p,0,none⟩),.int .i64 who] 27)).alloc (.cells #[.int .i64 x,.int .i64 G] 154)
 have i0:=(hi.grown (grow1 _ (.cells #[.int .i64 t,.int .i64 n,.int .i64 k,.int .i64 m,.int .i64 g,.int .i64 p,.int .i64 r,.pointer (some ⟨L.p,0,none⟩),.int .i64 who] 27))).grown (grow1 _ (.cells #[.int .i64 x,.int .i64 G] 154))
 have o0 : Only (L.and b) w ((w.alloc (.cells #[.int .i64 t,.int .i64 n,.int .i64 k,.int .i64 m,.int .i64 g,.int .i64 p,.int .i64 r,.pointer (some ⟨L.p,0,none⟩),.int .i64 who] 27)).alloc (.cells #[.int .i64 x,.int .i64 G] 154)):=((Only.refl _ _).alloc _).alloc _
 have v0 : BoxV ((w.alloc (.cells #[.int .i64 t,.int .i64 n,.int .i64 k,.int .i64 m,.int .i64 g,.int .i64 p,.int .i64 r,.pointer (some ⟨L.p,0,none⟩),.int .i64 who] 27)).alloc (.cells #[.int .i64 x,.int .i64 G] 154)) w.heap.size t n k m g p r L.p who:=BoxV.newB _
 have x0:=At.new2 w (.cells #[.int .i64 t,.int .i64 n,.int .i64 k,.int .i64 m,.int .i64 g,.int .i64 p,.int .i64 r,.pointer (some ⟨L.p,0,none⟩),.int .i64 who] 27) 154 [.int .i64 (x : Nat),.int .i64 G]
 have k0:=i0.c_nx
 rw [hnx] at k0
 obtain ⟨y0,y1,y2,y3,y4,y5,y6,y7,y8⟩:=id v0
 have u0:=x0.at0 0 rfl
 have u1:=x0.at0 1 rfl
 go_enter Tryz.func146,Tryz.ntmps146
 go_wp2_with (go_at_call 148;refine (hc _ m0 i0).mono ?_;rintro e w3 ⟨rfl,s3,cs3,a3,m3,o3,i3,q3,p3⟩)
 go_end0
 exact ⟨rfl,s3,cs3,a3,m3,o0.trans o3,i3,q3,p3⟩
set_option maxHeartbeats 400000 in
theorem adoes_load {w : World} {L : Loc} {s : Mm} {b o : Nat} {T : TypeId} {cs : Array Value} {t n k m : Nat} {g p r : Int} {a : CV} (h : MemAt w L s) (hi : AcAt w b o T cs a) (who : Int) (x : Nat) (G : Int) (hnx : a.nx = 2) (X : Mm -> CV -> Prop)
 (hc : ∀ w1 : World,MemAt w1 L s -> AcAt w1 b o T cs a -> Calls Tryz.prog 149 #[.pointer (some ⟨b,o,none⟩),.agg #[.int .i64 t,.int .i64 n,.int .i64 k,.int .i64 m,.int .i64 g,.int .i64 p,.int .i64 r,.pointer (some ⟨L.p,0,none⟩),.int .i64 who],.agg #[.int .i64 x,.int .i64 G]] w1 fun e w'=>e = .returned (.tuple #[]) /\ Cact L b o T cs w1 w' X) :
 Calls Tryz.prog 146 #[.pointer (some ⟨b,o,none⟩),.agg #[.int .i64 t,.int .i64 n,.int .i64 k,.int .i64 m,.int .i64 g,.int .i64 p,.int .i64 r,.pointer (some ⟨L.p,0,none⟩),.int .i64 who],.agg #[.int .i64 x,.int .i64 G]] w fun e w'=>e = .returned (.tuple #[]) /\ Cact L b o T cs w w' X:=by
 have m0:=(h.alloc (.cells #[.int .i64 t,.int .i64 n,.int .i64 k,.int .i64 m,.int .i64 g,.int .i64 p,.int .i64 r,.pointer (some ⟨L.p,0,none⟩),.int .i64 who] 27)).alloc (.cells #[.int .i64 x,.int .i64 G] 154)
 have i0:=(hi.grown (grow1 _ (.cells #[.int .i64 t,.int .i64 n,.int .i64 k,.int .i64 m,.int .i64 g,.int .i64 p,.int .i64 r,.pointer (some ⟨L.p,0,none⟩),.int .i64 who] 27))).grown (grow1 _ (.cells #[.int .i64 x,.int .i64 G] 154))
 have o0 : Only (L.and b) w ((w.alloc (.cells #[.int .i64 t,.int .i64 n,.int .i64 k,.int .i64 m,.int .i64 g,.int .i64 p,.int .i64 r,.pointer (some ⟨L.p,0,none⟩),.int .i64 who] 27)).alloc (.cells #[.int .i64 x,.int .i64 G] 154)):=((Only.refl _ _).alloc _).alloc _
 have v0 : BoxV ((w.alloc (.cells #[.int .i64 t,.int .i64 n,.int .i64 k,.int .i64 m,.int .i64 g,.int .i64 p,.int .i64 r,.pointer (some ⟨L.p,0,none⟩),.int .i64 who] 27)).alloc (.cells #[.int .i64 x,.int .i64 G] 154)) w.heap.size t n k m g p r L.p who:=BoxV.newB _
 have x0:=At.new2 w (.cells #[.int .i64 t,.int .i64 n,.int .i64 k,.int .i64 m,.int .i64 g,.int .i64 p,.int .i64 r,.pointer (some ⟨L.p,0,none⟩),.int .i64 who] 27) 154 [.int .i64 (x : Nat),.int .i64 G]
 have k0:=i0.c_nx
 rw [hnx] at k0
 obtain ⟨y0,y1,y2,y3,y4,y5,y6,y7,y8⟩:=id v0
 have u0:=x0.at0 0 rfl
 have u1:=x0.at0 1 rfl
 go_enter Tryz.func146,Tryz.ntmps146
 go_wp2_with (go_at_call 149;refine (hc _ m0 i0).mono ?_;rintro e w3 ⟨rfl,s3,cs3,a3,m3,o3,i3,q3,p3⟩)
 go_end0
 exact ⟨rfl,s3,cs3,a3,m3,o0.trans o3,i3,q3,p3⟩
set_option maxHeartbeats 400000 in
theorem adoes_check {w : World} {L : Loc} {s : Mm} {b o : Nat} {T : TypeId} {cs : Array Value} {t n k m : Nat} {g p r : Int} {a : CV} (h : MemAt w L s) (hi : AcAt w b o T cs a) (who : Int) (x : Nat) (G : Int) (hnx : a.nx = 3) (X : Mm -> CV -> Prop)
 (hc : ∀ w1 : World,MemAt w1 L s -> AcAt w1 b o T cs a -> Calls Tryz.prog 150 #[.pointer (some ⟨b,o,none⟩),.agg #[.int .i64 t,.int .i64 n,.int .i64 k,.int .i64 m,.int .i64 g,.int .i64 p,.int .i64 r,.pointer (some ⟨L.p,0,none⟩),.int .i64 who],.agg #[.int .i64 x,.int .i64 G]] w1 fun e w'=>e = .returned (.tuple #[]) /\ Cact L b o T cs w1 w' X) :
 Calls Tryz.prog 146 #[.pointer (some ⟨b,o,none⟩),.agg #[.int .i64 t,.int .i64 n,.int .i64 k,.int .i64 m,.int .i64 g,.int .i64 p,.int .i64 r,.pointer (some ⟨L.p,0,none⟩),.int .i64 who],.agg #[.int .i64 x,.int .i64 G]] w fun e w'=>e = .returned (.tuple #[]) /\ Cact L b o T cs w w' X:=by
 have m0:=(h.alloc (.cells #[.int .i64 t,.int .i64 n,.int .i64 k,.int .i64 m,.int .i64 g,.int .i64 p,.int .i64 r,.pointer (some ⟨L.p,0,none⟩),.int .i64 who] 27)).alloc (.cells #[.int .i64 x,.int .i64 G] 154)
 have i0:=(hi.grown (grow1 _ (.cells #[.int .i64 t,.int .i64 n,.int .i64 k,.int .i64 m,.int .i64 g,.int .i64 p,.int .i64 r,.pointer (some ⟨L.p,0,none⟩),.int .i64 who] 27))).grown (grow1 _ (.cells #[.int .i64 x,.int .i64 G] 154))
 have o0 : Only (L.and b) w ((w.alloc (.cells #[.int .i64 t,.int .i64 n,.int .i64 k,.int .i64 m,.int .i64 g,.int .i64 p,.int .i64 r,.pointer (some ⟨L.p,0,none⟩),.int .i64 who] 27)).alloc (.cells #[.int .i64 x,.int .i64 G] 154)):=((Only.refl _ _).alloc _).alloc _
 have v0 : BoxV ((w.alloc (.cells #[.int .i64 t,.int .i64 n,.int .i64 k,.int .i64 m,.int .i64 g,.int .i64 p,.int .i64 r,.pointer (some ⟨L.p,0,none⟩),.int .i64 who] 27)).alloc (.cells #[.int .i64 x,.int .i64 G] 154)) w.heap.size t n k m g p r L.p who:=BoxV.newB _
 have x0:=At.new2 w (.cells #[.int .i64 t,.int .i64 n,.int .i64 k,.int .i64 m,.int .i64 g,.int .i64 p,.int .i64 r,.pointer (some ⟨L.p,0,none⟩),.int .i64 who] 27) 154 [.int .i64 (x : Nat),.int .i64 G]
 have k0:=i0.c_nx
 rw [hnx] at k0
 obtain ⟨y0,y1,y2,y3,y4,y5,y6,y7,y8⟩:=id v0
 have u0:=x0.at0 0 rfl
 have u1:=x0.at0 1 rfl
 go_enter Tryz.func146,Tryz.ntmps146
 go_wp2_with (go_at_call 150;refine (hc _ m0 i0).mono ?_;rintro e w3 ⟨rfl,s3,cs3,a3,m3,o3,i3,q3,p3⟩)
 go_end0
 exact ⟨rfl,s3,cs3,a3,m3,o0.trans o3,i3,q3,p3⟩
set_option maxHeartbeats 400000 in
theorem adoes_stop {w : World} {L : Loc} {s : Mm} {b o : Nat} {T : TypeId} {cs : Array Value} {t n k m : Nat} {g p r : Int} {a : CV} (h : MemAt w L s) (hi : AcAt w b o T cs a) (who : Int) (x : Nat) (G : Int) (hnx : a.nx = 5) (X : Mm -> CV -> Prop)
 (hc : ∀ w1 : World,MemAt w1 L s -> AcAt w1 b o T cs a -> Calls Tryz.prog 151 #[.pointer (some ⟨b,o,none⟩),.agg #[.int .i64 t,.int .i64 n,.int .i64 k,.int .i64 m,.int .i64 g,.int .i64 p,.int .i64 r,.pointer (some ⟨L.p,0,none⟩),.int .i64 who],.agg #[.int .i64 x,.int .i64 G]] w1 fun e w'=>e = .returned (.tuple #[]) /\ Cact L b o T cs w1 w' X) :
 Calls Tryz.prog 146 #[.pointer (some ⟨b,o,none⟩),.agg #[.int .i64 t,.int .i64 n,.int .i64 k,.int .i64 m,.int .i64 g,.int .i64 p,.int .i64 r,.pointer (some ⟨L.p,0,none⟩),.int .i64 who],.agg #[.int .i64 x,.int .i64 G]] w fun e w'=>e = .returned (.tuple #[]) /\ Cact L b o T cs w w' X:=by
 have m0:=(h.alloc (.cells #[.int .i64 t,.int .i64 n,.int .i64 k,.int .i64 m,.int .i64 g,.int .i64 p,.int .i64 r,.pointer (some ⟨L.p,0,none⟩),.int .i64 who] 27)).alloc (.cells #[.int .i64 x,.int .i64 G] 154)
 have i0:=(hi.grown (grow1 _ (.cells #[.int .i64 t,.int .i64 n,.int .i64 k,.int .i64 m,.int .i64 g,.int .i64 p,.int .i64 r,.pointer (some ⟨L.p,0,none⟩),.int .i64 who] 27))).grown (grow1 _ (.cells #[.int .i64 x,.int .i64 G] 154))
 have o0 : Only (L.and b) w ((w.alloc (.cells #[.int .i64 t,.int .i64 n,.int .i64 k,.int .i64 m,.int .i64 g,.int .i64 p,.int .i64 r,.pointer (some ⟨L.p,0,none⟩),.int .i64 who] 27)).alloc (.cells #[.int .i64 x,.int .i64 G] 154)):=((Only.refl _ _).alloc _).alloc _
 have v0 : BoxV ((w.alloc (.cells #[.int .i64 t,.int .i64 n,.int .i64 k,.int .i64 m,.int .i64 g,.int .i64 p,.int .i64 r,.pointer (some ⟨L.p,0,none⟩),.int .i64 who] 27)).alloc (.cells #[.int .i64 x,.int .i64 G] 154)) w.heap.size t n k m g p r L.p who:=BoxV.newB _
 have x0:=At.new2 w (.cells #[.int .i64 t,.int .i64 n,.int .i64 k,.int .i64 m,.int .i64 g,.int .i64 p,.int .i64 r,.pointer (some ⟨L.p,0,none⟩),.int .i64 who] 27) 154 [.int .i64 (x : Nat),.int .i64 G]
 have k0:=i0.c_nx
 rw [hnx] at k0
 obtain ⟨y0,y1,y2,y3,y4,y5,y6,y7,y8⟩:=id v0
 have u0:=x0.at0 0 rfl
 have u1:=x0.at0 1 rfl
 go_enter Tryz.func146,Tryz.ntmps146
 go_wp2_with (go_at_call 151;refine (hc _ m0 i0).mono ?_;rintro e w3 ⟨rfl,s3,cs3,a3,m3,o3,i3,q3,p3⟩)
 go_end0
 exact ⟨rfl,s3,cs3,a3,m3,o0.trans o3,i3,q3,p3⟩
set_option maxHeartbeats 400000 in
theorem adoes_lay {w : World} {L : Loc} {s : Mm} {b o : Nat} {T : TypeId} {cs : Array Value} {t n k m : Nat} {g p r : Int} {a : CV} (h : MemAt w L s) (hi : AcAt w b o T cs a) (who : Int) (x : Nat) (G : Int) (hnx : a.nx = 6) (X : Mm -> CV -> Prop)
 (hc : ∀ w1 : World,MemAt w1 L s -> AcAt w1 b o T cs a -> Calls Tryz.prog 152 #[.pointer (some ⟨b,o,none⟩),.agg #[.int .i64 t,.int .i64 n,.int .i64 k,.int .i64 m,.int .i64 g,.int .i64 p,.int .i64 r,.pointer (some ⟨L.p,0,none⟩),.int .i64 who]] w1 fun e w'=>e = .returned (.tuple #[]) /\ Cact L b o T cs w1 w' X) :
 Calls Tryz.prog 146 #[.pointer (some ⟨b,o,none⟩),.agg #[.int .i64 t,.int .i64 n,.int .i64 k,.int .i64 m,.int .i64 g,.int .i64 p,.int .i64 r,.pointer (some ⟨L.p,0,none⟩),.int .i64 who],.agg #[.int .i64 x,.int .i64 G]] w fun e w'=>e = .returned (.tuple #[]) /\ Cact L b o T cs w w' X:=by
 have m0:=(h.alloc (.cells #[.int .i64 t,.int .i64 n,.int .i64 k,.int .i64 m,.int .i64 g,.int .i64 p,.int .i64 r,.pointer (some ⟨L.p,0,none⟩),.int .i64 who] 27)).alloc (.cells #[.int .i64 x,.int .i64 G] 154)
 have i0:=(hi.grown (grow1 _ (.cells #[.int .i64 t,.int .i64 n,.int .i64 k,.int .i64 m,.int .i64 g,.int .i64 p,.int .i64 r,.pointer (some ⟨L.p,0,none⟩),.int .i64 who] 27))).grown (grow1 _ (.cells #[.int .i64 x,.int .i64 G] 154))
 have o0 : Only (L.and b) w ((w.alloc (.cells #[.int .i64 t,.int .i64 n,.int .i64 k,.int .i64 m,.int .i64 g,.int .i64 p,.int .i64 r,.pointer (some ⟨L.p,0,none⟩),.int .i64 who] 27)).alloc (.cells #[.int .i64 x,.int .i64 G] 154)):=((Only.refl _ _).alloc _).alloc _
 have v0 : BoxV ((w.alloc (.cells #[.int .i64 t,.int .i64 n,.int .i64 k,.int .i64 m,.int .i64 g,.int .i64 p,.int .i64 r,.pointer (some ⟨L.p,0,none⟩),.int .i64 who] 27)).alloc (.cells #[.int .i64 x,.int .i64 G] 154)) w.heap.size t n k m g p r L.p who:=BoxV.newB _
 have x0:=At.new2 w (.cells #[.int .i64 t,.int .i64 n,.int .i64 k,.int .i64 m,.int .i64 g,.int .i64 p,.int .i64 r,.pointer (some ⟨L.p,0,none⟩),.int .i64 who] 27) 154 [.int .i64 (x : Nat),.int .i64 G]
 have k0:=i0.c_nx
 rw [hnx] at k0
 obtain ⟨y0,y1,y2,y3,y4,y5,y6,y7,y8⟩:=id v0
 have u0:=x0.at0 0 rfl
 have u1:=x0.at0 1 rfl
 go_enter Tryz.func146,Tryz.ntmps146
 go_wp2_with (go_at_call 152;refine (hc _ m0 i0).mono ?_;rintro e w3 ⟨rfl,s3,cs3,a3,m3,o3,i3,q3,p3⟩)
 go_end0
 exact ⟨rfl,s3,cs3,a3,m3,o0.trans o3,i3,q3,p3⟩
set_option maxHeartbeats 400000 in
theorem acstep_go {w : World} {L : Loc} {s : Mm} {b o : Nat} {T : TypeId} {cs : Array Value} {t n k m : Nat} {g p r : Int} {a : CV} (h : MemAt w L s) (hi : AcAt w b o T cs a) (who : Int) (hk : a.kd = 1 \/ a.kd = 2 \/ a.kd = 3) (hG : Good t n k m g p r) (hlen : arenaLen t n k m <= s.n) {x : Nat} {G : Int} (hh : HandIs a.nu x G) (hx : x < n) (hnx : ¬ a.nx = 7) (X : Mm -> CV -> Prop) (d : Bool) (hX : ∀ s' a',X s' a' -> (a'.nx == 7) = d)
 (hc : ∀ w1 : World,MemAt w1 L s -> AcAt w1 b o T cs a -> Calls Tryz.prog 146 #[.pointer (some ⟨b,o,none⟩),.agg #[.int .i64 t,.int .i64 n,.int .i64 k,.int .i64 m,.int .i64 g,.int .i64 p,.int .i64 r,.pointer (some ⟨L.p,0,none⟩),.int .i64 who],.agg #[.int .i64 x,.int .i64 G]] w1 fun e w'=>e = .returned (.tuple #[]) /\ Cact L b o T cs w1 w' X) :
 Calls Tryz.prog 142 #[.pointer (some ⟨b,o,none⟩),.agg #[.int .i64 t,.int .i64 n,.int .i64 k,.int .i64 m,.int .i64 g,.int .i64 p,.int .i64 r,.pointer (some ⟨L.p,0,none⟩),.int .i64 who]] w fun e w'=>e = .returned (.bool d) /\ Cact L b o T cs w w' X:=by
 have hw:=hh.call
 have kn:=fun w=>aknown_yes hk w
 have ds:=fun (w' : World) (m' : MemAt w' L s)=>astands_any (x:=x) m' hG hlen who
 rw [decide_eq_true (by omega)] at ds
 have i0:=hi.grown (grow1 _ (.cells #[.int .i64 t,.int .i64 n,.int .i64 k,.int .i64 m,.int .i64 g,.int .i64 p,.int .i64 r,.pointer (some ⟨L.p,0,none⟩),.int .i64 who] 27))
 have k0:=i0.c_nx
 have k1:=i0.c_nu
 clear hh
 go_enter Tryz.func142,Tryz.ntmps142
 go_wp2_with (first
  | (go_at_call 117;refine (hw _).mono ?_;rintro e w1 ⟨rfl,b1⟩;have i1:=(i0.grown b1).grown (grow1 _ (.cells #[.int .i64 x,.int .i64 G] 154));have v1:=(BoxV.new.grown b1).grown (grow1 _ (.cells #[.int .i64 x,.int .i64 G] 154));have m1:=((h.alloc _).below b1).alloc (.cells #[.int .i64 x,.int .i64 G] 154);have o1 : Only (L.and b) w (w1.alloc (.cells #[.int .i64 x,.int .i64 G] 154)):=(((Only.refl _ _).alloc _).trans (Only.ofGrown b1)).alloc (.cells #[.int .i64 x,.int .i64 G] 154);have x1:=At.new w1 154 [.int .i64 (x : Nat),.int .i64 G];have u0:=x1.at0 0 rfl;have u1:=x1.at0 1 rfl;have kk:=i1.c_kd;obtain ⟨y0,y1,y2,y3,y4,y5,y6,y7,y8⟩:=id v1)
  | (go_at_call 143;refine (kn _).mono ?_;rintro e w9 ⟨rfl,rfl⟩)
  | (go_at_call 145;refine (ds _ m1).mono ?_;rintro e w2 ⟨rfl,b2⟩;have i2:=i1.grown b2;have v2:=v1.grown b2;have m2:=m1.below b2;have x2:=x1.grown b2;have o2:=o1.trans (Only.ofGrown b2);have q0:=x2.at0 0 rfl;have q1:=x2.at0 1 rfl;obtain ⟨z0,z1,z2,z3,z4,z5,z6,z7,z8⟩:=id v2;have kf:=i2.fz)
  | (go_at_call 146;refine (hc _ m2 i2).mono ?_;rintro e w3 ⟨rfl,s3,cs3,a3,m3,o3,i3,q3,p3⟩;have k3:=i3.c_nx))
 go_ret
 exact ⟨ret_bool (hX _ _ p3),s3,cs3,a3,m3,o2.trans o3,i3,q3,p3⟩
theorem acstep_out {w : World} {L : Loc} {s : Mm} {b o : Nat} {T : TypeId} {cs : Array Value} {t n k m : Nat} {g p r : Int} {a : CV} (h : MemAt w L s) (hi : AcAt w b o T cs a) (who : Int) (hk : a.kd = 1 \/ a.kd = 2 \/ a.kd = 3) (hG : Good t n k m g p r) (hlen : arenaLen t n k m <= s.n) {x : Nat} {G : Int} (hh : HandIs a.nu x G) (hb : ¬ L.has b) (hx : n <= x) (hnx : ¬ a.nx = 7) {σ : Nat} (hσ : s.steps = σ) :
 Calls Tryz.prog 142 #[.pointer (some ⟨b,o,none⟩),.agg #[.int .i64 t,.int .i64 n,.int .i64 k,.int .i64 m,.int .i64 g,.int .i64 p,.int .i64 r,.pointer (some ⟨L.p,0,none⟩),.int .i64 who]] w fun e w'=>e = .returned (.bool true) /\ Cact L b o T cs w w' (fun s' a'=>s' = s /\ a' = { a with nx:=7,E:=3,H:=0,V:=0,St:=σ }):=by
 have hw:=hh.call
 have kn:=fun w=>aknown_yes hk w
 have ds:=fun (w' : World) (m' : MemAt w' L s)=>astands_any (x:=x) m' hG hlen who
 rw [decide_eq_false (by omega)] at ds
 have i0:=hi.grown (grow1 _ (.cells #[.int .i64 t,.int .i64 n,.int .i64 k,.int .i64 m,.int .i64 g,.int .i64 p,.int .i64 r,.pointer (some ⟨L.p,0,none⟩),.int .i64 who] 27))
 have k0:=i0.c_nx
 have k1:=i0.c_nu
 clear hh
 go_enter Tryz.func142,Tryz.ntmps142
 go_wp2_with (first
  | (go_at_call 117;refine (hw _).mono ?_;rintro e w1 ⟨rfl,b1⟩;have i1:=(i0.grown b1).grown (grow1 _ (.cells #[.int .i64 x,.int .i64 G] 154));have v1:=(BoxV.new.grown b1).grown (grow1 _ (.cells #[.int .i64 x,.int .i64 G] 154));have m1:=((h.alloc _).below b1).alloc (.cells #[.int .i64 x,.int .i64 G] 154);have o1 : Only (L.and b) w (w1.alloc (.cells #[.int .i64 x,.int .i64 G] 154)):=(((Only.refl _ _).alloc _).trans (Only.ofGrown b1)).alloc (.cells #[.int .i64 x,.int .i64 G] 154);have x1:=At.new w1 154 [.int .i64 (x : Nat),.int .i64 G];have u0:=x1.at0 0 rfl;have u1:=x1.at0 1 rfl;have kk:=i1.c_kd;obtain ⟨y0,y1,y2,y3,y4,y5,y6,y7,y8⟩:=id v1)
  | (go_at_call 143;refine (kn _).mono ?_;rintro e w9 ⟨rfl,rfl⟩)
  | (go_at_call 145;refine (ds _ m1).mono ?_;rintro e w2 ⟨rfl,b2⟩;have i2:=i1.grown b2;have v2:=v1.grown b2;have m2:=m1.below b2;have x2:=x1.grown b2;have o2:=o1.trans (Only.ofGrown b2);have q0:=x2.at0 0 rfl;have q1:=x2.at0 1 rfl;obtain ⟨z0,z1,z2,z3,z4,z5,z6,z7,z8⟩:=id v2;have kf:=i2.fz)
  | (go_at_call 17;refine (now_any m2 _ _ _ _ _ _ _ _ σ hσ).mono ?_;rintro e w8 ⟨rfl,b8⟩)
  | (go_at_call 144;refine (aend (m2.below b8) hb (i2.grown b8) 3 0 σ).mono ?_;rintro e w3 ⟨rfl,s3,cs3,a3,m3,o3,i3,q3,rfl,rfl⟩;have k3 : w3.cell? ⟨b,o,none⟩ = some (.int .i64 7):=i3.c_nx))
 go_ret
 exact ⟨rfl,_,cs3,_,m3,(o2.trans (Only.ofGrown b8)).trans o3,i3,q3,rfl,rfl⟩
theorem acstep_none {w : World} {L : Loc} {s : Mm} {b o : Nat} {T : TypeId} {cs : Array Value} {t n k m : Nat} {g p r : Int} {a : CV} (h : MemAt w L s) (hi : AcAt w b o T cs a) (who : Int) (hk : a.kd = 1 \/ a.kd = 2 \/ a.kd = 3) (hb : ¬ L.has b) (h0 : 0 <= a.nu) (h1 : a.nu <= 18446744073709551615) (hn : a.nu < 65536 \/ 4294967296 <= a.nu) (hnx : ¬ a.nx = 7) {σ : Nat} (hσ : s.steps = σ) :
 Calls Tryz.prog 142 #[.pointer (some ⟨b,o,none⟩),.agg #[.int .i64 t,.int .i64 n,.int .i64 k,.int .i64 m,.int .i64 g,.int .i64 p,.int .i64 r,.pointer (some ⟨L.p,0,none⟩),.int .i64 who]] w fun e w'=>e = .returned (.bool true) /\ Cact L b o T cs w w' (fun s' a'=>s' = s /\ a' = { a with nx:=7,E:=3,H:=0,V:=0,St:=σ }):=by
 have hw:=fun w=>handle_no a.nu w h0 h1 hn
 have kn:=fun w=>aknown_yes hk w
 have i0:=hi.grown (grow1 _ (.cells #[.int .i64 t,.int .i64 n,.int .i64 k,.int .i64 m,.int .i64 g,.int .i64 p,.int .i64 r,.pointer (some ⟨L.p,0,none⟩),.int .i64 who] 27))
 have k0:=i0.c_nx
 have k1:=i0.c_nu
 clear hn
 go_enter Tryz.func142,Tryz.ntmps142
 go_wp2_with (first
  | (go_at_call 117;refine (hw _).mono ?_;rintro e w1 ⟨rfl,b1⟩;have i1:=(i0.grown b1).grown (grow1 _ (.cells #[.int .i64 0,.int .i64 0] 154));have v1:=(BoxV.new.grown b1).grown (grow1 _ (.cells #[.int .i64 0,.int .i64 0] 154));have m1:=((h.alloc _).below b1).alloc (.cells #[.int .i64 0,.int .i64 0] 154);have o1 : Only (L.and b) w (w1.alloc (.cells #[.int .i64 0,.int .i64 0] 154)):=(((Only.refl _ _).alloc _).trans (Only.ofGrown b1)).alloc (.cells #[.int .i64 0,.int .i64 0] 154);have x1:=At.new w1 154 [.int .i64 0,.int .i64 0];have u0:=x1.at0 0 rfl;have u1:=x1.at0 1 rfl;have kk:=i1.c_kd;obtain ⟨y0,y1,y2,y3,y4,y5,y6,y7,y8⟩:=id v1)
  | (go_at_call 143;refine (kn _).mono ?_;rintro e w9 ⟨rfl,rfl⟩)
  | (go_at_call 17;refine (now_any m1 _ _ _ _ _ _ _ _ σ hσ).mono ?_;rintro e w8 ⟨rfl,b8⟩)
  | (go_at_call 144;refine (aend (m1.below b8) hb (i1.grown b8) 3 0 σ).mono ?_;rintro e w3 ⟨rfl,s3,cs3,a3,m3,o3,i3,q3,rfl,rfl⟩;have k3 : w3.cell? ⟨b,o,none⟩ = some (.int .i64 7):=i3.c_nx))
 go_ret
 exact ⟨rfl,_,cs3,_,m3,(o1.trans (Only.ofGrown b8)).trans o3,i3,q3,rfl,rfl⟩
end Go.Proofs.YtlolfmoolgenpaaGreat

namespace Go.Proofs.YtlolfmoolgenpaaGreat
open Go.RowKit
structure Wt where
 kd : Int
 nu : Int
 ix : Int
 vl : Int
 ol : Int
def vOf (c : Int) : Int:=c % 1099511627776
def frB (c : Int) : Bool:=decide (9223372036854775808 <= c)
def crOf (c : Int) : Int:=if 9223372036854775808 <= c then c / 1099511627776 % 4194304 else 0
def Wt.other (W : Wt) (c : Int) : Bool:=decide (W.kd = 3) && decide (vOf c ≠ W.ol)
def Wt.reads (W : Wt) (c : Int) : Bool:=decide (W.kd = 1) || W.other c
inductive Ac where
 | see
 | ask (v : Int) (at_ : Nat)
 | load (v : Int) (Z : Nat)
 | check (v c : Int) (ld : Nat)
 | stop (v : Int)
 | lay (v c : Int)
 | over (E val : Int) (st : Nat)
def Ac.over? : Ac -> Bool
 | .over _ _ _=>true
 | _=>false
def Ac.nx : Ac -> Int
 | .see=>0
 | .ask _ _=>1
 | .load _ _=>2
 | .check _ _ _=>3
 | .stop _=>5
 | .lay _ _=>6
 | .over _ _ _=>7
theorem Ac.nx_over (α : Ac) : (α.nx == 7) = α.over?:=by cases α <;> rfl
def Wt.at (W : Wt) (v : Int) : Nat:=adOf v + 1 + W.ix.toNat
def stopW (v : Int) : Int:=packS 1 (adOf v) (genOf v) (verOf' v + 1)
def Wt.w (W : Wt) : Int:=packX W.vl false 0
def acAsk (W : Wt) (own : Bool) (σ : Nat) (v u : Int) (at_ : Nat) : Ac :=
 if ownOf u == own then (if 0 <= W.ix /\ W.ix < szOf u then .load v (szOf u) else .over 4 0 at_) else .over 3 0 (σ + 1)
def acLoad (W : Wt) (σ : Nat) (v c : Int) : Ac :=
 if W.reads c then .check v c (σ + 1)
 else if frB c && decide (crOf c = (verOf' v : Int)) && decide (v % 8 = 2) then .stop v
 else if frB c && decide ((verOf' v : Int) <= crOf c) then .see
 else .lay v c
def acCheck (W : Wt) (G σ : Nat) (v c s : Int) (ld : Nat) : Ac :=
 if lifeB (s % 8) && decide (genOf s = G) then
  (if adOf s = adOf v then (if W.other c then .over 8 (vOf c) ld else .over 0 (vOf c) ld) else .see)
 else .over 3 0 (σ + 1)
def acTurn (W : Wt) (own : Bool) (x G σ : Nat) (q : Q) : Ac -> Q × Ac
 | .see=>(q,if lifeB (q.sw x % 8) && decide (genOf (q.sw x) = G) then .ask (q.sw x) (σ + 1) else .over 3 0 (σ + 1))
 | .ask v at_=>(q,acAsk W own σ v (q.dw (adOf v)) at_)
 | .load v _=>(q,acLoad W σ v (q.dw (W.at v)))
 | .check v c ld=>(q,acCheck W G σ v c (q.sw x) ld)
 | .stop v=>(if q.sw x = v then { q with sw:=upd q.sw x (stopW v) } else q,.see)
 | .lay v c=>if q.dw (W.at v) = c then ({ q with dw:=upd q.dw (W.at v) W.w },.over 0 (vOf c) (σ + 1)) else (q,.see)
 | .over E val st=>(q,.over E val st)
def Ac.good (t n k m : Nat) (W : Wt) (x G : Nat) (q : Q) : Ac -> Prop
 | .see=>lifeB (q.sw x % 8) = true -> genOf (q.sw x) = G -> Stands t n k m q (q.sw x)
 | .ask v _=>Stands t n k m q v
 | .load v Z=>(∃ i,Obj9 t n k m v Z i) /\ 0 <= W.ix /\ W.ix < Z /\ v % 8 ≠ 4
 | .check v c _=>Wd v /\ Wd c
 | .stop v=>Wd v
 | .lay v c=>(∃ Z i,Obj9 t n k m v Z i /\ W.ix < Z) /\ 0 <= W.ix /\ Wd c
 | .over _ _ _=>True
def Ac.at (t x : Nat) (W : Wt) : Ac -> Nat
 | .see=>6 + t + x * 2
 | .ask v _=>adOf v
 | .load v _=>W.at v
 | .check _ _ _=>6 + t + x * 2
 | .stop _=>6 + t + x * 2
 | .lay v _=>W.at v
 | .over _ _ _=>0
def Ac.reads : Ac -> Bool
 | .see=>true
 | .ask _ _=>true
 | .load _ _=>true
 | .check _ _ _=>true
 | _=>false
theorem Wt.w_wd (W : Wt) : Wd W.w:=packX_wd _ _ _
theorem stopW_wd (v : Int) : Wd (stopW v):=packS_wd _ _ _ _
theorem acTurn_wd {W : Wt} {own : Bool} {x G σ : Nat} {q : Q} {α : Ac} {q' : Q} {α' : Ac} (h : ∀ a,Wd (q.dw a)) (ht : acTurn W own x G σ q α = (q',α')) : ∀ a,Wd (q'.dw a):=by
 cases α with
 | see=>obtain ⟨rfl,-⟩:=Prod.mk.inj ht;exact h
 | ask v at_=>obtain ⟨rfl,-⟩:=Prod.mk.inj ht;exact h
 | load v Z=>obtain ⟨rfl,-⟩:=Prod.mk.inj ht;exact h
 | check v c ld=>obtain ⟨rfl,-⟩:=Prod.mk.inj ht;exact h
 | stop v =>
  obtain ⟨rfl,-⟩:=Prod.mk.inj ht
  split <;> exact h
 | lay v c =>
  simp only [acTurn] at ht
  split at ht
  · obtain ⟨rfl,-⟩:=Prod.mk.inj ht
    intro a
    show Wd (upd q.dw _ _ a)
    unfold upd
    split
    · exact W.w_wd
    · exact h a
  · obtain ⟨rfl,-⟩:=Prod.mk.inj ht;exact h
 | over=>obtain ⟨rfl,-⟩:=Prod.mk.inj ht;exact h
inductive ARuns (t n k m : Nat) (W : Wt) (own : Bool) (x G : Nat) (b : Bool) : Nat -> Nat -> Q -> Ac -> Q -> Ac -> Prop where
 | one {σ : Nat} {q : Q} {α : Ac} {q' : Q} {α' : Ac} (hb : b = true -> α.reads = true) (ho : α.over? = false) (hg : α.good t n k m W x G q) (ht : acTurn W own x G σ q α = (q',α')) (h : α'.over? = true) : ARuns t n k m W own x G b 1 σ q α q' α'
 | more {N σ : Nat} {q : Q} {α : Ac} {q1 : Q} {α1 : Ac} {q' : Q} {α' : Ac} (hb : b = true -> α.reads = true) (ho : α.over? = false) (hg : α.good t n k m W x G q) (ht : acTurn W own x G σ q α = (q1,α1)) (h : α1.over? = false) (g : ARuns t n k m W own x G b N (σ + 1) q1 α1 q' α') : ARuns t n k m W own x G b (N + 1) σ q α q' α'
structure Scn (t n k m : Nat) (x G Z i : Nat) (v : Int) (own : Bool) (q : Q) : Prop where
 sw : q.sw x = v
 o : Obj9 t n k m v Z i
 st : v % 8 ≠ 4
 gn : genOf v = G
 sz : szOf (q.dw (adOf v)) = Z
 ow : ownOf (q.dw (adOf v)) = own
 wd : ∀ a,Wd (q.dw a)
 xn : x < n
section
variable {t n k m x G Z i σ : Nat} {v : Int} {own : Bool} {q : Q} {W : Wt}
theorem Scn.good_see (S : Scn t n k m x G Z i v own q) : Ac.good t n k m W x G q .see:=fun _ _=>⟨i,by rw [S.sw,S.sz];exact S.o⟩
theorem Scn.good_ask (S : Scn t n k m x G Z i v own q) (at_ : Nat) : Ac.good t n k m W x G q (.ask v at_):=⟨i,by rw [S.sz];exact S.o⟩
theorem Scn.turn_see (S : Scn t n k m x G Z i v own q) : acTurn W own x G σ q .see = (q,.ask v (σ + 1)):=by
 simp only [acTurn,S.sw,S.o.life,S.gn,decide_true,Bool.and_self,if_true]
theorem Scn.turn_ask (S : Scn t n k m x G Z i v own q) (h0 : 0 <= W.ix) (h1 : W.ix < Z) (at_ : Nat) : acTurn W own x G σ q (.ask v at_) = (q,.load v Z):=by
 simp only [acTurn,acAsk,S.ow,S.sz,beq_self_eq_true,if_true,h0,h1,and_self]
theorem Scn.turn_check (S : Scn t n k m x G Z i v own q) (c : Int) (ld : Nat) : acTurn W own x G σ q (.check v c ld) = (q,.over (if W.other c then 8 else 0) (vOf c) ld):=by
 simp only [acTurn,acCheck,S.sw,S.o.life,S.gn,decide_true,Bool.and_self,if_true]
 split <;> rfl
theorem Scn.reads (S : Scn t n k m x G Z i v own q) (h0 : 0 <= W.ix) (h1 : W.ix < Z) {c : Int} (hc : q.dw (W.at v) = c) (hr : W.reads c = true) : ARuns t n k m W own x G true 4 σ q .see q (.over (if W.other c then 8 else 0) (vOf c) (σ + 3)):=by
 refine .more (fun _=>rfl) rfl S.good_see S.turn_see rfl (.more (fun _=>rfl) rfl (S.good_ask _) (S.turn_ask h0 h1 _) rfl (.more (q1:=q) (α1:=.check v c (σ + 1 + 1 + 1)) (fun _=>rfl) rfl ⟨⟨i,S.o⟩,h0,h1,S.st⟩ ?_ rfl (.one (fun _=>rfl) rfl ⟨S.o.wd,by rw [<- hc];exact S.wd _⟩ (S.turn_check c _) rfl)))
 simp only [acTurn,acLoad,hc,hr,if_true]
theorem Scn.lays (S : Scn t n k m x G Z i v own q) (h0 : 0 <= W.ix) (h1 : W.ix < Z) {c : Int} (hc : q.dw (W.at v) = c) (hr : W.reads c = false) (hf : (frB c && decide ((verOf' v : Int) <= crOf c)) = false) : ARuns t n k m W own x G false 4 σ q .see { q with dw:=upd q.dw (W.at v) W.w } (.over 0 (vOf c) (σ + 4)):=by
 refine .more (by simp) rfl S.good_see S.turn_see rfl (.more (by simp) rfl (S.good_ask _) (S.turn_ask h0 h1 _) rfl (.more (q1:=q) (α1:=.lay v c) (by simp) rfl ⟨⟨i,S.o⟩,h0,h1,S.st⟩ ?_ rfl (.one (by simp) rfl ⟨⟨Z,i,S.o,h1⟩,h0,by rw [<- hc];exact S.wd _⟩ ?_ rfl)))
 · have h2 : (frB c && decide (crOf c = (verOf' v : Int)) && decide (v % 8 = 2)) = false:=by
    cases hb : frB c with
    | false=>rfl
    | true =>
     rw [hb,Bool.true_and] at hf
     have:=of_decide_eq_false hf
     rw [Bool.true_and,decide_eq_false (by omega),Bool.false_and]
   simp only [acTurn,acLoad,hc,hr,hf,h2,Bool.false_eq_true,if_false]
 · simp only [acTurn,hc,if_true]
theorem Scn.index (S : Scn t n k m x G Z i v own q) (h : ¬ (0 <= W.ix /\ W.ix < Z)) : ARuns t n k m W own x G true 2 σ q .see q (.over 4 0 (σ + 1)):=by
 refine .more (fun _=>rfl) rfl S.good_see S.turn_see rfl (.one (fun _=>rfl) rfl (S.good_ask _) ?_ rfl)
 simp only [acTurn,acAsk,S.ow,S.sz,beq_self_eq_true,if_true,h,if_false]
theorem aruns_dead {q : Q} (h : (lifeB (q.sw x % 8) && decide (genOf (q.sw x) = G)) = false) : ARuns t n k m W own x G true 1 σ q .see q (.over 3 0 (σ + 1)):=by
 refine .one (fun _=>rfl) rfl (fun h1 h2=>?_) ?_ rfl
 · rw [h1,h2] at h
   simp at h
 · simp only [acTurn,h]
   rfl
theorem Scn.not_own {ow : Bool} (S : Scn t n k m x G Z i v ow q) (ho : ow ≠ own) : ARuns t n k m W own x G true 2 σ q .see q (.over 3 0 (σ + 2)):=by
 refine .more (q1:=q) (α1:=.ask v (σ + 1)) (fun _=>rfl) rfl S.good_see ?_ rfl (.one (fun _=>rfl) rfl (S.good_ask _) ?_ rfl)
 · simp only [acTurn,S.sw,S.o.life,S.gn,decide_true,Bool.and_self,if_true]
 · have : (ow == own) = false:=by simpa using ho
   simp only [acTurn,acAsk,S.ow,this]
   rfl
end
theorem Tame.scn {t n k m nx : Nat} {q : Q} {gen : Nat -> Nat} {ls : List Ox} {cg : Int} (C : Tame t n k m q nx gen ls) (hG : Good t n k m cg 600 3) (hn : n <= 65535) {o : Ox} (ho : o ∈ ls) : Scn t n k m o.x o.g o.Z o.i (q.sw o.x) o.own q:=by
 have I:=C.is hG hn ho
 exact ⟨rfl,I.obj,by rw [I.st];decide,I.gn,I.sz,I.ow,C.wb,(C.ok o ho).x1⟩
theorem packX_val {z : Int} (h0 : 0 <= z) (h1 : z <= 1099511627775) : packX z false 0 = z:=by
 unfold packX
 rw [if_neg (by decide),cut_id z 40 h0 (by simp;omega)]
theorem vOf_val {z : Int} (h0 : 0 <= z) (h1 : z <= 1099511627775) : vOf z = z:=by
 unfold vOf;omega
theorem frB_val {z : Int} (h1 : z <= 1099511627775) : frB z = false:=decide_eq_false (by omega)
end Go.Proofs.YtlolfmoolgenpaaGreat

namespace Go.Proofs.YtlolfmoolgenpaaGreat
open Go.RowKit
structure Wt.ok (W : Wt) : Prop where
 k : W.kd = 1 \/ W.kd = 2 \/ W.kd = 3
 v : Fit W.vl
def Ac.sec : Ac -> CV -> Prop
 | .see,_=>True
 | .ask v t,a=>a.se = v /\ a.at_ = t
 | .load v Z,a=>a.se = v /\ a.sz = Z
 | .check v c ld,a=>a.se = v /\ a.ce = c /\ a.ld = ld
 | .stop v,a=>a.se = v
 | .lay v c,a=>a.se = v /\ a.ce = c
 | .over E val st,a=>a.E = E /\ a.H = 0 /\ a.V = val /\ a.St = st
structure AcIs (W : Wt) (own : Bool) (α : Ac) (a : CV) : Prop where
 nx : a.nx = α.nx
 kd : a.kd = W.kd
 nu : a.nu = W.nu
 ix : a.ix = W.ix
 vl : a.vl = W.vl
 ol : a.ol = W.ol
 ow : a.own = own
 sec : α.sec a
theorem ac0_is (W : Wt) (own : Bool) : AcIs W own .see (cv0 W.kd W.nu W.ix W.vl W.ol own):=⟨rfl,rfl,rfl,rfl,rfl,rfl,rfl,trivial⟩
structure CDid (w : World) (L : Loc) (s : Mm) (b o : Nat) (T : TypeId) (cs : Array Value) (t n k m σ : Nat) (W : Wt) (own : Bool) (x : Nat) (who : Int) (α : Ac) (q' : Q) (α' : Ac) (w' : World) (s' : Mm) (cs' : Array Value) (a' : CV) : Prop where
 mm : MemAt w' L s'
 tw : Town t n k m s' (σ + 1) q'
 ac : AcAt w' b o T cs' a'
 is : AcIs W own α' a'
 same : Same o 24 cs cs'
 only : Only (L.and b) w w'
 st : ∃ v,s' = (s.by who).step (α.at t x W) v
 rd : α.reads = true -> s' = (s.by who).step (α.at t x W) (s.wd (α.at t x W))
theorem cellIs (u : Int) (h : Wd u) : CellIs u (vOf u) (frB u) (crOf u):=⟨h.1,h.2,rfl,rfl,rfl⟩
section
variable {w : World} {L : Loc} {s : Mm} {b o : Nat} {T : TypeId} {cs : Array Value} {a : CV} {t n k m σ : Nat} {g p r : Int} {q : Q} {W : Wt} {own : Bool}
set_option maxHeartbeats 1000000 in
theorem access_step (h : MemAt w L s) (hb : ¬ L.has b) (hT : Town t n k m s σ q) (hG : Good t n k m g p r) (hσ : σ < 1000000) (hdw : ∀ a,Wd (q.dw a)) {x G : Nat} (hh : HandIs W.nu x G) (hx : x < n) (hW : W.ok) (α : Ac) (hi : AcAt w b o T cs a) (his : AcIs W own α a) (hg : α.good t n k m W x G q) (ho : α.over? = false) (who : Int) (q' : Q) (α' : Ac) (hq : acTurn W own x G σ q α = (q',α')) (d : Bool) (hd : α'.over? = d) :
 Calls Tryz.prog 142 #[.pointer (some ⟨b,o,none⟩),.agg #[.int .i64 t,.int .i64 n,.int .i64 k,.int .i64 m,.int .i64 g,.int .i64 p,.int .i64 r,.pointer (some ⟨L.p,0,none⟩),.int .i64 who]] w fun e w'=>e = .returned (.bool d) /\ ∃ s' cs' a',CDid w L s b o T cs t n k m σ W own x who α q' α' w' s' cs' a':=by
 have hlen : arenaLen t n k m <= s.n:=by rw [hT.len];exact Nat.le_refl _
 have hlen':=hT.len
 have hxs : 6 + t + x * 2 < s.n:=by omega
 have hst : wrap64 (s.steps + 1) = ((σ + 1 : Nat) : Int):=by rw [hT.pile.st];exact hT.pile.wrapS hσ
 obtain ⟨inx,ikd,inu,iix,ivl,iol,iow,isec⟩:=his
 rw [<- inu] at hh
 have hk : a.kd = 1 \/ a.kd = 2 \/ a.kd = 3:=by rw [ikd];exact hW.k
 have hdn:=Ac.nx_over α'
 rw [hd] at hdn
 have hoth : ∀ c,a.oth (vOf c) = W.other c:=fun c=>by unfold CV.oth Wt.other;rw [ikd,iol]
 have hrds : ∀ c,(decide (a.kd = 1) || a.oth (vOf c)) = W.reads c:=fun c=>by rw [hoth,ikd];rfl
 cases α with
 | over=>cases ho
 | see =>
  obtain ⟨v,hv⟩ : ∃ v,q.sw x = v:=⟨_,rfl⟩
  have hwv : s.wd (6 + t + x * 2) = v:=by rw [hT.swv x hx];exact hv
  have wv : Wd v:=by rw [<- hv];exact hT.swb x hx
  have sl:=slotIs v wv
  simp only [acTurn,hv] at hq
  simp only [Ac.good,hv] at hg
  by_cases hl : (lifeB (v % 8) && decide (genOf v = G)) = true
  · rw [if_pos hl] at hq
    obtain ⟨rfl,rfl⟩:=Prod.mk.inj hq
    rw [Bool.and_eq_true] at hl
    obtain ⟨i,O⟩:=hg hl.1 (of_decide_eq_true hl.2)
    have hl' : (lifeB (v % 8) && ((genOf v : Int) == (G : Int))) = true:=by
     rw [hl.1,of_decide_eq_true hl.2];simp
    refine (acstep_go h hi who hk hG hlen hh hx (by rw [inx];decide) _ d ?_ (fun w1 m1 i1=>adoes_see m1 i1 who x G inx _ (fun w1 m1 i1=>asee_yes m1 hb i1 who hG hx hxs hwv sl hl' hst (ci:=chunkOf t n k m (adOf v)) rfl (by rw [O.c1];omega)))).mono ?_
    · rintro s' a' ⟨_,rfl⟩
      rw [<- hdn];rfl
    · rintro e w' ⟨rfl,s',cs',a',m',o',i',sm,rfl,rfl⟩
      exact ⟨rfl,_,cs',_,m',hT.same hσ who _,i',⟨rfl,ikd,inu,iix,ivl,iol,iow,⟨rfl,rfl⟩⟩,sm,o',⟨_,rfl⟩,fun _=>rfl⟩
  · rw [if_neg hl] at hq
    obtain ⟨rfl,rfl⟩:=Prod.mk.inj hq
    have hl' : (lifeB (v % 8) && ((genOf v : Int) == (G : Int))) = false:=by
     rw [Bool.not_eq_true] at hl
     rw [<- hl]
     congr 1
     rw [Bool.eq_iff_iff]
     simp only [beq_iff_eq,decide_eq_true_eq]
     omega
    refine (acstep_go h hi who hk hG hlen hh hx (by rw [inx];decide) _ d ?_ (fun w1 m1 i1=>adoes_see m1 i1 who x G inx _ (fun w1 m1 i1=>asee_no m1 hb i1 who hG hx hxs hwv sl hl' hst))).mono ?_
    · rintro s' a' ⟨_,rfl⟩
      rw [<- hdn];rfl
    · rintro e w' ⟨rfl,s',cs',a',m',o',i',sm,rfl,rfl⟩
      exact ⟨rfl,_,cs',_,m',hT.same hσ who _,i',⟨rfl,ikd,inu,iix,ivl,iol,iow,⟨rfl,rfl,rfl,rfl⟩⟩,sm,o',⟨_,rfl⟩,fun _=>rfl⟩
 | ask v t0 =>
  obtain ⟨i,O⟩:=hg
  obtain ⟨rfl,iat⟩:=isec
  have sl:=slotIs a.se O.wd
  have hin:=O.inn
  have hwu : s.wd (adOf a.se) = q.dw (adOf a.se):=hT.dwv _ hin.1
  have hd1:=headIs _ (hdw (adOf a.se))
  have hq' : (q,acAsk W own σ a.se (q.dw (adOf a.se)) t0) = (q',α'):=hq
  obtain ⟨rfl,hα⟩:=Prod.mk.inj hq'
  have hnA : adOf a.se < s.n:=by omega
  by_cases hw : (ownOf (q.dw (adOf a.se)) == own) = true
  · have hwo : (ownOf (q.dw (adOf a.se)) == a.own) = true:=by rw [iow];exact hw
    simp only [acAsk,hw,if_true] at hα
    by_cases hix : 0 <= W.ix /\ W.ix < szOf (q.dw (adOf a.se))
    · rw [if_pos hix] at hα
      subst hα
      have hm:=adOf_le a.se
      refine (acstep_go h hi who hk hG hlen hh hx (by rw [inx];show ¬ (1 : Int) = 7;decide) _ d ?_ (fun w1 m1 i1=>adoes_ask m1 i1 who x G inx _ (fun w1 m1 i1=>aask_go m1 hb i1 who sl hnA hwu hd1 hwo (fun w2 c2 i2=>ahas_yes (Z:=(szOf (q.dw (adOf a.se)) : Int)) i2 _ rfl hG (by show 0 <= a.ix;rw [iix];exact hix.1) (by show a.ix < _;rw [iix];exact hix.2) (by omega) (by omega) (by have:=O.z2;omega) O.c1 O.c2)))).mono ?_
      · rintro s' a' ⟨_,rfl⟩
        rw [<- hdn];rfl
      · rintro e w' ⟨rfl,s',cs',a',m',o',i',sm,rfl,rfl⟩
        exact ⟨rfl,_,cs',_,m',hT.same hσ who _,i',⟨rfl,ikd,inu,iix,ivl,iol,iow,⟨rfl,rfl⟩⟩,sm,o',⟨_,rfl⟩,fun _=>rfl⟩
    · rw [if_neg hix] at hα
      subst hα
      have key : ∀ (w2 : World) (c2 : Array Value),AcAt w2 b o T c2 { a with sz:=(szOf (q.dw (adOf a.se)) : Int) } -> Calls Tryz.prog 153 #[.pointer (some ⟨b,o,none⟩),.agg #[.int .i64 t,.int .i64 n,.int .i64 k,.int .i64 m,.int .i64 g,.int .i64 p,.int .i64 r],.int .i64 (adOf a.se)] w2 fun e w'=>e = .returned (.bool false) /\ Below w2.heap.size w2 w':=fun w2 c2 i2=>by
       by_cases h0 : W.ix < 0
       · exact ahas_low i2 _ (by show a.ix < 0;rw [iix];exact h0)
       · exact ahas_high (Z:=(szOf (q.dw (adOf a.se)) : Int)) i2 _ rfl (by show 0 <= a.ix;rw [iix];omega) (by show _ <= a.ix;rw [iix];omega)
      refine (acstep_go h hi who hk hG hlen hh hx (by rw [inx];show ¬ (1 : Int) = 7;decide) _ d ?_ (fun w1 m1 i1=>adoes_ask m1 i1 who x G inx _ (fun w1 m1 i1=>aask_index m1 hb i1 who sl hnA hwu hd1 hwo key))).mono ?_
      · rintro s' a' ⟨_,rfl⟩
        rw [<- hdn];rfl
      · rintro e w' ⟨rfl,s',cs',a',m',o',i',sm,rfl,rfl⟩
        exact ⟨rfl,_,cs',_,m',hT.same hσ who _,i',⟨rfl,ikd,inu,iix,ivl,iol,iow,⟨rfl,rfl,rfl,iat⟩⟩,sm,o',⟨_,rfl⟩,fun _=>rfl⟩
  · have hw' : (ownOf (q.dw (adOf a.se)) == own) = false:=by simpa using hw
    have hwo : (ownOf (q.dw (adOf a.se)) == a.own) = false:=by rw [iow];exact hw'
    simp only [acAsk,hw'] at hα
    subst hα
    refine (acstep_go h hi who hk hG hlen hh hx (by rw [inx];show ¬ (1 : Int) = 7;decide) _ d ?_ (fun w1 m1 i1=>adoes_ask m1 i1 who x G inx _ (fun w1 m1 i1=>aask_no m1 hb i1 who sl hnA hwu hd1 hwo hst))).mono ?_
    · rintro s' a' ⟨_,rfl⟩
      rw [<- hdn];rfl
    · rintro e w' ⟨rfl,s',cs',a',m',o',i',sm,rfl,rfl⟩
      exact ⟨rfl,_,cs',_,m',hT.same hσ who _,i',⟨rfl,ikd,inu,iix,ivl,iol,iow,⟨rfl,rfl,rfl,rfl⟩⟩,sm,o',⟨_,rfl⟩,fun _=>rfl⟩
 | load v Z =>
  obtain ⟨⟨i,O⟩,h0,h1,h4⟩:=hg
  obtain ⟨rfl,isz⟩:=isec
  have sl:=slotIs a.se O.wd
  have hin:=O.inn
  have z2:=O.z2
  have hixn : a.ix = (W.ix.toNat : Int):=by rw [iix];omega
  have hjz : W.ix.toNat < Z:=by omega
  have hnJ : adOf a.se + 1 + W.ix.toNat < s.n:=by omega
  have hwu : s.wd (adOf a.se + 1 + W.ix.toNat) = q.dw (W.at a.se):=hT.dwv _ (by omega)
  have hc:=cellIs _ (hdw (W.at a.se))
  have hq' : (q,acLoad W σ a.se (q.dw (W.at a.se))) = (q',α'):=hq
  obtain ⟨rfl,hα⟩:=Prod.mk.inj hq'
  obtain ⟨c,hcc⟩ : ∃ c,q.dw (W.at a.se) = c:=⟨_,rfl⟩
  have hrc:=hrds c
  rw [hcc] at hwu hc hα
  have fin : ∀ {N : Int},α'.nx = N -> AcIs W own α' { a with ce:=c,ld:=((σ + 1 : Nat) : Int),nx:=N } -> (∀ w1 : World,MemAt w1 L s -> AcAt w1 b o T cs a -> Calls Tryz.prog 149 #[.pointer (some ⟨b,o,none⟩),.agg #[.int .i64 t,.int .i64 n,.int .i64 k,.int .i64 m,.int .i64 g,.int .i64 p,.int .i64 r,.pointer (some ⟨L.p,0,none⟩),.int .i64 who],.agg #[.int .i64 x,.int .i64 G]] w1 fun e w'=>e = .returned (.tuple #[]) /\ Cact L b o T cs w1 w' (fun s' a'=>s' = (s.by who).step (adOf a.se + 1 + W.ix.toNat) (s.wd (adOf a.se + 1 + W.ix.toNat)) /\ a' = { a with ce:=c,ld:=((σ + 1 : Nat) : Int),nx:=N })) ->
   Calls Tryz.prog 142 #[.pointer (some ⟨b,o,none⟩),.agg #[.int .i64 t,.int .i64 n,.int .i64 k,.int .i64 m,.int .i64 g,.int .i64 p,.int .i64 r,.pointer (some ⟨L.p,0,none⟩),.int .i64 who]] w fun e w'=>e = .returned (.bool d) /\ ∃ s' cs' a',CDid w L s b o T cs t n k m σ W own x who (.load a.se Z) q α' w' s' cs' a':=by
   intro N hN hIs hcall
   refine (acstep_go h hi who hk hG hlen hh hx (by rw [inx];show ¬ (2 : Int) = 7;decide) _ d ?_ (fun w1 m1 i1=>adoes_load m1 i1 who x G inx _ hcall)).mono ?_
   · rintro s' a' ⟨_,rfl⟩
     rw [<- hdn,hN]
   · rintro e w' ⟨rfl,s',cs',a',m',o',i',sm,rfl,rfl⟩
     exact ⟨rfl,_,cs',_,m',hT.same hσ who _,i',hIs,sm,o',⟨_,rfl⟩,fun _=>rfl⟩
  cases hr : W.reads c with
  | true =>
   rw [hr] at hrc
   simp only [acLoad,hr,if_true] at hα
   subst hα
   exact fin rfl ⟨rfl,ikd,inu,iix,ivl,iol,iow,⟨rfl,rfl,rfl⟩⟩ fun w1 m1 i1=>aload_check m1 hb i1 who sl hixn (by omega) hnJ hwu hc hst hrc
  | false =>
   rw [hr] at hrc
   simp only [acLoad,hr,Bool.false_eq_true,if_false] at hα
   cases hf : frB c with
   | false =>
    simp only [hf,Bool.false_and,Bool.false_eq_true,if_false] at hα
    subst hα
    exact fin rfl ⟨rfl,ikd,inu,iix,ivl,iol,iow,⟨rfl,rfl⟩⟩ fun w1 m1 i1=>aload_open m1 hb i1 who sl hixn (by omega) hnJ hwu hc hst hrc h4 hf
   | true =>
    simp only [hf,Bool.true_and] at hα
    by_cases hv : crOf c = (verOf' a.se : Int)
    · by_cases h2 : a.se % 8 = 2
      · simp only [hv,h2,decide_true,Bool.and_self,if_true] at hα
        subst hα
        exact fin rfl ⟨rfl,ikd,inu,iix,ivl,iol,iow,rfl⟩ fun w1 m1 i1=>aload_stop m1 hb i1 who sl hixn (by omega) hnJ hwu hc hst hrc h2 hf hv
      · simp only [hv,h2,decide_true,decide_false,Bool.and_false,Bool.false_eq_true,if_false,Int.le_refl,if_true] at hα
        subst hα
        exact fin rfl ⟨rfl,ikd,inu,iix,ivl,iol,iow,trivial⟩ fun w1 m1 i1=>aload_anew m1 hb i1 who sl hixn (by omega) hnJ hwu hc hst hrc h4 h2 hf hv
    · by_cases hge : (verOf' a.se : Int) <= crOf c
      · simp only [hv,hge,decide_true,decide_false,Bool.false_and,Bool.false_eq_true,if_false,if_true] at hα
        subst hα
        exact fin rfl ⟨rfl,ikd,inu,iix,ivl,iol,iow,trivial⟩ fun w1 m1 i1=>aload_more m1 hb i1 who sl hixn (by omega) hnJ hwu hc hst hrc h4 hf hv hge
      · simp only [hv,hge,decide_false,Bool.false_and,Bool.false_eq_true,if_false] at hα
        subst hα
        exact fin rfl ⟨rfl,ikd,inu,iix,ivl,iol,iow,⟨rfl,rfl⟩⟩ fun w1 m1 i1=>aload_old m1 hb i1 who sl hixn (by omega) hnJ hwu hc hst hrc h4 hf hv hge
 | check v c ld =>
  obtain ⟨wv,wc⟩:=hg
  obtain ⟨rfl,rfl,ild⟩:=isec
  obtain ⟨u,hu⟩ : ∃ u,q.sw x = u:=⟨_,rfl⟩
  have hwu : s.wd (6 + t + x * 2) = u:=by rw [hT.swv x hx];exact hu
  have wu : Wd u:=by rw [<- hu];exact hT.swb x hx
  have sl:=slotIs u wu
  have sl0:=slotIs a.se wv
  have hc:=cellIs a.ce wc
  have hq' : (q,acCheck W G σ a.se a.ce u ld) = (q',α'):=by rw [<- hq,<- hu];rfl
  obtain ⟨rfl,hα⟩:=Prod.mk.inj hq'
  by_cases hl : (lifeB (u % 8) && decide (genOf u = G)) = true
  · have hl0:=hl
    rw [Bool.and_eq_true] at hl0
    have hl' : (lifeB (u % 8) && ((genOf u : Int) == (G : Int))) = true:=by
     rw [hl0.1,of_decide_eq_true hl0.2];simp
    simp only [acCheck,hl,if_true] at hα
    by_cases hA : adOf u = adOf a.se
    · rw [if_pos hA] at hα
      cases hot : W.other a.ce with
      | true =>
       rw [hot,if_pos rfl] at hα
       subst hα
       refine (acstep_go h hi who hk hG hlen hh hx (by rw [inx];show ¬ (3 : Int) = 7;decide) _ d ?_ (fun w1 m1 i1=>adoes_check m1 i1 who x G inx _ (fun w1 m1 i1=>acheck_other m1 hb i1 who hG hx hxs hwu sl hl' hc sl0 (by rw [hA]) (by rw [hoth];exact hot)))).mono ?_
       · rintro s' a' ⟨_,rfl⟩
         rw [<- hdn];rfl
       · rintro e w' ⟨rfl,s',cs',a',m',o',i',sm,rfl,rfl⟩
         exact ⟨rfl,_,cs',_,m',hT.same hσ who _,i',⟨rfl,ikd,inu,iix,ivl,iol,iow,⟨rfl,rfl,rfl,ild⟩⟩,sm,o',⟨_,rfl⟩,fun _=>rfl⟩
      | false =>
       rw [hot,if_neg (by decide)] at hα
       subst hα
       refine (acstep_go h hi who hk hG hlen hh hx (by rw [inx];show ¬ (3 : Int) = 7;decide) _ d ?_ (fun w1 m1 i1=>adoes_check m1 i1 who x G inx _ (fun w1 m1 i1=>acheck_ok m1 hb i1 who hG hx hxs hwu sl hl' hc sl0 (by rw [hA]) (by rw [hoth];exact hot)))).mono ?_
       · rintro s' a' ⟨_,rfl⟩
         rw [<- hdn];rfl
       · rintro e w' ⟨rfl,s',cs',a',m',o',i',sm,rfl,rfl⟩
         exact ⟨rfl,_,cs',_,m',hT.same hσ who _,i',⟨rfl,ikd,inu,iix,ivl,iol,iow,⟨rfl,rfl,rfl,ild⟩⟩,sm,o',⟨_,rfl⟩,fun _=>rfl⟩
    · rw [if_neg hA] at hα
      subst hα
      refine (acstep_go h hi who hk hG hlen hh hx (by rw [inx];show ¬ (3 : Int) = 7;decide) _ d ?_ (fun w1 m1 i1=>adoes_check m1 i1 who x G inx _ (fun w1 m1 i1=>acheck_else m1 hb i1 who hG hx hxs hwu sl hl' hc sl0 (by omega)))).mono ?_
      · rintro s' a' ⟨_,rfl⟩
        rw [<- hdn];rfl
      · rintro e w' ⟨rfl,s',cs',a',m',o',i',sm,rfl,rfl⟩
        exact ⟨rfl,_,cs',_,m',hT.same hσ who _,i',⟨rfl,ikd,inu,iix,ivl,iol,iow,trivial⟩,sm,o',⟨_,rfl⟩,fun _=>rfl⟩
  · have hl' : (lifeB (u % 8) && ((genOf u : Int) == (G : Int))) = false:=by
     rw [Bool.not_eq_true] at hl
     rw [<- hl]
     congr 1
     rw [Bool.eq_iff_iff]
     simp only [beq_iff_eq,decide_eq_true_eq]
     omega
    simp only [acCheck] at hα
    rw [if_neg hl] at hα
    subst hα
    refine (acstep_go h hi who hk hG hlen hh hx (by rw [inx];show ¬ (3 : Int) = 7;decide) _ d ?_ (fun w1 m1 i1=>adoes_check m1 i1 who x G inx _ (fun w1 m1 i1=>acheck_dead m1 hb i1 who hG hx hxs hwu sl hl' hc hst))).mono ?_
    · rintro s' a' ⟨_,rfl⟩
      rw [<- hdn];rfl
    · rintro e w' ⟨rfl,s',cs',a',m',o',i',sm,rfl,rfl⟩
      exact ⟨rfl,_,cs',_,m',hT.same hσ who _,i',⟨rfl,ikd,inu,iix,ivl,iol,iow,⟨rfl,rfl,rfl,rfl⟩⟩,sm,o',⟨_,rfl⟩,fun _=>rfl⟩
 | stop v =>
  have wv : Wd v:=hg
  obtain rfl : a.se = v:=isec
  have sl:=slotIs a.se wv
  have hq' : ((if q.sw x = a.se then { q with sw:=upd q.sw x (stopW a.se) } else q),Ac.see) = (q',α'):=hq
  obtain ⟨hqq,rfl⟩:=Prod.mk.inj hq'
  refine (acstep_go h hi who hk hG hlen hh hx (by rw [inx];show ¬ (5 : Int) = 7;decide) _ d ?_ (fun w1 m1 i1=>adoes_stop m1 i1 who x G inx _ (fun w1 m1 i1=>astop_any m1 hb i1 who hG hx hxs sl))).mono ?_
  · rintro s' a' ⟨_,rfl⟩
    rw [<- hdn];rfl
  · rintro e w' ⟨rfl,s',cs',a',m',o',i',sm,rfl,rfl⟩
    by_cases hw : q.sw x = a.se
    · have hw' : s.wd (6 + t + x * 2) = a.se:=by rw [hT.swv x hx];exact hw
      rw [if_pos hw] at hqq
      subst hqq
      rw [cas_hit hw'] at m'
      exact ⟨rfl,_,cs',_,m',hT.shows hσ who hx _ (stopW_wd _).1 (stopW_wd _).2,i',⟨rfl,ikd,inu,iix,ivl,iol,iow,trivial⟩,sm,o',⟨_,rfl⟩,fun h=>by cases h⟩
    · have hw' : s.wd (6 + t + x * 2) ≠ a.se:=by rw [hT.swv x hx];exact hw
      rw [if_neg hw] at hqq
      subst hqq
      rw [cas_miss hw'] at m'
      exact ⟨rfl,_,cs',_,m',hT.same hσ who _,i',⟨rfl,ikd,inu,iix,ivl,iol,iow,trivial⟩,sm,o',⟨_,rfl⟩,fun h=>by cases h⟩
 | lay v c =>
  obtain ⟨⟨Z,i,O,h1⟩,h0,wc⟩:=hg
  obtain ⟨rfl,rfl⟩:=isec
  have sl:=slotIs a.se O.wd
  have hc:=cellIs a.ce wc
  have hin:=O.inn
  have z2:=O.z2
  have hixn : a.ix = (W.ix.toNat : Int):=by rw [iix];omega
  have hnJ : adOf a.se + 1 + W.ix.toNat < s.n:=by omega
  have hwu : s.wd (adOf a.se + 1 + W.ix.toNat) = q.dw (W.at a.se):=hT.dwv _ (by omega)
  by_cases hw : q.dw (W.at a.se) = a.ce
  · have hw' : s.wd (adOf a.se + 1 + W.ix.toNat) = a.ce:=hwu.trans hw
    simp only [acTurn,hw,if_true] at hq
    obtain ⟨rfl,rfl⟩:=Prod.mk.inj hq
    refine (acstep_go h hi who hk hG hlen hh hx (by rw [inx];show ¬ (6 : Int) = 7;decide) _ d ?_ (fun w1 m1 i1=>adoes_lay m1 i1 who x G inx _ (fun w1 m1 i1=>alay_yes m1 hb i1 who sl hixn (by omega) hnJ ivl hW.v (decide_eq_true hw') hc hst))).mono ?_
    · rintro s' a' ⟨_,rfl⟩
      rw [<- hdn];rfl
    · rintro e w' ⟨rfl,s',cs',a',m',o',i',sm,rfl,rfl⟩
      rw [cas_hit hw'] at m'
      exact ⟨rfl,_,cs',_,m',hT.lays hσ who (by omega) _,i',⟨rfl,ikd,inu,iix,ivl,iol,iow,⟨rfl,rfl,rfl,rfl⟩⟩,sm,o',⟨_,rfl⟩,fun h=>by cases h⟩
  · have hw' : s.wd (adOf a.se + 1 + W.ix.toNat) ≠ a.ce:=by rw [hwu];exact hw
    simp only [acTurn,hw,if_false] at hq
    obtain ⟨rfl,rfl⟩:=Prod.mk.inj hq
    refine (acstep_go h hi who hk hG hlen hh hx (by rw [inx];show ¬ (6 : Int) = 7;decide) _ d ?_ (fun w1 m1 i1=>adoes_lay m1 i1 who x G inx _ (fun w1 m1 i1=>alay_no m1 hb i1 who sl hixn (by omega) hnJ ivl hW.v (decide_eq_false hw')))).mono ?_
    · rintro s' a' ⟨_,rfl⟩
      rw [<- hdn];rfl
    · rintro e w' ⟨rfl,s',cs',a',m',o',i',sm,rfl,rfl⟩
      rw [cas_miss hw'] at m'
      exact ⟨rfl,_,cs',_,m',hT.same hσ who _,i',⟨rfl,ikd,inu,iix,ivl,iol,iow,trivial⟩,sm,o',⟨_,rfl⟩,fun h=>by cases h⟩
end
end Go.Proofs.YtlolfmoolgenpaaGreat
