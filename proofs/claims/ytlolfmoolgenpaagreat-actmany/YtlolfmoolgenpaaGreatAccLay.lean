import Derived.Test.YtlolfmoolgenpaaGreatAccCheck
namespace Go.Proofs.YtlolfmoolgenpaaGreat
open Go.RowKit
set_option maxRecDepth 20000
set_option maxHeartbeats 1000000 in
theorem astop_any {w : World} {L : Loc} {s : Mm} {b o : Nat} {T : TypeId} {cs : Array Value} {t n k m : Nat} {g p r : Int} {a : CV} (h : MemAt w L s) (hb : ¬ L.has b) (hi : AcAt w b o T cs a) (who : Int) (hG : Good t n k m g p r) {x : Nat} {G : Int} (hx : x < n) (hn : (6 + t + x * 2) < s.n) {st : Int} {A : Nat} {Gs V : Int} (hs : SlotIs a.se st A Gs V) :
 Calls Tryz.prog 151 #[.pointer (some ⟨b,o,none⟩),.agg #[.int .i64 t,.int .i64 n,.int .i64 k,.int .i64 m,.int .i64 g,.int .i64 p,.int .i64 r,.pointer (some ⟨L.p,0,none⟩),.int .i64 who],.agg #[.int .i64 x,.int .i64 G]] w fun e w'=>e = .returned (.tuple #[]) /\ Cact L b o T cs w w' (fun s' a'=>s' = ((s.by who).cas (6 + t + x * 2) a.se (packS 1 A Gs (V + 1))) /\ a' = { a with nx:=0 }):=by
 have sw:=hs.call
 have hs1:=hG.s1
 have ab : (A : Int) <= 1048575:=by have:=hs.ad;omega
 have gb : 0 <= Gs /\ Gs <= 65535:=by have:=hs.gn;omega
 have vb : 0 <= V /\ V <= 4194303:=by have:=hs.vr;omega
 have ps:=fun w=>putSlot_any 1 A Gs (V + 1) w ⟨by omega,by omega⟩ ⟨by omega,by omega⟩ ⟨by omega,by omega⟩ ⟨by omega,by omega⟩
 have hvw : IntKind.i64.wrap (V + 1) = V + 1:=by rw [IntKind.wrap_i64];omega
 clear hs
 have hbv : ¬ L.has w.heap.size:=fun hh=>by have:=h.lt _ hh;omega
 have hbb : ¬ w.heap.size = b:=fun hh=>by have:=hi.lt;omega
 have hbv1 : ¬ L.has (w.heap.size + 1):=fun hh=>by have:=h.lt _ hh;omega
 have hbb1 : ¬ w.heap.size + 1 = b:=fun hh=>by have:=hi.lt;omega
 have i0:=(hi.grown (grow1 _ (.cells #[.int .i64 t,.int .i64 n,.int .i64 k,.int .i64 m,.int .i64 g,.int .i64 p,.int .i64 r,.pointer (some ⟨L.p,0,none⟩),.int .i64 who] 27))).grown (grow1 _ (.cells #[.int .i64 x,.int .i64 G] 154))
 have k3:=i0.c_se
 go_enter Tryz.func151,Tryz.ntmps151
 go_wp2_with (go_at_call 82;refine (sw _).mono ?_;rintro e w3 ⟨rfl,b3⟩;have q3:=At.new w3 87 [.int .i64 st,.int .i64 A,.int .i64 Gs,.int .i64 V];have z0:=q3.at0 0 rfl;have z3:=(q3.put0 0 (.int .i64 1)).at0 3 rfl)
 have q0:=At.new w3 87 [.int .i64 1,.int .i64 A,.int .i64 Gs,.int .i64 (V + 1)]
 refine wp_over (fun W=>MemAt W L s /\ AcAt W b o T cs a /\ BoxV W w.heap.size t n k m g p r L.p who /\ At W (w.heap.size + 1) 0 154 #[.int .i64 x,.int .i64 G] [.int .i64 x,.int .i64 G] /\ At W w3.heap.size 0 87 _ [.int .i64 1,.int .i64 A,.int .i64 Gs,.int .i64 (V + 1)] /\ Only (L.and b) w W) ⟨(((h.alloc _).alloc _).below b3).alloc _,(i0.grown b3).grown (grow1 _ _),((BoxV.newB _).grown b3).grown (grow1 _ _),((At.new2 _ _ _ [.int .i64 (x : Nat),.int .i64 G]).grown b3).grown (grow1 _ _),q0,((((Only.refl _ _).alloc _).alloc _).trans (Only.ofGrown b3)).alloc _⟩ ?_
 clear b3 i0 k3 sw q0 q3 z0 z3
 rintro W ⟨m1,i1,v1,x1,q1,o1⟩
 refine wp_region_rely_tail Grown 12 [.val (.agg #[.int .i64 t,.int .i64 n,.int .i64 k,.int .i64 m,.int .i64 g,.int .i64 p,.int .i64 r,.pointer (some ⟨L.p,0,none⟩),.int .i64 who]),.val (.pointer (some ⟨w.heap.size,0,none⟩)),.val (.agg #[.int .i64 t,.int .i64 n,.int .i64 k,.int .i64 m,.int .i64 g,.int .i64 p,.int .i64 r]),.val (.pointer (some ⟨w.heap.size + 1,0,none⟩)),.val (.int .i64 (x : Nat)),.val (.int .i64 (((6 + t + x * 2) : Nat) : Int)),.val (.pointer (some ⟨b,o,none⟩)),.val (.pointer (some ⟨b,o,none⟩)),.val (.pointer (some ⟨b,o + 7,none⟩)),.val (.int .u64 a.se),.val (.agg #[.int .i64 1,.int .i64 A,.int .i64 Gs,.int .i64 (V + 1)]),.val (.int .u64 (packS 1 A Gs (V + 1)))] (by kernel_rfl) Grown.refl Grown.trans (by decide) (by kernel_rfl) (by kernel_rfl) (by kernel_rfl) (by kernel_rfl) (by kernel_rfl) (by kernel_rfl) ?_
 simp only [List.take_succ_cons,List.take_zero,relyAll,Act.put,List.setIfInBounds_toArray,List.set_cons_zero,List.set_cons_succ]
 refine ⟨?_,?_,?_,?_,?_,?_,?_,?_,?_,?_,?_,?_,?_⟩
 · intro w' hg _
   apply ol
   obtain ⟨y0,y1,y2,y3,y4,y5,y6,y7,y8⟩:=(v1.grown ((Below.refl _ _).drew)).grown hg
   go_simp
   exact gl
 · intros;apply ol;go_simp;exact gl
 · intro w' hg _
   apply ol
   obtain ⟨y0,y1,y2,y3,y4,y5,y6,y7,y8⟩:=(v1.grown ((Below.refl _ _).drew)).grown hg
   go_simp
   exact gl
 · intros;apply ol;go_simp;exact gl
 · intro w' hg _
   apply ol
   have z:=(x1.drew.grown hg).at0 0 rfl
   go_simp
   exact gl
 · intro w' hg _
   apply ol
   go_simp
   refine (lslot_any _ _ _ _ _ _ _ (x : Int) _ hG.arena (by omega) (by omega)).mono ?_
   rintro e w'' ⟨rfl,b9⟩
   exact ⟨_,rfl,b9,congrArg (Value.int .i64) (by omega)⟩
 · intros;apply ol;go_simp;exact gl
 · intros;apply ol;go_simp;exact gl
 · intros;apply ol;go_simp;exact gl
 · intro w' hg _
   apply ol
   have z:=(i1.drew.grown hg).c_se
   go_simp
   exact gl
 · intro w' hg _
   apply ol
   have z0:=(q1.drew.grown hg).at0 0 rfl
   have z1:=(q1.drew.grown hg).at0 1 rfl
   have z2:=(q1.drew.grown hg).at0 2 rfl
   have z3:=(q1.drew.grown hg).at0 3 rfl
   go_simp
   exact gl
 · intro w' hg _
   apply ol
   go_simp
   refine (ps _).mono ?_
   rintro e w'' ⟨rfl,b9⟩
   exact ⟨_,rfl,b9,rfl⟩
 intro w7 hg _
 have m7:=m1.drew.below hg
 have i7:=i1.drew.grown hg
 have o7 : Only (L.and b) w w7:=o1.drew.trans (Only.ofGrown hg)
 clear hg m1 i1 v1 x1 q1 o1
 go_wp2_with (go_at_call 107;refine (ecas_in m7 _ _ _ _ _ _ _ _ (6 + t + x * 2) hn _ _).mono ?_;rintro e w8 ⟨rfl,m8,o8⟩;have i8:=i7.only o8 hb;have k0:=i8.c_nx;have kf:=i8.fz)
 go_end0
 exact ⟨rfl,_,_,_,m8.setIn hb _ _,(o7.trans (o8.andL (b:=b))).set _ _,i8.set_nx 0,Same.refl.set (by omega) _,rfl,rfl⟩
set_option maxHeartbeats 1000000 in
theorem alay_no {w : World} {L : Loc} {s : Mm} {b o : Nat} {T : TypeId} {cs : Array Value} {t n k m : Nat} {g p r : Int} {a : CV} (h : MemAt w L s) (hb : ¬ L.has b) (hi : AcAt w b o T cs a) (who : Int) {st : Int} {A : Nat} {Gs V : Int} (hs : SlotIs a.se st A Gs V) {j : Nat} (hix : a.ix = j) (j1 : j <= 16) (hn : (A + 1 + j) < s.n) {vl : Int} (hvl : a.vl = vl) (fv : Fit vl) (hd : decide (s.wd (A + 1 + j) = a.ce) = false)  :
 Calls Tryz.prog 152 #[.pointer (some ⟨b,o,none⟩),.agg #[.int .i64 t,.int .i64 n,.int .i64 k,.int .i64 m,.int .i64 g,.int .i64 p,.int .i64 r,.pointer (some ⟨L.p,0,none⟩),.int .i64 who]] w fun e w'=>e = .returned (.tuple #[]) /\ Cact L b o T cs w w' (fun s' a'=>s' = ((s.by who).cas (A + 1 + j) a.ce (packX vl false 0)) /\ a' = { a with nx:=0 }):=by
 have HD : Hid (decide (s.wd (A + 1 + j) = a.ce) = false):=hd
 have HX : Hid (a.ix = j):=hix
 have sw:=hs.call
 have ab : (A : Int) <= 1048575:=by have:=hs.ad;omega
 have pc:=fun w=>putCell_any vl false 0 w fv ⟨by decide,by decide⟩
 clear hd hs hix
 have hbv : ¬ L.has w.heap.size:=fun hh=>by have:=h.lt _ hh;omega
 have hbb : ¬ w.heap.size = b:=fun hh=>by have:=hi.lt;omega
 have i0:=hi.grown (grow1 _ (.cells #[.int .i64 t,.int .i64 n,.int .i64 k,.int .i64 m,.int .i64 g,.int .i64 p,.int .i64 r,.pointer (some ⟨L.p,0,none⟩),.int .i64 who] 27))
 have k3:=i0.c_vl
 rw [hvl] at k3
 go_enter Tryz.func152,Tryz.ntmps152
 go_wp2_with (go_at_call 140;refine (pc _).mono ?_;rintro e w3 ⟨rfl,b3⟩)
 refine wp_over (fun W=>MemAt W L s /\ AcAt W b o T cs a /\ BoxV W w.heap.size t n k m g p r L.p who /\ Only (L.and b) w W) ⟨(h.alloc _).below b3,i0.grown b3,BoxV.new.grown b3,((Only.refl _ _).alloc _).trans (Only.ofGrown b3)⟩ ?_
 clear b3 i0 k3 pc
 rintro W ⟨m1,i1,v1,o1⟩
 refine wp_region_rely_tail Grown 13 [.val (.agg #[.int .i64 t,.int .i64 n,.int .i64 k,.int .i64 m,.int .i64 g,.int .i64 p,.int .i64 r,.pointer (some ⟨L.p,0,none⟩),.int .i64 who]),.val (.pointer (some ⟨b,o,none⟩)),.val (.pointer (some ⟨b,o,none⟩)),.val (.pointer (some ⟨b,o,none⟩)),.val (.pointer (some ⟨b,o + 7,none⟩)),.val (.int .u64 a.se),.val (.agg #[.int .i64 st,.int .i64 A,.int .i64 Gs,.int .i64 V]),.val (.int .i64 (((A + 1 + j) : Nat) : Int)),.val (.pointer (some ⟨b,o,none⟩)),.val (.pointer (some ⟨b,o,none⟩)),.val (.pointer (some ⟨b,o + 10,none⟩)),.val (.int .u64 a.ce),.val (.int .u64 (packX vl false 0))] (by kernel_rfl) Grown.refl Grown.trans (by decide) (by kernel_rfl) (by kernel_rfl) (by kernel_rfl) (by kernel_rfl) (by kernel_rfl) (by kernel_rfl) ?_
 simp only [List.take_succ_cons,List.take_zero,relyAll,Act.put,List.setIfInBounds_toArray,List.set_cons_zero,List.set_cons_succ]
 refine ⟨?_,?_,?_,?_,?_,?_,?_,?_,?_,?_,?_,?_,?_,?_⟩
 · intro w' hg _
   apply ol
   obtain ⟨y0,y1,y2,y3,y4,y5,y6,y7,y8⟩:=(v1.grown ((Below.refl _ _).drew)).grown hg
   go_simp
   exact gl
 · intros;apply ol;go_simp;exact gl
 · intros;apply ol;go_simp;exact gl
 · intros;apply ol;go_simp;exact gl
 · intros;apply ol;go_simp;exact gl
 · intro w' hg _
   apply ol
   have z:=(i1.drew.grown hg).c_se
   go_simp
   exact gl
 · intro w' hg _
   apply ol
   go_simp
   refine (sw _).mono ?_
   rintro e w'' ⟨rfl,b9⟩
   exact ⟨_,rfl,b9,rfl⟩
 · intro w' hg _
   apply ol
   go_simp
   refine (aplace_any st A Gs V j (by have z:=(i1.drew.grown hg).c_ix;rwa [HX.out] at z) (by omega) (by omega) (by omega) (by omega)).mono ?_
   rintro e w'' ⟨rfl,b9⟩
   exact ⟨_,rfl,b9,congrArg (Value.int .i64) (by omega)⟩
 · intros;apply ol;go_simp;exact gl
 · intros;apply ol;go_simp;exact gl
 · intros;apply ol;go_simp;exact gl
 · intro w' hg _
   apply ol
   have z:=(i1.drew.grown hg).c_ce
   go_simp
   exact gl
 · intros;apply ol;go_simp;exact gl
 intro w5 hg _
 have m5:=m1.drew.below hg
 have i5:=i1.drew.grown hg
 have v5:=(v1.grown ((Below.refl _ _).drew)).grown hg
 have o5 : Only (L.and b) w w5:=o1.drew.trans (Only.ofGrown hg)
 clear hg m1 i1 v1 o1 sw
 go_wp2_with (go_at_call 107;refine (ecas_in m5 _ _ _ _ _ _ _ _ (A + 1 + j) hn _ _).mono ?_;rintro e w6 ⟨rfl,m6,o6⟩;rw [HD.out];have i6:=i5.only o6 hb;have k0:=i6.c_nx;have kf:=i6.fz)
 refine bodyPost_ret (results_none rfl _ _ _) rfl ?_
 exact ⟨rfl,_,_,_,m6.setIn hb _ _,(o5.trans (o6.andL (b:=b))).set _ _,i6.set_nx 0,Same.refl.set (by omega) _,rfl,rfl⟩
set_option maxHeartbeats 1000000 in
theorem alay_yes {w : World} {L : Loc} {s : Mm} {b o : Nat} {T : TypeId} {cs : Array Value} {t n k m : Nat} {g p r : Int} {a : CV} (h : MemAt w L s) (hb : ¬ L.has b) (hi : AcAt w b o T cs a) (who : Int) {st : Int} {A : Nat} {Gs V : Int} (hs : SlotIs a.se st A Gs V) {j : Nat} (hix : a.ix = j) (j1 : j <= 16) (hn : (A + 1 + j) < s.n) {vl : Int} (hvl : a.vl = vl) (fv : Fit vl) (hd : decide (s.wd (A + 1 + j) = a.ce) = true) {z vr : Int} {fz : Bool} (hc : CellIs a.ce z fz vr) {σ : Nat} (hσ : wrap64 (s.steps + 1) = σ) :
 Calls Tryz.prog 152 #[.pointer (some ⟨b,o,none⟩),.agg #[.int .i64 t,.int .i64 n,.int .i64 k,.int .i64 m,.int .i64 g,.int .i64 p,.int .i64 r,.pointer (some ⟨L.p,0,none⟩),.int .i64 who]] w fun e w'=>e = .returned (.tuple #[]) /\ Cact L b o T cs w w' (fun s' a'=>s' = ((s.by who).cas (A + 1 + j) a.ce (packX vl false 0)) /\ a' = { a with nx:=7,E:=0,H:=0,V:=z,St:=σ }):=by
 have HD : Hid (decide (s.wd (A + 1 + j) = a.ce) = true):=hd
 have HX : Hid (a.ix = j):=hix
 have sw:=hs.call
 have ab : (A : Int) <= 1048575:=by have:=hs.ad;omega
 have pc:=fun w=>putCell_any vl false 0 w fv ⟨by decide,by decide⟩
 have cc:=hc.call
 have HS : Hid ((((s.by who).cas (A + 1 + j) a.ce (packX vl false 0))).steps = σ):=by
  unfold Hid
  rw [<- hσ]
  show (Mm.cas _ _ _ _).steps = _
  unfold Mm.cas
  split <;> rfl
 have ff : ∀ (a1 a2 a3 : Value) (w : World),(Instr.field 185 (.agg #[a1,a2,a3]) 0).run Tryz.prog w = .ok a1 w:=fun a1 a2 a3 w=>by kernel_rfl
 clear hc hσ
 clear hd hs hix
 have hbv : ¬ L.has w.heap.size:=fun hh=>by have:=h.lt _ hh;omega
 have hbb : ¬ w.heap.size = b:=fun hh=>by have:=hi.lt;omega
 have i0:=hi.grown (grow1 _ (.cells #[.int .i64 t,.int .i64 n,.int .i64 k,.int .i64 m,.int .i64 g,.int .i64 p,.int .i64 r,.pointer (some ⟨L.p,0,none⟩),.int .i64 who] 27))
 have k3:=i0.c_vl
 rw [hvl] at k3
 go_enter Tryz.func152,Tryz.ntmps152
 go_wp2_with (go_at_call 140;refine (pc _).mono ?_;rintro e w3 ⟨rfl,b3⟩)
 refine wp_over (fun W=>MemAt W L s /\ AcAt W b o T cs a /\ BoxV W w.heap.size t n k m g p r L.p who /\ Only (L.and b) w W) ⟨(h.alloc _).below b3,i0.grown b3,BoxV.new.grown b3,((Only.refl _ _).alloc _).trans (Only.ofGrown b3)⟩ ?_
 clear b3 i0 k3 pc
 rintro W ⟨m1,i1,v1,o1⟩
 refine wp_region_rely_tail Grown 13 [.val (.agg #[.int .i64 t,.int .i64 n,.int .i64 k,.int .i64 m,.int .i64 g,.int .i64 p,.int .i64 r,.pointer (some ⟨L.p,0,none⟩),.int .i64 who]),.val (.pointer (some ⟨b,o,none⟩)),.val (.pointer (some ⟨b,o,none⟩)),.val (.pointer (some ⟨b,o,none⟩)),.val (.pointer (some ⟨b,o + 7,none⟩)),.val (.int .u64 a.se),.val (.agg #[.int .i64 st,.int .i64 A,.int .i64 Gs,.int .i64 V]),.val (.int .i64 (((A + 1 + j) : Nat) : Int)),.val (.pointer (some ⟨b,o,none⟩)),.val (.pointer (some ⟨b,o,none⟩)),.val (.pointer (some ⟨b,o + 10,none⟩)),.val (.int .u64 a.ce),.val (.int .u64 (packX vl false 0))] (by kernel_rfl) Grown.refl Grown.trans (by decide) (by kernel_rfl) (by kernel_rfl) (by kernel_rfl) (by kernel_rfl) (by kernel_rfl) (by kernel_rfl) ?_
 simp only [List.take_succ_cons,List.take_zero,relyAll,Act.put,List.setIfInBounds_toArray,List.set_cons_zero,List.set_cons_succ]
 refine ⟨?_,?_,?_,?_,?_,?_,?_,?_,?_,?_,?_,?_,?_,?_⟩
 · intro w' hg _
   apply ol
   obtain ⟨y0,y1,y2,y3,y4,y5,y6,y7,y8⟩:=(v1.grown ((Below.refl _ _).drew)).grown hg
   go_simp
   exact gl
 · intros;apply ol;go_simp;exact gl
 · intros;apply ol;go_simp;exact gl
 · intros;apply ol;go_simp;exact gl
 · intros;apply ol;go_simp;exact gl
 · intro w' hg _
   apply ol
   have z:=(i1.drew.grown hg).c_se
   go_simp
   exact gl
 · intro w' hg _
   apply ol
   go_simp
   refine (sw _).mono ?_
   rintro e w'' ⟨rfl,b9⟩
   exact ⟨_,rfl,b9,rfl⟩
 · intro w' hg _
   apply ol
   go_simp
   refine (aplace_any st A Gs V j (by have z:=(i1.drew.grown hg).c_ix;rwa [HX.out] at z) (by omega) (by omega) (by omega) (by omega)).mono ?_
   rintro e w'' ⟨rfl,b9⟩
   exact ⟨_,rfl,b9,congrArg (Value.int .i64) (by omega)⟩
 · intros;apply ol;go_simp;exact gl
 · intros;apply ol;go_simp;exact gl
 · intros;apply ol;go_simp;exact gl
 · intro w' hg _
   apply ol
   have z:=(i1.drew.grown hg).c_ce
   go_simp
   exact gl
 · intros;apply ol;go_simp;exact gl
 intro w5 hg _
 have m5:=m1.drew.below hg
 have i5:=i1.drew.grown hg
 have v5:=(v1.grown ((Below.refl _ _).drew)).grown hg
 have o5 : Only (L.and b) w w5:=o1.drew.trans (Only.ofGrown hg)
 clear hg m1 i1 v1 o1 sw
 go_wp2_with (go_at_call 107;refine (ecas_in m5 _ _ _ _ _ _ _ _ (A + 1 + j) hn _ _).mono ?_;rintro e w6 ⟨rfl,m6,o6⟩;rw [HD.out];have i6:=i5.only o6 hb;have k0:=i6.c_nx;have kf:=i6.fz)
 refine wp_over (fun W=>MemAt W L ((s.by who).cas (A + 1 + j) a.ce (packX vl false 0)) /\ AcAt W b o T cs a /\ BoxV W w.heap.size t n k m g p r L.p who /\ Only (L.and b) w W) ⟨m6,i6,v5.only o6 hbv,o5.trans (o6.andL (b:=b))⟩ ?_
 clear m5 i5 v5 o5 m6 i6 o6 k0 kf
 rintro W ⟨m1,i1,v1,o1⟩
 refine wp_region_rely_tail Grown 9 [.val (.pointer (some ⟨b,o,none⟩)),.val (.pointer (some ⟨b,o,none⟩)),.val (.pointer (some ⟨b,o,none⟩)),.val (.pointer (some ⟨b,o + 10,none⟩)),.val (.int .u64 a.ce),.val (.agg #[.int .i64 z,.bool fz,.int .i64 vr]),.val (.int .i64 z),.val (.agg #[.int .i64 t,.int .i64 n,.int .i64 k,.int .i64 m,.int .i64 g,.int .i64 p,.int .i64 r,.pointer (some ⟨L.p,0,none⟩),.int .i64 who]),.val (.int .i64 (σ : Nat))] (by kernel_rfl) Grown.refl Grown.trans (by decide) (by kernel_rfl) (by kernel_rfl) (by kernel_rfl) (by kernel_rfl) (by kernel_rfl) (by kernel_rfl) ?_
 simp only [List.take_succ_cons,List.take_zero,relyAll,Act.put,List.setIfInBounds_toArray,List.set_cons_zero,List.set_cons_succ]
 refine ⟨?_,?_,?_,?_,?_,?_,?_,?_,?_,?_⟩
 · intros;apply ol;go_simp;exact gl
 · intros;apply ol;go_simp;exact gl
 · intros;apply ol;go_simp;exact gl
 · intros;apply ol;go_simp;exact gl
 · intro w' hg _
   apply ol
   have z:=(i1.drew.grown hg).c_ce
   go_simp
   exact gl
 · intro w' hg _
   apply ol
   go_simp
   refine (cc _).mono ?_
   rintro e w'' ⟨rfl,b9⟩
   exact ⟨_,rfl,b9,rfl⟩
 · intros;apply ol;go_simp;exact gl
 · intro w' hg _
   apply ol
   obtain ⟨y0,y1,y2,y3,y4,y5,y6,y7,y8⟩:=(v1.grown ((Below.refl _ _).drew)).grown hg
   go_simp
   exact gl
 · intro w' hg _
   apply ol
   go_simp
   refine (now_any (m1.drew.below hg) _ _ _ _ _ _ _ _ σ HS.out).mono ?_
   rintro e w'' ⟨rfl,b9⟩
   exact ⟨_,rfl,b9,rfl⟩
 intro w7 hg _
 have m7:=m1.drew.below hg
 have i7:=i1.drew.grown hg
 have o7 : Only (L.and b) w w7:=o1.drew.trans (Only.ofGrown hg)
 clear hg m1 i1 v1 o1
 go_wp2_with (go_at_call 144;refine (aend m7 hb i7 0 z σ).mono ?_;rintro e w9 ⟨rfl,s9,cs9,a9,m9,o9,i9,q9,rfl,rfl⟩)
 go_end0
 exact ⟨rfl,_,_,_,m9,o7.trans o9,i9,q9,rfl,rfl⟩
end Go.Proofs.YtlolfmoolgenpaaGreat
