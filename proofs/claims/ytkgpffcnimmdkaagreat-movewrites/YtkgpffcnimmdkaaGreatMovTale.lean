import Derived.Test.YtkgpffcnimmdkaaGreatAccDo
import Derived.Test.YtkgpffcnimmdkaaGreatAccLoad
import Derived.Test.YtkgpffcnimmdkaaGreatAccCheck
import Derived.Test.YtkgpffcnimmdkaaGreatMovTurn
namespace Go.Proofs.YtkgpffcnimmdkaaGreat
open Go.RowKit
set_option maxRecDepth 20000
set_option maxHeartbeats 1000000 in
theorem astop_any {w : World} {L : Loc} {s : Mm} {b o : Nat} {T : TypeId} {cs : Array Value} {t n k m : Nat} {g p r : Int} {a : CV} (h : MemAt w L s) (hb : ¬ L.has b) (hi : AcAt w b o T cs a) (who : Int) (hG : Good t n k m g p r) {x : Nat} {G : Int} (hx : x < n) (hn : (6 + t + x * 2) < s.n) {st : Int} {A : Nat} {Gs V : Int} (hs : SlotIs a.se st A Gs V) :
 Calls Tryz.prog 92 #[.pointer (some ⟨b,o,none⟩),.agg #[.int .i64 t,.int .i64 n,.int .i64 k,.int .i64 m,.int .i64 g,.int .i64 p,.int .i64 r,.pointer (some ⟨L.p,0,none⟩),.int .i64 who],.agg #[.int .i64 x,.int .i64 G]] w fun e w'=>e = .returned (.tuple #[]) /\ Cact L b o T cs w w' (fun s' a'=>s' = ((s.by who).cas (6 + t + x * 2) a.se (packS 1 A Gs (V + 1))) /\ a' = { a with nx:=0 }):=by
 have sw:=hs.call
 have hs1:=hG.s1
 have ab : (A : Int) <= 1048575:=by have:=hs.ad;omega
 have gb : 0 <= Gs /\ Gs <= 65535:=by have:=hs.gn;omega
 have vb : 0 <= V /\ V <= 4194303:=by have:=hs.vr;omega
 have ps:=fun w=>putSlot_any 1 A Gs (V + 1) w ⟨by omega,by omega⟩ ⟨by omega,by omega⟩ ⟨by omega,by omega⟩ ⟨by omega,by omega⟩
 have hvw : IntKind.i64.wrap (V + 1) = V + 1:=by rw [IntKind.wrap_i64];omega
 clear hs
 have hbv : ¬ L.has w.heap.size:=fun hh=>by have:=h.lt _ hh;omega
 have hbb : ¬ w.heap.size = b:=fun hh=>by have:=hi.lt;omega
 have hbv1 : ¬ L.has (w.heap.size + 1):=fun hh=>by have:=h.lt _ hh;omega
 have hbb1 : ¬ w.heap.size + 1 = b:=fun hh=>by have:=hi.lt;omega
 have i0:=(hi.grown (grow1 _ (.cells #[.int .i64 t,.int .i64 n,.int .i64 k,.int .i64 m,.int .i64 g,.int .i64 p,.int .i64 r,.pointer (some ⟨L.p,0,none⟩),.int .i64 who] 27))).grown (grow1 _ (.cells #[.int .i64 x,.int .i64 G] 74))
 have k3:=i0.c_se
 go_enter Tryz.func92,Tryz.ntmps92
 go_wp2_with (go_at_call 34;refine (sw _).mono ?_;rintro e w3 ⟨rfl,b3⟩;have q3:=At.new w3 42 [.int .i64 st,.int .i64 A,.int .i64 Gs,.int .i64 V];have z0:=q3.at0 0 rfl;have z3:=(q3.put0 0 (.int .i64 1)).at0 3 rfl)
 have q0:=At.new w3 42 [.int .i64 1,.int .i64 A,.int .i64 Gs,.int .i64 (V + 1)]
 refine wp_over (fun W=>MemAt W L s /\ AcAt W b o T cs a /\ BoxV W w.heap.size t n k m g p r L.p who /\ At W (w.heap.size + 1) 0 74 #[.int .i64 x,.int .i64 G] [.int .i64 x,.int .i64 G] /\ At W w3.heap.size 0 42 _ [.int .i64 1,.int .i64 A,.int .i64 Gs,.int .i64 (V + 1)] /\ Only (L.and b) w W) ⟨(((h.alloc _).alloc _).below b3).alloc _,(i0.grown b3).grown (grow1 _ _),((BoxV.newB _).grown b3).grown (grow1 _ _),((At.new2 _ _ _ [.int .i64 (x : Nat),.int .i64 G]).grown b3).grown (grow1 _ _),q0,((((Only.refl _ _).alloc _).alloc _).trans (Only.ofGrown b3)).alloc _⟩ ?_
 clear b3 i0 k3 sw q0 q3 z0 z3
 rintro W ⟨m1,i1,v1,x1,q1,o1⟩
 refine wp_region_rely_tail Grown 12 [.val (.agg #[.int .i64 t,.int .i64 n,.int .i64 k,.int .i64 m,.int .i64 g,.int .i64 p,.int .i64 r,.pointer (some ⟨L.p,0,none⟩),.int .i64 who]),.val (.pointer (some ⟨w.heap.size,0,none⟩)),.val (.agg #[.int .i64 t,.int .i64 n,.int .i64 k,.int .i64 m,.int .i64 g,.int .i64 p,.int .i64 r]),.val (.pointer (some ⟨w.heap.size + 1,0,none⟩)),.val (.int .i64 (x : Nat)),.val (.int .i64 (((6 + t + x * 2) : Nat) : Int)),.val (.pointer (some ⟨b,o,none⟩)),.val (.pointer (some ⟨b,o,none⟩)),.val (.pointer (some ⟨b,o + 7,none⟩)),.val (.int .u64 a.se),.val (.agg #[.int .i64 1,.int .i64 A,.int .i64 Gs,.int .i64 (V + 1)]),.val (.int .u64 (packS 1 A Gs (V + 1)))] (by kernel_rfl) Grown.refl Grown.trans (by decide) (by kernel_rfl) (by kernel_rfl) (by kernel_rfl) (by kernel_rfl) (by kernel_rfl) (by kernel_rfl) ?_
 simp only [List.take_succ_cons,List.take_zero,relyAll,Act.put,List.setIfInBounds_toArray,List.set_cons_zero,List.set_cons_succ]
 refine ⟨?_,?_,?_,?_,?_,?_,?_,?_,?_,?_,?_,?_,?_⟩
 · intro w' hg _
   apply ol
   obtain ⟨y0,y1,y2,y3,y4,y5,y6,y7,y8⟩:=(v1.grown ((Below.refl _ _).drew)).grown hg
   go_simp
   exact gl
 · intros;apply ol;go_simp;exact gl
 · intro w' hg _
   apply ol
   obtain ⟨y0,y1,y2,y3,y4,y5,y6,y7,y8⟩:=(v1.grown ((Below.refl _ _).drew)).grown hg
   go_simp
   exact gl
 · intros;apply ol;go_simp;exact gl
 · intro w' hg _
   apply ol
   have z:=(x1.drew.grown hg).at0 0 rfl
   go_simp
   exact gl
 · intro w' hg _
   apply ol
   go_simp
   refine (lslot_any _ _ _ _ _ _ _ (x : Int) _ hG.arena (by omega) (by omega)).mono ?_
   rintro e w'' ⟨rfl,b9⟩
   exact ⟨_,rfl,b9,congrArg (Value.int .i64) (by omega)⟩
 · intros;apply ol;go_simp;exact gl
 · intros;apply ol;go_simp;exact gl
 · intros;apply ol;go_simp;exact gl
 · intro w' hg _
   apply ol
   have z:=(i1.drew.grown hg).c_se
   go_simp
   exact gl
 · intro w' hg _
   apply ol
   have z0:=(q1.drew.grown hg).at0 0 rfl
   have z1:=(q1.drew.grown hg).at0 1 rfl
   have z2:=(q1.drew.grown hg).at0 2 rfl
   have z3:=(q1.drew.grown hg).at0 3 rfl
   go_simp
   exact gl
 · intro w' hg _
   apply ol
   go_simp
   refine (ps _).mono ?_
   rintro e w'' ⟨rfl,b9⟩
   exact ⟨_,rfl,b9,rfl⟩
 intro w7 hg _
 have m7:=m1.drew.below hg
 have i7:=i1.drew.grown hg
 have o7 : Only (L.and b) w w7:=o1.drew.trans (Only.ofGrown hg)
 clear hg m1 i1 v1 x1 q1 o1
 go_wp2_with (go_at_call 81;refine (ecas_in m7 _ _ _ _ _ _ _ _ (6 + t + x * 2) hn _ _).mono ?_;rintro e w8 ⟨rfl,m8,o8⟩;have i8:=i7.only o8 hb;have k0:=i8.c_nx;have kf:=i8.fz)
 go_end0
 exact ⟨rfl,_,_,_,m8.setIn hb _ _,(o7.trans (o8.andL (b:=b))).set _ _,i8.set_nx 0,Same.refl.set (by omega) _,rfl,rfl⟩
set_option maxHeartbeats 1000000 in
theorem alay_no {w : World} {L : Loc} {s : Mm} {b o : Nat} {T : TypeId} {cs : Array Value} {t n k m : Nat} {g p r : Int} {a : CV} (h : MemAt w L s) (hb : ¬ L.has b) (hi : AcAt w b o T cs a) (who : Int) {st : Int} {A : Nat} {Gs V : Int} (hs : SlotIs a.se st A Gs V) {j : Nat} (hix : a.ix = j) (j1 : j <= 16) (hn : (A + 1 + j) < s.n) {vl : Int} (hvl : a.vl = vl) (fv : Fit vl) (hd : decide (s.wd (A + 1 + j) = a.ce) = false)  :
 Calls Tryz.prog 93 #[.pointer (some ⟨b,o,none⟩),.agg #[.int .i64 t,.int .i64 n,.int .i64 k,.int .i64 m,.int .i64 g,.int .i64 p,.int .i64 r,.pointer (some ⟨L.p,0,none⟩),.int .i64 who]] w fun e w'=>e = .returned (.tuple #[]) /\ Cact L b o T cs w w' (fun s' a'=>s' = ((s.by who).cas (A + 1 + j) a.ce (packX vl false 0)) /\ a' = { a with nx:=0 }):=by
 have HD : Hid (decide (s.wd (A + 1 + j) = a.ce) = false):=hd
 have HX : Hid (a.ix = j):=hix
 have sw:=hs.call
 have ab : (A : Int) <= 1048575:=by have:=hs.ad;omega
 have pc:=fun w=>putCell_any vl false 0 w fv ⟨by decide,by decide⟩
 clear hd hs hix
 have hbv : ¬ L.has w.heap.size:=fun hh=>by have:=h.lt _ hh;omega
 have hbb : ¬ w.heap.size = b:=fun hh=>by have:=hi.lt;omega
 have i0:=hi.grown (grow1 _ (.cells #[.int .i64 t,.int .i64 n,.int .i64 k,.int .i64 m,.int .i64 g,.int .i64 p,.int .i64 r,.pointer (some ⟨L.p,0,none⟩),.int .i64 who] 27))
 have k3:=i0.c_vl
 rw [hvl] at k3
 go_enter Tryz.func93,Tryz.ntmps93
 go_wp2_with (go_at_call 83;refine (pc _).mono ?_;rintro e w3 ⟨rfl,b3⟩)
 refine wp_over (fun W=>MemAt W L s /\ AcAt W b o T cs a /\ BoxV W w.heap.size t n k m g p r L.p who /\ Only (L.and b) w W) ⟨(h.alloc _).below b3,i0.grown b3,BoxV.new.grown b3,((Only.refl _ _).alloc _).trans (Only.ofGrown b3)⟩ ?_
 clear b3 i0 k3 pc
 rintro W ⟨m1,i1,v1,o1⟩
 refine wp_region_rely_tail Grown 13 [.val (.agg #[.int .i64 t,.int .i64 n,.int .i64 k,.int .i64 m,.int .i64 g,.int .i64 p,.int .i64 r,.pointer (some ⟨L.p,0,none⟩),.int .i64 who]),.val (.pointer (some ⟨b,o,none⟩)),.val (.pointer (some ⟨b,o,none⟩)),.val (.pointer (some ⟨b,o,none⟩)),.val (.pointer (some ⟨b,o + 7,none⟩)),.val (.int .u64 a.se),.val (.agg #[.int .i64 st,.int .i64 A,.int .i64 Gs,.int .i64 V]),.val (.int .i64 (((A + 1 + j) : Nat) : Int)),.val (.pointer (some ⟨b,o,none⟩)),.val (.pointer (some ⟨b,o,none⟩)),.val (.pointer (some ⟨b,o + 10,none⟩)),.val (.int .u64 a.ce),.val (.int .u64 (packX vl false 0))] (by kernel_rfl) Grown.refl Grown.trans (by decide) (by kernel_rfl) (by kernel_rfl) (by kernel_rfl) (by kernel_rfl) (by kernel_rfl) (by kernel_rfl) ?_
 simp only [List.take_succ_cons,List.take_zero,relyAll,Act.put,List.setIfInBounds_toArray,List.set_cons_zero,List.set_cons_succ]
 refine ⟨?_,?_,?_,?_,?_,?_,?_,?_,?_,?_,?_,?_,?_,?_⟩
 · intro w' hg _
   apply ol
   obtain ⟨y0,y1,y2,y3,y4,y5,y6,y7,y8⟩:=(v1.grown ((Below.refl _ _).drew)).grown hg
   go_simp
   exact gl
 · intros;apply ol;go_simp;exact gl
 · intros;apply ol;go_simp;exact gl
 · intros;apply ol;go_simp;exact gl
 · intros;apply ol;go_simp;exact gl
 · intro w' hg _
   apply ol
   have z:=(i1.drew.grown hg).c_se
   go_simp
   exact gl
 · intro w' hg _
   apply ol
   go_simp
   refine (sw _).mono ?_
   rintro e w'' ⟨rfl,b9⟩
   exact ⟨_,rfl,b9,rfl⟩
 · intro w' hg _
   apply ol
   go_simp
   refine (aplace_any st A Gs V j (by have z:=(i1.drew.grown hg).c_ix;rwa [HX.out] at z) (by omega) (by omega) (by omega) (by omega)).mono ?_
   rintro e w'' ⟨rfl,b9⟩
   exact ⟨_,rfl,b9,congrArg (Value.int .i64) (by omega)⟩
 · intros;apply ol;go_simp;exact gl
 · intros;apply ol;go_simp;exact gl
 · intros;apply ol;go_simp;exact gl
 · intro w' hg _
   apply ol
   have z:=(i1.drew.grown hg).c_ce
   go_simp
   exact gl
 · intros;apply ol;go_simp;exact gl
 intro w5 hg _
 have m5:=m1.drew.below hg
 have i5:=i1.drew.grown hg
 have v5:=(v1.grown ((Below.refl _ _).drew)).grown hg
 have o5 : Only (L.and b) w w5:=o1.drew.trans (Only.ofGrown hg)
 clear hg m1 i1 v1 o1 sw
 go_wp2_with (go_at_call 81;refine (ecas_in m5 _ _ _ _ _ _ _ _ (A + 1 + j) hn _ _).mono ?_;rintro e w6 ⟨rfl,m6,o6⟩;rw [HD.out];have i6:=i5.only o6 hb;have k0:=i6.c_nx;have kf:=i6.fz)
 refine bodyPost_ret (results_none rfl _ _ _) rfl ?_
 exact ⟨rfl,_,_,_,m6.setIn hb _ _,(o5.trans (o6.andL (b:=b))).set _ _,i6.set_nx 0,Same.refl.set (by omega) _,rfl,rfl⟩
set_option maxHeartbeats 1000000 in
theorem alay_yes {w : World} {L : Loc} {s : Mm} {b o : Nat} {T : TypeId} {cs : Array Value} {t n k m : Nat} {g p r : Int} {a : CV} (h : MemAt w L s) (hb : ¬ L.has b) (hi : AcAt w b o T cs a) (who : Int) {st : Int} {A : Nat} {Gs V : Int} (hs : SlotIs a.se st A Gs V) {j : Nat} (hix : a.ix = j) (j1 : j <= 16) (hn : (A + 1 + j) < s.n) {vl : Int} (hvl : a.vl = vl) (fv : Fit vl) (hd : decide (s.wd (A + 1 + j) = a.ce) = true) {z vr : Int} {fz : Bool} (hc : CellIs a.ce z fz vr) {σ : Nat} (hσ : wrap64 (s.steps + 1) = σ) :
 Calls Tryz.prog 93 #[.pointer (some ⟨b,o,none⟩),.agg #[.int .i64 t,.int .i64 n,.int .i64 k,.int .i64 m,.int .i64 g,.int .i64 p,.int .i64 r,.pointer (some ⟨L.p,0,none⟩),.int .i64 who]] w fun e w'=>e = .returned (.tuple #[]) /\ Cact L b o T cs w w' (fun s' a'=>s' = ((s.by who).cas (A + 1 + j) a.ce (packX vl false 0)) /\ a' = { a with nx:=7,E:=0,H:=0,V:=z,St:=σ }):=by
 have HD : Hid (decide (s.wd (A + 1 + j) = a.ce) = true):=hd
 have HX : Hid (a.ix = j):=hix
 have sw:=hs.call
 have ab : (A : Int) <= 1048575:=by have:=hs.ad;omega
 have pc:=fun w=>putCell_any vl false 0 w fv ⟨by decide,by decide⟩
 have cc:=hc.call
 have HS : Hid ((((s.by who).cas (A + 1 + j) a.ce (packX vl false 0))).steps = σ):=by
  unfold Hid
  rw [<- hσ]
  show (Mm.cas _ _ _ _).steps = _
  unfold Mm.cas
  split <;> rfl
 have ff : ∀ (a1 a2 a3 : Value) (w : World),(Instr.field 119 (.agg #[a1,a2,a3]) 0).run Tryz.prog w = .ok a1 w:=fun a1 a2 a3 w=>by kernel_rfl
 clear hc hσ
 clear hd hs hix
 have hbv : ¬ L.has w.heap.size:=fun hh=>by have:=h.lt _ hh;omega
 have hbb : ¬ w.heap.size = b:=fun hh=>by have:=hi.lt;omega
 have i0:=hi.grown (grow1 _ (.cells #[.int .i64 t,.int .i64 n,.int .i64 k,.int .i64 m,.int .i64 g,.int .i64 p,.int .i64 r,.pointer (some ⟨L.p,0,none⟩),.int .i64 who] 27))
 have k3:=i0.c_vl
 rw [hvl] at k3
 go_enter Tryz.func93,Tryz.ntmps93
 go_wp2_with (go_at_call 83;refine (pc _).mono ?_;rintro e w3 ⟨rfl,b3⟩)
 refine wp_over (fun W=>MemAt W L s /\ AcAt W b o T cs a /\ BoxV W w.heap.size t n k m g p r L.p who /\ Only (L.and b) w W) ⟨(h.alloc _).below b3,i0.grown b3,BoxV.new.grown b3,((Only.refl _ _).alloc _).trans (Only.ofGrown b3)⟩ ?_
 clear b3 i0 k3 pc
 rintro W ⟨m1,i1,v1,o1⟩
 refine wp_region_rely_tail Grown 13 [.val (.agg #[.int .i64 t,.int .i64 n,.int .i64 k,.int .i64 m,.int .i64 g,.int .i64 p,.int .i64 r,.pointer (some ⟨L.p,0,none⟩),.int .i64 who]),.val (.pointer (some ⟨b,o,none⟩)),.val (.pointer (some ⟨b,o,none⟩)),.val (.pointer (some ⟨b,o,none⟩)),.val (.pointer (some ⟨b,o + 7,none⟩)),.val (.int .u64 a.se),.val (.agg #[.int .i64 st,.int .i64 A,.int .i64 Gs,.int .i64 V]),.val (.int .i64 (((A + 1 + j) : Nat) : Int)),.val (.pointer (some ⟨b,o,none⟩)),.val (.pointer (some ⟨b,o,none⟩)),.val (.pointer (some ⟨b,o + 10,none⟩)),.val (.int .u64 a.ce),.val (.int .u64 (packX vl false 0))] (by kernel_rfl) Grown.refl Grown.trans (by decide) (by kernel_rfl) (by kernel_rfl) (by kernel_rfl) (by kernel_rfl) (by kernel_rfl) (by kernel_rfl) ?_
 simp only [List.take_succ_cons,List.take_zero,relyAll,Act.put,List.setIfInBounds_toArray,List.set_cons_zero,List.set_cons_succ]
 refine ⟨?_,?_,?_,?_,?_,?_,?_,?_,?_,?_,?_,?_,?_,?_⟩
 · intro w' hg _
   apply ol
   obtain ⟨y0,y1,y2,y3,y4,y5,y6,y7,y8⟩:=(v1.grown ((Below.refl _ _).drew)).grown hg
   go_simp
   exact gl
 · intros;apply ol;go_simp;exact gl
 · intros;apply ol;go_simp;exact gl
 · intros;apply ol;go_simp;exact gl
 · intros;apply ol;go_simp;exact gl
 · intro w' hg _
   apply ol
   have z:=(i1.drew.grown hg).c_se
   go_simp
   exact gl
 · intro w' hg _
   apply ol
   go_simp
   refine (sw _).mono ?_
   rintro e w'' ⟨rfl,b9⟩
   exact ⟨_,rfl,b9,rfl⟩
 · intro w' hg _
   apply ol
   go_simp
   refine (aplace_any st A Gs V j (by have z:=(i1.drew.grown hg).c_ix;rwa [HX.out] at z) (by omega) (by omega) (by omega) (by omega)).mono ?_
   rintro e w'' ⟨rfl,b9⟩
   exact ⟨_,rfl,b9,congrArg (Value.int .i64) (by omega)⟩
 · intros;apply ol;go_simp;exact gl
 · intros;apply ol;go_simp;exact gl
 · intros;apply ol;go_simp;exact gl
 · intro w' hg _
   apply ol
   have z:=(i1.drew.grown hg).c_ce
   go_simp
   exact gl
 · intros;apply ol;go_simp;exact gl
 intro w5 hg _
 have m5:=m1.drew.below hg
 have i5:=i1.drew.grown hg
 have v5:=(v1.grown ((Below.refl _ _).drew)).grown hg
 have o5 : Only (L.and b) w w5:=o1.drew.trans (Only.ofGrown hg)
 clear hg m1 i1 v1 o1 sw
 go_wp2_with (go_at_call 81;refine (ecas_in m5 _ _ _ _ _ _ _ _ (A + 1 + j) hn _ _).mono ?_;rintro e w6 ⟨rfl,m6,o6⟩;rw [HD.out];have i6:=i5.only o6 hb;have k0:=i6.c_nx;have kf:=i6.fz)
 refine wp_over (fun W=>MemAt W L ((s.by who).cas (A + 1 + j) a.ce (packX vl false 0)) /\ AcAt W b o T cs a /\ BoxV W w.heap.size t n k m g p r L.p who /\ Only (L.and b) w W) ⟨m6,i6,v5.only o6 hbv,o5.trans (o6.andL (b:=b))⟩ ?_
 clear m5 i5 v5 o5 m6 i6 o6 k0 kf
 rintro W ⟨m1,i1,v1,o1⟩
 refine wp_region_rely_tail Grown 9 [.val (.pointer (some ⟨b,o,none⟩)),.val (.pointer (some ⟨b,o,none⟩)),.val (.pointer (some ⟨b,o,none⟩)),.val (.pointer (some ⟨b,o + 10,none⟩)),.val (.int .u64 a.ce),.val (.agg #[.int .i64 z,.bool fz,.int .i64 vr]),.val (.int .i64 z),.val (.agg #[.int .i64 t,.int .i64 n,.int .i64 k,.int .i64 m,.int .i64 g,.int .i64 p,.int .i64 r,.pointer (some ⟨L.p,0,none⟩),.int .i64 who]),.val (.int .i64 (σ : Nat))] (by kernel_rfl) Grown.refl Grown.trans (by decide) (by kernel_rfl) (by kernel_rfl) (by kernel_rfl) (by kernel_rfl) (by kernel_rfl) (by kernel_rfl) ?_
 simp only [List.take_succ_cons,List.take_zero,relyAll,Act.put,List.setIfInBounds_toArray,List.set_cons_zero,List.set_cons_succ]
 refine ⟨?_,?_,?_,?_,?_,?_,?_,?_,?_,?_⟩
 · intros;apply ol;go_simp;exact gl
 · intros;apply ol;go_simp;exact gl
 · intros;apply ol;go_simp;exact gl
 · intros;apply ol;go_simp;exact gl
 · intro w' hg _
   apply ol
   have z:=(i1.drew.grown hg).c_ce
   go_simp
   exact gl
 · intro w' hg _
   apply ol
   go_simp
   refine (cc _).mono ?_
   rintro e w'' ⟨rfl,b9⟩
   exact ⟨_,rfl,b9,rfl⟩
 · intros;apply ol;go_simp;exact gl
 · intro w' hg _
   apply ol
   obtain ⟨y0,y1,y2,y3,y4,y5,y6,y7,y8⟩:=(v1.grown ((Below.refl _ _).drew)).grown hg
   go_simp
   exact gl
 · intro w' hg _
   apply ol
   go_simp
   refine (now_any (m1.drew.below hg) _ _ _ _ _ _ _ _ σ HS.out).mono ?_
   rintro e w'' ⟨rfl,b9⟩
   exact ⟨_,rfl,b9,rfl⟩
 intro w7 hg _
 have m7:=m1.drew.below hg
 have i7:=i1.drew.grown hg
 have o7 : Only (L.and b) w w7:=o1.drew.trans (Only.ofGrown hg)
 clear hg m1 i1 v1 o1
 go_wp2_with (go_at_call 54;refine (aend m7 hb i7 0 z σ).mono ?_;rintro e w9 ⟨rfl,s9,cs9,a9,m9,o9,i9,q9,rfl,rfl⟩)
 go_end0
 exact ⟨rfl,_,_,_,m9,o7.trans o9,i9,q9,rfl,rfl⟩
end Go.Proofs.YtkgpffcnimmdkaaGreat

namespace Go.Proofs.YtkgpffcnimmdkaaGreat
open Go.RowKit
set_option maxRecDepth 20000
set_option maxHeartbeats 400000 in
theorem adoes_see {w : World} {L : Loc} {s : Mm} {b o : Nat} {T : TypeId} {cs : Array Value} {t n k m : Nat} {g p r : Int} {a : CV} (h : MemAt w L s) (hi : AcAt w b o T cs a) (who : Int) (x : Nat) (G : Int) (hnx : a.nx = 0) (X : Mm -> CV -> Prop)
 (hc : ∀ w1 : World,MemAt w1 L s -> AcAt w1 b o T cs a -> Calls Tryz.prog 87 #[.pointer (some ⟨b,o,none⟩),.agg #[.int .i64 t,.int .i64 n,.int .i64 k,.int .i64 m,.int .i64 g,.int .i64 p,.int .i64 r,.pointer (some ⟨L.p,0,none⟩),.int .i64 who],.agg #[.int .i64 x,.int .i64 G]] w1 fun e w'=>e = .returned (.tuple #[]) /\ Cact L b o T cs w1 w' X) :
 Calls Tryz.prog 57 #[.pointer (some ⟨b,o,none⟩),.agg #[.int .i64 t,.int .i64 n,.int .i64 k,.int .i64 m,.int .i64 g,.int .i64 p,.int .i64 r,.pointer (some ⟨L.p,0,none⟩),.int .i64 who],.agg #[.int .i64 x,.int .i64 G]] w fun e w'=>e = .returned (.tuple #[]) /\ Cact L b o T cs w w' X:=by
 have m0:=(h.alloc (.cells #[.int .i64 t,.int .i64 n,.int .i64 k,.int .i64 m,.int .i64 g,.int .i64 p,.int .i64 r,.pointer (some ⟨L.p,0,none⟩),.int .i64 who] 27)).alloc (.cells #[.int .i64 x,.int .i64 G] 74)
 have i0:=(hi.grown (grow1 _ (.cells #[.int .i64 t,.int .i64 n,.int .i64 k,.int .i64 m,.int .i64 g,.int .i64 p,.int .i64 r,.pointer (some ⟨L.p,0,none⟩),.int .i64 who] 27))).grown (grow1 _ (.cells #[.int .i64 x,.int .i64 G] 74))
 have o0 : Only (L.and b) w ((w.alloc (.cells #[.int .i64 t,.int .i64 n,.int .i64 k,.int .i64 m,.int .i64 g,.int .i64 p,.int .i64 r,.pointer (some ⟨L.p,0,none⟩),.int .i64 who] 27)).alloc (.cells #[.int .i64 x,.int .i64 G] 74)):=((Only.refl _ _).alloc _).alloc _
 have v0 : BoxV ((w.alloc (.cells #[.int .i64 t,.int .i64 n,.int .i64 k,.int .i64 m,.int .i64 g,.int .i64 p,.int .i64 r,.pointer (some ⟨L.p,0,none⟩),.int .i64 who] 27)).alloc (.cells #[.int .i64 x,.int .i64 G] 74)) w.heap.size t n k m g p r L.p who:=BoxV.newB _
 have x0:=At.new2 w (.cells #[.int .i64 t,.int .i64 n,.int .i64 k,.int .i64 m,.int .i64 g,.int .i64 p,.int .i64 r,.pointer (some ⟨L.p,0,none⟩),.int .i64 who] 27) 74 [.int .i64 (x : Nat),.int .i64 G]
 have k0:=i0.c_nx
 rw [hnx] at k0
 obtain ⟨y0,y1,y2,y3,y4,y5,y6,y7,y8⟩:=id v0
 have u0:=x0.at0 0 rfl
 have u1:=x0.at0 1 rfl
 go_enter Tryz.func57,Tryz.ntmps57
 go_wp2_with (go_at_call 87;refine (hc _ m0 i0).mono ?_;rintro e w3 ⟨rfl,s3,cs3,a3,m3,o3,i3,q3,p3⟩)
 go_end0
 exact ⟨rfl,s3,cs3,a3,m3,o0.trans o3,i3,q3,p3⟩
set_option maxHeartbeats 400000 in
theorem adoes_ask {w : World} {L : Loc} {s : Mm} {b o : Nat} {T : TypeId} {cs : Array Value} {t n k m : Nat} {g p r : Int} {a : CV} (h : MemAt w L s) (hi : AcAt w b o T cs a) (who : Int) (x : Nat) (G : Int) (hnx : a.nx = 1) (X : Mm -> CV -> Prop)
 (hc : ∀ w1 : World,MemAt w1 L s -> AcAt w1 b o T cs a -> Calls Tryz.prog 88 #[.pointer (some ⟨b,o,none⟩),.agg #[.int .i64 t,.int .i64 n,.int .i64 k,.int .i64 m,.int .i64 g,.int .i64 p,.int .i64 r,.pointer (some ⟨L.p,0,none⟩),.int .i64 who]] w1 fun e w'=>e = .returned (.tuple #[]) /\ Cact L b o T cs w1 w' X) :
 Calls Tryz.prog 57 #[.pointer (some ⟨b,o,none⟩),.agg #[.int .i64 t,.int .i64 n,.int .i64 k,.int .i64 m,.int .i64 g,.int .i64 p,.int .i64 r,.pointer (some ⟨L.p,0,none⟩),.int .i64 who],.agg #[.int .i64 x,.int .i64 G]] w fun e w'=>e = .returned (.tuple #[]) /\ Cact L b o T cs w w' X:=by
 have m0:=(h.alloc (.cells #[.int .i64 t,.int .i64 n,.int .i64 k,.int .i64 m,.int .i64 g,.int .i64 p,.int .i64 r,.pointer (some ⟨L.p,0,none⟩),.int .i64 who] 27)).alloc (.cells #[.int .i64 x,.int .i64 G] 74)
 have i0:=(hi.grown (grow1 _ (.cells #[.int .i64 t,.int .i64 n,.int .i64 k,.int .i64 m,.int .i64 g,.int .i64 p,.int .i64 r,.pointer (some ⟨L.p,0,none⟩),.int .i64 who] 27))).grown (grow1 _ (.cells #[.int .i64 x,.int .i64 G] 74))
 have o0 : Only (L.and b) w ((w.alloc (.cells #[.int .i64 t,.int .i64 n,.int .i64 k,.int .i64 m,.int .i64 g,.int .i64 p,.int .i64 r,.pointer (some ⟨L.p,0,none⟩),.int .i64 who] 27)).alloc (.cells #[.int .i64 x,.int .i64 G] 74)):=((Only.refl _ _).alloc _).alloc _
 have v0 : BoxV ((w.alloc (.cells #[.int .i64 t,.int .i64 n,.int .i64 k,.int .i64 m,.int .i64 g,.int .i64 p,.int .i64 r,.pointer (some ⟨L.p,0,none⟩),.int .i64 who] 27)).alloc (.cells #[.int .i64 x,.int .i64 G] 74)) w.heap.size t n k m g p r L.p who:=BoxV.newB _
 have x0:=At.new2 w (.cells #[.int .i64 t,.int .i64 n,.int .i64 k,.int .i64 m,.int .i64 g,.int .i64 p,.int .i64 r,.pointer (some ⟨L.p,0,none⟩),.int .i64 who] 27) 74 [.int .i64 (x : Nat),.int .i64 G]
 have k0:=i0.c_nx
 rw [hnx] at k0
 obtain ⟨y0,y1,y2,y3,y4,y5,y6,y7,y8⟩:=id v0
 have u0:=x0.at0 0 rfl
 have u1:=x0.at0 1 rfl
 go_enter Tryz.func57,Tryz.ntmps57
 go_wp2_with (go_at_call 88;refine (hc _ m0 i0).mono ?_;rintro e w3 ⟨rfl,s3,cs3,a3,m3,o3,i3,q3,p3⟩)
 go_end0
 exact ⟨rfl,s3,cs3,a3,m3,o0.trans o3,i3,q3,p3⟩
set_option maxHeartbeats 400000 in
theorem adoes_load {w : World} {L : Loc} {s : Mm} {b o : Nat} {T : TypeId} {cs : Array Value} {t n k m : Nat} {g p r : Int} {a : CV} (h : MemAt w L s) (hi : AcAt w b o T cs a) (who : Int) (x : Nat) (G : Int) (hnx : a.nx = 2) (X : Mm -> CV -> Prop)
 (hc : ∀ w1 : World,MemAt w1 L s -> AcAt w1 b o T cs a -> Calls Tryz.prog 89 #[.pointer (some ⟨b,o,none⟩),.agg #[.int .i64 t,.int .i64 n,.int .i64 k,.int .i64 m,.int .i64 g,.int .i64 p,.int .i64 r,.pointer (some ⟨L.p,0,none⟩),.int .i64 who],.agg #[.int .i64 x,.int .i64 G]] w1 fun e w'=>e = .returned (.tuple #[]) /\ Cact L b o T cs w1 w' X) :
 Calls Tryz.prog 57 #[.pointer (some ⟨b,o,none⟩),.agg #[.int .i64 t,.int .i64 n,.int .i64 k,.int .i64 m,.int .i64 g,.int .i64 p,.int .i64 r,.pointer (some ⟨L.p,0,none⟩),.int .i64 who],.agg #[.int .i64 x,.int .i64 G]] w fun e w'=>e = .returned (.tuple #[]) /\ Cact L b o T cs w w' X:=by
 have m0:=(h.alloc (.cells #[.int .i64 t,.int .i64 n,.int .i64 k,.int .i64 m,.int .i64 g,.int .i64 p,.int .i64 r,.pointer (some ⟨L.p,0,none⟩),.int .i64 who] 27)).alloc (.cells #[.int .i64 x,.int .i64 G] 74)
 have i0:=(hi.grown (grow1 _ (.cells #[.int .i64 t,.int .i64 n,.int .i64 k,.int .i64 m,.int .i64 g,.int .i64 p,.int .i64 r,.pointer (some ⟨L.p,0,none⟩),.int .i64 who] 27))).grown (grow1 _ (.cells #[.int .i64 x,.int .i64 G] 74))
 have o0 : Only (L.and b) w ((w.alloc (.cells #[.int .i64 t,.int .i64 n,.int .i64 k,.int .i64 m,.int .i64 g,.int .i64 p,.int .i64 r,.pointer (some ⟨L.p,0,none⟩),.int .i64 who] 27)).alloc (.cells #[.int .i64 x,.int .i64 G] 74)):=((Only.refl _ _).alloc _).alloc _
 have v0 : BoxV ((w.alloc (.cells #[.int .i64 t,.int .i64 n,.int .i64 k,.int .i64 m,.int .i64 g,.int .i64 p,.int .i64 r,.pointer (some ⟨L.p,0,none⟩),.int .i64 who] 27)).alloc (.cells #[.int .i64 x,.int .i64 G] 74)) w.heap.size t n k m g p r L.p who:=BoxV.newB _
 have x0:=At.new2 w (.cells #[.int .i64 t,.int .i64 n,.int .i64 k,.int .i64 m,.int .i64 g,.int .i64 p,.int .i64 r,.pointer (some ⟨L.p,0,none⟩),.int .i64 who] 27) 74 [.int .i64 (x : Nat),.int .i64 G]
 have k0:=i0.c_nx
 rw [hnx] at k0
 obtain ⟨y0,y1,y2,y3,y4,y5,y6,y7,y8⟩:=id v0
 have u0:=x0.at0 0 rfl
 have u1:=x0.at0 1 rfl
 go_enter Tryz.func57,Tryz.ntmps57
 go_wp2_with (go_at_call 89;refine (hc _ m0 i0).mono ?_;rintro e w3 ⟨rfl,s3,cs3,a3,m3,o3,i3,q3,p3⟩)
 go_end0
 exact ⟨rfl,s3,cs3,a3,m3,o0.trans o3,i3,q3,p3⟩
set_option maxHeartbeats 400000 in
theorem adoes_check {w : World} {L : Loc} {s : Mm} {b o : Nat} {T : TypeId} {cs : Array Value} {t n k m : Nat} {g p r : Int} {a : CV} (h : MemAt w L s) (hi : AcAt w b o T cs a) (who : Int) (x : Nat) (G : Int) (hnx : a.nx = 3) (X : Mm -> CV -> Prop)
 (hc : ∀ w1 : World,MemAt w1 L s -> AcAt w1 b o T cs a -> Calls Tryz.prog 90 #[.pointer (some ⟨b,o,none⟩),.agg #[.int .i64 t,.int .i64 n,.int .i64 k,.int .i64 m,.int .i64 g,.int .i64 p,.int .i64 r,.pointer (some ⟨L.p,0,none⟩),.int .i64 who],.agg #[.int .i64 x,.int .i64 G]] w1 fun e w'=>e = .returned (.tuple #[]) /\ Cact L b o T cs w1 w' X) :
 Calls Tryz.prog 57 #[.pointer (some ⟨b,o,none⟩),.agg #[.int .i64 t,.int .i64 n,.int .i64 k,.int .i64 m,.int .i64 g,.int .i64 p,.int .i64 r,.pointer (some ⟨L.p,0,none⟩),.int .i64 who],.agg #[.int .i64 x,.int .i64 G]] w fun e w'=>e = .returned (.tuple #[]) /\ Cact L b o T cs w w' X:=by
 have m0:=(h.alloc (.cells #[.int .i64 t,.int .i64 n,.int .i64 k,.int .i64 m,.int .i64 g,.int .i64 p,.int .i64 r,.pointer (some ⟨L.p,0,none⟩),.int .i64 who] 27)).alloc (.cells #[.int .i64 x,.int .i64 G] 74)
 have i0:=(hi.grown (grow1 _ (.cells #[.int .i64 t,.int .i64 n,.int .i64 k,.int .i64 m,.int .i64 g,.int .i64 p,.int .i64 r,.pointer (some ⟨L.p,0,none⟩),.int .i64 who] 27))).grown (grow1 _ (.cells #[.int .i64 x,.int .i64 G] 74))
 have o0 : Only (L.and b) w ((w.alloc (.cells #[.int .i64 t,.int .i64 n,.int .i64 k,.int .i64 m,.int .i64 g,.int .i64 p,.int .i64 r,.pointer (some ⟨L.p,0,none⟩),.int .i64 who] 27)).alloc (.cells #[.int .i64 x,.int .i64 G] 74)):=((Only.refl _ _).alloc _).alloc _
 have v0 : BoxV ((w.alloc (.cells #[.int .i64 t,.int .i64 n,.int .i64 k,.int .i64 m,.int .i64 g,.int .i64 p,.int .i64 r,.pointer (some ⟨L.p,0,none⟩),.int .i64 who] 27)).alloc (.cells #[.int .i64 x,.int .i64 G] 74)) w.heap.size t n k m g p r L.p who:=BoxV.newB _
 have x0:=At.new2 w (.cells #[.int .i64 t,.int .i64 n,.int .i64 k,.int .i64 m,.int .i64 g,.int .i64 p,.int .i64 r,.pointer (some ⟨L.p,0,none⟩),.int .i64 who] 27) 74 [.int .i64 (x : Nat),.int .i64 G]
 have k0:=i0.c_nx
 rw [hnx] at k0
 obtain ⟨y0,y1,y2,y3,y4,y5,y6,y7,y8⟩:=id v0
 have u0:=x0.at0 0 rfl
 have u1:=x0.at0 1 rfl
 go_enter Tryz.func57,Tryz.ntmps57
 go_wp2_with (go_at_call 90;refine (hc _ m0 i0).mono ?_;rintro e w3 ⟨rfl,s3,cs3,a3,m3,o3,i3,q3,p3⟩)
 go_end0
 exact ⟨rfl,s3,cs3,a3,m3,o0.trans o3,i3,q3,p3⟩
set_option maxHeartbeats 400000 in
theorem adoes_stop {w : World} {L : Loc} {s : Mm} {b o : Nat} {T : TypeId} {cs : Array Value} {t n k m : Nat} {g p r : Int} {a : CV} (h : MemAt w L s) (hi : AcAt w b o T cs a) (who : Int) (x : Nat) (G : Int) (hnx : a.nx = 5) (X : Mm -> CV -> Prop)
 (hc : ∀ w1 : World,MemAt w1 L s -> AcAt w1 b o T cs a -> Calls Tryz.prog 92 #[.pointer (some ⟨b,o,none⟩),.agg #[.int .i64 t,.int .i64 n,.int .i64 k,.int .i64 m,.int .i64 g,.int .i64 p,.int .i64 r,.pointer (some ⟨L.p,0,none⟩),.int .i64 who],.agg #[.int .i64 x,.int .i64 G]] w1 fun e w'=>e = .returned (.tuple #[]) /\ Cact L b o T cs w1 w' X) :
 Calls Tryz.prog 57 #[.pointer (some ⟨b,o,none⟩),.agg #[.int .i64 t,.int .i64 n,.int .i64 k,.int .i64 m,.int .i64 g,.int .i64 p,.int .i64 r,.pointer (some ⟨L.p,0,none⟩),.int .i64 who],.agg #[.int .i64 x,.int .i64 G]] w fun e w'=>e = .returned (.tuple #[]) /\ Cact L b o T cs w w' X:=by
 have m0:=(h.alloc (.cells #[.int .i64 t,.int .i64 n,.int .i64 k,.int .i64 m,.int .i64 g,.int .i64 p,.int .i64 r,.pointer (some ⟨L.p,0,none⟩),.int .i64 who] 27)).alloc (.cells #[.int .i64 x,.int .i64 G] 74)
 have i0:=(hi.grown (grow1 _ (.cells #[.int .i64 t,.int .i64 n,.int .i64 k,.int .i64 m,.int .i64 g,.int .i64 p,.int .i64 r,.pointer (some ⟨L.p,0,none⟩),.int .i64 who] 27))).grown (grow1 _ (.cells #[.int .i64 x,.int .i64 G] 74))
 have o0 : Only (L.and b) w ((w.alloc (.cells #[.int .i64 t,.int .i64 n,.int .i64 k,.int .i64 m,.int .i64 g,.int .i64 p,.int .i64 r,.pointer (some ⟨L.p,0,none⟩),.int .i64 who] 27)).alloc (.cells #[.int .i64 x,.int .i64 G] 74)):=((Only.refl _ _).alloc _).alloc _
 have v0 : BoxV ((w.alloc (.cells #[.int .i64 t,.int .i64 n,.int .i64 k,.int .i64 m,.int .i64 g,.int .i64 p,.int .i64 r,.pointer (some ⟨L.p,0,none⟩),.int .i64 who] 27)).alloc (.cells #[.int .i64 x,.int .i64 G] 74)) w.heap.size t n k m g p r L.p who:=BoxV.newB _
 have x0:=At.new2 w (.cells #[.int .i64 t,.int .i64 n,.int .i64 k,.int .i64 m,.int .i64 g,.int .i64 p,.int .i64 r,.pointer (some ⟨L.p,0,none⟩),.int .i64 who] 27) 74 [.int .i64 (x : Nat),.int .i64 G]
 have k0:=i0.c_nx
 rw [hnx] at k0
 obtain ⟨y0,y1,y2,y3,y4,y5,y6,y7,y8⟩:=id v0
 have u0:=x0.at0 0 rfl
 have u1:=x0.at0 1 rfl
 go_enter Tryz.func57,Tryz.ntmps57
 go_wp2_with (go_at_call 92;refine (hc _ m0 i0).mono ?_;rintro e w3 ⟨rfl,s3,cs3,a3,m3,o3,i3,q3,p3⟩)
 go_end0
 exact ⟨rfl,s3,cs3,a3,m3,o0.trans o3,i3,q3,p3⟩
set_option maxHeartbeats 400000 in
theorem adoes_lay {w : World} {L : Loc} {s : Mm} {b o : Nat} {T : TypeId} {cs : Array Value} {t n k m : Nat} {g p r : Int} {a : CV} (h : MemAt w L s) (hi : AcAt w b o T cs a) (who : Int) (x : Nat) (G : Int) (hnx : a.nx = 6) (X : Mm -> CV -> Prop)
 (hc : ∀ w1 : World,MemAt w1 L s -> AcAt w1 b o T cs a -> Calls Tryz.prog 93 #[.pointer (some ⟨b,o,none⟩),.agg #[.int .i64 t,.int .i64 n,.int .i64 k,.int .i64 m,.int .i64 g,.int .i64 p,.int .i64 r,.pointer (some ⟨L.p,0,none⟩),.int .i64 who]] w1 fun e w'=>e = .returned (.tuple #[]) /\ Cact L b o T cs w1 w' X) :
 Calls Tryz.prog 57 #[.pointer (some ⟨b,o,none⟩),.agg #[.int .i64 t,.int .i64 n,.int .i64 k,.int .i64 m,.int .i64 g,.int .i64 p,.int .i64 r,.pointer (some ⟨L.p,0,none⟩),.int .i64 who],.agg #[.int .i64 x,.int .i64 G]] w fun e w'=>e = .returned (.tuple #[]) /\ Cact L b o T cs w w' X:=by
 have m0:=(h.alloc (.cells #[.int .i64 t,.int .i64 n,.int .i64 k,.int .i64 m,.int .i64 g,.int .i64 p,.int .i64 r,.pointer (some ⟨L.p,0,none⟩),.int .i64 who] 27)).alloc (.cells #[.int .i64 x,.int .i64 G] 74)
 have i0:=(hi.grown (grow1 _ (.cells #[.int .i64 t,.int .i64 n,.int .i64 k,.int .i64 m,.int .i64 g,.int .i64 p,.int .i64 r,.pointer (some ⟨L.p,0,none⟩),.int .i64 who] 27))).grown (grow1 _ (.cells #[.int .i64 x,.int .i64 G] 74))
 have o0 : Only (L.and b) w ((w.alloc (.cells #[.int .i64 t,.int .i64 n,.int .i64 k,.int .i64 m,.int .i64 g,.int .i64 p,.int .i64 r,.pointer (some ⟨L.p,0,none⟩),.int .i64 who] 27)).alloc (.cells #[.int .i64 x,.int .i64 G] 74)):=((Only.refl _ _).alloc _).alloc _
 have v0 : BoxV ((w.alloc (.cells #[.int .i64 t,.int .i64 n,.int .i64 k,.int .i64 m,.int .i64 g,.int .i64 p,.int .i64 r,.pointer (some ⟨L.p,0,none⟩),.int .i64 who] 27)).alloc (.cells #[.int .i64 x,.int .i64 G] 74)) w.heap.size t n k m g p r L.p who:=BoxV.newB _
 have x0:=At.new2 w (.cells #[.int .i64 t,.int .i64 n,.int .i64 k,.int .i64 m,.int .i64 g,.int .i64 p,.int .i64 r,.pointer (some ⟨L.p,0,none⟩),.int .i64 who] 27) 74 [.int .i64 (x : Nat),.int .i64 G]
 have k0:=i0.c_nx
 rw [hnx] at k0
 obtain ⟨y0,y1,y2,y3,y4,y5,y6,y7,y8⟩:=id v0
 have u0:=x0.at0 0 rfl
 have u1:=x0.at0 1 rfl
 go_enter Tryz.func57,Tryz.ntmps57
 go_wp2_with (go_at_call 93;refine (hc _ m0 i0).mono ?_;rintro e w3 ⟨rfl,s3,cs3,a3,m3,o3,i3,q3,p3⟩)
 go_end0
 exact ⟨rfl,s3,cs3,a3,m3,o0.trans o3,i3,q3,p3⟩
set_option maxHeartbeats 400000 in
theorem acstep_go {w : World} {L : Loc} {s : Mm} {b o : Nat} {T : TypeId} {cs : Array Value} {t n k m : Nat} {g p r : Int} {a : CV} (h : MemAt w L s) (hi : AcAt w b o T cs a) (who : Int) (hk : a.kd = 1 \/ a.kd = 2 \/ a.kd = 3) (hG : Good t n k m g p r) (hlen : arenaLen t n k m <= s.n) {x : Nat} {G : Int} (hh : HandIs a.nu x G) (hx : x < n) (hnx : ¬ a.nx = 7) (X : Mm -> CV -> Prop) (d : Bool) (hX : ∀ s' a',X s' a' -> (a'.nx == 7) = d)
 (hc : ∀ w1 : World,MemAt w1 L s -> AcAt w1 b o T cs a -> Calls Tryz.prog 57 #[.pointer (some ⟨b,o,none⟩),.agg #[.int .i64 t,.int .i64 n,.int .i64 k,.int .i64 m,.int .i64 g,.int .i64 p,.int .i64 r,.pointer (some ⟨L.p,0,none⟩),.int .i64 who],.agg #[.int .i64 x,.int .i64 G]] w1 fun e w'=>e = .returned (.tuple #[]) /\ Cact L b o T cs w1 w' X) :
 Calls Tryz.prog 25 #[.pointer (some ⟨b,o,none⟩),.agg #[.int .i64 t,.int .i64 n,.int .i64 k,.int .i64 m,.int .i64 g,.int .i64 p,.int .i64 r,.pointer (some ⟨L.p,0,none⟩),.int .i64 who]] w fun e w'=>e = .returned (.bool d) /\ Cact L b o T cs w w' X:=by
 have hw:=hh.call
 have kn:=fun w=>aknown_yes hk w
 have ds:=fun (w' : World) (m' : MemAt w' L s)=>astands_any (x:=x) m' hG hlen who
 rw [decide_eq_true (by omega)] at ds
 have i0:=hi.grown (grow1 _ (.cells #[.int .i64 t,.int .i64 n,.int .i64 k,.int .i64 m,.int .i64 g,.int .i64 p,.int .i64 r,.pointer (some ⟨L.p,0,none⟩),.int .i64 who] 27))
 have k0:=i0.c_nx
 have k1:=i0.c_nu
 clear hh
 go_enter Tryz.func25,Tryz.ntmps25
 go_wp2_with (first
  | (go_at_call 33;refine (hw _).mono ?_;rintro e w1 ⟨rfl,b1⟩;have i1:=(i0.grown b1).grown (grow1 _ (.cells #[.int .i64 x,.int .i64 G] 74));have v1:=(BoxV.new.grown b1).grown (grow1 _ (.cells #[.int .i64 x,.int .i64 G] 74));have m1:=((h.alloc _).below b1).alloc (.cells #[.int .i64 x,.int .i64 G] 74);have o1 : Only (L.and b) w (w1.alloc (.cells #[.int .i64 x,.int .i64 G] 74)):=(((Only.refl _ _).alloc _).trans (Only.ofGrown b1)).alloc (.cells #[.int .i64 x,.int .i64 G] 74);have x1:=At.new w1 74 [.int .i64 (x : Nat),.int .i64 G];have u0:=x1.at0 0 rfl;have u1:=x1.at0 1 rfl;have kk:=i1.c_kd;obtain ⟨y0,y1,y2,y3,y4,y5,y6,y7,y8⟩:=id v1)
  | (go_at_call 53;refine (kn _).mono ?_;rintro e w9 ⟨rfl,rfl⟩)
  | (go_at_call 56;refine (ds _ m1).mono ?_;rintro e w2 ⟨rfl,b2⟩;have i2:=i1.grown b2;have v2:=v1.grown b2;have m2:=m1.below b2;have x2:=x1.grown b2;have o2:=o1.trans (Only.ofGrown b2);have q0:=x2.at0 0 rfl;have q1:=x2.at0 1 rfl;obtain ⟨z0,z1,z2,z3,z4,z5,z6,z7,z8⟩:=id v2;have kf:=i2.fz)
  | (go_at_call 57;refine (hc _ m2 i2).mono ?_;rintro e w3 ⟨rfl,s3,cs3,a3,m3,o3,i3,q3,p3⟩;have k3:=i3.c_nx))
 go_ret
 exact ⟨ret_bool (hX _ _ p3),s3,cs3,a3,m3,o2.trans o3,i3,q3,p3⟩
end Go.Proofs.YtkgpffcnimmdkaaGreat

namespace Go.Proofs.YtkgpffcnimmdkaaGreat
open Go.RowKit
structure Wt.ok (W : Wt) : Prop where
 k : W.kd = 1 \/ W.kd = 2 \/ W.kd = 3
 v : Fit W.vl
def Ac.sec : Ac -> CV -> Prop
 | .see,_=>True
 | .ask v t,a=>a.se = v /\ a.at_ = t
 | .load v Z,a=>a.se = v /\ a.sz = Z
 | .check v c ld,a=>a.se = v /\ a.ce = c /\ a.ld = ld
 | .stop v,a=>a.se = v
 | .lay v c,a=>a.se = v /\ a.ce = c
 | .over E val st,a=>a.E = E /\ a.H = 0 /\ a.V = val /\ a.St = st
structure AcIs (W : Wt) (own : Bool) (α : Ac) (a : CV) : Prop where
 nx : a.nx = α.nx
 kd : a.kd = W.kd
 nu : a.nu = W.nu
 ix : a.ix = W.ix
 vl : a.vl = W.vl
 ol : a.ol = W.ol
 ow : a.own = own
 sec : α.sec a
theorem ac0_is (W : Wt) (own : Bool) : AcIs W own .see (cv0 W.kd W.nu W.ix W.vl W.ol own):=⟨rfl,rfl,rfl,rfl,rfl,rfl,rfl,trivial⟩
structure CDid (w : World) (L : Loc) (s : Mm) (b o : Nat) (T : TypeId) (cs : Array Value) (t n k m σ : Nat) (W : Wt) (own : Bool) (x : Nat) (who : Int) (α : Ac) (q' : Q) (α' : Ac) (w' : World) (s' : Mm) (cs' : Array Value) (a' : CV) : Prop where
 mm : MemAt w' L s'
 tw : Town t n k m s' (σ + 1) q'
 ac : AcAt w' b o T cs' a'
 is : AcIs W own α' a'
 same : Same o 24 cs cs'
 only : Only (L.and b) w w'
 st : ∃ v,s' = (s.by who).step (α.at t x W) v
 rd : α.reads = true -> s' = (s.by who).step (α.at t x W) (s.wd (α.at t x W))
theorem cellIs (u : Int) (h : Wd u) : CellIs u (vOf u) (frB u) (crOf u):=⟨h.1,h.2,rfl,rfl,rfl⟩
section
variable {w : World} {L : Loc} {s : Mm} {b o : Nat} {T : TypeId} {cs : Array Value} {a : CV} {t n k m σ : Nat} {g p r : Int} {q : Q} {W : Wt} {own : Bool}
set_option maxHeartbeats 1000000 in
theorem access_step (h : MemAt w L s) (hb : ¬ L.has b) (hT : Town t n k m s σ q) (hG : Good t n k m g p r) (hσ : σ < 1000000) (hdw : ∀ a,Wd (q.dw a)) {x G : Nat} (hh : HandIs W.nu x G) (hx : x < n) (hW : W.ok) (α : Ac) (hi : AcAt w b o T cs a) (his : AcIs W own α a) (hg : α.good t n k m W x G q) (ho : α.over? = false) (who : Int) (q' : Q) (α' : Ac) (hq : acTurn W own x G σ q α = (q',α')) (d : Bool) (hd : α'.over? = d) :
 Calls Tryz.prog 25 #[.pointer (some ⟨b,o,none⟩),.agg #[.int .i64 t,.int .i64 n,.int .i64 k,.int .i64 m,.int .i64 g,.int .i64 p,.int .i64 r,.pointer (some ⟨L.p,0,none⟩),.int .i64 who]] w fun e w'=>e = .returned (.bool d) /\ ∃ s' cs' a',CDid w L s b o T cs t n k m σ W own x who α q' α' w' s' cs' a':=by
 have hlen : arenaLen t n k m <= s.n:=by rw [hT.len];exact Nat.le_refl _
 have hlen':=hT.len
 have hxs : 6 + t + x * 2 < s.n:=by omega
 have hst : wrap64 (s.steps + 1) = ((σ + 1 : Nat) : Int):=by rw [hT.pile.st];exact hT.pile.wrapS hσ
 obtain ⟨inx,ikd,inu,iix,ivl,iol,iow,isec⟩:=his
 rw [<- inu] at hh
 have hk : a.kd = 1 \/ a.kd = 2 \/ a.kd = 3:=by rw [ikd];exact hW.k
 have hdn:=Ac.nx_over α'
 rw [hd] at hdn
 have hoth : ∀ c,a.oth (vOf c) = W.other c:=fun c=>by unfold CV.oth Wt.other;rw [ikd,iol]
 have hrds : ∀ c,(decide (a.kd = 1) || a.oth (vOf c)) = W.reads c:=fun c=>by rw [hoth,ikd];rfl
 cases α with
 | over=>cases ho
 | see =>
  obtain ⟨v,hv⟩ : ∃ v,q.sw x = v:=⟨_,rfl⟩
  have hwv : s.wd (6 + t + x * 2) = v:=by rw [hT.swv x hx];exact hv
  have wv : Wd v:=by rw [<- hv];exact hT.swb x hx
  have sl:=slotIs v wv
  simp only [acTurn,hv] at hq
  simp only [Ac.good,hv] at hg
  by_cases hl : (lifeB (v % 8) && decide (genOf v = G)) = true
  · rw [if_pos hl] at hq
    obtain ⟨rfl,rfl⟩:=Prod.mk.inj hq
    rw [Bool.and_eq_true] at hl
    obtain ⟨i,O⟩:=hg hl.1 (of_decide_eq_true hl.2)
    have hl' : (lifeB (v % 8) && ((genOf v : Int) == (G : Int))) = true:=by
     rw [hl.1,of_decide_eq_true hl.2];simp
    refine (acstep_go h hi who hk hG hlen hh hx (by rw [inx];decide) _ d ?_ (fun w1 m1 i1=>adoes_see m1 i1 who x G inx _ (fun w1 m1 i1=>asee_yes m1 hb i1 who hG hx hxs hwv sl hl' hst (ci:=chunkOf t n k m (adOf v)) rfl (by rw [O.c1];omega)))).mono ?_
    · rintro s' a' ⟨_,rfl⟩
      rw [<- hdn];rfl
    · rintro e w' ⟨rfl,s',cs',a',m',o',i',sm,rfl,rfl⟩
      exact ⟨rfl,_,cs',_,m',hT.same hσ who _,i',⟨rfl,ikd,inu,iix,ivl,iol,iow,⟨rfl,rfl⟩⟩,sm,o',⟨_,rfl⟩,fun _=>rfl⟩
  · rw [if_neg hl] at hq
    obtain ⟨rfl,rfl⟩:=Prod.mk.inj hq
    have hl' : (lifeB (v % 8) && ((genOf v : Int) == (G : Int))) = false:=by
     rw [Bool.not_eq_true] at hl
     rw [<- hl]
     congr 1
     rw [Bool.eq_iff_iff]
     simp only [beq_iff_eq,decide_eq_true_eq]
     omega
    refine (acstep_go h hi who hk hG hlen hh hx (by rw [inx];decide) _ d ?_ (fun w1 m1 i1=>adoes_see m1 i1 who x G inx _ (fun w1 m1 i1=>asee_no m1 hb i1 who hG hx hxs hwv sl hl' hst))).mono ?_
    · rintro s' a' ⟨_,rfl⟩
      rw [<- hdn];rfl
    · rintro e w' ⟨rfl,s',cs',a',m',o',i',sm,rfl,rfl⟩
      exact ⟨rfl,_,cs',_,m',hT.same hσ who _,i',⟨rfl,ikd,inu,iix,ivl,iol,iow,⟨rfl,rfl,rfl,rfl⟩⟩,sm,o',⟨_,rfl⟩,fun _=>rfl⟩
 | ask v t0 =>
  obtain ⟨i,O⟩:=hg
  obtain ⟨rfl,iat⟩:=isec
  have sl:=slotIs a.se O.wd
  have hin:=O.inn
  have hwu : s.wd (adOf a.se) = q.dw (adOf a.se):=hT.dwv _ hin.1
  have hd1:=headIs _ (hdw (adOf a.se))
  have hq' : (q,acAsk W own σ a.se (q.dw (adOf a.se)) t0) = (q',α'):=hq
  obtain ⟨rfl,hα⟩:=Prod.mk.inj hq'
  have hnA : adOf a.se < s.n:=by omega
  by_cases hw : (ownOf (q.dw (adOf a.se)) == own) = true
  · have hwo : (ownOf (q.dw (adOf a.se)) == a.own) = true:=by rw [iow];exact hw
    simp only [acAsk,hw,if_true] at hα
    by_cases hix : 0 <= W.ix /\ W.ix < szOf (q.dw (adOf a.se))
    · rw [if_pos hix] at hα
      subst hα
      have hm:=adOf_le a.se
      refine (acstep_go h hi who hk hG hlen hh hx (by rw [inx];show ¬ (1 : Int) = 7;decide) _ d ?_ (fun w1 m1 i1=>adoes_ask m1 i1 who x G inx _ (fun w1 m1 i1=>aask_go m1 hb i1 who sl hnA hwu hd1 hwo (fun w2 c2 i2=>ahas_yes (Z:=(szOf (q.dw (adOf a.se)) : Int)) i2 _ rfl hG (by show 0 <= a.ix;rw [iix];exact hix.1) (by show a.ix < _;rw [iix];exact hix.2) (by omega) (by omega) (by have:=O.z2;omega) O.c1 O.c2)))).mono ?_
      · rintro s' a' ⟨_,rfl⟩
        rw [<- hdn];rfl
      · rintro e w' ⟨rfl,s',cs',a',m',o',i',sm,rfl,rfl⟩
        exact ⟨rfl,_,cs',_,m',hT.same hσ who _,i',⟨rfl,ikd,inu,iix,ivl,iol,iow,⟨rfl,rfl⟩⟩,sm,o',⟨_,rfl⟩,fun _=>rfl⟩
    · rw [if_neg hix] at hα
      subst hα
      have key : ∀ (w2 : World) (c2 : Array Value),AcAt w2 b o T c2 { a with sz:=(szOf (q.dw (adOf a.se)) : Int) } -> Calls Tryz.prog 125 #[.pointer (some ⟨b,o,none⟩),.agg #[.int .i64 t,.int .i64 n,.int .i64 k,.int .i64 m,.int .i64 g,.int .i64 p,.int .i64 r],.int .i64 (adOf a.se)] w2 fun e w'=>e = .returned (.bool false) /\ Below w2.heap.size w2 w':=fun w2 c2 i2=>by
       by_cases h0 : W.ix < 0
       · exact ahas_low i2 _ (by show a.ix < 0;rw [iix];exact h0)
       · exact ahas_high (Z:=(szOf (q.dw (adOf a.se)) : Int)) i2 _ rfl (by show 0 <= a.ix;rw [iix];omega) (by show _ <= a.ix;rw [iix];omega)
      refine (acstep_go h hi who hk hG hlen hh hx (by rw [inx];show ¬ (1 : Int) = 7;decide) _ d ?_ (fun w1 m1 i1=>adoes_ask m1 i1 who x G inx _ (fun w1 m1 i1=>aask_index m1 hb i1 who sl hnA hwu hd1 hwo key))).mono ?_
      · rintro s' a' ⟨_,rfl⟩
        rw [<- hdn];rfl
      · rintro e w' ⟨rfl,s',cs',a',m',o',i',sm,rfl,rfl⟩
        exact ⟨rfl,_,cs',_,m',hT.same hσ who _,i',⟨rfl,ikd,inu,iix,ivl,iol,iow,⟨rfl,rfl,rfl,iat⟩⟩,sm,o',⟨_,rfl⟩,fun _=>rfl⟩
  · have hw' : (ownOf (q.dw (adOf a.se)) == own) = false:=by simpa using hw
    have hwo : (ownOf (q.dw (adOf a.se)) == a.own) = false:=by rw [iow];exact hw'
    simp only [acAsk,hw'] at hα
    subst hα
    refine (acstep_go h hi who hk hG hlen hh hx (by rw [inx];show ¬ (1 : Int) = 7;decide) _ d ?_ (fun w1 m1 i1=>adoes_ask m1 i1 who x G inx _ (fun w1 m1 i1=>aask_no m1 hb i1 who sl hnA hwu hd1 hwo hst))).mono ?_
    · rintro s' a' ⟨_,rfl⟩
      rw [<- hdn];rfl
    · rintro e w' ⟨rfl,s',cs',a',m',o',i',sm,rfl,rfl⟩
      exact ⟨rfl,_,cs',_,m',hT.same hσ who _,i',⟨rfl,ikd,inu,iix,ivl,iol,iow,⟨rfl,rfl,rfl,rfl⟩⟩,sm,o',⟨_,rfl⟩,fun _=>rfl⟩
 | load v Z =>
  obtain ⟨⟨i,O⟩,h0,h1,h4⟩:=hg
  obtain ⟨rfl,isz⟩:=isec
  have sl:=slotIs a.se O.wd
  have hin:=O.inn
  have z2:=O.z2
  have hixn : a.ix = (W.ix.toNat : Int):=by rw [iix];omega
  have hjz : W.ix.toNat < Z:=by omega
  have hnJ : adOf a.se + 1 + W.ix.toNat < s.n:=by omega
  have hwu : s.wd (adOf a.se + 1 + W.ix.toNat) = q.dw (W.at a.se):=hT.dwv _ (by omega)
  have hc:=cellIs _ (hdw (W.at a.se))
  have hq' : (q,acLoad W σ a.se (q.dw (W.at a.se))) = (q',α'):=hq
  obtain ⟨rfl,hα⟩:=Prod.mk.inj hq'
  obtain ⟨c,hcc⟩ : ∃ c,q.dw (W.at a.se) = c:=⟨_,rfl⟩
  have hrc:=hrds c
  rw [hcc] at hwu hc hα
  have fin : ∀ {N : Int},α'.nx = N -> AcIs W own α' { a with ce:=c,ld:=((σ + 1 : Nat) : Int),nx:=N } -> (∀ w1 : World,MemAt w1 L s -> AcAt w1 b o T cs a -> Calls Tryz.prog 89 #[.pointer (some ⟨b,o,none⟩),.agg #[.int .i64 t,.int .i64 n,.int .i64 k,.int .i64 m,.int .i64 g,.int .i64 p,.int .i64 r,.pointer (some ⟨L.p,0,none⟩),.int .i64 who],.agg #[.int .i64 x,.int .i64 G]] w1 fun e w'=>e = .returned (.tuple #[]) /\ Cact L b o T cs w1 w' (fun s' a'=>s' = (s.by who).step (adOf a.se + 1 + W.ix.toNat) (s.wd (adOf a.se + 1 + W.ix.toNat)) /\ a' = { a with ce:=c,ld:=((σ + 1 : Nat) : Int),nx:=N })) ->
   Calls Tryz.prog 25 #[.pointer (some ⟨b,o,none⟩),.agg #[.int .i64 t,.int .i64 n,.int .i64 k,.int .i64 m,.int .i64 g,.int .i64 p,.int .i64 r,.pointer (some ⟨L.p,0,none⟩),.int .i64 who]] w fun e w'=>e = .returned (.bool d) /\ ∃ s' cs' a',CDid w L s b o T cs t n k m σ W own x who (.load a.se Z) q α' w' s' cs' a':=by
   intro N hN hIs hcall
   refine (acstep_go h hi who hk hG hlen hh hx (by rw [inx];show ¬ (2 : Int) = 7;decide) _ d ?_ (fun w1 m1 i1=>adoes_load m1 i1 who x G inx _ hcall)).mono ?_
   · rintro s' a' ⟨_,rfl⟩
     rw [<- hdn,hN]
   · rintro e w' ⟨rfl,s',cs',a',m',o',i',sm,rfl,rfl⟩
     exact ⟨rfl,_,cs',_,m',hT.same hσ who _,i',hIs,sm,o',⟨_,rfl⟩,fun _=>rfl⟩
  cases hr : W.reads c with
  | true =>
   rw [hr] at hrc
   simp only [acLoad,hr,if_true] at hα
   subst hα
   exact fin rfl ⟨rfl,ikd,inu,iix,ivl,iol,iow,⟨rfl,rfl,rfl⟩⟩ fun w1 m1 i1=>aload_check m1 hb i1 who sl hixn (by omega) hnJ hwu hc hst hrc
  | false =>
   rw [hr] at hrc
   simp only [acLoad,hr,Bool.false_eq_true,if_false] at hα
   cases hf : frB c with
   | false =>
    simp only [hf,Bool.false_and,Bool.false_eq_true,if_false] at hα
    subst hα
    exact fin rfl ⟨rfl,ikd,inu,iix,ivl,iol,iow,⟨rfl,rfl⟩⟩ fun w1 m1 i1=>aload_open m1 hb i1 who sl hixn (by omega) hnJ hwu hc hst hrc h4 hf
   | true =>
    simp only [hf,Bool.true_and] at hα
    by_cases hv : crOf c = (verOf' a.se : Int)
    · by_cases h2 : a.se % 8 = 2
      · simp only [hv,h2,decide_true,Bool.and_self,if_true] at hα
        subst hα
        exact fin rfl ⟨rfl,ikd,inu,iix,ivl,iol,iow,rfl⟩ fun w1 m1 i1=>aload_stop m1 hb i1 who sl hixn (by omega) hnJ hwu hc hst hrc h2 hf hv
      · simp only [hv,h2,decide_true,decide_false,Bool.and_false,Bool.false_eq_true,if_false,Int.le_refl,if_true] at hα
        subst hα
        exact fin rfl ⟨rfl,ikd,inu,iix,ivl,iol,iow,trivial⟩ fun w1 m1 i1=>aload_anew m1 hb i1 who sl hixn (by omega) hnJ hwu hc hst hrc h4 h2 hf hv
    · by_cases hge : (verOf' a.se : Int) <= crOf c
      · simp only [hv,hge,decide_true,decide_false,Bool.false_and,Bool.false_eq_true,if_false,if_true] at hα
        subst hα
        exact fin rfl ⟨rfl,ikd,inu,iix,ivl,iol,iow,trivial⟩ fun w1 m1 i1=>aload_more m1 hb i1 who sl hixn (by omega) hnJ hwu hc hst hrc h4 hf hv hge
      · simp only [hv,hge,decide_false,Bool.false_and,Bool.false_eq_true,if_false] at hα
        subst hα
        exact fin rfl ⟨rfl,ikd,inu,iix,ivl,iol,iow,⟨rfl,rfl⟩⟩ fun w1 m1 i1=>aload_old m1 hb i1 who sl hixn (by omega) hnJ hwu hc hst hrc h4 hf hv hge
 | check v c ld =>
  obtain ⟨wv,wc⟩:=hg
  obtain ⟨rfl,rfl,ild⟩:=isec
  obtain ⟨u,hu⟩ : ∃ u,q.sw x = u:=⟨_,rfl⟩
  have hwu : s.wd (6 + t + x * 2) = u:=by rw [hT.swv x hx];exact hu
  have wu : Wd u:=by rw [<- hu];exact hT.swb x hx
  have sl:=slotIs u wu
  have sl0:=slotIs a.se wv
  have hc:=cellIs a.ce wc
  have hq' : (q,acCheck W G σ a.se a.ce u ld) = (q',α'):=by rw [<- hq,<- hu];rfl
  obtain ⟨rfl,hα⟩:=Prod.mk.inj hq'
  by_cases hl : (lifeB (u % 8) && decide (genOf u = G)) = true
  · have hl0:=hl
    rw [Bool.and_eq_true] at hl0
    have hl' : (lifeB (u % 8) && ((genOf u : Int) == (G : Int))) = true:=by
     rw [hl0.1,of_decide_eq_true hl0.2];simp
    simp only [acCheck,hl,if_true] at hα
    by_cases hA : adOf u = adOf a.se
    · rw [if_pos hA] at hα
      cases hot : W.other a.ce with
      | true =>
       rw [hot,if_pos rfl] at hα
       subst hα
       refine (acstep_go h hi who hk hG hlen hh hx (by rw [inx];show ¬ (3 : Int) = 7;decide) _ d ?_ (fun w1 m1 i1=>adoes_check m1 i1 who x G inx _ (fun w1 m1 i1=>acheck_other m1 hb i1 who hG hx hxs hwu sl hl' hc sl0 (by rw [hA]) (by rw [hoth];exact hot)))).mono ?_
       · rintro s' a' ⟨_,rfl⟩
         rw [<- hdn];rfl
       · rintro e w' ⟨rfl,s',cs',a',m',o',i',sm,rfl,rfl⟩
         exact ⟨rfl,_,cs',_,m',hT.same hσ who _,i',⟨rfl,ikd,inu,iix,ivl,iol,iow,⟨rfl,rfl,rfl,ild⟩⟩,sm,o',⟨_,rfl⟩,fun _=>rfl⟩
      | false =>
       rw [hot,if_neg (by decide)] at hα
       subst hα
       refine (acstep_go h hi who hk hG hlen hh hx (by rw [inx];show ¬ (3 : Int) = 7;decide) _ d ?_ (fun w1 m1 i1=>adoes_check m1 i1 who x G inx _ (fun w1 m1 i1=>acheck_ok m1 hb i1 who hG hx hxs hwu sl hl' hc sl0 (by rw [hA]) (by rw [hoth];exact hot)))).mono ?_
       · rintro s' a' ⟨_,rfl⟩
         rw [<- hdn];rfl
       · rintro e w' ⟨rfl,s',cs',a',m',o',i',sm,rfl,rfl⟩
         exact ⟨rfl,_,cs',_,m',hT.same hσ who _,i',⟨rfl,ikd,inu,iix,ivl,iol,iow,⟨rfl,rfl,rfl,ild⟩⟩,sm,o',⟨_,rfl⟩,fun _=>rfl⟩
    · rw [if_neg hA] at hα
      subst hα
      refine (acstep_go h hi who hk hG hlen hh hx (by rw [inx];show ¬ (3 : Int) = 7;decide) _ d ?_ (fun w1 m1 i1=>adoes_check m1 i1 who x G inx _ (fun w1 m1 i1=>acheck_else m1 hb i1 who hG hx hxs hwu sl hl' hc sl0 (by omega)))).mono ?_
      · rintro s' a' ⟨_,rfl⟩
        rw [<- hdn];rfl
      · rintro e w' ⟨rfl,s',cs',a',m',o',i',sm,rfl,rfl⟩
        exact ⟨rfl,_,cs',_,m',hT.same hσ who _,i',⟨rfl,ikd,inu,iix,ivl,iol,iow,trivial⟩,sm,o',⟨_,rfl⟩,fun _=>rfl⟩
  · have hl' : (lifeB (u % 8) && ((genOf u : Int) == (G : Int))) = false:=by
     rw [Bool.not_eq_true] at hl
     rw [<- hl]
     congr 1
     rw [Bool.eq_iff_iff]
     simp only [beq_iff_eq,decide_eq_true_eq]
     omega
    simp only [acCheck] at hα
    rw [if_neg hl] at hα
    subst hα
    refine (acstep_go h hi who hk hG hlen hh hx (by rw [inx];show ¬ (3 : Int) = 7;decide) _ d ?_ (fun w1 m1 i1=>adoes_check m1 i1 who x G inx _ (fun w1 m1 i1=>acheck_dead m1 hb i1 who hG hx hxs hwu sl hl' hc hst))).mono ?_
    · rintro s' a' ⟨_,rfl⟩
      rw [<- hdn];rfl
    · rintro e w' ⟨rfl,s',cs',a',m',o',i',sm,rfl,rfl⟩
      exact ⟨rfl,_,cs',_,m',hT.same hσ who _,i',⟨rfl,ikd,inu,iix,ivl,iol,iow,⟨rfl,rfl,rfl,rfl⟩⟩,sm,o',⟨_,rfl⟩,fun _=>rfl⟩
 | stop v =>
  have wv : Wd v:=hg
  obtain rfl : a.se = v:=isec
  have sl:=slotIs a.se wv
  have hq' : ((if q.sw x = a.se then { q with sw:=upd q.sw x (stopW a.se) } else q),Ac.see) = (q',α'):=hq
  obtain ⟨hqq,rfl⟩:=Prod.mk.inj hq'
  refine (acstep_go h hi who hk hG hlen hh hx (by rw [inx];show ¬ (5 : Int) = 7;decide) _ d ?_ (fun w1 m1 i1=>adoes_stop m1 i1 who x G inx _ (fun w1 m1 i1=>astop_any m1 hb i1 who hG hx hxs sl))).mono ?_
  · rintro s' a' ⟨_,rfl⟩
    rw [<- hdn];rfl
  · rintro e w' ⟨rfl,s',cs',a',m',o',i',sm,rfl,rfl⟩
    by_cases hw : q.sw x = a.se
    · have hw' : s.wd (6 + t + x * 2) = a.se:=by rw [hT.swv x hx];exact hw
      rw [if_pos hw] at hqq
      subst hqq
      rw [cas_hit hw'] at m'
      exact ⟨rfl,_,cs',_,m',hT.shows hσ who hx _ (stopW_wd _).1 (stopW_wd _).2,i',⟨rfl,ikd,inu,iix,ivl,iol,iow,trivial⟩,sm,o',⟨_,rfl⟩,fun h=>by cases h⟩
    · have hw' : s.wd (6 + t + x * 2) ≠ a.se:=by rw [hT.swv x hx];exact hw
      rw [if_neg hw] at hqq
      subst hqq
      rw [cas_miss hw'] at m'
      exact ⟨rfl,_,cs',_,m',hT.same hσ who _,i',⟨rfl,ikd,inu,iix,ivl,iol,iow,trivial⟩,sm,o',⟨_,rfl⟩,fun h=>by cases h⟩
 | lay v c =>
  obtain ⟨⟨Z,i,O,h1⟩,h0,wc⟩:=hg
  obtain ⟨rfl,rfl⟩:=isec
  have sl:=slotIs a.se O.wd
  have hc:=cellIs a.ce wc
  have hin:=O.inn
  have z2:=O.z2
  have hixn : a.ix = (W.ix.toNat : Int):=by rw [iix];omega
  have hnJ : adOf a.se + 1 + W.ix.toNat < s.n:=by omega
  have hwu : s.wd (adOf a.se + 1 + W.ix.toNat) = q.dw (W.at a.se):=hT.dwv _ (by omega)
  by_cases hw : q.dw (W.at a.se) = a.ce
  · have hw' : s.wd (adOf a.se + 1 + W.ix.toNat) = a.ce:=hwu.trans hw
    simp only [acTurn,hw,if_true] at hq
    obtain ⟨rfl,rfl⟩:=Prod.mk.inj hq
    refine (acstep_go h hi who hk hG hlen hh hx (by rw [inx];show ¬ (6 : Int) = 7;decide) _ d ?_ (fun w1 m1 i1=>adoes_lay m1 i1 who x G inx _ (fun w1 m1 i1=>alay_yes m1 hb i1 who sl hixn (by omega) hnJ ivl hW.v (decide_eq_true hw') hc hst))).mono ?_
    · rintro s' a' ⟨_,rfl⟩
      rw [<- hdn];rfl
    · rintro e w' ⟨rfl,s',cs',a',m',o',i',sm,rfl,rfl⟩
      rw [cas_hit hw'] at m'
      exact ⟨rfl,_,cs',_,m',hT.lays hσ who (by omega) _,i',⟨rfl,ikd,inu,iix,ivl,iol,iow,⟨rfl,rfl,rfl,rfl⟩⟩,sm,o',⟨_,rfl⟩,fun h=>by cases h⟩
  · have hw' : s.wd (adOf a.se + 1 + W.ix.toNat) ≠ a.ce:=by rw [hwu];exact hw
    simp only [acTurn,hw,if_false] at hq
    obtain ⟨rfl,rfl⟩:=Prod.mk.inj hq
    refine (acstep_go h hi who hk hG hlen hh hx (by rw [inx];show ¬ (6 : Int) = 7;decide) _ d ?_ (fun w1 m1 i1=>adoes_lay m1 i1 who x G inx _ (fun w1 m1 i1=>alay_no m1 hb i1 who sl hixn (by omega) hnJ ivl hW.v (decide_eq_false hw')))).mono ?_
    · rintro s' a' ⟨_,rfl⟩
      rw [<- hdn];rfl
    · rintro e w' ⟨rfl,s',cs',a',m',o',i',sm,rfl,rfl⟩
      rw [cas_miss hw'] at m'
      exact ⟨rfl,_,cs',_,m',hT.same hσ who _,i',⟨rfl,ikd,inu,iix,ivl,iol,iow,trivial⟩,sm,o',⟨_,rfl⟩,fun h=>by cases h⟩
end
end Go.Proofs.YtkgpffcnimmdkaaGreat

namespace Go.Proofs.YtkgpffcnimmdkaaGreat
open Go.RowKit
set_option maxRecDepth 20000
section
variable {w : World} {L : Loc} {t n k m σ : Nat} {s : Mm} {q : Q} {W : Wt} {own : Bool}
set_option maxHeartbeats 1000000 in
theorem do_goes {cg cp cr : Int} (h : MemAt w L s) (hT : Town t n k m s σ q) (hG : Good t n k m cg cp cr) (hdw : ∀ a,Wd (q.dw a)) {x G : Nat} (hh : HandIs W.nu x G) (hx : x < n) (hW : W.ok) (hσ : σ + 200 < 1000000) {N : Nat} (hN : N <= 200) {rb : Bool} {q' : Q} {E val : Int} {st : Nat} (g : ARuns t n k m W own x G rb N σ q .see q' (.over E val st)) :
 Calls Tryz.prog 32 #[.agg #[.int .i64 t,.int .i64 n,.int .i64 k,.int .i64 m,.int .i64 cg,.int .i64 cp,.int .i64 cr,.pointer (some ⟨L.p,0,none⟩),.int .i64 0],.agg #[.int .i64 W.kd,.int .u64 W.nu,.int .i64 W.ix,.int .i64 W.vl,.int .i64 W.ol],.bool own] w fun e w'=>e = .returned (.agg #[.int .i64 E,.int .u64 0,.int .i64 val,.int .i64 st]) /\ ∃ s' : Mm,MemAt w' L s' /\ Town t n k m s' (σ + N) q' /\ Only L.has w w' /\ (rb = true -> s'.wd = s.wd):=by
 have hB : Hid (¬ L.has w.heap.size):=fun hh=>by have:=h.lt _ hh;omega
 have hB1 : Hid (¬ L.has (w.heap.size + 1)):=fun hh=>by have:=h.lt _ hh;omega
 have hB2 : Hid (¬ L.has (w.heap.size + 1 + 1)):=fun hh=>by have:=h.lt _ hh;omega
 have HT : Hid (Town t n k m s σ q):=hT
 have HM : Hid (MemAt w L s):=h
 have HG : Hid (Good t n k m cg cp cr):=hG
 have HH : Hid (HandIs W.nu x G):=hh
 have HX : Hid (x < n):=hx
 have HWo : Hid W.ok:=hW
 have HW : Hid (∀ a,Wd (q.dw a)):=hdw
 have GG : Hid (ARuns t n k m W own x G rb N σ q .see q' (.over E val st)):=g
 clear h hT hG g hh hx hdw hW
 go_enter Tryz.func32,Tryz.ntmps32
 go_wp2_with (go_at_call 24;refine (newAcc_any W.kd W.nu W.ix W.vl W.ol own _).mono ?_;rintro e w1 ⟨W1,rfl,rfl,g1⟩)
 have hsz : w.heap.size + 1 + 1 + 1 <= W1.heap.size:=by
  have:=g1.size
  simp only [Go.Deep.nblk_alloc] at this
  omega
 obtain ⟨cs0,q0⟩:=acc0_at W.kd W.nu W.ix W.vl W.ol own W1
 obtain ⟨B,hBe⟩ : ∃ B,W1.heap.size = B:=⟨_,rfl⟩
 have hBL : Hid (¬ L.has B):=fun hh=>by have:=HM.out.lt _ hh;omega
 have v0 : BoxV (((w.alloc (.cells #[.int .i64 t,.int .i64 n,.int .i64 k,.int .i64 m,.int .i64 cg,.int .i64 cp,.int .i64 cr,.pointer (some ⟨L.p,0,none⟩),.int .i64 0] 27)).alloc (.cells #[.int .i64 W.kd,.int .u64 W.nu,.int .i64 W.ix,.int .i64 W.vl,.int .i64 W.ol] 60)).alloc (.cells #[.int .i64 0,.int .u64 0,.int .i64 0,.int .i64 0] 48)) w.heap.size t n k m cg cp cr L.p 0:=(BoxV.newB _).grown (grow_alloc (Below.refl _ _) _)
 have d0:=At.new2 (w.alloc (.cells #[.int .i64 t,.int .i64 n,.int .i64 k,.int .i64 m,.int .i64 cg,.int .i64 cp,.int .i64 cr,.pointer (some ⟨L.p,0,none⟩),.int .i64 0] 27)) (.cells #[.int .i64 W.kd,.int .u64 W.nu,.int .i64 W.ix,.int .i64 W.vl,.int .i64 W.ol] 60) 48 [.int .i64 0,.int .u64 0,.int .i64 0,.int .i64 0]
 rw [Go.Deep.nblk_alloc] at d0
 rw [hBe] at q0 hsz ⊢
 have o0 : Only (L.and B) w (W1.alloc (acc0 W.kd W.nu W.ix W.vl W.ol own)):=(((((Only.refl _ _).alloc _).alloc _).alloc _).trans (Only.ofGrown g1)).alloc _
 have A1 : Hid (MemAt (W1.alloc (acc0 W.kd W.nu W.ix W.vl W.ol own)) L s /\ AcAt (W1.alloc (acc0 W.kd W.nu W.ix W.vl W.ol own)) B 0 98 cs0 (cv0 W.kd W.nu W.ix W.vl W.ol own) /\ BoxV (W1.alloc (acc0 W.kd W.nu W.ix W.vl W.ol own)) w.heap.size t n k m cg cp cr L.p 0 /\ At (W1.alloc (acc0 W.kd W.nu W.ix W.vl W.ol own)) (w.heap.size + 1 + 1) 0 48 #[.int .i64 0,.int .u64 0,.int .i64 0,.int .i64 0] [.int .i64 0,.int .u64 0,.int .i64 0,.int .i64 0] /\ Only (L.and B) w (W1.alloc (acc0 W.kd W.nu W.ix W.vl W.ol own))) :=
  ⟨((((HM.out.alloc _).alloc _).alloc _).below g1).alloc _,q0,(v0.grown g1).grown (grow1 _ _),(d0.grown g1).grown (grow1 _ _),o0⟩
 clear HM v0 d0 q0 o0 g1 hBe
 go_loopw [8] (fun i wr=>∃ (j N1 : Nat) (s1 : Mm) (cs1 : Array Value) (a1 : CV) (q1 : Q) (α1 : Ac),i = .int .i64 j /\ j + N1 = N /\ ARuns t n k m W own x G rb N1 (σ + j) q1 α1 q' (.over E val st) /\ (∀ a,Wd (q1.dw a)) /\ (rb = true -> s1.wd = s.wd) /\ Town t n k m s1 (σ + j) q1 /\ AcIs W own α1 a1 /\ MemAt wr L s1 /\ AcAt wr B 0 98 cs1 a1 /\ BoxV wr w.heap.size t n k m cg cp cr L.p 0 /\ At wr (w.heap.size + 1 + 1) 0 48 #[.int .i64 0,.int .u64 0,.int .i64 0,.int .i64 0] [.int .i64 0,.int .u64 0,.int .i64 0,.int .i64 0] /\ Only (L.and B) w wr) (fun i _=>200 - (intOf i).toNat)
 case atStart=>exact ⟨0,N,s,cs0,_,q,_,rfl,by omega,GG.out,HW.out,fun _=>rfl,HT.out,ac0_is W own,A1.out⟩
 case round =>
  clear A1 GG HW HT
  obtain ⟨j,N1,s1,cs1,a1,q1,α1,rfl,hj,gg,wd,wde,tw,is1,mm,ia,v,j1,on⟩:=hrel
  have hN1:=gg.pos
  have hj3 : (j : Int) < 200:=by omega
  obtain ⟨y0,y1,y2,y3,y4,y5,y6,y7,y8⟩:=id v
  cases gg with
  | one hb ho hg ht h1 =>
   have HT1 : Hid (acTurn W own x G (σ + j) q1 α1 = (q',.over E val st)):=ht
   have HO : Hid (α1.over? = false):=ho
   have HGd : Hid (α1.good t n k m W x G q1):=hg
   have HWE : Hid (rb = true -> s1.wd = s.wd):=wde
   have HBB : Hid (rb = true -> α1.reads = true):=hb
   clear ht ho hg wde hb
   go_wp2_with (first
    | (go_at_call 25;refine (access_step mm hBL.out tw HG.out (by omega) wd HH.out HX.out HWo.out α1 ia is1 HGd.out HO.out 0 _ _ HT1.out true h1).mono ?_;rintro e w2 ⟨rfl,s2,cs2,a2,P⟩;have c1 : a2.E = E:=P.is.sec.1;have c2 : a2.H = 0:=P.is.sec.2.1;have c3 : a2.V = val:=P.is.sec.2.2.1;have c4 : a2.St = st:=P.is.sec.2.2.2)
    | (go_at_call 26;refine (adone_any P.ac).mono ?_;rintro e w3 ⟨rfl,b3⟩;rw [c1,c2,c3,c4];have j3:=(j1.only P.only (fun hh=>hh.elim hB2.out (by omega))).grown b3;have z0:=j3.at0 0 rfl;have z1:=j3.at0 1 rfl;have z2:=j3.at0 2 rfl;have z3:=j3.at0 3 rfl;have qf:=j3.fz))
   refine bodyPost_ret (v:=.agg #[.int .i64 E,.int .u64 0,.int .i64 val,.int .i64 st]) (by simp [results,Tryz.results32,go_sem,z0,z1,z2,z3]) rfl ?_
   refine ⟨rfl,s2,((((P.mm.below b3).setIn hB2.out _ _).setIn hB2.out _ _).setIn hB2.out _ _).setIn hB2.out _ _,?_,?_,fun hb=>?_⟩
   · have:=P.tw
     rwa [show σ + j + 1 = σ + N by omega] at this
   · exact ((((((on.trans P.only).trans (Only.ofGrown b3)).setCell (fun hlt=>by simp only at hlt;omega) _).setCell (fun hlt=>by simp only at hlt;omega) _).setCell (fun hlt=>by simp only at hlt;omega) _).setCell (fun hlt=>by simp only at hlt;omega) _).mono (fun x hx hh=>hh.elim id (fun e=>absurd e (by omega)))
   · rw [P.rd (HBB.out hb)]
     exact (upd_id _ _).trans (HWE.out hb)
  | more hb ho hg ht h1 g1 =>
   have wd1:=acTurn_wd wd ht
   have HT1 : Hid (acTurn W own x G (σ + j) q1 α1 = (_,_)):=ht
   have HO : Hid (α1.over? = false):=ho
   have HGd : Hid (α1.good t n k m W x G q1):=hg
   have HWE : Hid (rb = true -> s1.wd = s.wd):=wde
   have HBB : Hid (rb = true -> α1.reads = true):=hb
   clear ht ho hg wde hb
   go_wp2_with (go_at_call 25;refine (access_step mm hBL.out tw HG.out (by omega) wd HH.out HX.out HWo.out α1 ia is1 HGd.out HO.out 0 _ _ HT1.out false h1).mono ?_;rintro e w2 ⟨rfl,s2,cs2,a2,P⟩)
   go_roundw
   case rel =>
    exact ⟨j + 1,_,s2,cs2,a2,_,_,by go_num,by omega,g1,wd1,fun hb=>by rw [P.rd (HBB.out hb)];exact (upd_id _ _).trans (HWE.out hb),P.tw,P.is,P.mm,P.ac,v.only P.only (fun hh=>hh.elim hB.out (by omega)),j1.only P.only (fun hh=>hh.elim hB2.out (by omega)),on.trans P.only⟩
   case measure=>simp [intOf];omega
end
end Go.Proofs.YtkgpffcnimmdkaaGreat

namespace Go.Proofs.YtkgpffcnimmdkaaGreat
open Go.RowKit
structure Spt (w0 w : World) (L : Loc) (bE t n k m : Nat) (s : Mm) (σ : Nat) (q : Q) : Prop where
 mm : MemAt w L s
 tw : Town t n k m s σ q
 v : BoxV w bE t n k m 100 600 3 L.p 0
 b : Below w0.heap.size w0 w
section
variable {w0 w w' : World} {L : Loc} {bE t n k m σ nx : Nat} {s : Mm} {q : Q} {gen : Nat -> Nat} {ls : List Ox} {W : Wt} {own : Bool}
theorem Farm.spt (f : Farm w0 w L bE t n k m 100 s σ q nx gen ls) : Spt w0 w L bE t n k m s σ q:=⟨f.mm,f.tw,f.v,f.b⟩
theorem Spt.grown (f : Spt w0 w L bE t n k m s σ q) (g : Below w.heap.size w w') : Spt w0 w' L bE t n k m s σ q:=⟨f.mm.below g,f.tw,f.v.grown g,grow f.b g⟩
theorem Spt.only (f : Spt w0 w L bE t n k m s σ q) (a : FarmApart w0 L bE t n k m 100) {s' : Mm} {σ' : Nat} {q' : Q} (o : Only L.has w w') (m' : MemAt w' L s') (t' : Town t n k m s' σ' q') : Spt w0 w' L bE t n k m s' σ' q':=⟨m',t',f.v.only o a.e,mgrow f.b o a.l0⟩
theorem Spt.setIn (f : Spt w0 w L bE t n k m s σ q) {X : Nat} (h0 : w0.heap.size <= X) (hE : bE ≠ X) (hL : ¬ L.has X) (i : Nat) (v : Value) : Spt w0 (w.setCell ⟨X,i,none⟩ v) L bE t n k m s σ q:=⟨f.mm.setIn hL _ _,f.tw,f.v.setIn hE _ _,below_setIn f.b h0 _ _⟩
theorem Spt.ltE (f : Spt w0 w L bE t n k m s σ q) : bE < w.heap.size:=World.block_lt_of_cell? _ _ f.v.c0
theorem Spt.do (f : Spt w0 w L bE t n k m s σ q) (a : FarmApart w0 L bE t n k m 100) (hdw : ∀ a,Wd (q.dw a)) {x G : Nat} (hh : HandIs W.nu x G) (hx : x < n) (hW : W.ok) (hσ : σ + 200 < 1000000) {N : Nat} (hN : N <= 200) {rb : Bool} {q' : Q} {E val : Int} {st : Nat} (g : ARuns t n k m W own x G rb N σ q .see q' (.over E val st)) :
 Calls Tryz.prog 32 #[.agg #[.int .i64 t,.int .i64 n,.int .i64 k,.int .i64 m,.int .i64 100,.int .i64 600,.int .i64 3,.pointer (some ⟨L.p,0,none⟩),.int .i64 0],.agg #[.int .i64 W.kd,.int .u64 W.nu,.int .i64 W.ix,.int .i64 W.vl,.int .i64 W.ol],.bool own] w fun e w'=>e = .returned (.agg #[.int .i64 E,.int .u64 0,.int .i64 val,.int .i64 st]) /\ ∃ s' : Mm,Spt w0 w' L bE t n k m s' (σ + N) q' /\ Only L.has w w' /\ (rb = true -> s'.wd = s.wd):=by
 refine (do_goes f.mm f.tw a.g hdw hh hx hW hσ hN g).mono ?_
 rintro e w' ⟨rfl,s',m',t',o',e'⟩
 exact ⟨rfl,s',f.only a o' m' t',o',e'⟩
end
theorem hand01 : HandIs 65536 0 1:=by
 have hh:=handIs (x:=0) (G:=1) (by decide) (by decide) (by decide)
 rwa [packH01] at hh
section
variable {w0 w : World} {L : Loc} {bE σ : Nat} {s : Mm}
end
end Go.Proofs.YtkgpffcnimmdkaaGreat

namespace Go.Proofs.YtkgpffcnimmdkaaGreat
open Go.RowKit
theorem froze_dec (z : Int) (V : Nat) (h0 : 0 <= z) (h1 : z <= 1099511627775) (hV : V <= 4194303) : vOf (packX z true V) = z /\ frB (packX z true V) = true /\ crOf (packX z true V) = V:=by
 have e : packX z true V = z + V * 1099511627776 + 9223372036854775808:=by
  unfold packX
  rw [if_pos rfl,cut_id z 40 h0 (by simp;omega),cut_id V 22 (by omega) (by simp;omega)]
 rw [e]
 unfold vOf frB crOf
 exact ⟨by omega,decide_eq_true (by omega),by rw [if_pos (by omega)];omega⟩
section
variable {q : Q} {v : Int} {A V σ : Nat}
end
end Go.Proofs.YtkgpffcnimmdkaaGreat

namespace Go.Proofs.YtkgpffcnimmdkaaGreat
open Go.RowKit
theorem bs_is (c : Nat) : base 4 8 4 20 c = 38 + c * 20:=by unfold base;omega
def mw (Z c : Nat) : Mw:=⟨base 4 8 4 20 c,c,Z,(classOf Z).toNat,0,1,false,3⟩
theorem mw_ok {Z c : Nat} (z1 : 1 <= Z) (z2 : Z <= 16) (hc : c <= 2) : (mw Z c).ok 4 8 4 20:=by
 obtain ⟨h1,h2⟩:=class_room z1 z2
 exact ⟨z1,z2,h1,h2,(by decide : (0 : Nat) < 8),(by decide : (1 : Nat) <= 65535),(by show c < 4;omega),0,by show 0 + Z < 20;omega,rfl⟩
structure Wo (v : Int) (st A V : Nat) : Prop where
 wd : Wd v
 s : v % 8 = st
 a : adOf v = A
 g : genOf v = 1
 r : verOf' v = V
theorem verOf_le (v : Int) : verOf' v <= 4194303:=by unfold verOf';omega
theorem movW_dec (v : Int) : movW v % 8 = 2 /\ adOf (movW v) = adOf v /\ genOf (movW v) = genOf v /\ verOf' (movW v) = verOf' v:=by
 have d0:=packS_dec (st:=2) (A:=adOf v) (G:=genOf v) (V:=verOf' v) (by decide) (adOf_le v) (genOf_le v) (verOf_le v)
 have e : movW v = packS ((2 : Nat) : Int) (adOf v) (genOf v) (verOf' v : Nat):=rfl
 rw [<- e] at d0
 obtain ⟨a1,a2,a3,a4⟩:=d0
 exact ⟨a1,a2,a3,a4⟩
theorem shwW_dec (v : Int) {a : Nat} (ha : a <= 1048575) (hV : verOf' v + 1 <= 4194303) : shwW v a % 8 = 1 /\ adOf (shwW v a) = a /\ genOf (shwW v a) = genOf v /\ verOf' (shwW v a) = verOf' v + 1:=by
 have d0:=packS_dec (st:=1) (A:=a) (G:=genOf v) (V:=verOf' v + 1) (by decide) ha (genOf_le v) hV
 have e : shwW v a = packS ((1 : Nat) : Int) a (genOf v) ((verOf' v + 1 : Nat) : Int):=by unfold shwW;simp
 rw [<- e] at d0
 obtain ⟨a1,a2,a3,a4⟩:=d0
 exact ⟨a1,a2,a3,a4⟩
theorem stopW_dec (v : Int) (hV : verOf' v + 1 <= 4194303) : stopW v % 8 = 1 /\ adOf (stopW v) = adOf v /\ genOf (stopW v) = genOf v /\ verOf' (stopW v) = verOf' v + 1:=by
 have d0:=packS_dec (st:=1) (A:=adOf v) (G:=genOf v) (V:=verOf' v + 1) (by decide) (adOf_le v) (genOf_le v) hV
 have e : stopW v = packS ((1 : Nat) : Int) (adOf v) (genOf v) ((verOf' v + 1 : Nat) : Int):=by unfold stopW;simp
 rw [<- e] at d0
 obtain ⟨a1,a2,a3,a4⟩:=d0
 exact ⟨a1,a2,a3,a4⟩
theorem Wo.mov {v : Int} {st A V : Nat} (h : Wo v st A V) : Wo (movW v) 2 A V:=by
 obtain ⟨d1,d2,d3,d4⟩:=movW_dec v
 exact ⟨movW_wd v,d1,d2.trans h.a,d3.trans h.g,d4.trans h.r⟩
theorem Wo.shw {v : Int} {st A V B : Nat} (h : Wo v st A V) (hB : B <= 1048575) (hV : V + 1 <= 4194303) : Wo (shwW v B) 1 B (V + 1):=by
 obtain ⟨d1,d2,d3,d4⟩:=shwW_dec v hB (by rw [h.r];exact hV)
 exact ⟨shwW_wd v B,d1,d2,d3.trans h.g,by rw [d4,h.r]⟩
theorem Wo.stop {v : Int} {st A V : Nat} (h : Wo v st A V) (hV : V + 1 <= 4194303) : Wo (stopW v) 1 A (V + 1):=by
 obtain ⟨d1,d2,d3,d4⟩:=stopW_dec v (by rw [h.r];exact hV)
 exact ⟨stopW_wd v,d1,d2.trans h.a,d3.trans h.g,by rw [d4,h.r]⟩
theorem hw_dec {Z c : Nat} (z2 : Z <= 16) {kd : Nat} (hk : kd <= 3) : szOf ((mw Z c).hw kd) = Z /\ ownOf ((mw Z c).hw kd) = false /\ (mw Z c).hw kd % 4 = kd:=by
 have e:=packOw_is kd Z 0 1 false hk (by omega) (by decide) (by decide)
 have e' : (mw Z c).hw kd = kd + Z * 4 + 17179869184:=by
  show packOw (kd : Int) (Z : Int) ((0 : Nat) : Int) ((1 : Nat) : Int) false = _
  rw [e];simp
 rw [e']
 unfold szOf ownOf
 exact ⟨by omega,decide_eq_false (by omega),by omega⟩
structure Com (Z c : Nat) (val : Nat -> Int) (q : Q) : Prop where
 z1 : 1 <= Z
 z2 : Z <= 16
 c2 : c <= 2
 wd : ∀ a,Wd (q.dw a)
 hA : q.dw (base 4 8 4 20 c) = (mw Z c).hw 2
 nf : 0 ∉ q.F
 vb : ∀ j,j < Z -> 0 <= val j /\ val j <= 1099511627775
structure AtA (Z c V st : Nat) (val : Nat -> Int) (q : Q) : Prop where
 cm : Com Z c val q
 sw : Wo (q.sw 0) st (base 4 8 4 20 c) V
 cl : ∀ j,j < Z -> vOf (q.dw (base 4 8 4 20 c + 1 + j)) = val j /\ (frB (q.dw (base 4 8 4 20 c + 1 + j)) = true -> crOf (q.dw (base 4 8 4 20 c + 1 + j)) <= V /\ (st = 1 -> crOf (q.dw (base 4 8 4 20 c + 1 + j)) < V))
 lv : ∀ i,i < 4 -> q.lv i = (if i = c then room (mw Z c).κ else 0) /\ q.db i = 0
structure AtB (Z c V : Nat) (h : Int) (l d : Nat) (val : Nat -> Int) (q : Q) : Prop where
 cm : Com Z c val q
 sw : Wo (q.sw 0) 1 (base 4 8 4 20 (c + 1)) (V + 1)
 hB : q.dw (base 4 8 4 20 (c + 1)) = (mw Z c).hw h
 fr : ∀ j,j < Z -> frB (q.dw (base 4 8 4 20 c + 1 + j)) = true /\ crOf (q.dw (base 4 8 4 20 c + 1 + j)) = V
 cl : ∀ j,j < Z -> q.dw (base 4 8 4 20 (c + 1) + 1 + j) = val j
 lv : ∀ i,i < 4 -> q.lv i = (if i = c + 1 then room (mw Z c).κ else if i = c then l else 0) /\ q.db i = (if i = c + 1 then d else 0)
structure Lim (wr : Bool) (V f : Nat) : Prop where
 vm : V <= 4194301
 fm : f <= 2
 w : wr = true -> V <= f
 a : wr = false -> f = 0
def Rn (wr : Bool) (Z c V f : Nat) (val : Nat -> Int) (q : Q) (v : Int) (jf jc : Nat) : Prop :=
 (AtA Z c V 2 val q /\ q.sw 0 = v /\ Lim wr V f /\ (∀ j,j < jf -> frB (q.dw (base 4 8 4 20 c + 1 + j)) = true /\ crOf (q.dw (base 4 8 4 20 c + 1 + j)) = V) /\ ∀ j,j < jc -> q.dw (base 4 8 4 20 (c + 1) + 1 + j) = val j)
 \/ (wr = true /\ AtA Z c V 1 val q /\ f <= 2 /\ ∃ U,V = U + 1 /\ U <= f /\ Wo v 2 (base 4 8 4 20 c) U)
structure Cp (Z c : Nat) (yE : Y) (q : Q) (a i : Nat) : Prop where
 a : a = base 4 8 4 20 (c + 1)
 i : i = c + 1
 y : q.y = yE
 h : q.dw (base 4 8 4 20 (c + 1)) = (mw Z c).hw 1
def MI (wr : Bool) (Z c V : Nat) (val : Nat -> Int) (yE : Y) (r : Nat) (q : Q) : Mv -> Prop
 | .see τ f=>AtA Z c V 1 val q /\ Lim wr V f /\ ((τ = .see /\ Goes 4 20 (mw Z c).κ (base 4 8 4 20) r q.y .see yE (.won (base 4 8 4 20 (c + 1)) (c + 1))) \/ (τ = .won (base 4 8 4 20 (c + 1)) (c + 1) /\ q.y = yE))
 | .place v τ f=>AtA Z c V 1 val q /\ q.sw 0 = v /\ Lim wr V f /\ Goes 4 20 (mw Z c).κ (base 4 8 4 20) r q.y τ yE (.won (base 4 8 4 20 (c + 1)) (c + 1))
 | .head v a i f=>AtA Z c V 1 val q /\ q.sw 0 = v /\ Lim wr V f /\ a = base 4 8 4 20 (c + 1) /\ i = c + 1 /\ q.y = yE
 | .mark v a i f=>AtA Z c V 1 val q /\ q.sw 0 = v /\ Lim wr V f /\ Cp Z c yE q a i
 | .load v a i j f=>Rn wr Z c V f val q v j j /\ Cp Z c yE q a i /\ j < Z
 | .freeze v u a i j f=>Rn wr Z c V f val q v j j /\ Cp Z c yE q a i /\ j < Z /\ Wd u
 | .copy v u a i j f=>Rn wr Z c V f val q v (j + 1) j /\ Cp Z c yE q a i /\ j < Z /\ Wd u /\ (q.sw 0 = v -> vOf u = val j)
 | .shw v a i f=>Rn wr Z c V f val q v Z Z /\ Cp Z c yE q a i
 | .ready a i=>AtB Z c V 1 (room (mw Z c).κ) (room (mw Z c).κ) val q /\ a = base 4 8 4 20 (c + 1) /\ i = c + 1 /\ q.y = yE
 | .grow a i=>AtB Z c V 2 (room (mw Z c).κ) (room (mw Z c).κ) val q /\ a = base 4 8 4 20 (c + 1) /\ i = c + 1 /\ q.y = yE
 | .fall a i=>AtB Z c V 2 (room (mw Z c).κ) 0 val q /\ a = base 4 8 4 20 (c + 1) /\ i = c + 1 /\ q.y = yE
 | .bury o a i=>wr = true /\ o = 3 /\ AtA Z c V 1 val q /\ a = base 4 8 4 20 (c + 1) /\ i = c + 1
 | .over o τ=>(o = 1 /\ AtB Z c V 2 0 0 val q /\ τ = .won (base 4 8 4 20 (c + 1)) (c + 1) /\ q.y = yE) \/ (wr = true /\ o = 3 /\ AtA Z c V 1 val q)
def rst (wr : Bool) (Z f : Nat) : Nat:=if wr then (2 - f) * (3 * Z + 8) else 0
def mpot (wr : Bool) (Z c r : Nat) (q : Q) : Mv -> Nat
 | .see τ f=>rst wr Z f + 3 * Z + 9 + (match τ with | .won _ _=>0 | _=>r)
 | .place _ _ f=>rst wr Z f + 3 * Z + 8 + r
 | .head _ _ _ f=>rst wr Z f + 3 * Z + 8
 | .mark _ _ _ f=>rst wr Z f + 3 * Z + 7
 | .load _ _ _ j f=>rst wr Z f + 3 * (Z - j) + 6
 | .freeze _ u _ _ j f=>rst wr Z f + 3 * (Z - j) + 5 + (if q.dw (base 4 8 4 20 c + 1 + j) = u then 0 else 2)
 | .copy _ _ _ _ j f=>rst wr Z f + 3 * (Z - j) + 4
 | .shw _ _ _ f=>rst wr Z f + 6
 | .ready _ _=>3
 | .grow _ _=>2
 | .fall _ _=>1
 | .bury _ _ _=>1
 | .over _ _=>0
theorem cell_frozen {u : Int} {V : Nat} (hV : V <= 4194303) : vOf (froze u V) = vOf u /\ frB (froze u V) = true /\ crOf (froze u V) = V :=
 froze_dec (u % 1099511627776) V (by omega) (by omega) hV
theorem val_cell {z : Int} (h : 0 <= z /\ z <= 1099511627775) : packX z false 0 = z /\ vOf z = z /\ frB z = false:=⟨packX_val h.1 h.2,vOf_val h.1 h.2,frB_val h.2⟩
theorem cp_ok {Z c : Nat} (hc : c <= 2) : CpOk 4 8 4 20 (mw Z c).κ (base 4 8 4 20 (c + 1)) (c + 1) :=
 ⟨by omega,0,by have:=(room_bd (mw Z c).κ).2;omega,rfl⟩
section
variable {wr : Bool} {Z c V st r : Nat} {val : Nat -> Int} {q : Q} {yE : Y}
theorem AtA.off (h : AtA Z c V st val q) {a : Nat} (ha : base 4 8 4 20 (c + 1) <= a) {u : Int} (hu : Wd u) : AtA Z c V st val { q with dw:=upd q.dw a u }:=by
 have z2:=h.cm.z2
 have e1:=bs_is c
 have e2:=bs_is (c + 1)
 refine ⟨⟨h.cm.z1,z2,h.cm.c2,upd_wd h.cm.wd _ hu,?_,h.cm.nf,h.cm.vb⟩,h.sw,fun j hj=>?_,h.lv⟩
 · show upd q.dw a u _ = _
   rw [upd_other _ _ _ _ (by omega)];exact h.cm.hA
 · show vOf (upd q.dw a u _) = _ /\ (frB (upd q.dw a u _) = true -> crOf (upd q.dw a u _) <= _ /\ (_ -> crOf (upd q.dw a u _) < _))
   rw [upd_other _ _ _ _ (by omega)];exact h.cl j hj
theorem AtA.froze (h : AtA Z c V st val q) {j U : Nat} (hU : U <= 4194303) (hj : j < Z) (h1 : U <= V) (h2 : st = 1 -> U < V) : AtA Z c V st val { q with dw:=upd q.dw (base 4 8 4 20 c + 1 + j) (froze (q.dw (base 4 8 4 20 c + 1 + j)) U) }:=by
 obtain ⟨f1,f2,f3⟩:=cell_frozen (u:=q.dw (base 4 8 4 20 c + 1 + j)) hU
 refine ⟨⟨h.cm.z1,h.cm.z2,h.cm.c2,upd_wd h.cm.wd _ (froze_wd _ _),?_,h.cm.nf,h.cm.vb⟩,h.sw,fun i hi=>?_,h.lv⟩
 · show upd q.dw _ _ _ = _
   rw [upd_other _ _ _ _ (by omega)];exact h.cm.hA
 · show vOf (upd q.dw _ _ _) = _ /\ (frB (upd q.dw _ _ _) = true -> crOf (upd q.dw _ _ _) <= _ /\ (_ -> crOf (upd q.dw _ _ _) < _))
   by_cases e : i = j
   · subst e
     rw [upd_same,f1,f3]
     exact ⟨(h.cl i hi).1,fun _=>⟨by omega,fun e=>by have:=h2 e;omega⟩⟩
   · rw [upd_other _ _ _ _ (by omega)];exact h.cl i hi
theorem AtA.to {V' st' : Nat} (h : AtA Z c V st val q) {v : Int} (hv : Wo v st' (base 4 8 4 20 c) V') (h1 : st' = 1 -> V < V' \/ (V <= V' /\ st = 1)) (h2 : V <= V') : AtA Z c V' st' val { q with sw:=upd q.sw 0 v }:=by
 refine ⟨⟨h.cm.z1,h.cm.z2,h.cm.c2,h.cm.wd,h.cm.hA,h.cm.nf,h.cm.vb⟩,?_,fun j hj=>⟨(h.cl j hj).1,fun hf=>?_⟩,h.lv⟩
 · have e : (upd q.sw 0 v) 0 = v:=upd_same _ _ _
   show Wo ((upd q.sw 0 v) 0) _ _ _
   rw [e];exact hv
 · have k:=(h.cl j hj).2 hf
   have k1 : crOf (q.dw (base 4 8 4 20 c + 1 + j)) <= V:=k.1
   refine ⟨show crOf (q.dw (base 4 8 4 20 c + 1 + j)) <= V' by omega,fun e=>?_⟩
   show crOf (q.dw (base 4 8 4 20 c + 1 + j)) < V'
   rcases h1 e with h3 | ⟨h3,h4⟩
   · omega
   · have:=k.2 h4
     omega
theorem AtA.ne (h : AtA Z c V 1 val q) {v : Int} (hv : v % 8 = 2) : q.sw 0 ≠ v:=fun e=>by
 have:=h.sw.s
 rw [e] at this
 omega
theorem Cp.lay {a i : Nat} (h : Cp Z c yE q a i) {b : Nat} {u : Int} (hb : b ≠ base 4 8 4 20 (c + 1)) : Cp Z c yE { q with dw:=upd q.dw b u } a i :=
 ⟨h.a,h.i,h.y,by show upd q.dw b u _ = _;rw [upd_other _ _ _ _ hb.symm];exact h.h⟩
theorem Rn.lim {f : Nat} {v : Int} {jf jc : Nat} (h : Rn wr Z c V f val q v jf jc) : f <= 2 /\ Wd v /\ Com Z c val q:=by
 rcases h with ⟨hA,rfl,hl,-,-⟩ | ⟨-,hA,hf,U,-,-,hv⟩
 · exact ⟨hl.fm,hA.sw.wd,hA.cm⟩
 · exact ⟨hf,hv.wd,hA.cm⟩
theorem rst_succ {f : Nat} (hw : wr = true) (hf : f + 1 <= 2) : rst wr Z f = rst wr Z (f + 1) + (3 * Z + 8):=by
 unfold rst
 rw [if_pos hw,if_pos hw]
 have : f = 0 \/ f = 1:=by omega
 rcases this with rfl | rfl <;> omega
theorem mi_step {μ μ' : Mv} {q' : Q} (h : MI wr Z c V val yE r q μ) (ho : μ.over? = false) (ht : mvTurn (mw Z c) 4 20 (base 4 8 4 20) q μ = (q',μ')) (σ : Nat) (hpg : ∀ v τ f,μ = .place v τ f -> τ.good 4 20 (mw Z c).κ σ) :
 μ.good 4 8 4 20 σ (mw Z c) q /\ ∃ r',r' <= r /\ MI wr Z c V val yE r' q' μ' /\ mpot wr Z c r' q' μ' + 1 <= mpot wr Z c r q μ:=by
 have e1:=bs_is c
 have e2:=bs_is (c + 1)
 cases μ with
 | over=>cases ho
 | see τ f =>
  obtain ⟨hA,hL,hτ⟩:=h
  have hc:=hA.cm.c2
  obtain ⟨rfl,hμ⟩:=Prod.mk.inj (show (q,mvSee (mw Z c) (q.sw 0) τ f) = (q',μ') from ht)
  have hh : (mw Z c).here (q.sw 0) = true:=by
   unfold Mw.here
   rw [decide_eq_true (show genOf (q.sw 0) = (mw Z c).G from hA.sw.g),decide_eq_true (show adOf (q.sw 0) = (mw Z c).A from hA.sw.a)]
   rfl
  have hs : q.sw 0 % 8 = 1:=hA.sw.s
  have hm : mvSee (mw Z c) (q.sw 0) τ f = mvNext (q.sw 0) f τ:=by
   have:=hL.vm
   unfold mvSee
   rw [hh,decide_eq_false (by omega : ¬ q.sw 0 % 8 = 4),decide_eq_true hs,if_neg (by simp),if_pos (by simp),if_neg (by rw [hA.sw.r];omega)]
  rw [hm] at hμ
  rcases hτ with ⟨rfl,hgo⟩ | ⟨rfl,hy⟩
  · subst hμ
    exact ⟨⟨Or.inl rfl,by have:=hL.fm;omega⟩,r,Nat.le_refl _,⟨hA,rfl,hL,hgo⟩,by simp only [mpot,mvNext];omega⟩
  · subst hμ
    exact ⟨⟨Or.inr ⟨_,_,rfl,cp_ok hc⟩,by have:=hL.fm;omega⟩,r,Nat.le_refl _,⟨hA,rfl,hL,rfl,rfl,hy⟩,by simp only [mpot,mvNext];omega⟩
 | place v τ f =>
  obtain ⟨hA,rfl,hL,hgo⟩:=h
  have hfm:=hL.fm
  have gd:=hpg _ _ _ rfl
  have ht' : mvPlace q (q.sw 0) f (turn 4 20 (mw Z c).κ (base 4 8 4 20) q.y τ) = (q',μ'):=ht
  cases hgo with
  | one hov htu h1 =>
   rw [htu] at ht'
   obtain ⟨rfl,rfl⟩:=Prod.mk.inj (show ({ q with y:=yE },Mv.head (q.sw 0) (base 4 8 4 20 (c + 1)) (c + 1) f) = (q',μ') from ht')
   exact ⟨⟨gd,hov,hA.sw.wd,by omega⟩,0,Nat.zero_le _,⟨⟨⟨hA.cm.z1,hA.cm.z2,hA.cm.c2,hA.cm.wd,hA.cm.hA,hA.cm.nf,hA.cm.vb⟩,hA.sw,hA.cl,hA.lv⟩,rfl,hL,rfl,rfl,rfl⟩,by simp only [mpot];omega⟩
  | @more N _ _ y1 τ1 _ _ hov htu h1 g1 =>
   rw [htu] at ht'
   have e : mvPlace q (q.sw 0) f (y1,τ1) = ({ q with y:=y1 },.place (q.sw 0) τ1 f):=by
    cases τ1 <;> first | rfl | cases h1
   rw [e] at ht'
   obtain ⟨rfl,rfl⟩:=Prod.mk.inj ht'
   exact ⟨⟨gd,hov,hA.sw.wd,by omega⟩,N,Nat.le_succ _,⟨⟨⟨hA.cm.z1,hA.cm.z2,hA.cm.c2,hA.cm.wd,hA.cm.hA,hA.cm.nf,hA.cm.vb⟩,hA.sw,hA.cl,hA.lv⟩,rfl,hL,g1⟩,by simp only [mpot];omega⟩
 | head v a i f =>
  obtain ⟨hA,rfl,hL,rfl,rfl,hy⟩:=h
  have hfm:=hL.fm
  obtain ⟨rfl,rfl⟩:=Prod.mk.inj ht
  refine ⟨⟨cp_ok hA.cm.c2,hA.sw.wd,by omega⟩,0,Nat.zero_le _,⟨hA.off (Nat.le_refl _) (Mw.hw_wd _ _),rfl,hL,rfl,rfl,hy,upd_same _ _ _⟩,by simp only [mpot];omega⟩
 | mark v a i f =>
  obtain ⟨hA,rfl,hL,C⟩:=h
  have hfm:=hL.fm
  have hmo:=hA.sw.mov
  have hm : mvTurn (mw Z c) 4 20 (base 4 8 4 20) q (.mark (q.sw 0) a i f) = ({ q with sw:=upd q.sw 0 (movW (q.sw 0)) },.load (movW (q.sw 0)) a i 0 f):=by
   show (if q.sw 0 = q.sw 0 then _ else _) = _
   rw [if_pos rfl];rfl
  rw [hm] at ht
  generalize movW (q.sw 0) = v' at ht hmo
  obtain ⟨rfl,rfl⟩:=Prod.mk.inj ht
  obtain ⟨rfl,rfl,hy,hh⟩:=C
  have hu : (upd q.sw 0 v') 0 = v':=upd_same _ _ _
  refine ⟨⟨cp_ok hA.cm.c2,hA.sw.wd,by omega⟩,0,Nat.zero_le _,⟨Or.inl ⟨hA.to hmo (fun e=>absurd e (by decide)) (Nat.le_refl _),hu,hL,fun j hj=>absurd hj (by omega),fun j hj=>absurd hj (by omega)⟩,⟨rfl,rfl,hy,hh⟩,hA.cm.z1⟩,by simp only [mpot];omega⟩
 | load v a i j f =>
  obtain ⟨hR,C,hj⟩:=h
  obtain ⟨hf,wv,cm⟩:=hR.lim
  have hy:=C.y
  have hh:=C.h
  have gd : Mv.good 4 8 4 20 σ (mw Z c) q (.load v a i j f):=⟨by rw [C.a,C.i];exact cp_ok cm.c2,wv,hj,by omega⟩
  simp only [mvTurn] at ht
  obtain ⟨rfl,hμ⟩:=Prod.mk.inj ht
  have hμ' : (if frB (q.dw (base 4 8 4 20 c + 1 + j)) && decide ((verOf' v : Int) <= crOf (q.dw (base 4 8 4 20 c + 1 + j))) then Mv.copy v (q.dw (base 4 8 4 20 c + 1 + j)) a i j f else Mv.freeze v (q.dw (base 4 8 4 20 c + 1 + j)) a i j f) = μ':=hμ
  by_cases hb : (frB (q.dw (base 4 8 4 20 c + 1 + j)) && decide ((verOf' v : Int) <= crOf (q.dw (base 4 8 4 20 c + 1 + j)))) = true
  · rw [if_pos hb] at hμ'
    subst hμ'
    rw [Bool.and_eq_true] at hb
    have hb2:=of_decide_eq_true hb.2
    refine ⟨gd,0,Nat.zero_le _,⟨?_,C,hj,cm.wd _,?_⟩,by simp only [mpot];omega⟩
    · rcases hR with ⟨hA,hv,hL,h1,h2⟩ | hs
      · refine Or.inl ⟨hA,hv,hL,fun i hi=>?_,h2⟩
        by_cases e : i = j
        · subst e
          have k1:=((hA.cl i hj).2 hb.1).1
          have k2:=hA.sw.r
          rw [hv] at k2
          exact ⟨hb.1,by omega⟩
        · exact h1 i (by omega)
      · exact Or.inr hs
    · intro hv
      rcases hR with ⟨hA,-,-,-,-⟩ | ⟨-,hA,-,U,-,-,hw⟩
      · exact (hA.cl j hj).1
      · exact (hA.cl j hj).1
  · rw [if_neg hb] at hμ'
    subst hμ'
    exact ⟨gd,0,Nat.zero_le _,⟨hR,C,hj,cm.wd _⟩,by simp only [mpot,if_true];omega⟩
 | freeze v u a i j f =>
  obtain ⟨hR,C,hj,wu⟩:=h
  obtain ⟨hf,wv,cm⟩:=hR.lim
  have gd : Mv.good 4 8 4 20 σ (mw Z c) q (.freeze v u a i j f):=⟨by rw [C.a,C.i];exact cp_ok cm.c2,wv,wu,hj,by omega⟩
  have ht' : (if q.dw (base 4 8 4 20 c + 1 + j) = u then ({ q with dw:=upd q.dw (base 4 8 4 20 c + 1 + j) (froze u (verOf' v)) },Mv.copy v u a i j f) else (q,Mv.load v a i j f)) = (q',μ'):=ht
  by_cases hw : q.dw (base 4 8 4 20 c + 1 + j) = u
  · rw [if_pos hw] at ht'
    obtain ⟨rfl,rfl⟩:=Prod.mk.inj ht'
    have C' : Cp Z c yE { q with dw:=upd q.dw (base 4 8 4 20 c + 1 + j) (froze u (verOf' v)) } a i:=C.lay (by have:=cm.z2;omega)
    obtain ⟨f1,f2,f3⟩:=cell_frozen (u:=u) (verOf_le v)
    refine ⟨gd,0,Nat.zero_le _,⟨?_,C',hj,wu,?_⟩,by simp only [mpot,hw,if_true];omega⟩
    · rcases hR with ⟨hA,hv,hL,h1,h2⟩ | ⟨hwr,hA,hf2,U,hVU,hUf,hvw⟩
      · have hvr : verOf' v = V:=by rw [<- hv];exact hA.sw.r
        have k:=hA.froze (j:=j) (U:=verOf' v) (verOf_le v) hj (by omega) (fun e=>absurd e (by decide))
        rw [hw] at k
        refine Or.inl ⟨k,hv,hL,fun i hi=>?_,fun i hi=>?_⟩
        · show frB (upd q.dw _ _ _) = true /\ crOf (upd q.dw _ _ _) = _
          by_cases e : i = j
          · subst e;rw [upd_same,f2,f3,hvr];exact ⟨rfl,rfl⟩
          · rw [upd_other _ _ _ _ (by omega)];exact h1 i (by omega)
        · show upd q.dw _ _ _ = _
          have:=cm.z2
          rw [upd_other _ _ _ _ (by omega)];exact h2 i hi
      · have hvr : verOf' v = U:=hvw.r
        have k:=hA.froze (j:=j) (U:=verOf' v) (verOf_le v) hj (by omega) (fun _=>by omega)
        rw [hw] at k
        exact Or.inr ⟨hwr,k,hf2,U,hVU,hUf,hvw⟩
    · intro hv
      rw [<- hw]
      rcases hR with ⟨hA,-,-,-,-⟩ | ⟨-,hA,-,U,-,-,hw⟩
      · exact (hA.cl j hj).1
      · exact (hA.cl j hj).1
  · rw [if_neg hw] at ht'
    obtain ⟨rfl,rfl⟩:=Prod.mk.inj ht'
    exact ⟨gd,0,Nat.zero_le _,⟨hR,C,hj⟩,by simp only [mpot,hw,if_false];omega⟩
 | copy v u a i j f =>
  obtain ⟨hR,C,hj,wu,hvu⟩:=h
  obtain ⟨hf,wv,cm⟩:=hR.lim
  have z2:=cm.z2
  obtain ⟨rfl,rfl,hy,hh⟩:=C
  have C : Cp Z c yE q (base 4 8 4 20 (c + 1)) (c + 1):=⟨rfl,rfl,hy,hh⟩
  have gd : Mv.good 4 8 4 20 σ (mw Z c) q (.copy v u (base 4 8 4 20 (c + 1)) (c + 1) j f):=⟨cp_ok cm.c2,wv,wu,hj,by omega⟩
  have ht' : ({ q with dw:=upd q.dw (base 4 8 4 20 (c + 1) + 1 + j) (packX (vOf u) false 0) },if Z <= j + 1 then Mv.shw v (base 4 8 4 20 (c + 1)) (c + 1) f else Mv.load v (base 4 8 4 20 (c + 1)) (c + 1) (j + 1) f) = (q',μ'):=ht
  obtain ⟨rfl,hμ⟩:=Prod.mk.inj ht'
  have C' : Cp Z c yE { q with dw:=upd q.dw (base 4 8 4 20 (c + 1) + 1 + j) (packX (vOf u) false 0) } (base 4 8 4 20 (c + 1)) (c + 1):=C.lay (by omega)
  have hR' : Rn wr Z c V f val { q with dw:=upd q.dw (base 4 8 4 20 (c + 1) + 1 + j) (packX (vOf u) false 0) } v (j + 1) (j + 1):=by
   rcases hR with ⟨hA,hv,hL,h1,h2⟩ | ⟨hwr,hA,hf2,U,hVU,hUf,hvw⟩
   · refine Or.inl ⟨hA.off (by omega) (packX_wd _ _ _),hv,hL,fun i hi=>?_,fun i hi=>?_⟩
     · show frB (upd q.dw _ _ _) = true /\ crOf (upd q.dw _ _ _) = _
       rw [upd_other _ _ _ _ (by omega)];exact h1 i hi
     · show upd q.dw _ _ _ = _
       by_cases e : i = j
       · subst e;rw [upd_same,hvu hv];exact packX_val (cm.vb i hj).1 (cm.vb i hj).2
       · rw [upd_other _ _ _ _ (by omega)];exact h2 i (by omega)
   · exact Or.inr ⟨hwr,hA.off (by omega) (packX_wd _ _ _),hf2,U,hVU,hUf,hvw⟩
  by_cases hz : Z <= j + 1
  · rw [if_pos hz] at hμ
    subst hμ
    have e : j + 1 = Z:=by omega
    rw [e] at hR'
    exact ⟨gd,0,Nat.zero_le _,⟨hR',C'⟩,by simp only [mpot];omega⟩
  · rw [if_neg hz] at hμ
    subst hμ
    exact ⟨gd,0,Nat.zero_le _,⟨hR',C',by omega⟩,by simp only [mpot];omega⟩
 | shw v a i f =>
  obtain ⟨hR,C⟩:=h
  obtain ⟨hf,wv,cm⟩:=hR.lim
  have z2:=cm.z2
  have hc2:=cm.c2
  obtain ⟨rfl,rfl,hy,hh⟩:=C
  have gd : Mv.good 4 8 4 20 σ (mw Z c) q (.shw v (base 4 8 4 20 (c + 1)) (c + 1) f):=⟨cp_ok cm.c2,wv,by omega⟩
  have ht' : (if q.sw 0 = v then ({ q with sw:=upd q.sw 0 (shwW v (base 4 8 4 20 (c + 1))),lv:=upd q.lv (c + 1) (q.lv (c + 1) + room (mw Z c).κ),db:=upd q.db (c + 1) (q.db (c + 1) + room (mw Z c).κ) },Mv.ready (base 4 8 4 20 (c + 1)) (c + 1)) else (q,if (3 : Int) <= (f : Int) + 1 then Mv.bury 3 (base 4 8 4 20 (c + 1)) (c + 1) else Mv.see (.won (base 4 8 4 20 (c + 1)) (c + 1)) (f + 1))) = (q',μ'):=ht
  rcases hR with ⟨hA,hv,hL,h1,h2⟩ | ⟨hwr,hA,hf2,U,hVU,hUf,hvw⟩
  · rw [if_pos hv] at ht'
    obtain ⟨rfl,rfl⟩:=Prod.mk.inj ht'
    have hvm:=hL.vm
    have hWo : Wo v 2 (base 4 8 4 20 c) V:=hv ▸ hA.sw
    refine ⟨gd,0,Nat.zero_le _,⟨⟨⟨cm.z1,z2,hc2,cm.wd,cm.hA,cm.nf,cm.vb⟩,?_,hh,h1,h2,fun i hi=>⟨?_,?_⟩⟩,rfl,rfl,hy⟩,by simp only [mpot];omega⟩
    · have e : (upd q.sw 0 (shwW v (base 4 8 4 20 (c + 1)))) 0 = shwW v (base 4 8 4 20 (c + 1)):=upd_same _ _ _
      show Wo ((upd q.sw 0 (shwW v (base 4 8 4 20 (c + 1)))) 0) _ _ _
      rw [e]
      exact hWo.shw (by omega) (by omega)
    · show upd q.lv _ _ i = _
      by_cases e : i = c + 1
      · subst e
        rw [upd_same,if_pos rfl,(hA.lv (c + 1) (by omega)).1,if_neg (by omega),Nat.zero_add]
      · rw [upd_other _ _ _ _ e,if_neg e];exact (hA.lv i hi).1
    · show upd q.db _ _ i = _
      by_cases e : i = c + 1
      · subst e
        rw [upd_same,if_pos rfl,(hA.lv (c + 1) (by omega)).2,Nat.zero_add]
      · rw [upd_other _ _ _ _ e,if_neg e];exact (hA.lv i hi).2
  · rw [if_neg (hA.ne hvw.s)] at ht'
    obtain ⟨rfl,hμ⟩:=Prod.mk.inj ht'
    by_cases h3 : (3 : Int) <= (f : Int) + 1
    · rw [if_pos h3] at hμ
      subst hμ
      exact ⟨gd,0,Nat.zero_le _,⟨hwr,rfl,hA,rfl,rfl⟩,by simp only [mpot];omega⟩
    · rw [if_neg h3] at hμ
      subst hμ
      refine ⟨gd,0,Nat.zero_le _,⟨hA,⟨by omega,by omega,fun _=>by omega,fun e=>by rw [hwr] at e;cases e⟩,Or.inr ⟨rfl,hy⟩⟩,?_⟩
      have:=rst_succ (Z:=Z) hwr (show f + 1 <= 2 by omega)
      simp only [mpot];omega
 | ready a i =>
  obtain ⟨hB,rfl,rfl,hy⟩:=h
  have z2:=hB.cm.z2
  obtain ⟨rfl,rfl⟩:=Prod.mk.inj ht
  refine ⟨cp_ok hB.cm.c2,0,Nat.zero_le _,⟨⟨⟨hB.cm.z1,z2,hB.cm.c2,upd_wd hB.cm.wd _ (Mw.hw_wd _ _),?_,hB.cm.nf,hB.cm.vb⟩,hB.sw,upd_same _ _ _,fun j hj=>?_,fun j hj=>?_,hB.lv⟩,rfl,rfl,hy⟩,by simp only [mpot];omega⟩
  · show upd q.dw _ _ _ = _
    rw [upd_other _ _ _ _ (by omega)];exact hB.cm.hA
  · show frB (upd q.dw _ _ _) = true /\ crOf (upd q.dw _ _ _) = _
    rw [upd_other _ _ _ _ (by omega)];exact hB.fr j hj
  · show upd q.dw _ _ _ = _
    rw [upd_other _ _ _ _ (by omega)];exact hB.cl j hj
 | grow a i =>
  obtain ⟨hB,rfl,rfl,hy⟩:=h
  obtain ⟨rfl,rfl⟩:=Prod.mk.inj ht
  have hc2:=hB.cm.c2
  refine ⟨⟨cp_ok hB.cm.c2,by rw [(hB.lv (c + 1) (by omega)).2,if_pos rfl];exact Nat.le_refl _⟩,0,Nat.zero_le _,⟨⟨⟨hB.cm.z1,hB.cm.z2,hB.cm.c2,hB.cm.wd,hB.cm.hA,hB.cm.nf,hB.cm.vb⟩,hB.sw,hB.hB,hB.fr,hB.cl,fun j hj=>⟨(hB.lv j hj).1,?_⟩⟩,rfl,rfl,hy⟩,by simp only [mpot];omega⟩
  show upd q.db _ _ j = _
  by_cases e : j = c + 1
  · subst e;rw [upd_same,(hB.lv (c + 1) (by omega)).2,if_pos rfl,if_pos rfl];exact Nat.sub_self _
  · rw [upd_other _ _ _ _ e,(hB.lv j hj).2,if_neg e,if_neg e]
 | fall a i =>
  obtain ⟨hB,rfl,rfl,hy⟩:=h
  obtain ⟨rfl,rfl⟩:=Prod.mk.inj ht
  have hc2:=hB.cm.c2
  have hl : q.lv c = room (mw Z c).κ:=by rw [(hB.lv c (by omega)).1,if_neg (by omega),if_pos rfl]
  refine ⟨⟨cp_ok hB.cm.c2,Nat.le_of_eq hl.symm⟩,0,Nat.zero_le _,Or.inl ⟨rfl,⟨⟨hB.cm.z1,hB.cm.z2,hB.cm.c2,hB.cm.wd,hB.cm.hA,hB.cm.nf,hB.cm.vb⟩,hB.sw,hB.hB,hB.fr,hB.cl,fun j hj=>⟨?_,(hB.lv j hj).2⟩⟩,rfl,hy⟩,by simp only [mpot];omega⟩
  show upd q.lv c (q.lv c - room (mw Z c).κ) j = _
  by_cases e : j = c
  · subst e;rw [upd_same,hl,if_neg (by omega),if_pos rfl];exact Nat.sub_self _
  · rw [upd_other _ _ _ _ e,(hB.lv j hj).1,if_neg e,if_neg e]
 | bury ou a i =>
  obtain ⟨hwr,rfl,hA,rfl,rfl⟩:=h
  obtain ⟨rfl,rfl⟩:=Prod.mk.inj ht
  exact ⟨cp_ok hA.cm.c2,0,Nat.zero_le _,Or.inr ⟨hwr,rfl,hA.off (Nat.le_refl _) (Mw.hw_wd _ _)⟩,by simp only [mpot];omega⟩
end
end Go.Proofs.YtkgpffcnimmdkaaGreat
