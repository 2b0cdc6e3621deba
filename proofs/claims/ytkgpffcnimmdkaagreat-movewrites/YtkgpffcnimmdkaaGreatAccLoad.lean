import Derived.Test.YtkgpffcnimmdkaaGreatAccDo
namespace Go.Proofs.YtkgpffcnimmdkaaGreat
open Go.RowKit
set_option maxRecDepth 20000
set_option maxHeartbeats 1000000 in
theorem aload_check {w : World} {L : Loc} {s : Mm} {b o : Nat} {T : TypeId} {cs : Array Value} {t n k m : Nat} {g p r : Int} {a : CV} (h : MemAt w L s) (hb : ¬ L.has b) (hi : AcAt w b o T cs a) (who : Int) {x : Nat} {G : Int} {st : Int} {A : Nat} {Gs V : Int} (hs : SlotIs a.se st A Gs V) {j : Nat} (hix : a.ix = j) (j1 : j <= 16) (hn : (A + 1 + j) < s.n) {u z vr : Int} {fz : Bool} (hu : s.wd (A + 1 + j) = u) (hc : CellIs u z fz vr) {σ : Nat} (hσ : wrap64 (s.steps + 1) = σ) (hr : (decide (a.kd = 1) || a.oth z) = true)  :
 Calls Tryz.prog 89 #[.pointer (some ⟨b,o,none⟩),.agg #[.int .i64 t,.int .i64 n,.int .i64 k,.int .i64 m,.int .i64 g,.int .i64 p,.int .i64 r,.pointer (some ⟨L.p,0,none⟩),.int .i64 who],.agg #[.int .i64 x,.int .i64 G]] w fun e w'=>e = .returned (.tuple #[]) /\ Cact L b o T cs w w' (fun s' a'=>s' = ((s.by who).step (A + 1 + j) (s.wd (A + 1 + j))) /\ a' = { a with ce:=u,ld:=σ,nx:=3 }):=by
 have HU : Hid (s.wd (A + 1 + j) = u):=hu
 have HS : Hid ((((s.by who).step (A + 1 + j) (s.wd (A + 1 + j)))).steps = σ):=hσ
 have HR : Hid ((decide (a.kd = 1) || a.oth z) = true):=hr
 have sw:=hs.call
 have cc:=hc.call
 have ab : (A : Int) <= 1048575:=by have:=hs.ad;omega
 have HX : Hid (a.ix = j):=hix
 clear hu hs hc hσ hr hix
 have hbv : ¬ L.has w.heap.size:=fun hh=>by have:=h.lt _ hh;omega
 have hbb : ¬ w.heap.size = b:=fun hh=>by have:=hi.lt;omega
 have hbv1 : ¬ L.has (w.heap.size + 1):=fun hh=>by have:=h.lt _ hh;omega
 have hbb1 : ¬ w.heap.size + 1 = b:=fun hh=>by have:=hi.lt;omega
 have i0:=(hi.grown (grow1 _ (.cells #[.int .i64 t,.int .i64 n,.int .i64 k,.int .i64 m,.int .i64 g,.int .i64 p,.int .i64 r,.pointer (some ⟨L.p,0,none⟩),.int .i64 who] 27))).grown (grow1 _ (.cells #[.int .i64 x,.int .i64 G] 74))
 have k3:=i0.c_se
 go_enter Tryz.func89,Tryz.ntmps89
 go_wp2_with (go_at_call 34;refine (sw _).mono ?_;rintro e w3 ⟨rfl,b3⟩)
 have q0:=At.new w3 42 [.int .i64 st,.int .i64 A,.int .i64 Gs,.int .i64 V]
 obtain ⟨S,hS⟩ : ∃ S,w3.heap.size = S:=⟨_,rfl⟩
 have lS : ¬ L.has S:=fun hh=>by have:=h.lt _ hh;have:=b3.size;simp only [Go.Deep.nblk_alloc] at this;omega
 have bS : S ≠ b:=by have:=hi.lt;have:=b3.size;simp only [Go.Deep.nblk_alloc] at this;omega
 rw [hS] at q0 ⊢
 refine wp_over (fun W=>MemAt W L s /\ AcAt W b o T cs a /\ BoxV W w.heap.size t n k m g p r L.p who /\ At W S 0 42 _ [.int .i64 st,.int .i64 A,.int .i64 Gs,.int .i64 V] /\ Only (L.and b) w W) ⟨(((h.alloc _).alloc _).below b3).alloc _,(i0.grown b3).grown (grow1 _ _),((BoxV.newB _).grown b3).grown (grow1 _ _),q0,((((Only.refl _ _).alloc _).alloc _).trans (Only.ofGrown b3)).alloc _⟩ ?_
 clear b3 i0 k3 sw q0 hS
 rintro W ⟨m1,i1,v1,q1,o1⟩
 refine wp_region_phase (OnlyBut L b (o + 10)) Grown (phAc L b o T cs (cs.setIfInBounds (o + 10) (.int .u64 u)) s ((s.by who).step (A + 1 + j) (s.wd (A + 1 + j))) a { a with ce:=u }) [5,8] [.val (.pointer (some ⟨b,o,none⟩)),.val (.agg #[.int .i64 t,.int .i64 n,.int .i64 k,.int .i64 m,.int .i64 g,.int .i64 p,.int .i64 r,.pointer (some ⟨L.p,0,none⟩),.int .i64 who]),.val (.pointer (some ⟨b,o,none⟩)),.val (.agg #[.int .i64 st,.int .i64 A,.int .i64 Gs,.int .i64 V]),.val (.int .i64 (((A + 1 + j) : Nat) : Int)),.val (.int .u64 u),.val (.pointer (some ⟨b,o,none⟩)),.val (.pointer (some ⟨b,o + 10,none⟩)),.that (fun _ _=>True) (fun _ _ _ _ _=>trivial)]
  (by kernel_rfl) OnlyBut.refl OnlyBut.trans OnlyBut.ofGrown phAc_grown ⟨m1.drew,i1.drew⟩ (by kernel_rfl) (by kernel_rfl) (by kernel_rfl) (by kernel_rfl) (by kernel_rfl) ?_
 simp only [phaseAll,Act.put,List.setIfInBounds_toArray,List.set_cons_zero,List.set_cons_succ]
 refine ⟨?_,?_,?_,?_,?_,?_,?_,?_,?_,?_⟩
 · intros;apply ol;go_simp;exact gl
 · intro w' hR _
   apply ol
   obtain ⟨y0,y1,y2,y3,y4,y5,y6,y7,y8⟩:=(v1.grown ((Below.refl _ _).drew)).only hR.only (fun hh=>hh.elim hbv hbb)
   go_simp
   exact gl
 · intros;apply ol;go_simp;exact gl
 · intro w' hR _
   apply ol
   have z0:=(q1.drew.only hR.only (fun hh=>hh.elim lS bS)).at0 0 rfl
   have z1:=(q1.drew.only hR.only (fun hh=>hh.elim lS bS)).at0 1 rfl
   have z2:=(q1.drew.only hR.only (fun hh=>hh.elim lS bS)).at0 2 rfl
   have z3:=(q1.drew.only hR.only (fun hh=>hh.elim lS bS)).at0 3 rfl
   go_simp
   exact gl
 · intro w' hR _
   apply ol
   go_simp
   refine (aplace_any st A Gs V j (hR.keep (j:=o + 3) (by omega) (by have z:=i1.drew.c_ix;rwa [HX.out] at z)) (by omega) (by omega) (by omega) (by omega)).mono ?_
   rintro e w'' ⟨rfl,b9⟩
   exact ⟨_,rfl,b9,congrArg (Value.int .i64) (by omega)⟩
 · intro w' hR _ hP
   apply ol
   go_simp
   refine (eload_in (s:=s) hP.1 _ _ _ _ _ _ _ _ (A + 1 + j) hn).mono ?_
   rintro e w'' ⟨rfl,m2,o2⟩
   exact ⟨_,rfl,⟨OnlyBut.ofOnly o2 hb,m2,hP.2.only o2 hb⟩,by simp [Want.pred,HU.out]⟩
 · intros;apply ol;go_simp;exact gl
 · intros;apply ol;go_simp;exact gl
 · intro w' hR _ hP
   apply ol
   have z0:=hP.2.c_ce
   have z1:=hP.2.fz
   go_simp
   exact ⟨⟨OnlyBut.set _ _,hP.1.setIn hb _ _,hP.2.set_ce _⟩,trivial⟩
 intro vv w2 hR hP _
 obtain ⟨m2,i2⟩ : MemAt w2 L ((s.by who).step (A + 1 + j) (s.wd (A + 1 + j))) /\ AcAt w2 b o T (cs.setIfInBounds (o + 10) (.int .u64 u)) { a with ce:=u }:=hP
 have o2 : Only (L.and b) w w2:=o1.drew.trans hR.only
 have v2:=(v1.grown ((Below.refl _ _).drew)).only hR.only (fun hh=>hh.elim hbv hbb)
 have q2:=q1.drew.only hR.only (fun hh=>hh.elim lS bS)
 have s2 : Same o 24 cs (cs.setIfInBounds (o + 10) (.int .u64 u)):=Same.refl.set (by omega) _
 obtain ⟨g0,g1,g2,g3,g4,g5,g6,g7,g8⟩:=id v2
 clear hR o1 v1 m1 i1 q1
 go_wp2_with (first
  | (go_at_call 55;refine (now_any m2 _ _ _ _ _ _ _ _ σ HS.out).mono ?_;rintro e w3 ⟨rfl,b3⟩;have i3:=i2.grown b3;have k8:=i3.c_ld;have kf:=i3.fz;have i4:=i3.set_ld σ;have m4:=(m2.below b3).setIn hb (o + 11) (.int .i64 σ);have q4:=(q2.grown b3).other bS (o + 11) (.int .i64 σ);have o4:=(o2.trans (Only.ofGrown b3)).set (o + 11) (.int .i64 σ);have k7 : (w3.setCell ⟨b,o + 11,none⟩ (.int .i64 σ)).cell? ⟨b,o + 10,none⟩ = some (.int .u64 u):=i4.c_ce)
  | (go_at_call 82;refine (cc _).mono ?_;rintro e w5 ⟨rfl,b5⟩;have i6:=(i4.grown b5).grown (grow1 _ (.cells #[.int .i64 z,.bool fz,.int .i64 vr] 119));have m6:=(m4.below b5).alloc (.cells #[.int .i64 z,.bool fz,.int .i64 vr] 119);have o6:=(o4.trans (Only.ofGrown b5)).alloc (.cells #[.int .i64 z,.bool fz,.int .i64 vr] 119);have q6:=(q4.grown b5).grown (grow1 _ (.cells #[.int .i64 z,.bool fz,.int .i64 vr] 119));have c6:=At.new w5 119 [.int .i64 z,.bool fz,.int .i64 vr];have z0:=c6.at0 0 rfl;have z1:=c6.at0 1 rfl;have z2:=c6.at0 2 rfl)
  | (go_at_call 127;refine (areads_any i6 z fz vr).mono ?_;rintro e w7 ⟨rfl,b7⟩;rw [show (decide (({ a with ce:=u,ld:=σ } : CV).kd = 1) || ({ a with ce:=u,ld:=σ } : CV).oth z) = true from HR.out];have i7:=i6.grown b7;have m7:=m6.below b7;have o7:=o6.trans (Only.ofGrown b7);have q7:=q6.grown b7;have c7:=c6.grown b7;have t0:=q7.at0 0 rfl;have t3:=q7.at0 3 rfl;have t1:=c7.at0 1 rfl;have t2:=c7.at0 2 rfl;have k0:=i7.c_nx;have lf:=i7.fz))
 go_end0
 exact ⟨rfl,_,_,_,m7.setIn hb _ _,o7.set _ _,i7.set_nx 3,(s2.set (by omega) _).set (by omega) _,rfl,rfl⟩
set_option maxHeartbeats 1000000 in
theorem aload_stop {w : World} {L : Loc} {s : Mm} {b o : Nat} {T : TypeId} {cs : Array Value} {t n k m : Nat} {g p r : Int} {a : CV} (h : MemAt w L s) (hb : ¬ L.has b) (hi : AcAt w b o T cs a) (who : Int) {x : Nat} {G : Int} {st : Int} {A : Nat} {Gs V : Int} (hs : SlotIs a.se st A Gs V) {j : Nat} (hix : a.ix = j) (j1 : j <= 16) (hn : (A + 1 + j) < s.n) {u z vr : Int} {fz : Bool} (hu : s.wd (A + 1 + j) = u) (hc : CellIs u z fz vr) {σ : Nat} (hσ : wrap64 (s.steps + 1) = σ) (hr : (decide (a.kd = 1) || a.oth z) = false) (h2 : st = 2) (hf : fz = true) (hv : vr = V) :
 Calls Tryz.prog 89 #[.pointer (some ⟨b,o,none⟩),.agg #[.int .i64 t,.int .i64 n,.int .i64 k,.int .i64 m,.int .i64 g,.int .i64 p,.int .i64 r,.pointer (some ⟨L.p,0,none⟩),.int .i64 who],.agg #[.int .i64 x,.int .i64 G]] w fun e w'=>e = .returned (.tuple #[]) /\ Cact L b o T cs w w' (fun s' a'=>s' = ((s.by who).step (A + 1 + j) (s.wd (A + 1 + j))) /\ a' = { a with ce:=u,ld:=σ,nx:=5 }):=by
 have HU : Hid (s.wd (A + 1 + j) = u):=hu
 have HS : Hid ((((s.by who).step (A + 1 + j) (s.wd (A + 1 + j)))).steps = σ):=hσ
 have HR : Hid ((decide (a.kd = 1) || a.oth z) = false):=hr
 have sw:=hs.call
 have cc:=hc.call
 have ab : (A : Int) <= 1048575:=by have:=hs.ad;omega
 have HX : Hid (a.ix = j):=hix
 clear hu hs hc hσ hr hix
 subst hf
 have hv:=hv.symm
 subst hv
 subst h2
 have hbv : ¬ L.has w.heap.size:=fun hh=>by have:=h.lt _ hh;omega
 have hbb : ¬ w.heap.size = b:=fun hh=>by have:=hi.lt;omega
 have hbv1 : ¬ L.has (w.heap.size + 1):=fun hh=>by have:=h.lt _ hh;omega
 have hbb1 : ¬ w.heap.size + 1 = b:=fun hh=>by have:=hi.lt;omega
 have i0:=(hi.grown (grow1 _ (.cells #[.int .i64 t,.int .i64 n,.int .i64 k,.int .i64 m,.int .i64 g,.int .i64 p,.int .i64 r,.pointer (some ⟨L.p,0,none⟩),.int .i64 who] 27))).grown (grow1 _ (.cells #[.int .i64 x,.int .i64 G] 74))
 have k3:=i0.c_se
 go_enter Tryz.func89,Tryz.ntmps89
 go_wp2_with (go_at_call 34;refine (sw _).mono ?_;rintro e w3 ⟨rfl,b3⟩)
 have q0:=At.new w3 42 [.int .i64 2,.int .i64 A,.int .i64 Gs,.int .i64 V]
 obtain ⟨S,hS⟩ : ∃ S,w3.heap.size = S:=⟨_,rfl⟩
 have lS : ¬ L.has S:=fun hh=>by have:=h.lt _ hh;have:=b3.size;simp only [Go.Deep.nblk_alloc] at this;omega
 have bS : S ≠ b:=by have:=hi.lt;have:=b3.size;simp only [Go.Deep.nblk_alloc] at this;omega
 rw [hS] at q0 ⊢
 refine wp_over (fun W=>MemAt W L s /\ AcAt W b o T cs a /\ BoxV W w.heap.size t n k m g p r L.p who /\ At W S 0 42 _ [.int .i64 2,.int .i64 A,.int .i64 Gs,.int .i64 V] /\ Only (L.and b) w W) ⟨(((h.alloc _).alloc _).below b3).alloc _,(i0.grown b3).grown (grow1 _ _),((BoxV.newB _).grown b3).grown (grow1 _ _),q0,((((Only.refl _ _).alloc _).alloc _).trans (Only.ofGrown b3)).alloc _⟩ ?_
 clear b3 i0 k3 sw q0 hS
 rintro W ⟨m1,i1,v1,q1,o1⟩
 refine wp_region_phase (OnlyBut L b (o + 10)) Grown (phAc L b o T cs (cs.setIfInBounds (o + 10) (.int .u64 u)) s ((s.by who).step (A + 1 + j) (s.wd (A + 1 + j))) a { a with ce:=u }) [5,8] [.val (.pointer (some ⟨b,o,none⟩)),.val (.agg #[.int .i64 t,.int .i64 n,.int .i64 k,.int .i64 m,.int .i64 g,.int .i64 p,.int .i64 r,.pointer (some ⟨L.p,0,none⟩),.int .i64 who]),.val (.pointer (some ⟨b,o,none⟩)),.val (.agg #[.int .i64 2,.int .i64 A,.int .i64 Gs,.int .i64 V]),.val (.int .i64 (((A + 1 + j) : Nat) : Int)),.val (.int .u64 u),.val (.pointer (some ⟨b,o,none⟩)),.val (.pointer (some ⟨b,o + 10,none⟩)),.that (fun _ _=>True) (fun _ _ _ _ _=>trivial)]
  (by kernel_rfl) OnlyBut.refl OnlyBut.trans OnlyBut.ofGrown phAc_grown ⟨m1.drew,i1.drew⟩ (by kernel_rfl) (by kernel_rfl) (by kernel_rfl) (by kernel_rfl) (by kernel_rfl) ?_
 simp only [phaseAll,Act.put,List.setIfInBounds_toArray,List.set_cons_zero,List.set_cons_succ]
 refine ⟨?_,?_,?_,?_,?_,?_,?_,?_,?_,?_⟩
 · intros;apply ol;go_simp;exact gl
 · intro w' hR _
   apply ol
   obtain ⟨y0,y1,y2,y3,y4,y5,y6,y7,y8⟩:=(v1.grown ((Below.refl _ _).drew)).only hR.only (fun hh=>hh.elim hbv hbb)
   go_simp
   exact gl
 · intros;apply ol;go_simp;exact gl
 · intro w' hR _
   apply ol
   have z0:=(q1.drew.only hR.only (fun hh=>hh.elim lS bS)).at0 0 rfl
   have z1:=(q1.drew.only hR.only (fun hh=>hh.elim lS bS)).at0 1 rfl
   have z2:=(q1.drew.only hR.only (fun hh=>hh.elim lS bS)).at0 2 rfl
   have z3:=(q1.drew.only hR.only (fun hh=>hh.elim lS bS)).at0 3 rfl
   go_simp
   exact gl
 · intro w' hR _
   apply ol
   go_simp
   refine (aplace_any 2 A Gs V j (hR.keep (j:=o + 3) (by omega) (by have z:=i1.drew.c_ix;rwa [HX.out] at z)) (by omega) (by omega) (by omega) (by omega)).mono ?_
   rintro e w'' ⟨rfl,b9⟩
   exact ⟨_,rfl,b9,congrArg (Value.int .i64) (by omega)⟩
 · intro w' hR _ hP
   apply ol
   go_simp
   refine (eload_in (s:=s) hP.1 _ _ _ _ _ _ _ _ (A + 1 + j) hn).mono ?_
   rintro e w'' ⟨rfl,m2,o2⟩
   exact ⟨_,rfl,⟨OnlyBut.ofOnly o2 hb,m2,hP.2.only o2 hb⟩,by simp [Want.pred,HU.out]⟩
 · intros;apply ol;go_simp;exact gl
 · intros;apply ol;go_simp;exact gl
 · intro w' hR _ hP
   apply ol
   have z0:=hP.2.c_ce
   have z1:=hP.2.fz
   go_simp
   exact ⟨⟨OnlyBut.set _ _,hP.1.setIn hb _ _,hP.2.set_ce _⟩,trivial⟩
 intro vv w2 hR hP _
 obtain ⟨m2,i2⟩ : MemAt w2 L ((s.by who).step (A + 1 + j) (s.wd (A + 1 + j))) /\ AcAt w2 b o T (cs.setIfInBounds (o + 10) (.int .u64 u)) { a with ce:=u }:=hP
 have o2 : Only (L.and b) w w2:=o1.drew.trans hR.only
 have v2:=(v1.grown ((Below.refl _ _).drew)).only hR.only (fun hh=>hh.elim hbv hbb)
 have q2:=q1.drew.only hR.only (fun hh=>hh.elim lS bS)
 have s2 : Same o 24 cs (cs.setIfInBounds (o + 10) (.int .u64 u)):=Same.refl.set (by omega) _
 obtain ⟨g0,g1,g2,g3,g4,g5,g6,g7,g8⟩:=id v2
 clear hR o1 v1 m1 i1 q1
 go_wp2_with (first
  | (go_at_call 55;refine (now_any m2 _ _ _ _ _ _ _ _ σ HS.out).mono ?_;rintro e w3 ⟨rfl,b3⟩;have i3:=i2.grown b3;have k8:=i3.c_ld;have kf:=i3.fz;have i4:=i3.set_ld σ;have m4:=(m2.below b3).setIn hb (o + 11) (.int .i64 σ);have q4:=(q2.grown b3).other bS (o + 11) (.int .i64 σ);have o4:=(o2.trans (Only.ofGrown b3)).set (o + 11) (.int .i64 σ);have k7 : (w3.setCell ⟨b,o + 11,none⟩ (.int .i64 σ)).cell? ⟨b,o + 10,none⟩ = some (.int .u64 u):=i4.c_ce)
  | (go_at_call 82;refine (cc _).mono ?_;rintro e w5 ⟨rfl,b5⟩;have i6:=(i4.grown b5).grown (grow1 _ (.cells #[.int .i64 z,.bool true,.int .i64 V] 119));have m6:=(m4.below b5).alloc (.cells #[.int .i64 z,.bool true,.int .i64 V] 119);have o6:=(o4.trans (Only.ofGrown b5)).alloc (.cells #[.int .i64 z,.bool true,.int .i64 V] 119);have q6:=(q4.grown b5).grown (grow1 _ (.cells #[.int .i64 z,.bool true,.int .i64 V] 119));have c6:=At.new w5 119 [.int .i64 z,.bool true,.int .i64 V];have z0:=c6.at0 0 rfl;have z1:=c6.at0 1 rfl;have z2:=c6.at0 2 rfl)
  | (go_at_call 127;refine (areads_any i6 z true V).mono ?_;rintro e w7 ⟨rfl,b7⟩;rw [show (decide (({ a with ce:=u,ld:=σ } : CV).kd = 1) || ({ a with ce:=u,ld:=σ } : CV).oth z) = false from HR.out];have i7:=i6.grown b7;have m7:=m6.below b7;have o7:=o6.trans (Only.ofGrown b7);have q7:=q6.grown b7;have c7:=c6.grown b7;have t0:=q7.at0 0 rfl;have t3:=q7.at0 3 rfl;have t1:=c7.at0 1 rfl;have t2:=c7.at0 2 rfl;have k0:=i7.c_nx;have lf:=i7.fz))
 go_end0
 exact ⟨rfl,_,_,_,m7.setIn hb _ _,o7.set _ _,i7.set_nx 5,(s2.set (by omega) _).set (by omega) _,rfl,rfl⟩
set_option maxHeartbeats 1000000 in
theorem aload_anew {w : World} {L : Loc} {s : Mm} {b o : Nat} {T : TypeId} {cs : Array Value} {t n k m : Nat} {g p r : Int} {a : CV} (h : MemAt w L s) (hb : ¬ L.has b) (hi : AcAt w b o T cs a) (who : Int) {x : Nat} {G : Int} {st : Int} {A : Nat} {Gs V : Int} (hs : SlotIs a.se st A Gs V) {j : Nat} (hix : a.ix = j) (j1 : j <= 16) (hn : (A + 1 + j) < s.n) {u z vr : Int} {fz : Bool} (hu : s.wd (A + 1 + j) = u) (hc : CellIs u z fz vr) {σ : Nat} (hσ : wrap64 (s.steps + 1) = σ) (hr : (decide (a.kd = 1) || a.oth z) = false) (h4 : st ≠ 4) (h2 : st ≠ 2) (hf : fz = true) (hv : vr = V) :
 Calls Tryz.prog 89 #[.pointer (some ⟨b,o,none⟩),.agg #[.int .i64 t,.int .i64 n,.int .i64 k,.int .i64 m,.int .i64 g,.int .i64 p,.int .i64 r,.pointer (some ⟨L.p,0,none⟩),.int .i64 who],.agg #[.int .i64 x,.int .i64 G]] w fun e w'=>e = .returned (.tuple #[]) /\ Cact L b o T cs w w' (fun s' a'=>s' = ((s.by who).step (A + 1 + j) (s.wd (A + 1 + j))) /\ a' = { a with ce:=u,ld:=σ,nx:=0 }):=by
 have HU : Hid (s.wd (A + 1 + j) = u):=hu
 have HS : Hid ((((s.by who).step (A + 1 + j) (s.wd (A + 1 + j)))).steps = σ):=hσ
 have HR : Hid ((decide (a.kd = 1) || a.oth z) = false):=hr
 have sw:=hs.call
 have cc:=hc.call
 have ab : (A : Int) <= 1048575:=by have:=hs.ad;omega
 have HX : Hid (a.ix = j):=hix
 clear hu hs hc hσ hr hix
 subst hf
 have hv:=hv.symm
 subst hv
 have hbv : ¬ L.has w.heap.size:=fun hh=>by have:=h.lt _ hh;omega
 have hbb : ¬ w.heap.size = b:=fun hh=>by have:=hi.lt;omega
 have hbv1 : ¬ L.has (w.heap.size + 1):=fun hh=>by have:=h.lt _ hh;omega
 have hbb1 : ¬ w.heap.size + 1 = b:=fun hh=>by have:=hi.lt;omega
 have i0:=(hi.grown (grow1 _ (.cells #[.int .i64 t,.int .i64 n,.int .i64 k,.int .i64 m,.int .i64 g,.int .i64 p,.int .i64 r,.pointer (some ⟨L.p,0,none⟩),.int .i64 who] 27))).grown (grow1 _ (.cells #[.int .i64 x,.int .i64 G] 74))
 have k3:=i0.c_se
 go_enter Tryz.func89,Tryz.ntmps89
 go_wp2_with (go_at_call 34;refine (sw _).mono ?_;rintro e w3 ⟨rfl,b3⟩)
 have q0:=At.new w3 42 [.int .i64 st,.int .i64 A,.int .i64 Gs,.int .i64 V]
 obtain ⟨S,hS⟩ : ∃ S,w3.heap.size = S:=⟨_,rfl⟩
 have lS : ¬ L.has S:=fun hh=>by have:=h.lt _ hh;have:=b3.size;simp only [Go.Deep.nblk_alloc] at this;omega
 have bS : S ≠ b:=by have:=hi.lt;have:=b3.size;simp only [Go.Deep.nblk_alloc] at this;omega
 rw [hS] at q0 ⊢
 refine wp_over (fun W=>MemAt W L s /\ AcAt W b o T cs a /\ BoxV W w.heap.size t n k m g p r L.p who /\ At W S 0 42 _ [.int .i64 st,.int .i64 A,.int .i64 Gs,.int .i64 V] /\ Only (L.and b) w W) ⟨(((h.alloc _).alloc _).below b3).alloc _,(i0.grown b3).grown (grow1 _ _),((BoxV.newB _).grown b3).grown (grow1 _ _),q0,((((Only.refl _ _).alloc _).alloc _).trans (Only.ofGrown b3)).alloc _⟩ ?_
 clear b3 i0 k3 sw q0 hS
 rintro W ⟨m1,i1,v1,q1,o1⟩
 refine wp_region_phase (OnlyBut L b (o + 10)) Grown (phAc L b o T cs (cs.setIfInBounds (o + 10) (.int .u64 u)) s ((s.by who).step (A + 1 + j) (s.wd (A + 1 + j))) a { a with ce:=u }) [5,8] [.val (.pointer (some ⟨b,o,none⟩)),.val (.agg #[.int .i64 t,.int .i64 n,.int .i64 k,.int .i64 m,.int .i64 g,.int .i64 p,.int .i64 r,.pointer (some ⟨L.p,0,none⟩),.int .i64 who]),.val (.pointer (some ⟨b,o,none⟩)),.val (.agg #[.int .i64 st,.int .i64 A,.int .i64 Gs,.int .i64 V]),.val (.int .i64 (((A + 1 + j) : Nat) : Int)),.val (.int .u64 u),.val (.pointer (some ⟨b,o,none⟩)),.val (.pointer (some ⟨b,o + 10,none⟩)),.that (fun _ _=>True) (fun _ _ _ _ _=>trivial)]
  (by kernel_rfl) OnlyBut.refl OnlyBut.trans OnlyBut.ofGrown phAc_grown ⟨m1.drew,i1.drew⟩ (by kernel_rfl) (by kernel_rfl) (by kernel_rfl) (by kernel_rfl) (by kernel_rfl) ?_
 simp only [phaseAll,Act.put,List.setIfInBounds_toArray,List.set_cons_zero,List.set_cons_succ]
 refine ⟨?_,?_,?_,?_,?_,?_,?_,?_,?_,?_⟩
 · intros;apply ol;go_simp;exact gl
 · intro w' hR _
   apply ol
   obtain ⟨y0,y1,y2,y3,y4,y5,y6,y7,y8⟩:=(v1.grown ((Below.refl _ _).drew)).only hR.only (fun hh=>hh.elim hbv hbb)
   go_simp
   exact gl
 · intros;apply ol;go_simp;exact gl
 · intro w' hR _
   apply ol
   have z0:=(q1.drew.only hR.only (fun hh=>hh.elim lS bS)).at0 0 rfl
   have z1:=(q1.drew.only hR.only (fun hh=>hh.elim lS bS)).at0 1 rfl
   have z2:=(q1.drew.only hR.only (fun hh=>hh.elim lS bS)).at0 2 rfl
   have z3:=(q1.drew.only hR.only (fun hh=>hh.elim lS bS)).at0 3 rfl
   go_simp
   exact gl
 · intro w' hR _
   apply ol
   go_simp
   refine (aplace_any st A Gs V j (hR.keep (j:=o + 3) (by omega) (by have z:=i1.drew.c_ix;rwa [HX.out] at z)) (by omega) (by omega) (by omega) (by omega)).mono ?_
   rintro e w'' ⟨rfl,b9⟩
   exact ⟨_,rfl,b9,congrArg (Value.int .i64) (by omega)⟩
 · intro w' hR _ hP
   apply ol
   go_simp
   refine (eload_in (s:=s) hP.1 _ _ _ _ _ _ _ _ (A + 1 + j) hn).mono ?_
   rintro e w'' ⟨rfl,m2,o2⟩
   exact ⟨_,rfl,⟨OnlyBut.ofOnly o2 hb,m2,hP.2.only o2 hb⟩,by simp [Want.pred,HU.out]⟩
 · intros;apply ol;go_simp;exact gl
 · intros;apply ol;go_simp;exact gl
 · intro w' hR _ hP
   apply ol
   have z0:=hP.2.c_ce
   have z1:=hP.2.fz
   go_simp
   exact ⟨⟨OnlyBut.set _ _,hP.1.setIn hb _ _,hP.2.set_ce _⟩,trivial⟩
 intro vv w2 hR hP _
 obtain ⟨m2,i2⟩ : MemAt w2 L ((s.by who).step (A + 1 + j) (s.wd (A + 1 + j))) /\ AcAt w2 b o T (cs.setIfInBounds (o + 10) (.int .u64 u)) { a with ce:=u }:=hP
 have o2 : Only (L.and b) w w2:=o1.drew.trans hR.only
 have v2:=(v1.grown ((Below.refl _ _).drew)).only hR.only (fun hh=>hh.elim hbv hbb)
 have q2:=q1.drew.only hR.only (fun hh=>hh.elim lS bS)
 have s2 : Same o 24 cs (cs.setIfInBounds (o + 10) (.int .u64 u)):=Same.refl.set (by omega) _
 obtain ⟨g0,g1,g2,g3,g4,g5,g6,g7,g8⟩:=id v2
 clear hR o1 v1 m1 i1 q1
 go_wp2_with (first
  | (go_at_call 55;refine (now_any m2 _ _ _ _ _ _ _ _ σ HS.out).mono ?_;rintro e w3 ⟨rfl,b3⟩;have i3:=i2.grown b3;have k8:=i3.c_ld;have kf:=i3.fz;have i4:=i3.set_ld σ;have m4:=(m2.below b3).setIn hb (o + 11) (.int .i64 σ);have q4:=(q2.grown b3).other bS (o + 11) (.int .i64 σ);have o4:=(o2.trans (Only.ofGrown b3)).set (o + 11) (.int .i64 σ);have k7 : (w3.setCell ⟨b,o + 11,none⟩ (.int .i64 σ)).cell? ⟨b,o + 10,none⟩ = some (.int .u64 u):=i4.c_ce)
  | (go_at_call 82;refine (cc _).mono ?_;rintro e w5 ⟨rfl,b5⟩;have i6:=(i4.grown b5).grown (grow1 _ (.cells #[.int .i64 z,.bool true,.int .i64 V] 119));have m6:=(m4.below b5).alloc (.cells #[.int .i64 z,.bool true,.int .i64 V] 119);have o6:=(o4.trans (Only.ofGrown b5)).alloc (.cells #[.int .i64 z,.bool true,.int .i64 V] 119);have q6:=(q4.grown b5).grown (grow1 _ (.cells #[.int .i64 z,.bool true,.int .i64 V] 119));have c6:=At.new w5 119 [.int .i64 z,.bool true,.int .i64 V];have z0:=c6.at0 0 rfl;have z1:=c6.at0 1 rfl;have z2:=c6.at0 2 rfl)
  | (go_at_call 127;refine (areads_any i6 z true V).mono ?_;rintro e w7 ⟨rfl,b7⟩;rw [show (decide (({ a with ce:=u,ld:=σ } : CV).kd = 1) || ({ a with ce:=u,ld:=σ } : CV).oth z) = false from HR.out];have i7:=i6.grown b7;have m7:=m6.below b7;have o7:=o6.trans (Only.ofGrown b7);have q7:=q6.grown b7;have c7:=c6.grown b7;have t0:=q7.at0 0 rfl;have t3:=q7.at0 3 rfl;have t1:=c7.at0 1 rfl;have t2:=c7.at0 2 rfl;have k0:=i7.c_nx;have lf:=i7.fz))
 go_end0
 exact ⟨rfl,_,_,_,m7.setIn hb _ _,o7.set _ _,i7.set_nx 0,(s2.set (by omega) _).set (by omega) _,rfl,rfl⟩
set_option maxHeartbeats 1000000 in
theorem aload_more {w : World} {L : Loc} {s : Mm} {b o : Nat} {T : TypeId} {cs : Array Value} {t n k m : Nat} {g p r : Int} {a : CV} (h : MemAt w L s) (hb : ¬ L.has b) (hi : AcAt w b o T cs a) (who : Int) {x : Nat} {G : Int} {st : Int} {A : Nat} {Gs V : Int} (hs : SlotIs a.se st A Gs V) {j : Nat} (hix : a.ix = j) (j1 : j <= 16) (hn : (A + 1 + j) < s.n) {u z vr : Int} {fz : Bool} (hu : s.wd (A + 1 + j) = u) (hc : CellIs u z fz vr) {σ : Nat} (hσ : wrap64 (s.steps + 1) = σ) (hr : (decide (a.kd = 1) || a.oth z) = false) (h4 : st ≠ 4) (hf : fz = true) (hv : ¬ vr = V) (hge : vr ≥ V) :
 Calls Tryz.prog 89 #[.pointer (some ⟨b,o,none⟩),.agg #[.int .i64 t,.int .i64 n,.int .i64 k,.int .i64 m,.int .i64 g,.int .i64 p,.int .i64 r,.pointer (some ⟨L.p,0,none⟩),.int .i64 who],.agg #[.int .i64 x,.int .i64 G]] w fun e w'=>e = .returned (.tuple #[]) /\ Cact L b o T cs w w' (fun s' a'=>s' = ((s.by who).step (A + 1 + j) (s.wd (A + 1 + j))) /\ a' = { a with ce:=u,ld:=σ,nx:=0 }):=by
 have HU : Hid (s.wd (A + 1 + j) = u):=hu
 have HS : Hid ((((s.by who).step (A + 1 + j) (s.wd (A + 1 + j)))).steps = σ):=hσ
 have HR : Hid ((decide (a.kd = 1) || a.oth z) = false):=hr
 have sw:=hs.call
 have cc:=hc.call
 have ab : (A : Int) <= 1048575:=by have:=hs.ad;omega
 have HX : Hid (a.ix = j):=hix
 clear hu hs hc hσ hr hix
 subst hf
 have hbv : ¬ L.has w.heap.size:=fun hh=>by have:=h.lt _ hh;omega
 have hbb : ¬ w.heap.size = b:=fun hh=>by have:=hi.lt;omega
 have hbv1 : ¬ L.has (w.heap.size + 1):=fun hh=>by have:=h.lt _ hh;omega
 have hbb1 : ¬ w.heap.size + 1 = b:=fun hh=>by have:=hi.lt;omega
 have i0:=(hi.grown (grow1 _ (.cells #[.int .i64 t,.int .i64 n,.int .i64 k,.int .i64 m,.int .i64 g,.int .i64 p,.int .i64 r,.pointer (some ⟨L.p,0,none⟩),.int .i64 who] 27))).grown (grow1 _ (.cells #[.int .i64 x,.int .i64 G] 74))
 have k3:=i0.c_se
 go_enter Tryz.func89,Tryz.ntmps89
 go_wp2_with (go_at_call 34;refine (sw _).mono ?_;rintro e w3 ⟨rfl,b3⟩)
 have q0:=At.new w3 42 [.int .i64 st,.int .i64 A,.int .i64 Gs,.int .i64 V]
 obtain ⟨S,hS⟩ : ∃ S,w3.heap.size = S:=⟨_,rfl⟩
 have lS : ¬ L.has S:=fun hh=>by have:=h.lt _ hh;have:=b3.size;simp only [Go.Deep.nblk_alloc] at this;omega
 have bS : S ≠ b:=by have:=hi.lt;have:=b3.size;simp only [Go.Deep.nblk_alloc] at this;omega
 rw [hS] at q0 ⊢
 refine wp_over (fun W=>MemAt W L s /\ AcAt W b o T cs a /\ BoxV W w.heap.size t n k m g p r L.p who /\ At W S 0 42 _ [.int .i64 st,.int .i64 A,.int .i64 Gs,.int .i64 V] /\ Only (L.and b) w W) ⟨(((h.alloc _).alloc _).below b3).alloc _,(i0.grown b3).grown (grow1 _ _),((BoxV.newB _).grown b3).grown (grow1 _ _),q0,((((Only.refl _ _).alloc _).alloc _).trans (Only.ofGrown b3)).alloc _⟩ ?_
 clear b3 i0 k3 sw q0 hS
 rintro W ⟨m1,i1,v1,q1,o1⟩
 refine wp_region_phase (OnlyBut L b (o + 10)) Grown (phAc L b o T cs (cs.setIfInBounds (o + 10) (.int .u64 u)) s ((s.by who).step (A + 1 + j) (s.wd (A + 1 + j))) a { a with ce:=u }) [5,8] [.val (.pointer (some ⟨b,o,none⟩)),.val (.agg #[.int .i64 t,.int .i64 n,.int .i64 k,.int .i64 m,.int .i64 g,.int .i64 p,.int .i64 r,.pointer (some ⟨L.p,0,none⟩),.int .i64 who]),.val (.pointer (some ⟨b,o,none⟩)),.val (.agg #[.int .i64 st,.int .i64 A,.int .i64 Gs,.int .i64 V]),.val (.int .i64 (((A + 1 + j) : Nat) : Int)),.val (.int .u64 u),.val (.pointer (some ⟨b,o,none⟩)),.val (.pointer (some ⟨b,o + 10,none⟩)),.that (fun _ _=>True) (fun _ _ _ _ _=>trivial)]
  (by kernel_rfl) OnlyBut.refl OnlyBut.trans OnlyBut.ofGrown phAc_grown ⟨m1.drew,i1.drew⟩ (by kernel_rfl) (by kernel_rfl) (by kernel_rfl) (by kernel_rfl) (by kernel_rfl) ?_
 simp only [phaseAll,Act.put,List.setIfInBounds_toArray,List.set_cons_zero,List.set_cons_succ]
 refine ⟨?_,?_,?_,?_,?_,?_,?_,?_,?_,?_⟩
 · intros;apply ol;go_simp;exact gl
 · intro w' hR _
   apply ol
   obtain ⟨y0,y1,y2,y3,y4,y5,y6,y7,y8⟩:=(v1.grown ((Below.refl _ _).drew)).only hR.only (fun hh=>hh.elim hbv hbb)
   go_simp
   exact gl
 · intros;apply ol;go_simp;exact gl
 · intro w' hR _
   apply ol
   have z0:=(q1.drew.only hR.only (fun hh=>hh.elim lS bS)).at0 0 rfl
   have z1:=(q1.drew.only hR.only (fun hh=>hh.elim lS bS)).at0 1 rfl
   have z2:=(q1.drew.only hR.only (fun hh=>hh.elim lS bS)).at0 2 rfl
   have z3:=(q1.drew.only hR.only (fun hh=>hh.elim lS bS)).at0 3 rfl
   go_simp
   exact gl
 · intro w' hR _
   apply ol
   go_simp
   refine (aplace_any st A Gs V j (hR.keep (j:=o + 3) (by omega) (by have z:=i1.drew.c_ix;rwa [HX.out] at z)) (by omega) (by omega) (by omega) (by omega)).mono ?_
   rintro e w'' ⟨rfl,b9⟩
   exact ⟨_,rfl,b9,congrArg (Value.int .i64) (by omega)⟩
 · intro w' hR _ hP
   apply ol
   go_simp
   refine (eload_in (s:=s) hP.1 _ _ _ _ _ _ _ _ (A + 1 + j) hn).mono ?_
   rintro e w'' ⟨rfl,m2,o2⟩
   exact ⟨_,rfl,⟨OnlyBut.ofOnly o2 hb,m2,hP.2.only o2 hb⟩,by simp [Want.pred,HU.out]⟩
 · intros;apply ol;go_simp;exact gl
 · intros;apply ol;go_simp;exact gl
 · intro w' hR _ hP
   apply ol
   have z0:=hP.2.c_ce
   have z1:=hP.2.fz
   go_simp
   exact ⟨⟨OnlyBut.set _ _,hP.1.setIn hb _ _,hP.2.set_ce _⟩,trivial⟩
 intro vv w2 hR hP _
 obtain ⟨m2,i2⟩ : MemAt w2 L ((s.by who).step (A + 1 + j) (s.wd (A + 1 + j))) /\ AcAt w2 b o T (cs.setIfInBounds (o + 10) (.int .u64 u)) { a with ce:=u }:=hP
 have o2 : Only (L.and b) w w2:=o1.drew.trans hR.only
 have v2:=(v1.grown ((Below.refl _ _).drew)).only hR.only (fun hh=>hh.elim hbv hbb)
 have q2:=q1.drew.only hR.only (fun hh=>hh.elim lS bS)
 have s2 : Same o 24 cs (cs.setIfInBounds (o + 10) (.int .u64 u)):=Same.refl.set (by omega) _
 obtain ⟨g0,g1,g2,g3,g4,g5,g6,g7,g8⟩:=id v2
 clear hR o1 v1 m1 i1 q1
 go_wp2_with (first
  | (go_at_call 55;refine (now_any m2 _ _ _ _ _ _ _ _ σ HS.out).mono ?_;rintro e w3 ⟨rfl,b3⟩;have i3:=i2.grown b3;have k8:=i3.c_ld;have kf:=i3.fz;have i4:=i3.set_ld σ;have m4:=(m2.below b3).setIn hb (o + 11) (.int .i64 σ);have q4:=(q2.grown b3).other bS (o + 11) (.int .i64 σ);have o4:=(o2.trans (Only.ofGrown b3)).set (o + 11) (.int .i64 σ);have k7 : (w3.setCell ⟨b,o + 11,none⟩ (.int .i64 σ)).cell? ⟨b,o + 10,none⟩ = some (.int .u64 u):=i4.c_ce)
  | (go_at_call 82;refine (cc _).mono ?_;rintro e w5 ⟨rfl,b5⟩;have i6:=(i4.grown b5).grown (grow1 _ (.cells #[.int .i64 z,.bool true,.int .i64 vr] 119));have m6:=(m4.below b5).alloc (.cells #[.int .i64 z,.bool true,.int .i64 vr] 119);have o6:=(o4.trans (Only.ofGrown b5)).alloc (.cells #[.int .i64 z,.bool true,.int .i64 vr] 119);have q6:=(q4.grown b5).grown (grow1 _ (.cells #[.int .i64 z,.bool true,.int .i64 vr] 119));have c6:=At.new w5 119 [.int .i64 z,.bool true,.int .i64 vr];have z0:=c6.at0 0 rfl;have z1:=c6.at0 1 rfl;have z2:=c6.at0 2 rfl)
  | (go_at_call 127;refine (areads_any i6 z true vr).mono ?_;rintro e w7 ⟨rfl,b7⟩;rw [show (decide (({ a with ce:=u,ld:=σ } : CV).kd = 1) || ({ a with ce:=u,ld:=σ } : CV).oth z) = false from HR.out];have i7:=i6.grown b7;have m7:=m6.below b7;have o7:=o6.trans (Only.ofGrown b7);have q7:=q6.grown b7;have c7:=c6.grown b7;have t0:=q7.at0 0 rfl;have t3:=q7.at0 3 rfl;have t1:=c7.at0 1 rfl;have t2:=c7.at0 2 rfl;have k0:=i7.c_nx;have lf:=i7.fz))
 go_end0
 exact ⟨rfl,_,_,_,m7.setIn hb _ _,o7.set _ _,i7.set_nx 0,(s2.set (by omega) _).set (by omega) _,rfl,rfl⟩
set_option maxHeartbeats 1000000 in
theorem aload_open {w : World} {L : Loc} {s : Mm} {b o : Nat} {T : TypeId} {cs : Array Value} {t n k m : Nat} {g p r : Int} {a : CV} (h : MemAt w L s) (hb : ¬ L.has b) (hi : AcAt w b o T cs a) (who : Int) {x : Nat} {G : Int} {st : Int} {A : Nat} {Gs V : Int} (hs : SlotIs a.se st A Gs V) {j : Nat} (hix : a.ix = j) (j1 : j <= 16) (hn : (A + 1 + j) < s.n) {u z vr : Int} {fz : Bool} (hu : s.wd (A + 1 + j) = u) (hc : CellIs u z fz vr) {σ : Nat} (hσ : wrap64 (s.steps + 1) = σ) (hr : (decide (a.kd = 1) || a.oth z) = false) (h4 : st ≠ 4) (hf : fz = false) :
 Calls Tryz.prog 89 #[.pointer (some ⟨b,o,none⟩),.agg #[.int .i64 t,.int .i64 n,.int .i64 k,.int .i64 m,.int .i64 g,.int .i64 p,.int .i64 r,.pointer (some ⟨L.p,0,none⟩),.int .i64 who],.agg #[.int .i64 x,.int .i64 G]] w fun e w'=>e = .returned (.tuple #[]) /\ Cact L b o T cs w w' (fun s' a'=>s' = ((s.by who).step (A + 1 + j) (s.wd (A + 1 + j))) /\ a' = { a with ce:=u,ld:=σ,nx:=6 }):=by
 have HU : Hid (s.wd (A + 1 + j) = u):=hu
 have HS : Hid ((((s.by who).step (A + 1 + j) (s.wd (A + 1 + j)))).steps = σ):=hσ
 have HR : Hid ((decide (a.kd = 1) || a.oth z) = false):=hr
 have sw:=hs.call
 have cc:=hc.call
 have ab : (A : Int) <= 1048575:=by have:=hs.ad;omega
 have HX : Hid (a.ix = j):=hix
 clear hu hs hc hσ hr hix
 subst hf
 have hbv : ¬ L.has w.heap.size:=fun hh=>by have:=h.lt _ hh;omega
 have hbb : ¬ w.heap.size = b:=fun hh=>by have:=hi.lt;omega
 have hbv1 : ¬ L.has (w.heap.size + 1):=fun hh=>by have:=h.lt _ hh;omega
 have hbb1 : ¬ w.heap.size + 1 = b:=fun hh=>by have:=hi.lt;omega
 have i0:=(hi.grown (grow1 _ (.cells #[.int .i64 t,.int .i64 n,.int .i64 k,.int .i64 m,.int .i64 g,.int .i64 p,.int .i64 r,.pointer (some ⟨L.p,0,none⟩),.int .i64 who] 27))).grown (grow1 _ (.cells #[.int .i64 x,.int .i64 G] 74))
 have k3:=i0.c_se
 go_enter Tryz.func89,Tryz.ntmps89
 go_wp2_with (go_at_call 34;refine (sw _).mono ?_;rintro e w3 ⟨rfl,b3⟩)
 have q0:=At.new w3 42 [.int .i64 st,.int .i64 A,.int .i64 Gs,.int .i64 V]
 obtain ⟨S,hS⟩ : ∃ S,w3.heap.size = S:=⟨_,rfl⟩
 have lS : ¬ L.has S:=fun hh=>by have:=h.lt _ hh;have:=b3.size;simp only [Go.Deep.nblk_alloc] at this;omega
 have bS : S ≠ b:=by have:=hi.lt;have:=b3.size;simp only [Go.Deep.nblk_alloc] at this;omega
 rw [hS] at q0 ⊢
 refine wp_over (fun W=>MemAt W L s /\ AcAt W b o T cs a /\ BoxV W w.heap.size t n k m g p r L.p who /\ At W S 0 42 _ [.int .i64 st,.int .i64 A,.int .i64 Gs,.int .i64 V] /\ Only (L.and b) w W) ⟨(((h.alloc _).alloc _).below b3).alloc _,(i0.grown b3).grown (grow1 _ _),((BoxV.newB _).grown b3).grown (grow1 _ _),q0,((((Only.refl _ _).alloc _).alloc _).trans (Only.ofGrown b3)).alloc _⟩ ?_
 clear b3 i0 k3 sw q0 hS
 rintro W ⟨m1,i1,v1,q1,o1⟩
 refine wp_region_phase (OnlyBut L b (o + 10)) Grown (phAc L b o T cs (cs.setIfInBounds (o + 10) (.int .u64 u)) s ((s.by who).step (A + 1 + j) (s.wd (A + 1 + j))) a { a with ce:=u }) [5,8] [.val (.pointer (some ⟨b,o,none⟩)),.val (.agg #[.int .i64 t,.int .i64 n,.int .i64 k,.int .i64 m,.int .i64 g,.int .i64 p,.int .i64 r,.pointer (some ⟨L.p,0,none⟩),.int .i64 who]),.val (.pointer (some ⟨b,o,none⟩)),.val (.agg #[.int .i64 st,.int .i64 A,.int .i64 Gs,.int .i64 V]),.val (.int .i64 (((A + 1 + j) : Nat) : Int)),.val (.int .u64 u),.val (.pointer (some ⟨b,o,none⟩)),.val (.pointer (some ⟨b,o + 10,none⟩)),.that (fun _ _=>True) (fun _ _ _ _ _=>trivial)]
  (by kernel_rfl) OnlyBut.refl OnlyBut.trans OnlyBut.ofGrown phAc_grown ⟨m1.drew,i1.drew⟩ (by kernel_rfl) (by kernel_rfl) (by kernel_rfl) (by kernel_rfl) (by kernel_rfl) ?_
 simp only [phaseAll,Act.put,List.setIfInBounds_toArray,List.set_cons_zero,List.set_cons_succ]
 refine ⟨?_,?_,?_,?_,?_,?_,?_,?_,?_,?_⟩
 · intros;apply ol;go_simp;exact gl
 · intro w' hR _
   apply ol
   obtain ⟨y0,y1,y2,y3,y4,y5,y6,y7,y8⟩:=(v1.grown ((Below.refl _ _).drew)).only hR.only (fun hh=>hh.elim hbv hbb)
   go_simp
   exact gl
 · intros;apply ol;go_simp;exact gl
 · intro w' hR _
   apply ol
   have z0:=(q1.drew.only hR.only (fun hh=>hh.elim lS bS)).at0 0 rfl
   have z1:=(q1.drew.only hR.only (fun hh=>hh.elim lS bS)).at0 1 rfl
   have z2:=(q1.drew.only hR.only (fun hh=>hh.elim lS bS)).at0 2 rfl
   have z3:=(q1.drew.only hR.only (fun hh=>hh.elim lS bS)).at0 3 rfl
   go_simp
   exact gl
 · intro w' hR _
   apply ol
   go_simp
   refine (aplace_any st A Gs V j (hR.keep (j:=o + 3) (by omega) (by have z:=i1.drew.c_ix;rwa [HX.out] at z)) (by omega) (by omega) (by omega) (by omega)).mono ?_
   rintro e w'' ⟨rfl,b9⟩
   exact ⟨_,rfl,b9,congrArg (Value.int .i64) (by omega)⟩
 · intro w' hR _ hP
   apply ol
   go_simp
   refine (eload_in (s:=s) hP.1 _ _ _ _ _ _ _ _ (A + 1 + j) hn).mono ?_
   rintro e w'' ⟨rfl,m2,o2⟩
   exact ⟨_,rfl,⟨OnlyBut.ofOnly o2 hb,m2,hP.2.only o2 hb⟩,by simp [Want.pred,HU.out]⟩
 · intros;apply ol;go_simp;exact gl
 · intros;apply ol;go_simp;exact gl
 · intro w' hR _ hP
   apply ol
   have z0:=hP.2.c_ce
   have z1:=hP.2.fz
   go_simp
   exact ⟨⟨OnlyBut.set _ _,hP.1.setIn hb _ _,hP.2.set_ce _⟩,trivial⟩
 intro vv w2 hR hP _
 obtain ⟨m2,i2⟩ : MemAt w2 L ((s.by who).step (A + 1 + j) (s.wd (A + 1 + j))) /\ AcAt w2 b o T (cs.setIfInBounds (o + 10) (.int .u64 u)) { a with ce:=u }:=hP
 have o2 : Only (L.and b) w w2:=o1.drew.trans hR.only
 have v2:=(v1.grown ((Below.refl _ _).drew)).only hR.only (fun hh=>hh.elim hbv hbb)
 have q2:=q1.drew.only hR.only (fun hh=>hh.elim lS bS)
 have s2 : Same o 24 cs (cs.setIfInBounds (o + 10) (.int .u64 u)):=Same.refl.set (by omega) _
 obtain ⟨g0,g1,g2,g3,g4,g5,g6,g7,g8⟩:=id v2
 clear hR o1 v1 m1 i1 q1
 go_wp2_with (first
  | (go_at_call 55;refine (now_any m2 _ _ _ _ _ _ _ _ σ HS.out).mono ?_;rintro e w3 ⟨rfl,b3⟩;have i3:=i2.grown b3;have k8:=i3.c_ld;have kf:=i3.fz;have i4:=i3.set_ld σ;have m4:=(m2.below b3).setIn hb (o + 11) (.int .i64 σ);have q4:=(q2.grown b3).other bS (o + 11) (.int .i64 σ);have o4:=(o2.trans (Only.ofGrown b3)).set (o + 11) (.int .i64 σ);have k7 : (w3.setCell ⟨b,o + 11,none⟩ (.int .i64 σ)).cell? ⟨b,o + 10,none⟩ = some (.int .u64 u):=i4.c_ce)
  | (go_at_call 82;refine (cc _).mono ?_;rintro e w5 ⟨rfl,b5⟩;have i6:=(i4.grown b5).grown (grow1 _ (.cells #[.int .i64 z,.bool false,.int .i64 vr] 119));have m6:=(m4.below b5).alloc (.cells #[.int .i64 z,.bool false,.int .i64 vr] 119);have o6:=(o4.trans (Only.ofGrown b5)).alloc (.cells #[.int .i64 z,.bool false,.int .i64 vr] 119);have q6:=(q4.grown b5).grown (grow1 _ (.cells #[.int .i64 z,.bool false,.int .i64 vr] 119));have c6:=At.new w5 119 [.int .i64 z,.bool false,.int .i64 vr];have z0:=c6.at0 0 rfl;have z1:=c6.at0 1 rfl;have z2:=c6.at0 2 rfl)
  | (go_at_call 127;refine (areads_any i6 z false vr).mono ?_;rintro e w7 ⟨rfl,b7⟩;rw [show (decide (({ a with ce:=u,ld:=σ } : CV).kd = 1) || ({ a with ce:=u,ld:=σ } : CV).oth z) = false from HR.out];have i7:=i6.grown b7;have m7:=m6.below b7;have o7:=o6.trans (Only.ofGrown b7);have q7:=q6.grown b7;have c7:=c6.grown b7;have t0:=q7.at0 0 rfl;have t3:=q7.at0 3 rfl;have t1:=c7.at0 1 rfl;have t2:=c7.at0 2 rfl;have k0:=i7.c_nx;have lf:=i7.fz))
 go_end0
 exact ⟨rfl,_,_,_,m7.setIn hb _ _,o7.set _ _,i7.set_nx 6,(s2.set (by omega) _).set (by omega) _,rfl,rfl⟩
set_option maxHeartbeats 1000000 in
theorem aload_old {w : World} {L : Loc} {s : Mm} {b o : Nat} {T : TypeId} {cs : Array Value} {t n k m : Nat} {g p r : Int} {a : CV} (h : MemAt w L s) (hb : ¬ L.has b) (hi : AcAt w b o T cs a) (who : Int) {x : Nat} {G : Int} {st : Int} {A : Nat} {Gs V : Int} (hs : SlotIs a.se st A Gs V) {j : Nat} (hix : a.ix = j) (j1 : j <= 16) (hn : (A + 1 + j) < s.n) {u z vr : Int} {fz : Bool} (hu : s.wd (A + 1 + j) = u) (hc : CellIs u z fz vr) {σ : Nat} (hσ : wrap64 (s.steps + 1) = σ) (hr : (decide (a.kd = 1) || a.oth z) = false) (h4 : st ≠ 4) (hf : fz = true) (hv : ¬ vr = V) (hge : ¬ vr ≥ V) :
 Calls Tryz.prog 89 #[.pointer (some ⟨b,o,none⟩),.agg #[.int .i64 t,.int .i64 n,.int .i64 k,.int .i64 m,.int .i64 g,.int .i64 p,.int .i64 r,.pointer (some ⟨L.p,0,none⟩),.int .i64 who],.agg #[.int .i64 x,.int .i64 G]] w fun e w'=>e = .returned (.tuple #[]) /\ Cact L b o T cs w w' (fun s' a'=>s' = ((s.by who).step (A + 1 + j) (s.wd (A + 1 + j))) /\ a' = { a with ce:=u,ld:=σ,nx:=6 }):=by
 have HU : Hid (s.wd (A + 1 + j) = u):=hu
 have HS : Hid ((((s.by who).step (A + 1 + j) (s.wd (A + 1 + j)))).steps = σ):=hσ
 have HR : Hid ((decide (a.kd = 1) || a.oth z) = false):=hr
 have sw:=hs.call
 have cc:=hc.call
 have ab : (A : Int) <= 1048575:=by have:=hs.ad;omega
 have HX : Hid (a.ix = j):=hix
 clear hu hs hc hσ hr hix
 subst hf
 have hbv : ¬ L.has w.heap.size:=fun hh=>by have:=h.lt _ hh;omega
 have hbb : ¬ w.heap.size = b:=fun hh=>by have:=hi.lt;omega
 have hbv1 : ¬ L.has (w.heap.size + 1):=fun hh=>by have:=h.lt _ hh;omega
 have hbb1 : ¬ w.heap.size + 1 = b:=fun hh=>by have:=hi.lt;omega
 have i0:=(hi.grown (grow1 _ (.cells #[.int .i64 t,.int .i64 n,.int .i64 k,.int .i64 m,.int .i64 g,.int .i64 p,.int .i64 r,.pointer (some ⟨L.p,0,none⟩),.int .i64 who] 27))).grown (grow1 _ (.cells #[.int .i64 x,.int .i64 G] 74))
 have k3:=i0.c_se
 go_enter Tryz.func89,Tryz.ntmps89
 go_wp2_with (go_at_call 34;refine (sw _).mono ?_;rintro e w3 ⟨rfl,b3⟩)
 have q0:=At.new w3 42 [.int .i64 st,.int .i64 A,.int .i64 Gs,.int .i64 V]
 obtain ⟨S,hS⟩ : ∃ S,w3.heap.size = S:=⟨_,rfl⟩
 have lS : ¬ L.has S:=fun hh=>by have:=h.lt _ hh;have:=b3.size;simp only [Go.Deep.nblk_alloc] at this;omega
 have bS : S ≠ b:=by have:=hi.lt;have:=b3.size;simp only [Go.Deep.nblk_alloc] at this;omega
 rw [hS] at q0 ⊢
 refine wp_over (fun W=>MemAt W L s /\ AcAt W b o T cs a /\ BoxV W w.heap.size t n k m g p r L.p who /\ At W S 0 42 _ [.int .i64 st,.int .i64 A,.int .i64 Gs,.int .i64 V] /\ Only (L.and b) w W) ⟨(((h.alloc _).alloc _).below b3).alloc _,(i0.grown b3).grown (grow1 _ _),((BoxV.newB _).grown b3).grown (grow1 _ _),q0,((((Only.refl _ _).alloc _).alloc _).trans (Only.ofGrown b3)).alloc _⟩ ?_
 clear b3 i0 k3 sw q0 hS
 rintro W ⟨m1,i1,v1,q1,o1⟩
 refine wp_region_phase (OnlyBut L b (o + 10)) Grown (phAc L b o T cs (cs.setIfInBounds (o + 10) (.int .u64 u)) s ((s.by who).step (A + 1 + j) (s.wd (A + 1 + j))) a { a with ce:=u }) [5,8] [.val (.pointer (some ⟨b,o,none⟩)),.val (.agg #[.int .i64 t,.int .i64 n,.int .i64 k,.int .i64 m,.int .i64 g,.int .i64 p,.int .i64 r,.pointer (some ⟨L.p,0,none⟩),.int .i64 who]),.val (.pointer (some ⟨b,o,none⟩)),.val (.agg #[.int .i64 st,.int .i64 A,.int .i64 Gs,.int .i64 V]),.val (.int .i64 (((A + 1 + j) : Nat) : Int)),.val (.int .u64 u),.val (.pointer (some ⟨b,o,none⟩)),.val (.pointer (some ⟨b,o + 10,none⟩)),.that (fun _ _=>True) (fun _ _ _ _ _=>trivial)]
  (by kernel_rfl) OnlyBut.refl OnlyBut.trans OnlyBut.ofGrown phAc_grown ⟨m1.drew,i1.drew⟩ (by kernel_rfl) (by kernel_rfl) (by kernel_rfl) (by kernel_rfl) (by kernel_rfl) ?_
 simp only [phaseAll,Act.put,List.setIfInBounds_toArray,List.set_cons_zero,List.set_cons_succ]
 refine ⟨?_,?_,?_,?_,?_,?_,?_,?_,?_,?_⟩
 · intros;apply ol;go_simp;exact gl
 · intro w' hR _
   apply ol
   obtain ⟨y0,y1,y2,y3,y4,y5,y6,y7,y8⟩:=(v1.grown ((Below.refl _ _).drew)).only hR.only (fun hh=>hh.elim hbv hbb)
   go_simp
   exact gl
 · intros;apply ol;go_simp;exact gl
 · intro w' hR _
   apply ol
   have z0:=(q1.drew.only hR.only (fun hh=>hh.elim lS bS)).at0 0 rfl
   have z1:=(q1.drew.only hR.only (fun hh=>hh.elim lS bS)).at0 1 rfl
   have z2:=(q1.drew.only hR.only (fun hh=>hh.elim lS bS)).at0 2 rfl
   have z3:=(q1.drew.only hR.only (fun hh=>hh.elim lS bS)).at0 3 rfl
   go_simp
   exact gl
 · intro w' hR _
   apply ol
   go_simp
   refine (aplace_any st A Gs V j (hR.keep (j:=o + 3) (by omega) (by have z:=i1.drew.c_ix;rwa [HX.out] at z)) (by omega) (by omega) (by omega) (by omega)).mono ?_
   rintro e w'' ⟨rfl,b9⟩
   exact ⟨_,rfl,b9,congrArg (Value.int .i64) (by omega)⟩
 · intro w' hR _ hP
   apply ol
   go_simp
   refine (eload_in (s:=s) hP.1 _ _ _ _ _ _ _ _ (A + 1 + j) hn).mono ?_
   rintro e w'' ⟨rfl,m2,o2⟩
   exact ⟨_,rfl,⟨OnlyBut.ofOnly o2 hb,m2,hP.2.only o2 hb⟩,by simp [Want.pred,HU.out]⟩
 · intros;apply ol;go_simp;exact gl
 · intros;apply ol;go_simp;exact gl
 · intro w' hR _ hP
   apply ol
   have z0:=hP.2.c_ce
   have z1:=hP.2.fz
   go_simp
   exact ⟨⟨OnlyBut.set _ _,hP.1.setIn hb _ _,hP.2.set_ce _⟩,trivial⟩
 intro vv w2 hR hP _
 obtain ⟨m2,i2⟩ : MemAt w2 L ((s.by who).step (A + 1 + j) (s.wd (A + 1 + j))) /\ AcAt w2 b o T (cs.setIfInBounds (o + 10) (.int .u64 u)) { a with ce:=u }:=hP
 have o2 : Only (L.and b) w w2:=o1.drew.trans hR.only
 have v2:=(v1.grown ((Below.refl _ _).drew)).only hR.only (fun hh=>hh.elim hbv hbb)
 have q2:=q1.drew.only hR.only (fun hh=>hh.elim lS bS)
 have s2 : Same o 24 cs (cs.setIfInBounds (o + 10) (.int .u64 u)):=Same.refl.set (by omega) _
 obtain ⟨g0,g1,g2,g3,g4,g5,g6,g7,g8⟩:=id v2
 clear hR o1 v1 m1 i1 q1
 go_wp2_with (first
  | (go_at_call 55;refine (now_any m2 _ _ _ _ _ _ _ _ σ HS.out).mono ?_;rintro e w3 ⟨rfl,b3⟩;have i3:=i2.grown b3;have k8:=i3.c_ld;have kf:=i3.fz;have i4:=i3.set_ld σ;have m4:=(m2.below b3).setIn hb (o + 11) (.int .i64 σ);have q4:=(q2.grown b3).other bS (o + 11) (.int .i64 σ);have o4:=(o2.trans (Only.ofGrown b3)).set (o + 11) (.int .i64 σ);have k7 : (w3.setCell ⟨b,o + 11,none⟩ (.int .i64 σ)).cell? ⟨b,o + 10,none⟩ = some (.int .u64 u):=i4.c_ce)
  | (go_at_call 82;refine (cc _).mono ?_;rintro e w5 ⟨rfl,b5⟩;have i6:=(i4.grown b5).grown (grow1 _ (.cells #[.int .i64 z,.bool true,.int .i64 vr] 119));have m6:=(m4.below b5).alloc (.cells #[.int .i64 z,.bool true,.int .i64 vr] 119);have o6:=(o4.trans (Only.ofGrown b5)).alloc (.cells #[.int .i64 z,.bool true,.int .i64 vr] 119);have q6:=(q4.grown b5).grown (grow1 _ (.cells #[.int .i64 z,.bool true,.int .i64 vr] 119));have c6:=At.new w5 119 [.int .i64 z,.bool true,.int .i64 vr];have z0:=c6.at0 0 rfl;have z1:=c6.at0 1 rfl;have z2:=c6.at0 2 rfl)
  | (go_at_call 127;refine (areads_any i6 z true vr).mono ?_;rintro e w7 ⟨rfl,b7⟩;rw [show (decide (({ a with ce:=u,ld:=σ } : CV).kd = 1) || ({ a with ce:=u,ld:=σ } : CV).oth z) = false from HR.out];have i7:=i6.grown b7;have m7:=m6.below b7;have o7:=o6.trans (Only.ofGrown b7);have q7:=q6.grown b7;have c7:=c6.grown b7;have t0:=q7.at0 0 rfl;have t3:=q7.at0 3 rfl;have t1:=c7.at0 1 rfl;have t2:=c7.at0 2 rfl;have k0:=i7.c_nx;have lf:=i7.fz))
 go_end0
 exact ⟨rfl,_,_,_,m7.setIn hb _ _,o7.set _ _,i7.set_nx 6,(s2.set (by omega) _).set (by omega) _,rfl,rfl⟩
end Go.Proofs.YtkgpffcnimmdkaaGreat
