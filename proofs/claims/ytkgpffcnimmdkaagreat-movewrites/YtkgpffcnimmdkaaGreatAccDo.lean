import Derived.Test.YtkgpffcnimmdkaaGreatAccLeaf
namespace Go.Proofs.YtkgpffcnimmdkaaGreat
open Go.RowKit
set_option maxRecDepth 20000
set_option maxHeartbeats 400000 in
theorem asee_no {w : World} {L : Loc} {s : Mm} {b o : Nat} {T : TypeId} {cs : Array Value} {t n k m : Nat} {g p r : Int} {a : CV} (h : MemAt w L s) (hb : ¬ L.has b) (hi : AcAt w b o T cs a) (who : Int) (hG : Good t n k m g p r) {x : Nat} {G : Int} (hx : x < n) (hn : (6 + t + x * 2) < s.n) {v st : Int} {A : Nat} {Gs V : Int} (hv : s.wd (6 + t + x * 2) = v) (hs : SlotIs v st A Gs V) (hl : (lifeB st && Gs == G) = false) {σ : Nat} (hσ : wrap64 (s.steps + 1) = σ)  :
 Calls Tryz.prog 87 #[.pointer (some ⟨b,o,none⟩),.agg #[.int .i64 t,.int .i64 n,.int .i64 k,.int .i64 m,.int .i64 g,.int .i64 p,.int .i64 r,.pointer (some ⟨L.p,0,none⟩),.int .i64 who],.agg #[.int .i64 x,.int .i64 G]] w fun e w'=>e = .returned (.tuple #[]) /\ Cact L b o T cs w w' (fun s' a'=>s' = ((s.by who).step (6 + t + x * 2) (s.wd (6 + t + x * 2))) /\ a' = { a with se:=v,at_:=σ,nx:=7,E:=3,H:=0,V:=0,St:=σ }):=by
 have HU : Hid (s.wd (6 + t + x * 2) = v):=hv
 have HS : Hid ((((s.by who).step (6 + t + x * 2) (s.wd (6 + t + x * 2)))).steps = σ):=hσ
 have sw:=hs.call
 have hs1:=hG.s1
 have ab : (A : Int) <= 1048575:=by have:=hs.ad;omega
 have dl:=fun w=>dlive_any st A Gs V x G w
 rw [hl] at dl
 clear hv hs hl hσ
 have hbv : ¬ L.has w.heap.size:=fun hh=>by have:=h.lt _ hh;omega
 have hbb : ¬ w.heap.size = b:=fun hh=>by have:=hi.lt;omega
 have hbv1 : ¬ L.has (w.heap.size + 1):=fun hh=>by have:=h.lt _ hh;omega
 have hbb1 : ¬ w.heap.size + 1 = b:=fun hh=>by have:=hi.lt;omega
 go_enter Tryz.func87,Tryz.ntmps87
 go_wp2
 refine wp_over (fun W=>MemAt W L s /\ AcAt W b o T cs a /\ BoxV W w.heap.size t n k m g p r L.p who /\ At W (w.heap.size + 1) 0 74 #[.int .i64 x,.int .i64 G] [.int .i64 x,.int .i64 G] /\ Only (L.and b) w W) ⟨(h.alloc _).alloc _,(hi.grown (grow1 _ _)).grown (grow1 _ _),BoxV.newB _,At.new2 _ _ _ _,((Only.refl _ _).alloc _).alloc _⟩ ?_
 rintro W ⟨m1,i1,v1,x1,o1⟩
 refine wp_region_phase (OnlyBut L b (o + 7)) Grown (phAc L b o T cs (cs.setIfInBounds (o + 7) (.int .u64 v)) s ((s.by who).step (6 + t + x * 2) (s.wd (6 + t + x * 2))) a { a with se:=v }) [7,10] [.val (.pointer (some ⟨b,o,none⟩)),.val (.agg #[.int .i64 t,.int .i64 n,.int .i64 k,.int .i64 m,.int .i64 g,.int .i64 p,.int .i64 r,.pointer (some ⟨L.p,0,none⟩),.int .i64 who]),.val (.pointer (some ⟨w.heap.size,0,none⟩)),.val (.agg #[.int .i64 t,.int .i64 n,.int .i64 k,.int .i64 m,.int .i64 g,.int .i64 p,.int .i64 r]),.val (.pointer (some ⟨w.heap.size + 1,0,none⟩)),.val (.int .i64 (x : Nat)),.val (.int .i64 (((6 + t + x * 2) : Nat) : Int)),.val (.int .u64 v),.val (.pointer (some ⟨b,o,none⟩)),.val (.pointer (some ⟨b,o + 7,none⟩)),.that (fun _ _=>True) (fun _ _ _ _ _=>trivial)]
  (by kernel_rfl) OnlyBut.refl OnlyBut.trans OnlyBut.ofGrown phAc_grown ⟨m1.drew,i1.drew⟩ (by kernel_rfl) (by kernel_rfl) (by kernel_rfl) (by kernel_rfl) (by kernel_rfl) ?_
 simp only [phaseAll,Act.put,List.setIfInBounds_toArray,List.set_cons_zero,List.set_cons_succ]
 refine ⟨?_,?_,?_,?_,?_,?_,?_,?_,?_,?_,?_,?_⟩
 · intros;apply ol;go_simp;exact gl
 · intro w' hR _
   apply ol
   obtain ⟨y0,y1,y2,y3,y4,y5,y6,y7,y8⟩:=(v1.grown ((Below.refl _ _).drew)).only hR.only (fun hh=>hh.elim hbv hbb)
   go_simp
   exact gl
 · intros;apply ol;go_simp;exact gl
 · intro w' hR _
   apply ol
   obtain ⟨y0,y1,y2,y3,y4,y5,y6,y7,y8⟩:=(v1.grown ((Below.refl _ _).drew)).only hR.only (fun hh=>hh.elim hbv hbb)
   go_simp
   exact gl
 · intros;apply ol;go_simp;exact gl
 · intro w' hR _
   apply ol
   have z:=(x1.drew.only hR.only (fun hh=>hh.elim hbv1 hbb1)).at0 0 rfl
   go_simp
   exact gl
 · intro w' hR _
   apply ol
   go_simp
   refine (lslot_any _ _ _ _ _ _ _ (x : Int) _ hG.arena (by omega) (by omega)).mono ?_
   rintro e w'' ⟨rfl,b9⟩
   exact ⟨_,rfl,b9,congrArg (Value.int .i64) (by omega)⟩
 · intro w' hR _ hP
   apply ol
   go_simp
   refine (eload_in (s:=s) hP.1 _ _ _ _ _ _ _ _ (6 + t + x * 2) hn).mono ?_
   rintro e w'' ⟨rfl,m2,o2⟩
   exact ⟨_,rfl,⟨OnlyBut.ofOnly o2 hb,m2,hP.2.only o2 hb⟩,by simp [Want.pred,HU.out]⟩
 · intros;apply ol;go_simp;exact gl
 · intros;apply ol;go_simp;exact gl
 · intro w' hR _ hP
   apply ol
   have z0:=hP.2.c_se
   have z1:=hP.2.fz
   go_simp
   exact ⟨⟨OnlyBut.set _ _,hP.1.setIn hb _ _,hP.2.set_se _⟩,trivial⟩
 intro vv w2 hR hP _
 obtain ⟨m2,i2⟩ : MemAt w2 L ((s.by who).step (6 + t + x * 2) (s.wd (6 + t + x * 2))) /\ AcAt w2 b o T (cs.setIfInBounds (o + 7) (.int .u64 v)) { a with se:=v }:=hP
 have o2 : Only (L.and b) w w2:=o1.drew.trans hR.only
 have x2:=x1.drew.only hR.only (fun hh=>hh.elim hbv1 hbb1)
 have v2:=(v1.grown ((Below.refl _ _).drew)).only hR.only (fun hh=>hh.elim hbv hbb)
 have s2 : Same o 24 cs (cs.setIfInBounds (o + 7) (.int .u64 v)):=Same.refl.set (by omega) _
 obtain ⟨g0,g1,g2,g3,g4,g5,g6,g7,g8⟩:=id v2
 clear hR o1 v1 m1 i1 x1
 go_wp2_with (first
  | (go_at_call 55;refine (now_any m2 _ _ _ _ _ _ _ _ σ HS.out).mono ?_;rintro e w3 ⟨rfl,b3⟩;have i3:=i2.grown b3;have k8:=i3.c_at_;have kf:=i3.fz;have i4:=i3.set_at_ σ;have m4:=(m2.below b3).setIn hb (o + 8) (.int .i64 σ);have x4:=(x2.grown b3).other hbb1 (o + 8) (.int .i64 σ);have v4:=(v2.grown b3).setIn hbb (o + 8) (.int .i64 σ);have o4:=(o2.trans (Only.ofGrown b3)).set (o + 8) (.int .i64 σ);have k7 : (w3.setCell ⟨b,o + 8,none⟩ (.int .i64 σ)).cell? ⟨b,o + 7,none⟩ = some (.int .u64 v):=i4.c_se)
  | (go_at_call 34;refine (sw _).mono ?_;rintro e w5 ⟨rfl,b5⟩;have i6:=(i4.grown b5).grown (grow1 _ (.cells #[.int .i64 st,.int .i64 A,.int .i64 Gs,.int .i64 V] 42));have x6:=(x4.grown b5).grown (grow1 _ (.cells #[.int .i64 st,.int .i64 A,.int .i64 Gs,.int .i64 V] 42));have v6:=(v4.grown b5).grown (grow1 _ (.cells #[.int .i64 st,.int .i64 A,.int .i64 Gs,.int .i64 V] 42));have m6:=(m4.below b5).alloc (.cells #[.int .i64 st,.int .i64 A,.int .i64 Gs,.int .i64 V] 42);have o6:=(o4.trans (Only.ofGrown b5)).alloc (.cells #[.int .i64 st,.int .i64 A,.int .i64 Gs,.int .i64 V] 42);have q6:=At.new w5 42 [.int .i64 st,.int .i64 A,.int .i64 Gs,.int .i64 V];have z0:=q6.at0 0 rfl;have z1:=q6.at0 1 rfl;have z2:=q6.at0 2 rfl;have z3:=q6.at0 3 rfl;have u0:=x6.at0 0 rfl;have u1:=x6.at0 1 rfl)
  | (go_at_call 124;refine (dl _).mono ?_;rintro e w7 ⟨rfl,b7⟩;have i7:=i6.grown b7;have m7:=m6.below b7;have v7:=v6.grown b7;have o7:=o6.trans (Only.ofGrown b7);have q7:=q6.grown b7;have l1:=q7.at0 1 rfl;obtain ⟨e0,e1,e2,e3,e4,e5,e6,e7,e8⟩:=id v7;have l8 : w7.cell? ⟨b,o + 8,none⟩ = some (.int .i64 σ):=i7.c_at_)
  | (go_at_call 54;refine (aend m7 hb i7 3 0 σ).mono ?_;rintro e w8 ⟨rfl,s8,cs8,a8,m8,o8,i8,q8,rfl,rfl⟩))
 refine bodyPost_ret (results_none rfl _ _ _) rfl ?_
 exact ⟨rfl,_,_,_,m8,o7.trans o8,i8,(s2.set (by omega) _).trans q8,rfl,rfl⟩
set_option maxHeartbeats 400000 in
theorem asee_yes {w : World} {L : Loc} {s : Mm} {b o : Nat} {T : TypeId} {cs : Array Value} {t n k m : Nat} {g p r : Int} {a : CV} (h : MemAt w L s) (hb : ¬ L.has b) (hi : AcAt w b o T cs a) (who : Int) (hG : Good t n k m g p r) {x : Nat} {G : Int} (hx : x < n) (hn : (6 + t + x * 2) < s.n) {v st : Int} {A : Nat} {Gs V : Int} (hv : s.wd (6 + t + x * 2) = v) (hs : SlotIs v st A Gs V) (hl : (lifeB st && Gs == G) = true) {σ : Nat} (hσ : wrap64 (s.steps + 1) = σ) {ci : Int} (hci : chunkOf t n k m A = ci) (hc0 : 0 <= ci) :
 Calls Tryz.prog 87 #[.pointer (some ⟨b,o,none⟩),.agg #[.int .i64 t,.int .i64 n,.int .i64 k,.int .i64 m,.int .i64 g,.int .i64 p,.int .i64 r,.pointer (some ⟨L.p,0,none⟩),.int .i64 who],.agg #[.int .i64 x,.int .i64 G]] w fun e w'=>e = .returned (.tuple #[]) /\ Cact L b o T cs w w' (fun s' a'=>s' = ((s.by who).step (6 + t + x * 2) (s.wd (6 + t + x * 2))) /\ a' = { a with se:=v,at_:=σ,nx:=1 }):=by
 have HU : Hid (s.wd (6 + t + x * 2) = v):=hv
 have HS : Hid ((((s.by who).step (6 + t + x * 2) (s.wd (6 + t + x * 2)))).steps = σ):=hσ
 have sw:=hs.call
 have hs1:=hG.s1
 have ab : (A : Int) <= 1048575:=by have:=hs.ad;omega
 have dl:=fun w=>dlive_any st A Gs V x G w
 rw [hl] at dl
 have of1:=fun w=>lof_any hG (A : Int) (by omega) w
 rw [hci] at of1
 clear hci
 clear hv hs hl hσ
 have hbv : ¬ L.has w.heap.size:=fun hh=>by have:=h.lt _ hh;omega
 have hbb : ¬ w.heap.size = b:=fun hh=>by have:=hi.lt;omega
 have hbv1 : ¬ L.has (w.heap.size + 1):=fun hh=>by have:=h.lt _ hh;omega
 have hbb1 : ¬ w.heap.size + 1 = b:=fun hh=>by have:=hi.lt;omega
 go_enter Tryz.func87,Tryz.ntmps87
 go_wp2
 refine wp_over (fun W=>MemAt W L s /\ AcAt W b o T cs a /\ BoxV W w.heap.size t n k m g p r L.p who /\ At W (w.heap.size + 1) 0 74 #[.int .i64 x,.int .i64 G] [.int .i64 x,.int .i64 G] /\ Only (L.and b) w W) ⟨(h.alloc _).alloc _,(hi.grown (grow1 _ _)).grown (grow1 _ _),BoxV.newB _,At.new2 _ _ _ _,((Only.refl _ _).alloc _).alloc _⟩ ?_
 rintro W ⟨m1,i1,v1,x1,o1⟩
 refine wp_region_phase (OnlyBut L b (o + 7)) Grown (phAc L b o T cs (cs.setIfInBounds (o + 7) (.int .u64 v)) s ((s.by who).step (6 + t + x * 2) (s.wd (6 + t + x * 2))) a { a with se:=v }) [7,10] [.val (.pointer (some ⟨b,o,none⟩)),.val (.agg #[.int .i64 t,.int .i64 n,.int .i64 k,.int .i64 m,.int .i64 g,.int .i64 p,.int .i64 r,.pointer (some ⟨L.p,0,none⟩),.int .i64 who]),.val (.pointer (some ⟨w.heap.size,0,none⟩)),.val (.agg #[.int .i64 t,.int .i64 n,.int .i64 k,.int .i64 m,.int .i64 g,.int .i64 p,.int .i64 r]),.val (.pointer (some ⟨w.heap.size + 1,0,none⟩)),.val (.int .i64 (x : Nat)),.val (.int .i64 (((6 + t + x * 2) : Nat) : Int)),.val (.int .u64 v),.val (.pointer (some ⟨b,o,none⟩)),.val (.pointer (some ⟨b,o + 7,none⟩)),.that (fun _ _=>True) (fun _ _ _ _ _=>trivial)]
  (by kernel_rfl) OnlyBut.refl OnlyBut.trans OnlyBut.ofGrown phAc_grown ⟨m1.drew,i1.drew⟩ (by kernel_rfl) (by kernel_rfl) (by kernel_rfl) (by kernel_rfl) (by kernel_rfl) ?_
 simp only [phaseAll,Act.put,List.setIfInBounds_toArray,List.set_cons_zero,List.set_cons_succ]
 refine ⟨?_,?_,?_,?_,?_,?_,?_,?_,?_,?_,?_,?_⟩
 · intros;apply ol;go_simp;exact gl
 · intro w' hR _
   apply ol
   obtain ⟨y0,y1,y2,y3,y4,y5,y6,y7,y8⟩:=(v1.grown ((Below.refl _ _).drew)).only hR.only (fun hh=>hh.elim hbv hbb)
   go_simp
   exact gl
 · intros;apply ol;go_simp;exact gl
 · intro w' hR _
   apply ol
   obtain ⟨y0,y1,y2,y3,y4,y5,y6,y7,y8⟩:=(v1.grown ((Below.refl _ _).drew)).only hR.only (fun hh=>hh.elim hbv hbb)
   go_simp
   exact gl
 · intros;apply ol;go_simp;exact gl
 · intro w' hR _
   apply ol
   have z:=(x1.drew.only hR.only (fun hh=>hh.elim hbv1 hbb1)).at0 0 rfl
   go_simp
   exact gl
 · intro w' hR _
   apply ol
   go_simp
   refine (lslot_any _ _ _ _ _ _ _ (x : Int) _ hG.arena (by omega) (by omega)).mono ?_
   rintro e w'' ⟨rfl,b9⟩
   exact ⟨_,rfl,b9,congrArg (Value.int .i64) (by omega)⟩
 · intro w' hR _ hP
   apply ol
   go_simp
   refine (eload_in (s:=s) hP.1 _ _ _ _ _ _ _ _ (6 + t + x * 2) hn).mono ?_
   rintro e w'' ⟨rfl,m2,o2⟩
   exact ⟨_,rfl,⟨OnlyBut.ofOnly o2 hb,m2,hP.2.only o2 hb⟩,by simp [Want.pred,HU.out]⟩
 · intros;apply ol;go_simp;exact gl
 · intros;apply ol;go_simp;exact gl
 · intro w' hR _ hP
   apply ol
   have z0:=hP.2.c_se
   have z1:=hP.2.fz
   go_simp
   exact ⟨⟨OnlyBut.set _ _,hP.1.setIn hb _ _,hP.2.set_se _⟩,trivial⟩
 intro vv w2 hR hP _
 obtain ⟨m2,i2⟩ : MemAt w2 L ((s.by who).step (6 + t + x * 2) (s.wd (6 + t + x * 2))) /\ AcAt w2 b o T (cs.setIfInBounds (o + 7) (.int .u64 v)) { a with se:=v }:=hP
 have o2 : Only (L.and b) w w2:=o1.drew.trans hR.only
 have x2:=x1.drew.only hR.only (fun hh=>hh.elim hbv1 hbb1)
 have v2:=(v1.grown ((Below.refl _ _).drew)).only hR.only (fun hh=>hh.elim hbv hbb)
 have s2 : Same o 24 cs (cs.setIfInBounds (o + 7) (.int .u64 v)):=Same.refl.set (by omega) _
 obtain ⟨g0,g1,g2,g3,g4,g5,g6,g7,g8⟩:=id v2
 clear hR o1 v1 m1 i1 x1
 go_wp2_with (first
  | (go_at_call 55;refine (now_any m2 _ _ _ _ _ _ _ _ σ HS.out).mono ?_;rintro e w3 ⟨rfl,b3⟩;have i3:=i2.grown b3;have k8:=i3.c_at_;have kf:=i3.fz;have i4:=i3.set_at_ σ;have m4:=(m2.below b3).setIn hb (o + 8) (.int .i64 σ);have x4:=(x2.grown b3).other hbb1 (o + 8) (.int .i64 σ);have v4:=(v2.grown b3).setIn hbb (o + 8) (.int .i64 σ);have o4:=(o2.trans (Only.ofGrown b3)).set (o + 8) (.int .i64 σ);have k7 : (w3.setCell ⟨b,o + 8,none⟩ (.int .i64 σ)).cell? ⟨b,o + 7,none⟩ = some (.int .u64 v):=i4.c_se)
  | (go_at_call 34;refine (sw _).mono ?_;rintro e w5 ⟨rfl,b5⟩;have i6:=(i4.grown b5).grown (grow1 _ (.cells #[.int .i64 st,.int .i64 A,.int .i64 Gs,.int .i64 V] 42));have x6:=(x4.grown b5).grown (grow1 _ (.cells #[.int .i64 st,.int .i64 A,.int .i64 Gs,.int .i64 V] 42));have v6:=(v4.grown b5).grown (grow1 _ (.cells #[.int .i64 st,.int .i64 A,.int .i64 Gs,.int .i64 V] 42));have m6:=(m4.below b5).alloc (.cells #[.int .i64 st,.int .i64 A,.int .i64 Gs,.int .i64 V] 42);have o6:=(o4.trans (Only.ofGrown b5)).alloc (.cells #[.int .i64 st,.int .i64 A,.int .i64 Gs,.int .i64 V] 42);have q6:=At.new w5 42 [.int .i64 st,.int .i64 A,.int .i64 Gs,.int .i64 V];have z0:=q6.at0 0 rfl;have z1:=q6.at0 1 rfl;have z2:=q6.at0 2 rfl;have z3:=q6.at0 3 rfl;have u0:=x6.at0 0 rfl;have u1:=x6.at0 1 rfl)
  | (go_at_call 124;refine (dl _).mono ?_;rintro e w7 ⟨rfl,b7⟩;have i7:=i6.grown b7;have m7:=m6.below b7;have v7:=v6.grown b7;have o7:=o6.trans (Only.ofGrown b7);have q7:=q6.grown b7;have l1:=q7.at0 1 rfl;obtain ⟨e0,e1,e2,e3,e4,e5,e6,e7,e8⟩:=id v7;have l8 : w7.cell? ⟨b,o + 8,none⟩ = some (.int .i64 σ):=i7.c_at_)
  | (go_at_call 15;refine (of1 _).mono ?_;rintro e w8 ⟨rfl,b8⟩;have i8:=i7.grown b8;have m8:=m7.below b8;have l0:=i8.c_nx;have lf:=i8.fz))
 go_end0
 exact ⟨rfl,_,_,_,m8.setIn hb _ _,(o7.trans (Only.ofGrown b8)).set _ _,i8.set_nx 1,(s2.set (by omega) _).set (by omega) _,rfl,rfl⟩
set_option maxHeartbeats 1000000 in
theorem aask_no {w : World} {L : Loc} {s : Mm} {b o : Nat} {T : TypeId} {cs : Array Value} {t n k m : Nat} {g p r : Int} {a : CV} (h : MemAt w L s) (hb : ¬ L.has b) (hi : AcAt w b o T cs a) (who : Int) {st : Int} {A : Nat} {Gs V : Int} (hs : SlotIs a.se st A Gs V) (hn : A < s.n) {u kd Z sl gn : Int} {ow : Bool} (hu : s.wd A = u) (hh : HeadIs u kd Z sl gn ow) (ho : (ow == a.own) = false) {σ : Nat} (hσ : wrap64 (s.steps + 1) = σ) :
 Calls Tryz.prog 88 #[.pointer (some ⟨b,o,none⟩),.agg #[.int .i64 t,.int .i64 n,.int .i64 k,.int .i64 m,.int .i64 g,.int .i64 p,.int .i64 r,.pointer (some ⟨L.p,0,none⟩),.int .i64 who]] w fun e w'=>e = .returned (.tuple #[]) /\ Cact L b o T cs w w' (fun s' a'=>s' = ((s.by who).step A (s.wd A)) /\ a' = { a with sz:=Z,nx:=7,E:=3,H:=0,V:=0,St:=σ }):=by
 have HU : Hid (s.wd A = u):=hu
 have HO : Hid ((ow == a.own) = false):=ho
 have sw:=hs.call
 have hw:=hh.call
 have HS : Hid ((((s.by who).step A (s.wd A))).steps = σ):=hσ
 clear hσ
 clear hu hs hh ho
 have hbv : ¬ L.has w.heap.size:=fun hh=>by have:=h.lt _ hh;omega
 have hbb : ¬ w.heap.size = b:=fun hh=>by have:=hi.lt;omega
 have i0:=hi.grown (grow1 _ (.cells #[.int .i64 t,.int .i64 n,.int .i64 k,.int .i64 m,.int .i64 g,.int .i64 p,.int .i64 r,.pointer (some ⟨L.p,0,none⟩),.int .i64 who] 27))
 have k3:=i0.c_se
 go_enter Tryz.func88,Tryz.ntmps88
 go_wp2_with (first
  | (go_at_call 34;refine (sw _).mono ?_;rintro e w3 ⟨rfl,b3⟩;have i3:=(i0.grown b3).grown (grow1 _ (.cells #[.int .i64 st,.int .i64 A,.int .i64 Gs,.int .i64 V] 42));have v3:=(BoxV.new.grown b3).grown (grow1 _ (.cells #[.int .i64 st,.int .i64 A,.int .i64 Gs,.int .i64 V] 42));have m3:=((h.alloc _).below b3).alloc (.cells #[.int .i64 st,.int .i64 A,.int .i64 Gs,.int .i64 V] 42);have o3 : Only (L.and b) w (w3.alloc (.cells #[.int .i64 st,.int .i64 A,.int .i64 Gs,.int .i64 V] 42)):=(((Only.refl _ _).alloc _).trans (Only.ofGrown b3)).alloc (.cells #[.int .i64 st,.int .i64 A,.int .i64 Gs,.int .i64 V] 42);have q3:=At.new w3 42 [.int .i64 st,.int .i64 A,.int .i64 Gs,.int .i64 V];obtain ⟨e0,e1,e2,e3,e4,e5,e6,e7,e8⟩:=id v3;have q0:=q3.at0 1 rfl)
  | (go_at_call 72;refine (eload_in m3 _ _ _ _ _ _ _ _ A hn).mono ?_;rintro e w5 ⟨rfl,m5,o5⟩;rw [HU.out])
  | (go_at_call 21;refine (hw _).mono ?_;rintro e w6 ⟨rfl,b6⟩;have i6:=((i3.only o5 hb).grown b6).grown (grow1 _ (.cells #[.int .i64 kd,.int .i64 Z,.int .i64 sl,.int .i64 gn,.bool ow] 30));have y0:=At.new w6 30 [.int .i64 kd,.int .i64 Z,.int .i64 sl,.int .i64 gn,.bool ow];have k1:=y0.at0 1 rfl;have k9:=i6.c_sz;have kf:=i6.fz))
 obtain ⟨S,hS⟩ : ∃ S,w3.heap.size = S:=⟨_,rfl⟩
 obtain ⟨Hh,hH⟩ : ∃ Hh,w6.heap.size = Hh:=⟨_,rfl⟩
 have lS : ¬ L.has S:=fun hh=>by have:=h.lt _ hh;have:=b3.size;simp only [Go.Deep.nblk_alloc] at this;omega
 have bS : S ≠ b:=by have:=hi.lt;have:=b3.size;simp only [Go.Deep.nblk_alloc] at this;omega
 have bH : Hh ≠ b:=by have:=hi.lt;have:=b3.size;have:=o5.size;have:=b6.size;simp only [Go.Deep.nblk_alloc] at *;omega
 rw [hS] at q3 ⊢
 rw [hH] at y0 ⊢
 refine wp_over (fun W=>MemAt W L ((s.by who).step A (s.wd A)) /\ AcAt W b o T (cs.setIfInBounds (o + 9) (.int .i64 Z)) { a with sz:=Z } /\ BoxV W w.heap.size t n k m g p r L.p who /\ At W S 0 42 _ [.int .i64 st,.int .i64 A,.int .i64 Gs,.int .i64 V] /\ At W Hh 0 30 _ [.int .i64 kd,.int .i64 Z,.int .i64 sl,.int .i64 gn,.bool ow] /\ Only (L.and b) w W) ⟨((m5.below b6).alloc _).setIn hb _ _,i6.set_sz Z,(((v3.only o5 hbv).grown b6).grown (grow1 _ _)).setIn hbb _ _,(((q3.only o5 lS).grown b6).grown (grow1 _ _)).other bS _ _,y0.other bH _ _,(((o3.trans (o5.andL (b:=b))).trans (Only.ofGrown b6)).alloc _).set _ _⟩ ?_
 clear b3 b6 m3 m5 o5 o3 q3 q0 y0 i3 i6 v3 i0 k3 k1 k9 kf hS hH sw hw
 rintro W ⟨m1,i1,v1,q1,y1,o1⟩
 refine wp_region_rely Grown [.val (.pointer (some ⟨Hh,4,none⟩)),.val (.bool ow),.val (.pointer (some ⟨b,o,none⟩)),.val (.pointer (some ⟨b,o,none⟩)),.val (.pointer (some ⟨b,o + 6,none⟩)),.val (.bool a.own),.val (.bool true),.val (.bool true)] (by kernel_rfl) Grown.refl Grown.trans (by kernel_rfl) (by kernel_rfl) (by kernel_rfl) ?_
 simp only [relyAll,Act.put,List.setIfInBounds_toArray,List.set_cons_zero,List.set_cons_succ]
 refine ⟨?_,?_,?_,?_,?_,?_,?_,?_,?_⟩
 · intros;apply ol;go_simp;exact gl
 · intro w' hg _
   apply ol
   have z:=(y1.drew.grown hg).at0 4 rfl
   go_simp
   exact gl
 · intros;apply ol;go_simp;exact gl
 · intros;apply ol;go_simp;exact gl
 · intros;apply ol;go_simp;exact gl
 · intro w' hg _
   apply ol
   have z:=(i1.drew.grown hg).c_own
   go_simp
   exact gl
 · intro w' hg _
   apply ol
   go_simp
   exact ⟨Grown.refl _,congrArg Value.bool (by rw [HO.out];rfl)⟩
 · intros;apply ol;go_simp;exact gl
 intro w7 hg _
 have m7:=m1.drew.below hg
 have i7:=i1.drew.grown hg
 have v7:=(v1.grown ((Below.refl _ _).drew)).grown hg
 have q7:=q1.drew.grown hg
 have o7 : Only (L.and b) w w7:=o1.drew.trans (Only.ofGrown hg)
 have s7 : Same o 24 cs (cs.setIfInBounds (o + 9) (.int .i64 Z)):=Same.refl.set (by omega) _
 clear hg m1 i1 v1 q1 y1 o1
 have kA:=q7.at0 1 rfl
 obtain ⟨y0,y1,y2,y3,y4,y5,y6,y7,y8⟩:=id v7
 go_wp2_with (first
  | (go_at_call 55;refine (now_any m7 _ _ _ _ _ _ _ _ σ HS.out).mono ?_;rintro e w8 ⟨rfl,b8⟩)
  | (go_at_call 54;refine (aend (m7.below b8) hb (i7.grown b8) 3 0 σ).mono ?_;rintro e w9 ⟨rfl,s9,cs9,a9,m9,o9,i9,q9,rfl,rfl⟩))
 go_end0
 exact ⟨rfl,_,_,_,m9,(o7.trans (Only.ofGrown b8)).trans o9,i9,s7.trans q9,rfl,rfl⟩
set_option maxHeartbeats 1000000 in
theorem aask_index {w : World} {L : Loc} {s : Mm} {b o : Nat} {T : TypeId} {cs : Array Value} {t n k m : Nat} {g p r : Int} {a : CV} (h : MemAt w L s) (hb : ¬ L.has b) (hi : AcAt w b o T cs a) (who : Int) {st : Int} {A : Nat} {Gs V : Int} (hs : SlotIs a.se st A Gs V) (hn : A < s.n) {u kd Z sl gn : Int} {ow : Bool} (hu : s.wd A = u) (hh : HeadIs u kd Z sl gn ow) (ho : (ow == a.own) = true) (hc : ∀ (w1 : World) (c1 : Array Value),AcAt w1 b o T c1 { a with sz:=Z } -> Calls Tryz.prog 125 #[.pointer (some ⟨b,o,none⟩),.agg #[.int .i64 t,.int .i64 n,.int .i64 k,.int .i64 m,.int .i64 g,.int .i64 p,.int .i64 r],.int .i64 A] w1 fun e w'=>e = .returned (.bool false) /\ Below w1.heap.size w1 w') :
 Calls Tryz.prog 88 #[.pointer (some ⟨b,o,none⟩),.agg #[.int .i64 t,.int .i64 n,.int .i64 k,.int .i64 m,.int .i64 g,.int .i64 p,.int .i64 r,.pointer (some ⟨L.p,0,none⟩),.int .i64 who]] w fun e w'=>e = .returned (.tuple #[]) /\ Cact L b o T cs w w' (fun s' a'=>s' = ((s.by who).step A (s.wd A)) /\ a' = { a with sz:=Z,nx:=7,E:=4,H:=0,V:=0,St:=a.at_ }):=by
 have HU : Hid (s.wd A = u):=hu
 have HO : Hid ((ow == a.own) = true):=ho
 have sw:=hs.call
 have hw:=hh.call
 clear hu hs hh ho
 have hbv : ¬ L.has w.heap.size:=fun hh=>by have:=h.lt _ hh;omega
 have hbb : ¬ w.heap.size = b:=fun hh=>by have:=hi.lt;omega
 have i0:=hi.grown (grow1 _ (.cells #[.int .i64 t,.int .i64 n,.int .i64 k,.int .i64 m,.int .i64 g,.int .i64 p,.int .i64 r,.pointer (some ⟨L.p,0,none⟩),.int .i64 who] 27))
 have k3:=i0.c_se
 go_enter Tryz.func88,Tryz.ntmps88
 go_wp2_with (first
  | (go_at_call 34;refine (sw _).mono ?_;rintro e w3 ⟨rfl,b3⟩;have i3:=(i0.grown b3).grown (grow1 _ (.cells #[.int .i64 st,.int .i64 A,.int .i64 Gs,.int .i64 V] 42));have v3:=(BoxV.new.grown b3).grown (grow1 _ (.cells #[.int .i64 st,.int .i64 A,.int .i64 Gs,.int .i64 V] 42));have m3:=((h.alloc _).below b3).alloc (.cells #[.int .i64 st,.int .i64 A,.int .i64 Gs,.int .i64 V] 42);have o3 : Only (L.and b) w (w3.alloc (.cells #[.int .i64 st,.int .i64 A,.int .i64 Gs,.int .i64 V] 42)):=(((Only.refl _ _).alloc _).trans (Only.ofGrown b3)).alloc (.cells #[.int .i64 st,.int .i64 A,.int .i64 Gs,.int .i64 V] 42);have q3:=At.new w3 42 [.int .i64 st,.int .i64 A,.int .i64 Gs,.int .i64 V];obtain ⟨e0,e1,e2,e3,e4,e5,e6,e7,e8⟩:=id v3;have q0:=q3.at0 1 rfl)
  | (go_at_call 72;refine (eload_in m3 _ _ _ _ _ _ _ _ A hn).mono ?_;rintro e w5 ⟨rfl,m5,o5⟩;rw [HU.out])
  | (go_at_call 21;refine (hw _).mono ?_;rintro e w6 ⟨rfl,b6⟩;have i6:=((i3.only o5 hb).grown b6).grown (grow1 _ (.cells #[.int .i64 kd,.int .i64 Z,.int .i64 sl,.int .i64 gn,.bool ow] 30));have y0:=At.new w6 30 [.int .i64 kd,.int .i64 Z,.int .i64 sl,.int .i64 gn,.bool ow];have k1:=y0.at0 1 rfl;have k9:=i6.c_sz;have kf:=i6.fz))
 obtain ⟨S,hS⟩ : ∃ S,w3.heap.size = S:=⟨_,rfl⟩
 obtain ⟨Hh,hH⟩ : ∃ Hh,w6.heap.size = Hh:=⟨_,rfl⟩
 have lS : ¬ L.has S:=fun hh=>by have:=h.lt _ hh;have:=b3.size;simp only [Go.Deep.nblk_alloc] at this;omega
 have bS : S ≠ b:=by have:=hi.lt;have:=b3.size;simp only [Go.Deep.nblk_alloc] at this;omega
 have bH : Hh ≠ b:=by have:=hi.lt;have:=b3.size;have:=o5.size;have:=b6.size;simp only [Go.Deep.nblk_alloc] at *;omega
 rw [hS] at q3 ⊢
 rw [hH] at y0 ⊢
 refine wp_over (fun W=>MemAt W L ((s.by who).step A (s.wd A)) /\ AcAt W b o T (cs.setIfInBounds (o + 9) (.int .i64 Z)) { a with sz:=Z } /\ BoxV W w.heap.size t n k m g p r L.p who /\ At W S 0 42 _ [.int .i64 st,.int .i64 A,.int .i64 Gs,.int .i64 V] /\ At W Hh 0 30 _ [.int .i64 kd,.int .i64 Z,.int .i64 sl,.int .i64 gn,.bool ow] /\ Only (L.and b) w W) ⟨((m5.below b6).alloc _).setIn hb _ _,i6.set_sz Z,(((v3.only o5 hbv).grown b6).grown (grow1 _ _)).setIn hbb _ _,(((q3.only o5 lS).grown b6).grown (grow1 _ _)).other bS _ _,y0.other bH _ _,(((o3.trans (o5.andL (b:=b))).trans (Only.ofGrown b6)).alloc _).set _ _⟩ ?_
 clear b3 b6 m3 m5 o5 o3 q3 q0 y0 i3 i6 v3 i0 k3 k1 k9 kf hS hH sw hw
 rintro W ⟨m1,i1,v1,q1,y1,o1⟩
 refine wp_region_rely Grown [.val (.pointer (some ⟨Hh,4,none⟩)),.val (.bool ow),.val (.pointer (some ⟨b,o,none⟩)),.val (.pointer (some ⟨b,o,none⟩)),.val (.pointer (some ⟨b,o + 6,none⟩)),.val (.bool a.own),.val (.bool false),.val (.bool false)] (by kernel_rfl) Grown.refl Grown.trans (by kernel_rfl) (by kernel_rfl) (by kernel_rfl) ?_
 simp only [relyAll,Act.put,List.setIfInBounds_toArray,List.set_cons_zero,List.set_cons_succ]
 refine ⟨?_,?_,?_,?_,?_,?_,?_,?_,?_⟩
 · intros;apply ol;go_simp;exact gl
 · intro w' hg _
   apply ol
   have z:=(y1.drew.grown hg).at0 4 rfl
   go_simp
   exact gl
 · intros;apply ol;go_simp;exact gl
 · intros;apply ol;go_simp;exact gl
 · intros;apply ol;go_simp;exact gl
 · intro w' hg _
   apply ol
   have z:=(i1.drew.grown hg).c_own
   go_simp
   exact gl
 · intro w' hg _
   apply ol
   go_simp
   exact ⟨Grown.refl _,congrArg Value.bool (by rw [HO.out];rfl)⟩
 · intros;apply ol;go_simp;exact gl
 intro w7 hg _
 have m7:=m1.drew.below hg
 have i7:=i1.drew.grown hg
 have v7:=(v1.grown ((Below.refl _ _).drew)).grown hg
 have q7:=q1.drew.grown hg
 have o7 : Only (L.and b) w w7:=o1.drew.trans (Only.ofGrown hg)
 have s7 : Same o 24 cs (cs.setIfInBounds (o + 9) (.int .i64 Z)):=Same.refl.set (by omega) _
 clear hg m1 i1 v1 q1 y1 o1
 have kA:=q7.at0 1 rfl
 obtain ⟨y0,y1,y2,y3,y4,y5,y6,y7,y8⟩:=id v7
 go_wp2_with (first
  | (go_at_call 125;refine (hc _ _ i7).mono ?_;rintro e w8 ⟨rfl,b8⟩;have i8:=i7.grown b8;have m8:=m7.below b8;have k8 : w8.cell? ⟨b,o + 8,none⟩ = some (.int .i64 a.at_):=i8.c_at_;have k0:=i8.c_nx;have kf:=i8.fz)
  | (go_at_call 54;refine (aend m8 hb i8 4 0 a.at_).mono ?_;rintro e w9 ⟨rfl,s9,cs9,a9,m9,o9,i9,q9,rfl,rfl⟩))
 go_end0
 exact ⟨rfl,_,_,_,m9,(o7.trans (Only.ofGrown b8)).trans o9,i9,s7.trans q9,rfl,rfl⟩
set_option maxHeartbeats 1000000 in
theorem aask_go {w : World} {L : Loc} {s : Mm} {b o : Nat} {T : TypeId} {cs : Array Value} {t n k m : Nat} {g p r : Int} {a : CV} (h : MemAt w L s) (hb : ¬ L.has b) (hi : AcAt w b o T cs a) (who : Int) {st : Int} {A : Nat} {Gs V : Int} (hs : SlotIs a.se st A Gs V) (hn : A < s.n) {u kd Z sl gn : Int} {ow : Bool} (hu : s.wd A = u) (hh : HeadIs u kd Z sl gn ow) (ho : (ow == a.own) = true) (hc : ∀ (w1 : World) (c1 : Array Value),AcAt w1 b o T c1 { a with sz:=Z } -> Calls Tryz.prog 125 #[.pointer (some ⟨b,o,none⟩),.agg #[.int .i64 t,.int .i64 n,.int .i64 k,.int .i64 m,.int .i64 g,.int .i64 p,.int .i64 r],.int .i64 A] w1 fun e w'=>e = .returned (.bool true) /\ Below w1.heap.size w1 w') :
 Calls Tryz.prog 88 #[.pointer (some ⟨b,o,none⟩),.agg #[.int .i64 t,.int .i64 n,.int .i64 k,.int .i64 m,.int .i64 g,.int .i64 p,.int .i64 r,.pointer (some ⟨L.p,0,none⟩),.int .i64 who]] w fun e w'=>e = .returned (.tuple #[]) /\ Cact L b o T cs w w' (fun s' a'=>s' = ((s.by who).step A (s.wd A)) /\ a' = { a with sz:=Z,nx:=2 }):=by
 have HU : Hid (s.wd A = u):=hu
 have HO : Hid ((ow == a.own) = true):=ho
 have sw:=hs.call
 have hw:=hh.call
 clear hu hs hh ho
 have hbv : ¬ L.has w.heap.size:=fun hh=>by have:=h.lt _ hh;omega
 have hbb : ¬ w.heap.size = b:=fun hh=>by have:=hi.lt;omega
 have i0:=hi.grown (grow1 _ (.cells #[.int .i64 t,.int .i64 n,.int .i64 k,.int .i64 m,.int .i64 g,.int .i64 p,.int .i64 r,.pointer (some ⟨L.p,0,none⟩),.int .i64 who] 27))
 have k3:=i0.c_se
 go_enter Tryz.func88,Tryz.ntmps88
 go_wp2_with (first
  | (go_at_call 34;refine (sw _).mono ?_;rintro e w3 ⟨rfl,b3⟩;have i3:=(i0.grown b3).grown (grow1 _ (.cells #[.int .i64 st,.int .i64 A,.int .i64 Gs,.int .i64 V] 42));have v3:=(BoxV.new.grown b3).grown (grow1 _ (.cells #[.int .i64 st,.int .i64 A,.int .i64 Gs,.int .i64 V] 42));have m3:=((h.alloc _).below b3).alloc (.cells #[.int .i64 st,.int .i64 A,.int .i64 Gs,.int .i64 V] 42);have o3 : Only (L.and b) w (w3.alloc (.cells #[.int .i64 st,.int .i64 A,.int .i64 Gs,.int .i64 V] 42)):=(((Only.refl _ _).alloc _).trans (Only.ofGrown b3)).alloc (.cells #[.int .i64 st,.int .i64 A,.int .i64 Gs,.int .i64 V] 42);have q3:=At.new w3 42 [.int .i64 st,.int .i64 A,.int .i64 Gs,.int .i64 V];obtain ⟨e0,e1,e2,e3,e4,e5,e6,e7,e8⟩:=id v3;have q0:=q3.at0 1 rfl)
  | (go_at_call 72;refine (eload_in m3 _ _ _ _ _ _ _ _ A hn).mono ?_;rintro e w5 ⟨rfl,m5,o5⟩;rw [HU.out])
  | (go_at_call 21;refine (hw _).mono ?_;rintro e w6 ⟨rfl,b6⟩;have i6:=((i3.only o5 hb).grown b6).grown (grow1 _ (.cells #[.int .i64 kd,.int .i64 Z,.int .i64 sl,.int .i64 gn,.bool ow] 30));have y0:=At.new w6 30 [.int .i64 kd,.int .i64 Z,.int .i64 sl,.int .i64 gn,.bool ow];have k1:=y0.at0 1 rfl;have k9:=i6.c_sz;have kf:=i6.fz))
 obtain ⟨S,hS⟩ : ∃ S,w3.heap.size = S:=⟨_,rfl⟩
 obtain ⟨Hh,hH⟩ : ∃ Hh,w6.heap.size = Hh:=⟨_,rfl⟩
 have lS : ¬ L.has S:=fun hh=>by have:=h.lt _ hh;have:=b3.size;simp only [Go.Deep.nblk_alloc] at this;omega
 have bS : S ≠ b:=by have:=hi.lt;have:=b3.size;simp only [Go.Deep.nblk_alloc] at this;omega
 have bH : Hh ≠ b:=by have:=hi.lt;have:=b3.size;have:=o5.size;have:=b6.size;simp only [Go.Deep.nblk_alloc] at *;omega
 rw [hS] at q3 ⊢
 rw [hH] at y0 ⊢
 refine wp_over (fun W=>MemAt W L ((s.by who).step A (s.wd A)) /\ AcAt W b o T (cs.setIfInBounds (o + 9) (.int .i64 Z)) { a with sz:=Z } /\ BoxV W w.heap.size t n k m g p r L.p who /\ At W S 0 42 _ [.int .i64 st,.int .i64 A,.int .i64 Gs,.int .i64 V] /\ At W Hh 0 30 _ [.int .i64 kd,.int .i64 Z,.int .i64 sl,.int .i64 gn,.bool ow] /\ Only (L.and b) w W) ⟨((m5.below b6).alloc _).setIn hb _ _,i6.set_sz Z,(((v3.only o5 hbv).grown b6).grown (grow1 _ _)).setIn hbb _ _,(((q3.only o5 lS).grown b6).grown (grow1 _ _)).other bS _ _,y0.other bH _ _,(((o3.trans (o5.andL (b:=b))).trans (Only.ofGrown b6)).alloc _).set _ _⟩ ?_
 clear b3 b6 m3 m5 o5 o3 q3 q0 y0 i3 i6 v3 i0 k3 k1 k9 kf hS hH sw hw
 rintro W ⟨m1,i1,v1,q1,y1,o1⟩
 refine wp_region_rely Grown [.val (.pointer (some ⟨Hh,4,none⟩)),.val (.bool ow),.val (.pointer (some ⟨b,o,none⟩)),.val (.pointer (some ⟨b,o,none⟩)),.val (.pointer (some ⟨b,o + 6,none⟩)),.val (.bool a.own),.val (.bool false),.val (.bool false)] (by kernel_rfl) Grown.refl Grown.trans (by kernel_rfl) (by kernel_rfl) (by kernel_rfl) ?_
 simp only [relyAll,Act.put,List.setIfInBounds_toArray,List.set_cons_zero,List.set_cons_succ]
 refine ⟨?_,?_,?_,?_,?_,?_,?_,?_,?_⟩
 · intros;apply ol;go_simp;exact gl
 · intro w' hg _
   apply ol
   have z:=(y1.drew.grown hg).at0 4 rfl
   go_simp
   exact gl
 · intros;apply ol;go_simp;exact gl
 · intros;apply ol;go_simp;exact gl
 · intros;apply ol;go_simp;exact gl
 · intro w' hg _
   apply ol
   have z:=(i1.drew.grown hg).c_own
   go_simp
   exact gl
 · intro w' hg _
   apply ol
   go_simp
   exact ⟨Grown.refl _,congrArg Value.bool (by rw [HO.out];rfl)⟩
 · intros;apply ol;go_simp;exact gl
 intro w7 hg _
 have m7:=m1.drew.below hg
 have i7:=i1.drew.grown hg
 have v7:=(v1.grown ((Below.refl _ _).drew)).grown hg
 have q7:=q1.drew.grown hg
 have o7 : Only (L.and b) w w7:=o1.drew.trans (Only.ofGrown hg)
 have s7 : Same o 24 cs (cs.setIfInBounds (o + 9) (.int .i64 Z)):=Same.refl.set (by omega) _
 clear hg m1 i1 v1 q1 y1 o1
 have kA:=q7.at0 1 rfl
 obtain ⟨y0,y1,y2,y3,y4,y5,y6,y7,y8⟩:=id v7
 go_wp2_with (go_at_call 125;refine (hc _ _ i7).mono ?_;rintro e w8 ⟨rfl,b8⟩;have i8:=i7.grown b8;have m8:=m7.below b8;have k8 : w8.cell? ⟨b,o + 8,none⟩ = some (.int .i64 a.at_):=i8.c_at_;have k0:=i8.c_nx;have kf:=i8.fz)
 go_end0
 exact ⟨rfl,_,_,_,m8.setIn hb _ _,(o7.trans (Only.ofGrown b8)).set _ _,i8.set_nx 2,s7.set (by omega) _,rfl,rfl⟩
end Go.Proofs.YtkgpffcnimmdkaaGreat
