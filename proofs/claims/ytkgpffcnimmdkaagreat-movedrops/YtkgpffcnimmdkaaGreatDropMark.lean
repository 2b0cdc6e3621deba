import Derived.Test.YtkgpffcnimmdkaaGreatDropDo
namespace Go.Proofs.YtkgpffcnimmdkaaGreat
open Go.RowKit
set_option maxRecDepth 20000
structure HeadIs (u kd Z sl gn : Int) (ow : Bool) : Prop where
 u0 : 0 <= u
 u1 : u <= 18446744073709551615
 kd : u % 4 = kd
 sz : u / 4 % 65536 = Z
 sl : u / 262144 % 65536 = sl
 gn : u / 17179869184 % 65536 = gn
 ow : decide (u / 1125899906842624 % 2 = 1) = ow
theorem HeadIs.call {u kd Z sl gn : Int} {ow : Bool} (h : HeadIs u kd Z sl gn ow) (w : World) :
 Calls Tryz.prog 21 #[.int .u64 u] w fun e w'=>e = .returned (.agg #[.int .i64 kd,.int .i64 Z,.int .i64 sl,.int .i64 gn,.bool ow]) /\ Below w.heap.size w w':=by
 have e:=head_any u w h.u0 h.u1
 rwa [h.kd,h.sz,h.sl,h.gn,h.ow] at e
set_option maxHeartbeats 1000000 in
theorem dask_no {w : World} {L : Loc} {s : Mm} {b o : Nat} {T : TypeId} {cs : Array Value} {t n k m : Nat} {g p r : Int} {a : DV} (h : MemAt w L s) (hb : ¬ L.has b) (hi : DpAt w b o T cs a) (who : Int) {x : Nat} {G : Int} {st : Int} {A : Nat} {Gs V : Int} (hs : SlotIs a.se st A Gs V) (hn : A < s.n) {u kd Z sl gn : Int} {ow : Bool} (hu : s.wd A = u) (hh : HeadIs u kd Z sl gn ow) (hnx : a.nx < 5) (ho : (ow == a.own) = false) {σ : Nat} (hσ : wrap64 (s.steps + 1) = σ) :
 Calls Tryz.prog 97 #[.pointer (some ⟨b,o,none⟩),.agg #[.int .i64 t,.int .i64 n,.int .i64 k,.int .i64 m,.int .i64 g,.int .i64 p,.int .i64 r,.pointer (some ⟨L.p,0,none⟩),.int .i64 who],.agg #[.int .i64 x,.int .i64 G]] w fun e w'=>e = .returned (.tuple #[]) /\ Dact L b o T cs w w' (fun s' a'=>s' = ((s.by who).step A (s.wd A)) /\ a' = { a with nx:=7,E:=3,H:=0,V:=0,St:=σ }):=by
 have HU : Hid (s.wd A = u):=hu
 have sw:=hs.call
 have hw:=hh.call
 clear hu hs hh
 have HS : Hid ((((s.by who).step A (s.wd A))).steps = σ):=hσ
 have HO : Hid ((ow == a.own) = false):=ho
 clear hσ ho
 have hbv : ¬ L.has w.heap.size:=fun hh=>by have:=h.lt _ hh;omega
 have hbb : ¬ w.heap.size = b:=fun hh=>by have:=hi.lt;omega
 have hbv1 : ¬ L.has (w.heap.size + 1):=fun hh=>by have:=h.lt _ hh;omega
 have hbb1 : ¬ w.heap.size + 1 = b:=fun hh=>by have:=hi.lt;omega
 have i0:=(hi.grown (grow1 _ (.cells #[.int .i64 t,.int .i64 n,.int .i64 k,.int .i64 m,.int .i64 g,.int .i64 p,.int .i64 r,.pointer (some ⟨L.p,0,none⟩),.int .i64 who] 27))).grown (grow1 _ (.cells #[.int .i64 x,.int .i64 G] 74))
 have k3:=i0.c_se
 go_enter Tryz.func97,Tryz.ntmps97
 go_wp2_with (first
  | (go_at_call 34;refine (sw _).mono ?_;rintro e w3 ⟨rfl,b3⟩;have i3:=(i0.grown b3).grown (grow1 _ (.cells #[.int .i64 st,.int .i64 A,.int .i64 Gs,.int .i64 V] 42));have x3:=((At.new2 _ _ _ [.int .i64 (x : Nat),.int .i64 G]).grown b3).grown (grow1 _ (.cells #[.int .i64 st,.int .i64 A,.int .i64 Gs,.int .i64 V] 42));have v3:=((BoxV.newB _).grown b3).grown (grow1 _ (.cells #[.int .i64 st,.int .i64 A,.int .i64 Gs,.int .i64 V] 42));have m3:=(((h.alloc _).alloc _).below b3).alloc (.cells #[.int .i64 st,.int .i64 A,.int .i64 Gs,.int .i64 V] 42);have o3 : Only (L.and b) w (w3.alloc (.cells #[.int .i64 st,.int .i64 A,.int .i64 Gs,.int .i64 V] 42)):=((((Only.refl _ _).alloc _).alloc _).trans (Only.ofGrown b3)).alloc (.cells #[.int .i64 st,.int .i64 A,.int .i64 Gs,.int .i64 V] 42);have q3:=At.new w3 42 [.int .i64 st,.int .i64 A,.int .i64 Gs,.int .i64 V];obtain ⟨e0,e1,e2,e3,e4,e5,e6,e7,e8⟩:=id v3;have q0:=q3.at0 1 rfl)
  | (go_at_call 72;refine (eload_in m3 _ _ _ _ _ _ _ _ A hn).mono ?_;rintro e w5 ⟨rfl,m5,o5⟩;rw [HU.out])
  | (go_at_call 21;refine (hw _).mono ?_;rintro e w6 ⟨rfl,b6⟩))
 obtain ⟨S,hS⟩ : ∃ S,w3.heap.size = S:=⟨_,rfl⟩
 have y0:=At.new w6 30 [.int .i64 kd,.int .i64 Z,.int .i64 sl,.int .i64 gn,.bool ow]
 obtain ⟨Hh,hH⟩ : ∃ Hh,w6.heap.size = Hh:=⟨_,rfl⟩
 have lS : ¬ L.has S:=fun hh=>by have:=h.lt _ hh;have:=b3.size;simp only [Go.Deep.nblk_alloc] at this;omega
 have bS : b ≠ S:=by have:=hi.lt;have:=b3.size;simp only [Go.Deep.nblk_alloc] at this;omega
 have bH : b ≠ Hh:=by have:=hi.lt;have:=b3.size;have:=o5.size;have:=b6.size;simp only [Go.Deep.nblk_alloc] at *;omega
 rw [hS] at q3 ⊢
 rw [hH] at y0 ⊢
 refine wp_over (fun W=>MemAt W L ((s.by who).step A (s.wd A)) /\ DpAt W b o T cs a /\ BoxV W w.heap.size t n k m g p r L.p who /\ At W (w.heap.size + 1) 0 74 #[.int .i64 x,.int .i64 G] [.int .i64 x,.int .i64 G] /\ At W S 0 42 _ [.int .i64 st,.int .i64 A,.int .i64 Gs,.int .i64 V] /\ At W Hh 0 30 _ [.int .i64 kd,.int .i64 Z,.int .i64 sl,.int .i64 gn,.bool ow] /\ Only (L.and b) w W) ⟨(m5.below b6).alloc _,((i3.only o5 hb).grown b6).grown (grow1 _ _),((v3.only o5 hbv).grown b6).grown (grow1 _ _),((x3.only o5 hbv1).grown b6).grown (grow1 _ _),((q3.only o5 lS).grown b6).grown (grow1 _ _),y0,((o3.trans (o5.andL (b:=b))).trans (Only.ofGrown b6)).alloc _⟩ ?_
 clear b3 b6 m3 m5 o5 o3 q3 q0 y0 i3 v3 x3 i0 k3 hS hH sw hw
 rintro W ⟨m1,i1,v1,x1,q1,y1,o1⟩
 refine wp_region_rely Grown [.val (.pointer (some ⟨Hh,4,none⟩)),.val (.bool ow),.val (.pointer (some ⟨b,o,none⟩)),.val (.pointer (some ⟨b,o,none⟩)),.val (.pointer (some ⟨b,o + 2,none⟩)),.val (.bool a.own),.val (.bool true)] (by kernel_rfl) Grown.refl Grown.trans (by kernel_rfl) (by kernel_rfl) (by kernel_rfl) ?_
 simp only [relyAll,Act.put,List.setIfInBounds_toArray,List.set_cons_zero,List.set_cons_succ]
 refine ⟨?_,?_,?_,?_,?_,?_,?_,?_⟩
 · intros;apply ol;go_simp;exact gl
 · intro w' hg _
   apply ol
   have z:=(y1.drew.grown hg).at0 4 rfl
   go_simp
   exact gl
 · intros;apply ol;go_simp;exact gl
 · intros;apply ol;go_simp;exact gl
 · intros;apply ol;go_simp;exact gl
 · intro w' hg _
   apply ol
   have z:=(i1.drew.grown hg).c_own
   go_simp
   exact gl
 · intro w' hg _
   apply ol
   go_simp
   exact ⟨Grown.refl _,congrArg Value.bool (by rw [HO.out];rfl)⟩
 intro w7 hg _
 have m7:=m1.drew.below hg
 have i7:=i1.drew.grown hg
 have v7:=(v1.grown ((Below.refl _ _).drew)).grown hg
 have x7:=x1.drew.grown hg
 have q7:=q1.drew.grown hg
 have yh:=y1.drew.grown hg
 have o7 : Only (L.and b) w w7:=o1.drew.trans (Only.ofGrown hg)
 clear hg m1 i1 v1 x1 q1 y1 o1
 have kz:=yh.at0 1 rfl
 have k5:=i7.c_sz
 have k0:=i7.c_nx
 have kf:=i7.fz
 obtain ⟨y0,y1,y2,y3,y4,y5,y6,y7,y8⟩:=id v7
 go_wp2_with (go_at_call 95;refine (drefuse m7 hb i7 who hnx σ HS.out).mono ?_;rintro e w8 ⟨rfl,s8,cs8,a8,m8,o8,i8,q8,rfl,rfl⟩)
 refine bodyPost_ret (results_none rfl _ _ _) rfl ?_
 exact ⟨rfl,_,_,_,m8,o7.trans o8,i8,q8,rfl,rfl⟩
set_option maxHeartbeats 1000000 in
theorem dask_go {w : World} {L : Loc} {s : Mm} {b o : Nat} {T : TypeId} {cs : Array Value} {t n k m : Nat} {g p r : Int} {a : DV} (h : MemAt w L s) (hb : ¬ L.has b) (hi : DpAt w b o T cs a) (who : Int) {x : Nat} {G : Int} {st : Int} {A : Nat} {Gs V : Int} (hs : SlotIs a.se st A Gs V) (hn : A < s.n) {u kd Z sl gn : Int} {ow : Bool} (hu : s.wd A = u) (hh : HeadIs u kd Z sl gn ow) (ho : (ow == a.own) = true) (h4 : st ≠ 4) :
 Calls Tryz.prog 97 #[.pointer (some ⟨b,o,none⟩),.agg #[.int .i64 t,.int .i64 n,.int .i64 k,.int .i64 m,.int .i64 g,.int .i64 p,.int .i64 r,.pointer (some ⟨L.p,0,none⟩),.int .i64 who],.agg #[.int .i64 x,.int .i64 G]] w fun e w'=>e = .returned (.tuple #[]) /\ Dact L b o T cs w w' (fun s' a'=>s' = ((s.by who).step A (s.wd A)) /\ a' = { a with sz:=Z,nx:=2 }):=by
 have HU : Hid (s.wd A = u):=hu
 have sw:=hs.call
 have hw:=hh.call
 clear hu hs hh
 have HO : Hid ((ow == a.own) = true):=ho
 clear ho
 have hbv : ¬ L.has w.heap.size:=fun hh=>by have:=h.lt _ hh;omega
 have hbb : ¬ w.heap.size = b:=fun hh=>by have:=hi.lt;omega
 have hbv1 : ¬ L.has (w.heap.size + 1):=fun hh=>by have:=h.lt _ hh;omega
 have hbb1 : ¬ w.heap.size + 1 = b:=fun hh=>by have:=hi.lt;omega
 have i0:=(hi.grown (grow1 _ (.cells #[.int .i64 t,.int .i64 n,.int .i64 k,.int .i64 m,.int .i64 g,.int .i64 p,.int .i64 r,.pointer (some ⟨L.p,0,none⟩),.int .i64 who] 27))).grown (grow1 _ (.cells #[.int .i64 x,.int .i64 G] 74))
 have k3:=i0.c_se
 go_enter Tryz.func97,Tryz.ntmps97
 go_wp2_with (first
  | (go_at_call 34;refine (sw _).mono ?_;rintro e w3 ⟨rfl,b3⟩;have i3:=(i0.grown b3).grown (grow1 _ (.cells #[.int .i64 st,.int .i64 A,.int .i64 Gs,.int .i64 V] 42));have x3:=((At.new2 _ _ _ [.int .i64 (x : Nat),.int .i64 G]).grown b3).grown (grow1 _ (.cells #[.int .i64 st,.int .i64 A,.int .i64 Gs,.int .i64 V] 42));have v3:=((BoxV.newB _).grown b3).grown (grow1 _ (.cells #[.int .i64 st,.int .i64 A,.int .i64 Gs,.int .i64 V] 42));have m3:=(((h.alloc _).alloc _).below b3).alloc (.cells #[.int .i64 st,.int .i64 A,.int .i64 Gs,.int .i64 V] 42);have o3 : Only (L.and b) w (w3.alloc (.cells #[.int .i64 st,.int .i64 A,.int .i64 Gs,.int .i64 V] 42)):=((((Only.refl _ _).alloc _).alloc _).trans (Only.ofGrown b3)).alloc (.cells #[.int .i64 st,.int .i64 A,.int .i64 Gs,.int .i64 V] 42);have q3:=At.new w3 42 [.int .i64 st,.int .i64 A,.int .i64 Gs,.int .i64 V];obtain ⟨e0,e1,e2,e3,e4,e5,e6,e7,e8⟩:=id v3;have q0:=q3.at0 1 rfl)
  | (go_at_call 72;refine (eload_in m3 _ _ _ _ _ _ _ _ A hn).mono ?_;rintro e w5 ⟨rfl,m5,o5⟩;rw [HU.out])
  | (go_at_call 21;refine (hw _).mono ?_;rintro e w6 ⟨rfl,b6⟩))
 obtain ⟨S,hS⟩ : ∃ S,w3.heap.size = S:=⟨_,rfl⟩
 have y0:=At.new w6 30 [.int .i64 kd,.int .i64 Z,.int .i64 sl,.int .i64 gn,.bool ow]
 obtain ⟨Hh,hH⟩ : ∃ Hh,w6.heap.size = Hh:=⟨_,rfl⟩
 have lS : ¬ L.has S:=fun hh=>by have:=h.lt _ hh;have:=b3.size;simp only [Go.Deep.nblk_alloc] at this;omega
 have bS : b ≠ S:=by have:=hi.lt;have:=b3.size;simp only [Go.Deep.nblk_alloc] at this;omega
 have bH : b ≠ Hh:=by have:=hi.lt;have:=b3.size;have:=o5.size;have:=b6.size;simp only [Go.Deep.nblk_alloc] at *;omega
 rw [hS] at q3 ⊢
 rw [hH] at y0 ⊢
 refine wp_over (fun W=>MemAt W L ((s.by who).step A (s.wd A)) /\ DpAt W b o T cs a /\ BoxV W w.heap.size t n k m g p r L.p who /\ At W (w.heap.size + 1) 0 74 #[.int .i64 x,.int .i64 G] [.int .i64 x,.int .i64 G] /\ At W S 0 42 _ [.int .i64 st,.int .i64 A,.int .i64 Gs,.int .i64 V] /\ At W Hh 0 30 _ [.int .i64 kd,.int .i64 Z,.int .i64 sl,.int .i64 gn,.bool ow] /\ Only (L.and b) w W) ⟨(m5.below b6).alloc _,((i3.only o5 hb).grown b6).grown (grow1 _ _),((v3.only o5 hbv).grown b6).grown (grow1 _ _),((x3.only o5 hbv1).grown b6).grown (grow1 _ _),((q3.only o5 lS).grown b6).grown (grow1 _ _),y0,((o3.trans (o5.andL (b:=b))).trans (Only.ofGrown b6)).alloc _⟩ ?_
 clear b3 b6 m3 m5 o5 o3 q3 q0 y0 i3 v3 x3 i0 k3 hS hH sw hw
 rintro W ⟨m1,i1,v1,x1,q1,y1,o1⟩
 refine wp_region_rely Grown [.val (.pointer (some ⟨Hh,4,none⟩)),.val (.bool ow),.val (.pointer (some ⟨b,o,none⟩)),.val (.pointer (some ⟨b,o,none⟩)),.val (.pointer (some ⟨b,o + 2,none⟩)),.val (.bool a.own),.val (.bool false)] (by kernel_rfl) Grown.refl Grown.trans (by kernel_rfl) (by kernel_rfl) (by kernel_rfl) ?_
 simp only [relyAll,Act.put,List.setIfInBounds_toArray,List.set_cons_zero,List.set_cons_succ]
 refine ⟨?_,?_,?_,?_,?_,?_,?_,?_⟩
 · intros;apply ol;go_simp;exact gl
 · intro w' hg _
   apply ol
   have z:=(y1.drew.grown hg).at0 4 rfl
   go_simp
   exact gl
 · intros;apply ol;go_simp;exact gl
 · intros;apply ol;go_simp;exact gl
 · intros;apply ol;go_simp;exact gl
 · intro w' hg _
   apply ol
   have z:=(i1.drew.grown hg).c_own
   go_simp
   exact gl
 · intro w' hg _
   apply ol
   go_simp
   exact ⟨Grown.refl _,congrArg Value.bool (by rw [HO.out];rfl)⟩
 intro w7 hg _
 have m7:=m1.drew.below hg
 have i7:=i1.drew.grown hg
 have v7:=(v1.grown ((Below.refl _ _).drew)).grown hg
 have x7:=x1.drew.grown hg
 have q7:=q1.drew.grown hg
 have yh:=y1.drew.grown hg
 have o7 : Only (L.and b) w w7:=o1.drew.trans (Only.ofGrown hg)
 clear hg m1 i1 v1 x1 q1 y1 o1
 have kz:=yh.at0 1 rfl
 have k5:=i7.c_sz
 have k0:=i7.c_nx
 have kf:=i7.fz
 obtain ⟨y0,y1,y2,y3,y4,y5,y6,y7,y8⟩:=id v7
 have q8:=(q7.other bS.symm (o + 5) (.int .i64 Z)).other bS.symm o (.int .i64 2)
 have z0:=q8.at0 0 rfl
 go_wp2
 go_end0
 exact ⟨rfl,_,_,_,(m7.setIn hb _ _).setIn hb _ _,(o7.set _ _).set _ _,(i7.set_sz Z).set_nx 2,(Same.refl.set (by omega) _).set (by omega) _,rfl,rfl⟩
set_option maxHeartbeats 1000000 in
theorem dask_help {w : World} {L : Loc} {s : Mm} {b o : Nat} {T : TypeId} {cs : Array Value} {t n k m : Nat} {g p r : Int} {a : DV} (h : MemAt w L s) (hb : ¬ L.has b) (hi : DpAt w b o T cs a) (who : Int) {x : Nat} {G : Int} {st : Int} {A : Nat} {Gs V : Int} (hs : SlotIs a.se st A Gs V) (hn : A < s.n) {u kd Z sl gn : Int} {ow : Bool} (hu : s.wd A = u) (hh : HeadIs u kd Z sl gn ow) (ho : (ow == a.own) = true) (h4 : st = 4) :
 Calls Tryz.prog 97 #[.pointer (some ⟨b,o,none⟩),.agg #[.int .i64 t,.int .i64 n,.int .i64 k,.int .i64 m,.int .i64 g,.int .i64 p,.int .i64 r,.pointer (some ⟨L.p,0,none⟩),.int .i64 who],.agg #[.int .i64 x,.int .i64 G]] w fun e w'=>e = .returned (.tuple #[]) /\ Dact L b o T cs w w' (fun s' a'=>s' = ((s.by who).step A (s.wd A)) /\ a' = { a with sz:=Z,hl:=HpV x a.se Z 0 0 false false false,nx:=3 }):=by
 have HU : Hid (s.wd A = u):=hu
 have sw:=hs.call
 have hw:=hh.call
 clear hu hs hh
 have HO : Hid ((ow == a.own) = true):=ho
 subst h4
 clear ho
 have hbv : ¬ L.has w.heap.size:=fun hh=>by have:=h.lt _ hh;omega
 have hbb : ¬ w.heap.size = b:=fun hh=>by have:=hi.lt;omega
 have hbv1 : ¬ L.has (w.heap.size + 1):=fun hh=>by have:=h.lt _ hh;omega
 have hbb1 : ¬ w.heap.size + 1 = b:=fun hh=>by have:=hi.lt;omega
 have i0:=(hi.grown (grow1 _ (.cells #[.int .i64 t,.int .i64 n,.int .i64 k,.int .i64 m,.int .i64 g,.int .i64 p,.int .i64 r,.pointer (some ⟨L.p,0,none⟩),.int .i64 who] 27))).grown (grow1 _ (.cells #[.int .i64 x,.int .i64 G] 74))
 have k3:=i0.c_se
 go_enter Tryz.func97,Tryz.ntmps97
 go_wp2_with (first
  | (go_at_call 34;refine (sw _).mono ?_;rintro e w3 ⟨rfl,b3⟩;have i3:=(i0.grown b3).grown (grow1 _ (.cells #[.int .i64 4,.int .i64 A,.int .i64 Gs,.int .i64 V] 42));have x3:=((At.new2 _ _ _ [.int .i64 (x : Nat),.int .i64 G]).grown b3).grown (grow1 _ (.cells #[.int .i64 4,.int .i64 A,.int .i64 Gs,.int .i64 V] 42));have v3:=((BoxV.newB _).grown b3).grown (grow1 _ (.cells #[.int .i64 4,.int .i64 A,.int .i64 Gs,.int .i64 V] 42));have m3:=(((h.alloc _).alloc _).below b3).alloc (.cells #[.int .i64 4,.int .i64 A,.int .i64 Gs,.int .i64 V] 42);have o3 : Only (L.and b) w (w3.alloc (.cells #[.int .i64 4,.int .i64 A,.int .i64 Gs,.int .i64 V] 42)):=((((Only.refl _ _).alloc _).alloc _).trans (Only.ofGrown b3)).alloc (.cells #[.int .i64 4,.int .i64 A,.int .i64 Gs,.int .i64 V] 42);have q3:=At.new w3 42 [.int .i64 4,.int .i64 A,.int .i64 Gs,.int .i64 V];obtain ⟨e0,e1,e2,e3,e4,e5,e6,e7,e8⟩:=id v3;have q0:=q3.at0 1 rfl)
  | (go_at_call 72;refine (eload_in m3 _ _ _ _ _ _ _ _ A hn).mono ?_;rintro e w5 ⟨rfl,m5,o5⟩;rw [HU.out])
  | (go_at_call 21;refine (hw _).mono ?_;rintro e w6 ⟨rfl,b6⟩))
 obtain ⟨S,hS⟩ : ∃ S,w3.heap.size = S:=⟨_,rfl⟩
 have y0:=At.new w6 30 [.int .i64 kd,.int .i64 Z,.int .i64 sl,.int .i64 gn,.bool ow]
 obtain ⟨Hh,hH⟩ : ∃ Hh,w6.heap.size = Hh:=⟨_,rfl⟩
 have lS : ¬ L.has S:=fun hh=>by have:=h.lt _ hh;have:=b3.size;simp only [Go.Deep.nblk_alloc] at this;omega
 have bS : b ≠ S:=by have:=hi.lt;have:=b3.size;simp only [Go.Deep.nblk_alloc] at this;omega
 have bH : b ≠ Hh:=by have:=hi.lt;have:=b3.size;have:=o5.size;have:=b6.size;simp only [Go.Deep.nblk_alloc] at *;omega
 rw [hS] at q3 ⊢
 rw [hH] at y0 ⊢
 refine wp_over (fun W=>MemAt W L ((s.by who).step A (s.wd A)) /\ DpAt W b o T cs a /\ BoxV W w.heap.size t n k m g p r L.p who /\ At W (w.heap.size + 1) 0 74 #[.int .i64 x,.int .i64 G] [.int .i64 x,.int .i64 G] /\ At W S 0 42 _ [.int .i64 4,.int .i64 A,.int .i64 Gs,.int .i64 V] /\ At W Hh 0 30 _ [.int .i64 kd,.int .i64 Z,.int .i64 sl,.int .i64 gn,.bool ow] /\ Only (L.and b) w W) ⟨(m5.below b6).alloc _,((i3.only o5 hb).grown b6).grown (grow1 _ _),((v3.only o5 hbv).grown b6).grown (grow1 _ _),((x3.only o5 hbv1).grown b6).grown (grow1 _ _),((q3.only o5 lS).grown b6).grown (grow1 _ _),y0,((o3.trans (o5.andL (b:=b))).trans (Only.ofGrown b6)).alloc _⟩ ?_
 clear b3 b6 m3 m5 o5 o3 q3 q0 y0 i3 v3 x3 i0 k3 hS hH sw hw
 rintro W ⟨m1,i1,v1,x1,q1,y1,o1⟩
 refine wp_region_rely Grown [.val (.pointer (some ⟨Hh,4,none⟩)),.val (.bool ow),.val (.pointer (some ⟨b,o,none⟩)),.val (.pointer (some ⟨b,o,none⟩)),.val (.pointer (some ⟨b,o + 2,none⟩)),.val (.bool a.own),.val (.bool false)] (by kernel_rfl) Grown.refl Grown.trans (by kernel_rfl) (by kernel_rfl) (by kernel_rfl) ?_
 simp only [relyAll,Act.put,List.setIfInBounds_toArray,List.set_cons_zero,List.set_cons_succ]
 refine ⟨?_,?_,?_,?_,?_,?_,?_,?_⟩
 · intros;apply ol;go_simp;exact gl
 · intro w' hg _
   apply ol
   have z:=(y1.drew.grown hg).at0 4 rfl
   go_simp
   exact gl
 · intros;apply ol;go_simp;exact gl
 · intros;apply ol;go_simp;exact gl
 · intros;apply ol;go_simp;exact gl
 · intro w' hg _
   apply ol
   have z:=(i1.drew.grown hg).c_own
   go_simp
   exact gl
 · intro w' hg _
   apply ol
   go_simp
   exact ⟨Grown.refl _,congrArg Value.bool (by rw [HO.out];rfl)⟩
 intro w7 hg _
 have m7:=m1.drew.below hg
 have i7:=i1.drew.grown hg
 have v7:=(v1.grown ((Below.refl _ _).drew)).grown hg
 have x7:=x1.drew.grown hg
 have q7:=q1.drew.grown hg
 have yh:=y1.drew.grown hg
 have o7 : Only (L.and b) w w7:=o1.drew.trans (Only.ofGrown hg)
 clear hg m1 i1 v1 x1 q1 y1 o1
 have kz:=yh.at0 1 rfl
 have k5:=i7.c_sz
 have k0:=i7.c_nx
 have kf:=i7.fz
 obtain ⟨y0,y1,y2,y3,y4,y5,y6,y7,y8⟩:=id v7
 have q8:=(q7.other bS.symm (o + 5) (.int .i64 Z)).other bS.symm o (.int .i64 2)
 have z0:=q8.at0 0 rfl
 go_wp2
 refine wp_over (fun W=>MemAt W L ((s.by who).step A (s.wd A)) /\ DpAt W b o T ((cs.setIfInBounds (o + 5) (.int .i64 Z)).setIfInBounds o (.int .i64 2)) { a with sz:=Z,nx:=2 } /\ At W (w.heap.size + 1) 0 74 #[.int .i64 x,.int .i64 G] [.int .i64 x,.int .i64 G] /\ Only (L.and b) w W) ⟨(m7.setIn hb _ _).setIn hb _ _,(i7.set_sz Z).set_nx 2,(x7.other hbb1 _ _).other hbb1 _ _,(o7.set _ _).set _ _⟩ ?_
 clear m7 i7 v7 x7 q7 yh o7 kz k5 k0 kf q8 z0 y0 y1 y2 y3 y4 y5 y6 y7 y8
 rintro W ⟨m1,i1,x1,o1⟩
 refine wp_region_rely_tail Grown 16 [.val (.pointer (some ⟨b,o,none⟩)),.val (.pointer (some ⟨w.heap.size + 1,0,none⟩)),.val (.int .i64 (x : Nat)),.val (.pointer (some ⟨b,o,none⟩)),.val (.pointer (some ⟨b,o,none⟩)),.val (.pointer (some ⟨b,o + 3,none⟩)),.val (.int .u64 a.se),.val (.pointer (some ⟨b,o,none⟩)),.val (.pointer (some ⟨b,o,none⟩)),.val (.pointer (some ⟨b,o + 5,none⟩)),.val (.int .i64 Z),.that (fun w' v=>∃ X,v = .pointer (some ⟨X,0,none⟩) /\ At w' X 0 96 (HpV x a.se Z 0 0 false false false).toArray (HpV x a.se Z 0 0 false false false)) (fun _ _ _ hg h=>h.imp fun X k=>⟨k.1,k.2.grown hg⟩),.that (fun w' v=>∃ X,v = .pointer (some ⟨X,0,none⟩) /\ At w' X 0 96 (HpV x a.se Z 0 0 false false false).toArray (HpV x a.se Z 0 0 false false false)) (fun _ _ _ hg h=>h.imp fun X k=>⟨k.1,k.2.grown hg⟩),.val (.agg #[.int .i64 x,.int .u64 a.se,.int .i64 Z,.int .i64 0,.int .u64 0,.bool false,.bool false,.bool false]),.val (.pointer (some ⟨b,o,none⟩)),.val (.pointer (some ⟨b,o + 6,none⟩))] (by kernel_rfl) Grown.refl Grown.trans (by decide) (by kernel_rfl) (by kernel_rfl) (by kernel_rfl) (by kernel_rfl) (by kernel_rfl) (by kernel_rfl) ?_
 simp only [List.take_succ_cons,List.take_zero,relyAll,Act.put,List.setIfInBounds_toArray,List.set_cons_zero,List.set_cons_succ]
 refine ⟨?_,?_,?_,?_,?_,?_,?_,?_,?_,?_,?_,?_,fun v1=>⟨?_,fun v2=>⟨?_,?_,?_,?_⟩⟩⟩
 · intros;apply ol;go_simp;exact gl
 · intros;apply ol;go_simp;exact gl
 · intro w' hg _
   apply ol
   have z:=(x1.drew.grown hg).at0 0 rfl
   go_simp
   exact gl
 · intros;apply ol;go_simp;exact gl
 · intros;apply ol;go_simp;exact gl
 · intros;apply ol;go_simp;exact gl
 · intro w' hg _
   apply ol
   have z:=(i1.drew.grown hg).c_se
   go_simp
   exact gl
 · intros;apply ol;go_simp;exact gl
 · intros;apply ol;go_simp;exact gl
 · intros;apply ol;go_simp;exact gl
 · intro w' hg _
   apply ol
   have z:=(i1.drew.grown hg).c_sz
   go_simp
   exact gl
 · intro w' hg _
   apply ol
   have q:=At.new w' 96 (HpV x a.se Z 0 0 false false false)
   go_simp
   refine (newHelp_any x a.se Z _).mono ?_
   rintro e w'' ⟨rfl,rfl⟩
   exact ⟨_,rfl,grow1 _ _,_,rfl,q⟩
 · intro w' hg hf
   apply ol
   obtain ⟨X,rfl,q⟩:=hf.1 (by kernel_rfl)
   go_simp
   exact ⟨Grown.refl _,X,rfl,q⟩
 · intro w' hg hf
   apply ol
   obtain ⟨X,rfl,q⟩:=hf.1 (by kernel_rfl)
   have z0:=q.at0 0 rfl
   have z1:=q.at0 1 rfl
   have z2:=q.at0 2 rfl
   have z3:=q.at0 3 rfl
   have z4:=q.at0 4 rfl
   have z5:=q.at0 5 rfl
   have z6:=q.at0 6 rfl
   have z7:=q.at0 7 rfl
   go_simp
   exact gl
 · intros;apply ol;go_simp;exact gl
 · intros;apply ol;go_simp;exact gl
 intro w9 hg _
 have m10:=m1.drew.below hg
 have i10:=i1.drew.grown hg
 have o10 : Only (L.and b) w w9:=o1.drew.trans (Only.ofGrown hg)
 clear hg m1 i1 x1 o1
 obtain ⟨l0,p0⟩:=i10.c_hl0
 obtain ⟨l1,p1⟩:=i10.c_hl1
 obtain ⟨l2,p2⟩:=i10.c_hl2
 obtain ⟨l3,p3⟩:=i10.c_hl3
 obtain ⟨l4,p4⟩:=i10.c_hl4
 obtain ⟨l5,p5⟩:=i10.c_hl5
 obtain ⟨l6,p6⟩:=i10.c_hl6
 obtain ⟨l7,p7⟩:=i10.c_hl7
 have kf:=i10.fz
 have k0:=i10.c_nx
 go_wp2
 go_end0
 obtain ⟨y0,y1,y2,y3,y4,y5,y6,y7,hl⟩:=len8 hi.lhl
 exact ⟨rfl,_,_,_,(((((((((m10.setIn hb _ _).setIn hb _ _).setIn hb _ _).setIn hb _ _).setIn hb _ _).setIn hb _ _).setIn hb _ _).setIn hb _ _).setIn hb _ _),(((((((((o10.set _ _).set _ _).set _ _).set _ _).set _ _).set _ _).set _ _).set _ _).set _ _),((((((((i10.set_hl0 _).set_hl1 _).set_hl2 _).set_hl3 _).set_hl4 _).set_hl5 _).set_hl6 _).set_hl7 _).set_nx 3,(((((((((((Same.refl.set (by omega) _).set (by omega) _).set (by omega) _).set (by omega) _).set (by omega) _).set (by omega) _).set (by omega) _).set (by omega) _).set (by omega) _).set (by omega) _).set (by omega) _),rfl,by simp [hl,HpV]⟩
end Go.Proofs.YtkgpffcnimmdkaaGreat

namespace Go.Proofs.YtkgpffcnimmdkaaGreat
open Go.RowKit
set_option maxRecDepth 20000
set_option maxHeartbeats 1000000 in
theorem dmark_no {w : World} {L : Loc} {s : Mm} {b o : Nat} {T : TypeId} {cs : Array Value} {t n k m : Nat} {g p r : Int} {a : DV} (h : MemAt w L s) (hb : ¬ L.has b) (hi : DpAt w b o T cs a) (who : Int) (hG : Good t n k m g p r) {x : Nat} {G : Int} (hx : x < n) (hn : (6 + t + x * 2) < s.n) {st : Int} {A : Nat} {Gs V : Int} (hs : SlotIs a.se st A Gs V) (hd : decide (s.wd (6 + t + x * 2) = a.se) = false) :
 Calls Tryz.prog 98 #[.pointer (some ⟨b,o,none⟩),.agg #[.int .i64 t,.int .i64 n,.int .i64 k,.int .i64 m,.int .i64 g,.int .i64 p,.int .i64 r,.pointer (some ⟨L.p,0,none⟩),.int .i64 who],.agg #[.int .i64 x,.int .i64 G]] w fun e w'=>e = .returned (.tuple #[]) /\ Dact L b o T cs w w' (fun s' a'=>s' = ((s.by who).cas (6 + t + x * 2) a.se (packS 4 A Gs (V + 1))) /\ a' = { a with nx:=0 }):=by
 have HD : Hid (decide (s.wd (6 + t + x * 2) = a.se) = false):=hd
 have sw:=hs.call
 have hs1:=hG.s1
 have ab : (A : Int) <= 1048575:=by have:=hs.ad;omega
 have gb : 0 <= Gs /\ Gs <= 65535:=by have:=hs.gn;omega
 have vb : 0 <= V /\ V <= 4194303:=by have:=hs.vr;omega
 have ps:=fun w=>putSlot_any 4 A Gs (V + 1) w ⟨by omega,by omega⟩ ⟨by omega,by omega⟩ ⟨by omega,by omega⟩ ⟨by omega,by omega⟩
 have hvw : IntKind.i64.wrap (V + 1) = V + 1:=by rw [IntKind.wrap_i64];omega
 clear hd hs
 have hbv : ¬ L.has w.heap.size:=fun hh=>by have:=h.lt _ hh;omega
 have hbb : ¬ w.heap.size = b:=fun hh=>by have:=hi.lt;omega
 have hbv1 : ¬ L.has (w.heap.size + 1):=fun hh=>by have:=h.lt _ hh;omega
 have hbb1 : ¬ w.heap.size + 1 = b:=fun hh=>by have:=hi.lt;omega
 have i0:=(hi.grown (grow1 _ (.cells #[.int .i64 t,.int .i64 n,.int .i64 k,.int .i64 m,.int .i64 g,.int .i64 p,.int .i64 r,.pointer (some ⟨L.p,0,none⟩),.int .i64 who] 27))).grown (grow1 _ (.cells #[.int .i64 x,.int .i64 G] 74))
 have k3:=i0.c_se
 go_enter Tryz.func98,Tryz.ntmps98
 go_wp2_with (first
  | (go_at_call 34;refine (sw _).mono ?_;rintro e w3 ⟨rfl,b3⟩)
  | (go_at_call 80;refine (ps _).mono ?_;rintro e w5 ⟨rfl,b5⟩))
 refine wp_over (fun W=>MemAt W L s /\ DpAt W b o T cs a /\ BoxV W w.heap.size t n k m g p r L.p who /\ At W (w.heap.size + 1) 0 74 #[.int .i64 x,.int .i64 G] [.int .i64 x,.int .i64 G] /\ Only (L.and b) w W) ⟨((((h.alloc _).alloc _).below b3).alloc _).below b5,((i0.grown b3).grown (grow1 _ _)).grown b5,(((BoxV.newB _).grown b3).grown (grow1 _ _)).grown b5,(((At.new2 _ _ _ [.int .i64 (x : Nat),.int .i64 G]).grown b3).grown (grow1 _ _)).grown b5,(((((Only.refl _ _).alloc _).alloc _).trans (Only.ofGrown b3)).alloc _).trans (Only.ofGrown b5)⟩ ?_
 clear b3 b5 i0 k3 sw ps
 rintro W ⟨m1,i1,v1,x1,o1⟩
 refine wp_region_rely_tail Grown 11 [.val (.agg #[.int .i64 t,.int .i64 n,.int .i64 k,.int .i64 m,.int .i64 g,.int .i64 p,.int .i64 r,.pointer (some ⟨L.p,0,none⟩),.int .i64 who]),.val (.pointer (some ⟨w.heap.size,0,none⟩)),.val (.agg #[.int .i64 t,.int .i64 n,.int .i64 k,.int .i64 m,.int .i64 g,.int .i64 p,.int .i64 r]),.val (.pointer (some ⟨w.heap.size + 1,0,none⟩)),.val (.int .i64 (x : Nat)),.val (.int .i64 (((6 + t + x * 2) : Nat) : Int)),.val (.pointer (some ⟨b,o,none⟩)),.val (.pointer (some ⟨b,o,none⟩)),.val (.pointer (some ⟨b,o + 3,none⟩)),.val (.int .u64 a.se),.val (.int .u64 (packS 4 A Gs (V + 1)))] (by kernel_rfl) Grown.refl Grown.trans (by decide) (by kernel_rfl) (by kernel_rfl) (by kernel_rfl) (by kernel_rfl) (by kernel_rfl) (by kernel_rfl) ?_
 simp only [List.take_succ_cons,List.take_zero,relyAll,Act.put,List.setIfInBounds_toArray,List.set_cons_zero,List.set_cons_succ]
 refine ⟨?_,?_,?_,?_,?_,?_,?_,?_,?_,?_,?_,?_⟩
 · intro w' hg _
   apply ol
   obtain ⟨y0,y1,y2,y3,y4,y5,y6,y7,y8⟩:=(v1.grown ((Below.refl _ _).drew)).grown hg
   go_simp
   exact gl
 · intros;apply ol;go_simp;exact gl
 · intro w' hg _
   apply ol
   obtain ⟨y0,y1,y2,y3,y4,y5,y6,y7,y8⟩:=(v1.grown ((Below.refl _ _).drew)).grown hg
   go_simp
   exact gl
 · intros;apply ol;go_simp;exact gl
 · intro w' hg _
   apply ol
   have z:=(x1.drew.grown hg).at0 0 rfl
   go_simp
   exact gl
 · intro w' hg _
   apply ol
   go_simp
   refine (lslot_any _ _ _ _ _ _ _ (x : Int) _ hG.arena (by omega) (by omega)).mono ?_
   rintro e w'' ⟨rfl,b9⟩
   exact ⟨_,rfl,b9,congrArg (Value.int .i64) (by omega)⟩
 · intros;apply ol;go_simp;exact gl
 · intros;apply ol;go_simp;exact gl
 · intros;apply ol;go_simp;exact gl
 · intro w' hg _
   apply ol
   have z:=(i1.drew.grown hg).c_se
   go_simp
   exact gl
 · intros;apply ol;go_simp;exact gl
 intro w7 hg _
 have m7:=m1.drew.below hg
 have i7:=i1.drew.grown hg
 have x7:=x1.drew.grown hg
 have o7 : Only (L.and b) w w7:=o1.drew.trans (Only.ofGrown hg)
 clear hg m1 i1 v1 x1 o1
 go_wp2_with (go_at_call 81;refine (ecas_in m7 _ _ _ _ _ _ _ _ (6 + t + x * 2) hn _ _).mono ?_;rintro e w8 ⟨rfl,m8,o8⟩;rw [HD.out];have i8:=i7.only o8 hb;have k0:=i8.c_nx;have kf:=i8.fz)
 refine bodyPost_ret (results_none rfl _ _ _) rfl ?_
 exact ⟨rfl,_,_,_,m8.setIn hb _ _,(o7.trans (o8.andL (b:=b))).set _ _,i8.set_nx 0,Same.refl.set (by omega) _,rfl,rfl⟩
set_option maxHeartbeats 1000000 in
theorem dmark_yes {w : World} {L : Loc} {s : Mm} {b o : Nat} {T : TypeId} {cs : Array Value} {t n k m : Nat} {g p r : Int} {a : DV} (h : MemAt w L s) (hb : ¬ L.has b) (hi : DpAt w b o T cs a) (who : Int) (hG : Good t n k m g p r) {x : Nat} {G : Int} (hx : x < n) (hn : (6 + t + x * 2) < s.n) {Z : Int} (hz : a.sz = Z) {st : Int} {A : Nat} {Gs V : Int} (hs : SlotIs a.se st A Gs V) (hd : decide (s.wd (6 + t + x * 2) = a.se) = true) :
 Calls Tryz.prog 98 #[.pointer (some ⟨b,o,none⟩),.agg #[.int .i64 t,.int .i64 n,.int .i64 k,.int .i64 m,.int .i64 g,.int .i64 p,.int .i64 r,.pointer (some ⟨L.p,0,none⟩),.int .i64 who],.agg #[.int .i64 x,.int .i64 G]] w fun e w'=>e = .returned (.tuple #[]) /\ Dact L b o T cs w w' (fun s' a'=>s' = ((s.by who).cas (6 + t + x * 2) a.se (packS 4 A Gs (V + 1))) /\ a' = { a with hl:=HpV x (packS 4 A Gs (V + 1)) Z 0 0 false false false,nx:=4 }):=by
 have HD : Hid (decide (s.wd (6 + t + x * 2) = a.se) = true):=hd
 have sw:=hs.call
 have hs1:=hG.s1
 have ab : (A : Int) <= 1048575:=by have:=hs.ad;omega
 have gb : 0 <= Gs /\ Gs <= 65535:=by have:=hs.gn;omega
 have vb : 0 <= V /\ V <= 4194303:=by have:=hs.vr;omega
 have ps:=fun w=>putSlot_any 4 A Gs (V + 1) w ⟨by omega,by omega⟩ ⟨by omega,by omega⟩ ⟨by omega,by omega⟩ ⟨by omega,by omega⟩
 have hvw : IntKind.i64.wrap (V + 1) = V + 1:=by rw [IntKind.wrap_i64];omega
 have HZ : Hid (a.sz = Z):=hz
 clear hd hs hz
 have hbv : ¬ L.has w.heap.size:=fun hh=>by have:=h.lt _ hh;omega
 have hbb : ¬ w.heap.size = b:=fun hh=>by have:=hi.lt;omega
 have hbv1 : ¬ L.has (w.heap.size + 1):=fun hh=>by have:=h.lt _ hh;omega
 have hbb1 : ¬ w.heap.size + 1 = b:=fun hh=>by have:=hi.lt;omega
 have i0:=(hi.grown (grow1 _ (.cells #[.int .i64 t,.int .i64 n,.int .i64 k,.int .i64 m,.int .i64 g,.int .i64 p,.int .i64 r,.pointer (some ⟨L.p,0,none⟩),.int .i64 who] 27))).grown (grow1 _ (.cells #[.int .i64 x,.int .i64 G] 74))
 have k3:=i0.c_se
 go_enter Tryz.func98,Tryz.ntmps98
 go_wp2_with (first
  | (go_at_call 34;refine (sw _).mono ?_;rintro e w3 ⟨rfl,b3⟩)
  | (go_at_call 80;refine (ps _).mono ?_;rintro e w5 ⟨rfl,b5⟩))
 refine wp_over (fun W=>MemAt W L s /\ DpAt W b o T cs a /\ BoxV W w.heap.size t n k m g p r L.p who /\ At W (w.heap.size + 1) 0 74 #[.int .i64 x,.int .i64 G] [.int .i64 x,.int .i64 G] /\ Only (L.and b) w W) ⟨((((h.alloc _).alloc _).below b3).alloc _).below b5,((i0.grown b3).grown (grow1 _ _)).grown b5,(((BoxV.newB _).grown b3).grown (grow1 _ _)).grown b5,(((At.new2 _ _ _ [.int .i64 (x : Nat),.int .i64 G]).grown b3).grown (grow1 _ _)).grown b5,(((((Only.refl _ _).alloc _).alloc _).trans (Only.ofGrown b3)).alloc _).trans (Only.ofGrown b5)⟩ ?_
 clear b3 b5 i0 k3 sw ps
 rintro W ⟨m1,i1,v1,x1,o1⟩
 refine wp_region_rely_tail Grown 11 [.val (.agg #[.int .i64 t,.int .i64 n,.int .i64 k,.int .i64 m,.int .i64 g,.int .i64 p,.int .i64 r,.pointer (some ⟨L.p,0,none⟩),.int .i64 who]),.val (.pointer (some ⟨w.heap.size,0,none⟩)),.val (.agg #[.int .i64 t,.int .i64 n,.int .i64 k,.int .i64 m,.int .i64 g,.int .i64 p,.int .i64 r]),.val (.pointer (some ⟨w.heap.size + 1,0,none⟩)),.val (.int .i64 (x : Nat)),.val (.int .i64 (((6 + t + x * 2) : Nat) : Int)),.val (.pointer (some ⟨b,o,none⟩)),.val (.pointer (some ⟨b,o,none⟩)),.val (.pointer (some ⟨b,o + 3,none⟩)),.val (.int .u64 a.se),.val (.int .u64 (packS 4 A Gs (V + 1)))] (by kernel_rfl) Grown.refl Grown.trans (by decide) (by kernel_rfl) (by kernel_rfl) (by kernel_rfl) (by kernel_rfl) (by kernel_rfl) (by kernel_rfl) ?_
 simp only [List.take_succ_cons,List.take_zero,relyAll,Act.put,List.setIfInBounds_toArray,List.set_cons_zero,List.set_cons_succ]
 refine ⟨?_,?_,?_,?_,?_,?_,?_,?_,?_,?_,?_,?_⟩
 · intro w' hg _
   apply ol
   obtain ⟨y0,y1,y2,y3,y4,y5,y6,y7,y8⟩:=(v1.grown ((Below.refl _ _).drew)).grown hg
   go_simp
   exact gl
 · intros;apply ol;go_simp;exact gl
 · intro w' hg _
   apply ol
   obtain ⟨y0,y1,y2,y3,y4,y5,y6,y7,y8⟩:=(v1.grown ((Below.refl _ _).drew)).grown hg
   go_simp
   exact gl
 · intros;apply ol;go_simp;exact gl
 · intro w' hg _
   apply ol
   have z:=(x1.drew.grown hg).at0 0 rfl
   go_simp
   exact gl
 · intro w' hg _
   apply ol
   go_simp
   refine (lslot_any _ _ _ _ _ _ _ (x : Int) _ hG.arena (by omega) (by omega)).mono ?_
   rintro e w'' ⟨rfl,b9⟩
   exact ⟨_,rfl,b9,congrArg (Value.int .i64) (by omega)⟩
 · intros;apply ol;go_simp;exact gl
 · intros;apply ol;go_simp;exact gl
 · intros;apply ol;go_simp;exact gl
 · intro w' hg _
   apply ol
   have z:=(i1.drew.grown hg).c_se
   go_simp
   exact gl
 · intros;apply ol;go_simp;exact gl
 intro w7 hg _
 have m7:=m1.drew.below hg
 have i7:=i1.drew.grown hg
 have x7:=x1.drew.grown hg
 have o7 : Only (L.and b) w w7:=o1.drew.trans (Only.ofGrown hg)
 clear hg m1 i1 v1 x1 o1
 go_wp2_with (go_at_call 81;refine (ecas_in m7 _ _ _ _ _ _ _ _ (6 + t + x * 2) hn _ _).mono ?_;rintro e w8 ⟨rfl,m8,o8⟩;rw [HD.out];have i8:=i7.only o8 hb;have k0:=i8.c_nx;have kf:=i8.fz)
 refine wp_over (fun W=>MemAt W L ((s.by who).cas (6 + t + x * 2) a.se (packS 4 A Gs (V + 1))) /\ DpAt W b o T cs a /\ At W (w.heap.size + 1) 0 74 #[.int .i64 x,.int .i64 G] [.int .i64 x,.int .i64 G] /\ Only (L.and b) w W) ⟨m8,i8,x7.only o8 hbv1,o7.trans (o8.andL (b:=b))⟩ ?_
 clear m7 i7 x7 o7 m8 i8 o8 k0 kf
 rintro W ⟨m1,i1,x1,o1⟩
 refine wp_region_rely_tail Grown 13 [.val (.pointer (some ⟨b,o,none⟩)),.val (.pointer (some ⟨w.heap.size + 1,0,none⟩)),.val (.int .i64 (x : Nat)),.val (.int .u64 (packS 4 A Gs (V + 1))),.val (.pointer (some ⟨b,o,none⟩)),.val (.pointer (some ⟨b,o,none⟩)),.val (.pointer (some ⟨b,o + 5,none⟩)),.val (.int .i64 Z),.that (fun w' v=>∃ X,v = .pointer (some ⟨X,0,none⟩) /\ At w' X 0 96 (HpV x (packS 4 A Gs (V + 1)) Z 0 0 false false false).toArray (HpV x (packS 4 A Gs (V + 1)) Z 0 0 false false false)) (fun _ _ _ hg h=>h.imp fun X k=>⟨k.1,k.2.grown hg⟩),.that (fun w' v=>∃ X,v = .pointer (some ⟨X,0,none⟩) /\ At w' X 0 96 (HpV x (packS 4 A Gs (V + 1)) Z 0 0 false false false).toArray (HpV x (packS 4 A Gs (V + 1)) Z 0 0 false false false)) (fun _ _ _ hg h=>h.imp fun X k=>⟨k.1,k.2.grown hg⟩),.val (.agg #[.int .i64 x,.int .u64 (packS 4 A Gs (V + 1)),.int .i64 Z,.int .i64 0,.int .u64 0,.bool false,.bool false,.bool false]),.val (.pointer (some ⟨b,o,none⟩)),.val (.pointer (some ⟨b,o + 6,none⟩))] (by kernel_rfl) Grown.refl Grown.trans (by decide) (by kernel_rfl) (by kernel_rfl) (by kernel_rfl) (by kernel_rfl) (by kernel_rfl) (by kernel_rfl) ?_
 simp only [List.take_succ_cons,List.take_zero,relyAll,Act.put,List.setIfInBounds_toArray,List.set_cons_zero,List.set_cons_succ]
 refine ⟨?_,?_,?_,?_,?_,?_,?_,?_,?_,fun v1=>⟨?_,fun v2=>⟨?_,?_,?_,?_⟩⟩⟩
 · intros;apply ol;go_simp;exact gl
 · intros;apply ol;go_simp;exact gl
 · intro w' hg _
   apply ol
   have z:=(x1.drew.grown hg).at0 0 rfl
   go_simp
   exact gl
 · intros;apply ol;go_simp;exact gl
 · intros;apply ol;go_simp;exact gl
 · intros;apply ol;go_simp;exact gl
 · intros;apply ol;go_simp;exact gl
 · intro w' hg _
   apply ol
   have z:=(i1.drew.grown hg).c_sz
   rw [HZ.out] at z
   go_simp
   exact gl
 · intro w' hg _
   apply ol
   have q:=At.new w' 96 (HpV x (packS 4 A Gs (V + 1)) Z 0 0 false false false)
   go_simp
   refine (newHelp_any x (packS 4 A Gs (V + 1)) Z _).mono ?_
   rintro e w'' ⟨rfl,rfl⟩
   exact ⟨_,rfl,grow1 _ _,_,rfl,q⟩
 · intro w' hg hf
   apply ol
   obtain ⟨X,rfl,q⟩:=hf.1 (by kernel_rfl)
   go_simp
   exact ⟨Grown.refl _,X,rfl,q⟩
 · intro w' hg hf
   apply ol
   obtain ⟨X,rfl,q⟩:=hf.1 (by kernel_rfl)
   have z0:=q.at0 0 rfl
   have z1:=q.at0 1 rfl
   have z2:=q.at0 2 rfl
   have z3:=q.at0 3 rfl
   have z4:=q.at0 4 rfl
   have z5:=q.at0 5 rfl
   have z6:=q.at0 6 rfl
   have z7:=q.at0 7 rfl
   go_simp
   exact gl
 · intros;apply ol;go_simp;exact gl
 · intros;apply ol;go_simp;exact gl
 intro w9 hg _
 have m10:=m1.drew.below hg
 have i10:=i1.drew.grown hg
 have o10 : Only (L.and b) w w9:=o1.drew.trans (Only.ofGrown hg)
 clear hg m1 i1 x1 o1
 obtain ⟨l0,p0⟩:=i10.c_hl0
 obtain ⟨l1,p1⟩:=i10.c_hl1
 obtain ⟨l2,p2⟩:=i10.c_hl2
 obtain ⟨l3,p3⟩:=i10.c_hl3
 obtain ⟨l4,p4⟩:=i10.c_hl4
 obtain ⟨l5,p5⟩:=i10.c_hl5
 obtain ⟨l6,p6⟩:=i10.c_hl6
 obtain ⟨l7,p7⟩:=i10.c_hl7
 have kf:=i10.fz
 have k0:=i10.c_nx
 go_wp2
 go_end0
 obtain ⟨y0,y1,y2,y3,y4,y5,y6,y7,hl⟩:=len8 hi.lhl
 exact ⟨rfl,_,_,_,(((((((((m10.setIn hb _ _).setIn hb _ _).setIn hb _ _).setIn hb _ _).setIn hb _ _).setIn hb _ _).setIn hb _ _).setIn hb _ _).setIn hb _ _),(((((((((o10.set _ _).set _ _).set _ _).set _ _).set _ _).set _ _).set _ _).set _ _).set _ _),((((((((i10.set_hl0 _).set_hl1 _).set_hl2 _).set_hl3 _).set_hl4 _).set_hl5 _).set_hl6 _).set_hl7 _).set_nx 4,(((((((((Same.refl.set (by omega) _).set (by omega) _).set (by omega) _).set (by omega) _).set (by omega) _).set (by omega) _).set (by omega) _).set (by omega) _).set (by omega) _),rfl,by simp [hl,HpV]⟩
set_option maxHeartbeats 1000000 in
theorem dend_on {w : World} {L : Loc} {s : Mm} {b o : Nat} {T : TypeId} {cs : Array Value} {t n k m : Nat} {g p r : Int} {a : DV} (h : MemAt w L s) (hi : DpAt w b o T cs a) (who : Int) {x : Nat} {G : Int} (X : Mm -> List Value -> Prop) (hX : ∀ s' l',X s' l' -> l'.length = 8)
 (hc : ∀ w1 : World,MemAt w1 L s -> At w1 b (o + 6) T cs a.hl -> Calls Tryz.prog 91 #[.pointer (some ⟨b,o + 6,none⟩),.agg #[.int .i64 t,.int .i64 n,.int .i64 k,.int .i64 m,.int .i64 g,.int .i64 p,.int .i64 r,.pointer (some ⟨L.p,0,none⟩),.int .i64 who]] w1 fun e w'=>e = .returned (.bool false) /\ Hact L b (o + 6) T cs w1 w' X) :
 Calls Tryz.prog 99 #[.pointer (some ⟨b,o,none⟩),.agg #[.int .i64 t,.int .i64 n,.int .i64 k,.int .i64 m,.int .i64 g,.int .i64 p,.int .i64 r,.pointer (some ⟨L.p,0,none⟩),.int .i64 who],.agg #[.int .i64 x,.int .i64 G]] w fun e w'=>e = .returned (.tuple #[]) /\ Dact L b o T cs w w' (fun s' a'=>∃ l',X s' l' /\ a' = { a with hl:=l' }):=by
 have hbv : ¬ L.has w.heap.size:=fun hh=>by have:=h.lt _ hh;omega
 have hbb : ¬ w.heap.size = b:=fun hh=>by have:=hi.lt;omega
 have hbv1 : ¬ L.has (w.heap.size + 1):=fun hh=>by have:=h.lt _ hh;omega
 have hbb1 : ¬ w.heap.size + 1 = b:=fun hh=>by have:=hi.lt;omega
 go_enter Tryz.func99,Tryz.ntmps99
 go_wp2
 refine wp_over (fun W=>MemAt W L s /\ DpAt W b o T cs a /\ BoxV W w.heap.size t n k m g p r L.p who /\ At W (w.heap.size + 1) 0 74 #[.int .i64 x,.int .i64 G] [.int .i64 x,.int .i64 G] /\ Only (L.and b) w W) ⟨(h.alloc _).alloc _,(hi.grown (grow1 _ _)).grown (grow1 _ _),BoxV.newB _,At.new2 _ _ _ _,((Only.refl _ _).alloc _).alloc _⟩ ?_
 rintro W ⟨m1,i1,v1,x1,o1⟩
 refine wp_region_rely_tail Grown 4 [.val (.pointer (some ⟨b,o,none⟩)),.val (.pointer (some ⟨b,o,none⟩)),.val (.pointer (some ⟨b,o + 6,none⟩)),.val (.agg #[.int .i64 t,.int .i64 n,.int .i64 k,.int .i64 m,.int .i64 g,.int .i64 p,.int .i64 r,.pointer (some ⟨L.p,0,none⟩),.int .i64 who])] (by kernel_rfl) Grown.refl Grown.trans (by decide) (by kernel_rfl) (by kernel_rfl) (by kernel_rfl) (by kernel_rfl) (by kernel_rfl) (by kernel_rfl) ?_
 simp only [List.take_succ_cons,List.take_zero,relyAll,Act.put,List.setIfInBounds_toArray,List.set_cons_zero,List.set_cons_succ]
 refine ⟨?_,?_,?_,?_,?_⟩
 · intros;apply ol;go_simp;exact gl
 · intros;apply ol;go_simp;exact gl
 · intros;apply ol;go_simp;exact gl
 · intro w' hg _
   apply ol
   obtain ⟨y0,y1,y2,y3,y4,y5,y6,y7,y8⟩:=(v1.grown ((Below.refl _ _).drew)).grown hg
   go_simp
   exact gl
 intro w5 hg _
 have m5:=m1.drew.below hg
 have i5:=i1.drew.grown hg
 have v5:=(v1.grown ((Below.refl _ _).drew)).grown hg
 have x5:=x1.drew.grown hg
 have o5 : Only (L.and b) w w5:=o1.drew.trans (Only.ofGrown hg)
 clear hg m1 i1 v1 x1 o1
 go_wp2_with (go_at_call 91;refine (hc _ m5 i5.hlAt).mono ?_;rintro e w6 ⟨rfl,s6,cs6,l6,m6,o6,i6,q6,p6⟩;have i7:=i5.step_hl i6 (hX _ _ p6) q6;have o7:=o5.trans o6;have q7 : Same o 21 cs cs6:=q6.wide (by omega) (by omega))
 refine bodyPost_ret (results_none rfl _ _ _) rfl ?_
 exact ⟨rfl,s6,_,_,m6,o7,i7,q7,l6,p6,rfl⟩
set_option maxHeartbeats 1000000 in
theorem dend_done {w : World} {L : Loc} {s : Mm} {b o : Nat} {T : TypeId} {cs : Array Value} {t n k m : Nat} {g p r : Int} {a : DV} (h : MemAt w L s) (hb : ¬ L.has b) (hi : DpAt w b o T cs a) (who : Int) (hG : Good t n k m g p r) {x : Nat} {G : Int} (hx : x < n) (X : Mm -> List Value -> Prop) (hX : ∀ s' l',X s' l' -> l'.length = 8) (hn : ∀ s' l',X s' l' -> (6 + t + x * 2) < s'.n)
 (hc : ∀ w1 : World,MemAt w1 L s -> At w1 b (o + 6) T cs a.hl -> Calls Tryz.prog 91 #[.pointer (some ⟨b,o + 6,none⟩),.agg #[.int .i64 t,.int .i64 n,.int .i64 k,.int .i64 m,.int .i64 g,.int .i64 p,.int .i64 r,.pointer (some ⟨L.p,0,none⟩),.int .i64 who]] w1 fun e w'=>e = .returned (.bool true) /\ Hact L b (o + 6) T cs w1 w' X) :
 Calls Tryz.prog 99 #[.pointer (some ⟨b,o,none⟩),.agg #[.int .i64 t,.int .i64 n,.int .i64 k,.int .i64 m,.int .i64 g,.int .i64 p,.int .i64 r,.pointer (some ⟨L.p,0,none⟩),.int .i64 who],.agg #[.int .i64 x,.int .i64 G]] w fun e w'=>e = .returned (.tuple #[]) /\ Dact L b o T cs w w' (fun s' a'=>∃ l',X s' l' /\ a' = { a with hl:=l',St:=s'.wn (6 + t + x * 2),nx:=5 }):=by
 have hs1:=hG.s1
 have hbv : ¬ L.has w.heap.size:=fun hh=>by have:=h.lt _ hh;omega
 have hbb : ¬ w.heap.size = b:=fun hh=>by have:=hi.lt;omega
 have hbv1 : ¬ L.has (w.heap.size + 1):=fun hh=>by have:=h.lt _ hh;omega
 have hbb1 : ¬ w.heap.size + 1 = b:=fun hh=>by have:=hi.lt;omega
 go_enter Tryz.func99,Tryz.ntmps99
 go_wp2
 refine wp_over (fun W=>MemAt W L s /\ DpAt W b o T cs a /\ BoxV W w.heap.size t n k m g p r L.p who /\ At W (w.heap.size + 1) 0 74 #[.int .i64 x,.int .i64 G] [.int .i64 x,.int .i64 G] /\ Only (L.and b) w W) ⟨(h.alloc _).alloc _,(hi.grown (grow1 _ _)).grown (grow1 _ _),BoxV.newB _,At.new2 _ _ _ _,((Only.refl _ _).alloc _).alloc _⟩ ?_
 rintro W ⟨m1,i1,v1,x1,o1⟩
 refine wp_region_rely_tail Grown 4 [.val (.pointer (some ⟨b,o,none⟩)),.val (.pointer (some ⟨b,o,none⟩)),.val (.pointer (some ⟨b,o + 6,none⟩)),.val (.agg #[.int .i64 t,.int .i64 n,.int .i64 k,.int .i64 m,.int .i64 g,.int .i64 p,.int .i64 r,.pointer (some ⟨L.p,0,none⟩),.int .i64 who])] (by kernel_rfl) Grown.refl Grown.trans (by decide) (by kernel_rfl) (by kernel_rfl) (by kernel_rfl) (by kernel_rfl) (by kernel_rfl) (by kernel_rfl) ?_
 simp only [List.take_succ_cons,List.take_zero,relyAll,Act.put,List.setIfInBounds_toArray,List.set_cons_zero,List.set_cons_succ]
 refine ⟨?_,?_,?_,?_,?_⟩
 · intros;apply ol;go_simp;exact gl
 · intros;apply ol;go_simp;exact gl
 · intros;apply ol;go_simp;exact gl
 · intro w' hg _
   apply ol
   obtain ⟨y0,y1,y2,y3,y4,y5,y6,y7,y8⟩:=(v1.grown ((Below.refl _ _).drew)).grown hg
   go_simp
   exact gl
 intro w5 hg _
 have m5:=m1.drew.below hg
 have i5:=i1.drew.grown hg
 have v5:=(v1.grown ((Below.refl _ _).drew)).grown hg
 have x5:=x1.drew.grown hg
 have o5 : Only (L.and b) w w5:=o1.drew.trans (Only.ofGrown hg)
 clear hg m1 i1 v1 x1 o1
 go_wp2_with (go_at_call 91;refine (hc _ m5 i5.hlAt).mono ?_;rintro e w6 ⟨rfl,s6,cs6,l6,m6,o6,i6,q6,p6⟩;have i7:=i5.step_hl i6 (hX _ _ p6) q6;have o7:=o5.trans o6;have q7 : Same o 21 cs cs6:=q6.wide (by omega) (by omega))
 refine wp_over (fun W=>MemAt W L s6 /\ DpAt W b o T cs6 { a with hl:=l6 } /\ BoxV W w.heap.size t n k m g p r L.p who /\ At W (w.heap.size + 1) 0 74 #[.int .i64 x,.int .i64 G] [.int .i64 x,.int .i64 G] /\ Only (L.and b) w W) ⟨m6,i7,v5.only o6 (fun hh=>hh.elim hbv hbb),x5.only o6 (fun hh=>hh.elim hbv1 hbb1),o7⟩ ?_
 clear m5 i5 v5 x5 o5 m6 i6 i7 o6 o7 q6
 rintro W ⟨m1,i1,v1,x1,o1⟩
 refine wp_region_rely_tail Grown 12 [.val (.pointer (some ⟨b,o,none⟩)),.val (.pointer (some ⟨w.heap.size,7,none⟩)),.val (.pointer (some ⟨L.p,0,none⟩)),.val (.pointer (some ⟨w.heap.size,0,none⟩)),.val (.agg #[.int .i64 t,.int .i64 n,.int .i64 k,.int .i64 m,.int .i64 g,.int .i64 p,.int .i64 r]),.val (.pointer (some ⟨w.heap.size + 1,0,none⟩)),.val (.int .i64 (x : Nat)),.val (.int .i64 (((6 + t + x * 2) : Nat) : Int)),.val (.int .i64 (s6.wn (6 + t + x * 2))),.val (.pointer (some ⟨b,o,none⟩)),.val (.pointer (some ⟨b,o + 17,none⟩)),.val (.pointer (some ⟨b,o + 20,none⟩))] (by kernel_rfl) Grown.refl Grown.trans (by decide) (by kernel_rfl) (by kernel_rfl) (by kernel_rfl) (by kernel_rfl) (by kernel_rfl) (by kernel_rfl) ?_
 simp only [List.take_succ_cons,List.take_zero,relyAll,Act.put,List.setIfInBounds_toArray,List.set_cons_zero,List.set_cons_succ]
 refine ⟨?_,?_,?_,?_,?_,?_,?_,?_,?_,?_,?_,?_,?_⟩
 · intros;apply ol;go_simp;exact gl
 · intros;apply ol;go_simp;exact gl
 · intro w' hg _
   apply ol
   obtain ⟨y0,y1,y2,y3,y4,y5,y6,y7,y8⟩:=(v1.grown ((Below.refl _ _).drew)).grown hg
   go_simp
   exact gl
 · intros;apply ol;go_simp;exact gl
 · intro w' hg _
   apply ol
   obtain ⟨y0,y1,y2,y3,y4,y5,y6,y7,y8⟩:=(v1.grown ((Below.refl _ _).drew)).grown hg
   go_simp
   exact gl
 · intros;apply ol;go_simp;exact gl
 · intro w' hg _
   apply ol
   have z:=(x1.drew.grown hg).at0 0 rfl
   go_simp
   exact gl
 · intro w' hg _
   apply ol
   go_simp
   refine (lslot_any _ _ _ _ _ _ _ (x : Int) _ hG.arena (by omega) (by omega)).mono ?_
   rintro e w'' ⟨rfl,b9⟩
   exact ⟨_,rfl,b9,congrArg (Value.int .i64) (by omega)⟩
 · intro w' hg _
   apply ol
   go_simp
   refine (when_in (m1.drew.below hg) (6 + t + x * 2) (hn _ _ p6)).mono ?_
   rintro e w'' ⟨rfl,rfl⟩
   exact ⟨_,rfl,Grown.refl _,rfl⟩
 · intros;apply ol;go_simp;exact gl
 · intros;apply ol;go_simp;exact gl
 · intros;apply ol;go_simp;exact gl
 intro w8 hg _
 have m8:=m1.drew.below hg
 have i8:=i1.drew.grown hg
 have o8 : Only (L.and b) w w8:=o1.drew.trans (Only.ofGrown hg)
 clear hg m1 i1 v1 x1 o1
 have k1:=i8.c_St
 have k0:=i8.c_nx
 have kf:=i8.fz
 go_wp2
 go_end0
 exact ⟨rfl,s6,_,_,(m8.setIn hb _ _).setIn hb _ _,(o8.set _ _).set _ _,(i8.set_St _).set_nx 5,(q7.set (by omega) _).set (by omega) _,l6,p6,rfl⟩
set_option maxHeartbeats 1000000 in
theorem dcount_next {w : World} {L : Loc} {s : Mm} {b o : Nat} {T : TypeId} {cs : Array Value} {t n k m : Nat} {g p r : Int} {a : DV} (h : MemAt w L s) (hb : ¬ L.has b) (hi : DpAt w b o T cs a) (who : Int) (hG : Good t n k m g p r) {x : Nat} {G : Int} {i : Nat} (hc : a.ch = i) (hik : i < k) {Z : Int} (hz : a.sz = Z) {κ : Nat} (hzk : classOf Z = κ) (hκ : κ < 4) (hn : (6 + t + n * 2 + i * 3 + 1) < s.n) (hl : G < g) :
 Calls Tryz.prog 100 #[.pointer (some ⟨b,o,none⟩),.agg #[.int .i64 t,.int .i64 n,.int .i64 k,.int .i64 m,.int .i64 g,.int .i64 p,.int .i64 r,.pointer (some ⟨L.p,0,none⟩),.int .i64 who],.agg #[.int .i64 x,.int .i64 G]] w fun e w'=>e = .returned (.tuple #[]) /\ Dact L b o T cs w w' (fun s' a'=>s' = ((s.by who).step (6 + t + n * 2 + i * 3 + 1) (sum64 (s.wd (6 + t + n * 2 + i * 3 + 1)) (word64 (-(room κ : Int))))) /\ a' = { a with gl:=GvV 0 x 0,nx:=6 }):=by
 have HZ : Hid (a.sz = Z):=hz
 have HC : Hid (a.ch = i):=hc
 have lc:=fun w=>lclass_any Z w
 rw [hzk] at lc
 have hk1:=hG.k1
 have ht1:=hG.t1
 have hn1:=hG.s1
 have hr:=room_bd κ
 have la:=fun w=>dlast_any t n k m g p r G w
 rw [decide_eq_false (by omega)] at la
 clear hz hc hzk
 have hbv : ¬ L.has w.heap.size:=fun hh=>by have:=h.lt _ hh;omega
 have hbb : ¬ w.heap.size = b:=fun hh=>by have:=hi.lt;omega
 have hbv1 : ¬ L.has (w.heap.size + 1):=fun hh=>by have:=h.lt _ hh;omega
 have hbb1 : ¬ w.heap.size + 1 = b:=fun hh=>by have:=hi.lt;omega
 go_enter Tryz.func100,Tryz.ntmps100
 go_wp2
 refine wp_over (fun W=>MemAt W L s /\ DpAt W b o T cs a /\ BoxV W w.heap.size t n k m g p r L.p who /\ At W (w.heap.size + 1) 0 74 #[.int .i64 x,.int .i64 G] [.int .i64 x,.int .i64 G] /\ Only (L.and b) w W) ⟨(h.alloc _).alloc _,(hi.grown (grow1 _ _)).grown (grow1 _ _),BoxV.newB _,At.new2 _ _ _ _,((Only.refl _ _).alloc _).alloc _⟩ ?_
 rintro W ⟨m1,i1,v1,x1,o1⟩
 refine wp_region_rely_tail Grown 16 [.val (.agg #[.int .i64 t,.int .i64 n,.int .i64 k,.int .i64 m,.int .i64 g,.int .i64 p,.int .i64 r,.pointer (some ⟨L.p,0,none⟩),.int .i64 who]),.val (.pointer (some ⟨w.heap.size,0,none⟩)),.val (.agg #[.int .i64 t,.int .i64 n,.int .i64 k,.int .i64 m,.int .i64 g,.int .i64 p,.int .i64 r]),.val (.pointer (some ⟨b,o,none⟩)),.val (.pointer (some ⟨b,o,none⟩)),.val (.pointer (some ⟨b,o + 4,none⟩)),.val (.int .i64 (i : Nat)),.val (.int .i64 (6 + t + n * 2 + (i : Int) * 3)),.val (.int .i64 (((6 + t + n * 2 + i * 3 + 1) : Nat) : Int)),.val (.pointer (some ⟨b,o,none⟩)),.val (.pointer (some ⟨b,o,none⟩)),.val (.pointer (some ⟨b,o + 5,none⟩)),.val (.int .i64 Z),.val (.int .i64 (κ : Nat)),.val (.int .i64 (room κ : Nat)),.val (.int .i64 (-(room κ : Int)))] (by kernel_rfl) Grown.refl Grown.trans (by decide) (by kernel_rfl) (by kernel_rfl) (by kernel_rfl) (by kernel_rfl) (by kernel_rfl) (by kernel_rfl) ?_
 simp only [List.take_succ_cons,List.take_zero,relyAll,Act.put,List.setIfInBounds_toArray,List.set_cons_zero,List.set_cons_succ]
 refine ⟨?_,?_,?_,?_,?_,?_,?_,?_,?_,?_,?_,?_,?_,?_,?_,?_,?_⟩
 · intro w' hg _
   apply ol
   obtain ⟨y0,y1,y2,y3,y4,y5,y6,y7,y8⟩:=(v1.grown ((Below.refl _ _).drew)).grown hg
   go_simp
   exact gl
 · intros;apply ol;go_simp;exact gl
 · intro w' hg _
   apply ol
   obtain ⟨y0,y1,y2,y3,y4,y5,y6,y7,y8⟩:=(v1.grown ((Below.refl _ _).drew)).grown hg
   go_simp
   exact gl
 · intros;apply ol;go_simp;exact gl
 · intros;apply ol;go_simp;exact gl
 · intros;apply ol;go_simp;exact gl
 · intro w' hg _
   apply ol
   have z:=(i1.drew.grown hg).c_ch
   rw [HC.out] at z
   go_simp
   exact gl
 · intro w' hg _
   apply ol
   go_simp
   refine (lchunk_any _ _ _ _ _ _ _ (i : Int) _ hG.arena (by omega) (by omega)).mono ?_
   rintro e w'' ⟨rfl,b9⟩
   exact ⟨_,rfl,b9,rfl⟩
 · intro w' hg _
   apply ol
   go_simp
   exact ⟨Grown.refl _,congrArg (Value.int .i64) (by rw [IntKind.wrap_i64];omega)⟩
 · intros;apply ol;go_simp;exact gl
 · intros;apply ol;go_simp;exact gl
 · intros;apply ol;go_simp;exact gl
 · intro w' hg _
   apply ol
   have z:=(i1.drew.grown hg).c_sz
   rw [HZ.out] at z
   go_simp
   exact gl
 · intro w' hg _
   apply ol
   go_simp
   refine (lc _).mono ?_
   rintro e w'' ⟨rfl,rfl⟩
   exact ⟨_,rfl,Grown.refl _,rfl⟩
 · intro w' hg _
   apply ol
   go_simp
   refine (lroom_w κ hκ _).mono ?_
   rintro e w'' ⟨rfl,rfl⟩
   exact ⟨_,rfl,Grown.refl _,rfl⟩
 · intro w' hg _
   apply ol
   go_simp
   exact ⟨Grown.refl _,congrArg (Value.int .i64) (by rw [IntKind.wrap_i64];omega)⟩
 intro w5 hg _
 have m5:=m1.drew.below hg
 have i5:=i1.drew.grown hg
 have v5:=(v1.grown ((Below.refl _ _).drew)).grown hg
 have x5:=x1.drew.grown hg
 have o5 : Only (L.and b) w w5:=o1.drew.trans (Only.ofGrown hg)
 clear hg m1 i1 v1 x1 o1
 obtain ⟨z0,z1,z2,hgl⟩:=len3 hi.lgl
 go_wp2_with (first
  | (go_at_call 123;refine (eadd_in m5 _ _ _ _ _ _ _ _ (6 + t + n * 2 + i * 3 + 1) hn _).mono ?_;rintro e w6 ⟨rfl,m6,o6⟩;have x6:=x5.only o6 hbv1;have v6:=v5.only o6 hbv;have i6:=i5.only o6 hb;have u0:=x6.at0 0 rfl;have o7:=o5.trans (o6.andL (b:=b)))
  | (go_at_call 136;refine (newGive_any x _).mono ?_;rintro e w8 ⟨rfl,rfl⟩;have i8:=i6.grown (grow1 _ (.cells #[.int .i64 0,.int .i64 x,.int .u64 0] 125));have x8:=x6.grown (grow1 _ (.cells #[.int .i64 0,.int .i64 x,.int .u64 0] 125));have v8:=v6.grown (grow1 _ (.cells #[.int .i64 0,.int .i64 x,.int .u64 0] 125));have m8:=m6.alloc (.cells #[.int .i64 0,.int .i64 x,.int .u64 0] 125);have o8:=o7.alloc (.cells #[.int .i64 0,.int .i64 x,.int .u64 0] 125);obtain ⟨p0,k1⟩:=i8.c_gl0;obtain ⟨p1,k2⟩:=i8.c_gl1;obtain ⟨p2,k3⟩:=i8.c_gl2;have k0:=i8.c_nx;have kf:=i8.fz;have i9:=(((i8.set_gl0 (.int .i64 0)).set_gl1 (.int .i64 x)).set_gl2 (.int .u64 0)).set_nx 6;have x9:=(((x8.other hbb1 (o + 14) (.int .i64 0)).other hbb1 (o + 15) (.int .i64 x)).other hbb1 (o + 16) (.int .u64 0)).other hbb1 o (.int .i64 6);have v9:=(((v8.setIn hbb (o + 14) (.int .i64 0)).setIn hbb (o + 15) (.int .i64 x)).setIn hbb (o + 16) (.int .u64 0)).setIn hbb o (.int .i64 6);have u1:=x9.at0 1 rfl;obtain ⟨y0,y1,y2,y3,y4,y5,y6,y7,y8⟩:=id v9)
  | (go_at_call 137;refine (la _).mono ?_;rintro e w9 ⟨rfl,b9⟩;have i10:=i9.grown b9;have t0:=i10.c_nx;have tf:=i10.fz))
 go_end0
 exact ⟨rfl,_,_,_,(((((m8.setIn hb _ _).setIn hb _ _).setIn hb _ _).setIn hb _ _).below b9),(((((o8.set _ _).set _ _).set _ _).set _ _).trans (Only.ofGrown b9)),i10,((((Same.refl.set (by omega) _).set (by omega) _).set (by omega) _).set (by omega) _),rfl,by simp [hgl,GvV]⟩
set_option maxHeartbeats 1000000 in
theorem dcount_last {w : World} {L : Loc} {s : Mm} {b o : Nat} {T : TypeId} {cs : Array Value} {t n k m : Nat} {g p r : Int} {a : DV} (h : MemAt w L s) (hb : ¬ L.has b) (hi : DpAt w b o T cs a) (who : Int) (hG : Good t n k m g p r) {x : Nat} {G : Int} {i : Nat} (hc : a.ch = i) (hik : i < k) {Z : Int} (hz : a.sz = Z) {κ : Nat} (hzk : classOf Z = κ) (hκ : κ < 4) (hn : (6 + t + n * 2 + i * 3 + 1) < s.n) (hl : g <= G) :
 Calls Tryz.prog 100 #[.pointer (some ⟨b,o,none⟩),.agg #[.int .i64 t,.int .i64 n,.int .i64 k,.int .i64 m,.int .i64 g,.int .i64 p,.int .i64 r,.pointer (some ⟨L.p,0,none⟩),.int .i64 who],.agg #[.int .i64 x,.int .i64 G]] w fun e w'=>e = .returned (.tuple #[]) /\ Dact L b o T cs w w' (fun s' a'=>s' = ((s.by who).step (6 + t + n * 2 + i * 3 + 1) (sum64 (s.wd (6 + t + n * 2 + i * 3 + 1)) (word64 (-(room κ : Int))))) /\ a' = { a with gl:=GvV 0 x 0,nx:=7 }):=by
 have HZ : Hid (a.sz = Z):=hz
 have HC : Hid (a.ch = i):=hc
 have lc:=fun w=>lclass_any Z w
 rw [hzk] at lc
 have hk1:=hG.k1
 have ht1:=hG.t1
 have hn1:=hG.s1
 have hr:=room_bd κ
 have la:=fun w=>dlast_any t n k m g p r G w
 rw [decide_eq_true hl] at la
 clear hz hc hzk
 have hbv : ¬ L.has w.heap.size:=fun hh=>by have:=h.lt _ hh;omega
 have hbb : ¬ w.heap.size = b:=fun hh=>by have:=hi.lt;omega
 have hbv1 : ¬ L.has (w.heap.size + 1):=fun hh=>by have:=h.lt _ hh;omega
 have hbb1 : ¬ w.heap.size + 1 = b:=fun hh=>by have:=hi.lt;omega
 go_enter Tryz.func100,Tryz.ntmps100
 go_wp2
 refine wp_over (fun W=>MemAt W L s /\ DpAt W b o T cs a /\ BoxV W w.heap.size t n k m g p r L.p who /\ At W (w.heap.size + 1) 0 74 #[.int .i64 x,.int .i64 G] [.int .i64 x,.int .i64 G] /\ Only (L.and b) w W) ⟨(h.alloc _).alloc _,(hi.grown (grow1 _ _)).grown (grow1 _ _),BoxV.newB _,At.new2 _ _ _ _,((Only.refl _ _).alloc _).alloc _⟩ ?_
 rintro W ⟨m1,i1,v1,x1,o1⟩
 refine wp_region_rely_tail Grown 16 [.val (.agg #[.int .i64 t,.int .i64 n,.int .i64 k,.int .i64 m,.int .i64 g,.int .i64 p,.int .i64 r,.pointer (some ⟨L.p,0,none⟩),.int .i64 who]),.val (.pointer (some ⟨w.heap.size,0,none⟩)),.val (.agg #[.int .i64 t,.int .i64 n,.int .i64 k,.int .i64 m,.int .i64 g,.int .i64 p,.int .i64 r]),.val (.pointer (some ⟨b,o,none⟩)),.val (.pointer (some ⟨b,o,none⟩)),.val (.pointer (some ⟨b,o + 4,none⟩)),.val (.int .i64 (i : Nat)),.val (.int .i64 (6 + t + n * 2 + (i : Int) * 3)),.val (.int .i64 (((6 + t + n * 2 + i * 3 + 1) : Nat) : Int)),.val (.pointer (some ⟨b,o,none⟩)),.val (.pointer (some ⟨b,o,none⟩)),.val (.pointer (some ⟨b,o + 5,none⟩)),.val (.int .i64 Z),.val (.int .i64 (κ : Nat)),.val (.int .i64 (room κ : Nat)),.val (.int .i64 (-(room κ : Int)))] (by kernel_rfl) Grown.refl Grown.trans (by decide) (by kernel_rfl) (by kernel_rfl) (by kernel_rfl) (by kernel_rfl) (by kernel_rfl) (by kernel_rfl) ?_
 simp only [List.take_succ_cons,List.take_zero,relyAll,Act.put,List.setIfInBounds_toArray,List.set_cons_zero,List.set_cons_succ]
 refine ⟨?_,?_,?_,?_,?_,?_,?_,?_,?_,?_,?_,?_,?_,?_,?_,?_,?_⟩
 · intro w' hg _
   apply ol
   obtain ⟨y0,y1,y2,y3,y4,y5,y6,y7,y8⟩:=(v1.grown ((Below.refl _ _).drew)).grown hg
   go_simp
   exact gl
 · intros;apply ol;go_simp;exact gl
 · intro w' hg _
   apply ol
   obtain ⟨y0,y1,y2,y3,y4,y5,y6,y7,y8⟩:=(v1.grown ((Below.refl _ _).drew)).grown hg
   go_simp
   exact gl
 · intros;apply ol;go_simp;exact gl
 · intros;apply ol;go_simp;exact gl
 · intros;apply ol;go_simp;exact gl
 · intro w' hg _
   apply ol
   have z:=(i1.drew.grown hg).c_ch
   rw [HC.out] at z
   go_simp
   exact gl
 · intro w' hg _
   apply ol
   go_simp
   refine (lchunk_any _ _ _ _ _ _ _ (i : Int) _ hG.arena (by omega) (by omega)).mono ?_
   rintro e w'' ⟨rfl,b9⟩
   exact ⟨_,rfl,b9,rfl⟩
 · intro w' hg _
   apply ol
   go_simp
   exact ⟨Grown.refl _,congrArg (Value.int .i64) (by rw [IntKind.wrap_i64];omega)⟩
 · intros;apply ol;go_simp;exact gl
 · intros;apply ol;go_simp;exact gl
 · intros;apply ol;go_simp;exact gl
 · intro w' hg _
   apply ol
   have z:=(i1.drew.grown hg).c_sz
   rw [HZ.out] at z
   go_simp
   exact gl
 · intro w' hg _
   apply ol
   go_simp
   refine (lc _).mono ?_
   rintro e w'' ⟨rfl,rfl⟩
   exact ⟨_,rfl,Grown.refl _,rfl⟩
 · intro w' hg _
   apply ol
   go_simp
   refine (lroom_w κ hκ _).mono ?_
   rintro e w'' ⟨rfl,rfl⟩
   exact ⟨_,rfl,Grown.refl _,rfl⟩
 · intro w' hg _
   apply ol
   go_simp
   exact ⟨Grown.refl _,congrArg (Value.int .i64) (by rw [IntKind.wrap_i64];omega)⟩
 intro w5 hg _
 have m5:=m1.drew.below hg
 have i5:=i1.drew.grown hg
 have v5:=(v1.grown ((Below.refl _ _).drew)).grown hg
 have x5:=x1.drew.grown hg
 have o5 : Only (L.and b) w w5:=o1.drew.trans (Only.ofGrown hg)
 clear hg m1 i1 v1 x1 o1
 obtain ⟨z0,z1,z2,hgl⟩:=len3 hi.lgl
 go_wp2_with (first
  | (go_at_call 123;refine (eadd_in m5 _ _ _ _ _ _ _ _ (6 + t + n * 2 + i * 3 + 1) hn _).mono ?_;rintro e w6 ⟨rfl,m6,o6⟩;have x6:=x5.only o6 hbv1;have v6:=v5.only o6 hbv;have i6:=i5.only o6 hb;have u0:=x6.at0 0 rfl;have o7:=o5.trans (o6.andL (b:=b)))
  | (go_at_call 136;refine (newGive_any x _).mono ?_;rintro e w8 ⟨rfl,rfl⟩;have i8:=i6.grown (grow1 _ (.cells #[.int .i64 0,.int .i64 x,.int .u64 0] 125));have x8:=x6.grown (grow1 _ (.cells #[.int .i64 0,.int .i64 x,.int .u64 0] 125));have v8:=v6.grown (grow1 _ (.cells #[.int .i64 0,.int .i64 x,.int .u64 0] 125));have m8:=m6.alloc (.cells #[.int .i64 0,.int .i64 x,.int .u64 0] 125);have o8:=o7.alloc (.cells #[.int .i64 0,.int .i64 x,.int .u64 0] 125);obtain ⟨p0,k1⟩:=i8.c_gl0;obtain ⟨p1,k2⟩:=i8.c_gl1;obtain ⟨p2,k3⟩:=i8.c_gl2;have k0:=i8.c_nx;have kf:=i8.fz;have i9:=(((i8.set_gl0 (.int .i64 0)).set_gl1 (.int .i64 x)).set_gl2 (.int .u64 0)).set_nx 6;have x9:=(((x8.other hbb1 (o + 14) (.int .i64 0)).other hbb1 (o + 15) (.int .i64 x)).other hbb1 (o + 16) (.int .u64 0)).other hbb1 o (.int .i64 6);have v9:=(((v8.setIn hbb (o + 14) (.int .i64 0)).setIn hbb (o + 15) (.int .i64 x)).setIn hbb (o + 16) (.int .u64 0)).setIn hbb o (.int .i64 6);have u1:=x9.at0 1 rfl;obtain ⟨y0,y1,y2,y3,y4,y5,y6,y7,y8⟩:=id v9)
  | (go_at_call 137;refine (la _).mono ?_;rintro e w9 ⟨rfl,b9⟩;have i10:=i9.grown b9;have t0:=i10.c_nx;have tf:=i10.fz))
 go_end0
 exact ⟨rfl,_,_,_,(((((m8.setIn hb _ _).setIn hb _ _).setIn hb _ _).setIn hb _ _).below b9).setIn hb _ _,(((((o8.set _ _).set _ _).set _ _).set _ _).trans (Only.ofGrown b9)).set _ _,i10.set_nx 7,((((Same.refl.set (by omega) _).set (by omega) _).set (by omega) _).set (by omega) _).set (by omega) _,rfl,by simp [hgl,GvV]⟩
end Go.Proofs.YtkgpffcnimmdkaaGreat
