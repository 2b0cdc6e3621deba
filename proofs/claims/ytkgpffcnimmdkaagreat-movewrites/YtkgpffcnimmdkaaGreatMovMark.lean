import Derived.Test.YtkgpffcnimmdkaaGreatMovDo
namespace Go.Proofs.YtkgpffcnimmdkaaGreat
open Go.RowKit
set_option maxRecDepth 20000
variable {w : World} {L : Loc} {s : Mm} {b o : Nat} {T : TypeId} {cs : Array Value} {t n k m : Nat} {g p r : Int} {a : MV}
set_option maxHeartbeats 1000000 in
theorem mmark_no (h : MemAt w L s) (hb : ¬ L.has b) (hi : MvAt w b o T cs a) (who : Int) (hG : Good t n k m g p r) {x : Nat} (hx : x < n) (hsl : a.sl = x) (hn : (6 + t + x * 2) < s.n) {st : Int} {A : Nat} {Gs V : Int} (hs : SlotIs a.se st A Gs V) (hd : decide (s.wd (6 + t + x * 2) = a.se) = false) :
 Calls Tryz.prog 42 #[.pointer (some ⟨b,o,none⟩),.agg #[.int .i64 t,.int .i64 n,.int .i64 k,.int .i64 m,.int .i64 g,.int .i64 p,.int .i64 r,.pointer (some ⟨L.p,0,none⟩),.int .i64 who]] w fun e w'=>e = .returned (.tuple #[]) /\ Mact L b o T cs w w' (fun s' a'=>s' = ((s.by who).cas (6 + t + x * 2) a.se (packS 2 A Gs V)) /\ a' = { a with nx:=0 }):=by
 have HX : Hid (a.sl = (x : Int)):=hsl
 have HD : Hid (decide (s.wd (6 + t + x * 2) = a.se) = false):=hd
 have sw:=hs.call
 have ab : (A : Int) <= 1048575:=by have:=hs.ad;omega
 have gb : 0 <= Gs /\ Gs <= 65535:=by have:=hs.gn;omega
 have vb : 0 <= V /\ V <= 4194303:=by have:=hs.vr;omega
 have ps:=fun w=>putSlot_any 2 A Gs V w ⟨by omega,by omega⟩ ⟨by omega,by omega⟩ ⟨by omega,by omega⟩ ⟨by omega,by omega⟩
 clear hs hd hsl
 have hbv : ¬ L.has w.heap.size:=fun hh=>by have:=h.lt _ hh;omega
 have hbb : ¬ w.heap.size = b:=fun hh=>by have:=hi.lt;omega
 have i0:=hi.grown (grow1 _ (.cells #[.int .i64 t,.int .i64 n,.int .i64 k,.int .i64 m,.int .i64 g,.int .i64 p,.int .i64 r,.pointer (some ⟨L.p,0,none⟩),.int .i64 who] 27))
 have k3:=i0.c_se
 go_enter Tryz.func42,Tryz.ntmps42
 go_wp2_with (first
  | (go_at_call 34;refine (sw _).mono ?_;rintro e w3 ⟨rfl,b3⟩;have q3:=At.new w3 42 [.int .i64 st,.int .i64 A,.int .i64 Gs,.int .i64 V];have z0:=q3.at0 0 rfl;have qf:=q3.fz;have q4:=At.new w3 42 [.int .i64 2,.int .i64 A,.int .i64 Gs,.int .i64 V];have y0:=q4.at0 0 rfl;have y1:=q4.at0 1 rfl;have y2:=q4.at0 2 rfl;have y3:=q4.at0 3 rfl)
  | (go_at_call 80;refine (ps _).mono ?_;rintro e w4 ⟨rfl,b4⟩))
 refine wp_over (fun W=>MemAt W L s /\ MvAt W b o T cs a /\ BoxV W w.heap.size t n k m g p r L.p who /\ Only (L.and b) w W) ⟨(((h.alloc _).below b3).alloc _).below b4,((i0.grown b3).grown (grow1 _ _)).grown b4,((BoxV.new.grown b3).grown (grow1 _ _)).grown b4,((((Only.refl _ _).alloc _).trans (Only.ofGrown b3)).alloc _).trans (Only.ofGrown b4)⟩ ?_
 clear b3 b4 i0 k3 sw ps q3 q4 z0 qf y0 y1 y2 y3
 rintro W ⟨m1,i1,v1,o1⟩
 refine wp_region_rely_tail Grown 9 [.val (.agg #[.int .i64 t,.int .i64 n,.int .i64 k,.int .i64 m,.int .i64 g,.int .i64 p,.int .i64 r,.pointer (some ⟨L.p,0,none⟩),.int .i64 who]),.val (.pointer (some ⟨b,o,none⟩)),.val (.agg #[.int .i64 t,.int .i64 n,.int .i64 k,.int .i64 m,.int .i64 g,.int .i64 p,.int .i64 r,.pointer (some ⟨L.p,0,none⟩),.int .i64 who]),.val (.int .i64 (((6 + t + x * 2) : Nat) : Int)),.val (.pointer (some ⟨b,o,none⟩)),.val (.pointer (some ⟨b,o,none⟩)),.val (.pointer (some ⟨b,o + 14,none⟩)),.val (.int .u64 a.se),.val (.int .u64 (packS 2 A Gs V))] (by kernel_rfl) Grown.refl Grown.trans (by decide) (by kernel_rfl) (by kernel_rfl) (by kernel_rfl) (by kernel_rfl) (by kernel_rfl) (by kernel_rfl) ?_
 simp only [List.take_succ_cons,List.take_zero,relyAll,Act.put,List.setIfInBounds_toArray,List.set_cons_zero,List.set_cons_succ]
 refine ⟨?_,?_,?_,?_,?_,?_,?_,?_,?_,?_⟩
 · intro w' hg _
   apply ol
   obtain ⟨y0,y1,y2,y3,y4,y5,y6,y7,y8⟩:=(v1.grown ((Below.refl _ _).drew)).grown hg
   go_simp
   exact gl
 · intros;apply ol;go_simp;exact gl
 · intro w' hg _
   apply ol
   obtain ⟨y0,y1,y2,y3,y4,y5,y6,y7,y8⟩:=(v1.grown ((Below.refl _ _).drew)).grown hg
   go_simp
   exact gl
 · intro w' hg _
   apply ol
   go_simp
   refine (mslot_any (by have z:=(i1.drew.grown hg).c_sl;rwa [HX.out] at z) L.p who hG hx).mono ?_
   rintro e w'' ⟨rfl,b9⟩
   exact ⟨_,rfl,b9,rfl⟩
 · intros;apply ol;go_simp;exact gl
 · intros;apply ol;go_simp;exact gl
 · intros;apply ol;go_simp;exact gl
 · intro w' hg _
   apply ol
   have z0:=(i1.drew.grown hg).c_se
   go_simp
   exact gl
 · intros;apply ol;go_simp;exact gl
 intro w5 hg _
 have m5:=m1.drew.below hg
 have i5:=i1.drew.grown hg
 have o5 : Only (L.and b) w w5:=o1.drew.trans (Only.ofGrown hg)
 clear hg m1 i1 v1 o1
 go_wp2_with (go_at_call 81;refine (ecas_in m5 _ _ _ _ _ _ _ _ (6 + t + x * 2) hn _ _).mono ?_;rintro e w6 ⟨rfl,m6,o6⟩;rw [HD.out];have i6:=i5.only o6 hb;have k0:=i6.c_nx;have k14:=i6.c_se;have kf:=i6.fz)
 refine bodyPost_ret (results_none rfl _ _ _) rfl ?_
 exact ⟨rfl,_,_,_,m6.setIn hb _ _,(o5.trans (o6.andL (b:=b))).set _ _,i6.set_nx 0,Same.refl.set (by omega) _,rfl,rfl⟩
set_option maxHeartbeats 1000000 in
theorem mmark_yes (h : MemAt w L s) (hb : ¬ L.has b) (hi : MvAt w b o T cs a) (who : Int) (hG : Good t n k m g p r) {x : Nat} (hx : x < n) (hsl : a.sl = x) (hn : (6 + t + x * 2) < s.n) {st : Int} {A : Nat} {Gs V : Int} (hs : SlotIs a.se st A Gs V) (hd : decide (s.wd (6 + t + x * 2) = a.se) = true) :
 Calls Tryz.prog 42 #[.pointer (some ⟨b,o,none⟩),.agg #[.int .i64 t,.int .i64 n,.int .i64 k,.int .i64 m,.int .i64 g,.int .i64 p,.int .i64 r,.pointer (some ⟨L.p,0,none⟩),.int .i64 who]] w fun e w'=>e = .returned (.tuple #[]) /\ Mact L b o T cs w w' (fun s' a'=>s' = ((s.by who).cas (6 + t + x * 2) a.se (packS 2 A Gs V)) /\ a' = { a with se:=(packS 2 A Gs V),ce:=0,nx:=4 }):=by
 have HX : Hid (a.sl = (x : Int)):=hsl
 have HD : Hid (decide (s.wd (6 + t + x * 2) = a.se) = true):=hd
 have sw:=hs.call
 have ab : (A : Int) <= 1048575:=by have:=hs.ad;omega
 have gb : 0 <= Gs /\ Gs <= 65535:=by have:=hs.gn;omega
 have vb : 0 <= V /\ V <= 4194303:=by have:=hs.vr;omega
 have ps:=fun w=>putSlot_any 2 A Gs V w ⟨by omega,by omega⟩ ⟨by omega,by omega⟩ ⟨by omega,by omega⟩ ⟨by omega,by omega⟩
 clear hs hd hsl
 have hbv : ¬ L.has w.heap.size:=fun hh=>by have:=h.lt _ hh;omega
 have hbb : ¬ w.heap.size = b:=fun hh=>by have:=hi.lt;omega
 have i0:=hi.grown (grow1 _ (.cells #[.int .i64 t,.int .i64 n,.int .i64 k,.int .i64 m,.int .i64 g,.int .i64 p,.int .i64 r,.pointer (some ⟨L.p,0,none⟩),.int .i64 who] 27))
 have k3:=i0.c_se
 go_enter Tryz.func42,Tryz.ntmps42
 go_wp2_with (first
  | (go_at_call 34;refine (sw _).mono ?_;rintro e w3 ⟨rfl,b3⟩;have q3:=At.new w3 42 [.int .i64 st,.int .i64 A,.int .i64 Gs,.int .i64 V];have z0:=q3.at0 0 rfl;have qf:=q3.fz;have q4:=At.new w3 42 [.int .i64 2,.int .i64 A,.int .i64 Gs,.int .i64 V];have y0:=q4.at0 0 rfl;have y1:=q4.at0 1 rfl;have y2:=q4.at0 2 rfl;have y3:=q4.at0 3 rfl)
  | (go_at_call 80;refine (ps _).mono ?_;rintro e w4 ⟨rfl,b4⟩))
 refine wp_over (fun W=>MemAt W L s /\ MvAt W b o T cs a /\ BoxV W w.heap.size t n k m g p r L.p who /\ Only (L.and b) w W) ⟨(((h.alloc _).below b3).alloc _).below b4,((i0.grown b3).grown (grow1 _ _)).grown b4,((BoxV.new.grown b3).grown (grow1 _ _)).grown b4,((((Only.refl _ _).alloc _).trans (Only.ofGrown b3)).alloc _).trans (Only.ofGrown b4)⟩ ?_
 clear b3 b4 i0 k3 sw ps q3 q4 z0 qf y0 y1 y2 y3
 rintro W ⟨m1,i1,v1,o1⟩
 refine wp_region_rely_tail Grown 9 [.val (.agg #[.int .i64 t,.int .i64 n,.int .i64 k,.int .i64 m,.int .i64 g,.int .i64 p,.int .i64 r,.pointer (some ⟨L.p,0,none⟩),.int .i64 who]),.val (.pointer (some ⟨b,o,none⟩)),.val (.agg #[.int .i64 t,.int .i64 n,.int .i64 k,.int .i64 m,.int .i64 g,.int .i64 p,.int .i64 r,.pointer (some ⟨L.p,0,none⟩),.int .i64 who]),.val (.int .i64 (((6 + t + x * 2) : Nat) : Int)),.val (.pointer (some ⟨b,o,none⟩)),.val (.pointer (some ⟨b,o,none⟩)),.val (.pointer (some ⟨b,o + 14,none⟩)),.val (.int .u64 a.se),.val (.int .u64 (packS 2 A Gs V))] (by kernel_rfl) Grown.refl Grown.trans (by decide) (by kernel_rfl) (by kernel_rfl) (by kernel_rfl) (by kernel_rfl) (by kernel_rfl) (by kernel_rfl) ?_
 simp only [List.take_succ_cons,List.take_zero,relyAll,Act.put,List.setIfInBounds_toArray,List.set_cons_zero,List.set_cons_succ]
 refine ⟨?_,?_,?_,?_,?_,?_,?_,?_,?_,?_⟩
 · intro w' hg _
   apply ol
   obtain ⟨y0,y1,y2,y3,y4,y5,y6,y7,y8⟩:=(v1.grown ((Below.refl _ _).drew)).grown hg
   go_simp
   exact gl
 · intros;apply ol;go_simp;exact gl
 · intro w' hg _
   apply ol
   obtain ⟨y0,y1,y2,y3,y4,y5,y6,y7,y8⟩:=(v1.grown ((Below.refl _ _).drew)).grown hg
   go_simp
   exact gl
 · intro w' hg _
   apply ol
   go_simp
   refine (mslot_any (by have z:=(i1.drew.grown hg).c_sl;rwa [HX.out] at z) L.p who hG hx).mono ?_
   rintro e w'' ⟨rfl,b9⟩
   exact ⟨_,rfl,b9,rfl⟩
 · intros;apply ol;go_simp;exact gl
 · intros;apply ol;go_simp;exact gl
 · intros;apply ol;go_simp;exact gl
 · intro w' hg _
   apply ol
   have z0:=(i1.drew.grown hg).c_se
   go_simp
   exact gl
 · intros;apply ol;go_simp;exact gl
 intro w5 hg _
 have m5:=m1.drew.below hg
 have i5:=i1.drew.grown hg
 have o5 : Only (L.and b) w w5:=o1.drew.trans (Only.ofGrown hg)
 clear hg m1 i1 v1 o1
 go_wp2_with (go_at_call 81;refine (ecas_in m5 _ _ _ _ _ _ _ _ (6 + t + x * 2) hn _ _).mono ?_;rintro e w6 ⟨rfl,m6,o6⟩;rw [HD.out];have i6:=i5.only o6 hb;have k0:=i6.c_nx;have k14:=i6.c_se;have kf:=i6.fz;have i7:=i6.set_se (packS 2 A Gs V);have k7 : (w6.setCell ⟨b,o + 14,none⟩ (.int .u64 (packS 2 A Gs V))).cell? ⟨b,o + 15,none⟩ = some (.int .i64 a.ce):=i7.c_ce;have f7:=i7.fz;have i8:=i7.set_ce 0;have k8 : ((w6.setCell ⟨b,o + 14,none⟩ (.int .u64 (packS 2 A Gs V))).setCell ⟨b,o + 15,none⟩ (.int .i64 0)).cell? ⟨b,o,none⟩ = some (.int .i64 a.nx):=i8.c_nx;have f8:=i8.fz)
 go_end0
 exact ⟨rfl,_,_,_,((m6.setIn hb _ _).setIn hb _ _).setIn hb _ _,(((o5.trans (o6.andL (b:=b))).set _ _).set _ _).set _ _,i8.set_nx 4,((Same.refl.set (by omega) _).set (by omega) _).set (by omega) _,rfl,rfl⟩
set_option maxHeartbeats 1000000 in
theorem mshow_yes (h : MemAt w L s) (hb : ¬ L.has b) (hi : MvAt w b o T cs a) (who : Int) (hG : Good t n k m g p r) {x : Nat} (hx : x < n) (hsl : a.sl = x) (hn : (6 + t + x * 2) < s.n) {st : Int} {A : Nat} {Gs V : Int} (hs : SlotIs a.se st A Gs V) {κ : Nat} {τ : Pl} (hp : τ.cells κ a.pl) {B i : Nat} {dp : Bool} (ht : τ.told = (B,i,dp)) (hB : B <= 1048575) (hd : decide (s.wd (6 + t + x * 2) = a.se) = true)  :
 Calls Tryz.prog 46 #[.pointer (some ⟨b,o,none⟩),.agg #[.int .i64 t,.int .i64 n,.int .i64 k,.int .i64 m,.int .i64 g,.int .i64 p,.int .i64 r,.pointer (some ⟨L.p,0,none⟩),.int .i64 who]] w fun e w'=>e = .returned (.tuple #[]) /\ Mact L b o T cs w w' (fun s' a'=>s' = ((s.by who).cas (6 + t + x * 2) a.se (packS 1 B Gs (V + 1))) /\ a' = { a with ou:=1,nx:=8 }):=by
 have HX : Hid (a.sl = (x : Int)):=hsl
 have HD : Hid (decide (s.wd (6 + t + x * 2) = a.se) = true):=hd
 have sw:=hs.call
 have ab : (A : Int) <= 1048575:=by have:=hs.ad;omega
 have gb : 0 <= Gs /\ Gs <= 65535:=by have:=hs.gn;omega
 have vb : 0 <= V /\ V <= 4194303:=by have:=hs.vr;omega
 have ps:=fun w=>putSlot_any 1 B Gs (V + 1) w ⟨by omega,by omega⟩ ⟨by omega,by omega⟩ ⟨by omega,by omega⟩ ⟨by omega,by omega⟩
 have hvw : IntKind.i64.wrap (V + 1) = V + 1:=by rw [IntKind.wrap_i64];omega
 have ff:=spot0
 clear hs hd hsl
 have hbv : ¬ L.has w.heap.size:=fun hh=>by have:=h.lt _ hh;omega
 have hbb : ¬ w.heap.size = b:=fun hh=>by have:=hi.lt;omega
 have i0:=hi.grown (grow1 _ (.cells #[.int .i64 t,.int .i64 n,.int .i64 k,.int .i64 m,.int .i64 g,.int .i64 p,.int .i64 r,.pointer (some ⟨L.p,0,none⟩),.int .i64 who] 27))
 have k3:=i0.c_se
 go_enter Tryz.func46,Tryz.ntmps46
 go_wp2_with (first
  | (go_at_call 34;refine (sw _).mono ?_;rintro e w3 ⟨rfl,b3⟩;have q3:=At.new w3 42 [.int .i64 st,.int .i64 A,.int .i64 Gs,.int .i64 V];have z0:=q3.at0 0 rfl;have qf:=q3.fz;have q4:=At.new w3 42 [.int .i64 1,.int .i64 A,.int .i64 Gs,.int .i64 V];have i4:=(i0.grown b3).grown (grow1 _ (.cells #[.int .i64 1,.int .i64 A,.int .i64 Gs,.int .i64 V] 42)))
  | (go_at_call 78;refine (mcopyAt_any i4 hp ht).mono ?_;rintro e w4 ⟨rfl,b4⟩;have q5:=q4.grown b4;have y1:=q5.at0 1 rfl;have y3:=(q5.put0 1 (.int .i64 B)).at0 3 rfl;have yf:=q5.fz;have yf1:=(q5.put0 1 (.int .i64 B)).fz))
 obtain ⟨S,hS⟩ : ∃ S,w3.heap.size = S:=⟨_,rfl⟩
 have lS : ¬ L.has S:=fun hh=>by have:=h.lt _ hh;have:=b3.size;simp only [Go.Deep.nblk_alloc] at this;omega
 have bS : S ≠ b:=by have:=hi.lt;have:=b3.size;simp only [Go.Deep.nblk_alloc] at this;omega
 have eS : ¬ w.heap.size = S:=by have:=b3.size;simp only [Go.Deep.nblk_alloc] at this;omega
 have q6:=(q5.put0 1 (.int .i64 B)).put0 3 (.int .i64 (V + 1))
 rw [hS] at q6 ⊢
 have o0 : Only (L.and b) w w4:=((((Only.refl _ _).alloc _).trans (Only.ofGrown b3)).alloc _).trans (Only.ofGrown b4)
 have hsz : w.heap.size <= S:=by have:=b3.size;simp only [Go.Deep.nblk_alloc] at this;omega
 refine wp_over (fun W=>MemAt W L s /\ MvAt W b o T cs a /\ BoxV W w.heap.size t n k m g p r L.p who /\ At W S 0 42 _ [.int .i64 1,.int .i64 B,.int .i64 Gs,.int .i64 (V + 1)] /\ Only (L.and b) w W) ⟨(((((h.alloc _).below b3).alloc _).below b4).setIn lS _ _).setIn lS _ _,((i4.grown b4).other bS.symm _ _).other bS.symm _ _,((((BoxV.new.grown b3).grown (grow1 _ _)).grown b4).setIn eS _ _).setIn eS _ _,q6,(o0.setCell (a:=⟨S,1,none⟩) (fun hlt=>by simp only at hlt;omega) _).setCell (a:=⟨S,3,none⟩) (fun hlt=>by simp only at hlt;omega) _⟩ ?_
 clear b3 b4 i0 i4 k3 sw q3 q4 q5 q6 z0 qf y1 y3 yf yf1 o0 hS
 rintro W ⟨m1,i1,v1,q1,o1⟩
 refine wp_region_rely_tail Grown 10 [.val (.agg #[.int .i64 t,.int .i64 n,.int .i64 k,.int .i64 m,.int .i64 g,.int .i64 p,.int .i64 r,.pointer (some ⟨L.p,0,none⟩),.int .i64 who]),.val (.pointer (some ⟨b,o,none⟩)),.val (.agg #[.int .i64 t,.int .i64 n,.int .i64 k,.int .i64 m,.int .i64 g,.int .i64 p,.int .i64 r,.pointer (some ⟨L.p,0,none⟩),.int .i64 who]),.val (.int .i64 (((6 + t + x * 2) : Nat) : Int)),.val (.pointer (some ⟨b,o,none⟩)),.val (.pointer (some ⟨b,o,none⟩)),.val (.pointer (some ⟨b,o + 14,none⟩)),.val (.int .u64 a.se),.val (.agg #[.int .i64 1,.int .i64 B,.int .i64 Gs,.int .i64 (V + 1)]),.val (.int .u64 (packS 1 B Gs (V + 1)))] (by kernel_rfl) Grown.refl Grown.trans (by decide) (by kernel_rfl) (by kernel_rfl) (by kernel_rfl) (by kernel_rfl) (by kernel_rfl) (by kernel_rfl) ?_
 simp only [List.take_succ_cons,List.take_zero,relyAll,Act.put,List.setIfInBounds_toArray,List.set_cons_zero,List.set_cons_succ]
 refine ⟨?_,?_,?_,?_,?_,?_,?_,?_,?_,?_,?_⟩
 · intro w' hg _
   apply ol
   obtain ⟨y0,y1,y2,y3,y4,y5,y6,y7,y8⟩:=(v1.grown ((Below.refl _ _).drew)).grown hg
   go_simp
   exact gl
 · intros;apply ol;go_simp;exact gl
 · intro w' hg _
   apply ol
   obtain ⟨y0,y1,y2,y3,y4,y5,y6,y7,y8⟩:=(v1.grown ((Below.refl _ _).drew)).grown hg
   go_simp
   exact gl
 · intro w' hg _
   apply ol
   go_simp
   refine (mslot_any (by have z:=(i1.drew.grown hg).c_sl;rwa [HX.out] at z) L.p who hG hx).mono ?_
   rintro e w'' ⟨rfl,b9⟩
   exact ⟨_,rfl,b9,rfl⟩
 · intros;apply ol;go_simp;exact gl
 · intros;apply ol;go_simp;exact gl
 · intros;apply ol;go_simp;exact gl
 · intro w' hg _
   apply ol
   have z0:=(i1.drew.grown hg).c_se
   go_simp
   exact gl
 · intro w' hg _
   apply ol
   have z0:=(q1.drew.grown hg).at0 0 rfl
   have z1:=(q1.drew.grown hg).at0 1 rfl
   have z2:=(q1.drew.grown hg).at0 2 rfl
   have z3:=(q1.drew.grown hg).at0 3 rfl
   go_simp
   exact gl
 · intro w' hg _
   apply ol
   go_simp
   refine (ps _).mono ?_
   rintro e w'' ⟨rfl,b9⟩
   exact ⟨_,rfl,b9,rfl⟩
 intro w5 hg _
 have m5:=m1.drew.below hg
 have i5:=i1.drew.grown hg
 have v5:=(v1.grown ((Below.refl _ _).drew)).grown hg
 have o5 : Only (L.and b) w w5:=o1.drew.trans (Only.ofGrown hg)
 clear hg m1 i1 v1 q1 o1
 go_wp2_with (go_at_call 81;refine (ecas_in m5 _ _ _ _ _ _ _ _ (6 + t + x * 2) hn _ _).mono ?_;rintro e w6 ⟨rfl,m6,o6⟩;rw [HD.out];have i6:=i5.only o6 hb;have k0:=i6.c_nx;have k18:=i6.c_ou;have k17:=i6.c_sp;have kf:=i6.fz;have i7:=i6.set_ou 1;have k7 : (w6.setCell ⟨b,o + 18,none⟩ (.int .i64 1)).cell? ⟨b,o,none⟩ = some (.int .i64 a.nx):=i7.c_nx;have f7:=i7.fz)
 refine bodyPost_ret (results_none rfl _ _ _) rfl ?_
 exact ⟨rfl,_,_,_,(m6.setIn hb _ _).setIn hb _ _,((o5.trans (o6.andL (b:=b))).set _ _).set _ _,i7.set_nx 8,(Same.refl.set (by omega) _).set (by omega) _,rfl,rfl⟩
set_option maxHeartbeats 1000000 in
theorem mshow_anew (h : MemAt w L s) (hb : ¬ L.has b) (hi : MvAt w b o T cs a) (who : Int) (hG : Good t n k m g p r) {x : Nat} (hx : x < n) (hsl : a.sl = x) (hn : (6 + t + x * 2) < s.n) {st : Int} {A : Nat} {Gs V : Int} (hs : SlotIs a.se st A Gs V) {κ : Nat} {τ : Pl} (hp : τ.cells κ a.pl) {B i : Nat} {dp : Bool} (ht : τ.told = (B,i,dp)) (hB : B <= 1048575) (hd : decide (s.wd (6 + t + x * 2) = a.se) = false) (s0 : 0 <= a.sp) (s1 : a.sp <= 100000) (hr : decide (a.sp + 1 ≥ r) = false) :
 Calls Tryz.prog 46 #[.pointer (some ⟨b,o,none⟩),.agg #[.int .i64 t,.int .i64 n,.int .i64 k,.int .i64 m,.int .i64 g,.int .i64 p,.int .i64 r,.pointer (some ⟨L.p,0,none⟩),.int .i64 who]] w fun e w'=>e = .returned (.tuple #[]) /\ Mact L b o T cs w w' (fun s' a'=>s' = ((s.by who).cas (6 + t + x * 2) a.se (packS 1 B Gs (V + 1))) /\ a' = { a with sp:=a.sp + 1,nx:=0 }):=by
 have HX : Hid (a.sl = (x : Int)):=hsl
 have HD : Hid (decide (s.wd (6 + t + x * 2) = a.se) = false):=hd
 have sw:=hs.call
 have ab : (A : Int) <= 1048575:=by have:=hs.ad;omega
 have gb : 0 <= Gs /\ Gs <= 65535:=by have:=hs.gn;omega
 have vb : 0 <= V /\ V <= 4194303:=by have:=hs.vr;omega
 have ps:=fun w=>putSlot_any 1 B Gs (V + 1) w ⟨by omega,by omega⟩ ⟨by omega,by omega⟩ ⟨by omega,by omega⟩ ⟨by omega,by omega⟩
 have hvw : IntKind.i64.wrap (V + 1) = V + 1:=by rw [IntKind.wrap_i64];omega
 have ff:=spot0
 have hsw : IntKind.i64.wrap (a.sp + 1) = a.sp + 1:=by rw [IntKind.wrap_i64];omega
 have HRr : Hid (decide (a.sp + 1 ≥ r) = false):=hr
 clear hr
 clear hs hd hsl
 have hbv : ¬ L.has w.heap.size:=fun hh=>by have:=h.lt _ hh;omega
 have hbb : ¬ w.heap.size = b:=fun hh=>by have:=hi.lt;omega
 have i0:=hi.grown (grow1 _ (.cells #[.int .i64 t,.int .i64 n,.int .i64 k,.int .i64 m,.int .i64 g,.int .i64 p,.int .i64 r,.pointer (some ⟨L.p,0,none⟩),.int .i64 who] 27))
 have k3:=i0.c_se
 go_enter Tryz.func46,Tryz.ntmps46
 go_wp2_with (first
  | (go_at_call 34;refine (sw _).mono ?_;rintro e w3 ⟨rfl,b3⟩;have q3:=At.new w3 42 [.int .i64 st,.int .i64 A,.int .i64 Gs,.int .i64 V];have z0:=q3.at0 0 rfl;have qf:=q3.fz;have q4:=At.new w3 42 [.int .i64 1,.int .i64 A,.int .i64 Gs,.int .i64 V];have i4:=(i0.grown b3).grown (grow1 _ (.cells #[.int .i64 1,.int .i64 A,.int .i64 Gs,.int .i64 V] 42)))
  | (go_at_call 78;refine (mcopyAt_any i4 hp ht).mono ?_;rintro e w4 ⟨rfl,b4⟩;have q5:=q4.grown b4;have y1:=q5.at0 1 rfl;have y3:=(q5.put0 1 (.int .i64 B)).at0 3 rfl;have yf:=q5.fz;have yf1:=(q5.put0 1 (.int .i64 B)).fz))
 obtain ⟨S,hS⟩ : ∃ S,w3.heap.size = S:=⟨_,rfl⟩
 have lS : ¬ L.has S:=fun hh=>by have:=h.lt _ hh;have:=b3.size;simp only [Go.Deep.nblk_alloc] at this;omega
 have bS : S ≠ b:=by have:=hi.lt;have:=b3.size;simp only [Go.Deep.nblk_alloc] at this;omega
 have eS : ¬ w.heap.size = S:=by have:=b3.size;simp only [Go.Deep.nblk_alloc] at this;omega
 have q6:=(q5.put0 1 (.int .i64 B)).put0 3 (.int .i64 (V + 1))
 rw [hS] at q6 ⊢
 have o0 : Only (L.and b) w w4:=((((Only.refl _ _).alloc _).trans (Only.ofGrown b3)).alloc _).trans (Only.ofGrown b4)
 have hsz : w.heap.size <= S:=by have:=b3.size;simp only [Go.Deep.nblk_alloc] at this;omega
 refine wp_over (fun W=>MemAt W L s /\ MvAt W b o T cs a /\ BoxV W w.heap.size t n k m g p r L.p who /\ At W S 0 42 _ [.int .i64 1,.int .i64 B,.int .i64 Gs,.int .i64 (V + 1)] /\ Only (L.and b) w W) ⟨(((((h.alloc _).below b3).alloc _).below b4).setIn lS _ _).setIn lS _ _,((i4.grown b4).other bS.symm _ _).other bS.symm _ _,((((BoxV.new.grown b3).grown (grow1 _ _)).grown b4).setIn eS _ _).setIn eS _ _,q6,(o0.setCell (a:=⟨S,1,none⟩) (fun hlt=>by simp only at hlt;omega) _).setCell (a:=⟨S,3,none⟩) (fun hlt=>by simp only at hlt;omega) _⟩ ?_
 clear b3 b4 i0 i4 k3 sw q3 q4 q5 q6 z0 qf y1 y3 yf yf1 o0 hS
 rintro W ⟨m1,i1,v1,q1,o1⟩
 refine wp_region_rely_tail Grown 10 [.val (.agg #[.int .i64 t,.int .i64 n,.int .i64 k,.int .i64 m,.int .i64 g,.int .i64 p,.int .i64 r,.pointer (some ⟨L.p,0,none⟩),.int .i64 who]),.val (.pointer (some ⟨b,o,none⟩)),.val (.agg #[.int .i64 t,.int .i64 n,.int .i64 k,.int .i64 m,.int .i64 g,.int .i64 p,.int .i64 r,.pointer (some ⟨L.p,0,none⟩),.int .i64 who]),.val (.int .i64 (((6 + t + x * 2) : Nat) : Int)),.val (.pointer (some ⟨b,o,none⟩)),.val (.pointer (some ⟨b,o,none⟩)),.val (.pointer (some ⟨b,o + 14,none⟩)),.val (.int .u64 a.se),.val (.agg #[.int .i64 1,.int .i64 B,.int .i64 Gs,.int .i64 (V + 1)]),.val (.int .u64 (packS 1 B Gs (V + 1)))] (by kernel_rfl) Grown.refl Grown.trans (by decide) (by kernel_rfl) (by kernel_rfl) (by kernel_rfl) (by kernel_rfl) (by kernel_rfl) (by kernel_rfl) ?_
 simp only [List.take_succ_cons,List.take_zero,relyAll,Act.put,List.setIfInBounds_toArray,List.set_cons_zero,List.set_cons_succ]
 refine ⟨?_,?_,?_,?_,?_,?_,?_,?_,?_,?_,?_⟩
 · intro w' hg _
   apply ol
   obtain ⟨y0,y1,y2,y3,y4,y5,y6,y7,y8⟩:=(v1.grown ((Below.refl _ _).drew)).grown hg
   go_simp
   exact gl
 · intros;apply ol;go_simp;exact gl
 · intro w' hg _
   apply ol
   obtain ⟨y0,y1,y2,y3,y4,y5,y6,y7,y8⟩:=(v1.grown ((Below.refl _ _).drew)).grown hg
   go_simp
   exact gl
 · intro w' hg _
   apply ol
   go_simp
   refine (mslot_any (by have z:=(i1.drew.grown hg).c_sl;rwa [HX.out] at z) L.p who hG hx).mono ?_
   rintro e w'' ⟨rfl,b9⟩
   exact ⟨_,rfl,b9,rfl⟩
 · intros;apply ol;go_simp;exact gl
 · intros;apply ol;go_simp;exact gl
 · intros;apply ol;go_simp;exact gl
 · intro w' hg _
   apply ol
   have z0:=(i1.drew.grown hg).c_se
   go_simp
   exact gl
 · intro w' hg _
   apply ol
   have z0:=(q1.drew.grown hg).at0 0 rfl
   have z1:=(q1.drew.grown hg).at0 1 rfl
   have z2:=(q1.drew.grown hg).at0 2 rfl
   have z3:=(q1.drew.grown hg).at0 3 rfl
   go_simp
   exact gl
 · intro w' hg _
   apply ol
   go_simp
   refine (ps _).mono ?_
   rintro e w'' ⟨rfl,b9⟩
   exact ⟨_,rfl,b9,rfl⟩
 intro w5 hg _
 have m5:=m1.drew.below hg
 have i5:=i1.drew.grown hg
 have v5:=(v1.grown ((Below.refl _ _).drew)).grown hg
 have o5 : Only (L.and b) w w5:=o1.drew.trans (Only.ofGrown hg)
 clear hg m1 i1 v1 q1 o1
 go_wp2_with (go_at_call 81;refine (ecas_in m5 _ _ _ _ _ _ _ _ (6 + t + x * 2) hn _ _).mono ?_;rintro e w6 ⟨rfl,m6,o6⟩;rw [HD.out];have i6:=i5.only o6 hb;have k0:=i6.c_nx;have k18:=i6.c_ou;have k17:=i6.c_sp;have kf:=i6.fz;have i7:=i6.set_sp (a.sp + 1);have k7 : (w6.setCell ⟨b,o + 17,none⟩ (.int .i64 (a.sp + 1))).cell? ⟨b,o,none⟩ = some (.int .i64 a.nx):=i7.c_nx;have f7:=i7.fz)
 have i8:=i7.set_nx 0
 obtain ⟨a2,ha2⟩ : ∃ z : MV,{ a with sp:=a.sp + 1,nx:=0 } = z:=⟨_,rfl⟩
 have e2 : Hid (a2.sp = a.sp + 1 /\ a2.pl = a.pl):=by unfold Hid;rw [<- ha2];exact ⟨rfl,rfl⟩
 have HR : Hid (decide (a2.sp ≥ r) = false):=by unfold Hid;rw [e2.out.1];exact HRr.out
 have i9 : MvAt ((w6.setCell ⟨b,o + 17,none⟩ (.int .i64 (a.sp + 1))).setCell ⟨b,o,none⟩ (.int .i64 0)) b o T ((cs.setIfInBounds (o + 17) (.int .i64 (a.sp + 1))).setIfInBounds o (.int .i64 0)) a2:=by rw [<- ha2];exact i8
 refine wp_over (fun W=>MemAt W L ((s.by who).cas (6 + t + x * 2) a.se (packS 1 B Gs (V + 1))) /\ MvAt W b o T ((cs.setIfInBounds (o + 17) (.int .i64 (a.sp + 1))).setIfInBounds o (.int .i64 0)) a2 /\ BoxV W w.heap.size t n k m g p r L.p who /\ Only (L.and b) w W) ⟨(m6.setIn hb _ _).setIn hb _ _,i9,((v5.only o6 hbv).setIn hbb _ _).setIn hbb _ _,((o5.trans (o6.andL (b:=b))).set _ _).set _ _⟩ ?_
 clear i5 i6 i7 i8 i9 m5 m6 o5 o6 v5 k0 k18 k17 kf k7 f7
 rintro W ⟨m1,i1,v1,o1⟩
 refine wp_region_rely Grown [.val (.pointer (some ⟨b,o,none⟩)),.val (.pointer (some ⟨b,o,none⟩)),.val (.pointer (some ⟨b,o + 17,none⟩)),.val (.int .i64 a2.sp),.val (.pointer (some ⟨w.heap.size,0,none⟩)),.val (.pointer (some ⟨w.heap.size,6,none⟩)),.val (.int .i64 r),.val (.bool false)] (by kernel_rfl) Grown.refl Grown.trans (by kernel_rfl) (by kernel_rfl) (by kernel_rfl) ?_
 simp only [relyAll,Act.put,List.setIfInBounds_toArray,List.set_cons_zero,List.set_cons_succ]
 refine ⟨?_,?_,?_,?_,?_,?_,?_,?_,?_⟩
 · intros;apply ol;go_simp;exact gl
 · intros;apply ol;go_simp;exact gl
 · intros;apply ol;go_simp;exact gl
 · intro w' hg _
   apply ol
   have z0:=(i1.drew.grown hg).c_sp
   go_simp
   exact gl
 · intros;apply ol;go_simp;exact gl
 · intros;apply ol;go_simp;exact gl
 · intro w' hg _
   apply ol
   obtain ⟨y0,y1,y2,y3,y4,y5,y6,y7,y8⟩:=(v1.grown ((Below.refl _ _).drew)).grown hg
   go_simp
   exact gl
 · intro w' hg _
   apply ol
   have z : decide (a2.sp ≥ r) = false:=HR.out
   go_simp
   exact gl
 intro w7 hg _
 have m7:=m1.drew.below hg
 have i7:=i1.drew.grown hg
 have o7 : Only (L.and b) w w7:=o1.drew.trans (Only.ofGrown hg)
 clear hg m1 i1 v1 o1
 go_wp2
 go_end0
 exact ⟨rfl,_,_,_,m7,o7,i7,(Same.refl.set (by omega) _).set (by omega) _,rfl,ha2.symm⟩
set_option maxHeartbeats 1000000 in
theorem mshow_end (h : MemAt w L s) (hb : ¬ L.has b) (hi : MvAt w b o T cs a) (who : Int) (hG : Good t n k m g p r) {x : Nat} (hx : x < n) (hsl : a.sl = x) (hn : (6 + t + x * 2) < s.n) {st : Int} {A : Nat} {Gs V : Int} (hs : SlotIs a.se st A Gs V) {κ : Nat} {τ : Pl} (hp : τ.cells κ a.pl) {B i : Nat} {dp : Bool} (ht : τ.told = (B,i,dp)) (hB : B <= 1048575) (hd : decide (s.wd (6 + t + x * 2) = a.se) = false) (s0 : 0 <= a.sp) (s1 : a.sp <= 100000) (hr : decide (a.sp + 1 ≥ r) = true) :
 Calls Tryz.prog 46 #[.pointer (some ⟨b,o,none⟩),.agg #[.int .i64 t,.int .i64 n,.int .i64 k,.int .i64 m,.int .i64 g,.int .i64 p,.int .i64 r,.pointer (some ⟨L.p,0,none⟩),.int .i64 who]] w fun e w'=>e = .returned (.tuple #[]) /\ Mact L b o T cs w w' (fun s' a'=>s' = ((s.by who).cas (6 + t + x * 2) a.se (packS 1 B Gs (V + 1))) /\ a' = { a with sp:=a.sp + 1,ou:=3,nx:=endNx dp }):=by
 have HX : Hid (a.sl = (x : Int)):=hsl
 have HD : Hid (decide (s.wd (6 + t + x * 2) = a.se) = false):=hd
 have sw:=hs.call
 have ab : (A : Int) <= 1048575:=by have:=hs.ad;omega
 have gb : 0 <= Gs /\ Gs <= 65535:=by have:=hs.gn;omega
 have vb : 0 <= V /\ V <= 4194303:=by have:=hs.vr;omega
 have ps:=fun w=>putSlot_any 1 B Gs (V + 1) w ⟨by omega,by omega⟩ ⟨by omega,by omega⟩ ⟨by omega,by omega⟩ ⟨by omega,by omega⟩
 have hvw : IntKind.i64.wrap (V + 1) = V + 1:=by rw [IntKind.wrap_i64];omega
 have ff:=spot0
 have hsw : IntKind.i64.wrap (a.sp + 1) = a.sp + 1:=by rw [IntKind.wrap_i64];omega
 have HRr : Hid (decide (a.sp + 1 ≥ r) = true):=hr
 clear hr
 clear hs hd hsl
 have hbv : ¬ L.has w.heap.size:=fun hh=>by have:=h.lt _ hh;omega
 have hbb : ¬ w.heap.size = b:=fun hh=>by have:=hi.lt;omega
 have i0:=hi.grown (grow1 _ (.cells #[.int .i64 t,.int .i64 n,.int .i64 k,.int .i64 m,.int .i64 g,.int .i64 p,.int .i64 r,.pointer (some ⟨L.p,0,none⟩),.int .i64 who] 27))
 have k3:=i0.c_se
 go_enter Tryz.func46,Tryz.ntmps46
 go_wp2_with (first
  | (go_at_call 34;refine (sw _).mono ?_;rintro e w3 ⟨rfl,b3⟩;have q3:=At.new w3 42 [.int .i64 st,.int .i64 A,.int .i64 Gs,.int .i64 V];have z0:=q3.at0 0 rfl;have qf:=q3.fz;have q4:=At.new w3 42 [.int .i64 1,.int .i64 A,.int .i64 Gs,.int .i64 V];have i4:=(i0.grown b3).grown (grow1 _ (.cells #[.int .i64 1,.int .i64 A,.int .i64 Gs,.int .i64 V] 42)))
  | (go_at_call 78;refine (mcopyAt_any i4 hp ht).mono ?_;rintro e w4 ⟨rfl,b4⟩;have q5:=q4.grown b4;have y1:=q5.at0 1 rfl;have y3:=(q5.put0 1 (.int .i64 B)).at0 3 rfl;have yf:=q5.fz;have yf1:=(q5.put0 1 (.int .i64 B)).fz))
 obtain ⟨S,hS⟩ : ∃ S,w3.heap.size = S:=⟨_,rfl⟩
 have lS : ¬ L.has S:=fun hh=>by have:=h.lt _ hh;have:=b3.size;simp only [Go.Deep.nblk_alloc] at this;omega
 have bS : S ≠ b:=by have:=hi.lt;have:=b3.size;simp only [Go.Deep.nblk_alloc] at this;omega
 have eS : ¬ w.heap.size = S:=by have:=b3.size;simp only [Go.Deep.nblk_alloc] at this;omega
 have q6:=(q5.put0 1 (.int .i64 B)).put0 3 (.int .i64 (V + 1))
 rw [hS] at q6 ⊢
 have o0 : Only (L.and b) w w4:=((((Only.refl _ _).alloc _).trans (Only.ofGrown b3)).alloc _).trans (Only.ofGrown b4)
 have hsz : w.heap.size <= S:=by have:=b3.size;simp only [Go.Deep.nblk_alloc] at this;omega
 refine wp_over (fun W=>MemAt W L s /\ MvAt W b o T cs a /\ BoxV W w.heap.size t n k m g p r L.p who /\ At W S 0 42 _ [.int .i64 1,.int .i64 B,.int .i64 Gs,.int .i64 (V + 1)] /\ Only (L.and b) w W) ⟨(((((h.alloc _).below b3).alloc _).below b4).setIn lS _ _).setIn lS _ _,((i4.grown b4).other bS.symm _ _).other bS.symm _ _,((((BoxV.new.grown b3).grown (grow1 _ _)).grown b4).setIn eS _ _).setIn eS _ _,q6,(o0.setCell (a:=⟨S,1,none⟩) (fun hlt=>by simp only at hlt;omega) _).setCell (a:=⟨S,3,none⟩) (fun hlt=>by simp only at hlt;omega) _⟩ ?_
 clear b3 b4 i0 i4 k3 sw q3 q4 q5 q6 z0 qf y1 y3 yf yf1 o0 hS
 rintro W ⟨m1,i1,v1,q1,o1⟩
 refine wp_region_rely_tail Grown 10 [.val (.agg #[.int .i64 t,.int .i64 n,.int .i64 k,.int .i64 m,.int .i64 g,.int .i64 p,.int .i64 r,.pointer (some ⟨L.p,0,none⟩),.int .i64 who]),.val (.pointer (some ⟨b,o,none⟩)),.val (.agg #[.int .i64 t,.int .i64 n,.int .i64 k,.int .i64 m,.int .i64 g,.int .i64 p,.int .i64 r,.pointer (some ⟨L.p,0,none⟩),.int .i64 who]),.val (.int .i64 (((6 + t + x * 2) : Nat) : Int)),.val (.pointer (some ⟨b,o,none⟩)),.val (.pointer (some ⟨b,o,none⟩)),.val (.pointer (some ⟨b,o + 14,none⟩)),.val (.int .u64 a.se),.val (.agg #[.int .i64 1,.int .i64 B,.int .i64 Gs,.int .i64 (V + 1)]),.val (.int .u64 (packS 1 B Gs (V + 1)))] (by kernel_rfl) Grown.refl Grown.trans (by decide) (by kernel_rfl) (by kernel_rfl) (by kernel_rfl) (by kernel_rfl) (by kernel_rfl) (by kernel_rfl) ?_
 simp only [List.take_succ_cons,List.take_zero,relyAll,Act.put,List.setIfInBounds_toArray,List.set_cons_zero,List.set_cons_succ]
 refine ⟨?_,?_,?_,?_,?_,?_,?_,?_,?_,?_,?_⟩
 · intro w' hg _
   apply ol
   obtain ⟨y0,y1,y2,y3,y4,y5,y6,y7,y8⟩:=(v1.grown ((Below.refl _ _).drew)).grown hg
   go_simp
   exact gl
 · intros;apply ol;go_simp;exact gl
 · intro w' hg _
   apply ol
   obtain ⟨y0,y1,y2,y3,y4,y5,y6,y7,y8⟩:=(v1.grown ((Below.refl _ _).drew)).grown hg
   go_simp
   exact gl
 · intro w' hg _
   apply ol
   go_simp
   refine (mslot_any (by have z:=(i1.drew.grown hg).c_sl;rwa [HX.out] at z) L.p who hG hx).mono ?_
   rintro e w'' ⟨rfl,b9⟩
   exact ⟨_,rfl,b9,rfl⟩
 · intros;apply ol;go_simp;exact gl
 · intros;apply ol;go_simp;exact gl
 · intros;apply ol;go_simp;exact gl
 · intro w' hg _
   apply ol
   have z0:=(i1.drew.grown hg).c_se
   go_simp
   exact gl
 · intro w' hg _
   apply ol
   have z0:=(q1.drew.grown hg).at0 0 rfl
   have z1:=(q1.drew.grown hg).at0 1 rfl
   have z2:=(q1.drew.grown hg).at0 2 rfl
   have z3:=(q1.drew.grown hg).at0 3 rfl
   go_simp
   exact gl
 · intro w' hg _
   apply ol
   go_simp
   refine (ps _).mono ?_
   rintro e w'' ⟨rfl,b9⟩
   exact ⟨_,rfl,b9,rfl⟩
 intro w5 hg _
 have m5:=m1.drew.below hg
 have i5:=i1.drew.grown hg
 have v5:=(v1.grown ((Below.refl _ _).drew)).grown hg
 have o5 : Only (L.and b) w w5:=o1.drew.trans (Only.ofGrown hg)
 clear hg m1 i1 v1 q1 o1
 go_wp2_with (go_at_call 81;refine (ecas_in m5 _ _ _ _ _ _ _ _ (6 + t + x * 2) hn _ _).mono ?_;rintro e w6 ⟨rfl,m6,o6⟩;rw [HD.out];have i6:=i5.only o6 hb;have k0:=i6.c_nx;have k18:=i6.c_ou;have k17:=i6.c_sp;have kf:=i6.fz;have i7:=i6.set_sp (a.sp + 1);have k7 : (w6.setCell ⟨b,o + 17,none⟩ (.int .i64 (a.sp + 1))).cell? ⟨b,o,none⟩ = some (.int .i64 a.nx):=i7.c_nx;have f7:=i7.fz)
 have i8:=i7.set_nx 0
 obtain ⟨a2,ha2⟩ : ∃ z : MV,{ a with sp:=a.sp + 1,nx:=0 } = z:=⟨_,rfl⟩
 have e2 : Hid (a2.sp = a.sp + 1 /\ a2.pl = a.pl):=by unfold Hid;rw [<- ha2];exact ⟨rfl,rfl⟩
 have HR : Hid (decide (a2.sp ≥ r) = true):=by unfold Hid;rw [e2.out.1];exact HRr.out
 have i9 : MvAt ((w6.setCell ⟨b,o + 17,none⟩ (.int .i64 (a.sp + 1))).setCell ⟨b,o,none⟩ (.int .i64 0)) b o T ((cs.setIfInBounds (o + 17) (.int .i64 (a.sp + 1))).setIfInBounds o (.int .i64 0)) a2:=by rw [<- ha2];exact i8
 refine wp_over (fun W=>MemAt W L ((s.by who).cas (6 + t + x * 2) a.se (packS 1 B Gs (V + 1))) /\ MvAt W b o T ((cs.setIfInBounds (o + 17) (.int .i64 (a.sp + 1))).setIfInBounds o (.int .i64 0)) a2 /\ BoxV W w.heap.size t n k m g p r L.p who /\ Only (L.and b) w W) ⟨(m6.setIn hb _ _).setIn hb _ _,i9,((v5.only o6 hbv).setIn hbb _ _).setIn hbb _ _,((o5.trans (o6.andL (b:=b))).set _ _).set _ _⟩ ?_
 clear i5 i6 i7 i8 i9 m5 m6 o5 o6 v5 k0 k18 k17 kf k7 f7
 rintro W ⟨m1,i1,v1,o1⟩
 refine wp_region_rely Grown [.val (.pointer (some ⟨b,o,none⟩)),.val (.pointer (some ⟨b,o,none⟩)),.val (.pointer (some ⟨b,o + 17,none⟩)),.val (.int .i64 a2.sp),.val (.pointer (some ⟨w.heap.size,0,none⟩)),.val (.pointer (some ⟨w.heap.size,6,none⟩)),.val (.int .i64 r),.val (.bool true)] (by kernel_rfl) Grown.refl Grown.trans (by kernel_rfl) (by kernel_rfl) (by kernel_rfl) ?_
 simp only [relyAll,Act.put,List.setIfInBounds_toArray,List.set_cons_zero,List.set_cons_succ]
 refine ⟨?_,?_,?_,?_,?_,?_,?_,?_,?_⟩
 · intros;apply ol;go_simp;exact gl
 · intros;apply ol;go_simp;exact gl
 · intros;apply ol;go_simp;exact gl
 · intro w' hg _
   apply ol
   have z0:=(i1.drew.grown hg).c_sp
   go_simp
   exact gl
 · intros;apply ol;go_simp;exact gl
 · intros;apply ol;go_simp;exact gl
 · intro w' hg _
   apply ol
   obtain ⟨y0,y1,y2,y3,y4,y5,y6,y7,y8⟩:=(v1.grown ((Below.refl _ _).drew)).grown hg
   go_simp
   exact gl
 · intro w' hg _
   apply ol
   have z : decide (a2.sp ≥ r) = true:=HR.out
   go_simp
   exact gl
 intro w7 hg _
 have m7:=m1.drew.below hg
 have i7:=i1.drew.grown hg
 have o7 : Only (L.and b) w w7:=o1.drew.trans (Only.ofGrown hg)
 clear hg m1 i1 v1 o1
 go_wp2_with (go_at_call 74;refine (mend_any (κ:=κ) (τ:=τ) (A:=B) (i:=i) (d:=dp) m7 hb i7 3 (by rw [e2.out.2];exact hp) ht).mono ?_;rintro e w8 ⟨rfl,s8,cs8,a8,m8,o8,i8,q8,rfl,rfl⟩)
 go_end0
 exact ⟨rfl,_,_,_,m8,o7.trans o8,i8,((Same.refl.set (by omega) _).set (by omega) _).trans q8,rfl,by rw [<- ha2]⟩
end Go.Proofs.YtkgpffcnimmdkaaGreat
