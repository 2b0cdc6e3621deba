import Derived.Test.YtkgpffcnimmdkaaGreatMovDo
namespace Go.Proofs.YtkgpffcnimmdkaaGreat
open Go.RowKit
set_option maxRecDepth 20000
variable {w : World} {L : Loc} {s : Mm} {b o : Nat} {T : TypeId} {cs : Array Value} {t n k m : Nat} {g p r : Int} {a : MV}
set_option maxHeartbeats 1000000 in
theorem msee_gone (h : MemAt w L s) (hb : ¬ L.has b) (hi : MvAt w b o T cs a) (who : Int) (hG : Good t n k m g p r) {x : Nat} (hx : x < n) (hsl : a.sl = x) (hn : (6 + t + x * 2) < s.n) {v st : Int} {A : Nat} {Gs V : Int} (hv : s.wd (6 + t + x * 2) = v) (hs : SlotIs v st A Gs V) {κ : Nat} {τ : Pl} (hp : τ.cells κ a.pl) {B i : Nat} {d : Bool} (ht : τ.told = (B,i,d)) (hgn : (Gs == a.gn) = false) :
 Calls Tryz.prog 39 #[.pointer (some ⟨b,o,none⟩),.agg #[.int .i64 t,.int .i64 n,.int .i64 k,.int .i64 m,.int .i64 g,.int .i64 p,.int .i64 r,.pointer (some ⟨L.p,0,none⟩),.int .i64 who]] w fun e w'=>e = .returned (.tuple #[]) /\ Mact L b o T cs w w' (fun s' a'=>s' = ((s.by who).step (6 + t + x * 2) (s.wd (6 + t + x * 2))) /\ a' = { a with se:=v,ou:=2,nx:=endNx d }):=by
 have HU : Hid (s.wd (6 + t + x * 2) = v):=hv
 have HX : Hid (a.sl = (x : Int)):=hsl
 have sw:=hs.call
 have HPl : Hid (τ.cells κ a.pl):=hp
 have HTo : Hid (τ.told = (B,i,d)):=ht
 have HGa : Hid ((Gs == a.gn) = false):=hgn
 clear hgn
 clear hv hs hsl hp ht
 have hbv : ¬ L.has w.heap.size:=fun hh=>by have:=h.lt _ hh;omega
 have hbb : ¬ w.heap.size = b:=fun hh=>by have:=hi.lt;omega
 go_enter Tryz.func39,Tryz.ntmps39
 go_wp2
 refine wp_over (fun W=>MemAt W L s /\ MvAt W b o T cs a /\ BoxV W w.heap.size t n k m g p r L.p who /\ Only (L.and b) w W) ⟨h.alloc _,hi.grown (grow1 _ _),BoxV.new,(Only.refl _ _).alloc _⟩ ?_
 rintro W ⟨m1,i1,v1,o1⟩
 refine wp_region_phase (OnlyBut L b (o + 14)) Grown (phMv L b o T cs (cs.setIfInBounds (o + 14) (.int .u64 v)) s ((s.by who).step (6 + t + x * 2) (s.wd (6 + t + x * 2))) a { a with se:=v }) [5,8] [.val (.pointer (some ⟨b,o,none⟩)),.val (.agg #[.int .i64 t,.int .i64 n,.int .i64 k,.int .i64 m,.int .i64 g,.int .i64 p,.int .i64 r,.pointer (some ⟨L.p,0,none⟩),.int .i64 who]),.val (.pointer (some ⟨b,o,none⟩)),.val (.agg #[.int .i64 t,.int .i64 n,.int .i64 k,.int .i64 m,.int .i64 g,.int .i64 p,.int .i64 r,.pointer (some ⟨L.p,0,none⟩),.int .i64 who]),.val (.int .i64 (((6 + t + x * 2) : Nat) : Int)),.val (.int .u64 v),.val (.pointer (some ⟨b,o,none⟩)),.val (.pointer (some ⟨b,o + 14,none⟩)),.that (fun _ _=>True) (fun _ _ _ _ _=>trivial)]
  (by kernel_rfl) OnlyBut.refl OnlyBut.trans OnlyBut.ofGrown phMv_grown ⟨m1.drew,i1.drew⟩ (by kernel_rfl) (by kernel_rfl) (by kernel_rfl) (by kernel_rfl) (by kernel_rfl) ?_
 simp only [phaseAll,Act.put,List.setIfInBounds_toArray,List.set_cons_zero,List.set_cons_succ]
 refine ⟨?_,?_,?_,?_,?_,?_,?_,?_,?_,?_⟩
 · intros;apply ol;go_simp;exact gl
 · intro w' hR _
   apply ol
   obtain ⟨y0,y1,y2,y3,y4,y5,y6,y7,y8⟩:=(v1.grown ((Below.refl _ _).drew)).only hR.only (fun hh=>hh.elim hbv hbb)
   go_simp
   exact gl
 · intros;apply ol;go_simp;exact gl
 · intro w' hR _
   apply ol
   obtain ⟨y0,y1,y2,y3,y4,y5,y6,y7,y8⟩:=(v1.grown ((Below.refl _ _).drew)).only hR.only (fun hh=>hh.elim hbv hbb)
   go_simp
   exact gl
 · intro w' hR _
   apply ol
   go_simp
   refine (mslot_any (hR.keep (j:=o + 4) (by omega) (by have z:=i1.drew.c_sl;rwa [HX.out] at z)) L.p who hG hx).mono ?_
   rintro e w'' ⟨rfl,b9⟩
   exact ⟨_,rfl,b9,rfl⟩
 · intro w' hR _ hP
   apply ol
   go_simp
   refine (eload_in (s:=s) hP.1 _ _ _ _ _ _ _ _ (6 + t + x * 2) hn).mono ?_
   rintro e w'' ⟨rfl,m2,o2⟩
   exact ⟨_,rfl,⟨OnlyBut.ofOnly o2 hb,m2,hP.2.only o2 hb⟩,by simp [Want.pred,HU.out]⟩
 · intros;apply ol;go_simp;exact gl
 · intros;apply ol;go_simp;exact gl
 · intro w' hR _ hP
   apply ol
   have z0:=hP.2.c_se
   have z1:=hP.2.fz
   go_simp
   exact ⟨⟨OnlyBut.set _ _,hP.1.setIn hb _ _,hP.2.set_se _⟩,trivial⟩
 intro vv w2 hR hP _
 obtain ⟨m2,i2⟩ : MemAt w2 L ((s.by who).step (6 + t + x * 2) (s.wd (6 + t + x * 2))) /\ MvAt w2 b o T (cs.setIfInBounds (o + 14) (.int .u64 v)) { a with se:=v }:=hP
 have o2 : Only (L.and b) w w2:=o1.drew.trans hR.only
 have v2:=(v1.grown ((Below.refl _ _).drew)).only hR.only (fun hh=>hh.elim hbv hbb)
 have k2 : w2.cell? ⟨b,o + 14,none⟩ = some (.int .u64 v):=i2.c_se
 clear hR o1 v1 m1 i1
 go_wp2_with (go_at_call 34;refine (sw _).mono ?_;rintro e w3 ⟨rfl,b3⟩)
 have q0:=At.new w3 42 [.int .i64 st,.int .i64 A,.int .i64 Gs,.int .i64 V]
 obtain ⟨S,hS⟩ : ∃ S,w3.heap.size = S:=⟨_,rfl⟩
 have bS : S ≠ b:=by have:=i2.lt;have:=b3.size;omega
 rw [hS] at q0 ⊢
 obtain ⟨cs1,hcs1⟩ : ∃ c,cs.setIfInBounds (o + 14) (.int .u64 v) = c:=⟨_,rfl⟩
 have s1 : Same o 19 cs cs1:=by rw [<- hcs1];exact Same.refl.set (by omega) _
 obtain ⟨a1,ha1⟩ : ∃ x : MV,{ a with se:=v } = x:=⟨_,rfl⟩
 have e1 : Hid (a1.gn = a.gn /\ a1.ad = a.ad /\ a1.sz = a.sz /\ a1.pl = a.pl):=by unfold Hid;rw [<- ha1];exact ⟨rfl,rfl,rfl,rfl⟩
 have HGn : Hid ((Gs == a1.gn) = false):=by unfold Hid;rw [e1.out.1];exact HGa.out
 rw [hcs1,ha1] at i2
 refine wp_over (fun W=>MemAt W L ((s.by who).step (6 + t + x * 2) (s.wd (6 + t + x * 2))) /\ MvAt W b o T cs1 a1 /\ BoxV W w.heap.size t n k m g p r L.p who /\ At W S 0 42 _ [.int .i64 st,.int .i64 A,.int .i64 Gs,.int .i64 V] /\ Only (L.and b) w W) ⟨(m2.below b3).alloc _,(i2.grown b3).grown (grow1 _ _),(v2.grown b3).grown (grow1 _ _),q0,(o2.trans (Only.ofGrown b3)).alloc _⟩ ?_
 clear b3 sw q0 hS m2 i2 v2 o2 k2
 rintro W ⟨m1,i1,v1,q1,o1⟩
 refine wp_region_rely Grown [.val (.pointer (some ⟨S,2,none⟩)),.val (.int .i64 Gs),.val (.pointer (some ⟨b,o,none⟩)),.val (.pointer (some ⟨b,o,none⟩)),.val (.pointer (some ⟨b,o + 2,none⟩)),.val (.pointer (some ⟨b,o + 5,none⟩)),.val (.int .i64 a1.gn),.val (.bool false),.val (.bool false),.val undef,.val undef,.val undef,.val undef,.val undef,.val undef,.val undef,.val (.bool false),.val (.bool false)] (by kernel_rfl) Grown.refl Grown.trans (by kernel_rfl) (by kernel_rfl) (by kernel_rfl) ?_
 simp only [relyAll,Act.put,List.setIfInBounds_toArray,List.set_cons_zero,List.set_cons_succ]
 refine ⟨?_,?_,?_,?_,?_,?_,?_,?_,?_,?_,?_,?_,?_,?_,?_,?_,?_,?_,?_⟩
 · intros;apply ol;go_simp;exact gl
 · intro w' hg _
   apply ol
   have z0:=(q1.drew.grown hg).at0 2 rfl
   go_simp
   exact gl
 · intros;apply ol;go_simp;exact gl
 · intros;apply ol;go_simp;exact gl
 · intros;apply ol;go_simp;exact gl
 · intros;apply ol;go_simp;exact gl
 · intro w' hg _
   apply ol
   have z0:=(i1.drew.grown hg).c_gn
   go_simp
   exact gl
 · intro w' hg _
   apply ol
   have z : (Gs == a1.gn) = false:=HGn.out
   go_simp
   exact gl
 · intros;apply ol;go_simp;exact gl
 · intros;exact ur
 · intros;exact ur
 · intros;exact ur
 · intros;exact ur
 · intros;exact ur
 · intros;exact ur
 · intros;exact ur
 · intros;apply ol;go_simp;exact gl
 · intros;apply ol;go_simp;exact gl
 intro w5 hg _
 have m5:=m1.drew.below hg
 have i5:=i1.drew.grown hg
 have v5:=(v1.grown ((Below.refl _ _).drew)).grown hg
 have q5:=q1.drew.grown hg
 have o5 : Only (L.and b) w w5:=o1.drew.trans (Only.ofGrown hg)
 clear hg m1 i1 v1 q1 o1
 have z0:=q5.at0 0 rfl
 have z3:=q5.at0 3 rfl
 have k0:=i5.c_nx
 have kf:=i5.fz
 obtain ⟨y0,y1,y2,y3,y4,y5,y6,y7,y8⟩:=id v5
 go_wp2_with (first
  | (go_at_call 74;refine (mend_any (κ:=κ) (τ:=τ) (A:=B) (i:=i) (d:=d) m5 hb i5 2 (by rw [e1.out.2.2.2];exact HPl.out) HTo.out).mono ?_;rintro e w8 ⟨rfl,s8,cs8,a8,m8,o8,i8,q8,rfl,rfl⟩))
 go_end0
 exact ⟨rfl,_,_,_,m8,o5.trans o8,i8,s1.trans q8,rfl,by rw [<- ha1]⟩
set_option maxHeartbeats 1000000 in
theorem msee_else (h : MemAt w L s) (hb : ¬ L.has b) (hi : MvAt w b o T cs a) (who : Int) (hG : Good t n k m g p r) {x : Nat} (hx : x < n) (hsl : a.sl = x) (hn : (6 + t + x * 2) < s.n) {v st : Int} {A : Nat} {Gs V : Int} (hv : s.wd (6 + t + x * 2) = v) (hs : SlotIs v st A Gs V) {κ : Nat} {τ : Pl} (hp : τ.cells κ a.pl) {B i : Nat} {d : Bool} (ht : τ.told = (B,i,d)) (hgn : (Gs == a.gn) = true) (had : ((A : Int) == a.ad) = false) :
 Calls Tryz.prog 39 #[.pointer (some ⟨b,o,none⟩),.agg #[.int .i64 t,.int .i64 n,.int .i64 k,.int .i64 m,.int .i64 g,.int .i64 p,.int .i64 r,.pointer (some ⟨L.p,0,none⟩),.int .i64 who]] w fun e w'=>e = .returned (.tuple #[]) /\ Mact L b o T cs w w' (fun s' a'=>s' = ((s.by who).step (6 + t + x * 2) (s.wd (6 + t + x * 2))) /\ a' = { a with se:=v,ou:=2,nx:=endNx d }):=by
 have HU : Hid (s.wd (6 + t + x * 2) = v):=hv
 have HX : Hid (a.sl = (x : Int)):=hsl
 have sw:=hs.call
 have HPl : Hid (τ.cells κ a.pl):=hp
 have HTo : Hid (τ.told = (B,i,d)):=ht
 have HGa : Hid ((Gs == a.gn) = true):=hgn
 clear hgn
 have HAa : Hid (((A : Int) == a.ad) = false):=had
 clear had
 clear hv hs hsl hp ht
 have hbv : ¬ L.has w.heap.size:=fun hh=>by have:=h.lt _ hh;omega
 have hbb : ¬ w.heap.size = b:=fun hh=>by have:=hi.lt;omega
 go_enter Tryz.func39,Tryz.ntmps39
 go_wp2
 refine wp_over (fun W=>MemAt W L s /\ MvAt W b o T cs a /\ BoxV W w.heap.size t n k m g p r L.p who /\ Only (L.and b) w W) ⟨h.alloc _,hi.grown (grow1 _ _),BoxV.new,(Only.refl _ _).alloc _⟩ ?_
 rintro W ⟨m1,i1,v1,o1⟩
 refine wp_region_phase (OnlyBut L b (o + 14)) Grown (phMv L b o T cs (cs.setIfInBounds (o + 14) (.int .u64 v)) s ((s.by who).step (6 + t + x * 2) (s.wd (6 + t + x * 2))) a { a with se:=v }) [5,8] [.val (.pointer (some ⟨b,o,none⟩)),.val (.agg #[.int .i64 t,.int .i64 n,.int .i64 k,.int .i64 m,.int .i64 g,.int .i64 p,.int .i64 r,.pointer (some ⟨L.p,0,none⟩),.int .i64 who]),.val (.pointer (some ⟨b,o,none⟩)),.val (.agg #[.int .i64 t,.int .i64 n,.int .i64 k,.int .i64 m,.int .i64 g,.int .i64 p,.int .i64 r,.pointer (some ⟨L.p,0,none⟩),.int .i64 who]),.val (.int .i64 (((6 + t + x * 2) : Nat) : Int)),.val (.int .u64 v),.val (.pointer (some ⟨b,o,none⟩)),.val (.pointer (some ⟨b,o + 14,none⟩)),.that (fun _ _=>True) (fun _ _ _ _ _=>trivial)]
  (by kernel_rfl) OnlyBut.refl OnlyBut.trans OnlyBut.ofGrown phMv_grown ⟨m1.drew,i1.drew⟩ (by kernel_rfl) (by kernel_rfl) (by kernel_rfl) (by kernel_rfl) (by kernel_rfl) ?_
 simp only [phaseAll,Act.put,List.setIfInBounds_toArray,List.set_cons_zero,List.set_cons_succ]
 refine ⟨?_,?_,?_,?_,?_,?_,?_,?_,?_,?_⟩
 · intros;apply ol;go_simp;exact gl
 · intro w' hR _
   apply ol
   obtain ⟨y0,y1,y2,y3,y4,y5,y6,y7,y8⟩:=(v1.grown ((Below.refl _ _).drew)).only hR.only (fun hh=>hh.elim hbv hbb)
   go_simp
   exact gl
 · intros;apply ol;go_simp;exact gl
 · intro w' hR _
   apply ol
   obtain ⟨y0,y1,y2,y3,y4,y5,y6,y7,y8⟩:=(v1.grown ((Below.refl _ _).drew)).only hR.only (fun hh=>hh.elim hbv hbb)
   go_simp
   exact gl
 · intro w' hR _
   apply ol
   go_simp
   refine (mslot_any (hR.keep (j:=o + 4) (by omega) (by have z:=i1.drew.c_sl;rwa [HX.out] at z)) L.p who hG hx).mono ?_
   rintro e w'' ⟨rfl,b9⟩
   exact ⟨_,rfl,b9,rfl⟩
 · intro w' hR _ hP
   apply ol
   go_simp
   refine (eload_in (s:=s) hP.1 _ _ _ _ _ _ _ _ (6 + t + x * 2) hn).mono ?_
   rintro e w'' ⟨rfl,m2,o2⟩
   exact ⟨_,rfl,⟨OnlyBut.ofOnly o2 hb,m2,hP.2.only o2 hb⟩,by simp [Want.pred,HU.out]⟩
 · intros;apply ol;go_simp;exact gl
 · intros;apply ol;go_simp;exact gl
 · intro w' hR _ hP
   apply ol
   have z0:=hP.2.c_se
   have z1:=hP.2.fz
   go_simp
   exact ⟨⟨OnlyBut.set _ _,hP.1.setIn hb _ _,hP.2.set_se _⟩,trivial⟩
 intro vv w2 hR hP _
 obtain ⟨m2,i2⟩ : MemAt w2 L ((s.by who).step (6 + t + x * 2) (s.wd (6 + t + x * 2))) /\ MvAt w2 b o T (cs.setIfInBounds (o + 14) (.int .u64 v)) { a with se:=v }:=hP
 have o2 : Only (L.and b) w w2:=o1.drew.trans hR.only
 have v2:=(v1.grown ((Below.refl _ _).drew)).only hR.only (fun hh=>hh.elim hbv hbb)
 have k2 : w2.cell? ⟨b,o + 14,none⟩ = some (.int .u64 v):=i2.c_se
 clear hR o1 v1 m1 i1
 go_wp2_with (go_at_call 34;refine (sw _).mono ?_;rintro e w3 ⟨rfl,b3⟩)
 have q0:=At.new w3 42 [.int .i64 st,.int .i64 A,.int .i64 Gs,.int .i64 V]
 obtain ⟨S,hS⟩ : ∃ S,w3.heap.size = S:=⟨_,rfl⟩
 have bS : S ≠ b:=by have:=i2.lt;have:=b3.size;omega
 rw [hS] at q0 ⊢
 obtain ⟨cs1,hcs1⟩ : ∃ c,cs.setIfInBounds (o + 14) (.int .u64 v) = c:=⟨_,rfl⟩
 have s1 : Same o 19 cs cs1:=by rw [<- hcs1];exact Same.refl.set (by omega) _
 obtain ⟨a1,ha1⟩ : ∃ x : MV,{ a with se:=v } = x:=⟨_,rfl⟩
 have e1 : Hid (a1.gn = a.gn /\ a1.ad = a.ad /\ a1.sz = a.sz /\ a1.pl = a.pl):=by unfold Hid;rw [<- ha1];exact ⟨rfl,rfl,rfl,rfl⟩
 have HGn : Hid ((Gs == a1.gn) = true):=by unfold Hid;rw [e1.out.1];exact HGa.out
 have HAd : Hid (((A : Int) == a1.ad) = false):=by unfold Hid;rw [e1.out.2.1];exact HAa.out
 rw [hcs1,ha1] at i2
 refine wp_over (fun W=>MemAt W L ((s.by who).step (6 + t + x * 2) (s.wd (6 + t + x * 2))) /\ MvAt W b o T cs1 a1 /\ BoxV W w.heap.size t n k m g p r L.p who /\ At W S 0 42 _ [.int .i64 st,.int .i64 A,.int .i64 Gs,.int .i64 V] /\ Only (L.and b) w W) ⟨(m2.below b3).alloc _,(i2.grown b3).grown (grow1 _ _),(v2.grown b3).grown (grow1 _ _),q0,(o2.trans (Only.ofGrown b3)).alloc _⟩ ?_
 clear b3 sw q0 hS m2 i2 v2 o2 k2
 rintro W ⟨m1,i1,v1,q1,o1⟩
 refine wp_region_rely Grown [.val (.pointer (some ⟨S,2,none⟩)),.val (.int .i64 Gs),.val (.pointer (some ⟨b,o,none⟩)),.val (.pointer (some ⟨b,o,none⟩)),.val (.pointer (some ⟨b,o + 2,none⟩)),.val (.pointer (some ⟨b,o + 5,none⟩)),.val (.int .i64 a1.gn),.val (.bool true),.val (.bool true),.val (.pointer (some ⟨S,1,none⟩)),.val (.int .i64 A),.val (.pointer (some ⟨b,o,none⟩)),.val (.pointer (some ⟨b,o,none⟩)),.val (.pointer (some ⟨b,o + 1,none⟩)),.val (.int .i64 a1.ad),.val (.bool false),.val (.bool false),.val (.bool false)] (by kernel_rfl) Grown.refl Grown.trans (by kernel_rfl) (by kernel_rfl) (by kernel_rfl) ?_
 simp only [relyAll,Act.put,List.setIfInBounds_toArray,List.set_cons_zero,List.set_cons_succ]
 refine ⟨?_,?_,?_,?_,?_,?_,?_,?_,?_,?_,?_,?_,?_,?_,?_,?_,?_,?_,?_⟩
 · intros;apply ol;go_simp;exact gl
 · intro w' hg _
   apply ol
   have z0:=(q1.drew.grown hg).at0 2 rfl
   go_simp
   exact gl
 · intros;apply ol;go_simp;exact gl
 · intros;apply ol;go_simp;exact gl
 · intros;apply ol;go_simp;exact gl
 · intros;apply ol;go_simp;exact gl
 · intro w' hg _
   apply ol
   have z0:=(i1.drew.grown hg).c_gn
   go_simp
   exact gl
 · intro w' hg _
   apply ol
   have z : (Gs == a1.gn) = true:=HGn.out
   go_simp
   exact gl
 · intros;apply ol;go_simp;exact gl
 · intros;apply ol;go_simp;exact gl
 · intro w' hg _
   apply ol
   have z0:=(q1.drew.grown hg).at0 1 rfl
   go_simp
   exact gl
 · intros;apply ol;go_simp;exact gl
 · intros;apply ol;go_simp;exact gl
 · intros;apply ol;go_simp;exact gl
 · intro w' hg _
   apply ol
   have z0:=(i1.drew.grown hg).c_ad
   go_simp
   exact gl
 · intro w' hg _
   apply ol
   have z : ((A : Int) == a1.ad) = false:=HAd.out
   go_simp
   exact gl
 · intros;apply ol;go_simp;exact gl
 · intros;apply ol;go_simp;exact gl
 intro w5 hg _
 have m5:=m1.drew.below hg
 have i5:=i1.drew.grown hg
 have v5:=(v1.grown ((Below.refl _ _).drew)).grown hg
 have q5:=q1.drew.grown hg
 have o5 : Only (L.and b) w w5:=o1.drew.trans (Only.ofGrown hg)
 clear hg m1 i1 v1 q1 o1
 have z0:=q5.at0 0 rfl
 have z3:=q5.at0 3 rfl
 have k0:=i5.c_nx
 have kf:=i5.fz
 obtain ⟨y0,y1,y2,y3,y4,y5,y6,y7,y8⟩:=id v5
 go_wp2_with (first
  | (go_at_call 74;refine (mend_any (κ:=κ) (τ:=τ) (A:=B) (i:=i) (d:=d) m5 hb i5 2 (by rw [e1.out.2.2.2];exact HPl.out) HTo.out).mono ?_;rintro e w8 ⟨rfl,s8,cs8,a8,m8,o8,i8,q8,rfl,rfl⟩))
 go_end0
 exact ⟨rfl,_,_,_,m8,o5.trans o8,i8,s1.trans q8,rfl,by rw [<- ha1]⟩
set_option maxHeartbeats 1000000 in
theorem msee_drop (h : MemAt w L s) (hb : ¬ L.has b) (hi : MvAt w b o T cs a) (who : Int) (hG : Good t n k m g p r) {x : Nat} (hx : x < n) (hsl : a.sl = x) (hn : (6 + t + x * 2) < s.n) {v st : Int} {A : Nat} {Gs V : Int} (hv : s.wd (6 + t + x * 2) = v) (hs : SlotIs v st A Gs V) {κ : Nat} {τ : Pl} (hp : τ.cells κ a.pl) {B i : Nat} {d : Bool} (ht : τ.told = (B,i,d)) (hgn : (Gs == a.gn) = true) (had : ((A : Int) == a.ad) = true) (h4 : (st == 4) = true) :
 Calls Tryz.prog 39 #[.pointer (some ⟨b,o,none⟩),.agg #[.int .i64 t,.int .i64 n,.int .i64 k,.int .i64 m,.int .i64 g,.int .i64 p,.int .i64 r,.pointer (some ⟨L.p,0,none⟩),.int .i64 who]] w fun e w'=>e = .returned (.tuple #[]) /\ Mact L b o T cs w w' (fun s' a'=>s' = ((s.by who).step (6 + t + x * 2) (s.wd (6 + t + x * 2))) /\ a' = { a with se:=v,ou:=3,nx:=endNx d }):=by
 have HU : Hid (s.wd (6 + t + x * 2) = v):=hv
 have HX : Hid (a.sl = (x : Int)):=hsl
 have sw:=hs.call
 have HPl : Hid (τ.cells κ a.pl):=hp
 have HTo : Hid (τ.told = (B,i,d)):=ht
 have HGa : Hid ((Gs == a.gn) = true):=hgn
 clear hgn
 have HAa : Hid (((A : Int) == a.ad) = true):=had
 clear had
 clear hv hs hsl hp ht
 have hbv : ¬ L.has w.heap.size:=fun hh=>by have:=h.lt _ hh;omega
 have hbb : ¬ w.heap.size = b:=fun hh=>by have:=hi.lt;omega
 go_enter Tryz.func39,Tryz.ntmps39
 go_wp2
 refine wp_over (fun W=>MemAt W L s /\ MvAt W b o T cs a /\ BoxV W w.heap.size t n k m g p r L.p who /\ Only (L.and b) w W) ⟨h.alloc _,hi.grown (grow1 _ _),BoxV.new,(Only.refl _ _).alloc _⟩ ?_
 rintro W ⟨m1,i1,v1,o1⟩
 refine wp_region_phase (OnlyBut L b (o + 14)) Grown (phMv L b o T cs (cs.setIfInBounds (o + 14) (.int .u64 v)) s ((s.by who).step (6 + t + x * 2) (s.wd (6 + t + x * 2))) a { a with se:=v }) [5,8] [.val (.pointer (some ⟨b,o,none⟩)),.val (.agg #[.int .i64 t,.int .i64 n,.int .i64 k,.int .i64 m,.int .i64 g,.int .i64 p,.int .i64 r,.pointer (some ⟨L.p,0,none⟩),.int .i64 who]),.val (.pointer (some ⟨b,o,none⟩)),.val (.agg #[.int .i64 t,.int .i64 n,.int .i64 k,.int .i64 m,.int .i64 g,.int .i64 p,.int .i64 r,.pointer (some ⟨L.p,0,none⟩),.int .i64 who]),.val (.int .i64 (((6 + t + x * 2) : Nat) : Int)),.val (.int .u64 v),.val (.pointer (some ⟨b,o,none⟩)),.val (.pointer (some ⟨b,o + 14,none⟩)),.that (fun _ _=>True) (fun _ _ _ _ _=>trivial)]
  (by kernel_rfl) OnlyBut.refl OnlyBut.trans OnlyBut.ofGrown phMv_grown ⟨m1.drew,i1.drew⟩ (by kernel_rfl) (by kernel_rfl) (by kernel_rfl) (by kernel_rfl) (by kernel_rfl) ?_
 simp only [phaseAll,Act.put,List.setIfInBounds_toArray,List.set_cons_zero,List.set_cons_succ]
 refine ⟨?_,?_,?_,?_,?_,?_,?_,?_,?_,?_⟩
 · intros;apply ol;go_simp;exact gl
 · intro w' hR _
   apply ol
   obtain ⟨y0,y1,y2,y3,y4,y5,y6,y7,y8⟩:=(v1.grown ((Below.refl _ _).drew)).only hR.only (fun hh=>hh.elim hbv hbb)
   go_simp
   exact gl
 · intros;apply ol;go_simp;exact gl
 · intro w' hR _
   apply ol
   obtain ⟨y0,y1,y2,y3,y4,y5,y6,y7,y8⟩:=(v1.grown ((Below.refl _ _).drew)).only hR.only (fun hh=>hh.elim hbv hbb)
   go_simp
   exact gl
 · intro w' hR _
   apply ol
   go_simp
   refine (mslot_any (hR.keep (j:=o + 4) (by omega) (by have z:=i1.drew.c_sl;rwa [HX.out] at z)) L.p who hG hx).mono ?_
   rintro e w'' ⟨rfl,b9⟩
   exact ⟨_,rfl,b9,rfl⟩
 · intro w' hR _ hP
   apply ol
   go_simp
   refine (eload_in (s:=s) hP.1 _ _ _ _ _ _ _ _ (6 + t + x * 2) hn).mono ?_
   rintro e w'' ⟨rfl,m2,o2⟩
   exact ⟨_,rfl,⟨OnlyBut.ofOnly o2 hb,m2,hP.2.only o2 hb⟩,by simp [Want.pred,HU.out]⟩
 · intros;apply ol;go_simp;exact gl
 · intros;apply ol;go_simp;exact gl
 · intro w' hR _ hP
   apply ol
   have z0:=hP.2.c_se
   have z1:=hP.2.fz
   go_simp
   exact ⟨⟨OnlyBut.set _ _,hP.1.setIn hb _ _,hP.2.set_se _⟩,trivial⟩
 intro vv w2 hR hP _
 obtain ⟨m2,i2⟩ : MemAt w2 L ((s.by who).step (6 + t + x * 2) (s.wd (6 + t + x * 2))) /\ MvAt w2 b o T (cs.setIfInBounds (o + 14) (.int .u64 v)) { a with se:=v }:=hP
 have o2 : Only (L.and b) w w2:=o1.drew.trans hR.only
 have v2:=(v1.grown ((Below.refl _ _).drew)).only hR.only (fun hh=>hh.elim hbv hbb)
 have k2 : w2.cell? ⟨b,o + 14,none⟩ = some (.int .u64 v):=i2.c_se
 clear hR o1 v1 m1 i1
 go_wp2_with (go_at_call 34;refine (sw _).mono ?_;rintro e w3 ⟨rfl,b3⟩)
 have q0:=At.new w3 42 [.int .i64 st,.int .i64 A,.int .i64 Gs,.int .i64 V]
 obtain ⟨S,hS⟩ : ∃ S,w3.heap.size = S:=⟨_,rfl⟩
 have bS : S ≠ b:=by have:=i2.lt;have:=b3.size;omega
 rw [hS] at q0 ⊢
 obtain ⟨cs1,hcs1⟩ : ∃ c,cs.setIfInBounds (o + 14) (.int .u64 v) = c:=⟨_,rfl⟩
 have s1 : Same o 19 cs cs1:=by rw [<- hcs1];exact Same.refl.set (by omega) _
 obtain ⟨a1,ha1⟩ : ∃ x : MV,{ a with se:=v } = x:=⟨_,rfl⟩
 have e1 : Hid (a1.gn = a.gn /\ a1.ad = a.ad /\ a1.sz = a.sz /\ a1.pl = a.pl):=by unfold Hid;rw [<- ha1];exact ⟨rfl,rfl,rfl,rfl⟩
 have HGn : Hid ((Gs == a1.gn) = true):=by unfold Hid;rw [e1.out.1];exact HGa.out
 have HAd : Hid (((A : Int) == a1.ad) = true):=by unfold Hid;rw [e1.out.2.1];exact HAa.out
 rw [hcs1,ha1] at i2
 refine wp_over (fun W=>MemAt W L ((s.by who).step (6 + t + x * 2) (s.wd (6 + t + x * 2))) /\ MvAt W b o T cs1 a1 /\ BoxV W w.heap.size t n k m g p r L.p who /\ At W S 0 42 _ [.int .i64 st,.int .i64 A,.int .i64 Gs,.int .i64 V] /\ Only (L.and b) w W) ⟨(m2.below b3).alloc _,(i2.grown b3).grown (grow1 _ _),(v2.grown b3).grown (grow1 _ _),q0,(o2.trans (Only.ofGrown b3)).alloc _⟩ ?_
 clear b3 sw q0 hS m2 i2 v2 o2 k2
 rintro W ⟨m1,i1,v1,q1,o1⟩
 refine wp_region_rely Grown [.val (.pointer (some ⟨S,2,none⟩)),.val (.int .i64 Gs),.val (.pointer (some ⟨b,o,none⟩)),.val (.pointer (some ⟨b,o,none⟩)),.val (.pointer (some ⟨b,o + 2,none⟩)),.val (.pointer (some ⟨b,o + 5,none⟩)),.val (.int .i64 a1.gn),.val (.bool true),.val (.bool true),.val (.pointer (some ⟨S,1,none⟩)),.val (.int .i64 A),.val (.pointer (some ⟨b,o,none⟩)),.val (.pointer (some ⟨b,o,none⟩)),.val (.pointer (some ⟨b,o + 1,none⟩)),.val (.int .i64 a1.ad),.val (.bool true),.val (.bool true),.val (.bool true)] (by kernel_rfl) Grown.refl Grown.trans (by kernel_rfl) (by kernel_rfl) (by kernel_rfl) ?_
 simp only [relyAll,Act.put,List.setIfInBounds_toArray,List.set_cons_zero,List.set_cons_succ]
 refine ⟨?_,?_,?_,?_,?_,?_,?_,?_,?_,?_,?_,?_,?_,?_,?_,?_,?_,?_,?_⟩
 · intros;apply ol;go_simp;exact gl
 · intro w' hg _
   apply ol
   have z0:=(q1.drew.grown hg).at0 2 rfl
   go_simp
   exact gl
 · intros;apply ol;go_simp;exact gl
 · intros;apply ol;go_simp;exact gl
 · intros;apply ol;go_simp;exact gl
 · intros;apply ol;go_simp;exact gl
 · intro w' hg _
   apply ol
   have z0:=(i1.drew.grown hg).c_gn
   go_simp
   exact gl
 · intro w' hg _
   apply ol
   have z : (Gs == a1.gn) = true:=HGn.out
   go_simp
   exact gl
 · intros;apply ol;go_simp;exact gl
 · intros;apply ol;go_simp;exact gl
 · intro w' hg _
   apply ol
   have z0:=(q1.drew.grown hg).at0 1 rfl
   go_simp
   exact gl
 · intros;apply ol;go_simp;exact gl
 · intros;apply ol;go_simp;exact gl
 · intros;apply ol;go_simp;exact gl
 · intro w' hg _
   apply ol
   have z0:=(i1.drew.grown hg).c_ad
   go_simp
   exact gl
 · intro w' hg _
   apply ol
   have z : ((A : Int) == a1.ad) = true:=HAd.out
   go_simp
   exact gl
 · intros;apply ol;go_simp;exact gl
 · intros;apply ol;go_simp;exact gl
 intro w5 hg _
 have m5:=m1.drew.below hg
 have i5:=i1.drew.grown hg
 have v5:=(v1.grown ((Below.refl _ _).drew)).grown hg
 have q5:=q1.drew.grown hg
 have o5 : Only (L.and b) w w5:=o1.drew.trans (Only.ofGrown hg)
 clear hg m1 i1 v1 q1 o1
 have z0:=q5.at0 0 rfl
 have z3:=q5.at0 3 rfl
 have k0:=i5.c_nx
 have kf:=i5.fz
 obtain ⟨y0,y1,y2,y3,y4,y5,y6,y7,y8⟩:=id v5
 go_wp2_with (first
  | (go_at_call 74;refine (mend_any (κ:=κ) (τ:=τ) (A:=B) (i:=i) (d:=d) m5 hb i5 3 (by rw [e1.out.2.2.2];exact HPl.out) HTo.out).mono ?_;rintro e w8 ⟨rfl,s8,cs8,a8,m8,o8,i8,q8,rfl,rfl⟩))
 go_end0
 exact ⟨rfl,_,_,_,m8,o5.trans o8,i8,s1.trans q8,rfl,by rw [<- ha1]⟩
set_option maxHeartbeats 1000000 in
theorem msee_dead (h : MemAt w L s) (hb : ¬ L.has b) (hi : MvAt w b o T cs a) (who : Int) (hG : Good t n k m g p r) {x : Nat} (hx : x < n) (hsl : a.sl = x) (hn : (6 + t + x * 2) < s.n) {v st : Int} {A : Nat} {Gs V : Int} (hv : s.wd (6 + t + x * 2) = v) (hs : SlotIs v st A Gs V) {κ : Nat} {τ : Pl} (hp : τ.cells κ a.pl) {B i : Nat} {d : Bool} (ht : τ.told = (B,i,d)) (hgn : (Gs == a.gn) = true) (had : ((A : Int) == a.ad) = true) (h4 : (st == 4) = false) (h1 : (st != 1) = true) :
 Calls Tryz.prog 39 #[.pointer (some ⟨b,o,none⟩),.agg #[.int .i64 t,.int .i64 n,.int .i64 k,.int .i64 m,.int .i64 g,.int .i64 p,.int .i64 r,.pointer (some ⟨L.p,0,none⟩),.int .i64 who]] w fun e w'=>e = .returned (.tuple #[]) /\ Mact L b o T cs w w' (fun s' a'=>s' = ((s.by who).step (6 + t + x * 2) (s.wd (6 + t + x * 2))) /\ a' = { a with se:=v,ou:=2,nx:=endNx d }):=by
 have HU : Hid (s.wd (6 + t + x * 2) = v):=hv
 have HX : Hid (a.sl = (x : Int)):=hsl
 have sw:=hs.call
 have HPl : Hid (τ.cells κ a.pl):=hp
 have HTo : Hid (τ.told = (B,i,d)):=ht
 have HGa : Hid ((Gs == a.gn) = true):=hgn
 clear hgn
 have HAa : Hid (((A : Int) == a.ad) = true):=had
 clear had
 clear hv hs hsl hp ht
 have hbv : ¬ L.has w.heap.size:=fun hh=>by have:=h.lt _ hh;omega
 have hbb : ¬ w.heap.size = b:=fun hh=>by have:=hi.lt;omega
 go_enter Tryz.func39,Tryz.ntmps39
 go_wp2
 refine wp_over (fun W=>MemAt W L s /\ MvAt W b o T cs a /\ BoxV W w.heap.size t n k m g p r L.p who /\ Only (L.and b) w W) ⟨h.alloc _,hi.grown (grow1 _ _),BoxV.new,(Only.refl _ _).alloc _⟩ ?_
 rintro W ⟨m1,i1,v1,o1⟩
 refine wp_region_phase (OnlyBut L b (o + 14)) Grown (phMv L b o T cs (cs.setIfInBounds (o + 14) (.int .u64 v)) s ((s.by who).step (6 + t + x * 2) (s.wd (6 + t + x * 2))) a { a with se:=v }) [5,8] [.val (.pointer (some ⟨b,o,none⟩)),.val (.agg #[.int .i64 t,.int .i64 n,.int .i64 k,.int .i64 m,.int .i64 g,.int .i64 p,.int .i64 r,.pointer (some ⟨L.p,0,none⟩),.int .i64 who]),.val (.pointer (some ⟨b,o,none⟩)),.val (.agg #[.int .i64 t,.int .i64 n,.int .i64 k,.int .i64 m,.int .i64 g,.int .i64 p,.int .i64 r,.pointer (some ⟨L.p,0,none⟩),.int .i64 who]),.val (.int .i64 (((6 + t + x * 2) : Nat) : Int)),.val (.int .u64 v),.val (.pointer (some ⟨b,o,none⟩)),.val (.pointer (some ⟨b,o + 14,none⟩)),.that (fun _ _=>True) (fun _ _ _ _ _=>trivial)]
  (by kernel_rfl) OnlyBut.refl OnlyBut.trans OnlyBut.ofGrown phMv_grown ⟨m1.drew,i1.drew⟩ (by kernel_rfl) (by kernel_rfl) (by kernel_rfl) (by kernel_rfl) (by kernel_rfl) ?_
 simp only [phaseAll,Act.put,List.setIfInBounds_toArray,List.set_cons_zero,List.set_cons_succ]
 refine ⟨?_,?_,?_,?_,?_,?_,?_,?_,?_,?_⟩
 · intros;apply ol;go_simp;exact gl
 · intro w' hR _
   apply ol
   obtain ⟨y0,y1,y2,y3,y4,y5,y6,y7,y8⟩:=(v1.grown ((Below.refl _ _).drew)).only hR.only (fun hh=>hh.elim hbv hbb)
   go_simp
   exact gl
 · intros;apply ol;go_simp;exact gl
 · intro w' hR _
   apply ol
   obtain ⟨y0,y1,y2,y3,y4,y5,y6,y7,y8⟩:=(v1.grown ((Below.refl _ _).drew)).only hR.only (fun hh=>hh.elim hbv hbb)
   go_simp
   exact gl
 · intro w' hR _
   apply ol
   go_simp
   refine (mslot_any (hR.keep (j:=o + 4) (by omega) (by have z:=i1.drew.c_sl;rwa [HX.out] at z)) L.p who hG hx).mono ?_
   rintro e w'' ⟨rfl,b9⟩
   exact ⟨_,rfl,b9,rfl⟩
 · intro w' hR _ hP
   apply ol
   go_simp
   refine (eload_in (s:=s) hP.1 _ _ _ _ _ _ _ _ (6 + t + x * 2) hn).mono ?_
   rintro e w'' ⟨rfl,m2,o2⟩
   exact ⟨_,rfl,⟨OnlyBut.ofOnly o2 hb,m2,hP.2.only o2 hb⟩,by simp [Want.pred,HU.out]⟩
 · intros;apply ol;go_simp;exact gl
 · intros;apply ol;go_simp;exact gl
 · intro w' hR _ hP
   apply ol
   have z0:=hP.2.c_se
   have z1:=hP.2.fz
   go_simp
   exact ⟨⟨OnlyBut.set _ _,hP.1.setIn hb _ _,hP.2.set_se _⟩,trivial⟩
 intro vv w2 hR hP _
 obtain ⟨m2,i2⟩ : MemAt w2 L ((s.by who).step (6 + t + x * 2) (s.wd (6 + t + x * 2))) /\ MvAt w2 b o T (cs.setIfInBounds (o + 14) (.int .u64 v)) { a with se:=v }:=hP
 have o2 : Only (L.and b) w w2:=o1.drew.trans hR.only
 have v2:=(v1.grown ((Below.refl _ _).drew)).only hR.only (fun hh=>hh.elim hbv hbb)
 have k2 : w2.cell? ⟨b,o + 14,none⟩ = some (.int .u64 v):=i2.c_se
 clear hR o1 v1 m1 i1
 go_wp2_with (go_at_call 34;refine (sw _).mono ?_;rintro e w3 ⟨rfl,b3⟩)
 have q0:=At.new w3 42 [.int .i64 st,.int .i64 A,.int .i64 Gs,.int .i64 V]
 obtain ⟨S,hS⟩ : ∃ S,w3.heap.size = S:=⟨_,rfl⟩
 have bS : S ≠ b:=by have:=i2.lt;have:=b3.size;omega
 rw [hS] at q0 ⊢
 obtain ⟨cs1,hcs1⟩ : ∃ c,cs.setIfInBounds (o + 14) (.int .u64 v) = c:=⟨_,rfl⟩
 have s1 : Same o 19 cs cs1:=by rw [<- hcs1];exact Same.refl.set (by omega) _
 obtain ⟨a1,ha1⟩ : ∃ x : MV,{ a with se:=v } = x:=⟨_,rfl⟩
 have e1 : Hid (a1.gn = a.gn /\ a1.ad = a.ad /\ a1.sz = a.sz /\ a1.pl = a.pl):=by unfold Hid;rw [<- ha1];exact ⟨rfl,rfl,rfl,rfl⟩
 have HGn : Hid ((Gs == a1.gn) = true):=by unfold Hid;rw [e1.out.1];exact HGa.out
 have HAd : Hid (((A : Int) == a1.ad) = true):=by unfold Hid;rw [e1.out.2.1];exact HAa.out
 rw [hcs1,ha1] at i2
 refine wp_over (fun W=>MemAt W L ((s.by who).step (6 + t + x * 2) (s.wd (6 + t + x * 2))) /\ MvAt W b o T cs1 a1 /\ BoxV W w.heap.size t n k m g p r L.p who /\ At W S 0 42 _ [.int .i64 st,.int .i64 A,.int .i64 Gs,.int .i64 V] /\ Only (L.and b) w W) ⟨(m2.below b3).alloc _,(i2.grown b3).grown (grow1 _ _),(v2.grown b3).grown (grow1 _ _),q0,(o2.trans (Only.ofGrown b3)).alloc _⟩ ?_
 clear b3 sw q0 hS m2 i2 v2 o2 k2
 rintro W ⟨m1,i1,v1,q1,o1⟩
 refine wp_region_rely Grown [.val (.pointer (some ⟨S,2,none⟩)),.val (.int .i64 Gs),.val (.pointer (some ⟨b,o,none⟩)),.val (.pointer (some ⟨b,o,none⟩)),.val (.pointer (some ⟨b,o + 2,none⟩)),.val (.pointer (some ⟨b,o + 5,none⟩)),.val (.int .i64 a1.gn),.val (.bool true),.val (.bool true),.val (.pointer (some ⟨S,1,none⟩)),.val (.int .i64 A),.val (.pointer (some ⟨b,o,none⟩)),.val (.pointer (some ⟨b,o,none⟩)),.val (.pointer (some ⟨b,o + 1,none⟩)),.val (.int .i64 a1.ad),.val (.bool true),.val (.bool true),.val (.bool true)] (by kernel_rfl) Grown.refl Grown.trans (by kernel_rfl) (by kernel_rfl) (by kernel_rfl) ?_
 simp only [relyAll,Act.put,List.setIfInBounds_toArray,List.set_cons_zero,List.set_cons_succ]
 refine ⟨?_,?_,?_,?_,?_,?_,?_,?_,?_,?_,?_,?_,?_,?_,?_,?_,?_,?_,?_⟩
 · intros;apply ol;go_simp;exact gl
 · intro w' hg _
   apply ol
   have z0:=(q1.drew.grown hg).at0 2 rfl
   go_simp
   exact gl
 · intros;apply ol;go_simp;exact gl
 · intros;apply ol;go_simp;exact gl
 · intros;apply ol;go_simp;exact gl
 · intros;apply ol;go_simp;exact gl
 · intro w' hg _
   apply ol
   have z0:=(i1.drew.grown hg).c_gn
   go_simp
   exact gl
 · intro w' hg _
   apply ol
   have z : (Gs == a1.gn) = true:=HGn.out
   go_simp
   exact gl
 · intros;apply ol;go_simp;exact gl
 · intros;apply ol;go_simp;exact gl
 · intro w' hg _
   apply ol
   have z0:=(q1.drew.grown hg).at0 1 rfl
   go_simp
   exact gl
 · intros;apply ol;go_simp;exact gl
 · intros;apply ol;go_simp;exact gl
 · intros;apply ol;go_simp;exact gl
 · intro w' hg _
   apply ol
   have z0:=(i1.drew.grown hg).c_ad
   go_simp
   exact gl
 · intro w' hg _
   apply ol
   have z : ((A : Int) == a1.ad) = true:=HAd.out
   go_simp
   exact gl
 · intros;apply ol;go_simp;exact gl
 · intros;apply ol;go_simp;exact gl
 intro w5 hg _
 have m5:=m1.drew.below hg
 have i5:=i1.drew.grown hg
 have v5:=(v1.grown ((Below.refl _ _).drew)).grown hg
 have q5:=q1.drew.grown hg
 have o5 : Only (L.and b) w w5:=o1.drew.trans (Only.ofGrown hg)
 clear hg m1 i1 v1 q1 o1
 have z0:=q5.at0 0 rfl
 have z3:=q5.at0 3 rfl
 have k0:=i5.c_nx
 have kf:=i5.fz
 obtain ⟨y0,y1,y2,y3,y4,y5,y6,y7,y8⟩:=id v5
 go_wp2_with (first
  | (go_at_call 74;refine (mend_any (κ:=κ) (τ:=τ) (A:=B) (i:=i) (d:=d) m5 hb i5 2 (by rw [e1.out.2.2.2];exact HPl.out) HTo.out).mono ?_;rintro e w8 ⟨rfl,s8,cs8,a8,m8,o8,i8,q8,rfl,rfl⟩))
 go_end0
 exact ⟨rfl,_,_,_,m8,o5.trans o8,i8,s1.trans q8,rfl,by rw [<- ha1]⟩
set_option maxHeartbeats 1000000 in
theorem msee_old (h : MemAt w L s) (hb : ¬ L.has b) (hi : MvAt w b o T cs a) (who : Int) (hG : Good t n k m g p r) {x : Nat} (hx : x < n) (hsl : a.sl = x) (hn : (6 + t + x * 2) < s.n) {v st : Int} {A : Nat} {Gs V : Int} (hv : s.wd (6 + t + x * 2) = v) (hs : SlotIs v st A Gs V) {κ : Nat} {τ : Pl} (hp : τ.cells κ a.pl) {B i : Nat} {d : Bool} (ht : τ.told = (B,i,d)) (hgn : (Gs == a.gn) = true) (had : ((A : Int) == a.ad) = true) (h4 : (st == 4) = false) (h1 : (st != 1) = false) {ci : Int} (hF : MFits t n k m a.ad a.sz ci) (hV : decide (V ≥ 4194302) = true) :
 Calls Tryz.prog 39 #[.pointer (some ⟨b,o,none⟩),.agg #[.int .i64 t,.int .i64 n,.int .i64 k,.int .i64 m,.int .i64 g,.int .i64 p,.int .i64 r,.pointer (some ⟨L.p,0,none⟩),.int .i64 who]] w fun e w'=>e = .returned (.tuple #[]) /\ Mact L b o T cs w w' (fun s' a'=>s' = ((s.by who).step (6 + t + x * 2) (s.wd (6 + t + x * 2))) /\ a' = { a with se:=v,ou:=3,nx:=endNx d }):=by
 have HU : Hid (s.wd (6 + t + x * 2) = v):=hv
 have HX : Hid (a.sl = (x : Int)):=hsl
 have sw:=hs.call
 have HPl : Hid (τ.cells κ a.pl):=hp
 have HTo : Hid (τ.told = (B,i,d)):=ht
 have HGa : Hid ((Gs == a.gn) = true):=hgn
 clear hgn
 have HAa : Hid (((A : Int) == a.ad) = true):=had
 clear had
 have HF : Hid (MFits t n k m a.ad a.sz ci):=hF
 clear hF
 clear hv hs hsl hp ht
 have hbv : ¬ L.has w.heap.size:=fun hh=>by have:=h.lt _ hh;omega
 have hbb : ¬ w.heap.size = b:=fun hh=>by have:=hi.lt;omega
 go_enter Tryz.func39,Tryz.ntmps39
 go_wp2
 refine wp_over (fun W=>MemAt W L s /\ MvAt W b o T cs a /\ BoxV W w.heap.size t n k m g p r L.p who /\ Only (L.and b) w W) ⟨h.alloc _,hi.grown (grow1 _ _),BoxV.new,(Only.refl _ _).alloc _⟩ ?_
 rintro W ⟨m1,i1,v1,o1⟩
 refine wp_region_phase (OnlyBut L b (o + 14)) Grown (phMv L b o T cs (cs.setIfInBounds (o + 14) (.int .u64 v)) s ((s.by who).step (6 + t + x * 2) (s.wd (6 + t + x * 2))) a { a with se:=v }) [5,8] [.val (.pointer (some ⟨b,o,none⟩)),.val (.agg #[.int .i64 t,.int .i64 n,.int .i64 k,.int .i64 m,.int .i64 g,.int .i64 p,.int .i64 r,.pointer (some ⟨L.p,0,none⟩),.int .i64 who]),.val (.pointer (some ⟨b,o,none⟩)),.val (.agg #[.int .i64 t,.int .i64 n,.int .i64 k,.int .i64 m,.int .i64 g,.int .i64 p,.int .i64 r,.pointer (some ⟨L.p,0,none⟩),.int .i64 who]),.val (.int .i64 (((6 + t + x * 2) : Nat) : Int)),.val (.int .u64 v),.val (.pointer (some ⟨b,o,none⟩)),.val (.pointer (some ⟨b,o + 14,none⟩)),.that (fun _ _=>True) (fun _ _ _ _ _=>trivial)]
  (by kernel_rfl) OnlyBut.refl OnlyBut.trans OnlyBut.ofGrown phMv_grown ⟨m1.drew,i1.drew⟩ (by kernel_rfl) (by kernel_rfl) (by kernel_rfl) (by kernel_rfl) (by kernel_rfl) ?_
 simp only [phaseAll,Act.put,List.setIfInBounds_toArray,List.set_cons_zero,List.set_cons_succ]
 refine ⟨?_,?_,?_,?_,?_,?_,?_,?_,?_,?_⟩
 · intros;apply ol;go_simp;exact gl
 · intro w' hR _
   apply ol
   obtain ⟨y0,y1,y2,y3,y4,y5,y6,y7,y8⟩:=(v1.grown ((Below.refl _ _).drew)).only hR.only (fun hh=>hh.elim hbv hbb)
   go_simp
   exact gl
 · intros;apply ol;go_simp;exact gl
 · intro w' hR _
   apply ol
   obtain ⟨y0,y1,y2,y3,y4,y5,y6,y7,y8⟩:=(v1.grown ((Below.refl _ _).drew)).only hR.only (fun hh=>hh.elim hbv hbb)
   go_simp
   exact gl
 · intro w' hR _
   apply ol
   go_simp
   refine (mslot_any (hR.keep (j:=o + 4) (by omega) (by have z:=i1.drew.c_sl;rwa [HX.out] at z)) L.p who hG hx).mono ?_
   rintro e w'' ⟨rfl,b9⟩
   exact ⟨_,rfl,b9,rfl⟩
 · intro w' hR _ hP
   apply ol
   go_simp
   refine (eload_in (s:=s) hP.1 _ _ _ _ _ _ _ _ (6 + t + x * 2) hn).mono ?_
   rintro e w'' ⟨rfl,m2,o2⟩
   exact ⟨_,rfl,⟨OnlyBut.ofOnly o2 hb,m2,hP.2.only o2 hb⟩,by simp [Want.pred,HU.out]⟩
 · intros;apply ol;go_simp;exact gl
 · intros;apply ol;go_simp;exact gl
 · intro w' hR _ hP
   apply ol
   have z0:=hP.2.c_se
   have z1:=hP.2.fz
   go_simp
   exact ⟨⟨OnlyBut.set _ _,hP.1.setIn hb _ _,hP.2.set_se _⟩,trivial⟩
 intro vv w2 hR hP _
 obtain ⟨m2,i2⟩ : MemAt w2 L ((s.by who).step (6 + t + x * 2) (s.wd (6 + t + x * 2))) /\ MvAt w2 b o T (cs.setIfInBounds (o + 14) (.int .u64 v)) { a with se:=v }:=hP
 have o2 : Only (L.and b) w w2:=o1.drew.trans hR.only
 have v2:=(v1.grown ((Below.refl _ _).drew)).only hR.only (fun hh=>hh.elim hbv hbb)
 have k2 : w2.cell? ⟨b,o + 14,none⟩ = some (.int .u64 v):=i2.c_se
 clear hR o1 v1 m1 i1
 go_wp2_with (go_at_call 34;refine (sw _).mono ?_;rintro e w3 ⟨rfl,b3⟩)
 have q0:=At.new w3 42 [.int .i64 st,.int .i64 A,.int .i64 Gs,.int .i64 V]
 obtain ⟨S,hS⟩ : ∃ S,w3.heap.size = S:=⟨_,rfl⟩
 have bS : S ≠ b:=by have:=i2.lt;have:=b3.size;omega
 rw [hS] at q0 ⊢
 obtain ⟨cs1,hcs1⟩ : ∃ c,cs.setIfInBounds (o + 14) (.int .u64 v) = c:=⟨_,rfl⟩
 have s1 : Same o 19 cs cs1:=by rw [<- hcs1];exact Same.refl.set (by omega) _
 obtain ⟨a1,ha1⟩ : ∃ x : MV,{ a with se:=v } = x:=⟨_,rfl⟩
 have e1 : Hid (a1.gn = a.gn /\ a1.ad = a.ad /\ a1.sz = a.sz /\ a1.pl = a.pl):=by unfold Hid;rw [<- ha1];exact ⟨rfl,rfl,rfl,rfl⟩
 have HGn : Hid ((Gs == a1.gn) = true):=by unfold Hid;rw [e1.out.1];exact HGa.out
 have HAd : Hid (((A : Int) == a1.ad) = true):=by unfold Hid;rw [e1.out.2.1];exact HAa.out
 rw [hcs1,ha1] at i2
 refine wp_over (fun W=>MemAt W L ((s.by who).step (6 + t + x * 2) (s.wd (6 + t + x * 2))) /\ MvAt W b o T cs1 a1 /\ BoxV W w.heap.size t n k m g p r L.p who /\ At W S 0 42 _ [.int .i64 st,.int .i64 A,.int .i64 Gs,.int .i64 V] /\ Only (L.and b) w W) ⟨(m2.below b3).alloc _,(i2.grown b3).grown (grow1 _ _),(v2.grown b3).grown (grow1 _ _),q0,(o2.trans (Only.ofGrown b3)).alloc _⟩ ?_
 clear b3 sw q0 hS m2 i2 v2 o2 k2
 rintro W ⟨m1,i1,v1,q1,o1⟩
 refine wp_region_rely Grown [.val (.pointer (some ⟨S,2,none⟩)),.val (.int .i64 Gs),.val (.pointer (some ⟨b,o,none⟩)),.val (.pointer (some ⟨b,o,none⟩)),.val (.pointer (some ⟨b,o + 2,none⟩)),.val (.pointer (some ⟨b,o + 5,none⟩)),.val (.int .i64 a1.gn),.val (.bool true),.val (.bool true),.val (.pointer (some ⟨S,1,none⟩)),.val (.int .i64 A),.val (.pointer (some ⟨b,o,none⟩)),.val (.pointer (some ⟨b,o,none⟩)),.val (.pointer (some ⟨b,o + 1,none⟩)),.val (.int .i64 a1.ad),.val (.bool true),.val (.bool true),.val (.bool true)] (by kernel_rfl) Grown.refl Grown.trans (by kernel_rfl) (by kernel_rfl) (by kernel_rfl) ?_
 simp only [relyAll,Act.put,List.setIfInBounds_toArray,List.set_cons_zero,List.set_cons_succ]
 refine ⟨?_,?_,?_,?_,?_,?_,?_,?_,?_,?_,?_,?_,?_,?_,?_,?_,?_,?_,?_⟩
 · intros;apply ol;go_simp;exact gl
 · intro w' hg _
   apply ol
   have z0:=(q1.drew.grown hg).at0 2 rfl
   go_simp
   exact gl
 · intros;apply ol;go_simp;exact gl
 · intros;apply ol;go_simp;exact gl
 · intros;apply ol;go_simp;exact gl
 · intros;apply ol;go_simp;exact gl
 · intro w' hg _
   apply ol
   have z0:=(i1.drew.grown hg).c_gn
   go_simp
   exact gl
 · intro w' hg _
   apply ol
   have z : (Gs == a1.gn) = true:=HGn.out
   go_simp
   exact gl
 · intros;apply ol;go_simp;exact gl
 · intros;apply ol;go_simp;exact gl
 · intro w' hg _
   apply ol
   have z0:=(q1.drew.grown hg).at0 1 rfl
   go_simp
   exact gl
 · intros;apply ol;go_simp;exact gl
 · intros;apply ol;go_simp;exact gl
 · intros;apply ol;go_simp;exact gl
 · intro w' hg _
   apply ol
   have z0:=(i1.drew.grown hg).c_ad
   go_simp
   exact gl
 · intro w' hg _
   apply ol
   have z : ((A : Int) == a1.ad) = true:=HAd.out
   go_simp
   exact gl
 · intros;apply ol;go_simp;exact gl
 · intros;apply ol;go_simp;exact gl
 intro w5 hg _
 have m5:=m1.drew.below hg
 have i5:=i1.drew.grown hg
 have v5:=(v1.grown ((Below.refl _ _).drew)).grown hg
 have q5:=q1.drew.grown hg
 have o5 : Only (L.and b) w w5:=o1.drew.trans (Only.ofGrown hg)
 clear hg m1 i1 v1 q1 o1
 have z0:=q5.at0 0 rfl
 have z3:=q5.at0 3 rfl
 have k0:=i5.c_nx
 have kf:=i5.fz
 obtain ⟨y0,y1,y2,y3,y4,y5,y6,y7,y8⟩:=id v5
 go_wp2_with (first
  | (go_at_call 71;refine (mfits_yes i5 hG (i:=ci) (by rw [e1.out.2.1,e1.out.2.2.1];exact HF.out)).mono ?_;rintro e w6 ⟨rfl,b6⟩;have m6:=m5.below b6;have i6:=i5.grown b6;have o6:=o5.trans (Only.ofGrown b6);have q6:=q5.grown b6;have t3:=q6.at0 3 rfl)
  | (go_at_call 74;refine (mend_any (κ:=κ) (τ:=τ) (A:=B) (i:=i) (d:=d) m6 hb i6 3 (by rw [e1.out.2.2.2];exact HPl.out) HTo.out).mono ?_;rintro e w8 ⟨rfl,s8,cs8,a8,m8,o8,i8,q8,rfl,rfl⟩))
 go_end0
 exact ⟨rfl,_,_,_,m8,o6.trans o8,i8,s1.trans q8,rfl,by rw [<- ha1]⟩
set_option maxHeartbeats 1000000 in
theorem msee_copy (h : MemAt w L s) (hb : ¬ L.has b) (hi : MvAt w b o T cs a) (who : Int) (hG : Good t n k m g p r) {x : Nat} (hx : x < n) (hsl : a.sl = x) (hn : (6 + t + x * 2) < s.n) {v st : Int} {A : Nat} {Gs V : Int} (hv : s.wd (6 + t + x * 2) = v) (hs : SlotIs v st A Gs V) {κ : Nat} {τ : Pl} (hp : τ.cells κ a.pl) {B i : Nat} {d : Bool} (ht : τ.told = (B,i,d)) (hgn : (Gs == a.gn) = true) (had : ((A : Int) == a.ad) = true) (h4 : (st == 4) = false) (h1 : (st != 1) = false) {ci : Int} (hF : MFits t n k m a.ad a.sz ci) (hV : decide (V ≥ 4194302) = false) (hd : d = true) :
 Calls Tryz.prog 39 #[.pointer (some ⟨b,o,none⟩),.agg #[.int .i64 t,.int .i64 n,.int .i64 k,.int .i64 m,.int .i64 g,.int .i64 p,.int .i64 r,.pointer (some ⟨L.p,0,none⟩),.int .i64 who]] w fun e w'=>e = .returned (.tuple #[]) /\ Mact L b o T cs w w' (fun s' a'=>s' = ((s.by who).step (6 + t + x * 2) (s.wd (6 + t + x * 2))) /\ a' = { a with se:=v,nx:=2 }):=by
 have HU : Hid (s.wd (6 + t + x * 2) = v):=hv
 have HX : Hid (a.sl = (x : Int)):=hsl
 have sw:=hs.call
 have HPl : Hid (τ.cells κ a.pl):=hp
 have HTo : Hid (τ.told = (B,i,d)):=ht
 have HGa : Hid ((Gs == a.gn) = true):=hgn
 clear hgn
 have HAa : Hid (((A : Int) == a.ad) = true):=had
 clear had
 have HF : Hid (MFits t n k m a.ad a.sz ci):=hF
 clear hF
 clear hv hs hsl hp ht
 have hbv : ¬ L.has w.heap.size:=fun hh=>by have:=h.lt _ hh;omega
 have hbb : ¬ w.heap.size = b:=fun hh=>by have:=hi.lt;omega
 go_enter Tryz.func39,Tryz.ntmps39
 go_wp2
 refine wp_over (fun W=>MemAt W L s /\ MvAt W b o T cs a /\ BoxV W w.heap.size t n k m g p r L.p who /\ Only (L.and b) w W) ⟨h.alloc _,hi.grown (grow1 _ _),BoxV.new,(Only.refl _ _).alloc _⟩ ?_
 rintro W ⟨m1,i1,v1,o1⟩
 refine wp_region_phase (OnlyBut L b (o + 14)) Grown (phMv L b o T cs (cs.setIfInBounds (o + 14) (.int .u64 v)) s ((s.by who).step (6 + t + x * 2) (s.wd (6 + t + x * 2))) a { a with se:=v }) [5,8] [.val (.pointer (some ⟨b,o,none⟩)),.val (.agg #[.int .i64 t,.int .i64 n,.int .i64 k,.int .i64 m,.int .i64 g,.int .i64 p,.int .i64 r,.pointer (some ⟨L.p,0,none⟩),.int .i64 who]),.val (.pointer (some ⟨b,o,none⟩)),.val (.agg #[.int .i64 t,.int .i64 n,.int .i64 k,.int .i64 m,.int .i64 g,.int .i64 p,.int .i64 r,.pointer (some ⟨L.p,0,none⟩),.int .i64 who]),.val (.int .i64 (((6 + t + x * 2) : Nat) : Int)),.val (.int .u64 v),.val (.pointer (some ⟨b,o,none⟩)),.val (.pointer (some ⟨b,o + 14,none⟩)),.that (fun _ _=>True) (fun _ _ _ _ _=>trivial)]
  (by kernel_rfl) OnlyBut.refl OnlyBut.trans OnlyBut.ofGrown phMv_grown ⟨m1.drew,i1.drew⟩ (by kernel_rfl) (by kernel_rfl) (by kernel_rfl) (by kernel_rfl) (by kernel_rfl) ?_
 simp only [phaseAll,Act.put,List.setIfInBounds_toArray,List.set_cons_zero,List.set_cons_succ]
 refine ⟨?_,?_,?_,?_,?_,?_,?_,?_,?_,?_⟩
 · intros;apply ol;go_simp;exact gl
 · intro w' hR _
   apply ol
   obtain ⟨y0,y1,y2,y3,y4,y5,y6,y7,y8⟩:=(v1.grown ((Below.refl _ _).drew)).only hR.only (fun hh=>hh.elim hbv hbb)
   go_simp
   exact gl
 · intros;apply ol;go_simp;exact gl
 · intro w' hR _
   apply ol
   obtain ⟨y0,y1,y2,y3,y4,y5,y6,y7,y8⟩:=(v1.grown ((Below.refl _ _).drew)).only hR.only (fun hh=>hh.elim hbv hbb)
   go_simp
   exact gl
 · intro w' hR _
   apply ol
   go_simp
   refine (mslot_any (hR.keep (j:=o + 4) (by omega) (by have z:=i1.drew.c_sl;rwa [HX.out] at z)) L.p who hG hx).mono ?_
   rintro e w'' ⟨rfl,b9⟩
   exact ⟨_,rfl,b9,rfl⟩
 · intro w' hR _ hP
   apply ol
   go_simp
   refine (eload_in (s:=s) hP.1 _ _ _ _ _ _ _ _ (6 + t + x * 2) hn).mono ?_
   rintro e w'' ⟨rfl,m2,o2⟩
   exact ⟨_,rfl,⟨OnlyBut.ofOnly o2 hb,m2,hP.2.only o2 hb⟩,by simp [Want.pred,HU.out]⟩
 · intros;apply ol;go_simp;exact gl
 · intros;apply ol;go_simp;exact gl
 · intro w' hR _ hP
   apply ol
   have z0:=hP.2.c_se
   have z1:=hP.2.fz
   go_simp
   exact ⟨⟨OnlyBut.set _ _,hP.1.setIn hb _ _,hP.2.set_se _⟩,trivial⟩
 intro vv w2 hR hP _
 obtain ⟨m2,i2⟩ : MemAt w2 L ((s.by who).step (6 + t + x * 2) (s.wd (6 + t + x * 2))) /\ MvAt w2 b o T (cs.setIfInBounds (o + 14) (.int .u64 v)) { a with se:=v }:=hP
 have o2 : Only (L.and b) w w2:=o1.drew.trans hR.only
 have v2:=(v1.grown ((Below.refl _ _).drew)).only hR.only (fun hh=>hh.elim hbv hbb)
 have k2 : w2.cell? ⟨b,o + 14,none⟩ = some (.int .u64 v):=i2.c_se
 clear hR o1 v1 m1 i1
 go_wp2_with (go_at_call 34;refine (sw _).mono ?_;rintro e w3 ⟨rfl,b3⟩)
 have q0:=At.new w3 42 [.int .i64 st,.int .i64 A,.int .i64 Gs,.int .i64 V]
 obtain ⟨S,hS⟩ : ∃ S,w3.heap.size = S:=⟨_,rfl⟩
 have bS : S ≠ b:=by have:=i2.lt;have:=b3.size;omega
 rw [hS] at q0 ⊢
 obtain ⟨cs1,hcs1⟩ : ∃ c,cs.setIfInBounds (o + 14) (.int .u64 v) = c:=⟨_,rfl⟩
 have s1 : Same o 19 cs cs1:=by rw [<- hcs1];exact Same.refl.set (by omega) _
 obtain ⟨a1,ha1⟩ : ∃ x : MV,{ a with se:=v } = x:=⟨_,rfl⟩
 have e1 : Hid (a1.gn = a.gn /\ a1.ad = a.ad /\ a1.sz = a.sz /\ a1.pl = a.pl):=by unfold Hid;rw [<- ha1];exact ⟨rfl,rfl,rfl,rfl⟩
 have HGn : Hid ((Gs == a1.gn) = true):=by unfold Hid;rw [e1.out.1];exact HGa.out
 have HAd : Hid (((A : Int) == a1.ad) = true):=by unfold Hid;rw [e1.out.2.1];exact HAa.out
 rw [hcs1,ha1] at i2
 refine wp_over (fun W=>MemAt W L ((s.by who).step (6 + t + x * 2) (s.wd (6 + t + x * 2))) /\ MvAt W b o T cs1 a1 /\ BoxV W w.heap.size t n k m g p r L.p who /\ At W S 0 42 _ [.int .i64 st,.int .i64 A,.int .i64 Gs,.int .i64 V] /\ Only (L.and b) w W) ⟨(m2.below b3).alloc _,(i2.grown b3).grown (grow1 _ _),(v2.grown b3).grown (grow1 _ _),q0,(o2.trans (Only.ofGrown b3)).alloc _⟩ ?_
 clear b3 sw q0 hS m2 i2 v2 o2 k2
 rintro W ⟨m1,i1,v1,q1,o1⟩
 refine wp_region_rely Grown [.val (.pointer (some ⟨S,2,none⟩)),.val (.int .i64 Gs),.val (.pointer (some ⟨b,o,none⟩)),.val (.pointer (some ⟨b,o,none⟩)),.val (.pointer (some ⟨b,o + 2,none⟩)),.val (.pointer (some ⟨b,o + 5,none⟩)),.val (.int .i64 a1.gn),.val (.bool true),.val (.bool true),.val (.pointer (some ⟨S,1,none⟩)),.val (.int .i64 A),.val (.pointer (some ⟨b,o,none⟩)),.val (.pointer (some ⟨b,o,none⟩)),.val (.pointer (some ⟨b,o + 1,none⟩)),.val (.int .i64 a1.ad),.val (.bool true),.val (.bool true),.val (.bool true)] (by kernel_rfl) Grown.refl Grown.trans (by kernel_rfl) (by kernel_rfl) (by kernel_rfl) ?_
 simp only [relyAll,Act.put,List.setIfInBounds_toArray,List.set_cons_zero,List.set_cons_succ]
 refine ⟨?_,?_,?_,?_,?_,?_,?_,?_,?_,?_,?_,?_,?_,?_,?_,?_,?_,?_,?_⟩
 · intros;apply ol;go_simp;exact gl
 · intro w' hg _
   apply ol
   have z0:=(q1.drew.grown hg).at0 2 rfl
   go_simp
   exact gl
 · intros;apply ol;go_simp;exact gl
 · intros;apply ol;go_simp;exact gl
 · intros;apply ol;go_simp;exact gl
 · intros;apply ol;go_simp;exact gl
 · intro w' hg _
   apply ol
   have z0:=(i1.drew.grown hg).c_gn
   go_simp
   exact gl
 · intro w' hg _
   apply ol
   have z : (Gs == a1.gn) = true:=HGn.out
   go_simp
   exact gl
 · intros;apply ol;go_simp;exact gl
 · intros;apply ol;go_simp;exact gl
 · intro w' hg _
   apply ol
   have z0:=(q1.drew.grown hg).at0 1 rfl
   go_simp
   exact gl
 · intros;apply ol;go_simp;exact gl
 · intros;apply ol;go_simp;exact gl
 · intros;apply ol;go_simp;exact gl
 · intro w' hg _
   apply ol
   have z0:=(i1.drew.grown hg).c_ad
   go_simp
   exact gl
 · intro w' hg _
   apply ol
   have z : ((A : Int) == a1.ad) = true:=HAd.out
   go_simp
   exact gl
 · intros;apply ol;go_simp;exact gl
 · intros;apply ol;go_simp;exact gl
 intro w5 hg _
 have m5:=m1.drew.below hg
 have i5:=i1.drew.grown hg
 have v5:=(v1.grown ((Below.refl _ _).drew)).grown hg
 have q5:=q1.drew.grown hg
 have o5 : Only (L.and b) w w5:=o1.drew.trans (Only.ofGrown hg)
 clear hg m1 i1 v1 q1 o1
 have z0:=q5.at0 0 rfl
 have z3:=q5.at0 3 rfl
 have k0:=i5.c_nx
 have kf:=i5.fz
 obtain ⟨y0,y1,y2,y3,y4,y5,y6,y7,y8⟩:=id v5
 go_wp2_with (first
  | (go_at_call 71;refine (mfits_yes i5 hG (i:=ci) (by rw [e1.out.2.1,e1.out.2.2.1];exact HF.out)).mono ?_;rintro e w6 ⟨rfl,b6⟩;have m6:=m5.below b6;have i6:=i5.grown b6;have o6:=o5.trans (Only.ofGrown b6);have q6:=q5.grown b6;have t3:=q6.at0 3 rfl)
  | (go_at_call 75;refine (mplaced_any (κ:=κ) (τ:=τ) (A:=B) (i:=i) (d:=d) i6 (by rw [e1.out.2.2.2];exact HPl.out) HTo.out).mono ?_;rintro e w7 ⟨rfl,b7⟩;rw [hd];have m7:=m6.below b7;have i7:=i6.grown b7;have o7:=o6.trans (Only.ofGrown b7);have k7:=i7.c_nx;have f7:=i7.fz))
 go_end0
 exact ⟨rfl,_,_,_,m7.setIn hb _ _,o7.set _ _,i7.set_nx 2,s1.set (by omega) _,rfl,by rw [<- ha1]⟩
set_option maxHeartbeats 1000000 in
theorem msee_place (h : MemAt w L s) (hb : ¬ L.has b) (hi : MvAt w b o T cs a) (who : Int) (hG : Good t n k m g p r) {x : Nat} (hx : x < n) (hsl : a.sl = x) (hn : (6 + t + x * 2) < s.n) {v st : Int} {A : Nat} {Gs V : Int} (hv : s.wd (6 + t + x * 2) = v) (hs : SlotIs v st A Gs V) {κ : Nat} {τ : Pl} (hp : τ.cells κ a.pl) {B i : Nat} {d : Bool} (ht : τ.told = (B,i,d)) (hgn : (Gs == a.gn) = true) (had : ((A : Int) == a.ad) = true) (h4 : (st == 4) = false) (h1 : (st != 1) = false) {ci : Int} (hF : MFits t n k m a.ad a.sz ci) (hV : decide (V ≥ 4194302) = false) (hd : d = false) :
 Calls Tryz.prog 39 #[.pointer (some ⟨b,o,none⟩),.agg #[.int .i64 t,.int .i64 n,.int .i64 k,.int .i64 m,.int .i64 g,.int .i64 p,.int .i64 r,.pointer (some ⟨L.p,0,none⟩),.int .i64 who]] w fun e w'=>e = .returned (.tuple #[]) /\ Mact L b o T cs w w' (fun s' a'=>s' = ((s.by who).step (6 + t + x * 2) (s.wd (6 + t + x * 2))) /\ a' = { a with se:=v,nx:=1 }):=by
 have HU : Hid (s.wd (6 + t + x * 2) = v):=hv
 have HX : Hid (a.sl = (x : Int)):=hsl
 have sw:=hs.call
 have HPl : Hid (τ.cells κ a.pl):=hp
 have HTo : Hid (τ.told = (B,i,d)):=ht
 have HGa : Hid ((Gs == a.gn) = true):=hgn
 clear hgn
 have HAa : Hid (((A : Int) == a.ad) = true):=had
 clear had
 have HF : Hid (MFits t n k m a.ad a.sz ci):=hF
 clear hF
 clear hv hs hsl hp ht
 have hbv : ¬ L.has w.heap.size:=fun hh=>by have:=h.lt _ hh;omega
 have hbb : ¬ w.heap.size = b:=fun hh=>by have:=hi.lt;omega
 go_enter Tryz.func39,Tryz.ntmps39
 go_wp2
 refine wp_over (fun W=>MemAt W L s /\ MvAt W b o T cs a /\ BoxV W w.heap.size t n k m g p r L.p who /\ Only (L.and b) w W) ⟨h.alloc _,hi.grown (grow1 _ _),BoxV.new,(Only.refl _ _).alloc _⟩ ?_
 rintro W ⟨m1,i1,v1,o1⟩
 refine wp_region_phase (OnlyBut L b (o + 14)) Grown (phMv L b o T cs (cs.setIfInBounds (o + 14) (.int .u64 v)) s ((s.by who).step (6 + t + x * 2) (s.wd (6 + t + x * 2))) a { a with se:=v }) [5,8] [.val (.pointer (some ⟨b,o,none⟩)),.val (.agg #[.int .i64 t,.int .i64 n,.int .i64 k,.int .i64 m,.int .i64 g,.int .i64 p,.int .i64 r,.pointer (some ⟨L.p,0,none⟩),.int .i64 who]),.val (.pointer (some ⟨b,o,none⟩)),.val (.agg #[.int .i64 t,.int .i64 n,.int .i64 k,.int .i64 m,.int .i64 g,.int .i64 p,.int .i64 r,.pointer (some ⟨L.p,0,none⟩),.int .i64 who]),.val (.int .i64 (((6 + t + x * 2) : Nat) : Int)),.val (.int .u64 v),.val (.pointer (some ⟨b,o,none⟩)),.val (.pointer (some ⟨b,o + 14,none⟩)),.that (fun _ _=>True) (fun _ _ _ _ _=>trivial)]
  (by kernel_rfl) OnlyBut.refl OnlyBut.trans OnlyBut.ofGrown phMv_grown ⟨m1.drew,i1.drew⟩ (by kernel_rfl) (by kernel_rfl) (by kernel_rfl) (by kernel_rfl) (by kernel_rfl) ?_
 simp only [phaseAll,Act.put,List.setIfInBounds_toArray,List.set_cons_zero,List.set_cons_succ]
 refine ⟨?_,?_,?_,?_,?_,?_,?_,?_,?_,?_⟩
 · intros;apply ol;go_simp;exact gl
 · intro w' hR _
   apply ol
   obtain ⟨y0,y1,y2,y3,y4,y5,y6,y7,y8⟩:=(v1.grown ((Below.refl _ _).drew)).only hR.only (fun hh=>hh.elim hbv hbb)
   go_simp
   exact gl
 · intros;apply ol;go_simp;exact gl
 · intro w' hR _
   apply ol
   obtain ⟨y0,y1,y2,y3,y4,y5,y6,y7,y8⟩:=(v1.grown ((Below.refl _ _).drew)).only hR.only (fun hh=>hh.elim hbv hbb)
   go_simp
   exact gl
 · intro w' hR _
   apply ol
   go_simp
   refine (mslot_any (hR.keep (j:=o + 4) (by omega) (by have z:=i1.drew.c_sl;rwa [HX.out] at z)) L.p who hG hx).mono ?_
   rintro e w'' ⟨rfl,b9⟩
   exact ⟨_,rfl,b9,rfl⟩
 · intro w' hR _ hP
   apply ol
   go_simp
   refine (eload_in (s:=s) hP.1 _ _ _ _ _ _ _ _ (6 + t + x * 2) hn).mono ?_
   rintro e w'' ⟨rfl,m2,o2⟩
   exact ⟨_,rfl,⟨OnlyBut.ofOnly o2 hb,m2,hP.2.only o2 hb⟩,by simp [Want.pred,HU.out]⟩
 · intros;apply ol;go_simp;exact gl
 · intros;apply ol;go_simp;exact gl
 · intro w' hR _ hP
   apply ol
   have z0:=hP.2.c_se
   have z1:=hP.2.fz
   go_simp
   exact ⟨⟨OnlyBut.set _ _,hP.1.setIn hb _ _,hP.2.set_se _⟩,trivial⟩
 intro vv w2 hR hP _
 obtain ⟨m2,i2⟩ : MemAt w2 L ((s.by who).step (6 + t + x * 2) (s.wd (6 + t + x * 2))) /\ MvAt w2 b o T (cs.setIfInBounds (o + 14) (.int .u64 v)) { a with se:=v }:=hP
 have o2 : Only (L.and b) w w2:=o1.drew.trans hR.only
 have v2:=(v1.grown ((Below.refl _ _).drew)).only hR.only (fun hh=>hh.elim hbv hbb)
 have k2 : w2.cell? ⟨b,o + 14,none⟩ = some (.int .u64 v):=i2.c_se
 clear hR o1 v1 m1 i1
 go_wp2_with (go_at_call 34;refine (sw _).mono ?_;rintro e w3 ⟨rfl,b3⟩)
 have q0:=At.new w3 42 [.int .i64 st,.int .i64 A,.int .i64 Gs,.int .i64 V]
 obtain ⟨S,hS⟩ : ∃ S,w3.heap.size = S:=⟨_,rfl⟩
 have bS : S ≠ b:=by have:=i2.lt;have:=b3.size;omega
 rw [hS] at q0 ⊢
 obtain ⟨cs1,hcs1⟩ : ∃ c,cs.setIfInBounds (o + 14) (.int .u64 v) = c:=⟨_,rfl⟩
 have s1 : Same o 19 cs cs1:=by rw [<- hcs1];exact Same.refl.set (by omega) _
 obtain ⟨a1,ha1⟩ : ∃ x : MV,{ a with se:=v } = x:=⟨_,rfl⟩
 have e1 : Hid (a1.gn = a.gn /\ a1.ad = a.ad /\ a1.sz = a.sz /\ a1.pl = a.pl):=by unfold Hid;rw [<- ha1];exact ⟨rfl,rfl,rfl,rfl⟩
 have HGn : Hid ((Gs == a1.gn) = true):=by unfold Hid;rw [e1.out.1];exact HGa.out
 have HAd : Hid (((A : Int) == a1.ad) = true):=by unfold Hid;rw [e1.out.2.1];exact HAa.out
 rw [hcs1,ha1] at i2
 refine wp_over (fun W=>MemAt W L ((s.by who).step (6 + t + x * 2) (s.wd (6 + t + x * 2))) /\ MvAt W b o T cs1 a1 /\ BoxV W w.heap.size t n k m g p r L.p who /\ At W S 0 42 _ [.int .i64 st,.int .i64 A,.int .i64 Gs,.int .i64 V] /\ Only (L.and b) w W) ⟨(m2.below b3).alloc _,(i2.grown b3).grown (grow1 _ _),(v2.grown b3).grown (grow1 _ _),q0,(o2.trans (Only.ofGrown b3)).alloc _⟩ ?_
 clear b3 sw q0 hS m2 i2 v2 o2 k2
 rintro W ⟨m1,i1,v1,q1,o1⟩
 refine wp_region_rely Grown [.val (.pointer (some ⟨S,2,none⟩)),.val (.int .i64 Gs),.val (.pointer (some ⟨b,o,none⟩)),.val (.pointer (some ⟨b,o,none⟩)),.val (.pointer (some ⟨b,o + 2,none⟩)),.val (.pointer (some ⟨b,o + 5,none⟩)),.val (.int .i64 a1.gn),.val (.bool true),.val (.bool true),.val (.pointer (some ⟨S,1,none⟩)),.val (.int .i64 A),.val (.pointer (some ⟨b,o,none⟩)),.val (.pointer (some ⟨b,o,none⟩)),.val (.pointer (some ⟨b,o + 1,none⟩)),.val (.int .i64 a1.ad),.val (.bool true),.val (.bool true),.val (.bool true)] (by kernel_rfl) Grown.refl Grown.trans (by kernel_rfl) (by kernel_rfl) (by kernel_rfl) ?_
 simp only [relyAll,Act.put,List.setIfInBounds_toArray,List.set_cons_zero,List.set_cons_succ]
 refine ⟨?_,?_,?_,?_,?_,?_,?_,?_,?_,?_,?_,?_,?_,?_,?_,?_,?_,?_,?_⟩
 · intros;apply ol;go_simp;exact gl
 · intro w' hg _
   apply ol
   have z0:=(q1.drew.grown hg).at0 2 rfl
   go_simp
   exact gl
 · intros;apply ol;go_simp;exact gl
 · intros;apply ol;go_simp;exact gl
 · intros;apply ol;go_simp;exact gl
 · intros;apply ol;go_simp;exact gl
 · intro w' hg _
   apply ol
   have z0:=(i1.drew.grown hg).c_gn
   go_simp
   exact gl
 · intro w' hg _
   apply ol
   have z : (Gs == a1.gn) = true:=HGn.out
   go_simp
   exact gl
 · intros;apply ol;go_simp;exact gl
 · intros;apply ol;go_simp;exact gl
 · intro w' hg _
   apply ol
   have z0:=(q1.drew.grown hg).at0 1 rfl
   go_simp
   exact gl
 · intros;apply ol;go_simp;exact gl
 · intros;apply ol;go_simp;exact gl
 · intros;apply ol;go_simp;exact gl
 · intro w' hg _
   apply ol
   have z0:=(i1.drew.grown hg).c_ad
   go_simp
   exact gl
 · intro w' hg _
   apply ol
   have z : ((A : Int) == a1.ad) = true:=HAd.out
   go_simp
   exact gl
 · intros;apply ol;go_simp;exact gl
 · intros;apply ol;go_simp;exact gl
 intro w5 hg _
 have m5:=m1.drew.below hg
 have i5:=i1.drew.grown hg
 have v5:=(v1.grown ((Below.refl _ _).drew)).grown hg
 have q5:=q1.drew.grown hg
 have o5 : Only (L.and b) w w5:=o1.drew.trans (Only.ofGrown hg)
 clear hg m1 i1 v1 q1 o1
 have z0:=q5.at0 0 rfl
 have z3:=q5.at0 3 rfl
 have k0:=i5.c_nx
 have kf:=i5.fz
 obtain ⟨y0,y1,y2,y3,y4,y5,y6,y7,y8⟩:=id v5
 go_wp2_with (first
  | (go_at_call 71;refine (mfits_yes i5 hG (i:=ci) (by rw [e1.out.2.1,e1.out.2.2.1];exact HF.out)).mono ?_;rintro e w6 ⟨rfl,b6⟩;have m6:=m5.below b6;have i6:=i5.grown b6;have o6:=o5.trans (Only.ofGrown b6);have q6:=q5.grown b6;have t3:=q6.at0 3 rfl)
  | (go_at_call 75;refine (mplaced_any (κ:=κ) (τ:=τ) (A:=B) (i:=i) (d:=d) i6 (by rw [e1.out.2.2.2];exact HPl.out) HTo.out).mono ?_;rintro e w7 ⟨rfl,b7⟩;rw [hd];have m7:=m6.below b7;have i7:=i6.grown b7;have o7:=o6.trans (Only.ofGrown b7);have k7:=i7.c_nx;have f7:=i7.fz))
 go_end0
 exact ⟨rfl,_,_,_,m7.setIn hb _ _,o7.set _ _,i7.set_nx 1,s1.set (by omega) _,rfl,by rw [<- ha1]⟩
end Go.Proofs.YtkgpffcnimmdkaaGreat
