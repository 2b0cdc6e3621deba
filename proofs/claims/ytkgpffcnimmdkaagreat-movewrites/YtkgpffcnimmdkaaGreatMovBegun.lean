import Derived.Test.YtkgpffcnimmdkaaGreatMovBeg
import Derived.Test.YtkgpffcnimmdkaaGreatArgs
import Derived.Test.YtkgpffcnimmdkaaGreatAllocCamp
namespace Go.Proofs.YtkgpffcnimmdkaaGreat
open Go.RowKit
set_option maxRecDepth 20000
theorem hw_full {Z c : Nat} (z2 : Z <= 16) : (mw Z c).hw 2 % 4 = 2 /\ (mw Z c).hw 2 / 4 % 65536 = Z /\ (mw Z c).hw 2 / 262144 % 65536 = 0 /\ (mw Z c).hw 2 / 17179869184 % 65536 = 1 /\ decide ((mw Z c).hw 2 / 1125899906842624 % 2 = 1) = false:=by
 have e:=packOw_is 2 Z 0 1 false (by decide) (by omega) (by decide) (by decide)
 have e' : (mw Z c).hw 2 = 2 + Z * 4 + 17179869184:=by
  show packOw ((2 : Nat) : Int) (Z : Int) ((0 : Nat) : Int) ((1 : Nat) : Int) false = _
  rw [e];simp
 rw [e']
 exact ⟨by omega,by omega,by omega,by omega,decide_eq_false (by omega)⟩
theorem of38 (w : World) : Calls Tryz.prog 15 #[.agg #[.int .i64 4,.int .i64 8,.int .i64 4,.int .i64 20,.int .i64 100,.int .i64 600,.int .i64 3],.int .i64 38] w fun e w'=>e = .returned (.int .i64 0) /\ Below w.heap.size w w':=by
 have h:=lof_any good11 38 (by decide) w
 have e:=chunkOf_in (t:=4) (n:=8) (k:=4) (m:=20) (i:=0) (u:=0) (by decide) (by decide)
 have e' : chunkOf 4 8 4 20 38 = 0:=e
 rw [e'] at h
 exact h
theorem arena11 (w : World) : Calls Tryz.prog 30 #[.int .i64 4,.int .i64 8,.int .i64 4,.int .i64 20] w fun e w'=>∃ (L : Loc) (s : Mm),e = .returned (.tuple #[.agg #[.int .i64 4,.int .i64 8,.int .i64 4,.int .i64 20,.int .i64 100,.int .i64 600,.int .i64 3,.pointer (some ⟨L.p,0,none⟩),.int .i64 0],.bool true]) /\ MemAt w' L s /\ Town 4 8 4 20 s 17 (Q.new 8) /\ Below w.heap.size w w' /\ ∀ k,L.has k -> w.heap.size <= k:=arena08 good11 (by omega) w
structure BgnS (w W : World) (L : Loc) (D : Nat) (st : Int) (s : Mm) (σ : Nat) (q : Q) : Prop where
 sp : Spt w W L w.heap.size 4 8 4 20 s σ q
 ee : ∃ cs,At W w.heap.size 0 27 cs [.int .i64 4,.int .i64 8,.int .i64 4,.int .i64 20,.int .i64 100,.int .i64 600,.int .i64 3,.pointer (some ⟨L.p,0,none⟩),.int .i64 0]
 dd : ∃ cs,At W D 0 48 cs [.int .i64 0,.int .u64 65536,.int .i64 0,.int .i64 st]
 hh : ∃ cs,At W (w.heap.size + 1) 0 30 cs [.int .i64 0,.int .i64 0,.int .i64 0,.int .i64 0,.bool false]
section
variable {w W W' : World} {L : Loc} {D σ : Nat} {st : Int} {s : Mm} {q : Q}
theorem BgnS.grown (f : BgnS w W L D st s σ q) (g : Below W.heap.size W W') : BgnS w W' L D st s σ q:=⟨f.sp.grown g,f.ee.imp fun _ h=>h.grown g,f.dd.imp fun _ h=>h.grown g,f.hh.imp fun _ h=>h.grown g⟩
theorem BgnS.drew (f : BgnS w W L D st s σ q) : BgnS w W.drew L D st s σ q:=f.grown ((Below.refl _ _).drew)
theorem BgnS.only (f : BgnS w W L D st s σ q) (a : FarmApart w L w.heap.size 4 8 4 20 100) (hD : ¬ L.has D) (hH : ¬ L.has (w.heap.size + 1)) {s' : Mm} {σ' : Nat} {q' : Q} (o : Only L.has W W') (m : MemAt W' L s') (t : Town 4 8 4 20 s' σ' q') : BgnS w W' L D st s' σ' q' :=
 ⟨f.sp.only a o m t,f.ee.imp fun _ h=>h.only o a.e,f.dd.imp fun _ h=>h.only o hD,f.hh.imp fun _ h=>h.only o hH⟩
theorem BgnS.re (f : BgnS w W L D st s σ q) (a : FarmApart w L w.heap.size 4 8 4 20 100) (hD : D ≠ w.heap.size) : BgnS w (((((((((W.setCell ⟨w.heap.size,0,none⟩ (.int .i64 4)).setCell ⟨w.heap.size,1,none⟩ (.int .i64 8)).setCell ⟨w.heap.size,2,none⟩ (.int .i64 4)).setCell ⟨w.heap.size,3,none⟩ (.int .i64 20)).setCell ⟨w.heap.size,4,none⟩ (.int .i64 100)).setCell ⟨w.heap.size,5,none⟩ (.int .i64 600)).setCell ⟨w.heap.size,6,none⟩ (.int .i64 3)).setCell ⟨w.heap.size,7,none⟩ (.pointer (some ⟨L.p,0,none⟩))).setCell ⟨w.heap.size,8,none⟩ (.int .i64 0)) L D st s σ q:=by
 obtain ⟨ce,e⟩:=f.ee
 obtain ⟨cd,d⟩:=f.dd
 obtain ⟨ch,h⟩:=f.hh
 have e2:=(((((((((e.put0 0 (.int .i64 4)).put0 1 (.int .i64 8)).put0 2 (.int .i64 4)).put0 3 (.int .i64 20)).put0 4 (.int .i64 100)).put0 5 (.int .i64 600)).put0 6 (.int .i64 3)).put0 7 (.pointer (some ⟨L.p,0,none⟩))).put0 8 (.int .i64 0))
 refine ⟨⟨(((((((((f.sp.mm.setIn a.e 0 (.int .i64 4)).setIn a.e 1 (.int .i64 8)).setIn a.e 2 (.int .i64 4)).setIn a.e 3 (.int .i64 20)).setIn a.e 4 (.int .i64 100)).setIn a.e 5 (.int .i64 600)).setIn a.e 6 (.int .i64 3)).setIn a.e 7 (.pointer (some ⟨L.p,0,none⟩))).setIn a.e 8 (.int .i64 0)),f.sp.tw,⟨e2.at0 0 rfl,e2.at0 1 rfl,e2.at0 2 rfl,e2.at0 3 rfl,e2.at0 4 rfl,e2.at0 5 rfl,e2.at0 6 rfl,e2.at0 7 rfl,e2.at0 8 rfl⟩,(below_setIn (below_setIn (below_setIn (below_setIn (below_setIn (below_setIn (below_setIn (below_setIn (below_setIn f.sp.b (Nat.le_refl _) 0 (.int .i64 4)) (Nat.le_refl _) 1 (.int .i64 8)) (Nat.le_refl _) 2 (.int .i64 4)) (Nat.le_refl _) 3 (.int .i64 20)) (Nat.le_refl _) 4 (.int .i64 100)) (Nat.le_refl _) 5 (.int .i64 600)) (Nat.le_refl _) 6 (.int .i64 3)) (Nat.le_refl _) 7 (.pointer (some ⟨L.p,0,none⟩))) (Nat.le_refl _) 8 (.int .i64 0))⟩,⟨_,e2⟩,⟨_,(((((((((d.other hD 0 (.int .i64 4)).other hD 1 (.int .i64 8)).other hD 2 (.int .i64 4)).other hD 3 (.int .i64 20)).other hD 4 (.int .i64 100)).other hD 5 (.int .i64 600)).other hD 6 (.int .i64 3)).other hD 7 (.pointer (some ⟨L.p,0,none⟩))).other hD 8 (.int .i64 0))⟩,⟨_,(((((((((h.other (by omega : w.heap.size + 1 ≠ w.heap.size) 0 (.int .i64 4)).other (by omega : w.heap.size + 1 ≠ w.heap.size) 1 (.int .i64 8)).other (by omega : w.heap.size + 1 ≠ w.heap.size) 2 (.int .i64 4)).other (by omega : w.heap.size + 1 ≠ w.heap.size) 3 (.int .i64 20)).other (by omega : w.heap.size + 1 ≠ w.heap.size) 4 (.int .i64 100)).other (by omega : w.heap.size + 1 ≠ w.heap.size) 5 (.int .i64 600)).other (by omega : w.heap.size + 1 ≠ w.heap.size) 6 (.int .i64 3)).other (by omega : w.heap.size + 1 ≠ w.heap.size) 7 (.pointer (some ⟨L.p,0,none⟩))).other (by omega : w.heap.size + 1 ≠ w.heap.size) 8 (.int .i64 0))⟩⟩
end
def BgnK (w : World) (L : Loc) (D : Nat) (st : Int) (s : Mm) (σ : Nat) (q : Q) (x y : World) : Prop:=BgnS w x L D st s σ q -> BgnS w y L D st s σ q
theorem Beg.congr {Z : Nat} {val val' : Nat -> Int} {q : Q} (h : Beg Z val q) (e : ∀ j,j < Z -> val j = val' j) : Beg Z val' q :=
 ⟨h.z1,h.z2,h.wd,h.sw,h.hA,fun j hj=>(h.cl j hj).trans (e j hj),fun j hj=>by rw [<- e j hj];exact h.vb j hj,h.nf,h.lv,h.y⟩
set_option maxHeartbeats 4000000 in
set_option maxRecDepth 20000 in
theorem begun_any (a : Int) (ao : Option Addr) (N cap : Nat) (z : Nat -> Int) (w : World) (hz : IntsAt .i64 w ao N z) {Z : Nat} (hZ : (1 : Int) + bits .and .i64 a 15 = Z) (z1 : 1 <= Z) (z2 : Z <= 16) :
 Calls Tryz.prog 9 #[.int .i64 a,.slice ao N cap] w fun e w'=>∃ (L : Loc) (s : Mm) (σ : Nat) (q : Q),e = .returned (.tuple #[.agg #[.int .i64 4,.int .i64 8,.int .i64 4,.int .i64 20,.int .i64 100,.int .i64 600,.int .i64 3,.pointer (some ⟨L.p,0,none⟩),.int .i64 0],.int .u64 65536,.int .i64 38,.agg #[.int .i64 2,.int .i64 Z,.int .i64 0,.int .i64 1,.bool false],.bool true]) /\ σ <= 1000 /\ MemAt w' L s /\ Town 4 8 4 20 s σ q /\ AtA Z 0 0 1 (vals N z Z) q /\ q.y = yB (mw Z 0).κ /\ Below w.heap.size w w' /\ ∀ k,L.has k -> w.heap.size <= k:=by
 have HZ : Hid (IntsAt .i64 w ao N z):=hz
 have hZw : IntKind.i64.wrap ((1 : Int) + bits .and .i64 a 15) = (Z : Int):=by rw [hZ,IntKind.wrap_i64];omega
 have e0:=(At.new w 27 [.int .i64 0,.int .i64 0,.int .i64 0,.int .i64 0,.int .i64 0,.int .i64 0,.int .i64 0,.pointer none,.int .i64 0]).grown (grow1 _ (.cells #[.int .i64 0,.int .i64 0,.int .i64 0,.int .i64 0,.bool false] 30))
 have h0:=At.new2 w (.cells #[.int .i64 0,.int .i64 0,.int .i64 0,.int .i64 0,.int .i64 0,.int .i64 0,.int .i64 0,.pointer none,.int .i64 0] 27) 30 [.int .i64 0,.int .i64 0,.int .i64 0,.int .i64 0,.bool false]
 clear hz hZ
 go_enter Tryz.func9,Tryz.ntmps9
 go_wp2_with (first
  | (go_at_call 30;refine (arena11 _).mono ?_;rintro e w1 ⟨L,s,rfl,m1,t1,b1,l1⟩;have e1:=e0.grown b1;have z0_:=e1.at0 0 rfl;have z1_:=e1.at0 1 rfl;have z2_:=e1.at0 2 rfl;have z3_:=e1.at0 3 rfl;have z4_:=e1.at0 4 rfl;have z5_:=e1.at0 5 rfl;have z6_:=e1.at0 6 rfl;have z7_:=e1.at0 7 rfl;have z8_:=e1.at0 8 rfl;have ef:=e1.fz;have hEL : ¬ L.has w.heap.size:=(fun hh=>by have:=l1 _ hh;simp only [Go.Deep.nblk_alloc] at this;omega);have hHL : Hid (¬ L.has (w.heap.size + 1)):=(fun hh=>by have:=l1 _ hh;simp only [Go.Deep.nblk_alloc] at this;omega);have FA : Hid (FarmApart w L w.heap.size 4 8 4 20 100):=⟨fun k hk=>by have:=l1 k hk;simp only [Go.Deep.nblk_alloc] at this;omega,hEL,Nat.le_refl _,good11⟩;have e2:=(((((((((e1.put0 0 (.int .i64 4)).put0 1 (.int .i64 8)).put0 2 (.int .i64 4)).put0 3 (.int .i64 20)).put0 4 (.int .i64 100)).put0 5 (.int .i64 600)).put0 6 (.int .i64 3)).put0 7 (.pointer (some ⟨L.p,0,none⟩))).put0 8 (.int .i64 0));have m2:=(((((((((m1.setIn hEL 0 (.int .i64 4)).setIn hEL 1 (.int .i64 8)).setIn hEL 2 (.int .i64 4)).setIn hEL 3 (.int .i64 20)).setIn hEL 4 (.int .i64 100)).setIn hEL 5 (.int .i64 600)).setIn hEL 6 (.int .i64 3)).setIn hEL 7 (.pointer (some ⟨L.p,0,none⟩))).setIn hEL 8 (.int .i64 0));have b2:=(below_setIn (below_setIn (below_setIn (below_setIn (below_setIn (below_setIn (below_setIn (below_setIn (below_setIn (grow (grow_alloc (grow1 w (.cells #[.int .i64 0,.int .i64 0,.int .i64 0,.int .i64 0,.int .i64 0,.int .i64 0,.int .i64 0,.pointer none,.int .i64 0] 27)) (.cells #[.int .i64 0,.int .i64 0,.int .i64 0,.int .i64 0,.bool false] 30)) b1) (Nat.le_refl _) 0 (.int .i64 4)) (Nat.le_refl _) 1 (.int .i64 8)) (Nat.le_refl _) 2 (.int .i64 4)) (Nat.le_refl _) 3 (.int .i64 20)) (Nat.le_refl _) 4 (.int .i64 100)) (Nat.le_refl _) 5 (.int .i64 600)) (Nat.le_refl _) 6 (.int .i64 3)) (Nat.le_refl _) 7 (.pointer (some ⟨L.p,0,none⟩))) (Nat.le_refl _) 8 (.int .i64 0));have h2:=((((((((((h0.grown b1).other (by omega : w.heap.size + 1 ≠ w.heap.size) 0 (.int .i64 4)).other (by omega : w.heap.size + 1 ≠ w.heap.size) 1 (.int .i64 8)).other (by omega : w.heap.size + 1 ≠ w.heap.size) 2 (.int .i64 4)).other (by omega : w.heap.size + 1 ≠ w.heap.size) 3 (.int .i64 20)).other (by omega : w.heap.size + 1 ≠ w.heap.size) 4 (.int .i64 100)).other (by omega : w.heap.size + 1 ≠ w.heap.size) 5 (.int .i64 600)).other (by omega : w.heap.size + 1 ≠ w.heap.size) 6 (.int .i64 3)).other (by omega : w.heap.size + 1 ≠ w.heap.size) 7 (.pointer (some ⟨L.p,0,none⟩))).other (by omega : w.heap.size + 1 ≠ w.heap.size) 8 (.int .i64 0));have y0:=e2.at0 0 rfl;have y1:=e2.at0 1 rfl;have y2:=e2.at0 2 rfl;have y3:=e2.at0 3 rfl;have y4:=e2.at0 4 rfl;have y5:=e2.at0 5 rfl;have y6:=e2.at0 6 rfl;have y7:=e2.at0 7 rfl;have y8:=e2.at0 8 rfl;have f2 : Farm w _ L w.heap.size 4 8 4 20 100 s 17 (Q.new 8) 0 (fun _=>1) []:=⟨m2,t1,tame0 4 8 4 20,⟨y0,y1,y2,y3,y4,y5,y6,y7,y8⟩,b2⟩;obtain ⟨q1,B1,mk⟩:=beg_make f2 FA.out z1 z2 (by decide))
  | (go_at_call 31;refine (mk _ f2).mono ?_;rintro e w3 ⟨st,s3,σ3,rfl,hσ3,f3,o3⟩;have d3:=At.new w3 48 [.int .i64 0,.int .u64 65536,.int .i64 0,.int .i64 st];have dz:=d3.at0 0 rfl))
 obtain ⟨D,hD⟩ : ∃ D,w3.heap.size = D:=⟨_,rfl⟩
 have hDL : Hid (¬ L.has D):=fun hh=>by have:=f3.mm.lt _ hh;omega
 have hDE : Hid (D ≠ w.heap.size):=by
  have:=f3.ltE
  unfold Hid;omega
 rw [hD] at d3
 try rw [hD]
 have A0 : Hid (BgnS w (w3.alloc (.cells #[.int .i64 0,.int .u64 65536,.int .i64 0,.int .i64 st] 48)) L D st s3 σ3 q1):=⟨f3.grown (grow1 _ _),⟨_,(e2.only o3 hEL).grown (grow1 _ _)⟩,⟨_,d3⟩,⟨_,(h2.only o3 hHL.out).grown (grow1 _ _)⟩⟩
 have HB : Hid (Beg Z (vals N z 0) q1 /\ σ3 <= 117):=⟨B1.congr (fun j _=>by unfold vals;rw [if_neg (by omega)]),by omega⟩
 clear B1 mk f2 e0 h0 e1 e2 m1 m2 b1 b2 h2 t1 l1 f3 o3 d3 dz ef hD hσ3 y0 z0_ y1 z1_ y2 z2_ y3 z3_ y4 z4_ y5 z5_ y6 z6_ y7 z7_ y8 z8_
 go_loopw [11] (fun i wr=>∃ (r : Nat) (s' : Mm) (σ : Nat) (q : Q),i = .int .i64 r /\ r <= Z /\ σ <= 117 + 4 * r /\ Beg Z (vals N z r) q /\ BgnS w wr L D st s' σ q) (fun i _=>16 - (intOf i).toNat)
 case atStart=>exact ⟨0,s3,σ3,q1,rfl,by omega,HB.out.2,HB.out.1,A0.out⟩
 case round =>
  clear A0 HB
  obtain ⟨r,s',σ,q,rfl,hrZ,hσ,B,f⟩:=hrel
  by_cases hr : r < Z
  · have hr' : (r : Int) < (Z : Int):=by omega
    by_cases hrN : r < N
    · have hrN' : (r : Int) < (N : Int):=by omega
      obtain ⟨zb,zo,rfl,hk⟩:=HZ.out r hrN
      have hc1:=keep' f.sp.b hk
      have HB : Hid (Beg Z (vals N z r) q):=B
      have HFt : Hid (Fit (lw (z r))):=by
       have:=lw_bd (z r)
       exact ⟨by omega,by omega⟩
      clear B hk
      go_wp2
      refine wp_over (fun W=>BgnS w W L D st s' σ q /\ W.cell? ⟨zb,zo + r,none⟩ = some (.int .i64 (z r))) ⟨f,hc1⟩ ?_
      clear f hc1
      rintro W ⟨f1,hz1⟩
      obtain ⟨_,d1⟩:=f1.dd
      refine wp_region_rely_tail Grown 10 [.val (.agg #[.int .i64 4,.int .i64 8,.int .i64 4,.int .i64 20,.int .i64 100,.int .i64 600,.int .i64 3,.pointer (some ⟨L.p,0,none⟩),.int .i64 0]),.val (.pointer (some ⟨D,1,none⟩)),.val (.int .u64 65536),.val (.int .i64 r),.val (.slice (some ⟨zb,zo,none⟩) N cap),.val (.int .i64 r),.val (.pointer (some ⟨zb,zo + r,none⟩)),.val (.int .i64 (z r)),.val (.int .i64 (lw (z r))),.val (.agg #[.int .i64 2,.int .u64 65536,.int .i64 r,.int .i64 (lw (z r)),.int .i64 0])] (by kernel_rfl) Grown.refl Grown.trans (by decide) (by kernel_rfl) (by kernel_rfl) (by kernel_rfl) (by kernel_rfl) (by kernel_rfl) (by kernel_rfl) ?_
      simp only [List.take_succ_cons,List.take_zero,relyAll,Act.put,List.setIfInBounds_toArray,List.set_cons_zero,List.set_cons_succ]
      refine ⟨?_,?_,?_,?_,?_,?_,?_,?_,?_,?_,?_⟩
      · intro w' hg _
        apply ol
        obtain ⟨y0,y1,y2,y3,y4,y5,y6,y7,y8⟩:=(f1.sp.v.grown ((Below.refl _ _).drew)).grown hg
        go_simp
        exact gl
      · intros;apply ol;go_simp;exact gl
      · intro w' hg _
        apply ol
        have z0:=(d1.drew.grown hg).at0 1 rfl
        go_simp
        exact gl
      · intros;apply ol;go_simp;exact gl
      · intros;apply ol;go_simp;exact gl
      · intros;apply ol;go_simp;exact gl
      · intro w' hg _
        apply ol
        have hb : (0 : Int) <= (r : Int):=by omega
        go_simp
        exact gl
      · intro w' hg _
        apply ol
        have z:=keep' hg (keep' ((Below.refl _ _).drew) hz1)
        go_simp
        exact gl
      · intros;apply ol;go_simp;exact gl
      · intros;apply ol;go_simp;exact gl
      intro w5 hg _
      have f5:=f1.drew.grown hg
      clear hg f1 d1 hz1
      go_wp2_with (go_at_call 32;refine (do11 f5.sp FA.out HB.out.wd (by omega) (Or.inr rfl) HFt.out (by decide : 4 <= 200) (HB.out.goes hr (lw_bd (z r)) σ)).mono ?_;rintro e w6 ⟨rfl,s6,f6,o6⟩)
      go_roundw
      case rel=>exact ⟨r + 1,s6,σ + 4,_,by go_num,by omega,by omega,vals_succ (z:=z) hrN ▸ HB.out.lay hr (lw_bd (z r)),f5.only FA.out hDL.out hHL.out o6 f6.mm f6.tw⟩
      case measure=>simp [intOf];omega
    · have hrN' : ¬ (r : Int) < (N : Int):=by omega
      have B:=B.congr (val':=vals N z Z) (fun j hj=>by
       unfold vals
       by_cases h1 : j < N
       · rw [if_pos ⟨by omega,h1⟩,if_pos ⟨hj,h1⟩]
       · rw [if_neg (fun h=>h1 h.2),if_neg (fun h=>h1 h.2)])
      have hσ : σ <= 200:=by omega
      obtain ⟨κ,hκe⟩ : ∃ κ,(mw Z 0).κ = κ:=⟨_,rfl⟩
      have k4 : κ < 4:=by rw [<- hκe];exact (mw_ok (c:=0) B.z1 B.z2 (by decide)).k4
      have hrb:=room_bd κ
      have hsw:=B.sw
      obtain ⟨v,hv⟩ : ∃ v,q.sw 0 = v:=⟨_,rfl⟩
      rw [hv] at hsw
      have HV : Hid (s'.wd 10 = v):=by unfold Hid;rw [<- hv];exact f.sp.tw.swv 0 (by decide)
      have slI : SlotIs v 1 38 1 0:=by
       have h1:=slotIs v hsw.wd
       rw [hsw.s,hsw.a,hsw.g,hsw.r] at h1
       exact h1
      have hn : s'.n = 118:=f.sp.tw.len
      have hn10 : 10 < s'.n:=by omega
      have hn26 : 26 < s'.n:=by omega
      have hn38 : 38 < (s'.step 26 0).n:=by show 38 < s'.n;omega
      have sl:=slI.call
      have of0:=of38
      have hcw : s'.wd 26 = (⟨1,κ,room κ,1⟩ : Ck).w:=by
       have e:=f.sp.tw.yard.ckv 0 (by decide)
       rw [B.y,hκe] at e
       exact e
      have okA : (⟨1,κ,room κ,1⟩ : Ck).ok 1:=⟨by simp only;omega,by simp only;omega,by simp only;omega,by simp only;omega⟩
      have okB : (⟨2,κ,room κ,2⟩ : Ck).ok 2:=⟨by simp only;omega,by simp only;omega,by simp only;omega,by simp only;omega⟩
      have cw:=fun w=>chunk_w ⟨1,κ,room κ,1⟩ 1 okA (by decide) w
      have pc:=fun w=>putChunk_w ⟨2,κ,room κ,2⟩ 2 okB (by decide) 2 κ (room κ) 2 rfl rfl rfl rfl w
      have tw':=B.evac f.sp.tw (by omega)
      rw [hκe] at tw'
      obtain ⟨ck,hck⟩ : ∃ x,(⟨2,κ,room κ,2⟩ : Ck).w = x:=⟨_,rfl⟩
      rw [hck] at tw' pc
      obtain ⟨cka,hcka⟩ : ∃ x,(⟨1,κ,room κ,1⟩ : Ck).w = x:=⟨_,rfl⟩
      rw [hcka] at cw hcw
      have HCW : Hid (s'.wd 26 = cka):=hcw
      have at':=B.at
      have hA:=B.hA
      have z2':=B.z2
      rw [hκe] at at'
      obtain ⟨hw,hhw⟩ : ∃ x,(mw Z 0).hw 2 = x:=⟨_,rfl⟩
      have HW : Hid ((s'.step 26 ck).wd 38 = hw):=by
       unfold Hid
       have e:=tw'.dwv 38 (by decide)
       rw [e,<- hhw]
       exact hA
      have hdI : HeadIs hw 2 Z 0 1 false:=by
       have wd : Wd hw:=by rw [<- hhw];exact Mw.hw_wd _ _
       have d0:=hw_full (c:=0) z2'
       rw [hhw] at d0
       exact ⟨wd.1,wd.2,d0.1,d0.2.1,d0.2.2.1,d0.2.2.2.1,d0.2.2.2.2⟩
      have hd:=hdI.call
      have FIN : Hid (Town 4 8 4 20 (s'.step 26 ck) (σ + 1) { q with y:=yB κ } /\ AtA Z 0 0 1 (vals N z Z) { q with y:=yB κ } /\ σ <= 900 /\ (mw Z 0).κ = κ):=⟨tw',at',by omega,hκe⟩
      have ffS : ∀ (a1 a2 a3 a4 : Value) (w : World),(Instr.field 42 (.agg #[a1,a2,a3,a4]) 1).run Tryz.prog w = .ok a2 w:=fun a1 a2 a3 a4 w=>by kernel_rfl
      clear hck hcka hv hκe hhw hdI slI tw' at' B hcw okA okB hA hsw
      obtain ⟨_,dd0⟩:=f.dd
      have hn1:=dd0.at0 1 rfl
      go_wp2_with (go_at_call 33;refine (hand01.call _).mono ?_;rintro e w4 ⟨rfl,b4⟩)
      have x0:=At.new w4 74 [.int .i64 ((0 : Nat) : Int),.int .i64 ((1 : Nat) : Int)]
      obtain ⟨X,hX⟩ : ∃ X,w4.heap.size = X:=⟨_,rfl⟩
      rw [hX] at x0
      try rw [hX]
      refine wp_over (fun W=>BgnS w W L D st s' σ q /\ At W X 0 74 _ [.int .i64 0,.int .i64 1]) ⟨(f.grown b4).grown (grow1 _ _),x0⟩ ?_
      clear f x0 b4 hX hn1 dd0
      rintro W ⟨f1,x1⟩
      obtain ⟨_,d1⟩:=f1.dd
      refine wp_region_rely Grown [.val (.pointer (some ⟨w.heap.size,7,none⟩)),.val (.pointer (some ⟨L.p,0,none⟩)),.val (.pointer (some ⟨w.heap.size,0,none⟩)),.val (.agg #[.int .i64 4,.int .i64 8,.int .i64 4,.int .i64 20,.int .i64 100,.int .i64 600,.int .i64 3]),.val (.pointer (some ⟨X,0,none⟩)),.val (.int .i64 0),.val (.int .i64 10),.val (.int .u64 v),.val (.agg #[.int .i64 1,.int .i64 38,.int .i64 1,.int .i64 0]),.val (.int .i64 38),.val (.int .i64 38)] (by kernel_rfl) Grown.refl Grown.trans (by kernel_rfl) (by kernel_rfl) (by kernel_rfl) ?_
      simp only [relyAll,Act.put,List.setIfInBounds_toArray,List.set_cons_zero,List.set_cons_succ]
      refine ⟨?_,?_,?_,?_,?_,?_,?_,?_,?_,?_,?_,?_⟩
      · intros;apply ol;go_simp;exact gl
      · intro w' hg _
        apply ol
        obtain ⟨y0,y1,y2,y3,y4,y5,y6,y7,y8⟩:=(f1.sp.v.grown ((Below.refl _ _).drew)).grown hg
        go_simp
        exact gl
      · intros;apply ol;go_simp;exact gl
      · intro w' hg _
        apply ol
        obtain ⟨y0,y1,y2,y3,y4,y5,y6,y7,y8⟩:=(f1.sp.v.grown ((Below.refl _ _).drew)).grown hg
        go_simp
        exact gl
      · intros;apply ol;go_simp;exact gl
      · intro w' hg _
        apply ol
        have z0:=(x1.drew.grown hg).at0 0 rfl
        go_simp
        exact gl
      · intro w' hg _
        apply ol
        go_simp
        refine (lslot_any _ _ _ _ _ _ _ 0 _ good11.arena (by omega) (by omega)).mono ?_
        rintro e w'' ⟨rfl,b9⟩
        exact ⟨_,rfl,b9,congrArg (Value.int .i64) (by omega)⟩
      · intro w' hg _
        apply ol
        go_simp
        refine (peek_is (f1.sp.mm.drew.below hg) 10 hn10 v HV.out).mono ?_
        rintro e w'' ⟨rfl,rfl⟩
        exact ⟨_,rfl,Grown.refl _,rfl⟩
      · intro w' hg _
        apply ol
        go_simp
        refine (sl _).mono ?_
        rintro e w'' ⟨rfl,b9⟩
        exact ⟨_,rfl,b9,rfl⟩
      · intros;apply ol;go_simp;exact gl
      · intros;apply ol;go_simp;exact gl
      intro w5 hg _
      have f5:=f1.drew.grown hg
      clear hg f1 d1 x1 sl
      go_wp2
      refine wp_over (fun W=>BgnS w W L D st s' σ q) f5 ?_
      clear f5
      intro W f1
      refine wp_region_rely Grown [.val (.pointer (some ⟨w.heap.size,0,none⟩)),.val (.agg #[.int .i64 4,.int .i64 8,.int .i64 4,.int .i64 20,.int .i64 100,.int .i64 600,.int .i64 3]),.val (.pointer (some ⟨w.heap.size,0,none⟩)),.val (.agg #[.int .i64 4,.int .i64 8,.int .i64 4,.int .i64 20,.int .i64 100,.int .i64 600,.int .i64 3]),.val (.int .i64 38),.val (.int .i64 0),.val (.int .i64 26),.val (.int .i64 26)] (by kernel_rfl) Grown.refl Grown.trans (by kernel_rfl) (by kernel_rfl) (by kernel_rfl) ?_
      simp only [relyAll,Act.put,List.setIfInBounds_toArray,List.set_cons_zero,List.set_cons_succ]
      refine ⟨?_,?_,?_,?_,?_,?_,?_,?_,?_⟩
      · intros;apply ol;go_simp;exact gl
      · intro w' hg _
        apply ol
        obtain ⟨y0,y1,y2,y3,y4,y5,y6,y7,y8⟩:=(f1.sp.v.grown ((Below.refl _ _).drew)).grown hg
        go_simp
        exact gl
      · intros;apply ol;go_simp;exact gl
      · intro w' hg _
        apply ol
        obtain ⟨y0,y1,y2,y3,y4,y5,y6,y7,y8⟩:=(f1.sp.v.grown ((Below.refl _ _).drew)).grown hg
        go_simp
        exact gl
      · intros;apply ol;go_simp;exact gl
      · intro w' hg _
        apply ol
        go_simp
        refine (of0 _).mono ?_
        rintro e w'' ⟨rfl,b9⟩
        exact ⟨_,rfl,b9,rfl⟩
      · intro w' hg _
        apply ol
        go_simp
        refine (lchunk_any _ _ _ _ _ _ _ 0 _ good11.arena (by omega) (by omega)).mono ?_
        rintro e w'' ⟨rfl,b9⟩
        exact ⟨_,rfl,b9,congrArg (Value.int .i64) (by omega)⟩
      · intros;apply ol;go_simp;exact gl
      intro w6 hg _
      have f6:=f1.drew.grown hg
      clear hg f1 of0
      obtain ⟨y0,y1,y2,y3,y4,y5,y6,y7,y8⟩:=f6.sp.v
      go_wp2_with (first
       | (go_at_call 22;refine (peek_is f6.sp.mm 26 hn26 cka HCW.out).mono ?_;rintro e w7 ⟨rfl,rfl⟩)
       | (go_at_call 23;refine (cw _).mono ?_;rintro e w7 ⟨rfl,b7⟩;have q7:=At.new w7 54 [.int .i64 1,.int .i64 κ,.int .i64 (room κ),.int .i64 1];have t0:=q7.at0 0 rfl;have t3:=q7.at0 3 rfl;have tf:=q7.fz))
      have q8:=At.new w7 54 [.int .i64 2,.int .i64 κ,.int .i64 (room κ),.int .i64 2]
      obtain ⟨C,hC⟩ : ∃ C,w7.heap.size = C:=⟨_,rfl⟩
      rw [hC] at q8
      try rw [hC]
      refine wp_over (fun W=>BgnS w W L D st s' σ q /\ At W C 0 54 _ [.int .i64 2,.int .i64 κ,.int .i64 (room κ),.int .i64 2]) ⟨(f6.grown b7).grown (grow1 _ _),q8⟩ ?_
      clear f6 q7 q8 t0 t3 tf b7 hC cw y0 y1 y2 y3 y4 y5 y6 y7 y8
      rintro W ⟨f1,c1⟩
      refine wp_region_rely_tail Grown 5 [.val (.pointer (some ⟨w.heap.size,7,none⟩)),.val (.pointer (some ⟨L.p,0,none⟩)),.val (.int .i64 26),.val (.agg #[.int .i64 2,.int .i64 κ,.int .i64 (room κ),.int .i64 2]),.val (.int .u64 ck)] (by kernel_rfl) Grown.refl Grown.trans (by decide) (by kernel_rfl) (by kernel_rfl) (by kernel_rfl) (by kernel_rfl) (by kernel_rfl) (by kernel_rfl) ?_
      simp only [List.take_succ_cons,List.take_zero,relyAll,Act.put,List.setIfInBounds_toArray,List.set_cons_zero,List.set_cons_succ]
      refine ⟨?_,?_,?_,?_,?_,?_⟩
      · intros;apply ol;go_simp;exact gl
      · intro w' hg _
        apply ol
        obtain ⟨y0,y1,y2,y3,y4,y5,y6,y7,y8⟩:=(f1.sp.v.grown ((Below.refl _ _).drew)).grown hg
        go_simp
        exact gl
      · intros;apply ol;go_simp;exact gl
      · intro w' hg _
        apply ol
        have z0:=(c1.drew.grown hg).at0 0 rfl
        have z1:=(c1.drew.grown hg).at0 1 rfl
        have z2:=(c1.drew.grown hg).at0 2 rfl
        have z3:=(c1.drew.grown hg).at0 3 rfl
        go_simp
        exact gl
      · intro w' hg _
        apply ol
        go_simp
        refine (pc _).mono ?_
        rintro e w'' ⟨rfl,b9⟩
        exact ⟨_,rfl,b9,rfl⟩
      intro w8 hg _
      have f8:=f1.drew.grown hg
      clear hg f1 c1 pc
      go_wp2_with (go_at_call 28;refine (store_in f8.sp.mm 26 hn26 ck).mono ?_;rintro e w9 ⟨rfl,m9,o9,z9⟩)
      refine wp_over (fun W=>BgnS w W L D st (s'.step 26 ck) (σ + 1) { q with y:=yB κ }) (f8.only FA.out hDL.out hHL.out o9 m9 FIN.out.1) ?_
      clear f8 m9 o9 z9
      intro W f1
      refine wp_region_phase_tail (BgnK w L D st (s'.step 26 ck) (σ + 1) { q with y:=yB κ }) Grown (fun _ W=>BgnS w W L D st (s'.step 26 ck) (σ + 1) { q with y:=yB κ }) 11 [9] [.val (.agg #[.int .i64 4,.int .i64 8,.int .i64 4,.int .i64 20,.int .i64 100,.int .i64 600,.int .i64 3,.pointer (some ⟨L.p,0,none⟩),.int .i64 0]),.val (.pointer (some ⟨D,1,none⟩)),.val (.int .u64 65536),.val (.int .i64 38),.val (.pointer (some ⟨w.heap.size,7,none⟩)),.val (.pointer (some ⟨L.p,0,none⟩)),.val (.int .i64 38),.val (.int .u64 hw),.val (.agg #[.int .i64 2,.int .i64 Z,.int .i64 0,.int .i64 1,.bool false]),.that (fun _ _=>True) (fun _ _ _ _ _=>trivial),.val (.int .u64 65536)]
       (by kernel_rfl) (fun _ h=>h) (fun _ _ _ h k f=>k (h f)) (fun x y h f=>f.grown h) (fun x y _ h f=>f.grown h) f1.drew (by decide) (by kernel_rfl) (by kernel_rfl) (by kernel_rfl) (by kernel_rfl) (by kernel_rfl) (by kernel_rfl) (by kernel_rfl) (by kernel_rfl) ?_
      simp only [List.take_succ_cons,List.take_zero,phaseAll,Act.put,List.setIfInBounds_toArray,List.set_cons_zero,List.set_cons_succ]
      refine ⟨?_,⟨?_,⟨?_,⟨?_,⟨?_,⟨?_,⟨?_,⟨?_,⟨?_,⟨?_,fun _=>⟨?_,?_⟩⟩⟩⟩⟩⟩⟩⟩⟩⟩⟩
      · intro w' hR _
        apply ol
        have f':=hR f1.drew
        have y0:=f'.sp.v.c0
        have y1:=f'.sp.v.c1
        have y2:=f'.sp.v.c2
        have y3:=f'.sp.v.c3
        have y4:=f'.sp.v.c4
        have y5:=f'.sp.v.c5
        have y6:=f'.sp.v.c6
        have y7:=f'.sp.v.c7
        have y8:=f'.sp.v.c8
        go_simp
        exact gl
      · intro w' hR _
        apply ol
        have f':=hR f1.drew
        go_simp
        exact gl
      · intro w' hR _
        apply ol
        have f':=hR f1.drew
        obtain ⟨_,dd⟩:=f'.dd
        have z:=dd.at0 1 rfl
        go_simp
        exact gl
      · intro w' hR _
        apply ol
        have f':=hR f1.drew
        go_simp
        exact gl
      · intro w' hR _
        apply ol
        have f':=hR f1.drew
        go_simp
        exact gl
      · intro w' hR _
        apply ol
        have f':=hR f1.drew
        have y0:=f'.sp.v.c0
        have y1:=f'.sp.v.c1
        have y2:=f'.sp.v.c2
        have y3:=f'.sp.v.c3
        have y4:=f'.sp.v.c4
        have y5:=f'.sp.v.c5
        have y6:=f'.sp.v.c6
        have y7:=f'.sp.v.c7
        have y8:=f'.sp.v.c8
        go_simp
        exact gl
      · intro w' hR _
        apply ol
        have f':=hR f1.drew
        go_simp
        exact gl
      · intro w' hR _
        apply ol
        have f':=hR f1.drew
        go_simp
        refine (peek_is f'.sp.mm 38 hn38 hw HW.out).mono ?_
        rintro e w'' ⟨rfl,rfl⟩
        exact ⟨_,rfl,Grown.refl _,rfl⟩
      · intro w' hR _
        apply ol
        have f':=hR f1.drew
        go_simp
        refine (hd _).mono ?_
        rintro e w'' ⟨rfl,b9⟩
        exact ⟨_,rfl,b9,rfl⟩
      · intro w' hR _ hP
        apply ol
        have f' : BgnS w w' L D st (s'.step 26 ck) (σ + 1) { q with y:=yB κ }:=hP
        obtain ⟨_,ee⟩:=f'.ee
        have y0:=ee.at0 0 rfl
        have y1:=ee.at0 1 rfl
        have y2:=ee.at0 2 rfl
        have y3:=ee.at0 3 rfl
        have y4:=ee.at0 4 rfl
        have y5:=ee.at0 5 rfl
        have y6:=ee.at0 6 rfl
        have y7:=ee.at0 7 rfl
        have y8:=ee.at0 8 rfl
        have yf:=ee.fz
        have fr:=f'.re FA.out hDE.out
        go_simp
        exact ⟨⟨fun _=>fr,fr⟩,trivial⟩
      · intro w' hR _
        apply ol
        have f':=hR f1.drew
        go_simp
        exact gl
      intro w9 hR9 hP9 _
      have f9 : BgnS w w9 L D st (s'.step 26 ck) (σ + 1) { q with y:=yB κ }:=hP9
      clear hR9 hP9 f1 hd
      obtain ⟨_,e9⟩:=f9.ee
      obtain ⟨_,h9⟩:=f9.hh
      have x0:=h9.at0 0 rfl
      have x1:=h9.at0 1 rfl
      have x2:=h9.at0 2 rfl
      have x3:=h9.at0 3 rfl
      have x4:=h9.at0 4 rfl
      have xf:=h9.fz
      have m9:=(((((f9.sp.mm.setIn hHL.out 0 (.int .i64 2)).setIn hHL.out 1 (.int .i64 Z)).setIn hHL.out 2 (.int .i64 0)).setIn hHL.out 3 (.int .i64 1)).setIn hHL.out 4 (.bool false))
      have b9:=(below_setIn (below_setIn (below_setIn (below_setIn (below_setIn f9.sp.b (by omega : w.heap.size <= w.heap.size + 1) 0 (.int .i64 2)) (by omega : w.heap.size <= w.heap.size + 1) 1 (.int .i64 Z)) (by omega : w.heap.size <= w.heap.size + 1) 2 (.int .i64 0)) (by omega : w.heap.size <= w.heap.size + 1) 3 (.int .i64 1)) (by omega : w.heap.size <= w.heap.size + 1) 4 (.bool false))
      have he:=(((((e9.other (by omega : w.heap.size ≠ w.heap.size + 1) 0 (.int .i64 2)).other (by omega : w.heap.size ≠ w.heap.size + 1) 1 (.int .i64 Z)).other (by omega : w.heap.size ≠ w.heap.size + 1) 2 (.int .i64 0)).other (by omega : w.heap.size ≠ w.heap.size + 1) 3 (.int .i64 1)).other (by omega : w.heap.size ≠ w.heap.size + 1) 4 (.bool false))
      have hhh:=(((((h9.put0 0 (.int .i64 2)).put0 1 (.int .i64 Z)).put0 2 (.int .i64 0)).put0 3 (.int .i64 1)).put0 4 (.bool false))
      have u0:=he.at0 0 rfl
      have u1:=he.at0 1 rfl
      have u2:=he.at0 2 rfl
      have u3:=he.at0 3 rfl
      have u4:=he.at0 4 rfl
      have u5:=he.at0 5 rfl
      have u6:=he.at0 6 rfl
      have u7:=he.at0 7 rfl
      have u8:=he.at0 8 rfl
      have g0:=hhh.at0 0 rfl
      have g1:=hhh.at0 1 rfl
      have g2:=hhh.at0 2 rfl
      have g3:=hhh.at0 3 rfl
      have g4:=hhh.at0 4 rfl
      go_wp2
      refine bodyPost_ret (v:=.tuple #[.agg #[.int .i64 4,.int .i64 8,.int .i64 4,.int .i64 20,.int .i64 100,.int .i64 600,.int .i64 3,.pointer (some ⟨L.p,0,none⟩),.int .i64 0],.int .u64 65536,.int .i64 38,.agg #[.int .i64 2,.int .i64 Z,.int .i64 0,.int .i64 1,.bool false],.bool true]) (by simp [results,Tryz.results9,go_sem,u0,u1,u2,u3,u4,u5,u6,u7,u8,g0,g1,g2,g3,g4]) rfl ?_
      exact ⟨L,_,_,_,rfl,by have:=FIN.out.2.2.1;omega,m9,FIN.out.1,FIN.out.2.1,by rw [FIN.out.2.2.2],b9,FA.out.l0⟩
  · have hr' : ¬ (r : Int) < (Z : Int):=by omega
    have e : r = Z:=by omega
    have B:=B.congr (val':=vals N z Z) (fun j hj=>by rw [e])
    have hσ : σ <= 200:=by omega
    clear e
    obtain ⟨κ,hκe⟩ : ∃ κ,(mw Z 0).κ = κ:=⟨_,rfl⟩
    have k4 : κ < 4:=by rw [<- hκe];exact (mw_ok (c:=0) B.z1 B.z2 (by decide)).k4
    have hrb:=room_bd κ
    have hsw:=B.sw
    obtain ⟨v,hv⟩ : ∃ v,q.sw 0 = v:=⟨_,rfl⟩
    rw [hv] at hsw
    have HV : Hid (s'.wd 10 = v):=by unfold Hid;rw [<- hv];exact f.sp.tw.swv 0 (by decide)
    have slI : SlotIs v 1 38 1 0:=by
     have h1:=slotIs v hsw.wd
     rw [hsw.s,hsw.a,hsw.g,hsw.r] at h1
     exact h1
    have hn : s'.n = 118:=f.sp.tw.len
    have hn10 : 10 < s'.n:=by omega
    have hn26 : 26 < s'.n:=by omega
    have hn38 : 38 < (s'.step 26 0).n:=by show 38 < s'.n;omega
    have sl:=slI.call
    have of0:=of38
    have hcw : s'.wd 26 = (⟨1,κ,room κ,1⟩ : Ck).w:=by
     have e:=f.sp.tw.yard.ckv 0 (by decide)
     rw [B.y,hκe] at e
     exact e
    have okA : (⟨1,κ,room κ,1⟩ : Ck).ok 1:=⟨by simp only;omega,by simp only;omega,by simp only;omega,by simp only;omega⟩
    have okB : (⟨2,κ,room κ,2⟩ : Ck).ok 2:=⟨by simp only;omega,by simp only;omega,by simp only;omega,by simp only;omega⟩
    have cw:=fun w=>chunk_w ⟨1,κ,room κ,1⟩ 1 okA (by decide) w
    have pc:=fun w=>putChunk_w ⟨2,κ,room κ,2⟩ 2 okB (by decide) 2 κ (room κ) 2 rfl rfl rfl rfl w
    have tw':=B.evac f.sp.tw (by omega)
    rw [hκe] at tw'
    obtain ⟨ck,hck⟩ : ∃ x,(⟨2,κ,room κ,2⟩ : Ck).w = x:=⟨_,rfl⟩
    rw [hck] at tw' pc
    obtain ⟨cka,hcka⟩ : ∃ x,(⟨1,κ,room κ,1⟩ : Ck).w = x:=⟨_,rfl⟩
    rw [hcka] at cw hcw
    have HCW : Hid (s'.wd 26 = cka):=hcw
    have at':=B.at
    have hA:=B.hA
    have z2':=B.z2
    rw [hκe] at at'
    obtain ⟨hw,hhw⟩ : ∃ x,(mw Z 0).hw 2 = x:=⟨_,rfl⟩
    have HW : Hid ((s'.step 26 ck).wd 38 = hw):=by
     unfold Hid
     have e:=tw'.dwv 38 (by decide)
     rw [e,<- hhw]
     exact hA
    have hdI : HeadIs hw 2 Z 0 1 false:=by
     have wd : Wd hw:=by rw [<- hhw];exact Mw.hw_wd _ _
     have d0:=hw_full (c:=0) z2'
     rw [hhw] at d0
     exact ⟨wd.1,wd.2,d0.1,d0.2.1,d0.2.2.1,d0.2.2.2.1,d0.2.2.2.2⟩
    have hd:=hdI.call
    have FIN : Hid (Town 4 8 4 20 (s'.step 26 ck) (σ + 1) { q with y:=yB κ } /\ AtA Z 0 0 1 (vals N z Z) { q with y:=yB κ } /\ σ <= 900 /\ (mw Z 0).κ = κ):=⟨tw',at',by omega,hκe⟩
    have ffS : ∀ (a1 a2 a3 a4 : Value) (w : World),(Instr.field 42 (.agg #[a1,a2,a3,a4]) 1).run Tryz.prog w = .ok a2 w:=fun a1 a2 a3 a4 w=>by kernel_rfl
    clear hck hcka hv hκe hhw hdI slI tw' at' B hcw okA okB hA hsw
    obtain ⟨_,dd0⟩:=f.dd
    have hn1:=dd0.at0 1 rfl
    go_wp2_with (go_at_call 33;refine (hand01.call _).mono ?_;rintro e w4 ⟨rfl,b4⟩)
    have x0:=At.new w4 74 [.int .i64 ((0 : Nat) : Int),.int .i64 ((1 : Nat) : Int)]
    obtain ⟨X,hX⟩ : ∃ X,w4.heap.size = X:=⟨_,rfl⟩
    rw [hX] at x0
    try rw [hX]
    refine wp_over (fun W=>BgnS w W L D st s' σ q /\ At W X 0 74 _ [.int .i64 0,.int .i64 1]) ⟨(f.grown b4).grown (grow1 _ _),x0⟩ ?_
    clear f x0 b4 hX hn1 dd0
    rintro W ⟨f1,x1⟩
    obtain ⟨_,d1⟩:=f1.dd
    refine wp_region_rely Grown [.val (.pointer (some ⟨w.heap.size,7,none⟩)),.val (.pointer (some ⟨L.p,0,none⟩)),.val (.pointer (some ⟨w.heap.size,0,none⟩)),.val (.agg #[.int .i64 4,.int .i64 8,.int .i64 4,.int .i64 20,.int .i64 100,.int .i64 600,.int .i64 3]),.val (.pointer (some ⟨X,0,none⟩)),.val (.int .i64 0),.val (.int .i64 10),.val (.int .u64 v),.val (.agg #[.int .i64 1,.int .i64 38,.int .i64 1,.int .i64 0]),.val (.int .i64 38),.val (.int .i64 38)] (by kernel_rfl) Grown.refl Grown.trans (by kernel_rfl) (by kernel_rfl) (by kernel_rfl) ?_
    simp only [relyAll,Act.put,List.setIfInBounds_toArray,List.set_cons_zero,List.set_cons_succ]
    refine ⟨?_,?_,?_,?_,?_,?_,?_,?_,?_,?_,?_,?_⟩
    · intros;apply ol;go_simp;exact gl
    · intro w' hg _
      apply ol
      obtain ⟨y0,y1,y2,y3,y4,y5,y6,y7,y8⟩:=(f1.sp.v.grown ((Below.refl _ _).drew)).grown hg
      go_simp
      exact gl
    · intros;apply ol;go_simp;exact gl
    · intro w' hg _
      apply ol
      obtain ⟨y0,y1,y2,y3,y4,y5,y6,y7,y8⟩:=(f1.sp.v.grown ((Below.refl _ _).drew)).grown hg
      go_simp
      exact gl
    · intros;apply ol;go_simp;exact gl
    · intro w' hg _
      apply ol
      have z0:=(x1.drew.grown hg).at0 0 rfl
      go_simp
      exact gl
    · intro w' hg _
      apply ol
      go_simp
      refine (lslot_any _ _ _ _ _ _ _ 0 _ good11.arena (by omega) (by omega)).mono ?_
      rintro e w'' ⟨rfl,b9⟩
      exact ⟨_,rfl,b9,congrArg (Value.int .i64) (by omega)⟩
    · intro w' hg _
      apply ol
      go_simp
      refine (peek_is (f1.sp.mm.drew.below hg) 10 hn10 v HV.out).mono ?_
      rintro e w'' ⟨rfl,rfl⟩
      exact ⟨_,rfl,Grown.refl _,rfl⟩
    · intro w' hg _
      apply ol
      go_simp
      refine (sl _).mono ?_
      rintro e w'' ⟨rfl,b9⟩
      exact ⟨_,rfl,b9,rfl⟩
    · intros;apply ol;go_simp;exact gl
    · intros;apply ol;go_simp;exact gl
    intro w5 hg _
    have f5:=f1.drew.grown hg
    clear hg f1 d1 x1 sl
    go_wp2
    refine wp_over (fun W=>BgnS w W L D st s' σ q) f5 ?_
    clear f5
    intro W f1
    refine wp_region_rely Grown [.val (.pointer (some ⟨w.heap.size,0,none⟩)),.val (.agg #[.int .i64 4,.int .i64 8,.int .i64 4,.int .i64 20,.int .i64 100,.int .i64 600,.int .i64 3]),.val (.pointer (some ⟨w.heap.size,0,none⟩)),.val (.agg #[.int .i64 4,.int .i64 8,.int .i64 4,.int .i64 20,.int .i64 100,.int .i64 600,.int .i64 3]),.val (.int .i64 38),.val (.int .i64 0),.val (.int .i64 26),.val (.int .i64 26)] (by kernel_rfl) Grown.refl Grown.trans (by kernel_rfl) (by kernel_rfl) (by kernel_rfl) ?_
    simp only [relyAll,Act.put,List.setIfInBounds_toArray,List.set_cons_zero,List.set_cons_succ]
    refine ⟨?_,?_,?_,?_,?_,?_,?_,?_,?_⟩
    · intros;apply ol;go_simp;exact gl
    · intro w' hg _
      apply ol
      obtain ⟨y0,y1,y2,y3,y4,y5,y6,y7,y8⟩:=(f1.sp.v.grown ((Below.refl _ _).drew)).grown hg
      go_simp
      exact gl
    · intros;apply ol;go_simp;exact gl
    · intro w' hg _
      apply ol
      obtain ⟨y0,y1,y2,y3,y4,y5,y6,y7,y8⟩:=(f1.sp.v.grown ((Below.refl _ _).drew)).grown hg
      go_simp
      exact gl
    · intros;apply ol;go_simp;exact gl
    · intro w' hg _
      apply ol
      go_simp
      refine (of0 _).mono ?_
      rintro e w'' ⟨rfl,b9⟩
      exact ⟨_,rfl,b9,rfl⟩
    · intro w' hg _
      apply ol
      go_simp
      refine (lchunk_any _ _ _ _ _ _ _ 0 _ good11.arena (by omega) (by omega)).mono ?_
      rintro e w'' ⟨rfl,b9⟩
      exact ⟨_,rfl,b9,congrArg (Value.int .i64) (by omega)⟩
    · intros;apply ol;go_simp;exact gl
    intro w6 hg _
    have f6:=f1.drew.grown hg
    clear hg f1 of0
    obtain ⟨y0,y1,y2,y3,y4,y5,y6,y7,y8⟩:=f6.sp.v
    go_wp2_with (first
     | (go_at_call 22;refine (peek_is f6.sp.mm 26 hn26 cka HCW.out).mono ?_;rintro e w7 ⟨rfl,rfl⟩)
     | (go_at_call 23;refine (cw _).mono ?_;rintro e w7 ⟨rfl,b7⟩;have q7:=At.new w7 54 [.int .i64 1,.int .i64 κ,.int .i64 (room κ),.int .i64 1];have t0:=q7.at0 0 rfl;have t3:=q7.at0 3 rfl;have tf:=q7.fz))
    have q8:=At.new w7 54 [.int .i64 2,.int .i64 κ,.int .i64 (room κ),.int .i64 2]
    obtain ⟨C,hC⟩ : ∃ C,w7.heap.size = C:=⟨_,rfl⟩
    rw [hC] at q8
    try rw [hC]
    refine wp_over (fun W=>BgnS w W L D st s' σ q /\ At W C 0 54 _ [.int .i64 2,.int .i64 κ,.int .i64 (room κ),.int .i64 2]) ⟨(f6.grown b7).grown (grow1 _ _),q8⟩ ?_
    clear f6 q7 q8 t0 t3 tf b7 hC cw y0 y1 y2 y3 y4 y5 y6 y7 y8
    rintro W ⟨f1,c1⟩
    refine wp_region_rely_tail Grown 5 [.val (.pointer (some ⟨w.heap.size,7,none⟩)),.val (.pointer (some ⟨L.p,0,none⟩)),.val (.int .i64 26),.val (.agg #[.int .i64 2,.int .i64 κ,.int .i64 (room κ),.int .i64 2]),.val (.int .u64 ck)] (by kernel_rfl) Grown.refl Grown.trans (by decide) (by kernel_rfl) (by kernel_rfl) (by kernel_rfl) (by kernel_rfl) (by kernel_rfl) (by kernel_rfl) ?_
    simp only [List.take_succ_cons,List.take_zero,relyAll,Act.put,List.setIfInBounds_toArray,List.set_cons_zero,List.set_cons_succ]
    refine ⟨?_,?_,?_,?_,?_,?_⟩
    · intros;apply ol;go_simp;exact gl
    · intro w' hg _
      apply ol
      obtain ⟨y0,y1,y2,y3,y4,y5,y6,y7,y8⟩:=(f1.sp.v.grown ((Below.refl _ _).drew)).grown hg
      go_simp
      exact gl
    · intros;apply ol;go_simp;exact gl
    · intro w' hg _
      apply ol
      have z0:=(c1.drew.grown hg).at0 0 rfl
      have z1:=(c1.drew.grown hg).at0 1 rfl
      have z2:=(c1.drew.grown hg).at0 2 rfl
      have z3:=(c1.drew.grown hg).at0 3 rfl
      go_simp
      exact gl
    · intro w' hg _
      apply ol
      go_simp
      refine (pc _).mono ?_
      rintro e w'' ⟨rfl,b9⟩
      exact ⟨_,rfl,b9,rfl⟩
    intro w8 hg _
    have f8:=f1.drew.grown hg
    clear hg f1 c1 pc
    go_wp2_with (go_at_call 28;refine (store_in f8.sp.mm 26 hn26 ck).mono ?_;rintro e w9 ⟨rfl,m9,o9,z9⟩)
    refine wp_over (fun W=>BgnS w W L D st (s'.step 26 ck) (σ + 1) { q with y:=yB κ }) (f8.only FA.out hDL.out hHL.out o9 m9 FIN.out.1) ?_
    clear f8 m9 o9 z9
    intro W f1
    refine wp_region_phase_tail (BgnK w L D st (s'.step 26 ck) (σ + 1) { q with y:=yB κ }) Grown (fun _ W=>BgnS w W L D st (s'.step 26 ck) (σ + 1) { q with y:=yB κ }) 11 [9] [.val (.agg #[.int .i64 4,.int .i64 8,.int .i64 4,.int .i64 20,.int .i64 100,.int .i64 600,.int .i64 3,.pointer (some ⟨L.p,0,none⟩),.int .i64 0]),.val (.pointer (some ⟨D,1,none⟩)),.val (.int .u64 65536),.val (.int .i64 38),.val (.pointer (some ⟨w.heap.size,7,none⟩)),.val (.pointer (some ⟨L.p,0,none⟩)),.val (.int .i64 38),.val (.int .u64 hw),.val (.agg #[.int .i64 2,.int .i64 Z,.int .i64 0,.int .i64 1,.bool false]),.that (fun _ _=>True) (fun _ _ _ _ _=>trivial),.val (.int .u64 65536)]
     (by kernel_rfl) (fun _ h=>h) (fun _ _ _ h k f=>k (h f)) (fun x y h f=>f.grown h) (fun x y _ h f=>f.grown h) f1.drew (by decide) (by kernel_rfl) (by kernel_rfl) (by kernel_rfl) (by kernel_rfl) (by kernel_rfl) (by kernel_rfl) (by kernel_rfl) (by kernel_rfl) ?_
    simp only [List.take_succ_cons,List.take_zero,phaseAll,Act.put,List.setIfInBounds_toArray,List.set_cons_zero,List.set_cons_succ]
    refine ⟨?_,⟨?_,⟨?_,⟨?_,⟨?_,⟨?_,⟨?_,⟨?_,⟨?_,⟨?_,fun _=>⟨?_,?_⟩⟩⟩⟩⟩⟩⟩⟩⟩⟩⟩
    · intro w' hR _
      apply ol
      have f':=hR f1.drew
      have y0:=f'.sp.v.c0
      have y1:=f'.sp.v.c1
      have y2:=f'.sp.v.c2
      have y3:=f'.sp.v.c3
      have y4:=f'.sp.v.c4
      have y5:=f'.sp.v.c5
      have y6:=f'.sp.v.c6
      have y7:=f'.sp.v.c7
      have y8:=f'.sp.v.c8
      go_simp
      exact gl
    · intro w' hR _
      apply ol
      have f':=hR f1.drew
      go_simp
      exact gl
    · intro w' hR _
      apply ol
      have f':=hR f1.drew
      obtain ⟨_,dd⟩:=f'.dd
      have z:=dd.at0 1 rfl
      go_simp
      exact gl
    · intro w' hR _
      apply ol
      have f':=hR f1.drew
      go_simp
      exact gl
    · intro w' hR _
      apply ol
      have f':=hR f1.drew
      go_simp
      exact gl
    · intro w' hR _
      apply ol
      have f':=hR f1.drew
      have y0:=f'.sp.v.c0
      have y1:=f'.sp.v.c1
      have y2:=f'.sp.v.c2
      have y3:=f'.sp.v.c3
      have y4:=f'.sp.v.c4
      have y5:=f'.sp.v.c5
      have y6:=f'.sp.v.c6
      have y7:=f'.sp.v.c7
      have y8:=f'.sp.v.c8
      go_simp
      exact gl
    · intro w' hR _
      apply ol
      have f':=hR f1.drew
      go_simp
      exact gl
    · intro w' hR _
      apply ol
      have f':=hR f1.drew
      go_simp
      refine (peek_is f'.sp.mm 38 hn38 hw HW.out).mono ?_
      rintro e w'' ⟨rfl,rfl⟩
      exact ⟨_,rfl,Grown.refl _,rfl⟩
    · intro w' hR _
      apply ol
      have f':=hR f1.drew
      go_simp
      refine (hd _).mono ?_
      rintro e w'' ⟨rfl,b9⟩
      exact ⟨_,rfl,b9,rfl⟩
    · intro w' hR _ hP
      apply ol
      have f' : BgnS w w' L D st (s'.step 26 ck) (σ + 1) { q with y:=yB κ }:=hP
      obtain ⟨_,ee⟩:=f'.ee
      have y0:=ee.at0 0 rfl
      have y1:=ee.at0 1 rfl
      have y2:=ee.at0 2 rfl
      have y3:=ee.at0 3 rfl
      have y4:=ee.at0 4 rfl
      have y5:=ee.at0 5 rfl
      have y6:=ee.at0 6 rfl
      have y7:=ee.at0 7 rfl
      have y8:=ee.at0 8 rfl
      have yf:=ee.fz
      have fr:=f'.re FA.out hDE.out
      go_simp
      exact ⟨⟨fun _=>fr,fr⟩,trivial⟩
    · intro w' hR _
      apply ol
      have f':=hR f1.drew
      go_simp
      exact gl
    intro w9 hR9 hP9 _
    have f9 : BgnS w w9 L D st (s'.step 26 ck) (σ + 1) { q with y:=yB κ }:=hP9
    clear hR9 hP9 f1 hd
    obtain ⟨_,e9⟩:=f9.ee
    obtain ⟨_,h9⟩:=f9.hh
    have x0:=h9.at0 0 rfl
    have x1:=h9.at0 1 rfl
    have x2:=h9.at0 2 rfl
    have x3:=h9.at0 3 rfl
    have x4:=h9.at0 4 rfl
    have xf:=h9.fz
    have m9:=(((((f9.sp.mm.setIn hHL.out 0 (.int .i64 2)).setIn hHL.out 1 (.int .i64 Z)).setIn hHL.out 2 (.int .i64 0)).setIn hHL.out 3 (.int .i64 1)).setIn hHL.out 4 (.bool false))
    have b9:=(below_setIn (below_setIn (below_setIn (below_setIn (below_setIn f9.sp.b (by omega : w.heap.size <= w.heap.size + 1) 0 (.int .i64 2)) (by omega : w.heap.size <= w.heap.size + 1) 1 (.int .i64 Z)) (by omega : w.heap.size <= w.heap.size + 1) 2 (.int .i64 0)) (by omega : w.heap.size <= w.heap.size + 1) 3 (.int .i64 1)) (by omega : w.heap.size <= w.heap.size + 1) 4 (.bool false))
    have he:=(((((e9.other (by omega : w.heap.size ≠ w.heap.size + 1) 0 (.int .i64 2)).other (by omega : w.heap.size ≠ w.heap.size + 1) 1 (.int .i64 Z)).other (by omega : w.heap.size ≠ w.heap.size + 1) 2 (.int .i64 0)).other (by omega : w.heap.size ≠ w.heap.size + 1) 3 (.int .i64 1)).other (by omega : w.heap.size ≠ w.heap.size + 1) 4 (.bool false))
    have hhh:=(((((h9.put0 0 (.int .i64 2)).put0 1 (.int .i64 Z)).put0 2 (.int .i64 0)).put0 3 (.int .i64 1)).put0 4 (.bool false))
    have u0:=he.at0 0 rfl
    have u1:=he.at0 1 rfl
    have u2:=he.at0 2 rfl
    have u3:=he.at0 3 rfl
    have u4:=he.at0 4 rfl
    have u5:=he.at0 5 rfl
    have u6:=he.at0 6 rfl
    have u7:=he.at0 7 rfl
    have u8:=he.at0 8 rfl
    have g0:=hhh.at0 0 rfl
    have g1:=hhh.at0 1 rfl
    have g2:=hhh.at0 2 rfl
    have g3:=hhh.at0 3 rfl
    have g4:=hhh.at0 4 rfl
    go_wp2
    refine bodyPost_ret (v:=.tuple #[.agg #[.int .i64 4,.int .i64 8,.int .i64 4,.int .i64 20,.int .i64 100,.int .i64 600,.int .i64 3,.pointer (some ⟨L.p,0,none⟩),.int .i64 0],.int .u64 65536,.int .i64 38,.agg #[.int .i64 2,.int .i64 Z,.int .i64 0,.int .i64 1,.bool false],.bool true]) (by simp [results,Tryz.results9,go_sem,u0,u1,u2,u3,u4,u5,u6,u7,u8,g0,g1,g2,g3,g4]) rfl ?_
    exact ⟨L,_,_,_,rfl,by have:=FIN.out.2.2.1;omega,m9,FIN.out.1,FIN.out.2.1,by rw [FIN.out.2.2.2],b9,FA.out.l0⟩
end Go.Proofs.YtkgpffcnimmdkaaGreat
