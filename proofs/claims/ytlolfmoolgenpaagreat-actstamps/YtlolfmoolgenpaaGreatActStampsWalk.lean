import Derived.Test.YtlolfmoolgenpaaGreatActOut
import Derived.Test.YtlolfmoolgenpaaGreatActAwake
import Derived.Test.YtlolfmoolgenpaaGreatActArgs
namespace Go.Proofs.YtlolfmoolgenpaaGreat
open Go.RowKit
set_option maxRecDepth 20000
structure Stm (w0 w : World) (L : Loc) (bE bD : Nat) (j : Nat) (HH : Int) : Prop where
 ex : ∃ s σ q nx gen ls,Hut w0 w L bE 1 6 8 40 s σ q nx gen ls /\ σ <= 13 + 500 * j /\ ∀ x,gen x <= j + 1
 d : ∃ c a b e,At w bD 0 40 c [.int .i64 a,.int .u64 HH,.int .i64 b,.int .i64 e]
 wd : Wd HH
set_option maxRecDepth 20000 in
set_option maxHeartbeats 4000000 in
theorem actStamps_any (ao : Option Addr) (n cap : Nat) (A : Nat -> Xa) (w : World) (hA : XasAt w ao n A) (hF : ∀ i,i < n -> XaFit (A i)) : Calls Tryz.prog 6 #[.slice ao n cap] w fun e w'=>e = .returned (.bool true) /\ Below w.heap.size w w':=by
 have ar:=fun w=>arena04_any good15d w
 have HA : Hid (XasAt w ao n A):=hA
 have HF : Hid (∀ i,i < n -> XaFit (A i)):=hF
 clear hA hF
 go_enter Tryz.func6,Tryz.ntmps6
 go_wp2_with (first
  | (go_at_call 9;refine (ar _).mono ?_;rintro e w1 ⟨L,rfl,m1,b1,l1⟩;clear ar;obtain ⟨p1,pa⟩:=Hut.first good15d (by decide) m1 b1 l1)
  | (go_at_call 10;refine (awake15_any _).mono ?_;rintro e w2 ⟨rfl,g2⟩;have p2:=p1.grown g2;clear p1))
 have G2:=grow1 w2 (.cells #[.int .i64 0,.int .u64 0,.int .i64 0,.int .i64 0] 40)
 have A1 : Hid (Stm w (w2.alloc (.cells #[.int .i64 0,.int .u64 0,.int .i64 0,.int .i64 0] 40)) L w1.heap.size w2.heap.size 0 0):=⟨⟨_,_,_,_,_,_,p2.grown G2,by omega,fun _=>Nat.le_refl _⟩,⟨_,_,_,_,At.new w2 40 [.int .i64 0,.int .u64 0,.int .i64 0,.int .i64 0]⟩,⟨by decide,by decide⟩⟩
 have PA : Hid (FarmApart w L w1.heap.size 1 6 8 40 100):=pa
 have HL2 : Hid (¬ L.has w2.heap.size):=p2.ltL
 have H12 : Hid (w1.heap.size < w2.heap.size):=p2.ltE
 have H02 : Hid (w.heap.size <= w2.heap.size):=p2.b.size
 clear p2 G2 pa m1 b1 l1 g2
 go_loopw [6] (fun i wr=>∃ (j : Nat) (HH : Int),i = .int .i64 j /\ j <= 60 /\ Stm w wr L w1.heap.size w2.heap.size j HH) (fun i _=>60 - (intOf i).toNat)
 case atStart=>exact ⟨0,0,rfl,by omega,A1.out⟩
 case round =>
  clear A1
  obtain ⟨j,HH,rfl,hj,S⟩:=hrel
  obtain ⟨⟨s,σ,q,nx,gen,ls,f,hσ,hgb⟩,⟨c,dA,dB,dC,d⟩,hwd⟩:=S
  by_cases hjn : j < n
  · by_cases hj6 : j < 60
    · have hjn' : (j : Int) < (n : Int):=by omega
      have hj6' : (j : Int) < 60:=by omega
      obtain ⟨b,off,rfl,h0,h1,h2,h3,h4,h5,h6⟩:=(HA.out.grown f.b) j hjn
      obtain ⟨Y,ym,ysz,ynu,yix,yow,ycut⟩:=cut_any (A j)
      have fX:=HF.out j hjn
      have hY : ∀ nu : Int,Wd nu -> ∃ E H V q' nx' gen' ls',Out 8 ⟨Y.kd,Y.sz,nu,Y.ix,Y.vl,Y.ol,Y.own⟩ q nx gen ls E H V q' nx' gen' ls' /\ ∀ w1' : World,Hut w w1' L w1.heap.size 1 6 8 40 s σ q nx gen ls ->
       Calls Tryz.prog 12 #[.agg #[.int .i64 ((1 : Nat) : Int),.int .i64 ((6 : Nat) : Int),.int .i64 ((8 : Nat) : Int),.int .i64 ((40 : Nat) : Int),.int .i64 100,.int .i64 600,.int .i64 3,.pointer (some ⟨L.p,0,none⟩),.int .i64 0],.agg #[.int .i64 Y.kd,.int .i64 Y.sz,.int .u64 nu,.int .i64 Y.ix,.int .i64 Y.vl,.int .i64 Y.ol,.bool Y.own]] w1' fun e w'=>∃ (St : Int) (s' : Mm) (σ' : Nat),e = .returned (.agg #[.int .i64 E,.int .u64 H,.int .i64 V,.int .i64 St]) /\ σ' <= σ + 500 /\ (σ : Int) <= St /\ St <= (σ' : Int) /\ (E = 0 -> (σ : Int) < St) /\ Hut w w' L w1.heap.size 1 6 8 40 s' σ' q' nx' gen' ls' /\ Only L.has w1' w':=fun nu hnu=>f.do PA.out ⟨Y.kd,Y.sz,nu,Y.ix,Y.vl,Y.ol,Y.own⟩ (may_nu ym nu) (by show Fit Y.sz;rw [ysz];exact fX.2.1) hnu (fun o ho=>by have:=f.tm.gn o ho;have:=hgb o.x;omega) (by omega)
      have hyn : Wd Y.nu:=by rw [ynu];exact fX.2.2.1
      have gn:=f.tm.gn
      obtain ⟨kx,sx,ux,ix,vx,ox,ownx⟩:=Y
      generalize A j = Xj at h0 h1 h2 h3 h4 h5 h6 ycut
      obtain ⟨ka,sa,ua,ia,va,oa,owna⟩:=Xj
      have ycut : ∀ w,Calls Tryz.prog 11 #[.agg #[.int .i64 ka,.int .i64 sa,.int .u64 ua,.int .i64 ia,.int .i64 va,.int .i64 oa,.bool owna]] w fun e w'=>e = .returned (.agg #[.int .i64 kx,.int .i64 sx,.int .u64 ux,.int .i64 ix,.int .i64 vx,.int .i64 ox,.bool ownx]) /\ Below w.heap.size w w':=ycut
      simp only at h0 h1 h2 h3 h4 h5 h6 hY hyn
      clear ym ysz ynu yix yow fX
      have y1:=d.at0 1 rfl
      have HST : Hid (s.steps = σ):=f.vl.tw.pile.st
      have HGB : Hid (∀ x,gen x <= j + 1):=hgb
      have HGN : Hid (∀ o ∈ ls,gen o.x = o.g):=gn
      have HSG : Hid (σ <= 13 + 500 * j):=hσ
      have HWD : Hid (Wd HH):=hwd
      clear hgb gn hσ hwd
      by_cases hz : HH = 0
      · subst hz
        clear HWD
        have HWD : Hid (Wd 0):=⟨by decide,by decide⟩
        obtain ⟨E,H,V,q',nx',gen',ls',O,hdo⟩:=hY ux hyn
        have HGB' : Hid (∀ x,gen' x <= j + 1 + 1):=O.gb HGN.out HGB.out
        have HO : Hid (Out 8 ⟨kx,sx,ux,ix,vx,ox,ownx⟩ q nx gen ls E H V q' nx' gen' ls'):=O
        clear O hY
        go_wp2_with (first
         | (go_at_call 11;refine (ycut _).mono ?_;rintro e w3 ⟨rfl,g3⟩;have f3:=f.grown g3;have d3:=d.grown g3;have y1:=(fun O=>alloc_cell (d3.at0 1 rfl) O);have e0:=(fun O=>alloc_cell f3.v.c0 O);have e1:=(fun O=>alloc_cell f3.v.c1 O);have e2:=(fun O=>alloc_cell f3.v.c2 O);have e3:=(fun O=>alloc_cell f3.v.c3 O);have e4:=(fun O=>alloc_cell f3.v.c4 O);have e5:=(fun O=>alloc_cell f3.v.c5 O);have e6:=(fun O=>alloc_cell f3.v.c6 O);have e7:=(fun O=>alloc_cell f3.v.c7 O);have e8:=(fun O=>alloc_cell f3.v.c8 O);clear f d)
         | (go_at_call 17;refine (now_any (f3.mm.alloc (.cells #[.int .i64 kx,.int .i64 sx,.int .u64 ux,.int .i64 ix,.int .i64 vx,.int .i64 ox,.bool ownx] 36)) _ _ _ _ _ _ _ _ σ HST.out).mono ?_;rintro e w4 ⟨rfl,g4⟩;have f4:=(f3.alloc (.cells #[.int .i64 kx,.int .i64 sx,.int .u64 ux,.int .i64 ix,.int .i64 vx,.int .i64 ox,.bool ownx] 36)).grown g4;have d4:=(d3.grown (grow1 w3 (.cells #[.int .i64 kx,.int .i64 sx,.int .u64 ux,.int .i64 ix,.int .i64 vx,.int .i64 ox,.bool ownx] 36))).grown g4;have x4:=(At.new w3 36 [.int .i64 kx,.int .i64 sx,.int .u64 ux,.int .i64 ix,.int .i64 vx,.int .i64 ox,.bool ownx]).grown g4;clear e0 e1 e2 e3 e4 e5 e6 e7 e8 y1 f3 d3;obtain ⟨z0,z1,z2,z3,z4,z5,z6,z7,z8⟩:=f4.v;have u0:=x4.at0 0 rfl;have u1:=x4.at0 1 rfl;have u2:=x4.at0 2 rfl;have u3:=x4.at0 3 rfl;have u4:=x4.at0 4 rfl;have u5:=x4.at0 5 rfl;have u6:=x4.at0 6 rfl)
         | (go_at_call 12;refine (hdo _ f4).mono ?_;rintro e w5 ⟨St,s',σ',rfl,hs1,hs2,hs3,hs4,f5',o5⟩;clear z0 z1 z2 z3 z4 z5 z6 z7 z8 u0 u1 u2 u3 u4 u5 u6 f4 hdo;have G5:=grow1 w5 (.cells #[.int .i64 E,.int .u64 H,.int .i64 V,.int .i64 St] 40);have f5:=f5'.grown G5;have d5:=(d4.only o5 HL2.out).grown G5;have dN:=At.new w5 40 [.int .i64 E,.int .u64 H,.int .i64 V,.int .i64 St];have hl5 : w2.heap.size < w5.heap.size:=(d4.only o5 HL2.out).lt;clear d4 x4))
        have HS5 : Hid (s'.steps = σ'):=f5'.vl.tw.pile.st
        have HC5 : Hid (Tame 1 6 8 40 q' nx' gen' ls'):=f5'.tm
        have hσb : (σ : Int) < 100000:=by have:=HSG.out;omega
        have hσ0 : (0 : Int) <= (σ : Int):=by omega
        have c1 : decide (St < (σ : Int)) = false:=decide_eq_false (by omega)
        have c2 : decide ((σ' : Int) < St) = false:=decide_eq_false (by omega)
        clear f5'
        generalize w5.alloc (.cells #[.int .i64 E,.int .u64 H,.int .i64 V,.int .i64 St] 40) = w6 at f5 d5 dN ⊢
        have y0:=fun N : Later w6=>(f5.v.grown N.below).c0
        have y1:=fun N : Later w6=>(f5.v.grown N.below).c1
        have y2:=fun N : Later w6=>(f5.v.grown N.below).c2
        have y3:=fun N : Later w6=>(f5.v.grown N.below).c3
        have y4:=fun N : Later w6=>(f5.v.grown N.below).c4
        have y5:=fun N : Later w6=>(f5.v.grown N.below).c5
        have y6:=fun N : Later w6=>(f5.v.grown N.below).c6
        have y7:=fun N : Later w6=>(f5.v.grown N.below).c7
        have y8:=fun N : Later w6=>(f5.v.grown N.below).c8
        have k0:=fun N : Later w6=>(dN.grown N.below).at0 0 rfl
        have k3:=fun N : Later w6=>(dN.grown N.below).at0 3 rfl
        have hm:=fun N : Later w6=>f5.mm.below N.below
        haveI:=Later.exists w6
        rcases HO.out.hd HC5.out (by decide) with ⟨hE,hH,hHw⟩ | ⟨hE,hH⟩ | ⟨hE,hH⟩
        · have HSE : Hid ((σ : Int) < St):=hs4 hE
          rw [hE] at k0 dN ⊢
          have c3 : (St == (σ : Int)) = false:=by have:=HSE.out;rw [beq_eq_false_iff_ne];omega
          clear hs2 hs3 hs4 hE
          refine wp_region_later (by kernel_rfl) (by kernel_rfl) ?_
          repeat (go_big_quiet_step ((go_at_call 17;exact Calls.later (now_any (hm _) _ _ _ _ _ _ _ _ σ' HS5.out))))
          refine wpQuiet_nil ?_
          rintro _ ⟨nr,rfl⟩
          have f6:=f5.grown nr.below
          have d6:=d5.grown nr.below
          have dM:=dN.grown nr.below
          clear y0 y1 y2 y3 y4 y5 y6 y7 y8 k0 k3 hm f5 d5 dN
          generalize nr.now = w7 at f6 d6 dM ⊢
          have k0:=dM.at0 0 rfl
          have k1:=dM.at0 1 rfl
          have k2:=dM.at0 2 rfl
          have k3:=dM.at0 3 rfl
          have m0:=d6.at0 0 rfl
          have m1:=d6.at0 1 rfl
          have m2:=d6.at0 2 rfl
          have m3:=d6.at0 3 rfl
          have mf:=d6.fz
          have c5 : (H != 0) = true:=bne_iff_ne.2 hH
          have HHw : Hid (Wd H):=hHw
          clear hHw
          go_wp2
          go_roundw
          case rel =>
           have hne : ¬ w1.heap.size = w2.heap.size:=by have:=H12.out;omega
           refine ⟨j + 1,H,by go_num,by omega,⟨⟨s',σ',q',nx',gen',ls',(((f6.setIn H02.out hne HL2.out 0 _).setIn H02.out hne HL2.out 1 _).setIn H02.out hne HL2.out 2 _).setIn H02.out hne HL2.out 3 _,by have:=HSG.out;omega,HGB'.out⟩,⟨_,_,_,_,(((d6.put0 0 _).put0 1 _).put0 2 _).put0 3 _⟩,HHw.out⟩⟩
          case measure=>simp [intOf];omega
        · have HSE : Hid ((σ : Int) < St):=hs4 hE
          rw [hE] at k0 dN ⊢
          have c3 : (St == (σ : Int)) = false:=by have:=HSE.out;rw [beq_eq_false_iff_ne];omega
          clear hs2 hs3 hs4 hE
          refine wp_region_later (by kernel_rfl) (by kernel_rfl) ?_
          repeat (go_big_quiet_step ((go_at_call 17;exact Calls.later (now_any (hm _) _ _ _ _ _ _ _ _ σ' HS5.out))))
          refine wpQuiet_nil ?_
          rintro _ ⟨nr,rfl⟩
          have f6:=f5.grown nr.below
          have d6:=d5.grown nr.below
          have dM:=dN.grown nr.below
          clear y0 y1 y2 y3 y4 y5 y6 y7 y8 k0 k3 hm f5 d5 dN
          generalize nr.now = w7 at f6 d6 dM ⊢
          have k0:=dM.at0 0 rfl
          have k1:=dM.at0 1 rfl
          have k2:=dM.at0 2 rfl
          have k3:=dM.at0 3 rfl
          rw [hH] at k1
          clear hH
          go_wp2
          go_roundw
          case rel=>exact ⟨j + 1,_,by go_num,by omega,⟨⟨s',σ',q',nx',gen',ls',f6,by have:=HSG.out;omega,HGB'.out⟩,⟨_,_,_,_,d6⟩,HWD.out⟩⟩
          case measure=>simp [intOf];omega
        · have c4 : (E == 0) = false:=beq_eq_false_iff_ne.2 hE
          clear hs2 hs3 hs4 hE
          refine wp_region_later (by kernel_rfl) (by kernel_rfl) ?_
          repeat (go_big_quiet_step ((go_at_call 17;exact Calls.later (now_any (hm _) _ _ _ _ _ _ _ _ σ' HS5.out))))
          refine wpQuiet_nil ?_
          rintro _ ⟨nr,rfl⟩
          have f6:=f5.grown nr.below
          have d6:=d5.grown nr.below
          have dM:=dN.grown nr.below
          clear y0 y1 y2 y3 y4 y5 y6 y7 y8 k0 k3 hm f5 d5 dN
          generalize nr.now = w7 at f6 d6 dM ⊢
          have k0:=dM.at0 0 rfl
          have k1:=dM.at0 1 rfl
          have k2:=dM.at0 2 rfl
          have k3:=dM.at0 3 rfl
          rw [hH] at k1
          clear hH
          go_wp2
          go_roundw
          case rel=>exact ⟨j + 1,_,by go_num,by omega,⟨⟨s',σ',q',nx',gen',ls',f6,by have:=HSG.out;omega,HGB'.out⟩,⟨_,_,_,_,d6⟩,HWD.out⟩⟩
          case measure=>simp [intOf];omega
      · have hz1 : (HH != 0) = true:=bne_iff_ne.2 hz
        by_cases ho : (j : Int) % 2 = 1
        · skip
          obtain ⟨E,H,V,q',nx',gen',ls',O,hdo⟩:=hY HH HWD.out
          have HGB' : Hid (∀ x,gen' x <= j + 1 + 1):=O.gb HGN.out HGB.out
          have HO : Hid (Out 8 ⟨kx,sx,HH,ix,vx,ox,ownx⟩ q nx gen ls E H V q' nx' gen' ls'):=O
          clear O hY
          go_wp2_with (first
           | (go_at_call 11;refine (ycut _).mono ?_;rintro e w3 ⟨rfl,g3⟩;have f3:=f.grown g3;have d3:=d.grown g3;have y1:=(fun O=>alloc_cell (d3.at0 1 rfl) O);have e0:=(fun O=>alloc_cell f3.v.c0 O);have e1:=(fun O=>alloc_cell f3.v.c1 O);have e2:=(fun O=>alloc_cell f3.v.c2 O);have e3:=(fun O=>alloc_cell f3.v.c3 O);have e4:=(fun O=>alloc_cell f3.v.c4 O);have e5:=(fun O=>alloc_cell f3.v.c5 O);have e6:=(fun O=>alloc_cell f3.v.c6 O);have e7:=(fun O=>alloc_cell f3.v.c7 O);have e8:=(fun O=>alloc_cell f3.v.c8 O);clear f d)
           | (go_at_call 17;refine (now_any (f3.mm.alloc (.cells #[.int .i64 kx,.int .i64 sx,.int .u64 HH,.int .i64 ix,.int .i64 vx,.int .i64 ox,.bool ownx] 36)) _ _ _ _ _ _ _ _ σ HST.out).mono ?_;rintro e w4 ⟨rfl,g4⟩;have f4:=(f3.alloc (.cells #[.int .i64 kx,.int .i64 sx,.int .u64 HH,.int .i64 ix,.int .i64 vx,.int .i64 ox,.bool ownx] 36)).grown g4;have d4:=(d3.grown (grow1 w3 (.cells #[.int .i64 kx,.int .i64 sx,.int .u64 HH,.int .i64 ix,.int .i64 vx,.int .i64 ox,.bool ownx] 36))).grown g4;have x4:=(At.new w3 36 [.int .i64 kx,.int .i64 sx,.int .u64 HH,.int .i64 ix,.int .i64 vx,.int .i64 ox,.bool ownx]).grown g4;clear e0 e1 e2 e3 e4 e5 e6 e7 e8 y1 f3 d3;obtain ⟨z0,z1,z2,z3,z4,z5,z6,z7,z8⟩:=f4.v;have u0:=x4.at0 0 rfl;have u1:=x4.at0 1 rfl;have u2:=x4.at0 2 rfl;have u3:=x4.at0 3 rfl;have u4:=x4.at0 4 rfl;have u5:=x4.at0 5 rfl;have u6:=x4.at0 6 rfl)
           | (go_at_call 12;refine (hdo _ f4).mono ?_;rintro e w5 ⟨St,s',σ',rfl,hs1,hs2,hs3,hs4,f5',o5⟩;clear z0 z1 z2 z3 z4 z5 z6 z7 z8 u0 u1 u2 u3 u4 u5 u6 f4 hdo;have G5:=grow1 w5 (.cells #[.int .i64 E,.int .u64 H,.int .i64 V,.int .i64 St] 40);have f5:=f5'.grown G5;have d5:=(d4.only o5 HL2.out).grown G5;have dN:=At.new w5 40 [.int .i64 E,.int .u64 H,.int .i64 V,.int .i64 St];have hl5 : w2.heap.size < w5.heap.size:=(d4.only o5 HL2.out).lt;clear d4 x4))
          have HS5 : Hid (s'.steps = σ'):=f5'.vl.tw.pile.st
          have HC5 : Hid (Tame 1 6 8 40 q' nx' gen' ls'):=f5'.tm
          have hσb : (σ : Int) < 100000:=by have:=HSG.out;omega
          have hσ0 : (0 : Int) <= (σ : Int):=by omega
          have c1 : decide (St < (σ : Int)) = false:=decide_eq_false (by omega)
          have c2 : decide ((σ' : Int) < St) = false:=decide_eq_false (by omega)
          clear f5'
          generalize w5.alloc (.cells #[.int .i64 E,.int .u64 H,.int .i64 V,.int .i64 St] 40) = w6 at f5 d5 dN ⊢
          have y0:=fun N : Later w6=>(f5.v.grown N.below).c0
          have y1:=fun N : Later w6=>(f5.v.grown N.below).c1
          have y2:=fun N : Later w6=>(f5.v.grown N.below).c2
          have y3:=fun N : Later w6=>(f5.v.grown N.below).c3
          have y4:=fun N : Later w6=>(f5.v.grown N.below).c4
          have y5:=fun N : Later w6=>(f5.v.grown N.below).c5
          have y6:=fun N : Later w6=>(f5.v.grown N.below).c6
          have y7:=fun N : Later w6=>(f5.v.grown N.below).c7
          have y8:=fun N : Later w6=>(f5.v.grown N.below).c8
          have k0:=fun N : Later w6=>(dN.grown N.below).at0 0 rfl
          have k3:=fun N : Later w6=>(dN.grown N.below).at0 3 rfl
          have hm:=fun N : Later w6=>f5.mm.below N.below
          haveI:=Later.exists w6
          rcases HO.out.hd HC5.out (by decide) with ⟨hE,hH,hHw⟩ | ⟨hE,hH⟩ | ⟨hE,hH⟩
          · have HSE : Hid ((σ : Int) < St):=hs4 hE
            rw [hE] at k0 dN ⊢
            have c3 : (St == (σ : Int)) = false:=by have:=HSE.out;rw [beq_eq_false_iff_ne];omega
            clear hs2 hs3 hs4 hE
            refine wp_region_later (by kernel_rfl) (by kernel_rfl) ?_
            repeat (go_big_quiet_step ((go_at_call 17;exact Calls.later (now_any (hm _) _ _ _ _ _ _ _ _ σ' HS5.out))))
            refine wpQuiet_nil ?_
            rintro _ ⟨nr,rfl⟩
            have f6:=f5.grown nr.below
            have d6:=d5.grown nr.below
            have dM:=dN.grown nr.below
            clear y0 y1 y2 y3 y4 y5 y6 y7 y8 k0 k3 hm f5 d5 dN
            generalize nr.now = w7 at f6 d6 dM ⊢
            have k0:=dM.at0 0 rfl
            have k1:=dM.at0 1 rfl
            have k2:=dM.at0 2 rfl
            have k3:=dM.at0 3 rfl
            have m0:=d6.at0 0 rfl
            have m1:=d6.at0 1 rfl
            have m2:=d6.at0 2 rfl
            have m3:=d6.at0 3 rfl
            have mf:=d6.fz
            have c5 : (H != 0) = true:=bne_iff_ne.2 hH
            have HHw : Hid (Wd H):=hHw
            clear hHw
            go_wp2
            go_roundw
            case rel =>
             have hne : ¬ w1.heap.size = w2.heap.size:=by have:=H12.out;omega
             refine ⟨j + 1,H,by go_num,by omega,⟨⟨s',σ',q',nx',gen',ls',(((f6.setIn H02.out hne HL2.out 0 _).setIn H02.out hne HL2.out 1 _).setIn H02.out hne HL2.out 2 _).setIn H02.out hne HL2.out 3 _,by have:=HSG.out;omega,HGB'.out⟩,⟨_,_,_,_,(((d6.put0 0 _).put0 1 _).put0 2 _).put0 3 _⟩,HHw.out⟩⟩
            case measure=>simp [intOf];omega
          · have HSE : Hid ((σ : Int) < St):=hs4 hE
            rw [hE] at k0 dN ⊢
            have c3 : (St == (σ : Int)) = false:=by have:=HSE.out;rw [beq_eq_false_iff_ne];omega
            clear hs2 hs3 hs4 hE
            refine wp_region_later (by kernel_rfl) (by kernel_rfl) ?_
            repeat (go_big_quiet_step ((go_at_call 17;exact Calls.later (now_any (hm _) _ _ _ _ _ _ _ _ σ' HS5.out))))
            refine wpQuiet_nil ?_
            rintro _ ⟨nr,rfl⟩
            have f6:=f5.grown nr.below
            have d6:=d5.grown nr.below
            have dM:=dN.grown nr.below
            clear y0 y1 y2 y3 y4 y5 y6 y7 y8 k0 k3 hm f5 d5 dN
            generalize nr.now = w7 at f6 d6 dM ⊢
            have k0:=dM.at0 0 rfl
            have k1:=dM.at0 1 rfl
            have k2:=dM.at0 2 rfl
            have k3:=dM.at0 3 rfl
            rw [hH] at k1
            clear hH
            go_wp2
            go_roundw
            case rel=>exact ⟨j + 1,_,by go_num,by omega,⟨⟨s',σ',q',nx',gen',ls',f6,by have:=HSG.out;omega,HGB'.out⟩,⟨_,_,_,_,d6⟩,HWD.out⟩⟩
            case measure=>simp [intOf];omega
          · have c4 : (E == 0) = false:=beq_eq_false_iff_ne.2 hE
            clear hs2 hs3 hs4 hE
            refine wp_region_later (by kernel_rfl) (by kernel_rfl) ?_
            repeat (go_big_quiet_step ((go_at_call 17;exact Calls.later (now_any (hm _) _ _ _ _ _ _ _ _ σ' HS5.out))))
            refine wpQuiet_nil ?_
            rintro _ ⟨nr,rfl⟩
            have f6:=f5.grown nr.below
            have d6:=d5.grown nr.below
            have dM:=dN.grown nr.below
            clear y0 y1 y2 y3 y4 y5 y6 y7 y8 k0 k3 hm f5 d5 dN
            generalize nr.now = w7 at f6 d6 dM ⊢
            have k0:=dM.at0 0 rfl
            have k1:=dM.at0 1 rfl
            have k2:=dM.at0 2 rfl
            have k3:=dM.at0 3 rfl
            rw [hH] at k1
            clear hH
            go_wp2
            go_roundw
            case rel=>exact ⟨j + 1,_,by go_num,by omega,⟨⟨s',σ',q',nx',gen',ls',f6,by have:=HSG.out;omega,HGB'.out⟩,⟨_,_,_,_,d6⟩,HWD.out⟩⟩
            case measure=>simp [intOf];omega
        · have ho1 : ((j : Int) % 2 == 1) = false:=beq_eq_false_iff_ne.2 ho
          obtain ⟨E,H,V,q',nx',gen',ls',O,hdo⟩:=hY ux hyn
          have HGB' : Hid (∀ x,gen' x <= j + 1 + 1):=O.gb HGN.out HGB.out
          have HO : Hid (Out 8 ⟨kx,sx,ux,ix,vx,ox,ownx⟩ q nx gen ls E H V q' nx' gen' ls'):=O
          clear O hY
          go_wp2_with (first
           | (go_at_call 11;refine (ycut _).mono ?_;rintro e w3 ⟨rfl,g3⟩;have f3:=f.grown g3;have d3:=d.grown g3;have y1:=(fun O=>alloc_cell (d3.at0 1 rfl) O);have e0:=(fun O=>alloc_cell f3.v.c0 O);have e1:=(fun O=>alloc_cell f3.v.c1 O);have e2:=(fun O=>alloc_cell f3.v.c2 O);have e3:=(fun O=>alloc_cell f3.v.c3 O);have e4:=(fun O=>alloc_cell f3.v.c4 O);have e5:=(fun O=>alloc_cell f3.v.c5 O);have e6:=(fun O=>alloc_cell f3.v.c6 O);have e7:=(fun O=>alloc_cell f3.v.c7 O);have e8:=(fun O=>alloc_cell f3.v.c8 O);clear f d)
           | (go_at_call 17;refine (now_any (f3.mm.alloc (.cells #[.int .i64 kx,.int .i64 sx,.int .u64 ux,.int .i64 ix,.int .i64 vx,.int .i64 ox,.bool ownx] 36)) _ _ _ _ _ _ _ _ σ HST.out).mono ?_;rintro e w4 ⟨rfl,g4⟩;have f4:=(f3.alloc (.cells #[.int .i64 kx,.int .i64 sx,.int .u64 ux,.int .i64 ix,.int .i64 vx,.int .i64 ox,.bool ownx] 36)).grown g4;have d4:=(d3.grown (grow1 w3 (.cells #[.int .i64 kx,.int .i64 sx,.int .u64 ux,.int .i64 ix,.int .i64 vx,.int .i64 ox,.bool ownx] 36))).grown g4;have x4:=(At.new w3 36 [.int .i64 kx,.int .i64 sx,.int .u64 ux,.int .i64 ix,.int .i64 vx,.int .i64 ox,.bool ownx]).grown g4;clear e0 e1 e2 e3 e4 e5 e6 e7 e8 y1 f3 d3;obtain ⟨z0,z1,z2,z3,z4,z5,z6,z7,z8⟩:=f4.v;have u0:=x4.at0 0 rfl;have u1:=x4.at0 1 rfl;have u2:=x4.at0 2 rfl;have u3:=x4.at0 3 rfl;have u4:=x4.at0 4 rfl;have u5:=x4.at0 5 rfl;have u6:=x4.at0 6 rfl)
           | (go_at_call 12;refine (hdo _ f4).mono ?_;rintro e w5 ⟨St,s',σ',rfl,hs1,hs2,hs3,hs4,f5',o5⟩;clear z0 z1 z2 z3 z4 z5 z6 z7 z8 u0 u1 u2 u3 u4 u5 u6 f4 hdo;have G5:=grow1 w5 (.cells #[.int .i64 E,.int .u64 H,.int .i64 V,.int .i64 St] 40);have f5:=f5'.grown G5;have d5:=(d4.only o5 HL2.out).grown G5;have dN:=At.new w5 40 [.int .i64 E,.int .u64 H,.int .i64 V,.int .i64 St];have hl5 : w2.heap.size < w5.heap.size:=(d4.only o5 HL2.out).lt;clear d4 x4))
          have HS5 : Hid (s'.steps = σ'):=f5'.vl.tw.pile.st
          have HC5 : Hid (Tame 1 6 8 40 q' nx' gen' ls'):=f5'.tm
          have hσb : (σ : Int) < 100000:=by have:=HSG.out;omega
          have hσ0 : (0 : Int) <= (σ : Int):=by omega
          have c1 : decide (St < (σ : Int)) = false:=decide_eq_false (by omega)
          have c2 : decide ((σ' : Int) < St) = false:=decide_eq_false (by omega)
          clear f5'
          generalize w5.alloc (.cells #[.int .i64 E,.int .u64 H,.int .i64 V,.int .i64 St] 40) = w6 at f5 d5 dN ⊢
          have y0:=fun N : Later w6=>(f5.v.grown N.below).c0
          have y1:=fun N : Later w6=>(f5.v.grown N.below).c1
          have y2:=fun N : Later w6=>(f5.v.grown N.below).c2
          have y3:=fun N : Later w6=>(f5.v.grown N.below).c3
          have y4:=fun N : Later w6=>(f5.v.grown N.below).c4
          have y5:=fun N : Later w6=>(f5.v.grown N.below).c5
          have y6:=fun N : Later w6=>(f5.v.grown N.below).c6
          have y7:=fun N : Later w6=>(f5.v.grown N.below).c7
          have y8:=fun N : Later w6=>(f5.v.grown N.below).c8
          have k0:=fun N : Later w6=>(dN.grown N.below).at0 0 rfl
          have k3:=fun N : Later w6=>(dN.grown N.below).at0 3 rfl
          have hm:=fun N : Later w6=>f5.mm.below N.below
          haveI:=Later.exists w6
          rcases HO.out.hd HC5.out (by decide) with ⟨hE,hH,hHw⟩ | ⟨hE,hH⟩ | ⟨hE,hH⟩
          · have HSE : Hid ((σ : Int) < St):=hs4 hE
            rw [hE] at k0 dN ⊢
            have c3 : (St == (σ : Int)) = false:=by have:=HSE.out;rw [beq_eq_false_iff_ne];omega
            clear hs2 hs3 hs4 hE
            refine wp_region_later (by kernel_rfl) (by kernel_rfl) ?_
            repeat (go_big_quiet_step ((go_at_call 17;exact Calls.later (now_any (hm _) _ _ _ _ _ _ _ _ σ' HS5.out))))
            refine wpQuiet_nil ?_
            rintro _ ⟨nr,rfl⟩
            have f6:=f5.grown nr.below
            have d6:=d5.grown nr.below
            have dM:=dN.grown nr.below
            clear y0 y1 y2 y3 y4 y5 y6 y7 y8 k0 k3 hm f5 d5 dN
            generalize nr.now = w7 at f6 d6 dM ⊢
            have k0:=dM.at0 0 rfl
            have k1:=dM.at0 1 rfl
            have k2:=dM.at0 2 rfl
            have k3:=dM.at0 3 rfl
            have m0:=d6.at0 0 rfl
            have m1:=d6.at0 1 rfl
            have m2:=d6.at0 2 rfl
            have m3:=d6.at0 3 rfl
            have mf:=d6.fz
            have c5 : (H != 0) = true:=bne_iff_ne.2 hH
            have HHw : Hid (Wd H):=hHw
            clear hHw
            go_wp2
            go_roundw
            case rel =>
             have hne : ¬ w1.heap.size = w2.heap.size:=by have:=H12.out;omega
             refine ⟨j + 1,H,by go_num,by omega,⟨⟨s',σ',q',nx',gen',ls',(((f6.setIn H02.out hne HL2.out 0 _).setIn H02.out hne HL2.out 1 _).setIn H02.out hne HL2.out 2 _).setIn H02.out hne HL2.out 3 _,by have:=HSG.out;omega,HGB'.out⟩,⟨_,_,_,_,(((d6.put0 0 _).put0 1 _).put0 2 _).put0 3 _⟩,HHw.out⟩⟩
            case measure=>simp [intOf];omega
          · have HSE : Hid ((σ : Int) < St):=hs4 hE
            rw [hE] at k0 dN ⊢
            have c3 : (St == (σ : Int)) = false:=by have:=HSE.out;rw [beq_eq_false_iff_ne];omega
            clear hs2 hs3 hs4 hE
            refine wp_region_later (by kernel_rfl) (by kernel_rfl) ?_
            repeat (go_big_quiet_step ((go_at_call 17;exact Calls.later (now_any (hm _) _ _ _ _ _ _ _ _ σ' HS5.out))))
            refine wpQuiet_nil ?_
            rintro _ ⟨nr,rfl⟩
            have f6:=f5.grown nr.below
            have d6:=d5.grown nr.below
            have dM:=dN.grown nr.below
            clear y0 y1 y2 y3 y4 y5 y6 y7 y8 k0 k3 hm f5 d5 dN
            generalize nr.now = w7 at f6 d6 dM ⊢
            have k0:=dM.at0 0 rfl
            have k1:=dM.at0 1 rfl
            have k2:=dM.at0 2 rfl
            have k3:=dM.at0 3 rfl
            rw [hH] at k1
            clear hH
            go_wp2
            go_roundw
            case rel=>exact ⟨j + 1,_,by go_num,by omega,⟨⟨s',σ',q',nx',gen',ls',f6,by have:=HSG.out;omega,HGB'.out⟩,⟨_,_,_,_,d6⟩,HWD.out⟩⟩
            case measure=>simp [intOf];omega
          · have c4 : (E == 0) = false:=beq_eq_false_iff_ne.2 hE
            clear hs2 hs3 hs4 hE
            refine wp_region_later (by kernel_rfl) (by kernel_rfl) ?_
            repeat (go_big_quiet_step ((go_at_call 17;exact Calls.later (now_any (hm _) _ _ _ _ _ _ _ _ σ' HS5.out))))
            refine wpQuiet_nil ?_
            rintro _ ⟨nr,rfl⟩
            have f6:=f5.grown nr.below
            have d6:=d5.grown nr.below
            have dM:=dN.grown nr.below
            clear y0 y1 y2 y3 y4 y5 y6 y7 y8 k0 k3 hm f5 d5 dN
            generalize nr.now = w7 at f6 d6 dM ⊢
            have k0:=dM.at0 0 rfl
            have k1:=dM.at0 1 rfl
            have k2:=dM.at0 2 rfl
            have k3:=dM.at0 3 rfl
            rw [hH] at k1
            clear hH
            go_wp2
            go_roundw
            case rel=>exact ⟨j + 1,_,by go_num,by omega,⟨⟨s',σ',q',nx',gen',ls',f6,by have:=HSG.out;omega,HGB'.out⟩,⟨_,_,_,_,d6⟩,HWD.out⟩⟩
            case measure=>simp [intOf];omega
    · have hj6' : ¬ (j : Int) < 60:=by omega
      have hjn' : (j : Int) < (n : Int):=by omega
      go_wp2
      go_ret
      exact ⟨rfl,f.b⟩
  · have hjn' : ¬ (j : Int) < (n : Int):=by omega
    go_wp2
    go_ret
    exact ⟨rfl,f.b⟩
end Go.Proofs.YtlolfmoolgenpaaGreat
