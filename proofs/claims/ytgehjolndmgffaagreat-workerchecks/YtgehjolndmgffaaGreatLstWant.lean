import Derived.Test.YtgehjolndmgffaaGreatLstOn
namespace Go.Proofs.YtgehjolndmgffaaGreat
open Go.RowKit
theorem Ls {w:World} {b:Nat} {ob:Value} {S:Lr} (h:ZJ w b ob S) (hn0:S.nx=0) :
 Calls Tryz.prog 98 #[pP b 0] w fun e w'=>e=.returned (Xa.v (S.want false))/\Below w.heap.size w w':=by
 obtain⟨kd,ky,hd,nx,an,al,ax,hn,hl,hx,md,cE,cH,cV,cS⟩:=S
 replace hn0:nx=0:=hn0
 subst hn0
 obtain⟨c,h⟩:=h
 replace h:At w b 0 145 c [iV kd,iV ky,.int .u64 hd,iV 0,ob,.int .u64 an,iV al,iV ax,.int .u64 hn,iV hl,iV hx,.int .u64 md,iV cE,.int .u64 cH,iV cV,iV cS]:=h
 have h1:=h.grown (ZZ w (.cells #[iV 0,iV 0,.int .u64 0,iV 0,iV 0,iV 0,.bool false] 77))
 have k0:=h1.at0 0 rfl
 have k1:=h1.at0 1 rfl
 have k2:=h1.at0 2 rfl
 have k3:=h1.at0 3 rfl
 have k4:=h1.at0 4 rfl
 have k5:=h1.at0 5 rfl
 have k6:=h1.at0 6 rfl
 have k7:=h1.at0 7 rfl
 have k8:=h1.at0 8 rfl
 have k9:=h1.at0 9 rfl
 have k10:=h1.at0 10 rfl
 have k11:=h1.at0 11 rfl
 have k12:=h1.at0 12 rfl
 have k13:=h1.at0 13 rfl
 have k14:=h1.at0 14 rfl
 have k15:=h1.at0 15 rfl
 rw[show Lr.want ⟨kd,ky,hd,0,an,al,ax,hn,hl,hx,md,cE,cH,cV,cS⟩ false=⟨3,0,hd,1,0,0,false⟩ from rfl]
 go_enter Tryz.func98,Tryz.ntmps98
 go_wp2_with (go_at_call 109;refine(TV hd 1 _).mono ?_;rintro e w1 ⟨rfl,g1⟩;have zz:=(At.new w 77 [iV 0,iV 0,.int .u64 0,iV 0,iV 0,iV 0,.bool false]).grown g1;have u0:=zz.at0 0 rfl;have u1:=zz.at0 1 rfl;have u2:=zz.at0 2 rfl;have u3:=zz.at0 3 rfl;have u4:=zz.at0 4 rfl;have u5:=zz.at0 5 rfl;have u6:=zz.at0 6 rfl;have zf:=zz.fz)
 have zq:=(((((((zz).ZQ 0 (iV 3)).ZQ 1 (iV 0)).ZQ 2 (.int .u64 hd)).ZQ 3 (iV 1)).ZQ 4 (iV 0)).ZQ 5 (iV 0)).ZQ 6 (.bool false)
 have t0:=zq.at0 0 rfl;have t1:=zq.at0 1 rfl;have t2:=zq.at0 2 rfl;have t3:=zq.at0 3 rfl;have t4:=zq.at0 4 rfl;have t5:=zq.at0 5 rfl;have t6:=zq.at0 6 rfl
 exact bodyPost_ret (v:=Xa.v ⟨3,0,hd,1,0,0,false⟩) (by simp[results,Tryz.results98,go_sem,t0,t1,t2,t3,t4,t5,t6]) rfl ⟨rfl,Z4 (Z4 (Z4 (Z4 (Z4 (Z4 (Z4 (grow (Z7 (Below.refl _ _) _) g1) (Nat.le_refl _) _ _) (Nat.le_refl _) _ _) (Nat.le_refl _) _ _) (Nat.le_refl _) _ _) (Nat.le_refl _) _ _) (Nat.le_refl _) _ _) (Nat.le_refl _) _ _⟩
theorem Lm {w:World} {b:Nat} {ob:Value} {S:Lr} (h:ZJ w b ob S) (hn0:S.nx=1) :
 Calls Tryz.prog 98 #[pP b 0] w fun e w'=>e=.returned (Xa.v (S.want false))/\Below w.heap.size w w':=by
 obtain⟨kd,ky,hd,nx,an,al,ax,hn,hl,hx,md,cE,cH,cV,cS⟩:=S
 replace hn0:nx=1:=hn0
 subst hn0
 obtain⟨c,h⟩:=h
 replace h:At w b 0 145 c [iV kd,iV ky,.int .u64 hd,iV 1,ob,.int .u64 an,iV al,iV ax,.int .u64 hn,iV hl,iV hx,.int .u64 md,iV cE,.int .u64 cH,iV cV,iV cS]:=h
 have h1:=h.grown (ZZ w (.cells #[iV 0,iV 0,.int .u64 0,iV 0,iV 0,iV 0,.bool false] 77))
 have k0:=h1.at0 0 rfl
 have k1:=h1.at0 1 rfl
 have k2:=h1.at0 2 rfl
 have k3:=h1.at0 3 rfl
 have k4:=h1.at0 4 rfl
 have k5:=h1.at0 5 rfl
 have k6:=h1.at0 6 rfl
 have k7:=h1.at0 7 rfl
 have k8:=h1.at0 8 rfl
 have k9:=h1.at0 9 rfl
 have k10:=h1.at0 10 rfl
 have k11:=h1.at0 11 rfl
 have k12:=h1.at0 12 rfl
 have k13:=h1.at0 13 rfl
 have k14:=h1.at0 14 rfl
 have k15:=h1.at0 15 rfl
 rw[show Lr.want ⟨kd,ky,hd,1,an,al,ax,hn,hl,hx,md,cE,cH,cV,cS⟩ false=⟨3,0,hn,1,0,0,false⟩ from rfl]
 go_enter Tryz.func98,Tryz.ntmps98
 go_wp2_with (go_at_call 109;refine(TV hn 1 _).mono ?_;rintro e w1 ⟨rfl,g1⟩;have zz:=(At.new w 77 [iV 0,iV 0,.int .u64 0,iV 0,iV 0,iV 0,.bool false]).grown g1;have u0:=zz.at0 0 rfl;have u1:=zz.at0 1 rfl;have u2:=zz.at0 2 rfl;have u3:=zz.at0 3 rfl;have u4:=zz.at0 4 rfl;have u5:=zz.at0 5 rfl;have u6:=zz.at0 6 rfl;have zf:=zz.fz)
 have zq:=(((((((zz).ZQ 0 (iV 3)).ZQ 1 (iV 0)).ZQ 2 (.int .u64 hn)).ZQ 3 (iV 1)).ZQ 4 (iV 0)).ZQ 5 (iV 0)).ZQ 6 (.bool false)
 have t0:=zq.at0 0 rfl;have t1:=zq.at0 1 rfl;have t2:=zq.at0 2 rfl;have t3:=zq.at0 3 rfl;have t4:=zq.at0 4 rfl;have t5:=zq.at0 5 rfl;have t6:=zq.at0 6 rfl
 exact bodyPost_ret (v:=Xa.v ⟨3,0,hn,1,0,0,false⟩) (by simp[results,Tryz.results98,go_sem,t0,t1,t2,t3,t4,t5,t6]) rfl ⟨rfl,Z4 (Z4 (Z4 (Z4 (Z4 (Z4 (Z4 (grow (Z7 (Below.refl _ _) _) g1) (Nat.le_refl _) _ _) (Nat.le_refl _) _ _) (Nat.le_refl _) _ _) (Nat.le_refl _) _ _) (Nat.le_refl _) _ _) (Nat.le_refl _) _ _) (Nat.le_refl _) _ _⟩
theorem Rn {w:World} {b:Nat} {ob:Value} {S:Lr} (h:ZJ w b ob S) (hn0:S.nx=2\/S.nx=11) (a0:0<=S.al) (a1:S.al<8589934592) (l0:0<=S.hl) (l1:S.hl<8589934592) :
 Calls Tryz.prog 98 #[pP b 0] w fun e w'=>e=.returned (Xa.v (S.want false))/\Below w.heap.size w w':=by
 obtain⟨kd,ky,hd,nx,an,al,ax,hn,hl,hx,md,cE,cH,cV,cS⟩:=S
 rcases hn0 with hn0 | hn0
 all_goals
  replace hn0:nx=_:=hn0
  subst hn0
  obtain⟨c,h⟩:=h
  replace h:At w b 0 145 c [iV kd,iV ky,.int .u64 hd,iV _,ob,.int .u64 an,iV al,iV ax,.int .u64 hn,iV hl,iV hx,.int .u64 md,iV cE,.int .u64 cH,iV cV,iV cS]:=h
  have h1:=h.grown (ZZ w (.cells #[iV 0,iV 0,.int .u64 0,iV 0,iV 0,iV 0,.bool false] 77))
  have k0:=h1.at0 0 rfl
  have k1:=h1.at0 1 rfl
  have k2:=h1.at0 2 rfl
  have k3:=h1.at0 3 rfl
  have k4:=h1.at0 4 rfl
  have k5:=h1.at0 5 rfl
  have k6:=h1.at0 6 rfl
  have k7:=h1.at0 7 rfl
  have k8:=h1.at0 8 rfl
  have k9:=h1.at0 9 rfl
  have k10:=h1.at0 10 rfl
  have k11:=h1.at0 11 rfl
  have k12:=h1.at0 12 rfl
  have k13:=h1.at0 13 rfl
  have k14:=h1.at0 14 rfl
  have k15:=h1.at0 15 rfl
  rw[show Lr.want ⟨kd,ky,hd,_,an,al,ax,hn,hl,hx,md,cE,cH,cV,cS⟩ false=⟨5,0,an,1,Lr.lead al (hl % 4294967296),al,false⟩ from rfl]
  replace a0:0<=al:=a0
  replace a1:al<8589934592:=a1
  replace l0:0<=hl:=l0
  replace l1:hl<8589934592:=l1
  have wE:=WA hn hl hx l0 l1
  have Ea:=VZ an al ax (hl % 4294967296) a0 a1 (by omega) (by omega)
  clear a0 a1 l0 l1
  generalize hl % 4294967296=x at wE Ea ⊢
  generalize Lr.lead al x=y at Ea ⊢
  go_enter Tryz.func98,Tryz.ntmps98
  go_wp2
  refine ZT (fun W=>At W b 0 145 c [iV kd,iV ky,.int .u64 hd,iV _,ob,.int .u64 an,iV al,iV ax,.int .u64 hn,iV hl,iV hx,.int .u64 md,iV cE,.int .u64 cH,iV cV,iV cS]/\Below w.heap.size w W/\At W w.heap.size 0 77 #[iV 0,iV 0,.int .u64 0,iV 0,iV 0,iV 0,.bool false] [iV 0,iV 0,.int .u64 0,iV 0,iV 0,iV 0,.bool false]) ⟨h1,ZZ _ _,At.new w 77 [iV 0,iV 0,.int .u64 0,iV 0,iV 0,iV 0,.bool false]⟩ ?_
  rintro W ⟨hW,bW,zW⟩
  clear k0 k1 k2 k3 k4 k5 k6 k7 k8 k9 k10 k11 k12 k13 k14 k15
  apply Xy 14;. kernel_rfl
  iterate 3 (apply rV;. intros;apply ol;go_simp;exact gl)
  apply rV;. intro w' hg _;apply ol;have hw:=hW.drew.grown hg;have y5:=hw.at0 5 rfl;have y6:=hw.at0 6 rfl;have y7:=hw.at0 7 rfl;go_simp;exact gl
  iterate 2 (apply rV;. intros;apply ol;go_simp;exact gl)
  try simp only[pu,s0,s1]
  apply rV;. intros;apply ol;go_simp;exact gl
  apply rV;. intro w' hg _;apply ol;have hw:=hW.drew.grown hg;have y5:=hw.at0 5 rfl;have y6:=hw.at0 6 rfl;have y7:=hw.at0 7 rfl;go_simp;exact gl
  iterate 3 (apply rV;. intros;apply ol;go_simp;exact gl)
  apply rV;. intro w' hg _;apply ol;have hw:=hW.drew.grown hg;have y8:=hw.at0 8 rfl;have y9:=hw.at0 9 rfl;have wF:=hw.at0 10 rfl;go_simp;exact gl
  try simp only[pu,s0,s1]
  apply rV;. intro w' hg _;apply ol;go_simp;exact cb (wE _)
  apply XW;. intro w' hg _;apply ol;go_simp;exact cb (Ea _)
  try simp only[pu,s0,s1]
  intro w5 hg _
  have z5:=zW.drew.grown hg
  go_wp2_with (go_at_call 110;refine(TT an al ax y _).mono ?_;rintro e w1 ⟨rfl,g1⟩;have zz:=z5.grown g1;have u0:=zz.at0 0 rfl;have u1:=zz.at0 1 rfl;have u2:=zz.at0 2 rfl;have u3:=zz.at0 3 rfl;have u4:=zz.at0 4 rfl;have u5:=zz.at0 5 rfl;have u6:=zz.at0 6 rfl;have zf:=zz.fz)
  have zq:=(((((((zz).ZQ 0 (iV 5)).ZQ 1 (iV 0)).ZQ 2 (.int .u64 an)).ZQ 3 (iV 1)).ZQ 4 (iV y)).ZQ 5 (iV al)).ZQ 6 (.bool false)
  have t0:=zq.at0 0 rfl;have t1:=zq.at0 1 rfl;have t2:=zq.at0 2 rfl;have t3:=zq.at0 3 rfl;have t4:=zq.at0 4 rfl;have t5:=zq.at0 5 rfl;have t6:=zq.at0 6 rfl
  exact bodyPost_ret (v:=Xa.v ⟨5,0,an,1,y,al,false⟩) (by simp[results,Tryz.results98,go_sem,t0,t1,t2,t3,t4,t5,t6]) rfl ⟨rfl,Z4 (Z4 (Z4 (Z4 (Z4 (Z4 (Z4 (grow (grow (grow bW ((Below.refl _ _).drew)) hg) g1) (Nat.le_refl _) _ _) (Nat.le_refl _) _ _) (Nat.le_refl _) _ _) (Nat.le_refl _) _ _) (Nat.le_refl _) _ _) (Nat.le_refl _) _ _) (Nat.le_refl _) _ _⟩
theorem Ll {w:World} {b:Nat} {ob:Value} {S:Lr} (h:ZJ w b ob S) (hn0:S.nx=3) :
 Calls Tryz.prog 98 #[pP b 0] w fun e w'=>e=.returned (Xa.v (S.want false))/\Below w.heap.size w w':=by
 obtain⟨kd,ky,hd,nx,an,al,ax,hn,hl,hx,md,cE,cH,cV,cS⟩:=S
 replace hn0:nx=3:=hn0
 subst hn0
 obtain⟨c,h⟩:=h
 replace h:At w b 0 145 c [iV kd,iV ky,.int .u64 hd,iV 3,ob,.int .u64 an,iV al,iV ax,.int .u64 hn,iV hl,iV hx,.int .u64 md,iV cE,.int .u64 cH,iV cV,iV cS]:=h
 have h1:=h.grown (ZZ w (.cells #[iV 0,iV 0,.int .u64 0,iV 0,iV 0,iV 0,.bool false] 77))
 have k0:=h1.at0 0 rfl
 have k1:=h1.at0 1 rfl
 have k2:=h1.at0 2 rfl
 have k3:=h1.at0 3 rfl
 have k4:=h1.at0 4 rfl
 have k5:=h1.at0 5 rfl
 have k6:=h1.at0 6 rfl
 have k7:=h1.at0 7 rfl
 have k8:=h1.at0 8 rfl
 have k9:=h1.at0 9 rfl
 have k10:=h1.at0 10 rfl
 have k11:=h1.at0 11 rfl
 have k12:=h1.at0 12 rfl
 have k13:=h1.at0 13 rfl
 have k14:=h1.at0 14 rfl
 have k15:=h1.at0 15 rfl
 rw[show Lr.want ⟨kd,ky,hd,3,an,al,ax,hn,hl,hx,md,cE,cH,cV,cS⟩ false=⟨2,0,hn,0,0,0,false⟩ from rfl]
 go_enter Tryz.func98,Tryz.ntmps98
 go_wp2_with (go_at_call 113;refine(TU hn _).mono ?_;rintro e w1 ⟨rfl,g1⟩;have zz:=(At.new w 77 [iV 0,iV 0,.int .u64 0,iV 0,iV 0,iV 0,.bool false]).grown g1;have u0:=zz.at0 0 rfl;have u1:=zz.at0 1 rfl;have u2:=zz.at0 2 rfl;have u3:=zz.at0 3 rfl;have u4:=zz.at0 4 rfl;have u5:=zz.at0 5 rfl;have u6:=zz.at0 6 rfl;have zf:=zz.fz)
 have zq:=(((((((zz).ZQ 0 (iV 2)).ZQ 1 (iV 0)).ZQ 2 (.int .u64 hn)).ZQ 3 (iV 0)).ZQ 4 (iV 0)).ZQ 5 (iV 0)).ZQ 6 (.bool false)
 have t0:=zq.at0 0 rfl;have t1:=zq.at0 1 rfl;have t2:=zq.at0 2 rfl;have t3:=zq.at0 3 rfl;have t4:=zq.at0 4 rfl;have t5:=zq.at0 5 rfl;have t6:=zq.at0 6 rfl
 exact bodyPost_ret (v:=Xa.v ⟨2,0,hn,0,0,0,false⟩) (by simp[results,Tryz.results98,go_sem,t0,t1,t2,t3,t4,t5,t6]) rfl ⟨rfl,Z4 (Z4 (Z4 (Z4 (Z4 (Z4 (Z4 (grow (Z7 (Below.refl _ _) _) g1) (Nat.le_refl _) _ _) (Nat.le_refl _) _ _) (Nat.le_refl _) _ _) (Nat.le_refl _) _ _) (Nat.le_refl _) _ _) (Nat.le_refl _) _ _) (Nat.le_refl _) _ _⟩
theorem Lj {w:World} {b:Nat} {ob:Value} {S:Lr} (h:ZJ w b ob S) (hn0:S.nx=4) :
 Calls Tryz.prog 98 #[pP b 0] w fun e w'=>e=.returned (Xa.v (S.want false))/\Below w.heap.size w w':=by
 obtain⟨kd,ky,hd,nx,an,al,ax,hn,hl,hx,md,cE,cH,cV,cS⟩:=S
 replace hn0:nx=4:=hn0
 subst hn0
 obtain⟨c,h⟩:=h
 replace h:At w b 0 145 c [iV kd,iV ky,.int .u64 hd,iV 4,ob,.int .u64 an,iV al,iV ax,.int .u64 hn,iV hl,iV hx,.int .u64 md,iV cE,.int .u64 cH,iV cV,iV cS]:=h
 have h1:=h.grown (ZZ w (.cells #[iV 0,iV 0,.int .u64 0,iV 0,iV 0,iV 0,.bool false] 77))
 have k0:=h1.at0 0 rfl
 have k1:=h1.at0 1 rfl
 have k2:=h1.at0 2 rfl
 have k3:=h1.at0 3 rfl
 have k4:=h1.at0 4 rfl
 have k5:=h1.at0 5 rfl
 have k6:=h1.at0 6 rfl
 have k7:=h1.at0 7 rfl
 have k8:=h1.at0 8 rfl
 have k9:=h1.at0 9 rfl
 have k10:=h1.at0 10 rfl
 have k11:=h1.at0 11 rfl
 have k12:=h1.at0 12 rfl
 have k13:=h1.at0 13 rfl
 have k14:=h1.at0 14 rfl
 have k15:=h1.at0 15 rfl
 rw[show Lr.want ⟨kd,ky,hd,4,an,al,ax,hn,hl,hx,md,cE,cH,cV,cS⟩ false=⟨3,0,hn,0,0,0,false⟩ from rfl]
 go_enter Tryz.func98,Tryz.ntmps98
 go_wp2_with (go_at_call 109;refine(TV hn 0 _).mono ?_;rintro e w1 ⟨rfl,g1⟩;have zz:=(At.new w 77 [iV 0,iV 0,.int .u64 0,iV 0,iV 0,iV 0,.bool false]).grown g1;have u0:=zz.at0 0 rfl;have u1:=zz.at0 1 rfl;have u2:=zz.at0 2 rfl;have u3:=zz.at0 3 rfl;have u4:=zz.at0 4 rfl;have u5:=zz.at0 5 rfl;have u6:=zz.at0 6 rfl;have zf:=zz.fz)
 have zq:=(((((((zz).ZQ 0 (iV 3)).ZQ 1 (iV 0)).ZQ 2 (.int .u64 hn)).ZQ 3 (iV 0)).ZQ 4 (iV 0)).ZQ 5 (iV 0)).ZQ 6 (.bool false)
 have t0:=zq.at0 0 rfl;have t1:=zq.at0 1 rfl;have t2:=zq.at0 2 rfl;have t3:=zq.at0 3 rfl;have t4:=zq.at0 4 rfl;have t5:=zq.at0 5 rfl;have t6:=zq.at0 6 rfl
 exact bodyPost_ret (v:=Xa.v ⟨3,0,hn,0,0,0,false⟩) (by simp[results,Tryz.results98,go_sem,t0,t1,t2,t3,t4,t5,t6]) rfl ⟨rfl,Z4 (Z4 (Z4 (Z4 (Z4 (Z4 (Z4 (grow (Z7 (Below.refl _ _) _) g1) (Nat.le_refl _) _ _) (Nat.le_refl _) _ _) (Nat.le_refl _) _ _) (Nat.le_refl _) _ _) (Nat.le_refl _) _ _) (Nat.le_refl _) _ _) (Nat.le_refl _) _ _⟩
theorem Lh {w:World} {b:Nat} {ob:Value} {S:Lr} (h:ZJ w b ob S) (hn0:S.nx=5) :
 Calls Tryz.prog 98 #[pP b 0] w fun e w'=>e=.returned (Xa.v (S.want false))/\Below w.heap.size w w':=by
 obtain⟨kd,ky,hd,nx,an,al,ax,hn,hl,hx,md,cE,cH,cV,cS⟩:=S
 replace hn0:nx=5:=hn0
 subst hn0
 obtain⟨c,h⟩:=h
 replace h:At w b 0 145 c [iV kd,iV ky,.int .u64 hd,iV 5,ob,.int .u64 an,iV al,iV ax,.int .u64 hn,iV hl,iV hx,.int .u64 md,iV cE,.int .u64 cH,iV cV,iV cS]:=h
 have h1:=h.grown (ZZ w (.cells #[iV 0,iV 0,.int .u64 0,iV 0,iV 0,iV 0,.bool false] 77))
 have k0:=h1.at0 0 rfl
 have k1:=h1.at0 1 rfl
 have k2:=h1.at0 2 rfl
 have k3:=h1.at0 3 rfl
 have k4:=h1.at0 4 rfl
 have k5:=h1.at0 5 rfl
 have k6:=h1.at0 6 rfl
 have k7:=h1.at0 7 rfl
 have k8:=h1.at0 8 rfl
 have k9:=h1.at0 9 rfl
 have k10:=h1.at0 10 rfl
 have k11:=h1.at0 11 rfl
 have k12:=h1.at0 12 rfl
 have k13:=h1.at0 13 rfl
 have k14:=h1.at0 14 rfl
 have k15:=h1.at0 15 rfl
 rw[show Lr.want ⟨kd,ky,hd,5,an,al,ax,hn,hl,hx,md,cE,cH,cV,cS⟩ false=⟨1,2,0,0,0,0,false⟩ from rfl]
 go_enter Tryz.func98,Tryz.ntmps98
 go_wp2
 exact bodyPost_ret (v:=Xa.v ⟨1,2,0,0,0,0,false⟩) (by simp[results,Tryz.results98,go_sem]) rfl ⟨rfl,Z7 (Below.refl _ _) _⟩
theorem Le {w:World} {b:Nat} {ob:Value} {S:Lr} (h:ZJ w b ob S) (hn0:S.nx=6) :
 Calls Tryz.prog 98 #[pP b 0] w fun e w'=>e=.returned (Xa.v (S.want false))/\Below w.heap.size w w':=by
 obtain⟨kd,ky,hd,nx,an,al,ax,hn,hl,hx,md,cE,cH,cV,cS⟩:=S
 replace hn0:nx=6:=hn0
 subst hn0
 obtain⟨c,h⟩:=h
 replace h:At w b 0 145 c [iV kd,iV ky,.int .u64 hd,iV 6,ob,.int .u64 an,iV al,iV ax,.int .u64 hn,iV hl,iV hx,.int .u64 md,iV cE,.int .u64 cH,iV cV,iV cS]:=h
 have h1:=h.grown (ZZ w (.cells #[iV 0,iV 0,.int .u64 0,iV 0,iV 0,iV 0,.bool false] 77))
 have k0:=h1.at0 0 rfl
 have k1:=h1.at0 1 rfl
 have k2:=h1.at0 2 rfl
 have k3:=h1.at0 3 rfl
 have k4:=h1.at0 4 rfl
 have k5:=h1.at0 5 rfl
 have k6:=h1.at0 6 rfl
 have k7:=h1.at0 7 rfl
 have k8:=h1.at0 8 rfl
 have k9:=h1.at0 9 rfl
 have k10:=h1.at0 10 rfl
 have k11:=h1.at0 11 rfl
 have k12:=h1.at0 12 rfl
 have k13:=h1.at0 13 rfl
 have k14:=h1.at0 14 rfl
 have k15:=h1.at0 15 rfl
 rw[show Lr.want ⟨kd,ky,hd,6,an,al,ax,hn,hl,hx,md,cE,cH,cV,cS⟩ false=⟨4,0,md,0,ky,0,false⟩ from rfl]
 go_enter Tryz.func98,Tryz.ntmps98
 go_wp2
 refine ZT (fun W=>At W b 0 145 c [iV kd,iV ky,.int .u64 hd,iV 6,ob,.int .u64 an,iV al,iV ax,.int .u64 hn,iV hl,iV hx,.int .u64 md,iV cE,.int .u64 cH,iV cV,iV cS]/\Below w.heap.size w W/\At W w.heap.size 0 77 #[iV 0,iV 0,.int .u64 0,iV 0,iV 0,iV 0,.bool false] [iV 0,iV 0,.int .u64 0,iV 0,iV 0,iV 0,.bool false]) ⟨h1,ZZ _ _,At.new w 77 [iV 0,iV 0,.int .u64 0,iV 0,iV 0,iV 0,.bool false]⟩ ?_
 rintro W ⟨hW,bW,zW⟩
 clear k0 k1 k2 k3 k4 k5 k6 k7 k8 k9 k10 k11 k12 k13 k14 k15
 apply Xy 8;. kernel_rfl
 iterate 3 (apply rV;. intros;apply ol;go_simp;exact gl)
 apply rV;. intro w' hg _;apply ol;have hw:=hW.drew.grown hg;have qQ:=hw.at0 11 rfl;go_simp;exact gl
 iterate 2 (apply rV;. intros;apply ol;go_simp;exact gl)
 try simp only[pu,s0,s1]
 apply rV;. intros;apply ol;go_simp;exact gl
 apply XW;. intro w' hg _;apply ol;have hw:=hW.drew.grown hg;have y1:=hw.at0 1 rfl;go_simp;exact gl
 try simp only[pu,s0,s1]
 intro w5 hg _
 have z5:=zW.drew.grown hg
 go_wp2_with (go_at_call 114;refine(Rj md 0 ky _).mono ?_;rintro e w1 ⟨rfl,g1⟩;have zz:=z5.grown g1;have u0:=zz.at0 0 rfl;have u1:=zz.at0 1 rfl;have u2:=zz.at0 2 rfl;have u3:=zz.at0 3 rfl;have u4:=zz.at0 4 rfl;have u5:=zz.at0 5 rfl;have u6:=zz.at0 6 rfl;have zf:=zz.fz)
 have zq:=(((((((zz).ZQ 0 (iV 4)).ZQ 1 (iV 0)).ZQ 2 (.int .u64 md)).ZQ 3 (iV 0)).ZQ 4 (iV ky)).ZQ 5 (iV 0)).ZQ 6 (.bool false)
 have t0:=zq.at0 0 rfl;have t1:=zq.at0 1 rfl;have t2:=zq.at0 2 rfl;have t3:=zq.at0 3 rfl;have t4:=zq.at0 4 rfl;have t5:=zq.at0 5 rfl;have t6:=zq.at0 6 rfl
 exact bodyPost_ret (v:=Xa.v ⟨4,0,md,0,ky,0,false⟩) (by simp[results,Tryz.results98,go_sem,t0,t1,t2,t3,t4,t5,t6]) rfl ⟨rfl,Z4 (Z4 (Z4 (Z4 (Z4 (Z4 (Z4 (grow (grow (grow bW ((Below.refl _ _).drew)) hg) g1) (Nat.le_refl _) _ _) (Nat.le_refl _) _ _) (Nat.le_refl _) _ _) (Nat.le_refl _) _ _) (Nat.le_refl _) _ _) (Nat.le_refl _) _ _) (Nat.le_refl _) _ _⟩
theorem Ld {w:World} {b:Nat} {ob:Value} {S:Lr} (h:ZJ w b ob S) (hn0:S.nx=7) (m0:0<=S.hn) (m1:S.hn<4294967296) :
 Calls Tryz.prog 98 #[pP b 0] w fun e w'=>e=.returned (Xa.v (S.want false))/\Below w.heap.size w w':=by
 obtain⟨kd,ky,hd,nx,an,al,ax,hn,hl,hx,md,cE,cH,cV,cS⟩:=S
 replace hn0:nx=7:=hn0
 subst hn0
 obtain⟨c,h⟩:=h
 replace h:At w b 0 145 c [iV kd,iV ky,.int .u64 hd,iV 7,ob,.int .u64 an,iV al,iV ax,.int .u64 hn,iV hl,iV hx,.int .u64 md,iV cE,.int .u64 cH,iV cV,iV cS]:=h
 have h1:=h.grown (ZZ w (.cells #[iV 0,iV 0,.int .u64 0,iV 0,iV 0,iV 0,.bool false] 77))
 have k0:=h1.at0 0 rfl
 have k1:=h1.at0 1 rfl
 have k2:=h1.at0 2 rfl
 have k3:=h1.at0 3 rfl
 have k4:=h1.at0 4 rfl
 have k5:=h1.at0 5 rfl
 have k6:=h1.at0 6 rfl
 have k7:=h1.at0 7 rfl
 have k8:=h1.at0 8 rfl
 have k9:=h1.at0 9 rfl
 have k10:=h1.at0 10 rfl
 have k11:=h1.at0 11 rfl
 have k12:=h1.at0 12 rfl
 have k13:=h1.at0 13 rfl
 have k14:=h1.at0 14 rfl
 have k15:=h1.at0 15 rfl
 rw[show Lr.want ⟨kd,ky,hd,7,an,al,ax,hn,hl,hx,md,cE,cH,cV,cS⟩ false=⟨4,0,md,1,hn,0,false⟩ from rfl]
 replace m0:0<=hn:=m0
 replace m1:hn<4294967296:=m1
 have hp:=V5 hn m0 m1 false
 rw[if_neg (by decide),Int.add_zero] at hp
 clear m0 m1
 go_enter Tryz.func98,Tryz.ntmps98
 go_wp2
 refine ZT (fun W=>At W b 0 145 c [iV kd,iV ky,.int .u64 hd,iV 7,ob,.int .u64 an,iV al,iV ax,.int .u64 hn,iV hl,iV hx,.int .u64 md,iV cE,.int .u64 cH,iV cV,iV cS]/\Below w.heap.size w W/\At W w.heap.size 0 77 #[iV 0,iV 0,.int .u64 0,iV 0,iV 0,iV 0,.bool false] [iV 0,iV 0,.int .u64 0,iV 0,iV 0,iV 0,.bool false]) ⟨h1,ZZ _ _,At.new w 77 [iV 0,iV 0,.int .u64 0,iV 0,iV 0,iV 0,.bool false]⟩ ?_
 rintro W ⟨hW,bW,zW⟩
 clear k0 k1 k2 k3 k4 k5 k6 k7 k8 k9 k10 k11 k12 k13 k14 k15
 apply Xy 11;. kernel_rfl
 iterate 3 (apply rV;. intros;apply ol;go_simp;exact gl)
 apply rV;. intro w' hg _;apply ol;have hw:=hW.drew.grown hg;have qQ:=hw.at0 11 rfl;go_simp;exact gl
 iterate 2 (apply rV;. intros;apply ol;go_simp;exact gl)
 try simp only[pu,s0,s1]
 iterate 2 (apply rV;. intros;apply ol;go_simp;exact gl)
 apply rV;. intro w' hg _;apply ol;have hw:=hW.drew.grown hg;have y8:=hw.at0 8 rfl;go_simp;exact gl
 apply rV;. intros;apply ol;go_simp;exact gl
 apply XW;. intro w' hg _;apply ol;go_simp;exact cb (hp _)
 try simp only[pu,s0,s1]
 intro w5 hg _
 have z5:=zW.drew.grown hg
 go_wp2_with (go_at_call 114;refine(Rj md 1 hn _).mono ?_;rintro e w1 ⟨rfl,g1⟩;have zz:=z5.grown g1;have u0:=zz.at0 0 rfl;have u1:=zz.at0 1 rfl;have u2:=zz.at0 2 rfl;have u3:=zz.at0 3 rfl;have u4:=zz.at0 4 rfl;have u5:=zz.at0 5 rfl;have u6:=zz.at0 6 rfl;have zf:=zz.fz)
 have zq:=(((((((zz).ZQ 0 (iV 4)).ZQ 1 (iV 0)).ZQ 2 (.int .u64 md)).ZQ 3 (iV 1)).ZQ 4 (iV hn)).ZQ 5 (iV 0)).ZQ 6 (.bool false)
 have t0:=zq.at0 0 rfl;have t1:=zq.at0 1 rfl;have t2:=zq.at0 2 rfl;have t3:=zq.at0 3 rfl;have t4:=zq.at0 4 rfl;have t5:=zq.at0 5 rfl;have t6:=zq.at0 6 rfl
 exact bodyPost_ret (v:=Xa.v ⟨4,0,md,1,hn,0,false⟩) (by simp[results,Tryz.results98,go_sem,t0,t1,t2,t3,t4,t5,t6]) rfl ⟨rfl,Z4 (Z4 (Z4 (Z4 (Z4 (Z4 (Z4 (grow (grow (grow bW ((Below.refl _ _).drew)) hg) g1) (Nat.le_refl _) _ _) (Nat.le_refl _) _ _) (Nat.le_refl _) _ _) (Nat.le_refl _) _ _) (Nat.le_refl _) _ _) (Nat.le_refl _) _ _) (Nat.le_refl _) _ _⟩
theorem Lc {w:World} {b:Nat} {ob:Value} {S:Lr} (h:ZJ w b ob S) (hn0:S.nx=8) (a0:0<=S.al) (a1:S.al<8589934592) (m0:0<=S.md) (m1:S.md<4294967296) :
 Calls Tryz.prog 98 #[pP b 0] w fun e w'=>e=.returned (Xa.v (S.want false))/\Below w.heap.size w w':=by
 obtain⟨kd,ky,hd,nx,an,al,ax,hn,hl,hx,md,cE,cH,cV,cS⟩:=S
 replace hn0:nx=8:=hn0
 subst hn0
 obtain⟨c,h⟩:=h
 replace h:At w b 0 145 c [iV kd,iV ky,.int .u64 hd,iV 8,ob,.int .u64 an,iV al,iV ax,.int .u64 hn,iV hl,iV hx,.int .u64 md,iV cE,.int .u64 cH,iV cV,iV cS]:=h
 have h1:=h.grown (ZZ w (.cells #[iV 0,iV 0,.int .u64 0,iV 0,iV 0,iV 0,.bool false] 77))
 have k0:=h1.at0 0 rfl
 have k1:=h1.at0 1 rfl
 have k2:=h1.at0 2 rfl
 have k3:=h1.at0 3 rfl
 have k4:=h1.at0 4 rfl
 have k5:=h1.at0 5 rfl
 have k6:=h1.at0 6 rfl
 have k7:=h1.at0 7 rfl
 have k8:=h1.at0 8 rfl
 have k9:=h1.at0 9 rfl
 have k10:=h1.at0 10 rfl
 have k11:=h1.at0 11 rfl
 have k12:=h1.at0 12 rfl
 have k13:=h1.at0 13 rfl
 have k14:=h1.at0 14 rfl
 have k15:=h1.at0 15 rfl
 rw[show Lr.want ⟨kd,ky,hd,8,an,al,ax,hn,hl,hx,md,cE,cH,cV,cS⟩ false=⟨5,0,an,1,Lr.lead al md,al,false⟩ from rfl]
 replace a0:0<=al:=a0
 replace a1:al<8589934592:=a1
 replace m0:0<=md:=m0
 replace m1:md<4294967296:=m1
 have Ea:=VZ an al ax md a0 a1 m0 m1
 clear a0 a1 m0 m1
 generalize Lr.lead al md=y at Ea ⊢
 go_enter Tryz.func98,Tryz.ntmps98
 go_wp2
 refine ZT (fun W=>At W b 0 145 c [iV kd,iV ky,.int .u64 hd,iV 8,ob,.int .u64 an,iV al,iV ax,.int .u64 hn,iV hl,iV hx,.int .u64 md,iV cE,.int .u64 cH,iV cV,iV cS]/\Below w.heap.size w W/\At W w.heap.size 0 77 #[iV 0,iV 0,.int .u64 0,iV 0,iV 0,iV 0,.bool false] [iV 0,iV 0,.int .u64 0,iV 0,iV 0,iV 0,.bool false]) ⟨h1,ZZ _ _,At.new w 77 [iV 0,iV 0,.int .u64 0,iV 0,iV 0,iV 0,.bool false]⟩ ?_
 rintro W ⟨hW,bW,zW⟩
 clear k0 k1 k2 k3 k4 k5 k6 k7 k8 k9 k10 k11 k12 k13 k14 k15
 apply Xy 13;. kernel_rfl
 iterate 3 (apply rV;. intros;apply ol;go_simp;exact gl)
 apply rV;. intro w' hg _;apply ol;have hw:=hW.drew.grown hg;have y5:=hw.at0 5 rfl;have y6:=hw.at0 6 rfl;have y7:=hw.at0 7 rfl;go_simp;exact gl
 iterate 2 (apply rV;. intros;apply ol;go_simp;exact gl)
 try simp only[pu,s0,s1]
 apply rV;. intros;apply ol;go_simp;exact gl
 apply rV;. intro w' hg _;apply ol;have hw:=hW.drew.grown hg;have y5:=hw.at0 5 rfl;have y6:=hw.at0 6 rfl;have y7:=hw.at0 7 rfl;go_simp;exact gl
 iterate 3 (apply rV;. intros;apply ol;go_simp;exact gl)
 apply rV;. intro w' hg _;apply ol;have hw:=hW.drew.grown hg;have qQ:=hw.at0 11 rfl;go_simp;exact gl
 try simp only[pu,s0,s1]
 apply XW;. intro w' hg _;apply ol;go_simp;exact cb (Ea _)
 try simp only[pu,s0,s1]
 intro w5 hg _
 have z5:=zW.drew.grown hg
 go_wp2_with (go_at_call 110;refine(TT an al ax y _).mono ?_;rintro e w1 ⟨rfl,g1⟩;have zz:=z5.grown g1;have u0:=zz.at0 0 rfl;have u1:=zz.at0 1 rfl;have u2:=zz.at0 2 rfl;have u3:=zz.at0 3 rfl;have u4:=zz.at0 4 rfl;have u5:=zz.at0 5 rfl;have u6:=zz.at0 6 rfl;have zf:=zz.fz)
 have zq:=(((((((zz).ZQ 0 (iV 5)).ZQ 1 (iV 0)).ZQ 2 (.int .u64 an)).ZQ 3 (iV 1)).ZQ 4 (iV y)).ZQ 5 (iV al)).ZQ 6 (.bool false)
 have t0:=zq.at0 0 rfl;have t1:=zq.at0 1 rfl;have t2:=zq.at0 2 rfl;have t3:=zq.at0 3 rfl;have t4:=zq.at0 4 rfl;have t5:=zq.at0 5 rfl;have t6:=zq.at0 6 rfl
 exact bodyPost_ret (v:=Xa.v ⟨5,0,an,1,y,al,false⟩) (by simp[results,Tryz.results98,go_sem,t0,t1,t2,t3,t4,t5,t6]) rfl ⟨rfl,Z4 (Z4 (Z4 (Z4 (Z4 (Z4 (Z4 (grow (grow (grow bW ((Below.refl _ _).drew)) hg) g1) (Nat.le_refl _) _ _) (Nat.le_refl _) _ _) (Nat.le_refl _) _ _) (Nat.le_refl _) _ _) (Nat.le_refl _) _ _) (Nat.le_refl _) _ _) (Nat.le_refl _) _ _⟩
theorem La {w:World} {b:Nat} {ob:Value} {S:Lr} (h:ZJ w b ob S) (hn0:S.nx=9) :
 Calls Tryz.prog 98 #[pP b 0] w fun e w'=>e=.returned (Xa.v (S.want false))/\Below w.heap.size w w':=by
 obtain⟨kd,ky,hd,nx,an,al,ax,hn,hl,hx,md,cE,cH,cV,cS⟩:=S
 replace hn0:nx=9:=hn0
 subst hn0
 obtain⟨c,h⟩:=h
 replace h:At w b 0 145 c [iV kd,iV ky,.int .u64 hd,iV 9,ob,.int .u64 an,iV al,iV ax,.int .u64 hn,iV hl,iV hx,.int .u64 md,iV cE,.int .u64 cH,iV cV,iV cS]:=h
 have h1:=h.grown (ZZ w (.cells #[iV 0,iV 0,.int .u64 0,iV 0,iV 0,iV 0,.bool false] 77))
 have k0:=h1.at0 0 rfl
 have k1:=h1.at0 1 rfl
 have k2:=h1.at0 2 rfl
 have k3:=h1.at0 3 rfl
 have k4:=h1.at0 4 rfl
 have k5:=h1.at0 5 rfl
 have k6:=h1.at0 6 rfl
 have k7:=h1.at0 7 rfl
 have k8:=h1.at0 8 rfl
 have k9:=h1.at0 9 rfl
 have k10:=h1.at0 10 rfl
 have k11:=h1.at0 11 rfl
 have k12:=h1.at0 12 rfl
 have k13:=h1.at0 13 rfl
 have k14:=h1.at0 14 rfl
 have k15:=h1.at0 15 rfl
 rw[show Lr.want ⟨kd,ky,hd,9,an,al,ax,hn,hl,hx,md,cE,cH,cV,cS⟩ false=⟨2,0,md,0,0,0,false⟩ from rfl]
 go_enter Tryz.func98,Tryz.ntmps98
 go_wp2_with (go_at_call 113;refine(TU md _).mono ?_;rintro e w1 ⟨rfl,g1⟩;have zz:=(At.new w 77 [iV 0,iV 0,.int .u64 0,iV 0,iV 0,iV 0,.bool false]).grown g1;have u0:=zz.at0 0 rfl;have u1:=zz.at0 1 rfl;have u2:=zz.at0 2 rfl;have u3:=zz.at0 3 rfl;have u4:=zz.at0 4 rfl;have u5:=zz.at0 5 rfl;have u6:=zz.at0 6 rfl;have zf:=zz.fz)
 have zq:=(((((((zz).ZQ 0 (iV 2)).ZQ 1 (iV 0)).ZQ 2 (.int .u64 md)).ZQ 3 (iV 0)).ZQ 4 (iV 0)).ZQ 5 (iV 0)).ZQ 6 (.bool false)
 have t0:=zq.at0 0 rfl;have t1:=zq.at0 1 rfl;have t2:=zq.at0 2 rfl;have t3:=zq.at0 3 rfl;have t4:=zq.at0 4 rfl;have t5:=zq.at0 5 rfl;have t6:=zq.at0 6 rfl
 exact bodyPost_ret (v:=Xa.v ⟨2,0,md,0,0,0,false⟩) (by simp[results,Tryz.results98,go_sem,t0,t1,t2,t3,t4,t5,t6]) rfl ⟨rfl,Z4 (Z4 (Z4 (Z4 (Z4 (Z4 (Z4 (grow (Z7 (Below.refl _ _) _) g1) (Nat.le_refl _) _ _) (Nat.le_refl _) _ _) (Nat.le_refl _) _ _) (Nat.le_refl _) _ _) (Nat.le_refl _) _ _) (Nat.le_refl _) _ _) (Nat.le_refl _) _ _⟩
theorem NI {w:World} {b:Nat} {ob:Value} {S:Lr} (h:ZJ w b ob S) (hn0:S.nx=10) (l0:0<=S.hl) (l1:S.hl<8589934592) :
 Calls Tryz.prog 98 #[pP b 0] w fun e w'=>e=.returned (Xa.v (S.want false))/\Below w.heap.size w w':=by
 obtain⟨kd,ky,hd,nx,an,al,ax,hn,hl,hx,md,cE,cH,cV,cS⟩:=S
 replace hn0:nx=10:=hn0
 subst hn0
 obtain⟨c,h⟩:=h
 replace h:At w b 0 145 c [iV kd,iV ky,.int .u64 hd,iV 10,ob,.int .u64 an,iV al,iV ax,.int .u64 hn,iV hl,iV hx,.int .u64 md,iV cE,.int .u64 cH,iV cV,iV cS]:=h
 have h1:=h.grown (ZZ w (.cells #[iV 0,iV 0,.int .u64 0,iV 0,iV 0,iV 0,.bool false] 77))
 have k0:=h1.at0 0 rfl
 have k1:=h1.at0 1 rfl
 have k2:=h1.at0 2 rfl
 have k3:=h1.at0 3 rfl
 have k4:=h1.at0 4 rfl
 have k5:=h1.at0 5 rfl
 have k6:=h1.at0 6 rfl
 have k7:=h1.at0 7 rfl
 have k8:=h1.at0 8 rfl
 have k9:=h1.at0 9 rfl
 have k10:=h1.at0 10 rfl
 have k11:=h1.at0 11 rfl
 have k12:=h1.at0 12 rfl
 have k13:=h1.at0 13 rfl
 have k14:=h1.at0 14 rfl
 have k15:=h1.at0 15 rfl
 rw[show Lr.want ⟨kd,ky,hd,10,an,al,ax,hn,hl,hx,md,cE,cH,cV,cS⟩ false=⟨5,0,hn,1,hl % 4294967296+4294967296,hl,false⟩ from rfl]
 replace l0:0<=hl:=l0
 replace l1:hl<8589934592:=l1
 have qP:=KZ hn hl hx l0 l1
 clear l0 l1
 generalize hl % 4294967296+4294967296=y at qP ⊢
 go_enter Tryz.func98,Tryz.ntmps98
 go_wp2
 refine ZT (fun W=>At W b 0 145 c [iV kd,iV ky,.int .u64 hd,iV 10,ob,.int .u64 an,iV al,iV ax,.int .u64 hn,iV hl,iV hx,.int .u64 md,iV cE,.int .u64 cH,iV cV,iV cS]/\Below w.heap.size w W/\At W w.heap.size 0 77 #[iV 0,iV 0,.int .u64 0,iV 0,iV 0,iV 0,.bool false] [iV 0,iV 0,.int .u64 0,iV 0,iV 0,iV 0,.bool false]) ⟨h1,ZZ _ _,At.new w 77 [iV 0,iV 0,.int .u64 0,iV 0,iV 0,iV 0,.bool false]⟩ ?_
 rintro W ⟨hW,bW,zW⟩
 clear k0 k1 k2 k3 k4 k5 k6 k7 k8 k9 k10 k11 k12 k13 k14 k15
 apply Xy 9;. kernel_rfl
 iterate 3 (apply rV;. intros;apply ol;go_simp;exact gl)
 apply rV;. intro w' hg _;apply ol;have hw:=hW.drew.grown hg;have y8:=hw.at0 8 rfl;have y9:=hw.at0 9 rfl;have wF:=hw.at0 10 rfl;go_simp;exact gl
 iterate 2 (apply rV;. intros;apply ol;go_simp;exact gl)
 try simp only[pu,s0,s1]
 apply rV;. intros;apply ol;go_simp;exact gl
 apply rV;. intro w' hg _;apply ol;have hw:=hW.drew.grown hg;have y8:=hw.at0 8 rfl;have y9:=hw.at0 9 rfl;have wF:=hw.at0 10 rfl;go_simp;exact gl
 apply XW;. intro w' hg _;apply ol;go_simp;exact cb (qP _)
 try simp only[pu,s0,s1]
 intro w5 hg _
 have z5:=zW.drew.grown hg
 go_wp2_with (go_at_call 110;refine(TT hn hl hx y _).mono ?_;rintro e w1 ⟨rfl,g1⟩;have zz:=z5.grown g1;have u0:=zz.at0 0 rfl;have u1:=zz.at0 1 rfl;have u2:=zz.at0 2 rfl;have u3:=zz.at0 3 rfl;have u4:=zz.at0 4 rfl;have u5:=zz.at0 5 rfl;have u6:=zz.at0 6 rfl;have zf:=zz.fz)
 have zq:=(((((((zz).ZQ 0 (iV 5)).ZQ 1 (iV 0)).ZQ 2 (.int .u64 hn)).ZQ 3 (iV 1)).ZQ 4 (iV y)).ZQ 5 (iV hl)).ZQ 6 (.bool false)
 have t0:=zq.at0 0 rfl;have t1:=zq.at0 1 rfl;have t2:=zq.at0 2 rfl;have t3:=zq.at0 3 rfl;have t4:=zq.at0 4 rfl;have t5:=zq.at0 5 rfl;have t6:=zq.at0 6 rfl
 exact bodyPost_ret (v:=Xa.v ⟨5,0,hn,1,y,hl,false⟩) (by simp[results,Tryz.results98,go_sem,t0,t1,t2,t3,t4,t5,t6]) rfl ⟨rfl,Z4 (Z4 (Z4 (Z4 (Z4 (Z4 (Z4 (grow (grow (grow bW ((Below.refl _ _).drew)) hg) g1) (Nat.le_refl _) _ _) (Nat.le_refl _) _ _) (Nat.le_refl _) _ _) (Nat.le_refl _) _ _) (Nat.le_refl _) _ _) (Nat.le_refl _) _ _) (Nat.le_refl _) _ _⟩
theorem NH {w:World} {b:Nat} {ob:Value} {S:Lr} (h:ZJ w b ob S) (hn0:S.nx=12) :
 Calls Tryz.prog 98 #[pP b 0] w fun e w'=>e=.returned (Xa.v (S.want false))/\Below w.heap.size w w':=by
 obtain⟨kd,ky,hd,nx,an,al,ax,hn,hl,hx,md,cE,cH,cV,cS⟩:=S
 replace hn0:nx=12:=hn0
 subst hn0
 obtain⟨c,h⟩:=h
 replace h:At w b 0 145 c [iV kd,iV ky,.int .u64 hd,iV 12,ob,.int .u64 an,iV al,iV ax,.int .u64 hn,iV hl,iV hx,.int .u64 md,iV cE,.int .u64 cH,iV cV,iV cS]:=h
 have h1:=h.grown (ZZ w (.cells #[iV 0,iV 0,.int .u64 0,iV 0,iV 0,iV 0,.bool false] 77))
 have k0:=h1.at0 0 rfl
 have k1:=h1.at0 1 rfl
 have k2:=h1.at0 2 rfl
 have k3:=h1.at0 3 rfl
 have k4:=h1.at0 4 rfl
 have k5:=h1.at0 5 rfl
 have k6:=h1.at0 6 rfl
 have k7:=h1.at0 7 rfl
 have k8:=h1.at0 8 rfl
 have k9:=h1.at0 9 rfl
 have k10:=h1.at0 10 rfl
 have k11:=h1.at0 11 rfl
 have k12:=h1.at0 12 rfl
 have k13:=h1.at0 13 rfl
 have k14:=h1.at0 14 rfl
 have k15:=h1.at0 15 rfl
 rw[show Lr.want ⟨kd,ky,hd,12,an,al,ax,hn,hl,hx,md,cE,cH,cV,cS⟩ false=⟨2,0,hn,0,0,0,false⟩ from rfl]
 go_enter Tryz.func98,Tryz.ntmps98
 go_wp2_with (go_at_call 113;refine(TU hn _).mono ?_;rintro e w1 ⟨rfl,g1⟩;have zz:=(At.new w 77 [iV 0,iV 0,.int .u64 0,iV 0,iV 0,iV 0,.bool false]).grown g1;have u0:=zz.at0 0 rfl;have u1:=zz.at0 1 rfl;have u2:=zz.at0 2 rfl;have u3:=zz.at0 3 rfl;have u4:=zz.at0 4 rfl;have u5:=zz.at0 5 rfl;have u6:=zz.at0 6 rfl;have zf:=zz.fz)
 have zq:=(((((((zz).ZQ 0 (iV 2)).ZQ 1 (iV 0)).ZQ 2 (.int .u64 hn)).ZQ 3 (iV 0)).ZQ 4 (iV 0)).ZQ 5 (iV 0)).ZQ 6 (.bool false)
 have t0:=zq.at0 0 rfl;have t1:=zq.at0 1 rfl;have t2:=zq.at0 2 rfl;have t3:=zq.at0 3 rfl;have t4:=zq.at0 4 rfl;have t5:=zq.at0 5 rfl;have t6:=zq.at0 6 rfl
 exact bodyPost_ret (v:=Xa.v ⟨2,0,hn,0,0,0,false⟩) (by simp[results,Tryz.results98,go_sem,t0,t1,t2,t3,t4,t5,t6]) rfl ⟨rfl,Z4 (Z4 (Z4 (Z4 (Z4 (Z4 (Z4 (grow (Z7 (Below.refl _ _) _) g1) (Nat.le_refl _) _ _) (Nat.le_refl _) _ _) (Nat.le_refl _) _ _) (Nat.le_refl _) _ _) (Nat.le_refl _) _ _) (Nat.le_refl _) _ _) (Nat.le_refl _) _ _⟩
end Go.Proofs.YtgehjolndmgffaaGreat
