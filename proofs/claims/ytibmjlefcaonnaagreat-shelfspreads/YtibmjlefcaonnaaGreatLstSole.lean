import Derived.Test.YtibmjlefcaonnaaGreatLstOn
import Derived.Test.YtibmjlefcaonnaaGreatLstJob
namespace Go.Proofs.YtibmjlefcaonnaaGreat
open Go.RowKit
section
theorem Mc {w:World} {b:Nat} {ob:Value} {S:Lr} (h:ZH w b ob S) (hn0:S.nx=0) :
 Calls Tryz.prog 40 #[pP b 0] w fun e w'=>e=.returned (Xa.v (S.want false))/\Below w.heap.size w w':=by
 obtain⟨kd,ky,hd,nx,an,al,ax,hn,hl,hx,md,cE,cH,cV,cS⟩:=S
 replace hn0:nx=0:=hn0
 subst hn0
 obtain⟨c,h⟩:=h
 replace h:At w b 0 67 c [iV kd,iV ky,.int .u64 hd,iV 0,ob,.int .u64 an,iV al,iV ax,.int .u64 hn,iV hl,iV hx,.int .u64 md,iV cE,.int .u64 cH,iV cV,iV cS]:=h
 have h1:=h.grown (ZY w (.cells #[iV 0,iV 0,.int .u64 0,iV 0,iV 0,iV 0,.bool false] 82))
 have k0:=h1.at0 0 rfl
 have k1:=h1.at0 1 rfl
 have k2:=h1.at0 2 rfl
 have k3:=h1.at0 3 rfl
 have k4:=h1.at0 4 rfl
 have k5:=h1.at0 5 rfl
 have k6:=h1.at0 6 rfl
 have k7:=h1.at0 7 rfl
 have k8:=h1.at0 8 rfl
 have k9:=h1.at0 9 rfl
 have k10:=h1.at0 10 rfl
 have k11:=h1.at0 11 rfl
 have k12:=h1.at0 12 rfl
 have k13:=h1.at0 13 rfl
 have k14:=h1.at0 14 rfl
 have k15:=h1.at0 15 rfl
 rw[show Lr.want ⟨kd,ky,hd,0,an,al,ax,hn,hl,hx,md,cE,cH,cV,cS⟩ false=⟨3,0,hd,1,0,0,false⟩ from rfl]
 go_enter Tryz.func40,Tryz.ntmps40
 go_wp2_with (go_at_call 59;refine(TP hd 1 _).mono ?_;rintro e w1 ⟨rfl,g1⟩;have zz:=(At.new w 82 [iV 0,iV 0,.int .u64 0,iV 0,iV 0,iV 0,.bool false]).grown g1;have u0:=zz.at0 0 rfl;have u1:=zz.at0 1 rfl;have u2:=zz.at0 2 rfl;have u3:=zz.at0 3 rfl;have u4:=zz.at0 4 rfl;have u5:=zz.at0 5 rfl;have u6:=zz.at0 6 rfl;have zf:=zz.fz)
 have zq:=(((((((zz).ZO 0 (iV 3)).ZO 1 (iV 0)).ZO 2 (.int .u64 hd)).ZO 3 (iV 1)).ZO 4 (iV 0)).ZO 5 (iV 0)).ZO 6 (.bool false)
 have t0:=zq.at0 0 rfl;have t1:=zq.at0 1 rfl;have t2:=zq.at0 2 rfl;have t3:=zq.at0 3 rfl;have t4:=zq.at0 4 rfl;have t5:=zq.at0 5 rfl;have t6:=zq.at0 6 rfl
 exact bodyPost_ret (v:=Xa.v ⟨3,0,hd,1,0,0,false⟩) (by simp[results,Tryz.results40,go_sem,t0,t1,t2,t3,t4,t5,t6]) rfl ⟨rfl,Z4 (Z4 (Z4 (Z4 (Z4 (Z4 (Z4 (grow (Z5 (Below.refl _ _) _) g1) (Nat.le_refl _) _ _) (Nat.le_refl _) _ _) (Nat.le_refl _) _ _) (Nat.le_refl _) _ _) (Nat.le_refl _) _ _) (Nat.le_refl _) _ _) (Nat.le_refl _) _ _⟩
theorem L9 {w:World} {b:Nat} {ob:Value} {S:Lr} (h:ZH w b ob S) (hn0:S.nx=1) :
 Calls Tryz.prog 40 #[pP b 0] w fun e w'=>e=.returned (Xa.v (S.want false))/\Below w.heap.size w w':=by
 obtain⟨kd,ky,hd,nx,an,al,ax,hn,hl,hx,md,cE,cH,cV,cS⟩:=S
 replace hn0:nx=1:=hn0
 subst hn0
 obtain⟨c,h⟩:=h
 replace h:At w b 0 67 c [iV kd,iV ky,.int .u64 hd,iV 1,ob,.int .u64 an,iV al,iV ax,.int .u64 hn,iV hl,iV hx,.int .u64 md,iV cE,.int .u64 cH,iV cV,iV cS]:=h
 have h1:=h.grown (ZY w (.cells #[iV 0,iV 0,.int .u64 0,iV 0,iV 0,iV 0,.bool false] 82))
 have k0:=h1.at0 0 rfl
 have k1:=h1.at0 1 rfl
 have k2:=h1.at0 2 rfl
 have k3:=h1.at0 3 rfl
 have k4:=h1.at0 4 rfl
 have k5:=h1.at0 5 rfl
 have k6:=h1.at0 6 rfl
 have k7:=h1.at0 7 rfl
 have k8:=h1.at0 8 rfl
 have k9:=h1.at0 9 rfl
 have k10:=h1.at0 10 rfl
 have k11:=h1.at0 11 rfl
 have k12:=h1.at0 12 rfl
 have k13:=h1.at0 13 rfl
 have k14:=h1.at0 14 rfl
 have k15:=h1.at0 15 rfl
 rw[show Lr.want ⟨kd,ky,hd,1,an,al,ax,hn,hl,hx,md,cE,cH,cV,cS⟩ false=⟨3,0,hn,1,0,0,false⟩ from rfl]
 go_enter Tryz.func40,Tryz.ntmps40
 go_wp2_with (go_at_call 59;refine(TP hn 1 _).mono ?_;rintro e w1 ⟨rfl,g1⟩;have zz:=(At.new w 82 [iV 0,iV 0,.int .u64 0,iV 0,iV 0,iV 0,.bool false]).grown g1;have u0:=zz.at0 0 rfl;have u1:=zz.at0 1 rfl;have u2:=zz.at0 2 rfl;have u3:=zz.at0 3 rfl;have u4:=zz.at0 4 rfl;have u5:=zz.at0 5 rfl;have u6:=zz.at0 6 rfl;have zf:=zz.fz)
 have zq:=(((((((zz).ZO 0 (iV 3)).ZO 1 (iV 0)).ZO 2 (.int .u64 hn)).ZO 3 (iV 1)).ZO 4 (iV 0)).ZO 5 (iV 0)).ZO 6 (.bool false)
 have t0:=zq.at0 0 rfl;have t1:=zq.at0 1 rfl;have t2:=zq.at0 2 rfl;have t3:=zq.at0 3 rfl;have t4:=zq.at0 4 rfl;have t5:=zq.at0 5 rfl;have t6:=zq.at0 6 rfl
 exact bodyPost_ret (v:=Xa.v ⟨3,0,hn,1,0,0,false⟩) (by simp[results,Tryz.results40,go_sem,t0,t1,t2,t3,t4,t5,t6]) rfl ⟨rfl,Z4 (Z4 (Z4 (Z4 (Z4 (Z4 (Z4 (grow (Z5 (Below.refl _ _) _) g1) (Nat.le_refl _) _ _) (Nat.le_refl _) _ _) (Nat.le_refl _) _ _) (Nat.le_refl _) _ _) (Nat.le_refl _) _ _) (Nat.le_refl _) _ _) (Nat.le_refl _) _ _⟩
theorem Ry {w:World} {b:Nat} {ob:Value} {S:Lr} (h:ZH w b ob S) (hn0:S.nx=2\/S.nx=11) (a0:0<=S.al) (a1:S.al<8589934592) (l0:0<=S.hl) (l1:S.hl<8589934592) :
 Calls Tryz.prog 40 #[pP b 0] w fun e w'=>e=.returned (Xa.v (S.want false))/\Below w.heap.size w w':=by
 obtain⟨kd,ky,hd,nx,an,al,ax,hn,hl,hx,md,cE,cH,cV,cS⟩:=S
 rcases hn0 with hn0 | hn0
 all_goals
  replace hn0:nx=_:=hn0
  subst hn0
  obtain⟨c,h⟩:=h
  replace h:At w b 0 67 c [iV kd,iV ky,.int .u64 hd,iV _,ob,.int .u64 an,iV al,iV ax,.int .u64 hn,iV hl,iV hx,.int .u64 md,iV cE,.int .u64 cH,iV cV,iV cS]:=h
  have h1:=h.grown (ZY w (.cells #[iV 0,iV 0,.int .u64 0,iV 0,iV 0,iV 0,.bool false] 82))
  have k0:=h1.at0 0 rfl
  have k1:=h1.at0 1 rfl
  have k2:=h1.at0 2 rfl
  have k3:=h1.at0 3 rfl
  have k4:=h1.at0 4 rfl
  have k5:=h1.at0 5 rfl
  have k6:=h1.at0 6 rfl
  have k7:=h1.at0 7 rfl
  have k8:=h1.at0 8 rfl
  have k9:=h1.at0 9 rfl
  have k10:=h1.at0 10 rfl
  have k11:=h1.at0 11 rfl
  have k12:=h1.at0 12 rfl
  have k13:=h1.at0 13 rfl
  have k14:=h1.at0 14 rfl
  have k15:=h1.at0 15 rfl
  rw[show Lr.want ⟨kd,ky,hd,_,an,al,ax,hn,hl,hx,md,cE,cH,cV,cS⟩ false=⟨5,0,an,1,Lr.lead al (hl % 4294967296),al,false⟩ from rfl]
  replace a0:0<=al:=a0
  replace a1:al<8589934592:=a1
  replace l0:0<=hl:=l0
  replace l1:hl<8589934592:=l1
  have xx:=Wv hn hl hx l0 l1
  have EI:=VO an al ax (hl % 4294967296) a0 a1 (by omega) (by omega)
  clear a0 a1 l0 l1
  generalize hl % 4294967296=x at xx EI ⊢
  generalize Lr.lead al x=y at EI ⊢
  go_enter Tryz.func40,Tryz.ntmps40
  go_wp2
  refine ZT (fun W=>At W b 0 67 c [iV kd,iV ky,.int .u64 hd,iV _,ob,.int .u64 an,iV al,iV ax,.int .u64 hn,iV hl,iV hx,.int .u64 md,iV cE,.int .u64 cH,iV cV,iV cS]/\Below w.heap.size w W/\At W w.heap.size 0 82 #[iV 0,iV 0,.int .u64 0,iV 0,iV 0,iV 0,.bool false] [iV 0,iV 0,.int .u64 0,iV 0,iV 0,iV 0,.bool false]) ⟨h1,ZY _ _,At.new w 82 [iV 0,iV 0,.int .u64 0,iV 0,iV 0,iV 0,.bool false]⟩ ?_
  rintro W ⟨hW,bW,zW⟩
  clear k0 k1 k2 k3 k4 k5 k6 k7 k8 k9 k10 k11 k12 k13 k14 k15
  apply Xk 14;. kernel_rfl
  iterate 3 (apply rV;. intros;apply ol;go_simp;exact gl)
  apply rV;. intro w' hg _;apply ol;have hw:=hW.drew.grown hg;have y5:=hw.at0 5 rfl;have y6:=hw.at0 6 rfl;have y7:=hw.at0 7 rfl;go_simp;exact gl
  iterate 2 (apply rV;. intros;apply ol;go_simp;exact gl)
  try simp only[pu,s0,s1]
  apply rV;. intros;apply ol;go_simp;exact gl
  apply rV;. intro w' hg _;apply ol;have hw:=hW.drew.grown hg;have y5:=hw.at0 5 rfl;have y6:=hw.at0 6 rfl;have y7:=hw.at0 7 rfl;go_simp;exact gl
  iterate 3 (apply rV;. intros;apply ol;go_simp;exact gl)
  apply rV;. intro w' hg _;apply ol;have hw:=hW.drew.grown hg;have y8:=hw.at0 8 rfl;have y9:=hw.at0 9 rfl;have xA:=hw.at0 10 rfl;go_simp;exact gl
  try simp only[pu,s0,s1]
  apply rV;. intro w' hg _;apply ol;go_simp;exact cb (xx _)
  apply XQ;. intro w' hg _;apply ol;go_simp;exact cb (EI _)
  try simp only[pu,s0,s1]
  intro w5 hg _
  have z5:=zW.drew.grown hg
  go_wp2_with (go_at_call 60;refine(TM an al ax y _).mono ?_;rintro e w1 ⟨rfl,g1⟩;have zz:=z5.grown g1;have u0:=zz.at0 0 rfl;have u1:=zz.at0 1 rfl;have u2:=zz.at0 2 rfl;have u3:=zz.at0 3 rfl;have u4:=zz.at0 4 rfl;have u5:=zz.at0 5 rfl;have u6:=zz.at0 6 rfl;have zf:=zz.fz)
  have zq:=(((((((zz).ZO 0 (iV 5)).ZO 1 (iV 0)).ZO 2 (.int .u64 an)).ZO 3 (iV 1)).ZO 4 (iV y)).ZO 5 (iV al)).ZO 6 (.bool false)
  have t0:=zq.at0 0 rfl;have t1:=zq.at0 1 rfl;have t2:=zq.at0 2 rfl;have t3:=zq.at0 3 rfl;have t4:=zq.at0 4 rfl;have t5:=zq.at0 5 rfl;have t6:=zq.at0 6 rfl
  exact bodyPost_ret (v:=Xa.v ⟨5,0,an,1,y,al,false⟩) (by simp[results,Tryz.results40,go_sem,t0,t1,t2,t3,t4,t5,t6]) rfl ⟨rfl,Z4 (Z4 (Z4 (Z4 (Z4 (Z4 (Z4 (grow (grow (grow bW ((Below.refl _ _).drew)) hg) g1) (Nat.le_refl _) _ _) (Nat.le_refl _) _ _) (Nat.le_refl _) _ _) (Nat.le_refl _) _ _) (Nat.le_refl _) _ _) (Nat.le_refl _) _ _) (Nat.le_refl _) _ _⟩
theorem L8 {w:World} {b:Nat} {ob:Value} {S:Lr} (h:ZH w b ob S) (hn0:S.nx=3) :
 Calls Tryz.prog 40 #[pP b 0] w fun e w'=>e=.returned (Xa.v (S.want false))/\Below w.heap.size w w':=by
 obtain⟨kd,ky,hd,nx,an,al,ax,hn,hl,hx,md,cE,cH,cV,cS⟩:=S
 replace hn0:nx=3:=hn0
 subst hn0
 obtain⟨c,h⟩:=h
 replace h:At w b 0 67 c [iV kd,iV ky,.int .u64 hd,iV 3,ob,.int .u64 an,iV al,iV ax,.int .u64 hn,iV hl,iV hx,.int .u64 md,iV cE,.int .u64 cH,iV cV,iV cS]:=h
 have h1:=h.grown (ZY w (.cells #[iV 0,iV 0,.int .u64 0,iV 0,iV 0,iV 0,.bool false] 82))
 have k0:=h1.at0 0 rfl
 have k1:=h1.at0 1 rfl
 have k2:=h1.at0 2 rfl
 have k3:=h1.at0 3 rfl
 have k4:=h1.at0 4 rfl
 have k5:=h1.at0 5 rfl
 have k6:=h1.at0 6 rfl
 have k7:=h1.at0 7 rfl
 have k8:=h1.at0 8 rfl
 have k9:=h1.at0 9 rfl
 have k10:=h1.at0 10 rfl
 have k11:=h1.at0 11 rfl
 have k12:=h1.at0 12 rfl
 have k13:=h1.at0 13 rfl
 have k14:=h1.at0 14 rfl
 have k15:=h1.at0 15 rfl
 rw[show Lr.want ⟨kd,ky,hd,3,an,al,ax,hn,hl,hx,md,cE,cH,cV,cS⟩ false=⟨2,0,hn,0,0,0,false⟩ from rfl]
 go_enter Tryz.func40,Tryz.ntmps40
 go_wp2_with (go_at_call 63;refine(TN hn _).mono ?_;rintro e w1 ⟨rfl,g1⟩;have zz:=(At.new w 82 [iV 0,iV 0,.int .u64 0,iV 0,iV 0,iV 0,.bool false]).grown g1;have u0:=zz.at0 0 rfl;have u1:=zz.at0 1 rfl;have u2:=zz.at0 2 rfl;have u3:=zz.at0 3 rfl;have u4:=zz.at0 4 rfl;have u5:=zz.at0 5 rfl;have u6:=zz.at0 6 rfl;have zf:=zz.fz)
 have zq:=(((((((zz).ZO 0 (iV 2)).ZO 1 (iV 0)).ZO 2 (.int .u64 hn)).ZO 3 (iV 0)).ZO 4 (iV 0)).ZO 5 (iV 0)).ZO 6 (.bool false)
 have t0:=zq.at0 0 rfl;have t1:=zq.at0 1 rfl;have t2:=zq.at0 2 rfl;have t3:=zq.at0 3 rfl;have t4:=zq.at0 4 rfl;have t5:=zq.at0 5 rfl;have t6:=zq.at0 6 rfl
 exact bodyPost_ret (v:=Xa.v ⟨2,0,hn,0,0,0,false⟩) (by simp[results,Tryz.results40,go_sem,t0,t1,t2,t3,t4,t5,t6]) rfl ⟨rfl,Z4 (Z4 (Z4 (Z4 (Z4 (Z4 (Z4 (grow (Z5 (Below.refl _ _) _) g1) (Nat.le_refl _) _ _) (Nat.le_refl _) _ _) (Nat.le_refl _) _ _) (Nat.le_refl _) _ _) (Nat.le_refl _) _ _) (Nat.le_refl _) _ _) (Nat.le_refl _) _ _⟩
theorem L6 {w:World} {b:Nat} {ob:Value} {S:Lr} (h:ZH w b ob S) (hn0:S.nx=4) :
 Calls Tryz.prog 40 #[pP b 0] w fun e w'=>e=.returned (Xa.v (S.want false))/\Below w.heap.size w w':=by
 obtain⟨kd,ky,hd,nx,an,al,ax,hn,hl,hx,md,cE,cH,cV,cS⟩:=S
 replace hn0:nx=4:=hn0
 subst hn0
 obtain⟨c,h⟩:=h
 replace h:At w b 0 67 c [iV kd,iV ky,.int .u64 hd,iV 4,ob,.int .u64 an,iV al,iV ax,.int .u64 hn,iV hl,iV hx,.int .u64 md,iV cE,.int .u64 cH,iV cV,iV cS]:=h
 have h1:=h.grown (ZY w (.cells #[iV 0,iV 0,.int .u64 0,iV 0,iV 0,iV 0,.bool false] 82))
 have k0:=h1.at0 0 rfl
 have k1:=h1.at0 1 rfl
 have k2:=h1.at0 2 rfl
 have k3:=h1.at0 3 rfl
 have k4:=h1.at0 4 rfl
 have k5:=h1.at0 5 rfl
 have k6:=h1.at0 6 rfl
 have k7:=h1.at0 7 rfl
 have k8:=h1.at0 8 rfl
 have k9:=h1.at0 9 rfl
 have k10:=h1.at0 10 rfl
 have k11:=h1.at0 11 rfl
 have k12:=h1.at0 12 rfl
 have k13:=h1.at0 13 rfl
 have k14:=h1.at0 14 rfl
 have k15:=h1.at0 15 rfl
 rw[show Lr.want ⟨kd,ky,hd,4,an,al,ax,hn,hl,hx,md,cE,cH,cV,cS⟩ false=⟨3,0,hn,0,0,0,false⟩ from rfl]
 go_enter Tryz.func40,Tryz.ntmps40
 go_wp2_with (go_at_call 59;refine(TP hn 0 _).mono ?_;rintro e w1 ⟨rfl,g1⟩;have zz:=(At.new w 82 [iV 0,iV 0,.int .u64 0,iV 0,iV 0,iV 0,.bool false]).grown g1;have u0:=zz.at0 0 rfl;have u1:=zz.at0 1 rfl;have u2:=zz.at0 2 rfl;have u3:=zz.at0 3 rfl;have u4:=zz.at0 4 rfl;have u5:=zz.at0 5 rfl;have u6:=zz.at0 6 rfl;have zf:=zz.fz)
 have zq:=(((((((zz).ZO 0 (iV 3)).ZO 1 (iV 0)).ZO 2 (.int .u64 hn)).ZO 3 (iV 0)).ZO 4 (iV 0)).ZO 5 (iV 0)).ZO 6 (.bool false)
 have t0:=zq.at0 0 rfl;have t1:=zq.at0 1 rfl;have t2:=zq.at0 2 rfl;have t3:=zq.at0 3 rfl;have t4:=zq.at0 4 rfl;have t5:=zq.at0 5 rfl;have t6:=zq.at0 6 rfl
 exact bodyPost_ret (v:=Xa.v ⟨3,0,hn,0,0,0,false⟩) (by simp[results,Tryz.results40,go_sem,t0,t1,t2,t3,t4,t5,t6]) rfl ⟨rfl,Z4 (Z4 (Z4 (Z4 (Z4 (Z4 (Z4 (grow (Z5 (Below.refl _ _) _) g1) (Nat.le_refl _) _ _) (Nat.le_refl _) _ _) (Nat.le_refl _) _ _) (Nat.le_refl _) _ _) (Nat.le_refl _) _ _) (Nat.le_refl _) _ _) (Nat.le_refl _) _ _⟩
theorem LZ {w:World} {b:Nat} {ob:Value} {S:Lr} (h:ZH w b ob S) (hn0:S.nx=5) :
 Calls Tryz.prog 40 #[pP b 0] w fun e w'=>e=.returned (Xa.v (S.want false))/\Below w.heap.size w w':=by
 obtain⟨kd,ky,hd,nx,an,al,ax,hn,hl,hx,md,cE,cH,cV,cS⟩:=S
 replace hn0:nx=5:=hn0
 subst hn0
 obtain⟨c,h⟩:=h
 replace h:At w b 0 67 c [iV kd,iV ky,.int .u64 hd,iV 5,ob,.int .u64 an,iV al,iV ax,.int .u64 hn,iV hl,iV hx,.int .u64 md,iV cE,.int .u64 cH,iV cV,iV cS]:=h
 have h1:=h.grown (ZY w (.cells #[iV 0,iV 0,.int .u64 0,iV 0,iV 0,iV 0,.bool false] 82))
 have k0:=h1.at0 0 rfl
 have k1:=h1.at0 1 rfl
 have k2:=h1.at0 2 rfl
 have k3:=h1.at0 3 rfl
 have k4:=h1.at0 4 rfl
 have k5:=h1.at0 5 rfl
 have k6:=h1.at0 6 rfl
 have k7:=h1.at0 7 rfl
 have k8:=h1.at0 8 rfl
 have k9:=h1.at0 9 rfl
 have k10:=h1.at0 10 rfl
 have k11:=h1.at0 11 rfl
 have k12:=h1.at0 12 rfl
 have k13:=h1.at0 13 rfl
 have k14:=h1.at0 14 rfl
 have k15:=h1.at0 15 rfl
 rw[show Lr.want ⟨kd,ky,hd,5,an,al,ax,hn,hl,hx,md,cE,cH,cV,cS⟩ false=⟨1,2,0,0,0,0,false⟩ from rfl]
 go_enter Tryz.func40,Tryz.ntmps40
 go_wp2
 exact bodyPost_ret (v:=Xa.v ⟨1,2,0,0,0,0,false⟩) (by simp[results,Tryz.results40,go_sem]) rfl ⟨rfl,Z5 (Below.refl _ _) _⟩
theorem LY {w:World} {b:Nat} {ob:Value} {S:Lr} (h:ZH w b ob S) (hn0:S.nx=6) :
 Calls Tryz.prog 40 #[pP b 0] w fun e w'=>e=.returned (Xa.v (S.want false))/\Below w.heap.size w w':=by
 obtain⟨kd,ky,hd,nx,an,al,ax,hn,hl,hx,md,cE,cH,cV,cS⟩:=S
 replace hn0:nx=6:=hn0
 subst hn0
 obtain⟨c,h⟩:=h
 replace h:At w b 0 67 c [iV kd,iV ky,.int .u64 hd,iV 6,ob,.int .u64 an,iV al,iV ax,.int .u64 hn,iV hl,iV hx,.int .u64 md,iV cE,.int .u64 cH,iV cV,iV cS]:=h
 have h1:=h.grown (ZY w (.cells #[iV 0,iV 0,.int .u64 0,iV 0,iV 0,iV 0,.bool false] 82))
 have k0:=h1.at0 0 rfl
 have k1:=h1.at0 1 rfl
 have k2:=h1.at0 2 rfl
 have k3:=h1.at0 3 rfl
 have k4:=h1.at0 4 rfl
 have k5:=h1.at0 5 rfl
 have k6:=h1.at0 6 rfl
 have k7:=h1.at0 7 rfl
 have k8:=h1.at0 8 rfl
 have k9:=h1.at0 9 rfl
 have k10:=h1.at0 10 rfl
 have k11:=h1.at0 11 rfl
 have k12:=h1.at0 12 rfl
 have k13:=h1.at0 13 rfl
 have k14:=h1.at0 14 rfl
 have k15:=h1.at0 15 rfl
 rw[show Lr.want ⟨kd,ky,hd,6,an,al,ax,hn,hl,hx,md,cE,cH,cV,cS⟩ false=⟨4,0,md,0,ky,0,false⟩ from rfl]
 go_enter Tryz.func40,Tryz.ntmps40
 go_wp2
 refine ZT (fun W=>At W b 0 67 c [iV kd,iV ky,.int .u64 hd,iV 6,ob,.int .u64 an,iV al,iV ax,.int .u64 hn,iV hl,iV hx,.int .u64 md,iV cE,.int .u64 cH,iV cV,iV cS]/\Below w.heap.size w W/\At W w.heap.size 0 82 #[iV 0,iV 0,.int .u64 0,iV 0,iV 0,iV 0,.bool false] [iV 0,iV 0,.int .u64 0,iV 0,iV 0,iV 0,.bool false]) ⟨h1,ZY _ _,At.new w 82 [iV 0,iV 0,.int .u64 0,iV 0,iV 0,iV 0,.bool false]⟩ ?_
 rintro W ⟨hW,bW,zW⟩
 clear k0 k1 k2 k3 k4 k5 k6 k7 k8 k9 k10 k11 k12 k13 k14 k15
 apply Xk 8;. kernel_rfl
 iterate 3 (apply rV;. intros;apply ol;go_simp;exact gl)
 apply rV;. intro w' hg _;apply ol;have hw:=hW.drew.grown hg;have sF:=hw.at0 11 rfl;go_simp;exact gl
 iterate 2 (apply rV;. intros;apply ol;go_simp;exact gl)
 try simp only[pu,s0,s1]
 apply rV;. intros;apply ol;go_simp;exact gl
 apply XQ;. intro w' hg _;apply ol;have hw:=hW.drew.grown hg;have y1:=hw.at0 1 rfl;go_simp;exact gl
 try simp only[pu,s0,s1]
 intro w5 hg _
 have z5:=zW.drew.grown hg
 go_wp2_with (go_at_call 64;refine(Rq md 0 ky _).mono ?_;rintro e w1 ⟨rfl,g1⟩;have zz:=z5.grown g1;have u0:=zz.at0 0 rfl;have u1:=zz.at0 1 rfl;have u2:=zz.at0 2 rfl;have u3:=zz.at0 3 rfl;have u4:=zz.at0 4 rfl;have u5:=zz.at0 5 rfl;have u6:=zz.at0 6 rfl;have zf:=zz.fz)
 have zq:=(((((((zz).ZO 0 (iV 4)).ZO 1 (iV 0)).ZO 2 (.int .u64 md)).ZO 3 (iV 0)).ZO 4 (iV ky)).ZO 5 (iV 0)).ZO 6 (.bool false)
 have t0:=zq.at0 0 rfl;have t1:=zq.at0 1 rfl;have t2:=zq.at0 2 rfl;have t3:=zq.at0 3 rfl;have t4:=zq.at0 4 rfl;have t5:=zq.at0 5 rfl;have t6:=zq.at0 6 rfl
 exact bodyPost_ret (v:=Xa.v ⟨4,0,md,0,ky,0,false⟩) (by simp[results,Tryz.results40,go_sem,t0,t1,t2,t3,t4,t5,t6]) rfl ⟨rfl,Z4 (Z4 (Z4 (Z4 (Z4 (Z4 (Z4 (grow (grow (grow bW ((Below.refl _ _).drew)) hg) g1) (Nat.le_refl _) _ _) (Nat.le_refl _) _ _) (Nat.le_refl _) _ _) (Nat.le_refl _) _ _) (Nat.le_refl _) _ _) (Nat.le_refl _) _ _) (Nat.le_refl _) _ _⟩
theorem LX {w:World} {b:Nat} {ob:Value} {S:Lr} (h:ZH w b ob S) (hn0:S.nx=7) (m0:0<=S.hn) (m1:S.hn<4294967296) :
 Calls Tryz.prog 40 #[pP b 0] w fun e w'=>e=.returned (Xa.v (S.want false))/\Below w.heap.size w w':=by
 obtain⟨kd,ky,hd,nx,an,al,ax,hn,hl,hx,md,cE,cH,cV,cS⟩:=S
 replace hn0:nx=7:=hn0
 subst hn0
 obtain⟨c,h⟩:=h
 replace h:At w b 0 67 c [iV kd,iV ky,.int .u64 hd,iV 7,ob,.int .u64 an,iV al,iV ax,.int .u64 hn,iV hl,iV hx,.int .u64 md,iV cE,.int .u64 cH,iV cV,iV cS]:=h
 have h1:=h.grown (ZY w (.cells #[iV 0,iV 0,.int .u64 0,iV 0,iV 0,iV 0,.bool false] 82))
 have k0:=h1.at0 0 rfl
 have k1:=h1.at0 1 rfl
 have k2:=h1.at0 2 rfl
 have k3:=h1.at0 3 rfl
 have k4:=h1.at0 4 rfl
 have k5:=h1.at0 5 rfl
 have k6:=h1.at0 6 rfl
 have k7:=h1.at0 7 rfl
 have k8:=h1.at0 8 rfl
 have k9:=h1.at0 9 rfl
 have k10:=h1.at0 10 rfl
 have k11:=h1.at0 11 rfl
 have k12:=h1.at0 12 rfl
 have k13:=h1.at0 13 rfl
 have k14:=h1.at0 14 rfl
 have k15:=h1.at0 15 rfl
 rw[show Lr.want ⟨kd,ky,hd,7,an,al,ax,hn,hl,hx,md,cE,cH,cV,cS⟩ false=⟨4,0,md,1,hn,0,false⟩ from rfl]
 replace m0:0<=hn:=m0
 replace m1:hn<4294967296:=m1
 have hp:=VT hn m0 m1 false
 rw[if_neg (by decide),Int.add_zero] at hp
 clear m0 m1
 go_enter Tryz.func40,Tryz.ntmps40
 go_wp2
 refine ZT (fun W=>At W b 0 67 c [iV kd,iV ky,.int .u64 hd,iV 7,ob,.int .u64 an,iV al,iV ax,.int .u64 hn,iV hl,iV hx,.int .u64 md,iV cE,.int .u64 cH,iV cV,iV cS]/\Below w.heap.size w W/\At W w.heap.size 0 82 #[iV 0,iV 0,.int .u64 0,iV 0,iV 0,iV 0,.bool false] [iV 0,iV 0,.int .u64 0,iV 0,iV 0,iV 0,.bool false]) ⟨h1,ZY _ _,At.new w 82 [iV 0,iV 0,.int .u64 0,iV 0,iV 0,iV 0,.bool false]⟩ ?_
 rintro W ⟨hW,bW,zW⟩
 clear k0 k1 k2 k3 k4 k5 k6 k7 k8 k9 k10 k11 k12 k13 k14 k15
 apply Xk 11;. kernel_rfl
 iterate 3 (apply rV;. intros;apply ol;go_simp;exact gl)
 apply rV;. intro w' hg _;apply ol;have hw:=hW.drew.grown hg;have sF:=hw.at0 11 rfl;go_simp;exact gl
 iterate 2 (apply rV;. intros;apply ol;go_simp;exact gl)
 try simp only[pu,s0,s1]
 iterate 2 (apply rV;. intros;apply ol;go_simp;exact gl)
 apply rV;. intro w' hg _;apply ol;have hw:=hW.drew.grown hg;have y8:=hw.at0 8 rfl;go_simp;exact gl
 apply rV;. intros;apply ol;go_simp;exact gl
 apply XQ;. intro w' hg _;apply ol;go_simp;exact cb (hp _)
 try simp only[pu,s0,s1]
 intro w5 hg _
 have z5:=zW.drew.grown hg
 go_wp2_with (go_at_call 64;refine(Rq md 1 hn _).mono ?_;rintro e w1 ⟨rfl,g1⟩;have zz:=z5.grown g1;have u0:=zz.at0 0 rfl;have u1:=zz.at0 1 rfl;have u2:=zz.at0 2 rfl;have u3:=zz.at0 3 rfl;have u4:=zz.at0 4 rfl;have u5:=zz.at0 5 rfl;have u6:=zz.at0 6 rfl;have zf:=zz.fz)
 have zq:=(((((((zz).ZO 0 (iV 4)).ZO 1 (iV 0)).ZO 2 (.int .u64 md)).ZO 3 (iV 1)).ZO 4 (iV hn)).ZO 5 (iV 0)).ZO 6 (.bool false)
 have t0:=zq.at0 0 rfl;have t1:=zq.at0 1 rfl;have t2:=zq.at0 2 rfl;have t3:=zq.at0 3 rfl;have t4:=zq.at0 4 rfl;have t5:=zq.at0 5 rfl;have t6:=zq.at0 6 rfl
 exact bodyPost_ret (v:=Xa.v ⟨4,0,md,1,hn,0,false⟩) (by simp[results,Tryz.results40,go_sem,t0,t1,t2,t3,t4,t5,t6]) rfl ⟨rfl,Z4 (Z4 (Z4 (Z4 (Z4 (Z4 (Z4 (grow (grow (grow bW ((Below.refl _ _).drew)) hg) g1) (Nat.le_refl _) _ _) (Nat.le_refl _) _ _) (Nat.le_refl _) _ _) (Nat.le_refl _) _ _) (Nat.le_refl _) _ _) (Nat.le_refl _) _ _) (Nat.le_refl _) _ _⟩
theorem LW {w:World} {b:Nat} {ob:Value} {S:Lr} (h:ZH w b ob S) (hn0:S.nx=8) (a0:0<=S.al) (a1:S.al<8589934592) (m0:0<=S.md) (m1:S.md<4294967296) :
 Calls Tryz.prog 40 #[pP b 0] w fun e w'=>e=.returned (Xa.v (S.want false))/\Below w.heap.size w w':=by
 obtain⟨kd,ky,hd,nx,an,al,ax,hn,hl,hx,md,cE,cH,cV,cS⟩:=S
 replace hn0:nx=8:=hn0
 subst hn0
 obtain⟨c,h⟩:=h
 replace h:At w b 0 67 c [iV kd,iV ky,.int .u64 hd,iV 8,ob,.int .u64 an,iV al,iV ax,.int .u64 hn,iV hl,iV hx,.int .u64 md,iV cE,.int .u64 cH,iV cV,iV cS]:=h
 have h1:=h.grown (ZY w (.cells #[iV 0,iV 0,.int .u64 0,iV 0,iV 0,iV 0,.bool false] 82))
 have k0:=h1.at0 0 rfl
 have k1:=h1.at0 1 rfl
 have k2:=h1.at0 2 rfl
 have k3:=h1.at0 3 rfl
 have k4:=h1.at0 4 rfl
 have k5:=h1.at0 5 rfl
 have k6:=h1.at0 6 rfl
 have k7:=h1.at0 7 rfl
 have k8:=h1.at0 8 rfl
 have k9:=h1.at0 9 rfl
 have k10:=h1.at0 10 rfl
 have k11:=h1.at0 11 rfl
 have k12:=h1.at0 12 rfl
 have k13:=h1.at0 13 rfl
 have k14:=h1.at0 14 rfl
 have k15:=h1.at0 15 rfl
 rw[show Lr.want ⟨kd,ky,hd,8,an,al,ax,hn,hl,hx,md,cE,cH,cV,cS⟩ false=⟨5,0,an,1,Lr.lead al md,al,false⟩ from rfl]
 replace a0:0<=al:=a0
 replace a1:al<8589934592:=a1
 replace m0:0<=md:=m0
 replace m1:md<4294967296:=m1
 have EI:=VO an al ax md a0 a1 m0 m1
 clear a0 a1 m0 m1
 generalize Lr.lead al md=y at EI ⊢
 go_enter Tryz.func40,Tryz.ntmps40
 go_wp2
 refine ZT (fun W=>At W b 0 67 c [iV kd,iV ky,.int .u64 hd,iV 8,ob,.int .u64 an,iV al,iV ax,.int .u64 hn,iV hl,iV hx,.int .u64 md,iV cE,.int .u64 cH,iV cV,iV cS]/\Below w.heap.size w W/\At W w.heap.size 0 82 #[iV 0,iV 0,.int .u64 0,iV 0,iV 0,iV 0,.bool false] [iV 0,iV 0,.int .u64 0,iV 0,iV 0,iV 0,.bool false]) ⟨h1,ZY _ _,At.new w 82 [iV 0,iV 0,.int .u64 0,iV 0,iV 0,iV 0,.bool false]⟩ ?_
 rintro W ⟨hW,bW,zW⟩
 clear k0 k1 k2 k3 k4 k5 k6 k7 k8 k9 k10 k11 k12 k13 k14 k15
 apply Xk 13;. kernel_rfl
 iterate 3 (apply rV;. intros;apply ol;go_simp;exact gl)
 apply rV;. intro w' hg _;apply ol;have hw:=hW.drew.grown hg;have y5:=hw.at0 5 rfl;have y6:=hw.at0 6 rfl;have y7:=hw.at0 7 rfl;go_simp;exact gl
 iterate 2 (apply rV;. intros;apply ol;go_simp;exact gl)
 try simp only[pu,s0,s1]
 apply rV;. intros;apply ol;go_simp;exact gl
 apply rV;. intro w' hg _;apply ol;have hw:=hW.drew.grown hg;have y5:=hw.at0 5 rfl;have y6:=hw.at0 6 rfl;have y7:=hw.at0 7 rfl;go_simp;exact gl
 iterate 3 (apply rV;. intros;apply ol;go_simp;exact gl)
 apply rV;. intro w' hg _;apply ol;have hw:=hW.drew.grown hg;have sF:=hw.at0 11 rfl;go_simp;exact gl
 try simp only[pu,s0,s1]
 apply XQ;. intro w' hg _;apply ol;go_simp;exact cb (EI _)
 try simp only[pu,s0,s1]
 intro w5 hg _
 have z5:=zW.drew.grown hg
 go_wp2_with (go_at_call 60;refine(TM an al ax y _).mono ?_;rintro e w1 ⟨rfl,g1⟩;have zz:=z5.grown g1;have u0:=zz.at0 0 rfl;have u1:=zz.at0 1 rfl;have u2:=zz.at0 2 rfl;have u3:=zz.at0 3 rfl;have u4:=zz.at0 4 rfl;have u5:=zz.at0 5 rfl;have u6:=zz.at0 6 rfl;have zf:=zz.fz)
 have zq:=(((((((zz).ZO 0 (iV 5)).ZO 1 (iV 0)).ZO 2 (.int .u64 an)).ZO 3 (iV 1)).ZO 4 (iV y)).ZO 5 (iV al)).ZO 6 (.bool false)
 have t0:=zq.at0 0 rfl;have t1:=zq.at0 1 rfl;have t2:=zq.at0 2 rfl;have t3:=zq.at0 3 rfl;have t4:=zq.at0 4 rfl;have t5:=zq.at0 5 rfl;have t6:=zq.at0 6 rfl
 exact bodyPost_ret (v:=Xa.v ⟨5,0,an,1,y,al,false⟩) (by simp[results,Tryz.results40,go_sem,t0,t1,t2,t3,t4,t5,t6]) rfl ⟨rfl,Z4 (Z4 (Z4 (Z4 (Z4 (Z4 (Z4 (grow (grow (grow bW ((Below.refl _ _).drew)) hg) g1) (Nat.le_refl _) _ _) (Nat.le_refl _) _ _) (Nat.le_refl _) _ _) (Nat.le_refl _) _ _) (Nat.le_refl _) _ _) (Nat.le_refl _) _ _) (Nat.le_refl _) _ _⟩
theorem LV {w:World} {b:Nat} {ob:Value} {S:Lr} (h:ZH w b ob S) (hn0:S.nx=9) :
 Calls Tryz.prog 40 #[pP b 0] w fun e w'=>e=.returned (Xa.v (S.want false))/\Below w.heap.size w w':=by
 obtain⟨kd,ky,hd,nx,an,al,ax,hn,hl,hx,md,cE,cH,cV,cS⟩:=S
 replace hn0:nx=9:=hn0
 subst hn0
 obtain⟨c,h⟩:=h
 replace h:At w b 0 67 c [iV kd,iV ky,.int .u64 hd,iV 9,ob,.int .u64 an,iV al,iV ax,.int .u64 hn,iV hl,iV hx,.int .u64 md,iV cE,.int .u64 cH,iV cV,iV cS]:=h
 have h1:=h.grown (ZY w (.cells #[iV 0,iV 0,.int .u64 0,iV 0,iV 0,iV 0,.bool false] 82))
 have k0:=h1.at0 0 rfl
 have k1:=h1.at0 1 rfl
 have k2:=h1.at0 2 rfl
 have k3:=h1.at0 3 rfl
 have k4:=h1.at0 4 rfl
 have k5:=h1.at0 5 rfl
 have k6:=h1.at0 6 rfl
 have k7:=h1.at0 7 rfl
 have k8:=h1.at0 8 rfl
 have k9:=h1.at0 9 rfl
 have k10:=h1.at0 10 rfl
 have k11:=h1.at0 11 rfl
 have k12:=h1.at0 12 rfl
 have k13:=h1.at0 13 rfl
 have k14:=h1.at0 14 rfl
 have k15:=h1.at0 15 rfl
 rw[show Lr.want ⟨kd,ky,hd,9,an,al,ax,hn,hl,hx,md,cE,cH,cV,cS⟩ false=⟨2,0,md,0,0,0,false⟩ from rfl]
 go_enter Tryz.func40,Tryz.ntmps40
 go_wp2_with (go_at_call 63;refine(TN md _).mono ?_;rintro e w1 ⟨rfl,g1⟩;have zz:=(At.new w 82 [iV 0,iV 0,.int .u64 0,iV 0,iV 0,iV 0,.bool false]).grown g1;have u0:=zz.at0 0 rfl;have u1:=zz.at0 1 rfl;have u2:=zz.at0 2 rfl;have u3:=zz.at0 3 rfl;have u4:=zz.at0 4 rfl;have u5:=zz.at0 5 rfl;have u6:=zz.at0 6 rfl;have zf:=zz.fz)
 have zq:=(((((((zz).ZO 0 (iV 2)).ZO 1 (iV 0)).ZO 2 (.int .u64 md)).ZO 3 (iV 0)).ZO 4 (iV 0)).ZO 5 (iV 0)).ZO 6 (.bool false)
 have t0:=zq.at0 0 rfl;have t1:=zq.at0 1 rfl;have t2:=zq.at0 2 rfl;have t3:=zq.at0 3 rfl;have t4:=zq.at0 4 rfl;have t5:=zq.at0 5 rfl;have t6:=zq.at0 6 rfl
 exact bodyPost_ret (v:=Xa.v ⟨2,0,md,0,0,0,false⟩) (by simp[results,Tryz.results40,go_sem,t0,t1,t2,t3,t4,t5,t6]) rfl ⟨rfl,Z4 (Z4 (Z4 (Z4 (Z4 (Z4 (Z4 (grow (Z5 (Below.refl _ _) _) g1) (Nat.le_refl _) _ _) (Nat.le_refl _) _ _) (Nat.le_refl _) _ _) (Nat.le_refl _) _ _) (Nat.le_refl _) _ _) (Nat.le_refl _) _ _) (Nat.le_refl _) _ _⟩
theorem N9 {w:World} {b:Nat} {ob:Value} {S:Lr} (h:ZH w b ob S) (hn0:S.nx=10) (l0:0<=S.hl) (l1:S.hl<8589934592) :
 Calls Tryz.prog 40 #[pP b 0] w fun e w'=>e=.returned (Xa.v (S.want false))/\Below w.heap.size w w':=by
 obtain⟨kd,ky,hd,nx,an,al,ax,hn,hl,hx,md,cE,cH,cV,cS⟩:=S
 replace hn0:nx=10:=hn0
 subst hn0
 obtain⟨c,h⟩:=h
 replace h:At w b 0 67 c [iV kd,iV ky,.int .u64 hd,iV 10,ob,.int .u64 an,iV al,iV ax,.int .u64 hn,iV hl,iV hx,.int .u64 md,iV cE,.int .u64 cH,iV cV,iV cS]:=h
 have h1:=h.grown (ZY w (.cells #[iV 0,iV 0,.int .u64 0,iV 0,iV 0,iV 0,.bool false] 82))
 have k0:=h1.at0 0 rfl
 have k1:=h1.at0 1 rfl
 have k2:=h1.at0 2 rfl
 have k3:=h1.at0 3 rfl
 have k4:=h1.at0 4 rfl
 have k5:=h1.at0 5 rfl
 have k6:=h1.at0 6 rfl
 have k7:=h1.at0 7 rfl
 have k8:=h1.at0 8 rfl
 have k9:=h1.at0 9 rfl
 have k10:=h1.at0 10 rfl
 have k11:=h1.at0 11 rfl
 have k12:=h1.at0 12 rfl
 have k13:=h1.at0 13 rfl
 have k14:=h1.at0 14 rfl
 have k15:=h1.at0 15 rfl
 rw[show Lr.want ⟨kd,ky,hd,10,an,al,ax,hn,hl,hx,md,cE,cH,cV,cS⟩ false=⟨5,0,hn,1,hl % 4294967296+4294967296,hl,false⟩ from rfl]
 replace l0:0<=hl:=l0
 replace l1:hl<8589934592:=l1
 have sD:=LH hn hl hx l0 l1
 clear l0 l1
 generalize hl % 4294967296+4294967296=y at sD ⊢
 go_enter Tryz.func40,Tryz.ntmps40
 go_wp2
 refine ZT (fun W=>At W b 0 67 c [iV kd,iV ky,.int .u64 hd,iV 10,ob,.int .u64 an,iV al,iV ax,.int .u64 hn,iV hl,iV hx,.int .u64 md,iV cE,.int .u64 cH,iV cV,iV cS]/\Below w.heap.size w W/\At W w.heap.size 0 82 #[iV 0,iV 0,.int .u64 0,iV 0,iV 0,iV 0,.bool false] [iV 0,iV 0,.int .u64 0,iV 0,iV 0,iV 0,.bool false]) ⟨h1,ZY _ _,At.new w 82 [iV 0,iV 0,.int .u64 0,iV 0,iV 0,iV 0,.bool false]⟩ ?_
 rintro W ⟨hW,bW,zW⟩
 clear k0 k1 k2 k3 k4 k5 k6 k7 k8 k9 k10 k11 k12 k13 k14 k15
 apply Xk 9;. kernel_rfl
 iterate 3 (apply rV;. intros;apply ol;go_simp;exact gl)
 apply rV;. intro w' hg _;apply ol;have hw:=hW.drew.grown hg;have y8:=hw.at0 8 rfl;have y9:=hw.at0 9 rfl;have xA:=hw.at0 10 rfl;go_simp;exact gl
 iterate 2 (apply rV;. intros;apply ol;go_simp;exact gl)
 try simp only[pu,s0,s1]
 apply rV;. intros;apply ol;go_simp;exact gl
 apply rV;. intro w' hg _;apply ol;have hw:=hW.drew.grown hg;have y8:=hw.at0 8 rfl;have y9:=hw.at0 9 rfl;have xA:=hw.at0 10 rfl;go_simp;exact gl
 apply XQ;. intro w' hg _;apply ol;go_simp;exact cb (sD _)
 try simp only[pu,s0,s1]
 intro w5 hg _
 have z5:=zW.drew.grown hg
 go_wp2_with (go_at_call 60;refine(TM hn hl hx y _).mono ?_;rintro e w1 ⟨rfl,g1⟩;have zz:=z5.grown g1;have u0:=zz.at0 0 rfl;have u1:=zz.at0 1 rfl;have u2:=zz.at0 2 rfl;have u3:=zz.at0 3 rfl;have u4:=zz.at0 4 rfl;have u5:=zz.at0 5 rfl;have u6:=zz.at0 6 rfl;have zf:=zz.fz)
 have zq:=(((((((zz).ZO 0 (iV 5)).ZO 1 (iV 0)).ZO 2 (.int .u64 hn)).ZO 3 (iV 1)).ZO 4 (iV y)).ZO 5 (iV hl)).ZO 6 (.bool false)
 have t0:=zq.at0 0 rfl;have t1:=zq.at0 1 rfl;have t2:=zq.at0 2 rfl;have t3:=zq.at0 3 rfl;have t4:=zq.at0 4 rfl;have t5:=zq.at0 5 rfl;have t6:=zq.at0 6 rfl
 exact bodyPost_ret (v:=Xa.v ⟨5,0,hn,1,y,hl,false⟩) (by simp[results,Tryz.results40,go_sem,t0,t1,t2,t3,t4,t5,t6]) rfl ⟨rfl,Z4 (Z4 (Z4 (Z4 (Z4 (Z4 (Z4 (grow (grow (grow bW ((Below.refl _ _).drew)) hg) g1) (Nat.le_refl _) _ _) (Nat.le_refl _) _ _) (Nat.le_refl _) _ _) (Nat.le_refl _) _ _) (Nat.le_refl _) _ _) (Nat.le_refl _) _ _) (Nat.le_refl _) _ _⟩
theorem N8 {w:World} {b:Nat} {ob:Value} {S:Lr} (h:ZH w b ob S) (hn0:S.nx=12) :
 Calls Tryz.prog 40 #[pP b 0] w fun e w'=>e=.returned (Xa.v (S.want false))/\Below w.heap.size w w':=by
 obtain⟨kd,ky,hd,nx,an,al,ax,hn,hl,hx,md,cE,cH,cV,cS⟩:=S
 replace hn0:nx=12:=hn0
 subst hn0
 obtain⟨c,h⟩:=h
 replace h:At w b 0 67 c [iV kd,iV ky,.int .u64 hd,iV 12,ob,.int .u64 an,iV al,iV ax,.int .u64 hn,iV hl,iV hx,.int .u64 md,iV cE,.int .u64 cH,iV cV,iV cS]:=h
 have h1:=h.grown (ZY w (.cells #[iV 0,iV 0,.int .u64 0,iV 0,iV 0,iV 0,.bool false] 82))
 have k0:=h1.at0 0 rfl
 have k1:=h1.at0 1 rfl
 have k2:=h1.at0 2 rfl
 have k3:=h1.at0 3 rfl
 have k4:=h1.at0 4 rfl
 have k5:=h1.at0 5 rfl
 have k6:=h1.at0 6 rfl
 have k7:=h1.at0 7 rfl
 have k8:=h1.at0 8 rfl
 have k9:=h1.at0 9 rfl
 have k10:=h1.at0 10 rfl
 have k11:=h1.at0 11 rfl
 have k12:=h1.at0 12 rfl
 have k13:=h1.at0 13 rfl
 have k14:=h1.at0 14 rfl
 have k15:=h1.at0 15 rfl
 rw[show Lr.want ⟨kd,ky,hd,12,an,al,ax,hn,hl,hx,md,cE,cH,cV,cS⟩ false=⟨2,0,hn,0,0,0,false⟩ from rfl]
 go_enter Tryz.func40,Tryz.ntmps40
 go_wp2_with (go_at_call 63;refine(TN hn _).mono ?_;rintro e w1 ⟨rfl,g1⟩;have zz:=(At.new w 82 [iV 0,iV 0,.int .u64 0,iV 0,iV 0,iV 0,.bool false]).grown g1;have u0:=zz.at0 0 rfl;have u1:=zz.at0 1 rfl;have u2:=zz.at0 2 rfl;have u3:=zz.at0 3 rfl;have u4:=zz.at0 4 rfl;have u5:=zz.at0 5 rfl;have u6:=zz.at0 6 rfl;have zf:=zz.fz)
 have zq:=(((((((zz).ZO 0 (iV 2)).ZO 1 (iV 0)).ZO 2 (.int .u64 hn)).ZO 3 (iV 0)).ZO 4 (iV 0)).ZO 5 (iV 0)).ZO 6 (.bool false)
 have t0:=zq.at0 0 rfl;have t1:=zq.at0 1 rfl;have t2:=zq.at0 2 rfl;have t3:=zq.at0 3 rfl;have t4:=zq.at0 4 rfl;have t5:=zq.at0 5 rfl;have t6:=zq.at0 6 rfl
 exact bodyPost_ret (v:=Xa.v ⟨2,0,hn,0,0,0,false⟩) (by simp[results,Tryz.results40,go_sem,t0,t1,t2,t3,t4,t5,t6]) rfl ⟨rfl,Z4 (Z4 (Z4 (Z4 (Z4 (Z4 (Z4 (grow (Z5 (Below.refl _ _) _) g1) (Nat.le_refl _) _ _) (Nat.le_refl _) _ _) (Nat.le_refl _) _ _) (Nat.le_refl _) _ _) (Nat.le_refl _) _ _) (Nat.le_refl _) _ _) (Nat.le_refl _) _ _⟩
end
section
theorem IU {w:World} {b:Nat} {ob:Value} {S:Lr} (h:ZH w b ob S) (o:S.ok) (hn:S.nx≠13) (m0:S.nx=7->0<=S.hn/\S.hn<4294967296) (m1:S.nx=8->0<=S.md/\S.md<4294967296) :
 Calls Tryz.prog 40 #[pP b 0] w fun e w'=>e=.returned (Xa.v (S.want false))/\Below w.heap.size w w':=by
 have n0:=o.n0
 have n1:=o.n1
 have hc:S.nx=0\/S.nx=1\/S.nx=2\/S.nx=3\/S.nx=4\/S.nx=5\/S.nx=6\/S.nx=7\/S.nx=8\/S.nx=9\/S.nx=10\/S.nx=11\/S.nx=12:=by omega
 rcases hc with e | e | e | e | e | e | e | e | e | e | e | e | e
 . exact Mc h e
 . exact L9 h e
 . exact Ry h (Or.inl e) o.a0 o.a1 o.l0 o.l1
 . exact L8 h e
 . exact L6 h e
 . exact LZ h e
 . exact LY h e
 . exact LX h e (m0 e).1 (m0 e).2
 . exact LW h e o.a0 o.a1 (m1 e).1 (m1 e).2
 . exact LV h e
 . exact N9 h e o.l0 o.l1
 . exact Ry h (Or.inr e) o.a0 o.a1 o.l0 o.l1
 . exact N8 h e
theorem F9 (S:Lr):∃ a1 a2 a3 a4 a5 a6,S.want false=⟨a1,a2,a3,a4,a5,a6,false⟩/\S.want true=⟨a1,a2,a3,a4,a5,a6,true⟩:=by
 unfold Lr.want
 by_cases e0:S.nx=0
 . rw[if_pos e0,if_pos e0];exact⟨_,_,_,_,_,_,rfl,rfl⟩
 rw[if_neg e0,if_neg e0]
 by_cases e1:S.nx=1
 . rw[if_pos e1,if_pos e1];exact⟨_,_,_,_,_,_,rfl,rfl⟩
 rw[if_neg e1,if_neg e1]
 by_cases e2:S.nx=4
 . rw[if_pos e2,if_pos e2];exact⟨_,_,_,_,_,_,rfl,rfl⟩
 rw[if_neg e2,if_neg e2]
 by_cases e3:S.nx=2\/S.nx=11
 . rw[if_pos e3,if_pos e3];exact⟨_,_,_,_,_,_,rfl,rfl⟩
 rw[if_neg e3,if_neg e3]
 by_cases e4:S.nx=3\/S.nx=12
 . rw[if_pos e4,if_pos e4];exact⟨_,_,_,_,_,_,rfl,rfl⟩
 rw[if_neg e4,if_neg e4]
 by_cases e5:S.nx=5
 . rw[if_pos e5,if_pos e5];exact⟨_,_,_,_,_,_,rfl,rfl⟩
 rw[if_neg e5,if_neg e5]
 by_cases e6:S.nx=6
 . rw[if_pos e6,if_pos e6];exact⟨_,_,_,_,_,_,rfl,rfl⟩
 rw[if_neg e6,if_neg e6]
 by_cases e7:S.nx=7
 . rw[if_pos e7,if_pos e7];exact⟨_,_,_,_,_,_,rfl,rfl⟩
 rw[if_neg e7,if_neg e7]
 by_cases e8:S.nx=8
 . rw[if_pos e8,if_pos e8];exact⟨_,_,_,_,_,_,rfl,rfl⟩
 rw[if_neg e8,if_neg e8]
 by_cases e9:S.nx=10
 . rw[if_pos e9,if_pos e9];exact⟨_,_,_,_,_,_,rfl,rfl⟩
 rw[if_neg e9,if_neg e9];exact⟨_,_,_,_,_,_,rfl,rfl⟩
theorem LU {w:World} {b:Nat} {ob:Value} {S:Lr} (h:ZH w b ob S) (o:S.ok) (hn:S.nx≠13) (m0:S.nx=7->0<=S.hn/\S.hn<4294967296) (m1:S.nx=8->0<=S.md/\S.md<4294967296) (Z:Nat->World->World->Prop)
 (hN:∀ w1,Below w.heap.size w w1->Calls Tryz.prog 38 #[Xa.v (S.want true)] w1 fun e w'=>∃ A,e=.returned (.tuple #[pP A 0,iV 0])/\Z A w1 w') :
 Calls Tryz.prog 25 #[pP b 0] w fun e w'=>∃ A w1,e=.returned (pP A 0)/\Below w.heap.size w w1/\Z A w1 w':=by
 have q:=IU h o hn m0 m1
 obtain⟨a1,a2,a3,a4,a5,a6,e1,e2⟩:=F9 S
 rw[e1] at q
 rw[e2] at hN
 clear e1 e2 h o hn m0 m1
 go_enter Tryz.func25,Tryz.ntmps25
 go_wp2_with (first
  | (go_at_call 40;refine q.mono ?_;rintro e w1 ⟨rfl,g1⟩)
  | (go_at_call 38;refine(hN _ (Z5 g1 _)).mono ?_;rintro e w2 ⟨A,rfl,z⟩))
 go_ret
 exact⟨A,_,rfl,Z5 g1 _,z⟩
theorem Rx {w:World} {b:Nat} {ob:Value} {S:Lr} (h:ZH w b ob S) (hk:S.kd≠0):Calls Tryz.prog 24 #[pP b 0] w fun e w'=>e=.returned (.bool true)/\w'=w:=by
 obtain⟨kd,ky,hd,nx,an,al,ax,hn,hl,hx,md,cE,cH,cV,cS⟩:=S
 obtain⟨c,h⟩:=h
 replace hk:(kd != 0)=true:=by simpa using hk
 have k0:=h.at0 0 rfl
 go_enter Tryz.func24,Tryz.ntmps24
 go_wp2
 go_ret
 exact⟨rfl,rfl⟩
theorem IQ {w:World} {b:Nat} {ob:Value} {S:Lr} (h:ZH w b ob S) (hk:S.kd≠0) (hn:S.nx=13):Calls Tryz.prog 18 #[pP b 0] w fun e w'=>e=.returned (.agg #[iV S.cE,.int .u64 S.cH,iV S.cV,iV S.cS])/\Below w.heap.size w w':=by
 have q:=Rx (h.grown (ZY w (.cells #[iV 0,.int .u64 0,iV 0,iV 0] 51))) hk
 obtain⟨kd,ky,hd,nx,an,al,ax,hn,hl,hx,md,cE,cH,cV,cS⟩:=S
 replace hn:nx=13:=hn
 subst hn
 obtain⟨c,h⟩:=h
 have h1:=h.grown (ZY w (.cells #[iV 0,.int .u64 0,iV 0,iV 0] 51))
 have k3:=h1.at0 3 rfl
 have k12:=h1.at0 12 rfl
 have k13:=h1.at0 13 rfl
 have k14:=h1.at0 14 rfl
 have k15:=h1.at0 15 rfl
 go_enter Tryz.func18,Tryz.ntmps18
 go_wp2_with (go_at_call 24;refine q.mono ?_;rintro e w1 ⟨rfl,rfl⟩)
 exact bodyPost_ret (v:=.agg #[iV cE,.int .u64 cH,iV cV,iV cS]) (by simp[results,Tryz.results18,go_sem]) rfl ⟨rfl,Z5 (Below.refl _ _) _⟩
def UW (kd ky:Int):Bool:=decide (1<=kd) && decide (kd<=3) && decide (0<=ky) && decide (ky<1073741824)
theorem N7 (kd ky:Int) (w:World):Calls Tryz.prog 39 #[iV kd,iV ky] w fun e w'=>e=.returned (.bool (UW kd ky))/\w'=w:=by
 by_cases h1:(1:Int)<=kd
 . by_cases h2:kd<=3
   . by_cases h3:(0:Int)<=ky
     . by_cases h4:ky<1073741824
       . go_enter Tryz.func39,Tryz.ntmps39
         go_wp2
         go_ret
         exact⟨by simp[UW,h1,h2,h3,h4],rfl⟩
       . rw[show UW kd ky=false from by rw[UW,decide_eq_false h4,Bool.and_false]]
         go_enter Tryz.func39,Tryz.ntmps39
         go_wp2
         go_ret
         exact⟨rfl,rfl⟩
     . rw[show UW kd ky=false from by rw[UW,decide_eq_false h3,Bool.and_false,Bool.false_and]]
       go_enter Tryz.func39,Tryz.ntmps39
       go_wp2
       go_ret
       exact⟨rfl,rfl⟩
   . rw[show UW kd ky=false from by rw[UW,decide_eq_false h2,Bool.and_false,Bool.false_and,Bool.false_and]]
     go_enter Tryz.func39,Tryz.ntmps39
     go_wp2
     go_ret
     exact⟨rfl,rfl⟩
 . rw[show UW kd ky=false from by rw[UW,decide_eq_false h1,Bool.false_and,Bool.false_and,Bool.false_and]]
   go_enter Tryz.func39,Tryz.ntmps39
   go_wp2
   go_ret
   exact⟨rfl,rfl⟩
def Af (kd ky hd:Int):Lr:=⟨kd,ky,hd,0,0,0,0,0,0,0,0,0,0,0,0⟩
theorem F8 (kd ky hd:Int) (hm:UW kd ky=true) (w:World):Calls Tryz.prog 23 #[iV kd,iV ky,.int .u64 hd] w fun e w'=>∃ b,e=.returned (.tuple #[pP b 0,iV 0])/\ZH w' b (.pointer none) (Af kd ky hd)/\Below w.heap.size w w'/\w.heap.size<=b:=by
 have q:=N7 kd ky w
 rw[hm] at q
 clear hm
 go_enter Tryz.func23,Tryz.ntmps23
 go_wp2_with (go_at_call 39;refine q.mono ?_;rintro e w1 ⟨rfl,rfl⟩)
 go_ret2
 exact⟨w1.heap.size,rfl,⟨_,At.new w1 67 _⟩,Z5 (Below.refl _ _) _,Nat.le_refl _⟩
end
section
set_option maxRecDepth 20000
def PG (Z:Bool->World->Prop) (Y:World->Int->Int->Int->Int->Prop) (b:Nat) (S:Lr) (e:Ending) (w':World):Prop:=∃ d w6,Z d w6/\((d=false/\e=.returned (.bool false)/\w'=w6)\/(d=true/\∃ E H V St,Y w6 E H V St/\e=.returned (.bool ((S.go E H V St).nx == 13))/\ZH w' b (.pointer none) (S.go E H V St)/\Only (B1 b) w6 w'))
set_option maxRecDepth 20000 in
theorem IP {w:World} {b A P:Nat} {S:Lr} (c0 c1 c2 c3 c4 c5 c6 who:Int) (h:ZH w b (pP A 0) S) (hk:S.kd≠0) (hne:S.nx≠13) (Z:Bool->World->Prop) (Y:World->Int->Int->Int->Int->Prop)
 (hS:∀ w1,Below w.heap.size w w1->Calls Tryz.prog 26 #[pP A 0,eV c0 c1 c2 c3 c4 c5 c6 P who] w1 fun e w'=>∃ d,e=.returned (.bool d)/\ZH w' b (pP A 0) S/\Z d w')
 (hD:∀ w6,Z true w6->∀ w1,Below w6.heap.size w6 w1->Calls Tryz.prog 27 #[pP A 0] w1 fun e w'=>∃ E H V St,e=.returned (.agg #[iV E,.int .u64 H,iV V,iV St])/\Below w1.heap.size w1 w'/\Y w6 E H V St)
 (hO:∀ E H V St w6,Z true w6->Y w6 E H V St->∀ w1,ZH w1 b (.pointer none) S->Calls Tryz.prog 28 #[pP b 0,.agg #[iV E,.int .u64 H,iV V,iV St]] w1 fun e w'=>e=.returned (.tuple #[])/\ZH w' b (.pointer none) (S.go E H V St)/\Only (B1 b) w1 w') :
 Calls Tryz.prog 17 #[pP b 0,eV c0 c1 c2 c3 c4 c5 c6 P who] w fun e w'=>PG Z Y b S e w':=by
 have qa:=Rx (h.grown (ZY w (.cells #[iV c0,iV c1,iV c2,iV c3,iV c4,iV c5,iV c6,pP P 0,iV who] 29))) hk
 obtain⟨kd,ky,hd,nx,an,al,ax,hn,hl,hx,md,cE,cH,cV,cS⟩:=S
 replace hne:(nx == 13)=false:=by simpa using hne
 clear hk
 obtain⟨c,h⟩:=h
 replace h:At w b 0 67 c [iV kd,iV ky,.int .u64 hd,iV nx,pP A 0,.int .u64 an,iV al,iV ax,.int .u64 hn,iV hl,iV hx,.int .u64 md,iV cE,.int .u64 cH,iV cV,iV cS]:=h
 have h1:=h.grown (ZY w (.cells #[iV c0,iV c1,iV c2,iV c3,iV c4,iV c5,iV c6,pP P 0,iV who] 29))
 have k3:=h1.at0 3 rfl
 have k4:=h1.at0 4 rfl
 go_enter Tryz.func17,Tryz.ntmps17
 go_wp2_with (go_at_call 24;refine qa.mono ?_;rintro e w1 ⟨rfl,rfl⟩)
 refine ZT (fun W=>At W b 0 67 c [iV kd,iV ky,.int .u64 hd,iV nx,pP A 0,.int .u64 an,iV al,iV ax,.int .u64 hn,iV hl,iV hx,.int .u64 md,iV cE,.int .u64 cH,iV cV,iV cS]/\Below w.heap.size w W/\ZP W w.heap.size c0 c1 c2 c3 c4 c5 c6 P who) ⟨h1,ZY _ _,ZP.new⟩ ?_
 rintro W ⟨hW,bW,vW⟩
 clear k3 k4 qa
 apply Xk 5;. kernel_rfl
 iterate 3 (apply rV;. intros;apply ol;go_simp;exact gl)
 apply rV;. intro w' hg _;apply ol;have hw:=hW.drew.grown hg;have y4:=hw.at0 4 rfl;go_simp;exact gl
 apply XQ;. intro w' hg _;apply ol;obtain⟨y0,y1,y2,y3,y4,y5,y6,y7,y8⟩:=(vW.grown ((Below.refl _ _).drew)).grown hg;go_simp;exact gl
 try simp only[pu,s0,s1]
 intro w5 hg _
 have b5:Below w.heap.size w w5:=grow (grow bW ((Below.refl _ _).drew)) hg
 go_wp2_with (go_at_call 26;refine(hS _ b5).mono ?_;rintro e w6 ⟨d,rfl,⟨qy,h6⟩,hz⟩;have k3:=h6.at0 3 rfl;have k4:=h6.at0 4 rfl;have kf:=h6.fz;cases d)
 . go_ret
   exact⟨false,w6,hz,Or.inl ⟨rfl,rfl,rfl⟩⟩
 . have hD6:=hD w6 hz w6 (Below.refl _ _)
   go_wp2_with (go_at_call 27;refine hD6.mono ?_;rintro e w7 ⟨E,H,V,St,rfl,g7,ht⟩;have h7:=(h6.grown g7).grown (ZY w7 (.cells #[iV E,.int .u64 H,iV V,iV St] 51));have r4:=h7.at0 4 rfl;have rf:=h7.fz)
   have h8:=h7.ZO 4 (.pointer none)
   have hG:=hO E H V St w6 hz ht _ ⟨_,h8⟩
   go_wp2_with (go_at_call 28;refine hG.mono ?_;rintro e w9 ⟨rfl,q9,o9⟩;obtain⟨c9,h9⟩:=q9;have r3:=h9.at0 3 rfl)
   go_ret
   exact⟨true,w6,hz,Or.inr ⟨rfl,E,H,V,St,ht,rfl,⟨c9,h9⟩,(Zv ((Only.ZZ g7).trans (Only.ZZ (ZY _ _))) _ _).trans o9⟩⟩
set_option maxRecDepth 20000 in
theorem IM {w:World} {b P:Nat} {S:Lr} (c0 c1 c2 c3 c4 c5 c6 who:Int) (h:ZH w b (.pointer none) S) (hk:S.kd≠0) (hne:S.nx≠13) (X:Nat->World->Prop) (Z:Nat->World->Bool->World->Prop) (Y:Nat->World->World->Int->Int->Int->Int->Prop)
 (hB:∀ w1,Below w.heap.size w w1->Calls Tryz.prog 25 #[pP b 0] w1 fun e w'=>∃ A,e=.returned (pP A 0)/\Below w1.heap.size w1 w'/\X A w')
 (hX:∀ A w2,X A w2 ->
 (∀ w1,Below (w2.setCell ⟨b,4,none⟩ (pP A 0)).heap.size (w2.setCell ⟨b,4,none⟩ (pP A 0)) w1->Calls Tryz.prog 26 #[pP A 0,eV c0 c1 c2 c3 c4 c5 c6 P who] w1 fun e w'=>∃ d,e=.returned (.bool d)/\ZH w' b (pP A 0) S/\Z A w2 d w')
/\(∀ w6,Z A w2 true w6->∀ w1,Below w6.heap.size w6 w1->Calls Tryz.prog 27 #[pP A 0] w1 fun e w'=>∃ E H V St,e=.returned (.agg #[iV E,.int .u64 H,iV V,iV St])/\Below w1.heap.size w1 w'/\Y A w2 w6 E H V St)
/\(∀ E H V St w6,Z A w2 true w6->Y A w2 w6 E H V St->∀ w1,ZH w1 b (.pointer none) S->Calls Tryz.prog 28 #[pP b 0,.agg #[iV E,.int .u64 H,iV V,iV St]] w1 fun e w'=>e=.returned (.tuple #[])/\ZH w' b (.pointer none) (S.go E H V St)/\Only (B1 b) w1 w')) :
 Calls Tryz.prog 17 #[pP b 0,eV c0 c1 c2 c3 c4 c5 c6 P who] w fun e w'=>∃ A w2,X A w2/\PG (Z A w2) (Y A w2) b S e w':=by
 have qa:=Rx (h.grown (ZY w (.cells #[iV c0,iV c1,iV c2,iV c3,iV c4,iV c5,iV c6,pP P 0,iV who] 29))) hk
 obtain⟨kd,ky,hd,nx,an,al,ax,hn,hl,hx,md,cE,cH,cV,cS⟩:=S
 replace hne:(nx == 13)=false:=by simpa using hne
 clear hk
 obtain⟨c,h⟩:=h
 replace h:At w b 0 67 c [iV kd,iV ky,.int .u64 hd,iV nx,.pointer none,.int .u64 an,iV al,iV ax,.int .u64 hn,iV hl,iV hx,.int .u64 md,iV cE,.int .u64 cH,iV cV,iV cS]:=h
 have h1:=h.grown (ZY w (.cells #[iV c0,iV c1,iV c2,iV c3,iV c4,iV c5,iV c6,pP P 0,iV who] 29))
 have k3:=h1.at0 3 rfl
 have k4:=h1.at0 4 rfl
 go_enter Tryz.func17,Tryz.ntmps17
 go_wp2_with (first
  | (go_at_call 24;refine qa.mono ?_;rintro e w1 ⟨rfl,rfl⟩)
  | (go_at_call 25;refine(hB _ (ZY _ _)).mono ?_;rintro e w2 ⟨A,rfl,g2,x2⟩;have h2:=h1.grown g2;have z4:=h2.at0 4 rfl;have zf:=h2.fz;have v2:=(ZP.new (w:=w) (P:=P) (c0:=c0) (c1:=c1) (c2:=c2) (c3:=c3) (c4:=c4) (c5:=c5) (c6:=c6) (who:=who)).grown g2))
 obtain⟨hS,hD,hO⟩:=hX A w2 x2
 have hbw:=h.lt
 refine ZT (fun W=>W=w2.setCell ⟨b,4,none⟩ (pP A 0)/\At W b 0 67 (c.setIfInBounds 4 (pP A 0)) [iV kd,iV ky,.int .u64 hd,iV nx,pP A 0,.int .u64 an,iV al,iV ax,.int .u64 hn,iV hl,iV hx,.int .u64 md,iV cE,.int .u64 cH,iV cV,iV cS]/\ZP W w.heap.size c0 c1 c2 c3 c4 c5 c6 P who) ⟨rfl,h2.ZO 4 _,v2.ZX (by omega) _ _⟩ ?_
 rintro W ⟨eW,hW,vW⟩
 clear k3 k4 qa z4 zf
 apply Xk 5;. kernel_rfl
 iterate 3 (apply rV;. intros;apply ol;go_simp;exact gl)
 apply rV;. intro w' hg _;apply ol;have hw:=hW.drew.grown hg;have y4:=hw.at0 4 rfl;go_simp;exact gl
 apply XQ;. intro w' hg _;apply ol;obtain⟨y0,y1,y2,y3,y4,y5,y6,y7,y8⟩:=(vW.grown ((Below.refl _ _).drew)).grown hg;go_simp;exact gl
 try simp only[pu,s0,s1]
 intro w5 hg _
 have b5:Below (w2.setCell ⟨b,4,none⟩ (pP A 0)).heap.size (w2.setCell ⟨b,4,none⟩ (pP A 0)) w5:=by rw[<- eW];exact grow ((Below.refl _ _).drew) hg
 go_wp2_with (go_at_call 26;refine(hS _ b5).mono ?_;rintro e w6 ⟨d,rfl,⟨qy,h6⟩,hz⟩;have k3:=h6.at0 3 rfl;have k4:=h6.at0 4 rfl;have kf:=h6.fz;cases d)
 . go_ret
   exact⟨A,w2,x2,false,w6,hz,Or.inl ⟨rfl,rfl,rfl⟩⟩
 . have hD6:=hD w6 hz w6 (Below.refl _ _)
   go_wp2_with (go_at_call 27;refine hD6.mono ?_;rintro e w7 ⟨E,H,V,St,rfl,g7,ht⟩;have h7:=(h6.grown g7).grown (ZY w7 (.cells #[iV E,.int .u64 H,iV V,iV St] 51));have r4:=h7.at0 4 rfl;have rf:=h7.fz)
   have h8:=h7.ZO 4 (.pointer none)
   have hG:=hO E H V St w6 hz ht _ ⟨_,h8⟩
   go_wp2_with (go_at_call 28;refine hG.mono ?_;rintro e w9 ⟨rfl,q9,o9⟩;obtain⟨c9,h9⟩:=q9;have r3:=h9.at0 3 rfl)
   go_ret
   exact⟨A,w2,x2,true,w6,hz,Or.inr ⟨rfl,E,H,V,St,ht,rfl,⟨c9,h9⟩,(Zv ((Only.ZZ g7).trans (Only.ZZ (ZY _ _))) _ _).trans o9⟩⟩
end
section
structure Rn where
 B:Bk
 d:Dw
 s0:Nat
def uD:Option Rn->Value
 | none=>.pointer none
 | some a=>(pP a.B.A 0)
def Oj (b:Nat) (a:Option Rn) (x:Nat):Prop:=x=b\/∃ R,a=some R/\R.B.has x
structure Cal (t n k m:Nat) (w:World) (L:Loc) (σ:Nat) (q:Q) (pn:Nat->Int) (h:Gh) (hd K:Nat) (bj:Jb) (C:Cl) (r:Option Rs) (S:Lr) (b:Nat) (a:Option Rn) (ph:Nat):Prop where
 lr:ZH w b (uD a) S
 ok:S.ok
 is:Xq h hd C r S
 bd:C.bd h.J hd
 nb:¬ L.has b
 pk:pn K=if ph<=1 then 0 else 1
 p4:ph<=4
 no:a=none->ph=0/\r=none/\bj=C.Wj h hd
 th:∀ R,a=some R->Ym t n k m w L R.B R.s0 ⟨σ,q,pn,ph,R.d⟩/\LM h bj r ph R.d/\¬ R.B.has b/\R.d.c=C.po.c
section
variable {t n k m σ K:Nat} {q:Q} {h:Gh} {jb:Nat->Jb} {hd:Nat} {F:List Nat} {u:Hi} {ts:Nat->Option (Cl × Option Rs)} {g p r:Int} {C C':Cl} {rs:Option Rs} {R:Rs} {S:Lr} {w:World} {L:Loc} {s:Mm} {pn:Nat->Int} {b ph:Nat} {a:Option Rn}
theorem QM.bd (X:Lc t n k m q σ h jb hd F u ts) (G:QM h hd σ u K C C' R):C'.bd h.J hd:=by
 refine⟨X.l.pJ hd (X.l.l.pb hd (by obtain⟨D,e⟩:=X.l.l.hf;rw[e];exact List.mem_cons_self)),fun d e=>(G.my d e).1.dJ,?_⟩
 have kn:=G.kn
 revert kn
 cases C'.po with
 | first=>exact fun _=>trivial
 | link=>exact fun a=>⟨X.l.pJ _ a.1.pp,a.2.dJ⟩
 | past=>exact fun a=>⟨X.l.pJ _ a.1.pp,a.2.1.dJ⟩
 | drop=>exact fun a=>⟨X.l.pJ _ a.1.pp,a.2.1.dJ⟩
 | key=>exact fun a=>⟨X.l.pJ _ a.1.pp,a.2.1.dJ⟩
 | make=>exact fun a=>⟨X.l.pJ _ a.1.pp,X.l.pJ _ a.1.pp⟩
 | wkey=>exact fun a=>⟨X.l.pJ _ a.1.pp,a.2.2.dJ⟩
 | YL=>exact fun a=>⟨X.l.pJ _ a.1.pp,a.2.2.1.dJ⟩
 | put=>exact fun a=>⟨X.l.pJ _ a.1.pp,a.2.2.1.dJ⟩
 | mark=>exact fun a=>⟨X.l.pJ _ a.1,a.2.1.dJ⟩
 | lead=>exact fun a=>⟨X.l.pJ _ a.1,a.2.1.dJ⟩
 | Zo=>exact fun a=>⟨a.1.dJ,a.1.dJ⟩
 | Zk=>exact fun a=>⟨a.1,a.1⟩
 | over=>exact fun _=>trivial
theorem Lc.next (X:Lc t n k m q σ h jb hd F u ts) (hG:Good t n k m g p r) (hn:n<=65535) (hJ:h.J<=60000) (hK4:K<4) (hts:ts K=some (C,some R)) (N:C'.kd=C.kd/\C'.k=C.k/\C'.b=C.b) (ho:∀ E v st,C'.po≠.over E v st) (G:QM h hd σ u K C C' R):Lc t n k m q σ h (upd jb K (C'.Wj h hd)) hd F u (upd ts K (some (C',none))):=by
 have T:=X.t K C _ hts
 have hnil:=(T.told R rfl).1
 obtain⟨e1,e2,e3⟩:=N
 have k0:=T.k0
 have k1:=T.k1
 have kn:=G.kn
 have pO:=G.my
 have hk:=G.kd
 have pM:=G.dp
 have sG:=G.dr
 have hhd:h.ZL hd=true:=X.l.l.pb hd (by obtain⟨D,e⟩:=X.l.l.hf;rw[e];exact List.mem_cons_self)
 have bd:∀ {j},j<h.J->0<=h.H j/\h.H j<4294967296:=fun {j} hj=>by have b:=FT X.m.g hG hn hJ hj;exact⟨Int.le_of_lt b.1,b.2⟩
 have v0:Val 0:=⟨by decide,by decide⟩
 have key:∀ b',C'.Wj h hd=b'->Xc h hd C'.k C'.po b'->LP h hd σ u C'.b b'->UT t n k m q σ h K b'->b'.g=0->(∀ j α,b'=.dp j α->h.ZL j=true/\u.dr j=some K\/h.ZL j=false/\h.ma j=K)->Lc t n k m q σ h (upd jb K (C'.Wj h hd)) hd F u (upd ts K (some (C',none))):=fun b' e ji jk ok g0 d'=>by
  rw[e]
  exact X.begin hK4 hnil (T.next e1 e2 e3 pO hk kn ji jk) ok g0 d'
 cases hpo:C'.po with
 | first =>
  exact key (.ac ⟨1,h.H hd,1,0,0⟩ hd .see) (by unfold Cl.Wj;rw[hpo]) (by rw[hpo];exact⟨_,_,rfl,rfl,rfl⟩) trivial (X.Tt hG hn hJ hhd rfl (Or.inr rfl) v0 (Or.inl rfl)) rfl (fun j α e=>by cases e)
 | link a s c =>
  rw[hpo] at kn
  exact key (.ac ⟨1,h.H c,1,0,0⟩ c .see) (by unfold Cl.Wj;rw[hpo]) (by rw[hpo];exact⟨_,_,rfl,rfl,rfl⟩) trivial (X.Tt hG hn hJ kn.2.pu rfl (Or.inr rfl) v0 (Or.inl rfl)) rfl (fun j α e=>by cases e)
 | past a s c nx =>
  rw[hpo] at kn
  obtain⟨A,N,Gn⟩:=kn
  obtain⟨c3,c4⟩:=bd N.dJ
  exact key (.ac ⟨3,h.H a,1,nx,h.H c⟩ a .see) (by unfold Cl.Wj;rw[hpo]) (by rw[hpo];exact⟨_,_,rfl,rfl,rfl,rfl,rfl⟩) trivial (X.Tt hG hn hJ A.pp rfl (Or.inr rfl) ⟨Gn.2.1,Yh Gn.2.2⟩ (Or.inr ⟨rfl,rfl,c3,c4⟩)) rfl (fun j α e=>by cases e)
 | drop a s c nx =>
  rw[hpo] at kn
  obtain⟨A,N,⟨nx',Gn⟩,hdr⟩:=kn
  exact key (.dp c .see) (by unfold Cl.Wj;rw[hpo]) (by rw[hpo];exact⟨_,rfl⟩) trivial (Lc.BG N Gn (sG.1 _ _ _ _ hpo)) rfl (fun j α e=>by injection e with e;rw[<- e];exact Or.inl ⟨N.pu,hdr⟩)
 | key a s c nx s2 =>
  rw[hpo] at kn
  exact key (.ac ⟨1,h.H c,0,0,0⟩ c .see) (by unfold Cl.Wj;rw[hpo]) (by rw[hpo];exact⟨_,_,rfl,rfl,rfl⟩) trivial (X.Tt hG hn hJ kn.2.1.pu rfl (Or.inl rfl) v0 (Or.inl rfl)) rfl (fun j α e=>by cases e)
 | make a s nx =>
  exact key (.al 0 (.take .idle)) (by unfold Cl.Wj;rw[hpo]) (by rw[hpo];exact⟨_,_,rfl⟩) trivial Lc.xy rfl (fun j α e=>by cases e)
 | wkey a s nx d =>
  rw[hpo] at kn
  exact key (.ac ⟨2,h.H d,0,C'.k,0⟩ d .see) (by unfold Cl.Wj;rw[hpo]) (by rw[hpo];exact⟨_,_,rfl,rfl,rfl,rfl⟩) trivial (X.FM hG hn hJ kn.2.2 rfl (Or.inl rfl) ⟨by rw[e2];exact k0,by rw[e2];exact FV k1⟩ rfl) rfl (fun j α e=>by cases e)
 | YL a s nx d =>
  rw[hpo] at kn
  exact key (.ac ⟨2,h.H d,1,nx,0⟩ d .see) (by unfold Cl.Wj;rw[hpo]) (by rw[hpo];exact⟨_,_,rfl,rfl,rfl,rfl⟩) trivial (X.FM hG hn hJ kn.2.2.1 rfl (Or.inr rfl) ⟨kn.1.NY.1,Yh kn.1.NY.2.1⟩ rfl) rfl (fun j α e=>by cases e)
 | put a s nx d =>
  rw[hpo] at kn
  obtain⟨d3,d4⟩:=bd kn.2.2.1.dJ
  exact key (.ac ⟨3,h.H a,1,h.H d,nx⟩ a .see) (by unfold Cl.Wj;rw[hpo]) (by rw[hpo];exact⟨_,_,rfl,rfl,rfl,rfl,rfl⟩) trivial (X.Tt hG hn hJ kn.1.pp rfl (Or.inr rfl) ⟨d3,Yh d4⟩ (Or.inr ⟨rfl,rfl,kn.1.NY.1,kn.1.NY.2.1⟩)) rfl (fun j α e=>by cases e)
 | mark a s c nx s2 =>
  rw[hpo] at kn
  obtain⟨A,N,-,n0,n1,-⟩:=kn
  exact key (.ac ⟨3,h.H c,1,nx+4294967296,nx⟩ c .see) (by unfold Cl.Wj;rw[hpo]) (by rw[hpo];exact⟨_,_,rfl,rfl,rfl,rfl,rfl⟩) trivial (X.Tt hG hn hJ N.pu rfl (Or.inr rfl) ⟨(by show 0<=nx+4294967296;exact Int.add_nonneg n0 (by decide)),zV n1⟩ (Or.inr ⟨rfl,rfl,n0,n1⟩)) rfl (fun j α e=>by cases e)
 | lead a c nx st =>
  rw[hpo] at kn
  obtain⟨A,N,Gn,-⟩:=kn
  obtain⟨c3,c4⟩:=bd N.dJ
  exact key (.ac ⟨3,h.H a,1,nx,h.H c⟩ a .see) (by unfold Cl.Wj;rw[hpo]) (by rw[hpo];exact⟨_,_,rfl,rfl,rfl,rfl,rfl⟩) trivial (X.Tt hG hn hJ A rfl (Or.inr rfl) ⟨Gn.2.1,Yh Gn.2.2⟩ (Or.inr ⟨rfl,rfl,c3,c4⟩)) rfl (fun j α e=>by cases e)
 | Zo c st =>
  rw[hpo] at kn
  obtain⟨N,⟨nx,Gn⟩,hdr,-⟩:=kn
  exact key (.dp c .see) (by unfold Cl.Wj;rw[hpo]) (by rw[hpo];exact⟨_,rfl⟩) trivial (Lc.BG N Gn (sG.2 _ _ hpo)) rfl (fun j α e=>by injection e with e;rw[<- e];exact Or.inl ⟨N.pu,hdr⟩)
 | Zk d v st =>
  rw[hpo] at kn
  obtain⟨d3,pK⟩:=pM d v st hpo
  exact key (.dp d .see) (by unfold Cl.Wj;rw[hpo]) (by rw[hpo];exact⟨_,rfl⟩) trivial (Lc.zT (hd:=hd) ⟨kn.1,kn.2.1,kn.2.2.1,d3,pK⟩) rfl (fun j α e=>by injection e with e;rw[<- e];exact Or.inr ⟨kn.2.1,kn.2.2.1⟩)
 | over E v st=>exact absurd hpo (ho E v st)
theorem Xg.Dj (a:Xg h hd σ u K C C.po R) (I:Xq h hd C (some R) S) (hc:S.nx=0\/S.nx=1) (hE:R.E=0):0<=R.V/\R.V<8589934592:=by
 have key:∀ {j},Rd h hd σ u C.b j 1 R.V R.St->0<=R.V/\R.V<8589934592:=fun x=>by
  obtain⟨-,-,-,-,x5⟩:=x
  by_cases hs:R.V<4294967296
  . have:=((x5 rfl).1 hs).1
    exact⟨this.1,by omega⟩
  . have:=((x5 rfl).2 (by omega)).2
    constructor <;> omega
 have ip:=I.po
 revert a ip
 cases C.po with
 | first=>exact fun a _=>key a.2.2
 | link=>exact fun a _=>key (a hE).2.2
 | past=>intro _ ip;have:=ip.1;omega
 | drop=>intro _ ip;have:=ip.1;omega
 | key=>intro _ ip;have:=ip.1;omega
 | make=>intro _ ip;have:=ip.1;omega
 | wkey=>intro _ ip;have:=ip.1;omega
 | YL=>intro _ ip;have:=ip.1;omega
 | put=>intro _ ip;have:=ip.1;omega
 | mark=>intro _ ip;have:=ip.1;omega
 | lead=>intro _ ip;have:=ip.1;omega
 | Zo=>intro _ ip;have:=ip.1;omega
 | Zk=>intro _ ip;have:=ip.1;omega
 | over=>exact fun a=>a.elim
end
end
section
section
variable {t n k m σ K:Nat} {q q':Q} {h h':Gh} {jb:Nat->Jb} {hd:Nat} {F F':List Nat} {u u':Hi} {ts:Nat->Option (Cl × Option Rs)} {cg p r:Int} {C C':Cl} {R:Rs} {S:Lr} {rs rs':Option Rs} {b':Jb} {pb:Bool}
theorem VU.zS {ZL:Nat->Bool} {ky lk H:Nat->Int} {p c:Nat} (S:VU ZL ky lk H hd F) (hp:ZL p=true) (hc:ZL c=true) (hl:lk p=H c):c∈F:=by
 obtain⟨A,B,e,-,h2⟩:=S.at hp (by rw[hl];exact(S.h0 c hc).2)
 obtain⟨B',rfl⟩:=h2 c hc hl
 rw[e];simp
theorem Lc.Ir (X:Lc t n k m q σ h jb hd F u ts) (N:Ae h hd C R C' C.po) (ho:∀ E v st,C'.po≠.over E v st) (G:QM h hd σ u K C C' R) (x:xN h hd C.po R) (hts:ts K=some (C,some R)):O7 h C'.po/\Me k m q h (C'.Wj h hd)/\WS (2 * k+110) F C'.po+(4+Yz k m q (C'.Wj h hd))<=MB (2 * k+110) F C.po:=by
 have L:=X.l.l
 have f3:=X.l.f3
 have SL:∀ {j},j∈F->h.st j<=4:=fun hj=>by rw[f3 _ hj];decide
 have kn:=G.kn
 have hF:1<=F.length:=by obtain⟨D,e⟩:=L.hf;rw[e];simp
 have hh:=L.Ah
 -- a node stands there
 have Lm:∀ {a s c} {z:Nat},C'=C.at_ (.link a s c)->h.lk a=h.H c->60 * SS F a+2 * k+110<=z->O7 h C'.po/\Me k m q h (C'.Wj h hd)/\WS (2 * k+110) F C'.po+(4+Yz k m q (C'.Wj h hd))<=z:=fun {a s c z} e hl hz=>by
  rw[e] at kn ⊢
  have kn:Ahead h hd σ u C.k C.b a s (h.H c)/\Node h hd c:=kn
  refine⟨hl,SL (L.zS kn.1.pp kn.2.pu hl),?_⟩
  show 60 * SS F a+(2 * k+110) - 9+(4+5)<=z
  omega
 have Px:∀ {a s nx} {z:Nat},IV h hd C a s nx C'->(∀ E v st,C'.po≠.over E v st)->h.lk a=nx->2 * k+102<=z->O7 h C'.po/\Me k m q h (C'.Wj h hd)/\WS (2 * k+110) F C'.po+(4+Yz k m q (C'.Wj h hd))<=z:=fun {a s nx z} M ho hl hz=>by
  rcases M.2 with⟨-,e⟩ | ⟨-,-,e⟩ | ⟨d,-,-,e⟩
  . rw[e] at ho;exact absurd rfl (ho _ _ _)
  . rw[e]
    refine⟨hl,trivial,?_⟩
    show 70+(4+(2 * k+28))<=z
    omega
  . rw[e] at kn ⊢
    have kn:_/\_/\Own h hd K d/\_:=kn
    refine⟨hl,(by show h.st d<=4;rw[kn.2.2.1.st];decide),?_⟩
    show 50+(4+5)<=z
    omega
 cases hpo:C.po with
 | first =>
  rw[hpo] at N x
  have x:h.lk hd=R.V:=x
  have hz:60 * SS F hd+2 * k+110<=MB (2 * k+110) F .first/\2 * k+102<=MB (2 * k+110) F .first:=by
   show _<=60 * F.length+(2 * k+110)+1/\_<=60 * F.length+(2 * k+110)+1
   omega
  rcases N.2 with⟨-,M⟩ | ⟨c,e1,-,e⟩
  . exact Px M ho x hz.2
  . exact Lm e (by rw[x];exact e1) hz.1
 | link a s c =>
  rw[hpo] at N x
  have x:R.E=0/\h.lk a=h.H c/\h.lk c=R.V:=x
  have hb:MB (2 * k+110) F (.link a s c)=60 * SS F a+(2 * k+110) - 9:=rfl
  rw[hb]
  rcases N with⟨eE,e⟩ | ⟨eE,hv,e⟩ | ⟨eE,hv,e⟩
  . exact absurd x.1 eE
  . rw[e] at kn ⊢
    have kn:Ahead h hd σ u C.k C.b a s (h.H c)/\Node h hd c/\_:=kn
    refine⟨x.2.1,SL (L.mem kn.1.pp (by rw[x.2.1];exact(L.h0 c kn.2.1.pu).2)),?_⟩
    show 60 * SS F a+(2 * k+110) - 29+(4+5)<=_
    omega
  . rw[e] at kn ⊢
    have kn:Ahead h hd σ u C.k C.b a s (h.H c)/\Node h hd c/\_:=kn
    refine⟨x.2,SL (L.zS kn.1.pp kn.2.1.pu x.2.1),?_⟩
    show 60 * SS F a+(2 * k+110) - 29+(4+5)<=_
    omega
 | past a s c nx =>
  rw[hpo] at N x
  have x:R.E=0/\h.lk a=nx:=x
  rcases N with⟨eE,e⟩ | ⟨eE,e⟩
  . exact absurd x.1 eE
  . rw[e]
    refine⟨x.2,trivial,?_⟩
    show 60 * SS F a+(2 * k+110)+1+(4+14)<=60 * SS F a+(2 * k+110)+19
    omega
 | drop a s c nx =>
  rw[hpo] at N x
  have x:h.lk a=nx:=x
  have hb:MB (2 * k+110) F (.drop a s c nx)=60 * SS F a+(2 * k+110)+1:=rfl
  rw[hb]
  rcases N with⟨-,M⟩ | ⟨c',e1,-,e⟩
  . exact Px M ho x (by omega)
  . exact Lm e (by rw[x];exact e1) (by omega)
 | key a s c nx s2 =>
  rw[hpo] at N x
  have x:R.E=0/\h.lk a=h.H c/\h.lk c=nx:=x
  have hb:MB (2 * k+110) F (.key a s c nx s2)=60 * SS F a+(2 * k+110) - 29:=rfl
  rw[hb]
  have rk:=((X.t K C _ hts).told R rfl).2
  rw[hpo] at rk
  obtain⟨⟨A,N1,nk,-⟩,-⟩:=rk x.1
  have bn:=L.Gj A.pp N1.pu x.2.1
  rcases N with⟨eE,e⟩ | ⟨eE,hv,M⟩ | ⟨eE,hv,M⟩ | ⟨eE,hv,⟨k3,e⟩ | ⟨k1,e⟩ | ⟨k2,m0,e⟩ | ⟨d,k2,m0,e⟩⟩
  . exact absurd x.1 eE
  . rcases M with⟨-,M⟩ | ⟨c',e1,-,e⟩
    . exact Px M ho x.2.2 (by omega)
    . exact Lm e (by rw[x.2.2];exact e1) (by omega)
  . exact Px M ho x.2.1 (by omega)
  . rw[e]
    refine⟨x.2,SL (L.zS A.pp N1.pu x.2.1),?_⟩
    show 60+(4+5)<=_
    omega
  . rw[e] at ho;exact absurd rfl (ho _ _ _)
  . rw[e] at ho;exact absurd rfl (ho _ _ _)
  . rw[e]
    refine⟨trivial,trivial,?_⟩
    show 1+(4+14)<=_
    omega
 | make a s nx =>
  rw[hpo] at N x
  have x:(R.E=0\/R.E=7)/\h.lk a=nx:=x
  rcases N with⟨eE,e⟩ | ⟨eE,d,dJ,hv,e⟩
  . rw[e] at ho;exact absurd rfl (ho _ _ _)
  . rw[e] at kn ⊢
    have kn:_/\_/\Own h hd K d:=kn
    refine⟨x.2,(by show h.st d<=4;rw[kn.2.2.st];decide),?_⟩
    show 60+(4+5)<=70
    decide
 | wkey a s nx d =>
  rw[hpo] at N x
  rw[show C'=_ from N] at kn ⊢
  have kn:_/\_/\Own h hd K d/\_:=kn
  refine⟨x,(by show h.st d<=4;rw[kn.2.2.1.st];decide),?_⟩
  show 50+(4+5)<=60
  decide
 | YL a s nx d =>
  rw[hpo] at N x
  rw[show C'=_ from N] at kn ⊢
  have kn:Ahead h hd σ u C.k C.b a s nx/\_/\Own h hd K d/\_:=kn
  have x:h.lk a=nx:=x
  refine⟨x,SL (L.mem kn.1.pp (by rw[x];exact kn.1.NY.2.1)),?_⟩
  show 40+(4+5)<=50
  decide
 | put a s nx d =>
  rw[hpo] at N x
  have x:R.E=0:=x
  rcases N with⟨eE,e⟩ | ⟨eE,e⟩
  . exact absurd x eE
  . rw[e] at ho;exact absurd rfl (ho _ _ _)
 | mark a s c nx s2 =>
  rw[hpo] at N x
  have x:R.E=0/\h.lk a=h.H c:=x
  rcases N with⟨eE,e⟩ | ⟨eE,e⟩
  . exact absurd x.1 eE
  . rw[e] at kn ⊢
    have kn:h.ZL a=true/\Node h hd c/\_:=kn
    refine⟨x.2,SL (L.mem kn.1 (by rw[x.2];exact(L.h0 c kn.2.1.pu).2)),?_⟩
    show 50+(4+5)<=60
    decide
 | lead a c nx st =>
  rw[hpo] at N x
  rcases N with⟨eE,e⟩ | ⟨eE,e⟩
  . exact absurd x eE
  . rw[e]
    refine⟨trivial,trivial,?_⟩
    show 30+(4+14)<=50
    decide
 | Zo c st =>
  rw[hpo] at N
  rw[show C'=_ from N] at ho;exact absurd rfl (ho _ _ _)
 | Zk d v st =>
  rw[hpo] at N
  rw[show C'=_ from N] at ho;exact absurd rfl (ho _ _ _)
 | over=>rw[hpo] at N;exact N.elim
end
end
section
theorem FI {W:Wt} {own:Bool} {x G σ:Nat} {q q':Q} {α α':Ac} (ht:Y9 W own x G σ q α=(q',α')):q'.y=q.y:=by
 cases α with
 | lay v c =>
  simp only[Y9] at ht
  split at ht <;> (obtain⟨rfl,-⟩:=Prod.mk.inj ht;rfl)
 | stop v =>
  simp only[Y9] at ht
  obtain⟨h1,-⟩:=Prod.mk.inj ht
  rw[<- h1]
  split <;> rfl
 | _ =>
  simp only[Y9] at ht
  obtain⟨rfl,-⟩:=Prod.mk.inj ht
  rfl
theorem NS {cg:Int} {x:Nat} {q:Q} {η:Hp}:(Zl cg x q η).1.y=q.y:=by
 have he:∀ v,(VX cg x q v).1.y=q.y:=fun v=>by unfold VX;split <;> rfl
 cases η with
 | over w=>rfl
 | go v Z j u =>
  cases u with
  | none =>
   simp only[Zl]
   split
   . exact he v
   . split <;> rfl
  | some u =>
   simp only[Zl]
   split
   . exact he v
   . split <;> rfl
theorem FH {t n k m:Nat} {cg:Int} {own:Bool} {x G:Nat} {q q':Q} {α α':Dp} (ht:ZK t n k m cg own x G q α=(q',α')):q'.y=q.y:=by
 cases α with
 | mark v Z =>
  simp only[ZK] at ht
  split at ht <;> (obtain⟨rfl,-⟩:=Prod.mk.inj ht;rfl)
 | Ve η =>
  have h:=NS (cg:=cg) (x:=x) (q:=q) (η:=η)
  simp only[ZK] at ht
  generalize Zl cg x q η=z at h ht
  obtain⟨q1,η1⟩:=z
  cases η1 <;> (obtain⟨rfl,-⟩:=Prod.mk.inj ht;exact h)
 | fin Z i η =>
  have h:=NS (cg:=cg) (x:=x) (q:=q) (η:=η)
  simp only[ZK] at ht
  generalize Zl cg x q η=z at h ht
  obtain⟨q1,η1⟩:=z
  cases η1 <;> (obtain⟨rfl,-⟩:=Prod.mk.inj ht;exact h)
 | give γ =>
  simp only[ZK] at ht
  generalize Zd q.c q.lk q.F x γ=z at ht
  obtain⟨c',lk',F',γ'⟩:=z
  cases γ' <;> (obtain⟨rfl,-⟩:=Prod.mk.inj ht;rfl)
 | _ =>
  simp only[ZK] at ht
  obtain⟨rfl,-⟩:=Prod.mk.inj ht
  rfl
theorem pF {t n k m σ:Nat} {q q':Q} {α:Al} {E H:Int} {st:Nat} (gd:α.good t n k m 0 σ q) (h0:α.ZR=false) (hE:E≠0) (h6:E≠6) (ht:ZN t n k m 0 2 true σ q α=(q',.over E H st)):E=7/\q'.F=[]:=by
 cases α with
 | take τ =>
  cases τ with
  | YF x=>cases gd.2
  | none=>cases gd.2
  | idle =>
   cases hF:q.F with
   | nil =>
    simp only[ZN,Zn,hF,Y7,Prod.mk.injEq] at ht
    obtain⟨rfl,e⟩:=ht
    exact⟨(Al.over.inj e).1.symm,rfl⟩
   | cons x F0 =>
    simp only[ZN,Zn,hF,Y7,Prod.mk.injEq] at ht
    cases ht.2
  | XL x c0 =>
   simp only[ZN,Zn,Y7,Prod.mk.injEq] at ht
   cases ht.2
  | XP x c0 q0 =>
   simp only[ZN,Zn] at ht
   split at ht
   . simp only[Y7,Prod.mk.injEq] at ht
     cases ht.2
   . simp only[Y7,Prod.mk.injEq] at ht
     cases ht.2
 | place x g τ =>
  simp only[ZN] at ht
  generalize turn k m 0 (base t n k m) q.y τ=z at ht
  obtain⟨y',τ'⟩:=z
  cases τ' <;> cases (Prod.mk.inj ht).2
 | give x g γ =>
  simp only[ZN] at ht
  generalize Zd q.c q.lk q.F x γ=z at ht
  obtain⟨c',lk',F',γ'⟩:=z
  cases γ' with
  | over =>
   have e:=(Prod.mk.inj ht).2
   exact absurd (Al.over.inj e).1.symm h6
  | _=>cases (Prod.mk.inj ht).2
 | ready x g a i st0 =>
  simp only[ZN,Prod.mk.injEq] at ht
  exact absurd (Al.over.inj ht.2).1.symm hE
 | over=>cases h0
 | _ =>
  simp only[ZN,Prod.mk.injEq] at ht
  cases ht.2
theorem CZ {t n k m σ:Nat} {q q':Q} {α α':Al} (h:α.late=true) (ht:ZN t n k m 0 2 true σ q α=(q',α')):α'.late=true\/α'.ZR=true:=by
 cases α with
 | count=>simp only[ZN,Prod.mk.injEq] at ht;obtain⟨-,rfl⟩:=ht;exact Or.inl rfl
 | head=>simp only[ZN,Prod.mk.injEq] at ht;obtain⟨-,rfl⟩:=ht;exact Or.inl rfl
 | shw=>simp only[ZN,Prod.mk.injEq] at ht;obtain⟨-,rfl⟩:=ht;exact Or.inl rfl
 | ready=>simp only[ZN,Prod.mk.injEq] at ht;obtain⟨-,rfl⟩:=ht;exact Or.inr rfl
 | _=>cases h
def mk1:Po->Jb->Nat
 | .first,_=>1
 | .link _ _ _,_=>1
 | .past _ _ _ _,_=>1
 | .drop _ _ _ _,_=>1
 | .key _ _ _ _ _,_=>1
 | .make _ _ _,.al _ α=>if α.late then 0 else 1
 | _,_=>0
theorem xw (po:Po) (b:Jb):mk1 po b<=1:=by
 cases po with
 | make =>
  cases b with
  | al j α=>show (if α.late then 0 else 1)<=1;split <;> decide
  | _=>exact Nat.zero_le _
 | first=>exact Nat.le_refl _
 | link=>exact Nat.le_refl _
 | past=>exact Nat.le_refl _
 | drop=>exact Nat.le_refl _
 | key=>exact Nat.le_refl _
 | _=>exact Nat.zero_le _
def Roomy (k K Jm:Nat) (q:Q) (h:Gh) (jb:Nat->Jb):Prop:=∃ tk O,Rm 4 k 40 q.y (fun K=>TJ (jb K)) h.J tk O 0/\(∀ K',K'≠K->TJ (jb K')=none)/\3 * Jm<(k - 2) * 38
theorem Roomy.free {k K J1:Nat} {q:Q} {h:Gh} {jb:Nat->Jb} (R:Roomy k K J1 q h jb) (hJ:h.J<=J1):∃ l,l<k/\(q.y.ck l).st=0:=by
 obtain⟨tk,O,R,ha,hb⟩:=R
 obtain⟨l,hl,e⟩:=R.TI ha (by omega)
 exact⟨l,hl,R.fr l hl e⟩
theorem Roomy.same {k K J1:Nat} {q q':Q} {h h':Gh} {jb CY:Nat->Jb} (R:Roomy k K J1 q h jb) (e1:q'.y=q.y) (e2:h'.J=h.J) (e3:∀ K,TJ (CY K)=TJ (jb K)):Roomy k K J1 q' h' CY:=by
 obtain⟨tk,O,R,ha,hb⟩:=R
 refine⟨tk,O,?_,fun K' hK=>by rw[e3];exact ha K' hK,hb⟩
 rw[e1,e2,show (fun K=>TJ (CY K))=fun K=>TJ (jb K) from funext e3];exact R
structure Du (k K Jm J1:Nat) (S0:Int->Prop) (σ:Nat) (q:Q) (h:Gh) (jb:Nat->Jb) (hd:Nat) (u:Hi) (C:Cl) (r:Option Rs) (ph:Nat):Prop where
 wG:wF k 40 q h hd C r (jb K)
 xu:Sem S0 σ u C r
 room:Roomy k K Jm q h jb
 jm:J1<=Jm
 ng:(jb K).gives=false
 mj:h.J+(if C.kd=2 then mk1 C.po (jb K) else 0)<=J1
 rp:r=none↔ph<=3
 e7:∀ R a s nx,C.po=.make a s nx->r=some R->R.E≠0->R.E=7/\q.F=[]/\¬ S0 C.k
section
variable {t n k σ K Jm J1:Nat} {q q':Q} {h h':Gh} {jb:Nat->Jb} {hd:Nat} {F F':List Nat} {u u':Hi} {ts:Nat->Option (Cl × Option Rs)} {g p r:Int} {C C' C2:Cl} {R:Rs} {rs rs':Option Rs} {b':Jb} {ph Qv:Nat} {S0:Int->Prop}
theorem PK {b:Jb} (e:TJ b=TJ (jb K)):∀ K',TJ (upd jb K b K')=TJ (jb K'):=fun K'=>by
 by_cases h:K'=K
 . rw[h,upd_same];exact e
 . rw[Z8 _ _ _ _ h]
theorem zQ {W:Wt} {j:Nat} {α:Ac} (c:Bool):TJ (if c then Jb.nil else .ac W j α)=none:=by cases c <;> rfl
theorem zO {j:Nat} {α:Dp} (c:Bool):TJ (if c then Jb.nil else .dp j α)=none:=by cases c <;> rfl
theorem Du.go (A:Du k K Jm J1 S0 σ q h jb hd u C rs ph) (X:Lc t n k 40 q σ h jb hd F u ts) (X':Lc t n k 40 q' (σ+1) h' (upd jb K b') hd F' u' (upd ts K (some (C',rs')))) (hG:Good t n k 40 g p r) (hn:n<=65535) (hcg:(J1:Int)+2<=g) (hK4:K<4) (hJ1:J1<=60000) (hts:ts K=some (C,rs)) (h5:ph≠5) (h4:ph<=5)
 (G:SN t n k 40 g h σ q u F K C rs (jb K) h' q' u' F' C' rs' b' (decide (ph≠3))) (p3:ph<3->Qv=ph+1) (p4:ph=3->Qv=if rs'=none then 3 else 4) (p5:ph=4->Qv=5) :
 Du k K Jm J1 S0 (σ+1) q' h' (upd jb K b') hd u' C' rs' Qv/\EL k 40 (2 * k+110) q' F' C' rs' Qv (upd jb K b' K)+1<=EL k 40 (2 * k+110) q F C rs ph (jb K):=by
 have hJ:h.J<=J1:=Nat.le_trans (Nat.le_add_right _ _) A.mj
 have hjm:=A.jm
 have hf:=A.room.free (by omega)
 obtain⟨a1,a2⟩:=A.wG.go (T:=2 * k+110) X hG hn (by omega) (by omega) (by omega) (by decide) hf hts A.rp h5 h4 G p3 p4 p5
 rw[upd_same]
 have sm:=G.same
 have s1:=A.xu.go X X' hts G
 have T:=X.t K C rs hts
 have ng:=A.ng
 have mj:=A.mj
 have rp:rs'=none↔Qv<=3:=by
  have T':=X'.t K C' rs' (upd_same _ _ _)
  generalize hpb:decide (ph≠3)=pb at G
  cases G with
  | pin =>
   have hne:ph≠3:=of_decide_eq_true hpb
   have:=A.rp
   by_cases hp:ph<3
   . rw[p3 hp];rw[this];omega
   . rw[p5 (by omega)];rw[this];omega
  | ac =>
   have h3:ph=3:=by refine Classical.byContradiction fun hne=>?_;rw[decide_eq_true hne] at hpb;cases hpb
   rw[p4 h3];cases rs' <;> simp
  | dp =>
   have h3:ph=3:=by refine Classical.byContradiction fun hne=>?_;rw[decide_eq_true hne] at hpb;cases hpb
   rw[p4 h3];cases rs' <;> simp
  | al =>
   have h3:ph=3:=by refine Classical.byContradiction fun hne=>?_;rw[decide_eq_true hne] at hpb;cases hpb
   rw[p4 h3];cases rs' <;> simp
 refine⟨⟨by rw[upd_same];exact a1,s1,?_,hjm,?_,?_,rp,?_⟩,a2⟩
 . generalize hpb:decide (ph≠3)=pb at G
   cases G with
   | pin=>rw[YD];exact A.room
   | ac hb hr ht G=>exact A.room.same (FI ht) G.J (PK (by rw[zQ,hb];rfl))
   | dp hb hr ht c h1 h2=>exact A.room.same (FH ht) c.J (PK (by rw[zO,hb];rfl))
   | @al j j' α α' _ _ _ hb hr ht ev h1 h2 =>
    obtain⟨tk,O,R,ha,hb'⟩:=A.room
    have Wh:∃ i,i<k/\tk i=false:=R.TI ha (by omega)
    obtain⟨⟨Rl,O',Fl',R',uF⟩,-,-⟩:=R.go1 X.m hK4 Wh ng hb ht ev
    have uC:Fl'=0:=uF (fun x g0 sn i c e=>by
     have xj:=(A.wG.run hr).2
     rw[hb,e] at xj
     exact xj)
    subst uC
    exact⟨Rl,O',R',fun K' hK=>by rw[Z8 _ _ _ _ hK];exact ha K' hK,hb'⟩
 . rw[upd_same]
   generalize hpb:decide (ph≠3)=pb at G
   cases G with
   | pin=>exact ng
   | ac hb hr ht G=>split <;> rfl
   | dp hb hr ht c h1 h2=>split <;> rfl
   | @al j j' α α' _ _ _ hb hr ht ev h1 h2 =>
    obtain⟨tk,O,R,ha,hb'⟩:=A.room
    have Wh:∃ i,i<k/\tk i=false:=R.TI ha (by omega)
    exact(R.go1 X.m hK4 Wh ng hb ht ev).2.1
 . rw[upd_same,sm.1,sm.2.2.1]
   by_cases k2:C.kd=2
   . rw[if_pos k2] at mj ⊢
     generalize hpb:decide (ph≠3)=pb at G
     cases G with
     | pin=>exact mj
     | ac hb hr ht G =>
      rw[G.J]
      have ji:=(T.run hr).2.1
      rw[hb] at ji mj
      revert ji mj
      cases C.po with
      | make=>intro _ ji;obtain⟨l,β,e⟩:=ji;cases e
      | _=>exact fun mj _=>mj
     | dp hb hr ht c h1 h2 =>
      rw[c.J]
      have ji:=(T.run hr).2.1
      rw[hb] at ji mj
      revert ji mj
      cases C.po with
      | make=>intro _ ji;obtain⟨l,β,e⟩:=ji;cases e
      | _=>exact fun mj _=>mj
     | @al j j' α α' _ _ _ hb hr ht ev h1 h2 =>
      have ji:=(T.run hr).2.1
      rw[hb] at ji mj
      have ov:∀ po:Po,h'.J=h.J->(α'.late=true\/α'.ZR=true\/α.late=false)->h.J+mk1 po (.al j α)<=J1->h'.J+mk1 po (if α'.ZR then .nil else .al j' α')<=J1:=fun po e hh mj=>by
       rw[e]
       refine Nat.le_trans (Nat.add_le_add_left ?_ _) mj
       cases po with
       | make =>
        cases ho:α'.ZR with
        | true=>exact Nat.zero_le _
        | false =>
         show (if α'.late then 0 else 1)<=(if α.late then 0 else 1)
         rcases hh with hh | hh | hh
         . rw[hh];exact Nat.zero_le _
         . rw[hh] at ho;cases ho
         . rw[hh];split <;> decide
       | _=>cases α'.ZR <;> exact Nat.le_refl _
      cases ev with
      | on c hs ho hl =>
       refine ov _ c.J ?_ mj
       cases hl':α.late with
       | false=>exact Or.inr (Or.inr rfl)
       | true=>exact(CZ hl' ht).imp id Or.inl
      | @YF x0 g0 a0 i0 τ0 =>
       revert ji mj
       cases C.po with
       | make=>exact fun mj _=>mj
       | drop=>intro _ i;obtain⟨β,e⟩:=i;cases e
       | Zo=>intro _ i;obtain⟨β,e⟩:=i;cases e
       | Zk=>intro _ i;obtain⟨β,e⟩:=i;cases e
       | over=>intro _ i;exact i.elim
       | _=>intro _ i;obtain⟨W,β,e,-⟩:=i;cases e
      | made hj hd' hm h2' h3 c=>exact ov _ c.J (Or.inr (Or.inl rfl)) mj
      | none hF=>exact ov _ rfl (Or.inr (Or.inl rfl)) mj
      | full c hs=>exact ov _ c.J (Or.inr (Or.inl rfl)) mj
   . rw[if_neg k2] at mj ⊢
     generalize hpb:decide (ph≠3)=pb at G
     cases G with
     | pin=>exact mj
     | ac hb hr ht G=>rw[G.J];exact mj
     | dp hb hr ht c h1 h2=>rw[c.J];exact mj
     | al hb hr ht ev h1 h2 =>
      have ji:=(T.run hr).2.1
      have tk:=T.kd
      rw[hb] at ji
      revert ji tk
      cases C.po with
      | make=>intro _ tk;exact absurd (tk (by simp[Po.kd])) k2
      | drop=>intro i _;obtain⟨β,e⟩:=i;cases e
      | Zo=>intro i _;obtain⟨β,e⟩:=i;cases e
      | Zk=>intro i _;obtain⟨β,e⟩:=i;cases e
      | over=>intro i _;exact i.elim
      | _=>intro i _;obtain⟨W,β,e,-⟩:=i;cases e
 . intro R a s nx hpo hr' hE
   rw[sm.1] at hpo
   generalize hpb:decide (ph≠3)=pb at G
   cases G with
   | pin=>rw[sm.2.1];exact A.e7 R a s nx hpo hr' hE
   | ac hb hr ht G =>
    have ji:=(T.run hr).2.1
    rw[hb,hpo] at ji
    obtain⟨l,β,e⟩:=ji;cases e
   | dp hb hr ht c h1 h2 =>
    have ji:=(T.run hr).2.1
    rw[hb,hpo] at ji
    obtain⟨l,β,e⟩:=ji;cases e
   | @al j j' α α' _ _ _ hb hr ht ev h1 h2 =>
    have O:=X.m.jk K
    rw[hb] at O
    have ov:α.ZR=false:=by
     cases α with
     | over=>exact O.2.elim
     | _=>rfl
    cases ho:α'.ZR with
    | false=>rw[h1 ho] at hr';cases hr'
    | true =>
     cases α' with
     | over E H st =>
      rw[h2 E H st rfl] at hr'
      injection hr' with hr'
      rw[<- hr'] at hE ⊢
      have xj:=(A.wG.run hr).2
      rw[hb] at xj
      rcases (X.m.NR (by decide) hf hb ov xj ht h' j').2.2 E H st rfl with e | ⟨e,-⟩
      . exact absurd e hE
      . obtain⟨e7,eF⟩:=pF O.1 ov hE (fun h=>absurd (e.symm.trans h) (by decide)) ht
        have kn:=(T.run hr).1
        rw[hpo] at kn
        refine⟨e7,eF,fun h0=>kn.1.aw kn.2 ((A.xu.un (by rw[hr];unfold claim;rw[hpo]) s (Nat.le_of_lt kn.1.bb) kn.1.ss C.k T.k0).2 ?_)⟩
        rw[<- sm.2.1];exact h0
     | _=>cases ho
theorem Du.next (A:Du k K Jm J1 S0 σ q h jb hd u C (some R) 5) (X:Lc t n k 40 q σ h jb hd F u ts) (hts:ts K=some (C,some R)) (N:Ae h hd C R C2 C.po) (ho:∀ E v st,C2.po≠.over E v st) (G:QM h hd σ u K C C2 R) :
 Du k K Jm J1 S0 σ q h (upd jb K (C2.Wj h hd)) hd u C2 none 0/\EL k 40 (2 * k+110) q F C2 none 0 (upd jb K (C2.Wj h hd) K)<=EL k 40 (2 * k+110) q F C (some R) 5 (jb K):=by
 have T:=X.t K C _ hts
 have hnil:=(T.told R rfl).1
 have x:=A.wG.told R rfl
 obtain⟨x1,x2,x3⟩:=X.Ir N ho G x hts
 have sm:=N.same
 have pj:TJ (C2.Wj h hd)=none/\(C2.Wj h hd).gives=false:=by unfold Cl.Wj;cases C2.po <;> exact⟨rfl,rfl⟩
 refine⟨⟨by rw[upd_same];exact⟨fun _=>⟨x1,x2⟩,fun r' e=>by cases e⟩,A.xu.next sm.2.2 sm.2.1 sm.1 G.cl,A.room.same rfl rfl (PK (by rw[pj.1,hnil];rfl)),A.jm,by rw[upd_same];exact pj.2,?_,⟨fun _=>by decide,fun _=>rfl⟩,fun R a s nx _ e=>by cases e⟩,?_⟩
 . rw[upd_same,sm.1]
   have mj:=A.mj
   by_cases k2:C.kd=2
   case neg=>rw[if_neg k2] at mj ⊢;exact mj
   rw[if_pos k2] at mj ⊢
   rw[hnil] at mj
   have m1:=xw C2.po (C2.Wj h hd)
   revert N x mj
   cases C.po with
   | first=>intro _ _ mj;have:mk1 .first .nil=1:=rfl;omega
   | link=>intro _ _ mj;exact Nat.le_trans (Nat.add_le_add_left m1 _) mj
   | past=>intro _ _ mj;exact Nat.le_trans (Nat.add_le_add_left m1 _) mj
   | drop=>intro _ _ mj;exact Nat.le_trans (Nat.add_le_add_left m1 _) mj
   | key=>intro _ _ mj;exact Nat.le_trans (Nat.add_le_add_left m1 _) mj
   | make =>
    intro N _ mj
    rcases N with⟨-,e⟩ | ⟨-,d,-,-,e⟩
    . rw[e] at ho;exact absurd rfl (ho _ _ _)
    . rw[e];exact mj
   | wkey=>intro N _ mj;rw[show C2=_ from N];exact mj
   | YL=>intro N _ mj;rw[show C2=_ from N];exact mj
   | put =>
    intro N x mj
    rcases N with⟨eE,e⟩ | ⟨-,e⟩
    . exact absurd x eE
    . rw[e] at ho;exact absurd rfl (ho _ _ _)
   | mark =>
    intro N x mj
    rcases N with⟨eE,e⟩ | ⟨-,e⟩
    . exact absurd x.1 eE
    . rw[e];exact mj
   | lead =>
    intro N x mj
    rcases N with⟨eE,e⟩ | ⟨-,e⟩
    . exact absurd x eE
    . rw[e];exact mj
   | Zo=>intro N _ mj;rw[show C2=_ from N] at ho;exact absurd rfl (ho _ _ _)
   | Zk=>intro N _ mj;rw[show C2=_ from N] at ho;exact absurd rfl (ho _ _ _)
   | over=>intro N;exact N.elim
 . rw[upd_same]
   show WS (2 * k+110) F C2.po+((3 - 0)+(if 0<=3 then Yz k 40 q (C2.Wj h hd) else 0)+(if 0<=4 then 1 else 0))<=MB (2 * k+110) F C.po+_
   rw[if_pos (by decide),if_pos (by decide)]
   omega
structure Fin1 (S0 S1:Int->Prop) (kd key E v:Int) (q:Q):Prop where
 yes:E=0->((v=1/\(S0 key↔kd≠2))\/(v=0/\¬ (S0 key↔kd≠2)))/\∀ x,0<=x->(S1 x↔if kd≠1/\x=key then kd=2 else S0 x)
 no:E≠0->E=7/\v=0/\kd=2/\q.F=[]/\(∀ x,0<=x->(S1 x↔S0 x))/\¬ S0 key
theorem Du.ends (A:Du k K Jm J1 S0 σ q h jb hd u C (some R) 5) (X:Lc t n k 40 q σ h jb hd F u ts) (hts:ts K=some (C,some R)) {E v:Int} {st:Nat} (e:Qx σ u C R E v st):Fin1 S0 (u.S σ) C.kd C.k E v q:=by
 have T:=X.t K C _ hts
 refine⟨fun h0=>A.xu.end_ X.l T.k0 T.bb (e.ok h0) e.cl,fun h0=>?_⟩
 obtain⟨⟨a,s,nx,hpo⟩,hE,hv⟩:=e.er h0
 have h7:=A.e7 R a s nx hpo rfl (by rw[<- hE];exact h0)
 have k2:C.kd=2:=by have:=T.kd;rw[hpo] at this;exact this (by simp[Po.kd])
 have hc:=e.cl
 rw[if_neg (fun x=>by rw[hv] at x;exact absurd x.1 (by decide))] at hc
 exact⟨hE.trans h7.1,hv,k2,h7.2.1,A.xu.un hc σ T.bb (Nat.le_refl _),h7.2.2⟩
end
end
end Go.Proofs.YtibmjlefcaonnaaGreat
