import Derived.Test.YtpbghmeikcphnaaGreatLstOn
import Derived.Test.YtpbghmeikcphnaaGreatLstJob
import Derived.Test.YtpbghmeikcphnaaGreatLstTold
namespace Go.Proofs.YtpbghmeikcphnaaGreat
open Go.RowKit
section
theorem Kw {w:World} {b:Nat} {ob:Value} {S:Lr} (h:ZH w b ob S) (hn0:S.nx=0) :
 Calls Tryz.prog 41 #[pP b 0] w fun e w'=>e=.returned (Xa.v (S.want false))/\Below w.heap.size w w':=by
 obtain⟨kd,ky,hd,nx,an,al,ax,hn,hl,hx,md,cE,cH,cV,cS⟩:=S
 replace hn0:nx=0:=hn0
 subst hn0
 obtain⟨c,h⟩:=h
 replace h:At w b 0 90 c [iV kd,iV ky,.int .u64 hd,iV 0,ob,.int .u64 an,iV al,iV ax,.int .u64 hn,iV hl,iV hx,.int .u64 md,iV cE,.int .u64 cH,iV cV,iV cS]:=h
 have h1:=h.grown (ZY w (.cells #[iV 0,iV 0,.int .u64 0,iV 0,iV 0,iV 0,.bool false] 72))
 have k0:=h1.at0 0 rfl
 have k1:=h1.at0 1 rfl
 have k2:=h1.at0 2 rfl
 have k3:=h1.at0 3 rfl
 have k4:=h1.at0 4 rfl
 have k5:=h1.at0 5 rfl
 have k6:=h1.at0 6 rfl
 have k7:=h1.at0 7 rfl
 have k8:=h1.at0 8 rfl
 have k9:=h1.at0 9 rfl
 have k10:=h1.at0 10 rfl
 have k11:=h1.at0 11 rfl
 have k12:=h1.at0 12 rfl
 have k13:=h1.at0 13 rfl
 have k14:=h1.at0 14 rfl
 have k15:=h1.at0 15 rfl
 rw[show Lr.want ⟨kd,ky,hd,0,an,al,ax,hn,hl,hx,md,cE,cH,cV,cS⟩ false=⟨3,0,hd,1,0,0,false⟩ from rfl]
 go_enter Tryz.func41,Tryz.ntmps41
 go_wp2_with (go_at_call 63;refine(Sr hd 1 _).mono ?_;rintro e w1 ⟨rfl,g1⟩;have zz:=(At.new w 72 [iV 0,iV 0,.int .u64 0,iV 0,iV 0,iV 0,.bool false]).grown g1;have u0:=zz.at0 0 rfl;have u1:=zz.at0 1 rfl;have u2:=zz.at0 2 rfl;have u3:=zz.at0 3 rfl;have u4:=zz.at0 4 rfl;have u5:=zz.at0 5 rfl;have u6:=zz.at0 6 rfl;have zf:=zz.fz)
 have zq:=(((((((zz).ZO 0 (iV 3)).ZO 1 (iV 0)).ZO 2 (.int .u64 hd)).ZO 3 (iV 1)).ZO 4 (iV 0)).ZO 5 (iV 0)).ZO 6 (.bool false)
 have t0:=zq.at0 0 rfl;have t1:=zq.at0 1 rfl;have t2:=zq.at0 2 rfl;have t3:=zq.at0 3 rfl;have t4:=zq.at0 4 rfl;have t5:=zq.at0 5 rfl;have t6:=zq.at0 6 rfl
 exact bodyPost_ret (v:=Xa.v ⟨3,0,hd,1,0,0,false⟩) (by simp[results,Tryz.results41,go_sem,t0,t1,t2,t3,t4,t5,t6]) rfl ⟨rfl,Z7 (Z7 (Z7 (Z7 (Z7 (Z7 (Z7 (grow (Z4 (Below.refl _ _) _) g1) (Nat.le_refl _) _ _) (Nat.le_refl _) _ _) (Nat.le_refl _) _ _) (Nat.le_refl _) _ _) (Nat.le_refl _) _ _) (Nat.le_refl _) _ _) (Nat.le_refl _) _ _⟩
theorem Kv {w:World} {b:Nat} {ob:Value} {S:Lr} (h:ZH w b ob S) (hn0:S.nx=1) :
 Calls Tryz.prog 41 #[pP b 0] w fun e w'=>e=.returned (Xa.v (S.want false))/\Below w.heap.size w w':=by
 obtain⟨kd,ky,hd,nx,an,al,ax,hn,hl,hx,md,cE,cH,cV,cS⟩:=S
 replace hn0:nx=1:=hn0
 subst hn0
 obtain⟨c,h⟩:=h
 replace h:At w b 0 90 c [iV kd,iV ky,.int .u64 hd,iV 1,ob,.int .u64 an,iV al,iV ax,.int .u64 hn,iV hl,iV hx,.int .u64 md,iV cE,.int .u64 cH,iV cV,iV cS]:=h
 have h1:=h.grown (ZY w (.cells #[iV 0,iV 0,.int .u64 0,iV 0,iV 0,iV 0,.bool false] 72))
 have k0:=h1.at0 0 rfl
 have k1:=h1.at0 1 rfl
 have k2:=h1.at0 2 rfl
 have k3:=h1.at0 3 rfl
 have k4:=h1.at0 4 rfl
 have k5:=h1.at0 5 rfl
 have k6:=h1.at0 6 rfl
 have k7:=h1.at0 7 rfl
 have k8:=h1.at0 8 rfl
 have k9:=h1.at0 9 rfl
 have k10:=h1.at0 10 rfl
 have k11:=h1.at0 11 rfl
 have k12:=h1.at0 12 rfl
 have k13:=h1.at0 13 rfl
 have k14:=h1.at0 14 rfl
 have k15:=h1.at0 15 rfl
 rw[show Lr.want ⟨kd,ky,hd,1,an,al,ax,hn,hl,hx,md,cE,cH,cV,cS⟩ false=⟨3,0,hn,1,0,0,false⟩ from rfl]
 go_enter Tryz.func41,Tryz.ntmps41
 go_wp2_with (go_at_call 63;refine(Sr hn 1 _).mono ?_;rintro e w1 ⟨rfl,g1⟩;have zz:=(At.new w 72 [iV 0,iV 0,.int .u64 0,iV 0,iV 0,iV 0,.bool false]).grown g1;have u0:=zz.at0 0 rfl;have u1:=zz.at0 1 rfl;have u2:=zz.at0 2 rfl;have u3:=zz.at0 3 rfl;have u4:=zz.at0 4 rfl;have u5:=zz.at0 5 rfl;have u6:=zz.at0 6 rfl;have zf:=zz.fz)
 have zq:=(((((((zz).ZO 0 (iV 3)).ZO 1 (iV 0)).ZO 2 (.int .u64 hn)).ZO 3 (iV 1)).ZO 4 (iV 0)).ZO 5 (iV 0)).ZO 6 (.bool false)
 have t0:=zq.at0 0 rfl;have t1:=zq.at0 1 rfl;have t2:=zq.at0 2 rfl;have t3:=zq.at0 3 rfl;have t4:=zq.at0 4 rfl;have t5:=zq.at0 5 rfl;have t6:=zq.at0 6 rfl
 exact bodyPost_ret (v:=Xa.v ⟨3,0,hn,1,0,0,false⟩) (by simp[results,Tryz.results41,go_sem,t0,t1,t2,t3,t4,t5,t6]) rfl ⟨rfl,Z7 (Z7 (Z7 (Z7 (Z7 (Z7 (Z7 (grow (Z4 (Below.refl _ _) _) g1) (Nat.le_refl _) _ _) (Nat.le_refl _) _ _) (Nat.le_refl _) _ _) (Nat.le_refl _) _ _) (Nat.le_refl _) _ _) (Nat.le_refl _) _ _) (Nat.le_refl _) _ _⟩
theorem Qv {w:World} {b:Nat} {ob:Value} {S:Lr} (h:ZH w b ob S) (hn0:S.nx=2\/S.nx=11) (a0:0<=S.al) (a1:S.al<8589934592) (l0:0<=S.hl) (l1:S.hl<8589934592) :
 Calls Tryz.prog 41 #[pP b 0] w fun e w'=>e=.returned (Xa.v (S.want false))/\Below w.heap.size w w':=by
 obtain⟨kd,ky,hd,nx,an,al,ax,hn,hl,hx,md,cE,cH,cV,cS⟩:=S
 rcases hn0 with hn0 | hn0
 all_goals
  replace hn0:nx=_:=hn0
  subst hn0
  obtain⟨c,h⟩:=h
  replace h:At w b 0 90 c [iV kd,iV ky,.int .u64 hd,iV _,ob,.int .u64 an,iV al,iV ax,.int .u64 hn,iV hl,iV hx,.int .u64 md,iV cE,.int .u64 cH,iV cV,iV cS]:=h
  have h1:=h.grown (ZY w (.cells #[iV 0,iV 0,.int .u64 0,iV 0,iV 0,iV 0,.bool false] 72))
  have k0:=h1.at0 0 rfl
  have k1:=h1.at0 1 rfl
  have k2:=h1.at0 2 rfl
  have k3:=h1.at0 3 rfl
  have k4:=h1.at0 4 rfl
  have k5:=h1.at0 5 rfl
  have k6:=h1.at0 6 rfl
  have k7:=h1.at0 7 rfl
  have k8:=h1.at0 8 rfl
  have k9:=h1.at0 9 rfl
  have k10:=h1.at0 10 rfl
  have k11:=h1.at0 11 rfl
  have k12:=h1.at0 12 rfl
  have k13:=h1.at0 13 rfl
  have k14:=h1.at0 14 rfl
  have k15:=h1.at0 15 rfl
  rw[show Lr.want ⟨kd,ky,hd,_,an,al,ax,hn,hl,hx,md,cE,cH,cV,cS⟩ false=⟨5,0,an,1,Lr.lead al (hl % 4294967296),al,false⟩ from rfl]
  replace a0:0<=al:=a0
  replace a1:al<8589934592:=a1
  replace l0:0<=hl:=l0
  replace l1:hl<8589934592:=l1
  have rX:=VJ hn hl hx l0 l1
  have CX:=Vk an al ax (hl % 4294967296) a0 a1 (by omega) (by omega)
  clear a0 a1 l0 l1
  generalize hl % 4294967296=x at rX CX ⊢
  generalize Lr.lead al x=y at CX ⊢
  go_enter Tryz.func41,Tryz.ntmps41
  go_wp2
  refine ZR (fun W=>At W b 0 90 c [iV kd,iV ky,.int .u64 hd,iV _,ob,.int .u64 an,iV al,iV ax,.int .u64 hn,iV hl,iV hx,.int .u64 md,iV cE,.int .u64 cH,iV cV,iV cS]/\Below w.heap.size w W/\At W w.heap.size 0 72 #[iV 0,iV 0,.int .u64 0,iV 0,iV 0,iV 0,.bool false] [iV 0,iV 0,.int .u64 0,iV 0,iV 0,iV 0,.bool false]) ⟨h1,ZY _ _,At.new w 72 [iV 0,iV 0,.int .u64 0,iV 0,iV 0,iV 0,.bool false]⟩ ?_
  rintro W ⟨hW,bW,zW⟩
  clear k0 k1 k2 k3 k4 k5 k6 k7 k8 k9 k10 k11 k12 k13 k14 k15
  apply WV 14;. kernel_rfl
  iterate 3 (apply rV;. intros;apply ol;go_simp;exact gl)
  apply rV;. intro w' hg _;apply ol;have hw:=hW.drew.grown hg;have y5:=hw.at0 5 rfl;have y6:=hw.at0 6 rfl;have y7:=hw.at0 7 rfl;go_simp;exact gl
  iterate 2 (apply rV;. intros;apply ol;go_simp;exact gl)
  try simp only[pu,s0,s1]
  apply rV;. intros;apply ol;go_simp;exact gl
  apply rV;. intro w' hg _;apply ol;have hw:=hW.drew.grown hg;have y5:=hw.at0 5 rfl;have y6:=hw.at0 6 rfl;have y7:=hw.at0 7 rfl;go_simp;exact gl
  iterate 3 (apply rV;. intros;apply ol;go_simp;exact gl)
  apply rV;. intro w' hg _;apply ol;have hw:=hW.drew.grown hg;have y8:=hw.at0 8 rfl;have y9:=hw.at0 9 rfl;have sS:=hw.at0 10 rfl;go_simp;exact gl
  try simp only[pu,s0,s1]
  apply rV;. intro w' hg _;apply ol;go_simp;exact cb (rX _)
  apply XC;. intro w' hg _;apply ol;go_simp;exact cb (CX _)
  try simp only[pu,s0,s1]
  intro w5 hg _
  have z5:=zW.drew.grown hg
  go_wp2_with (go_at_call 64;refine(Sl an al ax y _).mono ?_;rintro e w1 ⟨rfl,g1⟩;have zz:=z5.grown g1;have u0:=zz.at0 0 rfl;have u1:=zz.at0 1 rfl;have u2:=zz.at0 2 rfl;have u3:=zz.at0 3 rfl;have u4:=zz.at0 4 rfl;have u5:=zz.at0 5 rfl;have u6:=zz.at0 6 rfl;have zf:=zz.fz)
  have zq:=(((((((zz).ZO 0 (iV 5)).ZO 1 (iV 0)).ZO 2 (.int .u64 an)).ZO 3 (iV 1)).ZO 4 (iV y)).ZO 5 (iV al)).ZO 6 (.bool false)
  have t0:=zq.at0 0 rfl;have t1:=zq.at0 1 rfl;have t2:=zq.at0 2 rfl;have t3:=zq.at0 3 rfl;have t4:=zq.at0 4 rfl;have t5:=zq.at0 5 rfl;have t6:=zq.at0 6 rfl
  exact bodyPost_ret (v:=Xa.v ⟨5,0,an,1,y,al,false⟩) (by simp[results,Tryz.results41,go_sem,t0,t1,t2,t3,t4,t5,t6]) rfl ⟨rfl,Z7 (Z7 (Z7 (Z7 (Z7 (Z7 (Z7 (grow (grow (grow bW ((Below.refl _ _).drew)) hg) g1) (Nat.le_refl _) _ _) (Nat.le_refl _) _ _) (Nat.le_refl _) _ _) (Nat.le_refl _) _ _) (Nat.le_refl _) _ _) (Nat.le_refl _) _ _) (Nat.le_refl _) _ _⟩
theorem Ku {w:World} {b:Nat} {ob:Value} {S:Lr} (h:ZH w b ob S) (hn0:S.nx=3) :
 Calls Tryz.prog 41 #[pP b 0] w fun e w'=>e=.returned (Xa.v (S.want false))/\Below w.heap.size w w':=by
 obtain⟨kd,ky,hd,nx,an,al,ax,hn,hl,hx,md,cE,cH,cV,cS⟩:=S
 replace hn0:nx=3:=hn0
 subst hn0
 obtain⟨c,h⟩:=h
 replace h:At w b 0 90 c [iV kd,iV ky,.int .u64 hd,iV 3,ob,.int .u64 an,iV al,iV ax,.int .u64 hn,iV hl,iV hx,.int .u64 md,iV cE,.int .u64 cH,iV cV,iV cS]:=h
 have h1:=h.grown (ZY w (.cells #[iV 0,iV 0,.int .u64 0,iV 0,iV 0,iV 0,.bool false] 72))
 have k0:=h1.at0 0 rfl
 have k1:=h1.at0 1 rfl
 have k2:=h1.at0 2 rfl
 have k3:=h1.at0 3 rfl
 have k4:=h1.at0 4 rfl
 have k5:=h1.at0 5 rfl
 have k6:=h1.at0 6 rfl
 have k7:=h1.at0 7 rfl
 have k8:=h1.at0 8 rfl
 have k9:=h1.at0 9 rfl
 have k10:=h1.at0 10 rfl
 have k11:=h1.at0 11 rfl
 have k12:=h1.at0 12 rfl
 have k13:=h1.at0 13 rfl
 have k14:=h1.at0 14 rfl
 have k15:=h1.at0 15 rfl
 rw[show Lr.want ⟨kd,ky,hd,3,an,al,ax,hn,hl,hx,md,cE,cH,cV,cS⟩ false=⟨2,0,hn,0,0,0,false⟩ from rfl]
 go_enter Tryz.func41,Tryz.ntmps41
 go_wp2_with (go_at_call 67;refine(Sm hn _).mono ?_;rintro e w1 ⟨rfl,g1⟩;have zz:=(At.new w 72 [iV 0,iV 0,.int .u64 0,iV 0,iV 0,iV 0,.bool false]).grown g1;have u0:=zz.at0 0 rfl;have u1:=zz.at0 1 rfl;have u2:=zz.at0 2 rfl;have u3:=zz.at0 3 rfl;have u4:=zz.at0 4 rfl;have u5:=zz.at0 5 rfl;have u6:=zz.at0 6 rfl;have zf:=zz.fz)
 have zq:=(((((((zz).ZO 0 (iV 2)).ZO 1 (iV 0)).ZO 2 (.int .u64 hn)).ZO 3 (iV 0)).ZO 4 (iV 0)).ZO 5 (iV 0)).ZO 6 (.bool false)
 have t0:=zq.at0 0 rfl;have t1:=zq.at0 1 rfl;have t2:=zq.at0 2 rfl;have t3:=zq.at0 3 rfl;have t4:=zq.at0 4 rfl;have t5:=zq.at0 5 rfl;have t6:=zq.at0 6 rfl
 exact bodyPost_ret (v:=Xa.v ⟨2,0,hn,0,0,0,false⟩) (by simp[results,Tryz.results41,go_sem,t0,t1,t2,t3,t4,t5,t6]) rfl ⟨rfl,Z7 (Z7 (Z7 (Z7 (Z7 (Z7 (Z7 (grow (Z4 (Below.refl _ _) _) g1) (Nat.le_refl _) _ _) (Nat.le_refl _) _ _) (Nat.le_refl _) _ _) (Nat.le_refl _) _ _) (Nat.le_refl _) _ _) (Nat.le_refl _) _ _) (Nat.le_refl _) _ _⟩
theorem Kt {w:World} {b:Nat} {ob:Value} {S:Lr} (h:ZH w b ob S) (hn0:S.nx=4) :
 Calls Tryz.prog 41 #[pP b 0] w fun e w'=>e=.returned (Xa.v (S.want false))/\Below w.heap.size w w':=by
 obtain⟨kd,ky,hd,nx,an,al,ax,hn,hl,hx,md,cE,cH,cV,cS⟩:=S
 replace hn0:nx=4:=hn0
 subst hn0
 obtain⟨c,h⟩:=h
 replace h:At w b 0 90 c [iV kd,iV ky,.int .u64 hd,iV 4,ob,.int .u64 an,iV al,iV ax,.int .u64 hn,iV hl,iV hx,.int .u64 md,iV cE,.int .u64 cH,iV cV,iV cS]:=h
 have h1:=h.grown (ZY w (.cells #[iV 0,iV 0,.int .u64 0,iV 0,iV 0,iV 0,.bool false] 72))
 have k0:=h1.at0 0 rfl
 have k1:=h1.at0 1 rfl
 have k2:=h1.at0 2 rfl
 have k3:=h1.at0 3 rfl
 have k4:=h1.at0 4 rfl
 have k5:=h1.at0 5 rfl
 have k6:=h1.at0 6 rfl
 have k7:=h1.at0 7 rfl
 have k8:=h1.at0 8 rfl
 have k9:=h1.at0 9 rfl
 have k10:=h1.at0 10 rfl
 have k11:=h1.at0 11 rfl
 have k12:=h1.at0 12 rfl
 have k13:=h1.at0 13 rfl
 have k14:=h1.at0 14 rfl
 have k15:=h1.at0 15 rfl
 rw[show Lr.want ⟨kd,ky,hd,4,an,al,ax,hn,hl,hx,md,cE,cH,cV,cS⟩ false=⟨3,0,hn,0,0,0,false⟩ from rfl]
 go_enter Tryz.func41,Tryz.ntmps41
 go_wp2_with (go_at_call 63;refine(Sr hn 0 _).mono ?_;rintro e w1 ⟨rfl,g1⟩;have zz:=(At.new w 72 [iV 0,iV 0,.int .u64 0,iV 0,iV 0,iV 0,.bool false]).grown g1;have u0:=zz.at0 0 rfl;have u1:=zz.at0 1 rfl;have u2:=zz.at0 2 rfl;have u3:=zz.at0 3 rfl;have u4:=zz.at0 4 rfl;have u5:=zz.at0 5 rfl;have u6:=zz.at0 6 rfl;have zf:=zz.fz)
 have zq:=(((((((zz).ZO 0 (iV 3)).ZO 1 (iV 0)).ZO 2 (.int .u64 hn)).ZO 3 (iV 0)).ZO 4 (iV 0)).ZO 5 (iV 0)).ZO 6 (.bool false)
 have t0:=zq.at0 0 rfl;have t1:=zq.at0 1 rfl;have t2:=zq.at0 2 rfl;have t3:=zq.at0 3 rfl;have t4:=zq.at0 4 rfl;have t5:=zq.at0 5 rfl;have t6:=zq.at0 6 rfl
 exact bodyPost_ret (v:=Xa.v ⟨3,0,hn,0,0,0,false⟩) (by simp[results,Tryz.results41,go_sem,t0,t1,t2,t3,t4,t5,t6]) rfl ⟨rfl,Z7 (Z7 (Z7 (Z7 (Z7 (Z7 (Z7 (grow (Z4 (Below.refl _ _) _) g1) (Nat.le_refl _) _ _) (Nat.le_refl _) _ _) (Nat.le_refl _) _ _) (Nat.le_refl _) _ _) (Nat.le_refl _) _ _) (Nat.le_refl _) _ _) (Nat.le_refl _) _ _⟩
theorem Kr {w:World} {b:Nat} {ob:Value} {S:Lr} (h:ZH w b ob S) (hn0:S.nx=5) :
 Calls Tryz.prog 41 #[pP b 0] w fun e w'=>e=.returned (Xa.v (S.want false))/\Below w.heap.size w w':=by
 obtain⟨kd,ky,hd,nx,an,al,ax,hn,hl,hx,md,cE,cH,cV,cS⟩:=S
 replace hn0:nx=5:=hn0
 subst hn0
 obtain⟨c,h⟩:=h
 replace h:At w b 0 90 c [iV kd,iV ky,.int .u64 hd,iV 5,ob,.int .u64 an,iV al,iV ax,.int .u64 hn,iV hl,iV hx,.int .u64 md,iV cE,.int .u64 cH,iV cV,iV cS]:=h
 have h1:=h.grown (ZY w (.cells #[iV 0,iV 0,.int .u64 0,iV 0,iV 0,iV 0,.bool false] 72))
 have k0:=h1.at0 0 rfl
 have k1:=h1.at0 1 rfl
 have k2:=h1.at0 2 rfl
 have k3:=h1.at0 3 rfl
 have k4:=h1.at0 4 rfl
 have k5:=h1.at0 5 rfl
 have k6:=h1.at0 6 rfl
 have k7:=h1.at0 7 rfl
 have k8:=h1.at0 8 rfl
 have k9:=h1.at0 9 rfl
 have k10:=h1.at0 10 rfl
 have k11:=h1.at0 11 rfl
 have k12:=h1.at0 12 rfl
 have k13:=h1.at0 13 rfl
 have k14:=h1.at0 14 rfl
 have k15:=h1.at0 15 rfl
 rw[show Lr.want ⟨kd,ky,hd,5,an,al,ax,hn,hl,hx,md,cE,cH,cV,cS⟩ false=⟨1,2,0,0,0,0,false⟩ from rfl]
 go_enter Tryz.func41,Tryz.ntmps41
 go_wp2
 exact bodyPost_ret (v:=Xa.v ⟨1,2,0,0,0,0,false⟩) (by simp[results,Tryz.results41,go_sem]) rfl ⟨rfl,Z4 (Below.refl _ _) _⟩
theorem Kq {w:World} {b:Nat} {ob:Value} {S:Lr} (h:ZH w b ob S) (hn0:S.nx=6) :
 Calls Tryz.prog 41 #[pP b 0] w fun e w'=>e=.returned (Xa.v (S.want false))/\Below w.heap.size w w':=by
 obtain⟨kd,ky,hd,nx,an,al,ax,hn,hl,hx,md,cE,cH,cV,cS⟩:=S
 replace hn0:nx=6:=hn0
 subst hn0
 obtain⟨c,h⟩:=h
 replace h:At w b 0 90 c [iV kd,iV ky,.int .u64 hd,iV 6,ob,.int .u64 an,iV al,iV ax,.int .u64 hn,iV hl,iV hx,.int .u64 md,iV cE,.int .u64 cH,iV cV,iV cS]:=h
 have h1:=h.grown (ZY w (.cells #[iV 0,iV 0,.int .u64 0,iV 0,iV 0,iV 0,.bool false] 72))
 have k0:=h1.at0 0 rfl
 have k1:=h1.at0 1 rfl
 have k2:=h1.at0 2 rfl
 have k3:=h1.at0 3 rfl
 have k4:=h1.at0 4 rfl
 have k5:=h1.at0 5 rfl
 have k6:=h1.at0 6 rfl
 have k7:=h1.at0 7 rfl
 have k8:=h1.at0 8 rfl
 have k9:=h1.at0 9 rfl
 have k10:=h1.at0 10 rfl
 have k11:=h1.at0 11 rfl
 have k12:=h1.at0 12 rfl
 have k13:=h1.at0 13 rfl
 have k14:=h1.at0 14 rfl
 have k15:=h1.at0 15 rfl
 rw[show Lr.want ⟨kd,ky,hd,6,an,al,ax,hn,hl,hx,md,cE,cH,cV,cS⟩ false=⟨4,0,md,0,ky,0,false⟩ from rfl]
 go_enter Tryz.func41,Tryz.ntmps41
 go_wp2
 refine ZR (fun W=>At W b 0 90 c [iV kd,iV ky,.int .u64 hd,iV 6,ob,.int .u64 an,iV al,iV ax,.int .u64 hn,iV hl,iV hx,.int .u64 md,iV cE,.int .u64 cH,iV cV,iV cS]/\Below w.heap.size w W/\At W w.heap.size 0 72 #[iV 0,iV 0,.int .u64 0,iV 0,iV 0,iV 0,.bool false] [iV 0,iV 0,.int .u64 0,iV 0,iV 0,iV 0,.bool false]) ⟨h1,ZY _ _,At.new w 72 [iV 0,iV 0,.int .u64 0,iV 0,iV 0,iV 0,.bool false]⟩ ?_
 rintro W ⟨hW,bW,zW⟩
 clear k0 k1 k2 k3 k4 k5 k6 k7 k8 k9 k10 k11 k12 k13 k14 k15
 apply WV 8;. kernel_rfl
 iterate 3 (apply rV;. intros;apply ol;go_simp;exact gl)
 apply rV;. intro w' hg _;apply ol;have hw:=hW.drew.grown hg;have lC:=hw.at0 11 rfl;go_simp;exact gl
 iterate 2 (apply rV;. intros;apply ol;go_simp;exact gl)
 try simp only[pu,s0,s1]
 apply rV;. intros;apply ol;go_simp;exact gl
 apply XC;. intro w' hg _;apply ol;have hw:=hW.drew.grown hg;have y1:=hw.at0 1 rfl;go_simp;exact gl
 try simp only[pu,s0,s1]
 intro w5 hg _
 have z5:=zW.drew.grown hg
 go_wp2_with (go_at_call 68;refine(Qo md 0 ky _).mono ?_;rintro e w1 ⟨rfl,g1⟩;have zz:=z5.grown g1;have u0:=zz.at0 0 rfl;have u1:=zz.at0 1 rfl;have u2:=zz.at0 2 rfl;have u3:=zz.at0 3 rfl;have u4:=zz.at0 4 rfl;have u5:=zz.at0 5 rfl;have u6:=zz.at0 6 rfl;have zf:=zz.fz)
 have zq:=(((((((zz).ZO 0 (iV 4)).ZO 1 (iV 0)).ZO 2 (.int .u64 md)).ZO 3 (iV 0)).ZO 4 (iV ky)).ZO 5 (iV 0)).ZO 6 (.bool false)
 have t0:=zq.at0 0 rfl;have t1:=zq.at0 1 rfl;have t2:=zq.at0 2 rfl;have t3:=zq.at0 3 rfl;have t4:=zq.at0 4 rfl;have t5:=zq.at0 5 rfl;have t6:=zq.at0 6 rfl
 exact bodyPost_ret (v:=Xa.v ⟨4,0,md,0,ky,0,false⟩) (by simp[results,Tryz.results41,go_sem,t0,t1,t2,t3,t4,t5,t6]) rfl ⟨rfl,Z7 (Z7 (Z7 (Z7 (Z7 (Z7 (Z7 (grow (grow (grow bW ((Below.refl _ _).drew)) hg) g1) (Nat.le_refl _) _ _) (Nat.le_refl _) _ _) (Nat.le_refl _) _ _) (Nat.le_refl _) _ _) (Nat.le_refl _) _ _) (Nat.le_refl _) _ _) (Nat.le_refl _) _ _⟩
theorem Ko {w:World} {b:Nat} {ob:Value} {S:Lr} (h:ZH w b ob S) (hn0:S.nx=7) (m0:0<=S.hn) (m1:S.hn<4294967296) :
 Calls Tryz.prog 41 #[pP b 0] w fun e w'=>e=.returned (Xa.v (S.want false))/\Below w.heap.size w w':=by
 obtain⟨kd,ky,hd,nx,an,al,ax,hn,hl,hx,md,cE,cH,cV,cS⟩:=S
 replace hn0:nx=7:=hn0
 subst hn0
 obtain⟨c,h⟩:=h
 replace h:At w b 0 90 c [iV kd,iV ky,.int .u64 hd,iV 7,ob,.int .u64 an,iV al,iV ax,.int .u64 hn,iV hl,iV hx,.int .u64 md,iV cE,.int .u64 cH,iV cV,iV cS]:=h
 have h1:=h.grown (ZY w (.cells #[iV 0,iV 0,.int .u64 0,iV 0,iV 0,iV 0,.bool false] 72))
 have k0:=h1.at0 0 rfl
 have k1:=h1.at0 1 rfl
 have k2:=h1.at0 2 rfl
 have k3:=h1.at0 3 rfl
 have k4:=h1.at0 4 rfl
 have k5:=h1.at0 5 rfl
 have k6:=h1.at0 6 rfl
 have k7:=h1.at0 7 rfl
 have k8:=h1.at0 8 rfl
 have k9:=h1.at0 9 rfl
 have k10:=h1.at0 10 rfl
 have k11:=h1.at0 11 rfl
 have k12:=h1.at0 12 rfl
 have k13:=h1.at0 13 rfl
 have k14:=h1.at0 14 rfl
 have k15:=h1.at0 15 rfl
 rw[show Lr.want ⟨kd,ky,hd,7,an,al,ax,hn,hl,hx,md,cE,cH,cV,cS⟩ false=⟨4,0,md,1,hn,0,false⟩ from rfl]
 replace m0:0<=hn:=m0
 replace m1:hn<4294967296:=m1
 have hp:=Vr hn m0 m1 false
 rw[if_neg (by decide),Int.add_zero] at hp
 clear m0 m1
 go_enter Tryz.func41,Tryz.ntmps41
 go_wp2
 refine ZR (fun W=>At W b 0 90 c [iV kd,iV ky,.int .u64 hd,iV 7,ob,.int .u64 an,iV al,iV ax,.int .u64 hn,iV hl,iV hx,.int .u64 md,iV cE,.int .u64 cH,iV cV,iV cS]/\Below w.heap.size w W/\At W w.heap.size 0 72 #[iV 0,iV 0,.int .u64 0,iV 0,iV 0,iV 0,.bool false] [iV 0,iV 0,.int .u64 0,iV 0,iV 0,iV 0,.bool false]) ⟨h1,ZY _ _,At.new w 72 [iV 0,iV 0,.int .u64 0,iV 0,iV 0,iV 0,.bool false]⟩ ?_
 rintro W ⟨hW,bW,zW⟩
 clear k0 k1 k2 k3 k4 k5 k6 k7 k8 k9 k10 k11 k12 k13 k14 k15
 apply WV 11;. kernel_rfl
 iterate 3 (apply rV;. intros;apply ol;go_simp;exact gl)
 apply rV;. intro w' hg _;apply ol;have hw:=hW.drew.grown hg;have lC:=hw.at0 11 rfl;go_simp;exact gl
 iterate 2 (apply rV;. intros;apply ol;go_simp;exact gl)
 try simp only[pu,s0,s1]
 iterate 2 (apply rV;. intros;apply ol;go_simp;exact gl)
 apply rV;. intro w' hg _;apply ol;have hw:=hW.drew.grown hg;have y8:=hw.at0 8 rfl;go_simp;exact gl
 apply rV;. intros;apply ol;go_simp;exact gl
 apply XC;. intro w' hg _;apply ol;go_simp;exact cb (hp _)
 try simp only[pu,s0,s1]
 intro w5 hg _
 have z5:=zW.drew.grown hg
 go_wp2_with (go_at_call 68;refine(Qo md 1 hn _).mono ?_;rintro e w1 ⟨rfl,g1⟩;have zz:=z5.grown g1;have u0:=zz.at0 0 rfl;have u1:=zz.at0 1 rfl;have u2:=zz.at0 2 rfl;have u3:=zz.at0 3 rfl;have u4:=zz.at0 4 rfl;have u5:=zz.at0 5 rfl;have u6:=zz.at0 6 rfl;have zf:=zz.fz)
 have zq:=(((((((zz).ZO 0 (iV 4)).ZO 1 (iV 0)).ZO 2 (.int .u64 md)).ZO 3 (iV 1)).ZO 4 (iV hn)).ZO 5 (iV 0)).ZO 6 (.bool false)
 have t0:=zq.at0 0 rfl;have t1:=zq.at0 1 rfl;have t2:=zq.at0 2 rfl;have t3:=zq.at0 3 rfl;have t4:=zq.at0 4 rfl;have t5:=zq.at0 5 rfl;have t6:=zq.at0 6 rfl
 exact bodyPost_ret (v:=Xa.v ⟨4,0,md,1,hn,0,false⟩) (by simp[results,Tryz.results41,go_sem,t0,t1,t2,t3,t4,t5,t6]) rfl ⟨rfl,Z7 (Z7 (Z7 (Z7 (Z7 (Z7 (Z7 (grow (grow (grow bW ((Below.refl _ _).drew)) hg) g1) (Nat.le_refl _) _ _) (Nat.le_refl _) _ _) (Nat.le_refl _) _ _) (Nat.le_refl _) _ _) (Nat.le_refl _) _ _) (Nat.le_refl _) _ _) (Nat.le_refl _) _ _⟩
theorem J9 {w:World} {b:Nat} {ob:Value} {S:Lr} (h:ZH w b ob S) (hn0:S.nx=8) (a0:0<=S.al) (a1:S.al<8589934592) (m0:0<=S.md) (m1:S.md<4294967296) :
 Calls Tryz.prog 41 #[pP b 0] w fun e w'=>e=.returned (Xa.v (S.want false))/\Below w.heap.size w w':=by
 obtain⟨kd,ky,hd,nx,an,al,ax,hn,hl,hx,md,cE,cH,cV,cS⟩:=S
 replace hn0:nx=8:=hn0
 subst hn0
 obtain⟨c,h⟩:=h
 replace h:At w b 0 90 c [iV kd,iV ky,.int .u64 hd,iV 8,ob,.int .u64 an,iV al,iV ax,.int .u64 hn,iV hl,iV hx,.int .u64 md,iV cE,.int .u64 cH,iV cV,iV cS]:=h
 have h1:=h.grown (ZY w (.cells #[iV 0,iV 0,.int .u64 0,iV 0,iV 0,iV 0,.bool false] 72))
 have k0:=h1.at0 0 rfl
 have k1:=h1.at0 1 rfl
 have k2:=h1.at0 2 rfl
 have k3:=h1.at0 3 rfl
 have k4:=h1.at0 4 rfl
 have k5:=h1.at0 5 rfl
 have k6:=h1.at0 6 rfl
 have k7:=h1.at0 7 rfl
 have k8:=h1.at0 8 rfl
 have k9:=h1.at0 9 rfl
 have k10:=h1.at0 10 rfl
 have k11:=h1.at0 11 rfl
 have k12:=h1.at0 12 rfl
 have k13:=h1.at0 13 rfl
 have k14:=h1.at0 14 rfl
 have k15:=h1.at0 15 rfl
 rw[show Lr.want ⟨kd,ky,hd,8,an,al,ax,hn,hl,hx,md,cE,cH,cV,cS⟩ false=⟨5,0,an,1,Lr.lead al md,al,false⟩ from rfl]
 replace a0:0<=al:=a0
 replace a1:al<8589934592:=a1
 replace m0:0<=md:=m0
 replace m1:md<4294967296:=m1
 have CX:=Vk an al ax md a0 a1 m0 m1
 clear a0 a1 m0 m1
 generalize Lr.lead al md=y at CX ⊢
 go_enter Tryz.func41,Tryz.ntmps41
 go_wp2
 refine ZR (fun W=>At W b 0 90 c [iV kd,iV ky,.int .u64 hd,iV 8,ob,.int .u64 an,iV al,iV ax,.int .u64 hn,iV hl,iV hx,.int .u64 md,iV cE,.int .u64 cH,iV cV,iV cS]/\Below w.heap.size w W/\At W w.heap.size 0 72 #[iV 0,iV 0,.int .u64 0,iV 0,iV 0,iV 0,.bool false] [iV 0,iV 0,.int .u64 0,iV 0,iV 0,iV 0,.bool false]) ⟨h1,ZY _ _,At.new w 72 [iV 0,iV 0,.int .u64 0,iV 0,iV 0,iV 0,.bool false]⟩ ?_
 rintro W ⟨hW,bW,zW⟩
 clear k0 k1 k2 k3 k4 k5 k6 k7 k8 k9 k10 k11 k12 k13 k14 k15
 apply WV 13;. kernel_rfl
 iterate 3 (apply rV;. intros;apply ol;go_simp;exact gl)
 apply rV;. intro w' hg _;apply ol;have hw:=hW.drew.grown hg;have y5:=hw.at0 5 rfl;have y6:=hw.at0 6 rfl;have y7:=hw.at0 7 rfl;go_simp;exact gl
 iterate 2 (apply rV;. intros;apply ol;go_simp;exact gl)
 try simp only[pu,s0,s1]
 apply rV;. intros;apply ol;go_simp;exact gl
 apply rV;. intro w' hg _;apply ol;have hw:=hW.drew.grown hg;have y5:=hw.at0 5 rfl;have y6:=hw.at0 6 rfl;have y7:=hw.at0 7 rfl;go_simp;exact gl
 iterate 3 (apply rV;. intros;apply ol;go_simp;exact gl)
 apply rV;. intro w' hg _;apply ol;have hw:=hW.drew.grown hg;have lC:=hw.at0 11 rfl;go_simp;exact gl
 try simp only[pu,s0,s1]
 apply XC;. intro w' hg _;apply ol;go_simp;exact cb (CX _)
 try simp only[pu,s0,s1]
 intro w5 hg _
 have z5:=zW.drew.grown hg
 go_wp2_with (go_at_call 64;refine(Sl an al ax y _).mono ?_;rintro e w1 ⟨rfl,g1⟩;have zz:=z5.grown g1;have u0:=zz.at0 0 rfl;have u1:=zz.at0 1 rfl;have u2:=zz.at0 2 rfl;have u3:=zz.at0 3 rfl;have u4:=zz.at0 4 rfl;have u5:=zz.at0 5 rfl;have u6:=zz.at0 6 rfl;have zf:=zz.fz)
 have zq:=(((((((zz).ZO 0 (iV 5)).ZO 1 (iV 0)).ZO 2 (.int .u64 an)).ZO 3 (iV 1)).ZO 4 (iV y)).ZO 5 (iV al)).ZO 6 (.bool false)
 have t0:=zq.at0 0 rfl;have t1:=zq.at0 1 rfl;have t2:=zq.at0 2 rfl;have t3:=zq.at0 3 rfl;have t4:=zq.at0 4 rfl;have t5:=zq.at0 5 rfl;have t6:=zq.at0 6 rfl
 exact bodyPost_ret (v:=Xa.v ⟨5,0,an,1,y,al,false⟩) (by simp[results,Tryz.results41,go_sem,t0,t1,t2,t3,t4,t5,t6]) rfl ⟨rfl,Z7 (Z7 (Z7 (Z7 (Z7 (Z7 (Z7 (grow (grow (grow bW ((Below.refl _ _).drew)) hg) g1) (Nat.le_refl _) _ _) (Nat.le_refl _) _ _) (Nat.le_refl _) _ _) (Nat.le_refl _) _ _) (Nat.le_refl _) _ _) (Nat.le_refl _) _ _) (Nat.le_refl _) _ _⟩
theorem J8 {w:World} {b:Nat} {ob:Value} {S:Lr} (h:ZH w b ob S) (hn0:S.nx=9) :
 Calls Tryz.prog 41 #[pP b 0] w fun e w'=>e=.returned (Xa.v (S.want false))/\Below w.heap.size w w':=by
 obtain⟨kd,ky,hd,nx,an,al,ax,hn,hl,hx,md,cE,cH,cV,cS⟩:=S
 replace hn0:nx=9:=hn0
 subst hn0
 obtain⟨c,h⟩:=h
 replace h:At w b 0 90 c [iV kd,iV ky,.int .u64 hd,iV 9,ob,.int .u64 an,iV al,iV ax,.int .u64 hn,iV hl,iV hx,.int .u64 md,iV cE,.int .u64 cH,iV cV,iV cS]:=h
 have h1:=h.grown (ZY w (.cells #[iV 0,iV 0,.int .u64 0,iV 0,iV 0,iV 0,.bool false] 72))
 have k0:=h1.at0 0 rfl
 have k1:=h1.at0 1 rfl
 have k2:=h1.at0 2 rfl
 have k3:=h1.at0 3 rfl
 have k4:=h1.at0 4 rfl
 have k5:=h1.at0 5 rfl
 have k6:=h1.at0 6 rfl
 have k7:=h1.at0 7 rfl
 have k8:=h1.at0 8 rfl
 have k9:=h1.at0 9 rfl
 have k10:=h1.at0 10 rfl
 have k11:=h1.at0 11 rfl
 have k12:=h1.at0 12 rfl
 have k13:=h1.at0 13 rfl
 have k14:=h1.at0 14 rfl
 have k15:=h1.at0 15 rfl
 rw[show Lr.want ⟨kd,ky,hd,9,an,al,ax,hn,hl,hx,md,cE,cH,cV,cS⟩ false=⟨2,0,md,0,0,0,false⟩ from rfl]
 go_enter Tryz.func41,Tryz.ntmps41
 go_wp2_with (go_at_call 67;refine(Sm md _).mono ?_;rintro e w1 ⟨rfl,g1⟩;have zz:=(At.new w 72 [iV 0,iV 0,.int .u64 0,iV 0,iV 0,iV 0,.bool false]).grown g1;have u0:=zz.at0 0 rfl;have u1:=zz.at0 1 rfl;have u2:=zz.at0 2 rfl;have u3:=zz.at0 3 rfl;have u4:=zz.at0 4 rfl;have u5:=zz.at0 5 rfl;have u6:=zz.at0 6 rfl;have zf:=zz.fz)
 have zq:=(((((((zz).ZO 0 (iV 2)).ZO 1 (iV 0)).ZO 2 (.int .u64 md)).ZO 3 (iV 0)).ZO 4 (iV 0)).ZO 5 (iV 0)).ZO 6 (.bool false)
 have t0:=zq.at0 0 rfl;have t1:=zq.at0 1 rfl;have t2:=zq.at0 2 rfl;have t3:=zq.at0 3 rfl;have t4:=zq.at0 4 rfl;have t5:=zq.at0 5 rfl;have t6:=zq.at0 6 rfl
 exact bodyPost_ret (v:=Xa.v ⟨2,0,md,0,0,0,false⟩) (by simp[results,Tryz.results41,go_sem,t0,t1,t2,t3,t4,t5,t6]) rfl ⟨rfl,Z7 (Z7 (Z7 (Z7 (Z7 (Z7 (Z7 (grow (Z4 (Below.refl _ _) _) g1) (Nat.le_refl _) _ _) (Nat.le_refl _) _ _) (Nat.le_refl _) _ _) (Nat.le_refl _) _ _) (Nat.le_refl _) _ _) (Nat.le_refl _) _ _) (Nat.le_refl _) _ _⟩
theorem MM {w:World} {b:Nat} {ob:Value} {S:Lr} (h:ZH w b ob S) (hn0:S.nx=10) (l0:0<=S.hl) (l1:S.hl<8589934592) :
 Calls Tryz.prog 41 #[pP b 0] w fun e w'=>e=.returned (Xa.v (S.want false))/\Below w.heap.size w w':=by
 obtain⟨kd,ky,hd,nx,an,al,ax,hn,hl,hx,md,cE,cH,cV,cS⟩:=S
 replace hn0:nx=10:=hn0
 subst hn0
 obtain⟨c,h⟩:=h
 replace h:At w b 0 90 c [iV kd,iV ky,.int .u64 hd,iV 10,ob,.int .u64 an,iV al,iV ax,.int .u64 hn,iV hl,iV hx,.int .u64 md,iV cE,.int .u64 cH,iV cV,iV cS]:=h
 have h1:=h.grown (ZY w (.cells #[iV 0,iV 0,.int .u64 0,iV 0,iV 0,iV 0,.bool false] 72))
 have k0:=h1.at0 0 rfl
 have k1:=h1.at0 1 rfl
 have k2:=h1.at0 2 rfl
 have k3:=h1.at0 3 rfl
 have k4:=h1.at0 4 rfl
 have k5:=h1.at0 5 rfl
 have k6:=h1.at0 6 rfl
 have k7:=h1.at0 7 rfl
 have k8:=h1.at0 8 rfl
 have k9:=h1.at0 9 rfl
 have k10:=h1.at0 10 rfl
 have k11:=h1.at0 11 rfl
 have k12:=h1.at0 12 rfl
 have k13:=h1.at0 13 rfl
 have k14:=h1.at0 14 rfl
 have k15:=h1.at0 15 rfl
 rw[show Lr.want ⟨kd,ky,hd,10,an,al,ax,hn,hl,hx,md,cE,cH,cV,cS⟩ false=⟨5,0,hn,1,hl % 4294967296+4294967296,hl,false⟩ from rfl]
 replace l0:0<=hl:=l0
 replace l1:hl<8589934592:=l1
 have lu:=J3 hn hl hx l0 l1
 clear l0 l1
 generalize hl % 4294967296+4294967296=y at lu ⊢
 go_enter Tryz.func41,Tryz.ntmps41
 go_wp2
 refine ZR (fun W=>At W b 0 90 c [iV kd,iV ky,.int .u64 hd,iV 10,ob,.int .u64 an,iV al,iV ax,.int .u64 hn,iV hl,iV hx,.int .u64 md,iV cE,.int .u64 cH,iV cV,iV cS]/\Below w.heap.size w W/\At W w.heap.size 0 72 #[iV 0,iV 0,.int .u64 0,iV 0,iV 0,iV 0,.bool false] [iV 0,iV 0,.int .u64 0,iV 0,iV 0,iV 0,.bool false]) ⟨h1,ZY _ _,At.new w 72 [iV 0,iV 0,.int .u64 0,iV 0,iV 0,iV 0,.bool false]⟩ ?_
 rintro W ⟨hW,bW,zW⟩
 clear k0 k1 k2 k3 k4 k5 k6 k7 k8 k9 k10 k11 k12 k13 k14 k15
 apply WV 9;. kernel_rfl
 iterate 3 (apply rV;. intros;apply ol;go_simp;exact gl)
 apply rV;. intro w' hg _;apply ol;have hw:=hW.drew.grown hg;have y8:=hw.at0 8 rfl;have y9:=hw.at0 9 rfl;have sS:=hw.at0 10 rfl;go_simp;exact gl
 iterate 2 (apply rV;. intros;apply ol;go_simp;exact gl)
 try simp only[pu,s0,s1]
 apply rV;. intros;apply ol;go_simp;exact gl
 apply rV;. intro w' hg _;apply ol;have hw:=hW.drew.grown hg;have y8:=hw.at0 8 rfl;have y9:=hw.at0 9 rfl;have sS:=hw.at0 10 rfl;go_simp;exact gl
 apply XC;. intro w' hg _;apply ol;go_simp;exact cb (lu _)
 try simp only[pu,s0,s1]
 intro w5 hg _
 have z5:=zW.drew.grown hg
 go_wp2_with (go_at_call 64;refine(Sl hn hl hx y _).mono ?_;rintro e w1 ⟨rfl,g1⟩;have zz:=z5.grown g1;have u0:=zz.at0 0 rfl;have u1:=zz.at0 1 rfl;have u2:=zz.at0 2 rfl;have u3:=zz.at0 3 rfl;have u4:=zz.at0 4 rfl;have u5:=zz.at0 5 rfl;have u6:=zz.at0 6 rfl;have zf:=zz.fz)
 have zq:=(((((((zz).ZO 0 (iV 5)).ZO 1 (iV 0)).ZO 2 (.int .u64 hn)).ZO 3 (iV 1)).ZO 4 (iV y)).ZO 5 (iV hl)).ZO 6 (.bool false)
 have t0:=zq.at0 0 rfl;have t1:=zq.at0 1 rfl;have t2:=zq.at0 2 rfl;have t3:=zq.at0 3 rfl;have t4:=zq.at0 4 rfl;have t5:=zq.at0 5 rfl;have t6:=zq.at0 6 rfl
 exact bodyPost_ret (v:=Xa.v ⟨5,0,hn,1,y,hl,false⟩) (by simp[results,Tryz.results41,go_sem,t0,t1,t2,t3,t4,t5,t6]) rfl ⟨rfl,Z7 (Z7 (Z7 (Z7 (Z7 (Z7 (Z7 (grow (grow (grow bW ((Below.refl _ _).drew)) hg) g1) (Nat.le_refl _) _ _) (Nat.le_refl _) _ _) (Nat.le_refl _) _ _) (Nat.le_refl _) _ _) (Nat.le_refl _) _ _) (Nat.le_refl _) _ _) (Nat.le_refl _) _ _⟩
theorem ML {w:World} {b:Nat} {ob:Value} {S:Lr} (h:ZH w b ob S) (hn0:S.nx=12) :
 Calls Tryz.prog 41 #[pP b 0] w fun e w'=>e=.returned (Xa.v (S.want false))/\Below w.heap.size w w':=by
 obtain⟨kd,ky,hd,nx,an,al,ax,hn,hl,hx,md,cE,cH,cV,cS⟩:=S
 replace hn0:nx=12:=hn0
 subst hn0
 obtain⟨c,h⟩:=h
 replace h:At w b 0 90 c [iV kd,iV ky,.int .u64 hd,iV 12,ob,.int .u64 an,iV al,iV ax,.int .u64 hn,iV hl,iV hx,.int .u64 md,iV cE,.int .u64 cH,iV cV,iV cS]:=h
 have h1:=h.grown (ZY w (.cells #[iV 0,iV 0,.int .u64 0,iV 0,iV 0,iV 0,.bool false] 72))
 have k0:=h1.at0 0 rfl
 have k1:=h1.at0 1 rfl
 have k2:=h1.at0 2 rfl
 have k3:=h1.at0 3 rfl
 have k4:=h1.at0 4 rfl
 have k5:=h1.at0 5 rfl
 have k6:=h1.at0 6 rfl
 have k7:=h1.at0 7 rfl
 have k8:=h1.at0 8 rfl
 have k9:=h1.at0 9 rfl
 have k10:=h1.at0 10 rfl
 have k11:=h1.at0 11 rfl
 have k12:=h1.at0 12 rfl
 have k13:=h1.at0 13 rfl
 have k14:=h1.at0 14 rfl
 have k15:=h1.at0 15 rfl
 rw[show Lr.want ⟨kd,ky,hd,12,an,al,ax,hn,hl,hx,md,cE,cH,cV,cS⟩ false=⟨2,0,hn,0,0,0,false⟩ from rfl]
 go_enter Tryz.func41,Tryz.ntmps41
 go_wp2_with (go_at_call 67;refine(Sm hn _).mono ?_;rintro e w1 ⟨rfl,g1⟩;have zz:=(At.new w 72 [iV 0,iV 0,.int .u64 0,iV 0,iV 0,iV 0,.bool false]).grown g1;have u0:=zz.at0 0 rfl;have u1:=zz.at0 1 rfl;have u2:=zz.at0 2 rfl;have u3:=zz.at0 3 rfl;have u4:=zz.at0 4 rfl;have u5:=zz.at0 5 rfl;have u6:=zz.at0 6 rfl;have zf:=zz.fz)
 have zq:=(((((((zz).ZO 0 (iV 2)).ZO 1 (iV 0)).ZO 2 (.int .u64 hn)).ZO 3 (iV 0)).ZO 4 (iV 0)).ZO 5 (iV 0)).ZO 6 (.bool false)
 have t0:=zq.at0 0 rfl;have t1:=zq.at0 1 rfl;have t2:=zq.at0 2 rfl;have t3:=zq.at0 3 rfl;have t4:=zq.at0 4 rfl;have t5:=zq.at0 5 rfl;have t6:=zq.at0 6 rfl
 exact bodyPost_ret (v:=Xa.v ⟨2,0,hn,0,0,0,false⟩) (by simp[results,Tryz.results41,go_sem,t0,t1,t2,t3,t4,t5,t6]) rfl ⟨rfl,Z7 (Z7 (Z7 (Z7 (Z7 (Z7 (Z7 (grow (Z4 (Below.refl _ _) _) g1) (Nat.le_refl _) _ _) (Nat.le_refl _) _ _) (Nat.le_refl _) _ _) (Nat.le_refl _) _ _) (Nat.le_refl _) _ _) (Nat.le_refl _) _ _) (Nat.le_refl _) _ _⟩
end
section
theorem GZ {w:World} {b:Nat} {ob:Value} {S:Lr} (h:ZH w b ob S) (o:S.ok) (hn:S.nx≠13) (m0:S.nx=7->0<=S.hn/\S.hn<4294967296) (m1:S.nx=8->0<=S.md/\S.md<4294967296) :
 Calls Tryz.prog 41 #[pP b 0] w fun e w'=>e=.returned (Xa.v (S.want false))/\Below w.heap.size w w':=by
 have n0:=o.n0
 have n1:=o.n1
 have hc:S.nx=0\/S.nx=1\/S.nx=2\/S.nx=3\/S.nx=4\/S.nx=5\/S.nx=6\/S.nx=7\/S.nx=8\/S.nx=9\/S.nx=10\/S.nx=11\/S.nx=12:=by omega
 rcases hc with e | e | e | e | e | e | e | e | e | e | e | e | e
 . exact Kw h e
 . exact Kv h e
 . exact Qv h (Or.inl e) o.a0 o.a1 o.l0 o.l1
 . exact Ku h e
 . exact Kt h e
 . exact Kr h e
 . exact Kq h e
 . exact Ko h e (m0 e).1 (m0 e).2
 . exact J9 h e o.a0 o.a1 (m1 e).1 (m1 e).2
 . exact J8 h e
 . exact MM h e o.l0 o.l1
 . exact Qv h (Or.inr e) o.a0 o.a1 o.l0 o.l1
 . exact ML h e
theorem Eo (S:Lr):∃ a1 a2 a3 a4 a5 a6,S.want false=⟨a1,a2,a3,a4,a5,a6,false⟩/\S.want true=⟨a1,a2,a3,a4,a5,a6,true⟩:=by
 unfold Lr.want
 by_cases e0:S.nx=0
 . rw[if_pos e0,if_pos e0];exact⟨_,_,_,_,_,_,rfl,rfl⟩
 rw[if_neg e0,if_neg e0]
 by_cases e1:S.nx=1
 . rw[if_pos e1,if_pos e1];exact⟨_,_,_,_,_,_,rfl,rfl⟩
 rw[if_neg e1,if_neg e1]
 by_cases e2:S.nx=4
 . rw[if_pos e2,if_pos e2];exact⟨_,_,_,_,_,_,rfl,rfl⟩
 rw[if_neg e2,if_neg e2]
 by_cases e3:S.nx=2\/S.nx=11
 . rw[if_pos e3,if_pos e3];exact⟨_,_,_,_,_,_,rfl,rfl⟩
 rw[if_neg e3,if_neg e3]
 by_cases e4:S.nx=3\/S.nx=12
 . rw[if_pos e4,if_pos e4];exact⟨_,_,_,_,_,_,rfl,rfl⟩
 rw[if_neg e4,if_neg e4]
 by_cases e5:S.nx=5
 . rw[if_pos e5,if_pos e5];exact⟨_,_,_,_,_,_,rfl,rfl⟩
 rw[if_neg e5,if_neg e5]
 by_cases e6:S.nx=6
 . rw[if_pos e6,if_pos e6];exact⟨_,_,_,_,_,_,rfl,rfl⟩
 rw[if_neg e6,if_neg e6]
 by_cases e7:S.nx=7
 . rw[if_pos e7,if_pos e7];exact⟨_,_,_,_,_,_,rfl,rfl⟩
 rw[if_neg e7,if_neg e7]
 by_cases e8:S.nx=8
 . rw[if_pos e8,if_pos e8];exact⟨_,_,_,_,_,_,rfl,rfl⟩
 rw[if_neg e8,if_neg e8]
 by_cases e9:S.nx=10
 . rw[if_pos e9,if_pos e9];exact⟨_,_,_,_,_,_,rfl,rfl⟩
 rw[if_neg e9,if_neg e9];exact⟨_,_,_,_,_,_,rfl,rfl⟩
theorem J7 {w:World} {b:Nat} {ob:Value} {S:Lr} (h:ZH w b ob S) (o:S.ok) (hn:S.nx≠13) (m0:S.nx=7->0<=S.hn/\S.hn<4294967296) (m1:S.nx=8->0<=S.md/\S.md<4294967296) (Z:Nat->World->World->Prop)
 (hN:∀ w1,Below w.heap.size w w1->Calls Tryz.prog 37 #[Xa.v (S.want true)] w1 fun e w'=>∃ A,e=.returned (.tuple #[pP A 0,iV 0])/\Z A w1 w') :
 Calls Tryz.prog 32 #[pP b 0] w fun e w'=>∃ A w1,e=.returned (pP A 0)/\Below w.heap.size w w1/\Z A w1 w':=by
 have q:=GZ h o hn m0 m1
 obtain⟨a1,a2,a3,a4,a5,a6,e1,e2⟩:=Eo S
 rw[e1] at q
 rw[e2] at hN
 clear e1 e2 h o hn m0 m1
 go_enter Tryz.func32,Tryz.ntmps32
 go_wp2_with (first
  | (go_at_call 41;refine q.mono ?_;rintro e w1 ⟨rfl,g1⟩)
  | (go_at_call 37;refine(hN _ (Z4 g1 _)).mono ?_;rintro e w2 ⟨A,rfl,z⟩))
 go_ret
 exact⟨A,_,rfl,Z4 g1 _,z⟩
theorem Qu {w:World} {b:Nat} {ob:Value} {S:Lr} (h:ZH w b ob S) (hk:S.kd≠0):Calls Tryz.prog 31 #[pP b 0] w fun e w'=>e=.returned (.bool true)/\w'=w:=by
 obtain⟨kd,ky,hd,nx,an,al,ax,hn,hl,hx,md,cE,cH,cV,cS⟩:=S
 obtain⟨c,h⟩:=h
 replace hk:(kd != 0)=true:=by simpa using hk
 have k0:=h.at0 0 rfl
 go_enter Tryz.func31,Tryz.ntmps31
 go_wp2
 go_ret
 exact⟨rfl,rfl⟩
theorem PD {w:World} {b:Nat} {ob:Value} {S:Lr} (h:ZH w b ob S) (hk:S.kd≠0) (hn:S.nx=13):Calls Tryz.prog 16 #[pP b 0] w fun e w'=>e=.returned (.agg #[iV S.cE,.int .u64 S.cH,iV S.cV,iV S.cS])/\Below w.heap.size w w':=by
 have q:=Qu (h.grown (ZY w (.cells #[iV 0,.int .u64 0,iV 0,iV 0] 37))) hk
 obtain⟨kd,ky,hd,nx,an,al,ax,hn,hl,hx,md,cE,cH,cV,cS⟩:=S
 replace hn:nx=13:=hn
 subst hn
 obtain⟨c,h⟩:=h
 have h1:=h.grown (ZY w (.cells #[iV 0,.int .u64 0,iV 0,iV 0] 37))
 have k3:=h1.at0 3 rfl
 have k12:=h1.at0 12 rfl
 have k13:=h1.at0 13 rfl
 have k14:=h1.at0 14 rfl
 have k15:=h1.at0 15 rfl
 go_enter Tryz.func16,Tryz.ntmps16
 go_wp2_with (go_at_call 31;refine q.mono ?_;rintro e w1 ⟨rfl,rfl⟩)
 exact bodyPost_ret (v:=.agg #[iV cE,.int .u64 cH,iV cV,iV cS]) (by simp[results,Tryz.results16,go_sem]) rfl ⟨rfl,Z4 (Below.refl _ _) _⟩
def Uj (kd ky:Int):Bool:=decide (1<=kd) && decide (kd<=3) && decide (0<=ky) && decide (ky<1073741824)
theorem MK (kd ky:Int) (w:World):Calls Tryz.prog 21 #[iV kd,iV ky] w fun e w'=>e=.returned (.bool (Uj kd ky))/\w'=w:=by
 by_cases h1:(1:Int)<=kd
 . by_cases h2:kd<=3
   . by_cases h3:(0:Int)<=ky
     . by_cases h4:ky<1073741824
       . go_enter Tryz.func21,Tryz.ntmps21
         go_wp2
         go_ret
         exact⟨by simp[Uj,h1,h2,h3,h4],rfl⟩
       . rw[show Uj kd ky=false from by rw[Uj,decide_eq_false h4,Bool.and_false]]
         go_enter Tryz.func21,Tryz.ntmps21
         go_wp2
         go_ret
         exact⟨rfl,rfl⟩
     . rw[show Uj kd ky=false from by rw[Uj,decide_eq_false h3,Bool.and_false,Bool.false_and]]
       go_enter Tryz.func21,Tryz.ntmps21
       go_wp2
       go_ret
       exact⟨rfl,rfl⟩
   . rw[show Uj kd ky=false from by rw[Uj,decide_eq_false h2,Bool.and_false,Bool.false_and,Bool.false_and]]
     go_enter Tryz.func21,Tryz.ntmps21
     go_wp2
     go_ret
     exact⟨rfl,rfl⟩
 . rw[show Uj kd ky=false from by rw[Uj,decide_eq_false h1,Bool.false_and,Bool.false_and,Bool.false_and]]
   go_enter Tryz.func21,Tryz.ntmps21
   go_wp2
   go_ret
   exact⟨rfl,rfl⟩
def zF (kd ky hd:Int):Lr:=⟨kd,ky,hd,0,0,0,0,0,0,0,0,0,0,0,0⟩
theorem MW (kd ky hd:Int) (hm:Uj kd ky=true) (w:World):Calls Tryz.prog 13 #[iV kd,iV ky,.int .u64 hd] w fun e w'=>∃ b,e=.returned (.tuple #[pP b 0,iV 0])/\ZH w' b (.pointer none) (zF kd ky hd)/\Below w.heap.size w w'/\w.heap.size<=b:=by
 have q:=MK kd ky w
 rw[hm] at q
 clear hm
 go_enter Tryz.func13,Tryz.ntmps13
 go_wp2_with (go_at_call 21;refine q.mono ?_;rintro e w1 ⟨rfl,rfl⟩)
 go_ret2
 exact⟨w1.heap.size,rfl,⟨_,At.new w1 90 _⟩,Z4 (Below.refl _ _) _,Nat.le_refl _⟩
end
section
set_option maxRecDepth 20000
def Oq (Z:Bool->World->Prop) (Y:World->Int->Int->Int->Int->Prop) (b:Nat) (S:Lr) (e:Ending) (w':World):Prop:=∃ d w6,Z d w6/\((d=false/\e=.returned (.bool false)/\w'=w6)\/(d=true/\∃ E H V St,Y w6 E H V St/\e=.returned (.bool ((S.go E H V St).nx == 13))/\ZH w' b (.pointer none) (S.go E H V St)/\Only (B1 b) w6 w'))
set_option maxRecDepth 20000 in
theorem GY {w:World} {b A P:Nat} {S:Lr} (c0 c1 c2 c3 c4 c5 c6 who:Int) (h:ZH w b (pP A 0) S) (hk:S.kd≠0) (hne:S.nx≠13) (Z:Bool->World->Prop) (Y:World->Int->Int->Int->Int->Prop)
 (hS:∀ w1,Below w.heap.size w w1->Calls Tryz.prog 33 #[pP A 0,eV c0 c1 c2 c3 c4 c5 c6 P who] w1 fun e w'=>∃ d,e=.returned (.bool d)/\ZH w' b (pP A 0) S/\Z d w')
 (hD:∀ w6,Z true w6->∀ w1,Below w6.heap.size w6 w1->Calls Tryz.prog 34 #[pP A 0] w1 fun e w'=>∃ E H V St,e=.returned (.agg #[iV E,.int .u64 H,iV V,iV St])/\Below w1.heap.size w1 w'/\Y w6 E H V St)
 (hO:∀ E H V St w6,Z true w6->Y w6 E H V St->∀ w1,ZH w1 b (.pointer none) S->Calls Tryz.prog 35 #[pP b 0,.agg #[iV E,.int .u64 H,iV V,iV St]] w1 fun e w'=>e=.returned (.tuple #[])/\ZH w' b (.pointer none) (S.go E H V St)/\Only (B1 b) w1 w') :
 Calls Tryz.prog 15 #[pP b 0,eV c0 c1 c2 c3 c4 c5 c6 P who] w fun e w'=>Oq Z Y b S e w':=by
 have qa:=Qu (h.grown (ZY w (.cells #[iV c0,iV c1,iV c2,iV c3,iV c4,iV c5,iV c6,pP P 0,iV who] 27))) hk
 obtain⟨kd,ky,hd,nx,an,al,ax,hn,hl,hx,md,cE,cH,cV,cS⟩:=S
 replace hne:(nx == 13)=false:=by simpa using hne
 clear hk
 obtain⟨c,h⟩:=h
 replace h:At w b 0 90 c [iV kd,iV ky,.int .u64 hd,iV nx,pP A 0,.int .u64 an,iV al,iV ax,.int .u64 hn,iV hl,iV hx,.int .u64 md,iV cE,.int .u64 cH,iV cV,iV cS]:=h
 have h1:=h.grown (ZY w (.cells #[iV c0,iV c1,iV c2,iV c3,iV c4,iV c5,iV c6,pP P 0,iV who] 27))
 have k3:=h1.at0 3 rfl
 have k4:=h1.at0 4 rfl
 go_enter Tryz.func15,Tryz.ntmps15
 go_wp2_with (go_at_call 31;refine qa.mono ?_;rintro e w1 ⟨rfl,rfl⟩)
 refine ZR (fun W=>At W b 0 90 c [iV kd,iV ky,.int .u64 hd,iV nx,pP A 0,.int .u64 an,iV al,iV ax,.int .u64 hn,iV hl,iV hx,.int .u64 md,iV cE,.int .u64 cH,iV cV,iV cS]/\Below w.heap.size w W/\ZM W w.heap.size c0 c1 c2 c3 c4 c5 c6 P who) ⟨h1,ZY _ _,ZM.new⟩ ?_
 rintro W ⟨hW,bW,vW⟩
 clear k3 k4 qa
 apply WV 5;. kernel_rfl
 iterate 3 (apply rV;. intros;apply ol;go_simp;exact gl)
 apply rV;. intro w' hg _;apply ol;have hw:=hW.drew.grown hg;have y4:=hw.at0 4 rfl;go_simp;exact gl
 apply XC;. intro w' hg _;apply ol;obtain⟨y0,y1,y2,y3,y4,y5,y6,y7,y8⟩:=(vW.grown ((Below.refl _ _).drew)).grown hg;go_simp;exact gl
 try simp only[pu,s0,s1]
 intro w5 hg _
 have b5:Below w.heap.size w w5:=grow (grow bW ((Below.refl _ _).drew)) hg
 go_wp2_with (go_at_call 33;refine(hS _ b5).mono ?_;rintro e w6 ⟨d,rfl,⟨jG,h6⟩,hz⟩;have k3:=h6.at0 3 rfl;have k4:=h6.at0 4 rfl;have kf:=h6.fz;cases d)
 . go_ret
   exact⟨false,w6,hz,Or.inl ⟨rfl,rfl,rfl⟩⟩
 . have hD6:=hD w6 hz w6 (Below.refl _ _)
   go_wp2_with (go_at_call 34;refine hD6.mono ?_;rintro e w7 ⟨E,H,V,St,rfl,g7,ht⟩;have h7:=(h6.grown g7).grown (ZY w7 (.cells #[iV E,.int .u64 H,iV V,iV St] 37));have r4:=h7.at0 4 rfl;have rf:=h7.fz)
   have h8:=h7.ZO 4 (.pointer none)
   have hG:=hO E H V St w6 hz ht _ ⟨_,h8⟩
   go_wp2_with (go_at_call 35;refine hG.mono ?_;rintro e w9 ⟨rfl,q9,o9⟩;obtain⟨c9,h9⟩:=q9;have r3:=h9.at0 3 rfl)
   go_ret
   exact⟨true,w6,hz,Or.inr ⟨rfl,E,H,V,St,ht,rfl,⟨c9,h9⟩,(Zx ((Only.ZZ g7).trans (Only.ZZ (ZY _ _))) _ _).trans o9⟩⟩
set_option maxRecDepth 20000 in
theorem GX {w:World} {b P:Nat} {S:Lr} (c0 c1 c2 c3 c4 c5 c6 who:Int) (h:ZH w b (.pointer none) S) (hk:S.kd≠0) (hne:S.nx≠13) (X:Nat->World->Prop) (Z:Nat->World->Bool->World->Prop) (Y:Nat->World->World->Int->Int->Int->Int->Prop)
 (hB:∀ w1,Below w.heap.size w w1->Calls Tryz.prog 32 #[pP b 0] w1 fun e w'=>∃ A,e=.returned (pP A 0)/\Below w1.heap.size w1 w'/\X A w')
 (hX:∀ A w2,X A w2 ->
 (∀ w1,Below (w2.setCell ⟨b,4,none⟩ (pP A 0)).heap.size (w2.setCell ⟨b,4,none⟩ (pP A 0)) w1->Calls Tryz.prog 33 #[pP A 0,eV c0 c1 c2 c3 c4 c5 c6 P who] w1 fun e w'=>∃ d,e=.returned (.bool d)/\ZH w' b (pP A 0) S/\Z A w2 d w')
/\(∀ w6,Z A w2 true w6->∀ w1,Below w6.heap.size w6 w1->Calls Tryz.prog 34 #[pP A 0] w1 fun e w'=>∃ E H V St,e=.returned (.agg #[iV E,.int .u64 H,iV V,iV St])/\Below w1.heap.size w1 w'/\Y A w2 w6 E H V St)
/\(∀ E H V St w6,Z A w2 true w6->Y A w2 w6 E H V St->∀ w1,ZH w1 b (.pointer none) S->Calls Tryz.prog 35 #[pP b 0,.agg #[iV E,.int .u64 H,iV V,iV St]] w1 fun e w'=>e=.returned (.tuple #[])/\ZH w' b (.pointer none) (S.go E H V St)/\Only (B1 b) w1 w')) :
 Calls Tryz.prog 15 #[pP b 0,eV c0 c1 c2 c3 c4 c5 c6 P who] w fun e w'=>∃ A w2,X A w2/\Oq (Z A w2) (Y A w2) b S e w':=by
 have qa:=Qu (h.grown (ZY w (.cells #[iV c0,iV c1,iV c2,iV c3,iV c4,iV c5,iV c6,pP P 0,iV who] 27))) hk
 obtain⟨kd,ky,hd,nx,an,al,ax,hn,hl,hx,md,cE,cH,cV,cS⟩:=S
 replace hne:(nx == 13)=false:=by simpa using hne
 clear hk
 obtain⟨c,h⟩:=h
 replace h:At w b 0 90 c [iV kd,iV ky,.int .u64 hd,iV nx,.pointer none,.int .u64 an,iV al,iV ax,.int .u64 hn,iV hl,iV hx,.int .u64 md,iV cE,.int .u64 cH,iV cV,iV cS]:=h
 have h1:=h.grown (ZY w (.cells #[iV c0,iV c1,iV c2,iV c3,iV c4,iV c5,iV c6,pP P 0,iV who] 27))
 have k3:=h1.at0 3 rfl
 have k4:=h1.at0 4 rfl
 go_enter Tryz.func15,Tryz.ntmps15
 go_wp2_with (first
  | (go_at_call 31;refine qa.mono ?_;rintro e w1 ⟨rfl,rfl⟩)
  | (go_at_call 32;refine(hB _ (ZY _ _)).mono ?_;rintro e w2 ⟨A,rfl,g2,x2⟩;have h2:=h1.grown g2;have z4:=h2.at0 4 rfl;have zf:=h2.fz;have v2:=(ZM.new (w:=w) (P:=P) (c0:=c0) (c1:=c1) (c2:=c2) (c3:=c3) (c4:=c4) (c5:=c5) (c6:=c6) (who:=who)).grown g2))
 obtain⟨hS,hD,hO⟩:=hX A w2 x2
 have hbw:=h.lt
 refine ZR (fun W=>W=w2.setCell ⟨b,4,none⟩ (pP A 0)/\At W b 0 90 (c.setIfInBounds 4 (pP A 0)) [iV kd,iV ky,.int .u64 hd,iV nx,pP A 0,.int .u64 an,iV al,iV ax,.int .u64 hn,iV hl,iV hx,.int .u64 md,iV cE,.int .u64 cH,iV cV,iV cS]/\ZM W w.heap.size c0 c1 c2 c3 c4 c5 c6 P who) ⟨rfl,h2.ZO 4 _,v2.ZX (by omega) _ _⟩ ?_
 rintro W ⟨eW,hW,vW⟩
 clear k3 k4 qa z4 zf
 apply WV 5;. kernel_rfl
 iterate 3 (apply rV;. intros;apply ol;go_simp;exact gl)
 apply rV;. intro w' hg _;apply ol;have hw:=hW.drew.grown hg;have y4:=hw.at0 4 rfl;go_simp;exact gl
 apply XC;. intro w' hg _;apply ol;obtain⟨y0,y1,y2,y3,y4,y5,y6,y7,y8⟩:=(vW.grown ((Below.refl _ _).drew)).grown hg;go_simp;exact gl
 try simp only[pu,s0,s1]
 intro w5 hg _
 have b5:Below (w2.setCell ⟨b,4,none⟩ (pP A 0)).heap.size (w2.setCell ⟨b,4,none⟩ (pP A 0)) w5:=by rw[<- eW];exact grow ((Below.refl _ _).drew) hg
 go_wp2_with (go_at_call 33;refine(hS _ b5).mono ?_;rintro e w6 ⟨d,rfl,⟨jG,h6⟩,hz⟩;have k3:=h6.at0 3 rfl;have k4:=h6.at0 4 rfl;have kf:=h6.fz;cases d)
 . go_ret
   exact⟨A,w2,x2,false,w6,hz,Or.inl ⟨rfl,rfl,rfl⟩⟩
 . have hD6:=hD w6 hz w6 (Below.refl _ _)
   go_wp2_with (go_at_call 34;refine hD6.mono ?_;rintro e w7 ⟨E,H,V,St,rfl,g7,ht⟩;have h7:=(h6.grown g7).grown (ZY w7 (.cells #[iV E,.int .u64 H,iV V,iV St] 37));have r4:=h7.at0 4 rfl;have rf:=h7.fz)
   have h8:=h7.ZO 4 (.pointer none)
   have hG:=hO E H V St w6 hz ht _ ⟨_,h8⟩
   go_wp2_with (go_at_call 35;refine hG.mono ?_;rintro e w9 ⟨rfl,q9,o9⟩;obtain⟨c9,h9⟩:=q9;have r3:=h9.at0 3 rfl)
   go_ret
   exact⟨A,w2,x2,true,w6,hz,Or.inr ⟨rfl,E,H,V,St,ht,rfl,⟨c9,h9⟩,(Zx ((Only.ZZ g7).trans (Only.ZZ (ZY _ _))) _ _).trans o9⟩⟩
end
section
structure Rn where
 B:Bk
 d:Dw
 s0:Nat
def nJ:Option Rn->Value
 | none=>.pointer none
 | some a=>(pP a.B.A 0)
def UC (b:Nat) (a:Option Rn) (x:Nat):Prop:=x=b\/∃ R,a=some R/\R.B.has x
structure Cal (t n k m:Nat) (w:World) (L:Loc) (σ:Nat) (q:Q) (pn:Nat->Int) (h:Gh) (hd K:Nat) (bj:Jb) (C:Cl) (r:Option Rs) (S:Lr) (b:Nat) (a:Option Rn) (ph:Nat):Prop where
 lr:ZH w b (nJ a) S
 ok:S.ok
 is:XL h hd C r S
 bd:C.bd h.J hd
 nb:¬ L.has b
 pk:pn K=if ph<=1 then 0 else 1
 p4:ph<=4
 no:a=none->ph=0/\r=none/\bj=C.YF h hd
 th:∀ R,a=some R->Yr t n k m w L R.B R.s0 ⟨σ,q,pn,ph,R.d⟩/\Oo h bj r ph R.d/\¬ R.B.has b/\R.d.c=C.po.c
section
variable {t n k m σ K:Nat} {q:Q} {h:Gh} {jb:Nat->Jb} {hd:Nat} {F:List Nat} {u:Hi} {ts:Nat->Option (Cl × Option Rs)} {g p r:Int} {C C':Cl} {rs:Option Rs} {R:Rs} {S:Lr} {w:World} {L:Loc} {s:Mm} {pn:Nat->Int} {b ph:Nat} {a:Option Rn}
theorem Rt.bd (X:Lc t n k m q σ h jb hd F u ts) (G:Rt h hd σ u K C C' R):C'.bd h.J hd:=by
 refine⟨X.l.pJ hd (X.l.l.pb hd (by obtain⟨D,e⟩:=X.l.l.hf;rw[e];exact List.mem_cons_self)),fun d e=>(G.my d e).1.dJ,?_⟩
 have kn:=G.kn
 revert kn
 cases C'.po with
 | first=>exact fun _=>trivial
 | link=>exact fun a=>⟨X.l.pJ _ a.1.pp,a.2.dJ⟩
 | past=>exact fun a=>⟨X.l.pJ _ a.1.pp,a.2.1.dJ⟩
 | drop=>exact fun a=>⟨X.l.pJ _ a.1.pp,a.2.1.dJ⟩
 | key=>exact fun a=>⟨X.l.pJ _ a.1.pp,a.2.1.dJ⟩
 | make=>exact fun a=>⟨X.l.pJ _ a.1.pp,X.l.pJ _ a.1.pp⟩
 | wkey=>exact fun a=>⟨X.l.pJ _ a.1.pp,a.2.2.dJ⟩
 | Y3=>exact fun a=>⟨X.l.pJ _ a.1.pp,a.2.2.1.dJ⟩
 | put=>exact fun a=>⟨X.l.pJ _ a.1.pp,a.2.2.1.dJ⟩
 | mark=>exact fun a=>⟨X.l.pJ _ a.1,a.2.1.dJ⟩
 | lead=>exact fun a=>⟨X.l.pJ _ a.1,a.2.1.dJ⟩
 | Zz=>exact fun a=>⟨a.1.dJ,a.1.dJ⟩
 | Zu=>exact fun a=>⟨a.1,a.1⟩
 | over=>exact fun _=>trivial
theorem Lc.next (X:Lc t n k m q σ h jb hd F u ts) (hG:Good t n k m g p r) (hn:n<=65535) (hJ:h.J<=60000) (hK4:K<4) (hts:ts K=some (C,some R)) (N:C'.kd=C.kd/\C'.k=C.k/\C'.b=C.b) (ho:∀ E v st,C'.po≠.over E v st) (G:Rt h hd σ u K C C' R):Lc t n k m q σ h (upd jb K (C'.YF h hd)) hd F u (upd ts K (some (C',none))):=by
 have T:=X.t K C _ hts
 have hnil:=(T.told R rfl).1
 obtain⟨e1,e2,e3⟩:=N
 have k0:=T.k0
 have k1:=T.k1
 have kn:=G.kn
 have iR:=G.my
 have hk:=G.kd
 have iQ:=G.dp
 have lD:=G.dr
 have hhd:h.ZL hd=true:=X.l.l.pb hd (by obtain⟨D,e⟩:=X.l.l.hf;rw[e];exact List.mem_cons_self)
 have bd:∀ {j},j<h.J->0<=h.H j/\h.H j<4294967296:=fun {j} hj=>by have b:=MI X.m.g hG hn hJ hj;exact⟨Int.le_of_lt b.1,b.2⟩
 have v0:Val 0:=⟨by decide,by decide⟩
 have key:∀ b',C'.YF h hd=b'->Yb h hd C'.k C'.po b'->J5 h hd σ u C'.b b'->Ve t n k m q σ h K b'->b'.g=0->(∀ j α,b'=.dp j α->h.ZL j=true/\u.dr j=some K\/h.ZL j=false/\h.ma j=K)->Lc t n k m q σ h (upd jb K (C'.YF h hd)) hd F u (upd ts K (some (C',none))):=fun b' e ji jk ok g0 d'=>by
  rw[e]
  exact X.begin hK4 hnil (T.next e1 e2 e3 iR hk kn ji jk) ok g0 d'
 cases hpo:C'.po with
 | first =>
  exact key (.ac ⟨1,h.H hd,1,0,0⟩ hd .see) (by unfold Cl.YF;rw[hpo]) (by rw[hpo];exact⟨_,_,rfl,rfl,rfl⟩) trivial (X.RG hG hn hJ hhd rfl (Or.inr rfl) v0 (Or.inl rfl)) rfl (fun j α e=>by cases e)
 | link a s c =>
  rw[hpo] at kn
  exact key (.ac ⟨1,h.H c,1,0,0⟩ c .see) (by unfold Cl.YF;rw[hpo]) (by rw[hpo];exact⟨_,_,rfl,rfl,rfl⟩) trivial (X.RG hG hn hJ kn.2.pu rfl (Or.inr rfl) v0 (Or.inl rfl)) rfl (fun j α e=>by cases e)
 | past a s c nx =>
  rw[hpo] at kn
  obtain⟨A,N,Gn⟩:=kn
  obtain⟨c3,c4⟩:=bd N.dJ
  exact key (.ac ⟨3,h.H a,1,nx,h.H c⟩ a .see) (by unfold Cl.YF;rw[hpo]) (by rw[hpo];exact⟨_,_,rfl,rfl,rfl,rfl,rfl⟩) trivial (X.RG hG hn hJ A.pp rfl (Or.inr rfl) ⟨Gn.2.1,Ya Gn.2.2⟩ (Or.inr ⟨rfl,rfl,c3,c4⟩)) rfl (fun j α e=>by cases e)
 | drop a s c nx =>
  rw[hpo] at kn
  obtain⟨A,N,⟨nx',Gn⟩,hdr⟩:=kn
  exact key (.dp c .see) (by unfold Cl.YF;rw[hpo]) (by rw[hpo];exact⟨_,rfl⟩) trivial (Lc.zx N Gn (lD.1 _ _ _ _ hpo)) rfl (fun j α e=>by injection e with e;rw[<- e];exact Or.inl ⟨N.pu,hdr⟩)
 | key a s c nx s2 =>
  rw[hpo] at kn
  exact key (.ac ⟨1,h.H c,0,0,0⟩ c .see) (by unfold Cl.YF;rw[hpo]) (by rw[hpo];exact⟨_,_,rfl,rfl,rfl⟩) trivial (X.RG hG hn hJ kn.2.1.pu rfl (Or.inl rfl) v0 (Or.inl rfl)) rfl (fun j α e=>by cases e)
 | make a s nx =>
  exact key (.al 0 (.take .idle)) (by unfold Cl.YF;rw[hpo]) (by rw[hpo];exact⟨_,_,rfl⟩) trivial Lc.sO rfl (fun j α e=>by cases e)
 | wkey a s nx d =>
  rw[hpo] at kn
  exact key (.ac ⟨2,h.H d,0,C'.k,0⟩ d .see) (by unfold Cl.YF;rw[hpo]) (by rw[hpo];exact⟨_,_,rfl,rfl,rfl,rfl⟩) trivial (X.DZ hG hn hJ kn.2.2 rfl (Or.inl rfl) ⟨by rw[e2];exact k0,by rw[e2];exact Ec k1⟩ rfl) rfl (fun j α e=>by cases e)
 | Y3 a s nx d =>
  rw[hpo] at kn
  exact key (.ac ⟨2,h.H d,1,nx,0⟩ d .see) (by unfold Cl.YF;rw[hpo]) (by rw[hpo];exact⟨_,_,rfl,rfl,rfl,rfl⟩) trivial (X.DZ hG hn hJ kn.2.2.1 rfl (Or.inr rfl) ⟨kn.1.Uz.1,Ya kn.1.Uz.2.1⟩ rfl) rfl (fun j α e=>by cases e)
 | put a s nx d =>
  rw[hpo] at kn
  obtain⟨d3,d4⟩:=bd kn.2.2.1.dJ
  exact key (.ac ⟨3,h.H a,1,h.H d,nx⟩ a .see) (by unfold Cl.YF;rw[hpo]) (by rw[hpo];exact⟨_,_,rfl,rfl,rfl,rfl,rfl⟩) trivial (X.RG hG hn hJ kn.1.pp rfl (Or.inr rfl) ⟨d3,Ya d4⟩ (Or.inr ⟨rfl,rfl,kn.1.Uz.1,kn.1.Uz.2.1⟩)) rfl (fun j α e=>by cases e)
 | mark a s c nx s2 =>
  rw[hpo] at kn
  obtain⟨A,N,-,n0,n1,-⟩:=kn
  exact key (.ac ⟨3,h.H c,1,nx+4294967296,nx⟩ c .see) (by unfold Cl.YF;rw[hpo]) (by rw[hpo];exact⟨_,_,rfl,rfl,rfl,rfl,rfl⟩) trivial (X.RG hG hn hJ N.pu rfl (Or.inr rfl) ⟨(by show 0<=nx+4294967296;exact Int.add_nonneg n0 (by decide)),xx n1⟩ (Or.inr ⟨rfl,rfl,n0,n1⟩)) rfl (fun j α e=>by cases e)
 | lead a c nx st =>
  rw[hpo] at kn
  obtain⟨A,N,Gn,-⟩:=kn
  obtain⟨c3,c4⟩:=bd N.dJ
  exact key (.ac ⟨3,h.H a,1,nx,h.H c⟩ a .see) (by unfold Cl.YF;rw[hpo]) (by rw[hpo];exact⟨_,_,rfl,rfl,rfl,rfl,rfl⟩) trivial (X.RG hG hn hJ A rfl (Or.inr rfl) ⟨Gn.2.1,Ya Gn.2.2⟩ (Or.inr ⟨rfl,rfl,c3,c4⟩)) rfl (fun j α e=>by cases e)
 | Zz c st =>
  rw[hpo] at kn
  obtain⟨N,⟨nx,Gn⟩,hdr,-⟩:=kn
  exact key (.dp c .see) (by unfold Cl.YF;rw[hpo]) (by rw[hpo];exact⟨_,rfl⟩) trivial (Lc.zx N Gn (lD.2 _ _ hpo)) rfl (fun j α e=>by injection e with e;rw[<- e];exact Or.inl ⟨N.pu,hdr⟩)
 | Zu d v st =>
  rw[hpo] at kn
  obtain⟨d3,iP⟩:=iQ d v st hpo
  exact key (.dp d .see) (by unfold Cl.YF;rw[hpo]) (by rw[hpo];exact⟨_,rfl⟩) trivial (Lc.xm (hd:=hd) ⟨kn.1,kn.2.1,kn.2.2.1,d3,iP⟩) rfl (fun j α e=>by injection e with e;rw[<- e];exact Or.inr ⟨kn.2.1,kn.2.2.1⟩)
 | over E v st=>exact absurd hpo (ho E v st)
theorem WS.AQ (a:WS h hd σ u K C C.po R) (I:XL h hd C (some R) S) (hc:S.nx=0\/S.nx=1) (hE:R.E=0):0<=R.V/\R.V<8589934592:=by
 have key:∀ {j},Rd h hd σ u C.b j 1 R.V R.St->0<=R.V/\R.V<8589934592:=fun x=>by
  obtain⟨-,-,-,-,x5⟩:=x
  by_cases hs:R.V<4294967296
  . have:=((x5 rfl).1 hs).1
    exact⟨this.1,by omega⟩
  . have:=((x5 rfl).2 (by omega)).2
    constructor <;> omega
 have ip:=I.po
 revert a ip
 cases C.po with
 | first=>exact fun a _=>key a.2.2
 | link=>exact fun a _=>key (a hE).2.2
 | past=>intro _ ip;have:=ip.1;omega
 | drop=>intro _ ip;have:=ip.1;omega
 | key=>intro _ ip;have:=ip.1;omega
 | make=>intro _ ip;have:=ip.1;omega
 | wkey=>intro _ ip;have:=ip.1;omega
 | Y3=>intro _ ip;have:=ip.1;omega
 | put=>intro _ ip;have:=ip.1;omega
 | mark=>intro _ ip;have:=ip.1;omega
 | lead=>intro _ ip;have:=ip.1;omega
 | Zz=>intro _ ip;have:=ip.1;omega
 | Zu=>intro _ ip;have:=ip.1;omega
 | over=>exact fun a=>a.elim
end
end
section
section
variable {t n k m σ K:Nat} {q q':Q} {h h':Gh} {jb:Nat->Jb} {hd:Nat} {F F':List Nat} {u u':Hi} {ts:Nat->Option (Cl × Option Rs)} {cg p r:Int} {C C':Cl} {R:Rs} {S:Lr} {rs rs':Option Rs} {b':Jb} {pb:Bool}
theorem UR.DW {ZL:Nat->Bool} {ky lk H:Nat->Int} {p c:Nat} (S:UR ZL ky lk H hd F) (hp:ZL p=true) (hc:ZL c=true) (hl:lk p=H c):c∈F:=by
 obtain⟨A,B,e,-,h2⟩:=S.at hp (by rw[hl];exact(S.h0 c hc).2)
 obtain⟨B',rfl⟩:=h2 c hc hl
 rw[e];simp
theorem Lc.Pv (X:Lc t n k m q σ h jb hd F u ts) (N:FT h hd C R C' C.po) (ho:∀ E v st,C'.po≠.over E v st) (G:Rt h hd σ u K C C' R) (x:C9 h hd C.po R) (hts:ts K=some (C,some R)):QC h C'.po/\MV k m q h (C'.YF h hd)/\Wh (2 * k+110) F C'.po+(4+YA k m q (C'.YF h hd))<=KD (2 * k+110) F C.po:=by
 have L:=X.l.l
 have f3:=X.l.f3
 have TK:∀ {j},j∈F->h.st j<=4:=fun hj=>by rw[f3 _ hj];decide
 have kn:=G.kn
 have hF:1<=F.length:=by obtain⟨D,e⟩:=L.hf;rw[e];simp
 have hh:=L.xP
 -- a node stands there
 have JO:∀ {a s c} {z:Nat},C'=C.at_ (.link a s c)->h.lk a=h.H c->60 * Rh F a+2 * k+110<=z->QC h C'.po/\MV k m q h (C'.YF h hd)/\Wh (2 * k+110) F C'.po+(4+YA k m q (C'.YF h hd))<=z:=fun {a s c z} e hl hz=>by
  rw[e] at kn ⊢
  have kn:Ahead h hd σ u C.k C.b a s (h.H c)/\Node h hd c:=kn
  refine⟨hl,TK (L.DW kn.1.pp kn.2.pu hl),?_⟩
  show 60 * Rh F a+(2 * k+110) - 9+(4+5)<=z
  omega
 have Og:∀ {a s nx} {z:Nat},PW h hd C a s nx C'->(∀ E v st,C'.po≠.over E v st)->h.lk a=nx->2 * k+102<=z->QC h C'.po/\MV k m q h (C'.YF h hd)/\Wh (2 * k+110) F C'.po+(4+YA k m q (C'.YF h hd))<=z:=fun {a s nx z} M ho hl hz=>by
  rcases M.2 with⟨-,e⟩ | ⟨-,-,e⟩ | ⟨d,-,-,e⟩
  . rw[e] at ho;exact absurd rfl (ho _ _ _)
  . rw[e]
    refine⟨hl,trivial,?_⟩
    show 70+(4+(2 * k+28))<=z
    omega
  . rw[e] at kn ⊢
    have kn:_/\_/\Own h hd K d/\_:=kn
    refine⟨hl,(by show h.st d<=4;rw[kn.2.2.1.st];decide),?_⟩
    show 50+(4+5)<=z
    omega
 cases hpo:C.po with
 | first =>
  rw[hpo] at N x
  have x:h.lk hd=R.V:=x
  have hz:60 * Rh F hd+2 * k+110<=KD (2 * k+110) F .first/\2 * k+102<=KD (2 * k+110) F .first:=by
   show _<=60 * F.length+(2 * k+110)+1/\_<=60 * F.length+(2 * k+110)+1
   omega
  rcases N.2 with⟨-,M⟩ | ⟨c,e1,-,e⟩
  . exact Og M ho x hz.2
  . exact JO e (by rw[x];exact e1) hz.1
 | link a s c =>
  rw[hpo] at N x
  have x:R.E=0/\h.lk a=h.H c/\h.lk c=R.V:=x
  have hb:KD (2 * k+110) F (.link a s c)=60 * Rh F a+(2 * k+110) - 9:=rfl
  rw[hb]
  rcases N with⟨eE,e⟩ | ⟨eE,hv,e⟩ | ⟨eE,hv,e⟩
  . exact absurd x.1 eE
  . rw[e] at kn ⊢
    have kn:Ahead h hd σ u C.k C.b a s (h.H c)/\Node h hd c/\_:=kn
    refine⟨x.2.1,TK (L.mem kn.1.pp (by rw[x.2.1];exact(L.h0 c kn.2.1.pu).2)),?_⟩
    show 60 * Rh F a+(2 * k+110) - 29+(4+5)<=_
    omega
  . rw[e] at kn ⊢
    have kn:Ahead h hd σ u C.k C.b a s (h.H c)/\Node h hd c/\_:=kn
    refine⟨x.2,TK (L.DW kn.1.pp kn.2.1.pu x.2.1),?_⟩
    show 60 * Rh F a+(2 * k+110) - 29+(4+5)<=_
    omega
 | past a s c nx =>
  rw[hpo] at N x
  have x:R.E=0/\h.lk a=nx:=x
  rcases N with⟨eE,e⟩ | ⟨eE,e⟩
  . exact absurd x.1 eE
  . rw[e]
    refine⟨x.2,trivial,?_⟩
    show 60 * Rh F a+(2 * k+110)+1+(4+14)<=60 * Rh F a+(2 * k+110)+19
    omega
 | drop a s c nx =>
  rw[hpo] at N x
  have x:h.lk a=nx:=x
  have hb:KD (2 * k+110) F (.drop a s c nx)=60 * Rh F a+(2 * k+110)+1:=rfl
  rw[hb]
  rcases N with⟨-,M⟩ | ⟨c',e1,-,e⟩
  . exact Og M ho x (by omega)
  . exact JO e (by rw[x];exact e1) (by omega)
 | key a s c nx s2 =>
  rw[hpo] at N x
  have x:R.E=0/\h.lk a=h.H c/\h.lk c=nx:=x
  have hb:KD (2 * k+110) F (.key a s c nx s2)=60 * Rh F a+(2 * k+110) - 29:=rfl
  rw[hb]
  have rk:=((X.t K C _ hts).told R rfl).2
  rw[hpo] at rk
  obtain⟨⟨A,N1,nk,-⟩,-⟩:=rk x.1
  have bn:=L.Ey A.pp N1.pu x.2.1
  rcases N with⟨eE,e⟩ | ⟨eE,hv,M⟩ | ⟨eE,hv,M⟩ | ⟨eE,hv,⟨k3,e⟩ | ⟨k1,e⟩ | ⟨k2,m0,e⟩ | ⟨d,k2,m0,e⟩⟩
  . exact absurd x.1 eE
  . rcases M with⟨-,M⟩ | ⟨c',e1,-,e⟩
    . exact Og M ho x.2.2 (by omega)
    . exact JO e (by rw[x.2.2];exact e1) (by omega)
  . exact Og M ho x.2.1 (by omega)
  . rw[e]
    refine⟨x.2,TK (L.DW A.pp N1.pu x.2.1),?_⟩
    show 60+(4+5)<=_
    omega
  . rw[e] at ho;exact absurd rfl (ho _ _ _)
  . rw[e] at ho;exact absurd rfl (ho _ _ _)
  . rw[e]
    refine⟨trivial,trivial,?_⟩
    show 1+(4+14)<=_
    omega
 | make a s nx =>
  rw[hpo] at N x
  have x:(R.E=0\/R.E=7)/\h.lk a=nx:=x
  rcases N with⟨eE,e⟩ | ⟨eE,d,dJ,hv,e⟩
  . rw[e] at ho;exact absurd rfl (ho _ _ _)
  . rw[e] at kn ⊢
    have kn:_/\_/\Own h hd K d:=kn
    refine⟨x.2,(by show h.st d<=4;rw[kn.2.2.st];decide),?_⟩
    show 60+(4+5)<=70
    decide
 | wkey a s nx d =>
  rw[hpo] at N x
  rw[show C'=_ from N] at kn ⊢
  have kn:_/\_/\Own h hd K d/\_:=kn
  refine⟨x,(by show h.st d<=4;rw[kn.2.2.1.st];decide),?_⟩
  show 50+(4+5)<=60
  decide
 | Y3 a s nx d =>
  rw[hpo] at N x
  rw[show C'=_ from N] at kn ⊢
  have kn:Ahead h hd σ u C.k C.b a s nx/\_/\Own h hd K d/\_:=kn
  have x:h.lk a=nx:=x
  refine⟨x,TK (L.mem kn.1.pp (by rw[x];exact kn.1.Uz.2.1)),?_⟩
  show 40+(4+5)<=50
  decide
 | put a s nx d =>
  rw[hpo] at N x
  have x:R.E=0:=x
  rcases N with⟨eE,e⟩ | ⟨eE,e⟩
  . exact absurd x eE
  . rw[e] at ho;exact absurd rfl (ho _ _ _)
 | mark a s c nx s2 =>
  rw[hpo] at N x
  have x:R.E=0/\h.lk a=h.H c:=x
  rcases N with⟨eE,e⟩ | ⟨eE,e⟩
  . exact absurd x.1 eE
  . rw[e] at kn ⊢
    have kn:h.ZL a=true/\Node h hd c/\_:=kn
    refine⟨x.2,TK (L.mem kn.1 (by rw[x.2];exact(L.h0 c kn.2.1.pu).2)),?_⟩
    show 50+(4+5)<=60
    decide
 | lead a c nx st =>
  rw[hpo] at N x
  rcases N with⟨eE,e⟩ | ⟨eE,e⟩
  . exact absurd x eE
  . rw[e]
    refine⟨trivial,trivial,?_⟩
    show 30+(4+14)<=50
    decide
 | Zz c st =>
  rw[hpo] at N
  rw[show C'=_ from N] at ho;exact absurd rfl (ho _ _ _)
 | Zu d v st =>
  rw[hpo] at N
  rw[show C'=_ from N] at ho;exact absurd rfl (ho _ _ _)
 | over=>rw[hpo] at N;exact N.elim
end
end
section
theorem Qn {W:Wt} {own:Bool} {x G σ:Nat} {q q':Q} {α α':Ac} (ht:Za W own x G σ q α=(q',α')):q'.y=q.y:=by
 cases α with
 | lay v c =>
  simp only[Za] at ht
  split at ht <;> (obtain⟨rfl,-⟩:=Prod.mk.inj ht;rfl)
 | stop v =>
  simp only[Za] at ht
  obtain⟨h1,-⟩:=Prod.mk.inj ht
  rw[<- h1]
  split <;> rfl
 | _ =>
  simp only[Za] at ht
  obtain⟨rfl,-⟩:=Prod.mk.inj ht
  rfl
theorem Mc {cg:Int} {x:Nat} {q:Q} {η:Hp}:(Zp cg x q η).1.y=q.y:=by
 have he:∀ v,(VF cg x q v).1.y=q.y:=fun v=>by unfold VF;split <;> rfl
 cases η with
 | over w=>rfl
 | go v Z j u =>
  cases u with
  | none =>
   simp only[Zp]
   split
   . exact he v
   . split <;> rfl
  | some u =>
   simp only[Zp]
   split
   . exact he v
   . split <;> rfl
theorem MF {t n k m:Nat} {cg:Int} {own:Bool} {x G:Nat} {q q':Q} {α α':Dp} (ht:ZP t n k m cg own x G q α=(q',α')):q'.y=q.y:=by
 cases α with
 | mark v Z =>
  simp only[ZP] at ht
  split at ht <;> (obtain⟨rfl,-⟩:=Prod.mk.inj ht;rfl)
 | VW η =>
  have h:=Mc (cg:=cg) (x:=x) (q:=q) (η:=η)
  simp only[ZP] at ht
  generalize Zp cg x q η=z at h ht
  obtain⟨q1,η1⟩:=z
  cases η1 <;> (obtain⟨rfl,-⟩:=Prod.mk.inj ht;exact h)
 | fin Z i η =>
  have h:=Mc (cg:=cg) (x:=x) (q:=q) (η:=η)
  simp only[ZP] at ht
  generalize Zp cg x q η=z at h ht
  obtain⟨q1,η1⟩:=z
  cases η1 <;> (obtain⟨rfl,-⟩:=Prod.mk.inj ht;exact h)
 | give γ =>
  simp only[ZP] at ht
  generalize Zg q.c q.lk q.F x γ=z at ht
  obtain⟨c',lk',F',γ'⟩:=z
  cases γ' <;> (obtain⟨rfl,-⟩:=Prod.mk.inj ht;rfl)
 | _ =>
  simp only[ZP] at ht
  obtain⟨rfl,-⟩:=Prod.mk.inj ht
  rfl
theorem lK {t n k m σ:Nat} {q q':Q} {α:Al} {E H:Int} {st:Nat} (gd:α.good t n k m 0 σ q) (h0:α.ZT=false) (hE:E≠0) (h6:E≠6) (ht:ZQ t n k m 0 2 true σ q α=(q',.over E H st)):E=7/\q'.F=[]:=by
 cases α with
 | take τ =>
  cases τ with
  | Zi x=>cases gd.2
  | none=>cases gd.2
  | idle =>
   cases hF:q.F with
   | nil =>
    simp only[ZQ,Zl,hF,Ze,Prod.mk.injEq] at ht
    obtain⟨rfl,e⟩:=ht
    exact⟨(Al.over.inj e).1.symm,rfl⟩
   | cons x F0 =>
    simp only[ZQ,Zl,hF,Ze,Prod.mk.injEq] at ht
    cases ht.2
  | XW x c0 =>
   simp only[ZQ,Zl,Ze,Prod.mk.injEq] at ht
   cases ht.2
  | X8 x c0 q0 =>
   simp only[ZQ,Zl] at ht
   split at ht
   . simp only[Ze,Prod.mk.injEq] at ht
     cases ht.2
   . simp only[Ze,Prod.mk.injEq] at ht
     cases ht.2
 | place x g τ =>
  simp only[ZQ] at ht
  generalize turn k m 0 (base t n k m) q.y τ=z at ht
  obtain⟨y',τ'⟩:=z
  cases τ' <;> cases (Prod.mk.inj ht).2
 | give x g γ =>
  simp only[ZQ] at ht
  generalize Zg q.c q.lk q.F x γ=z at ht
  obtain⟨c',lk',F',γ'⟩:=z
  cases γ' with
  | over =>
   have e:=(Prod.mk.inj ht).2
   exact absurd (Al.over.inj e).1.symm h6
  | _=>cases (Prod.mk.inj ht).2
 | ready x g a i st0 =>
  simp only[ZQ,Prod.mk.injEq] at ht
  exact absurd (Al.over.inj ht.2).1.symm hE
 | over=>cases h0
 | _ =>
  simp only[ZQ,Prod.mk.injEq] at ht
  cases ht.2
theorem Ol {t n k m σ:Nat} {q q':Q} {α α':Al} (h:α.late=true) (ht:ZQ t n k m 0 2 true σ q α=(q',α')):α'.late=true\/α'.ZT=true:=by
 cases α with
 | count=>simp only[ZQ,Prod.mk.injEq] at ht;obtain⟨-,rfl⟩:=ht;exact Or.inl rfl
 | head=>simp only[ZQ,Prod.mk.injEq] at ht;obtain⟨-,rfl⟩:=ht;exact Or.inl rfl
 | shw=>simp only[ZQ,Prod.mk.injEq] at ht;obtain⟨-,rfl⟩:=ht;exact Or.inl rfl
 | ready=>simp only[ZQ,Prod.mk.injEq] at ht;obtain⟨-,rfl⟩:=ht;exact Or.inr rfl
 | _=>cases h
def mk1:Po->Jb->Nat
 | .first,_=>1
 | .link _ _ _,_=>1
 | .past _ _ _ _,_=>1
 | .drop _ _ _ _,_=>1
 | .key _ _ _ _ _,_=>1
 | .make _ _ _,.al _ α=>if α.late then 0 else 1
 | _,_=>0
theorem D7 (po:Po) (b:Jb):mk1 po b<=1:=by
 cases po with
 | make =>
  cases b with
  | al j α=>show (if α.late then 0 else 1)<=1;split <;> decide
  | _=>exact Nat.zero_le _
 | first=>exact Nat.le_refl _
 | link=>exact Nat.le_refl _
 | past=>exact Nat.le_refl _
 | drop=>exact Nat.le_refl _
 | key=>exact Nat.le_refl _
 | _=>exact Nat.zero_le _
def Roomy (K Jm:Nat) (q:Q) (h:Gh) (jb:Nat->Jb):Prop:=∃ tk O Fl,Rm 4 12 40 q.y (fun K=>Vg (jb K)) h.J tk O Fl/\((Fl=0/\(∀ K',K'≠K->Vg (jb K')=none)/\Jm<=97)\/Jm<=12)
theorem Roomy.free {K J1:Nat} {q:Q} {h:Gh} {jb:Nat->Jb} (R:Roomy K J1 q h jb) (hJ:h.J<=J1):∃ l,l<12/\(q.y.ck l).st=0:=by
 obtain⟨tk,O,Fl,R,⟨rfl,ha,hb⟩ | hb⟩:=R
 . obtain⟨l,hl,e⟩:=R.RY ha (by omega)
   exact⟨l,hl,R.fr l hl e⟩
 . obtain⟨l,hl,e⟩:=R.UO (by omega)
   exact⟨l,hl,R.fr l hl e⟩
theorem Roomy.same {K J1:Nat} {q q':Q} {h h':Gh} {jb PV:Nat->Jb} (R:Roomy K J1 q h jb) (e1:q'.y=q.y) (e2:h'.J=h.J) (e3:∀ K,Vg (PV K)=Vg (jb K)):Roomy K J1 q' h' PV:=by
 obtain⟨tk,O,Fl,R,ha⟩:=R
 refine⟨tk,O,Fl,?_,ha.imp (fun ha=>⟨ha.1,fun K' hK=>by rw[e3];exact ha.2.1 K' hK,ha.2.2⟩) id⟩
 rw[e1,e2,show (fun K=>Vg (PV K))=fun K=>Vg (jb K) from funext e3];exact R
structure Ba (K Jm J1:Nat) (S0:Int->Prop) (σ:Nat) (q:Q) (h:Gh) (jb:Nat->Jb) (hd:Nat) (u:Hi) (C:Cl) (r:Option Rs) (ph:Nat):Prop where
 tY:qO 12 40 q h hd C r (jb K)
 rW:Sem S0 σ u C r
 room:Roomy K Jm q h jb
 jm:J1<=Jm
 ng:(jb K).gives=false
 mj:h.J+(if C.kd=2 then mk1 C.po (jb K) else 0)<=J1
 rp:r=none↔ph<=3
 e7:∀ R a s nx,C.po=.make a s nx->r=some R->R.E≠0->R.E=7/\q.F=[]/\¬ S0 C.k
section
variable {t n σ K Jm J1:Nat} {q q':Q} {h h':Gh} {jb:Nat->Jb} {hd:Nat} {F F':List Nat} {u u':Hi} {ts:Nat->Option (Cl × Option Rs)} {g p r:Int} {C C' C2:Cl} {R:Rs} {rs rs':Option Rs} {b':Jb} {ph UL:Nat} {S0:Int->Prop}
theorem Uh {b:Jb} (e:Vg b=Vg (jb K)):∀ K',Vg (upd jb K b K')=Vg (jb K'):=fun K'=>by
 by_cases h:K'=K
 . rw[h,upd_same];exact e
 . rw[Z9 _ _ _ _ h]
theorem D6 {W:Wt} {j:Nat} {α:Ac} (c:Bool):Vg (if c then Jb.nil else .ac W j α)=none:=by cases c <;> rfl
theorem D5 {j:Nat} {α:Dp} (c:Bool):Vg (if c then Jb.nil else .dp j α)=none:=by cases c <;> rfl
theorem Ba.go (A:Ba K Jm J1 S0 σ q h jb hd u C rs ph) (X:Lc t n 12 40 q σ h jb hd F u ts) (X':Lc t n 12 40 q' (σ+1) h' (upd jb K b') hd F' u' (upd ts K (some (C',rs')))) (hG:Good t n 12 40 g p r) (hn:n<=65535) (hcg:(J1:Int)+2<=g) (hK4:K<4) (hJ1:J1<=60000) (hts:ts K=some (C,rs)) (h5:ph≠5) (h4:ph<=5)
 (G:UE t n 12 40 g h σ q u F K C rs (jb K) h' q' u' F' C' rs' b' (decide (ph≠3))) (p3:ph<3->UL=ph+1) (p4:ph=3->UL=if rs'=none then 3 else 4) (p5:ph=4->UL=5) :
 Ba K Jm J1 S0 (σ+1) q' h' (upd jb K b') hd u' C' rs' UL/\CZ 12 40 (2 * 12+110) q' F' C' rs' UL (upd jb K b' K)+1<=CZ 12 40 (2 * 12+110) q F C rs ph (jb K):=by
 have hJ:h.J<=J1:=Nat.le_trans (Nat.le_add_right _ _) A.mj
 have hjm:=A.jm
 have hf:=A.room.free (by omega)
 obtain⟨a1,a2⟩:=A.tY.go (T:=2 * 12+110) X hG hn (by omega) (by omega) (by decide) (by decide) hf hts A.rp h5 h4 G p3 p4 p5
 rw[upd_same]
 have sm:=G.same
 have s1:=A.rW.go X X' hts G
 have T:=X.t K C rs hts
 have ng:=A.ng
 have mj:=A.mj
 have rp:rs'=none↔UL<=3:=by
  have T':=X'.t K C' rs' (upd_same _ _ _)
  generalize hpb:decide (ph≠3)=pb at G
  cases G with
  | pin =>
   have hne:ph≠3:=of_decide_eq_true hpb
   have:=A.rp
   by_cases hp:ph<3
   . rw[p3 hp];rw[this];omega
   . rw[p5 (by omega)];rw[this];omega
  | ac =>
   have h3:ph=3:=by refine Classical.byContradiction fun hne=>?_;rw[decide_eq_true hne] at hpb;cases hpb
   rw[p4 h3];cases rs' <;> simp
  | dp =>
   have h3:ph=3:=by refine Classical.byContradiction fun hne=>?_;rw[decide_eq_true hne] at hpb;cases hpb
   rw[p4 h3];cases rs' <;> simp
  | al =>
   have h3:ph=3:=by refine Classical.byContradiction fun hne=>?_;rw[decide_eq_true hne] at hpb;cases hpb
   rw[p4 h3];cases rs' <;> simp
 refine⟨⟨by rw[upd_same];exact a1,s1,?_,hjm,?_,?_,rp,?_⟩,a2⟩
 . generalize hpb:decide (ph≠3)=pb at G
   cases G with
   | pin=>rw[Yy];exact A.room
   | ac hb hr ht G=>exact A.room.same (Qn ht) G.J (Uh (by rw[D6,hb];rfl))
   | dp hb hr ht c h1 h2=>exact A.room.same (MF ht) c.J (Uh (by rw[D5,hb];rfl))
   | @al j j' α α' _ _ _ hb hr ht ev h1 h2 =>
    obtain⟨tk,O,Fl,R,ha⟩:=A.room
    have Wy:∃ i,i<12/\tk i=false:=by
     rcases ha with⟨rfl,ha,hb'⟩ | hb'
     . exact R.RY ha (by omega)
     . exact R.UO (by omega)
    obtain⟨⟨Rq,O',Fl',R',nK⟩,-,-⟩:=R.go1 X.m hK4 Wy ng hb ht ev
    refine⟨Rq,O',Fl',R',ha.imp (fun ha=>⟨?_,fun K' hK=>?_,ha.2.2⟩) id⟩
    . rw[nK (fun x g0 sn i c e=>?_)];exact ha.1
      have xj:=(A.tY.run hr).2
      rw[hb,e] at xj
      exact xj
    . rw[Z9 _ _ _ _ hK];exact ha.2.1 K' hK
 . rw[upd_same]
   generalize hpb:decide (ph≠3)=pb at G
   cases G with
   | pin=>exact ng
   | ac hb hr ht G=>split <;> rfl
   | dp hb hr ht c h1 h2=>split <;> rfl
   | @al j j' α α' _ _ _ hb hr ht ev h1 h2 =>
    obtain⟨tk,O,Fl,R,ha⟩:=A.room
    have Wy:∃ i,i<12/\tk i=false:=by
     rcases ha with⟨rfl,ha,hb'⟩ | hb'
     . exact R.RY ha (by omega)
     . exact R.UO (by omega)
    exact(R.go1 X.m hK4 Wy ng hb ht ev).2.1
 . rw[upd_same,sm.1,sm.2.2.1]
   by_cases k2:C.kd=2
   . rw[if_pos k2] at mj ⊢
     generalize hpb:decide (ph≠3)=pb at G
     cases G with
     | pin=>exact mj
     | ac hb hr ht G =>
      rw[G.J]
      have ji:=(T.run hr).2.1
      rw[hb] at ji mj
      revert ji mj
      cases C.po with
      | make=>intro _ ji;obtain⟨l,β,e⟩:=ji;cases e
      | _=>exact fun mj _=>mj
     | dp hb hr ht c h1 h2 =>
      rw[c.J]
      have ji:=(T.run hr).2.1
      rw[hb] at ji mj
      revert ji mj
      cases C.po with
      | make=>intro _ ji;obtain⟨l,β,e⟩:=ji;cases e
      | _=>exact fun mj _=>mj
     | @al j j' α α' _ _ _ hb hr ht ev h1 h2 =>
      have ji:=(T.run hr).2.1
      rw[hb] at ji mj
      have ov:∀ po:Po,h'.J=h.J->(α'.late=true\/α'.ZT=true\/α.late=false)->h.J+mk1 po (.al j α)<=J1->h'.J+mk1 po (if α'.ZT then .nil else .al j' α')<=J1:=fun po e hh mj=>by
       rw[e]
       refine Nat.le_trans (Nat.add_le_add_left ?_ _) mj
       cases po with
       | make =>
        cases ho:α'.ZT with
        | true=>exact Nat.zero_le _
        | false =>
         show (if α'.late then 0 else 1)<=(if α.late then 0 else 1)
         rcases hh with hh | hh | hh
         . rw[hh];exact Nat.zero_le _
         . rw[hh] at ho;cases ho
         . rw[hh];split <;> decide
       | _=>cases α'.ZT <;> exact Nat.le_refl _
      cases ev with
      | on c hs ho hl =>
       refine ov _ c.J ?_ mj
       cases hl':α.late with
       | false=>exact Or.inr (Or.inr rfl)
       | true=>exact(Ol hl' ht).imp id Or.inl
      | @Zi x0 g0 a0 i0 τ0 =>
       revert ji mj
       cases C.po with
       | make=>exact fun mj _=>mj
       | drop=>intro _ i;obtain⟨β,e⟩:=i;cases e
       | Zz=>intro _ i;obtain⟨β,e⟩:=i;cases e
       | Zu=>intro _ i;obtain⟨β,e⟩:=i;cases e
       | over=>intro _ i;exact i.elim
       | _=>intro _ i;obtain⟨W,β,e,-⟩:=i;cases e
      | made hj hd' hm h2' h3 c=>exact ov _ c.J (Or.inr (Or.inl rfl)) mj
      | none hF=>exact ov _ rfl (Or.inr (Or.inl rfl)) mj
      | full c hs=>exact ov _ c.J (Or.inr (Or.inl rfl)) mj
   . rw[if_neg k2] at mj ⊢
     generalize hpb:decide (ph≠3)=pb at G
     cases G with
     | pin=>exact mj
     | ac hb hr ht G=>rw[G.J];exact mj
     | dp hb hr ht c h1 h2=>rw[c.J];exact mj
     | al hb hr ht ev h1 h2 =>
      have ji:=(T.run hr).2.1
      have tk:=T.kd
      rw[hb] at ji
      revert ji tk
      cases C.po with
      | make=>intro _ tk;exact absurd (tk (by simp[Po.kd])) k2
      | drop=>intro i _;obtain⟨β,e⟩:=i;cases e
      | Zz=>intro i _;obtain⟨β,e⟩:=i;cases e
      | Zu=>intro i _;obtain⟨β,e⟩:=i;cases e
      | over=>intro i _;exact i.elim
      | _=>intro i _;obtain⟨W,β,e,-⟩:=i;cases e
 . intro R a s nx hpo hr' hE
   rw[sm.1] at hpo
   generalize hpb:decide (ph≠3)=pb at G
   cases G with
   | pin=>rw[sm.2.1];exact A.e7 R a s nx hpo hr' hE
   | ac hb hr ht G =>
    have ji:=(T.run hr).2.1
    rw[hb,hpo] at ji
    obtain⟨l,β,e⟩:=ji;cases e
   | dp hb hr ht c h1 h2 =>
    have ji:=(T.run hr).2.1
    rw[hb,hpo] at ji
    obtain⟨l,β,e⟩:=ji;cases e
   | @al j j' α α' _ _ _ hb hr ht ev h1 h2 =>
    have O:=X.m.jk K
    rw[hb] at O
    have ov:α.ZT=false:=by
     cases α with
     | over=>exact O.2.elim
     | _=>rfl
    cases ho:α'.ZT with
    | false=>rw[h1 ho] at hr';cases hr'
    | true =>
     cases α' with
     | over E H st =>
      rw[h2 E H st rfl] at hr'
      injection hr' with hr'
      rw[<- hr'] at hE ⊢
      have xj:=(A.tY.run hr).2
      rw[hb] at xj
      rcases (X.m.L9 (by decide) hf hb ov xj ht h' j').2.2 E H st rfl with e | ⟨e,-⟩
      . exact absurd e hE
      . obtain⟨e7,eF⟩:=lK O.1 ov hE (fun h=>absurd (e.symm.trans h) (by decide)) ht
        have kn:=(T.run hr).1
        rw[hpo] at kn
        refine⟨e7,eF,fun h0=>kn.1.aw kn.2 ((A.rW.un (by rw[hr];unfold claim;rw[hpo]) s (Nat.le_of_lt kn.1.bb) kn.1.ss C.k T.k0).2 ?_)⟩
        rw[<- sm.2.1];exact h0
     | _=>cases ho
theorem Ba.next (A:Ba K Jm J1 S0 σ q h jb hd u C (some R) 5) (X:Lc t n 12 40 q σ h jb hd F u ts) (hts:ts K=some (C,some R)) (N:FT h hd C R C2 C.po) (ho:∀ E v st,C2.po≠.over E v st) (G:Rt h hd σ u K C C2 R) :
 Ba K Jm J1 S0 σ q h (upd jb K (C2.YF h hd)) hd u C2 none 0/\CZ 12 40 (2 * 12+110) q F C2 none 0 (upd jb K (C2.YF h hd) K)<=CZ 12 40 (2 * 12+110) q F C (some R) 5 (jb K):=by
 have T:=X.t K C _ hts
 have hnil:=(T.told R rfl).1
 have x:=A.tY.told R rfl
 obtain⟨x1,x2,x3⟩:=X.Pv N ho G x hts
 have sm:=N.same
 have pj:Vg (C2.YF h hd)=none/\(C2.YF h hd).gives=false:=by unfold Cl.YF;cases C2.po <;> exact⟨rfl,rfl⟩
 refine⟨⟨by rw[upd_same];exact⟨fun _=>⟨x1,x2⟩,fun r' e=>by cases e⟩,A.rW.next sm.2.2 sm.2.1 sm.1 G.cl,A.room.same rfl rfl (Uh (by rw[pj.1,hnil];rfl)),A.jm,by rw[upd_same];exact pj.2,?_,⟨fun _=>by decide,fun _=>rfl⟩,fun R a s nx _ e=>by cases e⟩,?_⟩
 . rw[upd_same,sm.1]
   have mj:=A.mj
   by_cases k2:C.kd=2
   case neg=>rw[if_neg k2] at mj ⊢;exact mj
   rw[if_pos k2] at mj ⊢
   rw[hnil] at mj
   have m1:=D7 C2.po (C2.YF h hd)
   revert N x mj
   cases C.po with
   | first=>intro _ _ mj;have:mk1 .first .nil=1:=rfl;omega
   | link=>intro _ _ mj;exact Nat.le_trans (Nat.add_le_add_left m1 _) mj
   | past=>intro _ _ mj;exact Nat.le_trans (Nat.add_le_add_left m1 _) mj
   | drop=>intro _ _ mj;exact Nat.le_trans (Nat.add_le_add_left m1 _) mj
   | key=>intro _ _ mj;exact Nat.le_trans (Nat.add_le_add_left m1 _) mj
   | make =>
    intro N _ mj
    rcases N with⟨-,e⟩ | ⟨-,d,-,-,e⟩
    . rw[e] at ho;exact absurd rfl (ho _ _ _)
    . rw[e];exact mj
   | wkey=>intro N _ mj;rw[show C2=_ from N];exact mj
   | Y3=>intro N _ mj;rw[show C2=_ from N];exact mj
   | put =>
    intro N x mj
    rcases N with⟨eE,e⟩ | ⟨-,e⟩
    . exact absurd x eE
    . rw[e] at ho;exact absurd rfl (ho _ _ _)
   | mark =>
    intro N x mj
    rcases N with⟨eE,e⟩ | ⟨-,e⟩
    . exact absurd x.1 eE
    . rw[e];exact mj
   | lead =>
    intro N x mj
    rcases N with⟨eE,e⟩ | ⟨-,e⟩
    . exact absurd x eE
    . rw[e];exact mj
   | Zz=>intro N _ mj;rw[show C2=_ from N] at ho;exact absurd rfl (ho _ _ _)
   | Zu=>intro N _ mj;rw[show C2=_ from N] at ho;exact absurd rfl (ho _ _ _)
   | over=>intro N;exact N.elim
 . rw[upd_same]
   show Wh (2 * 12+110) F C2.po+((3 - 0)+(if 0<=3 then YA 12 40 q (C2.YF h hd) else 0)+(if 0<=4 then 1 else 0))<=KD (2 * 12+110) F C.po+_
   rw[if_pos (by decide),if_pos (by decide)]
   omega
structure Fin1 (S0 S1:Int->Prop) (kd key E v:Int) (q:Q):Prop where
 yes:E=0->((v=1/\(S0 key↔kd≠2))\/(v=0/\¬ (S0 key↔kd≠2)))/\∀ x,0<=x->(S1 x↔if kd≠1/\x=key then kd=2 else S0 x)
 no:E≠0->E=7/\v=0/\kd=2/\q.F=[]/\(∀ x,0<=x->(S1 x↔S0 x))/\¬ S0 key
theorem Ba.ends (A:Ba K Jm J1 S0 σ q h jb hd u C (some R) 5) (X:Lc t n 12 40 q σ h jb hd F u ts) (hts:ts K=some (C,some R)) {E v:Int} {st:Nat} (e:Qy σ u C R E v st):Fin1 S0 (u.S σ) C.kd C.k E v q:=by
 have T:=X.t K C _ hts
 refine⟨fun h0=>A.rW.end_ X.l T.k0 T.bb (e.ok h0) e.cl,fun h0=>?_⟩
 obtain⟨⟨a,s,nx,hpo⟩,hE,hv⟩:=e.er h0
 have h7:=A.e7 R a s nx hpo rfl (by rw[<- hE];exact h0)
 have k2:C.kd=2:=by have:=T.kd;rw[hpo] at this;exact this (by simp[Po.kd])
 have hc:=e.cl
 rw[if_neg (fun x=>by rw[hv] at x;exact absurd x.1 (by decide))] at hc
 exact⟨hE.trans h7.1,hv,k2,h7.2.1,A.rW.un hc σ T.bb (Nat.le_refl _),h7.2.2⟩
end
end
section
def P9 (C:Cl) (b:Jb):Nat:=if C.kd=2/\C.my=none then mk1 C.po b else 0
def Om (N:Nat) (q:Q) (h:Gh) (jb:Nat->Jb):Prop:=∃ tk O Fl,Rm N 12 40 q.y (fun K=>Vg (jb K)) h.J tk O Fl
section
variable {N t n σ K:Nat} {q q':Q} {h h':Gh} {jb:Nat->Jb} {hd:Nat} {F F':List Nat} {u u':Hi} {ts:Nat->Option (Cl × Option Rs)} {g p r:Int} {C C' C2:Cl} {R:Rs} {rs rs':Option Rs} {b':Jb} {ph:Nat} {S:Lr} {pb:Bool}
theorem Om.same {PV:Nat->Jb} (Ro:Om N q h jb) (e1:q'.y=q.y) (e2:h'.J=h.J) (e3:∀ K,Vg (PV K)=Vg (jb K)):Om N q' h' PV:=by
 obtain⟨tk,O,Fl,R⟩:=Ro
 refine⟨tk,O,Fl,?_⟩
 rw[e1,e2,show (fun K=>Vg (PV K))=fun K=>Vg (jb K) from funext e3];exact R
theorem Om.free (R:Om N q h jb) (hN:(N=3/\h.J<=31)\/(N=4/\h.J<=12)):∃ tk O Fl,Rm N 12 40 q.y (fun K=>Vg (jb K)) h.J tk O Fl/\∃ i,i<12/\tk i=false:=by
 obtain⟨tk,O,Fl,R⟩:=R
 refine⟨tk,O,Fl,R,?_⟩
 rcases hN with⟨rfl,hJ⟩ | ⟨rfl,hJ⟩
 . exact R.D8 hJ
 . exact R.UO hJ
theorem xu {po:Po} {W:Wt} {j:Nat} {α:Ac} (ji:Yb h hd C.k po (.ac W j α)) (b:Jb):mk1 po b=mk1 po (.ac W j α):=by
 cases po with
 | make=>obtain⟨l,β,e⟩:=ji;cases e
 | _=>rfl
theorem xq {po:Po} {j:Nat} {α:Dp} (ji:Yb h hd C.k po (.dp j α)) (b:Jb):mk1 po b=mk1 po (.dp j α):=by
 cases po with
 | make=>obtain⟨l,β,e⟩:=ji;cases e
 | _=>rfl
theorem JZ {C C':Cl} {b b':Jb} (e1:C'.kd=C.kd) (e2:C'.my=none->C.my=none) (e:mk1 C'.po b'<=mk1 C.po b):P9 C' b'<=P9 C b:=by
 unfold P9
 by_cases h:C'.kd=2/\C'.my=none
 . rw[if_pos h,if_pos ⟨e1 ▸ h.1,e2 h.2⟩];exact e
 . rw[if_neg h];exact Nat.zero_le _
theorem Vf {C:Cl} {b:Jb} (e:mk1 C.po b=0):P9 C b=0:=by unfold P9;rw[e];split <;> rfl
theorem sQ (C:Cl) (b:Jb):P9 C b<=1:=by
 unfold P9
 split
 . exact D7 _ _
 . exact Nat.zero_le _
theorem Om.go (Ro:Om N q h jb) (hN:(N=3/\h.J<=31)\/(N=4/\h.J<=12)) (hK:K<N) (X:Lc t n 12 40 q σ h jb hd F u ts) (hts:ts K=some (C,rs)) (ng:(jb K).gives=false) (I:XL h hd C rs S) (G:UE t n 12 40 g h σ q u F K C rs (jb K) h' q' u' F' C' rs' b' pb) :
 Om N q' h' (upd jb K b')/\b'.gives=false/\h'.J+P9 C' b'<=h.J+P9 C (jb K):=by
 have hK4:K<4:=by rcases hN with⟨rfl,-⟩ | ⟨rfl,-⟩ <;> omega
 have T:=X.t K C rs hts
 cases G with
 | pin=>rw[Yy];exact⟨Ro,ng,Nat.le_refl _⟩
 | @ac W j α α' _ _ _ _ _ _ hb hr ht G =>
  refine⟨Ro.same (Qn ht) G.J (Uh (by rw[D6,hb];rfl)),by split <;> rfl,?_⟩
  rw[G.J]
  have ji:=(T.run hr).2.1
  rw[hb] at ji ⊢
  refine Nat.add_le_add_left ?_ _
  have hC:C'=C\/((∃ p s nx d,C'.po=.put p s nx d)/\C'.kd=C.kd):=by
   cases ho:α'.ZT with
   | false=>exact Or.inl (G.on ho).1
   | true =>
    cases α' with
    | over E V st =>
     rw[(G.end_ E V st rfl).2]
     unfold Cl.after
     cases hpo:C.po with
     | put p s nx d =>
      simp only
      split
      . exact Or.inr ⟨⟨p,s,nx,d,by first | exact hpo | rfl⟩,rfl⟩
      . exact Or.inl rfl
     | _=>exact Or.inl rfl
    | _=>cases ho
  rcases hC with rfl | ⟨⟨p,s,nx,d,hpo⟩,-⟩
  . exact JZ rfl id (Nat.le_of_eq (xu ji _))
  . rw[Vf (by rw[hpo];rfl)];exact Nat.zero_le _
 | dp hb hr ht c h1 h2 =>
  refine⟨Ro.same (MF ht) c.J (Uh (by rw[D5,hb];rfl)),by split <;> rfl,?_⟩
  rw[c.J]
  have ji:=(T.run hr).2.1
  rw[hb] at ji ⊢
  exact Nat.add_le_add_left (JZ rfl id (Nat.le_of_eq (xq ji _))) _
 | @al j j' α α' _ _ _ hb hr ht ev h1 h2 =>
  obtain⟨tk,O,Fl,R,Wy⟩:=Ro.free hN
  obtain⟨⟨Rq,O',Fl',R',-⟩,g',-⟩:=R.go1 X.m hK Wy ng hb ht ev
  refine⟨⟨Rq,O',Fl',R'⟩,g',?_⟩
  have ji:=(T.run hr).2.1
  rw[hb] at ji
  have pm:∃ a s nx,C.po=.make a s nx:=by
   revert ji
   cases C.po with
   | make a s nx=>exact fun _=>⟨a,s,nx,rfl⟩
   | drop=>intro i;obtain⟨β,e⟩:=i;cases e
   | Zz=>intro i;obtain⟨β,e⟩:=i;cases e
   | Zu=>intro i;obtain⟨β,e⟩:=i;cases e
   | over=>intro i;exact i.elim
   | _=>intro i;obtain⟨W,β,e,-⟩:=i;cases e
  obtain⟨a,s,nx,hpo⟩:=pm
  have kd:=T.kd
  rw[hpo] at kd
  have k2:C.kd=2:=kd (by simp[Po.kd])
  have my:C.my=none:=by have ip:=I.po;rw[hpo] at ip;exact ip.2.2.2.2.2.2
  have eM:∀ b,P9 C b=mk1 (.make a s nx) b:=fun b=>by unfold P9;rw[if_pos (show C.kd=2/\C.my=none from⟨k2,my⟩),hpo]
  rw[eM,eM,hb]
  have ov:h'.J=h.J->(α'.late=true\/α'.ZT=true\/α.late=false)->h'.J+mk1 (.make a s nx) (if α'.ZT then .nil else .al j' α')<=h.J+mk1 (.make a s nx) (.al j α):=fun e hh=>by
   rw[e]
   refine Nat.add_le_add_left ?_ _
   cases ho:α'.ZT with
   | true=>exact Nat.zero_le _
   | false =>
    show (if α'.late then 0 else 1)<=(if α.late then 0 else 1)
    rcases hh with hh | hh | hh
    . rw[hh];exact Nat.zero_le _
    . rw[hh] at ho;cases ho
    . rw[hh];split <;> decide
  cases ev with
  | on c hs ho hl =>
   refine ov c.J ?_
   cases hl':α.late with
   | false=>exact Or.inr (Or.inr rfl)
   | true=>exact(Ol hl' ht).imp id Or.inl
  | Zi=>exact Nat.le_refl _
  | made hj hd' hm h2' h3 c=>exact ov c.J (Or.inr (Or.inl rfl))
  | none hF=>exact ov rfl (Or.inr (Or.inl rfl))
  | full c hs=>exact ov c.J (Or.inr (Or.inl rfl))
theorem Om.made (Ro:Om N q h jb) (hN:(N=3/\h.J<=31)\/(N=4/\h.J<=12)) (hn:h.J+4<n) (hK:K<N) (X:Lc t n 12 40 q σ h jb hd F u ts) (X':Lc t n 12 40 q' (σ+1) h' (upd jb K b') hd F' u' (upd ts K (some (C',rs')))) (hts:ts K=some (C,rs)) (ng:(jb K).gives=false) (G:UE t n 12 40 g h σ q u F K C rs (jb K) h' q' u' F' C' rs' b' pb) (e0:∀ R a s nx,C.po=.make a s nx->rs=some R->R.E=0):∀ R a s nx,C'.po=.make a s nx->rs'=some R->R.E=0:=by
 intro R a s nx hpo hr'
 have hK4:K<4:=by rcases hN with⟨rfl,-⟩ | ⟨rfl,-⟩ <;> omega
 have sm:=G.same
 have T:=X.t K C rs hts
 rw[sm.1] at hpo
 have hJ:=G.J
 have nil':upd jb K b' K=.nil:=by
  have:=((X'.t K C' rs' (upd_same _ _ _)).told R hr').1
  exact this
 have fr:=X'.m.slots (K:=K) hK4 (by rw[nil'];rfl) (by omega)
 cases G with
 | pin=>exact e0 R a s nx hpo hr'
 | ac hb hr ht G =>
  have ji:=(T.run hr).2.1
  rw[hb,hpo] at ji
  obtain⟨l,β,e⟩:=ji;cases e
 | dp hb hr ht c h1 h2 =>
  have ji:=(T.run hr).2.1
  rw[hb,hpo] at ji
  obtain⟨l,β,e⟩:=ji;cases e
 | @al j j' α α' _ _ _ hb hr ht ev h1 h2 =>
  have O:=X.m.jk K
  rw[hb] at O
  have ov:α.ZT=false:=by
   cases α with
   | over=>exact O.2.elim
   | _=>rfl
  cases ho:α'.ZT with
  | false=>rw[h1 ho] at hr';cases hr'
  | true =>
   cases α' with
   | over E H st =>
    rw[h2 E H st rfl] at hr'
    injection hr' with hr'
    rw[<- hr']
    obtain⟨tk,O',Fl,R',Wy⟩:=Ro.free hN
    have e6:=(R'.go1 X.m hK Wy ng hb ht ev).2.2 E H st rfl
    refine Classical.byContradiction fun hE=>?_
    exact fr (lK O.1 ov hE e6 ht).2
   | _=>cases ho
theorem Om.next (Ro:Om N q h jb) (X:Lc t n 12 40 q σ h jb hd F u ts) (hts:ts K=some (C,some R)) (I:XL h hd C (some R) S) (Nx:FT h hd C R C2 C.po) :
 Om N q h (upd jb K (C2.YF h hd))/\(C2.YF h hd).gives=false/\P9 C2 (C2.YF h hd)<=P9 C (jb K):=by
 have T:=X.t K C _ hts
 have hnil:=(T.told R rfl).1
 have pj:Vg (C2.YF h hd)=none/\(C2.YF h hd).gives=false:=by unfold Cl.YF;cases C2.po <;> exact⟨rfl,rfl⟩
 refine⟨Ro.same rfl rfl (Uh (by rw[pj.1,hnil];rfl)),pj.2,?_⟩
 have m1:=D7 C2.po (C2.YF h hd)
 have lJ:∀ {a s nx},PW h hd C a s nx C2->C2.kd=C.kd/\C2.my=C.my:=fun {a s nx} M=>by
  rcases M.2 with⟨-,e⟩ | ⟨-,-,e⟩ | ⟨d,-,-,e⟩ <;> (rw[e];exact⟨rfl,rfl⟩)
 have ou:∀ {a s nx},Reach h hd C a s nx C2->C2.kd=C.kd/\C2.my=C.my:=fun {a s nx} M=>by
  rcases M with⟨-,M⟩ | ⟨c,-,-,e⟩
  . exact lJ M
  . rw[e];exact⟨rfl,rfl⟩
 have fin:C2.kd=C.kd/\C2.my=C.my->mk1 C.po (jb K)=1->P9 C2 (C2.YF h hd)<=P9 C (jb K):=fun e e1=>JZ e.1 (fun h=>e.2 ▸ h) (by rw[e1];exact m1)
 have We:=I.put
 have kd:=T.kd
 revert Nx fin We kd
 cases hpo:C.po with
 | first=>intro Nx fin _ _;exact fin (ou Nx.2) rfl
 | link =>
  intro Nx fin _ _
  refine fin ?_ rfl
  rcases Nx with⟨-,e⟩ | ⟨-,-,e⟩ | ⟨-,-,e⟩ <;> (rw[e];exact⟨rfl,rfl⟩)
 | past =>
  intro Nx fin _ _
  refine fin ?_ rfl
  rcases Nx with⟨-,e⟩ | ⟨-,e⟩ <;> (rw[e];exact⟨rfl,rfl⟩)
 | drop=>intro Nx fin _ _;exact fin (ou Nx) rfl
 | key =>
  intro Nx fin _ _
  rcases Nx with⟨-,e⟩ | ⟨-,-,M⟩ | ⟨-,-,M⟩ | ⟨-,-,⟨-,e⟩ | ⟨-,e⟩ | ⟨-,-,e⟩ | ⟨d,-,-,e⟩⟩
  . exact fin (by rw[e];exact⟨rfl,rfl⟩) rfl
  . exact fin (ou M) rfl
  . exact fin (lJ M) rfl
  . exact fin (by rw[e];exact⟨rfl,rfl⟩) rfl
  . exact fin (by rw[e];exact⟨rfl,rfl⟩) rfl
  . exact fin (by rw[e];exact⟨rfl,rfl⟩) rfl
  . rw[Vf (C:=C2) (by rw[e];rfl)];exact Nat.zero_le _
 | make =>
  intro Nx _ _ _
  rcases Nx with⟨-,e⟩ | ⟨-,d,-,-,e⟩
  . rw[Vf (C:=C2) (by rw[e];rfl)];exact Nat.zero_le _
  . rw[Vf (C:=C2) (by rw[e];rfl)];exact Nat.zero_le _
 | wkey =>
  intro Nx _ _ _
  rw[Vf (C:=C2) (by rw[show C2=_ from Nx];rfl)];exact Nat.zero_le _
 | Y3 =>
  intro Nx _ _ _
  rw[Vf (C:=C2) (by rw[show C2=_ from Nx];rfl)];exact Nat.zero_le _
 | put a s nx d =>
  intro Nx _ We _
  rcases Nx with⟨eE,e⟩ | ⟨-,e⟩
  . have my:=We a s nx d rfl (fun r' e=>by injection e with e;rw[<- e];exact eE)
    unfold P9
    rw[if_neg (fun hh=>by rw[e] at hh;have:=hh.2;rw[show (C.at_ .first).my=C.my from rfl,my] at this;cases this)]
    exact Nat.zero_le _
  . rw[Vf (C:=C2) (by rw[e];rfl)];exact Nat.zero_le _
 | mark =>
  intro Nx _ _ kd
  have k3:C.kd=3:=kd (by simp[Po.kd])
  rcases Nx with⟨-,e⟩ | ⟨-,e⟩
  . unfold P9
    rw[if_neg (fun hh=>by rw[e] at hh;have:=hh.1;rw[show (C.at_ .first).kd=C.kd from rfl,k3] at this;exact absurd this (by decide))]
    exact Nat.zero_le _
  . rw[Vf (C:=C2) (by rw[e];rfl)];exact Nat.zero_le _
 | lead =>
  intro Nx _ _ _
  rcases Nx with⟨-,e⟩ | ⟨-,e⟩ <;> (rw[Vf (C:=C2) (by rw[e];rfl)];exact Nat.zero_le _)
 | Zz=>intro Nx _ _ _;rw[Vf (C:=C2) (by rw[show C2=_ from Nx];rfl)];exact Nat.zero_le _
 | Zu=>intro Nx _ _ _;rw[Vf (C:=C2) (by rw[show C2=_ from Nx];rfl)];exact Nat.zero_le _
 | over=>intro Nx;exact Nx.elim
end
end
section
def Up (h:Gh) (hd p:Nat) (nx:Int):Prop:=h.ZL p=true/\(nx=0\/∃ i,h.ZL i=true/\nx=h.H i/\h.ky hd p<h.ky hd i)
def Ord (h:Gh) (hd:Nat):Prop:=∀ j,h.ZL j=true->Up h hd j (h.lk j % 4294967296)
section
variable {t n k m σ K:Nat} {q q':Q} {h h':Gh} {jb:Nat->Jb} {hd:Nat} {F F':List Nat} {u u':Hi} {ts:Nat->Option (Cl × Option Rs)} {g p r:Int} {C C':Cl} {rs rs':Option Rs} {b':Jb} {pb:Bool}
structure Keep (h h':Gh) (hd:Nat):Prop where
 ZL:∀ i,h.ZL i=true->h'.ZL i=true
 H:∀ i,h.ZL i=true->h'.H i=h.H i
 ky:∀ i,h.ZL i=true->h'.ky hd i=h.ky hd i
theorem Keep.refl (h:Gh) (hd:Nat):Keep h h hd:=⟨fun _ e=>e,fun _ _=>rfl,fun _ _=>rfl⟩
theorem Up.keep {a:Nat} {nx:Int} (U:Up h hd a nx) (k:Keep h h' hd):Up h' hd a nx:=by
 obtain⟨ha,U⟩:=U
 refine⟨k.ZL a ha,?_⟩
 rcases U with U | ⟨i,h1,h2,h3⟩
 . exact Or.inl U
 . exact Or.inr ⟨i,k.ZL i h1,by rw[k.H i h1];exact h2,by rw[k.ky a ha,k.ky i h1];exact h3⟩
theorem Up.trans {a c:Nat} {nx:Int} (L:Lw h hd σ F u) (U:Up h hd a (h.H c)) (V:Up h hd c nx) (hc:h.ZL c=true):Up h hd a nx:=by
 obtain⟨ha,U⟩:=U
 refine⟨ha,?_⟩
 rcases V.2 with V | ⟨i,h1,h2,h3⟩
 . exact Or.inl V
 . rcases U with U | ⟨e,g1,g2,g3⟩
   . have:=(L.l.h0 c hc).1;omega
   . rw[L.l.inj c e hc g1 g2] at h3
     exact Or.inr ⟨i,h1,h2,by omega⟩
theorem Up.less {a c:Nat} (L:Lw h hd σ F u) (U:Up h hd a (h.H c)) (hc:h.ZL c=true):h.ky hd a<h.ky hd c:=by
 rcases U.2 with U | ⟨e,g1,g2,g3⟩
 . have:=(L.l.h0 c hc).1;omega
 . rw[L.l.inj c e hc g1 g2];exact g3
theorem Up.first {nx:Int} (L:Lw h hd σ F u) (N:Su h hd nx):Up h hd hd nx:=by
 refine⟨?_,?_⟩
 . obtain⟨C0,hC⟩:=L.l.hf;exact L.l.pb hd (by rw[hC];simp)
 rcases N.2.2 with e | ⟨c,h1,h2,h3⟩
 . exact Or.inl e
 . refine Or.inr ⟨c,h1,h2,?_⟩
   have:=L.kp c h1 h3
   unfold Gh.ky
   rw[if_pos rfl,if_neg h3];omega
theorem Oz.keep {W:Wt} {j:Nat} {α α':Ac} (WK:lF h K W j) (G:Oz h h' σ u u' C C' W j α α' rs' F F'):Keep h h' hd/\(∀ i,h'.H i=h.H i)/\(∀ i,i≠j->h'.cv i=h.cv i)/\∀ i,h.ZL i=true->h'.cv i 0=h.cv i 0:=by
 obtain⟨h1,ev,I5,-⟩:=G.e
 have H:∀ i,h'.H i=h.H i:=fun i=>by unfold Gh.H;rw[G.nd]
 have xk:∀ i,i≠j->h'.cv i=h.cv i:=fun i hi=>by
  rw[I5]
  cases ev with
  | laid v hr h3=>exact X5 hi
  | _=>rfl
 have cv:∀ i,h.ZL i=true->h'.cv i 0=h.cv i 0:=fun i hi=>by
  rw[I5]
  cases ev with
  | laid v hr h3 =>
   rcases WK.kd with k1 | ⟨k1,k2,-⟩ | ⟨k1,k2⟩
   . rw[Ui k1] at hr;cases hr
   . rw[show W.ix.toNat=1 by rw[k2];rfl];exact VK i
   . rw[X5 (fun e=>by rw[e,k2] at hi;cases hi)]
  | _=>rfl
 exact⟨⟨G.pb.1,fun i _=>H i,fun i hi=>by unfold Gh.ky;rw[cv i hi]⟩,H,xk,cv⟩
theorem UE.keep (X:Lc t n k m q σ h jb hd F u ts) (G:UE t n k m g h σ q u F K C rs (jb K) h' q' u' F' C' rs' b' pb):Keep h h' hd:=by
 have same:∀ {h':Gh},h'.nd=h.nd->h'.cv=h.cv->h'.ZL=h.ZL->Keep h h' hd:=fun e1 e2 e3=>⟨fun i hi=>by rw[e3];exact hi,fun i _=>by unfold Gh.H;rw[e1],fun i _=>by unfold Gh.ky;rw[e2]⟩
 cases G with
 | pin=>exact Keep.refl _ _
 | ac hb hr ht G =>
  have O:=X.m.jk K
  rw[hb] at O
  exact(G.keep O.2.1).1
 | dp hb hr ht c h1 h2=>exact same c.nd c.cv c.ZL
 | al hb hr ht ev h1 h2 =>
  cases ev with
  | on c=>exact same c.nd c.cv c.ZL
  | Zi=>exact⟨fun i hi=>(Zy _ (X.l.pJ i hi)).2.2.2.2.1.trans hi,fun i hi=>by unfold Gh.H;rw[(Zy _ (X.l.pJ i hi)).1],fun i hi=>by unfold Gh.ky;rw[(Zy _ (X.l.pJ i hi)).2.2.1]⟩
  | made hj hd' hm h2 h3 c=>exact same c.nd c.cv c.ZL
  | none=>exact Keep.refl _ _
  | full c=>exact same c.nd c.cv c.ZL
theorem Ord.ac (X:Lc t n k m q σ h jb hd F u ts) (hG:Good t n k m g p r) (hn:n<=65535) (hJ:h.J<=60000) (hts:ts K=some (C,none)) {W:Wt} {j:Nat} {α α':Ac} (hjb:jb K=.ac W j α) (G:Oz h h' σ u u' C C' W j α α' rs' F F') (O:Ord h hd):Ord h' hd:=by
 have T:=X.t K C none hts
 have Ok:=X.m.jk K
 rw[hjb] at Ok
 obtain⟨kp,H,xk,Dj⟩:=G.keep (hd:=hd) Ok.2.1
 have kn:=(T.run rfl).1
 have bd:∀ c,h.ZL c=true->h.H c % 4294967296=h.H c:=fun c hc=>RI (Int.le_of_lt (X.l.l.h0 c hc).1) (X.l.l.h0 c hc).2
 cases G.sh with
 | same a b c =>
  intro i hi
  rw[a] at hi
  rw[c i hi];exact(O i hi).keep kp
 | mark p s s2 nx V st e o a b c d =>
  intro i hi
  rw[a] at hi
  rw[e] at kn
  obtain⟨-,-,-,Uz⟩:=kn
  by_cases ei:i=j
  . subst ei
    have:=O i hi
    rw[c,upd_same,show (nx+4294967296) % 4294967296=h.lk i % 4294967296 by rw[d];have:=Uz.1;have:=Uz.2.1;omega]
    exact this.keep kp
  . rw[c,Z9 _ _ _ _ ei];exact(O i hi).keep kp
 | cut c nx V st A B e o a b b' l d =>
  have nZ:Node h hd c/\Gone h c nx:=by
   rcases e with⟨s,e⟩ | ⟨st,e⟩
   . rw[e] at kn;exact⟨kn.2.1,kn.2.2⟩
   . rw[e] at kn;exact⟨kn.2.1,kn.2.2.1⟩
  obtain⟨N,gn⟩:=nZ
  intro i hi
  rw[a] at hi
  by_cases ei:i=j
  . subst ei
    have h1:=O i hi
    have h2:=O c N.pu
    rw[d,bd c N.pu] at h1
    rw[show h.lk c % 4294967296=nx by rw[gn.1];have:=gn.2.1;have:=gn.2.2;omega] at h2
    rw[l,upd_same,RI gn.2.1 gn.2.2]
    exact(h1.trans X.l h2 N.pu).keep kp
  . rw[l,Z9 _ _ _ _ ei];exact(O i hi).keep kp
 | put s d nx V st A B e o a b b' l l0 =>
  rw[e] at kn
  obtain⟨Ah,fa,ow,c0,c1⟩:=kn
  have hdj:d≠j:=fun e'=>by have:=Ah.pp;rw[<- e',ow.pu] at this;cases this
  have pd:h'.ZL d=true:=by rw[a];exact upd_same _ _ _
  have kd:h'.ky hd d=C.k:=by
   unfold Gh.ky
   rw[if_neg ow.nh,xk d hdj];exact c0
  intro i hi
  by_cases ed:i=d
  . subst ed
    rw[l,Z9 _ _ _ _ hdj,show h.lk i=nx from c1,RI Ah.Uz.1 Ah.Uz.2.1]
    refine⟨pd,?_⟩
    rcases fa with e0 | ⟨c,h1,h2,h3⟩
    . exact Or.inl e0
    . exact Or.inr ⟨c,kp.ZL c h1,by rw[H];exact h2,by rw[kd,kp.ky c h1];exact h3⟩
  . rw[a,Z9 _ _ _ _ ed] at hi
    by_cases ei:i=j
    . subst ei
      have hb:=MI X.m.g hG hn hJ ow.dJ
      rw[l,upd_same,RI (Int.le_of_lt hb.1) hb.2]
      exact⟨kp.ZL i hi,Or.inr ⟨d,pd,(H d).symm,by rw[kd,kp.ky i hi];exact Ah.kp⟩⟩
    . rw[l,Z9 _ _ _ _ ei];exact(O i hi).keep kp
theorem Ord.go (X:Lc t n k m q σ h jb hd F u ts) (hG:Good t n k m g p r) (hn:n<=65535) (hJ:h.J<=60000) (hts:ts K=some (C,rs)) (G:UE t n k m g h σ q u F K C rs (jb K) h' q' u' F' C' rs' b' pb) (O:Ord h hd):Ord h' hd:=by
 have kp:=G.keep X
 have same:∀ {h':Gh},Keep h h' hd->h'.ZL=h.ZL->(∀ i,h.ZL i=true->h'.cv i=h.cv i)->Ord h' hd:=fun kp e1 e2 i hi=>by
  rw[e1] at hi
  unfold Gh.lk
  rw[e2 i hi];exact(O i hi).keep kp
 cases G with
 | pin=>exact O
 | ac hb hr ht G=>subst hr;exact Ord.ac X hG hn hJ hts hb G O
 | dp hb hr ht c h1 h2=>exact same kp c.ZL (fun i _=>by rw[c.cv])
 | al hb hr ht ev h1 h2 =>
  cases ev with
  | on c=>exact same kp c.ZL (fun i _=>by rw[c.cv])
  | Zi =>
   intro i hi
   have hi':h.ZL i=true:=by
    by_cases e:i=h.J
    . rw[e,(TE _).2.2.2.2.1] at hi;cases hi
    . rw[show (h.born _ K).ZL i=h.ZL i from Z9 _ _ _ _ e] at hi;exact hi
   unfold Gh.lk
   rw[(Zy _ (X.l.pJ i hi')).2.2.1];exact(O i hi').keep kp
  | made hj hd' hm h2 h3 c=>exact same kp c.ZL (fun i _=>by rw[c.cv])
  | none=>exact O
  | full c=>exact same kp c.ZL (fun i _=>by rw[c.cv])
end
end
section
def TJ (h:Gh) (hd:Nat):Po->Prop
 | .link p _ c=>Up h hd p (h.H c)
 | .past p _ c nx=>Up h hd p (h.H c)/\Up h hd c nx
 | .drop p _ _ nx=>Up h hd p nx
 | .key p _ c nx _=>Up h hd p (h.H c)/\Up h hd c nx
 | _=>True
def tZ (h:Gh) (hd:Nat):Po->Rs->Prop
 | .link _ _ c,r=>r.E=0->Up h hd c (r.V % 4294967296)
 | _,_=>True
def xO (h:Gh) (hd:Nat):Jb->Prop
 | .ac W j (.check _ c _)=>W.ix=1->Up h hd j (RS c % 4294967296)
 | _=>True
structure Asc (h:Gh) (hd:Nat) (C:Cl) (rs:Option Rs) (b:Jb):Prop where
 po:TJ h hd C.po
 r:∀ r,rs=some r->tZ h hd C.po r
 j:xO h hd b
section
variable {t n k m σ K:Nat} {q q':Q} {h h':Gh} {jb:Nat->Jb} {hd:Nat} {F F':List Nat} {u u':Hi} {ts:Nat->Option (Cl × Option Rs)} {g p r:Int} {C C' C2:Cl} {R:Rs} {rs rs':Option Rs} {b b':Jb} {pb:Bool}
theorem TJ.keep {po:Po} (U:TJ h hd po) (k:Keep h h' hd) (hH:∀ j,j<h.J->h'.H j=h.H j) (B:po.bd h.J):TJ h' hd po:=by
 cases po with
 | link p s c=>show Up h' hd p (h'.H c);rw[hH c B.2];exact Up.keep U k
 | past p s c nx=>exact⟨by rw[hH c B.2];exact U.1.keep k,U.2.keep k⟩
 | drop p s c nx=>exact Up.keep U k
 | key p s c nx s2=>exact⟨by rw[hH c B.2];exact U.1.keep k,U.2.keep k⟩
 | _=>trivial
theorem tZ.keep {po:Po} (U:tZ h hd po R) (k:Keep h h' hd):tZ h' hd po R:=by
 cases po with
 | link p s c=>exact fun e=>(U e).keep k
 | _=>trivial
theorem xO.keep (U:xO h hd b) (k:Keep h h' hd):xO h' hd b:=by
 cases b with
 | ac W j α =>
  cases α with
  | check v c ld=>exact fun e=>(U e).keep k
  | _=>trivial
 | _=>trivial
theorem Asc.keep (A:Asc h hd C rs b) (k:Keep h h' hd) (hH:∀ j,j<h.J->h'.H j=h.H j) (B:C.bd h.J hd):Asc h' hd C rs b :=
 ⟨TJ.keep A.po k hH B.po,fun r e=>tZ.keep (A.r r e) k,xO.keep A.j k⟩
theorem Asc.go (X:Lc t n k m q σ h jb hd F u ts) (O:Ord h hd) (hts:ts K=some (C,rs)) (B:C.bd h.J hd) (G:UE t n k m g h σ q u F K C rs (jb K) h' q' u' F' C' rs' b' pb) (A:Asc h hd C rs (jb K)):Asc h' hd C' rs' b':=by
 have kp:=G.keep X
 have hnd:=G.nd
 have hH:∀ j,j<h.J->h'.H j=h.H j:=fun j hj=>UD hnd.2 hj
 have A':=A.keep kp hH B
 have T:=X.t K C rs hts
 have sm:=G.same
 cases G with
 | pin=>exact A
 | dp hb hr ht c h1 h2 =>
  subst hr
  have ji:=(T.run rfl).2.1
  rw[hb] at ji
  refine⟨A'.po,fun r e=>?_,by split <;> trivial⟩
  revert ji
  cases C.po with
  | link=>intro ji;obtain⟨W,β,e,-⟩:=ji;cases e
  | _=>intro _;trivial
 | al hb hr ht ev h1 h2 =>
  subst hr
  have ji:=(T.run rfl).2.1
  rw[hb] at ji
  refine⟨A'.po,fun r e=>?_,by split <;> trivial⟩
  revert ji
  cases C.po with
  | link=>intro ji;obtain⟨W,β,e,-⟩:=ji;cases e
  | _=>intro _;trivial
 | @ac W j α α' _ _ _ _ _ _ hb hr ht G =>
  subst hr
  have ji:=(T.run rfl).2.1
  have Ok:=X.m.jk K
  rw[hb] at ji Ok
  have Aj:xO h hd (.ac W j α):=by rw[<- hb];exact A.j
  have xN:=Yb.ZL (by obtain⟨C0,hC⟩:=X.l.l.hf;exact X.l.l.pb hd (by rw[hC];simp)) (T.run rfl).1 ji
  obtain⟨h1,ev,I5,est⟩:=G.e
  have pq:TJ h' hd C'.po:=by rw[sm.1];exact A'.po
  cases ho:α'.ZT with
  | false =>
   refine⟨pq,fun r e=>(by rw[(G.on ho).2.1] at e;cases e),?_⟩
   show xO h' hd (.ac W j α')
   cases ev with
   | loaded v c hc hr =>
    intro ix
    have hp:h.ZL j=true:=xN.resolve_left (fun e=>by rw[Ov e] at hr;cases hr)
    have:RS c=h.lk j:=by rw[hc,ix];rfl
    rw[this]
    exact(O j hp).keep kp
   | _=>trivial
  | true =>
   refine⟨pq,fun r e=>?_,trivial⟩
   cases α' with
   | over E V st =>
    obtain⟨e1,e2⟩:=G.end_ E V st rfl
    rw[e1] at e
    injection e with e
    subst e
    rw[sm.1]
    revert ji
    cases hpo:C.po with
    | link p s c =>
     rintro⟨W',β,e0,k1,k2⟩
     cases e0
     intro hE
     cases ev with
     | told v c0 ld h4=>exact(Aj k2).keep kp
     | gone _ h5=>cases hE
     | laid v hr h3=>rw[Ui k1] at hr;cases hr
    | _=>intro _;trivial
   | _=>cases ho
theorem Asc.next (X:Lc t n k m q σ h jb hd F u ts) (hts:ts K=some (C,some R)) (A:Asc h hd C (some R) b) (N:FT h hd C R C2 C.po):Asc h hd C2 none (C2.YF h hd):=by
 have T:=X.t K C _ hts
 have rk:=(T.told R rfl).2
 have Ar:=A.r R rfl
 have Ap:=A.po
 have fin:TJ h hd C2.po->Asc h hd C2 none (C2.YF h hd):=fun hp=>⟨hp,fun r e=>(by cases e),by unfold Cl.YF;cases C2.po <;> trivial⟩
 have miss:∀ {a s nx},PW h hd C a s nx C2->TJ h hd C2.po:=fun {a s nx} M=>by
  rcases M.2 with⟨-,e⟩ | ⟨-,-,e⟩ | ⟨d,-,-,e⟩ <;> (rw[e];trivial)
 have reach:∀ {a s nx},Up h hd a nx->Reach h hd C a s nx C2->TJ h hd C2.po:=fun {a s nx} U M=>by
  rcases M with⟨-,M⟩ | ⟨c,hc,-,e⟩
  . exact miss M
  . rw[e];show Up h hd a (h.H c);rw[<- hc];exact U
 refine fin ?_
 revert rk Ar Ap N
 cases C.po with
 | first=>intro N rk _ _;exact reach (Up.first X.l (rk.QA X.l T.k0).2.Uz) N.2
 | link p s c =>
  intro N rk Ar Ap
  rcases N with⟨-,e⟩ | ⟨eE,hv,e⟩ | ⟨eE,hv,e⟩
  . rw[e];trivial
  . rw[e]
    have:=Ar eE
    rw[show R.V % 4294967296=R.V - 4294967296 by
     rcases rk.TI X.l T.k0 eE with⟨-,-,-,g1,g2,g3⟩ | ⟨h2,-⟩
     . omega
     . omega] at this
    exact⟨Ap,this⟩
  . rw[e]
    have:=Ar eE
    rw[show R.V % 4294967296=R.V by
     rcases rk.TI X.l T.k0 eE with⟨h2,-⟩ | ⟨-,-,-,n1,-⟩
     . omega
     . exact RI n1.1 hv] at this
    exact⟨Ap,this⟩
 | past p s c nx =>
  intro N rk Ar Ap
  rcases N with⟨-,e⟩ | ⟨eE,e⟩
  . rw[e];trivial
  . rw[e];exact Ap.1.trans X.l Ap.2 Ap.2.1
 | drop p s c nx=>intro N rk Ar Ap;exact reach Ap N
 | key p s c nx s2 =>
  intro N rk Ar Ap
  rcases N with⟨-,e⟩ | ⟨-,-,M⟩ | ⟨-,-,M⟩ | ⟨-,-,⟨-,e⟩ | ⟨-,e⟩ | ⟨-,-,e⟩ | ⟨d,-,-,e⟩⟩
  . rw[e];trivial
  . exact reach Ap.2 M
  . exact miss M
  all_goals (rw[e];trivial)
 | make=>intro N _ _ _;rcases N with⟨-,e⟩ | ⟨-,d,-,-,e⟩ <;> (rw[e];trivial)
 | wkey=>intro N _ _ _;rw[show C2=_ from N];trivial
 | Y3=>intro N _ _ _;rw[show C2=_ from N];trivial
 | put=>intro N _ _ _;rcases N with⟨-,e⟩ | ⟨-,e⟩ <;> (rw[e];trivial)
 | mark=>intro N _ _ _;rcases N with⟨-,e⟩ | ⟨-,e⟩ <;> (rw[e];trivial)
 | lead=>intro N _ _ _;rcases N with⟨-,e⟩ | ⟨-,e⟩ <;> (rw[e];trivial)
 | Zz=>intro N _ _ _;rw[show C2=_ from N];trivial
 | Zu=>intro N _ _ _;rw[show C2=_ from N];trivial
 | over=>intro N;exact N.elim
end
end
section
def VB (q:Q) (h:Gh):Jb->Nat
 | .al _ (.take .idle)=>31
 | .al _ (.take (.XW _ c))=>if c=q.c then 30 else 33
 | .al _ (.take (.X8 _ c _))=>if c=q.c then 29 else 32
 | .al _ (.ask _)=>18
 | .al _ (.place _ _ .see)=>17
 | .al _ (.place _ _ (.ask _))=>16
 | .al _ (.place _ _ (.grow i c))=>if q.y.ck i=c then 15 else 18
 | .al _ (.count _ _ _ _)=>4
 | .al _ (.head _ _ _ _)=>3
 | .al _ (.shw _ _ _ _)=>2
 | .al _ (.ready _ _ _ _ _)=>1
 | .dp _ .see=>23
 | .dp _ (.ask _)=>22
 | .dp _ (.mark _ _)=>21
 | .dp _ (.fin _ _ (.go _ _ c none))=>20 - 2 * c
 | .dp _ (.fin _ _ (.go _ _ c (some _)))=>19 - 2 * c
 | .dp _ (.count _ _)=>14
 | .dp _ (.give .idle)=>13
 | .dp _ (.give (.XW _ c))=>if c=q.c then 12 else 15
 | .dp _ (.give (.X8 _ c))=>if c=q.c then 11 else 14
 | .ac _ _ .see=>5
 | .ac _ _ (.ask _ _)=>4
 | .ac _ _ (.load _ _)=>3
 | .ac _ _ (.check _ _ _)=>2
 | .ac W j (.lay _ c)=>if c=h.cv j W.ix.toNat then 2 else 6
 | _=>0
def Seg:Jb->Prop
 | .al _ (.place _ _ .see)=>True
 | .al _ (.place _ _ (.ask _))=>True
 | .al _ (.place _ _ (.grow _ _))=>True
 | .al _ (.place _ _ _)=>False
 | .al _ (.give _ _ _)=>False
 | _=>True
def Cst (q q':Q) (c:Nat):Prop:=(q'.c=q.c/\q'.y=q.y/\c=0)\/c=10
section
variable {N t n k m σ K j:Nat} {q q':Q} {h h':Gh} {jb:Nat->Jb} {W:Wt} {cg p r:Int}
theorem wY {α α':Ac} (ok:su h W j α) (ev:SA h W j σ α α' h'):VB q' h' (if α'.ZT then .nil else .ac W j α')+1<=VB q h (.ac W j α):=by
 cases ev with
 | seen v=>show 4+1<=5;omega
 | asked v a=>show 3+1<=4;omega
 | loaded v c hc hr=>show 2+1<=3;omega
 | open_ v hr h3=>show (if h.cv j _=h.cv j _ then 2 else 6)+1<=3;rw[if_pos rfl];omega
 | told v c ld _=>show 0+1<=2;omega
 | gone _ h5 =>
  show 0+1<=_
  cases α with
  | stop=>exact ok.elim
  | over=>exact ok.elim
  | lay v c=>show 0+1<=(if _ then 2 else 6);split <;> omega
  | see=>show 0+1<=5;omega
  | ask=>show 0+1<=4;omega
  | load=>show 0+1<=3;omega
  | check=>show 0+1<=2;omega
 | laid v hr h3=>show 0+1<=(if _ then 2 else 6);split <;> omega
 | Ry v c hc=>show 5+1<=(if _ then 2 else 6);rw[if_neg hc];omega
theorem WC.xe (M:WC t n k m q σ h jb) (hG:Good t n k m cg p r) (hn:n<=65535) (hJ:h.J<=60000) (hcg:(h.J:Int)+2<=cg) {α α':Dp} (hjb:jb K=.dp j α) (ht:ZP t n k m cg true (h.nd j).x (h.nd j).g q α=(q',α')):∃ c,Cst q q' c/\VB q' h' (if α'.ZT then .nil else .dp j α')+1+c<=VB q h (.dp j α):=by
 have O:=M.jk K
 rw[hjb] at O
 obtain⟨hj,hpm,FM,A⟩:=O
 have N:=M.g.nk j hj
 have D:=M.g.FP hG hn hJ hj
 have hsz:3<=h.st j->UF (q.dw (h.nd j).a)=2/\XA (q.dw (h.nd j).a)=true:=fun h3=>by
  rw[N.hw h3];exact VT (Z:=2) (x:=(h.nd j).x) (G:=(h.nd j).g) (own:=true) (by decide) D.xb D.gb
 have htl:tot h.dead h.J<=h.J:=Xh (fun i _=>by unfold Gh.dead;split <;> omega)
 have hgb:=M.g.gb _ N.xn
 cases α with
 | VW η=>exact A.elim
 | over E=>exact A.elim
 | see =>
  have h3:h.st j=3:=A
  have hw:=N.w3 (by omega) (by omega)
  have e:ZP t n k m cg true (h.nd j).x (h.nd j).g q .see=(q,.ask (h.nd j).w):=by
   simp only[ZP,hw,D.st,D.gn,decide_true]
   rfl
  rw[e] at ht
  obtain⟨rfl,rfl⟩:=Prod.mk.inj ht
  exact⟨0,Or.inl ⟨rfl,rfl,rfl⟩,by show 22+1+0<=23;omega⟩
 | ask v =>
  obtain⟨h3,hv⟩:=A
  have hs:=hsz (by omega)
  have e:ZP t n k m cg true (h.nd j).x (h.nd j).g q (.ask v)=(q,.mark v 2):=by
   simp only[ZP,TV,hv,D.ad,hs.1,hs.2,D.st,beq_self_eq_true,if_true]
   rfl
  rw[e] at ht
  obtain⟨rfl,rfl⟩:=Prod.mk.inj ht
  exact⟨0,Or.inl ⟨rfl,rfl,rfl⟩,by show 21+1+0<=22;omega⟩
 | mark v Z =>
  obtain⟨h3,hv,rfl⟩:=A
  have hw:=N.w3 (by omega) (by omega)
  simp only[ZP,hw,hv,if_true] at ht
  obtain⟨rfl,rfl⟩:=Prod.mk.inj ht
  exact⟨0,Or.inl ⟨rfl,rfl,rfl⟩,by show 20 - 2 * 0+1+0<=21;omega⟩
 | fin Z i η =>
  cases η with
  | over wn=>exact A.elim
  | go v Z' c u =>
   obtain⟨h4,rfl,rfl,rfl,hv,hc,hu⟩:=A
   have hw4:=N.w4 h4
   have hz2:=N.z2
   have had:ZA v=(h.nd j).a:=by rw[hv];exact D.ma
   have rZ:Y1 v=1:=by rw[hv];exact D.mv
   by_cases c2:2<=c
   . have e0:Zp cg (h.nd j).x q (.go v 2 c u)=({ q with sw:=upd q.sw (h.nd j).x (Yq cg v) },.over true):=by
      cases u <;> simp only[Zp,c2,if_true,VF,hw4,hv]
     simp only[ZP,e0,WN] at ht
     obtain⟨rfl,rfl⟩:=Prod.mk.inj ht
     have c2':c=2:=by omega
     subst c2'
     refine⟨0,Or.inl ⟨rfl,rfl,rfl⟩,?_⟩
     cases u with
     | none=>show 14+1+0<=20 - 2 * 2;omega
     | some u'=>show 14+1+0<=19 - 2 * 2;omega
   . have hpl:q.dw ((h.nd j).a+1+c)=h.cv j c:=by
      have:=N.cw c (by omega)
      unfold Gh.cw at this
      rw[if_neg (by omega)] at this
      exact this
     have V:=N.vl c (by omega)
     cases u with
     | none =>
      have e0:Zp cg (h.nd j).x q (.go v 2 c none)=(q,.go v 2 c (some (h.cv j c))):=by
       simp only[Zp,if_neg c2,had,hpl,VS V.2,Bool.false_eq_true,if_false]
      simp only[ZP,e0,WN] at ht
      obtain⟨rfl,rfl⟩:=Prod.mk.inj ht
      exact⟨0,Or.inl ⟨rfl,rfl,rfl⟩,by show 19 - 2 * c+1+0<=20 - 2 * c;omega⟩
     | some u' =>
      obtain⟨-,hu2⟩:=hu u' rfl
      have e0:Zp cg (h.nd j).x q (.go v 2 c (some u'))=({ q with dw:=upd q.dw ((h.nd j).a+1+c) (froze (h.cv j c) 1) },.go v 2 (c+1) none):=by
       simp only[Zp,if_neg c2,had,hpl,hu2,if_true,rZ]
      simp only[ZP,e0,WN] at ht
      obtain⟨rfl,rfl⟩:=Prod.mk.inj ht
      exact⟨0,Or.inl ⟨rfl,rfl,rfl⟩,by show 20 - 2 * (c+1)+1+0<=19 - 2 * c;omega⟩
 | count Z i =>
  obtain⟨h5,rfl,rfl,hso⟩:=A
  have hr:room (ZI ((2:Nat):Int)).toNat=3:=by decide
  have hg5:=N.g5 (by omega)
  have e:ZP t n k m cg true (h.nd j).x (h.nd j).g q (.count 2 (h.nd j).i)=({ q with lv:=upd q.lv (h.nd j).i (q.lv (h.nd j).i - 3) },.give .idle):=by
   simp only[ZP,hr]
   rw[if_neg (by omega)]
  rw[e] at ht
  obtain⟨rfl,rfl⟩:=Prod.mk.inj ht
  exact⟨0,Or.inl ⟨rfl,rfl,rfl⟩,by show 13+1+0<=14;omega⟩
 | give γ =>
  obtain⟨h6,hso,gg,zh⟩:=A
  cases γ with
  | over=>cases zh
  | idle =>
   simp only[ZP,Zg,Yg] at ht
   obtain⟨rfl,rfl⟩:=Prod.mk.inj ht
   exact⟨0,Or.inl ⟨rfl,rfl,rfl⟩,by show (if q.c=q.c then 12 else 15)+1+0<=13;rw[if_pos rfl];omega⟩
  | XW y c0 =>
   simp only[ZP,Zg,Yg] at ht
   obtain⟨rfl,rfl⟩:=Prod.mk.inj ht
   exact⟨0,Or.inl ⟨rfl,rfl,rfl⟩,by show (if c0=q.c then 11 else 14)+1+0<=(if c0=q.c then 12 else 15);split <;> omega⟩
  | X8 y c0 =>
   simp only[ZP,Zg] at ht
   by_cases hx:c0=q.c
   . rw[if_pos hx] at ht
     simp only[Yg] at ht
     obtain⟨rfl,rfl⟩:=Prod.mk.inj ht
     exact⟨10,Or.inr rfl,by show 0+1+10<=(if c0=q.c then 11 else 14);rw[if_pos hx];omega⟩
   . rw[if_neg hx] at ht
     simp only[Yg] at ht
     obtain⟨rfl,rfl⟩:=Prod.mk.inj ht
     exact⟨0,Or.inl ⟨rfl,rfl,rfl⟩,by show 13+1+0<=(if c0=q.c then 11 else 14);rw[if_neg hx];omega⟩
theorem Om.open_ (Ro:Om N q h jb) (hJ:h.J<=12):(∃ i,q.y.op 0=i+1)/\∀ K i,Vg (jb K)=some (.ask i)->(q.y.ck i).st=1/\(q.y.ck i).cl=0/\(q.y.ck i).us+3<=40:=by
 obtain⟨tk,O,Fl,R⟩:=Ro
 refine⟨?_,fun K i e=>?_⟩
 . have:=R.op
   cases hO:O with
   | nil=>exact absurd hO R.o0
   | cons i O'=>rw[hO] at this;exact⟨i,this⟩
 . have hi:i∈O:=R.th K _ e
   obtain⟨h1,h2,-,h3⟩:=R.o1 i hi
   have:=R.us
   have h4:=Qm (f:=fun i=>(q.y.ck i).us) h1
   exact⟨h2,h3,by show _<=40;have h5:(q.y.ck i).us<=_:=h4;omega⟩
theorem WC.wZ (M:WC t n 12 40 q σ h jb) (Ro:Om N q h jb) (hJ:h.J<=12) (sg:Seg (jb K)) {j':Nat} {α α':Al} (hjb:jb K=.al j α) (ht:ZQ t n 12 40 0 2 true σ q α=(q',α')):Seg (if α'.ZT then .nil else .al j' α')/\∃ c,Cst q q' c/\VB q' h' (if α'.ZT then .nil else .al j' α')+1+c<=VB q h (.al j α):=by
 have O:=M.jk K
 rw[hjb] at O
 obtain⟨gd,A⟩:=O
 obtain⟨⟨i0,hop⟩,hask⟩:=Ro.open_ hJ
 rw[hjb] at sg
 cases α with
 | over E H st=>exact A.elim
 | take τ =>
  cases τ with
  | Zi x=>cases gd.2
  | none=>cases gd.2
  | idle =>
   cases hF:q.F with
   | nil =>
    simp only[ZQ,Zl,hF,Ze,Prod.mk.injEq] at ht
    obtain⟨rfl,rfl⟩:=ht
    exact⟨trivial,0,Or.inl ⟨rfl,rfl,rfl⟩,by show 0+1+0<=31;omega⟩
   | cons y F =>
    simp only[ZQ,Zl,hF,Ze,Prod.mk.injEq] at ht
    obtain⟨rfl,rfl⟩:=ht
    exact⟨trivial,0,Or.inl ⟨rfl,rfl,rfl⟩,by show (if q.c=q.c then 30 else 33)+1+0<=31;rw[if_pos rfl];omega⟩
  | XW y c0 =>
   simp only[ZQ,Zl,Ze,Prod.mk.injEq] at ht
   obtain⟨rfl,rfl⟩:=ht
   exact⟨trivial,0,Or.inl ⟨rfl,rfl,rfl⟩,by show (if c0=q.c then 29 else 32)+1+0<=(if c0=q.c then 30 else 33);split <;> omega⟩
  | X8 y c0 q0 =>
   simp only[ZQ,Zl] at ht
   by_cases hx:c0=q.c
   . rw[if_pos hx] at ht
     simp only[Ze,Prod.mk.injEq] at ht
     obtain⟨rfl,rfl⟩:=ht
     exact⟨trivial,10,Or.inr rfl,by show 18+1+10<=(if c0=q.c then 29 else 32);rw[if_pos hx];omega⟩
   . rw[if_neg hx] at ht
     simp only[Ze,Prod.mk.injEq] at ht
     obtain⟨rfl,rfl⟩:=ht
     exact⟨trivial,0,Or.inl ⟨rfl,rfl,rfl⟩,by show 31+1+0<=(if c0=q.c then 29 else 32);rw[if_neg hx];omega⟩
 | ask y =>
  simp only[ZQ,Prod.mk.injEq] at ht
  obtain⟨rfl,rfl⟩:=ht
  exact⟨trivial,0,Or.inl ⟨rfl,rfl,rfl⟩,by show 17+1+0<=18;omega⟩
 | place y g τ =>
  cases τ with
  | see =>
   simp only[ZQ,turn,hop,XJ,Prod.mk.injEq] at ht
   obtain⟨rfl,rfl⟩:=ht
   exact⟨trivial,0,Or.inl ⟨rfl,rfl,rfl⟩,by show 16+1+0<=17;omega⟩
  | ask i =>
   have hc:=hask K i (by rw[hjb];rfl)
   have hc':(q.y.ck i).st=1/\(q.y.ck i).cl=0/\(q.y.ck i).us+room 0<=40:=hc
   simp only[ZQ,turn,if_pos hc',XJ,Prod.mk.injEq] at ht
   obtain⟨rfl,rfl⟩:=ht
   exact⟨trivial,0,Or.inl ⟨rfl,rfl,rfl⟩,by show (if q.y.ck i=q.y.ck i then 15 else 18)+1+0<=16;rw[if_pos rfl];omega⟩
  | grow i c =>
   by_cases hx:q.y.ck i=c
   . simp only[ZQ,turn,if_pos hx,XJ,Prod.mk.injEq] at ht
     obtain⟨rfl,rfl⟩:=ht
     exact⟨trivial,10,Or.inr rfl,by show 4+1+10<=(if q.y.ck i=c then 15 else 18);rw[if_pos hx];omega⟩
   . simp only[ZQ,turn,if_neg hx,XJ,Prod.mk.injEq] at ht
     obtain⟨rfl,rfl⟩:=ht
     exact⟨trivial,0,Or.inl ⟨rfl,rfl,rfl⟩,by show 17+1+0<=(if q.y.ck i=c then 15 else 18);rw[if_neg hx];omega⟩
  | _=>exact sg.elim
 | count y g a i =>
  simp only[ZQ,Prod.mk.injEq] at ht
  obtain⟨rfl,rfl⟩:=ht
  exact⟨trivial,0,Or.inl ⟨rfl,rfl,rfl⟩,by show 3+1+0<=4;omega⟩
 | head y g a i =>
  simp only[ZQ,Prod.mk.injEq] at ht
  obtain⟨rfl,rfl⟩:=ht
  exact⟨trivial,0,Or.inl ⟨rfl,rfl,rfl⟩,by show 2+1+0<=3;omega⟩
 | shw y g a i =>
  simp only[ZQ,Prod.mk.injEq] at ht
  obtain⟨rfl,rfl⟩:=ht
  exact⟨trivial,0,Or.inl ⟨rfl,rfl,rfl⟩,by show 1+1+0<=2;omega⟩
 | ready y g a i st =>
  simp only[ZQ,Prod.mk.injEq] at ht
  obtain⟨rfl,rfl⟩:=ht
  exact⟨trivial,0,Or.inl ⟨rfl,rfl,rfl⟩,by show 0+1+0<=1;omega⟩
 | give y g γ=>exact sg.elim
theorem Gp {b:Jb} {c:Nat} (C:Cst q q' c) (hcv:∀ W j v x,b=.ac W j (.lay v x)->h'.cv j W.ix.toNat=h.cv j W.ix.toNat):VB q' h' b<=VB q h b+(if c=0 then 0 else 3):=by
 have key:∀ (P P':Prop) [Decidable P] [Decidable P'] (a:Nat),((c=0/\(P'↔P))\/c=10)->(if P' then a else a+3)<=(if P then a else a+3)+(if c=0 then 0 else 3):=fun P P' _ _ a h=>by
  rcases h with⟨rfl,h⟩ | rfl
  . by_cases hp:P
    . rw[if_pos hp,if_pos (h.2 hp)];omega
    . rw[if_neg hp,if_neg (fun x=>hp (h.1 x))];omega
  . show _<=_+3
    split <;> split <;> omega
 have hq:∀ c0:Nat,(c=0/\(c0=q'.c↔c0=q.c))\/c=10:=fun c0=>by
  rcases C with⟨h1,-,h3⟩ | h3
  . exact Or.inl ⟨h3,by rw[h1]⟩
  . exact Or.inr h3
 have hy:∀ (i:Nat) (x:Ck),(c=0/\(q'.y.ck i=x↔q.y.ck i=x))\/c=10:=fun i x=>by
  rcases C with⟨-,h2,h3⟩ | h3
  . exact Or.inl ⟨h3,by rw[h2]⟩
  . exact Or.inr h3
 cases b with
 | nil=>exact Nat.zero_le _
 | al j α =>
  cases α with
  | take τ =>
   cases τ with
   | XW y c0=>exact key _ _ 30 (hq c0)
   | X8 y c0 z=>exact key _ _ 29 (hq c0)
   | _=>exact Nat.le_add_right _ _
  | place y g τ =>
   cases τ with
   | grow i x=>exact key _ _ 15 (hy i x)
   | _=>exact Nat.le_add_right _ _
  | _=>exact Nat.le_add_right _ _
 | dp j α =>
  cases α with
  | give γ =>
   cases γ with
   | XW y c0=>exact key _ _ 12 (hq c0)
   | X8 y c0=>exact key _ _ 11 (hq c0)
   | _=>exact Nat.le_add_right _ _
  | fin Z i η =>
   cases η with
   | go v Z' c u=>cases u <;> exact Nat.le_add_right _ _
   | over=>exact Nat.le_add_right _ _
  | _=>exact Nat.le_add_right _ _
 | ac W j α =>
  cases α with
  | lay v x =>
   show (if x=h'.cv j W.ix.toNat then 2 else 6)<=(if x=h.cv j W.ix.toNat then 2 else 6)+_
   rw[hcv W j v x rfl];exact Nat.le_add_right _ _
  | _=>exact Nat.le_add_right _ _
theorem Az {b:Jb} (q q':Q) (h h':Gh):VB q' h' b<=VB q h b+4:=by
 have key:∀ (P P':Prop) [Decidable P] [Decidable P'] (a d:Nat),d<=4->(if P' then a else a+d)<=(if P then a else a+d)+4:=fun P P' _ _ a d h=>by split <;> split <;> omega
 cases b with
 | nil=>exact Nat.zero_le _
 | al j α =>
  cases α with
  | take τ =>
   cases τ with
   | XW y c0=>exact key _ _ 30 3 (by decide)
   | X8 y c0 z=>exact key _ _ 29 3 (by decide)
   | _=>exact Nat.le_add_right _ _
  | place y g τ =>
   cases τ with
   | grow i x=>exact key _ _ 15 3 (by decide)
   | _=>exact Nat.le_add_right _ _
  | _=>exact Nat.le_add_right _ _
 | dp j α =>
  cases α with
  | give γ =>
   cases γ with
   | XW y c0=>exact key _ _ 12 3 (by decide)
   | X8 y c0=>exact key _ _ 11 3 (by decide)
   | _=>exact Nat.le_add_right _ _
  | fin Z i η =>
   cases η with
   | go v Z' c u=>cases u <;> exact Nat.le_add_right _ _
   | over=>exact Nat.le_add_right _ _
  | _=>exact Nat.le_add_right _ _
 | ac W j α =>
  cases α with
  | lay v x=>exact key _ _ 2 4 (by decide)
  | _=>exact Nat.le_add_right _ _
end
end
section
def mkd (h:Gh) (F:List Nat):Nat:=F.countP (fun i=>decide (4294967296<=h.lk i))
def JY (h:Gh) (hd:Nat) (F:List Nat) (kd k:Int) (x:Nat):Prop :=
 ∃ y,x=y+mkd h F/\((kd=2/\((Ue (h.ky hd) h.lk F k/\y=0)\/(¬ Ue (h.ky hd) h.lk F k/\y=1)))\/(kd=3/\((Ue (h.ky hd) h.lk F k/\y=2)\/(¬ Ue (h.ky hd) h.lk F k/\y=0))))
structure Far (h h':Gh) (K e:Nat):Prop where
 c0:∀ i,i<h.J->(h.ZL i=true\/h.ma i≠K)->h'.cv i 0=h.cv i 0
 c1:e=0->∀ i,i<h.J->(h.ZL i=true\/h.ma i≠K)->h'.cv i 1=h.cv i 1
section
variable {t n k m σ K:Nat} {q q':Q} {h h':Gh} {jb:Nat->Jb} {hd:Nat} {F F':List Nat} {u u':Hi} {ts:Nat->Option (Cl × Option Rs)} {g p r:Int} {C C':Cl} {rs rs':Option Rs} {b':Jb} {pb:Bool} {x:Nat}
theorem Ue.same {kd:Int} {ky zA lk lk':Nat->Int} (e:∀ i,i∈F->zA i=ky i/\lk' i=lk i):Ue zA lk' F kd↔Ue ky lk F kd:=by
 constructor
 . rintro⟨c,h1,h2,h3⟩
   obtain⟨e1,e2⟩:=e c h1
   exact⟨c,h1,by rw[<- e1];exact h2,by rw[<- e2];exact h3⟩
 . rintro⟨c,h1,h2,h3⟩
   obtain⟨e1,e2⟩:=e c h1
   exact⟨c,h1,by rw[e1];exact h2,by rw[e2];exact h3⟩
theorem Xg (e:∀ i,i∈F->h'.lk i=h.lk i):mkd h' F=mkd h F:=by
 unfold mkd
 exact List.countP_congr (fun i hi=>by simp only[decide_eq_true_eq];rw[e i hi])
theorem JY.same {kd key:Int} (N:JY h hd F kd key x) (e:∀ i,i∈F->h'.ky hd i=h.ky hd i/\h'.lk i=h.lk i):JY h' hd F kd key x:=by
 obtain⟨y,e1,e2⟩:=N
 have i1:=Ue.same (kd:=key) e
 refine⟨y,by rw[Xg (fun i hi=>(e i hi).2)];exact e1,?_⟩
 rw[i1];exact e2
theorem UE.links (X:Lc t n k m q σ h jb hd F u ts) (hG:Good t n k m g p r) (hn:n<=65535) (hJ:h.J<=60000) (hts:ts K=some (C,rs)) (G:UE t n k m g h σ q u F K C rs (jb K) h' q' u' F' C' rs' b' pb) (N:JY h hd F C.kd C.k x) :
 ∃ e x',JY h' hd F' C.kd C.k x'/\((e=0/\x'=x/\F'=F)\/(e=1/\x'+1<=x))/\Far h h' K e:=by
 have kp:=G.keep X
 have quiet:F'=F->(∀ i,h.ZL i=true->h'.lk i=h.lk i)->JY h' hd F' C.kd C.k x:=fun e1 e2=>by
  rw[e1];exact N.same (fun i hi=>⟨kp.ky i (X.l.l.pb i hi),e2 i (X.l.l.pb i hi)⟩)
 have still:∀ {h':Gh},(∀ i,i<h.J->h'.cv i=h.cv i)->Far h h' K 0:=fun e=>⟨fun i hi _=>by rw[e i hi],fun _ i hi _=>by rw[e i hi]⟩
 have T:=X.t K C rs hts
 cases G with
 | pin=>exact⟨0,x,N,Or.inl ⟨rfl,rfl,rfl⟩,still (fun _ _=>rfl)⟩
 | dp hb hr ht c h1 h2=>exact⟨0,x,quiet rfl (fun i _=>by unfold Gh.lk;rw[c.cv]),Or.inl ⟨rfl,rfl,rfl⟩,still (fun _ _=>by rw[c.cv])⟩
 | al hb hr ht ev h1 h2 =>
  have key:∀ i,i<h.J->h'.cv i=h.cv i:=fun i hi=>by
   cases ev with
   | on c=>rw[c.cv]
   | Zi=>exact(Zy _ hi).2.2.1
   | made hj hd' hm h2 h3 c=>rw[c.cv]
   | none=>rfl
   | full c=>rw[c.cv]
  exact⟨0,x,quiet rfl (fun i hi=>by unfold Gh.lk;rw[key i (X.l.pJ i hi)]),Or.inl ⟨rfl,rfl,rfl⟩,still key⟩
 | @ac W j α α' _ _ _ _ _ _ hb hr ht G =>
  subst hr
  have Ok:=X.m.jk K
  rw[hb] at Ok
  obtain⟨hj,WK,AK⟩:=Ok
  obtain⟨-,H,xk,Dj⟩:=G.keep (hd:=hd) WK
  have kn:=(T.run rfl).1
  have S:=X.l.l
  have c0:∀ i,i<h.J->(h.ZL i=true\/h.ma i≠K)->h'.cv i 0=h.cv i 0:=fun i hi hp=>by
   by_cases e:i=j
   . subst e
     rcases hp with hp | hp
     . exact Dj i hp
     . rcases WK.pv with b | ⟨b,-⟩
       . exact Dj i b
       . exact absurd b hp
   . rw[xk i e]
  cases G.sh with
  | same a b c =>
   refine⟨0,x,quiet b c,Or.inl ⟨rfl,rfl,b⟩,c0,fun _ i hi hp=>?_⟩
   by_cases e:i=j
   . subst e
     rcases hp with hp | hp
     . exact c i hp
     . rcases WK.pv with b' | ⟨b',-⟩
       . exact c i b'
       . exact absurd b' hp
   . rw[xk i e]
  | mark p0 s s2 nx V st e o a b c d =>
   rw[e] at kn
   obtain⟨-,Nd,hk,Uz⟩:=kn
   have hun:h.lk j<4294967296:=by rw[d];exact Uz.2.1
   have FQ:=S.mem Nd.pu hun
   have k3:C.kd=3:=by have:=T.kd;rw[e] at this;exact this (by simp[Po.kd])
   have oh:Ue (h.ky hd) h.lk F C.k:=⟨j,FQ,hk,hun⟩
   have DY:∀ i,i≠j->h'.lk i=h.lk i:=fun i hi=>by rw[c,Z9 _ _ _ _ hi]
   have xh:h'.lk j=nx+4294967296:=by rw[c,upd_same]
   have in1:¬ Ue (h'.ky hd) h'.lk F C.k:=by
    rintro⟨i,h1,h2,h3⟩
    rw[kp.ky i (S.pb i h1)] at h2
    have:i=j:=S.uniq h1 FQ (h2.trans hk.symm)
    rw[this,xh] at h3
    have:=Uz.1
    omega
   obtain⟨A,B,hF⟩:=List.append_of_mem FQ
   have nd:=S.nd
   rw[hF] at nd
   have nA:j∉A:=fun hh=>(List.nodup_append.1 nd).2.2 j hh j (by simp) rfl
   have nB:j∉B:=(List.nodup_cons.1 (List.nodup_append.1 nd).2.1).1
   have hm:mkd h' F=mkd h F+1:=by
    have eA:mkd h' A=mkd h A:=Xg (fun i hi=>DY i (fun e=>nA (by rw[<- e];exact hi)))
    have eB:mkd h' B=mkd h B:=Xg (fun i hi=>DY i (fun e=>nB (by rw[<- e];exact hi)))
    have d1:decide (4294967296<=h'.lk j)=true:=decide_eq_true (by rw[xh];have:=Uz.1;omega)
    have d0:decide (4294967296<=h.lk j)=false:=decide_eq_false (by omega)
    unfold mkd at eA eB ⊢
    rw[hF]
    simp only[List.countP_append,List.countP_cons,d1,d0,if_true,Bool.false_eq_true,if_false]
    omega
   obtain⟨y,e1,e2⟩:=N
   rw[b]
   have hy:y=2:=by
    rcases e2 with⟨k2,-⟩ | ⟨-,⟨-,h⟩ | ⟨h,-⟩⟩
    . omega
    . exact h
    . exact absurd oh h
   exact⟨1,mkd h' F,⟨0,by omega,Or.inr ⟨k3,Or.inr ⟨in1,rfl⟩⟩⟩,Or.inr ⟨rfl,by omega⟩,c0,fun e=>by cases e⟩
  | cut c nx V st A B e o a b b2 l d =>
   have nZ:Node h hd c/\Gone h c nx:=by
    rcases e with⟨s,e⟩ | ⟨st,e⟩
    . rw[e] at kn;exact⟨kn.2.1,kn.2.2⟩
    . rw[e] at kn;exact⟨kn.2.1,kn.2.2.1⟩
   obtain⟨Nd,gn⟩:=nZ
   have nd:=S.nd
   rw[b] at nd
   have lN:=(List.nodup_append.1 nd).2.1
   have nA:j∉A:=fun hh=>(List.nodup_append.1 nd).2.2 j hh j (by simp) rfl
   have nB:j∉B:=fun hh=>(List.nodup_cons.1 lN).1 (by simp[hh])
   have DY:∀ i,i≠j->h'.lk i=h.lk i:=fun i hi=>by rw[l,Z9 _ _ _ _ hi]
   have xh:h'.lk j=nx:=by rw[l,upd_same]
   have hjp:h.ZL j=true:=S.pb j (by rw[b];simp)
   have nY:h.lk j<4294967296:=by rw[d];exact(S.h0 c Nd.pu).2
   have FV:Ue (h'.ky hd) h'.lk F' C.k↔Ue (h.ky hd) h.lk F C.k:=by
    constructor
    . rintro⟨i,h1,h2,h3⟩
      have hi:i∈F:=by
       rw[b2] at h1;rw[b]
       rcases List.mem_append.1 h1 with h | h
       . exact List.mem_append_left _ h
       . rcases List.mem_cons.1 h with h | h
         . rw[h];simp
         . exact List.mem_append_right _ (by simp[h])
      refine⟨i,hi,by rw[<- kp.ky i (S.pb i hi)];exact h2,?_⟩
      by_cases ei:i=j
      . rw[ei];exact nY
      . rw[<- DY i ei];exact h3
    . rintro⟨i,h1,h2,h3⟩
      have hne:i≠c:=fun e=>by rw[e,gn.1] at h3;have:=gn.2.1;omega
      refine⟨i,?_,by rw[kp.ky i (S.pb i h1)];exact h2,?_⟩
      . rw[b] at h1;rw[b2]
        rcases List.mem_append.1 h1 with h | h
        . exact List.mem_append_left _ h
        . rcases List.mem_cons.1 h with h | h
          . rw[h];simp
          . rcases List.mem_cons.1 h with h | h
            . exact absurd h hne
            . exact List.mem_append_right _ (by simp[h])
      . by_cases ei:i=j
        . rw[ei,xh];exact gn.2.2
        . rw[DY i ei];exact h3
   have hm:mkd h F=mkd h' F'+1:=by
    have eA:mkd h' A=mkd h A:=Xg (fun i hi=>DY i (fun e=>nA (by rw[<- e];exact hi)))
    have eB:mkd h' B=mkd h B:=Xg (fun i hi=>DY i (fun e=>nB (by rw[<- e];exact hi)))
    have d1:decide (4294967296<=h'.lk j)=false:=decide_eq_false (by rw[xh];have:=gn.2.2;omega)
    have d0:decide (4294967296<=h.lk j)=false:=decide_eq_false (by omega)
    have d2:decide (4294967296<=h.lk c)=true:=decide_eq_true (by rw[gn.1];have:=gn.2.1;omega)
    unfold mkd at eA eB ⊢
    rw[b,b2]
    simp only[List.countP_append,List.countP_cons,d1,d0,d2,if_true,Bool.false_eq_true,if_false]
    omega
   obtain⟨y,e1,e2⟩:=N
   exact⟨1,y+mkd h' F',⟨y,rfl,by rw[FV];exact e2⟩,Or.inr ⟨rfl,by omega⟩,c0,fun e=>by cases e⟩
  | put s d nx V st A B e o a b b2 l l0 =>
   rw[e] at kn
   obtain⟨Ah,fa,ow,jd,jc⟩:=kn
   have k2:C.kd=2:=by have:=T.kd;rw[e] at this;exact this (by simp[Po.kd])
   have hdj:d≠j:=fun e'=>by have:=Ah.pp;rw[<- e',ow.pu] at this;cases this
   have nd:=S.nd
   rw[b] at nd
   have nA:j∉A:=fun hh=>(List.nodup_append.1 nd).2.2 j hh j (by simp) rfl
   have nB:j∉B:=(List.nodup_cons.1 (List.nodup_append.1 nd).2.1).1
   have hjp:=Ah.pp
   have nY:h.lk j<4294967296:=by rw[l0];exact Ah.Uz.2.1
   have hb:=MI X.m.g hG hn hJ ow.dJ
   have DY:∀ i,i≠j->h'.lk i=h.lk i:=fun i hi=>by rw[l,Z9 _ _ _ _ hi]
   have xh:h'.lk j=h.H d:=by rw[l,upd_same]
   have lI:h'.lk d=nx:=by rw[DY d hdj];exact jc
   have ja:h'.ky hd d=C.k:=by unfold Gh.ky;rw[if_neg ow.nh,xk d hdj];exact jd
   have oh:¬ Ue (h.ky hd) h.lk F C.k:=S.absent hjp nY Ah.kp (by rw[l0];exact fa)
   have in1:Ue (h'.ky hd) h'.lk F' C.k:=⟨d,by rw[b2];simp,ja,by rw[lI];exact Ah.Uz.2.1⟩
   have hm:mkd h' F'=mkd h F:=by
    have eA:mkd h' A=mkd h A:=Xg (fun i hi=>DY i (fun e=>nA (by rw[<- e];exact hi)))
    have eB:mkd h' B=mkd h B:=Xg (fun i hi=>DY i (fun e=>nB (by rw[<- e];exact hi)))
    have d1:decide (4294967296<=h'.lk j)=false:=decide_eq_false (by rw[xh];omega)
    have d0:decide (4294967296<=h.lk j)=false:=decide_eq_false (by omega)
    have d2:decide (4294967296<=h'.lk d)=false:=decide_eq_false (by rw[lI];have:=Ah.Uz.2.1;omega)
    unfold mkd at eA eB ⊢
    rw[b,b2]
    simp only[List.countP_append,List.countP_cons,d1,d0,d2,Bool.false_eq_true,if_false]
    omega
   obtain⟨y,e1,e2⟩:=N
   have hy:y=1:=by
    rcases e2 with⟨-,⟨h,-⟩ | ⟨-,h⟩⟩ | ⟨k3,-⟩
    . exact absurd h oh
    . exact h
    . omega
   exact⟨1,mkd h' F',⟨0,by omega,Or.inl ⟨k2,Or.inl ⟨in1,rfl⟩⟩⟩,Or.inr ⟨rfl,by omega⟩,c0,fun e=>by cases e⟩
end
end
section
def vT (h:Gh) (hd:Nat):Po->Rs->Prop
 | .make p _ nx,r=>r.E=0->h.lk p=nx
 | po,r=>C9 h hd po r
structure Ex (h:Gh) (hd:Nat) (C:Cl) (rs:Option Rs) (b:Jb):Prop where
 run:rs=none->QC h C.po/\(∀ W j v c ld,b=.ac W j (.check v c ld)->RS c=h.cv j W.ix.toNat)/\∀ W j v c,b=.ac W j (.lay v c)->W.kd=2->c=h.cv j W.ix.toNat
 told:∀ r,rs=some r->vT h hd C.po r
def dk (h:Gh) (hd p:Nat):Nat:=(8 - h.ky hd p).toNat
def QP (h:Gh) (hd:Nat):Po->Nat
 | .first=>450
 | .link p _ _=>40 * dk h hd p+80
 | .past p _ _ _=>40 * dk h hd p+70
 | .drop p _ _ _=>40 * dk h hd p+90
 | .key p _ _ _ _=>40 * dk h hd p+70
 | .make _ _ _=>32
 | .wkey _ _ _ _=>22
 | .Y3 _ _ _ _=>12
 | .put _ _ _ _=>1
 | .mark _ _ _ _ _=>40
 | .lead _ _ _ _=>30
 | .Zz _ _=>1
 | .Zu _ _ _=>1
 | .over _ _ _=>0
def QR (h:Gh) (hd:Nat) (r:Rs):Po->Nat
 | .past p _ _ _=>if r.E=0 then 40 * dk h hd p+120 else 40 * dk h hd p+70
 | po=>QP h hd po
def QQ (h:Gh) (hd:Nat) (C:Cl):Option Rs->Nat
 | none=>QP h hd C.po
 | some r=>QR h hd r C.po
def WR (ph:Nat) (q:Q) (h:Gh) (b:Jb):Nat:=(3 - ph)+(if ph<=3 then VB q h b else 0)+(if ph<=4 then 1 else 0)
def N7 (q:Q) (h:Gh) (hd:Nat) (C:Cl) (rs:Option Rs) (ph:Nat) (b:Jb) (v:Nat):Prop :=
 ∃ s,((s=0/\Ex h hd C rs b)\/s=460)/\v=QQ h hd C rs+WR ph q h b+s
section
variable {N t n k m σ K:Nat} {q q':Q} {h h':Gh} {jb:Nat->Jb} {hd:Nat} {F F':List Nat} {u u':Hi} {ts:Nat->Option (Cl × Option Rs)} {g p r:Int} {C C' C2:Cl} {R:Rs} {rs rs':Option Rs} {b':Jb} {v ph UL e:Nat}
theorem vT.of {po:Po} {r:Rs} (x:C9 h hd po r):vT h hd po r:=by
 cases po with
 | make p s nx=>exact fun _=>x.2
 | _=>exact x
theorem Md {po:Po} (kp:Keep h h' hd) (U:TJ h hd po):QP h' hd po=QP h hd po:=by
 have key:∀ {a:Nat} {nx:Int},Up h hd a nx->dk h' hd a=dk h hd a:=fun U=>by unfold dk;rw[kp.ky _ U.1]
 cases po with
 | link p s c=>show 40 * dk h' hd p+80=_;rw[key U];rfl
 | past p s c nx=>show 40 * dk h' hd p+70=_;rw[key U.1];rfl
 | drop p s c nx=>show 40 * dk h' hd p+90=_;rw[key U];rfl
 | key p s c nx s2=>show 40 * dk h' hd p+70=_;rw[key U.1];rfl
 | _=>rfl
theorem sN (kp:Keep h h' hd) (U:TJ h hd C.po):QQ h' hd C rs=QQ h hd C rs:=by
 have key:∀ {a:Nat} {nx:Int},Up h hd a nx->dk h' hd a=dk h hd a:=fun U=>by unfold dk;rw[kp.ky _ U.1]
 cases rs with
 | none=>exact Md kp U
 | some r =>
  show QR h' hd r C.po=QR h hd r C.po
  revert U
  cases C.po with
  | past p s c nx =>
   intro U
   show (if r.E=0 then 40 * dk h' hd p+120 else 40 * dk h' hd p+70)=_
   rw[key U.1];rfl
  | _=>intro U;exact Md kp U
theorem DX (po:Po) (r:Rs) (hne:∀ p s c nx,po=.past p s c nx->r.E≠0):QR h hd r po=QP h hd po:=by
 cases po with
 | past p s c nx=>exact if_neg (hne p s c nx rfl)
 | _=>rfl
theorem sK (po:Po) (r:Rs):QR h hd r po<=QP h hd po+50:=by
 cases po with
 | past p s c nx=>show (if r.E=0 then _ else _)<=40 * dk h hd p+70+50;split <;> omega
 | _=>exact Nat.le_add_right _ _
theorem Ex.exj (X:Lc t n k m q σ h jb hd F u ts) (hts:ts K=some (C,none)) {W:Wt} {j:Nat} {α:Ac} (hjb:jb K=.ac W j α) (E:Ex h hd C none (.ac W j α)):MV k m q h (.ac W j α):=by
 have T:=X.t K C none hts
 have O:=X.m.jk K
 rw[hjb] at T O
 obtain⟨kn,ji,-⟩:=T.run rfl
 obtain⟨hj,WK,AK⟩:=O
 obtain⟨xl,xc,xo⟩:=E.run rfl
 have S:=X.l.l
 have qR:∀ i,i∈F->h.st i<=4:=fun i hi=>by have:=X.l.f3 i hi;omega
 have un:∀ i,h.ZL i=true->h.lk i<4294967296->h.st i<=4:=fun i h1 h2=>qR i (S.mem h1 h2)
 have lay:∀ v c,α=.lay v c->W.kd=3->h.lk j=W.ol->W.ix=1->c=h.cv j W.ix.toNat:=fun v c e k3 k4 k5=>by
  subst e
  obtain⟨-,V,hr⟩:=AK
  unfold Wt.reads Wt.other at hr
  rw[k3,U0 V.1 V.2] at hr
  simp at hr
  rw[hr,<- k4,k5];rfl
 have fin:h.st j<=4->(∀ v c,α=.lay v c->c=h.cv j W.ix.toNat)->MV k m q h (.ac W j α):=fun h4 hl=>by
  cases α with
  | check v c ld=>exact⟨h4,xc W j v c ld rfl⟩
  | lay v c=>exact⟨h4,hl v c rfl⟩
  | _=>exact h4
 have rd:W.kd=1->∀ v c,α=.lay v c->c=h.cv j W.ix.toNat:=fun k1 v c e=>by
  subst e
  have:=AK.2.2
  unfold Wt.reads at this
  rw[k1] at this
  simp at this
 revert kn ji xl
 cases C.po with
 | first =>
  rintro - ⟨W',β,e,k1,k2⟩ -
  cases e
  exact fin (qR _ (by obtain⟨C0,hC⟩:=S.hf;rw[hC];simp)) (rd k1)
 | link p s c =>
  rintro kn ⟨W',β,e,k1,k2⟩ xl
  cases e
  exact fin (qR _ (S.DW kn.1.pp kn.2.pu xl)) (rd k1)
 | key p s c nx s2 =>
  rintro kn ⟨W',β,e,k1,k2⟩ xl
  cases e
  exact fin (qR _ (S.DW kn.1.pp kn.2.1.pu xl.1)) (rd k1)
 | past p s c nx =>
  rintro kn ⟨W',β,e,k1,k2,k3,k4⟩ xl
  cases e
  have hl:h.lk j=h.H c:=xl
  exact fin (un j kn.1.pp (by rw[hl];exact(S.h0 c kn.2.1.pu).2)) (fun v c' e=>lay v c' e k1 (hl.trans k3.symm) k2)
 | put p s nx d =>
  rintro kn ⟨W',β,e,k1,k2,k3,k4⟩ xl
  cases e
  have hl:h.lk j=nx:=xl
  exact fin (un j kn.1.pp (by rw[hl];exact kn.1.Uz.2.1)) (fun v c' e=>lay v c' e k1 (hl.trans k3.symm) k2)
 | mark p s c nx s2 =>
  rintro kn ⟨W',β,e,k1,k2,k3,k4⟩ xl
  cases e
  exact fin (un j kn.2.1.pu (by rw[xl.2];exact kn.2.2.2.2.1)) (fun v c' e=>lay v c' e k1 (xl.2.trans k3.symm) k2)
 | lead p c nx st =>
  rintro kn ⟨W',β,e,k1,k2,k3,k4⟩ xl
  cases e
  have hl:h.lk j=h.H c:=xl
  exact fin (un j kn.1 (by rw[hl];exact(S.h0 c kn.2.1.pu).2)) (fun v c' e=>lay v c' e k1 (hl.trans k3.symm) k2)
 | wkey p s nx d =>
  rintro kn ⟨W',β,e,k1,k2,k3⟩ xl
  cases e
  exact fin (by have:=kn.2.2.st;omega) (fun v c e=>xo W j v c (by rw[e]) k1)
 | Y3 p s nx d =>
  rintro kn ⟨W',β,e,k1,k2,k3⟩ xl
  cases e
  exact fin (by have:=kn.2.2.1.st;omega) (fun v c e=>xo W j v c (by rw[e]) k1)
 | drop=>rintro - ⟨β,e⟩;cases e
 | make=>rintro - ⟨i,β,e⟩;cases e
 | Zz=>rintro - ⟨β,e⟩;cases e
 | Zu=>rintro - ⟨β,e⟩;cases e
 | over=>intro _ h;exact h.elim
theorem DU {W:Wt} {own:Bool} {x G σ:Nat} {q q':Q} {α α':Ac} (ht:Za W own x G σ q α=(q',α')):q'.c=q.c:=by
 cases α with
 | stop v=>obtain⟨rfl,-⟩:=Prod.mk.inj ht;split <;> rfl
 | lay v c =>
  simp only[Za] at ht
  split at ht <;> (obtain⟨rfl,-⟩:=Prod.mk.inj ht;rfl)
 | _=>obtain⟨rfl,-⟩:=Prod.mk.inj ht;rfl
theorem RZ (b:Jb):WR 3 q h b=VB q h b+1:=by
 show 0+VB q h b+1=_
 omega
theorem JP (b:Jb):WR 4 q h b=1:=rfl
theorem N7.go (X:Lc t n 12 40 q σ h jb hd F u ts) (hG:Good t n 12 40 g p r) (hn:n<=65535) (hcg:(h.J:Int)+2<=g) (hK:K<4) (Ro:Om 4 q h jb) (hJ:h.J<=12) (sg:Seg (jb K)) (U:TJ h hd C.po) (hts:ts K=some (C,rs)) (h5:ph<=4)
 (G:UE t n 12 40 g h σ q u F K C rs (jb K) h' q' u' F' C' rs' b' (decide (ph≠3))) (p3:ph<3->UL=ph+1) (p4:ph=3->UL=if rs'=none then 3 else 4) (p5:ph=4->UL=5) (he:e=0->F'=F) (V:N7 q h hd C rs ph (jb K) v) :
 Seg b'/\∃ v' c,N7 q' h' hd C' rs' UL b' v'/\Cst q q' c/\v'+1+c<=v+60 * e:=by
 have kp:=G.keep X
 have sm:=G.same
 have T:=X.t K C rs hts
 obtain⟨s,hs,hv⟩:=V
 generalize hpb:decide (ph≠3)=pb at G
 have nU:pb=false->ph=3:=fun e=>by
  refine Classical.byContradiction fun hne=>?_
  rw[decide_eq_true hne] at hpb
  rw[<- hpb] at e;cases e
 cases G with
 | pin =>
  have hne:ph≠3:=of_decide_eq_true hpb
  refine⟨sg,QQ h hd C rs+WR UL q h (jb K)+s,0,⟨s,hs,rfl⟩,Or.inl ⟨rfl,rfl,rfl⟩,?_⟩
  have key:WR UL q h (jb K)+1<=WR ph q h (jb K):=by
   by_cases hp:ph<3
   . rw[p3 hp]
     unfold WR
     rw[if_pos (by omega),if_pos (by omega),if_pos (by omega),if_pos (by omega)]
     omega
   . have e4:ph=4:=by omega
     rw[p5 e4,e4]
     show 0+0+0+1<=0+0+1
     omega
  omega
 | @dp j α α' _ _ _ hb hr ht c h1 h2 =>
  subst hr
  have e3:=nU rfl
  subst e3
  have ji:=(T.run rfl).2.1
  rw[hb] at ji hv hs
  obtain⟨cc,hC,hle⟩:=X.m.xe (h':=h') hG hn (by omega) hcg hb ht
  have qp:QP h' hd C.po=QP h hd C.po:=Md kp U
  have iY:∀ p s c nx,C.po≠.past p s c nx:=fun p s c nx e=>by rw[e] at ji;obtain⟨W,β,e',-⟩:=ji;cases e'
  refine⟨by split <;> trivial,?_⟩
  rw[RZ] at hv
  have hv':v=QP h hd C.po+(VB q h (.dp j α)+1)+s:=hv
  have ex:∀ AA b2,(AA=none->b2=.dp j α'\/b2=.nil)->(∀ r2,AA=some r2->True)->(s=0/\Ex h hd C none (.dp j α))\/s=460->(s=0/\Ex h' hd C AA b2)\/s=460:=fun AA b2 hb2 _ hs=>by
   rcases hs with⟨h0,E⟩ | h0
   . refine Or.inl ⟨h0,fun hr=>⟨((QC.dp (r:=⟨0,0,0⟩) (F:=F) (T:=0) c (E.run rfl).1 ji)).1,fun W j v c ld e=>?_,fun W j v c e=>?_⟩,fun r2 hr=>vT.of (QC.dp (F:=F) (T:=0) c (E.run rfl).1 ji).2.1⟩
     . rcases hb2 hr with h | h <;> (rw[h] at e;cases e)
     . rcases hb2 hr with h | h <;> (rw[h] at e;cases e)
   . exact Or.inr h0
  cases ho:α'.ZT with
  | false =>
   have er:=h1 ho
   rw[ho] at hle
   have hle:VB q' h' (.dp j α')+1+cc<=VB q h (.dp j α):=hle
   rw[p4 rfl,er,if_pos rfl]
   refine⟨QP h' hd C.po+WR 3 q' h' (.dp j α')+s,cc,⟨s,ex none _ (fun _=>Or.inl rfl) (fun _ _=>trivial) hs,rfl⟩,hC,?_⟩
   rw[RZ]
   omega
  | true =>
   cases α' with
   | over E =>
    obtain⟨-,er⟩:=h2 E rfl
    have hle:0+1+cc<=VB q h (.dp j α):=hle
    rw[p4 rfl,er,if_neg (by simp)]
    refine⟨QR h' hd ⟨0,0,σ+1⟩ C.po+WR 4 q' h' .nil+s,cc,⟨s,ex (some _) _ (fun e=>by cases e) (fun _ _=>trivial) hs,rfl⟩,hC,?_⟩
    rw[JP,DX _ _ (fun p s c nx e=>absurd e (iY p s c nx))]
    omega
   | _=>cases ho
 | @al j j' α α' _ _ _ hb hr ht ev h1 h2 =>
  subst hr
  have e3:=nU rfl
  subst e3
  have ji:=(T.run rfl).2.1
  have kn:=(T.run rfl).1
  rw[hb] at ji hv hs
  obtain⟨tH,cc,hC,hle⟩:=X.m.wZ (h':=h') (j':=j') Ro hJ sg hb ht
  have qp:QP h' hd C.po=QP h hd C.po:=Md kp U
  obtain⟨a,s1,nx,hpo⟩:∃ a s nx,C.po=.make a s nx:=by
   revert ji
   cases C.po with
   | make a s nx=>exact fun _=>⟨a,s,nx,rfl⟩
   | drop=>intro i;obtain⟨β,e⟩:=i;cases e
   | Zz=>intro i;obtain⟨β,e⟩:=i;cases e
   | Zu=>intro i;obtain⟨β,e⟩:=i;cases e
   | over=>intro i;exact i.elim
   | _=>intro i;obtain⟨W,β,e,-⟩:=i;cases e
  rw[RZ] at hv
  have hv':v=QP h hd C.po+(VB q h (.al j α)+1)+s:=hv
  have ng:(jb K).gives=false:=by
   rw[hb] at sg ⊢
   cases α with
   | give=>exact sg.elim
   | _=>rfl
  obtain⟨tk,O,Fl,R,Wy⟩:=Ro.free (Or.inr ⟨rfl,hJ⟩)
  have n6:=(R.go1 X.m hK Wy ng hb ht ev).2.2
  have hl:QC h C.po->h'.lk a=nx:=fun x=>by
   rw[hpo] at x kn
   exact QC.al (X.l.pJ a kn.1.pp) x ev
  have ex:∀ AA b2,(AA=none->b2=.al j' α')->(∀ r2:Rs,AA=some r2->r2.E=0\/r2.E=7)->(s=0/\Ex h hd C none (.al j α))\/s=460->(s=0/\Ex h' hd C AA b2)\/s=460:=fun AA b2 hb2 h7 hs=>by
   rcases hs with⟨h0,E⟩ | h0
   . have hx:=hl (E.run rfl).1
     refine Or.inl ⟨h0,fun hr=>⟨by rw[hpo];exact hx,fun W j v c ld e=>?_,fun W j v c e=>?_⟩,fun r2 hr=>by rw[hpo];exact fun _=>hx⟩
     . rw[hb2 hr] at e;cases e
     . rw[hb2 hr] at e;cases e
   . exact Or.inr h0
  refine⟨tH,?_⟩
  cases ho:α'.ZT with
  | false =>
   have er:=h1 ho
   rw[ho] at hle
   have hle:VB q' h' (.al j' α')+1+cc<=VB q h (.al j α):=hle
   rw[p4 rfl,er,if_pos rfl]
   refine⟨QP h' hd C.po+WR 3 q' h' (.al j' α')+s,cc,⟨s,ex none _ (fun _=>rfl) (fun _ e=>by cases e) hs,rfl⟩,hC,?_⟩
   rw[RZ]
   omega
  | true =>
   cases α' with
   | over E H st =>
    have er:=h2 E H st rfl
    have hle:0+1+cc<=VB q h (.al j α):=hle
    have h7:E=0\/E=7:=by
     have:=n6 E H st rfl
     cases ev with
     | on c hs ho'=>cases ho'
     | made=>exact Or.inl rfl
     | none=>exact Or.inr rfl
     | full=>exact absurd rfl this
    rw[p4 rfl,er,if_neg (by simp)]
    refine⟨QR h' hd ⟨E,H,st⟩ C.po+WR 4 q' h' .nil+s,cc,⟨s,ex (some _) _ (fun e=>by cases e) (fun r2 e=>by injection e with e;rw[<- e];exact h7) hs,rfl⟩,hC,?_⟩
    rw[JP,DX _ _ (fun p s c nx e=>by rw[hpo] at e;cases e)]
    omega
   | _=>cases ho
 | @ac W j α α' _ _ _ _ _ _ hb hr ht G =>
  subst hr
  have e3:=nU rfl
  subst e3
  rw[hb] at hv hs
  have Ok:=X.m.jk K
  rw[hb] at Ok
  obtain⟨h1,ev,I5,est⟩:=G.e
  have hle:VB q' h' (if α'.ZT then .nil else .ac W j α')+1<=VB q h (.ac W j α):=by
   have:=wY (q:=q) (q':=q') Ok.2.2 ev
   have e':VB q' h' (if α'.ZT then .nil else .ac W j α')=VB q' h1 (if α'.ZT then .nil else .ac W j α'):=by
    split
    . rfl
    . cases α' with
      | lay v c=>show (if c=h'.cv j _ then _ else _)=(if c=h1.cv j _ then _ else _);rw[I5]
      | _=>rfl
   rw[e'];exact this
  have qp:QP h' hd C.po=QP h hd C.po:=Md kp U
  have hC:Cst q q' 0:=Or.inl ⟨DU ht,Qn ht,rfl⟩
  rw[RZ] at hv
  have hv':v=QP h hd C.po+(VB q h (.ac W j α)+1)+s:=hv
  refine⟨by split <;> trivial,?_⟩
  have al:=fun E:Ex h hd C none (.ac W j α)=>X.I7 (q':=q') (T:=110) hts hb G (Nat.le_refl _) (E.run rfl).1 (E.exj X hts hb)
  cases ho:α'.ZT with
  | false =>
   obtain⟨eC,er,-⟩:=G.on ho
   rw[ho] at hle
   have hle:VB q' h' (.ac W j α')+1<=VB q h (.ac W j α):=hle
   subst eC
   rw[p4 rfl,er,if_pos rfl]
   refine⟨QP h' hd C'.po+WR 3 q' h' (.ac W j α')+s,0,⟨s,?_,rfl⟩,hC,?_⟩
   . rcases hs with⟨h0,E⟩ | h0
     . obtain⟨x1,x2,-,-⟩:=(al E).1 ho
       refine Or.inl ⟨h0,fun _=>⟨x1,fun W' j' v c ld e=>?_,fun W' j' v c e _=>?_⟩,fun r2 e=>by cases e⟩
       . injection e with e1 e2 e3
         subst e1 e2 e3
         exact x2.2
       . injection e with e1 e2 e3
         subst e1 e2 e3
         exact x2.2
     . exact Or.inr h0
   . rw[RZ]
     omega
  | true =>
   cases α' with
   | over E V0 st =>
    obtain⟨er,eC⟩:=G.end_ E V0 st rfl
    have hle:0+1<=VB q h (.ac W j α):=hle
    rw[p4 rfl,er,if_neg (by simp)]
    refine⟨QR h' hd ⟨E,V0,st⟩ C'.po+WR 4 q' h' .nil+s,0,⟨s,?_,rfl⟩,hC,?_⟩
    . rcases hs with⟨h0,Ee⟩ | h0
      . refine Or.inl ⟨h0,(fun e=>by cases e),fun r2 e=>?_⟩
        injection e with e
        subst e
        rw[sm.1]
        exact vT.of ((al Ee).2.1 E V0 st rfl).1
      . exact Or.inr h0
    . rw[JP,sm.1]
      by_cases hp:∃ p s c nx,C.po=.past p s c nx/\E=0
      . obtain⟨p0,s0,c0,je,hpo,rfl⟩:=hp
        have wF:p0=j:=by
         have ji:=(T.run rfl).2.1
         rw[hb,hpo] at ji
         obtain⟨W',β,e1,-⟩:=ji
         injection e1 with e1 e2 e3
         exact e2.symm
        subst wF
        have h50:=sK (h:=h') (hd:=hd) C.po ⟨0,V0,st⟩
        have hne:e≠0:=fun e0=>by
         obtain⟨A,B,f1,f2⟩:=G.fp _ _ _ _ _ hpo rfl
         have:=congrArg List.length (he e0)
         rw[f1,f2] at this
         simp at this
        omega
      . rw[DX _ _ (fun p s c nx e e0=>hp ⟨p,s,c,nx,e,e0⟩)]
        omega
   | _=>cases ho
theorem N7.next (X:Lc t n 12 40 q σ h jb hd F u ts) (hts:ts K=some (C,some R)) (k8:C.k<=8) (U:TJ h hd C.po) (N:FT h hd C R C2 C.po) (ho:∀ E v st,C2.po≠.over E v st) (G:Rt h hd σ u K C C2 R) {b:Jb} (V:N7 q h hd C (some R) 5 b v):∃ v',N7 q h hd C2 none 0 (C2.YF h hd) v'/\v'<=v:=by
 have T:=X.t K C _ hts
 have rk:=(T.told R rfl).2
 obtain⟨s,hs,hv⟩:=V
 have hv:v=QR h hd R C.po+0+s:=hv
 have nT:WR 0 q h (C2.YF h hd)=4+VB q h (C2.YF h hd):=by
  show (3 - 0)+VB q h (C2.YF h hd)+1=_
  omega
 have sJ:∀ W j v c ld,C2.YF h hd≠.ac W j (.check v c ld):=fun W j v c ld=>by unfold Cl.YF;cases C2.po <;> simp
 have sH:∀ W j v c,C2.YF h hd≠.ac W j (.lay v c):=fun W j v c=>by unfold Cl.YF;cases C2.po <;> simp
 have ex:C9 h hd C.po R->Ex h hd C2 none (C2.YF h hd):=fun x=>⟨fun _=>⟨(X.Pv N ho G x hts).1,fun W j v c ld e=>absurd e (sJ W j v c ld),fun W j v c e=>absurd e (sH W j v c)⟩,fun r e=>by cases e⟩
 have goes:(s=0->C9 h hd C.po R)->QP h hd C2.po+(4+VB q h (C2.YF h hd))<=QR h hd R C.po->∃ v',N7 q h hd C2 none 0 (C2.YF h hd) v'/\v'<=v:=fun hx hle=>by
  refine⟨QP h hd C2.po+WR 0 q h (C2.YF h hd)+s,⟨s,?_,rfl⟩,by rw[nT];omega⟩
  rcases hs with⟨h0,-⟩ | h0
  . exact Or.inl ⟨h0,ex (hx h0)⟩
  . exact Or.inr h0
 have anew:s≠0->C2=C.at_ .first->∃ v',N7 q h hd C2 none 0 (C2.YF h hd) v'/\v'<=v:=fun h0 e=>by
  have iW:s=460:=by rcases hs with⟨h,-⟩ | h;exact absurd h h0;exact h
  subst e
  refine⟨450+9+0,⟨0,Or.inl ⟨rfl,⟨fun _=>⟨trivial,fun W j v c ld e=>absurd e (sJ W j v c ld),fun W j v c e=>absurd e (sH W j v c)⟩,fun r e=>by cases e⟩⟩,rfl⟩,by omega⟩
 have told:s=0->vT h hd C.po R:=fun h0=>by
  rcases hs with⟨-,E⟩ | h1
  . exact E.told R rfl
  . omega
 have miss:∀ {a s1 nx},PW h hd C a s1 nx C2->QP h hd C2.po+(4+VB q h (C2.YF h hd))<=67:=fun {a s1 nx} M=>by
  rcases M.2 with⟨-,e⟩ | ⟨-,-,e⟩ | ⟨d,-,-,e⟩
  . rw[e] at ho;exact absurd rfl (ho _ _ _)
  . rw[e];show 32+(4+31)<=67;omega
  . rw[e];show 12+(4+5)<=67;omega
 have reach:∀ {a s1 nx},Reach h hd C a s1 nx C2->QP h hd C2.po+(4+VB q h (C2.YF h hd))<=40 * dk h hd a+89:=fun {a s1 nx} M=>by
  rcases M with⟨-,M⟩ | ⟨c,-,-,e⟩
  . have:=miss M;omega
  . rw[e];show 40 * dk h hd a+80+(4+5)<=_;omega
 have iU:dk h hd hd=9:=by unfold dk Gh.ky;rw[if_pos rfl];rfl
 revert N rk goes anew told U
 cases hpo:C.po with
 | first =>
  intro U N rk goes anew told
  have hle:=reach N.2
  rw[iU] at hle
  exact goes told (by show _<=450;omega)
 | link p s1 c =>
  intro U N rk goes anew told
  rcases N with⟨eE,e⟩ | ⟨eE,hv,e⟩ | ⟨eE,hv,e⟩
  . exact anew (fun h0=>eE (told h0).1) e
  . refine goes told ?_
    rw[e];show 40 * dk h hd p+70+(4+5)<=40 * dk h hd p+80;omega
  . refine goes told ?_
    rw[e];show 40 * dk h hd p+70+(4+5)<=40 * dk h hd p+80;omega
 | past p s1 c nx =>
  intro U N rk goes anew told
  rcases N with⟨eE,e⟩ | ⟨eE,e⟩
  . exact anew (fun h0=>eE (told h0).1) e
  . refine goes told ?_
    rw[e]
    show 40 * dk h hd p+90+(4+23)<=(if R.E=0 then 40 * dk h hd p+120 else _)
    rw[if_pos eE];omega
 | drop p s1 c nx =>
  intro U N rk goes anew told
  have hle:=reach N
  exact goes told (by show _<=40 * dk h hd p+90;omega)
 | key p s1 c nx s2 =>
  intro U N rk goes anew told
  have qQ:QR h hd R (.key p s1 c nx s2)=40 * dk h hd p+70:=rfl
  rcases N with⟨eE,e⟩ | ⟨eE,hv,M⟩ | ⟨-,-,M⟩ | ⟨eE,-,⟨-,e⟩ | ⟨-,e⟩ | ⟨-,-,e⟩ | ⟨d,-,-,e⟩⟩
  . exact anew (fun h0=>eE (told h0).1) e
  . have hle:=reach M
    have hN:Node h hd c:=(rk eE).1.2.1
    have hl:=Up.less X.l U.1 hN.pu
    have hk:h.ky hd c=R.V:=by unfold Gh.ky;rw[if_neg hN.nh];exact(rk eE).2.symm
    refine goes told ?_
    rw[qQ]
    have hd1:dk h hd c+1<=dk h hd p:=by unfold dk;omega
    omega
  . have hle:=miss M
    exact goes told (by rw[qQ];omega)
  . refine goes told ?_
    rw[e,qQ];show 40+(4+5)<=_;omega
  . rw[e] at ho;exact absurd rfl (ho _ _ _)
  . rw[e] at ho;exact absurd rfl (ho _ _ _)
  . refine goes told ?_
    rw[e,qQ];show 1+(4+23)<=_;omega
 | make p s1 nx =>
  intro U N rk goes anew told
  rcases N with⟨-,e⟩ | ⟨eE,d,-,-,e⟩
  . rw[e] at ho;exact absurd rfl (ho _ _ _)
  . refine goes (fun h0=>⟨Or.inl eE,told h0 eE⟩) ?_
    rw[e];show 22+(4+5)<=32;omega
 | wkey p s1 nx d =>
  intro U N rk goes anew told
  refine goes told ?_
  rw[show C2=_ from N];show 12+(4+5)<=22;omega
 | Y3 p s1 nx d =>
  intro U N rk goes anew told
  refine goes told ?_
  rw[show C2=_ from N];show 1+(4+5)<=12;omega
 | put p s1 nx d =>
  intro U N rk goes anew told
  rcases N with⟨eE,e⟩ | ⟨-,e⟩
  . exact anew (fun h0=>eE (told h0)) e
  . rw[e] at ho;exact absurd rfl (ho _ _ _)
 | mark p s1 c nx s2 =>
  intro U N rk goes anew told
  rcases N with⟨eE,e⟩ | ⟨-,e⟩
  . exact anew (fun h0=>eE (told h0).1) e
  . refine goes told ?_
    rw[e];show 30+(4+5)<=40;omega
 | lead p c nx st =>
  intro U N rk goes anew told
  rcases N with⟨-,e⟩ | ⟨-,e⟩
  . rw[e] at ho;exact absurd rfl (ho _ _ _)
  . refine goes told ?_
    rw[e];show 1+(4+23)<=30;omega
 | Zz c st=>intro U N;rw[show C2=_ from N] at ho;exact absurd rfl (ho _ _ _)
 | Zu d v st=>intro U N;rw[show C2=_ from N] at ho;exact absurd rfl (ho _ _ _)
 | over=>intro U N;exact N.elim
theorem Ex.other {K':Nat} {C1:Cl} {FN:Option Rs} (X:Lc t n 12 40 q σ h jb hd F u ts) (kp:Keep h h' hd) (fr:Far h h' K 0) (hne:K'≠K) (hts:ts K'=some (C1,FN)) (E:Ex h hd C1 FN (jb K')):Ex h' hd C1 FN (jb K'):=by
 have T:=X.t K' C1 FN hts
 have Ok:=X.m.jk K'
 have lk:∀ i,h.ZL i=true->h'.lk i=h.lk i:=fun i hi=>fr.c1 rfl i (X.l.pJ i hi) (Or.inl hi)
 have AU:h.ZL hd=true:=by obtain⟨C0,hC⟩:=X.l.l.hf;exact X.l.l.pb hd (by rw[hC];simp)
 have cv:∀ W j α,jb K'=.ac W j α->h'.cv j W.ix.toNat=h.cv j W.ix.toNat:=fun W j α e=>by
  rw[e] at Ok
  obtain⟨hj,WK,-⟩:=Ok
  have hp:h.ZL j=true\/h.ma j≠K:=by
   rcases WK.pv with b | ⟨b,-⟩
   . exact Or.inl b
   . exact Or.inr (by rw[b];exact hne)
  rcases WK.ix with e | e
  . rw[e];exact fr.c0 j hj hp
  . rw[e];exact fr.c1 rfl j hj hp
 refine⟨fun hr=>?_,fun r hr=>?_⟩
 . obtain⟨x1,x2,x3⟩:=E.run hr
   have kn:=(T.run hr).1
   refine⟨?_,fun W j v c ld e=>by rw[cv W j _ e];exact x2 W j v c ld e,fun W j v c e k2=>by rw[cv W j _ e];exact x3 W j v c e k2⟩
   revert x1 kn
   cases C1.po with
   | link p s c=>intro x kn;show h'.lk p=h'.H c;rw[lk p kn.1.pp,kp.H c kn.2.pu];exact x
   | past p s c nx=>intro x kn;show h'.lk p=h'.H c;rw[lk p kn.1.pp,kp.H c kn.2.1.pu];exact x
   | drop p s c nx=>intro x kn;show h'.lk p=nx;rw[lk p kn.1.pp];exact x
   | key p s c nx s2=>intro x kn;exact⟨by rw[lk p kn.1.pp,kp.H c kn.2.1.pu];exact x.1,by rw[lk c kn.2.1.pu];exact x.2⟩
   | make p s nx=>intro x kn;show h'.lk p=nx;rw[lk p kn.1.pp];exact x
   | wkey p s nx d=>intro x kn;show h'.lk p=nx;rw[lk p kn.1.pp];exact x
   | Y3 p s nx d=>intro x kn;show h'.lk p=nx;rw[lk p kn.1.pp];exact x
   | put p s nx d=>intro x kn;show h'.lk p=nx;rw[lk p kn.1.pp];exact x
   | mark p s c nx s2=>intro x kn;exact⟨by rw[lk p kn.1,kp.H c kn.2.1.pu];exact x.1,by rw[lk c kn.2.1.pu];exact x.2⟩
   | lead p c nx st=>intro x kn;show h'.lk p=h'.H c;rw[lk p kn.1,kp.H c kn.2.1.pu];exact x
   | _=>intro _ _;trivial
 . have x:=E.told r hr
   have kn:=(T.told r hr).2
   revert x kn
   cases C1.po with
   | first=>intro x kn;show h'.lk hd=r.V;rw[lk hd AU];exact x
   | link p s c =>
    rintro⟨x1,x2,x3⟩ kn
    obtain⟨a,b,-⟩:=kn x1
    exact⟨x1,by rw[lk p a.pp,kp.H c b.pu];exact x2,by rw[lk c b.pu];exact x3⟩
   | past p s c nx =>
    rintro⟨x1,x2⟩ kn
    exact⟨x1,by rw[lk p (kn x1).1.1.pp];exact x2⟩
   | drop p s c nx=>intro x kn;show h'.lk p=nx;rw[lk p kn.pp];exact x
   | key p s c nx s2 =>
    rintro⟨x1,x2,x3⟩ kn
    obtain⟨⟨a,b,-⟩,-⟩:=kn x1
    exact⟨x1,by rw[lk p a.pp,kp.H c b.pu];exact x2,by rw[lk c b.pu];exact x3⟩
   | make p s nx =>
    intro x kn e
    obtain⟨d,-,a,-⟩:=kn e
    rw[lk p a.pp];exact x e
   | wkey p s nx d=>intro x kn;show h'.lk p=nx;rw[lk p kn.2.1.pp];exact x
   | Y3 p s nx d=>intro x kn;show h'.lk p=nx;rw[lk p kn.2.1.pp];exact x
   | put p s nx d=>intro x _;exact x
   | mark p s c nx s2 =>
    rintro⟨x1,x2⟩ kn
    obtain⟨a,b,-⟩:=kn x1
    exact⟨x1,by rw[lk p a,kp.H c b.pu];exact x2⟩
   | lead p c nx st=>intro x _;exact x
   | _=>intro _ _;trivial
theorem N7.other {K' c v1 Yk:Nat} {C1:Cl} {FN:Option Rs} (X:Lc t n 12 40 q σ h jb hd F u ts) (kp:Keep h h' hd) (he:e=0\/e=1) (fr:Far h h' K e) (hC:Cst q q' c) (hne:K'≠K) (hts:ts K'=some (C1,FN)) (U:TJ h hd C1.po) (V:N7 q h hd C1 FN Yk (jb K') v1):∃ v2,N7 q' h' hd C1 FN Yk (jb K') v2/\v2<=v1+(if c=0 then 0 else 3)+464 * e:=by
 obtain⟨s,hs,hv⟩:=V
 have hQ:QQ h' hd C1 FN=QQ h hd C1 FN:=sN kp U
 have rem:∀ d,VB q' h' (jb K')<=VB q h (jb K')+d->WR Yk q' h' (jb K')<=WR Yk q h (jb K')+d:=fun d hd'=>by
  unfold WR
  split <;> split <;> omega
 rcases he with rfl | rfl
 . have Ok:=X.m.jk K'
   have hr:=rem _ (Gp (h:=h) (h':=h') (b:=jb K') hC (fun W j v x e=>by
    rw[e] at Ok
    obtain⟨hj,WK,-⟩:=Ok
    have hp:h.ZL j=true\/h.ma j≠K:=by
     rcases WK.pv with b | ⟨b,-⟩
     . exact Or.inl b
     . exact Or.inr (by rw[b];exact hne)
    rcases WK.ix with e | e
    . rw[e];exact fr.c0 j hj hp
    . rw[e];exact fr.c1 rfl j hj hp))
   refine⟨QQ h' hd C1 FN+WR Yk q' h' (jb K')+s,⟨s,?_,rfl⟩,by omega⟩
   rcases hs with⟨h0,E⟩ | h0
   . exact Or.inl ⟨h0,E.other X kp fr hne hts⟩
   . exact Or.inr h0
 . have hr:=rem 4 (Az (b:=jb K') q q' h h')
   exact⟨QQ h' hd C1 FN+WR Yk q' h' (jb K')+460,⟨460,Or.inr rfl,rfl⟩,by omega⟩
end
end
section
def Gt:Option (Cl × Option Rs)->Jb->Nat
 | none,_=>0
 | some (C,_),b=>P9 C b
def Me:Option (Cl × Option Rs)->Nat
 | none=>0
 | some (C,r)=>if (claim C r).isSome then 1 else 0
theorem Xe (C:Cl) (r:Option Rs):Me (some (C,r))=if (claim C r).isSome then 1 else 0:=rfl
structure IV (kd k:Int) (σ0 σ:Nat) (q:Q) (h:Gh) (jb:Nat->Jb) (F:List Nat) (u:Hi) (ts:Nat->Option (Cl × Option Rs)) (ph:Nat->Nat) (Zi V:Nat):Prop where
 room:Om 4 q h jb
 ord:Ord h 0
 sg:∀ K,Seg (jb K)
 xg:∀ K C rs,ts K=some (C,rs)->Asc h 0 C rs (jb K)/\C.kd=kd/\C.k=k/\σ0<=C.b
 mz:∀ K C rs,ts K=some (C,rs)->∀ R a s nx,C.po=.make a s nx->rs=some R->R.E=0
 cnt:h.J+tot (fun K=>Gt (ts K) (jb K)) 4<=11
 qV:∃ x v,JY h 0 F kd k x/\(∀ K C rs,ts K=some (C,rs)->N7 q h 0 C rs (ph K) (jb K) (v K))/\tot v 4+1460 * x<=V
 mono:∀ s,σ0<=s->s<=σ->(u.S s k↔kd=2)->(u.S σ k↔kd=2)
 vV:((u.S σ k↔kd=2)/\tot (fun K=>Me (ts K)) 4+Zi=1)\/(¬ (u.S σ k↔kd=2)/\tot (fun K=>Me (ts K)) 4+Zi=0)
 fin:(∃ K,K<4/\ts K=none)->(u.S σ k↔kd=2)
 s0:σ0<=σ
section
variable {kd k:Int} {n σ0 σ K Zi V:Nat} {q q':Q} {h h':Gh} {jb:Nat->Jb} {F F':List Nat} {u u':Hi} {ts:Nat->Option (Cl × Option Rs)} {ph:Nat->Nat} {UL:Nat} {g p r:Int} {C C' C2:Cl} {R:Rs} {rs rs':Option Rs} {b':Jb} {S:Lr}
theorem OA (f:Nat->Nat):tot f 4=f 0+f 1+f 2+f 3:=by
 show (((0+f 0)+f 1)+f 2)+f 3=_
 omega
theorem WL {f g:Nat->Nat} (hK:K<4) (h:∀ i,i≠K->g i=f i):tot g 4+f K=tot f 4+g K:=YQ hK (fun i _ hi=>h i hi)
theorem IV.lH (A:IV kd k σ0 σ q h jb F u ts ph Zi V):h.J<=12:=by
 have:=A.cnt
 omega
theorem IV.pos (A:IV kd k σ0 σ q h jb F u ts ph Zi V) (hK:K<4) (hts:ts K=some (C,rs)) (h4:ph K<=4):1<=V:=by
 obtain⟨x,v,-,hR,hV⟩:=A.qV
 obtain⟨s,-,e⟩:=hR K C rs hts
 have h1:v K<=tot v 4:=Qm hK
 have:1<=WR (ph K) q h (jb K):=by
  unfold WR
  rw[if_pos h4];omega
 omega
theorem IV.go (A:IV kd k σ0 σ q h jb F u ts ph Zi V) (hn:17<=n) (hK:K<4) (hG:Good 4 n 12 40 g p r) (hn2:n<=65535) (hg:14<=g) (X:Lc 4 n 12 40 q σ h jb 0 F u ts) (X':Lc 4 n 12 40 q' (σ+1) h' (upd jb K b') 0 F' u' (upd ts K (some (C',rs')))) (hts:ts K=some (C,rs)) (I:XL h 0 C rs S) (B:∀ K C rs,ts K=some (C,rs)->C.bd h.J 0) (h4:ph K<=4) (G:UE 4 n 12 40 g h σ q u F K C rs (jb K) h' q' u' F' C' rs' b' (decide (ph K≠3))) (p3:ph K<3->UL=ph K+1) (p4:ph K=3->UL=if rs'=none then 3 else 4) (p5:ph K=4->UL=5) :
 IV kd k σ0 (σ+1) q' h' (upd jb K b') F' u' (upd ts K (some (C',rs'))) (upd ph K UL) Zi (V - 1):=by
 have hJ:=A.lH
 have hN:(4=3/\h.J<=31)\/(4=4/\h.J<=12):=Or.inr ⟨rfl,hJ⟩
 obtain⟨aK,Gq,ek,qU⟩:=A.xg K C rs hts
 have ng:(jb K).gives=false:=by
  have:=A.sg K
  revert this
  cases jb K with
  | al j α =>
   cases α with
   | give=>exact fun h=>h.elim
   | _=>exact fun _=>rfl
  | _=>exact fun _=>rfl
 obtain⟨R1,-,m1⟩:=A.room.go hN hK X hts ng I G
 have E1:=A.room.made hN (by omega) hK X X' hts ng G (A.mz K C rs hts)
 have kp:=G.keep X
 have sm:=G.same
 have nd:=G.nd
 have hH:∀ j,j<h.J->h'.H j=h.H j:=fun j hj=>UD nd.2 hj
 obtain⟨hS,-⟩:=G.hist
 have cl:∀ K' C1 r1,upd ts K (some (C',rs')) K'=some (C1,r1)->(K'=K/\C1=C'/\r1=rs')\/(K'≠K/\ts K'=some (C1,r1)):=fun K' C1 r1 e=>by
  by_cases e':K'=K
  . rw[e',upd_same] at e;injection e with e;injection e with e1 e2;exact Or.inl ⟨e',e1.symm,e2.symm⟩
  . rw[Z9 _ _ _ _ e'] at e;exact Or.inr ⟨e',e⟩
 obtain⟨x,v,hx,hR,hV⟩:=A.qV
 rw[<- Gq,<- ek] at hx
 obtain⟨e,x',hx',he,fr⟩:=G.links X hG hn2 (by omega) hts hx
 rw[sm.2.2.1.symm] at Gq
 have nX:e=0\/e=1:=he.imp (fun h=>h.1) (fun h=>h.1)
 obtain⟨tH,vK,c,iZ,hC,hle⟩:=N7.go (e:=e) X hG hn2 (by omega) hK A.room hJ (A.sg K) aK.po hts h4 G p3 p4 p5 (fun e0=>by
  rcases he with⟨-,-,h⟩ | ⟨h,-⟩
  . exact h
  . omega) (hR K C rs hts)
 have nV:c=0\/c=10:=hC.imp (fun h=>h.2.2) id
 -- how far they are
 obtain⟨f,hf⟩:∃ f:Nat->Nat,∀ K',(∀ C1 r1,upd ts K (some (C',rs')) K'=some (C1,r1)->N7 q' h' 0 C1 r1 (upd ph K UL K') (upd jb K b' K') (f K'))/\(K'=K->f K'=vK)/\(K'≠K->f K'<=v K'+(if c=0 then 0 else 3)+464 * e):=by
  refine Classical.axiomOfChoice (r:=fun K' y=>(∀ C1 r1,upd ts K (some (C',rs')) K'=some (C1,r1)->N7 q' h' 0 C1 r1 (upd ph K UL K') (upd jb K b' K') y)/\(K'=K->y=vK)/\(K'≠K->y<=v K'+(if c=0 then 0 else 3)+464 * e)) (fun K'=>?_)
  by_cases eK:K'=K
  . subst eK
    refine⟨vK,fun C1 r1 e1=>?_,fun _=>rfl,fun h=>absurd rfl h⟩
    rw[upd_same] at e1
    injection e1 with e1
    injection e1 with e1 e2
    subst e1 e2
    rw[upd_same,upd_same];exact iZ
  . cases hK':ts K' with
    | none =>
     refine⟨v K',fun C1 r1 e1=>?_,fun h=>absurd h eK,fun _=>by omega⟩
     rw[Z9 _ _ _ _ eK,hK'] at e1;cases e1
    | some y =>
     obtain⟨C1,r1⟩:=y
     obtain⟨v2,h2,h3⟩:=N7.other (e:=e) X kp nX fr hC eK hK' (A.xg K' C1 r1 hK').1.po (hR K' C1 r1 hK')
     refine⟨v2,fun C3 r3 e1=>?_,fun h=>absurd h eK,fun _=>h3⟩
     rw[Z9 _ _ _ _ eK,hK'] at e1
     injection e1 with e1
     injection e1 with e1 e2
     subst e1 e2
     rw[Z9 _ _ _ _ eK,Z9 _ _ _ _ eK];exact h2
 have hsum:tot f 4+1460 * x'<=V - 1:=by
  have eP:1<=V:=A.pos hK hts h4
  have f0:=(hf 0).2
  have f1:=(hf 1).2
  have f2:=(hf 2).2
  have f3:=(hf 3).2
  rw[OA] at hV ⊢
  have hc3:(if c=0 then 0 else 3) * 3<=c:=by
   rcases nV with h | h <;> rw[h] <;> decide
  generalize (if c=0 then 0 else 3)=d at *
  have hxx:1460 * x'+1460 * e<=1460 * x:=by
   rcases he with⟨h1,h2,-⟩ | ⟨h1,h2⟩ <;> omega
  have hK0:K=0\/K=1\/K=2\/K=3:=by omega
  rcases hK0 with rfl | rfl | rfl | rfl
  . have a:=f0.1 rfl;have b:=f1.2 (by decide);have c':=f2.2 (by decide);have d':=f3.2 (by decide);omega
  . have a:=f1.1 rfl;have b:=f0.2 (by decide);have c':=f2.2 (by decide);have d':=f3.2 (by decide);omega
  . have a:=f2.1 rfl;have b:=f0.2 (by decide);have c':=f1.2 (by decide);have d':=f3.2 (by decide);omega
  . have a:=f3.1 rfl;have b:=f0.2 (by decide);have c':=f1.2 (by decide);have d':=f2.2 (by decide);omega
 -- whether it is there
 have Scl:(Me (some (C',rs'))=Me (some (C,rs))/\(u'.S (σ+1) k↔u.S σ k))\/(Me (some (C,rs))=0/\Me (some (C',rs'))=1/\(u'.S (σ+1) k↔kd=2)/\¬ (u.S σ k↔kd=2)):=by
  rcases X.claims X' hts G with⟨c1,-,c3⟩ | ⟨c1,c2,b,c3,c4⟩
  . exact Or.inl ⟨by rw[Xe,Xe,c1],by rw[c3]⟩
  . refine Or.inr ⟨by rw[Xe,c1];rfl,by rw[Xe,c2];rfl,?_,?_⟩
    . rw[c3,Vq,ek]
      rcases c4 with⟨rfl,k2⟩ | ⟨rfl,k3⟩
      . exact⟨fun _=>by rw[<- Gq,sm.2.2.1];exact k2,fun _=>Or.inr ⟨rfl,rfl⟩⟩
      . refine⟨fun h=>?_,fun h=>?_⟩
        . rcases h with⟨h,-⟩ | ⟨-,h⟩
          . exact absurd rfl h
          . cases h
        . rw[<- Gq,sm.2.2.1,k3] at h;exact absurd h (by decide)
    . have hev:u'.ev (σ+1)=some (C.k,b):=by rw[c3];exact Vl _ _ _ _
      have:=(X'.l.e1 σ C.k b (Nat.lt_succ_self _) hev).2.1
      rw[c3,WA u (Nat.le_refl _),ek] at this
      rw[this]
      rcases c4 with⟨rfl,k2⟩ | ⟨rfl,k3⟩
      . rw[<- Gq,sm.2.2.1,k2];intro h;have:=h.2 rfl;cases this
      . rw[<- Gq,sm.2.2.1,k3];intro h;have:=h.1 rfl;exact absurd this (by decide)
 have vU:=WL (f:=fun K=>Me (ts K)) (g:=fun K'=>Me (upd ts K (some (C',rs')) K')) hK (fun i hi=>by simp only[Z9 _ _ _ _ hi])
 simp only[upd_same,hts] at vU
 refine⟨R1,A.ord.go X hG hn2 (by omega) hts G,fun K'=>?_,fun K' C1 r1 e1=>?_,fun K' C1 r1 e1=>?_,?_,⟨x',f,by rw[<- Gq,sm.2.2.1,<- ek];exact hx',fun K' C1 r1 e1=>(hf K').1 C1 r1 e1,hsum⟩,fun s h1 h2 hs=>?_,?_,fun hh=>?_,Nat.le_succ_of_le A.s0⟩
 . by_cases e:K'=K
   . rw[e,upd_same];exact tH
   . rw[Z9 _ _ _ _ e];exact A.sg K'
 . rcases cl K' C1 r1 e1 with⟨rfl,rfl,rfl⟩ | ⟨hne,e1⟩
   . rw[upd_same]
     exact⟨aK.go X A.ord hts (B _ _ _ hts) G,Gq,sm.2.1.trans ek,by rw[sm.2.2.2];exact qU⟩
   . rw[Z9 _ _ _ _ hne]
     obtain⟨a1,a2⟩:=A.xg K' C1 r1 e1
     exact⟨a1.keep kp hH (B _ _ _ e1),a2⟩
 . rcases cl K' C1 r1 e1 with⟨-,rfl,rfl⟩ | ⟨-,e1⟩
   . exact E1
   . exact A.mz K' C1 r1 e1
 . have t:=WL (f:=fun K=>Gt (ts K) (jb K)) (g:=fun K'=>Gt (upd ts K (some (C',rs')) K') (upd jb K b' K')) hK (fun i hi=>by simp only[Z9 _ _ _ _ hi])
   simp only[upd_same,hts] at t
   have:Gt (some (C,rs)) (jb K)=P9 C (jb K):=rfl
   have:Gt (some (C',rs')) b'=P9 C' b':=rfl
   have:=A.cnt
   omega
 . by_cases es:s=σ+1
   . rw[es] at hs;exact hs
   . rw[hS s (by omega)] at hs
     have h3:=A.mono s h1 (by omega) hs
     rcases Scl with⟨-,c⟩ | ⟨-,-,c,-⟩
     . rw[c];exact h3
     . exact c
 . have:=A.vV
   rcases Scl with⟨c1,c2⟩ | ⟨c1,c2,c3,c4⟩
   . rw[c2]
     rcases this with⟨h1,h2⟩ | ⟨h1,h2⟩
     . exact Or.inl ⟨h1,by omega⟩
     . exact Or.inr ⟨h1,by omega⟩
   . rcases this with⟨h1,-⟩ | ⟨-,h2⟩
     . exact absurd h1 c4
     . exact Or.inl ⟨c3,by omega⟩
 . have h3:u.S σ k↔kd=2:=A.fin (by
    obtain⟨K',h1,h2⟩:=hh
    by_cases e:K'=K
    . rw[e,upd_same] at h2;cases h2
    . rw[Z9 _ _ _ _ e] at h2;exact⟨K',h1,h2⟩)
   rcases Scl with⟨-,c⟩ | ⟨-,-,c,-⟩
   . rw[c];exact h3
   . exact c
theorem IV.next (A:IV kd k σ0 σ q h jb F u ts ph Zi V) (hK:K<4) (k8:k<=8) (X:Lc 4 n 12 40 q σ h jb 0 F u ts) (hts:ts K=some (C,some R)) (I:XL h 0 C (some R) S) (h5:ph K=5) (N:FT h 0 C R C2 C.po) (ho:∀ E v st,C2.po≠.over E v st) (G:Rt h 0 σ u K C C2 R) :
 IV kd k σ0 σ q h (upd jb K (C2.YF h 0)) F u (upd ts K (some (C2,none))) (upd ph K 0) Zi V:=by
 obtain⟨aK,Gq,ek,qU⟩:=A.xg K C _ hts
 obtain⟨R1,-,m1⟩:=A.room.next X hts I N
 have sm:=N.same
 have cl:∀ K' C1 r1,upd ts K (some (C2,none)) K'=some (C1,r1)->(K'=K/\C1=C2/\r1=none)\/(K'≠K/\ts K'=some (C1,r1)):=fun K' C1 r1 e=>by
  by_cases e':K'=K
  . rw[e',upd_same] at e;injection e with e;injection e with e1 e2;exact Or.inl ⟨e',e1.symm,e2.symm⟩
  . rw[Z9 _ _ _ _ e'] at e;exact Or.inr ⟨e',e⟩
 obtain⟨x,v,hx,hR,hV⟩:=A.qV
 have lG:=hR K C _ hts
 rw[h5] at lG
 obtain⟨vK,h2,h3⟩:=N7.next X hts (by rw[ek];exact k8) aK.po N ho G lG
 have vU:=WL (f:=fun K=>Me (ts K)) (g:=fun K'=>Me (upd ts K (some (C2,none)) K')) hK (fun i hi=>by simp only[Z9 _ _ _ _ hi])
 simp only[upd_same,hts,Xe,G.cl] at vU
 have tv:=WL (f:=v) (g:=upd v K vK) hK (fun i hi=>Z9 _ _ _ _ hi)
 rw[upd_same] at tv
 refine⟨R1,A.ord,fun K'=>?_,fun K' C1 r1 e1=>?_,fun K' C1 r1 e1=>?_,?_,⟨x,upd v K vK,hx,fun K' C1 r1 e1=>?_,by omega⟩,A.mono,?_,fun hh=>A.fin ?_,A.s0⟩
 . by_cases e:K'=K
   . rw[e,upd_same];unfold Cl.YF;cases C2.po <;> trivial
   . rw[Z9 _ _ _ _ e];exact A.sg K'
 . rcases cl K' C1 r1 e1 with⟨rfl,rfl,rfl⟩ | ⟨hne,e1⟩
   . rw[upd_same]
     exact⟨aK.next X hts N,sm.1.trans Gq,sm.2.1.trans ek,by rw[sm.2.2];exact qU⟩
   . rw[Z9 _ _ _ _ hne];exact A.xg K' C1 r1 e1
 . rcases cl K' C1 r1 e1 with⟨-,rfl,rfl⟩ | ⟨-,e1⟩
   . exact fun R a s nx _ e=>by cases e
   . exact A.mz K' C1 r1 e1
 . have t:=WL (f:=fun K=>Gt (ts K) (jb K)) (g:=fun K'=>Gt (upd ts K (some (C2,none)) K') (upd jb K (C2.YF h 0) K')) hK (fun i hi=>by simp only[Z9 _ _ _ _ hi])
   simp only[upd_same,hts] at t
   have:Gt (some (C,some R)) (jb K)=P9 C (jb K):=rfl
   have:Gt (some (C2,none)) (C2.YF h 0)=P9 C2 (C2.YF h 0):=rfl
   have:=A.cnt
   omega
 . rcases cl K' C1 r1 e1 with⟨rfl,rfl,rfl⟩ | ⟨hne,e1⟩
   . rw[upd_same,upd_same,upd_same];exact h2
   . rw[Z9 _ _ _ _ hne,Z9 _ _ _ _ hne,Z9 _ _ _ _ hne];exact hR K' C1 r1 e1
 . have:=A.vV
   rcases this with⟨h1,h2⟩ | ⟨h1,h2⟩
   . exact Or.inl ⟨h1,by omega⟩
   . exact Or.inr ⟨h1,by omega⟩
 . obtain⟨K',h1,h2⟩:=hh
   by_cases e:K'=K
   . rw[e,upd_same] at h2;cases h2
   . rw[Z9 _ _ _ _ e] at h2;exact⟨K',h1,h2⟩
theorem IV.done (A:IV kd k σ0 σ q h jb F u ts ph Zi V) (hkd:kd=2\/kd=3) (hK:K<4) (X:Lc 4 n 12 40 q σ h jb 0 F u ts) (hts:ts K=some (C,some R)) {E v:Int} {st:Nat} (Z:Qy σ u C R E v st):E=0/\∃ b:Nat,b<=1/\v=b/\IV kd k σ0 σ q h jb F u (upd ts K none) ph (Zi+b) V:=by
 obtain⟨aK,Gq,ek,qU⟩:=A.xg K C _ hts
 have T:=X.t K C _ hts
 have E0:E=0:=by
  refine Classical.byContradiction fun hne=>?_
  obtain⟨⟨a,s,nx,hp⟩,hE,-⟩:=Z.er hne
  exact hne (hE.trans (A.mz K C _ hts R a s nx hp rfl))
 obtain⟨r1,r2,r3⟩:=Z.ok E0
 have hcl:=Z.cl
 have hk1:C.kd≠1:=by rw[Gq];omega
 obtain⟨b,hb1,hb⟩:∃ b:Nat,b<=1/\v=b:=by
  rcases r3 with⟨h,-⟩ | ⟨h,-⟩
  . exact⟨1,by decide,h⟩
  . exact⟨0,by decide,h⟩
 refine⟨E0,b,hb1,hb,?_⟩
 have hc:Me (some (C,some R))=b:=by
  by_cases h1:v=1
  . rw[if_pos ⟨h1,hk1⟩] at hcl;rw[Xe,hcl];show 1=b;omega
  . rw[if_neg (fun h=>h1 h.1)] at hcl;rw[Xe,hcl];show 0=b;omega
 have vU:=WL (f:=fun K=>Me (ts K)) (g:=fun K'=>Me (upd ts K none K')) hK (fun i hi=>by simp only[Z9 _ _ _ _ hi])
 simp only[upd_same,hts,hc] at vU
 have h0:Me none=0:=rfl
 rw[h0] at vU
 have cl:∀ K' C1 r1,upd ts K none K'=some (C1,r1)->K'≠K/\ts K'=some (C1,r1):=fun K' C1 r1 e=>by
  by_cases e':K'=K
  . rw[e',upd_same] at e;cases e
  . rw[Z9 _ _ _ _ e'] at e;exact⟨e',e⟩
 have zo:u.S σ k↔kd=2:=by
  by_cases h1:v=1
  . have hb2:b=1:=by omega
    rcases A.vV with⟨h,-⟩ | ⟨-,h⟩
    . exact h
    . have:=Qm (f:=fun K=>Me (ts K)) hK
      simp only[hts,hc] at this
      omega
  . refine A.mono st (by omega) r2 ?_
    rcases r3 with⟨h,-⟩ | ⟨-,-,h⟩
    . exact absurd h h1
    . rw[Gq,ek] at h
      rcases h with⟨h2,h⟩ | ⟨h2,h⟩
      . exact⟨fun _=>h2,fun _=>h⟩
      . exact⟨fun x=>absurd x h,fun x=>absurd x h2⟩
 obtain⟨x,v',hx,hR,hV⟩:=A.qV
 refine⟨A.room,A.ord,A.sg,fun K' C1 r1 e=>A.xg K' C1 r1 (cl K' C1 r1 e).2,fun K' C1 r1 e=>A.mz K' C1 r1 (cl K' C1 r1 e).2,?_,⟨x,v',hx,fun K' C1 r1 e=>hR K' C1 r1 (cl K' C1 r1 e).2,hV⟩,A.mono,?_,fun _=>zo,A.s0⟩
 . have t:=WL (f:=fun K=>Gt (ts K) (jb K)) (g:=fun K'=>Gt (upd ts K none K') (jb K')) hK (fun i hi=>by simp only[Z9 _ _ _ _ hi])
   simp only[upd_same,hts] at t
   have:Gt none (jb K)=0:=rfl
   have:=A.cnt
   omega
 . rcases A.vV with⟨h1,h2⟩ | ⟨h1,-⟩
   . exact Or.inl ⟨h1,by omega⟩
   . exact absurd zo h1
end
end
end Go.Proofs.YtpbghmeikcphnaaGreat
