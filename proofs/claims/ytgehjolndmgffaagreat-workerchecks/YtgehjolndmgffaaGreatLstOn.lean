import Derived.Test.YtgehjolndmgffaaGreatPlaceSee
import Derived.Test.YtgehjolndmgffaaGreatWord
import Derived.Test.YtgehjolndmgffaaGreatLstRec
namespace Go.Proofs.YtgehjolndmgffaaGreat
open Go.RowKit
section
theorem BU (n m:Int):bits .and .i64 n m=IntKind.i64.wrap (bits .and .u64 n m):=by
 show IntKind.i64.wrap (((BitVec.ofInt 64 n &&& BitVec.ofInt 64 m).toNat:Nat):Int)=IntKind.i64.wrap (IntKind.u64.wrap (((BitVec.ofInt 64 n &&& BitVec.ofInt 64 m).toNat:Nat):Int))
 rw[wrap_small _ (by omega) (by have:=(BitVec.ofInt 64 n &&& BitVec.ofInt 64 m).isLt;omega)]
theorem yY (n m:Int):bits .or .i64 n m=IntKind.i64.wrap (bits .or .u64 n m):=by
 show IntKind.i64.wrap (((BitVec.ofInt 64 n ||| BitVec.ofInt 64 m).toNat:Nat):Int)=IntKind.i64.wrap (IntKind.u64.wrap (((BitVec.ofInt 64 n ||| BitVec.ofInt 64 m).toNat:Nat):Int))
 rw[wrap_small _ (by omega) (by have:=(BitVec.ofInt 64 n ||| BitVec.ofInt 64 m).isLt;omega)]
theorem EY (n:Int) (n0:0<=n) (n1:n<8589934592):(bits .and .i64 n 4294967296 != 0)=decide (4294967296<=n):=by
 have e:bits .and .i64 n 4294967296=bits .and .u64 n 4294967296:=by
  rw[BU,u64_and _ _ n0 (by omega) (by decide) (by decide)]
  have h:=Nat.and_le_left (n:=n.toNat) (m:=(4294967296:Int).toNat)
  rw[IntKind.wrap_i64]
  omega
 rw[e,Lt n 4294967296 32 (by decide) (by decide) n0 (by omega)]
 congr 1
 simp only[eq_iff_iff]
 omega
theorem BR (n:Int) (n0:0<=n) (n1:n<4294967296):bits .or .i64 n 4294967296=n+4294967296:=by
 have h:=EX n 1 32 n0 (by omega) (by decide) (by decide)
 rw[show (1:Int) * 2 ^ 32=4294967296 by decide] at h
 rw[yY,h,IntKind.wrap_i64]
 omega
def Xp (n:Int):Bool:=decide (4294967296<=n)
theorem link_any (n:Int) (n0:0<=n) (n1:n<8589934592) (w:World):Calls Tryz.prog 122 #[iV n] w fun e w'=>e=.returned (.agg #[.int .u64 (n % 4294967296),.bool (Xp n)])/\Below w.heap.size w w':=by
 have h1:IntKind.u64.wrap n=n:=wrap_small n n0 (by omega)
 have h2:bits .and .u64 n 4294967295=n % 4294967296:=NJ n 32 n0 (by omega) (by decide)
 have h3:(bits .and .i64 n 4294967296 != 0)=Xp n:=by
  exact EY n n0 n1
 go_enter Tryz.func122,Tryz.ntmps122
 go_wp2
 exact bodyPost_ret (v:=.agg #[.int .u64 (n % 4294967296),.bool (Xp n)]) (by simp[results,Tryz.results122,go_sem]) rfl ⟨rfl,Z7 (Below.refl _ _) _⟩
theorem V5 (x:Int) (x0:0<=x) (x1:x<4294967296) (g:Bool) (w:World):Calls Tryz.prog 115 #[.agg #[.int .u64 x,.bool g]] w fun e w'=>e=.returned (iV (x+if g then 4294967296 else 0))/\Below w.heap.size w w':=by
 have h1:=BR x x0 x1
 have h2:wrap64 x=x:=by unfold wrap64;omega
 cases g
 . go_enter Tryz.func115,Tryz.ntmps115
   go_wp2
   go_ret
   exact⟨by simp,Z7 (Below.refl _ _) _⟩
 . go_enter Tryz.func115,Tryz.ntmps115
   go_wp2
   go_ret
   exact⟨by simp,Z7 (Below.refl _ _) _⟩
end
section
@[reducible] def NG (nd lk st:Int):Value:=.agg #[.int .u64 nd,iV lk,iV st]
theorem WA (nd lk st:Int) (h0:0<=lk) (h1:lk<8589934592) (w:World):Calls Tryz.prog 112 #[NG nd lk st] w fun e w'=>e=.returned (.int .u64 (lk % 4294967296))/\Below w.heap.size w w':=by
 have q:=link_any lk h0 h1
 clear h0 h1
 generalize lk % 4294967296=x at q ⊢
 generalize Xp lk=g at q ⊢
 have ff:∀ (a1 a2:Value) (w:World),(Instr.field 196 (.agg #[a1,a2]) 0).run Tryz.prog w=.ok a1 w:=fun a1 a2 w=>by kernel_rfl
 go_enter Tryz.func112,Tryz.ntmps112
 go_wp2_with (go_at_call 122;refine(q _).mono ?_;rintro e w1 ⟨rfl,g1⟩)
 go_ret
 exact⟨rfl,grow (Z7 (Below.refl _ _) _) g1⟩
theorem Rk (nd lk st:Int) (h0:0<=lk) (h1:lk<8589934592) (w:World):Calls Tryz.prog 118 #[NG nd lk st] w fun e w'=>e=.returned (.bool (Xp lk))/\Below w.heap.size w w':=by
 have q:=link_any lk h0 h1
 clear h0 h1
 generalize lk % 4294967296=x at q ⊢
 generalize Xp lk=g at q ⊢
 have ff:∀ (a1 a2:Value) (w:World),(Instr.field 196 (.agg #[a1,a2]) 1).run Tryz.prog w=.ok a2 w:=fun a1 a2 w=>by kernel_rfl
 go_enter Tryz.func118,Tryz.ntmps118
 go_wp2_with (go_at_call 122;refine(q _).mono ?_;rintro e w1 ⟨rfl,g1⟩)
 go_ret
 exact⟨rfl,grow (Z7 (Below.refl _ _) _) g1⟩
theorem VZ (nd lk st x:Int) (h0:0<=lk) (h1:lk<8589934592) (x0:0<=x) (x1:x<4294967296) (w:World):Calls Tryz.prog 111 #[NG nd lk st,.int .u64 x] w fun e w'=>e=.returned (iV (Lr.lead lk x))/\Below w.heap.size w w':=by
 have hp:=V5 x x0 x1 (Xp lk)
 have e:(x+if Xp lk then 4294967296 else 0)=Lr.lead lk x:=by unfold Xp Lr.lead;simp
 rw[e] at hp
 clear e
 generalize Lr.lead lk x=y at hp ⊢
 go_enter Tryz.func111,Tryz.ntmps111
 go_wp2_with (first
  | (go_at_call 118;refine(Rk nd lk st h0 h1 _).mono ?_;rintro e w1 ⟨rfl,g1⟩)
  | (go_at_call 115;refine(hp _).mono ?_;rintro e w2 ⟨rfl,g2⟩))
 go_ret
 exact⟨rfl,grow (grow (Z7 (Below.refl _ _) _) g1) g2⟩
theorem KZ (nd lk st:Int) (h0:0<=lk) (h1:lk<8589934592) (w:World):Calls Tryz.prog 116 #[NG nd lk st] w fun e w'=>e=.returned (iV (lk % 4294967296+4294967296))/\Below w.heap.size w w':=by
 have hp:=V5 (lk % 4294967296) (by omega) (by omega) true
 rw[if_pos rfl] at hp
 go_enter Tryz.func116,Tryz.ntmps116
 go_wp2_with (first
  | (go_at_call 112;refine(WA nd lk st h0 h1 _).mono ?_;rintro e w1 ⟨rfl,g1⟩)
  | (go_at_call 115;refine(hp _).mono ?_;rintro e w2 ⟨rfl,g2⟩))
 go_ret
 exact⟨rfl,grow (grow (Z7 (Below.refl _ _) _) g1) g2⟩
theorem TV (x i:Int) (w:World):Calls Tryz.prog 109 #[.int .u64 x,iV i] w fun e w'=>e=.returned (Xa.v ⟨3,0,x,i,0,0,false⟩)/\Below w.heap.size w w':=by
 go_enter Tryz.func109,Tryz.ntmps109
 go_wp2
 exact bodyPost_ret (v:=Xa.v ⟨3,0,x,i,0,0,false⟩) (by simp[results,Tryz.results109,go_sem]) rfl ⟨rfl,Z7 (Below.refl _ _) _⟩
theorem Rj (x i v:Int) (w:World):Calls Tryz.prog 114 #[.int .u64 x,iV i,iV v] w fun e w'=>e=.returned (Xa.v ⟨4,0,x,i,v,0,false⟩)/\Below w.heap.size w w':=by
 go_enter Tryz.func114,Tryz.ntmps114
 go_wp2
 exact bodyPost_ret (v:=Xa.v ⟨4,0,x,i,v,0,false⟩) (by simp[results,Tryz.results114,go_sem]) rfl ⟨rfl,Z7 (Below.refl _ _) _⟩
theorem TU (x:Int) (w:World):Calls Tryz.prog 113 #[.int .u64 x] w fun e w'=>e=.returned (Xa.v ⟨2,0,x,0,0,0,false⟩)/\Below w.heap.size w w':=by
 go_enter Tryz.func113,Tryz.ntmps113
 go_wp2
 exact bodyPost_ret (v:=Xa.v ⟨2,0,x,0,0,0,false⟩) (by simp[results,Tryz.results113,go_sem]) rfl ⟨rfl,Z7 (Below.refl _ _) _⟩
theorem TT (nd lk st v:Int) (w:World):Calls Tryz.prog 110 #[NG nd lk st,iV v] w fun e w'=>e=.returned (Xa.v ⟨5,0,nd,1,v,lk,false⟩)/\Below w.heap.size w w':=by
 go_enter Tryz.func110,Tryz.ntmps110
 go_wp2
 exact bodyPost_ret (v:=Xa.v ⟨5,0,nd,1,v,lk,false⟩) (by simp[results,Tryz.results110,go_sem]) rfl ⟨rfl,Z7 (Z7 (Below.refl _ _) _) _⟩
def Lr.l (S:Lr) (ob:Value):List Value:=[iV S.kd,iV S.ky,.int .u64 S.hd,iV S.nx,ob,.int .u64 S.an,iV S.al,iV S.ax,.int .u64 S.hn,iV S.hl,iV S.hx,.int .u64 S.md,iV S.cE,.int .u64 S.cH,iV S.cV,iV S.cS]
def ZJ (w:World) (b:Nat) (ob:Value) (S:Lr):Prop:=∃ c,At w b 0 145 c (S.l ob)
def B1 (b:Nat) (x:Nat):Prop:=x=b
theorem ZJ.grown {w w':World} {b:Nat} {ob:Value} {S:Lr} (h:ZJ w b ob S) (g:Below w.heap.size w w'):ZJ w' b ob S:=by obtain⟨c,h⟩:=h;exact⟨c,h.grown g⟩
theorem ZJ.only {w w':World} {b:Nat} {ob:Value} {S:Lr} {P:Nat->Prop} (h:ZJ w b ob S) (g:Only P w w') (hb:¬ P b):ZJ w' b ob S:=by obtain⟨c,h⟩:=h;exact⟨c,h.only g hb⟩
theorem ZJ.lt {w:World} {b:Nat} {ob:Value} {S:Lr} (h:ZJ w b ob S):b<w.heap.size:=by obtain⟨c,h⟩:=h;exact h.lt
theorem Zy {w w':World} {b:Nat} (h:Only (B1 b) w w') (i:Nat) (v:Value):Only (B1 b) w (w'.setCell ⟨b,i,none⟩ v):=h.setCell (a:=⟨b,i,none⟩) (fun _=>rfl) v
theorem VY {w:World} {b:Nat} {ob:Value} {S:Lr} (h:ZJ w b ob S) :
 Calls Tryz.prog 94 #[pP b 0] w fun e w'=>e=.returned (.tuple #[])/\ZJ w' b ob (S.lay 0)/\Only (B1 b) w w':=by
 obtain⟨kd,ky,hd,nx,an,al,ax,hn,hl,hx,md,cE,cH,cV,cS⟩:=S
 obtain⟨c,h⟩:=h
 replace h:At w b 0 145 c [iV kd,iV ky,.int .u64 hd,iV nx,ob,.int .u64 an,iV al,iV ax,.int .u64 hn,iV hl,iV hx,.int .u64 md,iV cE,.int .u64 cH,iV cV,iV cS]:=h
 have k3:=h.at0 3 rfl
 have kf:=h.fz
 go_enter Tryz.func94,Tryz.ntmps94
 go_wp2
 first | refine bodyPost_end (results_none rfl _ _ _) rfl ?_ | refine bodyPost_ret (results_none rfl _ _ _) rfl ?_
 exact⟨rfl,⟨_,h.ZQ 3 _⟩,Zy (Only.refl _ _) _ _⟩
theorem VX {w:World} {b:Nat} {ob:Value} {S:Lr} (h:ZJ w b ob S) (E H V St:Int) :
 Calls Tryz.prog 121 #[pP b 0,.agg #[iV E,.int .u64 H,iV V,iV St]] w fun e w'=>e=.returned (.tuple #[])/\ZJ w' b ob ({ S with cE:=E,cH:=H,cV:=V,cS:=St,nx:=if S.md=0 then 13 else 9 })/\Only (B1 b) w w':=by
 obtain⟨kd,ky,hd,nx,an,al,ax,hn,hl,hx,md,cE,cH,cV,cS⟩:=S
 obtain⟨c,h⟩:=h
 replace h:At w b 0 145 c [iV kd,iV ky,.int .u64 hd,iV nx,ob,.int .u64 an,iV al,iV ax,.int .u64 hn,iV hl,iV hx,.int .u64 md,iV cE,.int .u64 cH,iV cV,iV cS]:=h
 have h1:=h.grown (ZZ w (.cells #[iV E,.int .u64 H,iV V,iV St] 53))
 have k0:=h1.at0 0 rfl
 have k1:=h1.at0 1 rfl
 have k2:=h1.at0 2 rfl
 have k3:=h1.at0 3 rfl
 have k4:=h1.at0 4 rfl
 have k5:=h1.at0 5 rfl
 have k6:=h1.at0 6 rfl
 have k7:=h1.at0 7 rfl
 have k8:=h1.at0 8 rfl
 have k9:=h1.at0 9 rfl
 have k10:=h1.at0 10 rfl
 have k11:=h1.at0 11 rfl
 have k12:=h1.at0 12 rfl
 have k13:=h1.at0 13 rfl
 have k14:=h1.at0 14 rfl
 have k15:=h1.at0 15 rfl
 have kf:=h1.fz
 by_cases hm:md=0
 . rw[if_pos hm]
   replace hm:(md == 0)=true:=by simpa using hm
   go_enter Tryz.func121,Tryz.ntmps121
   go_wp2
   first | refine bodyPost_end (results_none rfl _ _ _) rfl ?_ | refine bodyPost_ret (results_none rfl _ _ _) rfl ?_
   exact⟨rfl,⟨_,((((h1.ZQ 12 _).ZQ 13 _).ZQ 14 _).ZQ 15 _).ZQ 3 _⟩,Zy (Zy (Zy (Zy (Zy (Only.Z5 (ZZ _ _)) _ _) _ _) _ _) _ _) _ _⟩
 . rw[if_neg hm]
   replace hm:(md == 0)=false:=by simpa using hm
   go_enter Tryz.func121,Tryz.ntmps121
   go_wp2
   first | refine bodyPost_end (results_none rfl _ _ _) rfl ?_ | refine bodyPost_ret (results_none rfl _ _ _) rfl ?_
   exact⟨rfl,⟨_,(((((h1.ZQ 12 _).ZQ 13 _).ZQ 14 _).ZQ 15 _).ZQ 3 _).ZQ 3 _⟩,Zy (Zy (Zy (Zy (Zy (Zy (Only.Z5 (ZZ _ _)) _ _) _ _) _ _) _ _) _ _) _ _⟩
theorem TS {w:World} {b:Nat} {ob:Value} {S:Lr} (h:ZJ w b ob S) (E H V St:Int) :
 Calls Tryz.prog 117 #[pP b 0,.agg #[iV E,.int .u64 H,iV V,iV St]] w fun e w'=>e=.returned (.tuple #[])/\ZJ w' b ob (S.end_ E 0 St)/\Only (B1 b) w w':=by
 obtain⟨kd,ky,hd,nx,an,al,ax,hn,hl,hx,md,cE,cH,cV,cS⟩:=S
 obtain⟨c,h⟩:=h
 replace h:At w b 0 145 c [iV kd,iV ky,.int .u64 hd,iV nx,ob,.int .u64 an,iV al,iV ax,.int .u64 hn,iV hl,iV hx,.int .u64 md,iV cE,.int .u64 cH,iV cV,iV cS]:=h
 have h1:ZJ (w.alloc (.cells #[iV E,.int .u64 H,iV V,iV St] 53)) b ob ⟨kd,ky,hd,nx,an,al,ax,hn,hl,hx,md,cE,cH,cV,cS⟩:=⟨c,h.grown (ZZ w _)⟩
 have q:=VX h1 E 0 0 St
 clear h1
 go_enter Tryz.func117,Tryz.ntmps117
 go_wp2_with (go_at_call 121;refine q.mono ?_;rintro e w1 ⟨rfl,q1,o1⟩)
 first | refine bodyPost_end (results_none rfl _ _ _) rfl ?_ | refine bodyPost_ret (results_none rfl _ _ _) rfl ?_
 exact⟨rfl,q1,(Only.Z5 (ZZ _ _)).trans o1⟩
theorem TD {w:World} {b:Nat} {ob:Value} {S:Lr} (h:ZJ w b ob S) :
 Calls Tryz.prog 119 #[pP b 0] w fun e w'=>e=.returned (.tuple #[])/\ZJ w' b ob (S.missing)/\Only (B1 b) w w':=by
 obtain⟨kd,ky,hd,nx,an,al,ax,hn,hl,hx,md,cE,cH,cV,cS⟩:=S
 obtain⟨c,h⟩:=h
 replace h:At w b 0 145 c [iV kd,iV ky,.int .u64 hd,iV nx,ob,.int .u64 an,iV al,iV ax,.int .u64 hn,iV hl,iV hx,.int .u64 md,iV cE,.int .u64 cH,iV cV,iV cS]:=h
 have qe:=VX (S:=⟨kd,ky,hd,nx,an,al,ax,hn,hl,hx,md,cE,cH,cV,cS⟩) ⟨c,h⟩ 0 0 0 ax
 by_cases k2:kd=2
 . subst k2
   by_cases m0:md=0
   . subst m0
     rw[show Lr.missing ⟨2,ky,hd,nx,an,al,ax,hn,hl,hx,0,cE,cH,cV,cS⟩=Lr.lay ⟨2,ky,hd,nx,an,al,ax,hn,hl,hx,0,cE,cH,cV,cS⟩ 5 from rfl]
     have k0:=h.at0 0 rfl
     have k1:=h.at0 1 rfl
     have k2:=h.at0 2 rfl
     have k3:=h.at0 3 rfl
     have k4:=h.at0 4 rfl
     have k5:=h.at0 5 rfl
     have k6:=h.at0 6 rfl
     have k7:=h.at0 7 rfl
     have k8:=h.at0 8 rfl
     have k9:=h.at0 9 rfl
     have k10:=h.at0 10 rfl
     have k11:=h.at0 11 rfl
     have k12:=h.at0 12 rfl
     have k13:=h.at0 13 rfl
     have k14:=h.at0 14 rfl
     have k15:=h.at0 15 rfl
     have kf:=h.fz
     go_enter Tryz.func119,Tryz.ntmps119
     go_wp2
     first | refine bodyPost_end (results_none rfl _ _ _) rfl ?_ | refine bodyPost_ret (results_none rfl _ _ _) rfl ?_
     exact⟨rfl,⟨_,h.ZQ 3 _⟩,Zy (Only.refl _ _) _ _⟩
   . rw[show Lr.missing ⟨2,ky,hd,nx,an,al,ax,hn,hl,hx,md,cE,cH,cV,cS⟩=Lr.lay ⟨2,ky,hd,nx,an,al,ax,hn,hl,hx,md,cE,cH,cV,cS⟩ 7 from by unfold Lr.missing;rw[if_pos rfl,if_neg m0]]
     have k0:=h.at0 0 rfl
     have k1:=h.at0 1 rfl
     have k2:=h.at0 2 rfl
     have k3:=h.at0 3 rfl
     have k4:=h.at0 4 rfl
     have k5:=h.at0 5 rfl
     have k6:=h.at0 6 rfl
     have k7:=h.at0 7 rfl
     have k8:=h.at0 8 rfl
     have k9:=h.at0 9 rfl
     have k10:=h.at0 10 rfl
     have k11:=h.at0 11 rfl
     have k12:=h.at0 12 rfl
     have k13:=h.at0 13 rfl
     have k14:=h.at0 14 rfl
     have k15:=h.at0 15 rfl
     have kf:=h.fz
     go_enter Tryz.func119,Tryz.ntmps119
     go_wp2
     first | refine bodyPost_end (results_none rfl _ _ _) rfl ?_ | refine bodyPost_ret (results_none rfl _ _ _) rfl ?_
     exact⟨rfl,⟨_,h.ZQ 3 _⟩,Zy (Only.refl _ _) _ _⟩
 . rw[show Lr.missing ⟨kd,ky,hd,nx,an,al,ax,hn,hl,hx,md,cE,cH,cV,cS⟩=Lr.end_ ⟨kd,ky,hd,nx,an,al,ax,hn,hl,hx,md,cE,cH,cV,cS⟩ 0 0 ax from by unfold Lr.missing;rw[if_neg k2]]
   have k0:=h.at0 0 rfl
   have k1:=h.at0 1 rfl
   have k2:=h.at0 2 rfl
   have k3:=h.at0 3 rfl
   have k4:=h.at0 4 rfl
   have k5:=h.at0 5 rfl
   have k6:=h.at0 6 rfl
   have k7:=h.at0 7 rfl
   have k8:=h.at0 8 rfl
   have k9:=h.at0 9 rfl
   have k10:=h.at0 10 rfl
   have k11:=h.at0 11 rfl
   have k12:=h.at0 12 rfl
   have k13:=h.at0 13 rfl
   have k14:=h.at0 14 rfl
   have k15:=h.at0 15 rfl
   go_enter Tryz.func119,Tryz.ntmps119
   go_wp2_with (go_at_call 121;refine qe.mono ?_;rintro e w1 ⟨rfl,q1,o1⟩)
   first | refine bodyPost_end (results_none rfl _ _ _) rfl ?_ | refine bodyPost_ret (results_none rfl _ _ _) rfl ?_
   exact⟨rfl,q1,o1⟩
theorem Ii {w:World} {b:Nat} {ob:Value} {S:Lr} (h:ZJ w b ob S) :
 Calls Tryz.prog 120 #[pP b 0] w fun e w'=>e=.returned (.tuple #[])/\ZJ w' b ob (S.found)/\Only (B1 b) w w':=by
 obtain⟨kd,ky,hd,nx,an,al,ax,hn,hl,hx,md,cE,cH,cV,cS⟩:=S
 obtain⟨c,h⟩:=h
 replace h:At w b 0 145 c [iV kd,iV ky,.int .u64 hd,iV nx,ob,.int .u64 an,iV al,iV ax,.int .u64 hn,iV hl,iV hx,.int .u64 md,iV cE,.int .u64 cH,iV cV,iV cS]:=h
 have qe:=VX (S:=⟨kd,ky,hd,nx,an,al,ax,hn,hl,hx,md,cE,cH,cV,cS⟩) ⟨c,h⟩ 0 0 0 hx
 have qf:=VX (S:=⟨kd,ky,hd,nx,an,al,ax,hn,hl,hx,md,cE,cH,cV,cS⟩) ⟨c,h⟩ 0 0 1 hx
 by_cases k3:kd=3
 . subst k3
   rw[show Lr.found ⟨3,ky,hd,nx,an,al,ax,hn,hl,hx,md,cE,cH,cV,cS⟩=Lr.lay ⟨3,ky,hd,nx,an,al,ax,hn,hl,hx,md,cE,cH,cV,cS⟩ 10 from rfl]
   have k0:=h.at0 0 rfl
   have k1:=h.at0 1 rfl
   have k2:=h.at0 2 rfl
   have k3:=h.at0 3 rfl
   have k4:=h.at0 4 rfl
   have k5:=h.at0 5 rfl
   have k6:=h.at0 6 rfl
   have k7:=h.at0 7 rfl
   have k8:=h.at0 8 rfl
   have k9:=h.at0 9 rfl
   have k10:=h.at0 10 rfl
   have k11:=h.at0 11 rfl
   have k12:=h.at0 12 rfl
   have k13:=h.at0 13 rfl
   have k14:=h.at0 14 rfl
   have k15:=h.at0 15 rfl
   have kf:=h.fz
   go_enter Tryz.func120,Tryz.ntmps120
   go_wp2
   first | refine bodyPost_end (results_none rfl _ _ _) rfl ?_ | refine bodyPost_ret (results_none rfl _ _ _) rfl ?_
   exact⟨rfl,⟨_,h.ZQ 3 _⟩,Zy (Only.refl _ _) _ _⟩
 . by_cases k2:kd=2
   . subst k2
     rw[show Lr.found ⟨2,ky,hd,nx,an,al,ax,hn,hl,hx,md,cE,cH,cV,cS⟩=Lr.end_ ⟨2,ky,hd,nx,an,al,ax,hn,hl,hx,md,cE,cH,cV,cS⟩ 0 0 hx from rfl]
     have k0:=h.at0 0 rfl
     have k1:=h.at0 1 rfl
     have k2:=h.at0 2 rfl
     have k3:=h.at0 3 rfl
     have k4:=h.at0 4 rfl
     have k5:=h.at0 5 rfl
     have k6:=h.at0 6 rfl
     have k7:=h.at0 7 rfl
     have k8:=h.at0 8 rfl
     have k9:=h.at0 9 rfl
     have k10:=h.at0 10 rfl
     have k11:=h.at0 11 rfl
     have k12:=h.at0 12 rfl
     have k13:=h.at0 13 rfl
     have k14:=h.at0 14 rfl
     have k15:=h.at0 15 rfl
     go_enter Tryz.func120,Tryz.ntmps120
     go_wp2_with (go_at_call 121;refine qe.mono ?_;rintro e w1 ⟨rfl,q1,o1⟩)
     first | refine bodyPost_end (results_none rfl _ _ _) rfl ?_ | refine bodyPost_ret (results_none rfl _ _ _) rfl ?_
     exact⟨rfl,q1,o1⟩
   . rw[show Lr.found ⟨kd,ky,hd,nx,an,al,ax,hn,hl,hx,md,cE,cH,cV,cS⟩=Lr.end_ ⟨kd,ky,hd,nx,an,al,ax,hn,hl,hx,md,cE,cH,cV,cS⟩ 0 1 hx from by unfold Lr.found;rw[if_neg k3,if_neg k2]]
     have k0:=h.at0 0 rfl
     have k1:=h.at0 1 rfl
     have k2:=h.at0 2 rfl
     have k3:=h.at0 3 rfl
     have k4:=h.at0 4 rfl
     have k5:=h.at0 5 rfl
     have k6:=h.at0 6 rfl
     have k7:=h.at0 7 rfl
     have k8:=h.at0 8 rfl
     have k9:=h.at0 9 rfl
     have k10:=h.at0 10 rfl
     have k11:=h.at0 11 rfl
     have k12:=h.at0 12 rfl
     have k13:=h.at0 13 rfl
     have k14:=h.at0 14 rfl
     have k15:=h.at0 15 rfl
     go_enter Tryz.func120,Tryz.ntmps120
     go_wp2_with (go_at_call 121;refine qf.mono ?_;rintro e w1 ⟨rfl,q1,o1⟩)
     first | refine bodyPost_end (results_none rfl _ _ _) rfl ?_ | refine bodyPost_ret (results_none rfl _ _ _) rfl ?_
     exact⟨rfl,q1,o1⟩
theorem U8 {w:World} {b:Nat} {ob:Value} {S:Lr} (h:ZJ w b ob S) (h0:0<=S.al) (h1:S.al<8589934592) :
 Calls Tryz.prog 102 #[pP b 0] w fun e w'=>e=.returned (.tuple #[])/\ZJ w' b ob (S.reach)/\Only (B1 b) w w':=by
 obtain⟨kd,ky,hd,nx,an,al,ax,hn,hl,hx,md,cE,cH,cV,cS⟩:=S
 obtain⟨c,h⟩:=h
 replace h:At w b 0 145 c [iV kd,iV ky,.int .u64 hd,iV nx,ob,.int .u64 an,iV al,iV ax,.int .u64 hn,iV hl,iV hx,.int .u64 md,iV cE,.int .u64 cH,iV cV,iV cS]:=h
 replace h0:0<=al:=h0
 replace h1:al<8589934592:=h1
 have qn:=WA an al ax h0 h1 w
 have k0:=h.at0 0 rfl
 have k1:=h.at0 1 rfl
 have k2:=h.at0 2 rfl
 have k3:=h.at0 3 rfl
 have k4:=h.at0 4 rfl
 have k5:=h.at0 5 rfl
 have k6:=h.at0 6 rfl
 have k7:=h.at0 7 rfl
 have k8:=h.at0 8 rfl
 have k9:=h.at0 9 rfl
 have k10:=h.at0 10 rfl
 have k11:=h.at0 11 rfl
 have k12:=h.at0 12 rfl
 have k13:=h.at0 13 rfl
 have k14:=h.at0 14 rfl
 have k15:=h.at0 15 rfl
 have kf:=h.fz
 by_cases z:al % 4294967296=0
 . rw[show Lr.reach ⟨kd,ky,hd,nx,an,al,ax,hn,hl,hx,md,cE,cH,cV,cS⟩=Lr.missing ⟨kd,ky,hd,nx,an,al,ax,(al % 4294967296),0,0,md,cE,cH,cV,cS⟩ from by unfold Lr.reach;rw[if_pos z];rfl]
   replace z:(al % 4294967296 == 0)=true:=by simpa using z
   go_enter Tryz.func102,Tryz.ntmps102
   go_wp2_with (first
    | (go_at_call 112;refine qn.mono ?_;rintro e w1 ⟨rfl,g1⟩;have h2:=h.grown g1;have kg:=h2.fz;have y3:=h2.at0 3 rfl;have y8:=h2.at0 8 rfl;have y9:=h2.at0 9 rfl;have wF:=h2.at0 10 rfl)
    | (go_at_call 119;refine(TD (S:=⟨kd,ky,hd,nx,an,al,ax,(al % 4294967296),0,0,md,cE,cH,cV,cS⟩) ⟨_,((h2.ZQ 8 _).ZQ 9 _).ZQ 10 _⟩).mono ?_;rintro e w3 ⟨rfl,q3,o3⟩))
   first | refine bodyPost_end (results_none rfl _ _ _) rfl ?_ | refine bodyPost_ret (results_none rfl _ _ _) rfl ?_
   exact⟨rfl,q3,(Zy (Zy (Zy (Only.Z5 g1) _ _) _ _) _ _).trans o3⟩
 . rw[show Lr.reach ⟨kd,ky,hd,nx,an,al,ax,hn,hl,hx,md,cE,cH,cV,cS⟩=Lr.lay ⟨kd,ky,hd,nx,an,al,ax,(al % 4294967296),0,0,md,cE,cH,cV,cS⟩ 1 from by unfold Lr.reach;rw[if_neg z];rfl]
   replace z:(al % 4294967296 == 0)=false:=by simpa using z
   go_enter Tryz.func102,Tryz.ntmps102
   go_wp2_with (go_at_call 112;refine qn.mono ?_;rintro e w1 ⟨rfl,g1⟩;have h2:=h.grown g1;have kg:=h2.fz;have y3:=h2.at0 3 rfl;have y8:=h2.at0 8 rfl;have y9:=h2.at0 9 rfl;have wF:=h2.at0 10 rfl)
   first | refine bodyPost_end (results_none rfl _ _ _) rfl ?_ | refine bodyPost_ret (results_none rfl _ _ _) rfl ?_
   exact⟨rfl,⟨_,(((h2.ZQ 8 _).ZQ 9 _).ZQ 10 _).ZQ 3 _⟩,Zy (Zy (Zy (Zy (Only.Z5 g1) _ _) _ _) _ _) _ _⟩
end
section
theorem Qn {w:World} {b:Nat} {ob:Value} {S:Lr} (h:ZJ w b ob S) (E H V St:Int) (z:Int) :
 Calls Tryz.prog 105 #[pP b 0,.agg #[iV E,.int .u64 H,iV V,iV St],iV z] w fun e w'=>e=.returned (.tuple #[])/\ZJ w' b ob (S.wrote E St z)/\Only (B1 b) w w':=by
 obtain⟨kd,ky,hd,nx,an,al,ax,hn,hl,hx,md,cE,cH,cV,cS⟩:=S
 obtain⟨c,h⟩:=h
 replace h:At w b 0 145 c [iV kd,iV ky,.int .u64 hd,iV nx,ob,.int .u64 an,iV al,iV ax,.int .u64 hn,iV hl,iV hx,.int .u64 md,iV cE,.int .u64 cH,iV cV,iV cS]:=h
 have h1:=h.grown (ZZ w (.cells #[iV E,.int .u64 H,iV V,iV St] 53))
 have k0:=h1.at0 0 rfl
 have k1:=h1.at0 1 rfl
 have k2:=h1.at0 2 rfl
 have k3:=h1.at0 3 rfl
 have k4:=h1.at0 4 rfl
 have k5:=h1.at0 5 rfl
 have k6:=h1.at0 6 rfl
 have k7:=h1.at0 7 rfl
 have k8:=h1.at0 8 rfl
 have k9:=h1.at0 9 rfl
 have k10:=h1.at0 10 rfl
 have k11:=h1.at0 11 rfl
 have k12:=h1.at0 12 rfl
 have k13:=h1.at0 13 rfl
 have k14:=h1.at0 14 rfl
 have k15:=h1.at0 15 rfl
 have kf:=h1.fz
 by_cases e0:E=0
 . subst e0
   rw[show Lr.wrote ⟨kd,ky,hd,nx,an,al,ax,hn,hl,hx,md,cE,cH,cV,cS⟩ 0 St z=Lr.lay ⟨kd,ky,hd,nx,an,al,ax,hn,hl,hx,md,cE,cH,cV,cS⟩ z from rfl]
   go_enter Tryz.func105,Tryz.ntmps105
   go_wp2
   first | refine bodyPost_end (results_none rfl _ _ _) rfl ?_ | refine bodyPost_ret (results_none rfl _ _ _) rfl ?_
   exact⟨rfl,⟨_,h1.ZQ 3 _⟩,Zy (Only.Z5 (ZZ _ _)) _ _⟩
 . rw[show Lr.wrote ⟨kd,ky,hd,nx,an,al,ax,hn,hl,hx,md,cE,cH,cV,cS⟩ E St z=Lr.end_ ⟨kd,ky,hd,nx,an,al,ax,hn,hl,hx,md,cE,cH,cV,cS⟩ E 0 St from if_neg e0]
   replace e0:(E == 0)=false:=by simpa using e0
   go_enter Tryz.func105,Tryz.ntmps105
   go_wp2_with (go_at_call 117;refine(TS (S:=⟨kd,ky,hd,nx,an,al,ax,hn,hl,hx,md,cE,cH,cV,cS⟩) ⟨_,h1⟩ E H V St).mono ?_;rintro e w1 ⟨rfl,q1,o1⟩)
   first | refine bodyPost_end (results_none rfl _ _ _) rfl ?_ | refine bodyPost_ret (results_none rfl _ _ _) rfl ?_
   exact⟨rfl,q1,(Only.Z5 (ZZ _ _)).trans o1⟩
theorem ND {w:World} {b:Nat} {ob:Value} {S:Lr} (h:ZJ w b ob S) (E H V St:Int) :
 Calls Tryz.prog 104 #[pP b 0,.agg #[iV E,.int .u64 H,iV V,iV St]] w fun e w'=>e=.returned (.tuple #[])/\ZJ w' b ob (S.XY E H St)/\Only (B1 b) w w':=by
 obtain⟨kd,ky,hd,nx,an,al,ax,hn,hl,hx,md,cE,cH,cV,cS⟩:=S
 obtain⟨c,h⟩:=h
 replace h:At w b 0 145 c [iV kd,iV ky,.int .u64 hd,iV nx,ob,.int .u64 an,iV al,iV ax,.int .u64 hn,iV hl,iV hx,.int .u64 md,iV cE,.int .u64 cH,iV cV,iV cS]:=h
 have h1:=h.grown (ZZ w (.cells #[iV E,.int .u64 H,iV V,iV St] 53))
 have k0:=h1.at0 0 rfl
 have k1:=h1.at0 1 rfl
 have k2:=h1.at0 2 rfl
 have k3:=h1.at0 3 rfl
 have k4:=h1.at0 4 rfl
 have k5:=h1.at0 5 rfl
 have k6:=h1.at0 6 rfl
 have k7:=h1.at0 7 rfl
 have k8:=h1.at0 8 rfl
 have k9:=h1.at0 9 rfl
 have k10:=h1.at0 10 rfl
 have k11:=h1.at0 11 rfl
 have k12:=h1.at0 12 rfl
 have k13:=h1.at0 13 rfl
 have k14:=h1.at0 14 rfl
 have k15:=h1.at0 15 rfl
 have kf:=h1.fz
 by_cases e0:E=0
 . subst e0
   rw[show Lr.XY ⟨kd,ky,hd,nx,an,al,ax,hn,hl,hx,md,cE,cH,cV,cS⟩ 0 H St=⟨kd,ky,hd,6,an,al,ax,hn,hl,hx,H,cE,cH,cV,cS⟩ from rfl]
   go_enter Tryz.func104,Tryz.ntmps104
   go_wp2
   first | refine bodyPost_end (results_none rfl _ _ _) rfl ?_ | refine bodyPost_ret (results_none rfl _ _ _) rfl ?_
   exact⟨rfl,⟨_,(h1.ZQ 11 _).ZQ 3 _⟩,Zy (Zy (Only.Z5 (ZZ _ _)) _ _) _ _⟩
 . rw[show Lr.XY ⟨kd,ky,hd,nx,an,al,ax,hn,hl,hx,md,cE,cH,cV,cS⟩ E H St=Lr.end_ ⟨kd,ky,hd,nx,an,al,ax,hn,hl,hx,md,cE,cH,cV,cS⟩ E 0 St from if_neg e0]
   replace e0:(E == 0)=false:=by simpa using e0
   go_enter Tryz.func104,Tryz.ntmps104
   go_wp2_with (go_at_call 117;refine(TS (S:=⟨kd,ky,hd,nx,an,al,ax,hn,hl,hx,md,cE,cH,cV,cS⟩) ⟨_,h1⟩ E H V St).mono ?_;rintro e w1 ⟨rfl,q1,o1⟩)
   first | refine bodyPost_end (results_none rfl _ _ _) rfl ?_ | refine bodyPost_ret (results_none rfl _ _ _) rfl ?_
   exact⟨rfl,q1,(Only.Z5 (ZZ _ _)).trans o1⟩
theorem KT {w:World} {b:Nat} {ob:Value} {S:Lr} (h:ZJ w b ob S) (E H V St:Int) :
 Calls Tryz.prog 107 #[pP b 0,.agg #[iV E,.int .u64 H,iV V,iV St]] w fun e w'=>e=.returned (.tuple #[])/\ZJ w' b ob (S.marked E St)/\Only (B1 b) w w':=by
 obtain⟨kd,ky,hd,nx,an,al,ax,hn,hl,hx,md,cE,cH,cV,cS⟩:=S
 obtain⟨c,h⟩:=h
 replace h:At w b 0 145 c [iV kd,iV ky,.int .u64 hd,iV nx,ob,.int .u64 an,iV al,iV ax,.int .u64 hn,iV hl,iV hx,.int .u64 md,iV cE,.int .u64 cH,iV cV,iV cS]:=h
 have h1:=h.grown (ZZ w (.cells #[iV E,.int .u64 H,iV V,iV St] 53))
 have k0:=h1.at0 0 rfl
 have k1:=h1.at0 1 rfl
 have k2:=h1.at0 2 rfl
 have k3:=h1.at0 3 rfl
 have k4:=h1.at0 4 rfl
 have k5:=h1.at0 5 rfl
 have k6:=h1.at0 6 rfl
 have k7:=h1.at0 7 rfl
 have k8:=h1.at0 8 rfl
 have k9:=h1.at0 9 rfl
 have k10:=h1.at0 10 rfl
 have k11:=h1.at0 11 rfl
 have k12:=h1.at0 12 rfl
 have k13:=h1.at0 13 rfl
 have k14:=h1.at0 14 rfl
 have k15:=h1.at0 15 rfl
 have kf:=h1.fz
 by_cases e0:E=0
 . subst e0
   rw[show Lr.marked ⟨kd,ky,hd,nx,an,al,ax,hn,hl,hx,md,cE,cH,cV,cS⟩ 0 St=⟨kd,ky,hd,11,an,al,ax,hn,hl,hx,md,0,0,1,St⟩ from rfl]
   go_enter Tryz.func107,Tryz.ntmps107
   go_wp2
   first | refine bodyPost_end (results_none rfl _ _ _) rfl ?_ | refine bodyPost_ret (results_none rfl _ _ _) rfl ?_
   exact⟨rfl,⟨_,((((h1.ZQ 12 _).ZQ 13 _).ZQ 14 _).ZQ 15 _).ZQ 3 _⟩,Zy (Zy (Zy (Zy (Zy (Only.Z5 (ZZ _ _)) _ _) _ _) _ _) _ _) _ _⟩
 . rw[show Lr.marked ⟨kd,ky,hd,nx,an,al,ax,hn,hl,hx,md,cE,cH,cV,cS⟩ E St=Lr.lay ⟨kd,ky,hd,nx,an,al,ax,hn,hl,hx,md,cE,cH,cV,cS⟩ 0 from if_neg e0]
   replace e0:(E == 0)=false:=by simpa using e0
   go_enter Tryz.func107,Tryz.ntmps107
   go_wp2_with (go_at_call 94;refine(VY (S:=⟨kd,ky,hd,nx,an,al,ax,hn,hl,hx,md,cE,cH,cV,cS⟩) ⟨_,h1⟩).mono ?_;rintro e w1 ⟨rfl,q1,o1⟩)
   first | refine bodyPost_end (results_none rfl _ _ _) rfl ?_ | refine bodyPost_ret (results_none rfl _ _ _) rfl ?_
   exact⟨rfl,q1,(Only.Z5 (ZZ _ _)).trans o1⟩
theorem KW {w:World} {b:Nat} {ob:Value} {S:Lr} (h:ZJ w b ob S) (E H V St:Int) :
 Calls Tryz.prog 106 #[pP b 0,.agg #[iV E,.int .u64 H,iV V,iV St]] w fun e w'=>e=.returned (.tuple #[])/\ZJ w' b ob (S.showed E St)/\Only (B1 b) w w':=by
 obtain⟨kd,ky,hd,nx,an,al,ax,hn,hl,hx,md,cE,cH,cV,cS⟩:=S
 obtain⟨c,h⟩:=h
 replace h:At w b 0 145 c [iV kd,iV ky,.int .u64 hd,iV nx,ob,.int .u64 an,iV al,iV ax,.int .u64 hn,iV hl,iV hx,.int .u64 md,iV cE,.int .u64 cH,iV cV,iV cS]:=h
 have h1:=h.grown (ZZ w (.cells #[iV E,.int .u64 H,iV V,iV St] 53))
 have k0:=h1.at0 0 rfl
 have k1:=h1.at0 1 rfl
 have k2:=h1.at0 2 rfl
 have k3:=h1.at0 3 rfl
 have k4:=h1.at0 4 rfl
 have k5:=h1.at0 5 rfl
 have k6:=h1.at0 6 rfl
 have k7:=h1.at0 7 rfl
 have k8:=h1.at0 8 rfl
 have k9:=h1.at0 9 rfl
 have k10:=h1.at0 10 rfl
 have k11:=h1.at0 11 rfl
 have k12:=h1.at0 12 rfl
 have k13:=h1.at0 13 rfl
 have k14:=h1.at0 14 rfl
 have k15:=h1.at0 15 rfl
 have kf:=h1.fz
 by_cases e0:E=0
 . subst e0
   rw[show Lr.showed ⟨kd,ky,hd,nx,an,al,ax,hn,hl,hx,md,cE,cH,cV,cS⟩ 0 St=⟨kd,ky,hd,13,an,al,ax,hn,hl,hx,0,0,0,1,St⟩ from rfl]
   go_enter Tryz.func106,Tryz.ntmps106
   go_wp2_with (go_at_call 121;refine(VX (S:=⟨kd,ky,hd,nx,an,al,ax,hn,hl,hx,0,cE,cH,cV,cS⟩) ⟨_,h1.ZQ 11 _⟩ 0 0 1 St).mono ?_;rintro e w1 ⟨rfl,q1,o1⟩)
   first | refine bodyPost_end (results_none rfl _ _ _) rfl ?_ | refine bodyPost_ret (results_none rfl _ _ _) rfl ?_
   exact⟨rfl,q1,(Zy (Only.Z5 (ZZ _ _)) _ _).trans o1⟩
 . rw[show Lr.showed ⟨kd,ky,hd,nx,an,al,ax,hn,hl,hx,md,cE,cH,cV,cS⟩ E St=Lr.lay ⟨kd,ky,hd,nx,an,al,ax,hn,hl,hx,md,cE,cH,cV,cS⟩ 0 from if_neg e0]
   replace e0:(E == 0)=false:=by simpa using e0
   go_enter Tryz.func106,Tryz.ntmps106
   go_wp2_with (go_at_call 94;refine(VY (S:=⟨kd,ky,hd,nx,an,al,ax,hn,hl,hx,md,cE,cH,cV,cS⟩) ⟨_,h1⟩).mono ?_;rintro e w1 ⟨rfl,q1,o1⟩)
   first | refine bodyPost_end (results_none rfl _ _ _) rfl ?_ | refine bodyPost_ret (results_none rfl _ _ _) rfl ?_
   exact⟨rfl,q1,(Only.Z5 (ZZ _ _)).trans o1⟩
theorem Ph {w:World} {b:Nat} {ob:Value} {S:Lr} (h:ZJ w b ob S) (E H V St:Int) :
 Calls Tryz.prog 108 #[pP b 0,.agg #[iV E,.int .u64 H,iV V,iV St]] w fun e w'=>e=.returned (.tuple #[])/\ZJ w' b ob (S.Ye E)/\Only (B1 b) w w':=by
 obtain⟨kd,ky,hd,nx,an,al,ax,hn,hl,hx,md,cE,cH,cV,cS⟩:=S
 obtain⟨c,h⟩:=h
 replace h:At w b 0 145 c [iV kd,iV ky,.int .u64 hd,iV nx,ob,.int .u64 an,iV al,iV ax,.int .u64 hn,iV hl,iV hx,.int .u64 md,iV cE,.int .u64 cH,iV cV,iV cS]:=h
 have h1:=h.grown (ZZ w (.cells #[iV E,.int .u64 H,iV V,iV St] 53))
 have k0:=h1.at0 0 rfl
 have k1:=h1.at0 1 rfl
 have k2:=h1.at0 2 rfl
 have k3:=h1.at0 3 rfl
 have k4:=h1.at0 4 rfl
 have k5:=h1.at0 5 rfl
 have k6:=h1.at0 6 rfl
 have k7:=h1.at0 7 rfl
 have k8:=h1.at0 8 rfl
 have k9:=h1.at0 9 rfl
 have k10:=h1.at0 10 rfl
 have k11:=h1.at0 11 rfl
 have k12:=h1.at0 12 rfl
 have k13:=h1.at0 13 rfl
 have k14:=h1.at0 14 rfl
 have k15:=h1.at0 15 rfl
 have kf:=h1.fz
 by_cases e0:E=0
 . subst e0
   rw[show Lr.Ye ⟨kd,ky,hd,nx,an,al,ax,hn,hl,hx,md,cE,cH,cV,cS⟩ 0=Lr.lay ⟨kd,ky,hd,nx,an,al,ax,hn,hl,hx,md,cE,cH,cV,cS⟩ 12 from rfl]
   go_enter Tryz.func108,Tryz.ntmps108
   go_wp2
   first | refine bodyPost_end (results_none rfl _ _ _) rfl ?_ | refine bodyPost_ret (results_none rfl _ _ _) rfl ?_
   exact⟨rfl,⟨_,(h1.ZQ 3 _).ZQ 3 _⟩,Zy (Zy (Only.Z5 (ZZ _ _)) _ _) _ _⟩
 . rw[show Lr.Ye ⟨kd,ky,hd,nx,an,al,ax,hn,hl,hx,md,cE,cH,cV,cS⟩ E=Lr.lay ⟨kd,ky,hd,nx,an,al,ax,hn,hl,hx,md,cE,cH,cV,cS⟩ 13 from by unfold Lr.Ye;rw[if_neg e0]]
   replace e0:(E == 0)=false:=by simpa using e0
   go_enter Tryz.func108,Tryz.ntmps108
   go_wp2
   first | refine bodyPost_end (results_none rfl _ _ _) rfl ?_ | refine bodyPost_ret (results_none rfl _ _ _) rfl ?_
   exact⟨rfl,⟨_,h1.ZQ 3 _⟩,Zy (Only.Z5 (ZZ _ _)) _ _⟩
theorem NF {w:World} {b:Nat} {ob:Value} {S:Lr} (h:ZJ w b ob S) (E H V St:Int) (v0:E=0->0<=V/\V<8589934592) :
 Calls Tryz.prog 100 #[pP b 0,.agg #[iV E,.int .u64 H,iV V,iV St]] w fun e w'=>e=.returned (.tuple #[])/\ZJ w' b ob (S.VD E V St)/\Only (B1 b) w w':=by
 obtain⟨kd,ky,hd,nx,an,al,ax,hn,hl,hx,md,cE,cH,cV,cS⟩:=S
 obtain⟨c,h⟩:=h
 replace h:At w b 0 145 c [iV kd,iV ky,.int .u64 hd,iV nx,ob,.int .u64 an,iV al,iV ax,.int .u64 hn,iV hl,iV hx,.int .u64 md,iV cE,.int .u64 cH,iV cV,iV cS]:=h
 have h1:=h.grown (ZZ w (.cells #[iV E,.int .u64 H,iV V,iV St] 53))
 have k0:=h1.at0 0 rfl
 have k1:=h1.at0 1 rfl
 have k2:=h1.at0 2 rfl
 have k3:=h1.at0 3 rfl
 have k4:=h1.at0 4 rfl
 have k5:=h1.at0 5 rfl
 have k6:=h1.at0 6 rfl
 have k7:=h1.at0 7 rfl
 have k8:=h1.at0 8 rfl
 have k9:=h1.at0 9 rfl
 have k10:=h1.at0 10 rfl
 have k11:=h1.at0 11 rfl
 have k12:=h1.at0 12 rfl
 have k13:=h1.at0 13 rfl
 have k14:=h1.at0 14 rfl
 have k15:=h1.at0 15 rfl
 have kf:=h1.fz
 by_cases e0:E=0
 . subst e0
   rw[show Lr.VD ⟨kd,ky,hd,nx,an,al,ax,hn,hl,hx,md,cE,cH,cV,cS⟩ 0 V St=⟨kd,ky,hd,(if 4294967296<=V then 2 else 4),an,al,ax,hn,V,St,md,cE,cH,cV,cS⟩ from rfl]
   obtain⟨u0,u1⟩:=v0 rfl
   clear v0
   have qg:=Rk hn V St u0 u1
   by_cases hg:4294967296<=V
   . rw[if_pos hg]
     rw[show Xp V=true from decide_eq_true hg] at qg
     clear hg
     go_enter Tryz.func100,Tryz.ntmps100
     go_wp2_with (go_at_call 118;refine(qg _).mono ?_;rintro e w1 ⟨rfl,g1⟩;have h2:=(((h1.ZQ 9 (iV V)).ZQ 10 (iV St)).ZQ 3 (iV 4)).grown g1;have mV:=h2.fz;have y3:=h2.at0 3 rfl)
     first | refine bodyPost_end (results_none rfl _ _ _) rfl ?_ | refine bodyPost_ret (results_none rfl _ _ _) rfl ?_
     exact⟨rfl,⟨_,h2.ZQ 3 _⟩,Zy ((Zy (Zy (Zy (Only.Z5 (ZZ _ _)) _ _) _ _) _ _).trans (Only.Z5 g1)) _ _⟩
   . rw[if_neg hg]
     rw[show Xp V=false from decide_eq_false hg] at qg
     clear hg
     go_enter Tryz.func100,Tryz.ntmps100
     go_wp2_with (go_at_call 118;refine(qg _).mono ?_;rintro e w1 ⟨rfl,g1⟩;have h2:=(((h1.ZQ 9 (iV V)).ZQ 10 (iV St)).ZQ 3 (iV 4)).grown g1)
     first | refine bodyPost_end (results_none rfl _ _ _) rfl ?_ | refine bodyPost_ret (results_none rfl _ _ _) rfl ?_
     exact⟨rfl,⟨_,h2⟩,(Zy (Zy (Zy (Only.Z5 (ZZ _ _)) _ _) _ _) _ _).trans (Only.Z5 g1)⟩
 . rw[show Lr.VD ⟨kd,ky,hd,nx,an,al,ax,hn,hl,hx,md,cE,cH,cV,cS⟩ E V St=Lr.lay ⟨kd,ky,hd,nx,an,al,ax,hn,hl,hx,md,cE,cH,cV,cS⟩ 0 from if_neg e0]
   replace e0:(E == 0)=false:=by simpa using e0
   go_enter Tryz.func100,Tryz.ntmps100
   go_wp2_with (go_at_call 94;refine(VY (S:=⟨kd,ky,hd,nx,an,al,ax,hn,hl,hx,md,cE,cH,cV,cS⟩) ⟨_,h1⟩).mono ?_;rintro e w1 ⟨rfl,q1,o1⟩)
   first | refine bodyPost_end (results_none rfl _ _ _) rfl ?_ | refine bodyPost_ret (results_none rfl _ _ _) rfl ?_
   exact⟨rfl,q1,(Only.Z5 (ZZ _ _)).trans o1⟩
theorem Pj {w:World} {b:Nat} {ob:Value} {S:Lr} (h:ZJ w b ob S) (E H V St:Int) (v0:E=0->0<=V/\V<8589934592) :
 Calls Tryz.prog 99 #[pP b 0,.agg #[iV E,.int .u64 H,iV V,iV St]] w fun e w'=>e=.returned (.tuple #[])/\ZJ w' b ob (S.WV E V St)/\Only (B1 b) w w':=by
 obtain⟨kd,ky,hd,nx,an,al,ax,hn,hl,hx,md,cE,cH,cV,cS⟩:=S
 obtain⟨c,h⟩:=h
 replace h:At w b 0 145 c [iV kd,iV ky,.int .u64 hd,iV nx,ob,.int .u64 an,iV al,iV ax,.int .u64 hn,iV hl,iV hx,.int .u64 md,iV cE,.int .u64 cH,iV cV,iV cS]:=h
 have h1:=h.grown (ZZ w (.cells #[iV E,.int .u64 H,iV V,iV St] 53))
 have k0:=h1.at0 0 rfl
 have k1:=h1.at0 1 rfl
 have k2:=h1.at0 2 rfl
 have k3:=h1.at0 3 rfl
 have k4:=h1.at0 4 rfl
 have k5:=h1.at0 5 rfl
 have k6:=h1.at0 6 rfl
 have k7:=h1.at0 7 rfl
 have k8:=h1.at0 8 rfl
 have k9:=h1.at0 9 rfl
 have k10:=h1.at0 10 rfl
 have k11:=h1.at0 11 rfl
 have k12:=h1.at0 12 rfl
 have k13:=h1.at0 13 rfl
 have k14:=h1.at0 14 rfl
 have k15:=h1.at0 15 rfl
 have kf:=h1.fz
 by_cases e0:E=0
 . subst e0
   rw[show Lr.WV ⟨kd,ky,hd,nx,an,al,ax,hn,hl,hx,md,cE,cH,cV,cS⟩ 0 V St=Lr.reach ⟨kd,ky,hd,nx,hd,V,St,hn,hl,hx,md,cE,cH,cV,cS⟩ from rfl]
   obtain⟨u0,u1⟩:=v0 rfl
   clear v0
   go_enter Tryz.func99,Tryz.ntmps99
   go_wp2
   go_region
   go_wp2_with (go_at_call 102;refine(U8 (S:=⟨kd,ky,hd,nx,hd,V,St,hn,hl,hx,md,cE,cH,cV,cS⟩) ⟨_,(((h1.ZQ 5 _).ZQ 6 _).ZQ 7 _).drew⟩ u0 u1).mono ?_;rintro e w1 ⟨rfl,q1,o1⟩)
   first | refine bodyPost_end (results_none rfl _ _ _) rfl ?_ | refine bodyPost_ret (results_none rfl _ _ _) rfl ?_
   exact⟨rfl,q1,((Zy (Zy (Zy (Only.Z5 (ZZ _ _)) _ _) _ _) _ _).trans (Only.Z5 ((Below.refl _ _).drew))).trans o1⟩
 . rw[show Lr.WV ⟨kd,ky,hd,nx,an,al,ax,hn,hl,hx,md,cE,cH,cV,cS⟩ E V St=Lr.end_ ⟨kd,ky,hd,nx,an,al,ax,hn,hl,hx,md,cE,cH,cV,cS⟩ E 0 St from if_neg e0]
   replace e0:(E == 0)=false:=by simpa using e0
   go_enter Tryz.func99,Tryz.ntmps99
   go_wp2_with (go_at_call 117;refine(TS (S:=⟨kd,ky,hd,nx,an,al,ax,hn,hl,hx,md,cE,cH,cV,cS⟩) ⟨_,h1⟩ E H V St).mono ?_;rintro e w1 ⟨rfl,q1,o1⟩)
   first | refine bodyPost_end (results_none rfl _ _ _) rfl ?_ | refine bodyPost_ret (results_none rfl _ _ _) rfl ?_
   exact⟨rfl,q1,(Only.Z5 (ZZ _ _)).trans o1⟩
theorem KY {w:World} {b:Nat} {ob:Value} {S:Lr} (h:ZJ w b ob S) (E H V St:Int) (a0:0<=S.al) (a1:S.al<8589934592) (l0:0<=S.hl) (l1:S.hl<8589934592) :
 Calls Tryz.prog 101 #[pP b 0,.agg #[iV E,.int .u64 H,iV V,iV St]] w fun e w'=>e=.returned (.tuple #[])/\ZJ w' b ob (S.passed E St)/\Only (B1 b) w w':=by
 obtain⟨kd,ky,hd,nx,an,al,ax,hn,hl,hx,md,cE,cH,cV,cS⟩:=S
 obtain⟨c,h⟩:=h
 replace h:At w b 0 145 c [iV kd,iV ky,.int .u64 hd,iV nx,ob,.int .u64 an,iV al,iV ax,.int .u64 hn,iV hl,iV hx,.int .u64 md,iV cE,.int .u64 cH,iV cV,iV cS]:=h
 have h1:=h.grown (ZZ w (.cells #[iV E,.int .u64 H,iV V,iV St] 53))
 have k0:=h1.at0 0 rfl
 have k1:=h1.at0 1 rfl
 have k2:=h1.at0 2 rfl
 have k3:=h1.at0 3 rfl
 have k4:=h1.at0 4 rfl
 have k5:=h1.at0 5 rfl
 have k6:=h1.at0 6 rfl
 have k7:=h1.at0 7 rfl
 have k8:=h1.at0 8 rfl
 have k9:=h1.at0 9 rfl
 have k10:=h1.at0 10 rfl
 have k11:=h1.at0 11 rfl
 have k12:=h1.at0 12 rfl
 have k13:=h1.at0 13 rfl
 have k14:=h1.at0 14 rfl
 have k15:=h1.at0 15 rfl
 have kf:=h1.fz
 have bx:=At.new w 53 [iV E,.int .u64 H,iV V,iV St]
 by_cases e0:E=0
 . subst e0
   rw[show Lr.passed ⟨kd,ky,hd,nx,an,al,ax,hn,hl,hx,md,cE,cH,cV,cS⟩ 0 St=⟨kd,ky,hd,3,an,(Lr.lead al (hl % 4294967296)),St,hn,hl,hx,md,cE,cH,cV,cS⟩ from rfl]
   replace a0:0<=al:=a0
   replace a1:al<8589934592:=a1
   replace l0:0<=hl:=l0
   replace l1:hl<8589934592:=l1
   have wE:=WA hn hl hx l0 l1
   have Ea:=VZ an al ax (hl % 4294967296) a0 a1 (by omega) (by omega)
   clear a0 a1 l0 l1
   generalize hl % 4294967296=x at wE Ea ⊢
   generalize Lr.lead al x=y at Ea ⊢
   go_enter Tryz.func101,Tryz.ntmps101
   go_wp2
   refine ZT (fun W=>At W b 0 145 c [iV kd,iV ky,.int .u64 hd,iV nx,ob,.int .u64 an,iV al,iV ax,.int .u64 hn,iV hl,iV hx,.int .u64 md,iV cE,.int .u64 cH,iV cV,iV cS]/\Below w.heap.size w W/\At W w.heap.size 0 53 #[iV 0,.int .u64 H,iV V,iV St] [iV 0,.int .u64 H,iV V,iV St]) ⟨h1,ZZ _ _,bx⟩ ?_
   rintro W ⟨hW,bW,vW⟩
   apply Xy 11;. kernel_rfl
   iterate 4 (apply rV;. intros;apply ol;go_simp;exact gl)
   apply rV;. intro w' hg _;apply ol;have hw:=hW.drew.grown hg;have y5:=hw.at0 5 rfl;have y6:=hw.at0 6 rfl;have y7:=hw.at0 7 rfl;go_simp;exact gl
   apply rV;. intros;apply ol;go_simp;exact gl
   try simp only[pu,s0,s1]
   iterate 2 (apply rV;. intros;apply ol;go_simp;exact gl)
   apply rV;. intro w' hg _;apply ol;have hw:=hW.drew.grown hg;have y8:=hw.at0 8 rfl;have y9:=hw.at0 9 rfl;have wF:=hw.at0 10 rfl;go_simp;exact gl
   apply rV;. intro w' hg _;apply ol;go_simp;exact cb (wE _)
   apply XW;. intro w' hg _;apply ol;go_simp;exact cb (Ea _)
   try simp only[pu,s0,s1]
   intro w5 hg _
   have h5:=hW.drew.grown hg
   have mQ:=h5.fz
   have z0:=h5.at0 0 rfl
   have z1:=h5.at0 1 rfl
   have z2:=h5.at0 2 rfl
   have z3:=h5.at0 3 rfl
   have z4:=h5.at0 4 rfl
   have z5:=h5.at0 5 rfl
   have z6:=h5.at0 6 rfl
   have z7:=h5.at0 7 rfl
   have z8:=h5.at0 8 rfl
   have z9:=h5.at0 9 rfl
   have z10:=h5.at0 10 rfl
   have z11:=h5.at0 11 rfl
   have z12:=h5.at0 12 rfl
   have z13:=h5.at0 13 rfl
   have oL:=h5.at0 14 rfl
   have oK:=h5.at0 15 rfl
   have v5:=(vW.drew.grown hg).at0 3 rfl
   clear k0 k1 k2 k3 k4 k5 k6 k7 k8 k9 k10 k11 k12 k13 k14 k15 kf
   go_wp2
   first | refine bodyPost_end (results_none rfl _ _ _) rfl ?_ | refine bodyPost_ret (results_none rfl _ _ _) rfl ?_
   exact⟨rfl,⟨_,((h5.ZQ 6 _).ZQ 7 _).ZQ 3 _⟩,Zy (Zy (Zy (Only.Z5 (grow (grow bW ((Below.refl _ _).drew)) hg)) _ _) _ _) _ _⟩
 . rw[show Lr.passed ⟨kd,ky,hd,nx,an,al,ax,hn,hl,hx,md,cE,cH,cV,cS⟩ E St=Lr.lay ⟨kd,ky,hd,nx,an,al,ax,hn,hl,hx,md,cE,cH,cV,cS⟩ 0 from if_neg e0]
   replace e0:(E == 0)=false:=by simpa using e0
   go_enter Tryz.func101,Tryz.ntmps101
   go_wp2_with (go_at_call 94;refine(VY (S:=⟨kd,ky,hd,nx,an,al,ax,hn,hl,hx,md,cE,cH,cV,cS⟩) ⟨_,h1⟩).mono ?_;rintro e w1 ⟨rfl,q1,o1⟩)
   first | refine bodyPost_end (results_none rfl _ _ _) rfl ?_ | refine bodyPost_ret (results_none rfl _ _ _) rfl ?_
   exact⟨rfl,q1,(Only.Z5 (ZZ _ _)).trans o1⟩
theorem KX {w:World} {b:Nat} {ob:Value} {S:Lr} (h:ZJ w b ob S) (E H V St:Int) (l0:0<=S.hl) (l1:S.hl<8589934592) :
 Calls Tryz.prog 103 #[pP b 0,.agg #[iV E,.int .u64 H,iV V,iV St]] w fun e w'=>e=.returned (.tuple #[])/\ZJ w' b ob (S.XN E V)/\Only (B1 b) w w':=by
 obtain⟨kd,ky,hd,nx,an,al,ax,hn,hl,hx,md,cE,cH,cV,cS⟩:=S
 obtain⟨c,h⟩:=h
 replace h:At w b 0 145 c [iV kd,iV ky,.int .u64 hd,iV nx,ob,.int .u64 an,iV al,iV ax,.int .u64 hn,iV hl,iV hx,.int .u64 md,iV cE,.int .u64 cH,iV cV,iV cS]:=h
 have h1:=h.grown (ZZ w (.cells #[iV E,.int .u64 H,iV V,iV St] 53))
 have k0:=h1.at0 0 rfl
 have k1:=h1.at0 1 rfl
 have k2:=h1.at0 2 rfl
 have k3:=h1.at0 3 rfl
 have k4:=h1.at0 4 rfl
 have k5:=h1.at0 5 rfl
 have k6:=h1.at0 6 rfl
 have k7:=h1.at0 7 rfl
 have k8:=h1.at0 8 rfl
 have k9:=h1.at0 9 rfl
 have k10:=h1.at0 10 rfl
 have k11:=h1.at0 11 rfl
 have k12:=h1.at0 12 rfl
 have k13:=h1.at0 13 rfl
 have k14:=h1.at0 14 rfl
 have k15:=h1.at0 15 rfl
 have kf:=h1.fz
 by_cases e0:E=0
 . subst e0
   rw[show Lr.XN ⟨kd,ky,hd,nx,an,al,ax,hn,hl,hx,md,cE,cH,cV,cS⟩ 0 V=if V<ky then Lr.reach ⟨kd,ky,hd,nx,hn,hl,hx,hn,hl,hx,md,cE,cH,cV,cS⟩ else if V=ky then Lr.found ⟨kd,ky,hd,nx,an,al,ax,hn,hl,hx,md,cE,cH,cV,cS⟩ else Lr.missing ⟨kd,ky,hd,nx,an,al,ax,hn,hl,hx,md,cE,cH,cV,cS⟩ from rfl]
   replace l0:0<=hl:=l0
   replace l1:hl<8589934592:=l1
   have hd1:=h1.drew
   have hd2:=hd1.drew
   have z0:=hd1.at0 0 rfl
   have z1:=hd1.at0 1 rfl
   have z2:=hd1.at0 2 rfl
   have z3:=hd1.at0 3 rfl
   have z4:=hd1.at0 4 rfl
   have z5:=hd1.at0 5 rfl
   have z6:=hd1.at0 6 rfl
   have z7:=hd1.at0 7 rfl
   have z8:=hd1.at0 8 rfl
   have z9:=hd1.at0 9 rfl
   have z10:=hd1.at0 10 rfl
   have z11:=hd1.at0 11 rfl
   have z12:=hd1.at0 12 rfl
   have z13:=hd1.at0 13 rfl
   have oL:=hd1.at0 14 rfl
   have oK:=hd1.at0 15 rfl
   have mP:=hd1.fz
   by_cases c1:V<ky
   . rw[if_pos c1]
     go_enter Tryz.func103,Tryz.ntmps103
     go_wp2
     go_region
     go_wp2_with (go_at_call 102;refine(U8 (S:=⟨kd,ky,hd,nx,hn,hl,hx,hn,hl,hx,md,cE,cH,cV,cS⟩) ⟨_,((hd1.ZQ 5 _).ZQ 6 _).ZQ 7 _⟩ l0 l1).mono ?_;rintro e w1 ⟨rfl,q1,o1⟩)
     first | refine bodyPost_end (results_none rfl _ _ _) rfl ?_ | refine bodyPost_ret (results_none rfl _ _ _) rfl ?_
     exact⟨rfl,q1,(Zy (Zy (Zy ((Only.Z5 (ZZ _ _)).trans (Only.Z5 ((Below.refl _ _).drew))) _ _) _ _) _ _).trans o1⟩
   . rw[if_neg c1]
     by_cases c2:V=ky
     . rw[if_pos c2]
       replace c2:(V == ky)=true:=by simpa using c2
       go_enter Tryz.func103,Tryz.ntmps103
       go_wp2
       go_region
       go_wp2
       go_region
       go_wp2_with (go_at_call 120;refine(Ii (S:=⟨kd,ky,hd,nx,an,al,ax,hn,hl,hx,md,cE,cH,cV,cS⟩) ⟨_,hd2⟩).mono ?_;rintro e w1 ⟨rfl,q1,o1⟩)
       first | refine bodyPost_end (results_none rfl _ _ _) rfl ?_ | refine bodyPost_ret (results_none rfl _ _ _) rfl ?_
       exact⟨rfl,q1,(((Only.Z5 (ZZ _ _)).trans (Only.Z5 ((Below.refl _ _).drew))).trans (Only.Z5 ((Below.refl _ _).drew))).trans o1⟩
     . rw[if_neg c2]
       replace c2:(V == ky)=false:=by simpa using c2
       go_enter Tryz.func103,Tryz.ntmps103
       go_wp2
       go_region
       go_wp2
       go_region
       go_wp2_with (go_at_call 119;refine(TD (S:=⟨kd,ky,hd,nx,an,al,ax,hn,hl,hx,md,cE,cH,cV,cS⟩) ⟨_,hd2⟩).mono ?_;rintro e w1 ⟨rfl,q1,o1⟩)
       first | refine bodyPost_end (results_none rfl _ _ _) rfl ?_ | refine bodyPost_ret (results_none rfl _ _ _) rfl ?_
       exact⟨rfl,q1,(((Only.Z5 (ZZ _ _)).trans (Only.Z5 ((Below.refl _ _).drew))).trans (Only.Z5 ((Below.refl _ _).drew))).trans o1⟩
 . rw[show Lr.XN ⟨kd,ky,hd,nx,an,al,ax,hn,hl,hx,md,cE,cH,cV,cS⟩ E V=Lr.lay ⟨kd,ky,hd,nx,an,al,ax,hn,hl,hx,md,cE,cH,cV,cS⟩ 0 from if_neg e0]
   replace e0:(E == 0)=false:=by simpa using e0
   go_enter Tryz.func103,Tryz.ntmps103
   go_wp2_with (go_at_call 94;refine(VY (S:=⟨kd,ky,hd,nx,an,al,ax,hn,hl,hx,md,cE,cH,cV,cS⟩) ⟨_,h1⟩).mono ?_;rintro e w1 ⟨rfl,q1,o1⟩)
   first | refine bodyPost_end (results_none rfl _ _ _) rfl ?_ | refine bodyPost_ret (results_none rfl _ _ _) rfl ?_
   exact⟨rfl,q1,(Only.Z5 (ZZ _ _)).trans o1⟩
end
section
theorem Ih {w:World} {b:Nat} {ob:Value} {S:Lr} (h:ZJ w b ob S) (E H V St:Int) (hn0:S.nx=0) (v0:E=0->0<=V/\V<8589934592) :
 Calls Tryz.prog 97 #[pP b 0,.agg #[iV E,.int .u64 H,iV V,iV St]] w fun e w'=>e=.returned (.tuple #[])/\ZJ w' b ob (S.go E H V St)/\Only (B1 b) w w':=by
 obtain⟨kd,ky,hd,nx,an,al,ax,hn,hl,hx,md,cE,cH,cV,cS⟩:=S
 replace hn0:nx=0:=hn0
 subst hn0
 have q:=Pj (h.grown (ZZ w (.cells #[iV E,.int .u64 H,iV V,iV St] 53))) E H V St v0
 obtain⟨c,h⟩:=h
 have k3:=(h.grown (ZZ w (.cells #[iV E,.int .u64 H,iV V,iV St] 53))).at0 3 rfl
 go_enter Tryz.func97,Tryz.ntmps97
 go_wp2_with (go_at_call 99;refine q.mono ?_;rintro e w1 ⟨rfl,q1,o1⟩)
 first | refine bodyPost_end (results_none rfl _ _ _) rfl ?_ | refine bodyPost_ret (results_none rfl _ _ _) rfl ?_
 exact⟨rfl,q1,(Only.Z5 (ZZ _ _)).trans o1⟩
theorem Ig {w:World} {b:Nat} {ob:Value} {S:Lr} (h:ZJ w b ob S) (E H V St:Int) (hn0:S.nx=1) (v0:E=0->0<=V/\V<8589934592) :
 Calls Tryz.prog 97 #[pP b 0,.agg #[iV E,.int .u64 H,iV V,iV St]] w fun e w'=>e=.returned (.tuple #[])/\ZJ w' b ob (S.go E H V St)/\Only (B1 b) w w':=by
 obtain⟨kd,ky,hd,nx,an,al,ax,hn,hl,hx,md,cE,cH,cV,cS⟩:=S
 replace hn0:nx=1:=hn0
 subst hn0
 have q:=NF (h.grown (ZZ w (.cells #[iV E,.int .u64 H,iV V,iV St] 53))) E H V St v0
 obtain⟨c,h⟩:=h
 have k3:=(h.grown (ZZ w (.cells #[iV E,.int .u64 H,iV V,iV St] 53))).at0 3 rfl
 go_enter Tryz.func97,Tryz.ntmps97
 go_wp2_with (go_at_call 100;refine q.mono ?_;rintro e w1 ⟨rfl,q1,o1⟩)
 first | refine bodyPost_end (results_none rfl _ _ _) rfl ?_ | refine bodyPost_ret (results_none rfl _ _ _) rfl ?_
 exact⟨rfl,q1,(Only.Z5 (ZZ _ _)).trans o1⟩
theorem Ie {w:World} {b:Nat} {ob:Value} {S:Lr} (h:ZJ w b ob S) (E H V St:Int) (hn0:S.nx=2) (a0:0<=S.al) (a1:S.al<8589934592) (l0:0<=S.hl) (l1:S.hl<8589934592) :
 Calls Tryz.prog 97 #[pP b 0,.agg #[iV E,.int .u64 H,iV V,iV St]] w fun e w'=>e=.returned (.tuple #[])/\ZJ w' b ob (S.go E H V St)/\Only (B1 b) w w':=by
 obtain⟨kd,ky,hd,nx,an,al,ax,hn,hl,hx,md,cE,cH,cV,cS⟩:=S
 replace hn0:nx=2:=hn0
 subst hn0
 have q:=KY (h.grown (ZZ w (.cells #[iV E,.int .u64 H,iV V,iV St] 53))) E H V St a0 a1 l0 l1
 obtain⟨c,h⟩:=h
 have k3:=(h.grown (ZZ w (.cells #[iV E,.int .u64 H,iV V,iV St] 53))).at0 3 rfl
 go_enter Tryz.func97,Tryz.ntmps97
 go_wp2_with (go_at_call 101;refine q.mono ?_;rintro e w1 ⟨rfl,q1,o1⟩)
 first | refine bodyPost_end (results_none rfl _ _ _) rfl ?_ | refine bodyPost_ret (results_none rfl _ _ _) rfl ?_
 exact⟨rfl,q1,(Only.Z5 (ZZ _ _)).trans o1⟩
theorem Ic {w:World} {b:Nat} {ob:Value} {S:Lr} (h:ZJ w b ob S) (E H V St:Int) (hn0:S.nx=3) (a0:0<=S.al) (a1:S.al<8589934592) :
 Calls Tryz.prog 97 #[pP b 0,.agg #[iV E,.int .u64 H,iV V,iV St]] w fun e w'=>e=.returned (.tuple #[])/\ZJ w' b ob (S.go E H V St)/\Only (B1 b) w w':=by
 obtain⟨kd,ky,hd,nx,an,al,ax,hn,hl,hx,md,cE,cH,cV,cS⟩:=S
 replace hn0:nx=3:=hn0
 subst hn0
 have q:=U8 (h.grown (ZZ w (.cells #[iV E,.int .u64 H,iV V,iV St] 53))) a0 a1
 obtain⟨c,h⟩:=h
 have k3:=(h.grown (ZZ w (.cells #[iV E,.int .u64 H,iV V,iV St] 53))).at0 3 rfl
 go_enter Tryz.func97,Tryz.ntmps97
 go_wp2_with (go_at_call 102;refine q.mono ?_;rintro e w1 ⟨rfl,q1,o1⟩)
 first | refine bodyPost_end (results_none rfl _ _ _) rfl ?_ | refine bodyPost_ret (results_none rfl _ _ _) rfl ?_
 exact⟨rfl,q1,(Only.Z5 (ZZ _ _)).trans o1⟩
theorem Ib {w:World} {b:Nat} {ob:Value} {S:Lr} (h:ZJ w b ob S) (E H V St:Int) (hn0:S.nx=4) (l0:0<=S.hl) (l1:S.hl<8589934592) :
 Calls Tryz.prog 97 #[pP b 0,.agg #[iV E,.int .u64 H,iV V,iV St]] w fun e w'=>e=.returned (.tuple #[])/\ZJ w' b ob (S.go E H V St)/\Only (B1 b) w w':=by
 obtain⟨kd,ky,hd,nx,an,al,ax,hn,hl,hx,md,cE,cH,cV,cS⟩:=S
 replace hn0:nx=4:=hn0
 subst hn0
 have q:=KX (h.grown (ZZ w (.cells #[iV E,.int .u64 H,iV V,iV St] 53))) E H V St l0 l1
 obtain⟨c,h⟩:=h
 have k3:=(h.grown (ZZ w (.cells #[iV E,.int .u64 H,iV V,iV St] 53))).at0 3 rfl
 go_enter Tryz.func97,Tryz.ntmps97
 go_wp2_with (go_at_call 103;refine q.mono ?_;rintro e w1 ⟨rfl,q1,o1⟩)
 first | refine bodyPost_end (results_none rfl _ _ _) rfl ?_ | refine bodyPost_ret (results_none rfl _ _ _) rfl ?_
 exact⟨rfl,q1,(Only.Z5 (ZZ _ _)).trans o1⟩
theorem Ia {w:World} {b:Nat} {ob:Value} {S:Lr} (h:ZJ w b ob S) (E H V St:Int) (hn0:S.nx=5) :
 Calls Tryz.prog 97 #[pP b 0,.agg #[iV E,.int .u64 H,iV V,iV St]] w fun e w'=>e=.returned (.tuple #[])/\ZJ w' b ob (S.go E H V St)/\Only (B1 b) w w':=by
 obtain⟨kd,ky,hd,nx,an,al,ax,hn,hl,hx,md,cE,cH,cV,cS⟩:=S
 replace hn0:nx=5:=hn0
 subst hn0
 have q:=ND (h.grown (ZZ w (.cells #[iV E,.int .u64 H,iV V,iV St] 53))) E H V St
 obtain⟨c,h⟩:=h
 have k3:=(h.grown (ZZ w (.cells #[iV E,.int .u64 H,iV V,iV St] 53))).at0 3 rfl
 go_enter Tryz.func97,Tryz.ntmps97
 go_wp2_with (go_at_call 104;refine q.mono ?_;rintro e w1 ⟨rfl,q1,o1⟩)
 first | refine bodyPost_end (results_none rfl _ _ _) rfl ?_ | refine bodyPost_ret (results_none rfl _ _ _) rfl ?_
 exact⟨rfl,q1,(Only.Z5 (ZZ _ _)).trans o1⟩
theorem H9 {w:World} {b:Nat} {ob:Value} {S:Lr} (h:ZJ w b ob S) (E H V St:Int) (hn0:S.nx=6) :
 Calls Tryz.prog 97 #[pP b 0,.agg #[iV E,.int .u64 H,iV V,iV St]] w fun e w'=>e=.returned (.tuple #[])/\ZJ w' b ob (S.go E H V St)/\Only (B1 b) w w':=by
 obtain⟨kd,ky,hd,nx,an,al,ax,hn,hl,hx,md,cE,cH,cV,cS⟩:=S
 replace hn0:nx=6:=hn0
 subst hn0
 have q:=Qn (h.grown (ZZ w (.cells #[iV E,.int .u64 H,iV V,iV St] 53))) E H V St 7
 obtain⟨c,h⟩:=h
 have k3:=(h.grown (ZZ w (.cells #[iV E,.int .u64 H,iV V,iV St] 53))).at0 3 rfl
 go_enter Tryz.func97,Tryz.ntmps97
 go_wp2_with (go_at_call 105;refine q.mono ?_;rintro e w1 ⟨rfl,q1,o1⟩)
 first | refine bodyPost_end (results_none rfl _ _ _) rfl ?_ | refine bodyPost_ret (results_none rfl _ _ _) rfl ?_
 exact⟨rfl,q1,(Only.Z5 (ZZ _ _)).trans o1⟩
theorem H8 {w:World} {b:Nat} {ob:Value} {S:Lr} (h:ZJ w b ob S) (E H V St:Int) (hn0:S.nx=7) :
 Calls Tryz.prog 97 #[pP b 0,.agg #[iV E,.int .u64 H,iV V,iV St]] w fun e w'=>e=.returned (.tuple #[])/\ZJ w' b ob (S.go E H V St)/\Only (B1 b) w w':=by
 obtain⟨kd,ky,hd,nx,an,al,ax,hn,hl,hx,md,cE,cH,cV,cS⟩:=S
 replace hn0:nx=7:=hn0
 subst hn0
 have q:=Qn (h.grown (ZZ w (.cells #[iV E,.int .u64 H,iV V,iV St] 53))) E H V St 8
 obtain⟨c,h⟩:=h
 have k3:=(h.grown (ZZ w (.cells #[iV E,.int .u64 H,iV V,iV St] 53))).at0 3 rfl
 go_enter Tryz.func97,Tryz.ntmps97
 go_wp2_with (go_at_call 105;refine q.mono ?_;rintro e w1 ⟨rfl,q1,o1⟩)
 first | refine bodyPost_end (results_none rfl _ _ _) rfl ?_ | refine bodyPost_ret (results_none rfl _ _ _) rfl ?_
 exact⟨rfl,q1,(Only.Z5 (ZZ _ _)).trans o1⟩
theorem H7 {w:World} {b:Nat} {ob:Value} {S:Lr} (h:ZJ w b ob S) (E H V St:Int) (hn0:S.nx=8) :
 Calls Tryz.prog 97 #[pP b 0,.agg #[iV E,.int .u64 H,iV V,iV St]] w fun e w'=>e=.returned (.tuple #[])/\ZJ w' b ob (S.go E H V St)/\Only (B1 b) w w':=by
 obtain⟨kd,ky,hd,nx,an,al,ax,hn,hl,hx,md,cE,cH,cV,cS⟩:=S
 replace hn0:nx=8:=hn0
 subst hn0
 have q:=KW (h.grown (ZZ w (.cells #[iV E,.int .u64 H,iV V,iV St] 53))) E H V St
 obtain⟨c,h⟩:=h
 have k3:=(h.grown (ZZ w (.cells #[iV E,.int .u64 H,iV V,iV St] 53))).at0 3 rfl
 go_enter Tryz.func97,Tryz.ntmps97
 go_wp2_with (go_at_call 106;refine q.mono ?_;rintro e w1 ⟨rfl,q1,o1⟩)
 first | refine bodyPost_end (results_none rfl _ _ _) rfl ?_ | refine bodyPost_ret (results_none rfl _ _ _) rfl ?_
 exact⟨rfl,q1,(Only.Z5 (ZZ _ _)).trans o1⟩
theorem H6 {w:World} {b:Nat} {ob:Value} {S:Lr} (h:ZJ w b ob S) (E H V St:Int) (hn0:S.nx=9) :
 Calls Tryz.prog 97 #[pP b 0,.agg #[iV E,.int .u64 H,iV V,iV St]] w fun e w'=>e=.returned (.tuple #[])/\ZJ w' b ob (S.go E H V St)/\Only (B1 b) w w':=by
 obtain⟨kd,ky,hd,nx,an,al,ax,hn,hl,hx,md,cE,cH,cV,cS⟩:=S
 replace hn0:nx=9:=hn0
 subst hn0
 obtain⟨c,h⟩:=h
 replace h:At w b 0 145 c [iV kd,iV ky,.int .u64 hd,iV 9,ob,.int .u64 an,iV al,iV ax,.int .u64 hn,iV hl,iV hx,.int .u64 md,iV cE,.int .u64 cH,iV cV,iV cS]:=h
 have h1:=h.grown (ZZ w (.cells #[iV E,.int .u64 H,iV V,iV St] 53))
 have k3:=h1.at0 3 rfl
 have kf:=h1.fz
 go_enter Tryz.func97,Tryz.ntmps97
 go_wp2
 first | refine bodyPost_end (results_none rfl _ _ _) rfl ?_ | refine bodyPost_ret (results_none rfl _ _ _) rfl ?_
 exact⟨rfl,⟨_,h1.ZQ 3 _⟩,Zy (Only.Z5 (ZZ _ _)) _ _⟩
theorem KU {w:World} {b:Nat} {ob:Value} {S:Lr} (h:ZJ w b ob S) (E H V St:Int) (hn0:S.nx=10) :
 Calls Tryz.prog 97 #[pP b 0,.agg #[iV E,.int .u64 H,iV V,iV St]] w fun e w'=>e=.returned (.tuple #[])/\ZJ w' b ob (S.go E H V St)/\Only (B1 b) w w':=by
 obtain⟨kd,ky,hd,nx,an,al,ax,hn,hl,hx,md,cE,cH,cV,cS⟩:=S
 replace hn0:nx=10:=hn0
 subst hn0
 have q:=KT (h.grown (ZZ w (.cells #[iV E,.int .u64 H,iV V,iV St] 53))) E H V St
 obtain⟨c,h⟩:=h
 have k3:=(h.grown (ZZ w (.cells #[iV E,.int .u64 H,iV V,iV St] 53))).at0 3 rfl
 go_enter Tryz.func97,Tryz.ntmps97
 go_wp2_with (go_at_call 107;refine q.mono ?_;rintro e w1 ⟨rfl,q1,o1⟩)
 first | refine bodyPost_end (results_none rfl _ _ _) rfl ?_ | refine bodyPost_ret (results_none rfl _ _ _) rfl ?_
 exact⟨rfl,q1,(Only.Z5 (ZZ _ _)).trans o1⟩
theorem KR {w:World} {b:Nat} {ob:Value} {S:Lr} (h:ZJ w b ob S) (E H V St:Int) (hn0:S.nx=11) :
 Calls Tryz.prog 97 #[pP b 0,.agg #[iV E,.int .u64 H,iV V,iV St]] w fun e w'=>e=.returned (.tuple #[])/\ZJ w' b ob (S.go E H V St)/\Only (B1 b) w w':=by
 obtain⟨kd,ky,hd,nx,an,al,ax,hn,hl,hx,md,cE,cH,cV,cS⟩:=S
 replace hn0:nx=11:=hn0
 subst hn0
 have q:=Ph (h.grown (ZZ w (.cells #[iV E,.int .u64 H,iV V,iV St] 53))) E H V St
 obtain⟨c,h⟩:=h
 have k3:=(h.grown (ZZ w (.cells #[iV E,.int .u64 H,iV V,iV St] 53))).at0 3 rfl
 go_enter Tryz.func97,Tryz.ntmps97
 go_wp2_with (go_at_call 108;refine q.mono ?_;rintro e w1 ⟨rfl,q1,o1⟩)
 first | refine bodyPost_end (results_none rfl _ _ _) rfl ?_ | refine bodyPost_ret (results_none rfl _ _ _) rfl ?_
 exact⟨rfl,q1,(Only.Z5 (ZZ _ _)).trans o1⟩
theorem KQ {w:World} {b:Nat} {ob:Value} {S:Lr} (h:ZJ w b ob S) (E H V St:Int) (hn0:S.nx=12) :
 Calls Tryz.prog 97 #[pP b 0,.agg #[iV E,.int .u64 H,iV V,iV St]] w fun e w'=>e=.returned (.tuple #[])/\ZJ w' b ob (S.go E H V St)/\Only (B1 b) w w':=by
 obtain⟨kd,ky,hd,nx,an,al,ax,hn,hl,hx,md,cE,cH,cV,cS⟩:=S
 replace hn0:nx=12:=hn0
 subst hn0
 obtain⟨c,h⟩:=h
 replace h:At w b 0 145 c [iV kd,iV ky,.int .u64 hd,iV 12,ob,.int .u64 an,iV al,iV ax,.int .u64 hn,iV hl,iV hx,.int .u64 md,iV cE,.int .u64 cH,iV cV,iV cS]:=h
 have h1:=h.grown (ZZ w (.cells #[iV E,.int .u64 H,iV V,iV St] 53))
 have k3:=h1.at0 3 rfl
 have kf:=h1.fz
 go_enter Tryz.func97,Tryz.ntmps97
 go_wp2
 first | refine bodyPost_end (results_none rfl _ _ _) rfl ?_ | refine bodyPost_ret (results_none rfl _ _ _) rfl ?_
 exact⟨rfl,⟨_,h1.ZQ 3 _⟩,Zy (Only.Z5 (ZZ _ _)) _ _⟩
theorem NP {w:World} {b:Nat} {ob:Value} {S:Lr} (h:ZJ w b ob S) (E H V St:Int) (o:S.ok) (hn:S.nx≠13) (v0:S.nx=0\/S.nx=1->E=0->0<=V/\V<8589934592) :
 Calls Tryz.prog 97 #[pP b 0,.agg #[iV E,.int .u64 H,iV V,iV St]] w fun e w'=>e=.returned (.tuple #[])/\ZJ w' b ob (S.go E H V St)/\Only (B1 b) w w':=by
 have n0:=o.n0
 have n1:=o.n1
 have hc:S.nx=0\/S.nx=1\/S.nx=2\/S.nx=3\/S.nx=4\/S.nx=5\/S.nx=6\/S.nx=7\/S.nx=8\/S.nx=9\/S.nx=10\/S.nx=11\/S.nx=12:=by omega
 rcases hc with e | e | e | e | e | e | e | e | e | e | e | e | e
 . exact Ih h E H V St e (v0 (Or.inl e))
 . exact Ig h E H V St e (v0 (Or.inr e))
 . exact Ie h E H V St e o.a0 o.a1 o.l0 o.l1
 . exact Ic h E H V St e o.a0 o.a1
 . exact Ib h E H V St e o.l0 o.l1
 . exact Ia h E H V St e
 . exact H9 h E H V St e
 . exact H8 h E H V St e
 . exact H7 h E H V St e
 . exact H6 h E H V St e
 . exact KU h E H V St e
 . exact KR h E H V St e
 . exact KQ h E H V St e
end
end Go.Proofs.YtgehjolndmgffaaGreat
