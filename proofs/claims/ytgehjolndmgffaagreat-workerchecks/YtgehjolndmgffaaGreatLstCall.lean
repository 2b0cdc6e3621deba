import Derived.Test.YtgehjolndmgffaaGreatLstOn
import Derived.Test.YtgehjolndmgffaaGreatLstWant
namespace Go.Proofs.YtgehjolndmgffaaGreat
open Go.RowKit
theorem Ik {w:World} {b:Nat} {ob:Value} {S:Lr} (h:ZJ w b ob S) (o:S.ok) (hn:S.nx≠13) (m0:S.nx=7->0<=S.hn/\S.hn<4294967296) (m1:S.nx=8->0<=S.md/\S.md<4294967296) :
 Calls Tryz.prog 98 #[pP b 0] w fun e w'=>e=.returned (Xa.v (S.want false))/\Below w.heap.size w w':=by
 have n0:=o.n0
 have n1:=o.n1
 have hc:S.nx=0\/S.nx=1\/S.nx=2\/S.nx=3\/S.nx=4\/S.nx=5\/S.nx=6\/S.nx=7\/S.nx=8\/S.nx=9\/S.nx=10\/S.nx=11\/S.nx=12:=by omega
 rcases hc with e | e | e | e | e | e | e | e | e | e | e | e | e
 . exact Ls h e
 . exact Lm h e
 . exact Rn h (Or.inl e) o.a0 o.a1 o.l0 o.l1
 . exact Ll h e
 . exact Lj h e
 . exact Lh h e
 . exact Le h e
 . exact Ld h e (m0 e).1 (m0 e).2
 . exact Lc h e o.a0 o.a1 (m1 e).1 (m1 e).2
 . exact La h e
 . exact NI h e o.l0 o.l1
 . exact Rn h (Or.inr e) o.a0 o.a1 o.l0 o.l1
 . exact NH h e
theorem EW (S:Lr):∃ a1 a2 a3 a4 a5 a6,S.want false=⟨a1,a2,a3,a4,a5,a6,false⟩/\S.want true=⟨a1,a2,a3,a4,a5,a6,true⟩:=by
 unfold Lr.want
 by_cases e0:S.nx=0
 . rw[if_pos e0,if_pos e0];exact⟨_,_,_,_,_,_,rfl,rfl⟩
 rw[if_neg e0,if_neg e0]
 by_cases e1:S.nx=1
 . rw[if_pos e1,if_pos e1];exact⟨_,_,_,_,_,_,rfl,rfl⟩
 rw[if_neg e1,if_neg e1]
 by_cases e2:S.nx=4
 . rw[if_pos e2,if_pos e2];exact⟨_,_,_,_,_,_,rfl,rfl⟩
 rw[if_neg e2,if_neg e2]
 by_cases e3:S.nx=2\/S.nx=11
 . rw[if_pos e3,if_pos e3];exact⟨_,_,_,_,_,_,rfl,rfl⟩
 rw[if_neg e3,if_neg e3]
 by_cases e4:S.nx=3\/S.nx=12
 . rw[if_pos e4,if_pos e4];exact⟨_,_,_,_,_,_,rfl,rfl⟩
 rw[if_neg e4,if_neg e4]
 by_cases e5:S.nx=5
 . rw[if_pos e5,if_pos e5];exact⟨_,_,_,_,_,_,rfl,rfl⟩
 rw[if_neg e5,if_neg e5]
 by_cases e6:S.nx=6
 . rw[if_pos e6,if_pos e6];exact⟨_,_,_,_,_,_,rfl,rfl⟩
 rw[if_neg e6,if_neg e6]
 by_cases e7:S.nx=7
 . rw[if_pos e7,if_pos e7];exact⟨_,_,_,_,_,_,rfl,rfl⟩
 rw[if_neg e7,if_neg e7]
 by_cases e8:S.nx=8
 . rw[if_pos e8,if_pos e8];exact⟨_,_,_,_,_,_,rfl,rfl⟩
 rw[if_neg e8,if_neg e8]
 by_cases e9:S.nx=10
 . rw[if_pos e9,if_pos e9];exact⟨_,_,_,_,_,_,rfl,rfl⟩
 rw[if_neg e9,if_neg e9];exact⟨_,_,_,_,_,_,rfl,rfl⟩
theorem LJ {w:World} {b:Nat} {ob:Value} {S:Lr} (h:ZJ w b ob S) (o:S.ok) (hn:S.nx≠13) (m0:S.nx=7->0<=S.hn/\S.hn<4294967296) (m1:S.nx=8->0<=S.md/\S.md<4294967296) (Z:Nat->World->World->Prop)
 (hN:∀ w1,Below w.heap.size w w1->Calls Tryz.prog 54 #[Xa.v (S.want true)] w1 fun e w'=>∃ A,e=.returned (.tuple #[pP A 0,iV 0])/\Z A w1 w') :
 Calls Tryz.prog 96 #[pP b 0] w fun e w'=>∃ A w1,e=.returned (pP A 0)/\Below w.heap.size w w1/\Z A w1 w':=by
 have q:=Ik h o hn m0 m1
 obtain⟨a1,a2,a3,a4,a5,a6,e1,e2⟩:=EW S
 rw[e1] at q
 rw[e2] at hN
 clear e1 e2 h o hn m0 m1
 go_enter Tryz.func96,Tryz.ntmps96
 go_wp2_with (first
  | (go_at_call 98;refine q.mono ?_;rintro e w1 ⟨rfl,g1⟩)
  | (go_at_call 54;refine(hN _ (Z7 g1 _)).mono ?_;rintro e w2 ⟨A,rfl,z⟩))
 go_ret
 exact⟨A,_,rfl,Z7 g1 _,z⟩
theorem Rl {w:World} {b:Nat} {ob:Value} {S:Lr} (h:ZJ w b ob S) (hk:S.kd≠0):Calls Tryz.prog 95 #[pP b 0] w fun e w'=>e=.returned (.bool true)/\w'=w:=by
 obtain⟨kd,ky,hd,nx,an,al,ax,hn,hl,hx,md,cE,cH,cV,cS⟩:=S
 obtain⟨c,h⟩:=h
 replace hk:(kd != 0)=true:=by simpa using hk
 have k0:=h.at0 0 rfl
 go_enter Tryz.func95,Tryz.ntmps95
 go_wp2
 go_ret
 exact⟨rfl,rfl⟩
theorem Ij {w:World} {b:Nat} {ob:Value} {S:Lr} (h:ZJ w b ob S) (hk:S.kd≠0) (hn:S.nx=13):Calls Tryz.prog 92 #[pP b 0] w fun e w'=>e=.returned (.agg #[iV S.cE,.int .u64 S.cH,iV S.cV,iV S.cS])/\Below w.heap.size w w':=by
 have q:=Rl (h.grown (ZZ w (.cells #[iV 0,.int .u64 0,iV 0,iV 0] 53))) hk
 obtain⟨kd,ky,hd,nx,an,al,ax,hn,hl,hx,md,cE,cH,cV,cS⟩:=S
 replace hn:nx=13:=hn
 subst hn
 obtain⟨c,h⟩:=h
 have h1:=h.grown (ZZ w (.cells #[iV 0,.int .u64 0,iV 0,iV 0] 53))
 have k3:=h1.at0 3 rfl
 have k12:=h1.at0 12 rfl
 have k13:=h1.at0 13 rfl
 have k14:=h1.at0 14 rfl
 have k15:=h1.at0 15 rfl
 go_enter Tryz.func92,Tryz.ntmps92
 go_wp2_with (go_at_call 95;refine q.mono ?_;rintro e w1 ⟨rfl,rfl⟩)
 exact bodyPost_ret (v:=.agg #[iV cE,.int .u64 cH,iV cV,iV cS]) (by simp[results,Tryz.results92,go_sem]) rfl ⟨rfl,Z7 (Below.refl _ _) _⟩
def V4 (kd ky:Int):Bool:=decide (1<=kd) && decide (kd<=3) && decide (0<=ky) && decide (ky<1073741824)
theorem TE (kd ky:Int) (w:World):Calls Tryz.prog 31 #[iV kd,iV ky] w fun e w'=>e=.returned (.bool (V4 kd ky))/\w'=w:=by
 by_cases h1:(1:Int)<=kd
 . by_cases h2:kd<=3
   . by_cases h3:(0:Int)<=ky
     . by_cases h4:ky<1073741824
       . go_enter Tryz.func31,Tryz.ntmps31
         go_wp2
         go_ret
         exact⟨by simp[V4,h1,h2,h3,h4],rfl⟩
       . rw[show V4 kd ky=false from by rw[V4,decide_eq_false h4,Bool.and_false]]
         go_enter Tryz.func31,Tryz.ntmps31
         go_wp2
         go_ret
         exact⟨rfl,rfl⟩
     . rw[show V4 kd ky=false from by rw[V4,decide_eq_false h3,Bool.and_false,Bool.false_and]]
       go_enter Tryz.func31,Tryz.ntmps31
       go_wp2
       go_ret
       exact⟨rfl,rfl⟩
   . rw[show V4 kd ky=false from by rw[V4,decide_eq_false h2,Bool.and_false,Bool.false_and,Bool.false_and]]
     go_enter Tryz.func31,Tryz.ntmps31
     go_wp2
     go_ret
     exact⟨rfl,rfl⟩
 . rw[show V4 kd ky=false from by rw[V4,decide_eq_false h1,Bool.false_and,Bool.false_and,Bool.false_and]]
   go_enter Tryz.func31,Tryz.ntmps31
   go_wp2
   go_ret
   exact⟨rfl,rfl⟩
def Gx (kd ky hd:Int):Lr:=⟨kd,ky,hd,0,0,0,0,0,0,0,0,0,0,0,0⟩
theorem EU (kd ky hd:Int) (hm:V4 kd ky=true) (w:World):Calls Tryz.prog 67 #[iV kd,iV ky,.int .u64 hd] w fun e w'=>∃ b,e=.returned (.tuple #[pP b 0,iV 0])/\ZJ w' b (.pointer none) (Gx kd ky hd)/\Below w.heap.size w w'/\w.heap.size<=b:=by
 have q:=TE kd ky w
 rw[hm] at q
 clear hm
 go_enter Tryz.func67,Tryz.ntmps67
 go_wp2_with (go_at_call 31;refine q.mono ?_;rintro e w1 ⟨rfl,rfl⟩)
 go_ret2
 exact⟨w1.heap.size,rfl,⟨_,At.new w1 145 _⟩,Z7 (Below.refl _ _) _,Nat.le_refl _⟩
end Go.Proofs.YtgehjolndmgffaaGreat
