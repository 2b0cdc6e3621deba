import Derived.Test.YtibmjlefcaonnaaGreatAbb
import Derived.Test.YtibmjlefcaonnaaGreatOnly
import Derived.Test.YtibmjlefcaonnaaGreatShfBool
import Derived.Test.YtibmjlefcaonnaaGreatShfAwake
import Derived.Test.YtibmjlefcaonnaaGreatPlaceSee
namespace Go.Proofs.YtibmjlefcaonnaaGreat
open Go.RowKit
section
structure W3 where
 who:Nat->Int
 kd:Nat->Int
 ky:Nat->Int
def Qu (W:World) (ao:Option Addr) (n:Nat) (A:W3):Prop:=∀ i,i<n->∃ b o,ao=some ⟨b,o,none⟩/\W.cell? ⟨b,o+i * 3,none⟩=some (iV (A.who i))/\W.cell? ⟨b,o+i * 3+1,none⟩=some (iV (A.kd i))/\W.cell? ⟨b,o+i * 3+2,none⟩=some (iV (A.ky i))
def Ll (n:Nat) (A:W3):Prop:=∀ i,i<n->Fit (A.who i)/\Fit (A.kd i)/\Fit (A.ky i)
end
section
set_option maxRecDepth 20000
theorem wX (z:Int):∃ K:Nat,(z.tmod 3+3).tmod 3=(K:Int)/\K<3/\-3<z.tmod 3/\z.tmod 3<3:=by
 have h1:-3<z.tmod 3:=Int.lt_tmod_of_pos z (by omega)
 have h3:z.tmod 3<3:=Int.tmod_lt_of_pos z (by omega)
 have h4:=Int.emod_nonneg (z.tmod 3+3) (b:=3) (by omega)
 have h5:=Int.emod_lt_of_pos (z.tmod 3+3) (b:=3) (by omega)
 exact⟨((z.tmod 3+3) % 3).toNat,by rw[Int.tmod_eq_emod_of_nonneg (by omega)];omega,by omega,h1,h3⟩
set_option maxRecDepth 100000 in
set_option maxHeartbeats 4000000 in
theorem TD (z0:Int) (ao:Option Addr) (n cap:Nat) (Q:W3) (w:World) (hA:Qu w ao n Q):Calls Tryz.prog 5 #[.int .i64 z0,.slice ao n cap] w fun e w'=>e=.returned (.bool true)/\Below w.heap.size w w':=by
 obtain⟨N0,oN,hN⟩:=xZ z0 7 3 (by decide) (by decide)
 obtain⟨N,oM⟩:∃ N,N0+1=N:=⟨_,rfl⟩
 have hNs:(1:Int)+(N0:Int)=(N:Int):=by omega
 have hNb:(1:Int)<=(N:Int)/\(N:Int)<=8:=by omega
 have HN:Hid (1<=N/\N<=8):=by show 1<=N/\N<=8;omega
 have HG:Hid (Good 1 60 16 40 100 600 3):=wW (by decide) (by decide) (by decide) (by decide)
 have ar:=fun w=>NG HG.out (by decide) w
 obtain⟨i0,hi,hz0,hz1,hz2⟩:=wV
 clear oM
 go_enter Tryz.func5,Tryz.ntmps5
 go_wp2_with (first
  | (go_at_call 11;refine(ar _).mono ?_;rintro e w1 ⟨L,s,rfl,m1,v1,b1,l1⟩;have vN:=(ZP.new (w:=w1) (P:=L.p) (c0:=1) (c1:=60) (c2:=16) (c3:=40) (c4:=100) (c5:=600) (c6:=3) (who:=0) (T:=29)))
  | (go_at_call 9;refine(NF _).mono ?_;rintro e w2 ⟨rfl,g2⟩;have v2:=vN.grown g2;obtain⟨y0,y1,y2,y3,y4,y5,y6,y7,y8⟩:=id v2)
  | (go_at_call 12;refine(Ql (hds0 (t:=1) (n:=60) (k:=16) (m:=40)) ((m1.alloc _).below g2) v1 HG.out (by decide) (by have:=HN.out;omega) (by have:=HN.out;omega) (by decide) 0 (by decide) (by have:=HN.out;omega)).mono ?_;rintro e w3 ⟨s3,σ3,q3,bs,rfl,m3,rW,hs3,o3,S3,A3⟩)
  | (at_make;go_must (refine wpList_make_full _ rfl (.const (.int .i64 32)) (.const (.int .i64 32)) 41 rfl w3.heap.size 4 i0 (.bool false) 1 (by kernel_rfl) hi hz0 hz1 .i64 .i64 32 32 32 rfl rfl rfl rfl (by rw[hz2];decide) (by decide) (Nat.le_refl _) ?_;intro w4 tX tV)))
 obtain⟨E,hE⟩:∃ E,w1.heap.size=E:=⟨_,rfl⟩
 obtain⟨B,hB⟩:∃ B,w3.heap.size=B:=⟨_,rfl⟩
 have HL:Hid (¬ L.has E/\E<B/\¬ L.has B):=⟨fun hh=>by have:=m1.lt _ hh;omega,by have h1:=(m1.alloc (.cells #[] 29)).lt;have h2:=g2.size;have h3:=o3.size;rw[Go.Deep.nblk_alloc] at h2;omega,fun hh=>by have:=m3.lt _ hh;omega⟩
 have tN:Hid (∀ x,L.has x->w.heap.size<=x):=l1
 have v3:=v2.only o3 (fun hh=>by have:=m1.lt _ hh;omega)
 have b3:Below w.heap.size w w3:=RF (grow (Z5 b1 _) g2) o3 l1
 have rU:Bz w4 B 32 (fun _=>false):=by
  rw[hB] at tX
  exact Bz.made tX (by decide)
 have A4:Qk 60 16 N 97 N L w4 1100 (fun _ _=>False):=(Qk.first A3 (by decide) (by have:=HN.out;omega) (by have:=HN.out;omega) m3 rW (by decide) (by omega)).grown (ND tV)
 have o4:Only L.has w3 w4:=Only.ZZ (ND tV)
 obtain⟨B0,HS⟩:∃ B0,Hid (Sh w3 L B0 bs N):=⟨_,S3⟩
 have HB:Hid (w3.heap.size=B):=hB
 have S0:Hid (Qk 60 16 N 97 N L w4 1100 (fun _ _=>False)/\Bz w4 B 32 (fun _=>false)/\Only L.has w3 w4):=⟨A4,rU,o4⟩
 rw[hE] at v3
 simp only[hE,hB]
 clear A4 rU o4 tX tV A3 rW m3 o3 g2 vN m1 v1 b1 l1 y0 y1 y2 y3 y4 y5 y6 y7 y8 v2 ar S3 hE hB hi hz0 hz1 hz2
 go_wp2
 go_loopw [11] (fun iv wr=>∃ (i J:Nat) (S:Nat->Int->Prop) (z:Nat->Bool),iv=.int .i64 i/\i<=50/\J<=N+i/\Qk 60 16 N 97 J L wr (1100+i * 3758) S/\Kz S N z/\Bz wr B 32 z/\Only L.has w3 wr) (fun iv _=>50 - (intOf iv).toNat)
 case atStart=>exact⟨0,N,fun _ _=>False,fun _=>false,rfl,by decide,Nat.le_refl _,S0.out.1,Kz.none N,S0.out.2.1,S0.out.2.2⟩
 case round =>
  clear S0
  obtain⟨i,J,S,z,rfl,hi,hJ,A,tK,bz,on⟩:=hrel
  by_cases hin:i<n/\i<50
  . obtain⟨hin1,hin2⟩:=hin
    have hi1:(i:Int)<(n:Int):=by omega
    have hi2:(i:Int)<50:=by omega
    have hib:(0:Int)<=(i:Int)/\(i:Int)<(n:Int):=by omega
    obtain⟨ab,ao',rfl,hw0,hw1,hw2⟩:=hA i hin1
    have bR:=RF b3 on tN.out
    have c1:=keep' bR hw1
    have c2:=keep' bR hw2
    clear hw0 hw1 hw2 bR
    obtain⟨K3,hK3,oL,hk3,hk4⟩:=wX (Q.kd i)
    obtain⟨k,hk,hk31⟩:=xZ (Q.ky i) 31 5 (by decide) (by decide)
    generalize Q.kd i=qa at c1 hK3 hk3 hk4
    generalize Q.ky i=qb at c2 hk
    obtain⟨κ,hκ⟩:∃ κ:Int,(qa.tmod 3+3).tmod 3=κ:=⟨_,rfl⟩
    obtain⟨kd,hkd⟩:∃ kd:Int,1+κ=kd:=⟨_,rfl⟩
    have tJ:0<=κ/\κ<3:=by omega
    have vZ:Hid (kd=1\/kd=2\/kd=3):=by show kd=1\/kd=2\/kd=3;omega
    have wU:Hid (UW kd k=true):=Dq vZ.out (by omega) (by omega)
    have HKB:Hid (k<32):=by show k<32;omega
    have hkb:(0:Int)<=(k:Int)/\(k:Int)<=31:=by omega
    obtain⟨p,hp,vY⟩:=CE k HN.out.1
    have hpb:(0:Int)<=(p:Int)/\(p:Int)<(N:Int):=by omega
    have o2:=fun w=>EW k N (by omega) (by omega) w
    rw[hp] at o2
    have HP:Hid (p<N/\Pg k N=p):=⟨vY,hp⟩
    have HI:Hid (i<50/\J<=N+i):=⟨hin2,hJ⟩
    have HA:Hid (Qk 60 16 N 97 J L wr (1100+i * 3758) S/\Kz S N z/\Bz wr B 32 z/\Only L.has w3 wr):=⟨A,tK,bz,on⟩
    clear A tK bz on hK3 hp vY hin1 hin2 hJ hi
    go_wp2
    refine Zq Grown [.val (.slice (some ⟨ab,ao',none⟩) n cap),.val (.int .i64 i),.val (.pointer (some ⟨ab,ao'+i * 3,none⟩)),.val (.pointer (some ⟨ab,ao'+i * 3+1,none⟩)),.val (.int .i64 qa),.val (.int .i64 (qa.tmod 3)),.val (.int .i64 (qa.tmod 3+3)),.val (.int .i64 κ),.val (.int .i64 kd),.val (.slice (some ⟨ab,ao',none⟩) n cap),.val (.int .i64 i),.val (.pointer (some ⟨ab,ao'+i * 3,none⟩)),.val (.pointer (some ⟨ab,ao'+i * 3+2,none⟩)),.val (.int .i64 qb),.val (.int .i64 k),.val (.int .i64 kd),.val (.int .i64 k)] (by kernel_rfl) Grown.refl Grown.trans (by kernel_rfl) (by kernel_rfl) (by kernel_rfl) ?_
    simp only[ZA,Act.put,List.setIfInBounds_toArray,List.set_cons_zero,List.set_cons_succ]
    refine⟨?_,?_,?_,?_,?_,?_,?_,?_,?_,?_,?_,?_,?_,?_,?_,?_,?_,?_⟩
    . intros;apply ol;go_simp;exact gl
    . intros;apply ol;go_simp;exact gl
    . intros;apply ol;go_simp;exact gl
    . intros;apply ol;go_simp;exact gl
    . intro w' hg _
      apply ol
      have oK:=keep' hg (keep' ((Below.refl _ _).drew) c1)
      go_simp
      exact gl
    . intros;apply ol;go_simp;exact gl
    . intro w' hg _
      apply ol
      go_simp
      exact⟨Grown.refl _,congrArg (Value.int .i64) (by rw[IntKind.wrap_i64];omega)⟩
    . intros;apply ol;go_simp;exact gl
    . intro w' hg _
      apply ol
      go_simp
      exact⟨Grown.refl _,congrArg (Value.int .i64) (by rw[IntKind.wrap_i64];omega)⟩
    . intros;apply ol;go_simp;exact gl
    . intros;apply ol;go_simp;exact gl
    . intros;apply ol;go_simp;exact gl
    . intros;apply ol;go_simp;exact gl
    . intro w' hg _
      apply ol
      have oK:=keep' hg (keep' ((Below.refl _ _).drew) c2)
      go_simp
      exact gl
    . intros;apply ol;go_simp;exact gl
    . intros;apply ol;go_simp;exact gl
    . intros;apply ol;go_simp;exact gl
    intro w7 hg _
    have gW:Below wr.heap.size wr w7:=grow ((Below.refl _ _).drew) hg
    have A7:=HA.out.1.grown gW
    have o7:=HA.out.2.2.2.trans (Only.ZZ gW)
    have tH:=HS.out.only o7
    have HR:Hid (Qk 60 16 N 97 J L w7 (1100+i * 3758) S/\Kz S N z/\Bz w7 B 32 z/\Only L.has w3 w7):=⟨A7,HA.out.2.1,HA.out.2.2.1.grown gW,o7⟩
    clear HA A7 o7 gW hg c1 c2 hκ hkd tJ hk hk31 hk3 hk4
    go_wp2_with (first
     | (go_at_call 15;refine(EU tH.sh (by have:=HN.out;omega) wU.out).mono ?_;rintro e w8 ⟨bx,rfl,tC,g8,hb8⟩;rw[HP.out.2] at tC;have tu:=tH.grown g8)
     | (go_at_call 16;refine(TC tu.sh (by have:=HN.out;omega) k).mono ?_;rintro e w9 ⟨rfl,g9⟩;have rQ:=tu.grown g9;rw[HP.out.2])
     | (go_at_call 13;refine(ET rQ.sh).mono ?_;rintro e w10 ⟨a10,rP,rfl,hs10,g10⟩;obtain⟨B2,rfl,-,hr2⟩:=hs10 p HP.out.1;have cB:=hr2.cell HP.out.1)
     | (go_at_call 10;refine(o2 _).mono ?_;rintro e rO ⟨rfl,rfl⟩))
    have I0:CB 60 16 N 97 J L w7 (1100+i * 3758) S p kd k bx 3758 0 rO :=
     HR.out.1.begin HP.out.1 HG.out (by decide) (by decide) (by have:=HI.out;have:=HN.out;omega) (by decide) vZ.out (by omega) (by omega) (grow (grow g8 g9) g10) hb8 ((tC.grown g9).grown g10)
    have S1:Hid (CB 60 16 N 97 J L w7 (1100+i * 3758) S p kd k bx 3758 0 rO):=I0
    have rM:Hid (w7.heap.size<=bx):=hb8
    clear I0 tC g8 g9 g10 hb8 tH tu rQ hs10 hr2 cB o2
    go_wp2
    go_loopw [18] (fun jv wx=>∃ (j:Nat),jv=.int .i64 j/\j<3758/\CB 60 16 N 97 J L w7 (1100+i * 3758) S p kd k bx 3758 j wx) (fun jv _=>20000 - (intOf jv).toNat)
    case atStart=>exact⟨0,rfl,by decide,S1.out⟩
    case round =>
     clear S1
     obtain⟨j,rfl,hj,I⟩:=hrel
     have hj3:(j:Int)<20000:=by omega
     have HJ:Hid (j<3758):=hj
     clear hj
     have v:=v3.only (HR.out.2.2.2.trans I.only) HL.out.1
     obtain⟨y0,y1,y2,y3,y4,y5,y6,y7,y8⟩:=id v
     have hst:=I.step HP.out.1 HG.out (by decide) (by have:=HI.out;have:=HN.out;omega) (by decide) (by decide) (by have:=HI.out.1;omega) rM.out
     clear I
     go_wp2_with (go_at_call 17;refine hst.mono ?_;rintro e w5 (⟨rfl,hj1,I5⟩ | ⟨rfl,o5,vv,lx,F5⟩);rotate_left;(obtain⟨hv,S',A5,K5⟩:=F5.kz HR.out.2.1 HKB.out HP.out.2;obtain⟨S2,rJ,x1,x2,x3,x4,x5⟩:=lx;have hdn:=IQ rJ x1 x2;rw[x3,x4,x5] at hdn;have tq:=HR.out.2.2.1.only o5 HL.out.2.2;have cz:=tq.cell HKB.out;generalize S2.cS=st at hdn;have H5:Hid (Qk 60 16 N 97 (J+(if kd=2 then 1 else 0)) L w5 (1100+i * 3758+3758) S'/\Kz S' N (upd z k (if kd=1 then z k else decide (kd=2)))/\Bz w5 B 32 z/\Only L.has w3 w5):=⟨A5,K5,tq,HR.out.2.2.2.trans o5⟩;clear A5 K5 tq o5 F5 hst v y0 y1 y2 y3 y4 y5 y6 y7 y8 rJ x1 x2 x3 x4 x5 HR rM wU;obtain⟨zk,xP⟩:∃ zk,z k=zk:=⟨_,rfl⟩;rw[xP] at hv cz;clear xP;rcases vZ.out with rfl | rfl | rfl <;> cases zk <;> simp at hv <;> clear vZ);rotate_right)
     . go_roundw
       case rel=>exact⟨j+1,by go_num,hj1,I5⟩
       case measure=>simp[intOf];omega
     all_goals
      have e9:1100+(i+1) * 3758=1100+i * 3758+3758:=by omega
      go_wp2_with (go_at_call 18;refine hdn.mono ?_;rintro e w6 ⟨rfl,g6⟩;first | (obtain rfl:vv=1:=hv;have D:=At.new w6 51 [.int .i64 0,.int .u64 0,.int .i64 1,.int .i64 st];have d0:=D.at0 0 rfl;have d2:=D.at0 2 rfl;have gg:=grow g6 (ZY w6 (.cells #[.int .i64 0,.int .u64 0,.int .i64 1,.int .i64 st] 51));have oJ:=keep' gg cz;have bf:=(H5.out.2.2.1.grown gg).fz k) | (obtain rfl:vv=0:=hv;have D:=At.new w6 51 [.int .i64 0,.int .u64 0,.int .i64 0,.int .i64 st];have d0:=D.at0 0 rfl;have d2:=D.at0 2 rfl;have gg:=grow g6 (ZY w6 (.cells #[.int .i64 0,.int .u64 0,.int .i64 0,.int .i64 st] 51));have oJ:=keep' gg cz;have bf:=(H5.out.2.2.1.grown gg).fz k))
      go_roundw
      case rel =>
       have hI:=HI.out
       have hJ2:∀ a:Nat,a<=1->J+a<=N+(i+1):=fun a ha=>by omega
       obtain⟨J',hJ',A5⟩:∃ J',J'<=N+(i+1)/\Qk 60 16 N 97 J' L w5 (1100+i * 3758+3758) S':=⟨_,hJ2 _ (by split <;> decide),H5.out.1⟩
       refine⟨i+1,J',S',_,by go_num,hI.1,hJ',?_,H5.out.2.1,?_,?_⟩
       . rw[e9]
         first | exact(A5.grown gg).ZX HL.out.2.2 _ _ | exact A5.grown gg
       . first | exact(H5.out.2.2.1.grown gg).set HKB.out true | exact(H5.out.2.2.1.grown gg).set HKB.out false | (simp only[if_true,YD];exact H5.out.2.2.1.grown gg)
       . first | exact((H5.out.2.2.2.trans (Only.ZZ gg)).setCell (fun hlt=>by have:=HB.out;simp only at hlt;omega) _) | exact H5.out.2.2.2.trans (Only.ZZ gg)
      case measure=>simp[intOf];omega
  . have hno:¬ ((i:Int)<(n:Int)/\(i:Int)<50):=by omega
    have bR:=RF b3 on tN.out
    clear A tK bz on HG HN HL tN v3 b3 hNs oN
    by_cases h1:(i:Int)<(n:Int)
    . have h2:¬ (i:Int)<50:=fun h=>hno ⟨h1,h⟩
      go_wp2
      go_ret
      exact⟨rfl,bR⟩
    . go_wp2
      go_ret
      exact⟨rfl,bR⟩
end
end Go.Proofs.YtibmjlefcaonnaaGreat
