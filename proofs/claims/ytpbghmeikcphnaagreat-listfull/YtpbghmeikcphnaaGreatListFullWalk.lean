import Derived.Test.YtpbghmeikcphnaaGreatLstChain
import Derived.Test.YtpbghmeikcphnaaGreatLstFul
import Derived.Test.YtpbghmeikcphnaaGreatPlaceSee
namespace Go.Proofs.YtpbghmeikcphnaaGreat
open Go.RowKit
section
def EG (k:IntKind) (w:World) (ao:Option Addr) (n:Nat) (z:Nat->Int):Prop :=
 ∀ i,i<n->∃ b off,ao=some ⟨b,off,none⟩/\w.cell? ⟨b,off+i,none⟩=some (.int k (z i))
end
section
set_option maxRecDepth 20000
set_option maxRecDepth 20000 in
set_option maxHeartbeats 4000000 in
theorem OE (z0:Int) (ao:Option Addr) (n cap:Nat) (Q:Nat->Int) (w:World) (hA:EG .i64 w ao n Q):Calls Tryz.prog 5 #[.int .i64 z0,.slice ao n cap] w fun e w'=>e=.returned (.bool true)/\Below w.heap.size w w':=by
 obtain⟨N0,hN0,jD⟩:=uD z0 7 3 (by decide) (by decide)
 obtain⟨N,mf⟩:∃ N,N0+1=N:=⟨_,rfl⟩
 have l9:Hid (N<=8):=by show N<=8;omega
 have Qi:Hid (1<=N/\N<=40):=by show 1<=N/\N<=40;omega
 have hNs:(1:Int)+(N0:Int)=(N:Int):=by omega
 have hNb:(1:Int)<=(N:Int)/\(N:Int)<=8:=by omega
 clear mf
 have bg:=fun w=>PH (n:=N) Qi.out.1 Qi.out.2 w
 have ff:∀ (a1 a2 a3 a4:Value) (w:World),(Instr.field 37 (.agg #[a1,a2,a3,a4]) 2).run Tryz.prog w=.ok a3 w:=fun a1 a2 a3 a4 w=>by kernel_rfl
 obtain⟨i0,hi,hz0,hz1,hz2⟩:=uz
 go_enter Tryz.func5,Tryz.ntmps5
 go_wp2_with (first
  | (go_at_call 9;refine(bg _).mono ?_;rintro e w1 ⟨L,s,σ,F0,rfl,R0,b1,l1,hσ,-⟩;have HR:Hid (WH N L 1 w1 (fun _=>false) 600):=WH.first (R0 0 97 (by decide)) hσ;clear R0;have vN:=(ZU.new (w:=w1) (P:=L.p) (c0:=4) (c1:=N) (c2:=12) (c3:=40) (c4:=100) (c5:=600) (c6:=3) (who:=0) (T:=27)))
  | (go_at_call 10;refine(Nj _).mono ?_;rintro e w3 ⟨rfl,b3⟩;have v3:=vN.grown b3)
  | (at_make;go_must (refine wpList_make_full _ rfl (.const (.int .i64 16)) (.const (.int .i64 16)) 32 rfl w3.heap.size 4 i0 (.bool false) 1 (by kernel_rfl) hi hz0 hz1 .i64 .i64 16 16 16 rfl rfl rfl rfl (by rw[hz2];decide) (by decide) (Nat.le_refl _) ?_;intro w4 qE qC)))
 obtain⟨E,hE⟩:∃ E,w1.heap.size=E:=⟨_,rfl⟩
 obtain⟨B,hB⟩:∃ B,w3.heap.size=B:=⟨_,rfl⟩
 have nZ:Bz w4 B 16 (fun _=>false):=by
  rw[hB] at qE
  exact Bz.made qE (by decide)
 have g4:=grow (ZY w1 (.cells #[.int .i64 4,.int .i64 N,.int .i64 12,.int .i64 40,.int .i64 100,.int .i64 600,.int .i64 3,.pointer (some ⟨L.p,0,none⟩),.int .i64 0] 27)) b3
 have G4:=grow g4 (Nh qC)
 have A4:=HR.out.grown G4
 have v4:=v3.grown (Nh qC)
 have b4:=grow b1 G4
 rw[hE] at v4
 have zh:Hid (∀ x,L.has x->w.heap.size<=x):=l1
 have HL:Hid (¬ L.has E/\¬ L.has B):=⟨fun hh=>by have:=HR.out.lt hh;omega,fun hh=>by have:=HR.out.lt hh;have:=g4.size;omega⟩
 have HB:Hid (¬ L.has B/\w.heap.size<=B/\B≠E):=⟨HL.out.2,by have:=b1.size;have:=g4.size;omega,by have h9:=World.block_lt_of_cell? _ _ v3.c0;have h8:w1.heap.size<w3.heap.size:=h9;omega⟩
 have S0:Hid (WH N L 1 w4 (fun _=>false) 600/\ZU w4 E 4 N 12 40 100 600 3 L.p 0/\Bz w4 B 16 (fun _=>false)/\Below w.heap.size w w4):=⟨A4,v4,nZ,b4⟩
 simp only[hE,hB]
 clear A4 v4 nZ b4 G4 g4 HR vN v3 b3 b1 l1 qE qC hE hB bg hi hz0 hz1 hz2
 go_loopw [10,11] (fun mv iv wr=>∃ (i m:Nat) (z:Nat->Bool),mv=.int .i64 m/\iv=.int .i64 i/\i<=40/\m=XM z 16/\m+1<=N/\WH N L (1+2 * i) wr z (600+i * 10200)/\ZU wr E 4 N 12 40 100 600 3 L.p 0/\Bz wr B 16 z/\Below w.heap.size w wr) (fun _ iv _=>40 - (intOf iv).toNat)
 case atStart=>exact⟨0,0,fun _=>false,rfl,rfl,by decide,by decide,Qi.out.1,S0.out⟩
 case round =>
  clear S0
  obtain⟨i,m,z,rfl,rfl,hi,hm0,hmN,A,v',Am,b'⟩:=hrel
  have HM:Hid (m=XM z 16/\m+1<=N):=⟨hm0,hmN⟩
  have hmb:(m:Int)<=7:=by have:=Qi.out.2;have:=l9.out;omega
  clear hm0 hmN
  by_cases hin:i<n/\i<40
  . obtain⟨hin1,hin2⟩:=hin
    have hi1:(i:Int)<(n:Int):=by omega
    have hi2:(i:Int)<40:=by omega
    have hib:(0:Int)<=(i:Int)/\(i:Int)<(n:Int):=by omega
    obtain⟨ab,ao',rfl,hw0⟩:=hA i hin1
    have c1:=keep' b' hw0
    clear hw0
    obtain⟨k,hk,lZ⟩:=uD (Q i) 15 4 (by decide) (by decide)
    have V4:Hid (k<16):=by show k<16;omega
    have hkb:(0:Int)<=(k:Int)/\(k:Int)<16:=by omega
    have HA:Hid (WH N L (1+2 * i) wr z (600+i * 10200)):=A
    have qB:Hid (z k=true\/z k=false):=by cases z k;exact Or.inr rfl;exact Or.inl rfl
    clear A
    have y0:=v'.c0
    have y1:=v'.c1
    have y2:=v'.c2
    have y3:=v'.c3
    have y4:=v'.c4
    have y5:=v'.c5
    have y6:=v'.c6
    have y7:=v'.c7
    have y8:=v'.c8
    generalize Q i=qa at c1 hk
    rcases qB.out with Ew | Ew
    . have P7:Hid (z k=true):=Ew
      clear Ew qB
      have cz:wr.cell? ⟨B,k,none⟩=some (.bool true):=by rw[<- P7.out];exact Am.cell V4.out
      have hask:=HA.out.Gy (J':=1+2 * (i+1)) (M':=600+(i+1) * 10200) Qi.out.1 Qi.out.2 (by omega) (by omega) (Or.inr (Or.inl rfl)) V4.out P7.out (show (if true=decide ((2:Int)≠2) then (1:Int) else 0)=0 by decide) (fun _ e=>by cases e) (by rw[if_pos rfl];omega) (by omega) (xM.trans (xK P7.out))
      clear HA
      go_wp2_with (go_at_call 11;refine hask.mono ?_;rintro e w5 ⟨st,rfl,o5,a5⟩;clear hask;have xJ:Hid (WH N L (1+2 * (i+1)) w5 z (600+(i+1) * 10200)):=a5;clear a5;have v5:=v'.only o5 HL.out.1;have Eg:=Am.only o5 HL.out.2;have d5:=At.new w5 37 [.int .i64 0,.int .u64 0,.int .i64 0,.int .i64 st];have GB:=ZY w5 (.cells #[.int .i64 0,.int .u64 0,.int .i64 0,.int .i64 st] 37);have v6:=v5.grown GB;have Ff:=Eg.grown GB;have b6:=grow (V5 b' o5 zh.out) GB;have Ak:Hid (WH N L (1+2 * (i+1)) _ z (600+(i+1) * 10200)):=xJ.out.grown GB;have d0:=d5.at0 0 rfl;have d2:=d5.at0 2 rfl;have Ef:=(Eg.cell V4.out);rw[P7.out] at Ef;have qA:=keep' GB Ef;have qy:=Ff.fz k)
      go_roundw
      case rel=>exact⟨i+1,m,z,by first | rfl | go_num,by go_num,by omega,HM.out.1,HM.out.2,Ak.out,v6,Ff,b6⟩
      case measure=>simp[intOf];omega
    . have P7:Hid (z k=false):=Ew
      clear Ew qB
      by_cases hfl:N<=1+m
      . have vZ:Hid (N<=1+m):=hfl
        have hge:(N:Int) - 1<=(m:Int):=by omega
        clear hfl
        by_cases hm:(m:Int)>0
        . skip
          have hm0:(0:Int)<(m:Int):=by omega
          have HT:Hid (∃ l,l<16/\z l=true):=KD (by have:=HM.out.1;omega)
          have cz:wr.cell? ⟨B,k,none⟩=some (.bool false):=by rw[<- P7.out];exact Am.cell V4.out
          have hask:=HA.out.uy (J':=1+2 * i+1) (M':=600+i * 10200+2550) Qi.out.1 Qi.out.2 (by omega) (by omega) V4.out P7.out (by have:=HM.out.1;have:=vZ.out;omega) (by omega) (by omega)
          clear HA
          go_wp2_with (go_at_call 11;refine hask.mono ?_;rintro e w5 ⟨st,rfl,o5,a5⟩;clear hask;have xJ:Hid (WH N L (1+2 * i+1) w5 z (600+i * 10200+2550)):=a5;clear a5;have v5:=v'.only o5 HL.out.1;have Eg:=Am.only o5 HL.out.2;have d5:=At.new w5 37 [.int .i64 7,.int .u64 0,.int .i64 0,.int .i64 st];have GB:=ZY w5 (.cells #[.int .i64 7,.int .u64 0,.int .i64 0,.int .i64 st] 37);have v6:=v5.grown GB;have Ff:=Eg.grown GB;have b6:=grow (V5 b' o5 zh.out) GB;have Ak:Hid (WH N L (1+2 * i+1) _ z (600+i * 10200+2550)):=xJ.out.grown GB;have d0:=d5.at0 0 rfl;have d2:=d5.at0 2 rfl;have Ef:=(Eg.cell V4.out);rw[P7.out] at Ef;have qA:=keep' GB Ef;have qy:=Ff.fz k;obtain⟨z0,z1,z2,z3,z4,z5,z6,z7,z8⟩:=id v6)
          have Nc:=Ak.out.Gy (J':=1+2 * i+1) (M':=600+i * 10200+5100) Qi.out.1 Qi.out.2 (by omega) (by omega) (Or.inl rfl) V4.out P7.out (show (if false=decide ((1:Int)≠2) then (1:Int) else 0)=0 by decide) (fun e=>by cases e) (by rw[if_neg (by decide)];omega) (by omega) uw
          clear Ak
          go_wp2_with (go_at_call 11;refine Nc.mono ?_;rintro e w7 ⟨st2,rfl,o7,a7⟩;clear Nc;have rY:Hid (WH N L (1+2 * i+1) w7 z (600+i * 10200+5100)):=a7;clear a7;have v8:=v6.only o7 HL.out.1;have rX:=Ff.only o7 HL.out.2;have b8:=V5 b6 o7 zh.out)
          have S8:Hid (WH N L (1+2 * i+1) w7 z (600+i * 10200+5100)/\ZU w7 E 4 N 12 40 100 600 3 L.p 0/\Bz w7 B 16 z/\Below w.heap.size w w7):=⟨rY.out,v8,rX,b8⟩
          go_loopw [14] (fun jv wx=>∃ j:Nat,jv=.int .i64 j/\j<16/\(∀ l,l<j->z l=false)/\WH N L (1+2 * i+1) wx z (600+i * 10200+5100)/\ZU wx E 4 N 12 40 100 600 3 L.p 0/\Bz wx B 16 z/\Below w.heap.size w wx) (fun jv _=>16 - (intOf jv).toNat)
          case atStart=>exact⟨0,rfl,by decide,fun l hl=>absurd hl (Nat.not_lt_zero l),S8.out⟩
          case round =>
           clear S8 rY v8 rX b8 o7 v6 Ff b6 o5 GB z0 z1 z2 z3 z4 z5 z6 z7 z8
           obtain⟨j,rfl,hj,hlow,A9,v9,rU,b9⟩:=hrel
           have hjb:(0:Int)<=(j:Int)/\(j:Int)<16:=by omega
           have nY:Hid (∀ l,l<j->z l=false):=hlow
           have HJ:Hid (j<16):=hj
           have qx:Hid (WH N L (1+2 * i+1) wr z (600+i * 10200+5100)):=A9
           have qw:Hid (z j=true\/z j=false):=by cases z j;exact Or.inr rfl;exact Or.inl rfl
           clear hlow A9
           rcases qw.out with hzj | hzj
           . have HZ:Hid (z j=true):=hzj
             clear hzj qw
             have cj:wr.cell? ⟨B,j,none⟩=some (.bool true):=by rw[<- HZ.out];exact rU.cell HJ.out
             have nV:Hid (j≠k/\k≠j):=⟨(fun e=>by have h1:=HZ.out;rw[e,P7.out] at h1;cases h1),(fun e=>by have h1:=HZ.out;rw[<- e,P7.out] at h1;cases h1)⟩
             have HT1:Hid (XM (upd z j false) 16+1=m):=by
              have h3:=UM (ln:=16) (z:=z) j false HJ.out
              rw[HZ.out] at h3
              have h4:=HM.out.1
              simp at h3
              show XM (upd z j false) 16+1=m
              omega
             have HT2:Hid (XM (upd (upd z j false) k true) 16=m):=by
              have h3:=UM (ln:=16) (z:=upd z j false) k true V4.out
              rw[Z7 _ _ _ _ nV.out.2,P7.out] at h3
              have h4:XM (upd z j false) 16+1=m:=HT1.out
              simp at h3
              show XM (upd (upd z j false) k true) 16=m
              omega
             obtain⟨x0,x1,x2,x3,x4,x5,x6,x7,x8⟩:=id v9
             have zg:=qx.out.Gy (J':=1+2 * i+1) (M':=600+i * 10200+7650) Qi.out.1 Qi.out.2 (by omega) (by omega) (Or.inr (Or.inr rfl)) HJ.out HZ.out (show (if true=decide ((3:Int)≠2) then (1:Int) else 0)=1 by decide) (fun e=>by cases e) (by rw[if_neg (by decide)];omega) (by omega) qp
             clear qx
             go_wp2_with (go_at_call 11;refine zg.mono ?_;rintro e w10 ⟨rQ,rfl,xX,a10⟩;clear zg;have uu:Hid (WH N L (1+2 * i+1) w10 (upd z j false) (600+i * 10200+7650)):=a10;clear a10;have v10:=v9.only xX HL.out.1;have uq:=rU.only xX HL.out.2;have b10:=V5 b9 xX zh.out;obtain⟨u0,u1,u2,u3,u4,u5,u6,u7,u8⟩:=id v10)
             have yZ:=uu.out.Gy (J':=1+2 * (i+1)) (M':=600+(i+1) * 10200) Qi.out.1 Qi.out.2 (by omega) (by omega) (Or.inr (Or.inl rfl)) V4.out ((Z7 _ _ _ _ nV.out.2).trans P7.out) (show (if false=decide ((2:Int)≠2) then (1:Int) else 0)=1 by decide) (fun _ _=>by have:=HT1.out;have:=HM.out.2;omega) (by rw[if_pos rfl];omega) (by omega) xM
             clear uu
             go_wp2_with (go_at_call 11;refine yZ.mono ?_;rintro e lY ⟨Rw,rfl,rP,a11⟩;clear yZ;have qo:Hid (WH N L (1+2 * (i+1)) lY (upd (upd z j false) k true) (600+(i+1) * 10200)):=a11;clear a11;have v11:=v10.only rP HL.out.1;have xI:=uq.only rP HL.out.2;have b11:=V5 b10 rP zh.out;have jC:=xI.cell HJ.out;have jB:=xI.fz j;have uo:=xI.set HJ.out false;have ck2:=uo.cell V4.out;have jA:=uo.fz k)
             go_roundw
             case rel=>exact⟨i+1,m,upd (upd z j false) k true,by first | rfl | go_num,by go_num,by omega,HT2.out.symm,HM.out.2,(qo.out.only (Only.setCell (a:=⟨B,j,none⟩) (Only.refl (fun y=>y=B) _) (fun _=>rfl) _) (fun x hx e=>HB.out.1 (e ▸ hx))).only (Only.setCell (a:=⟨B,k,none⟩) (Only.refl (fun y=>y=B) _) (fun _=>rfl) _) (fun x hx e=>HB.out.1 (e ▸ hx)),(v11.ZX (Ne.symm HB.out.2.2) j (.bool false)).ZX (Ne.symm HB.out.2.2) k (.bool true),(((uq.only rP HL.out.2).set HJ.out false).set V4.out true),Z5 (Z5 b11 HB.out.2.1 j (.bool false)) HB.out.2.1 k (.bool true)⟩
             case measure=>simp[intOf];omega
           . have HZ:Hid (z j=false):=hzj
             clear hzj qw
             have cj:wr.cell? ⟨B,j,none⟩=some (.bool false):=by rw[<- HZ.out];exact rU.cell HJ.out
             go_wp2
             go_roundw
             case rel =>
              refine⟨j+1,by go_num,?_,?_,qx.out,v9,rU,b9⟩
              . obtain⟨l,h1,h2⟩:=HT.out
                have h3:l≠j:=fun e=>by rw[e,HZ.out] at h2;cases h2
                have h4:¬ l<j:=fun e=>by rw[nY.out l e] at h2;cases h2
                omega
              . intro l hl
                by_cases e:l=j
                . rw[e];exact HZ.out
                . exact nY.out l (by omega)
             case measure=>simp[intOf];omega
        . skip
          have hm0:¬ (0:Int)<(m:Int):=hm
          have hm1:¬ (m:Int)>0:=hm
          have cz:wr.cell? ⟨B,k,none⟩=some (.bool false):=by rw[<- P7.out];exact Am.cell V4.out
          have hask:=HA.out.uy (J':=1+2 * i+1) (M':=600+i * 10200+2550) Qi.out.1 Qi.out.2 (by omega) (by omega) V4.out P7.out (by have:=HM.out.1;have:=vZ.out;omega) (by omega) (by omega)
          clear HA
          go_wp2_with (go_at_call 11;refine hask.mono ?_;rintro e w5 ⟨st,rfl,o5,a5⟩;clear hask;have xJ:Hid (WH N L (1+2 * i+1) w5 z (600+i * 10200+2550)):=a5;clear a5;have v5:=v'.only o5 HL.out.1;have Eg:=Am.only o5 HL.out.2;have d5:=At.new w5 37 [.int .i64 7,.int .u64 0,.int .i64 0,.int .i64 st];have GB:=ZY w5 (.cells #[.int .i64 7,.int .u64 0,.int .i64 0,.int .i64 st] 37);have v6:=v5.grown GB;have Ff:=Eg.grown GB;have b6:=grow (V5 b' o5 zh.out) GB;have Ak:Hid (WH N L (1+2 * i+1) _ z (600+i * 10200+2550)):=xJ.out.grown GB;have d0:=d5.at0 0 rfl;have d2:=d5.at0 2 rfl;have Ef:=(Eg.cell V4.out);rw[P7.out] at Ef;have qA:=keep' GB Ef;have qy:=Ff.fz k;obtain⟨z0,z1,z2,z3,z4,z5,z6,z7,z8⟩:=id v6)
          have Nc:=Ak.out.Gy (J':=1+2 * i+1) (M':=600+i * 10200+5100) Qi.out.1 Qi.out.2 (by omega) (by omega) (Or.inl rfl) V4.out P7.out (show (if false=decide ((1:Int)≠2) then (1:Int) else 0)=0 by decide) (fun e=>by cases e) (by rw[if_neg (by decide)];omega) (by omega) uw
          clear Ak
          go_wp2_with (go_at_call 11;refine Nc.mono ?_;rintro e w7 ⟨st2,rfl,o7,a7⟩;clear Nc;have rY:Hid (WH N L (1+2 * i+1) w7 z (600+i * 10200+5100)):=a7;clear a7;have v8:=v6.only o7 HL.out.1;have rX:=Ff.only o7 HL.out.2;have b8:=V5 b6 o7 zh.out)
          go_roundw
          case rel=>exact⟨i+1,m,z,by first | rfl | go_num,by go_num,by omega,HM.out.1,HM.out.2,rY.out.up (by omega) (by omega),v8,rX,b8⟩
          case measure=>simp[intOf];omega
      . have vZ:Hid (¬ N<=1+m):=hfl
        clear hfl
        have hge:¬ (N:Int) - 1<=(m:Int):=by have:=vZ.out;omega
        have lX:¬ (m:Int)≥(N:Int) - 1:=by omega
        have cz:wr.cell? ⟨B,k,none⟩=some (.bool false):=by rw[<- P7.out];exact Am.cell V4.out
        have hask:=HA.out.Gy (J':=1+2 * (i+1)) (M':=600+(i+1) * 10200) Qi.out.1 Qi.out.2 (by omega) (by omega) (Or.inr (Or.inl rfl)) V4.out P7.out (show (if false=decide ((2:Int)≠2) then (1:Int) else 0)=1 by decide) (fun _ _=>by have:=HM.out.1;have:=vZ.out;omega) (by rw[if_pos rfl];omega) (by omega) xM
        clear HA
        go_wp2_with (go_at_call 11;refine hask.mono ?_;rintro e w5 ⟨st,rfl,o5,a5⟩;clear hask;have xJ:Hid (WH N L (1+2 * (i+1)) w5 (upd z k true) (600+(i+1) * 10200)):=a5;clear a5;have v5:=v'.only o5 HL.out.1;have Eg:=Am.only o5 HL.out.2;have d5:=At.new w5 37 [.int .i64 0,.int .u64 0,.int .i64 1,.int .i64 st];have GB:=ZY w5 (.cells #[.int .i64 0,.int .u64 0,.int .i64 1,.int .i64 st] 37);have v6:=v5.grown GB;have Ff:=Eg.grown GB;have b6:=grow (V5 b' o5 zh.out) GB;have Ak:Hid (WH N L (1+2 * (i+1)) _ (upd z k true) (600+(i+1) * 10200)):=xJ.out.grown GB;have d0:=d5.at0 0 rfl;have d2:=d5.at0 2 rfl;have Ef:=(Eg.cell V4.out);rw[P7.out] at Ef;have qA:=keep' GB Ef;have qy:=Ff.fz k)
        go_roundw
        case rel =>
         refine⟨i+1,m+1,upd z k true,by go_num,by go_num,by omega,?_,by have:=vZ.out;omega,Ak.out.only (Only.setCell (a:=⟨B,k,none⟩) (Only.refl (fun y=>y=B) _) (fun _=>rfl) _) (fun x hx e=>HB.out.1 (e ▸ hx)),v6.ZX (Ne.symm HB.out.2.2) k (.bool true),Ff.set V4.out true,Z5 b6 HB.out.2.1 k (.bool true)⟩
         have h3:=UM (ln:=16) (z:=z) k true V4.out
         rw[P7.out] at h3
         have h4:=HM.out.1
         simp at h3
         show m+1=_
         omega
        case measure=>simp[intOf];omega
  . have A:=A
    have hout:¬ ((i:Int)<(n:Int)/\(i:Int)<40):=by omega
    have y0:=v'.c0
    have y1:=v'.c1
    have y2:=v'.c2
    have y3:=v'.c3
    have y4:=v'.c4
    have y5:=v'.c5
    have y6:=v'.c6
    have y7:=v'.c7
    have y8:=v'.c8
    have hso:=A.sorted Qi.out.1 Qi.out.2 (by omega) Am 0
    by_cases hn1:(i:Int)<(n:Int)
    . have hn2:¬ (i:Int)<40:=by omega
      go_wp2_with (go_at_call 12;refine hso.mono ?_;rintro e w5 ⟨rfl,b5⟩)
      go_ret
      exact⟨rfl,grow b' b5⟩
    . go_wp2_with (go_at_call 12;refine hso.mono ?_;rintro e w5 ⟨rfl,b5⟩)
      go_ret
      exact⟨rfl,grow b' b5⟩
end
end Go.Proofs.YtpbghmeikcphnaaGreat
