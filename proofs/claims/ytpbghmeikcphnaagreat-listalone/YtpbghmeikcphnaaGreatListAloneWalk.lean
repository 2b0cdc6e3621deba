import Derived.Test.YtpbghmeikcphnaaGreatAbb
import Derived.Test.YtpbghmeikcphnaaGreatLstChain
import Derived.Test.YtpbghmeikcphnaaGreatLstAln
import Derived.Test.YtpbghmeikcphnaaGreatPlaceSee
namespace Go.Proofs.YtpbghmeikcphnaaGreat
open Go.RowKit
section
structure W3 where
 who:Nat->Int
 kd:Nat->Int
 ky:Nat->Int
def PD (W:World) (ao:Option Addr) (n:Nat) (A:W3):Prop:=∀ i,i<n->∃ b o,ao=some ⟨b,o,none⟩/\W.cell? ⟨b,o+i * 3,none⟩=some (iV (A.who i))/\W.cell? ⟨b,o+i * 3+1,none⟩=some (iV (A.kd i))/\W.cell? ⟨b,o+i * 3+2,none⟩=some (iV (A.ky i))
def JD (n:Nat) (A:W3):Prop:=∀ i,i<n->Fit (A.who i)/\Fit (A.kd i)/\Fit (A.ky i)
end
section
set_option maxRecDepth 20000
theorem uF (z:Int):∃ K:Nat,(z.tmod 3+3).tmod 3=(K:Int)/\K<3/\-3<z.tmod 3/\z.tmod 3<3:=by
 have h1:-3<z.tmod 3:=Int.lt_tmod_of_pos z (by omega)
 have h3:z.tmod 3<3:=Int.tmod_lt_of_pos z (by omega)
 have h4:=Int.emod_nonneg (z.tmod 3+3) (b:=3) (by omega)
 have h5:=Int.emod_lt_of_pos (z.tmod 3+3) (b:=3) (by omega)
 exact⟨((z.tmod 3+3) % 3).toNat,by rw[Int.tmod_eq_emod_of_nonneg (by omega)];omega,by omega,h1,h3⟩
theorem xO (z:Int):((z.tmod 3+3).tmod 3=0\/(z.tmod 3+3).tmod 3=1\/(z.tmod 3+3).tmod 3=2)/\-3<z.tmod 3/\z.tmod 3<3:=by
 obtain⟨K,h1,h2,h3,h4⟩:=uF z
 exact⟨by omega,h3,h4⟩
set_option maxRecDepth 20000 in
set_option maxHeartbeats 4000000 in
theorem PZ (ao:Option Addr) (n cap:Nat) (Q:W3) (w:World) (hA:PD w ao n Q):Calls Tryz.prog 3 #[.slice ao n cap] w fun e w'=>e=.returned (.bool true)/\Below w.heap.size w w':=by
 have bg:=fun w=>Pz (n:=40) (by decide) (by decide) w
 obtain⟨i0,hi,hz0,hz1,hz2⟩:=uD
 go_enter Tryz.func3,Tryz.ntmps3
 go_wp2_with (first
  | (go_at_call 9;refine(bg _).mono ?_;rintro e w1 ⟨L,s,σ,F0,rfl,R0,b1,l1,hσ,-⟩;have HR:Hid (Wl 40 L 1 w1 (fun _=>false) 600):=Wl.first (R0 0 97 (by decide)) hσ;clear R0;have vN:=(ZU.new (w:=w1) (P:=L.p) (c0:=4) (c1:=40) (c2:=12) (c3:=40) (c4:=100) (c5:=600) (c6:=3) (who:=0) (T:=27)))
  | (go_at_call 10;refine(Na _).mono ?_;rintro e w3 ⟨rfl,b3⟩;have v3:=vN.grown b3)
  | (at_make;go_must (refine wpList_make_full _ rfl (.const (.int .i64 16)) (.const (.int .i64 16)) 32 rfl w3.heap.size 4 i0 (.bool false) 1 (by kernel_rfl) hi hz0 hz1 .i64 .i64 16 16 16 rfl rfl rfl rfl (by rw[hz2];decide) (by decide) (Nat.le_refl _) ?_;intro w4 qN qM)))
 obtain⟨E,hE⟩:∃ E,w1.heap.size=E:=⟨_,rfl⟩
 obtain⟨B,hB⟩:∃ B,w3.heap.size=B:=⟨_,rfl⟩
 have oN:Bz w4 B 16 (fun _=>false):=by
  rw[hB] at qN
  exact Bz.made qN (by decide)
 have g4:=grow (ZY w1 (.cells #[.int .i64 4,.int .i64 40,.int .i64 12,.int .i64 40,.int .i64 100,.int .i64 600,.int .i64 3,.pointer (some ⟨L.p,0,none⟩),.int .i64 0] 27)) b3
 have G4:=grow g4 (MZ qM)
 have A4:=HR.out.grown G4
 have v4:=v3.grown (MZ qM)
 have b4:=grow b1 G4
 rw[hE] at v4
 have wE:Hid (∀ x,L.has x->w.heap.size<=x):=l1
 have HL:Hid (¬ L.has E/\¬ L.has B):=⟨fun hh=>by have:=HR.out.lt hh;omega,fun hh=>by have:=HR.out.lt hh;have:=g4.size;omega⟩
 have HB:Hid (¬ L.has B/\w.heap.size<=B/\B≠E):=⟨HL.out.2,by have:=b1.size;have:=g4.size;omega,by have h9:=World.block_lt_of_cell? _ _ v3.c0;have h8:w1.heap.size<w3.heap.size:=h9;omega⟩
 have S0:Hid (Wl 40 L 1 w4 (fun _=>false) 600/\ZU w4 E 4 40 12 40 100 600 3 L.p 0/\Bz w4 B 16 (fun _=>false)/\Below w.heap.size w w4):=⟨A4,v4,oN,b4⟩
 simp only[hE,hB]
 clear A4 v4 oN b4 G4 g4 HR vN v3 b3 b1 l1 qN qM hE hB bg hi hz0 hz1 hz2
 go_loopw [7] (fun iv wr=>∃ (i:Nat) (z:Nat->Bool),iv=.int .i64 i/\i<=60/\Wl 40 L (1+i) wr z (600+i * 2550)/\ZU wr E 4 40 12 40 100 600 3 L.p 0/\Bz wr B 16 z/\Below w.heap.size w wr) (fun iv _=>60 - (intOf iv).toNat)
 case atStart=>exact⟨0,fun _=>false,rfl,by decide,S0.out⟩
 case round =>
  clear S0
  obtain⟨i,z,rfl,hi,A,v',xN,b'⟩:=hrel
  by_cases hin:i<n/\i<60
  . obtain⟨hin1,hin2⟩:=hin
    have hi1:(i:Int)<(n:Int):=by omega
    have hi2:(i:Int)<60:=by omega
    have hib:(0:Int)<=(i:Int)/\(i:Int)<(n:Int):=by omega
    obtain⟨ab,ao',rfl,hw0,hw1,hw2⟩:=hA i hin1
    have c1:=keep' b' hw1
    have c2:=keep' b' hw2
    clear hw0 hw1 hw2
    obtain⟨hkk,hk3,hk4⟩:=xO (Q.kd i)
    obtain⟨k,hk,ni⟩:=qV (Q.ky i) 15 4 (by decide) (by decide)
    have WI:Hid (k<16):=by show k<16;omega
    have hkb:(0:Int)<=(k:Int)/\(k:Int)<16:=by omega
    have hwr:IntKind.i64.wrap ((Q.kd i).tmod 3+3)=(Q.kd i).tmod 3+3:=by rw[IntKind.wrap_i64];omega
    have HA':Hid (Wl 40 L (1+i) wr z (600+i * 2550)):=A
    have Aj:Hid (z k=true\/z k=false):=by cases z k;exact Or.inr rfl;exact Or.inl rfl
    clear A
    have y0:=v'.c0
    have y1:=v'.c1
    have y2:=v'.c2
    have y3:=v'.c3
    have y4:=v'.c4
    have y5:=v'.c5
    have y6:=v'.c6
    have y7:=v'.c7
    have y8:=v'.c8
    generalize Q.kd i=qa at c1 hkk hk3 hk4 hwr
    generalize Q.ky i=qb at c2 hk
    rcases hkk with hk1 | hk1 | hk1
    . go_wp2
      go_region
      have v:=v'.grown ((Below.refl _ _).drew)
      have bz:=xN.grown ((Below.refl _ _).drew)
      have b:=grow b' ((Below.refl _ _).drew)
      have HA:Hid (Wl 40 L (1+i) wr.drew z (600+i * 2550)):=HA'.out.grown ((Below.refl _ _).drew)
      clear v' xN b' HA' c1 c2 y0 y1 y2 y3 y4 y5 y6 y7 y8 hk1 hk3 hk4 hwr hk
      generalize wr.drew=wd at v bz b HA ⊢
      obtain⟨y0,y1,y2,y3,y4,y5,y6,y7,y8⟩:=id v
      rcases Aj.out with QK | QK
      . have QG:Hid (z k=true):=QK
        clear QK Aj
        have cz:wd.cell? ⟨B,k,none⟩=some (.bool true):=by rw[<- QG.out];exact bz.cell WI.out
        have hask:=HA.out.Py (by omega) (by omega) (Or.inl rfl) WI.out QG.out (show (if true=decide ((1:Int)≠2) then (1:Int) else 0)=1 by decide)
        rw[uC] at hask
        clear HA
        go_wp2_with (go_at_call 11;refine hask.mono ?_;rintro e w5 ⟨st,rfl,o5,a5⟩;have Ef:Hid (Wl 40 L (1+i+1) w5 z (600+i * 2550+2550)):=a5;clear a5;have v5:=v.only o5 HL.out.1;have MX:=bz.only o5 HL.out.2;have d5:=At.new w5 37 [.int .i64 0,.int .u64 0,.int .i64 1,.int .i64 st];have GB:=ZY w5 (.cells #[.int .i64 0,.int .u64 0,.int .i64 1,.int .i64 st] 37);have v6:=v5.grown GB;have MW:=MX.grown GB;have b6:=grow (Vj b o5 wE.out) GB;have Ee:Hid (Wl 40 L (1+(i+1)) _ z (600+(i+1) * 2550)):=(Ef.out.grown GB).up (by omega) (by omega);have d0:=d5.at0 0 rfl;have d2:=d5.at0 2 rfl;have MV:=(MX.cell WI.out);rw[QG.out] at MV;have uB:=keep' GB MV;have uA:=MW.fz k)
        go_roundw
        case rel=>exact⟨i+1,z,by go_num,by omega,Ee.out,v6,MW,b6⟩
        case measure=>simp[intOf];omega
      . have QG:Hid (z k=false):=QK
        clear QK Aj
        have cz:wd.cell? ⟨B,k,none⟩=some (.bool false):=by rw[<- QG.out];exact bz.cell WI.out
        have hask:=HA.out.Py (by omega) (by omega) (Or.inl rfl) WI.out QG.out (show (if false=decide ((1:Int)≠2) then (1:Int) else 0)=0 by decide)
        rw[uC] at hask
        clear HA
        go_wp2_with (go_at_call 11;refine hask.mono ?_;rintro e w5 ⟨st,rfl,o5,a5⟩;have Ef:Hid (Wl 40 L (1+i+1) w5 z (600+i * 2550+2550)):=a5;clear a5;have v5:=v.only o5 HL.out.1;have MX:=bz.only o5 HL.out.2;have d5:=At.new w5 37 [.int .i64 0,.int .u64 0,.int .i64 0,.int .i64 st];have GB:=ZY w5 (.cells #[.int .i64 0,.int .u64 0,.int .i64 0,.int .i64 st] 37);have v6:=v5.grown GB;have MW:=MX.grown GB;have b6:=grow (Vj b o5 wE.out) GB;have Ee:Hid (Wl 40 L (1+(i+1)) _ z (600+(i+1) * 2550)):=(Ef.out.grown GB).up (by omega) (by omega);have d0:=d5.at0 0 rfl;have d2:=d5.at0 2 rfl;have MV:=(MX.cell WI.out);rw[QG.out] at MV;have uB:=keep' GB MV;have uA:=MW.fz k)
        go_roundw
        case rel=>exact⟨i+1,z,by go_num,by omega,Ee.out,v6,MW,b6⟩
        case measure=>simp[intOf];omega
    . go_wp2
      go_region
      have v:=v'.grown ((Below.refl _ _).drew)
      have bz:=xN.grown ((Below.refl _ _).drew)
      have b:=grow b' ((Below.refl _ _).drew)
      have HA:Hid (Wl 40 L (1+i) wr.drew z (600+i * 2550)):=HA'.out.grown ((Below.refl _ _).drew)
      clear v' xN b' HA' c1 c2 y0 y1 y2 y3 y4 y5 y6 y7 y8 hk1 hk3 hk4 hwr hk
      generalize wr.drew=wd at v bz b HA ⊢
      obtain⟨y0,y1,y2,y3,y4,y5,y6,y7,y8⟩:=id v
      rcases Aj.out with QK | QK
      . have QG:Hid (z k=true):=QK
        clear QK Aj
        have cz:wd.cell? ⟨B,k,none⟩=some (.bool true):=by rw[<- QG.out];exact bz.cell WI.out
        have hask:=HA.out.Py (by omega) (by omega) (Or.inr (Or.inl rfl)) WI.out QG.out (show (if true=decide ((2:Int)≠2) then (1:Int) else 0)=0 by decide)
        rw[uz] at hask
        clear HA
        go_wp2_with (go_at_call 11;refine hask.mono ?_;rintro e w5 ⟨st,rfl,o5,a5⟩;have Ef:Hid (Wl 40 L (1+i+1) w5 (upd z k true) (600+i * 2550+2550)):=a5;clear a5;have v5:=v.only o5 HL.out.1;have MX:=bz.only o5 HL.out.2;have d5:=At.new w5 37 [.int .i64 0,.int .u64 0,.int .i64 0,.int .i64 st];have GB:=ZY w5 (.cells #[.int .i64 0,.int .u64 0,.int .i64 0,.int .i64 st] 37);have v6:=v5.grown GB;have MW:=MX.grown GB;have b6:=grow (Vj b o5 wE.out) GB;have Ee:Hid (Wl 40 L (1+(i+1)) _ (upd z k true) (600+(i+1) * 2550)):=(Ef.out.grown GB).up (by omega) (by omega);have d0:=d5.at0 0 rfl;have d2:=d5.at0 2 rfl;have MV:=(MX.cell WI.out);rw[QG.out] at MV;have uB:=keep' GB MV;have uA:=MW.fz k)
        go_roundw
        case rel=>exact⟨i+1,(upd z k true),by go_num,by omega,Ee.out.only (Only.setCell (a:=⟨B,k,none⟩) (Only.refl (fun y=>y=B) _) (fun _=>rfl) _) (fun x hx e=>HB.out.1 (e ▸ hx)),v6.ZX (Ne.symm HB.out.2.2) k (.bool true),MW.set WI.out true,Z7 b6 HB.out.2.1 k (.bool true)⟩
        case measure=>simp[intOf];omega
      . have QG:Hid (z k=false):=QK
        clear QK Aj
        have cz:wd.cell? ⟨B,k,none⟩=some (.bool false):=by rw[<- QG.out];exact bz.cell WI.out
        have hask:=HA.out.Py (by omega) (by omega) (Or.inr (Or.inl rfl)) WI.out QG.out (show (if false=decide ((2:Int)≠2) then (1:Int) else 0)=1 by decide)
        rw[uz] at hask
        clear HA
        go_wp2_with (go_at_call 11;refine hask.mono ?_;rintro e w5 ⟨st,rfl,o5,a5⟩;have Ef:Hid (Wl 40 L (1+i+1) w5 (upd z k true) (600+i * 2550+2550)):=a5;clear a5;have v5:=v.only o5 HL.out.1;have MX:=bz.only o5 HL.out.2;have d5:=At.new w5 37 [.int .i64 0,.int .u64 0,.int .i64 1,.int .i64 st];have GB:=ZY w5 (.cells #[.int .i64 0,.int .u64 0,.int .i64 1,.int .i64 st] 37);have v6:=v5.grown GB;have MW:=MX.grown GB;have b6:=grow (Vj b o5 wE.out) GB;have Ee:Hid (Wl 40 L (1+(i+1)) _ (upd z k true) (600+(i+1) * 2550)):=(Ef.out.grown GB).up (by omega) (by omega);have d0:=d5.at0 0 rfl;have d2:=d5.at0 2 rfl;have MV:=(MX.cell WI.out);rw[QG.out] at MV;have uB:=keep' GB MV;have uA:=MW.fz k)
        go_roundw
        case rel=>exact⟨i+1,(upd z k true),by go_num,by omega,Ee.out.only (Only.setCell (a:=⟨B,k,none⟩) (Only.refl (fun y=>y=B) _) (fun _=>rfl) _) (fun x hx e=>HB.out.1 (e ▸ hx)),v6.ZX (Ne.symm HB.out.2.2) k (.bool true),MW.set WI.out true,Z7 b6 HB.out.2.1 k (.bool true)⟩
        case measure=>simp[intOf];omega
    . go_wp2
      go_region
      have v:=v'.grown ((Below.refl _ _).drew)
      have bz:=xN.grown ((Below.refl _ _).drew)
      have b:=grow b' ((Below.refl _ _).drew)
      have HA:Hid (Wl 40 L (1+i) wr.drew z (600+i * 2550)):=HA'.out.grown ((Below.refl _ _).drew)
      clear v' xN b' HA' c1 c2 y0 y1 y2 y3 y4 y5 y6 y7 y8 hk1 hk3 hk4 hwr hk
      generalize wr.drew=wd at v bz b HA ⊢
      obtain⟨y0,y1,y2,y3,y4,y5,y6,y7,y8⟩:=id v
      rcases Aj.out with QK | QK
      . have QG:Hid (z k=true):=QK
        clear QK Aj
        have cz:wd.cell? ⟨B,k,none⟩=some (.bool true):=by rw[<- QG.out];exact bz.cell WI.out
        have hask:=HA.out.Py (by omega) (by omega) (Or.inr (Or.inr rfl)) WI.out QG.out (show (if true=decide ((3:Int)≠2) then (1:Int) else 0)=1 by decide)
        rw[uy] at hask
        clear HA
        go_wp2_with (go_at_call 11;refine hask.mono ?_;rintro e w5 ⟨st,rfl,o5,a5⟩;have Ef:Hid (Wl 40 L (1+i+1) w5 (upd z k false) (600+i * 2550+2550)):=a5;clear a5;have v5:=v.only o5 HL.out.1;have MX:=bz.only o5 HL.out.2;have d5:=At.new w5 37 [.int .i64 0,.int .u64 0,.int .i64 1,.int .i64 st];have GB:=ZY w5 (.cells #[.int .i64 0,.int .u64 0,.int .i64 1,.int .i64 st] 37);have v6:=v5.grown GB;have MW:=MX.grown GB;have b6:=grow (Vj b o5 wE.out) GB;have Ee:Hid (Wl 40 L (1+(i+1)) _ (upd z k false) (600+(i+1) * 2550)):=(Ef.out.grown GB).up (by omega) (by omega);have d0:=d5.at0 0 rfl;have d2:=d5.at0 2 rfl;have MV:=(MX.cell WI.out);rw[QG.out] at MV;have uB:=keep' GB MV;have uA:=MW.fz k)
        go_roundw
        case rel=>exact⟨i+1,(upd z k false),by go_num,by omega,Ee.out.only (Only.setCell (a:=⟨B,k,none⟩) (Only.refl (fun y=>y=B) _) (fun _=>rfl) _) (fun x hx e=>HB.out.1 (e ▸ hx)),v6.ZX (Ne.symm HB.out.2.2) k (.bool false),MW.set WI.out false,Z7 b6 HB.out.2.1 k (.bool false)⟩
        case measure=>simp[intOf];omega
      . have QG:Hid (z k=false):=QK
        clear QK Aj
        have cz:wd.cell? ⟨B,k,none⟩=some (.bool false):=by rw[<- QG.out];exact bz.cell WI.out
        have hask:=HA.out.Py (by omega) (by omega) (Or.inr (Or.inr rfl)) WI.out QG.out (show (if false=decide ((3:Int)≠2) then (1:Int) else 0)=0 by decide)
        rw[uy] at hask
        clear HA
        go_wp2_with (go_at_call 11;refine hask.mono ?_;rintro e w5 ⟨st,rfl,o5,a5⟩;have Ef:Hid (Wl 40 L (1+i+1) w5 (upd z k false) (600+i * 2550+2550)):=a5;clear a5;have v5:=v.only o5 HL.out.1;have MX:=bz.only o5 HL.out.2;have d5:=At.new w5 37 [.int .i64 0,.int .u64 0,.int .i64 0,.int .i64 st];have GB:=ZY w5 (.cells #[.int .i64 0,.int .u64 0,.int .i64 0,.int .i64 st] 37);have v6:=v5.grown GB;have MW:=MX.grown GB;have b6:=grow (Vj b o5 wE.out) GB;have Ee:Hid (Wl 40 L (1+(i+1)) _ (upd z k false) (600+(i+1) * 2550)):=(Ef.out.grown GB).up (by omega) (by omega);have d0:=d5.at0 0 rfl;have d2:=d5.at0 2 rfl;have MV:=(MX.cell WI.out);rw[QG.out] at MV;have uB:=keep' GB MV;have uA:=MW.fz k)
        go_roundw
        case rel=>exact⟨i+1,(upd z k false),by go_num,by omega,Ee.out.only (Only.setCell (a:=⟨B,k,none⟩) (Only.refl (fun y=>y=B) _) (fun _=>rfl) _) (fun x hx e=>HB.out.1 (e ▸ hx)),v6.ZX (Ne.symm HB.out.2.2) k (.bool false),MW.set WI.out false,Z7 b6 HB.out.2.1 k (.bool false)⟩
        case measure=>simp[intOf];omega
  . have A:=A
    have hout:¬ ((i:Int)<(n:Int)/\(i:Int)<60):=by omega
    have y0:=v'.c0
    have y1:=v'.c1
    have y2:=v'.c2
    have y3:=v'.c3
    have y4:=v'.c4
    have y5:=v'.c5
    have y6:=v'.c6
    have y7:=v'.c7
    have y8:=v'.c8
    have hso:=A.sorted (by decide) (by decide) (by omega) xN 0
    by_cases hn1:(i:Int)<(n:Int)
    . have hn2:¬ (i:Int)<60:=by omega
      go_wp2_with (go_at_call 12;refine hso.mono ?_;rintro e w5 ⟨rfl,b5⟩)
      go_ret
      exact⟨rfl,grow b' b5⟩
    . go_wp2_with (go_at_call 12;refine hso.mono ?_;rintro e w5 ⟨rfl,b5⟩)
      go_ret
      exact⟨rfl,grow b' b5⟩
end
end Go.Proofs.YtpbghmeikcphnaaGreat
