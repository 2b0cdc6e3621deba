import Derived.Test.YtpbghmeikcphnaaGreatOnly
import Derived.Test.YtpbghmeikcphnaaGreatLstQst
import Derived.Test.YtpbghmeikcphnaaGreatPlaceSee
import Derived.Deep.CutRange
import Derived.Deep.LoopGhost
import Derived.Deep.RegionWith
namespace Go.Proofs.YtpbghmeikcphnaaGreat
open Go.RowKit
section
def EW (k:IntKind) (w:World) (ao:Option Addr) (n:Nat) (z:Nat->Int):Prop :=
 ∀ i,i<n->∃ b off,ao=some ⟨b,off,none⟩/\w.cell? ⟨b,off+i,none⟩=some (.int k (z i))
end
section
set_option maxRecDepth 20000
theorem uq (z:Int):∃ K:Nat,(z.tmod 4+4).tmod 4=(K:Int)/\K<4/\-4<z.tmod 4/\z.tmod 4<4:=by
 have h1:-4<z.tmod 4:=Int.lt_tmod_of_pos z (by omega)
 have h3:z.tmod 4<4:=Int.tmod_lt_of_pos z (by omega)
 have h4:=Int.emod_nonneg (z.tmod 4+4) (b:=4) (by omega)
 have h5:=Int.emod_lt_of_pos (z.tmod 4+4) (b:=4) (by omega)
 exact⟨((z.tmod 4+4) % 4).toNat,by rw[Int.tmod_eq_emod_of_nonneg (by omega)];omega,by omega,h1,h3⟩
def EE (i:Nat):Nat->Bool:=fun x=>decide (x % 2=0/\x<i)
theorem xX (i:Nat):EE i i=false:=decide_eq_false (fun h=>Nat.lt_irrefl _ h.2)
theorem xW {i:Nat} (hi:i % 2=0):∀ x,x<8->upd (EE i) i true x=EE (i+2) x:=fun x _=>by
 by_cases e:x=i
 . rw[e,upd_same];exact(decide_eq_true (by omega)).symm
 . rw[Z9 _ _ _ _ e]
   unfold EE
   exact decide_eq_decide.2 (by omega)
set_option maxRecDepth 200000 in
set_option maxHeartbeats 4000000 in
theorem OB (z0:Int) (rm:Bool) (po:Option Addr) (m xY:Nat) (P:Nat->Int) (w:World) (hP:EW .i64 w po m P):Calls Tryz.prog 8 #[.int .i64 z0,.bool rm,.slice po m xY] w fun e w'=>e=.returned (.bool true)/\Below w.heap.size w w':=by
 have bg:=fun w=>PE (n:=30) (by decide) (by decide) w
 have ff:∀ (a1 a2 a3 a4:Value) (w:World),(Instr.field 37 (.agg #[a1,a2,a3,a4]) 2).run Tryz.prog w=.ok a3 w:=fun a1 a2 a3 a4 w=>by kernel_rfl
 have f0:∀ (a1 a2 a3 a4:Value) (w:World),(Instr.field 37 (.agg #[a1,a2,a3,a4]) 0).run Tryz.prog w=.ok a1 w:=fun a1 a2 a3 a4 w=>by kernel_rfl
 obtain⟨k,hk,gV⟩:=qh z0 7 3 (by decide) (by decide)
 have xU:Hid (k<8):=by show k<8;omega
 go_enter Tryz.func8,Tryz.ntmps8
 go_wp2_with (first
  | (go_at_call 9;refine(bg _).mono ?_;rintro e w1 ⟨L,s,σ,F0,rfl,R0,b1,l1,hσ,-⟩;have HR:Hid (TL 0 97 L 1 600 (fun _=>false) w1):=⟨s,σ,_,_,_,_,_,_,_,R0 0 97 (by decide),zJ 4 30 12 40,hσ,fun i _=>⟨fun h=>absurd h (by simp[ru]),fun h=>by cases h⟩⟩;clear R0;have vN:XB (w1.alloc (.cells #[.int .i64 4,.int .i64 30,.int .i64 12,.int .i64 40,.int .i64 100,.int .i64 600,.int .i64 3,.pointer (some ⟨L.p,0,none⟩),.int .i64 0] 27)) w1.heap.size 4 30 12 40 100 600 3 L.p 0:=Go.Deep.blk_alloc_new _ _)
  | (go_at_call 10;refine(MX _).mono ?_;rintro e w3 ⟨rfl,b3⟩;have v3:=vN.grown b3))
 obtain⟨E,hE⟩:∃ E,w1.heap.size=E:=⟨_,rfl⟩
 have g4:=grow (ZY w1 (.cells #[.int .i64 4,.int .i64 30,.int .i64 12,.int .i64 40,.int .i64 100,.int .i64 600,.int .i64 3,.pointer (some ⟨L.p,0,none⟩),.int .i64 0] 27)) b3
 have A4:=HR.out.grown g4
 have b4:=grow b1 g4
 rw[hE] at v3
 have xR:Hid (∀ x,L.has x->w.heap.size<=x/\x<E):=fun x hx=>⟨l1 x hx,by have:=HR.out.lt hx;omega⟩
 have HL:Hid (¬ L.has E):=fun hh=>by have:=HR.out.lt hh;omega
 have HE:Hid (w.heap.size<=E):=by have:=b1.size;show w.heap.size<=E;omega
 have S0:Hid (TL 0 97 L (1+0 / 2) (600+0 * 1950) (EE 0) w3/\XB w3 E 4 30 12 40 100 600 3 L.p 0/\Below w.heap.size w w3):=⟨(A4.up (Nat.le_refl _) (by decide)).as (fun i hi=>(decide_eq_false (by omega)).symm),v3,b4⟩
 simp only[hE]
 clear A4 v3 b4 g4 HR vN b3 b1 l1 hE bg hσ
 go_wp2
 go_loopw [12] (fun iv wr=>∃ (i:Nat),iv=.int .i64 i/\i<=8/\i % 2=0/\TL 0 97 L (1+i / 2) (600+i * 1950) (EE i) wr/\XB wr E 4 30 12 40 100 600 3 L.p 0/\Below w.heap.size w wr) (fun iv _=>9 - (intOf iv).toNat)
 case atStart=>exact⟨0,rfl,by decide,rfl,S0.out⟩
 case round =>
  clear S0
  obtain⟨i,rfl,hi,hi2,A,v',b'⟩:=hrel
  by_cases gU:(i:Int)<8
  . have HA:Hid (TL 0 97 L (1+i / 2) (600+i * 1950) (EE i) wr):=A
    have HI2:Hid (i % 2=0):=hi2
    have mf:Hid (i<8):=by show i<8;omega
    have hask:=HA.out.ask (kd:=2) (k:=i) (by omega) (by decide) (by omega) (by omega) (by decide) (Or.inr (Or.inl rfl)) mf.out (xX i) (show (if false=decide ((2:Int)≠2) then (1:Int) else 0)=1 by decide) zI
    have y0:=v'.v.c0
    have y1:=v'.v.c1
    have y2:=v'.v.c2
    have y3:=v'.v.c3
    have y4:=v'.v.c4
    have y5:=v'.v.c5
    have y6:=v'.v.c6
    have y7:=v'.v.c7
    have y8:=v'.v.c8
    clear A HA hi2
    go_wp2_with (go_at_call 11;refine hask.mono ?_;rintro e w4 ⟨TK,rfl,o4,a4⟩;clear hask;have A4:Hid (TL 0 97 L (1+i / 2+1) (600+i * 1950+1950) (upd (EE i) i true) w4):=a4.up (Nat.add_le_add_left (by decide) _) (Nat.le_refl _);clear a4;have v4:=v'.only o4 HL.out;have b4:=UA b' o4 (fun x hx=>(xR.out x hx).1))
    go_roundw
    case rel=>exact⟨i+2,by go_num,by have:=mf.out;have:=HI2.out;omega,by have:=HI2.out;omega,(A4.out.up (by omega) (by omega)).as (xW HI2.out),v4,b4⟩
    case measure=>simp[intOf];omega
  . skip
    have A9:Hid (TL 0 97 L 5 16200 (EE 8) wr):=by
     have e:i=8:=by omega
     rw[e] at A
     exact A
    clear A hi hi2
    have HV:Hid (XB wr E 4 30 12 40 100 600 3 L.p 0):=v'
    have HB:Hid (Below w.heap.size w wr):=b'
    clear v' b'
    go_upto_if 42 with fail
    go_cut [11] from 42 to 50 (fun kv wx=>∃ (kd:Int) (z:Nat->Bool),kv=.int .i64 kd/\kd=(if rm then 3 else 2)/\z k=rm/\TL 0 97 L 6 20000 z wx/\XB wx E 4 30 12 40 100 600 3 L.p 0/\Below w.heap.size w wx)
    case first =>
     have v':=HV.out
     have y0:=v'.v.c0
     have y1:=v'.v.c1
     have y2:=v'.v.c2
     have y3:=v'.v.c3
     have y4:=v'.v.c4
     have y5:=v'.v.c5
     have y6:=v'.v.c6
     have y7:=v'.v.c7
     have y8:=v'.v.c8
     clear v'
     cases rm with
     | true =>
      obtain⟨va,hva⟩:∃ va:Int,(if EE 8 k=decide ((2:Int)≠2) then (1:Int) else 0)=va:=⟨_,rfl⟩
      have hask:=A9.out.ask (kd:=2) (k:=k) (by decide) (by decide) (by decide) (by decide) (by decide) (Or.inr (Or.inl rfl)) xU.out rfl hva zI
      clear hva
      go_wp2_with (go_at_call 11;refine hask.mono ?_;rintro e w4 ⟨TK,rfl,o4,a4⟩;clear hask)
      go_meet
      exact⟨3,_,rfl,rfl,upd_same _ _ _,a4.up (by decide) (by decide),HV.out.only o4 HL.out,UA HB.out o4 (fun x hx=>(xR.out x hx).1)⟩
     | false =>
      obtain⟨va,hva⟩:∃ va:Int,(if EE 8 k=decide ((3:Int)≠2) then (1:Int) else 0)=va:=⟨_,rfl⟩
      have hask:=A9.out.ask (kd:=3) (k:=k) (by decide) (by decide) (by decide) (by decide) (by decide) (Or.inr (Or.inr rfl)) xU.out rfl hva uo
      clear hva
      go_wp2_with (go_at_call 11;refine hask.mono ?_;rintro e w4 ⟨TK,rfl,o4,a4⟩;clear hask)
      go_meet
      exact⟨2,_,rfl,rfl,upd_same _ _ _,a4.up (by decide) (by decide),HV.out.only o4 HL.out,UA HB.out o4 (fun x hx=>(xR.out x hx).1)⟩
    case rest =>
    obtain⟨kd,z,rfl,hkd,hz,A5,v5,b5⟩:=hcut
    have um:kd=2\/kd=3:=by rw[hkd];cases rm <;> decide
    have pM:Hid (kd=2\/kd=3):=um
    have l9:Hid (kd=(if rm then 3 else 2)/\z k=rm):=⟨hkd,hz⟩
    clear um hkd hz A9 HV HB
    go_upto_region 14 with fail
    have N0:Hid (Nw w ((wc.alloc (.cells #[.pointer none,.pointer none,.pointer none,.pointer none] 65)).alloc (.cells #[.bool false,.bool false,.bool false,.bool false] 66)) L E wc.heap.size (wc.heap.size+1) kd k z (fun _=>0) 0):=Nw.first A5 v5 b5
    have pK:=Xp v5
    obtain⟨Wb,pI⟩:∃ x,wc.heap.size=x:=⟨_,rfl⟩
    obtain⟨Db,lZ⟩:∃ x,Wb+1=x:=⟨_,rfl⟩
    rw[pI] at pK
    simp only[pI,lZ] at N0 ⊢
    have wG:Hid (w.heap.size<=E/\E<Wb/\Wb<Db):=⟨HE.out,pK,by omega⟩
    have pG:Hid (Uj kd k=true):=I8 (Or.inr pM.out) (by omega) (by have:=xU.out;omega)
    clear A5 v5 b5 pK lZ pI HE HL
    generalize ((wc.alloc (.cells #[.pointer none,.pointer none,.pointer none,.pointer none] 65)).alloc (.cells #[.bool false,.bool false,.bool false,.bool false] 66))=wd at N0 ⊢
    go_wp2
    go_loopw [16] (fun iv wx=>∃ (i:Nat) (lb:Nat->Nat),iv=.int .i64 i/\i<=4/\Nw w wx L E Wb Db kd k z lb i) (fun iv _=>4 - (intOf iv).toNat)
    case atStart=>exact⟨0,_,rfl,by decide,N0.out⟩
    case round =>
     clear N0
     obtain⟨i,lb,rfl,hi,A0⟩:=hrel
     have HA:Hid (Nw w wr L E Wb Db kd k z lb i):=A0
     clear A0
     by_cases hi4:(i:Int)<4
     . have pF:(0:Int)<=(i:Int):=by omega
       have HI:Hid (i<4):=by show i<4;omega
       go_wp2_with (go_at_call 13;refine(MW kd k 65536 pG.out _).mono ?_;rintro e w4 ⟨bN,rfl,lr,gN,hbN⟩;have A1:=HA.out.new (fun x hx=>xR.out x hx) wG.out.1 wG.out.2.1 wG.out.2.2 gN hbN lr;obtain⟨z0',z1'⟩:=HA.out.at_ HI.out;have hz0:=keep' gN z0';have hz1:w4.frozen? ⟨Wb,i,none⟩=false:=by { have:=Xp HA.out.v;exact(HA.out.ar.of_block (gN.block _ HA.out.ar.lt)).frozen i })
       go_roundw
       case rel=>exact⟨i+1,_,by go_num,by have:=HI.out;omega,A1⟩
       case measure=>simp[intOf];omega
     . skip
       obtain⟨M0,hM0⟩:∃ M0:Nat,20000=M0:=⟨_,rfl⟩
       have Q0:Hid (Qx w wr L E Wb Db ((0:Nat):Int) kd k M0 lb (fun a=>!((fun _=>true) a)) (fun _=>true) 0 4756/\Tm 0 4756 (fun _=>true)/\ED (fun _=>true)=4):=by
        have e:i=4:=by omega
        have A:=HA.out
        rw[e] at A
        rw[<- hM0]
        exact⟨A.four pM.out xU.out (by obtain⟨h1,h2⟩:=l9.out;rw[h2,h1];cases rm <;> rfl) (fun x hx=>xR.out x hx) wG.out.1 wG.out.2.1 wG.out.2.2,Tm.first,by unfold ED;rw[OA];rfl⟩
       have lY:Hid ((M0:Int)<=20000):=by show (M0:Int)<=20000;omega
       generalize 4756=V0 at Q0
       clear hM0 HA
       go_upto_region 19 with fail
       clear hi hi4
       go_wp2
       go_loopg [15,17,18] 30000 (fun g cv lv iv wx=>∃ (i Zi lf V K0:Nat) (al:Nat->Bool),i+g=30000/\cv=.int .i64 Zi/\lv=.int .i64 lf/\iv=.int .i64 i/\K0<4/\ED al=lf/\Tm i V al/\Qx w wx L E Wb Db (K0:Int) kd k (M0+i) lb (fun a=>!al a) al Zi V)
       case atStart=>exact⟨0,0,4,V0,0,_,by omega,rfl,rfl,rfl,by decide,Q0.out.2.2,Q0.out.2.1,Q0.out.1⟩
       case round =>
        clear Q0
        obtain⟨i,Zi,lf,V,K0,al,hig,rfl,rfl,rfl,uj,hlf,hT,A0⟩:=hrel
        have HA:Hid (Qx w wr L E Wb Db (K0:Int) kd k (M0+i) lb (fun a=>!al a) al Zi V):=A0
        have HT:Hid (Tm i V al/\ED al=lf/\K0<4):=⟨hT,hlf,uj⟩
        have hl4:lf<=4:=by
         rw[<- hlf];unfold ED;rw[OA]
         have one:∀ a,(if al a then 1 else 0)<=1:=fun a=>by split <;> decide
         have:=one 0;have:=one 1;have:=one 2;have:=one 3;omega
        clear A0 hT hlf uj
        by_cases hend:(i:Int)<30000/\(0:Int)<(lf:Int)
        . obtain⟨gQ,kK⟩:=hend
          cases gk with
          | zero=>omega
          | succ g =>
          have pF:(0:Int)<=(i:Int):=by omega
          have rq:Hid ((i:Int)+(g+1)=30000):=by show (i:Int)+(g+1)=30000;omega
          clear hig
          go_upto_region 23 with fail
          go_cut [84] from 66 to 121 (fun kv wx=>∃ bb:Bool,kv=.bool bb/\(bb=true->i<m/\i<1500)/\wr=wx)
          case first =>
           by_cases hp2:(i:Int)<(m:Int)
           . by_cases hp3:(i:Int)<1500
             . go_wp2
               go_meet
               exact⟨true,rfl,fun _=>by omega,rfl⟩
             . go_wp2
               go_meet
               exact⟨false,rfl,fun h=>by(cases h),rfl⟩
           . go_wp2
             go_meet
             exact⟨false,rfl,fun h=>by(cases h),rfl⟩
          case rest =>
          obtain⟨bb,rfl,hbb,rfl⟩:=hcut
          go_upto_if 84 with fail
          go_cut [19] from 66 to 121 (fun kv wx=>∃ K:Nat,kv=.int .i64 K/\K<4/\(1500<=i->K=i / 5 % 4)/\wr=wx)
          case first =>
           have hq:((i:Int).tdiv 5).tmod 4=((i / 5 % 4:Nat):Int):=by rw[Int.tdiv_eq_ediv_of_nonneg (by omega),Int.tmod_eq_emod_of_nonneg (by omega)];omega
           cases bb with
           | false =>
            go_wp2
            go_meet
            exact⟨i / 5 % 4,congrArg (Value.int .i64) hq,by omega,fun _=>rfl,rfl⟩
           | true =>
            obtain⟨hp2',kJ⟩:=hbb rfl
            have hp2:(i:Int)<(m:Int):=by omega
            obtain⟨pb,pq,rfl,hw0⟩:=hP i (by omega)
            have c1:=keep' HA.out.bw hw0
            obtain⟨K,hK,hK3,hk3,hk4⟩:=uq (P i)
            generalize P i=qa at c1 hK hk3 hk4
            go_wp2
            go_meet
            exact⟨K,by first | rfl | exact congrArg (Value.int .i64) hK,hK3,fun h=>by omega,rfl⟩
          case rest =>
          obtain⟨K,rfl,hK4,lX,rfl⟩:=hcut
          have HK:Hid (K<4/\(1500<=i->K=i / 5 % 4)):=⟨hK4,lX⟩
          have e8:=ZW HA.out.v (o:=8) rfl
          have ef:=HA.out.v.fz 8
          have hK0:(0:Int)<=(K:Int):=by omega
          have kH:(K:Int)<4:=by omega
          clear hbb bb lX
          go_upto_region 26 with fail
          have HA1:Hid (Qx w (wr.setCell ⟨E,8,none⟩ (.int .i64 (K:Int))) L E Wb Db (K:Int) kd k (M0+i) lb (fun a=>!al a) al Zi V):=HA.out.xQ (K:Int)
          clear HA e8 ef
          generalize wr.setCell ⟨E,8,none⟩ (.int .i64 (K:Int))=w1 at HA1 ⊢
          cases ha:al K with
          | false =>
           have hd0:=HA1.out.dr.cell (i:=K) hK4
           rw[ha] at hd0
           have hd1:=HA1.out.dr.frozen K
           have ui:Hid (Tm (i+1) V al):=HT.out.1.no ha HK.out.2
           clear ha
           have hd0:w1.cell? ⟨Db,K,none⟩=some (.bool true):=hd0
           go_region
           go_wp2
           go_roundg g
           case measure=>omega
           case rel=>exact⟨i+1,Zi,lf,V,K,al,by have:=rq.out;omega,rfl,rfl,by go_num,HK.out.1,HT.out.2.1,ui.out,(HA1.out.grown ((Below.refl _ _).drew)).up (by omega)⟩
          | true =>
           have hd0:=HA1.out.dr.cell (i:=K) hK4
           rw[ha] at hd0
           have hd0:w1.cell? ⟨Db,K,none⟩=some (.bool false):=hd0
           have hd1:=HA1.out.dr.frozen K
           have hw0:=HA1.out.ar.cell (i:=K) hK4
           have v1:=HA1.out.v.v
           obtain⟨y0,y1,y2,y3,y4,y5,y6,y7,y8⟩:=id v1
           have hst:=(HA1.out.grown ((Below.refl _ _).drew)).step pM.out (by have:=xU.out;omega) hK4 ha (by have:=lY.out;have:=rq.out;omega)
           have kG:Hid (al K=true):=ha
           clear ha v1
           go_cut [104] from 66 to 121 (fun kv wx=>∃ d:Bool,kv=.bool (!d)/\1<=V/\((d=false/\Qx w wx L E Wb Db (K:Int) kd k (M0+i+1) lb (fun a=>!al a) al Zi (V - 1))\/(d=true/\∃ (b st:Nat) (S2:Lr),ZH wx (lb K) (.pointer none) S2/\S2.kd≠0/\S2.nx=13/\S2.cE=0/\S2.cH=0/\S2.cV=(b:Nat)/\S2.cS=(st:Nat)/\lb K≠Db/\Qx w wx L E Wb Db (K:Int) kd k (M0+i+1) lb (fun a=>!al a) (upd al K false) (Zi+b) (V - 1))))
           case first =>
            go_region_with (go_at_call 15;refine hst.mono ?_;rintro e w6 ⟨d,rfl,hV1,o6,H6⟩)
            all_goals (go_wp2_with fail;go_meet;exact⟨d,rfl,hV1,H6⟩)
           case rest =>
           obtain⟨d,rfl,hV1,H6⟩:=hcut
           clear hst y0 y1 y2 y3 y4 y5 y6 y7 y8 hd0 hd1 hw0 HA1
           rcases H6 with⟨rfl,A6⟩ | ⟨rfl,b,st,S2,lr,q1,q2,q3,q4,q5,q6,hne,A6⟩
           . have ui:Hid (Tm (i+1) (V - 1) al):=HT.out.1.step hV1 (fun _ h=>h)
             have kF:Hid (Qx w wc L E Wb Db (K:Int) kd k (M0+i+1) lb (fun a=>!al a) al Zi (V - 1)):=A6
             clear A6 hV1
             go_wp2
             go_roundg g
             case measure=>omega
             case rel=>exact⟨i+1,Zi,lf,V - 1,K,al,by have:=rq.out;omega,rfl,rfl,by go_num,HK.out.1,HT.out.2.1,ui.out,kF.out.up (by omega)⟩
           . have h1:=A6.pg
             have ui:Hid (Tm (i+1) (V - 1) (upd al K false)):=HT.out.1.step hV1 (fun a h=>by
              by_cases e:a=K
              . rw[e,upd_same] at h;cases h
              . rw[Z9 _ _ _ _ e] at h;exact h)
             have hln:=EC hK4 kG.out
             rw[HT.out.2.1] at hln
             have lW:Hid (ED (upd al K false)+1=lf):=hln
             have QD:=fun(W:World) (h:ZH W (lb K) (.pointer none) S2)=>PD h q1 q2
             rw[q3,q4,q5,q6] at QD
             have hd0:=A6.dr.cell (i:=K) hK4
             have hd1:=A6.dr.frozen K
             have A7:=A6.uh K true
             have qZ:ZH (wc.setCell ⟨Db,K,none⟩ (.bool true)) (lb K) (.pointer none) S2:=lr.only ((Only.refl (fun y=>y=Db) wc).setCell (a:=⟨Db,K,none⟩) (fun _=>rfl) _) hne
             have qY:Hid (Qx w (wc.setCell ⟨Db,K,none⟩ (.bool true)) L E Wb Db (K:Int) kd k (M0+i+1) lb (fun a=>!(upd al K false a)) (upd al K false) (Zi+b) (V - 1)):=A7.as (funext fun a=>by
              by_cases e:a=K
              . rw[e,upd_same,upd_same];rfl
              . rw[Z9 _ _ _ _ e,Z9 _ _ _ _ e]) rfl
             clear A7 A6 hV1 hln lr q1 q2 q3 q4 q5 q6 hne
             go_upto_region 28 with fail
             clear hd0 hd1
             generalize wc.setCell ⟨Db,K,none⟩ (.bool true)=w7 at qY qZ ⊢
             have hw0:=qY.out.ar.cell (i:=K) hK4
             have h1b:(Zi:Int)+(b:Int)<=1:=by omega
             have kE:(0:Int)<=(Zi:Int):=by omega
             have kD:(0:Int)<=(b:Int):=by omega
             clear h1
             go_upto_if 114 with(go_at_call 16;refine(QD _ qZ).mono ?_;rintro e w8 ⟨rfl,b8⟩;have A8:=qY.out.grown b8;have lV:=qZ.grown b8;have hw8:=A8.ar.cell (i:=K) hK4;have lU:Hid (Qx w w8 L E Wb Db (K:Int) kd k (M0+i+1) lb (fun a=>!(upd al K false a)) (upd al K false) (Zi+b) (V - 1)):=A8;clear A8)
             clear hw0 qY qZ
             go_wp2_with (go_at_call 16;refine(QD _ lV).mono ?_;rintro e w9 ⟨rfl,b9⟩;have A9:=lU.out.grown b9;have kC:Hid (Qx w w9 L E Wb Db (K:Int) kd k (M0+i+1) lb (fun a=>!(upd al K false a)) (upd al K false) (Zi+b) (V - 1)):=A9;clear A9)
             clear hw8 lU lV b8 b9 QD
             go_roundg g
             case measure=>omega
             case rel=>exact⟨i+1,Zi+b,lf - 1,V - 1,K,upd al K false,by have:=rq.out;omega,by first | rfl | go_num,by first | exact congrArg (Value.int .i64) (by have:=lW.out;omega) | go_num,by go_num,HK.out.1,by have:=lW.out;omega,ui.out,kC.out.up (by omega)⟩
        . skip
          obtain⟨hl0,hal⟩:=HA.out.all HT.out.1 HT.out.2.1 (by omega)
          obtain⟨hw1,zz,Qz,yj⟩:=HA.out.end_ hal
          subst hl0 hw1
          have v':=HA.out.v
          have HV:Hid (XB wr E 4 30 12 40 100 600 3 L.p (K0:Int)):=v'
          have HB:Hid (Below w.heap.size w wr):=HA.out.bw
          have hM:M0+i+1950<1000000:=by have:=lY.out;omega
          have hq:=Qz K0
          have y0:=v'.v.c0
          have y1:=v'.v.c1
          have y2:=v'.v.c2
          have y3:=v'.v.c3
          have y4:=v'.v.c4
          have y5:=v'.v.c5
          have y6:=v'.v.c6
          have y7:=v'.v.c7
          have y8:=v'.v.c8
          have HKK:Hid (K0<4):=HT.out.2.2
          clear HA HT v' Qz hal
          obtain⟨hkd,-⟩:=l9.out
          cases rm with
          | true =>
           have hkd:kd=3:=hkd
           have hask:=hq.ask (kd:=1) (k:=k) (b:=false) (v:=0) (by decide) (by decide) (by decide) hM HKK.out (Or.inl rfl) xU.out (by rw[yj,hkd];rfl) (by decide) zH
           clear yj hq hM hig hend
           go_wp2_with (go_at_call 11;refine hask.mono ?_;rintro e w4 ⟨TK,rfl,o4,a4⟩;have b4:=UA HB.out o4 (fun x hx=>(xR.out x hx).1))
           all_goals (go_ret;exact⟨rfl,b4⟩)
          | false =>
           have hkd:kd=2:=hkd
           have hask:=hq.ask (kd:=1) (k:=k) (b:=true) (v:=1) (by decide) (by decide) (by decide) hM HKK.out (Or.inl rfl) xU.out (by rw[yj,hkd];rfl) (by decide) zH
           clear yj hq hM hig hend
           go_wp2_with (go_at_call 11;refine hask.mono ?_;rintro e w4 ⟨TK,rfl,o4,a4⟩;have b4:=UA HB.out o4 (fun x hx=>(xR.out x hx).1))
           all_goals (go_ret;exact⟨rfl,b4⟩)
end
end Go.Proofs.YtpbghmeikcphnaaGreat
