import Derived.Test.YtpbghmeikcphnaaGreatLstCnt
import Derived.Test.YtpbghmeikcphnaaGreatLstLinear
import Derived.Test.YtpbghmeikcphnaaGreatLstLeft
import Derived.Test.YtpbghmeikcphnaaGreatLstAwake
import Derived.Test.YtpbghmeikcphnaaGreatArgs
import Derived.Test.YtpbghmeikcphnaaGreatPlaceSee
import Derived.Deep.CutRange
namespace Go.Proofs.YtpbghmeikcphnaaGreat
open Go.RowKit
theorem J7 {P:Program} {ops:Array Oper} {rest:List Oper} {o:Oper} {a:Act} {Q:Exit->Act->World->Prop} {w w':World} {v vx v':Value} {t:TypeId} (hg:o.guard=none) (s x:Operand)
 (hop:o.op=Op.call { callee:=Callee.builtin Builtin.append,args:=#[s,x],argTypes:=#[t,t] }) (hs:a.eval s=v) (hx:a.eval x=vx)
 (hrun:(Builtin.append_ #[t,t] o.type #[v,vx]).run P w=.ok v' w') (hK:wpList P ops Q rest (a.put o.dst v') w'):wpList P ops Q (o :: rest) a w:=by
 refine wpList_plain hg fun K hK'=>?_
 unfold Oper.wp
 simp[execOp,hop,resolve,invoke,builtin,hs,hx,hrun,Result.andThen]
 exact hK' _ _ hK
theorem yL {w:World} {L:Loc} {s:Mm} (h:Z5 w L s) (c0 c1 c2 c3 c4 c5 c6 who x:Int) (hx:s.steps=x) :
 Calls Tryz.prog 14 #[.agg #[.int .i64 c0,.int .i64 c1,.int .i64 c2,.int .i64 c3,.int .i64 c4,.int .i64 c5,.int .i64 c6,.pointer (some ⟨L.p,0,none⟩),.int .i64 who]] w fun e w'=>e=.returned (.int .i64 x)/\Below w.heap.size w w':=by
 subst hx;exact Na h _ _ _ _ _ _ _ _
theorem D5 (z:Int):∃ K:Nat,(z.tmod 3+3).tmod 3=(K:Int)/\K<3/\-3<z.tmod 3/\z.tmod 3<3:=by
 have h1:-3<z.tmod 3:=Int.lt_tmod_of_pos z (by omega)
 have h3:z.tmod 3<3:=Int.tmod_lt_of_pos z (by omega)
 have h4:=Int.emod_nonneg (z.tmod 3+3) (b:=3) (by omega)
 have h5:=Int.emod_lt_of_pos (z.tmod 3+3) (b:=3) (by omega)
 exact⟨((z.tmod 3+3) % 3).toNat,by rw[Int.tmod_eq_emod_of_nonneg (by omega)];omega,by omega,h1,h3⟩
set_option maxRecDepth 20000 in
set_option maxHeartbeats 4000000 in
theorem Qz (ao:Option Addr) (n cap:Nat) (Q:W3) (po:Option Addr) (m wX:Nat) (P:Nat->Int) (w:World) (hA:Pv w ao n Q) (hP:Em .i64 w po m P):Calls Tryz.prog 4 #[.slice ao n cap,.slice po m wX] w fun e w'=>e=.returned (.bool true)/\Below w.heap.size w w':=by
 have jI:=fun w=>Pq (n:=40) (by decide) (by decide) w
 have eqN:∀ (w:World),(binOp .eql 42 (.pointer none) (.pointer none)).run Tryz.prog w=.ok (.bool true) w:=fun w=>by kernel_rfl
 have eqS:∀ (w:World) (a:Addr),(binOp .eql 42 (.pointer (some a)) (.pointer none)).run Tryz.prog w=.ok (.bool false) w:=fun w a=>by kernel_rfl
 have aQ:∀ (w:World),(binOp .neq 42 (.pointer none) (.pointer none)).run Tryz.prog w=.ok (.bool false) w:=fun w=>by kernel_rfl
 have aP:∀ (w:World) (a:Addr),(binOp .neq 42 (.pointer (some a)) (.pointer none)).run Tryz.prog w=.ok (.bool true) w:=fun w a=>by kernel_rfl
 go_enter Tryz.func4,Tryz.ntmps4
 go_wp2_with (first
  | (go_at_call 9;refine(jI _).mono ?_;rintro e w1 ⟨L,s,σ0,F0,rfl,R0,b1,l1,hσ,-⟩;have HR:Hid (Rest 4 40 L 0 97 1 w1 s σ0 (qH 4 40 12 40 F0) (fun _=>0) (DZ 4 40 12 40) (fun _=>.nil) 0 [0] wW (fun _=>none)):=R0 0 97 (by decide);clear R0;have vN:VQ (w1.alloc (.cells #[.int .i64 4,.int .i64 40,.int .i64 12,.int .i64 40,.int .i64 100,.int .i64 600,.int .i64 3,.pointer (some ⟨L.p,0,none⟩),.int .i64 0] 27)) w1.heap.size L 0:=Go.Deep.blk_alloc_new _ _)
  | (go_at_call 10;refine(ML _).mono ?_;rintro e w3 ⟨rfl,b3⟩;have v3:=vN.grown b3)
  | (refine wpList_store_mid rfl 46 (.tmp 9) (.tmp 29) rfl (w3.heap.size+1) 0 Ou rfl rfl (DY w3) (by kernel_rfl) (by simp[Ou,Value.oneCell']) ?_;show wpList Tryz.prog _ _ _ _ (DX w3);simp only[Act.put];obtain⟨W5,mG⟩:∃ W,DX w3=W:=⟨_,rfl⟩;rw[mG]))
 skip
 skip
 obtain⟨E,hE⟩:∃ E,w1.heap.size=E:=⟨_,rfl⟩
 have g4:Below w1.heap.size w1 w3:=grow (ZY w1 (.cells #[.int .i64 4,.int .i64 40,.int .i64 12,.int .i64 40,.int .i64 100,.int .i64 600,.int .i64 3,.pointer (some ⟨L.p,0,none⟩),.int .i64 0] 27)) b3
 have R4:Rest 4 40 L 0 97 1 w3 s σ0 (qH 4 40 12 40 F0) (fun _=>0) (DZ 4 40 12 40) (fun _=>.nil) 0 [0] wW (fun _=>none):=by
  have R:=HR.out
  exact⟨R.mm.below g4,R.vl,R.lc,R.nn,R.room,R.hJ,R.pn,R.td⟩
 have b4:=grow b1 g4
 have hl:∀ x,L.has x->w.heap.size<=x/\x<E:=fun x hx=>⟨l1 x hx,by rw[<- hE];exact HR.out.mm.lt x hx⟩
 have jH:w.heap.size<=E:=by have:=b1.size;omega
 rw[hE] at v3
 have jG:=X8 v3
 obtain⟨oV,H0⟩:=DW (w0:=w) (fun i=>(((Q.who i).tmod 3+3).tmod 3).toNat) R4 v3 b4 hl jH hσ
 rw[mG] at oV H0
 obtain⟨Wb,mF⟩:∃ x,w3.heap.size=x:=⟨_,rfl⟩
 obtain⟨Nb,hNb⟩:∃ x,Wb+1=x:=⟨_,rfl⟩
 rw[mF] at oV H0
 rw[hNb,<- oV,show Wb+3=W5.heap.size+1 by omega] at H0
 obtain⟨b0,hb0⟩:∃ x,W5.heap.size=x:=⟨_,rfl⟩
 obtain⟨Tb,mD⟩:∃ x,b0+1=x:=⟨_,rfl⟩
 rw[hb0,mD] at H0
 have S0:Hid (Hd (fun i=>(((Q.who i).tmod 3+3).tmod 3).toNat) w ((W5.alloc (.cells #[] 45)).alloc (.cells #[.int .i64 0,.int .i64 0,.int .i64 0] 47)) L E Wb Nb Tb b0 0 0 0 σ0 600):=H0
 have gQ:Hid (σ0<=600):=hσ
 clear H0 R4 v3 b4 hl jH jG g4 HR vN b3 b1 l1 jI hσ
 simp only[hE,mF,hNb,hb0,mD]
 clear hE mF hNb hb0 mD oV mG
 generalize ((W5.alloc (.cells #[] 45)).alloc (.cells #[.int .i64 0,.int .i64 0,.int .i64 0] 47))=w4 at S0 ⊢
 go_loopg [11,12,13] 60000 (fun g av dv iv wx=>∃ (i yK N b c:Nat) (who:Int),i+g=60000/\av=.slice (some ⟨b,0,none⟩) N c/\dv=.int .i64 yK/\iv=.int .i64 i/\yK<=30/\Hd (fun i=>(((Q.who i).tmod 3+3).tmod 3).toNat) w wx L E Wb Nb Tb b c N who σ0 (600+i))
 case atStart=>exact⟨0,0,0,b0,0,0,by omega,rfl,rfl,rfl,Nat.zero_le _,S0.out⟩
 case round =>
  clear S0
  obtain⟨i,yK,N,b,c,who,hig,rfl,rfl,rfl,rM,HD0⟩:=hrel
  obtain⟨σ,bg,ts,lb,pp,nw,nx,D,A0,rJ,hσ,hbg,hnx,hab⟩:=HD0
  have HA:Hid (Y2 w wr L E Wb Nb Tb b c who σ0 σ bg ts lb pp nw nx D D):=A0
  have HS:Hid (D.length=N/\σ<=600+i/\bg<=KY (fun i=>(((Q.who i).tmod 3+3).tmod 3).toNat) nx/\(∀ a,a<3->nx a<=30)/\J6 ts pp nw):=⟨rJ,hσ,hbg,hnx,hab⟩
  have hNb:(N:Int)<=100:=by
   obtain⟨s,q,pn,h,jb,F,u,rn,P,S⟩:=A0
   have h1:=S.ln
   have h2:=Ot (fun i=>(((Q.who i).tmod 3+3).tmod 3).toNat) nx
   omega
  clear A0 rJ hσ hbg hnx hab
  by_cases hend:(i:Int)<60000/\(yK:Int)<30
  . obtain⟨mr,rH⟩:=hend
    cases gk with
    | zero=>omega
    | succ g =>
    have mi:(0:Int)<=(i:Int):=by omega
    go_upto_region 11 with fail
    go_cut [50] from 43 to 50 (fun kv wx=>∃ bb:Bool,kv=.bool bb/\(bb=true->i<m/\i<3000)/\wr=wx)
    case first =>
     by_cases hp2:(i:Int)<(m:Int)
     . by_cases hp3:(i:Int)<3000
       . go_wp2
         go_meet
         exact⟨true,rfl,fun _=>by omega,rfl⟩
       . go_wp2
         go_meet
         exact⟨false,rfl,fun h=>by(cases h),rfl⟩
     . go_wp2
       go_meet
       exact⟨false,rfl,fun h=>by(cases h),rfl⟩
    case rest =>
    obtain⟨bb,rfl,hbb,rfl⟩:=hcut
    go_upto_if 50 with fail
    go_cut [14] from 32 to 171 (fun kv wx=>∃ K:Nat,kv=.int .i64 K/\K<3/\wr=wx)
    case first =>
     have hq:((i:Int).tdiv 7).tmod 3=((i / 7 % 3:Nat):Int):=by rw[Int.tdiv_eq_ediv_of_nonneg (by omega),Int.tmod_eq_emod_of_nonneg (by omega)];omega
     cases bb with
     | false =>
      go_wp2
      go_meet
      exact⟨i / 7 % 3,congrArg (Value.int .i64) hq,by omega,rfl⟩
     | true =>
      obtain⟨hp2',gK⟩:=hbb rfl
      have hp2:(i:Int)<(m:Int):=by omega
      obtain⟨pb,aO,rfl,hw0⟩:=hP i (by omega)
      have c1:=keep' HA.out.lies.bw hw0
      obtain⟨K,hK,hK3,hk3,hk4⟩:=D5 (P i)
      generalize P i=qa at c1 hK hk3 hk4
      go_wp2
      go_meet
      exact⟨K,by first | rfl | exact congrArg (Value.int .i64) hK,hK3,rfl⟩
    case rest =>
     obtain⟨K,rfl,hK3,rfl⟩:=hcut
     obtain⟨rJ,hσ,hbg,hnx,hab⟩:=HS.out
     have DU:Hid (D.length=N):=rJ
     have J5:Hid (J6 ts pp nw):=hab
     have HN:Hid (bg<=KY (fun i=>(((Q.who i).tmod 3+3).tmod 3).toNat) nx/\(∀ a,a<3->nx a<=30)):=⟨hbg,hnx⟩
     have X:=HA.out.lies
     have e8:=ZX X.v (o:=8) rfl
     have ef:=X.v.fz 8
     have hK0:(0:Int)<=(K:Int):=by omega
     have gJ:(K:Int)<3:=by omega
     clear X hab hnx hbg rJ hbb bb HS
     go_upto_region 15 with fail
     have HA1:Hid (Y2 w (wr.setCell ⟨E,8,none⟩ (.int .i64 (K:Int))) L E Wb Nb Tb b c (K:Int) σ0 σ bg ts lb pp nw nx D D):=HA.out.wV (K:Int)
     clear HA e8 ef
     generalize wr.setCell ⟨E,8,none⟩ (.int .i64 (K:Int))=w1 at HA1 ⊢
     have hwc:=HA1.out.lies.ar.cell (i:=K) hK3
     go_cut [65] from 60 to 65 (fun tv wx=>∃ bb:Bool,tv=.bool bb/\(bb=true->ts K=none)/\(bb=false->∃ C rs,ts K=some (C,rs))/\w1=wx)
     case first =>
      cases hts:ts K with
      | none =>
       have hpp:=(J5.out K hK3).1 hts
       rw[hpp] at hwc
       go_wp2
       go_meet
       exact⟨true,rfl,fun _=>hts,fun h=>by(cases h),rfl⟩
      | some cr =>
       obtain⟨C,rs⟩:=cr
       have hpp:=HA1.out.ptr hts
       rw[hpp] at hwc
       go_wp2
       go_meet
       exact⟨false,rfl,fun h=>by(cases h),fun _=>⟨C,rs,hts⟩,rfl⟩
     case rest =>
     obtain⟨bb,rfl,hb1,hb2,rfl⟩:=hcut
     clear hwc
     go_upto_if 65 with fail
     go_cut [] from 32 to 171 (fun wx=>∃ (bg:Nat) (ts:Nat->Option (Cl × Option Rs)) (lb:Nat->Nat) (pp:Nat->Value) (nw:Nat->List Value) (nx:Nat->Nat) (C:Cl) (rs:Option Rs),Y2 w wx L E Wb Nb Tb b c (K:Int) σ0 σ bg ts lb pp nw nx D D/\ts K=some (C,rs)/\bg<=KY (fun i=>(((Q.who i).tmod 3+3).tmod 3).toNat) nx/\(∀ a,a<3->nx a<=30)/\J6 ts pp nw)
     case first =>
      cases bb with
      | false =>
       obtain⟨C,rs,hts⟩:=hb2 rfl
       go_wp2
       go_meet
       exact⟨bg,ts,lb,pp,nw,nx,C,rs,HA1.out,hts,HN.out.1,HN.out.2,J5.out⟩
      | true =>
       have hts:=hb1 rfl
       have gI:Hid (ts K=none):=hts
       have ET:Hid (i+(g+1)=60000/\yK<30/\(σ:Int)<=600+i):=⟨hig,by omega,by omega⟩
       clear hig mr rH rM hσ mi
       clear hb1 hb2 hts
       go_wp2
       go_loopg [] (30 - nx K) (fun g wx=>∃ nx':Nat->Nat,Y2 w wx L E Wb Nb Tb b c (K:Int) σ0 σ bg ts lb pp nw nx' D D/\nx' K+g=30/\bg<=KY (fun i=>(((Q.who i).tmod 3+3).tmod 3).toNat) nx'/\(∀ a,a<3->nx' a<=30))
       case atStart=>exact⟨nx,HA1.out,by have:=HN.out.2 K hK3;omega,HN.out.1,HN.out.2⟩
       case round =>
        clear HA1 HN
        obtain⟨nx',A2,hgk,hbg,hnx⟩:=hrel
        have HA2:Hid (Y2 w wr L E Wb Nb Tb b c (K:Int) σ0 σ bg ts lb pp nw nx' D D):=A2
        have HB:Hid (bg<=KY (fun i=>(((Q.who i).tmod 3+3).tmod 3).toNat) nx'/\(∀ a,a<3->nx' a<=30)):=⟨hbg,hnx⟩
        obtain⟨m',hm⟩:∃ x,nx' K=x:=⟨_,rfl⟩
        have z0:wr.cell? ⟨Tb,K,none⟩=some (.int .i64 (m':Nat)):=by have:=A2.lies.tr.cell (i:=K) hK3;rwa [hm] at this
        have z1:=A2.lies.tr.frozen K
        have gG:m'<=30:=by omega
        have HM:Hid (nx' K=m'):=hm
        have HG:Hid (m'+gk=30):=by rw[<- hm];exact hgk
        clear A2 hbg hnx hgk hm
        by_cases h1:(m':Int)<(n:Int)
        . obtain⟨ab,ao',rfl,hw0,hw1,hw2⟩:=hA m' (by omega)
          have c0:=keep' HA2.out.lies.bw hw0
          have c1:=keep' HA2.out.lies.bw hw1
          have c2:=keep' HA2.out.lies.bw hw2
          clear hw0 hw1 hw2
          have gz:(0:Int)<=(m':Int):=by omega
          by_cases h2:(m':Int)<30
          . obtain⟨K',hK',gy,hk3,hk4⟩:=D5 (Q.who m')
            have gu:Hid ((fun i=>(((Q.who i).tmod 3+3).tmod 3).toNat) m'=K'):=by show (((Q.who m').tmod 3+3).tmod 3).toNat=K';rw[hK'];rfl
            generalize hqa:Q.who m'=qa at c0 hK' hk3 hk4
            clear hqa
            by_cases h3:K'=K
            . skip
              have h3:=h3.symm
              subst h3
              obtain⟨K2,hK2,rG,hk5,hk6⟩:=D5 (Q.kd m')
              obtain⟨ky,hky,mf⟩:=mX (Q.ky m') 7 3 (by decide) (by decide)
              generalize Q.kd m'=qb at c1 hK2 hk5 hk6
              generalize Q.ky m'=qc at c2 hky
              go_upto_region 23 with fail
              have hkd:(1+(K2:Int))=1\/(1+(K2:Int))=2\/(1+(K2:Int))=3:=by omega
              have hk8:ky<8:=by omega
              have l9:Hid (Ui (1+(K2:Int)) (ky:Nat)=true):=Iq hkd (by omega) (by omega)
              have HKB:Hid (((1+(K2:Int))=1\/(1+(K2:Int))=2\/(1+(K2:Int))=3)/\ky<8/\K2<3):=⟨hkd,hk8,rG⟩
              have AW:=At.new wr 34 [.int .i64 qa,.int .i64 (1+(K2:Int)),.int .i64 ky]
              have gW:=ZY wr (.cells #[.int .i64 qa,.int .i64 (1+(K2:Int)),.int .i64 ky] 34)
              have lZ:=HA2.out.lies
              have hbz:Tb<wr.heap.size/\Wb<wr.heap.size:=⟨lZ.tr.lt,lZ.ar.lt⟩
              obtain⟨Bw,hBw⟩:∃ x,wr.heap.size=x:=⟨_,rfl⟩
              rw[hBw] at hbz
              simp only[hBw] at AW ⊢
              generalize wr.alloc (.cells #[.int .i64 qa,.int .i64 (1+(K2:Int)),.int .i64 ky] 34)=wa at AW gW ⊢
              have A3:=HA2.out.grown gW
              clear hBw gW lZ c0 c1 c2 z0 z1 hkd hk8 hK2 rG hk5 hk6 hky mf hk3 hk4 hK'
              have z0:wa.cell? ⟨Tb,K,none⟩=some (.int .i64 (m':Nat)):=by have:=A3.lies.tr.cell (i:=K) hK3;rwa [HM.out] at this
              have z1:=A3.lies.tr.frozen K
              have oU:Hid (Y2 w wa L E Wb Nb Tb b c (K:Int) σ0 σ bg ts lb pp nw nx' D D):=A3
              have jE:Hid (∃ c,At wa Bw 0 34 c [.int .i64 qa,.int .i64 (1+(K2:Int)),.int .i64 ky]):=⟨_,AW⟩
              have rF:Hid (Tb<Bw/\Wb<Bw):=hbz
              clear A3 AW hbz
              go_upto_region 24 with fail
              obtain⟨cw,AW⟩:=jE.out
              have A4:Y2 w (wa.setCell ⟨Tb,K,none⟩ (.int .i64 ((m':Int)+1))) L E Wb Nb Tb b c (K:Int) σ0 σ bg ts lb pp nw (upd nx' K (m'+1)) D D:=oU.out.yJ K (m'+1)
              have yI:At (wa.setCell ⟨Tb,K,none⟩ (.int .i64 ((m':Int)+1))) Bw 0 34 cw [.int .i64 qa,.int .i64 (1+(K2:Int)),.int .i64 ky]:=AW.other (by have:=rF.out;omega) K _
              clear z0 z1 oU jE AW
              generalize wa.setCell ⟨Tb,K,none⟩ (.int .i64 ((m':Int)+1))=wb at A4 yI ⊢
              have oQ:Hid (Y2 w wb L E Wb Nb Tb b c (K:Int) σ0 σ bg ts lb pp nw (upd nx' K (m'+1)) D D):=A4
              have jD:Hid (∃ c,At wb Bw 0 34 c [.int .i64 qa,.int .i64 (1+(K2:Int)),.int .i64 ky]):=⟨_,yI⟩
              have y1:=yI.at0 1 rfl
              have y2:=yI.at0 2 rfl
              clear A4 yI
              go_upto_region 25 with(go_at_call 13;refine(MK (1+(K2:Int)) ky 65536 l9.out _).mono ?_;rintro e w4 ⟨bN,rfl,lr,gN,hbN⟩;have hz0:=(oQ.out.grown gN).lies.ar.cell (i:=K) hK3;have hz1:=(oQ.out.grown gN).lies.ar.frozen K)
              have A5:=oQ.out.begin hK3 gI.out (Nat.le_trans HB.out.1 (Ot _ _)) HKB.out.1 HKB.out.2.1 gN hbN lr
              obtain⟨cw,yI⟩:=jD.out
              have lY:=(yI.grown gN).other (k:=Wb) (by have:=rF.out;omega) K (.pointer (some ⟨bN,0,none⟩))
              clear y1 y2 hz0 hz1 oQ jD yI lr gN hbN HA2
              generalize w4.setCell ⟨Wb,K,none⟩ (.pointer (some ⟨bN,0,none⟩))=w5 at A5 lY ⊢
              have oP:Hid (Y2 w w5 L E Wb Nb Tb b c (K:Int) σ0 σ (bg+1) (upd ts K (some (⟨1+(K2:Int),ky,σ,none,.first⟩,none))) (upd lb K bN) (upd pp K (.pointer (some ⟨bN,0,none⟩))) nw (upd nx' K (m'+1)) D D):=A5
              have jC:Hid (At w5 Bw 0 34 cw [.int .i64 qa,.int .i64 (1+(K2:Int)),.int .i64 ky]):=lY
              clear A5 lY
              refine Zm Grown 6 [.val (.int .i64 (K:Int)),.val (.agg #[.int .i64 qa,.int .i64 (1+(K2:Int)),.int .i64 ky]),.val (.agg #[.int .i64 4,.int .i64 40,.int .i64 12,.int .i64 40,.int .i64 100,.int .i64 600,.int .i64 3,.pointer (some ⟨L.p,0,none⟩),.int .i64 (K:Int)]),.val (.int .i64 (σ:Nat)),.val (.agg #[.int .i64 qa,.int .i64 (1+(K2:Int)),.int .i64 ky,.int .i64 0,.int .u64 0,.int .i64 0,.int .i64 0,.int .i64 (σ:Nat),.int .i64 0]),.val (.pointer (some ⟨Nb,K * 9,none⟩))] (by kernel_rfl) Grown.refl Grown.trans (by decide) (by kernel_rfl) (by kernel_rfl) (by kernel_rfl) (by kernel_rfl) (by kernel_rfl) (by kernel_rfl) ?_
              simp only[List.take_succ_cons,List.take_zero,ZH,Act.put,List.setIfInBounds_toArray,List.set_cons_zero,List.set_cons_succ]
              refine⟨?_,?_,?_,?_,?_,?_,?_⟩
              . intros;apply ol;go_simp;exact gl
              . intro w' hg _
                apply ol
                have ya:=(jC.out.grown ((Below.refl _ _).drew)).grown hg
                have y0:=ya.at0 0 rfl
                have y1:=ya.at0 1 rfl
                have y2:=ya.at0 2 rfl
                go_simp
                exact gl
              . intro w' hg _
                apply ol
                have vv:=(oP.out.grown ((Below.refl _ _).drew)).grown hg
                have vv:=vv.lies.v
                have y0:=ZX vv (o:=0) rfl
                have y1:=ZX vv (o:=1) rfl
                have y2:=ZX vv (o:=2) rfl
                have y3:=ZX vv (o:=3) rfl
                have y4:=ZX vv (o:=4) rfl
                have y5:=ZX vv (o:=5) rfl
                have y6:=ZX vv (o:=6) rfl
                have y7:=ZX vv (o:=7) rfl
                have y8:=ZX vv (o:=8) rfl
                go_simp
                exact gl
              . intro w' hg _
                apply ol
                obtain⟨s9,lX,hs9⟩:=((oP.out.grown ((Below.refl _ _).drew)).grown hg).now
                go_simp
                refine(yL lX _ _ _ _ _ _ _ _ _ hs9).mono ?_
                rintro e w'' ⟨rfl,b9⟩
                exact⟨_,rfl,b9,rfl⟩
              . intros;apply ol;go_simp;exact gl
              . intros;apply ol;go_simp;exact gl
              intro w6 hg _
              have A6:=(oP.out.grown ((Below.refl _ _).drew)).grown hg
              clear hg oP jC
              refine wpList_store_mid rfl 45 (.tmp 149) (.tmp 148) rfl Nb (K * 9) #[.int .i64 qa,.int .i64 (1+(K2:Int)),.int .i64 ky,.int .i64 0,.int .u64 0,.int .i64 0,.int .i64 0,.int .i64 (σ:Nat),.int .i64 0] rfl rfl (A6.lies.nr.there hK3) (by kernel_rfl) (by simp[Value.oneCell']) ?_
              have A7:=A6.rE hK3 (e:=[.int .i64 qa,.int .i64 (1+(K2:Int)),.int .i64 ky,.int .i64 0,.int .u64 0,.int .i64 0,.int .i64 0,.int .i64 (σ:Nat),.int .i64 0]) rfl
              show wpList Tryz.prog _ _ _ _ (w6.setCells Nb (K * 9) [.int .i64 qa,.int .i64 (1+(K2:Int)),.int .i64 ky,.int .i64 0,.int .u64 0,.int .i64 0,.int .i64 0,.int .i64 (σ:Nat),.int .i64 0])
              clear A6
              generalize w6.setCells Nb (K * 9) [.int .i64 qa,.int .i64 (1+(K2:Int)),.int .i64 ky,.int .i64 0,.int .u64 0,.int .i64 0,.int .i64 0,.int .i64 (σ:Nat),.int .i64 0]=w7 at A7 ⊢
              have gq:Hid (Y2 w w7 L E Wb Nb Tb b c (K:Int) σ0 σ (bg+1) (upd ts K (some (⟨1+(K2:Int),ky,σ,none,.first⟩,none))) (upd lb K bN) (upd pp K (.pointer (some ⟨bN,0,none⟩))) (upd nw K [.int .i64 qa,.int .i64 (1+(K2:Int)),.int .i64 ky,.int .i64 0,.int .u64 0,.int .i64 0,.int .i64 0,.int .i64 (σ:Nat),.int .i64 0]) (upd nx' K (m'+1)) D D):=A7
              clear A7
              simp only[Act.put]
              go_wp2
              go_meet
              exact⟨bg+1,_,_,_,_,_,_,_,gq.out,upd_same _ _ _,(by have:=zZ (W:=(fun i=>(((Q.who i).tmod 3+3).tmod 3).toNat)) (nx:=nx') hK3 (by rw[HM.out];omega) (by rw[HM.out];exact gu.out);rw[HM.out] at this;exact Nat.le_trans (Nat.succ_le_succ HB.out.1) this),(fun a ha=>by
               by_cases e:a=K
               . rw[e,upd_same];omega
               . rw[Z9 _ _ _ _ e];exact HB.out.2 a ha),J5.out.begin HKB.out.1 HKB.out.2.1⟩
            . have h3':¬ (K':Int)=(K:Int):=by omega
              have oU:Hid (Y2 w (wr.setCell ⟨Tb,K,none⟩ (.int .i64 ((m':Int)+1))) L E Wb Nb Tb b c (K:Int) σ0 σ bg ts lb pp nw (upd nx' K (m'+1)) D D):=HA2.out.yJ K (m'+1)
              have HB3:Hid (bg<=KY (fun i=>(((Q.who i).tmod 3+3).tmod 3).toNat) (upd nx' K (m'+1))/\(∀ a,a<3->upd nx' K (m'+1) a<=30)):=⟨by have:=wU (W:=(fun i=>(((Q.who i).tmod 3+3).tmod 3).toNat)) (nx:=nx') hK3;rw[HM.out] at this;exact Nat.le_trans HB.out.1 this,fun a ha=>by
               by_cases e:a=K
               . rw[e,upd_same];omega
               . rw[Z9 _ _ _ _ e];exact HB.out.2 a ha⟩
              go_wp2
              go_roundg (gk - 1)
              case measure=>have:=HG.out;omega
              case rel=>exact⟨_,oU.out,by have:=HG.out;rw[upd_same];omega,HB3.out⟩
          . skip
            by_cases h30:(i:Int)<3000
            . go_wp2
              have HD1:Hid (Hd (fun i=>(((Q.who i).tmod 3+3).tmod 3).toNat) w wr L E Wb Nb Tb b c N (K:Int) σ0 (600+(i+1))):=⟨σ,bg,ts,lb,pp,nw,nx',D,HA2.out,DU.out,by have:=ET.out.2.2;omega,HB.out.1,HB.out.2,J5.out⟩
              go_roundg g
              case measure=>omega
              case rel=>exact⟨i+1,0,N,b,c,(K:Int),by have:=ET.out.1;omega,rfl,rfl,by go_num,by omega,HD1.out⟩
            . go_wp2
              have HD1:Hid (Hd (fun i=>(((Q.who i).tmod 3+3).tmod 3).toNat) w wr L E Wb Nb Tb b c N (K:Int) σ0 (600+(i+1))):=⟨σ,bg,ts,lb,pp,nw,nx',D,HA2.out,DU.out,by have:=ET.out.2.2;omega,HB.out.1,HB.out.2,J5.out⟩
              go_roundg g
              case measure=>omega
              case rel =>
               have hw:wrap64 ((i:Int)+1)=(i:Int)+1:=IntWalk.wrap64_in _ ⟨by omega,by have:=ET.out.1;omega⟩
               exact⟨i+1,yK+1,N,b,c,(K:Int),by have:=ET.out.1;omega,rfl,by first | rfl | go_num,by first | rfl | (rw[hw];rfl) | go_num,by have:=ET.out.2.1;omega,HD1.out⟩
        . skip
          by_cases h30:(i:Int)<3000
          . go_wp2
            have HD1:Hid (Hd (fun i=>(((Q.who i).tmod 3+3).tmod 3).toNat) w wr L E Wb Nb Tb b c N (K:Int) σ0 (600+(i+1))):=⟨σ,bg,ts,lb,pp,nw,nx',D,HA2.out,DU.out,by have:=ET.out.2.2;omega,HB.out.1,HB.out.2,J5.out⟩
            go_roundg g
            case measure=>omega
            case rel=>exact⟨i+1,0,N,b,c,(K:Int),by have:=ET.out.1;omega,rfl,rfl,by go_num,by omega,HD1.out⟩
          . go_wp2
            have HD1:Hid (Hd (fun i=>(((Q.who i).tmod 3+3).tmod 3).toNat) w wr L E Wb Nb Tb b c N (K:Int) σ0 (600+(i+1))):=⟨σ,bg,ts,lb,pp,nw,nx',D,HA2.out,DU.out,by have:=ET.out.2.2;omega,HB.out.1,HB.out.2,J5.out⟩
            go_roundg g
            case measure=>omega
            case rel =>
             have hw:wrap64 ((i:Int)+1)=(i:Int)+1:=IntWalk.wrap64_in _ ⟨by omega,by have:=ET.out.1;omega⟩
             exact⟨i+1,yK+1,N,b,c,(K:Int),by have:=ET.out.1;omega,rfl,by first | rfl | go_num,by first | rfl | (rw[hw];rfl) | go_num,by have:=ET.out.2.1;omega,HD1.out⟩
     case rest =>
      clear HA1
      obtain⟨bg,ts,lb,pp,nw,nx,C,rs,A2,hts,hbg,hnx,hab⟩:=hcut
      have Ip:bg<=30:=Nat.le_trans hbg (Ot _ _)
      have HA2:Hid (Y2 w wc L E Wb Nb Tb b c (K:Int) σ0 σ bg ts lb pp nw nx D D):=A2
      have jB:Hid (pp K=.pointer (some ⟨lb K,0,none⟩)):=A2.ptr hts
      have HT:Hid (ts K=some (C,rs)/\bg<=KY (fun i=>(((Q.who i).tmod 3+3).tmod 3).toNat) nx/\(∀ a,a<3->nx a<=30)/\J6 ts pp nw/\σ<=600+i):=⟨hts,hbg,hnx,hab,hσ⟩
      clear A2 hts hbg hnx hab
      go_upto_region 27 with fail
      refine Zm Grown 4 [.val (.int .i64 (K:Int)),.val (.pointer (some ⟨Wb,K,none⟩)),.val (.pointer (some ⟨lb K,0,none⟩)),.val (.agg #[.int .i64 4,.int .i64 40,.int .i64 12,.int .i64 40,.int .i64 100,.int .i64 600,.int .i64 3,.pointer (some ⟨L.p,0,none⟩),.int .i64 (K:Int)])] (by kernel_rfl) Grown.refl Grown.trans (by decide) (by kernel_rfl) (by kernel_rfl) (by kernel_rfl) (by kernel_rfl) (by kernel_rfl) (by kernel_rfl) ?_
      simp only[List.take_succ_cons,List.take_zero,ZH,Act.put,List.setIfInBounds_toArray,List.set_cons_zero,List.set_cons_succ]
      refine⟨?_,?_,?_,?_,?_⟩
      . intros;apply ol;go_simp;exact gl
      . intros;apply ol;go_simp;exact gl
      . intro w' hg _
        apply ol
        have zz:=((HA2.out.grown ((Below.refl _ _).drew)).grown hg).lies.ar.cell (i:=K) hK3
        rw[jB.out] at zz
        go_simp
        exact gl
      . intro w' hg _
        apply ol
        have vv:=(HA2.out.grown ((Below.refl _ _).drew)).grown hg
        have vv:=vv.lies.v
        have y0:=ZX vv (o:=0) rfl
        have y1:=ZX vv (o:=1) rfl
        have y2:=ZX vv (o:=2) rfl
        have y3:=ZX vv (o:=3) rfl
        have y4:=ZX vv (o:=4) rfl
        have y5:=ZX vv (o:=5) rfl
        have y6:=ZX vv (o:=6) rfl
        have y7:=ZX vv (o:=7) rfl
        have y8:=ZX vv (o:=8) rfl
        go_simp
        exact gl
      intro w5 hg _
      have A5:=(HA2.out.grown ((Below.refl _ _).drew)).grown hg
      go_upto_if 154 with(go_at_call 15;refine(A5.step hK3 Ip (by omega) HT.out.1).mono ?_;rintro e w6 ⟨d,rfl,o6,H6⟩)
      obtain⟨hts,hbg,hnx,hab,rD⟩:=HT.out
      rcases H6 with⟨rfl,ts',A6,rC,C',r',h6,hk1,hk2,hk3⟩ | ⟨rfl,ts',v6,st,S2,ky,rC,h6,lr,q1,q2,q3,q4,q5,q6,q7,A6⟩
      . have HD1:Hid (Hd (fun i=>(((Q.who i).tmod 3+3).tmod 3).toNat) w w6 L E Wb Nb Tb b c N (K:Int) σ0 (600+(i+1))):=⟨σ+1,bg,ts',lb,pp,nw,nx,D,A6,DU.out,by omega,hbg,hnx,hab.go hK3 rC hts h6 hk1 hk2 hk3⟩
        clear A6 A5 hab rC h6 hts HT HA2 o6
        go_wp2
        go_roundg g
        case measure=>omega
        case rel=>exact⟨i+1,0,N,b,c,(K:Int),by omega,rfl,rfl,by go_num,by omega,HD1.out⟩
      . skip
        obtain⟨hkd,wh,k8,hk8,gp,hnw⟩:=(hab K hK3).2 C rs hts
        have eK:k8=ky:=by omega
        subst eK
        have A7:=A6 wh
        have a7:=A7.lies
        have QD:=fun(W:World) (h:ZF W (lb K) (.pointer none) S2)=>Pn h q1 q2
        rw[q3,q4,q5,q6] at QD
        have gm:Hid _:=QD
        have z0:w6.cell? ⟨Nb,K * 9,none⟩=some (.int .i64 wh):=a7.nr.cell (a:=K) (j:=0) hK3 (by rw[hnw];rfl)
        have z1:w6.cell? ⟨Nb,K * 9+1,none⟩=some (.int .i64 C.kd):=a7.nr.cell (a:=K) (j:=1) hK3 (by rw[hnw];rfl)
        have z2:w6.cell? ⟨Nb,K * 9+2,none⟩=some (.int .i64 k8):=a7.nr.cell (a:=K) (j:=2) hK3 (by rw[hnw];rfl)
        have z3:w6.cell? ⟨Nb,K * 9+3,none⟩=some (.int .i64 0):=a7.nr.cell (a:=K) (j:=3) hK3 (by rw[hnw];rfl)
        have z4:w6.cell? ⟨Nb,K * 9+4,none⟩=some (.int .u64 0):=a7.nr.cell (a:=K) (j:=4) hK3 (by rw[hnw];rfl)
        have z5:w6.cell? ⟨Nb,K * 9+5,none⟩=some (.int .i64 0):=a7.nr.cell (a:=K) (j:=5) hK3 (by rw[hnw];rfl)
        have z6:w6.cell? ⟨Nb,K * 9+6,none⟩=some (.int .i64 0):=a7.nr.cell (a:=K) (j:=6) hK3 (by rw[hnw];rfl)
        have z7:w6.cell? ⟨Nb,K * 9+7,none⟩=some (.int .i64 C.b):=a7.nr.cell (a:=K) (j:=7) hK3 (by rw[hnw];rfl)
        have z8:w6.cell? ⟨Nb,K * 9+8,none⟩=some (.int .i64 0):=a7.nr.cell (a:=K) (j:=8) hK3 (by rw[hnw];rfl)
        clear A6 QD q1 q2 q3 q4 q5 q6 q7 gp A5 o6 HA2
        go_upto_region 29 with fail
        obtain⟨Xq,yH⟩:∃ x,w6.heap.size=x:=⟨_,rfl⟩
        have AX:=At.new w6 45 [.int .i64 wh,.int .i64 C.kd,.int .i64 k8,.int .i64 0,.int .u64 0,.int .i64 0,.int .i64 0,.int .i64 C.b,.int .i64 0]
        have gX:=ZY w6 (.cells #[.int .i64 wh,.int .i64 C.kd,.int .i64 k8,.int .i64 0,.int .u64 0,.int .i64 0,.int .i64 0,.int .i64 C.b,.int .i64 0] 45)
        simp only[yH] at AX ⊢
        generalize w6.alloc (.cells #[.int .i64 wh,.int .i64 C.kd,.int .i64 k8,.int .i64 0,.int .u64 0,.int .i64 0,.int .i64 0,.int .i64 C.b,.int .i64 0] 45)=w7 at AX gX ⊢
        have uJ:Hid (∀ W',Only (fun y=>y=Xq) w7.drew W'->Y2 w W' L E Wb Nb Tb b c (K:Int) σ0 (σ+1) bg ts' lb pp nw nx D (D ++ [⟨wh,C.kd,k8,v6,st,C.b,σ+1⟩])/\ZF W' (lb K) (.pointer none) S2):=fun W' hO=>by
         have g:Below w6.heap.size w6 W':=WZ (grow gX ((Below.refl _ _).drew)) hO (fun k hk=>by have hk:k=Xq:=hk;omega)
         exact⟨A7.grown g,lr.grown g⟩
        have wS:Hid ((∀ a,a≠K->ts' a=ts a)/\ts' K=none/\bg<=KY (fun i=>(((Q.who i).tmod 3+3).tmod 3).toNat) nx/\(∀ a,a<3->nx a<=30)/\J6 ts pp nw/\σ<=600+i):=⟨rC,h6,hbg,hnx,hab,rD⟩
        have hA:=AX.grown ((Below.refl _ _).drew)
        clear a7 A7 lr gX yH rC h6 hbg hnx hab rD HT z0 z1 z2 z3 z4 z5 z6 z7 z8 hnw
        refine YB (Only (fun y=>y=Xq)) Grown (lV Xq [.int .i64 wh,.int .i64 C.kd,.int .i64 k8,.int .i64 0,.int .u64 0,.int .i64 0,.int .i64 0,.int .i64 C.b,.int .i64 0] [.int .i64 wh,.int .i64 C.kd,.int .i64 k8,.int .i64 0,.int .u64 0,.int .i64 v6,.int .i64 st,.int .i64 C.b,.int .i64 0] [.int .i64 wh,.int .i64 C.kd,.int .i64 k8,.int .i64 0,.int .u64 0,.int .i64 v6,.int .i64 st,.int .i64 C.b,.int .i64 ((σ+1:Nat):Int)]) [7,9] [.val (.int .i64 (K:Int)),.val (.pointer (some ⟨Wb,K,none⟩)),.val (.pointer (some ⟨lb K,0,none⟩)),.val (.agg #[.int .i64 0,.int .u64 0,.int .i64 v6,.int .i64 st]),.val (.agg #[.int .i64 4,.int .i64 40,.int .i64 12,.int .i64 40,.int .i64 100,.int .i64 600,.int .i64 3,.pointer (some ⟨L.p,0,none⟩),.int .i64 (K:Int)]),.val (.int .i64 ((σ+1:Nat):Int)),.val (.pointer (some ⟨Xq,3,none⟩)),.that (fun _ _=>True) (fun _ _ _ _ _=>trivial),.val (.pointer (some ⟨Xq,8,none⟩)),.that (fun _ _=>True) (fun _ _ _ _ _=>trivial)] (by kernel_rfl) (Only.refl _) (fun _ _ _ h k=>h.trans k) (fun x y h=>Only.ZZ h) (fun x y p g h=>F6 Xq _ _ _ x y p g h) ⟨_,hA⟩ (by kernel_rfl) (by kernel_rfl) (by kernel_rfl) (by kernel_rfl) (by kernel_rfl) ?_
        simp only[Zr,Act.put,List.setIfInBounds_toArray,List.set_cons_zero,List.set_cons_succ]
        clear hA AX
        refine⟨?_,?_⟩
        . intros;apply ol;go_simp;exact gl
        refine⟨?_,?_⟩
        . intros;apply ol;go_simp;exact gl
        refine⟨?_,?_⟩
        . intro w' hR _
          apply ol
          have zz:=(uJ.out w' hR).1.lies.ar.cell (i:=K) hK3
          rw[jB.out] at zz
          go_simp
          exact gl
        refine⟨?_,?_⟩
        . intro w' hR _
          apply ol
          go_simp
          refine(gm.out w' (uJ.out w' hR).2).mono ?_
          rintro e w'' ⟨rfl,b9⟩
          exact⟨_,rfl,b9,rfl⟩
        refine⟨?_,?_⟩
        . intro w' hR _
          apply ol
          have vv:=(uJ.out w' hR).1.lies.v
          have y0:=ZX vv (o:=0) rfl
          have y1:=ZX vv (o:=1) rfl
          have y2:=ZX vv (o:=2) rfl
          have y3:=ZX vv (o:=3) rfl
          have y4:=ZX vv (o:=4) rfl
          have y5:=ZX vv (o:=5) rfl
          have y6:=ZX vv (o:=6) rfl
          have y7:=ZX vv (o:=7) rfl
          have y8:=ZX vv (o:=8) rfl
          go_simp
          exact gl
        refine⟨?_,?_⟩
        . intro w' hR _
          apply ol
          obtain⟨s9,lX,hs9⟩:=(uJ.out w' hR).1.now
          go_simp
          refine(yL lX _ _ _ _ _ _ _ _ _ hs9).mono ?_
          rintro e w'' ⟨rfl,b9⟩
          exact⟨_,rfl,b9,rfl⟩
        refine⟨?_,?_⟩
        . intros;apply ol;go_simp;exact gl
        refine⟨?_,?_⟩
        . intro w' hR _ hP
          apply ol
          obtain⟨cx,hP⟩:=hP
          have hP:At w' Xq 0 45 cx [.int .i64 wh,.int .i64 C.kd,.int .i64 k8,.int .i64 0,.int .u64 0,.int .i64 0,.int .i64 0,.int .i64 C.b,.int .i64 0]:=hP
          have z3:=hP.at0 3 rfl
          have z4:=hP.at0 4 rfl
          have z5:=hP.at0 5 rfl
          have z6:=hP.at0 6 rfl
          have zf:=hP.fz
          go_simp
          exact⟨⟨J4 _ _ _ _,ry hP _ _ _ _⟩,trivial⟩
        intro v7
        refine⟨?_,?_⟩
        . intros;apply ol;go_simp;exact gl
        refine⟨?_,?_⟩
        . intro w' hR _ hP
          apply ol
          obtain⟨cx,hP⟩:=hP
          have hP:At w' Xq 0 45 cx [.int .i64 wh,.int .i64 C.kd,.int .i64 k8,.int .i64 0,.int .u64 0,.int .i64 v6,.int .i64 st,.int .i64 C.b,.int .i64 0]:=hP
          have z8:=hP.at0 8 rfl
          have zf:=hP.fz
          go_simp
          exact⟨⟨(Only.refl (fun y=>y=Xq) w').setCell (a:=⟨Xq,8,none⟩) (fun _=>rfl) _,⟨_,hP.ZQ 8 _⟩⟩,trivial⟩
        intro v9 w9 hR hP hf
        clear hf
        have P9:=(uJ.out w9 hR).1
        obtain⟨c9,a9⟩:∃ c9,At w9 Xq 0 45 c9 [.int .i64 wh,.int .i64 C.kd,.int .i64 k8,.int .i64 0,.int .u64 0,.int .i64 v6,.int .i64 st,.int .i64 C.b,.int .i64 ((σ+1:Nat):Int)]:=hP
        clear hR uJ
        have z0:=a9.at0 0 rfl
        have z1:=a9.at0 1 rfl
        have z2:=a9.at0 2 rfl
        have z3:=a9.at0 3 rfl
        have z4:=a9.at0 4 rfl
        have z5:=a9.at0 5 rfl
        have z6:=a9.at0 6 rfl
        have z7:=a9.at0 7 rfl
        have z8:=a9.at0 8 rfl
        have AB:=At.new w9 45 [.int .i64 wh,.int .i64 C.kd,.int .i64 k8,.int .i64 0,.int .u64 0,.int .i64 v6,.int .i64 st,.int .i64 C.b,.int .i64 ((σ+1:Nat):Int)]
        have gB:=ZY w9 (.cells #[.int .i64 wh,.int .i64 C.kd,.int .i64 k8,.int .i64 0,.int .u64 0,.int .i64 v6,.int .i64 st,.int .i64 C.b,.int .i64 ((σ+1:Nat):Int)] 45)
        obtain⟨b',c',w10,hrun,lU,pg⟩:=(P9.grown gB).app (d:=⟨wh,C.kd,k8,v6,st,C.b,σ+1⟩) w9.heap.size (fun j x hx=>AB.at0 j hx) (by have:=DU.out;omega) DU.out
        have hz0:=lU.lies.ar.cell (i:=K) hK3
        have hz1:=lU.lies.ar.frozen K
        go_wp2_with (at_builtin;refine J7 rfl (.tmp 167) (.tmp 169) rfl rfl rfl hrun ?_)
        have HD1:Hid (Hd (fun i=>(((Q.who i).tmod 3+3).tmod 3).toNat) w (w10.setCell ⟨Wb,K,none⟩ (.pointer none)) L E Wb Nb Tb b' c' (N+1) (K:Int) σ0 (600+(i+1))):=⟨σ+1,bg,ts',lb,_,nw,nx,_,lU.ru wS.out.2.1 (.pointer none),by rw[List.length_append,DU.out];rfl,by have:=wS.out.2.2.2.2.2;omega,wS.out.2.2.1,wS.out.2.2.2.1,wS.out.2.2.2.2.1.done wS.out.1 wS.out.2.1⟩
        go_roundg g
        case measure=>omega
        case rel=>exact⟨i+1,0,N+1,b',c',(K:Int),by omega,rfl,rfl,by go_num,by omega,HD1.out⟩
  . skip
    go_upto_region 8 with fail
    go_cut [37] from 32 to 37 (fun v wx=>v=.bool false/\wr=wx)
    case first =>
     by_cases mr:(i:Int)<60000
     . have rH:¬ (yK:Int)<30:=fun h=>hend ⟨mr,h⟩
       go_wp2
       go_meet
       exact⟨rfl,rfl⟩
     . go_wp2
       go_meet
       exact⟨rfl,rfl⟩
    case rest =>
    obtain⟨rfl,rfl⟩:=hcut
    have DU:Hid (D.length=N):=HS.out.1
    have Ip:Hid (bg<=30/\σ<=100000):=by
     have h:=HS.out
     exact⟨Nat.le_trans h.2.2.1 (Ot _ _),by omega⟩
    have X:=HA.out.lies
    have hz0:=X.ar.cell (i:=0) (by decide)
    have hz1:=X.ar.cell (i:=1) (by decide)
    have hz2:=X.ar.cell (i:=2) (by decide)
    have hp:∀ a,a<3->pp a=.pointer none\/∃ x,pp a=.pointer (some x):=fun a ha=>by
     cases e:ts a with
     | none=>exact .inl ((HS.out.2.2.2.2 a ha).1 e)
     | some cr=>obtain⟨C,rs⟩:=cr;exact .inr ⟨_,HA.out.ptr e⟩
    clear hig hend rM X gQ
    rcases hp 0 (by decide) with p0 | ⟨x0,p0⟩
    . rcases hp 1 (by decide) with p1 | ⟨x1,p1⟩
      . rcases hp 2 (by decide) with p2 | ⟨x2,p2⟩
        . obtain⟨u,hD,jA⟩:=HA.out.end_ Ip.out.1 Ip.out.2 (fun a ha=>by
           have e:a=0\/a=1\/a=2:=by omega
           rcases e with rfl | rfl | rfl
           . exact p0
           . exact p1
           . exact p2)
          have rq:Hid (MJ σ0 σ u D):=hD
          have fZ:Hid (∀ (B:Nat) (z:Nat->Bool) (w1:World) (wh:Int),Below wr.heap.size wr w1->Bz w1 B 8 z->(∀ x:Int,0<=x->(u.S σ x↔∃ i:Nat,i<8/\x=(i:Nat)/\z i=true)) ->
           Calls Tryz.prog 12 #[.agg #[.int .i64 4,.int .i64 40,.int .i64 12,.int .i64 40,.int .i64 100,.int .i64 600,.int .i64 3,.pointer (some ⟨L.p,0,none⟩),.int .i64 wh],.int .u64 65536,.slice (some ⟨B,0,none⟩) 8 8] w1 fun e w'=>e=.returned (.bool true)/\Below w1.heap.size w1 w'):=jA
          rw[p0] at hz0
          rw[p1] at hz1
          rw[p2] at hz2
          clear p0 p1 p2 hp hD jA
          go_upto_region 33 with fail
          refine ZM Grown [.val (.slice (some ⟨b,0,none⟩) N c),.val (.bool true),.val (.bool true),.val (.agg #[.int .i64 4,.int .i64 40,.int .i64 12,.int .i64 40,.int .i64 100,.int .i64 600,.int .i64 3,.pointer (some ⟨L.p,0,none⟩),.int .i64 who]),.val (.int .u64 65536),.val (.slice (some ⟨b,0,none⟩) N c),.that (fun w' v=>∃ Bb:Nat,v=.slice (some ⟨Bb,0,none⟩) 8 8/\∃ z:Nat->Bool,Bz w' Bb 8 z/\(∀ x:Int,0<=x->(u.S σ x↔∃ i:Nat,i<8/\x=(i:Nat)/\z i=true))) ?_,.val (.bool true),.val (.bool true),.val (.bool true)] (by kernel_rfl) Grown.refl Grown.trans (by kernel_rfl) (by kernel_rfl) (by kernel_rfl) ?_
          . rintro x1 y1 v hg ⟨Bb,hv,z,bz,hz⟩
            exact⟨Bb,hv,z,bz.grown hg,hz⟩
          simp only[ZH,Act.put,List.setIfInBounds_toArray,List.set_cons_zero,List.set_cons_succ]
          refine⟨?_,?_⟩
          . intros;apply ol;go_simp;exact gl
          refine⟨?_,?_⟩
          . intro w' hg _
            apply ol
            go_simp
            refine(J3 rq.out (HA.out.lies.r.grown (grow ((Below.refl _ _).drew) hg)) DU.out).mono ?_
            rintro e w'' ⟨rfl,b9⟩
            exact⟨_,rfl,b9,rfl⟩
          refine⟨?_,?_⟩
          . intros;apply ol;go_simp;exact gl
          refine⟨?_,?_⟩
          . intro w' hg _
            apply ol
            have vx:=(HA.out.grown (grow ((Below.refl _ _).drew) hg)).lies.v
            have y0:=ZX vx (o:=0) rfl
            have y1:=ZX vx (o:=1) rfl
            have y2:=ZX vx (o:=2) rfl
            have y3:=ZX vx (o:=3) rfl
            have y4:=ZX vx (o:=4) rfl
            have y5:=ZX vx (o:=5) rfl
            have y6:=ZX vx (o:=6) rfl
            have y7:=ZX vx (o:=7) rfl
            have y8:=ZX vx (o:=8) rfl
            go_simp
            exact gl
          refine⟨?_,?_⟩
          . intros;apply ol;go_simp;exact gl
          refine⟨?_,?_⟩
          . intros;apply ol;go_simp;exact gl
          refine⟨?_,?_⟩
          . intro w' hg _
            apply ol
            go_simp
            refine(DT rq.out (HA.out.lies.r.grown (grow ((Below.refl _ _).drew) hg)) DU.out).mono ?_
            rintro e w'' ⟨Bb,rfl,z,bz,hbb,b9,hz⟩
            exact⟨_,rfl,b9,Bb,rfl,z,bz,hz⟩
          intro v6
          refine⟨?_,?_⟩
          . intro w' hg hf
            apply ol
            obtain⟨Bb,rfl,z,bz,hz⟩:=hf.1 (by kernel_rfl)
            go_simp
            refine(fZ.out Bb z w' who (grow ((Below.refl _ _).drew) hg) bz hz).mono ?_
            rintro e w'' ⟨rfl,b9⟩
            exact⟨_,rfl,b9,rfl⟩
          refine⟨?_,?_⟩
          . intros;apply ol;go_simp;exact gl
          refine⟨?_,?_⟩
          . intros;apply ol;go_simp;exact gl
          intro w9 hg _
          go_wp2
          go_ret
          exact⟨rfl,grow HA.out.lies.bw (grow ((Below.refl _ _).drew) hg)⟩
        . rw[p0] at hz0
          rw[p1] at hz1
          rw[p2] at hz2
          clear p0 p1 p2 hp
          go_wp2
          go_ret
          exact⟨rfl,HA.out.lies.bw⟩
      . rw[p0] at hz0
        rw[p1] at hz1
        clear p0 p1 hp hz2
        go_wp2
        go_ret
        exact⟨rfl,HA.out.lies.bw⟩
    . rw[p0] at hz0
      clear p0 hp hz1 hz2
      go_wp2
      go_ret
      exact⟨rfl,HA.out.lies.bw⟩
end Go.Proofs.YtpbghmeikcphnaaGreat
