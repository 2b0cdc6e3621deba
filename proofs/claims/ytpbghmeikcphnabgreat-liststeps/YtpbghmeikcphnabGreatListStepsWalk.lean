import Derived.Test.YtpbghmeikcphnabGreatLstPas
import Derived.Test.YtpbghmeikcphnabGreatLstOf
import Derived.Test.YtpbghmeikcphnabGreatLstAwake
import Derived.Test.YtpbghmeikcphnabGreatLstWants
import Derived.Test.YtpbghmeikcphnabGreatPlaceSee
namespace Go.Proofs.YtpbghmeikcphnabGreat
open Go.RowKit
set_option maxRecDepth 20000
theorem vC (z:Int):∃ K:Nat,(z.tmod 3+3).tmod 3=(K:Int)/\K<3/\-3<z.tmod 3/\z.tmod 3<3:=by
 have h1:-3<z.tmod 3:=Int.lt_tmod_of_pos z (by omega)
 have h3:z.tmod 3<3:=Int.tmod_lt_of_pos z (by omega)
 have h4:=Int.emod_nonneg (z.tmod 3+3) (b:=3) (by omega)
 have h5:=Int.emod_lt_of_pos (z.tmod 3+3) (b:=3) (by omega)
 exact⟨((z.tmod 3+3) % 3).toNat,by rw[Int.tmod_eq_emod_of_nonneg (by omega)];omega,by omega,h1,h3⟩
set_option maxRecDepth 20000 in
set_option maxHeartbeats 4000000 in
theorem Qj (ao:Option Addr) (n cap:Nat) (Q:W3) (w:World) (hA:PR w ao n Q):Calls Tryz.prog 4 #[.slice ao n cap] w fun e w'=>e=.returned (.bool true)/\Below w.heap.size w w':=by
 have bg:=fun w=>PQ (n:=30) (by decide) (by decide) w
 have ff:∀ (a1 a2 a3:Value) (w:World),(Instr.field 46 (.agg #[a1,a2,a3]) 0).run Tryz.prog w=.ok a1 w:=fun a1 a2 a3 w=>by kernel_rfl
 go_enter Tryz.func4,Tryz.ntmps4
 go_wp2_with (first
  | (go_at_call 5;refine(bg _).mono ?_;rintro e w1 ⟨L,s,σ,F0,rfl,R0,b1,l1,hσ,-⟩;have HR:Hid (Qi 30 L 1 w1 600):=⟨s,σ,_,_,_,_,_,_,_,R0 0 97 (by decide),zJ 4 30 12 40,hσ⟩;clear R0;have vN:=(ZU.new (w:=w1) (P:=L.p) (c0:=4) (c1:=30) (c2:=12) (c3:=40) (c4:=100) (c5:=600) (c6:=3) (who:=0) (T:=26)))
  | (go_at_call 6;refine(Nu _).mono ?_;rintro e w3 ⟨rfl,b3⟩;have v3:=vN.grown b3))
 obtain⟨E,hE⟩:∃ E,w1.heap.size=E:=⟨_,rfl⟩
 have g4:=grow (ZY w1 (.cells #[.int .i64 4,.int .i64 30,.int .i64 12,.int .i64 40,.int .i64 100,.int .i64 600,.int .i64 3,.pointer (some ⟨L.p,0,none⟩),.int .i64 0] 26)) b3
 have A4:=HR.out.grown g4
 have b4:=grow b1 g4
 rw[hE] at v3
 have oH:Hid (∀ x,L.has x->w.heap.size<=x):=l1
 have HL:Hid (¬ L.has E):=fun hh=>by have:=HR.out.lt hh;omega
 have S0:Hid (Qi 30 L 1 w3 600/\ZU w3 E 4 30 12 40 100 600 3 L.p 0/\Below w.heap.size w w3):=⟨A4,v3,b4⟩
 simp only[hE]
 clear A4 v3 b4 g4 HR vN b3 b1 l1 hE bg
 go_wp2
 go_loopw [6] (fun iv wr=>∃ (i:Nat),iv=.int .i64 i/\i<=12/\Qi 30 L (1+i) wr (600+i * 1950)/\ZU wr E 4 30 12 40 100 600 3 L.p 0/\Below w.heap.size w wr) (fun iv _=>12 - (intOf iv).toNat)
 case atStart=>exact⟨0,rfl,by decide,S0.out⟩
 case round =>
  clear S0
  obtain⟨i,rfl,hi,A,v',b'⟩:=hrel
  by_cases hin:i<n/\i<12
  . obtain⟨hin1,hin2⟩:=hin
    have hi1:(i:Int)<(n:Int):=by omega
    have hi2:(i:Int)<12:=by omega
    have hib:(0:Int)<=(i:Int)/\(i:Int)<(n:Int):=by omega
    obtain⟨ab,ao',rfl,hw0,hw1,hw2⟩:=hA i hin1
    have c1:=keep' b' hw1
    have c2:=keep' b' hw2
    clear hw0 hw1 hw2
    obtain⟨K3,hK3,oG,hk3,hk4⟩:=vC (Q.kd i)
    obtain⟨k,hk,oD⟩:=sK (Q.ky i) 7 3 (by decide) (by decide)
    generalize Q.kd i=qa at c1 hK3 hk3 hk4
    generalize Q.ky i=qb at c2 hk
    obtain⟨κ,hκ⟩:∃ κ:Int,(qa.tmod 3+3).tmod 3=κ:=⟨_,rfl⟩
    obtain⟨kd,hkd⟩:∃ kd:Int,κ+1=kd:=⟨_,rfl⟩
    have su:0<=κ/\κ<3:=by omega
    have rZ:Hid (kd=1\/kd=2\/kd=3):=by show kd=1\/kd=2\/kd=3;omega
    have vz:Hid (Uo kd k=true):=I4 rZ.out (by omega) (by omega)
    have HKB:Hid ((0:Int)<=(k:Int)/\(k:Int)<1073741824):=by show (0:Int)<=(k:Int)/\(k:Int)<1073741824;omega
    have HA:Hid (Qi 30 L (1+i) wr (600+i * 1950)):=A
    clear A hK3
    have y0:=v'.c0
    have y1:=v'.c1
    have y2:=v'.c2
    have y3:=v'.c3
    have y4:=v'.c4
    have y5:=v'.c5
    have y6:=v'.c6
    have y7:=v'.c7
    have y8:=v'.c8
    go_wp2
    obtain⟨Sz,hSz⟩:∃ Sz,wr.heap.size=Sz:=⟨_,rfl⟩
    refine ZC Grown [.val (.slice (some ⟨ab,ao',none⟩) n cap),.val (.int .i64 i),.val (.pointer (some ⟨ab,ao'+i * 3,none⟩)),.val (.pointer (some ⟨ab,ao'+i * 3+1,none⟩)),.val (.int .i64 qa),.val (.int .i64 (qa.tmod 3)),.val (.int .i64 (qa.tmod 3+3)),.val (.int .i64 κ),.val (.int .i64 kd),.val (.slice (some ⟨ab,ao',none⟩) n cap),.val (.int .i64 i),.val (.pointer (some ⟨ab,ao'+i * 3,none⟩)),.val (.pointer (some ⟨ab,ao'+i * 3+2,none⟩)),.val (.int .i64 qb),.val (.int .i64 k),.val (.int .u64 65536),.that (fun w' v=>∃ b,v=.tuple #[.pointer (some ⟨b,0,none⟩),.int .i64 0]/\ZB w' b (.pointer none) (CW kd k 65536)/\Sz<=b) ?_,.that (fun w' v=>∃ b,v=.tuple #[.pointer (some ⟨b,0,none⟩),.int .i64 0]/\ZB w' b (.pointer none) (CW kd k 65536)/\Sz<=b) ?_,.that (fun w' v=>∃ b,v=.pointer (some ⟨b,0,none⟩)/\ZB w' b (.pointer none) (CW kd k 65536)/\Sz<=b) ?_,.val (.int .i64 0),.that (fun w' v=>∃ b,v=.pointer (some ⟨b,0,none⟩)/\ZB w' b (.pointer none) (CW kd k 65536)/\Sz<=b) ?_,.val (.int .i64 0)] (by kernel_rfl) Grown.refl Grown.trans (by kernel_rfl) (by kernel_rfl) (by kernel_rfl) ?_
    . rintro x1 y1 v hg ⟨b,hv,lr,hb⟩
      exact⟨b,hv,lr.grown hg,hb⟩
    . rintro x1 y1 v hg ⟨b,hv,lr,hb⟩
      exact⟨b,hv,lr.grown hg,hb⟩
    . rintro x1 y1 v hg ⟨b,hv,lr,hb⟩
      exact⟨b,hv,lr.grown hg,hb⟩
    . rintro x1 y1 v hg ⟨b,hv,lr,hb⟩
      exact⟨b,hv,lr.grown hg,hb⟩
    simp only[Zy,Act.put,List.setIfInBounds_toArray,List.set_cons_zero,List.set_cons_succ]
    refine⟨?_,?_⟩
    . intros;apply ol;go_simp;exact gl
    refine⟨?_,?_⟩
    . intros;apply ol;go_simp;exact gl
    refine⟨?_,?_⟩
    . intros;apply ol;go_simp;exact gl
    refine⟨?_,?_⟩
    . intros;apply ol;go_simp;exact gl
    refine⟨?_,?_⟩
    . intro w' hg _
      apply ol
      have AZ:=keep' hg (keep' ((Below.refl _ _).drew) c1)
      go_simp
      exact gl
    refine⟨?_,?_⟩
    . intros;apply ol;go_simp;exact gl
    refine⟨?_,?_⟩
    . intro w' hg _
      apply ol
      go_simp
      exact⟨Grown.refl _,congrArg (Value.int .i64) (by rw[IntKind.wrap_i64];omega)⟩
    refine⟨?_,?_⟩
    . intros;apply ol;go_simp;exact gl
    refine⟨?_,?_⟩
    . intro w' hg _
      apply ol
      go_simp
      exact⟨Grown.refl _,congrArg (Value.int .i64) (by rw[IntKind.wrap_i64];omega)⟩
    refine⟨?_,?_⟩
    . intros;apply ol;go_simp;exact gl
    refine⟨?_,?_⟩
    . intros;apply ol;go_simp;exact gl
    refine⟨?_,?_⟩
    . intros;apply ol;go_simp;exact gl
    refine⟨?_,?_⟩
    . intros;apply ol;go_simp;exact gl
    refine⟨?_,?_⟩
    . intro w' hg _
      apply ol
      have AZ:=keep' hg (keep' ((Below.refl _ _).drew) c2)
      go_simp
      exact gl
    refine⟨?_,?_⟩
    . intros;apply ol;go_simp;exact gl
    refine⟨?_,?_⟩
    . intros;apply ol;go_simp;exact gl
    refine⟨?_,?_⟩
    . intro w' hg _
      apply ol
      have hz:Sz<=w'.heap.size:=by have:=hg.size;have e:wr.drew.heap.size=wr.heap.size:=rfl;omega
      go_simp
      refine(Ns kd k 65536 vz.out w').mono ?_
      rintro e w'' ⟨b,rfl,lr,g2,hb⟩
      exact⟨_,rfl,g2,b,rfl,lr,Nat.le_trans hz hb⟩
    intro v16
    refine⟨?_,?_⟩
    . intro w' hg hf
      apply ol
      obtain⟨b,rfl,lr,hb⟩:=hf.1 (by kernel_rfl)
      go_simp
      exact⟨Grown.refl _,b,rfl,lr,hb⟩
    intro v17
    refine⟨?_,?_⟩
    . intro w' hg hf
      apply ol
      obtain⟨b,rfl,lr,hb⟩:=hf.1 (by kernel_rfl)
      go_simp
      exact⟨Grown.refl _,b,rfl,lr,hb⟩
    intro v18
    refine⟨?_,?_⟩
    . intro w' hg hf
      apply ol
      obtain⟨b,rfl,lr,hb⟩:=hf.2.1 (by kernel_rfl)
      go_simp
      exact gl
    refine⟨?_,?_⟩
    . intro w' hg hf
      apply ol
      obtain⟨b,rfl,lr,hb⟩:=hf.1 (by kernel_rfl)
      go_simp
      exact⟨Grown.refl _,b,rfl,lr,hb⟩
    intro v20
    refine⟨?_,?_⟩
    . intros;apply ol;go_simp;exact gl
    intro w7 hg hf
    obtain⟨b,rfl,lr,hb⟩:=hf.1
    clear hf
    have gW:Below wr.heap.size wr w7:=grow ((Below.refl _ _).drew) hg
    obtain⟨x0,I0⟩:=HA.out.begin (by decide) (by decide) (by omega) rZ.out HKB.out.1 HKB.out.2 gW (by omega) lr
    have v0:=v'
    have bW:=b'
    have v7:=v'.grown gW
    have b7:=grow b' gW
    have hbb:wr.heap.size<=b:=by omega
    have oC:Hid (¬ L.has E):=HL.out
    generalize wr=wb at *
    have S7:Hid (KN 30 L (1+i) (600+i * 1950) b 0 wb w7 x0/\ZU w7 E 4 30 12 40 100 600 3 L.p 0/\Below w.heap.size w w7):=⟨I0,v7,b7⟩
    clear I0 v7 b7 v' b' lr hb gW hg HA rZ vz HKB hκ hkd su hk oD hk3 hk4 c1 c2 y0 y1 y2 y3 y4 y5 y6 y7 y8 hSz oC
    go_wp2
    go_loopw [9] (fun kv wx=>∃ (j x:Nat),kv=.int .i64 j/\j<1950/\KN 30 L (1+i) (600+i * 1950) b j wb wx x/\ZU wx E 4 30 12 40 100 600 3 L.p 0/\Below w.heap.size w wx) (fun kv _=>5000 - (intOf kv).toNat)
    case atStart=>exact⟨0,x0,rfl,by decide,S7.out⟩
    case round =>
     clear S7
     obtain⟨j,x,rfl,hj,I,v',b'⟩:=hrel
     have hj3:(j:Int)<5000:=by omega
     have hxb:(x:Int)<=100000:=by have:=I.le;omega
     have hxx:(x:Int)<(x:Int)+1:=by omega
     obtain⟨s0,rY,V8⟩:=I.now
     have qw:Hid (s0.steps=(x:Int)):=V8
     have HI:Hid (KN 30 L (1+i) (600+i * 1950) b j wb wr x):=I
     clear I V8
     have y0:=v'.c0
     have y1:=v'.c1
     have y2:=v'.c2
     have y3:=v'.c3
     have y4:=v'.c4
     have y5:=v'.c5
     have y6:=v'.c6
     have y7:=v'.c7
     have y8:=v'.c8
     go_wp2_with (go_at_call 10;refine(TQ rY _ _ _ _ _ _ _ _ _ qw.out).mono ?_;rintro e w5 ⟨rfl,b5⟩;have v5:=v'.grown b5;have oz:=rY.below b5;have I5:=HI.out.grown b5;obtain⟨z0,z1,z2,z3,z4,z5,z6,z7,z8⟩:=id v5)
     clear HI qw rY
     have hst:=I5.step (by decide) (by decide) hbb (by omega)
     clear I5
     go_wp2_with (go_at_call 9;refine hst.mono ?_;rintro e w6 ⟨d,rfl,o6,⟨s6,mm,hs6,ou,vw⟩,hout⟩;clear hst)
     have vW:=v0.only o6 HL.out
     have b6:=PS bW o6 oH.out
     obtain⟨la,hla⟩:∃ la,s6.la=la:=⟨_,rfl⟩
     obtain⟨lw,qp⟩:∃ lw,s6.lw=lw:=⟨_,rfl⟩
     obtain⟨lc,hlc⟩:∃ lc,s6.lc=lc:=⟨_,rfl⟩
     have uo:Hid (s6.la=la):=hla
     have um:Hid (s6.lw=lw):=qp
     have uj:Hid (s6.lc=lc):=hlc
     obtain⟨ci,qo,hcl⟩:=AY la
     have ui:Hid (∀ w,_):=qo
     have hcc:ci<0\/s6.wd 6=1:=vw.imp (fun h=>hcl (by omega)) id
     have HST:Hid (s6.steps=(x:Int)+1):=by show s6.steps=(x:Int)+1;rw[hs6];omega
     have qm:Hid (6<s6.n):=by show 6<s6.n;omega
     clear qo hla qp hlc hs6 vw ou hcl v5 b5 oz y0 y1 y2 y3 y4 y5 y6 y7 y8 o6
     rcases hout with⟨rfl,hj1,I6⟩ | ⟨rfl,R6⟩
     . have uh:Hid (j+1<1950/\KN 30 L (1+i) (600+i * 1950) b (j+1) wb w6 (x+1)):=⟨hj1,I6⟩
       clear hj1 I6
       by_cases hcy:ci<0
       . skip
         have hci:decide ((0:Int)<=ci)=false:=decide_eq_false (by omega)
         clear hcc hcy
         refine ZC Grown [.val (.agg #[.int .i64 4,.int .i64 30,.int .i64 12,.int .i64 40,.int .i64 100,.int .i64 600,.int .i64 3,.pointer (some ⟨L.p,0,none⟩),.int .i64 0]),.val (.int .i64 (x+1)),.val (.int .i64 x),.val (.int .i64 (x+1)),.val (.bool false),.val (.bool false),.val (.agg #[.int .i64 4,.int .i64 30,.int .i64 12,.int .i64 40,.int .i64 100,.int .i64 600,.int .i64 3,.pointer (some ⟨L.p,0,none⟩),.int .i64 0]),.val (.int .i64 (x+1)),.val (.int .i64 x),.val (.bool true),.val (.bool true),.val (.pointer (some ⟨E,0,none⟩)),.val (.agg #[.int .i64 4,.int .i64 30,.int .i64 12,.int .i64 40,.int .i64 100,.int .i64 600,.int .i64 3]),.val (.pointer (some ⟨E,7,none⟩)),.val (.pointer (some ⟨L.p,0,none⟩)),.val (.agg #[.int .i64 la,.int .i64 lw,.bool lc]),.val (.int .i64 la),.val (.int .i64 ci),.val (.bool false),.val (.bool false),.val (.bool false),.val undef,.val undef,.val undef,.val undef,.val undef,.val (.bool false),.val (.bool false)] (by kernel_rfl) Grown.refl Grown.trans (by kernel_rfl) (by kernel_rfl) (by kernel_rfl) ?_
         simp only[Zy,Act.put,List.setIfInBounds_toArray,List.set_cons_zero,List.set_cons_succ]
         refine⟨?_,?_⟩
         . intro w' hg _
           apply ol
           obtain⟨y0,y1,y2,y3,y4,y5,y6,y7,y8⟩:=(vW.grown ((Below.refl _ _).drew)).grown hg
           go_simp
           exact gl
         refine⟨?_,?_⟩
         . intro w' hg _
           apply ol
           go_simp
           refine(TQ (mm.below (grow ((Below.refl _ _).drew) hg)) _ _ _ _ _ _ _ _ _ HST.out).mono ?_
           rintro e w'' ⟨rfl,b9⟩
           exact⟨_,rfl,b9,rfl⟩
         refine⟨?_,?_⟩
         . intros;apply ol;go_simp;exact gl
         refine⟨?_,?_⟩
         . intro w' hg _
           apply ol
           go_simp
           exact⟨Grown.refl _,congrArg (Value.int .i64) (by rw[IntKind.wrap_i64];omega)⟩
         refine⟨?_,?_⟩
         . intros;apply ol;go_simp;exact gl
         refine⟨?_,?_⟩
         . intros;apply ol;go_simp;exact gl
         refine⟨?_,?_⟩
         . intro w' hg _
           apply ol
           obtain⟨y0,y1,y2,y3,y4,y5,y6,y7,y8⟩:=(vW.grown ((Below.refl _ _).drew)).grown hg
           go_simp
           exact gl
         refine⟨?_,?_⟩
         . intro w' hg _
           apply ol
           go_simp
           refine(TQ (mm.below (grow ((Below.refl _ _).drew) hg)) _ _ _ _ _ _ _ _ _ HST.out).mono ?_
           rintro e w'' ⟨rfl,b9⟩
           exact⟨_,rfl,b9,rfl⟩
         refine⟨?_,?_⟩
         . intros;apply ol;go_simp;exact gl
         refine⟨?_,?_⟩
         . intro w' hg _
           apply ol
           have AZ:=hxx
           go_simp
           exact gl
         refine⟨?_,?_⟩
         . intros;apply ol;go_simp;exact gl
         refine⟨?_,?_⟩
         . intros;apply ol;go_simp;exact gl
         refine⟨?_,?_⟩
         . intro w' hg _
           apply ol
           obtain⟨y0,y1,y2,y3,y4,y5,y6,y7,y8⟩:=(vW.grown ((Below.refl _ _).drew)).grown hg
           go_simp
           exact gl
         refine⟨?_,?_⟩
         . intros;apply ol;go_simp;exact gl
         refine⟨?_,?_⟩
         . intro w' hg _
           apply ol
           obtain⟨y0,y1,y2,y3,y4,y5,y6,y7,y8⟩:=(vW.grown ((Below.refl _ _).drew)).grown hg
           go_simp
           exact gl
         refine⟨?_,?_⟩
         . intro w' hg _
           apply ol
           go_simp
           refine(OQ (mm.below (grow ((Below.refl _ _).drew) hg)) la lw lc uo.out um.out uj.out).mono ?_
           rintro e w'' ⟨rfl,b9⟩
           exact⟨_,rfl,b9,rfl⟩
         refine⟨?_,?_⟩
         . intro w' hg _
           apply ol
           have AZ:=ff (.int .i64 la) (.int .i64 lw) (.bool lc)
           go_simp
           exact gl
         refine⟨?_,?_⟩
         . intro w' hg _
           apply ol
           go_simp
           refine(ui.out _).mono ?_
           rintro e w'' ⟨rfl,b9⟩
           exact⟨_,rfl,b9,rfl⟩
         refine⟨?_,?_⟩
         . intros;apply ol;go_simp;exact gl
         refine⟨?_,?_⟩
         . intros;apply ol;go_simp;exact gl
         refine⟨?_,?_⟩
         . intros;apply ol;go_simp;exact gl
         refine⟨?_,?_⟩
         . intros;exact ur
         refine⟨?_,?_⟩
         . intros;exact ur
         refine⟨?_,?_⟩
         . intros;exact ur
         refine⟨?_,?_⟩
         . intros;exact ur
         refine⟨?_,?_⟩
         . intros;exact ur
         refine⟨?_,?_⟩
         . intros;apply ol;go_simp;exact gl
         refine⟨?_,?_⟩
         . intros;apply ol;go_simp;exact gl
         intro w7 hg _
         have g7:Below w6.heap.size w6 w7:=grow ((Below.refl _ _).drew) hg
         have v7:=vW.grown g7
         have b7:=grow b6 g7
         clear vW b6 mm
         go_wp2
         go_roundw
         case rel=>exact⟨j+1,x+1,by go_num,uh.out.1,uh.out.2.grown g7,v7,b7⟩
         case measure=>simp[intOf];omega
       . skip
         have hci:decide ((0:Int)<=ci)=true:=decide_eq_true (by omega)
         have HP:Hid (s6.wd 6=1):=hcc.resolve_left hcy
         clear hcc hcy
         refine ZC Grown [.val (.agg #[.int .i64 4,.int .i64 30,.int .i64 12,.int .i64 40,.int .i64 100,.int .i64 600,.int .i64 3,.pointer (some ⟨L.p,0,none⟩),.int .i64 0]),.val (.int .i64 (x+1)),.val (.int .i64 x),.val (.int .i64 (x+1)),.val (.bool false),.val (.bool false),.val (.agg #[.int .i64 4,.int .i64 30,.int .i64 12,.int .i64 40,.int .i64 100,.int .i64 600,.int .i64 3,.pointer (some ⟨L.p,0,none⟩),.int .i64 0]),.val (.int .i64 (x+1)),.val (.int .i64 x),.val (.bool true),.val (.bool true),.val (.pointer (some ⟨E,0,none⟩)),.val (.agg #[.int .i64 4,.int .i64 30,.int .i64 12,.int .i64 40,.int .i64 100,.int .i64 600,.int .i64 3]),.val (.pointer (some ⟨E,7,none⟩)),.val (.pointer (some ⟨L.p,0,none⟩)),.val (.agg #[.int .i64 la,.int .i64 lw,.bool lc]),.val (.int .i64 la),.val (.int .i64 ci),.val (.bool true),.val (.bool true),.val (.bool true),.val (.pointer (some ⟨E,7,none⟩)),.val (.pointer (some ⟨L.p,0,none⟩)),.val (.int .i64 6),.val (.int .u64 1),.val (.bool false),.val (.bool false),.val (.bool false)] (by kernel_rfl) Grown.refl Grown.trans (by kernel_rfl) (by kernel_rfl) (by kernel_rfl) ?_
         simp only[Zy,Act.put,List.setIfInBounds_toArray,List.set_cons_zero,List.set_cons_succ]
         refine⟨?_,?_⟩
         . intro w' hg _
           apply ol
           obtain⟨y0,y1,y2,y3,y4,y5,y6,y7,y8⟩:=(vW.grown ((Below.refl _ _).drew)).grown hg
           go_simp
           exact gl
         refine⟨?_,?_⟩
         . intro w' hg _
           apply ol
           go_simp
           refine(TQ (mm.below (grow ((Below.refl _ _).drew) hg)) _ _ _ _ _ _ _ _ _ HST.out).mono ?_
           rintro e w'' ⟨rfl,b9⟩
           exact⟨_,rfl,b9,rfl⟩
         refine⟨?_,?_⟩
         . intros;apply ol;go_simp;exact gl
         refine⟨?_,?_⟩
         . intro w' hg _
           apply ol
           go_simp
           exact⟨Grown.refl _,congrArg (Value.int .i64) (by rw[IntKind.wrap_i64];omega)⟩
         refine⟨?_,?_⟩
         . intros;apply ol;go_simp;exact gl
         refine⟨?_,?_⟩
         . intros;apply ol;go_simp;exact gl
         refine⟨?_,?_⟩
         . intro w' hg _
           apply ol
           obtain⟨y0,y1,y2,y3,y4,y5,y6,y7,y8⟩:=(vW.grown ((Below.refl _ _).drew)).grown hg
           go_simp
           exact gl
         refine⟨?_,?_⟩
         . intro w' hg _
           apply ol
           go_simp
           refine(TQ (mm.below (grow ((Below.refl _ _).drew) hg)) _ _ _ _ _ _ _ _ _ HST.out).mono ?_
           rintro e w'' ⟨rfl,b9⟩
           exact⟨_,rfl,b9,rfl⟩
         refine⟨?_,?_⟩
         . intros;apply ol;go_simp;exact gl
         refine⟨?_,?_⟩
         . intro w' hg _
           apply ol
           have AZ:=hxx
           go_simp
           exact gl
         refine⟨?_,?_⟩
         . intros;apply ol;go_simp;exact gl
         refine⟨?_,?_⟩
         . intros;apply ol;go_simp;exact gl
         refine⟨?_,?_⟩
         . intro w' hg _
           apply ol
           obtain⟨y0,y1,y2,y3,y4,y5,y6,y7,y8⟩:=(vW.grown ((Below.refl _ _).drew)).grown hg
           go_simp
           exact gl
         refine⟨?_,?_⟩
         . intros;apply ol;go_simp;exact gl
         refine⟨?_,?_⟩
         . intro w' hg _
           apply ol
           obtain⟨y0,y1,y2,y3,y4,y5,y6,y7,y8⟩:=(vW.grown ((Below.refl _ _).drew)).grown hg
           go_simp
           exact gl
         refine⟨?_,?_⟩
         . intro w' hg _
           apply ol
           go_simp
           refine(OQ (mm.below (grow ((Below.refl _ _).drew) hg)) la lw lc uo.out um.out uj.out).mono ?_
           rintro e w'' ⟨rfl,b9⟩
           exact⟨_,rfl,b9,rfl⟩
         refine⟨?_,?_⟩
         . intro w' hg _
           apply ol
           have AZ:=ff (.int .i64 la) (.int .i64 lw) (.bool lc)
           go_simp
           exact gl
         refine⟨?_,?_⟩
         . intro w' hg _
           apply ol
           go_simp
           refine(ui.out _).mono ?_
           rintro e w'' ⟨rfl,b9⟩
           exact⟨_,rfl,b9,rfl⟩
         refine⟨?_,?_⟩
         . intros;apply ol;go_simp;exact gl
         refine⟨?_,?_⟩
         . intros;apply ol;go_simp;exact gl
         refine⟨?_,?_⟩
         . intros;apply ol;go_simp;exact gl
         refine⟨?_,?_⟩
         . intros;apply ol;go_simp;exact gl
         refine⟨?_,?_⟩
         . intro w' hg _
           apply ol
           obtain⟨y0,y1,y2,y3,y4,y5,y6,y7,y8⟩:=(vW.grown ((Below.refl _ _).drew)).grown hg
           go_simp
           exact gl
         refine⟨?_,?_⟩
         . intro w' hg _
           apply ol
           go_simp
           refine(Xz 0 _ (by decide) (by decide)).mono ?_
           rintro e w'' ⟨rfl,rfl⟩
           exact⟨_,rfl,Grown.refl _,rfl⟩
         refine⟨?_,?_⟩
         . intro w' hg _
           apply ol
           go_simp
           refine(Rx (mm.below (grow ((Below.refl _ _).drew) hg)) 6 qm.out 1 HP.out).mono ?_
           rintro e w'' ⟨rfl,rfl⟩
           exact⟨_,rfl,Grown.refl _,rfl⟩
         refine⟨?_,?_⟩
         . intros;apply ol;go_simp;exact gl
         refine⟨?_,?_⟩
         . intros;apply ol;go_simp;exact gl
         refine⟨?_,?_⟩
         . intros;apply ol;go_simp;exact gl
         intro w7 hg _
         have g7:Below w6.heap.size w6 w7:=grow ((Below.refl _ _).drew) hg
         have v7:=vW.grown g7
         have b7:=grow b6 g7
         clear vW b6 mm
         go_wp2
         go_roundw
         case rel=>exact⟨j+1,x+1,by go_num,uh.out.1,uh.out.2.grown g7,v7,b7⟩
         case measure=>simp[intOf];omega
     . have ql:Hid (Qi 30 L (1+i+1) w6 (600+i * 1950+1950)):=R6
       clear R6
       by_cases hcy:ci<0
       . skip
         have hci:decide ((0:Int)<=ci)=false:=decide_eq_false (by omega)
         clear hcc hcy
         refine ZC Grown [.val (.agg #[.int .i64 4,.int .i64 30,.int .i64 12,.int .i64 40,.int .i64 100,.int .i64 600,.int .i64 3,.pointer (some ⟨L.p,0,none⟩),.int .i64 0]),.val (.int .i64 (x+1)),.val (.int .i64 x),.val (.int .i64 (x+1)),.val (.bool false),.val (.bool false),.val (.agg #[.int .i64 4,.int .i64 30,.int .i64 12,.int .i64 40,.int .i64 100,.int .i64 600,.int .i64 3,.pointer (some ⟨L.p,0,none⟩),.int .i64 0]),.val (.int .i64 (x+1)),.val (.int .i64 x),.val (.bool true),.val (.bool true),.val (.pointer (some ⟨E,0,none⟩)),.val (.agg #[.int .i64 4,.int .i64 30,.int .i64 12,.int .i64 40,.int .i64 100,.int .i64 600,.int .i64 3]),.val (.pointer (some ⟨E,7,none⟩)),.val (.pointer (some ⟨L.p,0,none⟩)),.val (.agg #[.int .i64 la,.int .i64 lw,.bool lc]),.val (.int .i64 la),.val (.int .i64 ci),.val (.bool false),.val (.bool false),.val (.bool false),.val undef,.val undef,.val undef,.val undef,.val undef,.val (.bool false),.val (.bool false)] (by kernel_rfl) Grown.refl Grown.trans (by kernel_rfl) (by kernel_rfl) (by kernel_rfl) ?_
         simp only[Zy,Act.put,List.setIfInBounds_toArray,List.set_cons_zero,List.set_cons_succ]
         refine⟨?_,?_⟩
         . intro w' hg _
           apply ol
           obtain⟨y0,y1,y2,y3,y4,y5,y6,y7,y8⟩:=(vW.grown ((Below.refl _ _).drew)).grown hg
           go_simp
           exact gl
         refine⟨?_,?_⟩
         . intro w' hg _
           apply ol
           go_simp
           refine(TQ (mm.below (grow ((Below.refl _ _).drew) hg)) _ _ _ _ _ _ _ _ _ HST.out).mono ?_
           rintro e w'' ⟨rfl,b9⟩
           exact⟨_,rfl,b9,rfl⟩
         refine⟨?_,?_⟩
         . intros;apply ol;go_simp;exact gl
         refine⟨?_,?_⟩
         . intro w' hg _
           apply ol
           go_simp
           exact⟨Grown.refl _,congrArg (Value.int .i64) (by rw[IntKind.wrap_i64];omega)⟩
         refine⟨?_,?_⟩
         . intros;apply ol;go_simp;exact gl
         refine⟨?_,?_⟩
         . intros;apply ol;go_simp;exact gl
         refine⟨?_,?_⟩
         . intro w' hg _
           apply ol
           obtain⟨y0,y1,y2,y3,y4,y5,y6,y7,y8⟩:=(vW.grown ((Below.refl _ _).drew)).grown hg
           go_simp
           exact gl
         refine⟨?_,?_⟩
         . intro w' hg _
           apply ol
           go_simp
           refine(TQ (mm.below (grow ((Below.refl _ _).drew) hg)) _ _ _ _ _ _ _ _ _ HST.out).mono ?_
           rintro e w'' ⟨rfl,b9⟩
           exact⟨_,rfl,b9,rfl⟩
         refine⟨?_,?_⟩
         . intros;apply ol;go_simp;exact gl
         refine⟨?_,?_⟩
         . intro w' hg _
           apply ol
           have AZ:=hxx
           go_simp
           exact gl
         refine⟨?_,?_⟩
         . intros;apply ol;go_simp;exact gl
         refine⟨?_,?_⟩
         . intros;apply ol;go_simp;exact gl
         refine⟨?_,?_⟩
         . intro w' hg _
           apply ol
           obtain⟨y0,y1,y2,y3,y4,y5,y6,y7,y8⟩:=(vW.grown ((Below.refl _ _).drew)).grown hg
           go_simp
           exact gl
         refine⟨?_,?_⟩
         . intros;apply ol;go_simp;exact gl
         refine⟨?_,?_⟩
         . intro w' hg _
           apply ol
           obtain⟨y0,y1,y2,y3,y4,y5,y6,y7,y8⟩:=(vW.grown ((Below.refl _ _).drew)).grown hg
           go_simp
           exact gl
         refine⟨?_,?_⟩
         . intro w' hg _
           apply ol
           go_simp
           refine(OQ (mm.below (grow ((Below.refl _ _).drew) hg)) la lw lc uo.out um.out uj.out).mono ?_
           rintro e w'' ⟨rfl,b9⟩
           exact⟨_,rfl,b9,rfl⟩
         refine⟨?_,?_⟩
         . intro w' hg _
           apply ol
           have AZ:=ff (.int .i64 la) (.int .i64 lw) (.bool lc)
           go_simp
           exact gl
         refine⟨?_,?_⟩
         . intro w' hg _
           apply ol
           go_simp
           refine(ui.out _).mono ?_
           rintro e w'' ⟨rfl,b9⟩
           exact⟨_,rfl,b9,rfl⟩
         refine⟨?_,?_⟩
         . intros;apply ol;go_simp;exact gl
         refine⟨?_,?_⟩
         . intros;apply ol;go_simp;exact gl
         refine⟨?_,?_⟩
         . intros;apply ol;go_simp;exact gl
         refine⟨?_,?_⟩
         . intros;exact ur
         refine⟨?_,?_⟩
         . intros;exact ur
         refine⟨?_,?_⟩
         . intros;exact ur
         refine⟨?_,?_⟩
         . intros;exact ur
         refine⟨?_,?_⟩
         . intros;exact ur
         refine⟨?_,?_⟩
         . intros;apply ol;go_simp;exact gl
         refine⟨?_,?_⟩
         . intros;apply ol;go_simp;exact gl
         intro w7 hg _
         have g7:Below w6.heap.size w6 w7:=grow ((Below.refl _ _).drew) hg
         have v7:=vW.grown g7
         have b7:=grow b6 g7
         clear vW b6 mm
         go_wp2
         go_roundw
         case rel=>exact⟨i+1,by go_num,by omega,(Qi.up (ql.out.grown g7) (by omega) (by omega)),v7,b7⟩
         case measure=>simp[intOf];omega
       . skip
         have hci:decide ((0:Int)<=ci)=true:=decide_eq_true (by omega)
         have HP:Hid (s6.wd 6=1):=hcc.resolve_left hcy
         clear hcc hcy
         refine ZC Grown [.val (.agg #[.int .i64 4,.int .i64 30,.int .i64 12,.int .i64 40,.int .i64 100,.int .i64 600,.int .i64 3,.pointer (some ⟨L.p,0,none⟩),.int .i64 0]),.val (.int .i64 (x+1)),.val (.int .i64 x),.val (.int .i64 (x+1)),.val (.bool false),.val (.bool false),.val (.agg #[.int .i64 4,.int .i64 30,.int .i64 12,.int .i64 40,.int .i64 100,.int .i64 600,.int .i64 3,.pointer (some ⟨L.p,0,none⟩),.int .i64 0]),.val (.int .i64 (x+1)),.val (.int .i64 x),.val (.bool true),.val (.bool true),.val (.pointer (some ⟨E,0,none⟩)),.val (.agg #[.int .i64 4,.int .i64 30,.int .i64 12,.int .i64 40,.int .i64 100,.int .i64 600,.int .i64 3]),.val (.pointer (some ⟨E,7,none⟩)),.val (.pointer (some ⟨L.p,0,none⟩)),.val (.agg #[.int .i64 la,.int .i64 lw,.bool lc]),.val (.int .i64 la),.val (.int .i64 ci),.val (.bool true),.val (.bool true),.val (.bool true),.val (.pointer (some ⟨E,7,none⟩)),.val (.pointer (some ⟨L.p,0,none⟩)),.val (.int .i64 6),.val (.int .u64 1),.val (.bool false),.val (.bool false),.val (.bool false)] (by kernel_rfl) Grown.refl Grown.trans (by kernel_rfl) (by kernel_rfl) (by kernel_rfl) ?_
         simp only[Zy,Act.put,List.setIfInBounds_toArray,List.set_cons_zero,List.set_cons_succ]
         refine⟨?_,?_⟩
         . intro w' hg _
           apply ol
           obtain⟨y0,y1,y2,y3,y4,y5,y6,y7,y8⟩:=(vW.grown ((Below.refl _ _).drew)).grown hg
           go_simp
           exact gl
         refine⟨?_,?_⟩
         . intro w' hg _
           apply ol
           go_simp
           refine(TQ (mm.below (grow ((Below.refl _ _).drew) hg)) _ _ _ _ _ _ _ _ _ HST.out).mono ?_
           rintro e w'' ⟨rfl,b9⟩
           exact⟨_,rfl,b9,rfl⟩
         refine⟨?_,?_⟩
         . intros;apply ol;go_simp;exact gl
         refine⟨?_,?_⟩
         . intro w' hg _
           apply ol
           go_simp
           exact⟨Grown.refl _,congrArg (Value.int .i64) (by rw[IntKind.wrap_i64];omega)⟩
         refine⟨?_,?_⟩
         . intros;apply ol;go_simp;exact gl
         refine⟨?_,?_⟩
         . intros;apply ol;go_simp;exact gl
         refine⟨?_,?_⟩
         . intro w' hg _
           apply ol
           obtain⟨y0,y1,y2,y3,y4,y5,y6,y7,y8⟩:=(vW.grown ((Below.refl _ _).drew)).grown hg
           go_simp
           exact gl
         refine⟨?_,?_⟩
         . intro w' hg _
           apply ol
           go_simp
           refine(TQ (mm.below (grow ((Below.refl _ _).drew) hg)) _ _ _ _ _ _ _ _ _ HST.out).mono ?_
           rintro e w'' ⟨rfl,b9⟩
           exact⟨_,rfl,b9,rfl⟩
         refine⟨?_,?_⟩
         . intros;apply ol;go_simp;exact gl
         refine⟨?_,?_⟩
         . intro w' hg _
           apply ol
           have AZ:=hxx
           go_simp
           exact gl
         refine⟨?_,?_⟩
         . intros;apply ol;go_simp;exact gl
         refine⟨?_,?_⟩
         . intros;apply ol;go_simp;exact gl
         refine⟨?_,?_⟩
         . intro w' hg _
           apply ol
           obtain⟨y0,y1,y2,y3,y4,y5,y6,y7,y8⟩:=(vW.grown ((Below.refl _ _).drew)).grown hg
           go_simp
           exact gl
         refine⟨?_,?_⟩
         . intros;apply ol;go_simp;exact gl
         refine⟨?_,?_⟩
         . intro w' hg _
           apply ol
           obtain⟨y0,y1,y2,y3,y4,y5,y6,y7,y8⟩:=(vW.grown ((Below.refl _ _).drew)).grown hg
           go_simp
           exact gl
         refine⟨?_,?_⟩
         . intro w' hg _
           apply ol
           go_simp
           refine(OQ (mm.below (grow ((Below.refl _ _).drew) hg)) la lw lc uo.out um.out uj.out).mono ?_
           rintro e w'' ⟨rfl,b9⟩
           exact⟨_,rfl,b9,rfl⟩
         refine⟨?_,?_⟩
         . intro w' hg _
           apply ol
           have AZ:=ff (.int .i64 la) (.int .i64 lw) (.bool lc)
           go_simp
           exact gl
         refine⟨?_,?_⟩
         . intro w' hg _
           apply ol
           go_simp
           refine(ui.out _).mono ?_
           rintro e w'' ⟨rfl,b9⟩
           exact⟨_,rfl,b9,rfl⟩
         refine⟨?_,?_⟩
         . intros;apply ol;go_simp;exact gl
         refine⟨?_,?_⟩
         . intros;apply ol;go_simp;exact gl
         refine⟨?_,?_⟩
         . intros;apply ol;go_simp;exact gl
         refine⟨?_,?_⟩
         . intros;apply ol;go_simp;exact gl
         refine⟨?_,?_⟩
         . intro w' hg _
           apply ol
           obtain⟨y0,y1,y2,y3,y4,y5,y6,y7,y8⟩:=(vW.grown ((Below.refl _ _).drew)).grown hg
           go_simp
           exact gl
         refine⟨?_,?_⟩
         . intro w' hg _
           apply ol
           go_simp
           refine(Xz 0 _ (by decide) (by decide)).mono ?_
           rintro e w'' ⟨rfl,rfl⟩
           exact⟨_,rfl,Grown.refl _,rfl⟩
         refine⟨?_,?_⟩
         . intro w' hg _
           apply ol
           go_simp
           refine(Rx (mm.below (grow ((Below.refl _ _).drew) hg)) 6 qm.out 1 HP.out).mono ?_
           rintro e w'' ⟨rfl,rfl⟩
           exact⟨_,rfl,Grown.refl _,rfl⟩
         refine⟨?_,?_⟩
         . intros;apply ol;go_simp;exact gl
         refine⟨?_,?_⟩
         . intros;apply ol;go_simp;exact gl
         refine⟨?_,?_⟩
         . intros;apply ol;go_simp;exact gl
         intro w7 hg _
         have g7:Below w6.heap.size w6 w7:=grow ((Below.refl _ _).drew) hg
         have v7:=vW.grown g7
         have b7:=grow b6 g7
         clear vW b6 mm
         go_wp2
         go_roundw
         case rel=>exact⟨i+1,by go_num,by omega,(Qi.up (ql.out.grown g7) (by omega) (by omega)),v7,b7⟩
         case measure=>simp[intOf];omega
  . have A:=A
    have hout:¬ ((i:Int)<(n:Int)/\(i:Int)<12):=by omega
    obtain⟨s9,qj,qi,qh⟩:=A.pin
    have qc:Hid (6<s9.n):=qi
    have pY:Hid (s9.wd 6=0):=qh
    have vW:=v'
    clear qi qh A
    by_cases hn1:(i:Int)<(n:Int)
    . have hn2:¬ (i:Int)<12:=by omega
      go_wp2
      refine ZC Grown [.val (.pointer (some ⟨E,7,none⟩)),.val (.pointer (some ⟨L.p,0,none⟩)),.val (.int .i64 6),.val (.int .u64 0),.val (.bool true),.val (.bool true)] (by kernel_rfl) Grown.refl Grown.trans (by kernel_rfl) (by kernel_rfl) (by kernel_rfl) ?_
      simp only[Zy,Act.put,List.setIfInBounds_toArray,List.set_cons_zero,List.set_cons_succ]
      refine⟨?_,?_⟩
      . intros;apply ol;go_simp;exact gl
      refine⟨?_,?_⟩
      . intro w' hg _
        apply ol
        obtain⟨y0,y1,y2,y3,y4,y5,y6,y7,y8⟩:=(vW.grown ((Below.refl _ _).drew)).grown hg
        go_simp
        exact gl
      refine⟨?_,?_⟩
      . intro w' hg _
        apply ol
        go_simp
        refine(Xz 0 _ (by decide) (by decide)).mono ?_
        rintro e w'' ⟨rfl,rfl⟩
        exact⟨_,rfl,Grown.refl _,rfl⟩
      refine⟨?_,?_⟩
      . intro w' hg _
        apply ol
        go_simp
        refine(Rx (qj.below (grow ((Below.refl _ _).drew) hg)) 6 qc.out 0 pY.out).mono ?_
        rintro e w'' ⟨rfl,rfl⟩
        exact⟨_,rfl,Grown.refl _,rfl⟩
      refine⟨?_,?_⟩
      . intros;apply ol;go_simp;exact gl
      refine⟨?_,?_⟩
      . intros;apply ol;go_simp;exact gl
      intro w9 hg _
      go_wp2
      go_ret
      exact⟨rfl,grow b' (grow ((Below.refl _ _).drew) hg)⟩
    . go_wp2
      refine ZC Grown [.val (.pointer (some ⟨E,7,none⟩)),.val (.pointer (some ⟨L.p,0,none⟩)),.val (.int .i64 6),.val (.int .u64 0),.val (.bool true),.val (.bool true)] (by kernel_rfl) Grown.refl Grown.trans (by kernel_rfl) (by kernel_rfl) (by kernel_rfl) ?_
      simp only[Zy,Act.put,List.setIfInBounds_toArray,List.set_cons_zero,List.set_cons_succ]
      refine⟨?_,?_⟩
      . intros;apply ol;go_simp;exact gl
      refine⟨?_,?_⟩
      . intro w' hg _
        apply ol
        obtain⟨y0,y1,y2,y3,y4,y5,y6,y7,y8⟩:=(vW.grown ((Below.refl _ _).drew)).grown hg
        go_simp
        exact gl
      refine⟨?_,?_⟩
      . intro w' hg _
        apply ol
        go_simp
        refine(Xz 0 _ (by decide) (by decide)).mono ?_
        rintro e w'' ⟨rfl,rfl⟩
        exact⟨_,rfl,Grown.refl _,rfl⟩
      refine⟨?_,?_⟩
      . intro w' hg _
        apply ol
        go_simp
        refine(Rx (qj.below (grow ((Below.refl _ _).drew) hg)) 6 qc.out 0 pY.out).mono ?_
        rintro e w'' ⟨rfl,rfl⟩
        exact⟨_,rfl,Grown.refl _,rfl⟩
      refine⟨?_,?_⟩
      . intros;apply ol;go_simp;exact gl
      refine⟨?_,?_⟩
      . intros;apply ol;go_simp;exact gl
      intro w9 hg _
      go_wp2
      go_ret
      exact⟨rfl,grow b' (grow ((Below.refl _ _).drew) hg)⟩
end Go.Proofs.YtpbghmeikcphnabGreat
