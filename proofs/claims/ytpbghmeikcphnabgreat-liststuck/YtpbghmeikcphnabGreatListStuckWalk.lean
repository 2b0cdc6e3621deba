import Derived.Test.YtpbghmeikcphnabGreatLstStk
import Derived.Test.YtpbghmeikcphnabGreatPlaceSee
namespace Go.Proofs.YtpbghmeikcphnabGreat
open Go.RowKit
set_option maxRecDepth 20000
theorem tu (z:Int):∃ K:Nat,(z.tmod 3+3).tmod 3=(K:Int)/\K<3/\-3<z.tmod 3/\z.tmod 3<3:=by
 have h1:-3<z.tmod 3:=Int.lt_tmod_of_pos z (by omega)
 have h3:z.tmod 3<3:=Int.tmod_lt_of_pos z (by omega)
 have h4:=Int.emod_nonneg (z.tmod 3+3) (b:=3) (by omega)
 have h5:=Int.emod_lt_of_pos (z.tmod 3+3) (b:=3) (by omega)
 exact⟨((z.tmod 3+3) % 3).toNat,by rw[Int.tmod_eq_emod_of_nonneg (by omega)];omega,by omega,h1,h3⟩
set_option maxRecDepth 20000 in
set_option maxHeartbeats 4000000 in
theorem P6 (z0 z1' z2:Int) (w:World):Calls Tryz.prog 3 #[.int .i64 z0,.int .i64 z1',.int .i64 z2] w fun e w'=>e=.returned (.bool true)/\Below w.heap.size w w':=by
 have bg:=fun w=>PD (n:=30) (by decide) (by decide) w
 have ff:∀ (a1 a2 a3 a4:Value) (w:World),(Instr.field 33 (.agg #[a1,a2,a3,a4]) 2).run Tryz.prog w=.ok a3 w:=fun a1 a2 a3 a4 w=>by kernel_rfl
 obtain⟨k,hk,iR⟩:=tN z1' 7 3 (by decide) (by decide)
 have EU:Hid (k<8):=by show k<8;omega
 go_enter Tryz.func3,Tryz.ntmps3
 go_wp2_with (first
  | (go_at_call 5;refine(bg _).mono ?_;rintro e w1 ⟨L,s,σ,F0,rfl,R0,b1,l1,hσ,-⟩;have HR:Hid (Xn 97 L 1 600 (fun _=>false) w1):=⟨s,σ,_,_,_,_,_,_,_,R0 0 97 (by decide),yN 4 30 12 40,hσ,fun i _=>⟨fun h=>absurd h (by simp[qR]),fun h=>by cases h⟩⟩;clear R0;have vN:XY (w1.alloc (.cells #[.int .i64 4,.int .i64 30,.int .i64 12,.int .i64 40,.int .i64 100,.int .i64 600,.int .i64 3,.pointer (some ⟨L.p,0,none⟩),.int .i64 0] 26)) w1.heap.size 4 30 12 40 100 600 3 L.p 0:=Go.Deep.blk_alloc_new _ _)
  | (go_at_call 6;refine(MW _).mono ?_;rintro e w3 ⟨rfl,b3⟩;have v3:=vN.grown b3))
 obtain⟨E,hE⟩:∃ E,w1.heap.size=E:=⟨_,rfl⟩
 have g4:=grow (ZY w1 (.cells #[.int .i64 4,.int .i64 30,.int .i64 12,.int .i64 40,.int .i64 100,.int .i64 600,.int .i64 3,.pointer (some ⟨L.p,0,none⟩),.int .i64 0] 26)) b3
 have A4:=HR.out.grown g4
 have b4:=grow b1 g4
 rw[hE] at v3
 have yM:Hid (∀ x,L.has x->w.heap.size<=x):=l1
 have HL:Hid (¬ L.has E):=fun hh=>by have:=HR.out.lt hh;omega
 have HE:Hid (w.heap.size<=E):=by have:=b1.size;show w.heap.size<=E;omega
 have S0:Hid (Xn 97 L ((1+1) / 2) (600+1 * 1950) (VA 1) w3/\XY w3 E 4 30 12 40 100 600 3 L.p 0/\Below w.heap.size w w3):=⟨(A4.up (Nat.le_refl _) (by decide)).as (fun i hi=>(decide_eq_false (by omega)).symm),v3,b4⟩
 simp only[hE]
 clear A4 v3 b4 g4 HR vN b3 b1 l1 hE bg
 go_wp2
 go_loopw [11] (fun iv wr=>∃ (i:Nat),iv=.int .i64 i/\i<=9/\i % 2=1/\Xn 97 L ((i+1) / 2) (600+i * 1950) (VA i) wr/\XY wr E 4 30 12 40 100 600 3 L.p 0/\Below w.heap.size w wr) (fun iv _=>9 - (intOf iv).toNat)
 case atStart=>exact⟨1,rfl,by decide,rfl,S0.out⟩
 case round =>
  clear S0
  obtain⟨i,rfl,hi,hi2,A,v',b'⟩:=hrel
  by_cases mr:(i:Int)<8
  . have HA:Hid (Xn 97 L ((i+1) / 2) (600+i * 1950) (VA i) wr):=A
    have HI2:Hid (i % 2=1):=hi2
    have yL:Hid (i<8):=by show i<8;omega
    have hask:=HA.out.ask (kd:=2) (k:=i) (by omega) (by decide) (by omega) (by omega) (Or.inr (Or.inl rfl)) yL.out (zY i) (show (if false=decide ((2:Int)≠2) then (1:Int) else 0)=1 by decide) yK
    have y0:=v'.v.c0
    have y1:=v'.v.c1
    have y2:=v'.v.c2
    have y3:=v'.v.c3
    have y4:=v'.v.c4
    have y5:=v'.v.c5
    have y6:=v'.v.c6
    have y7:=v'.v.c7
    have y8:=v'.v.c8
    clear A HA hi2
    go_wp2_with (go_at_call 7;refine hask.mono ?_;rintro e w4 ⟨RX,rfl,o4,a4⟩;clear hask;have A4:Hid (Xn 97 L ((i+1) / 2+1) (600+i * 1950+1950) (upd (VA i) i true) w4):=a4.up (Nat.add_le_add_left (by decide) _) (Nat.le_refl _);clear a4;have v4:=v'.only o4 HL.out;have b4:=VT b' o4 yM.out)
    go_roundw
    case rel=>exact⟨i+2,by go_num,by have:=yL.out;have:=HI2.out;omega,by have:=HI2.out;omega,(A4.out.up (by omega) (by omega)).as (zX HI2.out),v4,b4⟩
    case measure=>simp[intOf];omega
  . skip
    have A9:Hid (Xn 97 L 5 18150 (VA 9) wr):=by
     have e:i=9:=by omega
     rw[e] at A
     exact A
    clear A hi hi2
    obtain⟨K3,hK3,kY,hk3,hk4⟩:=tu z0
    obtain⟨κ,hκ⟩:∃ κ:Int,(z0.tmod 3+3).tmod 3=κ:=⟨_,rfl⟩
    have kX:0<=κ/\κ<3:=by omega
    have mi:Hid (1+κ=1\/1+κ=2\/1+κ=3):=by show 1+κ=1\/1+κ=2\/1+κ=3;omega
    have oN:Hid (TV (1+κ) k=true):=IG mi.out (by omega) (by have:=EU.out;omega)
    clear hK3
    have y0:=v'.v.c0
    have y1:=v'.v.c1
    have y2:=v'.v.c2
    have y3:=v'.v.c3
    have y4:=v'.v.c4
    have y5:=v'.v.c5
    have y6:=v'.v.c6
    have y7:=v'.v.c7
    have y8:=v'.v.c8
    go_wp2_with (go_at_call 8;refine(MV (1+κ) k 65536 oN.out _).mono ?_;rintro e w5 ⟨b,rfl,lr,g5,hb⟩;have v5:=v'.grown g5;have b5:=grow b' g5;have x8:=v5.v.c8;have xf:=v5.fz 8)
    have oM:=lr
    have pR:Hid (b≠E):=fun e=>by have:=WY v';omega
    have A6:Hid (Xn 97 L 5 18150 (VA 9) (wr.setCell ⟨E,8,none⟩ (.int .i64 3))):=A9.out.only (Only.setCell (a:=⟨E,8,none⟩) (Only.refl (fun y=>y=E) _) (fun _=>rfl) _) (fun x hx e=>HL.out (e ▸ hx))
    have g6:=Kr (x:=3) g5 v' v5
    have mf:ZB (w5.setCell ⟨E,8,none⟩ (.int .i64 3)) b (.pointer none) (xx (1+κ) k 65536):=by obtain⟨c,hl⟩:=lr;exact⟨c,hl.other pR.out 8 (.int .i64 3)⟩
    have ez:(wr.setCell ⟨E,8,none⟩ (.int .i64 3)).heap.size=wr.heap.size:=by simp
    have K6:=A6.out.stk mi.out EU.out g6 (by rw[ez];exact hb) mf
    have v6:=v5.set 3
    have b6:=Z5 b5 HE.out 8 (.int .i64 3)
    have v0:=v'.set 3
    have b0:=Z5 b' HE.out 8 (.int .i64 3)
    have S6:Hid (zV L k 18150 b (VA 9) (wr.setCell ⟨E,8,none⟩ (.int .i64 3)) (w5.setCell ⟨E,8,none⟩ (.int .i64 3))/\XY (w5.setCell ⟨E,8,none⟩ (.int .i64 3)) E 4 30 12 40 100 600 3 L.p 3/\Below w.heap.size w (w5.setCell ⟨E,8,none⟩ (.int .i64 3))):=⟨K6,v6,b6⟩
    have hbb:(wr.setCell ⟨E,8,none⟩ (.int .i64 3)).heap.size<=b:=by rw[ez];exact hb
    have kW:Hid (XY (wr.setCell ⟨E,8,none⟩ (.int .i64 3)) E 4 30 12 40 100 600 3 L.p 3):=v0
    have HB0:Hid (Below w.heap.size w (wr.setCell ⟨E,8,none⟩ (.int .i64 3))):=b0
    clear K6 v6 b6 v0 b0 A6 g6 mf ez lr oM A9 v' b' v5 b5 g5 hb
    generalize wr.setCell ⟨E,8,none⟩ (.int .i64 3)=wb at *
    clear y0 y1 y2 y3 y4 y5 y6 y7 y8
    obtain⟨N,hN,kV⟩:=tN z2 255 8 (by decide) (by decide)
    have iQ:Hid ((N:Int)<=255):=kV
    go_loopw [14] (fun iv wx=>∃ j:Nat,iv=.int .i64 j/\j<=255/\zV L k (18150+j) b (VA 9) wb wx/\XY wx E 4 30 12 40 100 600 3 L.p 3/\Below w.heap.size w wx) (fun iv _=>255 - (intOf iv).toNat)
    case atStart=>exact⟨0,rfl,by decide,S6.out⟩
    case round =>
     clear S6 x8 xf
     obtain⟨j,rfl,hj,K0,v',b'⟩:=hrel
     have qQ:Hid (zV L k (18150+j) b (VA 9) wb wr):=K0
     clear K0
     by_cases hj2:(j:Int)<(N:Int)
     . have hst:=qQ.out.step (by omega) hbb
       have y0:=v'.v.c0
       have y1:=v'.v.c1
       have y2:=v'.v.c2
       have y3:=v'.v.c3
       have y4:=v'.v.c4
       have y5:=v'.v.c5
       have y6:=v'.v.c6
       have y7:=v'.v.c7
       have y8:=v'.v.c8
       clear qQ
       go_wp2_with (go_at_call 9;refine hst.mono ?_;rintro e w6 ⟨d,rfl,o6,⟨rfl,K6⟩ | ⟨rfl,K6⟩⟩ <;> (have v6:=kW.out.only o6 HL.out;have b6:=VT HB0.out o6 yM.out;have x8:=v6.v.c8;have xf:=v6.fz 8;have u0:=(v6.set 0).v.c0;have u1:=(v6.set 0).v.c1;have u2:=(v6.set 0).v.c2;have u3:=(v6.set 0).v.c3;have u4:=(v6.set 0).v.c4;have u5:=(v6.set 0).v.c5;have u6:=(v6.set 0).v.c6;have u7:=(v6.set 0).v.c7;have u8:=(v6.set 0).v.c8))
       . go_roundw
         case rel=>exact⟨j+1,by go_num,by omega,K6,v6,b6⟩
         case measure=>simp[intOf];omega
       . clear hst
         have AL:zU L k 18500 (VA 9) w6:=by obtain⟨zk,q⟩:=K6;exact⟨zk,q.up (Nat.le_refl _) (by omega)⟩
         clear K6 v' b'
         have v':=v6
         have b':=b6
         clear v6 b6 o6 y0 y1 y2 y3 y4 y5 y6 y7 y8 u0 u1 u2 u3 u4 u5 u6 u7 u8 x8 xf
         generalize w6=Wc at *
         obtain⟨zk,A0⟩:=AL
         obtain⟨z1,hz1⟩:∃ z1,upd (VA 9) k zk=z1:=⟨_,rfl⟩
         rw[hz1] at A0
         have tq:Hid (z1 k=zk):=by show z1 k=zk;rw[<- hz1,upd_same]
         have oL:Hid (∀ i,i<8->i≠k->z1 i=decide (i % 2=1)):=fun i hi hik=>by
          rw[<- hz1,Z7 _ _ _ _ hik]
          unfold VA
          exact decide_eq_decide.2 (by omega)
         obtain⟨v0,hv0⟩:∃ v0:Int,(if zk=decide ((1:Int)≠2) then (1:Int) else 0)=v0:=⟨_,rfl⟩
         obtain⟨va,hva⟩:∃ va:Int,(if zk=decide ((2:Int)≠2) then (1:Int) else 0)=va:=⟨_,rfl⟩
         have hsub:1 - v0=va:=by rw[<- hv0,<- hva];cases zk <;> decide
         have hvb:0<=v0/\v0<=1:=by rw[<- hv0];cases zk <;> decide
         have oK:Hid ((if zk=decide ((2:Int)≠2) then (1:Int) else 0)=va):=hva
         have A1:Hid (Xn 12 L 6 18500 z1 (Wc.setCell ⟨E,8,none⟩ (.int .i64 0))):=A0.only (Only.setCell (a:=⟨E,8,none⟩) (Only.refl (fun y=>y=E) _) (fun _=>rfl) _) (fun x hx e=>HL.out (e ▸ hx))
         have hask:=A1.out.ask (kd:=1) (k:=k) (by decide) (by decide) (by decide) (by decide) (Or.inl rfl) EU.out tq.out hv0 Pz
         have v1:=v'.set 0
         have b1:=Z5 b' HE.out 8 (.int .i64 0)
         have vf:=v'.fz 8
         have y8:=v'.v.c8
         obtain⟨u0,u1,u2,u3,u4,u5,u6,u7,u8⟩:=v1.v
         clear A0 hv0 hva A1 hz1
         go_wp2_with (go_at_call 7;refine hask.mono ?_;rintro e w3 ⟨st,rfl,o3,a3⟩;clear hask;have A3:Hid (Xn 12 L 6 (18500+1950) z1 w3):=a3.up (by decide) (Nat.le_refl _);clear a3;have v3:=v1.only o3 HL.out;have b3:=VT b1 o3 yM.out;have d3:=At.new w3 33 [.int .i64 0,.int .u64 0,.int .i64 v0,.int .i64 st])
         obtain⟨Xw,Kq⟩:∃ Xw,w3.heap.size=Xw:=⟨_,rfl⟩
         have D8:Hid (¬ L.has Xw):=fun hh=>by have:=A3.out.lt hh;omega
         have oJ:Hid (w.heap.size<=Xw):=by have:=b3.size;show w.heap.size<=Xw;omega
         have S4:Hid (Xu L z1 k 21000 0 (w3.alloc (.cells #[.int .i64 0,.int .u64 0,.int .i64 v0,.int .i64 st] 33))/\XY (w3.alloc (.cells #[.int .i64 0,.int .u64 0,.int .i64 v0,.int .i64 st] 33)) E 4 30 12 40 100 600 3 L.p 0/\Below w.heap.size w (w3.alloc (.cells #[.int .i64 0,.int .u64 0,.int .i64 v0,.int .i64 st] 33))):=⟨(A3.out.grown (ZY _ _)).up (Nat.le_refl _) (by decide),v3.grown (ZY _ _),grow b3 (ZY _ _)⟩
         rw[Kq] at d3
         simp only[Kq]
         clear A3 v3 b3 o3 v1 b1 v' b' vf y8 u0 u1 u2 u3 u4 u5 u6 u7 u8 Kq
         generalize w3.alloc (.cells #[.int .i64 0,.int .u64 0,.int .i64 v0,.int .i64 st] 33)=W at S4 d3 ⊢
         obtain⟨k1,vE,bW⟩:=S4.out
         have sZ:Hid (Xu L z1 k 21000 0 W):=k1
         have Gt:Hid (XY W E 4 30 12 40 100 600 3 L.p 0):=vE
         have dW:=d3
         obtain⟨Sz,hSz⟩:∃ Sz,W.heap.size=Sz:=⟨_,rfl⟩
         have oH:E<Sz:=by rw[<- hSz];exact WY vE
         have oG:Xw<Sz:=by rw[<- hSz];exact d3.lt
         have VK:∀ k,L.has k->k<Sz:=fun k hk=>by have:=Xn.lt k1 hk;omega
         have MS:∀ (x1 y1:World) (v:Value),Only L.has x1 y1->(∃ X,v=.pointer (some ⟨X,0,none⟩)/\Sz<=X/\At x1 X 0 33 #[.int .i64 0,.int .u64 0,.int .i64 0,.int .i64 0] [.int .i64 0,.int .u64 0,.int .i64 0,.int .i64 0])->∃ X,v=.pointer (some ⟨X,0,none⟩)/\Sz<=X/\At y1 X 0 33 #[.int .i64 0,.int .u64 0,.int .i64 0,.int .i64 0] [.int .i64 0,.int .u64 0,.int .i64 0,.int .i64 0]:=by
          rintro x1 y1 v hg ⟨X,hv,hb,hr⟩
          exact⟨X,hv,hb,hr.only hg (fun hh=>by have:=VK _ hh;omega)⟩
         clear k1 vE S4 d3
         refine Yf (Only L.has) Grown (Xu L z1 k 21000) 20 [(16,16),(17,17),(18,18),(19,19)] (.cells #[.int .i64 0,.int .u64 0,.int .i64 0,.int .i64 0] 33) [3,7,11,15] [.val (.agg #[.int .i64 4,.int .i64 30,.int .i64 12,.int .i64 40,.int .i64 100,.int .i64 600,.int .i64 3,.pointer (some ⟨L.p,0,none⟩),.int .i64 0]),.val (.int .u64 65536),.val (.int .i64 k),.that (fun _ x=>∃ st:Int,x=.agg #[.int .i64 0,.int .u64 0,.int .i64 va,.int .i64 st]) (fun _ _ _ _ h=>h),.val (.agg #[.int .i64 4,.int .i64 30,.int .i64 12,.int .i64 40,.int .i64 100,.int .i64 600,.int .i64 3,.pointer (some ⟨L.p,0,none⟩),.int .i64 0]),.val (.int .u64 65536),.val (.int .i64 k),.that (fun _ x=>∃ st:Int,x=.agg #[.int .i64 0,.int .u64 0,.int .i64 1,.int .i64 st]) (fun _ _ _ _ h=>h),.val (.agg #[.int .i64 4,.int .i64 30,.int .i64 12,.int .i64 40,.int .i64 100,.int .i64 600,.int .i64 3,.pointer (some ⟨L.p,0,none⟩),.int .i64 0]),.val (.int .u64 65536),.val (.int .i64 k),.that (fun _ x=>∃ st:Int,x=.agg #[.int .i64 0,.int .u64 0,.int .i64 1,.int .i64 st]) (fun _ _ _ _ h=>h),.val (.agg #[.int .i64 4,.int .i64 30,.int .i64 12,.int .i64 40,.int .i64 100,.int .i64 600,.int .i64 3,.pointer (some ⟨L.p,0,none⟩),.int .i64 0]),.val (.int .u64 65536),.val (.int .i64 k),.that (fun _ x=>∃ st:Int,x=.agg #[.int .i64 0,.int .u64 0,.int .i64 0,.int .i64 st]) (fun _ _ _ _ h=>h),.that (fun w' x=>∃ X,x=.pointer (some ⟨X,0,none⟩)/\Sz<=X/\At w' X 0 33 #[.int .i64 0,.int .u64 0,.int .i64 0,.int .i64 0] [.int .i64 0,.int .u64 0,.int .i64 0,.int .i64 0]) MS,.that (fun w' x=>∃ X,x=.pointer (some ⟨X,0,none⟩)/\Sz<=X/\At w' X 0 33 #[.int .i64 0,.int .u64 0,.int .i64 0,.int .i64 0] [.int .i64 0,.int .u64 0,.int .i64 0,.int .i64 0]) MS,.that (fun w' x=>∃ X,x=.pointer (some ⟨X,0,none⟩)/\Sz<=X/\At w' X 0 33 #[.int .i64 0,.int .u64 0,.int .i64 0,.int .i64 0] [.int .i64 0,.int .u64 0,.int .i64 0,.int .i64 0]) MS,.that (fun w' x=>∃ X,x=.pointer (some ⟨X,0,none⟩)/\Sz<=X/\At w' X 0 33 #[.int .i64 0,.int .u64 0,.int .i64 0,.int .i64 0] [.int .i64 0,.int .u64 0,.int .i64 0,.int .i64 0]) MS] (by kernel_rfl) (Only.refl _) (fun _ _ _ h k=>h.trans k) (fun x y h=>Only.ZZ h) (Vz L z1 k 21000) (Vz L z1 k 21000 _ _ 0 ((Below.refl _ _).drew) sZ.out) (by decide) (fun x y h=>h.size) (by kernel_rfl) (by simp) ?_ (by kernel_rfl) (by kernel_rfl) (by kernel_rfl) (by kernel_rfl) (by kernel_rfl) (by kernel_rfl) (by kernel_rfl) (by kernel_rfl) ?_
         . intro e he o ev w' ho
           simp only[List.mem_cons,List.not_mem_nil,or_false] at he
           rcases he with rfl | rfl | rfl | rfl <;>
            (simp only[List.getElem?_toArray,List.getElem?_cons_succ,List.getElem?_cons_zero,Option.some.injEq] at ho
             subst ho
             go_simp)
         simp only[List.take_succ_cons,List.take_zero,Zv,Act.put,List.setIfInBounds_toArray,List.set_cons_zero,List.set_cons_succ]
         refine⟨?_,?_⟩
         . intro w' hR _
           apply ol
           obtain⟨y0,y1,y2,y3,y4,y5,y6,y7,y8⟩:=(Gt.out.v.grown ((Below.refl _ _).drew)).only hR HL.out
           go_simp
           exact gl
         refine⟨?_,?_⟩
         . intros;apply ol;go_simp;exact gl
         refine⟨?_,?_⟩
         . intros;apply ol;go_simp;exact gl
         refine⟨?_,?_⟩
         . intro w' hR _ hP
           apply ol
           have hP:Xu L z1 k 21000 0 w':=hP
           go_simp
           refine(D7 EU.out (by decide) tq.out oK.out hP).mono ?_
           rintro e w'' ⟨st,rfl,h1,h2⟩
           exact⟨_,rfl,⟨h2,h1⟩,st,rfl⟩
         intro x0
         refine⟨?_,?_⟩
         . intro w' hR _
           apply ol
           obtain⟨y0,y1,y2,y3,y4,y5,y6,y7,y8⟩:=(Gt.out.v.grown ((Below.refl _ _).drew)).only hR HL.out
           go_simp
           exact gl
         refine⟨?_,?_⟩
         . intros;apply ol;go_simp;exact gl
         refine⟨?_,?_⟩
         . intros;apply ol;go_simp;exact gl
         refine⟨?_,?_⟩
         . intro w' hR _ hP
           apply ol
           have hP:Xu L z1 k 21000 1 w':=hP
           go_simp
           refine(D6 EU.out (by decide) hP).mono ?_
           rintro e w'' ⟨st,rfl,h1,h2⟩
           exact⟨_,rfl,⟨h2,h1⟩,st,rfl⟩
         intro x1
         refine⟨?_,?_⟩
         . intro w' hR _
           apply ol
           obtain⟨y0,y1,y2,y3,y4,y5,y6,y7,y8⟩:=(Gt.out.v.grown ((Below.refl _ _).drew)).only hR HL.out
           go_simp
           exact gl
         refine⟨?_,?_⟩
         . intros;apply ol;go_simp;exact gl
         refine⟨?_,?_⟩
         . intros;apply ol;go_simp;exact gl
         refine⟨?_,?_⟩
         . intro w' hR _ hP
           apply ol
           have hP:Xu L z1 k 21000 2 w':=hP
           go_simp
           refine(D5 EU.out (by decide) hP).mono ?_
           rintro e w'' ⟨st,rfl,h1,h2⟩
           exact⟨_,rfl,⟨h2,h1⟩,st,rfl⟩
         intro x2
         refine⟨?_,?_⟩
         . intro w' hR _
           apply ol
           obtain⟨y0,y1,y2,y3,y4,y5,y6,y7,y8⟩:=(Gt.out.v.grown ((Below.refl _ _).drew)).only hR HL.out
           go_simp
           exact gl
         refine⟨?_,?_⟩
         . intros;apply ol;go_simp;exact gl
         refine⟨?_,?_⟩
         . intros;apply ol;go_simp;exact gl
         refine⟨?_,?_⟩
         . intro w' hR _ hP
           apply ol
           have hP:Xu L z1 k 21000 3 w':=hP
           go_simp
           refine(DZ EU.out (by decide) hP).mono ?_
           rintro e w'' ⟨st,rfl,h1,h2⟩
           exact⟨_,rfl,⟨h2,h1⟩,st,rfl⟩
         intro x3
         refine⟨?_,?_⟩
         . intro w' hR _
           apply ol
           go_simp
           exact⟨ZY _ _,_,rfl,by have:=hR.size;rw[show W.drew.heap.size=W.heap.size from rfl] at this;omega,At.new w' 33 [.int .i64 0,.int .u64 0,.int .i64 0,.int .i64 0]⟩
         intro p0
         refine⟨?_,?_⟩
         . intro w' hR _
           apply ol
           go_simp
           exact⟨ZY _ _,_,rfl,by have:=hR.size;rw[show W.drew.heap.size=W.heap.size from rfl] at this;omega,At.new w' 33 [.int .i64 0,.int .u64 0,.int .i64 0,.int .i64 0]⟩
         intro p1
         refine⟨?_,?_⟩
         . intro w' hR _
           apply ol
           go_simp
           exact⟨ZY _ _,_,rfl,by have:=hR.size;rw[show W.drew.heap.size=W.heap.size from rfl] at this;omega,At.new w' 33 [.int .i64 0,.int .u64 0,.int .i64 0,.int .i64 0]⟩
         intro p2
         refine⟨?_,?_⟩
         . intro w' hR _
           apply ol
           go_simp
           exact⟨ZY _ _,_,rfl,by have:=hR.size;rw[show W.drew.heap.size=W.heap.size from rfl] at this;omega,At.new w' 33 [.int .i64 0,.int .u64 0,.int .i64 0,.int .i64 0]⟩
         intro p3
         intro w5 hR hP facts hne
         obtain⟨⟨Xd,rfl,qP,ad⟩,⟨Xc,rfl,qO,ac⟩,⟨Xb,rfl,qN,ab⟩,⟨Xa,rfl,qM,aa⟩,⟨MR,rfl⟩,⟨st2,rfl⟩,⟨st1,rfl⟩,⟨st0,rfl⟩,-⟩:=facts
         have nab:Xa≠Xb:=fun e=>hne (16,16) (by simp) (17,17) (by simp) (by decide) (by subst e;simp[Act.eval])
         have vK:Xa≠Xc:=fun e=>hne (16,16) (by simp) (18,18) (by simp) (by decide) (by subst e;simp[Act.eval])
         have vJ:Xa≠Xd:=fun e=>hne (16,16) (by simp) (19,19) (by simp) (by decide) (by subst e;simp[Act.eval])
         have vI:Xb≠Xa:=fun e=>hne (17,17) (by simp) (16,16) (by simp) (by decide) (by subst e;simp[Act.eval])
         have vH:Xb≠Xc:=fun e=>hne (17,17) (by simp) (18,18) (by simp) (by decide) (by subst e;simp[Act.eval])
         have vG:Xb≠Xd:=fun e=>hne (17,17) (by simp) (19,19) (by simp) (by decide) (by subst e;simp[Act.eval])
         have vF:Xc≠Xa:=fun e=>hne (18,18) (by simp) (16,16) (by simp) (by decide) (by subst e;simp[Act.eval])
         have vC:Xc≠Xb:=fun e=>hne (18,18) (by simp) (17,17) (by simp) (by decide) (by subst e;simp[Act.eval])
         have vz:Xc≠Xd:=fun e=>hne (18,18) (by simp) (19,19) (by simp) (by decide) (by subst e;simp[Act.eval])
         have vw:Xd≠Xa:=fun e=>hne (19,19) (by simp) (16,16) (by simp) (by decide) (by subst e;simp[Act.eval])
         have vk:Xd≠Xb:=fun e=>hne (19,19) (by simp) (17,17) (by simp) (by decide) (by subst e;simp[Act.eval])
         have vg:Xd≠Xc:=fun e=>hne (19,19) (by simp) (18,18) (by simp) (by decide) (by subst e;simp[Act.eval])
         have qL:=aa.at0 0 rfl
         have qK:=aa.at0 1 rfl
         have qJ:=aa.at0 2 rfl
         have qI:=aa.at0 3 rfl
         have af:=aa.fz
         have bx0:=ab.at0 0 rfl
         have bx1:=ab.at0 1 rfl
         have qG:=ab.at0 2 rfl
         have qF:=ab.at0 3 rfl
         have bf:=ab.fz
         have qE:=ac.at0 0 rfl
         have qC:=ac.at0 1 rfl
         have qB:=ac.at0 2 rfl
         have qA:=ac.at0 3 rfl
         have cf:=ac.fz
         have qy:=ad.at0 0 rfl
         have qx:=ad.at0 1 rfl
         have qw:=ad.at0 2 rfl
         have qp:=ad.at0 3 rfl
         have df:=ad.fz
         have b5:Below w.heap.size w w5:=VT (grow bW ((Below.refl _ _).drew)) hR yM.out
         have hwz:w.heap.size<=Sz:=by have:=bW.size;omega
         have oD:=oJ.out
         have hL5:Hid (¬ L.has Xw/\¬ L.has Xa/\¬ L.has Xb/\¬ L.has Xc/\¬ L.has Xd):=⟨D8.out,fun h=>by have:=VK _ h;omega,fun h=>by have:=VK _ h;omega,fun h=>by have:=VK _ h;omega,fun h=>by have:=VK _ h;omega⟩
         have v5:=(Gt.out.grown ((Below.refl _ _).drew)).only hR HL.out
         have sW:=(dW.grown ((Below.refl _ _).drew)).only hR D8.out
         have oa:Only (fun y=>y=Xa\/y=Xb\/y=Xc\/y=Xd) w5 _:=XV (Only.refl _ _) (Or.inl rfl) (.int .i64 0) (.int .u64 0) (.int .i64 va) (.int .i64 st0)
         have ob:Only (fun y=>y=Xa\/y=Xb\/y=Xc\/y=Xd) w5 _:=XV oa (Or.inr (Or.inl rfl)) (.int .i64 0) (.int .u64 0) (.int .i64 1) (.int .i64 st1)
         have oc:Only (fun y=>y=Xa\/y=Xb\/y=Xc\/y=Xd) w5 _:=XV ob (Or.inr (Or.inr (Or.inl rfl))) (.int .i64 0) (.int .u64 0) (.int .i64 1) (.int .i64 st2)
         have od:Only (fun y=>y=Xa\/y=Xb\/y=Xc\/y=Xd) w5 _:=XV oc (Or.inr (Or.inr (Or.inr rfl))) (.int .i64 0) (.int .u64 0) (.int .i64 0) (.int .i64 MR)
         obtain⟨_,za⟩:=Wl aa (.int .i64 0) (.int .u64 0) (.int .i64 va) (.int .i64 st0)
         have za:=Zx za nab (.int .i64 0) (.int .u64 0) (.int .i64 1) (.int .i64 st1)
         have za:=Zx za vK (.int .i64 0) (.int .u64 0) (.int .i64 1) (.int .i64 st2)
         have za:=Zx za vJ (.int .i64 0) (.int .u64 0) (.int .i64 0) (.int .i64 MR)
         have zb:=Zx ab vI (.int .i64 0) (.int .u64 0) (.int .i64 va) (.int .i64 st0)
         obtain⟨_,zb⟩:=Wl zb (.int .i64 0) (.int .u64 0) (.int .i64 1) (.int .i64 st1)
         have zb:=Zx zb vH (.int .i64 0) (.int .u64 0) (.int .i64 1) (.int .i64 st2)
         have zb:=Zx zb vG (.int .i64 0) (.int .u64 0) (.int .i64 0) (.int .i64 MR)
         have zc:=Zx ac vF (.int .i64 0) (.int .u64 0) (.int .i64 va) (.int .i64 st0)
         have zc:=Zx zc vC (.int .i64 0) (.int .u64 0) (.int .i64 1) (.int .i64 st1)
         obtain⟨_,zc⟩:=Wl zc (.int .i64 0) (.int .u64 0) (.int .i64 1) (.int .i64 st2)
         have zc:=Zx zc vz (.int .i64 0) (.int .u64 0) (.int .i64 0) (.int .i64 MR)
         have zd:=Zx ad vw (.int .i64 0) (.int .u64 0) (.int .i64 va) (.int .i64 st0)
         have zd:=Zx zd vk (.int .i64 0) (.int .u64 0) (.int .i64 1) (.int .i64 st1)
         have zd:=Zx zd vg (.int .i64 0) (.int .u64 0) (.int .i64 1) (.int .i64 st2)
         obtain⟨_,zd⟩:=Wl zd (.int .i64 0) (.int .u64 0) (.int .i64 0) (.int .i64 MR)
         have sV:¬ (E=Xa\/E=Xb\/E=Xc\/E=Xd):=fun h=>by omega
         have sU:¬ (Xw=Xa\/Xw=Xb\/Xw=Xc\/Xw=Xd):=fun h=>by omega
         have zv:=v5.only od sV
         have zw:=sW.only od sU
         have sS:=Xn.only (show Xn 12 L 7 (21000+4 * 1950) (N7 z1 k 4) w5 from hP) od (fun x hx e=>by rcases e with e | e | e | e;exact hL5.out.2.1 (e ▸ hx);exact hL5.out.2.2.1 (e ▸ hx);exact hL5.out.2.2.2.1 (e ▸ hx);exact hL5.out.2.2.2.2 (e ▸ hx))
         have sQ:Below w.heap.size w _:=b5.trans (od.below b5.size (fun x hx e=>by omega))
         have S9:Hid (∃ W9,((((((((((((((((w5.setCell ⟨Xa,0,none⟩ (.int .i64 0)).setCell ⟨Xa,1,none⟩ (.int .u64 0)).setCell ⟨Xa,2,none⟩ (.int .i64 va)).setCell ⟨Xa,3,none⟩ (.int .i64 st0)).setCell ⟨Xb,0,none⟩ (.int .i64 0)).setCell ⟨Xb,1,none⟩ (.int .u64 0)).setCell ⟨Xb,2,none⟩ (.int .i64 1)).setCell ⟨Xb,3,none⟩ (.int .i64 st1)).setCell ⟨Xc,0,none⟩ (.int .i64 0)).setCell ⟨Xc,1,none⟩ (.int .u64 0)).setCell ⟨Xc,2,none⟩ (.int .i64 1)).setCell ⟨Xc,3,none⟩ (.int .i64 st2)).setCell ⟨Xd,0,none⟩ (.int .i64 0)).setCell ⟨Xd,1,none⟩ (.int .u64 0)).setCell ⟨Xd,2,none⟩ (.int .i64 0)).setCell ⟨Xd,3,none⟩ (.int .i64 MR))=W9/\Xn 12 L 7 28800 (N7 z1 k 4) W9/\XY W9 E 4 30 12 40 100 600 3 L.p 0/\Below w.heap.size w W9/\OA W9 Xw Xa Xb Xc Xd v0 va):=⟨_,rfl,sS,zv,sQ,zw.at0 0 rfl,zw.at0 2 rfl,za.at0 0 rfl,za.at0 2 rfl,zb.at0 2 rfl,zc.at0 2 rfl,zd.at0 2 rfl⟩
         clear sS zv zb sQ zw za zc zd hP hR hne sZ Gt bW VK MS hSz sW v5 aa ab ac ad b5 dW oa ob oc od sV sU
         go_wp2
         obtain⟨W9,sO,S9⟩:=S9.out
         rw[sO]
         clear sO
         have S9:Hid (Xn 12 L 7 28800 (N7 z1 k 4) W9/\XY W9 E 4 30 12 40 100 600 3 L.p 0/\Below w.heap.size w W9/\OA W9 Xw Xa Xb Xc Xd v0 va):=S9
         clear nab vK vJ vI vH vG vF vC vz vw vk vg qL qK qJ qI af bx0 bx1 qG qF bf qE qC qB qA cf qy qx qw qp df qM qN qO qP oG oH hwz oD
         go_loopw [20] (fun iv wx=>∃ i:Nat,iv=.int .i64 i/\i<=8/\Xn 12 L 7 (28800+i * 1950) (N7 z1 k 4) wx/\XY wx E 4 30 12 40 100 600 3 L.p 0/\Below w.heap.size w wx/\OA wx Xw Xa Xb Xc Xd v0 va) (fun iv _=>8 - (intOf iv).toNat)
         case atStart=>exact⟨0,rfl,by decide,S9.out⟩
         case round =>
          clear S9
          obtain⟨i,rfl,hi,A9,v9,b9,f9⟩:=hrel
          have xw:Hid (Xn 12 L 7 (28800+i * 1950) (N7 z1 k 4) wr):=A9
          clear A9
          by_cases mr:(i:Int)<8
          . obtain⟨wt,hwt⟩:∃ wt:Int,(i:Int).tmod 2=wt:=⟨_,rfl⟩
            have DY:wt=((i % 2:Nat):Int):=by rw[<- hwt,Int.tmod_eq_emod_of_nonneg (by omega)];omega
            have vT:Hid (wt=((i % 2:Nat):Int)):=DY
            clear DY
            by_cases hik:i=k
            . have hne:((i:Int) != (k:Int))=false:=by rw[hik];simp
              go_wp2
              go_roundw
              case rel=>exact⟨i+1,by go_num,by omega,xw.out.up (Nat.le_refl _) (by omega),v9,b9,f9⟩
              case measure=>simp[intOf];omega
            . have hne:((i:Int) != (k:Int))=true:=by simp;omega
              have yL:Hid (i<8):=by show i<8;omega
              have hz:N7 z1 k 4 i=decide (i % 2=1):=(Z7 _ _ _ _ hik).trans ((Z7 _ _ _ _ hik).trans (oL.out i yL.out hik))
              have hv:(if (decide (i % 2=1))=decide ((1:Int)≠2) then (1:Int) else 0)=wt:=by
               rw[vT.out]
               by_cases c:i % 2=1
               . rw[c];rfl
               . rw[show i % 2=0 by omega];rfl
              have hask:=xw.out.ask (kd:=1) (k:=i) (by decide) (by decide) (by decide) (by omega) (Or.inl rfl) yL.out hz hv Pz
              obtain⟨y0,y1,y2,y3,y4,y5,y6,y7,y8⟩:=v9.v
              clear xw hz hv hik
              go_wp2_with (go_at_call 7;refine hask.mono ?_;rintro e w4 ⟨RX,rfl,o4,a4⟩;clear hask;have A4:Hid (Xn 12 L 7 (28800+i * 1950+1950) (N7 z1 k 4) w4):=a4.up (by decide) (Nat.le_refl _);clear a4;have v4:=v9.only o4 HL.out;have b4:=VT b9 o4 yM.out;have f4:=f9.only o4 hL5.out)
              go_roundw
              case rel=>exact⟨i+1,by go_num,by omega,A4.out.up (Nat.le_refl _) (by omega),v4,b4,f4⟩
              case measure=>simp[intOf];omega
          . have g0:=f9.w0
            have g1:=f9.w2
            have g2:=f9.a0
            have g3:=f9.a2
            have g4:=f9.b2
            have g5:=f9.c2
            have g6:=f9.d2
            go_wp2
            go_ret
            exact⟨rfl,b9⟩
     . have AL:zU L k 18500 (VA 9) wr:=by obtain⟨zk,q⟩:=qQ.out.left;exact⟨zk,q.up (Nat.le_refl _) (by omega)⟩
       clear qQ
       generalize wr=Wc at *
       obtain⟨zk,A0⟩:=AL
       obtain⟨z1,hz1⟩:∃ z1,upd (VA 9) k zk=z1:=⟨_,rfl⟩
       rw[hz1] at A0
       have tq:Hid (z1 k=zk):=by show z1 k=zk;rw[<- hz1,upd_same]
       have oL:Hid (∀ i,i<8->i≠k->z1 i=decide (i % 2=1)):=fun i hi hik=>by
        rw[<- hz1,Z7 _ _ _ _ hik]
        unfold VA
        exact decide_eq_decide.2 (by omega)
       obtain⟨v0,hv0⟩:∃ v0:Int,(if zk=decide ((1:Int)≠2) then (1:Int) else 0)=v0:=⟨_,rfl⟩
       obtain⟨va,hva⟩:∃ va:Int,(if zk=decide ((2:Int)≠2) then (1:Int) else 0)=va:=⟨_,rfl⟩
       have hsub:1 - v0=va:=by rw[<- hv0,<- hva];cases zk <;> decide
       have hvb:0<=v0/\v0<=1:=by rw[<- hv0];cases zk <;> decide
       have oK:Hid ((if zk=decide ((2:Int)≠2) then (1:Int) else 0)=va):=hva
       have A1:Hid (Xn 12 L 6 18500 z1 (Wc.setCell ⟨E,8,none⟩ (.int .i64 0))):=A0.only (Only.setCell (a:=⟨E,8,none⟩) (Only.refl (fun y=>y=E) _) (fun _=>rfl) _) (fun x hx e=>HL.out (e ▸ hx))
       have hask:=A1.out.ask (kd:=1) (k:=k) (by decide) (by decide) (by decide) (by decide) (Or.inl rfl) EU.out tq.out hv0 Pz
       have v1:=v'.set 0
       have b1:=Z5 b' HE.out 8 (.int .i64 0)
       have vf:=v'.fz 8
       have y8:=v'.v.c8
       obtain⟨u0,u1,u2,u3,u4,u5,u6,u7,u8⟩:=v1.v
       clear A0 hv0 hva A1 hz1
       go_wp2_with (go_at_call 7;refine hask.mono ?_;rintro e w3 ⟨st,rfl,o3,a3⟩;clear hask;have A3:Hid (Xn 12 L 6 (18500+1950) z1 w3):=a3.up (by decide) (Nat.le_refl _);clear a3;have v3:=v1.only o3 HL.out;have b3:=VT b1 o3 yM.out;have d3:=At.new w3 33 [.int .i64 0,.int .u64 0,.int .i64 v0,.int .i64 st])
       obtain⟨Xw,Kq⟩:∃ Xw,w3.heap.size=Xw:=⟨_,rfl⟩
       have D8:Hid (¬ L.has Xw):=fun hh=>by have:=A3.out.lt hh;omega
       have oJ:Hid (w.heap.size<=Xw):=by have:=b3.size;show w.heap.size<=Xw;omega
       have S4:Hid (Xu L z1 k 21000 0 (w3.alloc (.cells #[.int .i64 0,.int .u64 0,.int .i64 v0,.int .i64 st] 33))/\XY (w3.alloc (.cells #[.int .i64 0,.int .u64 0,.int .i64 v0,.int .i64 st] 33)) E 4 30 12 40 100 600 3 L.p 0/\Below w.heap.size w (w3.alloc (.cells #[.int .i64 0,.int .u64 0,.int .i64 v0,.int .i64 st] 33))):=⟨(A3.out.grown (ZY _ _)).up (Nat.le_refl _) (by decide),v3.grown (ZY _ _),grow b3 (ZY _ _)⟩
       rw[Kq] at d3
       simp only[Kq]
       clear A3 v3 b3 o3 v1 b1 v' b' vf y8 u0 u1 u2 u3 u4 u5 u6 u7 u8 Kq
       generalize w3.alloc (.cells #[.int .i64 0,.int .u64 0,.int .i64 v0,.int .i64 st] 33)=W at S4 d3 ⊢
       obtain⟨k1,vE,bW⟩:=S4.out
       have sZ:Hid (Xu L z1 k 21000 0 W):=k1
       have Gt:Hid (XY W E 4 30 12 40 100 600 3 L.p 0):=vE
       have dW:=d3
       obtain⟨Sz,hSz⟩:∃ Sz,W.heap.size=Sz:=⟨_,rfl⟩
       have oH:E<Sz:=by rw[<- hSz];exact WY vE
       have oG:Xw<Sz:=by rw[<- hSz];exact d3.lt
       have VK:∀ k,L.has k->k<Sz:=fun k hk=>by have:=Xn.lt k1 hk;omega
       have MS:∀ (x1 y1:World) (v:Value),Only L.has x1 y1->(∃ X,v=.pointer (some ⟨X,0,none⟩)/\Sz<=X/\At x1 X 0 33 #[.int .i64 0,.int .u64 0,.int .i64 0,.int .i64 0] [.int .i64 0,.int .u64 0,.int .i64 0,.int .i64 0])->∃ X,v=.pointer (some ⟨X,0,none⟩)/\Sz<=X/\At y1 X 0 33 #[.int .i64 0,.int .u64 0,.int .i64 0,.int .i64 0] [.int .i64 0,.int .u64 0,.int .i64 0,.int .i64 0]:=by
        rintro x1 y1 v hg ⟨X,hv,hb,hr⟩
        exact⟨X,hv,hb,hr.only hg (fun hh=>by have:=VK _ hh;omega)⟩
       clear k1 vE S4 d3
       refine Yf (Only L.has) Grown (Xu L z1 k 21000) 20 [(16,16),(17,17),(18,18),(19,19)] (.cells #[.int .i64 0,.int .u64 0,.int .i64 0,.int .i64 0] 33) [3,7,11,15] [.val (.agg #[.int .i64 4,.int .i64 30,.int .i64 12,.int .i64 40,.int .i64 100,.int .i64 600,.int .i64 3,.pointer (some ⟨L.p,0,none⟩),.int .i64 0]),.val (.int .u64 65536),.val (.int .i64 k),.that (fun _ x=>∃ st:Int,x=.agg #[.int .i64 0,.int .u64 0,.int .i64 va,.int .i64 st]) (fun _ _ _ _ h=>h),.val (.agg #[.int .i64 4,.int .i64 30,.int .i64 12,.int .i64 40,.int .i64 100,.int .i64 600,.int .i64 3,.pointer (some ⟨L.p,0,none⟩),.int .i64 0]),.val (.int .u64 65536),.val (.int .i64 k),.that (fun _ x=>∃ st:Int,x=.agg #[.int .i64 0,.int .u64 0,.int .i64 1,.int .i64 st]) (fun _ _ _ _ h=>h),.val (.agg #[.int .i64 4,.int .i64 30,.int .i64 12,.int .i64 40,.int .i64 100,.int .i64 600,.int .i64 3,.pointer (some ⟨L.p,0,none⟩),.int .i64 0]),.val (.int .u64 65536),.val (.int .i64 k),.that (fun _ x=>∃ st:Int,x=.agg #[.int .i64 0,.int .u64 0,.int .i64 1,.int .i64 st]) (fun _ _ _ _ h=>h),.val (.agg #[.int .i64 4,.int .i64 30,.int .i64 12,.int .i64 40,.int .i64 100,.int .i64 600,.int .i64 3,.pointer (some ⟨L.p,0,none⟩),.int .i64 0]),.val (.int .u64 65536),.val (.int .i64 k),.that (fun _ x=>∃ st:Int,x=.agg #[.int .i64 0,.int .u64 0,.int .i64 0,.int .i64 st]) (fun _ _ _ _ h=>h),.that (fun w' x=>∃ X,x=.pointer (some ⟨X,0,none⟩)/\Sz<=X/\At w' X 0 33 #[.int .i64 0,.int .u64 0,.int .i64 0,.int .i64 0] [.int .i64 0,.int .u64 0,.int .i64 0,.int .i64 0]) MS,.that (fun w' x=>∃ X,x=.pointer (some ⟨X,0,none⟩)/\Sz<=X/\At w' X 0 33 #[.int .i64 0,.int .u64 0,.int .i64 0,.int .i64 0] [.int .i64 0,.int .u64 0,.int .i64 0,.int .i64 0]) MS,.that (fun w' x=>∃ X,x=.pointer (some ⟨X,0,none⟩)/\Sz<=X/\At w' X 0 33 #[.int .i64 0,.int .u64 0,.int .i64 0,.int .i64 0] [.int .i64 0,.int .u64 0,.int .i64 0,.int .i64 0]) MS,.that (fun w' x=>∃ X,x=.pointer (some ⟨X,0,none⟩)/\Sz<=X/\At w' X 0 33 #[.int .i64 0,.int .u64 0,.int .i64 0,.int .i64 0] [.int .i64 0,.int .u64 0,.int .i64 0,.int .i64 0]) MS] (by kernel_rfl) (Only.refl _) (fun _ _ _ h k=>h.trans k) (fun x y h=>Only.ZZ h) (Vz L z1 k 21000) (Vz L z1 k 21000 _ _ 0 ((Below.refl _ _).drew) sZ.out) (by decide) (fun x y h=>h.size) (by kernel_rfl) (by simp) ?_ (by kernel_rfl) (by kernel_rfl) (by kernel_rfl) (by kernel_rfl) (by kernel_rfl) (by kernel_rfl) (by kernel_rfl) (by kernel_rfl) ?_
       . intro e he o ev w' ho
         simp only[List.mem_cons,List.not_mem_nil,or_false] at he
         rcases he with rfl | rfl | rfl | rfl <;>
          (simp only[List.getElem?_toArray,List.getElem?_cons_succ,List.getElem?_cons_zero,Option.some.injEq] at ho
           subst ho
           go_simp)
       simp only[List.take_succ_cons,List.take_zero,Zv,Act.put,List.setIfInBounds_toArray,List.set_cons_zero,List.set_cons_succ]
       refine⟨?_,?_⟩
       . intro w' hR _
         apply ol
         obtain⟨y0,y1,y2,y3,y4,y5,y6,y7,y8⟩:=(Gt.out.v.grown ((Below.refl _ _).drew)).only hR HL.out
         go_simp
         exact gl
       refine⟨?_,?_⟩
       . intros;apply ol;go_simp;exact gl
       refine⟨?_,?_⟩
       . intros;apply ol;go_simp;exact gl
       refine⟨?_,?_⟩
       . intro w' hR _ hP
         apply ol
         have hP:Xu L z1 k 21000 0 w':=hP
         go_simp
         refine(D7 EU.out (by decide) tq.out oK.out hP).mono ?_
         rintro e w'' ⟨st,rfl,h1,h2⟩
         exact⟨_,rfl,⟨h2,h1⟩,st,rfl⟩
       intro x0
       refine⟨?_,?_⟩
       . intro w' hR _
         apply ol
         obtain⟨y0,y1,y2,y3,y4,y5,y6,y7,y8⟩:=(Gt.out.v.grown ((Below.refl _ _).drew)).only hR HL.out
         go_simp
         exact gl
       refine⟨?_,?_⟩
       . intros;apply ol;go_simp;exact gl
       refine⟨?_,?_⟩
       . intros;apply ol;go_simp;exact gl
       refine⟨?_,?_⟩
       . intro w' hR _ hP
         apply ol
         have hP:Xu L z1 k 21000 1 w':=hP
         go_simp
         refine(D6 EU.out (by decide) hP).mono ?_
         rintro e w'' ⟨st,rfl,h1,h2⟩
         exact⟨_,rfl,⟨h2,h1⟩,st,rfl⟩
       intro x1
       refine⟨?_,?_⟩
       . intro w' hR _
         apply ol
         obtain⟨y0,y1,y2,y3,y4,y5,y6,y7,y8⟩:=(Gt.out.v.grown ((Below.refl _ _).drew)).only hR HL.out
         go_simp
         exact gl
       refine⟨?_,?_⟩
       . intros;apply ol;go_simp;exact gl
       refine⟨?_,?_⟩
       . intros;apply ol;go_simp;exact gl
       refine⟨?_,?_⟩
       . intro w' hR _ hP
         apply ol
         have hP:Xu L z1 k 21000 2 w':=hP
         go_simp
         refine(D5 EU.out (by decide) hP).mono ?_
         rintro e w'' ⟨st,rfl,h1,h2⟩
         exact⟨_,rfl,⟨h2,h1⟩,st,rfl⟩
       intro x2
       refine⟨?_,?_⟩
       . intro w' hR _
         apply ol
         obtain⟨y0,y1,y2,y3,y4,y5,y6,y7,y8⟩:=(Gt.out.v.grown ((Below.refl _ _).drew)).only hR HL.out
         go_simp
         exact gl
       refine⟨?_,?_⟩
       . intros;apply ol;go_simp;exact gl
       refine⟨?_,?_⟩
       . intros;apply ol;go_simp;exact gl
       refine⟨?_,?_⟩
       . intro w' hR _ hP
         apply ol
         have hP:Xu L z1 k 21000 3 w':=hP
         go_simp
         refine(DZ EU.out (by decide) hP).mono ?_
         rintro e w'' ⟨st,rfl,h1,h2⟩
         exact⟨_,rfl,⟨h2,h1⟩,st,rfl⟩
       intro x3
       refine⟨?_,?_⟩
       . intro w' hR _
         apply ol
         go_simp
         exact⟨ZY _ _,_,rfl,by have:=hR.size;rw[show W.drew.heap.size=W.heap.size from rfl] at this;omega,At.new w' 33 [.int .i64 0,.int .u64 0,.int .i64 0,.int .i64 0]⟩
       intro p0
       refine⟨?_,?_⟩
       . intro w' hR _
         apply ol
         go_simp
         exact⟨ZY _ _,_,rfl,by have:=hR.size;rw[show W.drew.heap.size=W.heap.size from rfl] at this;omega,At.new w' 33 [.int .i64 0,.int .u64 0,.int .i64 0,.int .i64 0]⟩
       intro p1
       refine⟨?_,?_⟩
       . intro w' hR _
         apply ol
         go_simp
         exact⟨ZY _ _,_,rfl,by have:=hR.size;rw[show W.drew.heap.size=W.heap.size from rfl] at this;omega,At.new w' 33 [.int .i64 0,.int .u64 0,.int .i64 0,.int .i64 0]⟩
       intro p2
       refine⟨?_,?_⟩
       . intro w' hR _
         apply ol
         go_simp
         exact⟨ZY _ _,_,rfl,by have:=hR.size;rw[show W.drew.heap.size=W.heap.size from rfl] at this;omega,At.new w' 33 [.int .i64 0,.int .u64 0,.int .i64 0,.int .i64 0]⟩
       intro p3
       intro w5 hR hP facts hne
       obtain⟨⟨Xd,rfl,qP,ad⟩,⟨Xc,rfl,qO,ac⟩,⟨Xb,rfl,qN,ab⟩,⟨Xa,rfl,qM,aa⟩,⟨MR,rfl⟩,⟨st2,rfl⟩,⟨st1,rfl⟩,⟨st0,rfl⟩,-⟩:=facts
       have nab:Xa≠Xb:=fun e=>hne (16,16) (by simp) (17,17) (by simp) (by decide) (by subst e;simp[Act.eval])
       have vK:Xa≠Xc:=fun e=>hne (16,16) (by simp) (18,18) (by simp) (by decide) (by subst e;simp[Act.eval])
       have vJ:Xa≠Xd:=fun e=>hne (16,16) (by simp) (19,19) (by simp) (by decide) (by subst e;simp[Act.eval])
       have vI:Xb≠Xa:=fun e=>hne (17,17) (by simp) (16,16) (by simp) (by decide) (by subst e;simp[Act.eval])
       have vH:Xb≠Xc:=fun e=>hne (17,17) (by simp) (18,18) (by simp) (by decide) (by subst e;simp[Act.eval])
       have vG:Xb≠Xd:=fun e=>hne (17,17) (by simp) (19,19) (by simp) (by decide) (by subst e;simp[Act.eval])
       have vF:Xc≠Xa:=fun e=>hne (18,18) (by simp) (16,16) (by simp) (by decide) (by subst e;simp[Act.eval])
       have vC:Xc≠Xb:=fun e=>hne (18,18) (by simp) (17,17) (by simp) (by decide) (by subst e;simp[Act.eval])
       have vz:Xc≠Xd:=fun e=>hne (18,18) (by simp) (19,19) (by simp) (by decide) (by subst e;simp[Act.eval])
       have vw:Xd≠Xa:=fun e=>hne (19,19) (by simp) (16,16) (by simp) (by decide) (by subst e;simp[Act.eval])
       have vk:Xd≠Xb:=fun e=>hne (19,19) (by simp) (17,17) (by simp) (by decide) (by subst e;simp[Act.eval])
       have vg:Xd≠Xc:=fun e=>hne (19,19) (by simp) (18,18) (by simp) (by decide) (by subst e;simp[Act.eval])
       have qL:=aa.at0 0 rfl
       have qK:=aa.at0 1 rfl
       have qJ:=aa.at0 2 rfl
       have qI:=aa.at0 3 rfl
       have af:=aa.fz
       have bx0:=ab.at0 0 rfl
       have bx1:=ab.at0 1 rfl
       have qG:=ab.at0 2 rfl
       have qF:=ab.at0 3 rfl
       have bf:=ab.fz
       have qE:=ac.at0 0 rfl
       have qC:=ac.at0 1 rfl
       have qB:=ac.at0 2 rfl
       have qA:=ac.at0 3 rfl
       have cf:=ac.fz
       have qy:=ad.at0 0 rfl
       have qx:=ad.at0 1 rfl
       have qw:=ad.at0 2 rfl
       have qp:=ad.at0 3 rfl
       have df:=ad.fz
       have b5:Below w.heap.size w w5:=VT (grow bW ((Below.refl _ _).drew)) hR yM.out
       have hwz:w.heap.size<=Sz:=by have:=bW.size;omega
       have oD:=oJ.out
       have hL5:Hid (¬ L.has Xw/\¬ L.has Xa/\¬ L.has Xb/\¬ L.has Xc/\¬ L.has Xd):=⟨D8.out,fun h=>by have:=VK _ h;omega,fun h=>by have:=VK _ h;omega,fun h=>by have:=VK _ h;omega,fun h=>by have:=VK _ h;omega⟩
       have v5:=(Gt.out.grown ((Below.refl _ _).drew)).only hR HL.out
       have sW:=(dW.grown ((Below.refl _ _).drew)).only hR D8.out
       have oa:Only (fun y=>y=Xa\/y=Xb\/y=Xc\/y=Xd) w5 _:=XV (Only.refl _ _) (Or.inl rfl) (.int .i64 0) (.int .u64 0) (.int .i64 va) (.int .i64 st0)
       have ob:Only (fun y=>y=Xa\/y=Xb\/y=Xc\/y=Xd) w5 _:=XV oa (Or.inr (Or.inl rfl)) (.int .i64 0) (.int .u64 0) (.int .i64 1) (.int .i64 st1)
       have oc:Only (fun y=>y=Xa\/y=Xb\/y=Xc\/y=Xd) w5 _:=XV ob (Or.inr (Or.inr (Or.inl rfl))) (.int .i64 0) (.int .u64 0) (.int .i64 1) (.int .i64 st2)
       have od:Only (fun y=>y=Xa\/y=Xb\/y=Xc\/y=Xd) w5 _:=XV oc (Or.inr (Or.inr (Or.inr rfl))) (.int .i64 0) (.int .u64 0) (.int .i64 0) (.int .i64 MR)
       obtain⟨_,za⟩:=Wl aa (.int .i64 0) (.int .u64 0) (.int .i64 va) (.int .i64 st0)
       have za:=Zx za nab (.int .i64 0) (.int .u64 0) (.int .i64 1) (.int .i64 st1)
       have za:=Zx za vK (.int .i64 0) (.int .u64 0) (.int .i64 1) (.int .i64 st2)
       have za:=Zx za vJ (.int .i64 0) (.int .u64 0) (.int .i64 0) (.int .i64 MR)
       have zb:=Zx ab vI (.int .i64 0) (.int .u64 0) (.int .i64 va) (.int .i64 st0)
       obtain⟨_,zb⟩:=Wl zb (.int .i64 0) (.int .u64 0) (.int .i64 1) (.int .i64 st1)
       have zb:=Zx zb vH (.int .i64 0) (.int .u64 0) (.int .i64 1) (.int .i64 st2)
       have zb:=Zx zb vG (.int .i64 0) (.int .u64 0) (.int .i64 0) (.int .i64 MR)
       have zc:=Zx ac vF (.int .i64 0) (.int .u64 0) (.int .i64 va) (.int .i64 st0)
       have zc:=Zx zc vC (.int .i64 0) (.int .u64 0) (.int .i64 1) (.int .i64 st1)
       obtain⟨_,zc⟩:=Wl zc (.int .i64 0) (.int .u64 0) (.int .i64 1) (.int .i64 st2)
       have zc:=Zx zc vz (.int .i64 0) (.int .u64 0) (.int .i64 0) (.int .i64 MR)
       have zd:=Zx ad vw (.int .i64 0) (.int .u64 0) (.int .i64 va) (.int .i64 st0)
       have zd:=Zx zd vk (.int .i64 0) (.int .u64 0) (.int .i64 1) (.int .i64 st1)
       have zd:=Zx zd vg (.int .i64 0) (.int .u64 0) (.int .i64 1) (.int .i64 st2)
       obtain⟨_,zd⟩:=Wl zd (.int .i64 0) (.int .u64 0) (.int .i64 0) (.int .i64 MR)
       have sV:¬ (E=Xa\/E=Xb\/E=Xc\/E=Xd):=fun h=>by omega
       have sU:¬ (Xw=Xa\/Xw=Xb\/Xw=Xc\/Xw=Xd):=fun h=>by omega
       have zv:=v5.only od sV
       have zw:=sW.only od sU
       have sS:=Xn.only (show Xn 12 L 7 (21000+4 * 1950) (N7 z1 k 4) w5 from hP) od (fun x hx e=>by rcases e with e | e | e | e;exact hL5.out.2.1 (e ▸ hx);exact hL5.out.2.2.1 (e ▸ hx);exact hL5.out.2.2.2.1 (e ▸ hx);exact hL5.out.2.2.2.2 (e ▸ hx))
       have sQ:Below w.heap.size w _:=b5.trans (od.below b5.size (fun x hx e=>by omega))
       have S9:Hid (∃ W9,((((((((((((((((w5.setCell ⟨Xa,0,none⟩ (.int .i64 0)).setCell ⟨Xa,1,none⟩ (.int .u64 0)).setCell ⟨Xa,2,none⟩ (.int .i64 va)).setCell ⟨Xa,3,none⟩ (.int .i64 st0)).setCell ⟨Xb,0,none⟩ (.int .i64 0)).setCell ⟨Xb,1,none⟩ (.int .u64 0)).setCell ⟨Xb,2,none⟩ (.int .i64 1)).setCell ⟨Xb,3,none⟩ (.int .i64 st1)).setCell ⟨Xc,0,none⟩ (.int .i64 0)).setCell ⟨Xc,1,none⟩ (.int .u64 0)).setCell ⟨Xc,2,none⟩ (.int .i64 1)).setCell ⟨Xc,3,none⟩ (.int .i64 st2)).setCell ⟨Xd,0,none⟩ (.int .i64 0)).setCell ⟨Xd,1,none⟩ (.int .u64 0)).setCell ⟨Xd,2,none⟩ (.int .i64 0)).setCell ⟨Xd,3,none⟩ (.int .i64 MR))=W9/\Xn 12 L 7 28800 (N7 z1 k 4) W9/\XY W9 E 4 30 12 40 100 600 3 L.p 0/\Below w.heap.size w W9/\OA W9 Xw Xa Xb Xc Xd v0 va):=⟨_,rfl,sS,zv,sQ,zw.at0 0 rfl,zw.at0 2 rfl,za.at0 0 rfl,za.at0 2 rfl,zb.at0 2 rfl,zc.at0 2 rfl,zd.at0 2 rfl⟩
       clear sS zv zb sQ zw za zc zd hP hR hne sZ Gt bW VK MS hSz sW v5 aa ab ac ad b5 dW oa ob oc od sV sU
       go_wp2
       obtain⟨W9,sO,S9⟩:=S9.out
       rw[sO]
       clear sO
       have S9:Hid (Xn 12 L 7 28800 (N7 z1 k 4) W9/\XY W9 E 4 30 12 40 100 600 3 L.p 0/\Below w.heap.size w W9/\OA W9 Xw Xa Xb Xc Xd v0 va):=S9
       clear nab vK vJ vI vH vG vF vC vz vw vk vg qL qK qJ qI af bx0 bx1 qG qF bf qE qC qB qA cf qy qx qw qp df qM qN qO qP oG oH hwz oD
       go_loopw [20] (fun iv wx=>∃ i:Nat,iv=.int .i64 i/\i<=8/\Xn 12 L 7 (28800+i * 1950) (N7 z1 k 4) wx/\XY wx E 4 30 12 40 100 600 3 L.p 0/\Below w.heap.size w wx/\OA wx Xw Xa Xb Xc Xd v0 va) (fun iv _=>8 - (intOf iv).toNat)
       case atStart=>exact⟨0,rfl,by decide,S9.out⟩
       case round =>
        clear S9
        obtain⟨i,rfl,hi,A9,v9,b9,f9⟩:=hrel
        have xw:Hid (Xn 12 L 7 (28800+i * 1950) (N7 z1 k 4) wr):=A9
        clear A9
        by_cases mr:(i:Int)<8
        . obtain⟨wt,hwt⟩:∃ wt:Int,(i:Int).tmod 2=wt:=⟨_,rfl⟩
          have DY:wt=((i % 2:Nat):Int):=by rw[<- hwt,Int.tmod_eq_emod_of_nonneg (by omega)];omega
          have vT:Hid (wt=((i % 2:Nat):Int)):=DY
          clear DY
          by_cases hik:i=k
          . have hne:((i:Int) != (k:Int))=false:=by rw[hik];simp
            go_wp2
            go_roundw
            case rel=>exact⟨i+1,by go_num,by omega,xw.out.up (Nat.le_refl _) (by omega),v9,b9,f9⟩
            case measure=>simp[intOf];omega
          . have hne:((i:Int) != (k:Int))=true:=by simp;omega
            have yL:Hid (i<8):=by show i<8;omega
            have hz:N7 z1 k 4 i=decide (i % 2=1):=(Z7 _ _ _ _ hik).trans ((Z7 _ _ _ _ hik).trans (oL.out i yL.out hik))
            have hv:(if (decide (i % 2=1))=decide ((1:Int)≠2) then (1:Int) else 0)=wt:=by
             rw[vT.out]
             by_cases c:i % 2=1
             . rw[c];rfl
             . rw[show i % 2=0 by omega];rfl
            have hask:=xw.out.ask (kd:=1) (k:=i) (by decide) (by decide) (by decide) (by omega) (Or.inl rfl) yL.out hz hv Pz
            obtain⟨y0,y1,y2,y3,y4,y5,y6,y7,y8⟩:=v9.v
            clear xw hz hv hik
            go_wp2_with (go_at_call 7;refine hask.mono ?_;rintro e w4 ⟨RX,rfl,o4,a4⟩;clear hask;have A4:Hid (Xn 12 L 7 (28800+i * 1950+1950) (N7 z1 k 4) w4):=a4.up (by decide) (Nat.le_refl _);clear a4;have v4:=v9.only o4 HL.out;have b4:=VT b9 o4 yM.out;have f4:=f9.only o4 hL5.out)
            go_roundw
            case rel=>exact⟨i+1,by go_num,by omega,A4.out.up (Nat.le_refl _) (by omega),v4,b4,f4⟩
            case measure=>simp[intOf];omega
        . have g0:=f9.w0
          have g1:=f9.w2
          have g2:=f9.a0
          have g3:=f9.a2
          have g4:=f9.b2
          have g5:=f9.c2
          have g6:=f9.d2
          go_wp2
          go_ret
          exact⟨rfl,b9⟩
end Go.Proofs.YtpbghmeikcphnabGreat
