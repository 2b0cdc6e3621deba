import Derived.Test.YtmnnhjhhhfabiaaGreatCompGnd
import Derived.Test.YtmnnhjhhhfabiaaGreatCompStill
import Derived.Test.YtmnnhjhhhfabiaaGreatArgs
namespace Go.Proofs.YtmnnhjhhhfabiaaGreat
open Go.RowKit
set_option maxRecDepth 20000
set_option maxRecDepth 20000 in
set_option maxHeartbeats 2000000 in
theorem compactStill_any (ao : Option Addr) (M cap : Nat) (z : Nat -> Int) (times : Int) (w : World) (hr : IntsAt .i64 w ao M z) :
 Calls Tryz.prog 7 #[.slice ao M cap,iV times] w fun e w'=>e = .returned (.bool true) /\ Below w.heap.size w w':=by
 have HR : Hid (IntsAt .i64 w ao M z):=hr
 clear hr
 have AR:=fun w=>arena04_any good30 w
 go_enter Tryz.func7,Tryz.ntmps7
 go_wp2_with (first
  | (go_at_call 9;refine (AR _).mono ?_;rintro e w1 ⟨L,rfl,m1,b1,l1⟩;have B1:=Go.Deep.blk_alloc_new w1 (.cells #[.int .i64 1,.int .i64 30,.int .i64 8,.int .i64 34,.int .i64 100,.int .i64 600,.int .i64 3,.pointer (some ⟨L.p,0,none⟩),.int .i64 0] 28))
  | (go_at_call 10;go_must (refine (awake14_any _).mono ?_;rintro e w2 ⟨rfl,b2⟩;have B2:=(b2.block _ (blk_lt B1)).trans B1;have y5:=blk_cell (o:=5) B2 rfl;have fz5:=blk_frozen B2 5)))
 obtain ⟨E,hE⟩ : ∃ E,w1.heap.size = E:=⟨_,rfl⟩
 rw [hE] at B2
 have B3:=blk_setCell w2 E 5 (iV 0) _ _ B2
 have hle:=b1.size
 have hwE : w.heap.size <= E:=by omega
 have GA : Hid (GndA w L E):=⟨l1,fun hh=>by have:=m1.lt _ hh;omega,hwE⟩
 have G0 : Hid (Gnp 0 w (w2.setCell ⟨E,5,none⟩ (iV 0)) L E 1 30 8 34 (Mm.laid 1 30 (arenaLen 1 30 8 34) 30) (1 + 2 * 30) ⟨Q.new 30,0,fun _=>0,fun _=>0⟩ 0 (fun _=>1) []):=by
  refine ⟨((m1.alloc _).below b2).setIn GA.out.e _ _,ranch0 good30 (by decide),⟨blk_cell B3 rfl,blk_cell B3 rfl,blk_cell B3 rfl,blk_cell B3 rfl,blk_cell B3 rfl,blk_cell B3 rfl,blk_cell B3 rfl,blk_cell B3 rfl,blk_cell B3 rfl⟩,below_setIn (grow (grow_alloc b1 _) b2) hwE _ _⟩
 clear B1 B2 B3 y5 fz5 m1 b1 l1 b2
 simp only [hE]
 clear hE hle
 go_loopw [7] (fun iv wr=>∃ (j : Nat) (s : Mm) (σ : Nat) (q : Q) (nx : Nat) (ls : List Ox),iv = iV j /\ j <= 25 /\ σ <= 61 + 100 * j /\ ls.length <= j /\ Gnp 0 w wr L E 1 30 8 34 s σ ⟨q,0,fun _=>0,fun _=>0⟩ nx (fun _=>1) ls /\ Full 8 q) (fun iv _=>25 - (intOf iv).toNat)
 case atStart=>exact ⟨0,_,_,_,_,_,rfl,by decide,by decide,by decide,G0.out,full0 30 8⟩
 case round =>
 clear G0
 obtain ⟨j,s,σ,q,nx,ls,rfl,hj,hσ,hls,f,F⟩:=hrel
 have HF : Hid (Full 8 q):=F
 clear F
 by_cases hjM : j < M /\ j < 25
 · have h1 : decide ((j : Int) < (M : Int)) = true:=decide_eq_true (by omega)
   have h2 : decide ((j : Int) < 25) = true:=decide_eq_true (by omega)
   have hw1 : wrap64 ((j : Int) + 1) = (j : Int) + 1:=by unfold wrap64;omega
   obtain ⟨zb,zo,rfl,hk⟩:=HR.out j hjM.1
   have HKZ : Hid (w.cell? ⟨zb,zo + j,none⟩ = some (iV (z j))):=hk
   obtain ⟨Z,hZ,z1,z2⟩:=lowAt (z j) 15 4 1 (by decide) (by decide)
   have hZw : IntKind.i64.wrap (1 + bits .and .i64 (z j) 15) = (Z : Int):=by
    have : (1 : Int) + bits .and .i64 (z j) 15 = (Z : Int):=hZ
    rw [this,IntKind.wrap_i64];omega
   have z16 : Z <= 16:=by omega
   obtain ⟨κ,kz,hκ⟩:=class_of z1 z16
   have KZ : Hid (classOf (Z : Int) = (κ : Int)):=kz
   have hσ4 : σ + 400 < 1000000:=by omega
   clear hk hZ kz z2
   go_wp2
   apply rgT 7;· kernel_rfl
   apply rV;· intro w' hg _;apply ol;obtain ⟨y0,y1,y2,y3,y4,y5,y6,y7,y8⟩:=(f.v.grown ((Below.refl _ _).drew)).grown hg;go_simp;exact gl
   iterate 2 (apply rV;· intros;apply ol;go_simp;exact gl)
   apply rV
   · intro w' hg _
     apply ol
     have hb1 : (0 : Int) <= (j : Int) /\ (j : Int) < (M : Int):=by omega
     go_simp
     exact gl
   apply rV;· intro w' hg _;apply ol;have z1:=keep' hg (keep' ((Below.refl _ _).drew) (keep' f.b HKZ.out));go_simp;exact gl
   apply rV;· intros;apply ol;go_simp;exact gl
   try simp only [pu,s0,s1]
   apply rV1 (c:=iV (Z : Nat));· intro w' hg _;apply ol;go_simp;exact ⟨Grown.refl _,by first | rfl | exact congrArg (Value.int .i64) hZw | (simp only [Want.pred];exact congrArg (Value.int .i64) hZw)⟩
   try simp only [pu,s0,s1]
   intro w5 hg _
   have f5:=(f.grown ((Below.refl _ _).drew)).grown hg
   clear hg
   go_wp2_with (go_at_call 11;go_must (refine (f5.r.make (own:=false) f5.mm good30z z1 z16 KZ.out hκ hσ4 0).mono ?_;rintro e w6 ⟨E1,H1,st,s',σ',q',nx',ls',rfl,Mk1,m2,r2,h2,o2⟩))
   obtain ⟨F2,hl2⟩:=Mk1.full_is f5.r.tm.al hκ (by decide) HF.out
   go_roundw
   case rel=>exact ⟨j + 1,s',σ',q',nx',ls',by go_num,by omega,by omega,by omega,f5.only GA.out o2 m2 r2,F2⟩
   case measure=>exact meas hjM.2
 · by_cases hM : j < M
   · have h1 : decide ((j : Int) < (M : Int)) = true:=decide_eq_true (by omega)
     have h2 : decide ((j : Int) < 25) = false:=decide_eq_false (by omega)
     as_aux_lemma =>
     obtain ⟨y0,y1,y2,y3,y4,y5,y6,y7,y8⟩:=f.v
     obtain ⟨K,hKs⟩ : ∃ K,s.n = K:=⟨_,rfl⟩
     have HK : Hid (K = 363 /\ s.n = K):=⟨hKs.symm.trans f.r.ld.tw.yard.len,hKs⟩
     have LN:=fun W (h : MemAt W L s)=>len_any h
     rw [hKs] at LN
     clear hKs
     obtain ⟨i0,hi,hz0,hz1,hz2⟩:=info_parts Tryz.infoR34
     go_wp2_with (first
      | (go_at_call 33;go_must (refine (LN _ f.mm).mono ?_;rintro e w5 ⟨rfl,rfl⟩))
      | (at_make;go_must (refine wpList_make_full _ rfl (.tmp 44) (.tmp 44) 32 rfl w5.heap.size 34 i0 (.int .u64 0) 1 (by kernel_rfl) hi hz0 hz1 .i64 .i64 K K K rfl rfl rfl rfl (by rw [hz2,HK.out.1];decide) (by rw [HK.out.1];decide) (Nat.le_refl _) ?_;intro w6 ow6 gr6)))
     obtain ⟨B,hB⟩ : ∃ B,w5.heap.size = B:=⟨_,rfl⟩
     have RW6 : ∃ l : List Value,l.length = K /\ Rw w6 34 B K l:=by
      rcases ow6.2 with ⟨_,h2⟩ | ⟨g',cap',cur,h',hb,hg',hcap,hmax,hsz,htake⟩
      · exact absurd h2 (by have:=HK.out.1;omega)
      · cases h'
        rw [hB] at hg'
        exact ⟨cur.toList,by rw [Array.length_toList,hsz,Nat.mul_one],⟨cur,hg',by omega,fun i x h=>by rwa [Array.getElem?_toList] at h⟩,by rw [Array.length_toList,hsz];have:=HK.out.1;omega⟩
     obtain ⟨l0,hl0,rw0⟩:=RW6
     have f6:=f.grown (Grown.of gr6)
     have HB : Hid (¬ L.has B /\ w.heap.size <= B /\ B ≠ E):=by
      have hE:=World.block_lt_of_cell? _ _ f.v.c0
      have hb:=f.b.size
      simp only at hE
      exact ⟨fun hh=>by have:=f.mm.lt _ hh;omega,by omega,by omega⟩
     have F6 : Hid (Gnp 0 w w6 L E 1 30 8 34 s σ ⟨q,0,fun _=>0,fun _=>0⟩ nx (fun _=>1) ls):=f6
     have W6 : Hid (l0.length = K /\ Rw w6 34 B K l0):=⟨hl0,rw0⟩
     clear f f6 rw0 hl0 ow6 gr6 y0 y1 y2 y3 y4 y5 y6 y7 y8 hi hz0 hz1 hz2 LN
     simp only [hB]
     clear hB
     go_loopw [9] (fun iv wr=>∃ (i : Nat) (l : List Value),iv = iV i /\ i <= K /\ l.length = K /\ (∀ a,a < i -> l[a]? = some (.int .u64 (s.wd a))) /\ Rw wr 34 B K l /\ Gnp 0 w wr L E 1 30 8 34 s σ ⟨q,0,fun _=>0,fun _=>0⟩ nx (fun _=>1) ls) (fun iv _=>K - (intOf iv).toNat)
     case atStart=>exact ⟨0,l0,rfl,Nat.zero_le _,W6.out.1,fun a h=>absurd h (Nat.not_lt_zero _),W6.out.2,F6.out⟩
     case round =>
      clear F6 W6
      obtain ⟨i,l,rfl,hi,hl,hal,rw,f⟩:=hrel
      by_cases hi3 : i < K
      · have hid : (i : Int) < (K : Int):=by omega
        have hKb : (K : Int) <= 363:=by have:=HK.out.1;omega
        have hib : (0 : Int) <= (i : Int) /\ (i : Int) < (K : Int):=by omega
        obtain ⟨x0,hx0⟩ : ∃ x,l[i]? = some x:=⟨_,List.getElem?_eq_getElem (by omega)⟩
        have c1:=rw.cell hx0
        clear hx0
        have c2:=rw.fz i
        have y7:=f.v.c7
        have hin : i < s.n:=by have:=HK.out;omega
        have HAL : Hid (∀ a,a < i -> l[a]? = some (.int .u64 (s.wd a))):=hal
        have HL : Hid (l.length = K):=hl
        clear hal hl
        go_wp2_with (go_at_call 14;go_must (refine (peek_in f.mm i hin).mono ?_;rintro e w7 ⟨rfl,rfl⟩))
        go_roundw
        case rel =>
         have hlt : i < l.length:=by rw [HL.out];exact hi3
         refine ⟨i + 1,l.set i (.int .u64 (s.wd i)),by go_num,by omega,by rw [List.length_set];exact HL.out,fun a ha=>?_,rw.set hlt _,f.own (Only.setCell (a:=⟨B,i,none⟩) (Only.refl (fun k=>k = B) _) (fun _=>rfl) _) HB.out.2.1 HB.out.2.2 HB.out.1⟩
         by_cases e : a = i
         · rw [e,List.getElem?_set_self hlt]
         · rw [List.getElem?_set_ne (fun e'=>e e'.symm)];exact HAL.out a (by omega)
        case measure=>exact meas hi3
      · have hiK : i = K:=by omega
        rw [hiK] at hal
        have hid : ¬ (i : Int) < (K : Int):=by omega
        clear hiK
        obtain ⟨C,hC,C1,C8⟩:=lowAt times 7 3 1 (by decide) (by decide)
        have hCw : IntKind.i64.wrap (1 + bits .and .i64 times 7) = (C : Int):=by
         have : (1 : Int) + bits .and .i64 times 7 = (C : Int):=hC
         rw [this,IntKind.wrap_i64];omega
        have hC8 : C <= 8:=by omega
        obtain ⟨N,ep,cp',hN,gg,hwk⟩:=still_go (tr:=3) f.r HF.out (by omega) (by decide) (by decide) (by decide) (by decide) (c:=C) (by omega) (by omega) (show Wd (0 : Int) from ⟨by decide,by decide⟩)
        have HG : Hid (CRuns 1 30 8 34 0 3 (0 + C) N σ ⟨q,0,fun _=>0,fun _=>0⟩ cp0 ⟨q,ep,fun _=>0,fun _=>0⟩ cp' /\ cp'.wk = ⟨0,0,0,0,0 + C⟩):=⟨gg,hwk⟩
        have HN : Hid (N <= 3000 * C /\ σ + N < 1000000 /\ C <= 100):=⟨hN,by omega,by omega⟩
        have HS : Hid (E < wr.heap.size /\ B < wr.heap.size /\ ¬ L.has wr.heap.size /\ w.heap.size <= wr.heap.size):=⟨World.block_lt_of_cell? _ _ f.v.c0,rw.lt,fun hh=>by have:=f.mm.lt _ hh;omega,f.b.size⟩
        have HAL : Hid (∀ a,a < K -> l[a]? = some (.int .u64 (s.wd a))):=hal
        have KP : Hid (Kp (fun y=>y < w.heap.size \/ y = E \/ y = B) L wr.heap.size (wr.alloc comp0)):=⟨fun e=>by have:=HS.out;rcases e with e | e | e <;> omega,fun y e hh=>by rcases e with e | e | e;(have:=GA.out.l0 y hh;omega);exact GA.out.e (e ▸ hh);exact HB.out.1 (e ▸ hh),fun y e=>by rw [Go.Deep.nblk_alloc];have:=HS.out;rcases e with e | e | e <;> omega⟩
        have f3:=f.grown (gro1 _ comp0)
        have rw3:=rw.grown (gro1 _ comp0)
        obtain ⟨y0,y1,y2,y3,y4,y5,y6,y7,y8⟩:=f3.v
        clear f rw hal hl gg hwk hN hC C8
        go_wp2_with (first
         | (go_at_call 17;go_must (refine (newComp_any _).mono ?_;rintro e w8 ⟨rfl,rfl⟩))
         | (go_at_call 18;go_must (refine (rounds_goes (c:=C) (cp:=cp0) f3.mm HS.out.2.2.1 KP.out f3.r.ld good30z (cp0_at wr L _) 0 HN.out.2.2 HN.out.1 HN.out.2.1 (by decide) HG.out.1).mono ?_;rintro e w9 ⟨rfl,s9,m9,l9,c9,o9⟩)))
        have v9:=f3.v.only o9 (fun hh=>hh (Or.inr (Or.inl rfl)))
        have rw9:=rw3.only o9 (fun hh=>hh (Or.inr (Or.inr rfl)))
        have bb9 : Below w.heap.size w w9:=ogrow f3.b o9 (fun x hx=>by have : ¬ x < w.heap.size:=fun e=>hx (Or.inl e);omega)
        have HWD : Hid ((∀ a,1 <= a -> s9.wd a = s.wd a) /\ s9.n = K):=⟨fun a ha=>f3.r.ld.words l9 rfl rfl rfl ha,HK.out.1 ▸ l9.tw.yard.len⟩
        obtain ⟨X,hX⟩ : ∃ X,wr.heap.size = X:=⟨_,rfl⟩
        rw [hX] at c9
        have A9 : Hid (MemAt w9 L s9 /\ Rw w9 34 B K l /\ BoxV w9 E 1 30 8 34 100 0 3 L.p 0 /\ Below w.heap.size w w9 /\ ∃ cs f,CpAt w9 X 0 110 L (fun y=>y < w.heap.size \/ y = E \/ y = B) cp' cs f):=⟨m9,rw9,v9,bb9,c9⟩
        clear f3 rw3 m9 l9 c9 o9 v9 rw9 bb9 y0 y1 y2 y3 y4 y5 y6 y7 y8 KP HS
        simp only [hX]
        clear hX
        go_loopw [11] (fun iv wr=>∃ i : Nat,iv = iV i /\ 1 <= i /\ i <= K /\ MemAt wr L s9 /\ Rw wr 34 B K l /\ BoxV wr E 1 30 8 34 100 0 3 L.p 0 /\ Below w.heap.size w wr /\ ∃ cs f,CpAt wr X 0 110 L (fun y=>y < w.heap.size \/ y = E \/ y = B) cp' cs f) (fun iv _=>K - (intOf iv).toNat)
        case atStart=>exact ⟨1,rfl,by decide,by have:=HK.out.1;omega,A9.out⟩
        case round =>
         clear A9
         obtain ⟨i,rfl,hi1,hi,m1,rw,v1,bb,⟨cs,F,CP⟩⟩:=hrel
         by_cases hi3 : i < K
         · have hid : (i : Int) < (K : Int):=by omega
           have hKb : (K : Int) <= 363:=by have:=HK.out.1;omega
           have HIB : Hid ((0 : Int) <= (i : Int) /\ (i : Int) < (K : Int)):=⟨by omega,by omega⟩
           have hcell:=HAL.out i hi3
           have HC2 : Hid (l[i]? = some (.int .u64 (s.wd i))):=hcell
           have hin : i < s9.n:=by rw [HWD.out.2];exact hi3
           clear hcell
           go_wp2
           apply rgG;· kernel_rfl
           apply rV;· intros;apply ol;go_simp;exact gl
           apply rV;· intro w' hg _;apply ol;have y7:=v1.dg hg |>.c7;go_simp;exact gl
           apply rV;· intros;apply ol;go_simp;exact gl
           apply rV;· intro w' hg _;apply ol;go_simp;exact cc (peek_is (m1.drew.below hg) i hin _ (HWD.out.1 i hi1))
           iterate 2 (apply rV;· intros;apply ol;go_simp;exact gl)
           try simp only [pu,s0,s1]
           apply rV;· intro w' hg _;apply ol;have hb1:=HIB.out;go_simp;exact gl
           apply rV;· intro w' hg _;apply ol;have z1:=((rw.grown ((Below.refl _ _).drew)).grown hg).cell HC2.out;go_simp;exact gl
           apply rV1 (c:=.bool false);· intro w' hg _;apply ol;go_simp;exact ⟨Grown.refl _,by first | rfl | simp [Want.pred]⟩
           try simp only [pu,s0,s1]
           intro w5 hg _
           have D:=(Below.refl wr.heap.size wr).drew
           go_wp2
           go_roundw
           case rel=>exact ⟨i + 1,by go_num,by omega,by omega,(m1.below D).below hg,(rw.grown D).grown hg,(v1.grown D).grown hg,grow (grow bb D) hg,cs,F,(CP.grown D).grown hg⟩
           case measure=>exact meas hi3
         · have hid : ¬ (i : Int) < (K : Int):=by omega
           have k:=fun (W : World) (h : CpAt W X 0 110 L (fun y=>y < w.heap.size \/ y = E \/ y = B) cp' cs F)=>cwork_any h.cm (h.ct.k43.trans (show iV (cp'.wk.ev : Nat) = iV 0 from (by rw [HG.out.2];rfl))) (h.ct.k44.trans (show iV (cp'.wk.lf : Nat) = iV 0 from (by rw [HG.out.2];rfl))) h.ct.k45 (h.ct.k46.trans (show iV (cp'.wk.mv : Nat) = iV 0 from (by rw [HG.out.2];rfl))) h.ct.k47
           have fl0 : ∀ (a1 a2 a3 a4 a5 : Value) (w : World),(Instr.field 63 (.agg #[a1,a2,a3,a4,a5]) 0).run Tryz.prog w = .ok a1 w:=fun a1 a2 a3 a4 a5 w=>by kernel_rfl
           have fl1 : ∀ (a1 a2 a3 a4 a5 : Value) (w : World),(Instr.field 63 (.agg #[a1,a2,a3,a4,a5]) 1).run Tryz.prog w = .ok a2 w:=fun a1 a2 a3 a4 a5 w=>by kernel_rfl
           have fl3 : ∀ (a1 a2 a3 a4 a5 : Value) (w : World),(Instr.field 63 (.agg #[a1,a2,a3,a4,a5]) 3).run Tryz.prog w = .ok a4 w:=fun a1 a2 a3 a4 a5 w=>by kernel_rfl
           have k1:=k _ CP
           go_wp2_with (first
            | (go_at_call 25;refine k1.mono ?_;rintro e w6 ⟨rfl,b1⟩;clear k1;have k2:=k _ (CP.grown b1))
            | (go_at_call 25;refine k2.mono ?_;rintro e w7 ⟨rfl,b2⟩;clear k2;have k3:=k _ ((CP.grown b1).grown b2))
            | (go_at_call 25;refine k3.mono ?_;rintro e w8 ⟨rfl,b3⟩;clear k3))
           go_ret
           exact ⟨rfl,grow (grow (grow bb b1) b2) b3⟩
   · have h1 : decide ((j : Int) < (M : Int)) = false:=decide_eq_false (by omega)
     as_aux_lemma =>
     obtain ⟨y0,y1,y2,y3,y4,y5,y6,y7,y8⟩:=f.v
     obtain ⟨K,hKs⟩ : ∃ K,s.n = K:=⟨_,rfl⟩
     have HK : Hid (K = 363 /\ s.n = K):=⟨hKs.symm.trans f.r.ld.tw.yard.len,hKs⟩
     have LN:=fun W (h : MemAt W L s)=>len_any h
     rw [hKs] at LN
     clear hKs
     obtain ⟨i0,hi,hz0,hz1,hz2⟩:=info_parts Tryz.infoR34
     go_wp2_with (first
      | (go_at_call 33;go_must (refine (LN _ f.mm).mono ?_;rintro e w5 ⟨rfl,rfl⟩))
      | (at_make;go_must (refine wpList_make_full _ rfl (.tmp 44) (.tmp 44) 32 rfl w5.heap.size 34 i0 (.int .u64 0) 1 (by kernel_rfl) hi hz0 hz1 .i64 .i64 K K K rfl rfl rfl rfl (by rw [hz2,HK.out.1];decide) (by rw [HK.out.1];decide) (Nat.le_refl _) ?_;intro w6 ow6 gr6)))
     obtain ⟨B,hB⟩ : ∃ B,w5.heap.size = B:=⟨_,rfl⟩
     have RW6 : ∃ l : List Value,l.length = K /\ Rw w6 34 B K l:=by
      rcases ow6.2 with ⟨_,h2⟩ | ⟨g',cap',cur,h',hb,hg',hcap,hmax,hsz,htake⟩
      · exact absurd h2 (by have:=HK.out.1;omega)
      · cases h'
        rw [hB] at hg'
        exact ⟨cur.toList,by rw [Array.length_toList,hsz,Nat.mul_one],⟨cur,hg',by omega,fun i x h=>by rwa [Array.getElem?_toList] at h⟩,by rw [Array.length_toList,hsz];have:=HK.out.1;omega⟩
     obtain ⟨l0,hl0,rw0⟩:=RW6
     have f6:=f.grown (Grown.of gr6)
     have HB : Hid (¬ L.has B /\ w.heap.size <= B /\ B ≠ E):=by
      have hE:=World.block_lt_of_cell? _ _ f.v.c0
      have hb:=f.b.size
      simp only at hE
      exact ⟨fun hh=>by have:=f.mm.lt _ hh;omega,by omega,by omega⟩
     have F6 : Hid (Gnp 0 w w6 L E 1 30 8 34 s σ ⟨q,0,fun _=>0,fun _=>0⟩ nx (fun _=>1) ls):=f6
     have W6 : Hid (l0.length = K /\ Rw w6 34 B K l0):=⟨hl0,rw0⟩
     clear f f6 rw0 hl0 ow6 gr6 y0 y1 y2 y3 y4 y5 y6 y7 y8 hi hz0 hz1 hz2 LN
     simp only [hB]
     clear hB
     go_loopw [9] (fun iv wr=>∃ (i : Nat) (l : List Value),iv = iV i /\ i <= K /\ l.length = K /\ (∀ a,a < i -> l[a]? = some (.int .u64 (s.wd a))) /\ Rw wr 34 B K l /\ Gnp 0 w wr L E 1 30 8 34 s σ ⟨q,0,fun _=>0,fun _=>0⟩ nx (fun _=>1) ls) (fun iv _=>K - (intOf iv).toNat)
     case atStart=>exact ⟨0,l0,rfl,Nat.zero_le _,W6.out.1,fun a h=>absurd h (Nat.not_lt_zero _),W6.out.2,F6.out⟩
     case round =>
      clear F6 W6
      obtain ⟨i,l,rfl,hi,hl,hal,rw,f⟩:=hrel
      by_cases hi3 : i < K
      · have hid : (i : Int) < (K : Int):=by omega
        have hKb : (K : Int) <= 363:=by have:=HK.out.1;omega
        have hib : (0 : Int) <= (i : Int) /\ (i : Int) < (K : Int):=by omega
        obtain ⟨x0,hx0⟩ : ∃ x,l[i]? = some x:=⟨_,List.getElem?_eq_getElem (by omega)⟩
        have c1:=rw.cell hx0
        clear hx0
        have c2:=rw.fz i
        have y7:=f.v.c7
        have hin : i < s.n:=by have:=HK.out;omega
        have HAL : Hid (∀ a,a < i -> l[a]? = some (.int .u64 (s.wd a))):=hal
        have HL : Hid (l.length = K):=hl
        clear hal hl
        go_wp2_with (go_at_call 14;go_must (refine (peek_in f.mm i hin).mono ?_;rintro e w7 ⟨rfl,rfl⟩))
        go_roundw
        case rel =>
         have hlt : i < l.length:=by rw [HL.out];exact hi3
         refine ⟨i + 1,l.set i (.int .u64 (s.wd i)),by go_num,by omega,by rw [List.length_set];exact HL.out,fun a ha=>?_,rw.set hlt _,f.own (Only.setCell (a:=⟨B,i,none⟩) (Only.refl (fun k=>k = B) _) (fun _=>rfl) _) HB.out.2.1 HB.out.2.2 HB.out.1⟩
         by_cases e : a = i
         · rw [e,List.getElem?_set_self hlt]
         · rw [List.getElem?_set_ne (fun e'=>e e'.symm)];exact HAL.out a (by omega)
        case measure=>exact meas hi3
      · have hiK : i = K:=by omega
        rw [hiK] at hal
        have hid : ¬ (i : Int) < (K : Int):=by omega
        clear hiK
        obtain ⟨C,hC,C1,C8⟩:=lowAt times 7 3 1 (by decide) (by decide)
        have hCw : IntKind.i64.wrap (1 + bits .and .i64 times 7) = (C : Int):=by
         have : (1 : Int) + bits .and .i64 times 7 = (C : Int):=hC
         rw [this,IntKind.wrap_i64];omega
        have hC8 : C <= 8:=by omega
        obtain ⟨N,ep,cp',hN,gg,hwk⟩:=still_go (tr:=3) f.r HF.out (by omega) (by decide) (by decide) (by decide) (by decide) (c:=C) (by omega) (by omega) (show Wd (0 : Int) from ⟨by decide,by decide⟩)
        have HG : Hid (CRuns 1 30 8 34 0 3 (0 + C) N σ ⟨q,0,fun _=>0,fun _=>0⟩ cp0 ⟨q,ep,fun _=>0,fun _=>0⟩ cp' /\ cp'.wk = ⟨0,0,0,0,0 + C⟩):=⟨gg,hwk⟩
        have HN : Hid (N <= 3000 * C /\ σ + N < 1000000 /\ C <= 100):=⟨hN,by omega,by omega⟩
        have HS : Hid (E < wr.heap.size /\ B < wr.heap.size /\ ¬ L.has wr.heap.size /\ w.heap.size <= wr.heap.size):=⟨World.block_lt_of_cell? _ _ f.v.c0,rw.lt,fun hh=>by have:=f.mm.lt _ hh;omega,f.b.size⟩
        have HAL : Hid (∀ a,a < K -> l[a]? = some (.int .u64 (s.wd a))):=hal
        have KP : Hid (Kp (fun y=>y < w.heap.size \/ y = E \/ y = B) L wr.heap.size (wr.alloc comp0)):=⟨fun e=>by have:=HS.out;rcases e with e | e | e <;> omega,fun y e hh=>by rcases e with e | e | e;(have:=GA.out.l0 y hh;omega);exact GA.out.e (e ▸ hh);exact HB.out.1 (e ▸ hh),fun y e=>by rw [Go.Deep.nblk_alloc];have:=HS.out;rcases e with e | e | e <;> omega⟩
        have f3:=f.grown (gro1 _ comp0)
        have rw3:=rw.grown (gro1 _ comp0)
        obtain ⟨y0,y1,y2,y3,y4,y5,y6,y7,y8⟩:=f3.v
        clear f rw hal hl gg hwk hN hC C8
        go_wp2_with (first
         | (go_at_call 17;go_must (refine (newComp_any _).mono ?_;rintro e w8 ⟨rfl,rfl⟩))
         | (go_at_call 18;go_must (refine (rounds_goes (c:=C) (cp:=cp0) f3.mm HS.out.2.2.1 KP.out f3.r.ld good30z (cp0_at wr L _) 0 HN.out.2.2 HN.out.1 HN.out.2.1 (by decide) HG.out.1).mono ?_;rintro e w9 ⟨rfl,s9,m9,l9,c9,o9⟩)))
        have v9:=f3.v.only o9 (fun hh=>hh (Or.inr (Or.inl rfl)))
        have rw9:=rw3.only o9 (fun hh=>hh (Or.inr (Or.inr rfl)))
        have bb9 : Below w.heap.size w w9:=ogrow f3.b o9 (fun x hx=>by have : ¬ x < w.heap.size:=fun e=>hx (Or.inl e);omega)
        have HWD : Hid ((∀ a,1 <= a -> s9.wd a = s.wd a) /\ s9.n = K):=⟨fun a ha=>f3.r.ld.words l9 rfl rfl rfl ha,HK.out.1 ▸ l9.tw.yard.len⟩
        obtain ⟨X,hX⟩ : ∃ X,wr.heap.size = X:=⟨_,rfl⟩
        rw [hX] at c9
        have A9 : Hid (MemAt w9 L s9 /\ Rw w9 34 B K l /\ BoxV w9 E 1 30 8 34 100 0 3 L.p 0 /\ Below w.heap.size w w9 /\ ∃ cs f,CpAt w9 X 0 110 L (fun y=>y < w.heap.size \/ y = E \/ y = B) cp' cs f):=⟨m9,rw9,v9,bb9,c9⟩
        clear f3 rw3 m9 l9 c9 o9 v9 rw9 bb9 y0 y1 y2 y3 y4 y5 y6 y7 y8 KP HS
        simp only [hX]
        clear hX
        go_loopw [11] (fun iv wr=>∃ i : Nat,iv = iV i /\ 1 <= i /\ i <= K /\ MemAt wr L s9 /\ Rw wr 34 B K l /\ BoxV wr E 1 30 8 34 100 0 3 L.p 0 /\ Below w.heap.size w wr /\ ∃ cs f,CpAt wr X 0 110 L (fun y=>y < w.heap.size \/ y = E \/ y = B) cp' cs f) (fun iv _=>K - (intOf iv).toNat)
        case atStart=>exact ⟨1,rfl,by decide,by have:=HK.out.1;omega,A9.out⟩
        case round =>
         clear A9
         obtain ⟨i,rfl,hi1,hi,m1,rw,v1,bb,⟨cs,F,CP⟩⟩:=hrel
         by_cases hi3 : i < K
         · have hid : (i : Int) < (K : Int):=by omega
           have hKb : (K : Int) <= 363:=by have:=HK.out.1;omega
           have HIB : Hid ((0 : Int) <= (i : Int) /\ (i : Int) < (K : Int)):=⟨by omega,by omega⟩
           have hcell:=HAL.out i hi3
           have HC2 : Hid (l[i]? = some (.int .u64 (s.wd i))):=hcell
           have hin : i < s9.n:=by rw [HWD.out.2];exact hi3
           clear hcell
           go_wp2
           apply rgG;· kernel_rfl
           apply rV;· intros;apply ol;go_simp;exact gl
           apply rV;· intro w' hg _;apply ol;have y7:=v1.dg hg |>.c7;go_simp;exact gl
           apply rV;· intros;apply ol;go_simp;exact gl
           apply rV;· intro w' hg _;apply ol;go_simp;exact cc (peek_is (m1.drew.below hg) i hin _ (HWD.out.1 i hi1))
           iterate 2 (apply rV;· intros;apply ol;go_simp;exact gl)
           try simp only [pu,s0,s1]
           apply rV;· intro w' hg _;apply ol;have hb1:=HIB.out;go_simp;exact gl
           apply rV;· intro w' hg _;apply ol;have z1:=((rw.grown ((Below.refl _ _).drew)).grown hg).cell HC2.out;go_simp;exact gl
           apply rV1 (c:=.bool false);· intro w' hg _;apply ol;go_simp;exact ⟨Grown.refl _,by first | rfl | simp [Want.pred]⟩
           try simp only [pu,s0,s1]
           intro w5 hg _
           have D:=(Below.refl wr.heap.size wr).drew
           go_wp2
           go_roundw
           case rel=>exact ⟨i + 1,by go_num,by omega,by omega,(m1.below D).below hg,(rw.grown D).grown hg,(v1.grown D).grown hg,grow (grow bb D) hg,cs,F,(CP.grown D).grown hg⟩
           case measure=>exact meas hi3
         · have hid : ¬ (i : Int) < (K : Int):=by omega
           have k:=fun (W : World) (h : CpAt W X 0 110 L (fun y=>y < w.heap.size \/ y = E \/ y = B) cp' cs F)=>cwork_any h.cm (h.ct.k43.trans (show iV (cp'.wk.ev : Nat) = iV 0 from (by rw [HG.out.2];rfl))) (h.ct.k44.trans (show iV (cp'.wk.lf : Nat) = iV 0 from (by rw [HG.out.2];rfl))) h.ct.k45 (h.ct.k46.trans (show iV (cp'.wk.mv : Nat) = iV 0 from (by rw [HG.out.2];rfl))) h.ct.k47
           have fl0 : ∀ (a1 a2 a3 a4 a5 : Value) (w : World),(Instr.field 63 (.agg #[a1,a2,a3,a4,a5]) 0).run Tryz.prog w = .ok a1 w:=fun a1 a2 a3 a4 a5 w=>by kernel_rfl
           have fl1 : ∀ (a1 a2 a3 a4 a5 : Value) (w : World),(Instr.field 63 (.agg #[a1,a2,a3,a4,a5]) 1).run Tryz.prog w = .ok a2 w:=fun a1 a2 a3 a4 a5 w=>by kernel_rfl
           have fl3 : ∀ (a1 a2 a3 a4 a5 : Value) (w : World),(Instr.field 63 (.agg #[a1,a2,a3,a4,a5]) 3).run Tryz.prog w = .ok a4 w:=fun a1 a2 a3 a4 a5 w=>by kernel_rfl
           have k1:=k _ CP
           go_wp2_with (first
            | (go_at_call 25;refine k1.mono ?_;rintro e w6 ⟨rfl,b1⟩;clear k1;have k2:=k _ (CP.grown b1))
            | (go_at_call 25;refine k2.mono ?_;rintro e w7 ⟨rfl,b2⟩;clear k2;have k3:=k _ ((CP.grown b1).grown b2))
            | (go_at_call 25;refine k3.mono ?_;rintro e w8 ⟨rfl,b3⟩;clear k3))
           go_ret
           exact ⟨rfl,grow (grow (grow bb b1) b2) b3⟩
end Go.Proofs.YtmnnhjhhhfabiaaGreat
