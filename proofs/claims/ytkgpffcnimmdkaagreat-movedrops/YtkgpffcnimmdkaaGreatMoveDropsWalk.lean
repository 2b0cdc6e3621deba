import Derived.Test.YtkgpffcnimmdkaaGreatMovAwake
import Derived.Test.YtkgpffcnimmdkaaGreatMovGone
import Derived.Test.YtkgpffcnimmdkaaGreatArgs
namespace Go.Proofs.YtkgpffcnimmdkaaGreat
open Go.RowKit
set_option maxRecDepth 20000
theorem gpot_le {Z r : Nat} {q : Q} {μ : Mv} (z2 : Z <= 16) (hr : r <= 9) : gpot Z r q μ <= 75:=by
 cases μ <;> simp only [gpot] <;> (try split) <;> omega
theorem ScM.drop {w0 W : World} {L : Loc} {E H M Z σ : Nat} {s : Mm} {q : Q} {r : Nat} {val : Nat -> Int} {yE : Y} {μ : Mv} (f : ScM w0 W L E H M Z s σ q false 0 0 val yE r μ) (A : ScMA w0 L E H M) (hσ : σ + 200 < 1000000) :
 ∃ q2,Gn Z q2 /\ GI Z yE r q2 μ /\ Calls Tryz.prog 27 #[.agg #[.int .i64 4,.int .i64 8,.int .i64 4,.int .i64 20,.int .i64 100,.int .i64 600,.int .i64 3,.pointer (some ⟨L.p,0,none⟩),.int .i64 0],.int .u64 65536,.bool false] W fun e w'=>∃ (st : Int) (s' : Mm),e = .returned (.agg #[.int .i64 0,.int .u64 0,.int .i64 0,.int .i64 st]) /\ ScV w0 w' L E H M Z s' (σ + (2 * Z + 8)) q2 (mw Z 0) μ:=by
 obtain ⟨q2,run,gn,gi⟩:=mi_drop f.mi f.sc.sp.tw.pile.hdle
 have z2:=gn.z2
 refine ⟨q2,gn,gi,(drop_goes f.sc.sp.mm f.sc.sp.tw good11 f.mi.com.wd hand01 (by decide) hσ (by omega) run).mono ?_⟩
 rintro e w' ⟨st,s',rfl,m,t,o⟩
 exact ⟨st,s',rfl,f.free.only A o m t (by omega)⟩
theorem ScV.dead {w0 W : World} {L : Loc} {E H M Z σ : Nat} {s : Mm} {q : Q} {Wm : Mw} {μ : Mv} (f : ScV w0 W L E H M Z s σ q Wm μ) (A : ScMA w0 L E H M) (G : Gn Z q) (hσ : σ + 200 < 1000000) :
 Calls Tryz.prog 17 #[.agg #[.int .i64 4,.int .i64 8,.int .i64 4,.int .i64 20,.int .i64 100,.int .i64 600,.int .i64 3,.pointer (some ⟨L.p,0,none⟩),.int .i64 0],.int .u64 65536,.int .i64 0] W fun e w'=>e = .returned (.agg #[.int .i64 3,.int .u64 0,.int .i64 0,.int .i64 ((σ + 1 : Nat) : Int)]) /\ ∃ s',ScV w0 w' L E H M Z s' (σ + 1) q Wm μ /\ Only L.has W w':=by
 have rn:=aruns_dead (t:=4) (n:=8) (k:=4) (m:=20) (W:=wtD 0) (own:=false) (x:=0) (G:=1) (σ:=σ) (q:=q) (by rw [G.sw];rfl)
 have k:=f.sc.read A.sa G.wd hσ (j:=0) (by decide) rn
 refine Calls.mono k ?_
 rintro e w' ⟨rfl,s',f',o'⟩
 exact ⟨rfl,s',f.only A o' f'.sp.mm f'.sp.tw (by omega),o'⟩
theorem gi_tells {Z r : Nat} {yE : Y} {q : Q} {o : Int} {τ : Pl} (G : Gn Z q) (h : GI Z yE r q (.over o τ)) :
 ∃ (A i : Nat) (d : Bool),τ.told = (A,i,d) /\ A < 118 /\ (∀ (s : Mm) (σ : Nat),Town 4 8 4 20 s σ q -> ∃ u,s.wd A = u /\ 0 <= u /\ u <= 18446744073709551615 /\ ∃ kd,u % 4 = kd /\ ((o = 2 /\ d = false) \/ (o = 2 /\ d = true /\ kd = 3) \/ (o = 1 /\ kd = 2))) /\ LvIs q 0 0 0:=by
 obtain ⟨hl,h⟩:=h
 have hw : ∀ (kd : Nat),kd <= 3 -> q.dw (base 4 8 4 20 1) = (mw Z 0).hw kd -> ∀ (s : Mm) (σ : Nat),Town 4 8 4 20 s σ q -> s.wd (base 4 8 4 20 1) = (mw Z 0).hw kd /\ 0 <= (mw Z 0).hw kd /\ (mw Z 0).hw kd <= 18446744073709551615 /\ (mw Z 0).hw kd % 4 = kd:=fun kd hk e s σ T=>by
  have e1:=T.dwv (base 4 8 4 20 1) (by decide)
  have wd:=Mw.hw_wd (mw Z 0) kd
  exact ⟨e1.trans e,wd.1,wd.2,(hw_dec (c:=0) G.z2 hk).2.2⟩
 rcases h with ⟨rfl,rfl | ⟨rfl,e⟩⟩ | ⟨rfl,rfl,e⟩
 · exact ⟨0,0,false,rfl,by decide,fun s σ T=>⟨_,rfl,T.ep.1,T.ep.2,_,rfl,Or.inl ⟨rfl,rfl⟩⟩,hl⟩
 · refine ⟨_,_,true,rfl,by decide,fun s σ T=>?_,hl⟩
   obtain ⟨a,b,c,d⟩:=hw 3 (by decide) e s σ T
   exact ⟨_,a,b,c,_,d,Or.inr (Or.inl ⟨rfl,rfl,rfl⟩)⟩
 · refine ⟨_,_,true,rfl,by decide,fun s σ T=>?_,hl⟩
   obtain ⟨a,b,c,d⟩:=hw 2 (by decide) e s σ T
   exact ⟨_,a,b,c,_,d,Or.inr (Or.inr ⟨rfl,rfl⟩)⟩
set_option maxHeartbeats 4000000 in
set_option maxRecDepth 20000 in
theorem moveDrops_any (a : Int) (b : Int) (w : World) :
 Calls Tryz.prog 6 #[.int .i64 a,.int .i64 b] w fun e w'=>e = .returned (.bool true) /\ Below w.heap.size w w':=by
 obtain ⟨Z,hZ,z1,z2⟩:=size15 a
 have HZ : Hid ((1 : Int) + bits .and .i64 a 15 = (Z : Int)):=hZ
 clear hZ
 obtain ⟨nn,hnn,hnb⟩ : ∃ n : Nat,bits .and .i64 b 127 = (n : Int) /\ n <= 127:=by
  obtain ⟨y,h1,h2⟩:=low0 b 127 7 (by decide) (by decide)
  exact ⟨y,h1,by omega⟩
 have ffD : ∀ (a1 a2 a3 a4 : Value) (w : World),(Instr.field 48 (.agg #[a1,a2,a3,a4]) 0).run Tryz.prog w = .ok a1 w:=fun a1 a2 a3 a4 w=>by kernel_rfl
 have ffH : ∀ (a1 a2 a3 a4 a5 : Value) (w : World),(Instr.field 30 (.agg #[a1,a2,a3,a4,a5]) 0).run Tryz.prog w = .ok a1 w:=fun a1 a2 a3 a4 a5 w=>by kernel_rfl
 go_enter Tryz.func6,Tryz.ntmps6
 go_wp2_with (first
  | (go_at_call 9;refine (begun_any a none 0 0 (fun _=>0) w (fun i hi=>absurd hi (by omega)) HZ.out z1 z2).mono ?_;rintro e w1 ⟨L,s,σ,q,rfl,hσ,m1,t1,a1,hyq,b1,l1⟩;obtain ⟨sc1,sa⟩:=sc_new (Z:=Z) m1 t1 b1 l1)
  | (go_at_call 10;refine (awake11_any _).mono ?_;rintro e w2 ⟨rfl,b2⟩;have sc2:=sc1.grown b2;obtain ⟨y0,y1,y2,y3,y4,y5,y6,y7,y8⟩:=sc2.sp.v;obtain ⟨_,hd⟩:=sc2.hd;have g0:=hd.at0 0 rfl;have g1:=hd.at0 1 rfl;have g2:=hd.at0 2 rfl;have g3:=hd.at0 3 rfl;have g4:=hd.at0 4 rfl)
  | (go_at_call 11;refine (new0 z1 z2 _).mono ?_;rintro e w3 ⟨W3,rfl,rfl,b3⟩;obtain ⟨sm,sma⟩:=scm_new (wr:=false) (sc2.grown b3) sa 2 (bgn_mi false a1 hyq)))
 obtain ⟨E,hE⟩ : ∃ E,w1.heap.size = E:=⟨_,rfl⟩
 rw [hE] at sm sma
 try rw [hE]
 obtain ⟨H,hH⟩ : ∃ H,E + 1 = H:=⟨_,rfl⟩
 rw [hH] at sm sma
 try rw [hH]
 obtain ⟨M,hM⟩ : ∃ M,W3.heap.size = M:=⟨_,rfl⟩
 rw [hM] at sm sma
 try rw [hM]
 have A0 : Hid (ScM w _ L E H M Z s σ q false 0 0 (vals 0 (fun _=>0) Z) (yE (mw Z 0).κ) 9 (.see .see 0)):=sm
 have SA : Hid (ScMA w L E H M):=sma
 clear sc1 sc2 m1 t1 b1 l1 b2 hd hE hH g0 g1 g2 g3 g4 y0 y1 y2 y3 y4 y5 y6 y7 y8 sm sma sa a1 hyq b3 hM
 go_loopw [11,13] (fun mv iv wr=>∃ (j : Nat) (s' : Mm) (σ' : Nat) (q' : Q) (μ : Mv) (r : Nat),mv = .bool μ.over? /\ iv = .int .i64 j /\ j <= nn /\ σ' <= 1000 + j /\ r <= 9 /\ ScM w wr L E H M Z s' σ' q' false 0 0 (vals 0 (fun _=>0) Z) (yE (mw Z 0).κ) r μ) (fun _ i _=>128 - (intOf i).toNat)
 case atStart=>exact ⟨0,s,σ,q,.see .see 0,9,rfl,rfl,by omega,by omega,by omega,A0.out⟩
 case round =>
  clear A0
  obtain ⟨j,s1,σ1,q1,μ,r,rfl,rfl,hjn,hσ1,hr9,f⟩:=hrel
  obtain ⟨y0,y1,y2,y3,y4,y5,y6,y7,y8⟩:=f.sc.sp.v
  by_cases hjl : j < nn
  · have hjl' : (j : Int) < (nn : Int):=by omega
    cases hm1 : μ.over? with
    | false =>
     obtain ⟨q2,μ2,r2,ht,hp,mi,hrr,k⟩:=f.step SA.out (by omega) hm1
     have k:=k _ rfl
     go_wp2_with (go_at_call 12;refine k.mono ?_;rintro e w2 ⟨rfl,s2,f2,o2,-⟩)
     go_roundw
     case rel=>exact ⟨j + 1,s2,σ1 + 1,q2,μ2,r2,rfl,by go_num,by omega,by omega,by omega,f2⟩
     case measure=>simp [intOf];omega
    | true =>
     as_aux_lemma =>
      obtain ⟨q2,G2,I2,kd⟩:=f.drop SA.out (by omega)
      go_wp2_with (go_at_call 27;refine kd.mono ?_;rintro e w2 ⟨st,s2,rfl,f2⟩)
      have hσ2 : σ1 + (2 * Z + 8) <= 1200:=by omega
      obtain ⟨σ2,hσe⟩ : ∃ x,σ1 + (2 * Z + 8) = x:=⟨_,rfl⟩
      rw [hσe] at f2 hσ2
      have A1 : Hid (ScV w _ L E H M Z s2 σ2 q2 (mw Z 0) μ /\ Gn Z q2 /\ GI Z (yE (mw Z 0).κ) r q2 μ):=⟨f2,G2,I2⟩
      have hgp : gpot Z r q2 μ <= 75:=gpot_le z2 hr9
      clear f f2 G2 I2 kd hσe y0 y1 y2 y3 y4 y5 y6 y7 y8
      go_loopw [11,14] (fun mv iv wr=>∃ (j : Nat) (s' : Mm) (σ' : Nat) (q' : Q) (μ' : Mv) (r' : Nat),mv = .bool μ'.over? /\ iv = .int .i64 j /\ j + gpot Z r' q' μ' <= 75 /\ σ' <= 1200 + j /\ ScV w wr L E H M Z s' σ' q' (mw Z 0) μ' /\ Gn Z q' /\ GI Z (yE (mw Z 0).κ) r' q' μ') (fun _ i _=>200 - (intOf i).toNat)
      case atStart=>exact ⟨0,s2,σ2,q2,μ,r,by rw [hm1],rfl,by omega,by omega,A1.out.1,A1.out.2.1,A1.out.2.2⟩
      case round =>
       clear A1 hgp
       obtain ⟨j,s3,σ3,q3,μ3,r3,rfl,rfl,hj,hσ3,f,G3,I3⟩:=hrel
       obtain ⟨y0,y1,y2,y3,y4,y5,y6,y7,y8⟩:=f.sc.sp.v
       have hj2 : (j : Int) < 200:=by omega
       cases hmo : μ3.over? with
       | false =>
        obtain ⟨⟨q4,μ4⟩,ht⟩ : ∃ x,mvTurn (mw Z 0) 4 20 (base 4 8 4 20) q3 μ3 = x:=⟨_,rfl⟩
        obtain ⟨gd,G4,r4,I4,hp⟩:=gi_step G3 I3 hmo ht σ3 (fun v τ fl e=>by have:=f.pg;rw [e] at this;exact this)
        have k:=f.step SA.out (by omega) G3.wd (mw_ok (c:=0) G3.z1 G3.z2 (by decide)) rfl gd hmo ht _ rfl
        go_wp2_with (go_at_call 12;refine k.mono ?_;rintro e w4 ⟨rfl,s4,f4,o4,-⟩)
        go_roundw
        case rel=>exact ⟨j + 1,s4,σ3 + 1,q4,μ4,r4,rfl,by go_num,by omega,by omega,f4,G4,I4⟩
        case measure=>simp [intOf];omega
       | true =>
        obtain ⟨o,τ,rfl⟩:=Mv.is_over hmo
        obtain ⟨A,i,d,htold,hA8,HT,hl⟩:=gi_tells G3 I3
        have rd:=fun (W : World) (s : Mm) (f : ScV w W L E H M Z s σ3 q3 (mw Z 0) (.over o τ))=>f.dead SA.out G3 (by omega)
        go_wp2_with (first
         | (go_at_call 13;refine (f.spot (μ:=.over o τ) htold).mono ?_;rintro e w3 ⟨rfl,b3⟩;have f3:=(f.grown b3).grown (grow1 _ (.cells #[.int .i64 A,.int .i64 i] 38));have p3:=At.new w3 38 [.int .i64 A,.int .i64 i];obtain ⟨u0,u1,u2,u3,u4,u5,u6,u7,u8⟩:=f3.sc.sp.v)
         | (go_at_call 17;refine (rd _ _ f3).mono ?_;rintro e w4 ⟨rfl,s4,f4,o4⟩))
        obtain ⟨P,hP⟩ : ∃ P,w3.heap.size = P:=⟨_,rfl⟩
        have hPL : ¬ L.has P:=fun hh=>by have:=f.sc.sp.mm.lt _ hh;have:=b3.size;omega
        rw [hP] at p3
        try rw [hP]
        have p4:=p3.only o4 hPL
        obtain ⟨u,hu,hu0,hu1,kd,hkd,hO⟩:=HT s4 (σ3 + 1) f4.sc.sp.tw
        have hN : s4.n = 118:=f4.sc.sp.tw.len
        have hA : A < s4.n:=by omega
        have HN : Hid (s4.n = 118):=hN
        have HU : Hid (s4.wd A = u):=hu
        have HO : Hid ((o = 2 /\ d = false) \/ (o = 2 /\ d = true /\ kd = 3) \/ (o = 1 /\ kd = 2)):=hO
        have HH : Hid (∀ w : World,Calls Tryz.prog 21 #[.int .u64 u] w fun e w'=>e = .returned (.agg #[.int .i64 kd,.int .i64 (u / 4 % 65536),.int .i64 (u / 262144 % 65536),.int .i64 (u / 17179869184 % 65536),.bool (decide (u / 1125899906842624 % 2 = 1))]) /\ Below w.heap.size w w'):=fun w=>HeadIs.call ⟨hu0,hu1,hkd,rfl,rfl,rfl,rfl⟩ w
        have HL : Hid (∀ j,j < 4 -> ∀ ad,26 + j * 3 + 1 = ad -> s4.wd ad = 0):=fun j hj ad had=>by
         subst had
         have e:=f4.sc.sp.tw.lvv (by omega) j hj (by rw [(hl j hj).2];split <;> rfl)
         have e0 : q3.lv j = 0:=by rw [(hl j hj).1];split <;> (try split) <;> rfl
         rw [e0] at e
         exact e
        have A2 : Hid (ScV w _ L E H M Z s4 (σ3 + 1) q3 (mw Z 0) (.over o τ) /\ At _ P 0 38 _ [.int .i64 A,.int .i64 i]):=⟨f4,p4⟩
        clear hu hkd hO hN HT hl rd f f3 f4 p3 p4 b3 o4 hP hPL G3 I3 htold hmo y0 u0 y1 u1 y2 u2 y3 u3 y4 u4 y5 u5 y6 u6 y7 u7 y8 u8
        go_loopw [17,18] (fun lv iv wr=>∃ j : Nat,lv = .int .u64 0 /\ iv = .int .i64 j /\ j <= 4 /\ ScV w wr L E H M Z s4 (σ3 + 1) q3 (mw Z 0) (.over o τ) /\ At wr P 0 38 _ [.int .i64 A,.int .i64 i]) (fun _ i _=>5 - (intOf i).toNat)
        case atStart=>exact ⟨0,rfl,rfl,by omega,A2.out⟩
        case round =>
         clear A2
         obtain ⟨j,rfl,rfl,hj,f,pp⟩:=hrel
         obtain ⟨y0,y1,y2,y3,y4,y5,y6,y7,y8⟩:=f.sc.sp.v
         by_cases hj4 : j < 4
         · have hj4' : (j : Int) < 4:=by omega
           obtain ⟨ad,had⟩ : ∃ ad : Nat,26 + j * 3 + 1 = ad:=⟨_,rfl⟩
           have HLV : Hid (s4.wd ad = 0):=HL.out j hj4 ad had
           have hn : ad < s4.n:=by have:=HN.out;omega
           go_wp2
           refine wp_over (fun W=>ScV w W L E H M Z s4 (σ3 + 1) q3 (mw Z 0) (.over o τ) /\ At W P 0 38 _ [.int .i64 A,.int .i64 i]) ⟨f,pp⟩ ?_
           clear f pp y0 y1 y2 y3 y4 y5 y6 y7 y8
           rintro W ⟨f1,p1⟩
           refine wp_region_rely_tail Grown 10 [.val (.int .u64 0),.val (.pointer (some ⟨E,7,none⟩)),.val (.pointer (some ⟨L.p,0,none⟩)),.val (.pointer (some ⟨E,0,none⟩)),.val (.agg #[.int .i64 4,.int .i64 8,.int .i64 4,.int .i64 20,.int .i64 100,.int .i64 600,.int .i64 3]),.val (.int .i64 j),.val (.int .i64 (26 + (j : Int) * 3)),.val (.int .i64 ((ad : Int))),.val (.int .u64 0),.val (.int .u64 0)] (by kernel_rfl) Grown.refl Grown.trans (by decide) (by kernel_rfl) (by kernel_rfl) (by kernel_rfl) (by kernel_rfl) (by kernel_rfl) (by kernel_rfl) ?_
           simp only [List.take_succ_cons,List.take_zero,relyAll,Act.put,List.setIfInBounds_toArray,List.set_cons_zero,List.set_cons_succ]
           refine ⟨?_,?_,?_,?_,?_,?_,?_,?_,?_,?_,?_⟩
           · intros;apply ol;go_simp;exact gl
           · intros;apply ol;go_simp;exact gl
           · intro w' hg _
             apply ol
             obtain ⟨y0,y1,y2,y3,y4,y5,y6,y7,y8⟩:=(f1.sc.sp.v.grown ((Below.refl _ _).drew)).grown hg
             go_simp
             exact gl
           · intros;apply ol;go_simp;exact gl
           · intro w' hg _
             apply ol
             obtain ⟨y0,y1,y2,y3,y4,y5,y6,y7,y8⟩:=(f1.sc.sp.v.grown ((Below.refl _ _).drew)).grown hg
             go_simp
             exact gl
           · intros;apply ol;go_simp;exact gl
           · intro w' hg _
             apply ol
             go_simp
             refine (lchunk_any _ _ _ _ _ _ _ j _ good11.arena (by omega) (by omega)).mono ?_
             rintro e w'' ⟨rfl,b9⟩
             exact ⟨_,rfl,b9,congrArg (Value.int .i64) (by omega)⟩
           · intro w' hg _
             apply ol
             go_simp
             exact ⟨Grown.refl _,congrArg (Value.int .i64) (by rw [IntKind.wrap_i64];omega)⟩
           · intro w' hg _
             apply ol
             go_simp
             refine (peek_is (f1.sc.sp.mm.drew.below hg) ad hn 0 HLV.out).mono ?_
             rintro e w'' ⟨rfl,rfl⟩
             exact ⟨_,rfl,Grown.refl _,rfl⟩
           · intros;apply ol;go_simp;exact gl
           intro w5 hg _
           have f5:=(f1.grown ((Below.refl _ _).drew)).grown hg
           have p5:=p1.drew.grown hg
           clear f1 p1 hg
           go_wp2
           go_roundw
           case rel=>exact ⟨j + 1,rfl,by go_num,by omega,f5,p5⟩
           case measure=>simp [intOf];omega
         · have hj4' : ¬ (j : Int) < 4:=by omega
           have pc0:=pp.at0 0 rfl
           rcases HO.out with ⟨rfl,rfl⟩ | ⟨rfl,rfl,rfl⟩ | ⟨rfl,rfl⟩
           · as_aux_lemma =>
              go_wp2_with (first
               | (go_at_call 22;refine (peek_is f.sc.sp.mm A hA u HU.out).mono ?_;rintro e w5 ⟨rfl,rfl⟩)
               | (go_at_call 21;refine (HH.out _).mono ?_;rintro e w6 ⟨rfl,b6⟩;have f6:=f.grown b6)
               | (go_at_call 16;refine f6.out.mono ?_;rintro e w7 ⟨rfl,rfl⟩))
              go_ret
              exact ⟨rfl,f6.sc.sp.b⟩
           · as_aux_lemma =>
              go_wp2_with (first
               | (go_at_call 22;refine (peek_is f.sc.sp.mm A hA u HU.out).mono ?_;rintro e w5 ⟨rfl,rfl⟩)
               | (go_at_call 21;refine (HH.out _).mono ?_;rintro e w6 ⟨rfl,b6⟩;have f6:=f.grown b6)
               | (go_at_call 16;refine f6.out.mono ?_;rintro e w7 ⟨rfl,rfl⟩))
              go_ret
              exact ⟨rfl,f6.sc.sp.b⟩
           · as_aux_lemma =>
              go_wp2_with (first
               | (go_at_call 22;refine (peek_is f.sc.sp.mm A hA u HU.out).mono ?_;rintro e w5 ⟨rfl,rfl⟩)
               | (go_at_call 21;refine (HH.out _).mono ?_;rintro e w6 ⟨rfl,b6⟩;have f6:=f.grown b6)
               | (go_at_call 16;refine f6.out.mono ?_;rintro e w7 ⟨rfl,rfl⟩))
              go_ret
              exact ⟨rfl,f6.sc.sp.b⟩
  · have hjl' : ¬ (j : Int) < (nn : Int):=by omega
    as_aux_lemma =>
     obtain ⟨q2,G2,I2,kd⟩:=f.drop SA.out (by omega)
     go_wp2_with (go_at_call 27;refine kd.mono ?_;rintro e w2 ⟨st,s2,rfl,f2⟩)
     have hσ2 : σ1 + (2 * Z + 8) <= 1200:=by omega
     obtain ⟨σ2,hσe⟩ : ∃ x,σ1 + (2 * Z + 8) = x:=⟨_,rfl⟩
     rw [hσe] at f2 hσ2
     have A1 : Hid (ScV w _ L E H M Z s2 σ2 q2 (mw Z 0) μ /\ Gn Z q2 /\ GI Z (yE (mw Z 0).κ) r q2 μ):=⟨f2,G2,I2⟩
     have hgp : gpot Z r q2 μ <= 75:=gpot_le z2 hr9
     clear f f2 G2 I2 kd hσe y0 y1 y2 y3 y4 y5 y6 y7 y8
     go_loopw [11,14] (fun mv iv wr=>∃ (j : Nat) (s' : Mm) (σ' : Nat) (q' : Q) (μ' : Mv) (r' : Nat),mv = .bool μ'.over? /\ iv = .int .i64 j /\ j + gpot Z r' q' μ' <= 75 /\ σ' <= 1200 + j /\ ScV w wr L E H M Z s' σ' q' (mw Z 0) μ' /\ Gn Z q' /\ GI Z (yE (mw Z 0).κ) r' q' μ') (fun _ i _=>200 - (intOf i).toNat)
     case atStart=>exact ⟨0,s2,σ2,q2,μ,r,rfl,rfl,by omega,by omega,A1.out.1,A1.out.2.1,A1.out.2.2⟩
     case round =>
      clear A1 hgp
      obtain ⟨j,s3,σ3,q3,μ3,r3,rfl,rfl,hj,hσ3,f,G3,I3⟩:=hrel
      obtain ⟨y0,y1,y2,y3,y4,y5,y6,y7,y8⟩:=f.sc.sp.v
      have hj2 : (j : Int) < 200:=by omega
      cases hmo : μ3.over? with
      | false =>
       obtain ⟨⟨q4,μ4⟩,ht⟩ : ∃ x,mvTurn (mw Z 0) 4 20 (base 4 8 4 20) q3 μ3 = x:=⟨_,rfl⟩
       obtain ⟨gd,G4,r4,I4,hp⟩:=gi_step G3 I3 hmo ht σ3 (fun v τ fl e=>by have:=f.pg;rw [e] at this;exact this)
       have k:=f.step SA.out (by omega) G3.wd (mw_ok (c:=0) G3.z1 G3.z2 (by decide)) rfl gd hmo ht _ rfl
       go_wp2_with (go_at_call 12;refine k.mono ?_;rintro e w4 ⟨rfl,s4,f4,o4,-⟩)
       go_roundw
       case rel=>exact ⟨j + 1,s4,σ3 + 1,q4,μ4,r4,rfl,by go_num,by omega,by omega,f4,G4,I4⟩
       case measure=>simp [intOf];omega
      | true =>
       obtain ⟨o,τ,rfl⟩:=Mv.is_over hmo
       obtain ⟨A,i,d,htold,hA8,HT,hl⟩:=gi_tells G3 I3
       have rd:=fun (W : World) (s : Mm) (f : ScV w W L E H M Z s σ3 q3 (mw Z 0) (.over o τ))=>f.dead SA.out G3 (by omega)
       go_wp2_with (first
        | (go_at_call 13;refine (f.spot (μ:=.over o τ) htold).mono ?_;rintro e w3 ⟨rfl,b3⟩;have f3:=(f.grown b3).grown (grow1 _ (.cells #[.int .i64 A,.int .i64 i] 38));have p3:=At.new w3 38 [.int .i64 A,.int .i64 i];obtain ⟨u0,u1,u2,u3,u4,u5,u6,u7,u8⟩:=f3.sc.sp.v)
        | (go_at_call 17;refine (rd _ _ f3).mono ?_;rintro e w4 ⟨rfl,s4,f4,o4⟩))
       obtain ⟨P,hP⟩ : ∃ P,w3.heap.size = P:=⟨_,rfl⟩
       have hPL : ¬ L.has P:=fun hh=>by have:=f.sc.sp.mm.lt _ hh;have:=b3.size;omega
       rw [hP] at p3
       try rw [hP]
       have p4:=p3.only o4 hPL
       obtain ⟨u,hu,hu0,hu1,kd,hkd,hO⟩:=HT s4 (σ3 + 1) f4.sc.sp.tw
       have hN : s4.n = 118:=f4.sc.sp.tw.len
       have hA : A < s4.n:=by omega
       have HN : Hid (s4.n = 118):=hN
       have HU : Hid (s4.wd A = u):=hu
       have HO : Hid ((o = 2 /\ d = false) \/ (o = 2 /\ d = true /\ kd = 3) \/ (o = 1 /\ kd = 2)):=hO
       have HH : Hid (∀ w : World,Calls Tryz.prog 21 #[.int .u64 u] w fun e w'=>e = .returned (.agg #[.int .i64 kd,.int .i64 (u / 4 % 65536),.int .i64 (u / 262144 % 65536),.int .i64 (u / 17179869184 % 65536),.bool (decide (u / 1125899906842624 % 2 = 1))]) /\ Below w.heap.size w w'):=fun w=>HeadIs.call ⟨hu0,hu1,hkd,rfl,rfl,rfl,rfl⟩ w
       have HL : Hid (∀ j,j < 4 -> ∀ ad,26 + j * 3 + 1 = ad -> s4.wd ad = 0):=fun j hj ad had=>by
        subst had
        have e:=f4.sc.sp.tw.lvv (by omega) j hj (by rw [(hl j hj).2];split <;> rfl)
        have e0 : q3.lv j = 0:=by rw [(hl j hj).1];split <;> (try split) <;> rfl
        rw [e0] at e
        exact e
       have A2 : Hid (ScV w _ L E H M Z s4 (σ3 + 1) q3 (mw Z 0) (.over o τ) /\ At _ P 0 38 _ [.int .i64 A,.int .i64 i]):=⟨f4,p4⟩
       clear hu hkd hO hN HT hl rd f f3 f4 p3 p4 b3 o4 hP hPL G3 I3 htold hmo y0 u0 y1 u1 y2 u2 y3 u3 y4 u4 y5 u5 y6 u6 y7 u7 y8 u8
       go_loopw [17,18] (fun lv iv wr=>∃ j : Nat,lv = .int .u64 0 /\ iv = .int .i64 j /\ j <= 4 /\ ScV w wr L E H M Z s4 (σ3 + 1) q3 (mw Z 0) (.over o τ) /\ At wr P 0 38 _ [.int .i64 A,.int .i64 i]) (fun _ i _=>5 - (intOf i).toNat)
       case atStart=>exact ⟨0,rfl,rfl,by omega,A2.out⟩
       case round =>
        clear A2
        obtain ⟨j,rfl,rfl,hj,f,pp⟩:=hrel
        obtain ⟨y0,y1,y2,y3,y4,y5,y6,y7,y8⟩:=f.sc.sp.v
        by_cases hj4 : j < 4
        · have hj4' : (j : Int) < 4:=by omega
          obtain ⟨ad,had⟩ : ∃ ad : Nat,26 + j * 3 + 1 = ad:=⟨_,rfl⟩
          have HLV : Hid (s4.wd ad = 0):=HL.out j hj4 ad had
          have hn : ad < s4.n:=by have:=HN.out;omega
          go_wp2
          refine wp_over (fun W=>ScV w W L E H M Z s4 (σ3 + 1) q3 (mw Z 0) (.over o τ) /\ At W P 0 38 _ [.int .i64 A,.int .i64 i]) ⟨f,pp⟩ ?_
          clear f pp y0 y1 y2 y3 y4 y5 y6 y7 y8
          rintro W ⟨f1,p1⟩
          refine wp_region_rely_tail Grown 10 [.val (.int .u64 0),.val (.pointer (some ⟨E,7,none⟩)),.val (.pointer (some ⟨L.p,0,none⟩)),.val (.pointer (some ⟨E,0,none⟩)),.val (.agg #[.int .i64 4,.int .i64 8,.int .i64 4,.int .i64 20,.int .i64 100,.int .i64 600,.int .i64 3]),.val (.int .i64 j),.val (.int .i64 (26 + (j : Int) * 3)),.val (.int .i64 ((ad : Int))),.val (.int .u64 0),.val (.int .u64 0)] (by kernel_rfl) Grown.refl Grown.trans (by decide) (by kernel_rfl) (by kernel_rfl) (by kernel_rfl) (by kernel_rfl) (by kernel_rfl) (by kernel_rfl) ?_
          simp only [List.take_succ_cons,List.take_zero,relyAll,Act.put,List.setIfInBounds_toArray,List.set_cons_zero,List.set_cons_succ]
          refine ⟨?_,?_,?_,?_,?_,?_,?_,?_,?_,?_,?_⟩
          · intros;apply ol;go_simp;exact gl
          · intros;apply ol;go_simp;exact gl
          · intro w' hg _
            apply ol
            obtain ⟨y0,y1,y2,y3,y4,y5,y6,y7,y8⟩:=(f1.sc.sp.v.grown ((Below.refl _ _).drew)).grown hg
            go_simp
            exact gl
          · intros;apply ol;go_simp;exact gl
          · intro w' hg _
            apply ol
            obtain ⟨y0,y1,y2,y3,y4,y5,y6,y7,y8⟩:=(f1.sc.sp.v.grown ((Below.refl _ _).drew)).grown hg
            go_simp
            exact gl
          · intros;apply ol;go_simp;exact gl
          · intro w' hg _
            apply ol
            go_simp
            refine (lchunk_any _ _ _ _ _ _ _ j _ good11.arena (by omega) (by omega)).mono ?_
            rintro e w'' ⟨rfl,b9⟩
            exact ⟨_,rfl,b9,congrArg (Value.int .i64) (by omega)⟩
          · intro w' hg _
            apply ol
            go_simp
            exact ⟨Grown.refl _,congrArg (Value.int .i64) (by rw [IntKind.wrap_i64];omega)⟩
          · intro w' hg _
            apply ol
            go_simp
            refine (peek_is (f1.sc.sp.mm.drew.below hg) ad hn 0 HLV.out).mono ?_
            rintro e w'' ⟨rfl,rfl⟩
            exact ⟨_,rfl,Grown.refl _,rfl⟩
          · intros;apply ol;go_simp;exact gl
          intro w5 hg _
          have f5:=(f1.grown ((Below.refl _ _).drew)).grown hg
          have p5:=p1.drew.grown hg
          clear f1 p1 hg
          go_wp2
          go_roundw
          case rel=>exact ⟨j + 1,rfl,by go_num,by omega,f5,p5⟩
          case measure=>simp [intOf];omega
        · have hj4' : ¬ (j : Int) < 4:=by omega
          have pc0:=pp.at0 0 rfl
          rcases HO.out with ⟨rfl,rfl⟩ | ⟨rfl,rfl,rfl⟩ | ⟨rfl,rfl⟩
          · as_aux_lemma =>
             go_wp2_with (first
              | (go_at_call 22;refine (peek_is f.sc.sp.mm A hA u HU.out).mono ?_;rintro e w5 ⟨rfl,rfl⟩)
              | (go_at_call 21;refine (HH.out _).mono ?_;rintro e w6 ⟨rfl,b6⟩;have f6:=f.grown b6)
              | (go_at_call 16;refine f6.out.mono ?_;rintro e w7 ⟨rfl,rfl⟩))
             go_ret
             exact ⟨rfl,f6.sc.sp.b⟩
          · as_aux_lemma =>
             go_wp2_with (first
              | (go_at_call 22;refine (peek_is f.sc.sp.mm A hA u HU.out).mono ?_;rintro e w5 ⟨rfl,rfl⟩)
              | (go_at_call 21;refine (HH.out _).mono ?_;rintro e w6 ⟨rfl,b6⟩;have f6:=f.grown b6)
              | (go_at_call 16;refine f6.out.mono ?_;rintro e w7 ⟨rfl,rfl⟩))
             go_ret
             exact ⟨rfl,f6.sc.sp.b⟩
          · as_aux_lemma =>
             go_wp2_with (first
              | (go_at_call 22;refine (peek_is f.sc.sp.mm A hA u HU.out).mono ?_;rintro e w5 ⟨rfl,rfl⟩)
              | (go_at_call 21;refine (HH.out _).mono ?_;rintro e w6 ⟨rfl,b6⟩;have f6:=f.grown b6)
              | (go_at_call 16;refine f6.out.mono ?_;rintro e w7 ⟨rfl,rfl⟩))
             go_ret
             exact ⟨rfl,f6.sc.sp.b⟩
end Go.Proofs.YtkgpffcnimmdkaaGreat
