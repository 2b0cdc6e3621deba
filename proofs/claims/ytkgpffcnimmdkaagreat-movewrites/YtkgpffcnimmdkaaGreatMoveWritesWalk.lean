import Derived.Test.YtkgpffcnimmdkaaGreatMovAwake
import Derived.Test.YtkgpffcnimmdkaaGreatMovWriter
import Derived.Test.YtkgpffcnimmdkaaGreatArgs
namespace Go.Proofs.YtkgpffcnimmdkaaGreat
open Go.RowKit
set_option maxRecDepth 20000
theorem bit2 (i : Nat) : bits .and .i64 (i : Int) 1 = ((i % 2 : Nat) : Int):=by
 have h:=i64_low (i : Int) 1 1 (by decide) (by decide)
 rw [h];omega
theorem bit1 (z : Int) : ∃ K : Nat,bits .and .i64 z 1 = (K : Int) /\ (K = 0 \/ K = 1):=by
 obtain ⟨y,h1,h2⟩:=low0 z 1 1 (by decide) (by decide)
 exact ⟨y,h1,by omega⟩
theorem over_read {Z V r : Nat} {val : Nat -> Int} {yE : Y} {q : Q} {o : Int} {τ : Pl} (h : MI true Z 0 V val yE r q (.over o τ)) (k : Nat) (hk : k < Z) (σ : Nat) : ARuns 4 8 4 20 (wtD k) false 0 1 true 4 σ q .see q (.over 0 (val k) (σ + 3)):=by
 rcases h with ⟨-,hB,-⟩ | ⟨-,-,hA⟩
 · exact hB.read (h:=2) (by decide) hk σ
 · exact hA.read hk σ
theorem over_wo {Z V r : Nat} {val : Nat -> Int} {yE : Y} {q : Q} {o : Int} {τ : Pl} (h : MI true Z 0 V val yE r q (.over o τ)) : (o = 1 /\ Wo (q.sw 0) 1 58 (V + 1)) \/ (o = 3 /\ Wo (q.sw 0) 1 38 V):=by
 rcases h with ⟨rfl,hB,-⟩ | ⟨-,rfl,hA⟩
 · exact Or.inl ⟨rfl,hB.sw⟩
 · exact Or.inr ⟨rfl,hA.sw⟩
theorem ScM.read4 {w0 W : World} {L : Loc} {E H M Z σ : Nat} {s : Mm} {q : Q} {V r : Nat} {val : Nat -> Int} {yE : Y} {μ : Mv} (f : ScM w0 W L E H M Z s σ q true 0 V val yE r μ) (A : ScMA w0 L E H M) (hdw : ∀ a,Wd (q.dw a)) (hσ : σ + 200 < 1000000) {k : Nat} {x : Int} {st : Nat} (g : ARuns 4 8 4 20 (wtD k) false 0 1 true 4 σ q .see q (.over 0 x st)) :
 Calls Tryz.prog 17 #[.agg #[.int .i64 4,.int .i64 8,.int .i64 4,.int .i64 20,.int .i64 100,.int .i64 600,.int .i64 3,.pointer (some ⟨L.p,0,none⟩),.int .i64 0],.int .u64 65536,.int .i64 k] W fun e w'=>e = .returned (.agg #[.int .i64 0,.int .u64 0,.int .i64 x,.int .i64 st]) /\ ∃ s',ScM w0 w' L E H M Z s' (σ + 4) q true 0 V val yE r μ /\ Only L.has W w':=by
 refine (f.sc.read A.sa hdw hσ (by decide) g).mono ?_
 rintro e w' ⟨rfl,s',f',o'⟩
 exact ⟨rfl,s',f.only A o' f'.sp.mm f'.sp.tw (by omega) f.mi,o'⟩
def phRd (w0 : World) (L : Loc) (E H M Z : Nat) (s : Mm) (σ : Nat) (q : Q) (V : Nat) (val : Nat -> Int) (yE : Y) (r : Nat) (μ : Mv) : Nat -> World -> Prop
 | 0,W=>ScM w0 W L E H M Z s σ q true 0 V val yE r μ
 | _,W=>∃ s',ScM w0 W L E H M Z s' (σ + 4) q true 0 V val yE r μ
theorem phRd_grown {w0 : World} {L : Loc} {E H M Z : Nat} {s : Mm} {σ : Nat} {q : Q} {V : Nat} {val : Nat -> Int} {yE : Y} {r : Nat} {μ : Mv} (x y : World) (p : Nat) (g : Grown x y) (k : phRd w0 L E H M Z s σ q V val yE r μ p x) : phRd w0 L E H M Z s σ q V val yE r μ p y:=by
 match p,k with
 | 0,k=>exact ScM.grown k g
 | _ + 1,k=>exact Exists.imp (fun _ h=>ScM.grown h g) k
set_option maxHeartbeats 8000000 in
set_option maxRecDepth 20000 in
theorem moveWrites_any (a : Int) (ao : Option Addr) (N cap : Nat) (z : Nat -> Int) (po_ : Option Addr) (N2 cap2 : Nat) (p : Nat -> Int) (w : World) (hz : IntsAt .i64 w ao N z) (hpz : IntsAt .i64 w po_ N2 p) (hN2 : N2 <= 17592186044416) :
 Calls Tryz.prog 4 #[.int .i64 a,.slice ao N cap,.slice po_ N2 cap2] w fun e w'=>e = .returned (.bool true) /\ Below w.heap.size w w':=by
 obtain ⟨Z,hZ,z1,z2⟩:=size15 a
 have HZ : Hid ((1 : Int) + bits .and .i64 a 15 = (Z : Int)):=hZ
 clear hZ
 have ffS : ∀ (a1 a2 a3 a4 : Value) (w : World),(Instr.field 42 (.agg #[a1,a2,a3,a4]) 1).run Tryz.prog w = .ok a2 w:=fun a1 a2 a3 a4 w=>by kernel_rfl
 have ffD : ∀ (a1 a2 a3 a4 : Value) (w : World),(Instr.field 48 (.agg #[a1,a2,a3,a4]) 0).run Tryz.prog w = .ok a1 w:=fun a1 a2 a3 a4 w=>by kernel_rfl
 have ffE : ∀ (a1 a2 a3 a4 : Value) (w : World),(Instr.field 48 (.agg #[a1,a2,a3,a4]) 2).run Tryz.prog w = .ok a3 w:=fun a1 a2 a3 a4 w=>by kernel_rfl
 have HR : Hid (IntsAt .i64 w ao N z):=hz
 have HP : Hid (IntsAt .i64 w po_ N2 p):=hpz
 clear hz hpz
 have hmk:=run_make_row' (P:=Tryz.prog) 22 3 (.int .i64 0) 8 Tryz.underlying22 Tryz.infoW3 rfl .i64 .i64 Z (by omega) (by omega)
 go_enter Tryz.func4,Tryz.ntmps4
 go_wp2_with (first
  | (go_at_call 9;refine (begun_any a none 0 0 (fun _=>0) w (fun i hi=>absurd hi (by omega)) HZ.out z1 z2).mono ?_;rintro e w1 ⟨L,s,σ,q,rfl,hσ,m1,t1,a1,hyq,b1,l1⟩;obtain ⟨sc1,sa⟩:=sc_new (Z:=Z) m1 t1 b1 l1)
  | (go_at_call 10;refine (awake11_any _).mono ?_;rintro e w2 ⟨rfl,b2⟩;have sc2:=sc1.grown b2;obtain ⟨y0,y1,y2,y3,y4,y5,y6,y7,y8⟩:=sc2.sp.v;obtain ⟨_,hd⟩:=sc2.hd;have g0:=hd.at0 0 rfl;have g1:=hd.at0 1 rfl;have g2:=hd.at0 2 rfl;have g3:=hd.at0 3 rfl;have g4:=hd.at0 4 rfl)
  | (go_at_call 11;refine (new0 z1 z2 _).mono ?_;rintro e w3 ⟨W3,rfl,rfl,b3⟩;obtain ⟨sm,sma⟩:=scm_new (wr:=true) (sc2.grown b3) sa 2 (bgn_mi true a1 hyq);obtain ⟨_,hdx⟩:=sm.sc.hd;have gx1:=hdx.at0 1 rfl))
 obtain ⟨E,hE⟩ : ∃ E,w1.heap.size = E:=⟨_,rfl⟩
 rw [hE] at sm sma
 try rw [hE]
 obtain ⟨H,hH⟩ : ∃ H,E + 1 = H:=⟨_,rfl⟩
 rw [hH] at sm sma
 try rw [hH]
 obtain ⟨M,hM⟩ : ∃ M,W3.heap.size = M:=⟨_,rfl⟩
 rw [hM] at sm sma
 try rw [hM]
 have sm':=sm.grown (grow1 _ (.cells (madeCells #[.int .i64 0] Z) 3))
 have rw0:=row_made Z (W3.alloc (mov0 (mw Z 0).A 2 (mw Z 0).Z (mw Z 0).x (mw Z 0).G (mw Z 0).own (mw Z 0).κ))
 obtain ⟨R,hR⟩ : ∃ R,(W3.alloc (mov0 (mw Z 0).A 2 (mw Z 0).Z (mw Z 0).x (mw Z 0).G (mw Z 0).own (mw Z 0).κ)).heap.size = R:=⟨_,rfl⟩
 rw [hR] at rw0
 have hRs : M + 1 = R:=by rw [<- hR,Go.Deep.nblk_alloc,hM]
 try rw [hR]
 try rw [hRs]
 have HRA : Hid (¬ L.has R /\ E ≠ R /\ H ≠ R /\ ¬ R = M):=⟨fun hh=>by have:=sm.sc.sp.mm.lt _ hh;omega,by have:=sm.sc.sp.ltE;omega,by have:=sm.sc.ltH;omega,by omega⟩
 have HRA0 : Hid (w.heap.size <= R):=by unfold Hid;have:=sm.sc.sp.b.size;omega
 have ROW0 : Hid (RowA _ R Z (vals 0 (fun _=>0) Z)):=rw0
 have A0 : Hid (ScM w _ L E H M Z s σ q true 0 0 (vals 0 (fun _=>0) Z) (yE (mw Z 0).κ) 9 (.see .see 0)):=sm'
 have SA : Hid (ScMA w L E H M):=sma
 clear sc1 sc2 m1 t1 b1 l1 b2 hd hE hH hdx gx1 hR hRs rw0 sm' sm sma sa a1 hyq b3 hM hmk g0 g1 g2 g3 g4 y0 y1 y2 y3 y4 y5 y6 y7 y8
 go_loopw [13,14,15,17] (fun mv tv av iv wr=>∃ (r at_ : Nat) (s' : Mm) (σ' : Nat) (q' : Q) (μ : Mv) (rr V : Nat) (val : Nat -> Int),mv = .bool μ.over? /\ tv = .int .i64 at_ /\ iv = .int .i64 r /\ r <= 900 /\ at_ <= r /\ σ' <= 1000 + r /\ rr <= 9 /\ ScM w wr L E H M Z s' σ' q' true 0 V val (yE (mw Z 0).κ) rr μ /\ WrI R w wr L E H M Z V N z q' at_ av /\ RowA wr R Z val) (fun _ _ _ i _=>900 - (intOf i).toNat)
 case atStart=>exact ⟨0,0,s,σ,q,.see .see 0,9,0,(vals 0 (fun _=>0) Z),rfl,rfl,rfl,by omega,by omega,by omega,by omega,A0.out,Or.inl rfl,ROW0.out⟩
 case round =>
  clear A0 ROW0
  obtain ⟨r,at_,s1,σ1,q1,μ,rr,V,val,rfl,rfl,rfl,hr9,hat,hσ1,hrr9,f,rd,row⟩:=hrel
  obtain ⟨y0,y1,y2,y3,y4,y5,y6,y7,y8⟩:=f.sc.sp.v
  obtain ⟨_,hd⟩:=f.sc.hd
  have hd1:=hd.at0 1 rfl
  have hZ0 : ((Z : Int) == 0) = false:=by simp;omega
  have hZn : ¬ (Z : Int) = 0:=by omega
  have htm:=tmod_nat at_ Z
  have hb2:=bit2 r
  have hwr : IntKind.i64.wrap ((N2 : Int) + 400) = (N2 : Int) + 400:=by rw [IntKind.wrap_i64];omega
  by_cases hr1 : r < N2 + 400
  · have hr1' : (r : Int) < (N2 : Int) + 400:=by omega
    by_cases hr2 : r < 900
    · have hr2' : (r : Int) < 900:=by omega
      by_cases hrN : r < N2
      · have hrN' : (r : Int) < (N2 : Int):=by omega
        by_cases hr4 : r < 500
        · have hr4' : (r : Int) < 500:=by omega
          obtain ⟨pb,po,rfl,hpk⟩:=HP.out r hrN
          have hpc:=keep' f.sc.sp.b hpk
          have hrb : (0 : Int) <= (r : Int):=by omega
          obtain ⟨K,hK,hK01⟩:=bit1 (p r)
          rcases hK01 with rfl | rfl
          · cases hmo : μ.over? with
            | true =>
             as_aux_lemma =>
              go_wp2
              go_roundw
              case rel=>exact ⟨r + 1,at_,s1,σ1,q1,μ,rr,V,val,by rw [hmo],by go_num,by go_num,by omega,by omega,by omega,by omega,f,rd,row⟩
              case measure=>simp [intOf];omega
            | false =>
             as_aux_lemma =>
              obtain ⟨q2,μ2,r2,ht,hp,mi,hrr,k⟩:=f.step SA.out (by omega) hmo
              have k:=k _ rfl
              go_wp2_with (go_at_call 12;refine k.mono ?_;rintro e w2 ⟨rfl,s2,f2,o2,-⟩)
              go_roundw
              case rel=>exact ⟨r + 1,at_,s2,(σ1 + 1),q2,μ2,r2,V,val,rfl,by go_num,by go_num,by omega,by omega,by omega,by omega,f2,rd.mv o2 f.mi ht,row.only o2 (fun hh=>hh.elim HRA.out.1 (fun e=>HRA.out.2.2.2 e))⟩
              case measure=>simp [intOf];omega
          · rcases rd with e | ⟨X,α,e,AX,az,ho3,I,hatN,hat60,hRX⟩
            · subst e
              by_cases hatN : at_ < N
              · have hatN' : ¬ (at_ : Int) ≥ (N : Int):=by omega
                have hatN2 : ¬ (N : Int) <= (at_ : Int):=by omega
                by_cases hat60 : at_ < 60
                · have hat60' : ¬ (at_ : Int) ≥ 60:=by omega
                  have hat602 : ¬ (60 : Int) <= (at_ : Int):=by omega
                  as_aux_lemma =>
                   obtain ⟨zb,zo,rfl,hk⟩:=HR.out at_ hatN
                   have HKZ : Hid (w.cell? ⟨zb,zo + at_,none⟩ = some (.int .i64 (z at_))):=hk
                   clear hk
                   have hix : at_ % Z < Z:=Nat.mod_lt _ (by omega)
                   have hx:=low16 (z at_)
                   obtain ⟨⟨q3,α3⟩,ht3⟩ : ∃ x,acTurn (wtL ((at_ % Z : Nat) : Int) (bits .and .i64 (z at_) 65535)) false 0 1 σ1 q1 .see = x:=⟨_,rfl⟩
                   obtain ⟨gd,alt⟩:=wi_step (ix:=at_ % Z) f.mi hix ⟨hx.1,by omega⟩ (show WI Z 0 V q1 .see from trivial) rfl ht3
                   have hs3 : q3 = q1 /\ α3.over? = false /\ ∃ V',MI true Z 0 V' val (yE (mw Z 0).κ) rr q3 μ /\ WI Z 0 V' q3 α3:=by
                    rcases alt with ⟨h1,h2⟩ | ⟨st,e,-⟩
                    · exact ⟨(Prod.mk.inj ht3).1.symm,h1,h2⟩
                    · have e2 : α3 = (if lifeB (q1.sw 0 % 8) && decide (genOf (q1.sw 0) = 1) then Ac.ask (q1.sw 0) (σ1 + 1) else .over 3 0 (σ1 + 1)):=(Prod.mk.inj ht3).2.symm
                      rw [e] at e2
                      split at e2
                      · cases e2
                      · injection e2 with e3;omega
                   obtain ⟨hq3,hov3,V3,mi3,I3⟩:=hs3
                   clear alt hq3
                   have na:=fun W=>newL (at_ % Z) (bits .and .i64 (z at_) 65535) W
                   go_wp2
                   refine wp_over (fun W=>ScM w W L E H M Z s1 σ1 q1 true 0 V val (yE (mw Z 0).κ) rr μ /\ RowA W R Z val) ⟨f,row⟩ ?_
                   clear f row hd hd1 y0 y1 y2 y3 y4 y5 y6 y7 y8
                   rintro W ⟨f1,row1⟩
                   obtain ⟨_,h1⟩:=f1.sc.hd
                   refine wp_region_rely_tail Grown 11 [.val (.int .u64 65536),.val (.int .i64 at_),.val (.pointer (some ⟨H,1,none⟩)),.val (.int .i64 Z),.val (.int .i64 ((at_ % Z : Nat) : Int)),.val (.slice (some ⟨zb,zo,none⟩) N cap),.val (.int .i64 at_),.val (.pointer (some ⟨zb,zo + at_,none⟩)),.val (.int .i64 (z at_)),.val (.int .i64 (bits .and .i64 (z at_) 65535)),.val (.agg #[.int .i64 2,.int .u64 65536,.int .i64 ((at_ % Z : Nat) : Int),.int .i64 (bits .and .i64 (z at_) 65535),.int .i64 0])] (by kernel_rfl) Grown.refl Grown.trans (by decide) (by kernel_rfl) (by kernel_rfl) (by kernel_rfl) (by kernel_rfl) (by kernel_rfl) (by kernel_rfl) ?_
                   simp only [List.take_succ_cons,List.take_zero,relyAll,Act.put,List.setIfInBounds_toArray,List.set_cons_zero,List.set_cons_succ]
                   refine ⟨?_,?_,?_,?_,?_,?_,?_,?_,?_,?_,?_,?_⟩
                   · intros;apply ol;go_simp;exact gl
                   · intros;apply ol;go_simp;exact gl
                   · intros;apply ol;go_simp;exact gl
                   · intro w' hg _
                     apply ol
                     have z0:=(h1.drew.grown hg).at0 1 rfl
                     go_simp
                     exact gl
                   · intro w' hg _
                     apply ol
                     have hz0 : ¬ Z = 0:=by omega
                     go_simp
                     exact gl
                   · intros;apply ol;go_simp;exact gl
                   · intros;apply ol;go_simp;exact gl
                   · intro w' hg _
                     apply ol
                     have hb1 : (0 : Int) <= (at_ : Int):=by omega
                     have hb2' : (at_ : Int) < (N : Int):=by omega
                     go_simp
                     exact gl
                   · intro w' hg _
                     apply ol
                     have zc:=keep' ((f1.grown ((Below.refl _ _).drew)).grown hg).sc.sp.b HKZ.out
                     go_simp
                     exact gl
                   · intros;apply ol;go_simp;exact gl
                   · intros;apply ol;go_simp;exact gl
                   intro w5 hg _
                   have f5:=(f1.grown ((Below.refl _ _).drew)).grown hg
                   have row5:=(row1.grown ((Below.refl _ _).drew)).grown hg
                   clear f1 row1 h1 hg
                   go_wp2_with (first
                    | (go_at_call 24;refine (na _).mono ?_;rintro e w6 ⟨X,rfl,hX,az,b6⟩;have AX:=f5.apart hX;have hRX : R ≠ X:=(by have:=row5.lt;omega);have fz:=f5.grown b6;obtain ⟨x0,x1,x2,x3,x4,x5,x6,x7,x8⟩:=fz.sc.sp.v)
                    | (go_at_call 25;refine (fz.acc SA.out az AX (by omega) (wtL_ok _ _) rfl rfl gd ht3 mi3 false hov3).mono ?_;rintro e w7 ⟨rfl,s7,f7,a7,o7⟩))
                   go_roundw
                   case rel=>exact ⟨r + 1,at_,s7,(σ1 + 1),q3,μ,rr,V3,val,rfl,by go_num,by go_num,by omega,by omega,by omega,by omega,f7,Or.inr ⟨X,α3,rfl,AX,a7,hov3,I3,hatN,hat60,hRX⟩,(row5.grown b6).only o7 (fun hh=>hh.elim HRA.out.1 hRX)⟩
                   case measure=>simp [intOf];omega
                · have hat60' : (60 : Int) <= (at_ : Int):=by omega
                  as_aux_lemma =>
                   go_wp2
                   go_roundw
                   case rel=>exact ⟨r + 1,at_,s1,σ1,q1,μ,rr,V,val,rfl,by go_num,by go_num,by omega,by omega,by omega,by omega,f,Or.inl rfl,row⟩
                   case measure=>simp [intOf];omega
              · have hatN' : (N : Int) <= (at_ : Int):=by omega
                as_aux_lemma =>
                 go_wp2
                 go_roundw
                 case rel=>exact ⟨r + 1,at_,s1,σ1,q1,μ,rr,V,val,rfl,by go_num,by go_num,by omega,by omega,by omega,by omega,f,Or.inl rfl,row⟩
                 case measure=>simp [intOf];omega
            · subst e
              as_aux_lemma =>
               have hix : at_ % Z < Z:=Nat.mod_lt _ (by omega)
               have hx:=low16 (z at_)
               obtain ⟨⟨q3,α3⟩,ht3⟩ : ∃ x,acTurn (wtL ((at_ % Z : Nat) : Int) (bits .and .i64 (z at_) 65535)) false 0 1 σ1 q1 α = x:=⟨_,rfl⟩
               obtain ⟨gd,alt⟩:=wi_step (ix:=at_ % Z) f.mi hix ⟨hx.1,by omega⟩ I ho3 ht3
               rcases alt with ⟨hov3,V3,mi3,I3⟩ | ⟨st,rfl,mi3⟩
               · go_wp2_with (go_at_call 25;refine (f.acc SA.out az AX (by omega) (wtL_ok _ _) rfl ho3 gd ht3 mi3 false hov3).mono ?_;rintro e w7 ⟨rfl,s7,f7,a7,o7⟩)
                 go_roundw
                 case rel=>exact ⟨r + 1,at_,s7,(σ1 + 1),q3,μ,rr,V3,val,rfl,by go_num,by go_num,by omega,by omega,by omega,by omega,f7,Or.inr ⟨X,α3,rfl,AX,a7,hov3,I3,hatN,hat60,hRX⟩,row.only o7 (fun hh=>hh.elim HRA.out.1 hRX)⟩
                 case measure=>simp [intOf];omega
               · obtain ⟨zb,zo,rfl,hk⟩:=HR.out at_ hatN
                 have HKZ : Hid (w.cell? ⟨zb,zo + at_,none⟩ = some (.int .i64 (z at_))):=hk
                 clear hk
                 go_wp2_with (go_at_call 25;refine (f.acc SA.out az AX (by omega) (wtL_ok _ _) rfl ho3 gd ht3 mi3 true rfl).mono ?_;rintro e w7 ⟨rfl,s7,f7,a7,o7⟩)
                 have row7:=row.only o7 (fun hh=>hh.elim HRA.out.1 hRX)
                 refine wp_over (fun W=>ScM w W L E H M Z s7 (σ1 + 1) q3 true 0 V (upd val (at_ % Z) (bits .and .i64 (z at_) 65535)) (yE (mw Z 0).κ) rr μ /\ RowA W R Z val /\ AcO W X (wtL ((at_ % Z : Nat) : Int) (bits .and .i64 (z at_) 65535)) (.over 0 (val (at_ % Z)) st)) ⟨f7,row7,a7⟩ ?_
                 clear f row f7 row7 a7 o7 az hd hd1 gd ht3 mi3 I y0 y1 y2 y3 y4 y5 y6 y7 y8
                 rintro W ⟨f1,row1,a1⟩
                 obtain ⟨_,h1⟩:=f1.sc.hd
                 refine wp_region_rely Grown [.val (.pointer (some ⟨X,0,none⟩)),.val (.agg #[.int .i64 0,.int .u64 0,.int .i64 (val (at_ % Z)),.int .i64 st]),.val (.int .i64 0),.val (.bool false),.val (.bool false),.val (.pointer (some ⟨X,0,none⟩)),.val (.agg #[.int .i64 0,.int .u64 0,.int .i64 (val (at_ % Z)),.int .i64 st]),.val (.int .i64 (val (at_ % Z))),.val (.slice (some ⟨R,0,none⟩) Z Z),.val (.int .i64 at_),.val (.pointer (some ⟨H,1,none⟩)),.val (.int .i64 Z),.val (.int .i64 ((at_ % Z : Nat) : Int)),.val (.pointer (some ⟨R,at_ % Z,none⟩)),.val (.int .i64 (val (at_ % Z))),.val (.bool false),.val (.bool false)] (by kernel_rfl) Grown.refl Grown.trans (by kernel_rfl) (by kernel_rfl) (by kernel_rfl) ?_
                 simp only [relyAll,Act.put,List.setIfInBounds_toArray,List.set_cons_zero,List.set_cons_succ]
                 refine ⟨?_,?_,?_,?_,?_,?_,?_,?_,?_,?_,?_,?_,?_,?_,?_,?_,?_,?_⟩
                 · intros;apply ol;go_simp;exact gl
                 · intro w' hg _
                   apply ol
                   go_simp
                   refine (((a1.grown ((Below.refl _ _).drew)).grown hg).done).mono ?_
                   rintro e w'' ⟨rfl,b9⟩
                   exact ⟨_,rfl,b9,rfl⟩
                 · intros;apply ol;go_simp;exact gl
                 · intros;apply ol;go_simp;exact gl
                 · intros;apply ol;go_simp;exact gl
                 · intros;apply ol;go_simp;exact gl
                 · intro w' hg _
                   apply ol
                   go_simp
                   refine (((a1.grown ((Below.refl _ _).drew)).grown hg).done).mono ?_
                   rintro e w'' ⟨rfl,b9⟩
                   exact ⟨_,rfl,b9,rfl⟩
                 · intros;apply ol;go_simp;exact gl
                 · intros;apply ol;go_simp;exact gl
                 · intros;apply ol;go_simp;exact gl
                 · intros;apply ol;go_simp;exact gl
                 · intro w' hg _
                   apply ol
                   have z0:=(h1.drew.grown hg).at0 1 rfl
                   go_simp
                   exact gl
                 · intro w' hg _
                   apply ol
                   have hz0 : ¬ Z = 0:=by omega
                   go_simp
                   exact gl
                 · intro w' hg _
                   apply ol
                   have hb1 : (0 : Int) <= (at_ : Int) % (Z : Int):=Int.emod_nonneg _ (by omega)
                   have hb2' : (at_ : Int) % (Z : Int) < (Z : Int):=Int.emod_lt_of_pos _ (by omega)
                   have hbn : ((at_ : Int) % (Z : Int)).toNat = at_ % Z:=rfl
                   go_simp
                   exact gl
                 · intro w' hg _
                   apply ol
                   have zc:=((row1.grown ((Below.refl _ _).drew)).grown hg).cell hix
                   go_simp
                   exact gl
                 · intros;apply ol;go_simp;exact gl
                 · intros;apply ol;go_simp;exact gl
                 intro w8 hg _
                 have f8:=(f1.grown ((Below.refl _ _).drew)).grown hg
                 have row8:=(row1.grown ((Below.refl _ _).drew)).grown hg
                 clear f1 row1 h1 hg a1
                 go_wp2
                 refine wp_over (fun W=>ScM w W L E H M Z s7 (σ1 + 1) q3 true 0 V (upd val (at_ % Z) (bits .and .i64 (z at_) 65535)) (yE (mw Z 0).κ) rr μ /\ RowA W R Z val) ⟨f8,row8⟩ ?_
                 clear f8 row8
                 rintro W ⟨f1,row1⟩
                 obtain ⟨_,h1⟩:=f1.sc.hd
                 refine wp_region_rely_tail Grown 11 [.val (.slice (some ⟨R,0,none⟩) Z Z),.val (.int .i64 at_),.val (.pointer (some ⟨H,1,none⟩)),.val (.int .i64 Z),.val (.int .i64 ((at_ % Z : Nat) : Int)),.val (.slice (some ⟨zb,zo,none⟩) N cap),.val (.int .i64 at_),.val (.pointer (some ⟨zb,zo + at_,none⟩)),.val (.int .i64 (z at_)),.val (.int .i64 (bits .and .i64 (z at_) 65535)),.val (.pointer (some ⟨R,at_ % Z,none⟩))] (by kernel_rfl) Grown.refl Grown.trans (by decide) (by kernel_rfl) (by kernel_rfl) (by kernel_rfl) (by kernel_rfl) (by kernel_rfl) (by kernel_rfl) ?_
                 simp only [List.take_succ_cons,List.take_zero,relyAll,Act.put,List.setIfInBounds_toArray,List.set_cons_zero,List.set_cons_succ]
                 refine ⟨?_,?_,?_,?_,?_,?_,?_,?_,?_,?_,?_,?_⟩
                 · intros;apply ol;go_simp;exact gl
                 · intros;apply ol;go_simp;exact gl
                 · intros;apply ol;go_simp;exact gl
                 · intro w' hg _
                   apply ol
                   have z0:=(h1.drew.grown hg).at0 1 rfl
                   go_simp
                   exact gl
                 · intro w' hg _
                   apply ol
                   have hz0 : ¬ Z = 0:=by omega
                   go_simp
                   exact gl
                 · intros;apply ol;go_simp;exact gl
                 · intros;apply ol;go_simp;exact gl
                 · intro w' hg _
                   apply ol
                   have hb1 : (0 : Int) <= (at_ : Int):=by omega
                   have hb2' : (at_ : Int) < (N : Int):=by omega
                   go_simp
                   exact gl
                 · intro w' hg _
                   apply ol
                   have zc:=keep' ((f1.grown ((Below.refl _ _).drew)).grown hg).sc.sp.b HKZ.out
                   go_simp
                   exact gl
                 · intros;apply ol;go_simp;exact gl
                 · intro w' hg _
                   apply ol
                   have hb1 : (0 : Int) <= (at_ : Int) % (Z : Int):=Int.emod_nonneg _ (by omega)
                   have hb2' : (at_ : Int) % (Z : Int) < (Z : Int):=Int.emod_lt_of_pos _ (by omega)
                   have hbn : ((at_ : Int) % (Z : Int)).toNat = at_ % Z:=rfl
                   go_simp
                   exact gl
                 intro w9 hg _
                 have f9:=(f1.grown ((Below.refl _ _).drew)).grown hg
                 have row9:=(row1.grown ((Below.refl _ _).drew)).grown hg
                 have rc:=row9.cell hix
                 have rf:=row9.fz
                 clear f1 row1 h1 hg
                 go_wp2
                 go_roundw
                 case rel=>exact ⟨r + 1,(at_ + 1),s7,(σ1 + 1),q3,μ,rr,V,_,rfl,by go_num,by go_num,by omega,by omega,by omega,by omega,f9.setIn HRA0.out HRA.out.2.1 HRA.out.2.2.1 (fun e=>HRA.out.2.2.2 e.symm) HRA.out.1 _ _,Or.inl rfl,row9.set hix _⟩
                 case measure=>simp [intOf];omega
        · have hr4' : ¬ (r : Int) < 500:=by omega
          obtain ⟨K,hK,hK01⟩ : ∃ K : Nat,r % 2 = K /\ (K = 0 \/ K = 1):=⟨_,rfl,by omega⟩
          rw [hK] at hb2
          rcases hK01 with rfl | rfl
          · cases hmo : μ.over? with
            | true =>
             as_aux_lemma =>
              go_wp2
              go_roundw
              case rel=>exact ⟨r + 1,at_,s1,σ1,q1,μ,rr,V,val,by rw [hmo],by go_num,by go_num,by omega,by omega,by omega,by omega,f,rd,row⟩
              case measure=>simp [intOf];omega
            | false =>
             as_aux_lemma =>
              obtain ⟨q2,μ2,r2,ht,hp,mi,hrr,k⟩:=f.step SA.out (by omega) hmo
              have k:=k _ rfl
              go_wp2_with (go_at_call 12;refine k.mono ?_;rintro e w2 ⟨rfl,s2,f2,o2,-⟩)
              go_roundw
              case rel=>exact ⟨r + 1,at_,s2,(σ1 + 1),q2,μ2,r2,V,val,rfl,by go_num,by go_num,by omega,by omega,by omega,by omega,f2,rd.mv o2 f.mi ht,row.only o2 (fun hh=>hh.elim HRA.out.1 (fun e=>HRA.out.2.2.2 e))⟩
              case measure=>simp [intOf];omega
          · rcases rd with e | ⟨X,α,e,AX,az,ho3,I,hatN,hat60,hRX⟩
            · subst e
              by_cases hatN : at_ < N
              · have hatN' : ¬ (at_ : Int) ≥ (N : Int):=by omega
                have hatN2 : ¬ (N : Int) <= (at_ : Int):=by omega
                by_cases hat60 : at_ < 60
                · have hat60' : ¬ (at_ : Int) ≥ 60:=by omega
                  have hat602 : ¬ (60 : Int) <= (at_ : Int):=by omega
                  as_aux_lemma =>
                   obtain ⟨zb,zo,rfl,hk⟩:=HR.out at_ hatN
                   have HKZ : Hid (w.cell? ⟨zb,zo + at_,none⟩ = some (.int .i64 (z at_))):=hk
                   clear hk
                   have hix : at_ % Z < Z:=Nat.mod_lt _ (by omega)
                   have hx:=low16 (z at_)
                   obtain ⟨⟨q3,α3⟩,ht3⟩ : ∃ x,acTurn (wtL ((at_ % Z : Nat) : Int) (bits .and .i64 (z at_) 65535)) false 0 1 σ1 q1 .see = x:=⟨_,rfl⟩
                   obtain ⟨gd,alt⟩:=wi_step (ix:=at_ % Z) f.mi hix ⟨hx.1,by omega⟩ (show WI Z 0 V q1 .see from trivial) rfl ht3
                   have hs3 : q3 = q1 /\ α3.over? = false /\ ∃ V',MI true Z 0 V' val (yE (mw Z 0).κ) rr q3 μ /\ WI Z 0 V' q3 α3:=by
                    rcases alt with ⟨h1,h2⟩ | ⟨st,e,-⟩
                    · exact ⟨(Prod.mk.inj ht3).1.symm,h1,h2⟩
                    · have e2 : α3 = (if lifeB (q1.sw 0 % 8) && decide (genOf (q1.sw 0) = 1) then Ac.ask (q1.sw 0) (σ1 + 1) else .over 3 0 (σ1 + 1)):=(Prod.mk.inj ht3).2.symm
                      rw [e] at e2
                      split at e2
                      · cases e2
                      · injection e2 with e3;omega
                   obtain ⟨hq3,hov3,V3,mi3,I3⟩:=hs3
                   clear alt hq3
                   have na:=fun W=>newL (at_ % Z) (bits .and .i64 (z at_) 65535) W
                   go_wp2
                   refine wp_over (fun W=>ScM w W L E H M Z s1 σ1 q1 true 0 V val (yE (mw Z 0).κ) rr μ /\ RowA W R Z val) ⟨f,row⟩ ?_
                   clear f row hd hd1 y0 y1 y2 y3 y4 y5 y6 y7 y8
                   rintro W ⟨f1,row1⟩
                   obtain ⟨_,h1⟩:=f1.sc.hd
                   refine wp_region_rely_tail Grown 11 [.val (.int .u64 65536),.val (.int .i64 at_),.val (.pointer (some ⟨H,1,none⟩)),.val (.int .i64 Z),.val (.int .i64 ((at_ % Z : Nat) : Int)),.val (.slice (some ⟨zb,zo,none⟩) N cap),.val (.int .i64 at_),.val (.pointer (some ⟨zb,zo + at_,none⟩)),.val (.int .i64 (z at_)),.val (.int .i64 (bits .and .i64 (z at_) 65535)),.val (.agg #[.int .i64 2,.int .u64 65536,.int .i64 ((at_ % Z : Nat) : Int),.int .i64 (bits .and .i64 (z at_) 65535),.int .i64 0])] (by kernel_rfl) Grown.refl Grown.trans (by decide) (by kernel_rfl) (by kernel_rfl) (by kernel_rfl) (by kernel_rfl) (by kernel_rfl) (by kernel_rfl) ?_
                   simp only [List.take_succ_cons,List.take_zero,relyAll,Act.put,List.setIfInBounds_toArray,List.set_cons_zero,List.set_cons_succ]
                   refine ⟨?_,?_,?_,?_,?_,?_,?_,?_,?_,?_,?_,?_⟩
                   · intros;apply ol;go_simp;exact gl
                   · intros;apply ol;go_simp;exact gl
                   · intros;apply ol;go_simp;exact gl
                   · intro w' hg _
                     apply ol
                     have z0:=(h1.drew.grown hg).at0 1 rfl
                     go_simp
                     exact gl
                   · intro w' hg _
                     apply ol
                     have hz0 : ¬ Z = 0:=by omega
                     go_simp
                     exact gl
                   · intros;apply ol;go_simp;exact gl
                   · intros;apply ol;go_simp;exact gl
                   · intro w' hg _
                     apply ol
                     have hb1 : (0 : Int) <= (at_ : Int):=by omega
                     have hb2' : (at_ : Int) < (N : Int):=by omega
                     go_simp
                     exact gl
                   · intro w' hg _
                     apply ol
                     have zc:=keep' ((f1.grown ((Below.refl _ _).drew)).grown hg).sc.sp.b HKZ.out
                     go_simp
                     exact gl
                   · intros;apply ol;go_simp;exact gl
                   · intros;apply ol;go_simp;exact gl
                   intro w5 hg _
                   have f5:=(f1.grown ((Below.refl _ _).drew)).grown hg
                   have row5:=(row1.grown ((Below.refl _ _).drew)).grown hg
                   clear f1 row1 h1 hg
                   go_wp2_with (first
                    | (go_at_call 24;refine (na _).mono ?_;rintro e w6 ⟨X,rfl,hX,az,b6⟩;have AX:=f5.apart hX;have hRX : R ≠ X:=(by have:=row5.lt;omega);have fz:=f5.grown b6;obtain ⟨x0,x1,x2,x3,x4,x5,x6,x7,x8⟩:=fz.sc.sp.v)
                    | (go_at_call 25;refine (fz.acc SA.out az AX (by omega) (wtL_ok _ _) rfl rfl gd ht3 mi3 false hov3).mono ?_;rintro e w7 ⟨rfl,s7,f7,a7,o7⟩))
                   go_roundw
                   case rel=>exact ⟨r + 1,at_,s7,(σ1 + 1),q3,μ,rr,V3,val,rfl,by go_num,by go_num,by omega,by omega,by omega,by omega,f7,Or.inr ⟨X,α3,rfl,AX,a7,hov3,I3,hatN,hat60,hRX⟩,(row5.grown b6).only o7 (fun hh=>hh.elim HRA.out.1 hRX)⟩
                   case measure=>simp [intOf];omega
                · have hat60' : (60 : Int) <= (at_ : Int):=by omega
                  as_aux_lemma =>
                   go_wp2
                   go_roundw
                   case rel=>exact ⟨r + 1,at_,s1,σ1,q1,μ,rr,V,val,rfl,by go_num,by go_num,by omega,by omega,by omega,by omega,f,Or.inl rfl,row⟩
                   case measure=>simp [intOf];omega
              · have hatN' : (N : Int) <= (at_ : Int):=by omega
                as_aux_lemma =>
                 go_wp2
                 go_roundw
                 case rel=>exact ⟨r + 1,at_,s1,σ1,q1,μ,rr,V,val,rfl,by go_num,by go_num,by omega,by omega,by omega,by omega,f,Or.inl rfl,row⟩
                 case measure=>simp [intOf];omega
            · subst e
              as_aux_lemma =>
               have hix : at_ % Z < Z:=Nat.mod_lt _ (by omega)
               have hx:=low16 (z at_)
               obtain ⟨⟨q3,α3⟩,ht3⟩ : ∃ x,acTurn (wtL ((at_ % Z : Nat) : Int) (bits .and .i64 (z at_) 65535)) false 0 1 σ1 q1 α = x:=⟨_,rfl⟩
               obtain ⟨gd,alt⟩:=wi_step (ix:=at_ % Z) f.mi hix ⟨hx.1,by omega⟩ I ho3 ht3
               rcases alt with ⟨hov3,V3,mi3,I3⟩ | ⟨st,rfl,mi3⟩
               · go_wp2_with (go_at_call 25;refine (f.acc SA.out az AX (by omega) (wtL_ok _ _) rfl ho3 gd ht3 mi3 false hov3).mono ?_;rintro e w7 ⟨rfl,s7,f7,a7,o7⟩)
                 go_roundw
                 case rel=>exact ⟨r + 1,at_,s7,(σ1 + 1),q3,μ,rr,V3,val,rfl,by go_num,by go_num,by omega,by omega,by omega,by omega,f7,Or.inr ⟨X,α3,rfl,AX,a7,hov3,I3,hatN,hat60,hRX⟩,row.only o7 (fun hh=>hh.elim HRA.out.1 hRX)⟩
                 case measure=>simp [intOf];omega
               · obtain ⟨zb,zo,rfl,hk⟩:=HR.out at_ hatN
                 have HKZ : Hid (w.cell? ⟨zb,zo + at_,none⟩ = some (.int .i64 (z at_))):=hk
                 clear hk
                 go_wp2_with (go_at_call 25;refine (f.acc SA.out az AX (by omega) (wtL_ok _ _) rfl ho3 gd ht3 mi3 true rfl).mono ?_;rintro e w7 ⟨rfl,s7,f7,a7,o7⟩)
                 have row7:=row.only o7 (fun hh=>hh.elim HRA.out.1 hRX)
                 refine wp_over (fun W=>ScM w W L E H M Z s7 (σ1 + 1) q3 true 0 V (upd val (at_ % Z) (bits .and .i64 (z at_) 65535)) (yE (mw Z 0).κ) rr μ /\ RowA W R Z val /\ AcO W X (wtL ((at_ % Z : Nat) : Int) (bits .and .i64 (z at_) 65535)) (.over 0 (val (at_ % Z)) st)) ⟨f7,row7,a7⟩ ?_
                 clear f row f7 row7 a7 o7 az hd hd1 gd ht3 mi3 I y0 y1 y2 y3 y4 y5 y6 y7 y8
                 rintro W ⟨f1,row1,a1⟩
                 obtain ⟨_,h1⟩:=f1.sc.hd
                 refine wp_region_rely Grown [.val (.pointer (some ⟨X,0,none⟩)),.val (.agg #[.int .i64 0,.int .u64 0,.int .i64 (val (at_ % Z)),.int .i64 st]),.val (.int .i64 0),.val (.bool false),.val (.bool false),.val (.pointer (some ⟨X,0,none⟩)),.val (.agg #[.int .i64 0,.int .u64 0,.int .i64 (val (at_ % Z)),.int .i64 st]),.val (.int .i64 (val (at_ % Z))),.val (.slice (some ⟨R,0,none⟩) Z Z),.val (.int .i64 at_),.val (.pointer (some ⟨H,1,none⟩)),.val (.int .i64 Z),.val (.int .i64 ((at_ % Z : Nat) : Int)),.val (.pointer (some ⟨R,at_ % Z,none⟩)),.val (.int .i64 (val (at_ % Z))),.val (.bool false),.val (.bool false)] (by kernel_rfl) Grown.refl Grown.trans (by kernel_rfl) (by kernel_rfl) (by kernel_rfl) ?_
                 simp only [relyAll,Act.put,List.setIfInBounds_toArray,List.set_cons_zero,List.set_cons_succ]
                 refine ⟨?_,?_,?_,?_,?_,?_,?_,?_,?_,?_,?_,?_,?_,?_,?_,?_,?_,?_⟩
                 · intros;apply ol;go_simp;exact gl
                 · intro w' hg _
                   apply ol
                   go_simp
                   refine (((a1.grown ((Below.refl _ _).drew)).grown hg).done).mono ?_
                   rintro e w'' ⟨rfl,b9⟩
                   exact ⟨_,rfl,b9,rfl⟩
                 · intros;apply ol;go_simp;exact gl
                 · intros;apply ol;go_simp;exact gl
                 · intros;apply ol;go_simp;exact gl
                 · intros;apply ol;go_simp;exact gl
                 · intro w' hg _
                   apply ol
                   go_simp
                   refine (((a1.grown ((Below.refl _ _).drew)).grown hg).done).mono ?_
                   rintro e w'' ⟨rfl,b9⟩
                   exact ⟨_,rfl,b9,rfl⟩
                 · intros;apply ol;go_simp;exact gl
                 · intros;apply ol;go_simp;exact gl
                 · intros;apply ol;go_simp;exact gl
                 · intros;apply ol;go_simp;exact gl
                 · intro w' hg _
                   apply ol
                   have z0:=(h1.drew.grown hg).at0 1 rfl
                   go_simp
                   exact gl
                 · intro w' hg _
                   apply ol
                   have hz0 : ¬ Z = 0:=by omega
                   go_simp
                   exact gl
                 · intro w' hg _
                   apply ol
                   have hb1 : (0 : Int) <= (at_ : Int) % (Z : Int):=Int.emod_nonneg _ (by omega)
                   have hb2' : (at_ : Int) % (Z : Int) < (Z : Int):=Int.emod_lt_of_pos _ (by omega)
                   have hbn : ((at_ : Int) % (Z : Int)).toNat = at_ % Z:=rfl
                   go_simp
                   exact gl
                 · intro w' hg _
                   apply ol
                   have zc:=((row1.grown ((Below.refl _ _).drew)).grown hg).cell hix
                   go_simp
                   exact gl
                 · intros;apply ol;go_simp;exact gl
                 · intros;apply ol;go_simp;exact gl
                 intro w8 hg _
                 have f8:=(f1.grown ((Below.refl _ _).drew)).grown hg
                 have row8:=(row1.grown ((Below.refl _ _).drew)).grown hg
                 clear f1 row1 h1 hg a1
                 go_wp2
                 refine wp_over (fun W=>ScM w W L E H M Z s7 (σ1 + 1) q3 true 0 V (upd val (at_ % Z) (bits .and .i64 (z at_) 65535)) (yE (mw Z 0).κ) rr μ /\ RowA W R Z val) ⟨f8,row8⟩ ?_
                 clear f8 row8
                 rintro W ⟨f1,row1⟩
                 obtain ⟨_,h1⟩:=f1.sc.hd
                 refine wp_region_rely_tail Grown 11 [.val (.slice (some ⟨R,0,none⟩) Z Z),.val (.int .i64 at_),.val (.pointer (some ⟨H,1,none⟩)),.val (.int .i64 Z),.val (.int .i64 ((at_ % Z : Nat) : Int)),.val (.slice (some ⟨zb,zo,none⟩) N cap),.val (.int .i64 at_),.val (.pointer (some ⟨zb,zo + at_,none⟩)),.val (.int .i64 (z at_)),.val (.int .i64 (bits .and .i64 (z at_) 65535)),.val (.pointer (some ⟨R,at_ % Z,none⟩))] (by kernel_rfl) Grown.refl Grown.trans (by decide) (by kernel_rfl) (by kernel_rfl) (by kernel_rfl) (by kernel_rfl) (by kernel_rfl) (by kernel_rfl) ?_
                 simp only [List.take_succ_cons,List.take_zero,relyAll,Act.put,List.setIfInBounds_toArray,List.set_cons_zero,List.set_cons_succ]
                 refine ⟨?_,?_,?_,?_,?_,?_,?_,?_,?_,?_,?_,?_⟩
                 · intros;apply ol;go_simp;exact gl
                 · intros;apply ol;go_simp;exact gl
                 · intros;apply ol;go_simp;exact gl
                 · intro w' hg _
                   apply ol
                   have z0:=(h1.drew.grown hg).at0 1 rfl
                   go_simp
                   exact gl
                 · intro w' hg _
                   apply ol
                   have hz0 : ¬ Z = 0:=by omega
                   go_simp
                   exact gl
                 · intros;apply ol;go_simp;exact gl
                 · intros;apply ol;go_simp;exact gl
                 · intro w' hg _
                   apply ol
                   have hb1 : (0 : Int) <= (at_ : Int):=by omega
                   have hb2' : (at_ : Int) < (N : Int):=by omega
                   go_simp
                   exact gl
                 · intro w' hg _
                   apply ol
                   have zc:=keep' ((f1.grown ((Below.refl _ _).drew)).grown hg).sc.sp.b HKZ.out
                   go_simp
                   exact gl
                 · intros;apply ol;go_simp;exact gl
                 · intro w' hg _
                   apply ol
                   have hb1 : (0 : Int) <= (at_ : Int) % (Z : Int):=Int.emod_nonneg _ (by omega)
                   have hb2' : (at_ : Int) % (Z : Int) < (Z : Int):=Int.emod_lt_of_pos _ (by omega)
                   have hbn : ((at_ : Int) % (Z : Int)).toNat = at_ % Z:=rfl
                   go_simp
                   exact gl
                 intro w9 hg _
                 have f9:=(f1.grown ((Below.refl _ _).drew)).grown hg
                 have row9:=(row1.grown ((Below.refl _ _).drew)).grown hg
                 have rc:=row9.cell hix
                 have rf:=row9.fz
                 clear f1 row1 h1 hg
                 go_wp2
                 go_roundw
                 case rel=>exact ⟨r + 1,(at_ + 1),s7,(σ1 + 1),q3,μ,rr,V,_,rfl,by go_num,by go_num,by omega,by omega,by omega,by omega,f9.setIn HRA0.out HRA.out.2.1 HRA.out.2.2.1 (fun e=>HRA.out.2.2.2 e.symm) HRA.out.1 _ _,Or.inl rfl,row9.set hix _⟩
                 case measure=>simp [intOf];omega
      · have hrN' : ¬ (r : Int) < (N2 : Int):=by omega
        obtain ⟨K,hK,hK01⟩ : ∃ K : Nat,r % 2 = K /\ (K = 0 \/ K = 1):=⟨_,rfl,by omega⟩
        rw [hK] at hb2
        rcases hK01 with rfl | rfl
        · cases hmo : μ.over? with
          | true =>
           as_aux_lemma =>
            go_wp2
            go_roundw
            case rel=>exact ⟨r + 1,at_,s1,σ1,q1,μ,rr,V,val,by rw [hmo],by go_num,by go_num,by omega,by omega,by omega,by omega,f,rd,row⟩
            case measure=>simp [intOf];omega
          | false =>
           as_aux_lemma =>
            obtain ⟨q2,μ2,r2,ht,hp,mi,hrr,k⟩:=f.step SA.out (by omega) hmo
            have k:=k _ rfl
            go_wp2_with (go_at_call 12;refine k.mono ?_;rintro e w2 ⟨rfl,s2,f2,o2,-⟩)
            go_roundw
            case rel=>exact ⟨r + 1,at_,s2,(σ1 + 1),q2,μ2,r2,V,val,rfl,by go_num,by go_num,by omega,by omega,by omega,by omega,f2,rd.mv o2 f.mi ht,row.only o2 (fun hh=>hh.elim HRA.out.1 (fun e=>HRA.out.2.2.2 e))⟩
            case measure=>simp [intOf];omega
        · rcases rd with e | ⟨X,α,e,AX,az,ho3,I,hatN,hat60,hRX⟩
          · subst e
            by_cases hatN : at_ < N
            · have hatN' : ¬ (at_ : Int) ≥ (N : Int):=by omega
              have hatN2 : ¬ (N : Int) <= (at_ : Int):=by omega
              by_cases hat60 : at_ < 60
              · have hat60' : ¬ (at_ : Int) ≥ 60:=by omega
                have hat602 : ¬ (60 : Int) <= (at_ : Int):=by omega
                as_aux_lemma =>
                 obtain ⟨zb,zo,rfl,hk⟩:=HR.out at_ hatN
                 have HKZ : Hid (w.cell? ⟨zb,zo + at_,none⟩ = some (.int .i64 (z at_))):=hk
                 clear hk
                 have hix : at_ % Z < Z:=Nat.mod_lt _ (by omega)
                 have hx:=low16 (z at_)
                 obtain ⟨⟨q3,α3⟩,ht3⟩ : ∃ x,acTurn (wtL ((at_ % Z : Nat) : Int) (bits .and .i64 (z at_) 65535)) false 0 1 σ1 q1 .see = x:=⟨_,rfl⟩
                 obtain ⟨gd,alt⟩:=wi_step (ix:=at_ % Z) f.mi hix ⟨hx.1,by omega⟩ (show WI Z 0 V q1 .see from trivial) rfl ht3
                 have hs3 : q3 = q1 /\ α3.over? = false /\ ∃ V',MI true Z 0 V' val (yE (mw Z 0).κ) rr q3 μ /\ WI Z 0 V' q3 α3:=by
                  rcases alt with ⟨h1,h2⟩ | ⟨st,e,-⟩
                  · exact ⟨(Prod.mk.inj ht3).1.symm,h1,h2⟩
                  · have e2 : α3 = (if lifeB (q1.sw 0 % 8) && decide (genOf (q1.sw 0) = 1) then Ac.ask (q1.sw 0) (σ1 + 1) else .over 3 0 (σ1 + 1)):=(Prod.mk.inj ht3).2.symm
                    rw [e] at e2
                    split at e2
                    · cases e2
                    · injection e2 with e3;omega
                 obtain ⟨hq3,hov3,V3,mi3,I3⟩:=hs3
                 clear alt hq3
                 have na:=fun W=>newL (at_ % Z) (bits .and .i64 (z at_) 65535) W
                 go_wp2
                 refine wp_over (fun W=>ScM w W L E H M Z s1 σ1 q1 true 0 V val (yE (mw Z 0).κ) rr μ /\ RowA W R Z val) ⟨f,row⟩ ?_
                 clear f row hd hd1 y0 y1 y2 y3 y4 y5 y6 y7 y8
                 rintro W ⟨f1,row1⟩
                 obtain ⟨_,h1⟩:=f1.sc.hd
                 refine wp_region_rely_tail Grown 11 [.val (.int .u64 65536),.val (.int .i64 at_),.val (.pointer (some ⟨H,1,none⟩)),.val (.int .i64 Z),.val (.int .i64 ((at_ % Z : Nat) : Int)),.val (.slice (some ⟨zb,zo,none⟩) N cap),.val (.int .i64 at_),.val (.pointer (some ⟨zb,zo + at_,none⟩)),.val (.int .i64 (z at_)),.val (.int .i64 (bits .and .i64 (z at_) 65535)),.val (.agg #[.int .i64 2,.int .u64 65536,.int .i64 ((at_ % Z : Nat) : Int),.int .i64 (bits .and .i64 (z at_) 65535),.int .i64 0])] (by kernel_rfl) Grown.refl Grown.trans (by decide) (by kernel_rfl) (by kernel_rfl) (by kernel_rfl) (by kernel_rfl) (by kernel_rfl) (by kernel_rfl) ?_
                 simp only [List.take_succ_cons,List.take_zero,relyAll,Act.put,List.setIfInBounds_toArray,List.set_cons_zero,List.set_cons_succ]
                 refine ⟨?_,?_,?_,?_,?_,?_,?_,?_,?_,?_,?_,?_⟩
                 · intros;apply ol;go_simp;exact gl
                 · intros;apply ol;go_simp;exact gl
                 · intros;apply ol;go_simp;exact gl
                 · intro w' hg _
                   apply ol
                   have z0:=(h1.drew.grown hg).at0 1 rfl
                   go_simp
                   exact gl
                 · intro w' hg _
                   apply ol
                   have hz0 : ¬ Z = 0:=by omega
                   go_simp
                   exact gl
                 · intros;apply ol;go_simp;exact gl
                 · intros;apply ol;go_simp;exact gl
                 · intro w' hg _
                   apply ol
                   have hb1 : (0 : Int) <= (at_ : Int):=by omega
                   have hb2' : (at_ : Int) < (N : Int):=by omega
                   go_simp
                   exact gl
                 · intro w' hg _
                   apply ol
                   have zc:=keep' ((f1.grown ((Below.refl _ _).drew)).grown hg).sc.sp.b HKZ.out
                   go_simp
                   exact gl
                 · intros;apply ol;go_simp;exact gl
                 · intros;apply ol;go_simp;exact gl
                 intro w5 hg _
                 have f5:=(f1.grown ((Below.refl _ _).drew)).grown hg
                 have row5:=(row1.grown ((Below.refl _ _).drew)).grown hg
                 clear f1 row1 h1 hg
                 go_wp2_with (first
                  | (go_at_call 24;refine (na _).mono ?_;rintro e w6 ⟨X,rfl,hX,az,b6⟩;have AX:=f5.apart hX;have hRX : R ≠ X:=(by have:=row5.lt;omega);have fz:=f5.grown b6;obtain ⟨x0,x1,x2,x3,x4,x5,x6,x7,x8⟩:=fz.sc.sp.v)
                  | (go_at_call 25;refine (fz.acc SA.out az AX (by omega) (wtL_ok _ _) rfl rfl gd ht3 mi3 false hov3).mono ?_;rintro e w7 ⟨rfl,s7,f7,a7,o7⟩))
                 go_roundw
                 case rel=>exact ⟨r + 1,at_,s7,(σ1 + 1),q3,μ,rr,V3,val,rfl,by go_num,by go_num,by omega,by omega,by omega,by omega,f7,Or.inr ⟨X,α3,rfl,AX,a7,hov3,I3,hatN,hat60,hRX⟩,(row5.grown b6).only o7 (fun hh=>hh.elim HRA.out.1 hRX)⟩
                 case measure=>simp [intOf];omega
              · have hat60' : (60 : Int) <= (at_ : Int):=by omega
                as_aux_lemma =>
                 go_wp2
                 go_roundw
                 case rel=>exact ⟨r + 1,at_,s1,σ1,q1,μ,rr,V,val,rfl,by go_num,by go_num,by omega,by omega,by omega,by omega,f,Or.inl rfl,row⟩
                 case measure=>simp [intOf];omega
            · have hatN' : (N : Int) <= (at_ : Int):=by omega
              as_aux_lemma =>
               go_wp2
               go_roundw
               case rel=>exact ⟨r + 1,at_,s1,σ1,q1,μ,rr,V,val,rfl,by go_num,by go_num,by omega,by omega,by omega,by omega,f,Or.inl rfl,row⟩
               case measure=>simp [intOf];omega
          · subst e
            as_aux_lemma =>
             have hix : at_ % Z < Z:=Nat.mod_lt _ (by omega)
             have hx:=low16 (z at_)
             obtain ⟨⟨q3,α3⟩,ht3⟩ : ∃ x,acTurn (wtL ((at_ % Z : Nat) : Int) (bits .and .i64 (z at_) 65535)) false 0 1 σ1 q1 α = x:=⟨_,rfl⟩
             obtain ⟨gd,alt⟩:=wi_step (ix:=at_ % Z) f.mi hix ⟨hx.1,by omega⟩ I ho3 ht3
             rcases alt with ⟨hov3,V3,mi3,I3⟩ | ⟨st,rfl,mi3⟩
             · go_wp2_with (go_at_call 25;refine (f.acc SA.out az AX (by omega) (wtL_ok _ _) rfl ho3 gd ht3 mi3 false hov3).mono ?_;rintro e w7 ⟨rfl,s7,f7,a7,o7⟩)
               go_roundw
               case rel=>exact ⟨r + 1,at_,s7,(σ1 + 1),q3,μ,rr,V3,val,rfl,by go_num,by go_num,by omega,by omega,by omega,by omega,f7,Or.inr ⟨X,α3,rfl,AX,a7,hov3,I3,hatN,hat60,hRX⟩,row.only o7 (fun hh=>hh.elim HRA.out.1 hRX)⟩
               case measure=>simp [intOf];omega
             · obtain ⟨zb,zo,rfl,hk⟩:=HR.out at_ hatN
               have HKZ : Hid (w.cell? ⟨zb,zo + at_,none⟩ = some (.int .i64 (z at_))):=hk
               clear hk
               go_wp2_with (go_at_call 25;refine (f.acc SA.out az AX (by omega) (wtL_ok _ _) rfl ho3 gd ht3 mi3 true rfl).mono ?_;rintro e w7 ⟨rfl,s7,f7,a7,o7⟩)
               have row7:=row.only o7 (fun hh=>hh.elim HRA.out.1 hRX)
               refine wp_over (fun W=>ScM w W L E H M Z s7 (σ1 + 1) q3 true 0 V (upd val (at_ % Z) (bits .and .i64 (z at_) 65535)) (yE (mw Z 0).κ) rr μ /\ RowA W R Z val /\ AcO W X (wtL ((at_ % Z : Nat) : Int) (bits .and .i64 (z at_) 65535)) (.over 0 (val (at_ % Z)) st)) ⟨f7,row7,a7⟩ ?_
               clear f row f7 row7 a7 o7 az hd hd1 gd ht3 mi3 I y0 y1 y2 y3 y4 y5 y6 y7 y8
               rintro W ⟨f1,row1,a1⟩
               obtain ⟨_,h1⟩:=f1.sc.hd
               refine wp_region_rely Grown [.val (.pointer (some ⟨X,0,none⟩)),.val (.agg #[.int .i64 0,.int .u64 0,.int .i64 (val (at_ % Z)),.int .i64 st]),.val (.int .i64 0),.val (.bool false),.val (.bool false),.val (.pointer (some ⟨X,0,none⟩)),.val (.agg #[.int .i64 0,.int .u64 0,.int .i64 (val (at_ % Z)),.int .i64 st]),.val (.int .i64 (val (at_ % Z))),.val (.slice (some ⟨R,0,none⟩) Z Z),.val (.int .i64 at_),.val (.pointer (some ⟨H,1,none⟩)),.val (.int .i64 Z),.val (.int .i64 ((at_ % Z : Nat) : Int)),.val (.pointer (some ⟨R,at_ % Z,none⟩)),.val (.int .i64 (val (at_ % Z))),.val (.bool false),.val (.bool false)] (by kernel_rfl) Grown.refl Grown.trans (by kernel_rfl) (by kernel_rfl) (by kernel_rfl) ?_
               simp only [relyAll,Act.put,List.setIfInBounds_toArray,List.set_cons_zero,List.set_cons_succ]
               refine ⟨?_,?_,?_,?_,?_,?_,?_,?_,?_,?_,?_,?_,?_,?_,?_,?_,?_,?_⟩
               · intros;apply ol;go_simp;exact gl
               · intro w' hg _
                 apply ol
                 go_simp
                 refine (((a1.grown ((Below.refl _ _).drew)).grown hg).done).mono ?_
                 rintro e w'' ⟨rfl,b9⟩
                 exact ⟨_,rfl,b9,rfl⟩
               · intros;apply ol;go_simp;exact gl
               · intros;apply ol;go_simp;exact gl
               · intros;apply ol;go_simp;exact gl
               · intros;apply ol;go_simp;exact gl
               · intro w' hg _
                 apply ol
                 go_simp
                 refine (((a1.grown ((Below.refl _ _).drew)).grown hg).done).mono ?_
                 rintro e w'' ⟨rfl,b9⟩
                 exact ⟨_,rfl,b9,rfl⟩
               · intros;apply ol;go_simp;exact gl
               · intros;apply ol;go_simp;exact gl
               · intros;apply ol;go_simp;exact gl
               · intros;apply ol;go_simp;exact gl
               · intro w' hg _
                 apply ol
                 have z0:=(h1.drew.grown hg).at0 1 rfl
                 go_simp
                 exact gl
               · intro w' hg _
                 apply ol
                 have hz0 : ¬ Z = 0:=by omega
                 go_simp
                 exact gl
               · intro w' hg _
                 apply ol
                 have hb1 : (0 : Int) <= (at_ : Int) % (Z : Int):=Int.emod_nonneg _ (by omega)
                 have hb2' : (at_ : Int) % (Z : Int) < (Z : Int):=Int.emod_lt_of_pos _ (by omega)
                 have hbn : ((at_ : Int) % (Z : Int)).toNat = at_ % Z:=rfl
                 go_simp
                 exact gl
               · intro w' hg _
                 apply ol
                 have zc:=((row1.grown ((Below.refl _ _).drew)).grown hg).cell hix
                 go_simp
                 exact gl
               · intros;apply ol;go_simp;exact gl
               · intros;apply ol;go_simp;exact gl
               intro w8 hg _
               have f8:=(f1.grown ((Below.refl _ _).drew)).grown hg
               have row8:=(row1.grown ((Below.refl _ _).drew)).grown hg
               clear f1 row1 h1 hg a1
               go_wp2
               refine wp_over (fun W=>ScM w W L E H M Z s7 (σ1 + 1) q3 true 0 V (upd val (at_ % Z) (bits .and .i64 (z at_) 65535)) (yE (mw Z 0).κ) rr μ /\ RowA W R Z val) ⟨f8,row8⟩ ?_
               clear f8 row8
               rintro W ⟨f1,row1⟩
               obtain ⟨_,h1⟩:=f1.sc.hd
               refine wp_region_rely_tail Grown 11 [.val (.slice (some ⟨R,0,none⟩) Z Z),.val (.int .i64 at_),.val (.pointer (some ⟨H,1,none⟩)),.val (.int .i64 Z),.val (.int .i64 ((at_ % Z : Nat) : Int)),.val (.slice (some ⟨zb,zo,none⟩) N cap),.val (.int .i64 at_),.val (.pointer (some ⟨zb,zo + at_,none⟩)),.val (.int .i64 (z at_)),.val (.int .i64 (bits .and .i64 (z at_) 65535)),.val (.pointer (some ⟨R,at_ % Z,none⟩))] (by kernel_rfl) Grown.refl Grown.trans (by decide) (by kernel_rfl) (by kernel_rfl) (by kernel_rfl) (by kernel_rfl) (by kernel_rfl) (by kernel_rfl) ?_
               simp only [List.take_succ_cons,List.take_zero,relyAll,Act.put,List.setIfInBounds_toArray,List.set_cons_zero,List.set_cons_succ]
               refine ⟨?_,?_,?_,?_,?_,?_,?_,?_,?_,?_,?_,?_⟩
               · intros;apply ol;go_simp;exact gl
               · intros;apply ol;go_simp;exact gl
               · intros;apply ol;go_simp;exact gl
               · intro w' hg _
                 apply ol
                 have z0:=(h1.drew.grown hg).at0 1 rfl
                 go_simp
                 exact gl
               · intro w' hg _
                 apply ol
                 have hz0 : ¬ Z = 0:=by omega
                 go_simp
                 exact gl
               · intros;apply ol;go_simp;exact gl
               · intros;apply ol;go_simp;exact gl
               · intro w' hg _
                 apply ol
                 have hb1 : (0 : Int) <= (at_ : Int):=by omega
                 have hb2' : (at_ : Int) < (N : Int):=by omega
                 go_simp
                 exact gl
               · intro w' hg _
                 apply ol
                 have zc:=keep' ((f1.grown ((Below.refl _ _).drew)).grown hg).sc.sp.b HKZ.out
                 go_simp
                 exact gl
               · intros;apply ol;go_simp;exact gl
               · intro w' hg _
                 apply ol
                 have hb1 : (0 : Int) <= (at_ : Int) % (Z : Int):=Int.emod_nonneg _ (by omega)
                 have hb2' : (at_ : Int) % (Z : Int) < (Z : Int):=Int.emod_lt_of_pos _ (by omega)
                 have hbn : ((at_ : Int) % (Z : Int)).toNat = at_ % Z:=rfl
                 go_simp
                 exact gl
               intro w9 hg _
               have f9:=(f1.grown ((Below.refl _ _).drew)).grown hg
               have row9:=(row1.grown ((Below.refl _ _).drew)).grown hg
               have rc:=row9.cell hix
               have rf:=row9.fz
               clear f1 row1 h1 hg
               go_wp2
               go_roundw
               case rel=>exact ⟨r + 1,(at_ + 1),s7,(σ1 + 1),q3,μ,rr,V,_,rfl,by go_num,by go_num,by omega,by omega,by omega,by omega,f9.setIn HRA0.out HRA.out.2.1 HRA.out.2.2.1 (fun e=>HRA.out.2.2.2 e.symm) HRA.out.1 _ _,Or.inl rfl,row9.set hix _⟩
               case measure=>simp [intOf];omega
    · have hr2' : ¬ (r : Int) < 900:=by omega
      as_aux_lemma =>
       obtain ⟨av,rfl⟩:=rd.val
       have hmp : mpot true Z 0 rr q1 μ <= 200:=mpot_le z2 hrr9
       have A1 : Hid (ScM w _ L E H M Z s1 σ1 q1 true 0 V val (yE (mw Z 0).κ) rr μ /\ WrI R w _ L E H M Z V N z q1 at_ av /\ RowA _ R Z val):=⟨f,rd,row⟩
       clear f rd row hd hd1 htm hb2 y0 y1 y2 y3 y4 y5 y6 y7 y8
       go_wp2
       go_loopw [13,19] (fun mv iv wr=>∃ (j : Nat) (s' : Mm) (σ' : Nat) (q' : Q) (μ' : Mv) (r' : Nat),mv = .bool μ'.over? /\ iv = .int .i64 j /\ j + mpot true Z 0 r' q' μ' <= 200 /\ σ' <= 2000 + j /\ ScM w wr L E H M Z s' σ' q' true 0 V val (yE (mw Z 0).κ) r' μ' /\ WrI R w wr L E H M Z V N z q' at_ av /\ RowA wr R Z val) (fun _ i _=>900 - (intOf i).toNat)
       case atStart=>exact ⟨0,s1,σ1,q1,μ,rr,rfl,rfl,by omega,by omega,A1.out⟩
       case round =>
        clear A1 hmp
        obtain ⟨j,s2,σ2,q2,μ2,r2,rfl,rfl,hj,hσ2,f,rd,row⟩:=hrel
        obtain ⟨y0,y1,y2,y3,y4,y5,y6,y7,y8⟩:=f.sc.sp.v
        have hj9 : (j : Int) < 900:=by omega
        cases hmo : μ2.over? with
        | false =>
         obtain ⟨q3,μ3,r3,ht,hp,mi,hrr,k⟩:=f.step SA.out (by omega) hmo
         have k:=k _ rfl
         go_wp2_with (go_at_call 12;refine k.mono ?_;rintro e w3 ⟨rfl,s3,f3,o3,-⟩)
         go_roundw
         case rel=>exact ⟨j + 1,s3,σ2 + 1,q3,μ3,r3,rfl,by go_num,by omega,by omega,f3,rd.mv o3 f.mi ht,row.only o3 (fun hh=>hh.elim HRA.out.1 (fun e=>HRA.out.2.2.2 e))⟩
         case measure=>simp [intOf];omega
        | true =>
         obtain ⟨o,τ,rfl⟩:=Mv.is_over hmo
         have A2 : Hid (ScM w _ L E H M Z s2 σ2 q2 true 0 V val (yE (mw Z 0).κ) r2 (.over o τ) /\ WrI R w _ L E H M Z V N z q2 at_ av /\ RowA _ R Z val):=⟨f,rd,row⟩
         clear f rd row hmo y0 y1 y2 y3 y4 y5 y6 y7 y8
         go_wp2
         go_loopw [15,20] (fun av iv wr=>∃ (j : Nat) (s' : Mm) (σ' : Nat) (q' : Q) (V' : Nat) (val' : Nat -> Int),iv = .int .i64 j /\ j <= 8 /\ σ' <= 3000 + j /\ ScM w wr L E H M Z s' σ' q' true 0 V' val' (yE (mw Z 0).κ) r2 (.over o τ) /\ RowA wr R Z val' /\ (av = .pointer none \/ ∃ X α,av = .pointer (some ⟨X,0,none⟩) /\ ScRA w L E H M X /\ AcO wr X (wtL ((at_ % Z : Nat) : Int) (bits .and .i64 (z at_) 65535)) α /\ α.over? = false /\ WI Z 0 V' q' α /\ at_ < N /\ at_ < 60 /\ R ≠ X /\ j + wpot (wtL ((at_ % Z : Nat) : Int) (bits .and .i64 (z at_) 65535)) q' α <= 7)) (fun _ i _=>200 - (intOf i).toNat)
         case atStart =>
          refine ⟨0,s2,σ2,q2,V,val,rfl,by omega,by omega,A2.out.1,A2.out.2.2,?_⟩
          rcases A2.out.2.1 with e | ⟨X,α,e,AX,ac,ho3,I,h1,h2,h3⟩
          · exact Or.inl e
          · exact Or.inr ⟨X,α,e,AX,ac,ho3,I,h1,h2,h3,by have:=wpot_le (wtL ((at_ % Z : Nat) : Int) (bits .and .i64 (z at_) 65535)) q2 α;omega⟩
         case round =>
          clear A2
          obtain ⟨j,s3,σ3,q3,V3,val3,rfl,hj8,hσ3,f,row,wi⟩:=hrel
          obtain ⟨y0,y1,y2,y3,y4,y5,y6,y7,y8⟩:=f.sc.sp.v
          have hj2 : (j : Int) < 200:=by omega
          rcases wi with e | ⟨X,α,e,AX,az,ho3,I,hatN,hat60,hRX,hpj⟩
          · subst e
            have HRD : Hid (∀ k,k < Z -> ∀ σ,ARuns 4 8 4 20 (wtD k) false 0 1 true 4 σ q3 .see q3 (.over 0 (val3 k) (σ + 3))):=over_read f.mi
            have HWD : Hid (∀ a,Wd (q3.dw a)):=f.mi.com.wd
            have HEND : Hid ((o = 1 /\ Wo (q3.sw 0) 1 58 (V3 + 1)) \/ (o = 3 /\ Wo (q3.sw 0) 1 38 V3)):=over_wo f.mi
            have A3 : Hid (ScM w _ L E H M Z s3 σ3 q3 true 0 V3 val3 (yE (mw Z 0).κ) r2 (.over o τ) /\ RowA _ R Z val3):=⟨f,row⟩
            clear f row y0 y1 y2 y3 y4 y5 y6 y7 y8
            go_wp2
            go_loopw [21] (fun iv wr=>∃ (k : Nat) (s' : Mm) (σ' : Nat),iv = .int .i64 k /\ k <= Z /\ σ' <= 4000 + 4 * k /\ ScM w wr L E H M Z s' σ' q3 true 0 V3 val3 (yE (mw Z 0).κ) r2 (.over o τ) /\ RowA wr R Z val3) (fun i _=>16 - (intOf i).toNat)
            case atStart=>exact ⟨0,s3,σ3,rfl,by omega,by omega,A3.out⟩
            case round =>
             clear A3
             obtain ⟨k,s5,σ5,rfl,hkZ,hσ5,f,row⟩:=hrel
             obtain ⟨y0,y1,y2,y3,y4,y5,y6,y7,y8⟩:=f.sc.sp.v
             obtain ⟨_,hd⟩:=f.sc.hd
             have hd1:=hd.at0 1 rfl
             by_cases hk : k < Z
             · have hk' : (k : Int) < (Z : Int):=by omega
               have rd:=HRD.out k hk σ5
               go_wp2
               refine wp_over (fun W=>ScM w W L E H M Z s5 σ5 q3 true 0 V3 val3 (yE (mw Z 0).κ) r2 (.over o τ) /\ RowA W R Z val3) ⟨f,row⟩ ?_
               clear f row hd hd1 y0 y1 y2 y3 y4 y5 y6 y7 y8
               rintro W ⟨f1,row1⟩
               refine wp_region_phase (Only L.has) Grown (phRd w L E H M Z s5 σ5 q3 V3 val3 (yE (mw Z 0).κ) r2 (.over o τ)) [3] [.val (.agg #[.int .i64 4,.int .i64 8,.int .i64 4,.int .i64 20,.int .i64 100,.int .i64 600,.int .i64 3,.pointer (some ⟨L.p,0,none⟩),.int .i64 0]),.val (.int .u64 65536),.val (.int .i64 k),.val (.agg #[.int .i64 0,.int .u64 0,.int .i64 (val3 k),.int .i64 ((σ5 + 3 : Nat) : Int)]),.val (.int .i64 (val3 k)),.val (.slice (some ⟨R,0,none⟩) Z Z),.val (.int .i64 k),.val (.pointer (some ⟨R,k,none⟩)),.val (.int .i64 (val3 k)),.val (.bool false)]
                (by kernel_rfl) (Only.refl _) (fun _ _ _ h k=>h.trans k) (fun x y h=>Only.ofGrown h) phRd_grown f1.drew (by kernel_rfl) (by kernel_rfl) (by kernel_rfl) (by kernel_rfl) (by kernel_rfl) ?_
               simp only [phaseAll,Act.put,List.setIfInBounds_toArray,List.set_cons_zero,List.set_cons_succ]
               refine ⟨?_,?_,?_,?_,?_,?_,?_,?_,?_,?_,?_⟩
               · intro w' hR _
                 apply ol
                 obtain ⟨y0,y1,y2,y3,y4,y5,y6,y7,y8⟩:=(f1.sc.sp.v.grown ((Below.refl _ _).drew)).only hR SA.out.sa.fa.e
                 go_simp
                 exact gl
               · intros;apply ol;go_simp;exact gl
               · intros;apply ol;go_simp;exact gl
               · intro w' hR _ hP
                 apply ol
                 go_simp
                 refine (ScM.read4 hP SA.out HWD.out (by omega) rd).mono ?_
                 rintro e w'' ⟨rfl,s',f',o'⟩
                 exact ⟨_,rfl,⟨o',s',f'⟩,rfl⟩
               · intros;apply ol;go_simp;exact gl
               · intros;apply ol;go_simp;exact gl
               · intros;apply ol;go_simp;exact gl
               · intro w' hR _
                 apply ol
                 have hb1 : (0 : Int) <= (k : Int):=by omega
                 go_simp
                 exact gl
               · intro w' hR _
                 apply ol
                 have zc:=((row1.grown ((Below.refl _ _).drew)).only hR HRA.out.1).cell hk
                 go_simp
                 exact gl
               · intros;apply ol;go_simp;exact gl
               intro w9 hR hP _
               obtain ⟨s9,f9⟩:=hP
               have row9:=(row1.grown ((Below.refl _ _).drew)).only hR HRA.out.1
               clear f1 row1 hR rd
               go_wp2
               go_roundw
               case rel=>exact ⟨k + 1,s9,σ5 + 4,by go_num,by omega,by omega,f9,row9⟩
               case measure=>simp [intOf];omega
             · have hk' : ¬ (k : Int) < (Z : Int):=by omega
               rcases HEND.out with ⟨rfl,hw⟩ | ⟨rfl,hw⟩
               · have hw:=hw
                 go_wp2_with (first
                  | (go_at_call 16;refine f.out.mono ?_;rintro e w9 ⟨rfl,rfl⟩)
                  | (go_at_call 14;refine (f.sc.where hw).mono ?_;rintro e w8 ⟨rfl,b8⟩))
                 go_ret
                 exact ⟨rfl,(f.grown b8).sc.sp.b⟩
               · have hw:=hw
                 go_wp2_with (first
                  | (go_at_call 16;refine f.out.mono ?_;rintro e w9 ⟨rfl,rfl⟩)
                  | (go_at_call 14;refine (f.sc.where hw).mono ?_;rintro e w8 ⟨rfl,b8⟩))
                 go_ret
                 exact ⟨rfl,(f.grown b8).sc.sp.b⟩
          · subst e
            have hix : at_ % Z < Z:=Nat.mod_lt _ (by omega)
            have hx:=low16 (z at_)
            obtain ⟨⟨q4,α4⟩,ht4⟩ : ∃ x,acTurn (wtL ((at_ % Z : Nat) : Int) (bits .and .i64 (z at_) 65535)) false 0 1 σ3 q3 α = x:=⟨_,rfl⟩
            have hwe:=wi_end (ix:=at_ % Z) f.mi hix I ho3 ht4
            obtain ⟨gd,alt⟩:=wi_step (ix:=at_ % Z) f.mi hix ⟨hx.1,by omega⟩ I ho3 ht4
            rcases alt with ⟨hov4,V4,mi4,I4⟩ | ⟨st,rfl,mi4⟩
            · have hp4 : wpot (wtL ((at_ % Z : Nat) : Int) (bits .and .i64 (z at_) 65535)) q4 α4 + 1 <= wpot (wtL ((at_ % Z : Nat) : Int) (bits .and .i64 (z at_) 65535)) q3 α:=by
               rcases hwe with h | h
               · rw [hov4] at h;cases h
               · exact h
              go_wp2_with (go_at_call 25;refine (f.acc SA.out az AX (by omega) (wtL_ok _ _) rfl ho3 gd ht4 mi4 false hov4).mono ?_;rintro e w7 ⟨rfl,s7,f7,a7,o7⟩)
              go_roundw
              case rel=>exact ⟨j + 1,s7,σ3 + 1,q4,V4,val3,by go_num,by omega,by omega,f7,row.only o7 (fun hh=>hh.elim HRA.out.1 hRX),Or.inr ⟨X,α4,rfl,AX,a7,hov4,I4,hatN,hat60,hRX,by omega⟩⟩
              case measure=>simp [intOf];omega
            · obtain ⟨zb,zo,rfl,hk⟩:=HR.out at_ hatN
              have HKZ : Hid (w.cell? ⟨zb,zo + at_,none⟩ = some (.int .i64 (z at_))):=hk
              have hj7 : j < 7:=by
               have h1 : 1 <= wpot (wtL ((at_ % Z : Nat) : Int) (bits .and .i64 (z at_) 65535)) q3 α:=by
                cases α with
                | over=>cases ho3
                | check=>exact I.elim
                | _=>simp only [wpot] <;> (try split) <;> omega
               omega
              clear hk
              go_wp2_with (first
               | (go_at_call 25;refine (f.acc SA.out az AX (by omega) (wtL_ok _ _) rfl ho3 gd ht4 mi4 true rfl).mono ?_;rintro e w7 ⟨rfl,s7,f7,a7,o7⟩)
               | (go_at_call 26;refine a7.done.mono ?_;rintro e w8 ⟨rfl,b8⟩))
              have row8:=(row.only o7 (fun hh=>hh.elim HRA.out.1 hRX)).grown b8
              have f8:=f7.grown b8
              refine wp_over (fun W=>ScM w W L E H M Z s7 (σ3 + 1) q4 true 0 V3 (upd val3 (at_ % Z) (bits .and .i64 (z at_) 65535)) (yE (mw Z 0).κ) r2 (.over o τ) /\ RowA W R Z val3) ⟨f8,row8⟩ ?_
              clear f row f7 f8 row8 a7 o7 b8 az gd ht4 mi4 I hwe y0 y1 y2 y3 y4 y5 y6 y7 y8
              rintro W ⟨f1,row1⟩
              obtain ⟨_,h1⟩:=f1.sc.hd
              refine wp_region_rely_tail Grown 11 [.val (.slice (some ⟨R,0,none⟩) Z Z),.val (.int .i64 at_),.val (.pointer (some ⟨H,1,none⟩)),.val (.int .i64 Z),.val (.int .i64 ((at_ % Z : Nat) : Int)),.val (.slice (some ⟨zb,zo,none⟩) N cap),.val (.int .i64 at_),.val (.pointer (some ⟨zb,zo + at_,none⟩)),.val (.int .i64 (z at_)),.val (.int .i64 (bits .and .i64 (z at_) 65535)),.val (.pointer (some ⟨R,at_ % Z,none⟩))] (by kernel_rfl) Grown.refl Grown.trans (by decide) (by kernel_rfl) (by kernel_rfl) (by kernel_rfl) (by kernel_rfl) (by kernel_rfl) (by kernel_rfl) ?_
              simp only [List.take_succ_cons,List.take_zero,relyAll,Act.put,List.setIfInBounds_toArray,List.set_cons_zero,List.set_cons_succ]
              refine ⟨?_,?_,?_,?_,?_,?_,?_,?_,?_,?_,?_,?_⟩
              · intros;apply ol;go_simp;exact gl
              · intros;apply ol;go_simp;exact gl
              · intros;apply ol;go_simp;exact gl
              · intro w' hg _
                apply ol
                have z0:=(h1.drew.grown hg).at0 1 rfl
                go_simp
                exact gl
              · intro w' hg _
                apply ol
                have hz0 : ¬ Z = 0:=by omega
                go_simp
                exact gl
              · intros;apply ol;go_simp;exact gl
              · intros;apply ol;go_simp;exact gl
              · intro w' hg _
                apply ol
                have hb1 : (0 : Int) <= (at_ : Int):=by omega
                have hb2' : (at_ : Int) < (N : Int):=by omega
                go_simp
                exact gl
              · intro w' hg _
                apply ol
                have zc:=keep' ((f1.grown ((Below.refl _ _).drew)).grown hg).sc.sp.b HKZ.out
                go_simp
                exact gl
              · intros;apply ol;go_simp;exact gl
              · intro w' hg _
                apply ol
                have hb1 : (0 : Int) <= (at_ : Int) % (Z : Int):=Int.emod_nonneg _ (by omega)
                have hb2' : (at_ : Int) % (Z : Int) < (Z : Int):=Int.emod_lt_of_pos _ (by omega)
                have hbn : ((at_ : Int) % (Z : Int)).toNat = at_ % Z:=rfl
                go_simp
                exact gl
              intro w9 hg _
              have f9:=(f1.grown ((Below.refl _ _).drew)).grown hg
              have row9:=(row1.grown ((Below.refl _ _).drew)).grown hg
              have rc:=row9.cell hix
              have rf:=row9.fz
              clear f1 row1 h1 hg
              go_wp2
              go_roundw
              case rel=>exact ⟨j + 1,s7,σ3 + 1,q4,V3,_,by go_num,by omega,by omega,f9.setIn HRA0.out HRA.out.2.1 HRA.out.2.2.1 (fun e=>HRA.out.2.2.2 e.symm) HRA.out.1 _ _,row9.set hix _,Or.inl rfl⟩
              case measure=>simp [intOf];omega
  · have hr1' : ¬ (r : Int) < (N2 : Int) + 400:=by omega
    as_aux_lemma =>
     obtain ⟨av,rfl⟩:=rd.val
     have hmp : mpot true Z 0 rr q1 μ <= 200:=mpot_le z2 hrr9
     have A1 : Hid (ScM w _ L E H M Z s1 σ1 q1 true 0 V val (yE (mw Z 0).κ) rr μ /\ WrI R w _ L E H M Z V N z q1 at_ av /\ RowA _ R Z val):=⟨f,rd,row⟩
     clear f rd row hd hd1 htm hb2 y0 y1 y2 y3 y4 y5 y6 y7 y8
     go_wp2
     go_loopw [13,19] (fun mv iv wr=>∃ (j : Nat) (s' : Mm) (σ' : Nat) (q' : Q) (μ' : Mv) (r' : Nat),mv = .bool μ'.over? /\ iv = .int .i64 j /\ j + mpot true Z 0 r' q' μ' <= 200 /\ σ' <= 2000 + j /\ ScM w wr L E H M Z s' σ' q' true 0 V val (yE (mw Z 0).κ) r' μ' /\ WrI R w wr L E H M Z V N z q' at_ av /\ RowA wr R Z val) (fun _ i _=>900 - (intOf i).toNat)
     case atStart=>exact ⟨0,s1,σ1,q1,μ,rr,rfl,rfl,by omega,by omega,A1.out⟩
     case round =>
      clear A1 hmp
      obtain ⟨j,s2,σ2,q2,μ2,r2,rfl,rfl,hj,hσ2,f,rd,row⟩:=hrel
      obtain ⟨y0,y1,y2,y3,y4,y5,y6,y7,y8⟩:=f.sc.sp.v
      have hj9 : (j : Int) < 900:=by omega
      cases hmo : μ2.over? with
      | false =>
       obtain ⟨q3,μ3,r3,ht,hp,mi,hrr,k⟩:=f.step SA.out (by omega) hmo
       have k:=k _ rfl
       go_wp2_with (go_at_call 12;refine k.mono ?_;rintro e w3 ⟨rfl,s3,f3,o3,-⟩)
       go_roundw
       case rel=>exact ⟨j + 1,s3,σ2 + 1,q3,μ3,r3,rfl,by go_num,by omega,by omega,f3,rd.mv o3 f.mi ht,row.only o3 (fun hh=>hh.elim HRA.out.1 (fun e=>HRA.out.2.2.2 e))⟩
       case measure=>simp [intOf];omega
      | true =>
       obtain ⟨o,τ,rfl⟩:=Mv.is_over hmo
       have A2 : Hid (ScM w _ L E H M Z s2 σ2 q2 true 0 V val (yE (mw Z 0).κ) r2 (.over o τ) /\ WrI R w _ L E H M Z V N z q2 at_ av /\ RowA _ R Z val):=⟨f,rd,row⟩
       clear f rd row hmo y0 y1 y2 y3 y4 y5 y6 y7 y8
       go_wp2
       go_loopw [15,20] (fun av iv wr=>∃ (j : Nat) (s' : Mm) (σ' : Nat) (q' : Q) (V' : Nat) (val' : Nat -> Int),iv = .int .i64 j /\ j <= 8 /\ σ' <= 3000 + j /\ ScM w wr L E H M Z s' σ' q' true 0 V' val' (yE (mw Z 0).κ) r2 (.over o τ) /\ RowA wr R Z val' /\ (av = .pointer none \/ ∃ X α,av = .pointer (some ⟨X,0,none⟩) /\ ScRA w L E H M X /\ AcO wr X (wtL ((at_ % Z : Nat) : Int) (bits .and .i64 (z at_) 65535)) α /\ α.over? = false /\ WI Z 0 V' q' α /\ at_ < N /\ at_ < 60 /\ R ≠ X /\ j + wpot (wtL ((at_ % Z : Nat) : Int) (bits .and .i64 (z at_) 65535)) q' α <= 7)) (fun _ i _=>200 - (intOf i).toNat)
       case atStart =>
        refine ⟨0,s2,σ2,q2,V,val,rfl,by omega,by omega,A2.out.1,A2.out.2.2,?_⟩
        rcases A2.out.2.1 with e | ⟨X,α,e,AX,ac,ho3,I,h1,h2,h3⟩
        · exact Or.inl e
        · exact Or.inr ⟨X,α,e,AX,ac,ho3,I,h1,h2,h3,by have:=wpot_le (wtL ((at_ % Z : Nat) : Int) (bits .and .i64 (z at_) 65535)) q2 α;omega⟩
       case round =>
        clear A2
        obtain ⟨j,s3,σ3,q3,V3,val3,rfl,hj8,hσ3,f,row,wi⟩:=hrel
        obtain ⟨y0,y1,y2,y3,y4,y5,y6,y7,y8⟩:=f.sc.sp.v
        have hj2 : (j : Int) < 200:=by omega
        rcases wi with e | ⟨X,α,e,AX,az,ho3,I,hatN,hat60,hRX,hpj⟩
        · subst e
          have HRD : Hid (∀ k,k < Z -> ∀ σ,ARuns 4 8 4 20 (wtD k) false 0 1 true 4 σ q3 .see q3 (.over 0 (val3 k) (σ + 3))):=over_read f.mi
          have HWD : Hid (∀ a,Wd (q3.dw a)):=f.mi.com.wd
          have HEND : Hid ((o = 1 /\ Wo (q3.sw 0) 1 58 (V3 + 1)) \/ (o = 3 /\ Wo (q3.sw 0) 1 38 V3)):=over_wo f.mi
          have A3 : Hid (ScM w _ L E H M Z s3 σ3 q3 true 0 V3 val3 (yE (mw Z 0).κ) r2 (.over o τ) /\ RowA _ R Z val3):=⟨f,row⟩
          clear f row y0 y1 y2 y3 y4 y5 y6 y7 y8
          go_wp2
          go_loopw [21] (fun iv wr=>∃ (k : Nat) (s' : Mm) (σ' : Nat),iv = .int .i64 k /\ k <= Z /\ σ' <= 4000 + 4 * k /\ ScM w wr L E H M Z s' σ' q3 true 0 V3 val3 (yE (mw Z 0).κ) r2 (.over o τ) /\ RowA wr R Z val3) (fun i _=>16 - (intOf i).toNat)
          case atStart=>exact ⟨0,s3,σ3,rfl,by omega,by omega,A3.out⟩
          case round =>
           clear A3
           obtain ⟨k,s5,σ5,rfl,hkZ,hσ5,f,row⟩:=hrel
           obtain ⟨y0,y1,y2,y3,y4,y5,y6,y7,y8⟩:=f.sc.sp.v
           obtain ⟨_,hd⟩:=f.sc.hd
           have hd1:=hd.at0 1 rfl
           by_cases hk : k < Z
           · have hk' : (k : Int) < (Z : Int):=by omega
             have rd:=HRD.out k hk σ5
             go_wp2
             refine wp_over (fun W=>ScM w W L E H M Z s5 σ5 q3 true 0 V3 val3 (yE (mw Z 0).κ) r2 (.over o τ) /\ RowA W R Z val3) ⟨f,row⟩ ?_
             clear f row hd hd1 y0 y1 y2 y3 y4 y5 y6 y7 y8
             rintro W ⟨f1,row1⟩
             refine wp_region_phase (Only L.has) Grown (phRd w L E H M Z s5 σ5 q3 V3 val3 (yE (mw Z 0).κ) r2 (.over o τ)) [3] [.val (.agg #[.int .i64 4,.int .i64 8,.int .i64 4,.int .i64 20,.int .i64 100,.int .i64 600,.int .i64 3,.pointer (some ⟨L.p,0,none⟩),.int .i64 0]),.val (.int .u64 65536),.val (.int .i64 k),.val (.agg #[.int .i64 0,.int .u64 0,.int .i64 (val3 k),.int .i64 ((σ5 + 3 : Nat) : Int)]),.val (.int .i64 (val3 k)),.val (.slice (some ⟨R,0,none⟩) Z Z),.val (.int .i64 k),.val (.pointer (some ⟨R,k,none⟩)),.val (.int .i64 (val3 k)),.val (.bool false)]
              (by kernel_rfl) (Only.refl _) (fun _ _ _ h k=>h.trans k) (fun x y h=>Only.ofGrown h) phRd_grown f1.drew (by kernel_rfl) (by kernel_rfl) (by kernel_rfl) (by kernel_rfl) (by kernel_rfl) ?_
             simp only [phaseAll,Act.put,List.setIfInBounds_toArray,List.set_cons_zero,List.set_cons_succ]
             refine ⟨?_,?_,?_,?_,?_,?_,?_,?_,?_,?_,?_⟩
             · intro w' hR _
               apply ol
               obtain ⟨y0,y1,y2,y3,y4,y5,y6,y7,y8⟩:=(f1.sc.sp.v.grown ((Below.refl _ _).drew)).only hR SA.out.sa.fa.e
               go_simp
               exact gl
             · intros;apply ol;go_simp;exact gl
             · intros;apply ol;go_simp;exact gl
             · intro w' hR _ hP
               apply ol
               go_simp
               refine (ScM.read4 hP SA.out HWD.out (by omega) rd).mono ?_
               rintro e w'' ⟨rfl,s',f',o'⟩
               exact ⟨_,rfl,⟨o',s',f'⟩,rfl⟩
             · intros;apply ol;go_simp;exact gl
             · intros;apply ol;go_simp;exact gl
             · intros;apply ol;go_simp;exact gl
             · intro w' hR _
               apply ol
               have hb1 : (0 : Int) <= (k : Int):=by omega
               go_simp
               exact gl
             · intro w' hR _
               apply ol
               have zc:=((row1.grown ((Below.refl _ _).drew)).only hR HRA.out.1).cell hk
               go_simp
               exact gl
             · intros;apply ol;go_simp;exact gl
             intro w9 hR hP _
             obtain ⟨s9,f9⟩:=hP
             have row9:=(row1.grown ((Below.refl _ _).drew)).only hR HRA.out.1
             clear f1 row1 hR rd
             go_wp2
             go_roundw
             case rel=>exact ⟨k + 1,s9,σ5 + 4,by go_num,by omega,by omega,f9,row9⟩
             case measure=>simp [intOf];omega
           · have hk' : ¬ (k : Int) < (Z : Int):=by omega
             rcases HEND.out with ⟨rfl,hw⟩ | ⟨rfl,hw⟩
             · have hw:=hw
               go_wp2_with (first
                | (go_at_call 16;refine f.out.mono ?_;rintro e w9 ⟨rfl,rfl⟩)
                | (go_at_call 14;refine (f.sc.where hw).mono ?_;rintro e w8 ⟨rfl,b8⟩))
               go_ret
               exact ⟨rfl,(f.grown b8).sc.sp.b⟩
             · have hw:=hw
               go_wp2_with (first
                | (go_at_call 16;refine f.out.mono ?_;rintro e w9 ⟨rfl,rfl⟩)
                | (go_at_call 14;refine (f.sc.where hw).mono ?_;rintro e w8 ⟨rfl,b8⟩))
               go_ret
               exact ⟨rfl,(f.grown b8).sc.sp.b⟩
        · subst e
          have hix : at_ % Z < Z:=Nat.mod_lt _ (by omega)
          have hx:=low16 (z at_)
          obtain ⟨⟨q4,α4⟩,ht4⟩ : ∃ x,acTurn (wtL ((at_ % Z : Nat) : Int) (bits .and .i64 (z at_) 65535)) false 0 1 σ3 q3 α = x:=⟨_,rfl⟩
          have hwe:=wi_end (ix:=at_ % Z) f.mi hix I ho3 ht4
          obtain ⟨gd,alt⟩:=wi_step (ix:=at_ % Z) f.mi hix ⟨hx.1,by omega⟩ I ho3 ht4
          rcases alt with ⟨hov4,V4,mi4,I4⟩ | ⟨st,rfl,mi4⟩
          · have hp4 : wpot (wtL ((at_ % Z : Nat) : Int) (bits .and .i64 (z at_) 65535)) q4 α4 + 1 <= wpot (wtL ((at_ % Z : Nat) : Int) (bits .and .i64 (z at_) 65535)) q3 α:=by
             rcases hwe with h | h
             · rw [hov4] at h;cases h
             · exact h
            go_wp2_with (go_at_call 25;refine (f.acc SA.out az AX (by omega) (wtL_ok _ _) rfl ho3 gd ht4 mi4 false hov4).mono ?_;rintro e w7 ⟨rfl,s7,f7,a7,o7⟩)
            go_roundw
            case rel=>exact ⟨j + 1,s7,σ3 + 1,q4,V4,val3,by go_num,by omega,by omega,f7,row.only o7 (fun hh=>hh.elim HRA.out.1 hRX),Or.inr ⟨X,α4,rfl,AX,a7,hov4,I4,hatN,hat60,hRX,by omega⟩⟩
            case measure=>simp [intOf];omega
          · obtain ⟨zb,zo,rfl,hk⟩:=HR.out at_ hatN
            have HKZ : Hid (w.cell? ⟨zb,zo + at_,none⟩ = some (.int .i64 (z at_))):=hk
            have hj7 : j < 7:=by
             have h1 : 1 <= wpot (wtL ((at_ % Z : Nat) : Int) (bits .and .i64 (z at_) 65535)) q3 α:=by
              cases α with
              | over=>cases ho3
              | check=>exact I.elim
              | _=>simp only [wpot] <;> (try split) <;> omega
             omega
            clear hk
            go_wp2_with (first
             | (go_at_call 25;refine (f.acc SA.out az AX (by omega) (wtL_ok _ _) rfl ho3 gd ht4 mi4 true rfl).mono ?_;rintro e w7 ⟨rfl,s7,f7,a7,o7⟩)
             | (go_at_call 26;refine a7.done.mono ?_;rintro e w8 ⟨rfl,b8⟩))
            have row8:=(row.only o7 (fun hh=>hh.elim HRA.out.1 hRX)).grown b8
            have f8:=f7.grown b8
            refine wp_over (fun W=>ScM w W L E H M Z s7 (σ3 + 1) q4 true 0 V3 (upd val3 (at_ % Z) (bits .and .i64 (z at_) 65535)) (yE (mw Z 0).κ) r2 (.over o τ) /\ RowA W R Z val3) ⟨f8,row8⟩ ?_
            clear f row f7 f8 row8 a7 o7 b8 az gd ht4 mi4 I hwe y0 y1 y2 y3 y4 y5 y6 y7 y8
            rintro W ⟨f1,row1⟩
            obtain ⟨_,h1⟩:=f1.sc.hd
            refine wp_region_rely_tail Grown 11 [.val (.slice (some ⟨R,0,none⟩) Z Z),.val (.int .i64 at_),.val (.pointer (some ⟨H,1,none⟩)),.val (.int .i64 Z),.val (.int .i64 ((at_ % Z : Nat) : Int)),.val (.slice (some ⟨zb,zo,none⟩) N cap),.val (.int .i64 at_),.val (.pointer (some ⟨zb,zo + at_,none⟩)),.val (.int .i64 (z at_)),.val (.int .i64 (bits .and .i64 (z at_) 65535)),.val (.pointer (some ⟨R,at_ % Z,none⟩))] (by kernel_rfl) Grown.refl Grown.trans (by decide) (by kernel_rfl) (by kernel_rfl) (by kernel_rfl) (by kernel_rfl) (by kernel_rfl) (by kernel_rfl) ?_
            simp only [List.take_succ_cons,List.take_zero,relyAll,Act.put,List.setIfInBounds_toArray,List.set_cons_zero,List.set_cons_succ]
            refine ⟨?_,?_,?_,?_,?_,?_,?_,?_,?_,?_,?_,?_⟩
            · intros;apply ol;go_simp;exact gl
            · intros;apply ol;go_simp;exact gl
            · intros;apply ol;go_simp;exact gl
            · intro w' hg _
              apply ol
              have z0:=(h1.drew.grown hg).at0 1 rfl
              go_simp
              exact gl
            · intro w' hg _
              apply ol
              have hz0 : ¬ Z = 0:=by omega
              go_simp
              exact gl
            · intros;apply ol;go_simp;exact gl
            · intros;apply ol;go_simp;exact gl
            · intro w' hg _
              apply ol
              have hb1 : (0 : Int) <= (at_ : Int):=by omega
              have hb2' : (at_ : Int) < (N : Int):=by omega
              go_simp
              exact gl
            · intro w' hg _
              apply ol
              have zc:=keep' ((f1.grown ((Below.refl _ _).drew)).grown hg).sc.sp.b HKZ.out
              go_simp
              exact gl
            · intros;apply ol;go_simp;exact gl
            · intro w' hg _
              apply ol
              have hb1 : (0 : Int) <= (at_ : Int) % (Z : Int):=Int.emod_nonneg _ (by omega)
              have hb2' : (at_ : Int) % (Z : Int) < (Z : Int):=Int.emod_lt_of_pos _ (by omega)
              have hbn : ((at_ : Int) % (Z : Int)).toNat = at_ % Z:=rfl
              go_simp
              exact gl
            intro w9 hg _
            have f9:=(f1.grown ((Below.refl _ _).drew)).grown hg
            have row9:=(row1.grown ((Below.refl _ _).drew)).grown hg
            have rc:=row9.cell hix
            have rf:=row9.fz
            clear f1 row1 h1 hg
            go_wp2
            go_roundw
            case rel=>exact ⟨j + 1,s7,σ3 + 1,q4,V3,_,by go_num,by omega,by omega,f9.setIn HRA0.out HRA.out.2.1 HRA.out.2.2.1 (fun e=>HRA.out.2.2.2 e.symm) HRA.out.1 _ _,row9.set hix _,Or.inl rfl⟩
            case measure=>simp [intOf];omega
end Go.Proofs.YtkgpffcnimmdkaaGreat
