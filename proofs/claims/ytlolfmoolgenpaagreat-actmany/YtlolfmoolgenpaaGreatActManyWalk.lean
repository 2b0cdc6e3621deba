import Derived.Test.YtlolfmoolgenpaaGreatActStart
import Derived.Test.YtlolfmoolgenpaaGreatActArgs
import Derived.Test.YtlolfmoolgenpaaGreatArgs
namespace Go.Proofs.YtlolfmoolgenpaaGreat
open Go.RowKit
set_option maxRecDepth 20000
theorem pick3 (z : Int) : ∃ K : Nat,(z.tmod 3 + 3).tmod 3 = (K : Int) /\ K < 3 /\ -3 < z.tmod 3 /\ z.tmod 3 < 3:=by
 have h1 : -3 < z.tmod 3:=Int.lt_tmod_of_pos z (by omega)
 have h3 : z.tmod 3 < 3:=Int.tmod_lt_of_pos z (by omega)
 have h4:=Int.emod_nonneg (z.tmod 3 + 3) (b:=3) (by omega)
 have h5:=Int.emod_lt_of_pos (z.tmod 3 + 3) (b:=3) (by omega)
 exact ⟨((z.tmod 3 + 3) % 3).toNat,by rw [Int.tmod_eq_emod_of_nonneg (by omega)];omega,by omega,h1,h3⟩
theorem rem3 (i : Nat) : ((i : Int).tmod 3) = ((i % 3 : Nat) : Int):=by
 rw [Int.tmod_eq_emod_of_nonneg (by omega)];rfl
set_option maxRecDepth 20000 in
set_option maxHeartbeats 400000000 in
theorem actMany_any (ao : Option Addr) (n cap : Nat) (A : Nat -> Xa) (ao2 : Option Addr) (T cap2 : Nat) (z : Nat -> Int) (w : World) (hA : XasAt w ao n A) (hF : ∀ i,i < n -> XaFit (A i)) (hr : IntsAt .i64 w ao2 T z) (hT : T <= 20000000000000) :
 Calls Tryz.prog 7 #[.slice ao n cap,.slice ao2 T cap2] w fun e w'=>e = .returned (.bool true) /\ Below w.heap.size w w':=by
 have HA : Hid (XasAt w ao n A):=hA
 have HFA : Hid (∀ i,i < n -> XaFit (A i)):=hF
 have HR : Hid (IntsAt .i64 w ao2 T z):=hr
 clear hA hF hr
 have ar:=fun w=>arena04_any good8 w
 have f1 : ∀ (a1 a2 a3 a4 : Value) (w : World),(Instr.field 40 (.agg #[a1,a2,a3,a4]) 1).run Tryz.prog w = .ok a2 w:=fun a1 a2 a3 a4 w=>by kernel_rfl
 have eqN : ∀ (w : World),(binOp .eql 45 (.pointer none) (.pointer none)).run Tryz.prog w = .ok (.bool true) w:=fun w=>by kernel_rfl
 have eqS : ∀ (w : World) (a : Addr),(binOp .eql 45 (.pointer (some a)) (.pointer none)).run Tryz.prog w = .ok (.bool false) w:=fun w a=>by kernel_rfl
 have neN : ∀ (w : World),(binOp .neq 45 (.pointer none) (.pointer none)).run Tryz.prog w = .ok (.bool false) w:=fun w=>by kernel_rfl
 go_enter Tryz.func7,Tryz.ntmps7
 go_wp2_with (first
  | (go_at_call 9;refine (ar _).mono ?_;rintro e w1 ⟨L,rfl,m1,b1,l1⟩;clear ar;obtain ⟨p1,pa⟩:=Hut.first good8 (by decide) m1 b1 l1;have eA:=At.new w1 27 [.int .i64 ((4 : Nat) : Int),.int .i64 ((8 : Nat) : Int),.int .i64 ((8 : Nat) : Int),.int .i64 ((40 : Nat) : Int),.int .i64 100,.int .i64 600,.int .i64 3,.pointer (some ⟨L.p,0,none⟩),.int .i64 0])
  | (go_at_call 10;refine (awake15_any _).mono ?_;rintro e w2 ⟨rfl,g2⟩;have p2:=p1.grown g2;have eA2:=eA.grown g2;clear p1 eA;obtain ⟨z0,z1,z2,z3,z4,z5,z6,z7,z8⟩:=p2.v)
  | (go_at_call 12;refine (many_make p2 pa (by decide)).mono ?_;rintro e w3 ⟨St,s3,σ3,io,vL,q3,rfl,hs3,m3,vl3,cl3,b3,o3⟩;have eA3:=eA2.only o3 pa.e;clear p2 eA2 z0 z1 z2 z3 z4 z5 z6 z7 z8)
  | (refine wpList_store_mid rfl 55 (.tmp 9) (.tmp 37) rfl (w3.heap.size + 1) 0 xsZ rfl rfl (there5 w3) (by kernel_rfl) (by simp [xsZ,Value.oneCell']) ?_;show wpList Tryz.prog _ _ _ _ (world5 w3);simp only [Act.put];obtain ⟨W5,hW5⟩ : ∃ W,world5 w3 = W:=⟨_,rfl⟩;rw [hW5]))
 have C0:=crew0 m3 vl3 ⟨_,eA3⟩ b3 pa.l0 pa.e pa.e0
 obtain ⟨E,hE⟩ : ∃ E,w1.heap.size = E:=⟨_,rfl⟩
 rw [hE] at C0 ⊢
 unfold world6 at C0
 rw [hW5] at C0
 have hn5 : W5.heap.size = w3.heap.size + 2:=by
  rw [<- hW5];unfold world5;rw [setCells_size,Go.Deep.nblk_alloc,Go.Deep.nblk_alloc]
 obtain ⟨Wb,hWb⟩ : ∃ Wb,w3.heap.size = Wb:=⟨_,rfl⟩
 rw [hWb] at C0 hn5 ⊢
 obtain ⟨Xb,hXb⟩ : ∃ Xb,Wb + 1 = Xb:=⟨_,rfl⟩
 rw [hXb] at C0 ⊢
 rw [show Wb + 3 = W5.heap.size + 1 by omega,show Wb + 2 = W5.heap.size by omega] at C0
 have HC0 : Hid (Crew w ((W5.alloc (.cells #[] 40)).alloc (.cells #[] 36)) L E Wb Xb W5.heap.size 0 (W5.heap.size + 1) 0 0 s3 σ3 q3 (fun _=>0) (fun _=>none) (fun _=>⟨0,0,0,0⟩) (fun _=>act0) []):=C0
 have HCW : Hid (Cw io vL q3 0 σ3 (fun _=>0) (fun _=>none) [] []):=Cw.first cl3 σ3
 have hs3' : Hid (σ3 <= 1500):=hs3
 clear C0 hE hWb hXb hn5 hW5 cl3 m3 vl3 b3 o3 eA3 pa m1 b1 l1 g2 hs3
 go_loopw [10,11,12,13] (fun nv av lv iv wr=>∃ (i nx b1 c1 b2 c2 : Nat) (who : Int) (s : Mm) (σ : Nat) (q : Q) (c : Int) (pn : Nat -> Int) (ps : Nat -> Option Th) (Bs : Nat -> Bk) (xs : Nat -> List Value) (D H : List He),nv = .int .i64 nx /\ av = .slice (some ⟨b1,0,none⟩) D.length c1 /\ lv = .slice (some ⟨b2,0,none⟩) D.length c2 /\ iv = .int .i64 i /\ i <= T + 400 /\ i <= 1500 /\ σ <= 1500 + i /\ D.length <= i /\ Crew w wr L E Wb Xb b1 c1 b2 c2 who s σ q pn ps Bs xs D /\ Cw io vL q c σ pn ps D H /\ Pot T (min n 40) i nx c ps) (fun _ _ _ iv _=>1500 - (intOf iv).toNat)
 case atStart=>exact ⟨0,0,_,_,_,_,_,_,_,_,_,_,_,_,_,_,_,rfl,rfl,rfl,rfl,by omega,by omega,by have:=hs3'.out;omega,Nat.le_refl _,HC0.out,HCW.out,Pot.first (by omega) _⟩
 case round =>
  clear HC0 HCW hs3'
  obtain ⟨i,nx,b1,c1,b2,c2,who,s,σ,q,c,pn,ps,Bs,xs,D,H,rfl,rfl,rfl,rfl,hi4,hi15,hσ,hDi,C,W,P⟩:=hrel
  have HC : Hid (Crew w wr L E Wb Xb b1 c1 b2 c2 who s σ q pn ps Bs xs D):=C
  have HW : Hid (Cw io vL q c σ pn ps D H):=W
  have HP : Hid (Pot T (min n 40) i nx c ps):=P
  clear C W P
  have hT' : (T : Int) <= 20000000000000:=by omega
  by_cases hr : i < T + 400 /\ i < 1500
  · obtain ⟨hr1,hr2⟩:=hr
    have hr1' : (i : Int) < (T : Int) + 400:=by omega
    have hr2' : (i : Int) < 1500:=by omega
    have hrem : ((i : Int).tmod 3) = ((i % 3 : Nat) : Int):=rem3 i
    by_cases hiT : i < T
    · have hiT' : (i : Int) < (T : Int):=by omega
      by_cases hi1 : i < 1000
      · have hi1' : (i : Int) < 1000:=by omega
        obtain ⟨zb,zo,rfl,hz0⟩:=HR.out i hiT
        have hz:=keep' HC.out.b hz0
        obtain ⟨K,hK1,hK3,hK4,hK5⟩:=pick3 (z i)
        clear hz0
        have hK3' : (K : Int) < 3:=by omega
        have hK3n : (K : Int) < ((3 : Nat) : Int):=by omega
        have hK0 : (0 : Int) <= (K : Int):=by omega
        obtain ⟨ce,ev⟩:=HC.out.v
        have e8:=ev.at0 8 rfl
        have ef:=ev.fz
        clear ev
        have C1:=HC.out.setWho (K : Int)
        have hp:=C1.ar.cell (i:=K) hK3
        have HC1 : Hid (Crew w (wr.setCell ⟨E,8,none⟩ (.int .i64 (K : Int))) L E Wb Xb b1 c1 b2 c2 (K : Int) s σ q pn ps Bs xs D):=C1
        clear C1 HC
        cases hps : ps K with
        | none =>
         rw [hps] at hp
         replace hp : (wr.setCell ⟨E,8,none⟩ (.int .i64 (K : Int))).cell? ⟨Wb,K,none⟩ = some (.pointer none):=hp
         have HPS : Hid (ps K = none):=hps
         clear hps
         by_cases hn1 : n <= nx
         · have hn1' : (n : Int) <= (nx : Int):=by omega
           go_wp2
           go_roundw
           case rel=>exact ⟨i + 1,nx,b1,c1,b2,c2,(K : Int),s,σ,q,c,pn,ps,Bs,xs,D,H,rfl,rfl,rfl,by go_num,by omega,by omega,by omega,by omega,HC1.out,HW.out,HP.out.skip (fun h=>by omega) (Or.inl (by omega))⟩
           case measure=>simp [intOf];omega
         · have hn1' : ¬ (n : Int) <= (nx : Int):=by omega
           by_cases hn4 : 40 <= nx
           · have hn4' : (40 : Int) <= (nx : Int):=by omega
             go_wp2
             go_roundw
             case rel=>exact ⟨i + 1,nx,b1,c1,b2,c2,(K : Int),s,σ,q,c,pn,ps,Bs,xs,D,H,rfl,rfl,rfl,by go_num,by omega,by omega,by omega,by omega,HC1.out,HW.out,HP.out.skip (fun h=>by omega) (Or.inl (by omega))⟩
             case measure=>simp [intOf];omega
           · have hn4' : ¬ (40 : Int) <= (nx : Int):=by omega
             obtain ⟨lb,lo,rfl,a0,-,-,-,a4,a5,-⟩:=HA.out nx (by omega)
             obtain ⟨ka,hka⟩ : ∃ x,(A nx).kd = x:=⟨_,rfl⟩
             obtain ⟨va,hva⟩ : ∃ x,(A nx).vl = x:=⟨_,rfl⟩
             obtain ⟨oa,hoa⟩ : ∃ x,(A nx).ol = x:=⟨_,rfl⟩
             rw [hka] at a0
             rw [hva] at a4
             rw [hoa] at a5
             clear hka hva hoa
             obtain ⟨K2,hk1,hk3,hk4,hk5⟩:=pick3 ka
             obtain ⟨y1,hy1,hy1'⟩:=low0 va 7 3 (by decide) (by decide)
             obtain ⟨y2,hy2,hy2'⟩:=low0 oa 7 3 (by decide) (by decide)
             have hy1 : bits .and .i64 va 7 = (y1 : Int):=hy1
             have hy2 : bits .and .i64 oa 7 = (y2 : Int):=hy2
             have hy1l : y1 < 8:=by omega
             have hy2l : y2 < 8:=by omega
             have hnx : (nx : Int) < (n : Int):=by omega
             go_wp2
             refine wp_over (fun W=>Crew w W L E Wb Xb b1 c1 b2 c2 (K : Int) s σ q pn ps Bs xs D) HC1.out ?_
             clear HC1 hp e8 ef hz
             intro W C
             have HCx : Hid (Crew w W L E Wb Xb b1 c1 b2 c2 (K : Int) s σ q pn ps Bs xs D):=C
             have hl0 : W.drew.cell? ⟨lb,lo + nx * 7,none⟩ = some (.int .i64 ka):=keep' C.drew.b a0
             have hl4 : W.drew.cell? ⟨lb,lo + nx * 7 + 4,none⟩ = some (.int .i64 va):=keep' C.drew.b a4
             have hl5 : W.drew.cell? ⟨lb,lo + nx * 7 + 5,none⟩ = some (.int .i64 oa):=keep' C.drew.b a5
             clear C a0 a4 a5
             refine wp_region_rely_tail Grown 26 [.val (.int .i64 (K : Int)),.val (.slice (some ⟨lb,lo,none⟩) n cap),.val (.int .i64 (nx : Int)),.val (.pointer (some ⟨lb,lo + nx * 7,none⟩)),.val (.pointer (some ⟨lb,lo + nx * 7,none⟩)),.val (.int .i64 ka),.val (.int .i64 (ka.tmod 3)),.val (.int .i64 (ka.tmod 3 + 3)),.val (.int .i64 (K2 : Int)),.val (.int .i64 (3 + (K2 : Int))),.val (.int .u64 65536),.val (.slice (some ⟨lb,lo,none⟩) n cap),.val (.int .i64 (nx : Int)),.val (.pointer (some ⟨lb,lo + nx * 7,none⟩)),.val (.pointer (some ⟨lb,lo + nx * 7 + 4,none⟩)),.val (.int .i64 va),.val (.int .i64 (y1 : Int)),.val (.int .i64 (1 + (y1 : Int))),.val (.slice (some ⟨lb,lo,none⟩) n cap),.val (.int .i64 (nx : Int)),.val (.pointer (some ⟨lb,lo + nx * 7,none⟩)),.val (.pointer (some ⟨lb,lo + nx * 7 + 5,none⟩)),.val (.int .i64 oa),.val (.int .i64 (y2 : Int)),.val (.agg #[.int .i64 (3 + (K2 : Int)),.int .i64 0,.int .u64 65536,.int .i64 0,.int .i64 (1 + (y1 : Int)),.int .i64 (y2 : Int),.bool false]),.val (.pointer (some ⟨Xb,K * 7,none⟩))] (by kernel_rfl) Grown.refl Grown.trans (by decide) (by kernel_rfl) (by kernel_rfl) (by kernel_rfl) (by kernel_rfl) (by kernel_rfl) (by kernel_rfl) ?_
             simp only [List.take_succ_cons,List.take_zero,relyAll,Act.put,List.setIfInBounds_toArray,List.set_cons_zero,List.set_cons_succ]
             refine ⟨?_,?_,?_,?_,?_,?_,?_,?_,?_,?_,?_,?_,?_,?_,?_,?_,?_,?_,?_,?_,?_,?_,?_,?_,?_,?_,?_⟩
             · intros;apply ol;go_simp;exact gl
             · intros;apply ol;go_simp;exact gl
             · intros;apply ol;go_simp;exact gl
             · intro w' hg _
               apply ol
               have hb : (0 : Int) <= (nx : Int):=by omega
               go_simp
               exact gl
             · intros;apply ol;go_simp;exact gl
             · intro w' hg _
               apply ol
               have z:=keep' hg hl0
               go_simp
               exact gl
             · intros;apply ol;go_simp;exact gl
             · intro w' hg _
               apply ol
               go_simp
               refine ⟨Grown.refl _,?_⟩
               show Value.int .i64 (IntKind.i64.wrap (ka.tmod 3 + 3)) = .int .i64 (ka.tmod 3 + 3)
               rw [show IntKind.i64.wrap (ka.tmod 3 + 3) = (ka.tmod 3 + 3) by rw [IntKind.wrap_i64];omega]
             · intros;apply ol;go_simp;exact gl
             · intro w' hg _
               apply ol
               go_simp
               refine ⟨Grown.refl _,?_⟩
               show Value.int .i64 (IntKind.i64.wrap (3 + (K2 : Int))) = .int .i64 (3 + (K2 : Int))
               rw [show IntKind.i64.wrap (3 + (K2 : Int)) = (3 + (K2 : Int)) by rw [IntKind.wrap_i64];omega]
             · intros;apply ol;go_simp;exact gl
             · intros;apply ol;go_simp;exact gl
             · intros;apply ol;go_simp;exact gl
             · intro w' hg _
               apply ol
               have hb : (0 : Int) <= (nx : Int):=by omega
               go_simp
               exact gl
             · intros;apply ol;go_simp;exact gl
             · intro w' hg _
               apply ol
               have z:=keep' hg hl4
               go_simp
               exact gl
             · intros;apply ol;go_simp;exact gl
             · intro w' hg _
               apply ol
               go_simp
               refine ⟨Grown.refl _,?_⟩
               show Value.int .i64 (IntKind.i64.wrap (1 + (y1 : Int))) = .int .i64 (1 + (y1 : Int))
               rw [show IntKind.i64.wrap (1 + (y1 : Int)) = (1 + (y1 : Int)) by rw [IntKind.wrap_i64];omega]
             · intros;apply ol;go_simp;exact gl
             · intros;apply ol;go_simp;exact gl
             · intro w' hg _
               apply ol
               have hb : (0 : Int) <= (nx : Int):=by omega
               go_simp
               exact gl
             · intros;apply ol;go_simp;exact gl
             · intro w' hg _
               apply ol
               have z:=keep' hg hl5
               go_simp
               exact gl
             · intros;apply ol;go_simp;exact gl
             · intros;apply ol;go_simp;exact gl
             · intro w' hg _
               apply ol
               have hb : (0 : Int) <= (K : Int):=by omega
               go_simp
               exact gl
             intro w5 hg _
             have C5:=HCx.out.drew.grown hg
             clear HCx hg hl0 hl4 hl5
             refine wpList_store_mid rfl 36 (.tmp 113) (.tmp 112) rfl Xb (K * 7) #[.int .i64 (3 + (K2 : Int)),.int .i64 0,.int .u64 65536,.int .i64 0,.int .i64 (1 + (y1 : Int)),.int .i64 (y2 : Int),.bool false] rfl rfl (C5.xr.there hK3) (by kernel_rfl) (by simp [Value.oneCell']) ?_
             have C6:=C5.setX hK3 HPS.out (e:=[.int .i64 (3 + (K2 : Int)),.int .i64 0,.int .u64 65536,.int .i64 0,.int .i64 (1 + (y1 : Int)),.int .i64 (y2 : Int),.bool false]) rfl
             have hxs : upd xs K [.int .i64 (3 + (K2 : Int)),.int .i64 0,.int .u64 65536,.int .i64 0,.int .i64 (1 + (y1 : Int)),.int .i64 (y2 : Int),.bool false] K = [.int .i64 (3 + (K2 : Int)),.int .i64 0,.int .u64 65536,.int .i64 0,.int .i64 (1 + (y1 : Int)),.int .i64 (y2 : Int),.bool false]:=upd_same _ _ _
             obtain ⟨xs2,hxs2⟩ : ∃ x,upd xs K [.int .i64 (3 + (K2 : Int)),.int .i64 0,.int .u64 65536,.int .i64 0,.int .i64 (1 + (y1 : Int)),.int .i64 (y2 : Int),.bool false] = x:=⟨_,rfl⟩
             rw [hxs2] at C6 hxs
             clear C5 hxs2
             show wpList Tryz.prog _ _ _ _ (w5.setCells Xb (K * 7) [.int .i64 (3 + (K2 : Int)),.int .i64 0,.int .u64 65536,.int .i64 0,.int .i64 (1 + (y1 : Int)),.int .i64 (y2 : Int),.bool false])
             generalize w5.setCells Xb (K * 7) [.int .i64 (3 + (K2 : Int)),.int .i64 0,.int .u64 65536,.int .i64 0,.int .i64 (1 + (y1 : Int)),.int .i64 (y2 : Int),.bool false] = w6 at C6 ⊢
             have hx0 : w6.cell? ⟨Xb,K * 7,none⟩ = some (.int .i64 (3 + (K2 : Int))):=C6.xr.cell (a:=K) (j:=0) hK3 (by rw [hxs];rfl)
             have hx1 : w6.cell? ⟨Xb,K * 7 + 1,none⟩ = some (.int .i64 0):=C6.xr.cell (a:=K) (j:=1) hK3 (by rw [hxs];rfl)
             have hx2 : w6.cell? ⟨Xb,K * 7 + 2,none⟩ = some (.int .u64 65536):=C6.xr.cell (a:=K) (j:=2) hK3 (by rw [hxs];rfl)
             have hx3 : w6.cell? ⟨Xb,K * 7 + 3,none⟩ = some (.int .i64 0):=C6.xr.cell (a:=K) (j:=3) hK3 (by rw [hxs];rfl)
             have hx4 : w6.cell? ⟨Xb,K * 7 + 4,none⟩ = some (.int .i64 (1 + (y1 : Int))):=C6.xr.cell (a:=K) (j:=4) hK3 (by rw [hxs];rfl)
             have hx5 : w6.cell? ⟨Xb,K * 7 + 5,none⟩ = some (.int .i64 (y2 : Int)):=C6.xr.cell (a:=K) (j:=5) hK3 (by rw [hxs];rfl)
             have hx6 : w6.cell? ⟨Xb,K * 7 + 6,none⟩ = some (.bool false):=C6.xr.cell (a:=K) (j:=6) hK3 (by rw [hxs];rfl)
             have HXS : Hid (xs2 K = actC (⟨(3 + (K2 : Int)) - 2,65536,0,(1 + (y1 : Int)),(y2 : Int)⟩ : Wt)):=by unfold Hid;rw [hxs,act8]
             have HC6 : Hid (Crew w w6 L E Wb Xb b1 c1 b2 c2 (K : Int) s σ q pn ps Bs xs2 D):=C6
             have NEW:=new8 hk3 hy1l hy2l C6.mm σ q pn
             have HFT : Hid (Wt.fit (⟨(3 + (K2 : Int)) - 2,65536,0,(1 + (y1 : Int)),(y2 : Int)⟩ : Wt)):=fit8 hk3 hy1l hy2l
             clear C6 hxs
             simp only [Act.put]
             go_wp2_with (go_at_call 14;refine NEW.mono ?_;rintro e w8 ⟨B,rfl,g8,hB,th8⟩;have C8:=HC6.out.grown g8;have pz:=C8.ar.cell (i:=K) hK3;have pf:=C8.ar.frozen K)
             have C9:=HC6.out.begin HPS.out g8 hB th8 HXS.out (th8.blt (by show 0 <= 2;omega))
             refine wp_over (fun W=>Crew w W L E Wb Xb b1 c1 b2 c2 (K : Int) s σ q pn (upd ps K (some ⟨(⟨(3 + (K2 : Int)) - 2,65536,0,(1 + (y1 : Int)),(y2 : Int)⟩ : Wt),0,.see⟩)) (upd Bs K B) xs2 D) C9 ?_
             clear C9 C8 pz pf g8 hB th8 HC6 NEW hx0 hx1 hx2 hx3 hx4 hx5 hx6 HXS
             intro W C
             have hR:=rk_start c HPS.out hK3 (⟨(3 + (K2 : Int)) - 2,65536,0,(1 + (y1 : Int)),(y2 : Int)⟩ : Wt)
             have W1:=HW.out.start hK3 HPS.out HFT.out
             obtain ⟨ps2,Bs2,t2,hps2,C2,W2,P2⟩ : ∃ (ps2 : Nat -> Option Th) (Bs2 : Nat -> Bk) (t2 : Th),ps2 K = some t2 /\ Crew w W L E Wb Xb b1 c1 b2 c2 (K : Int) s σ q pn ps2 Bs2 xs2 D /\ Cw io vL q c σ pn ps2 D H /\ (∀ c' ps',rkA c' ps' + 1 <= rkA c ps2 -> Pot T (min n 40) (i + 1) (nx + 1) c' ps'):=⟨_,_,_,upd_same _ _ _,C,W1,fun _ _ h=>HP.out.start (by omega) hiT hi1 hR h⟩
             have HPS2 : Hid (ps2 K = some t2):=hps2
             have HCx : Hid (Crew w W L E Wb Xb b1 c1 b2 c2 (K : Int) s σ q pn ps2 Bs2 xs2 D):=C2
             have HW2 : Hid (Cw io vL q c σ pn ps2 D H):=W2
             have HPOT : Hid (∀ c' ps',rkA c' ps' + 1 <= rkA c ps2 -> Pot T (min n 40) (i + 1) (nx + 1) c' ps'):=P2
             clear hps2 C2 W2 P2 C HW HP HPS hR W1 HFT hk1 hy1 hy2
             obtain ⟨hn,q',c',pn',t',H',hturn,htW,KEY⟩:=HW2.out.step hK3 HPS2.out
             have p5 : t2.ph ≠ 5:=by have:=(HW2.out.th K t2 HPS2.out).p4;omega
             have ST:=fun (w1 : World) (C1 : Crew w w1 L E Wb Xb b1 c1 b2 c2 (K : Int) s σ q pn ps2 Bs2 xs2 D)=>C1.step hK3 HPS2.out (by omega) HW2.out.s.sc.wd p5 hn hturn htW
             have HKEY : Hid ((t'.ph ≠ 5 /\ Cw io vL q' c' (σ + 1) pn' (upd ps2 K (some t')) D H' /\ rkA c' (upd ps2 K (some t')) + 1 <= rkA c ps2) \/ (t'.ph = 5 /\ ∃ E V st,t'.α = .over E V st /\ Cw io vL q' c' (σ + 1) pn' (upd ps2 K none) (D ++ [⟨t2.W,E,V,st⟩]) H' /\ rkA c' (upd ps2 K none) + 1 <= rkA c ps2)):=KEY
             have HTW : Hid (t'.W = t2.W):=htW
             clear KEY hn hturn htW p5
             refine wp_region_rely_tail Grown 4 [.val (.int .i64 (K : Int)),.val (.pointer (some ⟨Wb,K,none⟩)),.val (.pointer (some ⟨(Bs2 K).A,0,none⟩)),.val (.agg #[.int .i64 ((4 : Nat) : Int),.int .i64 ((8 : Nat) : Int),.int .i64 ((8 : Nat) : Int),.int .i64 ((40 : Nat) : Int),.int .i64 100,.int .i64 600,.int .i64 3,.pointer (some ⟨L.p,0,none⟩),.int .i64 (K : Int)])] (by kernel_rfl) Grown.refl Grown.trans (by decide) (by kernel_rfl) (by kernel_rfl) (by kernel_rfl) (by kernel_rfl) (by kernel_rfl) (by kernel_rfl) ?_
             simp only [List.take_succ_cons,List.take_zero,relyAll,Act.put,List.setIfInBounds_toArray,List.set_cons_zero,List.set_cons_succ]
             refine ⟨?_,?_,?_,?_,?_⟩
             · intros;apply ol;go_simp;exact gl
             · intro w' hg _
               apply ol
               have hb : (0 : Int) <= (K : Int):=by omega
               go_simp
               exact gl
             · intro w' hg _
               apply ol
               have z:=(HCx.out.drew.grown hg).ar.cell (i:=K) hK3
               rw [HPS2.out] at z
               simp only [ptrB] at z
               go_simp
               exact gl
             · intro w' hg _
               apply ol
               obtain ⟨ce,vv⟩:=(HCx.out.drew.grown hg).v
               have y0:=vv.at0 0 rfl
               have y1:=vv.at0 1 rfl
               have y2:=vv.at0 2 rfl
               have y3:=vv.at0 3 rfl
               have y4:=vv.at0 4 rfl
               have y5:=vv.at0 5 rfl
               have y6:=vv.at0 6 rfl
               have y7:=vv.at0 7 rfl
               have y8:=vv.at0 8 rfl
               go_simp
               exact gl
             intro w5 hg _
             have C5:=HCx.out.drew.grown hg
             clear HCx hg
             rcases HKEY.out with ⟨h5,CW',rk⟩ | ⟨h5,E',V,st,hα,CW',rk⟩
             · have hd : (t'.ph == 5) = false:=by simpa using h5
               rw [hd] at ST
               have HQ : Hid (Cw io vL q' c' (σ + 1) pn' (upd ps2 K (some t')) D H'):=CW'
               have HP2 : Hid (Pot T (min n 40) (i + 1) (nx + 1) c' (upd ps2 K (some t'))):=HPOT.out c' _ rk
               clear CW' rk HKEY h5 hd
               go_wp2_with (go_at_call 18;refine (ST _ C5).mono ?_;rintro e w6 ⟨rfl,s6,C6⟩)
               go_roundw
               case rel=>exact ⟨i + 1,nx + 1,b1,c1,b2,c2,(K : Int),s6,σ + 1,q',c',pn',upd ps2 K (some t'),Bs2,xs2,D,H',by go_num,rfl,rfl,by go_num,by omega,by omega,by omega,by omega,C6,HQ.out,HP2.out⟩
               case measure=>simp [intOf];omega
             · have hd : (t'.ph == 5) = true:=by rw [h5];rfl
               rw [hd] at ST
               have HQ : Hid (Cw io vL q' c' (σ + 1) pn' (upd ps2 K none) (D ++ [⟨t2.W,E',V,st⟩]) H'):=CW'
               have HP2 : Hid (Pot T (min n 40) (i + 1) (nx + 1) c' (upd ps2 K none)):=HPOT.out c' _ rk
               have HP5 : Hid (t'.ph = 5):=h5
               have HAL : Hid (t'.α = .over E' V st):=hα
               clear CW' rk HKEY h5 hα hd
               go_wp2_with (go_at_call 18;refine (ST _ C5).mono ?_;rintro e w6 ⟨rfl,s6,C6⟩)
               refine wp_over (fun W6=>Crew w W6 L E Wb Xb b1 c1 b2 c2 (K : Int) s6 (σ + 1) q' pn' (upd ps2 K (some t')) Bs2 xs2 D) C6 ?_
               clear C6 C5 ST
               intro W6 C6
               have HC6 : Hid (Crew w W6 L E Wb Xb b1 c1 b2 c2 (K : Int) s6 (σ + 1) q' pn' (upd ps2 K (some t')) Bs2 xs2 D):=C6
               have hps6 : upd ps2 K (some t') K = some t':=upd_same _ _ _
               have hwc0:=C6.ar.cell (i:=K) hK3
               rw [hps6] at hwc0
               have hwc : W6.cell? ⟨Wb,K,none⟩ = some (.pointer (some ⟨(Bs2 K).A,0,none⟩)):=hwc0
               have hxw:=C6.xw K t' hps6
               rw [HTW.out] at hxw
               have hx0 : W6.cell? ⟨Xb,K * 7,none⟩ = some (.int .i64 (t2.W.kd + 2)):=C6.xr.cell (a:=K) (j:=0) hK3 (by rw [hxw];rfl)
               have hx1 : W6.cell? ⟨Xb,K * 7 + 1,none⟩ = some (.int .i64 0):=C6.xr.cell (a:=K) (j:=1) hK3 (by rw [hxw];rfl)
               have hx2 : W6.cell? ⟨Xb,K * 7 + 2,none⟩ = some (.int .u64 t2.W.nu):=C6.xr.cell (a:=K) (j:=2) hK3 (by rw [hxw];rfl)
               have hx3 : W6.cell? ⟨Xb,K * 7 + 3,none⟩ = some (.int .i64 0):=C6.xr.cell (a:=K) (j:=3) hK3 (by rw [hxw];rfl)
               have hx4 : W6.cell? ⟨Xb,K * 7 + 4,none⟩ = some (.int .i64 t2.W.vl):=C6.xr.cell (a:=K) (j:=4) hK3 (by rw [hxw];rfl)
               have hx5 : W6.cell? ⟨Xb,K * 7 + 5,none⟩ = some (.int .i64 t2.W.ol):=C6.xr.cell (a:=K) (j:=5) hK3 (by rw [hxw];rfl)
               have hx6 : W6.cell? ⟨Xb,K * 7 + 6,none⟩ = some (.bool false):=C6.xr.cell (a:=K) (j:=6) hK3 (by rw [hxw];rfl)
               have HTH : Hid (ThAt 4 8 8 40 W6.drew L (Bs2 K) 0 (t'.as (σ + 1) q' pn')):=C6.drew.th K t' hps6
               obtain ⟨Bz,hBz⟩ : ∃ Z,W6.heap.size = Z:=⟨_,rfl⟩
               have hf2 : ∀ a,a < 2 -> Two.b (⟨two b1 b2,two c1 c2,two (D.map He.dn) (D.map He.ac),two (He.dn ⟨t2.W,E',V,st⟩) (He.ac ⟨t2.W,E',V,st⟩),Bz⟩ : Two) a < Bz:=by
                intro a ha
                have : a = 0 \/ a = 1:=by omega
                rcases this with rfl | rfl
                · rw [<- hBz];exact C6.r1.lt
                · rw [<- hBz];exact C6.r2.lt
               have h12 : b1 ≠ b2:=fun e=>by have:=C6.ap 4 5 b1 rfl e;omega
               have hne0 : ∀ a',a' < 2 -> a' ≠ 0 -> Two.b (⟨two b1 b2,two c1 c2,two (D.map He.dn) (D.map He.ac),two (He.dn ⟨t2.W,E',V,st⟩) (He.ac ⟨t2.W,E',V,st⟩),Bz⟩ : Two) a' ≠ Two.b (⟨two b1 b2,two c1 c2,two (D.map He.dn) (D.map He.ac),two (He.dn ⟨t2.W,E',V,st⟩) (He.ac ⟨t2.W,E',V,st⟩),Bz⟩ : Two) 0:=fun a' h1 h2=>by
                obtain rfl : a' = 1:=by omega
                exact h12.symm
               have hne1 : ∀ a',a' < 2 -> a' ≠ 1 -> Two.b (⟨two b1 b2,two c1 c2,two (D.map He.dn) (D.map He.ac),two (He.dn ⟨t2.W,E',V,st⟩) (He.ac ⟨t2.W,E',V,st⟩),Bz⟩ : Two) a' ≠ Two.b (⟨two b1 b2,two c1 c2,two (D.map He.dn) (D.map He.ac),two (He.dn ⟨t2.W,E',V,st⟩) (He.ac ⟨t2.W,E',V,st⟩),Bz⟩ : Two) 1:=fun a' h1 h2=>by
                obtain rfl : a' = 0:=by omega
                exact h12
               have hasG : ∀ b,Two.has (⟨two b1 b2,two c1 c2,two (D.map He.dn) (D.map He.ac),two (He.dn ⟨t2.W,E',V,st⟩) (He.ac ⟨t2.W,E',V,st⟩),Bz⟩ : Two) b -> b = b1 \/ b = b2:=by
                rintro b ⟨a,ha,e⟩
                have : a = 0 \/ a = 1:=by omega
                rcases this with rfl | rfl
                · exact Or.inl e
                · exact Or.inr e
               have nWb : ¬ Two.has (⟨two b1 b2,two c1 c2,two (D.map He.dn) (D.map He.ac),two (He.dn ⟨t2.W,E',V,st⟩) (He.ac ⟨t2.W,E',V,st⟩),Bz⟩ : Two) Wb:=fun h=>by
                rcases hasG _ h with e | e
                · have:=C6.ap 2 4 Wb rfl e;omega
                · have:=C6.ap 2 5 Wb rfl e;omega
               have nXb : ¬ Two.has (⟨two b1 b2,two c1 c2,two (D.map He.dn) (D.map He.ac),two (He.dn ⟨t2.W,E',V,st⟩) (He.ac ⟨t2.W,E',V,st⟩),Bz⟩ : Two) Xb:=fun h=>by
                rcases hasG _ h with e | e
                · have:=C6.ap 3 4 Xb rfl e;omega
                · have:=C6.ap 3 5 Xb rfl e;omega
               have HNB : Hid (∀ x,(Bs2 K).has x -> ¬ Two.has (⟨two b1 b2,two c1 c2,two (D.map He.dn) (D.map He.ac),two (He.dn ⟨t2.W,E',V,st⟩) (He.ac ⟨t2.W,E',V,st⟩),Bz⟩ : Two) x):=fun x hx h=>by
                have hp : Pt L E Wb Xb b1 b2 (upd ps2 K (some t')) Bs2 (K + 6) x:=⟨by rw [hps6];simp,hx⟩
                rcases hasG _ h with e | e
                · have:=C6.ap (K + 6) 4 x hp e;omega
                · have:=C6.ap (K + 6) 5 x hp e;omega
               have HRW0 : Hid (Rz W6.drew (twoT 0) (twoZ 0) (Two.b (⟨two b1 b2,two c1 c2,two (D.map He.dn) (D.map He.ac),two (He.dn ⟨t2.W,E',V,st⟩) (He.ac ⟨t2.W,E',V,st⟩),Bz⟩ : Two) 0) (Two.c (⟨two b1 b2,two c1 c2,two (D.map He.dn) (D.map He.ac),two (He.dn ⟨t2.W,E',V,st⟩) (He.ac ⟨t2.W,E',V,st⟩),Bz⟩ : Two) 0) (Two.l (⟨two b1 b2,two c1 c2,two (D.map He.dn) (D.map He.ac),two (He.dn ⟨t2.W,E',V,st⟩) (He.ac ⟨t2.W,E',V,st⟩),Bz⟩ : Two) 0)):=C6.drew.r1
               have HRW1 : Hid (Rz W6.drew (twoT 1) (twoZ 1) (Two.b (⟨two b1 b2,two c1 c2,two (D.map He.dn) (D.map He.ac),two (He.dn ⟨t2.W,E',V,st⟩) (He.ac ⟨t2.W,E',V,st⟩),Bz⟩ : Two) 1) (Two.c (⟨two b1 b2,two c1 c2,two (D.map He.dn) (D.map He.ac),two (He.dn ⟨t2.W,E',V,st⟩) (He.ac ⟨t2.W,E',V,st⟩),Bz⟩ : Two) 1) (Two.l (⟨two b1 b2,two c1 c2,two (D.map He.dn) (D.map He.ac),two (He.dn ⟨t2.W,E',V,st⟩) (He.ac ⟨t2.W,E',V,st⟩),Bz⟩ : Two) 1)):=C6.drew.r2
               have HCd : Hid (Crew w W6.drew L E Wb Xb b1 c1 b2 c2 (K : Int) s6 (σ + 1) q' pn' (upd ps2 K (some t')) Bs2 xs2 D):=C6.drew
               have hBd : W6.drew.heap.size = Bz:=hBz
               clear C6 HC6 hasG hwc0 hxw h12 hps6
               refine wp_region_relyX_tail (KeepT (⟨two b1 b2,two c1 c2,two (D.map He.dn) (D.map He.ac),two (He.dn ⟨t2.W,E',V,st⟩) (He.ac ⟨t2.W,E',V,st⟩),Bz⟩ : Two)) anyJ 13 [.val (.slice (some ⟨b1,0,none⟩) D.length c1),.val (.int .i64 (K : Int)),.val (.pointer (some ⟨Wb,K,none⟩)),.val (.pointer (some ⟨(Bs2 K).A,0,none⟩)),.val (.agg #[.int .i64 E',.int .u64 0,.int .i64 V,.int .i64 (st : Int)]),.that (Two.boxd (⟨two b1 b2,two c1 c2,two (D.map He.dn) (D.map He.ac),two (He.dn ⟨t2.W,E',V,st⟩) (He.ac ⟨t2.W,E',V,st⟩),Bz⟩ : Two) 0) (Two.boxd_stays hf2),.that (Two.grew (⟨two b1 b2,two c1 c2,two (D.map He.dn) (D.map He.ac),two (He.dn ⟨t2.W,E',V,st⟩) (He.ac ⟨t2.W,E',V,st⟩),Bz⟩ : Two) 0) (Two.grew_stays (by decide) hf2),.val (.slice (some ⟨b2,0,none⟩) D.length c2),.val (.int .i64 (K : Int)),.val (.pointer (some ⟨Xb,K * 7,none⟩)),.val (.agg #[.int .i64 (t2.W.kd + 2),.int .i64 0,.int .u64 t2.W.nu,.int .i64 0,.int .i64 t2.W.vl,.int .i64 t2.W.ol,.bool false]),.that (Two.boxd (⟨two b1 b2,two c1 c2,two (D.map He.dn) (D.map He.ac),two (He.dn ⟨t2.W,E',V,st⟩) (He.ac ⟨t2.W,E',V,st⟩),Bz⟩ : Two) 1) (Two.boxd_stays hf2),.that (Two.grew (⟨two b1 b2,two c1 c2,two (D.map He.dn) (D.map He.ac),two (He.dn ⟨t2.W,E',V,st⟩) (He.ac ⟨t2.W,E',V,st⟩),Bz⟩ : Two) 1) (Two.grew_stays (by decide) hf2)] (by kernel_rfl) KeepT.refl KeepT.trans (by decide) (by kernel_rfl) (by kernel_rfl) (by kernel_rfl) (by kernel_rfl) (by kernel_rfl) (by kernel_rfl) trivial ?_
               simp only [List.take_succ_cons,List.take_zero,relyAllX,Act.put,List.setIfInBounds_toArray,List.set_cons_zero,List.set_cons_succ]
               refine ⟨?_,?_,?_,?_,?_,?_,fun v5=>⟨?_,fun v6=>⟨?_,?_,?_,?_,?_,fun v11=>⟨?_,fun v12=>?_⟩⟩⟩⟩
               · intro w' l hg hf hJ hl hp
                 apply ol
                 go_simp
                 exact ⟨KeepT.refl _,rfl,trivial⟩
               · intro w' l hg hf hJ hl hp
                 apply ol
                 go_simp
                 exact ⟨KeepT.refl _,rfl,trivial⟩
               · intro w' l hg hf hJ hl hp
                 apply ol
                 have hb : (0 : Int) <= (K : Int):=by omega
                 go_simp
                 exact ⟨KeepT.refl _,rfl,trivial⟩
               · intro w' l hg hf hJ hl hp
                 apply ol
                 have z:=hg.only.keep (b:=Wb) nWb hwc
                 go_simp
                 exact ⟨KeepT.refl _,rfl,trivial⟩
               · intro w' l hg hf hJ hl hp
                 apply ol
                 have tK:=HTH.out.only hg.only HNB.out
                 go_simp
                 refine (th_done tK HP5.out HAL.out).mono ?_
                 rintro e w'' ⟨rfl,b9⟩
                 exact ⟨_,rfl,KeepT.grown b9,rfl,trivial⟩
               · intro w' l hg hf hJ hl hp
                 apply ol
                 have hz : Bz <= w'.heap.size:=by have:=hg.only.size;have e : W6.drew.heap.size = W6.heap.size:=rfl;omega
                 have hN:=At.new w' 40 [.int .i64 E',.int .u64 0,.int .i64 V,.int .i64 (st : Int)]
                 go_simp
                 exact ⟨KeepT.grown (grow_alloc (Below.refl _ _) _),⟨_,rfl,hz,fun j u hu=>hN.at0 j hu⟩,trivial⟩
               · intro w' l hg hf hJ hl hp
                 apply ol
                 have hz : Bz <= w'.heap.size:=by have:=hg.only.size;have e : W6.drew.heap.size = W6.heap.size:=rfl;omega
                 have f0:=hf.1 (by kernel_rfl)
                 clear hf
                 obtain ⟨v',w4',hrun,hk,hgr⟩:=Two.app (F:=(⟨two b1 b2,two c1 c2,two (D.map He.dn) (D.map He.ac),two (He.dn ⟨t2.W,E',V,st⟩) (He.ac ⟨t2.W,E',V,st⟩),Bz⟩ : Two)) (a:=0) (by decide) hne0 Tryz.underlying56 Tryz.infoZ40 rfl (by decide) (by decide) HRW0.out hg f0 rfl (by intro u hu;simp only [two,He.dn,List.mem_cons,List.not_mem_nil,or_false] at hu;rcases hu with rfl | rfl | rfl | rfl <;> rfl) (by show (D.map He.dn).length <= 5000;simp;omega) hz 56 rfl rfl (by show (D.map He.dn).length = D.length;simp)
                 exact rely_append3 (.tmp 130) (.tmp 135) rfl rfl rfl hrun hk ⟨hgr,trivial⟩
               · intro w' l hg hf hJ hl hp
                 apply ol
                 go_simp
                 exact ⟨KeepT.refl _,rfl,trivial⟩
               · intro w' l hg hf hJ hl hp
                 apply ol
                 go_simp
                 exact ⟨KeepT.refl _,rfl,trivial⟩
               · intro w' l hg hf hJ hl hp
                 apply ol
                 have hb : (0 : Int) <= (K : Int):=by omega
                 go_simp
                 exact ⟨KeepT.refl _,rfl,trivial⟩
               · intro w' l hg hf hJ hl hp
                 apply ol
                 have z0:=hg.only.keep (b:=Xb) nXb hx0
                 have z1:=hg.only.keep (b:=Xb) nXb hx1
                 have z2:=hg.only.keep (b:=Xb) nXb hx2
                 have z3:=hg.only.keep (b:=Xb) nXb hx3
                 have z4:=hg.only.keep (b:=Xb) nXb hx4
                 have z5:=hg.only.keep (b:=Xb) nXb hx5
                 have z6:=hg.only.keep (b:=Xb) nXb hx6
                 go_simp
                 exact ⟨KeepT.refl _,rfl,trivial⟩
               · intro w' l hg hf hJ hl hp
                 apply ol
                 have hz : Bz <= w'.heap.size:=by have:=hg.only.size;have e : W6.drew.heap.size = W6.heap.size:=rfl;omega
                 have hN:=At.new w' 36 [.int .i64 (t2.W.kd + 2),.int .i64 0,.int .u64 t2.W.nu,.int .i64 0,.int .i64 t2.W.vl,.int .i64 t2.W.ol,.bool false]
                 go_simp
                 exact ⟨KeepT.grown (grow_alloc (Below.refl _ _) _),⟨_,rfl,hz,fun j u hu=>hN.at0 j hu⟩,trivial⟩
               · intro w' l hg hf hJ hl hp
                 apply ol
                 have hz : Bz <= w'.heap.size:=by have:=hg.only.size;have e : W6.drew.heap.size = W6.heap.size:=rfl;omega
                 have f0:=hf.1 (by kernel_rfl)
                 clear hf
                 obtain ⟨v',w4',hrun,hk,hgr⟩:=Two.app (F:=(⟨two b1 b2,two c1 c2,two (D.map He.dn) (D.map He.ac),two (He.dn ⟨t2.W,E',V,st⟩) (He.ac ⟨t2.W,E',V,st⟩),Bz⟩ : Two)) (a:=1) (by decide) hne1 Tryz.underlying22 Tryz.infoZ36 rfl (by decide) (by decide) HRW1.out hg f0 rfl (by intro u hu;simp only [two,He.ac,actC,List.mem_cons,List.not_mem_nil,or_false] at hu;rcases hu with rfl | rfl | rfl | rfl | rfl | rfl | rfl <;> rfl) (by show (D.map He.ac).length <= 5000;simp;omega) hz 22 rfl rfl (by show (D.map He.ac).length = D.length;simp)
                 exact rely_append3 (.tmp 137) (.tmp 141) rfl rfl rfl hrun hk ⟨hgr,trivial⟩
               intro w9 hg hf hJ
               obtain ⟨g2,-,g1,-,-⟩:=hf
               obtain ⟨b1',c1',b2',c2',rfl,rfl,C7⟩:=HCd.out.told (F:=(⟨two b1 b2,two c1 c2,two (D.map He.dn) (D.map He.ac),two (He.dn ⟨t2.W,E',V,st⟩) (He.ac ⟨t2.W,E',V,st⟩),Bz⟩ : Two)) (e:=⟨t2.W,E',V,st⟩) rfl rfl rfl rfl rfl rfl rfl rfl hBd.symm hg g1 g2
               have pz:=C7.ar.cell (i:=K) hK3
               have pf:=C7.ar.frozen K
               have HC7 : Hid (Crew w w9 L E Wb Xb b1' c1' b2' c2' (K : Int) s6 (σ + 1) q' pn' (upd ps2 K (some t')) Bs2 xs2 (D ++ [⟨t2.W,E',V,st⟩])):=C7
               clear C7 g1 g2 hg hJ hf2 hne0 hne1 nWb nXb HNB HRW0 HRW1 HCd hBd hBz HTH hwc hx0 hx1 hx2 hx3 hx4 hx5 hx6
               go_wp2
               have C8:=HC7.out.clear (K:=K)
               rw [upd_upd] at C8
               go_roundw
               case rel=>exact ⟨i + 1,nx + 1,b1',c1',b2',c2',(K : Int),s6,σ + 1,q',c',pn',upd ps2 K none,Bs2,xs2,D ++ [⟨t2.W,E',V,st⟩],H',by go_num,by simp,by simp,by go_num,by omega,by omega,by omega,by simp;omega,C8,HQ.out,HP2.out⟩
               case measure=>simp [intOf];omega
        | some t =>
         rw [hps] at hp
         replace hp : (wr.setCell ⟨E,8,none⟩ (.int .i64 (K : Int))).cell? ⟨Wb,K,none⟩ = some (.pointer (some ⟨(Bs K).A,0,none⟩)):=hp
         have HPS : Hid (ps K = some t):=hps
         clear hps
         go_wp2
         refine wp_over (fun W=>Crew w W L E Wb Xb b1 c1 b2 c2 (K : Int) s σ q pn ps Bs xs D) HC1.out ?_
         clear HC1 hp e8 ef hz
         intro W C
         obtain ⟨ps2,Bs2,xs2,t2,hps2,C2,W2,P2⟩ : ∃ (ps2 : Nat -> Option Th) (Bs2 : Nat -> Bk) (xs2 : Nat -> List Value) (t2 : Th),ps2 K = some t2 /\ Crew w W L E Wb Xb b1 c1 b2 c2 (K : Int) s σ q pn ps2 Bs2 xs2 D /\ Cw io vL q c σ pn ps2 D H /\ (∀ c' ps',rkA c' ps' + 1 <= rkA c ps2 -> Pot T (min n 40) (i + 1) nx c' ps'):=⟨ps,Bs,xs,t,HPS.out,C,HW.out,fun _ _ h=>HP.out.step h⟩
         have HPS2 : Hid (ps2 K = some t2):=hps2
         have HCx : Hid (Crew w W L E Wb Xb b1 c1 b2 c2 (K : Int) s σ q pn ps2 Bs2 xs2 D):=C2
         have HW2 : Hid (Cw io vL q c σ pn ps2 D H):=W2
         have HPOT : Hid (∀ c' ps',rkA c' ps' + 1 <= rkA c ps2 -> Pot T (min n 40) (i + 1) nx c' ps'):=P2
         clear hps2 C2 W2 P2 C HW HP HPS
         obtain ⟨hn,q',c',pn',t',H',hturn,htW,KEY⟩:=HW2.out.step hK3 HPS2.out
         have p5 : t2.ph ≠ 5:=by have:=(HW2.out.th K t2 HPS2.out).p4;omega
         have ST:=fun (w1 : World) (C1 : Crew w w1 L E Wb Xb b1 c1 b2 c2 (K : Int) s σ q pn ps2 Bs2 xs2 D)=>C1.step hK3 HPS2.out (by omega) HW2.out.s.sc.wd p5 hn hturn htW
         have HKEY : Hid ((t'.ph ≠ 5 /\ Cw io vL q' c' (σ + 1) pn' (upd ps2 K (some t')) D H' /\ rkA c' (upd ps2 K (some t')) + 1 <= rkA c ps2) \/ (t'.ph = 5 /\ ∃ E V st,t'.α = .over E V st /\ Cw io vL q' c' (σ + 1) pn' (upd ps2 K none) (D ++ [⟨t2.W,E,V,st⟩]) H' /\ rkA c' (upd ps2 K none) + 1 <= rkA c ps2)):=KEY
         have HTW : Hid (t'.W = t2.W):=htW
         clear KEY hn hturn htW p5
         refine wp_region_rely_tail Grown 4 [.val (.int .i64 (K : Int)),.val (.pointer (some ⟨Wb,K,none⟩)),.val (.pointer (some ⟨(Bs2 K).A,0,none⟩)),.val (.agg #[.int .i64 ((4 : Nat) : Int),.int .i64 ((8 : Nat) : Int),.int .i64 ((8 : Nat) : Int),.int .i64 ((40 : Nat) : Int),.int .i64 100,.int .i64 600,.int .i64 3,.pointer (some ⟨L.p,0,none⟩),.int .i64 (K : Int)])] (by kernel_rfl) Grown.refl Grown.trans (by decide) (by kernel_rfl) (by kernel_rfl) (by kernel_rfl) (by kernel_rfl) (by kernel_rfl) (by kernel_rfl) ?_
         simp only [List.take_succ_cons,List.take_zero,relyAll,Act.put,List.setIfInBounds_toArray,List.set_cons_zero,List.set_cons_succ]
         refine ⟨?_,?_,?_,?_,?_⟩
         · intros;apply ol;go_simp;exact gl
         · intro w' hg _
           apply ol
           have hb : (0 : Int) <= (K : Int):=by omega
           go_simp
           exact gl
         · intro w' hg _
           apply ol
           have z:=(HCx.out.drew.grown hg).ar.cell (i:=K) hK3
           rw [HPS2.out] at z
           simp only [ptrB] at z
           go_simp
           exact gl
         · intro w' hg _
           apply ol
           obtain ⟨ce,vv⟩:=(HCx.out.drew.grown hg).v
           have y0:=vv.at0 0 rfl
           have y1:=vv.at0 1 rfl
           have y2:=vv.at0 2 rfl
           have y3:=vv.at0 3 rfl
           have y4:=vv.at0 4 rfl
           have y5:=vv.at0 5 rfl
           have y6:=vv.at0 6 rfl
           have y7:=vv.at0 7 rfl
           have y8:=vv.at0 8 rfl
           go_simp
           exact gl
         intro w5 hg _
         have C5:=HCx.out.drew.grown hg
         clear HCx hg
         rcases HKEY.out with ⟨h5,CW',rk⟩ | ⟨h5,E',V,st,hα,CW',rk⟩
         · have hd : (t'.ph == 5) = false:=by simpa using h5
           rw [hd] at ST
           have HQ : Hid (Cw io vL q' c' (σ + 1) pn' (upd ps2 K (some t')) D H'):=CW'
           have HP2 : Hid (Pot T (min n 40) (i + 1) (nx) c' (upd ps2 K (some t'))):=HPOT.out c' _ rk
           clear CW' rk HKEY h5 hd
           go_wp2_with (go_at_call 18;refine (ST _ C5).mono ?_;rintro e w6 ⟨rfl,s6,C6⟩)
           go_roundw
           case rel=>exact ⟨i + 1,nx,b1,c1,b2,c2,(K : Int),s6,σ + 1,q',c',pn',upd ps2 K (some t'),Bs2,xs2,D,H',rfl,rfl,rfl,by go_num,by omega,by omega,by omega,by omega,C6,HQ.out,HP2.out⟩
           case measure=>simp [intOf];omega
         · have hd : (t'.ph == 5) = true:=by rw [h5];rfl
           rw [hd] at ST
           have HQ : Hid (Cw io vL q' c' (σ + 1) pn' (upd ps2 K none) (D ++ [⟨t2.W,E',V,st⟩]) H'):=CW'
           have HP2 : Hid (Pot T (min n 40) (i + 1) (nx) c' (upd ps2 K none)):=HPOT.out c' _ rk
           have HP5 : Hid (t'.ph = 5):=h5
           have HAL : Hid (t'.α = .over E' V st):=hα
           clear CW' rk HKEY h5 hα hd
           go_wp2_with (go_at_call 18;refine (ST _ C5).mono ?_;rintro e w6 ⟨rfl,s6,C6⟩)
           refine wp_over (fun W6=>Crew w W6 L E Wb Xb b1 c1 b2 c2 (K : Int) s6 (σ + 1) q' pn' (upd ps2 K (some t')) Bs2 xs2 D) C6 ?_
           clear C6 C5 ST
           intro W6 C6
           have HC6 : Hid (Crew w W6 L E Wb Xb b1 c1 b2 c2 (K : Int) s6 (σ + 1) q' pn' (upd ps2 K (some t')) Bs2 xs2 D):=C6
           have hps6 : upd ps2 K (some t') K = some t':=upd_same _ _ _
           have hwc0:=C6.ar.cell (i:=K) hK3
           rw [hps6] at hwc0
           have hwc : W6.cell? ⟨Wb,K,none⟩ = some (.pointer (some ⟨(Bs2 K).A,0,none⟩)):=hwc0
           have hxw:=C6.xw K t' hps6
           rw [HTW.out] at hxw
           have hx0 : W6.cell? ⟨Xb,K * 7,none⟩ = some (.int .i64 (t2.W.kd + 2)):=C6.xr.cell (a:=K) (j:=0) hK3 (by rw [hxw];rfl)
           have hx1 : W6.cell? ⟨Xb,K * 7 + 1,none⟩ = some (.int .i64 0):=C6.xr.cell (a:=K) (j:=1) hK3 (by rw [hxw];rfl)
           have hx2 : W6.cell? ⟨Xb,K * 7 + 2,none⟩ = some (.int .u64 t2.W.nu):=C6.xr.cell (a:=K) (j:=2) hK3 (by rw [hxw];rfl)
           have hx3 : W6.cell? ⟨Xb,K * 7 + 3,none⟩ = some (.int .i64 0):=C6.xr.cell (a:=K) (j:=3) hK3 (by rw [hxw];rfl)
           have hx4 : W6.cell? ⟨Xb,K * 7 + 4,none⟩ = some (.int .i64 t2.W.vl):=C6.xr.cell (a:=K) (j:=4) hK3 (by rw [hxw];rfl)
           have hx5 : W6.cell? ⟨Xb,K * 7 + 5,none⟩ = some (.int .i64 t2.W.ol):=C6.xr.cell (a:=K) (j:=5) hK3 (by rw [hxw];rfl)
           have hx6 : W6.cell? ⟨Xb,K * 7 + 6,none⟩ = some (.bool false):=C6.xr.cell (a:=K) (j:=6) hK3 (by rw [hxw];rfl)
           have HTH : Hid (ThAt 4 8 8 40 W6.drew L (Bs2 K) 0 (t'.as (σ + 1) q' pn')):=C6.drew.th K t' hps6
           obtain ⟨Bz,hBz⟩ : ∃ Z,W6.heap.size = Z:=⟨_,rfl⟩
           have hf2 : ∀ a,a < 2 -> Two.b (⟨two b1 b2,two c1 c2,two (D.map He.dn) (D.map He.ac),two (He.dn ⟨t2.W,E',V,st⟩) (He.ac ⟨t2.W,E',V,st⟩),Bz⟩ : Two) a < Bz:=by
            intro a ha
            have : a = 0 \/ a = 1:=by omega
            rcases this with rfl | rfl
            · rw [<- hBz];exact C6.r1.lt
            · rw [<- hBz];exact C6.r2.lt
           have h12 : b1 ≠ b2:=fun e=>by have:=C6.ap 4 5 b1 rfl e;omega
           have hne0 : ∀ a',a' < 2 -> a' ≠ 0 -> Two.b (⟨two b1 b2,two c1 c2,two (D.map He.dn) (D.map He.ac),two (He.dn ⟨t2.W,E',V,st⟩) (He.ac ⟨t2.W,E',V,st⟩),Bz⟩ : Two) a' ≠ Two.b (⟨two b1 b2,two c1 c2,two (D.map He.dn) (D.map He.ac),two (He.dn ⟨t2.W,E',V,st⟩) (He.ac ⟨t2.W,E',V,st⟩),Bz⟩ : Two) 0:=fun a' h1 h2=>by
            obtain rfl : a' = 1:=by omega
            exact h12.symm
           have hne1 : ∀ a',a' < 2 -> a' ≠ 1 -> Two.b (⟨two b1 b2,two c1 c2,two (D.map He.dn) (D.map He.ac),two (He.dn ⟨t2.W,E',V,st⟩) (He.ac ⟨t2.W,E',V,st⟩),Bz⟩ : Two) a' ≠ Two.b (⟨two b1 b2,two c1 c2,two (D.map He.dn) (D.map He.ac),two (He.dn ⟨t2.W,E',V,st⟩) (He.ac ⟨t2.W,E',V,st⟩),Bz⟩ : Two) 1:=fun a' h1 h2=>by
            obtain rfl : a' = 0:=by omega
            exact h12
           have hasG : ∀ b,Two.has (⟨two b1 b2,two c1 c2,two (D.map He.dn) (D.map He.ac),two (He.dn ⟨t2.W,E',V,st⟩) (He.ac ⟨t2.W,E',V,st⟩),Bz⟩ : Two) b -> b = b1 \/ b = b2:=by
            rintro b ⟨a,ha,e⟩
            have : a = 0 \/ a = 1:=by omega
            rcases this with rfl | rfl
            · exact Or.inl e
            · exact Or.inr e
           have nWb : ¬ Two.has (⟨two b1 b2,two c1 c2,two (D.map He.dn) (D.map He.ac),two (He.dn ⟨t2.W,E',V,st⟩) (He.ac ⟨t2.W,E',V,st⟩),Bz⟩ : Two) Wb:=fun h=>by
            rcases hasG _ h with e | e
            · have:=C6.ap 2 4 Wb rfl e;omega
            · have:=C6.ap 2 5 Wb rfl e;omega
           have nXb : ¬ Two.has (⟨two b1 b2,two c1 c2,two (D.map He.dn) (D.map He.ac),two (He.dn ⟨t2.W,E',V,st⟩) (He.ac ⟨t2.W,E',V,st⟩),Bz⟩ : Two) Xb:=fun h=>by
            rcases hasG _ h with e | e
            · have:=C6.ap 3 4 Xb rfl e;omega
            · have:=C6.ap 3 5 Xb rfl e;omega
           have HNB : Hid (∀ x,(Bs2 K).has x -> ¬ Two.has (⟨two b1 b2,two c1 c2,two (D.map He.dn) (D.map He.ac),two (He.dn ⟨t2.W,E',V,st⟩) (He.ac ⟨t2.W,E',V,st⟩),Bz⟩ : Two) x):=fun x hx h=>by
            have hp : Pt L E Wb Xb b1 b2 (upd ps2 K (some t')) Bs2 (K + 6) x:=⟨by rw [hps6];simp,hx⟩
            rcases hasG _ h with e | e
            · have:=C6.ap (K + 6) 4 x hp e;omega
            · have:=C6.ap (K + 6) 5 x hp e;omega
           have HRW0 : Hid (Rz W6.drew (twoT 0) (twoZ 0) (Two.b (⟨two b1 b2,two c1 c2,two (D.map He.dn) (D.map He.ac),two (He.dn ⟨t2.W,E',V,st⟩) (He.ac ⟨t2.W,E',V,st⟩),Bz⟩ : Two) 0) (Two.c (⟨two b1 b2,two c1 c2,two (D.map He.dn) (D.map He.ac),two (He.dn ⟨t2.W,E',V,st⟩) (He.ac ⟨t2.W,E',V,st⟩),Bz⟩ : Two) 0) (Two.l (⟨two b1 b2,two c1 c2,two (D.map He.dn) (D.map He.ac),two (He.dn ⟨t2.W,E',V,st⟩) (He.ac ⟨t2.W,E',V,st⟩),Bz⟩ : Two) 0)):=C6.drew.r1
           have HRW1 : Hid (Rz W6.drew (twoT 1) (twoZ 1) (Two.b (⟨two b1 b2,two c1 c2,two (D.map He.dn) (D.map He.ac),two (He.dn ⟨t2.W,E',V,st⟩) (He.ac ⟨t2.W,E',V,st⟩),Bz⟩ : Two) 1) (Two.c (⟨two b1 b2,two c1 c2,two (D.map He.dn) (D.map He.ac),two (He.dn ⟨t2.W,E',V,st⟩) (He.ac ⟨t2.W,E',V,st⟩),Bz⟩ : Two) 1) (Two.l (⟨two b1 b2,two c1 c2,two (D.map He.dn) (D.map He.ac),two (He.dn ⟨t2.W,E',V,st⟩) (He.ac ⟨t2.W,E',V,st⟩),Bz⟩ : Two) 1)):=C6.drew.r2
           have HCd : Hid (Crew w W6.drew L E Wb Xb b1 c1 b2 c2 (K : Int) s6 (σ + 1) q' pn' (upd ps2 K (some t')) Bs2 xs2 D):=C6.drew
           have hBd : W6.drew.heap.size = Bz:=hBz
           clear C6 HC6 hasG hwc0 hxw h12 hps6
           refine wp_region_relyX_tail (KeepT (⟨two b1 b2,two c1 c2,two (D.map He.dn) (D.map He.ac),two (He.dn ⟨t2.W,E',V,st⟩) (He.ac ⟨t2.W,E',V,st⟩),Bz⟩ : Two)) anyJ 13 [.val (.slice (some ⟨b1,0,none⟩) D.length c1),.val (.int .i64 (K : Int)),.val (.pointer (some ⟨Wb,K,none⟩)),.val (.pointer (some ⟨(Bs2 K).A,0,none⟩)),.val (.agg #[.int .i64 E',.int .u64 0,.int .i64 V,.int .i64 (st : Int)]),.that (Two.boxd (⟨two b1 b2,two c1 c2,two (D.map He.dn) (D.map He.ac),two (He.dn ⟨t2.W,E',V,st⟩) (He.ac ⟨t2.W,E',V,st⟩),Bz⟩ : Two) 0) (Two.boxd_stays hf2),.that (Two.grew (⟨two b1 b2,two c1 c2,two (D.map He.dn) (D.map He.ac),two (He.dn ⟨t2.W,E',V,st⟩) (He.ac ⟨t2.W,E',V,st⟩),Bz⟩ : Two) 0) (Two.grew_stays (by decide) hf2),.val (.slice (some ⟨b2,0,none⟩) D.length c2),.val (.int .i64 (K : Int)),.val (.pointer (some ⟨Xb,K * 7,none⟩)),.val (.agg #[.int .i64 (t2.W.kd + 2),.int .i64 0,.int .u64 t2.W.nu,.int .i64 0,.int .i64 t2.W.vl,.int .i64 t2.W.ol,.bool false]),.that (Two.boxd (⟨two b1 b2,two c1 c2,two (D.map He.dn) (D.map He.ac),two (He.dn ⟨t2.W,E',V,st⟩) (He.ac ⟨t2.W,E',V,st⟩),Bz⟩ : Two) 1) (Two.boxd_stays hf2),.that (Two.grew (⟨two b1 b2,two c1 c2,two (D.map He.dn) (D.map He.ac),two (He.dn ⟨t2.W,E',V,st⟩) (He.ac ⟨t2.W,E',V,st⟩),Bz⟩ : Two) 1) (Two.grew_stays (by decide) hf2)] (by kernel_rfl) KeepT.refl KeepT.trans (by decide) (by kernel_rfl) (by kernel_rfl) (by kernel_rfl) (by kernel_rfl) (by kernel_rfl) (by kernel_rfl) trivial ?_
           simp only [List.take_succ_cons,List.take_zero,relyAllX,Act.put,List.setIfInBounds_toArray,List.set_cons_zero,List.set_cons_succ]
           refine ⟨?_,?_,?_,?_,?_,?_,fun v5=>⟨?_,fun v6=>⟨?_,?_,?_,?_,?_,fun v11=>⟨?_,fun v12=>?_⟩⟩⟩⟩
           · intro w' l hg hf hJ hl hp
             apply ol
             go_simp
             exact ⟨KeepT.refl _,rfl,trivial⟩
           · intro w' l hg hf hJ hl hp
             apply ol
             go_simp
             exact ⟨KeepT.refl _,rfl,trivial⟩
           · intro w' l hg hf hJ hl hp
             apply ol
             have hb : (0 : Int) <= (K : Int):=by omega
             go_simp
             exact ⟨KeepT.refl _,rfl,trivial⟩
           · intro w' l hg hf hJ hl hp
             apply ol
             have z:=hg.only.keep (b:=Wb) nWb hwc
             go_simp
             exact ⟨KeepT.refl _,rfl,trivial⟩
           · intro w' l hg hf hJ hl hp
             apply ol
             have tK:=HTH.out.only hg.only HNB.out
             go_simp
             refine (th_done tK HP5.out HAL.out).mono ?_
             rintro e w'' ⟨rfl,b9⟩
             exact ⟨_,rfl,KeepT.grown b9,rfl,trivial⟩
           · intro w' l hg hf hJ hl hp
             apply ol
             have hz : Bz <= w'.heap.size:=by have:=hg.only.size;have e : W6.drew.heap.size = W6.heap.size:=rfl;omega
             have hN:=At.new w' 40 [.int .i64 E',.int .u64 0,.int .i64 V,.int .i64 (st : Int)]
             go_simp
             exact ⟨KeepT.grown (grow_alloc (Below.refl _ _) _),⟨_,rfl,hz,fun j u hu=>hN.at0 j hu⟩,trivial⟩
           · intro w' l hg hf hJ hl hp
             apply ol
             have hz : Bz <= w'.heap.size:=by have:=hg.only.size;have e : W6.drew.heap.size = W6.heap.size:=rfl;omega
             have f0:=hf.1 (by kernel_rfl)
             clear hf
             obtain ⟨v',w4',hrun,hk,hgr⟩:=Two.app (F:=(⟨two b1 b2,two c1 c2,two (D.map He.dn) (D.map He.ac),two (He.dn ⟨t2.W,E',V,st⟩) (He.ac ⟨t2.W,E',V,st⟩),Bz⟩ : Two)) (a:=0) (by decide) hne0 Tryz.underlying56 Tryz.infoZ40 rfl (by decide) (by decide) HRW0.out hg f0 rfl (by intro u hu;simp only [two,He.dn,List.mem_cons,List.not_mem_nil,or_false] at hu;rcases hu with rfl | rfl | rfl | rfl <;> rfl) (by show (D.map He.dn).length <= 5000;simp;omega) hz 56 rfl rfl (by show (D.map He.dn).length = D.length;simp)
             exact rely_append3 (.tmp 130) (.tmp 135) rfl rfl rfl hrun hk ⟨hgr,trivial⟩
           · intro w' l hg hf hJ hl hp
             apply ol
             go_simp
             exact ⟨KeepT.refl _,rfl,trivial⟩
           · intro w' l hg hf hJ hl hp
             apply ol
             go_simp
             exact ⟨KeepT.refl _,rfl,trivial⟩
           · intro w' l hg hf hJ hl hp
             apply ol
             have hb : (0 : Int) <= (K : Int):=by omega
             go_simp
             exact ⟨KeepT.refl _,rfl,trivial⟩
           · intro w' l hg hf hJ hl hp
             apply ol
             have z0:=hg.only.keep (b:=Xb) nXb hx0
             have z1:=hg.only.keep (b:=Xb) nXb hx1
             have z2:=hg.only.keep (b:=Xb) nXb hx2
             have z3:=hg.only.keep (b:=Xb) nXb hx3
             have z4:=hg.only.keep (b:=Xb) nXb hx4
             have z5:=hg.only.keep (b:=Xb) nXb hx5
             have z6:=hg.only.keep (b:=Xb) nXb hx6
             go_simp
             exact ⟨KeepT.refl _,rfl,trivial⟩
           · intro w' l hg hf hJ hl hp
             apply ol
             have hz : Bz <= w'.heap.size:=by have:=hg.only.size;have e : W6.drew.heap.size = W6.heap.size:=rfl;omega
             have hN:=At.new w' 36 [.int .i64 (t2.W.kd + 2),.int .i64 0,.int .u64 t2.W.nu,.int .i64 0,.int .i64 t2.W.vl,.int .i64 t2.W.ol,.bool false]
             go_simp
             exact ⟨KeepT.grown (grow_alloc (Below.refl _ _) _),⟨_,rfl,hz,fun j u hu=>hN.at0 j hu⟩,trivial⟩
           · intro w' l hg hf hJ hl hp
             apply ol
             have hz : Bz <= w'.heap.size:=by have:=hg.only.size;have e : W6.drew.heap.size = W6.heap.size:=rfl;omega
             have f0:=hf.1 (by kernel_rfl)
             clear hf
             obtain ⟨v',w4',hrun,hk,hgr⟩:=Two.app (F:=(⟨two b1 b2,two c1 c2,two (D.map He.dn) (D.map He.ac),two (He.dn ⟨t2.W,E',V,st⟩) (He.ac ⟨t2.W,E',V,st⟩),Bz⟩ : Two)) (a:=1) (by decide) hne1 Tryz.underlying22 Tryz.infoZ36 rfl (by decide) (by decide) HRW1.out hg f0 rfl (by intro u hu;simp only [two,He.ac,actC,List.mem_cons,List.not_mem_nil,or_false] at hu;rcases hu with rfl | rfl | rfl | rfl | rfl | rfl | rfl <;> rfl) (by show (D.map He.ac).length <= 5000;simp;omega) hz 22 rfl rfl (by show (D.map He.ac).length = D.length;simp)
             exact rely_append3 (.tmp 137) (.tmp 141) rfl rfl rfl hrun hk ⟨hgr,trivial⟩
           intro w9 hg hf hJ
           obtain ⟨g2,-,g1,-,-⟩:=hf
           obtain ⟨b1',c1',b2',c2',rfl,rfl,C7⟩:=HCd.out.told (F:=(⟨two b1 b2,two c1 c2,two (D.map He.dn) (D.map He.ac),two (He.dn ⟨t2.W,E',V,st⟩) (He.ac ⟨t2.W,E',V,st⟩),Bz⟩ : Two)) (e:=⟨t2.W,E',V,st⟩) rfl rfl rfl rfl rfl rfl rfl rfl hBd.symm hg g1 g2
           have pz:=C7.ar.cell (i:=K) hK3
           have pf:=C7.ar.frozen K
           have HC7 : Hid (Crew w w9 L E Wb Xb b1' c1' b2' c2' (K : Int) s6 (σ + 1) q' pn' (upd ps2 K (some t')) Bs2 xs2 (D ++ [⟨t2.W,E',V,st⟩])):=C7
           clear C7 g1 g2 hg hJ hf2 hne0 hne1 nWb nXb HNB HRW0 HRW1 HCd hBd hBz HTH hwc hx0 hx1 hx2 hx3 hx4 hx5 hx6
           go_wp2
           have C8:=HC7.out.clear (K:=K)
           rw [upd_upd] at C8
           go_roundw
           case rel=>exact ⟨i + 1,nx,b1',c1',b2',c2',(K : Int),s6,σ + 1,q',c',pn',upd ps2 K none,Bs2,xs2,D ++ [⟨t2.W,E',V,st⟩],H',rfl,by simp,by simp,by go_num,by omega,by omega,by omega,by simp;omega,C8,HQ.out,HP2.out⟩
           case measure=>simp [intOf];omega
      · have hi1' : ¬ (i : Int) < 1000:=by omega
        obtain ⟨K,hKi⟩ : ∃ K,i % 3 = K:=⟨_,rfl⟩
        rw [hKi] at hrem
        have hK3 : K < 3:=by omega
        have hK3' : (K : Int) < 3:=by omega
        have hK3n : (K : Int) < ((3 : Nat) : Int):=by omega
        have hK0 : (0 : Int) <= (K : Int):=by omega
        obtain ⟨ce,ev⟩:=HC.out.v
        have e8:=ev.at0 8 rfl
        have ef:=ev.fz
        clear ev
        have C1:=HC.out.setWho (K : Int)
        have hp:=C1.ar.cell (i:=K) hK3
        have HC1 : Hid (Crew w (wr.setCell ⟨E,8,none⟩ (.int .i64 (K : Int))) L E Wb Xb b1 c1 b2 c2 (K : Int) s σ q pn ps Bs xs D):=C1
        clear C1 HC
        cases hps : ps K with
        | none =>
         rw [hps] at hp
         replace hp : (wr.setCell ⟨E,8,none⟩ (.int .i64 (K : Int))).cell? ⟨Wb,K,none⟩ = some (.pointer none):=hp
         have HPS : Hid (ps K = none):=hps
         clear hps
         by_cases hn1 : n <= nx
         · have hn1' : (n : Int) <= (nx : Int):=by omega
           go_wp2
           go_roundw
           case rel=>exact ⟨i + 1,nx,b1,c1,b2,c2,(K : Int),s,σ,q,c,pn,ps,Bs,xs,D,H,rfl,rfl,rfl,by go_num,by omega,by omega,by omega,by omega,HC1.out,HW.out,HP.out.skip (fun _=>by rw [hKi];exact HPS.out) (Or.inl (by omega))⟩
           case measure=>simp [intOf];omega
         · have hn1' : ¬ (n : Int) <= (nx : Int):=by omega
           by_cases hn4 : 40 <= nx
           · have hn4' : (40 : Int) <= (nx : Int):=by omega
             go_wp2
             go_roundw
             case rel=>exact ⟨i + 1,nx,b1,c1,b2,c2,(K : Int),s,σ,q,c,pn,ps,Bs,xs,D,H,rfl,rfl,rfl,by go_num,by omega,by omega,by omega,by omega,HC1.out,HW.out,HP.out.skip (fun _=>by rw [hKi];exact HPS.out) (Or.inl (by omega))⟩
             case measure=>simp [intOf];omega
           · have hn4' : ¬ (40 : Int) <= (nx : Int):=by omega
             exact absurd (HP.out.full (by omega) (by omega)) (by omega)
        | some t =>
         rw [hps] at hp
         replace hp : (wr.setCell ⟨E,8,none⟩ (.int .i64 (K : Int))).cell? ⟨Wb,K,none⟩ = some (.pointer (some ⟨(Bs K).A,0,none⟩)):=hp
         have HPS : Hid (ps K = some t):=hps
         clear hps
         go_wp2
         refine wp_over (fun W=>Crew w W L E Wb Xb b1 c1 b2 c2 (K : Int) s σ q pn ps Bs xs D) HC1.out ?_
         clear HC1 hp e8 ef
         intro W C
         obtain ⟨ps2,Bs2,xs2,t2,hps2,C2,W2,P2⟩ : ∃ (ps2 : Nat -> Option Th) (Bs2 : Nat -> Bk) (xs2 : Nat -> List Value) (t2 : Th),ps2 K = some t2 /\ Crew w W L E Wb Xb b1 c1 b2 c2 (K : Int) s σ q pn ps2 Bs2 xs2 D /\ Cw io vL q c σ pn ps2 D H /\ (∀ c' ps',rkA c' ps' + 1 <= rkA c ps2 -> Pot T (min n 40) (i + 1) nx c' ps'):=⟨ps,Bs,xs,t,HPS.out,C,HW.out,fun _ _ h=>HP.out.step h⟩
         have HPS2 : Hid (ps2 K = some t2):=hps2
         have HCx : Hid (Crew w W L E Wb Xb b1 c1 b2 c2 (K : Int) s σ q pn ps2 Bs2 xs2 D):=C2
         have HW2 : Hid (Cw io vL q c σ pn ps2 D H):=W2
         have HPOT : Hid (∀ c' ps',rkA c' ps' + 1 <= rkA c ps2 -> Pot T (min n 40) (i + 1) nx c' ps'):=P2
         clear hps2 C2 W2 P2 C HW HP HPS
         obtain ⟨hn,q',c',pn',t',H',hturn,htW,KEY⟩:=HW2.out.step hK3 HPS2.out
         have p5 : t2.ph ≠ 5:=by have:=(HW2.out.th K t2 HPS2.out).p4;omega
         have ST:=fun (w1 : World) (C1 : Crew w w1 L E Wb Xb b1 c1 b2 c2 (K : Int) s σ q pn ps2 Bs2 xs2 D)=>C1.step hK3 HPS2.out (by omega) HW2.out.s.sc.wd p5 hn hturn htW
         have HKEY : Hid ((t'.ph ≠ 5 /\ Cw io vL q' c' (σ + 1) pn' (upd ps2 K (some t')) D H' /\ rkA c' (upd ps2 K (some t')) + 1 <= rkA c ps2) \/ (t'.ph = 5 /\ ∃ E V st,t'.α = .over E V st /\ Cw io vL q' c' (σ + 1) pn' (upd ps2 K none) (D ++ [⟨t2.W,E,V,st⟩]) H' /\ rkA c' (upd ps2 K none) + 1 <= rkA c ps2)):=KEY
         have HTW : Hid (t'.W = t2.W):=htW
         clear KEY hn hturn htW p5
         refine wp_region_rely_tail Grown 4 [.val (.int .i64 (K : Int)),.val (.pointer (some ⟨Wb,K,none⟩)),.val (.pointer (some ⟨(Bs2 K).A,0,none⟩)),.val (.agg #[.int .i64 ((4 : Nat) : Int),.int .i64 ((8 : Nat) : Int),.int .i64 ((8 : Nat) : Int),.int .i64 ((40 : Nat) : Int),.int .i64 100,.int .i64 600,.int .i64 3,.pointer (some ⟨L.p,0,none⟩),.int .i64 (K : Int)])] (by kernel_rfl) Grown.refl Grown.trans (by decide) (by kernel_rfl) (by kernel_rfl) (by kernel_rfl) (by kernel_rfl) (by kernel_rfl) (by kernel_rfl) ?_
         simp only [List.take_succ_cons,List.take_zero,relyAll,Act.put,List.setIfInBounds_toArray,List.set_cons_zero,List.set_cons_succ]
         refine ⟨?_,?_,?_,?_,?_⟩
         · intros;apply ol;go_simp;exact gl
         · intro w' hg _
           apply ol
           have hb : (0 : Int) <= (K : Int):=by omega
           go_simp
           exact gl
         · intro w' hg _
           apply ol
           have z:=(HCx.out.drew.grown hg).ar.cell (i:=K) hK3
           rw [HPS2.out] at z
           simp only [ptrB] at z
           go_simp
           exact gl
         · intro w' hg _
           apply ol
           obtain ⟨ce,vv⟩:=(HCx.out.drew.grown hg).v
           have y0:=vv.at0 0 rfl
           have y1:=vv.at0 1 rfl
           have y2:=vv.at0 2 rfl
           have y3:=vv.at0 3 rfl
           have y4:=vv.at0 4 rfl
           have y5:=vv.at0 5 rfl
           have y6:=vv.at0 6 rfl
           have y7:=vv.at0 7 rfl
           have y8:=vv.at0 8 rfl
           go_simp
           exact gl
         intro w5 hg _
         have C5:=HCx.out.drew.grown hg
         clear HCx hg
         rcases HKEY.out with ⟨h5,CW',rk⟩ | ⟨h5,E',V,st,hα,CW',rk⟩
         · have hd : (t'.ph == 5) = false:=by simpa using h5
           rw [hd] at ST
           have HQ : Hid (Cw io vL q' c' (σ + 1) pn' (upd ps2 K (some t')) D H'):=CW'
           have HP2 : Hid (Pot T (min n 40) (i + 1) (nx) c' (upd ps2 K (some t'))):=HPOT.out c' _ rk
           clear CW' rk HKEY h5 hd
           go_wp2_with (go_at_call 18;refine (ST _ C5).mono ?_;rintro e w6 ⟨rfl,s6,C6⟩)
           go_roundw
           case rel=>exact ⟨i + 1,nx,b1,c1,b2,c2,(K : Int),s6,σ + 1,q',c',pn',upd ps2 K (some t'),Bs2,xs2,D,H',rfl,rfl,rfl,by go_num,by omega,by omega,by omega,by omega,C6,HQ.out,HP2.out⟩
           case measure=>simp [intOf];omega
         · have hd : (t'.ph == 5) = true:=by rw [h5];rfl
           rw [hd] at ST
           have HQ : Hid (Cw io vL q' c' (σ + 1) pn' (upd ps2 K none) (D ++ [⟨t2.W,E',V,st⟩]) H'):=CW'
           have HP2 : Hid (Pot T (min n 40) (i + 1) (nx) c' (upd ps2 K none)):=HPOT.out c' _ rk
           have HP5 : Hid (t'.ph = 5):=h5
           have HAL : Hid (t'.α = .over E' V st):=hα
           clear CW' rk HKEY h5 hα hd
           go_wp2_with (go_at_call 18;refine (ST _ C5).mono ?_;rintro e w6 ⟨rfl,s6,C6⟩)
           refine wp_over (fun W6=>Crew w W6 L E Wb Xb b1 c1 b2 c2 (K : Int) s6 (σ + 1) q' pn' (upd ps2 K (some t')) Bs2 xs2 D) C6 ?_
           clear C6 C5 ST
           intro W6 C6
           have HC6 : Hid (Crew w W6 L E Wb Xb b1 c1 b2 c2 (K : Int) s6 (σ + 1) q' pn' (upd ps2 K (some t')) Bs2 xs2 D):=C6
           have hps6 : upd ps2 K (some t') K = some t':=upd_same _ _ _
           have hwc0:=C6.ar.cell (i:=K) hK3
           rw [hps6] at hwc0
           have hwc : W6.cell? ⟨Wb,K,none⟩ = some (.pointer (some ⟨(Bs2 K).A,0,none⟩)):=hwc0
           have hxw:=C6.xw K t' hps6
           rw [HTW.out] at hxw
           have hx0 : W6.cell? ⟨Xb,K * 7,none⟩ = some (.int .i64 (t2.W.kd + 2)):=C6.xr.cell (a:=K) (j:=0) hK3 (by rw [hxw];rfl)
           have hx1 : W6.cell? ⟨Xb,K * 7 + 1,none⟩ = some (.int .i64 0):=C6.xr.cell (a:=K) (j:=1) hK3 (by rw [hxw];rfl)
           have hx2 : W6.cell? ⟨Xb,K * 7 + 2,none⟩ = some (.int .u64 t2.W.nu):=C6.xr.cell (a:=K) (j:=2) hK3 (by rw [hxw];rfl)
           have hx3 : W6.cell? ⟨Xb,K * 7 + 3,none⟩ = some (.int .i64 0):=C6.xr.cell (a:=K) (j:=3) hK3 (by rw [hxw];rfl)
           have hx4 : W6.cell? ⟨Xb,K * 7 + 4,none⟩ = some (.int .i64 t2.W.vl):=C6.xr.cell (a:=K) (j:=4) hK3 (by rw [hxw];rfl)
           have hx5 : W6.cell? ⟨Xb,K * 7 + 5,none⟩ = some (.int .i64 t2.W.ol):=C6.xr.cell (a:=K) (j:=5) hK3 (by rw [hxw];rfl)
           have hx6 : W6.cell? ⟨Xb,K * 7 + 6,none⟩ = some (.bool false):=C6.xr.cell (a:=K) (j:=6) hK3 (by rw [hxw];rfl)
           have HTH : Hid (ThAt 4 8 8 40 W6.drew L (Bs2 K) 0 (t'.as (σ + 1) q' pn')):=C6.drew.th K t' hps6
           obtain ⟨Bz,hBz⟩ : ∃ Z,W6.heap.size = Z:=⟨_,rfl⟩
           have hf2 : ∀ a,a < 2 -> Two.b (⟨two b1 b2,two c1 c2,two (D.map He.dn) (D.map He.ac),two (He.dn ⟨t2.W,E',V,st⟩) (He.ac ⟨t2.W,E',V,st⟩),Bz⟩ : Two) a < Bz:=by
            intro a ha
            have : a = 0 \/ a = 1:=by omega
            rcases this with rfl | rfl
            · rw [<- hBz];exact C6.r1.lt
            · rw [<- hBz];exact C6.r2.lt
           have h12 : b1 ≠ b2:=fun e=>by have:=C6.ap 4 5 b1 rfl e;omega
           have hne0 : ∀ a',a' < 2 -> a' ≠ 0 -> Two.b (⟨two b1 b2,two c1 c2,two (D.map He.dn) (D.map He.ac),two (He.dn ⟨t2.W,E',V,st⟩) (He.ac ⟨t2.W,E',V,st⟩),Bz⟩ : Two) a' ≠ Two.b (⟨two b1 b2,two c1 c2,two (D.map He.dn) (D.map He.ac),two (He.dn ⟨t2.W,E',V,st⟩) (He.ac ⟨t2.W,E',V,st⟩),Bz⟩ : Two) 0:=fun a' h1 h2=>by
            obtain rfl : a' = 1:=by omega
            exact h12.symm
           have hne1 : ∀ a',a' < 2 -> a' ≠ 1 -> Two.b (⟨two b1 b2,two c1 c2,two (D.map He.dn) (D.map He.ac),two (He.dn ⟨t2.W,E',V,st⟩) (He.ac ⟨t2.W,E',V,st⟩),Bz⟩ : Two) a' ≠ Two.b (⟨two b1 b2,two c1 c2,two (D.map He.dn) (D.map He.ac),two (He.dn ⟨t2.W,E',V,st⟩) (He.ac ⟨t2.W,E',V,st⟩),Bz⟩ : Two) 1:=fun a' h1 h2=>by
            obtain rfl : a' = 0:=by omega
            exact h12
           have hasG : ∀ b,Two.has (⟨two b1 b2,two c1 c2,two (D.map He.dn) (D.map He.ac),two (He.dn ⟨t2.W,E',V,st⟩) (He.ac ⟨t2.W,E',V,st⟩),Bz⟩ : Two) b -> b = b1 \/ b = b2:=by
            rintro b ⟨a,ha,e⟩
            have : a = 0 \/ a = 1:=by omega
            rcases this with rfl | rfl
            · exact Or.inl e
            · exact Or.inr e
           have nWb : ¬ Two.has (⟨two b1 b2,two c1 c2,two (D.map He.dn) (D.map He.ac),two (He.dn ⟨t2.W,E',V,st⟩) (He.ac ⟨t2.W,E',V,st⟩),Bz⟩ : Two) Wb:=fun h=>by
            rcases hasG _ h with e | e
            · have:=C6.ap 2 4 Wb rfl e;omega
            · have:=C6.ap 2 5 Wb rfl e;omega
           have nXb : ¬ Two.has (⟨two b1 b2,two c1 c2,two (D.map He.dn) (D.map He.ac),two (He.dn ⟨t2.W,E',V,st⟩) (He.ac ⟨t2.W,E',V,st⟩),Bz⟩ : Two) Xb:=fun h=>by
            rcases hasG _ h with e | e
            · have:=C6.ap 3 4 Xb rfl e;omega
            · have:=C6.ap 3 5 Xb rfl e;omega
           have HNB : Hid (∀ x,(Bs2 K).has x -> ¬ Two.has (⟨two b1 b2,two c1 c2,two (D.map He.dn) (D.map He.ac),two (He.dn ⟨t2.W,E',V,st⟩) (He.ac ⟨t2.W,E',V,st⟩),Bz⟩ : Two) x):=fun x hx h=>by
            have hp : Pt L E Wb Xb b1 b2 (upd ps2 K (some t')) Bs2 (K + 6) x:=⟨by rw [hps6];simp,hx⟩
            rcases hasG _ h with e | e
            · have:=C6.ap (K + 6) 4 x hp e;omega
            · have:=C6.ap (K + 6) 5 x hp e;omega
           have HRW0 : Hid (Rz W6.drew (twoT 0) (twoZ 0) (Two.b (⟨two b1 b2,two c1 c2,two (D.map He.dn) (D.map He.ac),two (He.dn ⟨t2.W,E',V,st⟩) (He.ac ⟨t2.W,E',V,st⟩),Bz⟩ : Two) 0) (Two.c (⟨two b1 b2,two c1 c2,two (D.map He.dn) (D.map He.ac),two (He.dn ⟨t2.W,E',V,st⟩) (He.ac ⟨t2.W,E',V,st⟩),Bz⟩ : Two) 0) (Two.l (⟨two b1 b2,two c1 c2,two (D.map He.dn) (D.map He.ac),two (He.dn ⟨t2.W,E',V,st⟩) (He.ac ⟨t2.W,E',V,st⟩),Bz⟩ : Two) 0)):=C6.drew.r1
           have HRW1 : Hid (Rz W6.drew (twoT 1) (twoZ 1) (Two.b (⟨two b1 b2,two c1 c2,two (D.map He.dn) (D.map He.ac),two (He.dn ⟨t2.W,E',V,st⟩) (He.ac ⟨t2.W,E',V,st⟩),Bz⟩ : Two) 1) (Two.c (⟨two b1 b2,two c1 c2,two (D.map He.dn) (D.map He.ac),two (He.dn ⟨t2.W,E',V,st⟩) (He.ac ⟨t2.W,E',V,st⟩),Bz⟩ : Two) 1) (Two.l (⟨two b1 b2,two c1 c2,two (D.map He.dn) (D.map He.ac),two (He.dn ⟨t2.W,E',V,st⟩) (He.ac ⟨t2.W,E',V,st⟩),Bz⟩ : Two) 1)):=C6.drew.r2
           have HCd : Hid (Crew w W6.drew L E Wb Xb b1 c1 b2 c2 (K : Int) s6 (σ + 1) q' pn' (upd ps2 K (some t')) Bs2 xs2 D):=C6.drew
           have hBd : W6.drew.heap.size = Bz:=hBz
           clear C6 HC6 hasG hwc0 hxw h12 hps6
           refine wp_region_relyX_tail (KeepT (⟨two b1 b2,two c1 c2,two (D.map He.dn) (D.map He.ac),two (He.dn ⟨t2.W,E',V,st⟩) (He.ac ⟨t2.W,E',V,st⟩),Bz⟩ : Two)) anyJ 13 [.val (.slice (some ⟨b1,0,none⟩) D.length c1),.val (.int .i64 (K : Int)),.val (.pointer (some ⟨Wb,K,none⟩)),.val (.pointer (some ⟨(Bs2 K).A,0,none⟩)),.val (.agg #[.int .i64 E',.int .u64 0,.int .i64 V,.int .i64 (st : Int)]),.that (Two.boxd (⟨two b1 b2,two c1 c2,two (D.map He.dn) (D.map He.ac),two (He.dn ⟨t2.W,E',V,st⟩) (He.ac ⟨t2.W,E',V,st⟩),Bz⟩ : Two) 0) (Two.boxd_stays hf2),.that (Two.grew (⟨two b1 b2,two c1 c2,two (D.map He.dn) (D.map He.ac),two (He.dn ⟨t2.W,E',V,st⟩) (He.ac ⟨t2.W,E',V,st⟩),Bz⟩ : Two) 0) (Two.grew_stays (by decide) hf2),.val (.slice (some ⟨b2,0,none⟩) D.length c2),.val (.int .i64 (K : Int)),.val (.pointer (some ⟨Xb,K * 7,none⟩)),.val (.agg #[.int .i64 (t2.W.kd + 2),.int .i64 0,.int .u64 t2.W.nu,.int .i64 0,.int .i64 t2.W.vl,.int .i64 t2.W.ol,.bool false]),.that (Two.boxd (⟨two b1 b2,two c1 c2,two (D.map He.dn) (D.map He.ac),two (He.dn ⟨t2.W,E',V,st⟩) (He.ac ⟨t2.W,E',V,st⟩),Bz⟩ : Two) 1) (Two.boxd_stays hf2),.that (Two.grew (⟨two b1 b2,two c1 c2,two (D.map He.dn) (D.map He.ac),two (He.dn ⟨t2.W,E',V,st⟩) (He.ac ⟨t2.W,E',V,st⟩),Bz⟩ : Two) 1) (Two.grew_stays (by decide) hf2)] (by kernel_rfl) KeepT.refl KeepT.trans (by decide) (by kernel_rfl) (by kernel_rfl) (by kernel_rfl) (by kernel_rfl) (by kernel_rfl) (by kernel_rfl) trivial ?_
           simp only [List.take_succ_cons,List.take_zero,relyAllX,Act.put,List.setIfInBounds_toArray,List.set_cons_zero,List.set_cons_succ]
           refine ⟨?_,?_,?_,?_,?_,?_,fun v5=>⟨?_,fun v6=>⟨?_,?_,?_,?_,?_,fun v11=>⟨?_,fun v12=>?_⟩⟩⟩⟩
           · intro w' l hg hf hJ hl hp
             apply ol
             go_simp
             exact ⟨KeepT.refl _,rfl,trivial⟩
           · intro w' l hg hf hJ hl hp
             apply ol
             go_simp
             exact ⟨KeepT.refl _,rfl,trivial⟩
           · intro w' l hg hf hJ hl hp
             apply ol
             have hb : (0 : Int) <= (K : Int):=by omega
             go_simp
             exact ⟨KeepT.refl _,rfl,trivial⟩
           · intro w' l hg hf hJ hl hp
             apply ol
             have z:=hg.only.keep (b:=Wb) nWb hwc
             go_simp
             exact ⟨KeepT.refl _,rfl,trivial⟩
           · intro w' l hg hf hJ hl hp
             apply ol
             have tK:=HTH.out.only hg.only HNB.out
             go_simp
             refine (th_done tK HP5.out HAL.out).mono ?_
             rintro e w'' ⟨rfl,b9⟩
             exact ⟨_,rfl,KeepT.grown b9,rfl,trivial⟩
           · intro w' l hg hf hJ hl hp
             apply ol
             have hz : Bz <= w'.heap.size:=by have:=hg.only.size;have e : W6.drew.heap.size = W6.heap.size:=rfl;omega
             have hN:=At.new w' 40 [.int .i64 E',.int .u64 0,.int .i64 V,.int .i64 (st : Int)]
             go_simp
             exact ⟨KeepT.grown (grow_alloc (Below.refl _ _) _),⟨_,rfl,hz,fun j u hu=>hN.at0 j hu⟩,trivial⟩
           · intro w' l hg hf hJ hl hp
             apply ol
             have hz : Bz <= w'.heap.size:=by have:=hg.only.size;have e : W6.drew.heap.size = W6.heap.size:=rfl;omega
             have f0:=hf.1 (by kernel_rfl)
             clear hf
             obtain ⟨v',w4',hrun,hk,hgr⟩:=Two.app (F:=(⟨two b1 b2,two c1 c2,two (D.map He.dn) (D.map He.ac),two (He.dn ⟨t2.W,E',V,st⟩) (He.ac ⟨t2.W,E',V,st⟩),Bz⟩ : Two)) (a:=0) (by decide) hne0 Tryz.underlying56 Tryz.infoZ40 rfl (by decide) (by decide) HRW0.out hg f0 rfl (by intro u hu;simp only [two,He.dn,List.mem_cons,List.not_mem_nil,or_false] at hu;rcases hu with rfl | rfl | rfl | rfl <;> rfl) (by show (D.map He.dn).length <= 5000;simp;omega) hz 56 rfl rfl (by show (D.map He.dn).length = D.length;simp)
             exact rely_append3 (.tmp 130) (.tmp 135) rfl rfl rfl hrun hk ⟨hgr,trivial⟩
           · intro w' l hg hf hJ hl hp
             apply ol
             go_simp
             exact ⟨KeepT.refl _,rfl,trivial⟩
           · intro w' l hg hf hJ hl hp
             apply ol
             go_simp
             exact ⟨KeepT.refl _,rfl,trivial⟩
           · intro w' l hg hf hJ hl hp
             apply ol
             have hb : (0 : Int) <= (K : Int):=by omega
             go_simp
             exact ⟨KeepT.refl _,rfl,trivial⟩
           · intro w' l hg hf hJ hl hp
             apply ol
             have z0:=hg.only.keep (b:=Xb) nXb hx0
             have z1:=hg.only.keep (b:=Xb) nXb hx1
             have z2:=hg.only.keep (b:=Xb) nXb hx2
             have z3:=hg.only.keep (b:=Xb) nXb hx3
             have z4:=hg.only.keep (b:=Xb) nXb hx4
             have z5:=hg.only.keep (b:=Xb) nXb hx5
             have z6:=hg.only.keep (b:=Xb) nXb hx6
             go_simp
             exact ⟨KeepT.refl _,rfl,trivial⟩
           · intro w' l hg hf hJ hl hp
             apply ol
             have hz : Bz <= w'.heap.size:=by have:=hg.only.size;have e : W6.drew.heap.size = W6.heap.size:=rfl;omega
             have hN:=At.new w' 36 [.int .i64 (t2.W.kd + 2),.int .i64 0,.int .u64 t2.W.nu,.int .i64 0,.int .i64 t2.W.vl,.int .i64 t2.W.ol,.bool false]
             go_simp
             exact ⟨KeepT.grown (grow_alloc (Below.refl _ _) _),⟨_,rfl,hz,fun j u hu=>hN.at0 j hu⟩,trivial⟩
           · intro w' l hg hf hJ hl hp
             apply ol
             have hz : Bz <= w'.heap.size:=by have:=hg.only.size;have e : W6.drew.heap.size = W6.heap.size:=rfl;omega
             have f0:=hf.1 (by kernel_rfl)
             clear hf
             obtain ⟨v',w4',hrun,hk,hgr⟩:=Two.app (F:=(⟨two b1 b2,two c1 c2,two (D.map He.dn) (D.map He.ac),two (He.dn ⟨t2.W,E',V,st⟩) (He.ac ⟨t2.W,E',V,st⟩),Bz⟩ : Two)) (a:=1) (by decide) hne1 Tryz.underlying22 Tryz.infoZ36 rfl (by decide) (by decide) HRW1.out hg f0 rfl (by intro u hu;simp only [two,He.ac,actC,List.mem_cons,List.not_mem_nil,or_false] at hu;rcases hu with rfl | rfl | rfl | rfl | rfl | rfl | rfl <;> rfl) (by show (D.map He.ac).length <= 5000;simp;omega) hz 22 rfl rfl (by show (D.map He.ac).length = D.length;simp)
             exact rely_append3 (.tmp 137) (.tmp 141) rfl rfl rfl hrun hk ⟨hgr,trivial⟩
           intro w9 hg hf hJ
           obtain ⟨g2,-,g1,-,-⟩:=hf
           obtain ⟨b1',c1',b2',c2',rfl,rfl,C7⟩:=HCd.out.told (F:=(⟨two b1 b2,two c1 c2,two (D.map He.dn) (D.map He.ac),two (He.dn ⟨t2.W,E',V,st⟩) (He.ac ⟨t2.W,E',V,st⟩),Bz⟩ : Two)) (e:=⟨t2.W,E',V,st⟩) rfl rfl rfl rfl rfl rfl rfl rfl hBd.symm hg g1 g2
           have pz:=C7.ar.cell (i:=K) hK3
           have pf:=C7.ar.frozen K
           have HC7 : Hid (Crew w w9 L E Wb Xb b1' c1' b2' c2' (K : Int) s6 (σ + 1) q' pn' (upd ps2 K (some t')) Bs2 xs2 (D ++ [⟨t2.W,E',V,st⟩])):=C7
           clear C7 g1 g2 hg hJ hf2 hne0 hne1 nWb nXb HNB HRW0 HRW1 HCd hBd hBz HTH hwc hx0 hx1 hx2 hx3 hx4 hx5 hx6
           go_wp2
           have C8:=HC7.out.clear (K:=K)
           rw [upd_upd] at C8
           go_roundw
           case rel=>exact ⟨i + 1,nx,b1',c1',b2',c2',(K : Int),s6,σ + 1,q',c',pn',upd ps2 K none,Bs2,xs2,D ++ [⟨t2.W,E',V,st⟩],H',rfl,by simp,by simp,by go_num,by omega,by omega,by omega,by simp;omega,C8,HQ.out,HP2.out⟩
           case measure=>simp [intOf];omega
    · have hiT' : ¬ (i : Int) < (T : Int):=by omega
      obtain ⟨K,hKi⟩ : ∃ K,i % 3 = K:=⟨_,rfl⟩
      rw [hKi] at hrem
      have hK3 : K < 3:=by omega
      have hK3' : (K : Int) < 3:=by omega
      have hK3n : (K : Int) < ((3 : Nat) : Int):=by omega
      have hK0 : (0 : Int) <= (K : Int):=by omega
      obtain ⟨ce,ev⟩:=HC.out.v
      have e8:=ev.at0 8 rfl
      have ef:=ev.fz
      clear ev
      have C1:=HC.out.setWho (K : Int)
      have hp:=C1.ar.cell (i:=K) hK3
      have HC1 : Hid (Crew w (wr.setCell ⟨E,8,none⟩ (.int .i64 (K : Int))) L E Wb Xb b1 c1 b2 c2 (K : Int) s σ q pn ps Bs xs D):=C1
      clear C1 HC
      cases hps : ps K with
      | none =>
       rw [hps] at hp
       replace hp : (wr.setCell ⟨E,8,none⟩ (.int .i64 (K : Int))).cell? ⟨Wb,K,none⟩ = some (.pointer none):=hp
       have HPS : Hid (ps K = none):=hps
       clear hps
       by_cases hn1 : n <= nx
       · have hn1' : (n : Int) <= (nx : Int):=by omega
         go_wp2
         go_roundw
         case rel=>exact ⟨i + 1,nx,b1,c1,b2,c2,(K : Int),s,σ,q,c,pn,ps,Bs,xs,D,H,rfl,rfl,rfl,by go_num,by omega,by omega,by omega,by omega,HC1.out,HW.out,HP.out.skip (fun _=>by rw [hKi];exact HPS.out) (Or.inl (by omega))⟩
         case measure=>simp [intOf];omega
       · have hn1' : ¬ (n : Int) <= (nx : Int):=by omega
         by_cases hn4 : 40 <= nx
         · have hn4' : (40 : Int) <= (nx : Int):=by omega
           go_wp2
           go_roundw
           case rel=>exact ⟨i + 1,nx,b1,c1,b2,c2,(K : Int),s,σ,q,c,pn,ps,Bs,xs,D,H,rfl,rfl,rfl,by go_num,by omega,by omega,by omega,by omega,HC1.out,HW.out,HP.out.skip (fun _=>by rw [hKi];exact HPS.out) (Or.inl (by omega))⟩
           case measure=>simp [intOf];omega
         · have hn4' : ¬ (40 : Int) <= (nx : Int):=by omega
           go_wp2
           go_roundw
           case rel=>exact ⟨i + 1,nx,b1,c1,b2,c2,(K : Int),s,σ,q,c,pn,ps,Bs,xs,D,H,rfl,rfl,rfl,by go_num,by omega,by omega,by omega,by omega,HC1.out,HW.out,HP.out.skip (fun _=>by rw [hKi];exact HPS.out) (Or.inr (by omega))⟩
           case measure=>simp [intOf];omega
      | some t =>
       rw [hps] at hp
       replace hp : (wr.setCell ⟨E,8,none⟩ (.int .i64 (K : Int))).cell? ⟨Wb,K,none⟩ = some (.pointer (some ⟨(Bs K).A,0,none⟩)):=hp
       have HPS : Hid (ps K = some t):=hps
       clear hps
       go_wp2
       refine wp_over (fun W=>Crew w W L E Wb Xb b1 c1 b2 c2 (K : Int) s σ q pn ps Bs xs D) HC1.out ?_
       clear HC1 hp e8 ef
       intro W C
       obtain ⟨ps2,Bs2,xs2,t2,hps2,C2,W2,P2⟩ : ∃ (ps2 : Nat -> Option Th) (Bs2 : Nat -> Bk) (xs2 : Nat -> List Value) (t2 : Th),ps2 K = some t2 /\ Crew w W L E Wb Xb b1 c1 b2 c2 (K : Int) s σ q pn ps2 Bs2 xs2 D /\ Cw io vL q c σ pn ps2 D H /\ (∀ c' ps',rkA c' ps' + 1 <= rkA c ps2 -> Pot T (min n 40) (i + 1) nx c' ps'):=⟨ps,Bs,xs,t,HPS.out,C,HW.out,fun _ _ h=>HP.out.step h⟩
       have HPS2 : Hid (ps2 K = some t2):=hps2
       have HCx : Hid (Crew w W L E Wb Xb b1 c1 b2 c2 (K : Int) s σ q pn ps2 Bs2 xs2 D):=C2
       have HW2 : Hid (Cw io vL q c σ pn ps2 D H):=W2
       have HPOT : Hid (∀ c' ps',rkA c' ps' + 1 <= rkA c ps2 -> Pot T (min n 40) (i + 1) nx c' ps'):=P2
       clear hps2 C2 W2 P2 C HW HP HPS
       obtain ⟨hn,q',c',pn',t',H',hturn,htW,KEY⟩:=HW2.out.step hK3 HPS2.out
       have p5 : t2.ph ≠ 5:=by have:=(HW2.out.th K t2 HPS2.out).p4;omega
       have ST:=fun (w1 : World) (C1 : Crew w w1 L E Wb Xb b1 c1 b2 c2 (K : Int) s σ q pn ps2 Bs2 xs2 D)=>C1.step hK3 HPS2.out (by omega) HW2.out.s.sc.wd p5 hn hturn htW
       have HKEY : Hid ((t'.ph ≠ 5 /\ Cw io vL q' c' (σ + 1) pn' (upd ps2 K (some t')) D H' /\ rkA c' (upd ps2 K (some t')) + 1 <= rkA c ps2) \/ (t'.ph = 5 /\ ∃ E V st,t'.α = .over E V st /\ Cw io vL q' c' (σ + 1) pn' (upd ps2 K none) (D ++ [⟨t2.W,E,V,st⟩]) H' /\ rkA c' (upd ps2 K none) + 1 <= rkA c ps2)):=KEY
       have HTW : Hid (t'.W = t2.W):=htW
       clear KEY hn hturn htW p5
       refine wp_region_rely_tail Grown 4 [.val (.int .i64 (K : Int)),.val (.pointer (some ⟨Wb,K,none⟩)),.val (.pointer (some ⟨(Bs2 K).A,0,none⟩)),.val (.agg #[.int .i64 ((4 : Nat) : Int),.int .i64 ((8 : Nat) : Int),.int .i64 ((8 : Nat) : Int),.int .i64 ((40 : Nat) : Int),.int .i64 100,.int .i64 600,.int .i64 3,.pointer (some ⟨L.p,0,none⟩),.int .i64 (K : Int)])] (by kernel_rfl) Grown.refl Grown.trans (by decide) (by kernel_rfl) (by kernel_rfl) (by kernel_rfl) (by kernel_rfl) (by kernel_rfl) (by kernel_rfl) ?_
       simp only [List.take_succ_cons,List.take_zero,relyAll,Act.put,List.setIfInBounds_toArray,List.set_cons_zero,List.set_cons_succ]
       refine ⟨?_,?_,?_,?_,?_⟩
       · intros;apply ol;go_simp;exact gl
       · intro w' hg _
         apply ol
         have hb : (0 : Int) <= (K : Int):=by omega
         go_simp
         exact gl
       · intro w' hg _
         apply ol
         have z:=(HCx.out.drew.grown hg).ar.cell (i:=K) hK3
         rw [HPS2.out] at z
         simp only [ptrB] at z
         go_simp
         exact gl
       · intro w' hg _
         apply ol
         obtain ⟨ce,vv⟩:=(HCx.out.drew.grown hg).v
         have y0:=vv.at0 0 rfl
         have y1:=vv.at0 1 rfl
         have y2:=vv.at0 2 rfl
         have y3:=vv.at0 3 rfl
         have y4:=vv.at0 4 rfl
         have y5:=vv.at0 5 rfl
         have y6:=vv.at0 6 rfl
         have y7:=vv.at0 7 rfl
         have y8:=vv.at0 8 rfl
         go_simp
         exact gl
       intro w5 hg _
       have C5:=HCx.out.drew.grown hg
       clear HCx hg
       rcases HKEY.out with ⟨h5,CW',rk⟩ | ⟨h5,E',V,st,hα,CW',rk⟩
       · have hd : (t'.ph == 5) = false:=by simpa using h5
         rw [hd] at ST
         have HQ : Hid (Cw io vL q' c' (σ + 1) pn' (upd ps2 K (some t')) D H'):=CW'
         have HP2 : Hid (Pot T (min n 40) (i + 1) (nx) c' (upd ps2 K (some t'))):=HPOT.out c' _ rk
         clear CW' rk HKEY h5 hd
         go_wp2_with (go_at_call 18;refine (ST _ C5).mono ?_;rintro e w6 ⟨rfl,s6,C6⟩)
         go_roundw
         case rel=>exact ⟨i + 1,nx,b1,c1,b2,c2,(K : Int),s6,σ + 1,q',c',pn',upd ps2 K (some t'),Bs2,xs2,D,H',rfl,rfl,rfl,by go_num,by omega,by omega,by omega,by omega,C6,HQ.out,HP2.out⟩
         case measure=>simp [intOf];omega
       · have hd : (t'.ph == 5) = true:=by rw [h5];rfl
         rw [hd] at ST
         have HQ : Hid (Cw io vL q' c' (σ + 1) pn' (upd ps2 K none) (D ++ [⟨t2.W,E',V,st⟩]) H'):=CW'
         have HP2 : Hid (Pot T (min n 40) (i + 1) (nx) c' (upd ps2 K none)):=HPOT.out c' _ rk
         have HP5 : Hid (t'.ph = 5):=h5
         have HAL : Hid (t'.α = .over E' V st):=hα
         clear CW' rk HKEY h5 hα hd
         go_wp2_with (go_at_call 18;refine (ST _ C5).mono ?_;rintro e w6 ⟨rfl,s6,C6⟩)
         refine wp_over (fun W6=>Crew w W6 L E Wb Xb b1 c1 b2 c2 (K : Int) s6 (σ + 1) q' pn' (upd ps2 K (some t')) Bs2 xs2 D) C6 ?_
         clear C6 C5 ST
         intro W6 C6
         have HC6 : Hid (Crew w W6 L E Wb Xb b1 c1 b2 c2 (K : Int) s6 (σ + 1) q' pn' (upd ps2 K (some t')) Bs2 xs2 D):=C6
         have hps6 : upd ps2 K (some t') K = some t':=upd_same _ _ _
         have hwc0:=C6.ar.cell (i:=K) hK3
         rw [hps6] at hwc0
         have hwc : W6.cell? ⟨Wb,K,none⟩ = some (.pointer (some ⟨(Bs2 K).A,0,none⟩)):=hwc0
         have hxw:=C6.xw K t' hps6
         rw [HTW.out] at hxw
         have hx0 : W6.cell? ⟨Xb,K * 7,none⟩ = some (.int .i64 (t2.W.kd + 2)):=C6.xr.cell (a:=K) (j:=0) hK3 (by rw [hxw];rfl)
         have hx1 : W6.cell? ⟨Xb,K * 7 + 1,none⟩ = some (.int .i64 0):=C6.xr.cell (a:=K) (j:=1) hK3 (by rw [hxw];rfl)
         have hx2 : W6.cell? ⟨Xb,K * 7 + 2,none⟩ = some (.int .u64 t2.W.nu):=C6.xr.cell (a:=K) (j:=2) hK3 (by rw [hxw];rfl)
         have hx3 : W6.cell? ⟨Xb,K * 7 + 3,none⟩ = some (.int .i64 0):=C6.xr.cell (a:=K) (j:=3) hK3 (by rw [hxw];rfl)
         have hx4 : W6.cell? ⟨Xb,K * 7 + 4,none⟩ = some (.int .i64 t2.W.vl):=C6.xr.cell (a:=K) (j:=4) hK3 (by rw [hxw];rfl)
         have hx5 : W6.cell? ⟨Xb,K * 7 + 5,none⟩ = some (.int .i64 t2.W.ol):=C6.xr.cell (a:=K) (j:=5) hK3 (by rw [hxw];rfl)
         have hx6 : W6.cell? ⟨Xb,K * 7 + 6,none⟩ = some (.bool false):=C6.xr.cell (a:=K) (j:=6) hK3 (by rw [hxw];rfl)
         have HTH : Hid (ThAt 4 8 8 40 W6.drew L (Bs2 K) 0 (t'.as (σ + 1) q' pn')):=C6.drew.th K t' hps6
         obtain ⟨Bz,hBz⟩ : ∃ Z,W6.heap.size = Z:=⟨_,rfl⟩
         have hf2 : ∀ a,a < 2 -> Two.b (⟨two b1 b2,two c1 c2,two (D.map He.dn) (D.map He.ac),two (He.dn ⟨t2.W,E',V,st⟩) (He.ac ⟨t2.W,E',V,st⟩),Bz⟩ : Two) a < Bz:=by
          intro a ha
          have : a = 0 \/ a = 1:=by omega
          rcases this with rfl | rfl
          · rw [<- hBz];exact C6.r1.lt
          · rw [<- hBz];exact C6.r2.lt
         have h12 : b1 ≠ b2:=fun e=>by have:=C6.ap 4 5 b1 rfl e;omega
         have hne0 : ∀ a',a' < 2 -> a' ≠ 0 -> Two.b (⟨two b1 b2,two c1 c2,two (D.map He.dn) (D.map He.ac),two (He.dn ⟨t2.W,E',V,st⟩) (He.ac ⟨t2.W,E',V,st⟩),Bz⟩ : Two) a' ≠ Two.b (⟨two b1 b2,two c1 c2,two (D.map He.dn) (D.map He.ac),two (He.dn ⟨t2.W,E',V,st⟩) (He.ac ⟨t2.W,E',V,st⟩),Bz⟩ : Two) 0:=fun a' h1 h2=>by
          obtain rfl : a' = 1:=by omega
          exact h12.symm
         have hne1 : ∀ a',a' < 2 -> a' ≠ 1 -> Two.b (⟨two b1 b2,two c1 c2,two (D.map He.dn) (D.map He.ac),two (He.dn ⟨t2.W,E',V,st⟩) (He.ac ⟨t2.W,E',V,st⟩),Bz⟩ : Two) a' ≠ Two.b (⟨two b1 b2,two c1 c2,two (D.map He.dn) (D.map He.ac),two (He.dn ⟨t2.W,E',V,st⟩) (He.ac ⟨t2.W,E',V,st⟩),Bz⟩ : Two) 1:=fun a' h1 h2=>by
          obtain rfl : a' = 0:=by omega
          exact h12
         have hasG : ∀ b,Two.has (⟨two b1 b2,two c1 c2,two (D.map He.dn) (D.map He.ac),two (He.dn ⟨t2.W,E',V,st⟩) (He.ac ⟨t2.W,E',V,st⟩),Bz⟩ : Two) b -> b = b1 \/ b = b2:=by
          rintro b ⟨a,ha,e⟩
          have : a = 0 \/ a = 1:=by omega
          rcases this with rfl | rfl
          · exact Or.inl e
          · exact Or.inr e
         have nWb : ¬ Two.has (⟨two b1 b2,two c1 c2,two (D.map He.dn) (D.map He.ac),two (He.dn ⟨t2.W,E',V,st⟩) (He.ac ⟨t2.W,E',V,st⟩),Bz⟩ : Two) Wb:=fun h=>by
          rcases hasG _ h with e | e
          · have:=C6.ap 2 4 Wb rfl e;omega
          · have:=C6.ap 2 5 Wb rfl e;omega
         have nXb : ¬ Two.has (⟨two b1 b2,two c1 c2,two (D.map He.dn) (D.map He.ac),two (He.dn ⟨t2.W,E',V,st⟩) (He.ac ⟨t2.W,E',V,st⟩),Bz⟩ : Two) Xb:=fun h=>by
          rcases hasG _ h with e | e
          · have:=C6.ap 3 4 Xb rfl e;omega
          · have:=C6.ap 3 5 Xb rfl e;omega
         have HNB : Hid (∀ x,(Bs2 K).has x -> ¬ Two.has (⟨two b1 b2,two c1 c2,two (D.map He.dn) (D.map He.ac),two (He.dn ⟨t2.W,E',V,st⟩) (He.ac ⟨t2.W,E',V,st⟩),Bz⟩ : Two) x):=fun x hx h=>by
          have hp : Pt L E Wb Xb b1 b2 (upd ps2 K (some t')) Bs2 (K + 6) x:=⟨by rw [hps6];simp,hx⟩
          rcases hasG _ h with e | e
          · have:=C6.ap (K + 6) 4 x hp e;omega
          · have:=C6.ap (K + 6) 5 x hp e;omega
         have HRW0 : Hid (Rz W6.drew (twoT 0) (twoZ 0) (Two.b (⟨two b1 b2,two c1 c2,two (D.map He.dn) (D.map He.ac),two (He.dn ⟨t2.W,E',V,st⟩) (He.ac ⟨t2.W,E',V,st⟩),Bz⟩ : Two) 0) (Two.c (⟨two b1 b2,two c1 c2,two (D.map He.dn) (D.map He.ac),two (He.dn ⟨t2.W,E',V,st⟩) (He.ac ⟨t2.W,E',V,st⟩),Bz⟩ : Two) 0) (Two.l (⟨two b1 b2,two c1 c2,two (D.map He.dn) (D.map He.ac),two (He.dn ⟨t2.W,E',V,st⟩) (He.ac ⟨t2.W,E',V,st⟩),Bz⟩ : Two) 0)):=C6.drew.r1
         have HRW1 : Hid (Rz W6.drew (twoT 1) (twoZ 1) (Two.b (⟨two b1 b2,two c1 c2,two (D.map He.dn) (D.map He.ac),two (He.dn ⟨t2.W,E',V,st⟩) (He.ac ⟨t2.W,E',V,st⟩),Bz⟩ : Two) 1) (Two.c (⟨two b1 b2,two c1 c2,two (D.map He.dn) (D.map He.ac),two (He.dn ⟨t2.W,E',V,st⟩) (He.ac ⟨t2.W,E',V,st⟩),Bz⟩ : Two) 1) (Two.l (⟨two b1 b2,two c1 c2,two (D.map He.dn) (D.map He.ac),two (He.dn ⟨t2.W,E',V,st⟩) (He.ac ⟨t2.W,E',V,st⟩),Bz⟩ : Two) 1)):=C6.drew.r2
         have HCd : Hid (Crew w W6.drew L E Wb Xb b1 c1 b2 c2 (K : Int) s6 (σ + 1) q' pn' (upd ps2 K (some t')) Bs2 xs2 D):=C6.drew
         have hBd : W6.drew.heap.size = Bz:=hBz
         clear C6 HC6 hasG hwc0 hxw h12 hps6
         refine wp_region_relyX_tail (KeepT (⟨two b1 b2,two c1 c2,two (D.map He.dn) (D.map He.ac),two (He.dn ⟨t2.W,E',V,st⟩) (He.ac ⟨t2.W,E',V,st⟩),Bz⟩ : Two)) anyJ 13 [.val (.slice (some ⟨b1,0,none⟩) D.length c1),.val (.int .i64 (K : Int)),.val (.pointer (some ⟨Wb,K,none⟩)),.val (.pointer (some ⟨(Bs2 K).A,0,none⟩)),.val (.agg #[.int .i64 E',.int .u64 0,.int .i64 V,.int .i64 (st : Int)]),.that (Two.boxd (⟨two b1 b2,two c1 c2,two (D.map He.dn) (D.map He.ac),two (He.dn ⟨t2.W,E',V,st⟩) (He.ac ⟨t2.W,E',V,st⟩),Bz⟩ : Two) 0) (Two.boxd_stays hf2),.that (Two.grew (⟨two b1 b2,two c1 c2,two (D.map He.dn) (D.map He.ac),two (He.dn ⟨t2.W,E',V,st⟩) (He.ac ⟨t2.W,E',V,st⟩),Bz⟩ : Two) 0) (Two.grew_stays (by decide) hf2),.val (.slice (some ⟨b2,0,none⟩) D.length c2),.val (.int .i64 (K : Int)),.val (.pointer (some ⟨Xb,K * 7,none⟩)),.val (.agg #[.int .i64 (t2.W.kd + 2),.int .i64 0,.int .u64 t2.W.nu,.int .i64 0,.int .i64 t2.W.vl,.int .i64 t2.W.ol,.bool false]),.that (Two.boxd (⟨two b1 b2,two c1 c2,two (D.map He.dn) (D.map He.ac),two (He.dn ⟨t2.W,E',V,st⟩) (He.ac ⟨t2.W,E',V,st⟩),Bz⟩ : Two) 1) (Two.boxd_stays hf2),.that (Two.grew (⟨two b1 b2,two c1 c2,two (D.map He.dn) (D.map He.ac),two (He.dn ⟨t2.W,E',V,st⟩) (He.ac ⟨t2.W,E',V,st⟩),Bz⟩ : Two) 1) (Two.grew_stays (by decide) hf2)] (by kernel_rfl) KeepT.refl KeepT.trans (by decide) (by kernel_rfl) (by kernel_rfl) (by kernel_rfl) (by kernel_rfl) (by kernel_rfl) (by kernel_rfl) trivial ?_
         simp only [List.take_succ_cons,List.take_zero,relyAllX,Act.put,List.setIfInBounds_toArray,List.set_cons_zero,List.set_cons_succ]
         refine ⟨?_,?_,?_,?_,?_,?_,fun v5=>⟨?_,fun v6=>⟨?_,?_,?_,?_,?_,fun v11=>⟨?_,fun v12=>?_⟩⟩⟩⟩
         · intro w' l hg hf hJ hl hp
           apply ol
           go_simp
           exact ⟨KeepT.refl _,rfl,trivial⟩
         · intro w' l hg hf hJ hl hp
           apply ol
           go_simp
           exact ⟨KeepT.refl _,rfl,trivial⟩
         · intro w' l hg hf hJ hl hp
           apply ol
           have hb : (0 : Int) <= (K : Int):=by omega
           go_simp
           exact ⟨KeepT.refl _,rfl,trivial⟩
         · intro w' l hg hf hJ hl hp
           apply ol
           have z:=hg.only.keep (b:=Wb) nWb hwc
           go_simp
           exact ⟨KeepT.refl _,rfl,trivial⟩
         · intro w' l hg hf hJ hl hp
           apply ol
           have tK:=HTH.out.only hg.only HNB.out
           go_simp
           refine (th_done tK HP5.out HAL.out).mono ?_
           rintro e w'' ⟨rfl,b9⟩
           exact ⟨_,rfl,KeepT.grown b9,rfl,trivial⟩
         · intro w' l hg hf hJ hl hp
           apply ol
           have hz : Bz <= w'.heap.size:=by have:=hg.only.size;have e : W6.drew.heap.size = W6.heap.size:=rfl;omega
           have hN:=At.new w' 40 [.int .i64 E',.int .u64 0,.int .i64 V,.int .i64 (st : Int)]
           go_simp
           exact ⟨KeepT.grown (grow_alloc (Below.refl _ _) _),⟨_,rfl,hz,fun j u hu=>hN.at0 j hu⟩,trivial⟩
         · intro w' l hg hf hJ hl hp
           apply ol
           have hz : Bz <= w'.heap.size:=by have:=hg.only.size;have e : W6.drew.heap.size = W6.heap.size:=rfl;omega
           have f0:=hf.1 (by kernel_rfl)
           clear hf
           obtain ⟨v',w4',hrun,hk,hgr⟩:=Two.app (F:=(⟨two b1 b2,two c1 c2,two (D.map He.dn) (D.map He.ac),two (He.dn ⟨t2.W,E',V,st⟩) (He.ac ⟨t2.W,E',V,st⟩),Bz⟩ : Two)) (a:=0) (by decide) hne0 Tryz.underlying56 Tryz.infoZ40 rfl (by decide) (by decide) HRW0.out hg f0 rfl (by intro u hu;simp only [two,He.dn,List.mem_cons,List.not_mem_nil,or_false] at hu;rcases hu with rfl | rfl | rfl | rfl <;> rfl) (by show (D.map He.dn).length <= 5000;simp;omega) hz 56 rfl rfl (by show (D.map He.dn).length = D.length;simp)
           exact rely_append3 (.tmp 130) (.tmp 135) rfl rfl rfl hrun hk ⟨hgr,trivial⟩
         · intro w' l hg hf hJ hl hp
           apply ol
           go_simp
           exact ⟨KeepT.refl _,rfl,trivial⟩
         · intro w' l hg hf hJ hl hp
           apply ol
           go_simp
           exact ⟨KeepT.refl _,rfl,trivial⟩
         · intro w' l hg hf hJ hl hp
           apply ol
           have hb : (0 : Int) <= (K : Int):=by omega
           go_simp
           exact ⟨KeepT.refl _,rfl,trivial⟩
         · intro w' l hg hf hJ hl hp
           apply ol
           have z0:=hg.only.keep (b:=Xb) nXb hx0
           have z1:=hg.only.keep (b:=Xb) nXb hx1
           have z2:=hg.only.keep (b:=Xb) nXb hx2
           have z3:=hg.only.keep (b:=Xb) nXb hx3
           have z4:=hg.only.keep (b:=Xb) nXb hx4
           have z5:=hg.only.keep (b:=Xb) nXb hx5
           have z6:=hg.only.keep (b:=Xb) nXb hx6
           go_simp
           exact ⟨KeepT.refl _,rfl,trivial⟩
         · intro w' l hg hf hJ hl hp
           apply ol
           have hz : Bz <= w'.heap.size:=by have:=hg.only.size;have e : W6.drew.heap.size = W6.heap.size:=rfl;omega
           have hN:=At.new w' 36 [.int .i64 (t2.W.kd + 2),.int .i64 0,.int .u64 t2.W.nu,.int .i64 0,.int .i64 t2.W.vl,.int .i64 t2.W.ol,.bool false]
           go_simp
           exact ⟨KeepT.grown (grow_alloc (Below.refl _ _) _),⟨_,rfl,hz,fun j u hu=>hN.at0 j hu⟩,trivial⟩
         · intro w' l hg hf hJ hl hp
           apply ol
           have hz : Bz <= w'.heap.size:=by have:=hg.only.size;have e : W6.drew.heap.size = W6.heap.size:=rfl;omega
           have f0:=hf.1 (by kernel_rfl)
           clear hf
           obtain ⟨v',w4',hrun,hk,hgr⟩:=Two.app (F:=(⟨two b1 b2,two c1 c2,two (D.map He.dn) (D.map He.ac),two (He.dn ⟨t2.W,E',V,st⟩) (He.ac ⟨t2.W,E',V,st⟩),Bz⟩ : Two)) (a:=1) (by decide) hne1 Tryz.underlying22 Tryz.infoZ36 rfl (by decide) (by decide) HRW1.out hg f0 rfl (by intro u hu;simp only [two,He.ac,actC,List.mem_cons,List.not_mem_nil,or_false] at hu;rcases hu with rfl | rfl | rfl | rfl | rfl | rfl | rfl <;> rfl) (by show (D.map He.ac).length <= 5000;simp;omega) hz 22 rfl rfl (by show (D.map He.ac).length = D.length;simp)
           exact rely_append3 (.tmp 137) (.tmp 141) rfl rfl rfl hrun hk ⟨hgr,trivial⟩
         intro w9 hg hf hJ
         obtain ⟨g2,-,g1,-,-⟩:=hf
         obtain ⟨b1',c1',b2',c2',rfl,rfl,C7⟩:=HCd.out.told (F:=(⟨two b1 b2,two c1 c2,two (D.map He.dn) (D.map He.ac),two (He.dn ⟨t2.W,E',V,st⟩) (He.ac ⟨t2.W,E',V,st⟩),Bz⟩ : Two)) (e:=⟨t2.W,E',V,st⟩) rfl rfl rfl rfl rfl rfl rfl rfl hBd.symm hg g1 g2
         have pz:=C7.ar.cell (i:=K) hK3
         have pf:=C7.ar.frozen K
         have HC7 : Hid (Crew w w9 L E Wb Xb b1' c1' b2' c2' (K : Int) s6 (σ + 1) q' pn' (upd ps2 K (some t')) Bs2 xs2 (D ++ [⟨t2.W,E',V,st⟩])):=C7
         clear C7 g1 g2 hg hJ hf2 hne0 hne1 nWb nXb HNB HRW0 HRW1 HCd hBd hBz HTH hwc hx0 hx1 hx2 hx3 hx4 hx5 hx6
         go_wp2
         have C8:=HC7.out.clear (K:=K)
         rw [upd_upd] at C8
         go_roundw
         case rel=>exact ⟨i + 1,nx,b1',c1',b2',c2',(K : Int),s6,σ + 1,q',c',pn',upd ps2 K none,Bs2,xs2,D ++ [⟨t2.W,E',V,st⟩],H',rfl,by simp,by simp,by go_num,by omega,by omega,by omega,by simp;omega,C8,HQ.out,HP2.out⟩
         case measure=>simp [intOf];omega
  · by_cases hr1 : i < T + 400
    · have hr1' : (i : Int) < (T : Int) + 400:=by omega
      have hr2' : ¬ (i : Int) < 1500:=by omega
      as_aux_lemma =>
       have hN : ∀ a,a < 3 -> ps a = none:=HP.out.end (by omega) hi4
       have w0:=HC.out.ar.cell (i:=0) (by decide)
       have w1:=HC.out.ar.cell (i:=1) (by decide)
       have w2:=HC.out.ar.cell (i:=2) (by decide)
       simp only [hN 0 (by decide),hN 1 (by decide),hN 2 (by decide),ptrB] at w0 w1 w2
       have pm : D.Perm H:=by
        have:=HW.out.pm
        rw [hN 0 (by decide),hN 1 (by decide),hN 2 (by decide)] at this
        simpa [ents] using this
       have PM : Hid (D.Perm H):=pm
       clear pm
       have HH : Hid (Hist H c σ):=HW.out.h
       have HPN : Hid (∀ a,a < 3 -> pn a = 0):=fun a ha=>by rw [HW.out.pn a ha,hN a ha];rfl
       have hDl : (D.length : Int) <= 1500:=by omega
       clear hN HW HP
       go_wp2
       clear w0 w1 w2
       go_loopw [15,16] (fun vv nv wr=>∃ m : Nat,vv = .int .i64 (after (H.take m)) /\ nv = .int .i64 m /\ m <= D.length /\ Crew w wr L E Wb Xb b1 c1 b2 c2 who s σ q pn ps Bs xs D) (fun _ nv _=>D.length - (intOf nv).toNat)
       case atStart=>exact ⟨0,rfl,rfl,Nat.zero_le _,HC.out⟩
       case round =>
        clear HC
        obtain ⟨m,rfl,rfl,hm,C⟩:=hrel
        have HC : Hid (Crew w wr L E Wb Xb b1 c1 b2 c2 who s σ q pn ps Bs xs D):=C
        clear C
        by_cases hmD : m < D.length
        · have hmD' : (m : Int) < (D.length : Int):=by omega
          go_wp2
          go_loopw [17,18] (fun av iv wr=>∃ (j : Nat) (a : Int),av = .int .i64 a /\ iv = .int .i64 j /\ j <= D.length /\ Fnd D m j a /\ Crew w wr L E Wb Xb b1 c1 b2 c2 who s σ q pn ps Bs xs D) (fun _ iv _=>D.length - (intOf iv).toNat)
          case atStart=>exact ⟨0,-1,rfl,rfl,Nat.zero_le _,Fnd.first D m,HC.out⟩
          case round =>
           clear HC
           obtain ⟨j,a,rfl,rfl,hj,F,C⟩:=hrel
           have HC : Hid (Crew w wr L E Wb Xb b1 c1 b2 c2 who s σ q pn ps Bs xs D):=C
           have HF : Hid (Fnd D m j a):=F
           clear C F
           by_cases hjD : j < D.length
           · have hjD' : (j : Int) < (D.length : Int):=by omega
             obtain ⟨ej,hej⟩ : ∃ e,D[j]? = some e:=⟨_,List.getElem?_eq_getElem hjD⟩
             have HEJ : Hid (D[j]? = some ej):=hej
             clear hej
             go_wp2
             go_loopw [19,20] (fun bv kv wr=>∃ (k : Nat),bv = .int .i64 (bef (D.take k) ej.St : Nat) /\ kv = .int .i64 k /\ k <= D.length /\ Crew w wr L E Wb Xb b1 c1 b2 c2 who s σ q pn ps Bs xs D) (fun _ kv _=>D.length - (intOf kv).toNat)
             case atStart=>exact ⟨0,rfl,rfl,Nat.zero_le _,HC.out⟩
             case round =>
              clear HC
              obtain ⟨k,rfl,rfl,hk,C⟩:=hrel
              have HC : Hid (Crew w wr L E Wb Xb b1 c1 b2 c2 who s σ q pn ps Bs xs D):=C
              clear C
              by_cases hkD : k < D.length
              · have hkD' : (k : Int) < (D.length : Int):=by omega
                obtain ⟨ek,hek⟩ : ∃ e,D[k]? = some e:=⟨_,List.getElem?_eq_getElem hkD⟩
                have hs:=bef_succ (s:=ej.St) hek
                have hbl : bef (D.take k) ej.St <= D.length:=Nat.le_trans (List.countP_le_length ..) (by rw [List.length_take];omega)
                have hbl' : ((bef (D.take k) ej.St : Nat) : Int) <= (D.length : Int):=by omega
                have c1' : wr.cell? ⟨b1,k * 4 + 3,none⟩ = some (.int .i64 (ek.St : Int)):=HC.out.r1.cell (i:=k) (j:=3) (e:=ek.dn) (by rw [List.getElem?_map,hek];rfl) rfl
                have c2' : wr.cell? ⟨b1,j * 4 + 3,none⟩ = some (.int .i64 (ej.St : Int)):=HC.out.r1.cell (i:=j) (j:=3) (e:=ej.dn) (by rw [List.getElem?_map,HEJ.out];rfl) rfl
                by_cases hst : ek.St < ej.St
                · have hst' : (ek.St : Int) < (ej.St : Int):=by omega
                  rw [if_pos hst] at hs
                  go_wp2
                  go_region
                  have C2:=HC.out.drew
                  go_wp2
                  go_roundw
                  case rel=>exact ⟨k + 1,by rw [hs];go_num,by go_num,by omega,C2⟩
                  case measure=>simp [intOf];omega
                · have hst' : ¬ (ek.St : Int) < (ej.St : Int):=by omega
                  rw [if_neg hst] at hs
                  go_wp2
                  go_region
                  have C2:=HC.out.drew
                  go_wp2
                  go_roundw
                  case rel=>exact ⟨k + 1,by rw [hs];rfl,by go_num,by omega,C2⟩
                  case measure=>simp [intOf];omega
              · have hkD' : ¬ (k : Int) < (D.length : Int):=by omega
                have hb : bef (D.take k) ej.St = bef D ej.St:=by rw [List.take_of_length_le (by omega)]
                rw [hb]
                by_cases hbm : bef D ej.St = m
                · have hbm' : ((bef D ej.St : Nat) : Int) = (m : Int):=by omega
                  go_wp2
                  go_roundw
                  case rel=>exact ⟨j + 1,(j : Int),rfl,by go_num,by omega,Fnd.yes HEJ.out hbm,HC.out⟩
                  case measure=>simp [intOf];omega
                · have hbm' : ¬ ((bef D ej.St : Nat) : Int) = (m : Int):=by omega
                  go_wp2
                  go_roundw
                  case rel=>exact ⟨j + 1,a,rfl,by go_num,by omega,HF.out.no HEJ.out hbm,HC.out⟩
                  case measure=>simp [intOf];omega
           · have hjD' : ¬ (j : Int) < (D.length : Int):=by omega
             have hF2:=HF.out
             rw [show j = D.length by omega] at hF2
             obtain ⟨j',e,rfl,hj',he,hh⟩:=hF2.end HH.out PM.out hmD
             clear hF2
             obtain ⟨hV,hEE,hVv,hfit⟩:=HH.out.ok m e hh
             have hnext : after (H.take (m + 1)) = nextV (after (H.take m)) e:=by
              obtain ⟨hl,rfl⟩:=List.getElem?_eq_some_iff.1 hh
              rw [List.take_succ_eq_append_getElem hl,after_app]
             have j0 : (0 : Int) <= (j' : Int):=by omega
             have j1 : (j' : Int) < (D.length : Int):=by omega
             have j2 : ¬ (j' : Int) < 0:=by omega
             have hed : (D.map He.dn)[j']? = some e.dn:=by rw [List.getElem?_map,he];rfl
             have hea : (D.map He.ac)[j']? = some e.ac:=by rw [List.getElem?_map,he];rfl
             have cE : wr.cell? ⟨b1,j' * 4,none⟩ = some (.int .i64 e.E):=HC.out.r1.cell (i:=j') (j:=0) hed rfl
             have cV : wr.cell? ⟨b1,j' * 4 + 2,none⟩ = some (.int .i64 e.V):=HC.out.r1.cell (i:=j') (j:=2) hed rfl
             have cK : wr.cell? ⟨b2,j' * 7,none⟩ = some (.int .i64 (e.W.kd + 2)):=HC.out.r2.cell (i:=j') (j:=0) hea rfl
             have cW : wr.cell? ⟨b2,j' * 7 + 4,none⟩ = some (.int .i64 e.W.vl):=HC.out.r2.cell (i:=j') (j:=4) hea rfl
             have cO : wr.cell? ⟨b2,j' * 7 + 5,none⟩ = some (.int .i64 e.W.ol):=HC.out.r2.cell (i:=j') (j:=5) hea rfl
             obtain ⟨v0,hv0⟩ : ∃ x,after (H.take m) = x:=⟨_,rfl⟩
             rw [hv0] at hV hnext ⊢
             obtain ⟨⟨kd,nu,ix,vl,ol⟩,eE,eV,eS⟩:=e
             have hV : eV = v0:=hV
             subst hV
             have vO : vOf eV = eV:=vOf_val hVv.1 hVv.2
             simp only at hEE cE cV cK cW cO
             clear hed hea hh he HF
             rcases hfit.kd with hk | hk | hk
             · have hk : kd = 1:=hk
               subst hk
               have e0 : eE = 0:=by rw [hEE];unfold Wt.other;simp
               subst e0
               have hval : after (H.take (m + 1)) = eV:=by rw [hnext];unfold nextV Wt.reads;simp
               have cK : wr.cell? ⟨b2,j' * 7,none⟩ = some (.int .i64 3):=cK
               clear hEE hnext hfit
               go_wp2
               go_roundw
               case rel=>exact ⟨m + 1,by rw [hval],by go_num,by omega,HC.out⟩
               case measure=>simp [intOf];omega
             · have hk : kd = 2:=hk
               subst hk
               have e0 : eE = 0:=by rw [hEE];unfold Wt.other;simp
               subst e0
               have hval : after (H.take (m + 1)) = vl:=by rw [hnext];unfold nextV Wt.reads Wt.other;simp
               have cK : wr.cell? ⟨b2,j' * 7,none⟩ = some (.int .i64 4):=cK
               clear hEE hnext hfit
               go_wp2
               go_roundw
               case rel=>exact ⟨m + 1,by rw [hval],by go_num,by omega,HC.out⟩
               case measure=>simp [intOf];omega
             · have hk : kd = 3:=hk
               subst hk
               have cK : wr.cell? ⟨b2,j' * 7,none⟩ = some (.int .i64 5):=cK
               by_cases ho : eV = ol
               · subst ho
                 have e0 : eE = 0:=by rw [hEE];unfold Wt.other;simp [vO]
                 subst e0
                 have hval : after (H.take (m + 1)) = vl:=by rw [hnext];unfold nextV Wt.reads Wt.other;simp [vO]
                 clear hEE hnext hfit
                 go_wp2
                 go_roundw
                 case rel=>exact ⟨m + 1,by rw [hval],by go_num,by omega,HC.out⟩
                 case measure=>simp [intOf];omega
               · have e0 : eE = 8:=by rw [hEE];unfold Wt.other;simp [vO,ho]
                 subst e0
                 have hval : after (H.take (m + 1)) = eV:=by rw [hnext];unfold nextV Wt.reads Wt.other;simp [vO,ho]
                 have ho' : ¬ ol = eV:=fun h=>ho h.symm
                 clear hEE hnext hfit
                 go_wp2
                 go_roundw
                 case rel=>exact ⟨m + 1,by rw [hval],by go_num,by omega,HC.out⟩
                 case measure=>simp [intOf];omega
        · have hmD' : ¬ (m : Int) < (D.length : Int):=by omega
          obtain ⟨ce,ev⟩:=HC.out.v
          have y1:=fun N : Later wr=>(ev.grown N.below).at0 7 rfl
          have hm:=fun N : Later wr=>HC.out.mm.below N.below
          haveI:=Later.exists wr
          go_wp2
          refine wp_region_later (by kernel_rfl) (by kernel_rfl) ?_
          repeat (go_big_quiet_step ((first
           | (go_at_call 16;exact Calls.later_same (lpin_any _ _ (by omega) (by omega)))
           | (go_at_call 15;exact Calls.later_same (pins8 HC.out.vl HPN.out (hm _) _ (by omega) (by omega))))))
          refine wpQuiet_nil ?_
          rintro _ ⟨nq,rfl⟩
          have b9:=grow HC.out.b nq.below
          go_wp2
          go_ret
          exact ⟨rfl,b9⟩
    · have hr1' : ¬ (i : Int) < (T : Int) + 400:=by omega
      as_aux_lemma =>
       have hN : ∀ a,a < 3 -> ps a = none:=HP.out.end (by omega) hi4
       have w0:=HC.out.ar.cell (i:=0) (by decide)
       have w1:=HC.out.ar.cell (i:=1) (by decide)
       have w2:=HC.out.ar.cell (i:=2) (by decide)
       simp only [hN 0 (by decide),hN 1 (by decide),hN 2 (by decide),ptrB] at w0 w1 w2
       have pm : D.Perm H:=by
        have:=HW.out.pm
        rw [hN 0 (by decide),hN 1 (by decide),hN 2 (by decide)] at this
        simpa [ents] using this
       have PM : Hid (D.Perm H):=pm
       clear pm
       have HH : Hid (Hist H c σ):=HW.out.h
       have HPN : Hid (∀ a,a < 3 -> pn a = 0):=fun a ha=>by rw [HW.out.pn a ha,hN a ha];rfl
       have hDl : (D.length : Int) <= 1500:=by omega
       clear hN HW HP
       go_wp2
       clear w0 w1 w2
       go_loopw [15,16] (fun vv nv wr=>∃ m : Nat,vv = .int .i64 (after (H.take m)) /\ nv = .int .i64 m /\ m <= D.length /\ Crew w wr L E Wb Xb b1 c1 b2 c2 who s σ q pn ps Bs xs D) (fun _ nv _=>D.length - (intOf nv).toNat)
       case atStart=>exact ⟨0,rfl,rfl,Nat.zero_le _,HC.out⟩
       case round =>
        clear HC
        obtain ⟨m,rfl,rfl,hm,C⟩:=hrel
        have HC : Hid (Crew w wr L E Wb Xb b1 c1 b2 c2 who s σ q pn ps Bs xs D):=C
        clear C
        by_cases hmD : m < D.length
        · have hmD' : (m : Int) < (D.length : Int):=by omega
          go_wp2
          go_loopw [17,18] (fun av iv wr=>∃ (j : Nat) (a : Int),av = .int .i64 a /\ iv = .int .i64 j /\ j <= D.length /\ Fnd D m j a /\ Crew w wr L E Wb Xb b1 c1 b2 c2 who s σ q pn ps Bs xs D) (fun _ iv _=>D.length - (intOf iv).toNat)
          case atStart=>exact ⟨0,-1,rfl,rfl,Nat.zero_le _,Fnd.first D m,HC.out⟩
          case round =>
           clear HC
           obtain ⟨j,a,rfl,rfl,hj,F,C⟩:=hrel
           have HC : Hid (Crew w wr L E Wb Xb b1 c1 b2 c2 who s σ q pn ps Bs xs D):=C
           have HF : Hid (Fnd D m j a):=F
           clear C F
           by_cases hjD : j < D.length
           · have hjD' : (j : Int) < (D.length : Int):=by omega
             obtain ⟨ej,hej⟩ : ∃ e,D[j]? = some e:=⟨_,List.getElem?_eq_getElem hjD⟩
             have HEJ : Hid (D[j]? = some ej):=hej
             clear hej
             go_wp2
             go_loopw [19,20] (fun bv kv wr=>∃ (k : Nat),bv = .int .i64 (bef (D.take k) ej.St : Nat) /\ kv = .int .i64 k /\ k <= D.length /\ Crew w wr L E Wb Xb b1 c1 b2 c2 who s σ q pn ps Bs xs D) (fun _ kv _=>D.length - (intOf kv).toNat)
             case atStart=>exact ⟨0,rfl,rfl,Nat.zero_le _,HC.out⟩
             case round =>
              clear HC
              obtain ⟨k,rfl,rfl,hk,C⟩:=hrel
              have HC : Hid (Crew w wr L E Wb Xb b1 c1 b2 c2 who s σ q pn ps Bs xs D):=C
              clear C
              by_cases hkD : k < D.length
              · have hkD' : (k : Int) < (D.length : Int):=by omega
                obtain ⟨ek,hek⟩ : ∃ e,D[k]? = some e:=⟨_,List.getElem?_eq_getElem hkD⟩
                have hs:=bef_succ (s:=ej.St) hek
                have hbl : bef (D.take k) ej.St <= D.length:=Nat.le_trans (List.countP_le_length ..) (by rw [List.length_take];omega)
                have hbl' : ((bef (D.take k) ej.St : Nat) : Int) <= (D.length : Int):=by omega
                have c1' : wr.cell? ⟨b1,k * 4 + 3,none⟩ = some (.int .i64 (ek.St : Int)):=HC.out.r1.cell (i:=k) (j:=3) (e:=ek.dn) (by rw [List.getElem?_map,hek];rfl) rfl
                have c2' : wr.cell? ⟨b1,j * 4 + 3,none⟩ = some (.int .i64 (ej.St : Int)):=HC.out.r1.cell (i:=j) (j:=3) (e:=ej.dn) (by rw [List.getElem?_map,HEJ.out];rfl) rfl
                by_cases hst : ek.St < ej.St
                · have hst' : (ek.St : Int) < (ej.St : Int):=by omega
                  rw [if_pos hst] at hs
                  go_wp2
                  go_region
                  have C2:=HC.out.drew
                  go_wp2
                  go_roundw
                  case rel=>exact ⟨k + 1,by rw [hs];go_num,by go_num,by omega,C2⟩
                  case measure=>simp [intOf];omega
                · have hst' : ¬ (ek.St : Int) < (ej.St : Int):=by omega
                  rw [if_neg hst] at hs
                  go_wp2
                  go_region
                  have C2:=HC.out.drew
                  go_wp2
                  go_roundw
                  case rel=>exact ⟨k + 1,by rw [hs];rfl,by go_num,by omega,C2⟩
                  case measure=>simp [intOf];omega
              · have hkD' : ¬ (k : Int) < (D.length : Int):=by omega
                have hb : bef (D.take k) ej.St = bef D ej.St:=by rw [List.take_of_length_le (by omega)]
                rw [hb]
                by_cases hbm : bef D ej.St = m
                · have hbm' : ((bef D ej.St : Nat) : Int) = (m : Int):=by omega
                  go_wp2
                  go_roundw
                  case rel=>exact ⟨j + 1,(j : Int),rfl,by go_num,by omega,Fnd.yes HEJ.out hbm,HC.out⟩
                  case measure=>simp [intOf];omega
                · have hbm' : ¬ ((bef D ej.St : Nat) : Int) = (m : Int):=by omega
                  go_wp2
                  go_roundw
                  case rel=>exact ⟨j + 1,a,rfl,by go_num,by omega,HF.out.no HEJ.out hbm,HC.out⟩
                  case measure=>simp [intOf];omega
           · have hjD' : ¬ (j : Int) < (D.length : Int):=by omega
             have hF2:=HF.out
             rw [show j = D.length by omega] at hF2
             obtain ⟨j',e,rfl,hj',he,hh⟩:=hF2.end HH.out PM.out hmD
             clear hF2
             obtain ⟨hV,hEE,hVv,hfit⟩:=HH.out.ok m e hh
             have hnext : after (H.take (m + 1)) = nextV (after (H.take m)) e:=by
              obtain ⟨hl,rfl⟩:=List.getElem?_eq_some_iff.1 hh
              rw [List.take_succ_eq_append_getElem hl,after_app]
             have j0 : (0 : Int) <= (j' : Int):=by omega
             have j1 : (j' : Int) < (D.length : Int):=by omega
             have j2 : ¬ (j' : Int) < 0:=by omega
             have hed : (D.map He.dn)[j']? = some e.dn:=by rw [List.getElem?_map,he];rfl
             have hea : (D.map He.ac)[j']? = some e.ac:=by rw [List.getElem?_map,he];rfl
             have cE : wr.cell? ⟨b1,j' * 4,none⟩ = some (.int .i64 e.E):=HC.out.r1.cell (i:=j') (j:=0) hed rfl
             have cV : wr.cell? ⟨b1,j' * 4 + 2,none⟩ = some (.int .i64 e.V):=HC.out.r1.cell (i:=j') (j:=2) hed rfl
             have cK : wr.cell? ⟨b2,j' * 7,none⟩ = some (.int .i64 (e.W.kd + 2)):=HC.out.r2.cell (i:=j') (j:=0) hea rfl
             have cW : wr.cell? ⟨b2,j' * 7 + 4,none⟩ = some (.int .i64 e.W.vl):=HC.out.r2.cell (i:=j') (j:=4) hea rfl
             have cO : wr.cell? ⟨b2,j' * 7 + 5,none⟩ = some (.int .i64 e.W.ol):=HC.out.r2.cell (i:=j') (j:=5) hea rfl
             obtain ⟨v0,hv0⟩ : ∃ x,after (H.take m) = x:=⟨_,rfl⟩
             rw [hv0] at hV hnext ⊢
             obtain ⟨⟨kd,nu,ix,vl,ol⟩,eE,eV,eS⟩:=e
             have hV : eV = v0:=hV
             subst hV
             have vO : vOf eV = eV:=vOf_val hVv.1 hVv.2
             simp only at hEE cE cV cK cW cO
             clear hed hea hh he HF
             rcases hfit.kd with hk | hk | hk
             · have hk : kd = 1:=hk
               subst hk
               have e0 : eE = 0:=by rw [hEE];unfold Wt.other;simp
               subst e0
               have hval : after (H.take (m + 1)) = eV:=by rw [hnext];unfold nextV Wt.reads;simp
               have cK : wr.cell? ⟨b2,j' * 7,none⟩ = some (.int .i64 3):=cK
               clear hEE hnext hfit
               go_wp2
               go_roundw
               case rel=>exact ⟨m + 1,by rw [hval],by go_num,by omega,HC.out⟩
               case measure=>simp [intOf];omega
             · have hk : kd = 2:=hk
               subst hk
               have e0 : eE = 0:=by rw [hEE];unfold Wt.other;simp
               subst e0
               have hval : after (H.take (m + 1)) = vl:=by rw [hnext];unfold nextV Wt.reads Wt.other;simp
               have cK : wr.cell? ⟨b2,j' * 7,none⟩ = some (.int .i64 4):=cK
               clear hEE hnext hfit
               go_wp2
               go_roundw
               case rel=>exact ⟨m + 1,by rw [hval],by go_num,by omega,HC.out⟩
               case measure=>simp [intOf];omega
             · have hk : kd = 3:=hk
               subst hk
               have cK : wr.cell? ⟨b2,j' * 7,none⟩ = some (.int .i64 5):=cK
               by_cases ho : eV = ol
               · subst ho
                 have e0 : eE = 0:=by rw [hEE];unfold Wt.other;simp [vO]
                 subst e0
                 have hval : after (H.take (m + 1)) = vl:=by rw [hnext];unfold nextV Wt.reads Wt.other;simp [vO]
                 clear hEE hnext hfit
                 go_wp2
                 go_roundw
                 case rel=>exact ⟨m + 1,by rw [hval],by go_num,by omega,HC.out⟩
                 case measure=>simp [intOf];omega
               · have e0 : eE = 8:=by rw [hEE];unfold Wt.other;simp [vO,ho]
                 subst e0
                 have hval : after (H.take (m + 1)) = eV:=by rw [hnext];unfold nextV Wt.reads Wt.other;simp [vO,ho]
                 have ho' : ¬ ol = eV:=fun h=>ho h.symm
                 clear hEE hnext hfit
                 go_wp2
                 go_roundw
                 case rel=>exact ⟨m + 1,by rw [hval],by go_num,by omega,HC.out⟩
                 case measure=>simp [intOf];omega
        · have hmD' : ¬ (m : Int) < (D.length : Int):=by omega
          obtain ⟨ce,ev⟩:=HC.out.v
          have y1:=fun N : Later wr=>(ev.grown N.below).at0 7 rfl
          have hm:=fun N : Later wr=>HC.out.mm.below N.below
          haveI:=Later.exists wr
          go_wp2
          refine wp_region_later (by kernel_rfl) (by kernel_rfl) ?_
          repeat (go_big_quiet_step ((first
           | (go_at_call 16;exact Calls.later_same (lpin_any _ _ (by omega) (by omega)))
           | (go_at_call 15;exact Calls.later_same (pins8 HC.out.vl HPN.out (hm _) _ (by omega) (by omega))))))
          refine wpQuiet_nil ?_
          rintro _ ⟨nq,rfl⟩
          have b9:=grow HC.out.b nq.below
          go_wp2
          go_ret
          exact ⟨rfl,b9⟩
end Go.Proofs.YtlolfmoolgenpaaGreat
