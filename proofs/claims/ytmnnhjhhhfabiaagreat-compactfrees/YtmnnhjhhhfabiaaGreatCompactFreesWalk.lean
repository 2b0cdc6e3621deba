import Derived.Test.YtmnnhjhhhfabiaaGreatCompScene
import Derived.Test.YtmnnhjhhhfabiaaGreatDropGo
import Derived.Test.YtmnnhjhhhfabiaaGreatArgs
namespace Go.Proofs.YtmnnhjhhhfabiaaGreat
open Go.RowKit
set_option maxRecDepth 20000
set_option maxRecDepth 20000 in
set_option maxHeartbeats 4000000 in
theorem compactFrees_any (ao : Option Addr) (M cap : Nat) (z : Nat -> Int) (w : World) (hr : IntsAt .i64 w ao M z) :
 Calls Tryz.prog 4 #[.slice ao M cap] w fun e w'=>e = .returned (.bool true) /\ Below w.heap.size w w':=by
 have HR : Hid (IntsAt .i64 w ao M z):=hr
 clear hr
 have AR:=fun w=>arena04_any good30 w
 go_enter Tryz.func4,Tryz.ntmps4
 go_wp2_with (first
  | (go_at_call 9;refine (AR _).mono ?_;rintro e w1 ⟨L,rfl,m1,b1,l1⟩;have v1:=Go.Deep.blk_alloc_new w1 (.cells #[.int .i64 1,.int .i64 30,.int .i64 8,.int .i64 34,.int .i64 100,.int .i64 600,.int .i64 3,.pointer (some ⟨L.p,0,none⟩),.int .i64 0] 28))
  | (go_at_call 10;go_must (refine (awake14_any _).mono ?_;rintro e w2 ⟨rfl,b2⟩)))
 obtain ⟨E,hE⟩ : ∃ E,w1.heap.size = E:=⟨_,rfl⟩
 rw [hE] at v1
 have hle:=b1.size
 have hnb:=Go.Deep.nblk_alloc w1 (.cells #[.int .i64 1,.int .i64 30,.int .i64 8,.int .i64 34,.int .i64 100,.int .i64 600,.int .i64 3,.pointer (some ⟨L.p,0,none⟩),.int .i64 0] 28)
 have hb2:=b2.size
 have S0 : Hid (Sc 600 w (w2.alloc (.cells #[] 34)) L E 1 30 8 34 0 (Mm.laid 1 30 (arenaLen 1 30 8 34) 30) [⟨34,w2.heap.size,0,hsO []⟩]):=by
  refine ⟨((m1.alloc _).below b2).alloc _,((gro1 _ _).block _ (by omega)).trans ((b2.block _ (by omega)).trans v1),grow_alloc (grow (grow_alloc b1 _) b2) _,fun r hr=>?_,List.pairwise_singleton _ _,l1,fun hh=>by have:=m1.lt _ hh;omega,by omega⟩
  rw [List.mem_singleton] at hr
  subst hr
  exact ⟨Rw.fresh14 _ _,fun hh=>by have:=m1.lt _ hh;simp only at this;omega,by simp only;omega,by simp only;omega⟩
 clear v1 m1 b1 l1 b2
 simp only [hE]
 clear hE hle hnb hb2
 go_loopw [5,7] (fun v iv wr=>∃ (j bl cap2 : Nat) (s : Mm) (σ : Nat) (q : Q) (nx : Nat) (ls : List Ox),iv = .int .i64 j /\ v = .slice (some ⟨bl,0,none⟩) ls.length cap2 /\ j <= 30 /\ σ <= 61 + 100 * j /\ Sc 600 w wr L E 1 30 8 34 0 s [⟨34,bl,cap2,hsO ls⟩] /\ Ranch 1 30 8 34 s σ ⟨q,0,fun _=>0,fun _=>0⟩ nx (fun _=>1) ls /\ MadeI nx q ls j) (fun _ iv _=>30 - (intOf iv).toNat)
 case atStart=>exact ⟨0,_,0,_,_,_,_,[],rfl,rfl,by decide,by decide,S0.out,ranch0 good30 (by decide),made0 30⟩
 case round =>
 clear S0
 obtain ⟨j,bl,cap2,s,σ,q,nx,ls,rfl,rfl,hj,hσ,S,RR,I⟩:=hrel
 have HI : Hid (MadeI nx q ls j):=I
 have HRR : Hid (Ranch 1 30 8 34 s σ ⟨q,0,fun _=>0,fun _=>0⟩ nx (fun _=>1) ls):=RR
 clear I RR
 by_cases hjM : j < M /\ j < 30
 · have h1 : decide ((j : Int) < (M : Int)) = true:=decide_eq_true (by omega)
   have h2 : decide ((j : Int) < 30) = true:=decide_eq_true (by omega)
   have hw1 : wrap64 ((j : Int) + 1) = (j : Int) + 1:=by unfold wrap64;omega
   obtain ⟨zb,zo,rfl,hk⟩:=HR.out j hjM.1
   have HKZ : Hid (w.cell? ⟨zb,zo + j,none⟩ = some (.int .i64 (z j))):=hk
   obtain ⟨Z,hZ,z1,z2⟩:=lowAt (z j) 15 4 1 (by decide) (by decide)
   have hZw : IntKind.i64.wrap (1 + bits .and .i64 (z j) 15) = (Z : Int):=by
    have : (1 : Int) + bits .and .i64 (z j) 15 = (Z : Int):=hZ
    rw [this,IntKind.wrap_i64];omega
   have z16 : Z <= 16:=by omega
   obtain ⟨κ,kz,hκ⟩:=class_of z1 z16
   have hσ4 : σ + 400 < 1000000:=by omega
   obtain ⟨E0,H0,q',nx',ls',Mk1,MK⟩:=HRR.out.fate (own:=false) (L:=L) good30 z1 z16 kz hκ hσ4 0
   have HMK : Hid (∀ w : World,MemAt w L s -> Calls Tryz.prog 11 #[.agg #[.int .i64 1,.int .i64 30,.int .i64 8,.int .i64 34,.int .i64 100,.int .i64 600,.int .i64 3,.pointer (some ⟨L.p,0,none⟩),.int .i64 0],.int .i64 Z,.bool false] w fun e w'=>∃ (st : Nat) (s' : Mm) (σ' : Nat),e = .returned (.agg #[.int .i64 E0,.int .u64 H0,.int .i64 0,.int .i64 st]) /\ MemAt w' L s' /\ Ranch 1 30 8 34 s' σ' ⟨q',0,fun _=>0,fun _=>0⟩ nx' (fun _=>1) ls' /\ σ' <= σ + 100 /\ Only L.has w w'):=MK
   obtain ⟨I2,hfate⟩:=Mk1.madeI HI.out
   have HI2 : Hid (MadeI nx' q' ls' (j + 1)):=I2
   clear hk hZ kz z2 MK Mk1 I2
   go_wp2
   refine wp_over (fun W=>Sc 600 w W L E 1 30 8 34 0 s [⟨34,bl,cap2,hsO ls⟩]) S ?_
   clear S
   rintro W S1
   obtain ⟨Sz,hSz⟩ : ∃ Sz,W.heap.size = Sz:=⟨_,rfl⟩
   have hLS : ∀ x,L.has x -> x < Sz:=fun x hx=>by have:=S1.mm.lt x hx;omega
   refine wp_region_phase_tail (Only L.has) Grown (ph2 (fun W'=>Sc 600 w W' L E 1 30 8 34 0 s [⟨34,bl,cap2,hsO ls⟩]) (fun W'=>∃ s' σ',σ' <= σ + 100 /\ Sc 600 w W' L E 1 30 8 34 0 s' [⟨34,bl,cap2,hsO ls⟩] /\ Ranch 1 30 8 34 s' σ' ⟨q',0,fun _=>0,fun _=>0⟩ nx' (fun _=>1) ls')) 9 [7] [.val (.agg #[.int .i64 1,.int .i64 30,.int .i64 8,.int .i64 34,.int .i64 100,.int .i64 600,.int .i64 3,.pointer (some ⟨L.p,0,none⟩),.int .i64 0]),.val (.slice (some ⟨zb,zo,none⟩) M cap),.val (.int .i64 j),.val (.pointer (some ⟨zb,zo + j,none⟩)),.val (.int .i64 (z j)),.val (.int .i64 (bits .and .i64 (z j) 15)),.val (.int .i64 (Z : Nat)),.that (fun _ v=>∃ st : Nat,v = .agg #[.int .i64 E0,.int .u64 H0,.int .i64 0,.int .i64 st]) (fun _ _ _ _ h=>h),.that (fun w' v=>∃ X,v = .pointer (some ⟨X,0,none⟩) /\ Sz <= X /\ At w' X 0 36 #[.int .i64 0,.int .u64 0,.int .i64 0,.int .i64 0] [.int .i64 0,.int .u64 0,.int .i64 0,.int .i64 0]) ?_]
    (by kernel_rfl) (Only.refl _) (fun _ _ _ h k=>h.trans k) (fun x y h=>Only.ofGrown h) (ph2_grown (fun x y g h=>h.grown g) (fun x y g h=>by obtain ⟨s',σ',h1,h2,h3⟩:=h;exact ⟨s',σ',h1,h2.grown g,h3⟩)) S1.drew (by decide) (by kernel_rfl) (by kernel_rfl) (by kernel_rfl) (by kernel_rfl) (by kernel_rfl) (by kernel_rfl) (by kernel_rfl) (by kernel_rfl) ?_
   · rintro x1 y1 v hg ⟨X,hv,hb,hr⟩
     exact ⟨X,hv,hb,hr.only hg (fun hh=>by have:=hLS _ hh;omega)⟩
   simp only [List.take_succ_cons,List.take_zero,phaseAll,Act.put,List.setIfInBounds_toArray,List.set_cons_zero,List.set_cons_succ]
   refine ⟨?_,?_,?_,?_,?_,?_,?_,?_,?_⟩
   · intro w' hR _;apply ol;have SS:=S1.drew.v.only hR (S1.a.e);obtain ⟨y0,y1,y2,y3,y4,y5,y6,y7,y8⟩:=id SS;go_simp;exact gl
   · intros;apply ol;go_simp;exact gl
   · intros;apply ol;go_simp;exact gl
   · intro w' hR _
     apply ol
     have hb1 : (0 : Int) <= (j : Int) /\ (j : Int) < (M : Int):=by omega
     go_simp
     exact gl
   · intro w' hR _;apply ol;have bb:=mgrow S1.drew.b hR S1.a.l0;have z1:=keep' bb HKZ.out;go_simp;exact gl
   · intros;apply ol;go_simp;exact gl
   · intro w' hR _;apply ol;go_simp;exact ⟨Grown.refl _,by first | rfl | exact congrArg (Value.int .i64) hZw | (simp only [Want.pred];exact congrArg (Value.int .i64) hZw)⟩
   · intro w' hR _ hP;apply ol;have hP' : Sc 600 w w' L E 1 30 8 34 0 s [⟨34,bl,cap2,hsO ls⟩]:=hP;go_simp;refine (HMK.out w' hP'.mm).mono ?_;rintro e w'' ⟨st,s',σ',rfl,h1,h2,h3,h4⟩;exact ⟨_,rfl,⟨h4,s',σ',h3,hP'.mem h4 h1,h2⟩,st,rfl⟩
   intro vD
   refine ⟨?_,?_⟩
   · intro w' hR _
     apply ol
     have hzz : Sz <= w'.heap.size:=by have:=hR.size;have e : W.drew.heap.size = W.heap.size:=rfl;omega
     have qq:=At.new w' 36 [.int .i64 0,.int .u64 0,.int .i64 0,.int .i64 0]
     go_simp
     exact ⟨gro1 _ _,_,rfl,hzz,qq⟩
   intro vX w8 hR hP hf
   obtain ⟨D,rfl,hDS,d8⟩:=hf.1
   obtain ⟨st,rfl⟩:=hf.2.1
   obtain ⟨s6,σ6,hσ6,S8,R8⟩ : ∃ s' σ',σ' <= σ + 100 /\ Sc 600 w w8 L E 1 30 8 34 0 s' [⟨34,bl,cap2,hsO ls⟩] /\ Ranch 1 30 8 34 s' σ' ⟨q',0,fun _=>0,fun _=>0⟩ nx' (fun _=>1) ls':=hP
   obtain ⟨n1,n2,n3,n4⟩:=S1.new (D:=D) (by omega)
   have x0:=d8.at0 0 rfl
   have x1:=d8.at0 1 rfl
   have x2:=d8.at0 2 rfl
   have x3:=d8.at0 3 rfl
   have xf:=d8.fz
   have S9:=(((S8.setIn n1 n2 n3 n4 0 (.int .i64 E0)).setIn n1 n2 n3 n4 1 (.int .u64 H0)).setIn n1 n2 n3 n4 2 (.int .i64 0)).setIn n1 n2 n3 n4 3 (.int .i64 st)
   have d9:=(((d8.put0 0 (.int .i64 E0)).put0 1 (.int .u64 H0)).put0 2 (.int .i64 0)).put0 3 (.int .i64 st)
   have e0:=d9.at0 0 rfl
   have e1:=d9.at0 1 rfl
   clear hR hf S8 d8 hLS hSz hDS HMK S1 n1 n2 n3 n4
   rcases hfate with hok | hno
   · skip
     obtain ⟨rfl,o,hls',hH0⟩:=hok
     have HO : Hid (ls' = o :: ls /\ H0 = packH o.x o.g):=⟨hls',hH0⟩
     clear hls' hH0
     obtain ⟨w9,hw9⟩ : ∃ w9,w9 = (((w8.setCell ⟨D,0,none⟩ (.int .i64 0)).setCell ⟨D,1,none⟩ (.int .u64 H0)).setCell ⟨D,2,none⟩ (.int .i64 0)).setCell ⟨D,3,none⟩ (.int .i64 st):=⟨_,rfl⟩
     rw [<- hw9] at S9 e0 e1
     have S10:=S9.grown (gro1 _ (.cells #[.int .u64 H0] 34))
     have hg1 : (w9.alloc (.cells #[.int .u64 H0] 34)).cell? ⟨w9.heap.size,0,none⟩ = some (.int .u64 H0):=by simp
     obtain ⟨b',cap',w',hrun,r',o',hwh⟩:=Rw.app (S:=32) (by kernel_rfl) Tryz.infoR34 rfl (by decide) (S10.row List.mem_cons_self).rw w9.heap.size (.int .u64 H0) rfl hg1 (by show (hsO ls).length <= _;rw [hsO_len];have:=HI.out.len;omega) 32
     have hsz : w9.heap.size = w8.heap.size:=by rw [hw9];simp
     have hrun:=hrun
     simp only [hsO_len,hsz] at hrun
     clear hsz
     have S11:=S10.first (r':=⟨34,b',cap',hsO ls ++ [.int .u64 H0]⟩) o' r' (hwh.elim (fun h=>Or.inl h.1) (fun h=>Or.inr h.1))
     have HS11 : Hid (Sc 600 w w' L E 1 30 8 34 0 s6 [⟨34,b',cap',hsO ls ++ [.int .u64 H0]⟩]):=S11
     have HR8 : Hid (Ranch 1 30 8 34 s6 σ6 ⟨q',0,fun _=>0,fun _=>0⟩ nx' (fun _=>1) ls'):=R8
     clear S9 S10 S11 hg1 r' o' hwh R8
     simp only [hw9] at hrun e0 e1
     clear hw9
     go_wp2_with (at_builtin;go_must (refine wpList_ran rfl (.tmp 47) (.tmp 50) rfl rfl rfl hrun ?_))
     go_roundw
     case rel =>
      refine ⟨j + 1,b',cap',s6,σ6,q',nx',o :: ls,by go_num,by simp only [List.length_cons],by omega,by omega,?_,?_,?_⟩
      · rw [hsO_cons,<- HO.out.2];exact HS11.out
      · rw [<- HO.out.1];exact HR8.out
      · rw [<- HO.out.1];exact HI2.out
     case measure=>simp [intOf];omega
   · skip
     obtain ⟨hE,hls',hnx'⟩:=hno
     have HN : Hid (ls' = ls /\ nx' = nx):=⟨hls',hnx'⟩
     clear hls' hnx'
     rcases hE with rfl | rfl
     · skip
       have HS9 : Hid (Sc 600 w _ L E 1 30 8 34 0 s6 [⟨34,bl,cap2,hsO ls⟩]):=S9
       have HR8 : Hid (Ranch 1 30 8 34 s6 σ6 ⟨q',0,fun _=>0,fun _=>0⟩ nx' (fun _=>1) ls'):=R8
       clear S9 R8
       go_wp2
       go_roundw
       case rel=>exact ⟨j + 1,bl,cap2,s6,σ6,q',nx,ls,by go_num,rfl,by omega,by omega,HS9.out,HN.out.2 ▸ HN.out.1 ▸ HR8.out,HN.out.2 ▸ HN.out.1 ▸ HI2.out⟩
       case measure=>simp [intOf];omega
     · skip
       have HS9 : Hid (Sc 600 w _ L E 1 30 8 34 0 s6 [⟨34,bl,cap2,hsO ls⟩]):=S9
       have HR8 : Hid (Ranch 1 30 8 34 s6 σ6 ⟨q',0,fun _=>0,fun _=>0⟩ nx' (fun _=>1) ls'):=R8
       clear S9 R8
       go_wp2
       go_roundw
       case rel=>exact ⟨j + 1,bl,cap2,s6,σ6,q',nx,ls,by go_num,rfl,by omega,by omega,HS9.out,HN.out.2 ▸ HN.out.1 ▸ HR8.out,HN.out.2 ▸ HN.out.1 ▸ HI2.out⟩
       case measure=>simp [intOf];omega
 · by_cases hM : j < M
   · have h1 : decide ((j : Int) < (M : Int)) = true:=decide_eq_true (by omega)
     have h2 : decide ((j : Int) < 30) = false:=decide_eq_false (by omega)
     as_aux_lemma =>
     have U0 : Hid (Sc 600 w wr L E 1 30 8 34 0 s [⟨34,bl,cap2,hsO ls⟩]):=S
     clear S
     go_wp2
     go_loopw [9] (fun iv wr=>∃ (d : Nat) (s : Mm) (σ : Nat) (q : Q) (gen : Nat -> Nat),iv = .int .i64 d /\ d <= ls.length /\ σ <= 3061 + 40 * d /\ Sc 600 w wr L E 1 30 8 34 0 s [⟨34,bl,cap2,hsO ls⟩] /\ Ranch 1 30 8 34 s σ ⟨q,0,fun _=>0,fun _=>0⟩ nx gen (leftO ls d) /\ UsedY nx q.y /\ ∀ i,q.db i = 0) (fun iv _=>ls.length - (intOf iv).toNat)
     case atStart=>exact ⟨0,s,σ,q,_,rfl,Nat.zero_le _,by omega,U0.out,(leftO_0 ls).symm ▸ HRR.out,HI.out.us,HI.out.db⟩
     case round =>
     clear U0 HRR
     obtain ⟨d,s1,σ1,q1,gen,rfl,hd,hσ1,S,RR,hU,hdb⟩:=hrel
     have hl30:=HI.out.len
     have HUD : Hid (UsedY nx q1.y /\ ∀ i,q1.db i = 0):=⟨hU,hdb⟩
     clear hU hdb
     by_cases hd6 : d < ls.length
     · have hdd : decide ((d : Int) < (ls.length : Int)) = true:=decide_eq_true (by omega)
       have hσ4 : σ1 + 200 < 1000000:=by omega
       have hw1 : wrap64 ((d : Int) + 1) = (d : Int) + 1:=by unfold wrap64;omega
       have fl : ∀ (a1 a2 a3 a4 : Value) (w : World),(Instr.field 36 (.agg #[a1,a2,a3,a4]) 0).run Tryz.prog w = .ok a1 w:=fun a1 a2 a3 a4 w=>by kernel_rfl
       obtain ⟨H,hH,q2,gen2,hy2,hdb2,DK⟩:=RR.drops (L:=L) good30 hd6 HI.out.g1 hσ4 0
       have HHC : Hid ((hsO ls)[d]? = some (.int .u64 H)):=hH
       have HDK : Hid (∀ w : World,MemAt w L s1 -> Calls Tryz.prog 16 #[.agg #[.int .i64 1,.int .i64 30,.int .i64 8,.int .i64 34,.int .i64 100,.int .i64 600,.int .i64 3,.pointer (some ⟨L.p,0,none⟩),.int .i64 0],.int .u64 H,.bool false] w fun e w'=>∃ (st : Int) (s' : Mm) (σ' : Nat),e = .returned (.agg #[.int .i64 0,.int .u64 0,.int .i64 0,.int .i64 st]) /\ MemAt w' L s' /\ Ranch 1 30 8 34 s' σ' ⟨q2,0,fun _=>0,fun _=>0⟩ nx gen2 (leftO ls (d + 1)) /\ σ' <= σ1 + 40 /\ Only L.has w w'):=DK
       have HY2 : Hid (q2.y = q1.y /\ q2.db = q1.db):=⟨hy2,hdb2⟩
       clear hH DK hy2 hdb2 RR
       go_wp2
       refine wp_over (fun W=>Sc 600 w W L E 1 30 8 34 0 s1 [⟨34,bl,cap2,hsO ls⟩]) S ?_
       clear S
       rintro W S1
       refine wp_region_rely_tail Grown 5 [.val (.agg #[.int .i64 1,.int .i64 30,.int .i64 8,.int .i64 34,.int .i64 100,.int .i64 600,.int .i64 3,.pointer (some ⟨L.p,0,none⟩),.int .i64 0]),.val (.slice (some ⟨bl,0,none⟩) ls.length cap2),.val (.int .i64 d),.val (.pointer (some ⟨bl,d,none⟩)),.val (.int .u64 H)] (by kernel_rfl) Grown.refl Grown.trans (by decide) (by kernel_rfl) (by kernel_rfl) (by kernel_rfl) (by kernel_rfl) (by kernel_rfl) (by kernel_rfl) ?_
       simp only [List.take_succ_cons,List.take_zero,relyAll,Act.put,List.setIfInBounds_toArray,List.set_cons_zero,List.set_cons_succ]
       refine ⟨?_,?_,?_,?_,?_,?_⟩
       · intro w' hg _;apply ol;have SS:=S1.drew.grown hg;obtain ⟨y0,y1,y2,y3,y4,y5,y6,y7,y8⟩:=SS.v;go_simp;exact gl
       · intro w' hg _;apply ol;have SS:=S1.drew.grown hg;go_simp;exact gl
       · intro w' hg _;apply ol;have SS:=S1.drew.grown hg;go_simp;exact gl
       · intro w' hg _
         apply ol
         have SS:=S1.drew.grown hg
         have hb1 : (0 : Int) <= (d : Int) /\ (d : Int) < (ls.length : Int):=by omega
         go_simp
         exact gl
       · intro w' hg _;apply ol;have SS:=S1.drew.grown hg;have z:=(SS.row List.mem_cons_self).rw.cell HHC.out;go_simp;exact gl
       intro w5 hg _
       have S5:=S1.drew.grown hg
       clear hg S1
       go_wp2_with (go_at_call 16;go_must (refine (HDK.out _ S5.mm).mono ?_;rintro e w6 ⟨st,s',σ',rfl,m2,r2,h2,o2⟩))
       go_roundw
       case rel=>exact ⟨d + 1,s',σ',q2,gen2,by go_num,by omega,by omega,S5.mem o2 m2,r2,by rw [HY2.out.1];exact HUD.out.1,fun i=>by rw [HY2.out.2];exact HUD.out.2 i⟩
       case measure=>simp [intOf];omega
     · have hdd : decide ((d : Int) < (ls.length : Int)) = false:=decide_eq_false (by omega)
       have hde : d = ls.length:=by omega
       rw [hde,leftO_all] at RR
       have HOP : Hid (∀ c,c < 4 -> s1.wd (2 + c) = (q1.y.op c : Int)):=RR.ld.tw.yard.opv
       have HLN : Hid (s1.n = 363):=RR.ld.tw.yard.len
       have HR1 : Hid (Ranch 1 30 8 34 s1 σ1 ⟨q1,0,fun _=>0,fun _=>0⟩ nx gen []):=RR
       have U0 : Hid (Sc 600 w wr L E 1 30 8 34 0 s1 [⟨34,bl,cap2,hsO ls⟩]):=S
       clear S RR
       go_wp2
       go_loopw [6,10] (fun v iv wr=>∃ c : Nat,iv = .int .i64 c /\ v = .int .i64 (cntB q1.y.opB c : Nat) /\ c <= 4 /\ Sc 600 w wr L E 1 30 8 34 0 s1 [⟨34,bl,cap2,hsO ls⟩]) (fun _ iv _=>4 - (intOf iv).toNat)
       case atStart=>exact ⟨0,rfl,rfl,by decide,U0.out⟩
       case round =>
       clear U0
       obtain ⟨c,rfl,rfl,hc,S⟩:=hrel
       have hcn:=cntB_le q1.y.opB c
       by_cases hc4 : c < 4
       · have hcd : decide ((c : Int) < 4) = true:=decide_eq_true (by omega)
         have hw1 : wrap64 ((c : Int) + 1) = (c : Int) + 1:=by unfold wrap64;omega
         have hw2 : wrap64 ((cntB q1.y.opB c : Int) + 1) = (cntB q1.y.opB c : Int) + 1:=by unfold wrap64;omega
         by_cases hop : 0 < q1.y.op c
         · have HB : Hid (decide (0 < q1.y.op c) = true):=decide_eq_true hop
           have HC : Hid (cntB q1.y.opB (c + 1) = cntB q1.y.opB c + 1):=by
            show cntB q1.y.opB c + (if q1.y.opB c = true then 1 else 0) = _
            have hq : q1.y.opB c = true:=decide_eq_true hop
            rw [if_pos hq]
           clear hop
           go_wp2
           refine wp_over (fun W=>Sc 600 w W L E 1 30 8 34 0 s1 [⟨34,bl,cap2,hsO ls⟩]) S ?_
           clear S
           rintro W S1
           refine wp_region_rely Grown [.val (.pointer (some ⟨E,7,none⟩)),.val (.pointer (some ⟨L.p,0,none⟩)),.val (.int .i64 c),.val (.int .i64 ((2 + c : Nat) : Int)),.val (.int .u64 (q1.y.op c : Int)),.val (.bool true)] (by kernel_rfl) Grown.refl Grown.trans (by kernel_rfl) (by kernel_rfl) (by kernel_rfl) ?_
           simp only [relyAll,Act.put,List.setIfInBounds_toArray,List.set_cons_zero,List.set_cons_succ]
           refine ⟨?_,?_,?_,?_,?_,?_,?_⟩
           · intro w' hg _;apply ol;have SS:=S1.drew.grown hg;go_simp;exact gl
           · intro w' hg _;apply ol;have SS:=S1.drew.grown hg;obtain ⟨y0,y1,y2,y3,y4,y5,y6,y7,y8⟩:=SS.v;go_simp;exact gl
           · intro w' hg _;apply ol;have SS:=S1.drew.grown hg;go_simp;exact gl
           · intro w' hg _;apply ol;have SS:=S1.drew.grown hg;go_simp;refine (lopen_any _ _ (by omega) (by omega)).mono ?_;rintro e w'' ⟨rfl,rfl⟩;exact ⟨_,rfl,Grown.refl _,congrArg (Value.int .i64) (by omega)⟩
           · intro w' hg _;apply ol;have SS:=S1.drew.grown hg;go_simp;exact cc (peek_is SS.mm (2 + c) (by have:=HLN.out;omega) _ (HOP.out c hc4))
           · intro w' hg _;apply ol;have SS:=S1.drew.grown hg;go_simp;exact ⟨Grown.refl _,congrArg Value.bool HB.out⟩
           intro w5 hg _
           have S5:=S1.drew.grown hg
           clear hg S1
           go_wp2
           go_roundw
           case rel=>exact ⟨c + 1,by go_num,by rw [HC.out];go_num,by omega,S5⟩
           case measure=>simp [intOf];omega
         · have HB : Hid (decide (0 < q1.y.op c) = false):=decide_eq_false hop
           have HC : Hid (cntB q1.y.opB (c + 1) = cntB q1.y.opB c):=by
            show cntB q1.y.opB c + (if q1.y.opB c = true then 1 else 0) = _
            have hq : q1.y.opB c = false:=decide_eq_false hop
            rw [hq];rfl
           clear hop
           go_wp2
           refine wp_over (fun W=>Sc 600 w W L E 1 30 8 34 0 s1 [⟨34,bl,cap2,hsO ls⟩]) S ?_
           clear S
           rintro W S1
           refine wp_region_rely Grown [.val (.pointer (some ⟨E,7,none⟩)),.val (.pointer (some ⟨L.p,0,none⟩)),.val (.int .i64 c),.val (.int .i64 ((2 + c : Nat) : Int)),.val (.int .u64 (q1.y.op c : Int)),.val (.bool false)] (by kernel_rfl) Grown.refl Grown.trans (by kernel_rfl) (by kernel_rfl) (by kernel_rfl) ?_
           simp only [relyAll,Act.put,List.setIfInBounds_toArray,List.set_cons_zero,List.set_cons_succ]
           refine ⟨?_,?_,?_,?_,?_,?_,?_⟩
           · intro w' hg _;apply ol;have SS:=S1.drew.grown hg;go_simp;exact gl
           · intro w' hg _;apply ol;have SS:=S1.drew.grown hg;obtain ⟨y0,y1,y2,y3,y4,y5,y6,y7,y8⟩:=SS.v;go_simp;exact gl
           · intro w' hg _;apply ol;have SS:=S1.drew.grown hg;go_simp;exact gl
           · intro w' hg _;apply ol;have SS:=S1.drew.grown hg;go_simp;refine (lopen_any _ _ (by omega) (by omega)).mono ?_;rintro e w'' ⟨rfl,rfl⟩;exact ⟨_,rfl,Grown.refl _,congrArg (Value.int .i64) (by omega)⟩
           · intro w' hg _;apply ol;have SS:=S1.drew.grown hg;go_simp;exact cc (peek_is SS.mm (2 + c) (by have:=HLN.out;omega) _ (HOP.out c hc4))
           · intro w' hg _;apply ol;have SS:=S1.drew.grown hg;go_simp;exact ⟨Grown.refl _,congrArg Value.bool HB.out⟩
           intro w5 hg _
           have S5:=S1.drew.grown hg
           clear hg S1
           go_wp2
           go_roundw
           case rel=>exact ⟨c + 1,by go_num,by rw [HC.out],by omega,S5⟩
           case measure=>simp [intOf];omega
       · have hcd : decide ((c : Int) < 4) = false:=decide_eq_false (by omega)
         have hc4' : c = 4:=by omega
         obtain ⟨O,hO⟩ : ∃ O,cntB q1.y.opB c = O:=⟨_,rfl⟩
         rw [hO] at hcn ⊢
         rw [hc4'] at hO
         obtain ⟨N,z',wk',id',hN,gg,c1,c0,hnt⟩:=frees_go (sp:=600) (tr:=3) HR1.out HUD.out.1 HUD.out.2 (by decide) (by decide) (by decide) (by decide) (by decide) (c:=20) (by decide) (by decide) (by omega)
         rw [hO] at c1 c0
         have HG : Hid (CRuns 1 30 8 34 600 3 (0 + 20) N σ1 ⟨q1,0,fun _=>0,fun _=>0⟩ cp0 z' ⟨.see [],wk',wk',id'⟩):=gg
         have HN : Hid (N <= 3000 * 20 /\ σ1 + N < 1000000 /\ σ1 + N <= 2000000):=⟨hN,by omega,by omega⟩
         have HC : Hid (((cntSt z'.q.y 0 8 : Nat) : Int) = 8 - (O : Int) /\ ((cntSt z'.q.y 1 8 : Nat) : Int) = O):=⟨by omega,by omega⟩
         have HNT : Hid (∀ i,i < 8 -> (z'.q.y.ck i).st = 0 -> ∀ u,u < 34 -> z'.q.dw (base 1 30 8 34 i + u) = 0):=hnt
         clear hO gg c1 c0 hnt hN hc4'
         have HXS : Hid (E < wr.heap.size /\ bl < wr.heap.size /\ ¬ L.has wr.heap.size /\ w.heap.size <= wr.heap.size):=⟨S.ltE,S.lt List.mem_cons_self,fun hh=>by have:=S.mm.lt _ hh;omega,S.b.size⟩
         have KP0 : Kp (Keep3 w.heap.size E bl) L wr.heap.size (wr.alloc comp0):=⟨fun e=>by have:=HXS.out;rcases e with e | e | e <;> omega,fun y e hh=>by rcases e with e | e | e;(have:=S.a.l0 y hh;omega);exact S.a.e (e ▸ hh);exact (S.row List.mem_cons_self).nl (e ▸ hh),fun y e=>by rw [Go.Deep.nblk_alloc];have:=HXS.out;rcases e with e | e | e <;> omega⟩
         have CP0:=cp0_at wr L (Keep3 w.heap.size E bl)
         have S0:=S.grown (gro1 _ comp0)
         obtain ⟨X,hX⟩ : ∃ X,wr.heap.size = X:=⟨_,rfl⟩
         rw [hX] at CP0 KP0
         have HX : Hid (¬ L.has X):=hX ▸ HXS.out.2.2.1
         clear S
         go_wp2_with (go_at_call 17;go_must (refine (newComp_any _).mono ?_;rintro e w3 ⟨rfl,rfl⟩))
         try simp only [hX]
         refine wp_over (fun W=>Sc 600 w W L E 1 30 8 34 0 s1 [⟨34,bl,cap2,hsO ls⟩] /\ (∃ cs f,CpAt W X 0 110 L (Keep3 w.heap.size E bl) cp0 cs f) /\ Kp (Keep3 w.heap.size E bl) L X W) ⟨S0,CP0,KP0⟩ ?_
         clear S0 CP0 KP0 hX HXS
         rintro W ⟨S1,CP,KP⟩
         refine wp_region_phase (Only (fun y=>¬ (Keep3 w.heap.size E bl) y)) Grown (ph2 (fun W'=>Sc 600 w W' L E 1 30 8 34 0 s1 [⟨34,bl,cap2,hsO ls⟩] /\ (∃ cs f,CpAt W' X 0 110 L (Keep3 w.heap.size E bl) cp0 cs f) /\ Kp (Keep3 w.heap.size E bl) L X W') (fun W'=>∃ s9,Sc 600 w W' L E 1 30 8 34 0 s9 [⟨34,bl,cap2,hsO ls⟩] /\ Land 1 30 8 34 s9 (σ1 + N) z')) [2,6,16] [.val (.agg #[.int .i64 1,.int .i64 30,.int .i64 8,.int .i64 34,.int .i64 100,.int .i64 600,.int .i64 3,.pointer (some ⟨L.p,0,none⟩),.int .i64 0]),.val (.pointer (some ⟨X,0,none⟩)),.val (.bool true),.val (.bool false),.val (.bool false),.val (.agg #[.int .i64 1,.int .i64 30,.int .i64 8,.int .i64 34,.int .i64 100,.int .i64 600,.int .i64 3,.pointer (some ⟨L.p,0,none⟩),.int .i64 0]),.val (.int .i64 (8 - (O : Int))),.val (.pointer (some ⟨E,0,none⟩)),.val (.pointer (some ⟨E,2,none⟩)),.val (.int .i64 8),.val (.int .i64 O),.val (.int .i64 (8 - (O : Int))),.val (.bool false),.val (.bool false),.val (.bool false),.val (.agg #[.int .i64 1,.int .i64 30,.int .i64 8,.int .i64 34,.int .i64 100,.int .i64 600,.int .i64 3,.pointer (some ⟨L.p,0,none⟩),.int .i64 0]),.val (.int .i64 (O : Int)),.val (.int .i64 O),.val (.bool false),.val (.bool false)]
          (by kernel_rfl) (Only.refl _) (fun _ _ _ h k=>h.trans k) (fun x y h=>Only.ofGrown h) (ph2_grown (fun x y g h=>⟨h.1.grown g,h.2.1.imp fun _ k=>k.imp fun _ k=>k.grown g,h.2.2.kb,h.2.2.kl,fun y hy=>by have:=h.2.2.lt y hy;have:=g.size;omega⟩) (fun x y g h=>by obtain ⟨s9,h1,h2⟩:=h;exact ⟨s9,h1.grown g,h2⟩)) ⟨S1.drew,CP.imp fun _ k=>k.imp fun _ k=>k.grown ((Below.refl _ _).drew),⟨KP.kb,KP.kl,fun y hy=>KP.lt y hy⟩⟩ (by kernel_rfl) (by kernel_rfl) (by kernel_rfl) (by kernel_rfl) (by kernel_rfl) ?_
         simp only [phaseAll,Act.put,List.setIfInBounds_toArray,List.set_cons_zero,List.set_cons_succ]
         refine ⟨?_,?_,?_,?_,?_,?_,?_,?_,?_,?_,?_,?_,?_,?_,?_,?_,?_,?_,?_,?_,?_⟩
         · intro w' hR _;apply ol;have SS:=S1.drew.v.only hR (fun hh=>hh (Or.inr (Or.inl rfl)));obtain ⟨y0,y1,y2,y3,y4,y5,y6,y7,y8⟩:=id SS;go_simp;exact gl
         · intros;apply ol;go_simp;exact gl
         · intro w' hR _ hP;apply ol;have P0 : Sc 600 w w' L E 1 30 8 34 0 s1 [⟨34,bl,cap2,hsO ls⟩] /\ (∃ cs f,CpAt w' X 0 110 L (Keep3 w.heap.size E bl) cp0 cs f) /\ Kp (Keep3 w.heap.size E bl) L X w':=hP;go_simp;refine (rounds_goes (c:=20) (cp:=cp0) P0.1.mm HX.out P0.2.2 HR1.out.ld good30 P0.2.1 0 (by decide) HN.out.1 HN.out.2.1 (by decide) HG.out).mono ?_;rintro e w'' ⟨rfl,s9,m9,l9,-,o9⟩;exact ⟨_,rfl,⟨o9,s9,P0.1.but o9 m9 (fun y hy=>hy.imp id (fun h=>h.imp id (fun ⟨r,hr,e⟩=>by rw [List.mem_singleton] at hr;rw [e,hr]))),l9⟩,rfl⟩
         · intros;apply ol;go_simp;exact gl
         · intros;apply ol;go_simp;exact gl
         · intro w' hR _;apply ol;have SS:=S1.drew.v.only hR (fun hh=>hh (Or.inr (Or.inl rfl)));obtain ⟨y0,y1,y2,y3,y4,y5,y6,y7,y8⟩:=id SS;go_simp;exact gl
         · intro w' hR _ hP;apply ol;obtain ⟨s9,P1,P2⟩ : ∃ s9,Sc 600 w w' L E 1 30 8 34 0 s9 [⟨34,bl,cap2,hsO ls⟩] /\ Land 1 30 8 34 s9 (σ1 + N) z':=hP;go_simp;refine (many_any P1.mm P2.tw.yard good30 HN.out.2.2 0 0).mono ?_;rintro e w'' ⟨rfl,b9⟩;exact ⟨_,rfl,⟨Only.ofGrown b9,s9,P1.grown b9,P2⟩,congrArg (Value.int .i64) HC.out.1⟩
         · intros;apply ol;go_simp;exact gl
         · intros;apply ol;go_simp;exact gl
         · intro w' hR _;apply ol;have SS:=S1.drew.v.only hR (fun hh=>hh (Or.inr (Or.inl rfl)));obtain ⟨y0,y1,y2,y3,y4,y5,y6,y7,y8⟩:=id SS;go_simp;exact gl
         · intros;apply ol;go_simp;exact gl
         · intro w' hR _;apply ol;go_simp;exact ⟨Grown.refl _,congrArg (Value.int .i64) (by rw [IntKind.wrap_i64];omega)⟩
         · intros;apply ol;go_simp;exact gl
         · intros;apply ol;go_simp;exact gl
         · intros;apply ol;go_simp;exact gl
         · intro w' hR _;apply ol;have SS:=S1.drew.v.only hR (fun hh=>hh (Or.inr (Or.inl rfl)));obtain ⟨y0,y1,y2,y3,y4,y5,y6,y7,y8⟩:=id SS;go_simp;exact gl
         · intro w' hR _ hP;apply ol;obtain ⟨s9,P1,P2⟩ : ∃ s9,Sc 600 w w' L E 1 30 8 34 0 s9 [⟨34,bl,cap2,hsO ls⟩] /\ Land 1 30 8 34 s9 (σ1 + N) z':=hP;go_simp;refine (many_any P1.mm P2.tw.yard good30 HN.out.2.2 1 0).mono ?_;rintro e w'' ⟨rfl,b9⟩;exact ⟨_,rfl,⟨Only.ofGrown b9,s9,P1.grown b9,P2⟩,congrArg (Value.int .i64) HC.out.2⟩
         · intros;apply ol;go_simp;exact gl
         · intros;apply ol;go_simp;exact gl
         · intros;apply ol;go_simp;exact gl
         intro w5 hR hP _
         obtain ⟨s9,S9,L9⟩ : ∃ s9,Sc 600 w w5 L E 1 30 8 34 0 s9 [⟨34,bl,cap2,hsO ls⟩] /\ Land 1 30 8 34 s9 (σ1 + N) z':=hP
         have S9 : Hid (Sc 600 w w5 L E 1 30 8 34 0 s9 [⟨34,bl,cap2,hsO ls⟩]):=S9
         have HL9 : Hid (Land 1 30 8 34 s9 (σ1 + N) z'):=L9
         clear hR L9 S1 CP KP
         go_wp2
         go_loopw [12] (fun iv wr=>∃ i : Nat,iv = .int .i64 i /\ i <= 8 /\ Sc 600 w wr L E 1 30 8 34 0 s9 [⟨34,bl,cap2,hsO ls⟩]) (fun iv _=>8 - (intOf iv).toNat)
         case atStart=>exact ⟨0,rfl,by decide,S9.out⟩
         case round =>
         clear S9
         obtain ⟨i,rfl,hi,S⟩:=hrel
         have y2:=S.v.c2
         obtain ⟨Bs,hBs⟩ : ∃ Bs : Nat,91 + i * 34 = Bs:=⟨_,rfl⟩
         have HBs : Hid (91 + i * 34 = Bs):=hBs
         clear hBs
         by_cases hi8 : i < 8
         · have hid : (i : Int) < 8:=by omega
           go_wp2
           refine wp_over (fun W=>Sc 600 w W L E 1 30 8 34 0 s9 [⟨34,bl,cap2,hsO ls⟩]) S ?_
           clear S y2
           rintro W S1
           obtain ⟨Sz,hSz⟩ : ∃ Sz,W.heap.size = Sz:=⟨_,rfl⟩
           refine wp_region_rely_tail Grown 9 [.val (.pointer (some ⟨E,7,none⟩)),.val (.pointer (some ⟨L.p,0,none⟩)),.val (.pointer (some ⟨E,0,none⟩)),.val (.agg #[.int .i64 1,.int .i64 30,.int .i64 8,.int .i64 34,.int .i64 100,.int .i64 600,.int .i64 3]),.val (.int .i64 i),.val (.int .i64 ((6 + 1 + 30 * 2 + i * 3 : Nat) : Int)),.val ((.int .u64 (z'.q.y.ck i).w)),.val ((.agg #[.int .i64 (z'.q.y.ck i).st,.int .i64 (z'.q.y.ck i).cl,.int .i64 (z'.q.y.ck i).us,.int .i64 (z'.q.y.ck i).sp])),.that (fun w' v=>∃ X,v = .pointer (some ⟨X,0,none⟩) /\ Sz <= X /\ At w' X 0 54 #[.int .i64 0,.int .i64 0,.int .i64 0,.int .i64 0] [.int .i64 0,.int .i64 0,.int .i64 0,.int .i64 0]) ?_] (by kernel_rfl) Grown.refl Grown.trans (by decide) (by kernel_rfl) (by kernel_rfl) (by kernel_rfl) (by kernel_rfl) (by kernel_rfl) (by kernel_rfl) ?_
           · rintro x1 y1 v hg ⟨X,hv,hb,hr⟩
             exact ⟨X,hv,hb,hr.grown hg⟩
           simp only [List.take_succ_cons,List.take_zero,relyAll,Act.put,List.setIfInBounds_toArray,List.set_cons_zero,List.set_cons_succ]
           refine ⟨?_,?_,?_,?_,?_,?_,?_,?_,?_⟩
           · intro w' hg _;apply ol;have SS:=S1.drew.grown hg;go_simp;exact gl
           · intro w' hg _;apply ol;have SS:=S1.drew.grown hg;obtain ⟨y0,y1,y2,y3,y4,y5,y6,y7,y8⟩:=SS.v;go_simp;exact gl
           · intro w' hg _;apply ol;have SS:=S1.drew.grown hg;go_simp;exact gl
           · intro w' hg _;apply ol;have SS:=S1.drew.grown hg;obtain ⟨y0,y1,y2,y3,y4,y5,y6,y7,y8⟩:=SS.v;go_simp;exact gl
           · intro w' hg _;apply ol;have SS:=S1.drew.grown hg;go_simp;exact gl
           · intro w' hg _;apply ol;have SS:=S1.drew.grown hg;go_simp;refine (lchunk_any _ _ _ _ _ _ _ _ _ good30.arena (by omega) (by omega)).mono ?_;rintro e w'' ⟨rfl,b9⟩;exact ⟨_,rfl,b9,congrArg (Value.int .i64) (by omega)⟩
           · intro w' hg _;apply ol;have SS:=S1.drew.grown hg;go_simp;exact cc (peek_is SS.mm (6 + 1 + 30 * 2 + i * 3) (by have:=HL9.out.tw.yard.len;omega) _ (HL9.out.tw.yard.ckv i hi8))
           · intro w' hg _;apply ol;have SS:=S1.drew.grown hg;go_simp;exact cb (chunk_w _ _ (HL9.out.tw.yard.ok i hi8) HN.out.2.2 _)
           refine ⟨?_,?_⟩
           · intro w' hg _
             apply ol
             have hzz : Sz <= w'.heap.size:=by have:=hg.size;have e : W.drew.heap.size = W.heap.size:=rfl;omega
             have qq:=At.new w' 54 [.int .i64 0,.int .i64 0,.int .i64 0,.int .i64 0]
             go_simp
             exact ⟨gro1 _ _,_,rfl,hzz,qq⟩
           intro vX w5 hg hf
           obtain ⟨D,rfl,hDS,d8⟩:=hf.1
           obtain ⟨n1,n2,n3,n4⟩:=S1.new (D:=D) (by omega)
           have S5:=S1.drew.grown hg
           have x0:=d8.at0 0 rfl
           have x1:=d8.at0 1 rfl
           have x2:=d8.at0 2 rfl
           have x3:=d8.at0 3 rfl
           have xf:=d8.fz
           have S9 : Hid (Sc 600 w _ L E 1 30 8 34 0 s9 [⟨34,bl,cap2,hsO ls⟩]):=(((S5.setIn n1 n2 n3 n4 0 (.int .i64 (z'.q.y.ck i).st)).setIn n1 n2 n3 n4 1 (.int .i64 (z'.q.y.ck i).cl)).setIn n1 n2 n3 n4 2 (.int .i64 (z'.q.y.ck i).us)).setIn n1 n2 n3 n4 3 (.int .i64 (z'.q.y.ck i).sp)
           have D9 : Hid (∃ cs,At _ D 0 54 cs [.int .i64 (z'.q.y.ck i).st,.int .i64 (z'.q.y.ck i).cl,.int .i64 (z'.q.y.ck i).us,.int .i64 (z'.q.y.ck i).sp]):=⟨_,(((d8.put0 0 (.int .i64 (z'.q.y.ck i).st)).put0 1 (.int .i64 (z'.q.y.ck i).cl)).put0 2 (.int .i64 (z'.q.y.ck i).us)).put0 3 (.int .i64 (z'.q.y.ck i).sp)⟩
           have HD : Hid (w.heap.size <= D /\ D ≠ E /\ ¬ L.has D /\ ∀ r ∈ [(⟨34,bl,cap2,hsO ls⟩ : Rowd)],r.b ≠ D):=⟨n1,n2,n3,n4⟩
           clear hf S1 S5 d8 hDS hSz n1 n2 n3 n4
           go_wp2
           go_loopw [14] (fun uv wr=>∃ u : Nat,uv = .int .i64 u /\ u <= 34 /\ (0 < u -> (z'.q.y.ck i).st = 0) /\ Sc 600 w wr L E 1 30 8 34 0 s9 [⟨34,bl,cap2,hsO ls⟩] /\ ∃ cs,At wr D 0 54 cs [.int .i64 (z'.q.y.ck i).st,.int .i64 (z'.q.y.ck i).cl,.int .i64 (z'.q.y.ck i).us,.int .i64 (z'.q.y.ck i).sp]) (fun uv _=>34 - (intOf uv).toNat)
           case atStart=>exact ⟨0,rfl,by decide,fun h=>absurd h (by decide),S9.out,D9.out⟩
           case round =>
           clear S9 D9
           obtain ⟨u,rfl,hu,-,S,cs,dd⟩:=hrel
           have y3:=S.v.c3
           have x0:=dd.at0 0 rfl
           by_cases hu34 : u < 34
           · have hud : (u : Int) < 34:=by omega
             by_cases hst : (z'.q.y.ck i).st = 0
             · have HST : Hid ((z'.q.y.ck i).st = 0):=hst
               have HZ0 : Hid (∀ u,u < 34 -> s9.wd (Bs + u) = 0):=fun u hu=>by
                have e1:=HL9.out.tw.dwv (base 1 30 8 34 i + u) (by unfold base;omega)
                have e2:=HNT.out i hi8 hst u hu
                rw [e2] at e1
                have e3 : base 1 30 8 34 i = Bs:=by have:=HBs.out;unfold base;omega
                rw [<- e3];exact e1
               have x0' : wr.cell? ⟨D,0,none⟩ = some (.int .i64 0):=by rw [x0,hst];rfl
               clear hst x0
               go_wp2
               refine wp_over (fun W=>Sc 600 w W L E 1 30 8 34 0 s9 [⟨34,bl,cap2,hsO ls⟩] /\ ∃ cs,At W D 0 54 cs [.int .i64 (z'.q.y.ck i).st,.int .i64 (z'.q.y.ck i).cl,.int .i64 (z'.q.y.ck i).us,.int .i64 (z'.q.y.ck i).sp]) ⟨S,cs,dd⟩ ?_
               clear S dd x0' y3
               rintro W ⟨S1,cs1,dd⟩
               refine wp_region_rely Grown [.val (.pointer (some ⟨E,7,none⟩)),.val (.pointer (some ⟨L.p,0,none⟩)),.val (.pointer (some ⟨E,0,none⟩)),.val (.agg #[.int .i64 1,.int .i64 30,.int .i64 8,.int .i64 34,.int .i64 100,.int .i64 600,.int .i64 3]),.val (.int .i64 i),.val (.int .i64 (Bs : Nat)),.val (.int .i64 u),.val (.int .i64 ((Bs + u : Nat) : Int)),.val (.int .u64 0),.val (.bool false)] (by kernel_rfl) Grown.refl Grown.trans (by kernel_rfl) (by kernel_rfl) (by kernel_rfl) ?_
               simp only [relyAll,Act.put,List.setIfInBounds_toArray,List.set_cons_zero,List.set_cons_succ]
               refine ⟨?_,?_,?_,?_,?_,?_,?_,?_,?_,?_,?_⟩
               · intro w' hg _;apply ol;have SS:=S1.drew.grown hg;go_simp;exact gl
               · intro w' hg _;apply ol;have SS:=S1.drew.grown hg;obtain ⟨y0,y1,y2,y3,y4,y5,y6,y7,y8⟩:=SS.v;go_simp;exact gl
               · intro w' hg _;apply ol;have SS:=S1.drew.grown hg;go_simp;exact gl
               · intro w' hg _;apply ol;have SS:=S1.drew.grown hg;obtain ⟨y0,y1,y2,y3,y4,y5,y6,y7,y8⟩:=SS.v;go_simp;exact gl
               · intro w' hg _;apply ol;have SS:=S1.drew.grown hg;go_simp;exact gl
               · intro w' hg _;apply ol;have SS:=S1.drew.grown hg;go_simp;refine (lbase_any _ _ _ _ _ _ _ _ (((i * 34 : Nat)) : Int) _ good30.arena (by omega) (by omega) (by omega)).mono ?_;rintro e w'' ⟨rfl,b9⟩;exact ⟨_,rfl,b9,congrArg (Value.int .i64) (by have:=HBs.out;omega)⟩
               · intro w' hg _;apply ol;have SS:=S1.drew.grown hg;go_simp;exact gl
               · intro w' hg _;apply ol;have SS:=S1.drew.grown hg;go_simp;exact ⟨Grown.refl _,congrArg (Value.int .i64) (by rw [IntKind.wrap_i64];have:=HBs.out;omega)⟩
               · intro w' hg _;apply ol;have SS:=S1.drew.grown hg;go_simp;exact cc (peek_is SS.mm (Bs + u) (by have:=HL9.out.tw.yard.len;have:=HBs.out;omega) 0 (HZ0.out u hu34))
               · intro w' hg _;apply ol;have SS:=S1.drew.grown hg;go_simp;exact gl
               intro w5 hg _
               have S5:=S1.drew.grown hg
               have d5:=(dd.grown ((Below.refl _ _).drew)).grown hg
               clear hg S1 dd
               go_wp2
               go_roundw
               case rel=>exact ⟨u + 1,by go_num,by omega,fun _=>HST.out,S5,cs1,d5⟩
               case measure=>exact meas hu34
             · have hst' : ((z'.q.y.ck i).st : Int) ≠ 0:=by omega
               have hsb : (((z'.q.y.ck i).st : Int) == 0) = false:=by simpa using hst'
               go_wp2
               go_roundw
               case rel=>exact ⟨i + 1,by go_num,by omega,S⟩
               case measure=>simp [intOf];omega
           · have hud : ¬ (u : Int) < 34:=by omega
             go_wp2
             go_roundw
             case rel=>exact ⟨i + 1,by go_num,by omega,S⟩
             case measure=>simp [intOf];omega
         · have hid : ¬ (i : Int) < 8:=by omega
           go_wp2
           go_ret
           exact ⟨rfl,S.b⟩
   · have h1 : decide ((j : Int) < (M : Int)) = false:=decide_eq_false (by omega)
     as_aux_lemma =>
     have U0 : Hid (Sc 600 w wr L E 1 30 8 34 0 s [⟨34,bl,cap2,hsO ls⟩]):=S
     clear S
     go_wp2
     go_loopw [9] (fun iv wr=>∃ (d : Nat) (s : Mm) (σ : Nat) (q : Q) (gen : Nat -> Nat),iv = .int .i64 d /\ d <= ls.length /\ σ <= 3061 + 40 * d /\ Sc 600 w wr L E 1 30 8 34 0 s [⟨34,bl,cap2,hsO ls⟩] /\ Ranch 1 30 8 34 s σ ⟨q,0,fun _=>0,fun _=>0⟩ nx gen (leftO ls d) /\ UsedY nx q.y /\ ∀ i,q.db i = 0) (fun iv _=>ls.length - (intOf iv).toNat)
     case atStart=>exact ⟨0,s,σ,q,_,rfl,Nat.zero_le _,by omega,U0.out,(leftO_0 ls).symm ▸ HRR.out,HI.out.us,HI.out.db⟩
     case round =>
     clear U0 HRR
     obtain ⟨d,s1,σ1,q1,gen,rfl,hd,hσ1,S,RR,hU,hdb⟩:=hrel
     have hl30:=HI.out.len
     have HUD : Hid (UsedY nx q1.y /\ ∀ i,q1.db i = 0):=⟨hU,hdb⟩
     clear hU hdb
     by_cases hd6 : d < ls.length
     · have hdd : decide ((d : Int) < (ls.length : Int)) = true:=decide_eq_true (by omega)
       have hσ4 : σ1 + 200 < 1000000:=by omega
       have hw1 : wrap64 ((d : Int) + 1) = (d : Int) + 1:=by unfold wrap64;omega
       have fl : ∀ (a1 a2 a3 a4 : Value) (w : World),(Instr.field 36 (.agg #[a1,a2,a3,a4]) 0).run Tryz.prog w = .ok a1 w:=fun a1 a2 a3 a4 w=>by kernel_rfl
       obtain ⟨H,hH,q2,gen2,hy2,hdb2,DK⟩:=RR.drops (L:=L) good30 hd6 HI.out.g1 hσ4 0
       have HHC : Hid ((hsO ls)[d]? = some (.int .u64 H)):=hH
       have HDK : Hid (∀ w : World,MemAt w L s1 -> Calls Tryz.prog 16 #[.agg #[.int .i64 1,.int .i64 30,.int .i64 8,.int .i64 34,.int .i64 100,.int .i64 600,.int .i64 3,.pointer (some ⟨L.p,0,none⟩),.int .i64 0],.int .u64 H,.bool false] w fun e w'=>∃ (st : Int) (s' : Mm) (σ' : Nat),e = .returned (.agg #[.int .i64 0,.int .u64 0,.int .i64 0,.int .i64 st]) /\ MemAt w' L s' /\ Ranch 1 30 8 34 s' σ' ⟨q2,0,fun _=>0,fun _=>0⟩ nx gen2 (leftO ls (d + 1)) /\ σ' <= σ1 + 40 /\ Only L.has w w'):=DK
       have HY2 : Hid (q2.y = q1.y /\ q2.db = q1.db):=⟨hy2,hdb2⟩
       clear hH DK hy2 hdb2 RR
       go_wp2
       refine wp_over (fun W=>Sc 600 w W L E 1 30 8 34 0 s1 [⟨34,bl,cap2,hsO ls⟩]) S ?_
       clear S
       rintro W S1
       refine wp_region_rely_tail Grown 5 [.val (.agg #[.int .i64 1,.int .i64 30,.int .i64 8,.int .i64 34,.int .i64 100,.int .i64 600,.int .i64 3,.pointer (some ⟨L.p,0,none⟩),.int .i64 0]),.val (.slice (some ⟨bl,0,none⟩) ls.length cap2),.val (.int .i64 d),.val (.pointer (some ⟨bl,d,none⟩)),.val (.int .u64 H)] (by kernel_rfl) Grown.refl Grown.trans (by decide) (by kernel_rfl) (by kernel_rfl) (by kernel_rfl) (by kernel_rfl) (by kernel_rfl) (by kernel_rfl) ?_
       simp only [List.take_succ_cons,List.take_zero,relyAll,Act.put,List.setIfInBounds_toArray,List.set_cons_zero,List.set_cons_succ]
       refine ⟨?_,?_,?_,?_,?_,?_⟩
       · intro w' hg _;apply ol;have SS:=S1.drew.grown hg;obtain ⟨y0,y1,y2,y3,y4,y5,y6,y7,y8⟩:=SS.v;go_simp;exact gl
       · intro w' hg _;apply ol;have SS:=S1.drew.grown hg;go_simp;exact gl
       · intro w' hg _;apply ol;have SS:=S1.drew.grown hg;go_simp;exact gl
       · intro w' hg _
         apply ol
         have SS:=S1.drew.grown hg
         have hb1 : (0 : Int) <= (d : Int) /\ (d : Int) < (ls.length : Int):=by omega
         go_simp
         exact gl
       · intro w' hg _;apply ol;have SS:=S1.drew.grown hg;have z:=(SS.row List.mem_cons_self).rw.cell HHC.out;go_simp;exact gl
       intro w5 hg _
       have S5:=S1.drew.grown hg
       clear hg S1
       go_wp2_with (go_at_call 16;go_must (refine (HDK.out _ S5.mm).mono ?_;rintro e w6 ⟨st,s',σ',rfl,m2,r2,h2,o2⟩))
       go_roundw
       case rel=>exact ⟨d + 1,s',σ',q2,gen2,by go_num,by omega,by omega,S5.mem o2 m2,r2,by rw [HY2.out.1];exact HUD.out.1,fun i=>by rw [HY2.out.2];exact HUD.out.2 i⟩
       case measure=>simp [intOf];omega
     · have hdd : decide ((d : Int) < (ls.length : Int)) = false:=decide_eq_false (by omega)
       have hde : d = ls.length:=by omega
       rw [hde,leftO_all] at RR
       have HOP : Hid (∀ c,c < 4 -> s1.wd (2 + c) = (q1.y.op c : Int)):=RR.ld.tw.yard.opv
       have HLN : Hid (s1.n = 363):=RR.ld.tw.yard.len
       have HR1 : Hid (Ranch 1 30 8 34 s1 σ1 ⟨q1,0,fun _=>0,fun _=>0⟩ nx gen []):=RR
       have U0 : Hid (Sc 600 w wr L E 1 30 8 34 0 s1 [⟨34,bl,cap2,hsO ls⟩]):=S
       clear S RR
       go_wp2
       go_loopw [6,10] (fun v iv wr=>∃ c : Nat,iv = .int .i64 c /\ v = .int .i64 (cntB q1.y.opB c : Nat) /\ c <= 4 /\ Sc 600 w wr L E 1 30 8 34 0 s1 [⟨34,bl,cap2,hsO ls⟩]) (fun _ iv _=>4 - (intOf iv).toNat)
       case atStart=>exact ⟨0,rfl,rfl,by decide,U0.out⟩
       case round =>
       clear U0
       obtain ⟨c,rfl,rfl,hc,S⟩:=hrel
       have hcn:=cntB_le q1.y.opB c
       by_cases hc4 : c < 4
       · have hcd : decide ((c : Int) < 4) = true:=decide_eq_true (by omega)
         have hw1 : wrap64 ((c : Int) + 1) = (c : Int) + 1:=by unfold wrap64;omega
         have hw2 : wrap64 ((cntB q1.y.opB c : Int) + 1) = (cntB q1.y.opB c : Int) + 1:=by unfold wrap64;omega
         by_cases hop : 0 < q1.y.op c
         · have HB : Hid (decide (0 < q1.y.op c) = true):=decide_eq_true hop
           have HC : Hid (cntB q1.y.opB (c + 1) = cntB q1.y.opB c + 1):=by
            show cntB q1.y.opB c + (if q1.y.opB c = true then 1 else 0) = _
            have hq : q1.y.opB c = true:=decide_eq_true hop
            rw [if_pos hq]
           clear hop
           go_wp2
           refine wp_over (fun W=>Sc 600 w W L E 1 30 8 34 0 s1 [⟨34,bl,cap2,hsO ls⟩]) S ?_
           clear S
           rintro W S1
           refine wp_region_rely Grown [.val (.pointer (some ⟨E,7,none⟩)),.val (.pointer (some ⟨L.p,0,none⟩)),.val (.int .i64 c),.val (.int .i64 ((2 + c : Nat) : Int)),.val (.int .u64 (q1.y.op c : Int)),.val (.bool true)] (by kernel_rfl) Grown.refl Grown.trans (by kernel_rfl) (by kernel_rfl) (by kernel_rfl) ?_
           simp only [relyAll,Act.put,List.setIfInBounds_toArray,List.set_cons_zero,List.set_cons_succ]
           refine ⟨?_,?_,?_,?_,?_,?_,?_⟩
           · intro w' hg _;apply ol;have SS:=S1.drew.grown hg;go_simp;exact gl
           · intro w' hg _;apply ol;have SS:=S1.drew.grown hg;obtain ⟨y0,y1,y2,y3,y4,y5,y6,y7,y8⟩:=SS.v;go_simp;exact gl
           · intro w' hg _;apply ol;have SS:=S1.drew.grown hg;go_simp;exact gl
           · intro w' hg _;apply ol;have SS:=S1.drew.grown hg;go_simp;refine (lopen_any _ _ (by omega) (by omega)).mono ?_;rintro e w'' ⟨rfl,rfl⟩;exact ⟨_,rfl,Grown.refl _,congrArg (Value.int .i64) (by omega)⟩
           · intro w' hg _;apply ol;have SS:=S1.drew.grown hg;go_simp;exact cc (peek_is SS.mm (2 + c) (by have:=HLN.out;omega) _ (HOP.out c hc4))
           · intro w' hg _;apply ol;have SS:=S1.drew.grown hg;go_simp;exact ⟨Grown.refl _,congrArg Value.bool HB.out⟩
           intro w5 hg _
           have S5:=S1.drew.grown hg
           clear hg S1
           go_wp2
           go_roundw
           case rel=>exact ⟨c + 1,by go_num,by rw [HC.out];go_num,by omega,S5⟩
           case measure=>simp [intOf];omega
         · have HB : Hid (decide (0 < q1.y.op c) = false):=decide_eq_false hop
           have HC : Hid (cntB q1.y.opB (c + 1) = cntB q1.y.opB c):=by
            show cntB q1.y.opB c + (if q1.y.opB c = true then 1 else 0) = _
            have hq : q1.y.opB c = false:=decide_eq_false hop
            rw [hq];rfl
           clear hop
           go_wp2
           refine wp_over (fun W=>Sc 600 w W L E 1 30 8 34 0 s1 [⟨34,bl,cap2,hsO ls⟩]) S ?_
           clear S
           rintro W S1
           refine wp_region_rely Grown [.val (.pointer (some ⟨E,7,none⟩)),.val (.pointer (some ⟨L.p,0,none⟩)),.val (.int .i64 c),.val (.int .i64 ((2 + c : Nat) : Int)),.val (.int .u64 (q1.y.op c : Int)),.val (.bool false)] (by kernel_rfl) Grown.refl Grown.trans (by kernel_rfl) (by kernel_rfl) (by kernel_rfl) ?_
           simp only [relyAll,Act.put,List.setIfInBounds_toArray,List.set_cons_zero,List.set_cons_succ]
           refine ⟨?_,?_,?_,?_,?_,?_,?_⟩
           · intro w' hg _;apply ol;have SS:=S1.drew.grown hg;go_simp;exact gl
           · intro w' hg _;apply ol;have SS:=S1.drew.grown hg;obtain ⟨y0,y1,y2,y3,y4,y5,y6,y7,y8⟩:=SS.v;go_simp;exact gl
           · intro w' hg _;apply ol;have SS:=S1.drew.grown hg;go_simp;exact gl
           · intro w' hg _;apply ol;have SS:=S1.drew.grown hg;go_simp;refine (lopen_any _ _ (by omega) (by omega)).mono ?_;rintro e w'' ⟨rfl,rfl⟩;exact ⟨_,rfl,Grown.refl _,congrArg (Value.int .i64) (by omega)⟩
           · intro w' hg _;apply ol;have SS:=S1.drew.grown hg;go_simp;exact cc (peek_is SS.mm (2 + c) (by have:=HLN.out;omega) _ (HOP.out c hc4))
           · intro w' hg _;apply ol;have SS:=S1.drew.grown hg;go_simp;exact ⟨Grown.refl _,congrArg Value.bool HB.out⟩
           intro w5 hg _
           have S5:=S1.drew.grown hg
           clear hg S1
           go_wp2
           go_roundw
           case rel=>exact ⟨c + 1,by go_num,by rw [HC.out],by omega,S5⟩
           case measure=>simp [intOf];omega
       · have hcd : decide ((c : Int) < 4) = false:=decide_eq_false (by omega)
         have hc4' : c = 4:=by omega
         obtain ⟨O,hO⟩ : ∃ O,cntB q1.y.opB c = O:=⟨_,rfl⟩
         rw [hO] at hcn ⊢
         rw [hc4'] at hO
         obtain ⟨N,z',wk',id',hN,gg,c1,c0,hnt⟩:=frees_go (sp:=600) (tr:=3) HR1.out HUD.out.1 HUD.out.2 (by decide) (by decide) (by decide) (by decide) (by decide) (c:=20) (by decide) (by decide) (by omega)
         rw [hO] at c1 c0
         have HG : Hid (CRuns 1 30 8 34 600 3 (0 + 20) N σ1 ⟨q1,0,fun _=>0,fun _=>0⟩ cp0 z' ⟨.see [],wk',wk',id'⟩):=gg
         have HN : Hid (N <= 3000 * 20 /\ σ1 + N < 1000000 /\ σ1 + N <= 2000000):=⟨hN,by omega,by omega⟩
         have HC : Hid (((cntSt z'.q.y 0 8 : Nat) : Int) = 8 - (O : Int) /\ ((cntSt z'.q.y 1 8 : Nat) : Int) = O):=⟨by omega,by omega⟩
         have HNT : Hid (∀ i,i < 8 -> (z'.q.y.ck i).st = 0 -> ∀ u,u < 34 -> z'.q.dw (base 1 30 8 34 i + u) = 0):=hnt
         clear hO gg c1 c0 hnt hN hc4'
         have HXS : Hid (E < wr.heap.size /\ bl < wr.heap.size /\ ¬ L.has wr.heap.size /\ w.heap.size <= wr.heap.size):=⟨S.ltE,S.lt List.mem_cons_self,fun hh=>by have:=S.mm.lt _ hh;omega,S.b.size⟩
         have KP0 : Kp (Keep3 w.heap.size E bl) L wr.heap.size (wr.alloc comp0):=⟨fun e=>by have:=HXS.out;rcases e with e | e | e <;> omega,fun y e hh=>by rcases e with e | e | e;(have:=S.a.l0 y hh;omega);exact S.a.e (e ▸ hh);exact (S.row List.mem_cons_self).nl (e ▸ hh),fun y e=>by rw [Go.Deep.nblk_alloc];have:=HXS.out;rcases e with e | e | e <;> omega⟩
         have CP0:=cp0_at wr L (Keep3 w.heap.size E bl)
         have S0:=S.grown (gro1 _ comp0)
         obtain ⟨X,hX⟩ : ∃ X,wr.heap.size = X:=⟨_,rfl⟩
         rw [hX] at CP0 KP0
         have HX : Hid (¬ L.has X):=hX ▸ HXS.out.2.2.1
         clear S
         go_wp2_with (go_at_call 17;go_must (refine (newComp_any _).mono ?_;rintro e w3 ⟨rfl,rfl⟩))
         try simp only [hX]
         refine wp_over (fun W=>Sc 600 w W L E 1 30 8 34 0 s1 [⟨34,bl,cap2,hsO ls⟩] /\ (∃ cs f,CpAt W X 0 110 L (Keep3 w.heap.size E bl) cp0 cs f) /\ Kp (Keep3 w.heap.size E bl) L X W) ⟨S0,CP0,KP0⟩ ?_
         clear S0 CP0 KP0 hX HXS
         rintro W ⟨S1,CP,KP⟩
         refine wp_region_phase (Only (fun y=>¬ (Keep3 w.heap.size E bl) y)) Grown (ph2 (fun W'=>Sc 600 w W' L E 1 30 8 34 0 s1 [⟨34,bl,cap2,hsO ls⟩] /\ (∃ cs f,CpAt W' X 0 110 L (Keep3 w.heap.size E bl) cp0 cs f) /\ Kp (Keep3 w.heap.size E bl) L X W') (fun W'=>∃ s9,Sc 600 w W' L E 1 30 8 34 0 s9 [⟨34,bl,cap2,hsO ls⟩] /\ Land 1 30 8 34 s9 (σ1 + N) z')) [2,6,16] [.val (.agg #[.int .i64 1,.int .i64 30,.int .i64 8,.int .i64 34,.int .i64 100,.int .i64 600,.int .i64 3,.pointer (some ⟨L.p,0,none⟩),.int .i64 0]),.val (.pointer (some ⟨X,0,none⟩)),.val (.bool true),.val (.bool false),.val (.bool false),.val (.agg #[.int .i64 1,.int .i64 30,.int .i64 8,.int .i64 34,.int .i64 100,.int .i64 600,.int .i64 3,.pointer (some ⟨L.p,0,none⟩),.int .i64 0]),.val (.int .i64 (8 - (O : Int))),.val (.pointer (some ⟨E,0,none⟩)),.val (.pointer (some ⟨E,2,none⟩)),.val (.int .i64 8),.val (.int .i64 O),.val (.int .i64 (8 - (O : Int))),.val (.bool false),.val (.bool false),.val (.bool false),.val (.agg #[.int .i64 1,.int .i64 30,.int .i64 8,.int .i64 34,.int .i64 100,.int .i64 600,.int .i64 3,.pointer (some ⟨L.p,0,none⟩),.int .i64 0]),.val (.int .i64 (O : Int)),.val (.int .i64 O),.val (.bool false),.val (.bool false)]
          (by kernel_rfl) (Only.refl _) (fun _ _ _ h k=>h.trans k) (fun x y h=>Only.ofGrown h) (ph2_grown (fun x y g h=>⟨h.1.grown g,h.2.1.imp fun _ k=>k.imp fun _ k=>k.grown g,h.2.2.kb,h.2.2.kl,fun y hy=>by have:=h.2.2.lt y hy;have:=g.size;omega⟩) (fun x y g h=>by obtain ⟨s9,h1,h2⟩:=h;exact ⟨s9,h1.grown g,h2⟩)) ⟨S1.drew,CP.imp fun _ k=>k.imp fun _ k=>k.grown ((Below.refl _ _).drew),⟨KP.kb,KP.kl,fun y hy=>KP.lt y hy⟩⟩ (by kernel_rfl) (by kernel_rfl) (by kernel_rfl) (by kernel_rfl) (by kernel_rfl) ?_
         simp only [phaseAll,Act.put,List.setIfInBounds_toArray,List.set_cons_zero,List.set_cons_succ]
         refine ⟨?_,?_,?_,?_,?_,?_,?_,?_,?_,?_,?_,?_,?_,?_,?_,?_,?_,?_,?_,?_,?_⟩
         · intro w' hR _;apply ol;have SS:=S1.drew.v.only hR (fun hh=>hh (Or.inr (Or.inl rfl)));obtain ⟨y0,y1,y2,y3,y4,y5,y6,y7,y8⟩:=id SS;go_simp;exact gl
         · intros;apply ol;go_simp;exact gl
         · intro w' hR _ hP;apply ol;have P0 : Sc 600 w w' L E 1 30 8 34 0 s1 [⟨34,bl,cap2,hsO ls⟩] /\ (∃ cs f,CpAt w' X 0 110 L (Keep3 w.heap.size E bl) cp0 cs f) /\ Kp (Keep3 w.heap.size E bl) L X w':=hP;go_simp;refine (rounds_goes (c:=20) (cp:=cp0) P0.1.mm HX.out P0.2.2 HR1.out.ld good30 P0.2.1 0 (by decide) HN.out.1 HN.out.2.1 (by decide) HG.out).mono ?_;rintro e w'' ⟨rfl,s9,m9,l9,-,o9⟩;exact ⟨_,rfl,⟨o9,s9,P0.1.but o9 m9 (fun y hy=>hy.imp id (fun h=>h.imp id (fun ⟨r,hr,e⟩=>by rw [List.mem_singleton] at hr;rw [e,hr]))),l9⟩,rfl⟩
         · intros;apply ol;go_simp;exact gl
         · intros;apply ol;go_simp;exact gl
         · intro w' hR _;apply ol;have SS:=S1.drew.v.only hR (fun hh=>hh (Or.inr (Or.inl rfl)));obtain ⟨y0,y1,y2,y3,y4,y5,y6,y7,y8⟩:=id SS;go_simp;exact gl
         · intro w' hR _ hP;apply ol;obtain ⟨s9,P1,P2⟩ : ∃ s9,Sc 600 w w' L E 1 30 8 34 0 s9 [⟨34,bl,cap2,hsO ls⟩] /\ Land 1 30 8 34 s9 (σ1 + N) z':=hP;go_simp;refine (many_any P1.mm P2.tw.yard good30 HN.out.2.2 0 0).mono ?_;rintro e w'' ⟨rfl,b9⟩;exact ⟨_,rfl,⟨Only.ofGrown b9,s9,P1.grown b9,P2⟩,congrArg (Value.int .i64) HC.out.1⟩
         · intros;apply ol;go_simp;exact gl
         · intros;apply ol;go_simp;exact gl
         · intro w' hR _;apply ol;have SS:=S1.drew.v.only hR (fun hh=>hh (Or.inr (Or.inl rfl)));obtain ⟨y0,y1,y2,y3,y4,y5,y6,y7,y8⟩:=id SS;go_simp;exact gl
         · intros;apply ol;go_simp;exact gl
         · intro w' hR _;apply ol;go_simp;exact ⟨Grown.refl _,congrArg (Value.int .i64) (by rw [IntKind.wrap_i64];omega)⟩
         · intros;apply ol;go_simp;exact gl
         · intros;apply ol;go_simp;exact gl
         · intros;apply ol;go_simp;exact gl
         · intro w' hR _;apply ol;have SS:=S1.drew.v.only hR (fun hh=>hh (Or.inr (Or.inl rfl)));obtain ⟨y0,y1,y2,y3,y4,y5,y6,y7,y8⟩:=id SS;go_simp;exact gl
         · intro w' hR _ hP;apply ol;obtain ⟨s9,P1,P2⟩ : ∃ s9,Sc 600 w w' L E 1 30 8 34 0 s9 [⟨34,bl,cap2,hsO ls⟩] /\ Land 1 30 8 34 s9 (σ1 + N) z':=hP;go_simp;refine (many_any P1.mm P2.tw.yard good30 HN.out.2.2 1 0).mono ?_;rintro e w'' ⟨rfl,b9⟩;exact ⟨_,rfl,⟨Only.ofGrown b9,s9,P1.grown b9,P2⟩,congrArg (Value.int .i64) HC.out.2⟩
         · intros;apply ol;go_simp;exact gl
         · intros;apply ol;go_simp;exact gl
         · intros;apply ol;go_simp;exact gl
         intro w5 hR hP _
         obtain ⟨s9,S9,L9⟩ : ∃ s9,Sc 600 w w5 L E 1 30 8 34 0 s9 [⟨34,bl,cap2,hsO ls⟩] /\ Land 1 30 8 34 s9 (σ1 + N) z':=hP
         have S9 : Hid (Sc 600 w w5 L E 1 30 8 34 0 s9 [⟨34,bl,cap2,hsO ls⟩]):=S9
         have HL9 : Hid (Land 1 30 8 34 s9 (σ1 + N) z'):=L9
         clear hR L9 S1 CP KP
         go_wp2
         go_loopw [12] (fun iv wr=>∃ i : Nat,iv = .int .i64 i /\ i <= 8 /\ Sc 600 w wr L E 1 30 8 34 0 s9 [⟨34,bl,cap2,hsO ls⟩]) (fun iv _=>8 - (intOf iv).toNat)
         case atStart=>exact ⟨0,rfl,by decide,S9.out⟩
         case round =>
         clear S9
         obtain ⟨i,rfl,hi,S⟩:=hrel
         have y2:=S.v.c2
         obtain ⟨Bs,hBs⟩ : ∃ Bs : Nat,91 + i * 34 = Bs:=⟨_,rfl⟩
         have HBs : Hid (91 + i * 34 = Bs):=hBs
         clear hBs
         by_cases hi8 : i < 8
         · have hid : (i : Int) < 8:=by omega
           go_wp2
           refine wp_over (fun W=>Sc 600 w W L E 1 30 8 34 0 s9 [⟨34,bl,cap2,hsO ls⟩]) S ?_
           clear S y2
           rintro W S1
           obtain ⟨Sz,hSz⟩ : ∃ Sz,W.heap.size = Sz:=⟨_,rfl⟩
           refine wp_region_rely_tail Grown 9 [.val (.pointer (some ⟨E,7,none⟩)),.val (.pointer (some ⟨L.p,0,none⟩)),.val (.pointer (some ⟨E,0,none⟩)),.val (.agg #[.int .i64 1,.int .i64 30,.int .i64 8,.int .i64 34,.int .i64 100,.int .i64 600,.int .i64 3]),.val (.int .i64 i),.val (.int .i64 ((6 + 1 + 30 * 2 + i * 3 : Nat) : Int)),.val ((.int .u64 (z'.q.y.ck i).w)),.val ((.agg #[.int .i64 (z'.q.y.ck i).st,.int .i64 (z'.q.y.ck i).cl,.int .i64 (z'.q.y.ck i).us,.int .i64 (z'.q.y.ck i).sp])),.that (fun w' v=>∃ X,v = .pointer (some ⟨X,0,none⟩) /\ Sz <= X /\ At w' X 0 54 #[.int .i64 0,.int .i64 0,.int .i64 0,.int .i64 0] [.int .i64 0,.int .i64 0,.int .i64 0,.int .i64 0]) ?_] (by kernel_rfl) Grown.refl Grown.trans (by decide) (by kernel_rfl) (by kernel_rfl) (by kernel_rfl) (by kernel_rfl) (by kernel_rfl) (by kernel_rfl) ?_
           · rintro x1 y1 v hg ⟨X,hv,hb,hr⟩
             exact ⟨X,hv,hb,hr.grown hg⟩
           simp only [List.take_succ_cons,List.take_zero,relyAll,Act.put,List.setIfInBounds_toArray,List.set_cons_zero,List.set_cons_succ]
           refine ⟨?_,?_,?_,?_,?_,?_,?_,?_,?_⟩
           · intro w' hg _;apply ol;have SS:=S1.drew.grown hg;go_simp;exact gl
           · intro w' hg _;apply ol;have SS:=S1.drew.grown hg;obtain ⟨y0,y1,y2,y3,y4,y5,y6,y7,y8⟩:=SS.v;go_simp;exact gl
           · intro w' hg _;apply ol;have SS:=S1.drew.grown hg;go_simp;exact gl
           · intro w' hg _;apply ol;have SS:=S1.drew.grown hg;obtain ⟨y0,y1,y2,y3,y4,y5,y6,y7,y8⟩:=SS.v;go_simp;exact gl
           · intro w' hg _;apply ol;have SS:=S1.drew.grown hg;go_simp;exact gl
           · intro w' hg _;apply ol;have SS:=S1.drew.grown hg;go_simp;refine (lchunk_any _ _ _ _ _ _ _ _ _ good30.arena (by omega) (by omega)).mono ?_;rintro e w'' ⟨rfl,b9⟩;exact ⟨_,rfl,b9,congrArg (Value.int .i64) (by omega)⟩
           · intro w' hg _;apply ol;have SS:=S1.drew.grown hg;go_simp;exact cc (peek_is SS.mm (6 + 1 + 30 * 2 + i * 3) (by have:=HL9.out.tw.yard.len;omega) _ (HL9.out.tw.yard.ckv i hi8))
           · intro w' hg _;apply ol;have SS:=S1.drew.grown hg;go_simp;exact cb (chunk_w _ _ (HL9.out.tw.yard.ok i hi8) HN.out.2.2 _)
           refine ⟨?_,?_⟩
           · intro w' hg _
             apply ol
             have hzz : Sz <= w'.heap.size:=by have:=hg.size;have e : W.drew.heap.size = W.heap.size:=rfl;omega
             have qq:=At.new w' 54 [.int .i64 0,.int .i64 0,.int .i64 0,.int .i64 0]
             go_simp
             exact ⟨gro1 _ _,_,rfl,hzz,qq⟩
           intro vX w5 hg hf
           obtain ⟨D,rfl,hDS,d8⟩:=hf.1
           obtain ⟨n1,n2,n3,n4⟩:=S1.new (D:=D) (by omega)
           have S5:=S1.drew.grown hg
           have x0:=d8.at0 0 rfl
           have x1:=d8.at0 1 rfl
           have x2:=d8.at0 2 rfl
           have x3:=d8.at0 3 rfl
           have xf:=d8.fz
           have S9 : Hid (Sc 600 w _ L E 1 30 8 34 0 s9 [⟨34,bl,cap2,hsO ls⟩]):=(((S5.setIn n1 n2 n3 n4 0 (.int .i64 (z'.q.y.ck i).st)).setIn n1 n2 n3 n4 1 (.int .i64 (z'.q.y.ck i).cl)).setIn n1 n2 n3 n4 2 (.int .i64 (z'.q.y.ck i).us)).setIn n1 n2 n3 n4 3 (.int .i64 (z'.q.y.ck i).sp)
           have D9 : Hid (∃ cs,At _ D 0 54 cs [.int .i64 (z'.q.y.ck i).st,.int .i64 (z'.q.y.ck i).cl,.int .i64 (z'.q.y.ck i).us,.int .i64 (z'.q.y.ck i).sp]):=⟨_,(((d8.put0 0 (.int .i64 (z'.q.y.ck i).st)).put0 1 (.int .i64 (z'.q.y.ck i).cl)).put0 2 (.int .i64 (z'.q.y.ck i).us)).put0 3 (.int .i64 (z'.q.y.ck i).sp)⟩
           have HD : Hid (w.heap.size <= D /\ D ≠ E /\ ¬ L.has D /\ ∀ r ∈ [(⟨34,bl,cap2,hsO ls⟩ : Rowd)],r.b ≠ D):=⟨n1,n2,n3,n4⟩
           clear hf S1 S5 d8 hDS hSz n1 n2 n3 n4
           go_wp2
           go_loopw [14] (fun uv wr=>∃ u : Nat,uv = .int .i64 u /\ u <= 34 /\ (0 < u -> (z'.q.y.ck i).st = 0) /\ Sc 600 w wr L E 1 30 8 34 0 s9 [⟨34,bl,cap2,hsO ls⟩] /\ ∃ cs,At wr D 0 54 cs [.int .i64 (z'.q.y.ck i).st,.int .i64 (z'.q.y.ck i).cl,.int .i64 (z'.q.y.ck i).us,.int .i64 (z'.q.y.ck i).sp]) (fun uv _=>34 - (intOf uv).toNat)
           case atStart=>exact ⟨0,rfl,by decide,fun h=>absurd h (by decide),S9.out,D9.out⟩
           case round =>
           clear S9 D9
           obtain ⟨u,rfl,hu,-,S,cs,dd⟩:=hrel
           have y3:=S.v.c3
           have x0:=dd.at0 0 rfl
           by_cases hu34 : u < 34
           · have hud : (u : Int) < 34:=by omega
             by_cases hst : (z'.q.y.ck i).st = 0
             · have HST : Hid ((z'.q.y.ck i).st = 0):=hst
               have HZ0 : Hid (∀ u,u < 34 -> s9.wd (Bs + u) = 0):=fun u hu=>by
                have e1:=HL9.out.tw.dwv (base 1 30 8 34 i + u) (by unfold base;omega)
                have e2:=HNT.out i hi8 hst u hu
                rw [e2] at e1
                have e3 : base 1 30 8 34 i = Bs:=by have:=HBs.out;unfold base;omega
                rw [<- e3];exact e1
               have x0' : wr.cell? ⟨D,0,none⟩ = some (.int .i64 0):=by rw [x0,hst];rfl
               clear hst x0
               go_wp2
               refine wp_over (fun W=>Sc 600 w W L E 1 30 8 34 0 s9 [⟨34,bl,cap2,hsO ls⟩] /\ ∃ cs,At W D 0 54 cs [.int .i64 (z'.q.y.ck i).st,.int .i64 (z'.q.y.ck i).cl,.int .i64 (z'.q.y.ck i).us,.int .i64 (z'.q.y.ck i).sp]) ⟨S,cs,dd⟩ ?_
               clear S dd x0' y3
               rintro W ⟨S1,cs1,dd⟩
               refine wp_region_rely Grown [.val (.pointer (some ⟨E,7,none⟩)),.val (.pointer (some ⟨L.p,0,none⟩)),.val (.pointer (some ⟨E,0,none⟩)),.val (.agg #[.int .i64 1,.int .i64 30,.int .i64 8,.int .i64 34,.int .i64 100,.int .i64 600,.int .i64 3]),.val (.int .i64 i),.val (.int .i64 (Bs : Nat)),.val (.int .i64 u),.val (.int .i64 ((Bs + u : Nat) : Int)),.val (.int .u64 0),.val (.bool false)] (by kernel_rfl) Grown.refl Grown.trans (by kernel_rfl) (by kernel_rfl) (by kernel_rfl) ?_
               simp only [relyAll,Act.put,List.setIfInBounds_toArray,List.set_cons_zero,List.set_cons_succ]
               refine ⟨?_,?_,?_,?_,?_,?_,?_,?_,?_,?_,?_⟩
               · intro w' hg _;apply ol;have SS:=S1.drew.grown hg;go_simp;exact gl
               · intro w' hg _;apply ol;have SS:=S1.drew.grown hg;obtain ⟨y0,y1,y2,y3,y4,y5,y6,y7,y8⟩:=SS.v;go_simp;exact gl
               · intro w' hg _;apply ol;have SS:=S1.drew.grown hg;go_simp;exact gl
               · intro w' hg _;apply ol;have SS:=S1.drew.grown hg;obtain ⟨y0,y1,y2,y3,y4,y5,y6,y7,y8⟩:=SS.v;go_simp;exact gl
               · intro w' hg _;apply ol;have SS:=S1.drew.grown hg;go_simp;exact gl
               · intro w' hg _;apply ol;have SS:=S1.drew.grown hg;go_simp;refine (lbase_any _ _ _ _ _ _ _ _ (((i * 34 : Nat)) : Int) _ good30.arena (by omega) (by omega) (by omega)).mono ?_;rintro e w'' ⟨rfl,b9⟩;exact ⟨_,rfl,b9,congrArg (Value.int .i64) (by have:=HBs.out;omega)⟩
               · intro w' hg _;apply ol;have SS:=S1.drew.grown hg;go_simp;exact gl
               · intro w' hg _;apply ol;have SS:=S1.drew.grown hg;go_simp;exact ⟨Grown.refl _,congrArg (Value.int .i64) (by rw [IntKind.wrap_i64];have:=HBs.out;omega)⟩
               · intro w' hg _;apply ol;have SS:=S1.drew.grown hg;go_simp;exact cc (peek_is SS.mm (Bs + u) (by have:=HL9.out.tw.yard.len;have:=HBs.out;omega) 0 (HZ0.out u hu34))
               · intro w' hg _;apply ol;have SS:=S1.drew.grown hg;go_simp;exact gl
               intro w5 hg _
               have S5:=S1.drew.grown hg
               have d5:=(dd.grown ((Below.refl _ _).drew)).grown hg
               clear hg S1 dd
               go_wp2
               go_roundw
               case rel=>exact ⟨u + 1,by go_num,by omega,fun _=>HST.out,S5,cs1,d5⟩
               case measure=>exact meas hu34
             · have hst' : ((z'.q.y.ck i).st : Int) ≠ 0:=by omega
               have hsb : (((z'.q.y.ck i).st : Int) == 0) = false:=by simpa using hst'
               go_wp2
               go_roundw
               case rel=>exact ⟨i + 1,by go_num,by omega,S⟩
               case measure=>simp [intOf];omega
           · have hud : ¬ (u : Int) < 34:=by omega
             go_wp2
             go_roundw
             case rel=>exact ⟨i + 1,by go_num,by omega,S⟩
             case measure=>simp [intOf];omega
         · have hid : ¬ (i : Int) < 8:=by omega
           go_wp2
           go_ret
           exact ⟨rfl,S.b⟩
end Go.Proofs.YtmnnhjhhhfabiaaGreat
