import Derived.Test.YtpbghmeikcphnaaGreatLstPop
import Derived.Deep.OwnRows
namespace Go.Proofs.YtpbghmeikcphnaaGreat
open Go.RowKit
theorem vT:(Tryz.prog.info? 4).map (fun i=>(i.zero,i.size,i.bytes))=some (some (.bool false),1,1):=by kernel_rfl
theorem vS:(Tryz.prog.info? 3).map (fun i=>(i.zero,i.size,i.bytes))=some (some (.int .i64 0),1,8):=by kernel_rfl
theorem Pj {P:Program} {R:World->World->Prop} {o:Oper} {a:Act} {w w':World} {φ:World->Value->Prop} {t:TypeId} {v:Value} (l c:Operand) (ho:o.op=.makeSlice t l c) (hr:(Instr.makeSlice t (a.eval l) (a.eval c)).run P w=.ok v w') (hR:R w w') (hφ:φ w' v):Zk P R w φ ((execOp a.eval o).run P w):=by
 unfold execOp
 simp only[ho,Sem.run_bind,Sem.run_pure,Result.andThen_ok,hr]
 exact⟨hR,hφ⟩
theorem XR.congr {E:Nat->En} {i last:Nat} {key:Int} {p p':Prop} (h:XR E i key p last) (e:p↔p'):XR E i key p' last :=
 ⟨fun h0=>⟨fun hp=>(h.no h0).1 (e.2 hp),(h.no h0).2⟩,fun h0=>by obtain⟨j,a,b,c,d⟩:=h.yes h0;exact⟨j,a,b,c,e.symm.trans d⟩,h.mx⟩
theorem vP {σ0 σ:Nat} {u:Hi} {D:List Dd} {z:Nat->Bool} {la:Nat->Nat} (T:MJ σ0 σ u D) (L:∀ x:Nat,x<8->XR (YW D) D.length x (z x=true) (la x)) (x:Int) (hx:0<=x):u.S σ x↔∃ i:Nat,i<8/\x=(i:Nat)/\z i=true:=by
 by_cases h:x<8
 . obtain⟨i,rfl⟩:∃ i:Nat,x=i:=⟨x.toNat,by omega⟩
   rw[<- T.t.left T.s0 hx (L i (by omega))]
   constructor
   . exact fun e=>⟨i,by omega,rfl,e⟩
   . rintro⟨j,_,a,b⟩
     have:i=j:=by omega
     rw[this];exact b
 . have:XR (YW D) D.length x False 0:=by
    refine⟨fun _=>⟨id,fun j hj hd=>?_⟩,fun h=>absurd rfl h,fun j hj hd=>?_⟩
    . have:=T.k8 j hj
      have:=hd.2.2
      simp only[YW,Dd.e] at this
      omega
    . have:=T.k8 j hj
      have:=hd.2.2
      simp only[YW,Dd.e] at this
      omega
   rw[<- T.t.left T.s0 hx this]
   constructor
   . exact False.elim
   . rintro⟨j,a,b,_⟩
     omega
theorem World.rowIs.dL {w:World} {B n:Nat} {z:Nat->Bool} (h:w.rowIs B 4 n (fun j=>.bool (z j))):∃ c,w.heap[B]?=some (.cells c 4 (0,0))/\n<=c.size/\∀ i,i<n->c[i]?=some (.bool (z i)) :=
 h.imp fun _ k=>⟨k.1,Nat.le_of_eq k.2.1.symm,k.2.2⟩
set_option maxRecDepth 20000 in
set_option maxHeartbeats 4000000 in
theorem DT {σ0 σ:Nat} {u:Hi} {D:List Dd} {b cap N:Nat} {w:World} (T:Hid (MJ σ0 σ u D)) (R0:Rz w 45 9 b cap (D.map Dd.dn)) (HN:Hid (D.length=N)):Calls Tryz.prog 18 #[.slice (some ⟨b,0,none⟩) N cap] w fun e w'=>∃ Bb:Nat,e=.returned (.slice (some ⟨Bb,0,none⟩) 8 8)/\∃ z:Nat->Bool,Bz w' Bb 8 z/\w.heap.size<=Bb/\Below w.heap.size w w'/\∀ x:Int,0<=x->(u.S σ x↔∃ i:Nat,i<8/\x=(i:Nat)/\z i=true):=by
 have hNb:(N:Int)<=30:=by have h1:=T.out.ln;have h2:=HN.out;omega
 have hblt:=R0.lt
 go_enter Tryz.func18,Tryz.ntmps18
 go_wp2
 refine ZM Grown [.that (fun w' v=>∃ B,v=.slice (some ⟨B,0,none⟩) 8 8/\w.heap.size<=B/\World.rowIs w' B 4 8 (fun _=>.bool false)) ?_,.that (fun w' v=>∃ B,v=.slice (some ⟨B,0,none⟩) 8 8/\w.heap.size<=B/\World.rowIs w' B 3 8 (fun _=>.int .i64 0)) ?_,.that (fun w' v=>∃ B,v=.slice (some ⟨B,0,none⟩) 8 8/\w.heap.size<=B/\World.rowIs w' B 4 8 (fun _=>.bool false)) ?_,.that (fun w' v=>∃ B,v=.slice (some ⟨B,0,none⟩) 8 8/\w.heap.size<=B/\World.rowIs w' B 3 8 (fun _=>.int .i64 0)) ?_] (by kernel_rfl) Grown.refl Grown.trans (by kernel_rfl) (by kernel_rfl) (by kernel_rfl) ?_
 . rintro x1 y1 v hg ⟨B,hv,hb,hr⟩
   exact⟨B,hv,hb,hr.of_block (hg.block _ hr.lt)⟩
 . rintro x1 y1 v hg ⟨B,hv,hb,hr⟩
   exact⟨B,hv,hb,hr.of_block (hg.block _ hr.lt)⟩
 . rintro x1 y1 v hg ⟨B,hv,hb,hr⟩
   exact⟨B,hv,hb,hr.of_block (hg.block _ hr.lt)⟩
 . rintro x1 y1 v hg ⟨B,hv,hb,hr⟩
   exact⟨B,hv,hb,hr.of_block (hg.block _ hr.lt)⟩
 simp only[ZH,Act.put,List.setIfInBounds_toArray,List.set_cons_zero,List.set_cons_succ]
 refine⟨?_,?_⟩
 . intro w' hg _
   apply ol
   have hz:w.heap.size<=w'.heap.size:=by have:=hg.size;have e:w.drew.heap.size=w.heap.size:=rfl;omega
   exact Pj (.const (.int .i64 8)) (.const (.int .i64 8)) rfl (run_make_row' (P:=Tryz.prog) 32 4 (.bool false) 1 rfl vT rfl .i64 .i64 8 (by decide) (by decide) w') (ZY _ _) ⟨_,rfl,hz,World.rowIs_made _ _ _ _⟩
 intro v0
 refine⟨?_,?_⟩
 . intro w' hg _
   apply ol
   have hz:w.heap.size<=w'.heap.size:=by have:=hg.size;have e:w.drew.heap.size=w.heap.size:=rfl;omega
   exact Pj (.const (.int .i64 8)) (.const (.int .i64 8)) rfl (run_make_row' (P:=Tryz.prog) 41 3 (.int .i64 0) 8 rfl vS rfl .i64 .i64 8 (by decide) (by decide) w') (ZY _ _) ⟨_,rfl,hz,World.rowIs_made _ _ _ _⟩
 intro v1
 refine⟨?_,?_⟩
 . intro w' hg hf
   apply ol
   obtain⟨B,rfl,hb,hr⟩:=hf.2.1 (by kernel_rfl)
   go_simp
   exact⟨Grown.refl _,B,rfl,hb,hr⟩
 intro v2
 refine⟨?_,?_⟩
 . intro w' hg hf
   apply ol
   obtain⟨B,rfl,hb,hr⟩:=hf.2.1 (by kernel_rfl)
   go_simp
   exact⟨Grown.refl _,B,rfl,hb,hr⟩
 intro v3
 intro w4 hg hf
 obtain⟨⟨Bi,rfl,jl,ri⟩,⟨Bb,rfl,hBb,rb⟩,-⟩:=hf
 have g4:Below w.heap.size w w4:=grow ((Below.refl _ _).drew) hg
 have R4:=R0.grown g4
 have vO:Bb≠Bi:=fun e=>by
  obtain⟨c,h1,-⟩:=rb
  obtain⟨c2,h2,-⟩:=ri
  rw[e,h2] at h1
  simp at h1
 have HB0:Hid (w.heap.size<=Bb):=hBb
 have tV:Hid (b≠Bb/\b≠Bi/\w.heap.size<=Bi):=⟨by omega,by omega,jl⟩
 have S0:Hid (World.rowIs w4 Bb 4 8 (fun _=>.bool false)/\World.rowIs w4 Bi 3 8 (fun _=>.int .i64 0)/\Rz w4 45 9 b cap (D.map Dd.dn)/\Below w.heap.size w w4):=⟨rb,ri,R4,g4⟩
 clear rb ri R4 g4 hg jl hBb R0 hblt
 go_wp2
 go_loopw [5] (fun iv wr=>∃ (i:Nat) (z:Nat->Bool) (la:Nat->Nat),iv=.int .i64 i/\i<=N/\(∀ x:Nat,x<8->XR (YW D) i x (z x=true) (la x))/\World.rowIs wr Bb 4 8 (fun j=>.bool (z j))/\World.rowIs wr Bi 3 8 (fun j=>.int .i64 (la j))/\Rz wr 45 9 b cap (D.map Dd.dn)/\Below w.heap.size w wr) (fun iv _=>N - (intOf iv).toNat)
 case atStart=>exact⟨0,fun _=>false,fun _=>0,rfl,Nat.zero_le _,fun x _=>(XR.first _ _).congr ⟨False.elim,fun h=>by cases h⟩,S0.out⟩
 case round =>
  clear S0
  obtain⟨i,z,la,hi1,hi,jh,zG,vM,RG,uA⟩:=hrel
  subst hi1
  have uz:Hid (∀ x:Nat,x<8->XR (YW D) i x (z x=true) (la x)):=jh
  clear jh
  by_cases hiN:(i:Int)<(N:Int)
  . have LV:Hid (i<D.length):=by show i<D.length;rw[HN.out];omega
    have hib:(0:Int)<=(i:Int)/\(i:Int)<(N:Int):=by omega
    have hk8:=T.out.k8 i LV.out
    obtain⟨who,hwho⟩:∃ x,(Zt D i).who=x:=⟨_,rfl⟩
    obtain⟨kd,hkd⟩:∃ x,(Zt D i).kd=x:=⟨_,rfl⟩
    obtain⟨kk,hkk⟩:∃ x,(Zt D i).k=x:=⟨_,rfl⟩
    obtain⟨vv,hvv⟩:∃ x,(Zt D i).v=x:=⟨_,rfl⟩
    obtain⟨s1,hs1⟩:∃ x:Int,((Zt D i).st:Int)=x:=⟨_,rfl⟩
    obtain⟨b1,hb1⟩:∃ x:Int,((Zt D i).bg:Int)=x:=⟨_,rfl⟩
    obtain⟨n1,hn1⟩:∃ x:Int,((Zt D i).en:Int)=x:=⟨_,rfl⟩
    obtain⟨l1,hl1⟩:∃ x:Int,((la kk:Nat):Int)=x:=⟨_,rfl⟩
    have oJ:Hid (((la kk:Nat):Int)=l1):=hl1
    have uy:Hid ((Zt D i).kd=kd):=hkd
    have HVV:Hid ((Zt D i).v=vv):=hvv
    have lg:Hid (((Zt D i).st:Int)=s1):=hs1
    have Jz:Hid ((Zt D i).k=kk):=hkk
    have HKK:Hid (kk<8):=by show kk<8;rw[<- hkk];exact hk8
    have kZ:(0:Int)<=(kk:Int)/\(kk:Int)<8:=by have:=HKK.out;omega
    clear hk8 hl1
    have e0:wr.cell? ⟨b,i * 9,none⟩=some (.int .i64 who):=by have h:=RG.dd LV.out (j:=0) rfl;rw[hwho] at h;exact h
    have e1:wr.cell? ⟨b,i * 9+1,none⟩=some (.int .i64 kd):=by have h:=RG.dd LV.out (j:=1) rfl;rw[hkd] at h;exact h
    have e2:wr.cell? ⟨b,i * 9+2,none⟩=some (.int .i64 kk):=by have h:=RG.dd LV.out (j:=2) rfl;rw[hkk] at h;exact h
    have e3:wr.cell? ⟨b,i * 9+3,none⟩=some (.int .i64 0):=by have h:=RG.dd LV.out (j:=3) rfl;exact h
    have e4:wr.cell? ⟨b,i * 9+4,none⟩=some (.int .u64 0):=by have h:=RG.dd LV.out (j:=4) rfl;exact h
    have e5:wr.cell? ⟨b,i * 9+5,none⟩=some (.int .i64 vv):=by have h:=RG.dd LV.out (j:=5) rfl;rw[hvv] at h;exact h
    have e6:wr.cell? ⟨b,i * 9+6,none⟩=some (.int .i64 s1):=by have h:=RG.dd LV.out (j:=6) rfl;rw[hs1] at h;exact h
    have e7:wr.cell? ⟨b,i * 9+7,none⟩=some (.int .i64 b1):=by have h:=RG.dd LV.out (j:=7) rfl;rw[hb1] at h;exact h
    have e8:wr.cell? ⟨b,i * 9+8,none⟩=some (.int .i64 n1):=by have h:=RG.dd LV.out (j:=8) rfl;rw[hn1] at h;exact h
    have gA:=ZY wr (.cells #[.int .i64 who,.int .i64 kd,.int .i64 kk,.int .i64 0,.int .u64 0,.int .i64 vv,.int .i64 s1,.int .i64 b1,.int .i64 n1] 45)
    have d9:=At.new wr 45 [.int .i64 who,.int .i64 kd,.int .i64 kk,.int .i64 0,.int .u64 0,.int .i64 vv,.int .i64 s1,.int .i64 b1,.int .i64 n1]
    obtain⟨Xq,yH⟩:∃ Xq,wr.heap.size=Xq:=⟨_,rfl⟩
    have HX:Hid (Xq≠Bb/\Xq≠Bi/\Xq≠b):=by have:=zG.lt;have:=vM.lt;have:=RG.lt;show _/\_;omega
    have S9:Hid (At (wr.alloc (.cells #[.int .i64 who,.int .i64 kd,.int .i64 kk,.int .i64 0,.int .u64 0,.int .i64 vv,.int .i64 s1,.int .i64 b1,.int .i64 n1] 45)) wr.heap.size 0 45 #[.int .i64 who,.int .i64 kd,.int .i64 kk,.int .i64 0,.int .u64 0,.int .i64 vv,.int .i64 s1,.int .i64 b1,.int .i64 n1] [.int .i64 who,.int .i64 kd,.int .i64 kk,.int .i64 0,.int .u64 0,.int .i64 vv,.int .i64 s1,.int .i64 b1,.int .i64 n1]/\World.rowIs (wr.alloc (.cells #[.int .i64 who,.int .i64 kd,.int .i64 kk,.int .i64 0,.int .u64 0,.int .i64 vv,.int .i64 s1,.int .i64 b1,.int .i64 n1] 45)) Bb 4 8 (fun j=>.bool (z j))/\World.rowIs (wr.alloc (.cells #[.int .i64 who,.int .i64 kd,.int .i64 kk,.int .i64 0,.int .u64 0,.int .i64 vv,.int .i64 s1,.int .i64 b1,.int .i64 n1] 45)) Bi 3 8 (fun j=>.int .i64 (la j))/\Rz (wr.alloc (.cells #[.int .i64 who,.int .i64 kd,.int .i64 kk,.int .i64 0,.int .u64 0,.int .i64 vv,.int .i64 s1,.int .i64 b1,.int .i64 n1] 45)) 45 9 b cap (D.map Dd.dn)/\Below w.heap.size w (wr.alloc (.cells #[.int .i64 who,.int .i64 kd,.int .i64 kk,.int .i64 0,.int .u64 0,.int .i64 vv,.int .i64 s1,.int .i64 b1,.int .i64 n1] 45))):=⟨d9,zG.alloc _,vM.alloc _,RG.grown gA,grow uA gA⟩
    clear d9 gA hwho hkd hkk hvv hs1 hb1 hn1 zG vM RG uA
    go_wp2
    refine ZT (fun W=>At W wr.heap.size 0 45 #[.int .i64 who,.int .i64 kd,.int .i64 kk,.int .i64 0,.int .u64 0,.int .i64 vv,.int .i64 s1,.int .i64 b1,.int .i64 n1] [.int .i64 who,.int .i64 kd,.int .i64 kk,.int .i64 0,.int .u64 0,.int .i64 vv,.int .i64 s1,.int .i64 b1,.int .i64 n1]/\World.rowIs W Bb 4 8 (fun j=>.bool (z j))/\World.rowIs W Bi 3 8 (fun j=>.int .i64 (la j))/\Rz W 45 9 b cap (D.map Dd.dn)/\Below w.heap.size w W) S9.out ?_
    clear S9 e0 e1 e2 e3 e4 e5 e6 e7 e8
    rintro W ⟨dd,hrb,KU,RR,b9⟩
    simp only[yH] at dd ⊢
    clear yH
    by_cases FO:kd=1
    . skip
      have hkn:(kd != 1)=false:=by rw[FO];decide
      refine ZM Grown [.val (.pointer (some ⟨Xq,0,none⟩)),.val (.pointer (some ⟨Xq,1,none⟩)),.val (.int .i64 kd),.val (.bool false),.val (.bool false),.val undef,.val undef,.val undef,.val undef,.val (.bool false),.val (.bool false),.val undef,.val undef,.val undef,.val undef,.val undef,.val undef,.val undef,.val undef,.val undef,.val undef,.val (.bool false)] (by kernel_rfl) Grown.refl Grown.trans (by kernel_rfl) (by kernel_rfl) (by kernel_rfl) ?_
      simp only[ZH,Act.put,List.setIfInBounds_toArray,List.set_cons_zero,List.set_cons_succ]
      refine⟨?_,?_⟩
      . intros;apply ol;go_simp;exact gl
      refine⟨?_,?_⟩
      . intros;apply ol;go_simp;exact gl
      refine⟨?_,?_⟩
      . intro w' hg _
        apply ol
        have WT:=(dd.drew.grown hg).at0 1 rfl
        go_simp
        exact gl
      refine⟨?_,?_⟩
      . intro w' hg _
        apply ol
        have WT:=hkn
        go_simp
        exact gl
      refine⟨?_,?_⟩
      . intros;apply ol;go_simp;exact gl
      refine⟨?_,?_⟩
      . intros;exact ur
      refine⟨?_,?_⟩
      . intros;exact ur
      refine⟨?_,?_⟩
      . intros;exact ur
      refine⟨?_,?_⟩
      . intros;exact ur
      refine⟨?_,?_⟩
      . intros;apply ol;go_simp;exact gl
      refine⟨?_,?_⟩
      . intros;apply ol;go_simp;exact gl
      refine⟨?_,?_⟩
      . intros;exact ur
      refine⟨?_,?_⟩
      . intros;exact ur
      refine⟨?_,?_⟩
      . intros;exact ur
      refine⟨?_,?_⟩
      . intros;exact ur
      refine⟨?_,?_⟩
      . intros;exact ur
      refine⟨?_,?_⟩
      . intros;exact ur
      refine⟨?_,?_⟩
      . intros;exact ur
      refine⟨?_,?_⟩
      . intros;exact ur
      refine⟨?_,?_⟩
      . intros;exact ur
      refine⟨?_,?_⟩
      . intros;exact ur
      refine⟨?_,?_⟩
      . intros;apply ol;go_simp;exact gl
      intro w7 hg _
      have g7:Below W.heap.size W w7:=grow ((Below.refl _ _).drew) hg
      have zF:=hrb.of_block (g7.block _ hrb.lt)
      have zD:=KU.of_block (g7.block _ KU.lt)
      have vK:=RR.grown g7
      have b7:=grow b9 g7
      have d7:=dd.grown g7
      clear hrb KU RR b9 dd hg g7
      clear hkn
      have qC:(YW D i).kd=1:=by show (Zt D i).kd=1;rw[uy.out];exact FO
      have vJ:Hid (∀ x:Nat,x<8->XR (YW D) (i+1) x (z x=true) (la x)):=fun x hx=>(T.out.t.last (uz.out x hx) LV.out).2 (fun h=>h.1.1 qC)
      go_wp2
      go_roundw
      case rel=>exact⟨i+1,z,la,by go_num,by omega,vJ.out,zF,zD,vK,b7⟩
      case measure=>simp[intOf];omega
    . by_cases hv1:vv=1
      . by_cases hls:l1<=s1
        . skip
          have hkn:(kd != 1)=true:=by simpa using FO
          have hvn:(vv == 1)=true:=by rw[hv1];rfl
          have hsl:decide (l1<=s1)=true:=decide_eq_true hls
          refine ZM Grown [.val (.pointer (some ⟨Xq,0,none⟩)),.val (.pointer (some ⟨Xq,1,none⟩)),.val (.int .i64 kd),.val (.bool true),.val (.bool true),.val (.pointer (some ⟨Xq,3,none⟩)),.val (.pointer (some ⟨Xq,5,none⟩)),.val (.int .i64 vv),.val (.bool true),.val (.bool true),.val (.bool true),.val (.pointer (some ⟨Xq,3,none⟩)),.val (.pointer (some ⟨Xq,6,none⟩)),.val (.int .i64 s1),.val (.slice (some ⟨Bi,0,none⟩) 8 8),.val (.pointer (some ⟨Xq,0,none⟩)),.val (.pointer (some ⟨Xq,2,none⟩)),.val (.int .i64 kk),.val (.pointer (some ⟨Bi,kk,none⟩)),.val (.int .i64 l1),.val (.bool true),.val (.bool true)] (by kernel_rfl) Grown.refl Grown.trans (by kernel_rfl) (by kernel_rfl) (by kernel_rfl) ?_
          simp only[ZH,Act.put,List.setIfInBounds_toArray,List.set_cons_zero,List.set_cons_succ]
          refine⟨?_,?_⟩
          . intros;apply ol;go_simp;exact gl
          refine⟨?_,?_⟩
          . intros;apply ol;go_simp;exact gl
          refine⟨?_,?_⟩
          . intro w' hg _
            apply ol
            have WT:=(dd.drew.grown hg).at0 1 rfl
            go_simp
            exact gl
          refine⟨?_,?_⟩
          . intro w' hg _
            apply ol
            have WT:=hkn
            go_simp
            exact gl
          refine⟨?_,?_⟩
          . intros;apply ol;go_simp;exact gl
          refine⟨?_,?_⟩
          . intros;apply ol;go_simp;exact gl
          refine⟨?_,?_⟩
          . intros;apply ol;go_simp;exact gl
          refine⟨?_,?_⟩
          . intro w' hg _
            apply ol
            have WT:=(dd.drew.grown hg).at0 5 rfl
            go_simp
            exact gl
          refine⟨?_,?_⟩
          . intro w' hg _
            apply ol
            have WT:=hvn
            go_simp
            exact gl
          refine⟨?_,?_⟩
          . intros;apply ol;go_simp;exact gl
          refine⟨?_,?_⟩
          . intros;apply ol;go_simp;exact gl
          refine⟨?_,?_⟩
          . intros;apply ol;go_simp;exact gl
          refine⟨?_,?_⟩
          . intros;apply ol;go_simp;exact gl
          refine⟨?_,?_⟩
          . intro w' hg _
            apply ol
            have WT:=(dd.drew.grown hg).at0 6 rfl
            go_simp
            exact gl
          refine⟨?_,?_⟩
          . intros;apply ol;go_simp;exact gl
          refine⟨?_,?_⟩
          . intros;apply ol;go_simp;exact gl
          refine⟨?_,?_⟩
          . intros;apply ol;go_simp;exact gl
          refine⟨?_,?_⟩
          . intro w' hg _
            apply ol
            have WT:=(dd.drew.grown hg).at0 2 rfl
            go_simp
            exact gl
          refine⟨?_,?_⟩
          . intros;apply ol;go_simp;exact gl
          refine⟨?_,?_⟩
          . intro w' hg _
            apply ol
            have WT:=(KU.of_block (b:=Bi) (hg.block _ (show Bi<W.drew.heap.size from KU.lt))).cell HKK.out;rw[oJ.out] at WT
            go_simp
            exact gl
          refine⟨?_,?_⟩
          . intro w' hg _
            apply ol
            have WT:=hsl
            go_simp
            exact gl
          refine⟨?_,?_⟩
          . intros;apply ol;go_simp;exact gl
          intro w7 hg _
          have g7:Below W.heap.size W w7:=grow ((Below.refl _ _).drew) hg
          have zF:=hrb.of_block (g7.block _ hrb.lt)
          have zD:=KU.of_block (g7.block _ KU.lt)
          have vK:=RR.grown g7
          have b7:=grow b9 g7
          have d7:=dd.grown g7
          clear hrb KU RR b9 dd hg g7
          have rq:Hid ((YW D i).did kk/\la kk<=(YW D i).st):=⟨⟨(by show (Zt D i).kd≠1;rw[uy.out];exact FO),(by show (Zt D i).v=1;rw[HVV.out];exact hv1),(by show ((Zt D i).k:Int)=kk;rw[Jz.out])⟩,(by show la kk<=(Zt D i).st;have h3:=oJ.out;have h4:=lg.out;omega)⟩
          have vJ:Hid (∀ x:Nat,x<8->XR (YW D) (i+1) x (upd z kk (decide (kd=2)) x=true) (upd la kk (Zt D i).st x)):=fun x hx=>by
           by_cases e:x=kk
           . rw[e,upd_same,upd_same]
             exact((T.out.t.last (uz.out kk HKK.out) LV.out).1 rq.out.1 rq.out.2).congr (by show (Zt D i).kd=2↔_;rw[uy.out];exact⟨fun h=>decide_eq_true h,fun h=>of_decide_eq_true h⟩)
           . rw[Z9 _ _ _ _ e,Z9 _ _ _ _ e]
             exact(T.out.t.last (uz.out x hx) LV.out).2 (fun h=>e (by have h1:((Zt D i).k:Int)=(x:Int):=h.1.2.2;have h2:=Jz.out;omega))
          have x1:=d7.at0 1 rfl
          have x2:=d7.at0 2 rfl
          have x6:=d7.at0 6 rfl
          have cb:=zF.cell HKK.out
          have cbf:=zF.frozen kk
          have cf:=zD.cell HKK.out
          have cff:=zD.frozen kk
          obtain⟨nb,hnb⟩:∃ nb,(kd == 2)=nb:=⟨_,rfl⟩
          have dK:Hid (decide (kd=2)=nb):=by show _=_;rw[<- hnb];rfl
          have HBI:Hid (Bb≠Bi):=vO
          have hx1:Xq≠Bb:=HX.out.1
          have hx2:Xq≠Bi:=HX.out.2.1
          have hx3:=hx1.symm
          have hx4:=hx2.symm
          have hx5:=vO.symm
          have m1:=fun v=>(d7.other hx1 kk v).drew.at0 1 rfl
          have m2:=fun v=>(d7.other hx1 kk v).drew.at0 2 rfl
          have m6:=fun v=>(d7.other hx1 kk v).drew.at0 6 rfl
          clear hkn hvn hsl
          go_wp2
          go_region
          go_wp2
          go_roundw
          case rel =>
           refine⟨i+1,upd z kk (decide (kd=2)),upd la kk (Zt D i).st,by go_num,by omega,vJ.out,?_,?_,?_,?_⟩
           . refine(((zF.set kk (.bool nb)).setOther (a:=⟨Bi,kk,none⟩) vO (.int .i64 s1)).drew).congr (fun j _=>?_)
             by_cases ej:j=kk
             . rw[if_pos ej,ej,upd_same,dK.out]
             . rw[if_neg ej,Z9 _ _ _ _ ej]
           . refine(((zD.setOther (a:=⟨Bb,kk,none⟩) hx5 (.bool nb)).set kk (.int .i64 s1)).drew).congr (fun j _=>?_)
             by_cases ej:j=kk
             . rw[if_pos ej,ej,upd_same,<- lg.out]
             . rw[if_neg ej,Z9 _ _ _ _ ej]
           . exact(vK.only (((Only.refl (fun y=>y=Bb\/y=Bi) _).setCell (a:=⟨Bb,kk,none⟩) (fun _=>Or.inl rfl) _).setCell (a:=⟨Bi,kk,none⟩) (fun _=>Or.inr rfl) _) (fun e=>e.elim tV.out.1 tV.out.2.1)).grown ((Below.refl _ _).drew)
           . exact grow (Z7 (Z7 b7 HB0.out kk (.bool nb)) tV.out.2.2 kk (.int .i64 s1)) ((Below.refl _ _).drew)
          case measure=>simp[intOf];omega
        . skip
          have hkn:(kd != 1)=true:=by simpa using FO
          have hvn:(vv == 1)=true:=by rw[hv1];rfl
          have hsl:decide (l1<=s1)=false:=decide_eq_false hls
          refine ZM Grown [.val (.pointer (some ⟨Xq,0,none⟩)),.val (.pointer (some ⟨Xq,1,none⟩)),.val (.int .i64 kd),.val (.bool true),.val (.bool true),.val (.pointer (some ⟨Xq,3,none⟩)),.val (.pointer (some ⟨Xq,5,none⟩)),.val (.int .i64 vv),.val (.bool true),.val (.bool true),.val (.bool true),.val (.pointer (some ⟨Xq,3,none⟩)),.val (.pointer (some ⟨Xq,6,none⟩)),.val (.int .i64 s1),.val (.slice (some ⟨Bi,0,none⟩) 8 8),.val (.pointer (some ⟨Xq,0,none⟩)),.val (.pointer (some ⟨Xq,2,none⟩)),.val (.int .i64 kk),.val (.pointer (some ⟨Bi,kk,none⟩)),.val (.int .i64 l1),.val (.bool false),.val (.bool false)] (by kernel_rfl) Grown.refl Grown.trans (by kernel_rfl) (by kernel_rfl) (by kernel_rfl) ?_
          simp only[ZH,Act.put,List.setIfInBounds_toArray,List.set_cons_zero,List.set_cons_succ]
          refine⟨?_,?_⟩
          . intros;apply ol;go_simp;exact gl
          refine⟨?_,?_⟩
          . intros;apply ol;go_simp;exact gl
          refine⟨?_,?_⟩
          . intro w' hg _
            apply ol
            have WT:=(dd.drew.grown hg).at0 1 rfl
            go_simp
            exact gl
          refine⟨?_,?_⟩
          . intro w' hg _
            apply ol
            have WT:=hkn
            go_simp
            exact gl
          refine⟨?_,?_⟩
          . intros;apply ol;go_simp;exact gl
          refine⟨?_,?_⟩
          . intros;apply ol;go_simp;exact gl
          refine⟨?_,?_⟩
          . intros;apply ol;go_simp;exact gl
          refine⟨?_,?_⟩
          . intro w' hg _
            apply ol
            have WT:=(dd.drew.grown hg).at0 5 rfl
            go_simp
            exact gl
          refine⟨?_,?_⟩
          . intro w' hg _
            apply ol
            have WT:=hvn
            go_simp
            exact gl
          refine⟨?_,?_⟩
          . intros;apply ol;go_simp;exact gl
          refine⟨?_,?_⟩
          . intros;apply ol;go_simp;exact gl
          refine⟨?_,?_⟩
          . intros;apply ol;go_simp;exact gl
          refine⟨?_,?_⟩
          . intros;apply ol;go_simp;exact gl
          refine⟨?_,?_⟩
          . intro w' hg _
            apply ol
            have WT:=(dd.drew.grown hg).at0 6 rfl
            go_simp
            exact gl
          refine⟨?_,?_⟩
          . intros;apply ol;go_simp;exact gl
          refine⟨?_,?_⟩
          . intros;apply ol;go_simp;exact gl
          refine⟨?_,?_⟩
          . intros;apply ol;go_simp;exact gl
          refine⟨?_,?_⟩
          . intro w' hg _
            apply ol
            have WT:=(dd.drew.grown hg).at0 2 rfl
            go_simp
            exact gl
          refine⟨?_,?_⟩
          . intros;apply ol;go_simp;exact gl
          refine⟨?_,?_⟩
          . intro w' hg _
            apply ol
            have WT:=(KU.of_block (b:=Bi) (hg.block _ (show Bi<W.drew.heap.size from KU.lt))).cell HKK.out;rw[oJ.out] at WT
            go_simp
            exact gl
          refine⟨?_,?_⟩
          . intro w' hg _
            apply ol
            have WT:=hsl
            go_simp
            exact gl
          refine⟨?_,?_⟩
          . intros;apply ol;go_simp;exact gl
          intro w7 hg _
          have g7:Below W.heap.size W w7:=grow ((Below.refl _ _).drew) hg
          have zF:=hrb.of_block (g7.block _ hrb.lt)
          have zD:=KU.of_block (g7.block _ KU.lt)
          have vK:=RR.grown g7
          have b7:=grow b9 g7
          have d7:=dd.grown g7
          clear hrb KU RR b9 dd hg g7
          clear hkn
          have hno:∀ x:Nat,¬ ((YW D i).did x/\la x<=(YW D i).st):=fun x h=>by
           have e:((Zt D i).k:Int)=(x:Int):=h.1.2.2
           have e2:=Jz.out
           have e3:x=kk:=by omega
           have h2:la x<=(Zt D i).st:=h.2
           have h3:=oJ.out
           have h4:=lg.out
           rw[e3] at h2
           omega
          have vJ:Hid (∀ x:Nat,x<8->XR (YW D) (i+1) x (z x=true) (la x)):=fun x hx=>(T.out.t.last (uz.out x hx) LV.out).2 (hno x)
          go_wp2
          go_roundw
          case rel=>exact⟨i+1,z,la,by go_num,by omega,vJ.out,zF,zD,vK,b7⟩
          case measure=>simp[intOf];omega
      . skip
        have hkn:(kd != 1)=true:=by simpa using FO
        have hvn:(vv == 1)=false:=by simpa using hv1
        refine ZM Grown [.val (.pointer (some ⟨Xq,0,none⟩)),.val (.pointer (some ⟨Xq,1,none⟩)),.val (.int .i64 kd),.val (.bool true),.val (.bool true),.val (.pointer (some ⟨Xq,3,none⟩)),.val (.pointer (some ⟨Xq,5,none⟩)),.val (.int .i64 vv),.val (.bool false),.val (.bool false),.val (.bool false),.val undef,.val undef,.val undef,.val undef,.val undef,.val undef,.val undef,.val undef,.val undef,.val undef,.val (.bool false)] (by kernel_rfl) Grown.refl Grown.trans (by kernel_rfl) (by kernel_rfl) (by kernel_rfl) ?_
        simp only[ZH,Act.put,List.setIfInBounds_toArray,List.set_cons_zero,List.set_cons_succ]
        refine⟨?_,?_⟩
        . intros;apply ol;go_simp;exact gl
        refine⟨?_,?_⟩
        . intros;apply ol;go_simp;exact gl
        refine⟨?_,?_⟩
        . intro w' hg _
          apply ol
          have WT:=(dd.drew.grown hg).at0 1 rfl
          go_simp
          exact gl
        refine⟨?_,?_⟩
        . intro w' hg _
          apply ol
          have WT:=hkn
          go_simp
          exact gl
        refine⟨?_,?_⟩
        . intros;apply ol;go_simp;exact gl
        refine⟨?_,?_⟩
        . intros;apply ol;go_simp;exact gl
        refine⟨?_,?_⟩
        . intros;apply ol;go_simp;exact gl
        refine⟨?_,?_⟩
        . intro w' hg _
          apply ol
          have WT:=(dd.drew.grown hg).at0 5 rfl
          go_simp
          exact gl
        refine⟨?_,?_⟩
        . intro w' hg _
          apply ol
          have WT:=hvn
          go_simp
          exact gl
        refine⟨?_,?_⟩
        . intros;apply ol;go_simp;exact gl
        refine⟨?_,?_⟩
        . intros;apply ol;go_simp;exact gl
        refine⟨?_,?_⟩
        . intros;exact ur
        refine⟨?_,?_⟩
        . intros;exact ur
        refine⟨?_,?_⟩
        . intros;exact ur
        refine⟨?_,?_⟩
        . intros;exact ur
        refine⟨?_,?_⟩
        . intros;exact ur
        refine⟨?_,?_⟩
        . intros;exact ur
        refine⟨?_,?_⟩
        . intros;exact ur
        refine⟨?_,?_⟩
        . intros;exact ur
        refine⟨?_,?_⟩
        . intros;exact ur
        refine⟨?_,?_⟩
        . intros;exact ur
        refine⟨?_,?_⟩
        . intros;apply ol;go_simp;exact gl
        intro w7 hg _
        have g7:Below W.heap.size W w7:=grow ((Below.refl _ _).drew) hg
        have zF:=hrb.of_block (g7.block _ hrb.lt)
        have zD:=KU.of_block (g7.block _ KU.lt)
        have vK:=RR.grown g7
        have b7:=grow b9 g7
        have d7:=dd.grown g7
        clear hrb KU RR b9 dd hg g7
        clear hkn
        have kY:¬ (YW D i).v=1:=by show ¬ (Zt D i).v=1;rw[HVV.out];exact hv1
        have vJ:Hid (∀ x:Nat,x<8->XR (YW D) (i+1) x (z x=true) (la x)):=fun x hx=>(T.out.t.last (uz.out x hx) LV.out).2 (fun h=>kY h.1.2.1)
        go_wp2
        go_roundw
        case rel=>exact⟨i+1,z,la,by go_num,by omega,vJ.out,zF,zD,vK,b7⟩
        case measure=>simp[intOf];omega
  . have oH:i=D.length:=by rw[HN.out];omega
    go_wp2
    go_ret
    refine⟨Bb,rfl,z,⟨World.rowIs.dL zG⟩,HB0.out,uA,fun x hx=>?_⟩
    have LL:=uz.out
    rw[oH] at LL
    exact vP T.out LL x hx
end Go.Proofs.YtpbghmeikcphnaaGreat
