import Derived.Test.YtpbghmeikcphnaaGreatLstPop
namespace Go.Proofs.YtpbghmeikcphnaaGreat
open Go.RowKit
set_option maxRecDepth 20000 in
set_option maxHeartbeats 4000000 in
theorem J3 {σ0 σ:Nat} {u:Hi} {D:List Dd} {b cap N:Nat} {w:World} (T:Hid (MJ σ0 σ u D)) (R0:Rz w 45 9 b cap (D.map Dd.dn)) (HN:Hid (D.length=N)):Calls Tryz.prog 17 #[.slice (some ⟨b,0,none⟩) N cap] w fun e w'=>e=.returned (.bool true)/\Below w.heap.size w w':=by
 obtain⟨i0,hi,hz0,hz1,hz2⟩:=qY
 have jg:Hid (N<=30):=by show N<=30;rw[<- HN.out];exact T.out.ln
 have hNb:(N:Int)<=30:=by have:=jg.out;omega
 have hblt:=R0.lt
 go_enter Tryz.func17,Tryz.ntmps17
 go_wp2_with (at_make;go_must (refine wpList_make_full _ rfl (.const (.int .i64 8)) (.const (.int .i64 8)) 32 rfl w.heap.size 4 i0 (.bool false) 1 (by kernel_rfl) hi hz0 hz1 .i64 .i64 8 8 8 rfl rfl rfl rfl (by rw[hz2];decide) (by decide) (Nat.le_refl _) ?_;intro w4 kX je))
 obtain⟨EP,hB⟩:∃ B,w.heap.size=B:=⟨_,rfl⟩
 have jd:Bz w4 EP 8 (fun _=>false):=by rw[hB] at kX;exact Bz.made kX (by decide)
 have g4:Below w.heap.size w w4:=DR je
 have R4:=R0.grown g4
 have oG:Hid (w.heap.size<=EP/\b≠EP):=⟨by omega,by omega⟩
 have S0:Hid (Bz w4 EP 8 (fun _=>false)/\Rz w4 45 9 b cap (D.map Dd.dn)/\Below w.heap.size w w4):=⟨jd,R4,g4⟩
 simp only[hB]
 clear jd R4 g4 kX je hB hi hz0 hz1 hz2 R0 hblt
 go_wp2
 go_loopw [4] (fun nv wr=>∃ (m:Nat) (z:Nat->Bool),nv=.int .i64 m/\m<=N/\AtZ D u m z/\Bz wr EP 8 z/\Rz wr 45 9 b cap (D.map Dd.dn)/\Below w.heap.size w wr) (fun nv _=>N - (intOf nv).toNat)
 case atStart=>exact⟨0,fun _=>false,rfl,Nat.zero_le _,AtZ.first T.out,S0.out⟩
 case round =>
  clear S0
  obtain⟨m,z,rfl,hm,A,bz,R',b'⟩:=hrel
  have HA:Hid (AtZ D u m z):=A
  have R:Hid (Rz wr 45 9 b cap (D.map Dd.dn)):=R'
  clear A R'
  by_cases hmN:(m:Int)<(N:Int)
  . have dH:Hid (m<D.length):=by show m<D.length;rw[HN.out];omega
    go_wp2
    have G0:Hid (Below wr.heap.size wr wr):=Below.refl _ _
    generalize wr=wm at *
    go_loopw [5,6] (fun av iv wx=>∃ (i:Nat) (a:Int),av=.int .i64 a/\iv=.int .i64 i/\i<=N/\We D m i a/\Below wm.heap.size wm wx) (fun _ iv _=>N - (intOf iv).toNat)
    case atStart=>exact⟨0,-1,rfl,rfl,Nat.zero_le _,Or.inl ⟨rfl,fun j hj=>absurd hj (Nat.not_lt_zero j)⟩,G0.out⟩
    case round =>
     clear G0
     obtain⟨i,a,ha1,ha2,hi,hF,GL⟩:=hrel
     subst ha1 ha2
     have kW:Hid (We D m i a):=hF
     clear hF
     by_cases hiN:(i:Int)<(N:Int)
     . have LV:Hid (i<D.length):=by show i<D.length;rw[HN.out];omega
       have hib:(0:Int)<=(i:Int)/\(i:Int)<(N:Int):=by omega
       obtain⟨si,hsi⟩:∃ si:Int,((Zt D i).st:Int)=si:=⟨_,rfl⟩
       have qA:Hid (((Zt D i).st:Int)=si):=hsi
       clear hsi
       have G0:Hid (Below wm.heap.size wm wr):=GL
       clear GL
       go_wp2
       go_loopw [7,8] (fun bv kv wy=>∃ (k B0:Nat),bv=.int .i64 B0/\kv=.int .i64 k/\k<=N/\B0=VC D i k/\Below wm.heap.size wm wy) (fun _ kv _=>N - (intOf kv).toNat)
       case atStart=>exact⟨0,0,rfl,rfl,Nat.zero_le _,rfl,G0.out⟩
       case round =>
        clear G0
        obtain⟨k,B0,hk1,hk2,hk,hB0,GL⟩:=hrel
        subst hk1 hk2
        have HB0:Hid (B0=VC D i k):=hB0
        have hBb:(B0:Int)<=30:=by have:=zM (D:=D) (i:=i) k;have:=jg.out;omega
        clear hB0
        by_cases hkN:(k:Int)<(N:Int)
        . have dG:Hid (k<D.length):=by show k<D.length;rw[HN.out];omega
          have hkb:(0:Int)<=(k:Int)/\(k:Int)<(N:Int):=by omega
          obtain⟨sk,hsk⟩:∃ sk:Int,((Zt D k).st:Int)=sk:=⟨_,rfl⟩
          have oD:Hid (((Zt D k).st:Int)=sk):=hsk
          have ck:=(R.out.grown GL).dd dG.out (j:=6) rfl
          have ci:=(R.out.grown GL).dd LV.out (j:=6) rfl
          rw[hsk] at ck
          rw[qA.out] at ci
          clear hsk
          go_wp2
          by_cases hl:sk<si
          . skip
            have hlt:decide (sk<si)=true:=decide_eq_true hl
            refine ZM Grown [.val (.slice (some ⟨b,0,none⟩) N cap),.val (.int .i64 k),.val (.pointer (some ⟨b,k * 9,none⟩)),.val (.pointer (some ⟨b,k * 9+3,none⟩)),.val (.pointer (some ⟨b,k * 9+6,none⟩)),.val (.int .i64 sk),.val (.slice (some ⟨b,0,none⟩) N cap),.val (.int .i64 i),.val (.pointer (some ⟨b,i * 9,none⟩)),.val (.pointer (some ⟨b,i * 9+3,none⟩)),.val (.pointer (some ⟨b,i * 9+6,none⟩)),.val (.int .i64 si),.val (.bool true),.val (.bool true),.val undef,.val undef,.val undef,.val undef,.val undef,.val undef,.val undef,.val undef,.val undef,.val undef,.val undef,.val undef,.val undef,.val undef,.val undef,.val undef,.val undef,.val undef,.val (.bool true)] (by kernel_rfl) Grown.refl Grown.trans (by kernel_rfl) (by kernel_rfl) (by kernel_rfl) ?_
            simp only[ZH,Act.put,List.setIfInBounds_toArray,List.set_cons_zero,List.set_cons_succ]
            refine⟨?_,?_⟩
            . intros;apply ol;go_simp;exact gl
            refine⟨?_,?_⟩
            . intros;apply ol;go_simp;exact gl
            refine⟨?_,?_⟩
            . intros;apply ol;go_simp;exact gl
            refine⟨?_,?_⟩
            . intros;apply ol;go_simp;exact gl
            refine⟨?_,?_⟩
            . intros;apply ol;go_simp;exact gl
            refine⟨?_,?_⟩
            . intro w' hg _
              apply ol
              have WT:=keep' hg (keep' ((Below.refl _ _).drew) ck)
              go_simp
              exact gl
            refine⟨?_,?_⟩
            . intros;apply ol;go_simp;exact gl
            refine⟨?_,?_⟩
            . intros;apply ol;go_simp;exact gl
            refine⟨?_,?_⟩
            . intros;apply ol;go_simp;exact gl
            refine⟨?_,?_⟩
            . intros;apply ol;go_simp;exact gl
            refine⟨?_,?_⟩
            . intros;apply ol;go_simp;exact gl
            refine⟨?_,?_⟩
            . intro w' hg _
              apply ol
              have WT:=keep' hg (keep' ((Below.refl _ _).drew) ci)
              go_simp
              exact gl
            refine⟨?_,?_⟩
            . intro w' hg _
              apply ol
              have WT:=hlt
              go_simp
              exact gl
            refine⟨?_,?_⟩
            . intros;apply ol;go_simp;exact gl
            refine⟨?_,?_⟩
            . intros;exact ur
            refine⟨?_,?_⟩
            . intros;exact ur
            refine⟨?_,?_⟩
            . intros;exact ur
            refine⟨?_,?_⟩
            . intros;exact ur
            refine⟨?_,?_⟩
            . intros;exact ur
            refine⟨?_,?_⟩
            . intros;exact ur
            refine⟨?_,?_⟩
            . intros;exact ur
            refine⟨?_,?_⟩
            . intros;exact ur
            refine⟨?_,?_⟩
            . intros;exact ur
            refine⟨?_,?_⟩
            . intros;exact ur
            refine⟨?_,?_⟩
            . intros;exact ur
            refine⟨?_,?_⟩
            . intros;exact ur
            refine⟨?_,?_⟩
            . intros;exact ur
            refine⟨?_,?_⟩
            . intros;exact ur
            refine⟨?_,?_⟩
            . intros;exact ur
            refine⟨?_,?_⟩
            . intros;exact ur
            refine⟨?_,?_⟩
            . intros;exact ur
            refine⟨?_,?_⟩
            . intros;exact ur
            refine⟨?_,?_⟩
            . intros;apply ol;go_simp;exact gl
            intro w7 hg _
            have GW:=grow (grow GL ((Below.refl _ _).drew)) hg
            have HC:Hid (VC D i (k+1)=B0+1):=by show _=_;rw[HB0.out];exact L6 (by show _\/_;have h1:=oD.out;have h2:=qA.out;simp only[YW,Dd.e];omega)
            clear ck ci hg GL
            go_wp2
            go_roundw
            case rel=>exact⟨k+1,B0+1,by go_num,by go_num,by omega,HC.out.symm,GW⟩
            case measure=>simp[intOf];omega
          . by_cases he:sk=si
            . by_cases dE:k<i
              . skip
                have hlt:decide (sk<si)=false:=decide_eq_false (by omega)
                have heq:(sk == si)=true:=by rw[he];exact beq_self_eq_true _
                have hki:decide ((k:Int)<(i:Int))=true:=decide_eq_true (by omega)
                refine ZM Grown [.val (.slice (some ⟨b,0,none⟩) N cap),.val (.int .i64 k),.val (.pointer (some ⟨b,k * 9,none⟩)),.val (.pointer (some ⟨b,k * 9+3,none⟩)),.val (.pointer (some ⟨b,k * 9+6,none⟩)),.val (.int .i64 sk),.val (.slice (some ⟨b,0,none⟩) N cap),.val (.int .i64 i),.val (.pointer (some ⟨b,i * 9,none⟩)),.val (.pointer (some ⟨b,i * 9+3,none⟩)),.val (.pointer (some ⟨b,i * 9+6,none⟩)),.val (.int .i64 si),.val (.bool false),.val (.bool false),.val (.slice (some ⟨b,0,none⟩) N cap),.val (.int .i64 k),.val (.pointer (some ⟨b,k * 9,none⟩)),.val (.pointer (some ⟨b,k * 9+3,none⟩)),.val (.pointer (some ⟨b,k * 9+6,none⟩)),.val (.int .i64 sk),.val (.slice (some ⟨b,0,none⟩) N cap),.val (.int .i64 i),.val (.pointer (some ⟨b,i * 9,none⟩)),.val (.pointer (some ⟨b,i * 9+3,none⟩)),.val (.pointer (some ⟨b,i * 9+6,none⟩)),.val (.int .i64 si),.val (.bool true),.val (.bool true),.val (.int .i64 k),.val (.int .i64 i),.val (.bool true),.val (.bool true),.val (.bool true)] (by kernel_rfl) Grown.refl Grown.trans (by kernel_rfl) (by kernel_rfl) (by kernel_rfl) ?_
                simp only[ZH,Act.put,List.setIfInBounds_toArray,List.set_cons_zero,List.set_cons_succ]
                refine⟨?_,?_⟩
                . intros;apply ol;go_simp;exact gl
                refine⟨?_,?_⟩
                . intros;apply ol;go_simp;exact gl
                refine⟨?_,?_⟩
                . intros;apply ol;go_simp;exact gl
                refine⟨?_,?_⟩
                . intros;apply ol;go_simp;exact gl
                refine⟨?_,?_⟩
                . intros;apply ol;go_simp;exact gl
                refine⟨?_,?_⟩
                . intro w' hg _
                  apply ol
                  have WT:=keep' hg (keep' ((Below.refl _ _).drew) ck)
                  go_simp
                  exact gl
                refine⟨?_,?_⟩
                . intros;apply ol;go_simp;exact gl
                refine⟨?_,?_⟩
                . intros;apply ol;go_simp;exact gl
                refine⟨?_,?_⟩
                . intros;apply ol;go_simp;exact gl
                refine⟨?_,?_⟩
                . intros;apply ol;go_simp;exact gl
                refine⟨?_,?_⟩
                . intros;apply ol;go_simp;exact gl
                refine⟨?_,?_⟩
                . intro w' hg _
                  apply ol
                  have WT:=keep' hg (keep' ((Below.refl _ _).drew) ci)
                  go_simp
                  exact gl
                refine⟨?_,?_⟩
                . intro w' hg _
                  apply ol
                  have WT:=hlt
                  go_simp
                  exact gl
                refine⟨?_,?_⟩
                . intros;apply ol;go_simp;exact gl
                refine⟨?_,?_⟩
                . intros;apply ol;go_simp;exact gl
                refine⟨?_,?_⟩
                . intros;apply ol;go_simp;exact gl
                refine⟨?_,?_⟩
                . intros;apply ol;go_simp;exact gl
                refine⟨?_,?_⟩
                . intros;apply ol;go_simp;exact gl
                refine⟨?_,?_⟩
                . intros;apply ol;go_simp;exact gl
                refine⟨?_,?_⟩
                . intro w' hg _
                  apply ol
                  have WT:=keep' hg (keep' ((Below.refl _ _).drew) ck)
                  go_simp
                  exact gl
                refine⟨?_,?_⟩
                . intros;apply ol;go_simp;exact gl
                refine⟨?_,?_⟩
                . intros;apply ol;go_simp;exact gl
                refine⟨?_,?_⟩
                . intros;apply ol;go_simp;exact gl
                refine⟨?_,?_⟩
                . intros;apply ol;go_simp;exact gl
                refine⟨?_,?_⟩
                . intros;apply ol;go_simp;exact gl
                refine⟨?_,?_⟩
                . intro w' hg _
                  apply ol
                  have WT:=keep' hg (keep' ((Below.refl _ _).drew) ci)
                  go_simp
                  exact gl
                refine⟨?_,?_⟩
                . intro w' hg _
                  apply ol
                  have WT:=heq
                  go_simp
                  exact gl
                refine⟨?_,?_⟩
                . intros;apply ol;go_simp;exact gl
                refine⟨?_,?_⟩
                . intros;apply ol;go_simp;exact gl
                refine⟨?_,?_⟩
                . intros;apply ol;go_simp;exact gl
                refine⟨?_,?_⟩
                . intro w' hg _
                  apply ol
                  have WT:=hki
                  go_simp
                  exact gl
                refine⟨?_,?_⟩
                . intros;apply ol;go_simp;exact gl
                refine⟨?_,?_⟩
                . intros;apply ol;go_simp;exact gl
                intro w7 hg _
                have GW:=grow (grow GL ((Below.refl _ _).drew)) hg
                have HC:Hid (VC D i (k+1)=B0+1):=by show _=_;rw[HB0.out];exact L6 (by show _\/_;have h1:=oD.out;have h2:=qA.out;simp only[YW,Dd.e];omega)
                clear ck ci hg GL
                go_wp2
                go_roundw
                case rel=>exact⟨k+1,B0+1,by go_num,by go_num,by omega,HC.out.symm,GW⟩
                case measure=>simp[intOf];omega
              . skip
                have hlt:decide (sk<si)=false:=decide_eq_false (by omega)
                have heq:(sk == si)=true:=by rw[he];exact beq_self_eq_true _
                have hki:decide ((k:Int)<(i:Int))=false:=decide_eq_false (by omega)
                refine ZM Grown [.val (.slice (some ⟨b,0,none⟩) N cap),.val (.int .i64 k),.val (.pointer (some ⟨b,k * 9,none⟩)),.val (.pointer (some ⟨b,k * 9+3,none⟩)),.val (.pointer (some ⟨b,k * 9+6,none⟩)),.val (.int .i64 sk),.val (.slice (some ⟨b,0,none⟩) N cap),.val (.int .i64 i),.val (.pointer (some ⟨b,i * 9,none⟩)),.val (.pointer (some ⟨b,i * 9+3,none⟩)),.val (.pointer (some ⟨b,i * 9+6,none⟩)),.val (.int .i64 si),.val (.bool false),.val (.bool false),.val (.slice (some ⟨b,0,none⟩) N cap),.val (.int .i64 k),.val (.pointer (some ⟨b,k * 9,none⟩)),.val (.pointer (some ⟨b,k * 9+3,none⟩)),.val (.pointer (some ⟨b,k * 9+6,none⟩)),.val (.int .i64 sk),.val (.slice (some ⟨b,0,none⟩) N cap),.val (.int .i64 i),.val (.pointer (some ⟨b,i * 9,none⟩)),.val (.pointer (some ⟨b,i * 9+3,none⟩)),.val (.pointer (some ⟨b,i * 9+6,none⟩)),.val (.int .i64 si),.val (.bool true),.val (.bool true),.val (.int .i64 k),.val (.int .i64 i),.val (.bool false),.val (.bool false),.val (.bool false)] (by kernel_rfl) Grown.refl Grown.trans (by kernel_rfl) (by kernel_rfl) (by kernel_rfl) ?_
                simp only[ZH,Act.put,List.setIfInBounds_toArray,List.set_cons_zero,List.set_cons_succ]
                refine⟨?_,?_⟩
                . intros;apply ol;go_simp;exact gl
                refine⟨?_,?_⟩
                . intros;apply ol;go_simp;exact gl
                refine⟨?_,?_⟩
                . intros;apply ol;go_simp;exact gl
                refine⟨?_,?_⟩
                . intros;apply ol;go_simp;exact gl
                refine⟨?_,?_⟩
                . intros;apply ol;go_simp;exact gl
                refine⟨?_,?_⟩
                . intro w' hg _
                  apply ol
                  have WT:=keep' hg (keep' ((Below.refl _ _).drew) ck)
                  go_simp
                  exact gl
                refine⟨?_,?_⟩
                . intros;apply ol;go_simp;exact gl
                refine⟨?_,?_⟩
                . intros;apply ol;go_simp;exact gl
                refine⟨?_,?_⟩
                . intros;apply ol;go_simp;exact gl
                refine⟨?_,?_⟩
                . intros;apply ol;go_simp;exact gl
                refine⟨?_,?_⟩
                . intros;apply ol;go_simp;exact gl
                refine⟨?_,?_⟩
                . intro w' hg _
                  apply ol
                  have WT:=keep' hg (keep' ((Below.refl _ _).drew) ci)
                  go_simp
                  exact gl
                refine⟨?_,?_⟩
                . intro w' hg _
                  apply ol
                  have WT:=hlt
                  go_simp
                  exact gl
                refine⟨?_,?_⟩
                . intros;apply ol;go_simp;exact gl
                refine⟨?_,?_⟩
                . intros;apply ol;go_simp;exact gl
                refine⟨?_,?_⟩
                . intros;apply ol;go_simp;exact gl
                refine⟨?_,?_⟩
                . intros;apply ol;go_simp;exact gl
                refine⟨?_,?_⟩
                . intros;apply ol;go_simp;exact gl
                refine⟨?_,?_⟩
                . intros;apply ol;go_simp;exact gl
                refine⟨?_,?_⟩
                . intro w' hg _
                  apply ol
                  have WT:=keep' hg (keep' ((Below.refl _ _).drew) ck)
                  go_simp
                  exact gl
                refine⟨?_,?_⟩
                . intros;apply ol;go_simp;exact gl
                refine⟨?_,?_⟩
                . intros;apply ol;go_simp;exact gl
                refine⟨?_,?_⟩
                . intros;apply ol;go_simp;exact gl
                refine⟨?_,?_⟩
                . intros;apply ol;go_simp;exact gl
                refine⟨?_,?_⟩
                . intros;apply ol;go_simp;exact gl
                refine⟨?_,?_⟩
                . intro w' hg _
                  apply ol
                  have WT:=keep' hg (keep' ((Below.refl _ _).drew) ci)
                  go_simp
                  exact gl
                refine⟨?_,?_⟩
                . intro w' hg _
                  apply ol
                  have WT:=heq
                  go_simp
                  exact gl
                refine⟨?_,?_⟩
                . intros;apply ol;go_simp;exact gl
                refine⟨?_,?_⟩
                . intros;apply ol;go_simp;exact gl
                refine⟨?_,?_⟩
                . intros;apply ol;go_simp;exact gl
                refine⟨?_,?_⟩
                . intro w' hg _
                  apply ol
                  have WT:=hki
                  go_simp
                  exact gl
                refine⟨?_,?_⟩
                . intros;apply ol;go_simp;exact gl
                refine⟨?_,?_⟩
                . intros;apply ol;go_simp;exact gl
                intro w7 hg _
                have GW:=grow (grow GL ((Below.refl _ _).drew)) hg
                have HC:Hid (VC D i (k+1)=B0):=by show _=_;rw[HB0.out];exact Il (fun hh=>by have hh:(YW D k).st<(YW D i).st\/((YW D k).st=(YW D i).st/\k<i):=hh;have h1:=oD.out;have h2:=qA.out;simp only[YW,Dd.e] at hh;omega)
                clear ck ci hg GL
                go_wp2
                go_roundw
                case rel=>exact⟨k+1,B0,by go_num,by go_num,by omega,HC.out.symm,GW⟩
                case measure=>simp[intOf];omega
            . skip
              have hlt:decide (sk<si)=false:=decide_eq_false (by omega)
              have heq:(sk == si)=false:=by simpa using he
              refine ZM Grown [.val (.slice (some ⟨b,0,none⟩) N cap),.val (.int .i64 k),.val (.pointer (some ⟨b,k * 9,none⟩)),.val (.pointer (some ⟨b,k * 9+3,none⟩)),.val (.pointer (some ⟨b,k * 9+6,none⟩)),.val (.int .i64 sk),.val (.slice (some ⟨b,0,none⟩) N cap),.val (.int .i64 i),.val (.pointer (some ⟨b,i * 9,none⟩)),.val (.pointer (some ⟨b,i * 9+3,none⟩)),.val (.pointer (some ⟨b,i * 9+6,none⟩)),.val (.int .i64 si),.val (.bool false),.val (.bool false),.val (.slice (some ⟨b,0,none⟩) N cap),.val (.int .i64 k),.val (.pointer (some ⟨b,k * 9,none⟩)),.val (.pointer (some ⟨b,k * 9+3,none⟩)),.val (.pointer (some ⟨b,k * 9+6,none⟩)),.val (.int .i64 sk),.val (.slice (some ⟨b,0,none⟩) N cap),.val (.int .i64 i),.val (.pointer (some ⟨b,i * 9,none⟩)),.val (.pointer (some ⟨b,i * 9+3,none⟩)),.val (.pointer (some ⟨b,i * 9+6,none⟩)),.val (.int .i64 si),.val (.bool false),.val (.bool false),.val undef,.val undef,.val undef,.val (.bool false),.val (.bool false)] (by kernel_rfl) Grown.refl Grown.trans (by kernel_rfl) (by kernel_rfl) (by kernel_rfl) ?_
              simp only[ZH,Act.put,List.setIfInBounds_toArray,List.set_cons_zero,List.set_cons_succ]
              refine⟨?_,?_⟩
              . intros;apply ol;go_simp;exact gl
              refine⟨?_,?_⟩
              . intros;apply ol;go_simp;exact gl
              refine⟨?_,?_⟩
              . intros;apply ol;go_simp;exact gl
              refine⟨?_,?_⟩
              . intros;apply ol;go_simp;exact gl
              refine⟨?_,?_⟩
              . intros;apply ol;go_simp;exact gl
              refine⟨?_,?_⟩
              . intro w' hg _
                apply ol
                have WT:=keep' hg (keep' ((Below.refl _ _).drew) ck)
                go_simp
                exact gl
              refine⟨?_,?_⟩
              . intros;apply ol;go_simp;exact gl
              refine⟨?_,?_⟩
              . intros;apply ol;go_simp;exact gl
              refine⟨?_,?_⟩
              . intros;apply ol;go_simp;exact gl
              refine⟨?_,?_⟩
              . intros;apply ol;go_simp;exact gl
              refine⟨?_,?_⟩
              . intros;apply ol;go_simp;exact gl
              refine⟨?_,?_⟩
              . intro w' hg _
                apply ol
                have WT:=keep' hg (keep' ((Below.refl _ _).drew) ci)
                go_simp
                exact gl
              refine⟨?_,?_⟩
              . intro w' hg _
                apply ol
                have WT:=hlt
                go_simp
                exact gl
              refine⟨?_,?_⟩
              . intros;apply ol;go_simp;exact gl
              refine⟨?_,?_⟩
              . intros;apply ol;go_simp;exact gl
              refine⟨?_,?_⟩
              . intros;apply ol;go_simp;exact gl
              refine⟨?_,?_⟩
              . intros;apply ol;go_simp;exact gl
              refine⟨?_,?_⟩
              . intros;apply ol;go_simp;exact gl
              refine⟨?_,?_⟩
              . intros;apply ol;go_simp;exact gl
              refine⟨?_,?_⟩
              . intro w' hg _
                apply ol
                have WT:=keep' hg (keep' ((Below.refl _ _).drew) ck)
                go_simp
                exact gl
              refine⟨?_,?_⟩
              . intros;apply ol;go_simp;exact gl
              refine⟨?_,?_⟩
              . intros;apply ol;go_simp;exact gl
              refine⟨?_,?_⟩
              . intros;apply ol;go_simp;exact gl
              refine⟨?_,?_⟩
              . intros;apply ol;go_simp;exact gl
              refine⟨?_,?_⟩
              . intros;apply ol;go_simp;exact gl
              refine⟨?_,?_⟩
              . intro w' hg _
                apply ol
                have WT:=keep' hg (keep' ((Below.refl _ _).drew) ci)
                go_simp
                exact gl
              refine⟨?_,?_⟩
              . intro w' hg _
                apply ol
                have WT:=heq
                go_simp
                exact gl
              refine⟨?_,?_⟩
              . intros;apply ol;go_simp;exact gl
              refine⟨?_,?_⟩
              . intros;exact ur
              refine⟨?_,?_⟩
              . intros;exact ur
              refine⟨?_,?_⟩
              . intros;exact ur
              refine⟨?_,?_⟩
              . intros;apply ol;go_simp;exact gl
              refine⟨?_,?_⟩
              . intros;apply ol;go_simp;exact gl
              intro w7 hg _
              have GW:=grow (grow GL ((Below.refl _ _).drew)) hg
              have HC:Hid (VC D i (k+1)=B0):=by show _=_;rw[HB0.out];exact Il (fun hh=>by have hh:(YW D k).st<(YW D i).st\/((YW D k).st=(YW D i).st/\k<i):=hh;have h1:=oD.out;have h2:=qA.out;simp only[YW,Dd.e] at hh;omega)
              clear ck ci hg GL
              go_wp2
              go_roundw
              case rel=>exact⟨k+1,B0,by go_num,by go_num,by omega,HC.out.symm,GW⟩
              case measure=>simp[intOf];omega
        . have jc:k=D.length:=by rw[HN.out];omega
          have HB1:Hid (B0=VC D i D.length):=by show B0=_;rw[HB0.out,jc]
          clear jc
          by_cases hbm:(B0:Int)=(m:Int)
          . have kV:((B0:Int) == (m:Int))=true:=by rw[hbm];exact beq_self_eq_true _
            have HF:Hid (We D m (i+1) i):=We.yes (by rw[<- HB1.out];omega)
            clear hbm
            go_wp2
            go_roundw
            case rel=>exact⟨i+1,i,by first | rfl | go_num,by go_num,by omega,HF.out,GL⟩
            case measure=>simp[intOf];omega
          . have kV:((B0:Int) == (m:Int))=false:=by simpa using hbm
            have HF:Hid (We D m (i+1) a):=kW.out.no (by rw[<- HB1.out];omega)
            clear hbm
            go_wp2
            go_roundw
            case rel=>exact⟨i+1,a,rfl,by go_num,by omega,HF.out,GL⟩
            case measure=>simp[intOf];omega
     . skip
       have oH:i=D.length:=by rw[HN.out];omega
       have qy:We D m D.length a:=by rw[<- oH];exact kW.out
       obtain⟨j,hj1,hj2,hj3⟩:=qy.end_ dH.out
       clear oH qy
       have hjb:(0:Int)<=(j:Int)/\(j:Int)<(N:Int):=by rw[<- HN.out];omega
       have hj0:¬ (j:Int)<0:=by omega
       have HJ:Hid (j<D.length/\TK (fun j=>(YW D j).st) D.length j=m):=⟨hj1,hj2⟩
       have RG:=R.out.grown GL
       have bG:=bz.grown GL
       have uA:=grow b' GL
       clear hj1 hj2 bz b' GL kW
       subst hj3
       have yx:Hid ((Zt D j).v=(if z (Zt D j).k=decide ((Zt D j).kd≠2) then 1 else 0)/\AtZ D u (m+1) (if (Zt D j).kd=1 then z else upd z (Zt D j).k (decide ((Zt D j).kd=2)))):=HA.out.next T.out HJ.out.1 HJ.out.2
       have hk8:=T.out.k8 j HJ.out.1
       have hbg:=T.out.bg j HJ.out.1
       have vH:(Zt D j).kd=1\/(Zt D j).kd=2\/(Zt D j).kd=3:=T.out.t.kd j HJ.out.1
       obtain⟨who,hwho⟩:∃ x,(Zt D j).who=x:=⟨_,rfl⟩
       obtain⟨kk,hkk⟩:∃ x,(Zt D j).k=x:=⟨_,rfl⟩
       obtain⟨s1,hs1⟩:∃ x:Int,((Zt D j).st:Int)=x:=⟨_,rfl⟩
       obtain⟨b1,hb1⟩:∃ x:Int,((Zt D j).bg:Int)=x:=⟨_,rfl⟩
       obtain⟨n1,hn1⟩:∃ x:Int,((Zt D j).en:Int)=x:=⟨_,rfl⟩
       have hsb:¬ s1<b1:=by omega
       have hsn:¬ s1>n1:=by omega
       have Jz:Hid ((Zt D j).k=kk):=hkk
       have HKK:Hid (kk<8):=by show kk<8;rw[<- hkk];exact hk8
       have kZ:(0:Int)<=(kk:Int)/\(kk:Int)<8:=by have:=HKK.out;omega
       have dC:Hid (z kk=true\/z kk=false):=by cases z kk;exact Or.inr rfl;exact Or.inl rfl
       clear hk8 hbg hkk
       obtain⟨K,hK⟩:∃ x:Int,(Zt D j).kd=x:=⟨_,rfl⟩
       obtain⟨V,hV⟩:∃ x:Int,(Zt D j).v=x:=⟨_,rfl⟩
       obtain⟨zb,hzb⟩:∃ x,z kk=x:=⟨_,rfl⟩
       have uy:Hid ((Zt D j).kd=K):=hK
       have HV:Hid ((Zt D j).v=V):=hV
       have HZ:Hid (z kk=zb):=hzb
       have six:(K=1/\zb=true/\V=1)\/(K=1/\zb=false/\V=0)\/(K=2/\zb=true/\V=0)\/(K=2/\zb=false/\V=1)\/(K=3/\zb=true/\V=1)\/(K=3/\zb=false/\V=0):=by
        have h:=yx.out.1
        rw[hV,Jz.out,hzb,hK] at h
        rw[hK] at vH
        rcases vH with rfl | rfl | rfl <;> cases zb <;> simp at h ⊢ <;> exact h
       clear hK hV hzb vH dC
       have e0:wr.cell? ⟨b,j * 9,none⟩=some (.int .i64 who):=by have h:=RG.dd HJ.out.1 (j:=0) rfl;rw[hwho] at h;exact h
       have e1:wr.cell? ⟨b,j * 9+1,none⟩=some (.int .i64 K):=by have h:=RG.dd HJ.out.1 (j:=1) rfl;rw[uy.out] at h;exact h
       have e2:wr.cell? ⟨b,j * 9+2,none⟩=some (.int .i64 kk):=by have h:=RG.dd HJ.out.1 (j:=2) rfl;rw[Jz.out] at h;exact h
       have e3:wr.cell? ⟨b,j * 9+3,none⟩=some (.int .i64 0):=by have h:=RG.dd HJ.out.1 (j:=3) rfl;exact h
       have e4:wr.cell? ⟨b,j * 9+4,none⟩=some (.int .u64 0):=by have h:=RG.dd HJ.out.1 (j:=4) rfl;exact h
       have e5:wr.cell? ⟨b,j * 9+5,none⟩=some (.int .i64 V):=by have h:=RG.dd HJ.out.1 (j:=5) rfl;rw[HV.out] at h;exact h
       have e6:wr.cell? ⟨b,j * 9+6,none⟩=some (.int .i64 s1):=by have h:=RG.dd HJ.out.1 (j:=6) rfl;rw[hs1] at h;exact h
       have e7:wr.cell? ⟨b,j * 9+7,none⟩=some (.int .i64 b1):=by have h:=RG.dd HJ.out.1 (j:=7) rfl;rw[hb1] at h;exact h
       have e8:wr.cell? ⟨b,j * 9+8,none⟩=some (.int .i64 n1):=by have h:=RG.dd HJ.out.1 (j:=8) rfl;rw[hn1] at h;exact h
       have gA:=ZY wr (.cells #[.int .i64 who,.int .i64 K,.int .i64 kk,.int .i64 0,.int .u64 0,.int .i64 V,.int .i64 s1,.int .i64 b1,.int .i64 n1] 45)
       have d9:=At.new wr 45 [.int .i64 who,.int .i64 K,.int .i64 kk,.int .i64 0,.int .u64 0,.int .i64 V,.int .i64 s1,.int .i64 b1,.int .i64 n1]
       obtain⟨Xq,yH⟩:∃ Xq,wr.heap.size=Xq:=⟨_,rfl⟩
       have HX:Hid (Xq≠EP/\Xq≠b):=by have:=bG.lt;have:=RG.lt;show _/\_;omega
       have S9:Hid (At (wr.alloc (.cells #[.int .i64 who,.int .i64 K,.int .i64 kk,.int .i64 0,.int .u64 0,.int .i64 V,.int .i64 s1,.int .i64 b1,.int .i64 n1] 45)) wr.heap.size 0 45 #[.int .i64 who,.int .i64 K,.int .i64 kk,.int .i64 0,.int .u64 0,.int .i64 V,.int .i64 s1,.int .i64 b1,.int .i64 n1] [.int .i64 who,.int .i64 K,.int .i64 kk,.int .i64 0,.int .u64 0,.int .i64 V,.int .i64 s1,.int .i64 b1,.int .i64 n1]/\Bz (wr.alloc (.cells #[.int .i64 who,.int .i64 K,.int .i64 kk,.int .i64 0,.int .u64 0,.int .i64 V,.int .i64 s1,.int .i64 b1,.int .i64 n1] 45)) EP 8 z/\Rz (wr.alloc (.cells #[.int .i64 who,.int .i64 K,.int .i64 kk,.int .i64 0,.int .u64 0,.int .i64 V,.int .i64 s1,.int .i64 b1,.int .i64 n1] 45)) 45 9 b cap (D.map Dd.dn)/\Below w.heap.size w (wr.alloc (.cells #[.int .i64 who,.int .i64 K,.int .i64 kk,.int .i64 0,.int .u64 0,.int .i64 V,.int .i64 s1,.int .i64 b1,.int .i64 n1] 45))):=⟨d9,bG.grown gA,RG.grown gA,grow uA gA⟩
       clear d9 gA hwho hs1 hb1 hn1 bG RG uA
       go_wp2
       refine ZT (fun W=>At W wr.heap.size 0 45 #[.int .i64 who,.int .i64 K,.int .i64 kk,.int .i64 0,.int .u64 0,.int .i64 V,.int .i64 s1,.int .i64 b1,.int .i64 n1] [.int .i64 who,.int .i64 K,.int .i64 kk,.int .i64 0,.int .u64 0,.int .i64 V,.int .i64 s1,.int .i64 b1,.int .i64 n1]/\Bz W EP 8 z/\Rz W 45 9 b cap (D.map Dd.dn)/\Below w.heap.size w W) S9.out ?_
       clear S9 e0 e1 e2 e3 e4 e5 e6 e7 e8
       rintro W ⟨d9,kU,ja,b9⟩
       rcases six with⟨rfl,rfl,rfl⟩ | ⟨rfl,rfl,rfl⟩ | ⟨rfl,rfl,rfl⟩ | ⟨rfl,rfl,rfl⟩ | ⟨rfl,rfl,rfl⟩ | ⟨rfl,rfl,rfl⟩
       all_goals
        simp only[yH] at d9 ⊢
        clear yH
        have q0:=d9.at0 0 rfl
        have q1:=d9.at0 1 rfl
        have q2:=d9.at0 2 rfl
        have q3:=d9.at0 3 rfl
        have q4:=d9.at0 4 rfl
        have q5:=d9.at0 5 rfl
        have q6:=d9.at0 6 rfl
        have q7:=d9.at0 7 rfl
        have q8:=d9.at0 8 rfl
        have cz:=kU.cell HKK.out
        rw[HZ.out] at cz
        go_region
        have uw:=kU.grown ((Below.refl _ _).drew)
        have oC:=ja.grown ((Below.refl _ _).drew)
        have bD:=grow b9 ((Below.refl _ _).drew)
        have dD:=d9.grown ((Below.refl _ _).drew)
        clear d9 kU ja b9 cz q0 q1 q2 q3 q4 q5 q6 q7 q8
        generalize W.drew=WD at uw oC bD dD ⊢
        have q0:=dD.at0 0 rfl
        have q1:=dD.at0 1 rfl
        have q2:=dD.at0 2 rfl
        have q3:=dD.at0 3 rfl
        have q4:=dD.at0 4 rfl
        have q5:=dD.at0 5 rfl
        have q6:=dD.at0 6 rfl
        have q7:=dD.at0 7 rfl
        have q8:=dD.at0 8 rfl
        have cz:=uw.cell HKK.out
        rw[HZ.out] at cz
        have czf:=uw.fz kk
        go_wp2
        go_roundw
        case rel =>
         first
          | refine⟨m+1,z,by go_num,by omega,?_,uw,oC,bD⟩
          | refine⟨m+1,(upd z kk true),by go_num,by omega,?_,uw.set HKK.out true,oC.only (Only.setCell (a:=⟨EP,kk,none⟩) (Only.refl (fun y=>y=EP) _) (fun _=>rfl) _) oG.out.2,Z7 bD oG.out.1 kk (.bool true)⟩
          | refine⟨m+1,(upd z kk false),by go_num,by omega,?_,uw.set HKK.out false,oC.only (Only.setCell (a:=⟨EP,kk,none⟩) (Only.refl (fun y=>y=EP) _) (fun _=>rfl) _) oG.out.2,Z7 bD oG.out.1 kk (.bool false)⟩
         have h:=yx.out.2
         rw[uy.out,Jz.out] at h
         exact h
        case measure=>simp[intOf];omega
  . go_wp2
    go_ret
    exact⟨rfl,b'⟩
end Go.Proofs.YtpbghmeikcphnaaGreat
