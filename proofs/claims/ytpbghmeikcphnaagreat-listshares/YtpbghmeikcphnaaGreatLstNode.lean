import Derived.Test.YtpbghmeikcphnaaGreatLstAskW
namespace Go.Proofs.YtpbghmeikcphnaaGreat
open Go.RowKit
structure Ic (n:Nat) (s:Mm) (H:Int) (x a:Nat) (ky lk:Int):Prop where
 h0:65536<=H
 h1:H<=4294967295
 hx:H % 65536=x
 xn:x<n
 sw:∃ v,s.wd (6+4+x * 2)=v/\0<=v/\v<=18446744073709551615/\v / 8 % 1048576=a
 ab:a+2<s.n
 a9:a<1000000
 k0:s.wd (a+1)=ky/\0<=ky/\ky<1099511627776
 k1:s.wd (a+2)=lk/\0<=lk/\lk<8589934592
section
variable {n K Jm J:Nat} {L:Loc} {w:World} {s:Mm} {σ:Nat} {q:Q} {pn:Nat->Int} {h:Gh} {jb:Nat->Jb} {hd:Nat} {F:List Nat} {u:Hi} {ts:Nat->Option (Cl × Option Rs)}
theorem Lc.node {g p r:Int} (X:Lc 4 n 12 40 q σ h jb hd F u ts) (V:VD 4 n 12 40 s σ q pn) (hG:Good 4 n 12 40 g p r) (hn:n<=65535) (hJ:h.J<=60000) {j:Nat} (hj:j∈F):Ic n s (h.H j) (h.nd j).x (h.nd j).a (h.cv j 0) (h.lk j):=by
 have hp:=X.l.l.pb j hj
 have jJ:=X.l.pJ j hp
 have N:=X.m.g.nk j jJ
 have D:=X.m.g.ES hG hn hJ jJ
 have s3:=X.l.f3 j hj
 have hb:=FT X.m.g hG hn hJ jJ
 have T:=V.tw
 have hi:=QI D.xb N.g1 D.gb
 obtain⟨u0,eu,hu⟩:=N.ex
 have us:=X.m.g.us _ N.ik
 have ik:=N.ik
 have hlen:=T.len
 have hba:base 4 n 12 40 (h.nd j).i=6+4+n * 2+12 * 3+(h.nd j).i * 40:=rfl
 have hal:ZG 4 n 12 40=6+4+n * 2+12 * 3+12 * 40:=rfl
 have z0:h.fz j=0:=N.z3 (by omega)
 have c0:=N.cw 0 (by decide)
 have c1:=N.cw 1 (by decide)
 unfold Gh.cw at c0 c1
 rw[z0,if_neg (by omega)] at c0 c1
 have v0:=N.vl 0 (by decide)
 have v1:=X.l.l.vl j hp
 have hw:=T.PW _ N.xn
 have hb2:=T.Hu _ N.xn
 have hw3:=N.w3 (by omega) (by omega)
 have had:=D.ad
 rw[<- hw3] at had
 unfold Zy at had
 have hn4:=hG.n1
 refine⟨hi.lo,hi.hi,hi.x,N.xn,⟨_,hw,hb2.1,hb2.2,by omega⟩,by omega,by omega,⟨?_,v0.1,by have:=v0.2;omega⟩,⟨?_,v1.1,v1.2⟩⟩
 . rw[T.KI _ (by omega)];exact c0
 . rw[T.KI _ (by omega)];exact c1
end
set_option maxRecDepth 20000 in
set_option maxHeartbeats 1000000 in
theorem LP {n:Nat} {L:Loc} {w:World} {s:Mm} {H:Int} {x a:Nat} {ky lk:Int} (hG:Good 4 n 12 40 100 600 3) (mm:Z5 w L s) (R:Ic n s H x a ky lk) (hl:6+4+n * 2<=s.n) (who:Int) :
 Calls Tryz.prog 24 #[eV 4 n 12 40 100 600 3 L.p who,.int .u64 H,iV 2] w fun e w'=>e=.returned (.agg #[.int .u64 (lk % 4294967296),.bool (YD lk)])/\Below w.heap.size w w':=by
 obtain⟨h0,h1,hx,xn,⟨sw,e0,s0',s1',ea⟩,ab,a9,⟨ek,k0,k1⟩,el,l0,l1⟩:=R
 have hh:=fun w=>Um H w h0 h1
 have hx2:(x:Int)<=1000000:=by have:=hG.n1;omega
 have hsl:=fun w=>Y9 4 n 12 40 100 600 3 x w hG.arena (by omega) hx2
 have hpk:=fun w (m:Z5 w L s)=>Ri m (6+4+x * 2) (by omega) sw e0
 have hsw:=fun w=>TW sw w s0' s1'
 have hp2:=fun w (m:Z5 w L s)=>Ri m (a+2) ab lk el
 have hcl:=fun w=>QH lk w l0 (by omega)
 have hlk:=fun w=>link_any lk l0 l1 w
 rw[ea] at hsw
 rw[show lk % 1099511627776=lk by omega,decide_eq_false (by omega:¬ 9223372036854775808<=lk),if_neg (by omega:¬ 9223372036854775808<=lk)] at hcl
 rw[hx] at hh
 have ff:∀ (a1 a2 a3:Value) (w:World),(Instr.field 79 (.agg #[a1,a2,a3]) 0).run Tryz.prog w=.ok a1 w:=fun a1 a2 a3 w=>by kernel_rfl
 have hwa:wrap64 ((a:Int)+2)=a+2:=by unfold wrap64;omega
 generalize sw % 8=s0 at hsw
 generalize sw / 8388608 % 65536=s2 at hsw
 generalize sw / 549755813888 % 4194304=s3 at hsw
 generalize H / 65536=Hg at hh
 clear hG h0 h1 hx xn e0 s0' s1' ea ab ek k0 k1 el l0 l1 hl
 have v0:=(ZP.WE (w:=w) (P:=L.p) (c0:=4) (c1:=n) (c2:=12) (c3:=40) (c4:=100) (c5:=600) (c6:=3) (who:=who) (T:=27) (.cells #[.int .u64 0,.bool false] 59))
 have r0:=At.Xl w (.cells #[iV 4,iV n,iV 12,iV 40,iV 100,iV 600,iV 3,pP L.p 0,iV who] 27) 59 [.int .u64 0,.bool false]
 have b0:Below w.heap.size w ((w.alloc (.cells #[iV 4,iV n,iV 12,iV 40,iV 100,iV 600,iV 3,pP L.p 0,iV who] 27)).alloc (.cells #[.int .u64 0,.bool false] 59)):=Z4 (Z4 (Below.refl _ _) _) _
 go_enter Tryz.func24,Tryz.ntmps24
 go_wp2_with (go_at_call 25;refine(hh _).mono ?_;rintro e w1 ⟨rfl,g1⟩)
 refine ZT (fun W=>ZP W w.heap.size 4 n 12 40 100 600 3 L.p who/\At W (w.heap.size+1) 0 59 #[.int .u64 0,.bool false] [.int .u64 0,.bool false]/\At W w1.heap.size 0 75 #[iV x,iV Hg] [iV x,iV Hg]/\Z5 W L s/\Below w.heap.size w W) ⟨(v0.grown g1).grown (ZY _ _),(r0.grown g1).grown (ZY _ _),At.new w1 75 [iV x,iV Hg],(((mm.alloc _).alloc _).below g1).alloc _,Z4 (grow b0 g1) _⟩ ?_
 clear v0 r0 b0 mm
 rintro W ⟨vW,rW,hW,mW,bW⟩
 generalize w1.heap.size=bH at hW ⊢
 obtain⟨Sz,hSz⟩:∃ Sz,W.heap.size=Sz:=⟨_,rfl⟩
 have wK:∀ (x1 y1:World) (v:Value),Grown x1 y1->(∃ X,v=(pP X 0)/\Sz<=X/\At x1 X 0 83 #[iV 0,iV 0,iV 0,iV 0] [iV 0,iV 0,iV 0,iV 0])->∃ X,v=(pP X 0)/\Sz<=X/\At y1 X 0 83 #[iV 0,iV 0,iV 0,iV 0] [iV 0,iV 0,iV 0,iV 0]:=by
  rintro x1 y1 v hg ⟨X,hv,hb,hr⟩
  exact⟨X,hv,hb,hr.grown hg⟩
 refine Zm Grown 10 [.val (pP w.heap.size 7),.val (pP L.p 0),.val (pP w.heap.size 0),.val (.agg #[iV 4,iV n,iV 12,iV 40,iV 100,iV 600,iV 3]),.val (pP bH 0),.val (iV x),.val (iV (6+4+x * 2)),.val (.int .u64 sw),.val (.agg #[iV s0,iV a,iV s2,iV s3]),.that (fun w' v=>∃ X,v=(pP X 0)/\Sz<=X/\At w' X 0 83 #[iV 0,iV 0,iV 0,iV 0] [iV 0,iV 0,iV 0,iV 0]) wK] (by kernel_rfl) Grown.refl Grown.trans (by decide) (by kernel_rfl) (by kernel_rfl) (by kernel_rfl) (by kernel_rfl) (by kernel_rfl) (by kernel_rfl) ?_
 simp only[List.take_succ_cons,List.take_zero,ZH,Act.put,List.setIfInBounds_toArray,List.set_cons_zero,List.set_cons_succ]
 refine⟨?_,?_,?_,?_,?_,?_,?_,?_,?_,?_,?_⟩
 . intros;apply ol;go_simp;exact gl
 . intro w' hg _;apply ol;have vv:=(vW.grown ((Below.refl _ _).drew)).grown hg;have y7:=vv.c7;go_simp;exact gl
 . intros;apply ol;go_simp;exact gl
 . intro w' hg _;apply ol;have vv:=(vW.grown ((Below.refl _ _).drew)).grown hg;have y0:=vv.c0;have y1:=vv.c1;have y2:=vv.c2;have y3:=vv.c3;have y4:=vv.c4;have y5:=vv.c5;have y6:=vv.c6;go_simp;exact gl
 . intros;apply ol;go_simp;exact gl
 . intro w' hg _;apply ol;have hw:=hW.drew.grown hg;have y0:=hw.at0 0 rfl;go_simp;exact gl
 . intro w' hg _;apply ol;go_simp;exact cb (hsl _)
 . intro w' hg _;apply ol;have hm:=(mW.below ((Below.refl _ _).drew)).below hg;go_simp;exact cc (hpk _ hm)
 . intro w' hg _;apply ol;go_simp;exact cb (hsw _)
 . intro w' hg _;apply ol;go_simp;exact⟨ZY _ _,_,rfl,by have:=hg.size;rw[show W.drew.heap.size=W.heap.size from rfl] at this;omega,At.new w' 83 [iV 0,iV 0,iV 0,iV 0]⟩
 intro v w5 hg facts
 obtain⟨⟨X,rfl,hX,aX⟩,-⟩:=facts
 have g5:Below W.heap.size W w5:=grow ((Below.refl _ _).drew) hg
 have v5:=vW.grown g5
 have m5:=mW.below g5
 have r5:=rW.grown g5
 have oz:X≠w.heap.size:=fun e=>by have h9:=World.block_lt_of_cell? _ _ vW.c0;have h8:w.heap.size<W.heap.size:=h9;omega
 have ou:X≠w.heap.size+1:=fun e=>by have:=rW.lt;omega
 have x0:=aX.at0 0 rfl
 have x1:=aX.at0 1 rfl
 have x2:=aX.at0 2 rfl
 have x3:=aX.at0 3 rfl
 have xf:=aX.fz
 have nX:¬ L.has X:=fun hh=>by have:=mW.lt _ hh;omega
 have m6:=(((m5.ZW nX 0 (iV s0)).ZW nX 1 (iV a)).ZW nX 2 (iV s2)).ZW nX 3 (iV s3)
 have v6:=(((v5.ZW (Ne.symm oz) 0 (iV s0)).ZW (Ne.symm oz) 1 (iV a)).ZW (Ne.symm oz) 2 (iV s2)).ZW (Ne.symm oz) 3 (iV s3)
 have y7:=v6.c7
 have a6:=(((aX.ZQ 0 (iV s0)).ZQ 1 (iV a)).ZQ 2 (iV s2)).ZQ 3 (iV s3)
 have z1:=a6.at0 1 rfl
 have r6:=(((r5.other (Ne.symm ou) 0 (iV s0)).other (Ne.symm ou) 1 (iV a)).other (Ne.symm ou) 2 (iV s2)).other (Ne.symm ou) 3 (iV s3)
 have oq:w.heap.size<=X:=by have:=bW.size;omega
 have b6:Below w.heap.size w _:=Z7 (Z7 (Z7 (Z7 (grow bW g5) oq 0 (iV s0)) oq 1 (iV a)) oq 2 (iV s2)) oq 3 (iV s3)
 go_wp2_with (first
  | (go_at_call 27;refine(hp2 _ m6).mono ?_;rintro e w7 ⟨rfl,rfl⟩)
  | (go_at_call 26;refine(hcl _).mono ?_;rintro e w8 ⟨rfl,g8⟩)
  | (go_at_call 19;refine(hlk _).mono ?_;rintro e w9 ⟨rfl,g9⟩;have r9:=(r6.grown g8).grown g9;have q0:=r9.at0 0 rfl;have q1:=r9.at0 1 rfl;have qf:=r9.fz))
 have rz:=(r9.ZQ 0 (.int .u64 (lk % 4294967296))).ZQ 1 (.bool (YD lk))
 have t0:=rz.at0 0 rfl
 have t1:=rz.at0 1 rfl
 exact bodyPost_ret (v:=.agg #[.int .u64 (lk % 4294967296),.bool (YD lk)]) (by simp[results,Tryz.results24,go_sem,t0,t1]) rfl ⟨rfl,Z7 (Z7 (grow (grow b6 g8) g9) (Nat.le_succ _) _ _) (Nat.le_succ _) _ _⟩
end Go.Proofs.YtpbghmeikcphnaaGreat
