import Derived.Test.YtgehjolndmgffaaGreatDropLeaf
namespace Go.Proofs.YtgehjolndmgffaaGreat
open Go.RowKit
set_option maxRecDepth 20000
def Xl (x was Z j se:Int) (ld ov wn:Bool):List Value:=[iV x,.int .u64 was,iV Z,iV j,.int .u64 se,.bool ld,.bool ov,.bool wn]
def Tt (L:Loc) (b o:Nat) (T:TypeId) (cs:Array Value) (w w':World) (X:Mm->List Value->Prop):Prop :=
 ∃ s' cs' l',Z8 w' L s'/\Only (L.and b) w w'/\At w' b o T cs' l'/\Same o 8 cs cs'/\X s' l'
structure CellIs (u vl:Int) (fz:Bool) (vr:Int):Prop where
 u0:0<=u
 u1:u<=18446744073709551615
 vl:u % 1099511627776=vl
 fz:decide (9223372036854775808<=u)=fz
 vr:(if 9223372036854775808<=u then u / 1099511627776 % 4194304 else 0)=vr
theorem CellIs.call {u vl vr:Int} {fz:Bool} (h:CellIs u vl fz vr) (w:World) :
 Calls Tryz.prog 201 #[.int .u64 u] w fun e w'=>e=.returned (.agg #[iV vl,.bool fz,iV vr])/\Below w.heap.size w w':=by
 have e:=FN u w h.u0 h.u1
 rwa [h.vl,h.fz,h.vr] at e
structure YJ (v st A G V:Int):Prop where
 v0:0<=v
 v1:v<=18446744073709551615
 st:v % 8=st
 ad:v / 8 % 1048576=A
 gn:v / 8388608 % 65536=G
 vr:v / 549755813888 % 4194304=V
theorem YJ.call {v st A G V:Int} (h:YJ v st A G V) (w:World) :
 Calls Tryz.prog 145 #[.int .u64 v] w fun e w'=>e=.returned (.agg #[iV st,iV A,iV G,iV V])/\Below w.heap.size w w':=by
 have e:=Oh v w h.v0 h.v1
 rwa [h.st,h.ad,h.gn,h.vr] at e
theorem NU (t n k m g p r st A G V:Int) {bS bG:Int} (hB:(G<g/\bS=0/\bG=G+1)\/(g<=G/\bS=3/\bG=G)) (g1:g<=65535) (h0:0<=G) (w:World) :
 Calls Tryz.prog 200 #[.agg #[iV t,iV n,iV k,iV m,iV g,iV p,iV r],.agg #[iV st,iV A,iV G,iV V]] w fun e w'=>e=.returned (.agg #[iV bS,iV 0,iV bG,iV 0])/\Below w.heap.size w w':=by
 rcases hB with⟨h,rfl,rfl⟩ | ⟨h,rfl,rfl⟩
 . exact PD t n k m g p r st A G V h g1 h0 w
 . exact Pz t n k m g p r st A _ V h w
set_option maxHeartbeats 400000 in
theorem Ue {w:World} {L:Loc} {s:Mm} {b o:Nat} {T:TypeId} {cs:Array Value} {t n k m:Nat} {g p r:Int} {x was Z se:Int} {j:Nat} {ld ov wn:Bool} (h:Z8 w L s) (hb:¬ L.has b) (hi:At w b o T cs (Xl x was Z j se ld ov wn)) (who:Int) (st:Int) (A:Nat) (G V:Int) (a1:A<=1048575) (j1:j<=16) {u vl vr:Int} {fz:Bool} (hu:s.wd (A+1+j)=u) (hc:CellIs u vl fz vr) {j':Nat} {ld':Bool} (H:(fz=true/\vr=V/\j'=j+1/\ld'=ld)\/((fz=true->vr≠V)/\j'=j/\ld'=true)) (hn:(A+1+j)<s.n) :
 Calls Tryz.prog 197 #[pP b o,eV t n k m g p r L.p who,.agg #[iV st,iV A,iV G,iV V]] w fun e w'=>e=.returned (.tuple #[])/\Tt L b o T cs w w' (fun s' l'=>s'=((s.by who).step (A+1+j) (s.wd (A+1+j)))/\l'=Xl x was Z j' u ld' ov wn):=by
 have HU:Hid (s.wd (A+1+j)=u):=hu
 have cc:=hc.call
 clear hu hc
 obtain⟨hbv,hbb⟩:=nb h hi.lt
 have YK:¬ L.has (w.heap.size+1):=fun hh=>by have:=h.lt _ hh;omega
 have YR:¬ w.heap.size+1=b:=fun hh=>by have:=hi.lt;omega
 go_enter Tryz.func197,Tryz.ntmps197
 go_wp2
 refine ZT (fun W=>Z8 W L s/\At W b o T cs (Xl x was Z j se ld ov wn)/\ZP W w.heap.size t n k m g p r L.p who/\At W (w.heap.size+1) 0 108 #[iV st,iV A,iV G,iV V] [iV st,iV A,iV G,iV V]/\Only (L.and b) w W) ⟨(h.alloc _).alloc _,(hi.grown (ZZ _ _)).grown (ZZ _ _),ZP.Xb _,At.Xo _ _ _ _,((Only.refl _ _).alloc _).alloc _⟩ ?_
 rintro W ⟨m1,i1,v1,x1,o1⟩
 apply QO (R:=ZO L b (o+4)) (UL L b o T cs (cs.setIfInBounds (o+4) (.int .u64 u)) s ((s.by who).step (A+1+j) (s.wd (A+1+j))) (Xl x was Z j se ld ov wn) (Xl x was Z j u ld ov wn)) [5,8] MQ Y8 ⟨m1.drew,i1.drew⟩;. kernel_rfl
 apply pV;. intros;apply ol;go_simp;exact gl
 apply pV;. intro w' hR _;apply ol;have y:=(v1.dn hR.only hbv hbb).yy;go_simp;exact gl
 apply pV;. intros;apply ol;go_simp;exact gl
 apply pV;. intro w' hR _;apply ol;have z0:=(x1.drew.only hR.only (fun hh=>hh.elim YK YR)).at0 0 rfl;have z1:=(x1.drew.only hR.only (fun hh=>hh.elim YK YR)).at0 1 rfl;have z2:=(x1.drew.only hR.only (fun hh=>hh.elim YK YR)).at0 2 rfl;have z3:=(x1.drew.only hR.only (fun hh=>hh.elim YK YR)).at0 3 rfl;go_simp;exact gl
 apply pV (c:=iV (((A+1+j):Nat):Int));. intro w' hR _;apply ol;go_simp;refine(JK st A G V j (hR.keep (j:=o+3) (by omega) (i1.drew.cell 3 rfl)) (by omega) (by omega) (by omega) (by omega)).mono ?_;rintro e w'' ⟨rfl,b9⟩;exact⟨_,rfl,b9,congrArg (Value.int .i64) (by omega)⟩
 apply pV (c:=.int .u64 u);. intro w' hR _ hP;apply ol;go_simp;refine(Zj (s:=s) hP.1 _ _ _ _ _ _ _ _ (A+1+j) hn).mono ?_;rintro e w'' ⟨rfl,m2,o2⟩;exact⟨_,rfl,⟨ZO.Yq o2 hb,m2,hP.2.only o2 hb⟩,by simp[Want.pred,HU.out]⟩
 try simp only[pu,s0,s1]
 iterate 2 (apply pV;. intros;apply ol;go_simp;exact gl)
 apply OE;. intro w' hR _ hP;apply ol;have z0:=hP.2.cell 4 rfl;have z1:=hP.2.fz;go_simp;exact⟨⟨ZO.set _ _,hP.1.ZY hb _ _,hP.2.set 4 _⟩,trivial⟩
 try simp only[pu,s0,s1]
 try simp only[pn]
 intro vv w2 hR hP _
 obtain⟨m2,i2⟩:Z8 w2 L ((s.by who).step (A+1+j) (s.wd (A+1+j)))/\At w2 b o T (cs.setIfInBounds (o+4) (.int .u64 u)) (Xl x was Z j u ld ov wn):=hP
 have o2:Only (L.and b) w w2:=o1.drew.trans hR.only
 have x2:=x1.drew.only hR.only (fun hh=>hh.elim YK YR)
 have s2:Same o 8 cs (cs.setIfInBounds (o+4) (.int .u64 u)):=Same.refl.set (by omega) _
 have k4:=i2.cell 4 rfl
 clear hR o1 v1 m1 i1 x1
 go_wp2_with (fail)
 go_at_call 201
 refine(cc _).mono ?_
 rintro e w3 ⟨rfl,b3⟩
 have i4:=(i2.grown b3).grown (ZZ _ (.cells #[iV vl,.bool fz,iV vr] 244))
 have x4:=(x2.grown b3).grown (ZZ _ (.cells #[iV vl,.bool fz,iV vr] 244))
 have z3:=x4.at0 3 rfl
 have y3:=i4.cell 3 rfl
 have y5:=i4.cell 5 rfl
 have yf:=i4.fz
 rcases H with⟨rfl,rfl,rfl,rfl⟩ | ⟨hv,rfl,rfl⟩
 . go_wp2
   refine bodyPost_ret (results_none rfl _ _ _) rfl ?_
   exact⟨rfl,_,_,_,((m2.below b3).alloc _).ZY hb _ _,((o2.trans (Only.Z5 b3)).alloc _).set _ _,i4.set 3 _,s2.set (by omega) _,rfl,rfl⟩
 . cases fz
   . go_wp2
     go_end0
     exact⟨rfl,_,_,_,((m2.below b3).alloc _).ZY hb _ _,((o2.trans (Only.Z5 b3)).alloc _).set _ _,i4.set 5 _,s2.set (by omega) _,rfl,rfl⟩
   . have hw:=hv rfl
     clear hv
     go_wp2
     go_end0
     exact⟨rfl,_,_,_,((m2.below b3).alloc _).ZY hb _ _,((o2.trans (Only.Z5 b3)).alloc _).set _ _,i4.set 5 _,s2.set (by omega) _,rfl,rfl⟩
set_option maxHeartbeats 400000 in
theorem TI {w:World} {L:Loc} {s:Mm} {b o:Nat} {T:TypeId} {cs:Array Value} {t n k m:Nat} {g p r:Int} {x was Z se:Int} {j:Nat} {ld ov wn:Bool} (h:Z8 w L s) (hb:¬ L.has b) (hi:At w b o T cs (Xl x was Z j se ld ov wn)) (who:Int) (st:Int) (A:Nat) (G V:Int) (a1:A<=1048575) (j1:j<=16) {vl vr:Int} {fz:Bool} (hc:CellIs se vl fz vr) (fv:Fit V) {d:Bool} (hd:decide (s.wd (A+1+j)=se)=d) (hn:(A+1+j)<s.n) :
 Calls Tryz.prog 196 #[pP b o,eV t n k m g p r L.p who,.agg #[iV st,iV A,iV G,iV V]] w fun e w'=>e=.returned (.tuple #[])/\Tt L b o T cs w w' (fun s' l'=>s'=((s.by who).Wq (A+1+j) se (XU vl true V))/\l'=Xl x was Z (if d then j+1 else j) se false ov wn):=by
 have HD:Hid (decide (s.wd (A+1+j)=se)=d):=hd
 have fl:Fit vl:=by have h1:=hc.vl;have h2:=hc.u0;constructor <;> omega
 have cc:=hc.call
 have ff:∀ (a1 a2 a3:Value) (w:World),(Instr.field 244 (.agg #[a1,a2,a3]) 0).run Tryz.prog w=.ok a1 w:=fun a1 a2 a3 w=>by kernel_rfl
 clear hd hc
 obtain⟨hbv,hbb⟩:=nb h hi.lt
 have YK:¬ L.has (w.heap.size+1):=fun hh=>by have:=h.lt _ hh;omega
 have YR:¬ w.heap.size+1=b:=fun hh=>by have:=hi.lt;omega
 go_enter Tryz.func196,Tryz.ntmps196
 go_wp2
 refine ZT (fun W=>Z8 W L s/\At W b o T cs (Xl x was Z j se ld ov wn)/\ZP W w.heap.size t n k m g p r L.p who/\At W (w.heap.size+1) 0 108 #[iV st,iV A,iV G,iV V] [iV st,iV A,iV G,iV V]/\Only (L.and b) w W) ⟨(h.alloc _).alloc _,(hi.grown (ZZ _ _)).grown (ZZ _ _),ZP.Xb _,At.Xo _ _ _ _,((Only.refl _ _).alloc _).alloc _⟩ ?_
 rintro W ⟨m1,i1,v1,x1,o1⟩
 obtain⟨Sz,hSz⟩:∃ Sz,W.heap.size=Sz:=⟨_,rfl⟩
 refine ZK Grown 10 [.val (pP b o),.val (pP b o),.val (pP b (o+4)),.val (.int .u64 se),.val (.agg #[iV vl,.bool fz,iV vr]),.val (iV vl),.val (.pointer (some ⟨w.heap.size+1,3,none⟩)),.val (iV V),.val (.agg #[iV vl,.bool true,iV V]),.that (fun w' v=>∃ X,v=(pP X 0)/\Sz<=X/\At w' X 0 244 #[iV 0,.bool false,iV 0] [iV 0,.bool false,iV 0]) ?_] (by kernel_rfl) Grown.refl Grown.trans (by decide) (by kernel_rfl) (by kernel_rfl) (by kernel_rfl) (by kernel_rfl) (by kernel_rfl) (by kernel_rfl) ?_
 . rintro x1 y1 v hg ⟨X,hv,hb,hr⟩
   exact⟨X,hv,hb,hr.grown hg⟩
 simp only[List.take_succ_cons,List.take_zero,ZH,Act.put,List.setIfInBounds_toArray,List.set_cons_zero,List.set_cons_succ]
 refine⟨?_,?_,?_,?_,?_,?_,?_,?_,?_,?_,?_⟩
 . intros;apply ol;go_simp;exact gl
 . intros;apply ol;go_simp;exact gl
 . intros;apply ol;go_simp;exact gl
 . intro w' hg _;apply ol;have z:=(i1.drew.grown hg).cell 4 rfl;go_simp;exact gl
 . intro w' hg _;apply ol;go_simp;exact cb (cc _)
 . intros;apply ol;go_simp;exact gl
 . intros;apply ol;go_simp;exact gl
 . intro w' hg _;apply ol;have z:=(x1.drew.grown hg).at0 3 rfl;go_simp;exact gl
 . intros;apply ol;go_simp;exact gl
 . intro w' hg _
   apply ol
   have hz:Sz<=w'.heap.size:=by have:=hg.size;have e:W.drew.heap.size=W.heap.size:=rfl;omega
   have q:=At.new w' 244 [iV 0,.bool false,iV 0]
   go_simp
   exact⟨Z7 (Below.refl _ _) _,_,rfl,hz,q⟩
 intro vX w8 hg hf
 obtain⟨S,rfl,uM,q8⟩:=hf.1
 have GH:¬ L.has S:=fun hh=>by have:=m1.lt _ hh;omega
 have uj:¬ w.heap.size=S:=by have:=x1.lt;omega
 have zB:w.heap.size+1≠S:=by have:=x1.lt;omega
 have hbS:b≠S:=by have:=i1.lt;omega
 have hSw:w.heap.size<=S:=by have:=x1.lt;omega
 have q0:=q8.at0 0 rfl
 have q1:=q8.at0 1 rfl
 have q2:=q8.at0 2 rfl
 have qf:=q8.fz
 have m9:=((((m1.drew.below hg).ZY GH 0 (iV vl)).ZY GH 1 (.bool true)).ZY GH 2 (iV V))
 have v9:=((((v1.dg hg).ZY uj 0 (iV vl)).ZY uj 1 (.bool true)).ZY uj 2 (iV V))
 have x9:=((((x1.drew.grown hg).other zB 0 (iV vl)).other zB 1 (.bool true)).other zB 2 (iV V))
 have i9:=((((i1.drew.grown hg).other hbS 0 (iV vl)).other hbS 1 (.bool true)).other hbS 2 (iV V))
 have c9:=(((q8.ZQ 0 (iV vl)).ZQ 1 (.bool true)).ZQ 2 (iV V))
 have o9:=((((o1.drew.trans (Only.Z5 hg)).setCell (a:=⟨S,0,none⟩) (fun hlt=>by simp only at hlt;omega) (iV vl)).setCell (a:=⟨S,1,none⟩) (fun hlt=>by simp only at hlt;omega) (.bool true)).setCell (a:=⟨S,2,none⟩) (fun hlt=>by simp only at hlt;omega) (iV V))
 clear hf hg uM hSz m1 v1 x1 i1 o1 q8
 go_wp2
 refine ZT (fun W=>Z8 W L s/\At W b o T cs (Xl x was Z j se ld ov wn)/\ZP W w.heap.size t n k m g p r L.p who/\At W (w.heap.size+1) 0 108 #[iV st,iV A,iV G,iV V] [iV st,iV A,iV G,iV V]/\At W S 0 244 _ [iV vl,.bool true,iV V]/\Only (L.and b) w W) ⟨m9,i9,v9,x9,c9,o9⟩ ?_
 clear m9 i9 v9 x9 c9 o9 q0 q1 q2 qf cc ff
 rintro W ⟨m1,i1,v1,x1,q1,o1⟩
 apply Xy 10;. kernel_rfl
 apply rV;. intro w' hg _;apply ol;have y:=(v1.dg hg).yy;go_simp;exact gl
 apply rV;. intros;apply ol;go_simp;exact gl
 apply rV;. intro w' hg _;apply ol;have z0:=(x1.drew.grown hg).at0 0 rfl;have z1:=(x1.drew.grown hg).at0 1 rfl;have z2:=(x1.drew.grown hg).at0 2 rfl;have z3:=(x1.drew.grown hg).at0 3 rfl;go_simp;exact gl
 apply rV (c:=iV (((A+1+j):Nat):Int));. intro w' hg _;apply ol;go_simp;refine(JK st A G V j ((i1.drew.grown hg).cell 3 rfl) (by omega) (by omega) (by omega) (by omega)).mono ?_;rintro e w'' ⟨rfl,b9⟩;exact⟨_,rfl,b9,congrArg (Value.int .i64) (by omega)⟩
 iterate 2 (apply rV;. intros;apply ol;go_simp;exact gl)
 try simp only[pu,s0,s1]
 apply rV;. intros;apply ol;go_simp;exact gl
 apply rV;. intro w' hg _;apply ol;have z:=(i1.drew.grown hg).cell 4 rfl;go_simp;exact gl
 apply rV;. intro w' hg _;apply ol;have z0:=(q1.drew.grown hg).at0 0 rfl;have z1:=(q1.drew.grown hg).at0 1 rfl;have z2:=(q1.drew.grown hg).at0 2 rfl;go_simp;exact gl
 apply XW;. intro w' hg _;apply ol;go_simp;exact cb (Wp vl true V _ fl fv)
 try simp only[pu,s0,s1]
 intro w5 hg _
 have m5:=m1.drew.below hg
 have i5:=i1.drew.grown hg
 have o5:=o1.og hg
 clear hg m1 i1 v1 o1 x1 q1
 go_wp2_with (fail)
 go_at_call 170
 refine(Yj m5 _ _ _ _ _ _ _ _ (A+1+j) hn _ _).mono ?_
 rintro e w6 ⟨rfl,m6,o6⟩
 rw[HD.out]
 have i6:=i5.only o6 hb
 have y3:=i6.cell 3 rfl
 have y5:=i6.cell 5 rfl
 have yf:=i6.fz
 cases d
 . go_wp2
   go_end0
   exact⟨rfl,_,_,_,m6.ZY hb _ _,(o5.trans (o6.XH (b:=b))).set _ _,i6.set 5 _,Same.refl.set (by omega) _,rfl,rfl⟩
 . go_wp2
   go_end0
   exact⟨rfl,_,_,_,(m6.ZY hb _ _).ZY hb _ _,((o5.trans (o6.XH (b:=b))).set _ _).set _ _,(i6.set 3 _).set 5 _,(Same.refl.set (by omega) _).set (by omega) _,rfl,rfl⟩
set_option maxHeartbeats 400000 in
theorem NT {w:World} {L:Loc} {s:Mm} {b o:Nat} {T:TypeId} {cs:Array Value} {t n k m:Nat} {g p r:Int} {was Z se:Int} {x j:Nat} {ld ov wn:Bool} (h:Z8 w L s) (hb:¬ L.has b) (hi:At w b o T cs (Xl x was Z j se ld ov wn)) (who:Int) (st:Int) (A:Nat) (G V:Int) (hG:Good t n k m g p r) (g0:0<=G) (g1:G<=65535) {bS bG:Int} (hB:(G<g/\bS=0/\bG=G+1)\/(g<=G/\bS=3/\bG=G)) (hx:x<n) {d:Bool} (hd:decide (s.wd (6+t+x * 2)=was)=d) (hn:6+t+x * 2<s.n) :
 Calls Tryz.prog 195 #[pP b o,eV t n k m g p r L.p who,.agg #[iV st,iV A,iV G,iV V]] w fun e w'=>e=.returned (.tuple #[])/\Tt L b o T cs w w' (fun s' l'=>s'=((s.by who).Wq (6+t+x * 2) was (Zq bS 0 bG 0))/\l'=Xl x was Z j se ld true d):=by
 have HD:Hid (decide (s.wd (6+t+x * 2)=was)=d):=hd
 have hs1:=hG.s1
 have hg1:=hG.g1
 clear hd
 have dB:=NU t n k m g p r st A G V hB hg1 g0
 obtain⟨hbv,hbb⟩:=nb h hi.lt
 have YK:¬ L.has (w.heap.size+1):=fun hh=>by have:=h.lt _ hh;omega
 have YR:¬ w.heap.size+1=b:=fun hh=>by have:=hi.lt;omega
 go_enter Tryz.func195,Tryz.ntmps195
 go_wp2
 refine ZT (fun W=>Z8 W L s/\At W b o T cs (Xl x was Z j se ld ov wn)/\ZP W w.heap.size t n k m g p r L.p who/\At W (w.heap.size+1) 0 108 #[iV st,iV A,iV G,iV V] [iV st,iV A,iV G,iV V]/\Only (L.and b) w W) ⟨(h.alloc _).alloc _,(hi.grown (ZZ _ _)).grown (ZZ _ _),ZP.Xb _,At.Xo _ _ _ _,((Only.refl _ _).alloc _).alloc _⟩ ?_
 rintro W ⟨m1,i1,v1,x1,o1⟩
 apply QO (R:=ZO L b (o+7)) (UL L b o T cs (cs.setIfInBounds (o+7) (.bool d)) s ((s.by who).Wq (6+t+x * 2) was (Zq bS 0 bG 0)) (Xl x was Z j se ld ov wn) (Xl x was Z j se ld ov d)) [18,21] MQ Y8 ⟨m1.drew,i1.drew⟩;. kernel_rfl
 apply pV;. intros;apply ol;go_simp;exact gl
 apply pV;. intro w' hR _;apply ol;have y:=(v1.dn hR.only hbv hbb).yy;go_simp;exact gl
 apply pV;. intros;apply ol;go_simp;exact gl
 apply pV;. intro w' hR _;apply ol;have y:=(v1.dn hR.only hbv hbb).yy;go_simp;exact gl
 iterate 2 (apply pV;. intros;apply ol;go_simp;exact gl)
 try simp only[pu,s0,s1]
 apply pV;. intros;apply ol;go_simp;exact gl
 apply pV;. intro w' hR _;apply ol;have z:=hR.keep (j:=o) (by omega) (i1.drew.cell0 rfl);go_simp;exact gl
 apply pV (c:=iV ((6+t+x * 2:Nat):Int));. intro w' hR _;apply ol;go_simp;refine(Y4 _ _ _ _ _ _ _ (x:Int) _ hG.arena (by omega) (by omega)).mono ?_;rintro e w'' ⟨rfl,b9⟩;exact⟨_,rfl,b9,congrArg (Value.int .i64) (by omega)⟩
 iterate 3 (apply pV;. intros;apply ol;go_simp;exact gl)
 try simp only[pu,s0,s1]
 apply pV;. intro w' hR _;apply ol;have z:=hR.keep (j:=o+1) (by omega) (i1.drew.cell 1 rfl);go_simp;exact gl
 apply pV;. intros;apply ol;go_simp;exact gl
 apply pV;. intro w' hR _;apply ol;have y:=(v1.dn hR.only hbv hbb).yy;go_simp;exact gl
 apply pV;. intro w' hR _;apply ol;have z0:=(x1.drew.only hR.only (fun hh=>hh.elim YK YR)).at0 0 rfl;have z1:=(x1.drew.only hR.only (fun hh=>hh.elim YK YR)).at0 1 rfl;have z2:=(x1.drew.only hR.only (fun hh=>hh.elim YK YR)).at0 2 rfl;have z3:=(x1.drew.only hR.only (fun hh=>hh.elim YK YR)).at0 3 rfl;go_simp;exact gl
 apply pV;. intro w' hR _;apply ol;go_simp;exact cb (dB _)
 apply pV;. intro w' hR _;apply ol;go_simp;exact cb (Yo bS 0 bG 0 _ ⟨by omega,by omega⟩ ⟨by omega,by omega⟩ ⟨by omega,by omega⟩ ⟨by omega,by omega⟩)
 try simp only[pu,s0,s1]
 apply pV (c:=.bool d);. intro w' hR _ hP;apply ol;go_simp;refine(Yj (s:=s) hP.1 _ _ _ _ _ _ _ _ (6+t+x * 2) hn _ _).mono ?_;rintro e w'' ⟨rfl,m2,o2⟩;exact⟨_,rfl,⟨ZO.Yq o2 hb,m2,hP.2.only o2 hb⟩,by simp only[Want.pred];exact congrArg Value.bool HD.out⟩
 iterate 2 (apply pV;. intros;apply ol;go_simp;exact gl)
 apply OE;. intro w' hR _ hP;apply ol;have z0:=hP.2.cell 7 rfl;have z1:=hP.2.fz;go_simp;exact⟨⟨ZO.set _ _,hP.1.ZY hb _ _,hP.2.set 7 _⟩,trivial⟩
 try simp only[pu,s0,s1]
 try simp only[pn]
 intro vv w2 hR hP _
 obtain⟨m2,i2⟩:Z8 w2 L ((s.by who).Wq (6+t+x * 2) was (Zq bS 0 bG 0))/\At w2 b o T (cs.setIfInBounds (o+7) (.bool d)) (Xl x was Z j se ld ov d):=hP
 have o2:Only (L.and b) w w2:=o1.drew.trans hR.only
 have s2:Same o 8 cs (cs.setIfInBounds (o+7) (.bool d)):=Same.refl.set (by omega) _
 have k4:=i2.cell 6 rfl
 have kf:=i2.fz
 clear hR o1 v1 m1 i1 x1
 go_wp2
 go_end0
 exact⟨rfl,_,_,_,m2.ZY hb _ _,o2.set _ _,i2.set 6 _,s2.set (by omega) _,rfl,rfl⟩
set_option maxHeartbeats 400000 in
theorem XB {w:World} {L:Loc} {s:Mm} {b o:Nat} {T:TypeId} {cs:Array Value} {t n k m:Nat} {g p r:Int} {was Z se:Int} {x j:Nat} {ld wn:Bool} (h:Z8 w L s) (hi:At w b o T cs (Xl x was Z j se ld false wn)) (who:Int) (hG:Good t n k m g p r) (hlen:ZI t n k m<=s.n) (hx:x<n) {st:Int} {A:Nat} {G V:Int} (hs:YJ was st A G V) (hl:Y5 st=true) {i:Int} (a1:A<=1048575) (z0:1<=Z) (z1:Z<=16) (i0:0<=i) (h1:Zd t n k m A=i) (h2:Zd t n k m (A+Z)=i) {dz:Bool} (hj:decide ((j:Int)≥Z)=dz) {f:Nat} (hf:(dz=true/\f=195)\/(dz=false/\ld=true/\f=196)\/(dz=false/\ld=false/\f=197)) (X:Mm->List Value->Prop) (d:Bool) (hX:∀ s' l',X s' l'->l'[6]?=some (.bool d))
 (hc:∀ w1:World,Z8 w1 L s->At w1 b o T cs (Xl x was Z j se ld false wn)->Calls Tryz.prog f #[pP b o,eV t n k m g p r L.p who,.agg #[iV st,iV A,iV G,iV V]] w1 fun e w'=>e=.returned (.tuple #[])/\Tt L b o T cs w1 w' X) :
 Calls Tryz.prog 186 #[pP b o,eV t n k m g p r L.p who] w fun e w'=>e=.returned (.bool d)/\Tt L b o T cs w w' X:=by
 have HJ:Hid (decide ((j:Int)≥Z)=dz):=hj
 have sw:=hs.call
 have ds:=fun(w':World) (m':Z8 w' L s)=>YA (x:=x) m' hG hlen who
 rw[decide_eq_true (by omega)] at ds
 have dl:=fun w=>Vf st A G V w
 rw[hl] at dl
 clear hs hl hj hlen hx
 have vk:=hi.grown (ZZ _ (.cells #[iV t,iV n,iV k,iV m,iV g,iV p,iV r,pP L.p 0,iV who] 27))
 have k1:=vk.cell 1 rfl
 have k6:=vk.cell 6 rfl
 go_enter Tryz.func186,Tryz.ntmps186
 go_wp2_with (go_at_call 145;refine(sw _).mono ?_;rintro e w1 ⟨rfl,b1⟩)
 have x0:=At.new w1 108 [iV st,iV A,iV G,iV V]
 obtain⟨B,hB⟩:∃ B,w1.heap.size=B:=⟨_,rfl⟩
 rw[hB] at x0 ⊢
 refine ZT (fun W=>Z8 W L s/\At W b o T cs (Xl x was Z j se ld false wn)/\ZP W w.heap.size t n k m g p r L.p who/\At W B 0 108 #[iV st,iV A,iV G,iV V] [iV st,iV A,iV G,iV V]/\Only (L.and b) w W) ⟨((h.alloc _).below b1).alloc _,(vk.grown b1).grown (ZZ _ _),(ZP.new.grown b1).grown (ZZ _ _),x0,(((Only.refl _ _).alloc _).trans (Only.Z5 b1)).alloc _⟩ ?_
 clear b1 hB vk k1 k6 x0 sw h hi
 rintro W ⟨m1,i1,v1,x1,o1⟩
 apply yE;. kernel_rfl
 apply rV;. intro w' hg _;apply ol;have y:=(v1.dg hg).yy;go_simp;exact gl
 iterate 3 (apply rV;. intros;apply ol;go_simp;exact gl)
 apply rV;. intro w' hg _;apply ol;have z:=(i1.drew.grown hg).cell0 rfl;go_simp;exact gl
 apply rV;. intro w' hg _;apply ol;go_simp;exact cb (ds _ (m1.drew.below hg))
 try simp only[pu,s0,s1]
 iterate 2 (apply rV;. intros;apply ol;go_simp;exact gl)
 apply rV;. intro w' hg _;apply ol;have z0:=(x1.drew.grown hg).at0 0 rfl;have z1:=(x1.drew.grown hg).at0 1 rfl;have z2:=(x1.drew.grown hg).at0 2 rfl;have z3:=(x1.drew.grown hg).at0 3 rfl;go_simp;exact gl
 apply rV;. intro w' hg _;apply ol;go_simp;exact cb (dl _)
 iterate 2 (apply rV;. intros;apply ol;go_simp;exact gl)
 try simp only[pu,s0,s1]
 apply XW;. intros;apply ol;go_simp;exact gl
 try simp only[pu,s0,s1]
 intro w5 hg _
 go_wp2
 refine ZT (fun W=>Z8 W L s/\At W b o T cs (Xl x was Z j se ld false wn)/\ZP W w.heap.size t n k m g p r L.p who/\At W B 0 108 #[iV st,iV A,iV G,iV V] [iV st,iV A,iV G,iV V]/\Only (L.and b) w W) ⟨m1.drew.below hg,i1.drew.grown hg,v1.dg hg,x1.drew.grown hg,o1.drew.trans (Only.Z5 hg)⟩ ?_
 clear hg m1 i1 v1 x1 o1 ds dl
 rintro W ⟨m1,i1,v1,x1,o1⟩
 apply yE;. kernel_rfl
 iterate 3 (apply rV;. intros;apply ol;go_simp;exact gl)
 apply rV;. intro w' hg _;apply ol;have z:=(i1.drew.grown hg).cell 3 rfl;go_simp;exact gl
 apply rV;. intros;apply ol;go_simp;exact gl
 apply rV;. intro w' hg _;apply ol;have y:=(v1.dg hg).yy;go_simp;exact gl
 try simp only[pu,s0,s1]
 apply rV;. intro w' hg _;apply ol;have z0:=(x1.drew.grown hg).at0 0 rfl;have z1:=(x1.drew.grown hg).at0 1 rfl;have z2:=(x1.drew.grown hg).at0 2 rfl;have z3:=(x1.drew.grown hg).at0 3 rfl;go_simp;exact gl
 apply rV;. intro w' hg _;apply ol;go_simp;exact cb (IL (L:=L) hG who st A G V Z i ((i1.drew.grown hg).cell 2 rfl) (by omega) (by omega) z0 z1 i0 h1 h2)
 apply rV;. intro w' hg _;apply ol;have z:decide ((j:Int)≥Z)=dz:=HJ.out;go_simp;exact gl
 apply XW;. intros;apply ol;go_simp;exact gl
 try simp only[pu,s0,s1]
 intro w6 hg _
 have m5:=m1.drew.below hg
 have i5:=i1.drew.grown hg
 have v5:=v1.dg hg
 have x5:=x1.drew.grown hg
 have o5:Only (L.and b) w w6:=o1.drew.trans (Only.Z5 hg)
 clear hg m1 i1 v1 x1 o1
 have k5:=i5.cell 5 rfl
 obtain⟨y0,y1,y2,y3,y4,y5,y6,y7,y8⟩:=id v5
 have z0:=x5.at0 0 rfl
 have z1:=x5.at0 1 rfl
 have z2:=x5.at0 2 rfl
 have z3:=x5.at0 3 rfl
 rcases hf with⟨rfl,rfl⟩ | ⟨rfl,rfl,rfl⟩ | ⟨rfl,rfl,rfl⟩
 all_goals
  go_wp2_with (first | (go_at_call 195;refine(hc _ m5 i5).mono ?_;rintro e w7 ⟨rfl,s7,wW,l7,m7,o7,i7,q7,x7⟩;have k6:=i7.cell 6 (hX _ _ x7)) | (go_at_call 196;refine(hc _ m5 i5).mono ?_;rintro e w7 ⟨rfl,s7,wW,l7,m7,o7,i7,q7,x7⟩;have k6:=i7.cell 6 (hX _ _ x7)) | (go_at_call 197;refine(hc _ m5 i5).mono ?_;rintro e w7 ⟨rfl,s7,wW,l7,m7,o7,i7,q7,x7⟩;have k6:=i7.cell 6 (hX _ _ x7)))
  go_ret
  exact⟨rfl,s7,wW,l7,m7,o5.trans o7,i7,q7,x7⟩
theorem TJ (x was Z:Int) (w:World) :
 Calls Tryz.prog 192 #[iV x,.int .u64 was,iV Z] w fun e w'=>e=.returned (pP w.heap.size 0)/\w'=w.alloc (.cells (Xl x was Z 0 0 false false false).toArray 159):=by
 unfold Xl
 go_enter Tryz.func192,Tryz.ntmps192
 go_wp2
 go_ret
 exact⟨rfl,rfl⟩
end Go.Proofs.YtgehjolndmgffaaGreat
