import Derived.Test.YtpbghmeikcphnabGreatDropAt
namespace Go.Proofs.YtpbghmeikcphnabGreat
open Go.RowKit
set_option maxRecDepth 20000
theorem Q5 {w:World} {L:Loc} {s:Mm} {b o:Nat} {T:TypeId} {cs:Array Value} {t n k m:Nat} {g p r:Int} {a:DV} (h:Z8 w L s) (hb:¬ L.has b) (hi:ZK w b o T cs a) (who:Int) (hnx:a.nx<5) (σ:Nat) (hσ:s.steps=σ) :
 Calls Tryz.prog 151 #[pP b o,eV t n k m g p r L.p who] w fun e w'=>e=.returned (.tuple #[])/\XJ L b o T cs w w' (fun s' a'=>s'=s/\a'={ a with nx:=7,E:=3,H:=0,V:=0,St:=σ }):=by
 have HS:Hid (s.steps=σ):=hσ
 clear hσ
 have i0:=hi.grown (ZY _ (.cells #[iV t,iV n,iV k,iV m,iV g,iV p,iV r,pP L.p 0,iV who] 26))
 have k0:=i0.Zz
 go_enter Tryz.func151,Tryz.ntmps151
 go_wp2_with (go_at_call 10;refine(YD (h.alloc _) _ _ _ _ _ _ _ _ σ HS.out).mono ?_;rintro e w1 ⟨rfl,b1⟩;have i1:=i0.grown b1;have m1:=(h.alloc (.cells #[iV t,iV n,iV k,iV m,iV g,iV p,iV r,pP L.p 0,iV who] 26)).below b1;have k1:=i1.BF;have k2:=i1.BP;have k3:=i1.BD;have k4:=i1.QV;have k5:=i1.Zz;have kf:=i1.fz)
 go_end0
 exact⟨rfl,s,_,_,((((m1.ZX hb _ _).ZX hb _ _).ZX hb _ _).ZX hb _ _).ZX hb _ _,(((((((Only.refl _ _).alloc _).trans (Only.ZZ b1)).set _ _).set _ _).set _ _).set _ _).set _ _,((((i1.NU 3).PT 0).NT 0).Uk σ).Zh 7,((((Same.refl.set (by omega) _).set (by omega) _).set (by omega) _).set (by omega) _).set (by omega) _,rfl,rfl⟩
set_option maxHeartbeats 400000 in
theorem Ai {w:World} {L:Loc} {s:Mm} {b o:Nat} {T:TypeId} {cs:Array Value} {t n k m:Nat} {g p r:Int} {a:DV} (h:Z8 w L s) (hb:¬ L.has b) (hi:ZK w b o T cs a) (who:Int) (hG:Good t n k m g p r) {x:Nat} {G:Int} (hx:x<n) (hn:(6+t+x * 2)<s.n) {v st:Int} {A:Nat} {Gs V:Int} (hv:s.wd (6+t+x * 2)=v) (hs:Zf v st A Gs V) {ci:Int} (hci:Za t n k m A=ci) (hl:(Y1 st && Gs == G)=false) (hnx:a.nx<5) {σ:Nat} (hσ:wrap64 (s.steps+1)=σ) :
 Calls Tryz.prog 152 #[pP b o,eV t n k m g p r L.p who,.agg #[iV x,iV G]] w fun e w'=>e=.returned (.tuple #[])/\XJ L b o T cs w w' (fun s' a'=>s'=((s.by who).step (6+t+x * 2) (s.wd (6+t+x * 2)))/\a'={ a with se:=v,ch:=ci,nx:=7,E:=3,H:=0,V:=0,St:=σ }):=by
 have HU:Hid (s.wd (6+t+x * 2)=v):=hv
 have sw:=hs.call
 have hs1:=hG.s1
 have ab:(A:Int)<=1048575:=by have:=hs.ad;omega
 have I8:=fun w=>VE hG (A:Int) (by omega) w
 rw[hci] at I8
 have dl:=fun w=>XW st A Gs V x G w
 rw[hl] at dl
 clear hv hs hci hl
 have HS:Hid ((((s.by who).step (6+t+x * 2) (s.wd (6+t+x * 2)))).steps=σ):=hσ
 clear hσ
 obtain⟨hbv,hbb⟩:=nb h hi.lt
 have Zm:¬ L.has (w.heap.size+1):=fun hh=>by have:=h.lt _ hh;omega
 have Zj:¬ w.heap.size+1=b:=fun hh=>by have:=hi.lt;omega
 go_enter Tryz.func152,Tryz.ntmps152
 go_wp2
 refine ZW (fun W=>Z8 W L s/\ZK W b o T cs a/\ZR W w.heap.size t n k m g p r L.p who/\At W (w.heap.size+1) 0 173 #[iV x,iV G] [iV x,iV G]/\Only (L.and b) w W) ⟨(h.alloc _).alloc _,(hi.grown (ZY _ _)).grown (ZY _ _),ZR.YA _,At.Yx _ _ _ _,((Only.refl _ _).alloc _).alloc _⟩ ?_
 rintro W ⟨m1,i1,v1,x1,o1⟩
 apply VJ (R:=ZV L b (o+3)) (Aj L b o T cs (cs.setIfInBounds (o+3) (.int .u64 v)) s ((s.by who).step (6+t+x * 2) (s.wd (6+t+x * 2))) a { a with se:=v }) [7,10] TN QI ⟨m1.drew,i1.drew⟩;. kernel_rfl
 apply pV;. intros;apply ol;go_simp;exact gl
 apply pV;. intro w' hR _;apply ol;have y:=(v1.dn hR.only hbv hbb).yy;go_simp;exact gl
 apply pV;. intros;apply ol;go_simp;exact gl
 apply pV;. intro w' hR _;apply ol;have y:=(v1.dn hR.only hbv hbb).yy;go_simp;exact gl
 apply pV;. intros;apply ol;go_simp;exact gl
 apply pV;. intro w' hR _;apply ol;have z:=(x1.drew.only hR.only (fun hh=>hh.elim Zm Zj)).at0 0 rfl;go_simp;exact gl
 try simp only[pu,s0,s1]
 apply pV (c:=iV (((6+t+x * 2):Nat):Int));. intro w' hR _;apply ol;go_simp;refine(Ze _ _ _ _ _ _ _ (x:Int) _ hG.arena (by omega) (by omega)).mono ?_;rintro e w'' ⟨rfl,b9⟩;exact⟨_,rfl,b9,congrArg (Value.int .i64) (by omega)⟩
 apply pV (c:=.int .u64 v);. intro w' hR _ hP;apply ol;go_simp;refine(ZF (s:=s) hP.1 _ _ _ _ _ _ _ _ (6+t+x * 2) hn).mono ?_;rintro e w'' ⟨rfl,m2,o2⟩;exact⟨_,rfl,⟨ZV.Y7 o2 hb,m2,hP.2.only o2 hb⟩,by simp[Want.pred,HU.out]⟩
 iterate 2 (apply pV;. intros;apply ol;go_simp;exact gl)
 apply Un;. intro w' hR _ hP;apply ol;have z0:=hP.2.Ya;have z1:=hP.2.fz;go_simp;exact⟨⟨ZV.set _ _,hP.1.ZX hb _ _,hP.2.QU _⟩,trivial⟩
 try simp only[pu,s0,s1]
 try simp only[pn]
 intro vv w2 hR hP _
 obtain⟨m2,i2⟩:Z8 w2 L ((s.by who).step (6+t+x * 2) (s.wd (6+t+x * 2)))/\ZK w2 b o T (cs.setIfInBounds (o+3) (.int .u64 v)) { a with se:=v }:=hP
 have o2:Only (L.and b) w w2:=o1.drew.trans hR.only
 have x2:=x1.drew.only hR.only (fun hh=>hh.elim Zm Zj)
 have v2:=v1.dn hR.only hbv hbb
 have s2:Same o 21 cs (cs.setIfInBounds (o+3) (.int .u64 v)):=Same.refl.set (by omega) _
 have k3:w2.cell? ⟨b,o+3,none⟩=some (.int .u64 v):=i2.Ya
 clear hR o1 v1 m1 i1 x1
 go_wp2_with (first
  | (go_at_call 114;refine(sw _).mono ?_;rintro e w3 ⟨rfl,b3⟩;have i4:=(i2.grown b3).grown (ZY _ (.cells #[iV st,iV A,iV Gs,iV V] 90));have x4:=(x2.grown b3).grown (ZY _ (.cells #[iV st,iV A,iV Gs,iV V] 90));have v4:=(v2.grown b3).grown (ZY _ (.cells #[iV st,iV A,iV Gs,iV V] 90));have m4:=(m2.below b3).alloc (.cells #[iV st,iV A,iV Gs,iV V] 90);have o4:=(o2.trans (Only.ZZ b3)).alloc (.cells #[iV st,iV A,iV Gs,iV V] 90);have q4:=At.new w3 90 [iV st,iV A,iV Gs,iV V];obtain⟨y0,y1,y2,y3,y4,y5,y6,y7,y8⟩:=id v4;have q0:=q4.at0 0 rfl)
  | (go_at_call 11;refine(I8 _).mono ?_;rintro e w5 ⟨rfl,b5⟩;have i5:=i4.grown b5;have x5:=x4.grown b5;have v5:=v4.grown b5;have m5:=m4.below b5;have q5:=q4.grown b5;have k4:=i5.G5;have kf:=i5.fz;have i6:=i5.Es ci;have hw3:w.heap.size+1<w3.heap.size:=(by have:=x2.lt;have:=b3.size;omega);have hb3:b<w3.heap.size:=(by have:=i2.lt;have:=b3.size;omega);have x6:=x5.other (k:=b) (by omega) (o+4) (iV ci);have v6:=v5.ZX (b:=b) hbb (o+4) (iV ci);have q6:=q5.other (k:=b) (by omega) (o+4) (iV ci);have m6:=m5.ZX hb (o+4) (iV ci);have z0:=q6.at0 0 rfl;have z1:=q6.at0 1 rfl;have z2:=q6.at0 2 rfl;have z3:=q6.at0 3 rfl;have u0:=x6.at0 0 rfl;have u1:=x6.at0 1 rfl;obtain⟨r0,r1,r2,r3,r4,r5,r6,r7,r8⟩:=id v6)
  | (go_at_call 158;refine(dl _).mono ?_;rintro e w7 ⟨rfl,b7⟩;have i7:=i6.grown b7;have m7:=m6.below b7;have v7:=v6.grown b7;have o7:=((o4.trans (Only.ZZ b5)).set (o+4) (iV ci)).trans (Only.ZZ b7);have l4:w7.cell? ⟨b,o+4,none⟩=some (iV ci):=i7.G5;have l0:=i7.Zz;have lf:=i7.fz;obtain⟨e0,e1,e2,e3,e4,e5,e6,e7,e8⟩:=id v7)
  | (go_at_call 151;refine(Q5 m7 hb i7 who hnx σ HS.out).mono ?_;rintro e w8 ⟨rfl,s8,vU,a8,m8,o8,i8,q8,rfl,rfl⟩))
 refine bodyPost_ret (results_none rfl _ _ _) rfl ?_
 exact⟨rfl,_,_,_,m8,o7.trans o8,i8,(s2.set (by omega) _).trans q8,rfl,rfl⟩
set_option maxHeartbeats 400000 in
theorem Ep {w:World} {L:Loc} {s:Mm} {b o:Nat} {T:TypeId} {cs:Array Value} {t n k m:Nat} {g p r:Int} {a:DV} (h:Z8 w L s) (hb:¬ L.has b) (hi:ZK w b o T cs a) (who:Int) (hG:Good t n k m g p r) {x:Nat} {G:Int} (hx:x<n) (hn:(6+t+x * 2)<s.n) {v st:Int} {A:Nat} {Gs V:Int} (hv:s.wd (6+t+x * 2)=v) (hs:Zf v st A Gs V) {ci:Int} (hci:Za t n k m A=ci) (hl:(Y1 st && Gs == G)=true) (hc0:0<=ci) :
 Calls Tryz.prog 152 #[pP b o,eV t n k m g p r L.p who,.agg #[iV x,iV G]] w fun e w'=>e=.returned (.tuple #[])/\XJ L b o T cs w w' (fun s' a'=>s'=((s.by who).step (6+t+x * 2) (s.wd (6+t+x * 2)))/\a'={ a with se:=v,ch:=ci,nx:=1 }):=by
 have HU:Hid (s.wd (6+t+x * 2)=v):=hv
 have sw:=hs.call
 have hs1:=hG.s1
 have ab:(A:Int)<=1048575:=by have:=hs.ad;omega
 have I8:=fun w=>VE hG (A:Int) (by omega) w
 rw[hci] at I8
 have dl:=fun w=>XW st A Gs V x G w
 rw[hl] at dl
 clear hv hs hci hl
 obtain⟨hbv,hbb⟩:=nb h hi.lt
 have Zm:¬ L.has (w.heap.size+1):=fun hh=>by have:=h.lt _ hh;omega
 have Zj:¬ w.heap.size+1=b:=fun hh=>by have:=hi.lt;omega
 go_enter Tryz.func152,Tryz.ntmps152
 go_wp2
 refine ZW (fun W=>Z8 W L s/\ZK W b o T cs a/\ZR W w.heap.size t n k m g p r L.p who/\At W (w.heap.size+1) 0 173 #[iV x,iV G] [iV x,iV G]/\Only (L.and b) w W) ⟨(h.alloc _).alloc _,(hi.grown (ZY _ _)).grown (ZY _ _),ZR.YA _,At.Yx _ _ _ _,((Only.refl _ _).alloc _).alloc _⟩ ?_
 rintro W ⟨m1,i1,v1,x1,o1⟩
 apply VJ (R:=ZV L b (o+3)) (Aj L b o T cs (cs.setIfInBounds (o+3) (.int .u64 v)) s ((s.by who).step (6+t+x * 2) (s.wd (6+t+x * 2))) a { a with se:=v }) [7,10] TN QI ⟨m1.drew,i1.drew⟩;. kernel_rfl
 apply pV;. intros;apply ol;go_simp;exact gl
 apply pV;. intro w' hR _;apply ol;have y:=(v1.dn hR.only hbv hbb).yy;go_simp;exact gl
 apply pV;. intros;apply ol;go_simp;exact gl
 apply pV;. intro w' hR _;apply ol;have y:=(v1.dn hR.only hbv hbb).yy;go_simp;exact gl
 apply pV;. intros;apply ol;go_simp;exact gl
 apply pV;. intro w' hR _;apply ol;have z:=(x1.drew.only hR.only (fun hh=>hh.elim Zm Zj)).at0 0 rfl;go_simp;exact gl
 try simp only[pu,s0,s1]
 apply pV (c:=iV (((6+t+x * 2):Nat):Int));. intro w' hR _;apply ol;go_simp;refine(Ze _ _ _ _ _ _ _ (x:Int) _ hG.arena (by omega) (by omega)).mono ?_;rintro e w'' ⟨rfl,b9⟩;exact⟨_,rfl,b9,congrArg (Value.int .i64) (by omega)⟩
 apply pV (c:=.int .u64 v);. intro w' hR _ hP;apply ol;go_simp;refine(ZF (s:=s) hP.1 _ _ _ _ _ _ _ _ (6+t+x * 2) hn).mono ?_;rintro e w'' ⟨rfl,m2,o2⟩;exact⟨_,rfl,⟨ZV.Y7 o2 hb,m2,hP.2.only o2 hb⟩,by simp[Want.pred,HU.out]⟩
 iterate 2 (apply pV;. intros;apply ol;go_simp;exact gl)
 apply Un;. intro w' hR _ hP;apply ol;have z0:=hP.2.Ya;have z1:=hP.2.fz;go_simp;exact⟨⟨ZV.set _ _,hP.1.ZX hb _ _,hP.2.QU _⟩,trivial⟩
 try simp only[pu,s0,s1]
 try simp only[pn]
 intro vv w2 hR hP _
 obtain⟨m2,i2⟩:Z8 w2 L ((s.by who).step (6+t+x * 2) (s.wd (6+t+x * 2)))/\ZK w2 b o T (cs.setIfInBounds (o+3) (.int .u64 v)) { a with se:=v }:=hP
 have o2:Only (L.and b) w w2:=o1.drew.trans hR.only
 have x2:=x1.drew.only hR.only (fun hh=>hh.elim Zm Zj)
 have v2:=v1.dn hR.only hbv hbb
 have s2:Same o 21 cs (cs.setIfInBounds (o+3) (.int .u64 v)):=Same.refl.set (by omega) _
 have k3:w2.cell? ⟨b,o+3,none⟩=some (.int .u64 v):=i2.Ya
 clear hR o1 v1 m1 i1 x1
 go_wp2_with (first
  | (go_at_call 114;refine(sw _).mono ?_;rintro e w3 ⟨rfl,b3⟩;have i4:=(i2.grown b3).grown (ZY _ (.cells #[iV st,iV A,iV Gs,iV V] 90));have x4:=(x2.grown b3).grown (ZY _ (.cells #[iV st,iV A,iV Gs,iV V] 90));have v4:=(v2.grown b3).grown (ZY _ (.cells #[iV st,iV A,iV Gs,iV V] 90));have m4:=(m2.below b3).alloc (.cells #[iV st,iV A,iV Gs,iV V] 90);have o4:=(o2.trans (Only.ZZ b3)).alloc (.cells #[iV st,iV A,iV Gs,iV V] 90);have q4:=At.new w3 90 [iV st,iV A,iV Gs,iV V];obtain⟨y0,y1,y2,y3,y4,y5,y6,y7,y8⟩:=id v4;have q0:=q4.at0 0 rfl)
  | (go_at_call 11;refine(I8 _).mono ?_;rintro e w5 ⟨rfl,b5⟩;have i5:=i4.grown b5;have x5:=x4.grown b5;have v5:=v4.grown b5;have m5:=m4.below b5;have q5:=q4.grown b5;have k4:=i5.G5;have kf:=i5.fz;have i6:=i5.Es ci;have hw3:w.heap.size+1<w3.heap.size:=(by have:=x2.lt;have:=b3.size;omega);have hb3:b<w3.heap.size:=(by have:=i2.lt;have:=b3.size;omega);have x6:=x5.other (k:=b) (by omega) (o+4) (iV ci);have v6:=v5.ZX (b:=b) hbb (o+4) (iV ci);have q6:=q5.other (k:=b) (by omega) (o+4) (iV ci);have m6:=m5.ZX hb (o+4) (iV ci);have z0:=q6.at0 0 rfl;have z1:=q6.at0 1 rfl;have z2:=q6.at0 2 rfl;have z3:=q6.at0 3 rfl;have u0:=x6.at0 0 rfl;have u1:=x6.at0 1 rfl;obtain⟨r0,r1,r2,r3,r4,r5,r6,r7,r8⟩:=id v6)
  | (go_at_call 158;refine(dl _).mono ?_;rintro e w7 ⟨rfl,b7⟩;have i7:=i6.grown b7;have m7:=m6.below b7;have v7:=v6.grown b7;have o7:=((o4.trans (Only.ZZ b5)).set (o+4) (iV ci)).trans (Only.ZZ b7);have l4:w7.cell? ⟨b,o+4,none⟩=some (iV ci):=i7.G5;have l0:=i7.Zz;have lf:=i7.fz;obtain⟨e0,e1,e2,e3,e4,e5,e6,e7,e8⟩:=id v7))
 go_end0
 exact⟨rfl,_,_,_,m7.ZX hb _ _,o7.set _ _,i7.Zh 1,(s2.set (by omega) _).set (by omega) _,rfl,rfl⟩
end Go.Proofs.YtpbghmeikcphnabGreat
