import Derived.Test.YtpbghmeikcphnabGreatDropDo
namespace Go.Proofs.YtpbghmeikcphnabGreat
open Go.RowKit
set_option maxHeartbeats 1000000
set_option maxRecDepth 20000
structure VD (u kd Z sl gn:Int) (ow:Bool):Prop where
 u0:0<=u
 u1:u<=18446744073709551615
 kd:u % 4=kd
 sz:u / 4 % 65536=Z
 sl:u / 262144 % 65536=sl
 gn:u / 17179869184 % 65536=gn
 ow:decide (u / 1125899906842624 % 2=1)=ow
theorem VD.call {u kd Z sl gn:Int} {ow:Bool} (h:VD u kd Z sl gn ow) (w:World) :
 Calls Tryz.prog 159 #[.int .u64 u] w fun e w'=>e=.returned (.agg #[iV kd,iV Z,iV sl,iV gn,.bool ow])/\Below w.heap.size w w':=by
 have e:=Et u w h.u0 h.u1
 rwa [h.kd,h.sz,h.sl,h.gn,h.ow] at e
theorem Am {w:World} {L:Loc} {s:Mm} {b o:Nat} {T:TypeId} {cs:Array Value} {t n k m:Nat} {g p r:Int} {a:DV} (h:Z8 w L s) (hb:¬ L.has b) (hi:ZK w b o T cs a) (who:Int) {x:Nat} {G:Int} {st:Int} {A:Nat} {Gs V:Int} (hs:Zf a.se st A Gs V) (hn:A<s.n) {u kd Z sl gn:Int} {ow:Bool} (hu:s.wd A=u) (hh:VD u kd Z sl gn ow) (hnx:a.nx<5) (ho:(ow == a.own)=false) {σ:Nat} (hσ:wrap64 (s.steps+1)=σ) :
 Calls Tryz.prog 153 #[pP b o,eV t n k m g p r L.p who,.agg #[iV x,iV G]] w fun e w'=>e=.returned (.tuple #[])/\XJ L b o T cs w w' (fun s' a'=>s'=((s.by who).step A (s.wd A))/\a'={ a with nx:=7,E:=3,H:=0,V:=0,St:=σ }):=by
 have HU:Hid (s.wd A=u):=hu
 have sw:=hs.call
 have hw:=hh.call
 clear hu hs hh
 have HS:Hid ((((s.by who).step A (s.wd A))).steps=σ):=hσ
 have HO:Hid ((ow == a.own)=false):=ho
 clear hσ ho
 obtain⟨hbv,hbb⟩:=nb h hi.lt
 have Zm:¬ L.has (w.heap.size+1):=fun hh=>by have:=h.lt _ hh;omega
 have Zj:¬ w.heap.size+1=b:=fun hh=>by have:=hi.lt;omega
 have i0:=(hi.grown (ZY _ (.cells #[iV t,iV n,iV k,iV m,iV g,iV p,iV r,pP L.p 0,iV who] 26))).grown (ZY _ (.cells #[iV x,iV G] 173))
 have k3:=i0.Ya
 go_enter Tryz.func153,Tryz.ntmps153
 go_wp2_with (first
  | (go_at_call 114;refine(sw _).mono ?_;rintro e w3 ⟨rfl,b3⟩;have i3:=(i0.grown b3).grown (ZY _ (.cells #[iV st,iV A,iV Gs,iV V] 90));have x3:=((At.Yx _ _ _ [iV (x:Nat),iV G]).grown b3).grown (ZY _ (.cells #[iV st,iV A,iV Gs,iV V] 90));have v3:=((ZR.YA _).grown b3).grown (ZY _ (.cells #[iV st,iV A,iV Gs,iV V] 90));have m3:=(((h.alloc _).alloc _).below b3).alloc (.cells #[iV st,iV A,iV Gs,iV V] 90);have o3:Only (L.and b) w (w3.alloc (.cells #[iV st,iV A,iV Gs,iV V] 90)):=((((Only.refl _ _).alloc _).alloc _).trans (Only.ZZ b3)).alloc (.cells #[iV st,iV A,iV Gs,iV V] 90);have q3:=At.new w3 90 [iV st,iV A,iV Gs,iV V];obtain⟨e0,e1,e2,e3,e4,e5,e6,e7,e8⟩:=id v3;have q0:=q3.at0 1 rfl)
  | (go_at_call 95;refine(ZF m3 _ _ _ _ _ _ _ _ A hn).mono ?_;rintro e w5 ⟨rfl,m5,o5⟩;rw[HU.out])
  | (go_at_call 159;refine(hw _).mono ?_;rintro e w6 ⟨rfl,b6⟩))
 obtain⟨S,hS⟩:∃ S,w3.heap.size=S:=⟨_,rfl⟩
 have y0:=At.new w6 118 [iV kd,iV Z,iV sl,iV gn,.bool ow]
 obtain⟨Hh,hH⟩:∃ Hh,w6.heap.size=Hh:=⟨_,rfl⟩
 have lS:¬ L.has S:=fun hh=>by have:=h.lt _ hh;have:=b3.size;simp only[Go.Deep.nblk_alloc] at this;omega
 have bS:b≠S:=by have:=hi.lt;have:=b3.size;simp only[Go.Deep.nblk_alloc] at this;omega
 have bH:b≠Hh:=by have:=hi.lt;have:=b3.size;have:=o5.size;have:=b6.size;simp only[Go.Deep.nblk_alloc] at *;omega
 rw[hS] at q3 ⊢
 rw[hH] at y0 ⊢
 refine ZW (fun W=>Z8 W L ((s.by who).step A (s.wd A))/\ZK W b o T cs a/\ZR W w.heap.size t n k m g p r L.p who/\At W (w.heap.size+1) 0 173 #[iV x,iV G] [iV x,iV G]/\At W S 0 90 _ [iV st,iV A,iV Gs,iV V]/\At W Hh 0 118 _ [iV kd,iV Z,iV sl,iV gn,.bool ow]/\Only (L.and b) w W) ⟨(m5.below b6).alloc _,((i3.only o5 hb).grown b6).grown (ZY _ _),((v3.only o5 hbv).grown b6).grown (ZY _ _),((x3.only o5 Zm).grown b6).grown (ZY _ _),((q3.only o5 lS).grown b6).grown (ZY _ _),y0,((o3.trans (o5.Yd (b:=b))).trans (Only.ZZ b6)).alloc _⟩ ?_
 clear b3 b6 m3 m5 o5 o3 q3 q0 y0 i3 v3 x3 i0 k3 hS hH sw hw
 rintro W ⟨m1,i1,v1,x1,q1,y1,o1⟩
 apply Lm;. kernel_rfl
 apply rV;. intros;apply ol;go_simp;exact gl
 apply rV;. intro w' hg _;apply ol;have z:=(y1.drew.grown hg).at0 4 rfl;go_simp;exact gl
 iterate 3 (apply rV;. intros;apply ol;go_simp;exact gl)
 apply rV;. intro w' hg _;apply ol;have z:=(i1.drew.grown hg).TM;go_simp;exact gl
 try simp only[pu,s0,s1]
 apply X8 (c:=.bool true);. intro w' hg _;apply ol;go_simp;exact⟨Grown.refl _,congrArg Value.bool (by rw[HO.out];rfl)⟩
 try simp only[pu,s0,s1]
 intro w7 hg _
 have m7:=m1.drew.below hg
 have i7:=i1.drew.grown hg
 have v7:=v1.dg hg
 have x7:=x1.drew.grown hg
 have q7:=q1.drew.grown hg
 have yh:=y1.drew.grown hg
 have o7:Only (L.and b) w w7:=o1.drew.trans (Only.ZZ hg)
 clear hg m1 i1 v1 x1 q1 y1 o1
 have kz:=yh.at0 1 rfl
 have k5:=i7.WX
 have k0:=i7.Zz
 have kf:=i7.fz
 obtain⟨y0,y1,y2,y3,y4,y5,y6,y7,y8⟩:=id v7
 go_wp2_with (go_at_call 151;refine(Q5 m7 hb i7 who hnx σ HS.out).mono ?_;rintro e w8 ⟨rfl,s8,vU,a8,m8,o8,i8,q8,rfl,rfl⟩)
 refine bodyPost_ret (results_none rfl _ _ _) rfl ?_
 exact⟨rfl,_,_,_,m8,o7.trans o8,i8,q8,rfl,rfl⟩
theorem Ak {w:World} {L:Loc} {s:Mm} {b o:Nat} {T:TypeId} {cs:Array Value} {t n k m:Nat} {g p r:Int} {a:DV} (h:Z8 w L s) (hb:¬ L.has b) (hi:ZK w b o T cs a) (who:Int) {x:Nat} {G:Int} {st:Int} {A:Nat} {Gs V:Int} (hs:Zf a.se st A Gs V) (hn:A<s.n) {u kd Z sl gn:Int} {ow:Bool} (hu:s.wd A=u) (hh:VD u kd Z sl gn ow) (ho:(ow == a.own)=true) (h4:st≠4) :
 Calls Tryz.prog 153 #[pP b o,eV t n k m g p r L.p who,.agg #[iV x,iV G]] w fun e w'=>e=.returned (.tuple #[])/\XJ L b o T cs w w' (fun s' a'=>s'=((s.by who).step A (s.wd A))/\a'={ a with sz:=Z,nx:=2 }):=by
 have HU:Hid (s.wd A=u):=hu
 have sw:=hs.call
 have hw:=hh.call
 clear hu hs hh
 have HO:Hid ((ow == a.own)=true):=ho
 clear ho
 obtain⟨hbv,hbb⟩:=nb h hi.lt
 have Zm:¬ L.has (w.heap.size+1):=fun hh=>by have:=h.lt _ hh;omega
 have Zj:¬ w.heap.size+1=b:=fun hh=>by have:=hi.lt;omega
 have i0:=(hi.grown (ZY _ (.cells #[iV t,iV n,iV k,iV m,iV g,iV p,iV r,pP L.p 0,iV who] 26))).grown (ZY _ (.cells #[iV x,iV G] 173))
 have k3:=i0.Ya
 go_enter Tryz.func153,Tryz.ntmps153
 go_wp2_with (first
  | (go_at_call 114;refine(sw _).mono ?_;rintro e w3 ⟨rfl,b3⟩;have i3:=(i0.grown b3).grown (ZY _ (.cells #[iV st,iV A,iV Gs,iV V] 90));have x3:=((At.Yx _ _ _ [iV (x:Nat),iV G]).grown b3).grown (ZY _ (.cells #[iV st,iV A,iV Gs,iV V] 90));have v3:=((ZR.YA _).grown b3).grown (ZY _ (.cells #[iV st,iV A,iV Gs,iV V] 90));have m3:=(((h.alloc _).alloc _).below b3).alloc (.cells #[iV st,iV A,iV Gs,iV V] 90);have o3:Only (L.and b) w (w3.alloc (.cells #[iV st,iV A,iV Gs,iV V] 90)):=((((Only.refl _ _).alloc _).alloc _).trans (Only.ZZ b3)).alloc (.cells #[iV st,iV A,iV Gs,iV V] 90);have q3:=At.new w3 90 [iV st,iV A,iV Gs,iV V];obtain⟨e0,e1,e2,e3,e4,e5,e6,e7,e8⟩:=id v3;have q0:=q3.at0 1 rfl)
  | (go_at_call 95;refine(ZF m3 _ _ _ _ _ _ _ _ A hn).mono ?_;rintro e w5 ⟨rfl,m5,o5⟩;rw[HU.out])
  | (go_at_call 159;refine(hw _).mono ?_;rintro e w6 ⟨rfl,b6⟩))
 obtain⟨S,hS⟩:∃ S,w3.heap.size=S:=⟨_,rfl⟩
 have y0:=At.new w6 118 [iV kd,iV Z,iV sl,iV gn,.bool ow]
 obtain⟨Hh,hH⟩:∃ Hh,w6.heap.size=Hh:=⟨_,rfl⟩
 have lS:¬ L.has S:=fun hh=>by have:=h.lt _ hh;have:=b3.size;simp only[Go.Deep.nblk_alloc] at this;omega
 have bS:b≠S:=by have:=hi.lt;have:=b3.size;simp only[Go.Deep.nblk_alloc] at this;omega
 have bH:b≠Hh:=by have:=hi.lt;have:=b3.size;have:=o5.size;have:=b6.size;simp only[Go.Deep.nblk_alloc] at *;omega
 rw[hS] at q3 ⊢
 rw[hH] at y0 ⊢
 refine ZW (fun W=>Z8 W L ((s.by who).step A (s.wd A))/\ZK W b o T cs a/\ZR W w.heap.size t n k m g p r L.p who/\At W (w.heap.size+1) 0 173 #[iV x,iV G] [iV x,iV G]/\At W S 0 90 _ [iV st,iV A,iV Gs,iV V]/\At W Hh 0 118 _ [iV kd,iV Z,iV sl,iV gn,.bool ow]/\Only (L.and b) w W) ⟨(m5.below b6).alloc _,((i3.only o5 hb).grown b6).grown (ZY _ _),((v3.only o5 hbv).grown b6).grown (ZY _ _),((x3.only o5 Zm).grown b6).grown (ZY _ _),((q3.only o5 lS).grown b6).grown (ZY _ _),y0,((o3.trans (o5.Yd (b:=b))).trans (Only.ZZ b6)).alloc _⟩ ?_
 clear b3 b6 m3 m5 o5 o3 q3 q0 y0 i3 v3 x3 i0 k3 hS hH sw hw
 rintro W ⟨m1,i1,v1,x1,q1,y1,o1⟩
 apply Lm;. kernel_rfl
 apply rV;. intros;apply ol;go_simp;exact gl
 apply rV;. intro w' hg _;apply ol;have z:=(y1.drew.grown hg).at0 4 rfl;go_simp;exact gl
 iterate 3 (apply rV;. intros;apply ol;go_simp;exact gl)
 apply rV;. intro w' hg _;apply ol;have z:=(i1.drew.grown hg).TM;go_simp;exact gl
 try simp only[pu,s0,s1]
 apply X8 (c:=.bool false);. intro w' hg _;apply ol;go_simp;exact⟨Grown.refl _,congrArg Value.bool (by rw[HO.out];rfl)⟩
 try simp only[pu,s0,s1]
 intro w7 hg _
 have m7:=m1.drew.below hg
 have i7:=i1.drew.grown hg
 have v7:=v1.dg hg
 have x7:=x1.drew.grown hg
 have q7:=q1.drew.grown hg
 have yh:=y1.drew.grown hg
 have o7:Only (L.and b) w w7:=o1.drew.trans (Only.ZZ hg)
 clear hg m1 i1 v1 x1 q1 y1 o1
 have kz:=yh.at0 1 rfl
 have k5:=i7.WX
 have k0:=i7.Zz
 have kf:=i7.fz
 obtain⟨y0,y1,y2,y3,y4,y5,y6,y7,y8⟩:=id v7
 have q8:=(q7.other bS.symm (o+5) (iV Z)).other bS.symm o (iV 2)
 have z0:=q8.at0 0 rfl
 go_wp2
 go_end0
 exact⟨rfl,_,_,_,(m7.ZX hb _ _).ZX hb _ _,(o7.set _ _).set _ _,(i7.SE Z).Zh 2,(Same.refl.set (by omega) _).set (by omega) _,rfl,rfl⟩
theorem G6 {w:World} {L:Loc} {s:Mm} {b o:Nat} {T:TypeId} {cs:Array Value} {t n k m:Nat} {g p r:Int} {a:DV} (h:Z8 w L s) (hb:¬ L.has b) (hi:ZK w b o T cs a) (who:Int) {x:Nat} {G:Int} {st:Int} {A:Nat} {Gs V:Int} (hs:Zf a.se st A Gs V) (hn:A<s.n) {u kd Z sl gn:Int} {ow:Bool} (hu:s.wd A=u) (hh:VD u kd Z sl gn ow) (ho:(ow == a.own)=true) (h4:st=4) :
 Calls Tryz.prog 153 #[pP b o,eV t n k m g p r L.p who,.agg #[iV x,iV G]] w fun e w'=>e=.returned (.tuple #[])/\XJ L b o T cs w w' (fun s' a'=>s'=((s.by who).step A (s.wd A))/\a'={ a with sz:=Z,hl:=Yr x a.se Z 0 0 false false false,nx:=3 }):=by
 have HU:Hid (s.wd A=u):=hu
 have sw:=hs.call
 have hw:=hh.call
 clear hu hs hh
 have HO:Hid ((ow == a.own)=true):=ho
 subst h4
 clear ho
 obtain⟨hbv,hbb⟩:=nb h hi.lt
 have Zm:¬ L.has (w.heap.size+1):=fun hh=>by have:=h.lt _ hh;omega
 have Zj:¬ w.heap.size+1=b:=fun hh=>by have:=hi.lt;omega
 have i0:=(hi.grown (ZY _ (.cells #[iV t,iV n,iV k,iV m,iV g,iV p,iV r,pP L.p 0,iV who] 26))).grown (ZY _ (.cells #[iV x,iV G] 173))
 have k3:=i0.Ya
 go_enter Tryz.func153,Tryz.ntmps153
 go_wp2_with (first
  | (go_at_call 114;refine(sw _).mono ?_;rintro e w3 ⟨rfl,b3⟩;have i3:=(i0.grown b3).grown (ZY _ (.cells #[iV 4,iV A,iV Gs,iV V] 90));have x3:=((At.Yx _ _ _ [iV (x:Nat),iV G]).grown b3).grown (ZY _ (.cells #[iV 4,iV A,iV Gs,iV V] 90));have v3:=((ZR.YA _).grown b3).grown (ZY _ (.cells #[iV 4,iV A,iV Gs,iV V] 90));have m3:=(((h.alloc _).alloc _).below b3).alloc (.cells #[iV 4,iV A,iV Gs,iV V] 90);have o3:Only (L.and b) w (w3.alloc (.cells #[iV 4,iV A,iV Gs,iV V] 90)):=((((Only.refl _ _).alloc _).alloc _).trans (Only.ZZ b3)).alloc (.cells #[iV 4,iV A,iV Gs,iV V] 90);have q3:=At.new w3 90 [iV 4,iV A,iV Gs,iV V];obtain⟨e0,e1,e2,e3,e4,e5,e6,e7,e8⟩:=id v3;have q0:=q3.at0 1 rfl)
  | (go_at_call 95;refine(ZF m3 _ _ _ _ _ _ _ _ A hn).mono ?_;rintro e w5 ⟨rfl,m5,o5⟩;rw[HU.out])
  | (go_at_call 159;refine(hw _).mono ?_;rintro e w6 ⟨rfl,b6⟩))
 obtain⟨S,hS⟩:∃ S,w3.heap.size=S:=⟨_,rfl⟩
 have y0:=At.new w6 118 [iV kd,iV Z,iV sl,iV gn,.bool ow]
 obtain⟨Hh,hH⟩:∃ Hh,w6.heap.size=Hh:=⟨_,rfl⟩
 have lS:¬ L.has S:=fun hh=>by have:=h.lt _ hh;have:=b3.size;simp only[Go.Deep.nblk_alloc] at this;omega
 have bS:b≠S:=by have:=hi.lt;have:=b3.size;simp only[Go.Deep.nblk_alloc] at this;omega
 have bH:b≠Hh:=by have:=hi.lt;have:=b3.size;have:=o5.size;have:=b6.size;simp only[Go.Deep.nblk_alloc] at *;omega
 rw[hS] at q3 ⊢
 rw[hH] at y0 ⊢
 refine ZW (fun W=>Z8 W L ((s.by who).step A (s.wd A))/\ZK W b o T cs a/\ZR W w.heap.size t n k m g p r L.p who/\At W (w.heap.size+1) 0 173 #[iV x,iV G] [iV x,iV G]/\At W S 0 90 _ [iV 4,iV A,iV Gs,iV V]/\At W Hh 0 118 _ [iV kd,iV Z,iV sl,iV gn,.bool ow]/\Only (L.and b) w W) ⟨(m5.below b6).alloc _,((i3.only o5 hb).grown b6).grown (ZY _ _),((v3.only o5 hbv).grown b6).grown (ZY _ _),((x3.only o5 Zm).grown b6).grown (ZY _ _),((q3.only o5 lS).grown b6).grown (ZY _ _),y0,((o3.trans (o5.Yd (b:=b))).trans (Only.ZZ b6)).alloc _⟩ ?_
 clear b3 b6 m3 m5 o5 o3 q3 q0 y0 i3 v3 x3 i0 k3 hS hH sw hw
 rintro W ⟨m1,i1,v1,x1,q1,y1,o1⟩
 apply Lm;. kernel_rfl
 apply rV;. intros;apply ol;go_simp;exact gl
 apply rV;. intro w' hg _;apply ol;have z:=(y1.drew.grown hg).at0 4 rfl;go_simp;exact gl
 iterate 3 (apply rV;. intros;apply ol;go_simp;exact gl)
 apply rV;. intro w' hg _;apply ol;have z:=(i1.drew.grown hg).TM;go_simp;exact gl
 try simp only[pu,s0,s1]
 apply X8 (c:=.bool false);. intro w' hg _;apply ol;go_simp;exact⟨Grown.refl _,congrArg Value.bool (by rw[HO.out];rfl)⟩
 try simp only[pu,s0,s1]
 intro w7 hg _
 have m7:=m1.drew.below hg
 have i7:=i1.drew.grown hg
 have v7:=v1.dg hg
 have x7:=x1.drew.grown hg
 have q7:=q1.drew.grown hg
 have yh:=y1.drew.grown hg
 have o7:Only (L.and b) w w7:=o1.drew.trans (Only.ZZ hg)
 clear hg m1 i1 v1 x1 q1 y1 o1
 have kz:=yh.at0 1 rfl
 have k5:=i7.WX
 have k0:=i7.Zz
 have kf:=i7.fz
 obtain⟨y0,y1,y2,y3,y4,y5,y6,y7,y8⟩:=id v7
 have q8:=(q7.other bS.symm (o+5) (iV Z)).other bS.symm o (iV 2)
 have z0:=q8.at0 0 rfl
 go_wp2
 refine ZW (fun W=>Z8 W L ((s.by who).step A (s.wd A))/\ZK W b o T ((cs.setIfInBounds (o+5) (iV Z)).setIfInBounds o (iV 2)) { a with sz:=Z,nx:=2 }/\At W (w.heap.size+1) 0 173 #[iV x,iV G] [iV x,iV G]/\Only (L.and b) w W) ⟨(m7.ZX hb _ _).ZX hb _ _,(i7.SE Z).Zh 2,(x7.other Zj _ _).other Zj _ _,(o7.set _ _).set _ _⟩ ?_
 clear m7 i7 v7 x7 q7 yh o7 kz k5 k0 kf q8 z0 y0 y1 y2 y3 y4 y5 y6 y7 y8
 rintro W ⟨m1,i1,x1,o1⟩
 refine Y5 Grown 16 [.val (pP b o),.val (.pointer (some ⟨w.heap.size+1,0,none⟩)),.val (iV (x:Nat)),.val (pP b o),.val (pP b o),.val (pP b (o+3)),.val (.int .u64 a.se),.val (pP b o),.val (pP b o),.val (pP b (o+5)),.val (iV Z),.that (fun w' v=>∃ X,v=(pP X 0)/\At w' X 0 130 (Yr x a.se Z 0 0 false false false).toArray (Yr x a.se Z 0 0 false false false)) (fun _ _ _ hg h=>h.imp fun X k=>⟨k.1,k.2.grown hg⟩),.that (fun w' v=>∃ X,v=(pP X 0)/\At w' X 0 130 (Yr x a.se Z 0 0 false false false).toArray (Yr x a.se Z 0 0 false false false)) (fun _ _ _ hg h=>h.imp fun X k=>⟨k.1,k.2.grown hg⟩),.val (.agg #[iV x,.int .u64 a.se,iV Z,iV 0,.int .u64 0,.bool false,.bool false,.bool false]),.val (pP b o),.val (pP b (o+6))] (by kernel_rfl) Grown.refl Grown.trans (by decide) (by kernel_rfl) (by kernel_rfl) (by kernel_rfl) (by kernel_rfl) (by kernel_rfl) (by kernel_rfl) ?_
 simp only[List.take_succ_cons,List.take_zero,Zt,Act.put,List.setIfInBounds_toArray,List.set_cons_zero,List.set_cons_succ]
 refine⟨?_,?_,?_,?_,?_,?_,?_,?_,?_,?_,?_,?_,fun v1=>⟨?_,fun v2=>⟨?_,?_,?_,?_⟩⟩⟩
 . intros;apply ol;go_simp;exact gl
 . intros;apply ol;go_simp;exact gl
 . intro w' hg _;apply ol;have z:=(x1.drew.grown hg).at0 0 rfl;go_simp;exact gl
 . intros;apply ol;go_simp;exact gl
 . intros;apply ol;go_simp;exact gl
 . intros;apply ol;go_simp;exact gl
 . intro w' hg _;apply ol;have z:=(i1.drew.grown hg).Ya;go_simp;exact gl
 . intros;apply ol;go_simp;exact gl
 . intros;apply ol;go_simp;exact gl
 . intros;apply ol;go_simp;exact gl
 . intro w' hg _;apply ol;have z:=(i1.drew.grown hg).WX;go_simp;exact gl
 . intro w' hg _;apply ol;have q:=At.new w' 130 (Yr x a.se Z 0 0 false false false);go_simp;refine(Rz x a.se Z _).mono ?_;rintro e w'' ⟨rfl,rfl⟩;exact⟨_,rfl,ZY _ _,_,rfl,q⟩
 . intro w' hg hf
   apply ol
   obtain⟨X,rfl,q⟩:=hf.1 (by kernel_rfl)
   go_simp
   exact⟨Grown.refl _,X,rfl,q⟩
 . intro w' hg hf
   apply ol
   obtain⟨X,rfl,q⟩:=hf.1 (by kernel_rfl)
   have z0:=q.at0 0 rfl
   have z1:=q.at0 1 rfl
   have z2:=q.at0 2 rfl
   have z3:=q.at0 3 rfl
   have z4:=q.at0 4 rfl
   have z5:=q.at0 5 rfl
   have z6:=q.at0 6 rfl
   have z7:=q.at0 7 rfl
   go_simp
   exact gl
 . intros;apply ol;go_simp;exact gl
 . intros;apply ol;go_simp;exact gl
 intro w9 hg _
 have m10:=m1.drew.below hg
 have i10:=i1.drew.grown hg
 have oV:Only (L.and b) w w9:=o1.drew.trans (Only.ZZ hg)
 clear hg m1 i1 x1 o1
 obtain⟨l0,p0⟩:=i10.yZ
 obtain⟨l1,p1⟩:=i10.yY
 obtain⟨l2,p2⟩:=i10.yX
 obtain⟨l3,p3⟩:=i10.yV
 obtain⟨l4,p4⟩:=i10.yU
 obtain⟨l5,p5⟩:=i10.yT
 obtain⟨l6,p6⟩:=i10.yS
 obtain⟨l7,p7⟩:=i10.yR
 have kf:=i10.fz
 have k0:=i10.Zz
 go_wp2
 go_end0
 obtain⟨y0,y1,y2,y3,y4,y5,y6,y7,hl⟩:=len8 hi.X3
 exact⟨rfl,_,_,_,(((((((((m10.ZX hb _ _).ZX hb _ _).ZX hb _ _).ZX hb _ _).ZX hb _ _).ZX hb _ _).ZX hb _ _).ZX hb _ _).ZX hb _ _),(((((((((oV.set _ _).set _ _).set _ _).set _ _).set _ _).set _ _).set _ _).set _ _).set _ _),((((((((i10.IZ _).IY _).IX _).IW _).IV _).IU _).IQ _).IP _).Zh 3,(((((((((((Same.refl.set (by omega) _).set (by omega) _).set (by omega) _).set (by omega) _).set (by omega) _).set (by omega) _).set (by omega) _).set (by omega) _).set (by omega) _).set (by omega) _).set (by omega) _),rfl,by simp[hl,Yr]⟩
end Go.Proofs.YtpbghmeikcphnabGreat
