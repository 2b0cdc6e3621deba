import Derived.Test.YtgehjolndmgffaaGreatAccDo
namespace Go.Proofs.YtgehjolndmgffaaGreat
open Go.RowKit
set_option maxHeartbeats 1000000
set_option maxRecDepth 20000
theorem Js {w:World} {L:Loc} {s:Mm} {b o:Nat} {T:TypeId} {cs:Array Value} {t n k m:Nat} {g p r:Int} {a:CV} (h:Z8 w L s) (hb:¬ L.has b) (hi:ZG w b o T cs a) (who:Int) (hG:Good t n k m g p r) {x:Nat} {G:Int} (hx:x<n) (hn:(6+t+x * 2)<s.n) {st:Int} {A:Nat} {Gs V:Int} (hs:YJ a.se st A Gs V) :
 Calls Tryz.prog 214 #[pP b o,eV t n k m g p r L.p who,.agg #[iV x,iV G]] w fun e w'=>e=.returned (.tuple #[])/\Vr L b o T cs w w' (fun s' a'=>s'=((s.by who).Wq (6+t+x * 2) a.se (Zq 1 A Gs (V+1)))/\a'={ a with nx:=0 }):=by
 have sw:=hs.call
 have hs1:=hG.s1
 have ab:(A:Int)<=1048575:=by have:=hs.ad;omega
 have gb:0<=Gs/\Gs<=65535:=by have:=hs.gn;omega
 have vb:0<=V/\V<=4194303:=by have:=hs.vr;omega
 have ps:=fun w=>Yo 1 A Gs (V+1) w ⟨by omega,by omega⟩ ⟨by omega,by omega⟩ ⟨by omega,by omega⟩ ⟨by omega,by omega⟩
 have hvw:IntKind.i64.wrap (V+1)=V+1:=by rw[IntKind.wrap_i64];omega
 clear hs
 obtain⟨hbv,hbb⟩:=nb h hi.lt
 have YK:¬ L.has (w.heap.size+1):=fun hh=>by have:=h.lt _ hh;omega
 have YR:¬ w.heap.size+1=b:=fun hh=>by have:=hi.lt;omega
 have i0:=(hi.grown (ZZ _ (.cells #[iV t,iV n,iV k,iV m,iV g,iV p,iV r,pP L.p 0,iV who] 27))).grown (ZZ _ (.cells #[iV x,iV G] 213))
 have k3:=i0.WQ
 go_enter Tryz.func214,Tryz.ntmps214
 go_wp2_with (go_at_call 145;refine(sw _).mono ?_;rintro e w3 ⟨rfl,b3⟩;have q3:=At.new w3 108 [iV st,iV A,iV Gs,iV V];have z0:=q3.at0 0 rfl;have z3:=(q3.ZQ 0 (iV 1)).at0 3 rfl)
 have q0:=At.new w3 108 [iV 1,iV A,iV Gs,iV (V+1)]
 refine ZT (fun W=>Z8 W L s/\ZG W b o T cs a/\ZP W w.heap.size t n k m g p r L.p who/\At W (w.heap.size+1) 0 213 #[iV x,iV G] [iV x,iV G]/\At W w3.heap.size 0 108 _ [iV 1,iV A,iV Gs,iV (V+1)]/\Only (L.and b) w W) ⟨(((h.alloc _).alloc _).below b3).alloc _,(i0.grown b3).grown (ZZ _ _),((ZP.Xb _).grown b3).grown (ZZ _ _),((At.Xo _ _ _ [iV (x:Nat),iV G]).grown b3).grown (ZZ _ _),q0,((((Only.refl _ _).alloc _).alloc _).trans (Only.Z5 b3)).alloc _⟩ ?_
 clear b3 i0 k3 sw q0 q3 z0 z3
 rintro W ⟨m1,i1,v1,x1,q1,o1⟩
 apply Xy 12;. kernel_rfl
 apply rV;. intro w' hg _;apply ol;have y:=(v1.dg hg).yy;go_simp;exact gl
 apply rV;. intros;apply ol;go_simp;exact gl
 apply rV;. intro w' hg _;apply ol;have y:=(v1.dg hg).yy;go_simp;exact gl
 apply rV;. intros;apply ol;go_simp;exact gl
 apply rV;. intro w' hg _;apply ol;have z:=(x1.drew.grown hg).at0 0 rfl;go_simp;exact gl
 apply rV (c:=iV (((6+t+x * 2):Nat):Int));. intro w' hg _;apply ol;go_simp;refine(Y4 _ _ _ _ _ _ _ (x:Int) _ hG.arena (by omega) (by omega)).mono ?_;rintro e w'' ⟨rfl,b9⟩;exact⟨_,rfl,b9,congrArg (Value.int .i64) (by omega)⟩
 try simp only[pu,s0,s1]
 iterate 3 (apply rV;. intros;apply ol;go_simp;exact gl)
 apply rV;. intro w' hg _;apply ol;have z:=(i1.drew.grown hg).WQ;go_simp;exact gl
 apply rV;. intro w' hg _;apply ol;have z0:=(q1.drew.grown hg).at0 0 rfl;have z1:=(q1.drew.grown hg).at0 1 rfl;have z2:=(q1.drew.grown hg).at0 2 rfl;have z3:=(q1.drew.grown hg).at0 3 rfl;go_simp;exact gl
 apply XW;. intro w' hg _;apply ol;go_simp;exact cb (ps _)
 try simp only[pu,s0,s1]
 intro w7 hg _
 have m7:=m1.drew.below hg
 have i7:=i1.drew.grown hg
 have o7:Only (L.and b) w w7:=o1.drew.trans (Only.Z5 hg)
 clear hg m1 i1 v1 x1 q1 o1
 go_wp2_with (go_at_call 170;refine(Yj m7 _ _ _ _ _ _ _ _ (6+t+x * 2) hn _ _).mono ?_;rintro e w8 ⟨rfl,m8,o8⟩;have i8:=i7.only o8 hb;have k0:=i8.Zr;have kf:=i8.fz)
 go_end0
 exact⟨rfl,_,_,_,m8.ZY hb _ _,(o7.trans (o8.XH (b:=b))).set _ _,i8.Zl 0,Same.refl.set (by omega) _,rfl,rfl⟩
theorem DZ {w:World} {L:Loc} {s:Mm} {b o:Nat} {T:TypeId} {cs:Array Value} {t n k m:Nat} {g p r:Int} {a:CV} (h:Z8 w L s) (hb:¬ L.has b) (hi:ZG w b o T cs a) (who:Int) {st:Int} {A:Nat} {Gs V:Int} (hs:YJ a.se st A Gs V) {j:Nat} (hix:a.ix=j) (j1:j<=16) (hn:(A+1+j)<s.n) {vl:Int} (hvl:a.vl=vl) (fv:Fit vl) (hd:decide (s.wd (A+1+j)=a.ce)=false)  :
 Calls Tryz.prog 215 #[pP b o,eV t n k m g p r L.p who] w fun e w'=>e=.returned (.tuple #[])/\Vr L b o T cs w w' (fun s' a'=>s'=((s.by who).Wq (A+1+j) a.ce (XU vl false 0))/\a'={ a with nx:=0 }):=by
 have HD:Hid (decide (s.wd (A+1+j)=a.ce)=false):=hd
 have HX:Hid (a.ix=j):=hix
 have sw:=hs.call
 have ab:(A:Int)<=1048575:=by have:=hs.ad;omega
 have pc:=fun w=>Wp vl false 0 w fv ⟨by decide,by decide⟩
 clear hd hs hix
 obtain⟨hbv,hbb⟩:=nb h hi.lt
 have i0:=hi.grown (ZZ _ (.cells #[iV t,iV n,iV k,iV m,iV g,iV p,iV r,pP L.p 0,iV who] 27))
 have k3:=i0.yj
 rw[hvl] at k3
 go_enter Tryz.func215,Tryz.ntmps215
 go_wp2_with (go_at_call 203;refine(pc _).mono ?_;rintro e w3 ⟨rfl,b3⟩)
 refine ZT (fun W=>Z8 W L s/\ZG W b o T cs a/\ZP W w.heap.size t n k m g p r L.p who/\Only (L.and b) w W) ⟨(h.alloc _).below b3,i0.grown b3,ZP.new.grown b3,((Only.refl _ _).alloc _).trans (Only.Z5 b3)⟩ ?_
 clear b3 i0 k3 pc
 rintro W ⟨m1,i1,v1,o1⟩
 apply Xy 13;. kernel_rfl
 apply rV;. intro w' hg _;apply ol;have y:=(v1.dg hg).yy;go_simp;exact gl
 iterate 4 (apply rV;. intros;apply ol;go_simp;exact gl)
 apply rV;. intro w' hg _;apply ol;have z:=(i1.drew.grown hg).WQ;go_simp;exact gl
 try simp only[pu,s0,s1]
 apply rV;. intro w' hg _;apply ol;go_simp;exact cb (sw _)
 apply rV (c:=iV (((A+1+j):Nat):Int));. intro w' hg _;apply ol;go_simp;refine(Vp st A Gs V j (by have z:=(i1.drew.grown hg).OL;rwa [HX.out] at z) (by omega) (by omega) (by omega) (by omega)).mono ?_;rintro e w'' ⟨rfl,b9⟩;exact⟨_,rfl,b9,congrArg (Value.int .i64) (by omega)⟩
 iterate 3 (apply rV;. intros;apply ol;go_simp;exact gl)
 apply rV;. intro w' hg _;apply ol;have z:=(i1.drew.grown hg).Jt;go_simp;exact gl
 try simp only[pu,s0,s1]
 apply XW;. intros;apply ol;go_simp;exact gl
 try simp only[pu,s0,s1]
 intro w5 hg _
 have m5:=m1.drew.below hg
 have i5:=i1.drew.grown hg
 have v5:=v1.dg hg
 have o5:=o1.og hg
 clear hg m1 i1 v1 o1 sw
 go_wp2_with (go_at_call 170;refine(Yj m5 _ _ _ _ _ _ _ _ (A+1+j) hn _ _).mono ?_;rintro e w6 ⟨rfl,m6,o6⟩;rw[HD.out];have i6:=i5.only o6 hb;have k0:=i6.Zr;have kf:=i6.fz)
 refine bodyPost_ret (results_none rfl _ _ _) rfl ?_
 exact⟨rfl,_,_,_,m6.ZY hb _ _,(o5.trans (o6.XH (b:=b))).set _ _,i6.Zl 0,Same.refl.set (by omega) _,rfl,rfl⟩
theorem Gn {w:World} {L:Loc} {s:Mm} {b o:Nat} {T:TypeId} {cs:Array Value} {t n k m:Nat} {g p r:Int} {a:CV} (h:Z8 w L s) (hb:¬ L.has b) (hi:ZG w b o T cs a) (who:Int) {st:Int} {A:Nat} {Gs V:Int} (hs:YJ a.se st A Gs V) {j:Nat} (hix:a.ix=j) (j1:j<=16) (hn:(A+1+j)<s.n) {vl:Int} (hvl:a.vl=vl) (fv:Fit vl) (hd:decide (s.wd (A+1+j)=a.ce)=true) {z vr:Int} {fz:Bool} (hc:CellIs a.ce z fz vr) {σ:Nat} (hσ:wrap64 (s.steps+1)=σ) :
 Calls Tryz.prog 215 #[pP b o,eV t n k m g p r L.p who] w fun e w'=>e=.returned (.tuple #[])/\Vr L b o T cs w w' (fun s' a'=>s'=((s.by who).Wq (A+1+j) a.ce (XU vl false 0))/\a'={ a with nx:=7,E:=0,H:=0,V:=z,St:=σ }):=by
 have HD:Hid (decide (s.wd (A+1+j)=a.ce)=true):=hd
 have HX:Hid (a.ix=j):=hix
 have sw:=hs.call
 have ab:(A:Int)<=1048575:=by have:=hs.ad;omega
 have pc:=fun w=>Wp vl false 0 w fv ⟨by decide,by decide⟩
 have cc:=hc.call
 have HS:Hid ((((s.by who).Wq (A+1+j) a.ce (XU vl false 0))).steps=σ):=by
  unfold Hid
  rw[<- hσ]
  show (Mm.Wq _ _ _ _).steps=_
  unfold Mm.Wq
  split <;> rfl
 have ff:∀ (a1 a2 a3:Value) (w:World),(Instr.field 244 (.agg #[a1,a2,a3]) 0).run Tryz.prog w=.ok a1 w:=fun a1 a2 a3 w=>by kernel_rfl
 clear hc hσ
 clear hd hs hix
 obtain⟨hbv,hbb⟩:=nb h hi.lt
 have i0:=hi.grown (ZZ _ (.cells #[iV t,iV n,iV k,iV m,iV g,iV p,iV r,pP L.p 0,iV who] 27))
 have k3:=i0.yj
 rw[hvl] at k3
 go_enter Tryz.func215,Tryz.ntmps215
 go_wp2_with (go_at_call 203;refine(pc _).mono ?_;rintro e w3 ⟨rfl,b3⟩)
 refine ZT (fun W=>Z8 W L s/\ZG W b o T cs a/\ZP W w.heap.size t n k m g p r L.p who/\Only (L.and b) w W) ⟨(h.alloc _).below b3,i0.grown b3,ZP.new.grown b3,((Only.refl _ _).alloc _).trans (Only.Z5 b3)⟩ ?_
 clear b3 i0 k3 pc
 rintro W ⟨m1,i1,v1,o1⟩
 apply Xy 13;. kernel_rfl
 apply rV;. intro w' hg _;apply ol;have y:=(v1.dg hg).yy;go_simp;exact gl
 iterate 4 (apply rV;. intros;apply ol;go_simp;exact gl)
 apply rV;. intro w' hg _;apply ol;have z:=(i1.drew.grown hg).WQ;go_simp;exact gl
 try simp only[pu,s0,s1]
 apply rV;. intro w' hg _;apply ol;go_simp;exact cb (sw _)
 apply rV (c:=iV (((A+1+j):Nat):Int));. intro w' hg _;apply ol;go_simp;refine(Vp st A Gs V j (by have z:=(i1.drew.grown hg).OL;rwa [HX.out] at z) (by omega) (by omega) (by omega) (by omega)).mono ?_;rintro e w'' ⟨rfl,b9⟩;exact⟨_,rfl,b9,congrArg (Value.int .i64) (by omega)⟩
 iterate 3 (apply rV;. intros;apply ol;go_simp;exact gl)
 apply rV;. intro w' hg _;apply ol;have z:=(i1.drew.grown hg).Jt;go_simp;exact gl
 try simp only[pu,s0,s1]
 apply XW;. intros;apply ol;go_simp;exact gl
 try simp only[pu,s0,s1]
 intro w5 hg _
 have m5:=m1.drew.below hg
 have i5:=i1.drew.grown hg
 have v5:=v1.dg hg
 have o5:=o1.og hg
 clear hg m1 i1 v1 o1 sw
 go_wp2_with (go_at_call 170;refine(Yj m5 _ _ _ _ _ _ _ _ (A+1+j) hn _ _).mono ?_;rintro e w6 ⟨rfl,m6,o6⟩;rw[HD.out];have i6:=i5.only o6 hb;have k0:=i6.Zr;have kf:=i6.fz)
 refine ZT (fun W=>Z8 W L ((s.by who).Wq (A+1+j) a.ce (XU vl false 0))/\ZG W b o T cs a/\ZP W w.heap.size t n k m g p r L.p who/\Only (L.and b) w W) ⟨m6,i6,v5.only o6 hbv,o5.trans (o6.XH (b:=b))⟩ ?_
 clear m5 i5 v5 o5 m6 i6 o6 k0 kf
 rintro W ⟨m1,i1,v1,o1⟩
 apply Xy 9;. kernel_rfl
 iterate 4 (apply rV;. intros;apply ol;go_simp;exact gl)
 apply rV;. intro w' hg _;apply ol;have z:=(i1.drew.grown hg).Jt;go_simp;exact gl
 apply rV;. intro w' hg _;apply ol;go_simp;exact cb (cc _)
 try simp only[pu,s0,s1]
 apply rV;. intros;apply ol;go_simp;exact gl
 apply rV;. intro w' hg _;apply ol;have y:=(v1.dg hg).yy;go_simp;exact gl
 apply XW;. intro w' hg _;apply ol;go_simp;exact cb (Yk (m1.drew.below hg) _ _ _ _ _ _ _ _ σ HS.out)
 try simp only[pu,s0,s1]
 intro w7 hg _
 have m7:=m1.drew.below hg
 have i7:=i1.drew.grown hg
 have o7:Only (L.and b) w w7:=o1.drew.trans (Only.Z5 hg)
 clear hg m1 i1 v1 o1
 go_wp2_with (go_at_call 207;refine(OH m7 hb i7 0 z σ).mono ?_;rintro e w9 ⟨rfl,s9,vF,a9,m9,o9,i9,q9,rfl,rfl⟩)
 go_end0
 exact⟨rfl,_,_,_,m9,o7.trans o9,i9,q9,rfl,rfl⟩
end Go.Proofs.YtgehjolndmgffaaGreat
