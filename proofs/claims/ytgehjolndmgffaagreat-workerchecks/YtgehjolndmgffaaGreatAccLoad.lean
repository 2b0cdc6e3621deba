import Derived.Test.YtgehjolndmgffaaGreatAccDo
namespace Go.Proofs.YtgehjolndmgffaaGreat
open Go.RowKit
set_option maxRecDepth 20000
def Gj (hb:Bool) (st V vr:Int) (fz:Bool) (nz:Int):Prop:=(hb=true/\nz=3)\/(hb=false/\st≠4/\((fz=false/\nz=6)\/(fz=true/\vr=V/\st=2/\nz=5)\/(fz=true/\(vr=V->st≠2)/\vr≥V/\nz=0)\/(fz=true/\¬ vr=V/\¬ vr≥V/\nz=6)))
set_option maxHeartbeats 1000000 in
theorem XD {w:World} {L:Loc} {s:Mm} {b o:Nat} {T:TypeId} {cs:Array Value} {t n k m:Nat} {g p r:Int} {a:CV} (h:Z8 w L s) (hb:¬ L.has b) (hi:ZG w b o T cs a) (who:Int) {x:Nat} {G:Int} {st:Int} {A:Nat} {Gs V:Int} (hs:YJ a.se st A Gs V) {j:Nat} (hix:a.ix=j) (j1:j<=16) (hn:(A+1+j)<s.n) {u z vr:Int} {fz:Bool} (hu:s.wd (A+1+j)=u) (hc:CellIs u z fz vr) {σ:Nat} (hσ:wrap64 (s.steps+1)=σ) {hb':Bool} (hr:(decide (a.kd=1) || a.QP z)=hb') {nz:Int} (H:Gj hb' st V vr fz nz) :
 Calls Tryz.prog 212 #[pP b o,eV t n k m g p r L.p who,.agg #[iV x,iV G]] w fun e w'=>e=.returned (.tuple #[])/\Vr L b o T cs w w' (fun s' a'=>s'=((s.by who).step (A+1+j) (s.wd (A+1+j)))/\a'={ a with ce:=u,ld:=σ,nx:=nz }):=by
 have HU:Hid (s.wd (A+1+j)=u):=hu
 have HS:Hid ((((s.by who).step (A+1+j) (s.wd (A+1+j)))).steps=σ):=hσ
 have HR:Hid ((decide (a.kd=1) || a.QP z)=hb'):=hr
 have HL:Hid (Gj hb' st V vr fz nz):=H
 have sw:=hs.call
 have cc:=hc.call
 have ab:(A:Int)<=1048575:=by have:=hs.ad;omega
 have HX:Hid (a.ix=j):=hix
 clear hu hs hc hσ hr hix H
 obtain⟨hbv,hbb⟩:=nb h hi.lt
 have YK:¬ L.has (w.heap.size+1):=fun hh=>by have:=h.lt _ hh;omega
 have YR:¬ w.heap.size+1=b:=fun hh=>by have:=hi.lt;omega
 have i0:=(hi.grown (ZZ _ (.cells #[iV t,iV n,iV k,iV m,iV g,iV p,iV r,pP L.p 0,iV who] 27))).grown (ZZ _ (.cells #[iV x,iV G] 213))
 have k3:=i0.WQ
 go_enter Tryz.func212,Tryz.ntmps212
 go_wp2_with (go_at_call 145;refine(sw _).mono ?_;rintro e w3 ⟨rfl,b3⟩)
 have q0:=At.new w3 108 [iV st,iV A,iV Gs,iV V]
 obtain⟨S,hS⟩:∃ S,w3.heap.size=S:=⟨_,rfl⟩
 have lS:¬ L.has S:=fun hh=>by have:=h.lt _ hh;have:=b3.size;simp only[Go.Deep.nblk_alloc] at this;omega
 have bS:S≠b:=by have:=hi.lt;have:=b3.size;simp only[Go.Deep.nblk_alloc] at this;omega
 rw[hS] at q0 ⊢
 refine ZT (fun W=>Z8 W L s/\ZG W b o T cs a/\ZP W w.heap.size t n k m g p r L.p who/\At W S 0 108 _ [iV st,iV A,iV Gs,iV V]/\Only (L.and b) w W) ⟨(((h.alloc _).alloc _).below b3).alloc _,(i0.grown b3).grown (ZZ _ _),((ZP.Xb _).grown b3).grown (ZZ _ _),q0,((((Only.refl _ _).alloc _).alloc _).trans (Only.Z5 b3)).alloc _⟩ ?_
 clear b3 i0 k3 sw q0 hS
 rintro W ⟨m1,i1,v1,q1,o1⟩
 apply QO (R:=ZO L b (o+10)) (D5 L b o T cs (cs.setIfInBounds (o+10) (.int .u64 u)) s ((s.by who).step (A+1+j) (s.wd (A+1+j))) a { a with ce:=u }) [5,8] MQ SL ⟨m1.drew,i1.drew⟩;. kernel_rfl
 apply pV;. intros;apply ol;go_simp;exact gl
 apply pV;. intro w' hR _;apply ol;have y:=(v1.dn hR.only hbv hbb).yy;go_simp;exact gl
 apply pV;. intros;apply ol;go_simp;exact gl
 apply pV;. intro w' hR _;apply ol;have z0:=(q1.drew.only hR.only (fun hh=>hh.elim lS bS)).at0 0 rfl;have z1:=(q1.drew.only hR.only (fun hh=>hh.elim lS bS)).at0 1 rfl;have z2:=(q1.drew.only hR.only (fun hh=>hh.elim lS bS)).at0 2 rfl;have z3:=(q1.drew.only hR.only (fun hh=>hh.elim lS bS)).at0 3 rfl;go_simp;exact gl
 apply pV (c:=iV (((A+1+j):Nat):Int));. intro w' hR _;apply ol;go_simp;refine(Vp st A Gs V j (hR.keep (j:=o+3) (by omega) (by have z:=i1.drew.OL;rwa [HX.out] at z)) (by omega) (by omega) (by omega) (by omega)).mono ?_;rintro e w'' ⟨rfl,b9⟩;exact⟨_,rfl,b9,congrArg (Value.int .i64) (by omega)⟩
 apply pV (c:=.int .u64 u);. intro w' hR _ hP;apply ol;go_simp;refine(Zj (s:=s) hP.1 _ _ _ _ _ _ _ _ (A+1+j) hn).mono ?_;rintro e w'' ⟨rfl,m2,o2⟩;exact⟨_,rfl,⟨ZO.Yq o2 hb,m2,hP.2.only o2 hb⟩,by simp[Want.pred,HU.out]⟩
 try simp only[pu,s0,s1]
 iterate 2 (apply pV;. intros;apply ol;go_simp;exact gl)
 apply OE;. intro w' hR _ hP;apply ol;have z0:=hP.2.Jt;have z1:=hP.2.fz;go_simp;exact⟨⟨ZO.set _ _,hP.1.ZY hb _ _,hP.2.Ak _⟩,trivial⟩
 try simp only[pu,s0,s1]
 try simp only[pn]
 intro vv w2 hR hP _
 obtain⟨m2,i2⟩:Z8 w2 L ((s.by who).step (A+1+j) (s.wd (A+1+j)))/\ZG w2 b o T (cs.setIfInBounds (o+10) (.int .u64 u)) { a with ce:=u }:=hP
 have o2:Only (L.and b) w w2:=o1.drew.trans hR.only
 have v2:=v1.dn hR.only hbv hbb
 have q2:=q1.drew.only hR.only (fun hh=>hh.elim lS bS)
 have s2:Same o 24 cs (cs.setIfInBounds (o+10) (.int .u64 u)):=Same.refl.set (by omega) _
 obtain⟨g0,g1,g2,g3,g4,g5,g6,g7,g8⟩:=id v2
 clear hR o1 v1 m1 i1 q1
 go_wp2_with (first
  | (go_at_call 11;refine(Yk m2 _ _ _ _ _ _ _ _ σ HS.out).mono ?_;rintro e w3 ⟨rfl,b3⟩;have i3:=i2.grown b3;have k8:=i3.yg;have kf:=i3.fz;have i4:=i3.Aj σ;have m4:=(m2.below b3).ZY hb (o+11) (iV σ);have q4:=(q2.grown b3).other bS (o+11) (iV σ);have o4:=(o2.trans (Only.Z5 b3)).set (o+11) (iV σ);have k7:(w3.setCell ⟨b,o+11,none⟩ (iV σ)).cell? ⟨b,o+10,none⟩=some (.int .u64 u):=i4.Jt)
  | (go_at_call 201;refine(cc _).mono ?_;rintro e w5 ⟨rfl,b5⟩;have i6:=(i4.grown b5).grown (ZZ _ (.cells #[iV z,.bool fz,iV vr] 244));have m6:=(m4.below b5).alloc (.cells #[iV z,.bool fz,iV vr] 244);have o6:=(o4.trans (Only.Z5 b5)).alloc (.cells #[iV z,.bool fz,iV vr] 244);have q6:=(q4.grown b5).grown (ZZ _ (.cells #[iV z,.bool fz,iV vr] 244));have c6:=At.new w5 244 [iV z,.bool fz,iV vr];have z0:=c6.at0 0 rfl;have z1:=c6.at0 1 rfl;have z2:=c6.at0 2 rfl))
 go_at_call 218
 refine(MO i6 z fz vr).mono ?_
 rintro e w7 ⟨rfl,b7⟩
 rw[show (decide (({ a with ce:=u,ld:=σ }:CV).kd=1) || ({ a with ce:=u,ld:=σ }:CV).QP z)=hb' from HR.out]
 have i7:=i6.grown b7
 have m7:=m6.below b7
 have o7:=o6.trans (Only.Z5 b7)
 have q7:=q6.grown b7
 have c7:=c6.grown b7
 have t0:=q7.at0 0 rfl
 have t3:=q7.at0 3 rfl
 have t1:=c7.at0 1 rfl
 have t2:=c7.at0 2 rfl
 have k0:=i7.Zr
 have lf:=i7.fz
 rcases HL.out with⟨rfl,rfl⟩ | ⟨rfl,h4,⟨rfl,rfl⟩ | ⟨rfl,rfl,rfl,rfl⟩ | ⟨rfl,hv,hge,rfl⟩ | ⟨rfl,hv,hge,rfl⟩⟩
 all_goals go_wp2
 all_goals
  go_end0
  exact⟨rfl,_,_,_,m7.ZY hb _ _,o7.set _ _,i7.Zl _,(s2.set (by omega) _).set (by omega) _,rfl,rfl⟩
end Go.Proofs.YtgehjolndmgffaaGreat
