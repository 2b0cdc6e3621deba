import Derived.Test.YtgehjolndmgffaaGreatAccLeaf
namespace Go.Proofs.YtgehjolndmgffaaGreat
open Go.RowKit
set_option maxRecDepth 20000
set_option maxHeartbeats 400000 in
theorem OG {w:World} {L:Loc} {s:Mm} {b o:Nat} {T:TypeId} {cs:Array Value} {t n k m:Nat} {g p r:Int} {a:CV} (h:Z8 w L s) (hb:¬ L.has b) (hi:ZG w b o T cs a) (who:Int) (hG:Good t n k m g p r) {x:Nat} {G:Int} (hx:x<n) (hn:(6+t+x * 2)<s.n) {v st:Int} {A:Nat} {Gs V:Int} (hv:s.wd (6+t+x * 2)=v) (hs:YJ v st A Gs V) {lv:Bool} (hl:(Y5 st && Gs == G)=lv) {σ:Nat} (hσ:wrap64 (s.steps+1)=σ) {ci:Int} {a0:CV} (H:(lv=true/\Zd t n k m A=ci/\0<=ci/\a0={ a with se:=v,at_:=σ,nx:=1 })\/(lv=false/\a0={ a with se:=v,at_:=σ,nx:=7,E:=3,H:=0,V:=0,St:=σ })) :
 Calls Tryz.prog 210 #[pP b o,eV t n k m g p r L.p who,.agg #[iV x,iV G]] w fun e w'=>e=.returned (.tuple #[])/\Vr L b o T cs w w' (fun s' a'=>s'=((s.by who).step (6+t+x * 2) (s.wd (6+t+x * 2)))/\a'=a0):=by
 have HU:Hid (s.wd (6+t+x * 2)=v):=hv
 have HS:Hid ((((s.by who).step (6+t+x * 2) (s.wd (6+t+x * 2)))).steps=σ):=hσ
 have sw:=hs.call
 have hs1:=hG.s1
 have ab:(A:Int)<=1048575:=by have:=hs.ad;omega
 have dl:=fun w=>Um st A Gs V x G w
 rw[hl] at dl
 clear hv hs hl hσ
 obtain⟨hbv,hbb⟩:=nb h hi.lt
 have YK:¬ L.has (w.heap.size+1):=fun hh=>by have:=h.lt _ hh;omega
 have YR:¬ w.heap.size+1=b:=fun hh=>by have:=hi.lt;omega
 go_enter Tryz.func210,Tryz.ntmps210
 go_wp2
 refine ZT (fun W=>Z8 W L s/\ZG W b o T cs a/\ZP W w.heap.size t n k m g p r L.p who/\At W (w.heap.size+1) 0 213 #[iV x,iV G] [iV x,iV G]/\Only (L.and b) w W) ⟨(h.alloc _).alloc _,(hi.grown (ZZ _ _)).grown (ZZ _ _),ZP.Xb _,At.Xo _ _ _ _,((Only.refl _ _).alloc _).alloc _⟩ ?_
 rintro W ⟨m1,i1,v1,x1,o1⟩
 apply QO (R:=ZO L b (o+7)) (D5 L b o T cs (cs.setIfInBounds (o+7) (.int .u64 v)) s ((s.by who).step (6+t+x * 2) (s.wd (6+t+x * 2))) a { a with se:=v }) [7,10] MQ SL ⟨m1.drew,i1.drew⟩;. kernel_rfl
 apply pV;. intros;apply ol;go_simp;exact gl
 apply pV;. intro w' hR _;apply ol;have y:=(v1.dn hR.only hbv hbb).yy;go_simp;exact gl
 apply pV;. intros;apply ol;go_simp;exact gl
 apply pV;. intro w' hR _;apply ol;have y:=(v1.dn hR.only hbv hbb).yy;go_simp;exact gl
 apply pV;. intros;apply ol;go_simp;exact gl
 apply pV;. intro w' hR _;apply ol;have z:=(x1.drew.only hR.only (fun hh=>hh.elim YK YR)).at0 0 rfl;go_simp;exact gl
 try simp only[pu,s0,s1]
 apply pV (c:=iV (((6+t+x * 2):Nat):Int));. intro w' hR _;apply ol;go_simp;refine(Y4 _ _ _ _ _ _ _ (x:Int) _ hG.arena (by omega) (by omega)).mono ?_;rintro e w'' ⟨rfl,b9⟩;exact⟨_,rfl,b9,congrArg (Value.int .i64) (by omega)⟩
 apply pV (c:=.int .u64 v);. intro w' hR _ hP;apply ol;go_simp;refine(Zj (s:=s) hP.1 _ _ _ _ _ _ _ _ (6+t+x * 2) hn).mono ?_;rintro e w'' ⟨rfl,m2,o2⟩;exact⟨_,rfl,⟨ZO.Yq o2 hb,m2,hP.2.only o2 hb⟩,by simp[Want.pred,HU.out]⟩
 iterate 2 (apply pV;. intros;apply ol;go_simp;exact gl)
 apply OE;. intro w' hR _ hP;apply ol;have z0:=hP.2.WQ;have z1:=hP.2.fz;go_simp;exact⟨⟨ZO.set _ _,hP.1.ZY hb _ _,hP.2.MV _⟩,trivial⟩
 try simp only[pu,s0,s1]
 try simp only[pn]
 intro vv w2 hR hP _
 obtain⟨m2,i2⟩:Z8 w2 L ((s.by who).step (6+t+x * 2) (s.wd (6+t+x * 2)))/\ZG w2 b o T (cs.setIfInBounds (o+7) (.int .u64 v)) { a with se:=v }:=hP
 have o2:Only (L.and b) w w2:=o1.drew.trans hR.only
 have x2:=x1.drew.only hR.only (fun hh=>hh.elim YK YR)
 have v2:=v1.dn hR.only hbv hbb
 have s2:Same o 24 cs (cs.setIfInBounds (o+7) (.int .u64 v)):=Same.refl.set (by omega) _
 obtain⟨g0,g1,g2,g3,g4,g5,g6,g7,g8⟩:=id v2
 clear hR o1 v1 m1 i1 x1
 go_wp2_with (first
  | (go_at_call 11;refine(Yk m2 _ _ _ _ _ _ _ _ σ HS.out).mono ?_;rintro e w3 ⟨rfl,b3⟩;have i3:=i2.grown b3;have k8:=i3.J4;have kf:=i3.fz;have i4:=i3.D6 σ;have m4:=(m2.below b3).ZY hb (o+8) (iV σ);have x4:=(x2.grown b3).other YR (o+8) (iV σ);have v4:=(v2.grown b3).ZY hbb (o+8) (iV σ);have o4:=(o2.trans (Only.Z5 b3)).set (o+8) (iV σ);have k7:(w3.setCell ⟨b,o+8,none⟩ (iV σ)).cell? ⟨b,o+7,none⟩=some (.int .u64 v):=i4.WQ)
  | (go_at_call 145;refine(sw _).mono ?_;rintro e w5 ⟨rfl,b5⟩;have i6:=(i4.grown b5).grown (ZZ _ (.cells #[iV st,iV A,iV Gs,iV V] 108));have x6:=(x4.grown b5).grown (ZZ _ (.cells #[iV st,iV A,iV Gs,iV V] 108));have v6:=(v4.grown b5).grown (ZZ _ (.cells #[iV st,iV A,iV Gs,iV V] 108));have m6:=(m4.below b5).alloc (.cells #[iV st,iV A,iV Gs,iV V] 108);have o6:=(o4.trans (Only.Z5 b5)).alloc (.cells #[iV st,iV A,iV Gs,iV V] 108);have q6:=At.new w5 108 [iV st,iV A,iV Gs,iV V];have z0:=q6.at0 0 rfl;have z1:=q6.at0 1 rfl;have z2:=q6.at0 2 rfl;have z3:=q6.at0 3 rfl;have u0:=x6.at0 0 rfl;have u1:=x6.at0 1 rfl))
 go_at_call 190
 refine(dl _).mono ?_
 rintro e w7 ⟨rfl,b7⟩
 have i7:=i6.grown b7
 have m7:=m6.below b7
 have v7:=v6.grown b7
 have o7:=o6.trans (Only.Z5 b7)
 have q7:=q6.grown b7
 have l1:=q7.at0 1 rfl
 obtain⟨e0,e1,e2,e3,e4,e5,e6,e7,e8⟩:=id v7
 have l8:w7.cell? ⟨b,o+8,none⟩=some (iV σ):=i7.J4
 rcases H with⟨rfl,hci,hc0,rfl⟩ | ⟨rfl,rfl⟩
 . have Gp:=fun w=>VO hG (A:Int) (by omega) w
   rw[hci] at Gp
   clear hci
   go_wp2_with (go_at_call 189;refine(Gp _).mono ?_;rintro e w8 ⟨rfl,b8⟩;have i8:=i7.grown b8;have m8:=m7.below b8;have l0:=i8.Zr;have lf:=i8.fz)
   go_end0
   exact⟨rfl,_,_,_,m8.ZY hb _ _,(o7.trans (Only.Z5 b8)).set _ _,i8.Zl 1,(s2.set (by omega) _).set (by omega) _,rfl,rfl⟩
 . go_wp2_with (go_at_call 207;refine(OH m7 hb i7 3 0 σ).mono ?_;rintro e w8 ⟨rfl,s8,yD,a8,m8,o8,i8,q8,rfl,rfl⟩)
   refine bodyPost_ret (results_none rfl _ _ _) rfl ?_
   exact⟨rfl,_,_,_,m8,o7.trans o8,i8,(s2.set (by omega) _).trans q8,rfl,rfl⟩
set_option maxHeartbeats 1000000 in
theorem SI {w:World} {L:Loc} {s:Mm} {b o:Nat} {T:TypeId} {cs:Array Value} {t n k m:Nat} {g p r:Int} {a:CV} (h:Z8 w L s) (hb:¬ L.has b) (hi:ZG w b o T cs a) (who:Int) {st:Int} {A:Nat} {Gs V:Int} (hs:YJ a.se st A Gs V) (hn:A<s.n) {u kd Z sl gn:Int} {ow:Bool} (hu:s.wd A=u) (hh:Ul u kd Z sl gn ow) {oo hh0:Bool} (ho:(ow == a.own)=oo) (hc:oo=true->∀ (w1:World) (c1:Array Value),ZG w1 b o T c1 { a with sz:=Z }->Calls Tryz.prog 216 #[pP b o,.agg #[iV t,iV n,iV k,iV m,iV g,iV p,iV r],iV A] w1 fun e w'=>e=.returned (.bool hh0)/\Below w1.heap.size w1 w') {σ:Nat} (hσ:wrap64 (s.steps+1)=σ) {a0:CV} (H:(oo=false/\a0={ a with sz:=Z,nx:=7,E:=3,H:=0,V:=0,St:=σ })\/(oo=true/\hh0=false/\a0={ a with sz:=Z,nx:=7,E:=4,H:=0,V:=0,St:=a.at_ })\/(oo=true/\hh0=true/\a0={ a with sz:=Z,nx:=2 })) :
 Calls Tryz.prog 211 #[pP b o,eV t n k m g p r L.p who] w fun e w'=>e=.returned (.tuple #[])/\Vr L b o T cs w w' (fun s' a'=>s'=((s.by who).step A (s.wd A))/\a'=a0):=by
 have HU:Hid (s.wd A=u):=hu
 have HO:Hid ((ow == a.own)=oo):=ho
 have sw:=hs.call
 have hw:=hh.call
 have HS:Hid ((((s.by who).step A (s.wd A))).steps=σ):=hσ
 clear hσ
 clear hu hs hh ho
 obtain⟨hbv,hbb⟩:=nb h hi.lt
 have i0:=hi.grown (ZZ _ (.cells #[iV t,iV n,iV k,iV m,iV g,iV p,iV r,pP L.p 0,iV who] 27))
 have k3:=i0.WQ
 go_enter Tryz.func211,Tryz.ntmps211
 go_wp2_with (first
  | (go_at_call 145;refine(sw _).mono ?_;rintro e w3 ⟨rfl,b3⟩;have i3:=(i0.grown b3).grown (ZZ _ (.cells #[iV st,iV A,iV Gs,iV V] 108));have v3:=(ZP.new.grown b3).grown (ZZ _ (.cells #[iV st,iV A,iV Gs,iV V] 108));have m3:=((h.alloc _).below b3).alloc (.cells #[iV st,iV A,iV Gs,iV V] 108);have o3:Only (L.and b) w (w3.alloc (.cells #[iV st,iV A,iV Gs,iV V] 108)):=(((Only.refl _ _).alloc _).trans (Only.Z5 b3)).alloc (.cells #[iV st,iV A,iV Gs,iV V] 108);have q3:=At.new w3 108 [iV st,iV A,iV Gs,iV V];obtain⟨e0,e1,e2,e3,e4,e5,e6,e7,e8⟩:=id v3;have q0:=q3.at0 1 rfl)
  | (go_at_call 126;refine(Zj m3 _ _ _ _ _ _ _ _ A hn).mono ?_;rintro e w5 ⟨rfl,m5,o5⟩;rw[HU.out])
  | (go_at_call 191;refine(hw _).mono ?_;rintro e w6 ⟨rfl,b6⟩;have i6:=((i3.only o5 hb).grown b6).grown (ZZ _ (.cells #[iV kd,iV Z,iV sl,iV gn,.bool ow] 147));have y0:=At.new w6 147 [iV kd,iV Z,iV sl,iV gn,.bool ow];have k1:=y0.at0 1 rfl;have k9:=i6.WO;have kf:=i6.fz))
 obtain⟨S,hS⟩:∃ S,w3.heap.size=S:=⟨_,rfl⟩
 obtain⟨Hh,hH⟩:∃ Hh,w6.heap.size=Hh:=⟨_,rfl⟩
 have lS:¬ L.has S:=fun hh=>by have:=h.lt _ hh;have:=b3.size;simp only[Go.Deep.nblk_alloc] at this;omega
 have bS:S≠b:=by have:=hi.lt;have:=b3.size;simp only[Go.Deep.nblk_alloc] at this;omega
 have bH:Hh≠b:=by have:=hi.lt;have:=b3.size;have:=o5.size;have:=b6.size;simp only[Go.Deep.nblk_alloc] at *;omega
 rw[hS] at q3 ⊢
 rw[hH] at y0 ⊢
 refine ZT (fun W=>Z8 W L ((s.by who).step A (s.wd A))/\ZG W b o T (cs.setIfInBounds (o+9) (iV Z)) { a with sz:=Z }/\ZP W w.heap.size t n k m g p r L.p who/\At W S 0 108 _ [iV st,iV A,iV Gs,iV V]/\At W Hh 0 147 _ [iV kd,iV Z,iV sl,iV gn,.bool ow]/\Only (L.and b) w W) ⟨((m5.below b6).alloc _).ZY hb _ _,i6.P5 Z,(((v3.only o5 hbv).grown b6).grown (ZZ _ _)).ZY hbb _ _,(((q3.only o5 lS).grown b6).grown (ZZ _ _)).other bS _ _,y0.other bH _ _,(((o3.trans (o5.XH (b:=b))).trans (Only.Z5 b6)).alloc _).set _ _⟩ ?_
 clear b3 b6 m3 m5 o5 o3 q3 q0 y0 i3 i6 v3 i0 k3 k1 k9 kf hS hH sw hw
 rintro W ⟨m1,i1,v1,q1,y1,o1⟩
 apply yE;. kernel_rfl
 apply rV;. intros;apply ol;go_simp;exact gl
 apply rV;. intro w' hg _;apply ol;have z:=(y1.drew.grown hg).at0 4 rfl;go_simp;exact gl
 iterate 3 (apply rV;. intros;apply ol;go_simp;exact gl)
 apply rV;. intro w' hg _;apply ol;have z:=(i1.drew.grown hg).QF;go_simp;exact gl
 try simp only[pu,s0,s1]
 apply rV (c:=.bool !oo);. intro w' hg _;apply ol;go_simp;exact⟨Grown.refl _,congrArg Value.bool (by rw[HO.out] <;> rfl)⟩
 apply XW;. intros;apply ol;go_simp;exact gl
 try simp only[pu,s0,s1]
 intro w7 hg _
 have m7:=m1.drew.below hg
 have i7:=i1.drew.grown hg
 have v7:=v1.dg hg
 have q7:=q1.drew.grown hg
 have o7:Only (L.and b) w w7:=o1.drew.trans (Only.Z5 hg)
 have s7:Same o 24 cs (cs.setIfInBounds (o+9) (iV Z)):=Same.refl.set (by omega) _
 clear hg m1 i1 v1 q1 y1 o1
 have kA:=q7.at0 1 rfl
 obtain⟨y0,y1,y2,y3,y4,y5,y6,y7,y8⟩:=id v7
 rcases H with⟨rfl,rfl⟩ | ⟨rfl,rfl,rfl⟩ | ⟨rfl,rfl,rfl⟩
 . go_wp2_with (first
    | (go_at_call 11;refine(Yk m7 _ _ _ _ _ _ _ _ σ HS.out).mono ?_;rintro e w8 ⟨rfl,b8⟩)
    | (go_at_call 207;refine(OH (m7.below b8) hb (i7.grown b8) 3 0 σ).mono ?_;rintro e w9 ⟨rfl,s9,vF,a9,m9,o9,i9,q9,rfl,rfl⟩))
   go_end0
   exact⟨rfl,_,_,_,m9,(o7.trans (Only.Z5 b8)).trans o9,i9,s7.trans q9,rfl,rfl⟩
 . go_wp2_with (first
    | (go_at_call 216;refine(hc rfl _ _ i7).mono ?_;rintro e w8 ⟨rfl,b8⟩;have i8:=i7.grown b8;have m8:=m7.below b8;have k8:w8.cell? ⟨b,o+8,none⟩=some (iV a.at_):=i8.J4;have k0:=i8.Zr;have kf:=i8.fz)
    | (go_at_call 207;refine(OH m8 hb i8 4 0 a.at_).mono ?_;rintro e w9 ⟨rfl,s9,vF,a9,m9,o9,i9,q9,rfl,rfl⟩))
   go_end0
   exact⟨rfl,_,_,_,m9,(o7.trans (Only.Z5 b8)).trans o9,i9,s7.trans q9,rfl,rfl⟩
 . go_wp2_with (go_at_call 216;refine(hc rfl _ _ i7).mono ?_;rintro e w8 ⟨rfl,b8⟩;have i8:=i7.grown b8;have m8:=m7.below b8;have k8:w8.cell? ⟨b,o+8,none⟩=some (iV a.at_):=i8.J4;have k0:=i8.Zr;have kf:=i8.fz)
   go_end0
   exact⟨rfl,_,_,_,m8.ZY hb _ _,(o7.trans (Only.Z5 b8)).set _ _,i8.Zl 2,s7.set (by omega) _,rfl,rfl⟩
end Go.Proofs.YtgehjolndmgffaaGreat
