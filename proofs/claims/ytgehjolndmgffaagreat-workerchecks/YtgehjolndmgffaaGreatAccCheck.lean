import Derived.Test.YtgehjolndmgffaaGreatAccDo
import Derived.Test.YtgehjolndmgffaaGreatDropGo
namespace Go.Proofs.YtgehjolndmgffaaGreat
open Go.RowKit
set_option maxRecDepth 20000
def Ai (L:Loc) (s s':Mm):Nat->World->Prop
 | 0,w=>Z8 w L s
 | _,w=>Z8 w L s'
theorem MR {L:Loc} {s s':Mm} (x y:World) (p:Nat) (g:Grown x y) (h:Ai L s s' p x):Ai L s s' p y:=by
 match p,h with
 | 0,h=>exact Z8.below h g
 | p+1,h=>exact Z8.below h g
def uN (a:CV) (lv ne ot:Bool) (z σ:Int):CV :=
 if lv then (if ne then { a with nx:=0 } else { a with nx:=7,E:=if ot then 8 else 0,H:=0,V:=z,St:=a.ld }) else { a with nx:=7,E:=3,H:=0,V:=0,St:=σ }
set_option maxHeartbeats 2000000 in
theorem WN {w:World} {L:Loc} {s:Mm} {b o:Nat} {T:TypeId} {cs:Array Value} {t n k m:Nat} {g p r:Int} {a:CV} (h:Z8 w L s) (hb:¬ L.has b) (hi:ZG w b o T cs a) (who:Int) (hG:Good t n k m g p r) {x:Nat} {G:Int} (hx:x<n) (hn:(6+t+x * 2)<s.n) {v st:Int} {A:Nat} {Gs V:Int} (hv:s.wd (6+t+x * 2)=v) (hs:YJ v st A Gs V) {lv:Bool} (hl:(Y5 st && Gs == G)=lv) {z vr:Int} {fz:Bool} (hc:CellIs a.ce z fz vr) {st0 A0 G0 V0:Int} (hs0:lv=true->YJ a.se st0 A0 G0 V0) {ne ot:Bool} (hne:decide ((A:Int)≠A0)=ne) (ho:a.QP z=ot) {σ:Nat} (hσ:wrap64 (s.steps+1)=σ) :
 Calls Tryz.prog 213 #[pP b o,eV t n k m g p r L.p who,.agg #[iV x,iV G]] w fun e w'=>e=.returned (.tuple #[])/\Vr L b o T cs w w' (fun s' a'=>s'=((s.by who).step (6+t+x * 2) (s.wd (6+t+x * 2)))/\a'=uN a lv ne ot z σ):=by
 have HU:Hid (s.wd (6+t+x * 2)=v):=hv
 have sw:=hs.call
 have cc:=hc.call
 have hs1:=hG.s1
 have dl:=fun w=>Um st A Gs V x G w
 rw[hl] at dl
 have HS:Hid ((((s.by who).step (6+t+x * 2) (s.wd (6+t+x * 2)))).steps=σ):=hσ
 clear hσ
 have HN:Hid (decide ((A:Int)≠A0)=ne):=hne
 have HO:Hid (a.QP z=ot):=ho
 have HT:Hid (lv=true->YJ a.se st0 A0 G0 V0):=hs0
 clear hne ho hs0
 clear hv hs hl hc
 obtain⟨hbv,hbb⟩:=nb h hi.lt
 have YK:¬ L.has (w.heap.size+1):=fun hh=>by have:=h.lt _ hh;omega
 have YR:¬ w.heap.size+1=b:=fun hh=>by have:=hi.lt;omega
 go_enter Tryz.func213,Tryz.ntmps213
 go_wp2
 refine ZT (fun W=>Z8 W L s/\ZG W b o T cs a/\ZP W w.heap.size t n k m g p r L.p who/\At W (w.heap.size+1) 0 213 #[iV x,iV G] [iV x,iV G]/\Only (L.and b) w W) ⟨(h.alloc _).alloc _,(hi.grown (ZZ _ _)).grown (ZZ _ _),ZP.Xb _,At.Xo _ _ _ _,((Only.refl _ _).alloc _).alloc _⟩ ?_
 rintro W ⟨m1,i1,v1,x1,o1⟩
 obtain⟨Sz,hSz⟩:∃ Sz,W.heap.size=Sz:=⟨_,rfl⟩
 have GH:∀ X,L.has X->X<Sz:=fun X hh=>by have:=m1.lt X hh;omega
 refine YD (Only L.has) Grown (Ai L s ((s.by who).step (6+t+x * 2) (s.wd (6+t+x * 2)))) 9 [6] [.val (eV t n k m g p r L.p who),.val (pP w.heap.size 0),.val (.agg #[iV t,iV n,iV k,iV m,iV g,iV p,iV r]),.val (.pointer (some ⟨w.heap.size+1,0,none⟩)),.val (iV (x:Nat)),.val (iV (((6+t+x * 2):Nat):Int)),.val (.int .u64 v),.val (.agg #[iV st,iV A,iV Gs,iV V]),.that (fun w' v=>∃ X,v=(pP X 0)/\Sz<=X/\At w' X 0 108 #[iV 0,iV 0,iV 0,iV 0] [iV 0,iV 0,iV 0,iV 0]) ?_]
  (by kernel_rfl) (Only.refl _) (fun _ _ _ h k=>h.trans k) (fun x y h=>Only.Z5 h) MR m1.drew (by decide) (by kernel_rfl) (by kernel_rfl) (by kernel_rfl) (by kernel_rfl) (by kernel_rfl) (by kernel_rfl) (by kernel_rfl) (by kernel_rfl) ?_
 . rintro x1 y1 v hg ⟨X,hv,hb,hr⟩
   exact⟨X,hv,hb,hr.only hg (fun hh=>by have:=GH _ hh;omega)⟩
 simp only[List.take_succ_cons,List.take_zero,Zo,Act.put,List.setIfInBounds_toArray,List.set_cons_zero,List.set_cons_succ]
 refine⟨?_,?_,?_,?_,?_,?_,?_,?_,?_,?_⟩
 . intro w' hR _;apply ol;obtain⟨y0,y1,y2,y3,y4,y5,y6,y7,y8⟩:=(v1.grown ((Below.refl _ _).drew)).only hR hbv;go_simp;exact gl
 . intros;apply ol;go_simp;exact gl
 . intro w' hR _;apply ol;obtain⟨y0,y1,y2,y3,y4,y5,y6,y7,y8⟩:=(v1.grown ((Below.refl _ _).drew)).only hR hbv;go_simp;exact gl
 . intros;apply ol;go_simp;exact gl
 . intro w' hR _;apply ol;have z:=(x1.drew.only hR YK).at0 0 rfl;go_simp;exact gl
 . intro w' hR _;apply ol;go_simp;refine(Y4 _ _ _ _ _ _ _ (x:Int) _ hG.arena (by omega) (by omega)).mono ?_;rintro e w'' ⟨rfl,b9⟩;exact⟨_,rfl,b9,congrArg (Value.int .i64) (by omega)⟩
 . intro w' hR _ hP;apply ol;have hP':Z8 w' L s:=hP;go_simp;refine(Zj hP' _ _ _ _ _ _ _ _ (6+t+x * 2) hn).mono ?_;rintro e w'' ⟨rfl,m2,o2⟩;exact⟨_,rfl,⟨o2,m2⟩,by simp[Want.pred,HU.out]⟩
 . intro w' hR _;apply ol;go_simp;exact cb (sw _)
 . intro w' hR _
   apply ol
   have hzz:Sz<=w'.heap.size:=by have:=hR.size;have e:W.drew.heap.size=W.heap.size:=rfl;omega
   have qq:=At.new w' 108 [iV 0,iV 0,iV 0,iV 0]
   go_simp
   exact⟨Z7 (Below.refl _ _) _,_,rfl,hzz,qq⟩
 intro vX w8 hR hP hf
 obtain⟨S,rfl,uM,q8⟩:=hf.1
 have m8:Z8 w8 L ((s.by who).step (6+t+x * 2) (s.wd (6+t+x * 2))):=hP
 have q0:=q8.at0 0 rfl
 have q1:=q8.at0 1 rfl
 have q2:=q8.at0 2 rfl
 have q3:=q8.at0 3 rfl
 have qf:=q8.fz
 have lS:¬ L.has S:=fun hh=>by have:=GH _ hh;omega
 have bS:S≠b:=by have:=i1.lt;omega
 have eS:¬ w.heap.size=S:=by have:=x1.lt;omega
 have xS:w.heap.size+1≠S:=by have:=x1.lt;omega
 have hSw:w.heap.size<=S:=by have:=x1.lt;omega
 have m9:=((((m8.ZY lS 0 (iV st)).ZY lS 1 (iV A)).ZY lS 2 (iV Gs)).ZY lS 3 (iV V))
 have v9:=((((((v1.grown ((Below.refl _ _).drew)).only hR hbv).ZY eS 0 (iV st)).ZY eS 1 (iV A)).ZY eS 2 (iV Gs)).ZY eS 3 (iV V))
 have x9:=(((((x1.drew.only hR YK).other xS 0 (iV st)).other xS 1 (iV A)).other xS 2 (iV Gs)).other xS 3 (iV V))
 have i9:=(((((i1.drew.only hR hb).other bS.symm 0 (iV st)).other bS.symm 1 (iV A)).other bS.symm 2 (iV Gs)).other bS.symm 3 (iV V))
 have c9:=((((q8.ZQ 0 (iV st)).ZQ 1 (iV A)).ZQ 2 (iV Gs)).ZQ 3 (iV V))
 have o9:=(((((o1.drew.trans (hR.XH (b:=b))).setCell (a:=⟨S,0,none⟩) (fun hlt=>by simp only at hlt;omega) (iV st)).setCell (a:=⟨S,1,none⟩) (fun hlt=>by simp only at hlt;omega) (iV A)).setCell (a:=⟨S,2,none⟩) (fun hlt=>by simp only at hlt;omega) (iV Gs)).setCell (a:=⟨S,3,none⟩) (fun hlt=>by simp only at hlt;omega) (iV V))
 clear hf hR uM hSz m1 v1 x1 i1 o1 q8 m8 hP GH
 simp only[List.drop_succ_cons,List.drop_zero]
 go_step
 go_step
 (first | go_values | go_skip | go_guarded | go_step | go_upon | go_in | go_back)
 (first | go_values | go_skip | go_guarded | go_step | go_upon | go_in | go_back)
 (first | go_values | go_skip | go_guarded | go_step | go_upon | go_in | go_back)
 (first | go_values | go_skip | go_guarded | go_step | go_upon | go_in | go_back)
 (first | go_values | go_skip | go_guarded | go_step | go_upon | go_in | go_back)
 refine ZT (fun W=>Z8 W L ((s.by who).step (6+t+x * 2) (s.wd (6+t+x * 2)))/\ZG W b o T cs a/\ZP W w.heap.size t n k m g p r L.p who/\At W (w.heap.size+1) 0 213 #[iV x,iV G] [iV x,iV G]/\At W S 0 108 _ [iV st,iV A,iV Gs,iV V]/\Only (L.and b) w W) ⟨m9,i9,v9,x9,c9,o9⟩ ?_
 clear m9 i9 v9 x9 c9 o9 q0 q1 q2 q3 qf
 rintro W ⟨m9,i9,v9,x9,c9,o9⟩
 have k10:=i9.Jt
 go_wp2_with (first
  | (go_at_call 201;refine(cc _).mono ?_;rintro e w3 ⟨rfl,b3⟩;have m1:=(m9.below b3).alloc (.cells #[iV z,.bool fz,iV vr] 244);have i1:=(i9.grown b3).grown (ZZ _ (.cells #[iV z,.bool fz,iV vr] 244));have v1:=(v9.grown b3).grown (ZZ _ (.cells #[iV z,.bool fz,iV vr] 244));have x1:=(x9.grown b3).grown (ZZ _ (.cells #[iV z,.bool fz,iV vr] 244));have q1:=(c9.grown b3).grown (ZZ _ (.cells #[iV z,.bool fz,iV vr] 244));have c1:=At.new w3 244 [iV z,.bool fz,iV vr];have o1:=(o9.trans (Only.Z5 b3)).alloc (.cells #[iV z,.bool fz,iV vr] 244);obtain⟨g0,g1,g2,g3,g4,g5,g6,g7,g8⟩:=id v1;have t0:=q1.at0 0 rfl;have t1:=q1.at0 1 rfl;have t2:=q1.at0 2 rfl;have t3:=q1.at0 3 rfl;have u0:=x1.at0 0 rfl;have u1:=x1.at0 1 rfl))
 go_at_call 190
 refine(dl _).mono ?_
 rintro e w4 ⟨rfl,b4⟩
 have i4:=i1.grown b4
 have m4:=m1.below b4
 have v4:=v1.grown b4
 have o4:=o1.trans (Only.Z5 b4)
 have q4:=q1.grown b4
 have c4:=c1.grown b4
 obtain⟨e0,e1,e2,e3,e4,e5,e6,e7,e8⟩:=id v4
 cases lv with
 | false =>
  go_wp2_with (first
   | (go_at_call 11;refine(Yk m4 _ _ _ _ _ _ _ _ σ HS.out).mono ?_;rintro e w8 ⟨rfl,b8⟩)
   | (go_at_call 207;refine(OH (m4.below b8) hb (i4.grown b8) 3 0 σ).mono ?_;rintro e w9 ⟨rfl,s9,vF,a9,m9,o9,i9,q9,rfl,rfl⟩))
  go_end0
  exact⟨rfl,_,_,_,m9,(o4.trans (Only.Z5 b8)).trans o9,i9,q9,rfl,rfl⟩
 | true =>
  have sl0:=(HT.out rfl).call
  have ff:∀ (a1 a2 a3 a4:Value) (w:World),(Instr.field 108 (.agg #[a1,a2,a3,a4]) 1).run Tryz.prog w=.ok a2 w:=fun a1 a2 a3 a4 w=>by kernel_rfl
  go_wp2
  refine ZT (fun W=>Z8 W L ((s.by who).step (6+t+x * 2) (s.wd (6+t+x * 2)))/\ZG W b o T cs a/\At W S 0 108 _ [iV st,iV A,iV Gs,iV V]/\At W w3.heap.size 0 244 _ [iV z,.bool fz,iV vr]/\Only (L.and b) w W) ⟨m4,i4,q4,c4,o4⟩ ?_
  clear m9 v9 x9 i9 c9 o9 k10 b3 sw cc m1 i1 v1 x1 q1 c1 o1 m4 i4 v4 q4 c4 o4 b4 t0 t1 t2 t3 u0 u1 g0 e0 g1 e1 g2 e2 g3 e3 g4 e4 g5 e5 g6 e6 g7 e7 g8 e8
  rintro W ⟨m1,i1,q1,c1,o1⟩
  apply yE;. kernel_rfl
  apply rV;. intros;apply ol;go_simp;exact gl
  apply rV;. intro w' hg _;apply ol;have z:=(q1.drew.grown hg).at0 1 rfl;go_simp;exact gl
  iterate 3 (apply rV;. intros;apply ol;go_simp;exact gl)
  apply rV;. intro w' hg _;apply ol;have z:=(i1.drew.grown hg).WQ;go_simp;exact gl
  try simp only[pu,s0,s1]
  apply rV;. intro w' hg _;apply ol;go_simp;exact cb (sl0 _)
  apply rV;. intros;apply ol;go_simp;exact gl
  apply rV (c:=.bool ne);. intro w' hg _;apply ol;go_simp;refine⟨Grown.refl _,?_⟩;rw[<- HN.out];simp[Want.pred];rfl
  apply XW;. intros;apply ol;go_simp;exact gl
  try simp only[pu,s0,s1]
  intro w5 hg _
  have m5:=m1.drew.below hg
  have i5:=i1.drew.grown hg
  have c5:=c1.drew.grown hg
  have o5:=o1.og hg
  clear hg m1 i1 q1 c1 o1
  have z0:=c5.at0 0 rfl
  have z1:=c5.at0 1 rfl
  have z2:=c5.at0 2 rfl
  have k0:=i5.Zr
  have kf:=i5.fz
  cases ne with
  | true =>
   go_wp2
   go_end0
   exact⟨rfl,_,_,_,m5.ZY hb _ _,o5.set _ _,i5.Zl 0,Same.refl.set (by omega) _,rfl,rfl⟩
  | false =>
   cases ot
   all_goals
    go_wp2_with (go_at_call 219;refine(SK i5 z fz vr).mono ?_;rintro e w6 ⟨rfl,b6⟩;rw[HO.out])
    refine ZT (fun W=>Z8 W L ((s.by who).step (6+t+x * 2) (s.wd (6+t+x * 2)))/\ZG W b o T cs a/\At W w3.heap.size 0 244 _ [iV z,.bool fz,iV vr]/\Only (L.and b) w W) ⟨m5.below b6,i5.grown b6,c5.grown b6,o5.trans (Only.Z5 b6)⟩ ?_
    clear m5 i5 c5 o5 b6 z0 z1 z2 k0 kf
    rintro W ⟨m1,i1,c1,o1⟩
    apply Xy 7;. kernel_rfl
    iterate 2 (apply rV;. intros;apply ol;go_simp;exact gl)
    apply rV;. intro w' hg _;apply ol;have z:=(c1.drew.grown hg).at0 0 rfl;go_simp;exact gl
    iterate 3 (apply rV;. intros;apply ol;go_simp;exact gl)
    try simp only[pu,s0,s1]
    apply XW;. intro w' hg _;apply ol;have z:=(i1.drew.grown hg).yg;go_simp;exact gl
    try simp only[pu,s0,s1]
    intro w7 hg _
    have m7:=m1.drew.below hg
    have i7:=i1.drew.grown hg
    have o7:Only (L.and b) w w7:=o1.drew.trans (Only.Z5 hg)
    clear hg m1 i1 c1 o1
    go_wp2_with (go_at_call 207;refine(OH m7 hb i7 _ z a.ld).mono ?_;rintro e w9 ⟨rfl,s9,vF,a9,m9,o9,i9,q9,rfl,rfl⟩)
    go_end0
    exact⟨rfl,_,_,_,m9,o7.trans o9,i9,q9,rfl,rfl⟩
end Go.Proofs.YtgehjolndmgffaaGreat
