import Derived.Test.YtpbghmeikcphnaaGreatDropAsk
namespace Go.Proofs.YtpbghmeikcphnaaGreat
open Go.RowKit
set_option maxHeartbeats 1000000
set_option maxRecDepth 20000
theorem Ey {w:World} {L:Loc} {s:Mm} {b o:Nat} {T:TypeId} {cs:Array Value} {t n k m:Nat} {g p r:Int} {a:DV} (h:Z9 w L s) (hb:¬ L.has b) (hi:ZK w b o T cs a) (who:Int) (hG:Good t n k m g p r) {x:Nat} {G:Int} (hx:x<n) (hn:(6+t+x * 2)<s.n) {st:Int} {A:Nat} {Gs V:Int} (hs:Zf a.se st A Gs V) (hd:decide (s.wd (6+t+x * 2)=a.se)=false) :
 Calls Tryz.prog 161 #[pP b o,eV t n k m g p r L.p who,.agg #[iV x,iV G]] w fun e w'=>e=.returned (.tuple #[])/\XO L b o T cs w w' (fun s' a'=>s'=((s.by who).Vz (6+t+x * 2) a.se (Zv 4 A Gs (V+1)))/\a'={ a with nx:=0 }):=by
 have HD:Hid (decide (s.wd (6+t+x * 2)=a.se)=false):=hd
 have sw:=hs.call
 have hs1:=hG.s1
 have ab:(A:Int)<=1048575:=by have:=hs.ad;omega
 have gb:0<=Gs/\Gs<=65535:=by have:=hs.gn;omega
 have vb:0<=V/\V<=4194303:=by have:=hs.vr;omega
 have ps:=fun w=>Yk 4 A Gs (V+1) w ⟨by omega,by omega⟩ ⟨by omega,by omega⟩ ⟨by omega,by omega⟩ ⟨by omega,by omega⟩
 have hvw:IntKind.i64.wrap (V+1)=V+1:=by rw[IntKind.wrap_i64];omega
 clear hd hs
 obtain⟨hbv,hbb⟩:=nb h hi.lt
 have Zn:¬ L.has (w.heap.size+1):=fun hh=>by have:=h.lt _ hh;omega
 have Zk:¬ w.heap.size+1=b:=fun hh=>by have:=hi.lt;omega
 have i0:=(hi.grown (ZY _ (.cells #[iV t,iV n,iV k,iV m,iV g,iV p,iV r,pP L.p 0,iV who] 27))).grown (ZY _ (.cells #[iV x,iV G] 75))
 have k3:=i0.Yc
 go_enter Tryz.func161,Tryz.ntmps161
 go_wp2_with (first
  | (go_at_call 28;refine(sw _).mono ?_;rintro e w3 ⟨rfl,b3⟩)
  | (go_at_call 58;refine(ps _).mono ?_;rintro e w5 ⟨rfl,b5⟩))
 refine ZW (fun W=>Z9 W L s/\ZK W b o T cs a/\ZU W w.heap.size t n k m g p r L.p who/\At W (w.heap.size+1) 0 75 #[iV x,iV G] [iV x,iV G]/\Only (L.and b) w W) ⟨((((h.alloc _).alloc _).below b3).alloc _).below b5,((i0.grown b3).grown (ZY _ _)).grown b5,(((ZU.YF _).grown b3).grown (ZY _ _)).grown b5,(((At.Yy _ _ _ [iV (x:Nat),iV G]).grown b3).grown (ZY _ _)).grown b5,(((((Only.refl _ _).alloc _).alloc _).trans (Only.ZZ b3)).alloc _).trans (Only.ZZ b5)⟩ ?_
 clear b3 b5 i0 k3 sw ps
 rintro W ⟨m1,i1,v1,x1,o1⟩
 apply Xt 11;. kernel_rfl
 apply rV;. intro w' hg _;apply ol;have y:=(v1.dg hg).yy;go_simp;exact gl
 apply rV;. intros;apply ol;go_simp;exact gl
 apply rV;. intro w' hg _;apply ol;have y:=(v1.dg hg).yy;go_simp;exact gl
 apply rV;. intros;apply ol;go_simp;exact gl
 apply rV;. intro w' hg _;apply ol;have z:=(x1.drew.grown hg).at0 0 rfl;go_simp;exact gl
 apply rV (c:=iV (((6+t+x * 2):Nat):Int));. intro w' hg _;apply ol;go_simp;refine(Zj _ _ _ _ _ _ _ (x:Int) _ hG.arena (by omega) (by omega)).mono ?_;rintro e w'' ⟨rfl,b9⟩;exact⟨_,rfl,b9,congrArg (Value.int .i64) (by omega)⟩
 try simp only[pu,s0,s1]
 iterate 3 (apply rV;. intros;apply ol;go_simp;exact gl)
 apply rV;. intro w' hg _;apply ol;have z:=(i1.drew.grown hg).Yc;go_simp;exact gl
 apply X9;. intros;apply ol;go_simp;exact gl
 try simp only[pu,s0,s1]
 intro w7 hg _
 have m7:=m1.drew.below hg
 have i7:=i1.drew.grown hg
 have x7:=x1.drew.grown hg
 have o7:Only (L.and b) w w7:=o1.drew.trans (Only.ZZ hg)
 clear hg m1 i1 v1 x1 o1
 go_wp2_with (go_at_call 147;refine(YD m7 _ _ _ _ _ _ _ _ (6+t+x * 2) hn _ _).mono ?_;rintro e w8 ⟨rfl,m8,o8⟩;rw[HD.out];have i8:=i7.only o8 hb;have k0:=i8.Zz;have kf:=i8.fz)
 refine bodyPost_ret (results_none rfl _ _ _) rfl ?_
 exact⟨rfl,_,_,_,m8.ZX hb _ _,(o7.trans (o8.Yf (b:=b))).set _ _,i8.Zh 0,Same.refl.set (by omega) _,rfl,rfl⟩
theorem G5 {w:World} {L:Loc} {s:Mm} {b o:Nat} {T:TypeId} {cs:Array Value} {t n k m:Nat} {g p r:Int} {a:DV} (h:Z9 w L s) (hb:¬ L.has b) (hi:ZK w b o T cs a) (who:Int) (hG:Good t n k m g p r) {x:Nat} {G:Int} (hx:x<n) (hn:(6+t+x * 2)<s.n) {Z:Int} (hz:a.sz=Z) {st:Int} {A:Nat} {Gs V:Int} (hs:Zf a.se st A Gs V) (hd:decide (s.wd (6+t+x * 2)=a.se)=true) :
 Calls Tryz.prog 161 #[pP b o,eV t n k m g p r L.p who,.agg #[iV x,iV G]] w fun e w'=>e=.returned (.tuple #[])/\XO L b o T cs w w' (fun s' a'=>s'=((s.by who).Vz (6+t+x * 2) a.se (Zv 4 A Gs (V+1)))/\a'={ a with hl:=Yr x (Zv 4 A Gs (V+1)) Z 0 0 false false false,nx:=4 }):=by
 have HD:Hid (decide (s.wd (6+t+x * 2)=a.se)=true):=hd
 have sw:=hs.call
 have hs1:=hG.s1
 have ab:(A:Int)<=1048575:=by have:=hs.ad;omega
 have gb:0<=Gs/\Gs<=65535:=by have:=hs.gn;omega
 have vb:0<=V/\V<=4194303:=by have:=hs.vr;omega
 have ps:=fun w=>Yk 4 A Gs (V+1) w ⟨by omega,by omega⟩ ⟨by omega,by omega⟩ ⟨by omega,by omega⟩ ⟨by omega,by omega⟩
 have hvw:IntKind.i64.wrap (V+1)=V+1:=by rw[IntKind.wrap_i64];omega
 have HZ:Hid (a.sz=Z):=hz
 clear hd hs hz
 obtain⟨hbv,hbb⟩:=nb h hi.lt
 have Zn:¬ L.has (w.heap.size+1):=fun hh=>by have:=h.lt _ hh;omega
 have Zk:¬ w.heap.size+1=b:=fun hh=>by have:=hi.lt;omega
 have i0:=(hi.grown (ZY _ (.cells #[iV t,iV n,iV k,iV m,iV g,iV p,iV r,pP L.p 0,iV who] 27))).grown (ZY _ (.cells #[iV x,iV G] 75))
 have k3:=i0.Yc
 go_enter Tryz.func161,Tryz.ntmps161
 go_wp2_with (first
  | (go_at_call 28;refine(sw _).mono ?_;rintro e w3 ⟨rfl,b3⟩)
  | (go_at_call 58;refine(ps _).mono ?_;rintro e w5 ⟨rfl,b5⟩))
 refine ZW (fun W=>Z9 W L s/\ZK W b o T cs a/\ZU W w.heap.size t n k m g p r L.p who/\At W (w.heap.size+1) 0 75 #[iV x,iV G] [iV x,iV G]/\Only (L.and b) w W) ⟨((((h.alloc _).alloc _).below b3).alloc _).below b5,((i0.grown b3).grown (ZY _ _)).grown b5,(((ZU.YF _).grown b3).grown (ZY _ _)).grown b5,(((At.Yy _ _ _ [iV (x:Nat),iV G]).grown b3).grown (ZY _ _)).grown b5,(((((Only.refl _ _).alloc _).alloc _).trans (Only.ZZ b3)).alloc _).trans (Only.ZZ b5)⟩ ?_
 clear b3 b5 i0 k3 sw ps
 rintro W ⟨m1,i1,v1,x1,o1⟩
 apply Xt 11;. kernel_rfl
 apply rV;. intro w' hg _;apply ol;have y:=(v1.dg hg).yy;go_simp;exact gl
 apply rV;. intros;apply ol;go_simp;exact gl
 apply rV;. intro w' hg _;apply ol;have y:=(v1.dg hg).yy;go_simp;exact gl
 apply rV;. intros;apply ol;go_simp;exact gl
 apply rV;. intro w' hg _;apply ol;have z:=(x1.drew.grown hg).at0 0 rfl;go_simp;exact gl
 apply rV (c:=iV (((6+t+x * 2):Nat):Int));. intro w' hg _;apply ol;go_simp;refine(Zj _ _ _ _ _ _ _ (x:Int) _ hG.arena (by omega) (by omega)).mono ?_;rintro e w'' ⟨rfl,b9⟩;exact⟨_,rfl,b9,congrArg (Value.int .i64) (by omega)⟩
 try simp only[pu,s0,s1]
 iterate 3 (apply rV;. intros;apply ol;go_simp;exact gl)
 apply rV;. intro w' hg _;apply ol;have z:=(i1.drew.grown hg).Yc;go_simp;exact gl
 apply X9;. intros;apply ol;go_simp;exact gl
 try simp only[pu,s0,s1]
 intro w7 hg _
 have m7:=m1.drew.below hg
 have i7:=i1.drew.grown hg
 have x7:=x1.drew.grown hg
 have o7:Only (L.and b) w w7:=o1.drew.trans (Only.ZZ hg)
 clear hg m1 i1 v1 x1 o1
 go_wp2_with (go_at_call 147;refine(YD m7 _ _ _ _ _ _ _ _ (6+t+x * 2) hn _ _).mono ?_;rintro e w8 ⟨rfl,m8,o8⟩;rw[HD.out];have i8:=i7.only o8 hb;have k0:=i8.Zz;have kf:=i8.fz)
 refine ZW (fun W=>Z9 W L ((s.by who).Vz (6+t+x * 2) a.se (Zv 4 A Gs (V+1)))/\ZK W b o T cs a/\At W (w.heap.size+1) 0 75 #[iV x,iV G] [iV x,iV G]/\Only (L.and b) w W) ⟨m8,i8,x7.only o8 Zn,o7.trans (o8.Yf (b:=b))⟩ ?_
 clear m7 i7 x7 o7 m8 i8 o8 k0 kf
 rintro W ⟨m1,i1,x1,o1⟩
 refine Zb Grown 13 [.val (pP b o),.val (.pointer (some ⟨w.heap.size+1,0,none⟩)),.val (iV (x:Nat)),.val (.int .u64 (Zv 4 A Gs (V+1))),.val (pP b o),.val (pP b o),.val (pP b (o+5)),.val (iV Z),.that (fun w' v=>∃ X,v=(pP X 0)/\At w' X 0 156 (Yr x (Zv 4 A Gs (V+1)) Z 0 0 false false false).toArray (Yr x (Zv 4 A Gs (V+1)) Z 0 0 false false false)) (fun _ _ _ hg h=>h.imp fun X k=>⟨k.1,k.2.grown hg⟩),.that (fun w' v=>∃ X,v=(pP X 0)/\At w' X 0 156 (Yr x (Zv 4 A Gs (V+1)) Z 0 0 false false false).toArray (Yr x (Zv 4 A Gs (V+1)) Z 0 0 false false false)) (fun _ _ _ hg h=>h.imp fun X k=>⟨k.1,k.2.grown hg⟩),.val (.agg #[iV x,.int .u64 (Zv 4 A Gs (V+1)),iV Z,iV 0,.int .u64 0,.bool false,.bool false,.bool false]),.val (pP b o),.val (pP b (o+6))] (by kernel_rfl) Grown.refl Grown.trans (by decide) (by kernel_rfl) (by kernel_rfl) (by kernel_rfl) (by kernel_rfl) (by kernel_rfl) (by kernel_rfl) ?_
 simp only[List.take_succ_cons,List.take_zero,Zw,Act.put,List.setIfInBounds_toArray,List.set_cons_zero,List.set_cons_succ]
 refine⟨?_,?_,?_,?_,?_,?_,?_,?_,?_,fun v1=>⟨?_,fun v2=>⟨?_,?_,?_,?_⟩⟩⟩
 . intros;apply ol;go_simp;exact gl
 . intros;apply ol;go_simp;exact gl
 . intro w' hg _;apply ol;have z:=(x1.drew.grown hg).at0 0 rfl;go_simp;exact gl
 . intros;apply ol;go_simp;exact gl
 . intros;apply ol;go_simp;exact gl
 . intros;apply ol;go_simp;exact gl
 . intros;apply ol;go_simp;exact gl
 . intro w' hg _;apply ol;have z:=(i1.drew.grown hg).Xh;rw[HZ.out] at z;go_simp;exact gl
 . intro w' hg _;apply ol;have q:=At.new w' 156 (Yr x (Zv 4 A Gs (V+1)) Z 0 0 false false false);go_simp;refine(RN x (Zv 4 A Gs (V+1)) Z _).mono ?_;rintro e w'' ⟨rfl,rfl⟩;exact⟨_,rfl,ZY _ _,_,rfl,q⟩
 . intro w' hg hf
   apply ol
   obtain⟨X,rfl,q⟩:=hf.1 (by kernel_rfl)
   go_simp
   exact⟨Grown.refl _,X,rfl,q⟩
 . intro w' hg hf
   apply ol
   obtain⟨X,rfl,q⟩:=hf.1 (by kernel_rfl)
   have z0:=q.at0 0 rfl
   have z1:=q.at0 1 rfl
   have z2:=q.at0 2 rfl
   have z3:=q.at0 3 rfl
   have z4:=q.at0 4 rfl
   have z5:=q.at0 5 rfl
   have z6:=q.at0 6 rfl
   have z7:=q.at0 7 rfl
   go_simp
   exact gl
 . intros;apply ol;go_simp;exact gl
 . intros;apply ol;go_simp;exact gl
 intro w9 hg _
 have m10:=m1.drew.below hg
 have i10:=i1.drew.grown hg
 have xX:Only (L.and b) w w9:=o1.drew.trans (Only.ZZ hg)
 clear hg m1 i1 x1 o1
 obtain⟨l0,p0⟩:=i10.zD
 obtain⟨l1,p1⟩:=i10.zC
 obtain⟨l2,p2⟩:=i10.zB
 obtain⟨l3,p3⟩:=i10.zA
 obtain⟨l4,p4⟩:=i10.zy
 obtain⟨l5,p5⟩:=i10.zx
 obtain⟨l6,p6⟩:=i10.zt
 obtain⟨l7,p7⟩:=i10.zo
 have kf:=i10.fz
 have k0:=i10.Zz
 go_wp2
 go_end0
 obtain⟨y0,y1,y2,y3,y4,y5,y6,y7,hl⟩:=len8 hi.X4
 exact⟨rfl,_,_,_,(((((((((m10.ZX hb _ _).ZX hb _ _).ZX hb _ _).ZX hb _ _).ZX hb _ _).ZX hb _ _).ZX hb _ _).ZX hb _ _).ZX hb _ _),(((((((((xX.set _ _).set _ _).set _ _).set _ _).set _ _).set _ _).set _ _).set _ _).set _ _),((((((((i10.Jd _).Jc _).Ja _).I9 _).I8 _).I7 _).I5 _).I4 _).Zh 4,(((((((((Same.refl.set (by omega) _).set (by omega) _).set (by omega) _).set (by omega) _).set (by omega) _).set (by omega) _).set (by omega) _).set (by omega) _).set (by omega) _),rfl,by simp[hl,Yr]⟩
theorem AA {w:World} {L:Loc} {s:Mm} {b o:Nat} {T:TypeId} {cs:Array Value} {t n k m:Nat} {g p r:Int} {a:DV} (h:Z9 w L s) (hi:ZK w b o T cs a) (who:Int) {x:Nat} {G:Int} (X:Mm->List Value->Prop) (hX:∀ s' l',X s' l'->l'.length=8)
 (hc:∀ w1:World,Z9 w1 L s->At w1 b (o+6) T cs a.hl->Calls Tryz.prog 162 #[pP b (o+6),eV t n k m g p r L.p who] w1 fun e w'=>e=.returned (.bool false)/\We L b (o+6) T cs w1 w' X) :
 Calls Tryz.prog 163 #[pP b o,eV t n k m g p r L.p who,.agg #[iV x,iV G]] w fun e w'=>e=.returned (.tuple #[])/\XO L b o T cs w w' (fun s' a'=>∃ l',X s' l'/\a'={ a with hl:=l' }):=by
 obtain⟨hbv,hbb⟩:=nb h hi.lt
 have Zn:¬ L.has (w.heap.size+1):=fun hh=>by have:=h.lt _ hh;omega
 have Zk:¬ w.heap.size+1=b:=fun hh=>by have:=hi.lt;omega
 go_enter Tryz.func163,Tryz.ntmps163
 go_wp2
 refine ZW (fun W=>Z9 W L s/\ZK W b o T cs a/\ZU W w.heap.size t n k m g p r L.p who/\At W (w.heap.size+1) 0 75 #[iV x,iV G] [iV x,iV G]/\Only (L.and b) w W) ⟨(h.alloc _).alloc _,(hi.grown (ZY _ _)).grown (ZY _ _),ZU.YF _,At.Yy _ _ _ _,((Only.refl _ _).alloc _).alloc _⟩ ?_
 rintro W ⟨m1,i1,v1,x1,o1⟩
 apply Xt 4;. kernel_rfl
 iterate 3 (apply rV;. intros;apply ol;go_simp;exact gl)
 apply X9;. intro w' hg _;apply ol;have y:=(v1.dg hg).yy;go_simp;exact gl
 try simp only[pu,s0,s1]
 intro w5 hg _
 have m5:=m1.drew.below hg
 have i5:=i1.drew.grown hg
 have v5:=v1.dg hg
 have x5:=x1.drew.grown hg
 have o5:=o1.og hg
 clear hg m1 i1 v1 x1 o1
 go_wp2_with (go_at_call 162;refine(hc _ m5 i5.hlAt).mono ?_;rintro e w6 ⟨rfl,s6,VS,l6,m6,o6,i6,q6,p6⟩;have i7:=i5.Rk i6 (hX _ _ p6) q6;have o7:=o5.trans o6;have q7:Same o 21 cs VS:=q6.wide (by omega) (by omega))
 refine bodyPost_ret (results_none rfl _ _ _) rfl ?_
 exact⟨rfl,s6,_,_,m6,o7,i7,q7,l6,p6,rfl⟩
theorem GZ {w:World} {L:Loc} {s:Mm} {b o:Nat} {T:TypeId} {cs:Array Value} {t n k m:Nat} {g p r:Int} {a:DV} (h:Z9 w L s) (hb:¬ L.has b) (hi:ZK w b o T cs a) (who:Int) (hG:Good t n k m g p r) {x:Nat} {G:Int} (hx:x<n) (X:Mm->List Value->Prop) (hX:∀ s' l',X s' l'->l'.length=8) (hn:∀ s' l',X s' l'->(6+t+x * 2)<s'.n)
 (hc:∀ w1:World,Z9 w1 L s->At w1 b (o+6) T cs a.hl->Calls Tryz.prog 162 #[pP b (o+6),eV t n k m g p r L.p who] w1 fun e w'=>e=.returned (.bool true)/\We L b (o+6) T cs w1 w' X) :
 Calls Tryz.prog 163 #[pP b o,eV t n k m g p r L.p who,.agg #[iV x,iV G]] w fun e w'=>e=.returned (.tuple #[])/\XO L b o T cs w w' (fun s' a'=>∃ l',X s' l'/\a'={ a with hl:=l',St:=s'.wn (6+t+x * 2),nx:=5 }):=by
 have hs1:=hG.s1
 obtain⟨hbv,hbb⟩:=nb h hi.lt
 have Zn:¬ L.has (w.heap.size+1):=fun hh=>by have:=h.lt _ hh;omega
 have Zk:¬ w.heap.size+1=b:=fun hh=>by have:=hi.lt;omega
 go_enter Tryz.func163,Tryz.ntmps163
 go_wp2
 refine ZW (fun W=>Z9 W L s/\ZK W b o T cs a/\ZU W w.heap.size t n k m g p r L.p who/\At W (w.heap.size+1) 0 75 #[iV x,iV G] [iV x,iV G]/\Only (L.and b) w W) ⟨(h.alloc _).alloc _,(hi.grown (ZY _ _)).grown (ZY _ _),ZU.YF _,At.Yy _ _ _ _,((Only.refl _ _).alloc _).alloc _⟩ ?_
 rintro W ⟨m1,i1,v1,x1,o1⟩
 apply Xt 4;. kernel_rfl
 iterate 3 (apply rV;. intros;apply ol;go_simp;exact gl)
 apply X9;. intro w' hg _;apply ol;have y:=(v1.dg hg).yy;go_simp;exact gl
 try simp only[pu,s0,s1]
 intro w5 hg _
 have m5:=m1.drew.below hg
 have i5:=i1.drew.grown hg
 have v5:=v1.dg hg
 have x5:=x1.drew.grown hg
 have o5:=o1.og hg
 clear hg m1 i1 v1 x1 o1
 go_wp2_with (go_at_call 162;refine(hc _ m5 i5.hlAt).mono ?_;rintro e w6 ⟨rfl,s6,VS,l6,m6,o6,i6,q6,p6⟩;have i7:=i5.Rk i6 (hX _ _ p6) q6;have o7:=o5.trans o6;have q7:Same o 21 cs VS:=q6.wide (by omega) (by omega))
 refine ZW (fun W=>Z9 W L s6/\ZK W b o T VS { a with hl:=l6 }/\ZU W w.heap.size t n k m g p r L.p who/\At W (w.heap.size+1) 0 75 #[iV x,iV G] [iV x,iV G]/\Only (L.and b) w W) ⟨m6,i7,v5.only o6 (fun hh=>hh.elim hbv hbb),x5.only o6 (fun hh=>hh.elim Zn Zk),o7⟩ ?_
 clear m5 i5 v5 x5 o5 m6 i6 i7 o6 o7 q6
 rintro W ⟨m1,i1,v1,x1,o1⟩
 apply Xt 12;. kernel_rfl
 iterate 2 (apply rV;. intros;apply ol;go_simp;exact gl)
 apply rV;. intro w' hg _;apply ol;have y:=(v1.dg hg).yy;go_simp;exact gl
 apply rV;. intros;apply ol;go_simp;exact gl
 apply rV;. intro w' hg _;apply ol;have y:=(v1.dg hg).yy;go_simp;exact gl
 apply rV;. intros;apply ol;go_simp;exact gl
 try simp only[pu,s0,s1]
 apply rV;. intro w' hg _;apply ol;have z:=(x1.drew.grown hg).at0 0 rfl;go_simp;exact gl
 apply rV (c:=iV (((6+t+x * 2):Nat):Int));. intro w' hg _;apply ol;go_simp;refine(Zj _ _ _ _ _ _ _ (x:Int) _ hG.arena (by omega) (by omega)).mono ?_;rintro e w'' ⟨rfl,b9⟩;exact⟨_,rfl,b9,congrArg (Value.int .i64) (by omega)⟩
 apply rV;. intro w' hg _;apply ol;go_simp;exact cc (Az (m1.drew.below hg) (6+t+x * 2) (hn _ _ p6))
 iterate 2 (apply rV;. intros;apply ol;go_simp;exact gl)
 apply X9;. intros;apply ol;go_simp;exact gl
 try simp only[pu,s0,s1]
 intro w8 hg _
 have m8:=m1.drew.below hg
 have i8:=i1.drew.grown hg
 have o8:Only (L.and b) w w8:=o1.drew.trans (Only.ZZ hg)
 clear hg m1 i1 v1 x1 o1
 have k1:=i8.Q5
 have k0:=i8.Zz
 have kf:=i8.fz
 go_wp2
 go_end0
 exact⟨rfl,s6,_,_,(m8.ZX hb _ _).ZX hb _ _,(o8.set _ _).set _ _,(i8.Uy _).Zh 5,(q7.set (by omega) _).set (by omega) _,l6,p6,rfl⟩
theorem Nu {w:World} {L:Loc} {s:Mm} {b o:Nat} {T:TypeId} {cs:Array Value} {t n k m:Nat} {g p r:Int} {a:DV} (h:Z9 w L s) (hb:¬ L.has b) (hi:ZK w b o T cs a) (who:Int) (hG:Good t n k m g p r) {x:Nat} {G:Int} {i:Nat} (hc:a.ch=i) (hik:i<k) {Z:Int} (hz:a.sz=Z) {κ:Nat} (Ew:ZE Z=κ) (hκ:κ<4) (hn:(6+t+n * 2+i * 3+1)<s.n) (hl:G<g) :
 Calls Tryz.prog 164 #[pP b o,eV t n k m g p r L.p who,.agg #[iV x,iV G]] w fun e w'=>e=.returned (.tuple #[])/\XO L b o T cs w w' (fun s' a'=>s'=((s.by who).step (6+t+n * 2+i * 3+1) (sum64 (s.wd (6+t+n * 2+i * 3+1)) (Xu (-(room κ:Int)))))/\a'={ a with gl:=Vy 0 x 0,nx:=6 }):=by
 have HZ:Hid (a.sz=Z):=hz
 have HC:Hid (a.ch=i):=hc
 have lc:=fun w=>Xg Z w
 rw[Ew] at lc
 have hk1:=hG.k1
 have ht1:=hG.t1
 have hn1:=hG.s1
 have hr:=YV κ
 have la:=fun w=>UR t n k m g p r G w
 rw[decide_eq_false (by omega)] at la
 clear hz hc Ew
 obtain⟨hbv,hbb⟩:=nb h hi.lt
 have Zn:¬ L.has (w.heap.size+1):=fun hh=>by have:=h.lt _ hh;omega
 have Zk:¬ w.heap.size+1=b:=fun hh=>by have:=hi.lt;omega
 go_enter Tryz.func164,Tryz.ntmps164
 go_wp2
 refine ZW (fun W=>Z9 W L s/\ZK W b o T cs a/\ZU W w.heap.size t n k m g p r L.p who/\At W (w.heap.size+1) 0 75 #[iV x,iV G] [iV x,iV G]/\Only (L.and b) w W) ⟨(h.alloc _).alloc _,(hi.grown (ZY _ _)).grown (ZY _ _),ZU.YF _,At.Yy _ _ _ _,((Only.refl _ _).alloc _).alloc _⟩ ?_
 rintro W ⟨m1,i1,v1,x1,o1⟩
 apply Xt 16;. kernel_rfl
 apply rV;. intro w' hg _;apply ol;have y:=(v1.dg hg).yy;go_simp;exact gl
 apply rV;. intros;apply ol;go_simp;exact gl
 apply rV;. intro w' hg _;apply ol;have y:=(v1.dg hg).yy;go_simp;exact gl
 iterate 3 (apply rV;. intros;apply ol;go_simp;exact gl)
 try simp only[pu,s0,s1]
 apply rV;. intro w' hg _;apply ol;have z:=(i1.drew.grown hg).Ha;rw[HC.out] at z;go_simp;exact gl
 apply rV;. intro w' hg _;apply ol;go_simp;exact cb (WX _ _ _ _ _ _ _ (i:Int) _ hG.arena (by omega) (by omega))
 apply rV (c:=iV (((6+t+n * 2+i * 3+1):Nat):Int));. intro w' hg _;apply ol;go_simp;exact⟨Grown.refl _,congrArg (Value.int .i64) (by rw[IntKind.wrap_i64];omega)⟩
 iterate 3 (apply rV;. intros;apply ol;go_simp;exact gl)
 try simp only[pu,s0,s1]
 apply rV;. intro w' hg _;apply ol;have z:=(i1.drew.grown hg).Xh;rw[HZ.out] at z;go_simp;exact gl
 apply rV;. intro w' hg _;apply ol;go_simp;exact cc (lc _)
 apply rV;. intro w' hg _;apply ol;go_simp;exact cc (YC κ hκ _)
 apply X9 (c:=iV (-(room κ:Int)));. intro w' hg _;apply ol;go_simp;exact⟨Grown.refl _,congrArg (Value.int .i64) (by rw[IntKind.wrap_i64];omega)⟩
 try simp only[pu,s0,s1]
 intro w5 hg _
 have m5:=m1.drew.below hg
 have i5:=i1.drew.grown hg
 have v5:=v1.dg hg
 have x5:=x1.drew.grown hg
 have o5:=o1.og hg
 clear hg m1 i1 v1 x1 o1
 obtain⟨z0,z1,z2,hgl⟩:=yj hi.Wl
 go_wp2_with (first
  | (go_at_call 128;refine(OO m5 _ _ _ _ _ _ _ _ (6+t+n * 2+i * 3+1) hn _).mono ?_;rintro e w6 ⟨rfl,m6,o6⟩;have x6:=x5.only o6 Zn;have v6:=v5.only o6 hbv;have i6:=i5.only o6 hb;have u0:=x6.at0 0 rfl;have o7:=o5.trans (o6.Yf (b:=b)))
  | (go_at_call 127;refine(Vk x _).mono ?_;rintro e w8 ⟨rfl,rfl⟩;have i8:=i6.grown (ZY _ (.cells #[iV 0,iV x,.int .u64 0] 152));have x8:=x6.grown (ZY _ (.cells #[iV 0,iV x,.int .u64 0] 152));have v8:=v6.grown (ZY _ (.cells #[iV 0,iV x,.int .u64 0] 152));have m8:=m6.alloc (.cells #[iV 0,iV x,.int .u64 0] 152);have o8:=o7.alloc (.cells #[iV 0,iV x,.int .u64 0] 152);obtain⟨p0,k1⟩:=i8.zn;obtain⟨p1,k2⟩:=i8.zl;obtain⟨p2,k3⟩:=i8.zi;have k0:=i8.Zz;have kf:=i8.fz;have i9:=(((i8.IZ (iV 0)).IY (iV x)).IX (.int .u64 0)).Zh 6;have x9:=(((x8.other Zk (o+14) (iV 0)).other Zk (o+15) (iV x)).other Zk (o+16) (.int .u64 0)).other Zk o (iV 6);have v9:=(((v8.ZX hbb (o+14) (iV 0)).ZX hbb (o+15) (iV x)).ZX hbb (o+16) (.int .u64 0)).ZX hbb o (iV 6);have u1:=x9.at0 1 rfl;obtain⟨y0,y1,y2,y3,y4,y5,y6,y7,y8⟩:=id v9)
  | (go_at_call 175;refine(la _).mono ?_;rintro e w9 ⟨rfl,b9⟩;have i10:=i9.grown b9;have t0:=i10.Zz;have tf:=i10.fz))
 go_end0
 exact⟨rfl,_,_,_,(((((m8.ZX hb _ _).ZX hb _ _).ZX hb _ _).ZX hb _ _).below b9),(((((o8.set _ _).set _ _).set _ _).set _ _).trans (Only.ZZ b9)),i10,((((Same.refl.set (by omega) _).set (by omega) _).set (by omega) _).set (by omega) _),rfl,by simp[hgl,Vy]⟩
theorem Ns {w:World} {L:Loc} {s:Mm} {b o:Nat} {T:TypeId} {cs:Array Value} {t n k m:Nat} {g p r:Int} {a:DV} (h:Z9 w L s) (hb:¬ L.has b) (hi:ZK w b o T cs a) (who:Int) (hG:Good t n k m g p r) {x:Nat} {G:Int} {i:Nat} (hc:a.ch=i) (hik:i<k) {Z:Int} (hz:a.sz=Z) {κ:Nat} (Ew:ZE Z=κ) (hκ:κ<4) (hn:(6+t+n * 2+i * 3+1)<s.n) (hl:g<=G) :
 Calls Tryz.prog 164 #[pP b o,eV t n k m g p r L.p who,.agg #[iV x,iV G]] w fun e w'=>e=.returned (.tuple #[])/\XO L b o T cs w w' (fun s' a'=>s'=((s.by who).step (6+t+n * 2+i * 3+1) (sum64 (s.wd (6+t+n * 2+i * 3+1)) (Xu (-(room κ:Int)))))/\a'={ a with gl:=Vy 0 x 0,nx:=7 }):=by
 have HZ:Hid (a.sz=Z):=hz
 have HC:Hid (a.ch=i):=hc
 have lc:=fun w=>Xg Z w
 rw[Ew] at lc
 have hk1:=hG.k1
 have ht1:=hG.t1
 have hn1:=hG.s1
 have hr:=YV κ
 have la:=fun w=>UR t n k m g p r G w
 rw[decide_eq_true hl] at la
 clear hz hc Ew
 obtain⟨hbv,hbb⟩:=nb h hi.lt
 have Zn:¬ L.has (w.heap.size+1):=fun hh=>by have:=h.lt _ hh;omega
 have Zk:¬ w.heap.size+1=b:=fun hh=>by have:=hi.lt;omega
 go_enter Tryz.func164,Tryz.ntmps164
 go_wp2
 refine ZW (fun W=>Z9 W L s/\ZK W b o T cs a/\ZU W w.heap.size t n k m g p r L.p who/\At W (w.heap.size+1) 0 75 #[iV x,iV G] [iV x,iV G]/\Only (L.and b) w W) ⟨(h.alloc _).alloc _,(hi.grown (ZY _ _)).grown (ZY _ _),ZU.YF _,At.Yy _ _ _ _,((Only.refl _ _).alloc _).alloc _⟩ ?_
 rintro W ⟨m1,i1,v1,x1,o1⟩
 apply Xt 16;. kernel_rfl
 apply rV;. intro w' hg _;apply ol;have y:=(v1.dg hg).yy;go_simp;exact gl
 apply rV;. intros;apply ol;go_simp;exact gl
 apply rV;. intro w' hg _;apply ol;have y:=(v1.dg hg).yy;go_simp;exact gl
 iterate 3 (apply rV;. intros;apply ol;go_simp;exact gl)
 try simp only[pu,s0,s1]
 apply rV;. intro w' hg _;apply ol;have z:=(i1.drew.grown hg).Ha;rw[HC.out] at z;go_simp;exact gl
 apply rV;. intro w' hg _;apply ol;go_simp;exact cb (WX _ _ _ _ _ _ _ (i:Int) _ hG.arena (by omega) (by omega))
 apply rV (c:=iV (((6+t+n * 2+i * 3+1):Nat):Int));. intro w' hg _;apply ol;go_simp;exact⟨Grown.refl _,congrArg (Value.int .i64) (by rw[IntKind.wrap_i64];omega)⟩
 iterate 3 (apply rV;. intros;apply ol;go_simp;exact gl)
 try simp only[pu,s0,s1]
 apply rV;. intro w' hg _;apply ol;have z:=(i1.drew.grown hg).Xh;rw[HZ.out] at z;go_simp;exact gl
 apply rV;. intro w' hg _;apply ol;go_simp;exact cc (lc _)
 apply rV;. intro w' hg _;apply ol;go_simp;exact cc (YC κ hκ _)
 apply X9 (c:=iV (-(room κ:Int)));. intro w' hg _;apply ol;go_simp;exact⟨Grown.refl _,congrArg (Value.int .i64) (by rw[IntKind.wrap_i64];omega)⟩
 try simp only[pu,s0,s1]
 intro w5 hg _
 have m5:=m1.drew.below hg
 have i5:=i1.drew.grown hg
 have v5:=v1.dg hg
 have x5:=x1.drew.grown hg
 have o5:=o1.og hg
 clear hg m1 i1 v1 x1 o1
 obtain⟨z0,z1,z2,hgl⟩:=yj hi.Wl
 go_wp2_with (first
  | (go_at_call 128;refine(OO m5 _ _ _ _ _ _ _ _ (6+t+n * 2+i * 3+1) hn _).mono ?_;rintro e w6 ⟨rfl,m6,o6⟩;have x6:=x5.only o6 Zn;have v6:=v5.only o6 hbv;have i6:=i5.only o6 hb;have u0:=x6.at0 0 rfl;have o7:=o5.trans (o6.Yf (b:=b)))
  | (go_at_call 127;refine(Vk x _).mono ?_;rintro e w8 ⟨rfl,rfl⟩;have i8:=i6.grown (ZY _ (.cells #[iV 0,iV x,.int .u64 0] 152));have x8:=x6.grown (ZY _ (.cells #[iV 0,iV x,.int .u64 0] 152));have v8:=v6.grown (ZY _ (.cells #[iV 0,iV x,.int .u64 0] 152));have m8:=m6.alloc (.cells #[iV 0,iV x,.int .u64 0] 152);have o8:=o7.alloc (.cells #[iV 0,iV x,.int .u64 0] 152);obtain⟨p0,k1⟩:=i8.zn;obtain⟨p1,k2⟩:=i8.zl;obtain⟨p2,k3⟩:=i8.zi;have k0:=i8.Zz;have kf:=i8.fz;have i9:=(((i8.IZ (iV 0)).IY (iV x)).IX (.int .u64 0)).Zh 6;have x9:=(((x8.other Zk (o+14) (iV 0)).other Zk (o+15) (iV x)).other Zk (o+16) (.int .u64 0)).other Zk o (iV 6);have v9:=(((v8.ZX hbb (o+14) (iV 0)).ZX hbb (o+15) (iV x)).ZX hbb (o+16) (.int .u64 0)).ZX hbb o (iV 6);have u1:=x9.at0 1 rfl;obtain⟨y0,y1,y2,y3,y4,y5,y6,y7,y8⟩:=id v9)
  | (go_at_call 175;refine(la _).mono ?_;rintro e w9 ⟨rfl,b9⟩;have i10:=i9.grown b9;have t0:=i10.Zz;have tf:=i10.fz))
 go_end0
 exact⟨rfl,_,_,_,(((((m8.ZX hb _ _).ZX hb _ _).ZX hb _ _).ZX hb _ _).below b9).ZX hb _ _,(((((o8.set _ _).set _ _).set _ _).set _ _).trans (Only.ZZ b9)).set _ _,i10.Zh 7,((((Same.refl.set (by omega) _).set (by omega) _).set (by omega) _).set (by omega) _).set (by omega) _,rfl,by simp[hgl,Vy]⟩
end Go.Proofs.YtpbghmeikcphnaaGreat
