import Derived.Test.YtpbghmeikcphnabGreatDropAsk
namespace Go.Proofs.YtpbghmeikcphnabGreat
open Go.RowKit
set_option maxHeartbeats 1000000
set_option maxRecDepth 20000
theorem Ej {w:World} {L:Loc} {s:Mm} {b o:Nat} {T:TypeId} {cs:Array Value} {t n k m:Nat} {g p r:Int} {a:DV} (h:Z8 w L s) (hb:¬ L.has b) (hi:ZK w b o T cs a) (who:Int) (hG:Good t n k m g p r) {x:Nat} {G:Int} (hx:x<n) (hn:(6+t+x * 2)<s.n) {st:Int} {A:Nat} {Gs V:Int} (hs:Zf a.se st A Gs V) (hd:decide (s.wd (6+t+x * 2)=a.se)=false) :
 Calls Tryz.prog 154 #[pP b o,eV t n k m g p r L.p who,.agg #[iV x,iV G]] w fun e w'=>e=.returned (.tuple #[])/\XJ L b o T cs w w' (fun s' a'=>s'=((s.by who).Vo (6+t+x * 2) a.se (Zu 4 A Gs (V+1)))/\a'={ a with nx:=0 }):=by
 have HD:Hid (decide (s.wd (6+t+x * 2)=a.se)=false):=hd
 have sw:=hs.call
 have hs1:=hG.s1
 have ab:(A:Int)<=1048575:=by have:=hs.ad;omega
 have gb:0<=Gs/\Gs<=65535:=by have:=hs.gn;omega
 have vb:0<=V/\V<=4194303:=by have:=hs.vr;omega
 have ps:=fun w=>Yk 4 A Gs (V+1) w ⟨by omega,by omega⟩ ⟨by omega,by omega⟩ ⟨by omega,by omega⟩ ⟨by omega,by omega⟩
 have hvw:IntKind.i64.wrap (V+1)=V+1:=by rw[IntKind.wrap_i64];omega
 clear hd hs
 obtain⟨hbv,hbb⟩:=nb h hi.lt
 have Zm:¬ L.has (w.heap.size+1):=fun hh=>by have:=h.lt _ hh;omega
 have Zj:¬ w.heap.size+1=b:=fun hh=>by have:=hi.lt;omega
 have i0:=(hi.grown (ZY _ (.cells #[iV t,iV n,iV k,iV m,iV g,iV p,iV r,pP L.p 0,iV who] 26))).grown (ZY _ (.cells #[iV x,iV G] 173))
 have k3:=i0.Ya
 go_enter Tryz.func154,Tryz.ntmps154
 go_wp2_with (first
  | (go_at_call 114;refine(sw _).mono ?_;rintro e w3 ⟨rfl,b3⟩)
  | (go_at_call 48;refine(ps _).mono ?_;rintro e w5 ⟨rfl,b5⟩))
 refine ZW (fun W=>Z8 W L s/\ZK W b o T cs a/\ZR W w.heap.size t n k m g p r L.p who/\At W (w.heap.size+1) 0 173 #[iV x,iV G] [iV x,iV G]/\Only (L.and b) w W) ⟨((((h.alloc _).alloc _).below b3).alloc _).below b5,((i0.grown b3).grown (ZY _ _)).grown b5,(((ZR.YA _).grown b3).grown (ZY _ _)).grown b5,(((At.Yx _ _ _ [iV (x:Nat),iV G]).grown b3).grown (ZY _ _)).grown b5,(((((Only.refl _ _).alloc _).alloc _).trans (Only.ZZ b3)).alloc _).trans (Only.ZZ b5)⟩ ?_
 clear b3 b5 i0 k3 sw ps
 rintro W ⟨m1,i1,v1,x1,o1⟩
 apply Xo 11;. kernel_rfl
 apply rV;. intro w' hg _;apply ol;have y:=(v1.dg hg).yy;go_simp;exact gl
 apply rV;. intros;apply ol;go_simp;exact gl
 apply rV;. intro w' hg _;apply ol;have y:=(v1.dg hg).yy;go_simp;exact gl
 apply rV;. intros;apply ol;go_simp;exact gl
 apply rV;. intro w' hg _;apply ol;have z:=(x1.drew.grown hg).at0 0 rfl;go_simp;exact gl
 apply rV (c:=iV (((6+t+x * 2):Nat):Int));. intro w' hg _;apply ol;go_simp;refine(Ze _ _ _ _ _ _ _ (x:Int) _ hG.arena (by omega) (by omega)).mono ?_;rintro e w'' ⟨rfl,b9⟩;exact⟨_,rfl,b9,congrArg (Value.int .i64) (by omega)⟩
 try simp only[pu,s0,s1]
 iterate 3 (apply rV;. intros;apply ol;go_simp;exact gl)
 apply rV;. intro w' hg _;apply ol;have z:=(i1.drew.grown hg).Ya;go_simp;exact gl
 apply X8;. intros;apply ol;go_simp;exact gl
 try simp only[pu,s0,s1]
 intro w7 hg _
 have m7:=m1.drew.below hg
 have i7:=i1.drew.grown hg
 have x7:=x1.drew.grown hg
 have o7:Only (L.and b) w w7:=o1.drew.trans (Only.ZZ hg)
 clear hg m1 i1 v1 x1 o1
 go_wp2_with (go_at_call 139;refine(YC m7 _ _ _ _ _ _ _ _ (6+t+x * 2) hn _ _).mono ?_;rintro e w8 ⟨rfl,m8,o8⟩;rw[HD.out];have i8:=i7.only o8 hb;have k0:=i8.Zz;have kf:=i8.fz)
 refine bodyPost_ret (results_none rfl _ _ _) rfl ?_
 exact⟨rfl,_,_,_,m8.ZX hb _ _,(o7.trans (o8.Yd (b:=b))).set _ _,i8.Zh 0,Same.refl.set (by omega) _,rfl,rfl⟩
theorem GU {w:World} {L:Loc} {s:Mm} {b o:Nat} {T:TypeId} {cs:Array Value} {t n k m:Nat} {g p r:Int} {a:DV} (h:Z8 w L s) (hb:¬ L.has b) (hi:ZK w b o T cs a) (who:Int) (hG:Good t n k m g p r) {x:Nat} {G:Int} (hx:x<n) (hn:(6+t+x * 2)<s.n) {Z:Int} (hz:a.sz=Z) {st:Int} {A:Nat} {Gs V:Int} (hs:Zf a.se st A Gs V) (hd:decide (s.wd (6+t+x * 2)=a.se)=true) :
 Calls Tryz.prog 154 #[pP b o,eV t n k m g p r L.p who,.agg #[iV x,iV G]] w fun e w'=>e=.returned (.tuple #[])/\XJ L b o T cs w w' (fun s' a'=>s'=((s.by who).Vo (6+t+x * 2) a.se (Zu 4 A Gs (V+1)))/\a'={ a with hl:=Yr x (Zu 4 A Gs (V+1)) Z 0 0 false false false,nx:=4 }):=by
 have HD:Hid (decide (s.wd (6+t+x * 2)=a.se)=true):=hd
 have sw:=hs.call
 have hs1:=hG.s1
 have ab:(A:Int)<=1048575:=by have:=hs.ad;omega
 have gb:0<=Gs/\Gs<=65535:=by have:=hs.gn;omega
 have vb:0<=V/\V<=4194303:=by have:=hs.vr;omega
 have ps:=fun w=>Yk 4 A Gs (V+1) w ⟨by omega,by omega⟩ ⟨by omega,by omega⟩ ⟨by omega,by omega⟩ ⟨by omega,by omega⟩
 have hvw:IntKind.i64.wrap (V+1)=V+1:=by rw[IntKind.wrap_i64];omega
 have HZ:Hid (a.sz=Z):=hz
 clear hd hs hz
 obtain⟨hbv,hbb⟩:=nb h hi.lt
 have Zm:¬ L.has (w.heap.size+1):=fun hh=>by have:=h.lt _ hh;omega
 have Zj:¬ w.heap.size+1=b:=fun hh=>by have:=hi.lt;omega
 have i0:=(hi.grown (ZY _ (.cells #[iV t,iV n,iV k,iV m,iV g,iV p,iV r,pP L.p 0,iV who] 26))).grown (ZY _ (.cells #[iV x,iV G] 173))
 have k3:=i0.Ya
 go_enter Tryz.func154,Tryz.ntmps154
 go_wp2_with (first
  | (go_at_call 114;refine(sw _).mono ?_;rintro e w3 ⟨rfl,b3⟩)
  | (go_at_call 48;refine(ps _).mono ?_;rintro e w5 ⟨rfl,b5⟩))
 refine ZW (fun W=>Z8 W L s/\ZK W b o T cs a/\ZR W w.heap.size t n k m g p r L.p who/\At W (w.heap.size+1) 0 173 #[iV x,iV G] [iV x,iV G]/\Only (L.and b) w W) ⟨((((h.alloc _).alloc _).below b3).alloc _).below b5,((i0.grown b3).grown (ZY _ _)).grown b5,(((ZR.YA _).grown b3).grown (ZY _ _)).grown b5,(((At.Yx _ _ _ [iV (x:Nat),iV G]).grown b3).grown (ZY _ _)).grown b5,(((((Only.refl _ _).alloc _).alloc _).trans (Only.ZZ b3)).alloc _).trans (Only.ZZ b5)⟩ ?_
 clear b3 b5 i0 k3 sw ps
 rintro W ⟨m1,i1,v1,x1,o1⟩
 apply Xo 11;. kernel_rfl
 apply rV;. intro w' hg _;apply ol;have y:=(v1.dg hg).yy;go_simp;exact gl
 apply rV;. intros;apply ol;go_simp;exact gl
 apply rV;. intro w' hg _;apply ol;have y:=(v1.dg hg).yy;go_simp;exact gl
 apply rV;. intros;apply ol;go_simp;exact gl
 apply rV;. intro w' hg _;apply ol;have z:=(x1.drew.grown hg).at0 0 rfl;go_simp;exact gl
 apply rV (c:=iV (((6+t+x * 2):Nat):Int));. intro w' hg _;apply ol;go_simp;refine(Ze _ _ _ _ _ _ _ (x:Int) _ hG.arena (by omega) (by omega)).mono ?_;rintro e w'' ⟨rfl,b9⟩;exact⟨_,rfl,b9,congrArg (Value.int .i64) (by omega)⟩
 try simp only[pu,s0,s1]
 iterate 3 (apply rV;. intros;apply ol;go_simp;exact gl)
 apply rV;. intro w' hg _;apply ol;have z:=(i1.drew.grown hg).Ya;go_simp;exact gl
 apply X8;. intros;apply ol;go_simp;exact gl
 try simp only[pu,s0,s1]
 intro w7 hg _
 have m7:=m1.drew.below hg
 have i7:=i1.drew.grown hg
 have x7:=x1.drew.grown hg
 have o7:Only (L.and b) w w7:=o1.drew.trans (Only.ZZ hg)
 clear hg m1 i1 v1 x1 o1
 go_wp2_with (go_at_call 139;refine(YC m7 _ _ _ _ _ _ _ _ (6+t+x * 2) hn _ _).mono ?_;rintro e w8 ⟨rfl,m8,o8⟩;rw[HD.out];have i8:=i7.only o8 hb;have k0:=i8.Zz;have kf:=i8.fz)
 refine ZW (fun W=>Z8 W L ((s.by who).Vo (6+t+x * 2) a.se (Zu 4 A Gs (V+1)))/\ZK W b o T cs a/\At W (w.heap.size+1) 0 173 #[iV x,iV G] [iV x,iV G]/\Only (L.and b) w W) ⟨m8,i8,x7.only o8 Zm,o7.trans (o8.Yd (b:=b))⟩ ?_
 clear m7 i7 x7 o7 m8 i8 o8 k0 kf
 rintro W ⟨m1,i1,x1,o1⟩
 refine Y5 Grown 13 [.val (pP b o),.val (.pointer (some ⟨w.heap.size+1,0,none⟩)),.val (iV (x:Nat)),.val (.int .u64 (Zu 4 A Gs (V+1))),.val (pP b o),.val (pP b o),.val (pP b (o+5)),.val (iV Z),.that (fun w' v=>∃ X,v=(pP X 0)/\At w' X 0 130 (Yr x (Zu 4 A Gs (V+1)) Z 0 0 false false false).toArray (Yr x (Zu 4 A Gs (V+1)) Z 0 0 false false false)) (fun _ _ _ hg h=>h.imp fun X k=>⟨k.1,k.2.grown hg⟩),.that (fun w' v=>∃ X,v=(pP X 0)/\At w' X 0 130 (Yr x (Zu 4 A Gs (V+1)) Z 0 0 false false false).toArray (Yr x (Zu 4 A Gs (V+1)) Z 0 0 false false false)) (fun _ _ _ hg h=>h.imp fun X k=>⟨k.1,k.2.grown hg⟩),.val (.agg #[iV x,.int .u64 (Zu 4 A Gs (V+1)),iV Z,iV 0,.int .u64 0,.bool false,.bool false,.bool false]),.val (pP b o),.val (pP b (o+6))] (by kernel_rfl) Grown.refl Grown.trans (by decide) (by kernel_rfl) (by kernel_rfl) (by kernel_rfl) (by kernel_rfl) (by kernel_rfl) (by kernel_rfl) ?_
 simp only[List.take_succ_cons,List.take_zero,Zt,Act.put,List.setIfInBounds_toArray,List.set_cons_zero,List.set_cons_succ]
 refine⟨?_,?_,?_,?_,?_,?_,?_,?_,?_,fun v1=>⟨?_,fun v2=>⟨?_,?_,?_,?_⟩⟩⟩
 . intros;apply ol;go_simp;exact gl
 . intros;apply ol;go_simp;exact gl
 . intro w' hg _;apply ol;have z:=(x1.drew.grown hg).at0 0 rfl;go_simp;exact gl
 . intros;apply ol;go_simp;exact gl
 . intros;apply ol;go_simp;exact gl
 . intros;apply ol;go_simp;exact gl
 . intros;apply ol;go_simp;exact gl
 . intro w' hg _;apply ol;have z:=(i1.drew.grown hg).WX;rw[HZ.out] at z;go_simp;exact gl
 . intro w' hg _;apply ol;have q:=At.new w' 130 (Yr x (Zu 4 A Gs (V+1)) Z 0 0 false false false);go_simp;refine(Rz x (Zu 4 A Gs (V+1)) Z _).mono ?_;rintro e w'' ⟨rfl,rfl⟩;exact⟨_,rfl,ZY _ _,_,rfl,q⟩
 . intro w' hg hf
   apply ol
   obtain⟨X,rfl,q⟩:=hf.1 (by kernel_rfl)
   go_simp
   exact⟨Grown.refl _,X,rfl,q⟩
 . intro w' hg hf
   apply ol
   obtain⟨X,rfl,q⟩:=hf.1 (by kernel_rfl)
   have z0:=q.at0 0 rfl
   have z1:=q.at0 1 rfl
   have z2:=q.at0 2 rfl
   have z3:=q.at0 3 rfl
   have z4:=q.at0 4 rfl
   have z5:=q.at0 5 rfl
   have z6:=q.at0 6 rfl
   have z7:=q.at0 7 rfl
   go_simp
   exact gl
 . intros;apply ol;go_simp;exact gl
 . intros;apply ol;go_simp;exact gl
 intro w9 hg _
 have m10:=m1.drew.below hg
 have i10:=i1.drew.grown hg
 have oV:Only (L.and b) w w9:=o1.drew.trans (Only.ZZ hg)
 clear hg m1 i1 x1 o1
 obtain⟨l0,p0⟩:=i10.yZ
 obtain⟨l1,p1⟩:=i10.yY
 obtain⟨l2,p2⟩:=i10.yX
 obtain⟨l3,p3⟩:=i10.yV
 obtain⟨l4,p4⟩:=i10.yU
 obtain⟨l5,p5⟩:=i10.yT
 obtain⟨l6,p6⟩:=i10.yS
 obtain⟨l7,p7⟩:=i10.yR
 have kf:=i10.fz
 have k0:=i10.Zz
 go_wp2
 go_end0
 obtain⟨y0,y1,y2,y3,y4,y5,y6,y7,hl⟩:=len8 hi.X3
 exact⟨rfl,_,_,_,(((((((((m10.ZX hb _ _).ZX hb _ _).ZX hb _ _).ZX hb _ _).ZX hb _ _).ZX hb _ _).ZX hb _ _).ZX hb _ _).ZX hb _ _),(((((((((oV.set _ _).set _ _).set _ _).set _ _).set _ _).set _ _).set _ _).set _ _).set _ _),((((((((i10.IZ _).IY _).IX _).IW _).IV _).IU _).IQ _).IP _).Zh 4,(((((((((Same.refl.set (by omega) _).set (by omega) _).set (by omega) _).set (by omega) _).set (by omega) _).set (by omega) _).set (by omega) _).set (by omega) _).set (by omega) _),rfl,by simp[hl,Yr]⟩
theorem Ag {w:World} {L:Loc} {s:Mm} {b o:Nat} {T:TypeId} {cs:Array Value} {t n k m:Nat} {g p r:Int} {a:DV} (h:Z8 w L s) (hi:ZK w b o T cs a) (who:Int) {x:Nat} {G:Int} (X:Mm->List Value->Prop) (hX:∀ s' l',X s' l'->l'.length=8)
 (hc:∀ w1:World,Z8 w1 L s->At w1 b (o+6) T cs a.hl->Calls Tryz.prog 155 #[pP b (o+6),eV t n k m g p r L.p who] w1 fun e w'=>e=.returned (.bool false)/\VY L b (o+6) T cs w1 w' X) :
 Calls Tryz.prog 156 #[pP b o,eV t n k m g p r L.p who,.agg #[iV x,iV G]] w fun e w'=>e=.returned (.tuple #[])/\XJ L b o T cs w w' (fun s' a'=>∃ l',X s' l'/\a'={ a with hl:=l' }):=by
 obtain⟨hbv,hbb⟩:=nb h hi.lt
 have Zm:¬ L.has (w.heap.size+1):=fun hh=>by have:=h.lt _ hh;omega
 have Zj:¬ w.heap.size+1=b:=fun hh=>by have:=hi.lt;omega
 go_enter Tryz.func156,Tryz.ntmps156
 go_wp2
 refine ZW (fun W=>Z8 W L s/\ZK W b o T cs a/\ZR W w.heap.size t n k m g p r L.p who/\At W (w.heap.size+1) 0 173 #[iV x,iV G] [iV x,iV G]/\Only (L.and b) w W) ⟨(h.alloc _).alloc _,(hi.grown (ZY _ _)).grown (ZY _ _),ZR.YA _,At.Yx _ _ _ _,((Only.refl _ _).alloc _).alloc _⟩ ?_
 rintro W ⟨m1,i1,v1,x1,o1⟩
 apply Xo 4;. kernel_rfl
 iterate 3 (apply rV;. intros;apply ol;go_simp;exact gl)
 apply X8;. intro w' hg _;apply ol;have y:=(v1.dg hg).yy;go_simp;exact gl
 try simp only[pu,s0,s1]
 intro w5 hg _
 have m5:=m1.drew.below hg
 have i5:=i1.drew.grown hg
 have v5:=v1.dg hg
 have x5:=x1.drew.grown hg
 have o5:=o1.og hg
 clear hg m1 i1 v1 x1 o1
 go_wp2_with (go_at_call 155;refine(hc _ m5 i5.hlAt).mono ?_;rintro e w6 ⟨rfl,s6,VI,l6,m6,o6,i6,q6,p6⟩;have i7:=i5.Q4 i6 (hX _ _ p6) q6;have o7:=o5.trans o6;have q7:Same o 21 cs VI:=q6.wide (by omega) (by omega))
 refine bodyPost_ret (results_none rfl _ _ _) rfl ?_
 exact⟨rfl,s6,_,_,m6,o7,i7,q7,l6,p6,rfl⟩
theorem GR {w:World} {L:Loc} {s:Mm} {b o:Nat} {T:TypeId} {cs:Array Value} {t n k m:Nat} {g p r:Int} {a:DV} (h:Z8 w L s) (hb:¬ L.has b) (hi:ZK w b o T cs a) (who:Int) (hG:Good t n k m g p r) {x:Nat} {G:Int} (hx:x<n) (X:Mm->List Value->Prop) (hX:∀ s' l',X s' l'->l'.length=8) (hn:∀ s' l',X s' l'->(6+t+x * 2)<s'.n)
 (hc:∀ w1:World,Z8 w1 L s->At w1 b (o+6) T cs a.hl->Calls Tryz.prog 155 #[pP b (o+6),eV t n k m g p r L.p who] w1 fun e w'=>e=.returned (.bool true)/\VY L b (o+6) T cs w1 w' X) :
 Calls Tryz.prog 156 #[pP b o,eV t n k m g p r L.p who,.agg #[iV x,iV G]] w fun e w'=>e=.returned (.tuple #[])/\XJ L b o T cs w w' (fun s' a'=>∃ l',X s' l'/\a'={ a with hl:=l',St:=s'.wn (6+t+x * 2),nx:=5 }):=by
 have hs1:=hG.s1
 obtain⟨hbv,hbb⟩:=nb h hi.lt
 have Zm:¬ L.has (w.heap.size+1):=fun hh=>by have:=h.lt _ hh;omega
 have Zj:¬ w.heap.size+1=b:=fun hh=>by have:=hi.lt;omega
 go_enter Tryz.func156,Tryz.ntmps156
 go_wp2
 refine ZW (fun W=>Z8 W L s/\ZK W b o T cs a/\ZR W w.heap.size t n k m g p r L.p who/\At W (w.heap.size+1) 0 173 #[iV x,iV G] [iV x,iV G]/\Only (L.and b) w W) ⟨(h.alloc _).alloc _,(hi.grown (ZY _ _)).grown (ZY _ _),ZR.YA _,At.Yx _ _ _ _,((Only.refl _ _).alloc _).alloc _⟩ ?_
 rintro W ⟨m1,i1,v1,x1,o1⟩
 apply Xo 4;. kernel_rfl
 iterate 3 (apply rV;. intros;apply ol;go_simp;exact gl)
 apply X8;. intro w' hg _;apply ol;have y:=(v1.dg hg).yy;go_simp;exact gl
 try simp only[pu,s0,s1]
 intro w5 hg _
 have m5:=m1.drew.below hg
 have i5:=i1.drew.grown hg
 have v5:=v1.dg hg
 have x5:=x1.drew.grown hg
 have o5:=o1.og hg
 clear hg m1 i1 v1 x1 o1
 go_wp2_with (go_at_call 155;refine(hc _ m5 i5.hlAt).mono ?_;rintro e w6 ⟨rfl,s6,VI,l6,m6,o6,i6,q6,p6⟩;have i7:=i5.Q4 i6 (hX _ _ p6) q6;have o7:=o5.trans o6;have q7:Same o 21 cs VI:=q6.wide (by omega) (by omega))
 refine ZW (fun W=>Z8 W L s6/\ZK W b o T VI { a with hl:=l6 }/\ZR W w.heap.size t n k m g p r L.p who/\At W (w.heap.size+1) 0 173 #[iV x,iV G] [iV x,iV G]/\Only (L.and b) w W) ⟨m6,i7,v5.only o6 (fun hh=>hh.elim hbv hbb),x5.only o6 (fun hh=>hh.elim Zm Zj),o7⟩ ?_
 clear m5 i5 v5 x5 o5 m6 i6 i7 o6 o7 q6
 rintro W ⟨m1,i1,v1,x1,o1⟩
 apply Xo 12;. kernel_rfl
 iterate 2 (apply rV;. intros;apply ol;go_simp;exact gl)
 apply rV;. intro w' hg _;apply ol;have y:=(v1.dg hg).yy;go_simp;exact gl
 apply rV;. intros;apply ol;go_simp;exact gl
 apply rV;. intro w' hg _;apply ol;have y:=(v1.dg hg).yy;go_simp;exact gl
 apply rV;. intros;apply ol;go_simp;exact gl
 try simp only[pu,s0,s1]
 apply rV;. intro w' hg _;apply ol;have z:=(x1.drew.grown hg).at0 0 rfl;go_simp;exact gl
 apply rV (c:=iV (((6+t+x * 2):Nat):Int));. intro w' hg _;apply ol;go_simp;refine(Ze _ _ _ _ _ _ _ (x:Int) _ hG.arena (by omega) (by omega)).mono ?_;rintro e w'' ⟨rfl,b9⟩;exact⟨_,rfl,b9,congrArg (Value.int .i64) (by omega)⟩
 apply rV;. intro w' hg _;apply ol;go_simp;exact cc (Af (m1.drew.below hg) (6+t+x * 2) (hn _ _ p6))
 iterate 2 (apply rV;. intros;apply ol;go_simp;exact gl)
 apply X8;. intros;apply ol;go_simp;exact gl
 try simp only[pu,s0,s1]
 intro w8 hg _
 have m8:=m1.drew.below hg
 have i8:=i1.drew.grown hg
 have o8:Only (L.and b) w w8:=o1.drew.trans (Only.ZZ hg)
 clear hg m1 i1 v1 x1 o1
 have k1:=i8.QV
 have k0:=i8.Zz
 have kf:=i8.fz
 go_wp2
 go_end0
 exact⟨rfl,s6,_,_,(m8.ZX hb _ _).ZX hb _ _,(o8.set _ _).set _ _,(i8.Uk _).Zh 5,(q7.set (by omega) _).set (by omega) _,l6,p6,rfl⟩
theorem Nj {w:World} {L:Loc} {s:Mm} {b o:Nat} {T:TypeId} {cs:Array Value} {t n k m:Nat} {g p r:Int} {a:DV} (h:Z8 w L s) (hb:¬ L.has b) (hi:ZK w b o T cs a) (who:Int) (hG:Good t n k m g p r) {x:Nat} {G:Int} {i:Nat} (hc:a.ch=i) (hik:i<k) {Z:Int} (hz:a.sz=Z) {κ:Nat} (tH:ZE Z=κ) (hκ:κ<4) (hn:(6+t+n * 2+i * 3+1)<s.n) (hl:G<g) :
 Calls Tryz.prog 157 #[pP b o,eV t n k m g p r L.p who,.agg #[iV x,iV G]] w fun e w'=>e=.returned (.tuple #[])/\XJ L b o T cs w w' (fun s' a'=>s'=((s.by who).step (6+t+n * 2+i * 3+1) (sum64 (s.wd (6+t+n * 2+i * 3+1)) (Xq (-(room κ:Int)))))/\a'={ a with gl:=Vl 0 x 0,nx:=6 }):=by
 have HZ:Hid (a.sz=Z):=hz
 have HC:Hid (a.ch=i):=hc
 have lc:=fun w=>WW Z w
 rw[tH] at lc
 have hk1:=hG.k1
 have ht1:=hG.t1
 have hn1:=hG.s1
 have hr:=YU κ
 have la:=fun w=>UH t n k m g p r G w
 rw[decide_eq_false (by omega)] at la
 clear hz hc tH
 obtain⟨hbv,hbb⟩:=nb h hi.lt
 have Zm:¬ L.has (w.heap.size+1):=fun hh=>by have:=h.lt _ hh;omega
 have Zj:¬ w.heap.size+1=b:=fun hh=>by have:=hi.lt;omega
 go_enter Tryz.func157,Tryz.ntmps157
 go_wp2
 refine ZW (fun W=>Z8 W L s/\ZK W b o T cs a/\ZR W w.heap.size t n k m g p r L.p who/\At W (w.heap.size+1) 0 173 #[iV x,iV G] [iV x,iV G]/\Only (L.and b) w W) ⟨(h.alloc _).alloc _,(hi.grown (ZY _ _)).grown (ZY _ _),ZR.YA _,At.Yx _ _ _ _,((Only.refl _ _).alloc _).alloc _⟩ ?_
 rintro W ⟨m1,i1,v1,x1,o1⟩
 apply Xo 16;. kernel_rfl
 apply rV;. intro w' hg _;apply ol;have y:=(v1.dg hg).yy;go_simp;exact gl
 apply rV;. intros;apply ol;go_simp;exact gl
 apply rV;. intro w' hg _;apply ol;have y:=(v1.dg hg).yy;go_simp;exact gl
 iterate 3 (apply rV;. intros;apply ol;go_simp;exact gl)
 try simp only[pu,s0,s1]
 apply rV;. intro w' hg _;apply ol;have z:=(i1.drew.grown hg).G5;rw[HC.out] at z;go_simp;exact gl
 apply rV;. intro w' hg _;apply ol;go_simp;exact cb (WQ _ _ _ _ _ _ _ (i:Int) _ hG.arena (by omega) (by omega))
 apply rV (c:=iV (((6+t+n * 2+i * 3+1):Nat):Int));. intro w' hg _;apply ol;go_simp;exact⟨Grown.refl _,congrArg (Value.int .i64) (by rw[IntKind.wrap_i64];omega)⟩
 iterate 3 (apply rV;. intros;apply ol;go_simp;exact gl)
 try simp only[pu,s0,s1]
 apply rV;. intro w' hg _;apply ol;have z:=(i1.drew.grown hg).WX;rw[HZ.out] at z;go_simp;exact gl
 apply rV;. intro w' hg _;apply ol;go_simp;exact cc (lc _)
 apply rV;. intro w' hg _;apply ol;go_simp;exact cc (YB κ hκ _)
 apply X8 (c:=iV (-(room κ:Int)));. intro w' hg _;apply ol;go_simp;exact⟨Grown.refl _,congrArg (Value.int .i64) (by rw[IntKind.wrap_i64];omega)⟩
 try simp only[pu,s0,s1]
 intro w5 hg _
 have m5:=m1.drew.below hg
 have i5:=i1.drew.grown hg
 have v5:=v1.dg hg
 have x5:=x1.drew.grown hg
 have o5:=o1.og hg
 clear hg m1 i1 v1 x1 o1
 obtain⟨z0,z1,z2,hgl⟩:=xN hi.V5
 go_wp2_with (first
  | (go_at_call 119;refine(OJ m5 _ _ _ _ _ _ _ _ (6+t+n * 2+i * 3+1) hn _).mono ?_;rintro e w6 ⟨rfl,m6,o6⟩;have x6:=x5.only o6 Zm;have v6:=v5.only o6 hbv;have i6:=i5.only o6 hb;have u0:=x6.at0 0 rfl;have o7:=o5.trans (o6.Yd (b:=b)))
  | (go_at_call 118;refine(Va x _).mono ?_;rintro e w8 ⟨rfl,rfl⟩;have i8:=i6.grown (ZY _ (.cells #[iV 0,iV x,.int .u64 0] 126));have x8:=x6.grown (ZY _ (.cells #[iV 0,iV x,.int .u64 0] 126));have v8:=v6.grown (ZY _ (.cells #[iV 0,iV x,.int .u64 0] 126));have m8:=m6.alloc (.cells #[iV 0,iV x,.int .u64 0] 126);have o8:=o7.alloc (.cells #[iV 0,iV x,.int .u64 0] 126);obtain⟨p0,k1⟩:=i8.yQ;obtain⟨p1,k2⟩:=i8.yP;obtain⟨p2,k3⟩:=i8.yO;have k0:=i8.Zz;have kf:=i8.fz;have i9:=(((i8.IM (iV 0)).IL (iV x)).IK (.int .u64 0)).Zh 6;have x9:=(((x8.other Zj (o+14) (iV 0)).other Zj (o+15) (iV x)).other Zj (o+16) (.int .u64 0)).other Zj o (iV 6);have v9:=(((v8.ZX hbb (o+14) (iV 0)).ZX hbb (o+15) (iV x)).ZX hbb (o+16) (.int .u64 0)).ZX hbb o (iV 6);have u1:=x9.at0 1 rfl;obtain⟨y0,y1,y2,y3,y4,y5,y6,y7,y8⟩:=id v9)
  | (go_at_call 167;refine(la _).mono ?_;rintro e w9 ⟨rfl,b9⟩;have i10:=i9.grown b9;have t0:=i10.Zz;have tf:=i10.fz))
 go_end0
 exact⟨rfl,_,_,_,(((((m8.ZX hb _ _).ZX hb _ _).ZX hb _ _).ZX hb _ _).below b9),(((((o8.set _ _).set _ _).set _ _).set _ _).trans (Only.ZZ b9)),i10,((((Same.refl.set (by omega) _).set (by omega) _).set (by omega) _).set (by omega) _),rfl,by simp[hgl,Vl]⟩
theorem Nh {w:World} {L:Loc} {s:Mm} {b o:Nat} {T:TypeId} {cs:Array Value} {t n k m:Nat} {g p r:Int} {a:DV} (h:Z8 w L s) (hb:¬ L.has b) (hi:ZK w b o T cs a) (who:Int) (hG:Good t n k m g p r) {x:Nat} {G:Int} {i:Nat} (hc:a.ch=i) (hik:i<k) {Z:Int} (hz:a.sz=Z) {κ:Nat} (tH:ZE Z=κ) (hκ:κ<4) (hn:(6+t+n * 2+i * 3+1)<s.n) (hl:g<=G) :
 Calls Tryz.prog 157 #[pP b o,eV t n k m g p r L.p who,.agg #[iV x,iV G]] w fun e w'=>e=.returned (.tuple #[])/\XJ L b o T cs w w' (fun s' a'=>s'=((s.by who).step (6+t+n * 2+i * 3+1) (sum64 (s.wd (6+t+n * 2+i * 3+1)) (Xq (-(room κ:Int)))))/\a'={ a with gl:=Vl 0 x 0,nx:=7 }):=by
 have HZ:Hid (a.sz=Z):=hz
 have HC:Hid (a.ch=i):=hc
 have lc:=fun w=>WW Z w
 rw[tH] at lc
 have hk1:=hG.k1
 have ht1:=hG.t1
 have hn1:=hG.s1
 have hr:=YU κ
 have la:=fun w=>UH t n k m g p r G w
 rw[decide_eq_true hl] at la
 clear hz hc tH
 obtain⟨hbv,hbb⟩:=nb h hi.lt
 have Zm:¬ L.has (w.heap.size+1):=fun hh=>by have:=h.lt _ hh;omega
 have Zj:¬ w.heap.size+1=b:=fun hh=>by have:=hi.lt;omega
 go_enter Tryz.func157,Tryz.ntmps157
 go_wp2
 refine ZW (fun W=>Z8 W L s/\ZK W b o T cs a/\ZR W w.heap.size t n k m g p r L.p who/\At W (w.heap.size+1) 0 173 #[iV x,iV G] [iV x,iV G]/\Only (L.and b) w W) ⟨(h.alloc _).alloc _,(hi.grown (ZY _ _)).grown (ZY _ _),ZR.YA _,At.Yx _ _ _ _,((Only.refl _ _).alloc _).alloc _⟩ ?_
 rintro W ⟨m1,i1,v1,x1,o1⟩
 apply Xo 16;. kernel_rfl
 apply rV;. intro w' hg _;apply ol;have y:=(v1.dg hg).yy;go_simp;exact gl
 apply rV;. intros;apply ol;go_simp;exact gl
 apply rV;. intro w' hg _;apply ol;have y:=(v1.dg hg).yy;go_simp;exact gl
 iterate 3 (apply rV;. intros;apply ol;go_simp;exact gl)
 try simp only[pu,s0,s1]
 apply rV;. intro w' hg _;apply ol;have z:=(i1.drew.grown hg).G5;rw[HC.out] at z;go_simp;exact gl
 apply rV;. intro w' hg _;apply ol;go_simp;exact cb (WQ _ _ _ _ _ _ _ (i:Int) _ hG.arena (by omega) (by omega))
 apply rV (c:=iV (((6+t+n * 2+i * 3+1):Nat):Int));. intro w' hg _;apply ol;go_simp;exact⟨Grown.refl _,congrArg (Value.int .i64) (by rw[IntKind.wrap_i64];omega)⟩
 iterate 3 (apply rV;. intros;apply ol;go_simp;exact gl)
 try simp only[pu,s0,s1]
 apply rV;. intro w' hg _;apply ol;have z:=(i1.drew.grown hg).WX;rw[HZ.out] at z;go_simp;exact gl
 apply rV;. intro w' hg _;apply ol;go_simp;exact cc (lc _)
 apply rV;. intro w' hg _;apply ol;go_simp;exact cc (YB κ hκ _)
 apply X8 (c:=iV (-(room κ:Int)));. intro w' hg _;apply ol;go_simp;exact⟨Grown.refl _,congrArg (Value.int .i64) (by rw[IntKind.wrap_i64];omega)⟩
 try simp only[pu,s0,s1]
 intro w5 hg _
 have m5:=m1.drew.below hg
 have i5:=i1.drew.grown hg
 have v5:=v1.dg hg
 have x5:=x1.drew.grown hg
 have o5:=o1.og hg
 clear hg m1 i1 v1 x1 o1
 obtain⟨z0,z1,z2,hgl⟩:=xN hi.V5
 go_wp2_with (first
  | (go_at_call 119;refine(OJ m5 _ _ _ _ _ _ _ _ (6+t+n * 2+i * 3+1) hn _).mono ?_;rintro e w6 ⟨rfl,m6,o6⟩;have x6:=x5.only o6 Zm;have v6:=v5.only o6 hbv;have i6:=i5.only o6 hb;have u0:=x6.at0 0 rfl;have o7:=o5.trans (o6.Yd (b:=b)))
  | (go_at_call 118;refine(Va x _).mono ?_;rintro e w8 ⟨rfl,rfl⟩;have i8:=i6.grown (ZY _ (.cells #[iV 0,iV x,.int .u64 0] 126));have x8:=x6.grown (ZY _ (.cells #[iV 0,iV x,.int .u64 0] 126));have v8:=v6.grown (ZY _ (.cells #[iV 0,iV x,.int .u64 0] 126));have m8:=m6.alloc (.cells #[iV 0,iV x,.int .u64 0] 126);have o8:=o7.alloc (.cells #[iV 0,iV x,.int .u64 0] 126);obtain⟨p0,k1⟩:=i8.yQ;obtain⟨p1,k2⟩:=i8.yP;obtain⟨p2,k3⟩:=i8.yO;have k0:=i8.Zz;have kf:=i8.fz;have i9:=(((i8.IM (iV 0)).IL (iV x)).IK (.int .u64 0)).Zh 6;have x9:=(((x8.other Zj (o+14) (iV 0)).other Zj (o+15) (iV x)).other Zj (o+16) (.int .u64 0)).other Zj o (iV 6);have v9:=(((v8.ZX hbb (o+14) (iV 0)).ZX hbb (o+15) (iV x)).ZX hbb (o+16) (.int .u64 0)).ZX hbb o (iV 6);have u1:=x9.at0 1 rfl;obtain⟨y0,y1,y2,y3,y4,y5,y6,y7,y8⟩:=id v9)
  | (go_at_call 167;refine(la _).mono ?_;rintro e w9 ⟨rfl,b9⟩;have i10:=i9.grown b9;have t0:=i10.Zz;have tf:=i10.fz))
 go_end0
 exact⟨rfl,_,_,_,(((((m8.ZX hb _ _).ZX hb _ _).ZX hb _ _).ZX hb _ _).below b9).ZX hb _ _,(((((o8.set _ _).set _ _).set _ _).set _ _).trans (Only.ZZ b9)).set _ _,i10.Zh 7,((((Same.refl.set (by omega) _).set (by omega) _).set (by omega) _).set (by omega) _).set (by omega) _,rfl,by simp[hgl,Vl]⟩
end Go.Proofs.YtpbghmeikcphnabGreat
