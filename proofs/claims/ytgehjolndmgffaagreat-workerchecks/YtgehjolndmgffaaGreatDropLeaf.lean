import Derived.Test.YtgehjolndmgffaaGreatStruct
import Derived.Test.YtgehjolndmgffaaGreatLayRef
import Derived.Test.YtgehjolndmgffaaGreatPlaceTurn
namespace Go.Proofs.YtgehjolndmgffaaGreat
open Go.RowKit
set_option maxRecDepth 20000
theorem At.Xo (w:World) (O:Obj) (T:TypeId) (l:List Value):At ((w.alloc O).alloc (.cells l.toArray T)) (w.heap.size+1) 0 T l.toArray l:=by
 have:=At.new (w.alloc O) T l
 rwa [Go.Deep.nblk_alloc] at this
theorem At.wV (w:World) (O O':Obj) (T:TypeId) (l:List Value):At (((w.alloc O).alloc O').alloc (.cells l.toArray T)) (w.heap.size+1+1) 0 T l.toArray l:=by
 have:=At.Xo (w.alloc O) O' T l
 rwa [Go.Deep.nblk_alloc] at this
theorem ZZ (w:World) (O:Obj):Below w.heap.size w (w.alloc O):=Z7 (Below.refl _ _) _
def Y5 (st:Int):Bool:=st == 1 || st == 2 || st == 4
theorem NS (st:Int):(st=1/\Y5 st=true)\/(st≠1/\st=2/\Y5 st=true)\/(st≠1/\st≠2/\st=4/\Y5 st=true)\/(st≠1/\st≠2/\st≠4/\Y5 st=false):=by
 by_cases h1:st=1
 . subst h1;exact Or.inl ⟨rfl,rfl⟩
 . by_cases h2:st=2
   . subst h2;exact Or.inr (Or.inl ⟨h1,rfl,rfl⟩)
   . by_cases h4:st=4
     . subst h4;exact Or.inr (Or.inr (Or.inl ⟨h1,h2,rfl,rfl⟩))
     . exact Or.inr (Or.inr (Or.inr ⟨h1,h2,h4,by simp[Y5,h1,h2,h4]⟩))
theorem Vf (st A G V:Int) (w:World) :
 Calls Tryz.prog 193 #[.agg #[iV st,iV A,iV G,iV V]] w fun e w'=>e=.returned (.bool (Y5 st))/\Below w.heap.size w w':=by
 rcases NS st with⟨rfl,h⟩ | ⟨h1,rfl,h⟩ | ⟨h1,h2,rfl,h⟩ | ⟨h1,h2,h4,h⟩ <;> rw[h]
 . go_enter Tryz.func193,Tryz.ntmps193
   go_wp2
   go_ret
   exact⟨rfl,Z7 (Below.refl _ _) _⟩
 . clear h1
   go_enter Tryz.func193,Tryz.ntmps193
   go_wp2
   go_ret
   exact⟨rfl,Z7 (Below.refl _ _) _⟩
 . clear h1 h2
   go_enter Tryz.func193,Tryz.ntmps193
   go_wp2
   go_ret
   exact⟨rfl,Z7 (Below.refl _ _) _⟩
 . go_enter Tryz.func193,Tryz.ntmps193
   go_wp2
   go_ret
   exact⟨rfl,Z7 (Below.refl _ _) _⟩
theorem Um (st A G V x G':Int) (w:World) :
 Calls Tryz.prog 190 #[.agg #[iV st,iV A,iV G,iV V],.agg #[iV x,iV G']] w fun e w'=>e=.returned (.bool (Y5 st && G == G'))/\Below w.heap.size w w':=by
 obtain⟨l,hl⟩:∃ l,Y5 st=l:=⟨_,rfl⟩
 rw[hl]
 have H:Hid (Y5 st=l):=hl
 clear hl
 cases l
 . go_enter Tryz.func190,Tryz.ntmps190
   go_wp2_with (go_at_call 193;refine(Vf st A G V _).mono ?_;rintro e w1 ⟨rfl,b1⟩;rw[H.out])
   go_ret
   exact⟨rfl,grow (Z7 (Z7 (Below.refl _ _) _) _) b1⟩
 . go_enter Tryz.func190,Tryz.ntmps190
   have x0:=(At.new w 108 [iV st,iV A,iV G,iV V]).grown (ZZ _ (.cells #[iV x,iV G'] 213))
   have x1:=At.Xo w (.cells #[iV st,iV A,iV G,iV V] 108) 213 [iV x,iV G']
   go_wp2_with (go_at_call 193;refine(Vf st A G V _).mono ?_;rintro e w1 ⟨rfl,b1⟩;rw[H.out];have z0:=(x0.grown b1).at0 2 rfl;have z1:=(x1.grown b1).at0 1 rfl)
   go_ret
   exact⟨rfl,grow (Z7 (Z7 (Below.refl _ _) _) _) b1⟩
theorem Ud (t n k m g p r G:Int) (w:World) :
 Calls Tryz.prog 199 #[.agg #[iV t,iV n,iV k,iV m,iV g,iV p,iV r],iV G] w fun e w'=>e=.returned (.bool (decide (g<=G)))/\Below w.heap.size w w':=by
 go_enter Tryz.func199,Tryz.ntmps199
 go_wp2
 go_ret
 exact⟨rfl,Z7 (Below.refl _ _) _⟩
theorem Pz (t n k m g p r st A G V:Int) (h:g<=G) (w:World) :
 Calls Tryz.prog 200 #[.agg #[iV t,iV n,iV k,iV m,iV g,iV p,iV r],.agg #[iV st,iV A,iV G,iV V]] w fun e w'=>e=.returned (.agg #[iV 3,iV 0,iV G,iV 0])/\Below w.heap.size w w':=by
 have hd:decide (g<=G)=true:=decide_eq_true h
 have x1:=(At.Xo w (.cells #[iV t,iV n,iV k,iV m,iV g,iV p,iV r] 24) 108 [iV st,iV A,iV G,iV V]).grown (ZZ _ (.cells #[iV 0,iV 0,iV 0,iV 0] 108))
 have x2:=At.wV w (.cells #[iV t,iV n,iV k,iV m,iV g,iV p,iV r] 24) (.cells #[iV st,iV A,iV G,iV V] 108) 108 [iV 0,iV 0,iV 0,iV 0]
 go_enter Tryz.func200,Tryz.ntmps200
 go_wp2_with (go_at_call 199;refine(Ud _ _ _ _ _ _ _ _ _).mono ?_;rintro e w1 ⟨rfl,b1⟩;rw[hd];have z0:=(x1.grown b1).at0 2 rfl;have x3:=x2.grown b1;have q:=x3.fz;have y0:=x3.at0 0 rfl;have y1:=x3.at0 1 rfl;have y2:=x3.at0 2 rfl;have y3:=x3.at0 3 rfl)
 refine bodyPost_ret (v:=.agg #[iV 3,iV 0,iV G,iV 0]) (by simp[results,Tryz.results200,go_sem,y0,y1,y2,y3]) rfl ⟨rfl,?_⟩
 exact Z4 (Z4 (Z4 (Z4 (grow (Z7 (Z7 (Z7 (Below.refl _ _) _) _) _) b1) (by omega) _ _) (by omega) _ _) (by omega) _ _) (by omega) _ _
theorem PD (t n k m g p r st A G V:Int) (h:G<g) (g1:g<=65535) (h0:0<=G) (w:World) :
 Calls Tryz.prog 200 #[.agg #[iV t,iV n,iV k,iV m,iV g,iV p,iV r],.agg #[iV st,iV A,iV G,iV V]] w fun e w'=>e=.returned (.agg #[iV 0,iV 0,iV (G+1),iV 0])/\Below w.heap.size w w':=by
 have hd:decide (g<=G)=false:=decide_eq_false (by omega)
 have x1:=(At.Xo w (.cells #[iV t,iV n,iV k,iV m,iV g,iV p,iV r] 24) 108 [iV st,iV A,iV G,iV V]).grown (ZZ _ (.cells #[iV 0,iV 0,iV 0,iV 0] 108))
 have x2:=At.wV w (.cells #[iV t,iV n,iV k,iV m,iV g,iV p,iV r] 24) (.cells #[iV st,iV A,iV G,iV V] 108) 108 [iV 0,iV 0,iV 0,iV 0]
 go_enter Tryz.func200,Tryz.ntmps200
 go_wp2_with (go_at_call 199;refine(Ud _ _ _ _ _ _ _ _ _).mono ?_;rintro e w1 ⟨rfl,b1⟩;rw[hd];have z0:=(x1.grown b1).at0 2 rfl;have x3:=x2.grown b1;have q:=x3.fz;have y0:=x3.at0 0 rfl;have y1:=x3.at0 1 rfl;have y2:=x3.at0 2 rfl;have y3:=x3.at0 3 rfl)
 refine bodyPost_ret (v:=.agg #[iV 0,iV 0,iV (G+1),iV 0]) (by simp[results,Tryz.results200,go_sem,y0,y1,y2,y3]) rfl ⟨rfl,?_⟩
 exact Z4 (Z4 (Z4 (Z4 (grow (Z7 (Z7 (Z7 (Below.refl _ _) _) _) _) b1) (by omega) _ _) (by omega) _ _) (by omega) _ _) (by omega) _ _
theorem YA {w:World} {L:Loc} {s:Mm} {t n k m:Nat} {g p r:Int} (h:Z8 w L s) (hG:Good t n k m g p r) (hl:ZI t n k m<=s.n) (who:Int) (x:Nat) :
 Calls Tryz.prog 181 #[eV t n k m g p r L.p who,iV x] w fun e w'=>e=.returned (.bool (decide ((x:Int)<n)))/\Below w.heap.size w w':=by
 go_enter Tryz.func181,Tryz.ntmps181
 go_wp2
 refine ZT (fun W=>Z8 W L s/\ZP W w.heap.size t n k m g p r L.p who/\Below w.heap.size w W) ⟨h.alloc _,ZP.new,ZZ _ _⟩ ?_
 rintro W ⟨m1,v1,o1⟩
 refine Zm Grown [.val (pP w.heap.size 0),.val (.agg #[iV t,iV n,iV k,iV m,iV g,iV p,iV r]),.val (.bool true),.val (.bool true),.val (pP w.heap.size 7),.val (pP L.p 0),.val (iV s.n),.val (pP w.heap.size 0),.val (.agg #[iV t,iV n,iV k,iV m,iV g,iV p,iV r]),.val (iV (ZI t n k m:Nat)),.val (.bool true),.val (.bool true),.val (.bool true),.val (iV x),.val (.bool true),.val (.bool true),.val (.bool true),.val (iV x),.val (pP w.heap.size 0),.val (pP w.heap.size 1),.val (iV n),.val (.bool (decide ((x:Int)<n))),.val (.bool (decide ((x:Int)<n))),.val (.bool (decide ((x:Int)<n)))] (by kernel_rfl) Grown.refl Grown.trans (by kernel_rfl) (by kernel_rfl) (by kernel_rfl) ?_
 simp only[ZH,Act.put,List.setIfInBounds_toArray,List.set_cons_zero,List.set_cons_succ]
 refine⟨?_,?_,?_,?_,?_,?_,?_,?_,?_,?_,?_,?_,?_,?_,?_,?_,?_,?_,?_,?_,?_,?_,?_,?_,?_⟩
 . intros;apply ol;go_simp;exact gl
 . intro w' hg _;apply ol;have y:=(v1.dg hg).yy;go_simp;exact gl
 . intro w' hg _;apply ol;go_simp;exact cb (Vo hG _)
 . intros;apply ol;go_simp;exact gl
 . intros;apply ol;go_simp;exact gl
 . intro w' hg _;apply ol;have y:=(v1.dg hg).yy;go_simp;exact gl
 . intro w' hg _;apply ol;go_simp;exact cc (len_any (m1.drew.below hg))
 . intros;apply ol;go_simp;exact gl
 . intro w' hg _;apply ol;have y:=(v1.dg hg).yy;go_simp;exact gl
 . intro w' hg _;apply ol;go_simp;exact cb (Uk hG _)
 . intro w' hg _;apply ol;have z:decide ((s.n:Int)≥((ZI t n k m:Nat):Int))=true:=decide_eq_true (by omega);go_simp;exact gl
 . intros;apply ol;go_simp;exact gl
 . intros;apply ol;go_simp;exact gl
 . intros;apply ol;go_simp;exact gl
 . intro w' hg _;apply ol;have z:decide ((x:Int)≥0)=true:=decide_eq_true (by omega);go_simp;exact gl
 . intros;apply ol;go_simp;exact gl
 . intros;apply ol;go_simp;exact gl
 . intros;apply ol;go_simp;exact gl
 . intros;apply ol;go_simp;exact gl
 . intros;apply ol;go_simp;exact gl
 . intro w' hg _;apply ol;have y:=(v1.dg hg).yy;go_simp;exact gl
 . intros;apply ol;go_simp;exact gl
 . intros;apply ol;go_simp;exact gl
 . intros;apply ol;go_simp;exact gl
 intro w5 hg _
 go_wp2
 go_ret
 exact⟨rfl,grow (o1.trans ((Below.refl _ _).drew)) hg⟩
def Zd (t n k m:Nat) (a:Int):Int:=if a<6+t+n * 2+k * 3 then -1 else if (a - (6+t+n * 2+k * 3)) / m<k then (a - (6+t+n * 2+k * 3)) / m else -1
theorem VO {t n k m:Nat} {g p r:Int} (hG:Good t n k m g p r) (a:Int) (ha:a<=9223372036854775807) (w:World) :
 Calls Tryz.prog 189 #[.agg #[iV t,iV n,iV k,iV m,iV g,iV p,iV r],iV a] w fun e w'=>e=.returned (iV (Zd t n k m a))/\Below w.heap.size w w':=by
 have n0:=hG.n0
 unfold Zd
 by_cases h:a<6+t+n * 2+k * 3
 . rw[if_pos h]
   exact CQ _ _ _ _ _ _ _ _ _ hG.arena h
 . rw[if_neg h]
   by_cases h2:(a - (6+t+n * 2+k * 3)) / m<k
   . rw[if_pos h2]
     exact zA _ _ _ _ _ _ _ _ _ _ hG.arena (by omega) (by omega) ha rfl h2
   . rw[if_neg h2]
     exact FM _ _ _ _ _ _ _ _ _ _ hG.arena (by omega) (by omega) ha rfl (by omega)
theorem RJ {t n k m i u:Nat} (hi:i<k) (hu:u<m):Zd t n k m ((base t n k m i+u:Nat):Int)=i:=by
 have e:(((base t n k m i+u:Nat):Int) - (6+t+n * 2+k * 3)) / m=i:=by
  have:((base t n k m i+u:Nat):Int) - (6+t+n * 2+k * 3)=u+m * (i:Int):=by
   unfold base
   have hc:(m:Int) * (i:Int)=(i:Int) * m:=Int.mul_comm _ _
   simp only[Int.natCast_add,Int.natCast_mul]
   omega
  rw[this,Int.add_mul_ediv_left _ _ (by omega),Int.ediv_eq_zero_of_lt (by omega) (by omega),Int.zero_add]
 unfold Zd
 rw[if_neg (by unfold base;omega),e,if_pos (by omega)]
theorem JK {w:World} {b o:Nat} (st A G V j:Int) (hz:w.cell? ⟨b,o+3,none⟩=some (iV j)) (a0:0<=A) (a1:A<=1048575) (j0:0<=j) (j1:j<=65536) :
 Calls Tryz.prog 202 #[pP b o,.agg #[iV st,iV A,iV G,iV V]] w fun e w'=>e=.returned (iV (A+1+j))/\Below w.heap.size w w':=by
 go_enter Tryz.func202,Tryz.ntmps202
 go_wp2
 refine ZT (fun W=>W.cell? ⟨b,o+3,none⟩=some (iV j)/\At W w.heap.size 0 108 #[iV st,iV A,iV G,iV V] [iV st,iV A,iV G,iV V]/\Below w.heap.size w W) ⟨keep' (ZZ _ _) hz,At.new _ _ _,ZZ _ _⟩ ?_
 rintro W ⟨i1,x1,o1⟩
 refine Zm Grown [.val (pP w.heap.size 1),.val (iV A),.val (iV (A+1)),.val (pP b o),.val (pP b o),.val (pP b (o+3)),.val (iV j),.val (iV (A+1+j)),.val (iV (A+1+j))] (by kernel_rfl) Grown.refl Grown.trans (by kernel_rfl) (by kernel_rfl) (by kernel_rfl) ?_
 simp only[ZH,Act.put,List.setIfInBounds_toArray,List.set_cons_zero,List.set_cons_succ]
 refine⟨?_,?_,?_,?_,?_,?_,?_,?_,?_,?_⟩
 . intros;apply ol;go_simp;exact gl
 . intro w' hg _;apply ol;have z:=(x1.drew.grown hg).at0 1 rfl;go_simp;exact gl
 . intro w' hg _;apply ol;go_simp;exact⟨Grown.refl _,congrArg (Value.int .i64) (by rw[IntKind.wrap_i64];omega)⟩
 . intros;apply ol;go_simp;exact gl
 . intros;apply ol;go_simp;exact gl
 . intros;apply ol;go_simp;exact gl
 . intro w' hg _;apply ol;have z:=keep' hg (keep' ((Below.refl _ _).drew) i1);go_simp;exact gl
 . intro w' hg _;apply ol;go_simp;exact⟨Grown.refl _,congrArg (Value.int .i64) (by rw[IntKind.wrap_i64];omega)⟩
 . intros;apply ol;go_simp;exact gl
 intro w5 hg _
 go_wp2
 go_ret
 exact⟨rfl,grow (o1.trans ((Below.refl _ _).drew)) hg⟩
theorem IL {w:World} {L:Loc} {b o:Nat} {t n k m:Nat} {g p r:Int} (hG:Good t n k m g p r) (who st A G V Z i:Int) (hz:w.cell? ⟨b,o+2,none⟩=some (iV Z)) (a0:0<=A) (a1:A<=1048575) (z0:1<=Z) (z1:Z<=16) (i0:0<=i) (h1:Zd t n k m A=i) (h2:Zd t n k m (A+Z)=i) :
 Calls Tryz.prog 194 #[pP b o,eV t n k m g p r L.p who,.agg #[iV st,iV A,iV G,iV V]] w fun e w'=>e=.returned (iV Z)/\Below w.heap.size w w':=by
 obtain⟨κ,hκ⟩:∃ κ,ZR Z=κ:=⟨_,rfl⟩
 have κ0:0<=κ:=by
  rw[<- hκ];unfold ZR
  rw[if_neg (by omega)]
  repeat' split
  all_goals omega
 have Gp:=fun w=>VO hG A (by omega) w
 have yc:=fun w=>VO hG (A+Z) (by omega) w
 have lc:=fun w=>WM Z w
 rw[h1] at Gp
 rw[h2] at yc
 rw[hκ] at lc
 clear h1 h2 hκ
 go_enter Tryz.func194,Tryz.ntmps194
 go_wp2_with (go_at_call 189;refine(Gp _).mono ?_;rintro e w1 ⟨rfl,b1⟩)
 refine ZT (fun W=>W.cell? ⟨b,o+2,none⟩=some (iV Z)/\ZP W w.heap.size t n k m g p r L.p who/\At W (w.heap.size+1) 0 108 #[iV st,iV A,iV G,iV V] [iV st,iV A,iV G,iV V]/\Below w.heap.size w W) ⟨keep' b1 (keep' (ZZ _ _) (keep' (ZZ _ _) hz)),(ZP.Xb _).grown b1,(At.Xo _ _ _ _).grown b1,grow (Z7 (ZZ _ _) _) b1⟩ ?_
 clear b1 w1
 rintro W ⟨i1,v1,x1,o1⟩
 refine Zm Grown [.val (pP b o),.val (pP b o),.val (pP b (o+2)),.val (iV Z),.val (iV κ),.val (.bool false),.val (.bool false),.val (iV i),.val (.bool false),.val (.bool false),.val (.bool false),.val (pP w.heap.size 0),.val (.agg #[iV t,iV n,iV k,iV m,iV g,iV p,iV r]),.val (.pointer (some ⟨w.heap.size+1,1,none⟩)),.val (iV A),.val (pP b o),.val (pP b o),.val (pP b (o+2)),.val (iV Z),.val (iV (A+Z)),.val (iV i),.val (iV i),.val (.bool false),.val (.bool false)] (by kernel_rfl) Grown.refl Grown.trans (by kernel_rfl) (by kernel_rfl) (by kernel_rfl) ?_
 simp only[ZH,Act.put,List.setIfInBounds_toArray,List.set_cons_zero,List.set_cons_succ]
 refine⟨?_,?_,?_,?_,?_,?_,?_,?_,?_,?_,?_,?_,?_,?_,?_,?_,?_,?_,?_,?_,?_,?_,?_,?_,?_⟩
 . intros;apply ol;go_simp;exact gl
 . intros;apply ol;go_simp;exact gl
 . intros;apply ol;go_simp;exact gl
 . intro w' hg _;apply ol;have z:=keep' hg (keep' ((Below.refl _ _).drew) i1);go_simp;exact gl
 . intro w' hg _;apply ol;go_simp;exact cc (lc _)
 . intro w' hg _;apply ol;have z:decide (κ<0)=false:=decide_eq_false (by omega);go_simp;exact gl
 . intros;apply ol;go_simp;exact gl
 . intros;apply ol;go_simp;exact gl
 . intro w' hg _;apply ol;have z:decide (i<0)=false:=decide_eq_false (by omega);go_simp;exact gl
 . intros;apply ol;go_simp;exact gl
 . intros;apply ol;go_simp;exact gl
 . intros;apply ol;go_simp;exact gl
 . intro w' hg _;apply ol;have y:=(v1.dg hg).yy;go_simp;exact gl
 . intros;apply ol;go_simp;exact gl
 . intro w' hg _;apply ol;have z:=(x1.drew.grown hg).at0 1 rfl;go_simp;exact gl
 . intros;apply ol;go_simp;exact gl
 . intros;apply ol;go_simp;exact gl
 . intros;apply ol;go_simp;exact gl
 . intro w' hg _;apply ol;have z:=keep' hg (keep' ((Below.refl _ _).drew) i1);go_simp;exact gl
 . intro w' hg _;apply ol;go_simp;exact⟨Grown.refl _,congrArg (Value.int .i64) (by rw[IntKind.wrap_i64];omega)⟩
 . intro w' hg _;apply ol;go_simp;exact cb (yc _)
 . intros;apply ol;go_simp;exact gl
 . intros;apply ol;go_simp;exact gl
 . intros;apply ol;go_simp;exact gl
 intro w5 hg _
 have z:=keep' hg (keep' ((Below.refl _ _).drew) i1)
 go_wp2
 go_ret
 exact⟨rfl,grow (o1.trans ((Below.refl _ _).drew)) hg⟩
end Go.Proofs.YtgehjolndmgffaaGreat
