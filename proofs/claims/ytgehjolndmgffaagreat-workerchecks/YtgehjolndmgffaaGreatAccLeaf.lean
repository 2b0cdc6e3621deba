import Derived.Test.YtgehjolndmgffaaGreatAccAt
namespace Go.Proofs.YtgehjolndmgffaaGreat
open Go.RowKit
set_option maxRecDepth 20000
theorem Vq {kd:Int} (h:kd=1\/kd=2\/kd=3) (w:World) :
 Calls Tryz.prog 206 #[.int .i64 kd] w fun e w'=>e=.returned (.bool true)/\w'=w:=by
 rcases h with rfl | rfl | rfl
 all_goals
  go_enter Tryz.func206,Tryz.ntmps206
  go_wp2
  go_ret
  exact⟨rfl,rfl⟩
theorem TP {w:World} {L:Loc} {s:Mm} {t n k m:Nat} {g p r:Int} (h:Z8 w L s) (hG:Good t n k m g p r) (hl:ZI t n k m<=s.n) (who:Int) (x:Nat) :
 Calls Tryz.prog 208 #[.agg #[.int .i64 t,.int .i64 n,.int .i64 k,.int .i64 m,.int .i64 g,.int .i64 p,.int .i64 r,.pointer (some ⟨L.p,0,none⟩),.int .i64 who],.int .i64 x] w fun e w'=>e=.returned (.bool (decide ((x:Int)<n)))/\Below w.heap.size w w':=by
 go_enter Tryz.func208,Tryz.ntmps208
 go_wp2
 refine ZT (fun W=>Z8 W L s/\ZP W w.heap.size t n k m g p r L.p who/\Below w.heap.size w W) ⟨h.alloc _,ZP.new,ZZ _ _⟩ ?_
 rintro W ⟨m1,v1,o1⟩
 refine Zm Grown [.val (.pointer (some ⟨w.heap.size,0,none⟩)),.val (.agg #[.int .i64 t,.int .i64 n,.int .i64 k,.int .i64 m,.int .i64 g,.int .i64 p,.int .i64 r]),.val (.bool true),.val (.bool true),.val (.pointer (some ⟨w.heap.size,7,none⟩)),.val (.pointer (some ⟨L.p,0,none⟩)),.val (.int .i64 s.n),.val (.pointer (some ⟨w.heap.size,0,none⟩)),.val (.agg #[.int .i64 t,.int .i64 n,.int .i64 k,.int .i64 m,.int .i64 g,.int .i64 p,.int .i64 r]),.val (.int .i64 (ZI t n k m:Nat)),.val (.bool true),.val (.bool true),.val (.bool true),.val (.int .i64 x),.val (.pointer (some ⟨w.heap.size,0,none⟩)),.val (.pointer (some ⟨w.heap.size,1,none⟩)),.val (.int .i64 n),.val (.bool (decide ((x:Int)<n))),.val (.bool (decide ((x:Int)<n))),.val (.bool (decide ((x:Int)<n)))] (by kernel_rfl) Grown.refl Grown.trans (by kernel_rfl) (by kernel_rfl) (by kernel_rfl) ?_
 simp only[ZH,Act.put,List.setIfInBounds_toArray,List.set_cons_zero,List.set_cons_succ]
 refine⟨?_,?_,?_,?_,?_,?_,?_,?_,?_,?_,?_,?_,?_,?_,?_,?_,?_,?_,?_,?_,?_⟩
 . intros;apply ol;go_simp;exact gl
 . intro w' hg _
   apply ol
   obtain⟨y0,y1,y2,y3,y4,y5,y6,y7,y8⟩:=(v1.grown ((Below.refl _ _).drew)).grown hg
   go_simp
   exact gl
 . intro w' hg _
   apply ol
   go_simp
   refine(Vo hG _).mono ?_
   rintro e w'' ⟨rfl,b9⟩
   exact⟨_,rfl,b9,rfl⟩
 . intros;apply ol;go_simp;exact gl
 . intros;apply ol;go_simp;exact gl
 . intro w' hg _
   apply ol
   obtain⟨y0,y1,y2,y3,y4,y5,y6,y7,y8⟩:=(v1.grown ((Below.refl _ _).drew)).grown hg
   go_simp
   exact gl
 . intro w' hg _
   apply ol
   go_simp
   refine(len_any (m1.drew.below hg)).mono ?_
   rintro e w'' ⟨rfl,rfl⟩
   exact⟨_,rfl,Grown.refl _,rfl⟩
 . intros;apply ol;go_simp;exact gl
 . intro w' hg _
   apply ol
   obtain⟨y0,y1,y2,y3,y4,y5,y6,y7,y8⟩:=(v1.grown ((Below.refl _ _).drew)).grown hg
   go_simp
   exact gl
 . intro w' hg _
   apply ol
   go_simp
   refine(Uk hG _).mono ?_
   rintro e w'' ⟨rfl,b9⟩
   exact⟨_,rfl,b9,rfl⟩
 . intro w' hg _
   apply ol
   have z:decide ((s.n:Int)≥((ZI t n k m:Nat):Int))=true:=decide_eq_true (by omega)
   go_simp
   exact gl
 . intros;apply ol;go_simp;exact gl
 . intros;apply ol;go_simp;exact gl
 . intros;apply ol;go_simp;exact gl
 . intros;apply ol;go_simp;exact gl
 . intros;apply ol;go_simp;exact gl
 . intro w' hg _
   apply ol
   obtain⟨y0,y1,y2,y3,y4,y5,y6,y7,y8⟩:=(v1.grown ((Below.refl _ _).drew)).grown hg
   go_simp
   exact gl
 . intros;apply ol;go_simp;exact gl
 . intros;apply ol;go_simp;exact gl
 . intros;apply ol;go_simp;exact gl
 intro w5 hg _
 go_wp2
 go_ret
 exact⟨rfl,grow (o1.trans ((Below.refl _ _).drew)) hg⟩
theorem Vp {w:World} {b o:Nat} (st A G V j:Int) (hz:w.cell? ⟨b,o+3,none⟩=some (.int .i64 j)) (a0:0<=A) (a1:A<=1048575) (j0:0<=j) (j1:j<=65536) :
 Calls Tryz.prog 217 #[.pointer (some ⟨b,o,none⟩),.agg #[.int .i64 st,.int .i64 A,.int .i64 G,.int .i64 V]] w fun e w'=>e=.returned (.int .i64 (A+1+j))/\Below w.heap.size w w':=by
 go_enter Tryz.func217,Tryz.ntmps217
 go_wp2
 refine ZT (fun W=>W.cell? ⟨b,o+3,none⟩=some (.int .i64 j)/\At W w.heap.size 0 108 #[.int .i64 st,.int .i64 A,.int .i64 G,.int .i64 V] [.int .i64 st,.int .i64 A,.int .i64 G,.int .i64 V]/\Below w.heap.size w W) ⟨keep' (ZZ _ _) hz,At.new _ _ _,ZZ _ _⟩ ?_
 rintro W ⟨i1,x1,o1⟩
 refine Zm Grown [.val (.pointer (some ⟨w.heap.size,1,none⟩)),.val (.int .i64 A),.val (.int .i64 (A+1)),.val (.pointer (some ⟨b,o,none⟩)),.val (.pointer (some ⟨b,o,none⟩)),.val (.pointer (some ⟨b,o+1,none⟩)),.val (.pointer (some ⟨b,o+3,none⟩)),.val (.int .i64 j),.val (.int .i64 (A+1+j)),.val (.int .i64 (A+1+j))] (by kernel_rfl) Grown.refl Grown.trans (by kernel_rfl) (by kernel_rfl) (by kernel_rfl) ?_
 simp only[ZH,Act.put,List.setIfInBounds_toArray,List.set_cons_zero,List.set_cons_succ]
 refine⟨?_,?_,?_,?_,?_,?_,?_,?_,?_,?_,?_⟩
 . intros;apply ol;go_simp;exact gl
 . intro w' hg _
   apply ol
   have z:=(x1.drew.grown hg).at0 1 rfl
   go_simp
   exact gl
 . intro w' hg _
   apply ol
   go_simp
   exact⟨Grown.refl _,congrArg (Value.int .i64) (by rw[IntKind.wrap_i64];omega)⟩
 . intros;apply ol;go_simp;exact gl
 . intros;apply ol;go_simp;exact gl
 . intros;apply ol;go_simp;exact gl
 . intros;apply ol;go_simp;exact gl
 . intro w' hg _
   apply ol
   have z:=keep' hg (keep' ((Below.refl _ _).drew) i1)
   go_simp
   exact gl
 . intro w' hg _
   apply ol
   go_simp
   exact⟨Grown.refl _,congrArg (Value.int .i64) (by rw[IntKind.wrap_i64];omega)⟩
 . intros;apply ol;go_simp;exact gl
 intro w5 hg _
 go_wp2
 go_ret
 exact⟨rfl,grow (o1.trans ((Below.refl _ _).drew)) hg⟩
theorem Jr {w:World} {b o:Nat} {T:TypeId} {cs:Array Value} {a:CV} (hi:ZG w b o T cs a) (z:Int) (fz:Bool) (vr:Int) (hk:a.kd≠3) :
 Calls Tryz.prog 219 #[.pointer (some ⟨b,o,none⟩),.agg #[.int .i64 z,.bool fz,.int .i64 vr]] w fun e w'=>e=.returned (.bool false)/\Below w.heap.size w w':=by
 go_enter Tryz.func219,Tryz.ntmps219
 go_wp2
 refine ZT (fun W=>ZG W b o T cs a/\At W w.heap.size 0 244 #[.int .i64 z,.bool fz,.int .i64 vr] [.int .i64 z,.bool fz,.int .i64 vr]/\Below w.heap.size w W) ⟨hi.grown (ZZ _ _),At.new _ _ _,ZZ _ _⟩ ?_
 rintro W ⟨i1,x1,o1⟩
 refine Zm Grown [.val (.pointer (some ⟨b,o,none⟩)),.val (.pointer (some ⟨b,o,none⟩)),.val (.pointer (some ⟨b,o+1,none⟩)),.val (.pointer (some ⟨b,o+1,none⟩)),.val (.int .i64 a.kd),.val (.bool false),.val (.bool false),.val undef,.val undef,.val undef,.val undef,.val undef,.val undef,.val undef,.val undef,.val (.bool false),.val (.bool false)] (by kernel_rfl) Grown.refl Grown.trans (by kernel_rfl) (by kernel_rfl) (by kernel_rfl) ?_
 simp only[ZH,Act.put,List.setIfInBounds_toArray,List.set_cons_zero,List.set_cons_succ]
 refine⟨?_,?_,?_,?_,?_,?_,?_,?_,?_,?_,?_,?_,?_,?_,?_,?_,?_,?_⟩
 . intros;apply ol;go_simp;exact gl
 . intros;apply ol;go_simp;exact gl
 . intros;apply ol;go_simp;exact gl
 . intros;apply ol;go_simp;exact gl
 . intro w' hg _
   apply ol
   have z:=(i1.drew.grown hg).P6
   go_simp
   exact gl
 . intro w' hg _
   apply ol
   go_simp
   refine⟨Grown.refl _,?_⟩
   first
    | rfl
    | (simp[Want.pred];done)
    | (simp[Want.pred];omega)
    | exact congrArg Value.bool (decide_eq_false hk)
 . intros;apply ol;go_simp;exact gl
 . intros;exact ur
 . intros;exact ur
 . intros;exact ur
 . intros;exact ur
 . intros;exact ur
 . intros;exact ur
 . intros;exact ur
 . intros;exact ur
 . intros;apply ol;go_simp;exact gl
 . intros;apply ol;go_simp;exact gl
 intro w5 hg _
 go_wp2
 go_ret
 exact⟨rfl,grow (o1.trans ((Below.refl _ _).drew)) hg⟩
theorem PZ {w:World} {b o:Nat} {T:TypeId} {cs:Array Value} {a:CV} (hi:ZG w b o T cs a) (z:Int) (fz:Bool) (vr:Int) (hk:a.kd=3) :
 Calls Tryz.prog 219 #[.pointer (some ⟨b,o,none⟩),.agg #[.int .i64 z,.bool fz,.int .i64 vr]] w fun e w'=>e=.returned (.bool (decide (z≠a.ol)))/\Below w.heap.size w w':=by
 go_enter Tryz.func219,Tryz.ntmps219
 go_wp2
 refine ZT (fun W=>ZG W b o T cs a/\At W w.heap.size 0 244 #[.int .i64 z,.bool fz,.int .i64 vr] [.int .i64 z,.bool fz,.int .i64 vr]/\Below w.heap.size w W) ⟨hi.grown (ZZ _ _),At.new _ _ _,ZZ _ _⟩ ?_
 rintro W ⟨i1,x1,o1⟩
 refine Zm Grown [.val (.pointer (some ⟨b,o,none⟩)),.val (.pointer (some ⟨b,o,none⟩)),.val (.pointer (some ⟨b,o+1,none⟩)),.val (.pointer (some ⟨b,o+1,none⟩)),.val (.int .i64 3),.val (.bool true),.val (.bool true),.val (.pointer (some ⟨w.heap.size,0,none⟩)),.val (.int .i64 z),.val (.pointer (some ⟨b,o,none⟩)),.val (.pointer (some ⟨b,o,none⟩)),.val (.pointer (some ⟨b,o+1,none⟩)),.val (.pointer (some ⟨b,o+5,none⟩)),.val (.int .i64 a.ol),.val (.bool (decide (z≠a.ol))),.val (.bool (decide (z≠a.ol))),.val (.bool (decide (z≠a.ol)))] (by kernel_rfl) Grown.refl Grown.trans (by kernel_rfl) (by kernel_rfl) (by kernel_rfl) ?_
 simp only[ZH,Act.put,List.setIfInBounds_toArray,List.set_cons_zero,List.set_cons_succ]
 refine⟨?_,?_,?_,?_,?_,?_,?_,?_,?_,?_,?_,?_,?_,?_,?_,?_,?_,?_⟩
 . intros;apply ol;go_simp;exact gl
 . intros;apply ol;go_simp;exact gl
 . intros;apply ol;go_simp;exact gl
 . intros;apply ol;go_simp;exact gl
 . intro w' hg _
   apply ol
   have z:=(i1.drew.grown hg).P6
   rw[hk] at z
   go_simp
   exact gl
 . intros;apply ol;go_simp;exact gl
 . intros;apply ol;go_simp;exact gl
 . intros;apply ol;go_simp;exact gl
 . intro w' hg _
   apply ol
   have z:=(x1.drew.grown hg).at0 0 rfl
   go_simp
   exact gl
 . intros;apply ol;go_simp;exact gl
 . intros;apply ol;go_simp;exact gl
 . intros;apply ol;go_simp;exact gl
 . intros;apply ol;go_simp;exact gl
 . intro w' hg _
   apply ol
   have z:=(i1.drew.grown hg).uP
   go_simp
   exact gl
 . intro w' hg _
   apply ol
   go_simp
   refine⟨Grown.refl _,?_⟩
   first
    | rfl
    | (simp[Want.pred];done)
    | (simp[Want.pred];omega)
    | exact congrArg Value.bool (by simp)
 . intros;apply ol;go_simp;exact gl
 . intros;apply ol;go_simp;exact gl
 intro w5 hg _
 go_wp2
 go_ret
 exact⟨rfl,grow (o1.trans ((Below.refl _ _).drew)) hg⟩
def CV.QP (a:CV) (z:Int):Bool:=decide (a.kd=3) && decide (z≠a.ol)
theorem SK {w:World} {b o:Nat} {T:TypeId} {cs:Array Value} {a:CV} (hi:ZG w b o T cs a) (z:Int) (fz:Bool) (vr:Int) :
 Calls Tryz.prog 219 #[.pointer (some ⟨b,o,none⟩),.agg #[.int .i64 z,.bool fz,.int .i64 vr]] w fun e w'=>e=.returned (.bool (a.QP z))/\Below w.heap.size w w':=by
 unfold CV.QP
 by_cases hk:a.kd=3
 . rw[decide_eq_true hk,Bool.true_and];exact PZ hi z fz vr hk
 . rw[decide_eq_false hk,Bool.false_and];exact Jr hi z fz vr hk
theorem MO {w:World} {b o:Nat} {T:TypeId} {cs:Array Value} {a:CV} (hi:ZG w b o T cs a) (z:Int) (fz:Bool) (vr:Int) :
 Calls Tryz.prog 218 #[.pointer (some ⟨b,o,none⟩),.agg #[.int .i64 z,.bool fz,.int .i64 vr]] w fun e w'=>e=.returned (.bool (decide (a.kd=1) || a.QP z))/\Below w.heap.size w w':=by
 have i1:=hi.grown (ZZ _ (.cells #[.int .i64 z,.bool fz,.int .i64 vr] 244))
 have x1:=At.new w 244 [.int .i64 z,.bool fz,.int .i64 vr]
 have k0:=i1.P6
 have z0:=x1.at0 0 rfl
 have z1:=x1.at0 1 rfl
 have z2:=x1.at0 2 rfl
 by_cases hk:a.kd=1
 . rw[decide_eq_true hk,Bool.true_or]
   rw[hk] at k0
   go_enter Tryz.func218,Tryz.ntmps218
   go_wp2
   go_ret
   exact⟨rfl,ZZ _ _⟩
 . rw[decide_eq_false hk,Bool.false_or]
   have hk':(a.kd == 1)=false:=by simpa using hk
   go_enter Tryz.func218,Tryz.ntmps218
   go_wp2_with (go_at_call 219;refine(SK i1 z fz vr).mono ?_;rintro e w2 ⟨rfl,b2⟩)
   go_ret
   exact⟨rfl,grow (ZZ _ _) b2⟩
theorem Gm {w:World} {b o:Nat} {T:TypeId} {cs:Array Value} {a:CV} {t n k m:Nat} {g p r:Int} (hi:ZG w b o T cs a) (A:Int) (h:a.ix<0) :
 Calls Tryz.prog 216 #[.pointer (some ⟨b,o,none⟩),.agg #[.int .i64 t,.int .i64 n,.int .i64 k,.int .i64 m,.int .i64 g,.int .i64 p,.int .i64 r],.int .i64 A] w fun e w'=>e=.returned (.bool false)/\Below w.heap.size w w':=by
 go_enter Tryz.func216,Tryz.ntmps216
 go_wp2
 refine ZT (fun W=>ZG W b o T cs a/\At W w.heap.size 0 24 #[.int .i64 t,.int .i64 n,.int .i64 k,.int .i64 m,.int .i64 g,.int .i64 p,.int .i64 r] [.int .i64 t,.int .i64 n,.int .i64 k,.int .i64 m,.int .i64 g,.int .i64 p,.int .i64 r]/\Below w.heap.size w W) ⟨hi.grown (ZZ _ _),At.new _ _ _,ZZ _ _⟩ ?_
 rintro W ⟨i1,c1,o1⟩
 refine Zm Grown [.val (.pointer (some ⟨b,o,none⟩)),.val (.pointer (some ⟨b,o,none⟩)),.val (.pointer (some ⟨b,o+1,none⟩)),.val (.pointer (some ⟨b,o+3,none⟩)),.val (.int .i64 a.ix),.val (.bool false),.val (.bool false),.val undef,.val undef,.val undef,.val undef,.val undef,.val undef,.val undef,.val undef,.val undef,.val undef,.val (.bool false),.val (.bool false),.val undef,.val undef,.val undef,.val undef,.val undef,.val undef,.val (.bool false),.val (.bool false),.val undef,.val undef,.val undef,.val undef,.val undef,.val undef,.val undef,.val undef,.val undef,.val undef,.val undef,.val undef,.val (.bool false),.val (.bool false)] (by kernel_rfl) Grown.refl Grown.trans (by kernel_rfl) (by kernel_rfl) (by kernel_rfl) ?_
 simp only[ZH,Act.put,List.setIfInBounds_toArray,List.set_cons_zero,List.set_cons_succ]
 refine⟨?_,?_,?_,?_,?_,?_,?_,?_,?_,?_,?_,?_,?_,?_,?_,?_,?_,?_,?_,?_,?_,?_,?_,?_,?_,?_,?_,?_,?_,?_,?_,?_,?_,?_,?_,?_,?_,?_,?_,?_,?_,?_⟩
 . intros;apply ol;go_simp;exact gl
 . intros;apply ol;go_simp;exact gl
 . intros;apply ol;go_simp;exact gl
 . intros;apply ol;go_simp;exact gl
 . intro w' hg _
   apply ol
   have z:=(i1.drew.grown hg).OL
   go_simp
   exact gl
 . intro w' hg _
   apply ol
   go_simp
   refine⟨Grown.refl _,?_⟩
   first
    | rfl
    | (simp[Want.pred];done)
    | (simp[Want.pred];omega)
    | exact congrArg Value.bool (decide_eq_false (by omega))
 . intros;apply ol;go_simp;exact gl
 . intros;exact ur
 . intros;exact ur
 . intros;exact ur
 . intros;exact ur
 . intros;exact ur
 . intros;exact ur
 . intros;exact ur
 . intros;exact ur
 . intros;exact ur
 . intros;exact ur
 . intros;apply ol;go_simp;exact gl
 . intros;apply ol;go_simp;exact gl
 . intros;exact ur
 . intros;exact ur
 . intros;exact ur
 . intros;exact ur
 . intros;exact ur
 . intros;exact ur
 . intros;apply ol;go_simp;exact gl
 . intros;apply ol;go_simp;exact gl
 . intros;exact ur
 . intros;exact ur
 . intros;exact ur
 . intros;exact ur
 . intros;exact ur
 . intros;exact ur
 . intros;exact ur
 . intros;exact ur
 . intros;exact ur
 . intros;exact ur
 . intros;exact ur
 . intros;exact ur
 . intros;apply ol;go_simp;exact gl
 . intros;apply ol;go_simp;exact gl
 intro w5 hg _
 go_wp2
 go_ret
 exact⟨rfl,grow (o1.trans ((Below.refl _ _).drew)) hg⟩
theorem Jq {w:World} {b o:Nat} {T:TypeId} {cs:Array Value} {a:CV} {t n k m:Nat} {g p r:Int} (hi:ZG w b o T cs a) (A:Int) {Z:Int} (hz:a.sz=Z) (h0:0<=a.ix) (h:Z<=a.ix) :
 Calls Tryz.prog 216 #[.pointer (some ⟨b,o,none⟩),.agg #[.int .i64 t,.int .i64 n,.int .i64 k,.int .i64 m,.int .i64 g,.int .i64 p,.int .i64 r],.int .i64 A] w fun e w'=>e=.returned (.bool false)/\Below w.heap.size w w':=by
 go_enter Tryz.func216,Tryz.ntmps216
 go_wp2
 refine ZT (fun W=>ZG W b o T cs a/\At W w.heap.size 0 24 #[.int .i64 t,.int .i64 n,.int .i64 k,.int .i64 m,.int .i64 g,.int .i64 p,.int .i64 r] [.int .i64 t,.int .i64 n,.int .i64 k,.int .i64 m,.int .i64 g,.int .i64 p,.int .i64 r]/\Below w.heap.size w W) ⟨hi.grown (ZZ _ _),At.new _ _ _,ZZ _ _⟩ ?_
 rintro W ⟨i1,c1,o1⟩
 refine Zm Grown [.val (.pointer (some ⟨b,o,none⟩)),.val (.pointer (some ⟨b,o,none⟩)),.val (.pointer (some ⟨b,o+1,none⟩)),.val (.pointer (some ⟨b,o+3,none⟩)),.val (.int .i64 a.ix),.val (.bool true),.val (.bool true),.val (.pointer (some ⟨b,o,none⟩)),.val (.pointer (some ⟨b,o,none⟩)),.val (.pointer (some ⟨b,o+1,none⟩)),.val (.pointer (some ⟨b,o+3,none⟩)),.val (.int .i64 a.ix),.val (.pointer (some ⟨b,o,none⟩)),.val (.pointer (some ⟨b,o,none⟩)),.val (.pointer (some ⟨b,o+9,none⟩)),.val (.int .i64 Z),.val (.bool false),.val (.bool false),.val (.bool false),.val undef,.val undef,.val undef,.val undef,.val undef,.val undef,.val (.bool false),.val (.bool false),.val undef,.val undef,.val undef,.val undef,.val undef,.val undef,.val undef,.val undef,.val undef,.val undef,.val undef,.val undef,.val (.bool false),.val (.bool false)] (by kernel_rfl) Grown.refl Grown.trans (by kernel_rfl) (by kernel_rfl) (by kernel_rfl) ?_
 simp only[ZH,Act.put,List.setIfInBounds_toArray,List.set_cons_zero,List.set_cons_succ]
 refine⟨?_,?_,?_,?_,?_,?_,?_,?_,?_,?_,?_,?_,?_,?_,?_,?_,?_,?_,?_,?_,?_,?_,?_,?_,?_,?_,?_,?_,?_,?_,?_,?_,?_,?_,?_,?_,?_,?_,?_,?_,?_,?_⟩
 . intros;apply ol;go_simp;exact gl
 . intros;apply ol;go_simp;exact gl
 . intros;apply ol;go_simp;exact gl
 . intros;apply ol;go_simp;exact gl
 . intro w' hg _
   apply ol
   have z:=(i1.drew.grown hg).OL
   go_simp
   exact gl
 . intro w' hg _
   apply ol
   go_simp
   refine⟨Grown.refl _,?_⟩
   first
    | rfl
    | (simp[Want.pred];done)
    | (simp[Want.pred];omega)
    | exact congrArg Value.bool (decide_eq_true (by omega))
 . intros;apply ol;go_simp;exact gl
 . intros;apply ol;go_simp;exact gl
 . intros;apply ol;go_simp;exact gl
 . intros;apply ol;go_simp;exact gl
 . intros;apply ol;go_simp;exact gl
 . intro w' hg _
   apply ol
   have z:=(i1.drew.grown hg).OL
   go_simp
   exact gl
 . intros;apply ol;go_simp;exact gl
 . intros;apply ol;go_simp;exact gl
 . intros;apply ol;go_simp;exact gl
 . intro w' hg _
   apply ol
   have z:=(i1.drew.grown hg).WO
   rw[hz] at z
   go_simp
   exact gl
 . intro w' hg _
   apply ol
   go_simp
   refine⟨Grown.refl _,?_⟩
   first
    | rfl
    | (simp[Want.pred];done)
    | (simp[Want.pred];omega)
    | exact congrArg Value.bool (decide_eq_false (by omega))
 . intros;apply ol;go_simp;exact gl
 . intros;apply ol;go_simp;exact gl
 . intros;exact ur
 . intros;exact ur
 . intros;exact ur
 . intros;exact ur
 . intros;exact ur
 . intros;exact ur
 . intros;apply ol;go_simp;exact gl
 . intros;apply ol;go_simp;exact gl
 . intros;exact ur
 . intros;exact ur
 . intros;exact ur
 . intros;exact ur
 . intros;exact ur
 . intros;exact ur
 . intros;exact ur
 . intros;exact ur
 . intros;exact ur
 . intros;exact ur
 . intros;exact ur
 . intros;exact ur
 . intros;apply ol;go_simp;exact gl
 . intros;apply ol;go_simp;exact gl
 intro w5 hg _
 go_wp2
 go_ret
 exact⟨rfl,grow (o1.trans ((Below.refl _ _).drew)) hg⟩
theorem Gl {w:World} {b o:Nat} {T:TypeId} {cs:Array Value} {a:CV} {t n k m:Nat} {g p r:Int} (hi:ZG w b o T cs a) (A:Int) {Z:Int} (hz:a.sz=Z) (hG:Good t n k m g p r) (h0:0<=a.ix) (h:a.ix<Z) (a0:0<=A) (a1:A<=1048575) (z2:Z<=16) {i:Int} (h1:Zd t n k m A=i) (h2:Zd t n k m (A+Z)=i) :
 Calls Tryz.prog 216 #[.pointer (some ⟨b,o,none⟩),.agg #[.int .i64 t,.int .i64 n,.int .i64 k,.int .i64 m,.int .i64 g,.int .i64 p,.int .i64 r],.int .i64 A] w fun e w'=>e=.returned (.bool true)/\Below w.heap.size w w':=by
 obtain⟨κ,hκ⟩:∃ κ,ZR Z=κ:=⟨_,rfl⟩
 have κ0:0<=κ:=by
  rw[<- hκ];unfold ZR
  rw[if_neg (by omega)]
  repeat' split
  all_goals omega
 have Gp:=fun w=>VO hG A (by omega) w
 have yc:=fun w=>VO hG (A+Z) (by omega) w
 have lc:=fun w=>WM Z w
 rw[h1] at Gp
 rw[h2] at yc
 rw[hκ] at lc
 clear h1 h2 hκ
 go_enter Tryz.func216,Tryz.ntmps216
 go_wp2
 refine ZT (fun W=>ZG W b o T cs a/\At W w.heap.size 0 24 #[.int .i64 t,.int .i64 n,.int .i64 k,.int .i64 m,.int .i64 g,.int .i64 p,.int .i64 r] [.int .i64 t,.int .i64 n,.int .i64 k,.int .i64 m,.int .i64 g,.int .i64 p,.int .i64 r]/\Below w.heap.size w W) ⟨hi.grown (ZZ _ _),At.new _ _ _,ZZ _ _⟩ ?_
 rintro W ⟨i1,c1,o1⟩
 refine Zm Grown [.val (.pointer (some ⟨b,o,none⟩)),.val (.pointer (some ⟨b,o,none⟩)),.val (.pointer (some ⟨b,o+1,none⟩)),.val (.pointer (some ⟨b,o+3,none⟩)),.val (.int .i64 a.ix),.val (.bool true),.val (.bool true),.val (.pointer (some ⟨b,o,none⟩)),.val (.pointer (some ⟨b,o,none⟩)),.val (.pointer (some ⟨b,o+1,none⟩)),.val (.pointer (some ⟨b,o+3,none⟩)),.val (.int .i64 a.ix),.val (.pointer (some ⟨b,o,none⟩)),.val (.pointer (some ⟨b,o,none⟩)),.val (.pointer (some ⟨b,o+9,none⟩)),.val (.int .i64 Z),.val (.bool true),.val (.bool true),.val (.bool true),.val (.pointer (some ⟨b,o,none⟩)),.val (.pointer (some ⟨b,o,none⟩)),.val (.pointer (some ⟨b,o+9,none⟩)),.val (.int .i64 Z),.val (.int .i64 κ),.val (.bool true),.val (.bool true),.val (.bool true),.val (.agg #[.int .i64 t,.int .i64 n,.int .i64 k,.int .i64 m,.int .i64 g,.int .i64 p,.int .i64 r]),.val (.int .i64 A),.val (.pointer (some ⟨b,o,none⟩)),.val (.pointer (some ⟨b,o,none⟩)),.val (.pointer (some ⟨b,o+9,none⟩)),.val (.int .i64 Z),.val (.int .i64 (A+Z)),.val (.int .i64 i),.val (.agg #[.int .i64 t,.int .i64 n,.int .i64 k,.int .i64 m,.int .i64 g,.int .i64 p,.int .i64 r]),.val (.int .i64 A),.val (.int .i64 i),.val (.bool true),.val (.bool true),.val (.bool true)] (by kernel_rfl) Grown.refl Grown.trans (by kernel_rfl) (by kernel_rfl) (by kernel_rfl) ?_
 simp only[ZH,Act.put,List.setIfInBounds_toArray,List.set_cons_zero,List.set_cons_succ]
 refine⟨?_,?_,?_,?_,?_,?_,?_,?_,?_,?_,?_,?_,?_,?_,?_,?_,?_,?_,?_,?_,?_,?_,?_,?_,?_,?_,?_,?_,?_,?_,?_,?_,?_,?_,?_,?_,?_,?_,?_,?_,?_,?_⟩
 . intros;apply ol;go_simp;exact gl
 . intros;apply ol;go_simp;exact gl
 . intros;apply ol;go_simp;exact gl
 . intros;apply ol;go_simp;exact gl
 . intro w' hg _
   apply ol
   have z:=(i1.drew.grown hg).OL
   go_simp
   exact gl
 . intro w' hg _
   apply ol
   go_simp
   refine⟨Grown.refl _,?_⟩
   first
    | rfl
    | (simp[Want.pred];done)
    | (simp[Want.pred];omega)
    | exact congrArg Value.bool (decide_eq_true (by omega))
 . intros;apply ol;go_simp;exact gl
 . intros;apply ol;go_simp;exact gl
 . intros;apply ol;go_simp;exact gl
 . intros;apply ol;go_simp;exact gl
 . intros;apply ol;go_simp;exact gl
 . intro w' hg _
   apply ol
   have z:=(i1.drew.grown hg).OL
   go_simp
   exact gl
 . intros;apply ol;go_simp;exact gl
 . intros;apply ol;go_simp;exact gl
 . intros;apply ol;go_simp;exact gl
 . intro w' hg _
   apply ol
   have z:=(i1.drew.grown hg).WO
   rw[hz] at z
   go_simp
   exact gl
 . intro w' hg _
   apply ol
   go_simp
   refine⟨Grown.refl _,?_⟩
   first
    | rfl
    | (simp[Want.pred];done)
    | (simp[Want.pred];omega)
    | exact congrArg Value.bool (decide_eq_true (by omega))
 . intros;apply ol;go_simp;exact gl
 . intros;apply ol;go_simp;exact gl
 . intros;apply ol;go_simp;exact gl
 . intros;apply ol;go_simp;exact gl
 . intros;apply ol;go_simp;exact gl
 . intro w' hg _
   apply ol
   have z:=(i1.drew.grown hg).WO
   rw[hz] at z
   go_simp
   exact gl
 . intro w' hg _
   apply ol
   go_simp
   refine(lc _).mono ?_
   rintro e w'' ⟨rfl,rfl⟩
   exact⟨_,rfl,Grown.refl _,rfl⟩
 . intro w' hg _
   apply ol
   go_simp
   refine⟨Grown.refl _,?_⟩
   first
    | rfl
    | (simp[Want.pred];done)
    | (simp[Want.pred];omega)
    | exact congrArg Value.bool (decide_eq_true (by omega))
 . intros;apply ol;go_simp;exact gl
 . intros;apply ol;go_simp;exact gl
 . intro w' hg _
   apply ol
   have y0:=(c1.drew.grown hg).at0 0 rfl
   have y1:=(c1.drew.grown hg).at0 1 rfl
   have y2:=(c1.drew.grown hg).at0 2 rfl
   have y3:=(c1.drew.grown hg).at0 3 rfl
   have y4:=(c1.drew.grown hg).at0 4 rfl
   have y5:=(c1.drew.grown hg).at0 5 rfl
   have y6:=(c1.drew.grown hg).at0 6 rfl
   go_simp
   exact gl
 . intros;apply ol;go_simp;exact gl
 . intros;apply ol;go_simp;exact gl
 . intros;apply ol;go_simp;exact gl
 . intros;apply ol;go_simp;exact gl
 . intro w' hg _
   apply ol
   have z:=(i1.drew.grown hg).WO
   rw[hz] at z
   go_simp
   exact gl
 . intro w' hg _
   apply ol
   go_simp
   exact⟨Grown.refl _,congrArg (Value.int .i64) (by rw[IntKind.wrap_i64];omega)⟩
 . intro w' hg _
   apply ol
   go_simp
   refine(yc _).mono ?_
   rintro e w'' ⟨rfl,b9⟩
   exact⟨_,rfl,b9,rfl⟩
 . intro w' hg _
   apply ol
   have y0:=(c1.drew.grown hg).at0 0 rfl
   have y1:=(c1.drew.grown hg).at0 1 rfl
   have y2:=(c1.drew.grown hg).at0 2 rfl
   have y3:=(c1.drew.grown hg).at0 3 rfl
   have y4:=(c1.drew.grown hg).at0 4 rfl
   have y5:=(c1.drew.grown hg).at0 5 rfl
   have y6:=(c1.drew.grown hg).at0 6 rfl
   go_simp
   exact gl
 . intros;apply ol;go_simp;exact gl
 . intro w' hg _
   apply ol
   go_simp
   refine(Gp _).mono ?_
   rintro e w'' ⟨rfl,b9⟩
   exact⟨_,rfl,b9,rfl⟩
 . intro w' hg _
   apply ol
   go_simp
   refine⟨Grown.refl _,?_⟩
   first
    | rfl
    | (simp[Want.pred];done)
    | (simp[Want.pred];omega)
    | exact congrArg Value.bool (by simp)
 . intros;apply ol;go_simp;exact gl
 . intros;apply ol;go_simp;exact gl
 intro w5 hg _
 go_wp2
 go_ret
 exact⟨rfl,grow (o1.trans ((Below.refl _ _).drew)) hg⟩
theorem OH {w:World} {L:Loc} {s:Mm} {b o:Nat} {T:TypeId} {cs:Array Value} {a:CV} (h:Z8 w L s) (hb:¬ L.has b) (hi:ZG w b o T cs a) (E val st:Int) :
 Calls Tryz.prog 207 #[.pointer (some ⟨b,o,none⟩),.int .i64 E,.int .i64 val,.int .i64 st] w fun e w'=>e=.returned (.tuple #[])/\Vr L b o T cs w w' (fun s' a'=>s'=s/\a'={ a with nx:=7,E:=E,H:=0,V:=val,St:=st }):=by
 have k1:=hi.D8
 have k2:=hi.Eg
 have k3:=hi.D7
 have k4:=hi.SN
 have k5:=hi.Zr
 have kf:=hi.fz
 go_enter Tryz.func207,Tryz.ntmps207
 go_wp2
 go_end0
 exact⟨rfl,s,_,_,((((h.ZY hb _ _).ZY hb _ _).ZY hb _ _).ZY hb _ _).ZY hb _ _,(((((Only.refl _ _).set _ _).set _ _).set _ _).set _ _).set _ _,((((hi.OJ E).QE 0).OI val).Vs st).Zl 7,((((Same.refl.set (by omega) _).set (by omega) _).set (by omega) _).set (by omega) _).set (by omega) _,rfl,rfl⟩
end Go.Proofs.YtgehjolndmgffaaGreat
