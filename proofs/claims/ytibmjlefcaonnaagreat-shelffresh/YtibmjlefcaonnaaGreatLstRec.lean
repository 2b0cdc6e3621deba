import Derived.Test.YtibmjlefcaonnaaGreatStruct
import Derived.Test.YtibmjlefcaonnaaGreatAccAt
namespace Go.Proofs.YtibmjlefcaonnaaGreat
open Go.RowKit
section
set_option maxRecDepth 20000
theorem XG (L:Loc) (c0 c1 c2 c3 c4 c5 c6 who:Int) (h0:0<=who) (h1:who<c0) (w:World) :
 Calls Tryz.prog 100 #[eV c0 c1 c2 c3 c4 c5 c6 L.p who] w fun e w'=>e=.returned (.bool true)/\Below w.heap.size w w':=by
 go_enter Tryz.func100,Tryz.ntmps100
 go_wp2
 go_ret
 exact⟨rfl,Z7 (Below.refl _ _) _⟩
structure Zg (w:World) (b o:Nat) (T:TypeId) (c:Array Value) (nx ep:Int):Prop where
 obj:w.heap[b]?=some (.cells c T (0,0))
 h0:c[o]?=some (iV nx)
 h1:c[o+1]?=some (.int .u64 ep)
def Yr (o:Nat) (c c':Array Value):Prop:=c'.size=c.size/\∀ i,i≠o->i≠o+1->c'[i]?=c[i]?
section
variable {w w':World} {b o:Nat} {T:TypeId} {c:Array Value} {nx ep:Int}
theorem Yr.trans {c' c'':Array Value} (h:Yr o c c') (k:Yr o c' c''):Yr o c c'':=⟨k.1.trans h.1,fun i h1 h2=>(k.2 i h1 h2).trans (h.2 i h1 h2)⟩
theorem Yr.set0 (v:Value):Yr o c (c.setIfInBounds o v):=⟨by simp,fun i h1 _=>by simp[Ne.symm h1]⟩
theorem Yr.set1 (v:Value):Yr o c (c.setIfInBounds (o+1) v):=⟨by simp,fun i _ h2=>by simp[Ne.symm h2]⟩
theorem Zg.c0 (h:Zg w b o T c nx ep):w.cell? ⟨b,o,none⟩=some (iV nx):=ZX h.obj h.h0
theorem Zg.c1 (h:Zg w b o T c nx ep):w.cell? ⟨b,o+1,none⟩=some (.int .u64 ep):=ZX h.obj h.h1
theorem Zg.fz (h:Zg w b o T c nx ep) (i:Nat):w.frozen? ⟨b,i,none⟩=false:=Y1 h.obj i
theorem Zg.lt (h:Zg w b o T c nx ep):b<w.heap.size:=WS h.obj
theorem Zg.Hq (h:Zg w b o T c nx ep):o<c.size:=(Array.getElem?_eq_some_iff.1 h.h0).1
theorem Zg.Ho (h:Zg w b o T c nx ep):o+1<c.size:=(Array.getElem?_eq_some_iff.1 h.h1).1
theorem Zg.of_block (h:Zg w b o T c nx ep) (e:w'.heap[b]?=w.heap[b]?):Zg w' b o T c nx ep:=⟨e.trans h.obj,h.h0,h.h1⟩
theorem Zg.grown (h:Zg w b o T c nx ep) (g:Below w.heap.size w w'):Zg w' b o T c nx ep:=h.of_block (g.block _ h.lt)
theorem Zg.only {S:Nat->Prop} (h:Zg w b o T c nx ep) (g:Only S w w') (hs:¬ S b):Zg w' b o T c nx ep:=h.of_block (g.block _ h.lt hs)
theorem Zg.set0 (h:Zg w b o T c nx ep) (n:Int):Zg (w.setCell ⟨b,o,none⟩ (iV n)) b o T (c.setIfInBounds o (iV n)) n ep :=
 ⟨ZZ _ _ _ _ _ _ h.obj,by simp[h.Hq],by rw[Array.getElem?_setIfInBounds_ne (by omega)];exact h.h1⟩
theorem Zg.set1 (h:Zg w b o T c nx ep) (n:Int):Zg (w.setCell ⟨b,o+1,none⟩ (.int .u64 n)) b o T (c.setIfInBounds (o+1) (.int .u64 n)) nx n :=
 ⟨ZZ _ _ _ _ _ _ h.obj,by rw[Array.getElem?_setIfInBounds_ne (by omega)];exact h.h0,by simp[h.Ho]⟩
end
inductive V9 (who:Nat) (s:Mm):Int->Int->Mm->Int->Int->Bool->Prop where
 | load (ep:Int):V9 who s 0 ep ((s.by who).step 0 (s.wd 0)) 1 (s.wd 0) false
 | lay (ep:Int):V9 who s 1 ep ((s.by who).step (6+who) (sum64 ep 1)) 2 ep false
 | same:V9 who s 2 (s.wd 0) ((s.by who).step 0 (s.wd 0)) 3 (s.wd 0) true
 | other (ep:Int) (h:¬ s.wd 0=ep):V9 who s 2 ep ((s.by who).step 0 (s.wd 0)) 1 (s.wd 0) false
def JF (L:Loc) (b o:Nat) (T:TypeId) (c:Array Value) (s s':Mm) (nx ep KQ:Int):Nat->World->Prop
 | 0,w=>Z8 w L s/\Zg w b o T c nx ep
 | 1,w=>Z8 w L s'/\Zg w b o T c nx ep
 | _,w=>Z8 w L s'/\Zg w b o T (c.setIfInBounds (o+1) (.int .u64 KQ)) nx KQ
theorem Nl {w:World} {L:Loc} {s:Mm} {b o:Nat} {T:TypeId} {c:Array Value} {ep:Int} (h:Z8 w L s) (hb:¬ L.has b) (hi:Zg w b o T c 2 ep) (c0 c1 c2 c3 c4 c5 c6:Int) (who:Nat) (hn:0<s.n) :
 Calls Tryz.prog 99 #[pP b o,eV c0 c1 c2 c3 c4 c5 c6 L.p who] w fun e w'=>e=.returned (.tuple #[])/\∃ c' nx',Z8 w' L ((s.by who).step 0 (s.wd 0))/\Zg w' b o T c' nx' (s.wd 0)/\Yr o c c'/\Only (L.and b) w w'/\((nx'=3/\s.wd 0=ep)\/(nx'=1/\¬ s.wd 0=ep)):=by
 have hbv:¬ L.has w.heap.size:=fun hh=>by have:=h.lt _ hh;omega
 go_enter Tryz.func99,Tryz.ntmps99
 go_wp2
 refine ZV (fun W=>Z8 W L s/\Zg W b o T c 2 ep/\ZT W w.heap.size c0 c1 c2 c3 c4 c5 c6 L.p who/\Only (L.and b) w W) ⟨h.alloc _,hi.grown (Z7 (Below.refl _ _) _),ZT.new,(Only.refl _ _).alloc _⟩ ?_
 rintro W ⟨m1,i1,v1,o1⟩
 refine YT (Only L.has) (fun x y=>y=x) (fun p W'=>match p with | 0=>Z8 W' L s | _=>Z8 W' L ((s.by who).step 0 (s.wd 0))) [2] [.val (eV c0 c1 c2 c3 c4 c5 c6 L.p who),.val (iV 0),.val (.int .u64 (s.wd 0)),.val (.int .u64 (s.wd 0))]
  (by kernel_rfl) (Only.refl _) (fun _ _ _ h k=>h.trans k) (fun x y h=>by subst h;exact Only.refl _ _) (fun x y p h k=>by subst h;exact k) m1.drew (by kernel_rfl) (by kernel_rfl) (by kernel_rfl) (by kernel_rfl) (by kernel_rfl) ?_
 simp only[Zy,Act.put,List.setIfInBounds_toArray,List.set_cons_zero,List.set_cons_succ]
 refine⟨?_,?_,?_,?_,?_⟩
 . intro w' hR _;apply ol;obtain⟨y0,y1,y2,y3,y4,y5,y6,y7,y8⟩:=(v1.grown ((Below.refl _ _).drew)).only hR hbv;go_simp;exact⟨rfl,rfl⟩
 . intro w' hR _;apply ol;go_simp;refine(UU _).mono ?_;rintro e w'' ⟨rfl,rfl⟩;exact⟨_,rfl,rfl,rfl⟩
 . intro w' hR _ hP;apply ol;go_simp;refine(Zw (s:=s) hP _ _ _ _ _ _ _ _ 0 hn).mono ?_;rintro e w'' ⟨rfl,m2,o2⟩;exact⟨_,rfl,⟨o2,m2⟩,rfl⟩
 . intro w' hR _;apply ol;go_simp;exact⟨rfl,rfl⟩
 intro w2 hR m2 _
 have Ou:Z8 w2 L ((s.by who).step 0 (s.wd 0)):=m2
 clear m2
 have i2:=(i1.grown ((Below.refl _ _).drew)).only hR hb
 have o2:Only (L.and b) w w2:=o1.drew.trans (hR.Yq)
 have k0:=i2.c0
 have k1:=i2.c1
 have kf:=i2.fz
 clear m1 i1 v1 o1 hR
 by_cases he:s.wd 0=ep
 . go_wp2
   refine bodyPost_ret (results_none rfl _ _ _) rfl ?_
   exact⟨rfl,_,3,Ou.Z5 hb _ _,by rw[he];exact i2.set0 3,Yr.set0 _,o2.set _ _,Or.inl ⟨rfl,he⟩⟩
 . go_wp2
   go_end0
   exact⟨rfl,_,1,(Ou.Z5 hb _ _).Z5 hb _ _,(i2.set1 _).set0 1,(Yr.set1 _).trans (Yr.set0 _),(o2.set _ _).set _ _,Or.inr ⟨rfl,he⟩⟩
def Stepped (who:Nat) (L:Loc) (b o:Nat) (T:TypeId) (c:Array Value) (s:Mm) (nx ep:Int) (w:World) (e:Ending) (w':World):Prop :=
 ∃ d s' c' nx' KQ,e=.returned (.bool d)/\V9 who s nx ep s' nx' KQ d/\Z8 w' L s'/\Zg w' b o T c' nx' KQ/\Yr o c c'/\Only (L.and b) w w'
theorem OM {w:World} {L:Loc} {s:Mm} {b o:Nat} {T:TypeId} {c:Array Value} {ep:Int} (h:Z8 w L s) (hb:¬ L.has b) (hi:Zg w b o T c 0 ep) (c0 c1 c2 c3 c4 c5 c6:Int) (who:Nat) (hn:0<s.n) (hw:(who:Int)<c0) :
 Calls Tryz.prog 98 #[pP b o,eV c0 c1 c2 c3 c4 c5 c6 L.p who] w (Stepped who L b o T c s 0 ep w):=by
 obtain⟨hbv,hbb⟩:=nb h hi.lt
 go_enter Tryz.func98,Tryz.ntmps98
 go_wp2_with (go_at_call 100;refine(XG L c0 c1 c2 c3 c4 c5 c6 who (by omega) hw _).mono ?_;rintro e w1 ⟨rfl,b1⟩;have i1:=(hi.grown (Z7 (Below.refl _ _) _)).grown b1;have k0:=i1.c0;have k1:=i1.c1;have kf:=i1.fz)
 have m1:=(h.alloc (.cells #[iV c0,iV c1,iV c2,iV c3,iV c4,iV c5,iV c6,pP L.p 0,iV who] 29)).below b1
 have v1:ZT w1 w.heap.size c0 c1 c2 c3 c4 c5 c6 L.p who:=ZT.new.grown b1
 have o1:Only (L.and b) w w1:=((Only.refl _ _).alloc _).trans (Only.Z4 b1)
 refine YT (Only (L.and b)) (fun x y=>y=x) (JF L b o T c s ((s.by who).step 0 (s.wd 0)) 0 ep (s.wd 0)) [3,6] [.val (pP b o),.val (eV c0 c1 c2 c3 c4 c5 c6 L.p who),.val (iV 0),.val (.int .u64 (s.wd 0)),.val (pP b o),.val (pP b (o+1)),.that (fun _ _=>True) (fun _ _ _ _ _=>trivial)]
  (by kernel_rfl) (Only.refl _) (fun _ _ _ h k=>h.trans k) (fun x y h=>by subst h;exact Only.refl _ _) (fun x y p h k=>by subst h;exact k) ⟨m1.drew,i1.grown ((Below.refl _ _).drew)⟩ (by kernel_rfl) (by kernel_rfl) (by kernel_rfl) (by kernel_rfl) (by kernel_rfl) ?_
 simp only[Zy,Act.put,List.setIfInBounds_toArray,List.set_cons_zero,List.set_cons_succ]
 refine⟨?_,?_,?_,?_,?_,?_,?_,?_⟩
 . intro w' hR _;apply ol;go_simp;exact⟨rfl,rfl⟩
 . intro w' hR _;apply ol;obtain⟨y0,y1,y2,y3,y4,y5,y6,y7,y8⟩:=(v1.grown ((Below.refl _ _).drew)).only hR (fun hh=>hh.elim hbv hbb);go_simp;exact⟨rfl,rfl⟩
 . intro w' hR _;apply ol;go_simp;refine(UU _).mono ?_;rintro e w'' ⟨rfl,rfl⟩;exact⟨_,rfl,rfl,rfl⟩
 . intro w' hR _ hP;apply ol;go_simp;refine(Zw (s:=s) hP.1 _ _ _ _ _ _ _ _ 0 hn).mono ?_;rintro e w'' ⟨rfl,m2,o2⟩;exact⟨_,rfl,⟨o2.Yq,m2,hP.2.only o2 hb⟩,rfl⟩
 . intro w' hR _;apply ol;go_simp;exact⟨rfl,rfl⟩
 . intro w' hR _;apply ol;go_simp;exact⟨rfl,rfl⟩
 . intro w' hR _ hP;apply ol;have z0:=hP.2.c1;have z1:=hP.2.fz;go_simp;exact⟨⟨(Only.refl _ _).set _ _,hP.1.Z5 hb _ _,hP.2.set1 _⟩,trivial⟩
 intro v w2 hR hP _
 obtain⟨m2,i2⟩:Z8 w2 L ((s.by who).step 0 (s.wd 0))/\Zg w2 b o T (c.setIfInBounds (o+1) (.int .u64 (s.wd 0))) 0 (s.wd 0):=hP
 have o2:Only (L.and b) w w2:=o1.drew.trans hR
 clear hR o1 v1 m1 i1 k0 k1 kf
 have k0:=i2.c0
 have k1:=i2.c1
 have kf:=i2.fz
 go_wp2
 go_ret
 exact⟨false,_,_,1,_,rfl,.load ep,m2.Z5 hb _ _,i2.set0 1,(Yr.set1 _).trans (Yr.set0 _),o2.set _ _⟩
theorem Nk {w:World} {L:Loc} {s:Mm} {b o:Nat} {T:TypeId} {c:Array Value} {ep:Int} (h:Z8 w L s) (hb:¬ L.has b) (hi:Zg w b o T c 1 ep) (c0 c1 c2 c3 c4 c5 c6:Int) (who:Nat) (hn:6+who<s.n) (hw:(who:Int)<c0) (hc:c0<=8) :
 Calls Tryz.prog 98 #[pP b o,eV c0 c1 c2 c3 c4 c5 c6 L.p who] w (Stepped who L b o T c s 1 ep w):=by
 obtain⟨hbv,hbb⟩:=nb h hi.lt
 go_enter Tryz.func98,Tryz.ntmps98
 go_wp2_with (go_at_call 100;refine(XG L c0 c1 c2 c3 c4 c5 c6 who (by omega) hw _).mono ?_;rintro e w1 ⟨rfl,b1⟩;have i1:=(hi.grown (Z7 (Below.refl _ _) _)).grown b1;have k0:=i1.c0;have k1:=i1.c1;have kf:=i1.fz)
 have m1:=(h.alloc (.cells #[iV c0,iV c1,iV c2,iV c3,iV c4,iV c5,iV c6,pP L.p 0,iV who] 29)).below b1
 have v1:ZT w1 w.heap.size c0 c1 c2 c3 c4 c5 c6 L.p who:=ZT.new.grown b1
 have o1:Only (L.and b) w w1:=((Only.refl _ _).alloc _).trans (Only.Z4 b1)
 refine YT (Only L.has) (fun x y=>y=x) (fun p W'=>match p with | 0=>Z8 W' L s | _=>Z8 W' L ((s.by who).step (6+who) (sum64 ep 1))) [9] [.val (eV c0 c1 c2 c3 c4 c5 c6 L.p who),.val (pP w.heap.size 8),.val (iV who),.val (iV (6+who:Nat)),.val (pP b o),.val (pP b o),.val (pP b (o+1)),.val (.int .u64 ep),.val (.int .u64 (sum64 ep 1)),.that (fun _ _=>True) (fun _ _ _ _ _=>trivial)]
  (by kernel_rfl) (Only.refl _) (fun _ _ _ h k=>h.trans k) (fun x y h=>by subst h;exact Only.refl _ _) (fun x y p h k=>by subst h;exact k) m1.drew (by kernel_rfl) (by kernel_rfl) (by kernel_rfl) (by kernel_rfl) (by kernel_rfl) ?_
 simp only[Zy,Act.put,List.setIfInBounds_toArray,List.set_cons_zero,List.set_cons_succ]
 refine⟨?_,?_,?_,?_,?_,?_,?_,?_,?_,?_,?_⟩
 . intro w' hR _;apply ol;obtain⟨y0,y1,y2,y3,y4,y5,y6,y7,y8⟩:=(v1.grown ((Below.refl _ _).drew)).only hR hbv;go_simp;exact⟨rfl,rfl⟩
 . intro w' hR _;apply ol;go_simp;exact⟨rfl,rfl⟩
 . intro w' hR _;apply ol;have y8:=((v1.grown ((Below.refl _ _).drew)).only hR hbv).c8;go_simp;exact⟨rfl,rfl⟩
 . intro w' hR _;apply ol;go_simp;refine(Wj _ _ (by omega) (by omega)).mono ?_;rintro e w'' ⟨rfl,rfl⟩;exact⟨_,rfl,rfl,by simp[Want.pred]⟩
 . intro w' hR _;apply ol;go_simp;exact⟨rfl,rfl⟩
 . intro w' hR _;apply ol;go_simp;exact⟨rfl,rfl⟩
 . intro w' hR _;apply ol;go_simp;exact⟨rfl,rfl⟩
 . intro w' hR _;apply ol;have y1:=((i1.grown ((Below.refl _ _).drew)).only hR hb).c1;go_simp;exact⟨rfl,rfl⟩
 . intro w' hR _;apply ol;go_simp;exact⟨rfl,rfl⟩
 . intro w' hR _ hP;apply ol;go_simp;refine(XY (s:=s) hP _ _ _ _ _ _ _ _ (6+who) hn _).mono ?_;rintro e w'' ⟨rfl,m2,o2⟩;exact⟨_,rfl,⟨o2,m2⟩,trivial⟩
 intro v w2 hR hP _
 have m2:Z8 w2 L ((s.by who).step (6+who) (sum64 ep 1)):=hP
 have i2:=(i1.grown ((Below.refl _ _).drew)).only hR hb
 have o2:Only (L.and b) w w2:=o1.drew.trans hR.Yq
 clear hR o1 v1 m1 i1 k0 k1 kf hP
 have k0:=i2.c0
 have k1:=i2.c1
 have kf:=i2.fz
 go_wp2
 go_ret
 exact⟨false,_,_,2,_,rfl,.lay ep,m2.Z5 hb _ _,i2.set0 2,Yr.set0 _,o2.set _ _⟩
theorem OL {w:World} {L:Loc} {s:Mm} {b o:Nat} {T:TypeId} {c:Array Value} {ep:Int} (h:Z8 w L s) (hb:¬ L.has b) (hi:Zg w b o T c 2 ep) (c0 c1 c2 c3 c4 c5 c6:Int) (who:Nat) (hn:0<s.n) (hw:(who:Int)<c0) :
 Calls Tryz.prog 98 #[pP b o,eV c0 c1 c2 c3 c4 c5 c6 L.p who] w (Stepped who L b o T c s 2 ep w):=by
 go_enter Tryz.func98,Tryz.ntmps98
 go_wp2_with (first
  | (go_at_call 100;refine(XG L c0 c1 c2 c3 c4 c5 c6 who (by omega) hw _).mono ?_;rintro e w1 ⟨rfl,b1⟩;have i1:=(hi.grown (Z7 (Below.refl _ _) _)).grown b1;have v1:ZT w1 w.heap.size c0 c1 c2 c3 c4 c5 c6 L.p who:=ZT.new.grown b1;have k0:=i1.c0;have k1:=i1.c1;obtain⟨y0,y1,y2,y3,y4,y5,y6,y7,y8⟩:=id v1)
  | (go_at_call 99;refine(Nl ((h.alloc _).below b1) hb i1 _ _ _ _ _ _ _ who hn).mono ?_;rintro e w2 ⟨rfl,c',nx',m2,i2,sm,o2,hx⟩;have k0:=i2.c0))
 have o1:Only (L.and b) w w2:=(((Only.refl _ _).alloc _).trans (Only.Z4 b1)).trans o2
 rcases hx with⟨rfl,rfl⟩ | ⟨rfl,hne⟩
 . go_ret
   exact⟨true,_,_,3,_,rfl,.same,m2,i2,sm,o1⟩
 . go_ret
   exact⟨false,_,_,1,_,rfl,.other ep hne,m2,i2,sm,o1⟩
theorem Vb {w:World} {L:Loc} {s:Mm} {b o:Nat} {T:TypeId} {c:Array Value} {nx ep:Int} (h:Z8 w L s) (hb:¬ L.has b) (hi:Zg w b o T c nx ep) (hx:nx=0\/nx=1\/nx=2) (c0 c1 c2 c3 c4 c5 c6:Int) (who:Nat) (hn:6+who<s.n) (hw:(who:Int)<c0) (hc:c0<=8) :
 Calls Tryz.prog 98 #[pP b o,eV c0 c1 c2 c3 c4 c5 c6 L.p who] w (Stepped who L b o T c s nx ep w):=by
 rcases hx with rfl | rfl | rfl
 . exact OM h hb hi _ _ _ _ _ _ _ who (by omega) hw
 . exact Nk h hb hi _ _ _ _ _ _ _ who hn hw hc
 . exact OL h hb hi _ _ _ _ _ _ _ who (by omega) hw
theorem Me {w:World} {L:Loc} {s:Mm} (h:Z8 w L s) (c0 c1 c2 c3 c4 c5 c6:Int) (who:Nat) (hn:6+who<s.n) (hw:(who:Int)<c0) (hc:c0<=8) :
 Calls Tryz.prog 105 #[.agg #[],eV c0 c1 c2 c3 c4 c5 c6 L.p who] w fun e w'=>e=.returned (.bool true)/\Z8 w' L ((s.by who).step (6+who) 0)/\Only L.has w w':=by
 have v0:ZT ((w.alloc (.cells #[] 109)).alloc (.cells #[iV c0,iV c1,iV c2,iV c3,iV c4,iV c5,iV c6,pP L.p 0,iV who] 29)) (w.heap.size+1) c0 c1 c2 c3 c4 c5 c6 L.p who:=by
  have:=ZT.new (w:=w.alloc (.cells #[] 109)) (T:=29) (c0:=c0) (c1:=c1) (c2:=c2) (c3:=c3) (c4:=c4) (c5:=c5) (c6:=c6) (P:=L.p) (who:=who)
  rwa [Go.Deep.nblk_alloc] at this
 have m0:=(h.alloc (.cells #[] 109)).alloc (.cells #[iV c0,iV c1,iV c2,iV c3,iV c4,iV c5,iV c6,pP L.p 0,iV who] 29)
 obtain⟨y0,y1,y2,y3,y4,y5,y6,y7,y8⟩:=id v0
 go_enter Tryz.func105,Tryz.ntmps105
 go_wp2_with (go_at_call 100;refine(XG L c0 c1 c2 c3 c4 c5 c6 who (by omega) hw _).mono ?_;rintro e w1 ⟨rfl,b1⟩)
 refine ZV (fun W=>Z8 W L s/\ZT W (w.heap.size+1) c0 c1 c2 c3 c4 c5 c6 L.p who/\Only L.has w W) ⟨m0.below b1,v0.grown b1,(((Only.refl _ _).alloc _).alloc _).trans (Only.Z4 b1)⟩ ?_
 clear m0 v0 y0 y1 y2 y3 y4 y5 y6 y7 y8 b1
 rintro W ⟨m1,v1,o1⟩
 apply XF 4;. kernel_rfl
 apply rV;. intro w' hg _;apply ol;have y:=(v1.dg hg).yy;go_simp;exact gl
 apply rV;. intros;apply ol;go_simp;exact gl
 apply rV;. intro w' hg _;apply ol;have y:=(v1.dg hg).yy;go_simp;exact gl
 apply X6 (c:=iV ((6+who:Nat):Int));. intro w' hg _;apply ol;go_simp;refine(Wj _ _ (by omega) (by omega)).mono ?_;rintro e w'' ⟨rfl,rfl⟩;exact⟨_,rfl,Grown.refl _,by simp[Want.pred]⟩
 try simp only[pu,s0,s1]
 intro w5 hg _
 have m5:=m1.drew.below hg
 go_wp2_with (go_at_call 103;refine(XY m5 _ _ _ _ _ _ _ _ (6+who) hn 0).mono ?_;rintro e w6 ⟨rfl,m6,o6⟩)
 go_ret
 exact⟨rfl,m6,(o1.drew.trans (Only.Z4 hg)).trans o6⟩
end
section
structure Xa where
 kd:Int
 sz:Int
 nu:Int
 ix:Int
 vl:Int
 ol:Int
 own:Bool
@[reducible] def Xa.v (X:Xa):Value:=.agg #[iV X.kd,iV X.sz,.int .u64 X.nu,iV X.ix,iV X.vl,iV X.ol,.bool X.own]
@[reducible] def Xa.box (X:Xa):Obj:=.cells #[iV X.kd,iV X.sz,.int .u64 X.nu,iV X.ix,iV X.vl,iV X.ol,.bool X.own] 82
def fitsV (v:Int):Bool:=decide (0<=v) && decide (v<=1099511627775)
theorem Ic.new (X:Xa) (w:World):At (w.alloc X.box) w.heap.size 0 82 #[iV X.kd,iV X.sz,.int .u64 X.nu,iV X.ix,iV X.vl,iV X.ol,.bool X.own] [iV X.kd,iV X.sz,.int .u64 X.nu,iV X.ix,iV X.vl,iV X.ol,.bool X.own]:=At.new w _ [iV X.kd,iV X.sz,.int .u64 X.nu,iV X.ix,iV X.vl,iV X.ol,.bool X.own]
def Xa.may (X:Xa):Bool:=decide (1<=X.kd) && decide (X.kd<=5) && fitsV X.vl && fitsV X.ol
theorem fits_any (v:Int) (w:World):Calls Tryz.prog 75 #[iV v] w fun e w'=>e=.returned (.bool (fitsV v))/\w'=w:=by
 by_cases h0:(0:Int)<=v
 . by_cases h1:v<=1099511627775
   . go_enter Tryz.func75,Tryz.ntmps75
     go_wp2
     go_ret
     exact⟨by simp[fitsV,h0,h1],rfl⟩
   . go_enter Tryz.func75,Tryz.ntmps75
     go_wp2
     go_ret
     exact⟨by simp[fitsV,h0,h1],rfl⟩
 . go_enter Tryz.func75,Tryz.ntmps75
   go_wp2
   go_ret
   exact⟨by unfold fitsV;rw[decide_eq_false (by omega:¬ 0<=v),Bool.false_and];rfl,rfl⟩
theorem check_any (X:Xa) (w:World):Calls Tryz.prog 57 #[X.v] w fun e w'=>e=.returned (.bool X.may)/\Below w.heap.size w w':=by
 obtain⟨kd,sz,nu,ix,vl,ol,own⟩:=X
 obtain⟨d1,h1⟩:∃ d,fitsV vl=d:=⟨_,rfl⟩
 obtain⟨d2,h2⟩:∃ d,fitsV ol=d:=⟨_,rfl⟩
 have f1:∀ w,Calls Tryz.prog 75 #[iV vl] w fun e w'=>e=.returned (.bool d1)/\w'=w:=fun w=>by rw[<- h1];exact fits_any vl w
 have f2:∀ w,Calls Tryz.prog 75 #[iV ol] w fun e w'=>e=.returned (.bool d2)/\w'=w:=fun w=>by rw[<- h2];exact fits_any ol w
 have hm:Hid (Xa.may ⟨kd,sz,nu,ix,vl,ol,own⟩=(decide (1<=kd) && decide (kd<=5) && d1 && d2)):=by rw[<- h1,<- h2];rfl
 rw[hm.out]
 clear h1 h2 hm
 show Calls Tryz.prog 57 #[.agg #[iV kd,iV sz,.int .u64 nu,iV ix,iV vl,iV ol,.bool own]] w _
 by_cases k0:(1:Int)<=kd
 . by_cases k1:kd<=5
   . cases d1
     . go_enter Tryz.func57,Tryz.ntmps57
       go_wp2_with (go_at_call 75;refine(f1 _).mono ?_;rintro e w1 ⟨rfl,rfl⟩)
       go_ret
       exact⟨by simp[k0,k1],Z7 (Below.refl _ _) _⟩
     . go_enter Tryz.func57,Tryz.ntmps57
       go_wp2_with (first
        | (go_at_call 75;refine(f1 _).mono ?_;rintro e w1 ⟨rfl,rfl⟩;clear f1)
        | (go_at_call 75;refine(f2 _).mono ?_;rintro e w1 ⟨rfl,rfl⟩))
       go_ret
       exact⟨by simp[k0,k1],Z7 (Below.refl _ _) _⟩
   . go_enter Tryz.func57,Tryz.ntmps57
     go_wp2
     go_ret
     exact⟨by rw[decide_eq_false (by omega:¬ kd<=5),Bool.false_and,Bool.false_and];rfl,Z7 (Below.refl _ _) _⟩
 . go_enter Tryz.func57,Tryz.ntmps57
   go_wp2
   go_ret
   exact⟨by rw[decide_eq_false (by omega:¬ 1<=kd),Bool.false_and,Bool.false_and,Bool.false_and];rfl,Z7 (Below.refl _ _) _⟩
def Xa.ob (X:Xa):Obj:=if X.kd=1 then TM X.sz X.own else if X.kd=2 then Qq X.nu X.own else Oq (X.kd - 2) X.nu X.ix X.vl X.ol X.own
def Xa.ty (X:Xa):TypeId:=if X.kd=1 then 120 else if X.kd=2 then 122 else 142
theorem PL (X:Xa) (kd:Int) (w:World):Calls Tryz.prog 78 #[X.v,iV kd] w fun e w'=>∃ W,e=.returned (.iface 142 (pP W.heap.size 0))/\w'=W.alloc (Oq kd X.nu X.ix X.vl X.ol X.own)/\Below w.heap.size w W:=by
 obtain⟨kx,sz,nu,ix,vl,ol,own⟩:=X
 show Calls Tryz.prog 78 #[.agg #[iV kx,iV sz,.int .u64 nu,iV ix,iV vl,iV ol,.bool own],iV kd] w _
 go_enter Tryz.func78,Tryz.ntmps78
 go_wp2_with (go_at_call 80;refine(Rq kd nu ix vl ol own _).mono ?_;rintro e w1 ⟨W1,rfl,rfl,g1⟩)
 go_ret
 exact⟨W1,rfl,rfl,grow (Z7 (Below.refl _ _) _) g1⟩
set_option maxRecDepth 20000 in
theorem Mc (X:Xa) (h0:1<=X.kd) (h5:X.kd<=5) (w:World):Calls Tryz.prog 58 #[X.v] w fun e w'=>∃ W,e=.returned (.iface X.ty (pP W.heap.size 0))/\w'=W.alloc X.ob/\Below w.heap.size w W:=by
 obtain⟨kx,sz,nu,ix,vl,ol,own⟩:=X
 have rr:=fun kd w=>PL ⟨kx,sz,nu,ix,vl,ol,own⟩ kd w
 simp only[] at h0 h5
 have hk:kx=1\/kx=2\/kx=3\/kx=4\/kx=5:=by omega
 show Calls Tryz.prog 58 #[.agg #[iV kx,iV sz,.int .u64 nu,iV ix,iV vl,iV ol,.bool own]] w _
 have rr:∀ kd w,Calls Tryz.prog 78 #[.agg #[iV kx,iV sz,.int .u64 nu,iV ix,iV vl,iV ol,.bool own],iV kd] w _:=rr
 rcases hk with rfl | rfl | rfl | rfl | rfl
 . go_enter Tryz.func58,Tryz.ntmps58
   go_wp2_with (go_at_call 76;refine(TL sz own _).mono ?_;rintro e w1 ⟨rfl,rfl⟩)
   go_ret
   exact⟨_,by rw[Go.Deep.nblk_alloc];rfl,rfl,Z7 (Below.refl _ _) _⟩
 . go_enter Tryz.func58,Tryz.ntmps58
   go_wp2_with (go_at_call 77;refine(SK nu own _).mono ?_;rintro e w1 ⟨rfl,rfl⟩)
   go_ret
   exact⟨_,by rw[Go.Deep.nblk_alloc];rfl,rfl,Z7 (Below.refl _ _) _⟩
 all_goals
  go_enter Tryz.func58,Tryz.ntmps58
  go_wp2_with (go_at_call 78;refine(rr _ _).mono ?_;rintro e w1 ⟨W1,rfl,rfl,g1⟩)
  go_ret
  exact⟨W1,rfl,rfl,grow (Z7 (Below.refl _ _) _) g1⟩
structure WT (w:World) (bA bS bI b:Nat) (T:TypeId) (i:Nat):Prop where
 a:∃ c,At w bA 0 88 c [.iface T (pP b 0),.slice (some ⟨bS,min i 2,none⟩) (3 - i) (3 - i)]
 l:∃ c,At w bS 0 90 c [.iface 105 (pP bI 0),.iface T (pP b 0),.iface 109 (.agg #[])]
 h1:bA≠bS
 h2:bA≠bI
 h3:bA≠b
 h4:bS≠bI
 h5:bS≠b
 h6:bI≠b
theorem Ri (X:Xa) (h:X.may=true) (w:World):Calls Tryz.prog 38 #[X.v] w fun e w'=>∃ (bA bS bI b:Nat) (W:World) (c:Array Value),e=.returned (.tuple #[pP bA 0,iV 0])/\Below w.heap.size w w'/\w.heap.size<=b/\b<bI/\bI<bS/\bS<bA/\WT w' bA bS bI b X.ty 0/\Zg w' bI 0 107 c 0 0/\b=W.heap.size/\Below (W.alloc X.ob).heap.size (W.alloc X.ob) w':=by
 have hc:=check_any X
 rw[h] at hc
 have h0:1<=X.kd/\X.kd<=5:=by
  unfold Xa.may at h
  simp only[Bool.and_eq_true,decide_eq_true_eq] at h
  exact h.1.1
 have hw:=Mc X h0.1 h0.2
 obtain⟨kx,sz,nu,ix,vl,ol,own⟩:=X
 generalize hT:Xa.ty ⟨kx,sz,nu,ix,vl,ol,own⟩=T at hw ⊢
 generalize hO:Xa.ob ⟨kx,sz,nu,ix,vl,ol,own⟩=O at hw ⊢
 clear h h0 hT hO
 have hc:∀ w,Calls Tryz.prog 57 #[.agg #[iV kx,iV sz,.int .u64 nu,iV ix,iV vl,iV ol,.bool own]] w _:=hc
 have hw:∀ w,Calls Tryz.prog 58 #[.agg #[iV kx,iV sz,.int .u64 nu,iV ix,iV vl,iV ol,.bool own]] w _:=hw
 show Calls Tryz.prog 38 #[.agg #[iV kx,iV sz,.int .u64 nu,iV ix,iV vl,iV ol,.bool own]] w _
 have x0:=(Ic.new (X:=⟨kx,sz,nu,ix,vl,ol,own⟩) w)
 go_enter Tryz.func38,Tryz.ntmps38
 go_wp2_with (first
  | (go_at_call 57;refine(hc _).mono ?_;rintro e w1 ⟨rfl,g1⟩;have x1:=x0.grown g1;have z0:=x1.at0 0 rfl;have z1:=x1.at0 1 rfl;have z2:=x1.at0 2 rfl;have z3:=x1.at0 3 rfl;have z4:=x1.at0 4 rfl;have z5:=x1.at0 5 rfl;have z6:=x1.at0 6 rfl)
  | (go_at_call 58;refine(hw _).mono ?_;rintro e w2 ⟨W2,rfl,rfl,g2⟩))
 refine bodyPost_ret (v:=.tuple #[.pointer (some ⟨W2.heap.size+1+1+1,0,none⟩),iV 0]) (by simp[results,Tryz.results38,go_sem]) rfl ?_
 have bb:Below w.heap.size w W2:=grow (grow (Z7 (Below.refl _ _) _) g1) g2
 have q1:=At.new (W2.alloc O) 107 [iV 0,.int .u64 0]
 have q2:=At.new ((W2.alloc O).alloc (.cells #[iV 0,.int .u64 0] 107)) 90 [.iface 105 (.pointer (some ⟨W2.heap.size+1,0,none⟩)),.iface T (pP W2.heap.size 0),.iface 109 (.agg #[])]
 have q3:=At.new (((W2.alloc O).alloc (.cells #[iV 0,.int .u64 0] 107)).alloc (.cells #[.iface 105 (.pointer (some ⟨W2.heap.size+1,0,none⟩)),.iface T (pP W2.heap.size 0),.iface 109 (.agg #[])] 90)) 88 [.iface T (pP W2.heap.size 0),.slice (some ⟨W2.heap.size+1+1,0,none⟩) 3 3]
 have q1':=(q1.grown (ZY _ (.cells #[.iface 105 (.pointer (some ⟨W2.heap.size+1,0,none⟩)),.iface T (pP W2.heap.size 0),.iface 109 (.agg #[])] 90))).grown (ZY _ (.cells #[.iface T (pP W2.heap.size 0),.slice (some ⟨W2.heap.size+1+1,0,none⟩) 3 3] 88))
 have q2':=q2.grown (ZY _ (.cells #[.iface T (pP W2.heap.size 0),.slice (some ⟨W2.heap.size+1+1,0,none⟩) 3 3] 88))
 simp only[Go.Deep.nblk_alloc] at q1' q2' q3
 refine⟨W2.heap.size+1+1+1,W2.heap.size+1+1,W2.heap.size+1,W2.heap.size,W2,_,rfl,Z7 (Z7 (Z7 (Z7 bb _) _) _) _,bb.size,by omega,by omega,by omega,⟨⟨_,q3⟩,⟨_,q2'⟩,by omega,by omega,by omega,by omega,by omega,by omega⟩,⟨q1'.obj,q1'.is 0 _ rfl,q1'.is 1 _ rfl⟩,rfl,grow (grow (ZY _ _) (ZY _ _)) (ZY _ _)⟩
end
section
end
end Go.Proofs.YtibmjlefcaonnaaGreat
