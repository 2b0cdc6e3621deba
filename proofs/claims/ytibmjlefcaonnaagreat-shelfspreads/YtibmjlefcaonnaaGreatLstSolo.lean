import Derived.Test.YtibmjlefcaonnaaGreatStruct
import Derived.Test.YtibmjlefcaonnaaGreatAccLoad
import Derived.Test.YtibmjlefcaonnaaGreatAccTown
import Derived.Test.YtibmjlefcaonnaaGreatLstAlone
namespace Go.Proofs.YtibmjlefcaonnaaGreat
open Go.RowKit
section
set_option maxRecDepth 20000
theorem Ws (L:Loc) (c0 c1 c2 c3 c4 c5 c6 who:Int) (h0:0<=who) (h1:who<c0) (w:World) :
 Calls Tryz.prog 100 #[eV c0 c1 c2 c3 c4 c5 c6 L.p who] w fun e w'=>e=.returned (.bool true)/\Below w.heap.size w w':=by
 go_enter Tryz.func100,Tryz.ntmps100
 go_wp2
 go_ret
 exact⟨rfl,Z5 (Below.refl _ _) _⟩
structure YV (w:World) (b o:Nat) (T:TypeId) (c:Array Value) (nx ep:Int):Prop where
 obj:w.heap[b]?=some (.cells c T (0,0))
 h0:c[o]?=some (iV nx)
 h1:c[o+1]?=some (.int .u64 ep)
def XN (o:Nat) (c c':Array Value):Prop:=c'.size=c.size/\∀ i,i≠o->i≠o+1->c'[i]?=c[i]?
section
variable {w w':World} {b o:Nat} {T:TypeId} {c:Array Value} {nx ep:Int}
theorem XN.trans {c' c'':Array Value} (h:XN o c c') (k:XN o c' c''):XN o c c'':=⟨k.1.trans h.1,fun i h1 h2=>(k.2 i h1 h2).trans (h.2 i h1 h2)⟩
theorem XN.set0 (v:Value):XN o c (c.setIfInBounds o v):=⟨by simp,fun i h1 _=>by simp[Ne.symm h1]⟩
theorem XN.set1 (v:Value):XN o c (c.setIfInBounds (o+1) v):=⟨by simp,fun i _ h2=>by simp[Ne.symm h2]⟩
theorem YV.c0 (h:YV w b o T c nx ep):w.cell? ⟨b,o,none⟩=some (iV nx):=ZV h.obj h.h0
theorem YV.c1 (h:YV w b o T c nx ep):w.cell? ⟨b,o+1,none⟩=some (.int .u64 ep):=ZV h.obj h.h1
theorem YV.fz (h:YV w b o T c nx ep) (i:Nat):w.frozen? ⟨b,i,none⟩=false:=YK h.obj i
theorem YV.lt (h:YV w b o T c nx ep):b<w.heap.size:=We h.obj
theorem YV.ui (h:YV w b o T c nx ep):o<c.size:=(Array.getElem?_eq_some_iff.1 h.h0).1
theorem YV.uh (h:YV w b o T c nx ep):o+1<c.size:=(Array.getElem?_eq_some_iff.1 h.h1).1
theorem YV.of_block (h:YV w b o T c nx ep) (e:w'.heap[b]?=w.heap[b]?):YV w' b o T c nx ep:=⟨e.trans h.obj,h.h0,h.h1⟩
theorem YV.grown (h:YV w b o T c nx ep) (g:Below w.heap.size w w'):YV w' b o T c nx ep:=h.of_block (g.block _ h.lt)
theorem YV.only {S:Nat->Prop} (h:YV w b o T c nx ep) (g:Only S w w') (hs:¬ S b):YV w' b o T c nx ep:=h.of_block (g.block _ h.lt hs)
theorem YV.set0 (h:YV w b o T c nx ep) (n:Int):YV (w.setCell ⟨b,o,none⟩ (iV n)) b o T (c.setIfInBounds o (iV n)) n ep :=
 ⟨ZW _ _ _ _ _ _ h.obj,by simp[h.ui],by rw[Array.getElem?_setIfInBounds_ne (by omega)];exact h.h1⟩
theorem YV.set1 (h:YV w b o T c nx ep) (n:Int):YV (w.setCell ⟨b,o+1,none⟩ (.int .u64 n)) b o T (c.setIfInBounds (o+1) (.int .u64 n)) nx n :=
 ⟨ZW _ _ _ _ _ _ h.obj,by rw[Array.getElem?_setIfInBounds_ne (by omega)];exact h.h0,by simp[h.uh]⟩
end
inductive Ur (who:Nat) (s:Mm):Int->Int->Mm->Int->Int->Bool->Prop where
 | load (ep:Int):Ur who s 0 ep ((s.by who).step 0 (s.wd 0)) 1 (s.wd 0) false
 | lay (ep:Int):Ur who s 1 ep ((s.by who).step (6+who) (sum64 ep 1)) 2 ep false
 | same:Ur who s 2 (s.wd 0) ((s.by who).step 0 (s.wd 0)) 3 (s.wd 0) true
 | other (ep:Int) (h:¬ s.wd 0=ep):Ur who s 2 ep ((s.by who).step 0 (s.wd 0)) 1 (s.wd 0) false
def zI (L:Loc) (b o:Nat) (T:TypeId) (c:Array Value) (s s':Mm) (nx ep Cc:Int):Nat->World->Prop
 | 0,w=>Z7 w L s/\YV w b o T c nx ep
 | 1,w=>Z7 w L s'/\YV w b o T c nx ep
 | _,w=>Z7 w L s'/\YV w b o T (c.setIfInBounds (o+1) (.int .u64 Cc)) nx Cc
theorem Fb {w:World} {L:Loc} {s:Mm} {b o:Nat} {T:TypeId} {c:Array Value} {ep:Int} (h:Z7 w L s) (hb:¬ L.has b) (hi:YV w b o T c 2 ep) (c0 c1 c2 c3 c4 c5 c6:Int) (who:Nat) (hn:0<s.n) :
 Calls Tryz.prog 99 #[pP b o,eV c0 c1 c2 c3 c4 c5 c6 L.p who] w fun e w'=>e=.returned (.tuple #[])/\∃ c' nx',Z7 w' L ((s.by who).step 0 (s.wd 0))/\YV w' b o T c' nx' (s.wd 0)/\XN o c c'/\Only (L.and b) w w'/\((nx'=3/\s.wd 0=ep)\/(nx'=1/\¬ s.wd 0=ep)):=by
 have hbv:¬ L.has w.heap.size:=fun hh=>by have:=h.lt _ hh;omega
 go_enter Tryz.func99,Tryz.ntmps99
 go_wp2
 refine ZT (fun W=>Z7 W L s/\YV W b o T c 2 ep/\ZP W w.heap.size c0 c1 c2 c3 c4 c5 c6 L.p who/\Only (L.and b) w W) ⟨h.alloc _,hi.grown (Z5 (Below.refl _ _) _),ZP.new,(Only.refl _ _).alloc _⟩ ?_
 rintro W ⟨m1,i1,v1,o1⟩
 refine Yp (Only L.has) (fun x y=>y=x) (fun p W'=>match p with | 0=>Z7 W' L s | _=>Z7 W' L ((s.by who).step 0 (s.wd 0))) [2] [.val (eV c0 c1 c2 c3 c4 c5 c6 L.p who),.val (iV 0),.val (.int .u64 (s.wd 0)),.val (.int .u64 (s.wd 0))]
  (by kernel_rfl) (Only.refl _) (fun _ _ _ h k=>h.trans k) (fun x y h=>by subst h;exact Only.refl _ _) (fun x y p h k=>by subst h;exact k) m1.drew (by kernel_rfl) (by kernel_rfl) (by kernel_rfl) (by kernel_rfl) (by kernel_rfl) ?_
 simp only[Zm,Act.put,List.setIfInBounds_toArray,List.set_cons_zero,List.set_cons_succ]
 refine⟨?_,?_,?_,?_,?_⟩
 . intro w' hR _;apply ol;obtain⟨y0,y1,y2,y3,y4,y5,y6,y7,y8⟩:=(v1.grown ((Below.refl _ _).drew)).only hR hbv;go_simp;exact⟨rfl,rfl⟩
 . intro w' hR _;apply ol;go_simp;refine(RH _).mono ?_;rintro e w'' ⟨rfl,rfl⟩;exact⟨_,rfl,rfl,rfl⟩
 . intro w' hR _ hP;apply ol;go_simp;refine(Zh (s:=s) hP _ _ _ _ _ _ _ _ 0 hn).mono ?_;rintro e w'' ⟨rfl,m2,o2⟩;exact⟨_,rfl,⟨o2,m2⟩,rfl⟩
 . intro w' hR _;apply ol;go_simp;exact⟨rfl,rfl⟩
 intro w2 hR m2 _
 have Hq:Z7 w2 L ((s.by who).step 0 (s.wd 0)):=m2
 clear m2
 have i2:=(i1.grown ((Below.refl _ _).drew)).only hR hb
 have o2:Only (L.and b) w w2:=o1.drew.trans (hR.XM)
 have k0:=i2.c0
 have k1:=i2.c1
 have kf:=i2.fz
 clear m1 i1 v1 o1 hR
 by_cases he:s.wd 0=ep
 . go_wp2
   refine bodyPost_ret (results_none rfl _ _ _) rfl ?_
   exact⟨rfl,_,3,Hq.ZX hb _ _,by rw[he];exact i2.set0 3,XN.set0 _,o2.set _ _,Or.inl ⟨rfl,he⟩⟩
 . go_wp2
   go_end0
   exact⟨rfl,_,1,(Hq.ZX hb _ _).ZX hb _ _,(i2.set1 _).set0 1,(XN.set1 _).trans (XN.set0 _),(o2.set _ _).set _ _,Or.inr ⟨rfl,he⟩⟩
def Stepped (who:Nat) (L:Loc) (b o:Nat) (T:TypeId) (c:Array Value) (s:Mm) (nx ep:Int) (w:World) (e:Ending) (w':World):Prop :=
 ∃ d s' c' nx' Cc,e=.returned (.bool d)/\Ur who s nx ep s' nx' Cc d/\Z7 w' L s'/\YV w' b o T c' nx' Cc/\XN o c c'/\Only (L.and b) w w'
theorem Il {w:World} {L:Loc} {s:Mm} {b o:Nat} {T:TypeId} {c:Array Value} {ep:Int} (h:Z7 w L s) (hb:¬ L.has b) (hi:YV w b o T c 0 ep) (c0 c1 c2 c3 c4 c5 c6:Int) (who:Nat) (hn:0<s.n) (hw:(who:Int)<c0) :
 Calls Tryz.prog 98 #[pP b o,eV c0 c1 c2 c3 c4 c5 c6 L.p who] w (Stepped who L b o T c s 0 ep w):=by
 obtain⟨hbv,hbb⟩:=nb h hi.lt
 go_enter Tryz.func98,Tryz.ntmps98
 go_wp2_with (go_at_call 100;refine(Ws L c0 c1 c2 c3 c4 c5 c6 who (by omega) hw _).mono ?_;rintro e w1 ⟨rfl,b1⟩;have i1:=(hi.grown (Z5 (Below.refl _ _) _)).grown b1;have k0:=i1.c0;have k1:=i1.c1;have kf:=i1.fz)
 have m1:=(h.alloc (.cells #[iV c0,iV c1,iV c2,iV c3,iV c4,iV c5,iV c6,pP L.p 0,iV who] 29)).below b1
 have v1:ZP w1 w.heap.size c0 c1 c2 c3 c4 c5 c6 L.p who:=ZP.new.grown b1
 have o1:Only (L.and b) w w1:=((Only.refl _ _).alloc _).trans (Only.ZZ b1)
 refine Yp (Only (L.and b)) (fun x y=>y=x) (zI L b o T c s ((s.by who).step 0 (s.wd 0)) 0 ep (s.wd 0)) [3,6] [.val (pP b o),.val (eV c0 c1 c2 c3 c4 c5 c6 L.p who),.val (iV 0),.val (.int .u64 (s.wd 0)),.val (pP b o),.val (pP b (o+1)),.that (fun _ _=>True) (fun _ _ _ _ _=>trivial)]
  (by kernel_rfl) (Only.refl _) (fun _ _ _ h k=>h.trans k) (fun x y h=>by subst h;exact Only.refl _ _) (fun x y p h k=>by subst h;exact k) ⟨m1.drew,i1.grown ((Below.refl _ _).drew)⟩ (by kernel_rfl) (by kernel_rfl) (by kernel_rfl) (by kernel_rfl) (by kernel_rfl) ?_
 simp only[Zm,Act.put,List.setIfInBounds_toArray,List.set_cons_zero,List.set_cons_succ]
 refine⟨?_,?_,?_,?_,?_,?_,?_,?_⟩
 . intro w' hR _;apply ol;go_simp;exact⟨rfl,rfl⟩
 . intro w' hR _;apply ol;obtain⟨y0,y1,y2,y3,y4,y5,y6,y7,y8⟩:=(v1.grown ((Below.refl _ _).drew)).only hR (fun hh=>hh.elim hbv hbb);go_simp;exact⟨rfl,rfl⟩
 . intro w' hR _;apply ol;go_simp;refine(RH _).mono ?_;rintro e w'' ⟨rfl,rfl⟩;exact⟨_,rfl,rfl,rfl⟩
 . intro w' hR _ hP;apply ol;go_simp;refine(Zh (s:=s) hP.1 _ _ _ _ _ _ _ _ 0 hn).mono ?_;rintro e w'' ⟨rfl,m2,o2⟩;exact⟨_,rfl,⟨o2.XM,m2,hP.2.only o2 hb⟩,rfl⟩
 . intro w' hR _;apply ol;go_simp;exact⟨rfl,rfl⟩
 . intro w' hR _;apply ol;go_simp;exact⟨rfl,rfl⟩
 . intro w' hR _ hP;apply ol;have z0:=hP.2.c1;have z1:=hP.2.fz;go_simp;exact⟨⟨(Only.refl _ _).set _ _,hP.1.ZX hb _ _,hP.2.set1 _⟩,trivial⟩
 intro v w2 hR hP _
 obtain⟨m2,i2⟩:Z7 w2 L ((s.by who).step 0 (s.wd 0))/\YV w2 b o T (c.setIfInBounds (o+1) (.int .u64 (s.wd 0))) 0 (s.wd 0):=hP
 have o2:Only (L.and b) w w2:=o1.drew.trans hR
 clear hR o1 v1 m1 i1 k0 k1 kf
 have k0:=i2.c0
 have k1:=i2.c1
 have kf:=i2.fz
 go_wp2
 go_ret
 exact⟨false,_,_,1,_,rfl,.load ep,m2.ZX hb _ _,i2.set0 1,(XN.set1 _).trans (XN.set0 _),o2.set _ _⟩
theorem Fa {w:World} {L:Loc} {s:Mm} {b o:Nat} {T:TypeId} {c:Array Value} {ep:Int} (h:Z7 w L s) (hb:¬ L.has b) (hi:YV w b o T c 1 ep) (c0 c1 c2 c3 c4 c5 c6:Int) (who:Nat) (hn:6+who<s.n) (hw:(who:Int)<c0) (hc:c0<=8) :
 Calls Tryz.prog 98 #[pP b o,eV c0 c1 c2 c3 c4 c5 c6 L.p who] w (Stepped who L b o T c s 1 ep w):=by
 obtain⟨hbv,hbb⟩:=nb h hi.lt
 go_enter Tryz.func98,Tryz.ntmps98
 go_wp2_with (go_at_call 100;refine(Ws L c0 c1 c2 c3 c4 c5 c6 who (by omega) hw _).mono ?_;rintro e w1 ⟨rfl,b1⟩;have i1:=(hi.grown (Z5 (Below.refl _ _) _)).grown b1;have k0:=i1.c0;have k1:=i1.c1;have kf:=i1.fz)
 have m1:=(h.alloc (.cells #[iV c0,iV c1,iV c2,iV c3,iV c4,iV c5,iV c6,pP L.p 0,iV who] 29)).below b1
 have v1:ZP w1 w.heap.size c0 c1 c2 c3 c4 c5 c6 L.p who:=ZP.new.grown b1
 have o1:Only (L.and b) w w1:=((Only.refl _ _).alloc _).trans (Only.ZZ b1)
 refine Yp (Only L.has) (fun x y=>y=x) (fun p W'=>match p with | 0=>Z7 W' L s | _=>Z7 W' L ((s.by who).step (6+who) (sum64 ep 1))) [9] [.val (eV c0 c1 c2 c3 c4 c5 c6 L.p who),.val (pP w.heap.size 8),.val (iV who),.val (iV (6+who:Nat)),.val (pP b o),.val (pP b o),.val (pP b (o+1)),.val (.int .u64 ep),.val (.int .u64 (sum64 ep 1)),.that (fun _ _=>True) (fun _ _ _ _ _=>trivial)]
  (by kernel_rfl) (Only.refl _) (fun _ _ _ h k=>h.trans k) (fun x y h=>by subst h;exact Only.refl _ _) (fun x y p h k=>by subst h;exact k) m1.drew (by kernel_rfl) (by kernel_rfl) (by kernel_rfl) (by kernel_rfl) (by kernel_rfl) ?_
 simp only[Zm,Act.put,List.setIfInBounds_toArray,List.set_cons_zero,List.set_cons_succ]
 refine⟨?_,?_,?_,?_,?_,?_,?_,?_,?_,?_,?_⟩
 . intro w' hR _;apply ol;obtain⟨y0,y1,y2,y3,y4,y5,y6,y7,y8⟩:=(v1.grown ((Below.refl _ _).drew)).only hR hbv;go_simp;exact⟨rfl,rfl⟩
 . intro w' hR _;apply ol;go_simp;exact⟨rfl,rfl⟩
 . intro w' hR _;apply ol;have y8:=((v1.grown ((Below.refl _ _).drew)).only hR hbv).c8;go_simp;exact⟨rfl,rfl⟩
 . intro w' hR _;apply ol;go_simp;refine(UB _ _ (by omega) (by omega)).mono ?_;rintro e w'' ⟨rfl,rfl⟩;exact⟨_,rfl,rfl,by simp[Want.pred]⟩
 . intro w' hR _;apply ol;go_simp;exact⟨rfl,rfl⟩
 . intro w' hR _;apply ol;go_simp;exact⟨rfl,rfl⟩
 . intro w' hR _;apply ol;go_simp;exact⟨rfl,rfl⟩
 . intro w' hR _;apply ol;have y1:=((i1.grown ((Below.refl _ _).drew)).only hR hb).c1;go_simp;exact⟨rfl,rfl⟩
 . intro w' hR _;apply ol;go_simp;exact⟨rfl,rfl⟩
 . intro w' hR _ hP;apply ol;go_simp;refine(WW (s:=s) hP _ _ _ _ _ _ _ _ (6+who) hn _).mono ?_;rintro e w'' ⟨rfl,m2,o2⟩;exact⟨_,rfl,⟨o2,m2⟩,trivial⟩
 intro v w2 hR hP _
 have m2:Z7 w2 L ((s.by who).step (6+who) (sum64 ep 1)):=hP
 have i2:=(i1.grown ((Below.refl _ _).drew)).only hR hb
 have o2:Only (L.and b) w w2:=o1.drew.trans hR.XM
 clear hR o1 v1 m1 i1 k0 k1 kf hP
 have k0:=i2.c0
 have k1:=i2.c1
 have kf:=i2.fz
 go_wp2
 go_ret
 exact⟨false,_,_,2,_,rfl,.lay ep,m2.ZX hb _ _,i2.set0 2,XN.set0 _,o2.set _ _⟩
theorem Ik {w:World} {L:Loc} {s:Mm} {b o:Nat} {T:TypeId} {c:Array Value} {ep:Int} (h:Z7 w L s) (hb:¬ L.has b) (hi:YV w b o T c 2 ep) (c0 c1 c2 c3 c4 c5 c6:Int) (who:Nat) (hn:0<s.n) (hw:(who:Int)<c0) :
 Calls Tryz.prog 98 #[pP b o,eV c0 c1 c2 c3 c4 c5 c6 L.p who] w (Stepped who L b o T c s 2 ep w):=by
 go_enter Tryz.func98,Tryz.ntmps98
 go_wp2_with (first
  | (go_at_call 100;refine(Ws L c0 c1 c2 c3 c4 c5 c6 who (by omega) hw _).mono ?_;rintro e w1 ⟨rfl,b1⟩;have i1:=(hi.grown (Z5 (Below.refl _ _) _)).grown b1;have v1:ZP w1 w.heap.size c0 c1 c2 c3 c4 c5 c6 L.p who:=ZP.new.grown b1;have k0:=i1.c0;have k1:=i1.c1;obtain⟨y0,y1,y2,y3,y4,y5,y6,y7,y8⟩:=id v1)
  | (go_at_call 99;refine(Fb ((h.alloc _).below b1) hb i1 _ _ _ _ _ _ _ who hn).mono ?_;rintro e w2 ⟨rfl,c',nx',m2,i2,sm,o2,hx⟩;have k0:=i2.c0))
 have o1:Only (L.and b) w w2:=(((Only.refl _ _).alloc _).trans (Only.ZZ b1)).trans o2
 rcases hx with⟨rfl,rfl⟩ | ⟨rfl,hne⟩
 . go_ret
   exact⟨true,_,_,3,_,rfl,.same,m2,i2,sm,o1⟩
 . go_ret
   exact⟨false,_,_,1,_,rfl,.other ep hne,m2,i2,sm,o1⟩
theorem Sr {w:World} {L:Loc} {s:Mm} {b o:Nat} {T:TypeId} {c:Array Value} {nx ep:Int} (h:Z7 w L s) (hb:¬ L.has b) (hi:YV w b o T c nx ep) (hx:nx=0\/nx=1\/nx=2) (c0 c1 c2 c3 c4 c5 c6:Int) (who:Nat) (hn:6+who<s.n) (hw:(who:Int)<c0) (hc:c0<=8) :
 Calls Tryz.prog 98 #[pP b o,eV c0 c1 c2 c3 c4 c5 c6 L.p who] w (Stepped who L b o T c s nx ep w):=by
 rcases hx with rfl | rfl | rfl
 . exact Il h hb hi _ _ _ _ _ _ _ who (by omega) hw
 . exact Fa h hb hi _ _ _ _ _ _ _ who hn hw hc
 . exact Ik h hb hi _ _ _ _ _ _ _ who (by omega) hw
theorem Em {w:World} {L:Loc} {s:Mm} (h:Z7 w L s) (c0 c1 c2 c3 c4 c5 c6:Int) (who:Nat) (hn:6+who<s.n) (hw:(who:Int)<c0) (hc:c0<=8) :
 Calls Tryz.prog 105 #[.agg #[],eV c0 c1 c2 c3 c4 c5 c6 L.p who] w fun e w'=>e=.returned (.bool true)/\Z7 w' L ((s.by who).step (6+who) 0)/\Only L.has w w':=by
 have v0:ZP ((w.alloc (.cells #[] 109)).alloc (.cells #[iV c0,iV c1,iV c2,iV c3,iV c4,iV c5,iV c6,pP L.p 0,iV who] 29)) (w.heap.size+1) c0 c1 c2 c3 c4 c5 c6 L.p who:=by
  have:=ZP.new (w:=w.alloc (.cells #[] 109)) (T:=29) (c0:=c0) (c1:=c1) (c2:=c2) (c3:=c3) (c4:=c4) (c5:=c5) (c6:=c6) (P:=L.p) (who:=who)
  rwa [Go.Deep.nblk_alloc] at this
 have m0:=(h.alloc (.cells #[] 109)).alloc (.cells #[iV c0,iV c1,iV c2,iV c3,iV c4,iV c5,iV c6,pP L.p 0,iV who] 29)
 obtain⟨y0,y1,y2,y3,y4,y5,y6,y7,y8⟩:=id v0
 go_enter Tryz.func105,Tryz.ntmps105
 go_wp2_with (go_at_call 100;refine(Ws L c0 c1 c2 c3 c4 c5 c6 who (by omega) hw _).mono ?_;rintro e w1 ⟨rfl,b1⟩)
 refine ZT (fun W=>Z7 W L s/\ZP W (w.heap.size+1) c0 c1 c2 c3 c4 c5 c6 L.p who/\Only L.has w W) ⟨m0.below b1,v0.grown b1,(((Only.refl _ _).alloc _).alloc _).trans (Only.ZZ b1)⟩ ?_
 clear m0 v0 y0 y1 y2 y3 y4 y5 y6 y7 y8 b1
 rintro W ⟨m1,v1,o1⟩
 apply Xk 4;. kernel_rfl
 apply rV;. intro w' hg _;apply ol;have y:=(v1.dg hg).yy;go_simp;exact gl
 apply rV;. intros;apply ol;go_simp;exact gl
 apply rV;. intro w' hg _;apply ol;have y:=(v1.dg hg).yy;go_simp;exact gl
 apply XQ (c:=iV ((6+who:Nat):Int));. intro w' hg _;apply ol;go_simp;refine(UB _ _ (by omega) (by omega)).mono ?_;rintro e w'' ⟨rfl,rfl⟩;exact⟨_,rfl,Grown.refl _,by simp[Want.pred]⟩
 try simp only[pu,s0,s1]
 intro w5 hg _
 have m5:=m1.drew.below hg
 go_wp2_with (go_at_call 103;refine(WW m5 _ _ _ _ _ _ _ _ (6+who) hn 0).mono ?_;rintro e w6 ⟨rfl,m6,o6⟩)
 go_ret
 exact⟨rfl,m6,(o1.drew.trans (Only.ZZ hg)).trans o6⟩
end
section
structure Xa where
 kd:Int
 sz:Int
 nu:Int
 ix:Int
 vl:Int
 ol:Int
 own:Bool
@[reducible] def Xa.v (X:Xa):Value:=.agg #[iV X.kd,iV X.sz,.int .u64 X.nu,iV X.ix,iV X.vl,iV X.ol,.bool X.own]
@[reducible] def Xa.box (X:Xa):Obj:=.cells #[iV X.kd,iV X.sz,.int .u64 X.nu,iV X.ix,iV X.vl,iV X.ol,.bool X.own] 82
def fitsV (v:Int):Bool:=decide (0<=v) && decide (v<=1099511627775)
theorem vJ.new (X:Xa) (w:World):At (w.alloc X.box) w.heap.size 0 82 #[iV X.kd,iV X.sz,.int .u64 X.nu,iV X.ix,iV X.vl,iV X.ol,.bool X.own] [iV X.kd,iV X.sz,.int .u64 X.nu,iV X.ix,iV X.vl,iV X.ol,.bool X.own]:=At.new w _ [iV X.kd,iV X.sz,.int .u64 X.nu,iV X.ix,iV X.vl,iV X.ol,.bool X.own]
def Xa.may (X:Xa):Bool:=decide (1<=X.kd) && decide (X.kd<=5) && fitsV X.vl && fitsV X.ol
theorem fits_any (v:Int) (w:World):Calls Tryz.prog 75 #[iV v] w fun e w'=>e=.returned (.bool (fitsV v))/\w'=w:=by
 by_cases h0:(0:Int)<=v
 . by_cases h1:v<=1099511627775
   . go_enter Tryz.func75,Tryz.ntmps75
     go_wp2
     go_ret
     exact⟨by simp[fitsV,h0,h1],rfl⟩
   . go_enter Tryz.func75,Tryz.ntmps75
     go_wp2
     go_ret
     exact⟨by simp[fitsV,h0,h1],rfl⟩
 . go_enter Tryz.func75,Tryz.ntmps75
   go_wp2
   go_ret
   exact⟨by unfold fitsV;rw[decide_eq_false (by omega:¬ 0<=v),Bool.false_and];rfl,rfl⟩
theorem check_any (X:Xa) (w:World):Calls Tryz.prog 57 #[X.v] w fun e w'=>e=.returned (.bool X.may)/\Below w.heap.size w w':=by
 obtain⟨kd,sz,nu,ix,vl,ol,own⟩:=X
 obtain⟨d1,h1⟩:∃ d,fitsV vl=d:=⟨_,rfl⟩
 obtain⟨d2,h2⟩:∃ d,fitsV ol=d:=⟨_,rfl⟩
 have f1:∀ w,Calls Tryz.prog 75 #[iV vl] w fun e w'=>e=.returned (.bool d1)/\w'=w:=fun w=>by rw[<- h1];exact fits_any vl w
 have f2:∀ w,Calls Tryz.prog 75 #[iV ol] w fun e w'=>e=.returned (.bool d2)/\w'=w:=fun w=>by rw[<- h2];exact fits_any ol w
 have hm:Hid (Xa.may ⟨kd,sz,nu,ix,vl,ol,own⟩=(decide (1<=kd) && decide (kd<=5) && d1 && d2)):=by rw[<- h1,<- h2];rfl
 rw[hm.out]
 clear h1 h2 hm
 show Calls Tryz.prog 57 #[.agg #[iV kd,iV sz,.int .u64 nu,iV ix,iV vl,iV ol,.bool own]] w _
 by_cases k0:(1:Int)<=kd
 . by_cases k1:kd<=5
   . cases d1
     . go_enter Tryz.func57,Tryz.ntmps57
       go_wp2_with (go_at_call 75;refine(f1 _).mono ?_;rintro e w1 ⟨rfl,rfl⟩)
       go_ret
       exact⟨by simp[k0,k1],Z5 (Below.refl _ _) _⟩
     . go_enter Tryz.func57,Tryz.ntmps57
       go_wp2_with (first
        | (go_at_call 75;refine(f1 _).mono ?_;rintro e w1 ⟨rfl,rfl⟩;clear f1)
        | (go_at_call 75;refine(f2 _).mono ?_;rintro e w1 ⟨rfl,rfl⟩))
       go_ret
       exact⟨by simp[k0,k1],Z5 (Below.refl _ _) _⟩
   . go_enter Tryz.func57,Tryz.ntmps57
     go_wp2
     go_ret
     exact⟨by rw[decide_eq_false (by omega:¬ kd<=5),Bool.false_and,Bool.false_and];rfl,Z5 (Below.refl _ _) _⟩
 . go_enter Tryz.func57,Tryz.ntmps57
   go_wp2
   go_ret
   exact⟨by rw[decide_eq_false (by omega:¬ 1<=kd),Bool.false_and,Bool.false_and,Bool.false_and];rfl,Z5 (Below.refl _ _) _⟩
def Xa.ob (X:Xa):Obj:=if X.kd=1 then P5 X.sz X.own else if X.kd=2 then KA X.nu X.own else Hm (X.kd - 2) X.nu X.ix X.vl X.ol X.own
def Xa.ty (X:Xa):TypeId:=if X.kd=1 then 120 else if X.kd=2 then 122 else 142
theorem JG (X:Xa) (kd:Int) (w:World):Calls Tryz.prog 78 #[X.v,iV kd] w fun e w'=>∃ W,e=.returned (.iface 142 (pP W.heap.size 0))/\w'=W.alloc (Hm kd X.nu X.ix X.vl X.ol X.own)/\Below w.heap.size w W:=by
 obtain⟨kx,sz,nu,ix,vl,ol,own⟩:=X
 show Calls Tryz.prog 78 #[.agg #[iV kx,iV sz,.int .u64 nu,iV ix,iV vl,iV ol,.bool own],iV kd] w _
 go_enter Tryz.func78,Tryz.ntmps78
 go_wp2_with (go_at_call 80;refine(Nq kd nu ix vl ol own _).mono ?_;rintro e w1 ⟨W1,rfl,rfl,g1⟩)
 go_ret
 exact⟨W1,rfl,rfl,grow (Z5 (Below.refl _ _) _) g1⟩
set_option maxRecDepth 20000 in
theorem Ei (X:Xa) (h0:1<=X.kd) (h5:X.kd<=5) (w:World):Calls Tryz.prog 58 #[X.v] w fun e w'=>∃ W,e=.returned (.iface X.ty (pP W.heap.size 0))/\w'=W.alloc X.ob/\Below w.heap.size w W:=by
 obtain⟨kx,sz,nu,ix,vl,ol,own⟩:=X
 have rr:=fun kd w=>JG ⟨kx,sz,nu,ix,vl,ol,own⟩ kd w
 simp only[] at h0 h5
 have hk:kx=1\/kx=2\/kx=3\/kx=4\/kx=5:=by omega
 show Calls Tryz.prog 58 #[.agg #[iV kx,iV sz,.int .u64 nu,iV ix,iV vl,iV ol,.bool own]] w _
 have rr:∀ kd w,Calls Tryz.prog 78 #[.agg #[iV kx,iV sz,.int .u64 nu,iV ix,iV vl,iV ol,.bool own],iV kd] w _:=rr
 rcases hk with rfl | rfl | rfl | rfl | rfl
 . go_enter Tryz.func58,Tryz.ntmps58
   go_wp2_with (go_at_call 76;refine(PZ sz own _).mono ?_;rintro e w1 ⟨rfl,rfl⟩)
   go_ret
   exact⟨_,by rw[Go.Deep.nblk_alloc];rfl,rfl,Z5 (Below.refl _ _) _⟩
 . go_enter Tryz.func58,Tryz.ntmps58
   go_wp2_with (go_at_call 77;refine(OM nu own _).mono ?_;rintro e w1 ⟨rfl,rfl⟩)
   go_ret
   exact⟨_,by rw[Go.Deep.nblk_alloc];rfl,rfl,Z5 (Below.refl _ _) _⟩
 all_goals
  go_enter Tryz.func58,Tryz.ntmps58
  go_wp2_with (go_at_call 78;refine(rr _ _).mono ?_;rintro e w1 ⟨W1,rfl,rfl,g1⟩)
  go_ret
  exact⟨W1,rfl,rfl,grow (Z5 (Below.refl _ _) _) g1⟩
structure Vb (w:World) (bA bS bI b:Nat) (T:TypeId) (i:Nat):Prop where
 a:∃ c,At w bA 0 88 c [.iface T (pP b 0),.slice (some ⟨bS,min i 2,none⟩) (3 - i) (3 - i)]
 l:∃ c,At w bS 0 90 c [.iface 105 (pP bI 0),.iface T (pP b 0),.iface 109 (.agg #[])]
 h1:bA≠bS
 h2:bA≠bI
 h3:bA≠b
 h4:bS≠bI
 h5:bS≠b
 h6:bI≠b
theorem Nb (X:Xa) (h:X.may=true) (w:World):Calls Tryz.prog 38 #[X.v] w fun e w'=>∃ (bA bS bI b:Nat) (W:World) (c:Array Value),e=.returned (.tuple #[pP bA 0,iV 0])/\Below w.heap.size w w'/\w.heap.size<=b/\b<bI/\bI<bS/\bS<bA/\Vb w' bA bS bI b X.ty 0/\YV w' bI 0 107 c 0 0/\b=W.heap.size/\Below (W.alloc X.ob).heap.size (W.alloc X.ob) w':=by
 have hc:=check_any X
 rw[h] at hc
 have h0:1<=X.kd/\X.kd<=5:=by
  unfold Xa.may at h
  simp only[Bool.and_eq_true,decide_eq_true_eq] at h
  exact h.1.1
 have hw:=Ei X h0.1 h0.2
 obtain⟨kx,sz,nu,ix,vl,ol,own⟩:=X
 generalize hT:Xa.ty ⟨kx,sz,nu,ix,vl,ol,own⟩=T at hw ⊢
 generalize hO:Xa.ob ⟨kx,sz,nu,ix,vl,ol,own⟩=O at hw ⊢
 clear h h0 hT hO
 have hc:∀ w,Calls Tryz.prog 57 #[.agg #[iV kx,iV sz,.int .u64 nu,iV ix,iV vl,iV ol,.bool own]] w _:=hc
 have hw:∀ w,Calls Tryz.prog 58 #[.agg #[iV kx,iV sz,.int .u64 nu,iV ix,iV vl,iV ol,.bool own]] w _:=hw
 show Calls Tryz.prog 38 #[.agg #[iV kx,iV sz,.int .u64 nu,iV ix,iV vl,iV ol,.bool own]] w _
 have x0:=(vJ.new (X:=⟨kx,sz,nu,ix,vl,ol,own⟩) w)
 go_enter Tryz.func38,Tryz.ntmps38
 go_wp2_with (first
  | (go_at_call 57;refine(hc _).mono ?_;rintro e w1 ⟨rfl,g1⟩;have x1:=x0.grown g1;have z0:=x1.at0 0 rfl;have z1:=x1.at0 1 rfl;have z2:=x1.at0 2 rfl;have z3:=x1.at0 3 rfl;have z4:=x1.at0 4 rfl;have z5:=x1.at0 5 rfl;have z6:=x1.at0 6 rfl)
  | (go_at_call 58;refine(hw _).mono ?_;rintro e w2 ⟨W2,rfl,rfl,g2⟩))
 refine bodyPost_ret (v:=.tuple #[.pointer (some ⟨W2.heap.size+1+1+1,0,none⟩),iV 0]) (by simp[results,Tryz.results38,go_sem]) rfl ?_
 have bb:Below w.heap.size w W2:=grow (grow (Z5 (Below.refl _ _) _) g1) g2
 have q1:=At.new (W2.alloc O) 107 [iV 0,.int .u64 0]
 have q2:=At.new ((W2.alloc O).alloc (.cells #[iV 0,.int .u64 0] 107)) 90 [.iface 105 (.pointer (some ⟨W2.heap.size+1,0,none⟩)),.iface T (pP W2.heap.size 0),.iface 109 (.agg #[])]
 have q3:=At.new (((W2.alloc O).alloc (.cells #[iV 0,.int .u64 0] 107)).alloc (.cells #[.iface 105 (.pointer (some ⟨W2.heap.size+1,0,none⟩)),.iface T (pP W2.heap.size 0),.iface 109 (.agg #[])] 90)) 88 [.iface T (pP W2.heap.size 0),.slice (some ⟨W2.heap.size+1+1,0,none⟩) 3 3]
 have q1':=(q1.grown (ZY _ (.cells #[.iface 105 (.pointer (some ⟨W2.heap.size+1,0,none⟩)),.iface T (pP W2.heap.size 0),.iface 109 (.agg #[])] 90))).grown (ZY _ (.cells #[.iface T (pP W2.heap.size 0),.slice (some ⟨W2.heap.size+1+1,0,none⟩) 3 3] 88))
 have q2':=q2.grown (ZY _ (.cells #[.iface T (pP W2.heap.size 0),.slice (some ⟨W2.heap.size+1+1,0,none⟩) 3 3] 88))
 simp only[Go.Deep.nblk_alloc] at q1' q2' q3
 refine⟨W2.heap.size+1+1+1,W2.heap.size+1+1,W2.heap.size+1,W2.heap.size,W2,_,rfl,Z5 (Z5 (Z5 (Z5 bb _) _) _) _,bb.size,by omega,by omega,by omega,⟨⟨_,q3⟩,⟨_,q2'⟩,by omega,by omega,by omega,by omega,by omega,by omega⟩,⟨q1'.obj,q1'.is 0 _ rfl,q1'.is 1 _ rfl⟩,rfl,grow (grow (ZY _ _) (ZY _ _)) (ZY _ _)⟩
end
section
set_option maxRecDepth 20000
set_option maxRecDepth 20000 in
theorem Xw {w:World} {L:Loc} {bA bS bI b:Nat} {T:TypeId} {i:Nat} (h:Vb w bA bS bI b T i) (hi:i<3) (c0 c1 c2 c3 c4 c5 c6 who:Int) {U:TypeId} {rv:Value} {f:FuncId}
 (hv:w.cell? ⟨bS,i,none⟩=some (.iface U rv))
 (hm:∀ w,(method 320 U rv "Step").run Tryz.prog w=.ok (f,rv) w) (he:∀ args w,(callFunc f args).run Tryz.prog w=.ok (.enter f args) w) (Z:Bool->World->Prop)
 (hc:∀ w1,Below w.heap.size w w1->Calls Tryz.prog f #[rv,eV c0 c1 c2 c3 c4 c5 c6 L.p who] w1 fun e w'=>∃ d,e=.returned (.bool d)/\w'.heap[bA]?=w1.heap[bA]?/\Z d w') :
 Calls Tryz.prog 26 #[pP bA 0,eV c0 c1 c2 c3 c4 c5 c6 L.p who] w fun e w'=>∃ d w1,Z d w1/\((d=false/\e=.returned (.bool false)/\w'=w1)\/(d=true/\e=.returned (.bool (i == 2))/\w'=w1.setCell ⟨bA,1,none⟩ (.slice (some ⟨bS,min (i+1) 2,none⟩) (2 - i) (2 - i)))):=by
 obtain⟨c,ha⟩:=h.a
 have nR:=ha.lt
 have hBS:bS<w.heap.size:=World.block_lt_of_cell? _ _ hv
 obtain rfl | rfl | rfl:i=0\/i=1\/i=2:=by omega
 . have ha:At w bA 0 88 c [.iface T (pP b 0),.slice (some ⟨bS,0,none⟩) 3 3]:=ha
   have ha1:=ha.grown (ZY w (.cells #[iV c0,iV c1,iV c2,iV c3,iV c4,iV c5,iV c6,pP L.p 0,iV who] 29))
   have k1:=ha1.at0 1 rfl
   go_enter Tryz.func26,Tryz.ntmps26
   go_wp2
   refine ZT (fun W=>Below w.heap.size w W/\ZP W w.heap.size c0 c1 c2 c3 c4 c5 c6 L.p who) ⟨Z5 (Below.refl _ _) _,ZP.new⟩ ?_
   rintro W ⟨b1,v1⟩
   clear ha1 k1
   apply Xk 7;. kernel_rfl
   iterate 3 (apply rV;. intros;apply ol;go_simp;exact gl)
   apply rV;. intro w' hg _;apply ol;have k1:=((ha.grown b1).drew.grown hg).at0 1 rfl;go_simp;exact gl
   apply rV;. intros;apply ol;go_simp;exact gl
   apply rV;. intro w' hg _;apply ol;have k2:w'.cell? ⟨bS,0,none⟩=some (.iface U rv):=keep' (grow (grow b1 ((Below.refl _ _).drew)) hg) hv;go_simp;exact gl
   try simp only[pu,s0,s1]
   apply XQ;. intro w' hg _;apply ol;have y:=(v1.dg hg).yy;go_simp;exact gl
   try simp only[pu,s0,s1]
   intro w5 hg _
   have b5:Below w.heap.size w w5:=grow (grow b1 ((Below.refl _ _).drew)) hg
   go_wp2_with (refine(hc _ b5).mono ?_;rintro e w6 ⟨d,rfl,eA,hz⟩;have ha6:=(ha.grown b5).of_block eA;have k1:=ha6.at0 1 rfl;have kf:=ha6.fz;cases d)
   . go_ret
     exact⟨false,w6,hz,Or.inl ⟨rfl,rfl,rfl⟩⟩
   . go_ret
     exact⟨true,w6,hz,Or.inr ⟨rfl,rfl,rfl⟩⟩
 . have ha:At w bA 0 88 c [.iface T (pP b 0),.slice (some ⟨bS,1,none⟩) 2 2]:=ha
   have ha1:=ha.grown (ZY w (.cells #[iV c0,iV c1,iV c2,iV c3,iV c4,iV c5,iV c6,pP L.p 0,iV who] 29))
   have k1:=ha1.at0 1 rfl
   go_enter Tryz.func26,Tryz.ntmps26
   go_wp2
   refine ZT (fun W=>Below w.heap.size w W/\ZP W w.heap.size c0 c1 c2 c3 c4 c5 c6 L.p who) ⟨Z5 (Below.refl _ _) _,ZP.new⟩ ?_
   rintro W ⟨b1,v1⟩
   clear ha1 k1
   apply Xk 7;. kernel_rfl
   iterate 3 (apply rV;. intros;apply ol;go_simp;exact gl)
   apply rV;. intro w' hg _;apply ol;have k1:=((ha.grown b1).drew.grown hg).at0 1 rfl;go_simp;exact gl
   apply rV;. intros;apply ol;go_simp;exact gl
   apply rV;. intro w' hg _;apply ol;have k2:w'.cell? ⟨bS,1,none⟩=some (.iface U rv):=keep' (grow (grow b1 ((Below.refl _ _).drew)) hg) hv;go_simp;exact gl
   try simp only[pu,s0,s1]
   apply XQ;. intro w' hg _;apply ol;have y:=(v1.dg hg).yy;go_simp;exact gl
   try simp only[pu,s0,s1]
   intro w5 hg _
   have b5:Below w.heap.size w w5:=grow (grow b1 ((Below.refl _ _).drew)) hg
   go_wp2_with (refine(hc _ b5).mono ?_;rintro e w6 ⟨d,rfl,eA,hz⟩;have ha6:=(ha.grown b5).of_block eA;have k1:=ha6.at0 1 rfl;have kf:=ha6.fz;cases d)
   . go_ret
     exact⟨false,w6,hz,Or.inl ⟨rfl,rfl,rfl⟩⟩
   . go_ret
     exact⟨true,w6,hz,Or.inr ⟨rfl,rfl,rfl⟩⟩
 . have ha:At w bA 0 88 c [.iface T (pP b 0),.slice (some ⟨bS,2,none⟩) 1 1]:=ha
   have ha1:=ha.grown (ZY w (.cells #[iV c0,iV c1,iV c2,iV c3,iV c4,iV c5,iV c6,pP L.p 0,iV who] 29))
   have k1:=ha1.at0 1 rfl
   go_enter Tryz.func26,Tryz.ntmps26
   go_wp2
   refine ZT (fun W=>Below w.heap.size w W/\ZP W w.heap.size c0 c1 c2 c3 c4 c5 c6 L.p who) ⟨Z5 (Below.refl _ _) _,ZP.new⟩ ?_
   rintro W ⟨b1,v1⟩
   clear ha1 k1
   apply Xk 7;. kernel_rfl
   iterate 3 (apply rV;. intros;apply ol;go_simp;exact gl)
   apply rV;. intro w' hg _;apply ol;have k1:=((ha.grown b1).drew.grown hg).at0 1 rfl;go_simp;exact gl
   apply rV;. intros;apply ol;go_simp;exact gl
   apply rV;. intro w' hg _;apply ol;have k2:w'.cell? ⟨bS,2,none⟩=some (.iface U rv):=keep' (grow (grow b1 ((Below.refl _ _).drew)) hg) hv;go_simp;exact gl
   try simp only[pu,s0,s1]
   apply XQ;. intro w' hg _;apply ol;have y:=(v1.dg hg).yy;go_simp;exact gl
   try simp only[pu,s0,s1]
   intro w5 hg _
   have b5:Below w.heap.size w w5:=grow (grow b1 ((Below.refl _ _).drew)) hg
   go_wp2_with (refine(hc _ b5).mono ?_;rintro e w6 ⟨d,rfl,eA,hz⟩;have ha6:=(ha.grown b5).of_block eA;have k1:=ha6.at0 1 rfl;have kf:=ha6.fz;cases d)
   . go_ret
     exact⟨false,w6,hz,Or.inl ⟨rfl,rfl,rfl⟩⟩
   . go_ret
     exact⟨true,w6,hz,Or.inr ⟨rfl,rfl,rfl⟩⟩
set_option maxRecDepth 20000 in
theorem P6 {w:World} {bA bS bI b:Nat} {T:TypeId} (h:Vb w bA bS bI b T 3) {f:FuncId} (hT:∀ w,(binOp .eql 85 (.iface T (pP b 0)) .nilIface).run Tryz.prog w=.ok (.bool false) w)
 (hm:∀ w,(method 320 T (pP b 0) "Done").run Tryz.prog w=.ok (f,pP b 0) w) (he:∀ args w,(callFunc f args).run Tryz.prog w=.ok (.enter f args) w) (E H V St:Int)
 (hc:∀ w1,Below w.heap.size w w1->Calls Tryz.prog f #[pP b 0] w1 fun e w'=>e=.returned (.agg #[iV E,.int .u64 H,iV V,iV St])/\Below w1.heap.size w1 w') :
 Calls Tryz.prog 27 #[pP bA 0] w fun e w'=>e=.returned (.agg #[iV E,.int .u64 H,iV V,iV St])/\Below w.heap.size w w':=by
 obtain⟨c,ha⟩:=h.a
 have ha:At w bA 0 88 c [.iface T (pP b 0),.slice (some ⟨bS,2,none⟩) 0 0]:=ha
 have ha1:=ha.grown (ZY w (.cells #[iV 0,.int .u64 0,iV 0,iV 0] 51))
 have k0:=ha1.at0 0 rfl
 have k1:=ha1.at0 1 rfl
 have d0:=At.new w 51 [iV 0,.int .u64 0,iV 0,iV 0]
 go_enter Tryz.func27,Tryz.ntmps27
 go_wp2_with (refine(hc _ (Z5 (Below.refl _ _) _)).mono ?_;rintro e w1 ⟨rfl,b1⟩;have d1:=d0.grown b1;have q0:=d1.at0 0 rfl;have q1:=d1.at0 1 rfl;have q2:=d1.at0 2 rfl;have q3:=d1.at0 3 rfl;have qf:=d1.fz)
 refine bodyPost_ret (v:=.agg #[iV E,.int .u64 H,iV V,iV St]) (by simp[results,Tryz.results27,go_sem,q0,q1,q2,q3]) rfl ?_
 exact⟨rfl,Z4 (Z4 (Z4 (Z4 (grow (Z5 (Below.refl _ _) _) b1) (Nat.le_refl _) _ _) (Nat.le_refl _) _ _) (Nat.le_refl _) _ _) (Nat.le_refl _) _ _⟩
end
section
structure XF (t n k m:Nat) (s:Mm) (σ:Nat) (q:Q) (pn:Nat->Int):Prop where
 tw:Y5 t n k m s σ q
 ep:s.wd 0=0
 pn:∀ i,i<t->s.wd (6+i)=pn i
section
variable {t n k m:Nat} {s:Mm} {σ:Nat} {q:Q} {pn:Nat->Int}
theorem Y5.pins (h:Y5 t n k m s σ q) (hσ:σ<1000000) (who:Int) (a:Nat) (v:Int) (h1:6<=a) (h2:a<6+t):Y5 t n k m ((s.by who).step a v) (σ+1) q:=by
 refine⟨h.pile.off hσ who a v (by omega) (fun i hi=>by omega),h.U3.off hσ who a v (by omega) (fun i hi=>by omega),fun i hi=>?_,fun i hi=>?_,fun x hx=>?_,h.HY,fun b hb=>?_,?_⟩
 . rw[Y5.Zx who a _ v (by omega)];exact h.EN i hi
 . have:=h.EM i hi;omega
 . rw[Y5.Zx who a _ v (by omega)];exact h.QE x hx
 . rw[Y5.Zx who a _ v (by omega)];exact h.JP b hb
 . rw[Y5.Zx who a _ v (by omega)];exact h.ep
theorem XF.pin (h:XF t n k m s σ q pn) (hσ:σ<1000000) (who:Int) {j:Nat} (hj:j<t) (v:Int):XF t n k m ((s.by who).step (6+j) v) (σ+1) q (upd pn j v):=by
 refine⟨h.tw.pins hσ who _ v (by omega) (by omega),(Y5.Zx who _ 0 _ (by omega)).trans h.ep,fun i hi=>?_⟩
 by_cases e:i=j
 . subst e;rw[Y5.Vy,upd_same]
 . rw[Y5.Zx who _ _ _ (by omega),Z8 _ _ _ _ e];exact h.pn i hi
theorem XF.look (h:XF t n k m s σ q pn) (hσ:σ<1000000) (who:Int):XF t n k m ((s.by who).step 0 (s.wd 0)) (σ+1) q pn:=by
 refine⟨h.tw.same hσ who 0,(Y5.Vy who 0 _).trans h.ep,fun i hi=>(Y5.Zx who _ _ _ (by omega)).trans (h.pn i hi)⟩
theorem XF.on (h:XF t n k m s σ q pn) {s':Mm} {σ':Nat} {q':Q} (tw:Y5 t n k m s' σ' q') {who:Int} {a:Nat} (e:∃ v,s'=(s.by who).step a v) (h1:1<=a) (h2:a<6\/6+t<=a):XF t n k m s' σ' q' pn:=by
 obtain⟨v,rfl⟩:=e
 exact⟨tw,(Y5.Zx who _ 0 _ (by omega)).trans h.ep,fun i hi=>(Y5.Zx who _ _ _ (by omega)).trans (h.pn i hi)⟩
theorem Al.away {κ:Nat} {α:Al} (hκ:κ<4) (g:α.good t n k m κ σ q) (ho:α.ZR=false):1<=α.at t n κ/\(α.at t n κ<6\/6+t<=α.at t n κ):=by
 cases α with
 | over=>cases ho
 | take τ =>
  rcases Tk.at_in (t:=t) g.1 with e | ⟨x,hx,e⟩
  . show 1<=τ.at t/\(τ.at t<6\/6+t<=τ.at t);omega
  . show 1<=τ.at t/\(τ.at t<6\/6+t<=τ.at t);omega
 | ask x=>show 1<=6+t+x * 2/\_;constructor;omega;right;show 6+t<=6+t+x * 2;omega
 | place x G τ =>
  rcases Pl.at_in (t:=t) (n:=n) g.2.2.2.1 with e | ⟨i,hi,e⟩
  . show 1<=τ.at t n κ/\(τ.at t n κ<6\/6+t<=τ.at t n κ);omega
  . show 1<=τ.at t n κ/\(τ.at t n κ<6\/6+t<=τ.at t n κ);omega
 | count x G a i=>show 1<=6+t+n * 2+i * 3+1/\(6+t+n * 2+i * 3+1<6\/6+t<=6+t+n * 2+i * 3+1);omega
 | head x G a i=>have:=g.2.2.2.2.1;show 1<=a/\(a<6\/6+t<=a);omega
 | shw x G a i=>show 1<=6+t+x * 2/\(6+t+x * 2<6\/6+t<=6+t+x * 2);omega
 | ready x G a i st=>have:=g.2.2.2.2.1;show 1<=a/\(a<6\/6+t<=a);omega
 | give x G γ =>
  rcases Gv.at_in (t:=t) g.1 γ with e | ⟨y,hy,e⟩
  . show 1<=γ.at t x/\(γ.at t x<6\/6+t<=γ.at t x);omega
  . show 1<=γ.at t x/\(γ.at t x<6\/6+t<=γ.at t x);omega
theorem Hp.away {x:Nat} {η:Hp} (g:η.good t n k m) (ho:η.ZR=false):6+t<=η.at t x:=by
 cases η with
 | over=>cases ho
 | go v Z j u =>
  obtain⟨⟨i,O⟩,-⟩:=g
  have:=O.EO
  show 6+t<=if Z<=j then 6+t+x * 2 else ZB v+1+j
  split <;> omega
theorem Dp.away {x G:Nat} {α:Dp} (hx:x<n) (g:α.good t n k m x G q) (ho:α.ZR=false):1<=α.at t n x/\(α.at t n x<6\/6+t<=α.at t n x):=by
 cases α with
 | over=>cases ho
 | see=>show 1<=6+t+x * 2/\(6+t+x * 2<6\/6+t<=6+t+x * 2);omega
 | ask v=>obtain⟨i,O⟩:=g;have:=O.EO;show 1<=ZB v/\(ZB v<6\/6+t<=ZB v);omega
 | mark v Z=>show 1<=6+t+x * 2/\(6+t+x * 2<6\/6+t<=6+t+x * 2);omega
 | Ve η=>have:=Hp.away (x:=x) g.1 g.2;show 1<=η.at t x/\(η.at t x<6\/6+t<=η.at t x);omega
 | fin Z i η=>have:=Hp.away (x:=x) g.1 g.2;show 1<=η.at t x/\(η.at t x<6\/6+t<=η.at t x);omega
 | count Z i=>show 1<=6+t+n * 2+i * 3+1/\(6+t+n * 2+i * 3+1<6\/6+t<=6+t+n * 2+i * 3+1);omega
 | give γ =>
  rcases Gv.at_in (t:=t) hx γ with e | ⟨y,hy,e⟩
  . show 1<=γ.at t x/\(γ.at t x<6\/6+t<=γ.at t x);omega
  . show 1<=γ.at t x/\(γ.at t x<6\/6+t<=γ.at t x);omega
theorem Ac.away {W:Wt} {x G:Nat} {α:Ac} (g:α.good t n k m W x G q) (ho:α.ZR=false):6+t<=α.at t x W:=by
 cases α with
 | over=>cases ho
 | see=>show 6+t<=6+t+x * 2;omega
 | ask v=>obtain⟨i,O⟩:=g;have:=O.EO;show 6+t<=ZB v;omega
 | load v Z=>obtain⟨⟨i,O⟩,-⟩:=g;have:=O.EO;show 6+t<=ZB v+1+W.ix.toNat;omega
 | check v c ld=>show 6+t<=6+t+x * 2;omega
 | stop v=>show 6+t<=6+t+x * 2;omega
 | lay v c=>obtain⟨⟨Z,i,O,-⟩,-⟩:=g;have:=O.EO;show 6+t<=ZB v+1+W.ix.toNat;omega
end
def vI (σ0 σ:Nat) (St:Int):Dp->Prop
 | .count _ _=>(σ0:Int)<St/\St<=(σ:Int)
 | .give _=>(σ0:Int)<St/\St<=(σ:Int)
 | .over E=>(σ0:Int)<=St/\St<=(σ:Int)/\(E=0->(σ0:Int)<St)
 | _=>True
theorem Eh {t n k m σ0 σ:Nat} {s s':Mm} {q q':Q} {who cg:Int} {own:Bool} {x G:Nat} {α α':Dp} {a a':DV} (hx:x<n) (hT:Y5 t n k m s σ q) (hT':Y5 t n k m s' (σ+1) q') (hs:∃ v,s'=(s.by who).step (α.at t n x) v) (ht:ZK t n k m cg own x G q α=(q',α')) (ho:α.ZR=false) (hb:σ<1000000) (h0:σ0<=σ) (hw:∀ Z i η,α=.fin Z i η->α'=.count Z i->q'.sw x≠q.sw x) (hl:Tl t x σ s' a a' α α') (h:vI σ0 σ a.St α):vI σ0 (σ+1) a'.St α':=by
 cases α with
 | over=>cases ho
 | see =>
  obtain⟨-,hα⟩:=Prod.mk.inj ht
  split at hα <;> subst hα
  . trivial
  . have e:a'.St=((σ+1:Nat):Int):=hl
    exact⟨by omega,by omega,fun _=>by omega⟩
 | ask v =>
  obtain⟨-,hα⟩:=Prod.mk.inj ht
  unfold Sl at hα
  split at hα
  . split at hα <;> (subst hα;trivial)
  . subst hα
    have e:a'.St=((σ+1:Nat):Int):=hl
    exact⟨by omega,by omega,fun _=>by omega⟩
 | mark v Z =>
  simp only[ZK] at ht
  split at ht <;> (obtain⟨-,rfl⟩:=Prod.mk.inj ht;trivial)
 | Ve η =>
  obtain⟨q1,η1,h1⟩:∃ q1 η1,Zl cg x q η=(q1,η1):=⟨_,_,rfl⟩
  simp only[ZK,h1] at ht
  cases η1 <;> (simp only[PY] at ht;obtain⟨-,rfl⟩:=Prod.mk.inj ht;trivial)
 | fin Z i η =>
  obtain⟨q1,η1,h1⟩:∃ q1 η1,Zl cg x q η=(q1,η1):=⟨_,_,rfl⟩
  simp only[ZK,h1] at ht
  cases η1 with
  | go=>simp only[V5] at ht;obtain⟨-,rfl⟩:=Prod.mk.inj ht;trivial
  | over wn =>
   simp only[V5] at ht
   obtain⟨rfl,rfl⟩:=Prod.mk.inj ht
   have hne:=hw Z i η rfl rfl
   have hSt:a'.St=s'.wn (6+t+x * 2):=hl
   obtain⟨v,hv⟩:=hs
   have d1:=hT.QE x hx
   have d2:=hT'.QE x hx
   have d3:s'.wd (6+t+x * 2)≠s.wd (6+t+x * 2):=by rw[d1,d2];exact hne
   have hat:(Dp.fin Z i η).at t n x=6+t+x * 2:=by
    by_cases e:(Dp.fin Z i η).at t n x=6+t+x * 2
    . exact e
    . exfalso
      apply d3
      rw[hv]
      show upd s.wd _ v (6+t+x * 2)=_
      rw[Z8 _ _ _ _ (fun h=>e h.symm)]
   rw[hat] at hv
   have hvw:s'.wd (6+t+x * 2)=v:=by rw[hv];exact upd_same _ _ _
   have hwn:s'.wn (6+t+x * 2)=wrap64 (s.steps+1):=by
    rw[hv]
    show (if s.wd (6+t+x * 2)=v then s.wn else upd s.wn (6+t+x * 2) (wrap64 (s.steps+1))) (6+t+x * 2)=_
    rw[if_neg (fun h=>d3 (by rw[hvw,h])),upd_same]
   have hst:wrap64 (s.steps+1)=((σ+1:Nat):Int):=by rw[hT.pile.st];exact hT.pile.Xe hb
   show (σ0:Int)<a'.St/\a'.St<=((σ+1:Nat):Int)
   rw[hSt,hwn,hst]
   omega
 | count Z i =>
  have hSt:a'.St=a.St:=hl
  have h':(σ0:Int)<a.St/\a.St<=(σ:Int):=h
  have key:(σ0:Int)<a'.St/\a'.St<=((σ+1:Nat):Int):=by rw[hSt];omega
  obtain⟨-,hα⟩:=Prod.mk.inj ht
  split at hα <;> subst hα
  . exact⟨by omega,key.2,fun _=>key.1⟩
  . exact key
 | give γ =>
  have hSt:a'.St=a.St:=hl
  have h':(σ0:Int)<a.St/\a.St<=(σ:Int):=h
  have key:(σ0:Int)<a'.St/\a'.St<=((σ+1:Nat):Int):=by rw[hSt];omega
  obtain⟨c',lk',F',γ',h1⟩:∃ c' lk' F' γ',Zd q.c q.lk q.F x γ=(c',lk',F',γ'):=⟨_,_,_,_,rfl⟩
  simp only[ZK,h1] at ht
  cases γ' <;> (simp only[Xv] at ht;obtain⟨-,rfl⟩:=Prod.mk.inj ht;first | exact key | exact⟨Int.le_of_lt key.1,key.2,fun _=>key.1⟩)
inductive Dw where
 | al (z:Int) (own:Bool) (κ:Nat) (α:Al)
 | dp (nu:Int) (own:Bool) (x G:Nat) (α:Dp)
 | ac (W:Wt) (own:Bool) (x G:Nat) (α:Ac)
 | bad (c:Nat) (E:Int)
 | fin (c:Nat) (E:Int) (st:Nat)
def Dw.ZR:Dw->Bool
 | .al _ _ _ α=>α.ZR
 | .dp _ _ _ _ α=>α.ZR
 | .ac _ _ _ _ α=>α.ZR
 | .bad _ _=>false
 | .fin _ _ _=>true
def Dw.c:Dw->Nat
 | .al _ _ _ _=>0
 | .dp _ _ _ _ _=>1
 | .ac _ _ _ _ _=>2
 | .bad c _=>c
 | .fin c _ _=>c
def Dw.cost:Dw->Nat
 | .bad _ _=>0
 | .fin _ _ _=>0
 | _=>1
def yN:Nat->TypeId
 | 0=>120
 | 1=>122
 | _=>142
def fS:Nat->FuncId
 | 0=>107
 | 1=>155
 | _=>181
def fD:Nat->FuncId
 | 0=>106
 | 1=>154
 | _=>180
def Zb (t n k m:Nat) (cg:Int) (σ:Nat) (q:Q):Dw->Q × Dw
 | .al z own κ α=>((ZN t n k m κ z own σ q α).1,.al z own κ (ZN t n k m κ z own σ q α).2)
 | .dp nu own x G α=>((ZK t n k m cg own x G q α).1,.dp nu own x G (ZK t n k m cg own x G q α).2)
 | .ac W own x G α=>((Y9 W own x G σ q α).1,.ac W own x G (Y9 W own x G σ q α).2)
 | .bad c E=>(q,.fin c E σ)
 | .fin c E st=>(q,.fin c E st)
def Dw.need (t n k m:Nat) (cg:Int) (q:Q):Dw->Prop
 | .dp _ own x G α=>α.good t n k m x G q/\∀ Z i η,α=.fin Z i η->(ZK t n k m cg own x G q α).2=.count Z i->(ZK t n k m cg own x G q α).1.sw x≠q.sw x
 | .ac W _ x G α=>α.good t n k m W x G q
 | _=>True
def P8 (n:Nat) (nu:Int):Prop:=Wd nu/\((nu<65536\/4294967296<=nu)\/∃ (x:Nat) (G:Int),YZ nu x G/\n<=x)
def UH (t n k m:Nat) (w:World) (b σ0 σ:Nat) (q:Q):Dw->Prop
 | .al z own κ α=>Fit z/\ZI z=κ/\κ<4/\α.good t n k m κ σ q/\∃ cs a,ZM w b 0 137 cs a/\Eg z own κ α a
 | .dp nu own x G α=>YZ nu x G/\x<n/\∃ cs a,ZJ w b 0 141 cs a/\Ef t n k m nu own x α a/\vI σ0 σ a.St α
 | .ac W own x G α=>YZ W.nu x G/\x<n/\W.ok/\∃ cs a,ZE w b 0 147 cs a/\G9 W own α a
 | .bad c E=>(c=0/\E=5/\∃ z own cs,ZI z<0/\ZM w b 0 137 cs (av0 z own))\/(c=1/\E=3/\∃ nu own cs,P8 n nu/\ZJ w b 0 141 cs (vH nu own))\/(c=2/\E=3/\∃ (W:Wt) (own:Bool) (cs:Array Value),(W.kd=1\/W.kd=2\/W.kd=3)/\P8 n W.nu/\ZE w b 0 147 cs (zC W.kd W.nu W.ix W.vl W.ol own))
 | .fin c E st=>(c=0/\∃ cs a,ZM w b 0 137 cs a/\a.nx=8/\a.E=E/\a.H=0/\a.V=0/\a.St=st)\/(c=1/\∃ cs a,ZJ w b 0 141 cs a/\a.nx=7/\a.E=E/\a.H=0/\a.V=0/\a.St=st)\/(c=2/\∃ cs a,ZE w b 0 147 cs a/\a.E=E/\a.H=0/\a.V=0/\a.St=st)
theorem UH.of_block {t n k m:Nat} {w w':World} {b σ0 σ:Nat} {q:Q} {δ:Dw} (h:UH t n k m w b σ0 σ q δ) (e:w'.heap[b]?=w.heap[b]?):UH t n k m w' b σ0 σ q δ:=by
 cases δ with
 | al z own κ α=>obtain⟨h1,h2,h3,h4,cs,a,h5,h6⟩:=h;exact⟨h1,h2,h3,h4,cs,a,h5.of_block e,h6⟩
 | dp nu own x G α=>obtain⟨h1,h2,cs,a,h5,h6⟩:=h;exact⟨h1,h2,cs,a,h5.of_block e,h6⟩
 | ac W own x G α=>obtain⟨h1,h2,h3,cs,a,h5,h6⟩:=h;exact⟨h1,h2,h3,cs,a,h5.of_block e,h6⟩
 | bad c E =>
  rcases h with⟨h1,h2,z,own,cs,h3,h4⟩ | ⟨h1,h2,z,own,cs,h3,h4⟩ | ⟨h1,h2,z,own,cs,h3,h4,h5⟩
  . exact Or.inl ⟨h1,h2,z,own,cs,h3,h4.of_block e⟩
  . exact Or.inr (Or.inl ⟨h1,h2,z,own,cs,h3,h4.of_block e⟩)
  . exact Or.inr (Or.inr ⟨h1,h2,z,own,cs,h3,h4,h5.of_block e⟩)
 | fin c E st =>
  rcases h with⟨h1,cs,a,h3,h4⟩ | ⟨h1,cs,a,h3,h4⟩ | ⟨h1,cs,a,h3,h4⟩
  . exact Or.inl ⟨h1,cs,a,h3.of_block e,h4⟩
  . exact Or.inr (Or.inl ⟨h1,cs,a,h3.of_block e,h4⟩)
  . exact Or.inr (Or.inr ⟨h1,cs,a,h3.of_block e,h4⟩)
theorem UH.lt {t n k m:Nat} {w:World} {b σ0 σ:Nat} {q:Q} {δ:Dw} (h:UH t n k m w b σ0 σ q δ):b<w.heap.size:=by
 cases δ with
 | al z own κ α=>obtain⟨h1,h2,h3,h4,cs,a,h5,h6⟩:=h;exact h5.lt
 | dp nu own x G α=>obtain⟨h1,h2,cs,a,h5,h6⟩:=h;exact h5.lt
 | ac W own x G α=>obtain⟨h1,h2,h3,cs,a,h5,h6⟩:=h;exact h5.lt
 | bad c E =>
  rcases h with⟨h1,h2,z,own,cs,h3,h4⟩ | ⟨h1,h2,z,own,cs,h3,h4⟩ | ⟨h1,h2,z,own,cs,h3,h4,h5⟩
  . exact h4.lt
  . exact h4.lt
  . exact h5.lt
 | fin c E st =>
  rcases h with⟨h1,cs,a,h3,h4⟩ | ⟨h1,cs,a,h3,h4⟩ | ⟨h1,cs,a,h3,h4⟩ <;> exact h3.lt
section
variable {w:World} {L:Loc} {s:Mm} {b t n k m σ0 σ:Nat} {g p r:Int} {q:Q} {pn:Nat->Int}
theorem En (h:Z7 w L s) (hb:¬ L.has b) (hV:XF t n k m s σ q pn) (hG:Good t n k m g p r) (hσ:σ<1000000) (h0:σ0<=σ) (hdw:∀ a,Wd (q.dw a)) (δ:Dw) (hi:UH t n k m w b σ0 σ q δ) (hn:δ.need t n k m g q) (ho:δ.ZR=false) (who:Int) (q':Q) (δ':Dw) (hq:Zb t n k m g σ q δ=(q',δ')) :
 Calls Tryz.prog (fS δ.c) #[pP b 0,eV t n k m g p r L.p who] w fun e w'=>e=.returned (.bool δ'.ZR)/\∃ s',Z7 w' L s'/\XF t n k m s' (σ+δ.cost) q' pn/\UH t n k m w' b σ0 (σ+δ.cost) q' δ'/\Only (L.and b) w w':=by
 have hT:=hV.tw
 cases δ with
 | al z own κ α =>
  obtain⟨fz,hz,hκ,gd,cs,a,ia,yJ⟩:=hi
  obtain⟨rfl,rfl⟩:=Prod.mk.inj hq
  refine(MX h hb hT hG hσ fz hz hκ α ia yJ gd ho who _ _ rfl _ rfl).mono ?_
  rintro e w' ⟨rfl,s',cs',a',P⟩
  have aw:=Al.away hκ gd ho
  exact⟨rfl,s',P.mm,hV.on P.tw P.st aw.1 aw.2,⟨fz,hz,hκ,P.good,cs',a',P.al,P.is⟩,P.only⟩
 | dp nu own x G α =>
  obtain⟨hh,hx,cs,a,ia,yJ,tl⟩:=hi
  obtain⟨rfl,rfl⟩:=Prod.mk.inj hq
  refine(drop_step h hb hT hG hσ hdw hh hx α ia yJ hn.1 ho who _ _ rfl _ rfl).mono ?_
  rintro e w' ⟨rfl,s',cs',a',P⟩
  have aw:=Dp.away hx hn.1 ho
  exact⟨rfl,s',P.mm,hV.on P.tw P.st aw.1 aw.2,⟨hh,hx,cs',a',P.dp,P.is,Eh hx hT P.tw P.st rfl ho hσ h0 hn.2 P.tl tl⟩,P.only⟩
 | ac W own x G α =>
  obtain⟨hh,hx,hW,cs,a,ia,yJ⟩:=hi
  obtain⟨rfl,rfl⟩:=Prod.mk.inj hq
  refine(OX h hb hT hG hσ hdw hh hx hW α ia yJ hn ho who _ _ rfl _ rfl).mono ?_
  rintro e w' ⟨rfl,s',cs',a',P⟩
  have aw:=Ac.away hn ho
  exact⟨rfl,s',P.mm,hV.on P.tw P.st (by omega) (Or.inr aw),⟨hh,hx,hW,cs',a',P.ac,P.is⟩,P.only⟩
 | bad c E =>
  obtain⟨rfl,rfl⟩:=Prod.mk.inj hq
  have hst:=hT.pile.st
  have hlen:ZG t n k m<=s.n:=by rw[hT.len];exact Nat.le_refl _
  rcases hi with⟨rfl,rfl,z,own,cs,hz,ia⟩ | ⟨rfl,rfl,nu,own,cs,hnu,ia⟩ | ⟨rfl,rfl,W,own,cs,hk,hnu,ia⟩
  . refine(WH (g:=g) (p:=p) (r:=r) (t:=t) (n:=n) (k:=k) (m:=m) h ia who rfl (fun s' a'=>s'=s/\a'={ av0 z own with nx:=8,E:=5,H:=0,V:=0,St:=σ }) true (by rintro s' a' ⟨-,rfl⟩;rfl) (fun w1 m1 i1=>JF m1 hb i1 who hz σ hst)).mono ?_
    rintro e w' ⟨rfl,s2,cs2,a2,m2,o2,i2,q2,rfl,rfl⟩
    exact⟨rfl,_,m2,hV,Or.inl ⟨rfl,cs2,_,i2,rfl,rfl,rfl,rfl,rfl⟩,o2⟩
  . rcases hnu.2 with hnn | ⟨x,G,hh,hx⟩
    . refine(MW h hb ia who hnu.1.1 hnu.1.2 hnn rfl hst).mono ?_
      rintro e w' ⟨rfl,s2,cs2,a2,m2,o2,i2,q2,rfl,rfl⟩
      exact⟨rfl,_,m2,hV,Or.inr (Or.inl ⟨rfl,cs2,_,i2,rfl,rfl,rfl,rfl,rfl⟩),o2⟩
    . refine(JE h ia who hG hlen hh hb hx rfl hst).mono ?_
      rintro e w' ⟨rfl,s2,cs2,a2,m2,o2,i2,q2,rfl,rfl⟩
      exact⟨rfl,_,m2,hV,Or.inr (Or.inl ⟨rfl,cs2,_,i2,rfl,rfl,rfl,rfl,rfl⟩),o2⟩
  . rcases hnu.2 with hnn | ⟨x,G,hh,hx⟩
    . refine(OY h ia who hk hb hnu.1.1 hnu.1.2 hnn (by show ¬ (0:Int)=7;decide) hst).mono ?_
      rintro e w' ⟨rfl,s2,cs2,a2,m2,o2,i2,q2,rfl,rfl⟩
      exact⟨rfl,_,m2,hV,Or.inr (Or.inr ⟨rfl,cs2,_,i2,rfl,rfl,rfl,rfl⟩),o2⟩
    . refine(Nk h ia who hk hG hlen hh hb hx (by show ¬ (0:Int)=7;decide) hst).mono ?_
      rintro e w' ⟨rfl,s2,cs2,a2,m2,o2,i2,q2,rfl,rfl⟩
      exact⟨rfl,_,m2,hV,Or.inr (Or.inr ⟨rfl,cs2,_,i2,rfl,rfl,rfl,rfl⟩),o2⟩
 | fin c E st=>cases ho
end
def Dw.told (σ0 σ:Nat) (E H V St:Int):Dw->Prop
 | .al _ _ _ (.over E' H' st)=>E=E'/\H=H'/\V=0/\St=st
 | .dp _ _ _ _ (.over E')=>E=E'/\H=0/\V=0/\(σ0:Int)<=St/\St<=(σ:Int)/\(E'=0->(σ0:Int)<St)
 | .ac _ _ _ _ (.over E' v st)=>E=E'/\H=0/\V=v/\St=st
 | .fin _ E' st=>E=E'/\H=0/\V=0/\St=st
 | _=>False
theorem Ej {t n k m:Nat} {w:World} {b σ0 σ:Nat} {q:Q} {δ:Dw} (h:UH t n k m w b σ0 σ q δ) (ho:δ.ZR=true):∃ E H V St,δ.told σ0 σ E H V St/\∀ w1,Below w.heap.size w w1->Calls Tryz.prog (fD δ.c) #[pP b 0] w1 fun e w'=>e=.returned (.agg #[iV E,.int .u64 H,iV V,iV St])/\Below w1.heap.size w1 w':=by
 cases δ with
 | al z own κ α =>
  obtain⟨h1,h2,h3,h4,cs,a,h5,h6⟩:=h
  cases α with
  | over E H st =>
   have:=h6.nx
   exact⟨_,_,_,_,⟨h6.cm.1,h6.cm.2.1,h6.cm.2.2.1,h6.cm.2.2.2⟩,fun w1 g=>Sj (h5.grown g) this⟩
  | _=>cases ho
 | dp nu own x G α =>
  obtain⟨h1,h2,cs,a,h5,h6,h7⟩:=h
  cases α with
  | over E =>
   have:=h6.nx
   exact⟨_,_,_,_,⟨h6.E,h6.H,h6.V,h7⟩,fun w1 g=>Si (h5.grown g) this⟩
  | _=>cases ho
 | ac W own x G α =>
  obtain⟨h1,h2,h3,cs,a,h5,h6⟩:=h
  cases α with
  | over E v st=>exact⟨_,_,_,_,⟨h6.sec.1,h6.sec.2.1,h6.sec.2.2.1,h6.sec.2.2.2⟩,fun w1 g=>QH (h5.grown g)⟩
  | _=>cases ho
 | bad c E=>cases ho
 | fin c E st =>
  rcases h with⟨rfl,cs,a,h3,h4,h5⟩ | ⟨rfl,cs,a,h3,h4,h5⟩ | ⟨rfl,cs,a,h3,h5⟩
  . exact⟨_,_,_,_,h5,fun w1 g=>Sj (h3.grown g) h4⟩
  . exact⟨_,_,_,_,h5,fun w1 g=>Si (h3.grown g) h4⟩
  . exact⟨_,_,_,_,h5,fun w1 g=>QH (h3.grown g)⟩
end
section
structure As where
 σ:Nat
 q:Q
 pn:Nat->Int
 ph:Nat
 δ:Dw
def Xx (t n k m:Nat) (cg:Int) (who:Nat) (A:As):As :=
 match A.ph with
 | 0=>{ A with σ:=A.σ+1,ph:=1 }
 | 1=>{ A with σ:=A.σ+1,pn:=upd A.pn who 1,ph:=2 }
 | 2=>{ A with σ:=A.σ+1,ph:=3 }
 | 3=>{ A with σ:=A.σ+A.δ.cost,q:=(Zb t n k m cg A.σ A.q A.δ).1,ph:=if (Zb t n k m cg A.σ A.q A.δ).2.ZR then 4 else 3,δ:=(Zb t n k m cg A.σ A.q A.δ).2 }
 | 4=>{ A with σ:=A.σ+1,pn:=upd A.pn who 0,ph:=5 }
 | _=>A
structure Bk where
 A:Nat
 S:Nat
 I:Nat
 b:Nat
def Bk.has (B:Bk) (x:Nat):Prop:=x=B.A\/x=B.S\/x=B.I\/x=B.b
structure Ym (t n k m:Nat) (w:World) (L:Loc) (B:Bk) (σ0:Nat) (A:As):Prop where
 at_:Vb w B.A B.S B.I B.b (yN A.δ.c) (A.ph - 2)
 pin:A.ph<=2->∃ c,YV w B.I 0 107 c A.ph 0
 dw:UH t n k m w B.b σ0 A.σ A.q A.δ
 ov:A.δ.ZR=decide (4<=A.ph)
 p5:A.ph<=5
 s0:σ0<=A.σ
 nl:∀ x,B.has x->¬ L.has x
def LB (L:Loc) (B:Bk) (x:Nat):Prop:=L.has x\/B.has x
theorem Vb.block {w w':World} {bA bS bI b:Nat} {T:TypeId} {i:Nat} (h:Vb w bA bS bI b T i) (e1:w'.heap[bA]?=w.heap[bA]?) (e2:w'.heap[bS]?=w.heap[bS]?):Vb w' bA bS bI b T i :=
 ⟨h.a.imp fun _ k=>k.of_block e1,h.l.imp fun _ k=>k.of_block e2,h.h1,h.h2,h.h3,h.h4,h.h5,h.h6⟩
theorem Ym.block {t n k m:Nat} {w w':World} {L:Loc} {B:Bk} {σ0:Nat} {A:As} (h:Ym t n k m w L B σ0 A) (e:∀ x,B.has x->x<w.heap.size->w'.heap[x]?=w.heap[x]?):Ym t n k m w' L B σ0 A:=by
 obtain⟨c,ka⟩:=h.at_.a
 obtain⟨c',kl⟩:=h.at_.l
 exact⟨h.at_.block (e _ (Or.inl rfl) ka.lt) (e _ (Or.inr (Or.inl rfl)) kl.lt),fun hp=>(h.pin hp).imp fun _ k=>k.of_block (e _ (Or.inr (Or.inr (Or.inl rfl))) k.lt),h.dw.of_block (e _ (Or.inr (Or.inr (Or.inr rfl))) h.dw.lt),h.ov,h.p5,h.s0,h.nl⟩
theorem Ym.grown {t n k m:Nat} {w w':World} {L:Loc} {B:Bk} {σ0:Nat} {A:As} (h:Ym t n k m w L B σ0 A) (g:Below w.heap.size w w'):Ym t n k m w' L B σ0 A:=h.block fun _ _ hl=>g.block _ hl
theorem Ym.only {t n k m:Nat} {w w':World} {L:Loc} {B:Bk} {σ0:Nat} {A:As} {S:Nat->Prop} (h:Ym t n k m w L B σ0 A) (g:Only S w w') (hs:∀ x,B.has x->¬ S x):Ym t n k m w' L B σ0 A:=h.block fun x hx hl=>g.block _ hl (hs x hx)
theorem Pl.Es {k m κ σ σ':Nat} {τ:Pl} (h:τ.good k m κ σ) (hs:σ<=σ'):τ.good k m κ σ':=by
 cases τ with
 | grow i c=>exact⟨h.1,h.2.1.up hs,h.2.2⟩
 | take sn i c=>exact⟨h.1,h.2.1,h.2.2.1.up hs,h.2.2.2⟩
 | opn sn i c=>exact⟨h.1,h.2.1,h.2.2.1.up hs,h.2.2.2⟩
 | Wh sn i c=>exact⟨h.1,h.2.1,h.2.2.1.up hs,h.2.2.2⟩
 | _=>exact h
theorem UH.later {t n k m:Nat} {w:World} {b σ0 σ σ':Nat} {q:Q} {δ:Dw} (h:UH t n k m w b σ0 σ q δ) (hs:σ<=σ'):UH t n k m w b σ0 σ' q δ:=by
 cases δ with
 | al z own κ α =>
  obtain⟨h1,h2,h3,h4,h5⟩:=h
  refine⟨h1,h2,h3,?_,h5⟩
  cases α with
  | place x G τ=>exact⟨h4.1,h4.2.1,h4.2.2.1,Pl.Es h4.2.2.2.1 hs,h4.2.2.2.2⟩
  | _=>exact h4
 | dp nu own x G α =>
  obtain⟨h1,h2,cs,a,h5,h6,h7⟩:=h
  refine⟨h1,h2,cs,a,h5,h6,?_⟩
  cases α with
  | count=>exact⟨h7.1,Int.le_trans h7.2 (by omega)⟩
  | give=>exact⟨h7.1,Int.le_trans h7.2 (by omega)⟩
  | over=>exact⟨h7.1,Int.le_trans h7.2.1 (by omega),h7.2.2⟩
  | _=>exact h7
 | ac W own x G α=>exact h
 | bad c E=>exact h
 | fin c E st=>exact h
theorem P7 (b:Nat) (w:World):(method 320 105 (pP b 0) "Step").run Tryz.prog w=.ok (98,pP b 0) w:=by kernel_rfl
theorem G5 (w:World):(method 320 109 (.agg #[]) "Step").run Tryz.prog w=.ok (105,.agg #[]) w:=by kernel_rfl
theorem Ba (c b:Nat) (w:World):(method 320 (yN c) (pP b 0) "Step").run Tryz.prog w=.ok ((fS c),pP b 0) w:=by
 match c with
 | 0 =>
  have h:(method 320 120 (pP b 0) "Step").run Tryz.prog w=.ok (107,pP b 0) w:=by kernel_rfl
  exact h
 | 1 =>
  have h:(method 320 122 (pP b 0) "Step").run Tryz.prog w=.ok (155,pP b 0) w:=by kernel_rfl
  exact h
 | _+2 =>
  have h:(method 320 142 (pP b 0) "Step").run Tryz.prog w=.ok (181,pP b 0) w:=by kernel_rfl
  exact h
theorem A8 (c b:Nat) (w:World):(method 320 (yN c) (pP b 0) "Done").run Tryz.prog w=.ok ((fD c),pP b 0) w:=by
 match c with
 | 0 =>
  have h:(method 320 120 (pP b 0) "Done").run Tryz.prog w=.ok (106,pP b 0) w:=by kernel_rfl
  exact h
 | 1 =>
  have h:(method 320 122 (pP b 0) "Done").run Tryz.prog w=.ok (154,pP b 0) w:=by kernel_rfl
  exact h
 | _+2 =>
  have h:(method 320 142 (pP b 0) "Done").run Tryz.prog w=.ok (180,pP b 0) w:=by kernel_rfl
  exact h
theorem Na (args:Array Value) (w:World):(callFunc 98 args).run Tryz.prog w=.ok (.enter 98 args) w:=by kernel_rfl
theorem Ep (args:Array Value) (w:World):(callFunc 105 args).run Tryz.prog w=.ok (.enter 105 args) w:=by kernel_rfl
theorem yM (c:Nat) (args:Array Value) (w:World):(callFunc (fS c) args).run Tryz.prog w=.ok (.enter (fS c) args) w:=by
 match c with
 | 0 =>
  have h:(callFunc 107 args).run Tryz.prog w=.ok (.enter 107 args) w:=by kernel_rfl
  exact h
 | 1 =>
  have h:(callFunc 155 args).run Tryz.prog w=.ok (.enter 155 args) w:=by kernel_rfl
  exact h
 | _+2 =>
  have h:(callFunc 181 args).run Tryz.prog w=.ok (.enter 181 args) w:=by kernel_rfl
  exact h
theorem yL (c:Nat) (args:Array Value) (w:World):(callFunc (fD c) args).run Tryz.prog w=.ok (.enter (fD c) args) w:=by
 match c with
 | 0 =>
  have h:(callFunc 106 args).run Tryz.prog w=.ok (.enter 106 args) w:=by kernel_rfl
  exact h
 | 1 =>
  have h:(callFunc 154 args).run Tryz.prog w=.ok (.enter 154 args) w:=by kernel_rfl
  exact h
 | _+2 =>
  have h:(callFunc 180 args).run Tryz.prog w=.ok (.enter 180 args) w:=by kernel_rfl
  exact h
theorem yK (c b:Nat) (w:World):(binOp .eql 85 (.iface (yN c) (pP b 0)) .nilIface).run Tryz.prog w=.ok (.bool false) w:=by
 match c with
 | 0 =>
  have h:(binOp .eql 85 (.iface 120 (pP b 0)) .nilIface).run Tryz.prog w=.ok (.bool false) w:=by kernel_rfl
  exact h
 | 1 =>
  have h:(binOp .eql 85 (.iface 122 (pP b 0)) .nilIface).run Tryz.prog w=.ok (.bool false) w:=by kernel_rfl
  exact h
 | _+2 =>
  have h:(binOp .eql 85 (.iface 142 (pP b 0)) .nilIface).run Tryz.prog w=.ok (.bool false) w:=by kernel_rfl
  exact h
theorem GZ {t n k m:Nat} {g:Int} {σ:Nat} {q q':Q} {δ δ':Dw} (h:Zb t n k m g σ q δ=(q',δ')):δ'.c=δ.c:=by
 cases δ <;> (obtain⟨-,rfl⟩:=Prod.mk.inj h;rfl)
theorem Vb.next {w:World} {bA bS bI b:Nat} {T:TypeId} {i:Nat} (h:Vb w bA bS bI b T i):Vb (w.setCell ⟨bA,1,none⟩ (.slice (some ⟨bS,min (i+1) 2,none⟩) (2 - i) (2 - i))) bA bS bI b T (i+1):=by
 obtain⟨c,ka⟩:=h.a
 obtain⟨c',kl⟩:=h.l
 have:=ka.ZO 1 (.slice (some ⟨bS,min (i+1) 2,none⟩) (2 - i) (2 - i))
 have hk:3 - (i+1)=2 - i:=by omega
 refine⟨⟨c.setIfInBounds 1 (.slice (some ⟨bS,min (i+1) 2,none⟩) (2 - i) (2 - i)),?_⟩,⟨c',kl.other (Ne.symm h.h1) _ _⟩,h.h1,h.h2,h.h3,h.h4,h.h5,h.h6⟩
 rw[hk]
 exact this
section
variable {w:World} {L:Loc} {s:Mm} {B:Bk} {t n k m σ0:Nat} {g p r:Int} {A:As}
theorem QC (h:Z7 w L s) (hV:XF t n k m s A.σ A.q A.pn) (hG:Good t n k m g p r) (hσ:A.σ<1000000) (hdw:∀ a,Wd (A.q.dw a)) (hA:Ym t n k m w L B σ0 A) (h5:A.ph≠5) (hn:A.ph=3->A.δ.need t n k m g A.q) (who:Nat) (hw:who<t) (A':As) (hq:Xx t n k m g who A=A') :
 Calls Tryz.prog 26 #[pP B.A 0,eV t n k m g p r L.p who] w fun e w'=>e=.returned (.bool (A'.ph == 5))/\∃ s',Z7 w' L s'/\XF t n k m s' A'.σ A'.q A'.pn/\Ym t n k m w' L B σ0 A'/\Only (LB L B) w w'/\(A.ph≠3->s'.la<6+t):=by
 subst hq
 obtain⟨σ,q,pn,ph,δ⟩:=A
 have hlen:=hV.tw.len
 have htn:6+who<s.n:=by rw[hlen];omega
 have S9:(t:Int)<=8:=by have:=hG.t1;omega
 have hwt:(who:Int)<(t:Int):=by omega
 obtain⟨hAt,Eo,MZ,hov,vK,hs0,hnl⟩:=hA
 simp only at hAt Eo MZ hov vK hs0 hn h5 hσ hdw hV
 have nA:=hnl B.A (Or.inl rfl)
 have nS:=hnl B.S (Or.inr (Or.inl rfl))
 have nI:=hnl B.I (Or.inr (Or.inr (Or.inl rfl)))
 have nb:=hnl B.b (Or.inr (Or.inr (Or.inr rfl)))
 obtain⟨ca,ka⟩:=hAt.a
 obtain⟨cl,kl⟩:=hAt.l
 have ia:=ka.lt
 have il:=kl.lt
 have ib:=MZ.lt
 have oI:∀ {x y:World},Only (L.and B.I) x y->Only (LB L B) x y:=fun o=>o.mono fun z _ hz=>hz.elim Or.inl (fun e=>Or.inr (Or.inr (Or.inr (Or.inl e))))
 have ob:∀ {x y:World},Only (L.and B.b) x y->Only (LB L B) x y:=fun o=>o.mono fun z _ hz=>hz.elim Or.inl (fun e=>Or.inr (Or.inr (Or.inr (Or.inr e))))
 have oA:∀ {x y:World} {i:Nat} {v:Value},Only (LB L B) x y->Only (LB L B) x (y.setCell ⟨B.A,i,none⟩ v):=fun o=>o.setCell (fun _=>Or.inr (Or.inl rfl)) _
 match ph,h5 with
 | 0,_ =>
  obtain⟨c,hin⟩:=Eo (by omega)
  have hin:YV w B.I 0 107 c 0 0:=hin
  refine(Xw (L:=L) hAt (by omega) t n k m g p r who (kl.at0 0 rfl) (P7 _) Na (fun d w1=>d=false/\∃ s',Z7 w1 L s'/\XF t n k m s' (σ+1) q pn/\s'.la<6+t/\(∃ c,YV w1 B.I 0 107 c 1 0)/\∃ w0,Below w.heap.size w w0/\Only (L.and B.I) w0 w1) (fun w1 g1=>?_)).mono ?_
  . refine(Sr (h.below g1) nI (hin.grown g1) (Or.inl rfl) t n k m g p r who htn hwt S9).mono ?_
    rintro e w' ⟨d,s',c',nx',Cc,rfl,P,m',i',-,o'⟩
    refine⟨d,rfl,o'.block _ (Nat.lt_of_lt_of_le ia g1.size) (fun hh=>hh.elim nA hAt.h2),?_⟩
    cases P with
    | load =>
     rw[hV.ep] at m' i'
     have hv1:=hV.look hσ (who:Int)
     rw[hV.ep] at hv1
     exact⟨rfl,_,m',hv1,(by show ((0:Nat):Int)<6+(t:Int);omega),⟨c',i'⟩,w1,g1,o'⟩
  . rintro e w' ⟨d,w1,⟨rfl,s',m',v',l',i',w0,g0,o0⟩,hh⟩
    have ek:∀ x,x<w.heap.size->x≠B.I->¬ L.has x->w1.heap[x]?=w.heap[x]?:=fun x hx h1 h2=>(o0.block _ (Nat.lt_of_lt_of_le hx g0.size) (fun hh=>hh.elim h2 h1)).trans (g0.block _ hx)
    have ow:Only (LB L B) w w1:=(Only.ZZ g0).trans (oI o0)
    rcases hh with⟨-,rfl,rfl⟩ | ⟨e,-⟩
    . exact⟨rfl,s',m',v',⟨hAt.block (ek _ ia hAt.h2 nA) (ek _ il hAt.h4 nS),fun _=>i',(MZ.of_block (ek _ ib (Ne.symm hAt.h6) nb)).later (Nat.le_succ _),hov,by show 1<=5;omega,by show σ0<=σ+1;omega,hnl⟩,ow,fun _=>l'⟩
    . cases e
 | 1,_ =>
  obtain⟨c,hin⟩:=Eo (by omega)
  have hin:YV w B.I 0 107 c 1 0:=hin
  refine(Xw (L:=L) hAt (by omega) t n k m g p r who (kl.at0 0 rfl) (P7 _) Na (fun d w1=>d=false/\∃ s',Z7 w1 L s'/\XF t n k m s' (σ+1) q (upd pn who 1)/\s'.la<6+t/\(∃ c,YV w1 B.I 0 107 c 2 0)/\∃ w0,Below w.heap.size w w0/\Only (L.and B.I) w0 w1) (fun w1 g1=>?_)).mono ?_
  . refine(Sr (h.below g1) nI (hin.grown g1) (Or.inr (Or.inl rfl)) t n k m g p r who htn hwt S9).mono ?_
    rintro e w' ⟨d,s',c',nx',Cc,rfl,P,m',i',-,o'⟩
    refine⟨d,rfl,o'.block _ (Nat.lt_of_lt_of_le ia g1.size) (fun hh=>hh.elim nA hAt.h2),?_⟩
    cases P with
    | lay=>exact⟨rfl,_,m',hV.pin hσ (who:Int) hw 1,(by show ((6+who:Nat):Int)<6+(t:Int);omega),⟨c',i'⟩,w1,g1,o'⟩
  . rintro e w' ⟨d,w1,⟨rfl,s',m',v',l',i',w0,g0,o0⟩,hh⟩
    have ek:∀ x,x<w.heap.size->x≠B.I->¬ L.has x->w1.heap[x]?=w.heap[x]?:=fun x hx h1 h2=>(o0.block _ (Nat.lt_of_lt_of_le hx g0.size) (fun hh=>hh.elim h2 h1)).trans (g0.block _ hx)
    have ow:Only (LB L B) w w1:=(Only.ZZ g0).trans (oI o0)
    rcases hh with⟨-,rfl,rfl⟩ | ⟨e,-⟩
    . exact⟨rfl,s',m',v',⟨hAt.block (ek _ ia hAt.h2 nA) (ek _ il hAt.h4 nS),fun _=>i',(MZ.of_block (ek _ ib (Ne.symm hAt.h6) nb)).later (Nat.le_succ _),hov,by show 2<=5;omega,by show σ0<=σ+1;omega,hnl⟩,ow,fun _=>l'⟩
    . cases e
 | 2,_ =>
  obtain⟨c,hin⟩:=Eo (by omega)
  have hin:YV w B.I 0 107 c 2 0:=hin
  refine(Xw (L:=L) hAt (by omega) t n k m g p r who (kl.at0 0 rfl) (P7 _) Na (fun d w1=>d=true/\∃ s',Z7 w1 L s'/\XF t n k m s' (σ+1) q pn/\s'.la<6+t/\∃ w0,Below w.heap.size w w0/\Only (L.and B.I) w0 w1) (fun w1 g1=>?_)).mono ?_
  . refine(Sr (h.below g1) nI (hin.grown g1) (Or.inr (Or.inr rfl)) t n k m g p r who htn hwt S9).mono ?_
    rintro e w' ⟨d,s',c',nx',Cc,rfl,P,m',i',-,o'⟩
    refine⟨d,rfl,o'.block _ (Nat.lt_of_lt_of_le ia g1.size) (fun hh=>hh.elim nA hAt.h2),?_⟩
    obtain⟨rfl,rfl⟩:d=true/\s'=(s.by who).step 0 (s.wd 0):=by
     generalize hE:(0:Int)=E0 at P
     cases P with
     | same=>exact⟨rfl,rfl⟩
     | other _ hne=>exact absurd (hV.ep.trans hE) hne
    exact⟨rfl,_,m',hV.look hσ (who:Int),(by show ((0:Nat):Int)<6+(t:Int);omega),w1,g1,o'⟩
  . rintro e w' ⟨d,w1,⟨rfl,s',m',v',l',w0,g0,o0⟩,hh⟩
    have ek:∀ x,x<w.heap.size->x≠B.I->¬ L.has x->w1.heap[x]?=w.heap[x]?:=fun x hx h1 h2=>(o0.block _ (Nat.lt_of_lt_of_le hx g0.size) (fun hh=>hh.elim h2 h1)).trans (g0.block _ hx)
    have ow:Only (LB L B) w w1:=(Only.ZZ g0).trans (oI o0)
    rcases hh with⟨e,-⟩ | ⟨-,rfl,rfl⟩
    . cases e
    . have hA1:=hAt.block (ek _ ia hAt.h2 nA) (ek _ il hAt.h4 nS)
      exact⟨rfl,s',m'.ZX nA _ _,v',⟨hA1.next,fun h=>absurd h (by show ¬ 3<=2;omega),((MZ.of_block (ek _ ib (Ne.symm hAt.h6) nb)).later (Nat.le_succ _)).of_block (Go.Deep.blk_setCell_other _ _ _ _ (by simpa using (Ne.symm hAt.h3))),hov,by show 3<=5;omega,by show σ0<=σ+1;omega,hnl⟩,oA ow,fun _=>l'⟩
 | 3,_ =>
  obtain⟨q',δ',hq⟩:∃ q' δ',Zb t n k m g σ q δ=(q',δ'):=⟨_,_,rfl⟩
  have ho:δ.ZR=false:=hov
  have hc:δ'.c=δ.c:=GZ hq
  refine(Xw (L:=L) hAt (by omega) t n k m g p r who (kl.at0 1 rfl) (Ba δ.c _) (yM δ.c) (fun d w1=>d=δ'.ZR/\∃ s',Z7 w1 L s'/\XF t n k m s' (σ+δ.cost) q' pn/\UH t n k m w1 B.b σ0 (σ+δ.cost) q' δ'/\∃ w0,Below w.heap.size w w0/\Only (L.and B.b) w0 w1) (fun w1 g1=>?_)).mono ?_
  . refine(En (h.below g1) nb hV hG hσ hs0 hdw δ (MZ.of_block (g1.block _ ib)) (hn rfl) ho who q' δ' hq).mono ?_
    rintro e w' ⟨rfl,s',m',v',d',o'⟩
    exact⟨_,rfl,o'.block _ (Nat.lt_of_lt_of_le ia g1.size) (fun hh=>hh.elim nA hAt.h3),rfl,s',m',v',d',w1,g1,o'⟩
  . rintro e w' ⟨d,w1,⟨rfl,s',m',v',d',w0,g0,o0⟩,hh⟩
    have ek:∀ x,x<w.heap.size->x≠B.b->¬ L.has x->w1.heap[x]?=w.heap[x]?:=fun x hx h1 h2=>(o0.block _ (Nat.lt_of_lt_of_le hx g0.size) (fun hh=>hh.elim h2 h1)).trans (g0.block _ hx)
    have ow:Only (LB L B) w w1:=(Only.ZZ g0).trans (ob o0)
    have hA1:=hAt.block (ek _ ia hAt.h3 nA) (ek _ il hAt.h5 nS)
    have eT:Xx t n k m g who ⟨σ,q,pn,3,δ⟩=⟨σ+δ.cost,q',pn,if δ'.ZR then 4 else 3,δ'⟩:=by
     show As.mk _ _ _ _ _=_
     rw[hq]
    rw[eT]
    rcases hh with⟨e,rfl,rfl⟩ | ⟨e,rfl,rfl⟩
    . rw[e,if_neg (by decide)]
      exact⟨rfl,s',m',v',⟨by rw[hc];exact hA1,fun h=>absurd h (by show ¬ 3<=2;omega),d',e,by show 3<=5;omega,by show σ0<=σ+δ.cost;omega,hnl⟩,ow,fun h=>absurd rfl h⟩
    . rw[e,if_pos rfl]
      exact⟨rfl,s',m'.ZX nA _ _,v',⟨by rw[hc];exact hA1.next,fun h=>absurd h (by show ¬ 4<=2;omega),d'.of_block (Go.Deep.blk_setCell_other _ _ _ _ (by simpa using (Ne.symm hAt.h3))),e,by show 4<=5;omega,by show σ0<=σ+δ.cost;omega,hnl⟩,oA ow,fun h=>absurd rfl h⟩
 | 4,_ =>
  refine(Xw (L:=L) hAt (by omega) t n k m g p r who (kl.at0 2 rfl) G5 Ep (fun d w1=>d=true/\∃ s',Z7 w1 L s'/\XF t n k m s' (σ+1) q (upd pn who 0)/\s'.la<6+t/\∃ w0,Below w.heap.size w w0/\Only L.has w0 w1) (fun w1 g1=>?_)).mono ?_
  . refine(Em (h.below g1) t n k m g p r who htn hwt S9).mono ?_
    rintro e w' ⟨rfl,m',o'⟩
    exact⟨_,rfl,o'.block _ (Nat.lt_of_lt_of_le ia g1.size) nA,rfl,_,m',hV.pin hσ (who:Int) hw 0,(by show ((6+who:Nat):Int)<6+(t:Int);omega),w1,g1,o'⟩
  . rintro e w' ⟨d,w1,⟨rfl,s',m',v',l',w0,g0,o0⟩,hh⟩
    have ek:∀ x,x<w.heap.size->¬ L.has x->w1.heap[x]?=w.heap[x]?:=fun x hx h2=>(o0.block _ (Nat.lt_of_lt_of_le hx g0.size) h2).trans (g0.block _ hx)
    have ow:Only (LB L B) w w1:=(Only.ZZ g0).trans (o0.mono fun _ _=>Or.inl)
    have hA1:=hAt.block (ek _ ia nA) (ek _ il nS)
    rcases hh with⟨e,-⟩ | ⟨-,rfl,rfl⟩
    . cases e
    . exact⟨rfl,s',m'.ZX nA _ _,v',⟨hA1.next,fun h=>absurd h (by show ¬ 5<=2;omega),((MZ.of_block (ek _ ib nb)).later (Nat.le_succ _)).of_block (Go.Deep.blk_setCell_other _ _ _ _ (by simpa using (Ne.symm hAt.h3))),hov,by show 5<=5;omega,by show σ0<=σ+1;omega,hnl⟩,oA ow,fun _=>l'⟩
 | 5,h=>exact absurd rfl h
 | ph+6,_=>omega
theorem OQ (h:Z7 w L s) (hV:XF t n k m s A.σ A.q A.pn) (hG:Good t n k m g p r) (hσ:A.σ<1000000) (hdw:∀ a,Wd (A.q.dw a)) (hA:Ym t n k m w L B σ0 A) (h5:A.ph≠5) (hn:A.ph=3->A.δ.need t n k m g A.q) (who:Nat) (hw:who<t) (A':As) (hq:Xx t n k m g who A=A') :
 Calls Tryz.prog 26 #[pP B.A 0,eV t n k m g p r L.p who] w fun e w'=>e=.returned (.bool (A'.ph == 5))/\∃ s',Z7 w' L s'/\XF t n k m s' A'.σ A'.q A'.pn/\Ym t n k m w' L B σ0 A'/\Only (LB L B) w w' :=
 (QC h hV hG hσ hdw hA h5 hn who hw A' hq).mono (by rintro e w' ⟨h1,s',h2,h3,h4,h6,-⟩;exact⟨h1,s',h2,h3,h4,h6⟩)
theorem OO (hA:Ym t n k m w L B σ0 A) (h5:A.ph=5):∃ E H V St,A.δ.told σ0 A.σ E H V St/\∀ w1,Below w.heap.size w w1->Calls Tryz.prog 27 #[pP B.A 0] w1 fun e w'=>e=.returned (.agg #[iV E,.int .u64 H,iV V,iV St])/\Below w1.heap.size w1 w':=by
 have ho:A.δ.ZR=true:=by rw[hA.ov,h5];rfl
 obtain⟨E,H,V,St,ht,hc⟩:=Ej hA.dw ho
 refine⟨E,H,V,St,ht,fun w1 g1=>?_⟩
 have hAt:=hA.at_
 rw[h5] at hAt
 obtain⟨c,ka⟩:=hAt.a
 obtain⟨c',kl⟩:=hAt.l
 exact P6 (hAt.block (g1.block _ ka.lt) (g1.block _ kl.lt)) (yK _ _) (A8 _ _) (yL _) E H V St (fun w2 g2=>hc w2 (grow g1 g2))
end
end
section
inductive YY (n:Nat) (X:Xa):Dw->Prop where
 | al (κ:Nat) (h:X.kd=1) (fz:Fit X.sz) (hz:ZI X.sz=κ) (hκ:κ<4):YY n X (.al X.sz X.own κ (.take .idle))
 | yQ (h:X.kd=1) (hz:ZI X.sz<0):YY n X (.bad 0 5)
 | dp {x G:Nat} (h:X.kd=2) (hh:YZ X.nu x G) (hx:x<n):YY n X (.dp X.nu X.own x G .see)
 | yP (h:X.kd=2) (hn:P8 n X.nu):YY n X (.bad 1 3)
 | ac {x G:Nat} (h3:3<=X.kd) (h5:X.kd<=5) (hv:Fit X.vl) (hh:YZ X.nu x G) (hx:x<n):YY n X (.ac ⟨X.kd - 2,X.nu,X.ix,X.vl,X.ol⟩ X.own x G .see)
 | yO (h3:3<=X.kd) (h5:X.kd<=5) (hn:P8 n X.nu):YY n X (.bad 2 3)
theorem YY.over {n:Nat} {X:Xa} {δ:Dw} (h:YY n X δ):δ.ZR=false:=by cases h <;> rfl
theorem YY.ty {n:Nat} {X:Xa} {δ:Dw} (h:YY n X δ):X.ty=yN δ.c:=by
 cases h with
 | al κ h=>unfold Xa.ty;rw[if_pos h];rfl
 | yQ h=>unfold Xa.ty;rw[if_pos h];rfl
 | dp h=>unfold Xa.ty;rw[if_neg (by omega),if_pos h];rfl
 | yP h=>unfold Xa.ty;rw[if_neg (by omega),if_pos h];rfl
 | ac h3=>unfold Xa.ty;rw[if_neg (by omega),if_neg (by omega)];rfl
 | yO h3=>unfold Xa.ty;rw[if_neg (by omega),if_neg (by omega)];rfl
theorem YY.at {n:Nat} {X:Xa} {δ:Dw} (h:YY n X δ) (t k m σ:Nat) (q:Q) (W:World):UH t n k m (W.alloc X.ob) W.heap.size σ σ q δ:=by
 cases h with
 | al κ h fz hz hκ =>
  unfold Xa.ob;rw[if_pos h]
  obtain⟨cs,q0⟩:=QD X.sz X.own W
  exact⟨fz,hz,hκ,⟨trivial,rfl⟩,cs,_,q0,Bd _ _ _⟩
 | yQ h hz =>
  unfold Xa.ob;rw[if_pos h]
  obtain⟨cs,q0⟩:=QD X.sz X.own W
  exact Or.inl ⟨rfl,rfl,_,_,cs,hz,q0⟩
 | dp h hh hx =>
  unfold Xa.ob;rw[if_neg (by omega),if_pos h]
  obtain⟨cs,q0⟩:=OT X.nu X.own W
  exact⟨hh,hx,cs,_,q0,Bc _ _ _ _ _ _ _,trivial⟩
 | yP h hn =>
  unfold Xa.ob;rw[if_neg (by omega),if_pos h]
  obtain⟨cs,q0⟩:=OT X.nu X.own W
  exact Or.inr (Or.inl ⟨rfl,rfl,_,_,cs,hn,q0⟩)
 | ac h3 h5 hv hh hx =>
  unfold Xa.ob;rw[if_neg (by omega),if_neg (by omega)]
  obtain⟨cs,q0⟩:=KC (X.kd - 2) X.nu X.ix X.vl X.ol X.own W
  exact⟨hh,hx,⟨by show X.kd - 2=1\/X.kd - 2=2\/X.kd - 2=3;omega,hv⟩,cs,_,q0,Bf ⟨X.kd - 2,X.nu,X.ix,X.vl,X.ol⟩ X.own⟩
 | yO h3 h5 hn =>
  unfold Xa.ob;rw[if_neg (by omega),if_neg (by omega)]
  obtain⟨cs,q0⟩:=KC (X.kd - 2) X.nu X.ix X.vl X.ol X.own W
  exact Or.inr (Or.inr ⟨rfl,rfl,⟨X.kd - 2,X.nu,X.ix,X.vl,X.ol⟩,X.own,cs,by show X.kd - 2=1\/X.kd - 2=2\/X.kd - 2=3;omega,hn,q0⟩)
theorem G6 {w:World} {L:Loc} {s:Mm} (hM:Z7 w L s) {X:Xa} (hm:X.may=true) {n:Nat} {δ:Dw} (hs:YY n X δ) (t k m σ:Nat) (q:Q) (pn:Nat->Int) :
 Calls Tryz.prog 38 #[X.v] w fun e w'=>∃ B:Bk,e=.returned (.tuple #[pP B.A 0,iV 0])/\Below w.heap.size w w'/\(∀ x,B.has x->w.heap.size<=x)/\Ym t n k m w' L B σ ⟨σ,q,pn,0,δ⟩:=by
 refine(Nb X hm w).mono ?_
 rintro e w' ⟨bA,bS,bI,b,W,c,rfl,bw,h1,h2,h3,h4,hA,hI,rfl,g⟩
 have hge:∀ x,Bk.has ⟨bA,bS,bI,W.heap.size⟩ x->w.heap.size<=x:=by
  intro x hx
  have hx:x=bA\/x=bS\/x=bI\/x=W.heap.size:=hx
  omega
 refine⟨⟨bA,bS,bI,W.heap.size⟩,rfl,bw,hge,⟨?_,fun _=>⟨c,hI⟩,?_,hs.over,by show 0<=5;omega,Nat.le_refl _,fun x hx hh=>?_⟩⟩
 . rw[hs.ty] at hA;exact hA
 . exact(hs.at t k m σ q W).of_block (g.block _ (by rw[Go.Deep.nblk_alloc];omega))
 . have:=hge x hx
   have:=hM.lt _ hh
   omega
theorem JL {t n k m κ:Nat} {z:Int} {own:Bool} {σ:Nat} {q:Q} {α:Al} (h:∀ a,Wd (q.dw a)):∀ a,Wd ((ZN t n k m κ z own σ q α).1.dw a):=by
 have up:∀ (A:Nat) (v:Int),Wd v->∀ a,Wd (upd q.dw A v a):=fun A v hv a=>by
  unfold upd;split
  . exact hv
  . exact h a
 have pw:∀ (kd:Int) (x:Int) (G:Int),Wd (Zj kd z x G own):=fun kd x G=>⟨(VB _ _ _ _ _).1,Int.le_trans (VB _ _ _ _ _).2 (by decide)⟩
 cases α with
 | take τ=>simp only[ZN];unfold Y7;split <;> exact h
 | place x G τ=>simp only[ZN];unfold VA;split <;> exact h
 | head x G a i=>exact up _ _ (pw _ _ _)
 | ready x G a i st=>exact up _ _ (pw _ _ _)
 | give x G γ=>simp only[ZN];unfold U4;split <;> exact h
 | _=>exact h
theorem JK {t n k m:Nat} {cg:Int} {σ:Nat} {q:Q} {δ:Dw} (h:∀ a,Wd (q.dw a)):∀ a,Wd ((Zb t n k m cg σ q δ).1.dw a):=by
 cases δ with
 | al=>exact JL h
 | dp nu own x G α=>exact JJ (q':=(ZK t n k m cg own x G q α).1) h rfl
 | ac W own x G α=>exact JO (q':=(Y9 W own x G σ q α).1) h rfl
 | bad=>exact h
 | fin=>exact h
theorem JI {t n k m:Nat} {cg:Int} {who:Nat} {A:As} (h:∀ a,Wd (A.q.dw a)):∀ a,Wd ((Xx t n k m cg who A).q.dw a):=by
 obtain⟨σ,q,pn,ph,δ⟩:=A
 match ph with
 | 0=>exact h
 | 1=>exact h
 | 2=>exact h
 | 3=>exact JK h
 | 4=>exact h
 | _+5=>exact h
theorem JH {t n k m:Nat} {cg:Int} {who:Nat} {A:As}:(Xx t n k m cg who A).σ<=A.σ+1:=by
 obtain⟨σ,q,pn,ph,δ⟩:=A
 match ph with
 | 0=>exact Nat.le_refl _
 | 1=>exact Nat.le_refl _
 | 2=>exact Nat.le_refl _
 | 3 =>
  show σ+δ.cost<=σ+1
  cases δ <;> (simp only[Dw.cost];omega)
 | 4=>exact Nat.le_refl _
 | _+5=>exact Nat.le_succ _
inductive XO (t n k m:Nat) (cg:Int) (who:Nat):Nat->As->As->Prop where
 | one {A A':As} (h5:A.ph≠5) (hn:A.ph=3->A.δ.need t n k m cg A.q) (ht:Xx t n k m cg who A=A') (h:A'.ph=5):XO t n k m cg who 1 A A'
 | more {N:Nat} {A A1 A':As} (h5:A.ph≠5) (hn:A.ph=3->A.δ.need t n k m cg A.q) (ht:Xx t n k m cg who A=A1) (h:A1.ph≠5) (g:XO t n k m cg who N A1 A'):XO t n k m cg who (N+1) A A'
theorem XO.pos {t n k m:Nat} {cg:Int} {who N:Nat} {A A':As} (g:XO t n k m cg who N A A'):1<=N:=by
 cases g <;> omega
theorem Only.drop {L:Loc} {B:Bk} {w w':World} (h:Only (LB L B) w w') (hB:∀ x,B.has x->w.heap.size<=x):Only L.has w w' :=
 h.mono fun x hx hh=>hh.elim id (fun e=>absurd (hB x e) (by omega))
section
variable {w:World} {L:Loc} {t n k m σ:Nat} {s:Mm} {q:Q} {pn:Nat->Int}
end
end
section
def Jb.dw (h:Gh):Jb->Dw
 | .nil=>.fin 0 0 0
 | .al _ α=>.al 2 true 0 α
 | .dp j α=>.dp (h.H j) true (h.nd j).x (h.nd j).g α
 | .ac W j α=>.ac W true (h.nd j).x (h.nd j).g α
def xq (δ:Dw) (r:Rs):Prop:=(∃ W x g,δ=.ac W true x g (.over r.E r.V r.St))\/δ=.al 2 true 0 (.over r.E r.V r.St)\/∃ nu x g,δ=.dp nu true x g (.over 0)/\r.E=0
def LM (h:Gh) (b:Jb) (r:Option Rs) (ph:Nat) (δ:Dw):Prop:=(r=none/\ph<=3/\δ=b.dw h/\b≠.nil)\/∃ r',r=some r'/\4<=ph/\ph<=5/\xq δ r'
inductive SN (t n k m:Nat) (cg:Int) (h:Gh) (σ:Nat) (q:Q) (u:Hi) (F:List Nat) (K:Nat) (C:Cl) (r:Option Rs) (b:Jb):Gh->Q->Hi->List Nat->Cl->Option Rs->Jb->Bool->Prop where
 | pin:SN t n k m cg h σ q u F K C r b h q (u.tick σ) F C r b true
 | ac {W:Wt} {j:Nat} {α α':Ac} {h':Gh} {q':Q} {u':Hi} {F':List Nat} {C':Cl} {r':Option Rs} (hb:b=.ac W j α) (hr:r=none) (ht:Y9 W true (h.nd j).x (h.nd j).g σ q α=(q',α')) (G:Gm h h' σ u u' C C' W j α α' r' F F'):SN t n k m cg h σ q u F K C r b h' q' u' F' C' r' (if α'.ZR then .nil else .ac W j α') false
 | dp {j:Nat} {α α':Dp} {h':Gh} {q':Q} {r':Option Rs} (hb:b=.dp j α) (hr:r=none) (ht:ZK t n k m cg true (h.nd j).x (h.nd j).g q α=(q',α')) (c:YP h h' j) (h1:α'.ZR=false->r'=none) (h2:∀ E,α'=.over E->E=0/\r'=some ⟨0,0,σ+1⟩):SN t n k m cg h σ q u F K C r b h' q' (u.tick σ) F C r' (if α'.ZR then .nil else .dp j α') false
 | al {j j':Nat} {α α':Al} {h':Gh} {q':Q} {r':Option Rs} (hb:b=.al j α) (hr:r=none) (ht:ZN t n k m 0 2 true σ q α=(q',α')) (ev:QN h K j σ q α j' α' h') (h1:α'.ZR=false->r'=none) (h2:∀ E H st,α'=.over E H st->r'=some ⟨E,H,st⟩):SN t n k m cg h σ q u F K C r b h' q' (u.tick σ) F C r' (if α'.ZR then .nil else .al j' α') false
section
variable {t n k m σ K:Nat} {q:Q} {h:Gh} {jb:Nat->Jb} {hd:Nat} {F:List Nat} {u:Hi} {ts:Nat->Option (Cl × Option Rs)} {g p r:Int} {C:Cl} {rs:Option Rs} {w:World} {L:Loc} {s:Mm} {B:Bk} {σ0 ph:Nat} {pn:Nat->Int} {δ:Dw}
theorem Lc.pin (X:Lc t n k m q σ h jb hd F u ts) (hts:ts K=some (C,rs)):Lc t n k m q (σ+1) h (upd jb K (jb K)) hd F (u.tick σ) (upd ts K (some (C,rs))):=by
 rw[YD,<- hts,YD];exact X.tick
theorem Lc.Dh (X:Lc t n k m q σ h jb hd F u ts) (hm:Z7 w L s) (hV:XF t n k m s σ q pn) (hG:Good t n k m g p r) (hn:n<=65535) (hJ:h.J<=60000) (hcg:(h.J:Int)+2<=g) (hσ:σ<1000000) (hK4:K<4) (hKt:K<t) (hts:ts K=some (C,rs)) (hS:LM h (jb K) rs ph δ) (vK:ph≠5) (hA:Ym t n k m w L B σ0 ⟨σ,q,pn,ph,δ⟩) :
 Calls Tryz.prog 26 #[pP B.A 0,eV t n k m g p r L.p K] w fun e w'=>∃ (s':Mm) (h':Gh) (q':Q) (u':Hi) (F':List Nat) (C':Cl) (r':Option Rs) (b':Jb) (Yu:Nat->Int) (Qv:Nat) (δ':Dw),e=.returned (.bool (Qv == 5))/\Z7 w' L s'/\XF t n k m s' (σ+1) q' Yu/\Ym t n k m w' L B σ0 ⟨σ+1,q',Yu,Qv,δ'⟩/\Only (LB L B) w w'/\Lc t n k m q' (σ+1) h' (upd jb K b') hd F' u' (upd ts K (some (C',r')))/\LM h' b' r' Qv δ'/\δ'.c=δ.c/\SN t n k m g h σ q u F K C rs (jb K) h' q' u' F' C' r' b' (decide (ph≠3))/\((Yu=pn/\ph≠1/\ph≠4)\/(Yu=upd pn K 1/\ph=1)\/(Yu=upd pn K 0/\ph=4))/\(ph≠3->s'.la<6+t)/\(ph<=3->Qv<=4)/\(ph=4->Qv=5)/\(ph<3->Qv=ph+1)/\(ph=3->Qv=if r'=none then 3 else 4):=by
 have step:=fun(xm:ph=3->δ.need t n k m g q)=>QC (A:=⟨σ,q,pn,ph,δ⟩) hm hV hG hσ X.m.g.wd hA vK xm K hKt _ rfl
 rcases hS with⟨hr,h3,hδ,hb⟩ | ⟨r',hr,h4,h5,hE⟩
 . by_cases e3:ph=3
   . subst e3
     have hov:δ.ZR=false:=hA.ov
     cases hjb:jb K with
     | nil=>exact absurd hjb hb
     | ac W j α =>
      rw[hjb] at hδ
      subst hδ
      subst hr
      obtain⟨q',α',ht⟩:∃ q' α',Y9 W true (h.nd j).x (h.nd j).g σ q α=(q',α'):=⟨_,_,rfl⟩
      obtain⟨gd,h',F',u',C',r',X',G⟩:=X.ac hG hn hJ hK4 hts hjb ht
      have hd':Zb t n k m g σ q (Jb.dw h (.ac W j α))=(q',.ac W true (h.nd j).x (h.nd j).g α'):=by simp only[Jb.dw,Zb,ht]
      have hturn:Xx t n k m g K ⟨σ,q,pn,3,Jb.dw h (.ac W j α)⟩=⟨σ+1,q',pn,if α'.ZR then 4 else 3,.ac W true (h.nd j).x (h.nd j).g α'⟩:=by
       show As.mk (σ+1) (Zb t n k m g σ q (Jb.dw h (.ac W j α))).1 pn (if (Zb t n k m g σ q (Jb.dw h (.ac W j α))).2.ZR then 4 else 3) (Zb t n k m g σ q (Jb.dw h (.ac W j α))).2=_
       rw[hd'];rfl
      have JZ:=step (fun _=>gd)
      rw[hturn] at JZ
      refine JZ.mono ?_
      rintro e w' ⟨rfl,s',m',v',Ns,o',l'⟩
      have hS':LM h' (if α'.ZR then .nil else .ac W j α') r' (if α'.ZR then 4 else 3) (.ac W true (h.nd j).x (h.nd j).g α'):=by
       cases ho:α'.ZR with
       | false=>exact Or.inl ⟨(G.on ho).2.1,Nat.le_refl _,by show _=Dw.ac W true (h'.nd j).x (h'.nd j).g α';rw[G.nd],by simp⟩
       | true =>
        cases α' with
        | over E V st=>exact Or.inr ⟨_,(G.end_ E V st rfl).1,Nat.le_refl _,by decide,Or.inl ⟨_,_,_,rfl⟩⟩
        | _=>cases ho
      refine⟨s',h',q',u',F',C',r',_,pn,_,_,rfl,m',v',Ns,o',X',hS',rfl,.ac rfl rfl ht G,Or.inl ⟨rfl,by decide,by decide⟩,l',fun _=>by show (if _ then 4 else 3)<=4;split <;> decide,(fun e=>by cases e),(fun e=>by omega),fun _=>?_⟩
      cases ho:α'.ZR with
      | false=>rw[(G.on ho).2.1];rfl
      | true =>
       cases α' with
       | over E V st=>rw[(G.end_ E V st rfl).1];rfl
       | _=>cases ho
     | dp j α =>
      rw[hjb] at hδ
      subst hδ
      subst hr
      obtain⟨q',α',ht⟩:∃ q' α',ZK t n k m g true (h.nd j).x (h.nd j).g q α=(q',α'):=⟨_,_,rfl⟩
      obtain⟨gd,h',r',X',h1,h2,c⟩:=X.dp hG hn hJ hcg hV.tw.pile.lt hK4 hts hjb ht
      have hd':Zb t n k m g σ q (Jb.dw h (.dp j α))=(q',.dp (h.H j) true (h.nd j).x (h.nd j).g α'):=by simp only[Jb.dw,Zb,ht]
      have hturn:Xx t n k m g K ⟨σ,q,pn,3,Jb.dw h (.dp j α)⟩=⟨σ+1,q',pn,if α'.ZR then 4 else 3,.dp (h.H j) true (h.nd j).x (h.nd j).g α'⟩:=by
       show As.mk (σ+1) (Zb t n k m g σ q (Jb.dw h (.dp j α))).1 pn (if (Zb t n k m g σ q (Jb.dw h (.dp j α))).2.ZR then 4 else 3) (Zb t n k m g σ q (Jb.dw h (.dp j α))).2=_
       rw[hd'];rfl
      have JZ:=step (fun _=>⟨gd.1,by rw[ht];exact gd.2⟩)
      rw[hturn] at JZ
      refine JZ.mono ?_
      rintro e w' ⟨rfl,s',m',v',Ns,o',l'⟩
      have hS':LM h' (if α'.ZR then .nil else .dp j α') r' (if α'.ZR then 4 else 3) (.dp (h.H j) true (h.nd j).x (h.nd j).g α'):=by
       cases ho:α'.ZR with
       | false=>exact Or.inl ⟨h1 ho,Nat.le_refl _,by show _=Dw.dp (h'.H j) true (h'.nd j).x (h'.nd j).g α';unfold Gh.H;rw[c.nd],by simp⟩
       | true =>
        cases α' with
        | over E =>
         obtain⟨e1,e0⟩:=h2 E rfl
         subst e1
         exact Or.inr ⟨_,e0,Nat.le_refl _,by decide,Or.inr (Or.inr ⟨_,_,_,rfl,rfl⟩)⟩
        | _=>cases ho
      refine⟨s',h',q',_,F,C,r',_,pn,_,_,rfl,m',v',Ns,o',X',hS',rfl,.dp rfl rfl ht c h1 h2,Or.inl ⟨rfl,by decide,by decide⟩,l',fun _=>by show (if _ then 4 else 3)<=4;split <;> decide,(fun e=>by cases e),(fun e=>by omega),fun _=>?_⟩
      cases ho:α'.ZR with
      | false=>rw[h1 ho];rfl
      | true =>
       cases α' with
       | over E=>obtain⟨-,e0⟩:=h2 E rfl;rw[e0];rfl
       | _=>cases ho
     | al j α =>
      rw[hjb] at hδ
      subst hδ
      subst hr
      obtain⟨q',α',ht⟩:∃ q' α',ZN t n k m 0 2 true σ q α=(q',α'):=⟨_,_,rfl⟩
      have hd':Zb t n k m g σ q (Jb.dw h (.al j α))=(q',.al 2 true 0 α'):=by simp only[Jb.dw,Zb,ht]
      have hturn:Xx t n k m g K ⟨σ,q,pn,3,Jb.dw h (.al j α)⟩=⟨σ+1,q',pn,if α'.ZR then 4 else 3,.al 2 true 0 α'⟩:=by
       show As.mk (σ+1) (Zb t n k m g σ q (Jb.dw h (.al j α))).1 pn (if (Zb t n k m g σ q (Jb.dw h (.al j α))).2.ZR then 4 else 3) (Zb t n k m g σ q (Jb.dw h (.al j α))).2=_
       rw[hd'];rfl
      have JZ:=step (fun _=>trivial)
      rw[hturn] at JZ
      refine JZ.mono ?_
      rintro e w' ⟨rfl,s',m',v',Ns,o',l'⟩
      have hg':α'.good t n k m 0 (σ+1) q':=Ns.dw.2.2.2.1
      obtain⟨h',j',r',X',h1,h2,ev⟩:=X.al hJ hK4 hts hjb hov ht hg'
      have hS':LM h' (if α'.ZR then .nil else .al j' α') r' (if α'.ZR then 4 else 3) (.al 2 true 0 α'):=by
       cases ho:α'.ZR with
       | false=>exact Or.inl ⟨h1 ho,Nat.le_refl _,rfl,by simp⟩
       | true =>
        cases α' with
        | over E H st=>exact Or.inr ⟨_,h2 E H st rfl,Nat.le_refl _,by decide,Or.inr (Or.inl rfl)⟩
        | _=>cases ho
      refine⟨s',h',q',_,F,C,r',_,pn,_,_,rfl,m',v',Ns,o',X',hS',rfl,.al rfl rfl ht ev h1 h2,Or.inl ⟨rfl,by decide,by decide⟩,l',fun _=>by show (if _ then 4 else 3)<=4;split <;> decide,(fun e=>by cases e),(fun e=>by omega),fun _=>?_⟩
      cases ho:α'.ZR with
      | false=>rw[h1 ho];rfl
      | true =>
       cases α' with
       | over E H st=>rw[h2 E H st rfl];rfl
       | _=>cases ho
   . have JZ:=step (fun e=>absurd e e3)
     have:ph=0\/ph=1\/ph=2:=by omega
     rcases this with rfl | rfl | rfl
     . refine JZ.mono ?_
       rintro e w' ⟨rfl,s',m',v',Ns,o',l'⟩
       exact⟨s',h,q,_,F,C,rs,jb K,pn,1,δ,rfl,m',v',Ns,o',X.pin hts,Or.inl ⟨hr,by decide,hδ,hb⟩,rfl,.pin,Or.inl ⟨rfl,by decide,by decide⟩,l',fun _=>by decide,(fun e=>by cases e),fun _=>rfl,(fun e=>by cases e)⟩
     . refine JZ.mono ?_
       rintro e w' ⟨rfl,s',m',v',Ns,o',l'⟩
       exact⟨s',h,q,_,F,C,rs,jb K,upd pn K 1,2,δ,rfl,m',v',Ns,o',X.pin hts,Or.inl ⟨hr,by decide,hδ,hb⟩,rfl,.pin,Or.inr (Or.inl ⟨rfl,rfl⟩),l',fun _=>by decide,(fun e=>by cases e),fun _=>rfl,(fun e=>by cases e)⟩
     . refine JZ.mono ?_
       rintro e w' ⟨rfl,s',m',v',Ns,o',l'⟩
       exact⟨s',h,q,_,F,C,rs,jb K,pn,3,δ,rfl,m',v',Ns,o',X.pin hts,Or.inl ⟨hr,by decide,hδ,hb⟩,rfl,.pin,Or.inl ⟨rfl,by decide,by decide⟩,l',fun _=>by decide,(fun e=>by cases e),fun _=>rfl,(fun e=>by cases e)⟩
 . have h4':ph=4:=by omega
   subst h4'
   have JZ:=step (fun e=>by cases e)
   refine JZ.mono ?_
   rintro e w' ⟨rfl,s',m',v',Ns,o',l'⟩
   exact⟨s',h,q,_,F,C,rs,jb K,upd pn K 0,5,δ,rfl,m',v',Ns,o',X.pin hts,Or.inr ⟨r',hr,by decide,by decide,hE⟩,rfl,.pin,Or.inr (Or.inr ⟨rfl,rfl⟩),l',(fun e=>by omega),fun _=>rfl,(fun e=>by omega),(fun e=>by cases e)⟩
theorem zX (hm:Z7 w L s) {x:Xa} (hx:x.may=true) {b:Jb} (hs:YY n x (b.dw h)) (hb:b≠.nil) (pn:Nat->Int) :
 Calls Tryz.prog 38 #[x.v] w fun e w'=>∃ B:Bk,e=.returned (.tuple #[pP B.A 0,iV 0])/\Below w.heap.size w w'/\(∀ y,B.has y->w.heap.size<=y)/\Ym t n k m w' L B σ ⟨σ,q,pn,0,b.dw h⟩/\LM h b none 0 (b.dw h):=by
 refine(G6 hm hx hs t k m σ q pn).mono ?_
 rintro e w' ⟨B,h1,h2,h3,h4⟩
 exact⟨B,h1,h2,h3,h4,Or.inl ⟨rfl,by decide,rfl,hb⟩⟩
theorem IL {W:Wt} {j:Nat} {x:Xa} (h3:3<=x.kd) (h5:x.kd<=5) (hv:Fit x.vl) (ho:x.own=true) (hW:W=⟨x.kd - 2,x.nu,x.ix,x.vl,x.ol⟩) (hh:YZ x.nu (h.nd j).x (h.nd j).g) (hx:(h.nd j).x<n):YY n x (Jb.dw h (.ac W j .see)):=by
 have:=YY.ac (n:=n) h3 h5 hv hh hx
 rw[ho,<- hW] at this
 exact this
theorem TQ {j:Nat} {x:Xa} (hk:x.kd=2) (ho:x.own=true) (hnu:x.nu=h.H j) (hh:YZ x.nu (h.nd j).x (h.nd j).g) (hx:(h.nd j).x<n):YY n x (Jb.dw h (.dp j .see)):=by
 have:=YY.dp (n:=n) hk hh hx
 rw[ho,hnu] at this
 exact this
theorem IK {j:Nat} {x:Xa} (hk:x.kd=1) (ho:x.own=true) (hz:x.sz=2):YY n x (Jb.dw h (.al j (.take .idle))):=by
 have:=YY.al (n:=n) (X:=x) 0 hk (by rw[hz];exact⟨by decide,by decide⟩) (by rw[hz];rfl) (by decide)
 rw[ho,hz] at this
 exact this
theorem FY {b:Jb} {r':Rs} (hA:Ym t n k m w L B σ0 ⟨σ,q,pn,5,δ⟩) (hS:LM h b (some r') 5 δ) :
 ∃ H V St,((∃ W x g,δ=.ac W true x g (.over r'.E r'.V r'.St))/\H=0/\V=r'.V/\St=(r'.St:Int)\/δ=.al 2 true 0 (.over r'.E r'.V r'.St)/\H=r'.V/\V=0/\St=(r'.St:Int)\/(∃ nu x g,δ=.dp nu true x g (.over 0))/\H=0/\V=0)/\∀ w1,Below w.heap.size w w1->Calls Tryz.prog 27 #[pP B.A 0] w1 fun e w'=>e=.returned (.agg #[iV r'.E,.int .u64 H,iV V,iV St])/\Below w1.heap.size w1 w':=by
 obtain⟨E1,H1,V1,S1,td,hc⟩:=OO hA rfl
 rcases hS with⟨e,-⟩ | ⟨r0,e,-,-,hE⟩
 . cases e
 . injection e with e
   subst e
   rcases hE with⟨W,x,g,e⟩ | e | ⟨nu,x,g,e,e0⟩
   . subst e
     obtain⟨e1,e2,e3,e4⟩:=td
     rw[e1] at hc
     exact⟨H1,V1,S1,Or.inl ⟨⟨W,x,g,rfl⟩,e2,e3,e4⟩,hc⟩
   . subst e
     obtain⟨e1,e2,e3,e4⟩:=td
     rw[e1] at hc
     exact⟨H1,V1,S1,Or.inr (Or.inl ⟨rfl,e2,e3,e4⟩),hc⟩
   . subst e
     obtain⟨e1,e2,e3,-⟩:=td
     rw[e1] at hc
     rw[e0]
     exact⟨H1,V1,S1,Or.inr (Or.inr ⟨⟨nu,x,g,rfl⟩,e2,e3⟩),hc⟩
end
end
section
def TJ:Jb->Option Pl
 | .al _ (.place _ _ τ)=>some τ
 | _=>none
def Jb.gives:Jb->Bool
 | .al _ (.give _ _ _)=>true
 | _=>false
theorem C9 {jb:Nat->Jb} {K:Nat} {b:Jb}:(fun K'=>TJ (upd jb K b K'))=upd (fun K'=>TJ (jb K')) K (TJ b):=by
 funext K'
 by_cases e:K'=K
 . rw[e,upd_same,upd_same]
 . rw[Z8 _ _ _ _ e,Z8 _ _ _ _ e]
theorem Rm.start {N k m J Fl K:Nat} {y:Y} {pl:Nat->Option Pl} {tk:Nat->Bool} {O:List Nat} (R:Rm N k m y pl J tk O Fl) (hK:K<N) (hp:pl K=none):Rm N k m y (upd pl K (some .see)) J tk O Fl:=by
 refine⟨R.op,R.o1,R.EJ,R.full,R.fr,R.zu,R.us,?_,?_,fun K' τ1 e=>?_,R.o0,fun K1 K2 τ1 τ2 i hne e1 e2 m1=>?_⟩
 . have h1:=YO (f:=fun K=>XT (pl K)) (g:=fun K'=>XT (upd pl K (some .see) K')) hK (fun i _ hi=>by rw[Z8 _ _ _ _ hi])
   simp only[upd_same,hp] at h1
   have h2:=R.cnt
   have h3:XT (some Pl.see)=0:=rfl
   have h4:XT none=0:=rfl
   omega
 . have h1:=YO (f:=fun K=>YQ (y.op 0) (pl K)) (g:=fun K'=>YQ (y.op 0) (upd pl K (some .see) K')) hK (fun i _ hi=>by rw[Z8 _ _ _ _ hi])
   simp only[upd_same,hp] at h1
   have h2:=R.uG
   have h3:YQ (y.op 0) (some Pl.see)=0:=rfl
   have h4:YQ (y.op 0) none=0:=rfl
   omega
 . by_cases e':K'=K
   . rw[e',upd_same] at e;injection e with e;subst e;trivial
   . rw[Z8 _ _ _ _ e'] at e;exact R.th K' τ1 e
 . by_cases c1:K1=K
   . rw[c1,upd_same] at e1;injection e1 with e1;subst e1;exact m1.elim
   . rw[Z8 _ _ _ _ c1] at e1
     by_cases c2:K2=K
     . rw[c2,upd_same] at e2;injection e2 with e2;subst e2;exact fun m2=>m2.elim
     . rw[Z8 _ _ _ _ c2] at e2;exact R.sep K1 K2 τ1 τ2 i hne e1 e2 m1
section
variable {N t n k σ K:Nat} {q q':Q} {h h':Gh} {jb:Nat->Jb} {tk:Nat->Bool} {O:List Nat} {Fl:Nat} {u u':Hi} {F F':List Nat} {C C':Cl} {r r':Option Rs} {b':Jb}
theorem Rm.go1 (R:Rm N k 40 q.y (fun K=>TJ (jb K)) h.J tk O Fl) (M:WA t n k 40 q σ h jb) (hK:K<N) (hJ:∃ i,i<k/\tk i=false) (ng:(jb K).gives=false) {j j':Nat} {α α':Al} (hjb:jb K=.al j α) (ht:ZN t n k 40 0 2 true σ q α=(q',α')) (ev:QN h K j σ q α j' α' h') :
 (∃ Rl O' Fl',Rm N k 40 q'.y (fun K'=>TJ (upd jb K (if α'.ZR then .nil else .al j' α') K')) h'.J Rl O' Fl'/\((∀ x g sn i c,α≠.place x g (.Wh sn i c))->Fl'=Fl))/\Jb.gives (if α'.ZR then .nil else .al j' α')=false/\∀ E H st,α'=.over E H st->E≠6:=by
 have O':=M.jk K
 rw[hjb] at O' ng
 obtain⟨gd,A⟩:=O'
 rw[C9]
 -- where no chunk changes
 have calm:q'.y=q.y->TJ (if α'.ZR then .nil else .al j' α')=TJ (jb K)->h'.J=h.J->∃ Rl O' Fl',Rm N k 40 q'.y (upd (fun K'=>TJ (jb K')) K (TJ (if α'.ZR then .nil else .al j' α'))) h'.J Rl O' Fl'/\((∀ x g sn i c,α≠.place x g (.Wh sn i c))->Fl'=Fl):=fun e1 e2 e3=>by
  refine⟨tk,O,Fl,?_,fun _=>rfl⟩
  rw[e1,e2,e3]
  have:upd (fun K'=>TJ (jb K')) K (TJ (jb K))=fun K'=>TJ (jb K'):=YD (fun K'=>TJ (jb K')) K
  rw[this];exact R
 have FK:(α'.late=true->α.late=true)->h'.J=h.J:=fun hl=>by
  cases ev with
  | on c _ _ _=>exact c.J
  | YF=>cases hl rfl
  | made _ _ _ _ _ c=>exact c.J
  | none _=>rfl
  | full c _=>exact c.J
 cases α with
 | over E H st=>exact A.elim
 | give x g γ=>cases ng
 | take τ =>
  cases τ with
  | YF x=>cases gd.2
  | none=>cases gd.2
  | idle =>
   cases hF:q.F with
   | nil =>
    simp only[ZN,Zn,hF,Y7,Prod.mk.injEq] at ht
    obtain⟨rfl,rfl⟩:=ht
    exact⟨calm rfl (by rw[hjb];rfl) (FK (fun e=>by cases e)),rfl,fun E H st e=>by rw[<- (Al.over.inj e).1];decide⟩
   | cons x F0 =>
    simp only[ZN,Zn,hF,Y7,Prod.mk.injEq] at ht
    obtain⟨rfl,rfl⟩:=ht
    exact⟨calm rfl (by rw[hjb];rfl) (FK (fun e=>by cases e)),rfl,(fun E H st e=>by cases e)⟩
  | XL x c0 =>
   simp only[ZN,Zn,Y7,Prod.mk.injEq] at ht
   obtain⟨rfl,rfl⟩:=ht
   exact⟨calm rfl (by rw[hjb];rfl) (FK (fun e=>by cases e)),rfl,(fun E H st e=>by cases e)⟩
  | XP x c0 q0 =>
   simp only[ZN,Zn] at ht
   split at ht
   . simp only[Y7,Prod.mk.injEq] at ht
     obtain⟨rfl,rfl⟩:=ht
     exact⟨calm rfl (by rw[hjb];rfl) (FK (fun e=>by cases e)),rfl,(fun E H st e=>by cases e)⟩
   . simp only[Y7,Prod.mk.injEq] at ht
     obtain⟨rfl,rfl⟩:=ht
     exact⟨calm rfl (by rw[hjb];rfl) (FK (fun e=>by cases e)),rfl,(fun E H st e=>by cases e)⟩
 | ask x =>
  simp only[ZN,Prod.mk.injEq] at ht
  obtain⟨rfl,rfl⟩:=ht
  refine⟨⟨tk,O,Fl,?_,fun _=>rfl⟩,rfl,(fun E H st e=>by cases e)⟩
  rw[FK (fun e=>by cases e)]
  exact R.start hK (by rw[hjb];rfl)
 | place x g τ =>
  obtain⟨y',τ',e⟩:∃ y' τ',turn k 40 0 (base t n k 40) q.y τ=(y',τ'):=⟨_,_,rfl⟩
  obtain⟨s1,s2,s3⟩:=R.step hK (show TJ (jb K)=some τ by rw[hjb];rfl) gd.2.2.2.2 e
  simp only[ZN,e] at ht
  rcases SY τ' with hf | ⟨a,i,rfl⟩ | rfl
  . rw[Xt hf] at ht
    obtain⟨rfl,rfl⟩:=Prod.mk.inj ht
    obtain⟨Rl,O',Fl',R',uF⟩:=s3 hf
    refine⟨⟨Rl,O',Fl',?_,fun hne=>uF (fun sn l c e=>hne _ _ sn l c (by rw[e]))⟩,rfl,(fun E H st e=>by cases e)⟩
    rw[FK (fun e=>by cases e)]
    exact R'
  . have ht':({ q with y:=y' },Al.count x g a i)=(q',α'):=ht
    obtain⟨rfl,rfl⟩:=Prod.mk.inj ht'
    refine⟨⟨tk,O,Fl,?_,fun _=>rfl⟩,rfl,(fun E H st e=>by cases e)⟩
    have hJ':h'.J=h.J+1:=by
     cases ev with
     | on c _ _ hl=>cases hl rfl
     | YF=>rfl
    rw[hJ']
    exact s2 a i rfl
  . exfalso
    obtain⟨i,hi,hf⟩:=hJ
    rw[s1 rfl i hi] at hf;cases hf
 | count x g a i =>
  simp only[ZN,Prod.mk.injEq] at ht
  obtain⟨rfl,rfl⟩:=ht
  exact⟨calm rfl (by rw[hjb];rfl) (FK (fun _=>rfl)),rfl,(fun E H st e=>by cases e)⟩
 | head x g a i =>
  simp only[ZN,Prod.mk.injEq] at ht
  obtain⟨rfl,rfl⟩:=ht
  exact⟨calm rfl (by rw[hjb];rfl) (FK (fun _=>rfl)),rfl,(fun E H st e=>by cases e)⟩
 | shw x g a i =>
  simp only[ZN,Prod.mk.injEq] at ht
  obtain⟨rfl,rfl⟩:=ht
  exact⟨calm rfl (by rw[hjb];rfl) (FK (fun _=>rfl)),rfl,(fun E H st e=>by cases e)⟩
 | ready x g a i st =>
  simp only[ZN,Prod.mk.injEq] at ht
  obtain⟨rfl,rfl⟩:=ht
  exact⟨calm rfl (by rw[hjb];rfl) (FK (fun e=>by cases e)),rfl,fun E H st e=>by rw[<- (Al.over.inj e).1];decide⟩
end
end
section
section
variable {t n k m σ0 σ K:Nat} {q q':Q} {h h':Gh} {jb:Nat->Jb} {hd:Nat} {F F':List Nat} {u u':Hi} {ts:Nat->Option (Cl × Option Rs)} {C C':Cl} {r r':Option Rs} {b':Jb} {pb:Bool} {g:Int}
theorem SN.hist (G:SN t n k m g h σ q u F K C r (jb K) h' q' u' F' C' r' b' pb):(∀ s,s<=σ->u'.S s=u.S s)/\∀ s,s<=σ->u'.ev s=u.ev s:=by
 cases G with
 | pin=>exact⟨fun s hs=>YC u hs,fun _ _=>rfl⟩
 | dp=>exact⟨fun s hs=>YC u hs,fun _ _=>rfl⟩
 | al=>exact⟨fun s hs=>YC u hs,fun _ _=>rfl⟩
 | ac hb hr ht G =>
  refine⟨G.S,fun s hs=>?_⟩
  rcases G.ev with⟨e,-⟩ | ⟨b,V,e,-⟩
  . rw[e]
  . rw[e];exact Uz u hs
theorem Rz (C:Cl) (x:Rs):(C.after x).po=C.po/\(C.after x).k=C.k/\(C.after x).kd=C.kd/\(C.after x).b=C.b:=by
 unfold Cl.after
 split
 . split <;> exact⟨rfl,rfl,rfl,rfl⟩
 . exact⟨rfl,rfl,rfl,rfl⟩
theorem SN.same (G:SN t n k m g h σ q u F K C r (jb K) h' q' u' F' C' r' b' pb):C'.po=C.po/\C'.k=C.k/\C'.kd=C.kd/\C'.b=C.b:=by
 cases G with
 | pin=>exact⟨rfl,rfl,rfl,rfl⟩
 | dp=>exact⟨rfl,rfl,rfl,rfl⟩
 | al=>exact⟨rfl,rfl,rfl,rfl⟩
 | @ac W j α α' h' q' u' F' C' r' hb hr ht G =>
  cases ho:α'.ZR with
  | false=>rw[(G.on ho).1];exact⟨rfl,rfl,rfl,rfl⟩
  | true =>
   cases α' with
   | over E V st=>rw[(G.end_ E V st rfl).2];exact Rz C _
   | _=>cases ho
theorem Lc.claims (X:Lc t n k m q σ h jb hd F u ts) (X':Lc t n k m q' (σ+1) h' (upd jb K b') hd F' u' (upd ts K (some (C',r')))) (hts:ts K=some (C,r)) (G:SN t n k m g h σ q u F K C r (jb K) h' q' u' F' C' r' b' pb):(claim C' r'=claim C r/\(∀ s,u'.ev s=u.ev s)/\u'.S (σ+1)=u.S σ)\/(claim C r=none/\claim C' r'=some (σ+1)/\∃ b,u'=u.turn σ C.k b/\(b=true/\C.kd=2\/b=false/\C.kd=3)):=by
 have sm:=G.same
 have T:=X.t K C r hts
 have T':=X'.t K C' r' (upd_same _ _ _)
 cases G with
 | pin=>exact Or.inl ⟨rfl,fun _=>rfl,YM u σ⟩
 | @dp j α α' _ _ r' hb hr ht c h1 h2 =>
  subst hr
  refine Or.inl ⟨?_,fun _=>rfl,YM u σ⟩
  have ji:=(T.run rfl).2.1
  rw[hb] at ji
  unfold claim
  revert ji
  cases C.po with
  | put=>intro ji;obtain⟨W,β,e,-⟩:=ji;cases e
  | mark=>intro ji;obtain⟨W,β,e,-⟩:=ji;cases e
  | _=>intro _;rfl
 | @al j j' α α' _ _ r' hb hr ht ev h1 h2 =>
  subst hr
  refine Or.inl ⟨?_,fun _=>rfl,YM u σ⟩
  have ji:=(T.run rfl).2.1
  rw[hb] at ji
  unfold claim
  revert ji
  cases C.po with
  | put=>intro ji;obtain⟨W,β,e,-⟩:=ji;cases e
  | mark=>intro ji;obtain⟨W,β,e,-⟩:=ji;cases e
  | _=>intro _;rfl
 | @ac W j α α' _ _ _ _ _ _ hb hr ht G =>
  subst hr
  have ji:=(T.run rfl).2.1
  have O:=X.m.jk K
  rw[hb] at ji O
  obtain⟨hj,WK,AK⟩:=O
  rcases G.ev with⟨e1,e2⟩ | ⟨b,V,e1,e2,e3⟩
  . refine Or.inl ⟨?_,fun s=>by rw[e1],e2⟩
    cases ho:α'.ZR with
    | false=>rw[(G.on ho).1,(G.on ho).2.1]
    | true =>
     cases α' with
     | over E V st =>
      rw[(G.end_ E V st rfl).1]
      -- where it changed a link ahead,that would have been told
      have nE:W.kd=3->(∀ h1,Td h W j σ α (.over E V st) h1->E=0->st=σ+1):=fun k3 h1 ev hE=>by
       cases ev with
       | told v c ld h4 =>
        rw[TR k3 AK.2.2] at hE;cases hE
       | gone=>cases hE
       | laid=>rfl
      obtain⟨h1,ev,-,-⟩:=G.e
      have rk:=(T'.told _ (G.end_ E V st rfl).1).2
      have no:∀ kb,u'.ev (σ+1)≠some kb:=fun kb e=>by rw[e1,X.l.ev (σ+1) (by omega)] at e;cases e
      have kd:=T.kd
      have rt:Right (σ+1) u' C'.kd C'.k C'.b 1 st->C.kd≠1->st=σ+1->False:=fun R hk hs=>by
       rw[hs] at R
       rcases R.2.2 with⟨-,x | x | x⟩ | ⟨x,-⟩
       . rw[sm.2.2.1] at x;exact hk x.1
       . exact no _ x.2
       . exact no _ x.2
       . exact absurd x (by decide)
      rw[sm.1] at rk
      unfold claim
      rw[sm.1]
      revert ji rk kd
      cases C.po with
      | put =>
       intro ji rk kd
       obtain⟨W',β,e,k1,-⟩:=ji
       cases e
       show (if E=0 then some st else none)=none
       rw[if_neg (fun hE=>rt (rk hE) (by rw[kd (by simp[Po.kd])];simp[Po.kd]) (nE k1 h1 ev hE))]
      | mark =>
       intro ji rk kd
       obtain⟨W',β,e,k1,-⟩:=ji
       cases e
       show (if E=0 then some st else none)=none
       rw[if_neg (fun hE=>rt (rk hE).2.2.2 (by rw[kd (by simp[Po.kd])];simp[Po.kd]) (nE k1 h1 ev hE))]
      | _=>intro _ _ _;rfl
     | _=>cases ho
  . refine Or.inr ⟨?_,?_,b,e1,?_⟩
    . unfold claim
      rcases e3 with⟨⟨p,s,nx,d,hpo⟩,-⟩ | ⟨⟨p,s,c,nx,s2,hpo⟩,-⟩ <;> rw[hpo]
    . rw[(G.end_ 0 V (σ+1) e2).1]
      unfold claim
      rw[sm.1]
      rcases e3 with⟨⟨p,s,nx,d,hpo⟩,-⟩ | ⟨⟨p,s,c,nx,s2,hpo⟩,-⟩ <;> (rw[hpo];rfl)
    . have kd:=T.kd
      rcases e3 with⟨⟨p,s,nx,d,hpo⟩,hb'⟩ | ⟨⟨p,s,c,nx,s2,hpo⟩,hb'⟩
      . rw[hpo] at kd;exact Or.inl ⟨hb',kd (by simp[Po.kd])⟩
      . rw[hpo] at kd;exact Or.inr ⟨hb',kd (by simp[Po.kd])⟩
theorem MC.F6 {b:Jb} {st:Nat} (T:MC h hd σ u K C r b) (e:claim C r=some st):st<=σ:=by
 unfold claim at e
 cases r with
 | none =>
  have k:=(T.run rfl).1
  revert e k
  cases C.po with
  | lead p c nx st0=>intro e k;injection e with e;rw[<- e];exact k.2.2.2.2.1
  | Zo c st0=>intro e k;injection e with e;rw[<- e];exact k.2.2.2.2.1
  | _=>intro e;cases e
 | some r0 =>
  have k:=(T.told r0 rfl).2
  revert e k
  cases C.po with
  | lead p c nx st0=>intro e k;injection e with e;rw[<- e];exact k.1.2.1
  | Zo c st0=>intro e k;injection e with e;rw[<- e];exact k.2.1
  | put p s nx d =>
   intro e k
   have e':(if r0.E=0 then some r0.St else none)=some st:=e
   by_cases hE:r0.E=0
   . rw[if_pos hE] at e';injection e' with e';rw[<- e'];exact(k hE).2.1
   . rw[if_neg hE] at e';cases e'
  | mark p s c nx s2 =>
   intro e k
   have e':(if r0.E=0 then some r0.St else none)=some st:=e
   by_cases hE:r0.E=0
   . rw[if_pos hE] at e';injection e' with e';rw[<- e'];exact(k hE).2.2.2.2.1
   . rw[if_neg hE] at e';cases e'
  | _=>intro e;cases e
theorem Sem.go {S0:Int->Prop} (A:Sem S0 σ u C r) (X:Lc t n k m q σ h jb hd F u ts) (X':Lc t n k m q' (σ+1) h' (upd jb K b') hd F' u' (upd ts K (some (C',r')))) (hts:ts K=some (C,r)) (G:SN t n k m g h σ q u F K C r (jb K) h' q' u' F' C' r' b' pb):Sem S0 (σ+1) u' C' r':=by
 have T:=X.t K C r hts
 have sm:=G.same
 have hS:=G.hist.1
 rcases X.claims X' hts G with⟨e1,e2,e3⟩ | ⟨e1,e2,b,e3,e4⟩
 . exact A.tick T.bb (fun st e=>T.F6 e) sm.2.2.2 sm.2.1 sm.2.2.1 e1 hS e3
 . refine A.event T.bb e1 sm.2.2.2 sm.2.1 sm.2.2.1 e2 hS (fun key hk=>?_)
   rw[e3,Uy]
   by_cases ek:key=C.k
   . rw[if_pos ek]
     rcases e4 with⟨hb,hk'⟩ | ⟨hb,hk'⟩
     . exact⟨fun _=>hk',fun _=>Or.inr ⟨ek,hb⟩⟩
     . constructor
       . rintro(⟨x,-⟩ | ⟨-,x⟩)
         . exact absurd ek x
         . rw[hb] at x;cases x
       . intro x;rw[hk'] at x;exact absurd x (by decide)
   . rw[if_neg ek]
     constructor
     . rintro(⟨-,x⟩ | ⟨x,-⟩)
       . exact x
       . exact absurd x ek
     . exact fun x=>Or.inl ⟨ek,x⟩
end
end
section
structure wF (k m:Nat) (q:Q) (h:Gh) (hd:Nat) (C:Cl) (r:Option Rs) (b:Jb):Prop where
 run:r=none->O7 h C.po/\Me k m q h b
 told:∀ r',r=some r'->xN h hd C.po r'
def rem (k m:Nat) (q:Q) (ph:Nat) (b:Jb):Nat:=(3 - ph)+(if ph<=3 then Yz k m q b else 0)+(if ph<=4 then 1 else 0)
def EL (k m T:Nat) (q:Q) (F:List Nat) (C:Cl) (r:Option Rs) (ph:Nat) (b:Jb):Nat :=
 match r with
 | none=>WS T F C.po+rem k m q ph b
 | some _=>MB T F C.po+rem k m q ph b
section
variable {t n k m σ K T:Nat} {q q':Q} {h h':Gh} {jb:Nat->Jb} {hd:Nat} {F F':List Nat} {u u':Hi} {ts:Nat->Option (Cl × Option Rs)} {C C':Cl} {r r':Option Rs} {b':Jb} {ph Qv:Nat} {g p c:Int}
theorem wF.go (A:wF k m q h hd C r (jb K)) (X:Lc t n k m q σ h jb hd F u ts) (hG:Good t n k m g p c) (hn:n<=65535) (hJ:h.J<=60000) (hcg:(h.J:Int)+2<=g) (hT:110<=T) (hm:3<=m) (hf:∃ l,l<k/\(q.y.ck l).st=0) (hts:ts K=some (C,r)) (hr:r=none↔ph<=3) (h5:ph≠5) (h4:ph<=5)
 (G:SN t n k m g h σ q u F K C r (jb K) h' q' u' F' C' r' b' (decide (ph≠3))) (p3:ph<3->Qv=ph+1) (p4:ph=3->Qv=if r'=none then 3 else 4) (p5:ph=4->Qv=5) :
 wF k m q' h' hd C' r' b'/\EL k m T q' F' C' r' Qv b'+1<=EL k m T q F C r ph (jb K):=by
 have sm:=G.same
 have Tk:=X.t K C r hts
 generalize hpb:decide (ph≠3)=pb at G
 cases G with
 | pin =>
  have hne:ph≠3:=of_decide_eq_true hpb
  refine⟨A,?_⟩
  have key:rem k m q Qv (jb K)+1<=rem k m q ph (jb K):=by
   by_cases hp:ph<3
   . rw[p3 hp]
     unfold rem
     rw[if_pos (by omega),if_pos (by omega),if_pos (by omega),if_pos (by omega)]
     omega
   . rw[p5 (by omega),show ph=4 by omega]
     show 0+0+0+1<=0+0+1
     omega
  cases r with
  | none=>show WS T F C.po+_+1<=WS T F C.po+_;omega
  | some r0=>show MB T F C.po+_+1<=MB T F C.po+_;omega
 | @ac W j α α' _ _ _ _ _ _ hb hr0 ht G =>
  have h3:ph=3:=by
   refine Classical.byContradiction fun hne=>?_
   rw[decide_eq_true hne] at hpb;cases hpb
  subst hr0
  obtain⟨x1,x2⟩:=A.run rfl
  rw[hb] at x2
  obtain⟨a1,a2,a3⟩:=X.Dv (q':=q') hts hb G hT x1 x2
  rw[hb,h3]
  cases ho:α'.ZR with
  | false =>
   obtain⟨b1,b2,b3,b4⟩:=a1 ho
   obtain⟨c1,c2,-⟩:=G.on ho
   subst c1 c2 b4
   refine⟨⟨fun _=>⟨b1,b2⟩,fun r0 e=>by cases e⟩,?_⟩
   rw[p4 h3]
   show WS T F' C'.po+(0+Yz k m q' (.ac W j α')+1)+1<=WS T F' C'.po+(0+Yz k m q (.ac W j α)+1)
   omega
  | true =>
   cases α' with
   | over E V st =>
    obtain⟨b1,b2⟩:=a2 E V st rfl
    obtain⟨c1,c2⟩:=G.end_ E V st rfl
    subst c1
    have e1:xN h' hd C'.po ⟨E,V,st⟩:=by rw[sm.1];exact b1
    refine⟨⟨(fun e=>by cases e),fun r0 e=>by injection e with e;subst e;exact e1⟩,?_⟩
    rw[p4 h3]
    show MB T F' C'.po+(0+0+1)+1<=WS T F C.po+(0+Yz k m q (.ac W j α)+1)
    rw[sm.1]
    omega
   | _=>cases ho
 | @dp j α α' _ _ r' hb hr0 ht cM h1 h2 =>
  have h3:ph=3:=by
   refine Classical.byContradiction fun hne=>?_
   rw[decide_eq_true hne] at hpb;cases hpb
  subst hr0
  obtain⟨x1,x2⟩:=A.run rfl
  rw[hb] at x2
  obtain⟨a1,a2⟩:=X.m.FD hG hn hJ hcg hb x2 ht h'
  have ji:=(Tk.run rfl).2.1
  rw[hb] at ji
  have ex:=fun r0:Rs=>O7.dp (T:=T) (F:=F) (C:=C) (r:=r0) cM x1 ji
  rw[hb,h3]
  cases ho:α'.ZR with
  | false =>
   obtain⟨b1,b2⟩:=a1 ho
   have c2:=h1 ho
   subst c2
   refine⟨⟨fun _=>⟨(ex ⟨0,0,0⟩).1,b1⟩,fun r0 e=>by cases e⟩,?_⟩
   rw[p4 h3]
   show WS T F C.po+(0+Yz k m q' (.dp j α')+1)+1<=WS T F C.po+(0+Yz k m q (.dp j α)+1)
   omega
  | true =>
   cases α' with
   | over E =>
    obtain⟨-,c2⟩:=h2 E rfl
    subst c2
    refine⟨⟨(fun e=>by cases e),fun r0 _=>(ex r0).2.1⟩,?_⟩
    rw[p4 h3]
    show MB T F C.po+(0+0+1)+1<=WS T F C.po+(0+Yz k m q (.dp j α)+1)
    rw[(ex ⟨0,0,0⟩).2.2]
    omega
   | _=>cases ho
 | @al j j' α α' _ _ r' hb hr0 ht ev h1 h2 =>
  have h3:ph=3:=by
   refine Classical.byContradiction fun hne=>?_
   rw[decide_eq_true hne] at hpb;cases hpb
  subst hr0
  obtain⟨x1,x2⟩:=A.run rfl
  rw[hb] at x2
  have ov:α.ZR=false:=by
   have O:=X.m.jk K
   rw[hb] at O
   cases α with
   | over=>exact O.2.elim
   | _=>rfl
  obtain⟨a1,a2,a3⟩:=X.m.NR hm hf hb ov x2 ht h' j'
  have ji:=(Tk.run rfl).2.1
  have kn:=(Tk.run rfl).1
  rw[hb] at ji
  obtain⟨pa,s0,nx,hpo⟩:∃ a s nx,C.po=.make a s nx:=by
   revert ji
   cases C.po with
   | make a s nx=>exact fun _=>⟨a,s,nx,rfl⟩
   | drop=>intro i;obtain⟨β,e⟩:=i;cases e
   | Zo=>intro i;obtain⟨β,e⟩:=i;cases e
   | Zk=>intro i;obtain⟨β,e⟩:=i;cases e
   | first=>intro i;obtain⟨W,β,e,-⟩:=i;cases e
   | link=>intro i;obtain⟨W,β,e,-⟩:=i;cases e
   | past=>intro i;obtain⟨W,β,e,-⟩:=i;cases e
   | key=>intro i;obtain⟨W,β,e,-⟩:=i;cases e
   | wkey=>intro i;obtain⟨W,β,e,-⟩:=i;cases e
   | YL=>intro i;obtain⟨W,β,e,-⟩:=i;cases e
   | put=>intro i;obtain⟨W,β,e,-⟩:=i;cases e
   | mark=>intro i;obtain⟨W,β,e,-⟩:=i;cases e
   | lead=>intro i;obtain⟨W,β,e,-⟩:=i;cases e
   | over=>intro i;exact i.elim
  rw[hpo] at x1 kn
  have xl:=O7.al (X.l.pJ pa kn.1.pp) x1 ev
  rw[hb,h3]
  cases ho:α'.ZR with
  | false =>
   obtain⟨b1,b2⟩:=a1 ho
   have c2:=h1 ho
   subst c2
   refine⟨⟨fun _=>⟨by rw[hpo];exact xl,b1⟩,fun r0 e=>by cases e⟩,?_⟩
   rw[p4 h3]
   show WS T F C.po+(0+Yz k m q' (.al j' α')+1)+1<=WS T F C.po+(0+Yz k m q (.al j α)+1)
   omega
  | true =>
   cases α' with
   | over E H st =>
    have c2:=h2 E H st rfl
    subst c2
    refine⟨⟨(fun e=>by cases e),fun r0 e=>?_⟩,?_⟩
    . injection e with e
      subst e
      rw[hpo]
      exact⟨(a3 E H st rfl).imp id (fun x=>x.1),xl⟩
    . rw[p4 h3]
      show MB T F C.po+(0+0+1)+1<=WS T F C.po+(0+Yz k m q (.al j α)+1)
      rw[hpo]
      show 70+(0+0+1)+1<=70+(0+Yz k m q (.al j α)+1)
      omega
   | _=>cases ho
end
end
end Go.Proofs.YtibmjlefcaonnaaGreat
