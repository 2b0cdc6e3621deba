import Derived.Test.YtgehjolndmgffaaGreatStruct
import Derived.Test.YtgehjolndmgffaaGreatAccAt
namespace Go.Proofs.YtgehjolndmgffaaGreat
open Go.RowKit
section
set_option maxRecDepth 20000
theorem Wx (L:Loc) (c0 c1 c2 c3 c4 c5 c6 who:Int) (h0:0<=who) (h1:who<c0) (w:World) :
 Calls Tryz.prog 125 #[eV c0 c1 c2 c3 c4 c5 c6 L.p who] w fun e w'=>e=.returned (.bool true)/\Below w.heap.size w w':=by
 go_enter Tryz.func125,Tryz.ntmps125
 go_wp2
 go_ret
 exact⟨rfl,Z7 (Below.refl _ _) _⟩
structure YZ (w:World) (b o:Nat) (T:TypeId) (c:Array Value) (nx ep:Int):Prop where
 obj:w.heap[b]?=some (.cells c T (0,0))
 h0:c[o]?=some (iV nx)
 h1:c[o+1]?=some (.int .u64 ep)
def XJ (o:Nat) (c c':Array Value):Prop:=c'.size=c.size/\∀ i,i≠o->i≠o+1->c'[i]?=c[i]?
section
variable {w w':World} {b o:Nat} {T:TypeId} {c:Array Value} {nx ep:Int}
theorem XJ.trans {c' c'':Array Value} (h:XJ o c c') (k:XJ o c' c''):XJ o c c'':=⟨k.1.trans h.1,fun i h1 h2=>(k.2 i h1 h2).trans (h.2 i h1 h2)⟩
theorem XJ.set0 (v:Value):XJ o c (c.setIfInBounds o v):=⟨by simp,fun i h1 _=>by simp[Ne.symm h1]⟩
theorem XJ.set1 (v:Value):XJ o c (c.setIfInBounds (o+1) v):=⟨by simp,fun i _ h2=>by simp[Ne.symm h2]⟩
theorem YZ.c0 (h:YZ w b o T c nx ep):w.cell? ⟨b,o,none⟩=some (iV nx):=ZW h.obj h.h0
theorem YZ.c1 (h:YZ w b o T c nx ep):w.cell? ⟨b,o+1,none⟩=some (.int .u64 ep):=ZW h.obj h.h1
theorem YZ.fz (h:YZ w b o T c nx ep) (i:Nat):w.frozen? ⟨b,i,none⟩=false:=YV h.obj i
theorem YZ.lt (h:YZ w b o T c nx ep):b<w.heap.size:=XP h.obj
theorem YZ.sZ (h:YZ w b o T c nx ep):o<c.size:=(Array.getElem?_eq_some_iff.1 h.h0).1
theorem YZ.sW (h:YZ w b o T c nx ep):o+1<c.size:=(Array.getElem?_eq_some_iff.1 h.h1).1
theorem YZ.of_block (h:YZ w b o T c nx ep) (e:w'.heap[b]?=w.heap[b]?):YZ w' b o T c nx ep:=⟨e.trans h.obj,h.h0,h.h1⟩
theorem YZ.grown (h:YZ w b o T c nx ep) (g:Below w.heap.size w w'):YZ w' b o T c nx ep:=h.of_block (g.block _ h.lt)
theorem YZ.only {S:Nat->Prop} (h:YZ w b o T c nx ep) (g:Only S w w') (hs:¬ S b):YZ w' b o T c nx ep:=h.of_block (g.block _ h.lt hs)
theorem YZ.set0 (h:YZ w b o T c nx ep) (n:Int):YZ (w.setCell ⟨b,o,none⟩ (iV n)) b o T (c.setIfInBounds o (iV n)) n ep :=
 ⟨ZV _ _ _ _ _ _ h.obj,by simp[h.sZ],by rw[Array.getElem?_setIfInBounds_ne (by omega)];exact h.h1⟩
theorem YZ.set1 (h:YZ w b o T c nx ep) (n:Int):YZ (w.setCell ⟨b,o+1,none⟩ (.int .u64 n)) b o T (c.setIfInBounds (o+1) (.int .u64 n)) nx n :=
 ⟨ZV _ _ _ _ _ _ h.obj,by rw[Array.getElem?_setIfInBounds_ne (by omega)];exact h.h0,by simp[h.sW]⟩
end
inductive UE (who:Nat) (s:Mm):Int->Int->Mm->Int->Int->Bool->Prop where
 | load (ep:Int):UE who s 0 ep ((s.by who).step 0 (s.wd 0)) 1 (s.wd 0) false
 | lay (ep:Int):UE who s 1 ep ((s.by who).step (6+who) (sum64 ep 1)) 2 ep false
 | same:UE who s 2 (s.wd 0) ((s.by who).step 0 (s.wd 0)) 3 (s.wd 0) true
 | other (ep:Int) (h:¬ s.wd 0=ep):UE who s 2 ep ((s.by who).step 0 (s.wd 0)) 1 (s.wd 0) false
def yV (L:Loc) (b o:Nat) (T:TypeId) (c:Array Value) (s s':Mm) (nx ep Bi:Int):Nat->World->Prop
 | 0,w=>Z8 w L s/\YZ w b o T c nx ep
 | 1,w=>Z8 w L s'/\YZ w b o T c nx ep
 | _,w=>Z8 w L s'/\YZ w b o T (c.setIfInBounds (o+1) (.int .u64 Bi)) nx Bi
theorem EL {w:World} {L:Loc} {s:Mm} {b o:Nat} {T:TypeId} {c:Array Value} {ep:Int} (h:Z8 w L s) (hb:¬ L.has b) (hi:YZ w b o T c 2 ep) (c0 c1 c2 c3 c4 c5 c6:Int) (who:Nat) (hn:0<s.n) :
 Calls Tryz.prog 124 #[pP b o,eV c0 c1 c2 c3 c4 c5 c6 L.p who] w fun e w'=>e=.returned (.tuple #[])/\∃ c' nx',Z8 w' L ((s.by who).step 0 (s.wd 0))/\YZ w' b o T c' nx' (s.wd 0)/\XJ o c c'/\Only (L.and b) w w'/\((nx'=3/\s.wd 0=ep)\/(nx'=1/\¬ s.wd 0=ep)):=by
 have hbv:¬ L.has w.heap.size:=fun hh=>by have:=h.lt _ hh;omega
 go_enter Tryz.func124,Tryz.ntmps124
 go_wp2
 refine ZT (fun W=>Z8 W L s/\YZ W b o T c 2 ep/\ZP W w.heap.size c0 c1 c2 c3 c4 c5 c6 L.p who/\Only (L.and b) w W) ⟨h.alloc _,hi.grown (Z7 (Below.refl _ _) _),ZP.new,(Only.refl _ _).alloc _⟩ ?_
 rintro W ⟨m1,i1,v1,o1⟩
 refine Yt (Only L.has) (fun x y=>y=x) (fun p W'=>match p with | 0=>Z8 W' L s | _=>Z8 W' L ((s.by who).step 0 (s.wd 0))) [2] [.val (eV c0 c1 c2 c3 c4 c5 c6 L.p who),.val (iV 0),.val (.int .u64 (s.wd 0)),.val (.int .u64 (s.wd 0))]
  (by kernel_rfl) (Only.refl _) (fun _ _ _ h k=>h.trans k) (fun x y h=>by subst h;exact Only.refl _ _) (fun x y p h k=>by subst h;exact k) m1.drew (by kernel_rfl) (by kernel_rfl) (by kernel_rfl) (by kernel_rfl) (by kernel_rfl) ?_
 simp only[Zo,Act.put,List.setIfInBounds_toArray,List.set_cons_zero,List.set_cons_succ]
 refine⟨?_,?_,?_,?_,?_⟩
 . intro w' hR _;apply ol;obtain⟨y0,y1,y2,y3,y4,y5,y6,y7,y8⟩:=(v1.grown ((Below.refl _ _).drew)).only hR hbv;go_simp;exact⟨rfl,rfl⟩
 . intro w' hR _;apply ol;go_simp;refine(Rt _).mono ?_;rintro e w'' ⟨rfl,rfl⟩;exact⟨_,rfl,rfl,rfl⟩
 . intro w' hR _ hP;apply ol;go_simp;refine(Zj (s:=s) hP _ _ _ _ _ _ _ _ 0 hn).mono ?_;rintro e w'' ⟨rfl,m2,o2⟩;exact⟨_,rfl,⟨o2,m2⟩,rfl⟩
 . intro w' hR _;apply ol;go_simp;exact⟨rfl,rfl⟩
 intro w2 hR m2 _
 have Gw:Z8 w2 L ((s.by who).step 0 (s.wd 0)):=m2
 clear m2
 have i2:=(i1.grown ((Below.refl _ _).drew)).only hR hb
 have o2:Only (L.and b) w w2:=o1.drew.trans (hR.XH)
 have k0:=i2.c0
 have k1:=i2.c1
 have kf:=i2.fz
 clear m1 i1 v1 o1 hR
 by_cases he:s.wd 0=ep
 . go_wp2
   refine bodyPost_ret (results_none rfl _ _ _) rfl ?_
   exact⟨rfl,_,3,Gw.ZY hb _ _,by rw[he];exact i2.set0 3,XJ.set0 _,o2.set _ _,Or.inl ⟨rfl,he⟩⟩
 . go_wp2
   go_end0
   exact⟨rfl,_,1,(Gw.ZY hb _ _).ZY hb _ _,(i2.set1 _).set0 1,(XJ.set1 _).trans (XJ.set0 _),(o2.set _ _).set _ _,Or.inr ⟨rfl,he⟩⟩
def Stepped (who:Nat) (L:Loc) (b o:Nat) (T:TypeId) (c:Array Value) (s:Mm) (nx ep:Int) (w:World) (e:Ending) (w':World):Prop :=
 ∃ d s' c' nx' Bi,e=.returned (.bool d)/\UE who s nx ep s' nx' Bi d/\Z8 w' L s'/\YZ w' b o T c' nx' Bi/\XJ o c c'/\Only (L.and b) w w'
theorem HY {w:World} {L:Loc} {s:Mm} {b o:Nat} {T:TypeId} {c:Array Value} {ep:Int} (h:Z8 w L s) (hb:¬ L.has b) (hi:YZ w b o T c 0 ep) (c0 c1 c2 c3 c4 c5 c6:Int) (who:Nat) (hn:0<s.n) (hw:(who:Int)<c0) :
 Calls Tryz.prog 123 #[pP b o,eV c0 c1 c2 c3 c4 c5 c6 L.p who] w (Stepped who L b o T c s 0 ep w):=by
 obtain⟨hbv,hbb⟩:=nb h hi.lt
 go_enter Tryz.func123,Tryz.ntmps123
 go_wp2_with (go_at_call 125;refine(Wx L c0 c1 c2 c3 c4 c5 c6 who (by omega) hw _).mono ?_;rintro e w1 ⟨rfl,b1⟩;have i1:=(hi.grown (Z7 (Below.refl _ _) _)).grown b1;have k0:=i1.c0;have k1:=i1.c1;have kf:=i1.fz)
 have m1:=(h.alloc (.cells #[iV c0,iV c1,iV c2,iV c3,iV c4,iV c5,iV c6,pP L.p 0,iV who] 27)).below b1
 have v1:ZP w1 w.heap.size c0 c1 c2 c3 c4 c5 c6 L.p who:=ZP.new.grown b1
 have o1:Only (L.and b) w w1:=((Only.refl _ _).alloc _).trans (Only.Z5 b1)
 refine Yt (Only (L.and b)) (fun x y=>y=x) (yV L b o T c s ((s.by who).step 0 (s.wd 0)) 0 ep (s.wd 0)) [3,6] [.val (pP b o),.val (eV c0 c1 c2 c3 c4 c5 c6 L.p who),.val (iV 0),.val (.int .u64 (s.wd 0)),.val (pP b o),.val (pP b (o+1)),.that (fun _ _=>True) (fun _ _ _ _ _=>trivial)]
  (by kernel_rfl) (Only.refl _) (fun _ _ _ h k=>h.trans k) (fun x y h=>by subst h;exact Only.refl _ _) (fun x y p h k=>by subst h;exact k) ⟨m1.drew,i1.grown ((Below.refl _ _).drew)⟩ (by kernel_rfl) (by kernel_rfl) (by kernel_rfl) (by kernel_rfl) (by kernel_rfl) ?_
 simp only[Zo,Act.put,List.setIfInBounds_toArray,List.set_cons_zero,List.set_cons_succ]
 refine⟨?_,?_,?_,?_,?_,?_,?_,?_⟩
 . intro w' hR _;apply ol;go_simp;exact⟨rfl,rfl⟩
 . intro w' hR _;apply ol;obtain⟨y0,y1,y2,y3,y4,y5,y6,y7,y8⟩:=(v1.grown ((Below.refl _ _).drew)).only hR (fun hh=>hh.elim hbv hbb);go_simp;exact⟨rfl,rfl⟩
 . intro w' hR _;apply ol;go_simp;refine(Rt _).mono ?_;rintro e w'' ⟨rfl,rfl⟩;exact⟨_,rfl,rfl,rfl⟩
 . intro w' hR _ hP;apply ol;go_simp;refine(Zj (s:=s) hP.1 _ _ _ _ _ _ _ _ 0 hn).mono ?_;rintro e w'' ⟨rfl,m2,o2⟩;exact⟨_,rfl,⟨o2.XH,m2,hP.2.only o2 hb⟩,rfl⟩
 . intro w' hR _;apply ol;go_simp;exact⟨rfl,rfl⟩
 . intro w' hR _;apply ol;go_simp;exact⟨rfl,rfl⟩
 . intro w' hR _ hP;apply ol;have z0:=hP.2.c1;have z1:=hP.2.fz;go_simp;exact⟨⟨(Only.refl _ _).set _ _,hP.1.ZY hb _ _,hP.2.set1 _⟩,trivial⟩
 intro v w2 hR hP _
 obtain⟨m2,i2⟩:Z8 w2 L ((s.by who).step 0 (s.wd 0))/\YZ w2 b o T (c.setIfInBounds (o+1) (.int .u64 (s.wd 0))) 0 (s.wd 0):=hP
 have o2:Only (L.and b) w w2:=o1.drew.trans hR
 clear hR o1 v1 m1 i1 k0 k1 kf
 have k0:=i2.c0
 have k1:=i2.c1
 have kf:=i2.fz
 go_wp2
 go_ret
 exact⟨false,_,_,1,_,rfl,.load ep,m2.ZY hb _ _,i2.set0 1,(XJ.set1 _).trans (XJ.set0 _),o2.set _ _⟩
theorem EK {w:World} {L:Loc} {s:Mm} {b o:Nat} {T:TypeId} {c:Array Value} {ep:Int} (h:Z8 w L s) (hb:¬ L.has b) (hi:YZ w b o T c 1 ep) (c0 c1 c2 c3 c4 c5 c6:Int) (who:Nat) (hn:6+who<s.n) (hw:(who:Int)<c0) (hc:c0<=8) :
 Calls Tryz.prog 123 #[pP b o,eV c0 c1 c2 c3 c4 c5 c6 L.p who] w (Stepped who L b o T c s 1 ep w):=by
 obtain⟨hbv,hbb⟩:=nb h hi.lt
 go_enter Tryz.func123,Tryz.ntmps123
 go_wp2_with (go_at_call 125;refine(Wx L c0 c1 c2 c3 c4 c5 c6 who (by omega) hw _).mono ?_;rintro e w1 ⟨rfl,b1⟩;have i1:=(hi.grown (Z7 (Below.refl _ _) _)).grown b1;have k0:=i1.c0;have k1:=i1.c1;have kf:=i1.fz)
 have m1:=(h.alloc (.cells #[iV c0,iV c1,iV c2,iV c3,iV c4,iV c5,iV c6,pP L.p 0,iV who] 27)).below b1
 have v1:ZP w1 w.heap.size c0 c1 c2 c3 c4 c5 c6 L.p who:=ZP.new.grown b1
 have o1:Only (L.and b) w w1:=((Only.refl _ _).alloc _).trans (Only.Z5 b1)
 refine Yt (Only L.has) (fun x y=>y=x) (fun p W'=>match p with | 0=>Z8 W' L s | _=>Z8 W' L ((s.by who).step (6+who) (sum64 ep 1))) [9] [.val (eV c0 c1 c2 c3 c4 c5 c6 L.p who),.val (pP w.heap.size 8),.val (iV who),.val (iV (6+who:Nat)),.val (pP b o),.val (pP b o),.val (pP b (o+1)),.val (.int .u64 ep),.val (.int .u64 (sum64 ep 1)),.that (fun _ _=>True) (fun _ _ _ _ _=>trivial)]
  (by kernel_rfl) (Only.refl _) (fun _ _ _ h k=>h.trans k) (fun x y h=>by subst h;exact Only.refl _ _) (fun x y p h k=>by subst h;exact k) m1.drew (by kernel_rfl) (by kernel_rfl) (by kernel_rfl) (by kernel_rfl) (by kernel_rfl) ?_
 simp only[Zo,Act.put,List.setIfInBounds_toArray,List.set_cons_zero,List.set_cons_succ]
 refine⟨?_,?_,?_,?_,?_,?_,?_,?_,?_,?_,?_⟩
 . intro w' hR _;apply ol;obtain⟨y0,y1,y2,y3,y4,y5,y6,y7,y8⟩:=(v1.grown ((Below.refl _ _).drew)).only hR hbv;go_simp;exact⟨rfl,rfl⟩
 . intro w' hR _;apply ol;go_simp;exact⟨rfl,rfl⟩
 . intro w' hR _;apply ol;have y8:=((v1.grown ((Below.refl _ _).drew)).only hR hbv).c8;go_simp;exact⟨rfl,rfl⟩
 . intro w' hR _;apply ol;go_simp;refine(UI _ _ (by omega) (by omega)).mono ?_;rintro e w'' ⟨rfl,rfl⟩;exact⟨_,rfl,rfl,by simp[Want.pred]⟩
 . intro w' hR _;apply ol;go_simp;exact⟨rfl,rfl⟩
 . intro w' hR _;apply ol;go_simp;exact⟨rfl,rfl⟩
 . intro w' hR _;apply ol;go_simp;exact⟨rfl,rfl⟩
 . intro w' hR _;apply ol;have y1:=((i1.grown ((Below.refl _ _).drew)).only hR hb).c1;go_simp;exact⟨rfl,rfl⟩
 . intro w' hR _;apply ol;go_simp;exact⟨rfl,rfl⟩
 . intro w' hR _ hP;apply ol;go_simp;refine(WX (s:=s) hP _ _ _ _ _ _ _ _ (6+who) hn _).mono ?_;rintro e w'' ⟨rfl,m2,o2⟩;exact⟨_,rfl,⟨o2,m2⟩,trivial⟩
 intro v w2 hR hP _
 have m2:Z8 w2 L ((s.by who).step (6+who) (sum64 ep 1)):=hP
 have i2:=(i1.grown ((Below.refl _ _).drew)).only hR hb
 have o2:Only (L.and b) w w2:=o1.drew.trans hR.XH
 clear hR o1 v1 m1 i1 k0 k1 kf hP
 have k0:=i2.c0
 have k1:=i2.c1
 have kf:=i2.fz
 go_wp2
 go_ret
 exact⟨false,_,_,2,_,rfl,.lay ep,m2.ZY hb _ _,i2.set0 2,XJ.set0 _,o2.set _ _⟩
theorem Hz {w:World} {L:Loc} {s:Mm} {b o:Nat} {T:TypeId} {c:Array Value} {ep:Int} (h:Z8 w L s) (hb:¬ L.has b) (hi:YZ w b o T c 2 ep) (c0 c1 c2 c3 c4 c5 c6:Int) (who:Nat) (hn:0<s.n) (hw:(who:Int)<c0) :
 Calls Tryz.prog 123 #[pP b o,eV c0 c1 c2 c3 c4 c5 c6 L.p who] w (Stepped who L b o T c s 2 ep w):=by
 go_enter Tryz.func123,Tryz.ntmps123
 go_wp2_with (first
  | (go_at_call 125;refine(Wx L c0 c1 c2 c3 c4 c5 c6 who (by omega) hw _).mono ?_;rintro e w1 ⟨rfl,b1⟩;have i1:=(hi.grown (Z7 (Below.refl _ _) _)).grown b1;have v1:ZP w1 w.heap.size c0 c1 c2 c3 c4 c5 c6 L.p who:=ZP.new.grown b1;have k0:=i1.c0;have k1:=i1.c1;obtain⟨y0,y1,y2,y3,y4,y5,y6,y7,y8⟩:=id v1)
  | (go_at_call 124;refine(EL ((h.alloc _).below b1) hb i1 _ _ _ _ _ _ _ who hn).mono ?_;rintro e w2 ⟨rfl,c',nx',m2,i2,sm,o2,hx⟩;have k0:=i2.c0))
 have o1:Only (L.and b) w w2:=(((Only.refl _ _).alloc _).trans (Only.Z5 b1)).trans o2
 rcases hx with⟨rfl,rfl⟩ | ⟨rfl,hne⟩
 . go_ret
   exact⟨true,_,_,3,_,rfl,.same,m2,i2,sm,o1⟩
 . go_ret
   exact⟨false,_,_,1,_,rfl,.other ep hne,m2,i2,sm,o1⟩
theorem Sr {w:World} {L:Loc} {s:Mm} {b o:Nat} {T:TypeId} {c:Array Value} {nx ep:Int} (h:Z8 w L s) (hb:¬ L.has b) (hi:YZ w b o T c nx ep) (hx:nx=0\/nx=1\/nx=2) (c0 c1 c2 c3 c4 c5 c6:Int) (who:Nat) (hn:6+who<s.n) (hw:(who:Int)<c0) (hc:c0<=8) :
 Calls Tryz.prog 123 #[pP b o,eV c0 c1 c2 c3 c4 c5 c6 L.p who] w (Stepped who L b o T c s nx ep w):=by
 rcases hx with rfl | rfl | rfl
 . exact HY h hb hi _ _ _ _ _ _ _ who (by omega) hw
 . exact EK h hb hi _ _ _ _ _ _ _ who hn hw hc
 . exact Hz h hb hi _ _ _ _ _ _ _ who (by omega) hw
theorem DJ {w:World} {L:Loc} {s:Mm} (h:Z8 w L s) (c0 c1 c2 c3 c4 c5 c6:Int) (who:Nat) (hn:6+who<s.n) (hw:(who:Int)<c0) (hc:c0<=8) :
 Calls Tryz.prog 130 #[.agg #[],eV c0 c1 c2 c3 c4 c5 c6 L.p who] w fun e w'=>e=.returned (.bool true)/\Z8 w' L ((s.by who).step (6+who) 0)/\Only L.has w w':=by
 have v0:ZP ((w.alloc (.cells #[] 126)).alloc (.cells #[iV c0,iV c1,iV c2,iV c3,iV c4,iV c5,iV c6,pP L.p 0,iV who] 27)) (w.heap.size+1) c0 c1 c2 c3 c4 c5 c6 L.p who:=by
  have:=ZP.new (w:=w.alloc (.cells #[] 126)) (T:=27) (c0:=c0) (c1:=c1) (c2:=c2) (c3:=c3) (c4:=c4) (c5:=c5) (c6:=c6) (P:=L.p) (who:=who)
  rwa [Go.Deep.nblk_alloc] at this
 have m0:=(h.alloc (.cells #[] 126)).alloc (.cells #[iV c0,iV c1,iV c2,iV c3,iV c4,iV c5,iV c6,pP L.p 0,iV who] 27)
 obtain⟨y0,y1,y2,y3,y4,y5,y6,y7,y8⟩:=id v0
 go_enter Tryz.func130,Tryz.ntmps130
 go_wp2_with (go_at_call 125;refine(Wx L c0 c1 c2 c3 c4 c5 c6 who (by omega) hw _).mono ?_;rintro e w1 ⟨rfl,b1⟩)
 refine ZT (fun W=>Z8 W L s/\ZP W (w.heap.size+1) c0 c1 c2 c3 c4 c5 c6 L.p who/\Only L.has w W) ⟨m0.below b1,v0.grown b1,(((Only.refl _ _).alloc _).alloc _).trans (Only.Z5 b1)⟩ ?_
 clear m0 v0 y0 y1 y2 y3 y4 y5 y6 y7 y8 b1
 rintro W ⟨m1,v1,o1⟩
 apply Xy 4;. kernel_rfl
 apply rV;. intro w' hg _;apply ol;have y:=(v1.dg hg).yy;go_simp;exact gl
 apply rV;. intros;apply ol;go_simp;exact gl
 apply rV;. intro w' hg _;apply ol;have y:=(v1.dg hg).yy;go_simp;exact gl
 apply XW (c:=iV ((6+who:Nat):Int));. intro w' hg _;apply ol;go_simp;refine(UI _ _ (by omega) (by omega)).mono ?_;rintro e w'' ⟨rfl,rfl⟩;exact⟨_,rfl,Grown.refl _,by simp[Want.pred]⟩
 try simp only[pu,s0,s1]
 intro w5 hg _
 have m5:=m1.drew.below hg
 go_wp2_with (go_at_call 128;refine(WX m5 _ _ _ _ _ _ _ _ (6+who) hn 0).mono ?_;rintro e w6 ⟨rfl,m6,o6⟩)
 go_ret
 exact⟨rfl,m6,(o1.drew.trans (Only.Z5 hg)).trans o6⟩
end
section
structure Xa where
 kd:Int
 sz:Int
 nu:Int
 ix:Int
 vl:Int
 ol:Int
 own:Bool
@[reducible] def Xa.v (X:Xa):Value:=.agg #[iV X.kd,iV X.sz,.int .u64 X.nu,iV X.ix,iV X.vl,iV X.ol,.bool X.own]
@[reducible] def Xa.box (X:Xa):Obj:=.cells #[iV X.kd,iV X.sz,.int .u64 X.nu,iV X.ix,iV X.vl,iV X.ol,.bool X.own] 77
def fitsV (v:Int):Bool:=decide (0<=v) && decide (v<=1099511627775)
theorem uG.new (X:Xa) (w:World):At (w.alloc X.box) w.heap.size 0 77 #[iV X.kd,iV X.sz,.int .u64 X.nu,iV X.ix,iV X.vl,iV X.ol,.bool X.own] [iV X.kd,iV X.sz,.int .u64 X.nu,iV X.ix,iV X.vl,iV X.ol,.bool X.own]:=At.new w _ [iV X.kd,iV X.sz,.int .u64 X.nu,iV X.ix,iV X.vl,iV X.ol,.bool X.own]
def Xa.may (X:Xa):Bool:=decide (1<=X.kd) && decide (X.kd<=5) && fitsV X.vl && fitsV X.ol
theorem fits_any (v:Int) (w:World):Calls Tryz.prog 44 #[iV v] w fun e w'=>e=.returned (.bool (fitsV v))/\w'=w:=by
 by_cases h0:(0:Int)<=v
 . by_cases h1:v<=1099511627775
   . go_enter Tryz.func44,Tryz.ntmps44
     go_wp2
     go_ret
     exact⟨by simp[fitsV,h0,h1],rfl⟩
   . go_enter Tryz.func44,Tryz.ntmps44
     go_wp2
     go_ret
     exact⟨by simp[fitsV,h0,h1],rfl⟩
 . go_enter Tryz.func44,Tryz.ntmps44
   go_wp2
   go_ret
   exact⟨by unfold fitsV;rw[decide_eq_false (by omega:¬ 0<=v),Bool.false_and];rfl,rfl⟩
theorem check_any (X:Xa) (w:World):Calls Tryz.prog 33 #[X.v] w fun e w'=>e=.returned (.bool X.may)/\Below w.heap.size w w':=by
 obtain⟨kd,sz,nu,ix,vl,ol,own⟩:=X
 obtain⟨d1,h1⟩:∃ d,fitsV vl=d:=⟨_,rfl⟩
 obtain⟨d2,h2⟩:∃ d,fitsV ol=d:=⟨_,rfl⟩
 have f1:∀ w,Calls Tryz.prog 44 #[iV vl] w fun e w'=>e=.returned (.bool d1)/\w'=w:=fun w=>by rw[<- h1];exact fits_any vl w
 have f2:∀ w,Calls Tryz.prog 44 #[iV ol] w fun e w'=>e=.returned (.bool d2)/\w'=w:=fun w=>by rw[<- h2];exact fits_any ol w
 have hm:Hid (Xa.may ⟨kd,sz,nu,ix,vl,ol,own⟩=(decide (1<=kd) && decide (kd<=5) && d1 && d2)):=by rw[<- h1,<- h2];rfl
 rw[hm.out]
 clear h1 h2 hm
 show Calls Tryz.prog 33 #[.agg #[iV kd,iV sz,.int .u64 nu,iV ix,iV vl,iV ol,.bool own]] w _
 by_cases k0:(1:Int)<=kd
 . by_cases k1:kd<=5
   . cases d1
     . go_enter Tryz.func33,Tryz.ntmps33
       go_wp2_with (go_at_call 44;refine(f1 _).mono ?_;rintro e w1 ⟨rfl,rfl⟩)
       go_ret
       exact⟨by simp[k0,k1],Z7 (Below.refl _ _) _⟩
     . go_enter Tryz.func33,Tryz.ntmps33
       go_wp2_with (first
        | (go_at_call 44;refine(f1 _).mono ?_;rintro e w1 ⟨rfl,rfl⟩;clear f1)
        | (go_at_call 44;refine(f2 _).mono ?_;rintro e w1 ⟨rfl,rfl⟩))
       go_ret
       exact⟨by simp[k0,k1],Z7 (Below.refl _ _) _⟩
   . go_enter Tryz.func33,Tryz.ntmps33
     go_wp2
     go_ret
     exact⟨by rw[decide_eq_false (by omega:¬ kd<=5),Bool.false_and,Bool.false_and];rfl,Z7 (Below.refl _ _) _⟩
 . go_enter Tryz.func33,Tryz.ntmps33
   go_wp2
   go_ret
   exact⟨by rw[decide_eq_false (by omega:¬ 1<=kd),Bool.false_and,Bool.false_and,Bool.false_and];rfl,Z7 (Below.refl _ _) _⟩
def Xa.ob (X:Xa):Obj:=if X.kd=1 then PQ X.sz X.own else if X.kd=2 then JY X.nu X.own else Gq (X.kd - 2) X.nu X.ix X.vl X.ol X.own
def Xa.ty (X:Xa):TypeId:=if X.kd=1 then 136 else if X.kd=2 then 138 else 162
theorem Jh (X:Xa) (kd:Int) (w:World):Calls Tryz.prog 72 #[X.v,iV kd] w fun e w'=>∃ W,e=.returned (.iface 162 (pP W.heap.size 0))/\w'=W.alloc (Gq kd X.nu X.ix X.vl X.ol X.own)/\Below w.heap.size w W:=by
 obtain⟨kx,sz,nu,ix,vl,ol,own⟩:=X
 show Calls Tryz.prog 72 #[.agg #[iV kx,iV sz,.int .u64 nu,iV ix,iV vl,iV ol,.bool own],iV kd] w _
 go_enter Tryz.func72,Tryz.ntmps72
 go_wp2_with (go_at_call 74;refine(MS kd nu ix vl ol own _).mono ?_;rintro e w1 ⟨W1,rfl,rfl,g1⟩)
 go_ret
 exact⟨W1,rfl,rfl,grow (Z7 (Below.refl _ _) _) g1⟩
set_option maxRecDepth 20000 in
theorem DF (X:Xa) (h0:1<=X.kd) (h5:X.kd<=5) (w:World):Calls Tryz.prog 65 #[X.v] w fun e w'=>∃ W,e=.returned (.iface X.ty (pP W.heap.size 0))/\w'=W.alloc X.ob/\Below w.heap.size w W:=by
 obtain⟨kx,sz,nu,ix,vl,ol,own⟩:=X
 have rr:=fun kd w=>Jh ⟨kx,sz,nu,ix,vl,ol,own⟩ kd w
 simp only[] at h0 h5
 have hk:kx=1\/kx=2\/kx=3\/kx=4\/kx=5:=by omega
 show Calls Tryz.prog 65 #[.agg #[iV kx,iV sz,.int .u64 nu,iV ix,iV vl,iV ol,.bool own]] w _
 have rr:∀ kd w,Calls Tryz.prog 72 #[.agg #[iV kx,iV sz,.int .u64 nu,iV ix,iV vl,iV ol,.bool own],iV kd] w _:=rr
 rcases hk with rfl | rfl | rfl | rfl | rfl
 . go_enter Tryz.func65,Tryz.ntmps65
   go_wp2_with (go_at_call 70;refine(PO sz own _).mono ?_;rintro e w1 ⟨rfl,rfl⟩)
   go_ret
   exact⟨_,by rw[Go.Deep.nblk_alloc];rfl,rfl,Z7 (Below.refl _ _) _⟩
 . go_enter Tryz.func65,Tryz.ntmps65
   go_wp2_with (go_at_call 71;refine(Om nu own _).mono ?_;rintro e w1 ⟨rfl,rfl⟩)
   go_ret
   exact⟨_,by rw[Go.Deep.nblk_alloc];rfl,rfl,Z7 (Below.refl _ _) _⟩
 all_goals
  go_enter Tryz.func65,Tryz.ntmps65
  go_wp2_with (go_at_call 72;refine(rr _ _).mono ?_;rintro e w1 ⟨W1,rfl,rfl,g1⟩)
  go_ret
  exact⟨W1,rfl,rfl,grow (Z7 (Below.refl _ _) _) g1⟩
structure Vu (w:World) (bA bS bI b:Nat) (T:TypeId) (i:Nat):Prop where
 a:∃ c,At w bA 0 129 c [.iface T (pP b 0),.slice (some ⟨bS,min i 2,none⟩) (3 - i) (3 - i)]
 l:∃ c,At w bS 0 131 c [.iface 122 (pP bI 0),.iface T (pP b 0),.iface 126 (.agg #[])]
 h1:bA≠bS
 h2:bA≠bI
 h3:bA≠b
 h4:bS≠bI
 h5:bS≠b
 h6:bI≠b
theorem SA (X:Xa) (h:X.may=true) (w:World):Calls Tryz.prog 54 #[X.v] w fun e w'=>∃ (bA bS bI b:Nat) (W:World) (c:Array Value),e=.returned (.tuple #[pP bA 0,iV 0])/\Below w.heap.size w w'/\w.heap.size<=b/\b<bI/\bI<bS/\bS<bA/\Vu w' bA bS bI b X.ty 0/\YZ w' bI 0 124 c 0 0/\b=W.heap.size/\Below (W.alloc X.ob).heap.size (W.alloc X.ob) w':=by
 have hc:=check_any X
 rw[h] at hc
 have h0:1<=X.kd/\X.kd<=5:=by
  unfold Xa.may at h
  simp only[Bool.and_eq_true,decide_eq_true_eq] at h
  exact h.1.1
 have hw:=DF X h0.1 h0.2
 obtain⟨kx,sz,nu,ix,vl,ol,own⟩:=X
 generalize hT:Xa.ty ⟨kx,sz,nu,ix,vl,ol,own⟩=T at hw ⊢
 generalize hO:Xa.ob ⟨kx,sz,nu,ix,vl,ol,own⟩=O at hw ⊢
 clear h h0 hT hO
 have hc:∀ w,Calls Tryz.prog 33 #[.agg #[iV kx,iV sz,.int .u64 nu,iV ix,iV vl,iV ol,.bool own]] w _:=hc
 have hw:∀ w,Calls Tryz.prog 65 #[.agg #[iV kx,iV sz,.int .u64 nu,iV ix,iV vl,iV ol,.bool own]] w _:=hw
 show Calls Tryz.prog 54 #[.agg #[iV kx,iV sz,.int .u64 nu,iV ix,iV vl,iV ol,.bool own]] w _
 have x0:=(uG.new (X:=⟨kx,sz,nu,ix,vl,ol,own⟩) w)
 go_enter Tryz.func54,Tryz.ntmps54
 go_wp2_with (first
  | (go_at_call 33;refine(hc _).mono ?_;rintro e w1 ⟨rfl,g1⟩;have x1:=x0.grown g1;have z0:=x1.at0 0 rfl;have z1:=x1.at0 1 rfl;have z2:=x1.at0 2 rfl;have z3:=x1.at0 3 rfl;have z4:=x1.at0 4 rfl;have z5:=x1.at0 5 rfl;have z6:=x1.at0 6 rfl)
  | (go_at_call 65;refine(hw _).mono ?_;rintro e w2 ⟨W2,rfl,rfl,g2⟩))
 refine bodyPost_ret (v:=.tuple #[.pointer (some ⟨W2.heap.size+1+1+1,0,none⟩),iV 0]) (by simp[results,Tryz.results54,go_sem]) rfl ?_
 have bb:Below w.heap.size w W2:=grow (grow (Z7 (Below.refl _ _) _) g1) g2
 have q1:=At.new (W2.alloc O) 124 [iV 0,.int .u64 0]
 have q2:=At.new ((W2.alloc O).alloc (.cells #[iV 0,.int .u64 0] 124)) 131 [.iface 122 (.pointer (some ⟨W2.heap.size+1,0,none⟩)),.iface T (pP W2.heap.size 0),.iface 126 (.agg #[])]
 have q3:=At.new (((W2.alloc O).alloc (.cells #[iV 0,.int .u64 0] 124)).alloc (.cells #[.iface 122 (.pointer (some ⟨W2.heap.size+1,0,none⟩)),.iface T (pP W2.heap.size 0),.iface 126 (.agg #[])] 131)) 129 [.iface T (pP W2.heap.size 0),.slice (some ⟨W2.heap.size+1+1,0,none⟩) 3 3]
 have q1':=(q1.grown (ZZ _ (.cells #[.iface 122 (.pointer (some ⟨W2.heap.size+1,0,none⟩)),.iface T (pP W2.heap.size 0),.iface 126 (.agg #[])] 131))).grown (ZZ _ (.cells #[.iface T (pP W2.heap.size 0),.slice (some ⟨W2.heap.size+1+1,0,none⟩) 3 3] 129))
 have q2':=q2.grown (ZZ _ (.cells #[.iface T (pP W2.heap.size 0),.slice (some ⟨W2.heap.size+1+1,0,none⟩) 3 3] 129))
 simp only[Go.Deep.nblk_alloc] at q1' q2' q3
 refine⟨W2.heap.size+1+1+1,W2.heap.size+1+1,W2.heap.size+1,W2.heap.size,W2,_,rfl,Z7 (Z7 (Z7 (Z7 bb _) _) _) _,bb.size,by omega,by omega,by omega,⟨⟨_,q3⟩,⟨_,q2'⟩,by omega,by omega,by omega,by omega,by omega,by omega⟩,⟨q1'.obj,q1'.is 0 _ rfl,q1'.is 1 _ rfl⟩,rfl,grow (grow (ZZ _ _) (ZZ _ _)) (ZZ _ _)⟩
end
section
structure Lr where
 kd:Int
 ky:Int
 hd:Int
 nx:Int
 an:Int
 al:Int
 ax:Int
 hn:Int
 hl:Int
 hx:Int
 md:Int
 cE:Int
 cH:Int
 cV:Int
 cS:Int
namespace Lr
def lay (S:Lr) (nx:Int):Lr:={ S with nx:=nx }
def end_ (S:Lr) (E V St:Int):Lr:={ S with cE:=E,cH:=0,cV:=V,cS:=St,nx:=if S.md=0 then 13 else 9 }
def missing (S:Lr):Lr:=if S.kd=2 then (if S.md=0 then S.lay 5 else S.lay 7) else S.end_ 0 0 S.ax
def found (S:Lr):Lr:=if S.kd=3 then S.lay 10 else if S.kd=2 then S.end_ 0 0 S.hx else S.end_ 0 1 S.hx
def look (S:Lr):Lr:={ S with hn:=S.al % 4294967296,hl:=0,hx:=0 }
def reach (S:Lr):Lr:=if S.al % 4294967296=0 then S.look.missing else S.look.lay 1
def Ce (S:Lr) (an al ax:Int):Lr:={ S with an:=an,al:=al,ax:=ax }
def lead (l nx:Int):Int:=nx+if 4294967296<=l then 4294967296 else 0
def WV (S:Lr) (E V St:Int):Lr:=if E=0 then (S.Ce S.hd V St).reach else S.end_ E 0 St
def VD (S:Lr) (E V St:Int):Lr:=if E=0 then { S with hl:=V,hx:=St,nx:=if 4294967296<=V then 2 else 4 } else S.lay 0
def passed (S:Lr) (E St:Int):Lr:=if E=0 then { S with al:=lead S.al (S.hl % 4294967296),ax:=St,nx:=3 } else S.lay 0
def XN (S:Lr) (E V:Int):Lr:=if E=0 then (if V<S.ky then (S.Ce S.hn S.hl S.hx).reach else if V=S.ky then S.found else S.missing) else S.lay 0
def XY (S:Lr) (E H St:Int):Lr:=if E=0 then { S with md:=H,nx:=6 } else S.end_ E 0 St
def wrote (S:Lr) (E St nx:Int):Lr:=if E=0 then S.lay nx else S.end_ E 0 St
def showed (S:Lr) (E St:Int):Lr:=if E=0 then { S with md:=0,cE:=0,cH:=0,cV:=1,cS:=St,nx:=13 } else S.lay 0
def marked (S:Lr) (E St:Int):Lr:=if E=0 then { S with cE:=0,cH:=0,cV:=1,cS:=St,nx:=11 } else S.lay 0
def Ye (S:Lr) (E:Int):Lr:=S.lay (if E=0 then 12 else 13)
def go (S:Lr) (E H V St:Int):Lr :=
 if S.nx=0 then S.WV E V St else if S.nx=1 then S.VD E V St else if S.nx=2 then S.passed E St else if S.nx=3 then S.reach else if S.nx=4 then S.XN E V else if S.nx=5 then S.XY E H St else if S.nx=6 then S.wrote E St 7 else if S.nx=7 then S.wrote E St 8 else if S.nx=8 then S.showed E St else if S.nx=10 then S.marked E St else if S.nx=11 then S.Ye E else S.lay 13
def want (S:Lr) (own:Bool):Xa :=
 if S.nx=0 then ⟨3,0,S.hd,1,0,0,own⟩ else if S.nx=1 then ⟨3,0,S.hn,1,0,0,own⟩ else if S.nx=4 then ⟨3,0,S.hn,0,0,0,own⟩ else if S.nx=2\/S.nx=11 then ⟨5,0,S.an,1,lead S.al (S.hl % 4294967296),S.al,own⟩ else if S.nx=3\/S.nx=12 then ⟨2,0,S.hn,0,0,0,own⟩ else if S.nx=5 then ⟨1,2,0,0,0,0,own⟩ else if S.nx=6 then ⟨4,0,S.md,0,S.ky,0,own⟩ else if S.nx=7 then ⟨4,0,S.md,1,S.hn,0,own⟩ else if S.nx=8 then ⟨5,0,S.an,1,lead S.al S.md,S.al,own⟩ else if S.nx=10 then ⟨5,0,S.hn,1,S.hl % 4294967296+4294967296,S.hl,own⟩ else ⟨2,0,S.md,0,0,0,own⟩
end Lr
structure Lr.ok (S:Lr):Prop where
 a0:0<=S.al
 a1:S.al<8589934592
 l0:0<=S.hl
 l1:S.hl<8589934592
 n0:0<=S.nx
 n1:S.nx<=13
namespace Lr
variable {S:Lr} {E H V St:Int}
theorem ok.lay (o:S.ok) {z:Int} (z0:0<=z) (z1:z<=13):(S.lay z).ok:=⟨o.a0,o.a1,o.l0,o.l1,z0,z1⟩
theorem ok.end_ (o:S.ok):(S.end_ E V St).ok:=⟨o.a0,o.a1,o.l0,o.l1,by show 0<=(if S.md=0 then _ else _);split <;> decide,by show (if S.md=0 then _ else _)<=_;split <;> decide⟩
theorem ok.missing (o:S.ok):S.missing.ok:=by
 unfold Lr.missing
 split
 . split
   . exact o.lay (by decide) (by decide)
   . exact o.lay (by decide) (by decide)
 . exact o.end_
theorem ok.found (o:S.ok):S.found.ok:=by
 unfold Lr.found
 split
 . exact o.lay (by decide) (by decide)
 . split
   . exact o.end_
   . exact o.end_
theorem ok.reach (o:S.ok):S.reach.ok:=by
 have l:S.look.ok:=⟨o.a0,o.a1,by show (0:Int)<=0;decide,by show (0:Int)<8589934592;decide,o.n0,o.n1⟩
 unfold Lr.reach
 split
 . exact l.missing
 . exact l.lay (by decide) (by decide)
theorem ok.Ce (o:S.ok) {a x:Int} (v0:0<=V) (v1:V<8589934592):(S.Ce a V x).ok:=⟨v0,v1,o.l0,o.l1,o.n0,o.n1⟩
theorem ok.go (o:S.ok) (v0:S.nx=0\/S.nx=1->E=0->0<=V/\V<8589934592):(S.go E H V St).ok:=by
 unfold Lr.go
 by_cases e0:S.nx=0
 . rw[if_pos e0]
   unfold Lr.WV
   split
   . rename_i h;obtain⟨x0,x1⟩:=v0 (Or.inl e0) h;exact(o.Ce x0 x1).reach
   . exact o.end_
 rw[if_neg e0]
 by_cases e1:S.nx=1
 . rw[if_pos e1]
   unfold Lr.VD
   split
   . rename_i h
     obtain⟨x0,x1⟩:=v0 (Or.inr e1) h
     exact⟨o.a0,o.a1,x0,x1,by show 0<=(if 4294967296<=V then _ else _);split <;> decide,by show (if 4294967296<=V then _ else _)<=_;split <;> decide⟩
   . exact o.lay (by decide) (by decide)
 rw[if_neg e1]
 by_cases e2:S.nx=2
 . rw[if_pos e2]
   unfold Lr.passed
   split
   . refine⟨?_,?_,o.l0,o.l1,(by decide:(0:Int)<=3),(by decide:(3:Int)<=13)⟩
     . show 0<=Lr.lead S.al (S.hl % 4294967296);unfold Lr.lead;split <;> omega
     . show Lr.lead S.al (S.hl % 4294967296)<8589934592;unfold Lr.lead;split <;> omega
   . exact o.lay (by decide) (by decide)
 rw[if_neg e2]
 by_cases e3:S.nx=3
 . rw[if_pos e3];exact o.reach
 rw[if_neg e3]
 by_cases e4:S.nx=4
 . rw[if_pos e4]
   unfold Lr.XN
   split
   . split
     . exact(o.Ce o.l0 o.l1).reach
     . split
       . exact o.found
       . exact o.missing
   . exact o.lay (by decide) (by decide)
 rw[if_neg e4]
 by_cases e5:S.nx=5
 . rw[if_pos e5]
   unfold Lr.XY
   split
   . exact⟨o.a0,o.a1,o.l0,o.l1,(by decide:(0:Int)<=6),(by decide:(6:Int)<=13)⟩
   . exact o.end_
 rw[if_neg e5]
 by_cases e6:S.nx=6
 . rw[if_pos e6]
   unfold Lr.wrote
   split
   . exact o.lay (by decide) (by decide)
   . exact o.end_
 rw[if_neg e6]
 by_cases e7:S.nx=7
 . rw[if_pos e7]
   unfold Lr.wrote
   split
   . exact o.lay (by decide) (by decide)
   . exact o.end_
 rw[if_neg e7]
 by_cases e8:S.nx=8
 . rw[if_pos e8]
   unfold Lr.showed
   split
   . exact⟨o.a0,o.a1,o.l0,o.l1,(by decide:(0:Int)<=13),(by decide:(13:Int)<=13)⟩
   . exact o.lay (by decide) (by decide)
 rw[if_neg e8]
 by_cases e9:S.nx=10
 . rw[if_pos e9]
   unfold Lr.marked
   split
   . exact⟨o.a0,o.a1,o.l0,o.l1,(by decide:(0:Int)<=11),(by decide:(11:Int)<=13)⟩
   . exact o.lay (by decide) (by decide)
 rw[if_neg e9]
 by_cases e10:S.nx=11
 . rw[if_pos e10]
   unfold Lr.Ye
   split
   . exact o.lay (by decide) (by decide)
   . exact o.lay (by decide) (by decide)
 rw[if_neg e10]
 exact o.lay (by decide) (by decide)
end Lr
end
end Go.Proofs.YtgehjolndmgffaaGreat
