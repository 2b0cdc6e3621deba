import Derived.Test.YtgehjolndmgffaaGreatBoth
import Derived.Test.YtgehjolndmgffaaGreatStruct
namespace Go.Proofs.YtgehjolndmgffaaGreat
open Go.RowKit
set_option maxRecDepth 20000
theorem Nl (Q C:Nat) (w:World) (a:Q<=65536) (b:C<=1000000) :
 Calls Tryz.prog 50 #[iV ((Q:Int) - 1),iV ((C:Int)+1)] w fun e w'=>e=.returned (.int .u64 (ZC Q (C+1)))/\w'=w:=Np Q (C+1) w a (by omega)
def Uo (nx tp sl bh:Int):List Value:=[iV nx,.int .u64 tp,iV sl,iV bh]
def U3 (nx sl tp:Int):List Value:=[iV nx,iV sl,.int .u64 tp]
theorem Us (L:Loc) (c0 c1 c2 c3 c4 c5 c6 who sl:Int) (w:World) (d:Bool) (hd:decide (0<=sl/\sl<c1)=d) :
 Calls Tryz.prog 169 #[eV c0 c1 c2 c3 c4 c5 c6 L.p who,iV sl] w fun e w'=>e=.returned (.bool d)/\Below w.heap.size w w':=by
 subst hd
 by_cases h1:0<=sl
 . by_cases h2:sl<c1
   . go_enter Tryz.func169,Tryz.ntmps169
     go_wp2
     go_ret
     exact⟨by simp[h1,h2],Z7 (Below.refl _ _) _⟩
   . go_enter Tryz.func169,Tryz.ntmps169
     go_wp2
     go_ret
     exact⟨by simp[h2],Z7 (Below.refl _ _) _⟩
 . go_enter Tryz.func169,Tryz.ntmps169
   go_wp2
   go_ret
   exact⟨by simp;omega,Z7 (Below.refl _ _) _⟩
theorem Ky (t s k n g p r i:Int) (w:World) (t0:0<=t) (t1:t<=8) (h0:0<=i) (h1:i<=1000000) :
 Calls Tryz.prog 51 #[.agg #[iV t,iV s,iV k,iV n,iV g,iV p,iV r],iV i] w fun e w'=>e=.returned (iV (6+t+i * 2))/\Below w.heap.size w w':=by
 go_enter Tryz.func51,Tryz.ntmps51
 go_wp2_with (go_at_call 64;refine(UI _ _ (by omega) (by omega)).mono ?_;rintro e w' ⟨rfl,rfl⟩)
 go_ret
 exact⟨rfl,Z7 (Below.refl _ _) _⟩
theorem Qd (L:Loc) (c0 c1 c2 c3 c4 c5 c6 who sl:Int) (w:World) (hc:0<=c0/\c0<=8) (hs:0<=sl/\sl<=65536) :
 Calls Tryz.prog 157 #[eV c0 c1 c2 c3 c4 c5 c6 L.p who,iV sl] w fun e w'=>e=.returned (iV (6+c0+sl * 2+1))/\Below w.heap.size w w':=by
 obtain⟨hc1,hc2⟩:=hc
 obtain⟨hs1,hs2⟩:=hs
 go_enter Tryz.func157,Tryz.ntmps157
 go_wp2_with (go_at_call 51;refine(Ky _ _ _ _ _ _ _ _ _ (by omega) (by omega) (by omega) (by omega)).mono ?_;rintro e w' ⟨rfl,b1⟩)
 go_ret
 exact⟨rfl,grow (Z7 (Below.refl _ _) _) b1⟩
def Nk (s:Mm) (H C:Nat) (n:Int) (d:Bool) (z v:Int):Prop:=(s.wd 1=ZC H C/\d=true/\z=3/\v=n)\/(¬ s.wd 1=ZC H C/\d=false/\z=0/\v=s.wd 1)
theorem Nk.dec {s:Mm} {H C:Nat} {n z v:Int} {d:Bool} (h:Nk s H C n d z v):decide (s.wd 1=ZC H C)=d/\(s.by 0).wd 1=s.wd 1/\v=if s.wd 1=ZC H C then n else s.wd 1:=by
 rcases h with⟨e,rfl,rfl,rfl⟩ | ⟨e,rfl,rfl,rfl⟩
 . exact⟨decide_eq_true e,rfl,(if_pos e).symm⟩
 . exact⟨decide_eq_false e,rfl,(if_neg e).symm⟩
theorem swap_any {w:World} {L:Loc} {s:Mm} (h:Z8 w L s) (c0 c1 c2 c3 c4 c5 c6 who:Int) (H C Q:Nat) (hn:1<s.n) (hH:H<=65536) (hC:C<=1000000) (hQ:Q<=65536) {d:Bool} {z v:Int} (HZ:Nk s H C (ZC Q (C+1)) d z v) :
 Calls Tryz.prog 158 #[eV c0 c1 c2 c3 c4 c5 c6 L.p who,.int .u64 (ZC H C),iV ((Q:Int) - 1)] w fun e w'=>e=.returned (iV z)/\Z8 w' L ((s.by who).step 1 v)/\Only L.has w w':=by
 have hbv:¬ L.has w.heap.size:=fun hh=>by have:=h.lt _ hh;omega
 go_enter Tryz.func158,Tryz.ntmps158
 go_wp2_with (go_at_call 156;refine(Jw H C _ hH (by omega)).mono ?_;rintro e w1 ⟨rfl,rfl⟩)
 refine ZT (fun W=>Z8 W L s/\ZP W w.heap.size c0 c1 c2 c3 c4 c5 c6 L.p who/\Only L.has w W) ⟨h.alloc _,ZP.new,(Only.refl _ _).alloc _⟩ ?_
 rintro W ⟨m1,v1,o1⟩
 apply QO (R:=Only L.has) (fun p W'=>match p with | 0=>Z8 W' L s | _=>Z8 W' L ((s.by who).step 1 v)) [7] yu (fun x y p h k=>by match p,k with | 0,k=>exact k.below h | p+1,k=>exact k.below h) m1.drew;. kernel_rfl
 apply pV;. intro w' hR _;apply ol;obtain⟨y0,y1,y2,y3,y4,y5,y6,y7,y8⟩:=(v1.grown ((Below.refl _ _).drew)).only hR hbv;go_simp;exact gl
 apply pV;. intro w' hR _;apply ol;go_simp;exact cc (Xq _)
 iterate 3 (apply pV;. intros;apply ol;go_simp;exact gl)
 apply pV (c:=iV ((C:Int)+1));. intro w' hR _;apply ol;go_simp;exact⟨Grown.refl _,by simp only[Want.pred];rw[IntKind.wrap_i64];exact congrArg (Value.int .i64) (by omega)⟩
 try simp only[pu,s0,s1]
 apply pV;. intro w' hR _;apply ol;go_simp;exact cc (Nl Q C _ hQ hC)
 apply uV (c:=.bool d)
 . intro w' hR _ hP
   apply ol
   go_simp
   refine(Yj (s:=s) hP _ _ _ _ _ _ _ _ 1 hn _ _).mono ?_
   rintro e w'' ⟨rfl,m2,o2⟩
   have m3:Z8 w'' L ((s.by who).step 1 v):=by
    rcases HZ with⟨e,-,-,rfl⟩ | ⟨e,-,-,rfl⟩
    . rw[<- show (s.by who).Wq 1 (ZC H C) (ZC Q (C+1))=(s.by who).step 1 (ZC Q (C+1)) from if_pos e];exact m2
    . rw[<- show (s.by who).Wq 1 (ZC H C) (ZC Q (C+1))=(s.by who).step 1 (s.wd 1) from if_neg e];exact m2
   refine⟨_,rfl,⟨o2,m3⟩,?_⟩
   exact congrArg Value.bool HZ.dec.1
 try simp only[pu,s0,s1]
 intro w2 hR m2 _
 have Gw:Z8 w2 L ((s.by who).step 1 v):=m2
 have o2:Only L.has w w2:=o1.drew.trans hR
 clear m1 v1 o1 hR m2
 rcases HZ with⟨-,rfl,rfl,rfl⟩ | ⟨-,rfl,rfl,rfl⟩
 all_goals
  go_wp2
  go_ret
  exact⟨rfl,Gw,o2⟩
theorem BH {w:World} {L:Loc} {s:Mm} (h:Z8 w L s) (c0 c1 c2 c3 c4 c5 c6 who:Int) (H C sl:Nat) (hn:1<s.n) (hH:H<=65536) (hC:C<=1000000) (hs:sl<=65535) {d:Bool} {z v:Int} (HZ:Nk s H C (ZC (sl+1) (C+1)) d z v) :
 Calls Tryz.prog 158 #[eV c0 c1 c2 c3 c4 c5 c6 L.p who,.int .u64 (ZC H C),iV sl] w fun e w'=>e=.returned (iV z)/\Z8 w' L ((s.by who).step 1 v)/\Only L.has w w':=by
 have k:=swap_any h c0 c1 c2 c3 c4 c5 c6 who H C (sl+1) hn hH hC (by omega) HZ
 have e:((sl+1:Nat):Int) - 1=sl:=by omega
 rwa [e] at k
set_option maxHeartbeats 400000 in
theorem Qc {w:World} {L:Loc} {s:Mm} {b o:Nat} {T:TypeId} {cs:Array Value} {tp sl bh:Int} (h:Z8 w L s) (hb:¬ L.has b) (hi:At w b o T cs (Uo 0 tp sl bh)) (c0 c1 c2 c3 c4 c5 c6 who:Int) (H C:Nat) (hn:1<s.n) (hw:s.wd 1=ZC H C) (hC:C<=1000000) (hH:H<=65536) {d:Bool} {z:Int} (hd:decide (0<=(H:Int) - 1/\(H:Int) - 1<c1)=d) (hz:(d=true/\z=1)\/(d=false/\z=4)) :
 Calls Tryz.prog 155 #[pP b o,eV c0 c1 c2 c3 c4 c5 c6 L.p who] w fun e w'=>e=.returned (.tuple #[])/\∃ cs',Z8 w' L ((s.by who).step 1 (s.wd 1))/\At w' b o T cs' (Uo z (ZC H C) ((H:Int) - 1) bh)/\Same o 4 cs cs'/\Only (L.and b) w w':=by
 obtain⟨hbv,hbb⟩:=nb h hi.lt
 have t1:=fun w=>Jw H C w (by omega) (by omega)
 obtain⟨X,hX⟩:∃ X,s.wd 1=X:=⟨_,rfl⟩
 rw[hX] at hw ⊢
 subst hw
 go_enter Tryz.func155,Tryz.ntmps155
 go_wp2
 refine wo b h (fun _ g=>hi.grown g) ?_
 rintro W ⟨m1,i1,v1,o1⟩
 apply QO (R:=Only (L.and b)) (UL L b o T cs (cs.setIfInBounds (o+1) (.int .u64 (ZC H C))) s ((s.by who).step 1 (ZC H C)) (Uo 0 tp sl bh) (Uo 0 (ZC H C) sl bh)) [3,6] yu Y8 ⟨m1.drew,i1.drew⟩;. kernel_rfl
 apply pV;. intros;apply ol;go_simp;exact gl
 apply pV;. intro w' hR _;apply ol;obtain⟨y0,y1,y2,y3,y4,y5,y6,y7,y8⟩:=(v1.grown ((Below.refl _ _).drew)).only hR (fun hh=>hh.elim hbv hbb);go_simp;exact gl
 apply pV;. intro w' hR _;apply ol;go_simp;exact cc (Xq _)
 apply pV (c:=.int .u64 (ZC H C));. intro w' hR _ hP;apply ol;go_simp;refine(Zj (s:=s) hP.1 _ _ _ _ _ _ _ _ 1 hn).mono ?_;rintro e w'' ⟨rfl,m2,o2⟩;rw[hX] at m2;exact⟨_,rfl,⟨o2.XH,m2,hP.2.only o2 hb⟩,by simp[Want.pred,hX]⟩
 iterate 2 (apply pV;. intros;apply ol;go_simp;exact gl)
 try simp only[pu,s0,s1]
 apply OE;. intro w' hR _ hP;apply ol;have z0:=hP.2.cell 1 rfl;have z1:=hP.2.fz;go_simp;exact⟨⟨(Only.refl _ _).set _ _,hP.1.ZY hb _ _,hP.2.set 1 _⟩,trivial⟩
 try simp only[pn]
 intro v w2 hR hP _
 obtain⟨m2,i2⟩:Z8 w2 L ((s.by who).step 1 (ZC H C))/\At w2 b o T (cs.setIfInBounds (o+1) (.int .u64 (ZC H C))) (Uo 0 (ZC H C) sl bh):=hP
 have o2:Only (L.and b) w w2:=o1.drew.trans hR
 have v2:=(v1.grown ((Below.refl _ _).drew)).only hR (fun hh=>hh.elim hbv hbb)
 have s2:Same o 4 cs (cs.setIfInBounds (o+1) (.int .u64 (ZC H C))):=Same.refl.set (by omega) _
 clear hR o1 v1 m1 i1 hX
 have k0:=i2.cell0 rfl
 have k1:=i2.cell 1 rfl
 have k2:=i2.cell 2 rfl
 have kf:=i2.fz
 go_wp2_with (go_at_call 156;refine(t1 _).mono ?_;rintro e w1 ⟨rfl,rfl⟩)
 have i3:=(i2.set 2 (iV ((H:Int) - 1))).set0 (iV 1)
 have m3:=(m2.ZY hb (o+2) (iV ((H:Int) - 1))).ZY hb o (iV 1)
 have o3:=(o2.set (o+2) (iV ((H:Int) - 1))).set o (iV 1)
 have s3:=(s2.set (j:=o+2) (by omega) (iV ((H:Int) - 1))).set (j:=o) (by omega) (iV 1)
 refine ZT (fun W=>Z8 W L _/\At W b o T _ (Uo 1 (ZC H C) ((H:Int) - 1) bh)/\ZP W w.heap.size c0 c1 c2 c3 c4 c5 c6 L.p who/\Only (L.and b) w W) ⟨m3,i3,(v2.ZY hbb _ _).ZY hbb _ _,o3⟩ ?_
 clear m2 i2 o2 v2 s2 k0 k1 k2 kf m3 i3 o3
 rintro W3 ⟨m3,i3,v3,o3⟩
 have e0:=fun N:Later W3=>(v3.grown N.below).c0
 have e1:=fun N:Later W3=>(v3.grown N.below).c1
 have e2:=fun N:Later W3=>(v3.grown N.below).c2
 have e3:=fun N:Later W3=>(v3.grown N.below).c3
 have e4:=fun N:Later W3=>(v3.grown N.below).c4
 have e5:=fun N:Later W3=>(v3.grown N.below).c5
 have e6:=fun N:Later W3=>(v3.grown N.below).c6
 have e7:=fun N:Later W3=>(v3.grown N.below).c7
 have e8:=fun N:Later W3=>(v3.grown N.below).c8
 have e9:=fun N:Later W3=>(i3.grown N.below).cell 2 rfl
 haveI:=Later.exists W3
 try simp only[iV]
 try simp only[pP]
 try simp only[eV]
 refine Zp (by kernel_rfl) (by kernel_rfl) ?_
 repeat (go_big_quiet_step ((go_at_call 169;exact Calls.later (Us L _ _ _ _ _ _ _ _ _ _ d hd))))
 refine wpQuiet_nil ?_
 rintro _ ⟨nq,rfl⟩
 have i4:=i3.grown nq.below
 have m4:=m3.below nq.below
 have o4:Only (L.and b) w nq.now:=o3.trans (Only.Z5 nq.below)
 clear e0 e1 e2 e3 e4 e5 e6 e7 e8 e9 v3 i3 m3 o3
 have k0:=i4.cell0 rfl
 have kf:=i4.fz
 rcases hz with⟨rfl,rfl⟩ | ⟨rfl,rfl⟩
 . go_wp2
   go_end0
   exact⟨rfl,_,m4,i4,s3,o4⟩
 . go_wp2
   go_end0
   exact⟨rfl,_,m4.ZY hb _ _,i4.set0 _,s3.set (j:=o) (by omega) _,o4.set _ _⟩
theorem Kw {w:World} {L:Loc} {s:Mm} {b o:Nat} {T:TypeId} {cs:Array Value} {tp sl bh:Int} (h:Z8 w L s) (hb:¬ L.has b) (hi:At w b o T cs (Uo 0 tp sl bh)) (c0 c1 c2 c3 c4 c5 c6 who:Int) (H C:Nat) (hn:1<s.n) (hw:s.wd 1=ZC (H+1) C) (hC:C<=1000000) (hH:H<=65535) (yes:(H:Int)<c1) :
 Calls Tryz.prog 142 #[pP b o,eV c0 c1 c2 c3 c4 c5 c6 L.p who] w fun e w'=>e=.returned (.bool false)/\∃ cs',Z8 w' L ((s.by who).step 1 (s.wd 1))/\At w' b o T cs' (Uo 1 (ZC (H+1) C) (H:Int) bh)/\Same o 4 cs cs'/\Only (L.and b) w w':=by
 have k0:=hi.cell0 rfl
 have m1:=h.alloc (.cells #[iV c0,iV c1,iV c2,iV c3,iV c4,iV c5,iV c6,pP L.p 0,iV who] 27)
 have i1:=hi.grown (Z7 (Below.refl _ _) (.cells #[iV c0,iV c1,iV c2,iV c3,iV c4,iV c5,iV c6,pP L.p 0,iV who] 27))
 have o1:Only (L.and b) w (w.alloc (.cells #[iV c0,iV c1,iV c2,iV c3,iV c4,iV c5,iV c6,pP L.p 0,iV who] 27)):=(Only.refl _ _).alloc _
 have k1:=i1.cell0 rfl
 go_enter Tryz.func142,Tryz.ntmps142
 go_wp2_with (go_at_call 155;refine(Qc m1 hb i1 _ _ _ _ _ _ _ _ (H+1) C hn hw hC (by omega) (d:=true) (decide_eq_true ⟨by omega,by omega⟩) (Or.inl ⟨rfl,rfl⟩)).mono ?_;rintro e w2 ⟨rfl,cs',m2,i2,s2,o2⟩;rw[show ((H+1:Nat):Int) - 1=H by omega] at i2;have k2:=i2.cell0 rfl)
 go_ret
 exact⟨rfl,cs',m2,i2,s2,o1.trans o2⟩
theorem Kv {w:World} {L:Loc} {s:Mm} {b o:Nat} {T:TypeId} {cs:Array Value} {tp sl bh:Int} (h:Z8 w L s) (hb:¬ L.has b) (hi:At w b o T cs (Uo 0 tp sl bh)) (c0 c1 c2 c3 c4 c5 c6 who:Int) (C:Nat) (hn:1<s.n) (hw:s.wd 1=ZC 0 C) (hC:C<=1000000)  :
 Calls Tryz.prog 142 #[pP b o,eV c0 c1 c2 c3 c4 c5 c6 L.p who] w fun e w'=>e=.returned (.bool true)/\∃ cs',Z8 w' L ((s.by who).step 1 (s.wd 1))/\At w' b o T cs' (Uo 4 (ZC 0 C) (-1:Int) bh)/\Same o 4 cs cs'/\Only (L.and b) w w':=by
 have k0:=hi.cell0 rfl
 have m1:=h.alloc (.cells #[iV c0,iV c1,iV c2,iV c3,iV c4,iV c5,iV c6,pP L.p 0,iV who] 27)
 have i1:=hi.grown (Z7 (Below.refl _ _) (.cells #[iV c0,iV c1,iV c2,iV c3,iV c4,iV c5,iV c6,pP L.p 0,iV who] 27))
 have o1:Only (L.and b) w (w.alloc (.cells #[iV c0,iV c1,iV c2,iV c3,iV c4,iV c5,iV c6,pP L.p 0,iV who] 27)):=(Only.refl _ _).alloc _
 have k1:=i1.cell0 rfl
 go_enter Tryz.func142,Tryz.ntmps142
 go_wp2_with (go_at_call 155;refine(Qc m1 hb i1 _ _ _ _ _ _ _ _ 0 C hn hw hC (by omega) (d:=false) (decide_eq_false (by omega)) (Or.inr ⟨rfl,rfl⟩)).mono ?_;rintro e w2 ⟨rfl,cs',m2,i2,s2,o2⟩;have k2:=i2.cell0 rfl)
 go_ret
 exact⟨rfl,cs',m2,i2,s2,o1.trans o2⟩
theorem Ku {w:World} {L:Loc} {s:Mm} {b o:Nat} {T:TypeId} {cs:Array Value} {tp bh:Int} (h:Z8 w L s) (hb:¬ L.has b) {sl:Nat} (hi:At w b o T cs (Uo 1 tp sl bh)) (c0 c1 c2 c3 c4 c5 c6 who:Int) (Q A:Nat) (hA:(6:Int)+c0+(sl:Int) * 2+1=A) (ht0:0<=c0) (SY:c0<=8) (hs:sl<=65535) (hn:A<s.n) (hw:s.wd A=ZC Q 0) (hQ:Q<=65536) :
 Calls Tryz.prog 142 #[pP b o,eV c0 c1 c2 c3 c4 c5 c6 L.p who] w fun e w'=>e=.returned (.bool false)/\∃ cs',Z8 w' L ((s.by who).step A (s.wd A))/\At w' b o T cs' (Uo 2 tp sl ((Q:Int) - 1))/\Same o 4 cs cs'/\Only (L.and b) w w':=by
 obtain⟨hbv,hbb⟩:=nb h hi.lt
 have k0:=fun O=>WC (hi.cell0 rfl) O
 have HA:Hid ((6:Int)+c0+(sl:Int) * 2+1=A):=hA
 clear hA
 obtain⟨X,hX⟩:∃ X,s.wd A=X:=⟨_,rfl⟩
 rw[hX] at hw ⊢
 have HX:Hid (s.wd A=ZC Q 0):=hX.trans hw
 subst hw
 clear hX
 go_enter Tryz.func142,Tryz.ntmps142
 go_wp2
 refine wo b h (fun _ g=>hi.grown g) ?_
 rintro W ⟨m1,i1,v1,o1⟩
 apply QO (R:=ZO L b (o+3)) (UL L b o T cs (cs.setIfInBounds (o+3) (iV ((Q:Int) - 1))) s ((s.by who).step A (ZC Q 0)) (Uo 1 tp sl bh) (Uo 1 tp sl ((Q:Int) - 1))) [8,15] MQ Y8 ⟨m1.drew,i1.drew⟩;. kernel_rfl
 apply pV;. intros;apply ol;go_simp;exact gl
 apply pV;. intro w' hR _;apply ol;have y:=(v1.dn hR.only hbv hbb).yy;go_simp;exact gl
 apply pV;. intro w' hR _;apply ol;have y:=(v1.dn hR.only hbv hbb).yy;go_simp;exact gl
 iterate 3 (apply pV;. intros;apply ol;go_simp;exact gl)
 try simp only[pu,s0,s1]
 apply pV;. intro w' hR _;apply ol;have z:=hR.keep (j:=o+2) (by omega) (i1.drew.cell 2 rfl);go_simp;exact gl
 apply pV (c:=iV A);. intro w' hR _;apply ol;go_simp;refine(Qd L _ _ _ _ _ _ _ _ _ _ ⟨ht0,SY⟩ (by omega)).mono ?_;rintro e w'' ⟨rfl,b9⟩;exact⟨_,rfl,b9,by rw[HA.out];rfl⟩
 apply pV (c:=.int .u64 (ZC Q 0));. intro w' hR _ hP;apply ol;go_simp;refine(Zj (s:=s) hP.1 _ _ _ _ _ _ _ _ A hn).mono ?_;rintro e w'' ⟨rfl,m2,o2⟩;rw[HX.out] at m2;exact⟨_,rfl,⟨ZO.Yq o2 hb,m2,hP.2.only o2 hb⟩,by simp[Want.pred,HX.out]⟩
 apply pV;. intro w' hR _;apply ol;go_simp;exact cc (Jw Q 0 _ hQ (by omega))
 iterate 2 (apply pV;. intros;apply ol;go_simp;exact gl)
 try simp only[pu,s0,s1]
 iterate 3 (apply pV;. intros;apply ol;go_simp;exact gl)
 apply OE;. intro w' hR _ hP;apply ol;have z0:=hP.2.cell 3 rfl;have z1:=hP.2.fz;go_simp;exact⟨⟨ZO.set _ _,hP.1.ZY hb _ _,hP.2.set 3 _⟩,trivial⟩
 try simp only[pu,s0,s1]
 try simp only[pn]
 intro v w2 hR hP _
 obtain⟨m2,i2⟩:Z8 w2 L ((s.by who).step A (ZC Q 0))/\At w2 b o T (cs.setIfInBounds (o+3) (iV ((Q:Int) - 1))) (Uo 1 tp sl ((Q:Int) - 1)):=hP
 have o2:Only (L.and b) w w2:=o1.drew.trans hR.only
 have s2:Same o 4 cs (cs.setIfInBounds (o+3) (iV ((Q:Int) - 1))):=Same.refl.set (by omega) _
 clear hR o1 v1 m1 i1 k0 HX HA
 have k0:=i2.cell0 rfl
 have kf:=i2.fz
 go_wp2
 go_ret
 exact⟨rfl,_,m2.ZY hb _ _,i2.set0 _,s2.set (j:=o) (by omega) _,o2.set _ _⟩
theorem QZ {w:World} {L:Loc} {s:Mm} {b o:Nat} {T:TypeId} {cs:Array Value} {sl:Int} (h:Z8 w L s) (hb:¬ L.has b) (H C Q:Nat) (hi:At w b o T cs (Uo 2 (ZC H C) sl ((Q:Int) - 1))) (c0 c1 c2 c3 c4 c5 c6 who:Int) (hn:1<s.n) (hH:H<=65536) (hC:C<=1000000) (hQ:Q<=65536) {d:Bool} {z nv:Int} (HZ:Nk s H C (ZC Q (C+1)) d z nv) :
 Calls Tryz.prog 142 #[pP b o,eV c0 c1 c2 c3 c4 c5 c6 L.p who] w fun e w'=>e=.returned (.bool d)/\∃ cs',Z8 w' L ((s.by who).step 1 nv)/\At w' b o T cs' (Uo z (ZC H C) sl ((Q:Int) - 1))/\Same o 4 cs cs'/\Only (L.and b) w w':=by
 obtain⟨hbv,hbb⟩:=nb h hi.lt
 have k0:=fun O=>WC (hi.cell0 rfl) O
 have HW:Hid (Nk s H C (ZC Q (C+1)) d z nv):=HZ
 clear HZ
 go_enter Tryz.func142,Tryz.ntmps142
 go_wp2
 refine ZT (fun W=>Z8 W L s/\At W b o T cs (Uo 2 (ZC H C) sl ((Q:Int) - 1))/\ZP W w.heap.size c0 c1 c2 c3 c4 c5 c6 L.p who/\Only (L.and b) w W) ⟨h.alloc _,hi.grown (Z7 (Below.refl _ _) _),ZP.new,(Only.refl _ _).alloc _⟩ ?_
 rintro W ⟨m1,i1,v1,o1⟩
 apply QO (R:=ZO L b o) (UL L b o T cs (cs.setIfInBounds o (iV z)) s ((s.by who).step 1 nv) (Uo 2 (ZC H C) sl ((Q:Int) - 1)) (Uo z (ZC H C) sl ((Q:Int) - 1))) [10,13] MQ Y8 ⟨m1.drew,i1.drew⟩;. kernel_rfl
 apply pV;. intros;apply ol;go_simp;exact gl
 apply pV;. intro w' hR _;apply ol;have y:=(v1.dn hR.only hbv hbb).yy;go_simp;exact gl
 iterate 3 (apply pV;. intros;apply ol;go_simp;exact gl)
 apply pV;. intro w' hR _;apply ol;have z:=hR.keep (j:=o+1) (by omega) (i1.drew.cell 1 rfl);go_simp;exact gl
 try simp only[pu,s0,s1]
 iterate 3 (apply pV;. intros;apply ol;go_simp;exact gl)
 apply pV;. intro w' hR _;apply ol;have z:=hR.keep (j:=o+3) (by omega) (i1.drew.cell 3 rfl);go_simp;exact gl
 apply pV (c:=iV z);. intro w' hR _ hP;apply ol;go_simp;refine(swap_any (s:=s) hP.1 _ _ _ _ _ _ _ _ H C Q hn hH hC hQ HW.out).mono ?_;rintro e w'' ⟨rfl,m2,o2⟩;exact⟨_,rfl,⟨ZO.Yq o2 hb,m2,hP.2.only o2 hb⟩,rfl⟩
 apply pV;. intros;apply ol;go_simp;exact gl
 try simp only[pu,s0,s1]
 apply pV;. intros;apply ol;go_simp;exact gl
 apply OE;. intro w' hR _ hP;apply ol;have z0:=hP.2.cell0 rfl;have z1:=hP.2.fz;go_simp;exact⟨⟨ZO.set _ _,hP.1.ZY hb _ _,hP.2.set0 _⟩,trivial⟩
 try simp only[pu,s0,s1]
 try simp only[pn]
 intro v w2 hR hP _
 obtain⟨m2,i2⟩:Z8 w2 L ((s.by who).step 1 nv)/\At w2 b o T (cs.setIfInBounds o (iV z)) (Uo z (ZC H C) sl ((Q:Int) - 1)):=hP
 have o2:Only (L.and b) w w2:=o1.drew.trans hR.only
 have s2:Same o 4 cs (cs.setIfInBounds o (iV z)):=Same.refl.set (by omega) _
 clear hR o1 v1 m1 i1 k0
 have k0:=i2.cell0 rfl
 have kf:=i2.fz
 rcases HW.out with⟨-,rfl,rfl,rfl⟩ | ⟨-,rfl,rfl,rfl⟩
 all_goals
  go_wp2
  go_ret
  exact⟨rfl,_,m2,i2,s2,o2⟩
theorem Kt {w:World} {L:Loc} {s:Mm} {b o:Nat} {T:TypeId} {cs:Array Value} {tp:Int} {sl:Nat} (h:Z8 w L s) (hb:¬ L.has b) (hi:At w b o T cs (U3 0 sl tp)) (c0 c1 c2 c3 c4 c5 c6 who:Int) (H C:Nat) (hn:1<s.n) (hsl:(sl:Int)<c1) (hw:s.wd 1=ZC H C) :
 Calls Tryz.prog 154 #[pP b o,eV c0 c1 c2 c3 c4 c5 c6 L.p who] w fun e w'=>e=.returned (.bool false)/\∃ cs',Z8 w' L ((s.by who).step 1 (s.wd 1))/\At w' b o T cs' (U3 1 sl (ZC H C))/\Same o 3 cs cs'/\Only (L.and b) w w':=by
 have hn1:decide ((s.n:Int)<=1)=false:=decide_eq_false (by omega)
 obtain⟨hbv,hbb⟩:=nb h hi.lt
 obtain⟨X,hX⟩:∃ X,s.wd 1=X:=⟨_,rfl⟩
 rw[hX] at hw ⊢
 have HX:Hid (s.wd 1=ZC H C):=hX.trans hw
 subst hw
 clear hX
 go_enter Tryz.func154,Tryz.ntmps154
 go_wp2
 refine wo b h (fun _ g=>hi.grown g) ?_
 rintro W ⟨m1,i1,v1,o1⟩
 have e0:=fun N:Later W=>(v1.grown N.below).c0
 have e1:=fun N:Later W=>(v1.grown N.below).c1
 have e2:=fun N:Later W=>(v1.grown N.below).c2
 have e3:=fun N:Later W=>(v1.grown N.below).c3
 have e4:=fun N:Later W=>(v1.grown N.below).c4
 have e5:=fun N:Later W=>(v1.grown N.below).c5
 have e6:=fun N:Later W=>(v1.grown N.below).c6
 have e7:=fun N:Later W=>(v1.grown N.below).c7
 have e8:=fun N:Later W=>(v1.grown N.below).c8
 have e9:=fun N:Later W=>(i1.grown N.below).cell 1 rfl
 have hm:=fun N:Later W=>m1.below N.below
 haveI:=Later.exists W
 try simp only[iV]
 try simp only[pP]
 try simp only[eV]
 refine Zp (by kernel_rfl) (by kernel_rfl) ?_
 repeat (go_big_quiet_step ((first
  | (go_at_call 169;exact Calls.later (Us L _ _ _ _ _ _ _ _ _ _ true (decide_eq_true ⟨by omega,by omega⟩)))
  | (go_at_call 49;exact Calls.Yy (Xq _))
  | (go_at_call 168;exact Calls.Yy (len_any (hm _))))))
 refine wpQuiet_nil ?_
 rintro _ ⟨nq,rfl⟩
 clear e0 e1 e2 e3 e4 e5 e6 e7 e8 e9 hm hn1
 have i2:=i1.grown nq.below
 have m2:=m1.below nq.below
 have v2:=v1.grown nq.below
 have o2:Only (L.and b) w nq.now:=o1.trans (Only.Z5 nq.below)
 have k0:=i2.cell0 rfl
 have k2:=i2.cell 2 rfl
 have kf:=i2.fz
 clear m1 i1 v1 o1
 go_wp2
 refine ZT (fun W=>Z8 W L s/\At W b o T cs (U3 0 sl tp)/\ZP W w.heap.size c0 c1 c2 c3 c4 c5 c6 L.p who/\Only (L.and b) w W) ⟨m2,i2,v2,o2⟩ ?_
 clear m2 i2 v2 o2 k0 k2 kf
 rintro W ⟨m1,i1,v1,o1⟩
 apply QO (R:=ZO L b (o+2)) (UL L b o T cs (cs.setIfInBounds (o+2) (.int .u64 (ZC H C))) s ((s.by who).step 1 (ZC H C)) (U3 0 sl tp) (U3 0 sl (ZC H C))) [3,6] MQ Y8 ⟨m1.drew,i1.drew⟩;. kernel_rfl
 apply pV;. intros;apply ol;go_simp;exact gl
 apply pV;. intro w' hR _;apply ol;have y:=(v1.dn hR.only hbv hbb).yy;go_simp;exact gl
 apply pV;. intro w' hR _;apply ol;go_simp;exact cc (Xq _)
 apply pV (c:=.int .u64 (ZC H C));. intro w' hR _ hP;apply ol;go_simp;refine(Zj (s:=s) hP.1 _ _ _ _ _ _ _ _ 1 hn).mono ?_;rintro e w'' ⟨rfl,m2,o2⟩;rw[HX.out] at m2;exact⟨_,rfl,⟨ZO.Yq o2 hb,m2,hP.2.only o2 hb⟩,by simp[Want.pred,HX.out]⟩
 iterate 2 (apply pV;. intros;apply ol;go_simp;exact gl)
 try simp only[pu,s0,s1]
 apply OE;. intro w' hR _ hP;apply ol;have z0:=hP.2.cell 2 rfl;have z1:=hP.2.fz;go_simp;exact⟨⟨ZO.set _ _,hP.1.ZY hb _ _,hP.2.set 2 _⟩,trivial⟩
 try simp only[pn]
 intro v w2 hR hP _
 obtain⟨m2,i2⟩:Z8 w2 L ((s.by who).step 1 (ZC H C))/\At w2 b o T (cs.setIfInBounds (o+2) (.int .u64 (ZC H C))) (U3 0 sl (ZC H C)):=hP
 have o2:Only (L.and b) w w2:=o1.drew.trans hR.only
 have s2:Same o 3 cs (cs.setIfInBounds (o+2) (.int .u64 (ZC H C))):=Same.refl.set (by omega) _
 clear hR o1 v1 m1 i1 HX
 have k0:=i2.cell0 rfl
 have kf:=i2.fz
 go_wp2
 go_ret
 exact⟨rfl,_,m2.ZY hb _ _,i2.set0 _,s2.set (j:=o) (by omega) _,o2.set _ _⟩
theorem GY {w:World} {L:Loc} {s:Mm} {b o:Nat} {T:TypeId} {cs:Array Value} {sl:Nat} (h:Z8 w L s) (hb:¬ L.has b) (H C A:Nat) (hi:At w b o T cs (U3 1 sl (ZC H C))) (c0 c1 c2 c3 c4 c5 c6 who:Int) (hA:(6:Int)+c0+(sl:Int) * 2+1=A) (ht0:0<=c0) (SY:c0<=8) (hs:sl<=65535) (hn:A<s.n) (hsl:(sl:Int)<c1) (hH:H<=65536) (hC:C<=1000000) :
 Calls Tryz.prog 154 #[pP b o,eV c0 c1 c2 c3 c4 c5 c6 L.p who] w fun e w'=>e=.returned (.bool false)/\∃ cs',Z8 w' L ((s.by who).step A (ZC H 0))/\At w' b o T cs' (U3 2 sl (ZC H C))/\Same o 3 cs cs'/\Only (L.and b) w w':=by
 have hn1:decide ((s.n:Int)<=1)=false:=decide_eq_false (by omega)
 obtain⟨hbv,hbb⟩:=nb h hi.lt
 have HA:Hid ((6:Int)+c0+(sl:Int) * 2+1=A):=hA
 clear hA
 go_enter Tryz.func154,Tryz.ntmps154
 go_wp2
 refine ZT (fun W=>Z8 W L s/\At W b o T cs (U3 1 sl (ZC H C))/\ZP W w.heap.size c0 c1 c2 c3 c4 c5 c6 L.p who/\Only (L.and b) w W) ⟨h.alloc _,hi.grown (Z7 (Below.refl _ _) _),ZP.new,(Only.refl _ _).alloc _⟩ ?_
 rintro W ⟨m1,i1,v1,o1⟩
 have e0:=fun N:Later W=>(v1.grown N.below).c0
 have e1:=fun N:Later W=>(v1.grown N.below).c1
 have e2:=fun N:Later W=>(v1.grown N.below).c2
 have e3:=fun N:Later W=>(v1.grown N.below).c3
 have e4:=fun N:Later W=>(v1.grown N.below).c4
 have e5:=fun N:Later W=>(v1.grown N.below).c5
 have e6:=fun N:Later W=>(v1.grown N.below).c6
 have e7:=fun N:Later W=>(v1.grown N.below).c7
 have e8:=fun N:Later W=>(v1.grown N.below).c8
 have e9:=fun N:Later W=>(i1.grown N.below).cell 1 rfl
 have hm:=fun N:Later W=>m1.below N.below
 haveI:=Later.exists W
 try simp only[iV]
 try simp only[pP]
 try simp only[eV]
 refine Zp (by kernel_rfl) (by kernel_rfl) ?_
 repeat (go_big_quiet_step ((first
  | (go_at_call 169;exact Calls.later (Us L _ _ _ _ _ _ _ _ _ _ true (decide_eq_true ⟨by omega,by omega⟩)))
  | (go_at_call 49;exact Calls.Yy (Xq _))
  | (go_at_call 168;exact Calls.Yy (len_any (hm _))))))
 refine wpQuiet_nil ?_
 rintro _ ⟨nq,rfl⟩
 clear e0 e1 e2 e3 e4 e5 e6 e7 e8 e9 hm hn1
 have i2:=i1.grown nq.below
 have m2:=m1.below nq.below
 have v2:=v1.grown nq.below
 have o2:Only (L.and b) w nq.now:=o1.trans (Only.Z5 nq.below)
 have k0:=i2.cell0 rfl
 have k2:=i2.cell 2 rfl
 have kf:=i2.fz
 clear m1 i1 v1 o1
 go_wp2_with (go_at_call 156;refine(Jw H C _ hH (by omega)).mono ?_;rintro e w1 ⟨rfl,rfl⟩)
 refine ZT (fun W=>Z8 W L s/\At W b o T cs (U3 1 sl (ZC H C))/\ZP W w.heap.size c0 c1 c2 c3 c4 c5 c6 L.p who/\Only (L.and b) w W) ⟨m2,i2,v2,o2⟩ ?_
 clear m2 i2 v2 o2 k0 k2 kf
 rintro W ⟨m1,i1,v1,o1⟩
 apply QO (R:=Only L.has) (fun p W'=>match p with | 0=>Z8 W' L s | _=>Z8 W' L ((s.by who).step A (ZC H 0))) [9] yu (fun x y p h k=>by match p,k with | 0,k=>exact k.below h | p+1,k=>exact k.below h) m1.drew;. kernel_rfl
 apply pV;. intro w' hR _;apply ol;obtain⟨y0,y1,y2,y3,y4,y5,y6,y7,y8⟩:=(v1.grown ((Below.refl _ _).drew)).only hR hbv;go_simp;exact gl
 apply pV;. intro w' hR _;apply ol;obtain⟨y0,y1,y2,y3,y4,y5,y6,y7,y8⟩:=(v1.grown ((Below.refl _ _).drew)).only hR hbv;go_simp;exact gl
 iterate 3 (apply pV;. intros;apply ol;go_simp;exact gl)
 apply pV;. intro w' hR _;apply ol;have z:=(i1.drew.only hR hb).cell 1 rfl;go_simp;exact gl
 try simp only[pu,s0,s1]
 apply pV (c:=iV A);. intro w' hR _;apply ol;go_simp;refine(Qd L _ _ _ _ _ _ _ _ _ _ ⟨ht0,SY⟩ (by omega)).mono ?_;rintro e w'' ⟨rfl,b9⟩;exact⟨_,rfl,b9,by rw[HA.out];rfl⟩
 apply pV;. intros;apply ol;go_simp;exact gl
 apply pV;. intro w' hR _;apply ol;go_simp;exact cc (Np H 0 _ hH (by omega))
 apply OE;. intro w' hR _ hP;apply ol;go_simp;refine(WX (s:=s) hP _ _ _ _ _ _ _ _ A hn _).mono ?_;rintro e w'' ⟨rfl,m2,o2⟩;exact⟨_,rfl,⟨o2,m2⟩,trivial⟩
 try simp only[pu,s0,s1]
 try simp only[pn]
 intro v w2 hR hP _
 have m2:Z8 w2 L ((s.by who).step A (ZC H 0)):=hP
 have i2:=i1.drew.only hR hb
 have o2:Only (L.and b) w w2:=o1.drew.trans hR.XH
 clear hR o1 v1 m1 i1 HA hP
 have k0:=i2.cell0 rfl
 have kf:=i2.fz
 go_wp2
 go_ret
 exact⟨rfl,_,m2.ZY hb _ _,i2.set0 _,Same.refl.set (j:=o) (by omega) _,o2.set _ _⟩
theorem QY {w:World} {L:Loc} {s:Mm} {b o:Nat} {T:TypeId} {cs:Array Value} {sl:Nat} (h:Z8 w L s) (hb:¬ L.has b) (H C:Nat) (hi:At w b o T cs (U3 2 sl (ZC H C))) (c0 c1 c2 c3 c4 c5 c6 who:Int) (hn:1<s.n) (hsl:(sl:Int)<c1) (hs:sl<=65535) (hH:H<=65536) (hC:C<=1000000) {d:Bool} {z nv:Int} (HZ:Nk s H C (ZC (sl+1) (C+1)) d z nv) :
 Calls Tryz.prog 154 #[pP b o,eV c0 c1 c2 c3 c4 c5 c6 L.p who] w fun e w'=>e=.returned (.bool d)/\∃ cs',Z8 w' L ((s.by who).step 1 nv)/\At w' b o T cs' (U3 z sl (ZC H C))/\Same o 3 cs cs'/\Only (L.and b) w w':=by
 have hn1:decide ((s.n:Int)<=1)=false:=decide_eq_false (by omega)
 obtain⟨hbv,hbb⟩:=nb h hi.lt
 have HW:Hid (Nk s H C (ZC (sl+1) (C+1)) d z nv):=HZ
 clear HZ
 go_enter Tryz.func154,Tryz.ntmps154
 go_wp2
 refine ZT (fun W=>Z8 W L s/\At W b o T cs (U3 2 sl (ZC H C))/\ZP W w.heap.size c0 c1 c2 c3 c4 c5 c6 L.p who/\Only (L.and b) w W) ⟨h.alloc _,hi.grown (Z7 (Below.refl _ _) _),ZP.new,(Only.refl _ _).alloc _⟩ ?_
 rintro W ⟨m1,i1,v1,o1⟩
 have e0:=fun N:Later W=>(v1.grown N.below).c0
 have e1:=fun N:Later W=>(v1.grown N.below).c1
 have e2:=fun N:Later W=>(v1.grown N.below).c2
 have e3:=fun N:Later W=>(v1.grown N.below).c3
 have e4:=fun N:Later W=>(v1.grown N.below).c4
 have e5:=fun N:Later W=>(v1.grown N.below).c5
 have e6:=fun N:Later W=>(v1.grown N.below).c6
 have e7:=fun N:Later W=>(v1.grown N.below).c7
 have e8:=fun N:Later W=>(v1.grown N.below).c8
 have e9:=fun N:Later W=>(i1.grown N.below).cell 1 rfl
 have hm:=fun N:Later W=>m1.below N.below
 haveI:=Later.exists W
 try simp only[iV]
 try simp only[pP]
 try simp only[eV]
 refine Zp (by kernel_rfl) (by kernel_rfl) ?_
 repeat (go_big_quiet_step ((first
  | (go_at_call 169;exact Calls.later (Us L _ _ _ _ _ _ _ _ _ _ true (decide_eq_true ⟨by omega,by omega⟩)))
  | (go_at_call 49;exact Calls.Yy (Xq _))
  | (go_at_call 168;exact Calls.Yy (len_any (hm _))))))
 refine wpQuiet_nil ?_
 rintro _ ⟨nq,rfl⟩
 clear e0 e1 e2 e3 e4 e5 e6 e7 e8 e9 hm hn1
 have i2:=i1.grown nq.below
 have m2:=m1.below nq.below
 have v2:=v1.grown nq.below
 have o2:Only (L.and b) w nq.now:=o1.trans (Only.Z5 nq.below)
 have k0:=i2.cell0 rfl
 have k2:=i2.cell 2 rfl
 have kf:=i2.fz
 clear m1 i1 v1 o1
 go_wp2
 refine ZT (fun W=>Z8 W L s/\At W b o T cs (U3 2 sl (ZC H C))/\ZP W w.heap.size c0 c1 c2 c3 c4 c5 c6 L.p who/\Only (L.and b) w W) ⟨m2,i2,v2,o2⟩ ?_
 clear m2 i2 v2 o2 k0 k2 kf
 rintro W ⟨m1,i1,v1,o1⟩
 apply QO (R:=ZO L b o) (UL L b o T cs (cs.setIfInBounds o (iV z)) s ((s.by who).step 1 nv) (U3 2 sl (ZC H C)) (U3 z sl (ZC H C))) [10,13] MQ Y8 ⟨m1.drew,i1.drew⟩;. kernel_rfl
 apply pV;. intros;apply ol;go_simp;exact gl
 apply pV;. intro w' hR _;apply ol;have y:=(v1.dn hR.only hbv hbb).yy;go_simp;exact gl
 iterate 3 (apply pV;. intros;apply ol;go_simp;exact gl)
 apply pV;. intro w' hR _;apply ol;have z:=hR.keep (j:=o+2) (by omega) (i1.drew.cell 2 rfl);go_simp;exact gl
 try simp only[pu,s0,s1]
 iterate 3 (apply pV;. intros;apply ol;go_simp;exact gl)
 apply pV;. intro w' hR _;apply ol;have z:=hR.keep (j:=o+1) (by omega) (i1.drew.cell 1 rfl);go_simp;exact gl
 apply pV (c:=iV z);. intro w' hR _ hP;apply ol;go_simp;refine(BH (s:=s) hP.1 _ _ _ _ _ _ _ _ H C sl hn hH hC hs HW.out).mono ?_;rintro e w'' ⟨rfl,m2,o2⟩;exact⟨_,rfl,⟨ZO.Yq o2 hb,m2,hP.2.only o2 hb⟩,rfl⟩
 apply pV;. intros;apply ol;go_simp;exact gl
 try simp only[pu,s0,s1]
 apply pV;. intros;apply ol;go_simp;exact gl
 apply OE;. intro w' hR _ hP;apply ol;have z0:=hP.2.cell0 rfl;have z1:=hP.2.fz;go_simp;exact⟨⟨ZO.set _ _,hP.1.ZY hb _ _,hP.2.set0 _⟩,trivial⟩
 try simp only[pu,s0,s1]
 try simp only[pn]
 intro v w2 hR hP _
 obtain⟨m2,i2⟩:Z8 w2 L ((s.by who).step 1 nv)/\At w2 b o T (cs.setIfInBounds o (iV z)) (U3 z sl (ZC H C)):=hP
 have o2:Only (L.and b) w w2:=o1.drew.trans hR.only
 have s2:Same o 3 cs (cs.setIfInBounds o (iV z)):=Same.refl.set (by omega) _
 clear hR o1 v1 m1 i1
 have k0:=i2.cell0 rfl
 have kf:=i2.fz
 rcases HW.out with⟨-,rfl,rfl,rfl⟩ | ⟨-,rfl,rfl,rfl⟩
 all_goals
  go_wp2
  go_ret
  exact⟨rfl,_,m2,i2,s2,o2⟩
end Go.Proofs.YtgehjolndmgffaaGreat
