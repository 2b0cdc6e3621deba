import Derived.Test.YtgehjolndmgffaaGreatLstCall
import Derived.Test.YtgehjolndmgffaaGreatFrmStep
import Derived.Test.YtgehjolndmgffaaGreatWrkLeaf
import Derived.Test.YtgehjolndmgffaaGreatLstOn
namespace Go.Proofs.YtgehjolndmgffaaGreat
open Go.RowKit
section
set_option maxRecDepth 20000
def Px (Z:Bool->World->Prop) (Y:World->Int->Int->Int->Int->Prop) (b:Nat) (S:Lr) (e:Ending) (w':World):Prop:=∃ d w6,Z d w6/\((d=false/\e=.returned (.bool false)/\w'=w6)\/(d=true/\∃ E H V St,Y w6 E H V St/\e=.returned (.bool ((S.go E H V St).nx == 13))/\ZJ w' b (.pointer none) (S.go E H V St)/\Only (B1 b) w6 w'))
set_option maxRecDepth 20000 in
theorem IC {w:World} {b A P:Nat} {S:Lr} (c0 c1 c2 c3 c4 c5 c6 who:Int) (h:ZJ w b (pP A 0) S) (hk:S.kd≠0) (hne:S.nx≠13) (Z:Bool->World->Prop) (Y:World->Int->Int->Int->Int->Prop)
 (hS:∀ w1,Below w.heap.size w w1->Calls Tryz.prog 55 #[pP A 0,eV c0 c1 c2 c3 c4 c5 c6 P who] w1 fun e w'=>∃ d,e=.returned (.bool d)/\ZJ w' b (pP A 0) S/\Z d w')
 (hD:∀ w6,Z true w6->∀ w1,Below w6.heap.size w6 w1->Calls Tryz.prog 56 #[pP A 0] w1 fun e w'=>∃ E H V St,e=.returned (.agg #[iV E,.int .u64 H,iV V,iV St])/\Below w1.heap.size w1 w'/\Y w6 E H V St)
 (hO:∀ E H V St w6,Z true w6->Y w6 E H V St->∀ w1,ZJ w1 b (.pointer none) S->Calls Tryz.prog 97 #[pP b 0,.agg #[iV E,.int .u64 H,iV V,iV St]] w1 fun e w'=>e=.returned (.tuple #[])/\ZJ w' b (.pointer none) (S.go E H V St)/\Only (B1 b) w1 w') :
 Calls Tryz.prog 93 #[pP b 0,eV c0 c1 c2 c3 c4 c5 c6 P who] w fun e w'=>Px Z Y b S e w':=by
 have qa:=Rl (h.grown (ZZ w (.cells #[iV c0,iV c1,iV c2,iV c3,iV c4,iV c5,iV c6,pP P 0,iV who] 27))) hk
 obtain⟨kd,ky,hd,nx,an,al,ax,hn,hl,hx,md,cE,cH,cV,cS⟩:=S
 replace hne:(nx == 13)=false:=by simpa using hne
 clear hk
 obtain⟨c,h⟩:=h
 replace h:At w b 0 145 c [iV kd,iV ky,.int .u64 hd,iV nx,pP A 0,.int .u64 an,iV al,iV ax,.int .u64 hn,iV hl,iV hx,.int .u64 md,iV cE,.int .u64 cH,iV cV,iV cS]:=h
 have h1:=h.grown (ZZ w (.cells #[iV c0,iV c1,iV c2,iV c3,iV c4,iV c5,iV c6,pP P 0,iV who] 27))
 have k3:=h1.at0 3 rfl
 have k4:=h1.at0 4 rfl
 go_enter Tryz.func93,Tryz.ntmps93
 go_wp2_with (go_at_call 95;refine qa.mono ?_;rintro e w1 ⟨rfl,rfl⟩)
 refine ZT (fun W=>At W b 0 145 c [iV kd,iV ky,.int .u64 hd,iV nx,pP A 0,.int .u64 an,iV al,iV ax,.int .u64 hn,iV hl,iV hx,.int .u64 md,iV cE,.int .u64 cH,iV cV,iV cS]/\Below w.heap.size w W/\ZP W w.heap.size c0 c1 c2 c3 c4 c5 c6 P who) ⟨h1,ZZ _ _,ZP.new⟩ ?_
 rintro W ⟨hW,bW,vW⟩
 clear k3 k4 qa
 apply Xy 5;. kernel_rfl
 iterate 3 (apply rV;. intros;apply ol;go_simp;exact gl)
 apply rV;. intro w' hg _;apply ol;have hw:=hW.drew.grown hg;have y4:=hw.at0 4 rfl;go_simp;exact gl
 apply XW;. intro w' hg _;apply ol;obtain⟨y0,y1,y2,y3,y4,y5,y6,y7,y8⟩:=(vW.grown ((Below.refl _ _).drew)).grown hg;go_simp;exact gl
 try simp only[pu,s0,s1]
 intro w5 hg _
 have b5:Below w.heap.size w w5:=grow (grow bW ((Below.refl _ _).drew)) hg
 go_wp2_with (go_at_call 55;refine(hS _ b5).mono ?_;rintro e w6 ⟨d,rfl,⟨oM,h6⟩,hz⟩;have k3:=h6.at0 3 rfl;have k4:=h6.at0 4 rfl;have kf:=h6.fz;cases d)
 . go_ret
   exact⟨false,w6,hz,Or.inl ⟨rfl,rfl,rfl⟩⟩
 . have hD6:=hD w6 hz w6 (Below.refl _ _)
   go_wp2_with (go_at_call 56;refine hD6.mono ?_;rintro e w7 ⟨E,H,V,St,rfl,g7,ht⟩;have h7:=(h6.grown g7).grown (ZZ w7 (.cells #[iV E,.int .u64 H,iV V,iV St] 53));have r4:=h7.at0 4 rfl;have rf:=h7.fz)
   have h8:=h7.ZQ 4 (.pointer none)
   have hG:=hO E H V St w6 hz ht _ ⟨_,h8⟩
   go_wp2_with (go_at_call 97;refine hG.mono ?_;rintro e w9 ⟨rfl,q9,o9⟩;obtain⟨c9,h9⟩:=q9;have r3:=h9.at0 3 rfl)
   go_ret
   exact⟨true,w6,hz,Or.inr ⟨rfl,E,H,V,St,ht,rfl,⟨c9,h9⟩,(Zy ((Only.Z5 g7).trans (Only.Z5 (ZZ _ _))) _ _).trans o9⟩⟩
set_option maxRecDepth 20000 in
theorem IE {w:World} {b P:Nat} {S:Lr} (c0 c1 c2 c3 c4 c5 c6 who:Int) (h:ZJ w b (.pointer none) S) (hk:S.kd≠0) (hne:S.nx≠13) (X:Nat->World->Prop) (Z:Nat->World->Bool->World->Prop) (Y:Nat->World->World->Int->Int->Int->Int->Prop)
 (hB:∀ w1,Below w.heap.size w w1->Calls Tryz.prog 96 #[pP b 0] w1 fun e w'=>∃ A,e=.returned (pP A 0)/\Below w1.heap.size w1 w'/\X A w')
 (hX:∀ A w2,X A w2 ->
 (∀ w1,Below (w2.setCell ⟨b,4,none⟩ (pP A 0)).heap.size (w2.setCell ⟨b,4,none⟩ (pP A 0)) w1->Calls Tryz.prog 55 #[pP A 0,eV c0 c1 c2 c3 c4 c5 c6 P who] w1 fun e w'=>∃ d,e=.returned (.bool d)/\ZJ w' b (pP A 0) S/\Z A w2 d w')
/\(∀ w6,Z A w2 true w6->∀ w1,Below w6.heap.size w6 w1->Calls Tryz.prog 56 #[pP A 0] w1 fun e w'=>∃ E H V St,e=.returned (.agg #[iV E,.int .u64 H,iV V,iV St])/\Below w1.heap.size w1 w'/\Y A w2 w6 E H V St)
/\(∀ E H V St w6,Z A w2 true w6->Y A w2 w6 E H V St->∀ w1,ZJ w1 b (.pointer none) S->Calls Tryz.prog 97 #[pP b 0,.agg #[iV E,.int .u64 H,iV V,iV St]] w1 fun e w'=>e=.returned (.tuple #[])/\ZJ w' b (.pointer none) (S.go E H V St)/\Only (B1 b) w1 w')) :
 Calls Tryz.prog 93 #[pP b 0,eV c0 c1 c2 c3 c4 c5 c6 P who] w fun e w'=>∃ A w2,X A w2/\Px (Z A w2) (Y A w2) b S e w':=by
 have qa:=Rl (h.grown (ZZ w (.cells #[iV c0,iV c1,iV c2,iV c3,iV c4,iV c5,iV c6,pP P 0,iV who] 27))) hk
 obtain⟨kd,ky,hd,nx,an,al,ax,hn,hl,hx,md,cE,cH,cV,cS⟩:=S
 replace hne:(nx == 13)=false:=by simpa using hne
 clear hk
 obtain⟨c,h⟩:=h
 replace h:At w b 0 145 c [iV kd,iV ky,.int .u64 hd,iV nx,.pointer none,.int .u64 an,iV al,iV ax,.int .u64 hn,iV hl,iV hx,.int .u64 md,iV cE,.int .u64 cH,iV cV,iV cS]:=h
 have h1:=h.grown (ZZ w (.cells #[iV c0,iV c1,iV c2,iV c3,iV c4,iV c5,iV c6,pP P 0,iV who] 27))
 have k3:=h1.at0 3 rfl
 have k4:=h1.at0 4 rfl
 go_enter Tryz.func93,Tryz.ntmps93
 go_wp2_with (first
  | (go_at_call 95;refine qa.mono ?_;rintro e w1 ⟨rfl,rfl⟩)
  | (go_at_call 96;refine(hB _ (ZZ _ _)).mono ?_;rintro e w2 ⟨A,rfl,g2,x2⟩;have h2:=h1.grown g2;have z4:=h2.at0 4 rfl;have zf:=h2.fz;have v2:=(ZP.new (w:=w) (P:=P) (c0:=c0) (c1:=c1) (c2:=c2) (c3:=c3) (c4:=c4) (c5:=c5) (c6:=c6) (who:=who)).grown g2))
 obtain⟨hS,hD,hO⟩:=hX A w2 x2
 have hbw:=h.lt
 refine ZT (fun W=>W=w2.setCell ⟨b,4,none⟩ (pP A 0)/\At W b 0 145 (c.setIfInBounds 4 (pP A 0)) [iV kd,iV ky,.int .u64 hd,iV nx,pP A 0,.int .u64 an,iV al,iV ax,.int .u64 hn,iV hl,iV hx,.int .u64 md,iV cE,.int .u64 cH,iV cV,iV cS]/\ZP W w.heap.size c0 c1 c2 c3 c4 c5 c6 P who) ⟨rfl,h2.ZQ 4 _,v2.ZY (by omega) _ _⟩ ?_
 rintro W ⟨eW,hW,vW⟩
 clear k3 k4 qa z4 zf
 apply Xy 5;. kernel_rfl
 iterate 3 (apply rV;. intros;apply ol;go_simp;exact gl)
 apply rV;. intro w' hg _;apply ol;have hw:=hW.drew.grown hg;have y4:=hw.at0 4 rfl;go_simp;exact gl
 apply XW;. intro w' hg _;apply ol;obtain⟨y0,y1,y2,y3,y4,y5,y6,y7,y8⟩:=(vW.grown ((Below.refl _ _).drew)).grown hg;go_simp;exact gl
 try simp only[pu,s0,s1]
 intro w5 hg _
 have b5:Below (w2.setCell ⟨b,4,none⟩ (pP A 0)).heap.size (w2.setCell ⟨b,4,none⟩ (pP A 0)) w5:=by rw[<- eW];exact grow ((Below.refl _ _).drew) hg
 go_wp2_with (go_at_call 55;refine(hS _ b5).mono ?_;rintro e w6 ⟨d,rfl,⟨oM,h6⟩,hz⟩;have k3:=h6.at0 3 rfl;have k4:=h6.at0 4 rfl;have kf:=h6.fz;cases d)
 . go_ret
   exact⟨A,w2,x2,false,w6,hz,Or.inl ⟨rfl,rfl,rfl⟩⟩
 . have hD6:=hD w6 hz w6 (Below.refl _ _)
   go_wp2_with (go_at_call 56;refine hD6.mono ?_;rintro e w7 ⟨E,H,V,St,rfl,g7,ht⟩;have h7:=(h6.grown g7).grown (ZZ w7 (.cells #[iV E,.int .u64 H,iV V,iV St] 53));have r4:=h7.at0 4 rfl;have rf:=h7.fz)
   have h8:=h7.ZQ 4 (.pointer none)
   have hG:=hO E H V St w6 hz ht _ ⟨_,h8⟩
   go_wp2_with (go_at_call 97;refine hG.mono ?_;rintro e w9 ⟨rfl,q9,o9⟩;obtain⟨c9,h9⟩:=q9;have r3:=h9.at0 3 rfl)
   go_ret
   exact⟨A,w2,x2,true,w6,hz,Or.inr ⟨rfl,E,H,V,St,ht,rfl,⟨c9,h9⟩,(Zy ((Only.Z5 g7).trans (Only.Z5 (ZZ _ _))) _ _).trans o9⟩⟩
end
section
structure Fm (t n k:Nat) (L:Loc) (w:World) (s:Mm) (σ:Nat) (q:Q) (nx:Nat) (gen:Nat->Nat) (ls:List Ox):Prop where
 mm:Z8 w L s
 vl:WZ t n k 40 s σ q (fun _=>0)
 tm:Zn t n k 40 q nx gen ls
 cv:X8 n q ls
theorem Fm.grown {t n k:Nat} {L:Loc} {w w':World} {s:Mm} {σ:Nat} {q:Q} {nx:Nat} {gen:Nat->Nat} {ls:List Ox} (F:Fm t n k L w s σ q nx gen ls) (g:Below w.heap.size w w'):Fm t n k L w' s σ q nx gen ls:=⟨F.mm.below g,F.vl,F.tm,F.cv⟩
theorem Fm.only {t n k:Nat} {L:Loc} {w w':World} {s:Mm} {σ:Nat} {q:Q} {nx:Nat} {gen:Nat->Nat} {ls:List Ox} {S:Nat->Prop} (F:Fm t n k L w s σ q nx gen ls) (o:Only S w w') (hS:∀ x,L.has x->¬ S x):Fm t n k L w' s σ q nx gen ls:=⟨F.mm.only o hS,F.vl,F.tm,F.cv⟩
theorem Cm {w:World} {L:Loc} {s:Mm} (hM:Z8 w L s) {X:Xa} (hm:X.may=true) {n:Nat} {δ:Dw} (hs:YQ n X δ) (t k m σ:Nat) (q:Q) (pn:Nat->Int) :
 Calls Tryz.prog 54 #[X.v] w fun e w'=>∃ B:Bk,e=.returned (.tuple #[pP B.A 0,iV 0])/\Below w.heap.size w w'/\(∀ x,B.has x->w.heap.size<=x/\x<w'.heap.size)/\WL t n k m w' L B σ ⟨σ,q,pn,0,δ⟩:=by
 refine(SA X hm w).mono ?_
 rintro e w' ⟨bA,bS,bI,b,W,c,rfl,bw,h1,h2,h3,h4,hA,hI,rfl,g⟩
 have hlt:bA<w'.heap.size:=by obtain⟨c,a⟩:=hA.a;exact a.lt
 have hge:∀ x,Bk.has ⟨bA,bS,bI,W.heap.size⟩ x->w.heap.size<=x/\x<w'.heap.size:=by
  intro x hx
  have hx:x=bA\/x=bS\/x=bI\/x=W.heap.size:=hx
  omega
 refine⟨⟨bA,bS,bI,W.heap.size⟩,rfl,bw,hge,⟨?_,fun _=>⟨c,hI⟩,?_,hs.over,by show 0<=5;omega,Nat.le_refl _,fun x hx hh=>?_⟩⟩
 . rw[hs.ty] at hA;exact hA
 . exact(hs.at t k m σ q W).of_block (g.block _ (by rw[Go.Deep.nblk_alloc];omega))
 . have:=(hge x hx).1
   have:=hM.lt _ hh
   omega
def RD (t n k who:Nat) (L:Loc) (B:Bk) (N:Nat) (E H V:Int) (q':Q) (w:World) (σ:Nat):Prop :=
 ∃ s1 A1 σ0 σ' δ',X9 t n k 40 100 who N A1 ⟨σ',q',fun _=>0,5,δ'⟩/\(∀ a,Wd (A1.q.dw a))/\WZ t n k 40 s1 A1.σ A1.q A1.pn/\Z8 w L s1/\WL t n k 40 w L B σ0 A1/\A1.σ=σ/\∀ E' H' V' St,δ'.told σ0 σ' E' H' V' St->E'=E/\H'=H/\V'=V
section
variable {t n k who:Nat} {L:Loc} {B:Bk} {N:Nat} {E H V:Int} {q':Q} {w w':World} {σ:Nat}
theorem RD.block (I:RD t n k who L B N E H V q' w σ) {S:Nat->Prop} (o:Only S w w') (h1:∀ x,L.has x->¬ S x) (h2:∀ x,B.has x->¬ S x):RD t n k who L B N E H V q' w' σ:=by
 obtain⟨s1,A1,σ0,σ',δ',r,wd,vl,mm,th,e,tl⟩:=I
 exact⟨s1,A1,σ0,σ',δ',r,wd,vl,mm.only o h1,th.only o h2,e,tl⟩
theorem RD.grown (I:RD t n k who L B N E H V q' w σ) (g:Below w.heap.size w w'):RD t n k who L B N E H V q' w' σ:=by
 obtain⟨s1,A1,σ0,σ',δ',r,wd,vl,mm,th,e,tl⟩:=I
 exact⟨s1,A1,σ0,σ',δ',r,wd,vl,mm.below g,th.grown g,e,tl⟩
theorem RD.step (I:RD t n k who L B N E H V q' w σ) (hG:Good t n k 40 100 600 3) (hσ:σ<1000000) (hw:who<t) :
 Calls Tryz.prog 55 #[pP B.A 0,eV t n k (40:Nat) 100 600 3 L.p who] w fun e w'=>Only (LB L B) w w'/\∃ σ',σ'<=σ+1/\((e=.returned (.bool false)/\∃ N',N'+1=N/\RD t n k who L B N' E H V q' w' σ')\/(e=.returned (.bool true)/\N=1/\∃ s',Z8 w' L s'/\WZ t n k 40 s' σ' q' (fun _=>0)/\∀ (S:Nat->Prop) w1,Only S w' w1->(∀ x,B.has x->¬ S x)->Calls Tryz.prog 56 #[pP B.A 0] w1 fun e w2=>∃ St,e=.returned (.agg #[iV E,.int .u64 H,iV V,iV St])/\Below w1.heap.size w1 w2)):=by
 obtain⟨s1,A1,σ0,σ',δ',r,wd,vl,mm,th,rfl,tl⟩:=I
 have yw:=Qy (t:=t) (n:=n) (k:=k) (m:=40) (cg:=100) (who:=who) wd
 have hs1:=Qx (t:=t) (n:=n) (k:=k) (m:=40) (cg:=100) (who:=who) (A:=A1)
 cases r with
 | one h5 hn ht h1 =>
  refine(UR mm vl hG hσ wd th h5 hn who hw _ ht).mono ?_
  rintro e w' ⟨rfl,s',m',v',tZ,o'⟩
  rw[ht] at hs1
  refine⟨o',σ',hs1,Or.inr ⟨rfl,rfl,s',m',v',fun S w1 o1 hS=>?_⟩⟩
  obtain⟨E',H',V',St,ht',hd⟩:=Oo (tZ.only o1 hS) rfl
  obtain⟨rfl,rfl,rfl⟩:=tl _ _ _ _ ht'
  refine(hd w1 (Below.refl _ _)).mono ?_
  rintro e w2 ⟨rfl,g2⟩
  exact⟨St,rfl,g2⟩
 | @more N' Aa Ab Ac h5 hn ht h1 g =>
  refine(UR mm vl hG hσ wd th h5 hn who hw _ ht).mono ?_
  rintro e w' ⟨rfl,s',m',v',tZ,o'⟩
  rw[ht] at hs1 yw
  exact⟨o',Ab.σ,hs1,Or.inl ⟨by rw[beq_eq_false_iff_ne.2 h1],N',rfl,s',Ab,σ0,σ',δ',g,yw,v',m',tZ,rfl,tl⟩⟩
theorem Fm.act {s:Mm} {q:Q} {nx:Nat} {gen:Nat->Nat} {ls:List Ox} (F:Fm t n k L w s σ q nx gen ls) (hG:Good t n k 40 100 600 3) (X:Xa) (hm:X.may=true) (hz:Fit X.sz) (hu:Wd X.nu) (hg:∀ o∈ls,o.g<100) :
 ∃ E H V q' nx' ZA ls' N,Out k X q nx gen ls E H V q' nx' ZA ls'/\Zn t n k 40 q' nx' ZA ls'/\X8 n q' ls'/\N<=cst k X/\∀ w1,Z8 w1 L s->Calls Tryz.prog 54 #[X.v] w1 fun e w'=>∃ B:Bk,e=.returned (.tuple #[pP B.A 0,iV 0])/\Below w1.heap.size w1 w'/\(∀ x,B.has x->w1.heap.size<=x/\x<w'.heap.size)/\RD t n k who L B N E H V q' w' σ:=by
 have hm':=hm
 unfold Xa.may at hm'
 simp only[Bool.and_eq_true,decide_eq_true_eq,fitsV] at hm'
 obtain⟨⟨⟨h1,h5⟩,hv⟩,-⟩:=hm'
 obtain⟨E,H,V,q',nx',ZA,ls',Fa⟩:=uI X hG F.vl.tw.pile F.tm F.cv hg h1 h5 hv hz hu (σ+3)
 obtain⟨δ,N,σ',δ',st,⟨hN,oV⟩,hs,r,tl⟩:=Fa.ex
 refine⟨E,H,V,q',nx',ZA,ls',N+4,Fa.out,Fa.tm,Fa.cv,?_,fun w1 m1=>?_⟩
 . unfold cst
   split
   . rename_i h3;have:=oV h3;omega
   . omega
 . refine(Cm m1 hm st t k 40 σ q (fun _=>0)).mono ?_
   rintro e w' ⟨B,rfl,b1,b2,th⟩
   have ra:=r.all (who:=who) (pn:=fun _=>0)
   rw[show upd (fun _=>(0:Int)) who 0=fun _=>0 by funext i;unfold upd;split <;> rfl] at ra
   refine⟨B,rfl,b1,b2,s,_,σ,_,δ',ra,F.tm.wb,F.vl,m1.below b1,th,rfl,fun E' H' V' St ht=>?_⟩
   obtain⟨a1,a2,a3,-⟩:=tl σ (σ'+1) E' H' V' St (by omega) (by omega) ht
   exact⟨a1,a2,a3⟩
end
end
section
def ZF (t n k who:Nat) (L:Loc) (B:Bk) (N:Nat) (E H V:Int) (q':Q) (σ:Nat) (w:World) (d:Bool) (w6:World):Prop :=
 Only (LB L B) w w6/\∃ σ',σ'<=σ+1/\((d=false/\∃ N',N'+1=N/\RD t n k who L B N' E H V q' w6 σ')\/(d=true/\N=1/\∃ s',Z8 w6 L s'/\WZ t n k 40 s' σ' q' (fun _=>0)/\∀ (S:Nat->Prop) w1,Only S w6 w1->(∀ x,B.has x->¬ S x)->Calls Tryz.prog 56 #[pP B.A 0] w1 fun e w2=>∃ St,e=.returned (.agg #[iV E,.int .u64 H,iV V,iV St])/\Below w1.heap.size w1 w2))
def JJ (t n k who:Nat) (L:Loc) (q0:Q) (Zk:List Ox) (G:Nat) (hd:Ox) (ct:List Ox) (kd ky:Int) (b:Nat) (W0:World) (R M:Nat) (w:World) (σ:Nat):Prop :=
 ∃ S q nx gen ls r,QI k q0 Zk hd ct kd ky S q ls r/\S.ok/\Zn t n k 40 q nx gen ls/\(∀ x,gen x<=G)/\nx<=G+1/\Only (fun x=>L.has x\/x=b) W0 w /\
  ((ZJ w b (.pointer none) S/\(∃ s,Fm t n k L w s σ q nx gen ls)/\r<=R) \/
   (∃ B E H V q' nx' ZA ls' N,ZJ w b (pP B.A 0) S/\¬ B.has b/\(∀ x,B.has x->W0.heap.size<=x/\x<M)/\RD t n k who L B N E H V q' w σ/\Out k (S.want true) q nx gen ls E H V q' nx' ZA ls'/\Zn t n k 40 q' nx' ZA ls'/\X8 n q' ls'/\cst k (S.want true)<=r/\N+(r - cst k (S.want true))<=R))
def wQ (t n k:Nat) (L:Loc) (q0:Q) (Zk:List Ox) (G:Nat) (hd:Ox) (ct:List Ox) (kd ky:Int) (b:Nat) (W0:World) (w:World) (σ:Nat):Prop :=
 ∃ S s q nx gen ls,Fm t n k L w s σ q nx gen ls/\(∀ x,gen x<=G+1)/\nx<=G+1/\Only (fun x=>L.has x\/x=b) W0 w/\ZJ w b (.pointer none) S/\S.kd≠0/\ve q0 Zk (hd :: ct) kd ky S q ls
section
variable {t n k who:Nat} {L:Loc} {q0:Q} {Zk:List Ox} {G:Nat} {hd:Ox} {ct:List Ox} {kd ky:Int} {b:Nat} {W0:World} {R M:Nat} {w:World} {σ:Nat} {S:Lr} {Ec:Nat} {Tj:Nat->Nat}
theorem RD.zf {B:Bk} {N:Nat} {E H V:Int} {q':Q} (I:RD t n k who L B N E H V q' w σ) (hG:Good t n k 40 100 600 3) (hσ:σ<1000000) (hw:who<t) (lr:ZJ w b (pP B.A 0) S) (nb:¬ L.has b) (nB:¬ B.has b) :
 ∀ w1,Below w.heap.size w w1->Calls Tryz.prog 55 #[pP B.A 0,eV t n k (40:Nat) 100 600 3 L.p who] w1 fun e w'=>∃ d,e=.returned (.bool d)/\ZJ w' b (pP B.A 0) S/\ZF t n k who L B N E H V q' σ w d w':=fun w1 g1=>by
 refine((I.grown g1).step hG hσ hw).mono ?_
 rintro e w' ⟨o',σ',hs,h⟩
 have zy:=(lr.grown g1).only o' (fun hh=>hh.elim nb nB)
 have on:=(Only.Z5 (S:=LB L B) g1).trans o'
 rcases h with⟨rfl,N',hN,I'⟩ | ⟨rfl,hN,s',m',v',hd⟩
 . exact⟨false,rfl,zy,on,σ',hs,Or.inl ⟨rfl,N',hN,I'⟩⟩
 . exact⟨true,rfl,zy,on,σ',hs,Or.inr ⟨rfl,hN,s',m',v',hd⟩⟩
theorem Lf.last (A:Py q0 Zk (hd :: ct)) (C0:Zn t n k 40 q0 Ec Tj Zk) (hn:n<=65535) (hk4:4<=k) (hx0:Ec<=G) (hkd:1<=kd/\kd<=3) (h0:0<=ky) (h1:ky<1073741824) (nb:¬ L.has b)
 {q:Q} {nx:Nat} {gen:Nat->Nat} {ls:List Ox} {r:Nat} (I:QI k q0 Zk hd ct kd ky S q ls r) (ok:S.ok) (C:Zn t n k 40 q nx gen ls) (hg:∀ x,gen x<=G) (hnx:nx<=G+1)
 {B:Bk} {N:Nat} {E H V:Int} {q':Q} {nx':Nat} {ZA:Nat->Nat} {ls':List Ox} (O:Out k (S.want true) q nx gen ls E H V q' nx' ZA ls') (C':Zn t n k 40 q' nx' ZA ls') (cv':X8 n q' ls') (hc:cst k (S.want true)<=r) (hR:N+(r - cst k (S.want true))<=R)
 {ws:World} (on:Only (fun x=>L.has x\/x=b) W0 ws) (nB:¬ B.has b) (hB:∀ x,B.has x->W0.heap.size<=x/\x<M) (hMs:M<=ws.heap.size) (pF:ZJ ws b (pP B.A 0) S)
 {e:Ending} {w':World} (T:Px (ZF t n k who L B N E H V q' σ ws) (fun _ E1 H1 V1 _=>E1=E/\H1=H/\V1=V) b S e w') :
 Only (fun x=>L.has x\/x=b\/B.has x) ws w'/\∃ σ',σ'<=σ+1/\((e=.returned (.bool false)/\∃ R' M',R'+1<=R/\M'<=w'.heap.size/\JJ t n k who L q0 Zk G hd ct kd ky b W0 R' M' w' σ')\/(e=.returned (.bool true)/\wQ t n k L q0 Zk G hd ct kd ky b W0 w' σ')):=by
 obtain⟨d,w6,⟨o6,σ',hs,z⟩,h⟩:=T
 have rq:Only (fun x=>L.has x\/x=b) W0 w6:=on.grow o6 (fun x hx hh=>hh.elim Or.inl (fun hB'=>absurd (hB x hB').1 (by omega)))
 have oW:Only (fun x=>L.has x\/x=b\/B.has x) ws w6:=o6.mono fun x _ hx=>hx.elim Or.inl (fun hh=>Or.inr (Or.inr hh))
 rcases h with⟨rfl,rfl,rfl⟩ | ⟨rfl,E1,H1,V1,St,⟨rfl,rfl,rfl⟩,rfl,zy,o'⟩
 . rcases z with⟨-,N',hN,I'⟩ | ⟨hh,-⟩
   . refine⟨oW,σ',hs,Or.inl ⟨rfl,N'+(r - cst k (S.want true)),M,by omega,Nat.le_trans hMs o6.size,S,q,nx,gen,ls,r,I,ok,C,hg,hnx,rq,Or.inr ⟨B,E,H,V,q',nx',ZA,ls',N',pF.only o6 (fun hh=>hh.elim nb nB),nB,hB,I',O,C',cv',hc,Nat.le_refl _⟩⟩⟩
   . cases hh
 . have oW:Only (fun x=>L.has x\/x=b\/B.has x) ws w':=oW.trans (o'.mono fun x _ hx=>Or.inr (Or.inl hx))
   rcases z with⟨hh,-⟩ | ⟨-,hN,s',m',v',-⟩
   . cases hh
   . have on':Only (fun x=>L.has x\/x=b) W0 w':=rq.trans (o'.mono fun x _ hx=>Or.inr hx)
     have m2:Z8 w' L s':=m'.only o' (fun x hx e=>nb (by rw[<- show x=b from e];exact hx))
     obtain⟨-,pz⟩:=I.step A C0 hn hk4 hkd h0 h1 C O C' St
     have CJ:=I.opens C0 C hx0 hnx O
     obtain⟨n13,pq,-,-,-,-,vb⟩:=I.facts A C0 hn C
     have ok':(S.go E1 H1 V1 St).ok:=ok.go (vb O)
     have fin:ve q0 Zk (hd :: ct) kd ky (S.go E1 H1 V1 St) q' ls'->(∀ x,ZA x<=G+1)->wQ t n k L q0 Zk G hd ct kd ky b W0 w' σ':=fun D gb=>⟨_,s',q',nx',ZA,ls',⟨m2,v',C',cv'⟩,gb,CJ,on',zy,by rw[D.2.2.1];omega,D⟩
     rcases pz with⟨⟨r',hr,I'⟩ | D,gb⟩ | ⟨D,gb⟩
     . obtain⟨n13',-⟩:=I'.facts A C0 hn C'
       exact⟨oW,σ',hs,Or.inl ⟨by rw[beq_eq_false_iff_ne.2 n13'],r',0,by omega,Nat.zero_le _,_,q',nx',ZA,ls',r',I',ok',C',fun x=>Nat.le_trans (gb x) (hg x),CJ,on',Or.inl ⟨zy,⟨s',m2,v',C',cv'⟩,Nat.le_refl _⟩⟩⟩
     . exact⟨oW,σ',hs,Or.inr ⟨by rw[D.1];rfl,fin D (fun x=>Nat.le_trans (gb x) (Nat.le_succ_of_le (hg x)))⟩⟩
     . exact⟨oW,σ',hs,Or.inr ⟨by rw[D.1];rfl,fin D (fun x=>Nat.le_trans (gb x) (Nat.succ_le_succ (hg x)))⟩⟩
theorem JJ.step (I:JJ t n k who L q0 Zk G hd ct kd ky b W0 R M w σ) (A:Py q0 Zk (hd :: ct)) (C0:Zn t n k 40 q0 Ec Tj Zk) (hG:Good t n k 40 100 600 3) (hn:n<=65535) (hk4:4<=k) (hx0:Ec<=G) (hkd:1<=kd/\kd<=3) (h0:0<=ky) (h1:ky<1073741824) (nb:¬ L.has b) (hg:G<100) (hσ:σ<1000000) (hw:who<t) (hM:M<=w.heap.size) :
 Calls Tryz.prog 93 #[pP b 0,eV t n k (40:Nat) 100 600 3 L.p who] w fun e w'=>Only (fun x=>L.has x\/x=b\/(W0.heap.size<=x/\x<M)) w w'/\∃ σ',σ'<=σ+1/\((e=.returned (.bool false)/\∃ R' M',R'+1<=R/\M'<=w'.heap.size/\JJ t n k who L q0 Zk G hd ct kd ky b W0 R' M' w' σ')\/(e=.returned (.bool true)/\wQ t n k L q0 Zk G hd ct kd ky b W0 w' σ')):=by
 obtain⟨S,q,nx,gen,ls,r,I,ok,C,Ve,hnx,on,h⟩:=I
 obtain⟨n13,pq,pg,wd,m0,m1,vb⟩:=I.facts A C0 hn C
 have k0:S.kd≠0:=by omega
 rcases h with⟨lr,⟨s,F⟩,hr⟩ | ⟨B,E,H,V,q',nx',ZA,ls',N,lr,nB,hB,ac,O,C',cv',hc,hR⟩
 . obtain⟨may,fz⟩:=FB ok (by rw[pg];exact⟨h0,h1⟩) m0 m1
   obtain⟨E,H,V,q',nx',ZA,ls',N,O,C',cv',hN,hnew⟩:=F.act hG (who:=who) (S.want true) may fz wd (fun o ho=>by rw[<- C.gn o ho];have:=Ve o.x;omega)
   have uf:cst k (S.want true)<=r:=(I.step A C0 hn hk4 hkd h0 h1 C O C' 0).1
   have hbw:=lr.lt
   have hWw:=on.size
   have qZ:∀ (B:Bk) (w2:World),(∀ y,B.has y->w.heap.size<=y/\y<w2.heap.size)->RD t n k who L B N E H V q' w2 σ->Below w.heap.size w w2->¬ B.has b/\ZJ (w2.setCell ⟨b,4,none⟩ (pP B.A 0)) b (pP B.A 0) S/\RD t n k who L B N E H V q' (w2.setCell ⟨b,4,none⟩ (pP B.A 0)) σ/\Only (fun x=>L.has x\/x=b) W0 (w2.setCell ⟨b,4,none⟩ (pP B.A 0)):=fun B w2 b2 b3 b5=>by
    have nB:¬ B.has b:=fun hx=>by have:=(b2 b hx).1;omega
    have o2:Only (B1 b) w2 (w2.setCell ⟨b,4,none⟩ (pP B.A 0)):=Zy (Only.refl _ _) _ _
    refine⟨nB,?_,b3.block o2 (fun x hx e=>nb (by rw[<- show x=b from e];exact hx)) (fun x hx e=>nB (by rw[<- show x=b from e];exact hx)),(on.trans (Only.Z5 b5)).trans (o2.mono fun x _ hx=>Or.inr hx)⟩
    obtain⟨c,hl⟩:=lr.grown b5
    exact⟨_,hl.ZQ 4 _⟩
   refine(IE (P:=L.p) t n k (40:Nat) 100 600 3 who lr k0 n13 (fun A w2=>∃ B:Bk,A=B.A/\(∀ y,B.has y->w.heap.size<=y/\y<w2.heap.size)/\RD t n k who L B N E H V q' w2 σ/\Below w.heap.size w w2) (fun A w2 d w6=>∃ B:Bk,A=B.A/\(∀ y,B.has y->w.heap.size<=y/\y<w2.heap.size)/\RD t n k who L B N E H V q' w2 σ/\Below w.heap.size w w2/\ZF t n k who L B N E H V q' σ (w2.setCell ⟨b,4,none⟩ (pP B.A 0)) d w6) (fun _ _ _ E1 H1 V1 _=>E1=E/\H1=H/\V1=V) (fun w1 g1=>?_) ?_).mono ?_
   . refine(LJ (lr.grown g1) ok n13 m0 m1 (fun A w2 w'=>∃ B:Bk,A=B.A/\(∀ y,B.has y->w2.heap.size<=y/\y<w'.heap.size)/\RD t n k who L B N E H V q' w' σ/\Below w2.heap.size w2 w') (fun w2 g2=>?_)).mono ?_
     . refine(hnew w2 (F.mm.below (grow g1 g2))).mono ?_
       rintro e w' ⟨B,rfl,b1,b2,b3⟩
       exact⟨B.A,rfl,B,rfl,b2,b3,b1⟩
     . rintro e w' ⟨A,w2,rfl,g2,B,rfl,b2,b3,b5⟩
       exact⟨_,rfl,grow g2 b5,B,rfl,fun y hy=>⟨Nat.le_trans (grow g1 g2).size (b2 y hy).1,(b2 y hy).2⟩,b3,grow g1 (grow g2 b5)⟩
   . rintro A w2 ⟨B,rfl,b2,b3,b5⟩
     obtain⟨nB,lr2,qY,CG⟩:=qZ B w2 b2 b3 b5
     refine⟨fun w1 g1=>(qY.zf hG hσ hw lr2 nb nB w1 g1).mono ?_,?_,?_⟩
     . rintro e w' ⟨d,rfl,zy,z⟩
       exact⟨d,rfl,zy,B,rfl,b2,b3,b5,z⟩
     . rintro w6 ⟨B',eB,c2,c3,c5,-,σ',-,⟨hh,-⟩ | ⟨-,-,s',-,-,hd⟩⟩ w1 g1
       . cases hh
       . rw[eB]
         refine(hd (fun _=>False) w1 (Only.Z5 g1) (fun _ _ h=>h)).mono ?_
         rintro e w' ⟨St,rfl,g2⟩
         exact⟨E,H,V,St,rfl,g2,rfl,rfl,rfl⟩
     . rintro E1 H1 V1 St w6 - ⟨rfl,rfl,rfl⟩ w1 lr1
       exact NP lr1 _ _ _ _ ok n13 (vb O)
   . rintro e w' ⟨A9,w2,-,d,w6,⟨B,eB,c2,c3,c5,z⟩,hh⟩
     obtain⟨nB,lr2,qY,CG⟩:=qZ B w2 c2 c3 c5
     have o2:Only (B1 b) w2 (w2.setCell ⟨b,4,none⟩ (pP B.A 0)):=Zy (Only.refl _ _) _ _
     obtain⟨oW,rest⟩:=Lf.last A C0 hn hk4 hx0 hkd h0 h1 nb I ok C Ve hnx O C' cv' uf (show N+(r - cst k (S.want true))<=R by omega) CG nB (fun x hx=>⟨Nat.le_trans hWw (c2 x hx).1,(c2 x hx).2⟩) o2.size lr2 ⟨d,w6,z,hh⟩
     exact⟨((Only.Z5 c5).trans (o2.mono fun x _ hx=>Or.inr (Or.inl hx))).grow oW (fun x hx hh=>hh.elim Or.inl (fun hh=>hh.elim (fun h=>Or.inr (Or.inl h)) (fun h=>absurd (c2 x h).1 (by omega)))),rest⟩
 . refine(IC (P:=L.p) t n k (40:Nat) 100 600 3 who lr k0 n13 (ZF t n k who L B N E H V q' σ w) (fun _ E1 H1 V1 _=>E1=E/\H1=H/\V1=V) (ac.zf hG hσ hw lr nb nB) ?_ ?_).mono ?_
   . rintro w6 ⟨-,σ',-,⟨hh,-⟩ | ⟨-,-,s',-,-,hd⟩⟩ w1 g1
     . cases hh
     . refine(hd (fun _=>False) w1 (Only.Z5 g1) (fun _ _ h=>h)).mono ?_
       rintro e w' ⟨St,rfl,g2⟩
       exact⟨E,H,V,St,rfl,g2,rfl,rfl,rfl⟩
   . rintro E1 H1 V1 St w6 - ⟨rfl,rfl,rfl⟩ w1 lr1
     exact NP lr1 _ _ _ _ ok n13 (vb O)
   . rintro e w' T
     obtain⟨oW,rest⟩:=Lf.last A C0 hn hk4 hx0 hkd h0 h1 nb I ok C Ve hnx O C' cv' hc hR on nB hB hM lr T
     exact⟨oW.mono fun x _ hx=>hx.elim Or.inl (fun hh=>hh.elim (fun h=>Or.inr (Or.inl h)) (fun h=>Or.inr (Or.inr (hB x h)))),rest⟩
theorem JJ.grown {w':World} (I:JJ t n k who L q0 Zk G hd ct kd ky b W0 R M w σ) (g:Below w.heap.size w w'):JJ t n k who L q0 Zk G hd ct kd ky b W0 R M w' σ:=by
 obtain⟨S,q,nx,gen,ls,r,I,ok,C,Ve,hnx,on,h⟩:=I
 refine⟨S,q,nx,gen,ls,r,I,ok,C,Ve,hnx,on.trans (Only.Z5 g),?_⟩
 rcases h with⟨lr,⟨s,F⟩,hr⟩ | ⟨B,E,H,V,q',nx',ZA,ls',N,lr,nB,hB,ac,rest⟩
 . exact Or.inl ⟨lr.grown g,⟨s,F.grown g⟩,hr⟩
 . exact Or.inr ⟨B,E,H,V,q',nx',ZA,ls',N,lr.grown g,nB,hB,ac.grown g,rest⟩
theorem JJ.more {R':Nat} (I:JJ t n k who L q0 Zk G hd ct kd ky b W0 R M w σ) (hR:R<=R'):JJ t n k who L q0 Zk G hd ct kd ky b W0 R' M w σ:=by
 obtain⟨S,q,nx,gen,ls,r,I,ok,C,Ve,hnx,on,h⟩:=I
 refine⟨S,q,nx,gen,ls,r,I,ok,C,Ve,hnx,on,?_⟩
 rcases h with⟨lr,F,hr⟩ | ⟨B,E,H,V,q',nx',ZA,ls',N,lr,nB,hB,ac,O,C',cv',hc,hN⟩
 . exact Or.inl ⟨lr,F,by omega⟩
 . exact Or.inr ⟨B,E,H,V,q',nx',ZA,ls',N,lr,nB,hB,ac,O,C',cv',hc,by omega⟩
theorem zx (kd ky h:Int):(Gx kd ky h).ok:=⟨by show (0:Int)<=0;decide,by show (0:Int)<8589934592;decide,by show (0:Int)<=0;decide,by show (0:Int)<8589934592;decide,by show (0:Int)<=0;decide,by show (0:Int)<=13;decide⟩
theorem JJ.begin {s:Mm} {nx:Nat} {gen:Nat->Nat} (F:Fm t n k L W0 s σ q0 nx gen Zk) (hg:∀ x,gen x<=G) (hx:nx<=G) (h:ZJ w b (.pointer none) (Gx kd ky hd.h)) (g:Below W0.heap.size W0 w):JJ t n k who L q0 Zk G hd ct kd ky b W0 (16 * ct.length+8+(k+68)) 0 w σ :=
 ⟨Gx kd ky hd.h,q0,nx,gen,Zk,_,.first (Gx kd ky hd.h) rfl rfl rfl rfl rfl,zx _ _ _,F.tm,hg,Nat.le_succ_of_le hx,Only.Z5 g,Or.inl ⟨h,⟨s,F.mm.below g,F.vl,F.tm,F.cv⟩,Nat.le_refl _⟩⟩
end
end
end Go.Proofs.YtgehjolndmgffaaGreat
