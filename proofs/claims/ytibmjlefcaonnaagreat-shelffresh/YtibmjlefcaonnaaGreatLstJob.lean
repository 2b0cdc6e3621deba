import Derived.Test.YtibmjlefcaonnaaGreatLstRec
import Derived.Test.YtibmjlefcaonnaaGreatAccTown
import Derived.Test.YtibmjlefcaonnaaGreatAccAt
import Derived.Test.YtibmjlefcaonnaaGreatLstAlone
namespace Go.Proofs.YtibmjlefcaonnaaGreat
open Go.RowKit
section
set_option maxRecDepth 20000
set_option maxRecDepth 20000 in
theorem Yf {w:World} {L:Loc} {bA bS bI b:Nat} {T:TypeId} {i:Nat} (h:WT w bA bS bI b T i) (hi:i<3) (c0 c1 c2 c3 c4 c5 c6 who:Int) {U:TypeId} {rv:Value} {f:FuncId}
 (hv:w.cell? ⟨bS,i,none⟩=some (.iface U rv))
 (hm:∀ w,(method 320 U rv "Step").run Tryz.prog w=.ok (f,rv) w) (he:∀ args w,(callFunc f args).run Tryz.prog w=.ok (.enter f args) w) (Z:Bool->World->Prop)
 (hc:∀ w1,Below w.heap.size w w1->Calls Tryz.prog f #[rv,eV c0 c1 c2 c3 c4 c5 c6 L.p who] w1 fun e w'=>∃ d,e=.returned (.bool d)/\w'.heap[bA]?=w1.heap[bA]?/\Z d w') :
 Calls Tryz.prog 26 #[pP bA 0,eV c0 c1 c2 c3 c4 c5 c6 L.p who] w fun e w'=>∃ d w1,Z d w1/\((d=false/\e=.returned (.bool false)/\w'=w1)\/(d=true/\e=.returned (.bool (i == 2))/\w'=w1.setCell ⟨bA,1,none⟩ (.slice (some ⟨bS,min (i+1) 2,none⟩) (2 - i) (2 - i)))):=by
 obtain⟨c,ha⟩:=h.a
 have FB:=ha.lt
 have hBS:bS<w.heap.size:=World.block_lt_of_cell? _ _ hv
 obtain rfl | rfl | rfl:i=0\/i=1\/i=2:=by omega
 . have ha:At w bA 0 88 c [.iface T (pP b 0),.slice (some ⟨bS,0,none⟩) 3 3]:=ha
   have ha1:=ha.grown (ZY w (.cells #[iV c0,iV c1,iV c2,iV c3,iV c4,iV c5,iV c6,pP L.p 0,iV who] 29))
   have k1:=ha1.at0 1 rfl
   go_enter Tryz.func26,Tryz.ntmps26
   go_wp2
   refine ZV (fun W=>Below w.heap.size w W/\ZT W w.heap.size c0 c1 c2 c3 c4 c5 c6 L.p who) ⟨Z7 (Below.refl _ _) _,ZT.new⟩ ?_
   rintro W ⟨b1,v1⟩
   clear ha1 k1
   apply XF 7;. kernel_rfl
   iterate 3 (apply rV;. intros;apply ol;go_simp;exact gl)
   apply rV;. intro w' hg _;apply ol;have k1:=((ha.grown b1).drew.grown hg).at0 1 rfl;go_simp;exact gl
   apply rV;. intros;apply ol;go_simp;exact gl
   apply rV;. intro w' hg _;apply ol;have k2:w'.cell? ⟨bS,0,none⟩=some (.iface U rv):=keep' (grow (grow b1 ((Below.refl _ _).drew)) hg) hv;go_simp;exact gl
   try simp only[pu,s0,s1]
   apply X6;. intro w' hg _;apply ol;have y:=(v1.dg hg).yy;go_simp;exact gl
   try simp only[pu,s0,s1]
   intro w5 hg _
   have b5:Below w.heap.size w w5:=grow (grow b1 ((Below.refl _ _).drew)) hg
   go_wp2_with (refine(hc _ b5).mono ?_;rintro e w6 ⟨d,rfl,eA,hz⟩;have ha6:=(ha.grown b5).of_block eA;have k1:=ha6.at0 1 rfl;have kf:=ha6.fz;cases d)
   . go_ret
     exact⟨false,w6,hz,Or.inl ⟨rfl,rfl,rfl⟩⟩
   . go_ret
     exact⟨true,w6,hz,Or.inr ⟨rfl,rfl,rfl⟩⟩
 . have ha:At w bA 0 88 c [.iface T (pP b 0),.slice (some ⟨bS,1,none⟩) 2 2]:=ha
   have ha1:=ha.grown (ZY w (.cells #[iV c0,iV c1,iV c2,iV c3,iV c4,iV c5,iV c6,pP L.p 0,iV who] 29))
   have k1:=ha1.at0 1 rfl
   go_enter Tryz.func26,Tryz.ntmps26
   go_wp2
   refine ZV (fun W=>Below w.heap.size w W/\ZT W w.heap.size c0 c1 c2 c3 c4 c5 c6 L.p who) ⟨Z7 (Below.refl _ _) _,ZT.new⟩ ?_
   rintro W ⟨b1,v1⟩
   clear ha1 k1
   apply XF 7;. kernel_rfl
   iterate 3 (apply rV;. intros;apply ol;go_simp;exact gl)
   apply rV;. intro w' hg _;apply ol;have k1:=((ha.grown b1).drew.grown hg).at0 1 rfl;go_simp;exact gl
   apply rV;. intros;apply ol;go_simp;exact gl
   apply rV;. intro w' hg _;apply ol;have k2:w'.cell? ⟨bS,1,none⟩=some (.iface U rv):=keep' (grow (grow b1 ((Below.refl _ _).drew)) hg) hv;go_simp;exact gl
   try simp only[pu,s0,s1]
   apply X6;. intro w' hg _;apply ol;have y:=(v1.dg hg).yy;go_simp;exact gl
   try simp only[pu,s0,s1]
   intro w5 hg _
   have b5:Below w.heap.size w w5:=grow (grow b1 ((Below.refl _ _).drew)) hg
   go_wp2_with (refine(hc _ b5).mono ?_;rintro e w6 ⟨d,rfl,eA,hz⟩;have ha6:=(ha.grown b5).of_block eA;have k1:=ha6.at0 1 rfl;have kf:=ha6.fz;cases d)
   . go_ret
     exact⟨false,w6,hz,Or.inl ⟨rfl,rfl,rfl⟩⟩
   . go_ret
     exact⟨true,w6,hz,Or.inr ⟨rfl,rfl,rfl⟩⟩
 . have ha:At w bA 0 88 c [.iface T (pP b 0),.slice (some ⟨bS,2,none⟩) 1 1]:=ha
   have ha1:=ha.grown (ZY w (.cells #[iV c0,iV c1,iV c2,iV c3,iV c4,iV c5,iV c6,pP L.p 0,iV who] 29))
   have k1:=ha1.at0 1 rfl
   go_enter Tryz.func26,Tryz.ntmps26
   go_wp2
   refine ZV (fun W=>Below w.heap.size w W/\ZT W w.heap.size c0 c1 c2 c3 c4 c5 c6 L.p who) ⟨Z7 (Below.refl _ _) _,ZT.new⟩ ?_
   rintro W ⟨b1,v1⟩
   clear ha1 k1
   apply XF 7;. kernel_rfl
   iterate 3 (apply rV;. intros;apply ol;go_simp;exact gl)
   apply rV;. intro w' hg _;apply ol;have k1:=((ha.grown b1).drew.grown hg).at0 1 rfl;go_simp;exact gl
   apply rV;. intros;apply ol;go_simp;exact gl
   apply rV;. intro w' hg _;apply ol;have k2:w'.cell? ⟨bS,2,none⟩=some (.iface U rv):=keep' (grow (grow b1 ((Below.refl _ _).drew)) hg) hv;go_simp;exact gl
   try simp only[pu,s0,s1]
   apply X6;. intro w' hg _;apply ol;have y:=(v1.dg hg).yy;go_simp;exact gl
   try simp only[pu,s0,s1]
   intro w5 hg _
   have b5:Below w.heap.size w w5:=grow (grow b1 ((Below.refl _ _).drew)) hg
   go_wp2_with (refine(hc _ b5).mono ?_;rintro e w6 ⟨d,rfl,eA,hz⟩;have ha6:=(ha.grown b5).of_block eA;have k1:=ha6.at0 1 rfl;have kf:=ha6.fz;cases d)
   . go_ret
     exact⟨false,w6,hz,Or.inl ⟨rfl,rfl,rfl⟩⟩
   . go_ret
     exact⟨true,w6,hz,Or.inr ⟨rfl,rfl,rfl⟩⟩
set_option maxRecDepth 20000 in
theorem TN {w:World} {bA bS bI b:Nat} {T:TypeId} (h:WT w bA bS bI b T 3) {f:FuncId} (hT:∀ w,(binOp .eql 85 (.iface T (pP b 0)) .nilIface).run Tryz.prog w=.ok (.bool false) w)
 (hm:∀ w,(method 320 T (pP b 0) "Done").run Tryz.prog w=.ok (f,pP b 0) w) (he:∀ args w,(callFunc f args).run Tryz.prog w=.ok (.enter f args) w) (E H V St:Int)
 (hc:∀ w1,Below w.heap.size w w1->Calls Tryz.prog f #[pP b 0] w1 fun e w'=>e=.returned (.agg #[iV E,.int .u64 H,iV V,iV St])/\Below w1.heap.size w1 w') :
 Calls Tryz.prog 27 #[pP bA 0] w fun e w'=>e=.returned (.agg #[iV E,.int .u64 H,iV V,iV St])/\Below w.heap.size w w':=by
 obtain⟨c,ha⟩:=h.a
 have ha:At w bA 0 88 c [.iface T (pP b 0),.slice (some ⟨bS,2,none⟩) 0 0]:=ha
 have ha1:=ha.grown (ZY w (.cells #[iV 0,.int .u64 0,iV 0,iV 0] 51))
 have k0:=ha1.at0 0 rfl
 have k1:=ha1.at0 1 rfl
 have d0:=At.new w 51 [iV 0,.int .u64 0,iV 0,iV 0]
 go_enter Tryz.func27,Tryz.ntmps27
 go_wp2_with (refine(hc _ (Z7 (Below.refl _ _) _)).mono ?_;rintro e w1 ⟨rfl,b1⟩;have d1:=d0.grown b1;have q0:=d1.at0 0 rfl;have q1:=d1.at0 1 rfl;have q2:=d1.at0 2 rfl;have q3:=d1.at0 3 rfl;have qf:=d1.fz)
 refine bodyPost_ret (v:=.agg #[iV E,.int .u64 H,iV V,iV St]) (by simp[results,Tryz.results27,go_sem,q0,q1,q2,q3]) rfl ?_
 exact⟨rfl,ZO (ZO (ZO (ZO (grow (Z7 (Below.refl _ _) _) b1) (Nat.le_refl _) _ _) (Nat.le_refl _) _ _) (Nat.le_refl _) _ _) (Nat.le_refl _) _ _⟩
end
section
structure XE (t n k m:Nat) (s:Mm) (σ:Nat) (q:Q) (pn:Nat->Int):Prop where
 tw:Zo t n k m s σ q
 ep:s.wd 0=0
 pn:∀ i,i<t->s.wd (6+i)=pn i
section
variable {t n k m:Nat} {s:Mm} {σ:Nat} {q:Q} {pn:Nat->Int}
theorem Zo.pins (h:Zo t n k m s σ q) (hσ:σ<1000000) (who:Int) (a:Nat) (v:Int) (h1:6<=a) (h2:a<6+t):Zo t n k m ((s.by who).step a v) (σ+1) q:=by
 refine⟨h.pile.off hσ who a v (by omega) (fun i hi=>by omega),h.U9.off hσ who a v (by omega) (fun i hi=>by omega),fun i hi=>?_,fun i hi=>?_,fun x hx=>?_,h.Ox,fun b hb=>?_,?_⟩
 . rw[Zo.ZI who a _ v (by omega)];exact h.MQ i hi
 . have:=h.MP i hi;omega
 . rw[Zo.ZI who a _ v (by omega)];exact h.Un x hx
 . rw[Zo.ZI who a _ v (by omega)];exact h.PU b hb
 . rw[Zo.ZI who a _ v (by omega)];exact h.ep
theorem XE.pin (h:XE t n k m s σ q pn) (hσ:σ<1000000) (who:Int) {j:Nat} (hj:j<t) (v:Int):XE t n k m ((s.by who).step (6+j) v) (σ+1) q (upd pn j v):=by
 refine⟨h.tw.pins hσ who _ v (by omega) (by omega),(Zo.ZI who _ 0 _ (by omega)).trans h.ep,fun i hi=>?_⟩
 by_cases e:i=j
 . subst e;rw[Zo.Xf,upd_same]
 . rw[Zo.ZI who _ _ _ (by omega),ZR _ _ _ _ e];exact h.pn i hi
theorem XE.look (h:XE t n k m s σ q pn) (hσ:σ<1000000) (who:Int):XE t n k m ((s.by who).step 0 (s.wd 0)) (σ+1) q pn:=by
 refine⟨h.tw.same hσ who 0,(Zo.Xf who 0 _).trans h.ep,fun i hi=>(Zo.ZI who _ _ _ (by omega)).trans (h.pn i hi)⟩
theorem XE.on (h:XE t n k m s σ q pn) {s':Mm} {σ':Nat} {q':Q} (tw:Zo t n k m s' σ' q') {who:Int} {a:Nat} (e:∃ v,s'=(s.by who).step a v) (h1:1<=a) (h2:a<6\/6+t<=a):XE t n k m s' σ' q' pn:=by
 obtain⟨v,rfl⟩:=e
 exact⟨tw,(Zo.ZI who _ 0 _ (by omega)).trans h.ep,fun i hi=>(Zo.ZI who _ _ _ (by omega)).trans (h.pn i hi)⟩
theorem Al.away {κ:Nat} {α:Al} (hκ:κ<4) (g:α.good t n k m κ σ q) (ho:α.ZB=false):1<=α.at t n κ/\(α.at t n κ<6\/6+t<=α.at t n κ):=by
 cases α with
 | over=>cases ho
 | take τ =>
  rcases Tk.at_in (t:=t) g.1 with e | ⟨x,hx,e⟩
  . show 1<=τ.at t/\(τ.at t<6\/6+t<=τ.at t);omega
  . show 1<=τ.at t/\(τ.at t<6\/6+t<=τ.at t);omega
 | ask x=>show 1<=6+t+x * 2/\_;constructor;omega;right;show 6+t<=6+t+x * 2;omega
 | place x G τ =>
  rcases Pl.at_in (t:=t) (n:=n) g.2.2.2.1 with e | ⟨i,hi,e⟩
  . show 1<=τ.at t n κ/\(τ.at t n κ<6\/6+t<=τ.at t n κ);omega
  . show 1<=τ.at t n κ/\(τ.at t n κ<6\/6+t<=τ.at t n κ);omega
 | count x G a i=>show 1<=6+t+n * 2+i * 3+1/\(6+t+n * 2+i * 3+1<6\/6+t<=6+t+n * 2+i * 3+1);omega
 | head x G a i=>have:=g.2.2.2.2.1;show 1<=a/\(a<6\/6+t<=a);omega
 | shw x G a i=>show 1<=6+t+x * 2/\(6+t+x * 2<6\/6+t<=6+t+x * 2);omega
 | ready x G a i st=>have:=g.2.2.2.2.1;show 1<=a/\(a<6\/6+t<=a);omega
 | give x G γ =>
  rcases Gv.at_in (t:=t) g.1 γ with e | ⟨y,hy,e⟩
  . show 1<=γ.at t x/\(γ.at t x<6\/6+t<=γ.at t x);omega
  . show 1<=γ.at t x/\(γ.at t x<6\/6+t<=γ.at t x);omega
theorem Hp.away {x:Nat} {η:Hp} (g:η.good t n k m) (ho:η.ZB=false):6+t<=η.at t x:=by
 cases η with
 | over=>cases ho
 | go v Z j u =>
  obtain⟨⟨i,O⟩,-⟩:=g
  have:=O.MR
  show 6+t<=if Z<=j then 6+t+x * 2 else ZH v+1+j
  split <;> omega
theorem Dp.away {x G:Nat} {α:Dp} (hx:x<n) (g:α.good t n k m x G q) (ho:α.ZB=false):1<=α.at t n x/\(α.at t n x<6\/6+t<=α.at t n x):=by
 cases α with
 | over=>cases ho
 | see=>show 1<=6+t+x * 2/\(6+t+x * 2<6\/6+t<=6+t+x * 2);omega
 | ask v=>obtain⟨i,O⟩:=g;have:=O.MR;show 1<=ZH v/\(ZH v<6\/6+t<=ZH v);omega
 | mark v Z=>show 1<=6+t+x * 2/\(6+t+x * 2<6\/6+t<=6+t+x * 2);omega
 | VA η=>have:=Hp.away (x:=x) g.1 g.2;show 1<=η.at t x/\(η.at t x<6\/6+t<=η.at t x);omega
 | fin Z i η=>have:=Hp.away (x:=x) g.1 g.2;show 1<=η.at t x/\(η.at t x<6\/6+t<=η.at t x);omega
 | count Z i=>show 1<=6+t+n * 2+i * 3+1/\(6+t+n * 2+i * 3+1<6\/6+t<=6+t+n * 2+i * 3+1);omega
 | give γ =>
  rcases Gv.at_in (t:=t) hx γ with e | ⟨y,hy,e⟩
  . show 1<=γ.at t x/\(γ.at t x<6\/6+t<=γ.at t x);omega
  . show 1<=γ.at t x/\(γ.at t x<6\/6+t<=γ.at t x);omega
theorem Ac.away {W:Wt} {x G:Nat} {α:Ac} (g:α.good t n k m W x G q) (ho:α.ZB=false):6+t<=α.at t x W:=by
 cases α with
 | over=>cases ho
 | see=>show 6+t<=6+t+x * 2;omega
 | ask v=>obtain⟨i,O⟩:=g;have:=O.MR;show 6+t<=ZH v;omega
 | load v Z=>obtain⟨⟨i,O⟩,-⟩:=g;have:=O.MR;show 6+t<=ZH v+1+W.ix.toNat;omega
 | check v c ld=>show 6+t<=6+t+x * 2;omega
 | stop v=>show 6+t<=6+t+x * 2;omega
 | lay v c=>obtain⟨⟨Z,i,O,-⟩,-⟩:=g;have:=O.MR;show 6+t<=ZH v+1+W.ix.toNat;omega
end
def Ib (σ0 σ:Nat) (St:Int):Dp->Prop
 | .count _ _=>(σ0:Int)<St/\St<=(σ:Int)
 | .give _=>(σ0:Int)<St/\St<=(σ:Int)
 | .over E=>(σ0:Int)<=St/\St<=(σ:Int)/\(E=0->(σ0:Int)<St)
 | _=>True
theorem L9 {t n k m σ0 σ:Nat} {s s':Mm} {q q':Q} {who cg:Int} {own:Bool} {x G:Nat} {α α':Dp} {a a':DV} (hx:x<n) (hT:Zo t n k m s σ q) (hT':Zo t n k m s' (σ+1) q') (hs:∃ v,s'=(s.by who).step (α.at t n x) v) (ht:Zl t n k m cg own x G q α=(q',α')) (ho:α.ZB=false) (hb:σ<1000000) (h0:σ0<=σ) (hw:∀ Z i η,α=.fin Z i η->α'=.count Z i->q'.sw x≠q.sw x) (hl:Tl t x σ s' a a' α α') (h:Ib σ0 σ a.St α):Ib σ0 (σ+1) a'.St α':=by
 cases α with
 | over=>cases ho
 | see =>
  obtain⟨-,hα⟩:=Prod.mk.inj ht
  split at hα <;> subst hα
  . trivial
  . have e:a'.St=((σ+1:Nat):Int):=hl
    exact⟨by omega,by omega,fun _=>by omega⟩
 | ask v =>
  obtain⟨-,hα⟩:=Prod.mk.inj ht
  unfold SI at hα
  split at hα
  . split at hα <;> (subst hα;trivial)
  . subst hα
    have e:a'.St=((σ+1:Nat):Int):=hl
    exact⟨by omega,by omega,fun _=>by omega⟩
 | mark v Z =>
  simp only[Zl] at ht
  split at ht <;> (obtain⟨-,rfl⟩:=Prod.mk.inj ht;trivial)
 | VA η =>
  obtain⟨q1,η1,h1⟩:∃ q1 η1,YQ cg x q η=(q1,η1):=⟨_,_,rfl⟩
  simp only[Zl,h1] at ht
  cases η1 <;> (simp only[TK] at ht;obtain⟨-,rfl⟩:=Prod.mk.inj ht;trivial)
 | fin Z i η =>
  obtain⟨q1,η1,h1⟩:∃ q1 η1,YQ cg x q η=(q1,η1):=⟨_,_,rfl⟩
  simp only[Zl,h1] at ht
  cases η1 with
  | go=>simp only[SH] at ht;obtain⟨-,rfl⟩:=Prod.mk.inj ht;trivial
  | over wn =>
   simp only[SH] at ht
   obtain⟨rfl,rfl⟩:=Prod.mk.inj ht
   have hne:=hw Z i η rfl rfl
   have hSt:a'.St=s'.wn (6+t+x * 2):=hl
   obtain⟨v,hv⟩:=hs
   have d1:=hT.Un x hx
   have d2:=hT'.Un x hx
   have d3:s'.wd (6+t+x * 2)≠s.wd (6+t+x * 2):=by rw[d1,d2];exact hne
   have hat:(Dp.fin Z i η).at t n x=6+t+x * 2:=by
    by_cases e:(Dp.fin Z i η).at t n x=6+t+x * 2
    . exact e
    . exfalso
      apply d3
      rw[hv]
      show upd s.wd _ v (6+t+x * 2)=_
      rw[ZR _ _ _ _ (fun h=>e h.symm)]
   rw[hat] at hv
   have hvw:s'.wd (6+t+x * 2)=v:=by rw[hv];exact upd_same _ _ _
   have hwn:s'.wn (6+t+x * 2)=wrap64 (s.steps+1):=by
    rw[hv]
    show (if s.wd (6+t+x * 2)=v then s.wn else upd s.wn (6+t+x * 2) (wrap64 (s.steps+1))) (6+t+x * 2)=_
    rw[if_neg (fun h=>d3 (by rw[hvw,h])),upd_same]
   have hst:wrap64 (s.steps+1)=((σ+1:Nat):Int):=by rw[hT.pile.st];exact hT.pile.X5 hb
   show (σ0:Int)<a'.St/\a'.St<=((σ+1:Nat):Int)
   rw[hSt,hwn,hst]
   omega
 | count Z i =>
  have hSt:a'.St=a.St:=hl
  have h':(σ0:Int)<a.St/\a.St<=(σ:Int):=h
  have key:(σ0:Int)<a'.St/\a'.St<=((σ+1:Nat):Int):=by rw[hSt];omega
  obtain⟨-,hα⟩:=Prod.mk.inj ht
  split at hα <;> subst hα
  . exact⟨by omega,key.2,fun _=>key.1⟩
  . exact key
 | give γ =>
  have hSt:a'.St=a.St:=hl
  have h':(σ0:Int)<a.St/\a.St<=(σ:Int):=h
  have key:(σ0:Int)<a'.St/\a'.St<=((σ+1:Nat):Int):=by rw[hSt];omega
  obtain⟨c',lk',F',γ',h1⟩:∃ c' lk' F' γ',YZ q.c q.lk q.F x γ=(c',lk',F',γ'):=⟨_,_,_,_,rfl⟩
  simp only[Zl,h1] at ht
  cases γ' <;> (simp only[TJ] at ht;obtain⟨-,rfl⟩:=Prod.mk.inj ht;first | exact key | exact⟨Int.le_of_lt key.1,key.2,fun _=>key.1⟩)
inductive Dw where
 | al (z:Int) (own:Bool) (κ:Nat) (α:Al)
 | dp (nu:Int) (own:Bool) (x G:Nat) (α:Dp)
 | ac (W:Wt) (own:Bool) (x G:Nat) (α:Ac)
 | bad (c:Nat) (E:Int)
 | fin (c:Nat) (E:Int) (st:Nat)
def Dw.ZB:Dw->Bool
 | .al _ _ _ α=>α.ZB
 | .dp _ _ _ _ α=>α.ZB
 | .ac _ _ _ _ α=>α.ZB
 | .bad _ _=>false
 | .fin _ _ _=>true
def Dw.c:Dw->Nat
 | .al _ _ _ _=>0
 | .dp _ _ _ _ _=>1
 | .ac _ _ _ _ _=>2
 | .bad c _=>c
 | .fin c _ _=>c
def Dw.cost:Dw->Nat
 | .bad _ _=>0
 | .fin _ _ _=>0
 | _=>1
def Jm:Nat->TypeId
 | 0=>120
 | 1=>122
 | _=>142
def fS:Nat->FuncId
 | 0=>107
 | 1=>155
 | _=>181
def fD:Nat->FuncId
 | 0=>106
 | 1=>154
 | _=>180
def Yu (t n k m:Nat) (cg:Int) (σ:Nat) (q:Q):Dw->Q × Dw
 | .al z own κ α=>((Y5 t n k m κ z own σ q α).1,.al z own κ (Y5 t n k m κ z own σ q α).2)
 | .dp nu own x G α=>((Zl t n k m cg own x G q α).1,.dp nu own x G (Zl t n k m cg own x G q α).2)
 | .ac W own x G α=>((XN W own x G σ q α).1,.ac W own x G (XN W own x G σ q α).2)
 | .bad c E=>(q,.fin c E σ)
 | .fin c E st=>(q,.fin c E st)
def Dw.need (t n k m:Nat) (cg:Int) (q:Q):Dw->Prop
 | .dp _ own x G α=>α.good t n k m x G q/\∀ Z i η,α=.fin Z i η->(Zl t n k m cg own x G q α).2=.count Z i->(Zl t n k m cg own x G q α).1.sw x≠q.sw x
 | .ac W _ x G α=>α.good t n k m W x G q
 | _=>True
def TQ (n:Nat) (nu:Int):Prop:=Wd nu/\((nu<65536\/4294967296<=nu)\/∃ (x:Nat) (G:Int),Y0 nu x G/\n<=x)
def Wq (t n k m:Nat) (w:World) (b σ0 σ:Nat) (q:Q):Dw->Prop
 | .al z own κ α=>Fit z/\ZM z=κ/\κ<4/\α.good t n k m κ σ q/\∃ cs a,ZQ w b 0 137 cs a/\L8 z own κ α a
 | .dp nu own x G α=>Y0 nu x G/\x<n/\∃ cs a,ZP w b 0 141 cs a/\L6 t n k m nu own x α a/\Ib σ0 σ a.St α
 | .ac W own x G α=>Y0 W.nu x G/\x<n/\W.ok/\∃ cs a,ZL w b 0 147 cs a/\Oh W own α a
 | .bad c E=>(c=0/\E=5/\∃ z own cs,ZM z<0/\ZQ w b 0 137 cs (av0 z own))\/(c=1/\E=3/\∃ nu own cs,TQ n nu/\ZP w b 0 141 cs (Ia nu own))\/(c=2/\E=3/\∃ (W:Wt) (own:Bool) (cs:Array Value),(W.kd=1\/W.kd=2\/W.kd=3)/\TQ n W.nu/\ZL w b 0 147 cs (Ij W.kd W.nu W.ix W.vl W.ol own))
 | .fin c E st=>(c=0/\∃ cs a,ZQ w b 0 137 cs a/\a.nx=8/\a.E=E/\a.H=0/\a.V=0/\a.St=st)\/(c=1/\∃ cs a,ZP w b 0 141 cs a/\a.nx=7/\a.E=E/\a.H=0/\a.V=0/\a.St=st)\/(c=2/\∃ cs a,ZL w b 0 147 cs a/\a.E=E/\a.H=0/\a.V=0/\a.St=st)
theorem Wq.of_block {t n k m:Nat} {w w':World} {b σ0 σ:Nat} {q:Q} {δ:Dw} (h:Wq t n k m w b σ0 σ q δ) (e:w'.heap[b]?=w.heap[b]?):Wq t n k m w' b σ0 σ q δ:=by
 cases δ with
 | al z own κ α=>obtain⟨h1,h2,h3,h4,cs,a,h5,h6⟩:=h;exact⟨h1,h2,h3,h4,cs,a,h5.of_block e,h6⟩
 | dp nu own x G α=>obtain⟨h1,h2,cs,a,h5,h6⟩:=h;exact⟨h1,h2,cs,a,h5.of_block e,h6⟩
 | ac W own x G α=>obtain⟨h1,h2,h3,cs,a,h5,h6⟩:=h;exact⟨h1,h2,h3,cs,a,h5.of_block e,h6⟩
 | bad c E =>
  rcases h with⟨h1,h2,z,own,cs,h3,h4⟩ | ⟨h1,h2,z,own,cs,h3,h4⟩ | ⟨h1,h2,z,own,cs,h3,h4,h5⟩
  . exact Or.inl ⟨h1,h2,z,own,cs,h3,h4.of_block e⟩
  . exact Or.inr (Or.inl ⟨h1,h2,z,own,cs,h3,h4.of_block e⟩)
  . exact Or.inr (Or.inr ⟨h1,h2,z,own,cs,h3,h4,h5.of_block e⟩)
 | fin c E st =>
  rcases h with⟨h1,cs,a,h3,h4⟩ | ⟨h1,cs,a,h3,h4⟩ | ⟨h1,cs,a,h3,h4⟩
  . exact Or.inl ⟨h1,cs,a,h3.of_block e,h4⟩
  . exact Or.inr (Or.inl ⟨h1,cs,a,h3.of_block e,h4⟩)
  . exact Or.inr (Or.inr ⟨h1,cs,a,h3.of_block e,h4⟩)
theorem Wq.lt {t n k m:Nat} {w:World} {b σ0 σ:Nat} {q:Q} {δ:Dw} (h:Wq t n k m w b σ0 σ q δ):b<w.heap.size:=by
 cases δ with
 | al z own κ α=>obtain⟨h1,h2,h3,h4,cs,a,h5,h6⟩:=h;exact h5.lt
 | dp nu own x G α=>obtain⟨h1,h2,cs,a,h5,h6⟩:=h;exact h5.lt
 | ac W own x G α=>obtain⟨h1,h2,h3,cs,a,h5,h6⟩:=h;exact h5.lt
 | bad c E =>
  rcases h with⟨h1,h2,z,own,cs,h3,h4⟩ | ⟨h1,h2,z,own,cs,h3,h4⟩ | ⟨h1,h2,z,own,cs,h3,h4,h5⟩
  . exact h4.lt
  . exact h4.lt
  . exact h5.lt
 | fin c E st =>
  rcases h with⟨h1,cs,a,h3,h4⟩ | ⟨h1,cs,a,h3,h4⟩ | ⟨h1,cs,a,h3,h4⟩ <;> exact h3.lt
section
variable {w:World} {L:Loc} {s:Mm} {b t n k m σ0 σ:Nat} {g p r:Int} {q:Q} {pn:Nat->Int}
theorem MB (h:Z8 w L s) (hb:¬ L.has b) (hV:XE t n k m s σ q pn) (hG:Good t n k m g p r) (hσ:σ<1000000) (h0:σ0<=σ) (hdw:∀ a,Wd (q.dw a)) (δ:Dw) (hi:Wq t n k m w b σ0 σ q δ) (hn:δ.need t n k m g q) (ho:δ.ZB=false) (who:Int) (q':Q) (δ':Dw) (hq:Yu t n k m g σ q δ=(q',δ')) :
 Calls Tryz.prog (fS δ.c) #[pP b 0,eV t n k m g p r L.p who] w fun e w'=>e=.returned (.bool δ'.ZB)/\∃ s',Z8 w' L s'/\XE t n k m s' (σ+δ.cost) q' pn/\Wq t n k m w' b σ0 (σ+δ.cost) q' δ'/\Only (L.and b) w w':=by
 have hT:=hV.tw
 cases δ with
 | al z own κ α =>
  obtain⟨fz,hz,hκ,gd,cs,a,ia,Ji⟩:=hi
  obtain⟨rfl,rfl⟩:=Prod.mk.inj hq
  refine(Q8 h hb hT hG hσ fz hz hκ α ia Ji gd ho who _ _ rfl _ rfl).mono ?_
  rintro e w' ⟨rfl,s',cs',a',P⟩
  have aw:=Al.away hκ gd ho
  exact⟨rfl,s',P.mm,hV.on P.tw P.st aw.1 aw.2,⟨fz,hz,hκ,P.good,cs',a',P.al,P.is⟩,P.only⟩
 | dp nu own x G α =>
  obtain⟨hh,hx,cs,a,ia,Ji,tl⟩:=hi
  obtain⟨rfl,rfl⟩:=Prod.mk.inj hq
  refine(drop_step h hb hT hG hσ hdw hh hx α ia Ji hn.1 ho who _ _ rfl _ rfl).mono ?_
  rintro e w' ⟨rfl,s',cs',a',P⟩
  have aw:=Dp.away hx hn.1 ho
  exact⟨rfl,s',P.mm,hV.on P.tw P.st aw.1 aw.2,⟨hh,hx,cs',a',P.dp,P.is,L9 hx hT P.tw P.st rfl ho hσ h0 hn.2 P.tl tl⟩,P.only⟩
 | ac W own x G α =>
  obtain⟨hh,hx,hW,cs,a,ia,Ji⟩:=hi
  obtain⟨rfl,rfl⟩:=Prod.mk.inj hq
  refine(SX h hb hT hG hσ hdw hh hx hW α ia Ji hn ho who _ _ rfl _ rfl).mono ?_
  rintro e w' ⟨rfl,s',cs',a',P⟩
  have aw:=Ac.away hn ho
  exact⟨rfl,s',P.mm,hV.on P.tw P.st (by omega) (Or.inr aw),⟨hh,hx,hW,cs',a',P.ac,P.is⟩,P.only⟩
 | bad c E =>
  obtain⟨rfl,rfl⟩:=Prod.mk.inj hq
  have hst:=hT.pile.st
  have hlen:ZN t n k m<=s.n:=by rw[hT.len];exact Nat.le_refl _
  rcases hi with⟨rfl,rfl,z,own,cs,hz,ia⟩ | ⟨rfl,rfl,nu,own,cs,hnu,ia⟩ | ⟨rfl,rfl,W,own,cs,hk,hnu,ia⟩
  . refine(XM (g:=g) (p:=p) (r:=r) (t:=t) (n:=n) (k:=k) (m:=m) h ia who rfl (fun s' a'=>s'=s/\a'={ av0 z own with nx:=8,E:=5,H:=0,V:=0,St:=σ }) true (by rintro s' a' ⟨-,rfl⟩;rfl) (fun w1 m1 i1=>PK m1 hb i1 who hz σ hst)).mono ?_
    rintro e w' ⟨rfl,s2,cs2,a2,m2,o2,i2,q2,rfl,rfl⟩
    exact⟨rfl,_,m2,hV,Or.inl ⟨rfl,cs2,_,i2,rfl,rfl,rfl,rfl,rfl⟩,o2⟩
  . rcases hnu.2 with hnn | ⟨x,G,hh,hx⟩
    . refine(Q7 h hb ia who hnu.1.1 hnu.1.2 hnn rfl hst).mono ?_
      rintro e w' ⟨rfl,s2,cs2,a2,m2,o2,i2,q2,rfl,rfl⟩
      exact⟨rfl,_,m2,hV,Or.inr (Or.inl ⟨rfl,cs2,_,i2,rfl,rfl,rfl,rfl,rfl⟩),o2⟩
    . refine(PI h ia who hG hlen hh hb hx rfl hst).mono ?_
      rintro e w' ⟨rfl,s2,cs2,a2,m2,o2,i2,q2,rfl,rfl⟩
      exact⟨rfl,_,m2,hV,Or.inr (Or.inl ⟨rfl,cs2,_,i2,rfl,rfl,rfl,rfl,rfl⟩),o2⟩
  . rcases hnu.2 with hnn | ⟨x,G,hh,hx⟩
    . refine(SY h ia who hk hb hnu.1.1 hnu.1.2 hnn (by show ¬ (0:Int)=7;decide) hst).mono ?_
      rintro e w' ⟨rfl,s2,cs2,a2,m2,o2,i2,q2,rfl,rfl⟩
      exact⟨rfl,_,m2,hV,Or.inr (Or.inr ⟨rfl,cs2,_,i2,rfl,rfl,rfl,rfl⟩),o2⟩
    . refine(Rl h ia who hk hG hlen hh hb hx (by show ¬ (0:Int)=7;decide) hst).mono ?_
      rintro e w' ⟨rfl,s2,cs2,a2,m2,o2,i2,q2,rfl,rfl⟩
      exact⟨rfl,_,m2,hV,Or.inr (Or.inr ⟨rfl,cs2,_,i2,rfl,rfl,rfl,rfl⟩),o2⟩
 | fin c E st=>cases ho
end
def Dw.told (σ0 σ:Nat) (E H V St:Int):Dw->Prop
 | .al _ _ _ (.over E' H' st)=>E=E'/\H=H'/\V=0/\St=st
 | .dp _ _ _ _ (.over E')=>E=E'/\H=0/\V=0/\(σ0:Int)<=St/\St<=(σ:Int)/\(E'=0->(σ0:Int)<St)
 | .ac _ _ _ _ (.over E' v st)=>E=E'/\H=0/\V=v/\St=st
 | .fin _ E' st=>E=E'/\H=0/\V=0/\St=st
 | _=>False
theorem Md {t n k m:Nat} {w:World} {b σ0 σ:Nat} {q:Q} {δ:Dw} (h:Wq t n k m w b σ0 σ q δ) (ho:δ.ZB=true):∃ E H V St,δ.told σ0 σ E H V St/\∀ w1,Below w.heap.size w w1->Calls Tryz.prog (fD δ.c) #[pP b 0] w1 fun e w'=>e=.returned (.agg #[iV E,.int .u64 H,iV V,iV St])/\Below w1.heap.size w1 w':=by
 cases δ with
 | al z own κ α =>
  obtain⟨h1,h2,h3,h4,cs,a,h5,h6⟩:=h
  cases α with
  | over E H st =>
   have:=h6.nx
   exact⟨_,_,_,_,⟨h6.cm.1,h6.cm.2.1,h6.cm.2.2.1,h6.cm.2.2.2⟩,fun w1 g=>U8 (h5.grown g) this⟩
  | _=>cases ho
 | dp nu own x G α =>
  obtain⟨h1,h2,cs,a,h5,h6,h7⟩:=h
  cases α with
  | over E =>
   have:=h6.nx
   exact⟨_,_,_,_,⟨h6.E,h6.H,h6.V,h7⟩,fun w1 g=>U7 (h5.grown g) this⟩
  | _=>cases ho
 | ac W own x G α =>
  obtain⟨h1,h2,h3,cs,a,h5,h6⟩:=h
  cases α with
  | over E v st=>exact⟨_,_,_,_,⟨h6.sec.1,h6.sec.2.1,h6.sec.2.2.1,h6.sec.2.2.2⟩,fun w1 g=>Us (h5.grown g)⟩
  | _=>cases ho
 | bad c E=>cases ho
 | fin c E st =>
  rcases h with⟨rfl,cs,a,h3,h4,h5⟩ | ⟨rfl,cs,a,h3,h4,h5⟩ | ⟨rfl,cs,a,h3,h5⟩
  . exact⟨_,_,_,_,h5,fun w1 g=>U8 (h3.grown g) h4⟩
  . exact⟨_,_,_,_,h5,fun w1 g=>U7 (h3.grown g) h4⟩
  . exact⟨_,_,_,_,h5,fun w1 g=>Us (h3.grown g)⟩
end
section
structure As where
 σ:Nat
 q:Q
 pn:Nat->Int
 ph:Nat
 δ:Dw
def Xw (t n k m:Nat) (cg:Int) (who:Nat) (A:As):As :=
 match A.ph with
 | 0=>{ A with σ:=A.σ+1,ph:=1 }
 | 1=>{ A with σ:=A.σ+1,pn:=upd A.pn who 1,ph:=2 }
 | 2=>{ A with σ:=A.σ+1,ph:=3 }
 | 3=>{ A with σ:=A.σ+A.δ.cost,q:=(Yu t n k m cg A.σ A.q A.δ).1,ph:=if (Yu t n k m cg A.σ A.q A.δ).2.ZB then 4 else 3,δ:=(Yu t n k m cg A.σ A.q A.δ).2 }
 | 4=>{ A with σ:=A.σ+1,pn:=upd A.pn who 0,ph:=5 }
 | _=>A
structure Bk where
 A:Nat
 S:Nat
 I:Nat
 b:Nat
def Bk.has (B:Bk) (x:Nat):Prop:=x=B.A\/x=B.S\/x=B.I\/x=B.b
structure SN (t n k m:Nat) (w:World) (L:Loc) (B:Bk) (σ0:Nat) (A:As):Prop where
 at_:WT w B.A B.S B.I B.b (Jm A.δ.c) (A.ph - 2)
 pin:A.ph<=2->∃ c,Zg w B.I 0 107 c A.ph 0
 dw:Wq t n k m w B.b σ0 A.σ A.q A.δ
 ov:A.δ.ZB=decide (4<=A.ph)
 p5:A.ph<=5
 s0:σ0<=A.σ
 nl:∀ x,B.has x->¬ L.has x
def LB (L:Loc) (B:Bk) (x:Nat):Prop:=L.has x\/B.has x
theorem WT.block {w w':World} {bA bS bI b:Nat} {T:TypeId} {i:Nat} (h:WT w bA bS bI b T i) (e1:w'.heap[bA]?=w.heap[bA]?) (e2:w'.heap[bS]?=w.heap[bS]?):WT w' bA bS bI b T i :=
 ⟨h.a.imp fun _ k=>k.of_block e1,h.l.imp fun _ k=>k.of_block e2,h.h1,h.h2,h.h3,h.h4,h.h5,h.h6⟩
theorem Pl.MG {k m κ σ σ':Nat} {τ:Pl} (h:τ.good k m κ σ) (hs:σ<=σ'):τ.good k m κ σ':=by
 cases τ with
 | grow i c=>exact⟨h.1,h.2.1.up hs,h.2.2⟩
 | take sn i c=>exact⟨h.1,h.2.1,h.2.2.1.up hs,h.2.2.2⟩
 | opn sn i c=>exact⟨h.1,h.2.1,h.2.2.1.up hs,h.2.2.2⟩
 | Tm sn i c=>exact⟨h.1,h.2.1,h.2.2.1.up hs,h.2.2.2⟩
 | _=>exact h
theorem Wq.later {t n k m:Nat} {w:World} {b σ0 σ σ':Nat} {q:Q} {δ:Dw} (h:Wq t n k m w b σ0 σ q δ) (hs:σ<=σ'):Wq t n k m w b σ0 σ' q δ:=by
 cases δ with
 | al z own κ α =>
  obtain⟨h1,h2,h3,h4,h5⟩:=h
  refine⟨h1,h2,h3,?_,h5⟩
  cases α with
  | place x G τ=>exact⟨h4.1,h4.2.1,h4.2.2.1,Pl.MG h4.2.2.2.1 hs,h4.2.2.2.2⟩
  | _=>exact h4
 | dp nu own x G α =>
  obtain⟨h1,h2,cs,a,h5,h6,h7⟩:=h
  refine⟨h1,h2,cs,a,h5,h6,?_⟩
  cases α with
  | count=>exact⟨h7.1,Int.le_trans h7.2 (by omega)⟩
  | give=>exact⟨h7.1,Int.le_trans h7.2 (by omega)⟩
  | over=>exact⟨h7.1,Int.le_trans h7.2.1 (by omega),h7.2.2⟩
  | _=>exact h7
 | ac W own x G α=>exact h
 | bad c E=>exact h
 | fin c E st=>exact h
theorem TP (b:Nat) (w:World):(method 320 105 (pP b 0) "Step").run Tryz.prog w=.ok (98,pP b 0) w:=by kernel_rfl
theorem Ob (w:World):(method 320 109 (.agg #[]) "Step").run Tryz.prog w=.ok (105,.agg #[]) w:=by kernel_rfl
theorem J8 (c b:Nat) (w:World):(method 320 (Jm c) (pP b 0) "Step").run Tryz.prog w=.ok ((fS c),pP b 0) w:=by
 match c with
 | 0 =>
  have h:(method 320 120 (pP b 0) "Step").run Tryz.prog w=.ok (107,pP b 0) w:=by kernel_rfl
  exact h
 | 1 =>
  have h:(method 320 122 (pP b 0) "Step").run Tryz.prog w=.ok (155,pP b 0) w:=by kernel_rfl
  exact h
 | _+2 =>
  have h:(method 320 142 (pP b 0) "Step").run Tryz.prog w=.ok (181,pP b 0) w:=by kernel_rfl
  exact h
theorem J7 (c b:Nat) (w:World):(method 320 (Jm c) (pP b 0) "Done").run Tryz.prog w=.ok ((fD c),pP b 0) w:=by
 match c with
 | 0 =>
  have h:(method 320 120 (pP b 0) "Done").run Tryz.prog w=.ok (106,pP b 0) w:=by kernel_rfl
  exact h
 | 1 =>
  have h:(method 320 122 (pP b 0) "Done").run Tryz.prog w=.ok (154,pP b 0) w:=by kernel_rfl
  exact h
 | _+2 =>
  have h:(method 320 142 (pP b 0) "Done").run Tryz.prog w=.ok (180,pP b 0) w:=by kernel_rfl
  exact h
theorem Rf (args:Array Value) (w:World):(callFunc 98 args).run Tryz.prog w=.ok (.enter 98 args) w:=by kernel_rfl
theorem MF (args:Array Value) (w:World):(callFunc 105 args).run Tryz.prog w=.ok (.enter 105 args) w:=by kernel_rfl
theorem Jl (c:Nat) (args:Array Value) (w:World):(callFunc (fS c) args).run Tryz.prog w=.ok (.enter (fS c) args) w:=by
 match c with
 | 0 =>
  have h:(callFunc 107 args).run Tryz.prog w=.ok (.enter 107 args) w:=by kernel_rfl
  exact h
 | 1 =>
  have h:(callFunc 155 args).run Tryz.prog w=.ok (.enter 155 args) w:=by kernel_rfl
  exact h
 | _+2 =>
  have h:(callFunc 181 args).run Tryz.prog w=.ok (.enter 181 args) w:=by kernel_rfl
  exact h
theorem Jk (c:Nat) (args:Array Value) (w:World):(callFunc (fD c) args).run Tryz.prog w=.ok (.enter (fD c) args) w:=by
 match c with
 | 0 =>
  have h:(callFunc 106 args).run Tryz.prog w=.ok (.enter 106 args) w:=by kernel_rfl
  exact h
 | 1 =>
  have h:(callFunc 154 args).run Tryz.prog w=.ok (.enter 154 args) w:=by kernel_rfl
  exact h
 | _+2 =>
  have h:(callFunc 180 args).run Tryz.prog w=.ok (.enter 180 args) w:=by kernel_rfl
  exact h
theorem Jj (c b:Nat) (w:World):(binOp .eql 85 (.iface (Jm c) (pP b 0)) .nilIface).run Tryz.prog w=.ok (.bool false) w:=by
 match c with
 | 0 =>
  have h:(binOp .eql 85 (.iface 120 (pP b 0)) .nilIface).run Tryz.prog w=.ok (.bool false) w:=by kernel_rfl
  exact h
 | 1 =>
  have h:(binOp .eql 85 (.iface 122 (pP b 0)) .nilIface).run Tryz.prog w=.ok (.bool false) w:=by kernel_rfl
  exact h
 | _+2 =>
  have h:(binOp .eql 85 (.iface 142 (pP b 0)) .nilIface).run Tryz.prog w=.ok (.bool false) w:=by kernel_rfl
  exact h
theorem Oa {t n k m:Nat} {g:Int} {σ:Nat} {q q':Q} {δ δ':Dw} (h:Yu t n k m g σ q δ=(q',δ')):δ'.c=δ.c:=by
 cases δ <;> (obtain⟨-,rfl⟩:=Prod.mk.inj h;rfl)
theorem WT.next {w:World} {bA bS bI b:Nat} {T:TypeId} {i:Nat} (h:WT w bA bS bI b T i):WT (w.setCell ⟨bA,1,none⟩ (.slice (some ⟨bS,min (i+1) 2,none⟩) (2 - i) (2 - i))) bA bS bI b T (i+1):=by
 obtain⟨c,ka⟩:=h.a
 obtain⟨c',kl⟩:=h.l
 have:=ka.VB 1 (.slice (some ⟨bS,min (i+1) 2,none⟩) (2 - i) (2 - i))
 have hk:3 - (i+1)=2 - i:=by omega
 refine⟨⟨c.setIfInBounds 1 (.slice (some ⟨bS,min (i+1) 2,none⟩) (2 - i) (2 - i)),?_⟩,⟨c',kl.other (Ne.symm h.h1) _ _⟩,h.h1,h.h2,h.h3,h.h4,h.h5,h.h6⟩
 rw[hk]
 exact this
section
variable {w:World} {L:Loc} {s:Mm} {B:Bk} {t n k m σ0:Nat} {g p r:Int} {A:As}
theorem PM (h:Z8 w L s) (hV:XE t n k m s A.σ A.q A.pn) (hG:Good t n k m g p r) (hσ:A.σ<1000000) (hdw:∀ a,Wd (A.q.dw a)) (hA:SN t n k m w L B σ0 A) (h5:A.ph≠5) (hn:A.ph=3->A.δ.need t n k m g A.q) (who:Nat) (hw:who<t) (A':As) (hq:Xw t n k m g who A=A') :
 Calls Tryz.prog 26 #[pP B.A 0,eV t n k m g p r L.p who] w fun e w'=>e=.returned (.bool (A'.ph == 5))/\∃ s',Z8 w' L s'/\XE t n k m s' A'.σ A'.q A'.pn/\SN t n k m w' L B σ0 A'/\Only (LB L B) w w'/\(A.ph≠3->s'.la<6+t):=by
 subst hq
 obtain⟨σ,q,pn,ph,δ⟩:=A
 have hlen:=hV.tw.len
 have htn:6+who<s.n:=by rw[hlen];omega
 have Vs:(t:Int)<=8:=by have:=hG.t1;omega
 have hwt:(who:Int)<(t:Int):=by omega
 obtain⟨hAt,MC,Q9,hov,Gq,hs0,hnl⟩:=hA
 simp only at hAt MC Q9 hov Gq hs0 hn h5 hσ hdw hV
 have nA:=hnl B.A (Or.inl rfl)
 have nS:=hnl B.S (Or.inr (Or.inl rfl))
 have nI:=hnl B.I (Or.inr (Or.inr (Or.inl rfl)))
 have nb:=hnl B.b (Or.inr (Or.inr (Or.inr rfl)))
 obtain⟨ca,ka⟩:=hAt.a
 obtain⟨cl,kl⟩:=hAt.l
 have ia:=ka.lt
 have il:=kl.lt
 have ib:=Q9.lt
 have oI:∀ {x y:World},Only (L.and B.I) x y->Only (LB L B) x y:=fun o=>o.mono fun z _ hz=>hz.elim Or.inl (fun e=>Or.inr (Or.inr (Or.inr (Or.inl e))))
 have ob:∀ {x y:World},Only (L.and B.b) x y->Only (LB L B) x y:=fun o=>o.mono fun z _ hz=>hz.elim Or.inl (fun e=>Or.inr (Or.inr (Or.inr (Or.inr e))))
 have oA:∀ {x y:World} {i:Nat} {v:Value},Only (LB L B) x y->Only (LB L B) x (y.setCell ⟨B.A,i,none⟩ v):=fun o=>o.setCell (fun _=>Or.inr (Or.inl rfl)) _
 match ph,h5 with
 | 0,_ =>
  obtain⟨c,hin⟩:=MC (by omega)
  have hin:Zg w B.I 0 107 c 0 0:=hin
  refine(Yf (L:=L) hAt (by omega) t n k m g p r who (kl.at0 0 rfl) (TP _) Rf (fun d w1=>d=false/\∃ s',Z8 w1 L s'/\XE t n k m s' (σ+1) q pn/\s'.la<6+t/\(∃ c,Zg w1 B.I 0 107 c 1 0)/\∃ w0,Below w.heap.size w w0/\Only (L.and B.I) w0 w1) (fun w1 g1=>?_)).mono ?_
  . refine(Vb (h.below g1) nI (hin.grown g1) (Or.inl rfl) t n k m g p r who htn hwt Vs).mono ?_
    rintro e w' ⟨d,s',c',nx',KQ,rfl,P,m',i',-,o'⟩
    refine⟨d,rfl,o'.block _ (Nat.lt_of_lt_of_le ia g1.size) (fun hh=>hh.elim nA hAt.h2),?_⟩
    cases P with
    | load =>
     rw[hV.ep] at m' i'
     have hv1:=hV.look hσ (who:Int)
     rw[hV.ep] at hv1
     exact⟨rfl,_,m',hv1,(by show ((0:Nat):Int)<6+(t:Int);omega),⟨c',i'⟩,w1,g1,o'⟩
  . rintro e w' ⟨d,w1,⟨rfl,s',m',v',l',i',w0,g0,o0⟩,hh⟩
    have ek:∀ x,x<w.heap.size->x≠B.I->¬ L.has x->w1.heap[x]?=w.heap[x]?:=fun x hx h1 h2=>(o0.block _ (Nat.lt_of_lt_of_le hx g0.size) (fun hh=>hh.elim h2 h1)).trans (g0.block _ hx)
    have ow:Only (LB L B) w w1:=(Only.Z4 g0).trans (oI o0)
    rcases hh with⟨-,rfl,rfl⟩ | ⟨e,-⟩
    . exact⟨rfl,s',m',v',⟨hAt.block (ek _ ia hAt.h2 nA) (ek _ il hAt.h4 nS),fun _=>i',(Q9.of_block (ek _ ib (Ne.symm hAt.h6) nb)).later (Nat.le_succ _),hov,by show 1<=5;omega,by show σ0<=σ+1;omega,hnl⟩,ow,fun _=>l'⟩
    . cases e
 | 1,_ =>
  obtain⟨c,hin⟩:=MC (by omega)
  have hin:Zg w B.I 0 107 c 1 0:=hin
  refine(Yf (L:=L) hAt (by omega) t n k m g p r who (kl.at0 0 rfl) (TP _) Rf (fun d w1=>d=false/\∃ s',Z8 w1 L s'/\XE t n k m s' (σ+1) q (upd pn who 1)/\s'.la<6+t/\(∃ c,Zg w1 B.I 0 107 c 2 0)/\∃ w0,Below w.heap.size w w0/\Only (L.and B.I) w0 w1) (fun w1 g1=>?_)).mono ?_
  . refine(Vb (h.below g1) nI (hin.grown g1) (Or.inr (Or.inl rfl)) t n k m g p r who htn hwt Vs).mono ?_
    rintro e w' ⟨d,s',c',nx',KQ,rfl,P,m',i',-,o'⟩
    refine⟨d,rfl,o'.block _ (Nat.lt_of_lt_of_le ia g1.size) (fun hh=>hh.elim nA hAt.h2),?_⟩
    cases P with
    | lay=>exact⟨rfl,_,m',hV.pin hσ (who:Int) hw 1,(by show ((6+who:Nat):Int)<6+(t:Int);omega),⟨c',i'⟩,w1,g1,o'⟩
  . rintro e w' ⟨d,w1,⟨rfl,s',m',v',l',i',w0,g0,o0⟩,hh⟩
    have ek:∀ x,x<w.heap.size->x≠B.I->¬ L.has x->w1.heap[x]?=w.heap[x]?:=fun x hx h1 h2=>(o0.block _ (Nat.lt_of_lt_of_le hx g0.size) (fun hh=>hh.elim h2 h1)).trans (g0.block _ hx)
    have ow:Only (LB L B) w w1:=(Only.Z4 g0).trans (oI o0)
    rcases hh with⟨-,rfl,rfl⟩ | ⟨e,-⟩
    . exact⟨rfl,s',m',v',⟨hAt.block (ek _ ia hAt.h2 nA) (ek _ il hAt.h4 nS),fun _=>i',(Q9.of_block (ek _ ib (Ne.symm hAt.h6) nb)).later (Nat.le_succ _),hov,by show 2<=5;omega,by show σ0<=σ+1;omega,hnl⟩,ow,fun _=>l'⟩
    . cases e
 | 2,_ =>
  obtain⟨c,hin⟩:=MC (by omega)
  have hin:Zg w B.I 0 107 c 2 0:=hin
  refine(Yf (L:=L) hAt (by omega) t n k m g p r who (kl.at0 0 rfl) (TP _) Rf (fun d w1=>d=true/\∃ s',Z8 w1 L s'/\XE t n k m s' (σ+1) q pn/\s'.la<6+t/\∃ w0,Below w.heap.size w w0/\Only (L.and B.I) w0 w1) (fun w1 g1=>?_)).mono ?_
  . refine(Vb (h.below g1) nI (hin.grown g1) (Or.inr (Or.inr rfl)) t n k m g p r who htn hwt Vs).mono ?_
    rintro e w' ⟨d,s',c',nx',KQ,rfl,P,m',i',-,o'⟩
    refine⟨d,rfl,o'.block _ (Nat.lt_of_lt_of_le ia g1.size) (fun hh=>hh.elim nA hAt.h2),?_⟩
    obtain⟨rfl,rfl⟩:d=true/\s'=(s.by who).step 0 (s.wd 0):=by
     generalize hE:(0:Int)=E0 at P
     cases P with
     | same=>exact⟨rfl,rfl⟩
     | other _ hne=>exact absurd (hV.ep.trans hE) hne
    exact⟨rfl,_,m',hV.look hσ (who:Int),(by show ((0:Nat):Int)<6+(t:Int);omega),w1,g1,o'⟩
  . rintro e w' ⟨d,w1,⟨rfl,s',m',v',l',w0,g0,o0⟩,hh⟩
    have ek:∀ x,x<w.heap.size->x≠B.I->¬ L.has x->w1.heap[x]?=w.heap[x]?:=fun x hx h1 h2=>(o0.block _ (Nat.lt_of_lt_of_le hx g0.size) (fun hh=>hh.elim h2 h1)).trans (g0.block _ hx)
    have ow:Only (LB L B) w w1:=(Only.Z4 g0).trans (oI o0)
    rcases hh with⟨e,-⟩ | ⟨-,rfl,rfl⟩
    . cases e
    . have hA1:=hAt.block (ek _ ia hAt.h2 nA) (ek _ il hAt.h4 nS)
      exact⟨rfl,s',m'.Z5 nA _ _,v',⟨hA1.next,fun h=>absurd h (by show ¬ 3<=2;omega),((Q9.of_block (ek _ ib (Ne.symm hAt.h6) nb)).later (Nat.le_succ _)).of_block (Go.Deep.blk_setCell_other _ _ _ _ (by simpa using (Ne.symm hAt.h3))),hov,by show 3<=5;omega,by show σ0<=σ+1;omega,hnl⟩,oA ow,fun _=>l'⟩
 | 3,_ =>
  obtain⟨q',δ',hq⟩:∃ q' δ',Yu t n k m g σ q δ=(q',δ'):=⟨_,_,rfl⟩
  have ho:δ.ZB=false:=hov
  have hc:δ'.c=δ.c:=Oa hq
  refine(Yf (L:=L) hAt (by omega) t n k m g p r who (kl.at0 1 rfl) (J8 δ.c _) (Jl δ.c) (fun d w1=>d=δ'.ZB/\∃ s',Z8 w1 L s'/\XE t n k m s' (σ+δ.cost) q' pn/\Wq t n k m w1 B.b σ0 (σ+δ.cost) q' δ'/\∃ w0,Below w.heap.size w w0/\Only (L.and B.b) w0 w1) (fun w1 g1=>?_)).mono ?_
  . refine(MB (h.below g1) nb hV hG hσ hs0 hdw δ (Q9.of_block (g1.block _ ib)) (hn rfl) ho who q' δ' hq).mono ?_
    rintro e w' ⟨rfl,s',m',v',d',o'⟩
    exact⟨_,rfl,o'.block _ (Nat.lt_of_lt_of_le ia g1.size) (fun hh=>hh.elim nA hAt.h3),rfl,s',m',v',d',w1,g1,o'⟩
  . rintro e w' ⟨d,w1,⟨rfl,s',m',v',d',w0,g0,o0⟩,hh⟩
    have ek:∀ x,x<w.heap.size->x≠B.b->¬ L.has x->w1.heap[x]?=w.heap[x]?:=fun x hx h1 h2=>(o0.block _ (Nat.lt_of_lt_of_le hx g0.size) (fun hh=>hh.elim h2 h1)).trans (g0.block _ hx)
    have ow:Only (LB L B) w w1:=(Only.Z4 g0).trans (ob o0)
    have hA1:=hAt.block (ek _ ia hAt.h3 nA) (ek _ il hAt.h5 nS)
    have eT:Xw t n k m g who ⟨σ,q,pn,3,δ⟩=⟨σ+δ.cost,q',pn,if δ'.ZB then 4 else 3,δ'⟩:=by
     show As.mk _ _ _ _ _=_
     rw[hq]
    rw[eT]
    rcases hh with⟨e,rfl,rfl⟩ | ⟨e,rfl,rfl⟩
    . rw[e,if_neg (by decide)]
      exact⟨rfl,s',m',v',⟨by rw[hc];exact hA1,fun h=>absurd h (by show ¬ 3<=2;omega),d',e,by show 3<=5;omega,by show σ0<=σ+δ.cost;omega,hnl⟩,ow,fun h=>absurd rfl h⟩
    . rw[e,if_pos rfl]
      exact⟨rfl,s',m'.Z5 nA _ _,v',⟨by rw[hc];exact hA1.next,fun h=>absurd h (by show ¬ 4<=2;omega),d'.of_block (Go.Deep.blk_setCell_other _ _ _ _ (by simpa using (Ne.symm hAt.h3))),e,by show 4<=5;omega,by show σ0<=σ+δ.cost;omega,hnl⟩,oA ow,fun h=>absurd rfl h⟩
 | 4,_ =>
  refine(Yf (L:=L) hAt (by omega) t n k m g p r who (kl.at0 2 rfl) Ob MF (fun d w1=>d=true/\∃ s',Z8 w1 L s'/\XE t n k m s' (σ+1) q (upd pn who 0)/\s'.la<6+t/\∃ w0,Below w.heap.size w w0/\Only L.has w0 w1) (fun w1 g1=>?_)).mono ?_
  . refine(Me (h.below g1) t n k m g p r who htn hwt Vs).mono ?_
    rintro e w' ⟨rfl,m',o'⟩
    exact⟨_,rfl,o'.block _ (Nat.lt_of_lt_of_le ia g1.size) nA,rfl,_,m',hV.pin hσ (who:Int) hw 0,(by show ((6+who:Nat):Int)<6+(t:Int);omega),w1,g1,o'⟩
  . rintro e w' ⟨d,w1,⟨rfl,s',m',v',l',w0,g0,o0⟩,hh⟩
    have ek:∀ x,x<w.heap.size->¬ L.has x->w1.heap[x]?=w.heap[x]?:=fun x hx h2=>(o0.block _ (Nat.lt_of_lt_of_le hx g0.size) h2).trans (g0.block _ hx)
    have ow:Only (LB L B) w w1:=(Only.Z4 g0).trans (o0.mono fun _ _=>Or.inl)
    have hA1:=hAt.block (ek _ ia nA) (ek _ il nS)
    rcases hh with⟨e,-⟩ | ⟨-,rfl,rfl⟩
    . cases e
    . exact⟨rfl,s',m'.Z5 nA _ _,v',⟨hA1.next,fun h=>absurd h (by show ¬ 5<=2;omega),((Q9.of_block (ek _ ib nb)).later (Nat.le_succ _)).of_block (Go.Deep.blk_setCell_other _ _ _ _ (by simpa using (Ne.symm hAt.h3))),hov,by show 5<=5;omega,by show σ0<=σ+1;omega,hnl⟩,oA ow,fun _=>l'⟩
 | 5,h=>exact absurd rfl h
 | ph+6,_=>omega
theorem SL (h:Z8 w L s) (hV:XE t n k m s A.σ A.q A.pn) (hG:Good t n k m g p r) (hσ:A.σ<1000000) (hdw:∀ a,Wd (A.q.dw a)) (hA:SN t n k m w L B σ0 A) (h5:A.ph≠5) (hn:A.ph=3->A.δ.need t n k m g A.q) (who:Nat) (hw:who<t) (A':As) (hq:Xw t n k m g who A=A') :
 Calls Tryz.prog 26 #[pP B.A 0,eV t n k m g p r L.p who] w fun e w'=>e=.returned (.bool (A'.ph == 5))/\∃ s',Z8 w' L s'/\XE t n k m s' A'.σ A'.q A'.pn/\SN t n k m w' L B σ0 A'/\Only (LB L B) w w' :=
 (PM h hV hG hσ hdw hA h5 hn who hw A' hq).mono (by rintro e w' ⟨h1,s',h2,h3,h4,h6,-⟩;exact⟨h1,s',h2,h3,h4,h6⟩)
theorem N9 (hA:SN t n k m w L B σ0 A) (h5:A.ph=5):∃ E H V St,A.δ.told σ0 A.σ E H V St/\∀ w1,Below w.heap.size w w1->Calls Tryz.prog 27 #[pP B.A 0] w1 fun e w'=>e=.returned (.agg #[iV E,.int .u64 H,iV V,iV St])/\Below w1.heap.size w1 w':=by
 have ho:A.δ.ZB=true:=by rw[hA.ov,h5];rfl
 obtain⟨E,H,V,St,ht,hc⟩:=Md hA.dw ho
 refine⟨E,H,V,St,ht,fun w1 g1=>?_⟩
 have hAt:=hA.at_
 rw[h5] at hAt
 obtain⟨c,ka⟩:=hAt.a
 obtain⟨c',kl⟩:=hAt.l
 exact TN (hAt.block (g1.block _ ka.lt) (g1.block _ kl.lt)) (Jj _ _) (J7 _ _) (Jk _) E H V St (fun w2 g2=>hc w2 (grow g1 g2))
end
end
section
inductive YJ (n:Nat) (X:Xa):Dw->Prop where
 | al (κ:Nat) (h:X.kd=1) (fz:Fit X.sz) (hz:ZM X.sz=κ) (hκ:κ<4):YJ n X (.al X.sz X.own κ (.take .idle))
 | Jp (h:X.kd=1) (hz:ZM X.sz<0):YJ n X (.bad 0 5)
 | dp {x G:Nat} (h:X.kd=2) (hh:Y0 X.nu x G) (hx:x<n):YJ n X (.dp X.nu X.own x G .see)
 | Jo (h:X.kd=2) (hn:TQ n X.nu):YJ n X (.bad 1 3)
 | ac {x G:Nat} (h3:3<=X.kd) (h5:X.kd<=5) (hv:Fit X.vl) (hh:Y0 X.nu x G) (hx:x<n):YJ n X (.ac ⟨X.kd - 2,X.nu,X.ix,X.vl,X.ol⟩ X.own x G .see)
 | Jn (h3:3<=X.kd) (h5:X.kd<=5) (hn:TQ n X.nu):YJ n X (.bad 2 3)
theorem YJ.over {n:Nat} {X:Xa} {δ:Dw} (h:YJ n X δ):δ.ZB=false:=by cases h <;> rfl
theorem YJ.ty {n:Nat} {X:Xa} {δ:Dw} (h:YJ n X δ):X.ty=Jm δ.c:=by
 cases h with
 | al κ h=>unfold Xa.ty;rw[if_pos h];rfl
 | Jp h=>unfold Xa.ty;rw[if_pos h];rfl
 | dp h=>unfold Xa.ty;rw[if_neg (by omega),if_pos h];rfl
 | Jo h=>unfold Xa.ty;rw[if_neg (by omega),if_pos h];rfl
 | ac h3=>unfold Xa.ty;rw[if_neg (by omega),if_neg (by omega)];rfl
 | Jn h3=>unfold Xa.ty;rw[if_neg (by omega),if_neg (by omega)];rfl
theorem YJ.at {n:Nat} {X:Xa} {δ:Dw} (h:YJ n X δ) (t k m σ:Nat) (q:Q) (W:World):Wq t n k m (W.alloc X.ob) W.heap.size σ σ q δ:=by
 cases h with
 | al κ h fz hz hκ =>
  unfold Xa.ob;rw[if_pos h]
  obtain⟨cs,q0⟩:=Um X.sz X.own W
  exact⟨fz,hz,hκ,⟨trivial,rfl⟩,cs,_,q0,Kq _ _ _⟩
 | Jp h hz =>
  unfold Xa.ob;rw[if_pos h]
  obtain⟨cs,q0⟩:=Um X.sz X.own W
  exact Or.inl ⟨rfl,rfl,_,_,cs,hz,q0⟩
 | dp h hh hx =>
  unfold Xa.ob;rw[if_neg (by omega),if_pos h]
  obtain⟨cs,q0⟩:=SQ X.nu X.own W
  exact⟨hh,hx,cs,_,q0,Ko _ _ _ _ _ _ _,trivial⟩
 | Jo h hn =>
  unfold Xa.ob;rw[if_neg (by omega),if_pos h]
  obtain⟨cs,q0⟩:=SQ X.nu X.own W
  exact Or.inr (Or.inl ⟨rfl,rfl,_,_,cs,hn,q0⟩)
 | ac h3 h5 hv hh hx =>
  unfold Xa.ob;rw[if_neg (by omega),if_neg (by omega)]
  obtain⟨cs,q0⟩:=Qu (X.kd - 2) X.nu X.ix X.vl X.ol X.own W
  exact⟨hh,hx,⟨by show X.kd - 2=1\/X.kd - 2=2\/X.kd - 2=3;omega,hv⟩,cs,_,q0,Kr ⟨X.kd - 2,X.nu,X.ix,X.vl,X.ol⟩ X.own⟩
 | Jn h3 h5 hn =>
  unfold Xa.ob;rw[if_neg (by omega),if_neg (by omega)]
  obtain⟨cs,q0⟩:=Qu (X.kd - 2) X.nu X.ix X.vl X.ol X.own W
  exact Or.inr (Or.inr ⟨rfl,rfl,⟨X.kd - 2,X.nu,X.ix,X.vl,X.ol⟩,X.own,cs,by show X.kd - 2=1\/X.kd - 2=2\/X.kd - 2=3;omega,hn,q0⟩)
theorem J9 {w:World} {L:Loc} {s:Mm} (hM:Z8 w L s) {X:Xa} (hm:X.may=true) {n:Nat} {δ:Dw} (hs:YJ n X δ) (t k m σ:Nat) (q:Q) (pn:Nat->Int) :
 Calls Tryz.prog 38 #[X.v] w fun e w'=>∃ B:Bk,e=.returned (.tuple #[pP B.A 0,iV 0])/\Below w.heap.size w w'/\(∀ x,B.has x->w.heap.size<=x)/\SN t n k m w' L B σ ⟨σ,q,pn,0,δ⟩:=by
 refine(Ri X hm w).mono ?_
 rintro e w' ⟨bA,bS,bI,b,W,c,rfl,bw,h1,h2,h3,h4,hA,hI,rfl,g⟩
 have hge:∀ x,Bk.has ⟨bA,bS,bI,W.heap.size⟩ x->w.heap.size<=x:=by
  intro x hx
  have hx:x=bA\/x=bS\/x=bI\/x=W.heap.size:=hx
  omega
 refine⟨⟨bA,bS,bI,W.heap.size⟩,rfl,bw,hge,⟨?_,fun _=>⟨c,hI⟩,?_,hs.over,by show 0<=5;omega,Nat.le_refl _,fun x hx hh=>?_⟩⟩
 . rw[hs.ty] at hA;exact hA
 . exact(hs.at t k m σ q W).of_block (g.block _ (by rw[Go.Deep.nblk_alloc];omega))
 . have:=hge x hx
   have:=hM.lt _ hh
   omega
theorem PS {t n k m κ:Nat} {z:Int} {own:Bool} {σ:Nat} {q:Q} {α:Al} (h:∀ a,Wd (q.dw a)):∀ a,Wd ((Y5 t n k m κ z own σ q α).1.dw a):=by
 have up:∀ (A:Nat) (v:Int),Wd v->∀ a,Wd (upd q.dw A v a):=fun A v hv a=>by
  unfold upd;split
  . exact hv
  . exact h a
 have pw:∀ (kd:Int) (x:Int) (G:Int),Wd (Zd kd z x G own):=fun kd x G=>⟨(Xh _ _ _ _ _).1,Int.le_trans (Xh _ _ _ _ _).2 (by decide)⟩
 cases α with
 | take τ=>simp only[Y5];unfold WL;split <;> exact h
 | place x G τ=>simp only[Y5];unfold Xg;split <;> exact h
 | head x G a i=>exact up _ _ (pw _ _ _)
 | ready x G a i st=>exact up _ _ (pw _ _ _)
 | give x G γ=>simp only[Y5];unfold Rh;split <;> exact h
 | _=>exact h
theorem PR {t n k m:Nat} {cg:Int} {σ:Nat} {q:Q} {δ:Dw} (h:∀ a,Wd (q.dw a)):∀ a,Wd ((Yu t n k m cg σ q δ).1.dw a):=by
 cases δ with
 | al=>exact PS h
 | dp nu own x G α=>exact PQ (q':=(Zl t n k m cg own x G q α).1) h rfl
 | ac W own x G α=>exact PT (q':=(XN W own x G σ q α).1) h rfl
 | bad=>exact h
 | fin=>exact h
theorem PO {t n k m:Nat} {cg:Int} {who:Nat} {A:As} (h:∀ a,Wd (A.q.dw a)):∀ a,Wd ((Xw t n k m cg who A).q.dw a):=by
 obtain⟨σ,q,pn,ph,δ⟩:=A
 match ph with
 | 0=>exact h
 | 1=>exact h
 | 2=>exact h
 | 3=>exact PR h
 | 4=>exact h
 | _+5=>exact h
theorem PN {t n k m:Nat} {cg:Int} {who:Nat} {A:As}:(Xw t n k m cg who A).σ<=A.σ+1:=by
 obtain⟨σ,q,pn,ph,δ⟩:=A
 match ph with
 | 0=>exact Nat.le_refl _
 | 1=>exact Nat.le_refl _
 | 2=>exact Nat.le_refl _
 | 3 =>
  show σ+δ.cost<=σ+1
  cases δ <;> (simp only[Dw.cost];omega)
 | 4=>exact Nat.le_refl _
 | _+5=>exact Nat.le_succ _
inductive Yt (t n k m:Nat) (cg:Int) (who:Nat):Nat->As->As->Prop where
 | one {A A':As} (h5:A.ph≠5) (hn:A.ph=3->A.δ.need t n k m cg A.q) (ht:Xw t n k m cg who A=A') (h:A'.ph=5):Yt t n k m cg who 1 A A'
 | more {N:Nat} {A A1 A':As} (h5:A.ph≠5) (hn:A.ph=3->A.δ.need t n k m cg A.q) (ht:Xw t n k m cg who A=A1) (h:A1.ph≠5) (g:Yt t n k m cg who N A1 A'):Yt t n k m cg who (N+1) A A'
theorem Yt.pos {t n k m:Nat} {cg:Int} {who N:Nat} {A A':As} (g:Yt t n k m cg who N A A'):1<=N:=by
 cases g <;> omega
theorem Only.drop {L:Loc} {B:Bk} {w w':World} (h:Only (LB L B) w w') (hB:∀ x,B.has x->w.heap.size<=x):Only L.has w w' :=
 h.mono fun x hx hh=>hh.elim id (fun e=>absurd (hB x e) (by omega))
section
variable {w:World} {L:Loc} {t n k m σ:Nat} {s:Mm} {q:Q} {pn:Nat->Int}
end
end
section
end
section
end
section
end
section
end
section
end
section
end
section
end
end Go.Proofs.YtibmjlefcaonnaaGreat
