import Derived.Test.YtibmjlefcaonnaaGreatShfMake
import Derived.Test.YtibmjlefcaonnaaGreatShfBool
import Derived.Deep.LoopGhost
import Derived.Test.YtibmjlefcaonnaaGreatAllocSound
namespace Go.Proofs.YtibmjlefcaonnaaGreat
open Go.RowKit
section
section
variable {t n k m σ N:Nat} {q:Q}
def zD:Dw:=.al 2 true 0 (.take .idle)
theorem KL (n:Nat):YY n uN zD:=.al 0 rfl ⟨by decide,by decide⟩ rfl (by decide)
theorem UN.run (A:UN t n k m N q) (hk:1<=k) (hk1:k<=64) (hm:17<=m) (hN:N<n) (h3:3 * (N+1)<=m) (hn:n<=65535):∃ (M:Nat) (q':Q),M<=k+20/\UN t n k m (N+1) q'/\∀ (cg:Int) (who σ:Nat) (pn:Nat->Int),∃ (σ' st:Nat),σ'<=σ+100/\XO t n k m cg who M ⟨σ,q,pn,0,zD⟩ ⟨σ',q',upd pn who 0,5,.al 2 true 0 (.over 0 (65536+N) st)⟩:=by
 obtain⟨M,y',hM,go,g1,A'⟩:=A.step hk hk1 hm hN h3
 have hF:q.F=N :: YI n (n - (N+1)):=by rw[A.F];exact Nz hN
 refine⟨M+4+4+4,_,by omega,A',fun cg who σ pn=>?_⟩
 have r:=MV (t:=t) (n:=n) (m:=m) (z:=2) (own:=true) (σ:=σ+3) hF go g1 (H:=65536+N) (by
  show Yi ((N:Nat):Int) ((1:Nat):Int)=_
  rw[VZ N 1 (by omega) (by decide)];omega) rfl rfl
 exact⟨_,_,by omega,(Ky r).all⟩
theorem UN.full (A:UN t n k m N q) (hN:N=n):∀ (cg:Int) (who σ:Nat) (pn:Nat->Int),∃ (σ' st:Nat),σ'<=σ+100/\XO t n k m cg who 5 ⟨σ,q,pn,0,zD⟩ ⟨σ',q,upd pn who 0,5,.al 2 true 0 (.over 7 0 st)⟩:=by
 intro cg who σ pn
 have hF:q.F=[]:=by rw[A.F,hN,Nat.sub_self];rfl
 have r:=JA (t:=t) (n:=n) (k:=k) (m:=m) (κ:=0) (z:=2) (own:=true) (σ:=σ+3) hF
 exact⟨_,_,by omega,(Ky r).all⟩
end
end
section
set_option maxHeartbeats 1000000
set_option maxRecDepth 20000
section
variable {w:World} {L:Loc} {t n k m σ:Nat} {s:Mm} {q:Q} {pn:Nat->Int}
theorem JX {cg cp cr:Int} (h:Z7 w L s) (hV:XF t n k m s σ q pn) (hG:Good t n k m cg cp cr) (hdw:∀ a,Wd (q.dw a)) (hσ:σ+500<1000000) (who:Nat) (hw:who<t) {N:Nat} (hN:N<=500) {A':As} (g:XO t n k m cg who N ⟨σ,q,pn,0,zD⟩ A') :
 Calls Tryz.prog 21 #[eV t n k m cg cp cr L.p who] w fun e w'=>∃ (E H V St:Int) (s':Mm),e=.returned (.agg #[iV E,.int .u64 H,iV V,iV St])/\A'.δ.told σ A'.σ E H V St/\Z7 w' L s'/\XF t n k m s' A'.σ A'.q A'.pn/\Only L.has w w':=by
 have hB:Hid (¬ L.has w.heap.size):=fun hh=>by have:=h.lt _ hh;omega
 have hB2:Hid (¬ L.has (w.heap.size+1)):=fun hh=>by have:=h.lt _ hh;omega
 have HV:Hid (XF t n k m s σ q pn):=hV
 have HM:Hid (Z7 w L s):=h
 have HG:Hid (Good t n k m cg cp cr):=hG
 have ry:Hid (who<t):=hw
 have HW:Hid (∀ a,Wd (q.dw a)):=hdw
 have oz:Hid (N<=500):=hN
 have GG:Hid (XO t n k m cg who N ⟨σ,q,pn,0,zD⟩ A'):=g
 obtain⟨E0,hE0⟩:∃ E0,E0=(.cells #[iV t,iV n,iV k,iV m,iV cg,iV cp,iV cr,pP L.p 0,iV who] 29:Obj):=⟨_,rfl⟩
 have HN:=G6 (w:=(w.alloc E0).alloc (.cells #[iV 0,.int .u64 0,iV 0,iV 0] 51)) ((h.alloc E0).alloc _) (X:=uN) (by decide) (KL n) t k m σ q pn
 subst hE0
 clear h hV hG g hw hdw hN
 simp only[Xa.v,uN] at HN
 have v0:ZP ((w.alloc (.cells #[iV t,iV n,iV k,iV m,iV cg,iV cp,iV cr,pP L.p 0,iV who] 29)).alloc (.cells #[iV 0,.int .u64 0,iV 0,iV 0] 51)) w.heap.size t n k m cg cp cr L.p who:=ZP.WY _
 have d0:=At.Xj w (.cells #[iV t,iV n,iV k,iV m,iV cg,iV cp,iV cr,pP L.p 0,iV who] 29) 51 [iV 0,.int .u64 0,iV 0,iV 0]
 go_enter Tryz.func21,Tryz.ntmps21
 go_wp2_with (go_at_call 38;refine HN.mono ?_;rintro e w1 ⟨B,rfl,b1,wH,th⟩)
 have hBw:Hid (∀ x,B.has x->w.heap.size+1+1<=x):=fun x hx=>by have:=wH x hx;simpa only [Go.Deep.nblk_alloc] using this
 have A1:Hid (Z7 w1 L s/\Ym t n k m w1 L B σ ⟨σ,q,pn,0,zD⟩/\ZP w1 w.heap.size t n k m cg cp cr L.p who/\At w1 (w.heap.size+1) 0 51 #[iV 0,.int .u64 0,iV 0,iV 0] [iV 0,.int .u64 0,iV 0,iV 0]/\Only (LB L B) w w1) :=
  ⟨((HM.out.alloc _).alloc _).below b1,th,v0.grown b1,d0.grown b1,((((Only.refl _ _).alloc _).alloc _).trans (Only.ZZ b1))⟩
 clear HM v0 d0 th b1 wH HN
 go_loopg [] N (fun N1 wr=>∃ (j:Nat) (s1:Mm) (A1:As),j+N1=N/\A1.σ<=σ+j/\XO t n k m cg who N1 A1 A'/\(∀ a,Wd (A1.q.dw a))/\XF t n k m s1 A1.σ A1.q A1.pn/\Z7 wr L s1/\Ym t n k m wr L B σ A1/\ZP wr w.heap.size t n k m cg cp cr L.p who/\At wr (w.heap.size+1) 0 51 #[iV 0,.int .u64 0,iV 0,iV 0] [iV 0,.int .u64 0,iV 0,iV 0]/\Only (LB L B) w wr)
 case atStart=>exact⟨0,s,⟨σ,q,pn,0,zD⟩,by omega,Nat.le_refl _,GG.out,HW.out,HV.out,A1.out⟩
 case round =>
  clear A1 GG HW HV
  obtain⟨j,s1,A1,hj,hjs,gg,wd,Cm,mm,th,v,j1,on⟩:=hrel
  have hN1:=gg.pos
  obtain⟨y0,y1,y2,y3,y4,y5,y6,y7,y8⟩:=id v
  have sU:=JI (t:=t) (n:=n) (k:=k) (m:=m) (cg:=cg) (who:=who) wd
  have hs1:=JH (t:=t) (n:=n) (k:=k) (m:=m) (cg:=cg) (who:=who) (A:=A1)
  have ru:¬ LB L B w.heap.size:=fun hh=>hh.elim hB.out (fun e=>by have:=hBw.out _ e;omega)
  have rq:¬ LB L B (w.heap.size+1):=fun hh=>hh.elim hB2.out (fun e=>by have:=hBw.out _ e;omega)
  have ou:Hid (¬ LB L B w.heap.size):=ru
  have qZ:Hid (¬ LB L B (w.heap.size+1)):=rq
  have hNN:=oz.out
  have HJ:Hid (j+gk=N/\A1.σ<=σ+j):=⟨hj,hjs⟩
  have wR:A1.σ<1000000:=by omega
  clear ru rq hj hjs
  cases gg with
  | one h5 hn ht h1 =>
   have hst:=OQ mm Cm HG.out wR wd th h5 hn who ry.out A' ht
   rw[h1] at hst
   have H1:Hid (A'.ph=5):=h1
   clear ht h5 hn h1 sU hs1
   go_wp2_with (first
    | (go_at_call 26;refine hst.mono ?_;rintro e w2 ⟨rfl,s2,m2,v2,sS,o2⟩;clear hst;obtain⟨E,H,V,St,tl,hd⟩:=OO sS H1.out)
    | (go_at_call 27;refine(hd _ (Below.refl _ _)).mono ?_;rintro e w3 ⟨rfl,b3⟩;have j3:=(j1.only o2 qZ.out).grown b3;have z0:=j3.at0 0 rfl;have z1:=j3.at0 1 rfl;have z2:=j3.at0 2 rfl;have z3:=j3.at0 3 rfl;have qf:=j3.fz))
   refine bodyPost_ret (v:=.agg #[iV E,.int .u64 H,iV V,iV St]) (by simp[results,Tryz.results21,go_sem,z0,z1,z2,z3]) rfl ?_
   refine⟨E,H,V,St,s2,rfl,tl,((((m2.below b3).ZX hB2.out _ _).ZX hB2.out _ _).ZX hB2.out _ _).ZX hB2.out _ _,v2,?_⟩
   exact(((((((on.trans o2).trans (Only.ZZ b3))).drop (fun x hx=>by have:=hBw.out x hx;omega)).setCell (fun hlt=>by simp only at hlt;omega) _).setCell (fun hlt=>by simp only at hlt;omega) _).setCell (fun hlt=>by simp only at hlt;omega) _).setCell (fun hlt=>by simp only at hlt;omega) _
  | @more N2 Aa Ab Ac h5 hn ht h1 g1 =>
   have hst:=OQ mm Cm HG.out wR wd th h5 hn who ry.out _ ht
   rw[beq_eq_false_iff_ne.2 h1] at hst
   rw[ht] at sU hs1
   clear ht h5 hn
   go_wp2_with (go_at_call 26;refine hst.mono ?_;rintro e w2 ⟨rfl,s2,m2,v2,sS,o2⟩)
   go_roundg N2
   case measure=>exact Nat.lt_succ_self _
   case rel =>
    exact⟨j+1,s2,_,by have:=HJ.out.1;omega,by have:=HJ.out.2;omega,g1,sU,v2,m2,sS,v.only o2 ou.out,j1.only o2 qZ.out,on.trans o2⟩
end
theorem qY (who:Nat):upd (fun _=>(0:Int)) who 0=fun _=>0:=by
 funext i;unfold upd;split <;> rfl
section
variable {t n k m:Nat} {q:Q} {N:Nat}
theorem UN.wd (A:UN t n k m N q):∀ a,Wd (q.dw a):=fun a=>by
 by_cases h:∃ x,x<N/\a=base t n k m 0+3 * x
 . obtain⟨x,hx,rfl⟩:=h
   rw[A.vU x hx];exact Vu _ _ _ _ _
 . rw[A.wS a (fun x hx e=>h ⟨x,hx,e⟩)];exact⟨by decide,by decide⟩
theorem ES {w:World} {L:Loc} {s:Mm} {σ:Nat} {cg cp cr:Int} (A:UN t n k m N q) (h:Z7 w L s) (hV:XF t n k m s σ q (fun _=>0)) (hG:Good t n k m cg cp cr) (hn:n<=65535) (h3:3 * (N+1)<=m) (hσ:σ+500<1000000) (who:Nat) (hw:who<t) (hN:N<n) :
 Calls Tryz.prog 21 #[eV t n k m cg cp cr L.p who] w fun e w'=>∃ (St:Int) (s':Mm) (σ':Nat) (q':Q),e=.returned (.agg #[iV 0,.int .u64 (65536+(N:Int)),iV 0,iV St])/\σ'<=σ+100/\Z7 w' L s'/\XF t n k m s' σ' q' (fun _=>0)/\Only L.has w w'/\UN t n k m (N+1) q':=by
 obtain⟨M,q',hM,A',r⟩:=A.run hG.k0 hG.k1 hG.n0 hN h3 hn
 obtain⟨σ',st,hs,r⟩:=r cg who σ (fun _=>0)
 have hk:=hG.k1
 refine(JX h hV hG A.wd hσ who hw (by omega) r).mono ?_
 rintro e w' ⟨E,H,V,St,s',rfl,td,m',v',o'⟩
 obtain⟨rfl,rfl,rfl,rfl⟩:=td
 rw[qY] at v'
 exact⟨_,s',σ',q',rfl,hs,m',v',o',A'⟩
theorem Cj {w:World} {L:Loc} {s:Mm} {σ:Nat} {cg cp cr:Int} (A:UN t n k m N q) (h:Z7 w L s) (hV:XF t n k m s σ q (fun _=>0)) (hG:Good t n k m cg cp cr) (hσ:σ+500<1000000) (who:Nat) (hw:who<t) (hN:N=n) :
 Calls Tryz.prog 21 #[eV t n k m cg cp cr L.p who] w fun e w'=>∃ (St:Int) (s':Mm) (σ':Nat) (q':Q),e=.returned (.agg #[iV 7,.int .u64 0,iV 0,iV St])/\σ'<=σ+100/\Z7 w' L s'/\XF t n k m s' σ' q' (fun _=>0)/\Only L.has w w':=by
 obtain⟨σ',st,hs,r⟩:=A.full hN cg who σ (fun _=>0)
 refine(JX h hV hG A.wd hσ who hw (by decide) r).mono ?_
 rintro e w' ⟨E,H,V,St,s',rfl,td,m',v',o'⟩
 obtain⟨rfl,rfl,rfl,rfl⟩:=td
 rw[qY] at v'
 exact⟨_,s',σ',q,rfl,hs,m',v',o'⟩
def wQ (t n k m:Nat) (cg cp cr:Int) (who:Nat) (L:Loc) (w:World) (σ i:Nat) (wr:World):Prop :=
 ∃ (s1:Mm) (σ1:Nat) (q1:Q),UN t n k m i q1/\XF t n k m s1 σ1 q1 (fun _=>0)/\σ1<=σ+100 * i/\Z7 wr L s1/\ZP wr w.heap.size t n k m cg cp cr L.p who/\(∃ c v,At wr (w.heap.size+1) 0 59 c [v]/\QV wr v i/\∀ x,v.ownBlock=some x->¬ L.has x/\w.heap.size<=x/\x≠w.heap.size+1/\x≠w.heap.size)/\Only L.has w wr
theorem wQ.start {w:World} {L:Loc} {s:Mm} {σ:Nat} {cg cp cr:Int} {who:Nat} (A:UN t n k m 0 q) (h:Z7 w L s) (hV:XF t n k m s σ q (fun _=>0)):wQ t n k m cg cp cr who L w σ 0 ((w.alloc (.cells #[iV t,iV n,iV k,iV m,iV cg,iV cp,iV cr,pP L.p 0,iV who] 29)).alloc (.cells #[.slice none 0 0] 59)) :=
 ⟨s,σ,q,A,hV,Nat.le_refl _,(h.alloc _).alloc _,ZP.WY _,⟨_,_,At.Xj w (.cells #[iV t,iV n,iV k,iV m,iV cg,iV cp,iV cr,pP L.p 0,iV who] 29) 59 [.slice none 0 0],QV.nil _,fun x hx=>by cases hx⟩,((Only.refl _ _).alloc _).alloc _⟩
set_option maxRecDepth 20000 in
theorem H7 {w:World} {L:Loc} {s:Mm} {σ:Nat} {cg cp cr:Int} (A:UN t n k m 0 q) (h:Z7 w L s) (hV:XF t n k m s σ q (fun _=>0)) (hG:Good t n k m cg cp cr) (hn:n<=65535) {K:Nat} (hK:K<=8) (h3:3 * K<=m) (hσ:σ+1500<1000000) (who:Nat) (hw:who<t) :
 Calls Tryz.prog 12 #[eV t n k m cg cp cr L.p who,iV K] w fun e w'=>∃ (s':Mm) (σ':Nat) (q':Q),Z7 w' L s'/\XF t n k m s' σ' q' (fun _=>0)/\σ'<=σ+900/\Only L.has w w'/\((K<=n/\∃ b,e=.returned (.tuple #[pP b 0,iV 0])/\Sh w' L w.heap.size b K/\UN t n k m K q')\/(n<K/\e=.returned (.tuple #[.pointer none,iV 7]))):=by
 have HG:Hid (Good t n k m cg cp cr/\n<=65535/\who<t/\3 * K<=m/\σ+1500<1000000):=⟨hG,hn,hw,h3,hσ⟩
 have hB:Hid (¬ L.has w.heap.size):=fun hh=>by have:=h.lt _ hh;omega
 have hB2:Hid (¬ L.has (w.heap.size+1)):=fun hh=>by have:=h.lt _ hh;omega
 have HA:Hid (wQ t n k m cg cp cr who L w σ 0 _):=wQ.start A h hV
 have hKb:(0:Int)<=(K:Int)/\(K:Int)<=8:=by omega
 clear A h hV hG hn hw h3 hσ
 go_enter Tryz.func12,Tryz.ntmps12
 go_wp2
 go_loopw [17] (fun iv wr=>∃ (i:Nat),iv=iV i/\i<=K/\wQ t n k m cg cp cr who L w σ i wr) (fun iv _=>9 - (intOf iv).toNat)
 case atStart=>exact⟨0,rfl,Nat.zero_le _,HA.out⟩
 case round =>
  clear HA
  obtain⟨i,rfl,hi,s1,σ1,q1,A1,Cm,hs1,mm,v,⟨c,sv,a,hv,ho⟩,on⟩:=hrel
  have EE:Hid (∀ x,sv.ownBlock=some x->¬ L.has x/\w.heap.size<=x/\x≠w.heap.size+1/\x≠w.heap.size):=ho
  clear ho
  by_cases hiK:i<K
  . have hi1:(i:Int)<(K:Int):=by omega
    obtain⟨y0,y1,y2,y3,y4,y5,y6,y7,y8⟩:=id v
    have HI:Hid (i<K/\σ1<=σ+100 * i):=⟨hiK,hs1⟩
    by_cases hin:i<n
    . have JW:=ES A1 mm Cm HG.out.1 HG.out.2.1 (by have:=HG.out.2.2.2.1;omega) (by have:=HG.out.2.2.2.2;omega) who HG.out.2.2.1 hin
      clear hiK hs1 A1 Cm hi hin
      go_wp2_with (go_at_call 21;refine JW.mono ?_;rintro e w2 ⟨St,s2,σ2,q2,rfl,hs2,m2,v2,o2,A2⟩;have D2:=At.new w2 51 [iV 0,.int .u64 (65536+(i:Int)),iV 0,iV St];have k0:=D2.at0 0 rfl)
      have G2:=ZY w2 (.cells #[iV 0,.int .u64 (65536+(i:Int)),iV 0,iV St] 51)
      have V2:=(v.only o2 hB.out).grown G2
      have a2:=(a.only o2 hB2.out).grown G2
      have h2:=(hv.only o2 (fun x hx=>(EE.out x hx).1)).grown G2
      have hlt2:∀ x,sv.ownBlock=some x->x<w2.heap.size:=fun x hx=>(hv.only o2 (fun x hx=>(EE.out x hx).1)).lt hx
      have wP:=(on.trans o2).trans (Only.ZZ (S:=L.has) G2)
      have m3:=m2.alloc (.cells #[iV 0,.int .u64 (65536+(i:Int)),iV 0,iV St] 51)
      have hwb:w.heap.size+1<w2.heap.size:=(a.only o2 hB2.out).lt
      refine ZT (fun W=>Z7 W L s2/\ZP W w.heap.size t n k m cg cp cr L.p who/\At W (w.heap.size+1) 0 59 c [sv]/\QV W sv i/\At W w2.heap.size 0 51 #[iV 0,.int .u64 (65536+(i:Int)),iV 0,iV St] [iV 0,.int .u64 (65536+(i:Int)),iV 0,iV St]/\Only L.has w W) ⟨m3,V2,a2,h2,D2,wP⟩ ?_
      clear m3 V2 a2 h2 wP D2 k0 G2 o2 m2 y0 y1 y2 y3 y4 y5 y6 y7 y8 mm v a hv on JW
      generalize w2.heap.size=d at hlt2 hwb ⊢
      rintro W ⟨m3,V2,a2,h2,D2,wP⟩
      have oq:Hid (UN t n k m (i+1) q2/\XF t n k m s2 σ2 q2 (fun _=>0)/\σ2<=σ1+100):=⟨A2,v2,hs2⟩
      have qX:Hid ((∀ x,sv.ownBlock=some x->x<d)/\w.heap.size+1<d):=⟨hlt2,hwb⟩
      have qW:Hid (d<W.heap.size/\∀ x,sv.ownBlock=some x->x<W.heap.size):=⟨D2.lt,fun x hx=>by have:=D2.lt;have:=hlt2 x hx;omega⟩
      clear A2 v2 hs2 hlt2 hwb
      have hvb:¬ (sv.ownBlock=some (w.heap.size+1)):=fun e=>(EE.out _ e).2.2.1 rfl
      have hvd:¬ (sv.ownBlock=some d):=fun e=>by have:=qX.out.1 d e;omega
      have oh:∀ (x y:World) (u:Value),YB sv x y->(∃ g,u=.slice (some ⟨g,0,none⟩) 1 1/\W.heap.size<=g/\x.cell? ⟨g,0,none⟩=some (.int .u64 (65536+(i:Int))))->∃ g,u=.slice (some ⟨g,0,none⟩) 1 1/\W.heap.size<=g/\y.cell? ⟨g,0,none⟩=some (.int .u64 (65536+(i:Int))):=by
       rintro x y u hk ⟨g,h1,h2,h3⟩
       exact⟨g,h1,h2,hk.only.keep (fun e=>by have:=qW.out.2 g e;omega) h3⟩
      have nZ:∀ (x y:World) (u:Value),YB sv x y->(∃ b' cap',u=.slice (some ⟨b',0,none⟩) (i+1) cap'/\Hr x b' cap' (i+1)/\(sv.ownBlock=some b'\/W.heap.size<=b'))->∃ b' cap',u=.slice (some ⟨b',0,none⟩) (i+1) cap'/\Hr y b' cap' (i+1)/\(sv.ownBlock=some b'\/W.heap.size<=b'):=by
       rintro x y u hk ⟨b',cap',h1,h2,h3⟩
       exact⟨b',cap',h1,hk.k h2,h3⟩
      refine Zf (YB sv) 9 [.val (.pointer (some ⟨w.heap.size+1,0,none⟩)),.val (.pointer (some ⟨w.heap.size+1,0,none⟩)),.val (.pointer (some ⟨w.heap.size+1,0,none⟩)),.val (.pointer (some ⟨w.heap.size+1,0,none⟩)),.val sv,.val (pP d 1),.val (.int .u64 (65536+(i:Int))),.that (fun w' x=>∃ g,x=.slice (some ⟨g,0,none⟩) 1 1/\W.heap.size<=g/\w'.cell? ⟨g,0,none⟩=some (.int .u64 (65536+(i:Int)))) oh,.that (fun w' x=>∃ b' cap',x=.slice (some ⟨b',0,none⟩) (i+1) cap'/\Hr w' b' cap' (i+1)/\(sv.ownBlock=some b'\/W.heap.size<=b')) nZ] (by kernel_rfl) YB.refl YB.trans (by decide) (by kernel_rfl) (by kernel_rfl) (by kernel_rfl) (by kernel_rfl) (by kernel_rfl) (by kernel_rfl) ?_
      simp only[List.take_succ_cons,List.take_zero,ZA,Act.put,List.setIfInBounds_toArray,List.set_cons_zero,List.set_cons_succ]
      refine⟨?_,⟨?_,⟨?_,⟨?_,⟨?_,⟨?_,⟨?_,⟨?_,fun _=>⟨?_,fun _=>?_⟩⟩⟩⟩⟩⟩⟩⟩⟩
      . intro w' hR HF
        apply ol
        go_simp
        exact⟨YB.refl _,rfl⟩
      . intro w' hR HF
        apply ol
        go_simp
        exact⟨YB.refl _,rfl⟩
      . intro w' hR HF
        apply ol
        have z:=(a2.drew.only hR.only hvb).at0 0 rfl
        go_simp
        exact⟨YB.refl _,rfl⟩
      . intro w' hR HF
        apply ol
        go_simp
        exact⟨YB.refl _,rfl⟩
      . intro w' hR HF
        apply ol
        have z:=(a2.drew.only hR.only hvb).at0 0 rfl
        go_simp
        exact⟨YB.refl _,rfl⟩
      . intro w' hR HF
        apply ol
        go_simp
        exact⟨YB.refl _,rfl⟩
      . intro w' hR HF
        apply ol
        have z:=(D2.drew.only hR.only hvd).at0 1 rfl
        go_simp
        exact⟨YB.refl _,rfl⟩
      . intro w' hR HF
        apply ol
        clear HF
        have hsz:W.heap.size<=w'.heap.size:=hR.only.size
        go_simp
        exact⟨YB.grown (ZY _ _),_,rfl,hsz,by simp⟩
      . intro w' hR HF
        apply ol
        obtain⟨g9,e1,e3,e2⟩:=HF.1 (by kernel_rfl)
        clear HF
        subst e1
        have hsz:W.heap.size<=w'.heap.size:=hR.only.size
        obtain⟨b9,c9,w9,hr,ho,hk,hf⟩:=((h2.grown ((Below.refl _ _).drew)).keep hR).push g9 e2 (by have:=HI.out.1;omega) 36
        exact O8 (.tmp 30) (.tmp 33) rfl rfl rfl hr hk ⟨b9,c9,rfl,ho,hf.imp id (fun hh=>Nat.le_trans hsz hh)⟩
      intro w3 hR HF
      obtain⟨⟨B,cap,rfl,S3,hB3⟩,-,-⟩:=HF
      have ER:B≠w.heap.size+1/\¬ L.has B/\w.heap.size<=B/\B≠w.heap.size:=by
       rcases hB3 with e | e
       . have:=EE.out _ e;exact⟨this.2.2.1,this.1,this.2.1,this.2.2.2⟩
       . have h1:=qW.out.1
         have h2:=qX.out.2
         exact⟨by omega,fun hh=>by have:=m3.lt _ hh;omega,by omega,by omega⟩
      have a3:=a2.drew.only hR.only hvb
      have m4:=m3.drew.only hR.only (fun x hx e=>(EE.out x e).1 hx)
      have V3:=(V2.grown ((Below.refl _ _).drew)).only hR.only (fun e=>(EE.out _ e).2.2.2 rfl)
      have nY:=wP.drew.grow hR.only (fun x hx e=>by have:=(EE.out x e).2.1;omega)
      have kf:=a3.fz
      have k0:=a3.at0 0 rfl
      clear hR m3 V2 a2 h2 D2 wP hvb hvd hB3
      simp only[List.drop_succ_cons,List.drop_zero]
      have HO:=oq.out
      have hI:=HI.out
      go_wp2
      go_roundw
      case rel =>
       exact⟨i+1,by first | rfl | go_num,by omega,s2,σ2,q2,HO.1,HO.2.1,by omega,m4.ZX hB2.out _ _,V3.ZX (by omega) _ _,⟨_,_,a3.ZO 0 _,Or.inr ⟨B,cap,rfl,S3.other ER.1 _ _,by omega⟩,fun x hx=>by cases hx;exact⟨ER.2.1,ER.2.2.1,ER.1,ER.2.2.2⟩⟩,nY.setCell (fun hlt=>by simp only at hlt;omega) _⟩
      case measure=>simp[intOf];omega
    . have JW:=Cj A1 mm Cm HG.out.1 (by have:=HG.out.2.2.2.2;omega) who HG.out.2.2.1 (by have:=A1.le;omega)
      have nX:Hid (n<K):=by have:=A1.le;show n<K;omega
      clear hiK hs1 A1 Cm hi hin
      go_wp2_with (first
       | (go_at_call 21;refine JW.mono ?_;rintro e w2 ⟨St,s2,σ2,q2,rfl,hs2,m2,v2,o2⟩;have D2:=At.new w2 51 [iV 7,.int .u64 0,iV 0,iV St];have k0:=D2.at0 0 rfl)
       | go_region)
      all_goals (go_wp2;go_ret2)
      all_goals exact⟨s2,σ2,q2,(m2.alloc _).below ((Below.refl _ _).drew),v2,by have:=HI.out;omega,(on.trans o2).trans (Only.ZZ (grow (ZY _ _) ((Below.refl _ _).drew))),Or.inr ⟨nX.out,rfl⟩⟩
  . obtain rfl:i=K:=by omega
    have hi1:¬ (i:Int)<(i:Int):=by omega
    have HR:Hid (Z7 wr L s1/\XF t n k m s1 σ1 q1 (fun _=>0)/\σ1<=σ+900/\Only L.has w wr/\i<=n/\Sh wr L w.heap.size (w.heap.size+1) i/\UN t n k m i q1) :=
     ⟨mm,Cm,by omega,on,A1.le,⟨⟨c,sv,a,hv,fun x hx=>⟨(EE.out x hx).1,(EE.out x hx).2.1,(EE.out x hx).2.2.1⟩⟩,hB2.out,by omega,by omega⟩,A1⟩
    clear mm Cm on A1 a hv v
    go_wp2
    go_ret2
    obtain⟨h1,h2,h3,h4,h5,h6,h7⟩:=HR.out
    exact⟨s1,h1,σ1,q1,h2,h3,h4,Or.inl ⟨h5,_,rfl,h6,h7⟩⟩
theorem Ql {w:World} {L:Loc} {s:Mm} {σ:Nat} {cg cp cr:Int} (A:UN t n k m 0 q) (h:Z7 w L s) (hV:XF t n k m s σ q (fun _=>0)) (hG:Good t n k m cg cp cr) (hn:n<=65535) {K:Nat} (hK:K<=8) (h3:3 * K<=m) (hσ:σ+1500<1000000) (who:Nat) (hw:who<t) (hKn:K<=n) :
 Calls Tryz.prog 12 #[eV t n k m cg cp cr L.p who,iV K] w fun e w'=>∃ (s':Mm) (σ':Nat) (q':Q) (b:Nat),e=.returned (.tuple #[pP b 0,iV 0])/\Z7 w' L s'/\XF t n k m s' σ' q' (fun _=>0)/\σ'<=σ+900/\Only L.has w w'/\Sh w' L w.heap.size b K/\UN t n k m K q':=by
 refine(H7 A h hV hG hn hK h3 hσ who hw).mono ?_
 rintro e w' ⟨s',σ',q',m',v',hs,o',⟨-,b,rfl,S,A'⟩ | ⟨hh,-⟩⟩
 . exact⟨s',σ',q',b,rfl,m',v',hs,o',S,A'⟩
 . omega
theorem NG (hG:Good t n k m 100 600 3) (hn:n<=65535) (w:World) :
 Calls Tryz.prog 11 #[iV t,iV n,iV k,iV m] w fun e w'=>∃ (L:Loc) (s:Mm),e=.returned (.tuple #[eV t n k m 100 600 3 L.p 0,.bool true])/\Z7 w' L s/\XF t n k m s (1+2 * n) (Q.new n) (fun _=>0)/\Below w.heap.size w w'/\∀ k,L.has k->w.heap.size<=k:=by
 refine(Oz hG w).mono ?_
 rintro e w' ⟨L,rfl,m1,b1,l1⟩
 exact⟨L,_,rfl,m1,⟨yj hG hn,X5 _ _ _ _ _ (by omega) (Or.inl (by omega)),fun i hi=>X5 _ _ _ _ _ (by omega) (Or.inl (by omega))⟩,b1,l1⟩
end
end
section
set_option maxRecDepth 20000
set_option maxRecDepth 20000 in
set_option maxHeartbeats 1000000 in
theorem NF (w:World):Calls Tryz.prog 9 #[] w fun e w'=>e=.returned (.bool true)/\Below w.heap.size w w':=by
 have HG:Hid (Good 1 8 4 40 100 600 3):=⟨by decide,by decide,by decide,by decide,by decide,by decide,by decide,by decide,by decide,by decide,by decide,by decide,by decide,by decide⟩
 have ar:=fun w=>NG HG.out (by decide) w
 go_enter Tryz.func9,Tryz.ntmps9
 go_wp2_with (first
  | (go_at_call 11;refine(ar _).mono ?_;rintro e w1 ⟨L,s,rfl,m1,v1,b1,l1⟩;have vN:=(ZP.new (w:=w1) (P:=L.p) (c0:=1) (c1:=8) (c2:=4) (c3:=40) (c4:=100) (c5:=600) (c6:=3) (who:=0) (T:=29));obtain⟨y0,y1,y2,y3,y4,y5,y6,y7,y8⟩:=id vN)
  | (go_at_call 12;refine(Ql (hds0 (t:=1) (n:=8) (k:=4) (m:=40)) (m1.alloc _) v1 HG.out (by decide) (K:=3) (by decide) (by decide) (by decide) 0 (by decide) (by decide)).mono ?_;rintro e w2 ⟨s2,σ2,q2,bz,rfl,m2,v2,hs2,o2,S2,A2⟩)
  | (go_at_call 16;refine(TC S2.sh (by decide) 5).mono ?_;rintro e w3 ⟨rfl,g3⟩;have S3:=(S2.grown g3).sh)
  | (go_at_call 14;refine(Qj S3).mono ?_;rintro e w4 ⟨rfl,rfl⟩)
  | (go_at_call 8;refine(Bq 0 3 (by decide) (by decide) _).mono ?_;rintro e w5 ⟨rfl,rfl⟩))
 go_ret
 exact⟨rfl,grow (RF (Z5 b1 _) o2 l1) g3⟩
end
end Go.Proofs.YtibmjlefcaonnaaGreat
