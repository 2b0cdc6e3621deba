import Derived.Test.YtgehjolndmgffaaGreatFrmHeads
import Derived.Test.YtgehjolndmgffaaGreatShfLeaf
import Derived.Deep.LoopGhost
import Derived.Test.YtgehjolndmgffaaGreatWrkStep
import Derived.Test.YtgehjolndmgffaaGreatFrmPlay
import Derived.Test.YtgehjolndmgffaaGreatFrmRoom
namespace Go.Proofs.YtgehjolndmgffaaGreat
open Go.RowKit
section
section
variable {t n k m σ N:Nat} {q:Q}
def yQ:Dw:=.al 2 true 0 (.take .idle)
theorem KA (n:Nat):YQ n tu yQ:=.al 0 rfl ⟨by decide,by decide⟩ rfl (by decide)
theorem U2.run (A:U2 t n k m N q) (hk:1<=k) (hk1:k<=64) (hm:17<=m) (hN:N<n) (h3:3 * (N+1)<=m) (hn:n<=65535):∃ (M:Nat) (q':Q),M<=k+20/\U2 t n k m (N+1) q'/\∀ (cg:Int) (who σ:Nat) (pn:Nat->Int),∃ (σ' st:Nat),σ'<=σ+100/\X9 t n k m cg who M ⟨σ,q,pn,0,yQ⟩ ⟨σ',q',upd pn who 0,5,.al 2 true 0 (.over 0 (65536+N) st)⟩:=by
 obtain⟨M,y',hM,go,g1,A'⟩:=A.step hk hk1 hm hN h3
 have hF:q.F=N :: YB n (n - (N+1)):=by rw[A.F];exact Nr hN
 refine⟨M+4+4+4,_,by omega,A',fun cg who σ pn=>?_⟩
 have r:=Md (t:=t) (n:=n) (m:=m) (z:=2) (own:=true) (σ:=σ+3) hF go g1 (H:=65536+N) (by
  show Zc ((N:Nat):Int) ((1:Nat):Int)=_
  rw[XT N 1 (by omega) (by decide)];omega) rfl rfl
 exact⟨_,_,by omega,(UT r).all⟩
theorem U2.full (A:U2 t n k m N q) (hN:N=n):∀ (cg:Int) (who σ:Nat) (pn:Nat->Int),∃ (σ' st:Nat),σ'<=σ+100/\X9 t n k m cg who 5 ⟨σ,q,pn,0,yQ⟩ ⟨σ',q,upd pn who 0,5,.al 2 true 0 (.over 7 0 st)⟩:=by
 intro cg who σ pn
 have hF:q.F=[]:=by rw[A.F,hN,Nat.sub_self];rfl
 have r:=Qw (t:=t) (n:=n) (k:=k) (m:=m) (κ:=0) (z:=2) (own:=true) (σ:=σ+3) hF
 exact⟨_,_,by omega,(UT r).all⟩
end
end
section
set_option maxHeartbeats 1000000
set_option maxRecDepth 20000
section
variable {w:World} {L:Loc} {t n k m σ:Nat} {s:Mm} {q:Q} {pn:Nat->Int}
theorem Jz {cg cp cr:Int} (h:Z8 w L s) (hV:WZ t n k m s σ q pn) (hG:Good t n k m cg cp cr) (hdw:∀ a,Wd (q.dw a)) (hσ:σ+500<1000000) (who:Nat) (hw:who<t) {N:Nat} (hN:N<=500) {A':As} (g:X9 t n k m cg who N ⟨σ,q,pn,0,yQ⟩ A') :
 Calls Tryz.prog 37 #[eV t n k m cg cp cr L.p who] w fun e w'=>∃ (E H V St:Int) (s':Mm),e=.returned (.agg #[iV E,.int .u64 H,iV V,iV St])/\A'.δ.told σ A'.σ E H V St/\Z8 w' L s'/\WZ t n k m s' A'.σ A'.q A'.pn/\Only L.has w w':=by
 have hB:Hid (¬ L.has w.heap.size):=fun hh=>by have:=h.lt _ hh;omega
 have hB2:Hid (¬ L.has (w.heap.size+1)):=fun hh=>by have:=h.lt _ hh;omega
 have HV:Hid (WZ t n k m s σ q pn):=hV
 have HM:Hid (Z8 w L s):=h
 have HG:Hid (Good t n k m cg cp cr):=hG
 have qK:Hid (who<t):=hw
 have HW:Hid (∀ a,Wd (q.dw a)):=hdw
 have nZ:Hid (N<=500):=hN
 have GG:Hid (X9 t n k m cg who N ⟨σ,q,pn,0,yQ⟩ A'):=g
 obtain⟨E0,hE0⟩:∃ E0,E0=(.cells #[iV t,iV n,iV k,iV m,iV cg,iV cp,iV cr,pP L.p 0,iV who] 27:Obj):=⟨_,rfl⟩
 have HN:=zY (w:=(w.alloc E0).alloc (.cells #[iV 0,.int .u64 0,iV 0,iV 0] 53)) ((h.alloc E0).alloc _) (X:=tu) (by decide) (KA n) t k m σ q pn
 subst hE0
 clear h hV hG g hw hdw hN
 simp only[Xa.v,tu] at HN
 have v0:ZP ((w.alloc (.cells #[iV t,iV n,iV k,iV m,iV cg,iV cp,iV cr,pP L.p 0,iV who] 27)).alloc (.cells #[iV 0,.int .u64 0,iV 0,iV 0] 53)) w.heap.size t n k m cg cp cr L.p who:=ZP.Xb _
 have d0:=At.Xo w (.cells #[iV t,iV n,iV k,iV m,iV cg,iV cp,iV cr,pP L.p 0,iV who] 27) 53 [iV 0,.int .u64 0,iV 0,iV 0]
 go_enter Tryz.func37,Tryz.ntmps37
 go_wp2_with (go_at_call 54;refine HN.mono ?_;rintro e w1 ⟨B,rfl,b1,qJ,th⟩)
 have hBw:Hid (∀ x,B.has x->w.heap.size+1+1<=x):=fun x hx=>by have:=qJ x hx;simpa only [Go.Deep.nblk_alloc] using this
 have A1:Hid (Z8 w1 L s/\WL t n k m w1 L B σ ⟨σ,q,pn,0,yQ⟩/\ZP w1 w.heap.size t n k m cg cp cr L.p who/\At w1 (w.heap.size+1) 0 53 #[iV 0,.int .u64 0,iV 0,iV 0] [iV 0,.int .u64 0,iV 0,iV 0]/\Only (LB L B) w w1) :=
  ⟨((HM.out.alloc _).alloc _).below b1,th,v0.grown b1,d0.grown b1,((((Only.refl _ _).alloc _).alloc _).trans (Only.Z5 b1))⟩
 clear HM v0 d0 th b1 qJ HN
 go_loopg [] N (fun N1 wr=>∃ (j:Nat) (s1:Mm) (A1:As),j+N1=N/\A1.σ<=σ+j/\X9 t n k m cg who N1 A1 A'/\(∀ a,Wd (A1.q.dw a))/\WZ t n k m s1 A1.σ A1.q A1.pn/\Z8 wr L s1/\WL t n k m wr L B σ A1/\ZP wr w.heap.size t n k m cg cp cr L.p who/\At wr (w.heap.size+1) 0 53 #[iV 0,.int .u64 0,iV 0,iV 0] [iV 0,.int .u64 0,iV 0,iV 0]/\Only (LB L B) w wr)
 case atStart=>exact⟨0,s,⟨σ,q,pn,0,yQ⟩,by omega,Nat.le_refl _,GG.out,HW.out,HV.out,A1.out⟩
 case round =>
  clear A1 GG HW HV
  obtain⟨j,s1,A1,hj,hjs,gg,wd,BL,mm,th,v,j1,on⟩:=hrel
  have hN1:=gg.pos
  obtain⟨y0,y1,y2,y3,y4,y5,y6,y7,y8⟩:=id v
  have yw:=Qy (t:=t) (n:=n) (k:=k) (m:=m) (cg:=cg) (who:=who) wd
  have hs1:=Qx (t:=t) (n:=n) (k:=k) (m:=m) (cg:=cg) (who:=who) (A:=A1)
  have qI:¬ LB L B w.heap.size:=fun hh=>hh.elim hB.out (fun e=>by have:=hBw.out _ e;omega)
  have qH:¬ LB L B (w.heap.size+1):=fun hh=>hh.elim hB2.out (fun e=>by have:=hBw.out _ e;omega)
  have nY:Hid (¬ LB L B w.heap.size):=qI
  have qG:Hid (¬ LB L B (w.heap.size+1)):=qH
  have hNN:=nZ.out
  have HJ:Hid (j+gk=N/\A1.σ<=σ+j):=⟨hj,hjs⟩
  have vV:A1.σ<1000000:=by omega
  clear qI qH hj hjs
  cases gg with
  | one h5 hn ht h1 =>
   have hst:=UR mm BL HG.out vV wd th h5 hn who qK.out A' ht
   rw[h1] at hst
   have H1:Hid (A'.ph=5):=h1
   clear ht h5 hn h1 yw hs1
   go_wp2_with (first
    | (go_at_call 55;refine hst.mono ?_;rintro e w2 ⟨rfl,s2,m2,v2,sQ,o2⟩;clear hst;obtain⟨E,H,V,St,tl,hd⟩:=Oo sQ H1.out)
    | (go_at_call 56;refine(hd _ (Below.refl _ _)).mono ?_;rintro e w3 ⟨rfl,b3⟩;have j3:=(j1.only o2 qG.out).grown b3;have z0:=j3.at0 0 rfl;have z1:=j3.at0 1 rfl;have z2:=j3.at0 2 rfl;have z3:=j3.at0 3 rfl;have qf:=j3.fz))
   refine bodyPost_ret (v:=.agg #[iV E,.int .u64 H,iV V,iV St]) (by simp[results,Tryz.results37,go_sem,z0,z1,z2,z3]) rfl ?_
   refine⟨E,H,V,St,s2,rfl,tl,((((m2.below b3).ZY hB2.out _ _).ZY hB2.out _ _).ZY hB2.out _ _).ZY hB2.out _ _,v2,?_⟩
   exact(((((((on.trans o2).trans (Only.Z5 b3))).drop (fun x hx=>by have:=hBw.out x hx;omega)).setCell (fun hlt=>by simp only at hlt;omega) _).setCell (fun hlt=>by simp only at hlt;omega) _).setCell (fun hlt=>by simp only at hlt;omega) _).setCell (fun hlt=>by simp only at hlt;omega) _
  | @more N2 Aa Ab Ac h5 hn ht h1 g1 =>
   have hst:=UR mm BL HG.out vV wd th h5 hn who qK.out _ ht
   rw[beq_eq_false_iff_ne.2 h1] at hst
   rw[ht] at yw hs1
   clear ht h5 hn
   go_wp2_with (go_at_call 55;refine hst.mono ?_;rintro e w2 ⟨rfl,s2,m2,v2,sQ,o2⟩)
   go_roundg N2
   case measure=>exact Nat.lt_succ_self _
   case rel =>
    exact⟨j+1,s2,_,by have:=HJ.out.1;omega,by have:=HJ.out.2;omega,g1,yw,v2,m2,sQ,v.only o2 nY.out,j1.only o2 qG.out,on.trans o2⟩
end
theorem qF (who:Nat):upd (fun _=>(0:Int)) who 0=fun _=>0:=by
 funext i;unfold upd;split <;> rfl
section
variable {t n k m:Nat} {q:Q} {N:Nat}
theorem U2.wd (A:U2 t n k m N q):∀ a,Wd (q.dw a):=fun a=>by
 by_cases h:∃ x,x<N/\a=base t n k m 0+3 * x
 . obtain⟨x,hx,rfl⟩:=h
   rw[A.vg x hx];exact Qq _ _ _ _ _
 . rw[A.yx a (fun x hx e=>h ⟨x,hx,e⟩)];exact⟨by decide,by decide⟩
theorem Ez {w:World} {L:Loc} {s:Mm} {σ:Nat} {cg cp cr:Int} (A:U2 t n k m N q) (h:Z8 w L s) (hV:WZ t n k m s σ q (fun _=>0)) (hG:Good t n k m cg cp cr) (hn:n<=65535) (h3:3 * (N+1)<=m) (hσ:σ+500<1000000) (who:Nat) (hw:who<t) (hN:N<n) :
 Calls Tryz.prog 37 #[eV t n k m cg cp cr L.p who] w fun e w'=>∃ (St:Int) (s':Mm) (σ':Nat) (q':Q),e=.returned (.agg #[iV 0,.int .u64 (65536+(N:Int)),iV 0,iV St])/\σ'<=σ+100/\Z8 w' L s'/\WZ t n k m s' σ' q' (fun _=>0)/\Only L.has w w'/\U2 t n k m (N+1) q':=by
 obtain⟨M,q',hM,A',r⟩:=A.run hG.k0 hG.k1 hG.n0 hN h3 hn
 obtain⟨σ',st,hs,r⟩:=r cg who σ (fun _=>0)
 have hk:=hG.k1
 refine(Jz h hV hG A.wd hσ who hw (by omega) r).mono ?_
 rintro e w' ⟨E,H,V,St,s',rfl,td,m',v',o'⟩
 obtain⟨rfl,rfl,rfl,rfl⟩:=td
 rw[qF] at v'
 exact⟨_,s',σ',q',rfl,hs,m',v',o',A'⟩
theorem BK {w:World} {L:Loc} {s:Mm} {σ:Nat} {cg cp cr:Int} (A:U2 t n k m N q) (h:Z8 w L s) (hV:WZ t n k m s σ q (fun _=>0)) (hG:Good t n k m cg cp cr) (hσ:σ+500<1000000) (who:Nat) (hw:who<t) (hN:N=n) :
 Calls Tryz.prog 37 #[eV t n k m cg cp cr L.p who] w fun e w'=>∃ (St:Int) (s':Mm) (σ':Nat) (q':Q),e=.returned (.agg #[iV 7,.int .u64 0,iV 0,iV St])/\σ'<=σ+100/\Z8 w' L s'/\WZ t n k m s' σ' q' (fun _=>0)/\Only L.has w w':=by
 obtain⟨σ',st,hs,r⟩:=A.full hN cg who σ (fun _=>0)
 refine(Jz h hV hG A.wd hσ who hw (by decide) r).mono ?_
 rintro e w' ⟨E,H,V,St,s',rfl,td,m',v',o'⟩
 obtain⟨rfl,rfl,rfl,rfl⟩:=td
 rw[qF] at v'
 exact⟨_,s',σ',q,rfl,hs,m',v',o'⟩
def vU (t n k m:Nat) (cg cp cr:Int) (who:Nat) (L:Loc) (w:World) (σ i:Nat) (wr:World):Prop :=
 ∃ (s1:Mm) (σ1:Nat) (q1:Q),U2 t n k m i q1/\WZ t n k m s1 σ1 q1 (fun _=>0)/\σ1<=σ+100 * i/\Z8 wr L s1/\ZP wr w.heap.size t n k m cg cp cr L.p who/\(∃ c v,At wr (w.heap.size+1) 0 84 c [v]/\OM wr v i/\∀ x,v.ownBlock=some x->¬ L.has x/\w.heap.size<=x/\x≠w.heap.size+1/\x≠w.heap.size)/\Only L.has w wr
theorem vU.start {w:World} {L:Loc} {s:Mm} {σ:Nat} {cg cp cr:Int} {who:Nat} (A:U2 t n k m 0 q) (h:Z8 w L s) (hV:WZ t n k m s σ q (fun _=>0)):vU t n k m cg cp cr who L w σ 0 ((w.alloc (.cells #[iV t,iV n,iV k,iV m,iV cg,iV cp,iV cr,pP L.p 0,iV who] 27)).alloc (.cells #[.slice none 0 0] 84)) :=
 ⟨s,σ,q,A,hV,Nat.le_refl _,(h.alloc _).alloc _,ZP.Xb _,⟨_,_,At.Xo w (.cells #[iV t,iV n,iV k,iV m,iV cg,iV cp,iV cr,pP L.p 0,iV who] 27) 84 [.slice none 0 0],OM.nil _,fun x hx=>by cases hx⟩,((Only.refl _ _).alloc _).alloc _⟩
set_option maxRecDepth 20000 in
theorem G7 {w:World} {L:Loc} {s:Mm} {σ:Nat} {cg cp cr:Int} (A:U2 t n k m 0 q) (h:Z8 w L s) (hV:WZ t n k m s σ q (fun _=>0)) (hG:Good t n k m cg cp cr) (hn:n<=65535) {K:Nat} (hK:K<=8) (h3:3 * K<=m) (hσ:σ+1500<1000000) (who:Nat) (hw:who<t) :
 Calls Tryz.prog 21 #[eV t n k m cg cp cr L.p who,iV K] w fun e w'=>∃ (s':Mm) (σ':Nat) (q':Q),Z8 w' L s'/\WZ t n k m s' σ' q' (fun _=>0)/\σ'<=σ+900/\Only L.has w w'/\((K<=n/\∃ b,e=.returned (.tuple #[pP b 0,iV 0])/\Sh w' L w.heap.size b K/\U2 t n k m K q')\/(n<K/\e=.returned (.tuple #[.pointer none,iV 7]))):=by
 have HG:Hid (Good t n k m cg cp cr/\n<=65535/\who<t/\3 * K<=m/\σ+1500<1000000):=⟨hG,hn,hw,h3,hσ⟩
 have hB:Hid (¬ L.has w.heap.size):=fun hh=>by have:=h.lt _ hh;omega
 have hB2:Hid (¬ L.has (w.heap.size+1)):=fun hh=>by have:=h.lt _ hh;omega
 have HA:Hid (vU t n k m cg cp cr who L w σ 0 _):=vU.start A h hV
 have hKb:(0:Int)<=(K:Int)/\(K:Int)<=8:=by omega
 clear A h hV hG hn hw h3 hσ
 go_enter Tryz.func21,Tryz.ntmps21
 go_wp2
 go_loopw [17] (fun iv wr=>∃ (i:Nat),iv=iV i/\i<=K/\vU t n k m cg cp cr who L w σ i wr) (fun iv _=>9 - (intOf iv).toNat)
 case atStart=>exact⟨0,rfl,Nat.zero_le _,HA.out⟩
 case round =>
  clear HA
  obtain⟨i,rfl,hi,s1,σ1,q1,A1,BL,hs1,mm,v,⟨c,sv,a,hv,ho⟩,on⟩:=hrel
  have D9:Hid (∀ x,sv.ownBlock=some x->¬ L.has x/\w.heap.size<=x/\x≠w.heap.size+1/\x≠w.heap.size):=ho
  clear ho
  by_cases hiK:i<K
  . have hi1:(i:Int)<(K:Int):=by omega
    obtain⟨y0,y1,y2,y3,y4,y5,y6,y7,y8⟩:=id v
    have HI:Hid (i<K/\σ1<=σ+100 * i):=⟨hiK,hs1⟩
    by_cases hin:i<n
    . have Jy:=Ez A1 mm BL HG.out.1 HG.out.2.1 (by have:=HG.out.2.2.2.1;omega) (by have:=HG.out.2.2.2.2;omega) who HG.out.2.2.1 hin
      clear hiK hs1 A1 BL hi hin
      go_wp2_with (go_at_call 37;refine Jy.mono ?_;rintro e w2 ⟨St,s2,σ2,q2,rfl,hs2,m2,v2,o2,A2⟩;have D2:=At.new w2 53 [iV 0,.int .u64 (65536+(i:Int)),iV 0,iV St];have k0:=D2.at0 0 rfl)
      have G2:=ZZ w2 (.cells #[iV 0,.int .u64 (65536+(i:Int)),iV 0,iV St] 53)
      have V2:=(v.only o2 hB.out).grown G2
      have a2:=(a.only o2 hB2.out).grown G2
      have h2:=(hv.only o2 (fun x hx=>(D9.out x hx).1)).grown G2
      have hlt2:∀ x,sv.ownBlock=some x->x<w2.heap.size:=fun x hx=>(hv.only o2 (fun x hx=>(D9.out x hx).1)).lt hx
      have CG:=(on.trans o2).trans (Only.Z5 (S:=L.has) G2)
      have m3:=m2.alloc (.cells #[iV 0,.int .u64 (65536+(i:Int)),iV 0,iV St] 53)
      have hwb:w.heap.size+1<w2.heap.size:=(a.only o2 hB2.out).lt
      refine ZT (fun W=>Z8 W L s2/\ZP W w.heap.size t n k m cg cp cr L.p who/\At W (w.heap.size+1) 0 84 c [sv]/\OM W sv i/\At W w2.heap.size 0 53 #[iV 0,.int .u64 (65536+(i:Int)),iV 0,iV St] [iV 0,.int .u64 (65536+(i:Int)),iV 0,iV St]/\Only L.has w W) ⟨m3,V2,a2,h2,D2,CG⟩ ?_
      clear m3 V2 a2 h2 CG D2 k0 G2 o2 m2 y0 y1 y2 y3 y4 y5 y6 y7 y8 mm v a hv on Jy
      generalize w2.heap.size=d at hlt2 hwb ⊢
      rintro W ⟨m3,V2,a2,h2,D2,CG⟩
      have nX:Hid (U2 t n k m (i+1) q2/\WZ t n k m s2 σ2 q2 (fun _=>0)/\σ2<=σ1+100):=⟨A2,v2,hs2⟩
      have qE:Hid ((∀ x,sv.ownBlock=some x->x<d)/\w.heap.size+1<d):=⟨hlt2,hwb⟩
      have qC:Hid (d<W.heap.size/\∀ x,sv.ownBlock=some x->x<W.heap.size):=⟨D2.lt,fun x hx=>by have:=D2.lt;have:=hlt2 x hx;omega⟩
      clear A2 v2 hs2 hlt2 hwb
      have hvb:¬ (sv.ownBlock=some (w.heap.size+1)):=fun e=>(D9.out _ e).2.2.1 rfl
      have hvd:¬ (sv.ownBlock=some d):=fun e=>by have:=qE.out.1 d e;omega
      have nV:∀ (x y:World) (u:Value),YE sv x y->(∃ g,u=.slice (some ⟨g,0,none⟩) 1 1/\W.heap.size<=g/\x.cell? ⟨g,0,none⟩=some (.int .u64 (65536+(i:Int))))->∃ g,u=.slice (some ⟨g,0,none⟩) 1 1/\W.heap.size<=g/\y.cell? ⟨g,0,none⟩=some (.int .u64 (65536+(i:Int))):=by
       rintro x y u hk ⟨g,h1,h2,h3⟩
       exact⟨g,h1,h2,hk.only.keep (fun e=>by have:=qC.out.2 g e;omega) h3⟩
      have nU:∀ (x y:World) (u:Value),YE sv x y->(∃ b' cap',u=.slice (some ⟨b',0,none⟩) (i+1) cap'/\Hr x b' cap' (i+1)/\(sv.ownBlock=some b'\/W.heap.size<=b'))->∃ b' cap',u=.slice (some ⟨b',0,none⟩) (i+1) cap'/\Hr y b' cap' (i+1)/\(sv.ownBlock=some b'\/W.heap.size<=b'):=by
       rintro x y u hk ⟨b',cap',h1,h2,h3⟩
       exact⟨b',cap',h1,hk.k h2,h3⟩
      refine ZK (YE sv) 9 [.val (.pointer (some ⟨w.heap.size+1,0,none⟩)),.val (.pointer (some ⟨w.heap.size+1,0,none⟩)),.val (.pointer (some ⟨w.heap.size+1,0,none⟩)),.val (.pointer (some ⟨w.heap.size+1,0,none⟩)),.val sv,.val (pP d 1),.val (.int .u64 (65536+(i:Int))),.that (fun w' x=>∃ g,x=.slice (some ⟨g,0,none⟩) 1 1/\W.heap.size<=g/\w'.cell? ⟨g,0,none⟩=some (.int .u64 (65536+(i:Int)))) nV,.that (fun w' x=>∃ b' cap',x=.slice (some ⟨b',0,none⟩) (i+1) cap'/\Hr w' b' cap' (i+1)/\(sv.ownBlock=some b'\/W.heap.size<=b')) nU] (by kernel_rfl) YE.refl YE.trans (by decide) (by kernel_rfl) (by kernel_rfl) (by kernel_rfl) (by kernel_rfl) (by kernel_rfl) (by kernel_rfl) ?_
      simp only[List.take_succ_cons,List.take_zero,ZH,Act.put,List.setIfInBounds_toArray,List.set_cons_zero,List.set_cons_succ]
      refine⟨?_,⟨?_,⟨?_,⟨?_,⟨?_,⟨?_,⟨?_,⟨?_,fun _=>⟨?_,fun _=>?_⟩⟩⟩⟩⟩⟩⟩⟩⟩
      . intro w' hR HF
        apply ol
        go_simp
        exact⟨YE.refl _,rfl⟩
      . intro w' hR HF
        apply ol
        go_simp
        exact⟨YE.refl _,rfl⟩
      . intro w' hR HF
        apply ol
        have z:=(a2.drew.only hR.only hvb).at0 0 rfl
        go_simp
        exact⟨YE.refl _,rfl⟩
      . intro w' hR HF
        apply ol
        go_simp
        exact⟨YE.refl _,rfl⟩
      . intro w' hR HF
        apply ol
        have z:=(a2.drew.only hR.only hvb).at0 0 rfl
        go_simp
        exact⟨YE.refl _,rfl⟩
      . intro w' hR HF
        apply ol
        go_simp
        exact⟨YE.refl _,rfl⟩
      . intro w' hR HF
        apply ol
        have z:=(D2.drew.only hR.only hvd).at0 1 rfl
        go_simp
        exact⟨YE.refl _,rfl⟩
      . intro w' hR HF
        apply ol
        clear HF
        have hsz:W.heap.size<=w'.heap.size:=hR.only.size
        go_simp
        exact⟨YE.grown (ZZ _ _),_,rfl,hsz,by simp⟩
      . intro w' hR HF
        apply ol
        obtain⟨g9,e1,e3,e2⟩:=HF.1 (by kernel_rfl)
        clear HF
        subst e1
        have hsz:W.heap.size<=w'.heap.size:=hR.only.size
        obtain⟨b9,c9,w9,hr,ho,hk,hf⟩:=((h2.grown ((Below.refl _ _).drew)).keep hR).push g9 e2 (by have:=HI.out.1;omega) 82
        exact Uw (.tmp 30) (.tmp 33) rfl rfl rfl hr hk ⟨b9,c9,rfl,ho,hf.imp id (fun hh=>Nat.le_trans hsz hh)⟩
      intro w3 hR HF
      obtain⟨⟨B,cap,rfl,S3,hB3⟩,-,-⟩:=HF
      have Ey:B≠w.heap.size+1/\¬ L.has B/\w.heap.size<=B/\B≠w.heap.size:=by
       rcases hB3 with e | e
       . have:=D9.out _ e;exact⟨this.2.2.1,this.1,this.2.1,this.2.2.2⟩
       . have h1:=qC.out.1
         have h2:=qE.out.2
         exact⟨by omega,fun hh=>by have:=m3.lt _ hh;omega,by omega,by omega⟩
      have a3:=a2.drew.only hR.only hvb
      have m4:=m3.drew.only hR.only (fun x hx e=>(D9.out x e).1 hx)
      have V3:=(V2.grown ((Below.refl _ _).drew)).only hR.only (fun e=>(D9.out _ e).2.2.2 rfl)
      have nT:=CG.drew.grow hR.only (fun x hx e=>by have:=(D9.out x e).2.1;omega)
      have kf:=a3.fz
      have k0:=a3.at0 0 rfl
      clear hR m3 V2 a2 h2 D2 CG hvb hvd hB3
      simp only[List.drop_succ_cons,List.drop_zero]
      have HO:=nX.out
      have hI:=HI.out
      go_wp2
      go_roundw
      case rel =>
       exact⟨i+1,by first | rfl | go_num,by omega,s2,σ2,q2,HO.1,HO.2.1,by omega,m4.ZY hB2.out _ _,V3.ZY (by omega) _ _,⟨_,_,a3.ZQ 0 _,Or.inr ⟨B,cap,rfl,S3.other Ey.1 _ _,by omega⟩,fun x hx=>by cases hx;exact⟨Ey.2.1,Ey.2.2.1,Ey.1,Ey.2.2.2⟩⟩,nT.setCell (fun hlt=>by simp only at hlt;omega) _⟩
      case measure=>simp[intOf];omega
    . have Jy:=BK A1 mm BL HG.out.1 (by have:=HG.out.2.2.2.2;omega) who HG.out.2.2.1 (by have:=A1.le;omega)
      have nR:Hid (n<K):=by have:=A1.le;show n<K;omega
      clear hiK hs1 A1 BL hi hin
      go_wp2_with (first
       | (go_at_call 37;refine Jy.mono ?_;rintro e w2 ⟨St,s2,σ2,q2,rfl,hs2,m2,v2,o2⟩;have D2:=At.new w2 53 [iV 7,.int .u64 0,iV 0,iV St];have k0:=D2.at0 0 rfl)
       | go_region)
      all_goals (go_wp2;go_ret2)
      all_goals exact⟨s2,σ2,q2,(m2.alloc _).below ((Below.refl _ _).drew),v2,by have:=HI.out;omega,(on.trans o2).trans (Only.Z5 (grow (ZZ _ _) ((Below.refl _ _).drew))),Or.inr ⟨nR.out,rfl⟩⟩
  . obtain rfl:i=K:=by omega
    have hi1:¬ (i:Int)<(i:Int):=by omega
    have HR:Hid (Z8 wr L s1/\WZ t n k m s1 σ1 q1 (fun _=>0)/\σ1<=σ+900/\Only L.has w wr/\i<=n/\Sh wr L w.heap.size (w.heap.size+1) i/\U2 t n k m i q1) :=
     ⟨mm,BL,by omega,on,A1.le,⟨⟨c,sv,a,hv,fun x hx=>⟨(D9.out x hx).1,(D9.out x hx).2.1,(D9.out x hx).2.2.1⟩⟩,hB2.out,by omega,by omega⟩,A1⟩
    clear mm BL on A1 a hv v
    go_wp2
    go_ret2
    obtain⟨h1,h2,h3,h4,h5,h6,h7⟩:=HR.out
    exact⟨s1,h1,σ1,q1,h2,h3,h4,Or.inl ⟨h5,_,rfl,h6,h7⟩⟩
theorem GZ {w:World} {L:Loc} {s:Mm} {σ:Nat} {cg cp cr:Int} (A:U2 t n k m 0 q) (h:Z8 w L s) (hV:WZ t n k m s σ q (fun _=>0)) (hG:Good t n k m cg cp cr) (hn:n<=65535) {K:Nat} (hK:K<=8) (h3:3 * K<=m) (hσ:σ+1500<1000000) (who:Nat) (hw:who<t) (hKn:K<=n) :
 Calls Tryz.prog 21 #[eV t n k m cg cp cr L.p who,iV K] w fun e w'=>∃ (s':Mm) (σ':Nat) (q':Q) (b:Nat),e=.returned (.tuple #[pP b 0,iV 0])/\Z8 w' L s'/\WZ t n k m s' σ' q' (fun _=>0)/\σ'<=σ+900/\Only L.has w w'/\Sh w' L w.heap.size b K/\U2 t n k m K q':=by
 refine(G7 A h hV hG hn hK h3 hσ who hw).mono ?_
 rintro e w' ⟨s',σ',q',m',v',hs,o',⟨-,b,rfl,S,A'⟩ | ⟨hh,-⟩⟩
 . exact⟨s',σ',q',b,rfl,m',v',hs,o',S,A'⟩
 . omega
theorem Ew (hG:Good t n k m 100 600 3) (hn:n<=65535) (w:World) :
 Calls Tryz.prog 20 #[iV t,iV n,iV k,iV m] w fun e w'=>∃ (L:Loc) (s:Mm),e=.returned (.tuple #[eV t n k m 100 600 3 L.p 0,.bool true])/\Z8 w' L s/\WZ t n k m s (1+2 * n) (Q.new n) (fun _=>0)/\Below w.heap.size w w'/\∀ k,L.has k->w.heap.size<=k:=by
 refine(NZ hG w).mono ?_
 rintro e w' ⟨L,rfl,m1,b1,l1⟩
 exact⟨L,_,rfl,m1,⟨xm hG hn,X5 _ _ _ _ _ (by omega) (Or.inl (by omega)),fun i hi=>X5 _ _ _ _ _ (by omega) (Or.inl (by omega))⟩,b1,l1⟩
end
end
section
def lf3 (x:Int):Nat:=(OY x 3).toNat
theorem OV:Good 1 30 16 40 100 600 3:=⟨by decide,by decide,by decide,by decide,by decide,by decide,by decide,by decide,by decide,by decide,by decide,by decide,by decide,by decide⟩
def Ar (L:Loc) (w:World) (σ G:Nat) (os:Os) (ks:List Int):Prop :=
 ∃ s q nx gen ls ct,Fm 1 30 16 L w s σ q nx gen ls/\Wk 1 30 16 40 q nx gen ls 3 lf3 (LK 1 30 16 40) ct/\Tm q ls 3 (LK 1 30 16 40) ct os ks/\(∀ x,gen x<=G)/\nx<=G
theorem Ar.only {L:Loc} {w w':World} {σ G:Nat} {os:Os} {ks:List Int} {S:Nat->Prop} (A:Ar L w σ G os ks) (o:Only S w w') (hS:∀ x,L.has x->¬ S x):Ar L w' σ G os ks:=by
 obtain⟨s,q,nx,gen,ls,ct,F,r⟩:=A
 exact⟨s,q,nx,gen,ls,ct,F.only o hS,r⟩
theorem Ar.grown {L:Loc} {w w':World} {σ G:Nat} {os:Os} {ks:List Int} (A:Ar L w σ G os ks) (g:Below w.heap.size w w'):Ar L w' σ G os ks:=A.only (S:=fun _=>False) (Only.Z5 g) (fun _ _ h=>h)
theorem Ar.lt {L:Loc} {w:World} {σ G:Nat} {os:Os} {ks:List Int} (A:Ar L w σ G os ks):∀ x,L.has x->x<w.heap.size:=by
 obtain⟨s,q,nx,gen,ls,ct,F,r⟩:=A
 exact F.mm.lt
theorem Ar.now {L:Loc} {w:World} {σ G:Nat} {os:Os} {ks:List Int} (A:Ar L w σ G os ks):Calls Tryz.prog 11 #[.agg #[.int .i64 1,.int .i64 30,.int .i64 16,.int .i64 40,.int .i64 100,.int .i64 600,.int .i64 3,.pointer (some ⟨L.p,0,none⟩),.int .i64 0]] w fun e w'=>e=.returned (.int .i64 σ)/\Below w.heap.size w w':=by
 obtain⟨s,q,nx,gen,ls,ct,F,r⟩:=A
 exact Yk F.mm 1 30 16 40 100 600 3 0 σ F.vl.tw.pile.st
def vI (c:Wc) (h:Int) (os:Os) (ks:List Int) (G:Nat) (E H V:Int) (os':Os) (ks':List Int):Prop :=
 Xt c.kd c.sz c.ix c.vl c.ol c.ky h E H V os ks=((os',ks'),true)/\(c.kd≠1->H=0)/\(H≠0->E=0)/\((c.kd=1/\0<=ZR c.sz\/6<=c.kd)->G<=3->os.length+3+ks.length<30->E=0)
structure Fr (Wn:World) (L:Loc) (B0:Nat) (FS:Nat->Prop):Prop where
 f1:∀ x,L.has x->FS x/\x<B0
 f2:∀ x,FS x->L.has x\/B0<=x
 f3:B0<=Wn.heap.size
def P9 (Wn:World) (FS:Nat->Prop) (L:Loc) (c:Wc) (h:Int) (σ G:Nat) (os:Os) (ks:List Int) (E H V:Int) (σ1:Nat) (w6:World):Prop :=
 ∃ os' ks',vI c h os ks G E H V os' ks'/\σ1<=σ+1/\Ar L w6 σ1 (G+1) os' ks'/\Only FS Wn w6
def Bz (Wn:World) (FS:Nat->Prop) (L:Loc) (c:Wc) (h:Int) (G:Nat) (os:Os) (ks:List Int) (lo R:Nat) (T:TypeId) (p:Option Addr) (w:World) (σ:Nat):Prop :=
 Only FS Wn w/\Wn.heap.size<lo/\(∀ x,L.has x->x<Wn.heap.size) /\
 ((∃ BA N E H V q' nx' ZA ls' ct os',N<=R/\T=109/\p=some ⟨Bk.A BA,0,none⟩/\(∀ x,BA.has x->lo<=x/\x<w.heap.size)/\RD 1 30 16 0 L BA N E H V q' w σ/\Wk 1 30 16 40 q' nx' ZA ls' 3 lf3 (LK 1 30 16 40) ct/\X8 30 q' ls'/\(∀ x,ZA x<=G+1)/\nx'<=G+1/\Tm q' ls' 3 (LK 1 30 16 40) ct os' ks/\vI c h os ks G E H V os' ks) \/
  (∃ b q nx gen ls ct i W0 M,T=112/\p=some ⟨b,0,none⟩/\lo<=b/\b<w.heap.size/\lo<=W0.heap.size/\M<=w.heap.size/\i<3/\lf3 c.ky=i/\c.asks=true/\c.may=true/\Wk 1 30 16 40 q nx gen ls 3 lf3 (LK 1 30 16 40) ct/\X8 30 q ls/\(∀ x,gen x<=G)/\nx<=G/\Tm q ls 3 (LK 1 30 16 40) ct os ks/\JJ 1 30 16 0 L q ls G (LK 1 30 16 40 i) (ct i) (c.kd - 5) c.ky b W0 R M w σ))
theorem Bo (b:Nat) (w:World):(method 351 109 (.pointer (some ⟨b,0,none⟩)) "Step").run Tryz.prog w=.ok (55,.pointer (some ⟨b,0,none⟩)) w:=by kernel_rfl
theorem OT (b:Nat) (w:World):(method 351 109 (.pointer (some ⟨b,0,none⟩)) "Done").run Tryz.prog w=.ok (56,.pointer (some ⟨b,0,none⟩)) w:=by kernel_rfl
theorem Bl (b:Nat) (w:World):(method 351 112 (.pointer (some ⟨b,0,none⟩)) "Step").run Tryz.prog w=.ok (93,.pointer (some ⟨b,0,none⟩)) w:=by kernel_rfl
theorem OQ (b:Nat) (w:World):(method 351 112 (.pointer (some ⟨b,0,none⟩)) "Done").run Tryz.prog w=.ok (92,.pointer (some ⟨b,0,none⟩)) w:=by kernel_rfl
theorem yI (args:Array Value) (w:World):(callFunc 55 args).run Tryz.prog w=.ok (.enter 55 args) w:=by kernel_rfl
theorem yH (args:Array Value) (w:World):(callFunc 56 args).run Tryz.prog w=.ok (.enter 56 args) w:=by kernel_rfl
theorem yG (args:Array Value) (w:World):(callFunc 93 args).run Tryz.prog w=.ok (.enter 93 args) w:=by kernel_rfl
theorem yF (args:Array Value) (w:World):(callFunc 92 args).run Tryz.prog w=.ok (.enter 92 args) w:=by kernel_rfl
def Zw (Wn:World) (FS:Nat->Prop) (L:Loc) (B:SS) (c:Wc) (h:Int) (σ G:Nat) (os:Os) (ks:List Int) (lo R:Nat) (T:TypeId) (p:Option Addr) (dn:Bool) (w':World):Prop :=
 (dn=false/\∃ σ' R',σ'<=σ+1/\R'+1<=R/\Bz Wn FS L c h G os ks lo R' T p w' σ') \/
 (dn=true/\∃ E H V σ1,P9 Wn FS L c h σ G os ks E H V σ1 w'/\∀ w1,Only (fun x=>x=B.b) w' w1->∃ g,(∀ w,(method 351 T (.pointer p) "Done").run Tryz.prog w=.ok (g,.pointer p) w)/\Calls Tryz.prog g #[.pointer p] w1 fun e w2=>∃ St,e=.returned (.agg #[.int .i64 E,.int .u64 H,.int .i64 V,.int .i64 St])/\Below w1.heap.size w1 w2)
section
variable {Wn:World} {FS:Nat->Prop} {B0:Nat} {L:Loc} {B:SS} {c:Wc} {h:Int} {σ G:Nat} {os:Os} {ks:List Int} {lo R:Nat} {T:TypeId} {p:Option Addr} {w:World}
theorem Bz.grown (U:Bz Wn FS L c h G os ks lo R T p w σ) {w':World} (g:Below w.heap.size w w'):Bz Wn FS L c h G os ks lo R T p w' σ:=by
 obtain⟨on,a1,a2,U⟩:=U
 refine⟨on.trans (Only.Z5 g),a1,a2,?_⟩
 have hs:=g.size
 rcases U with⟨BA,N,E,H,V,q',nx',ZA,ls',ct,os',eN,e1,e2,e3,e4,r⟩ | ⟨b,q,nx,gen,ls,ct,i,W0,M,e1,e2,e3,e4,e5,e6,e7,e8,e9,e10,e11,e12,e13,e14,e15,e16⟩
 . exact Or.inl ⟨BA,N,E,H,V,q',nx',ZA,ls',ct,os',eN,e1,e2,fun x hx=>⟨(e3 x hx).1,by have:=(e3 x hx).2;omega⟩,e4.grown g,r⟩
 . exact Or.inr ⟨b,q,nx,gen,ls,ct,i,W0,M,e1,e2,e3,by omega,e5,by omega,e7,e8,e9,e10,e11,e12,e13,e14,e15,e16.grown g⟩
theorem Bz.dr (U:Bz Wn FS L c h G os ks lo R T p w σ) (fr:Fr Wn L B0 FS) (hB:∀ x,B.has x->B0<=x/\x<lo) (hσ:σ<1000000) (hG:G<99) {bx:Nat} (hbx:Wn.heap.size<=bx) (hbx2:bx<lo\/w.heap.size<=bx) {w1:World} (g1:Below w.heap.size w w1) :
 Dr B 1 30 16 40 100 600 3 0 L bx T p w1 (Zw Wn FS L B c h σ G os ks lo R T p) (P9 Wn FS L c h σ G os ks):=by
 have qw:=(U.grown g1).1
 obtain⟨on,a1,a2,U⟩:=U
 have hz1:=g1.size
 have yT:∀ x,L.has x->¬ B.has x:=fun x hx hh=>by have:=(fr.f1 x hx).2;have:=(hB x hh).1;omega
 have hLx:∀ x,L.has x->x≠bx:=fun x hx e=>by have:=a2 x hx;omega
 have hLb:∀ x,L.has x->¬ (x=B.b):=fun x hx e=>yT x hx (Or.inl e)
 have now:∀ {E H V σ1 w'},P9 Wn FS L c h σ G os ks E H V σ1 w'->∀ w2,Only (fun x=>x=B.b) w' w2->Calls Tryz.prog 11 #[.agg #[.int .i64 1,.int .i64 30,.int .i64 16,.int .i64 40,.int .i64 100,.int .i64 600,.int .i64 3,.pointer (some ⟨L.p,0,none⟩),.int .i64 0]] w2 fun e w3=>e=.returned (.int .i64 σ1)/\Below w2.heap.size w2 w3:=by
  rintro E H V σ1 w' ⟨os',ks',-,-,A,-⟩ w2 o2
  exact(A.only o2 hLb).now
 rcases U with⟨BA,N,E,H,V,q',nx',ZA,ls',ct,os',eN,e1,e2,e3,e4,e5,e6,e7,e8,e9,e10⟩ | ⟨b,q,nx,gen,ls,ct,i,W0,M,e1,e2,e3,e4,e5,e6,e7,e8,e9,e10,e11,e12,e13,e14,e15,e16⟩
 . subst e1 e2
   have xO:∀ x,BA.has x->¬ B.has x:=fun x hx hh=>by have:=(e3 x hx).1;have:=(hB x hh).2;omega
   refine⟨55,56,LB L BA,fun x hx=>?_,Bo _,yI,OT _,yH,fun w2 g2=>?_,fun w' hz=>?_⟩
   . rcases hx with hx | hx
     . exact⟨yT x hx,hLx x hx⟩
     . exact⟨xO x hx,fun e=>by have:=e3 x hx;omega⟩
   . refine((e4.grown (grow g1 g2)).step OV hσ (by decide)).mono ?_
     rintro e w' ⟨o',σ',hs,hh⟩
     have on':Only FS Wn w':=(qw.trans (Only.Z5 g2)).grow o' (fun x hx hh=>hh.elim (fun h=>(fr.f1 x h).1) (fun h=>absurd (e3 x h).1 (by omega)))
     have hz2:=g2.size
     have hz':=o'.size
     rcases hh with⟨rfl,N',hN,I'⟩ | ⟨rfl,hN,s',m',v',hd⟩
     . exact⟨false,rfl,o',Or.inl ⟨rfl,σ',N',hs,by omega,on',a1,a2,Or.inl ⟨BA,N',E,H,V,q',nx',ZA,ls',ct,os',Nat.le_refl _,rfl,rfl,fun x hx=>⟨(e3 x hx).1,by have:=(e3 x hx).2;omega⟩,I',e5,e6,e7,e8,e9,e10⟩⟩⟩
     . refine⟨true,rfl,o',Or.inr ⟨rfl,E,H,V,σ',⟨os',ks,e10,hs,⟨s',q',nx',ZA,ls',ct,⟨m',v',e5.tm,e6⟩,e5,e9,e7,e8⟩,on'⟩,fun w3 o3=>⟨56,OT _,hd _ w3 o3 (fun x hx e=>xO x hx (Or.inl e))⟩⟩⟩
   . rcases hz with⟨hh,-⟩ | ⟨-,E1,H1,V1,σ1,A,hd⟩
     . cases hh
     . refine⟨E1,H1,V1,σ1,A,fun w2 o2=>?_,now A⟩
       obtain⟨g,hg,hc⟩:=hd w2 o2
       have:=hg w2
       rw[OT] at this
       cases this
       exact hc
 . subst e1 e2
   have nb:¬ L.has b:=fun hx=>by have:=a2 b hx;omega
   have hbB:¬ B.has b:=fun hh=>by have:=(hB b hh).2;omega
   have hkd:1<=c.kd - 5/\c.kd - 5<=3:=by
    have:=e9
    unfold Wc.asks at this
    simp only[Bool.and_eq_true,decide_eq_true_eq] at this
    omega
   have hky:0<=c.ky/\c.ky<1073741824:=by
    have:=e10
    unfold Wc.may at this
    rw[e9] at this
    unfold V4 at this
    simp at this
    omega
   refine⟨93,92,fun x=>L.has x\/x=b\/(W0.heap.size<=x/\x<M),fun x hx=>?_,Bl _,yG,OQ _,yF,fun w2 g2=>?_,fun w' hz=>?_⟩
   . rcases hx with hx | rfl | hx
     . exact⟨yT x hx,hLx x hx⟩
     . exact⟨hbB,by omega⟩
     . exact⟨fun hh=>by have:=(hB x hh).2;omega,by omega⟩
   . have hz2:=g2.size
     refine((e16.grown (grow g1 g2)).step (e11.ch i e7) e11.tm OV (by decide) (by decide) e14 hkd hky.1 hky.2 nb (by omega) hσ (by decide) (by omega)).mono ?_
     rintro e w' ⟨o',σ',hs,hh⟩
     have hz':=o'.size
     have on':Only FS Wn w':=(qw.trans (Only.Z5 g2)).grow o' (fun x hx hh=>hh.elim (fun h=>(fr.f1 x h).1) (fun h=>h.elim (fun h=>by omega) (fun h=>by omega)))
     rcases hh with⟨rfl,R',M',hR,hM,I'⟩ | ⟨rfl,O⟩
     . exact⟨false,rfl,o',Or.inl ⟨rfl,σ',R',hs,hR,on',a1,a2,Or.inr ⟨b,q,nx,gen,ls,ct,i,W0,M',rfl,rfl,e3,by omega,e5,by omega,e7,e8,e9,e10,e11,e12,e13,e14,e15,I'⟩⟩⟩
     . obtain⟨Rr,s',q',nx',ZA,ls',uZ,ks',F,Ve,hnx,CG,lr,k0,rM,nC,hT,K',est,S'⟩:=O.wk e11 e7 e8 hkd e15 c.sz c.ix c.vl c.ol h 0
       refine⟨true,rfl,o',Or.inr ⟨rfl,Rr.cE,0,Rr.cV,σ',⟨os,ks',⟨by rw[show c.kd=c.kd - 5+5 by omega];exact est,fun _=>rfl,fun hh=>absurd rfl hh,fun _ h3 hr=>Classical.byContradiction fun hE=>e11.loose e15 e12 (by decide) (by decide) (by omega) hr (hT hE)⟩,hs,⟨s',q',nx',ZA,ls',uZ,F,K',S',Ve,hnx⟩,on'⟩,fun w3 o3=>⟨92,OQ _,?_⟩⟩⟩
       refine(Ij (lr.only o3 (fun e=>hbB (Or.inl e))) k0 rM).mono ?_
       rintro e w4 ⟨rfl,g4⟩
       rw[nC]
       exact⟨_,rfl,g4⟩
   . rcases hz with⟨hh,-⟩ | ⟨-,E1,H1,V1,σ1,A,hd⟩
     . cases hh
     . refine⟨E1,H1,V1,σ1,A,fun w2 o2=>?_,now A⟩
       obtain⟨g,hg,hc⟩:=hd w2 o2
       have:=hg w2
       rw[OQ] at this
       cases this
       exact hc
end
end
section
def yl (j n:Nat):List Int:=(Eo n).drop j
theorem Ej {j n:Nat} (h:j<n):yl j n=(j:Int) :: yl (j+1) n:=by
 unfold yl
 rw[List.drop_eq_getElem_cons (by rw[Ju];exact h)]
 congr 1
 unfold Eo
 simp
structure BB (w:World) (L:Loc) (B0 b N:Nat):Prop where
 ex:∃ c v,At w b 0 84 c [v]/\OM w v N/\∀ k,v.ownBlock=some k->¬ L.has k/\k<B0/\k≠b
 nb:¬ L.has b
 lt:b<B0
 le:N<=8
theorem BB.sh {w:World} {L:Loc} {B0 b N:Nat} (h:BB w L B0 b N):ShAt w b N:=by
 obtain⟨c,v,a,k,o⟩:=h.ex
 exact⟨⟨c,v,a,k,fun e=>(o b e).2.2 rfl⟩,h.le⟩
theorem BB.only {w w':World} {L:Loc} {B0 b N:Nat} {S:Nat->Prop} (h:BB w L B0 b N) (o:Only S w w') (hS:∀ x,S x->L.has x\/B0<=x):BB w' L B0 b N:=by
 have nS:∀ x,¬ L.has x->x<B0->¬ S x:=fun x h1 h2 h3=>(hS x h3).elim h1 (by omega)
 obtain⟨c,v,a,k,n⟩:=h.ex
 exact⟨⟨c,v,a.only o (nS b h.nb h.lt),k.only o (fun x hx=>nS x (n x hx).1 (n x hx).2.1),n⟩,h.nb,h.lt,h.le⟩
theorem Sh.low {w:World} {L:Loc} {Bs b N:Nat} (h:Sh w L Bs b N):BB w L w.heap.size b N:=by
 obtain⟨c,v,a,k,n⟩:=h.ex
 exact⟨⟨c,v,a,k,fun x hx=>⟨(n x hx).1,k.lt hx,(n x hx).2.2⟩⟩,h.nb,a.lt,h.le⟩
structure Ap (Wn:World) (FS:Nat->Prop) (B0:Nat) (L:Loc) (bS:Nat) (cs:List Wc) (B:SS) (j:Nat) (ts:List Td) (os:Os) (ks:List Int) (G:Nat) (w:World) (σ:Nat):Prop where
 on:Only FS Wn w
 wr:∃ d,XL w B0 B 0 (some ⟨bS,0,none⟩) cs (yl j cs.length) .nilIface d ts
 len:ts.length=j
 ar:Ar L w σ G os ks
 lt:∀ x,L.has x->x<Wn.heap.size
 sh:BB Wn L B0 bS 3
 fr:Fr Wn L B0 FS
 bf:∀ x,B.has x->FS x\/Wn.heap.size<=x
structure yJ (Wn:World) (FS:Nat->Prop) (B0:Nat) (L:Loc) (bS:Nat) (cs:List Wc) (B:SS) (j:Nat) (ts:List Td) (os:Os) (ks:List Int) (G:Nat) (c:Wc) (h:Int) (σ0 R:Nat) (w:World) (σ:Nat):Prop where
 wr:∃ T p lo,XL w B0 B 0 (some ⟨bS,0,none⟩) cs (yl (j+1) cs.length) (.iface T (.pointer p)) ⟨0,j,c,h,0,0,0,0,σ0,0⟩ ts/\Bz Wn FS L c h G os ks lo R T p w σ/\(∀ x,B.has x->x<lo)
 len:ts.length=j
 at_:cs[j]?=some c
 lt:∀ x,L.has x->x<Wn.heap.size
 sh:BB Wn L B0 bS 3
 fr:Fr Wn L B0 FS
 bf:∀ x,B.has x->FS x\/Wn.heap.size<=x
@[reducible] def QW (L:Loc):Value:=.agg #[.int .i64 1,.int .i64 30,.int .i64 16,.int .i64 40,.int .i64 100,.int .i64 600,.int .i64 3,.pointer (some ⟨L.p,0,none⟩),.int .i64 0]
def rY (Wn:World) (FS:Nat->Prop) (B0:Nat) (L:Loc) (bS:Nat) (cs:List Wc) (B:SS) (j:Nat) (ts:List Td) (os:Os) (ks:List Int) (G:Nat) (c:Wc) (h:Int) (σ0 R:Nat) (w':World) (σ:Nat):Prop :=
 (∃ R' σ',R'+1<=R/\σ'<=σ+1/\yJ Wn FS B0 L bS cs B j ts os ks G c h σ0 R' w' σ') \/
 (∃ (B':SS) (E H V St:Int) (os':Os) (ks':List Int) (σ':Nat),σ'<=σ+1/\B'.b=B.b/\vI c h os ks G E H V os' ks'/\Ap Wn FS B0 L bS cs B' (j+1) (ts ++ [⟨0,j,c,h,E,H,V,St,σ0,σ'⟩]) os' ks' (G+1) w' σ')
section
variable {Wn:World} {FS:Nat->Prop} {B0:Nat} {L:Loc} {bS:Nat} {cs:List Wc} {B:SS} {j:Nat} {ts:List Td} {os:Os} {ks:List Int} {G:Nat} {c:Wc} {h:Int} {σ0 R:Nat} {w:World} {σ:Nat}
theorem Ap.grown (P:Ap Wn FS B0 L bS cs B j ts os ks G w σ) {w':World} (g:Below w.heap.size w w'):Ap Wn FS B0 L bS cs B j ts os ks G w' σ :=
 ⟨P.on.trans (Only.Z5 g),P.wr.imp fun _ h=>h.grown g,P.len,P.ar.grown g,P.lt,P.sh,P.fr,P.bf⟩
theorem yJ.grown (P:yJ Wn FS B0 L bS cs B j ts os ks G c h σ0 R w σ) {w':World} (g:Below w.heap.size w w'):yJ Wn FS B0 L bS cs B j ts os ks G c h σ0 R w' σ:=by
 obtain⟨T,p,lo,h1,h2,h3⟩:=P.wr
 exact⟨⟨T,p,lo,h1.grown g,h2.grown g,h3⟩,P.len,P.at_,P.lt,P.sh,P.fr,P.bf⟩
theorem OU {T:TypeId} {p:Option Addr} {lo:Nat} {w':World} (hs0:Wn.heap.size<=w.heap.size) (fr:Fr Wn L B0 FS) (bf:∀ x,B.has x->FS x\/Wn.heap.size<=x) (hB:∀ x,B.has x->B0<=x/\x<lo) (len:ts.length=j) (at_:cs[j]?=some c) (lt:∀ x,L.has x->x<Wn.heap.size) (sh:BB Wn L B0 bS 3)
 (S:rX w w' B0 B 0 (some ⟨bS,0,none⟩) cs (yl (j+1) cs.length) T p ⟨0,j,c,h,0,0,0,0,σ0,0⟩ ts (Zw Wn FS L B c h σ G os ks lo R T p) (P9 Wn FS L c h σ G os ks)):rY Wn FS B0 L bS cs B j ts os ks G c h σ0 R w' σ:=by
 obtain⟨w6,dn,hz,hs,⟨rfl,rfl,wr⟩ | ⟨rfl,o',B',E,H,V,St,σ',⟨os',ks',hR,hσ,A,on⟩,eb,wr,nb⟩⟩:=S
 . rcases hz with⟨-,σ',R',h1,h2,U⟩ | ⟨hh,-⟩
   . exact Or.inl ⟨R',σ',h2,h1,⟨T,p,lo,wr,U,fun x hx=>(hB x hx).2⟩,len,at_,lt,sh,fr,bf⟩
   . cases hh
 . have hL:∀ x,L.has x->¬ B.has x:=fun x hx hh=>by have:=(fr.f1 x hx).2;have:=(hB x hh).1;omega
   exact Or.inr ⟨B',E,H,V,St,os',ks',σ',hσ,eb,hR,on.grow o' (fun x hx hh=>(bf x hh).resolve_right (by omega)),⟨_,wr⟩,by simp[len],A.only o' hL,lt,sh,fr,fun x hx=>(nb x hx).elim (bf x) (fun h=>Or.inr (by omega))⟩
theorem yJ.step (P:yJ Wn FS B0 L bS cs B j ts os ks G c h σ0 R w σ) (hn:cs.length<=64) (hσ:σ<1000000) (hG:G<99) (mv:Value) :
 Calls Tryz.prog 13 #[.pointer (some ⟨B.b,0,none⟩),QW L,mv] w fun e w'=>e=.returned (.bool true)/\rY Wn FS B0 L bS cs B j ts os ks G c h σ0 R w' σ:=by
 obtain⟨T,p,lo,wr,U,hlo⟩:=P.wr
 have hj:j<cs.length:=(List.getElem?_eq_some_iff.1 P.at_).1
 have hB:∀ x,B.has x->B0<=x/\x<lo:=fun x hx=>⟨wr.ge x hx,hlo x hx⟩
 refine(J8 wr (by have:=P.len;omega) 1 30 16 40 100 600 3 0 (L:=L) mv (fun w1 g1=>U.dr P.fr hB hσ hG (bx:=w.heap.size) (by have:=P.lt;exact Nat.le_trans U.1.size (Nat.le_refl _)) (Or.inr (Nat.le_refl _)) g1)).mono ?_
 rintro e w' ⟨rfl,S⟩
 exact⟨rfl,OU U.1.size P.fr P.bf hB P.len P.at_ P.lt P.sh S⟩
theorem Wk.vH {q:Q} {nx:Nat} {gen:Nat->Nat} {ls:List Ox} {N:Nat} {lf:Int->Nat} {hd:Nat->Ox} {ct:Nat->List Ox} {t n k m:Nat} (K:Wk t n k m q nx gen ls N lf hd ct) (S:Tm q ls N hd ct os ks) {i:Nat} (hi:i<N):(ct i).length<=ks.length:=by
 have C:=K.ch i hi
 refine LH (fun o x=>q.at o 0=x) _ _ (List.nodup_cons.1 C.nd).2 (fun o ho=>⟨_,(S.km _).2 ⟨i,hi,o,ho,rfl⟩,rfl⟩) (fun o ho o' ho' x e e'=>?_)
 exact Ua C.so o ho o' ho' (e.trans e'.symm)
theorem Ap.step (P:Ap Wn FS B0 L bS cs B j ts os ks G w σ) (hj:cs[j]?=some c) (hn:cs.length<=64) (hσ:σ<1000000) (hG:G<99) (hm:c.may=true) (hz:Fit c.sz) (hh:Wd h) {mv:Value}
 (hr:∀ w1,Only (fun x=>x=B.Q.c) w w1->w.heap.size<w1.heap.size->Calls Tryz.prog 42 #[c.rf,mv] w1 fun e w'=>e=.returned (.int .u64 h)/\Below w1.heap.size w1 w') :
 Calls Tryz.prog 13 #[.pointer (some ⟨B.b,0,none⟩),QW L,mv] w fun e w'=>e=.returned (.bool true)/\rY Wn FS B0 L bS cs B j ts os ks G c h σ (92+16 * ks.length) w' σ:=by
 obtain⟨d,wr⟩:=P.wr
 have hjl:j<cs.length:=(List.getElem?_eq_some_iff.1 hj).1
 rw[Ej hjl] at wr
 have hlt:=wr.lt
 have hge:=wr.ge
 have hQ:B.has B.Q.c:=Or.inr (Or.inr (Or.inl rfl))
 have hb:B.has B.b:=Or.inl rfl
 have hB:∀ x,B.has x->B0<=x/\x<w.heap.size+1:=fun x hx=>⟨hge x hx,by have:=hlt x hx;omega⟩
 have hS:∀ x,x=B.b\/x=B.Q.c->B.has x:=fun x hx=>by rcases hx with rfl | rfl;exact hb;exact hQ
 have GH:∀ x,L.has x->¬ (x=B.b\/x=B.Q.c):=fun x hx hh=>by have:=hge x (hS x hh);have:=(P.fr.f1 x hx).2;omega
 have hLb:∀ x,L.has x->¬ (x=B.b):=fun x hx hh=>GH x hx (Or.inl hh)
 have rW:∀ {w1},Only (fun x=>x=B.b\/x=B.Q.c) w w1->Only FS Wn w1:=fun o=>P.on.grow o (fun x hx hh=>(P.bf x (hS x hh)).resolve_right (by omega))
 have Ti:∀ w1,Only (fun x=>x=B.b\/x=B.Q.c) w w1->w.heap.size<w1.heap.size->Calls Tryz.prog 11 #[QW L] w1 fun e w'=>e=.returned (.int .i64 σ)/\Below w1.heap.size w1 w':=fun w1 o _=>(P.ar.only o GH).now
 have hszW:=P.on.size
 obtain⟨s,q,nx,gen,ls,ct,F,K,S,Ve,hnx⟩:=P.ar
 cases ha:c.asks with
 | false =>
  have hmx:(c.x h).may=true:=by unfold Wc.may at hm;rw[ha] at hm;exact hm
  obtain⟨E,H,V,q',nx',ZA,ls',M,os',hM,K',cv',vG,CJ,est,S',hH,sF,hT,hnew⟩:=K.IA (who:=0) F S OV (by decide) Ve hnx (by decide) (by omega) (c.x h) rfl hmx hz hh c.ky
  have hk5:¬ 6<=c.kd:=fun h6=>by
   unfold Xa.may at hmx
   simp only[Bool.and_eq_true,decide_eq_true_eq] at hmx
   have:c.kd<=5:=hmx.1.1.2
   omega
  have rU:vI c h os ks G E H V os' ks:=⟨est,hH,sF,fun h1 h3 hr=>Classical.byContradiction fun hE=>by
   rcases h1 with⟨h1,h2⟩ | h1
   . exact K.loose S F.cv (by decide) (by decide) (by omega) hr (hT h1 h2 hE)
   . exact hk5 h1⟩
  have nH:M<=92+16 * ks.length:=by
   refine Nat.le_trans hM ?_
   unfold cst
   split <;> omega
  refine(TA (Zb:=fun T p w'=>∃ BA:Bk,T=109/\p=some ⟨BA.A,0,none⟩/\(∀ x,BA.has x->w.heap.size+1<=x/\x<w'.heap.size)/\RD 1 30 16 0 L BA M E H V q' w' σ) (Z:=fun T p dn w'=>Zw Wn FS L B c h σ G os ks (w.heap.size+1) (92+16 * ks.length) T p dn w') (D:=P9 Wn FS L c h σ G os ks) wr hj (by have:=P.len;omega) 1 30 16 40 100 600 3 0 (L:=L) hr Ti (fun w1 o1 z1=>?_) ?_ ?_).mono ?_
  . refine(Bv c h ha _ (fun A w2 w'=>∃ BA:Bk,A=BA.A/\Below w2.heap.size w2 w'/\(∀ x,BA.has x->w2.heap.size<=x/\x<w'.heap.size)/\RD 1 30 16 0 L BA M E H V q' w' σ) (fun w2 g2=>?_)).mono ?_
    . refine(hnew w2 ((F.mm.only o1 GH).below g2)).mono ?_
      rintro e w' ⟨BA,rfl,b1,b2,b3⟩
      exact⟨_,rfl,BA,rfl,b1,b2,b3⟩
    . rintro e w' ⟨A,w2,rfl,g2,BA,rfl,b1,b2,b3⟩
      have:=g2.size
      exact⟨_,_,rfl,grow g2 b1,BA,rfl,rfl,fun x hx=>⟨by have:=(b2 x hx).1;omega,(b2 x hx).2⟩,b3⟩
  . rintro T p x y ⟨BA,rfl,rfl,b2,b3⟩ g
    have:=Below.size g
    exact⟨BA,rfl,rfl,fun z hz=>⟨(b2 z hz).1,by have:=(b2 z hz).2;omega⟩,b3.grown g⟩
  . rintro T p w6 w7 ⟨BA,rfl,rfl,b2,b3⟩ uQ z7 O7
    have xO:∀ x,BA.has x->¬ (x=B.b):=fun x hx e=>by have:=(b2 x hx).1;have:=hlt _ hb;omega
    exact Bz.dr (R:=92+16 * ks.length) (lo:=w.heap.size+1) (σ:=σ) (fr:=P.fr) (U:=⟨rW O7,by omega,P.lt,Or.inl ⟨BA,M,E,H,V,q',nx',ZA,ls',ct,os',nH,rfl,rfl,fun x hx=>⟨(b2 x hx).1,Nat.lt_of_lt_of_le (b2 x hx).2 uQ.size⟩,b3.block uQ hLb xO,K',cv',vG,CJ,S',rU⟩⟩) hB hσ hG (bx:=w.heap.size) hszW (Or.inl (Nat.lt_succ_self _)) (Below.refl _ _)
  . rintro e w' ⟨rfl,T,p,S9⟩
    exact⟨rfl,OU hszW P.fr P.bf hB P.len hj P.lt P.sh S9⟩
 | true =>
  have hsh:=fun w1 (o:Only (fun x=>x=B.b\/x=B.Q.c) w w1)=>(P.sh.only (rW o) P.fr.f2).sh
  have nG:6<=c.kd/\c.kd<=8:=by
   have:=ha
   unfold Wc.asks at this
   simp only[Bool.and_eq_true,decide_eq_true_eq] at this
   exact this
  have hi3:lf3 c.ky<3:=by have:=Q3 c.ky (N:=3) (by decide);unfold lf3;omega
  have rQ:OY c.ky (3:Nat)=(lf3 c.ky:Nat):=by have:=Q3 c.ky (N:=3) (by decide);unfold lf3;show OY c.ky 3=_;omega
  have hct:=K.vH S hi3
  refine(TA (Zb:=fun T p w'=>∃ b',T=112/\p=some ⟨b',0,none⟩/\w.heap.size+1<=b'/\ZJ w' b' (.pointer none) (Gx (c.kd - 5) c.ky (LK 1 30 16 40 (lf3 c.ky)).h)) (Z:=fun T p dn w'=>Zw Wn FS L B c h σ G os ks (w.heap.size+1) (92+16 * ks.length) T p dn w') (D:=P9 Wn FS L c h σ G os ks) wr hj (by have:=P.len;omega) 1 30 16 40 100 600 3 0 (L:=L) hr Ti (fun w1 o1 z1=>?_) ?_ ?_).mono ?_
  . refine(Ei c h ha hm (hsh w1 o1) (by decide)).mono ?_
    rintro e w' ⟨b',rfl,lr,g1,f1⟩
    refine⟨_,_,rfl,g1,b',rfl,rfl,by omega,?_⟩
    rw[wR (by omega),<- rQ]
    exact lr
  . rintro T p x y ⟨b',rfl,rfl,b2,b3⟩ g
    exact⟨b',rfl,rfl,b2,b3.grown g⟩
  . rintro T p w6 w7 ⟨b',rfl,rfl,b2,b3⟩ uQ z7 O7
    have rP:¬ (b'=B.b):=fun e=>by have:=hlt _ hb;omega
    have qy:=b3.only uQ rP
    have nD:=qy.lt
    have F7:=F.only O7 GH
    have I:=JJ.begin (who:=0) (kd:=c.kd - 5) (ct:=ct (lf3 c.ky)) (G:=G) F7 Ve hnx qy (Below.refl _ _)
    have hRb:16 * (ct (lf3 c.ky)).length+8+(16+68)<=92+16 * ks.length:=by omega
    exact Bz.dr (R:=92+16 * ks.length) (lo:=w.heap.size+1) (σ:=σ) (fr:=P.fr) (U:=⟨rW O7,by omega,P.lt,Or.inr ⟨b',q,nx,gen,ls,ct,lf3 c.ky,w7,0,rfl,rfl,b2,nD,by omega,Nat.zero_le _,hi3,rfl,ha,hm,K,F.cv,Ve,hnx,S,I.more hRb⟩⟩) hB hσ hG (bx:=w.heap.size) hszW (Or.inl (Nat.lt_succ_self _)) (Below.refl _ _)
  . rintro e w' ⟨rfl,T,p,S9⟩
    exact⟨rfl,OU hszW P.fr P.bf hB P.len hj P.lt P.sh S9⟩
end
end
end Go.Proofs.YtgehjolndmgffaaGreat
