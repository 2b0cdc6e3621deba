import Derived.Test.YtibmjlefcaonnaaGreatAccAt
import Derived.Test.YtibmjlefcaonnaaGreatLstJob
import Derived.Test.YtibmjlefcaonnaaGreatAllocSolo
import Derived.Test.YtibmjlefcaonnaaGreatLstAlone
import Derived.Test.YtibmjlefcaonnaaGreatShfView
import Derived.Test.YtibmjlefcaonnaaGreatShfLeaf
import Derived.Deep.LoopGhost
import Derived.Test.YtibmjlefcaonnaaGreatAllocSound
import Derived.Test.YtibmjlefcaonnaaGreatPlaceSee
namespace Go.Proofs.YtibmjlefcaonnaaGreat
open Go.RowKit
section
end
section
inductive Xv (t n k m:Nat) (cg:Int):Nat->Nat->Q->Dw->Nat->Q->Dw->Prop where
 | one {σ:Nat} {q:Q} {δ:Dw} {q':Q} {δ':Dw} (hn:δ.need t n k m cg q) (ht:Yu t n k m cg σ q δ=(q',δ')) (h:δ'.ZB=true):Xv t n k m cg 1 σ q δ (σ+δ.cost) q' δ'
 | more {N σ:Nat} {q:Q} {δ:Dw} {q1:Q} {δ1:Dw} {σ':Nat} {q':Q} {δ':Dw} (hn:δ.need t n k m cg q) (ht:Yu t n k m cg σ q δ=(q1,δ1)) (h:δ1.ZB=false) (g:Xv t n k m cg N (σ+δ.cost) q1 δ1 σ' q' δ'):Xv t n k m cg (N+1) σ q δ σ' q' δ'
section
variable {t n k m:Nat} {cg:Int} {who N σ σ':Nat} {q q':Q} {δ δ':Dw} {pn:Nat->Int}
theorem KP {q1:Q} {δ1:Dw} (ht:Yu t n k m cg σ q δ=(q1,δ1)):Xw t n k m cg who ⟨σ,q,pn,3,δ⟩=⟨σ+δ.cost,q1,pn,if δ1.ZB then 4 else 3,δ1⟩:=by
 show As.mk _ _ _ _ _=_
 rw[ht]
theorem Xv.as (g:Xv t n k m cg N σ q δ σ' q' δ'):Yt t n k m cg who (N+1) ⟨σ,q,pn,3,δ⟩ ⟨σ'+1,q',upd pn who 0,5,δ'⟩:=by
 induction g with
 | one hn ht h =>
  refine .more (by show 3≠5;omega) (fun _=>hn) (KP ht) (by rw[h];show 4≠5;omega) ?_
  rw[h,if_pos rfl]
  exact .one (by show 4≠5;omega) (fun e=>absurd e (by show ¬ 4=3;omega)) rfl rfl
 | more hn ht h g ih =>
  refine .more (by show 3≠5;omega) (fun _=>hn) (KP ht) (by rw[h];show 3≠5;omega) ?_
  rw[h,if_neg (by decide)]
  exact ih
theorem Xv.all (g:Xv t n k m cg N (σ+3) q δ σ' q' δ'):Yt t n k m cg who (N+4) ⟨σ,q,pn,0,δ⟩ ⟨σ'+1,q',upd pn who 0,5,δ'⟩:=by
 have r:=g.as (who:=who) (pn:=upd pn who 1)
 rw[Qp] at r
 exact .more (by show 0≠5;omega) (fun e=>absurd e (by show ¬ 0=3;omega)) rfl (by show 1≠5;omega) (.more (by show 1≠5;omega) (fun e=>absurd e (by show ¬ 1=3;omega)) rfl (by show 2≠5;omega) (.more (by show 2≠5;omega) (fun e=>absurd e (by show ¬ 2=3;omega)) rfl (by show 3≠5;omega) r))
theorem Qo {κ:Nat} {z:Int} {own:Bool} {α α':Al} (g:Va t n k m κ z own N σ q α q' α'):Xv t n k m cg N σ q (.al z own κ α) (σ+N) q' (.al z own κ α'):=by
 induction g with
 | one ho ht h=>exact .one trivial (by simp only[Yu,ht]) h
 | more ho ht h g ih =>
  rename_i N σ q α q1 α1 q' α'
  rw[show σ+(N+1)=σ+1+N by omega]
  exact .more (q1:=q1) (δ1:=.al z own κ α1) trivial (by simp only[Yu,ht]) h ih
end
end
section
end
section
end
section
section
variable {t n k m σ:Nat} {F:List Nat}
variable {w0 w w':World} {L:Loc} {bE:Nat} {s:Mm}
def Hu:Xa:=⟨1,2,0,0,0,0,true⟩
end
end
section
structure Vu (t n k m N:Nat) (q:Q):Prop where
 le:N<=n
 F:q.F=YP n (n - N)
 FU:∀ x,x<N->q.sw x=Zm 1 (base t n k m 0+3 * x:Nat) (1:Nat) 0
 GU:∀ x,N<=x->q.sw x=8388608
 GR:∀ x,x<N->q.dw (base t n k m 0+3 * x)=Zd 2 (2:Nat) (x:Nat) (1:Nat) true
 GN:∀ d,(∀ x,x<N->d≠base t n k m 0+3 * x)->q.dw d=0
 FT:q.lv 0=3 * N
 FQ:∀ i,i≠0->q.lv i=0
 op:q.y.op 0=if N=0 then 0 else 1
 G9:∀ κ,κ≠0->q.y.op κ=0
 c0:N=0->q.y.ck 0=⟨0,0,0,0⟩
 c1:N≠0->∃ sp,q.y.ck 0=⟨1,0,3 * N,sp⟩
 co:∀ i,i≠0->q.y.ck i=⟨0,0,0,0⟩
section
variable {t n k m σ N:Nat} {q:Q}
theorem hds0:Vu t n k m 0 (Q.new n) :=
 ⟨Nat.zero_le _,rfl,fun x hx=>absurd hx (by omega),fun _ _=>rfl,fun x hx=>absurd hx (by omega),fun _ _=>rfl,rfl,fun _ _=>rfl,rfl,fun _ _=>rfl,fun _=>rfl,fun h=>absurd rfl h,fun _ _=>rfl⟩
theorem Vu.alone (A:Vu t n k m N q) (hk:1<=k):Alone k q.y (if N=0 then 0 else 1):=by
 by_cases e:N=0
 . have:=A.c0 e
   rw[if_pos e]
   refine⟨Nat.zero_le _,fun i h=>absurd h (by omega),fun i _ _=>?_,fun κ hκ i hi=>?_⟩
   . by_cases ei:i=0
     . rw[ei,this];exact⟨rfl,rfl⟩
     . rw[A.co i ei];exact⟨rfl,rfl⟩
   . by_cases eκ:κ=0
     . subst eκ;rw[A.op,if_pos e] at hi;omega
     . rw[A.G9 κ eκ] at hi;omega
 . obtain⟨sp,hc⟩:=A.c1 e
   rw[if_neg e]
   refine⟨hk,fun i h=>?_,fun i h1 _=>?_,fun κ hκ i hi=>?_⟩
   . rw[show i=0 by omega,hc]
   . rw[A.co i (by omega)];exact⟨rfl,rfl⟩
   . by_cases eκ:κ=0
     . subst eκ
       rw[A.op,if_neg e] at hi
       rw[show i=0 by omega,hc];exact⟨Nat.zero_lt_one,rfl⟩
     . rw[A.G9 κ eκ] at hi;omega
theorem Rz (h:N<n):YP n (n - N)=N :: YP n (n - (N+1)):=by
 obtain⟨l,e⟩:∃ l,n - N=l+1:=⟨n - N - 1,by omega⟩
 rw[e,show n - (N+1)=l by omega]
 show (n - (l+1)) :: _=_
 rw[show n - (l+1)=N by omega]
theorem Vu.step (A:Vu t n k m N q) (hk:1<=k) (hk1:k<=64) (hm:17<=m) (hN:N<n) (h3:3 * (N+1)<=m):∃ M y',M<=k+8/\Goes k m 0 (base t n k m) M q.y .see y' (.Yp (base t n k m 0+3 * N) 0)/\Zz (q.sw N)=1/\Vu t n k m (N+1) (q.made N (YP n (n - (N+1))) y' (base t n k m 0+3 * N) 0 0 2 true):=by
 obtain⟨M,y',nx',τ',hM,go,g⟩:=QL (κ:=0) (bs:=base t n k m) (A.alone hk) (by decide) hm hk hk1
 have g1:Zz (q.sw N)=1:=by rw[A.GU N (Nat.le_refl _)];exact H7
 have r0:room 0=3:=rfl
 have key:(∃ sp,y'=⟨upd q.y.ck 0 ⟨1,0,3 * (N+1),sp⟩,upd q.y.op 0 1⟩)/\τ'=.Yp (base t n k m 0+3 * N) 0:=by
  by_cases e:N=0
  . have hop:=A.op
    rw[if_pos e] at hop
    cases g with
    | fit i h hu=>rw[hop] at h;omega
    | none hno h=>rw[if_pos e] at h;omega
    | new hno h =>
     rw[if_pos e,e]
     exact⟨⟨_,rfl⟩,rfl⟩
  . obtain⟨sp,hc⟩:=A.c1 e
    have hop:=A.op
    rw[if_neg e] at hop
    have Il:(q.y.ck 0).us=3 * N:=by rw[hc]
    cases g with
    | fit i h hu =>
     have ei:i=0:=by rw[hop] at h;omega
     subst ei
     refine⟨⟨(q.y.ck 0).sp,?_⟩,by rw[Il]⟩
     rw[Il,r0,show 3 * N+3=3 * (N+1) by omega,show upd q.y.op 0 1=q.y.op by rw[<- hop];exact WH _ _]
    | none hno h=>exact absurd (hno 0 hop) (by rw[Il,r0];omega)
    | new hno h=>exact absurd (hno 0 hop) (by rw[Il,r0];omega)
 obtain⟨⟨sp,ey⟩,rfl⟩:=key
 refine⟨M,y',hM,go,g1,?_⟩
 have GM:∀ x,(q.made N (YP n (n - (N+1))) y' (base t n k m 0+3 * N) 0 0 2 true).sw x=if x=N then Zm 1 (base t n k m 0+3 * N:Nat) (1:Nat) 0 else q.sw x:=fun x=>by
  show upd q.sw N (Zm 1 _ (Zz (q.sw N)) 0) x=_
  rw[g1]
  by_cases e:x=N
  . rw[e,upd_same,if_pos rfl]
  . rw[ZR _ _ _ _ e,if_neg e]
 have GL:∀ d,(q.made N (YP n (n - (N+1))) y' (base t n k m 0+3 * N) 0 0 2 true).dw d=if d=base t n k m 0+3 * N then Zd 2 (2:Nat) (N:Nat) (1:Nat) true else q.dw d:=fun d=>by
  show upd (upd q.dw _ _) _ (Zd 2 2 N (Zz (q.sw N)) true) d=_
  rw[g1]
  by_cases e:d=base t n k m 0+3 * N
  . rw[e,upd_same,if_pos rfl];rfl
  . rw[ZR _ _ _ _ e,ZR _ _ _ _ e,if_neg e]
 have FP:∀ i,i≠0->y'.ck i=q.y.ck i:=fun i hi=>by rw[ey];exact ZR _ _ _ _ hi
 refine⟨hN,rfl,fun x hx=>?_,fun x hx=>?_,fun x hx=>?_,fun d hd=>?_,?_,fun i hi=>?_,?_,fun κ hκ=>?_,fun e=>absurd e (by omega),fun _=>⟨sp,?_⟩,fun i hi=>(FP i hi).trans (A.co i hi)⟩
 . rw[GM]
   by_cases e:x=N
   . rw[if_pos e,e]
   . rw[if_neg e];exact A.FU x (by omega)
 . rw[GM,if_neg (by omega)];exact A.GU x (by omega)
 . rw[GL]
   by_cases e:x=N
   . rw[if_pos (by rw[e]),e]
   . rw[if_neg (by omega)];exact A.GR x (by omega)
 . rw[GL,if_neg (hd N (by omega))];exact A.GN d (fun x hx=>hd x (by omega))
 . show upd q.lv 0 (q.lv 0+room 0) 0=_
   rw[upd_same,A.FT,r0];omega
 . show upd q.lv 0 _ i=0
   rw[ZR _ _ _ _ hi];exact A.FQ i hi
 . show y'.op 0=_
   rw[ey,if_neg (by omega)]
   show upd q.y.op 0 1 0=1
   exact upd_same _ _ _
 . show y'.op κ=0
   rw[ey]
   exact(ZR _ _ _ _ hκ).trans (A.G9 κ hκ)
 . show y'.ck 0=_
   rw[ey]
   show upd q.y.ck 0 _ 0=_
   exact upd_same _ _ _
end
end
section
section
variable {t n k m σ N:Nat} {q:Q}
def JC:Dw:=.al 2 true 0 (.take .idle)
theorem QC (n:Nat):YJ n Hu JC:=.al 0 rfl ⟨by decide,by decide⟩ rfl (by decide)
theorem Vu.run (A:Vu t n k m N q) (hk:1<=k) (hk1:k<=64) (hm:17<=m) (hN:N<n) (h3:3 * (N+1)<=m) (hn:n<=65535):∃ (M:Nat) (q':Q),M<=k+20/\Vu t n k m (N+1) q'/\∀ (cg:Int) (who σ:Nat) (pn:Nat->Int),∃ (σ' st:Nat),σ'<=σ+100/\Yt t n k m cg who M ⟨σ,q,pn,0,JC⟩ ⟨σ',q',upd pn who 0,5,.al 2 true 0 (.over 0 (65536+N) st)⟩:=by
 obtain⟨M,y',hM,go,g1,A'⟩:=A.step hk hk1 hm hN h3
 have hF:q.F=N :: YP n (n - (N+1)):=by rw[A.F];exact Rz hN
 refine⟨M+4+4+4,_,by omega,A',fun cg who σ pn=>?_⟩
 have r:=Q5 (t:=t) (n:=n) (m:=m) (z:=2) (own:=true) (σ:=σ+3) hF go g1 (H:=65536+N) (by
  show Ye ((N:Nat):Int) ((1:Nat):Int)=_
  rw[N7 N 1 (by omega) (by decide)];omega) rfl rfl
 exact⟨_,_,by omega,(Qo r).all⟩
theorem Vu.full (A:Vu t n k m N q) (hN:N=n):∀ (cg:Int) (who σ:Nat) (pn:Nat->Int),∃ (σ' st:Nat),σ'<=σ+100/\Yt t n k m cg who 5 ⟨σ,q,pn,0,JC⟩ ⟨σ',q,upd pn who 0,5,.al 2 true 0 (.over 7 0 st)⟩:=by
 intro cg who σ pn
 have hF:q.F=[]:=by rw[A.F,hN,Nat.sub_self];rfl
 have r:=PD (t:=t) (n:=n) (k:=k) (m:=m) (κ:=0) (z:=2) (own:=true) (σ:=σ+3) hF
 exact⟨_,_,by omega,(Qo r).all⟩
end
end
section
set_option maxHeartbeats 1000000
set_option maxRecDepth 20000
section
variable {w:World} {L:Loc} {t n k m σ:Nat} {s:Mm} {q:Q} {pn:Nat->Int}
theorem P7 {cg cp cr:Int} (h:Z8 w L s) (hV:XE t n k m s σ q pn) (hG:Good t n k m cg cp cr) (hdw:∀ a,Wd (q.dw a)) (hσ:σ+500<1000000) (who:Nat) (hw:who<t) {N:Nat} (hN:N<=500) {A':As} (g:Yt t n k m cg who N ⟨σ,q,pn,0,JC⟩ A') :
 Calls Tryz.prog 21 #[eV t n k m cg cp cr L.p who] w fun e w'=>∃ (E H V St:Int) (s':Mm),e=.returned (.agg #[iV E,.int .u64 H,iV V,iV St])/\A'.δ.told σ A'.σ E H V St/\Z8 w' L s'/\XE t n k m s' A'.σ A'.q A'.pn/\Only L.has w w':=by
 have hB:Hid (¬ L.has w.heap.size):=fun hh=>by have:=h.lt _ hh;omega
 have hB2:Hid (¬ L.has (w.heap.size+1)):=fun hh=>by have:=h.lt _ hh;omega
 have HV:Hid (XE t n k m s σ q pn):=hV
 have HM:Hid (Z8 w L s):=h
 have HG:Hid (Good t n k m cg cp cr):=hG
 have GK:Hid (who<t):=hw
 have HW:Hid (∀ a,Wd (q.dw a)):=hdw
 have FO:Hid (N<=500):=hN
 have GG:Hid (Yt t n k m cg who N ⟨σ,q,pn,0,JC⟩ A'):=g
 obtain⟨E0,hE0⟩:∃ E0,E0=(.cells #[iV t,iV n,iV k,iV m,iV cg,iV cp,iV cr,pP L.p 0,iV who] 29:Obj):=⟨_,rfl⟩
 have HN:=J9 (w:=(w.alloc E0).alloc (.cells #[iV 0,.int .u64 0,iV 0,iV 0] 51)) ((h.alloc E0).alloc _) (X:=Hu) (by decide) (QC n) t k m σ q pn
 subst hE0
 clear h hV hG g hw hdw hN
 simp only[Xa.v,Hu] at HN
 have v0:ZT ((w.alloc (.cells #[iV t,iV n,iV k,iV m,iV cg,iV cp,iV cr,pP L.p 0,iV who] 29)).alloc (.cells #[iV 0,.int .u64 0,iV 0,iV 0] 51)) w.heap.size t n k m cg cp cr L.p who:=ZT.XZ _
 have d0:=At.Ya w (.cells #[iV t,iV n,iV k,iV m,iV cg,iV cp,iV cr,pP L.p 0,iV who] 29) 51 [iV 0,.int .u64 0,iV 0,iV 0]
 go_enter Tryz.func21,Tryz.ntmps21
 go_wp2_with (go_at_call 38;refine HN.mono ?_;rintro e w1 ⟨B,rfl,b1,GI,th⟩)
 have hBw:Hid (∀ x,B.has x->w.heap.size+1+1<=x):=fun x hx=>by have:=GI x hx;simpa only [Go.Deep.nblk_alloc] using this
 have A1:Hid (Z8 w1 L s/\SN t n k m w1 L B σ ⟨σ,q,pn,0,JC⟩/\ZT w1 w.heap.size t n k m cg cp cr L.p who/\At w1 (w.heap.size+1) 0 51 #[iV 0,.int .u64 0,iV 0,iV 0] [iV 0,.int .u64 0,iV 0,iV 0]/\Only (LB L B) w w1) :=
  ⟨((HM.out.alloc _).alloc _).below b1,th,v0.grown b1,d0.grown b1,((((Only.refl _ _).alloc _).alloc _).trans (Only.Z4 b1))⟩
 clear HM v0 d0 th b1 GI HN
 go_loopg [] N (fun N1 wr=>∃ (j:Nat) (s1:Mm) (A1:As),j+N1=N/\A1.σ<=σ+j/\Yt t n k m cg who N1 A1 A'/\(∀ a,Wd (A1.q.dw a))/\XE t n k m s1 A1.σ A1.q A1.pn/\Z8 wr L s1/\SN t n k m wr L B σ A1/\ZT wr w.heap.size t n k m cg cp cr L.p who/\At wr (w.heap.size+1) 0 51 #[iV 0,.int .u64 0,iV 0,iV 0] [iV 0,.int .u64 0,iV 0,iV 0]/\Only (LB L B) w wr)
 case atStart=>exact⟨0,s,⟨σ,q,pn,0,JC⟩,by omega,Nat.le_refl _,GG.out,HW.out,HV.out,A1.out⟩
 case round =>
  clear A1 GG HW HV
  obtain⟨j,s1,A1,hj,hjs,gg,wd,KX,mm,th,v,j1,on⟩:=hrel
  have hN1:=gg.pos
  obtain⟨y0,y1,y2,y3,y4,y5,y6,y7,y8⟩:=id v
  have G8:=PO (t:=t) (n:=n) (k:=k) (m:=m) (cg:=cg) (who:=who) wd
  have hs1:=PN (t:=t) (n:=n) (k:=k) (m:=m) (cg:=cg) (who:=who) (A:=A1)
  have GH:¬ LB L B w.heap.size:=fun hh=>hh.elim hB.out (fun e=>by have:=hBw.out _ e;omega)
  have Gz:¬ LB L B (w.heap.size+1):=fun hh=>hh.elim hB2.out (fun e=>by have:=hBw.out _ e;omega)
  have FN:Hid (¬ LB L B w.heap.size):=GH
  have Gy:Hid (¬ LB L B (w.heap.size+1)):=Gz
  have hNN:=FO.out
  have HJ:Hid (j+gk=N/\A1.σ<=σ+j):=⟨hj,hjs⟩
  have IC:A1.σ<1000000:=by omega
  clear GH Gz hj hjs
  cases gg with
  | one h5 hn ht h1 =>
   have hst:=SL mm KX HG.out IC wd th h5 hn who GK.out A' ht
   rw[h1] at hst
   have H1:Hid (A'.ph=5):=h1
   clear ht h5 hn h1 G8 hs1
   go_wp2_with (first
    | (go_at_call 26;refine hst.mono ?_;rintro e w2 ⟨rfl,s2,m2,v2,G7,o2⟩;clear hst;obtain⟨E,H,V,St,tl,hd⟩:=N9 G7 H1.out)
    | (go_at_call 27;refine(hd _ (Below.refl _ _)).mono ?_;rintro e w3 ⟨rfl,b3⟩;have j3:=(j1.only o2 Gy.out).grown b3;have z0:=j3.at0 0 rfl;have z1:=j3.at0 1 rfl;have z2:=j3.at0 2 rfl;have z3:=j3.at0 3 rfl;have qf:=j3.fz))
   refine bodyPost_ret (v:=.agg #[iV E,.int .u64 H,iV V,iV St]) (by simp[results,Tryz.results21,go_sem,z0,z1,z2,z3]) rfl ?_
   refine⟨E,H,V,St,s2,rfl,tl,((((m2.below b3).Z5 hB2.out _ _).Z5 hB2.out _ _).Z5 hB2.out _ _).Z5 hB2.out _ _,v2,?_⟩
   exact(((((((on.trans o2).trans (Only.Z4 b3))).drop (fun x hx=>by have:=hBw.out x hx;omega)).setCell (fun hlt=>by simp only at hlt;omega) _).setCell (fun hlt=>by simp only at hlt;omega) _).setCell (fun hlt=>by simp only at hlt;omega) _).setCell (fun hlt=>by simp only at hlt;omega) _
  | @more N2 Aa Ab Ac h5 hn ht h1 g1 =>
   have hst:=SL mm KX HG.out IC wd th h5 hn who GK.out _ ht
   rw[beq_eq_false_iff_ne.2 h1] at hst
   rw[ht] at G8 hs1
   clear ht h5 hn
   go_wp2_with (go_at_call 26;refine hst.mono ?_;rintro e w2 ⟨rfl,s2,m2,v2,G7,o2⟩)
   go_roundg N2
   case measure=>exact Nat.lt_succ_self _
   case rel =>
    exact⟨j+1,s2,_,by have:=HJ.out.1;omega,by have:=HJ.out.2;omega,g1,G8,v2,m2,G7,v.only o2 FN.out,j1.only o2 Gy.out,on.trans o2⟩
end
theorem Gx (who:Nat):upd (fun _=>(0:Int)) who 0=fun _=>0:=by
 funext i;unfold upd;split <;> rfl
section
variable {t n k m:Nat} {q:Q} {N:Nat}
theorem Vu.wd (A:Vu t n k m N q):∀ a,Wd (q.dw a):=fun a=>by
 by_cases h:∃ x,x<N/\a=base t n k m 0+3 * x
 . obtain⟨x,hx,rfl⟩:=h
   rw[A.GR x hx];exact O4 _ _ _ _ _
 . rw[A.GN a (fun x hx e=>h ⟨x,hx,e⟩)];exact⟨by decide,by decide⟩
theorem MW {w:World} {L:Loc} {s:Mm} {σ:Nat} {cg cp cr:Int} (A:Vu t n k m N q) (h:Z8 w L s) (hV:XE t n k m s σ q (fun _=>0)) (hG:Good t n k m cg cp cr) (hn:n<=65535) (h3:3 * (N+1)<=m) (hσ:σ+500<1000000) (who:Nat) (hw:who<t) (hN:N<n) :
 Calls Tryz.prog 21 #[eV t n k m cg cp cr L.p who] w fun e w'=>∃ (St:Int) (s':Mm) (σ':Nat) (q':Q),e=.returned (.agg #[iV 0,.int .u64 (65536+(N:Int)),iV 0,iV St])/\σ'<=σ+100/\Z8 w' L s'/\XE t n k m s' σ' q' (fun _=>0)/\Only L.has w w'/\Vu t n k m (N+1) q':=by
 obtain⟨M,q',hM,A',r⟩:=A.run hG.k0 hG.k1 hG.n0 hN h3 hn
 obtain⟨σ',st,hs,r⟩:=r cg who σ (fun _=>0)
 have hk:=hG.k1
 refine(P7 h hV hG A.wd hσ who hw (by omega) r).mono ?_
 rintro e w' ⟨E,H,V,St,s',rfl,td,m',v',o'⟩
 obtain⟨rfl,rfl,rfl,rfl⟩:=td
 rw[Gx] at v'
 exact⟨_,s',σ',q',rfl,hs,m',v',o',A'⟩
theorem KW {w:World} {L:Loc} {s:Mm} {σ:Nat} {cg cp cr:Int} (A:Vu t n k m N q) (h:Z8 w L s) (hV:XE t n k m s σ q (fun _=>0)) (hG:Good t n k m cg cp cr) (hσ:σ+500<1000000) (who:Nat) (hw:who<t) (hN:N=n) :
 Calls Tryz.prog 21 #[eV t n k m cg cp cr L.p who] w fun e w'=>∃ (St:Int) (s':Mm) (σ':Nat) (q':Q),e=.returned (.agg #[iV 7,.int .u64 0,iV 0,iV St])/\σ'<=σ+100/\Z8 w' L s'/\XE t n k m s' σ' q' (fun _=>0)/\Only L.has w w':=by
 obtain⟨σ',st,hs,r⟩:=A.full hN cg who σ (fun _=>0)
 refine(P7 h hV hG A.wd hσ who hw (by decide) r).mono ?_
 rintro e w' ⟨E,H,V,St,s',rfl,td,m',v',o'⟩
 obtain⟨rfl,rfl,rfl,rfl⟩:=td
 rw[Gx] at v'
 exact⟨_,s',σ',q,rfl,hs,m',v',o'⟩
def IB (t n k m:Nat) (cg cp cr:Int) (who:Nat) (L:Loc) (w:World) (σ i:Nat) (wr:World):Prop :=
 ∃ (s1:Mm) (σ1:Nat) (q1:Q),Vu t n k m i q1/\XE t n k m s1 σ1 q1 (fun _=>0)/\σ1<=σ+100 * i/\Z8 wr L s1/\ZT wr w.heap.size t n k m cg cp cr L.p who/\(∃ c v,At wr (w.heap.size+1) 0 59 c [v]/\UC wr v i/\∀ x,v.ownBlock=some x->¬ L.has x/\w.heap.size<=x/\x≠w.heap.size+1/\x≠w.heap.size)/\Only L.has w wr
theorem IB.start {w:World} {L:Loc} {s:Mm} {σ:Nat} {cg cp cr:Int} {who:Nat} (A:Vu t n k m 0 q) (h:Z8 w L s) (hV:XE t n k m s σ q (fun _=>0)):IB t n k m cg cp cr who L w σ 0 ((w.alloc (.cells #[iV t,iV n,iV k,iV m,iV cg,iV cp,iV cr,pP L.p 0,iV who] 29)).alloc (.cells #[.slice none 0 0] 59)) :=
 ⟨s,σ,q,A,hV,Nat.le_refl _,(h.alloc _).alloc _,ZT.XZ _,⟨_,_,At.Ya w (.cells #[iV t,iV n,iV k,iV m,iV cg,iV cp,iV cr,pP L.p 0,iV who] 29) 59 [.slice none 0 0],UC.nil _,fun x hx=>by cases hx⟩,((Only.refl _ _).alloc _).alloc _⟩
set_option maxRecDepth 20000 in
theorem Ua {w:World} {L:Loc} {s:Mm} {σ:Nat} {cg cp cr:Int} (A:Vu t n k m 0 q) (h:Z8 w L s) (hV:XE t n k m s σ q (fun _=>0)) (hG:Good t n k m cg cp cr) (hn:n<=65535) {K:Nat} (hK:K<=8) (h3:3 * K<=m) (hσ:σ+1500<1000000) (who:Nat) (hw:who<t) :
 Calls Tryz.prog 12 #[eV t n k m cg cp cr L.p who,iV K] w fun e w'=>∃ (s':Mm) (σ':Nat) (q':Q),Z8 w' L s'/\XE t n k m s' σ' q' (fun _=>0)/\σ'<=σ+900/\Only L.has w w'/\((K<=n/\∃ b,e=.returned (.tuple #[pP b 0,iV 0])/\Sh w' L w.heap.size b K/\Vu t n k m K q')\/(n<K/\e=.returned (.tuple #[.pointer none,iV 7]))):=by
 have HG:Hid (Good t n k m cg cp cr/\n<=65535/\who<t/\3 * K<=m/\σ+1500<1000000):=⟨hG,hn,hw,h3,hσ⟩
 have hB:Hid (¬ L.has w.heap.size):=fun hh=>by have:=h.lt _ hh;omega
 have hB2:Hid (¬ L.has (w.heap.size+1)):=fun hh=>by have:=h.lt _ hh;omega
 have HA:Hid (IB t n k m cg cp cr who L w σ 0 _):=IB.start A h hV
 have hKb:(0:Int)<=(K:Int)/\(K:Int)<=8:=by omega
 clear A h hV hG hn hw h3 hσ
 go_enter Tryz.func12,Tryz.ntmps12
 go_wp2
 go_loopw [17] (fun iv wr=>∃ (i:Nat),iv=iV i/\i<=K/\IB t n k m cg cp cr who L w σ i wr) (fun iv _=>9 - (intOf iv).toNat)
 case atStart=>exact⟨0,rfl,Nat.zero_le _,HA.out⟩
 case round =>
  clear HA
  obtain⟨i,rfl,hi,s1,σ1,q1,A1,KX,hs1,mm,v,⟨c,sv,a,hv,ho⟩,on⟩:=hrel
  have MO:Hid (∀ x,sv.ownBlock=some x->¬ L.has x/\w.heap.size<=x/\x≠w.heap.size+1/\x≠w.heap.size):=ho
  clear ho
  by_cases hiK:i<K
  . have hi1:(i:Int)<(K:Int):=by omega
    obtain⟨y0,y1,y2,y3,y4,y5,y6,y7,y8⟩:=id v
    have HI:Hid (i<K/\σ1<=σ+100 * i):=⟨hiK,hs1⟩
    by_cases hin:i<n
    . have P6:=MW A1 mm KX HG.out.1 HG.out.2.1 (by have:=HG.out.2.2.2.1;omega) (by have:=HG.out.2.2.2.2;omega) who HG.out.2.2.1 hin
      clear hiK hs1 A1 KX hi hin
      go_wp2_with (go_at_call 21;refine P6.mono ?_;rintro e w2 ⟨St,s2,σ2,q2,rfl,hs2,m2,v2,o2,A2⟩;have D2:=At.new w2 51 [iV 0,.int .u64 (65536+(i:Int)),iV 0,iV St];have k0:=D2.at0 0 rfl)
      have G2:=ZY w2 (.cells #[iV 0,.int .u64 (65536+(i:Int)),iV 0,iV St] 51)
      have V2:=(v.only o2 hB.out).grown G2
      have a2:=(a.only o2 hB2.out).grown G2
      have h2:=(hv.only o2 (fun x hx=>(MO.out x hx).1)).grown G2
      have hlt2:∀ x,sv.ownBlock=some x->x<w2.heap.size:=fun x hx=>(hv.only o2 (fun x hx=>(MO.out x hx).1)).lt hx
      have IA:=(on.trans o2).trans (Only.Z4 (S:=L.has) G2)
      have m3:=m2.alloc (.cells #[iV 0,.int .u64 (65536+(i:Int)),iV 0,iV St] 51)
      have hwb:w.heap.size+1<w2.heap.size:=(a.only o2 hB2.out).lt
      refine ZV (fun W=>Z8 W L s2/\ZT W w.heap.size t n k m cg cp cr L.p who/\At W (w.heap.size+1) 0 59 c [sv]/\UC W sv i/\At W w2.heap.size 0 51 #[iV 0,.int .u64 (65536+(i:Int)),iV 0,iV St] [iV 0,.int .u64 (65536+(i:Int)),iV 0,iV St]/\Only L.has w W) ⟨m3,V2,a2,h2,D2,IA⟩ ?_
      clear m3 V2 a2 h2 IA D2 k0 G2 o2 m2 y0 y1 y2 y3 y4 y5 y6 y7 y8 mm v a hv on P6
      generalize w2.heap.size=d at hlt2 hwb ⊢
      rintro W ⟨m3,V2,a2,h2,D2,IA⟩
      have FM:Hid (Vu t n k m (i+1) q2/\XE t n k m s2 σ2 q2 (fun _=>0)/\σ2<=σ1+100):=⟨A2,v2,hs2⟩
      have Gw:Hid ((∀ x,sv.ownBlock=some x->x<d)/\w.heap.size+1<d):=⟨hlt2,hwb⟩
      have Gu:Hid (d<W.heap.size/\∀ x,sv.ownBlock=some x->x<W.heap.size):=⟨D2.lt,fun x hx=>by have:=D2.lt;have:=hlt2 x hx;omega⟩
      clear A2 v2 hs2 hlt2 hwb
      have hvb:¬ (sv.ownBlock=some (w.heap.size+1)):=fun e=>(MO.out _ e).2.2.1 rfl
      have hvd:¬ (sv.ownBlock=some d):=fun e=>by have:=Gw.out.1 d e;omega
      have FK:∀ (x y:World) (u:Value),Y3 sv x y->(∃ g,u=.slice (some ⟨g,0,none⟩) 1 1/\W.heap.size<=g/\x.cell? ⟨g,0,none⟩=some (.int .u64 (65536+(i:Int))))->∃ g,u=.slice (some ⟨g,0,none⟩) 1 1/\W.heap.size<=g/\y.cell? ⟨g,0,none⟩=some (.int .u64 (65536+(i:Int))):=by
       rintro x y u hk ⟨g,h1,h2,h3⟩
       exact⟨g,h1,h2,hk.only.keep (fun e=>by have:=Gu.out.2 g e;omega) h3⟩
      have FI:∀ (x y:World) (u:Value),Y3 sv x y->(∃ b' cap',u=.slice (some ⟨b',0,none⟩) (i+1) cap'/\Hr x b' cap' (i+1)/\(sv.ownBlock=some b'\/W.heap.size<=b'))->∃ b' cap',u=.slice (some ⟨b',0,none⟩) (i+1) cap'/\Hr y b' cap' (i+1)/\(sv.ownBlock=some b'\/W.heap.size<=b'):=by
       rintro x y u hk ⟨b',cap',h1,h2,h3⟩
       exact⟨b',cap',h1,hk.k h2,h3⟩
      refine Zv (Y3 sv) 9 [.val (.pointer (some ⟨w.heap.size+1,0,none⟩)),.val (.pointer (some ⟨w.heap.size+1,0,none⟩)),.val (.pointer (some ⟨w.heap.size+1,0,none⟩)),.val (.pointer (some ⟨w.heap.size+1,0,none⟩)),.val sv,.val (pP d 1),.val (.int .u64 (65536+(i:Int))),.that (fun w' x=>∃ g,x=.slice (some ⟨g,0,none⟩) 1 1/\W.heap.size<=g/\w'.cell? ⟨g,0,none⟩=some (.int .u64 (65536+(i:Int)))) FK,.that (fun w' x=>∃ b' cap',x=.slice (some ⟨b',0,none⟩) (i+1) cap'/\Hr w' b' cap' (i+1)/\(sv.ownBlock=some b'\/W.heap.size<=b')) FI] (by kernel_rfl) Y3.refl Y3.trans (by decide) (by kernel_rfl) (by kernel_rfl) (by kernel_rfl) (by kernel_rfl) (by kernel_rfl) (by kernel_rfl) ?_
      simp only[List.take_succ_cons,List.take_zero,ZJ,Act.put,List.setIfInBounds_toArray,List.set_cons_zero,List.set_cons_succ]
      refine⟨?_,⟨?_,⟨?_,⟨?_,⟨?_,⟨?_,⟨?_,⟨?_,fun _=>⟨?_,fun _=>?_⟩⟩⟩⟩⟩⟩⟩⟩⟩
      . intro w' hR HF
        apply ol
        go_simp
        exact⟨Y3.refl _,rfl⟩
      . intro w' hR HF
        apply ol
        go_simp
        exact⟨Y3.refl _,rfl⟩
      . intro w' hR HF
        apply ol
        have z:=(a2.drew.only hR.only hvb).at0 0 rfl
        go_simp
        exact⟨Y3.refl _,rfl⟩
      . intro w' hR HF
        apply ol
        go_simp
        exact⟨Y3.refl _,rfl⟩
      . intro w' hR HF
        apply ol
        have z:=(a2.drew.only hR.only hvb).at0 0 rfl
        go_simp
        exact⟨Y3.refl _,rfl⟩
      . intro w' hR HF
        apply ol
        go_simp
        exact⟨Y3.refl _,rfl⟩
      . intro w' hR HF
        apply ol
        have z:=(D2.drew.only hR.only hvd).at0 1 rfl
        go_simp
        exact⟨Y3.refl _,rfl⟩
      . intro w' hR HF
        apply ol
        clear HF
        have hsz:W.heap.size<=w'.heap.size:=hR.only.size
        go_simp
        exact⟨Y3.grown (ZY _ _),_,rfl,hsz,by simp⟩
      . intro w' hR HF
        apply ol
        obtain⟨g9,e1,e3,e2⟩:=HF.1 (by kernel_rfl)
        clear HF
        subst e1
        have hsz:W.heap.size<=w'.heap.size:=hR.only.size
        obtain⟨b9,c9,w9,hr,ho,hk,hf⟩:=((h2.grown ((Below.refl _ _).drew)).keep hR).push g9 e2 (by have:=HI.out.1;omega) 36
        exact Tn (.tmp 30) (.tmp 33) rfl rfl rfl hr hk ⟨b9,c9,rfl,ho,hf.imp id (fun hh=>Nat.le_trans hsz hh)⟩
      intro w3 hR HF
      obtain⟨⟨B,cap,rfl,S3,hB3⟩,-,-⟩:=HF
      have MV:B≠w.heap.size+1/\¬ L.has B/\w.heap.size<=B/\B≠w.heap.size:=by
       rcases hB3 with e | e
       . have:=MO.out _ e;exact⟨this.2.2.1,this.1,this.2.1,this.2.2.2⟩
       . have h1:=Gu.out.1
         have h2:=Gw.out.2
         exact⟨by omega,fun hh=>by have:=m3.lt _ hh;omega,by omega,by omega⟩
      have a3:=a2.drew.only hR.only hvb
      have m4:=m3.drew.only hR.only (fun x hx e=>(MO.out x e).1 hx)
      have V3:=(V2.grown ((Below.refl _ _).drew)).only hR.only (fun e=>(MO.out _ e).2.2.2 rfl)
      have FH:=IA.drew.grow hR.only (fun x hx e=>by have:=(MO.out x e).2.1;omega)
      have kf:=a3.fz
      have k0:=a3.at0 0 rfl
      clear hR m3 V2 a2 h2 D2 IA hvb hvd hB3
      simp only[List.drop_succ_cons,List.drop_zero]
      have HO:=FM.out
      have hI:=HI.out
      go_wp2
      go_roundw
      case rel =>
       exact⟨i+1,by first | rfl | go_num,by omega,s2,σ2,q2,HO.1,HO.2.1,by omega,m4.Z5 hB2.out _ _,V3.Z5 (by omega) _ _,⟨_,_,a3.VB 0 _,Or.inr ⟨B,cap,rfl,S3.other MV.1 _ _,by omega⟩,fun x hx=>by cases hx;exact⟨MV.2.1,MV.2.2.1,MV.1,MV.2.2.2⟩⟩,FH.setCell (fun hlt=>by simp only at hlt;omega) _⟩
      case measure=>simp[intOf];omega
    . have P6:=KW A1 mm KX HG.out.1 (by have:=HG.out.2.2.2.2;omega) who HG.out.2.2.1 (by have:=A1.le;omega)
      have FD:Hid (n<K):=by have:=A1.le;show n<K;omega
      clear hiK hs1 A1 KX hi hin
      go_wp2_with (first
       | (go_at_call 21;refine P6.mono ?_;rintro e w2 ⟨St,s2,σ2,q2,rfl,hs2,m2,v2,o2⟩;have D2:=At.new w2 51 [iV 7,.int .u64 0,iV 0,iV St];have k0:=D2.at0 0 rfl)
       | go_region)
      all_goals (go_wp2;go_ret2)
      all_goals exact⟨s2,σ2,q2,(m2.alloc _).below ((Below.refl _ _).drew),v2,by have:=HI.out;omega,(on.trans o2).trans (Only.Z4 (grow (ZY _ _) ((Below.refl _ _).drew))),Or.inr ⟨FD.out,rfl⟩⟩
  . obtain rfl:i=K:=by omega
    have hi1:¬ (i:Int)<(i:Int):=by omega
    have HR:Hid (Z8 wr L s1/\XE t n k m s1 σ1 q1 (fun _=>0)/\σ1<=σ+900/\Only L.has w wr/\i<=n/\Sh wr L w.heap.size (w.heap.size+1) i/\Vu t n k m i q1) :=
     ⟨mm,KX,by omega,on,A1.le,⟨⟨c,sv,a,hv,fun x hx=>⟨(MO.out x hx).1,(MO.out x hx).2.1,(MO.out x hx).2.2.1⟩⟩,hB2.out,by omega,by omega⟩,A1⟩
    clear mm KX on A1 a hv v
    go_wp2
    go_ret2
    obtain⟨h1,h2,h3,h4,h5,h6,h7⟩:=HR.out
    exact⟨s1,h1,σ1,q1,h2,h3,h4,Or.inl ⟨h5,_,rfl,h6,h7⟩⟩
theorem Ub {w:World} {L:Loc} {s:Mm} {σ:Nat} {cg cp cr:Int} (A:Vu t n k m 0 q) (h:Z8 w L s) (hV:XE t n k m s σ q (fun _=>0)) (hG:Good t n k m cg cp cr) (hn:n<=65535) {K:Nat} (hK:K<=8) (h3:3 * K<=m) (hσ:σ+1500<1000000) (who:Nat) (hw:who<t) (hKn:K<=n) :
 Calls Tryz.prog 12 #[eV t n k m cg cp cr L.p who,iV K] w fun e w'=>∃ (s':Mm) (σ':Nat) (q':Q) (b:Nat),e=.returned (.tuple #[pP b 0,iV 0])/\Z8 w' L s'/\XE t n k m s' σ' q' (fun _=>0)/\σ'<=σ+900/\Only L.has w w'/\Sh w' L w.heap.size b K/\Vu t n k m K q':=by
 refine(Ua A h hV hG hn hK h3 hσ who hw).mono ?_
 rintro e w' ⟨s',σ',q',m',v',hs,o',⟨-,b,rfl,S,A'⟩ | ⟨hh,-⟩⟩
 . exact⟨s',σ',q',b,rfl,m',v',hs,o',S,A'⟩
 . omega
theorem MZ {w:World} {L:Loc} {s:Mm} {σ:Nat} {cg cp cr:Int} (A:Vu t n k m 0 q) (h:Z8 w L s) (hV:XE t n k m s σ q (fun _=>0)) (hG:Good t n k m cg cp cr) (hn:n<=65535) {K:Nat} (hK:K<=8) (h3:3 * K<=m) (hσ:σ+1500<1000000) (who:Nat) (hw:who<t) (hKn:n<K) :
 Calls Tryz.prog 12 #[eV t n k m cg cp cr L.p who,iV K] w fun e w'=>e=.returned (.tuple #[.pointer none,iV 7])/\Only L.has w w':=by
 refine(Ua A h hV hG hn hK h3 hσ who hw).mono ?_
 rintro e w' ⟨s',σ',q',m',v',hs,o',⟨hh,-⟩ | ⟨-,rfl⟩⟩
 . omega
 . exact⟨rfl,o'⟩
theorem QF {P:Nat} {c0 c1 c2 c3 c4 c5 c6 c7:Int} (K:Int) (hK:K<0\/8<K) (w:World) :
 Calls Tryz.prog 12 #[eV c0 c1 c2 c3 c4 c5 c6 P c7,iV K] w fun e w'=>e=.returned (.tuple #[.pointer none,iV 1])/\Below w.heap.size w w':=by
 rcases hK with h | h
 . go_enter Tryz.func12,Tryz.ntmps12
   go_wp2
   go_ret2
   exact⟨rfl,ZY _ _⟩
 . have h0:¬ K<0:=by omega
   go_enter Tryz.func12,Tryz.ntmps12
   go_wp2
   go_ret2
   exact⟨rfl,ZY _ _⟩
theorem RF (hG:Good t n k m 100 600 3) (hn:n<=65535) (w:World) :
 Calls Tryz.prog 11 #[iV t,iV n,iV k,iV m] w fun e w'=>∃ (L:Loc) (s:Mm),e=.returned (.tuple #[eV t n k m 100 600 3 L.p 0,.bool true])/\Z8 w' L s/\XE t n k m s (1+2 * n) (Q.new n) (fun _=>0)/\Below w.heap.size w w'/\∀ k,L.has k->w.heap.size<=k:=by
 refine(Sj hG w).mono ?_
 rintro e w' ⟨L,rfl,m1,b1,l1⟩
 exact⟨L,_,rfl,m1,⟨IX hG hn,YD _ _ _ _ _ (by omega) (Or.inl (by omega)),fun i hi=>YD _ _ _ _ _ (by omega) (Or.inl (by omega))⟩,b1,l1⟩
end
end
section
set_option maxRecDepth 20000
set_option maxRecDepth 20000 in
set_option maxHeartbeats 1000000 in
theorem Xj (w:World):Calls Tryz.prog 9 #[] w fun e w'=>e=.returned (.bool true)/\Below w.heap.size w w':=by
 have HG:Hid (Good 1 8 4 40 100 600 3):=⟨by decide,by decide,by decide,by decide,by decide,by decide,by decide,by decide,by decide,by decide,by decide,by decide,by decide,by decide⟩
 have ar:=fun w=>RF HG.out (by decide) w
 go_enter Tryz.func9,Tryz.ntmps9
 go_wp2_with (first
  | (go_at_call 11;refine(ar _).mono ?_;rintro e w1 ⟨L,s,rfl,m1,v1,b1,l1⟩;have vN:=(ZT.new (w:=w1) (P:=L.p) (c0:=1) (c1:=8) (c2:=4) (c3:=40) (c4:=100) (c5:=600) (c6:=3) (who:=0) (T:=29));obtain⟨y0,y1,y2,y3,y4,y5,y6,y7,y8⟩:=id vN)
  | (go_at_call 12;refine(Ub (hds0 (t:=1) (n:=8) (k:=4) (m:=40)) (m1.alloc _) v1 HG.out (by decide) (K:=3) (by decide) (by decide) (by decide) 0 (by decide) (by decide)).mono ?_;rintro e w2 ⟨s2,σ2,q2,bz,rfl,m2,v2,hs2,o2,S2,A2⟩)
  | (go_at_call 16;refine(OA S2.sh (by decide) 5).mono ?_;rintro e w3 ⟨rfl,g3⟩;have S3:=(S2.grown g3).sh)
  | (go_at_call 14;refine(VK S3).mono ?_;rintro e w4 ⟨rfl,rfl⟩)
  | (go_at_call 8;refine(Kz 0 3 (by decide) (by decide) _).mono ?_;rintro e w5 ⟨rfl,rfl⟩))
 go_ret
 exact⟨rfl,grow (Uj (Z7 b1 _) o2 l1) g3⟩
end
section
set_option maxRecDepth 20000
theorem IE {n:Nat} (h1:1<=n) (h2:n<=60) {k:Nat} (h3:1<=k) (h4:k<=16):Good 1 n k 40 100 600 3:=⟨by decide,by decide,by omega,by omega,by omega,by omega,by decide,by decide,by decide,by decide,by decide,by decide,by decide,by decide⟩
set_option maxRecDepth 20000 in
set_option maxHeartbeats 4000000 in
theorem UI (z0 z1:Int) (w:World):Calls Tryz.prog 4 #[.int .i64 z0,.int .i64 z1] w fun e w'=>e=.returned (.bool true)/\Below w.heap.size w w':=by
 obtain⟨N0,Fg,hN⟩:=IU z0 7 3 (by decide) (by decide)
 obtain⟨K,FY,hK⟩:=IU z1 15 4 (by decide) (by decide)
 obtain⟨N,FX⟩:∃ N,N0+1=N:=⟨_,rfl⟩
 have hNs:(1:Int)+(N0:Int)=(N:Int):=by omega
 have hNb:(1:Int)<=(N:Int)/\(N:Int)<=8:=by omega
 have hKb:(0:Int)<=(K:Int)/\(K:Int)<=15:=by omega
 have HG:Hid (Good 1 N 4 40 100 600 3):=IE (by omega) (by omega) (by decide) (by decide)
 have HN:Hid (N<=8):=by show N<=8;omega
 have ar:=fun w=>RF HG.out (by have:=HN.out;omega) w
 clear FX
 by_cases h8:8<K
 . have h8':(8:Int)<(K:Int):=by omega
   go_enter Tryz.func4,Tryz.ntmps4
   go_wp2_with (first
    | (go_at_call 11;refine(ar _).mono ?_;rintro e w1 ⟨L,s,rfl,m1,v1,b1,l1⟩;have vN:=(ZT.new (w:=w1) (P:=L.p) (c0:=1) (c1:=N) (c2:=4) (c3:=40) (c4:=100) (c5:=600) (c6:=3) (who:=0) (T:=29)))
    | (go_at_call 9;refine(Xj _).mono ?_;rintro e w2 ⟨rfl,g2⟩;have v2:=vN.grown g2;obtain⟨y0,y1,y2,y3,y4,y5,y6,y7,y8⟩:=id v2)
    | (go_at_call 12;refine(QF _ (Or.inr h8') _).mono ?_;rintro e w3 ⟨rfl,g3⟩))
   go_ret
   exact⟨rfl,grow (grow (Z7 b1 _) g2) g3⟩
 . have h8':¬ (8:Int)<(K:Int):=by omega
   have HK:Hid (K<=8):=by show K<=8;omega
   by_cases Hf:N<K
   . have He:(N:Int)<(K:Int):=by omega
     have Ha:Hid (N<K):=Hf
     clear Hf h8
     go_enter Tryz.func4,Tryz.ntmps4
     go_wp2_with (first
      | (go_at_call 11;refine(ar _).mono ?_;rintro e w1 ⟨L,s,rfl,m1,v1,b1,l1⟩;have vN:=(ZT.new (w:=w1) (P:=L.p) (c0:=1) (c1:=N) (c2:=4) (c3:=40) (c4:=100) (c5:=600) (c6:=3) (who:=0) (T:=29)))
      | (go_at_call 9;refine(Xj _).mono ?_;rintro e w2 ⟨rfl,g2⟩;have v2:=vN.grown g2;obtain⟨y0,y1,y2,y3,y4,y5,y6,y7,y8⟩:=id v2)
      | (go_at_call 12;refine(MZ hds0 ((m1.alloc _).below g2) v1 HG.out (by have:=HN.out;omega) HK.out (by have:=HK.out;omega) (by have:=HN.out;omega) 0 (by decide) Ha.out).mono ?_;rintro e w3 ⟨rfl,o3⟩))
     go_ret
     exact⟨rfl,Uj (grow (Z7 b1 _) g2) o3 l1⟩
   . have He:¬ (N:Int)<(K:Int):=by omega
     have Ha:Hid (K<=N):=by show K<=N;omega
     clear Hf h8
     go_enter Tryz.func4,Tryz.ntmps4
     go_wp2_with (first
      | (go_at_call 11;refine(ar _).mono ?_;rintro e w1 ⟨L,s,rfl,m1,v1,b1,l1⟩;have vN:=(ZT.new (w:=w1) (P:=L.p) (c0:=1) (c1:=N) (c2:=4) (c3:=40) (c4:=100) (c5:=600) (c6:=3) (who:=0) (T:=29)))
      | (go_at_call 9;refine(Xj _).mono ?_;rintro e w2 ⟨rfl,g2⟩;have v2:=vN.grown g2;obtain⟨y0,y1,y2,y3,y4,y5,y6,y7,y8⟩:=id v2)
      | (go_at_call 12;refine(Ub hds0 ((m1.alloc _).below g2) v1 HG.out (by have:=HN.out;omega) HK.out (by have:=HK.out;omega) (by have:=HN.out;omega) 0 (by decide) Ha.out).mono ?_;rintro e w3 ⟨s3,σ3,q3,bs,rfl,m3,v3,hs3,o3,S3,-⟩)
      | (go_at_call 13;refine(MX S3.sh).mono ?_;rintro e w4 ⟨a,cap,rfl,hs,g4⟩;have S4:=(S3.grown g4).sh)
      | (go_at_call 14;refine(VK S4).mono ?_;rintro e w5 ⟨rfl,rfl⟩))
     have B4:Below w.heap.size w w5:=grow (Uj (grow (Z7 b1 _) g2) o3 l1) g4
     have HH:Hid (∀ i,i<K->∃ B,a=some ⟨B,0,none⟩/\Hr w5 B cap K):=fun i hi=>by
      obtain⟨B,e1,-,e3⟩:=hs i hi
      exact⟨B,e1,e3⟩
     clear ar S3 S4 v3 m3 o3 v2 vN v1 m1 l1 b1 g2 g4 hs y0 y1 y2 y3 y4 y5 y6 y7 y8
     go_wp2
     go_loopw [12] (fun iv wr=>∃ (i:Nat),iv=.int .i64 i/\i<=K/\Below w.heap.size w wr/\∀ i,i<K->∃ B,a=some ⟨B,0,none⟩/\Hr wr B cap K) (fun iv _=>9 - (intOf iv).toNat)
     case atStart=>exact⟨0,rfl,Nat.zero_le _,B4,HH.out⟩
     case round =>
      clear B4 HH
      obtain⟨i,rfl,hi,b',hh⟩:=hrel
      have hK8:=HK.out
      by_cases hiK:i<K
      . obtain⟨B,rfl,hr⟩:=hh i hiK
        have FW:(i:Int)<(K:Int):=by omega
        have hib:(0:Int)<=(i:Int)/\(i:Int)<(K:Int):=by omega
        have hc:IntKind.u64.wrap (65536+(i:Int))=65536+(i:Int):=by rw[IntKind.wrap_u64];omega
        have cB:=hr.cell hiK
        clear hr
        go_wp2
        go_roundw
        case rel=>exact⟨i+1,by go_num,by omega,b',hh⟩
        case measure=>simp[intOf];omega
      . obtain rfl:i=K:=by omega
        have hi1:¬ (i:Int)<(i:Int):=by omega
        clear hh
        go_wp2
        go_ret
        exact⟨rfl,b'⟩
end
end Go.Proofs.YtibmjlefcaonnaaGreat
