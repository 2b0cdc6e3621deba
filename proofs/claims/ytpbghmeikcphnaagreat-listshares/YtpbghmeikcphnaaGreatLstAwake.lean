import Derived.Test.YtpbghmeikcphnaaGreatLstBegun
import Derived.Test.YtpbghmeikcphnaaGreatPhaseMany
namespace Go.Proofs.YtpbghmeikcphnaaGreat
open Go.RowKit
set_option maxRecDepth 20000
def Io:Nat->Int->Prop
 | 0,_=>False
 | 1,x=>x=5
 | 2,x=>x=5
 | _,_=>False
def lM:Nat->Nat
 | 0=>1
 | _=>2
def VP (L:Loc) (p:Nat) (w:World):Prop:=∃ s σ q pn h jb F u ts,Rest 4 8 L 0 12 (lM p) w s σ q pn h jb 0 F u ts/\h.H 0=65536/\σ<=600+p * 700/\∀ x,0<=x->(u.S σ x↔Io p x)
theorem Uh (L:Loc) (x y:World) (p:Nat) (g:Grown x y) (k:VP L p x):VP L p y:=by
 obtain⟨s,σ,q,pn,h,jb,F,u,ts,R,h1,h2,h3⟩:=k
 exact⟨s,σ,q,pn,h,jb,F,u,ts,⟨R.mm.below g,R.vl,R.lc,R.nn,R.room,R.hJ,R.pn,R.td⟩,h1,h2,h3⟩
theorem Rest.e7 {n K Jm J:Nat} {L:Loc} {w:World} {s:Mm} {σ:Nat} {q:Q} {pn:Nat->Int} {h:Gh} {jb:Nat->Jb} {hd:Nat} {F:List Nat} {u:Hi} {ts:Nat->Option (Cl × Option Rs)} {t:Nat} (R:Rest t n L K Jm J w s σ q pn h jb hd F u ts) (hK:K<4) (hn:J+3<n):q.F≠[] :=
 R.lc.m.slots hK (by rw[R.lc.n K R.nn];rfl) (by have:=R.hJ;omega)
theorem hi0 (σ:Nat) (x:Int):wW.S σ x↔Io 0 x:=Iff.rfl
theorem Ol {L:Loc} {w:World} {p:Nat} {kd v:Int} (k:VP L p w) (hp:p<4) (hJ:lM p+(if kd=2 then 1 else 0)<=2) (hk:kd=1\/kd=2\/kd=3) (hv:(v=1/\(Io p 5↔kd≠2))\/(v=0/\¬ (Io p 5↔kd≠2))) (hS:∀ x,0<=x->((if kd≠1/\x=5 then kd=2 else Io p x)↔Io (p+1) x)) :
 Calls Tryz.prog 11 #[.agg #[.int .i64 4,.int .i64 8,.int .i64 12,.int .i64 40,.int .i64 100,.int .i64 600,.int .i64 3,.pointer (some ⟨L.p,0,none⟩),.int .i64 0],.int .u64 65536,.int .i64 kd,.int .i64 5] w fun e w'=>∃ st:Int,e=.returned (.agg #[.int .i64 0,.int .u64 0,.int .i64 v,.int .i64 st])/\VP L (p+1) w'/\Only L.has w w':=by
 obtain⟨s,σ,q,pn,h,jb,F,u,ts,R,h1,h2,h3⟩:=k
 refine(zT (kd:=kd) (key:=5) R (Qw (n:=8) (by decide) (by decide)) (by decide) (by have:lM p<=2:=(Nat.le_trans (Nat.le_add_right _ _) hJ);omega) (by decide) (by decide) (by decide) (by decide) (by omega) hk (by decide) (by decide) h1).mono ?_
 rintro e w' ⟨E,v',st,s',σ',q',YO,h',Om,F',u',ts',rfl,R',fin,-,hs,on,hH⟩
 have E0:E=0:=Classical.byContradiction fun hne=>R'.e7 (by decide) (by omega) (fin.no hne).2.2.2.1
 obtain⟨f1,f2⟩:=fin.yes E0
 have e5:=h3 5 (by decide)
 have ev:v'=v:=by
  rw[e5] at f1
  rcases f1 with⟨a,b⟩ | ⟨a,b⟩ <;> rcases hv with⟨c,d⟩ | ⟨c,d⟩
  . omega
  . exact absurd b d
  . exact absurd d b
  . omega
 rw[E0,ev]
 refine⟨st,rfl,⟨s',σ',q',YO,h',Om,F',u',ts',⟨R'.mm,R'.vl,R'.lc,R'.nn,R'.room,Nat.le_trans R'.hJ hJ,R'.pn,R'.td⟩,hH,by omega,fun x hx=>?_⟩,on⟩
 rw[f2 x hx,<- hS x hx]
 by_cases c:kd≠1/\x=5
 . rw[if_pos c,if_pos c]
 . rw[if_neg c,if_neg c];exact h3 x hx
theorem wP {L:Loc} {w:World} (k:VP L 0 w):Calls Tryz.prog 11 #[.agg #[.int .i64 4,.int .i64 8,.int .i64 12,.int .i64 40,.int .i64 100,.int .i64 600,.int .i64 3,.pointer (some ⟨L.p,0,none⟩),.int .i64 0],.int .u64 65536,.int .i64 2,.int .i64 5] w fun e w'=>∃ st:Int,e=.returned (.agg #[.int .i64 0,.int .u64 0,.int .i64 1,.int .i64 st])/\VP L 1 w'/\Only L.has w w' :=
 Ol k (by decide) (by decide) (Or.inr (Or.inl rfl)) (Or.inl ⟨rfl,by simp[Io]⟩) (fun x _=>by by_cases c:x=5 <;> simp[Io,c])
theorem wO {L:Loc} {w:World} (k:VP L 1 w):Calls Tryz.prog 11 #[.agg #[.int .i64 4,.int .i64 8,.int .i64 12,.int .i64 40,.int .i64 100,.int .i64 600,.int .i64 3,.pointer (some ⟨L.p,0,none⟩),.int .i64 0],.int .u64 65536,.int .i64 1,.int .i64 5] w fun e w'=>∃ st:Int,e=.returned (.agg #[.int .i64 0,.int .u64 0,.int .i64 1,.int .i64 st])/\VP L 2 w'/\Only L.has w w' :=
 Ol k (by decide) (by decide) (Or.inl rfl) (Or.inl ⟨rfl,by simp[Io]⟩) (fun x _=>by simp[Io])
theorem wM {L:Loc} {w:World} (k:VP L 2 w):Calls Tryz.prog 11 #[.agg #[.int .i64 4,.int .i64 8,.int .i64 12,.int .i64 40,.int .i64 100,.int .i64 600,.int .i64 3,.pointer (some ⟨L.p,0,none⟩),.int .i64 0],.int .u64 65536,.int .i64 3,.int .i64 5] w fun e w'=>∃ st:Int,e=.returned (.agg #[.int .i64 0,.int .u64 0,.int .i64 1,.int .i64 st])/\VP L 3 w'/\Only L.has w w' :=
 Ol k (by decide) (by decide) (Or.inr (Or.inr rfl)) (Or.inl ⟨rfl,by simp[Io]⟩) (fun x _=>by by_cases c:x=5 <;> simp[Io,c])
theorem wL {L:Loc} {w:World} (k:VP L 3 w):Calls Tryz.prog 11 #[.agg #[.int .i64 4,.int .i64 8,.int .i64 12,.int .i64 40,.int .i64 100,.int .i64 600,.int .i64 3,.pointer (some ⟨L.p,0,none⟩),.int .i64 0],.int .u64 65536,.int .i64 1,.int .i64 5] w fun e w'=>∃ st:Int,e=.returned (.agg #[.int .i64 0,.int .u64 0,.int .i64 0,.int .i64 st])/\VP L 4 w'/\Only L.has w w' :=
 Ol k (by decide) (by decide) (Or.inl rfl) (Or.inr ⟨rfl,by simp[Io]⟩) (fun x _=>by simp[Io])
set_option maxRecDepth 20000 in
set_option maxHeartbeats 1000000 in
theorem ML (w:World):Calls Tryz.prog 10 #[] w fun e w'=>e=.returned (.bool true)/\Below w.heap.size w w':=by
 have bg:=fun w=>Pq (n:=8) (by decide) (by decide) w
 go_enter Tryz.func10,Tryz.ntmps10
 go_wp2_with (go_at_call 9;refine(bg _).mono ?_;rintro e w1 ⟨L,s,σ,F0,rfl,R0,b1,l1,hσ,-⟩)
 have k0:VP L 0 w1:=⟨s,σ,_,_,_,_,_,_,_,R0 0 12 (by decide),yE 4 8 12 40,by omega,fun x _=>hi0 σ x⟩
 clear R0 bg hσ
 refine ZT (fun W=>VP L 0 W/\ZP W w1.heap.size 4 8 12 40 100 600 3 L.p 0/\Below w.heap.size w W/\¬ L.has w1.heap.size) ⟨Uh L _ _ 0 (ZY _ _) k0,ZP.new,Z4 b1 _,?_⟩ ?_
 . obtain⟨s,σ,q,pn,h,jb,F,u,ts,R,-⟩:=k0
   exact Q9 R.mm (Nat.le_refl _)
 clear k0
 rintro W ⟨k1,v1,bW,qU⟩
 obtain⟨Sz,hSz⟩:∃ Sz,W.heap.size=Sz:=⟨_,rfl⟩
 have BX:∀ k,L.has k->k<Sz:=fun k hk=>by obtain⟨s,σ,q,pn,h,jb,F,u,ts,R,-⟩:=k1;have:=R.mm.lt k hk;omega
 have wK:∀ (x1 y1:World) (v:Value),Only L.has x1 y1->(∃ X,v=.pointer (some ⟨X,0,none⟩)/\Sz<=X/\At x1 X 0 37 #[.int .i64 0,.int .u64 0,.int .i64 0,.int .i64 0] [.int .i64 0,.int .u64 0,.int .i64 0,.int .i64 0])->∃ X,v=.pointer (some ⟨X,0,none⟩)/\Sz<=X/\At y1 X 0 37 #[.int .i64 0,.int .u64 0,.int .i64 0,.int .i64 0] [.int .i64 0,.int .u64 0,.int .i64 0,.int .i64 0]:=by
  rintro x1 y1 v hg ⟨X,hv,hb,hr⟩
  exact⟨X,hv,hb,hr.only hg (fun hh=>by have:=BX _ hh;omega)⟩
 refine Vm (Only L.has) Grown (VP L) 16 [(12,4),(13,5),(14,6),(15,7)] (.cells #[.int .i64 0,.int .u64 0,.int .i64 0,.int .i64 0] 37) [2,5,8,11] [.val (.agg #[.int .i64 4,.int .i64 8,.int .i64 12,.int .i64 40,.int .i64 100,.int .i64 600,.int .i64 3,.pointer (some ⟨L.p,0,none⟩),.int .i64 0]),.val (.int .u64 65536),.that (fun _ x=>∃ st:Int,x=.agg #[.int .i64 0,.int .u64 0,.int .i64 1,.int .i64 st]) (fun _ _ _ _ h=>h),.val (.agg #[.int .i64 4,.int .i64 8,.int .i64 12,.int .i64 40,.int .i64 100,.int .i64 600,.int .i64 3,.pointer (some ⟨L.p,0,none⟩),.int .i64 0]),.val (.int .u64 65536),.that (fun _ x=>∃ st:Int,x=.agg #[.int .i64 0,.int .u64 0,.int .i64 1,.int .i64 st]) (fun _ _ _ _ h=>h),.val (.agg #[.int .i64 4,.int .i64 8,.int .i64 12,.int .i64 40,.int .i64 100,.int .i64 600,.int .i64 3,.pointer (some ⟨L.p,0,none⟩),.int .i64 0]),.val (.int .u64 65536),.that (fun _ x=>∃ st:Int,x=.agg #[.int .i64 0,.int .u64 0,.int .i64 1,.int .i64 st]) (fun _ _ _ _ h=>h),.val (.agg #[.int .i64 4,.int .i64 8,.int .i64 12,.int .i64 40,.int .i64 100,.int .i64 600,.int .i64 3,.pointer (some ⟨L.p,0,none⟩),.int .i64 0]),.val (.int .u64 65536),.that (fun _ x=>∃ st:Int,x=.agg #[.int .i64 0,.int .u64 0,.int .i64 0,.int .i64 st]) (fun _ _ _ _ h=>h),.that (fun w' x=>∃ X,x=.pointer (some ⟨X,0,none⟩)/\Sz<=X/\At w' X 0 37 #[.int .i64 0,.int .u64 0,.int .i64 0,.int .i64 0] [.int .i64 0,.int .u64 0,.int .i64 0,.int .i64 0]) wK,.that (fun w' x=>∃ X,x=.pointer (some ⟨X,0,none⟩)/\Sz<=X/\At w' X 0 37 #[.int .i64 0,.int .u64 0,.int .i64 0,.int .i64 0] [.int .i64 0,.int .u64 0,.int .i64 0,.int .i64 0]) wK,.that (fun w' x=>∃ X,x=.pointer (some ⟨X,0,none⟩)/\Sz<=X/\At w' X 0 37 #[.int .i64 0,.int .u64 0,.int .i64 0,.int .i64 0] [.int .i64 0,.int .u64 0,.int .i64 0,.int .i64 0]) wK,.that (fun w' x=>∃ X,x=.pointer (some ⟨X,0,none⟩)/\Sz<=X/\At w' X 0 37 #[.int .i64 0,.int .u64 0,.int .i64 0,.int .i64 0] [.int .i64 0,.int .u64 0,.int .i64 0,.int .i64 0]) wK] (by kernel_rfl) (Only.refl _) (fun _ _ _ h k=>h.trans k) (fun x y h=>Only.ZZ h) (Uh L) (Uh L _ _ 0 ((Below.refl _ _).drew) k1) (by decide) (fun x y h=>h.size) (by kernel_rfl) (by simp) ?_ (by kernel_rfl) (by kernel_rfl) (by kernel_rfl) (by kernel_rfl) (by kernel_rfl) (by kernel_rfl) (by kernel_rfl) (by kernel_rfl) ?_
 . intro e he o ev w' ho
   simp only[List.mem_cons,List.not_mem_nil,or_false] at he
   rcases he with rfl | rfl | rfl | rfl <;>
    (simp only[List.getElem?_toArray,List.getElem?_cons_succ,List.getElem?_cons_zero,Option.some.injEq] at ho
     subst ho
     go_simp)
 simp only[List.take_succ_cons,List.take_zero,Zr,Act.put,List.setIfInBounds_toArray,List.set_cons_zero,List.set_cons_succ]
 refine⟨?_,?_⟩
 . intro w' hR _
   apply ol
   obtain⟨y0,y1,y2,y3,y4,y5,y6,y7,y8⟩:=(v1.grown ((Below.refl _ _).drew)).only hR qU
   go_simp
   exact gl
 refine⟨?_,?_⟩
 . intros;apply ol;go_simp;exact gl
 refine⟨?_,?_⟩
 . intro w' hR _ hP
   apply ol
   have hP:VP L 0 w':=hP
   go_simp
   refine(wP hP).mono ?_
   rintro e w'' ⟨st,rfl,h1,h2⟩
   exact⟨_,rfl,⟨h2,h1⟩,st,rfl⟩
 intro x0
 refine⟨?_,?_⟩
 . intro w' hR _
   apply ol
   obtain⟨y0,y1,y2,y3,y4,y5,y6,y7,y8⟩:=(v1.grown ((Below.refl _ _).drew)).only hR qU
   go_simp
   exact gl
 refine⟨?_,?_⟩
 . intros;apply ol;go_simp;exact gl
 refine⟨?_,?_⟩
 . intro w' hR _ hP
   apply ol
   have hP:VP L 1 w':=hP
   go_simp
   refine(wO hP).mono ?_
   rintro e w'' ⟨st,rfl,h1,h2⟩
   exact⟨_,rfl,⟨h2,h1⟩,st,rfl⟩
 intro x1
 refine⟨?_,?_⟩
 . intro w' hR _
   apply ol
   obtain⟨y0,y1,y2,y3,y4,y5,y6,y7,y8⟩:=(v1.grown ((Below.refl _ _).drew)).only hR qU
   go_simp
   exact gl
 refine⟨?_,?_⟩
 . intros;apply ol;go_simp;exact gl
 refine⟨?_,?_⟩
 . intro w' hR _ hP
   apply ol
   have hP:VP L 2 w':=hP
   go_simp
   refine(wM hP).mono ?_
   rintro e w'' ⟨st,rfl,h1,h2⟩
   exact⟨_,rfl,⟨h2,h1⟩,st,rfl⟩
 intro x2
 refine⟨?_,?_⟩
 . intro w' hR _
   apply ol
   obtain⟨y0,y1,y2,y3,y4,y5,y6,y7,y8⟩:=(v1.grown ((Below.refl _ _).drew)).only hR qU
   go_simp
   exact gl
 refine⟨?_,?_⟩
 . intros;apply ol;go_simp;exact gl
 refine⟨?_,?_⟩
 . intro w' hR _ hP
   apply ol
   have hP:VP L 3 w':=hP
   go_simp
   refine(wL hP).mono ?_
   rintro e w'' ⟨st,rfl,h1,h2⟩
   exact⟨_,rfl,⟨h2,h1⟩,st,rfl⟩
 intro x3
 refine⟨?_,?_⟩
 . intro w' hR _
   apply ol
   go_simp
   exact⟨ZY _ _,_,rfl,by have:=hR.size;rw[show W.drew.heap.size=W.heap.size from rfl] at this;omega,At.new w' 37 [.int .i64 0,.int .u64 0,.int .i64 0,.int .i64 0]⟩
 intro p0
 refine⟨?_,?_⟩
 . intro w' hR _
   apply ol
   go_simp
   exact⟨ZY _ _,_,rfl,by have:=hR.size;rw[show W.drew.heap.size=W.heap.size from rfl] at this;omega,At.new w' 37 [.int .i64 0,.int .u64 0,.int .i64 0,.int .i64 0]⟩
 intro p1
 refine⟨?_,?_⟩
 . intro w' hR _
   apply ol
   go_simp
   exact⟨ZY _ _,_,rfl,by have:=hR.size;rw[show W.drew.heap.size=W.heap.size from rfl] at this;omega,At.new w' 37 [.int .i64 0,.int .u64 0,.int .i64 0,.int .i64 0]⟩
 intro p2
 refine⟨?_,?_⟩
 . intro w' hR _
   apply ol
   go_simp
   exact⟨ZY _ _,_,rfl,by have:=hR.size;rw[show W.drew.heap.size=W.heap.size from rfl] at this;omega,At.new w' 37 [.int .i64 0,.int .u64 0,.int .i64 0,.int .i64 0]⟩
 intro p3
 intro w5 hR hP facts hne
 obtain⟨⟨Xd,rfl,aN,ad⟩,⟨Xc,rfl,aK,ac⟩,⟨Xb,rfl,aJ,ab⟩,⟨Xa,rfl,aI,aa⟩,⟨lL,rfl⟩,⟨st2,rfl⟩,⟨st1,rfl⟩,⟨st0,rfl⟩,-⟩:=facts
 have nab:Xa≠Xb:=fun e=>hne (12,4) (by simp) (13,5) (by simp) (by decide) (by subst e;simp[Act.eval])
 have aH:Xa≠Xc:=fun e=>hne (12,4) (by simp) (14,6) (by simp) (by decide) (by subst e;simp[Act.eval])
 have aG:Xa≠Xd:=fun e=>hne (12,4) (by simp) (15,7) (by simp) (by decide) (by subst e;simp[Act.eval])
 have aF:Xb≠Xa:=fun e=>hne (13,5) (by simp) (12,4) (by simp) (by decide) (by subst e;simp[Act.eval])
 have aC:Xb≠Xc:=fun e=>hne (13,5) (by simp) (14,6) (by simp) (by decide) (by subst e;simp[Act.eval])
 have aB:Xb≠Xd:=fun e=>hne (13,5) (by simp) (15,7) (by simp) (by decide) (by subst e;simp[Act.eval])
 have aA:Xc≠Xa:=fun e=>hne (14,6) (by simp) (12,4) (by simp) (by decide) (by subst e;simp[Act.eval])
 have az:Xc≠Xb:=fun e=>hne (14,6) (by simp) (13,5) (by simp) (by decide) (by subst e;simp[Act.eval])
 have ay:Xc≠Xd:=fun e=>hne (14,6) (by simp) (15,7) (by simp) (by decide) (by subst e;simp[Act.eval])
 have au:Xd≠Xa:=fun e=>hne (15,7) (by simp) (12,4) (by simp) (by decide) (by subst e;simp[Act.eval])
 have ak:Xd≠Xb:=fun e=>hne (15,7) (by simp) (13,5) (by simp) (by decide) (by subst e;simp[Act.eval])
 have aj:Xd≠Xc:=fun e=>hne (15,7) (by simp) (14,6) (by simp) (by decide) (by subst e;simp[Act.eval])
 have ai:=aa.at0 0 rfl
 have ah:=aa.at0 1 rfl
 have ag:=aa.at0 2 rfl
 have ax3:=aa.at0 3 rfl
 have af:=aa.fz
 have bx0:=ab.at0 0 rfl
 have bx1:=ab.at0 1 rfl
 have bx2:=ab.at0 2 rfl
 have bx3:=ab.at0 3 rfl
 have bf:=ab.fz
 have cx0:=ac.at0 0 rfl
 have cx1:=ac.at0 1 rfl
 have cx2:=ac.at0 2 rfl
 have cx3:=ac.at0 3 rfl
 have cf:=ac.fz
 have dx0:=ad.at0 0 rfl
 have dx1:=ad.at0 1 rfl
 have dx2:=ad.at0 2 rfl
 have dx3:=ad.at0 3 rfl
 have df:=ad.fz
 have b5:Below w.heap.size w w5:=MN (grow bW ((Below.refl _ _).drew)) hR l1
 have hwz:w.heap.size<=Sz:=by have:=bW.size;omega
 have ha':w.heap.size<=Xa:=by omega
 have hb':w.heap.size<=Xb:=by omega
 have hc':w.heap.size<=Xc:=by omega
 have hd':w.heap.size<=Xd:=by omega
 clear hP hR hne k1 v1 bW qU BX wK hSz
 go_wp2
 go_ret
 refine⟨rfl,?_⟩
 exact Z7 (Z7 (Z7 (Z7 (Z7 (Z7 (Z7 (Z7 (Z7 (Z7 (Z7 (Z7 (Z7 (Z7 (Z7 (Z7 (b5) ha' _ _) ha' _ _) ha' _ _) ha' _ _) hb' _ _) hb' _ _) hb' _ _) hb' _ _) hc' _ _) hc' _ _) hc' _ _) hc' _ _) hd' _ _) hd' _ _) hd' _ _) hd' _ _
end Go.Proofs.YtpbghmeikcphnaaGreat
