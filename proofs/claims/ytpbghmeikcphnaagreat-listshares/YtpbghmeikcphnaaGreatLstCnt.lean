import Derived.Test.YtpbghmeikcphnaaGreatAbb
import Derived.Test.YtpbghmeikcphnaaGreatLstChain
import Derived.Test.YtpbghmeikcphnaaGreatLstPop
namespace Go.Proofs.YtpbghmeikcphnaaGreat
open Go.RowKit
section
structure W3 where
 who:Nat->Int
 kd:Nat->Int
 ky:Nat->Int
def Pv (W:World) (ao:Option Addr) (n:Nat) (A:W3):Prop:=∀ i,i<n->∃ b o,ao=some ⟨b,o,none⟩/\W.cell? ⟨b,o+i * 3,none⟩=some (iV (A.who i))/\W.cell? ⟨b,o+i * 3+1,none⟩=some (iV (A.kd i))/\W.cell? ⟨b,o+i * 3+2,none⟩=some (iV (A.ky i))
def Jk (n:Nat) (A:W3):Prop:=∀ i,i<n->Fit (A.who i)/\Fit (A.kd i)/\Fit (A.ky i)
end
section
theorem Oh (f g:Nat->Nat):∀ N,tot f N+tot g N=tot (fun i=>f i+g i) N
 | 0=>rfl
 | N+1=>by
  have:=Oh f g N
  show tot f N+f N+(tot g N+g N)=tot (fun i=>f i+g i) N+(f N+g N)
  omega
def cw (W:Nat->Nat) (k m:Nat):Nat:=tot (fun i=>if i<m/\W i=k then 1 else 0) 30
theorem zN (W:Nat->Nat) (k m:Nat):cw W k m<=cw W k (m+1):=L8 (fun i _=>by
 by_cases h:i<m/\W i=k
 . rw[if_pos h,if_pos ⟨by omega,h.2⟩];exact Nat.le_refl _
 . rw[if_neg h];exact Nat.zero_le _)
theorem wE {W:Nat->Nat} {k m:Nat} (hm:m<30) (hw:W m=k):cw W k m+1<=cw W k (m+1):=by
 refine JF hm (fun i _=>?_) ?_
 . by_cases h:i<m/\W i=k
   . rw[if_pos h,if_pos ⟨by omega,h.2⟩];exact Nat.le_refl _
   . rw[if_neg h];exact Nat.zero_le _
 . rw[if_neg (fun h=>by omega),if_pos ⟨by omega,hw⟩];decide
theorem qP (W:Nat->Nat) (a b c:Nat):cw W 0 a+cw W 1 b+cw W 2 c<=30:=by
 unfold cw
 rw[Oh,Oh]
 refine XA (fun i _=>?_)
 by_cases h0:i<a/\W i=0
 . rw[if_pos h0,if_neg (fun h=>by omega),if_neg (fun h=>by omega)];decide
 . rw[if_neg h0]
   by_cases h1:i<b/\W i=1
   . rw[if_pos h1,if_neg (fun h=>by omega)];decide
   . rw[if_neg h1];split <;> decide
def KY (W:Nat->Nat) (nx:Nat->Nat):Nat:=cw W 0 (nx 0)+cw W 1 (nx 1)+cw W 2 (nx 2)
theorem Ot (W:Nat->Nat) (nx:Nat->Nat):KY W nx<=30:=qP W _ _ _
theorem wU {W nx:Nat->Nat} {K:Nat} (hK:K<3):KY W nx<=KY W (upd nx K (nx K+1)):=by
 have h:K=0\/K=1\/K=2:=by omega
 have m:=zN W K (nx K)
 unfold KY
 rcases h with rfl | rfl | rfl
 . rw[upd_same,Z9 _ _ _ _ (by decide),Z9 _ _ _ _ (by decide)];omega
 . rw[upd_same,Z9 _ _ _ _ (by decide),Z9 _ _ _ _ (by decide)];omega
 . rw[upd_same,Z9 _ _ _ _ (by decide),Z9 _ _ _ _ (by decide)];omega
theorem zZ {W nx:Nat->Nat} {K:Nat} (hK:K<3) (hm:nx K<30) (hw:W (nx K)=K):KY W nx+1<=KY W (upd nx K (nx K+1)):=by
 have h:K=0\/K=1\/K=2:=by omega
 have m:=wE hm hw
 unfold KY
 rcases h with rfl | rfl | rfl
 . rw[upd_same,Z9 _ _ _ _ (by decide),Z9 _ _ _ _ (by decide)];omega
 . rw[upd_same,Z9 _ _ _ _ (by decide),Z9 _ _ _ _ (by decide)];omega
 . rw[upd_same,Z9 _ _ _ _ (by decide),Z9 _ _ _ _ (by decide)];omega
section
variable {w0 w w':World} {L:Loc} {E Wb Nb Tb b c σ0 σ bg:Nat} {who:Int} {ts:Nat->Option (Cl × Option Rs)} {lb:Nat->Nat} {pp:Nat->Value} {nw:Nat->List Value} {nx:Nat->Nat} {D D2:List Dd}
structure Lies (w0 w:World) (L:Loc) (E Wb Nb Tb b c:Nat) (who:Int) (pp:Nat->Value) (nw:Nat->List Value) (nx:Nat->Nat) (D:List Dd):Prop where
 v:VQ w E L who
 bw:Below w0.heap.size w0 w
 ar:w.rowIs Wb 43 3 pp
 nr:Wy w Nb nw
 tr:w.rowIs Tb 47 3 (fun a=>iV (nx a))
 r:Rz w 45 9 b c (D.map Dd.dn)
 mm:∃ s:Mm,Z5 w L s
theorem Y2.lies (A:Y2 w0 w L E Wb Nb Tb b c who σ0 σ bg ts lb pp nw nx D D2):Lies w0 w L E Wb Nb Tb b c who pp nw nx D:=by
 obtain⟨s,q,pn,h,jb,F,u,rn,P,S⟩:=A
 exact⟨P.v,P.bw,P.ar,P.nr,P.tr,P.r,s,P.mm⟩
theorem Y2.now (A:Y2 w0 w L E Wb Nb Tb b c who σ0 σ bg ts lb pp nw nx D D2):∃ s:Mm,Z5 w L s/\s.steps=(σ:Int):=by
 obtain⟨s,q,pn,h,jb,F,u,rn,P,S⟩:=A
 exact⟨s,P.mm,P.vl.tw.pile.st⟩
theorem Y2.ptr (A:Y2 w0 w L E Wb Nb Tb b c who σ0 σ bg ts lb pp nw nx D D2) {K:Nat} {C:Cl} {rs:Option Rs} (e:ts K=some (C,rs)):pp K=.pointer (some ⟨lb K,0,none⟩):=by
 obtain⟨s,q,pn,h,jb,F,u,rn,P,S⟩:=A
 exact(P.cal K C rs e).1
theorem Y2.wV (A:Y2 w0 w L E Wb Nb Tb b c who σ0 σ bg ts lb pp nw nx D D2) (x:Int):Y2 w0 (w.setCell ⟨E,8,none⟩ (iV x)) L E Wb Nb Tb b c x σ0 σ bg ts lb pp nw nx D D2 :=
 A.alt (i0:=1) (Or.inl ⟨rfl,rfl⟩) ((Only.refl (fun y=>y=E) w).setCell (a:=⟨E,8,none⟩) (fun _=>rfl) _) (by rw[if_pos rfl];exact fun v=>v.set x) (by rw[if_neg (by decide)]) (by rw[if_neg (by decide)]) (by rw[if_neg (by decide)])
theorem Y2.yJ (A:Y2 w0 w L E Wb Nb Tb b c who σ0 σ bg ts lb pp nw nx D D2) (K v:Nat):Y2 w0 (w.setCell ⟨Tb,K,none⟩ (iV v)) L E Wb Nb Tb b c who σ0 σ bg ts lb pp nw (upd nx K v) D D2 :=
 A.alt (i0:=4) (Or.inr (Or.inr (Or.inr ⟨rfl,rfl⟩))) ((Only.refl (fun y=>y=Tb) w).setCell (a:=⟨Tb,K,none⟩) (fun _=>rfl) _) (by rw[if_neg (by decide)]) (by rw[if_neg (by decide)]) (by rw[if_neg (by decide)]) (by
  rw[if_pos rfl]
  exact fun t=>(t.set K (iV v)).congr fun j _=>by
   by_cases e:j=K
   . rw[if_pos e,e,upd_same]
   . rw[if_neg e,Z9 _ _ _ _ e])
theorem Y2.ru (A:Y2 w0 w L E Wb Nb Tb b c who σ0 σ bg ts lb pp nw nx D D2) {K:Nat} (h:ts K=none) (x:Value):Y2 w0 (w.setCell ⟨Wb,K,none⟩ x) L E Wb Nb Tb b c who σ0 σ bg ts lb (upd pp K x) nw nx D D2 :=
 A.alt (i0:=2) (Or.inr (Or.inl ⟨rfl,rfl⟩)) ((Only.refl (fun y=>y=Wb) w).setCell (a:=⟨Wb,K,none⟩) (fun _=>rfl) _) (by rw[if_neg (by decide)]) (by
  rw[if_pos rfl]
  refine⟨fun t=>(t.set K x).congr fun j _=>?_,fun a C rs e=>Z9 _ _ _ _ (fun e'=>by rw[e',h] at e;cases e)⟩
  by_cases e:j=K
  . rw[if_pos e,e,upd_same]
  . rw[if_neg e,Z9 _ _ _ _ e]) (by rw[if_neg (by decide)]) (by rw[if_neg (by decide)])
theorem Y2.rE (A:Y2 w0 w L E Wb Nb Tb b c who σ0 σ bg ts lb pp nw nx D D2) {K:Nat} (hK:K<3) {e:List Value} (he:e.length=9):Y2 w0 (w.setCells Nb (K * 9) e) L E Wb Nb Tb b c who σ0 σ bg ts lb pp (upd nw K e) nx D D2 :=
 A.alt (i0:=3) (Or.inr (Or.inr (Or.inl ⟨rfl,rfl⟩))) (WB _ _ _ _ (Only.refl _ _)) (by rw[if_neg (by decide)]) (by rw[if_neg (by decide)]) (by rw[if_pos rfl];exact fun r=>r.set hK he) (by rw[if_neg (by decide)])
def J6 (ts:Nat->Option (Cl × Option Rs)) (pp:Nat->Value) (nw:Nat->List Value):Prop:=∀ a,a<3->(ts a=none->pp a=.pointer none)/\∀ C rs,ts a=some (C,rs)->(C.kd=1\/C.kd=2\/C.kd=3)/\∃ (wh:Int) (k:Nat),k<8/\C.k=k/\nw a=[iV wh,iV C.kd,iV k,iV 0,.int .u64 0,iV 0,iV 0,iV C.b,iV 0]
def Hd (W:Nat->Nat) (w0 w:World) (L:Loc) (E Wb Nb Tb b c N:Nat) (who:Int) (σ0 M:Nat):Prop:=∃ σ bg ts lb pp nw nx D,Y2 w0 w L E Wb Nb Tb b c who σ0 σ bg ts lb pp nw nx D D/\D.length=N/\σ<=M/\bg<=KY W nx/\(∀ a,a<3->nx a<=30)/\J6 ts pp nw
end
def z9:List Value:=[iV 0,iV 0,iV 0,iV 0,.int .u64 0,iV 0,iV 0,iV 0,iV 0]
theorem n27 (a:Nat) (ha:a<3) (j:Nat) (hj:j<9) (u:Value) (hu:z9[j]?=some u):(#[iV 0,iV 0,iV 0,iV 0,.int .u64 0,iV 0,iV 0,iV 0,iV 0,iV 0,iV 0,iV 0,iV 0,.int .u64 0,iV 0,iV 0,iV 0,iV 0,iV 0,iV 0,iV 0,iV 0,.int .u64 0,iV 0,iV 0,iV 0,iV 0]:Array Value)[a * 9+j]?=some u:=by
 have h:∀ (a:Nat) (_:a<3) (j:Nat) (_:j<9),(#[iV 0,iV 0,iV 0,iV 0,.int .u64 0,iV 0,iV 0,iV 0,iV 0,iV 0,iV 0,iV 0,iV 0,.int .u64 0,iV 0,iV 0,iV 0,iV 0,iV 0,iV 0,iV 0,iV 0,.int .u64 0,iV 0,iV 0,iV 0,iV 0]:Array Value)[a * 9+j]?=z9[j]?:=fun a ha j hj=>by
  have ea:a=0\/a=1\/a=2:=by omega
  have ej:j=0\/j=1\/j=2\/j=3\/j=4\/j=5\/j=6\/j=7\/j=8:=by omega
  rcases ea with rfl | rfl | rfl <;> rcases ej with rfl | rfl | rfl | rfl | rfl | rfl | rfl | rfl | rfl <;> rfl
 rw[h a ha j hj];exact hu
theorem qO {b:Nat} (l:List Value):∀ (w:World) (off:Nat),(w.setCells b off l).heap.size=w.heap.size:=by
 induction l with
 | nil=>intro w off;rfl
 | cons x t ih=>intro w off;have:=ih (w.setCell ⟨b,off,none⟩ x) (off+1);rw[Go.Deep.nblk_setCell] at this;simpa [World.setCells] using this
def Qp:Obj:=.cells #[iV 0,iV 0,iV 0,iV 0,.int .u64 0,iV 0,iV 0,iV 0,iV 0,iV 0,iV 0,iV 0,iV 0,.int .u64 0,iV 0,iV 0,iV 0,iV 0,iV 0,iV 0,iV 0,iV 0,.int .u64 0,iV 0,iV 0,iV 0,iV 0] 46
def Ou:Array Value:=#[iV 0,iV 0,iV 0,iV 0,.int .u64 0,iV 0,iV 0,iV 0,iV 0,iV 0,iV 0,iV 0,iV 0,.int .u64 0,iV 0,iV 0,iV 0,iV 0,iV 0,iV 0,iV 0,iV 0,.int .u64 0,iV 0,iV 0,iV 0,iV 0]
def DX (w:World):World:=((w.alloc (.cells #[.pointer none,.pointer none,.pointer none] 43)).alloc Qp).setCells (w.heap.size+1) 0 Ou.toList
theorem DY (w:World):((w.alloc (.cells #[.pointer none,.pointer none,.pointer none] 43)).alloc Qp).there (w.heap.size+1) 0 Ou.size:=fun j hj=>by
 have k:((w.alloc (.cells #[.pointer none,.pointer none,.pointer none] 43)).alloc Qp).heap[w.heap.size+1]?=some Qp:=by
  have:=Go.Deep.blk_alloc_new (w.alloc (.cells #[.pointer none,.pointer none,.pointer none] 43)) Qp
  rwa [Go.Deep.nblk_alloc] at this
 refine⟨?_,Y0 k _⟩
 rw[ZX k (Array.getElem?_eq_getElem (show 0+j<Ou.size by omega))]
 rfl
theorem lD (a:Nat) (ha:a<3) (j:Nat) (hj:j<9) (u:Value) (hu:z9[j]?=some u):Ou.toList[a * 9+j]?=some u:=by
 have:=n27 a ha j hj u hu
 rw[<- Array.getElem?_toList] at this
 exact this
theorem DW {w0 w3:World} {L:Loc} {E σ:Nat} {s:Mm} {F:List Nat} (W:Nat->Nat) (R:Rest 4 40 L 0 97 1 w3 s σ (qH 4 40 12 40 F) (fun _=>0) (DZ 4 40 12 40) (fun _=>.nil) 0 [0] wW (fun _=>none)) (v:VQ w3 E L 0) (bw:Below w0.heap.size w0 w3) (hl:∀ x,L.has x->w0.heap.size<=x/\x<E) (h1:w0.heap.size<=E) (hs:σ<=600) :
 (DX w3).heap.size=w3.heap.size+2/\Hd W w0 (((DX w3).alloc (.cells #[] 45)).alloc (.cells #[iV 0,iV 0,iV 0] 47)) L E w3.heap.size (w3.heap.size+1) (w3.heap.size+3) (w3.heap.size+2) 0 0 0 σ 600:=by
 have jG:=X8 v
 obtain⟨wa,ha⟩:∃ wa,w3.alloc (.cells #[.pointer none,.pointer none,.pointer none] 43)=wa:=⟨_,rfl⟩
 have sa:wa.heap.size=w3.heap.size+1:=by rw[<- ha];exact Go.Deep.nblk_alloc _ _
 have ga:Below w3.heap.size w3 wa:=by rw[<- ha];exact ZY _ _
 have ra:wa.rowIs w3.heap.size 43 3 (fun _=>.pointer none):=by
  rw[<- ha]
  exact World.rowIs_alloc w3 #[.pointer none,.pointer none,.pointer none] 43 (fun _=>.pointer none) (fun i hi=>by
   have hi:i<3:=hi
   have e:i=0\/i=1\/i=2:=by omega
   rcases e with rfl | rfl | rfl <;> rfl)
 obtain⟨wb,hb⟩:∃ wb,DX w3=wb:=⟨_,rfl⟩
 have hb':(wa.alloc Qp).setCells (w3.heap.size+1) 0 Ou.toList=wb:=by rw[<- hb,<- ha];rfl
 have o5:Only (fun k=>k=w3.heap.size+1) (wa.alloc Qp) wb:=by rw[<- hb'];exact WB _ _ _ _ (Only.refl _ _)
 have x1:(wa.alloc Qp).heap[w3.heap.size+1]?=some Qp:=by rw[<- sa];exact Go.Deep.blk_alloc_new _ _
 have sb0:(wa.alloc Qp).heap.size=w3.heap.size+2:=by rw[Go.Deep.nblk_alloc,sa]
 have sb:wb.heap.size=w3.heap.size+2:=by rw[<- hb',qO,sb0]
 have gb:Below wa.heap.size wa wb:=WZ (ZY _ _) o5 (fun k h=>by omega)
 have nb:Wy wb (w3.heap.size+1) (fun _=>z9):=by
  obtain⟨c5,y1,y2,-,y4⟩:=VV Ou.toList (wa.alloc Qp) 0 Ou x1
  rw[hb'] at y1
  refine⟨⟨c5,y1,y2,fun a ha j u hu=>?_⟩,fun _ _=>rfl⟩
  have hu:z9[j]?=some u:=hu
  have hj:j<9:=(List.getElem?_eq_some_iff.1 hu).1
  have:=y4 (a * 9+j) u (lD a ha j hj u hu) (by show 0+(a * 9+j)<27;omega)
  rwa [Nat.zero_add] at this
 rw[hb]
 obtain⟨wc,hc⟩:∃ wc,wb.alloc (.cells #[] 45)=wc:=⟨_,rfl⟩
 have sc:wc.heap.size=w3.heap.size+3:=by rw[<- hc,Go.Deep.nblk_alloc,sb]
 have gc:Below wb.heap.size wb wc:=by rw[<- hc];exact ZY _ _
 have rc:Rz wc 45 9 (w3.heap.size+2) 0 []:=by
  have:=Rz.fresh wb 45 9
  rw[hc,sb] at this;exact this
 rw[hc]
 obtain⟨wd,hd⟩:∃ wd,wc.alloc (.cells #[iV 0,iV 0,iV 0] 47)=wd:=⟨_,rfl⟩
 have gd:Below wc.heap.size wc wd:=by rw[<- hd];exact ZY _ _
 have rd:wd.rowIs (w3.heap.size+3) 47 3 (fun _=>iV ((0:Nat):Int)):=by
  have:=World.rowIs_alloc wc #[iV 0,iV 0,iV 0] 47 (fun _=>iV ((0:Nat):Int)) (fun i hi=>by
   have hi:i<3:=hi
   have e:i=0\/i=1\/i=2:=by omega
   rcases e with rfl | rfl | rfl <;> rfl)
  rw[hd,sc] at this;exact this
 rw[hd]
 have g3:Below w3.heap.size w3 wd:=grow (grow (grow ga gb) gc) gd
 have jr:Below wb.heap.size wb wd:=grow gc gd
 exact⟨sb,σ,0,_,fun _=>0,_,_,_,[],Y2.start (nw:=fun _=>z9) ⟨R.mm.below g3,R.vl,R.lc,R.nn,R.room,R.hJ,R.pn,R.td⟩ (v.grown g3) (grow bw g3) (ra.of_block ((grow gb jr).block _ ra.lt)) (nb.of_block (jr.block _ nb.lt)) rd (rc.grown gd) hl h1 (by omega) ⟨by omega,by omega⟩ ⟨by omega,by omega,by omega⟩ ⟨by omega,by omega,by omega,by omega⟩,rfl,hs,Nat.zero_le _,fun _ _=>Nat.zero_le _,fun a _=>⟨fun _=>rfl,fun C rs e=>by cases e⟩⟩
theorem J6.go {ts ts':Nat->Option (Cl × Option Rs)} {pp:Nat->Value} {nw:Nat->List Value} {K:Nat} {C C':Cl} {rs r':Option Rs} (A:J6 ts pp nw) (hK:K<3) (hn:∀ a,a≠K->ts' a=ts a) (h:ts K=some (C,rs)) (h':ts' K=some (C',r')) (h1:C'.kd=C.kd) (h2:C'.k=C.k) (h3:C'.b=C.b):J6 ts' pp nw:=fun a ha=>by
 by_cases e:a=K
 . subst e
   refine⟨fun x=>by(rw[h'] at x;cases x),fun C2 r2 x=>?_⟩
   rw[h'] at x;cases x
   have:=(A a ha).2 C rs h
   rwa [h1,h2,h3]
 . have:=A a ha
   rwa [hn a e]
theorem J6.done {ts ts':Nat->Option (Cl × Option Rs)} {pp:Nat->Value} {nw:Nat->List Value} {K:Nat} (A:J6 ts pp nw) (hn:∀ a,a≠K->ts' a=ts a) (h':ts' K=none):J6 ts' (upd pp K (.pointer none)) nw:=fun a ha=>by
 by_cases e:a=K
 . subst e
   refine⟨fun _=>upd_same _ _ _,fun C2 r2 x=>by(rw[h'] at x;cases x)⟩
 . have:=A a ha
   rwa [hn a e,Z9 _ _ _ _ e]
theorem J6.begin {ts:Nat->Option (Cl × Option Rs)} {pp:Nat->Value} {nw:Nat->List Value} {K σ:Nat} {kd wh:Int} {k:Nat} {p:Value} (A:J6 ts pp nw) (hkd:kd=1\/kd=2\/kd=3) (hk:k<8):J6 (upd ts K (some (⟨kd,k,σ,none,.first⟩,none))) (upd pp K p) (upd nw K [iV wh,iV kd,iV k,iV 0,.int .u64 0,iV 0,iV 0,iV σ,iV 0]):=fun a ha=>by
 by_cases e:a=K
 . subst e
   refine⟨fun x=>by(rw[upd_same] at x;cases x),fun C2 r2 x=>?_⟩
   rw[upd_same] at x;cases x
   exact⟨hkd,wh,k,hk,rfl,upd_same _ _ _⟩
 . have:=A a ha
   rwa [Z9 _ _ _ _ e,Z9 _ _ _ _ e,Z9 _ _ _ _ e]
def lV (X:Nat) (l0 l1 l2:List Value):Nat->World->Prop
 | 0,W=>∃ c,At W X 0 45 c l0
 | 1,W=>∃ c,At W X 0 45 c l1
 | _,W=>∃ c,At W X 0 45 c l2
theorem F6 (X:Nat) (l0 l1 l2:List Value) (x y:World) (p:Nat) (g:Grown x y) (h:lV X l0 l1 l2 p x):lV X l0 l1 l2 p y:=by
 match p,h with
 | 0,⟨c,h⟩=>exact⟨c,h.grown g⟩
 | 1,⟨c,h⟩=>exact⟨c,h.grown g⟩
 | _+2,⟨c,h⟩=>exact⟨c,h.grown g⟩
theorem ry {w:World} {X:Nat} {T:TypeId} {c:Array Value} {a0 a1 a2 a3 a4 a5 a6 a7 a8:Value} (h:At w X 0 T c [a0,a1,a2,a3,a4,a5,a6,a7,a8]) (v0 v1 v2 v3:Value):∃ c',At ((((w.setCell ⟨X,3,none⟩ v0).setCell ⟨X,4,none⟩ v1).setCell ⟨X,5,none⟩ v2).setCell ⟨X,6,none⟩ v3) X 0 T c' [a0,a1,a2,v0,v1,v2,v3,a7,a8] :=
 ⟨_,(((h.ZQ 3 v0).ZQ 4 v1).ZQ 5 v2).ZQ 6 v3⟩
theorem J4 {w:World} {X:Nat} (v0 v1 v2 v3:Value):Only (fun y=>y=X) w ((((w.setCell ⟨X,3,none⟩ v0).setCell ⟨X,4,none⟩ v1).setCell ⟨X,5,none⟩ v2).setCell ⟨X,6,none⟩ v3) :=
 ((((Only.refl (fun y=>y=X) w).setCell (a:=⟨X,3,none⟩) (fun _=>rfl) v0).setCell (a:=⟨X,4,none⟩) (fun _=>rfl) v1).setCell (a:=⟨X,5,none⟩) (fun _=>rfl) v2).setCell (a:=⟨X,6,none⟩) (fun _=>rfl) v3
end
end Go.Proofs.YtpbghmeikcphnaaGreat
