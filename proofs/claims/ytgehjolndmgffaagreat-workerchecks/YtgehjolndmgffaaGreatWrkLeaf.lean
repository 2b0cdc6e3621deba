import Derived.Test.YtgehjolndmgffaaGreatAccAt
import Derived.Test.YtgehjolndmgffaaGreatAccGo
import Derived.Test.YtgehjolndmgffaaGreatActStep
import Derived.Test.YtgehjolndmgffaaGreatShfLeaf
import Derived.Defers
import Derived.Recover
namespace Go.Proofs.YtgehjolndmgffaaGreat
open Go.RowKit
section
structure Wt where
 kd:Int
 nu:Int
 ix:Int
 vl:Int
 ol:Int
def MX (c:Int):Int:=c % 1099511627776
def Bj (c:Int):Bool:=decide (9223372036854775808<=c)
def MM (c:Int):Int:=if 9223372036854775808<=c then c / 1099511627776 % 4194304 else 0
def Wt.other (W:Wt) (c:Int):Bool:=decide (W.kd=3) && decide (MX c≠W.ol)
def Wt.reads (W:Wt) (c:Int):Bool:=decide (W.kd=1) || W.other c
inductive Ac where
 | see
 | ask (v:Int) (at_:Nat)
 | load (v:Int) (Z:Nat)
 | check (v c:Int) (ld:Nat)
 | stop (v:Int)
 | lay (v c:Int)
 | over (E val:Int) (st:Nat)
def Ac.ZB:Ac->Bool
 | .over _ _ _=>true
 | _=>false
def Ac.nx:Ac->Int
 | .see=>0
 | .ask _ _=>1
 | .load _ _=>2
 | .check _ _ _=>3
 | .stop _=>5
 | .lay _ _=>6
 | .over _ _ _=>7
theorem Ac.U1 (α:Ac):(α.nx == 7)=α.ZB:=by cases α <;> rfl
def Wt.at (W:Wt) (v:Int):Nat:=ZN v+1+W.ix.toNat
def Gg (v:Int):Int:=Zq 1 (ZN v) (ZE v) (Zz v+1)
def Wt.w (W:Wt):Int:=XU W.vl false 0
def SE (W:Wt) (own:Bool) (σ:Nat) (v u:Int) (at_:Nat):Ac :=
 if Yi u == own then (if 0<=W.ix/\W.ix<Ws u then .load v (Ws u) else .over 4 0 at_) else .over 3 0 (σ+1)
def Uj (W:Wt) (σ:Nat) (v c:Int):Ac :=
 if W.reads c then .check v c (σ+1)
 else if Bj c && decide (MM c=(Zz v:Int)) && decide (v % 8=2) then .stop v
 else if Bj c && decide ((Zz v:Int)<=MM c) then .see
 else .lay v c
def U0 (W:Wt) (G σ:Nat) (v c s:Int) (ld:Nat):Ac :=
 if Y5 (s % 8) && decide (ZE s=G) then
  (if ZN s=ZN v then (if W.other c then .over 8 (MX c) ld else .over 0 (MX c) ld) else .see)
 else .over 3 0 (σ+1)
def Y7 (W:Wt) (own:Bool) (x G σ:Nat) (q:Q):Ac->Q × Ac
 | .see=>(q,if Y5 (q.sw x % 8) && decide (ZE (q.sw x)=G) then .ask (q.sw x) (σ+1) else .over 3 0 (σ+1))
 | .ask v at_=>(q,SE W own σ v (q.dw (ZN v)) at_)
 | .load v _=>(q,Uj W σ v (q.dw (W.at v)))
 | .check v c ld=>(q,U0 W G σ v c (q.sw x) ld)
 | .stop v=>(if q.sw x=v then { q with sw:=upd q.sw x (Gg v) } else q,.see)
 | .lay v c=>if q.dw (W.at v)=c then ({ q with dw:=upd q.dw (W.at v) W.w },.over 0 (MX c) (σ+1)) else (q,.see)
 | .over E val st=>(q,.over E val st)
def Ac.good (t n k m:Nat) (W:Wt) (x G:Nat) (q:Q):Ac->Prop
 | .see=>Y5 (q.sw x % 8)=true->ZE (q.sw x)=G->PW t n k m q (q.sw x)
 | .ask v _=>PW t n k m q v
 | .load v Z=>(∃ i,Xe t n k m v Z i)/\0<=W.ix/\W.ix<Z/\(v % 8≠4\/W.reads (q.dw (W.at v))=true)
 | .check v c _=>Wd v/\Wd c
 | .stop v=>Wd v
 | .lay v c=>(∃ Z i,Xe t n k m v Z i/\W.ix<Z)/\0<=W.ix/\Wd c
 | .over _ _ _=>True
def Ac.at (t x:Nat) (W:Wt):Ac->Nat
 | .see=>6+t+x * 2
 | .ask v _=>ZN v
 | .load v _=>W.at v
 | .check _ _ _=>6+t+x * 2
 | .stop _=>6+t+x * 2
 | .lay v _=>W.at v
 | .over _ _ _=>0
def Ac.reads:Ac->Bool
 | .see=>true
 | .ask _ _=>true
 | .load _ _=>true
 | .check _ _ _=>true
 | _=>false
theorem Wt.uJ (W:Wt):Wd W.w:=OA _ _ _
theorem OB (v:Int):Wd (Gg v):=W9 _ _ _ _
theorem Jo {W:Wt} {own:Bool} {x G σ:Nat} {q:Q} {α:Ac} {q':Q} {α':Ac} (h:∀ a,Wd (q.dw a)) (ht:Y7 W own x G σ q α=(q',α')):∀ a,Wd (q'.dw a):=by
 cases α with
 | see=>obtain⟨rfl,-⟩:=Prod.mk.inj ht;exact h
 | ask v at_=>obtain⟨rfl,-⟩:=Prod.mk.inj ht;exact h
 | load v Z=>obtain⟨rfl,-⟩:=Prod.mk.inj ht;exact h
 | check v c ld=>obtain⟨rfl,-⟩:=Prod.mk.inj ht;exact h
 | stop v =>
  obtain⟨rfl,-⟩:=Prod.mk.inj ht
  split <;> exact h
 | lay v c =>
  simp only[Y7] at ht
  split at ht
  . obtain⟨rfl,-⟩:=Prod.mk.inj ht
    intro a
    show Wd (upd q.dw _ _ a)
    unfold upd
    split
    . exact W.uJ
    . exact h a
  . obtain⟨rfl,-⟩:=Prod.mk.inj ht;exact h
 | over=>obtain⟨rfl,-⟩:=Prod.mk.inj ht;exact h
inductive UY (t n k m:Nat) (W:Wt) (own:Bool) (x G:Nat) (b:Bool):Nat->Nat->Q->Ac->Q->Ac->Prop where
 | one {σ:Nat} {q:Q} {α:Ac} {q':Q} {α':Ac} (hb:b=true->α.reads=true) (ho:α.ZB=false) (hg:α.good t n k m W x G q) (ht:Y7 W own x G σ q α=(q',α')) (h:α'.ZB=true):UY t n k m W own x G b 1 σ q α q' α'
 | more {N σ:Nat} {q:Q} {α:Ac} {q1:Q} {α1:Ac} {q':Q} {α':Ac} (hb:b=true->α.reads=true) (ho:α.ZB=false) (hg:α.good t n k m W x G q) (ht:Y7 W own x G σ q α=(q1,α1)) (h:α1.ZB=false) (g:UY t n k m W own x G b N (σ+1) q1 α1 q' α'):UY t n k m W own x G b (N+1) σ q α q' α'
structure PV (t n k m:Nat) (x G Z i:Nat) (v:Int) (own:Bool) (q:Q):Prop where
 sw:q.sw x=v
 o:Xe t n k m v Z i
 st:v % 8≠4
 gn:ZE v=G
 sz:Ws (q.dw (ZN v))=Z
 ow:Yi (q.dw (ZN v))=own
 wd:∀ a,Wd (q.dw a)
 xn:x<n
section
variable {t n k m x G Z i σ:Nat} {v:Int} {own:Bool} {q:Q} {W:Wt}
theorem PV.UX (S:PV t n k m x G Z i v own q):Ac.good t n k m W x G q .see:=fun _ _=>⟨i,by rw[S.sw,S.sz];exact S.o⟩
theorem PV.UW (S:PV t n k m x G Z i v own q) (at_:Nat):Ac.good t n k m W x G q (.ask v at_):=⟨i,by rw[S.sz];exact S.o⟩
theorem PV.SB (S:PV t n k m x G Z i v own q):Y7 W own x G σ q .see=(q,.ask v (σ+1)):=by
 simp only[Y7,S.sw,S.o.life,S.gn,decide_true,Bool.and_self,if_true]
theorem PV.Oz (S:PV t n k m x G Z i v own q) (h0:0<=W.ix) (h1:W.ix<Z) (at_:Nat):Y7 W own x G σ q (.ask v at_)=(q,.load v Z):=by
 simp only[Y7,SE,S.ow,S.sz,beq_self_eq_true,if_true,h0,h1,and_self]
theorem PV.ML (S:PV t n k m x G Z i v own q) (c:Int) (ld:Nat):Y7 W own x G σ q (.check v c ld)=(q,.over (if W.other c then 8 else 0) (MX c) ld):=by
 simp only[Y7,U0,S.sw,S.o.life,S.gn,decide_true,Bool.and_self,if_true]
 split <;> rfl
theorem PV.reads (S:PV t n k m x G Z i v own q) (h0:0<=W.ix) (h1:W.ix<Z) {c:Int} (hc:q.dw (W.at v)=c) (hr:W.reads c=true):UY t n k m W own x G true 4 σ q .see q (.over (if W.other c then 8 else 0) (MX c) (σ+3)):=by
 refine .more (fun _=>rfl) rfl S.UX S.SB rfl (.more (fun _=>rfl) rfl (S.UW _) (S.Oz h0 h1 _) rfl (.more (q1:=q) (α1:=.check v c (σ+1+1+1)) (fun _=>rfl) rfl ⟨⟨i,S.o⟩,h0,h1,Or.inl S.st⟩ ?_ rfl (.one (fun _=>rfl) rfl ⟨S.o.wd,by rw[<- hc];exact S.wd _⟩ (S.ML c _) rfl)))
 simp only[Y7,Uj,hc,hr,if_true]
theorem PV.lays (S:PV t n k m x G Z i v own q) (h0:0<=W.ix) (h1:W.ix<Z) {c:Int} (hc:q.dw (W.at v)=c) (hr:W.reads c=false) (hf:(Bj c && decide ((Zz v:Int)<=MM c))=false):UY t n k m W own x G false 4 σ q .see { q with dw:=upd q.dw (W.at v) W.w } (.over 0 (MX c) (σ+4)):=by
 refine .more (by simp) rfl S.UX S.SB rfl (.more (by simp) rfl (S.UW _) (S.Oz h0 h1 _) rfl (.more (q1:=q) (α1:=.lay v c) (by simp) rfl ⟨⟨i,S.o⟩,h0,h1,Or.inl S.st⟩ ?_ rfl (.one (by simp) rfl ⟨⟨Z,i,S.o,h1⟩,h0,by rw[<- hc];exact S.wd _⟩ ?_ rfl)))
 . have h2:(Bj c && decide (MM c=(Zz v:Int)) && decide (v % 8=2))=false:=by
    cases hb:Bj c with
    | false=>rfl
    | true =>
     rw[hb,Bool.true_and] at hf
     have:=of_decide_eq_false hf
     rw[Bool.true_and,decide_eq_false (by omega),Bool.false_and]
   simp only[Y7,Uj,hc,hr,hf,h2,Bool.false_eq_true,if_false]
 . simp only[Y7,hc,if_true]
theorem PV.index (S:PV t n k m x G Z i v own q) (h:¬ (0<=W.ix/\W.ix<Z)):UY t n k m W own x G true 2 σ q .see q (.over 4 0 (σ+1)):=by
 refine .more (fun _=>rfl) rfl S.UX S.SB rfl (.one (fun _=>rfl) rfl (S.UW _) ?_ rfl)
 simp only[Y7,SE,S.ow,S.sz,beq_self_eq_true,if_true,h,if_false]
theorem MK {q:Q} (h:(Y5 (q.sw x % 8) && decide (ZE (q.sw x)=G))=false):UY t n k m W own x G true 1 σ q .see q (.over 3 0 (σ+1)):=by
 refine .one (fun _=>rfl) rfl (fun h1 h2=>?_) ?_ rfl
 . rw[h1,h2] at h
   simp at h
 . simp only[Y7,h]
   rfl
theorem PV.DX {ow:Bool} (S:PV t n k m x G Z i v ow q) (ho:ow≠own):UY t n k m W own x G true 2 σ q .see q (.over 3 0 (σ+2)):=by
 refine .more (q1:=q) (α1:=.ask v (σ+1)) (fun _=>rfl) rfl S.UX ?_ rfl (.one (fun _=>rfl) rfl (S.UW _) ?_ rfl)
 . simp only[Y7,S.sw,S.o.life,S.gn,decide_true,Bool.and_self,if_true]
 . have:(ow == own)=false:=by simpa using ho
   simp only[Y7,SE,S.ow,this]
   rfl
end
theorem Zn.ql {t n k m nx:Nat} {q:Q} {gen:Nat->Nat} {ls:List Ox} {cg:Int} (C:Zn t n k m q nx gen ls) (hG:Good t n k m cg 600 3) (hn:n<=65535) {o:Ox} (ho:o∈ls):PV t n k m o.x o.g o.Z o.i (q.sw o.x) o.own q:=by
 have I:=C.is hG hn ho
 exact⟨rfl,I.obj,by rw[I.st];decide,I.gn,I.sz,I.ow,C.wb,(C.ok o ho).x1⟩
theorem Jn {z:Int} (h0:0<=z) (h1:z<=1099511627775):XU z false 0=z:=by
 unfold XU
 rw[if_neg (by decide),Ze z 40 h0 (by simp;omega)]
theorem DW {z:Int} (h0:0<=z) (h1:z<=1099511627775):MX z=z:=by
 unfold MX;omega
theorem DU {z:Int} (h1:z<=1099511627775):Bj z=false:=decide_eq_false (by omega)
end
section
structure Wt.ok (W:Wt):Prop where
 k:W.kd=1\/W.kd=2\/W.kd=3
 v:Fit W.vl
def Ac.sec:Ac->CV->Prop
 | .see,_=>True
 | .ask v t,a=>a.se=v/\a.at_=t
 | .load v Z,a=>a.se=v/\a.sz=Z
 | .check v c ld,a=>a.se=v/\a.ce=c/\a.ld=ld
 | .stop v,a=>a.se=v
 | .lay v c,a=>a.se=v/\a.ce=c
 | .over E val st,a=>a.E=E/\a.H=0/\a.V=val/\a.St=st
structure Gi (W:Wt) (own:Bool) (α:Ac) (a:CV):Prop where
 nx:a.nx=α.nx
 kd:a.kd=W.kd
 nu:a.nu=W.nu
 ix:a.ix=W.ix
 vl:a.vl=W.vl
 ol:a.ol=W.ol
 ow:a.own=own
 sec:α.sec a
theorem Ah (W:Wt) (own:Bool):Gi W own .see (uO W.kd W.nu W.ix W.vl W.ol own):=⟨rfl,rfl,rfl,rfl,rfl,rfl,rfl,trivial⟩
structure xZ (w:World) (L:Loc) (s:Mm) (b o:Nat) (T:TypeId) (cs:Array Value) (t n k m σ:Nat) (W:Wt) (own:Bool) (x:Nat) (who:Int) (α:Ac) (q':Q) (α':Ac) (w':World) (s':Mm) (cs':Array Value) (a':CV):Prop where
 mm:Z8 w' L s'
 tw:Y9 t n k m s' (σ+1) q'
 ac:ZG w' b o T cs' a'
 is:Gi W own α' a'
 same:Same o 24 cs cs'
 only:Only (L.and b) w w'
 st:∃ v,s'=(s.by who).step (α.at t x W) v
 rd:α.reads=true->s'=(s.by who).step (α.at t x W) (s.wd (α.at t x W))
theorem MN (u:Int) (h:Wd u):CellIs u (MX u) (Bj u) (MM u):=⟨h.1,h.2,rfl,rfl,rfl⟩
section
variable {w:World} {L:Loc} {s:Mm} {b o:Nat} {T:TypeId} {cs:Array Value} {a:CV} {t n k m σ:Nat} {g p r:Int} {q:Q} {W:Wt} {own:Bool}
set_option maxHeartbeats 1000000 in
theorem OC (h:Z8 w L s) (hb:¬ L.has b) (hT:Y9 t n k m s σ q) (hG:Good t n k m g p r) (hσ:σ<1000000) (hdw:∀ a,Wd (q.dw a)) {x G:Nat} (hh:YY W.nu x G) (hx:x<n) (hW:W.ok) (α:Ac) (hi:ZG w b o T cs a) (his:Gi W own α a) (hg:α.good t n k m W x G q) (ho:α.ZB=false) (who:Int) (q':Q) (α':Ac) (hq:Y7 W own x G σ q α=(q',α')) (d:Bool) (hd:α'.ZB=d) :
 Calls Tryz.prog 205 #[pP b o,eV t n k m g p r L.p who] w fun e w'=>e=.returned (.bool d)/\∃ s' cs' a',xZ w L s b o T cs t n k m σ W own x who α q' α' w' s' cs' a':=by
 have hlen:ZI t n k m<=s.n:=by rw[hT.len];exact Nat.le_refl _
 have hlen':=hT.len
 have hxs:6+t+x * 2<s.n:=by omega
 have hst:wrap64 (s.steps+1)=((σ+1:Nat):Int):=by rw[hT.pile.st];exact hT.pile.Xk hσ
 obtain⟨Yx,QR,Wu,TN,QN,QB,Ya,SH⟩:=his
 rw[<- Wu] at hh
 have hk:a.kd=1\/a.kd=2\/a.kd=3:=by rw[QR];exact hW.k
 have hdn:=Ac.U1 α'
 rw[hd] at hdn
 have hoth:∀ c,a.QP (MX c)=W.other c:=fun c=>by unfold CV.QP Wt.other;rw[QR,QB]
 have uK:∀ c,(decide (a.kd=1) || a.QP (MX c))=W.reads c:=fun c=>by rw[hoth,QR];rfl
 cases α with
 | over=>cases ho
 | see =>
  obtain⟨v,hv⟩:∃ v,q.sw x=v:=⟨_,rfl⟩
  have hwv:s.wd (6+t+x * 2)=v:=by rw[hT.QA x hx];exact hv
  have wv:Wd v:=by rw[<- hv];exact hT.Gz x hx
  have sl:=Xx v wv
  simp only[Y7,hv] at hq
  simp only[Ac.good,hv] at hg
  by_cases hl:(Y5 (v % 8) && decide (ZE v=G))=true
  . rw[if_pos hl] at hq
    obtain⟨rfl,rfl⟩:=Prod.mk.inj hq
    rw[Bool.and_eq_true] at hl
    obtain⟨i,O⟩:=hg hl.1 (of_decide_eq_true hl.2)
    have hl':(Y5 (v % 8) && ((ZE v:Int) == (G:Int)))=true:=by
     rw[hl.1,of_decide_eq_true hl.2];simp
    refine(Y2 h hi who hk hG hlen hh hx (by rw[Yx];decide) _ d ?_ (fun w1 m1 i1=>Y3 m1 i1 who x G Yx (Or.inl ⟨rfl,rfl,rfl⟩) _ (fun w1 m1 i1=>OG m1 hb i1 who hG hx hxs hwv sl hl' hst (ci:=Zd t n k m (ZN v)) (Or.inl ⟨rfl,rfl,(by rw[O.c1];omega),rfl⟩)))).mono ?_
    . rintro s' a' ⟨_,rfl⟩
      rw[<- hdn];rfl
    . rintro e w' ⟨rfl,s',cs',a',m',o',i',sm,rfl,rfl⟩
      exact⟨rfl,_,cs',_,m',hT.same hσ who _,i',⟨rfl,QR,Wu,TN,QN,QB,Ya,⟨rfl,rfl⟩⟩,sm,o',⟨_,rfl⟩,fun _=>rfl⟩
  . rw[if_neg hl] at hq
    obtain⟨rfl,rfl⟩:=Prod.mk.inj hq
    have hl':(Y5 (v % 8) && ((ZE v:Int) == (G:Int)))=false:=by
     rw[Bool.not_eq_true] at hl
     rw[<- hl]
     congr 1
     rw[Bool.eq_iff_iff]
     simp only[beq_iff_eq,decide_eq_true_eq]
     omega
    refine(Y2 h hi who hk hG hlen hh hx (by rw[Yx];decide) _ d ?_ (fun w1 m1 i1=>Y3 m1 i1 who x G Yx (Or.inl ⟨rfl,rfl,rfl⟩) _ (fun w1 m1 i1=>OG m1 hb i1 who hG hx hxs hwv sl hl' hst (ci:=0) (Or.inr ⟨rfl,rfl⟩)))).mono ?_
    . rintro s' a' ⟨_,rfl⟩
      rw[<- hdn];rfl
    . rintro e w' ⟨rfl,s',cs',a',m',o',i',sm,rfl,rfl⟩
      exact⟨rfl,_,cs',_,m',hT.same hσ who _,i',⟨rfl,QR,Wu,TN,QN,QB,Ya,⟨rfl,rfl,rfl,rfl⟩⟩,sm,o',⟨_,rfl⟩,fun _=>rfl⟩
 | ask v t0 =>
  obtain⟨i,O⟩:=hg
  obtain⟨rfl,qm⟩:=SH
  have sl:=Xx a.se O.wd
  have hin:=O.Ef
  have SG:s.wd (ZN a.se)=q.dw (ZN a.se):=hT.Jp _ hin.1
  have hd1:=Gh _ (hdw (ZN a.se))
  have hq':(q,SE W own σ a.se (q.dw (ZN a.se)) t0)=(q',α'):=hq
  obtain⟨rfl,hα⟩:=Prod.mk.inj hq'
  have hnA:ZN a.se<s.n:=by omega
  by_cases hw:(Yi (q.dw (ZN a.se)) == own)=true
  . have hwo:(Yi (q.dw (ZN a.se)) == a.own)=true:=by rw[Ya];exact hw
    simp only[SE,hw,if_true] at hα
    by_cases hix:0<=W.ix/\W.ix<Ws (q.dw (ZN a.se))
    . rw[if_pos hix] at hα
      subst hα
      have hm:=PY a.se
      refine(Y2 h hi who hk hG hlen hh hx (by rw[Yx];show ¬ (1:Int)=7;decide) _ d ?_ (fun w1 m1 i1=>Y3 m1 i1 who x G Yx (Or.inr (Or.inl ⟨rfl,rfl,rfl⟩)) _ (fun w1 m1 i1=>SI m1 hb i1 who sl hnA SG hd1 hwo (fun _ w2 c2 i2=>Gl (Z:=(Ws (q.dw (ZN a.se)):Int)) i2 _ rfl hG (by show 0<=a.ix;rw[TN];exact hix.1) (by show a.ix<_;rw[TN];exact hix.2) (by omega) (by omega) (by have:=O.z2;omega) O.c1 O.c2) hst (Or.inr (Or.inr ⟨rfl,rfl,rfl⟩))))).mono ?_
      . rintro s' a' ⟨_,rfl⟩
        rw[<- hdn];rfl
      . rintro e w' ⟨rfl,s',cs',a',m',o',i',sm,rfl,rfl⟩
        exact⟨rfl,_,cs',_,m',hT.same hσ who _,i',⟨rfl,QR,Wu,TN,QN,QB,Ya,⟨rfl,rfl⟩⟩,sm,o',⟨_,rfl⟩,fun _=>rfl⟩
    . rw[if_neg hix] at hα
      subst hα
      have key:∀ (w2:World) (c2:Array Value),ZG w2 b o T c2 { a with sz:=(Ws (q.dw (ZN a.se)):Int) }->Calls Tryz.prog 216 #[pP b o,.agg #[iV t,iV n,iV k,iV m,iV g,iV p,iV r],iV (ZN a.se)] w2 fun e w'=>e=.returned (.bool false)/\Below w2.heap.size w2 w':=fun w2 c2 i2=>by
       by_cases h0:W.ix<0
       . exact Gm i2 _ (by show a.ix<0;rw[TN];exact h0)
       . exact Jq (Z:=(Ws (q.dw (ZN a.se)):Int)) i2 _ rfl (by show 0<=a.ix;rw[TN];omega) (by show _<=a.ix;rw[TN];omega)
      refine(Y2 h hi who hk hG hlen hh hx (by rw[Yx];show ¬ (1:Int)=7;decide) _ d ?_ (fun w1 m1 i1=>Y3 m1 i1 who x G Yx (Or.inr (Or.inl ⟨rfl,rfl,rfl⟩)) _ (fun w1 m1 i1=>SI m1 hb i1 who sl hnA SG hd1 hwo (fun _=>key) hst (Or.inr (Or.inl ⟨rfl,rfl,rfl⟩))))).mono ?_
      . rintro s' a' ⟨_,rfl⟩
        rw[<- hdn];rfl
      . rintro e w' ⟨rfl,s',cs',a',m',o',i',sm,rfl,rfl⟩
        exact⟨rfl,_,cs',_,m',hT.same hσ who _,i',⟨rfl,QR,Wu,TN,QN,QB,Ya,⟨rfl,rfl,rfl,qm⟩⟩,sm,o',⟨_,rfl⟩,fun _=>rfl⟩
  . have hw':(Yi (q.dw (ZN a.se)) == own)=false:=by simpa using hw
    have hwo:(Yi (q.dw (ZN a.se)) == a.own)=false:=by rw[Ya];exact hw'
    simp only[SE,hw'] at hα
    subst hα
    refine(Y2 h hi who hk hG hlen hh hx (by rw[Yx];show ¬ (1:Int)=7;decide) _ d ?_ (fun w1 m1 i1=>Y3 m1 i1 who x G Yx (Or.inr (Or.inl ⟨rfl,rfl,rfl⟩)) _ (fun w1 m1 i1=>SI (hh0:=false) m1 hb i1 who sl hnA SG hd1 hwo (fun e=>by cases e) hst (Or.inl ⟨rfl,rfl⟩)))).mono ?_
    . rintro s' a' ⟨_,rfl⟩
      rw[<- hdn];rfl
    . rintro e w' ⟨rfl,s',cs',a',m',o',i',sm,rfl,rfl⟩
      exact⟨rfl,_,cs',_,m',hT.same hσ who _,i',⟨rfl,QR,Wu,TN,QN,QB,Ya,⟨rfl,rfl,rfl,rfl⟩⟩,sm,o',⟨_,rfl⟩,fun _=>rfl⟩
 | load v Z =>
  obtain⟨⟨i,O⟩,h0,h1,h4'⟩:=hg
  obtain⟨rfl,SC⟩:=SH
  have sl:=Xx a.se O.wd
  have hin:=O.Ef
  have z2:=O.z2
  have PX:a.ix=(W.ix.toNat:Int):=by rw[TN];omega
  have hjz:W.ix.toNat<Z:=by omega
  have DY:ZN a.se+1+W.ix.toNat<s.n:=by omega
  have SG:s.wd (ZN a.se+1+W.ix.toNat)=q.dw (W.at a.se):=hT.Jp _ (by omega)
  have hc:=MN _ (hdw (W.at a.se))
  have hq':(q,Uj W σ a.se (q.dw (W.at a.se)))=(q',α'):=hq
  obtain⟨rfl,hα⟩:=Prod.mk.inj hq'
  obtain⟨c,hcc⟩:∃ c,q.dw (W.at a.se)=c:=⟨_,rfl⟩
  have hrc:=uK c
  rw[hcc] at SG hc hα
  have fin:∀ {N:Int},α'.nx=N->Gi W own α' { a with ce:=c,ld:=((σ+1:Nat):Int),nx:=N }->(∀ w1:World,Z8 w1 L s->ZG w1 b o T cs a->Calls Tryz.prog 212 #[pP b o,eV t n k m g p r L.p who,.agg #[iV x,iV G]] w1 fun e w'=>e=.returned (.tuple #[])/\Vr L b o T cs w1 w' (fun s' a'=>s'=(s.by who).step (ZN a.se+1+W.ix.toNat) (s.wd (ZN a.se+1+W.ix.toNat))/\a'={ a with ce:=c,ld:=((σ+1:Nat):Int),nx:=N })) ->
   Calls Tryz.prog 205 #[pP b o,eV t n k m g p r L.p who] w fun e w'=>e=.returned (.bool d)/\∃ s' cs' a',xZ w L s b o T cs t n k m σ W own x who (.load a.se Z) q α' w' s' cs' a':=by
   intro N hN hIs hcall
   refine(Y2 h hi who hk hG hlen hh hx (by rw[Yx];show ¬ (2:Int)=7;decide) _ d ?_ (fun w1 m1 i1=>Y3 m1 i1 who x G Yx (Or.inr (Or.inr (Or.inl ⟨rfl,rfl,rfl⟩))) _ hcall)).mono ?_
   . rintro s' a' ⟨_,rfl⟩
     rw[<- hdn,hN]
   . rintro e w' ⟨rfl,s',cs',a',m',o',i',sm,rfl,rfl⟩
     exact⟨rfl,_,cs',_,m',hT.same hσ who _,i',hIs,sm,o',⟨_,rfl⟩,fun _=>rfl⟩
  cases hr:W.reads c with
  | true =>
   rw[hr] at hrc
   simp only[Uj,hr,if_true] at hα
   subst hα
   exact fin rfl ⟨rfl,QR,Wu,TN,QN,QB,Ya,⟨rfl,rfl,rfl⟩⟩ fun w1 m1 i1=>XD m1 hb i1 who sl PX (by omega) DY SG hc hst hrc (Or.inl ⟨rfl,rfl⟩)
  | false =>
   have h4:a.se % 8≠4:=h4'.resolve_right (by rw[hcc,hr];decide)
   rw[hr] at hrc
   simp only[Uj,hr,Bool.false_eq_true,if_false] at hα
   cases hf:Bj c with
   | false =>
    simp only[hf,Bool.false_and,Bool.false_eq_true,if_false] at hα
    subst hα
    exact fin rfl ⟨rfl,QR,Wu,TN,QN,QB,Ya,⟨rfl,rfl⟩⟩ fun w1 m1 i1=>XD m1 hb i1 who sl PX (by omega) DY SG hc hst hrc (Or.inr ⟨rfl,h4,Or.inl ⟨hf,rfl⟩⟩)
   | true =>
    simp only[hf,Bool.true_and] at hα
    by_cases hv:MM c=(Zz a.se:Int)
    . by_cases h2:a.se % 8=2
      . simp only[hv,h2,decide_true,Bool.and_self,if_true] at hα
        subst hα
        exact fin rfl ⟨rfl,QR,Wu,TN,QN,QB,Ya,rfl⟩ fun w1 m1 i1=>XD m1 hb i1 who sl PX (by omega) DY SG hc hst hrc (Or.inr ⟨rfl,h4,Or.inr (Or.inl ⟨hf,hv,h2,rfl⟩)⟩)
      . simp only[hv,h2,decide_true,decide_false,Bool.and_false,Bool.false_eq_true,if_false,Int.le_refl,if_true] at hα
        subst hα
        exact fin rfl ⟨rfl,QR,Wu,TN,QN,QB,Ya,trivial⟩ fun w1 m1 i1=>XD m1 hb i1 who sl PX (by omega) DY SG hc hst hrc (Or.inr ⟨rfl,h4,Or.inr (Or.inr (Or.inl ⟨hf,fun _=>h2,Int.le_of_eq hv.symm,rfl⟩))⟩)
    . by_cases hge:(Zz a.se:Int)<=MM c
      . simp only[hv,hge,decide_true,decide_false,Bool.false_and,Bool.false_eq_true,if_false,if_true] at hα
        subst hα
        exact fin rfl ⟨rfl,QR,Wu,TN,QN,QB,Ya,trivial⟩ fun w1 m1 i1=>XD m1 hb i1 who sl PX (by omega) DY SG hc hst hrc (Or.inr ⟨rfl,h4,Or.inr (Or.inr (Or.inl ⟨hf,fun e=>absurd e hv,hge,rfl⟩))⟩)
      . simp only[hv,hge,decide_false,Bool.false_and,Bool.false_eq_true,if_false] at hα
        subst hα
        exact fin rfl ⟨rfl,QR,Wu,TN,QN,QB,Ya,⟨rfl,rfl⟩⟩ fun w1 m1 i1=>XD m1 hb i1 who sl PX (by omega) DY SG hc hst hrc (Or.inr ⟨rfl,h4,Or.inr (Or.inr (Or.inr ⟨hf,hv,hge,rfl⟩))⟩)
 | check v c ld =>
  obtain⟨wv,wc⟩:=hg
  obtain⟨rfl,rfl,rF⟩:=SH
  obtain⟨u,hu⟩:∃ u,q.sw x=u:=⟨_,rfl⟩
  have SG:s.wd (6+t+x * 2)=u:=by rw[hT.QA x hx];exact hu
  have wu:Wd u:=by rw[<- hu];exact hT.Gz x hx
  have sl:=Xx u wu
  have sl0:=Xx a.se wv
  have hc:=MN a.ce wc
  have hq':(q,U0 W G σ a.se a.ce u ld)=(q',α'):=by rw[<- hq,<- hu];rfl
  obtain⟨rfl,hα⟩:=Prod.mk.inj hq'
  by_cases hl:(Y5 (u % 8) && decide (ZE u=G))=true
  . have hl0:=hl
    rw[Bool.and_eq_true] at hl0
    have hl':(Y5 (u % 8) && ((ZE u:Int) == (G:Int)))=true:=by
     rw[hl0.1,of_decide_eq_true hl0.2];simp
    simp only[U0,hl,if_true] at hα
    by_cases hA:ZN u=ZN a.se
    . rw[if_pos hA] at hα
      cases hot:W.other a.ce with
      | true =>
       rw[hot,if_pos rfl] at hα
       subst hα
       refine(Y2 h hi who hk hG hlen hh hx (by rw[Yx];show ¬ (3:Int)=7;decide) _ d ?_ (fun w1 m1 i1=>Y3 m1 i1 who x G Yx (Or.inr (Or.inr (Or.inr (Or.inl ⟨rfl,rfl,rfl⟩)))) _ (fun w1 m1 i1=>WN m1 hb i1 who hG hx hxs SG sl hl' hc (fun _=>sl0) (decide_eq_false (fun h=>h (by rw[hA]))) ((hoth _).trans hot) hst))).mono ?_
       . rintro s' a' ⟨_,rfl⟩
         rw[<- hdn];rfl
       . rintro e w' ⟨rfl,s',cs',a',m',o',i',sm,rfl,rfl⟩
         exact⟨rfl,_,cs',_,m',hT.same hσ who _,i',⟨rfl,QR,Wu,TN,QN,QB,Ya,⟨rfl,rfl,rfl,rF⟩⟩,sm,o',⟨_,rfl⟩,fun _=>rfl⟩
      | false =>
       rw[hot,if_neg (by decide)] at hα
       subst hα
       refine(Y2 h hi who hk hG hlen hh hx (by rw[Yx];show ¬ (3:Int)=7;decide) _ d ?_ (fun w1 m1 i1=>Y3 m1 i1 who x G Yx (Or.inr (Or.inr (Or.inr (Or.inl ⟨rfl,rfl,rfl⟩)))) _ (fun w1 m1 i1=>WN m1 hb i1 who hG hx hxs SG sl hl' hc (fun _=>sl0) (decide_eq_false (fun h=>h (by rw[hA]))) ((hoth _).trans hot) hst))).mono ?_
       . rintro s' a' ⟨_,rfl⟩
         rw[<- hdn];rfl
       . rintro e w' ⟨rfl,s',cs',a',m',o',i',sm,rfl,rfl⟩
         exact⟨rfl,_,cs',_,m',hT.same hσ who _,i',⟨rfl,QR,Wu,TN,QN,QB,Ya,⟨rfl,rfl,rfl,rF⟩⟩,sm,o',⟨_,rfl⟩,fun _=>rfl⟩
    . rw[if_neg hA] at hα
      subst hα
      refine(Y2 h hi who hk hG hlen hh hx (by rw[Yx];show ¬ (3:Int)=7;decide) _ d ?_ (fun w1 m1 i1=>Y3 m1 i1 who x G Yx (Or.inr (Or.inr (Or.inr (Or.inl ⟨rfl,rfl,rfl⟩)))) _ (fun w1 m1 i1=>WN m1 hb i1 who hG hx hxs SG sl hl' hc (fun _=>sl0) (decide_eq_true (by omega)) (ot:=a.QP (MX a.ce)) rfl hst))).mono ?_
      . rintro s' a' ⟨_,rfl⟩
        rw[<- hdn];rfl
      . rintro e w' ⟨rfl,s',cs',a',m',o',i',sm,rfl,rfl⟩
        exact⟨rfl,_,cs',_,m',hT.same hσ who _,i',⟨rfl,QR,Wu,TN,QN,QB,Ya,trivial⟩,sm,o',⟨_,rfl⟩,fun _=>rfl⟩
  . have hl':(Y5 (u % 8) && ((ZE u:Int) == (G:Int)))=false:=by
     rw[Bool.not_eq_true] at hl
     rw[<- hl]
     congr 1
     rw[Bool.eq_iff_iff]
     simp only[beq_iff_eq,decide_eq_true_eq]
     omega
    simp only[U0] at hα
    rw[if_neg hl] at hα
    subst hα
    refine(Y2 h hi who hk hG hlen hh hx (by rw[Yx];show ¬ (3:Int)=7;decide) _ d ?_ (fun w1 m1 i1=>Y3 m1 i1 who x G Yx (Or.inr (Or.inr (Or.inr (Or.inl ⟨rfl,rfl,rfl⟩)))) _ (fun w1 m1 i1=>WN m1 hb i1 who hG hx hxs SG sl hl' hc (st0:=0) (G0:=0) (V0:=0) (fun e=>by cases e) (ne:=true) (A0:=ZN u+1) (decide_eq_true (by omega)) (ot:=a.QP (MX a.ce)) rfl hst))).mono ?_
    . rintro s' a' ⟨_,rfl⟩
      rw[<- hdn];rfl
    . rintro e w' ⟨rfl,s',cs',a',m',o',i',sm,rfl,rfl⟩
      exact⟨rfl,_,cs',_,m',hT.same hσ who _,i',⟨rfl,QR,Wu,TN,QN,QB,Ya,⟨rfl,rfl,rfl,rfl⟩⟩,sm,o',⟨_,rfl⟩,fun _=>rfl⟩
 | stop v =>
  have wv:Wd v:=hg
  obtain rfl:a.se=v:=SH
  have sl:=Xx a.se wv
  have hq':((if q.sw x=a.se then { q with sw:=upd q.sw x (Gg a.se) } else q),Ac.see)=(q',α'):=hq
  obtain⟨hqq,rfl⟩:=Prod.mk.inj hq'
  refine(Y2 h hi who hk hG hlen hh hx (by rw[Yx];show ¬ (5:Int)=7;decide) _ d ?_ (fun w1 m1 i1=>Y3 m1 i1 who x G Yx (Or.inr (Or.inr (Or.inr (Or.inr (Or.inl ⟨rfl,rfl,rfl⟩))))) _ (fun w1 m1 i1=>Js m1 hb i1 who hG hx hxs sl))).mono ?_
  . rintro s' a' ⟨_,rfl⟩
    rw[<- hdn];rfl
  . rintro e w' ⟨rfl,s',cs',a',m',o',i',sm,rfl,rfl⟩
    by_cases hw:q.sw x=a.se
    . have hw':s.wd (6+t+x * 2)=a.se:=by rw[hT.QA x hx];exact hw
      rw[if_pos hw] at hqq
      subst hqq
      rw[UZ hw'] at m'
      exact⟨rfl,_,cs',_,m',hT.shows hσ who hx _ (OB _).1 (OB _).2,i',⟨rfl,QR,Wu,TN,QN,QB,Ya,trivial⟩,sm,o',⟨_,rfl⟩,fun h=>by cases h⟩
    . have hw':s.wd (6+t+x * 2)≠a.se:=by rw[hT.QA x hx];exact hw
      rw[if_neg hw] at hqq
      subst hqq
      rw[Wl hw'] at m'
      exact⟨rfl,_,cs',_,m',hT.same hσ who _,i',⟨rfl,QR,Wu,TN,QN,QB,Ya,trivial⟩,sm,o',⟨_,rfl⟩,fun h=>by cases h⟩
 | lay v c =>
  obtain⟨⟨Z,i,O,h1⟩,h0,wc⟩:=hg
  obtain⟨rfl,rfl⟩:=SH
  have sl:=Xx a.se O.wd
  have hc:=MN a.ce wc
  have hin:=O.Ef
  have z2:=O.z2
  have PX:a.ix=(W.ix.toNat:Int):=by rw[TN];omega
  have DY:ZN a.se+1+W.ix.toNat<s.n:=by omega
  have SG:s.wd (ZN a.se+1+W.ix.toNat)=q.dw (W.at a.se):=hT.Jp _ (by omega)
  by_cases hw:q.dw (W.at a.se)=a.ce
  . have hw':s.wd (ZN a.se+1+W.ix.toNat)=a.ce:=SG.trans hw
    simp only[Y7,hw,if_true] at hq
    obtain⟨rfl,rfl⟩:=Prod.mk.inj hq
    refine(Y2 h hi who hk hG hlen hh hx (by rw[Yx];show ¬ (6:Int)=7;decide) _ d ?_ (fun w1 m1 i1=>Y3 m1 i1 who x G Yx (Or.inr (Or.inr (Or.inr (Or.inr (Or.inr ⟨rfl,rfl,rfl⟩))))) _ (fun w1 m1 i1=>Gn m1 hb i1 who sl PX (by omega) DY QN hW.v (decide_eq_true hw') hc hst))).mono ?_
    . rintro s' a' ⟨_,rfl⟩
      rw[<- hdn];rfl
    . rintro e w' ⟨rfl,s',cs',a',m',o',i',sm,rfl,rfl⟩
      rw[UZ hw'] at m'
      exact⟨rfl,_,cs',_,m',hT.lays hσ who (by omega) _,i',⟨rfl,QR,Wu,TN,QN,QB,Ya,⟨rfl,rfl,rfl,rfl⟩⟩,sm,o',⟨_,rfl⟩,fun h=>by cases h⟩
  . have hw':s.wd (ZN a.se+1+W.ix.toNat)≠a.ce:=by rw[SG];exact hw
    simp only[Y7,hw,if_false] at hq
    obtain⟨rfl,rfl⟩:=Prod.mk.inj hq
    refine(Y2 h hi who hk hG hlen hh hx (by rw[Yx];show ¬ (6:Int)=7;decide) _ d ?_ (fun w1 m1 i1=>Y3 m1 i1 who x G Yx (Or.inr (Or.inr (Or.inr (Or.inr (Or.inr ⟨rfl,rfl,rfl⟩))))) _ (fun w1 m1 i1=>DZ m1 hb i1 who sl PX (by omega) DY QN hW.v (decide_eq_false hw')))).mono ?_
    . rintro s' a' ⟨_,rfl⟩
      rw[<- hdn];rfl
    . rintro e w' ⟨rfl,s',cs',a',m',o',i',sm,rfl,rfl⟩
      rw[Wl hw'] at m'
      exact⟨rfl,_,cs',_,m',hT.same hσ who _,i',⟨rfl,QR,Wu,TN,QN,QB,Ya,trivial⟩,sm,o',⟨_,rfl⟩,fun h=>by cases h⟩
end
end
section
structure WZ (t n k m:Nat) (s:Mm) (σ:Nat) (q:Q) (pn:Nat->Int):Prop where
 tw:Y9 t n k m s σ q
 ep:s.wd 0=0
 pn:∀ i,i<t->s.wd (6+i)=pn i
section
variable {t n k m:Nat} {s:Mm} {σ:Nat} {q:Q} {pn:Nat->Int}
theorem Y9.pins (h:Y9 t n k m s σ q) (hσ:σ<1000000) (who:Int) (a:Nat) (v:Int) (h1:6<=a) (h2:a<6+t):Y9 t n k m ((s.by who).step a v) (σ+1) q:=by
 refine⟨h.pile.off hσ who a v (by omega) (fun i hi=>by omega),h.Sm.off hσ who a v (by omega) (fun i hi=>by omega),fun i hi=>?_,fun i hi=>?_,fun x hx=>?_,h.Gz,fun b hb=>?_,?_⟩
 . rw[Y9.Zx who a _ v (by omega)];exact h.Ee i hi
 . have:=h.Ed i hi;omega
 . rw[Y9.Zx who a _ v (by omega)];exact h.QA x hx
 . rw[Y9.Zx who a _ v (by omega)];exact h.Jp b hb
 . rw[Y9.Zx who a _ v (by omega)];exact h.ep
theorem WZ.pin (h:WZ t n k m s σ q pn) (hσ:σ<1000000) (who:Int) {j:Nat} (hj:j<t) (v:Int):WZ t n k m ((s.by who).step (6+j) v) (σ+1) q (upd pn j v):=by
 refine⟨h.tw.pins hσ who _ v (by omega) (by omega),(Y9.Zx who _ 0 _ (by omega)).trans h.ep,fun i hi=>?_⟩
 by_cases e:i=j
 . subst e;rw[Y9.VK,upd_same]
 . rw[Y9.Zx who _ _ _ (by omega),ZX _ _ _ _ e];exact h.pn i hi
theorem WZ.look (h:WZ t n k m s σ q pn) (hσ:σ<1000000) (who:Int):WZ t n k m ((s.by who).step 0 (s.wd 0)) (σ+1) q pn:=by
 refine⟨h.tw.same hσ who 0,(Y9.VK who 0 _).trans h.ep,fun i hi=>(Y9.Zx who _ _ _ (by omega)).trans (h.pn i hi)⟩
theorem WZ.on (h:WZ t n k m s σ q pn) {s':Mm} {σ':Nat} {q':Q} (tw:Y9 t n k m s' σ' q') {who:Int} {a:Nat} (e:∃ v,s'=(s.by who).step a v) (h1:1<=a) (h2:a<6\/6+t<=a):WZ t n k m s' σ' q' pn:=by
 obtain⟨v,rfl⟩:=e
 exact⟨tw,(Y9.Zx who _ 0 _ (by omega)).trans h.ep,fun i hi=>(Y9.Zx who _ _ _ (by omega)).trans (h.pn i hi)⟩
theorem Al.away {κ:Nat} {α:Al} (hκ:κ<4) (g:α.good t n k m κ σ q) (ho:α.ZB=false):1<=α.at t n κ/\(α.at t n κ<6\/6+t<=α.at t n κ):=by
 cases α with
 | over=>cases ho
 | take τ =>
  rcases Tk.at_in (t:=t) g.1 with e | ⟨x,hx,e⟩
  . show 1<=τ.at t/\(τ.at t<6\/6+t<=τ.at t);omega
  . show 1<=τ.at t/\(τ.at t<6\/6+t<=τ.at t);omega
 | ask x=>show 1<=6+t+x * 2/\_;constructor;omega;right;show 6+t<=6+t+x * 2;omega
 | place x G τ =>
  rcases Pl.at_in (t:=t) (n:=n) g.2.2.2.1 with e | ⟨i,hi,e⟩
  . show 1<=τ.at t n κ/\(τ.at t n κ<6\/6+t<=τ.at t n κ);omega
  . show 1<=τ.at t n κ/\(τ.at t n κ<6\/6+t<=τ.at t n κ);omega
 | count x G a i=>show 1<=6+t+n * 2+i * 3+1/\(6+t+n * 2+i * 3+1<6\/6+t<=6+t+n * 2+i * 3+1);omega
 | head x G a i=>have:=g.2.2.2.2.1;show 1<=a/\(a<6\/6+t<=a);omega
 | shw x G a i=>show 1<=6+t+x * 2/\(6+t+x * 2<6\/6+t<=6+t+x * 2);omega
 | ready x G a i st=>have:=g.2.2.2.2.1;show 1<=a/\(a<6\/6+t<=a);omega
 | give x G γ =>
  rcases Gv.at_in (t:=t) g.1 γ with e | ⟨y,hy,e⟩
  . show 1<=γ.at t x/\(γ.at t x<6\/6+t<=γ.at t x);omega
  . show 1<=γ.at t x/\(γ.at t x<6\/6+t<=γ.at t x);omega
theorem Hp.away {x:Nat} {η:Hp} (g:η.good t n k m) (ho:η.ZB=false):6+t<=η.at t x:=by
 cases η with
 | over=>cases ho
 | go v Z j u =>
  obtain⟨⟨i,O⟩,-⟩:=g
  have:=O.Ef
  show 6+t<=if Z<=j then 6+t+x * 2 else ZN v+1+j
  split <;> omega
theorem Dp.away {x G:Nat} {α:Dp} (hx:x<n) (g:α.good t n k m x G q) (ho:α.ZB=false):1<=α.at t n x/\(α.at t n x<6\/6+t<=α.at t n x):=by
 cases α with
 | over=>cases ho
 | see=>show 1<=6+t+x * 2/\(6+t+x * 2<6\/6+t<=6+t+x * 2);omega
 | ask v=>obtain⟨i,O⟩:=g;have:=O.Ef;show 1<=ZN v/\(ZN v<6\/6+t<=ZN v);omega
 | mark v Z=>show 1<=6+t+x * 2/\(6+t+x * 2<6\/6+t<=6+t+x * 2);omega
 | Tv η=>have:=Hp.away (x:=x) g.1 g.2;show 1<=η.at t x/\(η.at t x<6\/6+t<=η.at t x);omega
 | fin Z i η=>have:=Hp.away (x:=x) g.1 g.2;show 1<=η.at t x/\(η.at t x<6\/6+t<=η.at t x);omega
 | count Z i=>show 1<=6+t+n * 2+i * 3+1/\(6+t+n * 2+i * 3+1<6\/6+t<=6+t+n * 2+i * 3+1);omega
 | give γ =>
  rcases Gv.at_in (t:=t) hx γ with e | ⟨y,hy,e⟩
  . show 1<=γ.at t x/\(γ.at t x<6\/6+t<=γ.at t x);omega
  . show 1<=γ.at t x/\(γ.at t x<6\/6+t<=γ.at t x);omega
theorem Ac.away {W:Wt} {x G:Nat} {α:Ac} (g:α.good t n k m W x G q) (ho:α.ZB=false):6+t<=α.at t x W:=by
 cases α with
 | over=>cases ho
 | see=>show 6+t<=6+t+x * 2;omega
 | ask v=>obtain⟨i,O⟩:=g;have:=O.Ef;show 6+t<=ZN v;omega
 | load v Z=>obtain⟨⟨i,O⟩,-⟩:=g;have:=O.Ef;show 6+t<=ZN v+1+W.ix.toNat;omega
 | check v c ld=>show 6+t<=6+t+x * 2;omega
 | stop v=>show 6+t<=6+t+x * 2;omega
 | lay v c=>obtain⟨⟨Z,i,O,-⟩,-⟩:=g;have:=O.Ef;show 6+t<=ZN v+1+W.ix.toNat;omega
end
def uF (σ0 σ:Nat) (St:Int):Dp->Prop
 | .count _ _=>(σ0:Int)<St/\St<=(σ:Int)
 | .give _=>(σ0:Int)<St/\St<=(σ:Int)
 | .over E=>(σ0:Int)<=St/\St<=(σ:Int)/\(E=0->(σ0:Int)<St)
 | _=>True
theorem DC {t n k m σ0 σ:Nat} {s s':Mm} {q q':Q} {who cg:Int} {own:Bool} {x G:Nat} {α α':Dp} {a a':DV} (hx:x<n) (hT:Y9 t n k m s σ q) (hT':Y9 t n k m s' (σ+1) q') (hs:∃ v,s'=(s.by who).step (α.at t n x) v) (ht:Zt t n k m cg own x G q α=(q',α')) (ho:α.ZB=false) (hb:σ<1000000) (h0:σ0<=σ) (hw:∀ Z i η,α=.fin Z i η->α'=.count Z i->q'.sw x≠q.sw x) (hl:Tl t x σ s' a a' α α') (h:uF σ0 σ a.St α):uF σ0 (σ+1) a'.St α':=by
 cases α with
 | over=>cases ho
 | see =>
  obtain⟨-,hα⟩:=Prod.mk.inj ht
  split at hα <;> subst hα
  . trivial
  . have e:a'.St=((σ+1:Nat):Int):=hl
    exact⟨by omega,by omega,fun _=>by omega⟩
 | ask v =>
  obtain⟨-,hα⟩:=Prod.mk.inj ht
  unfold Sj at hα
  split at hα
  . split at hα <;> (subst hα;trivial)
  . subst hα
    have e:a'.St=((σ+1:Nat):Int):=hl
    exact⟨by omega,by omega,fun _=>by omega⟩
 | mark v Z =>
  simp only[Zt] at ht
  split at ht <;> (obtain⟨-,rfl⟩:=Prod.mk.inj ht;trivial)
 | Tv η =>
  obtain⟨q1,η1,h1⟩:∃ q1 η1,YG cg x q η=(q1,η1):=⟨_,_,rfl⟩
  simp only[Zt,h1] at ht
  cases η1 <;> (simp only[PM] at ht;obtain⟨-,rfl⟩:=Prod.mk.inj ht;trivial)
 | fin Z i η =>
  obtain⟨q1,η1,h1⟩:∃ q1 η1,YG cg x q η=(q1,η1):=⟨_,_,rfl⟩
  simp only[Zt,h1] at ht
  cases η1 with
  | go=>simp only[Si] at ht;obtain⟨-,rfl⟩:=Prod.mk.inj ht;trivial
  | over wn =>
   simp only[Si] at ht
   obtain⟨rfl,rfl⟩:=Prod.mk.inj ht
   have hne:=hw Z i η rfl rfl
   have hSt:a'.St=s'.wn (6+t+x * 2):=hl
   obtain⟨v,hv⟩:=hs
   have d1:=hT.QA x hx
   have d2:=hT'.QA x hx
   have d3:s'.wd (6+t+x * 2)≠s.wd (6+t+x * 2):=by rw[d1,d2];exact hne
   have hat:(Dp.fin Z i η).at t n x=6+t+x * 2:=by
    by_cases e:(Dp.fin Z i η).at t n x=6+t+x * 2
    . exact e
    . exfalso
      apply d3
      rw[hv]
      show upd s.wd _ v (6+t+x * 2)=_
      rw[ZX _ _ _ _ (fun h=>e h.symm)]
   rw[hat] at hv
   have hvw:s'.wd (6+t+x * 2)=v:=by rw[hv];exact upd_same _ _ _
   have hwn:s'.wn (6+t+x * 2)=wrap64 (s.steps+1):=by
    rw[hv]
    show (if s.wd (6+t+x * 2)=v then s.wn else upd s.wn (6+t+x * 2) (wrap64 (s.steps+1))) (6+t+x * 2)=_
    rw[if_neg (fun h=>d3 (by rw[hvw,h])),upd_same]
   have hst:wrap64 (s.steps+1)=((σ+1:Nat):Int):=by rw[hT.pile.st];exact hT.pile.Xk hb
   show (σ0:Int)<a'.St/\a'.St<=((σ+1:Nat):Int)
   rw[hSt,hwn,hst]
   omega
 | count Z i =>
  have hSt:a'.St=a.St:=hl
  have h':(σ0:Int)<a.St/\a.St<=(σ:Int):=h
  have key:(σ0:Int)<a'.St/\a'.St<=((σ+1:Nat):Int):=by rw[hSt];omega
  obtain⟨-,hα⟩:=Prod.mk.inj ht
  split at hα <;> subst hα
  . exact⟨by omega,key.2,fun _=>key.1⟩
  . exact key
 | give γ =>
  have hSt:a'.St=a.St:=hl
  have h':(σ0:Int)<a.St/\a.St<=(σ:Int):=h
  have key:(σ0:Int)<a'.St/\a'.St<=((σ+1:Nat):Int):=by rw[hSt];omega
  obtain⟨c',lk',F',γ',h1⟩:∃ c' lk' F' γ',YM q.c q.lk q.F x γ=(c',lk',F',γ'):=⟨_,_,_,_,rfl⟩
  simp only[Zt,h1] at ht
  cases γ' <;> (simp only[RZ] at ht;obtain⟨-,rfl⟩:=Prod.mk.inj ht;first | exact key | exact⟨Int.le_of_lt key.1,key.2,fun _=>key.1⟩)
inductive Dw where
 | al (z:Int) (own:Bool) (κ:Nat) (α:Al)
 | dp (nu:Int) (own:Bool) (x G:Nat) (α:Dp)
 | ac (W:Wt) (own:Bool) (x G:Nat) (α:Ac)
 | bad (c:Nat) (E:Int)
 | fin (c:Nat) (E:Int) (st:Nat)
def Dw.ZB:Dw->Bool
 | .al _ _ _ α=>α.ZB
 | .dp _ _ _ _ α=>α.ZB
 | .ac _ _ _ _ α=>α.ZB
 | .bad _ _=>false
 | .fin _ _ _=>true
def Dw.c:Dw->Nat
 | .al _ _ _ _=>0
 | .dp _ _ _ _ _=>1
 | .ac _ _ _ _ _=>2
 | .bad c _=>c
 | .fin c _ _=>c
def Dw.cost:Dw->Nat
 | .bad _ _=>0
 | .fin _ _ _=>0
 | _=>1
def xY:Nat->TypeId
 | 0=>136
 | 1=>138
 | _=>162
def fS:Nat->FuncId
 | 0=>132
 | 1=>179
 | _=>205
def fD:Nat->FuncId
 | 0=>131
 | 1=>178
 | _=>204
def YI (t n k m:Nat) (cg:Int) (σ:Nat) (q:Q):Dw->Q × Dw
 | .al z own κ α=>((YP t n k m κ z own σ q α).1,.al z own κ (YP t n k m κ z own σ q α).2)
 | .dp nu own x G α=>((Zt t n k m cg own x G q α).1,.dp nu own x G (Zt t n k m cg own x G q α).2)
 | .ac W own x G α=>((Y7 W own x G σ q α).1,.ac W own x G (Y7 W own x G σ q α).2)
 | .bad c E=>(q,.fin c E σ)
 | .fin c E st=>(q,.fin c E st)
def Dw.need (t n k m:Nat) (cg:Int) (q:Q):Dw->Prop
 | .dp _ own x G α=>α.good t n k m x G q/\∀ Z i η,α=.fin Z i η->(Zt t n k m cg own x G q α).2=.count Z i->(Zt t n k m cg own x G q α).1.sw x≠q.sw x
 | .ac W _ x G α=>α.good t n k m W x G q
 | _=>True
def Ui (n:Nat) (nu:Int):Prop:=Wd nu/\((nu<65536\/4294967296<=nu)\/∃ (x:Nat) (G:Int),YY nu x G/\n<=x)
def UU (t n k m:Nat) (w:World) (b σ0 σ:Nat) (q:Q):Dw->Prop
 | .al z own κ α=>Fit z/\ZR z=κ/\κ<4/\α.good t n k m κ σ q/\∃ cs a,ZM w b 0 157 cs a/\Dz z own κ α a
 | .dp nu own x G α=>YY nu x G/\x<n/\∃ cs a,ZL w b 0 161 cs a/\Dy t n k m nu own x α a/\uF σ0 σ a.St α
 | .ac W own x G α=>YY W.nu x G/\x<n/\W.ok/\∃ cs a,ZG w b 0 168 cs a/\Gi W own α a
 | .bad c E=>(c=0/\E=5/\∃ z own cs,ZR z<0/\ZM w b 0 157 cs (av0 z own))\/(c=1/\E=3/\∃ nu own cs,Ui n nu/\ZL w b 0 161 cs (uD nu own))\/(c=2/\E=3/\∃ (W:Wt) (own:Bool) (cs:Array Value),(W.kd=1\/W.kd=2\/W.kd=3)/\Ui n W.nu/\ZG w b 0 168 cs (uO W.kd W.nu W.ix W.vl W.ol own))
 | .fin c E st=>(c=0/\∃ cs a,ZM w b 0 157 cs a/\a.nx=8/\a.E=E/\a.H=0/\a.V=0/\a.St=st)\/(c=1/\∃ cs a,ZL w b 0 161 cs a/\a.nx=7/\a.E=E/\a.H=0/\a.V=0/\a.St=st)\/(c=2/\∃ cs a,ZG w b 0 168 cs a/\a.E=E/\a.H=0/\a.V=0/\a.St=st)
theorem UU.of_block {t n k m:Nat} {w w':World} {b σ0 σ:Nat} {q:Q} {δ:Dw} (h:UU t n k m w b σ0 σ q δ) (e:w'.heap[b]?=w.heap[b]?):UU t n k m w' b σ0 σ q δ:=by
 cases δ with
 | al z own κ α=>obtain⟨h1,h2,h3,h4,cs,a,h5,h6⟩:=h;exact⟨h1,h2,h3,h4,cs,a,h5.of_block e,h6⟩
 | dp nu own x G α=>obtain⟨h1,h2,cs,a,h5,h6⟩:=h;exact⟨h1,h2,cs,a,h5.of_block e,h6⟩
 | ac W own x G α=>obtain⟨h1,h2,h3,cs,a,h5,h6⟩:=h;exact⟨h1,h2,h3,cs,a,h5.of_block e,h6⟩
 | bad c E =>
  rcases h with⟨h1,h2,z,own,cs,h3,h4⟩ | ⟨h1,h2,z,own,cs,h3,h4⟩ | ⟨h1,h2,z,own,cs,h3,h4,h5⟩
  . exact Or.inl ⟨h1,h2,z,own,cs,h3,h4.of_block e⟩
  . exact Or.inr (Or.inl ⟨h1,h2,z,own,cs,h3,h4.of_block e⟩)
  . exact Or.inr (Or.inr ⟨h1,h2,z,own,cs,h3,h4,h5.of_block e⟩)
 | fin c E st =>
  rcases h with⟨h1,cs,a,h3,h4⟩ | ⟨h1,cs,a,h3,h4⟩ | ⟨h1,cs,a,h3,h4⟩
  . exact Or.inl ⟨h1,cs,a,h3.of_block e,h4⟩
  . exact Or.inr (Or.inl ⟨h1,cs,a,h3.of_block e,h4⟩)
  . exact Or.inr (Or.inr ⟨h1,cs,a,h3.of_block e,h4⟩)
theorem UU.lt {t n k m:Nat} {w:World} {b σ0 σ:Nat} {q:Q} {δ:Dw} (h:UU t n k m w b σ0 σ q δ):b<w.heap.size:=by
 cases δ with
 | al z own κ α=>obtain⟨h1,h2,h3,h4,cs,a,h5,h6⟩:=h;exact h5.lt
 | dp nu own x G α=>obtain⟨h1,h2,cs,a,h5,h6⟩:=h;exact h5.lt
 | ac W own x G α=>obtain⟨h1,h2,h3,cs,a,h5,h6⟩:=h;exact h5.lt
 | bad c E =>
  rcases h with⟨h1,h2,z,own,cs,h3,h4⟩ | ⟨h1,h2,z,own,cs,h3,h4⟩ | ⟨h1,h2,z,own,cs,h3,h4,h5⟩
  . exact h4.lt
  . exact h4.lt
  . exact h5.lt
 | fin c E st =>
  rcases h with⟨h1,cs,a,h3,h4⟩ | ⟨h1,cs,a,h3,h4⟩ | ⟨h1,cs,a,h3,h4⟩ <;> exact h3.lt
section
variable {w:World} {L:Loc} {s:Mm} {b t n k m σ0 σ:Nat} {g p r:Int} {q:Q} {pn:Nat->Int}
theorem DK (h:Z8 w L s) (hb:¬ L.has b) (hV:WZ t n k m s σ q pn) (hG:Good t n k m g p r) (hσ:σ<1000000) (h0:σ0<=σ) (hdw:∀ a,Wd (q.dw a)) (δ:Dw) (hi:UU t n k m w b σ0 σ q δ) (hn:δ.need t n k m g q) (ho:δ.ZB=false) (who:Int) (q':Q) (δ':Dw) (hq:YI t n k m g σ q δ=(q',δ')) :
 Calls Tryz.prog (fS δ.c) #[pP b 0,eV t n k m g p r L.p who] w fun e w'=>e=.returned (.bool δ'.ZB)/\∃ s',Z8 w' L s'/\WZ t n k m s' (σ+δ.cost) q' pn/\UU t n k m w' b σ0 (σ+δ.cost) q' δ'/\Only (L.and b) w w':=by
 have hT:=hV.tw
 cases δ with
 | al z own κ α =>
  obtain⟨fz,hz,hκ,gd,cs,a,ia,xN⟩:=hi
  obtain⟨rfl,rfl⟩:=Prod.mk.inj hq
  refine(MF h hb hT hG hσ fz hz hκ α ia xN gd ho who _ _ rfl _ rfl).mono ?_
  rintro e w' ⟨rfl,s',cs',a',P⟩
  have aw:=Al.away hκ gd ho
  exact⟨rfl,s',P.mm,hV.on P.tw P.st aw.1 aw.2,⟨fz,hz,hκ,P.good,cs',a',P.al,P.is⟩,P.only⟩
 | dp nu own x G α =>
  obtain⟨hh,hx,cs,a,ia,xN,tl⟩:=hi
  obtain⟨rfl,rfl⟩:=Prod.mk.inj hq
  refine(drop_step h hb hT hG hσ hdw hh hx α ia xN hn.1 ho who _ _ rfl _ rfl).mono ?_
  rintro e w' ⟨rfl,s',cs',a',P⟩
  have aw:=Dp.away hx hn.1 ho
  exact⟨rfl,s',P.mm,hV.on P.tw P.st aw.1 aw.2,⟨hh,hx,cs',a',P.dp,P.is,DC hx hT P.tw P.st rfl ho hσ h0 hn.2 P.tl tl⟩,P.only⟩
 | ac W own x G α =>
  obtain⟨hh,hx,hW,cs,a,ia,xN⟩:=hi
  obtain⟨rfl,rfl⟩:=Prod.mk.inj hq
  refine(OC h hb hT hG hσ hdw hh hx hW α ia xN hn ho who _ _ rfl _ rfl).mono ?_
  rintro e w' ⟨rfl,s',cs',a',P⟩
  have aw:=Ac.away hn ho
  exact⟨rfl,s',P.mm,hV.on P.tw P.st (by omega) (Or.inr aw),⟨hh,hx,hW,cs',a',P.ac,P.is⟩,P.only⟩
 | bad c E =>
  obtain⟨rfl,rfl⟩:=Prod.mk.inj hq
  have hst:=hT.pile.st
  have hlen:ZI t n k m<=s.n:=by rw[hT.len];exact Nat.le_refl _
  rcases hi with⟨rfl,rfl,z,own,cs,hz,ia⟩ | ⟨rfl,rfl,nu,own,cs,hnu,ia⟩ | ⟨rfl,rfl,W,own,cs,hk,hnu,ia⟩
  . refine(WJ (g:=g) (p:=p) (r:=r) (t:=t) (n:=n) (k:=k) (m:=m) h ia who rfl (fun s' a'=>s'=s/\a'={ av0 z own with nx:=8,E:=5,H:=0,V:=0,St:=σ }) true (by rintro s' a' ⟨-,rfl⟩;rfl) (fun w1 m1 i1=>Jg m1 hb i1 who hz σ hst)).mono ?_
    rintro e w' ⟨rfl,s2,cs2,a2,m2,o2,i2,q2,rfl,rfl⟩
    exact⟨rfl,_,m2,hV,Or.inl ⟨rfl,cs2,_,i2,rfl,rfl,rfl,rfl,rfl⟩,o2⟩
  . rcases hnu.2 with hnn | ⟨x,G,hh,hx⟩
    . refine(MC h hb ia who hnu.1.1 hnu.1.2 hnn rfl hst).mono ?_
      rintro e w' ⟨rfl,s2,cs2,a2,m2,o2,i2,q2,rfl,rfl⟩
      exact⟨rfl,_,m2,hV,Or.inr (Or.inl ⟨rfl,cs2,_,i2,rfl,rfl,rfl,rfl,rfl⟩),o2⟩
    . refine(Jf h ia who hG hlen hh hb hx rfl hst).mono ?_
      rintro e w' ⟨rfl,s2,cs2,a2,m2,o2,i2,q2,rfl,rfl⟩
      exact⟨rfl,_,m2,hV,Or.inr (Or.inl ⟨rfl,cs2,_,i2,rfl,rfl,rfl,rfl,rfl⟩),o2⟩
  . rcases hnu.2 with hnn | ⟨x,G,hh,hx⟩
    . refine(OD h ia who hk hb hnu.1.1 hnu.1.2 hnn (by show ¬ (0:Int)=7;decide) hst).mono ?_
      rintro e w' ⟨rfl,s2,cs2,a2,m2,o2,i2,q2,rfl,rfl⟩
      exact⟨rfl,_,m2,hV,Or.inr (Or.inr ⟨rfl,cs2,_,i2,rfl,rfl,rfl,rfl⟩),o2⟩
    . refine(MP h ia who hk hG hlen hh hb hx (by show ¬ (0:Int)=7;decide) hst).mono ?_
      rintro e w' ⟨rfl,s2,cs2,a2,m2,o2,i2,q2,rfl,rfl⟩
      exact⟨rfl,_,m2,hV,Or.inr (Or.inr ⟨rfl,cs2,_,i2,rfl,rfl,rfl,rfl⟩),o2⟩
 | fin c E st=>cases ho
end
def Dw.told (σ0 σ:Nat) (E H V St:Int):Dw->Prop
 | .al _ _ _ (.over E' H' st)=>E=E'/\H=H'/\V=0/\St=st
 | .dp _ _ _ _ (.over E')=>E=E'/\H=0/\V=0/\(σ0:Int)<=St/\St<=(σ:Int)/\(E'=0->(σ0:Int)<St)
 | .ac _ _ _ _ (.over E' v st)=>E=E'/\H=0/\V=v/\St=st
 | .fin _ E' st=>E=E'/\H=0/\V=0/\St=st
 | _=>False
theorem DI {t n k m:Nat} {w:World} {b σ0 σ:Nat} {q:Q} {δ:Dw} (h:UU t n k m w b σ0 σ q δ) (ho:δ.ZB=true):∃ E H V St,δ.told σ0 σ E H V St/\∀ w1,Below w.heap.size w w1->Calls Tryz.prog (fD δ.c) #[pP b 0] w1 fun e w'=>e=.returned (.agg #[iV E,.int .u64 H,iV V,iV St])/\Below w1.heap.size w1 w':=by
 cases δ with
 | al z own κ α =>
  obtain⟨h1,h2,h3,h4,cs,a,h5,h6⟩:=h
  cases α with
  | over E H st =>
   have:=h6.nx
   exact⟨_,_,_,_,⟨h6.cm.1,h6.cm.2.1,h6.cm.2.2.1,h6.cm.2.2.2⟩,fun w1 g=>RY (h5.grown g) this⟩
  | _=>cases ho
 | dp nu own x G α =>
  obtain⟨h1,h2,cs,a,h5,h6,h7⟩:=h
  cases α with
  | over E =>
   have:=h6.nx
   exact⟨_,_,_,_,⟨h6.E,h6.H,h6.V,h7⟩,fun w1 g=>RX (h5.grown g) this⟩
  | _=>cases ho
 | ac W own x G α =>
  obtain⟨h1,h2,h3,cs,a,h5,h6⟩:=h
  cases α with
  | over E v st=>exact⟨_,_,_,_,⟨h6.sec.1,h6.sec.2.1,h6.sec.2.2.1,h6.sec.2.2.2⟩,fun w1 g=>QD (h5.grown g)⟩
  | _=>cases ho
 | bad c E=>cases ho
 | fin c E st =>
  rcases h with⟨rfl,cs,a,h3,h4,h5⟩ | ⟨rfl,cs,a,h3,h4,h5⟩ | ⟨rfl,cs,a,h3,h5⟩
  . exact⟨_,_,_,_,h5,fun w1 g=>RY (h3.grown g) h4⟩
  . exact⟨_,_,_,_,h5,fun w1 g=>RX (h3.grown g) h4⟩
  . exact⟨_,_,_,_,h5,fun w1 g=>QD (h3.grown g)⟩
end
section
structure As where
 σ:Nat
 q:Q
 pn:Nat->Int
 ph:Nat
 δ:Dw
def Wj (t n k m:Nat) (cg:Int) (who:Nat) (A:As):As :=
 match A.ph with
 | 0=>{ A with σ:=A.σ+1,ph:=1 }
 | 1=>{ A with σ:=A.σ+1,pn:=upd A.pn who 1,ph:=2 }
 | 2=>{ A with σ:=A.σ+1,ph:=3 }
 | 3=>{ A with σ:=A.σ+A.δ.cost,q:=(YI t n k m cg A.σ A.q A.δ).1,ph:=if (YI t n k m cg A.σ A.q A.δ).2.ZB then 4 else 3,δ:=(YI t n k m cg A.σ A.q A.δ).2 }
 | 4=>{ A with σ:=A.σ+1,pn:=upd A.pn who 0,ph:=5 }
 | _=>A
structure Bk where
 A:Nat
 S:Nat
 I:Nat
 b:Nat
def Bk.has (B:Bk) (x:Nat):Prop:=x=B.A\/x=B.S\/x=B.I\/x=B.b
structure WL (t n k m:Nat) (w:World) (L:Loc) (B:Bk) (σ0:Nat) (A:As):Prop where
 at_:Vu w B.A B.S B.I B.b (xY A.δ.c) (A.ph - 2)
 pin:A.ph<=2->∃ c,YZ w B.I 0 124 c A.ph 0
 dw:UU t n k m w B.b σ0 A.σ A.q A.δ
 ov:A.δ.ZB=decide (4<=A.ph)
 p5:A.ph<=5
 s0:σ0<=A.σ
 nl:∀ x,B.has x->¬ L.has x
def LB (L:Loc) (B:Bk) (x:Nat):Prop:=L.has x\/B.has x
theorem Vu.block {w w':World} {bA bS bI b:Nat} {T:TypeId} {i:Nat} (h:Vu w bA bS bI b T i) (e1:w'.heap[bA]?=w.heap[bA]?) (e2:w'.heap[bS]?=w.heap[bS]?):Vu w' bA bS bI b T i :=
 ⟨h.a.imp fun _ k=>k.of_block e1,h.l.imp fun _ k=>k.of_block e2,h.h1,h.h2,h.h3,h.h4,h.h5,h.h6⟩
theorem WL.block {t n k m:Nat} {w w':World} {L:Loc} {B:Bk} {σ0:Nat} {A:As} (h:WL t n k m w L B σ0 A) (e:∀ x,B.has x->x<w.heap.size->w'.heap[x]?=w.heap[x]?):WL t n k m w' L B σ0 A:=by
 obtain⟨c,ka⟩:=h.at_.a
 obtain⟨c',kl⟩:=h.at_.l
 exact⟨h.at_.block (e _ (Or.inl rfl) ka.lt) (e _ (Or.inr (Or.inl rfl)) kl.lt),fun hp=>(h.pin hp).imp fun _ k=>k.of_block (e _ (Or.inr (Or.inr (Or.inl rfl))) k.lt),h.dw.of_block (e _ (Or.inr (Or.inr (Or.inr rfl))) h.dw.lt),h.ov,h.p5,h.s0,h.nl⟩
theorem WL.grown {t n k m:Nat} {w w':World} {L:Loc} {B:Bk} {σ0:Nat} {A:As} (h:WL t n k m w L B σ0 A) (g:Below w.heap.size w w'):WL t n k m w' L B σ0 A:=h.block fun _ _ hl=>g.block _ hl
theorem WL.only {t n k m:Nat} {w w':World} {L:Loc} {B:Bk} {σ0:Nat} {A:As} {S:Nat->Prop} (h:WL t n k m w L B σ0 A) (g:Only S w w') (hs:∀ x,B.has x->¬ S x):WL t n k m w' L B σ0 A:=h.block fun x hx hl=>g.block _ hl (hs x hx)
theorem Pl.DR {k m κ σ σ':Nat} {τ:Pl} (h:τ.good k m κ σ) (hs:σ<=σ'):τ.good k m κ σ':=by
 cases τ with
 | grow i c=>exact⟨h.1,h.2.1.up hs,h.2.2⟩
 | take sn i c=>exact⟨h.1,h.2.1,h.2.2.1.up hs,h.2.2.2⟩
 | opn sn i c=>exact⟨h.1,h.2.1,h.2.2.1.up hs,h.2.2.2⟩
 | Tc sn i c=>exact⟨h.1,h.2.1,h.2.2.1.up hs,h.2.2.2⟩
 | _=>exact h
theorem UU.later {t n k m:Nat} {w:World} {b σ0 σ σ':Nat} {q:Q} {δ:Dw} (h:UU t n k m w b σ0 σ q δ) (hs:σ<=σ'):UU t n k m w b σ0 σ' q δ:=by
 cases δ with
 | al z own κ α =>
  obtain⟨h1,h2,h3,h4,h5⟩:=h
  refine⟨h1,h2,h3,?_,h5⟩
  cases α with
  | place x G τ=>exact⟨h4.1,h4.2.1,h4.2.2.1,Pl.DR h4.2.2.2.1 hs,h4.2.2.2.2⟩
  | _=>exact h4
 | dp nu own x G α =>
  obtain⟨h1,h2,cs,a,h5,h6,h7⟩:=h
  refine⟨h1,h2,cs,a,h5,h6,?_⟩
  cases α with
  | count=>exact⟨h7.1,Int.le_trans h7.2 (by omega)⟩
  | give=>exact⟨h7.1,Int.le_trans h7.2 (by omega)⟩
  | over=>exact⟨h7.1,Int.le_trans h7.2.1 (by omega),h7.2.2⟩
  | _=>exact h7
 | ac W own x G α=>exact h
 | bad c E=>exact h
 | fin c E st=>exact h
theorem PS (b:Nat) (w:World):(method 351 122 (pP b 0) "Step").run Tryz.prog w=.ok (123,pP b 0) w:=by kernel_rfl
theorem F8 (w:World):(method 351 126 (.agg #[]) "Step").run Tryz.prog w=.ok (130,.agg #[]) w:=by kernel_rfl
theorem zV (c b:Nat) (w:World):(method 351 (xY c) (pP b 0) "Step").run Tryz.prog w=.ok ((fS c),pP b 0) w:=by
 match c with
 | 0 =>
  have h:(method 351 136 (pP b 0) "Step").run Tryz.prog w=.ok (132,pP b 0) w:=by kernel_rfl
  exact h
 | 1 =>
  have h:(method 351 138 (pP b 0) "Step").run Tryz.prog w=.ok (179,pP b 0) w:=by kernel_rfl
  exact h
 | _+2 =>
  have h:(method 351 162 (pP b 0) "Step").run Tryz.prog w=.ok (205,pP b 0) w:=by kernel_rfl
  exact h
theorem zU (c b:Nat) (w:World):(method 351 (xY c) (pP b 0) "Done").run Tryz.prog w=.ok ((fD c),pP b 0) w:=by
 match c with
 | 0 =>
  have h:(method 351 136 (pP b 0) "Done").run Tryz.prog w=.ok (131,pP b 0) w:=by kernel_rfl
  exact h
 | 1 =>
  have h:(method 351 138 (pP b 0) "Done").run Tryz.prog w=.ok (178,pP b 0) w:=by kernel_rfl
  exact h
 | _+2 =>
  have h:(method 351 162 (pP b 0) "Done").run Tryz.prog w=.ok (204,pP b 0) w:=by kernel_rfl
  exact h
theorem MH (args:Array Value) (w:World):(callFunc 123 args).run Tryz.prog w=.ok (.enter 123 args) w:=by kernel_rfl
theorem DN (args:Array Value) (w:World):(callFunc 130 args).run Tryz.prog w=.ok (.enter 130 args) w:=by kernel_rfl
theorem xR (c:Nat) (args:Array Value) (w:World):(callFunc (fS c) args).run Tryz.prog w=.ok (.enter (fS c) args) w:=by
 match c with
 | 0 =>
  have h:(callFunc 132 args).run Tryz.prog w=.ok (.enter 132 args) w:=by kernel_rfl
  exact h
 | 1 =>
  have h:(callFunc 179 args).run Tryz.prog w=.ok (.enter 179 args) w:=by kernel_rfl
  exact h
 | _+2 =>
  have h:(callFunc 205 args).run Tryz.prog w=.ok (.enter 205 args) w:=by kernel_rfl
  exact h
theorem xQ (c:Nat) (args:Array Value) (w:World):(callFunc (fD c) args).run Tryz.prog w=.ok (.enter (fD c) args) w:=by
 match c with
 | 0 =>
  have h:(callFunc 131 args).run Tryz.prog w=.ok (.enter 131 args) w:=by kernel_rfl
  exact h
 | 1 =>
  have h:(callFunc 178 args).run Tryz.prog w=.ok (.enter 178 args) w:=by kernel_rfl
  exact h
 | _+2 =>
  have h:(callFunc 204 args).run Tryz.prog w=.ok (.enter 204 args) w:=by kernel_rfl
  exact h
theorem xP (c b:Nat) (w:World):(binOp .eql 120 (.iface (xY c) (pP b 0)) .nilIface).run Tryz.prog w=.ok (.bool false) w:=by
 match c with
 | 0 =>
  have h:(binOp .eql 120 (.iface 136 (pP b 0)) .nilIface).run Tryz.prog w=.ok (.bool false) w:=by kernel_rfl
  exact h
 | 1 =>
  have h:(binOp .eql 120 (.iface 138 (pP b 0)) .nilIface).run Tryz.prog w=.ok (.bool false) w:=by kernel_rfl
  exact h
 | _+2 =>
  have h:(binOp .eql 120 (.iface 162 (pP b 0)) .nilIface).run Tryz.prog w=.ok (.bool false) w:=by kernel_rfl
  exact h
theorem F6 {t n k m:Nat} {g:Int} {σ:Nat} {q q':Q} {δ δ':Dw} (h:YI t n k m g σ q δ=(q',δ')):δ'.c=δ.c:=by
 cases δ <;> (obtain⟨-,rfl⟩:=Prod.mk.inj h;rfl)
theorem Vu.next {w:World} {bA bS bI b:Nat} {T:TypeId} {i:Nat} (h:Vu w bA bS bI b T i):Vu (w.setCell ⟨bA,1,none⟩ (.slice (some ⟨bS,min (i+1) 2,none⟩) (2 - i) (2 - i))) bA bS bI b T (i+1):=by
 obtain⟨c,ka⟩:=h.a
 obtain⟨c',kl⟩:=h.l
 have:=ka.ZQ 1 (.slice (some ⟨bS,min (i+1) 2,none⟩) (2 - i) (2 - i))
 have hk:3 - (i+1)=2 - i:=by omega
 refine⟨⟨c.setIfInBounds 1 (.slice (some ⟨bS,min (i+1) 2,none⟩) (2 - i) (2 - i)),?_⟩,⟨c',kl.other (Ne.symm h.h1) _ _⟩,h.h1,h.h2,h.h3,h.h4,h.h5,h.h6⟩
 rw[hk]
 exact this
section
variable {w:World} {L:Loc} {s:Mm} {B:Bk} {t n k m σ0:Nat} {g p r:Int} {A:As}
theorem Ji (h:Z8 w L s) (hV:WZ t n k m s A.σ A.q A.pn) (hG:Good t n k m g p r) (hσ:A.σ<1000000) (hdw:∀ a,Wd (A.q.dw a)) (hA:WL t n k m w L B σ0 A) (h5:A.ph≠5) (hn:A.ph=3->A.δ.need t n k m g A.q) (who:Nat) (hw:who<t) (A':As) (hq:Wj t n k m g who A=A') :
 Calls Tryz.prog 55 #[pP B.A 0,eV t n k m g p r L.p who] w fun e w'=>e=.returned (.bool (A'.ph == 5))/\∃ s',Z8 w' L s'/\WZ t n k m s' A'.σ A'.q A'.pn/\WL t n k m w' L B σ0 A'/\Only (LB L B) w w'/\(A.ph≠3->s'.la<6+t):=by
 subst hq
 obtain⟨σ,q,pn,ph,δ⟩:=A
 have hlen:=hV.tw.len
 have htn:6+who<s.n:=by rw[hlen];omega
 have SY:(t:Int)<=8:=by have:=hG.t1;omega
 have hwt:(who:Int)<(t:Int):=by omega
 obtain⟨hAt,DL,MG,hov,qh,hs0,hnl⟩:=hA
 simp only at hAt DL MG hov qh hs0 hn h5 hσ hdw hV
 have nA:=hnl B.A (Or.inl rfl)
 have nS:=hnl B.S (Or.inr (Or.inl rfl))
 have nI:=hnl B.I (Or.inr (Or.inr (Or.inl rfl)))
 have nb:=hnl B.b (Or.inr (Or.inr (Or.inr rfl)))
 obtain⟨ca,ka⟩:=hAt.a
 obtain⟨cl,kl⟩:=hAt.l
 have ia:=ka.lt
 have il:=kl.lt
 have ib:=MG.lt
 have oI:∀ {x y:World},Only (L.and B.I) x y->Only (LB L B) x y:=fun o=>o.mono fun z _ hz=>hz.elim Or.inl (fun e=>Or.inr (Or.inr (Or.inr (Or.inl e))))
 have ob:∀ {x y:World},Only (L.and B.b) x y->Only (LB L B) x y:=fun o=>o.mono fun z _ hz=>hz.elim Or.inl (fun e=>Or.inr (Or.inr (Or.inr (Or.inr e))))
 have oA:∀ {x y:World} {i:Nat} {v:Value},Only (LB L B) x y->Only (LB L B) x (y.setCell ⟨B.A,i,none⟩ v):=fun o=>o.setCell (fun _=>Or.inr (Or.inl rfl)) _
 match ph,h5 with
 | 0,_ =>
  obtain⟨c,hin⟩:=DL (by omega)
  have hin:YZ w B.I 0 124 c 0 0:=hin
  refine(Xw (L:=L) hAt (by omega) t n k m g p r who (kl.at0 0 rfl) (PS _) MH (fun d w1=>d=false/\∃ s',Z8 w1 L s'/\WZ t n k m s' (σ+1) q pn/\s'.la<6+t/\(∃ c,YZ w1 B.I 0 124 c 1 0)/\∃ w0,Below w.heap.size w w0/\Only (L.and B.I) w0 w1) (fun w1 g1=>?_)).mono ?_
  . refine(Sr (h.below g1) nI (hin.grown g1) (Or.inl rfl) t n k m g p r who htn hwt SY).mono ?_
    rintro e w' ⟨d,s',c',nx',Bi,rfl,P,m',i',-,o'⟩
    refine⟨d,rfl,o'.block _ (Nat.lt_of_lt_of_le ia g1.size) (fun hh=>hh.elim nA hAt.h2),?_⟩
    cases P with
    | load =>
     rw[hV.ep] at m' i'
     have hv1:=hV.look hσ (who:Int)
     rw[hV.ep] at hv1
     exact⟨rfl,_,m',hv1,(by show ((0:Nat):Int)<6+(t:Int);omega),⟨c',i'⟩,w1,g1,o'⟩
  . rintro e w' ⟨d,w1,⟨rfl,s',m',v',l',i',w0,g0,o0⟩,hh⟩
    have ek:∀ x,x<w.heap.size->x≠B.I->¬ L.has x->w1.heap[x]?=w.heap[x]?:=fun x hx h1 h2=>(o0.block _ (Nat.lt_of_lt_of_le hx g0.size) (fun hh=>hh.elim h2 h1)).trans (g0.block _ hx)
    have ow:Only (LB L B) w w1:=(Only.Z5 g0).trans (oI o0)
    rcases hh with⟨-,rfl,rfl⟩ | ⟨e,-⟩
    . exact⟨rfl,s',m',v',⟨hAt.block (ek _ ia hAt.h2 nA) (ek _ il hAt.h4 nS),fun _=>i',(MG.of_block (ek _ ib (Ne.symm hAt.h6) nb)).later (Nat.le_succ _),hov,by show 1<=5;omega,by show σ0<=σ+1;omega,hnl⟩,ow,fun _=>l'⟩
    . cases e
 | 1,_ =>
  obtain⟨c,hin⟩:=DL (by omega)
  have hin:YZ w B.I 0 124 c 1 0:=hin
  refine(Xw (L:=L) hAt (by omega) t n k m g p r who (kl.at0 0 rfl) (PS _) MH (fun d w1=>d=false/\∃ s',Z8 w1 L s'/\WZ t n k m s' (σ+1) q (upd pn who 1)/\s'.la<6+t/\(∃ c,YZ w1 B.I 0 124 c 2 0)/\∃ w0,Below w.heap.size w w0/\Only (L.and B.I) w0 w1) (fun w1 g1=>?_)).mono ?_
  . refine(Sr (h.below g1) nI (hin.grown g1) (Or.inr (Or.inl rfl)) t n k m g p r who htn hwt SY).mono ?_
    rintro e w' ⟨d,s',c',nx',Bi,rfl,P,m',i',-,o'⟩
    refine⟨d,rfl,o'.block _ (Nat.lt_of_lt_of_le ia g1.size) (fun hh=>hh.elim nA hAt.h2),?_⟩
    cases P with
    | lay=>exact⟨rfl,_,m',hV.pin hσ (who:Int) hw 1,(by show ((6+who:Nat):Int)<6+(t:Int);omega),⟨c',i'⟩,w1,g1,o'⟩
  . rintro e w' ⟨d,w1,⟨rfl,s',m',v',l',i',w0,g0,o0⟩,hh⟩
    have ek:∀ x,x<w.heap.size->x≠B.I->¬ L.has x->w1.heap[x]?=w.heap[x]?:=fun x hx h1 h2=>(o0.block _ (Nat.lt_of_lt_of_le hx g0.size) (fun hh=>hh.elim h2 h1)).trans (g0.block _ hx)
    have ow:Only (LB L B) w w1:=(Only.Z5 g0).trans (oI o0)
    rcases hh with⟨-,rfl,rfl⟩ | ⟨e,-⟩
    . exact⟨rfl,s',m',v',⟨hAt.block (ek _ ia hAt.h2 nA) (ek _ il hAt.h4 nS),fun _=>i',(MG.of_block (ek _ ib (Ne.symm hAt.h6) nb)).later (Nat.le_succ _),hov,by show 2<=5;omega,by show σ0<=σ+1;omega,hnl⟩,ow,fun _=>l'⟩
    . cases e
 | 2,_ =>
  obtain⟨c,hin⟩:=DL (by omega)
  have hin:YZ w B.I 0 124 c 2 0:=hin
  refine(Xw (L:=L) hAt (by omega) t n k m g p r who (kl.at0 0 rfl) (PS _) MH (fun d w1=>d=true/\∃ s',Z8 w1 L s'/\WZ t n k m s' (σ+1) q pn/\s'.la<6+t/\∃ w0,Below w.heap.size w w0/\Only (L.and B.I) w0 w1) (fun w1 g1=>?_)).mono ?_
  . refine(Sr (h.below g1) nI (hin.grown g1) (Or.inr (Or.inr rfl)) t n k m g p r who htn hwt SY).mono ?_
    rintro e w' ⟨d,s',c',nx',Bi,rfl,P,m',i',-,o'⟩
    refine⟨d,rfl,o'.block _ (Nat.lt_of_lt_of_le ia g1.size) (fun hh=>hh.elim nA hAt.h2),?_⟩
    obtain⟨rfl,rfl⟩:d=true/\s'=(s.by who).step 0 (s.wd 0):=by
     generalize hE:(0:Int)=E0 at P
     cases P with
     | same=>exact⟨rfl,rfl⟩
     | other _ hne=>exact absurd (hV.ep.trans hE) hne
    exact⟨rfl,_,m',hV.look hσ (who:Int),(by show ((0:Nat):Int)<6+(t:Int);omega),w1,g1,o'⟩
  . rintro e w' ⟨d,w1,⟨rfl,s',m',v',l',w0,g0,o0⟩,hh⟩
    have ek:∀ x,x<w.heap.size->x≠B.I->¬ L.has x->w1.heap[x]?=w.heap[x]?:=fun x hx h1 h2=>(o0.block _ (Nat.lt_of_lt_of_le hx g0.size) (fun hh=>hh.elim h2 h1)).trans (g0.block _ hx)
    have ow:Only (LB L B) w w1:=(Only.Z5 g0).trans (oI o0)
    rcases hh with⟨e,-⟩ | ⟨-,rfl,rfl⟩
    . cases e
    . have hA1:=hAt.block (ek _ ia hAt.h2 nA) (ek _ il hAt.h4 nS)
      exact⟨rfl,s',m'.ZY nA _ _,v',⟨hA1.next,fun h=>absurd h (by show ¬ 3<=2;omega),((MG.of_block (ek _ ib (Ne.symm hAt.h6) nb)).later (Nat.le_succ _)).of_block (Go.Deep.blk_setCell_other _ _ _ _ (by simpa using (Ne.symm hAt.h3))),hov,by show 3<=5;omega,by show σ0<=σ+1;omega,hnl⟩,oA ow,fun _=>l'⟩
 | 3,_ =>
  obtain⟨q',δ',hq⟩:∃ q' δ',YI t n k m g σ q δ=(q',δ'):=⟨_,_,rfl⟩
  have ho:δ.ZB=false:=hov
  have hc:δ'.c=δ.c:=F6 hq
  refine(Xw (L:=L) hAt (by omega) t n k m g p r who (kl.at0 1 rfl) (zV δ.c _) (xR δ.c) (fun d w1=>d=δ'.ZB/\∃ s',Z8 w1 L s'/\WZ t n k m s' (σ+δ.cost) q' pn/\UU t n k m w1 B.b σ0 (σ+δ.cost) q' δ'/\∃ w0,Below w.heap.size w w0/\Only (L.and B.b) w0 w1) (fun w1 g1=>?_)).mono ?_
  . refine(DK (h.below g1) nb hV hG hσ hs0 hdw δ (MG.of_block (g1.block _ ib)) (hn rfl) ho who q' δ' hq).mono ?_
    rintro e w' ⟨rfl,s',m',v',d',o'⟩
    exact⟨_,rfl,o'.block _ (Nat.lt_of_lt_of_le ia g1.size) (fun hh=>hh.elim nA hAt.h3),rfl,s',m',v',d',w1,g1,o'⟩
  . rintro e w' ⟨d,w1,⟨rfl,s',m',v',d',w0,g0,o0⟩,hh⟩
    have ek:∀ x,x<w.heap.size->x≠B.b->¬ L.has x->w1.heap[x]?=w.heap[x]?:=fun x hx h1 h2=>(o0.block _ (Nat.lt_of_lt_of_le hx g0.size) (fun hh=>hh.elim h2 h1)).trans (g0.block _ hx)
    have ow:Only (LB L B) w w1:=(Only.Z5 g0).trans (ob o0)
    have hA1:=hAt.block (ek _ ia hAt.h3 nA) (ek _ il hAt.h5 nS)
    have eT:Wj t n k m g who ⟨σ,q,pn,3,δ⟩=⟨σ+δ.cost,q',pn,if δ'.ZB then 4 else 3,δ'⟩:=by
     show As.mk _ _ _ _ _=_
     rw[hq]
    rw[eT]
    rcases hh with⟨e,rfl,rfl⟩ | ⟨e,rfl,rfl⟩
    . rw[e,if_neg (by decide)]
      exact⟨rfl,s',m',v',⟨by rw[hc];exact hA1,fun h=>absurd h (by show ¬ 3<=2;omega),d',e,by show 3<=5;omega,by show σ0<=σ+δ.cost;omega,hnl⟩,ow,fun h=>absurd rfl h⟩
    . rw[e,if_pos rfl]
      exact⟨rfl,s',m'.ZY nA _ _,v',⟨by rw[hc];exact hA1.next,fun h=>absurd h (by show ¬ 4<=2;omega),d'.of_block (Go.Deep.blk_setCell_other _ _ _ _ (by simpa using (Ne.symm hAt.h3))),e,by show 4<=5;omega,by show σ0<=σ+δ.cost;omega,hnl⟩,oA ow,fun h=>absurd rfl h⟩
 | 4,_ =>
  refine(Xw (L:=L) hAt (by omega) t n k m g p r who (kl.at0 2 rfl) F8 DN (fun d w1=>d=true/\∃ s',Z8 w1 L s'/\WZ t n k m s' (σ+1) q (upd pn who 0)/\s'.la<6+t/\∃ w0,Below w.heap.size w w0/\Only L.has w0 w1) (fun w1 g1=>?_)).mono ?_
  . refine(DJ (h.below g1) t n k m g p r who htn hwt SY).mono ?_
    rintro e w' ⟨rfl,m',o'⟩
    exact⟨_,rfl,o'.block _ (Nat.lt_of_lt_of_le ia g1.size) nA,rfl,_,m',hV.pin hσ (who:Int) hw 0,(by show ((6+who:Nat):Int)<6+(t:Int);omega),w1,g1,o'⟩
  . rintro e w' ⟨d,w1,⟨rfl,s',m',v',l',w0,g0,o0⟩,hh⟩
    have ek:∀ x,x<w.heap.size->¬ L.has x->w1.heap[x]?=w.heap[x]?:=fun x hx h2=>(o0.block _ (Nat.lt_of_lt_of_le hx g0.size) h2).trans (g0.block _ hx)
    have ow:Only (LB L B) w w1:=(Only.Z5 g0).trans (o0.mono fun _ _=>Or.inl)
    have hA1:=hAt.block (ek _ ia nA) (ek _ il nS)
    rcases hh with⟨e,-⟩ | ⟨-,rfl,rfl⟩
    . cases e
    . exact⟨rfl,s',m'.ZY nA _ _,v',⟨hA1.next,fun h=>absurd h (by show ¬ 5<=2;omega),((MG.of_block (ek _ ib nb)).later (Nat.le_succ _)).of_block (Go.Deep.blk_setCell_other _ _ _ _ (by simpa using (Ne.symm hAt.h3))),hov,by show 5<=5;omega,by show σ0<=σ+1;omega,hnl⟩,oA ow,fun _=>l'⟩
 | 5,h=>exact absurd rfl h
 | ph+6,_=>omega
theorem UR (h:Z8 w L s) (hV:WZ t n k m s A.σ A.q A.pn) (hG:Good t n k m g p r) (hσ:A.σ<1000000) (hdw:∀ a,Wd (A.q.dw a)) (hA:WL t n k m w L B σ0 A) (h5:A.ph≠5) (hn:A.ph=3->A.δ.need t n k m g A.q) (who:Nat) (hw:who<t) (A':As) (hq:Wj t n k m g who A=A') :
 Calls Tryz.prog 55 #[pP B.A 0,eV t n k m g p r L.p who] w fun e w'=>e=.returned (.bool (A'.ph == 5))/\∃ s',Z8 w' L s'/\WZ t n k m s' A'.σ A'.q A'.pn/\WL t n k m w' L B σ0 A'/\Only (LB L B) w w' :=
 (Ji h hV hG hσ hdw hA h5 hn who hw A' hq).mono (by rintro e w' ⟨h1,s',h2,h3,h4,h6,-⟩;exact⟨h1,s',h2,h3,h4,h6⟩)
theorem Oo (hA:WL t n k m w L B σ0 A) (h5:A.ph=5):∃ E H V St,A.δ.told σ0 A.σ E H V St/\∀ w1,Below w.heap.size w w1->Calls Tryz.prog 56 #[pP B.A 0] w1 fun e w'=>e=.returned (.agg #[iV E,.int .u64 H,iV V,iV St])/\Below w1.heap.size w1 w':=by
 have ho:A.δ.ZB=true:=by rw[hA.ov,h5];rfl
 obtain⟨E,H,V,St,ht,hc⟩:=DI hA.dw ho
 refine⟨E,H,V,St,ht,fun w1 g1=>?_⟩
 have hAt:=hA.at_
 rw[h5] at hAt
 obtain⟨c,ka⟩:=hAt.a
 obtain⟨c',kl⟩:=hAt.l
 exact PR (hAt.block (g1.block _ ka.lt) (g1.block _ kl.lt)) (xP _ _) (zU _ _) (xQ _) E H V St (fun w2 g2=>hc w2 (grow g1 g2))
end
end
section
inductive YQ (n:Nat) (X:Xa):Dw->Prop where
 | al (κ:Nat) (h:X.kd=1) (fz:Fit X.sz) (hz:ZR X.sz=κ) (hκ:κ<4):YQ n X (.al X.sz X.own κ (.take .idle))
 | Ag (h:X.kd=1) (hz:ZR X.sz<0):YQ n X (.bad 0 5)
 | dp {x G:Nat} (h:X.kd=2) (hh:YY X.nu x G) (hx:x<n):YQ n X (.dp X.nu X.own x G .see)
 | Af (h:X.kd=2) (hn:Ui n X.nu):YQ n X (.bad 1 3)
 | ac {x G:Nat} (h3:3<=X.kd) (h5:X.kd<=5) (hv:Fit X.vl) (hh:YY X.nu x G) (hx:x<n):YQ n X (.ac ⟨X.kd - 2,X.nu,X.ix,X.vl,X.ol⟩ X.own x G .see)
 | Ae (h3:3<=X.kd) (h5:X.kd<=5) (hn:Ui n X.nu):YQ n X (.bad 2 3)
theorem YQ.over {n:Nat} {X:Xa} {δ:Dw} (h:YQ n X δ):δ.ZB=false:=by cases h <;> rfl
theorem YQ.ty {n:Nat} {X:Xa} {δ:Dw} (h:YQ n X δ):X.ty=xY δ.c:=by
 cases h with
 | al κ h=>unfold Xa.ty;rw[if_pos h];rfl
 | Ag h=>unfold Xa.ty;rw[if_pos h];rfl
 | dp h=>unfold Xa.ty;rw[if_neg (by omega),if_pos h];rfl
 | Af h=>unfold Xa.ty;rw[if_neg (by omega),if_pos h];rfl
 | ac h3=>unfold Xa.ty;rw[if_neg (by omega),if_neg (by omega)];rfl
 | Ae h3=>unfold Xa.ty;rw[if_neg (by omega),if_neg (by omega)];rfl
theorem YQ.at {n:Nat} {X:Xa} {δ:Dw} (h:YQ n X δ) (t k m σ:Nat) (q:Q) (W:World):UU t n k m (W.alloc X.ob) W.heap.size σ σ q δ:=by
 cases h with
 | al κ h fz hz hκ =>
  unfold Xa.ob;rw[if_pos h]
  obtain⟨cs,q0⟩:=Qz X.sz X.own W
  exact⟨fz,hz,hκ,⟨trivial,rfl⟩,cs,_,q0,Ad _ _ _⟩
 | Ag h hz =>
  unfold Xa.ob;rw[if_pos h]
  obtain⟨cs,q0⟩:=Qz X.sz X.own W
  exact Or.inl ⟨rfl,rfl,_,_,cs,hz,q0⟩
 | dp h hh hx =>
  unfold Xa.ob;rw[if_neg (by omega),if_pos h]
  obtain⟨cs,q0⟩:=Oy X.nu X.own W
  exact⟨hh,hx,cs,_,q0,zZ _ _ _ _ _ _ _,trivial⟩
 | Af h hn =>
  unfold Xa.ob;rw[if_neg (by omega),if_pos h]
  obtain⟨cs,q0⟩:=Oy X.nu X.own W
  exact Or.inr (Or.inl ⟨rfl,rfl,_,_,cs,hn,q0⟩)
 | ac h3 h5 hv hh hx =>
  unfold Xa.ob;rw[if_neg (by omega),if_neg (by omega)]
  obtain⟨cs,q0⟩:=J3 (X.kd - 2) X.nu X.ix X.vl X.ol X.own W
  exact⟨hh,hx,⟨by show X.kd - 2=1\/X.kd - 2=2\/X.kd - 2=3;omega,hv⟩,cs,_,q0,Ah ⟨X.kd - 2,X.nu,X.ix,X.vl,X.ol⟩ X.own⟩
 | Ae h3 h5 hn =>
  unfold Xa.ob;rw[if_neg (by omega),if_neg (by omega)]
  obtain⟨cs,q0⟩:=J3 (X.kd - 2) X.nu X.ix X.vl X.ol X.own W
  exact Or.inr (Or.inr ⟨rfl,rfl,⟨X.kd - 2,X.nu,X.ix,X.vl,X.ol⟩,X.own,cs,by show X.kd - 2=1\/X.kd - 2=2\/X.kd - 2=3;omega,hn,q0⟩)
theorem zY {w:World} {L:Loc} {s:Mm} (hM:Z8 w L s) {X:Xa} (hm:X.may=true) {n:Nat} {δ:Dw} (hs:YQ n X δ) (t k m σ:Nat) (q:Q) (pn:Nat->Int) :
 Calls Tryz.prog 54 #[X.v] w fun e w'=>∃ B:Bk,e=.returned (.tuple #[pP B.A 0,iV 0])/\Below w.heap.size w w'/\(∀ x,B.has x->w.heap.size<=x)/\WL t n k m w' L B σ ⟨σ,q,pn,0,δ⟩:=by
 refine(SA X hm w).mono ?_
 rintro e w' ⟨bA,bS,bI,b,W,c,rfl,bw,h1,h2,h3,h4,hA,hI,rfl,g⟩
 have hge:∀ x,Bk.has ⟨bA,bS,bI,W.heap.size⟩ x->w.heap.size<=x:=by
  intro x hx
  have hx:x=bA\/x=bS\/x=bI\/x=W.heap.size:=hx
  omega
 refine⟨⟨bA,bS,bI,W.heap.size⟩,rfl,bw,hge,⟨?_,fun _=>⟨c,hI⟩,?_,hs.over,by show 0<=5;omega,Nat.le_refl _,fun x hx hh=>?_⟩⟩
 . rw[hs.ty] at hA;exact hA
 . exact(hs.at t k m σ q W).of_block (g.block _ (by rw[Go.Deep.nblk_alloc];omega))
 . have:=hge x hx
   have:=hM.lt _ hh
   omega
theorem Jm {t n k m κ:Nat} {z:Int} {own:Bool} {σ:Nat} {q:Q} {α:Al} (h:∀ a,Wd (q.dw a)):∀ a,Wd ((YP t n k m κ z own σ q α).1.dw a):=by
 have up:∀ (A:Nat) (v:Int),Wd v->∀ a,Wd (upd q.dw A v a):=fun A v hv a=>by
  unfold upd;split
  . exact hv
  . exact h a
 have pw:∀ (kd:Int) (x:Int) (G:Int),Wd (Zg kd z x G own):=fun kd x G=>⟨(XC _ _ _ _ _).1,Int.le_trans (XC _ _ _ _ _).2 (by decide)⟩
 cases α with
 | take τ=>simp only[YP];unfold Vm;split <;> exact h
 | place x G τ=>simp only[YP];unfold VN;split <;> exact h
 | head x G a i=>exact up _ _ (pw _ _ _)
 | ready x G a i st=>exact up _ _ (pw _ _ _)
 | give x G γ=>simp only[YP];unfold PU;split <;> exact h
 | _=>exact h
theorem Jl {t n k m:Nat} {cg:Int} {σ:Nat} {q:Q} {δ:Dw} (h:∀ a,Wd (q.dw a)):∀ a,Wd ((YI t n k m cg σ q δ).1.dw a):=by
 cases δ with
 | al=>exact Jm h
 | dp nu own x G α=>exact Jk (q':=(Zt t n k m cg own x G q α).1) h rfl
 | ac W own x G α=>exact Jo (q':=(Y7 W own x G σ q α).1) h rfl
 | bad=>exact h
 | fin=>exact h
theorem Qy {t n k m:Nat} {cg:Int} {who:Nat} {A:As} (h:∀ a,Wd (A.q.dw a)):∀ a,Wd ((Wj t n k m cg who A).q.dw a):=by
 obtain⟨σ,q,pn,ph,δ⟩:=A
 match ph with
 | 0=>exact h
 | 1=>exact h
 | 2=>exact h
 | 3=>exact Jl h
 | 4=>exact h
 | _+5=>exact h
theorem Qx {t n k m:Nat} {cg:Int} {who:Nat} {A:As}:(Wj t n k m cg who A).σ<=A.σ+1:=by
 obtain⟨σ,q,pn,ph,δ⟩:=A
 match ph with
 | 0=>exact Nat.le_refl _
 | 1=>exact Nat.le_refl _
 | 2=>exact Nat.le_refl _
 | 3 =>
  show σ+δ.cost<=σ+1
  cases δ <;> (simp only[Dw.cost];omega)
 | 4=>exact Nat.le_refl _
 | _+5=>exact Nat.le_succ _
inductive X9 (t n k m:Nat) (cg:Int) (who:Nat):Nat->As->As->Prop where
 | one {A A':As} (h5:A.ph≠5) (hn:A.ph=3->A.δ.need t n k m cg A.q) (ht:Wj t n k m cg who A=A') (h:A'.ph=5):X9 t n k m cg who 1 A A'
 | more {N:Nat} {A A1 A':As} (h5:A.ph≠5) (hn:A.ph=3->A.δ.need t n k m cg A.q) (ht:Wj t n k m cg who A=A1) (h:A1.ph≠5) (g:X9 t n k m cg who N A1 A'):X9 t n k m cg who (N+1) A A'
theorem X9.pos {t n k m:Nat} {cg:Int} {who N:Nat} {A A':As} (g:X9 t n k m cg who N A A'):1<=N:=by
 cases g <;> omega
theorem Only.drop {L:Loc} {B:Bk} {w w':World} (h:Only (LB L B) w w') (hB:∀ x,B.has x->w.heap.size<=x):Only L.has w w' :=
 h.mono fun x hx hh=>hh.elim id (fun e=>absurd (hB x e) (by omega))
section
variable {w:World} {L:Loc} {t n k m σ:Nat} {s:Mm} {q:Q} {pn:Nat->Int}
end
end
section
structure Wc where
 kd:Int
 sz:Int
 rt:Int
 ra:Int
 rr:Int
 ix:Int
 vl:Int
 ol:Int
 ky:Int
@[reducible] def Wc.l (c:Wc):List Value:=[iV c.kd,iV c.sz,iV c.rt,iV c.ra,.int .u64 c.rr,iV c.ix,iV c.vl,iV c.ol,iV c.ky]
@[reducible] def Wc.v (c:Wc):Value:=.agg #[iV c.kd,iV c.sz,iV c.rt,iV c.ra,.int .u64 c.rr,iV c.ix,iV c.vl,iV c.ol,iV c.ky]
@[reducible] def Wc.rf (c:Wc):Value:=.agg #[iV c.rt,iV c.ra,.int .u64 c.rr]
def Wc.x (c:Wc) (h:Int):Xa:=⟨c.kd,c.sz,h,c.ix,c.vl,c.ol,false⟩
def Wc.asks (c:Wc):Bool:=decide (6<=c.kd) && decide (c.kd<=8)
def Wc.may (c:Wc):Bool:=if c.asks then V4 (c.kd - 5) c.ky else (c.x 0).may
theorem OX.new (c:Wc) (w:World):At (w.alloc (.cells #[iV c.kd,iV c.sz,iV c.rt,iV c.ra,.int .u64 c.rr,iV c.ix,iV c.vl,iV c.ol,iV c.ky] 45)) w.heap.size 0 45 #[iV c.kd,iV c.sz,iV c.rt,iV c.ra,.int .u64 c.rr,iV c.ix,iV c.vl,iV c.ol,iV c.ky] c.l:=At.new w _ c.l
theorem Vx (c:Wc) (w:World):Calls Tryz.prog 30 #[c.v] w fun e w'=>e=.returned (.bool c.asks)/\Below w.heap.size w w':=by
 have x0:=OX.new c w
 have t0:=x0.at0 0 rfl
 by_cases h6:(6:Int)<=c.kd
 . by_cases h8:c.kd<=8
   . go_enter Tryz.func30,Tryz.ntmps30
     go_wp2
     go_ret
     exact⟨by rw[show c.asks=true by unfold Wc.asks;rw[decide_eq_true h6,decide_eq_true h8];rfl];rfl,Z7 (Below.refl _ _) _⟩
   . go_enter Tryz.func30,Tryz.ntmps30
     go_wp2
     go_ret
     exact⟨by rw[show c.asks=false by unfold Wc.asks;rw[decide_eq_false (by omega:¬ c.kd<=8),Bool.and_false]];rfl,Z7 (Below.refl _ _) _⟩
 . go_enter Tryz.func30,Tryz.ntmps30
   go_wp2
   go_ret
   exact⟨by rw[show c.asks=false by unfold Wc.asks;rw[decide_eq_false (by omega:¬ 6<=c.kd)];rfl];rfl,Z7 (Below.refl _ _) _⟩
theorem QV (c:Wc) (h:c.asks=true) (w:World):Calls Tryz.prog 32 #[c.v] w fun e w'=>e=.returned (iV (c.kd - 5))/\Below w.heap.size w w':=by
 have x0:=OX.new c w
 have t0:=x0.at0 0 rfl
 unfold Wc.asks at h
 simp only[Bool.and_eq_true,decide_eq_true_eq] at h
 have e1:wrap64 (c.kd - 6)=c.kd - 6:=by unfold wrap64;omega
 have e2:wrap64 (c.kd - 6+1)=c.kd - 5:=by unfold wrap64;omega
 go_enter Tryz.func32,Tryz.ntmps32
 go_wp2
 go_ret
 exact⟨Zi (by omega),Z7 (Below.refl _ _) _⟩
theorem P8 (c:Wc) (h:Int) (w:World):Calls Tryz.prog 34 #[c.v,.int .u64 h] w fun e w'=>e=.returned (c.x h).v/\Below w.heap.size w w':=by
 have x0:=OX.new c w
 have t0:=x0.at0 0 rfl
 have t1:=x0.at0 1 rfl
 have t5:=x0.at0 5 rfl
 have t6:=x0.at0 6 rfl
 have t7:=x0.at0 7 rfl
 go_enter Tryz.func34,Tryz.ntmps34
 go_wp2
 refine bodyPost_ret (v:=(c.x h).v) (by simp[results,Tryz.results34,go_sem,Wc.x]) rfl ⟨rfl,Z7 (Z7 (Below.refl _ _) _) _⟩
end
end Go.Proofs.YtgehjolndmgffaaGreat
