import Derived.Test.YtibmjlefcaonnaaGreatDropGo
namespace Go.Proofs.YtibmjlefcaonnaaGreat
open Go.RowKit
section
end
section
def ZH (v:Int):Nat:=(v / 8 % 1048576).toNat
def YK (v:Int):Nat:=(v / 549755813888 % 4194304).toNat
def Vf (u:Int):Nat:=(u / 4 % 65536).toNat
def Xy (u:Int):Bool:=decide (u / 1125899906842624 % 2=1)
def frozenIn (u:Int) (V:Nat):Bool:=decide (9223372036854775808<=u) && decide (u / 1099511627776 % 4194304=(V:Int))
def froze (u:Int) (V:Nat):Int:=Yh (u % 1099511627776) true V
def KD (v:Int):Int:=Zm 4 (ZH v) (Zz v) (YK v+1)
def Xc (cg:Int) (v:Int):Int:=if cg<=(Zz v:Int) then Zm 3 0 (Zz v) 0 else Zm 0 0 ((Zz v:Int)+1) 0
def Wd (v:Int):Prop:=0<=v/\v<=18446744073709551615
theorem Yg (v:Int) (h:Wd v):Y6 v (v % 8) (ZH v) (Zz v) (YK v) :=
 ⟨h.1,h.2,rfl,by unfold ZH;omega,by unfold Zz;omega,by unfold YK;omega⟩
theorem Qr (v:Int):ZH v<=1048575:=by unfold ZH;omega
theorem Oe (u:Int) (h:Wd u):VT u (u % 4) (Vf u) (u / 262144 % 65536) (u / 17179869184 % 65536) (Xy u) :=
 ⟨h.1,h.2,rfl,by unfold Vf;omega,rfl,rfl,rfl⟩
theorem SS (a:Int) (f:Bool) (d:Int):Wd (Yh a f d):=NK a f d
theorem Ws (a b c d:Int):Wd (Zm a b c d):=⟨(U3 a b c d).1,Int.le_trans (U3 a b c d).2 (by decide)⟩
theorem O4 (a b c d:Int) (o:Bool):Wd (Zd a b c d o):=⟨(Xh a b c d o).1,Int.le_trans (Xh a b c d o).2 (by decide)⟩
theorem NL (u:Int) (V:Nat):Wd (froze u V):=SS _ _ _
theorem UZ (cg v:Int):Wd (Xc cg v):=by unfold Xc;split <;> exact Ws _ _ _ _
inductive Hp where
 | go (v:Int) (Z j:Nat) (u:Option Int)
 | over (Yp:Bool)
def Hp.ZB:Hp->Bool
 | .over _=>true
 | _=>false
def U0 (cg:Int) (x:Nat) (q:Q) (v:Int):Q × Hp :=
 if q.sw x=v then ({ q with sw:=upd q.sw x (Xc cg v) },.over true) else (q,.over false)
def YQ (cg:Int) (x:Nat) (q:Q):Hp->Q × Hp
 | .go v Z j none=>if Z<=j then U0 cg x q v else if frozenIn (q.dw (ZH v+1+j)) (YK v) then (q,.go v Z (j+1) none) else (q,.go v Z j (some (q.dw (ZH v+1+j))))
 | .go v Z j (some u)=>if Z<=j then U0 cg x q v else if q.dw (ZH v+1+j)=u then ({ q with dw:=upd q.dw (ZH v+1+j) (froze u (YK v)) },.go v Z (j+1) none) else (q,.go v Z j none)
 | .over w=>(q,.over w)
def Hp.cells (x:Nat):Hp->List Value->Prop
 | .go v Z j none,l=>∃ se,l=X7 x v Z j se false false false
 | .go v Z j (some u),l=>l=X7 x v Z j u true false false
 | .over w,l=>∃ v Z j se ld,l=X7 x v Z j se ld true w
theorem Hp.ZF {x:Nat} {η:Hp} {l:List Value} (h:η.cells x l):l.length=8:=by
 cases η with
 | go v Z j u =>
  cases u with
  | none=>obtain⟨_,rfl⟩:=h;rfl
  | some u=>have h':l=_:=h;subst h';rfl
 | over w=>obtain⟨_,_,_,_,_,rfl⟩:=h;rfl
theorem Hp.YC {x:Nat} {η:Hp} {l:List Value} (h:η.cells x l):l[6]?=some (.bool η.ZB):=by
 cases η with
 | go v Z j u =>
  cases u with
  | none=>obtain⟨_,rfl⟩:=h;rfl
  | some u=>have h':l=_:=h;subst h';rfl
 | over w=>obtain⟨_,_,_,_,_,rfl⟩:=h;rfl
structure Vd (t n k m:Nat) (v:Int) (Z i:Nat):Prop where
 wd:Wd v
 life:Zb (v % 8)=true
 z1:1<=Z
 z2:Z<=16
 ik:i<k
 ad:∃ u,u+Z<m/\ZH v=base t n k m i+u
theorem Vd.c1 {t n k m:Nat} {v:Int} {Z i:Nat} (h:Vd t n k m v Z i):Zp t n k m (ZH v)=i:=by
 obtain⟨u,hu,e⟩:=h.ad
 rw[e];exact U2 (u:=u) h.ik (by have:=h.z1;omega)
theorem Vd.c2 {t n k m:Nat} {v:Int} {Z i:Nat} (h:Vd t n k m v Z i):Zp t n k m ((ZH v:Int)+(Z:Int))=i:=by
 obtain⟨u,hu,e⟩:=h.ad
 have:(ZH v:Int)+(Z:Int)=((base t n k m i+(u+Z):Nat):Int):=by rw[e];omega
 rw[this];exact U2 h.ik hu
theorem Vd.MR {t n k m:Nat} {v:Int} {Z i:Nat} (h:Vd t n k m v Z i):6+t+n * 2+k * 3<=ZH v/\ZH v+Z<6+t+n * 2+k * 3+k * m:=by
 obtain⟨u,hu,e⟩:=h.ad
 have:=Qk (t:=t) (n:=n) (m:=m) (u:=u) (r:=Z+1) h.ik (by omega)
 rw[e];omega
def Hp.good (t n k m:Nat):Hp->Prop
 | .go v Z _ u=>(∃ i,Vd t n k m v Z i)/\∀ u',u=some u'->Wd u'
 | .over _=>True
def Hp.at (t x:Nat):Hp->Nat
 | .go v Z j _=>if Z<=j then 6+t+x * 2 else ZH v+1+j
 | .over _=>0
section
variable {w:World} {L:Loc} {s:Mm} {b o:Nat} {T:TypeId} {cs:Array Value} {t n k m σ:Nat} {g p r:Int} {q:Q}
theorem Wu {s:Mm} {who:Int} {a:Nat} {old v:Int} (h:s.wd a=old):(s.by who).XB a old v=(s.by who).step a v:=by
 show (if s.wd a=old then _ else _)=_
 rw[if_pos h]
theorem Xx {s:Mm} {who:Int} {a:Nat} {old v:Int} (h:s.wd a≠old):(s.by who).XB a old v=(s.by who).step a (s.wd a):=by
 show (if s.wd a=old then _ else _)=_
 rw[if_neg h];rfl
set_option maxHeartbeats 400000 in
theorem Xb (h:Z8 w L s) (hb:¬ L.has b) (hT:Zo t n k m s σ q) (hG:Good t n k m g p r) (hσ:σ<1000000) (hdw:∀ a,Wd (q.dw a)) {x:Nat} (hx:x<n) (η:Hp) {l:List Value} (hi:At w b o T cs l) (hc:η.cells x l) (hg:η.good t n k m) (ho:η.ZB=false) (who:Int) (q':Q) (η':Hp) (hq:YQ g x q η=(q',η')) (d:Bool) (hd:η'.ZB=d) :
 Calls Tryz.prog 162 #[pP b o,eV t n k m g p r L.p who] w fun e w'=>e=.returned (.bool d)/\Vy L b o T cs w w' (fun s' l'=>Zo t n k m s' (σ+1) q'/\η'.cells x l'/\∃ v,s'=(s.by who).step (η.at t x) v):=by
 have hlen:ZN t n k m<=s.n:=by rw[hT.len];exact Nat.le_refl _
 have hlen':=hT.len
 have hxs:6+t+x * 2<s.n:=by omega
 cases η with
 | over=>cases ho
 | go v Z j u =>
  obtain⟨⟨i,O⟩,hu⟩:=hg
  have sl:=Yg v O.wd
  have ab:=Qr v
  have z1:=O.z1
  have z2:=O.z2
  have hin:=O.MR
  have gb:=Sr v
  have g1:=hG.g1
  by_cases hj:Z<=j
  . have hq1:U0 g x q v=(q',η'):=by
     cases u <;> simpa [YQ,hj] using hq
    have hat:Hp.at t x (.go v Z j u)=6+t+x * 2:=by simp[Hp.at,hj]
    rw[hat]
    obtain⟨se,ld,rfl⟩:∃ se ld,l=X7 x v Z j se ld false false:=by
     cases u with
     | none=>obtain⟨se,rfl⟩:=hc;exact⟨se,false,rfl⟩
     | some u=>exact⟨u,true,hc⟩
    have key:∀ (nw:Int),Xc g v=nw->(∀ w1:World,Z8 w1 L s->At w1 b o T cs (X7 x v Z j se ld false false)->Calls Tryz.prog 171 #[pP b o,eV t n k m g p r L.p who,.agg #[iV (v % 8),iV (ZH v),iV (Zz v),iV (YK v)]] w1 fun e w'=>e=.returned (.tuple #[])/\Vy L b o T cs w1 w' (fun s' l'=>s'=(s.by who).XB (6+t+x * 2) v nw/\l'=X7 x v Z j se ld true (decide (s.wd (6+t+x * 2)=v)))) ->
     Calls Tryz.prog 162 #[pP b o,eV t n k m g p r L.p who] w fun e w'=>e=.returned (.bool d)/\Vy L b o T cs w w' (fun s' l'=>Zo t n k m s' (σ+1) q'/\η'.cells x l'/\∃ v,s'=(s.by who).step (6+t+x * 2) v):=by
     intro nw hnw hcall
     refine Yk h hi who hG hlen hx sl O.life ab (by omega) (by omega) (i:=(i:Int)) (by omega) O.c1 O.c2 (decide_eq_true (by omega)) (Or.inl ⟨rfl,rfl⟩) _ d (fun s' l' P=>by rw[<- hd];exact Hp.YC P.2.1) fun w1 m1 i1=>(hcall w1 m1 i1).mono ?_
     rintro e w' ⟨rfl,s',cs',l',m',o',i',q9,rfl,rfl⟩
     refine⟨rfl,_,cs',_,m',o',i',q9,?_⟩
     by_cases hw:q.sw x=v
     . have hw':s.wd (6+t+x * 2)=v:=by rw[hT.Un x hx];exact hw
       simp only[U0,hw,if_true] at hq1
       obtain⟨rfl,rfl⟩:=Prod.mk.inj hq1
       rw[Wu hw',decide_eq_true hw',<- hnw]
       exact⟨hT.shows hσ who hx _ (UZ g v).1 (UZ g v).2,⟨_,_,_,_,_,rfl⟩,_,rfl⟩
     . have hw':s.wd (6+t+x * 2)≠v:=by rw[hT.Un x hx];exact hw
       simp only[U0,hw,if_false] at hq1
       obtain⟨rfl,rfl⟩:=Prod.mk.inj hq1
       rw[Xx hw',decide_eq_false hw']
       exact⟨hT.same hσ who _,⟨_,_,_,_,_,rfl⟩,_,rfl⟩
    by_cases hl:g<=(Zz v:Int)
    . exact key _ (by unfold Xc;rw[if_pos hl]) fun w1 m1 i1=>RX m1 hb i1 who _ _ _ _ hG (by omega) (by omega) (Or.inr ⟨hl,rfl,rfl⟩) hx rfl hxs
    . exact key _ (by unfold Xc;rw[if_neg hl]) fun w1 m1 i1=>RX m1 hb i1 who _ _ _ _ hG (by omega) (by omega) (Or.inl ⟨by omega,rfl,rfl⟩) hx rfl hxs
  . have hat:Hp.at t x (.go v Z j u)=ZH v+1+j:=by simp[Hp.at,hj]
    rw[hat]
    have hn:ZH v+1+j<s.n:=by omega
    have hwd:s.wd (ZH v+1+j)=q.dw (ZH v+1+j):=hT.PU _ (by omega)
    cases u with
    | none =>
     obtain⟨se,rfl⟩:=hc
     simp only[YQ,hj,if_false] at hq
     have cell:CellIs (q.dw (ZH v+1+j)) _ _ _:=⟨(hdw _).1,(hdw _).2,rfl,rfl,rfl⟩
     by_cases hf:frozenIn (q.dw (ZH v+1+j)) (YK v)=true
     . rw[if_pos hf] at hq
       obtain⟨rfl,rfl⟩:=Prod.mk.inj hq
       have hf':=hf
       unfold frozenIn at hf'
       rw[Bool.and_eq_true] at hf'
       obtain⟨f1,f2⟩:=hf'
       refine Yk h hi who hG hlen hx sl O.life ab (by omega) (by omega) (i:=(i:Int)) (by omega) O.c1 O.c2 (decide_eq_false (by omega)) (Or.inr (Or.inr ⟨rfl,rfl,rfl⟩)) _ d (fun s' l' P=>by rw[<- hd];exact Hp.YC P.2.1) fun w1 m1 i1=>(VP m1 hb i1 who _ _ _ _ ab (by omega) hwd cell (Or.inl ⟨f1,(by rw[if_pos (of_decide_eq_true f1)];exact of_decide_eq_true f2),rfl,rfl⟩) hn).mono ?_
       rintro e w' ⟨rfl,s',cs',l',m',o',i',q9,rfl,rfl⟩
       exact⟨rfl,_,cs',_,m',o',i',q9,hT.same hσ who _,⟨_,rfl⟩,_,rfl⟩
     . rw[if_neg hf] at hq
       obtain⟨rfl,rfl⟩:=Prod.mk.inj hq
       unfold frozenIn at hf
       rw[Bool.and_eq_true] at hf
       by_cases f1:decide (9223372036854775808<=q.dw (ZH v+1+j))=true
       . refine Yk h hi who hG hlen hx sl O.life ab (by omega) (by omega) (i:=(i:Int)) (by omega) O.c1 O.c2 (decide_eq_false (by omega)) (Or.inr (Or.inr ⟨rfl,rfl,rfl⟩)) _ d (fun s' l' P=>by rw[<- hd];exact Hp.YC P.2.1) fun w1 m1 i1=>(VP m1 hb i1 who _ _ _ _ ab (by omega) hwd cell (Or.inr ⟨fun _=>(by rw[if_pos (of_decide_eq_true f1)];exact fun e=>hf ⟨f1,decide_eq_true e⟩),rfl,rfl⟩) hn).mono ?_
         rintro e w' ⟨rfl,s',cs',l',m',o',i',q9,rfl,rfl⟩
         exact⟨rfl,_,cs',_,m',o',i',q9,hT.same hσ who _,rfl,_,rfl⟩
       . refine Yk h hi who hG hlen hx sl O.life ab (by omega) (by omega) (i:=(i:Int)) (by omega) O.c1 O.c2 (decide_eq_false (by omega)) (Or.inr (Or.inr ⟨rfl,rfl,rfl⟩)) _ d (fun s' l' P=>by rw[<- hd];exact Hp.YC P.2.1) fun w1 m1 i1=>(VP m1 hb i1 who _ _ _ _ ab (by omega) hwd cell (Or.inr ⟨fun e=>absurd e f1,rfl,rfl⟩) hn).mono ?_
         rintro e w' ⟨rfl,s',cs',l',m',o',i',q9,rfl,rfl⟩
         exact⟨rfl,_,cs',_,m',o',i',q9,hT.same hσ who _,rfl,_,rfl⟩
    | some u =>
     have hc':l=_:=hc
     subst hc'
     simp only[YQ,hj,if_false] at hq
     have hub:=hu u rfl
     have cell:CellIs u _ _ _:=⟨hub.1,hub.2,rfl,rfl,rfl⟩
     have fv:Fit (YK v:Int):=⟨by omega,by unfold YK;omega⟩
     by_cases hw:q.dw (ZH v+1+j)=u
     . rw[if_pos hw] at hq
       obtain⟨rfl,rfl⟩:=Prod.mk.inj hq
       have hw':s.wd (ZH v+1+j)=u:=hwd.trans hw
       refine Yk h hi who hG hlen hx sl O.life ab (by omega) (by omega) (i:=(i:Int)) (by omega) O.c1 O.c2 (decide_eq_false (by omega)) (Or.inr (Or.inl ⟨rfl,rfl,rfl⟩)) _ d (fun s' l' P=>by rw[<- hd];exact Hp.YC P.2.1) fun w1 m1 i1=>(VF m1 hb i1 who _ _ _ _ ab (by omega) cell fv (decide_eq_true hw') hn).mono ?_
       rintro e w' ⟨rfl,s',cs',l',m',o',i',q9,rfl,rfl⟩
       rw[Wu hw'] at m'
       exact⟨rfl,_,cs',_,m',o',i',q9,hT.lays hσ who (by omega) _,⟨_,rfl⟩,_,rfl⟩
     . rw[if_neg hw] at hq
       obtain⟨rfl,rfl⟩:=Prod.mk.inj hq
       have hw':s.wd (ZH v+1+j)≠u:=by rw[hwd];exact hw
       refine Yk h hi who hG hlen hx sl O.life ab (by omega) (by omega) (i:=(i:Int)) (by omega) O.c1 O.c2 (decide_eq_false (by omega)) (Or.inr (Or.inl ⟨rfl,rfl,rfl⟩)) _ d (fun s' l' P=>by rw[<- hd];exact Hp.YC P.2.1) fun w1 m1 i1=>(VF m1 hb i1 who _ _ _ _ ab (by omega) cell fv (decide_eq_false hw') hn).mono ?_
       rintro e w' ⟨rfl,s',cs',l',m',o',i',q9,rfl,rfl⟩
       rw[Xx hw'] at m'
       exact⟨rfl,_,cs',_,m',o',i',q9,hT.same hσ who _,⟨_,rfl⟩,_,rfl⟩
end
inductive Dp where
 | see
 | ask (v:Int)
 | mark (v:Int) (Z:Nat)
 | VA (η:Hp)
 | fin (Z i:Nat) (η:Hp)
 | count (Z i:Nat)
 | give (γ:Gv)
 | over (E:Int)
def Dp.ZB:Dp->Bool
 | .over _=>true
 | _=>false
def Dp.nx:Dp->Int
 | .see=>0
 | .ask _=>1
 | .mark _ _=>2
 | .VA _=>3
 | .fin _ _ _=>4
 | .count _ _=>5
 | .give _=>6
 | .over _=>7
theorem Dp.Wv (α:Dp):(α.nx == 7)=α.ZB:=by cases α <;> rfl
def TK:Q × Hp->Q × Dp
 | (q',.over _)=>(q',.see)
 | (q',η')=>(q',.VA η')
def SH (Z i:Nat):Q × Hp->Q × Dp
 | (q',.over _)=>(q',.count Z i)
 | (q',η')=>(q',.fin Z i η')
def TJ (q:Q):Nat × (Nat->Nat) × List Nat × Gv->Q × Dp
 | (c',lk',F',.over)=>({ q with c:=c',lk:=lk',F:=F' },.over 0)
 | (c',lk',F',γ')=>({ q with c:=c',lk:=lk',F:=F' },.give γ')
def SI (own:Bool) (v u:Int):Dp :=
 if Xy u == own then (if v % 8=4 then .VA (.go v (Vf u) 0 none) else .mark v (Vf u)) else .over 3
def Zl (t n k m:Nat) (cg:Int) (own:Bool) (x G:Nat) (q:Q):Dp->Q × Dp
 | .see=>(q,if Zb (q.sw x % 8) && decide (Zz (q.sw x)=G) then .ask (q.sw x) else .over 3)
 | .ask v=>(q,SI own v (q.dw (ZH v)))
 | .mark v Z=>if q.sw x=v then ({ q with sw:=upd q.sw x (KD v) },.fin Z (Zp t n k m (ZH v)).toNat (.go (KD v) Z 0 none)) else (q,.see)
 | .VA η=>TK (YQ cg x q η)
 | .fin Z i η=>SH Z i (YQ cg x q η)
 | .count Z i=>({ q with lv:=upd q.lv i (q.lv i - room (ZM Z).toNat) },if cg<=G then .over 0 else .give .idle)
 | .give γ=>TJ q (YZ q.c q.lk q.F x γ)
 | .over E=>(q,.over E)
def TR (t n k m:Nat) (q:Q) (v:Int):Prop:=∃ i,Vd t n k m v (Vf (q.dw (ZH v))) i
def Dp.good (t n k m x G:Nat) (q:Q):Dp->Prop
 | .see=>Zb (q.sw x % 8)=true->Zz (q.sw x)=G->TR t n k m q (q.sw x)
 | .ask v=>TR t n k m q v
 | .mark v Z=>∃ i,Vd t n k m v Z i
 | .VA η=>η.good t n k m/\η.ZB=false
 | .fin _ _ η=>η.good t n k m/\η.ZB=false
 | .count Z i=>1<=Z/\Z<=16/\i<k/\room (ZM Z).toNat<=q.lv i
 | .give γ=>x∉q.F/\γ.good n q.c q.lk q.F x/\γ.done=false
 | .over _=>True
def Dp.at (t n x:Nat):Dp->Nat
 | .see=>6+t+x * 2
 | .ask v=>ZH v
 | .mark _ _=>6+t+x * 2
 | .VA η=>η.at t x
 | .fin _ _ η=>η.at t x
 | .count _ i=>6+t+n * 2+i * 3+1
 | .give γ=>γ.at t x
 | .over _=>0
def Dp.sec (t n k m:Nat):Dp->Int->Int->Int->Prop
 | .ask v,se,ch,_=>se=v/\ch=Zp t n k m (ZH v)
 | .mark v Z,se,ch,sz=>se=v/\ch=Zp t n k m (ZH v)/\sz=Z
 | .fin Z i _,_,ch,sz=>ch=i/\sz=Z
 | .count Z i,_,ch,sz=>ch=i/\sz=Z
 | _,_,_,_=>True
def Dp.hlc (x:Nat):Dp->List Value->Prop
 | .VA η,l=>η.cells x l
 | .fin _ _ η,l=>η.cells x l
 | _,_=>True
def Dp.Gf (x:Nat):Dp->List Value->Prop
 | .give γ,l=>γ.cells x l
 | _,_=>True
def Dp.err:Dp->Int
 | .over E=>E
 | _=>0
structure L6 (t n k m:Nat) (nu:Int) (own:Bool) (x:Nat) (α:Dp) (a:DV):Prop where
 nx:a.nx=α.nx
 nu:a.nu=nu
 ow:a.own=own
 sec:α.sec t n k m a.se a.ch a.sz
 hl:α.hlc x a.hl
 gl:α.Gf x a.gl
 E:a.E=α.err
 H:a.H=0
 V:a.V=0
theorem Ko (t n k m:Nat) (nu:Int) (own:Bool) (x:Nat):L6 t n k m nu own x .see (Ia nu own):=⟨rfl,rfl,rfl,trivial,trivial,trivial,rfl,rfl,rfl⟩
theorem Zo.NJ {t n k m:Nat} {s:Mm} {σ:Nat} {q:Q} (h:Zo t n k m s σ q) (hσ:σ<1000000) (who:Int) {i r:Nat} (hi:i<k) (hr:r<=17) (hl:r<=q.lv i) :
 Zo t n k m ((s.by who).step (6+t+n * 2+i * 3+1) (sum64 (s.wd (6+t+n * 2+i * 3+1)) (Yd (-(r:Int))))) (σ+1) { q with lv:=upd q.lv i (q.lv i - r) }:=by
 have hb:=h.MP i hi
 have hv:sum64 (s.wd (6+t+n * 2+i * 3+1)) (Yd (-(r:Int)))=Pm (q.lv i - r) (q.db i):=by
  rw[h.MQ i hi];exact LD _ _ _ hl
 refine⟨h.pile.off hσ who _ _ (by omega) (fun x hx=>by omega),h.U9.off hσ who _ _ (by omega) (fun j hj=>by omega),fun j hj=>?_,fun j hj=>?_,fun x hx=>?_,h.Ox,fun b hb=>?_,?_⟩
 . by_cases e:j=i
   . subst e
     rw[Zo.Xf,hv]
     show _=Pm (upd q.lv j (q.lv j - r) j) (q.db j)
     rw[upd_same]
   . rw[Zo.ZI who _ _ _ (by omega)]
     show _=Pm (upd q.lv i (q.lv i - r) j) (q.db j)
     rw[ZR _ _ _ _ e];exact h.MQ j hj
 . show upd q.lv i (q.lv i - r) j<=17 * (σ+1)
   by_cases e:j=i
   . subst e;rw[upd_same];omega
   . rw[ZR _ _ _ _ e];have:=h.MP j hj;omega
 . rw[Zo.ZI who _ _ _ (by omega)];exact h.Un x hx
 . rw[Zo.ZI who _ _ _ (by omega)];exact h.PU b hb
 . rw[Zo.ZI who _ _ _ (by omega)];exact h.ep
def Dp.reads:Dp->Bool
 | .see=>true
 | .ask _=>true
 | _=>false
def Tl (t x σ:Nat) (s':Mm) (a a':DV):Dp->Dp->Prop
 | .fin _ _ _,.count _ _=>a'.St=s'.wn (6+t+x * 2)
 | .count _ _,_=>a'.St=a.St
 | .give _,_=>a'.St=a.St
 | .see,.over _=>a'.St=((σ+1:Nat):Int)
 | .ask _,.over _=>a'.St=((σ+1:Nat):Int)
 | _,_=>True
structure Hw (w:World) (L:Loc) (s:Mm) (a:DV) (b o:Nat) (T:TypeId) (cs:Array Value) (t n k m σ:Nat) (nu:Int) (own:Bool) (x:Nat) (who:Int) (α:Dp) (q':Q) (α':Dp) (w':World) (s':Mm) (cs':Array Value) (a':DV):Prop where
 mm:Z8 w' L s'
 tw:Zo t n k m s' (σ+1) q'
 dp:ZP w' b o T cs' a'
 is:L6 t n k m nu own x α' a'
 same:Same o 21 cs cs'
 only:Only (L.and b) w w'
 st:∃ v,s'=(s.by who).step (α.at t n x) v
 rd:α.reads=true->s'=(s.by who).step (α.at t n x) (s.wd (α.at t n x))
 tl:Tl t x σ s' a a' α α'
theorem O3 {q':Q} {η':Hp} (h:η'.ZB=false):TK (q',η')=(q',.VA η'):=by
 cases η' with
 | over=>cases h
 | go=>rfl
theorem NI {Z i:Nat} {q':Q} {η':Hp} (h:η'.ZB=false):SH Z i (q',η')=(q',.fin Z i η'):=by
 cases η' with
 | over=>cases h
 | go=>rfl
theorem O1 {q:Q} {c':Nat} {lk':Nat->Nat} {F':List Nat} {γ':Gv} (h:γ'.done=false):TJ q (c',lk',F',γ')=({ q with c:=c',lk:=lk',F:=F' },.give γ'):=by
 cases γ' with
 | over=>cases h
 | _=>rfl
theorem Hp.Wn {η:Hp} (h:η.ZB=true):∃ w,η=.over w:=by
 cases η with
 | over w=>exact⟨w,rfl⟩
 | go=>cases h
theorem QQ {Z:Nat} (z1:1<=Z) (z2:Z<=16):ZM Z=((ZM Z).toNat:Nat)/\(ZM Z).toNat<4:=by
 unfold ZM
 rw[if_neg (by omega)]
 repeat' split
 all_goals omega
section
variable {w:World} {L:Loc} {s:Mm} {b o:Nat} {T:TypeId} {cs:Array Value} {a:DV} {t n k m σ:Nat} {g p r:Int} {q:Q} {nu:Int} {own:Bool}
set_option maxHeartbeats 1000000 in
theorem drop_step (h:Z8 w L s) (hb:¬ L.has b) (hT:Zo t n k m s σ q) (hG:Good t n k m g p r) (hσ:σ<1000000) (hdw:∀ a,Wd (q.dw a)) {x G:Nat} (hh:Y0 nu x G) (hx:x<n) (α:Dp) (hi:ZP w b o T cs a) (his:L6 t n k m nu own x α a) (hg:α.good t n k m x G q) (ho:α.ZB=false) (who:Int) (q':Q) (α':Dp) (hq:Zl t n k m g own x G q α=(q',α')) (d:Bool) (hd:α'.ZB=d) :
 Calls Tryz.prog 155 #[pP b o,eV t n k m g p r L.p who] w fun e w'=>e=.returned (.bool d)/\∃ s' cs' a',Hw w L s a b o T cs t n k m σ nu own x who α q' α' w' s' cs' a':=by
 have hlen:ZN t n k m<=s.n:=by rw[hT.len];exact Nat.le_refl _
 have hlen':=hT.len
 have hmk:k * m<=64 * 256:=Nat.mul_le_mul hG.k1 hG.n1
 have hxs:6+t+x * 2<s.n:=by omega
 have hst:wrap64 (s.steps+1)=((σ+1:Nat):Int):=by rw[hT.pile.st];exact hT.pile.X5 hσ
 have hh':=hh
 obtain⟨YW,XC,YF,Vh,ihl,GZ,iE,iH,iV⟩:=his
 rw[<- XC] at hh
 have hdn:=Dp.Wv α'
 rw[hd] at hdn
 cases α with
 | over=>cases ho
 | see =>
  obtain⟨v,hv⟩:∃ v,q.sw x=v:=⟨_,rfl⟩
  have hwv:s.wd (6+t+x * 2)=v:=by rw[hT.Un x hx];exact hv
  have wv:Wd v:=by rw[<- hv];exact hT.Ox x hx
  have sl:=Yg v wv
  simp only[Zl,hv] at hq
  simp only[Dp.good,hv] at hg
  by_cases hl:(Zb (v % 8) && decide (Zz v=G))=true
  . rw[if_pos hl] at hq
    obtain⟨rfl,rfl⟩:=Prod.mk.inj hq
    rw[Bool.and_eq_true] at hl
    obtain⟨i,O⟩:=hg hl.1 (of_decide_eq_true hl.2)
    have hl':(Zb (v % 8) && ((Zz v:Int) == (G:Int)))=true:=by
     rw[hl.1,of_decide_eq_true hl.2];simp
    refine(Za h hi who hG hlen hh hx YW (Or.inl ⟨rfl,rfl⟩) _ d ?_ (fun w1 m1 i1=>RZ m1 hb i1 who hG hx hxs hwv sl (ci:=Zp t n k m (ZH v)) rfl hl' (by rw[YW];decide) hst (Or.inr ⟨rfl,(by rw[O.c1];omega),rfl⟩))).mono ?_
    . rintro s' a' ⟨_,rfl⟩
      rw[<- hdn];rfl
    . rintro e w' ⟨rfl,s',cs',a',m',o',i',sm,rfl,rfl⟩
      exact⟨rfl,_,cs',_,m',hT.same hσ who _,i',⟨rfl,XC,YF,⟨rfl,rfl⟩,trivial,trivial,iE,iH,iV⟩,sm,o',⟨_,rfl⟩,fun _=>rfl,by first | exact trivial | rfl⟩
  . rw[if_neg hl] at hq
    obtain⟨rfl,rfl⟩:=Prod.mk.inj hq
    have hl':(Zb (v % 8) && ((Zz v:Int) == (G:Int)))=false:=by
     rw[Bool.not_eq_true] at hl
     rw[<- hl]
     congr 1
     rw[Bool.eq_iff_iff]
     simp only[beq_iff_eq,decide_eq_true_eq]
     omega
    refine(Za h hi who hG hlen hh hx YW (Or.inl ⟨rfl,rfl⟩) _ d ?_ (fun w1 m1 i1=>RZ m1 hb i1 who hG hx hxs hwv sl (ci:=Zp t n k m (ZH v)) rfl hl' (by rw[YW];decide) hst (Or.inl ⟨rfl,rfl⟩))).mono ?_
    . rintro s' a' ⟨_,rfl⟩
      rw[<- hdn];rfl
    . rintro e w' ⟨rfl,s',cs',a',m',o',i',sm,rfl,rfl⟩
      exact⟨rfl,_,cs',_,m',hT.same hσ who _,i',⟨rfl,XC,YF,trivial,trivial,trivial,rfl,rfl,rfl⟩,sm,o',⟨_,rfl⟩,fun _=>rfl,by first | exact trivial | rfl⟩
 | ask v =>
  obtain⟨i,O⟩:=hg
  obtain⟨rfl,Jv⟩:=Vh
  have sl:=Yg a.se O.wd
  have hin:=O.MR
  have Vg:s.wd (ZH a.se)=q.dw (ZH a.se):=hT.PU _ hin.1
  have hd1:=Oe _ (hdw (ZH a.se))
  have hq':(q,SI own a.se (q.dw (ZH a.se)))=(q',α'):=hq
  obtain⟨rfl,hα⟩:=Prod.mk.inj hq'
  have hnA:ZH a.se<s.n:=by omega
  by_cases hw:(Xy (q.dw (ZH a.se)) == own)=true
  . have hwo:(Xy (q.dw (ZH a.se)) == a.own)=true:=by rw[YF];exact hw
    simp only[SI,hw,if_true] at hα
    by_cases h4:a.se % 8=4
    . rw[if_pos h4] at hα
      subst hα
      refine(Za h hi who hG hlen hh hx YW (Or.inr (Or.inl ⟨rfl,rfl⟩)) _ d ?_ (fun w1 m1 i1=>O8 m1 hb i1 who sl hnA Vg hd1 hwo h4)).mono ?_
      . rintro s' a' ⟨_,rfl⟩
        rw[<- hdn];rfl
      . rintro e w' ⟨rfl,s',cs',a',m',o',i',sm,rfl,rfl⟩
        exact⟨rfl,_,cs',_,m',hT.same hσ who _,i',⟨rfl,XC,YF,trivial,⟨0,rfl⟩,trivial,iE,iH,iV⟩,sm,o',⟨_,rfl⟩,fun _=>rfl,by first | exact trivial | rfl⟩
    . rw[if_neg h4] at hα
      subst hα
      refine(Za h hi who hG hlen hh hx YW (Or.inr (Or.inl ⟨rfl,rfl⟩)) _ d ?_ (fun w1 m1 i1=>Si m1 hb i1 who sl hnA Vg hd1 (by rw[YW];show (1:Int)<5;decide) hwo hst (Or.inr ⟨rfl,h4,rfl⟩))).mono ?_
      . rintro s' a' ⟨_,rfl⟩
        rw[<- hdn];rfl
      . rintro e w' ⟨rfl,s',cs',a',m',o',i',sm,rfl,rfl⟩
        exact⟨rfl,_,cs',_,m',hT.same hσ who _,i',⟨rfl,XC,YF,⟨rfl,Jv,rfl⟩,trivial,trivial,iE,iH,iV⟩,sm,o',⟨_,rfl⟩,fun _=>rfl,by first | exact trivial | rfl⟩
  . have hw':(Xy (q.dw (ZH a.se)) == own)=false:=by simpa using hw
    have hwo:(Xy (q.dw (ZH a.se)) == a.own)=false:=by rw[YF];exact hw'
    simp only[SI,hw'] at hα
    subst hα
    refine(Za h hi who hG hlen hh hx YW (Or.inr (Or.inl ⟨rfl,rfl⟩)) _ d ?_ (fun w1 m1 i1=>Si m1 hb i1 who sl hnA Vg hd1 (by rw[YW];show (1:Int)<5;decide) hwo hst (Or.inl ⟨rfl,rfl⟩))).mono ?_
    . rintro s' a' ⟨_,rfl⟩
      rw[<- hdn];rfl
    . rintro e w' ⟨rfl,s',cs',a',m',o',i',sm,rfl,rfl⟩
      exact⟨rfl,_,cs',_,m',hT.same hσ who _,i',⟨rfl,XC,YF,trivial,trivial,trivial,rfl,rfl,rfl⟩,sm,o',⟨_,rfl⟩,fun _=>rfl,by first | exact trivial | rfl⟩
 | mark v Z =>
  obtain⟨i,O⟩:=hg
  obtain⟨rfl,Jv,Ve⟩:=Vh
  have sl:=Yg a.se O.wd
  by_cases hw:q.sw x=a.se
  . have hw':s.wd (6+t+x * 2)=a.se:=by rw[hT.Un x hx];exact hw
    simp only[Zl,hw,if_true] at hq
    obtain⟨rfl,rfl⟩:=Prod.mk.inj hq
    refine(Za h hi who hG hlen hh hx YW (Or.inr (Or.inr (Or.inl ⟨rfl,rfl⟩))) _ d ?_ (fun w1 m1 i1=>O6 m1 hb i1 who hG hx hxs Ve sl (decide_eq_true hw'))).mono ?_
    . rintro s' a' ⟨_,rfl⟩
      rw[<- hdn];rfl
    . rintro e w' ⟨rfl,s',cs',a',m',o',i',sm,rfl,rfl⟩
      rw[Wu hw'] at m'
      refine⟨rfl,_,cs',_,m',hT.shows hσ who hx _ (Ws _ _ _ _).1 (Ws _ _ _ _).2,i',⟨rfl,XC,YF,⟨?_,Ve⟩,⟨0,rfl⟩,trivial,iE,iH,iV⟩,sm,o',⟨_,rfl⟩,(fun h=>by cases h),by first | exact trivial | rfl⟩
      show a.ch=_
      rw[Jv,O.c1];simp
  . have hw':s.wd (6+t+x * 2)≠a.se:=by rw[hT.Un x hx];exact hw
    simp only[Zl,hw,if_false] at hq
    obtain⟨rfl,rfl⟩:=Prod.mk.inj hq
    refine(Za h hi who hG hlen hh hx YW (Or.inr (Or.inr (Or.inl ⟨rfl,rfl⟩))) _ d ?_ (fun w1 m1 i1=>NM m1 hb i1 who hG hx hxs sl (decide_eq_false hw'))).mono ?_
    . rintro s' a' ⟨_,rfl⟩
      rw[<- hdn];rfl
    . rintro e w' ⟨rfl,s',cs',a',m',o',i',sm,rfl,rfl⟩
      rw[Xx hw'] at m'
      exact⟨rfl,_,cs',_,m',hT.same hσ who _,i',⟨rfl,XC,YF,trivial,trivial,trivial,iE,iH,iV⟩,sm,o',⟨_,rfl⟩,(fun h=>by cases h),by first | exact trivial | rfl⟩
 | VA η =>
  obtain⟨gη,oη⟩:=hg
  obtain⟨q1,η1,ht⟩:∃ q1 η1,YQ g x q η=(q1,η1):=⟨_,_,rfl⟩
  simp only[Zl,ht] at hq
  cases hf:η1.ZB with
  | false =>
   rw[O3 hf] at hq
   obtain⟨rfl,rfl⟩:=Prod.mk.inj hq
   obtain rfl:false=d:=hd
   refine(Uy h hi who hG hlen hh hx YW _ (fun s' l' P=>Hp.ZF P.2.1) (fun w1 m1 i1=>Xb m1 hb hT hG hσ hdw hx η i1 ihl gη oη who _ _ ht false hf)).mono ?_
   rintro e w' ⟨rfl,s',cs',a',m',o',i',sm,l',⟨t',c',st'⟩,rfl⟩
   exact⟨rfl,_,cs',_,m',t',i',⟨YW,XC,YF,trivial,c',trivial,iE,iH,iV⟩,sm,o',st',(fun h=>by cases h),by first | exact trivial | rfl⟩
  | true =>
   obtain⟨wn,rfl⟩:=Hp.Wn hf
   have hq':(q1,Dp.see)=(q',α'):=hq
   obtain⟨rfl,rfl⟩:=Prod.mk.inj hq'
   obtain rfl:false=d:=hd
   refine(Vx h hi who hG hlen hh hb hx YW _ (fun s' l' P=>Hp.ZF P.2.1) (fun w1 m1 i1=>Xb m1 hb hT hG hσ hdw hx η i1 ihl gη oη who _ _ ht true hf)).mono ?_
   rintro e w' ⟨rfl,s',cs',a',m',o',i',sm,l',⟨t',c',st'⟩,rfl⟩
   exact⟨rfl,_,cs',_,m',t',i',⟨rfl,XC,YF,trivial,trivial,trivial,iE,iH,iV⟩,sm,o',st',(fun h=>by cases h),by first | exact trivial | rfl⟩
 | fin Z i η =>
  obtain⟨gη,oη⟩:=hg
  obtain⟨q1,η1,ht⟩:∃ q1 η1,YQ g x q η=(q1,η1):=⟨_,_,rfl⟩
  simp only[Zl,ht] at hq
  cases hf:η1.ZB with
  | false =>
   rw[NI hf] at hq
   obtain⟨rfl,rfl⟩:=Prod.mk.inj hq
   refine(Za h hi who hG hlen hh hx YW (Or.inr (Or.inr (Or.inr (Or.inl ⟨rfl,rfl⟩)))) _ d ?_ (fun w1 m1 i1=>Lm m1 i1 who _ (fun s' l' P=>Hp.ZF P.2.1) (fun w2 m2 i2=>Xb m2 hb hT hG hσ hdw hx η i2 ihl gη oη who _ _ ht false hf))).mono ?_
   . rintro s' a' ⟨l',_,rfl⟩
     rw[<- hdn]
     show (a.nx == 7)=_
     rw[YW];rfl
   . rintro e w' ⟨rfl,s',cs',a',m',o',i',sm,l',⟨t',c',st'⟩,rfl⟩
     exact⟨rfl,_,cs',_,m',t',i',⟨YW,XC,YF,Vh,c',trivial,iE,iH,iV⟩,sm,o',st',(fun h=>by cases h),by first | exact trivial | rfl⟩
  | true =>
   obtain⟨wn,rfl⟩:=Hp.Wn hf
   have hq':(q1,Dp.count Z i)=(q',α'):=hq
   obtain⟨rfl,rfl⟩:=Prod.mk.inj hq'
   refine(Za h hi who hG hlen hh hx YW (Or.inr (Or.inr (Or.inr (Or.inl ⟨rfl,rfl⟩)))) _ d ?_ (fun w1 m1 i1=>O5 m1 hb i1 who hG hx _ (fun s' l' P=>Hp.ZF P.2.1) (fun s' l' P=>by have:=P.1.len;omega) (fun w2 m2 i2=>Xb m2 hb hT hG hσ hdw hx η i2 ihl gη oη who _ _ ht true hf))).mono ?_
   . rintro s' a' ⟨l',_,rfl⟩
     rw[<- hdn];rfl
   . rintro e w' ⟨rfl,s',cs',a',m',o',i',sm,l',⟨t',c',st'⟩,rfl⟩
     exact⟨rfl,_,cs',_,m',t',i',⟨rfl,XC,YF,Vh,trivial,trivial,iE,iH,iV⟩,sm,o',st',(fun h=>by cases h),by first | exact trivial | rfl⟩
 | count Z i =>
  obtain⟨z1,z2,hik,hlv⟩:=hg
  obtain⟨Jv,Ve⟩:=Vh
  obtain⟨kz,hκ⟩:=QQ z1 z2
  have hr:=Yn (ZM Z).toNat
  have hnc:6+t+n * 2+i * 3+1<s.n:=by omega
  have tw:=hT.NJ hσ who hik hr.2 hlv
  by_cases hl:g<=(G:Int)
  . have hq':({ q with lv:=upd q.lv i (q.lv i - room (ZM Z).toNat) },Dp.over 0)=(q',α'):=by rw[<- hq];simp[Zl,hl]
    obtain⟨rfl,rfl⟩:=Prod.mk.inj hq'
    refine(Za h hi who hG hlen hh hx YW (Or.inr (Or.inr (Or.inr (Or.inr ⟨rfl,rfl⟩)))) _ d ?_ (fun w1 m1 i1=>U1 m1 hb i1 who hG Jv hik Ve kz hκ hnc (decide_eq_true hl) (Or.inr ⟨rfl,rfl⟩))).mono ?_
    . rintro s' a' ⟨_,rfl⟩
      rw[<- hdn];rfl
    . rintro e w' ⟨rfl,s',cs',a',m',o',i',sm,rfl,rfl⟩
      exact⟨rfl,_,cs',_,m',tw,i',⟨rfl,XC,YF,trivial,trivial,trivial,iE,iH,iV⟩,sm,o',⟨_,rfl⟩,(fun h=>by cases h),by first | exact trivial | rfl⟩
  . have hq':({ q with lv:=upd q.lv i (q.lv i - room (ZM Z).toNat) },Dp.give .idle)=(q',α'):=by rw[<- hq];simp[Zl,hl]
    obtain⟨rfl,rfl⟩:=Prod.mk.inj hq'
    refine(Za h hi who hG hlen hh hx YW (Or.inr (Or.inr (Or.inr (Or.inr ⟨rfl,rfl⟩)))) _ d ?_ (fun w1 m1 i1=>U1 m1 hb i1 who hG Jv hik Ve kz hκ hnc (decide_eq_false (by omega)) (Or.inl ⟨rfl,rfl⟩))).mono ?_
    . rintro s' a' ⟨_,rfl⟩
      rw[<- hdn];rfl
    . rintro e w' ⟨rfl,s',cs',a',m',o',i',sm,rfl,rfl⟩
      exact⟨rfl,_,cs',_,m',tw,i',⟨rfl,XC,YF,trivial,trivial,⟨0,rfl⟩,iE,iH,iV⟩,sm,o',⟨_,rfl⟩,(fun h=>by cases h),by first | exact trivial | rfl⟩
 | give γ =>
  obtain⟨UD,gγ,oγ⟩:=hg
  obtain⟨c',lk',F',γ',ht⟩:∃ c' lk' F' γ',YZ q.c q.lk q.F x γ=(c',lk',F',γ'):=⟨_,_,_,_,rfl⟩
  have hat:=Gv.at_in (t:=t) hx γ
  simp only[Zl,ht] at hq
  cases hf:γ'.done with
  | false =>
   rw[O1 hf] at hq
   obtain⟨rfl,rfl⟩:=Prod.mk.inj hq
   obtain rfl:false=d:=hd
   refine(Ux h hi who hG hlen hh hx YW (fun w1 m1 i1=>Xd m1 hb hT.pile hσ hG.t1 hx UD γ ⟨_,i1,GZ⟩ gγ oγ _ _ _ _ _ who c' lk' F' γ' ht false hf)).mono ?_
   rintro e w' ⟨rfl,s',cs',a',m',o',i',sm,p',⟨v,rfl⟩,g',l,hl,rfl⟩
   exact⟨rfl,_,cs',_,m',hT.slots hσ who _ v hat p',i',⟨YW,XC,YF,trivial,trivial,hl,iE,iH,iV⟩,sm,o',⟨v,rfl⟩,(fun h=>by cases h),by first | exact trivial | rfl⟩
  | true =>
   have:=Gv.Wn hf
   subst this
   have hq':({ q with c:=c',lk:=lk',F:=F' },Dp.over 0)=(q',α'):=hq
   obtain⟨rfl,rfl⟩:=Prod.mk.inj hq'
   obtain rfl:true=d:=hd
   refine(Vw h hi who hG hlen hh hb hx YW (fun w1 m1 i1=>Xd m1 hb hT.pile hσ hG.t1 hx UD γ ⟨_,i1,GZ⟩ gγ oγ _ _ _ _ _ who c' lk' F' _ ht true hf)).mono ?_
   rintro e w' ⟨rfl,s',cs',a',m',o',i',sm,p',⟨v,rfl⟩,g',l,hl,rfl⟩
   exact⟨rfl,_,cs',_,m',hT.slots hσ who _ v hat p',i',⟨rfl,XC,YF,trivial,trivial,trivial,iE,iH,iV⟩,sm,o',⟨v,rfl⟩,(fun h=>by cases h),by first | exact trivial | rfl⟩
end
end
section
theorem Ul {cg:Int} {x:Nat} {q:Q} {η:Hp} {q':Q} {η':Hp} (h:∀ a,Wd (q.dw a)) (ht:YQ cg x q η=(q',η')):∀ a,Wd (q'.dw a):=by
 have e:∀ v,U0 cg x q v=(q',η')->∀ a,Wd (q'.dw a):=by
  intro v hv
  unfold U0 at hv
  split at hv <;> (obtain⟨rfl,-⟩:=Prod.mk.inj hv;exact h)
 cases η with
 | over=>obtain⟨rfl,-⟩:=Prod.mk.inj ht;exact h
 | go v Z j u =>
  cases u with
  | none =>
   simp only[YQ] at ht
   split at ht
   . exact e v ht
   . split at ht <;> (obtain⟨rfl,-⟩:=Prod.mk.inj ht;exact h)
  | some u =>
   simp only[YQ] at ht
   split at ht
   . exact e v ht
   . split at ht
     . obtain⟨rfl,-⟩:=Prod.mk.inj ht
       intro a
       show Wd (upd q.dw _ _ a)
       unfold upd
       split
       . exact NL _ _
       . exact h a
     . obtain⟨rfl,-⟩:=Prod.mk.inj ht;exact h
theorem PQ {t n k m:Nat} {cg:Int} {own:Bool} {x G:Nat} {q:Q} {α:Dp} {q':Q} {α':Dp} (h:∀ a,Wd (q.dw a)) (ht:Zl t n k m cg own x G q α=(q',α')):∀ a,Wd (q'.dw a):=by
 cases α with
 | see=>obtain⟨rfl,-⟩:=Prod.mk.inj ht;exact h
 | ask v=>obtain⟨rfl,-⟩:=Prod.mk.inj ht;exact h
 | mark v Z =>
  simp only[Zl] at ht
  split at ht <;> (obtain⟨rfl,-⟩:=Prod.mk.inj ht;exact h)
 | VA η =>
  obtain⟨q1,η1,h1⟩:∃ q1 η1,YQ cg x q η=(q1,η1):=⟨_,_,rfl⟩
  simp only[Zl,h1] at ht
  have:=Ul h h1
  cases η1 <;> (simp only[TK] at ht;obtain⟨rfl,-⟩:=Prod.mk.inj ht;exact this)
 | fin Z i η =>
  obtain⟨q1,η1,h1⟩:∃ q1 η1,YQ cg x q η=(q1,η1):=⟨_,_,rfl⟩
  simp only[Zl,h1] at ht
  have:=Ul h h1
  cases η1 <;> (simp only[SH] at ht;obtain⟨rfl,-⟩:=Prod.mk.inj ht;exact this)
 | count Z i=>obtain⟨rfl,-⟩:=Prod.mk.inj ht;exact h
 | give γ =>
  obtain⟨c',lk',F',γ',h1⟩:∃ c' lk' F' γ',YZ q.c q.lk q.F x γ=(c',lk',F',γ'):=⟨_,_,_,_,rfl⟩
  simp only[Zl,h1] at ht
  cases γ' <;> (simp only[TJ] at ht;obtain⟨rfl,-⟩:=Prod.mk.inj ht;exact h)
 | over=>obtain⟨rfl,-⟩:=Prod.mk.inj ht;exact h
section
variable {w:World} {L:Loc} {t n k m σ:Nat} {s:Mm} {q:Q} {nu:Int} {own:Bool}
end
end
section
end
section
end
section
end
section
structure CV where
 nx:Int
 kd:Int
 nu:Int
 ix:Int
 vl:Int
 ol:Int
 own:Bool
 se:Int
 at_:Int
 sz:Int
 ce:Int
 ld:Int
 hl:List Value
 E:Int
 H:Int
 V:Int
 St:Int
structure ZL (w:World) (b o:Nat) (T:TypeId) (c:Array Value) (a:CV):Prop where
 obj:w.heap[b]?=some (.cells c T (0,0))
 YS:a.hl.length=8
 hl:∀ i v,a.hl[i]?=some v->c[o+12+i]?=some v
 nx:c[o]?=some (iV a.nx)
 kd:c[o+1]?=some (iV a.kd)
 nu:c[o+2]?=some (.int .u64 a.nu)
 ix:c[o+3]?=some (iV a.ix)
 vl:c[o+4]?=some (iV a.vl)
 ol:c[o+5]?=some (iV a.ol)
 own:c[o+6]?=some (.bool a.own)
 se:c[o+7]?=some (.int .u64 a.se)
 at_:c[o+8]?=some (iV a.at_)
 sz:c[o+9]?=some (iV a.sz)
 ce:c[o+10]?=some (.int .u64 a.ce)
 ld:c[o+11]?=some (iV a.ld)
 E:c[o+20]?=some (iV a.E)
 H:c[o+21]?=some (.int .u64 a.H)
 V:c[o+22]?=some (iV a.V)
 St:c[o+23]?=some (iV a.St)
namespace ZL
variable {w w':World} {b o:Nat} {T:TypeId} {c c':Array Value} {a:CV}
theorem lt (h:ZL w b o T c a):b<w.heap.size:=WS h.obj
theorem fz (h:ZL w b o T c a) (i:Nat):w.frozen? ⟨b,i,none⟩=false:=Y1 h.obj i
theorem of_block (h:ZL w b o T c a) (e:w'.heap[b]?=w.heap[b]?):ZL w' b o T c a:={ h with obj:=e.trans h.obj }
theorem grown (h:ZL w b o T c a) (g:Below w.heap.size w w'):ZL w' b o T c a:=h.of_block (g.block _ h.lt)
theorem drew (h:ZL w b o T c a):ZL w.drew b o T c a:=h.of_block rfl
theorem only {S:Nat->Prop} (h:ZL w b o T c a) (g:Only S w w') (hs:¬ S b):ZL w' b o T c a:=h.of_block (g.block _ h.lt hs)
theorem other (h:ZL w b o T c a) {k:Nat} (hk:b≠k) (i:Nat) (v:Value):ZL (w.setCell ⟨k,i,none⟩ v) b o T c a:=h.of_block (Go.Deep.blk_setCell_other _ _ _ _ (by simpa using hk))
theorem ZE (h:ZL w b o T c a):w.cell? ⟨b,o,none⟩=some (iV a.nx):=ZX h.obj h.nx
theorem TW (h:ZL w b o T c a):w.cell? ⟨b,o+1,none⟩=some (iV a.kd):=ZX h.obj h.kd
theorem Vo (h:ZL w b o T c a):w.cell? ⟨b,o+2,none⟩=some (.int .u64 a.nu):=ZX h.obj h.nu
theorem Tj (h:ZL w b o T c a):w.cell? ⟨b,o+3,none⟩=some (iV a.ix):=ZX h.obj h.ix
theorem Jt (h:ZL w b o T c a):w.cell? ⟨b,o+4,none⟩=some (iV a.vl):=ZX h.obj h.vl
theorem Ik (h:ZL w b o T c a):w.cell? ⟨b,o+5,none⟩=some (iV a.ol):=ZX h.obj h.ol
theorem Uu (h:ZL w b o T c a):w.cell? ⟨b,o+6,none⟩=some (.bool a.own):=ZX h.obj h.own
theorem XR (h:ZL w b o T c a):w.cell? ⟨b,o+7,none⟩=some (.int .u64 a.se):=ZX h.obj h.se
theorem Qv (h:ZL w b o T c a):w.cell? ⟨b,o+8,none⟩=some (iV a.at_):=ZX h.obj h.at_
theorem XQ (h:ZL w b o T c a):w.cell? ⟨b,o+9,none⟩=some (iV a.sz):=ZX h.obj h.sz
theorem PZ (h:ZL w b o T c a):w.cell? ⟨b,o+10,none⟩=some (.int .u64 a.ce):=ZX h.obj h.ce
theorem Js (h:ZL w b o T c a):w.cell? ⟨b,o+11,none⟩=some (iV a.ld):=ZX h.obj h.ld
theorem MN (h:ZL w b o T c a):w.cell? ⟨b,o+20,none⟩=some (iV a.E):=ZX h.obj h.E
theorem MS (h:ZL w b o T c a):w.cell? ⟨b,o+21,none⟩=some (.int .u64 a.H):=ZX h.obj h.H
theorem MM (h:ZL w b o T c a):w.cell? ⟨b,o+22,none⟩=some (iV a.V):=ZX h.obj h.V
theorem Vm (h:ZL w b o T c a):w.cell? ⟨b,o+23,none⟩=some (iV a.St):=ZX h.obj h.St
theorem Zx (h:ZL w b o T c a) (x:Int):ZL (w.setCell ⟨b,o,none⟩ (iV x)) b o T (c.setIfInBounds (o) (iV x)) { a with nx:=x } :=
 ⟨ZZ _ _ _ _ _ _ h.obj,h.YS,ZW h.hl _ (by have:=h.YS;omega),YM _ h.nx,Z9 h.kd (by omega),Z9 h.nu (by omega),Z9 h.ix (by omega),Z9 h.vl (by omega),Z9 h.ol (by omega),Z9 h.own (by omega),Z9 h.se (by omega),Z9 h.at_ (by omega),Z9 h.sz (by omega),Z9 h.ce (by omega),Z9 h.ld (by omega),Z9 h.E (by omega),Z9 h.H (by omega),Z9 h.V (by omega),Z9 h.St (by omega)⟩
theorem Rt (h:ZL w b o T c a) (x:Int):ZL (w.setCell ⟨b,o+7,none⟩ (.int .u64 x)) b o T (c.setIfInBounds (o+7) (.int .u64 x)) { a with se:=x } :=
 ⟨ZZ _ _ _ _ _ _ h.obj,h.YS,ZW h.hl _ (by have:=h.YS;omega),Z9 h.nx (by omega),Z9 h.kd (by omega),Z9 h.nu (by omega),Z9 h.ix (by omega),Z9 h.vl (by omega),Z9 h.ol (by omega),Z9 h.own (by omega),YM _ h.se,Z9 h.at_ (by omega),Z9 h.sz (by omega),Z9 h.ce (by omega),Z9 h.ld (by omega),Z9 h.E (by omega),Z9 h.H (by omega),Z9 h.V (by omega),Z9 h.St (by omega)⟩
theorem ML (h:ZL w b o T c a) (x:Int):ZL (w.setCell ⟨b,o+8,none⟩ (iV x)) b o T (c.setIfInBounds (o+8) (iV x)) { a with at_:=x } :=
 ⟨ZZ _ _ _ _ _ _ h.obj,h.YS,ZW h.hl _ (by have:=h.YS;omega),Z9 h.nx (by omega),Z9 h.kd (by omega),Z9 h.nu (by omega),Z9 h.ix (by omega),Z9 h.vl (by omega),Z9 h.ol (by omega),Z9 h.own (by omega),Z9 h.se (by omega),YM _ h.at_,Z9 h.sz (by omega),Z9 h.ce (by omega),Z9 h.ld (by omega),Z9 h.E (by omega),Z9 h.H (by omega),Z9 h.V (by omega),Z9 h.St (by omega)⟩
theorem TV (h:ZL w b o T c a) (x:Int):ZL (w.setCell ⟨b,o+9,none⟩ (iV x)) b o T (c.setIfInBounds (o+9) (iV x)) { a with sz:=x } :=
 ⟨ZZ _ _ _ _ _ _ h.obj,h.YS,ZW h.hl _ (by have:=h.YS;omega),Z9 h.nx (by omega),Z9 h.kd (by omega),Z9 h.nu (by omega),Z9 h.ix (by omega),Z9 h.vl (by omega),Z9 h.ol (by omega),Z9 h.own (by omega),Z9 h.se (by omega),Z9 h.at_ (by omega),YM _ h.sz,Z9 h.ce (by omega),Z9 h.ld (by omega),Z9 h.E (by omega),Z9 h.H (by omega),Z9 h.V (by omega),Z9 h.St (by omega)⟩
theorem Kw (h:ZL w b o T c a) (x:Int):ZL (w.setCell ⟨b,o+10,none⟩ (.int .u64 x)) b o T (c.setIfInBounds (o+10) (.int .u64 x)) { a with ce:=x } :=
 ⟨ZZ _ _ _ _ _ _ h.obj,h.YS,ZW h.hl _ (by have:=h.YS;omega),Z9 h.nx (by omega),Z9 h.kd (by omega),Z9 h.nu (by omega),Z9 h.ix (by omega),Z9 h.vl (by omega),Z9 h.ol (by omega),Z9 h.own (by omega),Z9 h.se (by omega),Z9 h.at_ (by omega),Z9 h.sz (by omega),YM _ h.ce,Z9 h.ld (by omega),Z9 h.E (by omega),Z9 h.H (by omega),Z9 h.V (by omega),Z9 h.St (by omega)⟩
theorem Kv (h:ZL w b o T c a) (x:Int):ZL (w.setCell ⟨b,o+11,none⟩ (iV x)) b o T (c.setIfInBounds (o+11) (iV x)) { a with ld:=x } :=
 ⟨ZZ _ _ _ _ _ _ h.obj,h.YS,ZW h.hl _ (by have:=h.YS;omega),Z9 h.nx (by omega),Z9 h.kd (by omega),Z9 h.nu (by omega),Z9 h.ix (by omega),Z9 h.vl (by omega),Z9 h.ol (by omega),Z9 h.own (by omega),Z9 h.se (by omega),Z9 h.at_ (by omega),Z9 h.sz (by omega),Z9 h.ce (by omega),YM _ h.ld,Z9 h.E (by omega),Z9 h.H (by omega),Z9 h.V (by omega),Z9 h.St (by omega)⟩
theorem Ti (h:ZL w b o T c a) (x:Int):ZL (w.setCell ⟨b,o+20,none⟩ (iV x)) b o T (c.setIfInBounds (o+20) (iV x)) { a with E:=x } :=
 ⟨ZZ _ _ _ _ _ _ h.obj,h.YS,ZW h.hl _ (by have:=h.YS;omega),Z9 h.nx (by omega),Z9 h.kd (by omega),Z9 h.nu (by omega),Z9 h.ix (by omega),Z9 h.vl (by omega),Z9 h.ol (by omega),Z9 h.own (by omega),Z9 h.se (by omega),Z9 h.at_ (by omega),Z9 h.sz (by omega),Z9 h.ce (by omega),Z9 h.ld (by omega),YM _ h.E,Z9 h.H (by omega),Z9 h.V (by omega),Z9 h.St (by omega)⟩
theorem Ut (h:ZL w b o T c a) (x:Int):ZL (w.setCell ⟨b,o+21,none⟩ (.int .u64 x)) b o T (c.setIfInBounds (o+21) (.int .u64 x)) { a with H:=x } :=
 ⟨ZZ _ _ _ _ _ _ h.obj,h.YS,ZW h.hl _ (by have:=h.YS;omega),Z9 h.nx (by omega),Z9 h.kd (by omega),Z9 h.nu (by omega),Z9 h.ix (by omega),Z9 h.vl (by omega),Z9 h.ol (by omega),Z9 h.own (by omega),Z9 h.se (by omega),Z9 h.at_ (by omega),Z9 h.sz (by omega),Z9 h.ce (by omega),Z9 h.ld (by omega),Z9 h.E (by omega),YM _ h.H,Z9 h.V (by omega),Z9 h.St (by omega)⟩
theorem Tf (h:ZL w b o T c a) (x:Int):ZL (w.setCell ⟨b,o+22,none⟩ (iV x)) b o T (c.setIfInBounds (o+22) (iV x)) { a with V:=x } :=
 ⟨ZZ _ _ _ _ _ _ h.obj,h.YS,ZW h.hl _ (by have:=h.YS;omega),Z9 h.nx (by omega),Z9 h.kd (by omega),Z9 h.nu (by omega),Z9 h.ix (by omega),Z9 h.vl (by omega),Z9 h.ol (by omega),Z9 h.own (by omega),Z9 h.se (by omega),Z9 h.at_ (by omega),Z9 h.sz (by omega),Z9 h.ce (by omega),Z9 h.ld (by omega),Z9 h.E (by omega),Z9 h.H (by omega),YM _ h.V,Z9 h.St (by omega)⟩
theorem WR (h:ZL w b o T c a) (x:Int):ZL (w.setCell ⟨b,o+23,none⟩ (iV x)) b o T (c.setIfInBounds (o+23) (iV x)) { a with St:=x } :=
 ⟨ZZ _ _ _ _ _ _ h.obj,h.YS,ZW h.hl _ (by have:=h.YS;omega),Z9 h.nx (by omega),Z9 h.kd (by omega),Z9 h.nu (by omega),Z9 h.ix (by omega),Z9 h.vl (by omega),Z9 h.ol (by omega),Z9 h.own (by omega),Z9 h.se (by omega),Z9 h.at_ (by omega),Z9 h.sz (by omega),Z9 h.ce (by omega),Z9 h.ld (by omega),Z9 h.E (by omega),Z9 h.H (by omega),Z9 h.V (by omega),YM _ h.St⟩
end ZL
def WQ (L:Loc) (b o:Nat) (T:TypeId) (cs:Array Value) (w w':World) (X:Mm->CV->Prop):Prop :=
 ∃ s' cs' a',Z8 w' L s'/\Only (L.and b) w w'/\ZL w' b o T cs' a'/\Same o 24 cs cs'/\X s' a'
def MK (L:Loc) (b o:Nat) (T:TypeId) (c c':Array Value) (s s':Mm) (a a':CV):Nat->World->Prop
 | 0,w=>Z8 w L s/\ZL w b o T c a
 | 1,w=>Z8 w L s'/\ZL w b o T c a
 | _,w=>Z8 w L s'/\ZL w b o T c' a'
theorem Vl {L:Loc} {b o:Nat} {T:TypeId} {c c':Array Value} {s s':Mm} {a a':CV} (x y:World) (p:Nat) (g:Grown x y) (k:MK L b o T c c' s s' a a' p x):MK L b o T c c' s s' a a' p y:=by
 match p,k with
 | 0,k=>exact⟨k.1.below g,k.2.grown g⟩
 | 1,k=>exact⟨k.1.below g,k.2.grown g⟩
 | p+2,k=>exact⟨k.1.below g,k.2.grown g⟩
def Ij (kd nu ix vl ol:Int) (own:Bool):CV:=⟨0,kd,nu,ix,vl,ol,own,0,0,0,0,0,X7 0 0 0 0 0 false false false,0,0,0,0⟩
def Oq (kd nu ix vl ol:Int) (own:Bool):Obj:=.cells #[iV 0,iV kd,.int .u64 nu,iV ix,iV vl,iV ol,.bool own,.int .u64 0,iV 0,iV 0,.int .u64 0,iV 0,iV 0,.int .u64 0,iV 0,iV 0,.int .u64 0,.bool false,.bool false,.bool false,iV 0,.int .u64 0,iV 0,iV 0] 147
theorem Rq (kd nu ix vl ol:Int) (own:Bool) (w:World) :
 Calls Tryz.prog 80 #[.agg #[iV kd,.int .u64 nu,iV ix,iV vl,iV ol],.bool own] w fun e w'=>∃ W,e=.returned (pP W.heap.size 0)/\w'=W.alloc (Oq kd nu ix vl ol own)/\Below w.heap.size w W:=by
 unfold Oq
 go_enter Tryz.func80,Tryz.ntmps80
 go_wp2
 go_ret
 exact⟨w.alloc _,by rw[Go.Deep.nblk_alloc];rfl,rfl,ZY _ _⟩
theorem Qu (kd nu ix vl ol:Int) (own:Bool) (w:World):∃ cs,ZL (w.alloc (Oq kd nu ix vl ol own)) w.heap.size 0 147 cs (Ij kd nu ix vl ol own):=by
 refine⟨_,Go.Deep.blk_alloc_new _ _,rfl,fun i v hv=>?_,rfl,rfl,rfl,rfl,rfl,rfl,rfl,rfl,rfl,rfl,rfl,rfl,rfl,rfl,rfl,rfl⟩
 have hl:i<8:=lt_of_some hv
 match i,hl with
 | 0,_=>exact hv
 | 1,_=>exact hv
 | 2,_=>exact hv
 | 3,_=>exact hv
 | 4,_=>exact hv
 | 5,_=>exact hv
 | 6,_=>exact hv
 | 7,_=>exact hv
theorem Us {w:World} {b o:Nat} {T:TypeId} {cs:Array Value} {a:CV} (hi:ZL w b o T cs a) :
 Calls Tryz.prog 180 #[pP b o] w fun e w'=>e=.returned (.agg #[iV a.E,.int .u64 a.H,iV a.V,iV a.St])/\Below w.heap.size w w':=by
 have i1:=hi.grown (ZY _ (.cells #[iV 0,.int .u64 0,iV 0,iV 0] 51))
 have k1:=i1.MN
 have k2:=i1.MS
 have k3:=i1.MM
 have k4:=i1.Vm
 have j1:=hi.MN
 have j2:=hi.MS
 have j3:=hi.MM
 have j4:=hi.Vm
 go_enter Tryz.func180,Tryz.ntmps180
 go_wp2
 exact bodyPost_ret (v:=.agg #[iV a.E,.int .u64 a.H,iV a.V,iV a.St]) (by simp[results,Tryz.results180,go_sem]) rfl ⟨rfl,by first | exact Below.refl _ _ | exact ZY _ _⟩
end
end Go.Proofs.YtibmjlefcaonnaaGreat
