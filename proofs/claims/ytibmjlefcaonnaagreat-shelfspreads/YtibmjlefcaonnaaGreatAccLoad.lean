import Derived.Test.YtibmjlefcaonnaaGreatDropGo
namespace Go.Proofs.YtibmjlefcaonnaaGreat
open Go.RowKit
section
theorem QA (G:Nat) (hG:G<=65535):Zw 0 0 (G:Int) 0=G * 8388608:=by
 unfold Zw
 rw[Y8 0 3 (by omega) (by decide),Y8 0 20 (by omega) (by decide),Y8 G 16 (by omega) (by simp;omega),Y8 0 22 (by omega) (by decide)]
 omega
theorem Gz {G:Nat} (hG:G<=65535):Zy (Zw 0 0 (G:Int) 0)=G:=by
 rw[QA G hG]
 unfold Zy
 omega
section
variable {t n k m κ nx:Nat} {q:Q} {gen:Nat->Nat} {own:Bool}
end
section
variable {w0 w w':World} {L:Loc} {bE t n k m σ nx:Nat} {cg:Int} {s:Mm} {q:Q} {gen:Nat->Nat} {own:Bool}
end
end
section
def ZB (v:Int):Nat:=(v / 8 % 1048576).toNat
def Y3 (v:Int):Nat:=(v / 549755813888 % 4194304).toNat
def U5 (u:Int):Nat:=(u / 4 % 65536).toNat
def Xy (u:Int):Bool:=decide (u / 1125899906842624 % 2=1)
def frozenIn (u:Int) (V:Nat):Bool:=decide (9223372036854775808<=u) && decide (u / 1099511627776 % 4194304=(V:Int))
def froze (u:Int) (V:Nat):Int:=Yt (u % 1099511627776) true V
def XU (v:Int):Int:=Zw 4 (ZB v) (Zy v) (Y3 v+1)
def Yq (cg:Int) (v:Int):Int:=if cg<=(Zy v:Int) then Zw 3 0 (Zy v) 0 else Zw 0 0 ((Zy v:Int)+1) 0
def Wd (v:Int):Prop:=0<=v/\v<=18446744073709551615
theorem Xz (v:Int) (h:Wd v):YE v (v % 8) (ZB v) (Zy v) (Y3 v) :=
 ⟨h.1,h.2,rfl,by unfold ZB;omega,by unfold Zy;omega,by unfold Y3;omega⟩
theorem Qb (v:Int):ZB v<=1048575:=by unfold ZB;omega
theorem G8 (u:Int) (h:Wd u):Ub u (u % 4) (U5 u) (u / 262144 % 65536) (u / 17179869184 % 65536) (Xy u) :=
 ⟨h.1,h.2,rfl,by unfold U5;omega,rfl,rfl,rfl⟩
theorem OU (a:Int) (f:Bool) (d:Int):Wd (Yt a f d):=Gy a f d
theorem WX (a b c d:Int):Wd (Zw a b c d):=⟨(RU a b c d).1,Int.le_trans (RU a b c d).2 (by decide)⟩
theorem Vu (a b c d:Int) (o:Bool):Wd (Zj a b c d o):=⟨(VB a b c d o).1,Int.le_trans (VB a b c d o).2 (by decide)⟩
theorem Oq (u:Int) (V:Nat):Wd (froze u V):=OU _ _ _
theorem RP (cg v:Int):Wd (Yq cg v):=by unfold Yq;split <;> exact WX _ _ _ _
inductive Hp where
 | go (v:Int) (Z j:Nat) (u:Option Int)
 | over (YF:Bool)
def Hp.ZR:Hp->Bool
 | .over _=>true
 | _=>false
def VX (cg:Int) (x:Nat) (q:Q) (v:Int):Q × Hp :=
 if q.sw x=v then ({ q with sw:=upd q.sw x (Yq cg v) },.over true) else (q,.over false)
def Zl (cg:Int) (x:Nat) (q:Q):Hp->Q × Hp
 | .go v Z j none=>if Z<=j then VX cg x q v else if frozenIn (q.dw (ZB v+1+j)) (Y3 v) then (q,.go v Z (j+1) none) else (q,.go v Z j (some (q.dw (ZB v+1+j))))
 | .go v Z j (some u)=>if Z<=j then VX cg x q v else if q.dw (ZB v+1+j)=u then ({ q with dw:=upd q.dw (ZB v+1+j) (froze u (Y3 v)) },.go v Z (j+1) none) else (q,.go v Z j none)
 | .over w=>(q,.over w)
def Hp.cells (x:Nat):Hp->List Value->Prop
 | .go v Z j none,l=>∃ se,l=Xf x v Z j se false false false
 | .go v Z j (some u),l=>l=Xf x v Z j u true false false
 | .over w,l=>∃ v Z j se ld,l=Xf x v Z j se ld true w
theorem Hp.Zt {x:Nat} {η:Hp} {l:List Value} (h:η.cells x l):l.length=8:=by
 cases η with
 | go v Z j u =>
  cases u with
  | none=>obtain⟨_,rfl⟩:=h;rfl
  | some u=>have h':l=_:=h;subst h';rfl
 | over w=>obtain⟨_,_,_,_,_,rfl⟩:=h;rfl
theorem Hp.X4 {x:Nat} {η:Hp} {l:List Value} (h:η.cells x l):l[6]?=some (.bool η.ZR):=by
 cases η with
 | go v Z j u =>
  cases u with
  | none=>obtain⟨_,rfl⟩:=h;rfl
  | some u=>have h':l=_:=h;subst h';rfl
 | over w=>obtain⟨_,_,_,_,_,rfl⟩:=h;rfl
structure UJ (t n k m:Nat) (v:Int) (Z i:Nat):Prop where
 wd:Wd v
 life:YU (v % 8)=true
 z1:1<=Z
 z2:Z<=16
 ik:i<k
 ad:∃ u,u+Z<m/\ZB v=base t n k m i+u
theorem UJ.c1 {t n k m:Nat} {v:Int} {Z i:Nat} (h:UJ t n k m v Z i):Za t n k m (ZB v)=i:=by
 obtain⟨u,hu,e⟩:=h.ad
 rw[e];exact RS (u:=u) h.ik (by have:=h.z1;omega)
theorem UJ.c2 {t n k m:Nat} {v:Int} {Z i:Nat} (h:UJ t n k m v Z i):Za t n k m ((ZB v:Int)+(Z:Int))=i:=by
 obtain⟨u,hu,e⟩:=h.ad
 have:(ZB v:Int)+(Z:Int)=((base t n k m i+(u+Z):Nat):Int):=by rw[e];omega
 rw[this];exact RS h.ik hu
theorem UJ.EO {t n k m:Nat} {v:Int} {Z i:Nat} (h:UJ t n k m v Z i):6+t+n * 2+k * 3<=ZB v/\ZB v+Z<6+t+n * 2+k * 3+k * m:=by
 obtain⟨u,hu,e⟩:=h.ad
 have:=PT (t:=t) (n:=n) (m:=m) (u:=u) (r:=Z+1) h.ik (by omega)
 rw[e];omega
def Hp.good (t n k m:Nat):Hp->Prop
 | .go v Z _ u=>(∃ i,UJ t n k m v Z i)/\∀ u',u=some u'->Wd u'
 | .over _=>True
def Hp.at (t x:Nat):Hp->Nat
 | .go v Z j _=>if Z<=j then 6+t+x * 2 else ZB v+1+j
 | .over _=>0
section
variable {w:World} {L:Loc} {s:Mm} {b o:Nat} {T:TypeId} {cs:Array Value} {t n k m σ:Nat} {g p r:Int} {q:Q}
theorem UK {s:Mm} {who:Int} {a:Nat} {old v:Int} (h:s.wd a=old):(s.by who).Wi a old v=(s.by who).step a v:=by
 show (if s.wd a=old then _ else _)=_
 rw[if_pos h]
theorem V7 {s:Mm} {who:Int} {a:Nat} {old v:Int} (h:s.wd a≠old):(s.by who).Wi a old v=(s.by who).step a (s.wd a):=by
 show (if s.wd a=old then _ else _)=_
 rw[if_neg h];rfl
set_option maxHeartbeats 400000 in
theorem Vt (h:Z7 w L s) (hb:¬ L.has b) (hT:Y5 t n k m s σ q) (hG:Good t n k m g p r) (hσ:σ<1000000) (hdw:∀ a,Wd (q.dw a)) {x:Nat} (hx:x<n) (η:Hp) {l:List Value} (hi:At w b o T cs l) (hc:η.cells x l) (hg:η.good t n k m) (ho:η.ZR=false) (who:Int) (q':Q) (η':Hp) (hq:Zl g x q η=(q',η')) (d:Bool) (hd:η'.ZR=d) :
 Calls Tryz.prog 162 #[pP b o,eV t n k m g p r L.p who] w fun e w'=>e=.returned (.bool d)/\Tj L b o T cs w w' (fun s' l'=>Y5 t n k m s' (σ+1) q'/\η'.cells x l'/\∃ v,s'=(s.by who).step (η.at t x) v):=by
 have hlen:ZG t n k m<=s.n:=by rw[hT.len];exact Nat.le_refl _
 have hlen':=hT.len
 have hxs:6+t+x * 2<s.n:=by omega
 cases η with
 | over=>cases ho
 | go v Z j u =>
  obtain⟨⟨i,O⟩,hu⟩:=hg
  have sl:=Xz v O.wd
  have ab:=Qb v
  have z1:=O.z1
  have z2:=O.z2
  have hin:=O.EO
  have gb:=RV v
  have g1:=hG.g1
  by_cases hj:Z<=j
  . have hq1:VX g x q v=(q',η'):=by
     cases u <;> simpa [Zl,hj] using hq
    have hat:Hp.at t x (.go v Z j u)=6+t+x * 2:=by simp[Hp.at,hj]
    rw[hat]
    obtain⟨se,ld,rfl⟩:∃ se ld,l=Xf x v Z j se ld false false:=by
     cases u with
     | none=>obtain⟨se,rfl⟩:=hc;exact⟨se,false,rfl⟩
     | some u=>exact⟨u,true,hc⟩
    have key:∀ (nw:Int),Yq g v=nw->(∀ w1:World,Z7 w1 L s->At w1 b o T cs (Xf x v Z j se ld false false)->Calls Tryz.prog 171 #[pP b o,eV t n k m g p r L.p who,.agg #[iV (v % 8),iV (ZB v),iV (Zy v),iV (Y3 v)]] w1 fun e w'=>e=.returned (.tuple #[])/\Tj L b o T cs w1 w' (fun s' l'=>s'=(s.by who).Wi (6+t+x * 2) v nw/\l'=Xf x v Z j se ld true (decide (s.wd (6+t+x * 2)=v)))) ->
     Calls Tryz.prog 162 #[pP b o,eV t n k m g p r L.p who] w fun e w'=>e=.returned (.bool d)/\Tj L b o T cs w w' (fun s' l'=>Y5 t n k m s' (σ+1) q'/\η'.cells x l'/\∃ v,s'=(s.by who).step (6+t+x * 2) v):=by
     intro nw hnw hcall
     refine XE h hi who hG hlen hx sl O.life ab (by omega) (by omega) (i:=(i:Int)) (by omega) O.c1 O.c2 (decide_eq_true (by omega)) (Or.inl ⟨rfl,rfl⟩) _ d (fun s' l' P=>by rw[<- hd];exact Hp.X4 P.2.1) fun w1 m1 i1=>(hcall w1 m1 i1).mono ?_
     rintro e w' ⟨rfl,s',cs',l',m',o',i',q9,rfl,rfl⟩
     refine⟨rfl,_,cs',_,m',o',i',q9,?_⟩
     by_cases hw:q.sw x=v
     . have hw':s.wd (6+t+x * 2)=v:=by rw[hT.QE x hx];exact hw
       simp only[VX,hw,if_true] at hq1
       obtain⟨rfl,rfl⟩:=Prod.mk.inj hq1
       rw[UK hw',decide_eq_true hw',<- hnw]
       exact⟨hT.shows hσ who hx _ (RP g v).1 (RP g v).2,⟨_,_,_,_,_,rfl⟩,_,rfl⟩
     . have hw':s.wd (6+t+x * 2)≠v:=by rw[hT.QE x hx];exact hw
       simp only[VX,hw,if_false] at hq1
       obtain⟨rfl,rfl⟩:=Prod.mk.inj hq1
       rw[V7 hw',decide_eq_false hw']
       exact⟨hT.same hσ who _,⟨_,_,_,_,_,rfl⟩,_,rfl⟩
    by_cases hl:g<=(Zy v:Int)
    . exact key _ (by unfold Yq;rw[if_pos hl]) fun w1 m1 i1=>Ou m1 hb i1 who _ _ _ _ hG (by omega) (by omega) (Or.inr ⟨hl,rfl,rfl⟩) hx rfl hxs
    . exact key _ (by unfold Yq;rw[if_neg hl]) fun w1 m1 i1=>Ou m1 hb i1 who _ _ _ _ hG (by omega) (by omega) (Or.inl ⟨by omega,rfl,rfl⟩) hx rfl hxs
  . have hat:Hp.at t x (.go v Z j u)=ZB v+1+j:=by simp[Hp.at,hj]
    rw[hat]
    have hn:ZB v+1+j<s.n:=by omega
    have hwd:s.wd (ZB v+1+j)=q.dw (ZB v+1+j):=hT.JP _ (by omega)
    cases u with
    | none =>
     obtain⟨se,rfl⟩:=hc
     simp only[Zl,hj,if_false] at hq
     have cell:CellIs (q.dw (ZB v+1+j)) _ _ _:=⟨(hdw _).1,(hdw _).2,rfl,rfl,rfl⟩
     by_cases hf:frozenIn (q.dw (ZB v+1+j)) (Y3 v)=true
     . rw[if_pos hf] at hq
       obtain⟨rfl,rfl⟩:=Prod.mk.inj hq
       have hf':=hf
       unfold frozenIn at hf'
       rw[Bool.and_eq_true] at hf'
       obtain⟨f1,f2⟩:=hf'
       refine XE h hi who hG hlen hx sl O.life ab (by omega) (by omega) (i:=(i:Int)) (by omega) O.c1 O.c2 (decide_eq_false (by omega)) (Or.inr (Or.inr ⟨rfl,rfl,rfl⟩)) _ d (fun s' l' P=>by rw[<- hd];exact Hp.X4 P.2.1) fun w1 m1 i1=>(TV m1 hb i1 who _ _ _ _ ab (by omega) hwd cell (Or.inl ⟨f1,(by rw[if_pos (of_decide_eq_true f1)];exact of_decide_eq_true f2),rfl,rfl⟩) hn).mono ?_
       rintro e w' ⟨rfl,s',cs',l',m',o',i',q9,rfl,rfl⟩
       exact⟨rfl,_,cs',_,m',o',i',q9,hT.same hσ who _,⟨_,rfl⟩,_,rfl⟩
     . rw[if_neg hf] at hq
       obtain⟨rfl,rfl⟩:=Prod.mk.inj hq
       unfold frozenIn at hf
       rw[Bool.and_eq_true] at hf
       by_cases f1:decide (9223372036854775808<=q.dw (ZB v+1+j))=true
       . refine XE h hi who hG hlen hx sl O.life ab (by omega) (by omega) (i:=(i:Int)) (by omega) O.c1 O.c2 (decide_eq_false (by omega)) (Or.inr (Or.inr ⟨rfl,rfl,rfl⟩)) _ d (fun s' l' P=>by rw[<- hd];exact Hp.X4 P.2.1) fun w1 m1 i1=>(TV m1 hb i1 who _ _ _ _ ab (by omega) hwd cell (Or.inr ⟨fun _=>(by rw[if_pos (of_decide_eq_true f1)];exact fun e=>hf ⟨f1,decide_eq_true e⟩),rfl,rfl⟩) hn).mono ?_
         rintro e w' ⟨rfl,s',cs',l',m',o',i',q9,rfl,rfl⟩
         exact⟨rfl,_,cs',_,m',o',i',q9,hT.same hσ who _,rfl,_,rfl⟩
       . refine XE h hi who hG hlen hx sl O.life ab (by omega) (by omega) (i:=(i:Int)) (by omega) O.c1 O.c2 (decide_eq_false (by omega)) (Or.inr (Or.inr ⟨rfl,rfl,rfl⟩)) _ d (fun s' l' P=>by rw[<- hd];exact Hp.X4 P.2.1) fun w1 m1 i1=>(TV m1 hb i1 who _ _ _ _ ab (by omega) hwd cell (Or.inr ⟨fun e=>absurd e f1,rfl,rfl⟩) hn).mono ?_
         rintro e w' ⟨rfl,s',cs',l',m',o',i',q9,rfl,rfl⟩
         exact⟨rfl,_,cs',_,m',o',i',q9,hT.same hσ who _,rfl,_,rfl⟩
    | some u =>
     have hc':l=_:=hc
     subst hc'
     simp only[Zl,hj,if_false] at hq
     have hub:=hu u rfl
     have cell:CellIs u _ _ _:=⟨hub.1,hub.2,rfl,rfl,rfl⟩
     have fv:Fit (Y3 v:Int):=⟨by omega,by unfold Y3;omega⟩
     by_cases hw:q.dw (ZB v+1+j)=u
     . rw[if_pos hw] at hq
       obtain⟨rfl,rfl⟩:=Prod.mk.inj hq
       have hw':s.wd (ZB v+1+j)=u:=hwd.trans hw
       refine XE h hi who hG hlen hx sl O.life ab (by omega) (by omega) (i:=(i:Int)) (by omega) O.c1 O.c2 (decide_eq_false (by omega)) (Or.inr (Or.inl ⟨rfl,rfl,rfl⟩)) _ d (fun s' l' P=>by rw[<- hd];exact Hp.X4 P.2.1) fun w1 m1 i1=>(Tu m1 hb i1 who _ _ _ _ ab (by omega) cell fv (decide_eq_true hw') hn).mono ?_
       rintro e w' ⟨rfl,s',cs',l',m',o',i',q9,rfl,rfl⟩
       rw[UK hw'] at m'
       exact⟨rfl,_,cs',_,m',o',i',q9,hT.lays hσ who (by omega) _,⟨_,rfl⟩,_,rfl⟩
     . rw[if_neg hw] at hq
       obtain⟨rfl,rfl⟩:=Prod.mk.inj hq
       have hw':s.wd (ZB v+1+j)≠u:=by rw[hwd];exact hw
       refine XE h hi who hG hlen hx sl O.life ab (by omega) (by omega) (i:=(i:Int)) (by omega) O.c1 O.c2 (decide_eq_false (by omega)) (Or.inr (Or.inl ⟨rfl,rfl,rfl⟩)) _ d (fun s' l' P=>by rw[<- hd];exact Hp.X4 P.2.1) fun w1 m1 i1=>(Tu m1 hb i1 who _ _ _ _ ab (by omega) cell fv (decide_eq_false hw') hn).mono ?_
       rintro e w' ⟨rfl,s',cs',l',m',o',i',q9,rfl,rfl⟩
       rw[V7 hw'] at m'
       exact⟨rfl,_,cs',_,m',o',i',q9,hT.same hσ who _,⟨_,rfl⟩,_,rfl⟩
end
inductive Dp where
 | see
 | ask (v:Int)
 | mark (v:Int) (Z:Nat)
 | Ve (η:Hp)
 | fin (Z i:Nat) (η:Hp)
 | count (Z i:Nat)
 | give (γ:Gv)
 | over (E:Int)
def Dp.ZR:Dp->Bool
 | .over _=>true
 | _=>false
def Dp.nx:Dp->Int
 | .see=>0
 | .ask _=>1
 | .mark _ _=>2
 | .Ve _=>3
 | .fin _ _ _=>4
 | .count _ _=>5
 | .give _=>6
 | .over _=>7
theorem Dp.UL (α:Dp):(α.nx == 7)=α.ZR:=by cases α <;> rfl
def PY:Q × Hp->Q × Dp
 | (q',.over _)=>(q',.see)
 | (q',η')=>(q',.Ve η')
def V5 (Z i:Nat):Q × Hp->Q × Dp
 | (q',.over _)=>(q',.count Z i)
 | (q',η')=>(q',.fin Z i η')
def Xv (q:Q):Nat × (Nat->Nat) × List Nat × Gv->Q × Dp
 | (c',lk',F',.over)=>({ q with c:=c',lk:=lk',F:=F' },.over 0)
 | (c',lk',F',γ')=>({ q with c:=c',lk:=lk',F:=F' },.give γ')
def Sl (own:Bool) (v u:Int):Dp :=
 if Xy u == own then (if v % 8=4 then .Ve (.go v (U5 u) 0 none) else .mark v (U5 u)) else .over 3
def ZK (t n k m:Nat) (cg:Int) (own:Bool) (x G:Nat) (q:Q):Dp->Q × Dp
 | .see=>(q,if YU (q.sw x % 8) && decide (Zy (q.sw x)=G) then .ask (q.sw x) else .over 3)
 | .ask v=>(q,Sl own v (q.dw (ZB v)))
 | .mark v Z=>if q.sw x=v then ({ q with sw:=upd q.sw x (XU v) },.fin Z (Za t n k m (ZB v)).toNat (.go (XU v) Z 0 none)) else (q,.see)
 | .Ve η=>PY (Zl cg x q η)
 | .fin Z i η=>V5 Z i (Zl cg x q η)
 | .count Z i=>({ q with lv:=upd q.lv i (q.lv i - room (ZI Z).toNat) },if cg<=G then .over 0 else .give .idle)
 | .give γ=>Xv q (Zd q.c q.lk q.F x γ)
 | .over E=>(q,.over E)
def P9 (t n k m:Nat) (q:Q) (v:Int):Prop:=∃ i,UJ t n k m v (U5 (q.dw (ZB v))) i
def Dp.good (t n k m x G:Nat) (q:Q):Dp->Prop
 | .see=>YU (q.sw x % 8)=true->Zy (q.sw x)=G->P9 t n k m q (q.sw x)
 | .ask v=>P9 t n k m q v
 | .mark v Z=>∃ i,UJ t n k m v Z i
 | .Ve η=>η.good t n k m/\η.ZR=false
 | .fin _ _ η=>η.good t n k m/\η.ZR=false
 | .count Z i=>1<=Z/\Z<=16/\i<k/\room (ZI Z).toNat<=q.lv i
 | .give γ=>x∉q.F/\γ.good n q.c q.lk q.F x/\γ.done=false
 | .over _=>True
def Dp.at (t n x:Nat):Dp->Nat
 | .see=>6+t+x * 2
 | .ask v=>ZB v
 | .mark _ _=>6+t+x * 2
 | .Ve η=>η.at t x
 | .fin _ _ η=>η.at t x
 | .count _ i=>6+t+n * 2+i * 3+1
 | .give γ=>γ.at t x
 | .over _=>0
def Dp.sec (t n k m:Nat):Dp->Int->Int->Int->Prop
 | .ask v,se,ch,_=>se=v/\ch=Za t n k m (ZB v)
 | .mark v Z,se,ch,sz=>se=v/\ch=Za t n k m (ZB v)/\sz=Z
 | .fin Z i _,_,ch,sz=>ch=i/\sz=Z
 | .count Z i,_,ch,sz=>ch=i/\sz=Z
 | _,_,_,_=>True
def Dp.hlc (x:Nat):Dp->List Value->Prop
 | .Ve η,l=>η.cells x l
 | .fin _ _ η,l=>η.cells x l
 | _,_=>True
def Dp.qK (x:Nat):Dp->List Value->Prop
 | .give γ,l=>γ.cells x l
 | _,_=>True
def Dp.err:Dp->Int
 | .over E=>E
 | _=>0
structure Ef (t n k m:Nat) (nu:Int) (own:Bool) (x:Nat) (α:Dp) (a:DV):Prop where
 nx:a.nx=α.nx
 nu:a.nu=nu
 ow:a.own=own
 sec:α.sec t n k m a.se a.ch a.sz
 hl:α.hlc x a.hl
 gl:α.qK x a.gl
 E:a.E=α.err
 H:a.H=0
 V:a.V=0
theorem Bc (t n k m:Nat) (nu:Int) (own:Bool) (x:Nat):Ef t n k m nu own x .see (vH nu own):=⟨rfl,rfl,rfl,trivial,trivial,trivial,rfl,rfl,rfl⟩
theorem Y5.Gx {t n k m:Nat} {s:Mm} {σ:Nat} {q:Q} (h:Y5 t n k m s σ q) (hσ:σ<1000000) (who:Int) {i r:Nat} (hi:i<k) (hr:r<=17) (hl:r<=q.lv i) :
 Y5 t n k m ((s.by who).step (6+t+n * 2+i * 3+1) (sum64 (s.wd (6+t+n * 2+i * 3+1)) (Xu (-(r:Int))))) (σ+1) { q with lv:=upd q.lv i (q.lv i - r) }:=by
 have hb:=h.EM i hi
 have hv:sum64 (s.wd (6+t+n * 2+i * 3+1)) (Xu (-(r:Int)))=Jq (q.lv i - r) (q.db i):=by
  rw[h.EN i hi];exact DW _ _ _ hl
 refine⟨h.pile.off hσ who _ _ (by omega) (fun x hx=>by omega),h.U3.off hσ who _ _ (by omega) (fun j hj=>by omega),fun j hj=>?_,fun j hj=>?_,fun x hx=>?_,h.HY,fun b hb=>?_,?_⟩
 . by_cases e:j=i
   . subst e
     rw[Y5.Vy,hv]
     show _=Jq (upd q.lv j (q.lv j - r) j) (q.db j)
     rw[upd_same]
   . rw[Y5.Zx who _ _ _ (by omega)]
     show _=Jq (upd q.lv i (q.lv i - r) j) (q.db j)
     rw[Z8 _ _ _ _ e];exact h.EN j hj
 . show upd q.lv i (q.lv i - r) j<=17 * (σ+1)
   by_cases e:j=i
   . subst e;rw[upd_same];omega
   . rw[Z8 _ _ _ _ e];have:=h.EM j hj;omega
 . rw[Y5.Zx who _ _ _ (by omega)];exact h.QE x hx
 . rw[Y5.Zx who _ _ _ (by omega)];exact h.JP b hb
 . rw[Y5.Zx who _ _ _ (by omega)];exact h.ep
def Dp.reads:Dp->Bool
 | .see=>true
 | .ask _=>true
 | _=>false
def Tl (t x σ:Nat) (s':Mm) (a a':DV):Dp->Dp->Prop
 | .fin _ _ _,.count _ _=>a'.St=s'.wn (6+t+x * 2)
 | .count _ _,_=>a'.St=a.St
 | .give _,_=>a'.St=a.St
 | .see,.over _=>a'.St=((σ+1:Nat):Int)
 | .ask _,.over _=>a'.St=((σ+1:Nat):Int)
 | _,_=>True
structure uZ (w:World) (L:Loc) (s:Mm) (a:DV) (b o:Nat) (T:TypeId) (cs:Array Value) (t n k m σ:Nat) (nu:Int) (own:Bool) (x:Nat) (who:Int) (α:Dp) (q':Q) (α':Dp) (w':World) (s':Mm) (cs':Array Value) (a':DV):Prop where
 mm:Z7 w' L s'
 tw:Y5 t n k m s' (σ+1) q'
 dp:ZJ w' b o T cs' a'
 is:Ef t n k m nu own x α' a'
 same:Same o 21 cs cs'
 only:Only (L.and b) w w'
 st:∃ v,s'=(s.by who).step (α.at t n x) v
 rd:α.reads=true->s'=(s.by who).step (α.at t n x) (s.wd (α.at t n x))
 tl:Tl t x σ s' a a' α α'
theorem Jf {q':Q} {η':Hp} (h:η'.ZR=false):PY (q',η')=(q',.Ve η'):=by
 cases η' with
 | over=>cases h
 | go=>rfl
theorem Gw {Z i:Nat} {q':Q} {η':Hp} (h:η'.ZR=false):V5 Z i (q',η')=(q',.fin Z i η'):=by
 cases η' with
 | over=>cases h
 | go=>rfl
theorem Je {q:Q} {c':Nat} {lk':Nat->Nat} {F':List Nat} {γ':Gv} (h:γ'.done=false):Xv q (c',lk',F',γ')=({ q with c:=c',lk:=lk',F:=F' },.give γ'):=by
 cases γ' with
 | over=>cases h
 | _=>rfl
theorem Hp.UF {η:Hp} (h:η.ZR=true):∃ w,η=.over w:=by
 cases η with
 | over w=>exact⟨w,rfl⟩
 | go=>cases h
theorem MG {Z:Nat} (z1:1<=Z) (z2:Z<=16):ZI Z=((ZI Z).toNat:Nat)/\(ZI Z).toNat<4:=by
 unfold ZI
 rw[if_neg (by omega)]
 repeat' split
 all_goals omega
section
variable {w:World} {L:Loc} {s:Mm} {b o:Nat} {T:TypeId} {cs:Array Value} {a:DV} {t n k m σ:Nat} {g p r:Int} {q:Q} {nu:Int} {own:Bool}
set_option maxHeartbeats 1000000 in
theorem drop_step (h:Z7 w L s) (hb:¬ L.has b) (hT:Y5 t n k m s σ q) (hG:Good t n k m g p r) (hσ:σ<1000000) (hdw:∀ a,Wd (q.dw a)) {x G:Nat} (hh:YZ nu x G) (hx:x<n) (α:Dp) (hi:ZJ w b o T cs a) (his:Ef t n k m nu own x α a) (hg:α.good t n k m x G q) (ho:α.ZR=false) (who:Int) (q':Q) (α':Dp) (hq:ZK t n k m g own x G q α=(q',α')) (d:Bool) (hd:α'.ZR=d) :
 Calls Tryz.prog 155 #[pP b o,eV t n k m g p r L.p who] w fun e w'=>e=.returned (.bool d)/\∃ s' cs' a',uZ w L s a b o T cs t n k m σ nu own x who α q' α' w' s' cs' a':=by
 have hlen:ZG t n k m<=s.n:=by rw[hT.len];exact Nat.le_refl _
 have hlen':=hT.len
 have hmk:k * m<=64 * 256:=Nat.mul_le_mul hG.k1 hG.n1
 have hxs:6+t+x * 2<s.n:=by omega
 have hst:wrap64 (s.steps+1)=((σ+1:Nat):Int):=by rw[hT.pile.st];exact hT.pile.Xe hσ
 have hh':=hh
 obtain⟨Yw,Wl,X7,SA,ihl,sO,iE,iH,iV⟩:=his
 rw[<- Wl] at hh
 have hdn:=Dp.UL α'
 rw[hd] at hdn
 cases α with
 | over=>cases ho
 | see =>
  obtain⟨v,hv⟩:∃ v,q.sw x=v:=⟨_,rfl⟩
  have hwv:s.wd (6+t+x * 2)=v:=by rw[hT.QE x hx];exact hv
  have wv:Wd v:=by rw[<- hv];exact hT.HY x hx
  have sl:=Xz v wv
  simp only[ZK,hv] at hq
  simp only[Dp.good,hv] at hg
  by_cases hl:(YU (v % 8) && decide (Zy v=G))=true
  . rw[if_pos hl] at hq
    obtain⟨rfl,rfl⟩:=Prod.mk.inj hq
    rw[Bool.and_eq_true] at hl
    obtain⟨i,O⟩:=hg hl.1 (of_decide_eq_true hl.2)
    have hl':(YU (v % 8) && ((Zy v:Int) == (G:Int)))=true:=by
     rw[hl.1,of_decide_eq_true hl.2];simp
    refine(YN h hi who hG hlen hh hx Yw (Or.inl ⟨rfl,rfl⟩) _ d ?_ (fun w1 m1 i1=>Ox m1 hb i1 who hG hx hxs hwv sl (ci:=Za t n k m (ZB v)) rfl hl' (by rw[Yw];decide) hst (Or.inr ⟨rfl,(by rw[O.c1];omega),rfl⟩))).mono ?_
    . rintro s' a' ⟨_,rfl⟩
      rw[<- hdn];rfl
    . rintro e w' ⟨rfl,s',cs',a',m',o',i',sm,rfl,rfl⟩
      exact⟨rfl,_,cs',_,m',hT.same hσ who _,i',⟨rfl,Wl,X7,⟨rfl,rfl⟩,trivial,trivial,iE,iH,iV⟩,sm,o',⟨_,rfl⟩,fun _=>rfl,by first | exact trivial | rfl⟩
  . rw[if_neg hl] at hq
    obtain⟨rfl,rfl⟩:=Prod.mk.inj hq
    have hl':(YU (v % 8) && ((Zy v:Int) == (G:Int)))=false:=by
     rw[Bool.not_eq_true] at hl
     rw[<- hl]
     congr 1
     rw[Bool.eq_iff_iff]
     simp only[beq_iff_eq,decide_eq_true_eq]
     omega
    refine(YN h hi who hG hlen hh hx Yw (Or.inl ⟨rfl,rfl⟩) _ d ?_ (fun w1 m1 i1=>Ox m1 hb i1 who hG hx hxs hwv sl (ci:=Za t n k m (ZB v)) rfl hl' (by rw[Yw];decide) hst (Or.inl ⟨rfl,rfl⟩))).mono ?_
    . rintro s' a' ⟨_,rfl⟩
      rw[<- hdn];rfl
    . rintro e w' ⟨rfl,s',cs',a',m',o',i',sm,rfl,rfl⟩
      exact⟨rfl,_,cs',_,m',hT.same hσ who _,i',⟨rfl,Wl,X7,trivial,trivial,trivial,rfl,rfl,rfl⟩,sm,o',⟨_,rfl⟩,fun _=>rfl,by first | exact trivial | rfl⟩
 | ask v =>
  obtain⟨i,O⟩:=hg
  obtain⟨rfl,zo⟩:=SA
  have sl:=Xz a.se O.wd
  have hin:=O.EO
  have Sv:s.wd (ZB a.se)=q.dw (ZB a.se):=hT.JP _ hin.1
  have hd1:=G8 _ (hdw (ZB a.se))
  have hq':(q,Sl own a.se (q.dw (ZB a.se)))=(q',α'):=hq
  obtain⟨rfl,hα⟩:=Prod.mk.inj hq'
  have hnA:ZB a.se<s.n:=by omega
  by_cases hw:(Xy (q.dw (ZB a.se)) == own)=true
  . have hwo:(Xy (q.dw (ZB a.se)) == a.own)=true:=by rw[X7];exact hw
    simp only[Sl,hw,if_true] at hα
    by_cases h4:a.se % 8=4
    . rw[if_pos h4] at hα
      subst hα
      refine(YN h hi who hG hlen hh hx Yw (Or.inr (Or.inl ⟨rfl,rfl⟩)) _ d ?_ (fun w1 m1 i1=>Jk m1 hb i1 who sl hnA Sv hd1 hwo h4)).mono ?_
      . rintro s' a' ⟨_,rfl⟩
        rw[<- hdn];rfl
      . rintro e w' ⟨rfl,s',cs',a',m',o',i',sm,rfl,rfl⟩
        exact⟨rfl,_,cs',_,m',hT.same hσ who _,i',⟨rfl,Wl,X7,trivial,⟨0,rfl⟩,trivial,iE,iH,iV⟩,sm,o',⟨_,rfl⟩,fun _=>rfl,by first | exact trivial | rfl⟩
    . rw[if_neg h4] at hα
      subst hα
      refine(YN h hi who hG hlen hh hx Yw (Or.inr (Or.inl ⟨rfl,rfl⟩)) _ d ?_ (fun w1 m1 i1=>Oy m1 hb i1 who sl hnA Sv hd1 (by rw[Yw];show (1:Int)<5;decide) hwo hst (Or.inr ⟨rfl,h4,rfl⟩))).mono ?_
      . rintro s' a' ⟨_,rfl⟩
        rw[<- hdn];rfl
      . rintro e w' ⟨rfl,s',cs',a',m',o',i',sm,rfl,rfl⟩
        exact⟨rfl,_,cs',_,m',hT.same hσ who _,i',⟨rfl,Wl,X7,⟨rfl,zo,rfl⟩,trivial,trivial,iE,iH,iV⟩,sm,o',⟨_,rfl⟩,fun _=>rfl,by first | exact trivial | rfl⟩
  . have hw':(Xy (q.dw (ZB a.se)) == own)=false:=by simpa using hw
    have hwo:(Xy (q.dw (ZB a.se)) == a.own)=false:=by rw[X7];exact hw'
    simp only[Sl,hw'] at hα
    subst hα
    refine(YN h hi who hG hlen hh hx Yw (Or.inr (Or.inl ⟨rfl,rfl⟩)) _ d ?_ (fun w1 m1 i1=>Oy m1 hb i1 who sl hnA Sv hd1 (by rw[Yw];show (1:Int)<5;decide) hwo hst (Or.inl ⟨rfl,rfl⟩))).mono ?_
    . rintro s' a' ⟨_,rfl⟩
      rw[<- hdn];rfl
    . rintro e w' ⟨rfl,s',cs',a',m',o',i',sm,rfl,rfl⟩
      exact⟨rfl,_,cs',_,m',hT.same hσ who _,i',⟨rfl,Wl,X7,trivial,trivial,trivial,rfl,rfl,rfl⟩,sm,o',⟨_,rfl⟩,fun _=>rfl,by first | exact trivial | rfl⟩
 | mark v Z =>
  obtain⟨i,O⟩:=hg
  obtain⟨rfl,zo,Su⟩:=SA
  have sl:=Xz a.se O.wd
  by_cases hw:q.sw x=a.se
  . have hw':s.wd (6+t+x * 2)=a.se:=by rw[hT.QE x hx];exact hw
    simp only[ZK,hw,if_true] at hq
    obtain⟨rfl,rfl⟩:=Prod.mk.inj hq
    refine(YN h hi who hG hlen hh hx Yw (Or.inr (Or.inr (Or.inl ⟨rfl,rfl⟩))) _ d ?_ (fun w1 m1 i1=>Jh m1 hb i1 who hG hx hxs Su sl (decide_eq_true hw'))).mono ?_
    . rintro s' a' ⟨_,rfl⟩
      rw[<- hdn];rfl
    . rintro e w' ⟨rfl,s',cs',a',m',o',i',sm,rfl,rfl⟩
      rw[UK hw'] at m'
      refine⟨rfl,_,cs',_,m',hT.shows hσ who hx _ (WX _ _ _ _).1 (WX _ _ _ _).2,i',⟨rfl,Wl,X7,⟨?_,Su⟩,⟨0,rfl⟩,trivial,iE,iH,iV⟩,sm,o',⟨_,rfl⟩,(fun h=>by cases h),by first | exact trivial | rfl⟩
      show a.ch=_
      rw[zo,O.c1];simp
  . have hw':s.wd (6+t+x * 2)≠a.se:=by rw[hT.QE x hx];exact hw
    simp only[ZK,hw,if_false] at hq
    obtain⟨rfl,rfl⟩:=Prod.mk.inj hq
    refine(YN h hi who hG hlen hh hx Yw (Or.inr (Or.inr (Or.inl ⟨rfl,rfl⟩))) _ d ?_ (fun w1 m1 i1=>GH m1 hb i1 who hG hx hxs sl (decide_eq_false hw'))).mono ?_
    . rintro s' a' ⟨_,rfl⟩
      rw[<- hdn];rfl
    . rintro e w' ⟨rfl,s',cs',a',m',o',i',sm,rfl,rfl⟩
      rw[V7 hw'] at m'
      exact⟨rfl,_,cs',_,m',hT.same hσ who _,i',⟨rfl,Wl,X7,trivial,trivial,trivial,iE,iH,iV⟩,sm,o',⟨_,rfl⟩,(fun h=>by cases h),by first | exact trivial | rfl⟩
 | Ve η =>
  obtain⟨gη,oη⟩:=hg
  obtain⟨q1,η1,ht⟩:∃ q1 η1,Zl g x q η=(q1,η1):=⟨_,_,rfl⟩
  simp only[ZK,ht] at hq
  cases hf:η1.ZR with
  | false =>
   rw[Jf hf] at hq
   obtain⟨rfl,rfl⟩:=Prod.mk.inj hq
   obtain rfl:false=d:=hd
   refine(QR h hi who hG hlen hh hx Yw _ (fun s' l' P=>Hp.Zt P.2.1) (fun w1 m1 i1=>Vt m1 hb hT hG hσ hdw hx η i1 ihl gη oη who _ _ ht false hf)).mono ?_
   rintro e w' ⟨rfl,s',cs',a',m',o',i',sm,l',⟨t',c',st'⟩,rfl⟩
   exact⟨rfl,_,cs',_,m',t',i',⟨Yw,Wl,X7,trivial,c',trivial,iE,iH,iV⟩,sm,o',st',(fun h=>by cases h),by first | exact trivial | rfl⟩
  | true =>
   obtain⟨wn,rfl⟩:=Hp.UF hf
   have hq':(q1,Dp.see)=(q',α'):=hq
   obtain⟨rfl,rfl⟩:=Prod.mk.inj hq'
   obtain rfl:false=d:=hd
   refine(Ti h hi who hG hlen hh hb hx Yw _ (fun s' l' P=>Hp.Zt P.2.1) (fun w1 m1 i1=>Vt m1 hb hT hG hσ hdw hx η i1 ihl gη oη who _ _ ht true hf)).mono ?_
   rintro e w' ⟨rfl,s',cs',a',m',o',i',sm,l',⟨t',c',st'⟩,rfl⟩
   exact⟨rfl,_,cs',_,m',t',i',⟨rfl,Wl,X7,trivial,trivial,trivial,iE,iH,iV⟩,sm,o',st',(fun h=>by cases h),by first | exact trivial | rfl⟩
 | fin Z i η =>
  obtain⟨gη,oη⟩:=hg
  obtain⟨q1,η1,ht⟩:∃ q1 η1,Zl g x q η=(q1,η1):=⟨_,_,rfl⟩
  simp only[ZK,ht] at hq
  cases hf:η1.ZR with
  | false =>
   rw[Gw hf] at hq
   obtain⟨rfl,rfl⟩:=Prod.mk.inj hq
   refine(YN h hi who hG hlen hh hx Yw (Or.inr (Or.inr (Or.inr (Or.inl ⟨rfl,rfl⟩)))) _ d ?_ (fun w1 m1 i1=>DJ m1 i1 who _ (fun s' l' P=>Hp.Zt P.2.1) (fun w2 m2 i2=>Vt m2 hb hT hG hσ hdw hx η i2 ihl gη oη who _ _ ht false hf))).mono ?_
   . rintro s' a' ⟨l',_,rfl⟩
     rw[<- hdn]
     show (a.nx == 7)=_
     rw[Yw];rfl
   . rintro e w' ⟨rfl,s',cs',a',m',o',i',sm,l',⟨t',c',st'⟩,rfl⟩
     exact⟨rfl,_,cs',_,m',t',i',⟨Yw,Wl,X7,SA,c',trivial,iE,iH,iV⟩,sm,o',st',(fun h=>by cases h),by first | exact trivial | rfl⟩
  | true =>
   obtain⟨wn,rfl⟩:=Hp.UF hf
   have hq':(q1,Dp.count Z i)=(q',α'):=hq
   obtain⟨rfl,rfl⟩:=Prod.mk.inj hq'
   refine(YN h hi who hG hlen hh hx Yw (Or.inr (Or.inr (Or.inr (Or.inl ⟨rfl,rfl⟩)))) _ d ?_ (fun w1 m1 i1=>Jg m1 hb i1 who hG hx _ (fun s' l' P=>Hp.Zt P.2.1) (fun s' l' P=>by have:=P.1.len;omega) (fun w2 m2 i2=>Vt m2 hb hT hG hσ hdw hx η i2 ihl gη oη who _ _ ht true hf))).mono ?_
   . rintro s' a' ⟨l',_,rfl⟩
     rw[<- hdn];rfl
   . rintro e w' ⟨rfl,s',cs',a',m',o',i',sm,l',⟨t',c',st'⟩,rfl⟩
     exact⟨rfl,_,cs',_,m',t',i',⟨rfl,Wl,X7,SA,trivial,trivial,iE,iH,iV⟩,sm,o',st',(fun h=>by cases h),by first | exact trivial | rfl⟩
 | count Z i =>
  obtain⟨z1,z2,hik,hlv⟩:=hg
  obtain⟨zo,Su⟩:=SA
  obtain⟨kz,hκ⟩:=MG z1 z2
  have hr:=XJ (ZI Z).toNat
  have hnc:6+t+n * 2+i * 3+1<s.n:=by omega
  have tw:=hT.Gx hσ who hik hr.2 hlv
  by_cases hl:g<=(G:Int)
  . have hq':({ q with lv:=upd q.lv i (q.lv i - room (ZI Z).toNat) },Dp.over 0)=(q',α'):=by rw[<- hq];simp[ZK,hl]
    obtain⟨rfl,rfl⟩:=Prod.mk.inj hq'
    refine(YN h hi who hG hlen hh hx Yw (Or.inr (Or.inr (Or.inr (Or.inr ⟨rfl,rfl⟩)))) _ d ?_ (fun w1 m1 i1=>RQ m1 hb i1 who hG zo hik Su kz hκ hnc (decide_eq_true hl) (Or.inr ⟨rfl,rfl⟩))).mono ?_
    . rintro s' a' ⟨_,rfl⟩
      rw[<- hdn];rfl
    . rintro e w' ⟨rfl,s',cs',a',m',o',i',sm,rfl,rfl⟩
      exact⟨rfl,_,cs',_,m',tw,i',⟨rfl,Wl,X7,trivial,trivial,trivial,iE,iH,iV⟩,sm,o',⟨_,rfl⟩,(fun h=>by cases h),by first | exact trivial | rfl⟩
  . have hq':({ q with lv:=upd q.lv i (q.lv i - room (ZI Z).toNat) },Dp.give .idle)=(q',α'):=by rw[<- hq];simp[ZK,hl]
    obtain⟨rfl,rfl⟩:=Prod.mk.inj hq'
    refine(YN h hi who hG hlen hh hx Yw (Or.inr (Or.inr (Or.inr (Or.inr ⟨rfl,rfl⟩)))) _ d ?_ (fun w1 m1 i1=>RQ m1 hb i1 who hG zo hik Su kz hκ hnc (decide_eq_false (by omega)) (Or.inl ⟨rfl,rfl⟩))).mono ?_
    . rintro s' a' ⟨_,rfl⟩
      rw[<- hdn];rfl
    . rintro e w' ⟨rfl,s',cs',a',m',o',i',sm,rfl,rfl⟩
      exact⟨rfl,_,cs',_,m',tw,i',⟨rfl,Wl,X7,trivial,trivial,⟨0,rfl⟩,iE,iH,iV⟩,sm,o',⟨_,rfl⟩,(fun h=>by cases h),by first | exact trivial | rfl⟩
 | give γ =>
  obtain⟨UE,gγ,oγ⟩:=hg
  obtain⟨c',lk',F',γ',ht⟩:∃ c' lk' F' γ',Zd q.c q.lk q.F x γ=(c',lk',F',γ'):=⟨_,_,_,_,rfl⟩
  have hat:=Gv.at_in (t:=t) hx γ
  simp only[ZK,ht] at hq
  cases hf:γ'.done with
  | false =>
   rw[Je hf] at hq
   obtain⟨rfl,rfl⟩:=Prod.mk.inj hq
   obtain rfl:false=d:=hd
   refine(QQ h hi who hG hlen hh hx Yw (fun w1 m1 i1=>Vw m1 hb hT.pile hσ hG.t1 hx UE γ ⟨_,i1,sO⟩ gγ oγ _ _ _ _ _ who c' lk' F' γ' ht false hf)).mono ?_
   rintro e w' ⟨rfl,s',cs',a',m',o',i',sm,p',⟨v,rfl⟩,g',l,hl,rfl⟩
   exact⟨rfl,_,cs',_,m',hT.slots hσ who _ v hat p',i',⟨Yw,Wl,X7,trivial,trivial,hl,iE,iH,iV⟩,sm,o',⟨v,rfl⟩,(fun h=>by cases h),by first | exact trivial | rfl⟩
  | true =>
   have:=Gv.UF hf
   subst this
   have hq':({ q with c:=c',lk:=lk',F:=F' },Dp.over 0)=(q',α'):=hq
   obtain⟨rfl,rfl⟩:=Prod.mk.inj hq'
   obtain rfl:true=d:=hd
   refine(Tf h hi who hG hlen hh hb hx Yw (fun w1 m1 i1=>Vw m1 hb hT.pile hσ hG.t1 hx UE γ ⟨_,i1,sO⟩ gγ oγ _ _ _ _ _ who c' lk' F' _ ht true hf)).mono ?_
   rintro e w' ⟨rfl,s',cs',a',m',o',i',sm,p',⟨v,rfl⟩,g',l,hl,rfl⟩
   exact⟨rfl,_,cs',_,m',hT.slots hσ who _ v hat p',i',⟨rfl,Wl,X7,trivial,trivial,trivial,iE,iH,iV⟩,sm,o',⟨v,rfl⟩,(fun h=>by cases h),by first | exact trivial | rfl⟩
end
end
section
theorem QB {cg:Int} {x:Nat} {q:Q} {η:Hp} {q':Q} {η':Hp} (h:∀ a,Wd (q.dw a)) (ht:Zl cg x q η=(q',η')):∀ a,Wd (q'.dw a):=by
 have e:∀ v,VX cg x q v=(q',η')->∀ a,Wd (q'.dw a):=by
  intro v hv
  unfold VX at hv
  split at hv <;> (obtain⟨rfl,-⟩:=Prod.mk.inj hv;exact h)
 cases η with
 | over=>obtain⟨rfl,-⟩:=Prod.mk.inj ht;exact h
 | go v Z j u =>
  cases u with
  | none =>
   simp only[Zl] at ht
   split at ht
   . exact e v ht
   . split at ht <;> (obtain⟨rfl,-⟩:=Prod.mk.inj ht;exact h)
  | some u =>
   simp only[Zl] at ht
   split at ht
   . exact e v ht
   . split at ht
     . obtain⟨rfl,-⟩:=Prod.mk.inj ht
       intro a
       show Wd (upd q.dw _ _ a)
       unfold upd
       split
       . exact Oq _ _
       . exact h a
     . obtain⟨rfl,-⟩:=Prod.mk.inj ht;exact h
theorem JJ {t n k m:Nat} {cg:Int} {own:Bool} {x G:Nat} {q:Q} {α:Dp} {q':Q} {α':Dp} (h:∀ a,Wd (q.dw a)) (ht:ZK t n k m cg own x G q α=(q',α')):∀ a,Wd (q'.dw a):=by
 cases α with
 | see=>obtain⟨rfl,-⟩:=Prod.mk.inj ht;exact h
 | ask v=>obtain⟨rfl,-⟩:=Prod.mk.inj ht;exact h
 | mark v Z =>
  simp only[ZK] at ht
  split at ht <;> (obtain⟨rfl,-⟩:=Prod.mk.inj ht;exact h)
 | Ve η =>
  obtain⟨q1,η1,h1⟩:∃ q1 η1,Zl cg x q η=(q1,η1):=⟨_,_,rfl⟩
  simp only[ZK,h1] at ht
  have:=QB h h1
  cases η1 <;> (simp only[PY] at ht;obtain⟨rfl,-⟩:=Prod.mk.inj ht;exact this)
 | fin Z i η =>
  obtain⟨q1,η1,h1⟩:∃ q1 η1,Zl cg x q η=(q1,η1):=⟨_,_,rfl⟩
  simp only[ZK,h1] at ht
  have:=QB h h1
  cases η1 <;> (simp only[V5] at ht;obtain⟨rfl,-⟩:=Prod.mk.inj ht;exact this)
 | count Z i=>obtain⟨rfl,-⟩:=Prod.mk.inj ht;exact h
 | give γ =>
  obtain⟨c',lk',F',γ',h1⟩:∃ c' lk' F' γ',Zd q.c q.lk q.F x γ=(c',lk',F',γ'):=⟨_,_,_,_,rfl⟩
  simp only[ZK,h1] at ht
  cases γ' <;> (simp only[Xv] at ht;obtain⟨rfl,-⟩:=Prod.mk.inj ht;exact h)
 | over=>obtain⟨rfl,-⟩:=Prod.mk.inj ht;exact h
section
variable {w:World} {L:Loc} {t n k m σ:Nat} {s:Mm} {q:Q} {nu:Int} {own:Bool}
end
end
section
theorem Jj (st A G V:Nat) (h1:st<=7) (h2:A<=1048575) (h3:G<=65535) (h4:V<=4194303):Zw st A G V=st+A * 8+G * 8388608+V * 549755813888:=by
 unfold Zw
 rw[Y8 st 3 (by omega) (by simp;omega),Y8 A 20 (by omega) (by simp;omega),Y8 G 16 (by omega) (by simp;omega),Y8 V 22 (by omega) (by simp;omega)]
theorem WU {st A G V:Nat} (h1:st<=7) (h2:A<=1048575) (h3:G<=65535) (h4:V<=4194303):Zw st A G V % 8=st/\ZB (Zw st A G V)=A/\Zy (Zw st A G V)=G/\Y3 (Zw st A G V)=V:=by
 rw[Jj st A G V h1 h2 h3 h4]
 unfold ZB Zy Y3
 refine⟨?_,?_,?_,?_⟩ <;> omega
theorem GL {v:Int} (hv:Y3 v<4194303):XU v % 8=4/\ZB (XU v)=ZB v/\Zy (XU v)=Zy v/\Y3 (XU v)=Y3 v+1:=by
 have e:XU v=Zw ((4:Nat):Int) (ZB v) (Zy v) ((Y3 v+1:Nat):Int):=by unfold XU;simp
 rw[e]
 exact WU (by decide) (Qb v) (RV v) (by omega)
section
variable {t n k m:Nat} {cg:Int} {own:Bool} {x G:Nat}
end
end
section
theorem PS {x G:Nat} (hx:x<=65535) (g1:1<=G) (g2:G<=65535):YZ (Yi x G) x G:=by
 rw[VZ x G hx g2]
 refine⟨?_,?_,?_,?_⟩ <;> omega
theorem U0 {Z x G:Nat} {own:Bool} (hZ:Z<=65535) (hx:x<=65535) (hG:G<=65535):U5 (Zj 2 Z x G own)=Z/\Xy (Zj 2 Z x G own)=own:=by
 have e:=Jy 2 Z x G own (by decide) hZ hx hG
 rw[show ((2:Nat):Int)=2 from rfl] at e
 rw[e]
 unfold U5 Xy
 cases own
 . rw[if_neg (by decide)]
   exact⟨by omega,decide_eq_false (by omega)⟩
 . rw[if_pos rfl]
   exact⟨by omega,decide_eq_true (by omega)⟩
section
variable {t n k m nx:Nat} {q:Q} {gen:Nat->Nat} {cg:Int}
theorem UD {z:Int} (h:z<=1099511627775) (V:Nat):frozenIn z V=false:=by
 unfold frozenIn
 rw[decide_eq_false (by omega),Bool.false_and]
end
section
variable {w0 w w':World} {L:Loc} {bE t n k m σ nx:Nat} {cg:Int} {s:Mm} {q:Q} {gen:Nat->Nat} {own:Bool}
end
end
section
end
section
structure CV where
 nx:Int
 kd:Int
 nu:Int
 ix:Int
 vl:Int
 ol:Int
 own:Bool
 se:Int
 at_:Int
 sz:Int
 ce:Int
 ld:Int
 hl:List Value
 E:Int
 H:Int
 V:Int
 St:Int
structure ZE (w:World) (b o:Nat) (T:TypeId) (c:Array Value) (a:CV):Prop where
 obj:w.heap[b]?=some (.cells c T (0,0))
 Yo:a.hl.length=8
 hl:∀ i v,a.hl[i]?=some v->c[o+12+i]?=some v
 nx:c[o]?=some (iV a.nx)
 kd:c[o+1]?=some (iV a.kd)
 nu:c[o+2]?=some (.int .u64 a.nu)
 ix:c[o+3]?=some (iV a.ix)
 vl:c[o+4]?=some (iV a.vl)
 ol:c[o+5]?=some (iV a.ol)
 own:c[o+6]?=some (.bool a.own)
 se:c[o+7]?=some (.int .u64 a.se)
 at_:c[o+8]?=some (iV a.at_)
 sz:c[o+9]?=some (iV a.sz)
 ce:c[o+10]?=some (.int .u64 a.ce)
 ld:c[o+11]?=some (iV a.ld)
 E:c[o+20]?=some (iV a.E)
 H:c[o+21]?=some (.int .u64 a.H)
 V:c[o+22]?=some (iV a.V)
 St:c[o+23]?=some (iV a.St)
namespace ZE
variable {w w':World} {b o:Nat} {T:TypeId} {c c':Array Value} {a:CV}
theorem lt (h:ZE w b o T c a):b<w.heap.size:=We h.obj
theorem fz (h:ZE w b o T c a) (i:Nat):w.frozen? ⟨b,i,none⟩=false:=YK h.obj i
theorem of_block (h:ZE w b o T c a) (e:w'.heap[b]?=w.heap[b]?):ZE w' b o T c a:={ h with obj:=e.trans h.obj }
theorem grown (h:ZE w b o T c a) (g:Below w.heap.size w w'):ZE w' b o T c a:=h.of_block (g.block _ h.lt)
theorem drew (h:ZE w b o T c a):ZE w.drew b o T c a:=h.of_block rfl
theorem only {S:Nat->Prop} (h:ZE w b o T c a) (g:Only S w w') (hs:¬ S b):ZE w' b o T c a:=h.of_block (g.block _ h.lt hs)
theorem other (h:ZE w b o T c a) {k:Nat} (hk:b≠k) (i:Nat) (v:Value):ZE (w.setCell ⟨k,i,none⟩ v) b o T c a:=h.of_block (Go.Deep.blk_setCell_other _ _ _ _ (by simpa using hk))
theorem Zr (h:ZE w b o T c a):w.cell? ⟨b,o,none⟩=some (iV a.nx):=ZV h.obj h.nx
theorem Qg (h:ZE w b o T c a):w.cell? ⟨b,o+1,none⟩=some (iV a.kd):=ZV h.obj h.kd
theorem SI (h:ZE w b o T c a):w.cell? ⟨b,o+2,none⟩=some (.int .u64 a.nu):=ZV h.obj h.nu
theorem O5 (h:ZE w b o T c a):w.cell? ⟨b,o+3,none⟩=some (iV a.ix):=ZV h.obj h.ix
theorem yV (h:ZE w b o T c a):w.cell? ⟨b,o+4,none⟩=some (iV a.vl):=ZV h.obj h.vl
theorem vS (h:ZE w b o T c a):w.cell? ⟨b,o+5,none⟩=some (iV a.ol):=ZV h.obj h.ol
theorem QJ (h:ZE w b o T c a):w.cell? ⟨b,o+6,none⟩=some (.bool a.own):=ZV h.obj h.own
theorem WM (h:ZE w b o T c a):w.cell? ⟨b,o+7,none⟩=some (.int .u64 a.se):=ZV h.obj h.se
theorem KD (h:ZE w b o T c a):w.cell? ⟨b,o+8,none⟩=some (iV a.at_):=ZV h.obj h.at_
theorem WL (h:ZE w b o T c a):w.cell? ⟨b,o+9,none⟩=some (iV a.sz):=ZV h.obj h.sz
theorem JU (h:ZE w b o T c a):w.cell? ⟨b,o+10,none⟩=some (.int .u64 a.ce):=ZV h.obj h.ce
theorem yU (h:ZE w b o T c a):w.cell? ⟨b,o+11,none⟩=some (iV a.ld):=ZV h.obj h.ld
theorem ED (h:ZE w b o T c a):w.cell? ⟨b,o+20,none⟩=some (iV a.E):=ZV h.obj h.E
theorem EP (h:ZE w b o T c a):w.cell? ⟨b,o+21,none⟩=some (.int .u64 a.H):=ZV h.obj h.H
theorem EC (h:ZE w b o T c a):w.cell? ⟨b,o+22,none⟩=some (iV a.V):=ZV h.obj h.V
theorem SH (h:ZE w b o T c a):w.cell? ⟨b,o+23,none⟩=some (iV a.St):=ZV h.obj h.St
theorem Zi (h:ZE w b o T c a) (x:Int):ZE (w.setCell ⟨b,o,none⟩ (iV x)) b o T (c.setIfInBounds (o) (iV x)) { a with nx:=x } :=
 ⟨ZW _ _ _ _ _ _ h.obj,h.Yo,ZU h.hl _ (by have:=h.Yo;omega),Yf _ h.nx,Z9 h.kd (by omega),Z9 h.nu (by omega),Z9 h.ix (by omega),Z9 h.vl (by omega),Z9 h.ol (by omega),Z9 h.own (by omega),Z9 h.se (by omega),Z9 h.at_ (by omega),Z9 h.sz (by omega),Z9 h.ce (by omega),Z9 h.ld (by omega),Z9 h.E (by omega),Z9 h.H (by omega),Z9 h.V (by omega),Z9 h.St (by omega)⟩
theorem Nr (h:ZE w b o T c a) (x:Int):ZE (w.setCell ⟨b,o+7,none⟩ (.int .u64 x)) b o T (c.setIfInBounds (o+7) (.int .u64 x)) { a with se:=x } :=
 ⟨ZW _ _ _ _ _ _ h.obj,h.Yo,ZU h.hl _ (by have:=h.Yo;omega),Z9 h.nx (by omega),Z9 h.kd (by omega),Z9 h.nu (by omega),Z9 h.ix (by omega),Z9 h.vl (by omega),Z9 h.ol (by omega),Z9 h.own (by omega),Yf _ h.se,Z9 h.at_ (by omega),Z9 h.sz (by omega),Z9 h.ce (by omega),Z9 h.ld (by omega),Z9 h.E (by omega),Z9 h.H (by omega),Z9 h.V (by omega),Z9 h.St (by omega)⟩
theorem Ez (h:ZE w b o T c a) (x:Int):ZE (w.setCell ⟨b,o+8,none⟩ (iV x)) b o T (c.setIfInBounds (o+8) (iV x)) { a with at_:=x } :=
 ⟨ZW _ _ _ _ _ _ h.obj,h.Yo,ZU h.hl _ (by have:=h.Yo;omega),Z9 h.nx (by omega),Z9 h.kd (by omega),Z9 h.nu (by omega),Z9 h.ix (by omega),Z9 h.vl (by omega),Z9 h.ol (by omega),Z9 h.own (by omega),Z9 h.se (by omega),Yf _ h.at_,Z9 h.sz (by omega),Z9 h.ce (by omega),Z9 h.ld (by omega),Z9 h.E (by omega),Z9 h.H (by omega),Z9 h.V (by omega),Z9 h.St (by omega)⟩
theorem Qe (h:ZE w b o T c a) (x:Int):ZE (w.setCell ⟨b,o+9,none⟩ (iV x)) b o T (c.setIfInBounds (o+9) (iV x)) { a with sz:=x } :=
 ⟨ZW _ _ _ _ _ _ h.obj,h.Yo,ZU h.hl _ (by have:=h.Yo;omega),Z9 h.nx (by omega),Z9 h.kd (by omega),Z9 h.nu (by omega),Z9 h.ix (by omega),Z9 h.vl (by omega),Z9 h.ol (by omega),Z9 h.own (by omega),Z9 h.se (by omega),Z9 h.at_ (by omega),Yf _ h.sz,Z9 h.ce (by omega),Z9 h.ld (by omega),Z9 h.E (by omega),Z9 h.H (by omega),Z9 h.V (by omega),Z9 h.St (by omega)⟩
theorem Bj (h:ZE w b o T c a) (x:Int):ZE (w.setCell ⟨b,o+10,none⟩ (.int .u64 x)) b o T (c.setIfInBounds (o+10) (.int .u64 x)) { a with ce:=x } :=
 ⟨ZW _ _ _ _ _ _ h.obj,h.Yo,ZU h.hl _ (by have:=h.Yo;omega),Z9 h.nx (by omega),Z9 h.kd (by omega),Z9 h.nu (by omega),Z9 h.ix (by omega),Z9 h.vl (by omega),Z9 h.ol (by omega),Z9 h.own (by omega),Z9 h.se (by omega),Z9 h.at_ (by omega),Z9 h.sz (by omega),Yf _ h.ce,Z9 h.ld (by omega),Z9 h.E (by omega),Z9 h.H (by omega),Z9 h.V (by omega),Z9 h.St (by omega)⟩
theorem Bi (h:ZE w b o T c a) (x:Int):ZE (w.setCell ⟨b,o+11,none⟩ (iV x)) b o T (c.setIfInBounds (o+11) (iV x)) { a with ld:=x } :=
 ⟨ZW _ _ _ _ _ _ h.obj,h.Yo,ZU h.hl _ (by have:=h.Yo;omega),Z9 h.nx (by omega),Z9 h.kd (by omega),Z9 h.nu (by omega),Z9 h.ix (by omega),Z9 h.vl (by omega),Z9 h.ol (by omega),Z9 h.own (by omega),Z9 h.se (by omega),Z9 h.at_ (by omega),Z9 h.sz (by omega),Z9 h.ce (by omega),Yf _ h.ld,Z9 h.E (by omega),Z9 h.H (by omega),Z9 h.V (by omega),Z9 h.St (by omega)⟩
theorem O4 (h:ZE w b o T c a) (x:Int):ZE (w.setCell ⟨b,o+20,none⟩ (iV x)) b o T (c.setIfInBounds (o+20) (iV x)) { a with E:=x } :=
 ⟨ZW _ _ _ _ _ _ h.obj,h.Yo,ZU h.hl _ (by have:=h.Yo;omega),Z9 h.nx (by omega),Z9 h.kd (by omega),Z9 h.nu (by omega),Z9 h.ix (by omega),Z9 h.vl (by omega),Z9 h.ol (by omega),Z9 h.own (by omega),Z9 h.se (by omega),Z9 h.at_ (by omega),Z9 h.sz (by omega),Z9 h.ce (by omega),Z9 h.ld (by omega),Yf _ h.E,Z9 h.H (by omega),Z9 h.V (by omega),Z9 h.St (by omega)⟩
theorem QI (h:ZE w b o T c a) (x:Int):ZE (w.setCell ⟨b,o+21,none⟩ (.int .u64 x)) b o T (c.setIfInBounds (o+21) (.int .u64 x)) { a with H:=x } :=
 ⟨ZW _ _ _ _ _ _ h.obj,h.Yo,ZU h.hl _ (by have:=h.Yo;omega),Z9 h.nx (by omega),Z9 h.kd (by omega),Z9 h.nu (by omega),Z9 h.ix (by omega),Z9 h.vl (by omega),Z9 h.ol (by omega),Z9 h.own (by omega),Z9 h.se (by omega),Z9 h.at_ (by omega),Z9 h.sz (by omega),Z9 h.ce (by omega),Z9 h.ld (by omega),Z9 h.E (by omega),Yf _ h.H,Z9 h.V (by omega),Z9 h.St (by omega)⟩
theorem O3 (h:ZE w b o T c a) (x:Int):ZE (w.setCell ⟨b,o+22,none⟩ (iV x)) b o T (c.setIfInBounds (o+22) (iV x)) { a with V:=x } :=
 ⟨ZW _ _ _ _ _ _ h.obj,h.Yo,ZU h.hl _ (by have:=h.Yo;omega),Z9 h.nx (by omega),Z9 h.kd (by omega),Z9 h.nu (by omega),Z9 h.ix (by omega),Z9 h.vl (by omega),Z9 h.ol (by omega),Z9 h.own (by omega),Z9 h.se (by omega),Z9 h.at_ (by omega),Z9 h.sz (by omega),Z9 h.ce (by omega),Z9 h.ld (by omega),Z9 h.E (by omega),Z9 h.H (by omega),Yf _ h.V,Z9 h.St (by omega)⟩
theorem Va (h:ZE w b o T c a) (x:Int):ZE (w.setCell ⟨b,o+23,none⟩ (iV x)) b o T (c.setIfInBounds (o+23) (iV x)) { a with St:=x } :=
 ⟨ZW _ _ _ _ _ _ h.obj,h.Yo,ZU h.hl _ (by have:=h.Yo;omega),Z9 h.nx (by omega),Z9 h.kd (by omega),Z9 h.nu (by omega),Z9 h.ix (by omega),Z9 h.vl (by omega),Z9 h.ol (by omega),Z9 h.own (by omega),Z9 h.se (by omega),Z9 h.at_ (by omega),Z9 h.sz (by omega),Z9 h.ce (by omega),Z9 h.ld (by omega),Z9 h.E (by omega),Z9 h.H (by omega),Z9 h.V (by omega),Yf _ h.St⟩
end ZE
def U9 (L:Loc) (b o:Nat) (T:TypeId) (cs:Array Value) (w w':World) (X:Mm->CV->Prop):Prop :=
 ∃ s' cs' a',Z7 w' L s'/\Only (L.and b) w w'/\ZE w' b o T cs' a'/\Same o 24 cs cs'/\X s' a'
def Ey (L:Loc) (b o:Nat) (T:TypeId) (c c':Array Value) (s s':Mm) (a a':CV):Nat->World->Prop
 | 0,w=>Z7 w L s/\ZE w b o T c a
 | 1,w=>Z7 w L s'/\ZE w b o T c a
 | _,w=>Z7 w L s'/\ZE w b o T c' a'
theorem SG {L:Loc} {b o:Nat} {T:TypeId} {c c':Array Value} {s s':Mm} {a a':CV} (x y:World) (p:Nat) (g:Grown x y) (k:Ey L b o T c c' s s' a a' p x):Ey L b o T c c' s s' a a' p y:=by
 match p,k with
 | 0,k=>exact⟨k.1.below g,k.2.grown g⟩
 | 1,k=>exact⟨k.1.below g,k.2.grown g⟩
 | p+2,k=>exact⟨k.1.below g,k.2.grown g⟩
def zC (kd nu ix vl ol:Int) (own:Bool):CV:=⟨0,kd,nu,ix,vl,ol,own,0,0,0,0,0,Xf 0 0 0 0 0 false false false,0,0,0,0⟩
def Hm (kd nu ix vl ol:Int) (own:Bool):Obj:=.cells #[iV 0,iV kd,.int .u64 nu,iV ix,iV vl,iV ol,.bool own,.int .u64 0,iV 0,iV 0,.int .u64 0,iV 0,iV 0,.int .u64 0,iV 0,iV 0,.int .u64 0,.bool false,.bool false,.bool false,iV 0,.int .u64 0,iV 0,iV 0] 147
theorem Nq (kd nu ix vl ol:Int) (own:Bool) (w:World) :
 Calls Tryz.prog 80 #[.agg #[iV kd,.int .u64 nu,iV ix,iV vl,iV ol],.bool own] w fun e w'=>∃ W,e=.returned (pP W.heap.size 0)/\w'=W.alloc (Hm kd nu ix vl ol own)/\Below w.heap.size w W:=by
 unfold Hm
 go_enter Tryz.func80,Tryz.ntmps80
 go_wp2
 go_ret
 exact⟨w.alloc _,by rw[Go.Deep.nblk_alloc];rfl,rfl,ZY _ _⟩
theorem KC (kd nu ix vl ol:Int) (own:Bool) (w:World):∃ cs,ZE (w.alloc (Hm kd nu ix vl ol own)) w.heap.size 0 147 cs (zC kd nu ix vl ol own):=by
 refine⟨_,Go.Deep.blk_alloc_new _ _,rfl,fun i v hv=>?_,rfl,rfl,rfl,rfl,rfl,rfl,rfl,rfl,rfl,rfl,rfl,rfl,rfl,rfl,rfl,rfl⟩
 have hl:i<8:=lt_of_some hv
 match i,hl with
 | 0,_=>exact hv
 | 1,_=>exact hv
 | 2,_=>exact hv
 | 3,_=>exact hv
 | 4,_=>exact hv
 | 5,_=>exact hv
 | 6,_=>exact hv
 | 7,_=>exact hv
theorem QH {w:World} {b o:Nat} {T:TypeId} {cs:Array Value} {a:CV} (hi:ZE w b o T cs a) :
 Calls Tryz.prog 180 #[pP b o] w fun e w'=>e=.returned (.agg #[iV a.E,.int .u64 a.H,iV a.V,iV a.St])/\Below w.heap.size w w':=by
 have i1:=hi.grown (ZY _ (.cells #[iV 0,.int .u64 0,iV 0,iV 0] 51))
 have k1:=i1.ED
 have k2:=i1.EP
 have k3:=i1.EC
 have k4:=i1.SH
 have j1:=hi.ED
 have j2:=hi.EP
 have j3:=hi.EC
 have j4:=hi.SH
 go_enter Tryz.func180,Tryz.ntmps180
 go_wp2
 exact bodyPost_ret (v:=.agg #[iV a.E,.int .u64 a.H,iV a.V,iV a.St]) (by simp[results,Tryz.results180,go_sem]) rfl ⟨rfl,by first | exact Below.refl _ _ | exact ZY _ _⟩
end
section
set_option maxRecDepth 20000
theorem U8 {kd:Int} (h:kd=1\/kd=2\/kd=3) (w:World) :
 Calls Tryz.prog 182 #[.int .i64 kd] w fun e w'=>e=.returned (.bool true)/\w'=w:=by
 rcases h with rfl | rfl | rfl
 all_goals
  go_enter Tryz.func182,Tryz.ntmps182
  go_wp2
  go_ret
  exact⟨rfl,rfl⟩
theorem TB {w:World} {L:Loc} {s:Mm} {t n k m:Nat} {g p r:Int} (h:Z7 w L s) (hG:Good t n k m g p r) (hl:ZG t n k m<=s.n) (who:Int) (x:Nat) :
 Calls Tryz.prog 184 #[.agg #[.int .i64 t,.int .i64 n,.int .i64 k,.int .i64 m,.int .i64 g,.int .i64 p,.int .i64 r,.pointer (some ⟨L.p,0,none⟩),.int .i64 who],.int .i64 x] w fun e w'=>e=.returned (.bool (decide ((x:Int)<n)))/\Below w.heap.size w w':=by
 go_enter Tryz.func184,Tryz.ntmps184
 go_wp2
 refine ZT (fun W=>Z7 W L s/\ZP W w.heap.size t n k m g p r L.p who/\Below w.heap.size w W) ⟨h.alloc _,ZP.new,ZY _ _⟩ ?_
 rintro W ⟨m1,v1,o1⟩
 refine Zq Grown [.val (.pointer (some ⟨w.heap.size,0,none⟩)),.val (.agg #[.int .i64 t,.int .i64 n,.int .i64 k,.int .i64 m,.int .i64 g,.int .i64 p,.int .i64 r]),.val (.bool true),.val (.bool true),.val (.pointer (some ⟨w.heap.size,7,none⟩)),.val (.pointer (some ⟨L.p,0,none⟩)),.val (.int .i64 s.n),.val (.pointer (some ⟨w.heap.size,0,none⟩)),.val (.agg #[.int .i64 t,.int .i64 n,.int .i64 k,.int .i64 m,.int .i64 g,.int .i64 p,.int .i64 r]),.val (.int .i64 (ZG t n k m:Nat)),.val (.bool true),.val (.bool true),.val (.bool true),.val (.int .i64 x),.val (.pointer (some ⟨w.heap.size,0,none⟩)),.val (.pointer (some ⟨w.heap.size,1,none⟩)),.val (.int .i64 n),.val (.bool (decide ((x:Int)<n))),.val (.bool (decide ((x:Int)<n))),.val (.bool (decide ((x:Int)<n)))] (by kernel_rfl) Grown.refl Grown.trans (by kernel_rfl) (by kernel_rfl) (by kernel_rfl) ?_
 simp only[ZA,Act.put,List.setIfInBounds_toArray,List.set_cons_zero,List.set_cons_succ]
 refine⟨?_,?_,?_,?_,?_,?_,?_,?_,?_,?_,?_,?_,?_,?_,?_,?_,?_,?_,?_,?_,?_⟩
 . intros;apply ol;go_simp;exact gl
 . intro w' hg _
   apply ol
   obtain⟨y0,y1,y2,y3,y4,y5,y6,y7,y8⟩:=(v1.grown ((Below.refl _ _).drew)).grown hg
   go_simp
   exact gl
 . intro w' hg _
   apply ol
   go_simp
   refine(U6 hG _).mono ?_
   rintro e w'' ⟨rfl,b9⟩
   exact⟨_,rfl,b9,rfl⟩
 . intros;apply ol;go_simp;exact gl
 . intros;apply ol;go_simp;exact gl
 . intro w' hg _
   apply ol
   obtain⟨y0,y1,y2,y3,y4,y5,y6,y7,y8⟩:=(v1.grown ((Below.refl _ _).drew)).grown hg
   go_simp
   exact gl
 . intro w' hg _
   apply ol
   go_simp
   refine(len_any (m1.drew.below hg)).mono ?_
   rintro e w'' ⟨rfl,rfl⟩
   exact⟨_,rfl,Grown.refl _,rfl⟩
 . intros;apply ol;go_simp;exact gl
 . intro w' hg _
   apply ol
   obtain⟨y0,y1,y2,y3,y4,y5,y6,y7,y8⟩:=(v1.grown ((Below.refl _ _).drew)).grown hg
   go_simp
   exact gl
 . intro w' hg _
   apply ol
   go_simp
   refine(Ua hG _).mono ?_
   rintro e w'' ⟨rfl,b9⟩
   exact⟨_,rfl,b9,rfl⟩
 . intro w' hg _
   apply ol
   have z:decide ((s.n:Int)≥((ZG t n k m:Nat):Int))=true:=decide_eq_true (by omega)
   go_simp
   exact gl
 . intros;apply ol;go_simp;exact gl
 . intros;apply ol;go_simp;exact gl
 . intros;apply ol;go_simp;exact gl
 . intros;apply ol;go_simp;exact gl
 . intros;apply ol;go_simp;exact gl
 . intro w' hg _
   apply ol
   obtain⟨y0,y1,y2,y3,y4,y5,y6,y7,y8⟩:=(v1.grown ((Below.refl _ _).drew)).grown hg
   go_simp
   exact gl
 . intros;apply ol;go_simp;exact gl
 . intros;apply ol;go_simp;exact gl
 . intros;apply ol;go_simp;exact gl
 intro w5 hg _
 go_wp2
 go_ret
 exact⟨rfl,grow (o1.trans ((Below.refl _ _).drew)) hg⟩
theorem U7 {w:World} {b o:Nat} (st A G V j:Int) (hz:w.cell? ⟨b,o+3,none⟩=some (.int .i64 j)) (a0:0<=A) (a1:A<=1048575) (j0:0<=j) (j1:j<=65536) :
 Calls Tryz.prog 193 #[.pointer (some ⟨b,o,none⟩),.agg #[.int .i64 st,.int .i64 A,.int .i64 G,.int .i64 V]] w fun e w'=>e=.returned (.int .i64 (A+1+j))/\Below w.heap.size w w':=by
 go_enter Tryz.func193,Tryz.ntmps193
 go_wp2
 refine ZT (fun W=>W.cell? ⟨b,o+3,none⟩=some (.int .i64 j)/\At W w.heap.size 0 78 #[.int .i64 st,.int .i64 A,.int .i64 G,.int .i64 V] [.int .i64 st,.int .i64 A,.int .i64 G,.int .i64 V]/\Below w.heap.size w W) ⟨keep' (ZY _ _) hz,At.new _ _ _,ZY _ _⟩ ?_
 rintro W ⟨i1,x1,o1⟩
 refine Zq Grown [.val (.pointer (some ⟨w.heap.size,1,none⟩)),.val (.int .i64 A),.val (.int .i64 (A+1)),.val (.pointer (some ⟨b,o,none⟩)),.val (.pointer (some ⟨b,o,none⟩)),.val (.pointer (some ⟨b,o+1,none⟩)),.val (.pointer (some ⟨b,o+3,none⟩)),.val (.int .i64 j),.val (.int .i64 (A+1+j)),.val (.int .i64 (A+1+j))] (by kernel_rfl) Grown.refl Grown.trans (by kernel_rfl) (by kernel_rfl) (by kernel_rfl) ?_
 simp only[ZA,Act.put,List.setIfInBounds_toArray,List.set_cons_zero,List.set_cons_succ]
 refine⟨?_,?_,?_,?_,?_,?_,?_,?_,?_,?_,?_⟩
 . intros;apply ol;go_simp;exact gl
 . intro w' hg _
   apply ol
   have z:=(x1.drew.grown hg).at0 1 rfl
   go_simp
   exact gl
 . intro w' hg _
   apply ol
   go_simp
   exact⟨Grown.refl _,congrArg (Value.int .i64) (by rw[IntKind.wrap_i64];omega)⟩
 . intros;apply ol;go_simp;exact gl
 . intros;apply ol;go_simp;exact gl
 . intros;apply ol;go_simp;exact gl
 . intros;apply ol;go_simp;exact gl
 . intro w' hg _
   apply ol
   have z:=keep' hg (keep' ((Below.refl _ _).drew) i1)
   go_simp
   exact gl
 . intro w' hg _
   apply ol
   go_simp
   exact⟨Grown.refl _,congrArg (Value.int .i64) (by rw[IntKind.wrap_i64];omega)⟩
 . intros;apply ol;go_simp;exact gl
 intro w5 hg _
 go_wp2
 go_ret
 exact⟨rfl,grow (o1.trans ((Below.refl _ _).drew)) hg⟩
theorem JR {w:World} {b o:Nat} {T:TypeId} {cs:Array Value} {a:CV} (hi:ZE w b o T cs a) (z:Int) (fz:Bool) (vr:Int) (hk:a.kd≠3) :
 Calls Tryz.prog 195 #[.pointer (some ⟨b,o,none⟩),.agg #[.int .i64 z,.bool fz,.int .i64 vr]] w fun e w'=>e=.returned (.bool false)/\Below w.heap.size w w':=by
 go_enter Tryz.func195,Tryz.ntmps195
 go_wp2
 refine ZT (fun W=>ZE W b o T cs a/\At W w.heap.size 0 213 #[.int .i64 z,.bool fz,.int .i64 vr] [.int .i64 z,.bool fz,.int .i64 vr]/\Below w.heap.size w W) ⟨hi.grown (ZY _ _),At.new _ _ _,ZY _ _⟩ ?_
 rintro W ⟨i1,x1,o1⟩
 refine Zq Grown [.val (.pointer (some ⟨b,o,none⟩)),.val (.pointer (some ⟨b,o,none⟩)),.val (.pointer (some ⟨b,o+1,none⟩)),.val (.pointer (some ⟨b,o+1,none⟩)),.val (.int .i64 a.kd),.val (.bool false),.val (.bool false),.val undef,.val undef,.val undef,.val undef,.val undef,.val undef,.val undef,.val undef,.val (.bool false),.val (.bool false)] (by kernel_rfl) Grown.refl Grown.trans (by kernel_rfl) (by kernel_rfl) (by kernel_rfl) ?_
 simp only[ZA,Act.put,List.setIfInBounds_toArray,List.set_cons_zero,List.set_cons_succ]
 refine⟨?_,?_,?_,?_,?_,?_,?_,?_,?_,?_,?_,?_,?_,?_,?_,?_,?_,?_⟩
 . intros;apply ol;go_simp;exact gl
 . intros;apply ol;go_simp;exact gl
 . intros;apply ol;go_simp;exact gl
 . intros;apply ol;go_simp;exact gl
 . intro w' hg _
   apply ol
   have z:=(i1.drew.grown hg).Qg
   go_simp
   exact gl
 . intro w' hg _
   apply ol
   go_simp
   refine⟨Grown.refl _,?_⟩
   first
    | rfl
    | (simp[Want.pred];done)
    | (simp[Want.pred];omega)
    | exact congrArg Value.bool (decide_eq_false hk)
 . intros;apply ol;go_simp;exact gl
 . intros;exact ur
 . intros;exact ur
 . intros;exact ur
 . intros;exact ur
 . intros;exact ur
 . intros;exact ur
 . intros;exact ur
 . intros;exact ur
 . intros;apply ol;go_simp;exact gl
 . intros;apply ol;go_simp;exact gl
 intro w5 hg _
 go_wp2
 go_ret
 exact⟨rfl,grow (o1.trans ((Below.refl _ _).drew)) hg⟩
theorem Qc {w:World} {b o:Nat} {T:TypeId} {cs:Array Value} {a:CV} (hi:ZE w b o T cs a) (z:Int) (fz:Bool) (vr:Int) (hk:a.kd=3) :
 Calls Tryz.prog 195 #[.pointer (some ⟨b,o,none⟩),.agg #[.int .i64 z,.bool fz,.int .i64 vr]] w fun e w'=>e=.returned (.bool (decide (z≠a.ol)))/\Below w.heap.size w w':=by
 go_enter Tryz.func195,Tryz.ntmps195
 go_wp2
 refine ZT (fun W=>ZE W b o T cs a/\At W w.heap.size 0 213 #[.int .i64 z,.bool fz,.int .i64 vr] [.int .i64 z,.bool fz,.int .i64 vr]/\Below w.heap.size w W) ⟨hi.grown (ZY _ _),At.new _ _ _,ZY _ _⟩ ?_
 rintro W ⟨i1,x1,o1⟩
 refine Zq Grown [.val (.pointer (some ⟨b,o,none⟩)),.val (.pointer (some ⟨b,o,none⟩)),.val (.pointer (some ⟨b,o+1,none⟩)),.val (.pointer (some ⟨b,o+1,none⟩)),.val (.int .i64 3),.val (.bool true),.val (.bool true),.val (.pointer (some ⟨w.heap.size,0,none⟩)),.val (.int .i64 z),.val (.pointer (some ⟨b,o,none⟩)),.val (.pointer (some ⟨b,o,none⟩)),.val (.pointer (some ⟨b,o+1,none⟩)),.val (.pointer (some ⟨b,o+5,none⟩)),.val (.int .i64 a.ol),.val (.bool (decide (z≠a.ol))),.val (.bool (decide (z≠a.ol))),.val (.bool (decide (z≠a.ol)))] (by kernel_rfl) Grown.refl Grown.trans (by kernel_rfl) (by kernel_rfl) (by kernel_rfl) ?_
 simp only[ZA,Act.put,List.setIfInBounds_toArray,List.set_cons_zero,List.set_cons_succ]
 refine⟨?_,?_,?_,?_,?_,?_,?_,?_,?_,?_,?_,?_,?_,?_,?_,?_,?_,?_⟩
 . intros;apply ol;go_simp;exact gl
 . intros;apply ol;go_simp;exact gl
 . intros;apply ol;go_simp;exact gl
 . intros;apply ol;go_simp;exact gl
 . intro w' hg _
   apply ol
   have z:=(i1.drew.grown hg).Qg
   rw[hk] at z
   go_simp
   exact gl
 . intros;apply ol;go_simp;exact gl
 . intros;apply ol;go_simp;exact gl
 . intros;apply ol;go_simp;exact gl
 . intro w' hg _
   apply ol
   have z:=(x1.drew.grown hg).at0 0 rfl
   go_simp
   exact gl
 . intros;apply ol;go_simp;exact gl
 . intros;apply ol;go_simp;exact gl
 . intros;apply ol;go_simp;exact gl
 . intros;apply ol;go_simp;exact gl
 . intro w' hg _
   apply ol
   have z:=(i1.drew.grown hg).vS
   go_simp
   exact gl
 . intro w' hg _
   apply ol
   go_simp
   refine⟨Grown.refl _,?_⟩
   first
    | rfl
    | (simp[Want.pred];done)
    | (simp[Want.pred];omega)
    | exact congrArg Value.bool (by simp)
 . intros;apply ol;go_simp;exact gl
 . intros;apply ol;go_simp;exact gl
 intro w5 hg _
 go_wp2
 go_ret
 exact⟨rfl,grow (o1.trans ((Below.refl _ _).drew)) hg⟩
def CV.Qd (a:CV) (z:Int):Bool:=decide (a.kd=3) && decide (z≠a.ol)
theorem SE {w:World} {b o:Nat} {T:TypeId} {cs:Array Value} {a:CV} (hi:ZE w b o T cs a) (z:Int) (fz:Bool) (vr:Int) :
 Calls Tryz.prog 195 #[.pointer (some ⟨b,o,none⟩),.agg #[.int .i64 z,.bool fz,.int .i64 vr]] w fun e w'=>e=.returned (.bool (a.Qd z))/\Below w.heap.size w w':=by
 unfold CV.Qd
 by_cases hk:a.kd=3
 . rw[decide_eq_true hk,Bool.true_and];exact Qc hi z fz vr hk
 . rw[decide_eq_false hk,Bool.false_and];exact JR hi z fz vr hk
theorem Nj {w:World} {b o:Nat} {T:TypeId} {cs:Array Value} {a:CV} (hi:ZE w b o T cs a) (z:Int) (fz:Bool) (vr:Int) :
 Calls Tryz.prog 194 #[.pointer (some ⟨b,o,none⟩),.agg #[.int .i64 z,.bool fz,.int .i64 vr]] w fun e w'=>e=.returned (.bool (decide (a.kd=1) || a.Qd z))/\Below w.heap.size w w':=by
 have i1:=hi.grown (ZY _ (.cells #[.int .i64 z,.bool fz,.int .i64 vr] 213))
 have x1:=At.new w 213 [.int .i64 z,.bool fz,.int .i64 vr]
 have k0:=i1.Qg
 have z0:=x1.at0 0 rfl
 have z1:=x1.at0 1 rfl
 have z2:=x1.at0 2 rfl
 by_cases hk:a.kd=1
 . rw[decide_eq_true hk,Bool.true_or]
   rw[hk] at k0
   go_enter Tryz.func194,Tryz.ntmps194
   go_wp2
   go_ret
   exact⟨rfl,ZY _ _⟩
 . rw[decide_eq_false hk,Bool.false_or]
   have hk':(a.kd == 1)=false:=by simpa using hk
   go_enter Tryz.func194,Tryz.ntmps194
   go_wp2_with (go_at_call 195;refine(SE i1 z fz vr).mono ?_;rintro e w2 ⟨rfl,b2⟩)
   go_ret
   exact⟨rfl,grow (ZY _ _) b2⟩
theorem Hf {w:World} {b o:Nat} {T:TypeId} {cs:Array Value} {a:CV} {t n k m:Nat} {g p r:Int} (hi:ZE w b o T cs a) (A:Int) (h:a.ix<0) :
 Calls Tryz.prog 192 #[.pointer (some ⟨b,o,none⟩),.agg #[.int .i64 t,.int .i64 n,.int .i64 k,.int .i64 m,.int .i64 g,.int .i64 p,.int .i64 r],.int .i64 A] w fun e w'=>e=.returned (.bool false)/\Below w.heap.size w w':=by
 go_enter Tryz.func192,Tryz.ntmps192
 go_wp2
 refine ZT (fun W=>ZE W b o T cs a/\At W w.heap.size 0 26 #[.int .i64 t,.int .i64 n,.int .i64 k,.int .i64 m,.int .i64 g,.int .i64 p,.int .i64 r] [.int .i64 t,.int .i64 n,.int .i64 k,.int .i64 m,.int .i64 g,.int .i64 p,.int .i64 r]/\Below w.heap.size w W) ⟨hi.grown (ZY _ _),At.new _ _ _,ZY _ _⟩ ?_
 rintro W ⟨i1,c1,o1⟩
 refine Zq Grown [.val (.pointer (some ⟨b,o,none⟩)),.val (.pointer (some ⟨b,o,none⟩)),.val (.pointer (some ⟨b,o+1,none⟩)),.val (.pointer (some ⟨b,o+3,none⟩)),.val (.int .i64 a.ix),.val (.bool false),.val (.bool false),.val undef,.val undef,.val undef,.val undef,.val undef,.val undef,.val undef,.val undef,.val undef,.val undef,.val (.bool false),.val (.bool false),.val undef,.val undef,.val undef,.val undef,.val undef,.val undef,.val (.bool false),.val (.bool false),.val undef,.val undef,.val undef,.val undef,.val undef,.val undef,.val undef,.val undef,.val undef,.val undef,.val undef,.val undef,.val (.bool false),.val (.bool false)] (by kernel_rfl) Grown.refl Grown.trans (by kernel_rfl) (by kernel_rfl) (by kernel_rfl) ?_
 simp only[ZA,Act.put,List.setIfInBounds_toArray,List.set_cons_zero,List.set_cons_succ]
 refine⟨?_,?_,?_,?_,?_,?_,?_,?_,?_,?_,?_,?_,?_,?_,?_,?_,?_,?_,?_,?_,?_,?_,?_,?_,?_,?_,?_,?_,?_,?_,?_,?_,?_,?_,?_,?_,?_,?_,?_,?_,?_,?_⟩
 . intros;apply ol;go_simp;exact gl
 . intros;apply ol;go_simp;exact gl
 . intros;apply ol;go_simp;exact gl
 . intros;apply ol;go_simp;exact gl
 . intro w' hg _
   apply ol
   have z:=(i1.drew.grown hg).O5
   go_simp
   exact gl
 . intro w' hg _
   apply ol
   go_simp
   refine⟨Grown.refl _,?_⟩
   first
    | rfl
    | (simp[Want.pred];done)
    | (simp[Want.pred];omega)
    | exact congrArg Value.bool (decide_eq_false (by omega))
 . intros;apply ol;go_simp;exact gl
 . intros;exact ur
 . intros;exact ur
 . intros;exact ur
 . intros;exact ur
 . intros;exact ur
 . intros;exact ur
 . intros;exact ur
 . intros;exact ur
 . intros;exact ur
 . intros;exact ur
 . intros;apply ol;go_simp;exact gl
 . intros;apply ol;go_simp;exact gl
 . intros;exact ur
 . intros;exact ur
 . intros;exact ur
 . intros;exact ur
 . intros;exact ur
 . intros;exact ur
 . intros;apply ol;go_simp;exact gl
 . intros;apply ol;go_simp;exact gl
 . intros;exact ur
 . intros;exact ur
 . intros;exact ur
 . intros;exact ur
 . intros;exact ur
 . intros;exact ur
 . intros;exact ur
 . intros;exact ur
 . intros;exact ur
 . intros;exact ur
 . intros;exact ur
 . intros;exact ur
 . intros;apply ol;go_simp;exact gl
 . intros;apply ol;go_simp;exact gl
 intro w5 hg _
 go_wp2
 go_ret
 exact⟨rfl,grow (o1.trans ((Below.refl _ _).drew)) hg⟩
theorem JQ {w:World} {b o:Nat} {T:TypeId} {cs:Array Value} {a:CV} {t n k m:Nat} {g p r:Int} (hi:ZE w b o T cs a) (A:Int) {Z:Int} (hz:a.sz=Z) (h0:0<=a.ix) (h:Z<=a.ix) :
 Calls Tryz.prog 192 #[.pointer (some ⟨b,o,none⟩),.agg #[.int .i64 t,.int .i64 n,.int .i64 k,.int .i64 m,.int .i64 g,.int .i64 p,.int .i64 r],.int .i64 A] w fun e w'=>e=.returned (.bool false)/\Below w.heap.size w w':=by
 go_enter Tryz.func192,Tryz.ntmps192
 go_wp2
 refine ZT (fun W=>ZE W b o T cs a/\At W w.heap.size 0 26 #[.int .i64 t,.int .i64 n,.int .i64 k,.int .i64 m,.int .i64 g,.int .i64 p,.int .i64 r] [.int .i64 t,.int .i64 n,.int .i64 k,.int .i64 m,.int .i64 g,.int .i64 p,.int .i64 r]/\Below w.heap.size w W) ⟨hi.grown (ZY _ _),At.new _ _ _,ZY _ _⟩ ?_
 rintro W ⟨i1,c1,o1⟩
 refine Zq Grown [.val (.pointer (some ⟨b,o,none⟩)),.val (.pointer (some ⟨b,o,none⟩)),.val (.pointer (some ⟨b,o+1,none⟩)),.val (.pointer (some ⟨b,o+3,none⟩)),.val (.int .i64 a.ix),.val (.bool true),.val (.bool true),.val (.pointer (some ⟨b,o,none⟩)),.val (.pointer (some ⟨b,o,none⟩)),.val (.pointer (some ⟨b,o+1,none⟩)),.val (.pointer (some ⟨b,o+3,none⟩)),.val (.int .i64 a.ix),.val (.pointer (some ⟨b,o,none⟩)),.val (.pointer (some ⟨b,o,none⟩)),.val (.pointer (some ⟨b,o+9,none⟩)),.val (.int .i64 Z),.val (.bool false),.val (.bool false),.val (.bool false),.val undef,.val undef,.val undef,.val undef,.val undef,.val undef,.val (.bool false),.val (.bool false),.val undef,.val undef,.val undef,.val undef,.val undef,.val undef,.val undef,.val undef,.val undef,.val undef,.val undef,.val undef,.val (.bool false),.val (.bool false)] (by kernel_rfl) Grown.refl Grown.trans (by kernel_rfl) (by kernel_rfl) (by kernel_rfl) ?_
 simp only[ZA,Act.put,List.setIfInBounds_toArray,List.set_cons_zero,List.set_cons_succ]
 refine⟨?_,?_,?_,?_,?_,?_,?_,?_,?_,?_,?_,?_,?_,?_,?_,?_,?_,?_,?_,?_,?_,?_,?_,?_,?_,?_,?_,?_,?_,?_,?_,?_,?_,?_,?_,?_,?_,?_,?_,?_,?_,?_⟩
 . intros;apply ol;go_simp;exact gl
 . intros;apply ol;go_simp;exact gl
 . intros;apply ol;go_simp;exact gl
 . intros;apply ol;go_simp;exact gl
 . intro w' hg _
   apply ol
   have z:=(i1.drew.grown hg).O5
   go_simp
   exact gl
 . intro w' hg _
   apply ol
   go_simp
   refine⟨Grown.refl _,?_⟩
   first
    | rfl
    | (simp[Want.pred];done)
    | (simp[Want.pred];omega)
    | exact congrArg Value.bool (decide_eq_true (by omega))
 . intros;apply ol;go_simp;exact gl
 . intros;apply ol;go_simp;exact gl
 . intros;apply ol;go_simp;exact gl
 . intros;apply ol;go_simp;exact gl
 . intros;apply ol;go_simp;exact gl
 . intro w' hg _
   apply ol
   have z:=(i1.drew.grown hg).O5
   go_simp
   exact gl
 . intros;apply ol;go_simp;exact gl
 . intros;apply ol;go_simp;exact gl
 . intros;apply ol;go_simp;exact gl
 . intro w' hg _
   apply ol
   have z:=(i1.drew.grown hg).WL
   rw[hz] at z
   go_simp
   exact gl
 . intro w' hg _
   apply ol
   go_simp
   refine⟨Grown.refl _,?_⟩
   first
    | rfl
    | (simp[Want.pred];done)
    | (simp[Want.pred];omega)
    | exact congrArg Value.bool (decide_eq_false (by omega))
 . intros;apply ol;go_simp;exact gl
 . intros;apply ol;go_simp;exact gl
 . intros;exact ur
 . intros;exact ur
 . intros;exact ur
 . intros;exact ur
 . intros;exact ur
 . intros;exact ur
 . intros;apply ol;go_simp;exact gl
 . intros;apply ol;go_simp;exact gl
 . intros;exact ur
 . intros;exact ur
 . intros;exact ur
 . intros;exact ur
 . intros;exact ur
 . intros;exact ur
 . intros;exact ur
 . intros;exact ur
 . intros;exact ur
 . intros;exact ur
 . intros;exact ur
 . intros;exact ur
 . intros;apply ol;go_simp;exact gl
 . intros;apply ol;go_simp;exact gl
 intro w5 hg _
 go_wp2
 go_ret
 exact⟨rfl,grow (o1.trans ((Below.refl _ _).drew)) hg⟩
theorem He {w:World} {b o:Nat} {T:TypeId} {cs:Array Value} {a:CV} {t n k m:Nat} {g p r:Int} (hi:ZE w b o T cs a) (A:Int) {Z:Int} (hz:a.sz=Z) (hG:Good t n k m g p r) (h0:0<=a.ix) (h:a.ix<Z) (a0:0<=A) (a1:A<=1048575) (z2:Z<=16) {i:Int} (h1:Za t n k m A=i) (h2:Za t n k m (A+Z)=i) :
 Calls Tryz.prog 192 #[.pointer (some ⟨b,o,none⟩),.agg #[.int .i64 t,.int .i64 n,.int .i64 k,.int .i64 m,.int .i64 g,.int .i64 p,.int .i64 r],.int .i64 A] w fun e w'=>e=.returned (.bool true)/\Below w.heap.size w w':=by
 obtain⟨κ,hκ⟩:∃ κ,ZI Z=κ:=⟨_,rfl⟩
 have κ0:0<=κ:=by
  rw[<- hκ];unfold ZI
  rw[if_neg (by omega)]
  repeat' split
  all_goals omega
 have Hl:=fun w=>VD hG A (by omega) w
 have yT:=fun w=>VD hG (A+Z) (by omega) w
 have lc:=fun w=>WI Z w
 rw[h1] at Hl
 rw[h2] at yT
 rw[hκ] at lc
 clear h1 h2 hκ
 go_enter Tryz.func192,Tryz.ntmps192
 go_wp2
 refine ZT (fun W=>ZE W b o T cs a/\At W w.heap.size 0 26 #[.int .i64 t,.int .i64 n,.int .i64 k,.int .i64 m,.int .i64 g,.int .i64 p,.int .i64 r] [.int .i64 t,.int .i64 n,.int .i64 k,.int .i64 m,.int .i64 g,.int .i64 p,.int .i64 r]/\Below w.heap.size w W) ⟨hi.grown (ZY _ _),At.new _ _ _,ZY _ _⟩ ?_
 rintro W ⟨i1,c1,o1⟩
 refine Zq Grown [.val (.pointer (some ⟨b,o,none⟩)),.val (.pointer (some ⟨b,o,none⟩)),.val (.pointer (some ⟨b,o+1,none⟩)),.val (.pointer (some ⟨b,o+3,none⟩)),.val (.int .i64 a.ix),.val (.bool true),.val (.bool true),.val (.pointer (some ⟨b,o,none⟩)),.val (.pointer (some ⟨b,o,none⟩)),.val (.pointer (some ⟨b,o+1,none⟩)),.val (.pointer (some ⟨b,o+3,none⟩)),.val (.int .i64 a.ix),.val (.pointer (some ⟨b,o,none⟩)),.val (.pointer (some ⟨b,o,none⟩)),.val (.pointer (some ⟨b,o+9,none⟩)),.val (.int .i64 Z),.val (.bool true),.val (.bool true),.val (.bool true),.val (.pointer (some ⟨b,o,none⟩)),.val (.pointer (some ⟨b,o,none⟩)),.val (.pointer (some ⟨b,o+9,none⟩)),.val (.int .i64 Z),.val (.int .i64 κ),.val (.bool true),.val (.bool true),.val (.bool true),.val (.agg #[.int .i64 t,.int .i64 n,.int .i64 k,.int .i64 m,.int .i64 g,.int .i64 p,.int .i64 r]),.val (.int .i64 A),.val (.pointer (some ⟨b,o,none⟩)),.val (.pointer (some ⟨b,o,none⟩)),.val (.pointer (some ⟨b,o+9,none⟩)),.val (.int .i64 Z),.val (.int .i64 (A+Z)),.val (.int .i64 i),.val (.agg #[.int .i64 t,.int .i64 n,.int .i64 k,.int .i64 m,.int .i64 g,.int .i64 p,.int .i64 r]),.val (.int .i64 A),.val (.int .i64 i),.val (.bool true),.val (.bool true),.val (.bool true)] (by kernel_rfl) Grown.refl Grown.trans (by kernel_rfl) (by kernel_rfl) (by kernel_rfl) ?_
 simp only[ZA,Act.put,List.setIfInBounds_toArray,List.set_cons_zero,List.set_cons_succ]
 refine⟨?_,?_,?_,?_,?_,?_,?_,?_,?_,?_,?_,?_,?_,?_,?_,?_,?_,?_,?_,?_,?_,?_,?_,?_,?_,?_,?_,?_,?_,?_,?_,?_,?_,?_,?_,?_,?_,?_,?_,?_,?_,?_⟩
 . intros;apply ol;go_simp;exact gl
 . intros;apply ol;go_simp;exact gl
 . intros;apply ol;go_simp;exact gl
 . intros;apply ol;go_simp;exact gl
 . intro w' hg _
   apply ol
   have z:=(i1.drew.grown hg).O5
   go_simp
   exact gl
 . intro w' hg _
   apply ol
   go_simp
   refine⟨Grown.refl _,?_⟩
   first
    | rfl
    | (simp[Want.pred];done)
    | (simp[Want.pred];omega)
    | exact congrArg Value.bool (decide_eq_true (by omega))
 . intros;apply ol;go_simp;exact gl
 . intros;apply ol;go_simp;exact gl
 . intros;apply ol;go_simp;exact gl
 . intros;apply ol;go_simp;exact gl
 . intros;apply ol;go_simp;exact gl
 . intro w' hg _
   apply ol
   have z:=(i1.drew.grown hg).O5
   go_simp
   exact gl
 . intros;apply ol;go_simp;exact gl
 . intros;apply ol;go_simp;exact gl
 . intros;apply ol;go_simp;exact gl
 . intro w' hg _
   apply ol
   have z:=(i1.drew.grown hg).WL
   rw[hz] at z
   go_simp
   exact gl
 . intro w' hg _
   apply ol
   go_simp
   refine⟨Grown.refl _,?_⟩
   first
    | rfl
    | (simp[Want.pred];done)
    | (simp[Want.pred];omega)
    | exact congrArg Value.bool (decide_eq_true (by omega))
 . intros;apply ol;go_simp;exact gl
 . intros;apply ol;go_simp;exact gl
 . intros;apply ol;go_simp;exact gl
 . intros;apply ol;go_simp;exact gl
 . intros;apply ol;go_simp;exact gl
 . intro w' hg _
   apply ol
   have z:=(i1.drew.grown hg).WL
   rw[hz] at z
   go_simp
   exact gl
 . intro w' hg _
   apply ol
   go_simp
   refine(lc _).mono ?_
   rintro e w'' ⟨rfl,rfl⟩
   exact⟨_,rfl,Grown.refl _,rfl⟩
 . intro w' hg _
   apply ol
   go_simp
   refine⟨Grown.refl _,?_⟩
   first
    | rfl
    | (simp[Want.pred];done)
    | (simp[Want.pred];omega)
    | exact congrArg Value.bool (decide_eq_true (by omega))
 . intros;apply ol;go_simp;exact gl
 . intros;apply ol;go_simp;exact gl
 . intro w' hg _
   apply ol
   have y0:=(c1.drew.grown hg).at0 0 rfl
   have y1:=(c1.drew.grown hg).at0 1 rfl
   have y2:=(c1.drew.grown hg).at0 2 rfl
   have y3:=(c1.drew.grown hg).at0 3 rfl
   have y4:=(c1.drew.grown hg).at0 4 rfl
   have y5:=(c1.drew.grown hg).at0 5 rfl
   have y6:=(c1.drew.grown hg).at0 6 rfl
   go_simp
   exact gl
 . intros;apply ol;go_simp;exact gl
 . intros;apply ol;go_simp;exact gl
 . intros;apply ol;go_simp;exact gl
 . intros;apply ol;go_simp;exact gl
 . intro w' hg _
   apply ol
   have z:=(i1.drew.grown hg).WL
   rw[hz] at z
   go_simp
   exact gl
 . intro w' hg _
   apply ol
   go_simp
   exact⟨Grown.refl _,congrArg (Value.int .i64) (by rw[IntKind.wrap_i64];omega)⟩
 . intro w' hg _
   apply ol
   go_simp
   refine(yT _).mono ?_
   rintro e w'' ⟨rfl,b9⟩
   exact⟨_,rfl,b9,rfl⟩
 . intro w' hg _
   apply ol
   have y0:=(c1.drew.grown hg).at0 0 rfl
   have y1:=(c1.drew.grown hg).at0 1 rfl
   have y2:=(c1.drew.grown hg).at0 2 rfl
   have y3:=(c1.drew.grown hg).at0 3 rfl
   have y4:=(c1.drew.grown hg).at0 4 rfl
   have y5:=(c1.drew.grown hg).at0 5 rfl
   have y6:=(c1.drew.grown hg).at0 6 rfl
   go_simp
   exact gl
 . intros;apply ol;go_simp;exact gl
 . intro w' hg _
   apply ol
   go_simp
   refine(Hl _).mono ?_
   rintro e w'' ⟨rfl,b9⟩
   exact⟨_,rfl,b9,rfl⟩
 . intro w' hg _
   apply ol
   go_simp
   refine⟨Grown.refl _,?_⟩
   first
    | rfl
    | (simp[Want.pred];done)
    | (simp[Want.pred];omega)
    | exact congrArg Value.bool (by simp)
 . intros;apply ol;go_simp;exact gl
 . intros;apply ol;go_simp;exact gl
 intro w5 hg _
 go_wp2
 go_ret
 exact⟨rfl,grow (o1.trans ((Below.refl _ _).drew)) hg⟩
theorem O1 {w:World} {L:Loc} {s:Mm} {b o:Nat} {T:TypeId} {cs:Array Value} {a:CV} (h:Z7 w L s) (hb:¬ L.has b) (hi:ZE w b o T cs a) (E val st:Int) :
 Calls Tryz.prog 183 #[.pointer (some ⟨b,o,none⟩),.int .i64 E,.int .i64 val,.int .i64 st] w fun e w'=>e=.returned (.tuple #[])/\U9 L b o T cs w w' (fun s' a'=>s'=s/\a'={ a with nx:=7,E:=E,H:=0,V:=val,St:=st }):=by
 have k1:=hi.ED
 have k2:=hi.EP
 have k3:=hi.EC
 have k4:=hi.SH
 have k5:=hi.Zr
 have kf:=hi.fz
 go_enter Tryz.func183,Tryz.ntmps183
 go_wp2
 go_end0
 exact⟨rfl,s,_,_,((((h.ZX hb _ _).ZX hb _ _).ZX hb _ _).ZX hb _ _).ZX hb _ _,(((((Only.refl _ _).set _ _).set _ _).set _ _).set _ _).set _ _,((((hi.O4 E).QI 0).O3 val).Va st).Zi 7,((((Same.refl.set (by omega) _).set (by omega) _).set (by omega) _).set (by omega) _).set (by omega) _,rfl,rfl⟩
end
section
set_option maxRecDepth 20000
set_option maxHeartbeats 400000 in
theorem O0 {w:World} {L:Loc} {s:Mm} {b o:Nat} {T:TypeId} {cs:Array Value} {t n k m:Nat} {g p r:Int} {a:CV} (h:Z7 w L s) (hb:¬ L.has b) (hi:ZE w b o T cs a) (who:Int) (hG:Good t n k m g p r) {x:Nat} {G:Int} (hx:x<n) (hn:(6+t+x * 2)<s.n) {v st:Int} {A:Nat} {Gs V:Int} (hv:s.wd (6+t+x * 2)=v) (hs:YE v st A Gs V) {lv:Bool} (hl:(YU st && Gs == G)=lv) {σ:Nat} (hσ:wrap64 (s.steps+1)=σ) {ci:Int} {a0:CV} (H:(lv=true/\Za t n k m A=ci/\0<=ci/\a0={ a with se:=v,at_:=σ,nx:=1 })\/(lv=false/\a0={ a with se:=v,at_:=σ,nx:=7,E:=3,H:=0,V:=0,St:=σ })) :
 Calls Tryz.prog 186 #[pP b o,eV t n k m g p r L.p who,.agg #[iV x,iV G]] w fun e w'=>e=.returned (.tuple #[])/\U9 L b o T cs w w' (fun s' a'=>s'=((s.by who).step (6+t+x * 2) (s.wd (6+t+x * 2)))/\a'=a0):=by
 have HU:Hid (s.wd (6+t+x * 2)=v):=hv
 have HS:Hid ((((s.by who).step (6+t+x * 2) (s.wd (6+t+x * 2)))).steps=σ):=hσ
 have sw:=hs.call
 have hs1:=hG.s1
 have ab:(A:Int)<=1048575:=by have:=hs.ad;omega
 have dl:=fun w=>Uc st A Gs V x G w
 rw[hl] at dl
 clear hv hs hl hσ
 obtain⟨hbv,hbb⟩:=nb h hi.lt
 have YG:¬ L.has (w.heap.size+1):=fun hh=>by have:=h.lt _ hh;omega
 have YJ:¬ w.heap.size+1=b:=fun hh=>by have:=hi.lt;omega
 go_enter Tryz.func186,Tryz.ntmps186
 go_wp2
 refine ZT (fun W=>Z7 W L s/\ZE W b o T cs a/\ZP W w.heap.size t n k m g p r L.p who/\At W (w.heap.size+1) 0 182 #[iV x,iV G] [iV x,iV G]/\Only (L.and b) w W) ⟨(h.alloc _).alloc _,(hi.grown (ZY _ _)).grown (ZY _ _),ZP.WY _,At.Xj _ _ _ _,((Only.refl _ _).alloc _).alloc _⟩ ?_
 rintro W ⟨m1,i1,v1,x1,o1⟩
 apply QU (R:=ZQ L b (o+7)) (Ey L b o T cs (cs.setIfInBounds (o+7) (.int .u64 v)) s ((s.by who).step (6+t+x * 2) (s.wd (6+t+x * 2))) a { a with se:=v }) [7,10] Nl SG ⟨m1.drew,i1.drew⟩;. kernel_rfl
 apply pV;. intros;apply ol;go_simp;exact gl
 apply pV;. intro w' hR _;apply ol;have y:=(v1.dn hR.only hbv hbb).yy;go_simp;exact gl
 apply pV;. intros;apply ol;go_simp;exact gl
 apply pV;. intro w' hR _;apply ol;have y:=(v1.dn hR.only hbv hbb).yy;go_simp;exact gl
 apply pV;. intros;apply ol;go_simp;exact gl
 apply pV;. intro w' hR _;apply ol;have z:=(x1.drew.only hR.only (fun hh=>hh.elim YG YJ)).at0 0 rfl;go_simp;exact gl
 try simp only[pu,s0,s1]
 apply pV (c:=iV (((6+t+x * 2):Nat):Int));. intro w' hR _;apply ol;go_simp;refine(Y2 _ _ _ _ _ _ _ (x:Int) _ hG.arena (by omega) (by omega)).mono ?_;rintro e w'' ⟨rfl,b9⟩;exact⟨_,rfl,b9,congrArg (Value.int .i64) (by omega)⟩
 apply pV (c:=.int .u64 v);. intro w' hR _ hP;apply ol;go_simp;refine(Zh (s:=s) hP.1 _ _ _ _ _ _ _ _ (6+t+x * 2) hn).mono ?_;rintro e w'' ⟨rfl,m2,o2⟩;exact⟨_,rfl,⟨ZQ.Yn o2 hb,m2,hP.2.only o2 hb⟩,by simp[Want.pred,HU.out]⟩
 iterate 2 (apply pV;. intros;apply ol;go_simp;exact gl)
 apply OZ;. intro w' hR _ hP;apply ol;have z0:=hP.2.WM;have z1:=hP.2.fz;go_simp;exact⟨⟨ZQ.set _ _,hP.1.ZX hb _ _,hP.2.Nr _⟩,trivial⟩
 try simp only[pu,s0,s1]
 try simp only[pn]
 intro vv w2 hR hP _
 obtain⟨m2,i2⟩:Z7 w2 L ((s.by who).step (6+t+x * 2) (s.wd (6+t+x * 2)))/\ZE w2 b o T (cs.setIfInBounds (o+7) (.int .u64 v)) { a with se:=v }:=hP
 have o2:Only (L.and b) w w2:=o1.drew.trans hR.only
 have x2:=x1.drew.only hR.only (fun hh=>hh.elim YG YJ)
 have v2:=v1.dn hR.only hbv hbb
 have s2:Same o 24 cs (cs.setIfInBounds (o+7) (.int .u64 v)):=Same.refl.set (by omega) _
 obtain⟨g0,g1,g2,g3,g4,g5,g6,g7,g8⟩:=id v2
 clear hR o1 v1 m1 i1 x1
 go_wp2_with (first
  | (go_at_call 97;refine(XY m2 _ _ _ _ _ _ _ _ σ HS.out).mono ?_;rintro e w3 ⟨rfl,b3⟩;have i3:=i2.grown b3;have k8:=i3.KD;have kf:=i3.fz;have i4:=i3.Ez σ;have m4:=(m2.below b3).ZX hb (o+8) (iV σ);have x4:=(x2.grown b3).other YJ (o+8) (iV σ);have v4:=(v2.grown b3).ZX hbb (o+8) (iV σ);have o4:=(o2.trans (Only.ZZ b3)).set (o+8) (iV σ);have k7:(w3.setCell ⟨b,o+8,none⟩ (iV σ)).cell? ⟨b,o+7,none⟩=some (.int .u64 v):=i4.WM)
  | (go_at_call 120;refine(sw _).mono ?_;rintro e w5 ⟨rfl,b5⟩;have i6:=(i4.grown b5).grown (ZY _ (.cells #[iV st,iV A,iV Gs,iV V] 78));have x6:=(x4.grown b5).grown (ZY _ (.cells #[iV st,iV A,iV Gs,iV V] 78));have v6:=(v4.grown b5).grown (ZY _ (.cells #[iV st,iV A,iV Gs,iV V] 78));have m6:=(m4.below b5).alloc (.cells #[iV st,iV A,iV Gs,iV V] 78);have o6:=(o4.trans (Only.ZZ b5)).alloc (.cells #[iV st,iV A,iV Gs,iV V] 78);have q6:=At.new w5 78 [iV st,iV A,iV Gs,iV V];have z0:=q6.at0 0 rfl;have z1:=q6.at0 1 rfl;have z2:=q6.at0 2 rfl;have z3:=q6.at0 3 rfl;have u0:=x6.at0 0 rfl;have u1:=x6.at0 1 rfl))
 go_at_call 166
 refine(dl _).mono ?_
 rintro e w7 ⟨rfl,b7⟩
 have i7:=i6.grown b7
 have m7:=m6.below b7
 have v7:=v6.grown b7
 have o7:=o6.trans (Only.ZZ b7)
 have q7:=q6.grown b7
 have l1:=q7.at0 1 rfl
 obtain⟨e0,e1,e2,e3,e4,e5,e6,e7,e8⟩:=id v7
 have l8:w7.cell? ⟨b,o+8,none⟩=some (iV σ):=i7.KD
 rcases H with⟨rfl,hci,hc0,rfl⟩ | ⟨rfl,rfl⟩
 . have Hl:=fun w=>VD hG (A:Int) (by omega) w
   rw[hci] at Hl
   clear hci
   go_wp2_with (go_at_call 165;refine(Hl _).mono ?_;rintro e w8 ⟨rfl,b8⟩;have i8:=i7.grown b8;have m8:=m7.below b8;have l0:=i8.Zr;have lf:=i8.fz)
   go_end0
   exact⟨rfl,_,_,_,m8.ZX hb _ _,(o7.trans (Only.ZZ b8)).set _ _,i8.Zi 1,(s2.set (by omega) _).set (by omega) _,rfl,rfl⟩
 . go_wp2_with (go_at_call 183;refine(O1 m7 hb i7 3 0 σ).mono ?_;rintro e w8 ⟨rfl,s8,zA,a8,m8,o8,i8,q8,rfl,rfl⟩)
   refine bodyPost_ret (results_none rfl _ _ _) rfl ?_
   exact⟨rfl,_,_,_,m8,o7.trans o8,i8,(s2.set (by omega) _).trans q8,rfl,rfl⟩
set_option maxHeartbeats 1000000 in
theorem SC {w:World} {L:Loc} {s:Mm} {b o:Nat} {T:TypeId} {cs:Array Value} {t n k m:Nat} {g p r:Int} {a:CV} (h:Z7 w L s) (hb:¬ L.has b) (hi:ZE w b o T cs a) (who:Int) {st:Int} {A:Nat} {Gs V:Int} (hs:YE a.se st A Gs V) (hn:A<s.n) {u kd Z sl gn:Int} {ow:Bool} (hu:s.wd A=u) (hh:Ub u kd Z sl gn ow) {oo hh0:Bool} (ho:(ow == a.own)=oo) (hc:oo=true->∀ (w1:World) (c1:Array Value),ZE w1 b o T c1 { a with sz:=Z }->Calls Tryz.prog 192 #[pP b o,.agg #[iV t,iV n,iV k,iV m,iV g,iV p,iV r],iV A] w1 fun e w'=>e=.returned (.bool hh0)/\Below w1.heap.size w1 w') {σ:Nat} (hσ:wrap64 (s.steps+1)=σ) {a0:CV} (H:(oo=false/\a0={ a with sz:=Z,nx:=7,E:=3,H:=0,V:=0,St:=σ })\/(oo=true/\hh0=false/\a0={ a with sz:=Z,nx:=7,E:=4,H:=0,V:=0,St:=a.at_ })\/(oo=true/\hh0=true/\a0={ a with sz:=Z,nx:=2 })) :
 Calls Tryz.prog 187 #[pP b o,eV t n k m g p r L.p who] w fun e w'=>e=.returned (.tuple #[])/\U9 L b o T cs w w' (fun s' a'=>s'=((s.by who).step A (s.wd A))/\a'=a0):=by
 have HU:Hid (s.wd A=u):=hu
 have HO:Hid ((ow == a.own)=oo):=ho
 have sw:=hs.call
 have hw:=hh.call
 have HS:Hid ((((s.by who).step A (s.wd A))).steps=σ):=hσ
 clear hσ
 clear hu hs hh ho
 obtain⟨hbv,hbb⟩:=nb h hi.lt
 have i0:=hi.grown (ZY _ (.cells #[iV t,iV n,iV k,iV m,iV g,iV p,iV r,pP L.p 0,iV who] 29))
 have k3:=i0.WM
 go_enter Tryz.func187,Tryz.ntmps187
 go_wp2_with (first
  | (go_at_call 120;refine(sw _).mono ?_;rintro e w3 ⟨rfl,b3⟩;have i3:=(i0.grown b3).grown (ZY _ (.cells #[iV st,iV A,iV Gs,iV V] 78));have v3:=(ZP.new.grown b3).grown (ZY _ (.cells #[iV st,iV A,iV Gs,iV V] 78));have m3:=((h.alloc _).below b3).alloc (.cells #[iV st,iV A,iV Gs,iV V] 78);have o3:Only (L.and b) w (w3.alloc (.cells #[iV st,iV A,iV Gs,iV V] 78)):=(((Only.refl _ _).alloc _).trans (Only.ZZ b3)).alloc (.cells #[iV st,iV A,iV Gs,iV V] 78);have q3:=At.new w3 78 [iV st,iV A,iV Gs,iV V];obtain⟨e0,e1,e2,e3,e4,e5,e6,e7,e8⟩:=id v3;have q0:=q3.at0 1 rfl)
  | (go_at_call 101;refine(Zh m3 _ _ _ _ _ _ _ _ A hn).mono ?_;rintro e w5 ⟨rfl,m5,o5⟩;rw[HU.out])
  | (go_at_call 167;refine(hw _).mono ?_;rintro e w6 ⟨rfl,b6⟩;have i6:=((i3.only o5 hb).grown b6).grown (ZY _ (.cells #[iV kd,iV Z,iV sl,iV gn,.bool ow] 127));have y0:=At.new w6 127 [iV kd,iV Z,iV sl,iV gn,.bool ow];have k1:=y0.at0 1 rfl;have k9:=i6.WL;have kf:=i6.fz))
 obtain⟨S,hS⟩:∃ S,w3.heap.size=S:=⟨_,rfl⟩
 obtain⟨Hh,hH⟩:∃ Hh,w6.heap.size=Hh:=⟨_,rfl⟩
 have lS:¬ L.has S:=fun hh=>by have:=h.lt _ hh;have:=b3.size;simp only[Go.Deep.nblk_alloc] at this;omega
 have bS:S≠b:=by have:=hi.lt;have:=b3.size;simp only[Go.Deep.nblk_alloc] at this;omega
 have bH:Hh≠b:=by have:=hi.lt;have:=b3.size;have:=o5.size;have:=b6.size;simp only[Go.Deep.nblk_alloc] at *;omega
 rw[hS] at q3 ⊢
 rw[hH] at y0 ⊢
 refine ZT (fun W=>Z7 W L ((s.by who).step A (s.wd A))/\ZE W b o T (cs.setIfInBounds (o+9) (iV Z)) { a with sz:=Z }/\ZP W w.heap.size t n k m g p r L.p who/\At W S 0 78 _ [iV st,iV A,iV Gs,iV V]/\At W Hh 0 127 _ [iV kd,iV Z,iV sl,iV gn,.bool ow]/\Only (L.and b) w W) ⟨((m5.below b6).alloc _).ZX hb _ _,i6.Qe Z,(((v3.only o5 hbv).grown b6).grown (ZY _ _)).ZX hbb _ _,(((q3.only o5 lS).grown b6).grown (ZY _ _)).other bS _ _,y0.other bH _ _,(((o3.trans (o5.XM (b:=b))).trans (Only.ZZ b6)).alloc _).set _ _⟩ ?_
 clear b3 b6 m3 m5 o5 o3 q3 q0 y0 i3 i6 v3 i0 k3 k1 k9 kf hS hH sw hw
 rintro W ⟨m1,i1,v1,q1,y1,o1⟩
 apply zB;. kernel_rfl
 apply rV;. intros;apply ol;go_simp;exact gl
 apply rV;. intro w' hg _;apply ol;have z:=(y1.drew.grown hg).at0 4 rfl;go_simp;exact gl
 iterate 3 (apply rV;. intros;apply ol;go_simp;exact gl)
 apply rV;. intro w' hg _;apply ol;have z:=(i1.drew.grown hg).QJ;go_simp;exact gl
 try simp only[pu,s0,s1]
 apply rV (c:=.bool !oo);. intro w' hg _;apply ol;go_simp;exact⟨Grown.refl _,congrArg Value.bool (by rw[HO.out] <;> rfl)⟩
 apply XQ;. intros;apply ol;go_simp;exact gl
 try simp only[pu,s0,s1]
 intro w7 hg _
 have m7:=m1.drew.below hg
 have i7:=i1.drew.grown hg
 have v7:=v1.dg hg
 have q7:=q1.drew.grown hg
 have o7:Only (L.and b) w w7:=o1.drew.trans (Only.ZZ hg)
 have s7:Same o 24 cs (cs.setIfInBounds (o+9) (iV Z)):=Same.refl.set (by omega) _
 clear hg m1 i1 v1 q1 y1 o1
 have kA:=q7.at0 1 rfl
 obtain⟨y0,y1,y2,y3,y4,y5,y6,y7,y8⟩:=id v7
 rcases H with⟨rfl,rfl⟩ | ⟨rfl,rfl,rfl⟩ | ⟨rfl,rfl,rfl⟩
 . go_wp2_with (first
    | (go_at_call 97;refine(XY m7 _ _ _ _ _ _ _ _ σ HS.out).mono ?_;rintro e w8 ⟨rfl,b8⟩)
    | (go_at_call 183;refine(O1 (m7.below b8) hb (i7.grown b8) 3 0 σ).mono ?_;rintro e w9 ⟨rfl,s9,wM,a9,m9,o9,i9,q9,rfl,rfl⟩))
   go_end0
   exact⟨rfl,_,_,_,m9,(o7.trans (Only.ZZ b8)).trans o9,i9,s7.trans q9,rfl,rfl⟩
 . go_wp2_with (first
    | (go_at_call 192;refine(hc rfl _ _ i7).mono ?_;rintro e w8 ⟨rfl,b8⟩;have i8:=i7.grown b8;have m8:=m7.below b8;have k8:w8.cell? ⟨b,o+8,none⟩=some (iV a.at_):=i8.KD;have k0:=i8.Zr;have kf:=i8.fz)
    | (go_at_call 183;refine(O1 m8 hb i8 4 0 a.at_).mono ?_;rintro e w9 ⟨rfl,s9,wM,a9,m9,o9,i9,q9,rfl,rfl⟩))
   go_end0
   exact⟨rfl,_,_,_,m9,(o7.trans (Only.ZZ b8)).trans o9,i9,s7.trans q9,rfl,rfl⟩
 . go_wp2_with (go_at_call 192;refine(hc rfl _ _ i7).mono ?_;rintro e w8 ⟨rfl,b8⟩;have i8:=i7.grown b8;have m8:=m7.below b8;have k8:w8.cell? ⟨b,o+8,none⟩=some (iV a.at_):=i8.KD;have k0:=i8.Zr;have kf:=i8.fz)
   go_end0
   exact⟨rfl,_,_,_,m8.ZX hb _ _,(o7.trans (Only.ZZ b8)).set _ _,i8.Zi 2,s7.set (by omega) _,rfl,rfl⟩
end
section
set_option maxRecDepth 20000
def Ha (hb:Bool) (st V vr:Int) (fz:Bool) (nz:Int):Prop:=(hb=true/\nz=3)\/(hb=false/\st≠4/\((fz=false/\nz=6)\/(fz=true/\vr=V/\st=2/\nz=5)\/(fz=true/\(vr=V->st≠2)/\vr≥V/\nz=0)\/(fz=true/\¬ vr=V/\¬ vr≥V/\nz=6)))
set_option maxHeartbeats 1000000 in
theorem XG {w:World} {L:Loc} {s:Mm} {b o:Nat} {T:TypeId} {cs:Array Value} {t n k m:Nat} {g p r:Int} {a:CV} (h:Z7 w L s) (hb:¬ L.has b) (hi:ZE w b o T cs a) (who:Int) {x:Nat} {G:Int} {st:Int} {A:Nat} {Gs V:Int} (hs:YE a.se st A Gs V) {j:Nat} (hix:a.ix=j) (j1:j<=16) (hn:(A+1+j)<s.n) {u z vr:Int} {fz:Bool} (hu:s.wd (A+1+j)=u) (hc:CellIs u z fz vr) {σ:Nat} (hσ:wrap64 (s.steps+1)=σ) {hb':Bool} (hr:(decide (a.kd=1) || a.Qd z)=hb') {nz:Int} (H:Ha hb' st V vr fz nz) :
 Calls Tryz.prog 188 #[pP b o,eV t n k m g p r L.p who,.agg #[iV x,iV G]] w fun e w'=>e=.returned (.tuple #[])/\U9 L b o T cs w w' (fun s' a'=>s'=((s.by who).step (A+1+j) (s.wd (A+1+j)))/\a'={ a with ce:=u,ld:=σ,nx:=nz }):=by
 have HU:Hid (s.wd (A+1+j)=u):=hu
 have HS:Hid ((((s.by who).step (A+1+j) (s.wd (A+1+j)))).steps=σ):=hσ
 have HR:Hid ((decide (a.kd=1) || a.Qd z)=hb'):=hr
 have HL:Hid (Ha hb' st V vr fz nz):=H
 have sw:=hs.call
 have cc:=hc.call
 have ab:(A:Int)<=1048575:=by have:=hs.ad;omega
 have HX:Hid (a.ix=j):=hix
 clear hu hs hc hσ hr hix H
 obtain⟨hbv,hbb⟩:=nb h hi.lt
 have YG:¬ L.has (w.heap.size+1):=fun hh=>by have:=h.lt _ hh;omega
 have YJ:¬ w.heap.size+1=b:=fun hh=>by have:=hi.lt;omega
 have i0:=(hi.grown (ZY _ (.cells #[iV t,iV n,iV k,iV m,iV g,iV p,iV r,pP L.p 0,iV who] 29))).grown (ZY _ (.cells #[iV x,iV G] 182))
 have k3:=i0.WM
 go_enter Tryz.func188,Tryz.ntmps188
 go_wp2_with (go_at_call 120;refine(sw _).mono ?_;rintro e w3 ⟨rfl,b3⟩)
 have q0:=At.new w3 78 [iV st,iV A,iV Gs,iV V]
 obtain⟨S,hS⟩:∃ S,w3.heap.size=S:=⟨_,rfl⟩
 have lS:¬ L.has S:=fun hh=>by have:=h.lt _ hh;have:=b3.size;simp only[Go.Deep.nblk_alloc] at this;omega
 have bS:S≠b:=by have:=hi.lt;have:=b3.size;simp only[Go.Deep.nblk_alloc] at this;omega
 rw[hS] at q0 ⊢
 refine ZT (fun W=>Z7 W L s/\ZE W b o T cs a/\ZP W w.heap.size t n k m g p r L.p who/\At W S 0 78 _ [iV st,iV A,iV Gs,iV V]/\Only (L.and b) w W) ⟨(((h.alloc _).alloc _).below b3).alloc _,(i0.grown b3).grown (ZY _ _),((ZP.WY _).grown b3).grown (ZY _ _),q0,((((Only.refl _ _).alloc _).alloc _).trans (Only.ZZ b3)).alloc _⟩ ?_
 clear b3 i0 k3 sw q0 hS
 rintro W ⟨m1,i1,v1,q1,o1⟩
 apply QU (R:=ZQ L b (o+10)) (Ey L b o T cs (cs.setIfInBounds (o+10) (.int .u64 u)) s ((s.by who).step (A+1+j) (s.wd (A+1+j))) a { a with ce:=u }) [5,8] Nl SG ⟨m1.drew,i1.drew⟩;. kernel_rfl
 apply pV;. intros;apply ol;go_simp;exact gl
 apply pV;. intro w' hR _;apply ol;have y:=(v1.dn hR.only hbv hbb).yy;go_simp;exact gl
 apply pV;. intros;apply ol;go_simp;exact gl
 apply pV;. intro w' hR _;apply ol;have z0:=(q1.drew.only hR.only (fun hh=>hh.elim lS bS)).at0 0 rfl;have z1:=(q1.drew.only hR.only (fun hh=>hh.elim lS bS)).at0 1 rfl;have z2:=(q1.drew.only hR.only (fun hh=>hh.elim lS bS)).at0 2 rfl;have z3:=(q1.drew.only hR.only (fun hh=>hh.elim lS bS)).at0 3 rfl;go_simp;exact gl
 apply pV (c:=iV (((A+1+j):Nat):Int));. intro w' hR _;apply ol;go_simp;refine(U7 st A Gs V j (hR.keep (j:=o+3) (by omega) (by have z:=i1.drew.O5;rwa [HX.out] at z)) (by omega) (by omega) (by omega) (by omega)).mono ?_;rintro e w'' ⟨rfl,b9⟩;exact⟨_,rfl,b9,congrArg (Value.int .i64) (by omega)⟩
 apply pV (c:=.int .u64 u);. intro w' hR _ hP;apply ol;go_simp;refine(Zh (s:=s) hP.1 _ _ _ _ _ _ _ _ (A+1+j) hn).mono ?_;rintro e w'' ⟨rfl,m2,o2⟩;exact⟨_,rfl,⟨ZQ.Yn o2 hb,m2,hP.2.only o2 hb⟩,by simp[Want.pred,HU.out]⟩
 try simp only[pu,s0,s1]
 iterate 2 (apply pV;. intros;apply ol;go_simp;exact gl)
 apply OZ;. intro w' hR _ hP;apply ol;have z0:=hP.2.JU;have z1:=hP.2.fz;go_simp;exact⟨⟨ZQ.set _ _,hP.1.ZX hb _ _,hP.2.Bj _⟩,trivial⟩
 try simp only[pu,s0,s1]
 try simp only[pn]
 intro vv w2 hR hP _
 obtain⟨m2,i2⟩:Z7 w2 L ((s.by who).step (A+1+j) (s.wd (A+1+j)))/\ZE w2 b o T (cs.setIfInBounds (o+10) (.int .u64 u)) { a with ce:=u }:=hP
 have o2:Only (L.and b) w w2:=o1.drew.trans hR.only
 have v2:=v1.dn hR.only hbv hbb
 have q2:=q1.drew.only hR.only (fun hh=>hh.elim lS bS)
 have s2:Same o 24 cs (cs.setIfInBounds (o+10) (.int .u64 u)):=Same.refl.set (by omega) _
 obtain⟨g0,g1,g2,g3,g4,g5,g6,g7,g8⟩:=id v2
 clear hR o1 v1 m1 i1 q1
 go_wp2_with (first
  | (go_at_call 97;refine(XY m2 _ _ _ _ _ _ _ _ σ HS.out).mono ?_;rintro e w3 ⟨rfl,b3⟩;have i3:=i2.grown b3;have k8:=i3.yU;have kf:=i3.fz;have i4:=i3.Bi σ;have m4:=(m2.below b3).ZX hb (o+11) (iV σ);have q4:=(q2.grown b3).other bS (o+11) (iV σ);have o4:=(o2.trans (Only.ZZ b3)).set (o+11) (iV σ);have k7:(w3.setCell ⟨b,o+11,none⟩ (iV σ)).cell? ⟨b,o+10,none⟩=some (.int .u64 u):=i4.JU)
  | (go_at_call 177;refine(cc _).mono ?_;rintro e w5 ⟨rfl,b5⟩;have i6:=(i4.grown b5).grown (ZY _ (.cells #[iV z,.bool fz,iV vr] 213));have m6:=(m4.below b5).alloc (.cells #[iV z,.bool fz,iV vr] 213);have o6:=(o4.trans (Only.ZZ b5)).alloc (.cells #[iV z,.bool fz,iV vr] 213);have q6:=(q4.grown b5).grown (ZY _ (.cells #[iV z,.bool fz,iV vr] 213));have c6:=At.new w5 213 [iV z,.bool fz,iV vr];have z0:=c6.at0 0 rfl;have z1:=c6.at0 1 rfl;have z2:=c6.at0 2 rfl))
 go_at_call 194
 refine(Nj i6 z fz vr).mono ?_
 rintro e w7 ⟨rfl,b7⟩
 rw[show (decide (({ a with ce:=u,ld:=σ }:CV).kd=1) || ({ a with ce:=u,ld:=σ }:CV).Qd z)=hb' from HR.out]
 have i7:=i6.grown b7
 have m7:=m6.below b7
 have o7:=o6.trans (Only.ZZ b7)
 have q7:=q6.grown b7
 have c7:=c6.grown b7
 have t0:=q7.at0 0 rfl
 have t3:=q7.at0 3 rfl
 have t1:=c7.at0 1 rfl
 have t2:=c7.at0 2 rfl
 have k0:=i7.Zr
 have lf:=i7.fz
 rcases HL.out with⟨rfl,rfl⟩ | ⟨rfl,h4,⟨rfl,rfl⟩ | ⟨rfl,rfl,rfl,rfl⟩ | ⟨rfl,hv,hge,rfl⟩ | ⟨rfl,hv,hge,rfl⟩⟩
 all_goals go_wp2
 all_goals
  go_end0
  exact⟨rfl,_,_,_,m7.ZX hb _ _,o7.set _ _,i7.Zi _,(s2.set (by omega) _).set (by omega) _,rfl,rfl⟩
end
end Go.Proofs.YtibmjlefcaonnaaGreat
