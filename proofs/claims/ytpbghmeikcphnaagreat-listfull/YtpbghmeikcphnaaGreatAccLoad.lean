import Derived.Test.YtpbghmeikcphnaaGreatAllocCamp
import Derived.Test.YtpbghmeikcphnaaGreatDropGo
namespace Go.Proofs.YtpbghmeikcphnaaGreat
open Go.RowKit
section
structure Ox where
 x:Nat
 g:Nat
 a:Nat
 i:Nat
 u:Nat
 Z:Nat
 κ:Nat
 own:Bool
structure Ox.ok (t n k m:Nat) (o:Ox):Prop where
 z1:1<=o.Z
 z2:o.Z<=16
 kz:ZE o.Z=o.κ
 k4:o.κ<4
 x1:o.x<n
 g1:1<=o.g
 g2:o.g<=65535
 ik:o.i<k
 uk:o.u+room o.κ<=m
 ae:o.a=base t n k m o.i+o.u
structure Ox.lies (q:Q) (o:Ox):Prop where
 nf:o.x∉q.F
 sw:q.sw o.x=Zv 1 o.a o.g 0
 hw:q.dw o.a=Y9 2 o.Z o.x o.g o.own
 nt:∀ j,1<=j->j<=o.Z->0<=q.dw (o.a+j)/\q.dw (o.a+j)<=1099511627775
 us:o.u+room o.κ<=(q.y.ck o.i).us
def Ox.apart (o o':Ox):Prop:=o.x≠o'.x/\(o.i≠o'.i\/o.u+room o.κ<=o'.u\/o'.u+room o'.κ<=o.u)
def Eu (i:Nat):List Ox->Nat
 | []=>0
 | o :: l=>(if o.i=i then room o.κ else 0)+Eu i l
structure qJ (t n k m:Nat) (q:Q) (nx:Nat) (gen:Nat->Nat) (ls:List Ox):Prop where
 al:Alone k q.y nx
 us:∀ i,i<k->(q.y.ck i).us<=m
 dw:∀ i,i<k->∀ u,(q.y.ck i).us<=u->u<m->q.dw (base t n k m i+u)=0
 sw:∀ x,x∈q.F->q.sw x=Zv 0 0 (gen x) 0
 gb:∀ x,x<n->1<=gen x/\gen x<=65535
 gn:∀ o∈ls,gen o.x=o.g
 ok:∀ o∈ls,o.ok t n k m
 li:∀ o∈ls,o.lies q
 pw:ls.Pairwise Ox.apart
 lv:∀ i,i<k->q.lv i=Eu i ls
 wb:∀ a,0<=q.dw a/\q.dw a<=18446744073709551615
theorem SB (G:Nat) (hG:G<=65535):Zv 0 0 (G:Int) 0=G * 8388608:=by
 unfold Zv
 rw[YW 0 3 (by omega) (by decide),YW 0 20 (by omega) (by decide),YW G 16 (by omega) (by simp;omega),YW 0 22 (by omega) (by decide)]
 omega
theorem Et {G:Nat} (hG:G<=65535):Zq (Zv 0 0 (G:Int) 0)=G:=by
 rw[SB G hG]
 unfold Zq
 omega
theorem uA (t n k m:Nat):qJ t n k m (Q.new n) 0 (fun _=>1) [] :=
 ⟨Es k,fun _ _=>Nat.zero_le _,fun _ _ _ _ _=>rfl,fun _ _=>by show (8388608:Int)=_;rw[SB 1 (by decide)];rfl,fun _ _=>⟨Nat.le_refl _,by decide⟩,fun _ h=>(by cases h),fun _ h=>(by cases h),fun _ h=>(by cases h),.nil,fun _ _=>rfl,fun _=>⟨Int.le_refl 0,show (0:Int)<=18446744073709551615 by decide⟩⟩
section
variable {t n k m κ nx:Nat} {q:Q} {gen:Nat->Nat} {ls:List Ox} {own:Bool}
end
section
variable {w0 w w':World} {L:Loc} {bE t n k m σ nx:Nat} {cg:Int} {s:Mm} {q:Q} {gen:Nat->Nat} {ls:List Ox} {own:Bool}
end
end
section
def Zx (v:Int):Nat:=(v / 8 % 1048576).toNat
def YR (v:Int):Nat:=(v / 549755813888 % 4194304).toNat
def Us (u:Int):Nat:=(u / 4 % 65536).toNat
def Xe (u:Int):Bool:=decide (u / 1125899906842624 % 2=1)
def frozenIn (u:Int) (V:Nat):Bool:=decide (9223372036854775808<=u) && decide (u / 1099511627776 % 4194304=(V:Int))
def froze (u:Int) (V:Nat):Int:=Yj (u % 1099511627776) true V
def Xx (v:Int):Int:=Zv 4 (Zx v) (Zq v) (YR v+1)
def X6 (cg:Int) (v:Int):Int:=if cg<=(Zq v:Int) then Zv 3 0 (Zq v) 0 else Zv 0 0 ((Zq v:Int)+1) 0
def Wd (v:Int):Prop:=0<=v/\v<=18446744073709551615
theorem Xf (v:Int) (h:Wd v):Zf v (v % 8) (Zx v) (Zq v) (YR v) :=
 ⟨h.1,h.2,rfl,by unfold Zx;omega,by unfold Zq;omega,by unfold YR;omega⟩
theorem O5 (v:Int):Zx v<=1048575:=by unfold Zx;omega
theorem ES (u:Int) (h:Wd u):VN u (u % 4) (Us u) (u / 262144 % 65536) (u / 17179869184 % 65536) (Xe u) :=
 ⟨h.1,h.2,rfl,by unfold Us;omega,rfl,rfl,rfl⟩
theorem NR (a:Int) (f:Bool) (d:Int):Wd (Yj a f d):=Ep a f d
theorem Wj (a b c d:Int):Wd (Zv a b c d):=⟨(QQ a b c d).1,Int.le_trans (QQ a b c d).2 (by decide)⟩
theorem SA (a b c d:Int) (o:Bool):Wd (Y9 a b c d o):=⟨(UY a b c d o).1,Int.le_trans (UY a b c d o).2 (by decide)⟩
theorem Nr (u:Int) (V:Nat):Wd (froze u V):=NR _ _ _
theorem QK (cg v:Int):Wd (X6 cg v):=by unfold X6;split <;> exact Wj _ _ _ _
inductive Hp where
 | go (v:Int) (Z j:Nat) (u:Option Int)
 | over (Yp:Bool)
def Hp.ZO:Hp->Bool
 | .over _=>true
 | _=>false
def Vh (cg:Int) (x:Nat) (q:Q) (v:Int):Q × Hp :=
 if q.sw x=v then ({ q with sw:=upd q.sw x (X6 cg v) },.over true) else (q,.over false)
def Zd (cg:Int) (x:Nat) (q:Q):Hp->Q × Hp
 | .go v Z j none=>if Z<=j then Vh cg x q v else if frozenIn (q.dw (Zx v+1+j)) (YR v) then (q,.go v Z (j+1) none) else (q,.go v Z j (some (q.dw (Zx v+1+j))))
 | .go v Z j (some u)=>if Z<=j then Vh cg x q v else if q.dw (Zx v+1+j)=u then ({ q with dw:=upd q.dw (Zx v+1+j) (froze u (YR v)) },.go v Z (j+1) none) else (q,.go v Z j none)
 | .over w=>(q,.over w)
def Hp.cells (x:Nat):Hp->List Value->Prop
 | .go v Z j none,l=>∃ se,l=Yr x v Z j se false false false
 | .go v Z j (some u),l=>l=Yr x v Z j u true false false
 | .over w,l=>∃ v Z j se ld,l=Yr x v Z j se ld true w
theorem Hp.Zm {x:Nat} {η:Hp} {l:List Value} (h:η.cells x l):l.length=8:=by
 cases η with
 | go v Z j u =>
  cases u with
  | none=>obtain⟨_,rfl⟩:=h;rfl
  | some u=>have h':l=_:=h;subst h';rfl
 | over w=>obtain⟨_,_,_,_,_,rfl⟩:=h;rfl
theorem Hp.XE {x:Nat} {η:Hp} {l:List Value} (h:η.cells x l):l[6]?=some (.bool η.ZO):=by
 cases η with
 | go v Z j u =>
  cases u with
  | none=>obtain⟨_,rfl⟩:=h;rfl
  | some u=>have h':l=_:=h;subst h';rfl
 | over w=>obtain⟨_,_,_,_,_,rfl⟩:=h;rfl
structure TV (t n k m:Nat) (v:Int) (Z i:Nat):Prop where
 wd:Wd v
 life:Y2 (v % 8)=true
 z1:1<=Z
 z2:Z<=16
 ik:i<k
 ad:∃ u,u+Z<m/\Zx v=base t n k m i+u
theorem TV.c1 {t n k m:Nat} {v:Int} {Z i:Nat} (h:TV t n k m v Z i):Za t n k m (Zx v)=i:=by
 obtain⟨u,hu,e⟩:=h.ad
 rw[e];exact QL (u:=u) h.ik (by have:=h.z1;omega)
theorem TV.c2 {t n k m:Nat} {v:Int} {Z i:Nat} (h:TV t n k m v Z i):Za t n k m ((Zx v:Int)+(Z:Int))=i:=by
 obtain⟨u,hu,e⟩:=h.ad
 have:(Zx v:Int)+(Z:Int)=((base t n k m i+(u+Z):Nat):Int):=by rw[e];omega
 rw[this];exact QL h.ik hu
theorem TV.Cj {t n k m:Nat} {v:Int} {Z i:Nat} (h:TV t n k m v Z i):6+t+n * 2+k * 3<=Zx v/\Zx v+Z<6+t+n * 2+k * 3+k * m:=by
 obtain⟨u,hu,e⟩:=h.ad
 have:=OL (t:=t) (n:=n) (m:=m) (u:=u) (r:=Z+1) h.ik (by omega)
 rw[e];omega
def Hp.good (t n k m:Nat):Hp->Prop
 | .go v Z _ u=>(∃ i,TV t n k m v Z i)/\∀ u',u=some u'->Wd u'
 | .over _=>True
def Hp.at (t x:Nat):Hp->Nat
 | .go v Z j _=>if Z<=j then 6+t+x * 2 else Zx v+1+j
 | .over _=>0
section
variable {w:World} {L:Loc} {s:Mm} {b o:Nat} {T:TypeId} {cs:Array Value} {t n k m σ:Nat} {g p r:Int} {q:Q}
theorem TW {s:Mm} {who:Int} {a:Nat} {old v:Int} (h:s.wd a=old):(s.by who).Vz a old v=(s.by who).step a v:=by
 show (if s.wd a=old then _ else _)=_
 rw[if_pos h]
theorem Vo {s:Mm} {who:Int} {a:Nat} {old v:Int} (h:s.wd a≠old):(s.by who).Vz a old v=(s.by who).step a (s.wd a):=by
 show (if s.wd a=old then _ else _)=_
 rw[if_neg h];rfl
set_option maxHeartbeats 400000 in
theorem UQ (h:Z9 w L s) (hb:¬ L.has b) (hT:YU t n k m s σ q) (hG:Good t n k m g p r) (hσ:σ<1000000) (hdw:∀ a,Wd (q.dw a)) {x:Nat} (hx:x<n) (η:Hp) {l:List Value} (hi:At w b o T cs l) (hc:η.cells x l) (hg:η.good t n k m) (ho:η.ZO=false) (who:Int) (q':Q) (η':Hp) (hq:Zd g x q η=(q',η')) (d:Bool) (hd:η'.ZO=d) :
 Calls Tryz.prog 162 #[pP b o,eV t n k m g p r L.p who] w fun e w'=>e=.returned (.bool d)/\We L b o T cs w w' (fun s' l'=>YU t n k m s' (σ+1) q'/\η'.cells x l'/\∃ v,s'=(s.by who).step (η.at t x) v):=by
 have hlen:ZI t n k m<=s.n:=by rw[hT.len];exact Nat.le_refl _
 have hlen':=hT.len
 have hxs:6+t+x * 2<s.n:=by omega
 cases η with
 | over=>cases ho
 | go v Z j u =>
  obtain⟨⟨i,O⟩,hu⟩:=hg
  have sl:=Xf v O.wd
  have ab:=O5 v
  have z1:=O.z1
  have z2:=O.z2
  have hin:=O.Cj
  have gb:=QR v
  have g1:=hG.g1
  by_cases hj:Z<=j
  . have hq1:Vh g x q v=(q',η'):=by
     cases u <;> simpa [Zd,hj] using hq
    have hat:Hp.at t x (.go v Z j u)=6+t+x * 2:=by simp[Hp.at,hj]
    rw[hat]
    obtain⟨se,ld,rfl⟩:∃ se ld,l=Yr x v Z j se ld false false:=by
     cases u with
     | none=>obtain⟨se,rfl⟩:=hc;exact⟨se,false,rfl⟩
     | some u=>exact⟨u,true,hc⟩
    have key:∀ (nw:Int),X6 g v=nw->(∀ w1:World,Z9 w1 L s->At w1 b o T cs (Yr x v Z j se ld false false)->Calls Tryz.prog 171 #[pP b o,eV t n k m g p r L.p who,.agg #[iV (v % 8),iV (Zx v),iV (Zq v),iV (YR v)]] w1 fun e w'=>e=.returned (.tuple #[])/\We L b o T cs w1 w' (fun s' l'=>s'=(s.by who).Vz (6+t+x * 2) v nw/\l'=Yr x v Z j se ld true (decide (s.wd (6+t+x * 2)=v)))) ->
     Calls Tryz.prog 162 #[pP b o,eV t n k m g p r L.p who] w fun e w'=>e=.returned (.bool d)/\We L b o T cs w w' (fun s' l'=>YU t n k m s' (σ+1) q'/\η'.cells x l'/\∃ v,s'=(s.by who).step (6+t+x * 2) v):=by
     intro nw hnw hcall
     refine G6 h hi who hG hlen hx sl O.life ab (by omega) (by omega) (i:=(i:Int)) (by omega) O.c1 O.c2 (by omega) _ d (fun s' l' P=>by rw[<- hd];exact Hp.XE P.2.1) fun w1 m1 i1=>(hcall w1 m1 i1).mono ?_
     rintro e w' ⟨rfl,s',cs',l',m',o',i',q9,rfl,rfl⟩
     refine⟨rfl,_,cs',_,m',o',i',q9,?_⟩
     by_cases hw:q.sw x=v
     . have hw':s.wd (6+t+x * 2)=v:=by rw[hT.Qc x hx];exact hw
       simp only[Vh,hw,if_true] at hq1
       obtain⟨rfl,rfl⟩:=Prod.mk.inj hq1
       rw[TW hw',decide_eq_true hw',<- hnw]
       exact⟨hT.shows hσ who hx _ (QK g v).1 (QK g v).2,⟨_,_,_,_,_,rfl⟩,_,rfl⟩
     . have hw':s.wd (6+t+x * 2)≠v:=by rw[hT.Qc x hx];exact hw
       simp only[Vh,hw,if_false] at hq1
       obtain⟨rfl,rfl⟩:=Prod.mk.inj hq1
       rw[Vo hw',decide_eq_false hw']
       exact⟨hT.same hσ who _,⟨_,_,_,_,_,rfl⟩,_,rfl⟩
    by_cases hl:g<=(Zq v:Int)
    . exact key _ (by unfold X6;rw[if_pos hl]) fun w1 m1 i1=>G7 m1 hb i1 who _ _ _ _ hG (by omega) (by omega) hl hx rfl hxs
    . exact key _ (by unfold X6;rw[if_neg hl]) fun w1 m1 i1=>G8 m1 hb i1 who _ _ _ _ hG (by omega) (by omega) (by omega) hx rfl hxs
  . have hat:Hp.at t x (.go v Z j u)=Zx v+1+j:=by simp[Hp.at,hj]
    rw[hat]
    have hn:Zx v+1+j<s.n:=by omega
    have hwd:s.wd (Zx v+1+j)=q.dw (Zx v+1+j):=hT.Ll _ (by omega)
    cases u with
    | none =>
     obtain⟨se,rfl⟩:=hc
     simp only[Zd,hj,if_false] at hq
     have cell:CellIs (q.dw (Zx v+1+j)) _ _ _:=⟨(hdw _).1,(hdw _).2,rfl,rfl,rfl⟩
     by_cases hf:frozenIn (q.dw (Zx v+1+j)) (YR v)=true
     . rw[if_pos hf] at hq
       obtain⟨rfl,rfl⟩:=Prod.mk.inj hq
       have hf':=hf
       unfold frozenIn at hf'
       rw[Bool.and_eq_true] at hf'
       obtain⟨f1,f2⟩:=hf'
       refine Uj h hi who hG hlen hx sl O.life ab (by omega) (by omega) (i:=(i:Int)) (by omega) O.c1 O.c2 (by omega) _ d (fun s' l' P=>by rw[<- hd];exact Hp.XE P.2.1) fun w1 m1 i1=>(KL m1 hb i1 who _ _ _ _ ab (by omega) hwd cell f1 (by rw[if_pos (of_decide_eq_true f1)];exact of_decide_eq_true f2) hn).mono ?_
       rintro e w' ⟨rfl,s',cs',l',m',o',i',q9,rfl,rfl⟩
       exact⟨rfl,_,cs',_,m',o',i',q9,hT.same hσ who _,⟨_,rfl⟩,_,rfl⟩
     . rw[if_neg hf] at hq
       obtain⟨rfl,rfl⟩:=Prod.mk.inj hq
       unfold frozenIn at hf
       rw[Bool.and_eq_true] at hf
       by_cases f1:decide (9223372036854775808<=q.dw (Zx v+1+j))=true
       . refine Uj h hi who hG hlen hx sl O.life ab (by omega) (by omega) (i:=(i:Int)) (by omega) O.c1 O.c2 (by omega) _ d (fun s' l' P=>by rw[<- hd];exact Hp.XE P.2.1) fun w1 m1 i1=>(KI m1 hb i1 who _ _ _ _ ab (by omega) hwd cell f1 (by rw[if_pos (of_decide_eq_true f1)];exact fun e=>hf ⟨f1,decide_eq_true e⟩) hn).mono ?_
         rintro e w' ⟨rfl,s',cs',l',m',o',i',q9,rfl,rfl⟩
         exact⟨rfl,_,cs',_,m',o',i',q9,hT.same hσ who _,rfl,_,rfl⟩
       . refine Uj h hi who hG hlen hx sl O.life ab (by omega) (by omega) (i:=(i:Int)) (by omega) O.c1 O.c2 (by omega) _ d (fun s' l' P=>by rw[<- hd];exact Hp.XE P.2.1) fun w1 m1 i1=>(KJ m1 hb i1 who _ _ _ _ ab (by omega) hwd cell (by simpa using f1) hn).mono ?_
         rintro e w' ⟨rfl,s',cs',l',m',o',i',q9,rfl,rfl⟩
         exact⟨rfl,_,cs',_,m',o',i',q9,hT.same hσ who _,rfl,_,rfl⟩
    | some u =>
     have hc':l=_:=hc
     subst hc'
     simp only[Zd,hj,if_false] at hq
     have hub:=hu u rfl
     have cell:CellIs u _ _ _:=⟨hub.1,hub.2,rfl,rfl,rfl⟩
     have fv:Fit (YR v:Int):=⟨by omega,by unfold YR;omega⟩
     by_cases hw:q.dw (Zx v+1+j)=u
     . rw[if_pos hw] at hq
       obtain⟨rfl,rfl⟩:=Prod.mk.inj hq
       have hw':s.wd (Zx v+1+j)=u:=hwd.trans hw
       refine TL h hi who hG hlen hx sl O.life ab (by omega) (by omega) (i:=(i:Int)) (by omega) O.c1 O.c2 (by omega) _ d (fun s' l' P=>by rw[<- hd];exact Hp.XE P.2.1) fun w1 m1 i1=>(Nw m1 hb i1 who _ _ _ _ ab (by omega) cell fv (decide_eq_true hw') hn).mono ?_
       rintro e w' ⟨rfl,s',cs',l',m',o',i',q9,rfl,rfl⟩
       rw[TW hw'] at m'
       exact⟨rfl,_,cs',_,m',o',i',q9,hT.lays hσ who (by omega) _,⟨_,rfl⟩,_,rfl⟩
     . rw[if_neg hw] at hq
       obtain⟨rfl,rfl⟩:=Prod.mk.inj hq
       have hw':s.wd (Zx v+1+j)≠u:=by rw[hwd];exact hw
       refine TL h hi who hG hlen hx sl O.life ab (by omega) (by omega) (i:=(i:Int)) (by omega) O.c1 O.c2 (by omega) _ d (fun s' l' P=>by rw[<- hd];exact Hp.XE P.2.1) fun w1 m1 i1=>(KG m1 hb i1 who _ _ _ _ ab (by omega) cell fv (decide_eq_false hw') hn).mono ?_
       rintro e w' ⟨rfl,s',cs',l',m',o',i',q9,rfl,rfl⟩
       rw[Vo hw'] at m'
       exact⟨rfl,_,cs',_,m',o',i',q9,hT.same hσ who _,⟨_,rfl⟩,_,rfl⟩
end
inductive Dp where
 | see
 | ask (v:Int)
 | mark (v:Int) (Z:Nat)
 | Vu (η:Hp)
 | fin (Z i:Nat) (η:Hp)
 | count (Z i:Nat)
 | give (γ:Gv)
 | over (E:Int)
def Dp.ZO:Dp->Bool
 | .over _=>true
 | _=>false
def Dp.nx:Dp->Int
 | .see=>0
 | .ask _=>1
 | .mark _ _=>2
 | .Vu _=>3
 | .fin _ _ _=>4
 | .count _ _=>5
 | .give _=>6
 | .over _=>7
theorem Dp.TY (α:Dp):(α.nx == 7)=α.ZO:=by cases α <;> rfl
def OV:Q × Hp->Q × Dp
 | (q',.over _)=>(q',.see)
 | (q',η')=>(q',.Vu η')
def Vl (Z i:Nat):Q × Hp->Q × Dp
 | (q',.over _)=>(q',.count Z i)
 | (q',η')=>(q',.fin Z i η')
def WY (q:Q):Nat × (Nat->Nat) × List Nat × Gv->Q × Dp
 | (c',lk',F',.over)=>({ q with c:=c',lk:=lk',F:=F' },.over 0)
 | (c',lk',F',γ')=>({ q with c:=c',lk:=lk',F:=F' },.give γ')
def RP (own:Bool) (v u:Int):Dp :=
 if Xe u == own then (if v % 8=4 then .Vu (.go v (Us u) 0 none) else .mark v (Us u)) else .over 3
def ZJ (t n k m:Nat) (cg:Int) (own:Bool) (x G:Nat) (q:Q):Dp->Q × Dp
 | .see=>(q,if Y2 (q.sw x % 8) && decide (Zq (q.sw x)=G) then .ask (q.sw x) else .over 3)
 | .ask v=>(q,RP own v (q.dw (Zx v)))
 | .mark v Z=>if q.sw x=v then ({ q with sw:=upd q.sw x (Xx v) },.fin Z (Za t n k m (Zx v)).toNat (.go (Xx v) Z 0 none)) else (q,.see)
 | .Vu η=>OV (Zd cg x q η)
 | .fin Z i η=>Vl Z i (Zd cg x q η)
 | .count Z i=>({ q with lv:=upd q.lv i (q.lv i - room (ZE Z).toNat) },if cg<=G then .over 0 else .give .idle)
 | .give γ=>WY q (Y4 q.c q.lk q.F x γ)
 | .over E=>(q,.over E)
def O3 (t n k m:Nat) (q:Q) (v:Int):Prop:=∃ i,TV t n k m v (Us (q.dw (Zx v))) i
def Dp.good (t n k m x G:Nat) (q:Q):Dp->Prop
 | .see=>Y2 (q.sw x % 8)=true->Zq (q.sw x)=G->O3 t n k m q (q.sw x)
 | .ask v=>O3 t n k m q v
 | .mark v Z=>∃ i,TV t n k m v Z i
 | .Vu η=>η.good t n k m/\η.ZO=false
 | .fin _ _ η=>η.good t n k m/\η.ZO=false
 | .count Z i=>1<=Z/\Z<=16/\i<k/\room (ZE Z).toNat<=q.lv i
 | .give γ=>x∉q.F/\γ.good n q.c q.lk q.F x/\γ.done=false
 | .over _=>True
def Dp.at (t n x:Nat):Dp->Nat
 | .see=>6+t+x * 2
 | .ask v=>Zx v
 | .mark _ _=>6+t+x * 2
 | .Vu η=>η.at t x
 | .fin _ _ η=>η.at t x
 | .count _ i=>6+t+n * 2+i * 3+1
 | .give γ=>γ.at t x
 | .over _=>0
def Dp.sec (t n k m:Nat):Dp->Int->Int->Int->Prop
 | .ask v,se,ch,_=>se=v/\ch=Za t n k m (Zx v)
 | .mark v Z,se,ch,sz=>se=v/\ch=Za t n k m (Zx v)/\sz=Z
 | .fin Z i _,_,ch,sz=>ch=i/\sz=Z
 | .count Z i,_,ch,sz=>ch=i/\sz=Z
 | _,_,_,_=>True
def Dp.hlc (x:Nat):Dp->List Value->Prop
 | .Vu η,l=>η.cells x l
 | .fin _ _ η,l=>η.cells x l
 | _,_=>True
def Dp.mi (x:Nat):Dp->List Value->Prop
 | .give γ,l=>γ.cells x l
 | _,_=>True
def Dp.err:Dp->Int
 | .over E=>E
 | _=>0
structure Bo (t n k m:Nat) (nu:Int) (own:Bool) (x:Nat) (α:Dp) (a:DV):Prop where
 nx:a.nx=α.nx
 nu:a.nu=nu
 ow:a.own=own
 sec:α.sec t n k m a.se a.ch a.sz
 hl:α.hlc x a.hl
 gl:α.mi x a.gl
 E:a.E=α.err
 H:a.H=0
 V:a.V=0
theorem yG (t n k m:Nat) (nu:Int) (own:Bool) (x:Nat):Bo t n k m nu own x .see (qP nu own):=⟨rfl,rfl,rfl,trivial,trivial,trivial,rfl,rfl,rfl⟩
theorem YU.Eo {t n k m:Nat} {s:Mm} {σ:Nat} {q:Q} (h:YU t n k m s σ q) (hσ:σ<1000000) (who:Int) {i r:Nat} (hi:i<k) (hr:r<=17) (hl:r<=q.lv i) :
 YU t n k m ((s.by who).step (6+t+n * 2+i * 3+1) (sum64 (s.wd (6+t+n * 2+i * 3+1)) (Xu (-(r:Int))))) (σ+1) { q with lv:=upd q.lv i (q.lv i - r) }:=by
 have hb:=h.Cf i hi
 have hv:sum64 (s.wd (6+t+n * 2+i * 3+1)) (Xu (-(r:Int)))=Hq (q.lv i - r) (q.db i):=by
  rw[h.Ci i hi];exact AY _ _ _ hl
 refine⟨h.pile.off hσ who _ _ (by omega) (fun x hx=>by omega),h.Uo.off hσ who _ _ (by omega) (fun j hj=>by omega),fun j hj=>?_,fun j hj=>?_,fun x hx=>?_,h.Il,fun b hb=>?_,?_⟩
 . by_cases e:j=i
   . subst e
     rw[YU.UU,hv]
     show _=Hq (upd q.lv j (q.lv j - r) j) (q.db j)
     rw[upd_same]
   . rw[YU.Zp who _ _ _ (by omega)]
     show _=Hq (upd q.lv i (q.lv i - r) j) (q.db j)
     rw[Z7 _ _ _ _ e];exact h.Ci j hj
 . show upd q.lv i (q.lv i - r) j<=17 * (σ+1)
   by_cases e:j=i
   . subst e;rw[upd_same];omega
   . rw[Z7 _ _ _ _ e];have:=h.Cf j hj;omega
 . rw[YU.Zp who _ _ _ (by omega)];exact h.Qc x hx
 . rw[YU.Zp who _ _ _ (by omega)];exact h.Ll b hb
 . rw[YU.Zp who _ _ _ (by omega)];exact h.ep
def Dp.reads:Dp->Bool
 | .see=>true
 | .ask _=>true
 | _=>false
def Tl (t x σ:Nat) (s':Mm) (a a':DV):Dp->Dp->Prop
 | .fin _ _ _,.count _ _=>a'.St=s'.wn (6+t+x * 2)
 | .count _ _,_=>a'.St=a.St
 | .give _,_=>a'.St=a.St
 | .see,.over _=>a'.St=((σ+1:Nat):Int)
 | .ask _,.over _=>a'.St=((σ+1:Nat):Int)
 | _,_=>True
structure qI (w:World) (L:Loc) (s:Mm) (a:DV) (b o:Nat) (T:TypeId) (cs:Array Value) (t n k m σ:Nat) (nu:Int) (own:Bool) (x:Nat) (who:Int) (α:Dp) (q':Q) (α':Dp) (w':World) (s':Mm) (cs':Array Value) (a':DV):Prop where
 mm:Z9 w' L s'
 tw:YU t n k m s' (σ+1) q'
 dp:ZK w' b o T cs' a'
 is:Bo t n k m nu own x α' a'
 same:Same o 21 cs cs'
 only:Only (L.and b) w w'
 st:∃ v,s'=(s.by who).step (α.at t n x) v
 rd:α.reads=true->s'=(s.by who).step (α.at t n x) (s.wd (α.at t n x))
 tl:Tl t x σ s' a a' α α'
theorem GY {q':Q} {η':Hp} (h:η'.ZO=false):OV (q',η')=(q',.Vu η'):=by
 cases η' with
 | over=>cases h
 | go=>rfl
theorem En {Z i:Nat} {q':Q} {η':Hp} (h:η'.ZO=false):Vl Z i (q',η')=(q',.fin Z i η'):=by
 cases η' with
 | over=>cases h
 | go=>rfl
theorem GX {q:Q} {c':Nat} {lk':Nat->Nat} {F':List Nat} {γ':Gv} (h:γ'.done=false):WY q (c',lk',F',γ')=({ q with c:=c',lk:=lk',F:=F' },.give γ'):=by
 cases γ' with
 | over=>cases h
 | _=>rfl
theorem Hp.TQ {η:Hp} (h:η.ZO=true):∃ w,η=.over w:=by
 cases η with
 | over w=>exact⟨w,rfl⟩
 | go=>cases h
theorem KF {Z:Nat} (z1:1<=Z) (z2:Z<=16):ZE Z=((ZE Z).toNat:Nat)/\(ZE Z).toNat<4:=by
 unfold ZE
 rw[if_neg (by omega)]
 repeat' split
 all_goals omega
section
variable {w:World} {L:Loc} {s:Mm} {b o:Nat} {T:TypeId} {cs:Array Value} {a:DV} {t n k m σ:Nat} {g p r:Int} {q:Q} {nu:Int} {own:Bool}
set_option maxHeartbeats 1000000 in
theorem drop_step (h:Z9 w L s) (hb:¬ L.has b) (hT:YU t n k m s σ q) (hG:Good t n k m g p r) (hσ:σ<1000000) (hdw:∀ a,Wd (q.dw a)) {x G:Nat} (hh:Y1 nu x G) (hx:x<n) (α:Dp) (hi:ZK w b o T cs a) (his:Bo t n k m nu own x α a) (hg:α.good t n k m x G q) (ho:α.ZO=false) (who:Int) (q':Q) (α':Dp) (hq:ZJ t n k m g own x G q α=(q',α')) (d:Bool) (hd:α'.ZO=d) :
 Calls Tryz.prog 156 #[pP b o,eV t n k m g p r L.p who] w fun e w'=>e=.returned (.bool d)/\∃ s' cs' a',qI w L s a b o T cs t n k m σ nu own x who α q' α' w' s' cs' a':=by
 have hlen:ZI t n k m<=s.n:=by rw[hT.len];exact Nat.le_refl _
 have hlen':=hT.len
 have hmk:k * m<=64 * 256:=Nat.mul_le_mul hG.k1 hG.n1
 have hxs:6+t+x * 2<s.n:=by omega
 have hst:wrap64 (s.steps+1)=((σ+1:Nat):Int):=by rw[hT.pile.st];exact hT.pile.WB hσ
 have hh':=hh
 obtain⟨Yd,Vw,XI,Q3,ihl,oq,iE,iH,iV⟩:=his
 rw[<- Vw] at hh
 have hdn:=Dp.TY α'
 rw[hd] at hdn
 cases α with
 | over=>cases ho
 | see =>
  obtain⟨v,hv⟩:∃ v,q.sw x=v:=⟨_,rfl⟩
  have hwv:s.wd (6+t+x * 2)=v:=by rw[hT.Qc x hx];exact hv
  have wv:Wd v:=by rw[<- hv];exact hT.Il x hx
  have sl:=Xf v wv
  simp only[ZJ,hv] at hq
  simp only[Dp.good,hv] at hg
  by_cases hl:(Y2 (v % 8) && decide (Zq v=G))=true
  . rw[if_pos hl] at hq
    obtain⟨rfl,rfl⟩:=Prod.mk.inj hq
    rw[Bool.and_eq_true] at hl
    obtain⟨i,O⟩:=hg hl.1 (of_decide_eq_true hl.2)
    have hl':(Y2 (v % 8) && ((Zq v:Int) == (G:Int)))=true:=by
     rw[hl.1,of_decide_eq_true hl.2];simp
    refine(PM h hi who hG hlen hh hx Yd _ d ?_ (fun w1 m1 i1=>ED m1 hb i1 who hG hx hxs hwv sl (ci:=Za t n k m (Zx v)) rfl hl' (by rw[O.c1];omega))).mono ?_
    . rintro s' a' ⟨_,rfl⟩
      rw[<- hdn];rfl
    . rintro e w' ⟨rfl,s',cs',a',m',o',i',sm,rfl,rfl⟩
      exact⟨rfl,_,cs',_,m',hT.same hσ who _,i',⟨rfl,Vw,XI,⟨rfl,rfl⟩,trivial,trivial,iE,iH,iV⟩,sm,o',⟨_,rfl⟩,fun _=>rfl,by first | exact trivial | rfl⟩
  . rw[if_neg hl] at hq
    obtain⟨rfl,rfl⟩:=Prod.mk.inj hq
    have hl':(Y2 (v % 8) && ((Zq v:Int) == (G:Int)))=false:=by
     rw[Bool.not_eq_true] at hl
     rw[<- hl]
     congr 1
     rw[Bool.eq_iff_iff]
     simp only[beq_iff_eq,decide_eq_true_eq]
     omega
    refine(PM h hi who hG hlen hh hx Yd _ d ?_ (fun w1 m1 i1=>AL m1 hb i1 who hG hx hxs hwv sl (ci:=Za t n k m (Zx v)) rfl hl' (by rw[Yd];decide) hst)).mono ?_
    . rintro s' a' ⟨_,rfl⟩
      rw[<- hdn];rfl
    . rintro e w' ⟨rfl,s',cs',a',m',o',i',sm,rfl,rfl⟩
      exact⟨rfl,_,cs',_,m',hT.same hσ who _,i',⟨rfl,Vw,XI,trivial,trivial,trivial,rfl,rfl,rfl⟩,sm,o',⟨_,rfl⟩,fun _=>rfl,by first | exact trivial | rfl⟩
 | ask v =>
  obtain⟨i,O⟩:=hg
  obtain⟨rfl,wz⟩:=Q3
  have sl:=Xf a.se O.wd
  have hin:=O.Cj
  have QZ:s.wd (Zx a.se)=q.dw (Zx a.se):=hT.Ll _ hin.1
  have hd1:=ES _ (hdw (Zx a.se))
  have hq':(q,RP own a.se (q.dw (Zx a.se)))=(q',α'):=hq
  obtain⟨rfl,hα⟩:=Prod.mk.inj hq'
  have hnA:Zx a.se<s.n:=by omega
  by_cases hw:(Xe (q.dw (Zx a.se)) == own)=true
  . have hwo:(Xe (q.dw (Zx a.se)) == a.own)=true:=by rw[XI];exact hw
    simp only[RP,hw,if_true] at hα
    by_cases h4:a.se % 8=4
    . rw[if_pos h4] at hα
      subst hα
      refine(SE h hi who hG hlen hh hx Yd _ d ?_ (fun w1 m1 i1=>He m1 hb i1 who sl hnA QZ hd1 hwo h4)).mono ?_
      . rintro s' a' ⟨_,rfl⟩
        rw[<- hdn];rfl
      . rintro e w' ⟨rfl,s',cs',a',m',o',i',sm,rfl,rfl⟩
        exact⟨rfl,_,cs',_,m',hT.same hσ who _,i',⟨rfl,Vw,XI,trivial,⟨0,rfl⟩,trivial,iE,iH,iV⟩,sm,o',⟨_,rfl⟩,fun _=>rfl,by first | exact trivial | rfl⟩
    . rw[if_neg h4] at hα
      subst hα
      refine(SE h hi who hG hlen hh hx Yd _ d ?_ (fun w1 m1 i1=>AP m1 hb i1 who sl hnA QZ hd1 hwo h4)).mono ?_
      . rintro s' a' ⟨_,rfl⟩
        rw[<- hdn];rfl
      . rintro e w' ⟨rfl,s',cs',a',m',o',i',sm,rfl,rfl⟩
        exact⟨rfl,_,cs',_,m',hT.same hσ who _,i',⟨rfl,Vw,XI,⟨rfl,wz,rfl⟩,trivial,trivial,iE,iH,iV⟩,sm,o',⟨_,rfl⟩,fun _=>rfl,by first | exact trivial | rfl⟩
  . have hw':(Xe (q.dw (Zx a.se)) == own)=false:=by simpa using hw
    have hwo:(Xe (q.dw (Zx a.se)) == a.own)=false:=by rw[XI];exact hw'
    simp only[RP,hw'] at hα
    subst hα
    refine(SE h hi who hG hlen hh hx Yd _ d ?_ (fun w1 m1 i1=>AQ m1 hb i1 who sl hnA QZ hd1 (by rw[Yd];show (1:Int)<5;decide) hwo hst)).mono ?_
    . rintro s' a' ⟨_,rfl⟩
      rw[<- hdn];rfl
    . rintro e w' ⟨rfl,s',cs',a',m',o',i',sm,rfl,rfl⟩
      exact⟨rfl,_,cs',_,m',hT.same hσ who _,i',⟨rfl,Vw,XI,trivial,trivial,trivial,rfl,rfl,rfl⟩,sm,o',⟨_,rfl⟩,fun _=>rfl,by first | exact trivial | rfl⟩
 | mark v Z =>
  obtain⟨i,O⟩:=hg
  obtain⟨rfl,wz,QY⟩:=Q3
  have sl:=Xf a.se O.wd
  by_cases hw:q.sw x=a.se
  . have hw':s.wd (6+t+x * 2)=a.se:=by rw[hT.Qc x hx];exact hw
    simp only[ZJ,hw,if_true] at hq
    obtain⟨rfl,rfl⟩:=Prod.mk.inj hq
    refine(QN h hi who hG hlen hh hx Yd _ d ?_ (fun w1 m1 i1=>G5 m1 hb i1 who hG hx hxs QY sl (decide_eq_true hw'))).mono ?_
    . rintro s' a' ⟨_,rfl⟩
      rw[<- hdn];rfl
    . rintro e w' ⟨rfl,s',cs',a',m',o',i',sm,rfl,rfl⟩
      rw[TW hw'] at m'
      refine⟨rfl,_,cs',_,m',hT.shows hσ who hx _ (Wj _ _ _ _).1 (Wj _ _ _ _).2,i',⟨rfl,Vw,XI,⟨?_,QY⟩,⟨0,rfl⟩,trivial,iE,iH,iV⟩,sm,o',⟨_,rfl⟩,(fun h=>by cases h),by first | exact trivial | rfl⟩
      show a.ch=_
      rw[wz,O.c1];simp
  . have hw':s.wd (6+t+x * 2)≠a.se:=by rw[hT.Qc x hx];exact hw
    simp only[ZJ,hw,if_false] at hq
    obtain⟨rfl,rfl⟩:=Prod.mk.inj hq
    refine(QN h hi who hG hlen hh hx Yd _ d ?_ (fun w1 m1 i1=>Ey m1 hb i1 who hG hx hxs sl (decide_eq_false hw'))).mono ?_
    . rintro s' a' ⟨_,rfl⟩
      rw[<- hdn];rfl
    . rintro e w' ⟨rfl,s',cs',a',m',o',i',sm,rfl,rfl⟩
      rw[Vo hw'] at m'
      exact⟨rfl,_,cs',_,m',hT.same hσ who _,i',⟨rfl,Vw,XI,trivial,trivial,trivial,iE,iH,iV⟩,sm,o',⟨_,rfl⟩,(fun h=>by cases h),by first | exact trivial | rfl⟩
 | Vu η =>
  obtain⟨gη,oη⟩:=hg
  obtain⟨q1,η1,ht⟩:∃ q1 η1,Zd g x q η=(q1,η1):=⟨_,_,rfl⟩
  simp only[ZJ,ht] at hq
  cases hf:η1.ZO with
  | false =>
   rw[GY hf] at hq
   obtain⟨rfl,rfl⟩:=Prod.mk.inj hq
   obtain rfl:false=d:=hd
   refine(Qa h hi who hG hlen hh hx Yd _ (fun s' l' P=>Hp.Zm P.2.1) (fun w1 m1 i1=>UQ m1 hb hT hG hσ hdw hx η i1 ihl gη oη who _ _ ht false hf)).mono ?_
   rintro e w' ⟨rfl,s',cs',a',m',o',i',sm,l',⟨t',c',st'⟩,rfl⟩
   exact⟨rfl,_,cs',_,m',t',i',⟨Yd,Vw,XI,trivial,c',trivial,iE,iH,iV⟩,sm,o',st',(fun h=>by cases h),by first | exact trivial | rfl⟩
  | true =>
   obtain⟨wn,rfl⟩:=Hp.TQ hf
   have hq':(q1,Dp.see)=(q',α'):=hq
   obtain⟨rfl,rfl⟩:=Prod.mk.inj hq'
   obtain rfl:false=d:=hd
   refine(Ry h hi who hG hlen hh hb hx Yd _ (fun s' l' P=>Hp.Zm P.2.1) (fun w1 m1 i1=>UQ m1 hb hT hG hσ hdw hx η i1 ihl gη oη who _ _ ht true hf)).mono ?_
   rintro e w' ⟨rfl,s',cs',a',m',o',i',sm,l',⟨t',c',st'⟩,rfl⟩
   exact⟨rfl,_,cs',_,m',t',i',⟨rfl,Vw,XI,trivial,trivial,trivial,iE,iH,iV⟩,sm,o',st',(fun h=>by cases h),by first | exact trivial | rfl⟩
 | fin Z i η =>
  obtain⟨gη,oη⟩:=hg
  obtain⟨q1,η1,ht⟩:∃ q1 η1,Zd g x q η=(q1,η1):=⟨_,_,rfl⟩
  simp only[ZJ,ht] at hq
  cases hf:η1.ZO with
  | false =>
   rw[En hf] at hq
   obtain⟨rfl,rfl⟩:=Prod.mk.inj hq
   refine(PL h hi who hG hlen hh hx Yd _ d ?_ (fun w1 m1 i1=>AA m1 i1 who _ (fun s' l' P=>Hp.Zm P.2.1) (fun w2 m2 i2=>UQ m2 hb hT hG hσ hdw hx η i2 ihl gη oη who _ _ ht false hf))).mono ?_
   . rintro s' a' ⟨l',_,rfl⟩
     rw[<- hdn]
     show (a.nx == 7)=_
     rw[Yd];rfl
   . rintro e w' ⟨rfl,s',cs',a',m',o',i',sm,l',⟨t',c',st'⟩,rfl⟩
     exact⟨rfl,_,cs',_,m',t',i',⟨Yd,Vw,XI,Q3,c',trivial,iE,iH,iV⟩,sm,o',st',(fun h=>by cases h),by first | exact trivial | rfl⟩
  | true =>
   obtain⟨wn,rfl⟩:=Hp.TQ hf
   have hq':(q1,Dp.count Z i)=(q',α'):=hq
   obtain⟨rfl,rfl⟩:=Prod.mk.inj hq'
   refine(PL h hi who hG hlen hh hx Yd _ d ?_ (fun w1 m1 i1=>GZ m1 hb i1 who hG hx _ (fun s' l' P=>Hp.Zm P.2.1) (fun s' l' P=>by have:=P.1.len;omega) (fun w2 m2 i2=>UQ m2 hb hT hG hσ hdw hx η i2 ihl gη oη who _ _ ht true hf))).mono ?_
   . rintro s' a' ⟨l',_,rfl⟩
     rw[<- hdn];rfl
   . rintro e w' ⟨rfl,s',cs',a',m',o',i',sm,l',⟨t',c',st'⟩,rfl⟩
     exact⟨rfl,_,cs',_,m',t',i',⟨rfl,Vw,XI,Q3,trivial,trivial,iE,iH,iV⟩,sm,o',st',(fun h=>by cases h),by first | exact trivial | rfl⟩
 | count Z i =>
  obtain⟨z1,z2,hik,hlv⟩:=hg
  obtain⟨wz,QY⟩:=Q3
  obtain⟨kz,hκ⟩:=KF z1 z2
  have hr:=YV (ZE Z).toNat
  have hnc:6+t+n * 2+i * 3+1<s.n:=by omega
  have tw:=hT.Eo hσ who hik hr.2 hlv
  by_cases hl:g<=(G:Int)
  . have hq':({ q with lv:=upd q.lv i (q.lv i - room (ZE Z).toNat) },Dp.over 0)=(q',α'):=by rw[<- hq];simp[ZJ,hl]
    obtain⟨rfl,rfl⟩:=Prod.mk.inj hq'
    refine(RJ h hi who hG hlen hh hx Yd _ d ?_ (fun w1 m1 i1=>Ns m1 hb i1 who hG wz hik QY kz hκ hnc hl)).mono ?_
    . rintro s' a' ⟨_,rfl⟩
      rw[<- hdn];rfl
    . rintro e w' ⟨rfl,s',cs',a',m',o',i',sm,rfl,rfl⟩
      exact⟨rfl,_,cs',_,m',tw,i',⟨rfl,Vw,XI,trivial,trivial,trivial,iE,iH,iV⟩,sm,o',⟨_,rfl⟩,(fun h=>by cases h),by first | exact trivial | rfl⟩
  . have hq':({ q with lv:=upd q.lv i (q.lv i - room (ZE Z).toNat) },Dp.give .idle)=(q',α'):=by rw[<- hq];simp[ZJ,hl]
    obtain⟨rfl,rfl⟩:=Prod.mk.inj hq'
    refine(RJ h hi who hG hlen hh hx Yd _ d ?_ (fun w1 m1 i1=>Nu m1 hb i1 who hG wz hik QY kz hκ hnc (by omega))).mono ?_
    . rintro s' a' ⟨_,rfl⟩
      rw[<- hdn];rfl
    . rintro e w' ⟨rfl,s',cs',a',m',o',i',sm,rfl,rfl⟩
      exact⟨rfl,_,cs',_,m',tw,i',⟨rfl,Vw,XI,trivial,trivial,⟨0,rfl⟩,iE,iH,iV⟩,sm,o',⟨_,rfl⟩,(fun h=>by cases h),by first | exact trivial | rfl⟩
 | give γ =>
  obtain⟨TP,gγ,oγ⟩:=hg
  obtain⟨c',lk',F',γ',ht⟩:∃ c' lk' F' γ',Y4 q.c q.lk q.F x γ=(c',lk',F',γ'):=⟨_,_,_,_,rfl⟩
  have hat:=Gv.at_in (t:=t) hx γ
  simp only[ZJ,ht] at hq
  cases hf:γ'.done with
  | false =>
   rw[GX hf] at hq
   obtain⟨rfl,rfl⟩:=Prod.mk.inj hq
   obtain rfl:false=d:=hd
   refine(P9 h hi who hG hlen hh hx Yd (fun w1 m1 i1=>UT m1 hb hT.pile hσ hG.t1 hx TP γ ⟨_,i1,oq⟩ gγ oγ _ _ _ _ _ who c' lk' F' γ' ht false hf)).mono ?_
   rintro e w' ⟨rfl,s',cs',a',m',o',i',sm,p',⟨v,rfl⟩,g',l,hl,rfl⟩
   exact⟨rfl,_,cs',_,m',hT.slots hσ who _ v hat p',i',⟨Yd,Vw,XI,trivial,trivial,hl,iE,iH,iV⟩,sm,o',⟨v,rfl⟩,(fun h=>by cases h),by first | exact trivial | rfl⟩
  | true =>
   have:=Gv.TQ hf
   subst this
   have hq':({ q with c:=c',lk:=lk',F:=F' },Dp.over 0)=(q',α'):=hq
   obtain⟨rfl,rfl⟩:=Prod.mk.inj hq'
   obtain rfl:true=d:=hd
   refine(Rx h hi who hG hlen hh hb hx Yd (fun w1 m1 i1=>UT m1 hb hT.pile hσ hG.t1 hx TP γ ⟨_,i1,oq⟩ gγ oγ _ _ _ _ _ who c' lk' F' _ ht true hf)).mono ?_
   rintro e w' ⟨rfl,s',cs',a',m',o',i',sm,p',⟨v,rfl⟩,g',l,hl,rfl⟩
   exact⟨rfl,_,cs',_,m',hT.slots hσ who _ v hat p',i',⟨rfl,Vw,XI,trivial,trivial,trivial,iE,iH,iV⟩,sm,o',⟨v,rfl⟩,(fun h=>by cases h),by first | exact trivial | rfl⟩
end
end
section
theorem PK {cg:Int} {x:Nat} {q:Q} {η:Hp} {q':Q} {η':Hp} (h:∀ a,Wd (q.dw a)) (ht:Zd cg x q η=(q',η')):∀ a,Wd (q'.dw a):=by
 have e:∀ v,Vh cg x q v=(q',η')->∀ a,Wd (q'.dw a):=by
  intro v hv
  unfold Vh at hv
  split at hv <;> (obtain⟨rfl,-⟩:=Prod.mk.inj hv;exact h)
 cases η with
 | over=>obtain⟨rfl,-⟩:=Prod.mk.inj ht;exact h
 | go v Z j u =>
  cases u with
  | none =>
   simp only[Zd] at ht
   split at ht
   . exact e v ht
   . split at ht <;> (obtain⟨rfl,-⟩:=Prod.mk.inj ht;exact h)
  | some u =>
   simp only[Zd] at ht
   split at ht
   . exact e v ht
   . split at ht
     . obtain⟨rfl,-⟩:=Prod.mk.inj ht
       intro a
       show Wd (upd q.dw _ _ a)
       unfold upd
       split
       . exact Nr _ _
       . exact h a
     . obtain⟨rfl,-⟩:=Prod.mk.inj ht;exact h
theorem Ig {t n k m:Nat} {cg:Int} {own:Bool} {x G:Nat} {q:Q} {α:Dp} {q':Q} {α':Dp} (h:∀ a,Wd (q.dw a)) (ht:ZJ t n k m cg own x G q α=(q',α')):∀ a,Wd (q'.dw a):=by
 cases α with
 | see=>obtain⟨rfl,-⟩:=Prod.mk.inj ht;exact h
 | ask v=>obtain⟨rfl,-⟩:=Prod.mk.inj ht;exact h
 | mark v Z =>
  simp only[ZJ] at ht
  split at ht <;> (obtain⟨rfl,-⟩:=Prod.mk.inj ht;exact h)
 | Vu η =>
  obtain⟨q1,η1,h1⟩:∃ q1 η1,Zd cg x q η=(q1,η1):=⟨_,_,rfl⟩
  simp only[ZJ,h1] at ht
  have:=PK h h1
  cases η1 <;> (simp only[OV] at ht;obtain⟨rfl,-⟩:=Prod.mk.inj ht;exact this)
 | fin Z i η =>
  obtain⟨q1,η1,h1⟩:∃ q1 η1,Zd cg x q η=(q1,η1):=⟨_,_,rfl⟩
  simp only[ZJ,h1] at ht
  have:=PK h h1
  cases η1 <;> (simp only[Vl] at ht;obtain⟨rfl,-⟩:=Prod.mk.inj ht;exact this)
 | count Z i=>obtain⟨rfl,-⟩:=Prod.mk.inj ht;exact h
 | give γ =>
  obtain⟨c',lk',F',γ',h1⟩:∃ c' lk' F' γ',Y4 q.c q.lk q.F x γ=(c',lk',F',γ'):=⟨_,_,_,_,rfl⟩
  simp only[ZJ,h1] at ht
  cases γ' <;> (simp only[WY] at ht;obtain⟨rfl,-⟩:=Prod.mk.inj ht;exact h)
 | over=>obtain⟨rfl,-⟩:=Prod.mk.inj ht;exact h
section
variable {w:World} {L:Loc} {t n k m σ:Nat} {s:Mm} {q:Q} {nu:Int} {own:Bool}
end
end
section
theorem G9 (st A G V:Nat) (h1:st<=7) (h2:A<=1048575) (h3:G<=65535) (h4:V<=4194303):Zv st A G V=st+A * 8+G * 8388608+V * 549755813888:=by
 unfold Zv
 rw[YW st 3 (by omega) (by simp;omega),YW A 20 (by omega) (by simp;omega),YW G 16 (by omega) (by simp;omega),YW V 22 (by omega) (by simp;omega)]
theorem V9 {st A G V:Nat} (h1:st<=7) (h2:A<=1048575) (h3:G<=65535) (h4:V<=4194303):Zv st A G V % 8=st/\Zx (Zv st A G V)=A/\Zq (Zv st A G V)=G/\YR (Zv st A G V)=V:=by
 rw[G9 st A G V h1 h2 h3 h4]
 unfold Zx Zq YR
 refine⟨?_,?_,?_,?_⟩ <;> omega
theorem EC {v:Int} (hv:YR v<4194303):Xx v % 8=4/\Zx (Xx v)=Zx v/\Zq (Xx v)=Zq v/\YR (Xx v)=YR v+1:=by
 have e:Xx v=Zv ((4:Nat):Int) (Zx v) (Zq v) ((YR v+1:Nat):Int):=by unfold Xx;simp
 rw[e]
 exact V9 (by decide) (O5 v) (QR v) (by omega)
section
variable {t n k m:Nat} {cg:Int} {own:Bool} {x G:Nat}
end
end
section
theorem QO {x G:Nat} (hx:x<=65535) (g1:1<=G) (g2:G<=65535):Y1 (X8 x G) x G:=by
 rw[Wh x G hx g2]
 refine⟨?_,?_,?_,?_⟩ <;> omega
theorem Ul {Z x G:Nat} {own:Bool} (hZ:Z<=65535) (hx:x<=65535) (hG:G<=65535):Us (Y9 2 Z x G own)=Z/\Xe (Y9 2 Z x G own)=own:=by
 have e:=HY 2 Z x G own (by decide) hZ hx hG
 rw[show ((2:Nat):Int)=2 from rfl] at e
 rw[e]
 unfold Us Xe
 cases own
 . rw[if_neg (by decide)]
   exact⟨by omega,decide_eq_false (by omega)⟩
 . rw[if_pos rfl]
   exact⟨by omega,decide_eq_true (by omega)⟩
section
variable {t n k m nx:Nat} {q:Q} {gen:Nat->Nat} {ls:List Ox} {cg:Int}
theorem TN {z:Int} (h:z<=1099511627775) (V:Nat):frozenIn z V=false:=by
 unfold frozenIn
 rw[decide_eq_false (by omega),Bool.false_and]
end
section
variable {w0 w w':World} {L:Loc} {bE t n k m σ nx:Nat} {cg:Int} {s:Mm} {q:Q} {gen:Nat->Nat} {own:Bool}
variable {ls:List Ox}
end
end
section
section
variable {w0 w:World} {L:Loc} {bE σ:Nat} {s:Mm}
end
end
section
structure CV where
 nx:Int
 kd:Int
 nu:Int
 ix:Int
 vl:Int
 ol:Int
 own:Bool
 se:Int
 at_:Int
 sz:Int
 ce:Int
 ld:Int
 hl:List Value
 E:Int
 H:Int
 V:Int
 St:Int
structure ZM (w:World) (b o:Nat) (T:TypeId) (c:Array Value) (a:CV):Prop where
 obj:w.heap[b]?=some (.cells c T (0,0))
 X4:a.hl.length=8
 hl:∀ i v,a.hl[i]?=some v->c[o+12+i]?=some v
 nx:c[o]?=some (iV a.nx)
 kd:c[o+1]?=some (iV a.kd)
 nu:c[o+2]?=some (.int .u64 a.nu)
 ix:c[o+3]?=some (iV a.ix)
 vl:c[o+4]?=some (iV a.vl)
 ol:c[o+5]?=some (iV a.ol)
 own:c[o+6]?=some (.bool a.own)
 se:c[o+7]?=some (.int .u64 a.se)
 at_:c[o+8]?=some (iV a.at_)
 sz:c[o+9]?=some (iV a.sz)
 ce:c[o+10]?=some (.int .u64 a.ce)
 ld:c[o+11]?=some (iV a.ld)
 E:c[o+20]?=some (iV a.E)
 H:c[o+21]?=some (.int .u64 a.H)
 V:c[o+22]?=some (iV a.V)
 St:c[o+23]?=some (iV a.St)
namespace ZM
variable {w w':World} {b o:Nat} {T:TypeId} {c c':Array Value} {a:CV}
theorem lt (h:ZM w b o T c a):b<w.heap.size:=UA h.obj
theorem fz (h:ZM w b o T c a) (i:Nat):w.frozen? ⟨b,i,none⟩=false:=Ym h.obj i
theorem of_block (h:ZM w b o T c a) (e:w'.heap[b]?=w.heap[b]?):ZM w' b o T c a:={ h with obj:=e.trans h.obj }
theorem grown (h:ZM w b o T c a) (g:Below w.heap.size w w'):ZM w' b o T c a:=h.of_block (g.block _ h.lt)
theorem drew (h:ZM w b o T c a):ZM w.drew b o T c a:=h.of_block rfl
theorem only {S:Nat->Prop} (h:ZM w b o T c a) (g:Only S w w') (hs:¬ S b):ZM w' b o T c a:=h.of_block (g.block _ h.lt hs)
theorem other (h:ZM w b o T c a) {k:Nat} (hk:b≠k) (i:Nat) (v:Value):ZM (w.setCell ⟨k,i,none⟩ v) b o T c a:=h.of_block (Go.Deep.blk_setCell_other _ _ _ _ (by simpa using hk))
theorem Zz (h:ZM w b o T c a):w.cell? ⟨b,o,none⟩=some (iV a.nx):=ZR h.obj h.nx
theorem O9 (h:ZM w b o T c a):w.cell? ⟨b,o+1,none⟩=some (iV a.kd):=ZR h.obj h.kd
theorem Uz (h:ZM w b o T c a):w.cell? ⟨b,o+2,none⟩=some (.int .u64 a.nu):=ZR h.obj h.nu
theorem SV (h:ZM w b o T c a):w.cell? ⟨b,o+3,none⟩=some (iV a.ix):=ZR h.obj h.ix
theorem vK (h:ZM w b o T c a):w.cell? ⟨b,o+4,none⟩=some (iV a.vl):=ZR h.obj h.vl
theorem qY (h:ZM w b o T c a):w.cell? ⟨b,o+5,none⟩=some (iV a.ol):=ZR h.obj h.ol
theorem TZ (h:ZM w b o T c a):w.cell? ⟨b,o+6,none⟩=some (.bool a.own):=ZR h.obj h.own
theorem Yc (h:ZM w b o T c a):w.cell? ⟨b,o+7,none⟩=some (.int .u64 a.se):=ZR h.obj h.se
theorem PW (h:ZM w b o T c a):w.cell? ⟨b,o+8,none⟩=some (iV a.at_):=ZR h.obj h.at_
theorem Xh (h:ZM w b o T c a):w.cell? ⟨b,o+9,none⟩=some (iV a.sz):=ZR h.obj h.sz
theorem VQ (h:ZM w b o T c a):w.cell? ⟨b,o+10,none⟩=some (.int .u64 a.ce):=ZR h.obj h.ce
theorem N9 (h:ZM w b o T c a):w.cell? ⟨b,o+11,none⟩=some (iV a.ld):=ZR h.obj h.ld
theorem BR (h:ZM w b o T c a):w.cell? ⟨b,o+20,none⟩=some (iV a.E):=ZR h.obj h.E
theorem Cm (h:ZM w b o T c a):w.cell? ⟨b,o+21,none⟩=some (.int .u64 a.H):=ZR h.obj h.H
theorem BQ (h:ZM w b o T c a):w.cell? ⟨b,o+22,none⟩=some (iV a.V):=ZR h.obj h.V
theorem Q5 (h:ZM w b o T c a):w.cell? ⟨b,o+23,none⟩=some (iV a.St):=ZR h.obj h.St
theorem Zh (h:ZM w b o T c a) (x:Int):ZM (w.setCell ⟨b,o,none⟩ (iV x)) b o T (c.setIfInBounds (o) (iV x)) { a with nx:=x } :=
 ⟨ZT _ _ _ _ _ _ h.obj,h.X4,ZQ h.hl _ (by have:=h.X4;omega),XV _ h.nx,Z8 h.kd (by omega),Z8 h.nu (by omega),Z8 h.ix (by omega),Z8 h.vl (by omega),Z8 h.ol (by omega),Z8 h.own (by omega),Z8 h.se (by omega),Z8 h.at_ (by omega),Z8 h.sz (by omega),Z8 h.ce (by omega),Z8 h.ld (by omega),Z8 h.E (by omega),Z8 h.H (by omega),Z8 h.V (by omega),Z8 h.St (by omega)⟩
theorem Q4 (h:ZM w b o T c a) (x:Int):ZM (w.setCell ⟨b,o+7,none⟩ (.int .u64 x)) b o T (c.setIfInBounds (o+7) (.int .u64 x)) { a with se:=x } :=
 ⟨ZT _ _ _ _ _ _ h.obj,h.X4,ZQ h.hl _ (by have:=h.X4;omega),Z8 h.nx (by omega),Z8 h.kd (by omega),Z8 h.nu (by omega),Z8 h.ix (by omega),Z8 h.vl (by omega),Z8 h.ol (by omega),Z8 h.own (by omega),XV _ h.se,Z8 h.at_ (by omega),Z8 h.sz (by omega),Z8 h.ce (by omega),Z8 h.ld (by omega),Z8 h.E (by omega),Z8 h.H (by omega),Z8 h.V (by omega),Z8 h.St (by omega)⟩
theorem Jj (h:ZM w b o T c a) (x:Int):ZM (w.setCell ⟨b,o+8,none⟩ (iV x)) b o T (c.setIfInBounds (o+8) (iV x)) { a with at_:=x } :=
 ⟨ZT _ _ _ _ _ _ h.obj,h.X4,ZQ h.hl _ (by have:=h.X4;omega),Z8 h.nx (by omega),Z8 h.kd (by omega),Z8 h.nu (by omega),Z8 h.ix (by omega),Z8 h.vl (by omega),Z8 h.ol (by omega),Z8 h.own (by omega),Z8 h.se (by omega),XV _ h.at_,Z8 h.sz (by omega),Z8 h.ce (by omega),Z8 h.ld (by omega),Z8 h.E (by omega),Z8 h.H (by omega),Z8 h.V (by omega),Z8 h.St (by omega)⟩
theorem SS (h:ZM w b o T c a) (x:Int):ZM (w.setCell ⟨b,o+9,none⟩ (iV x)) b o T (c.setIfInBounds (o+9) (iV x)) { a with sz:=x } :=
 ⟨ZT _ _ _ _ _ _ h.obj,h.X4,ZQ h.hl _ (by have:=h.X4;omega),Z8 h.nx (by omega),Z8 h.kd (by omega),Z8 h.nu (by omega),Z8 h.ix (by omega),Z8 h.vl (by omega),Z8 h.ol (by omega),Z8 h.own (by omega),Z8 h.se (by omega),Z8 h.at_ (by omega),XV _ h.sz,Z8 h.ce (by omega),Z8 h.ld (by omega),Z8 h.E (by omega),Z8 h.H (by omega),Z8 h.V (by omega),Z8 h.St (by omega)⟩
theorem SQ (h:ZM w b o T c a) (x:Int):ZM (w.setCell ⟨b,o+10,none⟩ (.int .u64 x)) b o T (c.setIfInBounds (o+10) (.int .u64 x)) { a with ce:=x } :=
 ⟨ZT _ _ _ _ _ _ h.obj,h.X4,ZQ h.hl _ (by have:=h.X4;omega),Z8 h.nx (by omega),Z8 h.kd (by omega),Z8 h.nu (by omega),Z8 h.ix (by omega),Z8 h.vl (by omega),Z8 h.ol (by omega),Z8 h.own (by omega),Z8 h.se (by omega),Z8 h.at_ (by omega),Z8 h.sz (by omega),XV _ h.ce,Z8 h.ld (by omega),Z8 h.E (by omega),Z8 h.H (by omega),Z8 h.V (by omega),Z8 h.St (by omega)⟩
theorem SN (h:ZM w b o T c a) (x:Int):ZM (w.setCell ⟨b,o+11,none⟩ (iV x)) b o T (c.setIfInBounds (o+11) (iV x)) { a with ld:=x } :=
 ⟨ZT _ _ _ _ _ _ h.obj,h.X4,ZQ h.hl _ (by have:=h.X4;omega),Z8 h.nx (by omega),Z8 h.kd (by omega),Z8 h.nu (by omega),Z8 h.ix (by omega),Z8 h.vl (by omega),Z8 h.ol (by omega),Z8 h.own (by omega),Z8 h.se (by omega),Z8 h.at_ (by omega),Z8 h.sz (by omega),Z8 h.ce (by omega),XV _ h.ld,Z8 h.E (by omega),Z8 h.H (by omega),Z8 h.V (by omega),Z8 h.St (by omega)⟩
theorem N8 (h:ZM w b o T c a) (x:Int):ZM (w.setCell ⟨b,o+20,none⟩ (iV x)) b o T (c.setIfInBounds (o+20) (iV x)) { a with E:=x } :=
 ⟨ZT _ _ _ _ _ _ h.obj,h.X4,ZQ h.hl _ (by have:=h.X4;omega),Z8 h.nx (by omega),Z8 h.kd (by omega),Z8 h.nu (by omega),Z8 h.ix (by omega),Z8 h.vl (by omega),Z8 h.ol (by omega),Z8 h.own (by omega),Z8 h.se (by omega),Z8 h.at_ (by omega),Z8 h.sz (by omega),Z8 h.ce (by omega),Z8 h.ld (by omega),XV _ h.E,Z8 h.H (by omega),Z8 h.V (by omega),Z8 h.St (by omega)⟩
theorem PV (h:ZM w b o T c a) (x:Int):ZM (w.setCell ⟨b,o+21,none⟩ (.int .u64 x)) b o T (c.setIfInBounds (o+21) (.int .u64 x)) { a with H:=x } :=
 ⟨ZT _ _ _ _ _ _ h.obj,h.X4,ZQ h.hl _ (by have:=h.X4;omega),Z8 h.nx (by omega),Z8 h.kd (by omega),Z8 h.nu (by omega),Z8 h.ix (by omega),Z8 h.vl (by omega),Z8 h.ol (by omega),Z8 h.own (by omega),Z8 h.se (by omega),Z8 h.at_ (by omega),Z8 h.sz (by omega),Z8 h.ce (by omega),Z8 h.ld (by omega),Z8 h.E (by omega),XV _ h.H,Z8 h.V (by omega),Z8 h.St (by omega)⟩
theorem N7 (h:ZM w b o T c a) (x:Int):ZM (w.setCell ⟨b,o+22,none⟩ (iV x)) b o T (c.setIfInBounds (o+22) (iV x)) { a with V:=x } :=
 ⟨ZT _ _ _ _ _ _ h.obj,h.X4,ZQ h.hl _ (by have:=h.X4;omega),Z8 h.nx (by omega),Z8 h.kd (by omega),Z8 h.nu (by omega),Z8 h.ix (by omega),Z8 h.vl (by omega),Z8 h.ol (by omega),Z8 h.own (by omega),Z8 h.se (by omega),Z8 h.at_ (by omega),Z8 h.sz (by omega),Z8 h.ce (by omega),Z8 h.ld (by omega),Z8 h.E (by omega),Z8 h.H (by omega),XV _ h.V,Z8 h.St (by omega)⟩
theorem Uy (h:ZM w b o T c a) (x:Int):ZM (w.setCell ⟨b,o+23,none⟩ (iV x)) b o T (c.setIfInBounds (o+23) (iV x)) { a with St:=x } :=
 ⟨ZT _ _ _ _ _ _ h.obj,h.X4,ZQ h.hl _ (by have:=h.X4;omega),Z8 h.nx (by omega),Z8 h.kd (by omega),Z8 h.nu (by omega),Z8 h.ix (by omega),Z8 h.vl (by omega),Z8 h.ol (by omega),Z8 h.own (by omega),Z8 h.se (by omega),Z8 h.at_ (by omega),Z8 h.sz (by omega),Z8 h.ce (by omega),Z8 h.ld (by omega),Z8 h.E (by omega),Z8 h.H (by omega),Z8 h.V (by omega),XV _ h.St⟩
end ZM
def Yq (L:Loc) (b o:Nat) (T:TypeId) (cs:Array Value) (w w':World) (X:Mm->CV->Prop):Prop :=
 ∃ s' cs' a',Z9 w' L s'/\Only (L.and b) w w'/\ZM w' b o T cs' a'/\Same o 24 cs cs'/\X s' a'
def Qg (L:Loc) (b o:Nat) (T:TypeId) (c c':Array Value) (s s':Mm) (a a':CV):Nat->World->Prop
 | 0,w=>Z9 w L s/\ZM w b o T c a
 | 1,w=>Z9 w L s'/\ZM w b o T c a
 | _,w=>Z9 w L s'/\ZM w b o T c' a'
theorem Yl {L:Loc} {b o:Nat} {T:TypeId} {c c':Array Value} {s s':Mm} {a a':CV} (x y:World) (p:Nat) (g:Grown x y) (k:Qg L b o T c c' s s' a a' p x):Qg L b o T c c' s s' a a' p y:=by
 match p,k with
 | 0,k=>exact⟨k.1.below g,k.2.grown g⟩
 | 1,k=>exact⟨k.1.below g,k.2.grown g⟩
 | p+2,k=>exact⟨k.1.below g,k.2.grown g⟩
def wG (kd nu ix vl ol:Int) (own:Bool):CV:=⟨0,kd,nu,ix,vl,ol,own,0,0,0,0,0,Yr 0 0 0 0 0 false false false,0,0,0,0⟩
def E5 (kd nu ix vl ol:Int) (own:Bool):Obj:=.cells #[iV 0,iV kd,.int .u64 nu,iV ix,iV vl,iV ol,.bool own,.int .u64 0,iV 0,iV 0,.int .u64 0,iV 0,iV 0,.int .u64 0,iV 0,iV 0,.int .u64 0,.bool false,.bool false,.bool false,iV 0,.int .u64 0,iV 0,iV 0] 164
theorem LK (kd nu ix vl ol:Int) (own:Bool) (w:World) :
 Calls Tryz.prog 85 #[.agg #[iV kd,.int .u64 nu,iV ix,iV vl,iV ol],.bool own] w fun e w'=>∃ W,e=.returned (pP W.heap.size 0)/\w'=W.alloc (E5 kd nu ix vl ol own)/\Below w.heap.size w W:=by
 unfold E5
 go_enter Tryz.func85,Tryz.ntmps85
 go_wp2
 go_ret
 exact⟨w.alloc _,by rw[Go.Deep.nblk_alloc];rfl,rfl,ZY _ _⟩
theorem Ji (kd nu ix vl ol:Int) (own:Bool) (w:World):∃ cs,ZM (w.alloc (E5 kd nu ix vl ol own)) w.heap.size 0 164 cs (wG kd nu ix vl ol own):=by
 refine⟨_,Go.Deep.blk_alloc_new _ _,rfl,fun i v hv=>?_,rfl,rfl,rfl,rfl,rfl,rfl,rfl,rfl,rfl,rfl,rfl,rfl,rfl,rfl,rfl,rfl⟩
 have hl:i<8:=lt_of_some hv
 match i,hl with
 | 0,_=>exact hv
 | 1,_=>exact hv
 | 2,_=>exact hv
 | 3,_=>exact hv
 | 4,_=>exact hv
 | 5,_=>exact hv
 | 6,_=>exact hv
 | 7,_=>exact hv
theorem PU {w:World} {b o:Nat} {T:TypeId} {cs:Array Value} {a:CV} (hi:ZM w b o T cs a) :
 Calls Tryz.prog 179 #[pP b o] w fun e w'=>e=.returned (.agg #[iV a.E,.int .u64 a.H,iV a.V,iV a.St])/\Below w.heap.size w w':=by
 have i1:=hi.grown (ZY _ (.cells #[iV 0,.int .u64 0,iV 0,iV 0] 37))
 have k1:=i1.BR
 have k2:=i1.Cm
 have k3:=i1.BQ
 have k4:=i1.Q5
 have j1:=hi.BR
 have j2:=hi.Cm
 have j3:=hi.BQ
 have j4:=hi.Q5
 go_enter Tryz.func179,Tryz.ntmps179
 go_wp2
 exact bodyPost_ret (v:=.agg #[iV a.E,.int .u64 a.H,iV a.V,iV a.St]) (by simp[results,Tryz.results179,go_sem]) rfl ⟨rfl,by first | exact Below.refl _ _ | exact ZY _ _⟩
end
section
set_option maxRecDepth 20000
theorem Uu {kd:Int} (h:kd=1\/kd=2\/kd=3) (w:World) :
 Calls Tryz.prog 181 #[.int .i64 kd] w fun e w'=>e=.returned (.bool true)/\w'=w:=by
 rcases h with rfl | rfl | rfl
 all_goals
  go_enter Tryz.func181,Tryz.ntmps181
  go_wp2
  go_ret
  exact⟨rfl,rfl⟩
theorem RS {w:World} {L:Loc} {s:Mm} {t n k m:Nat} {g p r:Int} (h:Z9 w L s) (hG:Good t n k m g p r) (hl:ZI t n k m<=s.n) (who:Int) (x:Nat) :
 Calls Tryz.prog 183 #[.agg #[.int .i64 t,.int .i64 n,.int .i64 k,.int .i64 m,.int .i64 g,.int .i64 p,.int .i64 r,.pointer (some ⟨L.p,0,none⟩),.int .i64 who],.int .i64 x] w fun e w'=>e=.returned (.bool (decide ((x:Int)<n)))/\Below w.heap.size w w':=by
 go_enter Tryz.func183,Tryz.ntmps183
 go_wp2
 refine ZW (fun W=>Z9 W L s/\ZU W w.heap.size t n k m g p r L.p who/\Below w.heap.size w W) ⟨h.alloc _,ZU.new,ZY _ _⟩ ?_
 rintro W ⟨m1,v1,o1⟩
 refine Zg Grown [.val (.pointer (some ⟨w.heap.size,0,none⟩)),.val (.agg #[.int .i64 t,.int .i64 n,.int .i64 k,.int .i64 m,.int .i64 g,.int .i64 p,.int .i64 r]),.val (.bool true),.val (.bool true),.val (.pointer (some ⟨w.heap.size,7,none⟩)),.val (.pointer (some ⟨L.p,0,none⟩)),.val (.int .i64 s.n),.val (.pointer (some ⟨w.heap.size,0,none⟩)),.val (.agg #[.int .i64 t,.int .i64 n,.int .i64 k,.int .i64 m,.int .i64 g,.int .i64 p,.int .i64 r]),.val (.int .i64 (ZI t n k m:Nat)),.val (.bool true),.val (.bool true),.val (.bool true),.val (.int .i64 x),.val (.pointer (some ⟨w.heap.size,0,none⟩)),.val (.pointer (some ⟨w.heap.size,1,none⟩)),.val (.int .i64 n),.val (.bool (decide ((x:Int)<n))),.val (.bool (decide ((x:Int)<n))),.val (.bool (decide ((x:Int)<n)))] (by kernel_rfl) Grown.refl Grown.trans (by kernel_rfl) (by kernel_rfl) (by kernel_rfl) ?_
 simp only[Zw,Act.put,List.setIfInBounds_toArray,List.set_cons_zero,List.set_cons_succ]
 refine⟨?_,?_,?_,?_,?_,?_,?_,?_,?_,?_,?_,?_,?_,?_,?_,?_,?_,?_,?_,?_,?_⟩
 . intros;apply ol;go_simp;exact gl
 . intro w' hg _
   apply ol
   obtain⟨y0,y1,y2,y3,y4,y5,y6,y7,y8⟩:=(v1.grown ((Below.refl _ _).drew)).grown hg
   go_simp
   exact gl
 . intro w' hg _
   apply ol
   go_simp
   refine(Ut hG _).mono ?_
   rintro e w'' ⟨rfl,b9⟩
   exact⟨_,rfl,b9,rfl⟩
 . intros;apply ol;go_simp;exact gl
 . intros;apply ol;go_simp;exact gl
 . intro w' hg _
   apply ol
   obtain⟨y0,y1,y2,y3,y4,y5,y6,y7,y8⟩:=(v1.grown ((Below.refl _ _).drew)).grown hg
   go_simp
   exact gl
 . intro w' hg _
   apply ol
   go_simp
   refine(len_any (m1.drew.below hg)).mono ?_
   rintro e w'' ⟨rfl,rfl⟩
   exact⟨_,rfl,Grown.refl _,rfl⟩
 . intros;apply ol;go_simp;exact gl
 . intro w' hg _
   apply ol
   obtain⟨y0,y1,y2,y3,y4,y5,y6,y7,y8⟩:=(v1.grown ((Below.refl _ _).drew)).grown hg
   go_simp
   exact gl
 . intro w' hg _
   apply ol
   go_simp
   refine(SK hG _).mono ?_
   rintro e w'' ⟨rfl,b9⟩
   exact⟨_,rfl,b9,rfl⟩
 . intro w' hg _
   apply ol
   have z:decide ((s.n:Int)≥((ZI t n k m:Nat):Int))=true:=decide_eq_true (by omega)
   go_simp
   exact gl
 . intros;apply ol;go_simp;exact gl
 . intros;apply ol;go_simp;exact gl
 . intros;apply ol;go_simp;exact gl
 . intros;apply ol;go_simp;exact gl
 . intros;apply ol;go_simp;exact gl
 . intro w' hg _
   apply ol
   obtain⟨y0,y1,y2,y3,y4,y5,y6,y7,y8⟩:=(v1.grown ((Below.refl _ _).drew)).grown hg
   go_simp
   exact gl
 . intros;apply ol;go_simp;exact gl
 . intros;apply ol;go_simp;exact gl
 . intros;apply ol;go_simp;exact gl
 intro w5 hg _
 go_wp2
 go_ret
 exact⟨rfl,grow (o1.trans ((Below.refl _ _).drew)) hg⟩
theorem Yi {w:World} {b o:Nat} (st A G V j:Int) (hz:w.cell? ⟨b,o+3,none⟩=some (.int .i64 j)) (a0:0<=A) (a1:A<=1048575) (j0:0<=j) (j1:j<=65536) :
 Calls Tryz.prog 192 #[.pointer (some ⟨b,o,none⟩),.agg #[.int .i64 st,.int .i64 A,.int .i64 G,.int .i64 V]] w fun e w'=>e=.returned (.int .i64 (A+1+j))/\Below w.heap.size w w':=by
 go_enter Tryz.func192,Tryz.ntmps192
 go_wp2
 refine ZW (fun W=>W.cell? ⟨b,o+3,none⟩=some (.int .i64 j)/\At W w.heap.size 0 83 #[.int .i64 st,.int .i64 A,.int .i64 G,.int .i64 V] [.int .i64 st,.int .i64 A,.int .i64 G,.int .i64 V]/\Below w.heap.size w W) ⟨keep' (ZY _ _) hz,At.new _ _ _,ZY _ _⟩ ?_
 rintro W ⟨i1,x1,o1⟩
 refine Zg Grown [.val (.pointer (some ⟨w.heap.size,1,none⟩)),.val (.int .i64 A),.val (.int .i64 (A+1)),.val (.pointer (some ⟨b,o,none⟩)),.val (.pointer (some ⟨b,o,none⟩)),.val (.pointer (some ⟨b,o+1,none⟩)),.val (.pointer (some ⟨b,o+3,none⟩)),.val (.int .i64 j),.val (.int .i64 (A+1+j)),.val (.int .i64 (A+1+j))] (by kernel_rfl) Grown.refl Grown.trans (by kernel_rfl) (by kernel_rfl) (by kernel_rfl) ?_
 simp only[Zw,Act.put,List.setIfInBounds_toArray,List.set_cons_zero,List.set_cons_succ]
 refine⟨?_,?_,?_,?_,?_,?_,?_,?_,?_,?_,?_⟩
 . intros;apply ol;go_simp;exact gl
 . intro w' hg _
   apply ol
   have z:=(x1.drew.grown hg).at0 1 rfl
   go_simp
   exact gl
 . intro w' hg _
   apply ol
   go_simp
   exact⟨Grown.refl _,congrArg (Value.int .i64) (by rw[IntKind.wrap_i64];omega)⟩
 . intros;apply ol;go_simp;exact gl
 . intros;apply ol;go_simp;exact gl
 . intros;apply ol;go_simp;exact gl
 . intros;apply ol;go_simp;exact gl
 . intro w' hg _
   apply ol
   have z:=keep' hg (keep' ((Below.refl _ _).drew) i1)
   go_simp
   exact gl
 . intro w' hg _
   apply ol
   go_simp
   exact⟨Grown.refl _,congrArg (Value.int .i64) (by rw[IntKind.wrap_i64];omega)⟩
 . intros;apply ol;go_simp;exact gl
 intro w5 hg _
 go_wp2
 go_ret
 exact⟨rfl,grow (o1.trans ((Below.refl _ _).drew)) hg⟩
theorem Iq {w:World} {b o:Nat} {T:TypeId} {cs:Array Value} {a:CV} (hi:ZM w b o T cs a) (z:Int) (fz:Bool) (vr:Int) (hk:a.kd≠3) :
 Calls Tryz.prog 194 #[.pointer (some ⟨b,o,none⟩),.agg #[.int .i64 z,.bool fz,.int .i64 vr]] w fun e w'=>e=.returned (.bool false)/\Below w.heap.size w w':=by
 go_enter Tryz.func194,Tryz.ntmps194
 go_wp2
 refine ZW (fun W=>ZM W b o T cs a/\At W w.heap.size 0 79 #[.int .i64 z,.bool fz,.int .i64 vr] [.int .i64 z,.bool fz,.int .i64 vr]/\Below w.heap.size w W) ⟨hi.grown (ZY _ _),At.new _ _ _,ZY _ _⟩ ?_
 rintro W ⟨i1,x1,o1⟩
 refine Zg Grown [.val (.pointer (some ⟨b,o,none⟩)),.val (.pointer (some ⟨b,o,none⟩)),.val (.pointer (some ⟨b,o+1,none⟩)),.val (.pointer (some ⟨b,o+1,none⟩)),.val (.int .i64 a.kd),.val (.bool false),.val (.bool false),.val undef,.val undef,.val undef,.val undef,.val undef,.val undef,.val undef,.val undef,.val (.bool false),.val (.bool false)] (by kernel_rfl) Grown.refl Grown.trans (by kernel_rfl) (by kernel_rfl) (by kernel_rfl) ?_
 simp only[Zw,Act.put,List.setIfInBounds_toArray,List.set_cons_zero,List.set_cons_succ]
 refine⟨?_,?_,?_,?_,?_,?_,?_,?_,?_,?_,?_,?_,?_,?_,?_,?_,?_,?_⟩
 . intros;apply ol;go_simp;exact gl
 . intros;apply ol;go_simp;exact gl
 . intros;apply ol;go_simp;exact gl
 . intros;apply ol;go_simp;exact gl
 . intro w' hg _
   apply ol
   have z:=(i1.drew.grown hg).O9
   go_simp
   exact gl
 . intro w' hg _
   apply ol
   go_simp
   refine⟨Grown.refl _,?_⟩
   first
    | rfl
    | (simp[Want.pred];done)
    | (simp[Want.pred];omega)
    | exact congrArg Value.bool (decide_eq_false hk)
 . intros;apply ol;go_simp;exact gl
 . intros;exact ur
 . intros;exact ur
 . intros;exact ur
 . intros;exact ur
 . intros;exact ur
 . intros;exact ur
 . intros;exact ur
 . intros;exact ur
 . intros;apply ol;go_simp;exact gl
 . intros;apply ol;go_simp;exact gl
 intro w5 hg _
 go_wp2
 go_ret
 exact⟨rfl,grow (o1.trans ((Below.refl _ _).drew)) hg⟩
theorem O6 {w:World} {b o:Nat} {T:TypeId} {cs:Array Value} {a:CV} (hi:ZM w b o T cs a) (z:Int) (fz:Bool) (vr:Int) (hk:a.kd=3) :
 Calls Tryz.prog 194 #[.pointer (some ⟨b,o,none⟩),.agg #[.int .i64 z,.bool fz,.int .i64 vr]] w fun e w'=>e=.returned (.bool (decide (z≠a.ol)))/\Below w.heap.size w w':=by
 go_enter Tryz.func194,Tryz.ntmps194
 go_wp2
 refine ZW (fun W=>ZM W b o T cs a/\At W w.heap.size 0 79 #[.int .i64 z,.bool fz,.int .i64 vr] [.int .i64 z,.bool fz,.int .i64 vr]/\Below w.heap.size w W) ⟨hi.grown (ZY _ _),At.new _ _ _,ZY _ _⟩ ?_
 rintro W ⟨i1,x1,o1⟩
 refine Zg Grown [.val (.pointer (some ⟨b,o,none⟩)),.val (.pointer (some ⟨b,o,none⟩)),.val (.pointer (some ⟨b,o+1,none⟩)),.val (.pointer (some ⟨b,o+1,none⟩)),.val (.int .i64 3),.val (.bool true),.val (.bool true),.val (.pointer (some ⟨w.heap.size,0,none⟩)),.val (.int .i64 z),.val (.pointer (some ⟨b,o,none⟩)),.val (.pointer (some ⟨b,o,none⟩)),.val (.pointer (some ⟨b,o+1,none⟩)),.val (.pointer (some ⟨b,o+5,none⟩)),.val (.int .i64 a.ol),.val (.bool (decide (z≠a.ol))),.val (.bool (decide (z≠a.ol))),.val (.bool (decide (z≠a.ol)))] (by kernel_rfl) Grown.refl Grown.trans (by kernel_rfl) (by kernel_rfl) (by kernel_rfl) ?_
 simp only[Zw,Act.put,List.setIfInBounds_toArray,List.set_cons_zero,List.set_cons_succ]
 refine⟨?_,?_,?_,?_,?_,?_,?_,?_,?_,?_,?_,?_,?_,?_,?_,?_,?_,?_⟩
 . intros;apply ol;go_simp;exact gl
 . intros;apply ol;go_simp;exact gl
 . intros;apply ol;go_simp;exact gl
 . intros;apply ol;go_simp;exact gl
 . intro w' hg _
   apply ol
   have z:=(i1.drew.grown hg).O9
   rw[hk] at z
   go_simp
   exact gl
 . intros;apply ol;go_simp;exact gl
 . intros;apply ol;go_simp;exact gl
 . intros;apply ol;go_simp;exact gl
 . intro w' hg _
   apply ol
   have z:=(x1.drew.grown hg).at0 0 rfl
   go_simp
   exact gl
 . intros;apply ol;go_simp;exact gl
 . intros;apply ol;go_simp;exact gl
 . intros;apply ol;go_simp;exact gl
 . intros;apply ol;go_simp;exact gl
 . intro w' hg _
   apply ol
   have z:=(i1.drew.grown hg).qY
   go_simp
   exact gl
 . intro w' hg _
   apply ol
   go_simp
   refine⟨Grown.refl _,?_⟩
   first
    | rfl
    | (simp[Want.pred];done)
    | (simp[Want.pred];omega)
    | exact congrArg Value.bool (by simp)
 . intros;apply ol;go_simp;exact gl
 . intros;apply ol;go_simp;exact gl
 intro w5 hg _
 go_wp2
 go_ret
 exact⟨rfl,grow (o1.trans ((Below.refl _ _).drew)) hg⟩
def CV.S9 (a:CV) (z:Int):Bool:=decide (a.kd=3) && decide (z≠a.ol)
theorem Ux {w:World} {b o:Nat} {T:TypeId} {cs:Array Value} {a:CV} (hi:ZM w b o T cs a) (z:Int) (fz:Bool) (vr:Int) :
 Calls Tryz.prog 194 #[.pointer (some ⟨b,o,none⟩),.agg #[.int .i64 z,.bool fz,.int .i64 vr]] w fun e w'=>e=.returned (.bool (a.S9 z))/\Below w.heap.size w w':=by
 unfold CV.S9
 by_cases hk:a.kd=3
 . rw[decide_eq_true hk,Bool.true_and];exact O6 hi z fz vr hk
 . rw[decide_eq_false hk,Bool.false_and];exact Iq hi z fz vr hk
theorem XJ {w:World} {b o:Nat} {T:TypeId} {cs:Array Value} {a:CV} (hi:ZM w b o T cs a) (z:Int) (fz:Bool) (vr:Int) :
 Calls Tryz.prog 193 #[.pointer (some ⟨b,o,none⟩),.agg #[.int .i64 z,.bool fz,.int .i64 vr]] w fun e w'=>e=.returned (.bool (decide (a.kd=1) || a.S9 z))/\Below w.heap.size w w':=by
 have i1:=hi.grown (ZY _ (.cells #[.int .i64 z,.bool fz,.int .i64 vr] 79))
 have x1:=At.new w 79 [.int .i64 z,.bool fz,.int .i64 vr]
 have k0:=i1.O9
 have z0:=x1.at0 0 rfl
 have z1:=x1.at0 1 rfl
 have z2:=x1.at0 2 rfl
 by_cases hk:a.kd=1
 . rw[decide_eq_true hk,Bool.true_or]
   rw[hk] at k0
   go_enter Tryz.func193,Tryz.ntmps193
   go_wp2
   go_ret
   exact⟨rfl,ZY _ _⟩
 . rw[decide_eq_false hk,Bool.false_or]
   have hk':(a.kd == 1)=false:=by simpa using hk
   go_enter Tryz.func193,Tryz.ntmps193
   go_wp2_with (go_at_call 194;refine(Ux i1 z fz vr).mono ?_;rintro e w2 ⟨rfl,b2⟩)
   go_ret
   exact⟨rfl,grow (ZY _ _) b2⟩
theorem EW {w:World} {b o:Nat} {T:TypeId} {cs:Array Value} {a:CV} {t n k m:Nat} {g p r:Int} (hi:ZM w b o T cs a) (A:Int) (h:a.ix<0) :
 Calls Tryz.prog 191 #[.pointer (some ⟨b,o,none⟩),.agg #[.int .i64 t,.int .i64 n,.int .i64 k,.int .i64 m,.int .i64 g,.int .i64 p,.int .i64 r],.int .i64 A] w fun e w'=>e=.returned (.bool false)/\Below w.heap.size w w':=by
 go_enter Tryz.func191,Tryz.ntmps191
 go_wp2
 refine ZW (fun W=>ZM W b o T cs a/\At W w.heap.size 0 24 #[.int .i64 t,.int .i64 n,.int .i64 k,.int .i64 m,.int .i64 g,.int .i64 p,.int .i64 r] [.int .i64 t,.int .i64 n,.int .i64 k,.int .i64 m,.int .i64 g,.int .i64 p,.int .i64 r]/\Below w.heap.size w W) ⟨hi.grown (ZY _ _),At.new _ _ _,ZY _ _⟩ ?_
 rintro W ⟨i1,c1,o1⟩
 refine Zg Grown [.val (.pointer (some ⟨b,o,none⟩)),.val (.pointer (some ⟨b,o,none⟩)),.val (.pointer (some ⟨b,o+1,none⟩)),.val (.pointer (some ⟨b,o+3,none⟩)),.val (.int .i64 a.ix),.val (.bool false),.val (.bool false),.val undef,.val undef,.val undef,.val undef,.val undef,.val undef,.val undef,.val undef,.val undef,.val undef,.val (.bool false),.val (.bool false),.val undef,.val undef,.val undef,.val undef,.val undef,.val undef,.val (.bool false),.val (.bool false),.val undef,.val undef,.val undef,.val undef,.val undef,.val undef,.val undef,.val undef,.val undef,.val undef,.val undef,.val undef,.val (.bool false),.val (.bool false)] (by kernel_rfl) Grown.refl Grown.trans (by kernel_rfl) (by kernel_rfl) (by kernel_rfl) ?_
 simp only[Zw,Act.put,List.setIfInBounds_toArray,List.set_cons_zero,List.set_cons_succ]
 refine⟨?_,?_,?_,?_,?_,?_,?_,?_,?_,?_,?_,?_,?_,?_,?_,?_,?_,?_,?_,?_,?_,?_,?_,?_,?_,?_,?_,?_,?_,?_,?_,?_,?_,?_,?_,?_,?_,?_,?_,?_,?_,?_⟩
 . intros;apply ol;go_simp;exact gl
 . intros;apply ol;go_simp;exact gl
 . intros;apply ol;go_simp;exact gl
 . intros;apply ol;go_simp;exact gl
 . intro w' hg _
   apply ol
   have z:=(i1.drew.grown hg).SV
   go_simp
   exact gl
 . intro w' hg _
   apply ol
   go_simp
   refine⟨Grown.refl _,?_⟩
   first
    | rfl
    | (simp[Want.pred];done)
    | (simp[Want.pred];omega)
    | exact congrArg Value.bool (decide_eq_false (by omega))
 . intros;apply ol;go_simp;exact gl
 . intros;exact ur
 . intros;exact ur
 . intros;exact ur
 . intros;exact ur
 . intros;exact ur
 . intros;exact ur
 . intros;exact ur
 . intros;exact ur
 . intros;exact ur
 . intros;exact ur
 . intros;apply ol;go_simp;exact gl
 . intros;apply ol;go_simp;exact gl
 . intros;exact ur
 . intros;exact ur
 . intros;exact ur
 . intros;exact ur
 . intros;exact ur
 . intros;exact ur
 . intros;apply ol;go_simp;exact gl
 . intros;apply ol;go_simp;exact gl
 . intros;exact ur
 . intros;exact ur
 . intros;exact ur
 . intros;exact ur
 . intros;exact ur
 . intros;exact ur
 . intros;exact ur
 . intros;exact ur
 . intros;exact ur
 . intros;exact ur
 . intros;exact ur
 . intros;exact ur
 . intros;apply ol;go_simp;exact gl
 . intros;apply ol;go_simp;exact gl
 intro w5 hg _
 go_wp2
 go_ret
 exact⟨rfl,grow (o1.trans ((Below.refl _ _).drew)) hg⟩
theorem Ip {w:World} {b o:Nat} {T:TypeId} {cs:Array Value} {a:CV} {t n k m:Nat} {g p r:Int} (hi:ZM w b o T cs a) (A:Int) {Z:Int} (hz:a.sz=Z) (h0:0<=a.ix) (h:Z<=a.ix) :
 Calls Tryz.prog 191 #[.pointer (some ⟨b,o,none⟩),.agg #[.int .i64 t,.int .i64 n,.int .i64 k,.int .i64 m,.int .i64 g,.int .i64 p,.int .i64 r],.int .i64 A] w fun e w'=>e=.returned (.bool false)/\Below w.heap.size w w':=by
 go_enter Tryz.func191,Tryz.ntmps191
 go_wp2
 refine ZW (fun W=>ZM W b o T cs a/\At W w.heap.size 0 24 #[.int .i64 t,.int .i64 n,.int .i64 k,.int .i64 m,.int .i64 g,.int .i64 p,.int .i64 r] [.int .i64 t,.int .i64 n,.int .i64 k,.int .i64 m,.int .i64 g,.int .i64 p,.int .i64 r]/\Below w.heap.size w W) ⟨hi.grown (ZY _ _),At.new _ _ _,ZY _ _⟩ ?_
 rintro W ⟨i1,c1,o1⟩
 refine Zg Grown [.val (.pointer (some ⟨b,o,none⟩)),.val (.pointer (some ⟨b,o,none⟩)),.val (.pointer (some ⟨b,o+1,none⟩)),.val (.pointer (some ⟨b,o+3,none⟩)),.val (.int .i64 a.ix),.val (.bool true),.val (.bool true),.val (.pointer (some ⟨b,o,none⟩)),.val (.pointer (some ⟨b,o,none⟩)),.val (.pointer (some ⟨b,o+1,none⟩)),.val (.pointer (some ⟨b,o+3,none⟩)),.val (.int .i64 a.ix),.val (.pointer (some ⟨b,o,none⟩)),.val (.pointer (some ⟨b,o,none⟩)),.val (.pointer (some ⟨b,o+9,none⟩)),.val (.int .i64 Z),.val (.bool false),.val (.bool false),.val (.bool false),.val undef,.val undef,.val undef,.val undef,.val undef,.val undef,.val (.bool false),.val (.bool false),.val undef,.val undef,.val undef,.val undef,.val undef,.val undef,.val undef,.val undef,.val undef,.val undef,.val undef,.val undef,.val (.bool false),.val (.bool false)] (by kernel_rfl) Grown.refl Grown.trans (by kernel_rfl) (by kernel_rfl) (by kernel_rfl) ?_
 simp only[Zw,Act.put,List.setIfInBounds_toArray,List.set_cons_zero,List.set_cons_succ]
 refine⟨?_,?_,?_,?_,?_,?_,?_,?_,?_,?_,?_,?_,?_,?_,?_,?_,?_,?_,?_,?_,?_,?_,?_,?_,?_,?_,?_,?_,?_,?_,?_,?_,?_,?_,?_,?_,?_,?_,?_,?_,?_,?_⟩
 . intros;apply ol;go_simp;exact gl
 . intros;apply ol;go_simp;exact gl
 . intros;apply ol;go_simp;exact gl
 . intros;apply ol;go_simp;exact gl
 . intro w' hg _
   apply ol
   have z:=(i1.drew.grown hg).SV
   go_simp
   exact gl
 . intro w' hg _
   apply ol
   go_simp
   refine⟨Grown.refl _,?_⟩
   first
    | rfl
    | (simp[Want.pred];done)
    | (simp[Want.pred];omega)
    | exact congrArg Value.bool (decide_eq_true (by omega))
 . intros;apply ol;go_simp;exact gl
 . intros;apply ol;go_simp;exact gl
 . intros;apply ol;go_simp;exact gl
 . intros;apply ol;go_simp;exact gl
 . intros;apply ol;go_simp;exact gl
 . intro w' hg _
   apply ol
   have z:=(i1.drew.grown hg).SV
   go_simp
   exact gl
 . intros;apply ol;go_simp;exact gl
 . intros;apply ol;go_simp;exact gl
 . intros;apply ol;go_simp;exact gl
 . intro w' hg _
   apply ol
   have z:=(i1.drew.grown hg).Xh
   rw[hz] at z
   go_simp
   exact gl
 . intro w' hg _
   apply ol
   go_simp
   refine⟨Grown.refl _,?_⟩
   first
    | rfl
    | (simp[Want.pred];done)
    | (simp[Want.pred];omega)
    | exact congrArg Value.bool (decide_eq_false (by omega))
 . intros;apply ol;go_simp;exact gl
 . intros;apply ol;go_simp;exact gl
 . intros;exact ur
 . intros;exact ur
 . intros;exact ur
 . intros;exact ur
 . intros;exact ur
 . intros;exact ur
 . intros;apply ol;go_simp;exact gl
 . intros;apply ol;go_simp;exact gl
 . intros;exact ur
 . intros;exact ur
 . intros;exact ur
 . intros;exact ur
 . intros;exact ur
 . intros;exact ur
 . intros;exact ur
 . intros;exact ur
 . intros;exact ur
 . intros;exact ur
 . intros;exact ur
 . intros;exact ur
 . intros;apply ol;go_simp;exact gl
 . intros;apply ol;go_simp;exact gl
 intro w5 hg _
 go_wp2
 go_ret
 exact⟨rfl,grow (o1.trans ((Below.refl _ _).drew)) hg⟩
theorem EU {w:World} {b o:Nat} {T:TypeId} {cs:Array Value} {a:CV} {t n k m:Nat} {g p r:Int} (hi:ZM w b o T cs a) (A:Int) {Z:Int} (hz:a.sz=Z) (hG:Good t n k m g p r) (h0:0<=a.ix) (h:a.ix<Z) (a0:0<=A) (a1:A<=1048575) (z2:Z<=16) {i:Int} (h1:Za t n k m A=i) (h2:Za t n k m (A+Z)=i) :
 Calls Tryz.prog 191 #[.pointer (some ⟨b,o,none⟩),.agg #[.int .i64 t,.int .i64 n,.int .i64 k,.int .i64 m,.int .i64 g,.int .i64 p,.int .i64 r],.int .i64 A] w fun e w'=>e=.returned (.bool true)/\Below w.heap.size w w':=by
 obtain⟨κ,hκ⟩:∃ κ,ZE Z=κ:=⟨_,rfl⟩
 have κ0:0<=κ:=by
  rw[<- hκ];unfold ZE
  rw[if_neg (by omega)]
  repeat' split
  all_goals omega
 have Jh:=fun w=>VO hG A (by omega) w
 have vI:=fun w=>VO hG (A+Z) (by omega) w
 have lc:=fun w=>Xg Z w
 rw[h1] at Jh
 rw[h2] at vI
 rw[hκ] at lc
 clear h1 h2 hκ
 go_enter Tryz.func191,Tryz.ntmps191
 go_wp2
 refine ZW (fun W=>ZM W b o T cs a/\At W w.heap.size 0 24 #[.int .i64 t,.int .i64 n,.int .i64 k,.int .i64 m,.int .i64 g,.int .i64 p,.int .i64 r] [.int .i64 t,.int .i64 n,.int .i64 k,.int .i64 m,.int .i64 g,.int .i64 p,.int .i64 r]/\Below w.heap.size w W) ⟨hi.grown (ZY _ _),At.new _ _ _,ZY _ _⟩ ?_
 rintro W ⟨i1,c1,o1⟩
 refine Zg Grown [.val (.pointer (some ⟨b,o,none⟩)),.val (.pointer (some ⟨b,o,none⟩)),.val (.pointer (some ⟨b,o+1,none⟩)),.val (.pointer (some ⟨b,o+3,none⟩)),.val (.int .i64 a.ix),.val (.bool true),.val (.bool true),.val (.pointer (some ⟨b,o,none⟩)),.val (.pointer (some ⟨b,o,none⟩)),.val (.pointer (some ⟨b,o+1,none⟩)),.val (.pointer (some ⟨b,o+3,none⟩)),.val (.int .i64 a.ix),.val (.pointer (some ⟨b,o,none⟩)),.val (.pointer (some ⟨b,o,none⟩)),.val (.pointer (some ⟨b,o+9,none⟩)),.val (.int .i64 Z),.val (.bool true),.val (.bool true),.val (.bool true),.val (.pointer (some ⟨b,o,none⟩)),.val (.pointer (some ⟨b,o,none⟩)),.val (.pointer (some ⟨b,o+9,none⟩)),.val (.int .i64 Z),.val (.int .i64 κ),.val (.bool true),.val (.bool true),.val (.bool true),.val (.agg #[.int .i64 t,.int .i64 n,.int .i64 k,.int .i64 m,.int .i64 g,.int .i64 p,.int .i64 r]),.val (.int .i64 A),.val (.pointer (some ⟨b,o,none⟩)),.val (.pointer (some ⟨b,o,none⟩)),.val (.pointer (some ⟨b,o+9,none⟩)),.val (.int .i64 Z),.val (.int .i64 (A+Z)),.val (.int .i64 i),.val (.agg #[.int .i64 t,.int .i64 n,.int .i64 k,.int .i64 m,.int .i64 g,.int .i64 p,.int .i64 r]),.val (.int .i64 A),.val (.int .i64 i),.val (.bool true),.val (.bool true),.val (.bool true)] (by kernel_rfl) Grown.refl Grown.trans (by kernel_rfl) (by kernel_rfl) (by kernel_rfl) ?_
 simp only[Zw,Act.put,List.setIfInBounds_toArray,List.set_cons_zero,List.set_cons_succ]
 refine⟨?_,?_,?_,?_,?_,?_,?_,?_,?_,?_,?_,?_,?_,?_,?_,?_,?_,?_,?_,?_,?_,?_,?_,?_,?_,?_,?_,?_,?_,?_,?_,?_,?_,?_,?_,?_,?_,?_,?_,?_,?_,?_⟩
 . intros;apply ol;go_simp;exact gl
 . intros;apply ol;go_simp;exact gl
 . intros;apply ol;go_simp;exact gl
 . intros;apply ol;go_simp;exact gl
 . intro w' hg _
   apply ol
   have z:=(i1.drew.grown hg).SV
   go_simp
   exact gl
 . intro w' hg _
   apply ol
   go_simp
   refine⟨Grown.refl _,?_⟩
   first
    | rfl
    | (simp[Want.pred];done)
    | (simp[Want.pred];omega)
    | exact congrArg Value.bool (decide_eq_true (by omega))
 . intros;apply ol;go_simp;exact gl
 . intros;apply ol;go_simp;exact gl
 . intros;apply ol;go_simp;exact gl
 . intros;apply ol;go_simp;exact gl
 . intros;apply ol;go_simp;exact gl
 . intro w' hg _
   apply ol
   have z:=(i1.drew.grown hg).SV
   go_simp
   exact gl
 . intros;apply ol;go_simp;exact gl
 . intros;apply ol;go_simp;exact gl
 . intros;apply ol;go_simp;exact gl
 . intro w' hg _
   apply ol
   have z:=(i1.drew.grown hg).Xh
   rw[hz] at z
   go_simp
   exact gl
 . intro w' hg _
   apply ol
   go_simp
   refine⟨Grown.refl _,?_⟩
   first
    | rfl
    | (simp[Want.pred];done)
    | (simp[Want.pred];omega)
    | exact congrArg Value.bool (decide_eq_true (by omega))
 . intros;apply ol;go_simp;exact gl
 . intros;apply ol;go_simp;exact gl
 . intros;apply ol;go_simp;exact gl
 . intros;apply ol;go_simp;exact gl
 . intros;apply ol;go_simp;exact gl
 . intro w' hg _
   apply ol
   have z:=(i1.drew.grown hg).Xh
   rw[hz] at z
   go_simp
   exact gl
 . intro w' hg _
   apply ol
   go_simp
   refine(lc _).mono ?_
   rintro e w'' ⟨rfl,rfl⟩
   exact⟨_,rfl,Grown.refl _,rfl⟩
 . intro w' hg _
   apply ol
   go_simp
   refine⟨Grown.refl _,?_⟩
   first
    | rfl
    | (simp[Want.pred];done)
    | (simp[Want.pred];omega)
    | exact congrArg Value.bool (decide_eq_true (by omega))
 . intros;apply ol;go_simp;exact gl
 . intros;apply ol;go_simp;exact gl
 . intro w' hg _
   apply ol
   have y0:=(c1.drew.grown hg).at0 0 rfl
   have y1:=(c1.drew.grown hg).at0 1 rfl
   have y2:=(c1.drew.grown hg).at0 2 rfl
   have y3:=(c1.drew.grown hg).at0 3 rfl
   have y4:=(c1.drew.grown hg).at0 4 rfl
   have y5:=(c1.drew.grown hg).at0 5 rfl
   have y6:=(c1.drew.grown hg).at0 6 rfl
   go_simp
   exact gl
 . intros;apply ol;go_simp;exact gl
 . intros;apply ol;go_simp;exact gl
 . intros;apply ol;go_simp;exact gl
 . intros;apply ol;go_simp;exact gl
 . intro w' hg _
   apply ol
   have z:=(i1.drew.grown hg).Xh
   rw[hz] at z
   go_simp
   exact gl
 . intro w' hg _
   apply ol
   go_simp
   exact⟨Grown.refl _,congrArg (Value.int .i64) (by rw[IntKind.wrap_i64];omega)⟩
 . intro w' hg _
   apply ol
   go_simp
   refine(vI _).mono ?_
   rintro e w'' ⟨rfl,b9⟩
   exact⟨_,rfl,b9,rfl⟩
 . intro w' hg _
   apply ol
   have y0:=(c1.drew.grown hg).at0 0 rfl
   have y1:=(c1.drew.grown hg).at0 1 rfl
   have y2:=(c1.drew.grown hg).at0 2 rfl
   have y3:=(c1.drew.grown hg).at0 3 rfl
   have y4:=(c1.drew.grown hg).at0 4 rfl
   have y5:=(c1.drew.grown hg).at0 5 rfl
   have y6:=(c1.drew.grown hg).at0 6 rfl
   go_simp
   exact gl
 . intros;apply ol;go_simp;exact gl
 . intro w' hg _
   apply ol
   go_simp
   refine(Jh _).mono ?_
   rintro e w'' ⟨rfl,b9⟩
   exact⟨_,rfl,b9,rfl⟩
 . intro w' hg _
   apply ol
   go_simp
   refine⟨Grown.refl _,?_⟩
   first
    | rfl
    | (simp[Want.pred];done)
    | (simp[Want.pred];omega)
    | exact congrArg Value.bool (by simp)
 . intros;apply ol;go_simp;exact gl
 . intros;apply ol;go_simp;exact gl
 intro w5 hg _
 go_wp2
 go_ret
 exact⟨rfl,grow (o1.trans ((Below.refl _ _).drew)) hg⟩
theorem O8 {w:World} {L:Loc} {s:Mm} {b o:Nat} {T:TypeId} {cs:Array Value} {a:CV} (h:Z9 w L s) (hb:¬ L.has b) (hi:ZM w b o T cs a) (E val st:Int) :
 Calls Tryz.prog 182 #[.pointer (some ⟨b,o,none⟩),.int .i64 E,.int .i64 val,.int .i64 st] w fun e w'=>e=.returned (.tuple #[])/\Yq L b o T cs w w' (fun s' a'=>s'=s/\a'={ a with nx:=7,E:=E,H:=0,V:=val,St:=st }):=by
 have k1:=hi.BR
 have k2:=hi.Cm
 have k3:=hi.BQ
 have k4:=hi.Q5
 have k5:=hi.Zz
 have kf:=hi.fz
 go_enter Tryz.func182,Tryz.ntmps182
 go_wp2
 go_end0
 exact⟨rfl,s,_,_,((((h.ZX hb _ _).ZX hb _ _).ZX hb _ _).ZX hb _ _).ZX hb _ _,(((((Only.refl _ _).set _ _).set _ _).set _ _).set _ _).set _ _,((((hi.N8 E).PV 0).N7 val).Uy st).Zh 7,((((Same.refl.set (by omega) _).set (by omega) _).set (by omega) _).set (by omega) _).set (by omega) _,rfl,rfl⟩
end
section
set_option maxHeartbeats 1000000
set_option maxRecDepth 20000
set_option maxHeartbeats 400000 in
theorem BP {w:World} {L:Loc} {s:Mm} {b o:Nat} {T:TypeId} {cs:Array Value} {t n k m:Nat} {g p r:Int} {a:CV} (h:Z9 w L s) (hb:¬ L.has b) (hi:ZM w b o T cs a) (who:Int) (hG:Good t n k m g p r) {x:Nat} {G:Int} (hx:x<n) (hn:(6+t+x * 2)<s.n) {v st:Int} {A:Nat} {Gs V:Int} (hv:s.wd (6+t+x * 2)=v) (hs:Zf v st A Gs V) (hl:(Y2 st && Gs == G)=false) {σ:Nat} (hσ:wrap64 (s.steps+1)=σ)  :
 Calls Tryz.prog 185 #[pP b o,eV t n k m g p r L.p who,.agg #[iV x,iV G]] w fun e w'=>e=.returned (.tuple #[])/\Yq L b o T cs w w' (fun s' a'=>s'=((s.by who).step (6+t+x * 2) (s.wd (6+t+x * 2)))/\a'={ a with se:=v,at_:=σ,nx:=7,E:=3,H:=0,V:=0,St:=σ }):=by
 have HU:Hid (s.wd (6+t+x * 2)=v):=hv
 have HS:Hid ((((s.by who).step (6+t+x * 2) (s.wd (6+t+x * 2)))).steps=σ):=hσ
 have sw:=hs.call
 have hs1:=hG.s1
 have ab:(A:Int)<=1048575:=by have:=hs.ad;omega
 have dl:=fun w=>XY st A Gs V x G w
 rw[hl] at dl
 clear hv hs hl hσ
 obtain⟨hbv,hbb⟩:=nb h hi.lt
 have Zn:¬ L.has (w.heap.size+1):=fun hh=>by have:=h.lt _ hh;omega
 have Zk:¬ w.heap.size+1=b:=fun hh=>by have:=hi.lt;omega
 go_enter Tryz.func185,Tryz.ntmps185
 go_wp2
 refine ZW (fun W=>Z9 W L s/\ZM W b o T cs a/\ZU W w.heap.size t n k m g p r L.p who/\At W (w.heap.size+1) 0 75 #[iV x,iV G] [iV x,iV G]/\Only (L.and b) w W) ⟨(h.alloc _).alloc _,(hi.grown (ZY _ _)).grown (ZY _ _),ZU.YF _,At.Yy _ _ _ _,((Only.refl _ _).alloc _).alloc _⟩ ?_
 rintro W ⟨m1,i1,v1,x1,o1⟩
 apply VT (R:=ZV L b (o+7)) (Qg L b o T cs (cs.setIfInBounds (o+7) (.int .u64 v)) s ((s.by who).step (6+t+x * 2) (s.wd (6+t+x * 2))) a { a with se:=v }) [7,10] Ua Yl ⟨m1.drew,i1.drew⟩;. kernel_rfl
 apply pV;. intros;apply ol;go_simp;exact gl
 apply pV;. intro w' hR _;apply ol;have y:=(v1.dn hR.only hbv hbb).yy;go_simp;exact gl
 apply pV;. intros;apply ol;go_simp;exact gl
 apply pV;. intro w' hR _;apply ol;have y:=(v1.dn hR.only hbv hbb).yy;go_simp;exact gl
 apply pV;. intros;apply ol;go_simp;exact gl
 apply pV;. intro w' hR _;apply ol;have z:=(x1.drew.only hR.only (fun hh=>hh.elim Zn Zk)).at0 0 rfl;go_simp;exact gl
 try simp only[pu,s0,s1]
 apply pV (c:=iV (((6+t+x * 2):Nat):Int));. intro w' hR _;apply ol;go_simp;refine(Zj _ _ _ _ _ _ _ (x:Int) _ hG.arena (by omega) (by omega)).mono ?_;rintro e w'' ⟨rfl,b9⟩;exact⟨_,rfl,b9,congrArg (Value.int .i64) (by omega)⟩
 apply pV (c:=.int .u64 v);. intro w' hR _ hP;apply ol;go_simp;refine(ZF (s:=s) hP.1 _ _ _ _ _ _ _ _ (6+t+x * 2) hn).mono ?_;rintro e w'' ⟨rfl,m2,o2⟩;exact⟨_,rfl,⟨ZV.Y7 o2 hb,m2,hP.2.only o2 hb⟩,by simp[Want.pred,HU.out]⟩
 iterate 2 (apply pV;. intros;apply ol;go_simp;exact gl)
 apply UD;. intro w' hR _ hP;apply ol;have z0:=hP.2.Yc;have z1:=hP.2.fz;go_simp;exact⟨⟨ZV.set _ _,hP.1.ZX hb _ _,hP.2.Q4 _⟩,trivial⟩
 try simp only[pu,s0,s1]
 try simp only[pn]
 intro vv w2 hR hP _
 obtain⟨m2,i2⟩:Z9 w2 L ((s.by who).step (6+t+x * 2) (s.wd (6+t+x * 2)))/\ZM w2 b o T (cs.setIfInBounds (o+7) (.int .u64 v)) { a with se:=v }:=hP
 have o2:Only (L.and b) w w2:=o1.drew.trans hR.only
 have x2:=x1.drew.only hR.only (fun hh=>hh.elim Zn Zk)
 have v2:=v1.dn hR.only hbv hbb
 have s2:Same o 24 cs (cs.setIfInBounds (o+7) (.int .u64 v)):=Same.refl.set (by omega) _
 obtain⟨g0,g1,g2,g3,g4,g5,g6,g7,g8⟩:=id v2
 clear hR o1 v1 m1 i1 x1
 go_wp2_with (first
  | (go_at_call 14;refine(YE m2 _ _ _ _ _ _ _ _ σ HS.out).mono ?_;rintro e w3 ⟨rfl,b3⟩;have i3:=i2.grown b3;have k8:=i3.PW;have kf:=i3.fz;have i4:=i3.Jj σ;have m4:=(m2.below b3).ZX hb (o+8) (iV σ);have x4:=(x2.grown b3).other Zk (o+8) (iV σ);have v4:=(v2.grown b3).ZX hbb (o+8) (iV σ);have o4:=(o2.trans (Only.ZZ b3)).set (o+8) (iV σ);have k7:(w3.setCell ⟨b,o+8,none⟩ (iV σ)).cell? ⟨b,o+7,none⟩=some (.int .u64 v):=i4.Yc)
  | (go_at_call 28;refine(sw _).mono ?_;rintro e w5 ⟨rfl,b5⟩;have i6:=(i4.grown b5).grown (ZY _ (.cells #[iV st,iV A,iV Gs,iV V] 83));have x6:=(x4.grown b5).grown (ZY _ (.cells #[iV st,iV A,iV Gs,iV V] 83));have v6:=(v4.grown b5).grown (ZY _ (.cells #[iV st,iV A,iV Gs,iV V] 83));have m6:=(m4.below b5).alloc (.cells #[iV st,iV A,iV Gs,iV V] 83);have o6:=(o4.trans (Only.ZZ b5)).alloc (.cells #[iV st,iV A,iV Gs,iV V] 83);have q6:=At.new w5 83 [iV st,iV A,iV Gs,iV V];have z0:=q6.at0 0 rfl;have z1:=q6.at0 1 rfl;have z2:=q6.at0 2 rfl;have z3:=q6.at0 3 rfl;have u0:=x6.at0 0 rfl;have u1:=x6.at0 1 rfl)
  | (go_at_call 166;refine(dl _).mono ?_;rintro e w7 ⟨rfl,b7⟩;have i7:=i6.grown b7;have m7:=m6.below b7;have v7:=v6.grown b7;have o7:=o6.trans (Only.ZZ b7);have q7:=q6.grown b7;have l1:=q7.at0 1 rfl;obtain⟨e0,e1,e2,e3,e4,e5,e6,e7,e8⟩:=id v7;have l8:w7.cell? ⟨b,o+8,none⟩=some (iV σ):=i7.PW)
  | (go_at_call 182;refine(O8 m7 hb i7 3 0 σ).mono ?_;rintro e w8 ⟨rfl,s8,wF,a8,m8,o8,i8,q8,rfl,rfl⟩))
 refine bodyPost_ret (results_none rfl _ _ _) rfl ?_
 exact⟨rfl,_,_,_,m8,o7.trans o8,i8,(s2.set (by omega) _).trans q8,rfl,rfl⟩
set_option maxHeartbeats 400000 in
theorem EY {w:World} {L:Loc} {s:Mm} {b o:Nat} {T:TypeId} {cs:Array Value} {t n k m:Nat} {g p r:Int} {a:CV} (h:Z9 w L s) (hb:¬ L.has b) (hi:ZM w b o T cs a) (who:Int) (hG:Good t n k m g p r) {x:Nat} {G:Int} (hx:x<n) (hn:(6+t+x * 2)<s.n) {v st:Int} {A:Nat} {Gs V:Int} (hv:s.wd (6+t+x * 2)=v) (hs:Zf v st A Gs V) (hl:(Y2 st && Gs == G)=true) {σ:Nat} (hσ:wrap64 (s.steps+1)=σ) {ci:Int} (hci:Za t n k m A=ci) (hc0:0<=ci) :
 Calls Tryz.prog 185 #[pP b o,eV t n k m g p r L.p who,.agg #[iV x,iV G]] w fun e w'=>e=.returned (.tuple #[])/\Yq L b o T cs w w' (fun s' a'=>s'=((s.by who).step (6+t+x * 2) (s.wd (6+t+x * 2)))/\a'={ a with se:=v,at_:=σ,nx:=1 }):=by
 have HU:Hid (s.wd (6+t+x * 2)=v):=hv
 have HS:Hid ((((s.by who).step (6+t+x * 2) (s.wd (6+t+x * 2)))).steps=σ):=hσ
 have sw:=hs.call
 have hs1:=hG.s1
 have ab:(A:Int)<=1048575:=by have:=hs.ad;omega
 have dl:=fun w=>XY st A Gs V x G w
 rw[hl] at dl
 have Jh:=fun w=>VO hG (A:Int) (by omega) w
 rw[hci] at Jh
 clear hci
 clear hv hs hl hσ
 obtain⟨hbv,hbb⟩:=nb h hi.lt
 have Zn:¬ L.has (w.heap.size+1):=fun hh=>by have:=h.lt _ hh;omega
 have Zk:¬ w.heap.size+1=b:=fun hh=>by have:=hi.lt;omega
 go_enter Tryz.func185,Tryz.ntmps185
 go_wp2
 refine ZW (fun W=>Z9 W L s/\ZM W b o T cs a/\ZU W w.heap.size t n k m g p r L.p who/\At W (w.heap.size+1) 0 75 #[iV x,iV G] [iV x,iV G]/\Only (L.and b) w W) ⟨(h.alloc _).alloc _,(hi.grown (ZY _ _)).grown (ZY _ _),ZU.YF _,At.Yy _ _ _ _,((Only.refl _ _).alloc _).alloc _⟩ ?_
 rintro W ⟨m1,i1,v1,x1,o1⟩
 apply VT (R:=ZV L b (o+7)) (Qg L b o T cs (cs.setIfInBounds (o+7) (.int .u64 v)) s ((s.by who).step (6+t+x * 2) (s.wd (6+t+x * 2))) a { a with se:=v }) [7,10] Ua Yl ⟨m1.drew,i1.drew⟩;. kernel_rfl
 apply pV;. intros;apply ol;go_simp;exact gl
 apply pV;. intro w' hR _;apply ol;have y:=(v1.dn hR.only hbv hbb).yy;go_simp;exact gl
 apply pV;. intros;apply ol;go_simp;exact gl
 apply pV;. intro w' hR _;apply ol;have y:=(v1.dn hR.only hbv hbb).yy;go_simp;exact gl
 apply pV;. intros;apply ol;go_simp;exact gl
 apply pV;. intro w' hR _;apply ol;have z:=(x1.drew.only hR.only (fun hh=>hh.elim Zn Zk)).at0 0 rfl;go_simp;exact gl
 try simp only[pu,s0,s1]
 apply pV (c:=iV (((6+t+x * 2):Nat):Int));. intro w' hR _;apply ol;go_simp;refine(Zj _ _ _ _ _ _ _ (x:Int) _ hG.arena (by omega) (by omega)).mono ?_;rintro e w'' ⟨rfl,b9⟩;exact⟨_,rfl,b9,congrArg (Value.int .i64) (by omega)⟩
 apply pV (c:=.int .u64 v);. intro w' hR _ hP;apply ol;go_simp;refine(ZF (s:=s) hP.1 _ _ _ _ _ _ _ _ (6+t+x * 2) hn).mono ?_;rintro e w'' ⟨rfl,m2,o2⟩;exact⟨_,rfl,⟨ZV.Y7 o2 hb,m2,hP.2.only o2 hb⟩,by simp[Want.pred,HU.out]⟩
 iterate 2 (apply pV;. intros;apply ol;go_simp;exact gl)
 apply UD;. intro w' hR _ hP;apply ol;have z0:=hP.2.Yc;have z1:=hP.2.fz;go_simp;exact⟨⟨ZV.set _ _,hP.1.ZX hb _ _,hP.2.Q4 _⟩,trivial⟩
 try simp only[pu,s0,s1]
 try simp only[pn]
 intro vv w2 hR hP _
 obtain⟨m2,i2⟩:Z9 w2 L ((s.by who).step (6+t+x * 2) (s.wd (6+t+x * 2)))/\ZM w2 b o T (cs.setIfInBounds (o+7) (.int .u64 v)) { a with se:=v }:=hP
 have o2:Only (L.and b) w w2:=o1.drew.trans hR.only
 have x2:=x1.drew.only hR.only (fun hh=>hh.elim Zn Zk)
 have v2:=v1.dn hR.only hbv hbb
 have s2:Same o 24 cs (cs.setIfInBounds (o+7) (.int .u64 v)):=Same.refl.set (by omega) _
 obtain⟨g0,g1,g2,g3,g4,g5,g6,g7,g8⟩:=id v2
 clear hR o1 v1 m1 i1 x1
 go_wp2_with (first
  | (go_at_call 14;refine(YE m2 _ _ _ _ _ _ _ _ σ HS.out).mono ?_;rintro e w3 ⟨rfl,b3⟩;have i3:=i2.grown b3;have k8:=i3.PW;have kf:=i3.fz;have i4:=i3.Jj σ;have m4:=(m2.below b3).ZX hb (o+8) (iV σ);have x4:=(x2.grown b3).other Zk (o+8) (iV σ);have v4:=(v2.grown b3).ZX hbb (o+8) (iV σ);have o4:=(o2.trans (Only.ZZ b3)).set (o+8) (iV σ);have k7:(w3.setCell ⟨b,o+8,none⟩ (iV σ)).cell? ⟨b,o+7,none⟩=some (.int .u64 v):=i4.Yc)
  | (go_at_call 28;refine(sw _).mono ?_;rintro e w5 ⟨rfl,b5⟩;have i6:=(i4.grown b5).grown (ZY _ (.cells #[iV st,iV A,iV Gs,iV V] 83));have x6:=(x4.grown b5).grown (ZY _ (.cells #[iV st,iV A,iV Gs,iV V] 83));have v6:=(v4.grown b5).grown (ZY _ (.cells #[iV st,iV A,iV Gs,iV V] 83));have m6:=(m4.below b5).alloc (.cells #[iV st,iV A,iV Gs,iV V] 83);have o6:=(o4.trans (Only.ZZ b5)).alloc (.cells #[iV st,iV A,iV Gs,iV V] 83);have q6:=At.new w5 83 [iV st,iV A,iV Gs,iV V];have z0:=q6.at0 0 rfl;have z1:=q6.at0 1 rfl;have z2:=q6.at0 2 rfl;have z3:=q6.at0 3 rfl;have u0:=x6.at0 0 rfl;have u1:=x6.at0 1 rfl)
  | (go_at_call 166;refine(dl _).mono ?_;rintro e w7 ⟨rfl,b7⟩;have i7:=i6.grown b7;have m7:=m6.below b7;have v7:=v6.grown b7;have o7:=o6.trans (Only.ZZ b7);have q7:=q6.grown b7;have l1:=q7.at0 1 rfl;obtain⟨e0,e1,e2,e3,e4,e5,e6,e7,e8⟩:=id v7;have l8:w7.cell? ⟨b,o+8,none⟩=some (iV σ):=i7.PW)
  | (go_at_call 165;refine(Jh _).mono ?_;rintro e w8 ⟨rfl,b8⟩;have i8:=i7.grown b8;have m8:=m7.below b8;have l0:=i8.Zz;have lf:=i8.fz))
 go_end0
 exact⟨rfl,_,_,_,m8.ZX hb _ _,(o7.trans (Only.ZZ b8)).set _ _,i8.Zh 1,(s2.set (by omega) _).set (by omega) _,rfl,rfl⟩
theorem BO {w:World} {L:Loc} {s:Mm} {b o:Nat} {T:TypeId} {cs:Array Value} {t n k m:Nat} {g p r:Int} {a:CV} (h:Z9 w L s) (hb:¬ L.has b) (hi:ZM w b o T cs a) (who:Int) {st:Int} {A:Nat} {Gs V:Int} (hs:Zf a.se st A Gs V) (hn:A<s.n) {u kd Z sl gn:Int} {ow:Bool} (hu:s.wd A=u) (hh:VN u kd Z sl gn ow) (ho:(ow == a.own)=false) {σ:Nat} (hσ:wrap64 (s.steps+1)=σ) :
 Calls Tryz.prog 186 #[pP b o,eV t n k m g p r L.p who] w fun e w'=>e=.returned (.tuple #[])/\Yq L b o T cs w w' (fun s' a'=>s'=((s.by who).step A (s.wd A))/\a'={ a with sz:=Z,nx:=7,E:=3,H:=0,V:=0,St:=σ }):=by
 have HU:Hid (s.wd A=u):=hu
 have HO:Hid ((ow == a.own)=false):=ho
 have sw:=hs.call
 have hw:=hh.call
 have HS:Hid ((((s.by who).step A (s.wd A))).steps=σ):=hσ
 clear hσ
 clear hu hs hh ho
 obtain⟨hbv,hbb⟩:=nb h hi.lt
 have i0:=hi.grown (ZY _ (.cells #[iV t,iV n,iV k,iV m,iV g,iV p,iV r,pP L.p 0,iV who] 27))
 have k3:=i0.Yc
 go_enter Tryz.func186,Tryz.ntmps186
 go_wp2_with (first
  | (go_at_call 28;refine(sw _).mono ?_;rintro e w3 ⟨rfl,b3⟩;have i3:=(i0.grown b3).grown (ZY _ (.cells #[iV st,iV A,iV Gs,iV V] 83));have v3:=(ZU.new.grown b3).grown (ZY _ (.cells #[iV st,iV A,iV Gs,iV V] 83));have m3:=((h.alloc _).below b3).alloc (.cells #[iV st,iV A,iV Gs,iV V] 83);have o3:Only (L.and b) w (w3.alloc (.cells #[iV st,iV A,iV Gs,iV V] 83)):=(((Only.refl _ _).alloc _).trans (Only.ZZ b3)).alloc (.cells #[iV st,iV A,iV Gs,iV V] 83);have q3:=At.new w3 83 [iV st,iV A,iV Gs,iV V];obtain⟨e0,e1,e2,e3,e4,e5,e6,e7,e8⟩:=id v3;have q0:=q3.at0 1 rfl)
  | (go_at_call 105;refine(ZF m3 _ _ _ _ _ _ _ _ A hn).mono ?_;rintro e w5 ⟨rfl,m5,o5⟩;rw[HU.out])
  | (go_at_call 167;refine(hw _).mono ?_;rintro e w6 ⟨rfl,b6⟩;have i6:=((i3.only o5 hb).grown b6).grown (ZY _ (.cells #[iV kd,iV Z,iV sl,iV gn,.bool ow] 144));have y0:=At.new w6 144 [iV kd,iV Z,iV sl,iV gn,.bool ow];have k1:=y0.at0 1 rfl;have k9:=i6.Xh;have kf:=i6.fz))
 obtain⟨S,hS⟩:∃ S,w3.heap.size=S:=⟨_,rfl⟩
 obtain⟨Hh,hH⟩:∃ Hh,w6.heap.size=Hh:=⟨_,rfl⟩
 have lS:¬ L.has S:=fun hh=>by have:=h.lt _ hh;have:=b3.size;simp only[Go.Deep.nblk_alloc] at this;omega
 have bS:S≠b:=by have:=hi.lt;have:=b3.size;simp only[Go.Deep.nblk_alloc] at this;omega
 have bH:Hh≠b:=by have:=hi.lt;have:=b3.size;have:=o5.size;have:=b6.size;simp only[Go.Deep.nblk_alloc] at *;omega
 rw[hS] at q3 ⊢
 rw[hH] at y0 ⊢
 refine ZW (fun W=>Z9 W L ((s.by who).step A (s.wd A))/\ZM W b o T (cs.setIfInBounds (o+9) (iV Z)) { a with sz:=Z }/\ZU W w.heap.size t n k m g p r L.p who/\At W S 0 83 _ [iV st,iV A,iV Gs,iV V]/\At W Hh 0 144 _ [iV kd,iV Z,iV sl,iV gn,.bool ow]/\Only (L.and b) w W) ⟨((m5.below b6).alloc _).ZX hb _ _,i6.SS Z,(((v3.only o5 hbv).grown b6).grown (ZY _ _)).ZX hbb _ _,(((q3.only o5 lS).grown b6).grown (ZY _ _)).other bS _ _,y0.other bH _ _,(((o3.trans (o5.Yf (b:=b))).trans (Only.ZZ b6)).alloc _).set _ _⟩ ?_
 clear b3 b6 m3 m5 o5 o3 q3 q0 y0 i3 i6 v3 i0 k3 k1 k9 kf hS hH sw hw
 rintro W ⟨m1,i1,v1,q1,y1,o1⟩
 apply LU;. kernel_rfl
 apply rV;. intros;apply ol;go_simp;exact gl
 apply rV;. intro w' hg _;apply ol;have z:=(y1.drew.grown hg).at0 4 rfl;go_simp;exact gl
 iterate 3 (apply rV;. intros;apply ol;go_simp;exact gl)
 apply rV;. intro w' hg _;apply ol;have z:=(i1.drew.grown hg).TZ;go_simp;exact gl
 try simp only[pu,s0,s1]
 apply rV (c:=.bool true);. intro w' hg _;apply ol;go_simp;exact⟨Grown.refl _,congrArg Value.bool (by rw[HO.out];rfl)⟩
 apply X9;. intros;apply ol;go_simp;exact gl
 try simp only[pu,s0,s1]
 intro w7 hg _
 have m7:=m1.drew.below hg
 have i7:=i1.drew.grown hg
 have v7:=v1.dg hg
 have q7:=q1.drew.grown hg
 have o7:Only (L.and b) w w7:=o1.drew.trans (Only.ZZ hg)
 have s7:Same o 24 cs (cs.setIfInBounds (o+9) (iV Z)):=Same.refl.set (by omega) _
 clear hg m1 i1 v1 q1 y1 o1
 have kA:=q7.at0 1 rfl
 obtain⟨y0,y1,y2,y3,y4,y5,y6,y7,y8⟩:=id v7
 go_wp2_with (first
  | (go_at_call 14;refine(YE m7 _ _ _ _ _ _ _ _ σ HS.out).mono ?_;rintro e w8 ⟨rfl,b8⟩)
  | (go_at_call 182;refine(O8 (m7.below b8) hb (i7.grown b8) 3 0 σ).mono ?_;rintro e w9 ⟨rfl,s9,vJ,a9,m9,o9,i9,q9,rfl,rfl⟩))
 go_end0
 exact⟨rfl,_,_,_,m9,(o7.trans (Only.ZZ b8)).trans o9,i9,s7.trans q9,rfl,rfl⟩
theorem LJ {w:World} {L:Loc} {s:Mm} {b o:Nat} {T:TypeId} {cs:Array Value} {t n k m:Nat} {g p r:Int} {a:CV} (h:Z9 w L s) (hb:¬ L.has b) (hi:ZM w b o T cs a) (who:Int) {st:Int} {A:Nat} {Gs V:Int} (hs:Zf a.se st A Gs V) (hn:A<s.n) {u kd Z sl gn:Int} {ow:Bool} (hu:s.wd A=u) (hh:VN u kd Z sl gn ow) (ho:(ow == a.own)=true) (hc:∀ (w1:World) (c1:Array Value),ZM w1 b o T c1 { a with sz:=Z }->Calls Tryz.prog 191 #[pP b o,.agg #[iV t,iV n,iV k,iV m,iV g,iV p,iV r],iV A] w1 fun e w'=>e=.returned (.bool false)/\Below w1.heap.size w1 w') :
 Calls Tryz.prog 186 #[pP b o,eV t n k m g p r L.p who] w fun e w'=>e=.returned (.tuple #[])/\Yq L b o T cs w w' (fun s' a'=>s'=((s.by who).step A (s.wd A))/\a'={ a with sz:=Z,nx:=7,E:=4,H:=0,V:=0,St:=a.at_ }):=by
 have HU:Hid (s.wd A=u):=hu
 have HO:Hid ((ow == a.own)=true):=ho
 have sw:=hs.call
 have hw:=hh.call
 clear hu hs hh ho
 obtain⟨hbv,hbb⟩:=nb h hi.lt
 have i0:=hi.grown (ZY _ (.cells #[iV t,iV n,iV k,iV m,iV g,iV p,iV r,pP L.p 0,iV who] 27))
 have k3:=i0.Yc
 go_enter Tryz.func186,Tryz.ntmps186
 go_wp2_with (first
  | (go_at_call 28;refine(sw _).mono ?_;rintro e w3 ⟨rfl,b3⟩;have i3:=(i0.grown b3).grown (ZY _ (.cells #[iV st,iV A,iV Gs,iV V] 83));have v3:=(ZU.new.grown b3).grown (ZY _ (.cells #[iV st,iV A,iV Gs,iV V] 83));have m3:=((h.alloc _).below b3).alloc (.cells #[iV st,iV A,iV Gs,iV V] 83);have o3:Only (L.and b) w (w3.alloc (.cells #[iV st,iV A,iV Gs,iV V] 83)):=(((Only.refl _ _).alloc _).trans (Only.ZZ b3)).alloc (.cells #[iV st,iV A,iV Gs,iV V] 83);have q3:=At.new w3 83 [iV st,iV A,iV Gs,iV V];obtain⟨e0,e1,e2,e3,e4,e5,e6,e7,e8⟩:=id v3;have q0:=q3.at0 1 rfl)
  | (go_at_call 105;refine(ZF m3 _ _ _ _ _ _ _ _ A hn).mono ?_;rintro e w5 ⟨rfl,m5,o5⟩;rw[HU.out])
  | (go_at_call 167;refine(hw _).mono ?_;rintro e w6 ⟨rfl,b6⟩;have i6:=((i3.only o5 hb).grown b6).grown (ZY _ (.cells #[iV kd,iV Z,iV sl,iV gn,.bool ow] 144));have y0:=At.new w6 144 [iV kd,iV Z,iV sl,iV gn,.bool ow];have k1:=y0.at0 1 rfl;have k9:=i6.Xh;have kf:=i6.fz))
 obtain⟨S,hS⟩:∃ S,w3.heap.size=S:=⟨_,rfl⟩
 obtain⟨Hh,hH⟩:∃ Hh,w6.heap.size=Hh:=⟨_,rfl⟩
 have lS:¬ L.has S:=fun hh=>by have:=h.lt _ hh;have:=b3.size;simp only[Go.Deep.nblk_alloc] at this;omega
 have bS:S≠b:=by have:=hi.lt;have:=b3.size;simp only[Go.Deep.nblk_alloc] at this;omega
 have bH:Hh≠b:=by have:=hi.lt;have:=b3.size;have:=o5.size;have:=b6.size;simp only[Go.Deep.nblk_alloc] at *;omega
 rw[hS] at q3 ⊢
 rw[hH] at y0 ⊢
 refine ZW (fun W=>Z9 W L ((s.by who).step A (s.wd A))/\ZM W b o T (cs.setIfInBounds (o+9) (iV Z)) { a with sz:=Z }/\ZU W w.heap.size t n k m g p r L.p who/\At W S 0 83 _ [iV st,iV A,iV Gs,iV V]/\At W Hh 0 144 _ [iV kd,iV Z,iV sl,iV gn,.bool ow]/\Only (L.and b) w W) ⟨((m5.below b6).alloc _).ZX hb _ _,i6.SS Z,(((v3.only o5 hbv).grown b6).grown (ZY _ _)).ZX hbb _ _,(((q3.only o5 lS).grown b6).grown (ZY _ _)).other bS _ _,y0.other bH _ _,(((o3.trans (o5.Yf (b:=b))).trans (Only.ZZ b6)).alloc _).set _ _⟩ ?_
 clear b3 b6 m3 m5 o5 o3 q3 q0 y0 i3 i6 v3 i0 k3 k1 k9 kf hS hH sw hw
 rintro W ⟨m1,i1,v1,q1,y1,o1⟩
 apply LU;. kernel_rfl
 apply rV;. intros;apply ol;go_simp;exact gl
 apply rV;. intro w' hg _;apply ol;have z:=(y1.drew.grown hg).at0 4 rfl;go_simp;exact gl
 iterate 3 (apply rV;. intros;apply ol;go_simp;exact gl)
 apply rV;. intro w' hg _;apply ol;have z:=(i1.drew.grown hg).TZ;go_simp;exact gl
 try simp only[pu,s0,s1]
 apply rV (c:=.bool false);. intro w' hg _;apply ol;go_simp;exact⟨Grown.refl _,congrArg Value.bool (by rw[HO.out];rfl)⟩
 apply X9;. intros;apply ol;go_simp;exact gl
 try simp only[pu,s0,s1]
 intro w7 hg _
 have m7:=m1.drew.below hg
 have i7:=i1.drew.grown hg
 have v7:=v1.dg hg
 have q7:=q1.drew.grown hg
 have o7:Only (L.and b) w w7:=o1.drew.trans (Only.ZZ hg)
 have s7:Same o 24 cs (cs.setIfInBounds (o+9) (iV Z)):=Same.refl.set (by omega) _
 clear hg m1 i1 v1 q1 y1 o1
 have kA:=q7.at0 1 rfl
 obtain⟨y0,y1,y2,y3,y4,y5,y6,y7,y8⟩:=id v7
 go_wp2_with (first
  | (go_at_call 191;refine(hc _ _ i7).mono ?_;rintro e w8 ⟨rfl,b8⟩;have i8:=i7.grown b8;have m8:=m7.below b8;have k8:w8.cell? ⟨b,o+8,none⟩=some (iV a.at_):=i8.PW;have k0:=i8.Zz;have kf:=i8.fz)
  | (go_at_call 182;refine(O8 m8 hb i8 4 0 a.at_).mono ?_;rintro e w9 ⟨rfl,s9,vJ,a9,m9,o9,i9,q9,rfl,rfl⟩))
 go_end0
 exact⟨rfl,_,_,_,m9,(o7.trans (Only.ZZ b8)).trans o9,i9,s7.trans q9,rfl,rfl⟩
theorem BN {w:World} {L:Loc} {s:Mm} {b o:Nat} {T:TypeId} {cs:Array Value} {t n k m:Nat} {g p r:Int} {a:CV} (h:Z9 w L s) (hb:¬ L.has b) (hi:ZM w b o T cs a) (who:Int) {st:Int} {A:Nat} {Gs V:Int} (hs:Zf a.se st A Gs V) (hn:A<s.n) {u kd Z sl gn:Int} {ow:Bool} (hu:s.wd A=u) (hh:VN u kd Z sl gn ow) (ho:(ow == a.own)=true) (hc:∀ (w1:World) (c1:Array Value),ZM w1 b o T c1 { a with sz:=Z }->Calls Tryz.prog 191 #[pP b o,.agg #[iV t,iV n,iV k,iV m,iV g,iV p,iV r],iV A] w1 fun e w'=>e=.returned (.bool true)/\Below w1.heap.size w1 w') :
 Calls Tryz.prog 186 #[pP b o,eV t n k m g p r L.p who] w fun e w'=>e=.returned (.tuple #[])/\Yq L b o T cs w w' (fun s' a'=>s'=((s.by who).step A (s.wd A))/\a'={ a with sz:=Z,nx:=2 }):=by
 have HU:Hid (s.wd A=u):=hu
 have HO:Hid ((ow == a.own)=true):=ho
 have sw:=hs.call
 have hw:=hh.call
 clear hu hs hh ho
 obtain⟨hbv,hbb⟩:=nb h hi.lt
 have i0:=hi.grown (ZY _ (.cells #[iV t,iV n,iV k,iV m,iV g,iV p,iV r,pP L.p 0,iV who] 27))
 have k3:=i0.Yc
 go_enter Tryz.func186,Tryz.ntmps186
 go_wp2_with (first
  | (go_at_call 28;refine(sw _).mono ?_;rintro e w3 ⟨rfl,b3⟩;have i3:=(i0.grown b3).grown (ZY _ (.cells #[iV st,iV A,iV Gs,iV V] 83));have v3:=(ZU.new.grown b3).grown (ZY _ (.cells #[iV st,iV A,iV Gs,iV V] 83));have m3:=((h.alloc _).below b3).alloc (.cells #[iV st,iV A,iV Gs,iV V] 83);have o3:Only (L.and b) w (w3.alloc (.cells #[iV st,iV A,iV Gs,iV V] 83)):=(((Only.refl _ _).alloc _).trans (Only.ZZ b3)).alloc (.cells #[iV st,iV A,iV Gs,iV V] 83);have q3:=At.new w3 83 [iV st,iV A,iV Gs,iV V];obtain⟨e0,e1,e2,e3,e4,e5,e6,e7,e8⟩:=id v3;have q0:=q3.at0 1 rfl)
  | (go_at_call 105;refine(ZF m3 _ _ _ _ _ _ _ _ A hn).mono ?_;rintro e w5 ⟨rfl,m5,o5⟩;rw[HU.out])
  | (go_at_call 167;refine(hw _).mono ?_;rintro e w6 ⟨rfl,b6⟩;have i6:=((i3.only o5 hb).grown b6).grown (ZY _ (.cells #[iV kd,iV Z,iV sl,iV gn,.bool ow] 144));have y0:=At.new w6 144 [iV kd,iV Z,iV sl,iV gn,.bool ow];have k1:=y0.at0 1 rfl;have k9:=i6.Xh;have kf:=i6.fz))
 obtain⟨S,hS⟩:∃ S,w3.heap.size=S:=⟨_,rfl⟩
 obtain⟨Hh,hH⟩:∃ Hh,w6.heap.size=Hh:=⟨_,rfl⟩
 have lS:¬ L.has S:=fun hh=>by have:=h.lt _ hh;have:=b3.size;simp only[Go.Deep.nblk_alloc] at this;omega
 have bS:S≠b:=by have:=hi.lt;have:=b3.size;simp only[Go.Deep.nblk_alloc] at this;omega
 have bH:Hh≠b:=by have:=hi.lt;have:=b3.size;have:=o5.size;have:=b6.size;simp only[Go.Deep.nblk_alloc] at *;omega
 rw[hS] at q3 ⊢
 rw[hH] at y0 ⊢
 refine ZW (fun W=>Z9 W L ((s.by who).step A (s.wd A))/\ZM W b o T (cs.setIfInBounds (o+9) (iV Z)) { a with sz:=Z }/\ZU W w.heap.size t n k m g p r L.p who/\At W S 0 83 _ [iV st,iV A,iV Gs,iV V]/\At W Hh 0 144 _ [iV kd,iV Z,iV sl,iV gn,.bool ow]/\Only (L.and b) w W) ⟨((m5.below b6).alloc _).ZX hb _ _,i6.SS Z,(((v3.only o5 hbv).grown b6).grown (ZY _ _)).ZX hbb _ _,(((q3.only o5 lS).grown b6).grown (ZY _ _)).other bS _ _,y0.other bH _ _,(((o3.trans (o5.Yf (b:=b))).trans (Only.ZZ b6)).alloc _).set _ _⟩ ?_
 clear b3 b6 m3 m5 o5 o3 q3 q0 y0 i3 i6 v3 i0 k3 k1 k9 kf hS hH sw hw
 rintro W ⟨m1,i1,v1,q1,y1,o1⟩
 apply LU;. kernel_rfl
 apply rV;. intros;apply ol;go_simp;exact gl
 apply rV;. intro w' hg _;apply ol;have z:=(y1.drew.grown hg).at0 4 rfl;go_simp;exact gl
 iterate 3 (apply rV;. intros;apply ol;go_simp;exact gl)
 apply rV;. intro w' hg _;apply ol;have z:=(i1.drew.grown hg).TZ;go_simp;exact gl
 try simp only[pu,s0,s1]
 apply rV (c:=.bool false);. intro w' hg _;apply ol;go_simp;exact⟨Grown.refl _,congrArg Value.bool (by rw[HO.out];rfl)⟩
 apply X9;. intros;apply ol;go_simp;exact gl
 try simp only[pu,s0,s1]
 intro w7 hg _
 have m7:=m1.drew.below hg
 have i7:=i1.drew.grown hg
 have v7:=v1.dg hg
 have q7:=q1.drew.grown hg
 have o7:Only (L.and b) w w7:=o1.drew.trans (Only.ZZ hg)
 have s7:Same o 24 cs (cs.setIfInBounds (o+9) (iV Z)):=Same.refl.set (by omega) _
 clear hg m1 i1 v1 q1 y1 o1
 have kA:=q7.at0 1 rfl
 obtain⟨y0,y1,y2,y3,y4,y5,y6,y7,y8⟩:=id v7
 go_wp2_with (go_at_call 191;refine(hc _ _ i7).mono ?_;rintro e w8 ⟨rfl,b8⟩;have i8:=i7.grown b8;have m8:=m7.below b8;have k8:w8.cell? ⟨b,o+8,none⟩=some (iV a.at_):=i8.PW;have k0:=i8.Zz;have kf:=i8.fz)
 go_end0
 exact⟨rfl,_,_,_,m8.ZX hb _ _,(o7.trans (Only.ZZ b8)).set _ _,i8.Zh 2,s7.set (by omega) _,rfl,rfl⟩
end
section
set_option maxHeartbeats 1000000
set_option maxRecDepth 20000
theorem NV {w:World} {L:Loc} {s:Mm} {b o:Nat} {T:TypeId} {cs:Array Value} {t n k m:Nat} {g p r:Int} {a:CV} (h:Z9 w L s) (hb:¬ L.has b) (hi:ZM w b o T cs a) (who:Int) {x:Nat} {G:Int} {st:Int} {A:Nat} {Gs V:Int} (hs:Zf a.se st A Gs V) {j:Nat} (hix:a.ix=j) (j1:j<=16) (hn:(A+1+j)<s.n) {u z vr:Int} {fz:Bool} (hu:s.wd (A+1+j)=u) (hc:CellIs u z fz vr) {σ:Nat} (hσ:wrap64 (s.steps+1)=σ) (hr:(decide (a.kd=1) || a.S9 z)=true)  :
 Calls Tryz.prog 187 #[pP b o,eV t n k m g p r L.p who,.agg #[iV x,iV G]] w fun e w'=>e=.returned (.tuple #[])/\Yq L b o T cs w w' (fun s' a'=>s'=((s.by who).step (A+1+j) (s.wd (A+1+j)))/\a'={ a with ce:=u,ld:=σ,nx:=3 }):=by
 have HU:Hid (s.wd (A+1+j)=u):=hu
 have HS:Hid ((((s.by who).step (A+1+j) (s.wd (A+1+j)))).steps=σ):=hσ
 have HR:Hid ((decide (a.kd=1) || a.S9 z)=true):=hr
 have sw:=hs.call
 have cc:=hc.call
 have ab:(A:Int)<=1048575:=by have:=hs.ad;omega
 have HX:Hid (a.ix=j):=hix
 clear hu hs hc hσ hr hix
 obtain⟨hbv,hbb⟩:=nb h hi.lt
 have Zn:¬ L.has (w.heap.size+1):=fun hh=>by have:=h.lt _ hh;omega
 have Zk:¬ w.heap.size+1=b:=fun hh=>by have:=hi.lt;omega
 have i0:=(hi.grown (ZY _ (.cells #[iV t,iV n,iV k,iV m,iV g,iV p,iV r,pP L.p 0,iV who] 27))).grown (ZY _ (.cells #[iV x,iV G] 75))
 have k3:=i0.Yc
 go_enter Tryz.func187,Tryz.ntmps187
 go_wp2_with (go_at_call 28;refine(sw _).mono ?_;rintro e w3 ⟨rfl,b3⟩)
 have q0:=At.new w3 83 [iV st,iV A,iV Gs,iV V]
 obtain⟨S,hS⟩:∃ S,w3.heap.size=S:=⟨_,rfl⟩
 have lS:¬ L.has S:=fun hh=>by have:=h.lt _ hh;have:=b3.size;simp only[Go.Deep.nblk_alloc] at this;omega
 have bS:S≠b:=by have:=hi.lt;have:=b3.size;simp only[Go.Deep.nblk_alloc] at this;omega
 rw[hS] at q0 ⊢
 refine ZW (fun W=>Z9 W L s/\ZM W b o T cs a/\ZU W w.heap.size t n k m g p r L.p who/\At W S 0 83 _ [iV st,iV A,iV Gs,iV V]/\Only (L.and b) w W) ⟨(((h.alloc _).alloc _).below b3).alloc _,(i0.grown b3).grown (ZY _ _),((ZU.YF _).grown b3).grown (ZY _ _),q0,((((Only.refl _ _).alloc _).alloc _).trans (Only.ZZ b3)).alloc _⟩ ?_
 clear b3 i0 k3 sw q0 hS
 rintro W ⟨m1,i1,v1,q1,o1⟩
 apply VT (R:=ZV L b (o+10)) (Qg L b o T cs (cs.setIfInBounds (o+10) (.int .u64 u)) s ((s.by who).step (A+1+j) (s.wd (A+1+j))) a { a with ce:=u }) [5,8] Ua Yl ⟨m1.drew,i1.drew⟩;. kernel_rfl
 apply pV;. intros;apply ol;go_simp;exact gl
 apply pV;. intro w' hR _;apply ol;have y:=(v1.dn hR.only hbv hbb).yy;go_simp;exact gl
 apply pV;. intros;apply ol;go_simp;exact gl
 apply pV;. intro w' hR _;apply ol;have z0:=(q1.drew.only hR.only (fun hh=>hh.elim lS bS)).at0 0 rfl;have z1:=(q1.drew.only hR.only (fun hh=>hh.elim lS bS)).at0 1 rfl;have z2:=(q1.drew.only hR.only (fun hh=>hh.elim lS bS)).at0 2 rfl;have z3:=(q1.drew.only hR.only (fun hh=>hh.elim lS bS)).at0 3 rfl;go_simp;exact gl
 apply pV (c:=iV (((A+1+j):Nat):Int));. intro w' hR _;apply ol;go_simp;refine(Yi st A Gs V j (hR.keep (j:=o+3) (by omega) (by have z:=i1.drew.SV;rwa [HX.out] at z)) (by omega) (by omega) (by omega) (by omega)).mono ?_;rintro e w'' ⟨rfl,b9⟩;exact⟨_,rfl,b9,congrArg (Value.int .i64) (by omega)⟩
 apply pV (c:=.int .u64 u);. intro w' hR _ hP;apply ol;go_simp;refine(ZF (s:=s) hP.1 _ _ _ _ _ _ _ _ (A+1+j) hn).mono ?_;rintro e w'' ⟨rfl,m2,o2⟩;exact⟨_,rfl,⟨ZV.Y7 o2 hb,m2,hP.2.only o2 hb⟩,by simp[Want.pred,HU.out]⟩
 try simp only[pu,s0,s1]
 iterate 2 (apply pV;. intros;apply ol;go_simp;exact gl)
 apply UD;. intro w' hR _ hP;apply ol;have z0:=hP.2.VQ;have z1:=hP.2.fz;go_simp;exact⟨⟨ZV.set _ _,hP.1.ZX hb _ _,hP.2.SQ _⟩,trivial⟩
 try simp only[pu,s0,s1]
 try simp only[pn]
 intro vv w2 hR hP _
 obtain⟨m2,i2⟩:Z9 w2 L ((s.by who).step (A+1+j) (s.wd (A+1+j)))/\ZM w2 b o T (cs.setIfInBounds (o+10) (.int .u64 u)) { a with ce:=u }:=hP
 have o2:Only (L.and b) w w2:=o1.drew.trans hR.only
 have v2:=v1.dn hR.only hbv hbb
 have q2:=q1.drew.only hR.only (fun hh=>hh.elim lS bS)
 have s2:Same o 24 cs (cs.setIfInBounds (o+10) (.int .u64 u)):=Same.refl.set (by omega) _
 obtain⟨g0,g1,g2,g3,g4,g5,g6,g7,g8⟩:=id v2
 clear hR o1 v1 m1 i1 q1
 go_wp2_with (first
  | (go_at_call 14;refine(YE m2 _ _ _ _ _ _ _ _ σ HS.out).mono ?_;rintro e w3 ⟨rfl,b3⟩;have i3:=i2.grown b3;have k8:=i3.N9;have kf:=i3.fz;have i4:=i3.SN σ;have m4:=(m2.below b3).ZX hb (o+11) (iV σ);have q4:=(q2.grown b3).other bS (o+11) (iV σ);have o4:=(o2.trans (Only.ZZ b3)).set (o+11) (iV σ);have k7:(w3.setCell ⟨b,o+11,none⟩ (iV σ)).cell? ⟨b,o+10,none⟩=some (.int .u64 u):=i4.VQ)
  | (go_at_call 26;refine(cc _).mono ?_;rintro e w5 ⟨rfl,b5⟩;have i6:=(i4.grown b5).grown (ZY _ (.cells #[iV z,.bool fz,iV vr] 79));have m6:=(m4.below b5).alloc (.cells #[iV z,.bool fz,iV vr] 79);have o6:=(o4.trans (Only.ZZ b5)).alloc (.cells #[iV z,.bool fz,iV vr] 79);have q6:=(q4.grown b5).grown (ZY _ (.cells #[iV z,.bool fz,iV vr] 79));have c6:=At.new w5 79 [iV z,.bool fz,iV vr];have z0:=c6.at0 0 rfl;have z1:=c6.at0 1 rfl;have z2:=c6.at0 2 rfl)
  | (go_at_call 193;refine(XJ i6 z fz vr).mono ?_;rintro e w7 ⟨rfl,b7⟩;rw[show (decide (({ a with ce:=u,ld:=σ }:CV).kd=1) || ({ a with ce:=u,ld:=σ }:CV).S9 z)=true from HR.out];have i7:=i6.grown b7;have m7:=m6.below b7;have o7:=o6.trans (Only.ZZ b7);have q7:=q6.grown b7;have c7:=c6.grown b7;have t0:=q7.at0 0 rfl;have t3:=q7.at0 3 rfl;have t1:=c7.at0 1 rfl;have t2:=c7.at0 2 rfl;have k0:=i7.Zz;have lf:=i7.fz))
 go_end0
 exact⟨rfl,_,_,_,m7.ZX hb _ _,o7.set _ _,i7.Zh 3,(s2.set (by omega) _).set (by omega) _,rfl,rfl⟩
theorem LC {w:World} {L:Loc} {s:Mm} {b o:Nat} {T:TypeId} {cs:Array Value} {t n k m:Nat} {g p r:Int} {a:CV} (h:Z9 w L s) (hb:¬ L.has b) (hi:ZM w b o T cs a) (who:Int) {x:Nat} {G:Int} {st:Int} {A:Nat} {Gs V:Int} (hs:Zf a.se st A Gs V) {j:Nat} (hix:a.ix=j) (j1:j<=16) (hn:(A+1+j)<s.n) {u z vr:Int} {fz:Bool} (hu:s.wd (A+1+j)=u) (hc:CellIs u z fz vr) {σ:Nat} (hσ:wrap64 (s.steps+1)=σ) (hr:(decide (a.kd=1) || a.S9 z)=false) (h2:st=2) (hf:fz=true) (hv:vr=V) :
 Calls Tryz.prog 187 #[pP b o,eV t n k m g p r L.p who,.agg #[iV x,iV G]] w fun e w'=>e=.returned (.tuple #[])/\Yq L b o T cs w w' (fun s' a'=>s'=((s.by who).step (A+1+j) (s.wd (A+1+j)))/\a'={ a with ce:=u,ld:=σ,nx:=5 }):=by
 have HU:Hid (s.wd (A+1+j)=u):=hu
 have HS:Hid ((((s.by who).step (A+1+j) (s.wd (A+1+j)))).steps=σ):=hσ
 have HR:Hid ((decide (a.kd=1) || a.S9 z)=false):=hr
 have sw:=hs.call
 have cc:=hc.call
 have ab:(A:Int)<=1048575:=by have:=hs.ad;omega
 have HX:Hid (a.ix=j):=hix
 clear hu hs hc hσ hr hix
 subst hf
 have hv:=hv.symm
 subst hv
 subst h2
 obtain⟨hbv,hbb⟩:=nb h hi.lt
 have Zn:¬ L.has (w.heap.size+1):=fun hh=>by have:=h.lt _ hh;omega
 have Zk:¬ w.heap.size+1=b:=fun hh=>by have:=hi.lt;omega
 have i0:=(hi.grown (ZY _ (.cells #[iV t,iV n,iV k,iV m,iV g,iV p,iV r,pP L.p 0,iV who] 27))).grown (ZY _ (.cells #[iV x,iV G] 75))
 have k3:=i0.Yc
 go_enter Tryz.func187,Tryz.ntmps187
 go_wp2_with (go_at_call 28;refine(sw _).mono ?_;rintro e w3 ⟨rfl,b3⟩)
 have q0:=At.new w3 83 [iV 2,iV A,iV Gs,iV V]
 obtain⟨S,hS⟩:∃ S,w3.heap.size=S:=⟨_,rfl⟩
 have lS:¬ L.has S:=fun hh=>by have:=h.lt _ hh;have:=b3.size;simp only[Go.Deep.nblk_alloc] at this;omega
 have bS:S≠b:=by have:=hi.lt;have:=b3.size;simp only[Go.Deep.nblk_alloc] at this;omega
 rw[hS] at q0 ⊢
 refine ZW (fun W=>Z9 W L s/\ZM W b o T cs a/\ZU W w.heap.size t n k m g p r L.p who/\At W S 0 83 _ [iV 2,iV A,iV Gs,iV V]/\Only (L.and b) w W) ⟨(((h.alloc _).alloc _).below b3).alloc _,(i0.grown b3).grown (ZY _ _),((ZU.YF _).grown b3).grown (ZY _ _),q0,((((Only.refl _ _).alloc _).alloc _).trans (Only.ZZ b3)).alloc _⟩ ?_
 clear b3 i0 k3 sw q0 hS
 rintro W ⟨m1,i1,v1,q1,o1⟩
 apply VT (R:=ZV L b (o+10)) (Qg L b o T cs (cs.setIfInBounds (o+10) (.int .u64 u)) s ((s.by who).step (A+1+j) (s.wd (A+1+j))) a { a with ce:=u }) [5,8] Ua Yl ⟨m1.drew,i1.drew⟩;. kernel_rfl
 apply pV;. intros;apply ol;go_simp;exact gl
 apply pV;. intro w' hR _;apply ol;have y:=(v1.dn hR.only hbv hbb).yy;go_simp;exact gl
 apply pV;. intros;apply ol;go_simp;exact gl
 apply pV;. intro w' hR _;apply ol;have z0:=(q1.drew.only hR.only (fun hh=>hh.elim lS bS)).at0 0 rfl;have z1:=(q1.drew.only hR.only (fun hh=>hh.elim lS bS)).at0 1 rfl;have z2:=(q1.drew.only hR.only (fun hh=>hh.elim lS bS)).at0 2 rfl;have z3:=(q1.drew.only hR.only (fun hh=>hh.elim lS bS)).at0 3 rfl;go_simp;exact gl
 apply pV (c:=iV (((A+1+j):Nat):Int));. intro w' hR _;apply ol;go_simp;refine(Yi 2 A Gs V j (hR.keep (j:=o+3) (by omega) (by have z:=i1.drew.SV;rwa [HX.out] at z)) (by omega) (by omega) (by omega) (by omega)).mono ?_;rintro e w'' ⟨rfl,b9⟩;exact⟨_,rfl,b9,congrArg (Value.int .i64) (by omega)⟩
 apply pV (c:=.int .u64 u);. intro w' hR _ hP;apply ol;go_simp;refine(ZF (s:=s) hP.1 _ _ _ _ _ _ _ _ (A+1+j) hn).mono ?_;rintro e w'' ⟨rfl,m2,o2⟩;exact⟨_,rfl,⟨ZV.Y7 o2 hb,m2,hP.2.only o2 hb⟩,by simp[Want.pred,HU.out]⟩
 try simp only[pu,s0,s1]
 iterate 2 (apply pV;. intros;apply ol;go_simp;exact gl)
 apply UD;. intro w' hR _ hP;apply ol;have z0:=hP.2.VQ;have z1:=hP.2.fz;go_simp;exact⟨⟨ZV.set _ _,hP.1.ZX hb _ _,hP.2.SQ _⟩,trivial⟩
 try simp only[pu,s0,s1]
 try simp only[pn]
 intro vv w2 hR hP _
 obtain⟨m2,i2⟩:Z9 w2 L ((s.by who).step (A+1+j) (s.wd (A+1+j)))/\ZM w2 b o T (cs.setIfInBounds (o+10) (.int .u64 u)) { a with ce:=u }:=hP
 have o2:Only (L.and b) w w2:=o1.drew.trans hR.only
 have v2:=v1.dn hR.only hbv hbb
 have q2:=q1.drew.only hR.only (fun hh=>hh.elim lS bS)
 have s2:Same o 24 cs (cs.setIfInBounds (o+10) (.int .u64 u)):=Same.refl.set (by omega) _
 obtain⟨g0,g1,g2,g3,g4,g5,g6,g7,g8⟩:=id v2
 clear hR o1 v1 m1 i1 q1
 go_wp2_with (first
  | (go_at_call 14;refine(YE m2 _ _ _ _ _ _ _ _ σ HS.out).mono ?_;rintro e w3 ⟨rfl,b3⟩;have i3:=i2.grown b3;have k8:=i3.N9;have kf:=i3.fz;have i4:=i3.SN σ;have m4:=(m2.below b3).ZX hb (o+11) (iV σ);have q4:=(q2.grown b3).other bS (o+11) (iV σ);have o4:=(o2.trans (Only.ZZ b3)).set (o+11) (iV σ);have k7:(w3.setCell ⟨b,o+11,none⟩ (iV σ)).cell? ⟨b,o+10,none⟩=some (.int .u64 u):=i4.VQ)
  | (go_at_call 26;refine(cc _).mono ?_;rintro e w5 ⟨rfl,b5⟩;have i6:=(i4.grown b5).grown (ZY _ (.cells #[iV z,.bool true,iV V] 79));have m6:=(m4.below b5).alloc (.cells #[iV z,.bool true,iV V] 79);have o6:=(o4.trans (Only.ZZ b5)).alloc (.cells #[iV z,.bool true,iV V] 79);have q6:=(q4.grown b5).grown (ZY _ (.cells #[iV z,.bool true,iV V] 79));have c6:=At.new w5 79 [iV z,.bool true,iV V];have z0:=c6.at0 0 rfl;have z1:=c6.at0 1 rfl;have z2:=c6.at0 2 rfl)
  | (go_at_call 193;refine(XJ i6 z true V).mono ?_;rintro e w7 ⟨rfl,b7⟩;rw[show (decide (({ a with ce:=u,ld:=σ }:CV).kd=1) || ({ a with ce:=u,ld:=σ }:CV).S9 z)=false from HR.out];have i7:=i6.grown b7;have m7:=m6.below b7;have o7:=o6.trans (Only.ZZ b7);have q7:=q6.grown b7;have c7:=c6.grown b7;have t0:=q7.at0 0 rfl;have t3:=q7.at0 3 rfl;have t1:=c7.at0 1 rfl;have t2:=c7.at0 2 rfl;have k0:=i7.Zz;have lf:=i7.fz))
 go_end0
 exact⟨rfl,_,_,_,m7.ZX hb _ _,o7.set _ _,i7.Zh 5,(s2.set (by omega) _).set (by omega) _,rfl,rfl⟩
theorem Lu {w:World} {L:Loc} {s:Mm} {b o:Nat} {T:TypeId} {cs:Array Value} {t n k m:Nat} {g p r:Int} {a:CV} (h:Z9 w L s) (hb:¬ L.has b) (hi:ZM w b o T cs a) (who:Int) {x:Nat} {G:Int} {st:Int} {A:Nat} {Gs V:Int} (hs:Zf a.se st A Gs V) {j:Nat} (hix:a.ix=j) (j1:j<=16) (hn:(A+1+j)<s.n) {u z vr:Int} {fz:Bool} (hu:s.wd (A+1+j)=u) (hc:CellIs u z fz vr) {σ:Nat} (hσ:wrap64 (s.steps+1)=σ) (hr:(decide (a.kd=1) || a.S9 z)=false) (h4:st≠4) (h2:st≠2) (hf:fz=true) (hv:vr=V) :
 Calls Tryz.prog 187 #[pP b o,eV t n k m g p r L.p who,.agg #[iV x,iV G]] w fun e w'=>e=.returned (.tuple #[])/\Yq L b o T cs w w' (fun s' a'=>s'=((s.by who).step (A+1+j) (s.wd (A+1+j)))/\a'={ a with ce:=u,ld:=σ,nx:=0 }):=by
 have HU:Hid (s.wd (A+1+j)=u):=hu
 have HS:Hid ((((s.by who).step (A+1+j) (s.wd (A+1+j)))).steps=σ):=hσ
 have HR:Hid ((decide (a.kd=1) || a.S9 z)=false):=hr
 have sw:=hs.call
 have cc:=hc.call
 have ab:(A:Int)<=1048575:=by have:=hs.ad;omega
 have HX:Hid (a.ix=j):=hix
 clear hu hs hc hσ hr hix
 subst hf
 have hv:=hv.symm
 subst hv
 obtain⟨hbv,hbb⟩:=nb h hi.lt
 have Zn:¬ L.has (w.heap.size+1):=fun hh=>by have:=h.lt _ hh;omega
 have Zk:¬ w.heap.size+1=b:=fun hh=>by have:=hi.lt;omega
 have i0:=(hi.grown (ZY _ (.cells #[iV t,iV n,iV k,iV m,iV g,iV p,iV r,pP L.p 0,iV who] 27))).grown (ZY _ (.cells #[iV x,iV G] 75))
 have k3:=i0.Yc
 go_enter Tryz.func187,Tryz.ntmps187
 go_wp2_with (go_at_call 28;refine(sw _).mono ?_;rintro e w3 ⟨rfl,b3⟩)
 have q0:=At.new w3 83 [iV st,iV A,iV Gs,iV V]
 obtain⟨S,hS⟩:∃ S,w3.heap.size=S:=⟨_,rfl⟩
 have lS:¬ L.has S:=fun hh=>by have:=h.lt _ hh;have:=b3.size;simp only[Go.Deep.nblk_alloc] at this;omega
 have bS:S≠b:=by have:=hi.lt;have:=b3.size;simp only[Go.Deep.nblk_alloc] at this;omega
 rw[hS] at q0 ⊢
 refine ZW (fun W=>Z9 W L s/\ZM W b o T cs a/\ZU W w.heap.size t n k m g p r L.p who/\At W S 0 83 _ [iV st,iV A,iV Gs,iV V]/\Only (L.and b) w W) ⟨(((h.alloc _).alloc _).below b3).alloc _,(i0.grown b3).grown (ZY _ _),((ZU.YF _).grown b3).grown (ZY _ _),q0,((((Only.refl _ _).alloc _).alloc _).trans (Only.ZZ b3)).alloc _⟩ ?_
 clear b3 i0 k3 sw q0 hS
 rintro W ⟨m1,i1,v1,q1,o1⟩
 apply VT (R:=ZV L b (o+10)) (Qg L b o T cs (cs.setIfInBounds (o+10) (.int .u64 u)) s ((s.by who).step (A+1+j) (s.wd (A+1+j))) a { a with ce:=u }) [5,8] Ua Yl ⟨m1.drew,i1.drew⟩;. kernel_rfl
 apply pV;. intros;apply ol;go_simp;exact gl
 apply pV;. intro w' hR _;apply ol;have y:=(v1.dn hR.only hbv hbb).yy;go_simp;exact gl
 apply pV;. intros;apply ol;go_simp;exact gl
 apply pV;. intro w' hR _;apply ol;have z0:=(q1.drew.only hR.only (fun hh=>hh.elim lS bS)).at0 0 rfl;have z1:=(q1.drew.only hR.only (fun hh=>hh.elim lS bS)).at0 1 rfl;have z2:=(q1.drew.only hR.only (fun hh=>hh.elim lS bS)).at0 2 rfl;have z3:=(q1.drew.only hR.only (fun hh=>hh.elim lS bS)).at0 3 rfl;go_simp;exact gl
 apply pV (c:=iV (((A+1+j):Nat):Int));. intro w' hR _;apply ol;go_simp;refine(Yi st A Gs V j (hR.keep (j:=o+3) (by omega) (by have z:=i1.drew.SV;rwa [HX.out] at z)) (by omega) (by omega) (by omega) (by omega)).mono ?_;rintro e w'' ⟨rfl,b9⟩;exact⟨_,rfl,b9,congrArg (Value.int .i64) (by omega)⟩
 apply pV (c:=.int .u64 u);. intro w' hR _ hP;apply ol;go_simp;refine(ZF (s:=s) hP.1 _ _ _ _ _ _ _ _ (A+1+j) hn).mono ?_;rintro e w'' ⟨rfl,m2,o2⟩;exact⟨_,rfl,⟨ZV.Y7 o2 hb,m2,hP.2.only o2 hb⟩,by simp[Want.pred,HU.out]⟩
 try simp only[pu,s0,s1]
 iterate 2 (apply pV;. intros;apply ol;go_simp;exact gl)
 apply UD;. intro w' hR _ hP;apply ol;have z0:=hP.2.VQ;have z1:=hP.2.fz;go_simp;exact⟨⟨ZV.set _ _,hP.1.ZX hb _ _,hP.2.SQ _⟩,trivial⟩
 try simp only[pu,s0,s1]
 try simp only[pn]
 intro vv w2 hR hP _
 obtain⟨m2,i2⟩:Z9 w2 L ((s.by who).step (A+1+j) (s.wd (A+1+j)))/\ZM w2 b o T (cs.setIfInBounds (o+10) (.int .u64 u)) { a with ce:=u }:=hP
 have o2:Only (L.and b) w w2:=o1.drew.trans hR.only
 have v2:=v1.dn hR.only hbv hbb
 have q2:=q1.drew.only hR.only (fun hh=>hh.elim lS bS)
 have s2:Same o 24 cs (cs.setIfInBounds (o+10) (.int .u64 u)):=Same.refl.set (by omega) _
 obtain⟨g0,g1,g2,g3,g4,g5,g6,g7,g8⟩:=id v2
 clear hR o1 v1 m1 i1 q1
 go_wp2_with (first
  | (go_at_call 14;refine(YE m2 _ _ _ _ _ _ _ _ σ HS.out).mono ?_;rintro e w3 ⟨rfl,b3⟩;have i3:=i2.grown b3;have k8:=i3.N9;have kf:=i3.fz;have i4:=i3.SN σ;have m4:=(m2.below b3).ZX hb (o+11) (iV σ);have q4:=(q2.grown b3).other bS (o+11) (iV σ);have o4:=(o2.trans (Only.ZZ b3)).set (o+11) (iV σ);have k7:(w3.setCell ⟨b,o+11,none⟩ (iV σ)).cell? ⟨b,o+10,none⟩=some (.int .u64 u):=i4.VQ)
  | (go_at_call 26;refine(cc _).mono ?_;rintro e w5 ⟨rfl,b5⟩;have i6:=(i4.grown b5).grown (ZY _ (.cells #[iV z,.bool true,iV V] 79));have m6:=(m4.below b5).alloc (.cells #[iV z,.bool true,iV V] 79);have o6:=(o4.trans (Only.ZZ b5)).alloc (.cells #[iV z,.bool true,iV V] 79);have q6:=(q4.grown b5).grown (ZY _ (.cells #[iV z,.bool true,iV V] 79));have c6:=At.new w5 79 [iV z,.bool true,iV V];have z0:=c6.at0 0 rfl;have z1:=c6.at0 1 rfl;have z2:=c6.at0 2 rfl)
  | (go_at_call 193;refine(XJ i6 z true V).mono ?_;rintro e w7 ⟨rfl,b7⟩;rw[show (decide (({ a with ce:=u,ld:=σ }:CV).kd=1) || ({ a with ce:=u,ld:=σ }:CV).S9 z)=false from HR.out];have i7:=i6.grown b7;have m7:=m6.below b7;have o7:=o6.trans (Only.ZZ b7);have q7:=q6.grown b7;have c7:=c6.grown b7;have t0:=q7.at0 0 rfl;have t3:=q7.at0 3 rfl;have t1:=c7.at0 1 rfl;have t2:=c7.at0 2 rfl;have k0:=i7.Zz;have lf:=i7.fz))
 go_end0
 exact⟨rfl,_,_,_,m7.ZX hb _ _,o7.set _ _,i7.Zh 0,(s2.set (by omega) _).set (by omega) _,rfl,rfl⟩
theorem Lt {w:World} {L:Loc} {s:Mm} {b o:Nat} {T:TypeId} {cs:Array Value} {t n k m:Nat} {g p r:Int} {a:CV} (h:Z9 w L s) (hb:¬ L.has b) (hi:ZM w b o T cs a) (who:Int) {x:Nat} {G:Int} {st:Int} {A:Nat} {Gs V:Int} (hs:Zf a.se st A Gs V) {j:Nat} (hix:a.ix=j) (j1:j<=16) (hn:(A+1+j)<s.n) {u z vr:Int} {fz:Bool} (hu:s.wd (A+1+j)=u) (hc:CellIs u z fz vr) {σ:Nat} (hσ:wrap64 (s.steps+1)=σ) (hr:(decide (a.kd=1) || a.S9 z)=false) (h4:st≠4) (hf:fz=true) (hv:¬ vr=V) (hge:vr≥V) :
 Calls Tryz.prog 187 #[pP b o,eV t n k m g p r L.p who,.agg #[iV x,iV G]] w fun e w'=>e=.returned (.tuple #[])/\Yq L b o T cs w w' (fun s' a'=>s'=((s.by who).step (A+1+j) (s.wd (A+1+j)))/\a'={ a with ce:=u,ld:=σ,nx:=0 }):=by
 have HU:Hid (s.wd (A+1+j)=u):=hu
 have HS:Hid ((((s.by who).step (A+1+j) (s.wd (A+1+j)))).steps=σ):=hσ
 have HR:Hid ((decide (a.kd=1) || a.S9 z)=false):=hr
 have sw:=hs.call
 have cc:=hc.call
 have ab:(A:Int)<=1048575:=by have:=hs.ad;omega
 have HX:Hid (a.ix=j):=hix
 clear hu hs hc hσ hr hix
 subst hf
 obtain⟨hbv,hbb⟩:=nb h hi.lt
 have Zn:¬ L.has (w.heap.size+1):=fun hh=>by have:=h.lt _ hh;omega
 have Zk:¬ w.heap.size+1=b:=fun hh=>by have:=hi.lt;omega
 have i0:=(hi.grown (ZY _ (.cells #[iV t,iV n,iV k,iV m,iV g,iV p,iV r,pP L.p 0,iV who] 27))).grown (ZY _ (.cells #[iV x,iV G] 75))
 have k3:=i0.Yc
 go_enter Tryz.func187,Tryz.ntmps187
 go_wp2_with (go_at_call 28;refine(sw _).mono ?_;rintro e w3 ⟨rfl,b3⟩)
 have q0:=At.new w3 83 [iV st,iV A,iV Gs,iV V]
 obtain⟨S,hS⟩:∃ S,w3.heap.size=S:=⟨_,rfl⟩
 have lS:¬ L.has S:=fun hh=>by have:=h.lt _ hh;have:=b3.size;simp only[Go.Deep.nblk_alloc] at this;omega
 have bS:S≠b:=by have:=hi.lt;have:=b3.size;simp only[Go.Deep.nblk_alloc] at this;omega
 rw[hS] at q0 ⊢
 refine ZW (fun W=>Z9 W L s/\ZM W b o T cs a/\ZU W w.heap.size t n k m g p r L.p who/\At W S 0 83 _ [iV st,iV A,iV Gs,iV V]/\Only (L.and b) w W) ⟨(((h.alloc _).alloc _).below b3).alloc _,(i0.grown b3).grown (ZY _ _),((ZU.YF _).grown b3).grown (ZY _ _),q0,((((Only.refl _ _).alloc _).alloc _).trans (Only.ZZ b3)).alloc _⟩ ?_
 clear b3 i0 k3 sw q0 hS
 rintro W ⟨m1,i1,v1,q1,o1⟩
 apply VT (R:=ZV L b (o+10)) (Qg L b o T cs (cs.setIfInBounds (o+10) (.int .u64 u)) s ((s.by who).step (A+1+j) (s.wd (A+1+j))) a { a with ce:=u }) [5,8] Ua Yl ⟨m1.drew,i1.drew⟩;. kernel_rfl
 apply pV;. intros;apply ol;go_simp;exact gl
 apply pV;. intro w' hR _;apply ol;have y:=(v1.dn hR.only hbv hbb).yy;go_simp;exact gl
 apply pV;. intros;apply ol;go_simp;exact gl
 apply pV;. intro w' hR _;apply ol;have z0:=(q1.drew.only hR.only (fun hh=>hh.elim lS bS)).at0 0 rfl;have z1:=(q1.drew.only hR.only (fun hh=>hh.elim lS bS)).at0 1 rfl;have z2:=(q1.drew.only hR.only (fun hh=>hh.elim lS bS)).at0 2 rfl;have z3:=(q1.drew.only hR.only (fun hh=>hh.elim lS bS)).at0 3 rfl;go_simp;exact gl
 apply pV (c:=iV (((A+1+j):Nat):Int));. intro w' hR _;apply ol;go_simp;refine(Yi st A Gs V j (hR.keep (j:=o+3) (by omega) (by have z:=i1.drew.SV;rwa [HX.out] at z)) (by omega) (by omega) (by omega) (by omega)).mono ?_;rintro e w'' ⟨rfl,b9⟩;exact⟨_,rfl,b9,congrArg (Value.int .i64) (by omega)⟩
 apply pV (c:=.int .u64 u);. intro w' hR _ hP;apply ol;go_simp;refine(ZF (s:=s) hP.1 _ _ _ _ _ _ _ _ (A+1+j) hn).mono ?_;rintro e w'' ⟨rfl,m2,o2⟩;exact⟨_,rfl,⟨ZV.Y7 o2 hb,m2,hP.2.only o2 hb⟩,by simp[Want.pred,HU.out]⟩
 try simp only[pu,s0,s1]
 iterate 2 (apply pV;. intros;apply ol;go_simp;exact gl)
 apply UD;. intro w' hR _ hP;apply ol;have z0:=hP.2.VQ;have z1:=hP.2.fz;go_simp;exact⟨⟨ZV.set _ _,hP.1.ZX hb _ _,hP.2.SQ _⟩,trivial⟩
 try simp only[pu,s0,s1]
 try simp only[pn]
 intro vv w2 hR hP _
 obtain⟨m2,i2⟩:Z9 w2 L ((s.by who).step (A+1+j) (s.wd (A+1+j)))/\ZM w2 b o T (cs.setIfInBounds (o+10) (.int .u64 u)) { a with ce:=u }:=hP
 have o2:Only (L.and b) w w2:=o1.drew.trans hR.only
 have v2:=v1.dn hR.only hbv hbb
 have q2:=q1.drew.only hR.only (fun hh=>hh.elim lS bS)
 have s2:Same o 24 cs (cs.setIfInBounds (o+10) (.int .u64 u)):=Same.refl.set (by omega) _
 obtain⟨g0,g1,g2,g3,g4,g5,g6,g7,g8⟩:=id v2
 clear hR o1 v1 m1 i1 q1
 go_wp2_with (first
  | (go_at_call 14;refine(YE m2 _ _ _ _ _ _ _ _ σ HS.out).mono ?_;rintro e w3 ⟨rfl,b3⟩;have i3:=i2.grown b3;have k8:=i3.N9;have kf:=i3.fz;have i4:=i3.SN σ;have m4:=(m2.below b3).ZX hb (o+11) (iV σ);have q4:=(q2.grown b3).other bS (o+11) (iV σ);have o4:=(o2.trans (Only.ZZ b3)).set (o+11) (iV σ);have k7:(w3.setCell ⟨b,o+11,none⟩ (iV σ)).cell? ⟨b,o+10,none⟩=some (.int .u64 u):=i4.VQ)
  | (go_at_call 26;refine(cc _).mono ?_;rintro e w5 ⟨rfl,b5⟩;have i6:=(i4.grown b5).grown (ZY _ (.cells #[iV z,.bool true,iV vr] 79));have m6:=(m4.below b5).alloc (.cells #[iV z,.bool true,iV vr] 79);have o6:=(o4.trans (Only.ZZ b5)).alloc (.cells #[iV z,.bool true,iV vr] 79);have q6:=(q4.grown b5).grown (ZY _ (.cells #[iV z,.bool true,iV vr] 79));have c6:=At.new w5 79 [iV z,.bool true,iV vr];have z0:=c6.at0 0 rfl;have z1:=c6.at0 1 rfl;have z2:=c6.at0 2 rfl)
  | (go_at_call 193;refine(XJ i6 z true vr).mono ?_;rintro e w7 ⟨rfl,b7⟩;rw[show (decide (({ a with ce:=u,ld:=σ }:CV).kd=1) || ({ a with ce:=u,ld:=σ }:CV).S9 z)=false from HR.out];have i7:=i6.grown b7;have m7:=m6.below b7;have o7:=o6.trans (Only.ZZ b7);have q7:=q6.grown b7;have c7:=c6.grown b7;have t0:=q7.at0 0 rfl;have t3:=q7.at0 3 rfl;have t1:=c7.at0 1 rfl;have t2:=c7.at0 2 rfl;have k0:=i7.Zz;have lf:=i7.fz))
 go_end0
 exact⟨rfl,_,_,_,m7.ZX hb _ _,o7.set _ _,i7.Zh 0,(s2.set (by omega) _).set (by omega) _,rfl,rfl⟩
theorem Ls {w:World} {L:Loc} {s:Mm} {b o:Nat} {T:TypeId} {cs:Array Value} {t n k m:Nat} {g p r:Int} {a:CV} (h:Z9 w L s) (hb:¬ L.has b) (hi:ZM w b o T cs a) (who:Int) {x:Nat} {G:Int} {st:Int} {A:Nat} {Gs V:Int} (hs:Zf a.se st A Gs V) {j:Nat} (hix:a.ix=j) (j1:j<=16) (hn:(A+1+j)<s.n) {u z vr:Int} {fz:Bool} (hu:s.wd (A+1+j)=u) (hc:CellIs u z fz vr) {σ:Nat} (hσ:wrap64 (s.steps+1)=σ) (hr:(decide (a.kd=1) || a.S9 z)=false) (h4:st≠4) (hf:fz=false) :
 Calls Tryz.prog 187 #[pP b o,eV t n k m g p r L.p who,.agg #[iV x,iV G]] w fun e w'=>e=.returned (.tuple #[])/\Yq L b o T cs w w' (fun s' a'=>s'=((s.by who).step (A+1+j) (s.wd (A+1+j)))/\a'={ a with ce:=u,ld:=σ,nx:=6 }):=by
 have HU:Hid (s.wd (A+1+j)=u):=hu
 have HS:Hid ((((s.by who).step (A+1+j) (s.wd (A+1+j)))).steps=σ):=hσ
 have HR:Hid ((decide (a.kd=1) || a.S9 z)=false):=hr
 have sw:=hs.call
 have cc:=hc.call
 have ab:(A:Int)<=1048575:=by have:=hs.ad;omega
 have HX:Hid (a.ix=j):=hix
 clear hu hs hc hσ hr hix
 subst hf
 obtain⟨hbv,hbb⟩:=nb h hi.lt
 have Zn:¬ L.has (w.heap.size+1):=fun hh=>by have:=h.lt _ hh;omega
 have Zk:¬ w.heap.size+1=b:=fun hh=>by have:=hi.lt;omega
 have i0:=(hi.grown (ZY _ (.cells #[iV t,iV n,iV k,iV m,iV g,iV p,iV r,pP L.p 0,iV who] 27))).grown (ZY _ (.cells #[iV x,iV G] 75))
 have k3:=i0.Yc
 go_enter Tryz.func187,Tryz.ntmps187
 go_wp2_with (go_at_call 28;refine(sw _).mono ?_;rintro e w3 ⟨rfl,b3⟩)
 have q0:=At.new w3 83 [iV st,iV A,iV Gs,iV V]
 obtain⟨S,hS⟩:∃ S,w3.heap.size=S:=⟨_,rfl⟩
 have lS:¬ L.has S:=fun hh=>by have:=h.lt _ hh;have:=b3.size;simp only[Go.Deep.nblk_alloc] at this;omega
 have bS:S≠b:=by have:=hi.lt;have:=b3.size;simp only[Go.Deep.nblk_alloc] at this;omega
 rw[hS] at q0 ⊢
 refine ZW (fun W=>Z9 W L s/\ZM W b o T cs a/\ZU W w.heap.size t n k m g p r L.p who/\At W S 0 83 _ [iV st,iV A,iV Gs,iV V]/\Only (L.and b) w W) ⟨(((h.alloc _).alloc _).below b3).alloc _,(i0.grown b3).grown (ZY _ _),((ZU.YF _).grown b3).grown (ZY _ _),q0,((((Only.refl _ _).alloc _).alloc _).trans (Only.ZZ b3)).alloc _⟩ ?_
 clear b3 i0 k3 sw q0 hS
 rintro W ⟨m1,i1,v1,q1,o1⟩
 apply VT (R:=ZV L b (o+10)) (Qg L b o T cs (cs.setIfInBounds (o+10) (.int .u64 u)) s ((s.by who).step (A+1+j) (s.wd (A+1+j))) a { a with ce:=u }) [5,8] Ua Yl ⟨m1.drew,i1.drew⟩;. kernel_rfl
 apply pV;. intros;apply ol;go_simp;exact gl
 apply pV;. intro w' hR _;apply ol;have y:=(v1.dn hR.only hbv hbb).yy;go_simp;exact gl
 apply pV;. intros;apply ol;go_simp;exact gl
 apply pV;. intro w' hR _;apply ol;have z0:=(q1.drew.only hR.only (fun hh=>hh.elim lS bS)).at0 0 rfl;have z1:=(q1.drew.only hR.only (fun hh=>hh.elim lS bS)).at0 1 rfl;have z2:=(q1.drew.only hR.only (fun hh=>hh.elim lS bS)).at0 2 rfl;have z3:=(q1.drew.only hR.only (fun hh=>hh.elim lS bS)).at0 3 rfl;go_simp;exact gl
 apply pV (c:=iV (((A+1+j):Nat):Int));. intro w' hR _;apply ol;go_simp;refine(Yi st A Gs V j (hR.keep (j:=o+3) (by omega) (by have z:=i1.drew.SV;rwa [HX.out] at z)) (by omega) (by omega) (by omega) (by omega)).mono ?_;rintro e w'' ⟨rfl,b9⟩;exact⟨_,rfl,b9,congrArg (Value.int .i64) (by omega)⟩
 apply pV (c:=.int .u64 u);. intro w' hR _ hP;apply ol;go_simp;refine(ZF (s:=s) hP.1 _ _ _ _ _ _ _ _ (A+1+j) hn).mono ?_;rintro e w'' ⟨rfl,m2,o2⟩;exact⟨_,rfl,⟨ZV.Y7 o2 hb,m2,hP.2.only o2 hb⟩,by simp[Want.pred,HU.out]⟩
 try simp only[pu,s0,s1]
 iterate 2 (apply pV;. intros;apply ol;go_simp;exact gl)
 apply UD;. intro w' hR _ hP;apply ol;have z0:=hP.2.VQ;have z1:=hP.2.fz;go_simp;exact⟨⟨ZV.set _ _,hP.1.ZX hb _ _,hP.2.SQ _⟩,trivial⟩
 try simp only[pu,s0,s1]
 try simp only[pn]
 intro vv w2 hR hP _
 obtain⟨m2,i2⟩:Z9 w2 L ((s.by who).step (A+1+j) (s.wd (A+1+j)))/\ZM w2 b o T (cs.setIfInBounds (o+10) (.int .u64 u)) { a with ce:=u }:=hP
 have o2:Only (L.and b) w w2:=o1.drew.trans hR.only
 have v2:=v1.dn hR.only hbv hbb
 have q2:=q1.drew.only hR.only (fun hh=>hh.elim lS bS)
 have s2:Same o 24 cs (cs.setIfInBounds (o+10) (.int .u64 u)):=Same.refl.set (by omega) _
 obtain⟨g0,g1,g2,g3,g4,g5,g6,g7,g8⟩:=id v2
 clear hR o1 v1 m1 i1 q1
 go_wp2_with (first
  | (go_at_call 14;refine(YE m2 _ _ _ _ _ _ _ _ σ HS.out).mono ?_;rintro e w3 ⟨rfl,b3⟩;have i3:=i2.grown b3;have k8:=i3.N9;have kf:=i3.fz;have i4:=i3.SN σ;have m4:=(m2.below b3).ZX hb (o+11) (iV σ);have q4:=(q2.grown b3).other bS (o+11) (iV σ);have o4:=(o2.trans (Only.ZZ b3)).set (o+11) (iV σ);have k7:(w3.setCell ⟨b,o+11,none⟩ (iV σ)).cell? ⟨b,o+10,none⟩=some (.int .u64 u):=i4.VQ)
  | (go_at_call 26;refine(cc _).mono ?_;rintro e w5 ⟨rfl,b5⟩;have i6:=(i4.grown b5).grown (ZY _ (.cells #[iV z,.bool false,iV vr] 79));have m6:=(m4.below b5).alloc (.cells #[iV z,.bool false,iV vr] 79);have o6:=(o4.trans (Only.ZZ b5)).alloc (.cells #[iV z,.bool false,iV vr] 79);have q6:=(q4.grown b5).grown (ZY _ (.cells #[iV z,.bool false,iV vr] 79));have c6:=At.new w5 79 [iV z,.bool false,iV vr];have z0:=c6.at0 0 rfl;have z1:=c6.at0 1 rfl;have z2:=c6.at0 2 rfl)
  | (go_at_call 193;refine(XJ i6 z false vr).mono ?_;rintro e w7 ⟨rfl,b7⟩;rw[show (decide (({ a with ce:=u,ld:=σ }:CV).kd=1) || ({ a with ce:=u,ld:=σ }:CV).S9 z)=false from HR.out];have i7:=i6.grown b7;have m7:=m6.below b7;have o7:=o6.trans (Only.ZZ b7);have q7:=q6.grown b7;have c7:=c6.grown b7;have t0:=q7.at0 0 rfl;have t3:=q7.at0 3 rfl;have t1:=c7.at0 1 rfl;have t2:=c7.at0 2 rfl;have k0:=i7.Zz;have lf:=i7.fz))
 go_end0
 exact⟨rfl,_,_,_,m7.ZX hb _ _,o7.set _ _,i7.Zh 6,(s2.set (by omega) _).set (by omega) _,rfl,rfl⟩
theorem Io {w:World} {L:Loc} {s:Mm} {b o:Nat} {T:TypeId} {cs:Array Value} {t n k m:Nat} {g p r:Int} {a:CV} (h:Z9 w L s) (hb:¬ L.has b) (hi:ZM w b o T cs a) (who:Int) {x:Nat} {G:Int} {st:Int} {A:Nat} {Gs V:Int} (hs:Zf a.se st A Gs V) {j:Nat} (hix:a.ix=j) (j1:j<=16) (hn:(A+1+j)<s.n) {u z vr:Int} {fz:Bool} (hu:s.wd (A+1+j)=u) (hc:CellIs u z fz vr) {σ:Nat} (hσ:wrap64 (s.steps+1)=σ) (hr:(decide (a.kd=1) || a.S9 z)=false) (h4:st≠4) (hf:fz=true) (hv:¬ vr=V) (hge:¬ vr≥V) :
 Calls Tryz.prog 187 #[pP b o,eV t n k m g p r L.p who,.agg #[iV x,iV G]] w fun e w'=>e=.returned (.tuple #[])/\Yq L b o T cs w w' (fun s' a'=>s'=((s.by who).step (A+1+j) (s.wd (A+1+j)))/\a'={ a with ce:=u,ld:=σ,nx:=6 }):=by
 have HU:Hid (s.wd (A+1+j)=u):=hu
 have HS:Hid ((((s.by who).step (A+1+j) (s.wd (A+1+j)))).steps=σ):=hσ
 have HR:Hid ((decide (a.kd=1) || a.S9 z)=false):=hr
 have sw:=hs.call
 have cc:=hc.call
 have ab:(A:Int)<=1048575:=by have:=hs.ad;omega
 have HX:Hid (a.ix=j):=hix
 clear hu hs hc hσ hr hix
 subst hf
 obtain⟨hbv,hbb⟩:=nb h hi.lt
 have Zn:¬ L.has (w.heap.size+1):=fun hh=>by have:=h.lt _ hh;omega
 have Zk:¬ w.heap.size+1=b:=fun hh=>by have:=hi.lt;omega
 have i0:=(hi.grown (ZY _ (.cells #[iV t,iV n,iV k,iV m,iV g,iV p,iV r,pP L.p 0,iV who] 27))).grown (ZY _ (.cells #[iV x,iV G] 75))
 have k3:=i0.Yc
 go_enter Tryz.func187,Tryz.ntmps187
 go_wp2_with (go_at_call 28;refine(sw _).mono ?_;rintro e w3 ⟨rfl,b3⟩)
 have q0:=At.new w3 83 [iV st,iV A,iV Gs,iV V]
 obtain⟨S,hS⟩:∃ S,w3.heap.size=S:=⟨_,rfl⟩
 have lS:¬ L.has S:=fun hh=>by have:=h.lt _ hh;have:=b3.size;simp only[Go.Deep.nblk_alloc] at this;omega
 have bS:S≠b:=by have:=hi.lt;have:=b3.size;simp only[Go.Deep.nblk_alloc] at this;omega
 rw[hS] at q0 ⊢
 refine ZW (fun W=>Z9 W L s/\ZM W b o T cs a/\ZU W w.heap.size t n k m g p r L.p who/\At W S 0 83 _ [iV st,iV A,iV Gs,iV V]/\Only (L.and b) w W) ⟨(((h.alloc _).alloc _).below b3).alloc _,(i0.grown b3).grown (ZY _ _),((ZU.YF _).grown b3).grown (ZY _ _),q0,((((Only.refl _ _).alloc _).alloc _).trans (Only.ZZ b3)).alloc _⟩ ?_
 clear b3 i0 k3 sw q0 hS
 rintro W ⟨m1,i1,v1,q1,o1⟩
 apply VT (R:=ZV L b (o+10)) (Qg L b o T cs (cs.setIfInBounds (o+10) (.int .u64 u)) s ((s.by who).step (A+1+j) (s.wd (A+1+j))) a { a with ce:=u }) [5,8] Ua Yl ⟨m1.drew,i1.drew⟩;. kernel_rfl
 apply pV;. intros;apply ol;go_simp;exact gl
 apply pV;. intro w' hR _;apply ol;have y:=(v1.dn hR.only hbv hbb).yy;go_simp;exact gl
 apply pV;. intros;apply ol;go_simp;exact gl
 apply pV;. intro w' hR _;apply ol;have z0:=(q1.drew.only hR.only (fun hh=>hh.elim lS bS)).at0 0 rfl;have z1:=(q1.drew.only hR.only (fun hh=>hh.elim lS bS)).at0 1 rfl;have z2:=(q1.drew.only hR.only (fun hh=>hh.elim lS bS)).at0 2 rfl;have z3:=(q1.drew.only hR.only (fun hh=>hh.elim lS bS)).at0 3 rfl;go_simp;exact gl
 apply pV (c:=iV (((A+1+j):Nat):Int));. intro w' hR _;apply ol;go_simp;refine(Yi st A Gs V j (hR.keep (j:=o+3) (by omega) (by have z:=i1.drew.SV;rwa [HX.out] at z)) (by omega) (by omega) (by omega) (by omega)).mono ?_;rintro e w'' ⟨rfl,b9⟩;exact⟨_,rfl,b9,congrArg (Value.int .i64) (by omega)⟩
 apply pV (c:=.int .u64 u);. intro w' hR _ hP;apply ol;go_simp;refine(ZF (s:=s) hP.1 _ _ _ _ _ _ _ _ (A+1+j) hn).mono ?_;rintro e w'' ⟨rfl,m2,o2⟩;exact⟨_,rfl,⟨ZV.Y7 o2 hb,m2,hP.2.only o2 hb⟩,by simp[Want.pred,HU.out]⟩
 try simp only[pu,s0,s1]
 iterate 2 (apply pV;. intros;apply ol;go_simp;exact gl)
 apply UD;. intro w' hR _ hP;apply ol;have z0:=hP.2.VQ;have z1:=hP.2.fz;go_simp;exact⟨⟨ZV.set _ _,hP.1.ZX hb _ _,hP.2.SQ _⟩,trivial⟩
 try simp only[pu,s0,s1]
 try simp only[pn]
 intro vv w2 hR hP _
 obtain⟨m2,i2⟩:Z9 w2 L ((s.by who).step (A+1+j) (s.wd (A+1+j)))/\ZM w2 b o T (cs.setIfInBounds (o+10) (.int .u64 u)) { a with ce:=u }:=hP
 have o2:Only (L.and b) w w2:=o1.drew.trans hR.only
 have v2:=v1.dn hR.only hbv hbb
 have q2:=q1.drew.only hR.only (fun hh=>hh.elim lS bS)
 have s2:Same o 24 cs (cs.setIfInBounds (o+10) (.int .u64 u)):=Same.refl.set (by omega) _
 obtain⟨g0,g1,g2,g3,g4,g5,g6,g7,g8⟩:=id v2
 clear hR o1 v1 m1 i1 q1
 go_wp2_with (first
  | (go_at_call 14;refine(YE m2 _ _ _ _ _ _ _ _ σ HS.out).mono ?_;rintro e w3 ⟨rfl,b3⟩;have i3:=i2.grown b3;have k8:=i3.N9;have kf:=i3.fz;have i4:=i3.SN σ;have m4:=(m2.below b3).ZX hb (o+11) (iV σ);have q4:=(q2.grown b3).other bS (o+11) (iV σ);have o4:=(o2.trans (Only.ZZ b3)).set (o+11) (iV σ);have k7:(w3.setCell ⟨b,o+11,none⟩ (iV σ)).cell? ⟨b,o+10,none⟩=some (.int .u64 u):=i4.VQ)
  | (go_at_call 26;refine(cc _).mono ?_;rintro e w5 ⟨rfl,b5⟩;have i6:=(i4.grown b5).grown (ZY _ (.cells #[iV z,.bool true,iV vr] 79));have m6:=(m4.below b5).alloc (.cells #[iV z,.bool true,iV vr] 79);have o6:=(o4.trans (Only.ZZ b5)).alloc (.cells #[iV z,.bool true,iV vr] 79);have q6:=(q4.grown b5).grown (ZY _ (.cells #[iV z,.bool true,iV vr] 79));have c6:=At.new w5 79 [iV z,.bool true,iV vr];have z0:=c6.at0 0 rfl;have z1:=c6.at0 1 rfl;have z2:=c6.at0 2 rfl)
  | (go_at_call 193;refine(XJ i6 z true vr).mono ?_;rintro e w7 ⟨rfl,b7⟩;rw[show (decide (({ a with ce:=u,ld:=σ }:CV).kd=1) || ({ a with ce:=u,ld:=σ }:CV).S9 z)=false from HR.out];have i7:=i6.grown b7;have m7:=m6.below b7;have o7:=o6.trans (Only.ZZ b7);have q7:=q6.grown b7;have c7:=c6.grown b7;have t0:=q7.at0 0 rfl;have t3:=q7.at0 3 rfl;have t1:=c7.at0 1 rfl;have t2:=c7.at0 2 rfl;have k0:=i7.Zz;have lf:=i7.fz))
 go_end0
 exact⟨rfl,_,_,_,m7.ZX hb _ _,o7.set _ _,i7.Zh 6,(s2.set (by omega) _).set (by omega) _,rfl,rfl⟩
end
end Go.Proofs.YtpbghmeikcphnaaGreat
