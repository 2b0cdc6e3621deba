import Derived.Test.YtgehjolndmgffaaGreatDropGo
namespace Go.Proofs.YtgehjolndmgffaaGreat
open Go.RowKit
section
structure Ox where
 x:Nat
 g:Nat
 a:Nat
 i:Nat
 u:Nat
 Z:Nat
 κ:Nat
 own:Bool
structure Ox.ok (t n k m:Nat) (o:Ox):Prop where
 z1:1<=o.Z
 z2:o.Z<=16
 kz:ZR o.Z=o.κ
 k4:o.κ<4
 x1:o.x<n
 g1:1<=o.g
 g2:o.g<=65535
 ik:o.i<k
 uk:o.u+room o.κ<=m
 ae:o.a=base t n k m o.i+o.u
structure Ox.lies (q:Q) (o:Ox):Prop where
 nf:o.x∉q.F
 sw:q.sw o.x=Zq 1 o.a o.g 0
 hw:q.dw o.a=Zg 2 o.Z o.x o.g o.own
 nt:∀ j,1<=j->j<=o.Z->0<=q.dw (o.a+j)/\q.dw (o.a+j)<=1099511627775
 us:o.u+room o.κ<=(q.y.ck o.i).us
def Ox.apart (o o':Ox):Prop:=o.x≠o'.x/\(o.i≠o'.i\/o.u+room o.κ<=o'.u\/o'.u+room o'.κ<=o.u)
def Xd (i:Nat):List Ox->Nat
 | []=>0
 | o :: l=>(if o.i=i then room o.κ else 0)+Xd i l
structure Zn (t n k m:Nat) (q:Q) (nx:Nat) (gen:Nat->Nat) (ls:List Ox):Prop where
 al:Alone k q.y nx
 us:∀ i,i<k->(q.y.ck i).us<=m
 dw:∀ i,i<k->∀ u,(q.y.ck i).us<=u->u<m->q.dw (base t n k m i+u)=0
 sw:∀ x,x∈q.F->q.sw x=Zq 0 0 (gen x) 0
 gb:∀ x,x<n->1<=gen x/\gen x<=65535
 gn:∀ o∈ls,gen o.x=o.g
 ok:∀ o∈ls,o.ok t n k m
 li:∀ o∈ls,o.lies q
 pw:ls.Pairwise Ox.apart
 lv:∀ i,i<k->q.lv i=Xd i ls
 wb:∀ a,0<=q.dw a/\q.dw a<=18446744073709551615
theorem Qr (G:Nat) (hG:G<=65535):Zq 0 0 (G:Int) 0=G * 8388608:=by
 unfold Zq
 rw[Ze 0 3 (by omega) (by decide),Ze 0 20 (by omega) (by decide),Ze G 16 (by omega) (by simp;omega),Ze 0 22 (by omega) (by decide)]
 omega
theorem FI {G:Nat} (hG:G<=65535):ZE (Zq 0 0 (G:Int) 0)=G:=by
 rw[Qr G hG]
 unfold ZE
 omega
section
variable {t n k m κ nx:Nat} {q:Q} {gen:Nat->Nat} {ls:List Ox} {own:Bool}
def Q.ox (q:Q) (gen:Nat->Nat) (x a i Z κ:Nat) (own:Bool):Ox:=⟨x,gen x,a,i,(q.y.ck i).us,Z,κ,own⟩
theorem Zn.Gf (C:Zn t n k m q nx gen ls) {x:Nat} (hx:x∈q.F) (hn:x<n):ZE (q.sw x)=gen x:=by
 rw[C.sw x hx];exact FI (C.gb x hn).2
theorem Ox.YO {o:Ox} (h:o.ok t n k m) {j i u:Nat} (hj:j<=o.Z) (hu:u<m) (hd:o.i≠i\/o.u+room o.κ<=u):o.a+j≠base t n k m i+u:=by
 have hr:=Yv h.z1 h.kz
 have mY:=h.uk
 rw[h.ae,Nat.add_assoc]
 rcases Nat.lt_or_ge 0 (if o.i=i then 1 else 0) with e | e
 . have e':o.i=i:=by
    by_cases e':o.i=i
    . exact e'
    . rw[if_neg e'] at e;omega
   rw[e']
   have:o.u+room o.κ<=u:=hd.resolve_left (fun hh=>hh e')
   omega
 . have e':¬ o.i=i:=fun e'=>by rw[if_pos e'] at e;omega
   exact Vj (i:=o.i) (j:=i) (by omega) hu (fun hh=>e' hh.symm)
theorem Zn.made {Z:Nat} (C:Zn t n k m q nx gen ls) (hκ:κ<4) (hm:17<=m) (z1:1<=Z) (z2:Z<=16) (kz:ZR Z=κ) {x:Nat} {F:List Nat} (hF:q.F=x :: F) (hnd:q.F.Nodup) (hx:x<n) {y':Y} {nx' a i:Nat} (g:Df k m κ (base t n k m) q.y nx y' nx' (.XO a i)):Zn t n k m (q.made x F y' a i κ Z own) nx' gen (q.ox gen x a i Z κ own :: ls):=by
 have hr:=Yg κ
 have mX:=Yv z1 kz
 obtain⟨hik,ha,hu,⟨sp,hck⟩,hoth⟩:=g.F9 C.al hκ (by omega)
 have hg:=C.Gf (by rw[hF];simp) hx
 have hF':=hnd
 rw[hF] at hF'
 have Vw:x∉F:=(List.nodup_cons.1 hF').1
 have wU:∀ v,v∈F->v∈q.F:=fun v hv=>by rw[hF];exact List.mem_cons_of_mem _ hv
 have hne:∀ o∈ls,o.x≠x:=fun o ho e=>(C.li o ho).nf (by rw[hF,e];simp)
 have hsep:∀ o∈ls,o.i≠i\/o.u+room o.κ<=(q.y.ck i).us:=fun o ho=>by
  by_cases e:o.i=i
  . right
    have:=(C.li o ho).us
    rwa [e] at this
  . exact Or.inl e
 have wS:∀ j,(q.y.ck j).us<=(y'.ck j).us:=fun j=>by
  by_cases e:j=i
  . subst e;rw[hck];exact Nat.le_add_right _ _
  . rw[hoth j e];exact Nat.le_refl _
 refine⟨g.alone C.al hκ,fun j hj=>?_,fun j hj v h1 h2=>?_,fun v hv=>?_,C.gb,fun o ho=>?_,fun o ho=>?_,fun o ho=>?_,List.pairwise_cons.2 ⟨fun o ho=>⟨(hne o ho).symm,?_⟩,C.pw⟩,fun j hj=>?_,fun b=>?_⟩
 . show (y'.ck j).us<=m
   by_cases e:j=i
   . subst e;rw[hck];exact hu
   . rw[hoth j e];exact C.us j hj
 . show upd (upd q.dw a _) a _ _=0
   have h1':(y'.ck j).us<=v:=h1
   have hne:base t n k m j+v≠a:=by
    rw[ha]
    by_cases e:j=i
    . subst e;rw[hck] at h1'
      have h2':(q.y.ck j).us+room κ<=v:=h1'
      omega
    . exact Vj h2 (by omega) (Ne.symm e)
   rw[ZX _ _ _ _ hne,ZX _ _ _ _ hne]
   exact C.dw j hj v (Nat.le_trans (wS j) h1') h2
 . show upd q.sw x _ v=_
   have hv':v∈F:=hv
   have wX:v≠x:=fun e=>Vw (e ▸ hv')
   rw[ZX _ _ _ _ wX]
   exact C.sw v (wU v hv')
 . rcases List.mem_cons.1 ho with rfl | ho
   . rfl
   . exact C.gn o ho
 . rcases List.mem_cons.1 ho with rfl | ho
   . exact⟨z1,z2,kz,hκ,hx,(C.gb x hx).1,(C.gb x hx).2,hik,hu,ha⟩
   . exact C.ok o ho
 . rcases List.mem_cons.1 ho with rfl | ho
   . refine⟨Vw,?_,?_,fun j h1 h2=>?_,?_⟩
     . show upd q.sw x _ x=Zq 1 a (gen x:Nat) 0
       rw[upd_same,hg]
     . show upd (upd q.dw a _) a _ a=Zg 2 Z x (gen x:Nat) own
       rw[upd_same,hg]
     . have h2':j<=Z:=h2
       show 0<=upd (upd q.dw a _) a _ (a+j)/\upd (upd q.dw a _) a _ (a+j)<=_
       rw[ZX _ _ _ _ (by omega),ZX _ _ _ _ (by omega),ha,Nat.add_assoc,C.dw i hik _ (by omega) (by omega)]
       exact⟨Int.le_refl _,by decide⟩
     . show (q.y.ck i).us+room κ<=(y'.ck i).us
       rw[hck]
       exact Nat.le_refl _
   . have L:=C.li o ho
     have K:=C.ok o ho
     have hw:∀ j,j<=o.Z->o.a+j≠a:=fun j hj=>by rw[ha];exact Ox.YO K hj (by omega) (hsep o ho)
     refine⟨fun hh=>L.nf (wU _ hh),?_,?_,fun j h1 h2=>?_,Nat.le_trans L.us (wS _)⟩
     . show upd q.sw x _ o.x=_
       rw[ZX _ _ _ _ (hne o ho)];exact L.sw
     . show upd (upd q.dw a _) a _ o.a=_
       have:o.a≠a:=hw 0 (Nat.zero_le _)
       rw[ZX _ _ _ _ this,ZX _ _ _ _ this];exact L.hw
     . show 0<=upd (upd q.dw a _) a _ (o.a+j)/\upd (upd q.dw a _) a _ (o.a+j)<=_
       have:=hw j h2
       rw[ZX _ _ _ _ this,ZX _ _ _ _ this];exact L.nt j h1 h2
 . show i≠o.i\/(q.y.ck i).us+room κ<=o.u\/o.u+room o.κ<=(q.y.ck i).us
   rcases hsep o ho with e | e
   . exact Or.inl (Ne.symm e)
   . exact Or.inr (Or.inr e)
 . show upd q.lv i (q.lv i+room κ) j=(if i=j then room κ else 0)+Xd j ls
   by_cases e:j=i
   . subst e;rw[upd_same,if_pos rfl,C.lv j hj,Nat.add_comm]
   . rw[ZX _ _ _ _ e,if_neg (Ne.symm e),C.lv j hj,Nat.zero_add]
 . show 0<=upd (upd q.dw a _) a _ b/\upd (upd q.dw a _) a _ b<=_
   by_cases e:b=a
   . subst e;rw[upd_same];exact⟨(XC _ _ _ _ _).1,Int.le_trans (XC _ _ _ _ _).2 (by decide)⟩
   . rw[ZX _ _ _ _ e,ZX _ _ _ _ e];exact C.wb b
theorem Zn.back (C:Zn t n k m q nx gen ls) {x:Nat} {F:List Nat} (hF:q.F=x :: F):Zn t n k m (q.back x F q.y) nx gen ls :=
 ⟨C.al,C.us,C.dw,fun v hv=>C.sw v (by rw[hF];exact hv),C.gb,C.gn,C.ok,fun o ho=>⟨fun hh=>(C.li o ho).nf (by rw[hF];exact hh),(C.li o ho).sw,(C.li o ho).hw,(C.li o ho).nt,(C.li o ho).us⟩,C.pw,C.lv,C.wb⟩
end
section
variable {w0 w w':World} {L:Loc} {bE t n k m σ nx:Nat} {cg:Int} {s:Mm} {q:Q} {gen:Nat->Nat} {ls:List Ox} {own:Bool}
end
end
section
def ZN (v:Int):Nat:=(v / 8 % 1048576).toNat
def Zz (v:Int):Nat:=(v / 549755813888 % 4194304).toNat
def Ws (u:Int):Nat:=(u / 4 % 65536).toNat
def Yi (u:Int):Bool:=decide (u / 1125899906842624 % 2=1)
def frozenIn (u:Int) (V:Nat):Bool:=decide (9223372036854775808<=u) && decide (u / 1099511627776 % 4194304=(V:Int))
def froze (u:Int) (V:Nat):Int:=XU (u % 1099511627776) true V
def YC (v:Int):Int:=Zq 4 (ZN v) (ZE v) (Zz v+1)
def Y1 (cg:Int) (v:Int):Int:=if cg<=(ZE v:Int) then Zq 3 0 (ZE v) 0 else Zq 0 0 ((ZE v:Int)+1) 0
def Wd (v:Int):Prop:=0<=v/\v<=18446744073709551615
theorem Xx (v:Int) (h:Wd v):YJ v (v % 8) (ZN v) (ZE v) (Zz v) :=
 ⟨h.1,h.2,rfl,by unfold ZN;omega,by unfold ZE;omega,by unfold Zz;omega⟩
theorem PY (v:Int):ZN v<=1048575:=by unfold ZN;omega
theorem Gh (u:Int) (h:Wd u):Ul u (u % 4) (Ws u) (u / 262144 % 65536) (u / 17179869184 % 65536) (Yi u) :=
 ⟨h.1,h.2,rfl,by unfold Ws;omega,rfl,rfl,rfl⟩
theorem OA (a:Int) (f:Bool) (d:Int):Wd (XU a f d):=FH a f d
theorem W9 (a b c d:Int):Wd (Zq a b c d):=⟨(RP a b c d).1,Int.le_trans (RP a b c d).2 (by decide)⟩
theorem Qq (a b c d:Int) (o:Bool):Wd (Zg a b c d o):=⟨(XC a b c d o).1,Int.le_trans (XC a b c d o).2 (by decide)⟩
theorem NV (u:Int) (V:Nat):Wd (froze u V):=OA _ _ _
theorem RH (cg v:Int):Wd (Y1 cg v):=by unfold Y1;split <;> exact W9 _ _ _ _
inductive Hp where
 | go (v:Int) (Z j:Nat) (u:Option Int)
 | over (XO:Bool)
def Hp.ZB:Hp->Bool
 | .over _=>true
 | _=>false
def TM (cg:Int) (x:Nat) (q:Q) (v:Int):Q × Hp :=
 if q.sw x=v then ({ q with sw:=upd q.sw x (Y1 cg v) },.over true) else (q,.over false)
def YG (cg:Int) (x:Nat) (q:Q):Hp->Q × Hp
 | .go v Z j none=>if Z<=j then TM cg x q v else if frozenIn (q.dw (ZN v+1+j)) (Zz v) then (q,.go v Z (j+1) none) else (q,.go v Z j (some (q.dw (ZN v+1+j))))
 | .go v Z j (some u)=>if Z<=j then TM cg x q v else if q.dw (ZN v+1+j)=u then ({ q with dw:=upd q.dw (ZN v+1+j) (froze u (Zz v)) },.go v Z (j+1) none) else (q,.go v Z j none)
 | .over w=>(q,.over w)
def Hp.cells (x:Nat):Hp->List Value->Prop
 | .go v Z j none,l=>∃ se,l=Xl x v Z j se false false false
 | .go v Z j (some u),l=>l=Xl x v Z j u true false false
 | .over w,l=>∃ v Z j se ld,l=Xl x v Z j se ld true w
theorem Hp.Zu {x:Nat} {η:Hp} {l:List Value} (h:η.cells x l):l.length=8:=by
 cases η with
 | go v Z j u =>
  cases u with
  | none=>obtain⟨_,rfl⟩:=h;rfl
  | some u=>have h':l=_:=h;subst h';rfl
 | over w=>obtain⟨_,_,_,_,_,rfl⟩:=h;rfl
theorem Hp.X4 {x:Nat} {η:Hp} {l:List Value} (h:η.cells x l):l[6]?=some (.bool η.ZB):=by
 cases η with
 | go v Z j u =>
  cases u with
  | none=>obtain⟨_,rfl⟩:=h;rfl
  | some u=>have h':l=_:=h;subst h';rfl
 | over w=>obtain⟨_,_,_,_,_,rfl⟩:=h;rfl
structure Xe (t n k m:Nat) (v:Int) (Z i:Nat):Prop where
 wd:Wd v
 life:Y5 (v % 8)=true
 z1:1<=Z
 z2:Z<=16
 ik:i<k
 ad:∃ u,u+Z<m/\ZN v=base t n k m i+u
theorem Xe.c1 {t n k m:Nat} {v:Int} {Z i:Nat} (h:Xe t n k m v Z i):Zd t n k m (ZN v)=i:=by
 obtain⟨u,hu,e⟩:=h.ad
 rw[e];exact RJ (u:=u) h.ik (by have:=h.z1;omega)
theorem Xe.c2 {t n k m:Nat} {v:Int} {Z i:Nat} (h:Xe t n k m v Z i):Zd t n k m ((ZN v:Int)+(Z:Int))=i:=by
 obtain⟨u,hu,e⟩:=h.ad
 have:(ZN v:Int)+(Z:Int)=((base t n k m i+(u+Z):Nat):Int):=by rw[e];omega
 rw[this];exact RJ h.ik hu
theorem Xe.Ef {t n k m:Nat} {v:Int} {Z i:Nat} (h:Xe t n k m v Z i):6+t+n * 2+k * 3<=ZN v/\ZN v+Z<6+t+n * 2+k * 3+k * m:=by
 obtain⟨u,hu,e⟩:=h.ad
 have:=PG (t:=t) (n:=n) (m:=m) (u:=u) (r:=Z+1) h.ik (by omega)
 rw[e];omega
def Hp.good (t n k m:Nat):Hp->Prop
 | .go v Z _ u=>(∃ i,Xe t n k m v Z i)/\∀ u',u=some u'->Wd u'
 | .over _=>True
def Hp.at (t x:Nat):Hp->Nat
 | .go v Z j _=>if Z<=j then 6+t+x * 2 else ZN v+1+j
 | .over _=>0
section
variable {w:World} {L:Loc} {s:Mm} {b o:Nat} {T:TypeId} {cs:Array Value} {t n k m σ:Nat} {g p r:Int} {q:Q}
theorem UZ {s:Mm} {who:Int} {a:Nat} {old v:Int} (h:s.wd a=old):(s.by who).Wq a old v=(s.by who).step a v:=by
 show (if s.wd a=old then _ else _)=_
 rw[if_pos h]
theorem Wl {s:Mm} {who:Int} {a:Nat} {old v:Int} (h:s.wd a≠old):(s.by who).Wq a old v=(s.by who).step a (s.wd a):=by
 show (if s.wd a=old then _ else _)=_
 rw[if_neg h];rfl
set_option maxHeartbeats 400000 in
theorem VH (h:Z8 w L s) (hb:¬ L.has b) (hT:Y9 t n k m s σ q) (hG:Good t n k m g p r) (hσ:σ<1000000) (hdw:∀ a,Wd (q.dw a)) {x:Nat} (hx:x<n) (η:Hp) {l:List Value} (hi:At w b o T cs l) (hc:η.cells x l) (hg:η.good t n k m) (ho:η.ZB=false) (who:Int) (q':Q) (η':Hp) (hq:YG g x q η=(q',η')) (d:Bool) (hd:η'.ZB=d) :
 Calls Tryz.prog 186 #[pP b o,eV t n k m g p r L.p who] w fun e w'=>e=.returned (.bool d)/\Tt L b o T cs w w' (fun s' l'=>Y9 t n k m s' (σ+1) q'/\η'.cells x l'/\∃ v,s'=(s.by who).step (η.at t x) v):=by
 have hlen:ZI t n k m<=s.n:=by rw[hT.len];exact Nat.le_refl _
 have hlen':=hT.len
 have hxs:6+t+x * 2<s.n:=by omega
 cases η with
 | over=>cases ho
 | go v Z j u =>
  obtain⟨⟨i,O⟩,hu⟩:=hg
  have sl:=Xx v O.wd
  have ab:=PY v
  have z1:=O.z1
  have z2:=O.z2
  have hin:=O.Ef
  have gb:=UO v
  have g1:=hG.g1
  by_cases hj:Z<=j
  . have hq1:TM g x q v=(q',η'):=by
     cases u <;> simpa [YG,hj] using hq
    have hat:Hp.at t x (.go v Z j u)=6+t+x * 2:=by simp[Hp.at,hj]
    rw[hat]
    obtain⟨se,ld,rfl⟩:∃ se ld,l=Xl x v Z j se ld false false:=by
     cases u with
     | none=>obtain⟨se,rfl⟩:=hc;exact⟨se,false,rfl⟩
     | some u=>exact⟨u,true,hc⟩
    have key:∀ (nw:Int),Y1 g v=nw->(∀ w1:World,Z8 w1 L s->At w1 b o T cs (Xl x v Z j se ld false false)->Calls Tryz.prog 195 #[pP b o,eV t n k m g p r L.p who,.agg #[iV (v % 8),iV (ZN v),iV (ZE v),iV (Zz v)]] w1 fun e w'=>e=.returned (.tuple #[])/\Tt L b o T cs w1 w' (fun s' l'=>s'=(s.by who).Wq (6+t+x * 2) v nw/\l'=Xl x v Z j se ld true (decide (s.wd (6+t+x * 2)=v)))) ->
     Calls Tryz.prog 186 #[pP b o,eV t n k m g p r L.p who] w fun e w'=>e=.returned (.bool d)/\Tt L b o T cs w w' (fun s' l'=>Y9 t n k m s' (σ+1) q'/\η'.cells x l'/\∃ v,s'=(s.by who).step (6+t+x * 2) v):=by
     intro nw hnw hcall
     refine XB h hi who hG hlen hx sl O.life ab (by omega) (by omega) (i:=(i:Int)) (by omega) O.c1 O.c2 (decide_eq_true (by omega)) (Or.inl ⟨rfl,rfl⟩) _ d (fun s' l' P=>by rw[<- hd];exact Hp.X4 P.2.1) fun w1 m1 i1=>(hcall w1 m1 i1).mono ?_
     rintro e w' ⟨rfl,s',cs',l',m',o',i',q9,rfl,rfl⟩
     refine⟨rfl,_,cs',_,m',o',i',q9,?_⟩
     by_cases hw:q.sw x=v
     . have hw':s.wd (6+t+x * 2)=v:=by rw[hT.QA x hx];exact hw
       simp only[TM,hw,if_true] at hq1
       obtain⟨rfl,rfl⟩:=Prod.mk.inj hq1
       rw[UZ hw',decide_eq_true hw',<- hnw]
       exact⟨hT.shows hσ who hx _ (RH g v).1 (RH g v).2,⟨_,_,_,_,_,rfl⟩,_,rfl⟩
     . have hw':s.wd (6+t+x * 2)≠v:=by rw[hT.QA x hx];exact hw
       simp only[TM,hw,if_false] at hq1
       obtain⟨rfl,rfl⟩:=Prod.mk.inj hq1
       rw[Wl hw',decide_eq_false hw']
       exact⟨hT.same hσ who _,⟨_,_,_,_,_,rfl⟩,_,rfl⟩
    by_cases hl:g<=(ZE v:Int)
    . exact key _ (by unfold Y1;rw[if_pos hl]) fun w1 m1 i1=>NT m1 hb i1 who _ _ _ _ hG (by omega) (by omega) (Or.inr ⟨hl,rfl,rfl⟩) hx rfl hxs
    . exact key _ (by unfold Y1;rw[if_neg hl]) fun w1 m1 i1=>NT m1 hb i1 who _ _ _ _ hG (by omega) (by omega) (Or.inl ⟨by omega,rfl,rfl⟩) hx rfl hxs
  . have hat:Hp.at t x (.go v Z j u)=ZN v+1+j:=by simp[Hp.at,hj]
    rw[hat]
    have hn:ZN v+1+j<s.n:=by omega
    have hwd:s.wd (ZN v+1+j)=q.dw (ZN v+1+j):=hT.Jp _ (by omega)
    cases u with
    | none =>
     obtain⟨se,rfl⟩:=hc
     simp only[YG,hj,if_false] at hq
     have cell:CellIs (q.dw (ZN v+1+j)) _ _ _:=⟨(hdw _).1,(hdw _).2,rfl,rfl,rfl⟩
     by_cases hf:frozenIn (q.dw (ZN v+1+j)) (Zz v)=true
     . rw[if_pos hf] at hq
       obtain⟨rfl,rfl⟩:=Prod.mk.inj hq
       have hf':=hf
       unfold frozenIn at hf'
       rw[Bool.and_eq_true] at hf'
       obtain⟨f1,f2⟩:=hf'
       refine XB h hi who hG hlen hx sl O.life ab (by omega) (by omega) (i:=(i:Int)) (by omega) O.c1 O.c2 (decide_eq_false (by omega)) (Or.inr (Or.inr ⟨rfl,rfl,rfl⟩)) _ d (fun s' l' P=>by rw[<- hd];exact Hp.X4 P.2.1) fun w1 m1 i1=>(Ue m1 hb i1 who _ _ _ _ ab (by omega) hwd cell (Or.inl ⟨f1,(by rw[if_pos (of_decide_eq_true f1)];exact of_decide_eq_true f2),rfl,rfl⟩) hn).mono ?_
       rintro e w' ⟨rfl,s',cs',l',m',o',i',q9,rfl,rfl⟩
       exact⟨rfl,_,cs',_,m',o',i',q9,hT.same hσ who _,⟨_,rfl⟩,_,rfl⟩
     . rw[if_neg hf] at hq
       obtain⟨rfl,rfl⟩:=Prod.mk.inj hq
       unfold frozenIn at hf
       rw[Bool.and_eq_true] at hf
       by_cases f1:decide (9223372036854775808<=q.dw (ZN v+1+j))=true
       . refine XB h hi who hG hlen hx sl O.life ab (by omega) (by omega) (i:=(i:Int)) (by omega) O.c1 O.c2 (decide_eq_false (by omega)) (Or.inr (Or.inr ⟨rfl,rfl,rfl⟩)) _ d (fun s' l' P=>by rw[<- hd];exact Hp.X4 P.2.1) fun w1 m1 i1=>(Ue m1 hb i1 who _ _ _ _ ab (by omega) hwd cell (Or.inr ⟨fun _=>(by rw[if_pos (of_decide_eq_true f1)];exact fun e=>hf ⟨f1,decide_eq_true e⟩),rfl,rfl⟩) hn).mono ?_
         rintro e w' ⟨rfl,s',cs',l',m',o',i',q9,rfl,rfl⟩
         exact⟨rfl,_,cs',_,m',o',i',q9,hT.same hσ who _,rfl,_,rfl⟩
       . refine XB h hi who hG hlen hx sl O.life ab (by omega) (by omega) (i:=(i:Int)) (by omega) O.c1 O.c2 (decide_eq_false (by omega)) (Or.inr (Or.inr ⟨rfl,rfl,rfl⟩)) _ d (fun s' l' P=>by rw[<- hd];exact Hp.X4 P.2.1) fun w1 m1 i1=>(Ue m1 hb i1 who _ _ _ _ ab (by omega) hwd cell (Or.inr ⟨fun e=>absurd e f1,rfl,rfl⟩) hn).mono ?_
         rintro e w' ⟨rfl,s',cs',l',m',o',i',q9,rfl,rfl⟩
         exact⟨rfl,_,cs',_,m',o',i',q9,hT.same hσ who _,rfl,_,rfl⟩
    | some u =>
     have hc':l=_:=hc
     subst hc'
     simp only[YG,hj,if_false] at hq
     have hub:=hu u rfl
     have cell:CellIs u _ _ _:=⟨hub.1,hub.2,rfl,rfl,rfl⟩
     have fv:Fit (Zz v:Int):=⟨by omega,by unfold Zz;omega⟩
     by_cases hw:q.dw (ZN v+1+j)=u
     . rw[if_pos hw] at hq
       obtain⟨rfl,rfl⟩:=Prod.mk.inj hq
       have hw':s.wd (ZN v+1+j)=u:=hwd.trans hw
       refine XB h hi who hG hlen hx sl O.life ab (by omega) (by omega) (i:=(i:Int)) (by omega) O.c1 O.c2 (decide_eq_false (by omega)) (Or.inr (Or.inl ⟨rfl,rfl,rfl⟩)) _ d (fun s' l' P=>by rw[<- hd];exact Hp.X4 P.2.1) fun w1 m1 i1=>(TI m1 hb i1 who _ _ _ _ ab (by omega) cell fv (decide_eq_true hw') hn).mono ?_
       rintro e w' ⟨rfl,s',cs',l',m',o',i',q9,rfl,rfl⟩
       rw[UZ hw'] at m'
       exact⟨rfl,_,cs',_,m',o',i',q9,hT.lays hσ who (by omega) _,⟨_,rfl⟩,_,rfl⟩
     . rw[if_neg hw] at hq
       obtain⟨rfl,rfl⟩:=Prod.mk.inj hq
       have hw':s.wd (ZN v+1+j)≠u:=by rw[hwd];exact hw
       refine XB h hi who hG hlen hx sl O.life ab (by omega) (by omega) (i:=(i:Int)) (by omega) O.c1 O.c2 (decide_eq_false (by omega)) (Or.inr (Or.inl ⟨rfl,rfl,rfl⟩)) _ d (fun s' l' P=>by rw[<- hd];exact Hp.X4 P.2.1) fun w1 m1 i1=>(TI m1 hb i1 who _ _ _ _ ab (by omega) cell fv (decide_eq_false hw') hn).mono ?_
       rintro e w' ⟨rfl,s',cs',l',m',o',i',q9,rfl,rfl⟩
       rw[Wl hw'] at m'
       exact⟨rfl,_,cs',_,m',o',i',q9,hT.same hσ who _,⟨_,rfl⟩,_,rfl⟩
end
inductive Dp where
 | see
 | ask (v:Int)
 | mark (v:Int) (Z:Nat)
 | Tv (η:Hp)
 | fin (Z i:Nat) (η:Hp)
 | count (Z i:Nat)
 | give (γ:Gv)
 | over (E:Int)
def Dp.ZB:Dp->Bool
 | .over _=>true
 | _=>false
def Dp.nx:Dp->Int
 | .see=>0
 | .ask _=>1
 | .mark _ _=>2
 | .Tv _=>3
 | .fin _ _ _=>4
 | .count _ _=>5
 | .give _=>6
 | .over _=>7
theorem Dp.U1 (α:Dp):(α.nx == 7)=α.ZB:=by cases α <;> rfl
def PM:Q × Hp->Q × Dp
 | (q',.over _)=>(q',.see)
 | (q',η')=>(q',.Tv η')
def Si (Z i:Nat):Q × Hp->Q × Dp
 | (q',.over _)=>(q',.count Z i)
 | (q',η')=>(q',.fin Z i η')
def RZ (q:Q):Nat × (Nat->Nat) × List Nat × Gv->Q × Dp
 | (c',lk',F',.over)=>({ q with c:=c',lk:=lk',F:=F' },.over 0)
 | (c',lk',F',γ')=>({ q with c:=c',lk:=lk',F:=F' },.give γ')
def Sj (own:Bool) (v u:Int):Dp :=
 if Yi u == own then (if v % 8=4 then .Tv (.go v (Ws u) 0 none) else .mark v (Ws u)) else .over 3
def Zt (t n k m:Nat) (cg:Int) (own:Bool) (x G:Nat) (q:Q):Dp->Q × Dp
 | .see=>(q,if Y5 (q.sw x % 8) && decide (ZE (q.sw x)=G) then .ask (q.sw x) else .over 3)
 | .ask v=>(q,Sj own v (q.dw (ZN v)))
 | .mark v Z=>if q.sw x=v then ({ q with sw:=upd q.sw x (YC v) },.fin Z (Zd t n k m (ZN v)).toNat (.go (YC v) Z 0 none)) else (q,.see)
 | .Tv η=>PM (YG cg x q η)
 | .fin Z i η=>Si Z i (YG cg x q η)
 | .count Z i=>({ q with lv:=upd q.lv i (q.lv i - room (ZR Z).toNat) },if cg<=G then .over 0 else .give .idle)
 | .give γ=>RZ q (YM q.c q.lk q.F x γ)
 | .over E=>(q,.over E)
def PW (t n k m:Nat) (q:Q) (v:Int):Prop:=∃ i,Xe t n k m v (Ws (q.dw (ZN v))) i
def Dp.good (t n k m x G:Nat) (q:Q):Dp->Prop
 | .see=>Y5 (q.sw x % 8)=true->ZE (q.sw x)=G->PW t n k m q (q.sw x)
 | .ask v=>PW t n k m q v
 | .mark v Z=>∃ i,Xe t n k m v Z i
 | .Tv η=>η.good t n k m/\η.ZB=false
 | .fin _ _ η=>η.good t n k m/\η.ZB=false
 | .count Z i=>1<=Z/\Z<=16/\i<k/\room (ZR Z).toNat<=q.lv i
 | .give γ=>x∉q.F/\γ.good n q.c q.lk q.F x/\γ.done=false
 | .over _=>True
def Dp.at (t n x:Nat):Dp->Nat
 | .see=>6+t+x * 2
 | .ask v=>ZN v
 | .mark _ _=>6+t+x * 2
 | .Tv η=>η.at t x
 | .fin _ _ η=>η.at t x
 | .count _ i=>6+t+n * 2+i * 3+1
 | .give γ=>γ.at t x
 | .over _=>0
def Dp.sec (t n k m:Nat):Dp->Int->Int->Int->Prop
 | .ask v,se,ch,_=>se=v/\ch=Zd t n k m (ZN v)
 | .mark v Z,se,ch,sz=>se=v/\ch=Zd t n k m (ZN v)/\sz=Z
 | .fin Z i _,_,ch,sz=>ch=i/\sz=Z
 | .count Z i,_,ch,sz=>ch=i/\sz=Z
 | _,_,_,_=>True
def Dp.hlc (x:Nat):Dp->List Value->Prop
 | .Tv η,l=>η.cells x l
 | .fin _ _ η,l=>η.cells x l
 | _,_=>True
def Dp.pJ (x:Nat):Dp->List Value->Prop
 | .give γ,l=>γ.cells x l
 | _,_=>True
def Dp.err:Dp->Int
 | .over E=>E
 | _=>0
structure Dy (t n k m:Nat) (nu:Int) (own:Bool) (x:Nat) (α:Dp) (a:DV):Prop where
 nx:a.nx=α.nx
 nu:a.nu=nu
 ow:a.own=own
 sec:α.sec t n k m a.se a.ch a.sz
 hl:α.hlc x a.hl
 gl:α.pJ x a.gl
 E:a.E=α.err
 H:a.H=0
 V:a.V=0
theorem zZ (t n k m:Nat) (nu:Int) (own:Bool) (x:Nat):Dy t n k m nu own x .see (uD nu own):=⟨rfl,rfl,rfl,trivial,trivial,trivial,rfl,rfl,rfl⟩
theorem Y9.FD {t n k m:Nat} {s:Mm} {σ:Nat} {q:Q} (h:Y9 t n k m s σ q) (hσ:σ<1000000) (who:Int) {i r:Nat} (hi:i<k) (hr:r<=17) (hl:r<=q.lv i) :
 Y9 t n k m ((s.by who).step (6+t+n * 2+i * 3+1) (sum64 (s.wd (6+t+n * 2+i * 3+1)) (Xv (-(r:Int))))) (σ+1) { q with lv:=upd q.lv i (q.lv i - r) }:=by
 have hb:=h.Ed i hi
 have hv:sum64 (s.wd (6+t+n * 2+i * 3+1)) (Xv (-(r:Int)))=IX (q.lv i - r) (q.db i):=by
  rw[h.Ee i hi];exact CZ _ _ _ hl
 refine⟨h.pile.off hσ who _ _ (by omega) (fun x hx=>by omega),h.Sm.off hσ who _ _ (by omega) (fun j hj=>by omega),fun j hj=>?_,fun j hj=>?_,fun x hx=>?_,h.Gz,fun b hb=>?_,?_⟩
 . by_cases e:j=i
   . subst e
     rw[Y9.VK,hv]
     show _=IX (upd q.lv j (q.lv j - r) j) (q.db j)
     rw[upd_same]
   . rw[Y9.Zx who _ _ _ (by omega)]
     show _=IX (upd q.lv i (q.lv i - r) j) (q.db j)
     rw[ZX _ _ _ _ e];exact h.Ee j hj
 . show upd q.lv i (q.lv i - r) j<=17 * (σ+1)
   by_cases e:j=i
   . subst e;rw[upd_same];omega
   . rw[ZX _ _ _ _ e];have:=h.Ed j hj;omega
 . rw[Y9.Zx who _ _ _ (by omega)];exact h.QA x hx
 . rw[Y9.Zx who _ _ _ (by omega)];exact h.Jp b hb
 . rw[Y9.Zx who _ _ _ (by omega)];exact h.ep
def Dp.reads:Dp->Bool
 | .see=>true
 | .ask _=>true
 | _=>false
def Tl (t x σ:Nat) (s':Mm) (a a':DV):Dp->Dp->Prop
 | .fin _ _ _,.count _ _=>a'.St=s'.wn (6+t+x * 2)
 | .count _ _,_=>a'.St=a.St
 | .give _,_=>a'.St=a.St
 | .see,.over _=>a'.St=((σ+1:Nat):Int)
 | .ask _,.over _=>a'.St=((σ+1:Nat):Int)
 | _,_=>True
structure ui (w:World) (L:Loc) (s:Mm) (a:DV) (b o:Nat) (T:TypeId) (cs:Array Value) (t n k m σ:Nat) (nu:Int) (own:Bool) (x:Nat) (who:Int) (α:Dp) (q':Q) (α':Dp) (w':World) (s':Mm) (cs':Array Value) (a':DV):Prop where
 mm:Z8 w' L s'
 tw:Y9 t n k m s' (σ+1) q'
 dp:ZL w' b o T cs' a'
 is:Dy t n k m nu own x α' a'
 same:Same o 21 cs cs'
 only:Only (L.and b) w w'
 st:∃ v,s'=(s.by who).step (α.at t n x) v
 rd:α.reads=true->s'=(s.by who).step (α.at t n x) (s.wd (α.at t n x))
 tl:Tl t x σ s' a a' α α'
theorem II {q':Q} {η':Hp} (h:η'.ZB=false):PM (q',η')=(q',.Tv η'):=by
 cases η' with
 | over=>cases h
 | go=>rfl
theorem FC {Z i:Nat} {q':Q} {η':Hp} (h:η'.ZB=false):Si Z i (q',η')=(q',.fin Z i η'):=by
 cases η' with
 | over=>cases h
 | go=>rfl
theorem IG {q:Q} {c':Nat} {lk':Nat->Nat} {F':List Nat} {γ':Gv} (h:γ'.done=false):RZ q (c',lk',F',γ')=({ q with c:=c',lk:=lk',F:=F' },.give γ'):=by
 cases γ' with
 | over=>cases h
 | _=>rfl
theorem Hp.UM {η:Hp} (h:η.ZB=true):∃ w,η=.over w:=by
 cases η with
 | over w=>exact⟨w,rfl⟩
 | go=>cases h
theorem LM {Z:Nat} (z1:1<=Z) (z2:Z<=16):ZR Z=((ZR Z).toNat:Nat)/\(ZR Z).toNat<4:=by
 unfold ZR
 rw[if_neg (by omega)]
 repeat' split
 all_goals omega
section
variable {w:World} {L:Loc} {s:Mm} {b o:Nat} {T:TypeId} {cs:Array Value} {a:DV} {t n k m σ:Nat} {g p r:Int} {q:Q} {nu:Int} {own:Bool}
set_option maxHeartbeats 1000000 in
theorem drop_step (h:Z8 w L s) (hb:¬ L.has b) (hT:Y9 t n k m s σ q) (hG:Good t n k m g p r) (hσ:σ<1000000) (hdw:∀ a,Wd (q.dw a)) {x G:Nat} (hh:YY nu x G) (hx:x<n) (α:Dp) (hi:ZL w b o T cs a) (his:Dy t n k m nu own x α a) (hg:α.good t n k m x G q) (ho:α.ZB=false) (who:Int) (q':Q) (α':Dp) (hq:Zt t n k m g own x G q α=(q',α')) (d:Bool) (hd:α'.ZB=d) :
 Calls Tryz.prog 179 #[pP b o,eV t n k m g p r L.p who] w fun e w'=>e=.returned (.bool d)/\∃ s' cs' a',ui w L s a b o T cs t n k m σ nu own x who α q' α' w' s' cs' a':=by
 have hlen:ZI t n k m<=s.n:=by rw[hT.len];exact Nat.le_refl _
 have hlen':=hT.len
 have hmk:k * m<=64 * 256:=Nat.mul_le_mul hG.k1 hG.n1
 have hxs:6+t+x * 2<s.n:=by omega
 have hst:wrap64 (s.steps+1)=((σ+1:Nat):Int):=by rw[hT.pile.st];exact hT.pile.Xk hσ
 have hh':=hh
 obtain⟨Yx,Wu,Ya,SH,ihl,rD,iE,iH,iV⟩:=his
 rw[<- Wu] at hh
 have hdn:=Dp.U1 α'
 rw[hd] at hdn
 cases α with
 | over=>cases ho
 | see =>
  obtain⟨v,hv⟩:∃ v,q.sw x=v:=⟨_,rfl⟩
  have hwv:s.wd (6+t+x * 2)=v:=by rw[hT.QA x hx];exact hv
  have wv:Wd v:=by rw[<- hv];exact hT.Gz x hx
  have sl:=Xx v wv
  simp only[Zt,hv] at hq
  simp only[Dp.good,hv] at hg
  by_cases hl:(Y5 (v % 8) && decide (ZE v=G))=true
  . rw[if_pos hl] at hq
    obtain⟨rfl,rfl⟩:=Prod.mk.inj hq
    rw[Bool.and_eq_true] at hl
    obtain⟨i,O⟩:=hg hl.1 (of_decide_eq_true hl.2)
    have hl':(Y5 (v % 8) && ((ZE v:Int) == (G:Int)))=true:=by
     rw[hl.1,of_decide_eq_true hl.2];simp
    refine(YT h hi who hG hlen hh hx Yx (Or.inl ⟨rfl,rfl⟩) _ d ?_ (fun w1 m1 i1=>NW m1 hb i1 who hG hx hxs hwv sl (ci:=Zd t n k m (ZN v)) rfl hl' (by rw[Yx];decide) hst (Or.inr ⟨rfl,(by rw[O.c1];omega),rfl⟩))).mono ?_
    . rintro s' a' ⟨_,rfl⟩
      rw[<- hdn];rfl
    . rintro e w' ⟨rfl,s',cs',a',m',o',i',sm,rfl,rfl⟩
      exact⟨rfl,_,cs',_,m',hT.same hσ who _,i',⟨rfl,Wu,Ya,⟨rfl,rfl⟩,trivial,trivial,iE,iH,iV⟩,sm,o',⟨_,rfl⟩,fun _=>rfl,by first | exact trivial | rfl⟩
  . rw[if_neg hl] at hq
    obtain⟨rfl,rfl⟩:=Prod.mk.inj hq
    have hl':(Y5 (v % 8) && ((ZE v:Int) == (G:Int)))=false:=by
     rw[Bool.not_eq_true] at hl
     rw[<- hl]
     congr 1
     rw[Bool.eq_iff_iff]
     simp only[beq_iff_eq,decide_eq_true_eq]
     omega
    refine(YT h hi who hG hlen hh hx Yx (Or.inl ⟨rfl,rfl⟩) _ d ?_ (fun w1 m1 i1=>NW m1 hb i1 who hG hx hxs hwv sl (ci:=Zd t n k m (ZN v)) rfl hl' (by rw[Yx];decide) hst (Or.inl ⟨rfl,rfl⟩))).mono ?_
    . rintro s' a' ⟨_,rfl⟩
      rw[<- hdn];rfl
    . rintro e w' ⟨rfl,s',cs',a',m',o',i',sm,rfl,rfl⟩
      exact⟨rfl,_,cs',_,m',hT.same hσ who _,i',⟨rfl,Wu,Ya,trivial,trivial,trivial,rfl,rfl,rfl⟩,sm,o',⟨_,rfl⟩,fun _=>rfl,by first | exact trivial | rfl⟩
 | ask v =>
  obtain⟨i,O⟩:=hg
  obtain⟨rfl,yz⟩:=SH
  have sl:=Xx a.se O.wd
  have hin:=O.Ef
  have SG:s.wd (ZN a.se)=q.dw (ZN a.se):=hT.Jp _ hin.1
  have hd1:=Gh _ (hdw (ZN a.se))
  have hq':(q,Sj own a.se (q.dw (ZN a.se)))=(q',α'):=hq
  obtain⟨rfl,hα⟩:=Prod.mk.inj hq'
  have hnA:ZN a.se<s.n:=by omega
  by_cases hw:(Yi (q.dw (ZN a.se)) == own)=true
  . have hwo:(Yi (q.dw (ZN a.se)) == a.own)=true:=by rw[Ya];exact hw
    simp only[Sj,hw,if_true] at hα
    by_cases h4:a.se % 8=4
    . rw[if_pos h4] at hα
      subst hα
      refine(YT h hi who hG hlen hh hx Yx (Or.inr (Or.inl ⟨rfl,rfl⟩)) _ d ?_ (fun w1 m1 i1=>IP m1 hb i1 who sl hnA SG hd1 hwo h4)).mono ?_
      . rintro s' a' ⟨_,rfl⟩
        rw[<- hdn];rfl
      . rintro e w' ⟨rfl,s',cs',a',m',o',i',sm,rfl,rfl⟩
        exact⟨rfl,_,cs',_,m',hT.same hσ who _,i',⟨rfl,Wu,Ya,trivial,⟨0,rfl⟩,trivial,iE,iH,iV⟩,sm,o',⟨_,rfl⟩,fun _=>rfl,by first | exact trivial | rfl⟩
    . rw[if_neg h4] at hα
      subst hα
      refine(YT h hi who hG hlen hh hx Yx (Or.inr (Or.inl ⟨rfl,rfl⟩)) _ d ?_ (fun w1 m1 i1=>NY m1 hb i1 who sl hnA SG hd1 (by rw[Yx];show (1:Int)<5;decide) hwo hst (Or.inr ⟨rfl,h4,rfl⟩))).mono ?_
      . rintro s' a' ⟨_,rfl⟩
        rw[<- hdn];rfl
      . rintro e w' ⟨rfl,s',cs',a',m',o',i',sm,rfl,rfl⟩
        exact⟨rfl,_,cs',_,m',hT.same hσ who _,i',⟨rfl,Wu,Ya,⟨rfl,yz,rfl⟩,trivial,trivial,iE,iH,iV⟩,sm,o',⟨_,rfl⟩,fun _=>rfl,by first | exact trivial | rfl⟩
  . have hw':(Yi (q.dw (ZN a.se)) == own)=false:=by simpa using hw
    have hwo:(Yi (q.dw (ZN a.se)) == a.own)=false:=by rw[Ya];exact hw'
    simp only[Sj,hw'] at hα
    subst hα
    refine(YT h hi who hG hlen hh hx Yx (Or.inr (Or.inl ⟨rfl,rfl⟩)) _ d ?_ (fun w1 m1 i1=>NY m1 hb i1 who sl hnA SG hd1 (by rw[Yx];show (1:Int)<5;decide) hwo hst (Or.inl ⟨rfl,rfl⟩))).mono ?_
    . rintro s' a' ⟨_,rfl⟩
      rw[<- hdn];rfl
    . rintro e w' ⟨rfl,s',cs',a',m',o',i',sm,rfl,rfl⟩
      exact⟨rfl,_,cs',_,m',hT.same hσ who _,i',⟨rfl,Wu,Ya,trivial,trivial,trivial,rfl,rfl,rfl⟩,sm,o',⟨_,rfl⟩,fun _=>rfl,by first | exact trivial | rfl⟩
 | mark v Z =>
  obtain⟨i,O⟩:=hg
  obtain⟨rfl,yz,SC⟩:=SH
  have sl:=Xx a.se O.wd
  by_cases hw:q.sw x=a.se
  . have hw':s.wd (6+t+x * 2)=a.se:=by rw[hT.QA x hx];exact hw
    simp only[Zt,hw,if_true] at hq
    obtain⟨rfl,rfl⟩:=Prod.mk.inj hq
    refine(YT h hi who hG hlen hh hx Yx (Or.inr (Or.inr (Or.inl ⟨rfl,rfl⟩))) _ d ?_ (fun w1 m1 i1=>IK m1 hb i1 who hG hx hxs SC sl (decide_eq_true hw'))).mono ?_
    . rintro s' a' ⟨_,rfl⟩
      rw[<- hdn];rfl
    . rintro e w' ⟨rfl,s',cs',a',m',o',i',sm,rfl,rfl⟩
      rw[UZ hw'] at m'
      refine⟨rfl,_,cs',_,m',hT.shows hσ who hx _ (W9 _ _ _ _).1 (W9 _ _ _ _).2,i',⟨rfl,Wu,Ya,⟨?_,SC⟩,⟨0,rfl⟩,trivial,iE,iH,iV⟩,sm,o',⟨_,rfl⟩,(fun h=>by cases h),by first | exact trivial | rfl⟩
      show a.ch=_
      rw[yz,O.c1];simp
  . have hw':s.wd (6+t+x * 2)≠a.se:=by rw[hT.QA x hx];exact hw
    simp only[Zt,hw,if_false] at hq
    obtain⟨rfl,rfl⟩:=Prod.mk.inj hq
    refine(YT h hi who hG hlen hh hx Yx (Or.inr (Or.inr (Or.inl ⟨rfl,rfl⟩))) _ d ?_ (fun w1 m1 i1=>FK m1 hb i1 who hG hx hxs sl (decide_eq_false hw'))).mono ?_
    . rintro s' a' ⟨_,rfl⟩
      rw[<- hdn];rfl
    . rintro e w' ⟨rfl,s',cs',a',m',o',i',sm,rfl,rfl⟩
      rw[Wl hw'] at m'
      exact⟨rfl,_,cs',_,m',hT.same hσ who _,i',⟨rfl,Wu,Ya,trivial,trivial,trivial,iE,iH,iV⟩,sm,o',⟨_,rfl⟩,(fun h=>by cases h),by first | exact trivial | rfl⟩
 | Tv η =>
  obtain⟨gη,oη⟩:=hg
  obtain⟨q1,η1,ht⟩:∃ q1 η1,YG g x q η=(q1,η1):=⟨_,_,rfl⟩
  simp only[Zt,ht] at hq
  cases hf:η1.ZB with
  | false =>
   rw[II hf] at hq
   obtain⟨rfl,rfl⟩:=Prod.mk.inj hq
   obtain rfl:false=d:=hd
   refine(QL h hi who hG hlen hh hx Yx _ (fun s' l' P=>Hp.Zu P.2.1) (fun w1 m1 i1=>VH m1 hb hT hG hσ hdw hx η i1 ihl gη oη who _ _ ht false hf)).mono ?_
   rintro e w' ⟨rfl,s',cs',a',m',o',i',sm,l',⟨t',c',st'⟩,rfl⟩
   exact⟨rfl,_,cs',_,m',t',i',⟨Yx,Wu,Ya,trivial,c',trivial,iE,iH,iV⟩,sm,o',st',(fun h=>by cases h),by first | exact trivial | rfl⟩
  | true =>
   obtain⟨wn,rfl⟩:=Hp.UM hf
   have hq':(q1,Dp.see)=(q',α'):=hq
   obtain⟨rfl,rfl⟩:=Prod.mk.inj hq'
   obtain rfl:false=d:=hd
   refine(Tq h hi who hG hlen hh hb hx Yx _ (fun s' l' P=>Hp.Zu P.2.1) (fun w1 m1 i1=>VH m1 hb hT hG hσ hdw hx η i1 ihl gη oη who _ _ ht true hf)).mono ?_
   rintro e w' ⟨rfl,s',cs',a',m',o',i',sm,l',⟨t',c',st'⟩,rfl⟩
   exact⟨rfl,_,cs',_,m',t',i',⟨rfl,Wu,Ya,trivial,trivial,trivial,iE,iH,iV⟩,sm,o',st',(fun h=>by cases h),by first | exact trivial | rfl⟩
 | fin Z i η =>
  obtain⟨gη,oη⟩:=hg
  obtain⟨q1,η1,ht⟩:∃ q1 η1,YG g x q η=(q1,η1):=⟨_,_,rfl⟩
  simp only[Zt,ht] at hq
  cases hf:η1.ZB with
  | false =>
   rw[FC hf] at hq
   obtain⟨rfl,rfl⟩:=Prod.mk.inj hq
   refine(YT h hi who hG hlen hh hx Yx (Or.inr (Or.inr (Or.inr (Or.inl ⟨rfl,rfl⟩)))) _ d ?_ (fun w1 m1 i1=>CP m1 i1 who _ (fun s' l' P=>Hp.Zu P.2.1) (fun w2 m2 i2=>VH m2 hb hT hG hσ hdw hx η i2 ihl gη oη who _ _ ht false hf))).mono ?_
   . rintro s' a' ⟨l',_,rfl⟩
     rw[<- hdn]
     show (a.nx == 7)=_
     rw[Yx];rfl
   . rintro e w' ⟨rfl,s',cs',a',m',o',i',sm,l',⟨t',c',st'⟩,rfl⟩
     exact⟨rfl,_,cs',_,m',t',i',⟨Yx,Wu,Ya,SH,c',trivial,iE,iH,iV⟩,sm,o',st',(fun h=>by cases h),by first | exact trivial | rfl⟩
  | true =>
   obtain⟨wn,rfl⟩:=Hp.UM hf
   have hq':(q1,Dp.count Z i)=(q',α'):=hq
   obtain⟨rfl,rfl⟩:=Prod.mk.inj hq'
   refine(YT h hi who hG hlen hh hx Yx (Or.inr (Or.inr (Or.inr (Or.inl ⟨rfl,rfl⟩)))) _ d ?_ (fun w1 m1 i1=>IJ m1 hb i1 who hG hx _ (fun s' l' P=>Hp.Zu P.2.1) (fun s' l' P=>by have:=P.1.len;omega) (fun w2 m2 i2=>VH m2 hb hT hG hσ hdw hx η i2 ihl gη oη who _ _ ht true hf))).mono ?_
   . rintro s' a' ⟨l',_,rfl⟩
     rw[<- hdn];rfl
   . rintro e w' ⟨rfl,s',cs',a',m',o',i',sm,l',⟨t',c',st'⟩,rfl⟩
     exact⟨rfl,_,cs',_,m',t',i',⟨rfl,Wu,Ya,SH,trivial,trivial,iE,iH,iV⟩,sm,o',st',(fun h=>by cases h),by first | exact trivial | rfl⟩
 | count Z i =>
  obtain⟨z1,z2,hik,hlv⟩:=hg
  obtain⟨yz,SC⟩:=SH
  obtain⟨kz,hκ⟩:=LM z1 z2
  have hr:=Yg (ZR Z).toNat
  have hnc:6+t+n * 2+i * 3+1<s.n:=by omega
  have tw:=hT.FD hσ who hik hr.2 hlv
  by_cases hl:g<=(G:Int)
  . have hq':({ q with lv:=upd q.lv i (q.lv i - room (ZR Z).toNat) },Dp.over 0)=(q',α'):=by rw[<- hq];simp[Zt,hl]
    obtain⟨rfl,rfl⟩:=Prod.mk.inj hq'
    refine(YT h hi who hG hlen hh hx Yx (Or.inr (Or.inr (Or.inr (Or.inr ⟨rfl,rfl⟩)))) _ d ?_ (fun w1 m1 i1=>RI m1 hb i1 who hG yz hik SC kz hκ hnc (decide_eq_true hl) (Or.inr ⟨rfl,rfl⟩))).mono ?_
    . rintro s' a' ⟨_,rfl⟩
      rw[<- hdn];rfl
    . rintro e w' ⟨rfl,s',cs',a',m',o',i',sm,rfl,rfl⟩
      exact⟨rfl,_,cs',_,m',tw,i',⟨rfl,Wu,Ya,trivial,trivial,trivial,iE,iH,iV⟩,sm,o',⟨_,rfl⟩,(fun h=>by cases h),by first | exact trivial | rfl⟩
  . have hq':({ q with lv:=upd q.lv i (q.lv i - room (ZR Z).toNat) },Dp.give .idle)=(q',α'):=by rw[<- hq];simp[Zt,hl]
    obtain⟨rfl,rfl⟩:=Prod.mk.inj hq'
    refine(YT h hi who hG hlen hh hx Yx (Or.inr (Or.inr (Or.inr (Or.inr ⟨rfl,rfl⟩)))) _ d ?_ (fun w1 m1 i1=>RI m1 hb i1 who hG yz hik SC kz hκ hnc (decide_eq_false (by omega)) (Or.inl ⟨rfl,rfl⟩))).mono ?_
    . rintro s' a' ⟨_,rfl⟩
      rw[<- hdn];rfl
    . rintro e w' ⟨rfl,s',cs',a',m',o',i',sm,rfl,rfl⟩
      exact⟨rfl,_,cs',_,m',tw,i',⟨rfl,Wu,Ya,trivial,trivial,⟨0,rfl⟩,iE,iH,iV⟩,sm,o',⟨_,rfl⟩,(fun h=>by cases h),by first | exact trivial | rfl⟩
 | give γ =>
  obtain⟨Vw,gγ,oγ⟩:=hg
  obtain⟨c',lk',F',γ',ht⟩:∃ c' lk' F' γ',YM q.c q.lk q.F x γ=(c',lk',F',γ'):=⟨_,_,_,_,rfl⟩
  have hat:=Gv.at_in (t:=t) hx γ
  simp only[Zt,ht] at hq
  cases hf:γ'.done with
  | false =>
   rw[IG hf] at hq
   obtain⟨rfl,rfl⟩:=Prod.mk.inj hq
   obtain rfl:false=d:=hd
   refine(QK h hi who hG hlen hh hx Yx (fun w1 m1 i1=>VI m1 hb hT.pile hσ hG.t1 hx Vw γ ⟨_,i1,rD⟩ gγ oγ _ _ _ _ _ who c' lk' F' γ' ht false hf)).mono ?_
   rintro e w' ⟨rfl,s',cs',a',m',o',i',sm,p',⟨v,rfl⟩,g',l,hl,rfl⟩
   exact⟨rfl,_,cs',_,m',hT.slots hσ who _ v hat p',i',⟨Yx,Wu,Ya,trivial,trivial,hl,iE,iH,iV⟩,sm,o',⟨v,rfl⟩,(fun h=>by cases h),by first | exact trivial | rfl⟩
  | true =>
   have:=Gv.UM hf
   subst this
   have hq':({ q with c:=c',lk:=lk',F:=F' },Dp.over 0)=(q',α'):=hq
   obtain⟨rfl,rfl⟩:=Prod.mk.inj hq'
   obtain rfl:true=d:=hd
   refine(Tn h hi who hG hlen hh hb hx Yx (fun w1 m1 i1=>VI m1 hb hT.pile hσ hG.t1 hx Vw γ ⟨_,i1,rD⟩ gγ oγ _ _ _ _ _ who c' lk' F' _ ht true hf)).mono ?_
   rintro e w' ⟨rfl,s',cs',a',m',o',i',sm,p',⟨v,rfl⟩,g',l,hl,rfl⟩
   exact⟨rfl,_,cs',_,m',hT.slots hσ who _ v hat p',i',⟨rfl,Wu,Ya,trivial,trivial,trivial,iE,iH,iV⟩,sm,o',⟨v,rfl⟩,(fun h=>by cases h),by first | exact trivial | rfl⟩
end
end
section
theorem Qs {cg:Int} {x:Nat} {q:Q} {η:Hp} {q':Q} {η':Hp} (h:∀ a,Wd (q.dw a)) (ht:YG cg x q η=(q',η')):∀ a,Wd (q'.dw a):=by
 have e:∀ v,TM cg x q v=(q',η')->∀ a,Wd (q'.dw a):=by
  intro v hv
  unfold TM at hv
  split at hv <;> (obtain⟨rfl,-⟩:=Prod.mk.inj hv;exact h)
 cases η with
 | over=>obtain⟨rfl,-⟩:=Prod.mk.inj ht;exact h
 | go v Z j u =>
  cases u with
  | none =>
   simp only[YG] at ht
   split at ht
   . exact e v ht
   . split at ht <;> (obtain⟨rfl,-⟩:=Prod.mk.inj ht;exact h)
  | some u =>
   simp only[YG] at ht
   split at ht
   . exact e v ht
   . split at ht
     . obtain⟨rfl,-⟩:=Prod.mk.inj ht
       intro a
       show Wd (upd q.dw _ _ a)
       unfold upd
       split
       . exact NV _ _
       . exact h a
     . obtain⟨rfl,-⟩:=Prod.mk.inj ht;exact h
theorem Jk {t n k m:Nat} {cg:Int} {own:Bool} {x G:Nat} {q:Q} {α:Dp} {q':Q} {α':Dp} (h:∀ a,Wd (q.dw a)) (ht:Zt t n k m cg own x G q α=(q',α')):∀ a,Wd (q'.dw a):=by
 cases α with
 | see=>obtain⟨rfl,-⟩:=Prod.mk.inj ht;exact h
 | ask v=>obtain⟨rfl,-⟩:=Prod.mk.inj ht;exact h
 | mark v Z =>
  simp only[Zt] at ht
  split at ht <;> (obtain⟨rfl,-⟩:=Prod.mk.inj ht;exact h)
 | Tv η =>
  obtain⟨q1,η1,h1⟩:∃ q1 η1,YG cg x q η=(q1,η1):=⟨_,_,rfl⟩
  simp only[Zt,h1] at ht
  have:=Qs h h1
  cases η1 <;> (simp only[PM] at ht;obtain⟨rfl,-⟩:=Prod.mk.inj ht;exact this)
 | fin Z i η =>
  obtain⟨q1,η1,h1⟩:∃ q1 η1,YG cg x q η=(q1,η1):=⟨_,_,rfl⟩
  simp only[Zt,h1] at ht
  have:=Qs h h1
  cases η1 <;> (simp only[Si] at ht;obtain⟨rfl,-⟩:=Prod.mk.inj ht;exact this)
 | count Z i=>obtain⟨rfl,-⟩:=Prod.mk.inj ht;exact h
 | give γ =>
  obtain⟨c',lk',F',γ',h1⟩:∃ c' lk' F' γ',YM q.c q.lk q.F x γ=(c',lk',F',γ'):=⟨_,_,_,_,rfl⟩
  simp only[Zt,h1] at ht
  cases γ' <;> (simp only[RZ] at ht;obtain⟨rfl,-⟩:=Prod.mk.inj ht;exact h)
 | over=>obtain⟨rfl,-⟩:=Prod.mk.inj ht;exact h
inductive Uh (t n k m:Nat) (cg:Int) (own:Bool) (x G:Nat):Nat->Q->Dp->Q->Dp->Prop where
 | one {q:Q} {α:Dp} {q':Q} {α':Dp} (ho:α.ZB=false) (hr:α.reads=true) (hg:α.good t n k m x G q) (ht:Zt t n k m cg own x G q α=(q',α')) (h:α'.ZB=true):Uh t n k m cg own x G 1 q α q' α'
 | more {N:Nat} {q:Q} {α:Dp} {q1:Q} {α1:Dp} {q':Q} {α':Dp} (ho:α.ZB=false) (hr:α.reads=true) (hg:α.good t n k m x G q) (ht:Zt t n k m cg own x G q α=(q1,α1)) (h:α1.ZB=false) (g:Uh t n k m cg own x G N q1 α1 q' α'):Uh t n k m cg own x G (N+1) q α q' α'
section
variable {w:World} {L:Loc} {t n k m σ:Nat} {s:Mm} {q:Q} {nu:Int} {own:Bool}
end
end
section
theorem IM (st A G V:Nat) (h1:st<=7) (h2:A<=1048575) (h3:G<=65535) (h4:V<=4194303):Zq st A G V=st+A * 8+G * 8388608+V * 549755813888:=by
 unfold Zq
 rw[Ze st 3 (by omega) (by simp;omega),Ze A 20 (by omega) (by simp;omega),Ze G 16 (by omega) (by simp;omega),Ze V 22 (by omega) (by simp;omega)]
theorem VM {st A G V:Nat} (h1:st<=7) (h2:A<=1048575) (h3:G<=65535) (h4:V<=4194303):Zq st A G V % 8=st/\ZN (Zq st A G V)=A/\ZE (Zq st A G V)=G/\Zz (Zq st A G V)=V:=by
 rw[IM st A G V h1 h2 h3 h4]
 unfold ZN ZE Zz
 refine⟨?_,?_,?_,?_⟩ <;> omega
theorem RV {v:Int} (hv:Zz v<4194303):YC v % 8=4/\ZN (YC v)=ZN v/\ZE (YC v)=ZE v/\Zz (YC v)=Zz v+1:=by
 have e:YC v=Zq ((4:Nat):Int) (ZN v) (ZE v) ((Zz v+1:Nat):Int):=by unfold YC;simp
 rw[e]
 exact VM (by decide) (PY v) (UO v) (by omega)
def QQ (dw:Nat->Int) (a V j:Nat):Nat->Int:=fun b=>if a<b/\b<=a+j then froze (dw b) V else dw b
theorem uC (dw:Nat->Int) (a V:Nat):QQ dw a V 0=dw:=by
 funext b
 unfold QQ
 rw[if_neg (by omega)]
theorem FZ (dw:Nat->Int) (a V j:Nat):upd (QQ dw a V j) (a+1+j) (froze (dw (a+1+j)) V)=QQ dw a V (j+1):=by
 funext b
 by_cases e:b=a+1+j
 . subst e
   rw[upd_same]
   unfold QQ
   rw[if_pos (by omega)]
 . rw[ZX _ _ _ _ e]
   unfold QQ
   by_cases h:a<b/\b<=a+j
   . rw[if_pos h,if_pos (by omega)]
   . rw[if_neg h,if_neg (by omega)]
theorem F5 (dw:Nat->Int) (a V j:Nat):QQ dw a V j (a+1+j)=dw (a+1+j):=by
 unfold QQ
 rw[if_neg (by omega)]
theorem Tf (dw:Nat->Int) (a V j b:Nat) (h:¬ (a<b/\b<=a+j)):QQ dw a V j b=dw b:=by
 unfold QQ
 rw[if_neg h]
def Q.fz (q:Q) (a V j:Nat):Q:={ q with dw:=QQ q.dw a V j }
def Q.end (q:Q) (cg:Int) (x:Nat) (v:Int) (Z i:Nat):Q :=
 { q with lv:=upd q.lv i (q.lv i - room (ZR Z).toNat),sw:=upd q.sw x (Y1 cg v),dw:=QQ q.dw (ZN v) (Zz v+1) Z }
def Q.gone (q:Q) (cg:Int) (x:Nat) (v:Int) (Z i:Nat):Q:={ q.end cg x v Z i with c:=q.c+1,lk:=upd q.lk x (hd q.F),F:=x :: q.F }
section
variable {t n k m:Nat} {cg:Int} {own:Bool} {x G:Nat}
theorem Xe.mark {v:Int} {Z i:Nat} (O:Xe t n k m v Z i) (hv:Zz v<4194303):Xe t n k m (YC v) Z i:=by
 obtain⟨d1,d2,_,_⟩:=RV hv
 exact⟨W9 _ _ _ _,by rw[d1];rfl,O.z1,O.z2,O.ik,by rw[d2];exact O.ad⟩
theorem Ol {v:Int} (hv:Zz v<4194303):Y1 cg (YC v)=Y1 cg v:=by
 unfold Y1
 rw[(RV hv).2.2.1]
theorem MI {q:Q} (h:(Y5 (q.sw x % 8) && decide (ZE (q.sw x)=G))=false):Uh t n k m cg own x G 1 q .see q (.over 3):=by
 refine .one rfl rfl (fun h1 h2=>?_) ?_ rfl
 . rw[h1,h2] at h
   simp at h
 . simp only[Zt,h]
   rfl
theorem Ot {q:Q} {Z i:Nat} (O:Xe t n k m (q.sw x) Z i) (hz:Ws (q.dw (ZN (q.sw x)))=Z) (hG:ZE (q.sw x)=G) (ho:Yi (q.dw (ZN (q.sw x)))≠own):Uh t n k m cg own x G 2 q .see q (.over 3):=by
 refine .more (q1:=q) (α1:=.ask (q.sw x)) rfl rfl (fun _ _=>⟨i,by rw[hz];exact O⟩) ?_ rfl (.one rfl rfl ⟨i,by rw[hz];exact O⟩ ?_ rfl)
 . simp only[Zt,O.life,hG,decide_true,Bool.and_self,if_true]
 . have:(Yi (q.dw (ZN (q.sw x))) == own)=false:=by simpa using ho
   simp only[Zt,Sj,this]
   rfl
end
end
section
theorem LQ {Z x G:Nat} {own:Bool} (hZ:Z<=65535) (hx:x<=65535) (hG:G<=65535):Ws (Zg 2 Z x G own)=Z/\Yi (Zg 2 Z x G own)=own:=by
 have e:=I9 2 Z x G own (by decide) hZ hx hG
 rw[show ((2:Nat):Int)=2 from rfl] at e
 rw[e]
 unfold Ws Yi
 cases own
 . rw[if_neg (by decide)]
   exact⟨by omega,decide_eq_false (by omega)⟩
 . rw[if_pos rfl]
   exact⟨by omega,decide_eq_true (by omega)⟩
theorem Ox.YN {o o':Ox} (h:o.apart o'):o'.apart o :=
 ⟨fun e=>h.1 e.symm,by rcases h.2 with e | e | e;exact Or.inl (fun k=>e k.symm);exact Or.inr (Or.inr e);exact Or.inr (Or.inl e)⟩
theorem RN (i:Nat) (l1:List Ox) (o:Ox) (l2:List Ox):Xd i (l1 ++ o :: l2)=(if o.i=i then room o.κ else 0)+Xd i (l1 ++ l2):=by
 induction l1 with
 | nil=>rfl
 | cons a l ih =>
  show (if a.i=i then room a.κ else 0)+Xd i (l ++ o :: l2)=_+((if a.i=i then room a.κ else 0)+Xd i (l ++ l2))
  rw[ih];omega
section
variable {t n k m nx:Nat} {q:Q} {gen:Nat->Nat} {ls:List Ox} {cg:Int}
structure um (t n k m:Nat) (q:Q) (o:Ox):Prop where
 obj:Xe t n k m (q.sw o.x) o.Z o.i
 st:q.sw o.x % 8=1
 ad:ZN (q.sw o.x)=o.a
 gn:ZE (q.sw o.x)=o.g
 vr:Zz (q.sw o.x)=0
 sz:Ws (q.dw (ZN (q.sw o.x)))=o.Z
 ow:Yi (q.dw (ZN (q.sw o.x)))=o.own
 cl:∀ j,j<o.Z->frozenIn (q.dw (ZN (q.sw o.x)+1+j)) (Zz (q.sw o.x)+1)=false
 rm:(ZR o.Z).toNat=o.κ
theorem PE {z:Int} (h:z<=1099511627775) (V:Nat):frozenIn z V=false:=by
 unfold frozenIn
 rw[decide_eq_false (by omega),Bool.false_and]
theorem Zn.is (C:Zn t n k m q nx gen ls) (hG:Good t n k m cg 600 3) (hn:n<=65535) {o:Ox} (ho:o∈ls):um t n k m q o:=by
 have K:=C.ok o ho
 have A:=C.li o ho
 have hmk:k * m<=64 * 256:=Nat.mul_le_mul hG.k1 hG.n1
 have ht:=hG.t1
 have hk:=hG.k1
 have hin:=PG (t:=t) (n:=n) K.ik K.uk
 rw[<- K.ae] at hin
 have hr:=Yv K.z1 K.kz
 have hx1:=K.x1
 have dec:=VM (st:=1) (A:=o.a) (G:=o.g) (V:=0) (by decide) (by omega) K.g2 (by decide)
 have e:q.sw o.x=Zq ((1:Nat):Int) o.a o.g ((0:Nat):Int):=A.sw
 rw[<- e] at dec
 obtain⟨d1,d2,d3,d4⟩:=dec
 have z2:=K.z2
 have g2:=K.g2
 obtain⟨hs,hw2⟩:=LQ (Z:=o.Z) (x:=o.x) (G:=o.g) (own:=o.own) (by omega) (by omega) g2
 rw[<- show q.dw o.a=Zg 2 o.Z o.x o.g o.own from A.hw] at hs hw2
 refine⟨⟨by rw[e];exact W9 _ _ _ _,by rw[d1];rfl,K.z1,K.z2,K.ik,o.u,?_,by rw[d2];exact K.ae⟩,d1,d2,d3,d4,by rw[d2];exact hs,by rw[d2];exact hw2,fun j hj=>?_,by rw[K.kz];simp⟩
 . have:=K.uk;omega
 . rw[d2,Nat.add_assoc]
   exact PE (A.nt (1+j) (by omega) (by omega)).2 _
theorem Zn.room_le {l1 l2:List Ox} {o:Ox} (C:Zn t n k m q nx gen (l1 ++ o :: l2)):room o.κ<=q.lv o.i:=by
 rw[C.lv o.i (C.ok o (by simp)).ik,RN,if_pos rfl]
 omega
theorem Zn.end {l1 l2:List Ox} {o:Ox} (C:Zn t n k m q nx gen (l1 ++ o :: l2)) (hG:Good t n k m cg 600 3) (hn:n<=65535):Zn t n k m (q.end cg o.x (q.sw o.x) o.Z o.i) nx gen (l1 ++ l2):=by
 have ho:o∈l1 ++ o :: l2:=by simp
 have hsub:∀ o',o'∈l1 ++ l2->o'∈l1 ++ o :: l2:=fun o' h'=>by
  rcases List.mem_append.1 h' with h' | h' <;> simp[h']
 have I:=C.is hG hn ho
 have K:=C.ok o ho
 have hrm:=Yv K.z1 K.kz
 have hap:∀ o',o'∈l1 ++ l2->o.apart o':=(List.pairwise_cons.1 ((List.pairwise_middle Ox.YN).1 C.pw)).1
 have hout:∀ o',o'∈l1 ++ l2->∀ j',j'<=o'.Z->¬ (ZN (q.sw o.x)<o'.a+j'/\o'.a+j'<=ZN (q.sw o.x)+o.Z):=by
  intro o' h' j' hj' ⟨h1,h2⟩
  rw[I.ad] at h1 h2
  have K':=C.ok o' (hsub o' h')
  have pK:=Yv K'.z1 K'.kz
  have uk:=K.uk
  have mZ:=K'.uk
  rcases (hap o' h').2 with e | e | e
  . refine Ox.YO K (j:=o'.a+j' - o.a) (i:=o'.i) (u:=o'.u+j') (by omega) (by omega) (Or.inl e) ?_
    have:=K'.ae;omega
  . refine Ox.YO K (j:=o'.a+j' - o.a) (i:=o'.i) (u:=o'.u+j') (by omega) (by omega) (Or.inr (by omega)) ?_
    have:=K'.ae;omega
  . refine Ox.YO K' (j:=j') (i:=o.i) (u:=o.u+(o'.a+j' - o.a)) (by omega) (by omega) (Or.inr (by omega)) ?_
    have:=K.ae;omega
 refine⟨C.al,C.us,fun i hi u h1 h2=>?_,fun v hv=>?_,C.gb,fun o' h'=>C.gn o' (hsub o' h'),fun o' h'=>C.ok o' (hsub o' h'),fun o' h'=>?_,(List.pairwise_cons.1 ((List.pairwise_middle Ox.YN).1 C.pw)).2,fun i hi=>?_,fun b=>?_⟩
 . show QQ q.dw _ _ _ _=0
   have hus:=(C.li o ho).us
   rw[Tf,C.dw i hi u h1 h2]
   rintro⟨h3,h4⟩
   rw[I.ad] at h3 h4
   refine Ox.YO K (j:=base t n k m i+u - o.a) (i:=i) (u:=u) (by omega) h2 ?_ (by omega)
   by_cases e:o.i=i
   . right;rw[e] at hus;exact Nat.le_trans hus h1
   . exact Or.inl e
 . show upd q.sw o.x _ v=_
   have wX:v≠o.x:=fun e=>(C.li o ho).nf (e ▸ hv)
   rw[ZX _ _ _ _ wX]
   exact C.sw v hv
 . have A':=C.li o' (hsub o' h')
   have hx:o'.x≠o.x:=fun e=>(hap o' h').1 e.symm
   refine⟨A'.nf,?_,?_,fun j h1 h2=>?_,A'.us⟩
   . show upd q.sw o.x _ o'.x=_
     rw[ZX _ _ _ _ hx];exact A'.sw
   . show QQ q.dw _ _ _ o'.a=_
     rw[Tf _ _ _ _ o'.a (hout o' h' 0 (Nat.zero_le _))];exact A'.hw
   . show 0<=QQ q.dw _ _ _ (o'.a+j)/\QQ q.dw _ _ _ (o'.a+j)<=_
     rw[Tf _ _ _ _ _ (hout o' h' j h2)];exact A'.nt j h1 h2
 . show upd q.lv o.i (q.lv o.i - room (ZR o.Z).toNat) i=_
   have hlv:=C.lv i hi
   rw[RN] at hlv
   rw[I.rm]
   by_cases e:i=o.i
   . subst e;rw[upd_same,hlv,if_pos rfl];omega
   . rw[ZX _ _ _ _ e,hlv,if_neg (fun h=>e h.symm),Nat.zero_add]
 . show Wd (QQ q.dw _ _ _ b)
   unfold QQ
   split
   . exact NV _ _
   . exact C.wb b
theorem Zn.gone {l1 l2:List Ox} {o:Ox} (C:Zn t n k m q nx gen (l1 ++ o :: l2)) (hG:Good t n k m cg 600 3) (hn:n<=65535) (hl:(o.g:Int)<cg):Zn t n k m (q.gone cg o.x (q.sw o.x) o.Z o.i) nx (upd gen o.x (o.g+1)) (l1 ++ l2):=by
 have ho:o∈l1 ++ o :: l2:=by simp
 have I:=C.is hG hn ho
 have hg1:=hG.g1
 have hap:∀ o',o'∈l1 ++ l2->o.apart o':=(List.pairwise_cons.1 ((List.pairwise_middle Ox.YN).1 C.pw)).1
 obtain⟨al,us,dw,sw,gb,gn,ok,li,pw,lv,wb⟩:=C.end hG hn
 refine⟨al,us,dw,fun v hv=>?_,fun v hv=>?_,fun o' h'=>?_,ok,fun o' h'=>?_,pw,lv,wb⟩
 . rcases List.mem_cons.1 hv with rfl | hv
   . show upd q.sw _ _ _=_
     rw[upd_same,upd_same]
     unfold Y1
     rw[I.gn,if_neg (by omega)]
     congr 1
   . have wX:v≠o.x:=fun e=>(C.li o ho).nf (e ▸ hv)
     rw[ZX _ _ _ _ wX];exact sw v hv
 . by_cases e:v=o.x
   . subst e;rw[upd_same];omega
   . rw[ZX _ _ _ _ e];exact gb v hv
 . have hx:o'.x≠o.x:=fun e=>(hap o' h').1 e.symm
   rw[ZX _ _ _ _ hx];exact gn o' h'
 . have hx:o'.x≠o.x:=fun e=>(hap o' h').1 e.symm
   have A':=li o' h'
   refine⟨fun hh=>?_,A'.sw,A'.hw,A'.nt,A'.us⟩
   rcases List.mem_cons.1 hh with e | hh
   . exact hx e
   . exact A'.nf hh
end
section
variable {w0 w w':World} {L:Loc} {bE t n k m σ nx:Nat} {cg:Int} {s:Mm} {q:Q} {gen:Nat->Nat} {own:Bool}
variable {ls:List Ox}
end
end
section
end
section
structure CV where
 nx:Int
 kd:Int
 nu:Int
 ix:Int
 vl:Int
 ol:Int
 own:Bool
 se:Int
 at_:Int
 sz:Int
 ce:Int
 ld:Int
 hl:List Value
 E:Int
 H:Int
 V:Int
 St:Int
structure ZG (w:World) (b o:Nat) (T:TypeId) (c:Array Value) (a:CV):Prop where
 obj:w.heap[b]?=some (.cells c T (0,0))
 Yr:a.hl.length=8
 hl:∀ i v,a.hl[i]?=some v->c[o+12+i]?=some v
 nx:c[o]?=some (iV a.nx)
 kd:c[o+1]?=some (iV a.kd)
 nu:c[o+2]?=some (.int .u64 a.nu)
 ix:c[o+3]?=some (iV a.ix)
 vl:c[o+4]?=some (iV a.vl)
 ol:c[o+5]?=some (iV a.ol)
 own:c[o+6]?=some (.bool a.own)
 se:c[o+7]?=some (.int .u64 a.se)
 at_:c[o+8]?=some (iV a.at_)
 sz:c[o+9]?=some (iV a.sz)
 ce:c[o+10]?=some (.int .u64 a.ce)
 ld:c[o+11]?=some (iV a.ld)
 E:c[o+20]?=some (iV a.E)
 H:c[o+21]?=some (.int .u64 a.H)
 V:c[o+22]?=some (iV a.V)
 St:c[o+23]?=some (iV a.St)
namespace ZG
variable {w w':World} {b o:Nat} {T:TypeId} {c c':Array Value} {a:CV}
theorem lt (h:ZG w b o T c a):b<w.heap.size:=XP h.obj
theorem fz (h:ZG w b o T c a) (i:Nat):w.frozen? ⟨b,i,none⟩=false:=YV h.obj i
theorem of_block (h:ZG w b o T c a) (e:w'.heap[b]?=w.heap[b]?):ZG w' b o T c a:={ h with obj:=e.trans h.obj }
theorem grown (h:ZG w b o T c a) (g:Below w.heap.size w w'):ZG w' b o T c a:=h.of_block (g.block _ h.lt)
theorem drew (h:ZG w b o T c a):ZG w.drew b o T c a:=h.of_block rfl
theorem only {S:Nat->Prop} (h:ZG w b o T c a) (g:Only S w w') (hs:¬ S b):ZG w' b o T c a:=h.of_block (g.block _ h.lt hs)
theorem other (h:ZG w b o T c a) {k:Nat} (hk:b≠k) (i:Nat) (v:Value):ZG (w.setCell ⟨k,i,none⟩ v) b o T c a:=h.of_block (Go.Deep.blk_setCell_other _ _ _ _ (by simpa using hk))
theorem Zr (h:ZG w b o T c a):w.cell? ⟨b,o,none⟩=some (iV a.nx):=ZW h.obj h.nx
theorem P6 (h:ZG w b o T c a):w.cell? ⟨b,o+1,none⟩=some (iV a.kd):=ZW h.obj h.kd
theorem SQ (h:ZG w b o T c a):w.cell? ⟨b,o+2,none⟩=some (.int .u64 a.nu):=ZW h.obj h.nu
theorem OL (h:ZG w b o T c a):w.cell? ⟨b,o+3,none⟩=some (iV a.ix):=ZW h.obj h.ix
theorem yj (h:ZG w b o T c a):w.cell? ⟨b,o+4,none⟩=some (iV a.vl):=ZW h.obj h.vl
theorem uP (h:ZG w b o T c a):w.cell? ⟨b,o+5,none⟩=some (iV a.ol):=ZW h.obj h.ol
theorem QF (h:ZG w b o T c a):w.cell? ⟨b,o+6,none⟩=some (.bool a.own):=ZW h.obj h.own
theorem WQ (h:ZG w b o T c a):w.cell? ⟨b,o+7,none⟩=some (.int .u64 a.se):=ZW h.obj h.se
theorem J4 (h:ZG w b o T c a):w.cell? ⟨b,o+8,none⟩=some (iV a.at_):=ZW h.obj h.at_
theorem WO (h:ZG w b o T c a):w.cell? ⟨b,o+9,none⟩=some (iV a.sz):=ZW h.obj h.sz
theorem Jt (h:ZG w b o T c a):w.cell? ⟨b,o+10,none⟩=some (.int .u64 a.ce):=ZW h.obj h.ce
theorem yg (h:ZG w b o T c a):w.cell? ⟨b,o+11,none⟩=some (iV a.ld):=ZW h.obj h.ld
theorem D8 (h:ZG w b o T c a):w.cell? ⟨b,o+20,none⟩=some (iV a.E):=ZW h.obj h.E
theorem Eg (h:ZG w b o T c a):w.cell? ⟨b,o+21,none⟩=some (.int .u64 a.H):=ZW h.obj h.H
theorem D7 (h:ZG w b o T c a):w.cell? ⟨b,o+22,none⟩=some (iV a.V):=ZW h.obj h.V
theorem SN (h:ZG w b o T c a):w.cell? ⟨b,o+23,none⟩=some (iV a.St):=ZW h.obj h.St
theorem Zl (h:ZG w b o T c a) (x:Int):ZG (w.setCell ⟨b,o,none⟩ (iV x)) b o T (c.setIfInBounds (o) (iV x)) { a with nx:=x } :=
 ⟨ZV _ _ _ _ _ _ h.obj,h.Yr,ZU h.hl _ (by have:=h.Yr;omega),Yl _ h.nx,Z9 h.kd (by omega),Z9 h.nu (by omega),Z9 h.ix (by omega),Z9 h.vl (by omega),Z9 h.ol (by omega),Z9 h.own (by omega),Z9 h.se (by omega),Z9 h.at_ (by omega),Z9 h.sz (by omega),Z9 h.ce (by omega),Z9 h.ld (by omega),Z9 h.E (by omega),Z9 h.H (by omega),Z9 h.V (by omega),Z9 h.St (by omega)⟩
theorem MV (h:ZG w b o T c a) (x:Int):ZG (w.setCell ⟨b,o+7,none⟩ (.int .u64 x)) b o T (c.setIfInBounds (o+7) (.int .u64 x)) { a with se:=x } :=
 ⟨ZV _ _ _ _ _ _ h.obj,h.Yr,ZU h.hl _ (by have:=h.Yr;omega),Z9 h.nx (by omega),Z9 h.kd (by omega),Z9 h.nu (by omega),Z9 h.ix (by omega),Z9 h.vl (by omega),Z9 h.ol (by omega),Z9 h.own (by omega),Yl _ h.se,Z9 h.at_ (by omega),Z9 h.sz (by omega),Z9 h.ce (by omega),Z9 h.ld (by omega),Z9 h.E (by omega),Z9 h.H (by omega),Z9 h.V (by omega),Z9 h.St (by omega)⟩
theorem D6 (h:ZG w b o T c a) (x:Int):ZG (w.setCell ⟨b,o+8,none⟩ (iV x)) b o T (c.setIfInBounds (o+8) (iV x)) { a with at_:=x } :=
 ⟨ZV _ _ _ _ _ _ h.obj,h.Yr,ZU h.hl _ (by have:=h.Yr;omega),Z9 h.nx (by omega),Z9 h.kd (by omega),Z9 h.nu (by omega),Z9 h.ix (by omega),Z9 h.vl (by omega),Z9 h.ol (by omega),Z9 h.own (by omega),Z9 h.se (by omega),Yl _ h.at_,Z9 h.sz (by omega),Z9 h.ce (by omega),Z9 h.ld (by omega),Z9 h.E (by omega),Z9 h.H (by omega),Z9 h.V (by omega),Z9 h.St (by omega)⟩
theorem P5 (h:ZG w b o T c a) (x:Int):ZG (w.setCell ⟨b,o+9,none⟩ (iV x)) b o T (c.setIfInBounds (o+9) (iV x)) { a with sz:=x } :=
 ⟨ZV _ _ _ _ _ _ h.obj,h.Yr,ZU h.hl _ (by have:=h.Yr;omega),Z9 h.nx (by omega),Z9 h.kd (by omega),Z9 h.nu (by omega),Z9 h.ix (by omega),Z9 h.vl (by omega),Z9 h.ol (by omega),Z9 h.own (by omega),Z9 h.se (by omega),Z9 h.at_ (by omega),Yl _ h.sz,Z9 h.ce (by omega),Z9 h.ld (by omega),Z9 h.E (by omega),Z9 h.H (by omega),Z9 h.V (by omega),Z9 h.St (by omega)⟩
theorem Ak (h:ZG w b o T c a) (x:Int):ZG (w.setCell ⟨b,o+10,none⟩ (.int .u64 x)) b o T (c.setIfInBounds (o+10) (.int .u64 x)) { a with ce:=x } :=
 ⟨ZV _ _ _ _ _ _ h.obj,h.Yr,ZU h.hl _ (by have:=h.Yr;omega),Z9 h.nx (by omega),Z9 h.kd (by omega),Z9 h.nu (by omega),Z9 h.ix (by omega),Z9 h.vl (by omega),Z9 h.ol (by omega),Z9 h.own (by omega),Z9 h.se (by omega),Z9 h.at_ (by omega),Z9 h.sz (by omega),Yl _ h.ce,Z9 h.ld (by omega),Z9 h.E (by omega),Z9 h.H (by omega),Z9 h.V (by omega),Z9 h.St (by omega)⟩
theorem Aj (h:ZG w b o T c a) (x:Int):ZG (w.setCell ⟨b,o+11,none⟩ (iV x)) b o T (c.setIfInBounds (o+11) (iV x)) { a with ld:=x } :=
 ⟨ZV _ _ _ _ _ _ h.obj,h.Yr,ZU h.hl _ (by have:=h.Yr;omega),Z9 h.nx (by omega),Z9 h.kd (by omega),Z9 h.nu (by omega),Z9 h.ix (by omega),Z9 h.vl (by omega),Z9 h.ol (by omega),Z9 h.own (by omega),Z9 h.se (by omega),Z9 h.at_ (by omega),Z9 h.sz (by omega),Z9 h.ce (by omega),Yl _ h.ld,Z9 h.E (by omega),Z9 h.H (by omega),Z9 h.V (by omega),Z9 h.St (by omega)⟩
theorem OJ (h:ZG w b o T c a) (x:Int):ZG (w.setCell ⟨b,o+20,none⟩ (iV x)) b o T (c.setIfInBounds (o+20) (iV x)) { a with E:=x } :=
 ⟨ZV _ _ _ _ _ _ h.obj,h.Yr,ZU h.hl _ (by have:=h.Yr;omega),Z9 h.nx (by omega),Z9 h.kd (by omega),Z9 h.nu (by omega),Z9 h.ix (by omega),Z9 h.vl (by omega),Z9 h.ol (by omega),Z9 h.own (by omega),Z9 h.se (by omega),Z9 h.at_ (by omega),Z9 h.sz (by omega),Z9 h.ce (by omega),Z9 h.ld (by omega),Yl _ h.E,Z9 h.H (by omega),Z9 h.V (by omega),Z9 h.St (by omega)⟩
theorem QE (h:ZG w b o T c a) (x:Int):ZG (w.setCell ⟨b,o+21,none⟩ (.int .u64 x)) b o T (c.setIfInBounds (o+21) (.int .u64 x)) { a with H:=x } :=
 ⟨ZV _ _ _ _ _ _ h.obj,h.Yr,ZU h.hl _ (by have:=h.Yr;omega),Z9 h.nx (by omega),Z9 h.kd (by omega),Z9 h.nu (by omega),Z9 h.ix (by omega),Z9 h.vl (by omega),Z9 h.ol (by omega),Z9 h.own (by omega),Z9 h.se (by omega),Z9 h.at_ (by omega),Z9 h.sz (by omega),Z9 h.ce (by omega),Z9 h.ld (by omega),Z9 h.E (by omega),Yl _ h.H,Z9 h.V (by omega),Z9 h.St (by omega)⟩
theorem OI (h:ZG w b o T c a) (x:Int):ZG (w.setCell ⟨b,o+22,none⟩ (iV x)) b o T (c.setIfInBounds (o+22) (iV x)) { a with V:=x } :=
 ⟨ZV _ _ _ _ _ _ h.obj,h.Yr,ZU h.hl _ (by have:=h.Yr;omega),Z9 h.nx (by omega),Z9 h.kd (by omega),Z9 h.nu (by omega),Z9 h.ix (by omega),Z9 h.vl (by omega),Z9 h.ol (by omega),Z9 h.own (by omega),Z9 h.se (by omega),Z9 h.at_ (by omega),Z9 h.sz (by omega),Z9 h.ce (by omega),Z9 h.ld (by omega),Z9 h.E (by omega),Z9 h.H (by omega),Yl _ h.V,Z9 h.St (by omega)⟩
theorem Vs (h:ZG w b o T c a) (x:Int):ZG (w.setCell ⟨b,o+23,none⟩ (iV x)) b o T (c.setIfInBounds (o+23) (iV x)) { a with St:=x } :=
 ⟨ZV _ _ _ _ _ _ h.obj,h.Yr,ZU h.hl _ (by have:=h.Yr;omega),Z9 h.nx (by omega),Z9 h.kd (by omega),Z9 h.nu (by omega),Z9 h.ix (by omega),Z9 h.vl (by omega),Z9 h.ol (by omega),Z9 h.own (by omega),Z9 h.se (by omega),Z9 h.at_ (by omega),Z9 h.sz (by omega),Z9 h.ce (by omega),Z9 h.ld (by omega),Z9 h.E (by omega),Z9 h.H (by omega),Z9 h.V (by omega),Yl _ h.St⟩
end ZG
def Vr (L:Loc) (b o:Nat) (T:TypeId) (cs:Array Value) (w w':World) (X:Mm->CV->Prop):Prop :=
 ∃ s' cs' a',Z8 w' L s'/\Only (L.and b) w w'/\ZG w' b o T cs' a'/\Same o 24 cs cs'/\X s' a'
def D5 (L:Loc) (b o:Nat) (T:TypeId) (c c':Array Value) (s s':Mm) (a a':CV):Nat->World->Prop
 | 0,w=>Z8 w L s/\ZG w b o T c a
 | 1,w=>Z8 w L s'/\ZG w b o T c a
 | _,w=>Z8 w L s'/\ZG w b o T c' a'
theorem SL {L:Loc} {b o:Nat} {T:TypeId} {c c':Array Value} {s s':Mm} {a a':CV} (x y:World) (p:Nat) (g:Grown x y) (k:D5 L b o T c c' s s' a a' p x):D5 L b o T c c' s s' a a' p y:=by
 match p,k with
 | 0,k=>exact⟨k.1.below g,k.2.grown g⟩
 | 1,k=>exact⟨k.1.below g,k.2.grown g⟩
 | p+2,k=>exact⟨k.1.below g,k.2.grown g⟩
def uO (kd nu ix vl ol:Int) (own:Bool):CV:=⟨0,kd,nu,ix,vl,ol,own,0,0,0,0,0,Xl 0 0 0 0 0 false false false,0,0,0,0⟩
def Gq (kd nu ix vl ol:Int) (own:Bool):Obj:=.cells #[iV 0,iV kd,.int .u64 nu,iV ix,iV vl,iV ol,.bool own,.int .u64 0,iV 0,iV 0,.int .u64 0,iV 0,iV 0,.int .u64 0,iV 0,iV 0,.int .u64 0,.bool false,.bool false,.bool false,iV 0,.int .u64 0,iV 0,iV 0] 168
theorem MS (kd nu ix vl ol:Int) (own:Bool) (w:World) :
 Calls Tryz.prog 74 #[.agg #[iV kd,.int .u64 nu,iV ix,iV vl,iV ol],.bool own] w fun e w'=>∃ W,e=.returned (pP W.heap.size 0)/\w'=W.alloc (Gq kd nu ix vl ol own)/\Below w.heap.size w W:=by
 unfold Gq
 go_enter Tryz.func74,Tryz.ntmps74
 go_wp2
 go_ret
 exact⟨w.alloc _,by rw[Go.Deep.nblk_alloc];rfl,rfl,ZZ _ _⟩
theorem J3 (kd nu ix vl ol:Int) (own:Bool) (w:World):∃ cs,ZG (w.alloc (Gq kd nu ix vl ol own)) w.heap.size 0 168 cs (uO kd nu ix vl ol own):=by
 refine⟨_,Go.Deep.blk_alloc_new _ _,rfl,fun i v hv=>?_,rfl,rfl,rfl,rfl,rfl,rfl,rfl,rfl,rfl,rfl,rfl,rfl,rfl,rfl,rfl,rfl⟩
 have hl:i<8:=lt_of_some hv
 match i,hl with
 | 0,_=>exact hv
 | 1,_=>exact hv
 | 2,_=>exact hv
 | 3,_=>exact hv
 | 4,_=>exact hv
 | 5,_=>exact hv
 | 6,_=>exact hv
 | 7,_=>exact hv
theorem QD {w:World} {b o:Nat} {T:TypeId} {cs:Array Value} {a:CV} (hi:ZG w b o T cs a) :
 Calls Tryz.prog 204 #[pP b o] w fun e w'=>e=.returned (.agg #[iV a.E,.int .u64 a.H,iV a.V,iV a.St])/\Below w.heap.size w w':=by
 have i1:=hi.grown (ZZ _ (.cells #[iV 0,.int .u64 0,iV 0,iV 0] 53))
 have k1:=i1.D8
 have k2:=i1.Eg
 have k3:=i1.D7
 have k4:=i1.SN
 have j1:=hi.D8
 have j2:=hi.Eg
 have j3:=hi.D7
 have j4:=hi.SN
 go_enter Tryz.func204,Tryz.ntmps204
 go_wp2
 exact bodyPost_ret (v:=.agg #[iV a.E,.int .u64 a.H,iV a.V,iV a.St]) (by simp[results,Tryz.results204,go_sem]) rfl ⟨rfl,by first | exact Below.refl _ _ | exact ZZ _ _⟩
end
end Go.Proofs.YtgehjolndmgffaaGreat
