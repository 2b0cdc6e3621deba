import Derived.Test.YtibmjlefcaonnaaGreatLstSolo
namespace Go.Proofs.YtibmjlefcaonnaaGreat
open Go.RowKit
section
structure Lr where
 kd:Int
 ky:Int
 hd:Int
 nx:Int
 an:Int
 al:Int
 ax:Int
 hn:Int
 hl:Int
 hx:Int
 md:Int
 cE:Int
 cH:Int
 cV:Int
 cS:Int
namespace Lr
def lay (S:Lr) (nx:Int):Lr:={ S with nx:=nx }
def end_ (S:Lr) (E V St:Int):Lr:={ S with cE:=E,cH:=0,cV:=V,cS:=St,nx:=if S.md=0 then 13 else 9 }
def missing (S:Lr):Lr:=if S.kd=2 then (if S.md=0 then S.lay 5 else S.lay 7) else S.end_ 0 0 S.ax
def found (S:Lr):Lr:=if S.kd=3 then S.lay 10 else if S.kd=2 then S.end_ 0 0 S.hx else S.end_ 0 1 S.hx
def look (S:Lr):Lr:={ S with hn:=S.al % 4294967296,hl:=0,hx:=0 }
def reach (S:Lr):Lr:=if S.al % 4294967296=0 then S.look.missing else S.look.lay 1
def BF (S:Lr) (an al ax:Int):Lr:={ S with an:=an,al:=al,ax:=ax }
def lead (l nx:Int):Int:=nx+if 4294967296<=l then 4294967296 else 0
def WR (S:Lr) (E V St:Int):Lr:=if E=0 then (S.BF S.hd V St).reach else S.end_ E 0 St
def Vo (S:Lr) (E V St:Int):Lr:=if E=0 then { S with hl:=V,hx:=St,nx:=if 4294967296<=V then 2 else 4 } else S.lay 0
def passed (S:Lr) (E St:Int):Lr:=if E=0 then { S with al:=lead S.al (S.hl % 4294967296),ax:=St,nx:=3 } else S.lay 0
def TK (S:Lr) (E V:Int):Lr:=if E=0 then (if V<S.ky then (S.BF S.hn S.hl S.hx).reach else if V=S.ky then S.found else S.missing) else S.lay 0
def Vm (S:Lr) (E H St:Int):Lr:=if E=0 then { S with md:=H,nx:=6 } else S.end_ E 0 St
def wrote (S:Lr) (E St nx:Int):Lr:=if E=0 then S.lay nx else S.end_ E 0 St
def showed (S:Lr) (E St:Int):Lr:=if E=0 then { S with md:=0,cE:=0,cH:=0,cV:=1,cS:=St,nx:=13 } else S.lay 0
def marked (S:Lr) (E St:Int):Lr:=if E=0 then { S with cE:=0,cH:=0,cV:=1,cS:=St,nx:=11 } else S.lay 0
def Xo (S:Lr) (E:Int):Lr:=S.lay (if E=0 then 12 else 13)
def go (S:Lr) (E H V St:Int):Lr :=
 if S.nx=0 then S.WR E V St else if S.nx=1 then S.Vo E V St else if S.nx=2 then S.passed E St else if S.nx=3 then S.reach else if S.nx=4 then S.TK E V else if S.nx=5 then S.Vm E H St else if S.nx=6 then S.wrote E St 7 else if S.nx=7 then S.wrote E St 8 else if S.nx=8 then S.showed E St else if S.nx=10 then S.marked E St else if S.nx=11 then S.Xo E else S.lay 13
def want (S:Lr) (own:Bool):Xa :=
 if S.nx=0 then ⟨3,0,S.hd,1,0,0,own⟩ else if S.nx=1 then ⟨3,0,S.hn,1,0,0,own⟩ else if S.nx=4 then ⟨3,0,S.hn,0,0,0,own⟩ else if S.nx=2\/S.nx=11 then ⟨5,0,S.an,1,lead S.al (S.hl % 4294967296),S.al,own⟩ else if S.nx=3\/S.nx=12 then ⟨2,0,S.hn,0,0,0,own⟩ else if S.nx=5 then ⟨1,2,0,0,0,0,own⟩ else if S.nx=6 then ⟨4,0,S.md,0,S.ky,0,own⟩ else if S.nx=7 then ⟨4,0,S.md,1,S.hn,0,own⟩ else if S.nx=8 then ⟨5,0,S.an,1,lead S.al S.md,S.al,own⟩ else if S.nx=10 then ⟨5,0,S.hn,1,S.hl % 4294967296+4294967296,S.hl,own⟩ else ⟨2,0,S.md,0,0,0,own⟩
end Lr
structure Lr.ok (S:Lr):Prop where
 a0:0<=S.al
 a1:S.al<8589934592
 l0:0<=S.hl
 l1:S.hl<8589934592
 n0:0<=S.nx
 n1:S.nx<=13
namespace Lr
variable {S:Lr} {E H V St:Int}
theorem ok.lay (o:S.ok) {z:Int} (z0:0<=z) (z1:z<=13):(S.lay z).ok:=⟨o.a0,o.a1,o.l0,o.l1,z0,z1⟩
theorem ok.end_ (o:S.ok):(S.end_ E V St).ok:=⟨o.a0,o.a1,o.l0,o.l1,by show 0<=(if S.md=0 then _ else _);split <;> decide,by show (if S.md=0 then _ else _)<=_;split <;> decide⟩
theorem ok.missing (o:S.ok):S.missing.ok:=by
 unfold Lr.missing
 split
 . split
   . exact o.lay (by decide) (by decide)
   . exact o.lay (by decide) (by decide)
 . exact o.end_
theorem ok.found (o:S.ok):S.found.ok:=by
 unfold Lr.found
 split
 . exact o.lay (by decide) (by decide)
 . split
   . exact o.end_
   . exact o.end_
theorem ok.reach (o:S.ok):S.reach.ok:=by
 have l:S.look.ok:=⟨o.a0,o.a1,by show (0:Int)<=0;decide,by show (0:Int)<8589934592;decide,o.n0,o.n1⟩
 unfold Lr.reach
 split
 . exact l.missing
 . exact l.lay (by decide) (by decide)
theorem ok.BF (o:S.ok) {a x:Int} (v0:0<=V) (v1:V<8589934592):(S.BF a V x).ok:=⟨v0,v1,o.l0,o.l1,o.n0,o.n1⟩
theorem ok.go (o:S.ok) (v0:S.nx=0\/S.nx=1->E=0->0<=V/\V<8589934592):(S.go E H V St).ok:=by
 unfold Lr.go
 by_cases e0:S.nx=0
 . rw[if_pos e0]
   unfold Lr.WR
   split
   . rename_i h;obtain⟨x0,x1⟩:=v0 (Or.inl e0) h;exact(o.BF x0 x1).reach
   . exact o.end_
 rw[if_neg e0]
 by_cases e1:S.nx=1
 . rw[if_pos e1]
   unfold Lr.Vo
   split
   . rename_i h
     obtain⟨x0,x1⟩:=v0 (Or.inr e1) h
     exact⟨o.a0,o.a1,x0,x1,by show 0<=(if 4294967296<=V then _ else _);split <;> decide,by show (if 4294967296<=V then _ else _)<=_;split <;> decide⟩
   . exact o.lay (by decide) (by decide)
 rw[if_neg e1]
 by_cases e2:S.nx=2
 . rw[if_pos e2]
   unfold Lr.passed
   split
   . refine⟨?_,?_,o.l0,o.l1,(by decide:(0:Int)<=3),(by decide:(3:Int)<=13)⟩
     . show 0<=Lr.lead S.al (S.hl % 4294967296);unfold Lr.lead;split <;> omega
     . show Lr.lead S.al (S.hl % 4294967296)<8589934592;unfold Lr.lead;split <;> omega
   . exact o.lay (by decide) (by decide)
 rw[if_neg e2]
 by_cases e3:S.nx=3
 . rw[if_pos e3];exact o.reach
 rw[if_neg e3]
 by_cases e4:S.nx=4
 . rw[if_pos e4]
   unfold Lr.TK
   split
   . split
     . exact(o.BF o.l0 o.l1).reach
     . split
       . exact o.found
       . exact o.missing
   . exact o.lay (by decide) (by decide)
 rw[if_neg e4]
 by_cases e5:S.nx=5
 . rw[if_pos e5]
   unfold Lr.Vm
   split
   . exact⟨o.a0,o.a1,o.l0,o.l1,(by decide:(0:Int)<=6),(by decide:(6:Int)<=13)⟩
   . exact o.end_
 rw[if_neg e5]
 by_cases e6:S.nx=6
 . rw[if_pos e6]
   unfold Lr.wrote
   split
   . exact o.lay (by decide) (by decide)
   . exact o.end_
 rw[if_neg e6]
 by_cases e7:S.nx=7
 . rw[if_pos e7]
   unfold Lr.wrote
   split
   . exact o.lay (by decide) (by decide)
   . exact o.end_
 rw[if_neg e7]
 by_cases e8:S.nx=8
 . rw[if_pos e8]
   unfold Lr.showed
   split
   . exact⟨o.a0,o.a1,o.l0,o.l1,(by decide:(0:Int)<=13),(by decide:(13:Int)<=13)⟩
   . exact o.lay (by decide) (by decide)
 rw[if_neg e8]
 by_cases e9:S.nx=10
 . rw[if_pos e9]
   unfold Lr.marked
   split
   . exact⟨o.a0,o.a1,o.l0,o.l1,(by decide:(0:Int)<=11),(by decide:(11:Int)<=13)⟩
   . exact o.lay (by decide) (by decide)
 rw[if_neg e9]
 by_cases e10:S.nx=11
 . rw[if_pos e10]
   unfold Lr.Xo
   split
   . exact o.lay (by decide) (by decide)
   . exact o.lay (by decide) (by decide)
 rw[if_neg e10]
 exact o.lay (by decide) (by decide)
end Lr
end
section
def Cl.at_ (C:Cl) (po:Po):Cl:={ C with po:=po }
def Cl.mine (C:Cl) (my:Option Nat) (po:Po):Cl:={ C with my:=my,po:=po }
def Gh.md (h:Gh):Option Nat->Int
 | none=>0
 | some d=>h.H d
def Og (h:Gh) (C:Cl) (S:Lr):Po->Prop
 | .first=>S.nx=0/\S.md=h.md C.my
 | .link p s c=>S.nx=1/\S.md=h.md C.my/\S.an=h.H p/\S.al=h.H c/\S.ax=s/\S.hn=h.H c
 | .past p s c nx=>S.nx=2/\S.md=h.md C.my/\S.an=h.H p/\S.al=h.H c/\S.ax=s/\S.hn=h.H c/\S.hl=nx+4294967296
 | .drop p s c nx=>S.nx=3/\S.md=h.md C.my/\S.an=h.H p/\S.al=nx/\S.ax=s/\S.hn=h.H c
 | .key p s c nx s2=>S.nx=4/\S.md=h.md C.my/\S.an=h.H p/\S.al=h.H c/\S.ax=s/\S.hn=h.H c/\S.hl=nx/\S.hx=s2
 | .make p s nx=>S.nx=5/\S.md=0/\S.an=h.H p/\S.al=nx/\S.ax=s/\S.hn=nx/\C.my=none
 | .wkey p s nx d=>S.nx=6/\S.md=h.H d/\S.an=h.H p/\S.al=nx/\S.ax=s/\S.hn=nx/\C.my=none
 | .YL p s nx d=>S.nx=7/\S.md=h.H d/\S.an=h.H p/\S.al=nx/\S.ax=s/\S.hn=nx/\C.my=some d
 | .put p s nx d=>S.nx=8/\S.md=h.H d/\S.an=h.H p/\S.al=nx/\S.ax=s/\S.hn=nx
 | .mark p _ c nx s2=>S.nx=10/\S.md=0/\S.an=h.H p/\S.al=h.H c/\S.hn=h.H c/\S.hl=nx/\S.hx=s2
 | .lead p c nx st=>S.nx=11/\S.md=0/\S.an=h.H p/\S.al=h.H c/\S.hn=h.H c/\S.hl % 4294967296=nx/\S.cE=0/\S.cH=0/\S.cV=1/\S.cS=st/\C.kd=3
 | .Zo c st=>S.nx=12/\S.md=0/\S.hn=h.H c/\S.cE=0/\S.cH=0/\S.cV=1/\S.cS=st/\C.kd=3
 | .Zk d v st=>S.nx=9/\S.md=h.H d/\S.cE=0/\S.cH=0/\S.cV=v/\S.cS=st/\C.kd=2/\v=0
 | .over E v st=>S.nx=13/\S.cE=E/\S.cH=0/\S.cV=v/\S.cS=st
structure Xq (h:Gh) (hd:Nat) (C:Cl) (r:Option Rs) (S:Lr):Prop where
 kd:S.kd=C.kd
 ky:S.ky=C.k
 hh:S.hd=h.H hd
 k13:C.kd=1\/C.kd=2\/C.kd=3
 k2:C.kd≠2->C.my=none
 po:Og h C S C.po
 put:∀ p s nx d,C.po=.put p s nx d->(∀ r',r=some r'->r'.E≠0)->C.my=some d
def IV (h:Gh) (hd:Nat) (C:Cl) (p s:Nat) (nx:Int) (C':Cl):Prop:=(nx=0\/∃ c,h.ZL c=true/\nx=h.H c/\C.k<h.ky hd c)/\((C.kd≠2/\C'=C.at_ (.over 0 0 s))\/(C.kd=2/\C.my=none/\C'=C.at_ (.make p s nx))\/∃ d,C.kd=2/\C.my=some d/\C'=C.at_ (.YL p s nx d))
def Reach (h:Gh) (hd:Nat) (C:Cl) (p s:Nat) (nx:Int) (C':Cl):Prop:=(nx=0/\IV h hd C p s nx C')\/∃ c,nx=h.H c/\Node h hd c/\C'=C.at_ (.link p s c)
def Ae (h:Gh) (hd:Nat) (C:Cl) (R:Rs) (C':Cl):Po->Prop
 | .first=>R.E=0/\Reach h hd C hd R.St R.V C'
 | .link p s c=>(R.E≠0/\C'=C.at_ .first)\/(R.E=0/\4294967296<=R.V/\C'=C.at_ (.past p s c (R.V - 4294967296)))\/(R.E=0/\R.V<4294967296/\C'=C.at_ (.key p s c R.V R.St))
 | .past p _ c nx=>(R.E≠0/\C'=C.at_ .first)\/(R.E=0/\C'=C.at_ (.drop p R.St c nx))
 | .drop p s _ nx=>Reach h hd C p s nx C'
 | .key p s c nx s2=>(R.E≠0/\C'=C.at_ .first)\/(R.E=0/\R.V<C.k/\Reach h hd C c s2 nx C')\/(R.E=0/\C.k<R.V/\IV h hd C p s (h.H c) C')\/(R.E=0/\R.V=C.k/\((C.kd=3/\C'=C.at_ (.mark p s c nx s2))\/(C.kd=1/\C'=C.at_ (.over 0 1 s2))\/(C.kd=2/\C.my=none/\C'=C.at_ (.over 0 0 s2))\/∃ d,C.kd=2/\C.my=some d/\C'=C.mine none (.Zk d 0 s2)))
 | .make p s nx=>(R.E≠0/\C'=C.at_ (.over R.E 0 R.St))\/(R.E=0/\∃ d,d<h.J/\R.V=h.H d/\C'=C.at_ (.wkey p s nx d))
 | .wkey p s nx d=>C'=C.mine (some d) (.YL p s nx d)
 | .YL p s nx d=>C'=C.at_ (.put p s nx d)
 | .put _ _ _ _=>(R.E≠0/\C'=C.at_ .first)\/(R.E=0/\C'=C.mine none (.over 0 1 R.St))
 | .mark p _ c nx _=>(R.E≠0/\C'=C.at_ .first)\/(R.E=0/\C'=C.at_ (.lead p c nx R.St))
 | .lead _ c _ st=>(R.E≠0/\C'=C.at_ (.over 0 1 st))\/(R.E=0/\C'=C.at_ (.Zo c st))
 | .Zo _ st=>C'=C.at_ (.over 0 1 st)
 | .Zk _ v st=>C'=C.at_ (.over 0 v st)
 | .over _ _ _=>False
def QL (C:Cl) (R:Rs) (H V St:Int):Prop:=match C.po with
 | .make _ _ _=>H=R.V/\St=R.St
 | .drop _ _ _ _=>True
 | .Zo _ _=>True
 | .Zk _ _ _=>True
 | _=>V=R.V/\St=R.St
section
variable {t n k m σ K:Nat} {q:Q} {h:Gh} {jb:Nat->Jb} {hd:Nat} {F:List Nat} {u:Hi} {ts:Nat->Option (Cl × Option Rs)} {cg p r:Int} {C C':Cl} {R:Rs} {S:Lr} {H V St:Int}
theorem Ux {l nx:Int} (hl:l<4294967296):Lr.lead l nx=nx:=by unfold Lr.lead;rw[if_neg (by omega)];omega
theorem FQ {x:Int} (h0:0<=x) (h1:x<4294967296):x % 4294967296=x:=by omega
theorem Xq.miss {a s:Nat} {nx:Int} (I:Xq h hd C (some R) S) (hmk:S.md=h.md C.my) (hH:∀ d,C.my=some d->h.H d≠0) (f:nx=0\/∃ c,h.ZL c=true/\nx=h.H c/\C.k<h.ky hd c) (S':Lr) (e0:S'.kd=S.kd) (e1:S'.ky=S.ky) (e2:S'.hd=S.hd) (e3:S'.md=S.md) (e4:S'.an=h.H a) (e5:S'.al=nx) (e6:S'.ax=s) (e7:S'.hn=nx):∃ C',IV h hd C a s nx C'/\Xq h hd C' none S'.missing:=by
 by_cases k2:C.kd=2
 . have hk:S'.kd=2:=by rw[e0,I.kd];exact k2
   cases hm:C.my with
   | none =>
    have m0:S'.md=0:=by rw[e3,hmk,hm];rfl
    refine⟨C.at_ (.make a s nx),⟨f,Or.inr (Or.inl ⟨k2,hm,rfl⟩)⟩,?_⟩
    unfold Lr.missing
    rw[if_pos hk,if_pos m0]
    exact⟨e0.trans I.kd,e1.trans I.ky,e2.trans I.hh,I.k13,I.k2,⟨rfl,m0,e4,e5,e6,e7,hm⟩,fun _ _ _ _ e=>by cases e⟩
   | some d =>
    have m0:S'.md=h.H d:=by rw[e3,hmk,hm];rfl
    refine⟨C.at_ (.YL a s nx d),⟨f,Or.inr (Or.inr ⟨d,k2,hm,rfl⟩)⟩,?_⟩
    unfold Lr.missing
    rw[if_pos hk,if_neg (by rw[m0];exact hH d hm)]
    exact⟨e0.trans I.kd,e1.trans I.ky,e2.trans I.hh,I.k13,I.k2,⟨rfl,m0,e4,e5,e6,e7,hm⟩,fun _ _ _ _ e=>by cases e⟩
 . have hk:S'.kd≠2:=by rw[e0,I.kd];exact k2
   have hm:=I.k2 k2
   have m0:S'.md=0:=by rw[e3,hmk,hm];rfl
   refine⟨C.at_ (.over 0 0 s),⟨f,Or.inl ⟨k2,rfl⟩⟩,?_⟩
   unfold Lr.missing Lr.end_
   rw[if_neg hk,if_pos m0]
   exact⟨e0.trans I.kd,e1.trans I.ky,e2.trans I.hh,I.k13,I.k2,⟨rfl,rfl,rfl,rfl,e6⟩,fun _ _ _ _ e=>by cases e⟩
theorem Xq.reach {a s:Nat} {nx:Int} (L:Lw h hd σ F u) (hb:∀ c,Node h hd c->0<h.H c/\h.H c<4294967296) (I:Xq h hd C (some R) S) (hmk:S.md=h.md C.my) (hH:∀ d,C.my=some d->h.H d≠0) (A:Ahead h hd σ u C.k C.b a s nx) (S':Lr) (e0:S'.kd=S.kd) (e1:S'.ky=S.ky) (e2:S'.hd=S.hd) (e3:S'.md=S.md) (e4:S'.an=h.H a) (e5:S'.al=nx) (e6:S'.ax=s):∃ C',Reach h hd C a s nx C'/\Xq h hd C' none S'.reach:=by
 have hm:S'.al % 4294967296=nx:=by rw[e5];exact FQ A.NY.1 A.NY.2.1
 rcases A.leads L with e | ⟨c,hc,N⟩
 . obtain⟨C',h1,h2⟩:=I.miss hmk hH (Or.inl e) S'.look e0 e1 e2 e3 e4 e5 e6 hm
   refine⟨C',Or.inl ⟨e,h1⟩,?_⟩
   unfold Lr.reach
   rw[if_pos (hm.trans e)];exact h2
 . refine⟨C.at_ (.link a s c),Or.inr ⟨c,hc,N,rfl⟩,?_⟩
   have:=hb c N
   unfold Lr.reach
   rw[if_neg (fun e=>by rw[hm,hc] at e;exact absurd e (Int.ne_of_gt this.1))]
   exact⟨e0.trans I.kd,e1.trans I.ky,e2.trans I.hh,I.k13,I.k2,⟨rfl,e3.trans hmk,e4,e5.trans hc,e6,hm.trans hc⟩,fun _ _ _ _ e=>by cases e⟩
theorem Lc.ql (X:Lc t n k m q σ h jb hd F u ts) (hG:Good t n k m cg p r) (hn:n<=65535) (hJ:h.J<=60000) (hts:ts K=some (C,some R)) (I:Xq h hd C (some R) S) (hT:QL C R H V St):∃ C',Ae h hd C R C' C.po/\Xq h hd C' none (S.go R.E H V St):=by
 have T:=X.t K C _ hts
 have rk:=(T.told R rfl).2
 have hb:∀ c,Node h hd c->0<h.H c/\h.H c<4294967296:=fun c N=>FT X.m.g hG hn hJ N.dJ
 have hH:∀ d,C.my=some d->h.H d≠0:=fun d hd'=>by have:=FT X.m.g hG hn hJ (T.my d hd').1.dJ;omega
 have Vd:=I.put
 have ip:=I.po
 have hT2:=hT
 have fin:∀ {C':Cl} {S':Lr},S'.kd=S.kd->S'.ky=S.ky->S'.hd=S.hd->C'.kd=C.kd->C'.k=C.k->(C'.kd≠2->C'.my=none)->Og h C' S' C'.po->(∀ p s nx d,C'.po=.put p s nx d->C'.my=some d)->Xq h hd C' none S':=fun e0 e1 e2 e3 e4 e5 e6 e7 =>
  ⟨e0.trans (I.kd.trans e3.symm),e1.trans (I.ky.trans e4.symm),e2.trans I.hh,by rw[e3];exact I.k13,e5,e6,fun p s nx d e _=>e7 p s nx d e⟩
 unfold Lr.go
 unfold QL at hT2
 revert rk Vd ip hT2
 cases hpo:C.po with
 | first =>
  intro rk Vd ⟨i0,i1⟩ ⟨t1,t2⟩
  rw[if_pos i0]
  obtain⟨a1,a2⟩:=rk.Oe X.l T.k0
  obtain⟨C',h1,h2⟩:=I.reach X.l hb i1 hH a2 (S.BF S.hd V St) rfl rfl rfl rfl I.hh t1 t2
  refine⟨C',⟨a1,h1⟩,?_⟩
  unfold Lr.WR
  rw[if_pos a1];exact h2
 | link a s c =>
  intro rk Vd ⟨i0,i1,i2,i3,i4,i5⟩ ⟨t1,t2⟩
  rw[if_neg (by omega),if_pos i0]
  unfold Lr.Vo
  by_cases e:R.E=0
  . rw[if_pos e]
    rcases rk.PI X.l T.k0 e with⟨hv,kn⟩ | ⟨hv,kn⟩
    . refine⟨_,Or.inr (Or.inl ⟨e,hv,rfl⟩),fin rfl rfl rfl rfl rfl I.k2 ⟨?_,i1,i2,i3,i4,i5,?_⟩ (fun _ _ _ _ e=>by cases e)⟩
      . show (if _ then _ else _)=_;rw[t1,if_pos hv]
      . show V=_;rw[t1];omega
    . refine⟨_,Or.inr (Or.inr ⟨e,hv,rfl⟩),fin rfl rfl rfl rfl rfl I.k2 ⟨?_,i1,i2,i3,i4,i5,t1,t2⟩ (fun _ _ _ _ e=>by cases e)⟩
      show (if _ then _ else _)=_;rw[t1,if_neg (by omega)]
  . rw[if_neg e]
    exact⟨_,Or.inl ⟨e,rfl⟩,fin rfl rfl rfl rfl rfl I.k2 ⟨rfl,i1⟩ (fun _ _ _ _ e=>by cases e)⟩
 | past a s c nx =>
  intro rk Vd ⟨i0,i1,i2,i3,i4,i5,i6⟩ ⟨t1,t2⟩
  rw[if_neg (by omega),if_neg (by omega),if_pos i0]
  unfold Lr.passed
  by_cases e:R.E=0
  . rw[if_pos e]
    obtain⟨⟨A,N,-,-⟩,-⟩:=rk e
    refine⟨_,Or.inr ⟨e,rfl⟩,fin rfl rfl rfl rfl rfl I.k2 ⟨rfl,i1,i2,?_,t2,i5⟩ (fun _ _ _ _ e=>by cases e)⟩
    have:=hb c N
    have h1:=A.NY.1
    have h2:=A.NY.2.1
    show Lr.lead S.al (S.hl % 4294967296)=nx
    rw[i3,Ux this.2,i6];omega
  . rw[if_neg e]
    exact⟨_,Or.inl ⟨e,rfl⟩,fin rfl rfl rfl rfl rfl I.k2 ⟨rfl,i1⟩ (fun _ _ _ _ e=>by cases e)⟩
 | drop a s c nx =>
  intro rk Vd ⟨i0,i1,i2,i3,i4,i5⟩ _
  rw[if_neg (by omega),if_neg (by omega),if_neg (by omega),if_pos i0]
  exact I.reach X.l hb i1 hH rk S rfl rfl rfl rfl i2 i3 i4
 | key a s c nx s2 =>
  intro rk Vd ⟨i0,i1,i2,i3,i4,i5,i6,i7⟩ ⟨t1,t2⟩
  rw[if_neg (by omega),if_neg (by omega),if_neg (by omega),if_neg (by omega),if_pos i0]
  unfold Lr.TK
  by_cases e:R.E=0
  . rw[if_pos e,I.ky,t1]
    by_cases hl:R.V<C.k
    . rw[if_pos hl]
      obtain⟨C',h1,h2⟩:=I.reach X.l hb i1 hH (rk.Oc e hl) (S.BF S.hn S.hl S.hx) rfl rfl rfl rfl i5 i6 i7
      exact⟨C',Or.inr (Or.inl ⟨e,hl,h1⟩),h2⟩
    . rw[if_neg hl]
      by_cases he:R.V=C.k
      . rw[if_pos he]
        unfold Lr.found
        rw[I.kd]
        by_cases k3:C.kd=3
        . rw[if_pos k3]
          have hm:=I.k2 (by omega)
          refine⟨_,Or.inr (Or.inr (Or.inr ⟨e,he,Or.inl ⟨k3,rfl⟩⟩)),fin rfl rfl rfl rfl rfl I.k2 ⟨rfl,?_,i2,i3,i5,i6,i7⟩ (fun _ _ _ _ e=>by cases e)⟩
          exact i1.trans (by rw[hm];rfl)
        . rw[if_neg k3]
          by_cases k2:C.kd=2
          . rw[if_pos k2]
            unfold Lr.end_
            cases hm:C.my with
            | none =>
             refine⟨_,Or.inr (Or.inr (Or.inr ⟨e,he,Or.inr (Or.inr (Or.inl ⟨k2,hm,rfl⟩))⟩)),fin rfl rfl rfl rfl rfl I.k2 ⟨?_,rfl,rfl,rfl,i7⟩ (fun _ _ _ _ e=>by cases e)⟩
             show (if S.md=0 then _ else _)=_
             rw[if_pos (i1.trans (by rw[hm];rfl))]
            | some d =>
             have m0:S.md=h.H d:=i1.trans (by rw[hm];rfl)
             refine⟨_,Or.inr (Or.inr (Or.inr ⟨e,he,Or.inr (Or.inr (Or.inr ⟨d,k2,hm,rfl⟩))⟩)),fin rfl rfl rfl rfl rfl (fun _=>rfl) ⟨?_,m0,rfl,rfl,rfl,i7,k2,rfl⟩ (fun _ _ _ _ e=>by cases e)⟩
             show (if S.md=0 then _ else _)=_
             rw[if_neg (by rw[m0];exact hH d hm)]
          . rw[if_neg k2]
            have hm:=I.k2 k2
            have k1:C.kd=1:=by have:=I.k13;omega
            unfold Lr.end_
            refine⟨_,Or.inr (Or.inr (Or.inr ⟨e,he,Or.inr (Or.inl ⟨k1,rfl⟩)⟩)),fin rfl rfl rfl rfl rfl I.k2 ⟨?_,rfl,rfl,rfl,i7⟩ (fun _ _ _ _ e=>by cases e)⟩
            show (if S.md=0 then _ else _)=_
            rw[if_pos (i1.trans (by rw[hm];rfl))]
      . rw[if_neg he]
        have hg:C.k<R.V:=by omega
        obtain⟨A,f⟩:=rk.Ob e hg
        obtain⟨C',h1,h2⟩:=I.miss i1 hH f S rfl rfl rfl rfl i2 i3 i4 i5
        exact⟨C',Or.inr (Or.inr (Or.inl ⟨e,hg,h1⟩)),h2⟩
  . rw[if_neg e]
    exact⟨_,Or.inl ⟨e,rfl⟩,fin rfl rfl rfl rfl rfl I.k2 ⟨rfl,i1⟩ (fun _ _ _ _ e=>by cases e)⟩
 | make a s nx =>
  intro rk Vd ⟨i0,i1,i2,i3,i4,i5,i6⟩ ⟨t1,t2⟩
  rw[if_neg (by omega),if_neg (by omega),if_neg (by omega),if_neg (by omega),if_neg (by omega),if_pos i0]
  unfold Lr.Vm
  by_cases e:R.E=0
  . rw[if_pos e]
    obtain⟨d,h1,-,-,o⟩:=rk e
    exact⟨_,Or.inr ⟨e,d,o.dJ,h1,rfl⟩,fin rfl rfl rfl rfl rfl I.k2 ⟨rfl,t1.trans h1,i2,i3,i4,i5,i6⟩ (fun _ _ _ _ e=>by cases e)⟩
  . rw[if_neg e]
    unfold Lr.end_
    refine⟨_,Or.inl ⟨e,rfl⟩,fin rfl rfl rfl rfl rfl I.k2 ⟨?_,rfl,rfl,rfl,t2⟩ (fun _ _ _ _ e=>by cases e)⟩
    show (if S.md=0 then _ else _)=_
    rw[if_pos i1]
 | wkey a s nx d =>
  intro rk Vd ⟨i0,i1,i2,i3,i4,i5,i6⟩ ⟨t1,t2⟩
  rw[if_neg (by omega),if_neg (by omega),if_neg (by omega),if_neg (by omega),if_neg (by omega),if_neg (by omega),if_pos i0]
  unfold Lr.wrote
  rw[if_pos rk.1]
  have k2:C.kd=2:=by have:=T.kd;rw[hpo] at this;exact this (by simp[Po.kd])
  exact⟨_,rfl,fin rfl rfl rfl rfl rfl (fun e=>absurd k2 e) ⟨rfl,i1,i2,i3,i4,i5,rfl⟩ (fun _ _ _ _ e=>by cases e)⟩
 | YL a s nx d =>
  intro rk Vd ⟨i0,i1,i2,i3,i4,i5,i6⟩ ⟨t1,t2⟩
  rw[if_neg (by omega),if_neg (by omega),if_neg (by omega),if_neg (by omega),if_neg (by omega),if_neg (by omega),if_neg (by omega),if_pos i0]
  unfold Lr.wrote
  rw[if_pos rk.1]
  exact⟨_,rfl,fin rfl rfl rfl rfl rfl I.k2 ⟨rfl,i1,i2,i3,i4,i5⟩ (fun p s nx d' e=>by injection e with e1 e2 e3 e4;rw[<- e4];exact i6)⟩
 | put a s nx d =>
  intro rk Vd ⟨i0,i1,i2,i3,i4,i5⟩ ⟨t1,t2⟩
  rw[if_neg (by omega),if_neg (by omega),if_neg (by omega),if_neg (by omega),if_neg (by omega),if_neg (by omega),if_neg (by omega),if_neg (by omega),if_pos i0]
  unfold Lr.showed
  by_cases e:R.E=0
  . rw[if_pos e]
    exact⟨_,Or.inr ⟨e,rfl⟩,fin rfl rfl rfl rfl rfl (fun _=>rfl) ⟨rfl,rfl,rfl,rfl,t2⟩ (fun _ _ _ _ e=>by cases e)⟩
  . rw[if_neg e]
    have hm:=Vd a s nx d rfl (fun r' e'=>by injection e' with e';rw[<- e'];exact e)
    exact⟨_,Or.inl ⟨e,rfl⟩,fin rfl rfl rfl rfl rfl I.k2 ⟨rfl,i1.trans (by show _=h.md C.my;rw[hm];rfl)⟩ (fun _ _ _ _ e=>by cases e)⟩
 | mark a s c nx s2 =>
  intro rk Vd ⟨i0,i1,i2,i3,i5,i6,i7⟩ ⟨t1,t2⟩
  rw[if_neg (by omega),if_neg (by omega),if_neg (by omega),if_neg (by omega),if_neg (by omega),if_neg (by omega),if_neg (by omega),if_neg (by omega),if_neg (by omega),if_pos i0]
  unfold Lr.marked
  have k3:C.kd=3:=by have:=T.kd;rw[hpo] at this;exact this (by simp[Po.kd])
  by_cases e:R.E=0
  . rw[if_pos e]
    obtain⟨-,-,⟨-,g1,g2⟩,-⟩:=rk e
    refine⟨_,Or.inr ⟨e,rfl⟩,fin rfl rfl rfl rfl rfl I.k2 ⟨rfl,i1,i2,i3,i5,?_,rfl,rfl,rfl,t2,k3⟩ (fun _ _ _ _ e=>by cases e)⟩
    show S.hl % 4294967296=nx
    rw[i6];exact FQ g1 g2
  . rw[if_neg e]
    have hm:C.my=none:=I.k2 (by omega)
    exact⟨_,Or.inl ⟨e,rfl⟩,fin rfl rfl rfl rfl rfl I.k2 ⟨rfl,i1.trans (by show _=h.md C.my;rw[hm];rfl)⟩ (fun _ _ _ _ e=>by cases e)⟩
 | lead a c nx st =>
  intro rk Vd ⟨i0,i1,i2,i3,i5,i6,i7,i8,i9,i10,i11⟩ ⟨t1,t2⟩
  rw[if_neg (by omega),if_neg (by omega),if_neg (by omega),if_neg (by omega),if_neg (by omega),if_neg (by omega),if_neg (by omega),if_neg (by omega),if_neg (by omega),if_neg (by omega),if_pos i0]
  unfold Lr.Xo
  by_cases e:R.E=0
  . rw[if_pos e]
    exact⟨_,Or.inr ⟨e,rfl⟩,fin rfl rfl rfl rfl rfl I.k2 ⟨rfl,i1,i5,i7,i8,i9,i10,i11⟩ (fun _ _ _ _ e=>by cases e)⟩
  . rw[if_neg e]
    exact⟨_,Or.inl ⟨e,rfl⟩,fin rfl rfl rfl rfl rfl I.k2 ⟨rfl,i7,i8,i9,i10⟩ (fun _ _ _ _ e=>by cases e)⟩
 | Zo c st =>
  intro rk Vd ⟨i0,i1,i5,i7,i8,i9,i10,i11⟩ _
  rw[if_neg (by omega),if_neg (by omega),if_neg (by omega),if_neg (by omega),if_neg (by omega),if_neg (by omega),if_neg (by omega),if_neg (by omega),if_neg (by omega),if_neg (by omega),if_neg (by omega)]
  exact⟨_,rfl,fin rfl rfl rfl rfl rfl I.k2 ⟨rfl,i7,i8,i9,i10⟩ (fun _ _ _ _ e=>by cases e)⟩
 | Zk d v st =>
  intro rk Vd ⟨i0,i1,i7,i8,i9,i10,i11,i12⟩ _
  rw[if_neg (by omega),if_neg (by omega),if_neg (by omega),if_neg (by omega),if_neg (by omega),if_neg (by omega),if_neg (by omega),if_neg (by omega),if_neg (by omega),if_neg (by omega),if_neg (by omega)]
  exact⟨_,rfl,fin rfl rfl rfl rfl rfl I.k2 ⟨rfl,i7,i8,i9,i10⟩ (fun _ _ _ _ e=>by cases e)⟩
 | over E v st=>intro rk;exact rk.elim
end
end
section
def Cl.Wj (h:Gh) (hd:Nat) (C:Cl):Jb:=match C.po with
 | .first=>.ac ⟨1,h.H hd,1,0,0⟩ hd .see
 | .link _ _ c=>.ac ⟨1,h.H c,1,0,0⟩ c .see
 | .past p _ c nx=>.ac ⟨3,h.H p,1,nx,h.H c⟩ p .see
 | .drop _ _ c _=>.dp c .see
 | .key _ _ c _ _=>.ac ⟨1,h.H c,0,0,0⟩ c .see
 | .make _ _ _=>.al 0 (.take .idle)
 | .wkey _ _ _ d=>.ac ⟨2,h.H d,0,C.k,0⟩ d .see
 | .YL _ _ nx d=>.ac ⟨2,h.H d,1,nx,0⟩ d .see
 | .put p _ nx d=>.ac ⟨3,h.H p,1,h.H d,nx⟩ p .see
 | .mark _ _ c nx _=>.ac ⟨3,h.H c,1,nx+4294967296,nx⟩ c .see
 | .lead p c nx _=>.ac ⟨3,h.H p,1,nx,h.H c⟩ p .see
 | .Zo c _=>.dp c .see
 | .Zk d _ _=>.dp d .see
 | .over _ _ _=>.nil
def Po.bd (J:Nat):Po->Prop
 | .first=>True
 | .link p _ c=>p<J/\c<J
 | .past p _ c _=>p<J/\c<J
 | .drop p _ c _=>p<J/\c<J
 | .key p _ c _ _=>p<J/\c<J
 | .make p _ _=>p<J/\p<J
 | .wkey p _ _ d=>p<J/\d<J
 | .YL p _ _ d=>p<J/\d<J
 | .put p _ _ d=>p<J/\d<J
 | .mark p _ c _ _=>p<J/\c<J
 | .lead p c _ _=>p<J/\c<J
 | .Zo c _=>c<J/\c<J
 | .Zk d _ _=>d<J/\d<J
 | .over _ _ _=>True
structure Cl.bd (J hd:Nat) (C:Cl):Prop where
 h:hd<J
 my:∀ d,C.my=some d->d<J
 po:C.po.bd J
section
variable {t n k m σ K:Nat} {q q':Q} {h h':Gh} {jb:Nat->Jb} {hd:Nat} {F F':List Nat} {u u':Hi} {ts:Nat->Option (Cl × Option Rs)} {cg p r:Int} {C C':Cl} {R:Rs} {S:Lr} {rs rs':Option Rs} {b':Jb} {pb:Bool}
theorem Cl.bd.up {J J':Nat} (B:C.bd J hd) (hJ:J<=J'):C.bd J' hd:=by
 refine⟨Nat.lt_of_lt_of_le B.h hJ,fun d e=>Nat.lt_of_lt_of_le (B.my d e) hJ,?_⟩
 have:=B.po
 revert this
 cases C.po <;> first | exact fun _=>trivial | exact fun x=>⟨Nat.lt_of_lt_of_le x.1 hJ,Nat.lt_of_lt_of_le x.2 hJ⟩
theorem Gi (hn:∀ j,j<h.J->h'.nd j=h.nd j) {j:Nat} (hj:j<h.J):h'.H j=h.H j:=by unfold Gh.H;rw[hn j hj]
theorem Xq.on (I:Xq h hd C rs S) (B:C.bd h.J hd) (hn:∀ j,j<h.J->h'.nd j=h.nd j):Xq h' hd C rs S:=by
 refine⟨I.kd,I.ky,I.hh.trans (Gi hn B.h).symm,I.k13,I.k2,?_,I.put⟩
 have b:=B.po
 have i:=I.po
 have em:h'.md C.my=h.md C.my:=by
  cases hm:C.my with
  | none=>rfl
  | some d=>exact Gi hn (B.my d hm)
 revert b i
 cases C.po with
 | first=>intro _ i;simp only[Og,em] at i ⊢;exact i
 | over=>intro _ i;exact i
 | _=>intro b i;simp only[Og,em,Gi hn b.1,Gi hn b.2] at i ⊢;exact i
theorem SN.nd (G:SN t n k m cg h σ q u F K C rs (jb K) h' q' u' F' C' rs' b' pb):h.J<=h'.J/\∀ j,j<h.J->h'.nd j=h.nd j:=by
 cases G with
 | pin=>exact⟨Nat.le_refl _,fun _ _=>rfl⟩
 | ac hb hr ht G=>exact⟨by rw[G.J];exact Nat.le_refl _,fun _ _=>by rw[G.nd]⟩
 | dp hb hr ht c h1 h2=>exact⟨by rw[c.J];exact Nat.le_refl _,fun _ _=>by rw[c.nd]⟩
 | al hb hr ht ev h1 h2 =>
  cases ev with
  | on c=>exact⟨by rw[c.J];exact Nat.le_refl _,fun _ _=>by rw[c.nd]⟩
  | YF=>exact⟨Nat.le_succ _,fun j hj=>Z8 _ _ _ _ (by omega)⟩
  | made hj hd' hm h2 h3 c=>exact⟨by rw[c.J];exact Nat.le_refl _,fun _ _=>by rw[c.nd]⟩
  | none=>exact⟨Nat.le_refl _,fun _ _=>rfl⟩
  | full c=>exact⟨by rw[c.J];exact Nat.le_refl _,fun _ _=>by rw[c.nd]⟩
theorem SN.J (G:SN t n k m cg h σ q u F K C rs (jb K) h' q' u' F' C' rs' b' pb):h'.J<=h.J+1:=by
 cases G with
 | pin=>exact Nat.le_succ _
 | ac hb hr ht G=>rw[G.J];exact Nat.le_succ _
 | dp hb hr ht c h1 h2=>rw[c.J];exact Nat.le_succ _
 | al hb hr ht ev h1 h2 =>
  cases ev with
  | on c=>rw[c.J];exact Nat.le_succ _
  | YF=>exact Nat.le_refl _
  | made hj hd' hm h2 h3 c=>rw[c.J];exact Nat.le_succ _
  | none=>exact Nat.le_succ _
  | full c=>rw[c.J];exact Nat.le_succ _
theorem SN.mine (G:SN t n k m cg h σ q u F K C rs (jb K) h' q' u' F' C' rs' b' pb):(C'=C/\(rs'=rs\/rs=none))\/∃ R,rs=none/\rs'=some R/\C'=C.after R:=by
 cases G with
 | pin=>exact Or.inl ⟨rfl,Or.inl rfl⟩
 | dp hb hr=>exact Or.inl ⟨rfl,Or.inr hr⟩
 | al hb hr=>exact Or.inl ⟨rfl,Or.inr hr⟩
 | @ac W j α α' _ _ _ _ _ _ hb hr ht G =>
  cases ho:α'.ZR with
  | false=>exact Or.inl ⟨(G.on ho).1,Or.inr hr⟩
  | true =>
   cases α' with
   | over E V st=>exact Or.inr ⟨_,hr,(G.end_ E V st rfl).1,(G.end_ E V st rfl).2⟩
   | _=>cases ho
theorem Xq.go1 (I:Xq h hd C rs S) (B:C.bd h.J hd) (G:SN t n k m cg h σ q u F K C rs (jb K) h' q' u' F' C' rs' b' pb):Xq h' hd C' rs' S/\C'.bd h'.J hd:=by
 obtain⟨hJ,hn⟩:=G.nd
 have I':=I.on B hn
 have B':=B.up hJ
 rcases G.mine with⟨rfl,e⟩ | ⟨R,e1,e2,e3⟩
 . refine⟨⟨I'.kd,I'.ky,I'.hh,I'.k13,I'.k2,I'.po,fun p s nx d hp hE=>?_⟩,B'⟩
   rcases e with rfl | e
   . exact I'.put p s nx d hp hE
   . exact I'.put p s nx d hp (fun r' e'=>by rw[e] at e';cases e')
 . obtain⟨s1,s2,s3,s4⟩:=Rz C R
   rw[<- e3] at s1 s2 s3 s4
   have ip:=I'.po
   have bp:=B'.po
   rw[<- s1] at ip bp
   have Qy:C'.my=C.my\/C'.my=none:=by
    rw[e3];unfold Cl.after
    split
    . split
      . exact Or.inr rfl
      . exact Or.inl rfl
    . exact Or.inl rfl
   have hpo:Og h' C' S C'.po:=by
    have hsame:(∀ p s nx d,C.po≠.put p s nx d)->C'.my=C.my:=fun hne=>by
     rw[e3];unfold Cl.after
     split
     . rename_i p s nx d hp;exact absurd hp (hne p s nx d)
     . rfl
    rw[s1] at ip ⊢
    revert ip hsame
    cases C.po with
    | put=>exact fun ip _=>ip
    | _=>intro ip hs;simp only[Og,hs (fun _ _ _ _ e=>by cases e),s3] at ip ⊢;exact ip
   refine⟨⟨I'.kd.trans s3.symm,I'.ky.trans s2.symm,I'.hh,by rw[s3];exact I'.k13,fun hk=>?_,hpo,fun p s nx d hp hE=>?_⟩,⟨B'.h,fun d e=>?_,bp⟩⟩
   . rw[s3] at hk
     rcases Qy with e | e
     . rw[e];exact I'.k2 hk
     . exact e
   . have hE':=hE R e2
     have:C'=C:=by
      rw[e3];unfold Cl.after
      split
      . rw[if_neg hE']
      . rfl
     rw[this] at hp ⊢
     exact I'.put p s nx d hp (fun r' e'=>by rw[e1] at e';cases e')
   . rcases Qy with e' | e'
     . rw[e'] at e;exact B'.my d e
     . rw[e'] at e;cases e
theorem Ae.same (N:Ae h hd C R C' C.po):C'.kd=C.kd/\C'.k=C.k/\C'.b=C.b:=by
 have miss:∀ {a s nx},IV h hd C a s nx C'->C'.kd=C.kd/\C'.k=C.k/\C'.b=C.b:=fun M=>by
  rcases M.2 with⟨-,e⟩ | ⟨-,-,e⟩ | ⟨d,-,-,e⟩ <;> rw[e] <;> exact⟨rfl,rfl,rfl⟩
 have reach:∀ {a s nx},Reach h hd C a s nx C'->C'.kd=C.kd/\C'.k=C.k/\C'.b=C.b:=fun M=>by
  rcases M with⟨-,M⟩ | ⟨c,-,-,e⟩
  . exact miss M
  . rw[e];exact⟨rfl,rfl,rfl⟩
 revert N
 cases C.po with
 | first=>exact fun N=>reach N.2
 | link=>rintro(⟨-,e⟩ | ⟨-,-,e⟩ | ⟨-,-,e⟩) <;> rw[e] <;> exact⟨rfl,rfl,rfl⟩
 | past=>rintro(⟨-,e⟩ | ⟨-,e⟩) <;> rw[e] <;> exact⟨rfl,rfl,rfl⟩
 | drop=>exact fun N=>reach N
 | key =>
  rintro(⟨-,e⟩ | ⟨-,-,e⟩ | ⟨-,-,e⟩ | ⟨-,-,⟨-,e⟩ | ⟨-,e⟩ | ⟨-,-,e⟩ | ⟨d,-,-,e⟩⟩)
  . rw[e];exact⟨rfl,rfl,rfl⟩
  . exact reach e
  . exact miss e
  all_goals rw[e];exact⟨rfl,rfl,rfl⟩
 | make=>rintro(⟨-,e⟩ | ⟨-,d,-,-,e⟩) <;> rw[e] <;> exact⟨rfl,rfl,rfl⟩
 | wkey=>intro e;rw[show C'=_ from e];exact⟨rfl,rfl,rfl⟩
 | YL=>intro e;rw[show C'=_ from e];exact⟨rfl,rfl,rfl⟩
 | put=>rintro(⟨-,e⟩ | ⟨-,e⟩) <;> rw[e] <;> exact⟨rfl,rfl,rfl⟩
 | mark=>rintro(⟨-,e⟩ | ⟨-,e⟩) <;> rw[e] <;> exact⟨rfl,rfl,rfl⟩
 | lead=>rintro(⟨-,e⟩ | ⟨-,e⟩) <;> rw[e] <;> exact⟨rfl,rfl,rfl⟩
 | Zo=>intro e;rw[show C'=_ from e];exact⟨rfl,rfl,rfl⟩
 | Zk=>intro e;rw[show C'=_ from e];exact⟨rfl,rfl,rfl⟩
 | over=>exact fun e=>e.elim
structure QM (h:Gh) (hd σ:Nat) (u:Hi) (K:Nat) (C C':Cl) (R:Rs):Prop where
 kn:Kn h hd σ u K C' C'.po
 my:∀ d,C'.my=some d->Own h hd K d/\h.cv d 0=C.k
 kd:C'.po.kd≠0->C.kd=C'.po.kd
 dp:∀ d v st,C'.po=.Zk d v st->h.st d=3/\d≠hd
 dr:(∀ p s c nx,C'.po=.drop p s c nx->h.st c=3)/\∀ c st,C'.po=.Zo c st->h.st c=3
 cl:claim C' none=claim C (some R)
structure Qx (σ:Nat) (u:Hi) (C:Cl) (R:Rs) (E v:Int) (st:Nat):Prop where
 ok:E=0->Right σ u C.kd C.k C.b v st
 cl:claim C (some R)=if v=1/\C.kd≠1 then some st else none
 er:E≠0->(∃ p s nx,C.po=.make p s nx)/\E=R.E/\v=0
theorem Lc.going (X:Lc t n k m q σ h jb hd F u ts) (hG:Good t n k m cg p r) (hn:n<=65535) (hJ:h.J<=60000) (hts:ts K=some (C,some R)) (I:Xq h hd C (some R) S) (N:Ae h hd C R C' C.po):(∃ E v st,C'.po=.over E v st/\Qx σ u C R E v st)\/((∀ E v st,C'.po≠.over E v st)/\QM h hd σ u K C C' R):=by
 have T:=X.t K C _ hts
 have rk:=(T.told R rfl).2
 have k13:=I.k13
 have nN:=I.k2
 have zn:=I.po
 have Vd:=I.put
 have hkd:=T.kd
 have Qy:=T.my
 -- it is not there
 have miss:∀ {a s nx},Ahead h hd σ u C.k C.b a s nx->claim C (some R)=none->IV h hd C a s nx C'->(∃ E v st,C'.po=.over E v st/\Qx σ u C R E v st)\/((∀ E v st,C'.po≠.over E v st)/\QM h hd σ u K C C' R):=fun {a s nx} A hc M=>by
  obtain⟨f,M⟩:=M
  rcases M with⟨k2,e⟩ | ⟨k2,m0,e⟩ | ⟨d,k2,m0,e⟩
  . rw[e]
    exact Or.inl ⟨0,0,s,rfl,fun _=>A.absent f k2,by rw[hc,if_neg (fun x=>absurd x.1 (by decide))],fun e=>absurd rfl e⟩
  . rw[e]
    exact Or.inr ⟨(fun _ _ _ e=>by cases e),⟨A,f⟩,(fun d e=>by rw[show (C.at_ (.make a s nx)).my=C.my from rfl,m0] at e;cases e),fun _=>k2,(fun _ _ _ e=>by cases e),⟨(fun _ _ _ _ e=>by cases e),fun _ _ e=>by cases e⟩,hc.symm⟩
  . rw[e]
    obtain⟨o1,o2⟩:=Qy d m0
    exact Or.inr ⟨(fun _ _ _ e=>by cases e),⟨A,f,o1,o2⟩,Qy,fun _=>k2,(fun _ _ _ e=>by cases e),⟨(fun _ _ _ _ e=>by cases e),fun _ _ e=>by cases e⟩,hc.symm⟩
 have reach:∀ {a s nx},Ahead h hd σ u C.k C.b a s nx->claim C (some R)=none->Reach h hd C a s nx C'->(∃ E v st,C'.po=.over E v st/\Qx σ u C R E v st)\/((∀ E v st,C'.po≠.over E v st)/\QM h hd σ u K C C' R):=fun {a s nx} A hc M=>by
  rcases M with⟨-,M⟩ | ⟨c,e1,N1,e⟩
  . exact miss A hc M
  . rw[e]
    rw[e1] at A
    exact Or.inr ⟨(fun _ _ _ e=>by cases e),⟨A,N1⟩,Qy,(fun x=>absurd rfl x),(fun _ _ _ e=>by cases e),⟨(fun _ _ _ _ e=>by cases e),fun _ _ e=>by cases e⟩,hc.symm⟩
 have first:claim C (some R)=none->C'=C.at_ .first->(∃ E v st,C'.po=.over E v st/\Qx σ u C R E v st)\/((∀ E v st,C'.po≠.over E v st)/\QM h hd σ u K C C' R):=fun hc e=>by
  rw[e]
  exact Or.inr ⟨(fun _ _ _ e=>by cases e),trivial,Qy,(fun x=>absurd rfl x),(fun _ _ _ e=>by cases e),⟨(fun _ _ _ _ e=>by cases e),fun _ _ e=>by cases e⟩,hc.symm⟩
 have Wy:∀ po,C.po=po->(match po with | .put _ _ _ _=>False | .mark _ _ _ _ _=>False | .lead _ _ _ _=>False | .Zo _ _=>False | _=>True)->claim C (some R)=none:=fun po e x=>by
  unfold claim;rw[e];cases po <;> first | rfl | exact x.elim
 cases hpo:C.po with
 | first =>
  rw[hpo] at N rk
  exact reach (rk.Oe X.l T.k0).2 (Wy _ hpo trivial) N.2
 | link a s c =>
  rw[hpo] at N rk
  have hc:=Wy _ hpo trivial
  rcases N with⟨-,e⟩ | ⟨eE,hv,e⟩ | ⟨eE,hv,e⟩
  . exact first hc e
  . rcases rk.PI X.l T.k0 eE with⟨-,kn⟩ | ⟨h2,-⟩
    . rw[e]
      exact Or.inr ⟨(fun _ _ _ e=>by cases e),kn,Qy,(fun x=>absurd rfl x),(fun _ _ _ e=>by cases e),⟨(fun _ _ _ _ e=>by cases e),fun _ _ e=>by cases e⟩,hc.symm⟩
    . omega
  . rcases rk.PI X.l T.k0 eE with⟨h2,-⟩ | ⟨-,kn⟩
    . omega
    . rw[e]
      exact Or.inr ⟨(fun _ _ _ e=>by cases e),kn,Qy,(fun x=>absurd rfl x),(fun _ _ _ e=>by cases e),⟨(fun _ _ _ _ e=>by cases e),fun _ _ e=>by cases e⟩,hc.symm⟩
 | past a s c nx =>
  rw[hpo] at N rk
  have hc:=Wy _ hpo trivial
  rcases N with⟨-,e⟩ | ⟨eE,e⟩
  . exact first hc e
  . obtain⟨kn,h3⟩:=rk eE
    rw[e]
    exact Or.inr ⟨(fun _ _ _ e=>by cases e),kn,Qy,(fun x=>absurd rfl x),(fun _ _ _ e=>by cases e),⟨(fun _ _ _ _ e=>by injection e with e1 e2 e3 e4;rw[<- e3];exact h3),fun _ _ e=>by cases e⟩,hc.symm⟩
 | drop a s c nx =>
  rw[hpo] at N rk
  exact reach rk (Wy _ hpo trivial) N
 | key a s c nx s2 =>
  rw[hpo] at N rk
  have hc:=Wy _ hpo trivial
  rcases N with⟨-,e⟩ | ⟨eE,hv,e⟩ | ⟨eE,hv,e⟩ | ⟨eE,hv,⟨k3,e⟩ | ⟨k1,e⟩ | ⟨k2,m0,e⟩ | ⟨d,k2,m0,e⟩⟩
  . exact first hc e
  . exact reach (rk.Oc eE hv) hc e
  . exact miss (rk.Ob eE hv).1 hc e
  . rw[e]
    exact Or.inr ⟨(fun _ _ _ e=>by cases e),(rk.Vq eE hv).2.2,Qy,fun _=>k3,(fun _ _ _ e=>by cases e),⟨(fun _ _ _ _ e=>by cases e),fun _ _ e=>by cases e⟩,hc.symm⟩
  . rw[e]
    exact Or.inl ⟨0,1,s2,rfl,fun _=>(rk.Vq eE hv).1 k1,by rw[hc,if_neg (fun x=>x.2 k1)],fun e=>absurd rfl e⟩
  . rw[e]
    exact Or.inl ⟨0,0,s2,rfl,fun _=>(rk.Vq eE hv).2.1 k2,by rw[hc,if_neg (fun x=>absurd x.1 (by decide))],fun e=>absurd rfl e⟩
  . rw[e]
    obtain⟨o1,o2⟩:=Qy d m0
    exact Or.inr ⟨(fun _ _ _ e=>by cases e),⟨o1.dJ,o1.pu,o1.ma,rfl,(rk.Vq eE hv).2.1 k2⟩,(fun d e=>by cases e),(fun x=>absurd rfl x),(fun _ _ _ e=>by injection e with e1;rw[<- e1];exact⟨o1.st,o1.nh⟩),⟨(fun _ _ _ _ e=>by cases e),fun _ _ e=>by cases e⟩,hc.symm⟩
 | make a s nx =>
  rw[hpo] at N rk
  have hc:=Wy _ hpo trivial
  rcases N with⟨eE,e⟩ | ⟨eE,d,dJ,hv,e⟩
  . rw[e]
    exact Or.inl ⟨R.E,0,R.St,rfl,(fun e=>absurd e eE),by rw[hc,if_neg (fun x=>absurd x.1 (by decide))],fun _=>⟨⟨a,s,nx,hpo⟩,rfl,rfl⟩⟩
  . obtain⟨d',h1,kn⟩:=rk eE
    have k2:=hkd (by rw[hpo];simp[Po.kd])
    rw[hpo] at k2
    have ed:d'=d:=BL X.m.g hG hn hJ kn.2.2.dJ dJ (h1.symm.trans hv)
    rw[ed] at kn
    rw[e]
    exact Or.inr ⟨(fun _ _ _ e=>by cases e),kn,Qy,fun _=>k2,(fun _ _ _ e=>by cases e),⟨(fun _ _ _ _ e=>by cases e),fun _ _ e=>by cases e⟩,hc.symm⟩
 | wkey a s nx d =>
  rw[hpo] at N rk hkd
  have hc:=Wy _ hpo trivial
  have k2:=hkd (by simp[Po.kd])
  rw[show C'=_ from N]
  exact Or.inr ⟨(fun _ _ _ e=>by cases e),rk.2,(fun d' e=>by injection e with e;rw[<- e];exact⟨rk.2.2.2.1,rk.2.2.2.2⟩),fun _=>k2,(fun _ _ _ e=>by cases e),⟨(fun _ _ _ _ e=>by cases e),fun _ _ e=>by cases e⟩,hc.symm⟩
 | YL a s nx d =>
  rw[hpo] at N rk hkd
  have hc:=Wy _ hpo trivial
  have k2:=hkd (by simp[Po.kd])
  rw[show C'=_ from N]
  exact Or.inr ⟨(fun _ _ _ e=>by cases e),rk.2,Qy,fun _=>k2,(fun _ _ _ e=>by cases e),⟨(fun _ _ _ _ e=>by cases e),fun _ _ e=>by cases e⟩,hc.symm⟩
 | put a s nx d =>
  rw[hpo] at N rk hkd
  have k2:C.kd=2:=hkd (by simp[Po.kd])
  have hc:claim C (some R)=if R.E=0 then some R.St else none:=by unfold claim;rw[hpo]
  rcases N with⟨eE,e⟩ | ⟨eE,e⟩
  . rw[if_neg eE] at hc;exact first hc e
  . rw[if_pos eE] at hc
    rw[e]
    exact Or.inl ⟨0,1,R.St,rfl,fun _=>rk eE,by rw[hc,if_pos ⟨rfl,by omega⟩],fun e=>absurd rfl e⟩
 | mark a s c nx s2 =>
  rw[hpo] at N rk hkd
  have k3:C.kd=3:=hkd (by simp[Po.kd])
  have hc:claim C (some R)=if R.E=0 then some R.St else none:=by unfold claim;rw[hpo]
  rcases N with⟨eE,e⟩ | ⟨eE,e⟩
  . rw[if_neg eE] at hc;exact first hc e
  . rw[if_pos eE] at hc
    rw[e]
    exact Or.inr ⟨(fun _ _ _ e=>by cases e),rk eE,Qy,(fun x=>absurd rfl x),(fun _ _ _ e=>by cases e),⟨(fun _ _ _ _ e=>by cases e),fun _ _ e=>by cases e⟩,hc.symm⟩
 | lead a c nx st =>
  rw[hpo] at N rk
  have hc:claim C (some R)=some st:=by unfold claim;rw[hpo]
  have k1:C.kd≠1:=by rw[hpo] at zn;have:=zn.2.2.2.2.2.2.2.2.2.2;omega
  rcases N with⟨eE,e⟩ | ⟨eE,e⟩
  . rw[e]
    exact Or.inl ⟨0,1,st,rfl,fun _=>rk.1,by rw[hc,if_pos ⟨rfl,k1⟩],fun e=>absurd rfl e⟩
  . obtain⟨kn,h3⟩:=rk.2 eE
    rw[e]
    exact Or.inr ⟨(fun _ _ _ e=>by cases e),kn,Qy,(fun x=>absurd rfl x),(fun _ _ _ e=>by cases e),⟨(fun _ _ _ _ e=>by cases e),fun _ _ e=>by injection e with e1;rw[<- e1];exact h3⟩,hc.symm⟩
 | Zo c st =>
  rw[hpo] at N rk
  have hc:claim C (some R)=some st:=by unfold claim;rw[hpo]
  rw[show C'=_ from N]
  exact Or.inl ⟨0,1,st,rfl,fun _=>rk,by rw[hc,if_pos ⟨rfl,by rw[hpo] at zn;have:=zn.2.2.2.2.2.2.2;omega⟩],fun e=>absurd rfl e⟩
 | Zk d v st =>
  rw[hpo] at N rk
  have hc:=Wy _ hpo trivial
  rw[show C'=_ from N]
  exact Or.inl ⟨0,v,st,rfl,fun _=>rk,by rw[hc,if_neg (fun x=>by rw[hpo] at zn;have:=zn.2.2.2.2.2.2.2;omega)],fun e=>absurd rfl e⟩
 | over=>rw[hpo] at N;exact N.elim
end
end
section
def Po.c:Po->Nat
 | .make _ _ _=>0
 | .drop _ _ _ _=>1
 | .Zo _ _=>1
 | .Zk _ _ _=>1
 | _=>2
theorem Rw {kd sz nu ix vl ol:Int} {own:Bool} (h1:1<=kd) (h5:kd<=5) (v0:0<=vl) (v1:vl<=1099511627775) (o0:0<=ol) (o1:ol<=1099511627775):Xa.may ⟨kd,sz,nu,ix,vl,ol,own⟩=true:=by
 unfold Xa.may fitsV
 rw[decide_eq_true h1,decide_eq_true h5,decide_eq_true v0,decide_eq_true v1,decide_eq_true o0,decide_eq_true o1];rfl
theorem Yh {x:Int} (h:x<4294967296):x<=1099511627775:=by omega
theorem zV {x:Int} (h:x<4294967296):x+4294967296<=1099511627775:=by omega
theorem FV {x:Int} (h:x<1099511627776):x<=1099511627775:=by omega
theorem xG {x:Int} (h0:0<=x) (h:x<=1099511627775):Fit x:=⟨by omega,by omega⟩
section
variable {t n k m σ K:Nat} {q:Q} {h:Gh} {jb:Nat->Jb} {hd:Nat} {F:List Nat} {u:Hi} {ts:Nat->Option (Cl × Option Rs)} {cg p r:Int} {C:Cl} {S:Lr}
theorem X8 {kd nu ix vl ol:Int} {j:Nat} (h3:3<=kd) (h5:kd<=5) (v0:0<=vl) (v1:vl<=1099511627775) (o0:0<=ol) (o1:ol<=1099511627775) (hh:YZ nu (h.nd j).x (h.nd j).g) (hx:(h.nd j).x<n) {W:Wt} (hW:W=⟨kd - 2,nu,ix,vl,ol⟩):Xa.may ⟨kd,0,nu,ix,vl,ol,true⟩=true/\YY n ⟨kd,0,nu,ix,vl,ol,true⟩ (Jb.dw h (.ac W j .see)) :=
 ⟨Rw (by omega) h5 v0 v1 o0 o1,IL h3 h5 (xG v0 v1) rfl hW hh hx⟩
theorem Lc.wants (X:Lc t n k m q σ h jb hd F u ts) (hG:Good t n k m cg p r) (hn:n<=65535) (hJ:h.J<=60000) (hts:ts K=some (C,none)) (hjb:jb K=C.Wj h hd) (I:Xq h hd C none S) :
 (S.want true).may=true/\YY n (S.want true) ((jb K).dw h)/\jb K≠.nil/\((jb K).dw h).c=C.po.c/\(S.nx=7->0<=S.hn/\S.hn<4294967296)/\(S.nx=8->0<=S.md/\S.md<4294967296)/\S.nx≠13:=by
 have T:=X.t K C _ hts
 have kn:=(T.run rfl).1
 have ip:=I.po
 have hand:∀ {j},j<h.J->YZ (h.H j) (h.nd j).x (h.nd j).g/\(h.nd j).x<n/\0<=h.H j/\h.H j<4294967296:=fun {j} hj=>by
  have D:=X.m.g.FU hG hn hJ hj
  have N:=X.m.g.nk j hj
  have b:=FT X.m.g hG hn hJ hj
  exact⟨PS D.xb N.g1 D.gb,N.xn,by omega,b.2⟩
 have hhd:=X.l.pJ hd (X.l.l.pb hd (by obtain⟨D,e⟩:=X.l.l.hf;rw[e];exact List.mem_cons_self))
 have eh:=I.hh
 have ek:=I.ky
 have k0:=T.k0
 have k1:=T.k1
 have F0:Fit 0:=⟨by decide,by decide⟩
 rw[hjb]
 unfold Lr.want Cl.Wj
 revert kn ip
 cases hpo:C.po with
 | first =>
  intro kn ⟨i0,_⟩
  rw[if_pos i0]
  obtain⟨a1,a2,a3,a4⟩:=hand hhd
  rw[eh]
  exact⟨(X8 (by decide) (by decide) (by decide) (by decide) (by decide) (by decide) a1 a2 rfl).1,(X8 (by decide) (by decide) (by decide) (by decide) (by decide) (by decide) a1 a2 rfl).2,(fun e=>by cases e),rfl,(fun e=>by omega),(fun e=>by omega),by omega⟩
 | link a s c =>
  intro kn ⟨i0,i1,i2,i3,i4,i5⟩
  rw[if_neg (by omega),if_pos i0]
  obtain⟨a1,a2,a3,a4⟩:=hand kn.2.dJ
  rw[i5]
  exact⟨(X8 (by decide) (by decide) (by decide) (by decide) (by decide) (by decide) a1 a2 rfl).1,(X8 (by decide) (by decide) (by decide) (by decide) (by decide) (by decide) a1 a2 rfl).2,(fun e=>by cases e),rfl,(fun e=>by omega),(fun e=>by omega),by omega⟩
 | past a s c nx =>
  intro kn ⟨i0,i1,i2,i3,i4,i5,i6⟩
  rw[if_neg (by omega),if_neg (by omega),if_neg (by omega),if_pos (Or.inl i0)]
  obtain⟨A,N,G⟩:=kn
  obtain⟨a1,a2,a3,a4⟩:=hand (X.l.pJ a A.pp)
  obtain⟨c1,c2,c3,c4⟩:=hand N.dJ
  have g0:=G.2.1
  have g1:=G.2.2
  have e:Lr.lead S.al (S.hl % 4294967296)=nx:=by rw[i3,Ux c4,i6];omega
  rw[e,i2,i3]
  exact⟨(X8 (by decide) (by decide) g0 (Yh g1) c3 (Yh c4) a1 a2 rfl).1,(X8 (by decide) (by decide) g0 (Yh g1) c3 (Yh c4) a1 a2 rfl).2,(fun e=>by cases e),rfl,(fun e=>by omega),(fun e=>by omega),by omega⟩
 | drop a s c nx =>
  intro kn ⟨i0,i1,i2,i3,i4,i5⟩
  rw[if_neg (by omega),if_neg (by omega),if_neg (by omega),if_neg (by omega),if_pos (Or.inl i0)]
  obtain⟨a1,a2,a3,a4⟩:=hand kn.2.1.dJ
  rw[i5]
  exact⟨Rw (by decide) (by decide) (by decide) (by decide) (by decide) (by decide),TQ rfl rfl rfl a1 a2,(fun e=>by cases e),rfl,(fun e=>by omega),(fun e=>by omega),by omega⟩
 | key a s c nx s2 =>
  intro kn ⟨i0,i1,i2,i3,i4,i5,i6,i7⟩
  rw[if_neg (by omega),if_neg (by omega),if_pos i0]
  obtain⟨a1,a2,a3,a4⟩:=hand kn.2.1.dJ
  rw[i5]
  exact⟨(X8 (by decide) (by decide) (by decide) (by decide) (by decide) (by decide) a1 a2 rfl).1,(X8 (by decide) (by decide) (by decide) (by decide) (by decide) (by decide) a1 a2 rfl).2,(fun e=>by cases e),rfl,(fun e=>by omega),(fun e=>by omega),by omega⟩
 | make a s nx =>
  intro kn ⟨i0,i1,i2,i3,i4,i5,i6⟩
  rw[if_neg (by omega),if_neg (by omega),if_neg (by omega),if_neg (by omega),if_neg (by omega),if_pos i0]
  exact⟨Rw (by decide) (by decide) (by decide) (by decide) (by decide) (by decide),IK rfl rfl rfl,(fun e=>by cases e),rfl,(fun e=>by omega),(fun e=>by omega),by omega⟩
 | wkey a s nx d =>
  intro kn ⟨i0,i1,i2,i3,i4,i5,i6⟩
  rw[if_neg (by omega),if_neg (by omega),if_neg (by omega),if_neg (by omega),if_neg (by omega),if_neg (by omega),if_pos i0]
  obtain⟨a1,a2,a3,a4⟩:=hand kn.2.2.dJ
  rw[i1,ek]
  exact⟨(X8 (by decide) (by decide) k0 (FV k1) (by decide) (by decide) a1 a2 rfl).1,(X8 (by decide) (by decide) k0 (FV k1) (by decide) (by decide) a1 a2 rfl).2,(fun e=>by cases e),rfl,(fun e=>by omega),(fun e=>by omega),by omega⟩
 | YL a s nx d =>
  intro kn ⟨i0,i1,i2,i3,i4,i5,i6⟩
  rw[if_neg (by omega),if_neg (by omega),if_neg (by omega),if_neg (by omega),if_neg (by omega),if_neg (by omega),if_neg (by omega),if_pos i0]
  obtain⟨a1,a2,a3,a4⟩:=hand kn.2.2.1.dJ
  have n0:=kn.1.NY.1
  have n1:=kn.1.NY.2.1
  rw[i1,i5]
  exact⟨(X8 (by decide) (by decide) n0 (Yh n1) (by decide) (by decide) a1 a2 rfl).1,(X8 (by decide) (by decide) n0 (Yh n1) (by decide) (by decide) a1 a2 rfl).2,(fun e=>by cases e),rfl,(fun e=>⟨n0,n1⟩),(fun e=>by omega),by omega⟩
 | put a s nx d =>
  intro kn ⟨i0,i1,i2,i3,i4,i5⟩
  rw[if_neg (by omega),if_neg (by omega),if_neg (by omega),if_neg (by omega),if_neg (by omega),if_neg (by omega),if_neg (by omega),if_neg (by omega),if_pos i0]
  obtain⟨a1,a2,a3,a4⟩:=hand (X.l.pJ a kn.1.pp)
  obtain⟨d1,d2,d3,d4⟩:=hand kn.2.2.1.dJ
  have n0:=kn.1.NY.1
  have n1:=kn.1.NY.2.1
  rw[i3,Ux n1,i2,i1]
  exact⟨(X8 (by decide) (by decide) d3 (Yh d4) n0 (Yh n1) a1 a2 rfl).1,(X8 (by decide) (by decide) d3 (Yh d4) n0 (Yh n1) a1 a2 rfl).2,(fun e=>by cases e),rfl,(fun e=>by omega),(fun e=>⟨d3,d4⟩),by omega⟩
 | mark a s c nx s2 =>
  intro kn ⟨i0,i1,i2,i3,i5,i6,i7⟩
  rw[if_neg (by omega),if_neg (by omega),if_neg (by omega),if_neg (by omega),if_neg (by omega),if_neg (by omega),if_neg (by omega),if_neg (by omega),if_neg (by omega),if_pos i0]
  obtain⟨a1,a2,a3,a4⟩:=hand kn.2.1.dJ
  have n0:=kn.2.2.2.1
  have n1:=kn.2.2.2.2.1
  rw[i6,i5,FQ n0 n1]
  exact⟨(X8 (by decide) (by decide) (by omega) (zV n1) n0 (Yh n1) a1 a2 rfl).1,(X8 (by decide) (by decide) (by omega) (zV n1) n0 (Yh n1) a1 a2 rfl).2,(fun e=>by cases e),rfl,(fun e=>by omega),(fun e=>by omega),by omega⟩
 | lead a c nx st =>
  intro kn ⟨i0,i1,i2,i3,i5,i6,i7⟩
  rw[if_neg (by omega),if_neg (by omega),if_neg (by omega),if_pos (Or.inr i0)]
  obtain⟨A,N,G,-⟩:=kn
  obtain⟨a1,a2,a3,a4⟩:=hand (X.l.pJ a A)
  obtain⟨c1,c2,c3,c4⟩:=hand N.dJ
  have g0:=G.2.1
  have g1:=G.2.2
  rw[i6,i3,Ux c4,i2]
  exact⟨(X8 (by decide) (by decide) g0 (Yh g1) c3 (Yh c4) a1 a2 rfl).1,(X8 (by decide) (by decide) g0 (Yh g1) c3 (Yh c4) a1 a2 rfl).2,(fun e=>by cases e),rfl,(fun e=>by omega),(fun e=>by omega),by omega⟩
 | Zo c st =>
  intro kn ⟨i0,i1,i5,i7⟩
  rw[if_neg (by omega),if_neg (by omega),if_neg (by omega),if_neg (by omega),if_pos (Or.inr i0)]
  obtain⟨a1,a2,a3,a4⟩:=hand kn.1.dJ
  rw[i5]
  exact⟨Rw (by decide) (by decide) (by decide) (by decide) (by decide) (by decide),TQ rfl rfl rfl a1 a2,(fun e=>by cases e),rfl,(fun e=>by omega),(fun e=>by omega),by omega⟩
 | Zk d v st =>
  intro kn ⟨i0,i1,i7⟩
  rw[if_neg (by omega),if_neg (by omega),if_neg (by omega),if_neg (by omega),if_neg (by omega),if_neg (by omega),if_neg (by omega),if_neg (by omega),if_neg (by omega),if_neg (by omega)]
  obtain⟨a1,a2,a3,a4⟩:=hand kn.1
  rw[i1]
  exact⟨Rw (by decide) (by decide) (by decide) (by decide) (by decide) (by decide),TQ rfl rfl rfl a1 a2,(fun e=>by cases e),rfl,(fun e=>by omega),(fun e=>by omega),by omega⟩
 | over E v st =>
  intro kn ip
  exact absurd ((T.run rfl).2.1) (by rw[hpo];exact id)
end
end
end Go.Proofs.YtibmjlefcaonnaaGreat
