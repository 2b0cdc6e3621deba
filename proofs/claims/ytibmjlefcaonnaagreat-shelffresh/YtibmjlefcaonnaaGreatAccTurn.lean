import Derived.Test.YtibmjlefcaonnaaGreatAccAt
namespace Go.Proofs.YtibmjlefcaonnaaGreat
open Go.RowKit
structure Wt where
 kd:Int
 nu:Int
 ix:Int
 vl:Int
 ol:Int
def MI (c:Int):Int:=c % 1099511627776
def Iw (c:Int):Bool:=decide (9223372036854775808<=c)
def Og (c:Int):Int:=if 9223372036854775808<=c then c / 1099511627776 % 4194304 else 0
def Wt.other (W:Wt) (c:Int):Bool:=decide (W.kd=3) && decide (MI c≠W.ol)
def Wt.reads (W:Wt) (c:Int):Bool:=decide (W.kd=1) || W.other c
inductive Ac where
 | see
 | ask (v:Int) (at_:Nat)
 | load (v:Int) (Z:Nat)
 | check (v c:Int) (ld:Nat)
 | stop (v:Int)
 | lay (v c:Int)
 | over (E val:Int) (st:Nat)
def Ac.ZB:Ac->Bool
 | .over _ _ _=>true
 | _=>false
def Ac.nx:Ac->Int
 | .see=>0
 | .ask _ _=>1
 | .load _ _=>2
 | .check _ _ _=>3
 | .stop _=>5
 | .lay _ _=>6
 | .over _ _ _=>7
theorem Ac.Wv (α:Ac):(α.nx == 7)=α.ZB:=by cases α <;> rfl
def Wt.at (W:Wt) (v:Int):Nat:=ZH v+1+W.ix.toNat
def Oc (v:Int):Int:=Zm 1 (ZH v) (Zz v) (YK v+1)
def Wt.w (W:Wt):Int:=Yh W.vl false 0
def Qs (W:Wt) (own:Bool) (σ:Nat) (v u:Int) (at_:Nat):Ac :=
 if Xy u == own then (if 0<=W.ix/\W.ix<Vf u then .load v (Vf u) else .over 4 0 at_) else .over 3 0 (σ+1)
def TS (W:Wt) (σ:Nat) (v c:Int):Ac :=
 if W.reads c then .check v c (σ+1)
 else if Iw c && decide (Og c=(YK v:Int)) && decide (v % 8=2) then .stop v
 else if Iw c && decide ((YK v:Int)<=Og c) then .see
 else .lay v c
def Vt (W:Wt) (G σ:Nat) (v c s:Int) (ld:Nat):Ac :=
 if Zb (s % 8) && decide (Zz s=G) then
  (if ZH s=ZH v then (if W.other c then .over 8 (MI c) ld else .over 0 (MI c) ld) else .see)
 else .over 3 0 (σ+1)
def XN (W:Wt) (own:Bool) (x G σ:Nat) (q:Q):Ac->Q × Ac
 | .see=>(q,if Zb (q.sw x % 8) && decide (Zz (q.sw x)=G) then .ask (q.sw x) (σ+1) else .over 3 0 (σ+1))
 | .ask v at_=>(q,Qs W own σ v (q.dw (ZH v)) at_)
 | .load v _=>(q,TS W σ v (q.dw (W.at v)))
 | .check v c ld=>(q,Vt W G σ v c (q.sw x) ld)
 | .stop v=>(if q.sw x=v then { q with sw:=upd q.sw x (Oc v) } else q,.see)
 | .lay v c=>if q.dw (W.at v)=c then ({ q with dw:=upd q.dw (W.at v) W.w },.over 0 (MI c) (σ+1)) else (q,.see)
 | .over E val st=>(q,.over E val st)
def Ac.good (t n k m:Nat) (W:Wt) (x G:Nat) (q:Q):Ac->Prop
 | .see=>Zb (q.sw x % 8)=true->Zz (q.sw x)=G->TR t n k m q (q.sw x)
 | .ask v _=>TR t n k m q v
 | .load v Z=>(∃ i,Vd t n k m v Z i)/\0<=W.ix/\W.ix<Z/\(v % 8≠4\/W.reads (q.dw (W.at v))=true)
 | .check v c _=>Wd v/\Wd c
 | .stop v=>Wd v
 | .lay v c=>(∃ Z i,Vd t n k m v Z i/\W.ix<Z)/\0<=W.ix/\Wd c
 | .over _ _ _=>True
def Ac.at (t x:Nat) (W:Wt):Ac->Nat
 | .see=>6+t+x * 2
 | .ask v _=>ZH v
 | .load v _=>W.at v
 | .check _ _ _=>6+t+x * 2
 | .stop _=>6+t+x * 2
 | .lay v _=>W.at v
 | .over _ _ _=>0
def Ac.reads:Ac->Bool
 | .see=>true
 | .ask _ _=>true
 | .load _ _=>true
 | .check _ _ _=>true
 | _=>false
theorem Wt.Ie (W:Wt):Wd W.w:=SS _ _ _
theorem SV (v:Int):Wd (Oc v):=Ws _ _ _ _
theorem PT {W:Wt} {own:Bool} {x G σ:Nat} {q:Q} {α:Ac} {q':Q} {α':Ac} (h:∀ a,Wd (q.dw a)) (ht:XN W own x G σ q α=(q',α')):∀ a,Wd (q'.dw a):=by
 cases α with
 | see=>obtain⟨rfl,-⟩:=Prod.mk.inj ht;exact h
 | ask v at_=>obtain⟨rfl,-⟩:=Prod.mk.inj ht;exact h
 | load v Z=>obtain⟨rfl,-⟩:=Prod.mk.inj ht;exact h
 | check v c ld=>obtain⟨rfl,-⟩:=Prod.mk.inj ht;exact h
 | stop v =>
  obtain⟨rfl,-⟩:=Prod.mk.inj ht
  split <;> exact h
 | lay v c =>
  simp only[XN] at ht
  split at ht
  . obtain⟨rfl,-⟩:=Prod.mk.inj ht
    intro a
    show Wd (upd q.dw _ _ a)
    unfold upd
    split
    . exact W.Ie
    . exact h a
  . obtain⟨rfl,-⟩:=Prod.mk.inj ht;exact h
 | over=>obtain⟨rfl,-⟩:=Prod.mk.inj ht;exact h
section
variable {t n k m x G Z i σ:Nat} {v:Int} {own:Bool} {q:Q} {W:Wt}
end
end Go.Proofs.YtibmjlefcaonnaaGreat
