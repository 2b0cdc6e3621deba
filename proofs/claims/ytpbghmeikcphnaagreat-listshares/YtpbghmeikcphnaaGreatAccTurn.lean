import Derived.Test.YtpbghmeikcphnaaGreatAccLoad
namespace Go.Proofs.YtpbghmeikcphnaaGreat
open Go.RowKit
structure Wt where
 kd:Int
 nu:Int
 ix:Int
 vl:Int
 ol:Int
def QV (c:Int):Int:=c % 1099511627776
def xU (c:Int):Bool:=decide (9223372036854775808<=c)
def KJ (c:Int):Int:=if 9223372036854775808<=c then c / 1099511627776 % 4194304 else 0
def Wt.other (W:Wt) (c:Int):Bool:=decide (W.kd=3) && decide (QV c≠W.ol)
def Wt.reads (W:Wt) (c:Int):Bool:=decide (W.kd=1) || W.other c
inductive Ac where
 | see
 | ask (v:Int) (at_:Nat)
 | load (v:Int) (Z:Nat)
 | check (v c:Int) (ld:Nat)
 | stop (v:Int)
 | lay (v c:Int)
 | over (E val:Int) (st:Nat)
def Ac.ZR:Ac->Bool
 | .over _ _ _=>true
 | _=>false
def Ac.nx:Ac->Int
 | .see=>0
 | .ask _ _=>1
 | .load _ _=>2
 | .check _ _ _=>3
 | .stop _=>5
 | .lay _ _=>6
 | .over _ _ _=>7
theorem Ac.Uc (α:Ac):(α.nx == 7)=α.ZR:=by cases α <;> rfl
def Wt.at (W:Wt) (v:Int):Nat:=Zy v+1+W.ix.toNat
def EC (v:Int):Int:=Zv 1 (Zy v) (Zw v) (YV v+1)
def Wt.w (W:Wt):Int:=Yk W.vl false 0
def NG (W:Wt) (own:Bool) (σ:Nat) (v u:Int) (at_:Nat):Ac :=
 if Xj u == own then (if 0<=W.ix/\W.ix<Uu u then .load v (Uu u) else .over 4 0 at_) else .over 3 0 (σ+1)
def SN (W:Wt) (σ:Nat) (v c:Int):Ac :=
 if W.reads c then .check v c (σ+1)
 else if xU c && decide (KJ c=(YV v:Int)) && decide (v % 8=2) then .stop v
 else if xU c && decide ((YV v:Int)<=KJ c) then .see
 else .lay v c
def UY (W:Wt) (G σ:Nat) (v c s:Int) (ld:Nat):Ac :=
 if YM (s % 8) && decide (Zw s=G) then
  (if Zy s=Zy v then (if W.other c then .over 8 (QV c) ld else .over 0 (QV c) ld) else .see)
 else .over 3 0 (σ+1)
def Y4 (W:Wt) (own:Bool) (x G σ:Nat) (q:Q):Ac->Q × Ac
 | .see=>(q,if YM (q.sw x % 8) && decide (Zw (q.sw x)=G) then .ask (q.sw x) (σ+1) else .over 3 0 (σ+1))
 | .ask v at_=>(q,NG W own σ v (q.dw (Zy v)) at_)
 | .load v _=>(q,SN W σ v (q.dw (W.at v)))
 | .check v c ld=>(q,UY W G σ v c (q.sw x) ld)
 | .stop v=>(if q.sw x=v then { q with sw:=upd q.sw x (EC v) } else q,.see)
 | .lay v c=>if q.dw (W.at v)=c then ({ q with dw:=upd q.dw (W.at v) W.w },.over 0 (QV c) (σ+1)) else (q,.see)
 | .over E val st=>(q,.over E val st)
def Ac.good (t n k m:Nat) (W:Wt) (x G:Nat) (q:Q):Ac->Prop
 | .see=>YM (q.sw x % 8)=true->Zw (q.sw x)=G->OT t n k m q (q.sw x)
 | .ask v _=>OT t n k m q v
 | .load v Z=>(∃ i,Ua t n k m v Z i)/\0<=W.ix/\W.ix<Z/\(v % 8≠4\/W.reads (q.dw (W.at v))=true)
 | .check v c _=>Wd v/\Wd c
 | .stop v=>Wd v
 | .lay v c=>(∃ Z i,Ua t n k m v Z i/\W.ix<Z)/\0<=W.ix/\Wd c
 | .over _ _ _=>True
def Ac.at (t x:Nat) (W:Wt):Ac->Nat
 | .see=>6+t+x * 2
 | .ask v _=>Zy v
 | .load v _=>W.at v
 | .check _ _ _=>6+t+x * 2
 | .stop _=>6+t+x * 2
 | .lay v _=>W.at v
 | .over _ _ _=>0
def Ac.reads:Ac->Bool
 | .see=>true
 | .ask _ _=>true
 | .load _ _=>true
 | .check _ _ _=>true
 | _=>false
theorem Wt.ug (W:Wt):Wd W.w:=ND _ _ _
theorem NF (v:Int):Wd (EC v):=Wx _ _ _ _
theorem Ht {W:Wt} {own:Bool} {x G σ:Nat} {q:Q} {α:Ac} {q':Q} {α':Ac} (h:∀ a,Wd (q.dw a)) (ht:Y4 W own x G σ q α=(q',α')):∀ a,Wd (q'.dw a):=by
 cases α with
 | see=>obtain⟨rfl,-⟩:=Prod.mk.inj ht;exact h
 | ask v at_=>obtain⟨rfl,-⟩:=Prod.mk.inj ht;exact h
 | load v Z=>obtain⟨rfl,-⟩:=Prod.mk.inj ht;exact h
 | check v c ld=>obtain⟨rfl,-⟩:=Prod.mk.inj ht;exact h
 | stop v =>
  obtain⟨rfl,-⟩:=Prod.mk.inj ht
  split <;> exact h
 | lay v c =>
  simp only[Y4] at ht
  split at ht
  . obtain⟨rfl,-⟩:=Prod.mk.inj ht
    intro a
    show Wd (upd q.dw _ _ a)
    unfold upd
    split
    . exact W.ug
    . exact h a
  . obtain⟨rfl,-⟩:=Prod.mk.inj ht;exact h
 | over=>obtain⟨rfl,-⟩:=Prod.mk.inj ht;exact h
section
variable {t n k m x G Z i σ:Nat} {v:Int} {own:Bool} {q:Q} {W:Wt}
end
theorem Hr {z:Int} (h0:0<=z) (h1:z<=1099511627775):Yk z false 0=z:=by
 unfold Yk
 rw[if_neg (by decide),Y3 z 40 h0 (by simp;omega)]
theorem TZ {z:Int} (h0:0<=z) (h1:z<=1099511627775):QV z=z:=by
 unfold QV;omega
theorem BD {z:Int} (h1:z<=1099511627775):xU z=false:=decide_eq_false (by omega)
end Go.Proofs.YtpbghmeikcphnaaGreat
