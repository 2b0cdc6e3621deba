import Derived.Test.YtibmjlefcaonnaaGreatAccLoad
namespace Go.Proofs.YtibmjlefcaonnaaGreat
open Go.RowKit
structure Wt where
 kd:Int
 nu:Int
 ix:Int
 vl:Int
 ol:Int
def SB (c:Int):Int:=c % 1099511627776
def Be (c:Int):Bool:=decide (9223372036854775808<=c)
def Nc (c:Int):Int:=if 9223372036854775808<=c then c / 1099511627776 % 4194304 else 0
def Wt.other (W:Wt) (c:Int):Bool:=decide (W.kd=3) && decide (SB c≠W.ol)
def Wt.reads (W:Wt) (c:Int):Bool:=decide (W.kd=1) || W.other c
inductive Ac where
 | see
 | ask (v:Int) (at_:Nat)
 | load (v:Int) (Z:Nat)
 | check (v c:Int) (ld:Nat)
 | stop (v:Int)
 | lay (v c:Int)
 | over (E val:Int) (st:Nat)
def Ac.ZR:Ac->Bool
 | .over _ _ _=>true
 | _=>false
def Ac.nx:Ac->Int
 | .see=>0
 | .ask _ _=>1
 | .load _ _=>2
 | .check _ _ _=>3
 | .stop _=>5
 | .lay _ _=>6
 | .over _ _ _=>7
theorem Ac.UL (α:Ac):(α.nx == 7)=α.ZR:=by cases α <;> rfl
def Wt.at (W:Wt) (v:Int):Nat:=ZB v+1+W.ix.toNat
def G7 (v:Int):Int:=Zw 1 (ZB v) (Zy v) (Y3 v+1)
def Wt.w (W:Wt):Int:=Yt W.vl false 0
def OW (W:Wt) (own:Bool) (σ:Nat) (v u:Int) (at_:Nat):Ac :=
 if Xy u == own then (if 0<=W.ix/\W.ix<U5 u then .load v (U5 u) else .over 4 0 at_) else .over 3 0 (σ+1)
def TZ (W:Wt) (σ:Nat) (v c:Int):Ac :=
 if W.reads c then .check v c (σ+1)
 else if Be c && decide (Nc c=(Y3 v:Int)) && decide (v % 8=2) then .stop v
 else if Be c && decide ((Y3 v:Int)<=Nc c) then .see
 else .lay v c
def VC (W:Wt) (G σ:Nat) (v c s:Int) (ld:Nat):Ac :=
 if YU (s % 8) && decide (Zy s=G) then
  (if ZB s=ZB v then (if W.other c then .over 8 (SB c) ld else .over 0 (SB c) ld) else .see)
 else .over 3 0 (σ+1)
def Y9 (W:Wt) (own:Bool) (x G σ:Nat) (q:Q):Ac->Q × Ac
 | .see=>(q,if YU (q.sw x % 8) && decide (Zy (q.sw x)=G) then .ask (q.sw x) (σ+1) else .over 3 0 (σ+1))
 | .ask v at_=>(q,OW W own σ v (q.dw (ZB v)) at_)
 | .load v _=>(q,TZ W σ v (q.dw (W.at v)))
 | .check v c ld=>(q,VC W G σ v c (q.sw x) ld)
 | .stop v=>(if q.sw x=v then { q with sw:=upd q.sw x (G7 v) } else q,.see)
 | .lay v c=>if q.dw (W.at v)=c then ({ q with dw:=upd q.dw (W.at v) W.w },.over 0 (SB c) (σ+1)) else (q,.see)
 | .over E val st=>(q,.over E val st)
def Ac.good (t n k m:Nat) (W:Wt) (x G:Nat) (q:Q):Ac->Prop
 | .see=>YU (q.sw x % 8)=true->Zy (q.sw x)=G->P9 t n k m q (q.sw x)
 | .ask v _=>P9 t n k m q v
 | .load v Z=>(∃ i,UJ t n k m v Z i)/\0<=W.ix/\W.ix<Z/\(v % 8≠4\/W.reads (q.dw (W.at v))=true)
 | .check v c _=>Wd v/\Wd c
 | .stop v=>Wd v
 | .lay v c=>(∃ Z i,UJ t n k m v Z i/\W.ix<Z)/\0<=W.ix/\Wd c
 | .over _ _ _=>True
def Ac.at (t x:Nat) (W:Wt):Ac->Nat
 | .see=>6+t+x * 2
 | .ask v _=>ZB v
 | .load v _=>W.at v
 | .check _ _ _=>6+t+x * 2
 | .stop _=>6+t+x * 2
 | .lay v _=>W.at v
 | .over _ _ _=>0
def Ac.reads:Ac->Bool
 | .see=>true
 | .ask _ _=>true
 | .load _ _=>true
 | .check _ _ _=>true
 | _=>false
theorem Wt.yR (W:Wt):Wd W.w:=OU _ _ _
theorem OV (v:Int):Wd (G7 v):=WX _ _ _ _
theorem JO {W:Wt} {own:Bool} {x G σ:Nat} {q:Q} {α:Ac} {q':Q} {α':Ac} (h:∀ a,Wd (q.dw a)) (ht:Y9 W own x G σ q α=(q',α')):∀ a,Wd (q'.dw a):=by
 cases α with
 | see=>obtain⟨rfl,-⟩:=Prod.mk.inj ht;exact h
 | ask v at_=>obtain⟨rfl,-⟩:=Prod.mk.inj ht;exact h
 | load v Z=>obtain⟨rfl,-⟩:=Prod.mk.inj ht;exact h
 | check v c ld=>obtain⟨rfl,-⟩:=Prod.mk.inj ht;exact h
 | stop v =>
  obtain⟨rfl,-⟩:=Prod.mk.inj ht
  split <;> exact h
 | lay v c =>
  simp only[Y9] at ht
  split at ht
  . obtain⟨rfl,-⟩:=Prod.mk.inj ht
    intro a
    show Wd (upd q.dw _ _ a)
    unfold upd
    split
    . exact W.yR
    . exact h a
  . obtain⟨rfl,-⟩:=Prod.mk.inj ht;exact h
 | over=>obtain⟨rfl,-⟩:=Prod.mk.inj ht;exact h
section
variable {t n k m x G Z i σ:Nat} {v:Int} {own:Bool} {q:Q} {W:Wt}
end
theorem JM {z:Int} (h0:0<=z) (h1:z<=1099511627775):Yt z false 0=z:=by
 unfold Yt
 rw[if_neg (by decide),Y8 z 40 h0 (by simp;omega)]
theorem UI {z:Int} (h0:0<=z) (h1:z<=1099511627775):SB z=z:=by
 unfold SB;omega
theorem Et {z:Int} (h1:z<=1099511627775):Be z=false:=decide_eq_false (by omega)
end Go.Proofs.YtibmjlefcaonnaaGreat
