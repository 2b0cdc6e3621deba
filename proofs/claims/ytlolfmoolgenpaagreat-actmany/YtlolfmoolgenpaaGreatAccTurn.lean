import Derived.Test.YtlolfmoolgenpaaGreatDropFarm
namespace Go.Proofs.YtlolfmoolgenpaaGreat
open Go.RowKit
structure Wt where
 kd : Int
 nu : Int
 ix : Int
 vl : Int
 ol : Int
def vOf (c : Int) : Int:=c % 1099511627776
def frB (c : Int) : Bool:=decide (9223372036854775808 <= c)
def crOf (c : Int) : Int:=if 9223372036854775808 <= c then c / 1099511627776 % 4194304 else 0
def Wt.other (W : Wt) (c : Int) : Bool:=decide (W.kd = 3) && decide (vOf c ≠ W.ol)
def Wt.reads (W : Wt) (c : Int) : Bool:=decide (W.kd = 1) || W.other c
inductive Ac where
 | see
 | ask (v : Int) (at_ : Nat)
 | load (v : Int) (Z : Nat)
 | check (v c : Int) (ld : Nat)
 | stop (v : Int)
 | lay (v c : Int)
 | over (E val : Int) (st : Nat)
def Ac.over? : Ac -> Bool
 | .over _ _ _=>true
 | _=>false
def Ac.nx : Ac -> Int
 | .see=>0
 | .ask _ _=>1
 | .load _ _=>2
 | .check _ _ _=>3
 | .stop _=>5
 | .lay _ _=>6
 | .over _ _ _=>7
theorem Ac.nx_over (α : Ac) : (α.nx == 7) = α.over?:=by cases α <;> rfl
def Wt.at (W : Wt) (v : Int) : Nat:=adOf v + 1 + W.ix.toNat
def stopW (v : Int) : Int:=packS 1 (adOf v) (genOf v) (verOf' v + 1)
def Wt.w (W : Wt) : Int:=packX W.vl false 0
def acAsk (W : Wt) (own : Bool) (σ : Nat) (v u : Int) (at_ : Nat) : Ac :=
 if ownOf u == own then (if 0 <= W.ix /\ W.ix < szOf u then .load v (szOf u) else .over 4 0 at_) else .over 3 0 (σ + 1)
def acLoad (W : Wt) (σ : Nat) (v c : Int) : Ac :=
 if W.reads c then .check v c (σ + 1)
 else if frB c && decide (crOf c = (verOf' v : Int)) && decide (v % 8 = 2) then .stop v
 else if frB c && decide ((verOf' v : Int) <= crOf c) then .see
 else .lay v c
def acCheck (W : Wt) (G σ : Nat) (v c s : Int) (ld : Nat) : Ac :=
 if lifeB (s % 8) && decide (genOf s = G) then
  (if adOf s = adOf v then (if W.other c then .over 8 (vOf c) ld else .over 0 (vOf c) ld) else .see)
 else .over 3 0 (σ + 1)
def acTurn (W : Wt) (own : Bool) (x G σ : Nat) (q : Q) : Ac -> Q × Ac
 | .see=>(q,if lifeB (q.sw x % 8) && decide (genOf (q.sw x) = G) then .ask (q.sw x) (σ + 1) else .over 3 0 (σ + 1))
 | .ask v at_=>(q,acAsk W own σ v (q.dw (adOf v)) at_)
 | .load v _=>(q,acLoad W σ v (q.dw (W.at v)))
 | .check v c ld=>(q,acCheck W G σ v c (q.sw x) ld)
 | .stop v=>(if q.sw x = v then { q with sw:=upd q.sw x (stopW v) } else q,.see)
 | .lay v c=>if q.dw (W.at v) = c then ({ q with dw:=upd q.dw (W.at v) W.w },.over 0 (vOf c) (σ + 1)) else (q,.see)
 | .over E val st=>(q,.over E val st)
def Ac.good (t n k m : Nat) (W : Wt) (x G : Nat) (q : Q) : Ac -> Prop
 | .see=>lifeB (q.sw x % 8) = true -> genOf (q.sw x) = G -> Stands t n k m q (q.sw x)
 | .ask v _=>Stands t n k m q v
 | .load v Z=>(∃ i,Obj9 t n k m v Z i) /\ 0 <= W.ix /\ W.ix < Z /\ v % 8 ≠ 4
 | .check v c _=>Wd v /\ Wd c
 | .stop v=>Wd v
 | .lay v c=>(∃ Z i,Obj9 t n k m v Z i /\ W.ix < Z) /\ 0 <= W.ix /\ Wd c
 | .over _ _ _=>True
def Ac.at (t x : Nat) (W : Wt) : Ac -> Nat
 | .see=>6 + t + x * 2
 | .ask v _=>adOf v
 | .load v _=>W.at v
 | .check _ _ _=>6 + t + x * 2
 | .stop _=>6 + t + x * 2
 | .lay v _=>W.at v
 | .over _ _ _=>0
def Ac.reads : Ac -> Bool
 | .see=>true
 | .ask _ _=>true
 | .load _ _=>true
 | .check _ _ _=>true
 | _=>false
theorem Wt.w_wd (W : Wt) : Wd W.w:=packX_wd _ _ _
theorem stopW_wd (v : Int) : Wd (stopW v):=packS_wd _ _ _ _
theorem acTurn_wd {W : Wt} {own : Bool} {x G σ : Nat} {q : Q} {α : Ac} {q' : Q} {α' : Ac} (h : ∀ a,Wd (q.dw a)) (ht : acTurn W own x G σ q α = (q',α')) : ∀ a,Wd (q'.dw a):=by
 cases α with
 | see=>obtain ⟨rfl,-⟩:=Prod.mk.inj ht;exact h
 | ask v at_=>obtain ⟨rfl,-⟩:=Prod.mk.inj ht;exact h
 | load v Z=>obtain ⟨rfl,-⟩:=Prod.mk.inj ht;exact h
 | check v c ld=>obtain ⟨rfl,-⟩:=Prod.mk.inj ht;exact h
 | stop v =>
  obtain ⟨rfl,-⟩:=Prod.mk.inj ht
  split <;> exact h
 | lay v c =>
  simp only [acTurn] at ht
  split at ht
  · obtain ⟨rfl,-⟩:=Prod.mk.inj ht
    intro a
    show Wd (upd q.dw _ _ a)
    unfold upd
    split
    · exact W.w_wd
    · exact h a
  · obtain ⟨rfl,-⟩:=Prod.mk.inj ht;exact h
 | over=>obtain ⟨rfl,-⟩:=Prod.mk.inj ht;exact h
inductive ARuns (t n k m : Nat) (W : Wt) (own : Bool) (x G : Nat) (b : Bool) : Nat -> Nat -> Q -> Ac -> Q -> Ac -> Prop where
 | one {σ : Nat} {q : Q} {α : Ac} {q' : Q} {α' : Ac} (hb : b = true -> α.reads = true) (ho : α.over? = false) (hg : α.good t n k m W x G q) (ht : acTurn W own x G σ q α = (q',α')) (h : α'.over? = true) : ARuns t n k m W own x G b 1 σ q α q' α'
 | more {N σ : Nat} {q : Q} {α : Ac} {q1 : Q} {α1 : Ac} {q' : Q} {α' : Ac} (hb : b = true -> α.reads = true) (ho : α.over? = false) (hg : α.good t n k m W x G q) (ht : acTurn W own x G σ q α = (q1,α1)) (h : α1.over? = false) (g : ARuns t n k m W own x G b N (σ + 1) q1 α1 q' α') : ARuns t n k m W own x G b (N + 1) σ q α q' α'
structure Scn (t n k m : Nat) (x G Z i : Nat) (v : Int) (own : Bool) (q : Q) : Prop where
 sw : q.sw x = v
 o : Obj9 t n k m v Z i
 st : v % 8 ≠ 4
 gn : genOf v = G
 sz : szOf (q.dw (adOf v)) = Z
 ow : ownOf (q.dw (adOf v)) = own
 wd : ∀ a,Wd (q.dw a)
 xn : x < n
section
variable {t n k m x G Z i σ : Nat} {v : Int} {own : Bool} {q : Q} {W : Wt}
theorem Scn.good_see (S : Scn t n k m x G Z i v own q) : Ac.good t n k m W x G q .see:=fun _ _=>⟨i,by rw [S.sw,S.sz];exact S.o⟩
theorem Scn.good_ask (S : Scn t n k m x G Z i v own q) (at_ : Nat) : Ac.good t n k m W x G q (.ask v at_):=⟨i,by rw [S.sz];exact S.o⟩
theorem Scn.turn_see (S : Scn t n k m x G Z i v own q) : acTurn W own x G σ q .see = (q,.ask v (σ + 1)):=by
 simp only [acTurn,S.sw,S.o.life,S.gn,decide_true,Bool.and_self,if_true]
theorem Scn.turn_ask (S : Scn t n k m x G Z i v own q) (h0 : 0 <= W.ix) (h1 : W.ix < Z) (at_ : Nat) : acTurn W own x G σ q (.ask v at_) = (q,.load v Z):=by
 simp only [acTurn,acAsk,S.ow,S.sz,beq_self_eq_true,if_true,h0,h1,and_self]
theorem Scn.turn_check (S : Scn t n k m x G Z i v own q) (c : Int) (ld : Nat) : acTurn W own x G σ q (.check v c ld) = (q,.over (if W.other c then 8 else 0) (vOf c) ld):=by
 simp only [acTurn,acCheck,S.sw,S.o.life,S.gn,decide_true,Bool.and_self,if_true]
 split <;> rfl
theorem Scn.reads (S : Scn t n k m x G Z i v own q) (h0 : 0 <= W.ix) (h1 : W.ix < Z) {c : Int} (hc : q.dw (W.at v) = c) (hr : W.reads c = true) : ARuns t n k m W own x G true 4 σ q .see q (.over (if W.other c then 8 else 0) (vOf c) (σ + 3)):=by
 refine .more (fun _=>rfl) rfl S.good_see S.turn_see rfl (.more (fun _=>rfl) rfl (S.good_ask _) (S.turn_ask h0 h1 _) rfl (.more (q1:=q) (α1:=.check v c (σ + 1 + 1 + 1)) (fun _=>rfl) rfl ⟨⟨i,S.o⟩,h0,h1,S.st⟩ ?_ rfl (.one (fun _=>rfl) rfl ⟨S.o.wd,by rw [<- hc];exact S.wd _⟩ (S.turn_check c _) rfl)))
 simp only [acTurn,acLoad,hc,hr,if_true]
theorem Scn.lays (S : Scn t n k m x G Z i v own q) (h0 : 0 <= W.ix) (h1 : W.ix < Z) {c : Int} (hc : q.dw (W.at v) = c) (hr : W.reads c = false) (hf : (frB c && decide ((verOf' v : Int) <= crOf c)) = false) : ARuns t n k m W own x G false 4 σ q .see { q with dw:=upd q.dw (W.at v) W.w } (.over 0 (vOf c) (σ + 4)):=by
 refine .more (by simp) rfl S.good_see S.turn_see rfl (.more (by simp) rfl (S.good_ask _) (S.turn_ask h0 h1 _) rfl (.more (q1:=q) (α1:=.lay v c) (by simp) rfl ⟨⟨i,S.o⟩,h0,h1,S.st⟩ ?_ rfl (.one (by simp) rfl ⟨⟨Z,i,S.o,h1⟩,h0,by rw [<- hc];exact S.wd _⟩ ?_ rfl)))
 · have h2 : (frB c && decide (crOf c = (verOf' v : Int)) && decide (v % 8 = 2)) = false:=by
    cases hb : frB c with
    | false=>rfl
    | true =>
     rw [hb,Bool.true_and] at hf
     have:=of_decide_eq_false hf
     rw [Bool.true_and,decide_eq_false (by omega),Bool.false_and]
   simp only [acTurn,acLoad,hc,hr,hf,h2,Bool.false_eq_true,if_false]
 · simp only [acTurn,hc,if_true]
theorem Scn.index (S : Scn t n k m x G Z i v own q) (h : ¬ (0 <= W.ix /\ W.ix < Z)) : ARuns t n k m W own x G true 2 σ q .see q (.over 4 0 (σ + 1)):=by
 refine .more (fun _=>rfl) rfl S.good_see S.turn_see rfl (.one (fun _=>rfl) rfl (S.good_ask _) ?_ rfl)
 simp only [acTurn,acAsk,S.ow,S.sz,beq_self_eq_true,if_true,h,if_false]
theorem aruns_dead {q : Q} (h : (lifeB (q.sw x % 8) && decide (genOf (q.sw x) = G)) = false) : ARuns t n k m W own x G true 1 σ q .see q (.over 3 0 (σ + 1)):=by
 refine .one (fun _=>rfl) rfl (fun h1 h2=>?_) ?_ rfl
 · rw [h1,h2] at h
   simp at h
 · simp only [acTurn,h]
   rfl
theorem Scn.not_own {ow : Bool} (S : Scn t n k m x G Z i v ow q) (ho : ow ≠ own) : ARuns t n k m W own x G true 2 σ q .see q (.over 3 0 (σ + 2)):=by
 refine .more (q1:=q) (α1:=.ask v (σ + 1)) (fun _=>rfl) rfl S.good_see ?_ rfl (.one (fun _=>rfl) rfl (S.good_ask _) ?_ rfl)
 · simp only [acTurn,S.sw,S.o.life,S.gn,decide_true,Bool.and_self,if_true]
 · have : (ow == own) = false:=by simpa using ho
   simp only [acTurn,acAsk,S.ow,this]
   rfl
theorem Scn.upd (S : Scn t n k m x G Z i v own q) {j : Nat} {c : Int} (hc : Wd c) : Scn t n k m x G Z i v own { q with dw:=upd q.dw (adOf v + 1 + j) c }:=by
 refine ⟨S.sw,S.o,S.st,S.gn,?_,?_,fun a=>?_,S.xn⟩
 · show szOf (Go.Proofs.YtlolfmoolgenpaaGreat.upd q.dw _ _ _) = _
   rw [upd_other _ _ _ _ (by omega)];exact S.sz
 · show ownOf (Go.Proofs.YtlolfmoolgenpaaGreat.upd q.dw _ _ _) = _
   rw [upd_other _ _ _ _ (by omega)];exact S.ow
 · show Wd (Go.Proofs.YtlolfmoolgenpaaGreat.upd q.dw _ _ a)
   by_cases e : a = adOf v + 1 + j
   · subst e;rw [upd_same];exact hc
   · rw [upd_other _ _ _ _ e];exact S.wd a
end
theorem Tame.scn {t n k m nx : Nat} {q : Q} {gen : Nat -> Nat} {ls : List Ox} {cg : Int} (C : Tame t n k m q nx gen ls) (hG : Good t n k m cg 600 3) (hn : n <= 65535) {o : Ox} (ho : o ∈ ls) : Scn t n k m o.x o.g o.Z o.i (q.sw o.x) o.own q:=by
 have I:=C.is hG hn ho
 exact ⟨rfl,I.obj,by rw [I.st];decide,I.gn,I.sz,I.ow,C.wb,(C.ok o ho).x1⟩
theorem packX_val {z : Int} (h0 : 0 <= z) (h1 : z <= 1099511627775) : packX z false 0 = z:=by
 unfold packX
 rw [if_neg (by decide),cut_id z 40 h0 (by simp;omega)]
theorem vOf_val {z : Int} (h0 : 0 <= z) (h1 : z <= 1099511627775) : vOf z = z:=by
 unfold vOf;omega
theorem frB_val {z : Int} (h1 : z <= 1099511627775) : frB z = false:=decide_eq_false (by omega)
end Go.Proofs.YtlolfmoolgenpaaGreat
