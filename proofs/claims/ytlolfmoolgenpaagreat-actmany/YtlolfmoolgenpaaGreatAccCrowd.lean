import Derived.Test.YtlolfmoolgenpaaGreatAccTurn
namespace Go.Proofs.YtlolfmoolgenpaaGreat
open Go.RowKit
def Val (c : Int) : Prop:=0 <= c /\ c <= 1099511627775
structure Cell1 (t n k m x G i : Nat) (v : Int) (q : Q) (c : Int) : Prop where
 sc : Scn t n k m x G 1 i v false q
 cc : q.dw (adOf v + 1) = c
 val : Val c
def AcTh (W : Wt) (v : Int) : Ac -> Prop
 | .see=>True
 | .ask v' _=>v' = v
 | .load v' Z=>v' = v /\ Z = 1
 | .check v' c _=>v' = v /\ Val c /\ W.reads c = true
 | .stop _=>False
 | .lay v' c=>v' = v /\ Val c /\ W.reads c = false
 | .over _ _ _=>True
inductive Mv (W : Wt) (v : Int) (σ : Nat) (c : Int) : Ac -> Int -> Ac -> Prop where
 | see : Mv W v σ c .see c (.ask v (σ + 1))
 | ask (a : Nat) : Mv W v σ c (.ask v a) c (.load v 1)
 | check (h : W.reads c = true) : Mv W v σ c (.load v 1) c (.check v c (σ + 1))
 | lay (h : W.reads c = false) : Mv W v σ c (.load v 1) c (.lay v c)
 | told (c0 : Int) (ld : Nat) (h0 : Val c0) (h : W.reads c0 = true) : Mv W v σ c (.check v c0 ld) c (.over (if W.other c0 then 8 else 0) c0 ld)
 | laid (h : W.reads c = false) : Mv W v σ c (.lay v c) W.vl (.over 0 c (σ + 1))
 | vain (c0 : Int) (h : c0 ≠ c) (hr : W.reads c0 = false) : Mv W v σ c (.lay v c0) c .see
section
variable {t n k m x G i σ : Nat} {v c : Int} {q q' : Q} {W : Wt}
theorem cell1_step (S : Cell1 t n k m x G i v q c) (hix : W.ix = 0) (hvl : Val W.vl) {α α' : Ac} (T : AcTh W v α) (ho : α.over? = false) (ht : acTurn W false x G σ q α = (q',α')) :
 α.good t n k m W x G q /\ AcTh W v α' /\ ∃ c',Cell1 t n k m x G i v q' c' /\ Mv W v σ c α c' α':=by
 have hat : W.at v = adOf v + 1:=by unfold Wt.at;rw [hix];rfl
 have hz : (0 : Int) <= W.ix:=by omega
 have hz1 : W.ix < ((1 : Nat) : Int):=by omega
 cases α with
 | over=>cases ho
 | stop=>exact T.elim
 | see =>
  rw [S.sc.turn_see] at ht
  obtain ⟨rfl,rfl⟩:=Prod.mk.inj ht
  exact ⟨S.sc.good_see,rfl,c,S,.see⟩
 | ask v' a =>
  have hv : v' = v:=T
  subst hv
  rw [S.sc.turn_ask hz hz1] at ht
  obtain ⟨rfl,rfl⟩:=Prod.mk.inj ht
  exact ⟨S.sc.good_ask _,⟨rfl,rfl⟩,c,S,.ask a⟩
 | load v' Z =>
  obtain ⟨hv,rfl⟩:=T
  subst hv
  have gd : Ac.good t n k m W x G q (.load v' 1):=⟨⟨i,S.sc.o⟩,hz,hz1,S.sc.st⟩
  simp only [acTurn,hat,S.cc] at ht
  obtain ⟨rfl,hα⟩:=Prod.mk.inj ht
  cases hr : W.reads c with
  | true =>
   simp only [acLoad,hr,if_true] at hα
   subst hα
   exact ⟨gd,⟨rfl,S.val,hr⟩,c,S,.check hr⟩
  | false =>
   simp only [acLoad,hr,frB_val S.val.2,Bool.false_and,Bool.false_eq_true,if_false] at hα
   subst hα
   exact ⟨gd,⟨rfl,S.val,hr⟩,c,S,.lay hr⟩
 | check v' c0 ld =>
  obtain ⟨hv,hc0,hr⟩:=T
  subst hv
  rw [S.sc.turn_check] at ht
  obtain ⟨rfl,rfl⟩:=Prod.mk.inj ht
  rw [vOf_val hc0.1 hc0.2]
  exact ⟨⟨S.sc.o.wd,hc0.1,by have:=hc0.2;omega⟩,trivial,c,S,.told c0 ld hc0 hr⟩
 | lay v' c0 =>
  obtain ⟨hv,hc0,hr⟩:=T
  subst hv
  have gd : Ac.good t n k m W x G q (.lay v' c0):=⟨⟨1,i,S.sc.o,hz1⟩,hz,hc0.1,by have:=hc0.2;omega⟩
  by_cases e : c = c0
  · subst e
    simp only [acTurn,hat,S.cc,if_true] at ht
    obtain ⟨rfl,rfl⟩:=Prod.mk.inj ht
    rw [vOf_val hc0.1 hc0.2]
    have hw : W.w = W.vl:=packX_val hvl.1 hvl.2
    rw [hw]
    refine ⟨gd,trivial,W.vl,⟨S.sc.upd (j:=0) ⟨hvl.1,by have:=hvl.2;omega⟩,upd_same _ _ _,hvl⟩,.laid hr⟩
  · simp only [acTurn,hat,S.cc,e,if_false] at ht
    obtain ⟨rfl,rfl⟩:=Prod.mk.inj ht
    exact ⟨gd,trivial,c,S,.vain c0 (fun h=>e h.symm) hr⟩
end
end Go.Proofs.YtlolfmoolgenpaaGreat
