import Derived.Test.YtmnnhjhhhfabiaaGreatCompAwakeA
namespace Go.Proofs.YtmnnhjhhhfabiaaGreat
open Go.RowKit
def UsedY (nx : Nat) (y : Y) : Prop:=∀ i,i < nx -> 0 < (y.ck i).us
theorem used0 (y : Y) : UsedY 0 y:=fun _ h=>absurd h (Nat.not_lt_zero _)
theorem Mk.used {t n k m κ Z : Nat} {own : Bool} {q q' : Q} {nx nx' : Nat} {gen : Nat -> Nat} {ls ls' : List Ox} {E H : Int} (M : Mk t n k m κ Z own q nx gen ls q' nx' ls' E H) (U : UsedY nx q.y) : UsedY nx' q'.y:=by
 cases M with
 | empty hF=>exact U
 | full x F hF g=>exact U
 | ok x F y' nx' A i hF hx g =>
  have hr:=room_bd κ
  cases g with
  | fit _ h hu =>
   intro j hj
   show 0 < (upd q.y.ck i _ j).us
   by_cases e : j = i
   · subst e;rw [upd_same];show 0 < (q.y.ck j).us + room κ;omega
   · rw [upd_other _ _ _ _ e];exact U j hj
  | new hno h =>
   intro j hj
   show 0 < (upd q.y.ck nx _ j).us
   by_cases e : j = nx
   · subst e;rw [upd_same];show 0 < room κ;omega
   · rw [upd_other _ _ _ _ e];exact U j (by omega)
theorem Mk.db {t n k m κ Z : Nat} {own : Bool} {q q' : Q} {nx nx' : Nat} {gen : Nat -> Nat} {ls ls' : List Ox} {E H : Int} (M : Mk t n k m κ Z own q nx gen ls q' nx' ls' E H) : q'.db = q.db:=by
 cases M <;> rfl
def Y.opB (y : Y) (κ : Nat) : Bool:=decide (0 < y.op κ)
def opIs (y : Y) (κ i : Nat) : Bool:=decide (y.op κ = i + 1)
theorem opIs_cnt (y : Y) (κ : Nat) {k : Nat} (h : y.op κ <= k) : cntB (opIs y κ) k = if y.opB κ = true then 1 else 0:=by
 unfold Y.opB
 cases ho : y.op κ with
 | zero =>
  rw [decide_eq_false (by omega)]
  exact cntB_none k (fun i _=>decide_eq_false (by rw [ho];omega))
 | succ a =>
  have e : ∀ i,i < k -> opIs y κ i = (fun i=>decide (i = a)) i:=fun i _=>decide_eq_decide.2 (by rw [ho];omega)
  rw [decide_eq_true (by omega),cntB_congr k e,cntB_one,if_pos (by omega),if_pos rfl]
theorem open_sum (y : Y) {nx k : Nat} (A : Alone k y nx) (i : Nat) : (if y.isOpen i = true then 1 else 0) = (if opIs y 0 i = true then 1 else 0) + (if opIs y 1 i = true then 1 else 0) + (if opIs y 2 i = true then 1 else 0) + (if opIs y 3 i = true then 1 else 0):=by
 have h0 : ∀ κ,κ < 4 -> y.op κ = i + 1 -> (y.ck i).cl = κ:=fun κ hκ h=>(A.opn κ hκ i h).2
 by_cases ho : y.isOpen i = true
 · obtain ⟨h4,h⟩:=of_decide_eq_true ho
   rw [ho]
   have f : ∀ κ,κ < 4 -> opIs y κ i = decide (κ = (y.ck i).cl):=fun κ hκ=>decide_eq_decide.2 ⟨fun g=>(h0 κ hκ g).symm,fun g=>by rw [g];exact h⟩
   rw [f 0 (by decide),f 1 (by decide),f 2 (by decide),f 3 (by decide)]
   generalize (y.ck i).cl = c at h4
   match c,h4 with
   | 0,_=>rfl
   | 1,_=>rfl
   | 2,_=>rfl
   | 3,_=>rfl
 · have f : ∀ κ,κ < 4 -> opIs y κ i = false:=fun κ hκ=>decide_eq_false (fun g=>ho (decide_eq_true (by have:=h0 κ hκ g;rw [this];exact ⟨hκ,g⟩)))
   rw [if_neg ho,f 0 (by decide),f 1 (by decide),f 2 (by decide),f 3 (by decide)]
   rfl
theorem open_cnt (y : Y) {nx k : Nat} (A : Alone k y nx) : ∀ j,cntB y.isOpen j = cntB (opIs y 0) j + cntB (opIs y 1) j + cntB (opIs y 2) j + cntB (opIs y 3) j
 | 0=>rfl
 | j + 1=>by
  have e:=open_sum y A j
  have ih:=open_cnt y A j
  show cntB y.isOpen j + _ = (cntB (opIs y 0) j + _) + (cntB (opIs y 1) j + _) + (cntB (opIs y 2) j + _) + (cntB (opIs y 3) j + _)
  omega
theorem open_is (y : Y) {nx k : Nat} (A : Alone k y nx) (h : ∀ κ,κ < 4 -> y.op κ <= k) : cntB y.isOpen k = cntB y.opB 4:=by
 rw [open_cnt y A k,opIs_cnt y 0 (h 0 (by decide)),opIs_cnt y 1 (h 1 (by decide)),opIs_cnt y 2 (h 2 (by decide)),opIs_cnt y 3 (h 3 (by decide))]
 show _ = 0 + (if y.opB 0 = true then 1 else 0) + (if y.opB 1 = true then 1 else 0) + (if y.opB 2 = true then 1 else 0) + (if y.opB 3 = true then 1 else 0)
 rw [Nat.zero_add]
theorem cntSt_is {y : Y} {f : Nat -> Bool} : ∀ k,(∀ i,i < k -> (f i = true -> (y.ck i).st = 1) /\ (f i = false -> (y.ck i).st = 0)) -> cntSt y 1 k = cntB f k /\ cntSt y 0 k + cntB f k = k
 | 0,_=>⟨rfl,rfl⟩
 | k + 1,h=>by
  obtain ⟨e1,e2⟩:=cntSt_is k (fun i hi=>h i (by omega))
  obtain ⟨a,b⟩:=h k (by omega)
  show cntSt y 1 k + (if ((y.ck k).st : Int) = 1 then 1 else 0) = cntB f k + (if f k = true then 1 else 0) /\ cntSt y 0 k + (if ((y.ck k).st : Int) = 0 then 1 else 0) + (cntB f k + (if f k = true then 1 else 0)) = k + 1
  cases hf : f k
  · rw [b hf];simp;omega
  · rw [a hf];simp;omega
section
variable {t n k m : Nat} {sp tr : Int} {s : Mm} {σ nx : Nat} {q : Q} {gen : Nat -> Nat}
theorem gone_all (R : Ranch t n k m s σ ⟨q,0,fun _=>0,fun _=>0⟩ nx gen []) (U : UsedY nx q.y) (hdb : ∀ i,q.db i = 0) (hn : n <= 65535) :
 DI t n k m sp tr σ ⟨q,0,fun _=>0,fun _=>0⟩ /\ (∀ i,i < k -> (q.y.ck i).st ≠ 3) /\ (∀ i,i < k -> (⟨q,0,fun _=>0,fun _=>0⟩ : Zt).may sp i = decide (i < nx /\ q.y.isOpen i = false)) /\ ∀ κ,κ < 4 -> q.y.op κ <= k:=by
 have al:=R.tm.al
 have hl : ∀ i,i < k -> q.lv i = 0:=fun i hi=>R.tm.lv i hi
 have nq : ∀ i,i < k -> (q.y.ck i).st ≠ 3:=fun i hi=>by
  by_cases h : i < nx
  · rw [al.opd i h];decide
  · rw [(al.fre i (by omega) hi).1];decide
 refine ⟨⟨R.calm (by decide) (fun i _=>hdb i),fun _ _=>rfl,Int.le_refl 0,by show (0 : Int) <= σ;omega,fun _ _=>Int.le_refl 0,fun i hi h=>absurd h (nq i hi),fun i hi _=>R.hd.dead R.tm hn hi (hl i hi),R.tm.dw,fun i hi h=>?_⟩,nq,fun i hi=>?_,fun κ hκ=>(R.calm (by decide) (fun i _=>hdb i)).op κ hκ⟩
 · have h' : (q.y.ck i).st = 0:=h
   by_cases h2 : i < nx
   · rw [al.opd i h2] at h';cases h'
   · exact (al.fre i (by omega) hi).2
 · apply decide_eq_decide.2
   show (q.y.ck i).st = 1 /\ q.y.isOpen i = false /\ 0 < (q.y.ck i).us /\ _ ↔ _
   constructor
   · rintro ⟨h1,h2,_,_⟩
     refine ⟨?_,h2⟩
     by_cases h : i < nx
     · exact h
     · rw [(al.fre i (by omega) hi).1] at h1;cases h1
   · rintro ⟨h1,h2⟩
     exact ⟨al.opd i h1,h2,U i h1,Or.inl (hl i hi)⟩
theorem frees_go (R : Ranch t n k m s σ ⟨q,0,fun _=>0,fun _=>0⟩ nx gen []) (U : UsedY nx q.y) (hdb : ∀ i,q.db i = 0) (hn : n <= 65535) (hk0 : 0 < k) (hk : k <= 8) (ht : t <= 8) (hm : m <= 256) {c : Nat} (hc : 10 <= c) (hc2 : c <= 100) (hσ : σ + c * 4000 + 4000 <= 990000) :
 ∃ (N : Nat) (z' : Zt) (wk' : Wk) (id' : Nat),N <= 3000 * c /\ CRuns t n k m sp tr (0 + c) N σ ⟨q,0,fun _=>0,fun _=>0⟩ cp0 z' ⟨.see [],wk',wk',id'⟩ /\ cntSt z'.q.y 1 k = cntB q.y.opB 4 /\ cntSt z'.q.y 0 k + cntB q.y.opB 4 = k /\ ∀ i,i < k -> (z'.q.y.ck i).st = 0 -> ∀ u,u < m -> z'.q.dw (base t n k m i + u) = 0:=by
 obtain ⟨D,nq,hmay,hop⟩:=gone_all (sp:=sp) (tr:=tr) R U hdb hn
 have al:=R.tm.al
 have cQ : cntB (⟨q,0,fun _=>0,fun _=>0⟩ : Zt).isQ k = 0:=cntB_none k (fun i hi=>decide_eq_false (nq i hi))
 have cM:=cntB_le ((⟨q,0,fun _=>0,fun _=>0⟩ : Zt).may sp) k
 obtain ⟨N,z',wk',id',hN,C,D',La,f',M',Q',_,_,_⟩:=dead_runs (t:=t) (n:=n) (k:=k) (m:=m) (sp:=sp) (tr:=tr) hk0 hk ht hm c σ ⟨q,0,fun _=>0,fun _=>0⟩ ⟨0,0,0,0,0⟩ 0 D (by show 0 + _ <= _;omega) (by decide) (by rw [cQ];show 0 + _ + 0 <= _;omega) (by decide) (by show 0 + c <= _;omega) (by omega) hσ
 have hM' : cntB (z'.may sp) k = 0:=by omega
 have hQ' : cntB z'.isQ k = 0:=Q' (by omega)
 have hst : ∀ i,i < k -> (q.y.isOpen i = true -> (z'.q.y.ck i).st = 1) /\ (q.y.isOpen i = false -> (z'.q.y.ck i).st = 0):=fun i hi=>by
  have hm0:=hmay i hi
  constructor
  · intro ho
    obtain ⟨h4,h⟩:=of_decide_eq_true ho
    rw [decide_eq_false (fun g=>by rw [ho] at g;cases g.2)] at hm0
    rw [(La.stay i hi hm0 (nq i hi)).1]
    exact al.opd i (al.opn _ h4 i h).1
  · intro ho
    by_cases h : i < nx
    · rw [decide_eq_true ⟨h,ho⟩] at hm0
      exact La.free hM' hQ' hi (Or.inl hm0)
    · rw [decide_eq_false (fun g=>h g.1)] at hm0
      rw [(La.stay i hi hm0 (nq i hi)).1]
      exact (al.fre i (by omega) hi).1
 obtain ⟨e1,e2⟩:=cntSt_is k hst
 rw [open_is q.y al hop] at e1 e2
 exact ⟨N,z',wk',id',by rw [Nat.mul_comm];exact hN,C,e1,e2,fun i hi h u hu=>D'.nt i hi u (by rw [D'.fu i hi h];exact Nat.zero_le _) hu⟩
end
end Go.Proofs.YtmnnhjhhhfabiaaGreat
