import Derived.Test.YtmnnhjhhhfabiaaGreatCompHerd
import Derived.Test.YtmnnhjhhhfabiaaGreatCompWays
import Derived.Test.YtmnnhjhhhfabiaaGreatCompRanch
namespace Go.Proofs.YtmnnhjhhhfabiaaGreat
open Go.RowKit
section
section
variable {t n k m : Nat} {sp tr : Int} {R : Nat}
def Zt.went (z : Zt) (x : Bool) : Zt:=if x = true then { z with ep:=sum64 z.ep 1 } else z
theorem Zt.wE (z : Zt) (x : Bool) : (z.went x).q = z.q /\ (z.went x).si = z.si /\ (z.went x).pn = z.pn:=by
 unfold Zt.went;split <;> exact ⟨rfl,rfl,rfl⟩
theorem QP (f : Nat -> Bool) : ∀ t,(∀ j,j < t -> f j = false) \/ ∃ j,j < t /\ f j = true /\ ∀ i,i < j -> f i = false
 | 0=>Or.inl fun j h=>absurd h (Nat.not_lt_zero _)
 | t + 1=>by
  rcases QP f t with h | ⟨j,hj,hf,hi⟩
  · cases hf : f t
    · refine Or.inl fun j hj=>?_
      by_cases e : j = t
      · rw [e];exact hf
      · exact h j (by omega)
    · exact Or.inr ⟨t,by omega,hf,h⟩
  · exact Or.inr ⟨j,by omega,hf,hi⟩
def Zt.goes (t : Nat) (z : Zt) : Bool:=decide (∀ j,j < t -> Wj (z.pn j) z.ep = false)
theorem wC {σ : Nat} {z : Zt} {cp : Cp} (hr : cp.wk.rd = R) (hf : cp.few σ) : ∃ N,N <= t + 2 /\ Path t n k m sp tr R N σ z { cp with cm:=.Yf .first } (z.went (z.goes t)) { cp with cm:=.Y5 0 .see }:=by
 rcases QP (fun j=>Wj (z.pn j) z.ep) t with h | ⟨j,hj,h1,h2⟩
 · have e : z.goes t = true:=decide_eq_true h
   rw [e]
   exact ⟨t + 2,Nat.le_refl _,wF hr hf h⟩
 · have e : z.goes t = false:=decide_eq_false (fun h=>by have:=h j hj;rw [h1] at this;cases this)
   rw [e]
   exact ⟨j + 2,by omega,tH hr hf hj h2 h1⟩
inductive Zt.picks (k : Nat) (sp : Int) (z : Zt) : Zt -> Nat -> Prop where
 | none (h : ∀ i,i < k -> z.may sp i = false) : Zt.picks k sp z z 0
 | some (i : Nat) (hi : i < k) (hm : z.may sp i = true) (hl : ∀ j,j < k -> z.may sp j = true -> z.q.lv i <= z.q.lv j) : Zt.picks k sp z (z.quiet i) 1
theorem Zt.picks.calm {σ : Nat} {z z1 : Zt} {e : Nat} (p : z.picks k sp z1 e) (h : z.calm k m σ) {σ' : Nat} (hσ : σ + 2 <= σ') : z1.calm k m σ':=by
 cases p with
 | none _=>exact h.up (by omega)
 | some i hi hm hl =>
  refine ⟨fun j hj=>?_,h.op,fun j hj=>?_,h.lv⟩
  · show (upd z.q.y.ck i _ j).ok σ'
    by_cases ej : j = i
    · subst ej;rw [upd_same];exact ⟨by simp,(h.ok j hj).cl,(h.ok j hj).us,by have:=(h.ok j hj).sp;simp only;omega⟩
    · rw [Z7 _ _ _ _ ej];exact (h.ok j hj).up (by omega)
  · show (upd z.q.y.ck i _ j).us <= m
    by_cases ej : j = i
    · subst ej;rw [upd_same];exact h.us j hj
    · rw [Z7 _ _ _ _ ej];exact h.us j hj
theorem Zt.picks.si {z z1 : Zt} {e : Nat} (p : z.picks k sp z1 e) (h : ∀ i,i < k -> 0 <= z.si i) (yc : 0 <= z.ep) : (∀ i,i < k -> 0 <= z1.si i) /\ z1.ep = z.ep /\ z1.pn = z.pn:=by
 cases p with
 | none _=>exact ⟨h,rfl,rfl⟩
 | some i hi hm hl =>
  refine ⟨fun j hj=>?_,rfl,rfl⟩
  show 0 <= upd z.si i z.ep j
  by_cases ej : j = i
  · subst ej;rw [upd_same];exact yc
  · rw [Z7 _ _ _ _ ej];exact h j hj
theorem Zt.Oq {σ σ' : Nat} {z : Zt} (h : z.calm k m σ) (hσ : σ + 1 <= σ') : (z.settled t n k m k 0 false).calm k m σ':=by
 refine ⟨fun i hi=>?_,h.op,fun i hi=>?_,fun i hi=>⟨?_,?_⟩⟩
 · show (if i < k /\ z.due i = true then (⟨0,0,0,(z.q.y.ck i).sp + 1⟩ : Ck) else z.q.y.ck i).ok σ'
   split
   · exact ⟨by simp,by simp,by simp,by have:=(h.ok i hi).sp;simp only;omega⟩
   · exact (h.ok i hi).up (by omega)
 · show (if i < k /\ z.due i = true then (⟨0,0,0,(z.q.y.ck i).sp + 1⟩ : Ck) else z.q.y.ck i).us <= m
   split
   · exact Nat.zero_le _
   · exact h.us i hi
 · show (if (i < k \/ i = k /\ false = true) /\ z.due i = true then 0 else z.q.lv i) <= 100000
   split
   · omega
   · exact (h.lv i hi).1
 · show (if (i < k \/ i = k /\ false = true) /\ z.due i = true then 0 else z.q.db i) = 0
   split
   · rfl
   · exact (h.lv i hi).2
theorem Zt.GY {σ : Nat} {z : Zt} (h : z.calm k m σ) (x : Bool) : (z.went x).calm k m σ:=by
 unfold Zt.went
 split
 · exact ⟨h.ok,h.op,h.us,h.lv⟩
 · exact h
def Cp.round (cp : Cp) (e : Nat) (z1 : Zt) (k : Nat) : Cp:=({ cp with wk:={ cp.wk with ev:=cp.wk.ev + e } } : Cp).past z1 k
theorem KL {σ : Nat} {z : Zt} {cp : Cp} (hr : cp.wk.rd = R) (hw : cp.wk.le 998000) (hid : cp.Uz <= 1000000) (hk0 : 0 < k) (hk : k <= 8) (ht : t <= 8) (hm : m <= 256) (h : z.calm k m σ) (hσ : σ + 4000 <= 990000) (yc : 0 <= z.ep) (hsi : ∀ i,i < k -> 0 <= z.si i) (hd : ∀ i,i < k -> z.may sp i = true -> (∃ j,(z.q.y.ck i).us = j * room (z.q.y.ck i).cl) /\ ∀ j,j * room (z.q.y.ck i).cl < (z.q.y.ck i).us -> z.gone t n k m tr i (z.q.y.ck i) (j * room (z.q.y.ck i).cl)) :
 ∃ N z1 e,(1 <= N /\ N <= 3000) /\ z.picks k sp z1 e /\ ((z1.went (z1.goes t)).settled t n k m k 0 false).calm k m (σ + N) /\ Path t n k m sp tr R N σ z { cp with cm:=.see [] } ((z1.went (z1.goes t)).settled t n k m k 0 false) (cp.round e (z1.went (z1.goes t)) k):=by
 obtain ⟨h1,h2,h3,h4,h5⟩:=hw
 have hf : ∀ σ' (c : Cm),(∀ i d,c ≠ .Y5 i (.free d)) -> ({ cp with cm:=c } : Cp).few σ':=fun σ' c hc=>⟨⟨by simp only;omega,by simp only;omega,by simp only;omega,by simp only;omega,by simp only;omega⟩,hid,fun i d e=>absurd e (hc i d)⟩
 have P1:=G7 (t:=t) (n:=n) (sp:=sp) (tr:=tr) h hk0 (by omega) (cp:={ cp with cm:=.see [] }) hr (hf σ _ (fun _ _ e=>by cases e))
 have P2:=OA (t:=t) (n:=n) (sp:=sp) (tr:=tr) (h.up (σ':=σ + 2 * k) (by omega)) (by omega) (cp:={ cp with cm:=.see [] }) hr (hf _ _ (fun _ _ e=>by cases e))
 have rG:=P1.trans P2
 -- the rest of it,behind what is Hw
 have rest : ∀ (M : Nat) (z1 : Zt) (e : Nat),e <= 1 -> M <= 700 -> z.picks k sp z1 e -> Path t n k m sp tr R M σ z { cp with cm:=.see [] } z1 { cp with cm:=.Yf .first,wk:={ cp.wk with ev:=cp.wk.ev + e } } -> 2 <= M -> ∃ N z1 e,(1 <= N /\ N <= 3000) /\ z.picks k sp z1 e /\ ((z1.went (z1.goes t)).settled t n k m k 0 false).calm k m (σ + N) /\ Path t n k m sp tr R N σ z { cp with cm:=.see [] } ((z1.went (z1.goes t)).settled t n k m k 0 false) (cp.round e (z1.went (z1.goes t)) k):=by
  intro M z1 e he hM pk P hM2
  have c1:=pk.calm h (σ':=σ + M) (by omega)
  obtain ⟨s1,s2,s3⟩:=pk.si hsi yc
  have qA : ({ cp with cm:=.Yf .first,wk:={ cp.wk with ev:=cp.wk.ev + e } } : Cp).few (σ + M):=⟨⟨by simp only;omega,by simp only;omega,by simp only;omega,by simp only;omega,by simp only;omega⟩,hid,fun i d e=>by cases e⟩
  obtain ⟨N2,qO,Pg⟩:=wC (t:=t) (n:=n) (k:=k) (m:=m) (sp:=sp) (tr:=tr) (R:=R) (z:=z1) (cp:={ cp with cm:=.Yf .first,wk:={ cp.wk with ev:=cp.wk.ev + e } }) hr qA
  obtain ⟨q1,q2,q3⟩:=z1.wE (z1.goes t)
  obtain ⟨N3,mY,hN3,Ps⟩:=Kv (t:=t) (n:=n) (k:=k) (m:=m) (sp:=sp) (tr:=tr) (R:=R) (σ:=σ + (M + N2)) (z:=z1.went (z1.goes t)) (cp:={ cp with wk:={ cp.wk with ev:=cp.wk.ev + e } }) hr ⟨by simp only;omega,by simp only;omega,by simp only;omega,by simp only;omega,by simp only;omega⟩ hid hk0 (by omega) hm (fun i hi=>by rw [q1,q2];exact ⟨c1.us i hi,by have:=(c1.ok i hi).sp;omega,s1 i hi⟩) (by omega)
  exact ⟨M + N2 + N3,z1,e,⟨by omega,by omega⟩,pk,Zt.Oq (Zt.GY c1 _) (by omega),(P.trans Pg).trans Ps⟩
 rcases G6 (sp:=sp) h with ⟨e,hno⟩ | ⟨i,hi,oQ,e,hmin⟩
 · rw [e] at rG
   exact rest _ z 0 (by omega) (by omega) (.none hno) rG (by omega)
 · rw [e] at rG
   obtain ⟨d1,d2⟩:=hd i hi oQ
   obtain ⟨N,hN,Pe⟩:=Hy (t:=t) (n:=n) (k:=k) (m:=m) (sp:=sp) (tr:=tr) (R:=R) (σ:=σ + (2 * k + 4)) (cp:={ cp with cm:=.see [] }) hr ⟨by simp only;omega,by simp only;omega,by simp only;omega,by simp only;omega,by simp only;omega⟩ hid hi ((h.ok i hi).up (by omega)) (h.us i hi) hm yc d1 d2
   exact rest _ _ 1 (by omega) (by omega) (.some i hi oQ hmin) (rG.trans Pe) (by omega)
end
end
section
def YM (f : Nat -> Bool) : Nat -> Nat
 | 0=>0
 | k + 1=>YM f k + if f k = true then 1 else 0
theorem VK {f g : Nat -> Bool} : ∀ k,(∀ i,i < k -> f i = g i) -> YM f k = YM g k
 | 0,_=>rfl
 | k + 1,h=>by
  show YM f k + _ = YM g k + _
  rw [VK k (fun i hi=>h i (by omega)),h k (by omega)]
theorem VZ {f : Nat -> Bool} : ∀ k,(∀ i,i < k -> f i = false) -> YM f k = 0
 | 0,_=>rfl
 | k + 1,h=>by
  show YM f k + _ = 0
  rw [VZ k (fun i hi=>h i (by omega)),h k (by omega)]
  rfl
theorem Tf {f : Nat -> Bool} : ∀ k,YM f k = 0 -> ∀ i,i < k -> f i = false
 | 0,_,i,hi=>absurd hi (Nat.not_lt_zero _)
 | k + 1,h,i,hi=>by
  have h' : YM f k + (if f k = true then 1 else 0) = 0:=h
  by_cases e : i = k
  · subst e
    cases hf : f i
    · rfl
    · rw [hf] at h';simp at h'
  · exact Tf k (by omega) i (by omega)
theorem PL {f g : Nat -> Bool} {a : Nat} (ha : f a = true) (hg : ∀ i,g i = (f i && decide (i ≠ a))) : ∀ k,YM f k = YM g k + if a < k then 1 else 0
 | 0=>rfl
 | k + 1=>by
  show YM f k + (if f k = true then 1 else 0) = YM g k + (if g k = true then 1 else 0) + _
  rw [PL ha hg k,hg k]
  by_cases e : k = a
  · subst e
    rw [ha,if_neg (Nat.lt_irrefl k),if_pos (Nat.lt_succ_self k)]
    simp
  · have q : (if a < k then 1 else 0) = if a < k + 1 then 1 else 0:=by
     by_cases h : a < k
     · rw [if_pos h,if_pos (show a < k + 1 by omega)]
     · rw [if_neg h,if_neg (show ¬ a < k + 1 by omega)]
    rw [decide_eq_true e,Bool.and_true,q]
    omega
theorem NJ (a : Nat) : ∀ k,YM (fun i=>decide (i = a)) k = if a < k then 1 else 0
 | 0=>rfl
 | k + 1=>by
  show YM _ k + _ = _
  rw [NJ a k]
  by_cases e : k = a
  · subst e;simp
  · have q : (if a < k then 1 else 0) = if a < k + 1 then 1 else 0:=by
     by_cases h : a < k
     · rw [if_pos h,if_pos (show a < k + 1 by omega)]
     · rw [if_neg h,if_neg (show ¬ a < k + 1 by omega)]
    have q2 : (fun i=>decide (i = a)) k = false:=decide_eq_false e
    rw [q2,q]
    rfl
theorem NI (z : Zt) : ∀ k,P7 z k = YM z.due k
 | 0=>rfl
 | k + 1=>by
  show P7 z k + _ = YM z.due k + _
  rw [NI z k]
def Zt.UJ (z : Zt) (i : Nat) : Bool:=decide ((z.q.y.ck i).st = 3)
section
variable {t n k m : Nat} {sp tr : Int} {R : Nat}
structure DI (t n k m : Nat) (sp tr : Int) (σ : Nat) (z : Zt) : Prop where
 cm : z.calm k m σ
 pn : ∀ j,j < t -> z.pn j = 0
 e0 : 0 <= z.ep
 e1 : z.ep <= σ
 si : ∀ i,i < k -> 0 <= z.si i
 qs : ∀ i,i < k -> (z.q.y.ck i).st = 3 -> z.si i + 1 <= z.ep
 gn : ∀ i,i < k -> z.may sp i = true -> (∃ j,(z.q.y.ck i).us = j * room (z.q.y.ck i).cl) /\ ∀ j,j * room (z.q.y.ck i).cl < (z.q.y.ck i).us -> z.gone t n k m tr i (z.q.y.ck i) (j * room (z.q.y.ck i).cl)
 nt : ∀ i,i < k -> ∀ u,(z.q.y.ck i).us <= u -> u < m -> z.q.dw (base t n k m i + u) = 0
 fu : ∀ i,i < k -> (z.q.y.ck i).st = 0 -> (z.q.y.ck i).us = 0
structure XT (k : Nat) (sp : Int) (z z' : Zt) : Prop where
 op : z'.q.y.op = z.q.y.op
 stay : ∀ i,i < k -> z.may sp i = false -> (z.q.y.ck i).st ≠ 3 -> z'.q.y.ck i = z.q.y.ck i /\ z'.q.lv i = z.q.lv i
 Je : ∀ i,i < k -> (z'.q.y.ck i = z.q.y.ck i /\ z'.q.lv i = z.q.lv i /\ (z.q.y.ck i).st ≠ 3) \/ (z'.q.y.ck i).st = 3 \/ (z'.q.y.ck i).st = 0
theorem DI.round {σ : Nat} {z : Zt} {wk : Wk} {id : Nat} (D : DI t n k m sp tr σ z) (hw : wk.le 990000) (hid : id <= 990000) (hk0 : 0 < k) (hk : k <= 8) (ht : t <= 8) (hm : m <= 256) (hσ : σ + 4000 <= 990000) :
 ∃ (N : Nat) (z' : Zt) (e id' : Nat),N <= 3000 /\ e <= 1 /\ Path t n k m sp tr wk.rd N σ z ⟨.see [],wk,wk,id⟩ z' ⟨.see [],⟨wk.ev + e,wk.lf,wk.fr + YM z.UJ k,wk.mv,wk.rd + 1⟩,⟨wk.ev + e,wk.lf,wk.fr + YM z.UJ k,wk.mv,wk.rd + 1⟩,id'⟩ /\ id' <= id + 1 /\ (e = 0 -> YM z.UJ k = 0 -> id' = id + 1) /\
  DI t n k m sp tr (σ + N) z' /\ XT k sp z z' /\ YM (z.may sp) k = YM (z'.may sp) k + e /\ YM z'.UJ k = e /\ (e = 0 -> YM (z.may sp) k = 0):=by
 obtain ⟨w1,w2,w3,w4,w5⟩:=hw
 obtain ⟨N,z1,e,⟨lF,hN⟩,pk,rO,P⟩:=KL (t:=t) (n:=n) (tr:=tr) (R:=wk.rd) (cp:=⟨.see [],wk,wk,id⟩) rfl ⟨by show wk.ev <= _;omega,by show wk.lf <= _;omega,by show wk.fr <= _;omega,by show wk.mv <= _;omega,by show wk.rd <= _;omega⟩ (by show id <= _;omega) hk0 hk ht hm D.cm (by omega) D.e0 D.si D.gn
 have hpn : z1.pn = z.pn /\ z1.ep = z.ep /\ z1.q.sw = z.q.sw /\ z1.q.dw = z.q.dw /\ z1.q.lv = z.q.lv /\ z1.q.y.op = z.q.y.op:=by
  cases pk <;> exact ⟨rfl,rfl,rfl,rfl,rfl,rfl⟩
 obtain ⟨p1,p2,p3,p4,p5,p6⟩:=hpn
 have hgo : z1.goes t = true:=decide_eq_true (fun j hj=>by rw [p1,D.pn j hj];rfl)
 have he0:=D.e0
 have he1:=D.e1
 have yc : sum64 z.ep 1 = z.ep + 1:=by unfold sum64;omega
 rw [hgo] at P rO
 have nI : z1.went true = { z1 with ep:=z.ep + 1 }:=by
  unfold Zt.went
  rw [if_pos rfl,p2,yc]
 rw [nI] at P rO
 -- who is picked
 obtain ⟨a,hak,hea,rM,hck,hsi⟩ : ∃ a : Nat,(e = 1 -> a < k) /\ (e = 0 -> a = k) /\ (e = 1 -> z.may sp a = true) /\ (∀ i,i < k -> z1.q.y.ck i = if i = a then ⟨3,(z.q.y.ck i).cl,(z.q.y.ck i).us,(z.q.y.ck i).sp + 2⟩ else z.q.y.ck i) /\ (∀ i,i < k -> z1.si i = if i = a then z.ep else z.si i):=by
  cases pk with
  | none h=>exact ⟨k,fun h=>by omega,fun _=>rfl,fun h=>by omega,fun i hi=>by rw [if_neg (by omega)],fun i hi=>by rw [if_neg (by omega)]⟩
  | some a ha hm hl =>
   refine ⟨a,fun _=>ha,fun h=>by omega,fun _=>hm,fun i hi=>?_,fun i hi=>?_⟩
   · show upd z.q.y.ck a _ i = _
     by_cases e : i = a
     · subst e;rw [upd_same,if_pos rfl]
     · rw [Z7 _ _ _ _ e,if_neg e]
   · show upd z.si a z.ep i = _
     by_cases e : i = a
     · subst e;rw [upd_same,if_pos rfl]
     · rw [Z7 _ _ _ _ e,if_neg e]
 have he : e = 0 \/ e = 1:=by cases pk <;> simp
 have hno : e = 0 -> ∀ i,i < k -> z.may sp i = false:=by
  cases pk with
  | none h=>exact fun _=>h
  | some a ha hm hl=>exact fun h=>by omega
 have zF : ∀ i,i < k -> ({ z1 with ep:=z.ep + 1 } : Zt).due i = z.UJ i:=fun i hi=>by
  apply decide_eq_decide.2
  show (z1.q.y.ck i).st = 3 /\ z1.si i + 2 <= z.ep + 1 ↔ _
  rw [hck i hi,hsi i hi]
  by_cases ei : i = a
  · rw [if_pos ei,if_pos ei]
    have he1 : e = 1:=by
     rcases he with h | h
     · have:=hea h;omega
     · exact h
    have hm:=rM he1
    rw [<- ei] at hm
    have:=(of_decide_eq_true hm).1
    constructor
    · rintro ⟨_,h⟩;omega
    · intro h;omega
  · rw [if_neg ei,if_neg ei]
    constructor
    · exact fun h=>h.1
    · intro h;have:=D.qs i hi h;exact ⟨h,by omega⟩
 obtain ⟨z',hz'⟩ : ∃ z',({ z1 with ep:=z.ep + 1 } : Zt).settled t n k m k 0 false = z':=⟨_,rfl⟩
 have c' : ∀ i,i < k -> z'.q.y.ck i = if z.UJ i = true then ⟨0,0,0,(z1.q.y.ck i).sp + 1⟩ else z1.q.y.ck i:=fun i hi=>by
  rw [<- hz']
  show (if i < k /\ ({ z1 with ep:=z.ep + 1 } : Zt).due i = true then (⟨0,0,0,(z1.q.y.ck i).sp + 1⟩ : Ck) else z1.q.y.ck i) = _
  rw [zF i hi]
  by_cases h : z.UJ i = true
  · rw [if_pos h,if_pos ⟨hi,h⟩]
  · rw [if_neg h,if_neg (fun g=>h g.2)]
 have l' : ∀ i,i < k -> z'.q.lv i = if z.UJ i = true then 0 else z.q.lv i:=fun i hi=>by
  rw [<- hz',<- p5]
  show (if (i < k \/ i = k /\ false = true) /\ ({ z1 with ep:=z.ep + 1 } : Zt).due i = true then 0 else z1.q.lv i) = _
  rw [zF i hi]
  by_cases h : z.UJ i = true
  · rw [if_pos h,if_pos ⟨Or.inl hi,h⟩]
  · rw [if_neg h,if_neg (fun g=>h g.2)]
 have o' : z'.q.y.op = z.q.y.op:=by rw [<- hz'];exact p6
 have s' : z'.q.sw = z.q.sw:=by rw [<- hz'];exact p3
 have n' : z'.pn = z.pn:=by rw [<- hz'];exact p1
 have qU : z'.ep = z.ep + 1:=by rw [<- hz'];rfl
 have i' : z'.si = z1.si:=by rw [<- hz'];rfl
 have d' : ∀ i,i < k -> ∀ u,u < m -> z'.q.dw (base t n k m i + u) = if z.UJ i = true /\ u < (z1.q.y.ck i).us then 0 else z.q.dw (base t n k m i + u):=fun i hi u hu=>by
  rw [<- hz',<- p4]
  have hb:=Xu (t:=t) (n:=n) (k:=k) (m:=m) (i:=i) hu
  show Zt.Q3 t n k m { z1 with ep:=z.ep + 1 } k 0 (base t n k m i + u) = _
  unfold Zt.Q3
  rw [hb.1,hb.2,zF i hi]
  by_cases h : z.UJ i = true /\ u < (z1.q.y.ck i).us
  · rw [if_pos h,if_pos ⟨by unfold base;omega,h.1,h.2,Or.inl hi⟩]
  · rw [if_neg h,if_neg (fun g=>h ⟨g.2.1,g.2.2.1⟩)]
 -- one that may be Hw does not wait
 have mq : ∀ i,z.may sp i = true -> z.UJ i = false:=fun i h=>decide_eq_false (fun g=>by have:=(of_decide_eq_true h).1;omega)
 have wS : ∀ i,i < k -> z'.may sp i = (z.may sp i && decide (i ≠ a)):=fun i hi=>by
  by_cases hq : z.UJ i = true
  · have hm : z.may sp i = false:=by
     cases h : z.may sp i
     · rfl
     · rw [mq i h] at hq;cases hq
    rw [hm,Bool.false_and]
    apply decide_eq_false
    rw [c' i hi,if_pos hq]
    rintro ⟨h,_⟩
    cases h
  · by_cases ei : i = a
    · rw [decide_eq_false (fun h=>h ei),Bool.and_false]
      apply decide_eq_false
      rw [c' i hi,if_neg hq,hck i hi,if_pos ei]
      rintro ⟨h,_⟩
      cases h
    · rw [decide_eq_true ei,Bool.and_true]
      apply decide_eq_decide.2
      unfold Y.isOpen
      rw [c' i hi,if_neg hq,hck i hi,if_neg ei,l' i hi,if_neg hq,o']
 have hQ : ∀ i,i < k -> z'.UJ i = decide (i = a):=fun i hi=>by
  apply decide_eq_decide.2
  rw [c' i hi]
  by_cases hq : z.UJ i = true
  · rw [if_pos hq]
    constructor
    · intro h;cases h
    · intro ei
      have he1 : e = 1:=by
       rcases he with h | h
       · have:=hea h;omega
       · exact h
      have:=mq a (rM he1)
      rw [<- ei,hq] at this
      cases this
  · rw [if_neg hq,hck i hi]
    by_cases ei : i = a
    · rw [if_pos ei];exact ⟨fun _=>ei,fun _=>rfl⟩
    · rw [if_neg ei]
      exact ⟨fun h=>absurd (decide_eq_true h) hq,fun h=>absurd h ei⟩
 rw [hz'] at P rO
 obtain ⟨id',er,qR,qQ⟩ : ∃ id' : Nat,(⟨.see [],wk,wk,id⟩ : Cp).round e { z1 with ep:=z.ep + 1 } k = ⟨.see [],⟨wk.ev + e,wk.lf,wk.fr + YM z.UJ k,wk.mv,wk.rd + 1⟩,⟨wk.ev + e,wk.lf,wk.fr + YM z.UJ k,wk.mv,wk.rd + 1⟩,id'⟩ /\ id' <= id + 1 /\ (e = 0 -> YM z.UJ k = 0 -> id' = id + 1):=by
  have ed : P7 { z1 with ep:=z.ep + 1 } k = YM z.UJ k:=by rw [NI];exact VK k zF
  unfold Cp.round Cp.past Cp.Xb
  rw [ed]
  refine ⟨_,rfl,?_,?_⟩
  · simp only
    split <;> omega
  · intro h1 h2
    simp only
    simp [h1,h2]
 rw [er] at P
 refine ⟨N,z',e,id',hN,by omega,P,qR,qQ,⟨rO,fun j hj=>by rw [n'];exact D.pn j hj,by rw [qU];omega,by rw [qU];omega,fun i hi=>?_,fun i hi h=>?_,fun i hi h=>?_,fun i hi u h1 h2=>?_,fun i hi h=>?_⟩,⟨o',fun i hi hm hq=>?_,fun i hi=>?_⟩,?_,?_,fun h=>VZ k (hno h)⟩
 · rw [i',hsi i hi]
   have:=D.si i hi
   split <;> omega
 · have hia:=hQ i hi
   have : z'.UJ i = true:=decide_eq_true h
   rw [this] at hia
   have ei:=of_decide_eq_true hia.symm
   rw [i',hsi i hi,if_pos ei,qU]
   omega
 · rw [wS i hi] at h
   have hm:=(Bool.and_eq_true_iff.1 h).1
   have ei:=of_decide_eq_true (Bool.and_eq_true_iff.1 h).2
   have hq:=mq i hm
   obtain ⟨g1,g2⟩:=D.gn i hi hm
   rw [c' i hi,if_neg (by rw [hq];decide),hck i hi,if_neg ei]
   refine ⟨g1,fun j hj=>?_⟩
   have hus:=D.cm.us i hi
   have hd:=d' i hi (j * room (z.q.y.ck i).cl) (by omega)
   rw [hq,if_neg (fun g=>by cases g.1)] at hd
   have:=g2 j hj
   unfold Zt.gone at this ⊢
   rw [hd,s']
   exact this
 · rw [d' i hi u h2]
   rw [c' i hi] at h1
   by_cases hq : z.UJ i = true
   · by_cases h : u < (z1.q.y.ck i).us
     · rw [if_pos ⟨hq,h⟩]
     · rw [if_neg (fun g=>h g.2)]
       have : (z1.q.y.ck i).us = (z.q.y.ck i).us:=by rw [hck i hi];split <;> rfl
       exact D.nt i hi u (by omega) h2
   · rw [if_neg (fun g=>hq g.1)]
     rw [if_neg hq] at h1
     have : (z1.q.y.ck i).us = (z.q.y.ck i).us:=by rw [hck i hi];split <;> rfl
     exact D.nt i hi u (by omega) h2
 · rw [c' i hi] at h ⊢
   by_cases hq : z.UJ i = true
   · rw [if_pos hq]
   · rw [if_neg hq] at h ⊢
     rw [hck i hi] at h ⊢
     by_cases ei : i = a
     · rw [if_pos ei] at h;cases h
     · rw [if_neg ei] at h ⊢;exact D.fu i hi h
 · have pz : ¬ z.UJ i = true:=fun g=>hq (of_decide_eq_true g)
   have ei : i ≠ a:=fun g=>by
    have he1 : e = 1:=by
     rcases he with h | h
     · have:=hea h;omega
     · exact h
    have:=rM he1
    rw [<- g,hm] at this
    cases this
   rw [c' i hi,if_neg pz,hck i hi,if_neg ei,l' i hi,if_neg pz]
   exact ⟨rfl,rfl⟩
 · rw [c' i hi,l' i hi]
   by_cases hq : z.UJ i = true
   · rw [if_pos hq];exact Or.inr (Or.inr rfl)
   · rw [if_neg hq,if_neg hq,hck i hi]
     by_cases ei : i = a
     · rw [if_pos ei];exact Or.inr (Or.inl rfl)
     · rw [if_neg ei];exact Or.inl ⟨rfl,rfl,fun g=>hq (decide_eq_true g)⟩
 · rcases he with h | h
   · rw [VZ k (hno h),VZ k (fun i hi=>by rw [wS i hi,hno h i hi,Bool.false_and]),h]
   · have e1:=PL (f:=z.may sp) (g:=fun i=>z.may sp i && decide (i ≠ a)) (rM h) (fun _=>rfl) k
     rw [if_pos (hak h)] at e1
     rw [e1,VK k wS,h]
 · rw [VK k hQ,NJ]
   rcases he with h | h
   · rw [hea h,if_neg (Nat.lt_irrefl _),h]
   · rw [if_pos (hak h),h]
theorem XT.refl (z : Zt) (h : ∀ i,i < k -> (z.q.y.ck i).st ≠ 3 \/ (z.q.y.ck i).st = 3) : XT k sp z z :=
 ⟨rfl,fun _ _ _ _=>⟨rfl,rfl⟩,fun i hi=>(h i hi).elim (fun g=>Or.inl ⟨rfl,rfl,g⟩) (fun g=>Or.inr (Or.inl g))⟩
theorem XT.D5 {z z' : Zt} (h : XT k sp z z') {i : Nat} (hc : z'.q.y.ck i = z.q.y.ck i) (hl : z'.q.lv i = z.q.lv i) : z'.may sp i = z.may sp i:=by
 unfold Zt.may Y.isOpen
 rw [hc,hl,h.op]
theorem XT.trans {z z1 z2 : Zt} (h : XT k sp z z1) (g : XT k sp z1 z2) : XT k sp z z2:=by
 refine ⟨g.op.trans h.op,fun i hi hm hq=>?_,fun i hi=>?_⟩
 · obtain ⟨a,b⟩:=h.stay i hi hm hq
   obtain ⟨c,d⟩:=g.stay i hi (by rw [h.D5 a b];exact hm) (by rw [a];exact hq)
   exact ⟨c.trans a,d.trans b⟩
 · rcases h.Je i hi with ⟨a,b,c⟩ | a | a
   · rcases g.Je i hi with ⟨d,e,_⟩ | d | d
     · exact Or.inl ⟨d.trans a,e.trans b,c⟩
     · exact Or.inr (Or.inl d)
     · exact Or.inr (Or.inr d)
   · rcases g.Je i hi with ⟨_,_,d⟩ | d | d
     · exact absurd a d
     · exact Or.inr (Or.inl d)
     · exact Or.inr (Or.inr d)
   · have:=g.stay i hi (decide_eq_false (fun q=>by omega)) (by omega)
     right;right;rw [this.1];exact a
theorem XT.free {z z' : Zt} (h : XT k sp z z') (hM : YM (z'.may sp) k = 0) (hQ : YM z'.UJ k = 0) {i : Nat} (hi : i < k) (hz : z.may sp i = true \/ (z.q.y.ck i).st = 3) : (z'.q.y.ck i).st = 0:=by
 rcases h.Je i hi with ⟨a,b,c⟩ | a | a
 · have:=Tf k hM i hi
   rw [h.D5 a b] at this
   rcases hz with e | e
   · rw [this] at e;cases e
   · exact absurd e c
 · have:=of_decide_eq_false (Tf k hQ i hi)
   exact absurd a this
 · exact a
theorem H5 (hk0 : 0 < k) (hk : k <= 8) (ht : t <= 8) (hm : m <= 256) : ∀ (c σ : Nat) (z : Zt) (wk : Wk) (id : Nat),DI t n k m sp tr σ z -> wk.ev + YM (z.may sp) k <= 900000 -> wk.lf <= 900000 -> wk.fr + YM (z.may sp) k + YM z.UJ k <= 900000 -> wk.mv <= 900000 -> wk.rd + c <= 900000 -> id + c <= 900000 -> σ + c * 4000 + 4000 <= 990000 ->
 ∃ (N : Nat) (z' : Zt) (NP : Wk) (id' : Nat),N <= c * 3000 /\ Vk t n k m sp tr (wk.rd + c) N σ z ⟨.see [],wk,wk,id⟩ z' ⟨.see [],NP,NP,id'⟩ /\ DI t n k m sp tr (σ + N) z' /\ XT k sp z z' /\ NP.fr + YM (z'.may sp) k + YM z'.UJ k = wk.fr + YM (z.may sp) k + YM z.UJ k /\ YM (z'.may sp) k = YM (z.may sp) k - c /\ (YM (z.may sp) k + 1 <= c -> YM z'.UJ k = 0) /\ NP.rd = wk.rd + c /\ (YM (z.may sp) k = 0 -> YM z.UJ k = 0 -> 1 <= c -> 1 <= id') /\ (YM (z.may sp) k + 2 <= c -> 1 <= id'):=by
 intro c
 induction c with
 | zero =>
  intro σ z wk id D _ _ _ _ _ _ _
  exact ⟨0,z,wk,id,Nat.zero_le _,.nil rfl,D,XT.refl z (fun i _=>(Decidable.em ((z.q.y.ck i).st = 3)).symm),rfl,rfl,fun h=>by omega,rfl,fun _ _ h=>by omega,fun h=>by omega⟩
 | succ c ih =>
  intro σ z wk id D h1 h2 h3 h4 h5 h6 hσ
  have d1 : (c + 1) * 4000 = c * 4000 + 4000:=Nat.succ_mul c 4000
  have d2 : (c + 1) * 3000 = c * 3000 + 3000:=Nat.succ_mul c 3000
  rw [d1] at hσ
  rw [d2]
  obtain ⟨A,hA⟩ : ∃ A,c * 4000 = A:=⟨_,rfl⟩
  rw [hA] at hσ ih
  clear d1 d2 hA
  have qP : σ + 4000 <= 990000:=by omega
  obtain ⟨N,z1,e,nH,hN,he,P,i1,i2,D1,L1,m1,q1,n1⟩:=D.round (wk:=wk) (id:=id) ⟨by omega,by omega,by omega,by omega,by omega⟩ (by omega) hk0 hk ht hm qP
  obtain ⟨N2,z',NP,id',qO,C,D',L',f',M',Q',r',j1,j2⟩:=ih (σ + N) z1 ⟨wk.ev + e,wk.lf,wk.fr + YM z.UJ k,wk.mv,wk.rd + 1⟩ nH D1 (by show wk.ev + e + _ <= _;omega) h2 (by show wk.fr + _ + _ + _ <= _;omega) h4 (by show wk.rd + 1 + c <= _;omega) (by omega) (by omega)
  simp only at C f' r'
  refine ⟨N + N2,z',NP,id',by omega,P.runs (by omega) ?_,?_,L1.trans L',by omega,by omega,fun h=>?_,by omega,fun g1 g2 _=>?_,fun h=>?_⟩
  · have : wk.rd + 1 + c = wk.rd + (c + 1):=by omega
    rw [<- this];exact C
  · rw [<- Nat.add_assoc];exact D'
  · rcases Nat.eq_zero_or_pos c with e0 | e0
    · subst e0
      cases C with
      | nil _=>omega
      | cons _ _ _ _ _=>omega
    · apply Q'
      rcases Nat.eq_zero_or_pos e with e1 | e1
      · have:=n1 e1;omega
      · omega
  · have e0 : e = 0:=by omega
    have:=i2 e0 g2
    rcases Nat.eq_zero_or_pos c with e1 | e1
    · subst e1
      cases C with
      | nil _=>omega
      | cons _ _ _ _ _=>omega
    · exact j1 (by omega) (by omega) e1
  · by_cases hh : YM (z1.may sp) k + 2 <= c
    · exact j2 hh
    · have e0 : e = 0:=by omega
      have:=n1 e0
      exact j1 (by omega) (by omega) (by omega)
end
end
section
set_option maxRecDepth 20000
def Yp (y : Y) (st : Int) : Nat -> Nat
 | 0=>0
 | k + 1=>Yp y st k + (if ((y.ck k).st : Int) = st then 1 else 0)
theorem Nv (y : Y) (st : Int) : ∀ k,Yp y st k <= k
 | 0=>Nat.le_refl _
 | k + 1=>by
  have:=Nv y st k
  show Yp y st k + (if ((y.ck k).st : Int) = st then 1 else 0) <= k + 1
  split <;> omega
theorem Ha {y : Y} {st : Int} {k : Nat} (h : ((y.ck k).st : Int) = st) : Yp y st (k + 1) = Yp y st k + 1:=by
 show Yp y st k + (if ((y.ck k).st : Int) = st then 1 else 0) = _
 rw [if_pos h]
theorem DC {y : Y} {st : Int} {k : Nat} (h : ¬ ((y.ck k).st : Int) = st) : Yp y st (k + 1) = Yp y st k:=by
 show Yp y st k + (if ((y.ck k).st : Int) = st then 1 else 0) = _
 rw [if_neg h];rfl
variable {w : World} {L : Loc} {s : Mm} {t n k m σ : Nat} {g p r : Int} {y : Y}
set_option maxRecDepth 20000 in
set_option maxHeartbeats 1000000 in
theorem Ed (h : Z9 w L s) (hY : Yg t n k m s σ y) (hG : Good t n k m g p r) (NR : σ <= 2000000) (st who : Int) :
 Calls Tryz.prog 20 #[eV t n k m g p r L.p who,iV st] w fun e w'=>e = .returned (iV (Yp y st k : Nat)) /\ Below w.heap.size w w':=by
 have hk1:=hG.k1
 go_enter Tryz.func20,Tryz.ntmps20
 go_wp2
 refine ZY (fun W=>Z9 W L s /\ ZV W w.heap.size t n k m g p r L.p who /\ Below w.heap.size w W) ⟨h.alloc _,ZV.new,Zh _ _⟩ ?_
 rintro W ⟨m0,v0,o0⟩
 go_wp2
 have HY : Hid (Yg t n k m s σ y):=hY
 clear h hY
 go_loopw [5,6] (fun a b wr=>∃ i : Nat,b = iV i /\ a = iV (Yp y st i : Nat) /\ i <= k /\ Z9 wr L s /\ ZV wr w.heap.size t n k m g p r L.p who /\ Below w.heap.size w wr) (fun _ b _=>k - (intOf b).toNat)
 case atStart=>exact ⟨0,rfl,rfl,Nat.zero_le _,m0,v0,o0⟩
 case round =>
 clear m0 v0 o0
 obtain ⟨i,rfl,rfl,hi,m1,v1,o1⟩:=hrel
 have y2:=v1.c2
 by_cases hik : i < k
 · have hlt : decide ((i : Int) < (k : Int)) = true:=decide_eq_true (by omega)
   have hck : Hid (s.wd (6 + t + n * 2 + i * 3) = (y.ck i).w):=HY.out.LG i hik
   have hok:=HY.out.ok i hik
   have hn : (6 + t + n * 2 + i * 3) < s.n:=by have:=HY.out.len;have:=hG.k0;omega
   have hle:=Nv y st i
   have hw1 : wrap64 ((Yp y st i : Int) + 1) = (Yp y st i : Int) + 1:=by unfold wrap64;omega
   have hw2 : wrap64 ((i : Int) + 1) = (i : Int) + 1:=by unfold wrap64;omega
   go_wp2
   by_cases Vq : ((y.ck i).st : Int) = st
   · have hc : Hid (Yp y st (i + 1) = Yp y st i + 1):=Ha Vq
     have hst : Hid (((y.ck i).st : Int) = st):=Vq
     clear Vq
     apply Xr;· kernel_rfl
     apply rV;· intros;apply ol;go_simp;exact gl
     apply rV;· intro w' hg _;apply ol;have y:=(v1.dg hg).yy;go_simp;exact gl
     apply rV;· intros;apply ol;go_simp;exact gl
     apply rV;· intro w' hg _;apply ol;have y:=(v1.dg hg).yy;go_simp;exact gl
     apply rV;· intros;apply ol;go_simp;exact gl
     apply rV (c:=iV (((6 + t + n * 2 + i * 3) : Nat) : Int));· intro w' hg _;apply ol;go_simp;refine (Y8 _ _ _ _ _ _ _ (i : Int) _ hG.arena (by omega) (by omega)).mono ?_;rintro e w'' ⟨rfl,b9⟩;exact ⟨_,rfl,b9,congrArg (Value.int .i64) (by omega)⟩
     try simp only [pu,s0,s1]
     apply rV;· intro w' hg _;apply ol;go_simp;exact cc (Rq (m1.drew.below hg) (6 + t + n * 2 + i * 3) hn _ hck.out)
     apply rV;· intro w' hg _;apply ol;go_simp;exact cb (Yu (y.ck i) σ hok NR _)
     iterate 2 (apply rV;· intros;apply ol;go_simp;exact gl)
     apply Zb;· intro w' hg _;apply ol;have z : (((y.ck i).st : Int) == st) = true:=beq_iff_eq.2 hst.out;go_simp;exact gl
     try simp only [pu,s0,s1]
     intro w5 hg _
     go_wp2
     go_roundw
     case rel=>exact ⟨i + 1,by go_num,by rw [hc.out];go_num,by omega,m1.drew.below hg,v1.dg hg,grow (o1.trans ((Below.refl _ _).drew)) hg⟩
     case measure=>simp [intOf];omega
   · have hc : Hid (Yp y st (i + 1) = Yp y st i):=DC Vq
     have hst : Hid (¬ ((y.ck i).st : Int) = st):=Vq
     clear Vq
     apply Xr;· kernel_rfl
     apply rV;· intros;apply ol;go_simp;exact gl
     apply rV;· intro w' hg _;apply ol;have y:=(v1.dg hg).yy;go_simp;exact gl
     apply rV;· intros;apply ol;go_simp;exact gl
     apply rV;· intro w' hg _;apply ol;have y:=(v1.dg hg).yy;go_simp;exact gl
     apply rV;· intros;apply ol;go_simp;exact gl
     apply rV (c:=iV (((6 + t + n * 2 + i * 3) : Nat) : Int));· intro w' hg _;apply ol;go_simp;refine (Y8 _ _ _ _ _ _ _ (i : Int) _ hG.arena (by omega) (by omega)).mono ?_;rintro e w'' ⟨rfl,b9⟩;exact ⟨_,rfl,b9,congrArg (Value.int .i64) (by omega)⟩
     try simp only [pu,s0,s1]
     apply rV;· intro w' hg _;apply ol;go_simp;exact cc (Rq (m1.drew.below hg) (6 + t + n * 2 + i * 3) hn _ hck.out)
     apply rV;· intro w' hg _;apply ol;go_simp;exact cb (Yu (y.ck i) σ hok NR _)
     iterate 2 (apply rV;· intros;apply ol;go_simp;exact gl)
     apply Zb;· intro w' hg _;apply ol;have z : (((y.ck i).st : Int) == st) = false:=beq_eq_false_iff_ne.2 hst.out;go_simp;exact gl
     try simp only [pu,s0,s1]
     intro w5 hg _
     go_wp2
     go_roundw
     case rel=>exact ⟨i + 1,by go_num,by rw [hc.out],by omega,m1.drew.below hg,v1.dg hg,grow (o1.trans ((Below.refl _ _).drew)) hg⟩
     case measure=>simp [intOf];omega
 · obtain rfl : i = k:=by omega
   have hlt : decide ((i : Int) < (i : Int)) = false:=decide_eq_false (by omega)
   go_wp2
   go_ret
   exact ⟨rfl,o1⟩
end
section
theorem Ec {t n k m : Nat} {g p r : Int} (hG : Good t n k m g p r) (hn : n <= 65535) : YF t n k m (Mm.laid t n (ZR t n k m) n) (1 + 2 * n) ⟨Q.new n,0,fun _=>0,fun _=>0⟩ 0 (fun _=>1) [] :=
 ⟨⟨uB hG hn,XJ _ _ _ _ 0 (by omega) (by omega),fun j hj=>XJ _ _ _ _ _ (by omega) (by omega),fun i hi=>XJ _ _ _ _ _ (by unfold Zr;omega) (by unfold Zr;omega),fun a=>⟨Int.le_refl 0,show (0 : Int) <= 18446744073709551615 by decide⟩,fun _ _=>Int.le_refl 0⟩,uu t n k m,uq t n k m⟩
theorem Ti : Good 1 20 4 20 100 600 3:=by constructor <;> decide
def Ee (d : Nat) : Ox:=⟨d,1,if d < 6 then base 1 20 4 20 0 + 3 * d else base 1 20 4 20 1,if d < 6 then 0 else 1,if d < 6 then 3 * d else 0,2,0,false⟩
def D8 : Nat -> List Ox
 | 0=>[]
 | j + 1=>Ee j :: D8 j
def Q4 (d : Nat) : List Ox:=(D8 7).take (7 - d)
theorem zJ : ∀ d,d < 6 -> Q4 d = Q4 (d + 1) ++ Ee d :: []
 | 0,_=>rfl
 | 1,_=>rfl
 | 2,_=>rfl
 | 3,_=>rfl
 | 4,_=>rfl
 | 5,_=>rfl
theorem zH : ∀ j,j < 7 -> (Xv 20 20).drop j = j :: (Xv 20 20).drop (j + 1):=by decide
structure wW (q : Q) (nx : Nat) : Prop where
 nx : nx = 2
 op : q.y.op 0 = 2
 u0 : (q.y.ck 0).us = 18
 c0 : (q.y.ck 0).cl = 0
 u1 : (q.y.ck 1).us = 3
 c1 : (q.y.ck 1).cl = 0
structure yj (j : Nat) (q : Q) (nx : Nat) (ls : List Ox) : Prop where
 F : q.F = (Xv 20 20).drop j
 y : (j = 0 /\ nx = 0 /\ q.y = Y.new) \/ (1 <= j /\ j <= 6 /\ nx = 1 /\ q.y.op 0 = 1 /\ (q.y.ck 0).us = 3 * j /\ (q.y.ck 0).cl = 0) \/ (j = 7 /\ wW q nx)
 db : ∀ i,q.db i = 0
 ls : ls = D8 j
theorem Eb : yj 0 (Q.new 20) 0 []:=⟨rfl,Or.inl ⟨rfl,rfl,rfl⟩,fun _=>rfl,rfl⟩
theorem LK.zG {k m κ nx nx' : Nat} {bs : Nat -> Nat} {y y' : Y} {τ : Pl} (g : LK k m κ bs y nx y' nx' τ) (h : τ = .none) : nx = k:=by
 cases g with
 | fit _ _ _=>cases h
 | new _ _=>cases h
 | none _ h9=>exact h9
theorem zK {j : Nat} {q q' : Q} {nx nx' : Nat} {ls ls' : List Ox} {E H : Int} (hj : j < 7) (A : yj j q nx ls) (al : Alone 4 q.y nx) (M : Mk 1 20 4 20 0 2 false q nx (fun _=>1) ls q' nx' ls' E H) : yj (j + 1) q' nx' ls' /\ E = 0 /\ H = YL (j : Int) (1 : Int):=by
 have D7:=A.F
 rw [zH j hj] at D7
 cases M with
 | empty hF=>rw [hF] at D7;cases D7
 | full x F hF g =>
  have h2:=g.zG rfl
  rcases A.y with ⟨_,h,_⟩ | ⟨_,_,h,_⟩ | ⟨h,_⟩ <;> omega
 | ok x F y' nx' a i hF hx g =>
  rw [hF] at D7
  obtain ⟨rfl,rfl⟩:=List.cons.inj D7
  have hr : room 0 = 3:=rfl
  have mk : ∀ (a' i' : Nat) (y2 : Y),q.ox (fun _=>1) x a' i' 2 0 false = Ee x -> ((1 <= x + 1 /\ x + 1 <= 6 /\ nx' = 1 /\ y2.op 0 = 1 /\ (y2.ck 0).us = 3 * (x + 1) /\ (y2.ck 0).cl = 0) \/ (x + 1 = 7 /\ nx' = 2 /\ y2.op 0 = 2 /\ (y2.ck 0).us = 18 /\ (y2.ck 0).cl = 0 /\ (y2.ck 1).us = 3 /\ (y2.ck 1).cl = 0)) -> yj (x + 1) (q.made x ((Xv 20 20).drop (x + 1)) y2 a' i' 0 2 false) nx' (q.ox (fun _=>1) x a' i' 2 0 false :: ls) /\ (0 : Int) = 0 /\ YL (x : Int) (((fun _=>1) x : Nat) : Int) = YL (x : Int) (1 : Int):=fun a' i' y2 e1 e2 =>
   ⟨⟨rfl,e2.elim (fun h=>Or.inr (Or.inl h)) (fun h=>Or.inr (Or.inr ⟨h.1,h.2.1,h.2.2.1,h.2.2.2.1,h.2.2.2.2.1,h.2.2.2.2.2.1,h.2.2.2.2.2.2⟩)),A.db,by rw [e1,A.ls];rfl⟩,rfl,rfl⟩
  rcases A.y with ⟨h0,hn,hy⟩ | ⟨h1,h2,hn,ho,hu,hc⟩ | ⟨h7,_⟩
  · cases g with
    | fit _ h hu=>rw [hy] at h;exact absurd h (by simp [Y.new])
    | new hno h =>
     subst h0 hn
     refine mk _ _ _ ?_ (Or.inl ⟨by omega,by omega,rfl,?_,?_,?_⟩)
     · unfold Q.ox Ee
       rw [hy]
       rfl
     · exact upd_same q.y.op 0 1
     · exact congrArg Ck.us (upd_same q.y.ck 0 ⟨1,0,room 0,(q.y.ck 0).sp + 1⟩)
     · exact congrArg Ck.cl (upd_same q.y.ck 0 ⟨1,0,room 0,(q.y.ck 0).sp + 1⟩)
  · cases g with
    | fit _ h hf =>
     obtain rfl : i = 0:=by omega
     refine mk _ _ _ ?_ (Or.inl ⟨by omega,by omega,hn,ho,?_,?_⟩)
     · unfold Q.ox Ee
       rw [hu,if_pos (by omega),if_pos (by omega),if_pos (by omega)]
     · refine (congrArg Ck.us (upd_same q.y.ck 0 ⟨1,0,(q.y.ck 0).us + room 0,(q.y.ck 0).sp⟩)).trans ?_
       show (q.y.ck 0).us + room 0 = _
       omega
     · exact congrArg Ck.cl (upd_same q.y.ck 0 ⟨1,0,(q.y.ck 0).us + room 0,(q.y.ck 0).sp⟩)
    | new hno h =>
     have:=hno 0 (by omega)
     subst hn
     obtain rfl : x = 6:=by omega
     refine mk _ _ _ ?_ (Or.inr ⟨by omega,rfl,?_,?_,?_,?_,?_⟩)
     · unfold Q.ox Ee
       rw [(al.UH 1 (Nat.le_refl _) (by decide)).2]
       rfl
     · exact upd_same q.y.op 0 2
     · exact (congrArg Ck.us (Z7 q.y.ck 1 0 ⟨1,0,room 0,(q.y.ck 1).sp + 1⟩ (by decide))).trans hu
     · exact (congrArg Ck.cl (Z7 q.y.ck 1 0 ⟨1,0,room 0,(q.y.ck 1).sp + 1⟩ (by decide))).trans hc
     · exact congrArg Ck.us (upd_same q.y.ck 1 ⟨1,0,room 0,(q.y.ck 1).sp + 1⟩)
     · exact congrArg Ck.cl (upd_same q.y.ck 1 ⟨1,0,room 0,(q.y.ck 1).sp + 1⟩)
  · omega
theorem H6 {s : Mm} {σ nx : Nat} {q : Q} {gen : Nat -> Nat} (R : YF 1 20 4 20 s σ ⟨q,0,fun _=>0,fun _=>0⟩ nx gen (Q4 6)) (A : wW q nx) (H8 : ∀ i,q.db i = 0) (hσ : σ + 20000 <= 990000) :
 Yp q.y 1 4 = 2 /\ ∃ (N : Nat) (z' : Zt) (NP : Wk) (id' : Nat),N <= 12000 /\ Vk 1 20 4 20 600 3 4 N σ ⟨q,0,fun _=>0,fun _=>0⟩ cp0 z' ⟨.see [],NP,NP,id'⟩ /\ Yp z'.q.y 1 4 = 1 /\ Yp z'.q.y 0 4 = 3 /\ NP.fr = 1:=by
 obtain ⟨hnx,hop,u0,c0,u1,c1⟩:=A
 subst hnx
 have al:=R.tm.al
 have s0 : (q.y.ck 0).st = 1:=al.EE 0 (by decide)
 have s1 : (q.y.ck 1).st = 1:=al.EE 1 (by decide)
 have s2 : (q.y.ck 2).st = 0:=(al.UH 2 (by decide) (by decide)).1
 have s3 : (q.y.ck 3).st = 0:=(al.UH 3 (by decide) (by decide)).1
 have pF : q.lv 0 = 0:=R.tm.lv 0 (by decide)
 have o0 : q.y.isOpen 0 = false:=decide_eq_false (by rw [c0,hop];simp)
 have o1 : q.y.isOpen 1 = true:=decide_eq_true (by rw [c1,hop];simp)
 have m0 : (⟨q,0,fun _=>0,fun _=>0⟩ : Zt).may 600 0 = true:=decide_eq_true ⟨s0,o0,by show 0 < (q.y.ck 0).us;omega,Or.inl pF⟩
 have m1 : (⟨q,0,fun _=>0,fun _=>0⟩ : Zt).may 600 1 = false:=decide_eq_false (fun h=>by have h2 : q.y.isOpen 1 = false:=h.2.1;rw [o1] at h2;cases h2)
 have m2 : (⟨q,0,fun _=>0,fun _=>0⟩ : Zt).may 600 2 = false:=decide_eq_false (fun h=>by have h2 : (q.y.ck 2).st = 1:=h.1;omega)
 have m3 : (⟨q,0,fun _=>0,fun _=>0⟩ : Zt).may 600 3 = false:=decide_eq_false (fun h=>by have h2 : (q.y.ck 3).st = 1:=h.1;omega)
 have nq : ∀ i,i < 4 -> (q.y.ck i).st ≠ 3:=fun i hi=>by
  by_cases h : i < 2
  · rw [al.EE i h];decide
  · rw [(al.UH i (by omega) hi).1];decide
 have D : DI 1 20 4 20 600 3 σ ⟨q,0,fun _=>0,fun _=>0⟩:=by
  refine ⟨R.calm (by decide) (fun i _=>H8 i),fun _ _=>rfl,Int.le_refl 0,by show (0 : Int) <= σ;omega,fun _ _=>Int.le_refl 0,fun i hi h=>absurd h (nq i hi),fun i hi hm=>?_,R.tm.dw,fun i hi h=>?_⟩
  · have : i = 0:=by
     match i,hi,hm with
     | 0,_,_=>rfl
     | 1,_,h=>rw [m1] at h;cases h
     | 2,_,h=>rw [m2] at h;cases h
     | 3,_,h=>rw [m3] at h;cases h
    subst this
    exact R.hd.dead R.tm (by decide) (by decide) pF
  · have h' : (q.y.ck i).st = 0:=h
    by_cases h2 : i < 2
    · rw [al.EE i h2] at h';cases h'
    · exact (al.UH i (by omega) hi).2
 have cM : YM ((⟨q,0,fun _=>0,fun _=>0⟩ : Zt).may 600) 4 = 1:=by
  simp only [YM,m0,m1,m2,m3]
  rfl
 have cQ : YM (⟨q,0,fun _=>0,fun _=>0⟩ : Zt).UJ 4 = 0:=VZ 4 (fun i hi=>decide_eq_false (nq i hi))
 obtain ⟨N,z',NP,id',hN,C,_,La,f',M',Q',_,_,_⟩:=H5 (t:=1) (n:=20) (k:=4) (m:=20) (sp:=600) (tr:=3) (by decide) (by decide) (by decide) (by decide) 4 σ ⟨q,0,fun _=>0,fun _=>0⟩ ⟨0,0,0,0,0⟩ 0 D (by rw [cM];decide) (by decide) (by rw [cM,cQ];decide) (by decide) (by decide) (by decide) (by omega)
 rw [cM] at M' Q' f'
 rw [cQ] at f'
 have hM' : YM (z'.may 600) 4 = 0:=M'
 have hQ' : YM z'.UJ 4 = 0:=Q' (by decide)
 rw [hM',hQ'] at f'
 have t0:=La.free hM' hQ' (i:=0) (by decide) (Or.inl m0)
 have t1 : (z'.q.y.ck 1).st = 1:=by rw [(La.stay 1 (by decide) m1 (nq 1 (by decide))).1];exact s1
 have t2 : (z'.q.y.ck 2).st = 0:=by rw [(La.stay 2 (by decide) m2 (nq 2 (by decide))).1];exact s2
 have t3 : (z'.q.y.ck 3).st = 0:=by rw [(La.stay 3 (by decide) m3 (nq 3 (by decide))).1];exact s3
 refine ⟨?_,N,z',NP,id',by omega,C,?_,?_,by simpa using f'⟩
 · simp only [Yp,s0,s1,s2,s3];decide
 · simp only [Yp,t0,t1,t2,t3];decide
 · simp only [Yp,t0,t1,t2,t3];decide
end
end Go.Proofs.YtmnnhjhhhfabiaaGreat
