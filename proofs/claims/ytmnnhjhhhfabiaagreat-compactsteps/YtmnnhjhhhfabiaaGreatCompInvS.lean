import Derived.Test.YtmnnhjhhhfabiaaGreatCompHerd
namespace Go.Proofs.YtmnnhjhhhfabiaaGreat
open Go.RowKit
section
def Lv (v : Int) : Prop:=v % 8 = 1 \/ v % 8 = 2
def Uh (t n k m : Nat) (v : Int) (i : Nat) : Bool:=decide (v % 8 = 1 \/ v % 8 = 2) && decide (PZ t n k m (ZA v) = i)
def cN (t n k m : Nat) (sw : Nat -> Int) (i : Nat) : Nat -> Nat
 | 0=>0
 | N + 1=>cN t n k m sw i N + (Uh t n k m (sw N) i).toNat
theorem Vg (t n k m i u : Nat) : base t n k m i + u ≠ 0:=by unfold base;omega
theorem Rt {t n k m i j u v : Nat} (hu : u < m) (hv : v < m) (h : base t n k m i + u = base t n k m j + v) : i = j /\ u = v:=by
 have h1:=Xu (t:=t) (n:=n) (k:=k) (i:=i) hu
 have h2:=Xu (t:=t) (n:=n) (k:=k) (i:=j) hv
 rw [h] at h1
 exact ⟨h1.1.symm.trans h2.1,h1.2.symm.trans h2.2⟩
section
variable {t n k m : Nat}
theorem KC (sw : Nat -> Int) (i x : Nat) (v : Int) : ∀ N,cN t n k m (upd sw x v) i N + (if x < N then (Uh t n k m (sw x) i).toNat else 0) = cN t n k m sw i N + (if x < N then (Uh t n k m v i).toNat else 0)
 | 0=>rfl
 | N + 1=>by
  have ih:=KC sw i x v N
  show cN t n k m (upd sw x v) i N + (Uh t n k m (upd sw x v N) i).toNat + _ = cN t n k m sw i N + (Uh t n k m (sw N) i).toNat + _
  by_cases e : N = x
  · subst e
    rw [upd_same,if_pos (Nat.lt_succ_self N),if_pos (Nat.lt_succ_self N)]
    rw [if_neg (Nat.lt_irrefl N),if_neg (Nat.lt_irrefl N)] at ih
    omega
  · rw [Z7 _ _ _ _ e]
    by_cases h : x < N
    · rw [if_pos (show x < N + 1 by omega),if_pos (show x < N + 1 by omega)]
      rw [if_pos h,if_pos h] at ih
      omega
    · rw [if_neg (show ¬ x < N + 1 by omega),if_neg (show ¬ x < N + 1 by omega)]
      rw [if_neg h,if_neg h] at ih
      omega
theorem OL {sw : Nat -> Int} {i : Nat} : ∀ {N},cN t n k m sw i N ≠ 0 -> ∃ x,x < N /\ Uh t n k m (sw x) i = true
 | 0,h=>absurd rfl h
 | N + 1,h=>by
  by_cases e : Uh t n k m (sw N) i = true
  · exact ⟨N,Nat.lt_succ_self N,e⟩
  · have e' : Uh t n k m (sw N) i = false:=by simpa using e
    have h' : cN t n k m sw i N + (Uh t n k m (sw N) i).toNat ≠ 0:=h
    rw [e'] at h'
    obtain ⟨x,hx,hy⟩:=OL (N:=N) (by simpa using h')
    exact ⟨x,by omega,hy⟩
theorem zB {sw : Nat -> Int} {i N : Nat} (h : ∀ x,x < N -> Uh t n k m (sw x) i = false) : cN t n k m sw i N = 0 :=
 Classical.byContradiction fun e=>by
  obtain ⟨x,hx,hy⟩:=OL e
  rw [h x hx] at hy
  cases hy
theorem ui (v : Int) : VY v % 8 = 2 /\ ZA (VY v) = ZA v /\ Zz (VY v) = Zz v /\ ZB (VY v) = ZB v:=by
 obtain ⟨a1,a2,a3,a4⟩:=VX (st:=2) (A:=ZA v) (G:=Zz v) (V:=ZB v) (by decide) (OJ v) (Vl v) (by unfold ZB;omega)
 exact ⟨a1,a2,a3,a4⟩
theorem uh (v : Int) {a : Nat} (ha : a <= 1048575) (hV : ZB v + 1 <= 4194303) : WL v a % 8 = 1 /\ ZA (WL v a) = a /\ Zz (WL v a) = Zz v:=by
 have d0:=VX (st:=1) (A:=a) (G:=Zz v) (V:=ZB v + 1) (by decide) ha (Vl v) hV
 have e : WL v a = Zp ((1 : Nat) : Int) a (Zz v) ((ZB v + 1 : Nat) : Int):=by unfold WL;simp
 rw [<- e] at d0
 exact ⟨d0.1,d0.2.1,d0.2.2.1⟩
end
def KA (v : Int) (x g : Nat) : Prop:=v % 4 = 2 /\ (v / 262144 % 65536).toNat = x /\ (v / 17179869184 % 65536).toNat = g
def Sl (n : Nat) (v : Int) (cl : Nat) : Prop:=1 <= Ws v /\ Ws v <= 16 /\ ZM (Ws v) = cl /\ (v / 262144 % 65536).toNat < n
structure Sd (t n k m : Nat) (ck : Nat -> Ck) (sw dw : Nat -> Int) (pe x i u : Nat) : Prop where
 ik : i < k
 ad : ZA (sw x) = base t n k m i + u
 mu : ∃ j,u = j * room (ck i).cl
 us : u < (ck i).us
 st : (ck i).st = 1 \/ (ck i).st = 2
 hd : base t n k m i + u = pe \/ KA (dw (base t n k m i + u)) x (Zz (sw x))
def no : Nat -> Nat:=fun _=>0
structure Fk (t n k m : Nat) (q : Q) (pe mx : Nat) (xl xd : Nat -> Nat) : Prop where
 us : ∀ i,i < k -> (∃ J,(q.y.ck i).us = J * room (q.y.ck i).cl) /\ (q.y.ck i).us <= m /\ ((q.y.ck i).st = 0 -> (q.y.ck i).us = 0)
 dn : ∀ i,i < k -> ∀ u,(q.y.ck i).us <= u -> u < m -> q.dw (base t n k m i + u) = 0
 hd : ∀ i,i < k -> ∀ j,j * room (q.y.ck i).cl < (q.y.ck i).us -> q.dw (base t n k m i + j * room (q.y.ck i).cl) % 4 = 2 -> Sl n (q.dw (base t n k m i + j * room (q.y.ck i).cl)) (q.y.ck i).cl
 sl : ∀ x,x < n -> Lv (q.sw x) -> ∃ i u,Sd t n k m q.y.ck q.sw q.dw pe x i u
 mv : ∀ x,x < n -> q.sw x % 8 = 2 -> x = mx
 lv : ∀ i,i < k -> q.lv i = cN t n k m q.sw i n * room (q.y.ck i).cl + xl i
 db : ∀ i,i < k -> q.db i = xd i
section
variable {t n k m : Nat} {q : Q} {pe mx : Nat} {xl xd : Nat -> Nat}
theorem Fk.on (F : Fk t n k m q pe mx xl xd) {x i u : Nat} (S : Sd t n k m q.y.ck q.sw q.dw pe x i u) (hl : Lv (q.sw x)) (i' : Nat) : Uh t n k m (q.sw x) i' = decide (i = i'):=by
 have h1:=S.us
 have h2:=(F.us i S.ik).2.1
 unfold Uh
 rw [S.ad,(Xu (by omega)).1,decide_eq_true (show q.sw x % 8 = 1 \/ q.sw x % 8 = 2 from hl),Bool.true_and]
theorem Fk.of (F : Fk t n k m q pe mx xl xd) {x i : Nat} (hx : x < n) (h : Uh t n k m (q.sw x) i = true) : Lv (q.sw x) /\ ∃ u,Sd t n k m q.y.ck q.sw q.dw pe x i u:=by
 have hl : q.sw x % 8 = 1 \/ q.sw x % 8 = 2:=of_decide_eq_true (Bool.and_eq_true_iff.1 h).1
 obtain ⟨i',u,S⟩:=F.sl x hx hl
 rw [F.on S hl] at h
 obtain rfl : i' = i:=of_decide_eq_true h
 exact ⟨hl,u,S⟩
theorem Fk.at (F : Fk t n k m q pe mx xl xd) {x i u : Nat} (hx : x < n) (hl : Lv (q.sw x)) (hu : u < m) (ha : ZA (q.sw x) = base t n k m i + u) : Sd t n k m q.y.ck q.sw q.dw pe x i u:=by
 obtain ⟨i',u',S⟩:=F.sl x hx hl
 have h1:=S.us
 have h2:=(F.us i' S.ik).2.1
 obtain ⟨rfl,rfl⟩:=Rt (by omega) hu (S.ad.symm.trans ha)
 exact S
theorem Fk.lay (F : Fk t n k m q pe mx xl xd) {i u : Nat} (hi : i < k) (hu : u < (q.y.ck i).us) {v : Int} (hp : pe = 0 \/ pe = base t n k m i + u) (h1 : (∃ j,u = j * room (q.y.ck i).cl) -> v % 4 = 2 -> Sl n v (q.y.ck i).cl) (h2 : ∀ x,x < n -> Lv (q.sw x) -> ZA (q.sw x) = base t n k m i + u -> KA v x (Zz (q.sw x))) : Fk t n k m { q with dw:=upd q.dw (base t n k m i + u) v } 0 mx xl xd:=by
 have hm:=(F.us i hi).2.1
 have ne : ∀ j v,v < m -> (j = i -> v ≠ u) -> base t n k m j + v ≠ base t n k m i + u:=fun j v' hv h e=>by
  obtain ⟨e1,e2⟩:=Rt hv (by omega) e
  exact h e1 e2
 refine ⟨F.us,fun j hj v' h3 h4=>?_,fun j hj a ha he=>?_,fun x hx hl=>?_,F.mv,F.lv,F.db⟩
 · show upd q.dw _ v _ = 0
   have h3' : (q.y.ck j).us <= v':=h3
   rw [Z7 _ _ _ _ (ne j v' h4 (fun e=>by subst e;omega))];exact F.dn j hj v' h3 h4
 · have he' : upd q.dw (base t n k m i + u) v (base t n k m j + a * room (q.y.ck j).cl) % 4 = 2:=he
   have ha' : a * room (q.y.ck j).cl < (q.y.ck j).us:=ha
   show Sl n (upd q.dw (base t n k m i + u) v (base t n k m j + a * room (q.y.ck j).cl)) _
   have hjm:=(F.us j hj).2.1
   by_cases e : j = i /\ a * room (q.y.ck j).cl = u
   · obtain ⟨rfl,e⟩:=e
     rw [e,upd_same] at he' ⊢
     exact h1 ⟨a,e.symm⟩ he'
   · rw [Z7 _ _ _ _ (ne j (a * room (q.y.ck j).cl) (by omega) (fun e1 e2=>e ⟨e1,e2⟩))] at he' ⊢
     exact F.hd j hj a ha he'
 · obtain ⟨i',u',S⟩:=F.sl x hx hl
   refine ⟨i',u',S.ik,S.ad,S.mu,S.us,S.st,Or.inr ?_⟩
   show KA (upd q.dw _ v _) x _
   by_cases e : base t n k m i' + u' = base t n k m i + u
   · rw [e,upd_same];exact h2 x hx hl (S.ad.trans e)
   · rw [Z7 _ _ _ _ e]
     rcases S.hd with h | h
     · rcases hp with h' | h'
       · exact absurd (h.trans h') (Vg _ _ _ _ _ _)
       · exact absurd (h.trans h') e
     · exact h
theorem Fk.inner (F : Fk t n k m q 0 mx xl xd) {i u : Nat} (hi : i < k) (hu : u < (q.y.ck i).us) (hn : ∀ j,u ≠ j * room (q.y.ck i).cl) (v : Int) : Fk t n k m { q with dw:=upd q.dw (base t n k m i + u) v } 0 mx xl xd :=
 F.lay hi hu (Or.inl rfl) (fun ⟨j,e⟩=>absurd e (hn j)) (fun x hx hl ha=>by
  have hm:=(F.us i hi).2.1
  obtain ⟨j,e⟩:=(F.at hx hl (by omega) ha).mu
  exact absurd e (hn j))
theorem Fk.chunk (F : Fk t n k m q pe mx xl xd) {i : Nat} (c' : Ck) (op' : Nat -> Nat) (hu : (∃ J,c'.us = J * room c'.cl) /\ c'.us <= m /\ (c'.st = 0 -> c'.us = 0)) (hdn : ∀ u,c'.us <= u -> u < m -> q.dw (base t n k m i + u) = 0) (hhd : ∀ j,j * room c'.cl < c'.us -> q.dw (base t n k m i + j * room c'.cl) % 4 = 2 -> Sl n (q.dw (base t n k m i + j * room c'.cl)) c'.cl) (hsl : ∀ x,x < n -> Uh t n k m (q.sw x) i = true -> c'.cl = (q.y.ck i).cl /\ (q.y.ck i).us <= c'.us /\ (c'.st = 1 \/ c'.st = 2)) : Fk t n k m { q with y:=⟨upd q.y.ck i c',op'⟩ } pe mx xl xd:=by
 refine ⟨fun j hj=>?_,fun j hj u h1 h2=>?_,fun j hj a ha he=>?_,fun x hx hl=>?_,F.mv,fun j hj=>?_,F.db⟩
 · show (∃ J,(upd q.y.ck i c' j).us = J * room (upd q.y.ck i c' j).cl) /\ (upd q.y.ck i c' j).us <= m /\ ((upd q.y.ck i c' j).st = 0 -> (upd q.y.ck i c' j).us = 0)
   by_cases e : j = i
   · subst e;rw [upd_same];exact hu
   · rw [Z7 _ _ _ _ e];exact F.us j hj
 · have h1' : (upd q.y.ck i c' j).us <= u:=h1
   by_cases e : j = i
   · subst e;rw [upd_same] at h1';exact hdn u h1' h2
   · rw [Z7 _ _ _ _ e] at h1';exact F.dn j hj u h1' h2
 · have ha' : a * room (upd q.y.ck i c' j).cl < (upd q.y.ck i c' j).us:=ha
   have he' : q.dw (base t n k m j + a * room (upd q.y.ck i c' j).cl) % 4 = 2:=he
   show Sl n (q.dw (base t n k m j + a * room (upd q.y.ck i c' j).cl)) (upd q.y.ck i c' j).cl
   by_cases e : j = i
   · subst e;rw [upd_same] at ha' he' ⊢;exact hhd a ha' he'
   · rw [Z7 _ _ _ _ e] at ha' he' ⊢;exact F.hd j hj a ha' he'
 · obtain ⟨i',u,S⟩:=F.sl x hx hl
   refine ⟨i',u,?_⟩
   show Sd t n k m (upd q.y.ck i c') q.sw q.dw pe x i' u
   by_cases e : i' = i
   · subst e
     obtain ⟨h1,h2,h3⟩:=hsl x hx (by rw [F.on S hl];exact decide_eq_true rfl)
     have h4:=S.us
     exact ⟨S.ik,S.ad,by rw [upd_same,h1];exact S.mu,by rw [upd_same];omega,by rw [upd_same];exact h3,S.hd⟩
   · exact ⟨S.ik,S.ad,by rw [Z7 _ _ _ _ e];exact S.mu,by rw [Z7 _ _ _ _ e];exact S.us,by rw [Z7 _ _ _ _ e];exact S.st,S.hd⟩
 · have h:=F.lv j hj
   show q.lv j = cN t n k m q.sw j n * room (upd q.y.ck i c' j).cl + xl j
   by_cases e : j = i
   · subst e
     rw [upd_same]
     by_cases h0 : cN t n k m q.sw j n = 0
     · rw [h0,Nat.zero_mul] at h ⊢;exact h
     · obtain ⟨x,hx,hon⟩:=OL h0
       rw [(hsl x hx hon).1];exact h
   · rw [Z7 _ _ _ _ e];exact h
theorem Fk.state (F : Fk t n k m q pe mx xl xd) {i : Nat} (hi : i < k) (st sp : Nat) (h0 : st ≠ 0) (hs : (st = 1 \/ st = 2) \/ ∀ x,x < n -> Uh t n k m (q.sw x) i = false) : Fk t n k m { q with y:=⟨upd q.y.ck i ⟨st,(q.y.ck i).cl,(q.y.ck i).us,sp⟩,q.y.op⟩ } pe mx xl xd :=
 F.chunk _ _ ⟨(F.us i hi).1,(F.us i hi).2.1,fun e=>absurd e h0⟩ (F.dn i hi) (F.hd i hi) (fun x hx h=>⟨rfl,Nat.le_refl _,hs.resolve_right (fun g=>by rw [g x hx] at h;cases h)⟩)
theorem Fk.marks (F : Fk t n k m q pe n xl xd) {x : Nat} (h1 : q.sw x % 8 = 1) : Fk t n k m { q with sw:=upd q.sw x (VY (q.sw x)) } pe x xl xd:=by
 obtain ⟨d1,d2,d3,-⟩:=ui (q.sw x)
 refine ⟨F.us,F.dn,F.hd,fun y hy hl=>?_,fun y hy h2=>?_,fun i hi=>?_,F.db⟩
 · have hl' : Lv (upd q.sw x (VY (q.sw x)) y):=hl
   have e : ZA (upd q.sw x (VY (q.sw x)) y) = ZA (q.sw y) /\ Zz (upd q.sw x (VY (q.sw x)) y) = Zz (q.sw y) /\ Lv (q.sw y):=by
    by_cases e : y = x
    · subst e;rw [upd_same];exact ⟨d2,d3,Or.inl h1⟩
    · rw [Z7 _ _ _ _ e] at hl' ⊢;exact ⟨rfl,rfl,hl'⟩
   obtain ⟨i,u,S⟩:=F.sl y hy e.2.2
   exact ⟨i,u,S.ik,e.1.trans S.ad,S.mu,S.us,S.st,by show _ \/ KA _ y (Zz (upd q.sw x (VY (q.sw x)) y));rw [e.2.1];exact S.hd⟩
 · by_cases e : y = x
   · exact e
   · have h2' : upd q.sw x (VY (q.sw x)) y % 8 = 2:=h2
     rw [Z7 _ _ _ _ e] at h2'
     have:=F.mv y hy h2'
     omega
 · have h:=KC (t:=t) (n:=n) (k:=k) (m:=m) q.sw i x (VY (q.sw x)) n
   have e : Uh t n k m (VY (q.sw x)) i = Uh t n k m (q.sw x) i:=by unfold Uh;rw [d1,d2,h1];rfl
   rw [e] at h
   show q.lv i = cN t n k m (upd q.sw x (VY (q.sw x))) i n * room (q.y.ck i).cl + xl i
   rw [Nat.add_right_cancel h]
   exact F.lv i hi
theorem Fk.shows {x : Nat} (F : Fk t n k m q 0 x no no) (hx : x < n) (hst : q.sw x % 8 = 2) {ia ua i u κ a : Nat} (S : Sd t n k m q.y.ck q.sw q.dw 0 x ia ua) (nD : (q.y.ck ia).cl = κ) (ha : a = base t n k m i + u) (hi : i < k) (c1 : (q.y.ck i).st = 1) (cl : (q.y.ck i).cl = κ) (hu : u < (q.y.ck i).us) (hmu : ∃ j,u = j * room κ) (hne : i ≠ ia) (hV : ZB (q.sw x) + 1 <= 4194303) (hB : a <= 1048575) : Fk t n k m { q with sw:=upd q.sw x (WL (q.sw x) a),lv:=upd q.lv i (q.lv i + room κ),db:=upd q.db i (q.db i + room κ) } a n (upd no ia (room κ)) (upd no i (room κ)):=by
 obtain ⟨d1,d2,d3⟩:=uh (q.sw x) hB hV
 have wP:=(F.us i hi).2.1
 refine ⟨F.us,F.dn,F.hd,fun y hy hl=>?_,fun y hy h2=>?_,fun j hj=>?_,fun j hj=>?_⟩
 · by_cases e : y = x
   · subst e
     exact ⟨i,u,hi,by show ZA (upd q.sw y _ y) = _;rw [upd_same,d2,ha],by rw [cl];exact hmu,hu,Or.inl c1,Or.inl ha.symm⟩
   · have hl' : Lv (upd q.sw x (WL (q.sw x) a) y):=hl
     rw [Z7 _ _ _ _ e] at hl'
     obtain ⟨j,v,T⟩:=F.sl y hy hl'
     refine ⟨j,v,T.ik,?_,T.mu,T.us,T.st,?_⟩
     · show ZA (upd q.sw x _ y) = _
       rw [Z7 _ _ _ _ e];exact T.ad
     · show _ \/ KA _ y (Zz (upd q.sw x _ y))
       rw [Z7 _ _ _ _ e]
       exact Or.inr (T.hd.resolve_left (Vg _ _ _ _ _ _))
 · have h2' : upd q.sw x (WL (q.sw x) a) y % 8 = 2:=h2
   by_cases e : y = x
   · subst e;rw [upd_same,d1] at h2';exact absurd h2' (by decide)
   · rw [Z7 _ _ _ _ e] at h2'
     exact absurd (F.mv y hy h2') e
 · have h:=KC (t:=t) (n:=n) (k:=k) (m:=m) q.sw j x (WL (q.sw x) a) n
   rw [if_pos hx,if_pos hx,F.on S (Or.inr hst)] at h
   have e : Uh t n k m (WL (q.sw x) a) j = decide (i = j):=by
    unfold Uh
    rw [d1,d2,ha,(Xu (by omega)).1]
    rfl
   rw [e] at h
   have hl:=F.lv j hj
   show upd q.lv i (q.lv i + room κ) j = cN t n k m (upd q.sw x (WL (q.sw x) a)) j n * room (q.y.ck j).cl + upd no ia (room κ) j
   by_cases e1 : j = i
   · subst e1
     rw [decide_eq_false (fun e=>hne e.symm),decide_eq_true rfl] at h
     rw [upd_same,Z7 _ _ _ _ hne,hl,show cN t n k m (upd q.sw x (WL (q.sw x) a)) j n = cN t n k m q.sw j n + 1 by simpa using h,cl,Nat.succ_mul]
     simp only [no];omega
   · by_cases e2 : j = ia
     · subst e2
       rw [decide_eq_true rfl,decide_eq_false (fun e=>e1 e.symm)] at h
       rw [Z7 _ _ _ _ e1,upd_same,hl,<- show cN t n k m (upd q.sw x (WL (q.sw x) a)) j n + 1 = cN t n k m q.sw j n by simpa using h,nD,Nat.succ_mul]
       rfl
     · rw [decide_eq_false (fun e=>e2 e.symm),decide_eq_false (fun e=>e1 e.symm)] at h
       rw [Z7 _ _ _ _ e1,Z7 _ _ _ _ e2,Nat.add_right_cancel h]
       exact hl
 · show upd q.db i (q.db i + room κ) j = upd no i (room κ) j
   by_cases e1 : j = i
   · subst e1;rw [upd_same,upd_same,F.db j hj];simp only [no];omega
   · rw [Z7 _ _ _ _ e1,Z7 _ _ _ _ e1];exact F.db j hj
theorem Fk.grows {i r : Nat} (F : Fk t n k m q pe mx xl (upd no i r)) : Fk t n k m { q with db:=upd q.db i (q.db i - r) } pe mx xl no :=
 ⟨F.us,F.dn,F.hd,F.sl,F.mv,F.lv,fun j hj=>by
  show upd q.db i (q.db i - r) j = 0
  have h:=F.db j hj
  by_cases e : j = i
  · subst e;rw [upd_same] at h ⊢;omega
  · rw [Z7 _ _ _ _ e] at h ⊢;exact h⟩
theorem Fk.falls {i r : Nat} (F : Fk t n k m q pe mx (upd no i r) xd) : Fk t n k m { q with lv:=upd q.lv i (q.lv i - r) } pe mx no xd :=
 ⟨F.us,F.dn,F.hd,F.sl,F.mv,fun j hj=>by
  show upd q.lv i (q.lv i - r) j = cN t n k m q.sw j n * room (q.y.ck j).cl + 0
  have h:=F.lv j hj
  by_cases e : j = i
  · subst e;rw [upd_same] at h ⊢;omega
  · rw [Z7 _ _ _ _ e] at h ⊢;exact h,F.db⟩
structure Pc (t n k m κ : Nat) (ck : Nat -> Ck) (a i u : Nat) : Prop where
 ik : i < k
 st : (ck i).st = 1
 cl : (ck i).cl = κ
 ad : a = base t n k m i + u
 us : u + room κ <= (ck i).us
 mu : ∃ j,u = j * room κ
theorem zA {κ σ : Nat} {τ τ' : Pl} {y' : Y} (F : Fk t n k m q 0 n no no) (hg : τ.good k m κ σ) (ho : τ.over = false) (ht : turn k m κ (base t n k m) q.y τ = (y',τ')) :
 Fk t n k m { q with y:=y' } 0 n no no /\ (∀ j,(q.y.ck j).st = 2 -> y'.ck j = q.y.ck j) /\ ∀ a i,τ' = .Yn a i -> ∃ u,Pc t n k m κ y'.ck a i u /\ q.dw a = 0:=by
 have OI : ∀ {sn j a i},Tj k sn j ≠ .Yn a i:=fun {sn j a i}=>by
  unfold Tj;split <;> (intro h;cases h)
 cases τ with
 | Yn a i=>cases ho
 | none=>cases ho
 | see =>
  obtain ⟨rfl,rfl⟩:=Prod.mk.inj ht
  refine ⟨F,fun _ _=>rfl,fun a i e=>?_⟩
  split at e
  · exact absurd e OI
  · cases e
 | ask i =>
  obtain ⟨rfl,rfl⟩:=Prod.mk.inj ht
  refine ⟨F,fun _ _=>rfl,fun a i e=>?_⟩
  split at e
  · cases e
  · exact absurd e OI
 | look sn i =>
  obtain ⟨rfl,rfl⟩:=Prod.mk.inj ht
  refine ⟨F,fun _ _=>rfl,fun a i e=>?_⟩
  split at e
  · cases e
  · exact absurd e OI
 | grow i c =>
  obtain ⟨hi,-,hs,hc,hu⟩:=hg
  simp only [turn] at ht
  by_cases e : q.y.ck i = c
  · rw [if_pos e] at ht
    obtain ⟨rfl,rfl⟩:=Prod.mk.inj ht
    subst e
    have hr:=Zv κ
    obtain ⟨J,hJ⟩:=(F.us i hi).1
    rw [hc] at hJ
    refine ⟨F.chunk _ _ ⟨⟨J + 1,by rw [hc,hJ,Nat.succ_mul]⟩,hu,fun e=>by rw [hs] at e;cases e⟩ (fun u h1 h2=>F.dn i hi u (by have h1' : (q.y.ck i).us + room κ <= u:=h1;omega) h2) (fun j h1 h2=>?_) (fun x hx h=>⟨rfl,Nat.le_add_right _ _,Or.inl hs⟩),fun j h2=>?_,fun a j e=>?_⟩
    · by_cases h3 : j * room (q.y.ck i).cl < (q.y.ck i).us
      · exact F.hd i hi j h3 h2
      · have h1' : j * room (q.y.ck i).cl < (q.y.ck i).us + room κ:=h1
        have h0:=F.dn i hi (j * room (q.y.ck i).cl) (by omega) (by omega)
        have h2' : q.dw (base t n k m i + j * room (q.y.ck i).cl) % 4 = 2:=h2
        rw [h0] at h2'
        omega
    · exact Z7 _ _ _ _ (fun e=>by subst e;omega)
    · cases e
      exact ⟨(q.y.ck i).us,⟨hi,by show (upd q.y.ck i _ i).st = 1;rw [upd_same];exact hs,by show (upd q.y.ck i _ i).cl = κ;rw [upd_same];exact hc,rfl,by show _ <= (upd q.y.ck i _ i).us;rw [upd_same];exact Nat.le_refl _,J,hJ⟩,F.dn i hi _ (Nat.le_refl _) (by omega)⟩
  · rw [if_neg e] at ht
    obtain ⟨rfl,rfl⟩:=Prod.mk.inj ht
    exact ⟨F,fun _ _=>rfl,fun a i e=>by cases e⟩
 | take sn i c =>
  obtain ⟨hi,-,-,hs⟩:=hg
  simp only [turn] at ht
  by_cases e : q.y.ck i = c
  · rw [if_pos e] at ht
    obtain ⟨rfl,rfl⟩:=Prod.mk.inj ht
    subst e
    have h0:=(F.us i hi).2.2 hs
    refine ⟨F.chunk _ _ ⟨⟨0,by rw [Nat.zero_mul]⟩,Nat.zero_le _,fun _=>rfl⟩ (fun u _ h2=>F.dn i hi u (by omega) h2) (fun j h1 _=>absurd h1 (Nat.not_lt_zero _)) (fun x hx h=>?_),fun j h2=>Z7 _ _ _ _ (fun e=>by subst e;omega),fun a j e=>by cases e⟩
    obtain ⟨-,u,S⟩:=F.of hx h
    have:=S.st
    omega
  · rw [if_neg e] at ht
    obtain ⟨rfl,rfl⟩:=Prod.mk.inj ht
    exact ⟨F,fun _ _=>rfl,fun a i e=>absurd e OI⟩
 | opn sn i c =>
  simp only [turn] at ht
  split at ht
  · obtain ⟨rfl,rfl⟩:=Prod.mk.inj ht
    exact ⟨⟨F.us,F.dn,F.hd,F.sl,F.mv,F.lv,F.db⟩,fun _ _=>rfl,fun a i e=>by cases e⟩
  · obtain ⟨rfl,rfl⟩:=Prod.mk.inj ht
    exact ⟨F,fun _ _=>rfl,fun a i e=>by cases e⟩
 | UH sn i c =>
  obtain ⟨hi,-,-,hs,-,hu⟩:=hg
  simp only [turn] at ht
  by_cases e : q.y.ck i = c
  · rw [if_pos e] at ht
    obtain ⟨rfl,rfl⟩:=Prod.mk.inj ht
    subst e
    refine ⟨F.chunk _ _ ⟨⟨0,by rw [Nat.zero_mul]⟩,Nat.zero_le _,fun _=>rfl⟩ (fun u _ h2=>F.dn i hi u (by omega) h2) (fun j h1 _=>absurd h1 (Nat.not_lt_zero _)) (fun x hx h=>?_),fun j h2=>Z7 _ _ _ _ (fun e=>by subst e;omega),fun a j e=>by cases e⟩
    obtain ⟨-,u,S⟩:=F.of hx h
    have:=S.us
    omega
  · rw [if_neg e] at ht
    obtain ⟨rfl,rfl⟩:=Prod.mk.inj ht
    exact ⟨F,fun _ _=>rfl,fun a i e=>by cases e⟩
end
end
section
def wO (t n k m : Nat) (ck : Nat -> Ck) (a : Nat) : Prop:=6 + t + n * 2 + k * 3 <= a -> ∃ i u,i < k /\ u < m /\ a = base t n k m i + u /\ (ck i).st ≠ 0 /\ u < (ck i).us
structure Ev (t n k m σ : Nat) (ck : Nat -> Ck) (sw : Nat -> Int) (i : Nat) (c : Ck) (u : Nat) : Prop where
 ik : i < k
 ck : ck i = c
 ok : c.ok σ
 s2 : c.st = 2
 um : ∃ j,u = j * room c.cl
 ul : u <= c.us
 bh : ∀ x,x < n -> Lv (sw x) -> ∀ v,v < m -> ZA (sw x) = base t n k m i + v -> u <= v
structure Mc (t n k m : Nat) (tr : Int) (dw : Nat -> Int) (i : Nat) (c : Ck) (u : Nat) (W : Mw) : Prop where
 ok : W.ok t n k m
 A : W.A = base t n k m i + u
 ia : W.ia = i
 κ : W.κ = c.cl
 tr : W.tr = tr
 hd : KA (dw W.A) W.x W.G
 uz : u + room c.cl <= c.us
 um : c.us <= m
structure Hr (W : Mw) (sw : Nat -> Int) (v : Int) (st : Nat) : Prop where
 e : sw W.x = v
 s : v % 8 = st
 a : ZA v = W.A
 g : Zz v = W.G
 r : ZB v <= 4194301
 w : Wd v
def ug (n : Nat) (sw : Nat -> Int) (A : Nat) : Prop:=∀ x,x < n -> Lv (sw x) -> ZA (sw x) ≠ A
def rJ (t n k m σ : Nat) (q : Q) (W : Mw) : Mv -> Prop
 | .see τ f=>τ = .see /\ f = 0 /\ Fk t n k m q 0 n no no
 | .place v τ f=>f = 0 /\ Fk t n k m q 0 n no no /\ Hr W q.sw v 1 /\ τ.good k m W.κ σ /\ τ.over = false
 | .head v a i f=>f = 0 /\ Fk t n k m q 0 n no no /\ Hr W q.sw v 1 /\ (∃ u,Pc t n k m W.κ q.y.ck a i u) /\ q.dw a % 4 ≠ 2
 | .mark v a i f=>f = 0 /\ Fk t n k m q 0 n no no /\ Hr W q.sw v 1 /\ (∃ u,Pc t n k m W.κ q.y.ck a i u) /\ q.dw a % 4 ≠ 2
 | .load v a i j f=>f = 0 /\ Fk t n k m q 0 W.x no no /\ Hr W q.sw v 2 /\ (∃ u,Pc t n k m W.κ q.y.ck a i u) /\ q.dw a % 4 ≠ 2 /\ j < W.Z
 | .freeze v d a i j f=>f = 0 /\ Fk t n k m q 0 W.x no no /\ Hr W q.sw v 2 /\ (∃ u,Pc t n k m W.κ q.y.ck a i u) /\ q.dw a % 4 ≠ 2 /\ j < W.Z /\ Wd d
 | .copy v d a i j f=>f = 0 /\ Fk t n k m q 0 W.x no no /\ Hr W q.sw v 2 /\ (∃ u,Pc t n k m W.κ q.y.ck a i u) /\ q.dw a % 4 ≠ 2 /\ j < W.Z /\ Wd d
 | .shw v a i f=>f = 0 /\ Fk t n k m q 0 W.x no no /\ Hr W q.sw v 2 /\ (∃ u,Pc t n k m W.κ q.y.ck a i u) /\ q.dw a % 4 ≠ 2
 | .ready a i=>Fk t n k m q a n (upd no W.ia (room W.κ)) (upd no i (room W.κ)) /\ (∃ u,Pc t n k m W.κ q.y.ck a i u) /\ ug n q.sw W.A /\ Zz (q.sw W.x) = W.G /\ ∀ x,x < n -> Lv (q.sw x) -> ZA (q.sw x) = a -> x = W.x
 | .grow a i=>Fk t n k m q 0 n (upd no W.ia (room W.κ)) (upd no i (room W.κ)) /\ (∃ u,Pc t n k m W.κ q.y.ck a i u) /\ ug n q.sw W.A
 | .fall a i=>Fk t n k m q 0 n (upd no W.ia (room W.κ)) no /\ (∃ u,Pc t n k m W.κ q.y.ck a i u) /\ ug n q.sw W.A
 | .TV _ _ _=>False
 | .over o _=>Fk t n k m q 0 n no no /\ (o = 1 \/ o = 2 -> ug n q.sw W.A)
section
variable {t n k m σ : Nat} {q : Q} {tr : Int} {i u : Nat} {c : Ck} {W : Mw}
theorem Ev.up {ck vg : Nat -> Ck} {sw qJ : Nat -> Int} (E : Ev t n k m σ ck sw i c u) (hc : vg i = ck i) (hs : ∀ x,x < n -> Lv (qJ x) -> ∀ v,v < m -> ZA (qJ x) = base t n k m i + v -> Lv (sw x) /\ ZA (sw x) = base t n k m i + v) : Ev t n k m (σ + 1) vg qJ i c u :=
 ⟨E.ik,hc.trans E.ck,E.ok.up (Nat.le_succ _),E.s2,E.um,E.ul,fun x hx hl v hv ha=>by
  obtain ⟨h1,h2⟩:=hs x hx hl v hv ha
  exact E.bh x hx h1 v hv h2⟩
theorem Ev.on {ck : Nat -> Ck} {sw : Nat -> Int} (E : Ev t n k m σ ck sw i c u) : Ev t n k m (σ + 1) ck sw i c u:=E.up rfl (fun _ _ h _ _ e=>⟨h,e⟩)
theorem hw1 (W : Mw) (ok : W.ok t n k m) (hn : n <= 65535) : W.hw 1 % 4 = 1:=by
 have z2:=ok.z2
 have x1:=ok.x1
 have e:=Tq 1 W.Z W.x W.G W.own (by decide) (by omega) (by omega) ok.g2
 rw [show ((1 : Nat) : Int) = 1 from rfl] at e
 unfold Mw.hw
 rw [e]
 split <;> omega
theorem hw2 (W : Mw) (ok : W.ok t n k m) (hn : n <= 65535) : KA (W.hw 2) W.x W.G /\ Sl n (W.hw 2) W.κ:=by
 have z2:=ok.z2
 have x1:=ok.x1
 obtain ⟨a1,a2,a3⟩:=VJ (Z:=W.Z) (x:=W.x) (G:=W.G) (own:=W.own) (by omega) (by omega) ok.g2
 obtain ⟨b1,-⟩:=VI (Z:=W.Z) (x:=W.x) (G:=W.G) (own:=W.own) (by omega) (by omega) ok.g2
 unfold Mw.hw
 refine ⟨⟨a1,a2,a3⟩,?_⟩
 unfold Sl
 rw [b1,a2]
 exact ⟨ok.z1,z2,ok.kz,x1⟩
theorem DU {j j' r d : Nat} (h0 : 0 < d) (h1 : d < r) : j * r + d ≠ j' * r:=fun e=>by
 rcases Nat.lt_or_ge j j' with h | h
 · have:=Nat.mul_le_mul_right r (show j + 1 <= j' by omega)
   rw [Nat.succ_mul] at this
   omega
 · have:=Nat.mul_le_mul_right r h
   omega
theorem Pc.ne {κ a i' u' : Nat} {ck : Nat -> Ck} {sw : Nat -> Int} (P : Pc t n k m κ ck a i' u') (E : Ev t n k m σ ck sw i c u) : i' ≠ i:=fun e=>by
 have h1:=P.st
 rw [e,E.ck,E.s2] at h1
 cases h1
theorem Fk.nobody {mx : Nat} {xl xd : Nat -> Nat} (F : Fk t n k m q 0 mx xl xd) {a i' u' : Nat} (ha : a = base t n k m i' + u') (hu : u' < m) (h : q.dw a % 4 ≠ 2) {x : Nat} (hx : x < n) (hl : Lv (q.sw x)) (hA : ZA (q.sw x) = a) : False:=by
 have S:=F.at hx hl hu (hA.trans ha)
 rcases S.hd with h' | h'
 · exact absurd h' (Vg _ _ _ _ _ _)
 · rw [<- ha] at h';exact h h'.1
theorem Fk.whose {mx : Nat} {xl xd : Nat -> Nat} (F : Fk t n k m q 0 mx xl xd) (M : Mc t n k m tr q.dw i c u W) {x : Nat} (hx : x < n) (hl : Lv (q.sw x)) (hA : ZA (q.sw x) = W.A) : x = W.x /\ Zz (q.sw x) = W.G:=by
 have h1:=M.uz
 have h2:=M.um
 have h3:=Zv c.cl
 have S:=F.at hx hl (u:=u) (by omega) (hA.trans M.A)
 rcases S.hd with h' | h'
 · exact absurd h' (Vg _ _ _ _ _ _)
 · rw [<- M.A] at h'
   exact ⟨h'.2.1.symm.trans M.hd.2.1,h'.2.2.symm.trans M.hd.2.2⟩
theorem Ev.wM {ck : Nat -> Ck} {sw : Nat -> Int} (E : Ev t n k m σ ck sw i c u) {v : Nat} (hv : v < c.us) (hm : c.us <= m) {a : Nat} (ha : a = base t n k m i + v) : wO t n k m ck a:=fun _ =>
 ⟨i,v,E.ik,by omega,ha,by rw [E.ck,E.s2];decide,by rw [E.ck];exact hv⟩
theorem Pc.wM {κ a i' u' d : Nat} {ck : Nat -> Ck} (P : Pc t n k m κ ck a i' u') (hd : d < room κ) (hm : (ck i').us <= m) {b : Nat} (hb : b = a + d) : wO t n k m ck b:=fun _=>by
 have h1:=P.us
 exact ⟨i',u' + d,P.ik,by omega,by rw [hb,P.ad];omega,by rw [P.st];decide,by omega⟩
theorem qI (hA : 6 + t + n * 2 + k * 3 + k * m <= 1048575) (hn : n <= 65535) (E : Ev t n k m σ q.y.ck q.sw i c u) (M : Mc t n k m tr q.dw i c u W) {μ μ' : Mv} {q' : Q} (I : rJ t n k m σ q W μ) (ho : μ.Zy = false) (hy : ∀ i,i < k -> (q.y.ck i).ok σ) (hop : ∀ c,c < 4 -> q.y.op c <= k) (hw : ∀ x,x < n -> Wd (q.sw x)) (hd : ∀ a,Wd (q.dw a)) (ht : Yo W k m (base t n k m) q μ = (q',μ')) :
 μ.good t n k m σ W q /\ Ev t n k m (σ + 1) q'.y.ck q'.sw i c u /\ Mc t n k m tr q'.dw i c u W /\ rJ t n k m (σ + 1) q' W μ' /\ wO t n k m q'.y.ck (μ.at t n W):=by
 have x1:=M.ok.x1
 have z1:=M.ok.z1
 have vk:=Yb z1 M.ok.kz
 have hrb:=Zv W.κ
 have vw:=M.uz
 have wP:=M.um
 rw [<- M.κ] at vw
 have low : ∀ a,a < 6 + t + n * 2 + k * 3 -> wO t n k m q'.y.ck a:=fun a ha h=>absurd h (by omega)
 have OH : ∀ {ck : Nat -> Ck} {a i' u' : Nat},(∀ j,j < k -> (ck j).us <= m) -> Pc t n k m W.κ ck a i' u' -> UI t n k m W.κ a i':=fun wP P=>⟨P.ik,_,by have h1:=P.us;have h2:=wP _ P.ik;omega,P.ad⟩
 have rH : ∀ {b : Nat} {v : Int},b ≠ W.A -> Mc t n k m tr (upd q.dw b v) i c u W:=fun hb=>⟨M.ok,M.A,M.ia,M.κ,M.tr,by rw [Z7 _ _ _ _ hb.symm];exact M.hd,M.uz,M.um⟩
 have uf : ∀ {a i' u' d : Nat},Pc t n k m W.κ q.y.ck a i' u' -> (q.y.ck i').us <= m -> d < room W.κ -> ∀ d',d' < room W.κ -> a + d ≠ W.A + d':=fun {a i' u' d} P hm hd d' hd' e=>by
  have h1:=P.us
  rw [P.ad,M.A] at e
  obtain ⟨e1,-⟩:=Rt (t:=t) (n:=n) (k:=k) (m:=m) (i:=i') (j:=i) (u:=u' + d) (v:=u + d') (by omega) (by omega) (by omega)
  exact P.ne E e1
 cases μ with
 | over o τ=>cases ho
 | TV o a j=>exact I.elim
 | see τ f =>
  obtain ⟨rfl,rfl,F⟩:=I
  obtain ⟨rfl,rfl⟩:=Prod.mk.inj (show (q,Vt W (q.sw W.x) .see 0) = (q',μ') from ht)
  refine ⟨⟨Or.inl rfl,by decide⟩,E.on,M,?_,low _ (by simp only [Mv.at];omega)⟩
  unfold Vt
  by_cases hh : W.here (q.sw W.x) = true
  · rw [hh,Bool.true_and,Bool.true_and]
    have hh':=hh
    unfold Mw.here at hh'
    obtain ⟨hg,ha⟩:=Bool.and_eq_true_iff.1 hh'
    by_cases h4 : q.sw W.x % 8 = 4
    · rw [if_pos (decide_eq_true h4)]
      exact ⟨F,fun h=>by omega⟩
    · rw [if_neg (by simpa using h4)]
      by_cases h1 : q.sw W.x % 8 = 1
      · rw [if_pos (decide_eq_true h1)]
        by_cases hv : 4194302 <= ZB (q.sw W.x)
        · rw [if_pos hv]
          exact ⟨F,fun h=>by omega⟩
        · rw [if_neg hv]
          exact ⟨rfl,F,⟨rfl,h1,of_decide_eq_true ha,of_decide_eq_true hg,by omega,hw _ x1⟩,trivial,rfl⟩
      · rw [if_neg (by simpa using h1)]
        refine ⟨F,fun _ x hx hl hA=>?_⟩
        obtain ⟨rfl,-⟩:=F.whose M hx hl hA
        exact hl.elim (fun e=>h1 e) (fun e=>by have:=F.mv _ hx e;omega)
  · have hh' : W.here (q.sw W.x) = false:=by simpa using hh
    rw [hh',Bool.false_and,Bool.false_and]
    refine ⟨F,fun _ x hx hl hA=>?_⟩
    obtain ⟨rfl,hg⟩:=F.whose M hx hl hA
    unfold Mw.here at hh'
    rw [decide_eq_true hg,decide_eq_true hA] at hh'
    cases hh'
 | place v τ f =>
  obtain ⟨rfl,F,H,hg,hov⟩:=I
  obtain ⟨y',τ',ve⟩ : ∃ y' τ',turn k m W.κ (base t n k m) q.y τ = (y',τ'):=⟨_,_,rfl⟩
  have ht' : UZ q v 0 (turn k m W.κ (base t n k m) q.y τ) = (q',μ'):=ht
  obtain ⟨F',hk2,qH⟩:=zA F hg hov ve
  have hg':=PK (bs:=base t n k m) M.ok.k4 hy hop hg
  rw [ve] at hg'
  rw [ve] at ht'
  have E' : Ev t n k m (σ + 1) y'.ck q.sw i c u:=E.up (hk2 i (by rw [E.ck];exact E.s2)) (fun _ _ h _ _ e=>⟨h,e⟩)
  have hq' : q' = { q with y:=y' }:=by
   have e:=PI q v 0 (y',τ')
   rw [ht'] at e
   exact e
  subst hq'
  have hat : (Mv.place v τ 0).at t n W < 6 + t + n * 2 + k * 3:=by
   have:=M.ok.k4
   cases τ with
   | ask j=>have h1 : j < k:=hg;simp only [Mv.at,Pl.at];omega
   | grow j d=>have h1 : j < k:=hg.1;simp only [Mv.at,Pl.at];omega
   | look s j=>have h1 : j < k:=hg.1;simp only [Mv.at,Pl.at];omega
   | take s j d=>have h1 : j < k:=hg.1;simp only [Mv.at,Pl.at];omega
   | UH s j d=>have h1 : j < k:=hg.1;simp only [Mv.at,Pl.at];omega
   | see=>simp only [Mv.at,Pl.at];omega
   | opn s j d=>simp only [Mv.at,Pl.at];omega
   | Yn a j=>simp only [Mv.at,Pl.at];omega
   | none=>simp only [Mv.at,Pl.at];omega
  refine ⟨⟨hg,hov,H.w,by decide⟩,E',M,?_,low _ hat⟩
  have pl : τ'.over = false -> μ' = .place v τ' 0 -> rJ t n k m (σ + 1) { q with y:=y' } W μ':=fun h e=>by
   rw [e];exact ⟨rfl,F',H,hg',h⟩
  cases τ' with
  | Yn a j =>
   obtain rfl : Mv.head v a j 0 = μ':=(Prod.mk.inj ht').2
   obtain ⟨u',P,h0⟩:=qH a j rfl
   exact ⟨rfl,F',H,⟨u',P⟩,by show q.dw a % 4 ≠ 2;rw [h0];decide⟩
  | none =>
   obtain rfl : Mv.over 4 .none = μ':=(Prod.mk.inj ht').2
   exact ⟨F',fun h=>by omega⟩
  | see=>exact pl rfl (Prod.mk.inj ht').2.symm
  | ask j=>exact pl rfl (Prod.mk.inj ht').2.symm
  | grow j d=>exact pl rfl (Prod.mk.inj ht').2.symm
  | look s j=>exact pl rfl (Prod.mk.inj ht').2.symm
  | take s j d=>exact pl rfl (Prod.mk.inj ht').2.symm
  | opn s j d=>exact pl rfl (Prod.mk.inj ht').2.symm
  | UH s j d=>exact pl rfl (Prod.mk.inj ht').2.symm
 | head v a j f =>
  obtain ⟨rfl,F,H,⟨u',P⟩,h2⟩:=I
  obtain ⟨rfl,rfl⟩:=Prod.mk.inj (show ({ q with dw:=upd q.dw a (W.hw 1) },Mv.mark v a j 0) = (q',μ') from ht)
  have hjm:=(F.us j P.ik).2.1
  have hpu:=P.us
  have h4:=hw1 W M.ok hn
  have F':=F.lay (v:=W.hw 1) P.ik (by omega : u' < _) (Or.inl rfl) (fun _ e=>by rw [h4] at e;omega) (fun x hx hl hA=>(F.nobody P.ad (by omega) h2 hx hl (by rw [hA,P.ad])).elim)
  rw [<- P.ad] at F'
  exact ⟨⟨OH (fun j hj=>(F.us j hj).2.1) P,H.w,by decide⟩,E.on,rH (uf (d:=0) P hjm (by omega) 0 (by omega)),⟨rfl,F',H,⟨u',P⟩,by show upd q.dw a _ a % 4 ≠ 2;rw [upd_same,h4];decide⟩,P.wM (d:=0) (by omega) hjm rfl⟩
 | mark v a j f =>
  obtain ⟨rfl,F,H,⟨u',P⟩,h2⟩:=I
  have ht' : (if q.sw W.x = v then ({ q with sw:=upd q.sw W.x (VY v) },Mv.load (VY v) a j 0 0) else (q,.see (.Yn a j) 0)) = (q',μ'):=ht
  rw [if_pos H.e] at ht'
  obtain ⟨rfl,rfl⟩:=Prod.mk.inj ht'
  have F':=F.marks (x:=W.x) (by rw [H.e];exact H.s)
  rw [H.e] at F'
  obtain ⟨d1,d2,d3,d4⟩:=ui v
  refine ⟨⟨OH (fun j hj=>(F.us j hj).2.1) P,H.w,by decide⟩,E.up rfl (fun x hx hl w hv ha=>?_),M,⟨rfl,F',⟨upd_same _ _ _,d1,d2.trans H.a,d3.trans H.g,by rw [d4];exact H.r,OG v⟩,⟨u',P⟩,h2,z1⟩,low _ (by simp only [Mv.at];omega)⟩
  have hl' : Lv (upd q.sw W.x (VY v) x):=hl
  have ha' : ZA (upd q.sw W.x (VY v) x) = base t n k m i + w:=ha
  by_cases e : x = W.x
  · subst e
    rw [upd_same,d2] at ha'
    rw [H.e]
    exact ⟨Or.inl H.s,ha'⟩
  · rw [Z7 _ _ _ _ e] at hl' ha'
    exact ⟨hl',ha'⟩
 | load v a j jj f =>
  obtain ⟨rfl,F,H,⟨u',P⟩,h2,hj⟩:=I
  obtain ⟨rfl,rfl⟩:=Prod.mk.inj (show (q,_) = (q',μ') from ht)
  refine ⟨⟨OH (fun j hj=>(F.us j hj).2.1) P,H.w,hj,by decide⟩,E.on,M,?_,E.wM (v:=u + 1 + jj) (by omega) wP (by simp only [Mv.at];rw [M.A];omega)⟩
  split
  · exact ⟨rfl,F,H,⟨u',P⟩,h2,hj,hd _⟩
  · exact ⟨rfl,F,H,⟨u',P⟩,h2,hj,hd _⟩
 | freeze v d a j jj f =>
  obtain ⟨rfl,F,H,⟨u',P⟩,h2,hj,hwd⟩:=I
  have hjm:=(F.us j P.ik).2.1
  have tc : wO t n k m q.y.ck (W.A + 1 + jj):=E.wM (v:=u + 1 + jj) (by omega) wP (by rw [M.A];omega)
  have gd : (Mv.freeze v d a j jj 0).good t n k m σ W q:=⟨OH (fun j hj=>(F.us j hj).2.1) P,H.w,hwd,hj,by decide⟩
  have ht' : (if q.dw (W.A + 1 + jj) = d then ({ q with dw:=upd q.dw (W.A + 1 + jj) (froze d (ZB v)) },Mv.copy v d a j jj 0) else (q,.load v a j jj 0)) = (q',μ'):=ht
  by_cases e : q.dw (W.A + 1 + jj) = d
  · rw [if_pos e] at ht'
    obtain ⟨rfl,rfl⟩:=Prod.mk.inj ht'
    obtain ⟨j0,hj0⟩:=E.um
    have F':=F.inner (i:=i) (u:=u + (1 + jj)) E.ik (by rw [E.ck];omega) (fun j'=>by rw [E.ck,hj0,<- M.κ];exact DU (by omega) (by omega)) (froze d (ZB v))
    rw [show base t n k m i + (u + (1 + jj)) = W.A + 1 + jj by rw [M.A];omega] at F'
    have hne:=uf (d:=0) P hjm (by omega) (1 + jj) (by omega)
    exact ⟨gd,E.on,rH (by omega),⟨rfl,F',H,⟨u',P⟩,by show upd q.dw _ _ a % 4 ≠ 2;rw [Z7 _ _ _ _ (by omega)];exact h2,hj,hwd⟩,tc⟩
  · rw [if_neg e] at ht'
    obtain ⟨rfl,rfl⟩:=Prod.mk.inj ht'
    exact ⟨gd,E.on,M,⟨rfl,F,H,⟨u',P⟩,h2,hj⟩,tc⟩
 | copy v d a j jj f =>
  obtain ⟨rfl,F,H,⟨u',P⟩,h2,hj,hwd⟩:=I
  have hjm:=(F.us j P.ik).2.1
  have hpu:=P.us
  obtain ⟨rfl,rfl⟩:=Prod.mk.inj (show ({ q with dw:=upd q.dw (a + 1 + jj) (XP (uV d) false 0) },if W.Z <= jj + 1 then Mv.shw v a j 0 else .load v a j (jj + 1) 0) = (q',μ') from ht)
  obtain ⟨j0,hj0⟩:=P.mu
  have F':=F.inner (i:=j) (u:=u' + (1 + jj)) P.ik (by omega) (fun j'=>by rw [P.cl,hj0];exact DU (by omega) (by omega)) (XP (uV d) false 0)
  rw [show base t n k m j + (u' + (1 + jj)) = a + 1 + jj by rw [P.ad];omega] at F'
  have h2' : upd q.dw (a + 1 + jj) (XP (uV d) false 0) a % 4 ≠ 2:=by rw [Z7 _ _ _ _ (by omega)];exact h2
  have hne:=uf (d:=1 + jj) P hjm (by omega) 0 (by omega)
  refine ⟨⟨OH (fun j hj=>(F.us j hj).2.1) P,H.w,hwd,hj,by decide⟩,E.on,rH (by omega),?_,P.wM (d:=1 + jj) (by omega) hjm (by simp only [Mv.at];omega)⟩
  by_cases e : W.Z <= jj + 1
  · rw [if_pos e];exact ⟨rfl,F',H,⟨u',P⟩,h2'⟩
  · rw [if_neg e];exact ⟨rfl,F',H,⟨u',P⟩,h2',by omega⟩
 | shw v a j f =>
  obtain ⟨rfl,F,H,⟨u',P⟩,h2⟩:=I
  have hjm:=(F.us j P.ik).2.1
  have hpu:=P.us
  have ht' : (if q.sw W.x = v then ({ q with sw:=upd q.sw W.x (WL v a),lv:=upd q.lv j (q.lv j + room W.κ),db:=upd q.db j (q.db j + room W.κ) },Mv.ready a j) else (q,if W.tr <= ((0 : Nat) : Int) + 1 then .TV 3 a j else .see (.Yn a j) (0 + 1))) = (q',μ'):=ht
  rw [if_pos H.e] at ht'
  obtain ⟨rfl,rfl⟩:=Prod.mk.inj ht'
  have nC:=H.r
  have hB : a <= 1048575:=by
   have h3:=Nat.mul_le_mul_right m (show j + 1 <= k from P.ik)
   rw [Nat.succ_mul] at h3
   rw [P.ad]
   unfold base
   omega
  have hst : q.sw W.x % 8 = 2:=by rw [H.e];exact H.s
  have S:=F.at x1 (Or.inr hst) (u:=u) (by omega) (by rw [H.e,H.a,M.A])
  have F':=F.shows x1 hst S (κ:=W.κ) (by rw [E.ck,M.κ]) P.ad P.ik P.st P.cl (by omega) P.mu (P.ne E) (by rw [H.e];omega) hB
  rw [H.e,<- M.ia] at F'
  obtain ⟨d1,d2,d3⟩:=uh v hB (by omega)
  have hne:=uf (d:=0) P hjm (by omega) 0 (by omega)
  refine ⟨⟨OH (fun j hj=>(F.us j hj).2.1) P,H.w,by decide⟩,E.up rfl (fun x hx hl w hv ha=>?_),M,⟨F',⟨u',P⟩,fun x hx hl ha=>?_,?_,fun x hx hl ha=>?_⟩,low _ (by simp only [Mv.at];omega)⟩
  · have hl' : Lv (upd q.sw W.x (WL v a) x):=hl
    have ha' : ZA (upd q.sw W.x (WL v a) x) = base t n k m i + w:=ha
    by_cases e : x = W.x
    · subst e
      rw [upd_same,d2,P.ad] at ha'
      exact absurd (Rt (by omega) hv ha').1 (P.ne E)
    · rw [Z7 _ _ _ _ e] at hl' ha'
      exact ⟨hl',ha'⟩
  · have hl' : Lv (upd q.sw W.x (WL v a) x):=hl
    have ha' : ZA (upd q.sw W.x (WL v a) x) = W.A:=ha
    by_cases e : x = W.x
    · subst e
      rw [upd_same,d2] at ha'
      omega
    · rw [Z7 _ _ _ _ e] at hl' ha'
      exact e (F.whose M hx hl' ha').1
  · show Zz (upd q.sw W.x (WL v a) W.x) = W.G
    rw [upd_same,d3,H.g]
  · have hl' : Lv (upd q.sw W.x (WL v a) x):=hl
    have ha' : ZA (upd q.sw W.x (WL v a) x) = a:=ha
    by_cases e : x = W.x
    · exact e
    · rw [Z7 _ _ _ _ e] at hl' ha'
      exact (F.nobody P.ad (by omega) h2 hx hl' ha').elim
 | ready a j =>
  obtain ⟨F,⟨u',P⟩,hG,hg,hun⟩:=I
  have hjm:=(F.us j P.ik).2.1
  have hpu:=P.us
  obtain ⟨rfl,rfl⟩:=Prod.mk.inj (show ({ q with dw:=upd q.dw a (W.hw 2) },Mv.grow a j) = (q',μ') from ht)
  obtain ⟨h3,h4⟩:=hw2 W M.ok hn
  have F':=F.lay (v:=W.hw 2) P.ik (by omega : u' < _) (Or.inr P.ad) (fun _ _=>by rw [P.cl];exact h4) (fun x hx hl hA=>by
   obtain rfl:=hun x hx hl (hA.trans P.ad.symm)
   rw [hg];exact h3)
  rw [<- P.ad] at F'
  exact ⟨OH (fun j hj=>(F.us j hj).2.1) P,E.on,rH (uf (d:=0) P hjm (by omega) 0 (by omega)),⟨F',⟨u',P⟩,hG⟩,P.wM (d:=0) (by omega) hjm rfl⟩
 | grow a j =>
  obtain ⟨F,⟨u',P⟩,hG⟩:=I
  obtain ⟨rfl,rfl⟩:=Prod.mk.inj (show ({ q with db:=upd q.db j (q.db j - room W.κ) },Mv.fall a j) = (q',μ') from ht)
  have H8:=F.db j P.ik
  rw [upd_same] at H8
  have:=P.ik
  exact ⟨⟨OH (fun j hj=>(F.us j hj).2.1) P,by omega⟩,E.on,M,⟨F.grows,⟨u',P⟩,hG⟩,low _ (by simp only [Mv.at];omega)⟩
 | fall a j =>
  obtain ⟨F,⟨u',P⟩,hG⟩:=I
  obtain ⟨rfl,rfl⟩:=Prod.mk.inj (show ({ q with lv:=upd q.lv W.ia (q.lv W.ia - room W.κ) },Mv.over 1 (.Yn a j)) = (q',μ') from ht)
  have hi:=E.ik
  have hia:=M.ia
  have hlv:=F.lv W.ia (by omega)
  rw [upd_same] at hlv
  exact ⟨⟨OH (fun j hj=>(F.us j hj).2.1) P,by omega⟩,E.on,M,⟨F.falls,fun _=>hG⟩,low _ (by simp only [Mv.at];omega)⟩
end
end
section
def nz (t n k m : Nat) (q : Q) (i : Nat) : Se -> Prop
 | .see=>True
 | .ask c=>q.y.ck i = c /\ c.st = 3
 | .look c S=>q.y.ck i = c /\ c.st = 3 /\ 0 <= S
 | .clear c j=>q.y.ck i = c /\ c.st = 3 /\ ∀ v,v < j -> v < m -> q.dw (base t n k m i + v) = 0
 | .free c=>q.y.ck i = c /\ c.st = 3 /\ ∀ v,v < m -> q.dw (base t n k m i + v) = 0
 | .over _=>True
def CI (t n k m σ : Nat) (tr : Int) (z : Zt) : Cm -> Prop
 | .see l=>Fk t n k m z.q 0 n no no /\ l.length < k /\ ∀ q ∈ l,Xa σ q
 | .cnt l c=>Fk t n k m z.q 0 n no no /\ l.length < k /\ (∀ q ∈ l,Xa σ q) /\ c.ok σ
 | .opn l κ=>Fk t n k m z.q 0 n no no /\ l.length = k /\ κ < 4 /\ ∀ q ∈ l,Xa σ q
 | .shut i c=>Fk t n k m z.q 0 n no no /\ i < k /\ c.ok σ
 | .head i c u=>Fk t n k m z.q 0 n no no /\ Ev t n k m σ z.q.y.ck z.q.sw i c u
 | .OO i c u W μ=>Ev t n k m σ z.q.y.ck z.q.sw i c u /\ Mc t n k m tr z.q.dw i c u W /\ rJ t n k m σ z.q W μ /\ μ.Zy = false
 | .leave i c=>Fk t n k m z.q 0 n no no /\ i < k /\ z.q.y.ck i = c
 | .note i c E=>Fk t n k m z.q 0 n no no /\ i < k /\ z.q.y.ck i = c /\ (∀ x,x < n -> Uh t n k m (z.q.sw x) i = false) /\ 0 <= E
 | .quiet i c=>Fk t n k m z.q 0 n no no /\ i < k /\ z.q.y.ck i = c /\ ∀ x,x < n -> Uh t n k m (z.q.sw x) i = false
 | .Yf d=>Fk t n k m z.q 0 n no no /\ d.Zy = false
 | .Y5 i d=>Fk t n k m z.q 0 n no no /\ i < k /\ nz t n k m z.q i d /\ d.Zy = false
theorem tZ (t : Nat) (z : Zt) (d : Ad) : (SY t z d).1.q = z.q:=by
 cases d with
 | first=>rfl
 | over x=>rfl
 | ask E j =>
  simp only [SY]
  split
  · rfl
  · split <;> rfl
section
variable {t n k m σ : Nat} {z : Zt} {tr sp : Int} {i u : Nat} {c : Ck}
theorem Ev.next {q : Q} (E : Ev t n k m σ q.y.ck q.sw i c u) (F : Fk t n k m q 0 n no no) (hu : u < c.us) (hno : ug n q.sw (base t n k m i + u)) : Ev t n k m σ q.y.ck q.sw i c (u + room c.cl):=by
 obtain ⟨j,hj⟩:=E.um
 obtain ⟨⟨J,hJ⟩,-,-⟩:=F.us i E.ik
 rw [E.ck] at hJ
 refine ⟨E.ik,E.ck,E.ok,E.s2,⟨j + 1,by rw [hj,Nat.succ_mul]⟩,?_,fun x hx hl v hv ha=>?_⟩
 · rw [hJ,hj] at hu
   have:=Nat.mul_le_mul_right (room c.cl) (Nat.lt_of_mul_lt_mul_right hu)
   rw [Nat.succ_mul] at this
   omega
 · have h1:=E.bh x hx hl v hv ha
   obtain ⟨j',hj'⟩:=(F.at hx hl hv ha).mu
   rw [E.ck] at hj'
   have h2 : v ≠ u:=fun e=>hno x hx hl (by rw [ha,e])
   have h3 : j * room c.cl < j' * room c.cl:=by omega
   have:=Nat.mul_le_mul_right (room c.cl) (Nat.lt_of_mul_lt_mul_right h3)
   rw [Nat.succ_mul] at this
   omega
theorem Ho {l : List Sn} (hl : l.length = k) (h : ∀ q ∈ l,Xa σ q) (F : Fk t n k m z.q 0 n no no) : CI t n k m σ tr z (chosen sp l):=by
 have hp:=OE (fun i=>(l[i]?.getD LC).may sp) (fun i=>(l[i]?.getD LC).lv) l.length
 have e : Sj (fun i=>(l[i]?.getD LC).may sp) (fun i=>(l[i]?.getD LC).lv) l.length = choice sp l:=rfl
 rw [e] at hp
 unfold chosen
 rcases hp with ⟨hr,-⟩ | ⟨i,hi,hr,-,-,-⟩
 · rw [hr,if_pos (by decide)]
   exact ⟨F,rfl⟩
 · rw [hr,if_neg (by omega),Int.toNat_natCast]
   refine ⟨F,by omega,?_⟩
   rw [List.getElem?_eq_getElem hi]
   exact (h _ (List.getElem_mem hi)).ck.1
theorem zy {s : Mm} (hA : 6 + t + n * 2 + k * 3 + k * m <= 1048575) (hk0 : 0 < k) (hm : m <= 256) (hσ : σ < 1000000) (L : YQ t n k m s σ z) {cp cp' : Cp} {z' : Zt} (I : CI t n k m σ tr z cp.cm) (ht : Zf t n k m sp tr z cp = (z',cp')) :
 cp.cm.good t n k m σ tr z /\ CI t n k m (σ + 1) tr z' cp'.cm /\ wO t n k m z'.q.y.ck (cp.cm.at t n k m) /\ ∀ i c,cp.cm = .Y5 i (.free c) -> c.sp <= σ:=by
 have hn:=L.tw.pile.big
 have hy:=L.tw.YN.ok
 have low : ∀ a,a < 6 + t + n * 2 + k * 3 -> wO t n k m z'.q.y.ck a:=fun a ha h=>absurd h (by omega)
 have ups : ∀ {l : List Sn},(∀ q ∈ l,Xa σ q) -> ∀ q ∈ l,Xa (σ + 1) q:=fun h q hq=>(h q hq).up (Nat.le_succ _)
 obtain ⟨cm,wk,ah,Uz⟩:=cp
 have nf : ∀ {d : Cm},(∀ i c,d ≠ .Y5 i (.free c)) -> ∀ i c,d = .Y5 i (.free c) -> c.sp <= σ:=fun h i c e=>absurd e (h i c)
 cases cm with
 | see l =>
  obtain ⟨F,hl,hs⟩:=I
  obtain ⟨rfl,rfl⟩:=Prod.mk.inj ht
  exact ⟨⟨hl,hs⟩,⟨F,hl,ups hs,(hy _ hl).up (Nat.le_succ _)⟩,low _ (by simp only [Cm.at,Zr];omega),nf (fun _ _ e=>by cases e)⟩
 | cnt l c =>
  obtain ⟨F,hl,hs,hc⟩:=I
  obtain ⟨rfl,rfl⟩:=Prod.mk.inj ht
  have H8:=F.db _ hl
  have ny : z.q.db l.length = 0:=H8
  have hlv:=L.tw.LJ _ hl
  have hs' : ∀ q ∈ l ++ [c.sn ((z.q.lv l.length : Int) - z.q.db l.length)],Xa (σ + 1) q:=fun q hq=>by
   rcases List.mem_append.1 hq with h | h
   · exact ups hs q h
   · rw [List.mem_singleton.1 h]
     exact (Ck.xZ hc (by omega) (by omega) (by omega)).up (Nat.le_succ _)
  refine ⟨⟨hl,hs,hc,by omega⟩,?_,low _ (by simp only [Cm.at,Zr];omega),nf (fun _ _ e=>by cases e)⟩
  show CI t n k m (σ + 1) tr z (if l.length + 1 < k then _ else _)
  by_cases e : l.length + 1 < k
  · rw [if_pos e];exact ⟨F,by simp only [List.length_append,List.length_singleton];omega,hs'⟩
  · rw [if_neg e];exact ⟨F,by simp only [List.length_append,List.length_singleton];omega,by decide,hs'⟩
 | opn l κ =>
  obtain ⟨F,hl,hκ,hs⟩:=I
  obtain ⟨rfl,rfl⟩:=Prod.mk.inj ht
  refine ⟨⟨hl,hκ,hs⟩,?_,low _ (by simp only [Cm.at];omega),nf (fun _ _ e=>by cases e)⟩
  show CI t n k m (σ + 1) tr z (if κ < 3 then _ else _)
  by_cases e : κ < 3
  · rw [if_pos e];exact ⟨F,by rw [TU];exact hl,by omega,Xa.mark (ups hs)⟩
  · rw [if_neg e];exact Ho (by rw [TU];exact hl) (Xa.mark (ups hs)) F
 | shut i c =>
  obtain ⟨F,hi,hc⟩:=I
  refine ⟨⟨hi,hc⟩,?_,low _ (by simp only [Cm.at,Zr];omega),nf (fun _ _ e=>by cases e)⟩
  simp only [Zf] at ht
  by_cases e : z.q.y.ck i = c
  · rw [if_pos e] at ht
    obtain ⟨rfl,rfl⟩:=Prod.mk.inj ht
    subst e
    exact ⟨F.state hi 2 _ (by decide) (Or.inl (Or.inr rfl)),hi,upd_same _ _ _,⟨by simp,hc.cl,hc.us,Nat.succ_le_succ hc.sp⟩,rfl,⟨0,by rw [Nat.zero_mul]⟩,Nat.zero_le _,fun _ _ _ _ _ _=>Nat.zero_le _⟩
  · rw [if_neg e] at ht
    obtain ⟨rfl,rfl⟩:=Prod.mk.inj ht
    exact ⟨F,rfl⟩
 | head i c u =>
  obtain ⟨F,E⟩:=I
  have hus:=(F.us i E.ik).2.1
  rw [E.ck] at hus
  have lD:=E.ul
  obtain ⟨j,hj⟩:=E.um
  have hr:=Zv c.cl
  have uz : u < c.us -> u + room c.cl <= c.us:=fun hu=>by
   obtain ⟨J,hJ⟩:=(F.us i E.ik).1
   rw [E.ck] at hJ
   rw [hJ,hj] at hu ⊢
   have:=Nat.mul_le_mul_right (room c.cl) (Nat.lt_of_mul_lt_mul_right hu)
   rw [Nat.succ_mul] at this
   exact this
  have hW : u < c.us -> z.q.dw (base t n k m i + u) % 4 = 2 -> (LD (z.q.dw (base t n k m i + u)) (base t n k m i + u) i tr).ok t n k m /\ (LD (z.q.dw (base t n k m i + u)) (base t n k m i + u) i tr).κ = c.cl /\ u + Ws (z.q.dw (base t n k m i + u)) < c.us:=fun hu h2=>by
   have hd:=F.hd i E.ik j
   rw [E.ck,<- hj] at hd
   obtain ⟨f1,f2,f3,f4⟩:=hd hu h2
   obtain ⟨g1,g2⟩:=QZ f1 f2
   have vk:=Yb f1 f3
   have:=uz hu
   exact ⟨⟨f1,f2,g1,g2,f4,by show (_ : Int).toNat <= 65535;omega,E.ik,u,by show u + Ws _ < m;omega,rfl⟩,by show (ZM _).toNat = c.cl;rw [f3];rfl,by omega⟩
  refine ⟨⟨E.ik,E.ok,hus,fun hu h2=>⟨(hW hu h2).1,(hW hu h2).2.2⟩,by omega⟩,?_,?_,nf (fun _ _ e=>by cases e)⟩
  · simp only [Zf] at ht
    by_cases e : c.us <= u
    · rw [if_pos e] at ht
      obtain ⟨rfl,rfl⟩:=Prod.mk.inj ht
      refine ⟨F,E.ik,E.ck,fun x hx=>?_,by have:=L.ni;exact this.1⟩
      cases h : Uh t n k m (z.q.sw x) i with
      | false=>rfl
      | true =>
       obtain ⟨hl,u',S⟩:=F.of hx h
       have h1:=S.us
       rw [E.ck] at h1
       have:=E.bh x hx hl u' (by omega) S.ad
       omega
    · rw [if_neg e] at ht
      obtain ⟨rfl,rfl⟩:=Prod.mk.inj ht
      show CI t n k m (σ + 1) tr z (if z.q.dw (base t n k m i + u) % 4 = 3 then _ else _)
      by_cases h3 : z.q.dw (base t n k m i + u) % 4 = 3
      · rw [if_pos h3]
        refine ⟨F,(E.on).next F (by omega) (fun x hx hl ha=>?_)⟩
        rcases (F.at hx hl (by omega) ha).hd with h | h
        · exact absurd h (Vg _ _ _ _ _ _)
        · have:=h.1;omega
      · rw [if_neg h3]
        by_cases h2 : z.q.dw (base t n k m i + u) % 4 = 2
        · rw [if_pos h2]
          obtain ⟨w1,w2,w3⟩:=hW (by omega) h2
          exact ⟨E.on,⟨w1,rfl,rfl,w2,rfl,⟨h2,rfl,rfl⟩,uz (by omega),hus⟩,⟨rfl,rfl,F⟩,rfl⟩
        · rw [if_neg h2]
          exact ⟨F,E.ik,E.ck⟩
  · simp only [Cm.at]
    by_cases e : c.us <= u
    · rw [if_pos e];exact low _ (by omega)
    · rw [if_neg e]
      have hz : z'.q.y.ck = z.q.y.ck:=by
       simp only [Zf] at ht
       rw [if_neg e] at ht
       obtain ⟨rfl,-⟩:=Prod.mk.inj ht
       rfl
      rw [hz]
      exact E.wM (v:=u) (by omega) hus rfl
 | OO i c u W μ =>
  obtain ⟨E,M,IM,ho⟩:=I
  obtain ⟨q',μ',ve⟩ : ∃ q' μ',Yo W k m (base t n k m) z.q μ = (q',μ'):=⟨_,_,rfl⟩
  obtain ⟨g1,E',M',I',T'⟩:=qI hA hn E M IM ho hy L.tw.YN.yl L.tw.KU L.Jd ve
  simp only [Zf,ve] at ht
  obtain ⟨rfl,rfl⟩:=Prod.mk.inj ht
  have vw:=M.uz
  have hr:=Zv c.cl
  have wP:=M.um
  refine ⟨⟨E.ik,E.ok,wP,by omega,M.ok,M.tr,g1,ho⟩,?_,T',nf (fun _ _ e=>by cases e)⟩
  cases h : μ'.Zy with
  | false =>
   rw [Uy _ _ _ _ _ h]
   exact ⟨E',M',I',h⟩
  | true =>
   cases μ' with
   | over o τ =>
    obtain ⟨F,hG⟩:=I'
    have hG' : o = 1 \/ o = 2 -> Ev t n k m (σ + 1) q'.y.ck q'.sw i c (u + room c.cl):=fun h=>E'.next F (by omega) (by rw [<- M.A];exact hG h)
    simp only [VL]
    by_cases h1 : o = 1
    · rw [if_pos h1];exact ⟨F,hG' (Or.inl h1)⟩
    · rw [if_neg h1]
      by_cases h2 : o = 2
      · rw [if_pos h2];exact ⟨F,hG' (Or.inr h2)⟩
      · rw [if_neg h2];exact ⟨F,E'.ik,E'.ck⟩
   | _=>cases h
 | leave i c =>
  obtain ⟨F,hi,hc⟩:=I
  obtain ⟨rfl,rfl⟩:=Prod.mk.inj ht
  subst hc
  exact ⟨⟨hi,hy i hi⟩,⟨F.state hi 1 _ (by decide) (Or.inl (Or.inl rfl)),rfl⟩,low _ (by simp only [Cm.at,Zr];omega),nf (fun _ _ e=>by cases e)⟩
 | note i c E =>
  obtain ⟨F,hi,hc,hno,hE⟩:=I
  obtain ⟨rfl,rfl⟩:=Prod.mk.inj ht
  exact ⟨⟨hi,hc ▸ hy i hi,hE⟩,⟨F,hi,hc,hno⟩,low _ (by simp only [Cm.at,Zr];omega),nf (fun _ _ e=>by cases e)⟩
 | quiet i c =>
  obtain ⟨F,hi,hc,hno⟩:=I
  obtain ⟨rfl,rfl⟩:=Prod.mk.inj ht
  subst hc
  exact ⟨⟨hi,hy i hi⟩,⟨F.state hi 3 _ (by decide) (Or.inr hno),rfl⟩,low _ (by simp only [Cm.at,Zr];omega),nf (fun _ _ e=>by cases e)⟩
 | Yf d =>
  obtain ⟨F,ho⟩:=I
  obtain ⟨rfl,rfl⟩:=Prod.mk.inj ht
  have F' : Fk t n k m (SY t z d).1.q 0 n no no:=by rw [tZ];exact F
  refine ⟨ho,?_,low _ ?_,nf (fun _ _ e=>by cases e)⟩
  · show CI t n k m (σ + 1) tr (SY t z d).1 (if (SY t z d).2.Zy = true then _ else _)
    by_cases e : (SY t z d).2.Zy = true
    · rw [if_pos e];exact ⟨F',hk0,trivial,rfl⟩
    · rw [if_neg e];exact ⟨F',by simpa using e⟩
  · cases d with
    | first=>simp only [Cm.at];omega
    | over x=>simp only [Cm.at];omega
    | ask E j=>simp only [Cm.at];split <;> omega
 | Y5 i d =>
  obtain ⟨F,hi,S,ho⟩:=I
  have hok:=hy i hi
  have hus:=(F.us i hi).2.1
  have fin : ∀ {z1 : Zt} (x : Bool),Fk t n k m z1.q 0 n no no -> CI t n k m (σ + 1) tr z1 (Za k i ⟨.Y5 i d,wk,ah,Uz⟩ x).cm:=fun x F1=>by
   unfold Za
   by_cases e : i + 1 < k
   · rw [if_pos e];exact ⟨F1,e,trivial,rfl⟩
   · rw [if_neg e];exact ⟨F1,hk0,fun _ h=>(by cases h)⟩
  have nobody : (z.q.y.ck i).st = 3 -> ∀ x,x < n -> Uh t n k m (z.q.sw x) i = false:=fun h3 x hx=>by
   cases h : Uh t n k m (z.q.sw x) i with
   | false=>rfl
   | true =>
    obtain ⟨-,u',S⟩:=F.of hx h
    have:=S.st
    omega
  simp only [Zf] at ht
  have st : ∀ {z1 d1},Wv t n k m i z d = (z1,d1) -> z' = z1 /\ cp' = (if d1.Zy = true then Za k i ⟨.Y5 i d,wk,ah,Uz⟩ d1.freed else ⟨.Y5 i d1,wk,ah,Uz⟩):=fun h=>by
   rw [h] at ht
   exact ⟨(Prod.mk.inj ht).1.symm,(Prod.mk.inj ht).2.symm⟩
  cases d with
  | over x=>cases ho
  | see =>
   refine ⟨⟨hi,trivial,rfl⟩,?_,low _ (by simp only [Cm.at,Zr];omega),nf (fun _ _ e=>by cases e)⟩
   by_cases e : (z.q.y.ck i).st = 3
   · obtain ⟨rfl,rfl⟩:=st (z1:=z) (d1:=.ask (z.q.y.ck i)) (by simp only [Wv];rw [if_pos e])
     exact ⟨F,hi,⟨rfl,e⟩,rfl⟩
   · obtain ⟨rfl,rfl⟩:=st (z1:=z) (d1:=.over false) (by simp only [Wv];rw [if_neg e])
     exact fin _ F
  | ask c =>
   obtain ⟨rfl,h3⟩:=S
   obtain ⟨rfl,rfl⟩:=st rfl
   have hsp:=hok.sp
   exact ⟨⟨hi,⟨hus,by omega⟩,rfl⟩,⟨F,hi,⟨rfl,h3,L.uZ i hi⟩,rfl⟩,low _ (by simp only [Cm.at,Zr];omega),nf (fun _ _ e=>by cases e)⟩
  | look c S0 =>
   obtain ⟨rfl,h3,hS⟩:=S
   have hsp:=hok.sp
   refine ⟨⟨hi,⟨hus,by omega,hS⟩,rfl⟩,?_,low _ (by simp only [Cm.at];omega),nf (fun _ _ e=>by cases e)⟩
   by_cases e : S0 + 2 <= z.ep
   · obtain ⟨rfl,rfl⟩:=st (z1:=z) (d1:=.clear (z.q.y.ck i) 0) (by simp only [Wv];rw [if_pos e])
     exact ⟨F,hi,⟨rfl,h3,fun v hv=>absurd hv (Nat.not_lt_zero _)⟩,rfl⟩
   · obtain ⟨rfl,rfl⟩:=st (z1:=z) (d1:=.over false) (by simp only [Wv];rw [if_neg e])
     exact fin _ F
  | clear c j =>
   obtain ⟨rfl,h3,hz⟩:=S
   have hsp:=hok.sp
   have hno:=nobody h3
   by_cases e : j < (z.q.y.ck i).us
   · obtain ⟨rfl,rfl⟩:=st (by simp only [Wv];rw [if_pos e])
     refine ⟨⟨hi,⟨hus,by omega⟩,rfl⟩,⟨F.lay hi e (Or.inl rfl) (fun _ h=>by omega) (fun x hx hl ha=>?_),hi,⟨rfl,h3,fun v hv hvm=>?_⟩,rfl⟩,?_,nf (fun _ _ e=>by cases e)⟩
     · have:=F.on (F.at hx hl (by omega) ha) hl i
       rw [hno x hx,decide_eq_true rfl] at this
       cases this
     · show upd z.q.dw (base t n k m i + j) 0 (base t n k m i + v) = 0
       by_cases ev : v = j
       · subst ev;rw [upd_same]
       · rw [Z7 _ _ _ _ (by omega)];exact hz v (by omega) hvm
     · simp only [Cm.at]
       rw [if_pos e]
       exact fun _=>⟨i,j,hi,by omega,rfl,by show (z.q.y.ck i).st ≠ 0;omega,e⟩
   · obtain ⟨rfl,rfl⟩:=st (by simp only [Wv];rw [if_neg e])
     refine ⟨⟨hi,⟨hus,by omega⟩,rfl⟩,⟨⟨F.us,F.dn,F.hd,F.sl,F.mv,fun j' hj'=>?_,fun j' hj'=>?_⟩,hi,⟨rfl,h3,fun v hv=>?_⟩,rfl⟩,low _ (by simp only [Cm.at];rw [if_neg e];unfold Zr;omega),nf (fun _ _ e=>by cases e)⟩
     · show upd z.q.lv i 0 j' = cN t n k m z.q.sw j' n * room (z.q.y.ck j').cl + 0
       by_cases e' : j' = i
       · subst e';rw [upd_same,zB hno,Nat.zero_mul]
       · rw [Z7 _ _ _ _ e'];exact F.lv j' hj'
     · show upd z.q.db i 0 j' = 0
       by_cases e' : j' = i
       · subst e';rw [upd_same]
       · rw [Z7 _ _ _ _ e'];exact F.db j' hj'
     · by_cases hv' : v < j
       · exact hz v hv' hv
       · exact F.dn i hi v (by omega) hv
  | free c =>
   obtain ⟨rfl,h3,hz⟩:=S
   have hsp:=hok.sp
   obtain ⟨rfl,rfl⟩:=st rfl
   refine ⟨⟨hi,by show (z.q.y.ck i).sp < 2000000;omega,rfl⟩,fin _ (F.chunk _ _ ⟨⟨0,by rw [Nat.zero_mul]⟩,Nat.zero_le _,fun _=>rfl⟩ (fun v _ hv=>hz v hv) (fun j h _=>absurd h (Nat.not_lt_zero _)) (fun x hx h=>by rw [nobody h3 x hx] at h;cases h)),low _ (by simp only [Cm.at,Zr];omega),fun i' c' e=>?_⟩
   cases e
   exact hsp
theorem Cp.Jc {cp : Cp} (h : cp.Uz <= cp.wk.rd) : cp.Xb.Uz <= cp.Xb.wk.rd:=by
 unfold Cp.Xb
 split
 · exact Nat.succ_le_succ h
 · exact Nat.zero_le _
theorem DT {cp cp' : Cp} {z' : Zt} {N : Nat} (hw : cp.wk.le N) (hi : cp.Uz <= cp.wk.rd) (ht : Zf t n k m sp tr z cp = (z',cp')) : cp'.wk.le (N + 1) /\ cp'.Uz <= cp'.wk.rd /\ (cp'.cm = .see [] -> 0 < cp'.wk.rd):=by
 obtain ⟨cm,wk,ah,Uz⟩:=cp
 obtain ⟨w1,w2,w3,w4,w5⟩:=hw
 simp only at w1 w2 w3 w4 w5 hi
 have keep : ∀ {d : Cm},d ≠ .see [] -> cp' = ⟨d,wk,ah,Uz⟩ -> cp'.wk.le (N + 1) /\ cp'.Uz <= cp'.wk.rd /\ (cp'.cm = .see [] -> 0 < cp'.wk.rd):=fun hd e=>by
  subst e
  exact ⟨⟨by simp only;omega,by simp only;omega,by simp only;omega,by simp only;omega,by simp only;omega⟩,hi,fun h=>absurd h hd⟩
 cases cm with
 | see l=>exact keep (fun h=>by cases h) (Prod.mk.inj ht).2.symm
 | cnt l c=>exact keep (by split <;> simp) (Prod.mk.inj ht).2.symm
 | opn l κ=>exact keep (by unfold chosen;split;exact (fun h=>by cases h);split <;> exact (fun h=>by cases h)) (Prod.mk.inj ht).2.symm
 | shut i c =>
  simp only [Zf] at ht
  split at ht <;> exact keep (fun h=>by cases h) (Prod.mk.inj ht).2.symm
 | head i c u =>
  simp only [Zf] at ht
  split at ht
  · exact keep (fun h=>by cases h) (Prod.mk.inj ht).2.symm
  · refine keep ?_ (Prod.mk.inj ht).2.symm
    split
    · exact (fun h=>by cases h)
    · split <;> exact (fun h=>by cases h)
 | OO i c u W μ =>
  have e:=(Prod.mk.inj ht).2
  obtain ⟨μ',hμ⟩ : ∃ μ',(Yo W k m (base t n k m) z.q μ).2 = μ':=⟨_,rfl⟩
  rw [hμ] at e
  cases h : μ'.Zy with
  | false=>rw [Uy _ _ _ _ _ h] at e;exact keep (fun h=>by cases h) e.symm
  | true =>
   cases μ' with
   | over o τ =>
    simp only [VL] at e
    split at e
    · subst e
      exact ⟨⟨by simp only;omega,by simp only;omega,by simp only;omega,by simp only;omega,by simp only;omega⟩,hi,fun h=>by cases h⟩
    · split at e <;> exact keep (fun h=>by cases h) e.symm
   | _=>cases h
 | leave i c =>
  obtain ⟨-,rfl⟩:=Prod.mk.inj ht
  exact ⟨⟨by simp only;omega,by simp only;omega,by simp only;omega,by simp only;omega,by simp only;omega⟩,hi,fun h=>by cases h⟩
 | note i c E=>exact keep (fun h=>by cases h) (Prod.mk.inj ht).2.symm
 | quiet i c =>
  obtain ⟨-,rfl⟩:=Prod.mk.inj ht
  exact ⟨⟨by simp only;omega,by simp only;omega,by simp only;omega,by simp only;omega,by simp only;omega⟩,hi,fun h=>by cases h⟩
 | Yf d=>exact keep (by split <;> exact (fun h=>by cases h)) (Prod.mk.inj ht).2.symm
 | Y5 i d =>
  have e:=(Prod.mk.inj ht).2
  split at e
  · obtain ⟨x,hx⟩ : ∃ x,(Wv t n k m i z d).2.freed = x:=⟨_,rfl⟩
    rw [hx] at e
    unfold Za at e
    split at e
    · subst e
      cases x
      · exact ⟨⟨by simp;omega,by simp;omega,by simp;omega,by simp;omega,by simp;omega⟩,hi,fun h=>by cases h⟩
      · exact ⟨⟨by simp;omega,by simp;omega,by simp;omega,by simp;omega,by simp;omega⟩,hi,fun h=>by cases h⟩
    · subst e
      cases x
      · exact ⟨⟨by simp [Cp.Xb];omega,by simp [Cp.Xb];omega,by simp [Cp.Xb];omega,by simp [Cp.Xb];omega,by simp [Cp.Xb];omega⟩,Cp.Jc hi,fun _=>by simp [Cp.Xb]⟩
      · exact ⟨⟨by simp [Cp.Xb];omega,by simp [Cp.Xb];omega,by simp [Cp.Xb];omega,by simp [Cp.Xb];omega,by simp [Cp.Xb];omega⟩,Cp.Jc hi,fun _=>by simp [Cp.Xb]⟩
  · exact keep (fun h=>by cases h) e.symm
end
end
end Go.Proofs.YtmnnhjhhhfabiaaGreat
