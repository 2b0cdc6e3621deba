import Derived.Test.YtkgpffcnimmdkaaGreatMovReader
namespace Go.Proofs.YtkgpffcnimmdkaaGreat
open Go.RowKit
def wtL (ix x : Int) : Wt:=⟨2,65536,ix,x,0⟩
def WI (Z c V : Nat) (q : Q) : Ac -> Prop
 | .see=>True
 | .ask v _=>Seen c V (q.sw 0) v
 | .load v Z'=>Seen c V (q.sw 0) v /\ Z' = Z
 | .check _ _ _=>False
 | .stop v=>Seen c V (q.sw 0) v /\ v % 8 = 2
 | .lay v u=>Seen c V (q.sw 0) v /\ Wd u /\ (frB u = true -> crOf u < verOf' v)
 | .over _ _ _=>True
section
variable {Z c V r : Nat} {val : Nat -> Int} {q : Q} {yE : Y} {μ : Mv}
theorem wi_mv {wr : Bool} {μ' : Mv} {q' : Q} {α : Ac} (h : MI wr Z c V val yE r q μ) (ht : mvTurn (mw Z c) 4 20 (base 4 8 4 20) q μ = (q',μ')) (I : WI Z c V q α) : WI Z c V q' α:=by
 have st:=mi_stays h ht
 cases α with
 | see=>trivial
 | ask v a=>exact Seen.up I (Nat.le_refl _) st
 | load v Z'=>exact ⟨Seen.up I.1 (Nat.le_refl _) st,I.2⟩
 | check v u ld=>exact I
 | stop v=>exact ⟨Seen.up I.1 (Nat.le_refl _) st,I.2⟩
 | lay v u=>exact ⟨Seen.up I.1 (Nat.le_refl _) st,I.2⟩
 | over=>trivial
theorem Com.lay (h : Com Z c val q) {ix a : Nat} (ha : a ≠ base 4 8 4 20 c) {x : Int} (hx : 0 <= x /\ x <= 1099511627775) : Com Z c (upd val ix x) { q with dw:=upd q.dw a x }:=by
 refine ⟨h.z1,h.z2,h.c2,upd_wd h.wd _ ⟨hx.1,by omega⟩,?_,h.nf,fun j hj=>?_⟩
 · show upd q.dw _ _ _ = _
   rw [upd_other _ _ _ _ ha.symm];exact h.hA
 · by_cases e : j = ix
   · subst e;rw [upd_same];exact hx
   · rw [upd_other _ _ _ _ e];exact h.vb j hj
theorem AtA.lay {st : Nat} (h : AtA Z c V st val q) {ix : Nat} {x : Int} (hx : 0 <= x /\ x <= 1099511627775) : AtA Z c V st (upd val ix x) { q with dw:=upd q.dw (base 4 8 4 20 c + 1 + ix) x }:=by
 obtain ⟨-,hv,hf⟩:=val_cell hx
 refine ⟨h.cm.lay (by omega) hx,h.sw,fun j hj=>?_,h.lv⟩
 show vOf (upd q.dw _ _ _) = upd val ix x j /\ (frB (upd q.dw _ _ _) = true -> crOf (upd q.dw _ _ _) <= _ /\ (_ -> crOf (upd q.dw _ _ _) < _))
 by_cases e : j = ix
 · subst e;rw [upd_same,upd_same,hv,hf];exact ⟨rfl,fun e=>by cases e⟩
 · rw [upd_other _ _ _ _ (by omega),upd_other _ _ _ _ e];exact h.cl j hj
theorem AtB.lay {h : Int} {l d : Nat} (B : AtB Z c V h l d val q) {ix : Nat} (hi : ix < Z) {x : Int} (hx : 0 <= x /\ x <= 1099511627775) : AtB Z c V h l d (upd val ix x) { q with dw:=upd q.dw (base 4 8 4 20 (c + 1) + 1 + ix) x }:=by
 have e1:=bs_is c
 have e2:=bs_is (c + 1)
 have z2:=B.cm.z2
 refine ⟨B.cm.lay (by omega) hx,B.sw,?_,fun j hj=>?_,fun j hj=>?_,B.lv⟩
 · show upd q.dw _ _ _ = _
   rw [upd_other _ _ _ _ (by omega)];exact B.hB
 · show frB (upd q.dw _ _ _) = true /\ crOf (upd q.dw _ _ _) = _
   rw [upd_other _ _ _ _ (by omega)];exact B.fr j hj
 · show upd q.dw _ _ _ = upd val ix x j
   by_cases e : j = ix
   · subst e;rw [upd_same,upd_same]
   · rw [upd_other _ _ _ _ (by omega),upd_other _ _ _ _ e];exact B.cl j hj
theorem Rn.lay {f : Nat} {v : Int} {jf jc : Nat} (h : Rn true Z c V f val q v jf jc) (hj : jc <= jf) {ix : Nat} (hi : ix < Z) {x : Int} (hx : 0 <= x /\ x <= 1099511627775) (hn : q.sw 0 % 8 = 2 -> frB (q.dw (base 4 8 4 20 c + 1 + ix)) = true -> crOf (q.dw (base 4 8 4 20 c + 1 + ix)) ≠ V) :
 Rn true Z c V f (upd val ix x) { q with dw:=upd q.dw (base 4 8 4 20 c + 1 + ix) x } v jf jc /\ (q.sw 0 = v -> ∀ j,j < jf -> j ≠ ix):=by
 have e1:=bs_is c
 have e2:=bs_is (c + 1)
 rcases h with ⟨hA,hv,hL,h1,h2⟩ | ⟨hwr,hA,hf2,U,hVU,hUf,hvw⟩
 · have key : ∀ j,j < jf -> j ≠ ix:=fun j hj e=>by
    subst e
    have:=h1 j hj
    exact hn hA.sw.s this.1 this.2
   have z2:=hA.cm.z2
   refine ⟨Or.inl ⟨hA.lay hx,hv,hL,fun j hj=>?_,fun j hj=>?_⟩,fun _=>key⟩
   · show frB (upd q.dw _ _ _) = true /\ crOf (upd q.dw _ _ _) = _
     have:=key j hj
     rw [upd_other _ _ _ _ (by omega)];exact h1 j hj
   · show upd q.dw _ _ _ = upd val ix x j
     have hk:=key j (by omega)
     rw [upd_other _ _ _ _ (by omega),upd_other _ _ _ _ hk];exact h2 j hj
 · exact ⟨Or.inr ⟨hwr,hA.lay hx,hf2,U,hVU,hUf,hvw⟩,fun e=>absurd e (hA.ne hvw.s)⟩
theorem MI.layA (h : MI true Z c V val yE r q μ) {ix : Nat} (hi : ix < Z) {x : Int} (hx : 0 <= x /\ x <= 1099511627775) (ha : adOf (q.sw 0) = base 4 8 4 20 c) (hn : q.sw 0 % 8 = 2 -> frB (q.dw (base 4 8 4 20 c + 1 + ix)) = true -> crOf (q.dw (base 4 8 4 20 c + 1 + ix)) ≠ V) :
 MI true Z c V (upd val ix x) yE r { q with dw:=upd q.dw (base 4 8 4 20 c + 1 + ix) x } μ:=by
 have e1:=bs_is c
 have e2:=bs_is (c + 1)
 have z2:=h.com.z2
 have no : ∀ {h : Int} {l d : Nat},AtB Z c V h l d val q -> False:=fun hB=>by
  have e3:=hB.sw.a
  rw [ha] at e3
  omega
 have cp : ∀ {a i : Nat},Cp Z c yE q a i -> Cp Z c yE { q with dw:=upd q.dw (base 4 8 4 20 c + 1 + ix) x } a i:=fun C=>C.lay (by omega)
 cases μ with
 | see τ f=>exact ⟨h.1.lay hx,h.2.1,h.2.2⟩
 | place v τ f=>exact ⟨h.1.lay hx,h.2.1,h.2.2⟩
 | head v a i f=>exact ⟨h.1.lay hx,h.2.1,h.2.2⟩
 | mark v a i f=>exact ⟨h.1.lay hx,h.2.1,h.2.2.1,cp h.2.2.2⟩
 | load v a i j f=>exact ⟨(h.1.lay (Nat.le_refl _) hi hx hn).1,cp h.2.1,h.2.2⟩
 | freeze v u a i j f=>exact ⟨(h.1.lay (Nat.le_refl _) hi hx hn).1,cp h.2.1,h.2.2⟩
 | copy v u a i j f =>
  obtain ⟨hR,C,hj,wu,hvu⟩:=h
  obtain ⟨k1,k2⟩:=hR.lay (by omega) hi hx hn
  refine ⟨k1,cp C,hj,wu,fun e=>?_⟩
  have e' : q.sw 0 = v:=e
  have:=k2 e' j (by omega)
  rw [upd_other _ _ _ _ this];exact hvu e'
 | shw v a i f=>exact ⟨(h.1.lay (Nat.le_refl _) hi hx hn).1,cp h.2⟩
 | ready=>exact (no h.1).elim
 | grow=>exact (no h.1).elim
 | fall=>exact (no h.1).elim
 | bury o a i=>exact ⟨h.1,h.2.1,h.2.2.1.lay hx,h.2.2.2⟩
 | over o τ =>
  rcases h with h | h
  · exact (no h.2.1).elim
  · exact Or.inr ⟨h.1,h.2.1,h.2.2.lay hx⟩
theorem MI.layB (h : MI true Z c V val yE r q μ) {ix : Nat} (hi : ix < Z) {x : Int} (hx : 0 <= x /\ x <= 1099511627775) (ha : adOf (q.sw 0) = base 4 8 4 20 (c + 1)) :
 MI true Z c V (upd val ix x) yE r { q with dw:=upd q.dw (base 4 8 4 20 (c + 1) + 1 + ix) x } μ:=by
 have no : ∀ {st : Nat},AtA Z c V st val q -> False:=fun hA=>by
  have e3:=hA.sw.a
  rw [ha,bs_is,bs_is] at e3
  omega
 cases μ with
 | see=>exact (no h.1).elim
 | place=>exact (no h.1).elim
 | head=>exact (no h.1).elim
 | mark=>exact (no h.1).elim
 | load=>rcases h.1 with ⟨hA,-⟩ | ⟨-,hA,-⟩ <;> exact (no hA).elim
 | freeze=>rcases h.1 with ⟨hA,-⟩ | ⟨-,hA,-⟩ <;> exact (no hA).elim
 | copy=>rcases h.1 with ⟨hA,-⟩ | ⟨-,hA,-⟩ <;> exact (no hA).elim
 | shw=>rcases h.1 with ⟨hA,-⟩ | ⟨-,hA,-⟩ <;> exact (no hA).elim
 | ready=>exact ⟨h.1.lay hi hx,h.2⟩
 | grow=>exact ⟨h.1.lay hi hx,h.2⟩
 | fall=>exact ⟨h.1.lay hi hx,h.2⟩
 | bury=>exact (no h.2.2.1).elim
 | over o τ =>
  rcases h with h | h
  · exact Or.inl ⟨h.1,h.2.1.lay hi hx,h.2.2⟩
  · exact (no h.2.2).elim
theorem MI.stop (h : MI true Z c V val yE r q μ) (hs : q.sw 0 % 8 = 2) : MI true Z c (V + 1) val yE r { q with sw:=upd q.sw 0 (stopW (q.sw 0)) } μ:=by
 have no : ∀ {V' : Nat},AtA Z c V' 1 val q -> False:=fun hA=>by have:=hA.sw.s;omega
 have noB : ∀ {h : Int} {l d : Nat},AtB Z c V h l d val q -> False:=fun hB=>by have:=hB.sw.s;omega
 have rn : ∀ {f : Nat} {v : Int} {jf jc : Nat},Rn true Z c V f val q v jf jc -> Rn true Z c (V + 1) f val { q with sw:=upd q.sw 0 (stopW (q.sw 0)) } v jf jc:=fun hR=>by
  rcases hR with ⟨hA,hv,hL,-,-⟩ | ⟨-,hA,-⟩
  · have hm:=hL.vm
    have hw:=hA.sw
    have k:=hA.to (hw.stop (by omega)) (fun _=>Or.inl (by omega)) (by omega)
    refine Or.inr ⟨rfl,k,hL.fm,V,rfl,hL.w rfl,hv ▸ hw⟩
  · exact (no hA).elim
 cases μ with
 | see=>exact (no h.1).elim
 | place=>exact (no h.1).elim
 | head=>exact (no h.1).elim
 | mark=>exact (no h.1).elim
 | load v a i j f=>exact ⟨rn h.1,⟨h.2.1.a,h.2.1.i,h.2.1.y,h.2.1.h⟩,h.2.2⟩
 | freeze v u a i j f=>exact ⟨rn h.1,⟨h.2.1.a,h.2.1.i,h.2.1.y,h.2.1.h⟩,h.2.2⟩
 | copy v u a i j f =>
  obtain ⟨hR,C,hj,wu,hvu⟩:=h
  refine ⟨rn hR,⟨C.a,C.i,C.y,C.h⟩,hj,wu,fun e=>?_⟩
  rcases hR with ⟨hA,hv,hL,-,-⟩ | ⟨-,hA,-⟩
  · exact hvu hv
  · exact (no hA).elim
 | shw v a i f=>exact ⟨rn h.1,⟨h.2.a,h.2.i,h.2.y,h.2.h⟩⟩
 | ready=>exact (noB h.1).elim
 | grow=>exact (noB h.1).elim
 | fall=>exact (noB h.1).elim
 | bury=>exact (no h.2.2.1).elim
 | over =>
  rcases h with h | h
  · exact (noB h.2.1).elim
  · exact (no h.2.2).elim
theorem wi_step {ix σ : Nat} {x : Int} {α α' : Ac} {q' : Q} (h : MI true Z c V val yE r q μ) (hix : ix < Z) (hx : 0 <= x /\ x <= 1099511627775) (I : WI Z c V q α) (ho : α.over? = false) (ht : acTurn (wtL ix x) false 0 1 σ q α = (q',α')) :
 α.good 4 8 4 20 (wtL ix x) 0 1 q /\ ((α'.over? = false /\ ∃ V',MI true Z c V' val yE r q' μ /\ WI Z c V' q' α') \/ (∃ st,α' = .over 0 (val ix) st /\ MI true Z c V (upd val ix x) yE r q' μ)):=by
 have ph:=h.ph
 have cm:=ph.cm
 have hr : ∀ u,(wtL ix x).reads u = false:=fun u=>by unfold Wt.reads Wt.other wtL;simp
 have h0 : (0 : Int) <= (wtL ix x).ix:=by show (0 : Int) <= (ix : Int);omega
 have h1 : (wtL ix x).ix < Z:=by show (ix : Int) < (Z : Int);omega
 have hat : ∀ v,(wtL ix x).at v = adOf v + 1 + ix:=fun v=>by unfold Wt.at wtL;simp
 have hw : (wtL ix x).w = x:=packX_val hx.1 hx.2
 cases α with
 | over=>cases ho
 | check=>exact I.elim
 | see =>
  have S:=ph.seen
  obtain ⟨i,O,e1,e2⟩:=ph.obj S
  have hl : lifeB (q.sw 0 % 8) = true:=O.life
  simp only [acTurn,hl,S.g,decide_true,Bool.and_self,if_true] at ht
  obtain ⟨rfl,rfl⟩:=Prod.mk.inj ht
  exact ⟨fun _ _=>⟨i,by rw [e1];exact O⟩,Or.inl ⟨rfl,V,h,S⟩⟩
 | ask v a =>
  have S : Seen c V (q.sw 0) v:=I
  obtain ⟨i,O,e1,e2⟩:=ph.obj S
  simp only [acTurn,acAsk,e1,e2,beq_self_eq_true,if_true,h0,h1,and_self] at ht
  obtain ⟨rfl,rfl⟩:=Prod.mk.inj ht
  exact ⟨⟨i,by rw [e1];exact O⟩,Or.inl ⟨rfl,V,h,S,rfl⟩⟩
 | load v Z' =>
  obtain ⟨S,rfl⟩:=I
  obtain ⟨i,O,e1,e2⟩:=ph.obj S
  have gd : Ac.good 4 8 4 20 (wtL ix x) 0 1 q (.load v Z'):=⟨⟨i,O⟩,h0,h1,by rcases S.s with e | e <;> omega⟩
  simp only [acTurn,acLoad,hr,Bool.false_eq_true,if_false] at ht
  obtain ⟨rfl,hα⟩:=Prod.mk.inj ht
  refine ⟨gd,Or.inl ?_⟩
  have hwu:=cm.wd ((wtL ix x).at v)
  generalize q.dw ((wtL ix x).at v) = u at hα hwu
  by_cases b1 : (frB u && decide (crOf u = (verOf' v : Int)) && decide (v % 8 = 2)) = true
  · rw [if_pos b1] at hα
    subst hα
    simp only [Bool.and_eq_true,decide_eq_true_eq] at b1
    exact ⟨rfl,V,h,S,b1.2⟩
  · rw [if_neg b1] at hα
    by_cases b2 : (frB u && decide ((verOf' v : Int) <= crOf u)) = true
    · rw [if_pos b2] at hα
      subst hα
      exact ⟨rfl,V,h,trivial⟩
    · rw [if_neg b2] at hα
      subst hα
      refine ⟨rfl,V,h,S,?_,fun hf=>?_⟩
      · exact hwu
      · rw [hf,Bool.true_and,decide_eq_true_eq] at b2
        omega
 | stop v =>
  obtain ⟨S,h2⟩:=I
  have gd : Ac.good 4 8 4 20 (wtL ix x) 0 1 q (.stop v):=S.wd
  by_cases e : q.sw 0 = v
  · simp only [acTurn,e,if_true] at ht
    obtain ⟨rfl,rfl⟩:=Prod.mk.inj ht
    have k:=h.stop (by rw [e];exact h2)
    rw [e] at k
    exact ⟨gd,Or.inl ⟨rfl,V + 1,k,trivial⟩⟩
  · simp only [acTurn,e,if_false] at ht
    obtain ⟨rfl,rfl⟩:=Prod.mk.inj ht
    exact ⟨gd,Or.inl ⟨rfl,V,h,trivial⟩⟩
 | lay v u =>
  obtain ⟨S,wu,hf⟩:=I
  obtain ⟨i,O,e1,e2⟩:=ph.obj S
  have gd : Ac.good 4 8 4 20 (wtL ix x) 0 1 q (.lay v u):=⟨⟨Z,i,O,h1⟩,h0,wu⟩
  refine ⟨gd,?_⟩
  by_cases e : q.dw ((wtL ix x).at v) = u
  · simp only [acTurn,e,if_true] at ht
    obtain ⟨rfl,rfl⟩:=Prod.mk.inj ht
    rw [hat] at e
    rw [hat,hw]
    right
    rcases S.a with ⟨ea,ev⟩ | ⟨ea,ec⟩
    · rw [ea] at e ⊢
      rcases ph with ⟨st,hst,hA⟩ | ⟨hh,l,d,hh2,hB⟩
      · refine ⟨σ + 1,?_,h.layA hix hx hA.sw.a (fun _ hfr=>?_)⟩
        · rw [<- (hA.cl ix hix).1,e]
        · rw [e] at hfr ⊢
          have:=hf hfr
          omega
      · have k:=hB.fr ix hix
        rw [e] at k
        have:=hf k.1
        omega
    · rw [ea] at e ⊢
      rcases ph with ⟨st,hst,hA⟩ | ⟨hh,l,d,hh2,hB⟩
      · have e3:=hA.sw.a
        rw [ec,bs_is,bs_is] at e3
        omega
      · refine ⟨σ + 1,?_,h.layB hix hx hB.sw.a⟩
        rw [<- e,hB.cl ix hix,(val_cell (hB.cm.vb ix hix)).2.1]
  · simp only [acTurn,e,if_false] at ht
    obtain ⟨rfl,rfl⟩:=Prod.mk.inj ht
    exact Or.inl ⟨rfl,V,h,trivial⟩
end
end Go.Proofs.YtkgpffcnimmdkaaGreat
