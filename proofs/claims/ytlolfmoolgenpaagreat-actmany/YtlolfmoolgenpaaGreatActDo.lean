import Derived.Test.YtlolfmoolgenpaaGreatActGo
namespace Go.Proofs.YtlolfmoolgenpaaGreat
open Go.RowKit
set_option maxRecDepth 20000
inductive Starts (n : Nat) (X : Xa) : Dw -> Prop where
 | al (κ : Nat) (h : X.kd = 1) (fz : Fit X.sz) (hz : classOf X.sz = κ) (hκ : κ < 4) : Starts n X (.al X.sz X.own κ (.take .idle))
 | badA (h : X.kd = 1) (hz : classOf X.sz < 0) : Starts n X (.bad 0 5)
 | dp {x G : Nat} (h : X.kd = 2) (hh : HandIs X.nu x G) (hx : x < n) : Starts n X (.dp X.nu X.own x G .see)
 | badD (h : X.kd = 2) (hn : NoHand n X.nu) : Starts n X (.bad 1 3)
 | ac {x G : Nat} (h3 : 3 <= X.kd) (h5 : X.kd <= 5) (hv : Fit X.vl) (hh : HandIs X.nu x G) (hx : x < n) : Starts n X (.ac ⟨X.kd - 2,X.nu,X.ix,X.vl,X.ol⟩ X.own x G .see)
 | badC (h3 : 3 <= X.kd) (h5 : X.kd <= 5) (hn : NoHand n X.nu) : Starts n X (.bad 2 3)
theorem Starts.over {n : Nat} {X : Xa} {δ : Dw} (h : Starts n X δ) : δ.over? = false:=by cases h <;> rfl
theorem Starts.ty {n : Nat} {X : Xa} {δ : Dw} (h : Starts n X δ) : X.ty = tyC δ.c:=by
 cases h with
 | al κ h=>unfold Xa.ty;rw [if_pos h];rfl
 | badA h=>unfold Xa.ty;rw [if_pos h];rfl
 | dp h=>unfold Xa.ty;rw [if_neg (by omega),if_pos h];rfl
 | badD h=>unfold Xa.ty;rw [if_neg (by omega),if_pos h];rfl
 | ac h3=>unfold Xa.ty;rw [if_neg (by omega),if_neg (by omega)];rfl
 | badC h3=>unfold Xa.ty;rw [if_neg (by omega),if_neg (by omega)];rfl
theorem Starts.at {n : Nat} {X : Xa} {δ : Dw} (h : Starts n X δ) (t k m σ : Nat) (q : Q) (W : World) : DwAt t n k m (W.alloc X.ob) W.heap.size σ σ q δ:=by
 cases h with
 | al κ h fz hz hκ =>
  unfold Xa.ob;rw [if_pos h]
  obtain ⟨cs,q0⟩:=alloc0_at X.sz X.own W
  exact ⟨fz,hz,hκ,⟨trivial,rfl⟩,cs,_,q0,al0_is _ _ _⟩
 | badA h hz =>
  unfold Xa.ob;rw [if_pos h]
  obtain ⟨cs,q0⟩:=alloc0_at X.sz X.own W
  exact Or.inl ⟨rfl,rfl,_,_,cs,hz,q0⟩
 | dp h hh hx =>
  unfold Xa.ob;rw [if_neg (by omega),if_pos h]
  obtain ⟨cs,q0⟩:=drop0_at X.nu X.own W
  exact ⟨hh,hx,cs,_,q0,dp0_is _ _ _ _ _ _ _,trivial⟩
 | badD h hn =>
  unfold Xa.ob;rw [if_neg (by omega),if_pos h]
  obtain ⟨cs,q0⟩:=drop0_at X.nu X.own W
  exact Or.inr (Or.inl ⟨rfl,rfl,_,_,cs,hn,q0⟩)
 | ac h3 h5 hv hh hx =>
  unfold Xa.ob;rw [if_neg (by omega),if_neg (by omega)]
  obtain ⟨cs,q0⟩:=acc0_at (X.kd - 2) X.nu X.ix X.vl X.ol X.own W
  exact ⟨hh,hx,⟨by show X.kd - 2 = 1 \/ X.kd - 2 = 2 \/ X.kd - 2 = 3;omega,hv⟩,cs,_,q0,ac0_is ⟨X.kd - 2,X.nu,X.ix,X.vl,X.ol⟩ X.own⟩
 | badC h3 h5 hn =>
  unfold Xa.ob;rw [if_neg (by omega),if_neg (by omega)]
  obtain ⟨cs,q0⟩:=acc0_at (X.kd - 2) X.nu X.ix X.vl X.ol X.own W
  exact Or.inr (Or.inr ⟨rfl,rfl,⟨X.kd - 2,X.nu,X.ix,X.vl,X.ol⟩,X.own,cs,by show X.kd - 2 = 1 \/ X.kd - 2 = 2 \/ X.kd - 2 = 3;omega,hn,q0⟩)
theorem new_th {w : World} {L : Loc} {s : Mm} (hM : MemAt w L s) {X : Xa} (hm : X.may = true) {n : Nat} {δ : Dw} (hs : Starts n X δ) (t k m σ : Nat) (q : Q) (pn : Nat -> Int) :
 Calls Tryz.prog 14 #[X.v] w fun e w'=>∃ B : Bk,e = .returned (.tuple #[.pointer (some ⟨B.A,0,none⟩),.int .i64 0]) /\ Below w.heap.size w w' /\ (∀ x,B.has x -> w.heap.size <= x) /\ ThAt t n k m w' L B σ ⟨σ,q,pn,0,δ⟩:=by
 refine (newAct_any X hm w).mono ?_
 rintro e w' ⟨bA,bS,bI,b,W,c,rfl,bw,h1,h2,h3,h4,hA,hI,rfl,g⟩
 have hge : ∀ x,Bk.has ⟨bA,bS,bI,W.heap.size⟩ x -> w.heap.size <= x:=by
  intro x hx
  have hx : x = bA \/ x = bS \/ x = bI \/ x = W.heap.size:=hx
  omega
 refine ⟨⟨bA,bS,bI,W.heap.size⟩,rfl,bw,hge,⟨?_,fun _=>⟨c,hI⟩,?_,hs.over,by show 0 <= 5;omega,Nat.le_refl _,fun x hx hh=>?_⟩⟩
 · rw [hs.ty] at hA;exact hA
 · exact (hs.at t k m σ q W).of_block (g.block _ (by rw [Go.Deep.nblk_alloc];omega))
 · have:=hge x hx
   have:=hM.lt _ hh
   omega
theorem alTurn_wd {t n k m κ : Nat} {z : Int} {own : Bool} {σ : Nat} {q : Q} {α : Al} (h : ∀ a,Wd (q.dw a)) : ∀ a,Wd ((alTurn t n k m κ z own σ q α).1.dw a):=by
 have up : ∀ (A : Nat) (v : Int),Wd v -> ∀ a,Wd (upd q.dw A v a):=fun A v hv a=>by
  unfold upd;split
  · exact hv
  · exact h a
 have pw : ∀ (kd : Int) (x : Int) (G : Int),Wd (packOw kd z x G own):=fun kd x G=>⟨(packOw_bd _ _ _ _ _).1,Int.le_trans (packOw_bd _ _ _ _ _).2 (by decide)⟩
 cases α with
 | take τ=>simp only [alTurn];unfold alTake;split <;> exact h
 | place x G τ=>simp only [alTurn];unfold alPlace;split <;> exact h
 | head x G a i=>exact up _ _ (pw _ _ _)
 | ready x G a i st=>exact up _ _ (pw _ _ _)
 | give x G γ=>simp only [alTurn];unfold alGive;split <;> exact h
 | _=>exact h
theorem dwTurn_wd {t n k m : Nat} {cg : Int} {σ : Nat} {q : Q} {δ : Dw} (h : ∀ a,Wd (q.dw a)) : ∀ a,Wd ((dwTurn t n k m cg σ q δ).1.dw a):=by
 cases δ with
 | al=>exact alTurn_wd h
 | dp nu own x G α=>exact dpTurn_wd (q':=(dpTurn t n k m cg own x G q α).1) h rfl
 | ac W own x G α=>exact acTurn_wd (q':=(acTurn W own x G σ q α).1) h rfl
 | bad=>exact h
 | fin=>exact h
theorem asTurn_wd {t n k m : Nat} {cg : Int} {who : Nat} {A : As} (h : ∀ a,Wd (A.q.dw a)) : ∀ a,Wd ((asTurn t n k m cg who A).q.dw a):=by
 obtain ⟨σ,q,pn,ph,δ⟩:=A
 match ph with
 | 0=>exact h
 | 1=>exact h
 | 2=>exact h
 | 3=>exact dwTurn_wd h
 | 4=>exact h
 | _ + 5=>exact h
theorem asTurn_σ {t n k m : Nat} {cg : Int} {who : Nat} {A : As} : (asTurn t n k m cg who A).σ <= A.σ + 1:=by
 obtain ⟨σ,q,pn,ph,δ⟩:=A
 match ph with
 | 0=>exact Nat.le_refl _
 | 1=>exact Nat.le_refl _
 | 2=>exact Nat.le_refl _
 | 3 =>
  show σ + δ.cost <= σ + 1
  cases δ <;> (simp only [Dw.cost];omega)
 | 4=>exact Nat.le_refl _
 | _ + 5=>exact Nat.le_succ _
inductive AsRuns (t n k m : Nat) (cg : Int) (who : Nat) : Nat -> As -> As -> Prop where
 | one {A A' : As} (h5 : A.ph ≠ 5) (hn : A.ph = 3 -> A.δ.need t n k m cg A.q) (ht : asTurn t n k m cg who A = A') (h : A'.ph = 5) : AsRuns t n k m cg who 1 A A'
 | more {N : Nat} {A A1 A' : As} (h5 : A.ph ≠ 5) (hn : A.ph = 3 -> A.δ.need t n k m cg A.q) (ht : asTurn t n k m cg who A = A1) (h : A1.ph ≠ 5) (g : AsRuns t n k m cg who N A1 A') : AsRuns t n k m cg who (N + 1) A A'
theorem AsRuns.pos {t n k m : Nat} {cg : Int} {who N : Nat} {A A' : As} (g : AsRuns t n k m cg who N A A') : 1 <= N:=by
 cases g <;> omega
theorem Only.drop {L : Loc} {B : Bk} {w w' : World} (h : Only (LB L B) w w') (hB : ∀ x,B.has x -> w.heap.size <= x) : Only L.has w w' :=
 h.mono fun x hx hh=>hh.elim id (fun e=>absurd (hB x e) (by omega))
section
variable {w : World} {L : Loc} {t n k m σ : Nat} {s : Mm} {q : Q} {pn : Nat -> Int}
set_option maxHeartbeats 1000000 in
theorem act_do {cg cp cr : Int} (h : MemAt w L s) (hV : Vil t n k m s σ q pn) (hG : Good t n k m cg cp cr) (hdw : ∀ a,Wd (q.dw a)) (hσ : σ + 500 < 1000000) (X : Xa) (hm : X.may = true) (δ : Dw) (hs : Starts n X δ) (who : Nat) (hw : who < t) {N : Nat} (hN : N <= 500) {A' : As} (g : AsRuns t n k m cg who N ⟨σ,q,pn,0,δ⟩ A') :
 Calls Tryz.prog 12 #[.agg #[.int .i64 t,.int .i64 n,.int .i64 k,.int .i64 m,.int .i64 cg,.int .i64 cp,.int .i64 cr,.pointer (some ⟨L.p,0,none⟩),.int .i64 who],X.v] w fun e w'=>∃ (E H V St : Int) (s' : Mm),e = .returned (.agg #[.int .i64 E,.int .u64 H,.int .i64 V,.int .i64 St]) /\ A'.δ.told σ A'.σ E H V St /\ MemAt w' L s' /\ Vil t n k m s' A'.σ A'.q A'.pn /\ Only L.has w w':=by
 have hB : Hid (¬ L.has w.heap.size):=fun hh=>by have:=h.lt _ hh;omega
 have hB2 : Hid (¬ L.has (w.heap.size + 1 + 1)):=fun hh=>by have:=h.lt _ hh;omega
 have HV : Hid (Vil t n k m s σ q pn):=hV
 have HM : Hid (MemAt w L s):=h
 have HG : Hid (Good t n k m cg cp cr):=hG
 have HWT : Hid (who < t):=hw
 have HW : Hid (∀ a,Wd (q.dw a)):=hdw
 have GG : Hid (AsRuns t n k m cg who N ⟨σ,q,pn,0,δ⟩ A'):=g
 obtain ⟨E0,hE0⟩ : ∃ E0,E0 = (.cells #[.int .i64 t,.int .i64 n,.int .i64 k,.int .i64 m,.int .i64 cg,.int .i64 cp,.int .i64 cr,.pointer (some ⟨L.p,0,none⟩),.int .i64 who] 27 : Obj):=⟨_,rfl⟩
 have HN:=new_th (w:=((w.alloc E0).alloc X.box).alloc (.cells #[.int .i64 0,.int .u64 0,.int .i64 0,.int .i64 0] 40)) (((h.alloc E0).alloc X.box).alloc _) hm hs t k m σ q pn
 subst hE0
 clear h hV hG g hw hdw
 obtain ⟨kx,sz,nu,ix,vl,ol,own⟩:=X
 simp only [Xa.v,Xa.box] at HN ⊢
 have v0 : BoxV (((w.alloc (.cells #[.int .i64 t,.int .i64 n,.int .i64 k,.int .i64 m,.int .i64 cg,.int .i64 cp,.int .i64 cr,.pointer (some ⟨L.p,0,none⟩),.int .i64 who] 27)).alloc (.cells #[.int .i64 kx,.int .i64 sz,.int .u64 nu,.int .i64 ix,.int .i64 vl,.int .i64 ol,.bool own] 36)).alloc (.cells #[.int .i64 0,.int .u64 0,.int .i64 0,.int .i64 0] 40)) w.heap.size t n k m cg cp cr L.p who:=(BoxV.newB _).grown (grow_alloc (Below.refl _ _) _)
 have d0:=At.new2 (w.alloc (.cells #[.int .i64 t,.int .i64 n,.int .i64 k,.int .i64 m,.int .i64 cg,.int .i64 cp,.int .i64 cr,.pointer (some ⟨L.p,0,none⟩),.int .i64 who] 27)) (.cells #[.int .i64 kx,.int .i64 sz,.int .u64 nu,.int .i64 ix,.int .i64 vl,.int .i64 ol,.bool own] 36) 40 [.int .i64 0,.int .u64 0,.int .i64 0,.int .i64 0]
 rw [Go.Deep.nblk_alloc] at d0
 go_enter Tryz.func12,Tryz.ntmps12
 go_wp2_with (go_at_call 14;refine HN.mono ?_;rintro e w1 ⟨B,rfl,b1,hBk,th⟩)
 have hBw : Hid (∀ x,B.has x -> w.heap.size + 1 + 1 + 1 <= x):=fun x hx=>by have:=hBk x hx;simpa only [Go.Deep.nblk_alloc] using this
 have A1 : Hid (MemAt w1 L s /\ ThAt t n k m w1 L B σ ⟨σ,q,pn,0,δ⟩ /\ BoxV w1 w.heap.size t n k m cg cp cr L.p who /\ At w1 (w.heap.size + 1 + 1) 0 40 #[.int .i64 0,.int .u64 0,.int .i64 0,.int .i64 0] [.int .i64 0,.int .u64 0,.int .i64 0,.int .i64 0] /\ Only (LB L B) w w1) :=
  ⟨(((HM.out.alloc _).alloc _).alloc _).below b1,th,v0.grown b1,d0.grown b1,(((((Only.refl _ _).alloc _).alloc _).alloc _).trans (Only.ofGrown b1))⟩
 clear HM v0 d0 th b1 hBk HN
 go_loopw [7] (fun i wr=>∃ (j N1 : Nat) (s1 : Mm) (A1 : As),i = .int .i64 j /\ j + N1 = N /\ A1.σ <= σ + j /\ AsRuns t n k m cg who N1 A1 A' /\ (∀ a,Wd (A1.q.dw a)) /\ Vil t n k m s1 A1.σ A1.q A1.pn /\ MemAt wr L s1 /\ ThAt t n k m wr L B σ A1 /\ BoxV wr w.heap.size t n k m cg cp cr L.p who /\ At wr (w.heap.size + 1 + 1) 0 40 #[.int .i64 0,.int .u64 0,.int .i64 0,.int .i64 0] [.int .i64 0,.int .u64 0,.int .i64 0,.int .i64 0] /\ Only (LB L B) w wr) (fun i _=>500 - (intOf i).toNat)
 case atStart=>exact ⟨0,N,s,⟨σ,q,pn,0,δ⟩,rfl,by omega,Nat.le_refl _,GG.out,HW.out,HV.out,A1.out⟩
 case round =>
  clear A1 GG HW HV
  obtain ⟨j,N1,s1,A1,rfl,hj,hjs,gg,wd,vl1,mm,th,v,j1,on⟩:=hrel
  have hN1:=gg.pos
  have hj3 : (j : Int) < 500:=by omega
  obtain ⟨y0,y1,y2,y3,y4,y5,y6,y7,y8⟩:=id v
  have wd1:=asTurn_wd (t:=t) (n:=n) (k:=k) (m:=m) (cg:=cg) (who:=who) wd
  have hs1:=asTurn_σ (t:=t) (n:=n) (k:=k) (m:=m) (cg:=cg) (who:=who) (A:=A1)
  have hBE : ¬ LB L B w.heap.size:=fun hh=>hh.elim hB.out (fun e=>by have:=hBw.out _ e;omega)
  have hBD : ¬ LB L B (w.heap.size + 1 + 1):=fun hh=>hh.elim hB2.out (fun e=>by have:=hBw.out _ e;omega)
  have HBE : Hid (¬ LB L B w.heap.size):=hBE
  have HBD : Hid (¬ LB L B (w.heap.size + 1 + 1)):=hBD
  clear hBE hBD
  cases gg with
  | one h5 hn ht h1 =>
   have hst:=act_step mm vl1 HG.out (by omega) wd th h5 hn who HWT.out A' ht
   rw [h1] at hst
   have H1 : Hid (A'.ph = 5):=h1
   clear ht h5 hn h1 wd1 hs1
   go_wp2_with (first
    | (go_at_call 18;refine hst.mono ?_;rintro e w2 ⟨rfl,s2,m2,v2,th2,o2⟩;clear hst;obtain ⟨E,H,V,St,tl,hd⟩:=act_done th2 H1.out)
    | (go_at_call 20;refine (hd _ (Below.refl _ _)).mono ?_;rintro e w3 ⟨rfl,b3⟩;have j3:=(j1.only o2 HBD.out).grown b3;have z0:=j3.at0 0 rfl;have z1:=j3.at0 1 rfl;have z2:=j3.at0 2 rfl;have z3:=j3.at0 3 rfl;have qf:=j3.fz))
   refine bodyPost_ret (v:=.agg #[.int .i64 E,.int .u64 H,.int .i64 V,.int .i64 St]) (by simp [results,Tryz.results12,go_sem,z0,z1,z2,z3]) rfl ?_
   refine ⟨E,H,V,St,s2,rfl,tl,((((m2.below b3).setIn hB2.out _ _).setIn hB2.out _ _).setIn hB2.out _ _).setIn hB2.out _ _,v2,?_⟩
   exact (((((((on.trans o2).trans (Only.ofGrown b3))).drop (fun x hx=>by have:=hBw.out x hx;omega)).setCell (fun hlt=>by simp only at hlt;omega) _).setCell (fun hlt=>by simp only at hlt;omega) _).setCell (fun hlt=>by simp only at hlt;omega) _).setCell (fun hlt=>by simp only at hlt;omega) _
  | more h5 hn ht h1 g1 =>
   have hst:=act_step mm vl1 HG.out (by omega) wd th h5 hn who HWT.out _ ht
   rw [beq_eq_false_iff_ne.2 h1] at hst
   rw [ht] at wd1 hs1
   clear ht h5 hn
   go_wp2_with (go_at_call 18;refine hst.mono ?_;rintro e w2 ⟨rfl,s2,m2,v2,th2,o2⟩)
   go_roundw
   case rel =>
    exact ⟨j + 1,_,s2,_,by go_num,by omega,by omega,g1,wd1,v2,m2,th2,v.only o2 HBE.out,j1.only o2 HBD.out,on.trans o2⟩
   case measure=>simp [intOf];omega
end
end Go.Proofs.YtlolfmoolgenpaaGreat
