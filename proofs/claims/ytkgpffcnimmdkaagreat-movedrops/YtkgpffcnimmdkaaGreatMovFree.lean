import Derived.Test.YtkgpffcnimmdkaaGreatMovAwake
namespace Go.Proofs.YtkgpffcnimmdkaaGreat
open Go.RowKit
structure ScV (w0 W : World) (L : Loc) (E H M Z : Nat) (s : Mm) (σ : Nat) (q : Q) (Wm : Mw) (μ : Mv) : Prop where
 sc : Sc w0 W L E H Z s σ q
 mv : ∃ cs a,MvAt W M 0 83 cs a /\ MvIs Wm μ a
 pg : μ.pg 4 20 Wm.κ σ
section
variable {w0 W W' : World} {L : Loc} {E H M Z σ : Nat} {s : Mm} {q : Q} {Wm : Mw} {μ : Mv}
theorem ScM.free {wr : Bool} {c V r : Nat} {val : Nat -> Int} {yE : Y} (f : ScM w0 W L E H M Z s σ q wr c V val yE r μ) : ScV w0 W L E H M Z s σ q (mw Z c) μ:=⟨f.sc,f.mv,f.pg⟩
theorem ScV.grown (f : ScV w0 W L E H M Z s σ q Wm μ) (g : Below W.heap.size W W') : ScV w0 W' L E H M Z s σ q Wm μ:=⟨f.sc.grown g,by obtain ⟨cs,a,h,k⟩:=f.mv;exact ⟨cs,a,h.grown g,k⟩,f.pg⟩
theorem ScV.only (f : ScV w0 W L E H M Z s σ q Wm μ) (A : ScMA w0 L E H M) {s' : Mm} {σ' : Nat} {q' : Q} (o : Only L.has W W') (m : MemAt W' L s') (t : Town 4 8 4 20 s' σ' q') (hs : σ <= σ') : ScV w0 W' L E H M Z s' σ' q' Wm μ :=
 ⟨f.sc.only A.sa o m t,by obtain ⟨cs,a,h,k⟩:=f.mv;exact ⟨cs,a,h.only o A.ml,k⟩,f.pg.up hs⟩
theorem ScV.step (f : ScV w0 W L E H M Z s σ q Wm μ) (A : ScMA w0 L E H M) (hσ : σ < 1000000) (hdw : ∀ a,Wd (q.dw a)) (hW : Wm.ok 4 8 4 20) (htr : Wm.tr = 3) (gd : μ.good 4 8 4 20 σ Wm q) (ho : μ.over? = false) {q' : Q} {μ' : Mv} (ht : mvTurn Wm 4 20 (base 4 8 4 20) q μ = (q',μ')) (d : Bool) (hd : μ'.over? = d) :
 Calls Tryz.prog 12 #[.pointer (some ⟨M,0,none⟩),.agg #[.int .i64 4,.int .i64 8,.int .i64 4,.int .i64 20,.int .i64 100,.int .i64 600,.int .i64 3,.pointer (some ⟨L.p,0,none⟩),.int .i64 0]] W fun e w'=>e = .returned (.bool d) /\ ∃ s',ScV w0 w' L E H M Z s' (σ + 1) q' Wm μ' /\ Only (L.and M) W w' /\ ∃ v,s' = (s.by 0).step (μ.at 4 8 Wm) v:=by
 obtain ⟨cs,a,mv,is⟩:=f.mv
 have k:=move_step f.sc.sp.mm A.ml f.sc.sp.tw good11 hσ hdw hW htr μ mv is gd ho 0 q' μ' ht d hd
 refine k.mono ?_
 rintro e w' ⟨rfl,s',cs',a',D⟩
 exact ⟨rfl,s',⟨⟨⟨D.mm,D.tw,f.sc.sp.v.only D.only (fun h=>h.elim A.sa.fa.e (fun e=>A.em e)),below_and f.sc.sp.b D.only A.sa.fa.l0 A.m0⟩,f.sc.hd.imp fun _ h=>h.only D.only (fun h=>h.elim A.sa.hl (fun e=>A.hm e))⟩,⟨cs',a',D.mv,D.is⟩,D.pg⟩,D.only,D.st⟩
theorem ScV.out {o : Int} {τ : Pl} (f : ScV w0 W L E H M Z s σ q Wm (.over o τ)) :
 Calls Tryz.prog 16 #[.pointer (some ⟨M,0,none⟩)] W fun e w'=>e = .returned (.int .i64 o) /\ w' = W:=by
 obtain ⟨cs,a,mv,is⟩:=f.mv
 have k:=mout_over mv is.nx
 rw [show a.ou = o from is.sec] at k
 exact k
theorem ScV.spot (f : ScV w0 W L E H M Z s σ q Wm μ) {A i : Nat} {d : Bool} (ht : μ.pl.told = (A,i,d)) :
 Calls Tryz.prog 13 #[.pointer (some ⟨M,0,none⟩)] W fun e w'=>e = .returned (.tuple #[.agg #[.int .i64 A,.int .i64 i],.bool d]) /\ Below W.heap.size W w':=by
 obtain ⟨cs,a,mv,is⟩:=f.mv
 exact mspot_any mv is.pl ht
end
structure Gn (Z : Nat) (q : Q) : Prop where
 z1 : 1 <= Z
 z2 : Z <= 16
 wd : ∀ a,Wd (q.dw a)
 sw : q.sw 0 % 8 = 0
 g : genOf (q.sw 0) = 2
def LvIs (q : Q) (l0 l1 d1 : Nat) : Prop:=∀ i,i < 4 -> q.lv i = (if i = 0 then l0 else if i = 1 then l1 else 0) /\ q.db i = (if i = 1 then d1 else 0)
def GI (Z : Nat) (yE : Y) (r : Nat) (q : Q) : Mv -> Prop
 | .see τ f=>LvIs q 0 0 0 /\ f <= 1 /\ (τ = .see \/ τ = .won (base 4 8 4 20 1) 1)
 | .place v τ f=>LvIs q 0 0 0 /\ f = 0 /\ Wd v /\ v % 8 = 1 /\ Goes 4 20 (mw Z 0).κ (base 4 8 4 20) r q.y τ yE (.won (base 4 8 4 20 1) 1)
 | .head v a i f=>LvIs q 0 0 0 /\ f = 0 /\ Wd v /\ v % 8 = 1 /\ a = base 4 8 4 20 1 /\ i = 1
 | .mark v a i f=>LvIs q 0 0 0 /\ f = 0 /\ Wd v /\ v % 8 = 1 /\ a = base 4 8 4 20 1 /\ i = 1
 | .load v a i j f=>LvIs q 0 0 0 /\ f = 0 /\ Wd v /\ v % 8 = 2 /\ a = base 4 8 4 20 1 /\ i = 1 /\ j < Z
 | .freeze v u a i j f=>LvIs q 0 0 0 /\ f = 0 /\ Wd v /\ v % 8 = 2 /\ a = base 4 8 4 20 1 /\ i = 1 /\ j < Z /\ Wd u
 | .copy v u a i j f=>LvIs q 0 0 0 /\ f = 0 /\ Wd v /\ v % 8 = 2 /\ a = base 4 8 4 20 1 /\ i = 1 /\ j < Z /\ Wd u
 | .shw v a i f=>LvIs q 0 0 0 /\ f = 0 /\ Wd v /\ v % 8 = 2 /\ a = base 4 8 4 20 1 /\ i = 1
 | .ready a i=>LvIs q (room (mw Z 0).κ) 0 (room (mw Z 0).κ) /\ a = base 4 8 4 20 1 /\ i = 1
 | .grow a i=>LvIs q (room (mw Z 0).κ) 0 (room (mw Z 0).κ) /\ a = base 4 8 4 20 1 /\ i = 1 /\ q.dw (base 4 8 4 20 1) = (mw Z 0).hw 2
 | .fall a i=>LvIs q (room (mw Z 0).κ) 0 0 /\ a = base 4 8 4 20 1 /\ i = 1 /\ q.dw (base 4 8 4 20 1) = (mw Z 0).hw 2
 | .bury o a i=>LvIs q 0 0 0 /\ o = 2 /\ a = base 4 8 4 20 1 /\ i = 1
 | .over o τ=>LvIs q 0 0 0 /\ ((o = 2 /\ (τ = .see \/ (τ = .won (base 4 8 4 20 1) 1 /\ q.dw (base 4 8 4 20 1) = (mw Z 0).hw 3))) \/ (o = 1 /\ τ = .won (base 4 8 4 20 1) 1 /\ q.dw (base 4 8 4 20 1) = (mw Z 0).hw 2))
def gpot (Z r : Nat) (q : Q) : Mv -> Nat
 | .see _ _=>2
 | .place _ _ _=>3 * Z + 8 + r
 | .head _ _ _ _=>3 * Z + 8
 | .mark _ _ _ _=>3 * Z + 7
 | .load _ _ _ j _=>3 * (Z - j) + 6
 | .freeze _ u _ _ j _=>3 * (Z - j) + 5 + (if q.dw (base 4 8 4 20 0 + 1 + j) = u then 0 else 2)
 | .copy _ _ _ _ j _=>3 * (Z - j) + 4
 | .shw _ _ _ _=>6
 | .ready _ _=>3
 | .grow _ _=>2
 | .fall _ _=>1
 | .bury _ _ _=>1
 | .over _ _=>0
theorem cp1 (Z : Nat) : CpOk 4 8 4 20 (mw Z 0).κ (base 4 8 4 20 1) 1:=cp_ok (Z:=Z) (c:=0) (by decide)
theorem Gn.lay {Z : Nat} {q : Q} (h : Gn Z q) {a : Nat} {u : Int} (hu : Wd u) : Gn Z { q with dw:=upd q.dw a u }:=⟨h.z1,h.z2,upd_wd h.wd _ hu,h.sw,h.g⟩
theorem gi_step {Z r : Nat} {yE : Y} {q q' : Q} {μ μ' : Mv} (G : Gn Z q) (h : GI Z yE r q μ) (ho : μ.over? = false) (ht : mvTurn (mw Z 0) 4 20 (base 4 8 4 20) q μ = (q',μ')) (σ : Nat) (hpg : ∀ v τ f,μ = .place v τ f -> τ.good 4 20 (mw Z 0).κ σ) :
 μ.good 4 8 4 20 σ (mw Z 0) q /\ Gn Z q' /\ ∃ r',GI Z yE r' q' μ' /\ gpot Z r' q' μ' + 1 <= gpot Z r q μ:=by
 have e0:=bs_is 0
 have e1:=bs_is 1
 have z2:=G.z2
 have ne1 : ∀ {v : Int},v % 8 ≠ 0 -> q.sw 0 ≠ v:=fun hv e=>hv (e ▸ G.sw)
 cases μ with
 | over=>cases ho
 | see τ f =>
  obtain ⟨hl,hf,hτ⟩:=h
  obtain ⟨rfl,hμ⟩:=Prod.mk.inj (show (q,mvSee (mw Z 0) (q.sw 0) τ f) = (q',μ') from ht)
  have hh : (mw Z 0).here (q.sw 0) = false:=by
   unfold Mw.here
   rw [decide_eq_false (show ¬ genOf (q.sw 0) = (mw Z 0).G by rw [G.g];show ¬ 2 = 1;decide),Bool.false_and]
  have hm : mvSee (mw Z 0) (q.sw 0) τ f = mvEnd 2 τ:=by unfold mvSee;rw [hh,Bool.false_and,Bool.false_and,if_neg (by simp),if_neg (by simp)]
  rw [hm] at hμ
  rcases hτ with rfl | rfl
  · subst hμ
    exact ⟨⟨Or.inl rfl,by omega⟩,G,0,⟨hl,Or.inl ⟨rfl,Or.inl rfl⟩⟩,by simp [gpot,mvEnd]⟩
  · subst hμ
    exact ⟨⟨Or.inr ⟨_,_,rfl,cp1 Z⟩,by omega⟩,G,0,⟨hl,rfl,rfl,rfl⟩,by simp [gpot,mvEnd]⟩
 | place v τ f =>
  obtain ⟨hl,rfl,wv,hs,hgo⟩:=h
  have gd:=hpg _ _ _ rfl
  have ht' : mvPlace q v 0 (turn 4 20 (mw Z 0).κ (base 4 8 4 20) q.y τ) = (q',μ'):=ht
  cases hgo with
  | one hov htu h1 =>
   rw [htu] at ht'
   obtain ⟨rfl,rfl⟩:=Prod.mk.inj (show ({ q with y:=yE },Mv.head v (base 4 8 4 20 1) 1 0) = (q',μ') from ht')
   exact ⟨⟨gd,hov,wv,by omega⟩,⟨G.z1,G.z2,G.wd,G.sw,G.g⟩,0,⟨hl,rfl,wv,hs,rfl,rfl⟩,by simp only [gpot];omega⟩
  | @more N _ _ y1 τ1 _ _ hov htu h1 g1 =>
   rw [htu] at ht'
   have e : mvPlace q v 0 (y1,τ1) = ({ q with y:=y1 },.place v τ1 0):=by
    cases τ1 <;> first | rfl | cases h1
   rw [e] at ht'
   obtain ⟨rfl,rfl⟩:=Prod.mk.inj ht'
   exact ⟨⟨gd,hov,wv,by omega⟩,⟨G.z1,G.z2,G.wd,G.sw,G.g⟩,N,⟨hl,rfl,wv,hs,g1⟩,by simp only [gpot];omega⟩
 | head v a i f =>
  obtain ⟨hl,rfl,wv,hs,rfl,rfl⟩:=h
  obtain ⟨rfl,rfl⟩:=Prod.mk.inj ht
  exact ⟨⟨cp1 Z,wv,by omega⟩,G.lay (Mw.hw_wd _ _),0,⟨hl,rfl,wv,hs,rfl,rfl⟩,by simp only [gpot];omega⟩
 | mark v a i f =>
  obtain ⟨hl,rfl,wv,hs,rfl,rfl⟩:=h
  have ht' : (if q.sw 0 = v then _ else (q,Mv.see (.won (base 4 8 4 20 1) 1) 0)) = (q',μ'):=ht
  rw [if_neg (ne1 (by omega))] at ht'
  obtain ⟨rfl,rfl⟩:=Prod.mk.inj ht'
  exact ⟨⟨cp1 Z,wv,by omega⟩,G,0,⟨hl,by omega,Or.inr rfl⟩,by simp only [gpot];omega⟩
 | load v a i j f =>
  obtain ⟨hl,rfl,wv,hs,rfl,rfl,hj⟩:=h
  have ht' : (q,(if frB (q.dw (base 4 8 4 20 0 + 1 + j)) && decide ((verOf' v : Int) <= crOf (q.dw (base 4 8 4 20 0 + 1 + j))) then Mv.copy v (q.dw (base 4 8 4 20 0 + 1 + j)) (base 4 8 4 20 1) 1 j 0 else Mv.freeze v (q.dw (base 4 8 4 20 0 + 1 + j)) (base 4 8 4 20 1) 1 j 0)) = (q',μ'):=ht
  obtain ⟨rfl,hμ⟩:=Prod.mk.inj ht'
  refine ⟨⟨cp1 Z,wv,hj,by omega⟩,G,0,?_⟩
  by_cases hb : (frB (q.dw (base 4 8 4 20 0 + 1 + j)) && decide ((verOf' v : Int) <= crOf (q.dw (base 4 8 4 20 0 + 1 + j)))) = true
  · rw [if_pos hb] at hμ
    subst hμ
    exact ⟨⟨hl,rfl,wv,hs,rfl,rfl,hj,G.wd _⟩,by simp only [gpot];omega⟩
  · rw [if_neg hb] at hμ
    subst hμ
    exact ⟨⟨hl,rfl,wv,hs,rfl,rfl,hj,G.wd _⟩,by simp only [gpot,if_true];omega⟩
 | freeze v u a i j f =>
  obtain ⟨hl,rfl,wv,hs,rfl,rfl,hj,wu⟩:=h
  have ht' : (if q.dw (base 4 8 4 20 0 + 1 + j) = u then ({ q with dw:=upd q.dw (base 4 8 4 20 0 + 1 + j) (froze u (verOf' v)) },Mv.copy v u (base 4 8 4 20 1) 1 j 0) else (q,Mv.load v (base 4 8 4 20 1) 1 j 0)) = (q',μ'):=ht
  have gd : Mv.good 4 8 4 20 σ (mw Z 0) q (.freeze v u (base 4 8 4 20 1) 1 j 0):=⟨cp1 Z,wv,wu,hj,by omega⟩
  by_cases hw : q.dw (base 4 8 4 20 0 + 1 + j) = u
  · rw [if_pos hw] at ht'
    obtain ⟨rfl,rfl⟩:=Prod.mk.inj ht'
    exact ⟨gd,G.lay (froze_wd _ _),0,⟨hl,rfl,wv,hs,rfl,rfl,hj,wu⟩,by simp only [gpot,hw,if_true];omega⟩
  · rw [if_neg hw] at ht'
    obtain ⟨rfl,rfl⟩:=Prod.mk.inj ht'
    exact ⟨gd,G,0,⟨hl,rfl,wv,hs,rfl,rfl,hj⟩,by simp only [gpot,hw,if_false];omega⟩
 | copy v u a i j f =>
  obtain ⟨hl,rfl,wv,hs,rfl,rfl,hj,wu⟩:=h
  have ht' : ({ q with dw:=upd q.dw (base 4 8 4 20 1 + 1 + j) (packX (vOf u) false 0) },if Z <= j + 1 then Mv.shw v (base 4 8 4 20 1) 1 0 else Mv.load v (base 4 8 4 20 1) 1 (j + 1) 0) = (q',μ'):=ht
  obtain ⟨rfl,hμ⟩:=Prod.mk.inj ht'
  refine ⟨⟨cp1 Z,wv,wu,hj,by omega⟩,G.lay (packX_wd _ _ _),0,?_⟩
  by_cases hz : Z <= j + 1
  · rw [if_pos hz] at hμ
    subst hμ
    exact ⟨⟨hl,rfl,wv,hs,rfl,rfl⟩,by simp only [gpot];omega⟩
  · rw [if_neg hz] at hμ
    subst hμ
    exact ⟨⟨hl,rfl,wv,hs,rfl,rfl,by omega⟩,by simp only [gpot];omega⟩
 | shw v a i f =>
  obtain ⟨hl,rfl,wv,hs,rfl,rfl⟩:=h
  have ht' : (if q.sw 0 = v then _ else (q,if (3 : Int) <= ((0 : Nat) : Int) + 1 then Mv.bury 3 (base 4 8 4 20 1) 1 else Mv.see (.won (base 4 8 4 20 1) 1) (0 + 1))) = (q',μ'):=ht
  rw [if_neg (ne1 (by omega)),if_neg (by decide)] at ht'
  obtain ⟨rfl,rfl⟩:=Prod.mk.inj ht'
  exact ⟨⟨cp1 Z,wv,by omega⟩,G,0,⟨hl,by omega,Or.inr rfl⟩,by simp only [gpot];omega⟩
 | ready a i =>
  obtain ⟨hl,rfl,rfl⟩:=h
  obtain ⟨rfl,rfl⟩:=Prod.mk.inj ht
  have hu : (upd q.dw (base 4 8 4 20 1) ((mw Z 0).hw 2)) (base 4 8 4 20 1) = (mw Z 0).hw 2:=by rw [upd_same]
  exact ⟨cp1 Z,G.lay (Mw.hw_wd _ _),0,⟨hl,rfl,rfl,hu⟩,by simp only [gpot];omega⟩
 | grow a i =>
  obtain ⟨hl,rfl,rfl,hh⟩:=h
  obtain ⟨rfl,rfl⟩:=Prod.mk.inj ht
  have hd1 : q.db 1 = room (mw Z 0).κ:=(hl 1 (by decide)).2
  refine ⟨⟨cp1 Z,Nat.le_of_eq hd1.symm⟩,⟨G.z1,G.z2,G.wd,G.sw,G.g⟩,0,⟨fun i hi=>⟨(hl i hi).1,?_⟩,rfl,rfl,hh⟩,by simp only [gpot];omega⟩
  show upd q.db 1 (q.db 1 - room (mw Z 0).κ) i = _
  by_cases e : i = 1
  · subst e;rw [upd_same,hd1,if_pos rfl];exact Nat.sub_self _
  · rw [upd_other _ _ _ _ e,(hl i hi).2,if_neg e,if_neg e]
 | fall a i =>
  obtain ⟨hl,rfl,rfl,hh⟩:=h
  obtain ⟨rfl,rfl⟩:=Prod.mk.inj ht
  have hl0 : q.lv 0 = room (mw Z 0).κ:=(hl 0 (by decide)).1
  refine ⟨⟨cp1 Z,Nat.le_of_eq hl0.symm⟩,⟨G.z1,G.z2,G.wd,G.sw,G.g⟩,0,⟨fun i hi=>⟨?_,(hl i hi).2⟩,Or.inr ⟨rfl,rfl,hh⟩⟩,by simp only [gpot];omega⟩
  show upd q.lv 0 (q.lv 0 - room (mw Z 0).κ) i = _
  by_cases e : i = 0
  · subst e;rw [upd_same,hl0,if_pos rfl];exact Nat.sub_self _
  · rw [upd_other _ _ _ _ e,(hl i hi).1,if_neg e,if_neg e]
 | bury o a i =>
  obtain ⟨hl,rfl,rfl,rfl⟩:=h
  obtain ⟨rfl,rfl⟩:=Prod.mk.inj ht
  have hu : (upd q.dw (base 4 8 4 20 1) ((mw Z 0).hw 3)) (base 4 8 4 20 1) = (mw Z 0).hw 3:=by rw [upd_same]
  exact ⟨cp1 Z,G.lay (Mw.hw_wd _ _),0,⟨hl,Or.inl ⟨rfl,Or.inr ⟨rfl,hu⟩⟩⟩,by simp only [gpot];omega⟩
end Go.Proofs.YtkgpffcnimmdkaaGreat
