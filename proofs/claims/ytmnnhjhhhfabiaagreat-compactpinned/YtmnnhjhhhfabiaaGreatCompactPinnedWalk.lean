import Derived.Test.YtmnnhjhhhfabiaaGreatCompPin
import Derived.Test.YtmnnhjhhhfabiaaGreatPinStepS
import Derived.Test.YtmnnhjhhhfabiaaGreatLay
namespace Go.Proofs.YtmnnhjhhhfabiaaGreat
open Go.RowKit
section
def sumUs (f : Nat -> Ck) : Nat -> Nat
 | 0=>0
 | k + 1=>sumUs f k + (f k).us
theorem sumUs_upd (f : Nat -> Ck) (i : Nat) (c : Ck) : ∀ k,sumUs (upd f i c) k + (if i < k then (f i).us else 0) = sumUs f k + (if i < k then c.us else 0)
 | 0=>rfl
 | k + 1=>by
  have ih:=sumUs_upd f i c k
  show sumUs (upd f i c) k + (upd f i c k).us + _ = sumUs f k + (f k).us + _
  by_cases e : k = i
  · subst e
    rw [upd_same,if_pos (Nat.lt_succ_self k),if_pos (Nat.lt_succ_self k)]
    rw [if_neg (Nat.lt_irrefl k),if_neg (Nat.lt_irrefl k)] at ih
    omega
  · rw [upd_other _ _ _ _ e]
    by_cases h : i < k
    · rw [if_pos (show i < k + 1 by omega),if_pos (show i < k + 1 by omega)]
      rw [if_pos h,if_pos h] at ih
      omega
    · rw [if_neg (show ¬ i < k + 1 by omega),if_neg (show ¬ i < k + 1 by omega)]
      rw [if_neg h,if_neg h] at ih
      omega
theorem sumUs_one (f : Nat -> Ck) {nx : Nat} (h1 : nx <= 1) : ∀ k,(∀ i,nx <= i -> i < k -> (f i).us = 0) -> sumUs f k <= (f 0).us
 | 0,_=>Nat.zero_le _
 | 1,_=>by show 0 + (f 0).us <= _;omega
 | k + 2,h=>by
  have ih:=sumUs_one f h1 (k + 1) (fun i a b=>h i a (by omega))
  have:=h (k + 1) (by omega) (by omega)
  show sumUs f (k + 1) + (f (k + 1)).us <= _
  omega
structure MadeP (n k κ nx : Nat) (q : Q) (ls : List Ox) (j : Nat) : Prop where
 i : MadeI nx q ls j
 fl : q.F.length + ls.length = n
 su : 3 * ls.length <= sumUs q.y.ck k
 oc : ∀ c,c ≠ κ -> q.y.op c = 0
 ln : ls.length = j \/ nx = k
theorem Mk.madeP {t n k m κ Z : Nat} {q q' : Q} {nx nx' : Nat} {ls ls' : List Ox} {E H : Int} {j : Nat} (M : Mk t n k m κ Z false q nx (fun _=>1) ls q' nx' ls' E H) (al : Alone k q.y nx) (hκ : κ < 4) (I : MadeP n k κ nx q ls j) (hj : j < n) : MadeP n k κ nx' q' ls' (j + 1):=by
 have I2:=(M.madeI I.i).1
 have hfl:=I.fl
 cases M with
 | empty hF =>
  rw [hF] at hfl
  have hl:=I.i.len
  simp only [List.length_nil] at hfl
  omega
 | full x F hF g =>
  refine ⟨I2,?_,I.su,I.oc,Or.inr (g.none_is rfl)⟩
  show (x :: F).length + ls.length = n
  rw [<- hF];exact hfl
 | ok x F y' nx' A i hF hx g =>
  have hr:=room_bd κ
  rw [hF] at hfl
  simp only [List.length_cons] at hfl
  have hsu:=I.su
  have hln:=I.ln
  cases g with
  | fit _ h hu =>
   have ha:=al.opn κ hκ i h
   have hle:=al.le
   refine ⟨I2,by show F.length + (ls.length + 1) = n;omega,?_,I.oc,hln.imp (fun e=>by show ls.length + 1 = _;omega) id⟩
   have:=sumUs_upd q.y.ck i ⟨1,κ,(q.y.ck i).us + room κ,(q.y.ck i).sp⟩ k
   rw [if_pos (show i < k by omega),if_pos (show i < k by omega)] at this
   show 3 * (ls.length + 1) <= sumUs (upd q.y.ck i ⟨1,κ,(q.y.ck i).us + room κ,(q.y.ck i).sp⟩) k
   simp only at this
   omega
  | new hno h =>
   have hf:=(al.fre nx (Nat.le_refl _) h).2
   refine ⟨I2,by show F.length + (ls.length + 1) = n;omega,?_,fun c hc=>?_,?_⟩
   · have:=sumUs_upd q.y.ck nx ⟨1,κ,room κ,(q.y.ck nx).sp + 1⟩ k
     rw [if_pos h,if_pos h] at this
     show 3 * (ls.length + 1) <= sumUs (upd q.y.ck nx ⟨1,κ,room κ,(q.y.ck nx).sp + 1⟩) k
     simp only at this
     omega
   · show upd q.y.op κ (nx + 1) c = 0
     rw [upd_other _ _ _ _ hc];exact I.oc c hc
   · rcases hln with e | e
     · exact Or.inl (by show ls.length + 1 = _;omega)
     · omega
theorem madeP0 (n k κ : Nat) (hn : (Q.new n).F.length = n) : MadeP n k κ 0 (Q.new n) [] 0:=⟨made0 n,hn,Nat.zero_le _,fun _ _=>rfl,Or.inl rfl⟩
theorem MadeP.two {n k κ nx m : Nat} {q : Q} {ls : List Ox} (I : MadeP n k κ nx q ls 30) (al : Alone k q.y nx) (hk : 2 <= k) (hm : m <= 34) (hus : ∀ i,i < k -> (q.y.ck i).us <= m) : 2 <= nx:=by
 rcases I.ln with e | e
 · by_cases h : 2 <= nx
   · exact h
   · have h1:=sumUs_one q.y.ck (nx:=nx) (by omega) k (fun i a b=>(al.fre i a b).2)
     have h2:=hus 0 (by omega)
     have h3:=I.su
     omega
 · omega
theorem gone_allP {t n k m σ nx : Nat} {sp tr : Int} {s : Mm} {q : Q} {gen : Nat -> Nat} {pn : Nat -> Int} (R : Ranch t n k m s σ ⟨q,0,pn,fun _=>0⟩ nx gen []) (U : UsedY nx q.y) (hdb : ∀ i,q.db i = 0) (hn : n <= 65535) :
 DQ t n k m sp tr σ ⟨q,0,pn,fun _=>0⟩ /\ (∀ i,i < k -> (q.y.ck i).st ≠ 3) /\ (∀ i,i < k -> (⟨q,0,pn,fun _=>0⟩ : Zt).may sp i = decide (i < nx /\ q.y.isOpen i = false)):=by
 have al:=R.tm.al
 have hl : ∀ i,i < k -> q.lv i = 0:=fun i hi=>R.tm.lv i hi
 have nq : ∀ i,i < k -> (q.y.ck i).st ≠ 3:=fun i hi=>by
  by_cases h : i < nx
  · rw [al.opd i h];decide
  · rw [(al.fre i (by omega) hi).1];decide
 refine ⟨⟨R.calm (by decide) (fun i _=>hdb i),Int.le_refl 0,by show (0 : Int) <= σ;omega,fun _ _=>Int.le_refl 0,fun i hi h=>absurd h (nq i hi),fun i hi _=>R.hd.dead R.tm hn hi (hl i hi),R.tm.dw,fun i hi h=>?_⟩,nq,fun i hi=>?_⟩
 · have h' : (q.y.ck i).st = 0:=h
   by_cases h2 : i < nx
   · rw [al.opd i h2] at h';cases h'
   · exact (al.fre i (by omega) hi).2
 · apply decide_eq_decide.2
   show (q.y.ck i).st = 1 /\ q.y.isOpen i = false /\ 0 < (q.y.ck i).us /\ _ ↔ _
   constructor
   · rintro ⟨h1,h2,_,_⟩
     refine ⟨?_,h2⟩
     by_cases h : i < nx
     · exact h
     · rw [(al.fre i (by omega) hi).1] at h1;cases h1
   · rintro ⟨h1,h2⟩
     exact ⟨al.opd i h1,h2,U i h1,Or.inl (hl i hi)⟩
theorem two_may {t n k m κ σ nx : Nat} {sp : Int} {s : Mm} {q : Q} {gen : Nat -> Nat} {pn : Nat -> Int} (R : Ranch t n k m s σ ⟨q,0,pn,fun _=>0⟩ nx gen []) (U : UsedY nx q.y) (hdb : ∀ i,q.db i = 0) (hn : n <= 65535) (oc : ∀ c,c ≠ κ -> q.y.op c = 0) (h2 : 2 <= nx) : 1 <= cntB ((⟨q,0,pn,fun _=>0⟩ : Zt).may sp) k:=by
 obtain ⟨-,-,hmay⟩:=gone_allP (sp:=sp) (tr:=3) R U hdb hn
 have hle:=R.tm.al.le
 obtain ⟨i,hi,ho⟩ : ∃ i,i < 2 /\ q.y.op κ ≠ i + 1:=by
  by_cases h : q.y.op κ = 1
  · exact ⟨1,by omega,by omega⟩
  · exact ⟨0,by omega,h⟩
 have hno : q.y.isOpen i = false:=decide_eq_false (fun g=>by
  by_cases e : (q.y.ck i).cl = κ
  · rw [e] at g;exact ho g.2
  · rw [oc _ e] at g;omega)
 have hm:=hmay i (by omega)
 rw [decide_eq_true ⟨by omega,hno⟩] at hm
 rcases Nat.eq_zero_or_pos (cntB ((⟨q,0,pn,fun _=>0⟩ : Zt).may sp) k) with e | e
 · have:=cntB_zero k e i (by omega)
   rw [hm] at this
   cases this
 · exact e
theorem cntSt_q (z : Zt) : ∀ k,cntSt z.q.y 3 k = cntB z.isQ k
 | 0=>rfl
 | k + 1=>by
  show cntSt z.q.y 3 k + (if ((z.q.y.ck k).st : Int) = 3 then 1 else 0) = cntB z.isQ k + (if z.isQ k = true then 1 else 0)
  rw [cntSt_q z k]
  by_cases h : (z.q.y.ck k).st = 3
  · have hq : z.isQ k = true:=decide_eq_true h
    rw [if_pos (by omega),if_pos hq]
  · have hq : z.isQ k = false:=decide_eq_false h
    rw [if_neg (by omega),hq]
    rfl
section
variable {t n k m : Nat} {s : Mm} {σ : Nat} {z : Zt}
theorem Land.pin (h : Land t n k m s σ z) (hσ : σ < 1000000) (who : Int) {j : Nat} (hj : j < t) (v : Int) : Land t n k m ((s.by who).step (6 + j) v) (σ + 1) { z with pn:=upd z.pn j v }:=by
 refine ⟨h.tw.away hσ who _ _ (by omega) (by omega) (by omega) (fun i hi=>by omega) (by omega) (by omega),(Town.step_wd who _ 0 _ (by omega)).trans h.ep,fun i hi=>?_,fun i hi=>(Town.step_wd who _ _ _ (by unfold ckAt;omega)).trans (h.si i hi),h.dww,h.siw⟩
 show _ = upd z.pn j v i
 by_cases e : i = j
 · subst e;rw [Town.step_at,upd_same]
 · rw [Town.step_wd who _ _ _ (by omega),upd_other _ _ _ _ e];exact h.pn i hi
def PinJ (t n k m who σ : Nat) (z : Zt) (s : Mm) (j : Nat) (nx ep : Int) : Prop :=
 nx = (j : Int) /\ ((j = 0 /\ Land t n k m s σ z) \/ (j = 1 /\ ep = z.ep /\ Land t n k m s (σ + 1) z) \/ (j = 2 /\ ep = z.ep /\ Land t n k m s (σ + 2) { z with pn:=upd z.pn who (sum64 z.ep 1) }))
theorem pinJ_turn {who : Nat} {s' : Mm} {j : Nat} {nx ep nx' ep' : Int} {d : Bool} (hw : who < t) (hσ : σ + 3 < 1000000) (h : PinJ t n k m who σ z s j nx ep) (hp : PinStep who s nx ep s' nx' ep' d) :
 (j < 2 /\ d = false /\ PinJ t n k m who σ z s' (j + 1) nx' ep') \/ (j = 2 /\ d = true /\ Land t n k m s' (σ + 3) { z with pn:=upd z.pn who (sum64 z.ep 1) }):=by
 obtain ⟨hx,hc⟩:=h
 cases hp with
 | load =>
  rcases hc with ⟨rfl,hl⟩ | ⟨rfl,-⟩ | ⟨rfl,-⟩
  · exact Or.inl ⟨by omega,rfl,rfl,Or.inr (Or.inl ⟨rfl,hl.ep,hl.same (by omega) who 0⟩)⟩
  · omega
  · omega
 | lay =>
  rcases hc with ⟨rfl,-⟩ | ⟨rfl,he,hl⟩ | ⟨rfl,-⟩
  · omega
  · refine Or.inl ⟨by omega,rfl,rfl,Or.inr (Or.inr ⟨rfl,he,?_⟩)⟩
    rw [he]
    exact hl.pin (by omega) who hw _
  · omega
 | same =>
  rcases hc with ⟨rfl,-⟩ | ⟨rfl,-⟩ | ⟨rfl,-,hl⟩
  · omega
  · omega
  · exact Or.inr ⟨rfl,rfl,hl.same (by omega) who 0⟩
 | other _ hne =>
  rcases hc with ⟨rfl,-⟩ | ⟨rfl,-⟩ | ⟨rfl,he,hl⟩
  · omega
  · omega
  · exact absurd (hl.ep.trans he.symm) hne
end
structure PnS (p : Int) (w0 w : World) (L : Loc) (E X t n k m who σ : Nat) (z : Zt) (rs : List Rowd) (j : Nat) : Prop where
 ex : ∃ s c nx ep,Sc p w0 w L E t n k m who s rs /\ InAt w X 0 60 c nx ep /\ PinJ t n k m who σ z s j nx ep
 nx : ¬ L.has X
 ne : E ≠ X
 x0 : w0.heap.size <= X
 xr : ∀ r ∈ rs,r.b ≠ X
section
variable {p : Int} {w0 w w' : World} {L : Loc} {E X t n k m who σ : Nat} {z : Zt} {rs : List Rowd} {j : Nat}
theorem PnS.le (h : PnS p w0 w L E X t n k m who σ z rs j) : j <= 2:=by
 obtain ⟨s,c,nx,ep,g,i,p⟩:=h.ex
 rcases p.2 with ⟨rfl,-⟩ | ⟨rfl,-⟩ | ⟨rfl,-⟩ <;> omega
theorem PnS.v (h : PnS p w0 w L E X t n k m who σ z rs j) : BoxV w E t n k m 100 p 3 L.p who:=by
 obtain ⟨s,c,nx,ep,g,i,p⟩:=h.ex
 exact g.v
theorem Sc.and {s s' : Mm} {who : Int} (f : Sc p w0 w L E t n k m who s rs) {b : Nat} (o : Only (L.and b) w w') (mm : MemAt w' L s') (h0 : w0.heap.size <= b) (he : E ≠ b) (hr : ∀ r ∈ rs,r.b ≠ b) : Sc p w0 w' L E t n k m who s' rs :=
 ⟨mm,(o.block _ f.ltE (fun hh=>hh.elim f.a.e he)).trans f.e,ogrow f.b o (fun x hx=>hx.elim (f.a.l0 x) (fun e=>e ▸ h0)),fun r h=>(f.rr r h).only o (fun hh=>hh.elim (f.rr r h).nl (hr r h)),f.nd,f.a⟩
theorem PnS.step (h : PnS p w0 w L E X t n k m who σ z rs j) (hw : who < t) (ht : t <= 8) (hσ : σ + 3 < 1000000) (x : Bool) (hx : x = decide (j = 2)) :
 Calls Tryz.prog 24 #[pP X 0,eV t n k m 100 p 3 L.p who] w fun e w'=>e = .returned (.bool x) /\
  (x = false -> PnS p w0 w' L E X t n k m who σ z rs (j + 1)) /\ (x = true -> ∃ s',Sc p w0 w' L E t n k m who s' rs /\ Land t n k m s' (σ + 3) { z with pn:=upd z.pn who (sum64 z.ep 1) }):=by
 have hj:=h.le
 obtain ⟨s,c,nx,ep,g,i,pj⟩:=h.ex
 have hlen : 6 + who < s.n:=by
  rcases pj.2 with ⟨_,l⟩ | ⟨_,_,l⟩ | ⟨_,_,l⟩ <;> (have:=l.len;omega)
 refine (step_pin g.mm h.nx i (by have:=pj.1;omega) t n k m 100 p 3 who hlen (by omega) (by omega)).mono ?_
 rintro e w' ⟨d,s',c',nx',ep',rfl,hp,m2,i2,-,o2⟩
 have g2:=g.and o2 m2 h.x0 h.ne h.xr
 rcases pinJ_turn hw hσ pj hp with ⟨h2,rfl,q⟩ | ⟨h2,rfl,q⟩
 · have : x = false:=by rw [hx];exact decide_eq_false (by omega)
   subst this
   exact ⟨rfl,fun _=>⟨⟨s',c',nx',ep',g2,i2,q⟩,h.nx,h.ne,h.x0,h.xr⟩,fun e=>by cases e⟩
 · have : x = true:=by rw [hx];exact decide_eq_true h2
   subst this
   exact ⟨rfl,(fun e=>by cases e),fun _=>⟨s',g2,q⟩⟩
theorem CpAt.only {cs : Array Value} {f : Nat -> Value} {b o : Nat} {T : TypeId} {K S : Nat -> Prop} {cp : Cp} (h : CpAt w b o T L K cp cs f) (g : Only S w w') (hb : ¬ S b) (hS : ∀ y,S y -> K y \/ L.has y) : CpAt w' b o T L K cp cs f:=by
 have up : ∀ x,(¬ K x /\ x ≠ b /\ ¬ L.has x) -> ¬ S x:=fun x hh hs=>(hS x hs).elim hh.1 hh.2.2
 refine ⟨h.cm.only g hb,?_,h.ct⟩
 have I:=h.is
 cases hcm : cp.cm with
 | see l=>rw [hcm] at I;exact ⟨I.1,I.2.1,I.2.2.1.only g (fun k hk=>up k (I.2.2.2 k hk)),I.2.2.2⟩
 | cnt l c=>rw [hcm] at I;obtain ⟨a,b,B,cap,c,d,e⟩:=I;exact ⟨a,b,B,cap,c,d.only g (up B e),e⟩
 | opn l κ=>rw [hcm] at I;obtain ⟨a,b,B,cap,c,d,e⟩:=I;exact ⟨a,b,B,cap,c,d.only g (up B e),e⟩
 | shut i c=>rw [hcm] at I;exact I
 | head i c u=>rw [hcm] at I;exact I
 | mov i c u W μ=>rw [hcm] at I;obtain ⟨a1,a2,a3,a4,a5,a,a6,a7⟩:=I;exact ⟨a1,a2,a3,a4,a5,a,a6.only g hb,a7⟩
 | leave i c=>rw [hcm] at I;exact I
 | note i c E=>rw [hcm] at I;exact I
 | quiet i c=>rw [hcm] at I;exact I
 | goOn d=>rw [hcm] at I;obtain ⟨a1,a2,a,a3,a4⟩:=I;exact ⟨a1,a2,a,a3.only g hb,a4⟩
 | sett i d=>rw [hcm] at I;obtain ⟨a1,a2,a3,a,a4,a5⟩:=I;exact ⟨a1,a2,a3,a,a4.only g hb,a5⟩
theorem Sc.who_ {s : Mm} {who : Int} (f : Sc p w0 w L E t n k m who s rs) (who' : Int) : Sc p w0 (w.setCell ⟨E,8,none⟩ (iV who')) L E t n k m who' s rs :=
 ⟨f.mm.setIn f.a.e _ _,blk_setCell _ _ _ _ _ _ f.e,below_setIn f.b f.a.e0 _ _,fun r h=>(f.rr r h).only (Only.setCell (a:=⟨E,8,none⟩) (Only.refl (fun k=>k = E) _) (fun _=>rfl) _) (f.rr r h).ne,f.nd,f.a⟩
end
theorem good26 : Good 2 30 6 34 100 600 3:=by constructor <;> decide
theorem pinned_go {s : Mm} {σ nx κ : Nat} {q q0 : Q} {gen : Nat -> Nat} {ls : List Ox} (R : Ranch 2 30 6 34 s σ ⟨q,0,upd (fun _=>(0 : Int)) 1 1,fun _=>0⟩ nx gen []) (U : UsedY nx q.y) (hdb : ∀ i,q.db i = 0) (oc : ∀ c,c ≠ κ -> q.y.op c = 0) (I : MadeP 30 6 κ nx q0 ls 30) (al0 : Alone 6 q0.y nx) (us0 : ∀ i,i < 6 -> (q0.y.ck i).us <= 34) (hσ : σ <= 10000) {C : Nat} (c1 : 2 <= C) (c2 : C <= 9) :
 ∃ (N1 : Nat) (z2 : Zt) (wk2 : Wk) (id2 : Nat),N1 <= 3000 * C /\ CRuns 2 30 6 34 600 3 (0 + C) N1 σ ⟨q,0,upd (fun _=>(0 : Int)) 1 1,fun _=>0⟩ cp0 z2 ⟨.see [],wk2,wk2,id2⟩ /\ (cntSt z2.q.y 3 6 = wk2.ev /\ wk2.fr = 0 /\ wk2.rd <= 9 /\ 0 < wk2.ev) /\
  ∃ (N : Nat) (z' : Zt) (wk' : Wk) (id' : Nat),N <= 3000 * 30 /\ CRuns 2 30 6 34 600 3 (wk2.rd + 30) N (σ + N1 + 1) { z2 with pn:=upd z2.pn 1 0 } ⟨.see [],wk2,wk2,id2⟩ z' ⟨.see [],wk',wk',id'⟩ /\ wk2.ev <= wk'.fr /\ 1 <= id':=by
 have h2:=I.two al0 (by decide) (Nat.le_refl 34) us0
 have hm:=two_may (sp:=600) R U hdb (by decide) oc h2
 obtain ⟨D,nq,-⟩:=gone_allP (sp:=600) (tr:=3) R U hdb (by decide)
 have DD : DP 2 30 6 34 600 3 σ 1 ⟨q,0,upd (fun _=>(0 : Int)) 1 1,fun _=>0⟩:=⟨D,Or.inl rfl,upd_same (fun _=>(0 : Int)) 1 1,fun j _ hj=>upd_other (fun _=>(0 : Int)) 1 j 1 hj,by decide⟩
 have cQ : cntB (⟨q,0,upd (fun _=>(0 : Int)) 1 1,fun _=>0⟩ : Zt).isQ 6 = 0:=cntB_none 6 (fun i hi=>decide_eq_false (nq i hi))
 have cM:=cntB_le ((⟨q,0,upd (fun _=>(0 : Int)) 1 1,fun _=>0⟩ : Zt).may 600) 6
 obtain ⟨N1,z2,wk2,id2,hN,CR,D2,f',l',v',q',M',r',j',v1,g'⟩:=pin_runs (t:=2) (n:=30) (k:=6) (m:=34) (sp:=600) (tr:=3) (by decide) (by decide) (by decide) (by decide) C σ _ ⟨0,0,0,0,0⟩ 0 DD (by show 0 + _ <= _;omega) (by decide) (by decide) (by decide) (by show 0 + C <= _;omega) (by omega) (by omega)
 simp only at f' l' v' q' M' r' g'
 have hev:=g' (by omega) hm
 have k2:=cntB_le z2.isQ 6
 refine ⟨N1,z2,wk2,id2,by omega,CR,⟨by rw [cntSt_q];omega,f',by omega,by omega⟩,?_⟩
 obtain ⟨N,z',wk',id',h1,h3,h4,h5⟩:=unpin_runs (t:=2) (n:=30) (k:=6) (m:=34) (sp:=600) (tr:=3) (by decide) (by decide) (by decide) (by decide) (c:=30) (σ:=σ + N1 + 1) (wk:=wk2) (id:=id2) (D2.d.pins (by omega) (upd z2.pn 1 0)) (fun j hj=>by
  show upd z2.pn 1 0 j = 0
  by_cases e : j = 1
  · subst e;exact upd_same _ _ _
  · rw [upd_other _ _ _ _ e];exact D2.o j hj e) (by decide) ⟨by omega,by omega,by omega,by omega,by omega⟩ (by omega) (by omega) (by omega)
 refine ⟨N,z',wk',id',by omega,h3,?_,h5⟩
 have : cntB ({ z2 with pn:=upd z2.pn 1 0 } : Zt).isQ 6 = cntB z2.isQ 6:=rfl
 omega
end
section
end
section
set_option maxRecDepth 20000
set_option maxRecDepth 20000 in
set_option maxHeartbeats 4000000 in
theorem compactPinned_any (size times : Int) (w : World) :
 Calls Tryz.prog 5 #[iV size,iV times] w fun e w'=>e = .returned (.bool true) /\ Below w.heap.size w w':=by
 have AR:=fun w=>arena04_any good26 w
 obtain ⟨Z,hZ,z1,z2⟩:=lowAt size 15 4 1 (by decide) (by decide)
 have hZw : IntKind.i64.wrap (1 + bits .and .i64 size 15) = (Z : Int):=by
  have : (1 : Int) + bits .and .i64 size 15 = (Z : Int):=hZ
  rw [this,IntKind.wrap_i64];omega
 have z16 : Z <= 16:=by omega
 obtain ⟨κ,kz,hκ⟩:=class_of z1 z16
 have KZ : Hid (classOf (Z : Int) = (κ : Int)):=kz
 clear hZ kz z2
 go_enter Tryz.func5,Tryz.ntmps5
 go_wp2_with (first
  | (go_at_call 9;refine (AR _).mono ?_;rintro e w1 ⟨L,rfl,m1,b1,l1⟩;have v1:=Go.Deep.blk_alloc_new w1 (.cells #[.int .i64 2,.int .i64 30,.int .i64 6,.int .i64 34,.int .i64 100,.int .i64 600,.int .i64 3,.pointer (some ⟨L.p,0,none⟩),.int .i64 0] 28))
  | (go_at_call 10;go_must (refine (awake14_any _).mono ?_;rintro e w2 ⟨rfl,b2⟩)))
 obtain ⟨E,hE⟩ : ∃ E,w1.heap.size = E:=⟨_,rfl⟩
 rw [hE] at v1
 have hle:=b1.size
 have hnb:=Go.Deep.nblk_alloc w1 (.cells #[.int .i64 2,.int .i64 30,.int .i64 6,.int .i64 34,.int .i64 100,.int .i64 600,.int .i64 3,.pointer (some ⟨L.p,0,none⟩),.int .i64 0] 28)
 have hb2:=b2.size
 have S0 : Hid (Sc 600 w (w2.alloc (.cells #[] 34)) L E 2 30 6 34 0 (Mm.laid 2 30 (arenaLen 2 30 6 34) 30) [⟨34,w2.heap.size,0,hsO []⟩]):=by
  refine ⟨((m1.alloc _).below b2).alloc _,((gro1 _ _).block _ (by omega)).trans ((b2.block _ (by omega)).trans v1),grow_alloc (grow (grow_alloc b1 _) b2) _,fun r hr=>?_,List.pairwise_singleton _ _,l1,fun hh=>by have:=m1.lt _ hh;omega,by omega⟩
  rw [List.mem_singleton] at hr
  subst hr
  exact ⟨Rw.fresh14 _ _,fun hh=>by have:=m1.lt _ hh;simp only at this;omega,by simp only;omega,by simp only;omega⟩
 clear v1 m1 b1 l1 b2
 simp only [hE]
 clear hE hle hnb hb2
 go_loopw [8,9] (fun v iv wr=>∃ (j bl cap2 : Nat) (s : Mm) (σ : Nat) (q : Q) (nx : Nat) (ls : List Ox),iv = iV j /\ v = .slice (some ⟨bl,0,none⟩) ls.length cap2 /\ j <= 30 /\ σ <= 61 + 100 * j /\ Sc 600 w wr L E 2 30 6 34 0 s [⟨34,bl,cap2,hsO ls⟩] /\ Ranch 2 30 6 34 s σ ⟨q,0,fun _=>0,fun _=>0⟩ nx (fun _=>1) ls /\ MadeP 30 6 κ nx q ls j) (fun _ iv _=>30 - (intOf iv).toNat)
 case atStart=>exact ⟨0,_,0,_,_,_,_,[],rfl,rfl,by decide,by decide,S0.out,ranch0 good26 (by decide),madeP0 30 6 κ (by decide)⟩
 case round =>
 clear S0
 obtain ⟨j,bl,cap2,s,σ,q,nx,ls,rfl,rfl,hj,hσ,S,RR,I⟩:=hrel
 have HI : Hid (MadeP 30 6 κ nx q ls j):=I
 have HRR : Hid (Ranch 2 30 6 34 s σ ⟨q,0,fun _=>0,fun _=>0⟩ nx (fun _=>1) ls):=RR
 clear I RR
 by_cases hj3 : j < 30
 · have h2 : decide ((j : Int) < 30) = true:=decide_eq_true (by omega)
   have hw1 : wrap64 ((j : Int) + 1) = (j : Int) + 1:=by unfold wrap64;omega
   have hσ4 : σ + 400 < 1000000:=by omega
   obtain ⟨E0,H0,q',nx',ls',Mk1,MK⟩:=HRR.out.fate (own:=false) (L:=L) good26 z1 z16 KZ.out hκ hσ4 0
   obtain ⟨I2,hfate⟩:=Mk1.madeI HI.out.i
   have HI2 : Hid (MadeP 30 6 κ nx' q' ls' (j + 1)):=Mk1.madeP HRR.out.tm.al hκ HI.out hj3
   clear I2 Mk1
   obtain ⟨y0,y1,y2,y3,y4,y5,y6,y7,y8⟩:=S.v
   rcases hfate with hok | hno
   · skip
     obtain ⟨rfl,o,hls',hH0⟩:=hok
     have HO : Hid (ls' = o :: ls /\ H0 = packH o.x o.g):=⟨hls',hH0⟩
     clear hls' hH0
     go_wp2_with (first
      | (go_at_call 11;go_must (refine (MK _ S.mm).mono ?_;rintro e w8 ⟨st,s6,σ6,rfl,m6,R8,hσ6,o6⟩;have S10:=((S.mem o6 m6).grown (gro1 _ (.cells #[iV 0,.int .u64 H0,iV 0,iV st] 36))).grown (gro1 _ (.cells #[.int .u64 H0] 34));have hg1 : ((w8.alloc (.cells #[iV 0,.int .u64 H0,iV 0,iV st] 36)).alloc (.cells #[.int .u64 H0] 34)).cell? ⟨(w8.alloc (.cells #[iV 0,.int .u64 H0,iV 0,iV st] 36)).heap.size,0,none⟩ = some (.int .u64 H0):=(by simp);obtain ⟨b',cap',w',hrun,r',o',hwh⟩:=Rw.app (S:=32) (by kernel_rfl) Tryz.infoR34 rfl (by decide) (S10.row List.mem_cons_self).rw (w8.alloc (.cells #[iV 0,.int .u64 H0,iV 0,iV st] 36)).heap.size (.int .u64 H0) rfl hg1 (by show (hsO ls).length <= _;rw [hsO_len];have:=HI.out.i.len;omega) 32;have S11:=S10.first (r':=⟨34,b',cap',hsO ls ++ [.int .u64 H0]⟩) o' r' (hwh.elim (fun h=>Or.inl h.1) (fun h=>Or.inr h.1));have HS11 : Hid (Sc 600 w w' L E 2 30 6 34 0 s6 [⟨34,b',cap',hsO ls ++ [.int .u64 H0]⟩]):=S11;clear S11;have hrun:=hrun;simp only [hsO_len,Go.Deep.nblk_alloc] at hrun;have HR8 : Hid (Ranch 2 30 6 34 s6 σ6 ⟨q',0,fun _=>0,fun _=>0⟩ nx' (fun _=>1) ls'):=R8;clear S S10 hg1 r' o' hwh R8 m6 o6 MK))
      | (at_builtin;go_must (refine wpList_ran rfl (.tmp 40) (.tmp 43) rfl rfl rfl hrun ?_)))
     go_roundw
     case rel =>
      refine ⟨j + 1,b',cap',s6,σ6,q',nx',o :: ls,by go_num,by simp only [List.length_cons],by omega,by omega,?_,?_,?_⟩
      · rw [hsO_cons,<- HO.out.2];exact HS11.out
      · rw [<- HO.out.1];exact HR8.out
      · rw [<- HO.out.1];exact HI2.out
     case measure=>simp [intOf];omega
   · skip
     obtain ⟨hE,hls',hnx'⟩:=hno
     have HN : Hid (ls' = ls /\ nx' = nx):=⟨hls',hnx'⟩
     clear hls' hnx'
     rcases hE with rfl | rfl
     · skip
       go_wp2_with (go_at_call 11;go_must (refine (MK _ S.mm).mono ?_;rintro e w8 ⟨st,s6,σ6,rfl,m6,R8,hσ6,o6⟩;have HS9 : Hid (Sc 600 w (w8.alloc (.cells #[iV 6,.int .u64 H0,iV 0,iV st] 36)) L E 2 30 6 34 0 s6 [⟨34,bl,cap2,hsO ls⟩]):=(S.mem o6 m6).grown (gro1 _ (.cells #[iV 6,.int .u64 H0,iV 0,iV st] 36));have HR8 : Hid (Ranch 2 30 6 34 s6 σ6 ⟨q',0,fun _=>0,fun _=>0⟩ nx' (fun _=>1) ls'):=R8;clear S R8 m6 o6 MK))
       go_roundw
       case rel=>exact ⟨j + 1,bl,cap2,s6,σ6,q',nx,ls,by go_num,rfl,by omega,by omega,HS9.out,HN.out.2 ▸ HN.out.1 ▸ HR8.out,HN.out.2 ▸ HN.out.1 ▸ HI2.out⟩
       case measure=>simp [intOf];omega
     · skip
       go_wp2_with (go_at_call 11;go_must (refine (MK _ S.mm).mono ?_;rintro e w8 ⟨st,s6,σ6,rfl,m6,R8,hσ6,o6⟩;have HS9 : Hid (Sc 600 w (w8.alloc (.cells #[iV 7,.int .u64 H0,iV 0,iV st] 36)) L E 2 30 6 34 0 s6 [⟨34,bl,cap2,hsO ls⟩]):=(S.mem o6 m6).grown (gro1 _ (.cells #[iV 7,.int .u64 H0,iV 0,iV st] 36));have HR8 : Hid (Ranch 2 30 6 34 s6 σ6 ⟨q',0,fun _=>0,fun _=>0⟩ nx' (fun _=>1) ls'):=R8;clear S R8 m6 o6 MK))
       go_roundw
       case rel=>exact ⟨j + 1,bl,cap2,s6,σ6,q',nx,ls,by go_num,rfl,by omega,by omega,HS9.out,HN.out.2 ▸ HN.out.1 ▸ HR8.out,HN.out.2 ▸ HN.out.1 ▸ HI2.out⟩
       case measure=>simp [intOf];omega
 · have h2 : decide ((j : Int) < 30) = false:=decide_eq_false (by omega)
   have S1:=(S.who_ 1).grown (gro1 _ (.cells #[iV 0,.int .u64 0] 60))
   have fz8:=S.fz 8
   have y8:=S.v.c8
   have a1:=Go.Deep.blk_alloc_new (wr.setCell ⟨E,8,none⟩ (iV 1)) (.cells #[iV 0,.int .u64 0] 60)
   have hsz : (wr.setCell ⟨E,8,none⟩ (iV 1)).heap.size = wr.heap.size:=by simp
   rw [hsz] at a1
   obtain ⟨n1,n2,n3,n4⟩:=S.new (Nat.le_refl _)
   have HI3 : Hid (MadeP 30 6 κ nx q ls 30):=by
    have : j = 30:=by omega
    subst this;exact HI.out
   have HAU : Hid (Alone 6 q.y nx /\ ∀ i,i < 6 -> (q.y.ck i).us <= 34):=⟨HRR.out.tm.al,HRR.out.tm.us⟩
   have PS : Hid (PnS 600 w ((wr.setCell ⟨E,8,none⟩ (iV 1)).alloc (.cells #[iV 0,.int .u64 0] 60)) L E wr.heap.size 2 30 6 34 1 σ ⟨q,0,fun _=>0,fun _=>0⟩ [⟨34,bl,cap2,hsO ls⟩] 0):=⟨⟨s,_,0,0,S1,⟨a1,rfl,rfl⟩,rfl,Or.inl ⟨rfl,HRR.out.ld⟩⟩,n3,n2.symm,n1,n4⟩
   obtain ⟨X,hX⟩ : ∃ X,wr.heap.size = X:=⟨_,rfl⟩
   rw [hX] at PS
   have hσp : σ + 3 < 1000000:=by omega
   clear S S1 a1 n1 n2 n3 n4 HI
   go_wp2
   try simp only [hsz,hX]
   clear hX hsz fz8 y8
   go_loopw [12] (fun i wr=>∃ j : Nat,i = iV j /\ PnS 600 w wr L E X 2 30 6 34 1 σ ⟨q,0,fun _=>0,fun _=>0⟩ [⟨34,bl,cap2,hsO ls⟩] j) (fun i _=>9 - (intOf i).toNat)
   case atStart=>exact ⟨0,rfl,PS.out⟩
   case round =>
   clear PS
   obtain ⟨jp,rfl,PP⟩:=hrel
   have hj2:=PP.le
   have hj9 : (jp : Int) < 9:=by omega
   obtain ⟨y0,y1,y2,y3,y4,y5,y6,y7,y8⟩:=PP.v
   by_cases hjp : jp = 2
   · have st:=PP.step (by decide) (by decide) hσp true (by simp [hjp])
     clear PP
     go_wp2_with (go_at_call 24;go_must (refine st.mono ?_;rintro e w4 ⟨rfl,-,hq⟩;obtain ⟨s4,S4,L4⟩:=hq rfl))
     clear st y0 y1 y2 y3 y4 y5 y6 y7 y8 hq
     have hep : sum64 (0 : Int) 1 = 1:=by decide
     have U0 : Hid (Sc 600 w w4 L E 2 30 6 34 1 s4 [⟨34,bl,cap2,hsO ls⟩]):=S4
     have R4 : Hid (Ranch 2 30 6 34 s4 (σ + 3) ⟨q,0,(upd (fun _=>(0 : Int)) 1 1),fun _=>0⟩ nx (fun _=>1) ls):=by
      refine ⟨?_,HRR.out.tm,HRR.out.hd⟩
      have:=L4
      simp only [hep] at this
      exact this
     clear S4 L4 HRR hep
     go_loopw [13] (fun iv wr=>∃ (d : Nat) (s : Mm) (σ : Nat) (q : Q) (gen : Nat -> Nat),iv = iV d /\ d <= ls.length /\ σ <= 3064 + 40 * d /\ Sc 600 w wr L E 2 30 6 34 1 s [⟨34,bl,cap2,hsO ls⟩] /\ Ranch 2 30 6 34 s σ ⟨q,0,(upd (fun _=>(0 : Int)) 1 1),fun _=>0⟩ nx gen (leftO ls d) /\ UsedY nx q.y /\ (∀ i,q.db i = 0) /\ (∀ c,c ≠ κ -> q.y.op c = 0)) (fun iv _=>ls.length - (intOf iv).toNat)
     case atStart=>exact ⟨0,s4,σ + 3,q,_,rfl,Nat.zero_le _,by omega,U0.out,(leftO_0 ls).symm ▸ R4.out,HI3.out.i.us,HI3.out.i.db,HI3.out.oc⟩
     case round =>
     clear U0 R4
     obtain ⟨d,s1,σ1,q1,gen,rfl,hd,hσ1,S,RR,hU,hdb,hoc⟩:=hrel
     have hl30:=HI3.out.i.len
     have HUD : Hid (UsedY nx q1.y /\ (∀ i,q1.db i = 0) /\ ∀ c,c ≠ κ -> q1.y.op c = 0):=⟨hU,hdb,hoc⟩
     clear hU hdb hoc
     by_cases hd6 : d < ls.length
     · have hdd : decide ((d : Int) < (ls.length : Int)) = true:=decide_eq_true (by omega)
       have hσ4 : σ1 + 200 < 1000000:=by omega
       have hw1 : wrap64 ((d : Int) + 1) = (d : Int) + 1:=by unfold wrap64;omega
       obtain ⟨H,hH,q2,gen2,hy2,hdb2,DK⟩:=RR.drops (L:=L) good26 hd6 HI3.out.i.g1 hσ4 1
       have HHC : Hid ((hsO ls)[d]? = some (.int .u64 H)):=hH
       have HDK : Hid (∀ w : World,MemAt w L s1 -> Calls Tryz.prog 16 #[eV 2 30 6 34 100 600 3 L.p 1,.int .u64 H,.bool false] w fun e w'=>∃ (st : Int) (s' : Mm) (σ' : Nat),e = .returned (.agg #[iV 0,.int .u64 0,iV 0,iV st]) /\ MemAt w' L s' /\ Ranch 2 30 6 34 s' σ' ⟨q2,0,(upd (fun _=>(0 : Int)) 1 1),fun _=>0⟩ nx gen2 (leftO ls (d + 1)) /\ σ' <= σ1 + 40 /\ Only L.has w w'):=DK
       have HY2 : Hid (q2.y = q1.y /\ q2.db = q1.db):=⟨hy2,hdb2⟩
       clear hH DK hy2 hdb2 RR
       go_wp2
       refine wp_over (fun W=>Sc 600 w W L E 2 30 6 34 1 s1 [⟨34,bl,cap2,hsO ls⟩]) S ?_
       clear S
       rintro W S1
       apply rgT 5;· kernel_rfl
       apply rV;· intro w' hg _;apply ol;have SS:=S1.drew.grown hg;obtain ⟨y0,y1,y2,y3,y4,y5,y6,y7,y8⟩:=SS.v;go_simp;exact gl
       apply rV;· intro w' hg _;apply ol;have SS:=S1.drew.grown hg;go_simp;exact gl
       apply rV;· intro w' hg _;apply ol;have SS:=S1.drew.grown hg;go_simp;exact gl
       apply rV
       · intro w' hg _
         apply ol
         have SS:=S1.drew.grown hg
         have hb1 : (0 : Int) <= (d : Int) /\ (d : Int) < (ls.length : Int):=by omega
         go_simp
         exact gl
       apply rV1;· intro w' hg _;apply ol;have SS:=S1.drew.grown hg;have z:=(SS.row List.mem_cons_self).rw.cell HHC.out;go_simp;exact gl
       try simp only [pu,s0,s1]
       intro w5 hg _
       have S5:=S1.drew.grown hg
       clear hg S1
       go_wp2_with (go_at_call 16;go_must (refine (HDK.out _ S5.mm).mono ?_;rintro e w6 ⟨st,s',σ',rfl,m2,r2,h2,o2⟩))
       go_roundw
       case rel=>exact ⟨d + 1,s',σ',q2,gen2,by go_num,by omega,by omega,S5.mem o2 m2,r2,by rw [HY2.out.1];exact HUD.out.1,fun i=>by rw [HY2.out.2];exact HUD.out.2.1 i,by rw [HY2.out.1];exact HUD.out.2.2⟩
       case measure=>simp [intOf];omega
     · have hdd : decide ((d : Int) < (ls.length : Int)) = false:=decide_eq_false (by omega)
       have hde : d = ls.length:=by omega
       rw [hde,leftO_all] at RR
       obtain ⟨C,hC,C1,C8⟩:=lowAt times 7 3 2 (by decide) (by decide)
       have hCw : IntKind.i64.wrap (2 + bits .and .i64 times 7) = (C : Int):=by
        have : (2 : Int) + bits .and .i64 times 7 = (C : Int):=hC
        rw [this,IntKind.wrap_i64];omega
       obtain ⟨N1,z2,wk2,id2,G1,G2,G3,G4⟩:=pinned_go RR HUD.out.1 HUD.out.2.1 HUD.out.2.2 HI3.out HAU.out.1 HAU.out.2 (by omega) (C:=C) (by omega) (by omega)
       have HG1 : Hid (N1 <= 3000 * C /\ σ1 + N1 + 2 < 900000 /\ C <= 100):=⟨G1,by omega,by omega⟩
       obtain ⟨Qn,hQn,hQ0⟩ : ∃ Qn : Nat,wk2.ev = Qn /\ 0 < Qn:=⟨_,rfl,G3.2.2.2⟩
       have HCR : Hid (CRuns 2 30 6 34 600 3 (0 + C) N1 σ1 ⟨q1,0,(upd (fun _=>(0 : Int)) 1 1),fun _=>0⟩ cp0 z2 ⟨.see [],wk2,wk2,id2⟩):=G2
       have HQ : Hid (cntSt z2.q.y 3 6 = Qn /\ wk2.fr = 0 /\ wk2.ev = Qn /\ wk2.rd <= 1000):=⟨by rw [G3.1];exact hQn,G3.2.1,hQn,by have:=G3.2.2.1;omega⟩
       have HG4 : Hid (∃ (N : Nat) (z' : Zt) (wk' : Wk) (id' : Nat),N <= 3000 * 30 /\ CRuns 2 30 6 34 600 3 (wk2.rd + 30) N (σ1 + N1 + 1) { z2 with pn:=upd z2.pn 1 0 } ⟨.see [],wk2,wk2,id2⟩ z' ⟨.see [],wk',wk',id'⟩ /\ Qn <= wk'.fr /\ 1 <= id'):=by
        obtain ⟨N,z',wk',id',a,b,c,d⟩:=G4
        exact ⟨N,z',wk',id',a,b,by rw [<- hQn];exact c,d⟩
       have HL : Hid (Land 2 30 6 34 s1 σ1 ⟨q1,0,(upd (fun _=>(0 : Int)) 1 1),fun _=>0⟩):=RR.ld
       clear RR G1 G2 G3 G4 hC C8 hQn
       have HXS : Hid (E < wr.heap.size /\ bl < wr.heap.size /\ ¬ L.has wr.heap.size /\ w.heap.size <= wr.heap.size):=⟨S.ltE,S.lt List.mem_cons_self,fun hh=>by have:=S.mm.lt _ hh;omega,S.b.size⟩
       have HKL : Hid (∀ y,(y < w.heap.size \/ y = E \/ y = bl) -> ¬ L.has y):=fun y e hh=>by rcases e with e | e | e;(have:=S.a.l0 y hh;omega);exact S.a.e (e ▸ hh);exact (S.row List.mem_cons_self).nl (e ▸ hh)
       have KP0 : Kp (fun y=>y < w.heap.size \/ y = E \/ y = bl) L wr.heap.size (wr.alloc comp0):=⟨fun e=>by have:=HXS.out;rcases e with e | e | e <;> omega,HKL.out,fun y e=>by rw [Go.Deep.nblk_alloc];have:=HXS.out;rcases e with e | e | e <;> omega⟩
       have CP0:=cp0_at wr L (fun y=>y < w.heap.size \/ y = E \/ y = bl)
       have S0:=S.grown (gro1 _ comp0)
       obtain ⟨X,hX⟩ : ∃ X,wr.heap.size = X:=⟨_,rfl⟩
       rw [hX] at CP0 KP0
       have HX : Hid (¬ L.has X /\ w.heap.size <= X /\ X ≠ E /\ X ≠ bl):=by have:=HXS.out;exact ⟨hX ▸ this.2.2.1,by omega,by omega,by omega⟩
       clear S HXS
       obtain ⟨y0,y1,y2,y3,y4,y5,y6,y7,y8⟩:=S0.v
       have fl : ∀ (a1 a2 a3 a4 a5 : Value) (w : World),(Instr.field 63 (.agg #[a1,a2,a3,a4,a5]) 2).run Tryz.prog w = .ok a3 w:=fun a1 a2 a3 a4 a5 w=>by kernel_rfl
       have fl0 : ∀ (a1 a2 a3 a4 a5 : Value) (w : World),(Instr.field 63 (.agg #[a1,a2,a3,a4,a5]) 0).run Tryz.prog w = .ok a1 w:=fun a1 a2 a3 a4 a5 w=>by kernel_rfl
       have k1:=rounds_goes (c:=C) (cp:=cp0) S0.mm HX.out.1 KP0 HL.out good26 CP0 1 HG1.out.2.2 HG1.out.1 (by have:=HG1.out;omega) (by decide) HCR.out
       go_wp2_with (go_at_call 17;go_must (refine (newComp_any _).mono ?_;rintro e w3 ⟨rfl,rfl⟩))
       try simp only [hX]
       clear CP0 KP0 hX
       go_wp2_with (go_at_call 18;go_must (refine k1.mono ?_;rintro e w5 ⟨rfl,s5,m5,l5,⟨cs5,F5,C5⟩,o5⟩;clear k1;have S5:=S0.but o5 m5 (fun y hy=>hy.imp id (fun h=>h.imp id (fun ⟨r,hr,e⟩=>by rw [List.mem_singleton] at hr;rw [e,hr])));have k2:=cwork_any C5.cm C5.ct.k43 C5.ct.k44 (C5.ct.k45.trans (show iV (wk2.fr : Nat) = iV 0 from (by rw [HQ.out.2.1];rfl))) C5.ct.k46 C5.ct.k47))
       clear S0 m5 o5 y0 y1 y2 y3 y4 y5 y6 y7 y8
       go_wp2_with (go_at_call 25;go_must (refine k2.mono ?_;rintro e w6 ⟨rfl,b6⟩;clear k2;have S6:=S5.grown b6;have C6:=C5.grown b6;obtain ⟨y0,y1,y2,y3,y4,y5,y6,y7,y8⟩:=S6.v;have k3:=many_any S6.mm l5.tw.yard good26 (by have:=HG1.out;omega) 3 1;rw [HQ.out.1] at k3))
       clear S5 C5 b6
       go_wp2_with (go_at_call 20;go_must (refine k3.mono ?_;rintro e w7 ⟨rfl,b7⟩;clear k3;have S7:=S6.grown b7;have C7:=C6.grown b7;clear S6 C6 b7 y0 y1 y2 y3 y4 y5 y6 y7 y8;have S8:=S7.who_ 1;have z8:=S7.v.c8;have fz8:=S7.fz 8;obtain ⟨u0,u1,u2,u3,u4,u5,u6,u7,u8⟩:=S8.v))
       have C8 : CpAt (w7.setCell ⟨E,8,none⟩ (iV 1)) X 0 110 L (fun y=>y < w.heap.size \/ y = E \/ y = bl) ⟨.see [],wk2,wk2,id2⟩ cs5 F5:=C7.only (Only.setCell (a:=⟨E,8,none⟩) (Only.refl (fun k=>k = E) _) (fun _=>rfl) _) HX.out.2.2.1 (fun y hy=>Or.inl (Or.inr (Or.inl hy)))
       have k4:=out_any S8.mm 2 30 6 34 100 600 3 1 (by have:=l5.len;omega) (by decide) (by decide)
       have hQ0' : (0 : Int) < (Qn : Int):=by omega
       obtain ⟨N,z9,wk9,id9,N9,CR9,fr9,id91⟩:=HG4.out
       have HCR9 : Hid (CRuns 2 30 6 34 600 3 (wk2.rd + 30) N (σ1 + N1 + 1) { z2 with pn:=upd z2.pn 1 0 } ⟨.see [],wk2,wk2,id2⟩ z9 ⟨.see [],wk9,wk9,id9⟩):=CR9
       have HL9 : Hid (Land 2 30 6 34 ((s5.by ((1 : Nat) : Int)).step (6 + 1) 0) (σ1 + N1 + 1) { z2 with pn:=upd z2.pn 1 0 }):=l5.pin (by have:=HG1.out;omega) _ (by decide) _
       have hfr : (Qn : Int) <= (wk9.fr : Int):=by omega
       have hfr1 : Qn <= wk9.fr:=fr9
       have HF9 : Hid (Qn <= wk9.fr /\ 0 < id9):=⟨by omega,by omega⟩
       have HN9 : Hid (N <= 3000 * 30):=N9
       clear CR9 fr9 id91 N9 C7 S7 HG4
       go_wp2_with (go_at_call 26;go_must (refine k4.mono ?_;rintro e w9 ⟨rfl,m9,o9⟩;clear k4;have S9:=S8.mem o9 m9;have C9:=C8.only o9 HX.out.1 (fun y hy=>Or.inr hy);have k5:=cwork_any C9.cm (C9.ct.k43.trans (show iV (wk2.ev : Nat) = iV (Qn : Nat) from (by rw [HQ.out.2.2.1]))) C9.ct.k44 C9.ct.k45 C9.ct.k46 C9.ct.k47))
       clear S8 C8 o9 m9 u0 u1 u2 u3 u4 u5 u6 u7 u8 z8 fz8
       go_wp2_with (go_at_call 25;go_must (refine k5.mono ?_;rintro e w10 ⟨rfl,b10⟩;clear k5;have S10:=S9.grown b10;have C10:=C9.grown b10;obtain ⟨y0,y1,y2,y3,y4,y5,y6,y7,y8⟩:=S10.v;have KP10 : Kp (fun y=>y < w.heap.size \/ y = E \/ y = bl) L X w10:=⟨fun e=>by have:=HX.out;rcases e with e | e | e <;> omega,HKL.out,fun y e=>by have h1:=S10.ltE;have h2:=S10.lt List.mem_cons_self;have h3:=S10.b.size;rcases e with e | e | e <;> (simp only at h2;omega)⟩;have k6:=rounds_goes (c:=30) (cp:=⟨.see [],wk2,wk2,id2⟩) S10.mm HX.out.1 KP10 HL9.out good26 ⟨cs5,F5,C10⟩ 1 (by decide) HN9.out (by have:=HN9.out;have:=HG1.out;omega) HQ.out.2.2.2 HCR9.out))
       clear S9 C9 b10 KP10 C10
       go_wp2_with (go_at_call 18;go_must (refine k6.mono ?_;rintro e w11 ⟨rfl,s11,m11,l11,⟨cs11,F11,C11⟩,o11⟩;clear k6;have S11:=S10.but o11 m11 (fun y hy=>hy.imp id (fun h=>h.imp id (fun ⟨r,hr,e⟩=>by rw [List.mem_singleton] at hr;rw [e,hr])));have k7:=cwork_any C11.cm C11.ct.k43 C11.ct.k44 C11.ct.k45 C11.ct.k46 C11.ct.k47))
       clear S10 m11 o11 y0 y1 y2 y3 y4 y5 y6 y7 y8
       go_wp2_with (go_at_call 25;go_must (refine k7.mono ?_;rintro e w12 ⟨rfl,b12⟩;clear k7;have k8:=cidle_any (C11.grown b12).cm C11.ct.k53))
       go_wp2_with (go_at_call 27;go_must (refine k8.mono ?_;rintro e w13 ⟨rfl,rfl⟩;clear k8))
       go_ret
       refine ⟨?_,grow S11.b b12⟩
       have hi:=HF9.out.2
       simp [hi]
   · have st:=PP.step (by decide) (by decide) hσp false (decide_eq_false hjp).symm
     go_wp2_with (go_at_call 24;go_must (refine st.mono ?_;rintro e w4 ⟨rfl,hq,-⟩;have P4:=hq rfl))
     go_roundw
     case rel=>exact ⟨jp + 1,by go_num,P4⟩
     case measure=>simp [intOf];omega
end
end Go.Proofs.YtmnnhjhhhfabiaaGreat
