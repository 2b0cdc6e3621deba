import Derived.Test.YtlolfmoolgenpaaGreatActStep
import Derived.Test.YtlolfmoolgenpaaGreatAccTown
import Derived.Test.YtlolfmoolgenpaaGreatDropRun
namespace Go.Proofs.YtlolfmoolgenpaaGreat
open Go.RowKit
structure Vil (t n k m : Nat) (s : Mm) (σ : Nat) (q : Q) (pn : Nat -> Int) : Prop where
 tw : Town t n k m s σ q
 ep : s.wd 0 = 0
 pn : ∀ i,i < t -> s.wd (6 + i) = pn i
section
variable {t n k m : Nat} {s : Mm} {σ : Nat} {q : Q} {pn : Nat -> Int}
theorem Town.pins (h : Town t n k m s σ q) (hσ : σ < 1000000) (who : Int) (a : Nat) (v : Int) (h1 : 6 <= a) (h2 : a < 6 + t) : Town t n k m ((s.by who).step a v) (σ + 1) q:=by
 refine ⟨h.pile.off hσ who a v (by omega) (fun i hi=>by omega),h.yard.off hσ who a v (by omega) (fun i hi=>by omega),fun i hi=>?_,fun i hi=>?_,fun x hx=>?_,h.swb,fun b hb=>?_,?_⟩
 · rw [Town.step_wd who a _ v (by omega)];exact h.lvw i hi
 · have:=h.lvb i hi;omega
 · rw [Town.step_wd who a _ v (by omega)];exact h.swv x hx
 · rw [Town.step_wd who a _ v (by omega)];exact h.dwv b hb
 · rw [Town.step_wd who a _ v (by omega)];exact h.ep
theorem Vil.pin (h : Vil t n k m s σ q pn) (hσ : σ < 1000000) (who : Int) {j : Nat} (hj : j < t) (v : Int) : Vil t n k m ((s.by who).step (6 + j) v) (σ + 1) q (upd pn j v):=by
 refine ⟨h.tw.pins hσ who _ v (by omega) (by omega),(Town.step_wd who _ 0 _ (by omega)).trans h.ep,fun i hi=>?_⟩
 by_cases e : i = j
 · subst e;rw [Town.step_at,upd_same]
 · rw [Town.step_wd who _ _ _ (by omega),upd_other _ _ _ _ e];exact h.pn i hi
theorem Vil.look (h : Vil t n k m s σ q pn) (hσ : σ < 1000000) (who : Int) : Vil t n k m ((s.by who).step 0 (s.wd 0)) (σ + 1) q pn:=by
 refine ⟨h.tw.same hσ who 0,(Town.step_at who 0 _).trans h.ep,fun i hi=>(Town.step_wd who _ _ _ (by omega)).trans (h.pn i hi)⟩
theorem Vil.on (h : Vil t n k m s σ q pn) {s' : Mm} {σ' : Nat} {q' : Q} (tw : Town t n k m s' σ' q') {who : Int} {a : Nat} (e : ∃ v,s' = (s.by who).step a v) (h1 : 1 <= a) (h2 : a < 6 \/ 6 + t <= a) : Vil t n k m s' σ' q' pn:=by
 obtain ⟨v,rfl⟩:=e
 exact ⟨tw,(Town.step_wd who _ 0 _ (by omega)).trans h.ep,fun i hi=>(Town.step_wd who _ _ _ (by omega)).trans (h.pn i hi)⟩
theorem Al.away {κ : Nat} {α : Al} (hκ : κ < 4) (g : α.good t n k m κ σ q) (ho : α.over? = false) : 1 <= α.at t n κ /\ (α.at t n κ < 6 \/ 6 + t <= α.at t n κ):=by
 cases α with
 | over=>cases ho
 | take τ =>
  rcases Tk.at_in (t:=t) g.1 with e | ⟨x,hx,e⟩
  · show 1 <= τ.at t /\ (τ.at t < 6 \/ 6 + t <= τ.at t);omega
  · show 1 <= τ.at t /\ (τ.at t < 6 \/ 6 + t <= τ.at t);omega
 | ask x=>show 1 <= 6 + t + x * 2 /\ _;constructor;omega;right;show 6 + t <= 6 + t + x * 2;omega
 | place x G τ =>
  rcases Pl.at_in (t:=t) (n:=n) g.2.2.2.1 with e | ⟨i,hi,e⟩
  · show 1 <= τ.at t n κ /\ (τ.at t n κ < 6 \/ 6 + t <= τ.at t n κ);omega
  · show 1 <= τ.at t n κ /\ (τ.at t n κ < 6 \/ 6 + t <= τ.at t n κ);omega
 | count x G a i=>show 1 <= 6 + t + n * 2 + i * 3 + 1 /\ (6 + t + n * 2 + i * 3 + 1 < 6 \/ 6 + t <= 6 + t + n * 2 + i * 3 + 1);omega
 | head x G a i=>have:=g.2.2.2.2.1;show 1 <= a /\ (a < 6 \/ 6 + t <= a);omega
 | shw x G a i=>show 1 <= 6 + t + x * 2 /\ (6 + t + x * 2 < 6 \/ 6 + t <= 6 + t + x * 2);omega
 | ready x G a i st=>have:=g.2.2.2.2.1;show 1 <= a /\ (a < 6 \/ 6 + t <= a);omega
 | give x G γ =>
  rcases Gv.at_in (t:=t) g.1 γ with e | ⟨y,hy,e⟩
  · show 1 <= γ.at t x /\ (γ.at t x < 6 \/ 6 + t <= γ.at t x);omega
  · show 1 <= γ.at t x /\ (γ.at t x < 6 \/ 6 + t <= γ.at t x);omega
theorem Hp.away {x : Nat} {η : Hp} (g : η.good t n k m) (ho : η.over? = false) : 6 + t <= η.at t x:=by
 cases η with
 | over=>cases ho
 | go v Z j u =>
  obtain ⟨⟨i,O⟩,-⟩:=g
  have:=O.inn
  show 6 + t <= if Z <= j then 6 + t + x * 2 else adOf v + 1 + j
  split <;> omega
theorem Dp.away {x G : Nat} {α : Dp} (hx : x < n) (g : α.good t n k m x G q) (ho : α.over? = false) : 1 <= α.at t n x /\ (α.at t n x < 6 \/ 6 + t <= α.at t n x):=by
 cases α with
 | over=>cases ho
 | see=>show 1 <= 6 + t + x * 2 /\ (6 + t + x * 2 < 6 \/ 6 + t <= 6 + t + x * 2);omega
 | ask v=>obtain ⟨i,O⟩:=g;have:=O.inn;show 1 <= adOf v /\ (adOf v < 6 \/ 6 + t <= adOf v);omega
 | mark v Z=>show 1 <= 6 + t + x * 2 /\ (6 + t + x * 2 < 6 \/ 6 + t <= 6 + t + x * 2);omega
 | help η=>have:=Hp.away (x:=x) g.1 g.2;show 1 <= η.at t x /\ (η.at t x < 6 \/ 6 + t <= η.at t x);omega
 | fin Z i η=>have:=Hp.away (x:=x) g.1 g.2;show 1 <= η.at t x /\ (η.at t x < 6 \/ 6 + t <= η.at t x);omega
 | count Z i=>show 1 <= 6 + t + n * 2 + i * 3 + 1 /\ (6 + t + n * 2 + i * 3 + 1 < 6 \/ 6 + t <= 6 + t + n * 2 + i * 3 + 1);omega
 | give γ =>
  rcases Gv.at_in (t:=t) hx γ with e | ⟨y,hy,e⟩
  · show 1 <= γ.at t x /\ (γ.at t x < 6 \/ 6 + t <= γ.at t x);omega
  · show 1 <= γ.at t x /\ (γ.at t x < 6 \/ 6 + t <= γ.at t x);omega
theorem Ac.away {W : Wt} {x G : Nat} {α : Ac} (g : α.good t n k m W x G q) (ho : α.over? = false) : 6 + t <= α.at t x W:=by
 cases α with
 | over=>cases ho
 | see=>show 6 + t <= 6 + t + x * 2;omega
 | ask v=>obtain ⟨i,O⟩:=g;have:=O.inn;show 6 + t <= adOf v;omega
 | load v Z=>obtain ⟨⟨i,O⟩,-⟩:=g;have:=O.inn;show 6 + t <= adOf v + 1 + W.ix.toNat;omega
 | check v c ld=>show 6 + t <= 6 + t + x * 2;omega
 | stop v=>show 6 + t <= 6 + t + x * 2;omega
 | lay v c=>obtain ⟨⟨Z,i,O,-⟩,-⟩:=g;have:=O.inn;show 6 + t <= adOf v + 1 + W.ix.toNat;omega
end
def TlI (σ0 σ : Nat) (St : Int) : Dp -> Prop
 | .count _ _=>(σ0 : Int) < St /\ St <= (σ : Int)
 | .give _=>(σ0 : Int) < St /\ St <= (σ : Int)
 | .over E=>(σ0 : Int) <= St /\ St <= (σ : Int) /\ (E = 0 -> (σ0 : Int) < St)
 | _=>True
theorem tl_next {t n k m σ0 σ : Nat} {s s' : Mm} {q q' : Q} {who cg : Int} {own : Bool} {x G : Nat} {α α' : Dp} {a a' : DV} (hx : x < n) (hT : Town t n k m s σ q) (hT' : Town t n k m s' (σ + 1) q') (hs : ∃ v,s' = (s.by who).step (α.at t n x) v) (ht : dpTurn t n k m cg own x G q α = (q',α')) (ho : α.over? = false) (hb : σ < 1000000) (h0 : σ0 <= σ) (hw : ∀ Z i η,α = .fin Z i η -> α' = .count Z i -> q'.sw x ≠ q.sw x) (hl : Tl t x σ s' a a' α α') (h : TlI σ0 σ a.St α) : TlI σ0 (σ + 1) a'.St α':=by
 cases α with
 | over=>cases ho
 | see =>
  obtain ⟨-,hα⟩:=Prod.mk.inj ht
  split at hα <;> subst hα
  · trivial
  · have e : a'.St = ((σ + 1 : Nat) : Int):=hl
    exact ⟨by omega,by omega,fun _=>by omega⟩
 | ask v =>
  obtain ⟨-,hα⟩:=Prod.mk.inj ht
  unfold dpAsk at hα
  split at hα
  · split at hα <;> (subst hα;trivial)
  · subst hα
    have e : a'.St = ((σ + 1 : Nat) : Int):=hl
    exact ⟨by omega,by omega,fun _=>by omega⟩
 | mark v Z =>
  simp only [dpTurn] at ht
  split at ht <;> (obtain ⟨-,rfl⟩:=Prod.mk.inj ht;trivial)
 | help η =>
  obtain ⟨q1,η1,h1⟩ : ∃ q1 η1,hpTurn cg x q η = (q1,η1):=⟨_,_,rfl⟩
  simp only [dpTurn,h1] at ht
  cases η1 <;> (simp only [dpHelp] at ht;obtain ⟨-,rfl⟩:=Prod.mk.inj ht;trivial)
 | fin Z i η =>
  obtain ⟨q1,η1,h1⟩ : ∃ q1 η1,hpTurn cg x q η = (q1,η1):=⟨_,_,rfl⟩
  simp only [dpTurn,h1] at ht
  cases η1 with
  | go=>simp only [dpFin] at ht;obtain ⟨-,rfl⟩:=Prod.mk.inj ht;trivial
  | over wn =>
   simp only [dpFin] at ht
   obtain ⟨rfl,rfl⟩:=Prod.mk.inj ht
   have hne:=hw Z i η rfl rfl
   have hSt : a'.St = s'.wn (6 + t + x * 2):=hl
   obtain ⟨v,hv⟩:=hs
   have d1:=hT.swv x hx
   have d2:=hT'.swv x hx
   have d3 : s'.wd (6 + t + x * 2) ≠ s.wd (6 + t + x * 2):=by rw [d1,d2];exact hne
   have hat : (Dp.fin Z i η).at t n x = 6 + t + x * 2:=by
    by_cases e : (Dp.fin Z i η).at t n x = 6 + t + x * 2
    · exact e
    · exfalso
      apply d3
      rw [hv]
      show upd s.wd _ v (6 + t + x * 2) = _
      rw [upd_other _ _ _ _ (fun h=>e h.symm)]
   rw [hat] at hv
   have hvw : s'.wd (6 + t + x * 2) = v:=by rw [hv];exact upd_same _ _ _
   have hwn : s'.wn (6 + t + x * 2) = wrap64 (s.steps + 1):=by
    rw [hv]
    show (if s.wd (6 + t + x * 2) = v then s.wn else upd s.wn (6 + t + x * 2) (wrap64 (s.steps + 1))) (6 + t + x * 2) = _
    rw [if_neg (fun h=>d3 (by rw [hvw,h])),upd_same]
   have hst : wrap64 (s.steps + 1) = ((σ + 1 : Nat) : Int):=by rw [hT.pile.st];exact hT.pile.wrapS hb
   show (σ0 : Int) < a'.St /\ a'.St <= ((σ + 1 : Nat) : Int)
   rw [hSt,hwn,hst]
   omega
 | count Z i =>
  have hSt : a'.St = a.St:=hl
  have h' : (σ0 : Int) < a.St /\ a.St <= (σ : Int):=h
  have key : (σ0 : Int) < a'.St /\ a'.St <= ((σ + 1 : Nat) : Int):=by rw [hSt];omega
  obtain ⟨-,hα⟩:=Prod.mk.inj ht
  split at hα <;> subst hα
  · exact ⟨by omega,key.2,fun _=>key.1⟩
  · exact key
 | give γ =>
  have hSt : a'.St = a.St:=hl
  have h' : (σ0 : Int) < a.St /\ a.St <= (σ : Int):=h
  have key : (σ0 : Int) < a'.St /\ a'.St <= ((σ + 1 : Nat) : Int):=by rw [hSt];omega
  obtain ⟨c',lk',F',γ',h1⟩ : ∃ c' lk' F' γ',gvTurn q.c q.lk q.F x γ = (c',lk',F',γ'):=⟨_,_,_,_,rfl⟩
  simp only [dpTurn,h1] at ht
  cases γ' <;> (simp only [dpGive] at ht;obtain ⟨-,rfl⟩:=Prod.mk.inj ht;first | exact key | exact ⟨Int.le_of_lt key.1,key.2,fun _=>key.1⟩)
inductive Dw where
 | al (z : Int) (own : Bool) (κ : Nat) (α : Al)
 | dp (nu : Int) (own : Bool) (x G : Nat) (α : Dp)
 | ac (W : Wt) (own : Bool) (x G : Nat) (α : Ac)
 | bad (c : Nat) (E : Int)
 | fin (c : Nat) (E : Int) (st : Nat)
def Dw.over? : Dw -> Bool
 | .al _ _ _ α=>α.over?
 | .dp _ _ _ _ α=>α.over?
 | .ac _ _ _ _ α=>α.over?
 | .bad _ _=>false
 | .fin _ _ _=>true
def Dw.c : Dw -> Nat
 | .al _ _ _ _=>0
 | .dp _ _ _ _ _=>1
 | .ac _ _ _ _ _=>2
 | .bad c _=>c
 | .fin c _ _=>c
def Dw.cost : Dw -> Nat
 | .bad _ _=>0
 | .fin _ _ _=>0
 | _=>1
def tyC : Nat -> TypeId
 | 0=>88
 | 1=>90
 | _=>113
def fS : Nat -> FuncId
 | 0=>70
 | 1=>116
 | _=>142
def fD : Nat -> FuncId
 | 0=>69
 | 1=>115
 | _=>141
def dwTurn (t n k m : Nat) (cg : Int) (σ : Nat) (q : Q) : Dw -> Q × Dw
 | .al z own κ α=>((alTurn t n k m κ z own σ q α).1,.al z own κ (alTurn t n k m κ z own σ q α).2)
 | .dp nu own x G α=>((dpTurn t n k m cg own x G q α).1,.dp nu own x G (dpTurn t n k m cg own x G q α).2)
 | .ac W own x G α=>((acTurn W own x G σ q α).1,.ac W own x G (acTurn W own x G σ q α).2)
 | .bad c E=>(q,.fin c E σ)
 | .fin c E st=>(q,.fin c E st)
def Dw.need (t n k m : Nat) (cg : Int) (q : Q) : Dw -> Prop
 | .dp _ own x G α=>α.good t n k m x G q /\ ∀ Z i η,α = .fin Z i η -> (dpTurn t n k m cg own x G q α).2 = .count Z i -> (dpTurn t n k m cg own x G q α).1.sw x ≠ q.sw x
 | .ac W _ x G α=>α.good t n k m W x G q
 | _=>True
def NoHand (n : Nat) (nu : Int) : Prop:=Wd nu /\ ((nu < 65536 \/ 4294967296 <= nu) \/ ∃ (x : Nat) (G : Int),HandIs nu x G /\ n <= x)
def DwAt (t n k m : Nat) (w : World) (b σ0 σ : Nat) (q : Q) : Dw -> Prop
 | .al z own κ α=>Fit z /\ classOf z = κ /\ κ < 4 /\ α.good t n k m κ σ q /\ ∃ cs a,AlAt w b 0 108 cs a /\ AlIs z own κ α a
 | .dp nu own x G α=>HandIs nu x G /\ x < n /\ ∃ cs a,DpAt w b 0 112 cs a /\ DpIs t n k m nu own x α a /\ TlI σ0 σ a.St α
 | .ac W own x G α=>HandIs W.nu x G /\ x < n /\ W.ok /\ ∃ cs a,AcAt w b 0 119 cs a /\ AcIs W own α a
 | .bad c E=>(c = 0 /\ E = 5 /\ ∃ z own cs,classOf z < 0 /\ AlAt w b 0 108 cs (av0 z own)) \/ (c = 1 /\ E = 3 /\ ∃ nu own cs,NoHand n nu /\ DpAt w b 0 112 cs (dv0 nu own)) \/ (c = 2 /\ E = 3 /\ ∃ (W : Wt) (own : Bool) (cs : Array Value),(W.kd = 1 \/ W.kd = 2 \/ W.kd = 3) /\ NoHand n W.nu /\ AcAt w b 0 119 cs (cv0 W.kd W.nu W.ix W.vl W.ol own))
 | .fin c E st=>(c = 0 /\ ∃ cs a,AlAt w b 0 108 cs a /\ a.nx = 8 /\ a.E = E /\ a.H = 0 /\ a.V = 0 /\ a.St = st) \/ (c = 1 /\ ∃ cs a,DpAt w b 0 112 cs a /\ a.nx = 7 /\ a.E = E /\ a.H = 0 /\ a.V = 0 /\ a.St = st) \/ (c = 2 /\ ∃ cs a,AcAt w b 0 119 cs a /\ a.E = E /\ a.H = 0 /\ a.V = 0 /\ a.St = st)
theorem DwAt.of_block {t n k m : Nat} {w w' : World} {b σ0 σ : Nat} {q : Q} {δ : Dw} (h : DwAt t n k m w b σ0 σ q δ) (e : w'.heap[b]? = w.heap[b]?) : DwAt t n k m w' b σ0 σ q δ:=by
 cases δ with
 | al z own κ α=>obtain ⟨h1,h2,h3,h4,cs,a,h5,h6⟩:=h;exact ⟨h1,h2,h3,h4,cs,a,h5.of_block e,h6⟩
 | dp nu own x G α=>obtain ⟨h1,h2,cs,a,h5,h6⟩:=h;exact ⟨h1,h2,cs,a,h5.of_block e,h6⟩
 | ac W own x G α=>obtain ⟨h1,h2,h3,cs,a,h5,h6⟩:=h;exact ⟨h1,h2,h3,cs,a,h5.of_block e,h6⟩
 | bad c E =>
  rcases h with ⟨h1,h2,z,own,cs,h3,h4⟩ | ⟨h1,h2,z,own,cs,h3,h4⟩ | ⟨h1,h2,z,own,cs,h3,h4,h5⟩
  · exact Or.inl ⟨h1,h2,z,own,cs,h3,h4.of_block e⟩
  · exact Or.inr (Or.inl ⟨h1,h2,z,own,cs,h3,h4.of_block e⟩)
  · exact Or.inr (Or.inr ⟨h1,h2,z,own,cs,h3,h4,h5.of_block e⟩)
 | fin c E st =>
  rcases h with ⟨h1,cs,a,h3,h4⟩ | ⟨h1,cs,a,h3,h4⟩ | ⟨h1,cs,a,h3,h4⟩
  · exact Or.inl ⟨h1,cs,a,h3.of_block e,h4⟩
  · exact Or.inr (Or.inl ⟨h1,cs,a,h3.of_block e,h4⟩)
  · exact Or.inr (Or.inr ⟨h1,cs,a,h3.of_block e,h4⟩)
theorem DwAt.lt {t n k m : Nat} {w : World} {b σ0 σ : Nat} {q : Q} {δ : Dw} (h : DwAt t n k m w b σ0 σ q δ) : b < w.heap.size:=by
 cases δ with
 | al z own κ α=>obtain ⟨h1,h2,h3,h4,cs,a,h5,h6⟩:=h;exact h5.lt
 | dp nu own x G α=>obtain ⟨h1,h2,cs,a,h5,h6⟩:=h;exact h5.lt
 | ac W own x G α=>obtain ⟨h1,h2,h3,cs,a,h5,h6⟩:=h;exact h5.lt
 | bad c E =>
  rcases h with ⟨h1,h2,z,own,cs,h3,h4⟩ | ⟨h1,h2,z,own,cs,h3,h4⟩ | ⟨h1,h2,z,own,cs,h3,h4,h5⟩
  · exact h4.lt
  · exact h4.lt
  · exact h5.lt
 | fin c E st =>
  rcases h with ⟨h1,cs,a,h3,h4⟩ | ⟨h1,cs,a,h3,h4⟩ | ⟨h1,cs,a,h3,h4⟩ <;> exact h3.lt
section
variable {w : World} {L : Loc} {s : Mm} {b t n k m σ0 σ : Nat} {g p r : Int} {q : Q} {pn : Nat -> Int}
theorem dw_step (h : MemAt w L s) (hb : ¬ L.has b) (hV : Vil t n k m s σ q pn) (hG : Good t n k m g p r) (hσ : σ < 1000000) (h0 : σ0 <= σ) (hdw : ∀ a,Wd (q.dw a)) (δ : Dw) (hi : DwAt t n k m w b σ0 σ q δ) (hn : δ.need t n k m g q) (ho : δ.over? = false) (who : Int) (q' : Q) (δ' : Dw) (hq : dwTurn t n k m g σ q δ = (q',δ')) :
 Calls Tryz.prog (fS δ.c) #[.pointer (some ⟨b,0,none⟩),.agg #[.int .i64 t,.int .i64 n,.int .i64 k,.int .i64 m,.int .i64 g,.int .i64 p,.int .i64 r,.pointer (some ⟨L.p,0,none⟩),.int .i64 who]] w fun e w'=>e = .returned (.bool δ'.over?) /\ ∃ s',MemAt w' L s' /\ Vil t n k m s' (σ + δ.cost) q' pn /\ DwAt t n k m w' b σ0 (σ + δ.cost) q' δ' /\ Only (L.and b) w w':=by
 have hT:=hV.tw
 cases δ with
 | al z own κ α =>
  obtain ⟨fz,hz,hκ,gd,cs,a,ia,is1⟩:=hi
  obtain ⟨rfl,rfl⟩:=Prod.mk.inj hq
  refine (alloc_step h hb hT hG hσ fz hz hκ α ia is1 gd ho who _ _ rfl _ rfl).mono ?_
  rintro e w' ⟨rfl,s',cs',a',P⟩
  have aw:=Al.away hκ gd ho
  exact ⟨rfl,s',P.mm,hV.on P.tw P.st aw.1 aw.2,⟨fz,hz,hκ,P.good,cs',a',P.al,P.is⟩,P.only⟩
 | dp nu own x G α =>
  obtain ⟨hh,hx,cs,a,ia,is1,tl⟩:=hi
  obtain ⟨rfl,rfl⟩:=Prod.mk.inj hq
  refine (drop_step h hb hT hG hσ hdw hh hx α ia is1 hn.1 ho who _ _ rfl _ rfl).mono ?_
  rintro e w' ⟨rfl,s',cs',a',P⟩
  have aw:=Dp.away hx hn.1 ho
  exact ⟨rfl,s',P.mm,hV.on P.tw P.st aw.1 aw.2,⟨hh,hx,cs',a',P.dp,P.is,tl_next hx hT P.tw P.st rfl ho hσ h0 hn.2 P.tl tl⟩,P.only⟩
 | ac W own x G α =>
  obtain ⟨hh,hx,hW,cs,a,ia,is1⟩:=hi
  obtain ⟨rfl,rfl⟩:=Prod.mk.inj hq
  refine (access_step h hb hT hG hσ hdw hh hx hW α ia is1 hn ho who _ _ rfl _ rfl).mono ?_
  rintro e w' ⟨rfl,s',cs',a',P⟩
  have aw:=Ac.away hn ho
  exact ⟨rfl,s',P.mm,hV.on P.tw P.st (by omega) (Or.inr aw),⟨hh,hx,hW,cs',a',P.ac,P.is⟩,P.only⟩
 | bad c E =>
  obtain ⟨rfl,rfl⟩:=Prod.mk.inj hq
  have hst:=hT.pile.st
  have hlen : arenaLen t n k m <= s.n:=by rw [hT.len];exact Nat.le_refl _
  rcases hi with ⟨rfl,rfl,z,own,cs,hz,ia⟩ | ⟨rfl,rfl,nu,own,cs,hnu,ia⟩ | ⟨rfl,rfl,W,own,cs,hk,hnu,ia⟩
  · refine (astep_take (g:=g) (p:=p) (r:=r) (t:=t) (n:=n) (k:=k) (m:=m) h ia who rfl (fun s' a'=>s' = s /\ a' = { av0 z own with nx:=8,E:=5,H:=0,V:=0,St:=σ }) true (by rintro s' a' ⟨-,rfl⟩;rfl) (fun w1 m1 i1=>atake_bad m1 hb i1 who hz σ hst)).mono ?_
    rintro e w' ⟨rfl,s2,cs2,a2,m2,o2,i2,q2,rfl,rfl⟩
    exact ⟨rfl,_,m2,hV,Or.inl ⟨rfl,cs2,_,i2,rfl,rfl,rfl,rfl,rfl⟩,o2⟩
  · rcases hnu.2 with hnn | ⟨x,G,hh,hx⟩
    · refine (dstep_none h hb ia who hnu.1.1 hnu.1.2 hnn rfl hst).mono ?_
      rintro e w' ⟨rfl,s2,cs2,a2,m2,o2,i2,q2,rfl,rfl⟩
      exact ⟨rfl,_,m2,hV,Or.inr (Or.inl ⟨rfl,cs2,_,i2,rfl,rfl,rfl,rfl,rfl⟩),o2⟩
    · refine (dstep_out h ia who hG hlen hh hb hx rfl hst).mono ?_
      rintro e w' ⟨rfl,s2,cs2,a2,m2,o2,i2,q2,rfl,rfl⟩
      exact ⟨rfl,_,m2,hV,Or.inr (Or.inl ⟨rfl,cs2,_,i2,rfl,rfl,rfl,rfl,rfl⟩),o2⟩
  · rcases hnu.2 with hnn | ⟨x,G,hh,hx⟩
    · refine (acstep_none h ia who hk hb hnu.1.1 hnu.1.2 hnn (by show ¬ (0 : Int) = 7;decide) hst).mono ?_
      rintro e w' ⟨rfl,s2,cs2,a2,m2,o2,i2,q2,rfl,rfl⟩
      exact ⟨rfl,_,m2,hV,Or.inr (Or.inr ⟨rfl,cs2,_,i2,rfl,rfl,rfl,rfl⟩),o2⟩
    · refine (acstep_out h ia who hk hG hlen hh hb hx (by show ¬ (0 : Int) = 7;decide) hst).mono ?_
      rintro e w' ⟨rfl,s2,cs2,a2,m2,o2,i2,q2,rfl,rfl⟩
      exact ⟨rfl,_,m2,hV,Or.inr (Or.inr ⟨rfl,cs2,_,i2,rfl,rfl,rfl,rfl⟩),o2⟩
 | fin c E st=>cases ho
end
def Dw.told (σ0 σ : Nat) (E H V St : Int) : Dw -> Prop
 | .al _ _ _ (.over E' H' st)=>E = E' /\ H = H' /\ V = 0 /\ St = st
 | .dp _ _ _ _ (.over E')=>E = E' /\ H = 0 /\ V = 0 /\ (σ0 : Int) <= St /\ St <= (σ : Int) /\ (E' = 0 -> (σ0 : Int) < St)
 | .ac _ _ _ _ (.over E' v st)=>E = E' /\ H = 0 /\ V = v /\ St = st
 | .fin _ E' st=>E = E' /\ H = 0 /\ V = 0 /\ St = st
 | _=>False
theorem dw_done {t n k m : Nat} {w : World} {b σ0 σ : Nat} {q : Q} {δ : Dw} (h : DwAt t n k m w b σ0 σ q δ) (ho : δ.over? = true) : ∃ E H V St,δ.told σ0 σ E H V St /\ ∀ w1,Below w.heap.size w w1 -> Calls Tryz.prog (fD δ.c) #[.pointer (some ⟨b,0,none⟩)] w1 fun e w'=>e = .returned (.agg #[.int .i64 E,.int .u64 H,.int .i64 V,.int .i64 St]) /\ Below w1.heap.size w1 w':=by
 cases δ with
 | al z own κ α =>
  obtain ⟨h1,h2,h3,h4,cs,a,h5,h6⟩:=h
  cases α with
  | over E H st =>
   have:=h6.nx
   exact ⟨_,_,_,_,⟨h6.cm.1,h6.cm.2.1,h6.cm.2.2.1,h6.cm.2.2.2⟩,fun w1 g=>adone_over (h5.grown g) this⟩
  | _=>cases ho
 | dp nu own x G α =>
  obtain ⟨h1,h2,cs,a,h5,h6,h7⟩:=h
  cases α with
  | over E =>
   have:=h6.nx
   exact ⟨_,_,_,_,⟨h6.E,h6.H,h6.V,h7⟩,fun w1 g=>ddone_over (h5.grown g) this⟩
  | _=>cases ho
 | ac W own x G α =>
  obtain ⟨h1,h2,h3,cs,a,h5,h6⟩:=h
  cases α with
  | over E v st=>exact ⟨_,_,_,_,⟨h6.sec.1,h6.sec.2.1,h6.sec.2.2.1,h6.sec.2.2.2⟩,fun w1 g=>adone_any (h5.grown g)⟩
  | _=>cases ho
 | bad c E=>cases ho
 | fin c E st =>
  rcases h with ⟨rfl,cs,a,h3,h4,h5⟩ | ⟨rfl,cs,a,h3,h4,h5⟩ | ⟨rfl,cs,a,h3,h5⟩
  · exact ⟨_,_,_,_,h5,fun w1 g=>adone_over (h3.grown g) h4⟩
  · exact ⟨_,_,_,_,h5,fun w1 g=>ddone_over (h3.grown g) h4⟩
  · exact ⟨_,_,_,_,h5,fun w1 g=>adone_any (h3.grown g)⟩
end Go.Proofs.YtlolfmoolgenpaaGreat
