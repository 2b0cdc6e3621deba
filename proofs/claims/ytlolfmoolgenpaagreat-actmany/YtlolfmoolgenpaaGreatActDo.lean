import Derived.Test.YtlolfmoolgenpaaGreatActStep
import Derived.Test.YtlolfmoolgenpaaGreatAccTown
import Derived.Test.YtlolfmoolgenpaaGreatDropAwake
namespace Go.Proofs.YtlolfmoolgenpaaGreat
open Go.RowKit
structure Vil (t n k m : Nat) (s : Mm) (σ : Nat) (q : Q) (pn : Nat -> Int) : Prop where
 tw : Town t n k m s σ q
 ep : s.wd 0 = 0
 pn : ∀ i,i < t -> s.wd (6 + i) = pn i
section
variable {t n k m : Nat} {s : Mm} {σ : Nat} {q : Q} {pn : Nat -> Int}
theorem Town.pins (h : Town t n k m s σ q) (hσ : σ < 1000000) (who : Int) (a : Nat) (v : Int) (h1 : 6 <= a) (h2 : a < 6 + t) : Town t n k m ((s.by who).step a v) (σ + 1) q:=by
 refine ⟨h.pile.off hσ who a v (by omega) (fun i hi=>by omega),h.yard.off hσ who a v (by omega) (fun i hi=>by omega),fun i hi=>?_,fun i hi=>?_,fun x hx=>?_,h.swb,fun b hb=>?_,?_⟩
 · rw [Town.step_wd who a _ v (by omega)];exact h.lvw i hi
 · have:=h.lvb i hi;omega
 · rw [Town.step_wd who a _ v (by omega)];exact h.swv x hx
 · rw [Town.step_wd who a _ v (by omega)];exact h.dwv b hb
 · rw [Town.step_wd who a _ v (by omega)];exact h.ep
theorem Vil.pin (h : Vil t n k m s σ q pn) (hσ : σ < 1000000) (who : Int) {j : Nat} (hj : j < t) (v : Int) : Vil t n k m ((s.by who).step (6 + j) v) (σ + 1) q (upd pn j v):=by
 refine ⟨h.tw.pins hσ who _ v (by omega) (by omega),(Town.step_wd who _ 0 _ (by omega)).trans h.ep,fun i hi=>?_⟩
 by_cases e : i = j
 · subst e;rw [Town.step_at,upd_same]
 · rw [Town.step_wd who _ _ _ (by omega),upd_other _ _ _ _ e];exact h.pn i hi
theorem Vil.look (h : Vil t n k m s σ q pn) (hσ : σ < 1000000) (who : Int) : Vil t n k m ((s.by who).step 0 (s.wd 0)) (σ + 1) q pn:=by
 refine ⟨h.tw.same hσ who 0,(Town.step_at who 0 _).trans h.ep,fun i hi=>(Town.step_wd who _ _ _ (by omega)).trans (h.pn i hi)⟩
theorem Vil.on (h : Vil t n k m s σ q pn) {s' : Mm} {σ' : Nat} {q' : Q} (tw : Town t n k m s' σ' q') {who : Int} {a : Nat} (e : ∃ v,s' = (s.by who).step a v) (h1 : 1 <= a) (h2 : a < 6 \/ 6 + t <= a) : Vil t n k m s' σ' q' pn:=by
 obtain ⟨v,rfl⟩:=e
 exact ⟨tw,(Town.step_wd who _ 0 _ (by omega)).trans h.ep,fun i hi=>(Town.step_wd who _ _ _ (by omega)).trans (h.pn i hi)⟩
theorem Al.away {κ : Nat} {α : Al} (hκ : κ < 4) (g : α.good t n k m κ σ q) (ho : α.over? = false) : 1 <= α.at t n κ /\ (α.at t n κ < 6 \/ 6 + t <= α.at t n κ):=by
 cases α with
 | over=>cases ho
 | take τ =>
  rcases Tk.at_in (t:=t) g.1 with e | ⟨x,hx,e⟩
  · show 1 <= τ.at t /\ (τ.at t < 6 \/ 6 + t <= τ.at t);omega
  · show 1 <= τ.at t /\ (τ.at t < 6 \/ 6 + t <= τ.at t);omega
 | ask x=>show 1 <= 6 + t + x * 2 /\ _;constructor;omega;right;show 6 + t <= 6 + t + x * 2;omega
 | place x G τ =>
  rcases Pl.at_in (t:=t) (n:=n) g.2.2.2.1 with e | ⟨i,hi,e⟩
  · show 1 <= τ.at t n κ /\ (τ.at t n κ < 6 \/ 6 + t <= τ.at t n κ);omega
  · show 1 <= τ.at t n κ /\ (τ.at t n κ < 6 \/ 6 + t <= τ.at t n κ);omega
 | count x G a i=>show 1 <= 6 + t + n * 2 + i * 3 + 1 /\ (6 + t + n * 2 + i * 3 + 1 < 6 \/ 6 + t <= 6 + t + n * 2 + i * 3 + 1);omega
 | head x G a i=>have:=g.2.2.2.2.1;show 1 <= a /\ (a < 6 \/ 6 + t <= a);omega
 | shw x G a i=>show 1 <= 6 + t + x * 2 /\ (6 + t + x * 2 < 6 \/ 6 + t <= 6 + t + x * 2);omega
 | ready x G a i st=>have:=g.2.2.2.2.1;show 1 <= a /\ (a < 6 \/ 6 + t <= a);omega
 | give x G γ =>
  rcases Gv.at_in (t:=t) g.1 γ with e | ⟨y,hy,e⟩
  · show 1 <= γ.at t x /\ (γ.at t x < 6 \/ 6 + t <= γ.at t x);omega
  · show 1 <= γ.at t x /\ (γ.at t x < 6 \/ 6 + t <= γ.at t x);omega
theorem Hp.away {x : Nat} {η : Hp} (g : η.good t n k m) (ho : η.over? = false) : 6 + t <= η.at t x:=by
 cases η with
 | over=>cases ho
 | go v Z j u =>
  obtain ⟨⟨i,O⟩,-⟩:=g
  have:=O.inn
  show 6 + t <= if Z <= j then 6 + t + x * 2 else adOf v + 1 + j
  split <;> omega
theorem Dp.away {x G : Nat} {α : Dp} (hx : x < n) (g : α.good t n k m x G q) (ho : α.over? = false) : 1 <= α.at t n x /\ (α.at t n x < 6 \/ 6 + t <= α.at t n x):=by
 cases α with
 | over=>cases ho
 | see=>show 1 <= 6 + t + x * 2 /\ (6 + t + x * 2 < 6 \/ 6 + t <= 6 + t + x * 2);omega
 | ask v=>obtain ⟨i,O⟩:=g;have:=O.inn;show 1 <= adOf v /\ (adOf v < 6 \/ 6 + t <= adOf v);omega
 | mark v Z=>show 1 <= 6 + t + x * 2 /\ (6 + t + x * 2 < 6 \/ 6 + t <= 6 + t + x * 2);omega
 | help η=>have:=Hp.away (x:=x) g.1 g.2;show 1 <= η.at t x /\ (η.at t x < 6 \/ 6 + t <= η.at t x);omega
 | fin Z i η=>have:=Hp.away (x:=x) g.1 g.2;show 1 <= η.at t x /\ (η.at t x < 6 \/ 6 + t <= η.at t x);omega
 | count Z i=>show 1 <= 6 + t + n * 2 + i * 3 + 1 /\ (6 + t + n * 2 + i * 3 + 1 < 6 \/ 6 + t <= 6 + t + n * 2 + i * 3 + 1);omega
 | give γ =>
  rcases Gv.at_in (t:=t) hx γ with e | ⟨y,hy,e⟩
  · show 1 <= γ.at t x /\ (γ.at t x < 6 \/ 6 + t <= γ.at t x);omega
  · show 1 <= γ.at t x /\ (γ.at t x < 6 \/ 6 + t <= γ.at t x);omega
theorem Ac.away {W : Wt} {x G : Nat} {α : Ac} (g : α.good t n k m W x G q) (ho : α.over? = false) : 6 + t <= α.at t x W:=by
 cases α with
 | over=>cases ho
 | see=>show 6 + t <= 6 + t + x * 2;omega
 | ask v=>obtain ⟨i,O⟩:=g;have:=O.inn;show 6 + t <= adOf v;omega
 | load v Z=>obtain ⟨⟨i,O⟩,-⟩:=g;have:=O.inn;show 6 + t <= adOf v + 1 + W.ix.toNat;omega
 | check v c ld=>show 6 + t <= 6 + t + x * 2;omega
 | stop v=>show 6 + t <= 6 + t + x * 2;omega
 | lay v c=>obtain ⟨⟨Z,i,O,-⟩,-⟩:=g;have:=O.inn;show 6 + t <= adOf v + 1 + W.ix.toNat;omega
end
def TlI (σ0 σ : Nat) (St : Int) : Dp -> Prop
 | .count _ _=>(σ0 : Int) < St /\ St <= (σ : Int)
 | .give _=>(σ0 : Int) < St /\ St <= (σ : Int)
 | .over E=>(σ0 : Int) <= St /\ St <= (σ : Int) /\ (E = 0 -> (σ0 : Int) < St)
 | _=>True
theorem tl_next {t n k m σ0 σ : Nat} {s s' : Mm} {q q' : Q} {who cg : Int} {own : Bool} {x G : Nat} {α α' : Dp} {a a' : DV} (hx : x < n) (hT : Town t n k m s σ q) (hT' : Town t n k m s' (σ + 1) q') (hs : ∃ v,s' = (s.by who).step (α.at t n x) v) (ht : dpTurn t n k m cg own x G q α = (q',α')) (ho : α.over? = false) (hb : σ < 1000000) (h0 : σ0 <= σ) (hw : ∀ Z i η,α = .fin Z i η -> α' = .count Z i -> q'.sw x ≠ q.sw x) (hl : Tl t x σ s' a a' α α') (h : TlI σ0 σ a.St α) : TlI σ0 (σ + 1) a'.St α':=by
 cases α with
 | over=>cases ho
 | see =>
  obtain ⟨-,hα⟩:=Prod.mk.inj ht
  split at hα <;> subst hα
  · trivial
  · have e : a'.St = ((σ + 1 : Nat) : Int):=hl
    exact ⟨by omega,by omega,fun _=>by omega⟩
 | ask v =>
  obtain ⟨-,hα⟩:=Prod.mk.inj ht
  unfold dpAsk at hα
  split at hα
  · split at hα <;> (subst hα;trivial)
  · subst hα
    have e : a'.St = ((σ + 1 : Nat) : Int):=hl
    exact ⟨by omega,by omega,fun _=>by omega⟩
 | mark v Z =>
  simp only [dpTurn] at ht
  split at ht <;> (obtain ⟨-,rfl⟩:=Prod.mk.inj ht;trivial)
 | help η =>
  obtain ⟨q1,η1,h1⟩ : ∃ q1 η1,hpTurn cg x q η = (q1,η1):=⟨_,_,rfl⟩
  simp only [dpTurn,h1] at ht
  cases η1 <;> (simp only [dpHelp] at ht;obtain ⟨-,rfl⟩:=Prod.mk.inj ht;trivial)
 | fin Z i η =>
  obtain ⟨q1,η1,h1⟩ : ∃ q1 η1,hpTurn cg x q η = (q1,η1):=⟨_,_,rfl⟩
  simp only [dpTurn,h1] at ht
  cases η1 with
  | go=>simp only [dpFin] at ht;obtain ⟨-,rfl⟩:=Prod.mk.inj ht;trivial
  | over wn =>
   simp only [dpFin] at ht
   obtain ⟨rfl,rfl⟩:=Prod.mk.inj ht
   have hne:=hw Z i η rfl rfl
   have hSt : a'.St = s'.wn (6 + t + x * 2):=hl
   obtain ⟨v,hv⟩:=hs
   have d1:=hT.swv x hx
   have d2:=hT'.swv x hx
   have d3 : s'.wd (6 + t + x * 2) ≠ s.wd (6 + t + x * 2):=by rw [d1,d2];exact hne
   have hat : (Dp.fin Z i η).at t n x = 6 + t + x * 2:=by
    by_cases e : (Dp.fin Z i η).at t n x = 6 + t + x * 2
    · exact e
    · exfalso
      apply d3
      rw [hv]
      show upd s.wd _ v (6 + t + x * 2) = _
      rw [upd_other _ _ _ _ (fun h=>e h.symm)]
   rw [hat] at hv
   have hvw : s'.wd (6 + t + x * 2) = v:=by rw [hv];exact upd_same _ _ _
   have hwn : s'.wn (6 + t + x * 2) = wrap64 (s.steps + 1):=by
    rw [hv]
    show (if s.wd (6 + t + x * 2) = v then s.wn else upd s.wn (6 + t + x * 2) (wrap64 (s.steps + 1))) (6 + t + x * 2) = _
    rw [if_neg (fun h=>d3 (by rw [hvw,h])),upd_same]
   have hst : wrap64 (s.steps + 1) = ((σ + 1 : Nat) : Int):=by rw [hT.pile.st];exact hT.pile.wrapS hb
   show (σ0 : Int) < a'.St /\ a'.St <= ((σ + 1 : Nat) : Int)
   rw [hSt,hwn,hst]
   omega
 | count Z i =>
  have hSt : a'.St = a.St:=hl
  have h' : (σ0 : Int) < a.St /\ a.St <= (σ : Int):=h
  have key : (σ0 : Int) < a'.St /\ a'.St <= ((σ + 1 : Nat) : Int):=by rw [hSt];omega
  obtain ⟨-,hα⟩:=Prod.mk.inj ht
  split at hα <;> subst hα
  · exact ⟨by omega,key.2,fun _=>key.1⟩
  · exact key
 | give γ =>
  have hSt : a'.St = a.St:=hl
  have h' : (σ0 : Int) < a.St /\ a.St <= (σ : Int):=h
  have key : (σ0 : Int) < a'.St /\ a'.St <= ((σ + 1 : Nat) : Int):=by rw [hSt];omega
  obtain ⟨c',lk',F',γ',h1⟩ : ∃ c' lk' F' γ',gvTurn q.c q.lk q.F x γ = (c',lk',F',γ'):=⟨_,_,_,_,rfl⟩
  simp only [dpTurn,h1] at ht
  cases γ' <;> (simp only [dpGive] at ht;obtain ⟨-,rfl⟩:=Prod.mk.inj ht;first | exact key | exact ⟨Int.le_of_lt key.1,key.2,fun _=>key.1⟩)
inductive Dw where
 | al (z : Int) (own : Bool) (κ : Nat) (α : Al)
 | dp (nu : Int) (own : Bool) (x G : Nat) (α : Dp)
 | ac (W : Wt) (own : Bool) (x G : Nat) (α : Ac)
 | bad (c : Nat) (E : Int)
 | fin (c : Nat) (E : Int) (st : Nat)
def Dw.over? : Dw -> Bool
 | .al _ _ _ α=>α.over?
 | .dp _ _ _ _ α=>α.over?
 | .ac _ _ _ _ α=>α.over?
 | .bad _ _=>false
 | .fin _ _ _=>true
def Dw.c : Dw -> Nat
 | .al _ _ _ _=>0
 | .dp _ _ _ _ _=>1
 | .ac _ _ _ _ _=>2
 | .bad c _=>c
 | .fin c _ _=>c
def Dw.cost : Dw -> Nat
 | .bad _ _=>0
 | .fin _ _ _=>0
 | _=>1
def tyC : Nat -> TypeId
 | 0=>88
 | 1=>90
 | _=>113
def fS : Nat -> FuncId
 | 0=>70
 | 1=>116
 | _=>142
def fD : Nat -> FuncId
 | 0=>69
 | 1=>115
 | _=>141
def dwTurn (t n k m : Nat) (cg : Int) (σ : Nat) (q : Q) : Dw -> Q × Dw
 | .al z own κ α=>((alTurn t n k m κ z own σ q α).1,.al z own κ (alTurn t n k m κ z own σ q α).2)
 | .dp nu own x G α=>((dpTurn t n k m cg own x G q α).1,.dp nu own x G (dpTurn t n k m cg own x G q α).2)
 | .ac W own x G α=>((acTurn W own x G σ q α).1,.ac W own x G (acTurn W own x G σ q α).2)
 | .bad c E=>(q,.fin c E σ)
 | .fin c E st=>(q,.fin c E st)
def Dw.need (t n k m : Nat) (cg : Int) (q : Q) : Dw -> Prop
 | .dp _ own x G α=>α.good t n k m x G q /\ ∀ Z i η,α = .fin Z i η -> (dpTurn t n k m cg own x G q α).2 = .count Z i -> (dpTurn t n k m cg own x G q α).1.sw x ≠ q.sw x
 | .ac W _ x G α=>α.good t n k m W x G q
 | _=>True
def NoHand (n : Nat) (nu : Int) : Prop:=Wd nu /\ ((nu < 65536 \/ 4294967296 <= nu) \/ ∃ (x : Nat) (G : Int),HandIs nu x G /\ n <= x)
def DwAt (t n k m : Nat) (w : World) (b σ0 σ : Nat) (q : Q) : Dw -> Prop
 | .al z own κ α=>Fit z /\ classOf z = κ /\ κ < 4 /\ α.good t n k m κ σ q /\ ∃ cs a,AlAt w b 0 108 cs a /\ AlIs z own κ α a
 | .dp nu own x G α=>HandIs nu x G /\ x < n /\ ∃ cs a,DpAt w b 0 112 cs a /\ DpIs t n k m nu own x α a /\ TlI σ0 σ a.St α
 | .ac W own x G α=>HandIs W.nu x G /\ x < n /\ W.ok /\ ∃ cs a,AcAt w b 0 119 cs a /\ AcIs W own α a
 | .bad c E=>(c = 0 /\ E = 5 /\ ∃ z own cs,classOf z < 0 /\ AlAt w b 0 108 cs (av0 z own)) \/ (c = 1 /\ E = 3 /\ ∃ nu own cs,NoHand n nu /\ DpAt w b 0 112 cs (dv0 nu own)) \/ (c = 2 /\ E = 3 /\ ∃ (W : Wt) (own : Bool) (cs : Array Value),(W.kd = 1 \/ W.kd = 2 \/ W.kd = 3) /\ NoHand n W.nu /\ AcAt w b 0 119 cs (cv0 W.kd W.nu W.ix W.vl W.ol own))
 | .fin c E st=>(c = 0 /\ ∃ cs a,AlAt w b 0 108 cs a /\ a.nx = 8 /\ a.E = E /\ a.H = 0 /\ a.V = 0 /\ a.St = st) \/ (c = 1 /\ ∃ cs a,DpAt w b 0 112 cs a /\ a.nx = 7 /\ a.E = E /\ a.H = 0 /\ a.V = 0 /\ a.St = st) \/ (c = 2 /\ ∃ cs a,AcAt w b 0 119 cs a /\ a.E = E /\ a.H = 0 /\ a.V = 0 /\ a.St = st)
theorem DwAt.of_block {t n k m : Nat} {w w' : World} {b σ0 σ : Nat} {q : Q} {δ : Dw} (h : DwAt t n k m w b σ0 σ q δ) (e : w'.heap[b]? = w.heap[b]?) : DwAt t n k m w' b σ0 σ q δ:=by
 cases δ with
 | al z own κ α=>obtain ⟨h1,h2,h3,h4,cs,a,h5,h6⟩:=h;exact ⟨h1,h2,h3,h4,cs,a,h5.of_block e,h6⟩
 | dp nu own x G α=>obtain ⟨h1,h2,cs,a,h5,h6⟩:=h;exact ⟨h1,h2,cs,a,h5.of_block e,h6⟩
 | ac W own x G α=>obtain ⟨h1,h2,h3,cs,a,h5,h6⟩:=h;exact ⟨h1,h2,h3,cs,a,h5.of_block e,h6⟩
 | bad c E =>
  rcases h with ⟨h1,h2,z,own,cs,h3,h4⟩ | ⟨h1,h2,z,own,cs,h3,h4⟩ | ⟨h1,h2,z,own,cs,h3,h4,h5⟩
  · exact Or.inl ⟨h1,h2,z,own,cs,h3,h4.of_block e⟩
  · exact Or.inr (Or.inl ⟨h1,h2,z,own,cs,h3,h4.of_block e⟩)
  · exact Or.inr (Or.inr ⟨h1,h2,z,own,cs,h3,h4,h5.of_block e⟩)
 | fin c E st =>
  rcases h with ⟨h1,cs,a,h3,h4⟩ | ⟨h1,cs,a,h3,h4⟩ | ⟨h1,cs,a,h3,h4⟩
  · exact Or.inl ⟨h1,cs,a,h3.of_block e,h4⟩
  · exact Or.inr (Or.inl ⟨h1,cs,a,h3.of_block e,h4⟩)
  · exact Or.inr (Or.inr ⟨h1,cs,a,h3.of_block e,h4⟩)
theorem DwAt.lt {t n k m : Nat} {w : World} {b σ0 σ : Nat} {q : Q} {δ : Dw} (h : DwAt t n k m w b σ0 σ q δ) : b < w.heap.size:=by
 cases δ with
 | al z own κ α=>obtain ⟨h1,h2,h3,h4,cs,a,h5,h6⟩:=h;exact h5.lt
 | dp nu own x G α=>obtain ⟨h1,h2,cs,a,h5,h6⟩:=h;exact h5.lt
 | ac W own x G α=>obtain ⟨h1,h2,h3,cs,a,h5,h6⟩:=h;exact h5.lt
 | bad c E =>
  rcases h with ⟨h1,h2,z,own,cs,h3,h4⟩ | ⟨h1,h2,z,own,cs,h3,h4⟩ | ⟨h1,h2,z,own,cs,h3,h4,h5⟩
  · exact h4.lt
  · exact h4.lt
  · exact h5.lt
 | fin c E st =>
  rcases h with ⟨h1,cs,a,h3,h4⟩ | ⟨h1,cs,a,h3,h4⟩ | ⟨h1,cs,a,h3,h4⟩ <;> exact h3.lt
section
variable {w : World} {L : Loc} {s : Mm} {b t n k m σ0 σ : Nat} {g p r : Int} {q : Q} {pn : Nat -> Int}
theorem dw_step (h : MemAt w L s) (hb : ¬ L.has b) (hV : Vil t n k m s σ q pn) (hG : Good t n k m g p r) (hσ : σ < 1000000) (h0 : σ0 <= σ) (hdw : ∀ a,Wd (q.dw a)) (δ : Dw) (hi : DwAt t n k m w b σ0 σ q δ) (hn : δ.need t n k m g q) (ho : δ.over? = false) (who : Int) (q' : Q) (δ' : Dw) (hq : dwTurn t n k m g σ q δ = (q',δ')) :
 Calls Tryz.prog (fS δ.c) #[.pointer (some ⟨b,0,none⟩),.agg #[.int .i64 t,.int .i64 n,.int .i64 k,.int .i64 m,.int .i64 g,.int .i64 p,.int .i64 r,.pointer (some ⟨L.p,0,none⟩),.int .i64 who]] w fun e w'=>e = .returned (.bool δ'.over?) /\ ∃ s',MemAt w' L s' /\ Vil t n k m s' (σ + δ.cost) q' pn /\ DwAt t n k m w' b σ0 (σ + δ.cost) q' δ' /\ Only (L.and b) w w':=by
 have hT:=hV.tw
 cases δ with
 | al z own κ α =>
  obtain ⟨fz,hz,hκ,gd,cs,a,ia,is1⟩:=hi
  obtain ⟨rfl,rfl⟩:=Prod.mk.inj hq
  refine (alloc_step h hb hT hG hσ fz hz hκ α ia is1 gd ho who _ _ rfl _ rfl).mono ?_
  rintro e w' ⟨rfl,s',cs',a',P⟩
  have aw:=Al.away hκ gd ho
  exact ⟨rfl,s',P.mm,hV.on P.tw P.st aw.1 aw.2,⟨fz,hz,hκ,P.good,cs',a',P.al,P.is⟩,P.only⟩
 | dp nu own x G α =>
  obtain ⟨hh,hx,cs,a,ia,is1,tl⟩:=hi
  obtain ⟨rfl,rfl⟩:=Prod.mk.inj hq
  refine (drop_step h hb hT hG hσ hdw hh hx α ia is1 hn.1 ho who _ _ rfl _ rfl).mono ?_
  rintro e w' ⟨rfl,s',cs',a',P⟩
  have aw:=Dp.away hx hn.1 ho
  exact ⟨rfl,s',P.mm,hV.on P.tw P.st aw.1 aw.2,⟨hh,hx,cs',a',P.dp,P.is,tl_next hx hT P.tw P.st rfl ho hσ h0 hn.2 P.tl tl⟩,P.only⟩
 | ac W own x G α =>
  obtain ⟨hh,hx,hW,cs,a,ia,is1⟩:=hi
  obtain ⟨rfl,rfl⟩:=Prod.mk.inj hq
  refine (access_step h hb hT hG hσ hdw hh hx hW α ia is1 hn ho who _ _ rfl _ rfl).mono ?_
  rintro e w' ⟨rfl,s',cs',a',P⟩
  have aw:=Ac.away hn ho
  exact ⟨rfl,s',P.mm,hV.on P.tw P.st (by omega) (Or.inr aw),⟨hh,hx,hW,cs',a',P.ac,P.is⟩,P.only⟩
 | bad c E =>
  obtain ⟨rfl,rfl⟩:=Prod.mk.inj hq
  have hst:=hT.pile.st
  have hlen : arenaLen t n k m <= s.n:=by rw [hT.len];exact Nat.le_refl _
  rcases hi with ⟨rfl,rfl,z,own,cs,hz,ia⟩ | ⟨rfl,rfl,nu,own,cs,hnu,ia⟩ | ⟨rfl,rfl,W,own,cs,hk,hnu,ia⟩
  · refine (astep_take (g:=g) (p:=p) (r:=r) (t:=t) (n:=n) (k:=k) (m:=m) h ia who rfl (fun s' a'=>s' = s /\ a' = { av0 z own with nx:=8,E:=5,H:=0,V:=0,St:=σ }) true (by rintro s' a' ⟨-,rfl⟩;rfl) (fun w1 m1 i1=>atake_bad m1 hb i1 who hz σ hst)).mono ?_
    rintro e w' ⟨rfl,s2,cs2,a2,m2,o2,i2,q2,rfl,rfl⟩
    exact ⟨rfl,_,m2,hV,Or.inl ⟨rfl,cs2,_,i2,rfl,rfl,rfl,rfl,rfl⟩,o2⟩
  · rcases hnu.2 with hnn | ⟨x,G,hh,hx⟩
    · refine (dstep_none h hb ia who hnu.1.1 hnu.1.2 hnn rfl hst).mono ?_
      rintro e w' ⟨rfl,s2,cs2,a2,m2,o2,i2,q2,rfl,rfl⟩
      exact ⟨rfl,_,m2,hV,Or.inr (Or.inl ⟨rfl,cs2,_,i2,rfl,rfl,rfl,rfl,rfl⟩),o2⟩
    · refine (dstep_out h ia who hG hlen hh hb hx rfl hst).mono ?_
      rintro e w' ⟨rfl,s2,cs2,a2,m2,o2,i2,q2,rfl,rfl⟩
      exact ⟨rfl,_,m2,hV,Or.inr (Or.inl ⟨rfl,cs2,_,i2,rfl,rfl,rfl,rfl,rfl⟩),o2⟩
  · rcases hnu.2 with hnn | ⟨x,G,hh,hx⟩
    · refine (acstep_none h ia who hk hb hnu.1.1 hnu.1.2 hnn (by show ¬ (0 : Int) = 7;decide) hst).mono ?_
      rintro e w' ⟨rfl,s2,cs2,a2,m2,o2,i2,q2,rfl,rfl⟩
      exact ⟨rfl,_,m2,hV,Or.inr (Or.inr ⟨rfl,cs2,_,i2,rfl,rfl,rfl,rfl⟩),o2⟩
    · refine (acstep_out h ia who hk hG hlen hh hb hx (by show ¬ (0 : Int) = 7;decide) hst).mono ?_
      rintro e w' ⟨rfl,s2,cs2,a2,m2,o2,i2,q2,rfl,rfl⟩
      exact ⟨rfl,_,m2,hV,Or.inr (Or.inr ⟨rfl,cs2,_,i2,rfl,rfl,rfl,rfl⟩),o2⟩
 | fin c E st=>cases ho
end
def Dw.told (σ0 σ : Nat) (E H V St : Int) : Dw -> Prop
 | .al _ _ _ (.over E' H' st)=>E = E' /\ H = H' /\ V = 0 /\ St = st
 | .dp _ _ _ _ (.over E')=>E = E' /\ H = 0 /\ V = 0 /\ (σ0 : Int) <= St /\ St <= (σ : Int) /\ (E' = 0 -> (σ0 : Int) < St)
 | .ac _ _ _ _ (.over E' v st)=>E = E' /\ H = 0 /\ V = v /\ St = st
 | .fin _ E' st=>E = E' /\ H = 0 /\ V = 0 /\ St = st
 | _=>False
theorem dw_done {t n k m : Nat} {w : World} {b σ0 σ : Nat} {q : Q} {δ : Dw} (h : DwAt t n k m w b σ0 σ q δ) (ho : δ.over? = true) : ∃ E H V St,δ.told σ0 σ E H V St /\ ∀ w1,Below w.heap.size w w1 -> Calls Tryz.prog (fD δ.c) #[.pointer (some ⟨b,0,none⟩)] w1 fun e w'=>e = .returned (.agg #[.int .i64 E,.int .u64 H,.int .i64 V,.int .i64 St]) /\ Below w1.heap.size w1 w':=by
 cases δ with
 | al z own κ α =>
  obtain ⟨h1,h2,h3,h4,cs,a,h5,h6⟩:=h
  cases α with
  | over E H st =>
   have:=h6.nx
   exact ⟨_,_,_,_,⟨h6.cm.1,h6.cm.2.1,h6.cm.2.2.1,h6.cm.2.2.2⟩,fun w1 g=>adone_over (h5.grown g) this⟩
  | _=>cases ho
 | dp nu own x G α =>
  obtain ⟨h1,h2,cs,a,h5,h6,h7⟩:=h
  cases α with
  | over E =>
   have:=h6.nx
   exact ⟨_,_,_,_,⟨h6.E,h6.H,h6.V,h7⟩,fun w1 g=>ddone_over (h5.grown g) this⟩
  | _=>cases ho
 | ac W own x G α =>
  obtain ⟨h1,h2,h3,cs,a,h5,h6⟩:=h
  cases α with
  | over E v st=>exact ⟨_,_,_,_,⟨h6.sec.1,h6.sec.2.1,h6.sec.2.2.1,h6.sec.2.2.2⟩,fun w1 g=>adone_any (h5.grown g)⟩
  | _=>cases ho
 | bad c E=>cases ho
 | fin c E st =>
  rcases h with ⟨rfl,cs,a,h3,h4,h5⟩ | ⟨rfl,cs,a,h3,h4,h5⟩ | ⟨rfl,cs,a,h3,h5⟩
  · exact ⟨_,_,_,_,h5,fun w1 g=>adone_over (h3.grown g) h4⟩
  · exact ⟨_,_,_,_,h5,fun w1 g=>ddone_over (h3.grown g) h4⟩
  · exact ⟨_,_,_,_,h5,fun w1 g=>adone_any (h3.grown g)⟩
end Go.Proofs.YtlolfmoolgenpaaGreat

namespace Go.Proofs.YtlolfmoolgenpaaGreat
open Go.RowKit
structure As where
 σ : Nat
 q : Q
 pn : Nat -> Int
 ph : Nat
 δ : Dw
def asTurn (t n k m : Nat) (cg : Int) (who : Nat) (A : As) : As :=
 match A.ph with
 | 0=>{ A with σ:=A.σ + 1,ph:=1 }
 | 1=>{ A with σ:=A.σ + 1,pn:=upd A.pn who 1,ph:=2 }
 | 2=>{ A with σ:=A.σ + 1,ph:=3 }
 | 3=>{ A with σ:=A.σ + A.δ.cost,q:=(dwTurn t n k m cg A.σ A.q A.δ).1,ph:=if (dwTurn t n k m cg A.σ A.q A.δ).2.over? then 4 else 3,δ:=(dwTurn t n k m cg A.σ A.q A.δ).2 }
 | 4=>{ A with σ:=A.σ + 1,pn:=upd A.pn who 0,ph:=5 }
 | _=>A
structure Bk where
 A : Nat
 S : Nat
 I : Nat
 b : Nat
def Bk.has (B : Bk) (x : Nat) : Prop:=x = B.A \/ x = B.S \/ x = B.I \/ x = B.b
structure ThAt (t n k m : Nat) (w : World) (L : Loc) (B : Bk) (σ0 : Nat) (A : As) : Prop where
 at_ : ActAt w B.A B.S B.I B.b (tyC A.δ.c) (A.ph - 2)
 pin : A.ph <= 2 -> ∃ c,InAt w B.I 0 66 c A.ph 0
 dw : DwAt t n k m w B.b σ0 A.σ A.q A.δ
 ov : A.δ.over? = decide (4 <= A.ph)
 p5 : A.ph <= 5
 s0 : σ0 <= A.σ
 nl : ∀ x,B.has x -> ¬ L.has x
def LB (L : Loc) (B : Bk) (x : Nat) : Prop:=L.has x \/ B.has x
theorem ActAt.block {w w' : World} {bA bS bI b : Nat} {T : TypeId} {i : Nat} (h : ActAt w bA bS bI b T i) (e1 : w'.heap[bA]? = w.heap[bA]?) (e2 : w'.heap[bS]? = w.heap[bS]?) : ActAt w' bA bS bI b T i :=
 ⟨h.a.imp fun _ k=>k.of_block e1,h.l.imp fun _ k=>k.of_block e2,h.h1,h.h2,h.h3,h.h4,h.h5,h.h6⟩
theorem Pl.good_le {k m κ σ σ' : Nat} {τ : Pl} (h : τ.good k m κ σ) (hs : σ <= σ') : τ.good k m κ σ':=by
 cases τ with
 | grow i c=>exact ⟨h.1,h.2.1.up hs,h.2.2⟩
 | take sn i c=>exact ⟨h.1,h.2.1,h.2.2.1.up hs,h.2.2.2⟩
 | opn sn i c=>exact ⟨h.1,h.2.1,h.2.2.1.up hs,h.2.2.2⟩
 | fre sn i c=>exact ⟨h.1,h.2.1,h.2.2.1.up hs,h.2.2.2⟩
 | _=>exact h
theorem DwAt.later {t n k m : Nat} {w : World} {b σ0 σ σ' : Nat} {q : Q} {δ : Dw} (h : DwAt t n k m w b σ0 σ q δ) (hs : σ <= σ') : DwAt t n k m w b σ0 σ' q δ:=by
 cases δ with
 | al z own κ α =>
  obtain ⟨h1,h2,h3,h4,h5⟩:=h
  refine ⟨h1,h2,h3,?_,h5⟩
  cases α with
  | place x G τ=>exact ⟨h4.1,h4.2.1,h4.2.2.1,Pl.good_le h4.2.2.2.1 hs,h4.2.2.2.2⟩
  | _=>exact h4
 | dp nu own x G α =>
  obtain ⟨h1,h2,cs,a,h5,h6,h7⟩:=h
  refine ⟨h1,h2,cs,a,h5,h6,?_⟩
  cases α with
  | count=>exact ⟨h7.1,Int.le_trans h7.2 (by omega)⟩
  | give=>exact ⟨h7.1,Int.le_trans h7.2 (by omega)⟩
  | over=>exact ⟨h7.1,Int.le_trans h7.2.1 (by omega),h7.2.2⟩
  | _=>exact h7
 | ac W own x G α=>exact h
 | bad c E=>exact h
 | fin c E st=>exact h
theorem meth_in (b : Nat) (w : World) : (method 292 64 (.pointer (some ⟨b,0,none⟩)) "Step").run Tryz.prog w = .ok (61,.pointer (some ⟨b,0,none⟩)) w:=by kernel_rfl
theorem meth_out (w : World) : (method 292 68 (.agg #[]) "Step").run Tryz.prog w = .ok (68,.agg #[]) w:=by kernel_rfl
theorem meth_s (c b : Nat) (w : World) : (method 292 (tyC c) (.pointer (some ⟨b,0,none⟩)) "Step").run Tryz.prog w = .ok ((fS c),.pointer (some ⟨b,0,none⟩)) w:=by
 match c with
 | 0 =>
  have h : (method 292 88 (.pointer (some ⟨b,0,none⟩)) "Step").run Tryz.prog w = .ok (70,.pointer (some ⟨b,0,none⟩)) w:=by kernel_rfl
  exact h
 | 1 =>
  have h : (method 292 90 (.pointer (some ⟨b,0,none⟩)) "Step").run Tryz.prog w = .ok (116,.pointer (some ⟨b,0,none⟩)) w:=by kernel_rfl
  exact h
 | _ + 2 =>
  have h : (method 292 113 (.pointer (some ⟨b,0,none⟩)) "Step").run Tryz.prog w = .ok (142,.pointer (some ⟨b,0,none⟩)) w:=by kernel_rfl
  exact h
theorem meth_d (c b : Nat) (w : World) : (method 292 (tyC c) (.pointer (some ⟨b,0,none⟩)) "Done").run Tryz.prog w = .ok ((fD c),.pointer (some ⟨b,0,none⟩)) w:=by
 match c with
 | 0 =>
  have h : (method 292 88 (.pointer (some ⟨b,0,none⟩)) "Done").run Tryz.prog w = .ok (69,.pointer (some ⟨b,0,none⟩)) w:=by kernel_rfl
  exact h
 | 1 =>
  have h : (method 292 90 (.pointer (some ⟨b,0,none⟩)) "Done").run Tryz.prog w = .ok (115,.pointer (some ⟨b,0,none⟩)) w:=by kernel_rfl
  exact h
 | _ + 2 =>
  have h : (method 292 113 (.pointer (some ⟨b,0,none⟩)) "Done").run Tryz.prog w = .ok (141,.pointer (some ⟨b,0,none⟩)) w:=by kernel_rfl
  exact h
theorem ent_in (args : Array Value) (w : World) : (callFunc 61 args).run Tryz.prog w = .ok (.enter 61 args) w:=by kernel_rfl
theorem ent_out (args : Array Value) (w : World) : (callFunc 68 args).run Tryz.prog w = .ok (.enter 68 args) w:=by kernel_rfl
theorem ent_s (c : Nat) (args : Array Value) (w : World) : (callFunc (fS c) args).run Tryz.prog w = .ok (.enter (fS c) args) w:=by
 match c with
 | 0 =>
  have h : (callFunc 70 args).run Tryz.prog w = .ok (.enter 70 args) w:=by kernel_rfl
  exact h
 | 1 =>
  have h : (callFunc 116 args).run Tryz.prog w = .ok (.enter 116 args) w:=by kernel_rfl
  exact h
 | _ + 2 =>
  have h : (callFunc 142 args).run Tryz.prog w = .ok (.enter 142 args) w:=by kernel_rfl
  exact h
theorem ent_d (c : Nat) (args : Array Value) (w : World) : (callFunc (fD c) args).run Tryz.prog w = .ok (.enter (fD c) args) w:=by
 match c with
 | 0 =>
  have h : (callFunc 69 args).run Tryz.prog w = .ok (.enter 69 args) w:=by kernel_rfl
  exact h
 | 1 =>
  have h : (callFunc 115 args).run Tryz.prog w = .ok (.enter 115 args) w:=by kernel_rfl
  exact h
 | _ + 2 =>
  have h : (callFunc 141 args).run Tryz.prog w = .ok (.enter 141 args) w:=by kernel_rfl
  exact h
theorem eql_d (c b : Nat) (w : World) : (binOp .eql 62 (.iface (tyC c) (.pointer (some ⟨b,0,none⟩))) .nilIface).run Tryz.prog w = .ok (.bool false) w:=by
 match c with
 | 0 =>
  have h : (binOp .eql 62 (.iface 88 (.pointer (some ⟨b,0,none⟩))) .nilIface).run Tryz.prog w = .ok (.bool false) w:=by kernel_rfl
  exact h
 | 1 =>
  have h : (binOp .eql 62 (.iface 90 (.pointer (some ⟨b,0,none⟩))) .nilIface).run Tryz.prog w = .ok (.bool false) w:=by kernel_rfl
  exact h
 | _ + 2 =>
  have h : (binOp .eql 62 (.iface 113 (.pointer (some ⟨b,0,none⟩))) .nilIface).run Tryz.prog w = .ok (.bool false) w:=by kernel_rfl
  exact h
theorem dwTurn_c {t n k m : Nat} {g : Int} {σ : Nat} {q q' : Q} {δ δ' : Dw} (h : dwTurn t n k m g σ q δ = (q',δ')) : δ'.c = δ.c:=by
 cases δ <;> (obtain ⟨-,rfl⟩:=Prod.mk.inj h;rfl)
theorem ActAt.next {w : World} {bA bS bI b : Nat} {T : TypeId} {i : Nat} (h : ActAt w bA bS bI b T i) : ActAt (w.setCell ⟨bA,1,none⟩ (.slice (some ⟨bS,min (i + 1) 2,none⟩) (2 - i) (2 - i))) bA bS bI b T (i + 1):=by
 obtain ⟨c,ka⟩:=h.a
 obtain ⟨c',kl⟩:=h.l
 have:=ka.put0 1 (.slice (some ⟨bS,min (i + 1) 2,none⟩) (2 - i) (2 - i))
 have hk : 3 - (i + 1) = 2 - i:=by omega
 refine ⟨⟨c.setIfInBounds 1 (.slice (some ⟨bS,min (i + 1) 2,none⟩) (2 - i) (2 - i)),?_⟩,⟨c',kl.other (Ne.symm h.h1) _ _⟩,h.h1,h.h2,h.h3,h.h4,h.h5,h.h6⟩
 rw [hk]
 exact this
section
variable {w : World} {L : Loc} {s : Mm} {B : Bk} {t n k m σ0 : Nat} {g p r : Int} {A : As}
theorem act_step (h : MemAt w L s) (hV : Vil t n k m s A.σ A.q A.pn) (hG : Good t n k m g p r) (hσ : A.σ < 1000000) (hdw : ∀ a,Wd (A.q.dw a)) (hA : ThAt t n k m w L B σ0 A) (h5 : A.ph ≠ 5) (hn : A.ph = 3 -> A.δ.need t n k m g A.q) (who : Nat) (hw : who < t) (A' : As) (hq : asTurn t n k m g who A = A') :
 Calls Tryz.prog 18 #[.pointer (some ⟨B.A,0,none⟩),.agg #[.int .i64 t,.int .i64 n,.int .i64 k,.int .i64 m,.int .i64 g,.int .i64 p,.int .i64 r,.pointer (some ⟨L.p,0,none⟩),.int .i64 who]] w fun e w'=>e = .returned (.bool (A'.ph == 5)) /\ ∃ s',MemAt w' L s' /\ Vil t n k m s' A'.σ A'.q A'.pn /\ ThAt t n k m w' L B σ0 A' /\ Only (LB L B) w w':=by
 subst hq
 obtain ⟨σ,q,pn,ph,δ⟩:=A
 have hlen:=hV.tw.len
 have htn : 6 + who < s.n:=by rw [hlen];omega
 have ht8 : (t : Int) <= 8:=by have:=hG.t1;omega
 have hwt : (who : Int) < (t : Int):=by omega
 obtain ⟨hAt,hpin,hdwA,hov,hp5,hs0,hnl⟩:=hA
 simp only at hAt hpin hdwA hov hp5 hs0 hn h5 hσ hdw hV
 have nA:=hnl B.A (Or.inl rfl)
 have nS:=hnl B.S (Or.inr (Or.inl rfl))
 have nI:=hnl B.I (Or.inr (Or.inr (Or.inl rfl)))
 have nb:=hnl B.b (Or.inr (Or.inr (Or.inr rfl)))
 obtain ⟨ca,ka⟩:=hAt.a
 obtain ⟨cl,kl⟩:=hAt.l
 have ia:=ka.lt
 have il:=kl.lt
 have ib:=hdwA.lt
 have oI : ∀ {x y : World},Only (L.and B.I) x y -> Only (LB L B) x y:=fun o=>o.mono fun z _ hz=>hz.elim Or.inl (fun e=>Or.inr (Or.inr (Or.inr (Or.inl e))))
 have ob : ∀ {x y : World},Only (L.and B.b) x y -> Only (LB L B) x y:=fun o=>o.mono fun z _ hz=>hz.elim Or.inl (fun e=>Or.inr (Or.inr (Or.inr (Or.inr e))))
 have oA : ∀ {x y : World} {i : Nat} {v : Value},Only (LB L B) x y -> Only (LB L B) x (y.setCell ⟨B.A,i,none⟩ v):=fun o=>o.setCell (fun _=>Or.inr (Or.inl rfl)) _
 match ph,h5 with
 | 0,_ =>
  obtain ⟨c,hin⟩:=hpin (by omega)
  have hin : InAt w B.I 0 66 c 0 0:=hin
  refine (astep_call (L:=L) hAt (by omega) t n k m g p r who (kl.at0 0 rfl) (meth_in _) ent_in (fun d w1=>d = false /\ ∃ s',MemAt w1 L s' /\ Vil t n k m s' (σ + 1) q pn /\ (∃ c,InAt w1 B.I 0 66 c 1 0) /\ ∃ w0,Below w.heap.size w w0 /\ Only (L.and B.I) w0 w1) (fun w1 g1=>?_)).mono ?_
  · refine (step_pin (h.below g1) nI (hin.grown g1) (Or.inl rfl) t n k m g p r who htn hwt ht8).mono ?_
    rintro e w' ⟨d,s',c',nx',ep',rfl,P,m',i',-,o'⟩
    refine ⟨d,rfl,o'.block _ (Nat.lt_of_lt_of_le ia g1.size) (fun hh=>hh.elim nA hAt.h2),?_⟩
    cases P with
    | load =>
     rw [hV.ep] at m' i'
     have hv1:=hV.look hσ (who : Int)
     rw [hV.ep] at hv1
     exact ⟨rfl,_,m',hv1,⟨c',i'⟩,w1,g1,o'⟩
  · rintro e w' ⟨d,w1,⟨rfl,s',m',v',i',w0,g0,o0⟩,hh⟩
    have ek : ∀ x,x < w.heap.size -> x ≠ B.I -> ¬ L.has x -> w1.heap[x]? = w.heap[x]?:=fun x hx h1 h2=>(o0.block _ (Nat.lt_of_lt_of_le hx g0.size) (fun hh=>hh.elim h2 h1)).trans (g0.block _ hx)
    have ow : Only (LB L B) w w1:=(Only.ofGrown g0).trans (oI o0)
    rcases hh with ⟨-,rfl,rfl⟩ | ⟨e,-⟩
    · exact ⟨rfl,s',m',v',⟨hAt.block (ek _ ia hAt.h2 nA) (ek _ il hAt.h4 nS),fun _=>i',(hdwA.of_block (ek _ ib (Ne.symm hAt.h6) nb)).later (Nat.le_succ _),hov,by show 1 <= 5;omega,by show σ0 <= σ + 1;omega,hnl⟩,ow⟩
    · cases e
 | 1,_ =>
  obtain ⟨c,hin⟩:=hpin (by omega)
  have hin : InAt w B.I 0 66 c 1 0:=hin
  refine (astep_call (L:=L) hAt (by omega) t n k m g p r who (kl.at0 0 rfl) (meth_in _) ent_in (fun d w1=>d = false /\ ∃ s',MemAt w1 L s' /\ Vil t n k m s' (σ + 1) q (upd pn who 1) /\ (∃ c,InAt w1 B.I 0 66 c 2 0) /\ ∃ w0,Below w.heap.size w w0 /\ Only (L.and B.I) w0 w1) (fun w1 g1=>?_)).mono ?_
  · refine (step_pin (h.below g1) nI (hin.grown g1) (Or.inr (Or.inl rfl)) t n k m g p r who htn hwt ht8).mono ?_
    rintro e w' ⟨d,s',c',nx',ep',rfl,P,m',i',-,o'⟩
    refine ⟨d,rfl,o'.block _ (Nat.lt_of_lt_of_le ia g1.size) (fun hh=>hh.elim nA hAt.h2),?_⟩
    cases P with
    | lay=>exact ⟨rfl,_,m',hV.pin hσ (who : Int) hw 1,⟨c',i'⟩,w1,g1,o'⟩
  · rintro e w' ⟨d,w1,⟨rfl,s',m',v',i',w0,g0,o0⟩,hh⟩
    have ek : ∀ x,x < w.heap.size -> x ≠ B.I -> ¬ L.has x -> w1.heap[x]? = w.heap[x]?:=fun x hx h1 h2=>(o0.block _ (Nat.lt_of_lt_of_le hx g0.size) (fun hh=>hh.elim h2 h1)).trans (g0.block _ hx)
    have ow : Only (LB L B) w w1:=(Only.ofGrown g0).trans (oI o0)
    rcases hh with ⟨-,rfl,rfl⟩ | ⟨e,-⟩
    · exact ⟨rfl,s',m',v',⟨hAt.block (ek _ ia hAt.h2 nA) (ek _ il hAt.h4 nS),fun _=>i',(hdwA.of_block (ek _ ib (Ne.symm hAt.h6) nb)).later (Nat.le_succ _),hov,by show 2 <= 5;omega,by show σ0 <= σ + 1;omega,hnl⟩,ow⟩
    · cases e
 | 2,_ =>
  obtain ⟨c,hin⟩:=hpin (by omega)
  have hin : InAt w B.I 0 66 c 2 0:=hin
  refine (astep_call (L:=L) hAt (by omega) t n k m g p r who (kl.at0 0 rfl) (meth_in _) ent_in (fun d w1=>d = true /\ ∃ s',MemAt w1 L s' /\ Vil t n k m s' (σ + 1) q pn /\ True /\ ∃ w0,Below w.heap.size w w0 /\ Only (L.and B.I) w0 w1) (fun w1 g1=>?_)).mono ?_
  · refine (step_pin (h.below g1) nI (hin.grown g1) (Or.inr (Or.inr rfl)) t n k m g p r who htn hwt ht8).mono ?_
    rintro e w' ⟨d,s',c',nx',ep',rfl,P,m',i',-,o'⟩
    refine ⟨d,rfl,o'.block _ (Nat.lt_of_lt_of_le ia g1.size) (fun hh=>hh.elim nA hAt.h2),?_⟩
    obtain ⟨rfl,rfl⟩ : d = true /\ s' = (s.by who).step 0 (s.wd 0):=by
     generalize hE : (0 : Int) = E0 at P
     cases P with
     | same=>exact ⟨rfl,rfl⟩
     | other _ hne=>exact absurd (hV.ep.trans hE) hne
    exact ⟨rfl,_,m',hV.look hσ (who : Int),trivial,w1,g1,o'⟩
  · rintro e w' ⟨d,w1,⟨rfl,s',m',v',i',w0,g0,o0⟩,hh⟩
    have ek : ∀ x,x < w.heap.size -> x ≠ B.I -> ¬ L.has x -> w1.heap[x]? = w.heap[x]?:=fun x hx h1 h2=>(o0.block _ (Nat.lt_of_lt_of_le hx g0.size) (fun hh=>hh.elim h2 h1)).trans (g0.block _ hx)
    have ow : Only (LB L B) w w1:=(Only.ofGrown g0).trans (oI o0)
    rcases hh with ⟨e,-⟩ | ⟨-,rfl,rfl⟩
    · cases e
    · have hA1:=hAt.block (ek _ ia hAt.h2 nA) (ek _ il hAt.h4 nS)
      exact ⟨rfl,s',m'.setIn nA _ _,v',⟨hA1.next,fun h=>absurd h (by show ¬ 3 <= 2;omega),((hdwA.of_block (ek _ ib (Ne.symm hAt.h6) nb)).later (Nat.le_succ _)).of_block (Go.Deep.blk_setCell_other _ _ _ _ (by simpa using (Ne.symm hAt.h3))),hov,by show 3 <= 5;omega,by show σ0 <= σ + 1;omega,hnl⟩,oA ow⟩
 | 3,_ =>
  obtain ⟨q',δ',hq⟩ : ∃ q' δ',dwTurn t n k m g σ q δ = (q',δ'):=⟨_,_,rfl⟩
  have ho : δ.over? = false:=hov
  have hc : δ'.c = δ.c:=dwTurn_c hq
  refine (astep_call (L:=L) hAt (by omega) t n k m g p r who (kl.at0 1 rfl) (meth_s δ.c _) (ent_s δ.c) (fun d w1=>d = δ'.over? /\ ∃ s',MemAt w1 L s' /\ Vil t n k m s' (σ + δ.cost) q' pn /\ DwAt t n k m w1 B.b σ0 (σ + δ.cost) q' δ' /\ ∃ w0,Below w.heap.size w w0 /\ Only (L.and B.b) w0 w1) (fun w1 g1=>?_)).mono ?_
  · refine (dw_step (h.below g1) nb hV hG hσ hs0 hdw δ (hdwA.of_block (g1.block _ ib)) (hn rfl) ho who q' δ' hq).mono ?_
    rintro e w' ⟨rfl,s',m',v',d',o'⟩
    exact ⟨_,rfl,o'.block _ (Nat.lt_of_lt_of_le ia g1.size) (fun hh=>hh.elim nA hAt.h3),rfl,s',m',v',d',w1,g1,o'⟩
  · rintro e w' ⟨d,w1,⟨rfl,s',m',v',d',w0,g0,o0⟩,hh⟩
    have ek : ∀ x,x < w.heap.size -> x ≠ B.b -> ¬ L.has x -> w1.heap[x]? = w.heap[x]?:=fun x hx h1 h2=>(o0.block _ (Nat.lt_of_lt_of_le hx g0.size) (fun hh=>hh.elim h2 h1)).trans (g0.block _ hx)
    have ow : Only (LB L B) w w1:=(Only.ofGrown g0).trans (ob o0)
    have hA1:=hAt.block (ek _ ia hAt.h3 nA) (ek _ il hAt.h5 nS)
    have eT : asTurn t n k m g who ⟨σ,q,pn,3,δ⟩ = ⟨σ + δ.cost,q',pn,if δ'.over? then 4 else 3,δ'⟩:=by
     show As.mk _ _ _ _ _ = _
     rw [hq]
    rw [eT]
    rcases hh with ⟨e,rfl,rfl⟩ | ⟨e,rfl,rfl⟩
    · rw [e,if_neg (by decide)]
      exact ⟨rfl,s',m',v',⟨by rw [hc];exact hA1,fun h=>absurd h (by show ¬ 3 <= 2;omega),d',e,by show 3 <= 5;omega,by show σ0 <= σ + δ.cost;omega,hnl⟩,ow⟩
    · rw [e,if_pos rfl]
      exact ⟨rfl,s',m'.setIn nA _ _,v',⟨by rw [hc];exact hA1.next,fun h=>absurd h (by show ¬ 4 <= 2;omega),d'.of_block (Go.Deep.blk_setCell_other _ _ _ _ (by simpa using (Ne.symm hAt.h3))),e,by show 4 <= 5;omega,by show σ0 <= σ + δ.cost;omega,hnl⟩,oA ow⟩
 | 4,_ =>
  refine (astep_call (L:=L) hAt (by omega) t n k m g p r who (kl.at0 2 rfl) meth_out ent_out (fun d w1=>d = true /\ ∃ s',MemAt w1 L s' /\ Vil t n k m s' (σ + 1) q (upd pn who 0) /\ ∃ w0,Below w.heap.size w w0 /\ Only L.has w0 w1) (fun w1 g1=>?_)).mono ?_
  · refine (out_any (h.below g1) t n k m g p r who htn hwt ht8).mono ?_
    rintro e w' ⟨rfl,m',o'⟩
    exact ⟨_,rfl,o'.block _ (Nat.lt_of_lt_of_le ia g1.size) nA,rfl,_,m',hV.pin hσ (who : Int) hw 0,w1,g1,o'⟩
  · rintro e w' ⟨d,w1,⟨rfl,s',m',v',w0,g0,o0⟩,hh⟩
    have ek : ∀ x,x < w.heap.size -> ¬ L.has x -> w1.heap[x]? = w.heap[x]?:=fun x hx h2=>(o0.block _ (Nat.lt_of_lt_of_le hx g0.size) h2).trans (g0.block _ hx)
    have ow : Only (LB L B) w w1:=(Only.ofGrown g0).trans (o0.mono fun _ _=>Or.inl)
    have hA1:=hAt.block (ek _ ia nA) (ek _ il nS)
    rcases hh with ⟨e,-⟩ | ⟨-,rfl,rfl⟩
    · cases e
    · exact ⟨rfl,s',m'.setIn nA _ _,v',⟨hA1.next,fun h=>absurd h (by show ¬ 5 <= 2;omega),((hdwA.of_block (ek _ ib nb)).later (Nat.le_succ _)).of_block (Go.Deep.blk_setCell_other _ _ _ _ (by simpa using (Ne.symm hAt.h3))),hov,by show 5 <= 5;omega,by show σ0 <= σ + 1;omega,hnl⟩,oA ow⟩
 | 5,h=>exact absurd rfl h
 | ph + 6,_=>omega
theorem act_done (hA : ThAt t n k m w L B σ0 A) (h5 : A.ph = 5) : ∃ E H V St,A.δ.told σ0 A.σ E H V St /\ ∀ w1,Below w.heap.size w w1 -> Calls Tryz.prog 20 #[.pointer (some ⟨B.A,0,none⟩)] w1 fun e w'=>e = .returned (.agg #[.int .i64 E,.int .u64 H,.int .i64 V,.int .i64 St]) /\ Below w1.heap.size w1 w':=by
 have ho : A.δ.over? = true:=by rw [hA.ov,h5];rfl
 obtain ⟨E,H,V,St,ht,hc⟩:=dw_done hA.dw ho
 refine ⟨E,H,V,St,ht,fun w1 g1=>?_⟩
 have hAt:=hA.at_
 rw [h5] at hAt
 obtain ⟨c,ka⟩:=hAt.a
 obtain ⟨c',kl⟩:=hAt.l
 exact actdone_call (hAt.block (g1.block _ ka.lt) (g1.block _ kl.lt)) (eql_d _ _) (meth_d _ _) (ent_d _) E H V St (fun w2 g2=>hc w2 (grow g1 g2))
end
end Go.Proofs.YtlolfmoolgenpaaGreat

namespace Go.Proofs.YtlolfmoolgenpaaGreat
open Go.RowKit
set_option maxRecDepth 20000
inductive Starts (n : Nat) (X : Xa) : Dw -> Prop where
 | al (κ : Nat) (h : X.kd = 1) (fz : Fit X.sz) (hz : classOf X.sz = κ) (hκ : κ < 4) : Starts n X (.al X.sz X.own κ (.take .idle))
 | badA (h : X.kd = 1) (hz : classOf X.sz < 0) : Starts n X (.bad 0 5)
 | dp {x G : Nat} (h : X.kd = 2) (hh : HandIs X.nu x G) (hx : x < n) : Starts n X (.dp X.nu X.own x G .see)
 | badD (h : X.kd = 2) (hn : NoHand n X.nu) : Starts n X (.bad 1 3)
 | ac {x G : Nat} (h3 : 3 <= X.kd) (h5 : X.kd <= 5) (hv : Fit X.vl) (hh : HandIs X.nu x G) (hx : x < n) : Starts n X (.ac ⟨X.kd - 2,X.nu,X.ix,X.vl,X.ol⟩ X.own x G .see)
 | badC (h3 : 3 <= X.kd) (h5 : X.kd <= 5) (hn : NoHand n X.nu) : Starts n X (.bad 2 3)
theorem Starts.over {n : Nat} {X : Xa} {δ : Dw} (h : Starts n X δ) : δ.over? = false:=by cases h <;> rfl
theorem Starts.ty {n : Nat} {X : Xa} {δ : Dw} (h : Starts n X δ) : X.ty = tyC δ.c:=by
 cases h with
 | al κ h=>unfold Xa.ty;rw [if_pos h];rfl
 | badA h=>unfold Xa.ty;rw [if_pos h];rfl
 | dp h=>unfold Xa.ty;rw [if_neg (by omega),if_pos h];rfl
 | badD h=>unfold Xa.ty;rw [if_neg (by omega),if_pos h];rfl
 | ac h3=>unfold Xa.ty;rw [if_neg (by omega),if_neg (by omega)];rfl
 | badC h3=>unfold Xa.ty;rw [if_neg (by omega),if_neg (by omega)];rfl
theorem Starts.at {n : Nat} {X : Xa} {δ : Dw} (h : Starts n X δ) (t k m σ : Nat) (q : Q) (W : World) : DwAt t n k m (W.alloc X.ob) W.heap.size σ σ q δ:=by
 cases h with
 | al κ h fz hz hκ =>
  unfold Xa.ob;rw [if_pos h]
  obtain ⟨cs,q0⟩:=alloc0_at X.sz X.own W
  exact ⟨fz,hz,hκ,⟨trivial,rfl⟩,cs,_,q0,al0_is _ _ _⟩
 | badA h hz =>
  unfold Xa.ob;rw [if_pos h]
  obtain ⟨cs,q0⟩:=alloc0_at X.sz X.own W
  exact Or.inl ⟨rfl,rfl,_,_,cs,hz,q0⟩
 | dp h hh hx =>
  unfold Xa.ob;rw [if_neg (by omega),if_pos h]
  obtain ⟨cs,q0⟩:=drop0_at X.nu X.own W
  exact ⟨hh,hx,cs,_,q0,dp0_is _ _ _ _ _ _ _,trivial⟩
 | badD h hn =>
  unfold Xa.ob;rw [if_neg (by omega),if_pos h]
  obtain ⟨cs,q0⟩:=drop0_at X.nu X.own W
  exact Or.inr (Or.inl ⟨rfl,rfl,_,_,cs,hn,q0⟩)
 | ac h3 h5 hv hh hx =>
  unfold Xa.ob;rw [if_neg (by omega),if_neg (by omega)]
  obtain ⟨cs,q0⟩:=acc0_at (X.kd - 2) X.nu X.ix X.vl X.ol X.own W
  exact ⟨hh,hx,⟨by show X.kd - 2 = 1 \/ X.kd - 2 = 2 \/ X.kd - 2 = 3;omega,hv⟩,cs,_,q0,ac0_is ⟨X.kd - 2,X.nu,X.ix,X.vl,X.ol⟩ X.own⟩
 | badC h3 h5 hn =>
  unfold Xa.ob;rw [if_neg (by omega),if_neg (by omega)]
  obtain ⟨cs,q0⟩:=acc0_at (X.kd - 2) X.nu X.ix X.vl X.ol X.own W
  exact Or.inr (Or.inr ⟨rfl,rfl,⟨X.kd - 2,X.nu,X.ix,X.vl,X.ol⟩,X.own,cs,by show X.kd - 2 = 1 \/ X.kd - 2 = 2 \/ X.kd - 2 = 3;omega,hn,q0⟩)
theorem new_th {w : World} {L : Loc} {s : Mm} (hM : MemAt w L s) {X : Xa} (hm : X.may = true) {n : Nat} {δ : Dw} (hs : Starts n X δ) (t k m σ : Nat) (q : Q) (pn : Nat -> Int) :
 Calls Tryz.prog 14 #[X.v] w fun e w'=>∃ B : Bk,e = .returned (.tuple #[.pointer (some ⟨B.A,0,none⟩),.int .i64 0]) /\ Below w.heap.size w w' /\ (∀ x,B.has x -> w.heap.size <= x) /\ ThAt t n k m w' L B σ ⟨σ,q,pn,0,δ⟩:=by
 refine (newAct_any X hm w).mono ?_
 rintro e w' ⟨bA,bS,bI,b,W,c,rfl,bw,h1,h2,h3,h4,hA,hI,rfl,g⟩
 have hge : ∀ x,Bk.has ⟨bA,bS,bI,W.heap.size⟩ x -> w.heap.size <= x:=by
  intro x hx
  have hx : x = bA \/ x = bS \/ x = bI \/ x = W.heap.size:=hx
  omega
 refine ⟨⟨bA,bS,bI,W.heap.size⟩,rfl,bw,hge,⟨?_,fun _=>⟨c,hI⟩,?_,hs.over,by show 0 <= 5;omega,Nat.le_refl _,fun x hx hh=>?_⟩⟩
 · rw [hs.ty] at hA;exact hA
 · exact (hs.at t k m σ q W).of_block (g.block _ (by rw [Go.Deep.nblk_alloc];omega))
 · have:=hge x hx
   have:=hM.lt _ hh
   omega
theorem alTurn_wd {t n k m κ : Nat} {z : Int} {own : Bool} {σ : Nat} {q : Q} {α : Al} (h : ∀ a,Wd (q.dw a)) : ∀ a,Wd ((alTurn t n k m κ z own σ q α).1.dw a):=by
 have up : ∀ (A : Nat) (v : Int),Wd v -> ∀ a,Wd (upd q.dw A v a):=fun A v hv a=>by
  unfold upd;split
  · exact hv
  · exact h a
 have pw : ∀ (kd : Int) (x : Int) (G : Int),Wd (packOw kd z x G own):=fun kd x G=>⟨(packOw_bd _ _ _ _ _).1,Int.le_trans (packOw_bd _ _ _ _ _).2 (by decide)⟩
 cases α with
 | take τ=>simp only [alTurn];unfold alTake;split <;> exact h
 | place x G τ=>simp only [alTurn];unfold alPlace;split <;> exact h
 | head x G a i=>exact up _ _ (pw _ _ _)
 | ready x G a i st=>exact up _ _ (pw _ _ _)
 | give x G γ=>simp only [alTurn];unfold alGive;split <;> exact h
 | _=>exact h
theorem dwTurn_wd {t n k m : Nat} {cg : Int} {σ : Nat} {q : Q} {δ : Dw} (h : ∀ a,Wd (q.dw a)) : ∀ a,Wd ((dwTurn t n k m cg σ q δ).1.dw a):=by
 cases δ with
 | al=>exact alTurn_wd h
 | dp nu own x G α=>exact dpTurn_wd (q':=(dpTurn t n k m cg own x G q α).1) h rfl
 | ac W own x G α=>exact acTurn_wd (q':=(acTurn W own x G σ q α).1) h rfl
 | bad=>exact h
 | fin=>exact h
theorem asTurn_wd {t n k m : Nat} {cg : Int} {who : Nat} {A : As} (h : ∀ a,Wd (A.q.dw a)) : ∀ a,Wd ((asTurn t n k m cg who A).q.dw a):=by
 obtain ⟨σ,q,pn,ph,δ⟩:=A
 match ph with
 | 0=>exact h
 | 1=>exact h
 | 2=>exact h
 | 3=>exact dwTurn_wd h
 | 4=>exact h
 | _ + 5=>exact h
theorem asTurn_σ {t n k m : Nat} {cg : Int} {who : Nat} {A : As} : (asTurn t n k m cg who A).σ <= A.σ + 1:=by
 obtain ⟨σ,q,pn,ph,δ⟩:=A
 match ph with
 | 0=>exact Nat.le_refl _
 | 1=>exact Nat.le_refl _
 | 2=>exact Nat.le_refl _
 | 3 =>
  show σ + δ.cost <= σ + 1
  cases δ <;> (simp only [Dw.cost];omega)
 | 4=>exact Nat.le_refl _
 | _ + 5=>exact Nat.le_succ _
inductive AsRuns (t n k m : Nat) (cg : Int) (who : Nat) : Nat -> As -> As -> Prop where
 | one {A A' : As} (h5 : A.ph ≠ 5) (hn : A.ph = 3 -> A.δ.need t n k m cg A.q) (ht : asTurn t n k m cg who A = A') (h : A'.ph = 5) : AsRuns t n k m cg who 1 A A'
 | more {N : Nat} {A A1 A' : As} (h5 : A.ph ≠ 5) (hn : A.ph = 3 -> A.δ.need t n k m cg A.q) (ht : asTurn t n k m cg who A = A1) (h : A1.ph ≠ 5) (g : AsRuns t n k m cg who N A1 A') : AsRuns t n k m cg who (N + 1) A A'
theorem AsRuns.pos {t n k m : Nat} {cg : Int} {who N : Nat} {A A' : As} (g : AsRuns t n k m cg who N A A') : 1 <= N:=by
 cases g <;> omega
theorem Only.drop {L : Loc} {B : Bk} {w w' : World} (h : Only (LB L B) w w') (hB : ∀ x,B.has x -> w.heap.size <= x) : Only L.has w w' :=
 h.mono fun x hx hh=>hh.elim id (fun e=>absurd (hB x e) (by omega))
section
variable {w : World} {L : Loc} {t n k m σ : Nat} {s : Mm} {q : Q} {pn : Nat -> Int}
set_option maxHeartbeats 1000000 in
theorem act_do {cg cp cr : Int} (h : MemAt w L s) (hV : Vil t n k m s σ q pn) (hG : Good t n k m cg cp cr) (hdw : ∀ a,Wd (q.dw a)) (hσ : σ + 500 < 1000000) (X : Xa) (hm : X.may = true) (δ : Dw) (hs : Starts n X δ) (who : Nat) (hw : who < t) {N : Nat} (hN : N <= 500) {A' : As} (g : AsRuns t n k m cg who N ⟨σ,q,pn,0,δ⟩ A') :
 Calls Tryz.prog 12 #[.agg #[.int .i64 t,.int .i64 n,.int .i64 k,.int .i64 m,.int .i64 cg,.int .i64 cp,.int .i64 cr,.pointer (some ⟨L.p,0,none⟩),.int .i64 who],X.v] w fun e w'=>∃ (E H V St : Int) (s' : Mm),e = .returned (.agg #[.int .i64 E,.int .u64 H,.int .i64 V,.int .i64 St]) /\ A'.δ.told σ A'.σ E H V St /\ MemAt w' L s' /\ Vil t n k m s' A'.σ A'.q A'.pn /\ Only L.has w w':=by
 have hB : Hid (¬ L.has w.heap.size):=fun hh=>by have:=h.lt _ hh;omega
 have hB2 : Hid (¬ L.has (w.heap.size + 1 + 1)):=fun hh=>by have:=h.lt _ hh;omega
 have HV : Hid (Vil t n k m s σ q pn):=hV
 have HM : Hid (MemAt w L s):=h
 have HG : Hid (Good t n k m cg cp cr):=hG
 have HWT : Hid (who < t):=hw
 have HW : Hid (∀ a,Wd (q.dw a)):=hdw
 have GG : Hid (AsRuns t n k m cg who N ⟨σ,q,pn,0,δ⟩ A'):=g
 obtain ⟨E0,hE0⟩ : ∃ E0,E0 = (.cells #[.int .i64 t,.int .i64 n,.int .i64 k,.int .i64 m,.int .i64 cg,.int .i64 cp,.int .i64 cr,.pointer (some ⟨L.p,0,none⟩),.int .i64 who] 27 : Obj):=⟨_,rfl⟩
 have HN:=new_th (w:=((w.alloc E0).alloc X.box).alloc (.cells #[.int .i64 0,.int .u64 0,.int .i64 0,.int .i64 0] 40)) (((h.alloc E0).alloc X.box).alloc _) hm hs t k m σ q pn
 subst hE0
 clear h hV hG g hw hdw
 obtain ⟨kx,sz,nu,ix,vl,ol,own⟩:=X
 simp only [Xa.v,Xa.box] at HN ⊢
 have v0 : BoxV (((w.alloc (.cells #[.int .i64 t,.int .i64 n,.int .i64 k,.int .i64 m,.int .i64 cg,.int .i64 cp,.int .i64 cr,.pointer (some ⟨L.p,0,none⟩),.int .i64 who] 27)).alloc (.cells #[.int .i64 kx,.int .i64 sz,.int .u64 nu,.int .i64 ix,.int .i64 vl,.int .i64 ol,.bool own] 36)).alloc (.cells #[.int .i64 0,.int .u64 0,.int .i64 0,.int .i64 0] 40)) w.heap.size t n k m cg cp cr L.p who:=(BoxV.newB _).grown (grow_alloc (Below.refl _ _) _)
 have d0:=At.new2 (w.alloc (.cells #[.int .i64 t,.int .i64 n,.int .i64 k,.int .i64 m,.int .i64 cg,.int .i64 cp,.int .i64 cr,.pointer (some ⟨L.p,0,none⟩),.int .i64 who] 27)) (.cells #[.int .i64 kx,.int .i64 sz,.int .u64 nu,.int .i64 ix,.int .i64 vl,.int .i64 ol,.bool own] 36) 40 [.int .i64 0,.int .u64 0,.int .i64 0,.int .i64 0]
 rw [Go.Deep.nblk_alloc] at d0
 go_enter Tryz.func12,Tryz.ntmps12
 go_wp2_with (go_at_call 14;refine HN.mono ?_;rintro e w1 ⟨B,rfl,b1,hBk,th⟩)
 have hBw : Hid (∀ x,B.has x -> w.heap.size + 1 + 1 + 1 <= x):=fun x hx=>by have:=hBk x hx;simpa only [Go.Deep.nblk_alloc] using this
 have A1 : Hid (MemAt w1 L s /\ ThAt t n k m w1 L B σ ⟨σ,q,pn,0,δ⟩ /\ BoxV w1 w.heap.size t n k m cg cp cr L.p who /\ At w1 (w.heap.size + 1 + 1) 0 40 #[.int .i64 0,.int .u64 0,.int .i64 0,.int .i64 0] [.int .i64 0,.int .u64 0,.int .i64 0,.int .i64 0] /\ Only (LB L B) w w1) :=
  ⟨(((HM.out.alloc _).alloc _).alloc _).below b1,th,v0.grown b1,d0.grown b1,(((((Only.refl _ _).alloc _).alloc _).alloc _).trans (Only.ofGrown b1))⟩
 clear HM v0 d0 th b1 hBk HN
 go_loopw [7] (fun i wr=>∃ (j N1 : Nat) (s1 : Mm) (A1 : As),i = .int .i64 j /\ j + N1 = N /\ A1.σ <= σ + j /\ AsRuns t n k m cg who N1 A1 A' /\ (∀ a,Wd (A1.q.dw a)) /\ Vil t n k m s1 A1.σ A1.q A1.pn /\ MemAt wr L s1 /\ ThAt t n k m wr L B σ A1 /\ BoxV wr w.heap.size t n k m cg cp cr L.p who /\ At wr (w.heap.size + 1 + 1) 0 40 #[.int .i64 0,.int .u64 0,.int .i64 0,.int .i64 0] [.int .i64 0,.int .u64 0,.int .i64 0,.int .i64 0] /\ Only (LB L B) w wr) (fun i _=>500 - (intOf i).toNat)
 case atStart=>exact ⟨0,N,s,⟨σ,q,pn,0,δ⟩,rfl,by omega,Nat.le_refl _,GG.out,HW.out,HV.out,A1.out⟩
 case round =>
  clear A1 GG HW HV
  obtain ⟨j,N1,s1,A1,rfl,hj,hjs,gg,wd,vl1,mm,th,v,j1,on⟩:=hrel
  have hN1:=gg.pos
  have hj3 : (j : Int) < 500:=by omega
  obtain ⟨y0,y1,y2,y3,y4,y5,y6,y7,y8⟩:=id v
  have wd1:=asTurn_wd (t:=t) (n:=n) (k:=k) (m:=m) (cg:=cg) (who:=who) wd
  have hs1:=asTurn_σ (t:=t) (n:=n) (k:=k) (m:=m) (cg:=cg) (who:=who) (A:=A1)
  have hBE : ¬ LB L B w.heap.size:=fun hh=>hh.elim hB.out (fun e=>by have:=hBw.out _ e;omega)
  have hBD : ¬ LB L B (w.heap.size + 1 + 1):=fun hh=>hh.elim hB2.out (fun e=>by have:=hBw.out _ e;omega)
  have HBE : Hid (¬ LB L B w.heap.size):=hBE
  have HBD : Hid (¬ LB L B (w.heap.size + 1 + 1)):=hBD
  clear hBE hBD
  cases gg with
  | one h5 hn ht h1 =>
   have hst:=act_step mm vl1 HG.out (by omega) wd th h5 hn who HWT.out A' ht
   rw [h1] at hst
   have H1 : Hid (A'.ph = 5):=h1
   clear ht h5 hn h1 wd1 hs1
   go_wp2_with (first
    | (go_at_call 18;refine hst.mono ?_;rintro e w2 ⟨rfl,s2,m2,v2,th2,o2⟩;clear hst;obtain ⟨E,H,V,St,tl,hd⟩:=act_done th2 H1.out)
    | (go_at_call 20;refine (hd _ (Below.refl _ _)).mono ?_;rintro e w3 ⟨rfl,b3⟩;have j3:=(j1.only o2 HBD.out).grown b3;have z0:=j3.at0 0 rfl;have z1:=j3.at0 1 rfl;have z2:=j3.at0 2 rfl;have z3:=j3.at0 3 rfl;have qf:=j3.fz))
   refine bodyPost_ret (v:=.agg #[.int .i64 E,.int .u64 H,.int .i64 V,.int .i64 St]) (by simp [results,Tryz.results12,go_sem,z0,z1,z2,z3]) rfl ?_
   refine ⟨E,H,V,St,s2,rfl,tl,((((m2.below b3).setIn hB2.out _ _).setIn hB2.out _ _).setIn hB2.out _ _).setIn hB2.out _ _,v2,?_⟩
   exact (((((((on.trans o2).trans (Only.ofGrown b3))).drop (fun x hx=>by have:=hBw.out x hx;omega)).setCell (fun hlt=>by simp only at hlt;omega) _).setCell (fun hlt=>by simp only at hlt;omega) _).setCell (fun hlt=>by simp only at hlt;omega) _).setCell (fun hlt=>by simp only at hlt;omega) _
  | more h5 hn ht h1 g1 =>
   have hst:=act_step mm vl1 HG.out (by omega) wd th h5 hn who HWT.out _ ht
   rw [beq_eq_false_iff_ne.2 h1] at hst
   rw [ht] at wd1 hs1
   clear ht h5 hn
   go_wp2_with (go_at_call 18;refine hst.mono ?_;rintro e w2 ⟨rfl,s2,m2,v2,th2,o2⟩)
   go_roundw
   case rel =>
    exact ⟨j + 1,_,s2,_,by go_num,by omega,by omega,g1,wd1,v2,m2,th2,v.only o2 HBE.out,j1.only o2 HBD.out,on.trans o2⟩
   case measure=>simp [intOf];omega
end
end Go.Proofs.YtlolfmoolgenpaaGreat
