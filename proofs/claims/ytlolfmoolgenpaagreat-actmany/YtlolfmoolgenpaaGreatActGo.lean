import Derived.Test.YtlolfmoolgenpaaGreatActTale
namespace Go.Proofs.YtlolfmoolgenpaaGreat
open Go.RowKit
structure As where
 σ : Nat
 q : Q
 pn : Nat -> Int
 ph : Nat
 δ : Dw
def asTurn (t n k m : Nat) (cg : Int) (who : Nat) (A : As) : As :=
 match A.ph with
 | 0=>{ A with σ:=A.σ + 1,ph:=1 }
 | 1=>{ A with σ:=A.σ + 1,pn:=upd A.pn who 1,ph:=2 }
 | 2=>{ A with σ:=A.σ + 1,ph:=3 }
 | 3=>{ A with σ:=A.σ + A.δ.cost,q:=(dwTurn t n k m cg A.σ A.q A.δ).1,ph:=if (dwTurn t n k m cg A.σ A.q A.δ).2.over? then 4 else 3,δ:=(dwTurn t n k m cg A.σ A.q A.δ).2 }
 | 4=>{ A with σ:=A.σ + 1,pn:=upd A.pn who 0,ph:=5 }
 | _=>A
structure Bk where
 A : Nat
 S : Nat
 I : Nat
 b : Nat
def Bk.has (B : Bk) (x : Nat) : Prop:=x = B.A \/ x = B.S \/ x = B.I \/ x = B.b
structure ThAt (t n k m : Nat) (w : World) (L : Loc) (B : Bk) (σ0 : Nat) (A : As) : Prop where
 at_ : ActAt w B.A B.S B.I B.b (tyC A.δ.c) (A.ph - 2)
 pin : A.ph <= 2 -> ∃ c,InAt w B.I 0 66 c A.ph 0
 dw : DwAt t n k m w B.b σ0 A.σ A.q A.δ
 ov : A.δ.over? = decide (4 <= A.ph)
 p5 : A.ph <= 5
 s0 : σ0 <= A.σ
 nl : ∀ x,B.has x -> ¬ L.has x
def LB (L : Loc) (B : Bk) (x : Nat) : Prop:=L.has x \/ B.has x
theorem ActAt.block {w w' : World} {bA bS bI b : Nat} {T : TypeId} {i : Nat} (h : ActAt w bA bS bI b T i) (e1 : w'.heap[bA]? = w.heap[bA]?) (e2 : w'.heap[bS]? = w.heap[bS]?) : ActAt w' bA bS bI b T i :=
 ⟨h.a.imp fun _ k=>k.of_block e1,h.l.imp fun _ k=>k.of_block e2,h.h1,h.h2,h.h3,h.h4,h.h5,h.h6⟩
theorem ThAt.block {t n k m : Nat} {w w' : World} {L : Loc} {B : Bk} {σ0 : Nat} {A : As} (h : ThAt t n k m w L B σ0 A) (e : ∀ x,B.has x -> x < w.heap.size -> w'.heap[x]? = w.heap[x]?) : ThAt t n k m w' L B σ0 A:=by
 obtain ⟨c,ka⟩:=h.at_.a
 obtain ⟨c',kl⟩:=h.at_.l
 exact ⟨h.at_.block (e _ (Or.inl rfl) ka.lt) (e _ (Or.inr (Or.inl rfl)) kl.lt),fun hp=>(h.pin hp).imp fun _ k=>k.of_block (e _ (Or.inr (Or.inr (Or.inl rfl))) k.lt),h.dw.of_block (e _ (Or.inr (Or.inr (Or.inr rfl))) h.dw.lt),h.ov,h.p5,h.s0,h.nl⟩
theorem ThAt.grown {t n k m : Nat} {w w' : World} {L : Loc} {B : Bk} {σ0 : Nat} {A : As} (h : ThAt t n k m w L B σ0 A) (g : Below w.heap.size w w') : ThAt t n k m w' L B σ0 A:=h.block fun _ _ hl=>g.block _ hl
theorem ThAt.only {t n k m : Nat} {w w' : World} {L : Loc} {B : Bk} {σ0 : Nat} {A : As} {S : Nat -> Prop} (h : ThAt t n k m w L B σ0 A) (g : Only S w w') (hs : ∀ x,B.has x -> ¬ S x) : ThAt t n k m w' L B σ0 A:=h.block fun x hx hl=>g.block _ hl (hs x hx)
theorem Pl.good_le {k m κ σ σ' : Nat} {τ : Pl} (h : τ.good k m κ σ) (hs : σ <= σ') : τ.good k m κ σ':=by
 cases τ with
 | grow i c=>exact ⟨h.1,h.2.1.up hs,h.2.2⟩
 | take sn i c=>exact ⟨h.1,h.2.1,h.2.2.1.up hs,h.2.2.2⟩
 | opn sn i c=>exact ⟨h.1,h.2.1,h.2.2.1.up hs,h.2.2.2⟩
 | fre sn i c=>exact ⟨h.1,h.2.1,h.2.2.1.up hs,h.2.2.2⟩
 | _=>exact h
theorem DwAt.later {t n k m : Nat} {w : World} {b σ0 σ σ' : Nat} {q : Q} {δ : Dw} (h : DwAt t n k m w b σ0 σ q δ) (hs : σ <= σ') : DwAt t n k m w b σ0 σ' q δ:=by
 cases δ with
 | al z own κ α =>
  obtain ⟨h1,h2,h3,h4,h5⟩:=h
  refine ⟨h1,h2,h3,?_,h5⟩
  cases α with
  | place x G τ=>exact ⟨h4.1,h4.2.1,h4.2.2.1,Pl.good_le h4.2.2.2.1 hs,h4.2.2.2.2⟩
  | _=>exact h4
 | dp nu own x G α =>
  obtain ⟨h1,h2,cs,a,h5,h6,h7⟩:=h
  refine ⟨h1,h2,cs,a,h5,h6,?_⟩
  cases α with
  | count=>exact ⟨h7.1,Int.le_trans h7.2 (by omega)⟩
  | give=>exact ⟨h7.1,Int.le_trans h7.2 (by omega)⟩
  | over=>exact ⟨h7.1,Int.le_trans h7.2.1 (by omega),h7.2.2⟩
  | _=>exact h7
 | ac W own x G α=>exact h
 | bad c E=>exact h
 | fin c E st=>exact h
theorem meth_in (b : Nat) (w : World) : (method 292 64 (.pointer (some ⟨b,0,none⟩)) "Step").run Tryz.prog w = .ok (61,.pointer (some ⟨b,0,none⟩)) w:=by kernel_rfl
theorem meth_out (w : World) : (method 292 68 (.agg #[]) "Step").run Tryz.prog w = .ok (68,.agg #[]) w:=by kernel_rfl
theorem meth_s (c b : Nat) (w : World) : (method 292 (tyC c) (.pointer (some ⟨b,0,none⟩)) "Step").run Tryz.prog w = .ok ((fS c),.pointer (some ⟨b,0,none⟩)) w:=by
 match c with
 | 0 =>
  have h : (method 292 88 (.pointer (some ⟨b,0,none⟩)) "Step").run Tryz.prog w = .ok (70,.pointer (some ⟨b,0,none⟩)) w:=by kernel_rfl
  exact h
 | 1 =>
  have h : (method 292 90 (.pointer (some ⟨b,0,none⟩)) "Step").run Tryz.prog w = .ok (116,.pointer (some ⟨b,0,none⟩)) w:=by kernel_rfl
  exact h
 | _ + 2 =>
  have h : (method 292 113 (.pointer (some ⟨b,0,none⟩)) "Step").run Tryz.prog w = .ok (142,.pointer (some ⟨b,0,none⟩)) w:=by kernel_rfl
  exact h
theorem meth_d (c b : Nat) (w : World) : (method 292 (tyC c) (.pointer (some ⟨b,0,none⟩)) "Done").run Tryz.prog w = .ok ((fD c),.pointer (some ⟨b,0,none⟩)) w:=by
 match c with
 | 0 =>
  have h : (method 292 88 (.pointer (some ⟨b,0,none⟩)) "Done").run Tryz.prog w = .ok (69,.pointer (some ⟨b,0,none⟩)) w:=by kernel_rfl
  exact h
 | 1 =>
  have h : (method 292 90 (.pointer (some ⟨b,0,none⟩)) "Done").run Tryz.prog w = .ok (115,.pointer (some ⟨b,0,none⟩)) w:=by kernel_rfl
  exact h
 | _ + 2 =>
  have h : (method 292 113 (.pointer (some ⟨b,0,none⟩)) "Done").run Tryz.prog w = .ok (141,.pointer (some ⟨b,0,none⟩)) w:=by kernel_rfl
  exact h
theorem ent_in (args : Array Value) (w : World) : (callFunc 61 args).run Tryz.prog w = .ok (.enter 61 args) w:=by kernel_rfl
theorem ent_out (args : Array Value) (w : World) : (callFunc 68 args).run Tryz.prog w = .ok (.enter 68 args) w:=by kernel_rfl
theorem ent_s (c : Nat) (args : Array Value) (w : World) : (callFunc (fS c) args).run Tryz.prog w = .ok (.enter (fS c) args) w:=by
 match c with
 | 0 =>
  have h : (callFunc 70 args).run Tryz.prog w = .ok (.enter 70 args) w:=by kernel_rfl
  exact h
 | 1 =>
  have h : (callFunc 116 args).run Tryz.prog w = .ok (.enter 116 args) w:=by kernel_rfl
  exact h
 | _ + 2 =>
  have h : (callFunc 142 args).run Tryz.prog w = .ok (.enter 142 args) w:=by kernel_rfl
  exact h
theorem ent_d (c : Nat) (args : Array Value) (w : World) : (callFunc (fD c) args).run Tryz.prog w = .ok (.enter (fD c) args) w:=by
 match c with
 | 0 =>
  have h : (callFunc 69 args).run Tryz.prog w = .ok (.enter 69 args) w:=by kernel_rfl
  exact h
 | 1 =>
  have h : (callFunc 115 args).run Tryz.prog w = .ok (.enter 115 args) w:=by kernel_rfl
  exact h
 | _ + 2 =>
  have h : (callFunc 141 args).run Tryz.prog w = .ok (.enter 141 args) w:=by kernel_rfl
  exact h
theorem eql_d (c b : Nat) (w : World) : (binOp .eql 62 (.iface (tyC c) (.pointer (some ⟨b,0,none⟩))) .nilIface).run Tryz.prog w = .ok (.bool false) w:=by
 match c with
 | 0 =>
  have h : (binOp .eql 62 (.iface 88 (.pointer (some ⟨b,0,none⟩))) .nilIface).run Tryz.prog w = .ok (.bool false) w:=by kernel_rfl
  exact h
 | 1 =>
  have h : (binOp .eql 62 (.iface 90 (.pointer (some ⟨b,0,none⟩))) .nilIface).run Tryz.prog w = .ok (.bool false) w:=by kernel_rfl
  exact h
 | _ + 2 =>
  have h : (binOp .eql 62 (.iface 113 (.pointer (some ⟨b,0,none⟩))) .nilIface).run Tryz.prog w = .ok (.bool false) w:=by kernel_rfl
  exact h
theorem dwTurn_c {t n k m : Nat} {g : Int} {σ : Nat} {q q' : Q} {δ δ' : Dw} (h : dwTurn t n k m g σ q δ = (q',δ')) : δ'.c = δ.c:=by
 cases δ <;> (obtain ⟨-,rfl⟩:=Prod.mk.inj h;rfl)
theorem ActAt.next {w : World} {bA bS bI b : Nat} {T : TypeId} {i : Nat} (h : ActAt w bA bS bI b T i) : ActAt (w.setCell ⟨bA,1,none⟩ (.slice (some ⟨bS,min (i + 1) 2,none⟩) (2 - i) (2 - i))) bA bS bI b T (i + 1):=by
 obtain ⟨c,ka⟩:=h.a
 obtain ⟨c',kl⟩:=h.l
 have:=ka.put0 1 (.slice (some ⟨bS,min (i + 1) 2,none⟩) (2 - i) (2 - i))
 have hk : 3 - (i + 1) = 2 - i:=by omega
 refine ⟨⟨c.setIfInBounds 1 (.slice (some ⟨bS,min (i + 1) 2,none⟩) (2 - i) (2 - i)),?_⟩,⟨c',kl.other (Ne.symm h.h1) _ _⟩,h.h1,h.h2,h.h3,h.h4,h.h5,h.h6⟩
 rw [hk]
 exact this
section
variable {w : World} {L : Loc} {s : Mm} {B : Bk} {t n k m σ0 : Nat} {g p r : Int} {A : As}
theorem act_step (h : MemAt w L s) (hV : Vil t n k m s A.σ A.q A.pn) (hG : Good t n k m g p r) (hσ : A.σ < 1000000) (hdw : ∀ a,Wd (A.q.dw a)) (hA : ThAt t n k m w L B σ0 A) (h5 : A.ph ≠ 5) (hn : A.ph = 3 -> A.δ.need t n k m g A.q) (who : Nat) (hw : who < t) (A' : As) (hq : asTurn t n k m g who A = A') :
 Calls Tryz.prog 18 #[.pointer (some ⟨B.A,0,none⟩),.agg #[.int .i64 t,.int .i64 n,.int .i64 k,.int .i64 m,.int .i64 g,.int .i64 p,.int .i64 r,.pointer (some ⟨L.p,0,none⟩),.int .i64 who]] w fun e w'=>e = .returned (.bool (A'.ph == 5)) /\ ∃ s',MemAt w' L s' /\ Vil t n k m s' A'.σ A'.q A'.pn /\ ThAt t n k m w' L B σ0 A' /\ Only (LB L B) w w':=by
 subst hq
 obtain ⟨σ,q,pn,ph,δ⟩:=A
 have hlen:=hV.tw.len
 have htn : 6 + who < s.n:=by rw [hlen];omega
 have ht8 : (t : Int) <= 8:=by have:=hG.t1;omega
 have hwt : (who : Int) < (t : Int):=by omega
 obtain ⟨hAt,hpin,hdwA,hov,hp5,hs0,hnl⟩:=hA
 simp only at hAt hpin hdwA hov hp5 hs0 hn h5 hσ hdw hV
 have nA:=hnl B.A (Or.inl rfl)
 have nS:=hnl B.S (Or.inr (Or.inl rfl))
 have nI:=hnl B.I (Or.inr (Or.inr (Or.inl rfl)))
 have nb:=hnl B.b (Or.inr (Or.inr (Or.inr rfl)))
 obtain ⟨ca,ka⟩:=hAt.a
 obtain ⟨cl,kl⟩:=hAt.l
 have ia:=ka.lt
 have il:=kl.lt
 have ib:=hdwA.lt
 have oI : ∀ {x y : World},Only (L.and B.I) x y -> Only (LB L B) x y:=fun o=>o.mono fun z _ hz=>hz.elim Or.inl (fun e=>Or.inr (Or.inr (Or.inr (Or.inl e))))
 have ob : ∀ {x y : World},Only (L.and B.b) x y -> Only (LB L B) x y:=fun o=>o.mono fun z _ hz=>hz.elim Or.inl (fun e=>Or.inr (Or.inr (Or.inr (Or.inr e))))
 have oA : ∀ {x y : World} {i : Nat} {v : Value},Only (LB L B) x y -> Only (LB L B) x (y.setCell ⟨B.A,i,none⟩ v):=fun o=>o.setCell (fun _=>Or.inr (Or.inl rfl)) _
 match ph,h5 with
 | 0,_ =>
  obtain ⟨c,hin⟩:=hpin (by omega)
  have hin : InAt w B.I 0 66 c 0 0:=hin
  refine (astep_call (L:=L) hAt (by omega) t n k m g p r who (kl.at0 0 rfl) (meth_in _) ent_in (fun d w1=>d = false /\ ∃ s',MemAt w1 L s' /\ Vil t n k m s' (σ + 1) q pn /\ (∃ c,InAt w1 B.I 0 66 c 1 0) /\ ∃ w0,Below w.heap.size w w0 /\ Only (L.and B.I) w0 w1) (fun w1 g1=>?_)).mono ?_
  · refine (step_pin (h.below g1) nI (hin.grown g1) (Or.inl rfl) t n k m g p r who htn hwt ht8).mono ?_
    rintro e w' ⟨d,s',c',nx',ep',rfl,P,m',i',-,o'⟩
    refine ⟨d,rfl,o'.block _ (Nat.lt_of_lt_of_le ia g1.size) (fun hh=>hh.elim nA hAt.h2),?_⟩
    cases P with
    | load =>
     rw [hV.ep] at m' i'
     have hv1:=hV.look hσ (who : Int)
     rw [hV.ep] at hv1
     exact ⟨rfl,_,m',hv1,⟨c',i'⟩,w1,g1,o'⟩
  · rintro e w' ⟨d,w1,⟨rfl,s',m',v',i',w0,g0,o0⟩,hh⟩
    have ek : ∀ x,x < w.heap.size -> x ≠ B.I -> ¬ L.has x -> w1.heap[x]? = w.heap[x]?:=fun x hx h1 h2=>(o0.block _ (Nat.lt_of_lt_of_le hx g0.size) (fun hh=>hh.elim h2 h1)).trans (g0.block _ hx)
    have ow : Only (LB L B) w w1:=(Only.ofGrown g0).trans (oI o0)
    rcases hh with ⟨-,rfl,rfl⟩ | ⟨e,-⟩
    · exact ⟨rfl,s',m',v',⟨hAt.block (ek _ ia hAt.h2 nA) (ek _ il hAt.h4 nS),fun _=>i',(hdwA.of_block (ek _ ib (Ne.symm hAt.h6) nb)).later (Nat.le_succ _),hov,by show 1 <= 5;omega,by show σ0 <= σ + 1;omega,hnl⟩,ow⟩
    · cases e
 | 1,_ =>
  obtain ⟨c,hin⟩:=hpin (by omega)
  have hin : InAt w B.I 0 66 c 1 0:=hin
  refine (astep_call (L:=L) hAt (by omega) t n k m g p r who (kl.at0 0 rfl) (meth_in _) ent_in (fun d w1=>d = false /\ ∃ s',MemAt w1 L s' /\ Vil t n k m s' (σ + 1) q (upd pn who 1) /\ (∃ c,InAt w1 B.I 0 66 c 2 0) /\ ∃ w0,Below w.heap.size w w0 /\ Only (L.and B.I) w0 w1) (fun w1 g1=>?_)).mono ?_
  · refine (step_pin (h.below g1) nI (hin.grown g1) (Or.inr (Or.inl rfl)) t n k m g p r who htn hwt ht8).mono ?_
    rintro e w' ⟨d,s',c',nx',ep',rfl,P,m',i',-,o'⟩
    refine ⟨d,rfl,o'.block _ (Nat.lt_of_lt_of_le ia g1.size) (fun hh=>hh.elim nA hAt.h2),?_⟩
    cases P with
    | lay=>exact ⟨rfl,_,m',hV.pin hσ (who : Int) hw 1,⟨c',i'⟩,w1,g1,o'⟩
  · rintro e w' ⟨d,w1,⟨rfl,s',m',v',i',w0,g0,o0⟩,hh⟩
    have ek : ∀ x,x < w.heap.size -> x ≠ B.I -> ¬ L.has x -> w1.heap[x]? = w.heap[x]?:=fun x hx h1 h2=>(o0.block _ (Nat.lt_of_lt_of_le hx g0.size) (fun hh=>hh.elim h2 h1)).trans (g0.block _ hx)
    have ow : Only (LB L B) w w1:=(Only.ofGrown g0).trans (oI o0)
    rcases hh with ⟨-,rfl,rfl⟩ | ⟨e,-⟩
    · exact ⟨rfl,s',m',v',⟨hAt.block (ek _ ia hAt.h2 nA) (ek _ il hAt.h4 nS),fun _=>i',(hdwA.of_block (ek _ ib (Ne.symm hAt.h6) nb)).later (Nat.le_succ _),hov,by show 2 <= 5;omega,by show σ0 <= σ + 1;omega,hnl⟩,ow⟩
    · cases e
 | 2,_ =>
  obtain ⟨c,hin⟩:=hpin (by omega)
  have hin : InAt w B.I 0 66 c 2 0:=hin
  refine (astep_call (L:=L) hAt (by omega) t n k m g p r who (kl.at0 0 rfl) (meth_in _) ent_in (fun d w1=>d = true /\ ∃ s',MemAt w1 L s' /\ Vil t n k m s' (σ + 1) q pn /\ True /\ ∃ w0,Below w.heap.size w w0 /\ Only (L.and B.I) w0 w1) (fun w1 g1=>?_)).mono ?_
  · refine (step_pin (h.below g1) nI (hin.grown g1) (Or.inr (Or.inr rfl)) t n k m g p r who htn hwt ht8).mono ?_
    rintro e w' ⟨d,s',c',nx',ep',rfl,P,m',i',-,o'⟩
    refine ⟨d,rfl,o'.block _ (Nat.lt_of_lt_of_le ia g1.size) (fun hh=>hh.elim nA hAt.h2),?_⟩
    obtain ⟨rfl,rfl⟩ : d = true /\ s' = (s.by who).step 0 (s.wd 0):=by
     generalize hE : (0 : Int) = E0 at P
     cases P with
     | same=>exact ⟨rfl,rfl⟩
     | other _ hne=>exact absurd (hV.ep.trans hE) hne
    exact ⟨rfl,_,m',hV.look hσ (who : Int),trivial,w1,g1,o'⟩
  · rintro e w' ⟨d,w1,⟨rfl,s',m',v',i',w0,g0,o0⟩,hh⟩
    have ek : ∀ x,x < w.heap.size -> x ≠ B.I -> ¬ L.has x -> w1.heap[x]? = w.heap[x]?:=fun x hx h1 h2=>(o0.block _ (Nat.lt_of_lt_of_le hx g0.size) (fun hh=>hh.elim h2 h1)).trans (g0.block _ hx)
    have ow : Only (LB L B) w w1:=(Only.ofGrown g0).trans (oI o0)
    rcases hh with ⟨e,-⟩ | ⟨-,rfl,rfl⟩
    · cases e
    · have hA1:=hAt.block (ek _ ia hAt.h2 nA) (ek _ il hAt.h4 nS)
      exact ⟨rfl,s',m'.setIn nA _ _,v',⟨hA1.next,fun h=>absurd h (by show ¬ 3 <= 2;omega),((hdwA.of_block (ek _ ib (Ne.symm hAt.h6) nb)).later (Nat.le_succ _)).of_block (Go.Deep.blk_setCell_other _ _ _ _ (by simpa using (Ne.symm hAt.h3))),hov,by show 3 <= 5;omega,by show σ0 <= σ + 1;omega,hnl⟩,oA ow⟩
 | 3,_ =>
  obtain ⟨q',δ',hq⟩ : ∃ q' δ',dwTurn t n k m g σ q δ = (q',δ'):=⟨_,_,rfl⟩
  have ho : δ.over? = false:=hov
  have hc : δ'.c = δ.c:=dwTurn_c hq
  refine (astep_call (L:=L) hAt (by omega) t n k m g p r who (kl.at0 1 rfl) (meth_s δ.c _) (ent_s δ.c) (fun d w1=>d = δ'.over? /\ ∃ s',MemAt w1 L s' /\ Vil t n k m s' (σ + δ.cost) q' pn /\ DwAt t n k m w1 B.b σ0 (σ + δ.cost) q' δ' /\ ∃ w0,Below w.heap.size w w0 /\ Only (L.and B.b) w0 w1) (fun w1 g1=>?_)).mono ?_
  · refine (dw_step (h.below g1) nb hV hG hσ hs0 hdw δ (hdwA.of_block (g1.block _ ib)) (hn rfl) ho who q' δ' hq).mono ?_
    rintro e w' ⟨rfl,s',m',v',d',o'⟩
    exact ⟨_,rfl,o'.block _ (Nat.lt_of_lt_of_le ia g1.size) (fun hh=>hh.elim nA hAt.h3),rfl,s',m',v',d',w1,g1,o'⟩
  · rintro e w' ⟨d,w1,⟨rfl,s',m',v',d',w0,g0,o0⟩,hh⟩
    have ek : ∀ x,x < w.heap.size -> x ≠ B.b -> ¬ L.has x -> w1.heap[x]? = w.heap[x]?:=fun x hx h1 h2=>(o0.block _ (Nat.lt_of_lt_of_le hx g0.size) (fun hh=>hh.elim h2 h1)).trans (g0.block _ hx)
    have ow : Only (LB L B) w w1:=(Only.ofGrown g0).trans (ob o0)
    have hA1:=hAt.block (ek _ ia hAt.h3 nA) (ek _ il hAt.h5 nS)
    have eT : asTurn t n k m g who ⟨σ,q,pn,3,δ⟩ = ⟨σ + δ.cost,q',pn,if δ'.over? then 4 else 3,δ'⟩:=by
     show As.mk _ _ _ _ _ = _
     rw [hq]
    rw [eT]
    rcases hh with ⟨e,rfl,rfl⟩ | ⟨e,rfl,rfl⟩
    · rw [e,if_neg (by decide)]
      exact ⟨rfl,s',m',v',⟨by rw [hc];exact hA1,fun h=>absurd h (by show ¬ 3 <= 2;omega),d',e,by show 3 <= 5;omega,by show σ0 <= σ + δ.cost;omega,hnl⟩,ow⟩
    · rw [e,if_pos rfl]
      exact ⟨rfl,s',m'.setIn nA _ _,v',⟨by rw [hc];exact hA1.next,fun h=>absurd h (by show ¬ 4 <= 2;omega),d'.of_block (Go.Deep.blk_setCell_other _ _ _ _ (by simpa using (Ne.symm hAt.h3))),e,by show 4 <= 5;omega,by show σ0 <= σ + δ.cost;omega,hnl⟩,oA ow⟩
 | 4,_ =>
  refine (astep_call (L:=L) hAt (by omega) t n k m g p r who (kl.at0 2 rfl) meth_out ent_out (fun d w1=>d = true /\ ∃ s',MemAt w1 L s' /\ Vil t n k m s' (σ + 1) q (upd pn who 0) /\ ∃ w0,Below w.heap.size w w0 /\ Only L.has w0 w1) (fun w1 g1=>?_)).mono ?_
  · refine (out_any (h.below g1) t n k m g p r who htn hwt ht8).mono ?_
    rintro e w' ⟨rfl,m',o'⟩
    exact ⟨_,rfl,o'.block _ (Nat.lt_of_lt_of_le ia g1.size) nA,rfl,_,m',hV.pin hσ (who : Int) hw 0,w1,g1,o'⟩
  · rintro e w' ⟨d,w1,⟨rfl,s',m',v',w0,g0,o0⟩,hh⟩
    have ek : ∀ x,x < w.heap.size -> ¬ L.has x -> w1.heap[x]? = w.heap[x]?:=fun x hx h2=>(o0.block _ (Nat.lt_of_lt_of_le hx g0.size) h2).trans (g0.block _ hx)
    have ow : Only (LB L B) w w1:=(Only.ofGrown g0).trans (o0.mono fun _ _=>Or.inl)
    have hA1:=hAt.block (ek _ ia nA) (ek _ il nS)
    rcases hh with ⟨e,-⟩ | ⟨-,rfl,rfl⟩
    · cases e
    · exact ⟨rfl,s',m'.setIn nA _ _,v',⟨hA1.next,fun h=>absurd h (by show ¬ 5 <= 2;omega),((hdwA.of_block (ek _ ib nb)).later (Nat.le_succ _)).of_block (Go.Deep.blk_setCell_other _ _ _ _ (by simpa using (Ne.symm hAt.h3))),hov,by show 5 <= 5;omega,by show σ0 <= σ + 1;omega,hnl⟩,oA ow⟩
 | 5,h=>exact absurd rfl h
 | ph + 6,_=>omega
theorem act_done (hA : ThAt t n k m w L B σ0 A) (h5 : A.ph = 5) : ∃ E H V St,A.δ.told σ0 A.σ E H V St /\ ∀ w1,Below w.heap.size w w1 -> Calls Tryz.prog 20 #[.pointer (some ⟨B.A,0,none⟩)] w1 fun e w'=>e = .returned (.agg #[.int .i64 E,.int .u64 H,.int .i64 V,.int .i64 St]) /\ Below w1.heap.size w1 w':=by
 have ho : A.δ.over? = true:=by rw [hA.ov,h5];rfl
 obtain ⟨E,H,V,St,ht,hc⟩:=dw_done hA.dw ho
 refine ⟨E,H,V,St,ht,fun w1 g1=>?_⟩
 have hAt:=hA.at_
 rw [h5] at hAt
 obtain ⟨c,ka⟩:=hAt.a
 obtain ⟨c',kl⟩:=hAt.l
 exact actdone_call (hAt.block (g1.block _ ka.lt) (g1.block _ kl.lt)) (eql_d _ _) (meth_d _ _) (ent_d _) E H V St (fun w2 g2=>hc w2 (grow g1 g2))
end
end Go.Proofs.YtlolfmoolgenpaaGreat
