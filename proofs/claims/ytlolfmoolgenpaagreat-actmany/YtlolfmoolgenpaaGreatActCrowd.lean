import Derived.Test.YtlolfmoolgenpaaGreatAccCrowd
import Derived.Test.YtlolfmoolgenpaaGreatActGo
namespace Go.Proofs.YtlolfmoolgenpaaGreat
open Go.RowKit
structure Th where
 W : Wt
 ph : Nat
 α : Ac
structure He where
 W : Wt
 E : Int
 V : Int
 St : Nat
structure Wt.fit (W : Wt) : Prop where
 nu : W.nu = 65536
 ix : W.ix = 0
 kd : W.kd = 1 \/ W.kd = 2 \/ W.kd = 3
 vl : Val W.vl
 ol : Val W.ol
structure Th.ok (v : Int) (t : Th) : Prop where
 w : t.W.fit
 p4 : t.ph <= 4
 lo : t.ph <= 2 -> t.α = .see
 th : AcTh t.W v t.α
 ov : t.α.over? = decide (4 <= t.ph)
def Th.as (t : Th) (σ : Nat) (q : Q) (pn : Nat -> Int) : As:=⟨σ,q,pn,t.ph,.ac t.W false 0 1 t.α⟩
def Th.ent (t : Th) : List He :=
 match t.α with
 | .check _ c ld=>[⟨t.W,if t.W.other c then 8 else 0,c,ld⟩]
 | .over E V st=>[⟨t.W,E,V,st⟩]
 | _=>[]
def ents : Option Th -> List He
 | none=>[]
 | some t=>t.ent
def nextV (c : Int) (e : He) : Int:=if e.W.reads c then c else e.W.vl
def after (l : List He) : Int:=l.foldl nextV 0
theorem after_app (l : List He) (e : He) : after (l ++ [e]) = nextV (after l) e:=by unfold after;rw [List.foldl_append];rfl
structure Hist (H : List He) (c : Int) (σ : Nat) : Prop where
 c : after H = c
 ok : ∀ (n : Nat) e,H[n]? = some e -> e.V = after (H.take n) /\ e.E = (if e.W.other e.V then 8 else 0) /\ Val e.V /\ e.W.fit
 st : H.Pairwise (fun a b=>a.St < b.St)
 le : ∀ e ∈ H,e.St <= σ
theorem Hist.up {H : List He} {c : Int} {σ : Nat} (h : Hist H c σ) : Hist H c (σ + 1):=⟨h.c,h.ok,h.st,fun e he=>by have:=h.le e he;omega⟩
theorem Hist.app {H : List He} {c : Int} {σ : Nat} (h : Hist H c σ) (e : He) (hV : e.V = c) (hE : e.E = (if e.W.other c then 8 else 0)) (hc : Val c) (hw : e.W.fit) (hs : e.St = σ + 1) : Hist (H ++ [e]) (nextV c e) (σ + 1):=by
 refine ⟨by rw [after_app,h.c],fun n e' he=>?_,?_,fun e' he=>?_⟩
 · by_cases hn : n < H.length
   · rw [List.getElem?_append_left hn] at he
     rw [List.take_append_of_le_length (by omega)]
     exact h.ok n e' he
   · rw [List.getElem?_append_right (by omega)] at he
     have h0 : n - H.length = 0:=by
      by_cases h0 : n - H.length = 0
      · exact h0
      · rw [List.getElem?_eq_none (by simp;omega)] at he;cases he
     rw [h0] at he
     cases he
     have : (H ++ [e]).take n = H:=by rw [show n = H.length by omega,List.take_left'];rfl
     rw [this,h.c,hV]
     exact ⟨rfl,hE,hc,hw⟩
 · refine List.pairwise_append.2 ⟨h.st,List.pairwise_singleton _ _,fun a ha b hb=>?_⟩
   rw [List.mem_singleton.1 hb,hs]
   have:=h.le a ha
   omega
 · rcases List.mem_append.1 he with he | he
   · have:=h.le e' he;omega
   · rw [List.mem_singleton.1 he,hs];exact Nat.le_refl _
def rkT (c : Int) (t : Th) : Nat :=
 if t.ph <= 2 then 16 - t.ph else
 match t.α with
 | .see=>13
 | .ask _ _=>12
 | .load _ _=>11
 | .lay _ c0=>if c0 = c then 10 else 14
 | .check _ _ _=>2
 | _=>1
def rkO (c : Int) : Option Th -> Nat
 | none=>0
 | some t=>rkT c t
def rkA (c : Int) (ps : Nat -> Option Th) : Nat:=rkO c (ps 0) + rkO c (ps 1) + rkO c (ps 2)
theorem rkT_16 (c : Int) (t : Th) : rkT c t <= 16:=by
 unfold rkT
 split
 · omega
 · split <;> first | omega | (split <;> omega)
theorem rkO_16 (c : Int) (o : Option Th) : rkO c o <= 16:=by
 cases o with
 | none=>show 0 <= 16;omega
 | some t=>exact rkT_16 c t
theorem rkA_48 (c : Int) (ps : Nat -> Option Th) : rkA c ps <= 48:=by
 have:=rkO_16 c (ps 0)
 have:=rkO_16 c (ps 1)
 have:=rkO_16 c (ps 2)
 unfold rkA;omega
theorem rkO_4 (c c' : Int) (o : Option Th) : rkO c' o <= rkO c o + 4:=by
 cases o with
 | none=>show 0 <= 0 + 4;omega
 | some t =>
  show rkT c' t <= rkT c t + 4
  unfold rkT
  split
  · omega
  · split <;> first | omega | (split <;> split <;> omega)
def pinO : Option Th -> Int
 | none=>0
 | some t=>if t.ph <= 1 then 0 else 1
structure Cw (i : Nat) (v : Int) (q : Q) (c : Int) (σ : Nat) (pn : Nat -> Int) (ps : Nat -> Option Th) (D H : List He) : Prop where
 s : Cell1 4 8 8 40 0 1 i v q c
 th : ∀ a t,ps a = some t -> t.ok v
 pn : ∀ a,a < 3 -> pn a = pinO (ps a)
 h : Hist H c σ
 pm : (D ++ (ents (ps 0) ++ (ents (ps 1) ++ ents (ps 2)))).Perm H
theorem rkA_upd {c c' : Int} {ps : Nat -> Option Th} {K : Nat} (hK : K < 3) (o : Option Th) (h : (c' = c /\ rkO c o + 1 <= rkO c (ps K)) \/ rkO c' o + 9 <= rkO c (ps K)) : rkA c' (upd ps K o) + 1 <= rkA c ps:=by
 have a0:=rkO_4 c c' (ps 0)
 have a1:=rkO_4 c c' (ps 1)
 have a2:=rkO_4 c c' (ps 2)
 unfold rkA
 have : K = 0 \/ K = 1 \/ K = 2:=by omega
 rcases this with rfl | rfl | rfl
 · rw [upd_same,upd_other _ _ _ _ (by decide),upd_other _ _ _ _ (by decide)]
   rcases h with ⟨rfl,h⟩ | h <;> omega
 · rw [upd_same,upd_other _ _ _ _ (by decide),upd_other _ _ _ _ (by decide)]
   rcases h with ⟨rfl,h⟩ | h <;> omega
 · rw [upd_same,upd_other _ _ _ _ (by decide),upd_other _ _ _ _ (by decide)]
   rcases h with ⟨rfl,h⟩ | h <;> omega
theorem perm_upd {D D' H X : List He} {ps : Nat -> Option Th} {K : Nat} (hK : K < 3) (o : Option Th) (pm : (D ++ (ents (ps 0) ++ (ents (ps 1) ++ ents (ps 2)))).Perm H) (h : (D' ++ ents o).Perm (D ++ ents (ps K) ++ X)) :
 (D' ++ (ents (upd ps K o 0) ++ (ents (upd ps K o 1) ++ ents (upd ps K o 2)))).Perm (H ++ X):=by
 classical
 refine List.perm_iff_count.2 fun a=>?_
 have h1:=List.perm_iff_count.1 pm a
 have h2:=List.perm_iff_count.1 h a
 simp only [List.count_append] at h1 h2 ⊢
 have : K = 0 \/ K = 1 \/ K = 2:=by omega
 rcases this with rfl | rfl | rfl
 · rw [upd_same,upd_other _ _ _ _ (by decide),upd_other _ _ _ _ (by decide)];omega
 · rw [upd_same,upd_other _ _ _ _ (by decide),upd_other _ _ _ _ (by decide)];omega
 · rw [upd_same,upd_other _ _ _ _ (by decide),upd_other _ _ _ _ (by decide)];omega
section
variable {i σ K : Nat} {v c : Int} {q : Q} {pn : Nat -> Int} {ps : Nat -> Option Th} {D H : List He}
theorem Cw.start (C : Cw i v q c σ pn ps D H) (hK : K < 3) (h : ps K = none) {W : Wt} (hW : W.fit) : Cw i v q c σ pn (upd ps K (some ⟨W,0,.see⟩)) D H:=by
 refine ⟨C.s,fun a t ht=>?_,fun a ha=>?_,C.h,?_⟩
 · by_cases e : a = K
   · subst e;rw [upd_same] at ht;cases ht
     exact ⟨hW,by show 0 <= 4;omega,fun _=>rfl,trivial,rfl⟩
   · rw [upd_other _ _ _ _ e] at ht;exact C.th a t ht
 · by_cases e : a = K
   · subst e;rw [upd_same,C.pn a ha,h];rfl
   · rw [upd_other _ _ _ _ e];exact C.pn a ha
 · have:=perm_upd (X:=[]) (D':=D) hK (some ⟨W,0,.see⟩) C.pm (by rw [h];simp [ents,Th.ent])
   simpa using this
theorem rk_start (c : Int) (h : ps K = none) (hK : K < 3) (W : Wt) : rkA c (upd ps K (some ⟨W,0,.see⟩)) = rkA c ps + 16:=by
 unfold rkA
 have : K = 0 \/ K = 1 \/ K = 2:=by omega
 rcases this with rfl | rfl | rfl
 · rw [upd_same,upd_other _ _ _ _ (by decide),upd_other _ _ _ _ (by decide),h]
   show 16 + _ + _ = 0 + _ + _ + 16;omega
 · rw [upd_same,upd_other _ _ _ _ (by decide),upd_other _ _ _ _ (by decide),h]
   show _ + 16 + _ = _ + 0 + _ + 16;omega
 · rw [upd_same,upd_other _ _ _ _ (by decide),upd_other _ _ _ _ (by decide),h]
   show _ + _ + 16 = _ + _ + 0 + 16;omega
theorem Cw.step (C : Cw i v q c σ pn ps D H) (hK : K < 3) {t : Th} (h : ps K = some t) :
 (t.ph = 3 -> Dw.need 4 8 8 40 100 q (.ac t.W false 0 1 t.α)) /\ ∃ q' c' pn' t' H',asTurn 4 8 8 40 100 K (t.as σ q pn) = Th.as t' (σ + 1) q' pn' /\ t'.W = t.W /\
  ((t'.ph ≠ 5 /\ Cw i v q' c' (σ + 1) pn' (upd ps K (some t')) D H' /\ rkA c' (upd ps K (some t')) + 1 <= rkA c ps) \/
   (t'.ph = 5 /\ ∃ E V st,t'.α = .over E V st /\ Cw i v q' c' (σ + 1) pn' (upd ps K none) (D ++ [⟨t.W,E,V,st⟩]) H' /\ rkA c' (upd ps K none) + 1 <= rkA c ps)):=by
 obtain ⟨W,ph,α⟩:=t
 have T:=C.th K _ h
 obtain ⟨hW,p4,lo,th,ov⟩:=T
 simp only at hW p4 lo th ov
 have thU : ∀ t' : Th,t'.ok v -> ∀ a t,upd ps K (some t') a = some t -> t.ok v:=fun t' h' a t ht=>by
  by_cases e : a = K
  · subst e;rw [upd_same] at ht;cases ht;exact h'
  · rw [upd_other _ _ _ _ e] at ht;exact C.th a t ht
 have pnU : ∀ (o : Option Th) (x : Int),x = pinO o -> ∀ a,a < 3 -> upd pn K x a = pinO (upd ps K o a):=fun o x hx a ha=>by
  by_cases e : a = K
  · subst e;rw [upd_same,upd_same];exact hx
  · rw [upd_other _ _ _ _ e,upd_other _ _ _ _ e];exact C.pn a ha
 have pnS : ∀ (o : Option Th),pn K = pinO o -> ∀ a,a < 3 -> pn a = pinO (upd ps K o a):=fun o hx a ha=>by
  by_cases e : a = K
  · subst e;rw [upd_same];exact hx
  · rw [upd_other _ _ _ _ e];exact C.pn a ha
 have hpn:=C.pn K hK
 rw [h] at hpn
 have same : ∀ o : Option Th,ents o = ents (ps K) -> (D ++ (ents (upd ps K o 0) ++ (ents (upd ps K o 1) ++ ents (upd ps K o 2)))).Perm H:=fun o e=>by
  have:=perm_upd (X:=[]) (D':=D) hK o C.pm (by rw [e];simp)
  simpa using this
 match ph,p4 with
 | 0,_ =>
  obtain rfl:=lo (by omega)
  refine ⟨fun e=>(by cases e),q,c,pn,⟨W,1,.see⟩,H,rfl,rfl,Or.inl ⟨by show 1 ≠ 5;omega,⟨C.s,thU _ ⟨hW,by show 1 <= 4;omega,fun _=>rfl,trivial,rfl⟩,pnS _ hpn,C.h.up,same _ (by rw [h];rfl)⟩,rkA_upd hK _ (Or.inl ⟨rfl,by rw [h];show 15 + 1 <= 16;omega⟩)⟩⟩
 | 1,_ =>
  obtain rfl:=lo (by omega)
  refine ⟨fun e=>(by cases e),q,c,upd pn K 1,⟨W,2,.see⟩,H,rfl,rfl,Or.inl ⟨by show 2 ≠ 5;omega,⟨C.s,thU _ ⟨hW,by show 2 <= 4;omega,fun _=>rfl,trivial,rfl⟩,pnU _ _ rfl,C.h.up,same _ (by rw [h];rfl)⟩,rkA_upd hK _ (Or.inl ⟨rfl,by rw [h];show 14 + 1 <= 15;omega⟩)⟩⟩
 | 2,_ =>
  obtain rfl:=lo (by omega)
  refine ⟨fun e=>(by cases e),q,c,pn,⟨W,3,.see⟩,H,rfl,rfl,Or.inl ⟨by show 3 ≠ 5;omega,⟨C.s,thU _ ⟨hW,by show 3 <= 4;omega,fun h=>absurd h (by show ¬ 3 <= 2;omega),trivial,rfl⟩,pnS _ hpn,C.h.up,same _ (by rw [h];rfl)⟩,rkA_upd hK _ (Or.inl ⟨rfl,by rw [h];show 13 + 1 <= 14;omega⟩)⟩⟩
 | 4,_ =>
  cases α with
  | over E V st =>
   refine ⟨fun e=>(by cases e),q,c,upd pn K 0,⟨W,5,.over E V st⟩,H,rfl,rfl,Or.inr ⟨rfl,E,V,st,rfl,⟨C.s,fun a t ht=>?_,pnU _ _ rfl,C.h.up,?_⟩,rkA_upd hK _ (Or.inl ⟨rfl,by rw [h];show 0 + 1 <= 1;omega⟩)⟩⟩
   · by_cases e : a = K
     · subst e;rw [upd_same] at ht;cases ht
     · rw [upd_other _ _ _ _ e] at ht;exact C.th a t ht
   · have:=perm_upd (X:=[]) (D':=D ++ [⟨W,E,V,st⟩]) hK none C.pm (by rw [h];simp [ents,Th.ent])
     simpa using this
  | _=>cases ov
 | 3,_ =>
  obtain ⟨q',α',ht⟩ : ∃ q' α',acTurn W false 0 1 σ q α = (q',α'):=⟨_,_,rfl⟩
  have ho : α.over? = false:=ov
  obtain ⟨gd,T',c',S',M⟩:=cell1_step C.s hW.ix hW.vl th ho ht
  have hturn : asTurn 4 8 8 40 100 K (Th.as ⟨W,3,α⟩ σ q pn) = Th.as ⟨W,if α'.over? then 4 else 3,α'⟩ (σ + 1) q' pn:=by
   have hd : dwTurn 4 8 8 40 100 σ q (.ac W false 0 1 α) = (q',.ac W false 0 1 α'):=by simp only [dwTurn,ht]
   show As.mk (σ + 1) (dwTurn 4 8 8 40 100 σ q (.ac W false 0 1 α)).1 pn (if (dwTurn 4 8 8 40 100 σ q (.ac W false 0 1 α)).2.over? then 4 else 3) (dwTurn 4 8 8 40 100 σ q (.ac W false 0 1 α)).2 = _
   rw [hd]
   rfl
  have okT : Th.ok v ⟨W,if α'.over? then 4 else 3,α'⟩:=by
   refine ⟨hW,?_,fun hh=>?_,T',?_⟩
   · show (if α'.over? then 4 else 3) <= 4;split <;> omega
   · have hh : (if α'.over? then 4 else 3) <= 2:=hh
     split at hh <;> omega
   · show α'.over? = decide (4 <= if α'.over? then 4 else 3)
     cases α'.over? <;> rfl
  have p5 : (if α'.over? then 4 else 3) ≠ 5:=by split <;> omega
  have hp1 : pn K = pinO (some ⟨W,if α'.over? then 4 else 3,α'⟩):=by
   rw [hpn]
   show (1 : Int) = if (if α'.over? then 4 else 3) <= 1 then 0 else 1
   cases α'.over? <;> rfl
  have fin : ∀ H',Hist H' c' (σ + 1) -> (D ++ (ents (upd ps K (some ⟨W,if α'.over? then 4 else 3,α'⟩) 0) ++ (ents (upd ps K (some ⟨W,if α'.over? then 4 else 3,α'⟩) 1) ++ ents (upd ps K (some ⟨W,if α'.over? then 4 else 3,α'⟩) 2)))).Perm H' -> ((c' = c /\ rkT c ⟨W,if α'.over? then 4 else 3,α'⟩ + 1 <= rkT c ⟨W,3,α⟩) \/ rkT c' ⟨W,if α'.over? then 4 else 3,α'⟩ + 9 <= rkT c ⟨W,3,α⟩) ->
   ∃ q' c' pn' t' H',asTurn 4 8 8 40 100 K (Th.as ⟨W,3,α⟩ σ q pn) = Th.as t' (σ + 1) q' pn' /\ t'.W = W /\
   ((t'.ph ≠ 5 /\ Cw i v q' c' (σ + 1) pn' (upd ps K (some t')) D H' /\ rkA c' (upd ps K (some t')) + 1 <= rkA c ps) \/
    (t'.ph = 5 /\ ∃ E V st,t'.α = .over E V st /\ Cw i v q' c' (σ + 1) pn' (upd ps K none) (D ++ [⟨W,E,V,st⟩]) H' /\ rkA c' (upd ps K none) + 1 <= rkA c ps)):=fun H' hH hP hR =>
   ⟨q',c',pn,_,H',hturn,rfl,Or.inl ⟨p5,⟨S',thU _ okT,pnS _ hp1,hH,hP⟩,rkA_upd hK _ (by rw [h];exact hR)⟩⟩
  refine ⟨fun _=>gd,?_⟩
  have more : ∀ e : He,ents (some ⟨W,if α'.over? then 4 else 3,α'⟩) = [e] -> ents (some ⟨W,3,α⟩) = [] -> (D ++ (ents (upd ps K (some ⟨W,if α'.over? then 4 else 3,α'⟩) 0) ++ (ents (upd ps K (some ⟨W,if α'.over? then 4 else 3,α'⟩) 1) ++ ents (upd ps K (some ⟨W,if α'.over? then 4 else 3,α'⟩) 2)))).Perm (H ++ [e]):=fun e h1 h2 =>
   perm_upd (X:=[e]) (D':=D) hK _ C.pm (by rw [h1,h,h2];simp)
  cases M with
  | see=>exact fin H C.h.up (same _ (by rw [h];rfl)) (Or.inl ⟨rfl,by show 12 + 1 <= 13;omega⟩)
  | ask a=>exact fin H C.h.up (same _ (by rw [h];rfl)) (Or.inl ⟨rfl,by show 11 + 1 <= 12;omega⟩)
  | check hr =>
   have hn:=C.h.app ⟨W,if W.other c then 8 else 0,c,σ + 1⟩ rfl rfl C.s.val hW rfl
   have e : nextV c ⟨W,if W.other c then 8 else 0,c,σ + 1⟩ = c:=by unfold nextV;rw [hr];rfl
   rw [e] at hn
   exact fin _ hn (more _ rfl rfl) (Or.inl ⟨rfl,by show 2 + 1 <= 11;omega⟩)
  | lay hr=>exact fin H C.h.up (same _ (by rw [h];rfl)) (Or.inl ⟨rfl,by show (if c = c then 10 else 14) + 1 <= 11;rw [if_pos rfl];omega⟩)
  | told c0 ld h0 hr=>exact fin H C.h.up (same _ (by rw [h];rfl)) (Or.inl ⟨rfl,by show 1 + 1 <= 2;omega⟩)
  | laid hr =>
   have ho : W.other c = false:=by
    unfold Wt.reads at hr
    cases hh : W.other c with
    | false=>rfl
    | true=>rw [hh] at hr;simp at hr
   have hn:=C.h.app ⟨W,0,c,σ + 1⟩ rfl (by rw [ho];rfl) C.s.val hW rfl
   have e : nextV c ⟨W,0,c,σ + 1⟩ = W.vl:=by unfold nextV;rw [hr];rfl
   rw [e] at hn
   exact fin _ hn (more _ rfl rfl) (Or.inr (by show 1 + 9 <= if c = c then 10 else 14;rw [if_pos rfl];omega))
  | vain c0 hne hr=>exact fin H C.h.up (same _ (by rw [h];rfl)) (Or.inl ⟨rfl,by show 13 + 1 <= if c0 = c then 10 else 14;rw [if_neg hne];omega⟩)
end
end Go.Proofs.YtlolfmoolgenpaaGreat
