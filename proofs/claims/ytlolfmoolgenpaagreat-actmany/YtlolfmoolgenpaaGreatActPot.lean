import Derived.Test.YtlolfmoolgenpaaGreatActCrowd
namespace Go.Proofs.YtlolfmoolgenpaaGreat
open Go.RowKit
structure Pot (T N1 i nx : Nat) (c : Int) (ps : Nat -> Option Th) : Prop where
 le : nx <= N1
 nt : N1 <= 40
 go : nx < N1 -> i <= T -> rkA c ps + 16 * (N1 - nx) + i <= 640
 en : min T 1000 <= i -> (∀ a,a < 3 -> ps a = none) \/ ∃ d,d <= 2 /\ ps ((i + d) % 3) ≠ none /\ 3 * rkA c ps + d + (i - min T 1000) <= 150
theorem none3 {ps : Nat -> Option Th} {i : Nat} (h : ¬ ∃ d,d <= 2 /\ ps ((i + d) % 3) ≠ none) : ∀ a,a < 3 -> ps a = none:=fun a ha=>by
 by_cases e : ps a = none
 · exact e
 · exfalso
   apply h
   have : ∃ d,d <= 2 /\ (i + d) % 3 = a:=by
    have h1 : i % 3 = 0 \/ i % 3 = 1 \/ i % 3 = 2:=by omega
    have h2 : a = 0 \/ a = 1 \/ a = 2:=by omega
    rcases h1 with h1 | h1 | h1 <;> rcases h2 with h2 | h2 | h2
    all_goals first
     | exact ⟨0,by omega,by omega⟩
     | exact ⟨1,by omega,by omega⟩
     | exact ⟨2,by omega,by omega⟩
   obtain ⟨d,h1,h2⟩:=this
   exact ⟨d,h1,by rw [h2];exact e⟩
section
variable {T N1 i nx : Nat} {c c' : Int} {ps ps' : Nat -> Option Th}
theorem Pot.first (hN : N1 <= 40) (c : Int) : Pot T N1 0 0 c (fun _=>none) :=
 ⟨Nat.zero_le _,hN,fun _ _=>by show 0 + 0 + 0 + 16 * (N1 - 0) + 0 <= 640;omega,fun _=>Or.inl fun _ _=>rfl⟩
theorem Pot.skip (P : Pot T N1 i nx c ps) (hk : min T 1000 <= i -> ps (i % 3) = none) (hs : N1 <= nx \/ T <= i) : Pot T N1 (i + 1) nx c ps:=by
 refine ⟨P.le,P.nt,fun h1 h2=>by omega,fun h=>?_⟩
 by_cases hi : min T 1000 <= i
 · rcases P.en hi with e | ⟨d,h1,h2,h3⟩
   · exact Or.inl e
   · right
     cases d with
     | zero=>exact absurd (hk hi) h2
     | succ d=>exact ⟨d,by omega,by rw [show i + 1 + d = i + (d + 1) by omega];exact h2,by omega⟩
 · by_cases hx : ∃ d,d <= 2 /\ ps ((i + 1 + d) % 3) ≠ none
   · obtain ⟨d,h1,h2⟩:=hx
     have:=rkA_48 c ps
     exact Or.inr ⟨d,h1,h2,by omega⟩
   · exact Or.inl (none3 hx)
theorem Pot.step (P : Pot T N1 i nx c ps) (h : rkA c' ps' + 1 <= rkA c ps) : Pot T N1 (i + 1) nx c' ps':=by
 refine ⟨P.le,P.nt,fun h1 h2=>by have:=P.go h1 (by omega);omega,fun hi1=>?_⟩
 by_cases hx : ∃ d,d <= 2 /\ ps' ((i + 1 + d) % 3) ≠ none
 · obtain ⟨d,h1,h2⟩:=hx
   right
   refine ⟨d,h1,h2,?_⟩
   by_cases hi : min T 1000 <= i
   · rcases P.en hi with e | ⟨d',_,_,h3⟩
     · have e0 : rkA c ps = 0:=by unfold rkA;rw [e 0 (by decide),e 1 (by decide),e 2 (by decide)];rfl
       omega
     · omega
   · have:=rkA_48 c ps
     omega
 · exact Or.inl (none3 hx)
theorem Pot.start (P : Pot T N1 i nx c ps) (hn : nx < N1) (hi : i < T) (h1 : i < 1000) {r : Nat} (hr : r = rkA c ps + 16) (h : rkA c' ps' + 1 <= r) : Pot T N1 (i + 1) (nx + 1) c' ps':=by
 have g:=P.go hn (by omega)
 refine ⟨by omega,P.nt,fun h1 h2=>by omega,fun hi1=>?_⟩
 by_cases hx : ∃ d,d <= 2 /\ ps' ((i + 1 + d) % 3) ≠ none
 · obtain ⟨d,h1,h2⟩:=hx
   have:=rkA_48 c' ps'
   exact Or.inr ⟨d,h1,h2,by omega⟩
 · exact Or.inl (none3 hx)
theorem Pot.full (P : Pot T N1 i nx c ps) (hi : 1000 <= i) (hT : i < T) : nx = N1:=by
 have:=P.le
 by_cases e : nx < N1
 · have:=P.go e (by omega);omega
 · omega
theorem Pot.end (P : Pot T N1 i nx c ps) (h : i = T + 400 \/ i = 1500) (h1 : i <= T + 400) : ∀ a,a < 3 -> ps a = none:=by
 rcases P.en (by omega) with e | ⟨d,_,_,h3⟩
 · exact e
 · omega
end
def bef (D : List He) (s : Nat) : Nat:=D.countP (fun e=>decide (e.St < s))
theorem Hist.idx {H : List He} {c : Int} {σ : Nat} (h : Hist H c σ) {n : Nat} {e : He} (he : H[n]? = some e) : bef H e.St = n:=by
 obtain ⟨hn,rfl⟩:=List.getElem?_eq_some_iff.1 he
 have hp:=h.st
 have e1 : H = H.take n ++ H.drop n:=(List.take_append_drop n H).symm
 have hd : H.drop n = H[n] :: H.drop (n + 1):=List.drop_eq_getElem_cons hn
 unfold bef
 have h1 : (H.take n).countP (fun e=>decide (e.St < H[n].St)) = n:=by
  have : (H.take n).countP (fun e=>decide (e.St < H[n].St)) = (H.take n).length:=by
   rw [List.countP_eq_length]
   intro a ha
   rw [e1,List.pairwise_append,hd] at hp
   exact decide_eq_true (hp.2.2 a ha _ (List.mem_cons_self ..))
  rw [this,List.length_take];omega
 have h2 : (H.drop n).countP (fun e=>decide (e.St < H[n].St)) = 0:=by
  rw [List.countP_eq_zero]
  intro a ha
  rw [hd] at ha
  rcases List.mem_cons.1 ha with rfl | ha
  · simp
  · rw [e1,List.pairwise_append,hd,List.pairwise_cons] at hp
    have:=hp.2.1.1 a ha
    simp;omega
 have h3 : H.countP (fun e=>decide (e.St < H[n].St)) = (H.take n).countP (fun e=>decide (e.St < H[n].St)) + (H.drop n).countP (fun e=>decide (e.St < H[n].St)):=by
  rw [<- List.countP_append,List.take_append_drop]
 rw [h3,h1,h2];rfl
section
variable {D H : List He} {c : Int} {σ : Nat}
theorem Hist.at (h : Hist H c σ) (pm : D.Perm H) {n i : Nat} {e : He} (he : D[i]? = some e) (hb : bef D e.St = n) : H[n]? = some e:=by
 have hm : e ∈ H:=pm.mem_iff.1 (List.mem_of_getElem? he)
 obtain ⟨m,hm⟩:=List.mem_iff_getElem?.1 hm
 have:=h.idx hm
 have e2 : bef D e.St = bef H e.St:=pm.countP_eq _
 have : m = n:=by omega
 rw [<- this];exact hm
theorem Hist.has (h : Hist H c σ) (pm : D.Perm H) {n : Nat} (hn : n < D.length) : ∃ (i : Nat) (e : He),D[i]? = some e /\ bef D e.St = n:=by
 have hl : n < H.length:=by rw [<- pm.length_eq];exact hn
 have he : H[n]? = some H[n]:=List.getElem?_eq_getElem hl
 have hm : H[n] ∈ D:=pm.mem_iff.2 (List.getElem_mem hl)
 obtain ⟨i,hi⟩:=List.mem_iff_getElem?.1 hm
 refine ⟨i,_,hi,?_⟩
 have e2 : bef D H[n].St = bef H H[n].St:=pm.countP_eq _
 rw [e2];exact h.idx he
end
def Fnd (D : List He) (n i : Nat) (at_ : Int) : Prop :=
 (at_ = -1 /\ ∀ j e,j < i -> D[j]? = some e -> bef D e.St ≠ n) \/ ∃ (j : Nat) (e : He),at_ = (j : Int) /\ j < i /\ D[j]? = some e /\ bef D e.St = n
theorem Fnd.first (D : List He) (n : Nat) : Fnd D n 0 (-1):=Or.inl ⟨rfl,fun j e h=>by omega⟩
theorem Fnd.yes {D : List He} {n i : Nat} {e : He} (he : D[i]? = some e) (hb : bef D e.St = n) : Fnd D n (i + 1) (i : Int):=Or.inr ⟨i,e,rfl,by omega,he,hb⟩
theorem Fnd.no {D : List He} {n i : Nat} {a : Int} {e : He} (h : Fnd D n i a) (he : D[i]? = some e) (hb : bef D e.St ≠ n) : Fnd D n (i + 1) a:=by
 rcases h with ⟨h1,h2⟩ | ⟨j,e',h1,h2,h3⟩
 · refine Or.inl ⟨h1,fun j e' hj hj'=>?_⟩
   by_cases e1 : j = i
   · subst e1;rw [he] at hj';cases hj';exact hb
   · exact h2 j e' (by omega) hj'
 · exact Or.inr ⟨j,e',h1,by omega,h3⟩
theorem Fnd.end {D H : List He} {c : Int} {σ n : Nat} {a : Int} (h : Fnd D n D.length a) (hh : Hist H c σ) (pm : D.Perm H) (hn : n < D.length) : ∃ (j : Nat) (e : He),a = (j : Int) /\ j < D.length /\ D[j]? = some e /\ H[n]? = some e:=by
 rcases h with ⟨_,h2⟩ | ⟨j,e,h1,h2,h3,h4⟩
 · obtain ⟨i,e,hi,hb⟩:=hh.has pm hn
   exact absurd hb (h2 i e (List.getElem?_eq_some_iff.1 hi).1 hi)
 · exact ⟨j,e,h1,h2,h3,hh.at pm h3 h4⟩
theorem bef_succ {D : List He} {k s : Nat} {e : He} (he : D[k]? = some e) : bef (D.take (k + 1)) s = bef (D.take k) s + (if e.St < s then 1 else 0):=by
 obtain ⟨hk,rfl⟩:=List.getElem?_eq_some_iff.1 he
 unfold bef
 rw [List.take_succ_eq_append_getElem hk,List.countP_append]
 congr 1
 by_cases h : D[k].St < s
 · simp [h]
 · simp [h]
end Go.Proofs.YtlolfmoolgenpaaGreat
