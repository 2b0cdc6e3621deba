import Derived.Test.YtlolfmoolgenpaaGreatDropFarm
import Derived.Test.YtlolfmoolgenpaaGreatActDo
import Derived.Test.YtlolfmoolgenpaaGreatAllocCamp
namespace Go.Proofs.YtlolfmoolgenpaaGreat
open Go.RowKit
theorem behind_st (cg v : Int) : behindW cg v % 8 = 0 \/ behindW cg v % 8 = 3:=by
 unfold behindW
 have hg:=genOf_le v
 split
 · have:=packS_dec (st:=3) (A:=0) (G:=genOf v) (V:=0) (by decide) (by decide) hg (by decide)
   exact Or.inr this.1
 · left
   unfold packS
   rw [cut_id 0 3 (by omega) (by decide),cut_id 0 20 (by omega) (by decide),cut_id 0 22 (by omega) (by decide)]
   omega
inductive DTells (t n k m : Nat) (cg : Int) (own : Bool) (x G : Nat) : Nat -> Q -> Dp -> Q -> Dp -> Prop where
 | one {q : Q} {α : Dp} {q' : Q} {α' : Dp} (ho : α.over? = false) (hg : α.good t n k m x G q) (ht : dpTurn t n k m cg own x G q α = (q',α')) (h : α'.over? = true) : DTells t n k m cg own x G 1 q α q' α'
 | more {N : Nat} {q : Q} {α : Dp} {q1 : Q} {α1 : Dp} {q' : Q} {α' : Dp} (ho : α.over? = false) (hg : α.good t n k m x G q) (ht : dpTurn t n k m cg own x G q α = (q1,α1)) (h : α1.over? = false) (hw : ∀ Z i η,α = .fin Z i η -> α1 = .count Z i -> q1.sw x ≠ q.sw x) (g : DTells t n k m cg own x G N q1 α1 q' α') : DTells t n k m cg own x G (N + 1) q α q' α'
section
variable {t n k m : Nat} {cg : Int} {own : Bool} {x G : Nat}
theorem fin_tells {q : Q} {v : Int} {Z i : Nat} (O : ∃ i,Obj9 t n k m v Z i) (hdw : ∀ a,Wd (q.dw a)) (hc : ∀ j,j < Z -> frozenIn (q.dw (adOf v + 1 + j)) (verOf' v) = false) {M : Nat} {q' : Q} {α' : Dp} (g : DTells t n k m cg own x G M (q.fz (adOf v) (verOf' v) Z) (.fin Z i (.go v Z Z none)) q' α') : ∀ d j,j + d = Z -> DTells t n k m cg own x G (2 * d + M) (q.fz (adOf v) (verOf' v) j) (.fin Z i (.go v Z j none)) q' α':=by
 intro d
 induction d with
 | zero =>
  intro j hj;obtain rfl : j = Z:=by omega
  rw [Nat.mul_zero,Nat.zero_add];exact g
 | succ d ih =>
  intro j hj
  have hlt : ¬ Z <= j:=by omega
  rw [show 2 * (d + 1) + M = (2 * d + M) + 1 + 1 by omega]
  refine .more (q1:=q.fz (adOf v) (verOf' v) j) (α1:=.fin Z i (.go v Z j (some (q.dw (adOf v + 1 + j))))) rfl ⟨⟨O,fun u hu=>by cases hu⟩,rfl⟩ ?_ rfl (fun _ _ _ e1 e2=>by first | (cases e1;done) | (cases e2;done)) (.more (q1:=q.fz (adOf v) (verOf' v) (j + 1)) (α1:=.fin Z i (.go v Z (j + 1) none)) rfl ⟨⟨O,fun u hu=>by cases hu;exact hdw _⟩,rfl⟩ ?_ rfl (fun _ _ _ e1 e2=>by first | (cases e1;done) | (cases e2;done)) (ih (j + 1) (by omega)))
  · have e : (q.fz (adOf v) (verOf' v) j).dw (adOf v + 1 + j) = q.dw (adOf v + 1 + j):=frz_at _ _ _ _
    simp only [dpTurn,hpTurn,hlt,if_false,e,hc j (by omega)]
    rfl
  · have e : (q.fz (adOf v) (verOf' v) j).dw (adOf v + 1 + j) = q.dw (adOf v + 1 + j):=frz_at _ _ _ _
    simp only [dpTurn,hpTurn,hlt,if_false,e,if_true]
    have:=frz_next q.dw (adOf v) (verOf' v) j
    simp only [Q.fz,dpFin,this]
theorem mark_tells {q : Q} {v : Int} {Z i : Nat} (O : Obj9 t n k m v Z i) (hdw : ∀ a,Wd (q.dw a)) (hv : verOf' v < 4194303) (hc : ∀ j,j < Z -> frozenIn (q.dw (adOf v + 1 + j)) (verOf' v + 1) = false) (hw : q.sw x = v) {M : Nat} {q' : Q} {α' : Dp} (g : DTells t n k m cg own x G M { q with sw:=upd q.sw x (behindW cg v),dw:=frz q.dw (adOf v) (verOf' v + 1) Z } (.count Z i) q' α') : DTells t n k m cg own x G (2 * Z + (M + 1) + 1) q (.mark v Z) q' α':=by
 obtain ⟨d1,d2,d3,d4⟩:=mark_dec hv
 have O':=O.mark hv
 have ci : (chunkOf t n k m (adOf v)).toNat = i:=by rw [O.c1];simp
 refine .more (q1:={ q with sw:=upd q.sw x (markW v) }) (α1:=.fin Z i (.go (markW v) Z 0 none)) rfl ⟨i,O⟩ ?_ rfl (fun _ _ _ e1 e2=>by first | (cases e1;done) | (cases e2;done)) ?_
 · simp only [dpTurn,hw,if_true,ci]
 · have f  :=fin_tells (cg:=cg) (own:=own) (x:=x) (G:=G) (i:=i) (q:={ q with sw:=upd q.sw x (markW v) }) (v:=markW v) (Z:=Z) ⟨i,O'⟩ hdw (fun j hj=>by rw [d2,d4];exact hc j hj) (M:=M + 1) (q':=q') (α':=α') ?_ Z 0 (by omega)
   · rwa [show Q.fz { q with sw:=upd q.sw x (markW v) } (adOf (markW v)) (verOf' (markW v)) 0 = { q with sw:=upd q.sw x (markW v) } by unfold Q.fz;rw [frz0]] at f
   · have ne : ¬ upd q.sw x (behindW cg v) x = upd q.sw x (markW v) x:=by
      rw [upd_same,upd_same]
      intro h
      have h1:=d1
      rw [<- h] at h1
      rcases behind_st cg v with k | k <;> omega
     refine .more (q1:={ q with sw:=upd q.sw x (behindW cg v),dw:=frz q.dw (adOf v) (verOf' v + 1) Z }) (α1:=.count Z i) rfl ⟨⟨⟨i,O'⟩,fun u hu=>by cases hu⟩,rfl⟩ ?_ rfl (fun _ _ _ _ _ h=>ne h) g
     have e : (Q.fz { q with sw:=upd q.sw x (markW v) } (adOf (markW v)) (verOf' (markW v)) Z).sw x = markW v:=upd_same _ _ _
     simp only [dpTurn,hpTurn,Nat.le_refl,if_true,hpEnd,e,dpFin]
     simp only [Q.fz,d2,d4,upd_upd,behind_mark hv]
theorem give_tells {q : Q} (hxF : x ∉ q.F) (hh : hd q.F <= n) : DTells t n k m cg own x G 3 q (.give .idle) { q with c:=q.c + 1,lk:=upd q.lk x (hd q.F),F:=x :: q.F } (.over 0):=by
 refine .more (q1:=q) (α1:=.give (.saw (hd q.F) q.c)) rfl ⟨hxF,trivial,rfl⟩ rfl rfl (fun _ _ _ e1 e2=>by first | (cases e1;done) | (cases e2;done)) (.more (q1:={ q with lk:=upd q.lk x (hd q.F) }) (α1:=.give (.lnk (hd q.F) q.c)) rfl ⟨hxF,⟨hh,Nat.le_refl _,fun _=>rfl⟩,rfl⟩ rfl rfl (fun _ _ _ e1 e2=>by first | (cases e1;done) | (cases e2;done)) (.one rfl ⟨hxF,⟨hh,upd_same _ _ _,Nat.le_refl _,fun _=>rfl⟩,rfl⟩ ?_ rfl))
 simp only [dpTurn,gvTurn,if_true,dpGive]
theorem count_tells {q : Q} {Z i : Nat} (z1 : 1 <= Z) (z2 : Z <= 16) (hik : i < k) (hlv : room (classOf Z).toNat <= q.lv i) (hxF : x ∉ q.F) (hh : hd q.F <= n) (hl : (G : Int) < cg) : DTells t n k m cg own x G 4 q (.count Z i) { q with lv:=upd q.lv i (q.lv i - room (classOf Z).toNat),c:=q.c + 1,lk:=upd q.lk x (hd q.F),F:=x :: q.F } (.over 0):=by
 refine .more (q1:={ q with lv:=upd q.lv i (q.lv i - room (classOf Z).toNat) }) (α1:=.give .idle) rfl ⟨z1,z2,hik,hlv⟩ ?_ rfl (fun _ _ _ e1 e2=>by first | (cases e1;done) | (cases e2;done)) (give_tells (q:={ q with lv:=upd q.lv i (q.lv i - room (classOf Z).toNat) }) hxF hh)
 simp only [dpTurn,show ¬ cg <= (G : Int) by omega,if_false]
theorem see_tells {q : Q} {Z i : Nat} (O : Obj9 t n k m (q.sw x) Z i) (hz : szOf (q.dw (adOf (q.sw x))) = Z) (ho : ownOf (q.dw (adOf (q.sw x))) = own) (hG : genOf (q.sw x) = G) (h4 : q.sw x % 8 ≠ 4) {M : Nat} {q' : Q} {α' : Dp} (g : DTells t n k m cg own x G M q (.mark (q.sw x) Z) q' α') : DTells t n k m cg own x G (M + 1 + 1) q .see q' α':=by
 refine .more (q1:=q) (α1:=.ask (q.sw x)) rfl (fun _ _=>⟨i,by rw [hz];exact O⟩) ?_ rfl (fun _ _ _ e1 e2=>by first | (cases e1;done) | (cases e2;done)) (.more (q1:=q) (α1:=.mark (q.sw x) Z) rfl ⟨i,by rw [hz];exact O⟩ ?_ rfl (fun _ _ _ e1 e2=>by first | (cases e1;done) | (cases e2;done)) g)
 · simp only [dpTurn,O.life,hG,decide_true,Bool.and_self,if_true]
 · simp only [dpTurn,dpAsk,ho,beq_self_eq_true,if_true,h4,if_false,hz]
theorem tells_gone {q : Q} {Z i : Nat} (O : Obj9 t n k m (q.sw x) Z i) (hdw : ∀ a,Wd (q.dw a)) (hz : szOf (q.dw (adOf (q.sw x))) = Z) (ho : ownOf (q.dw (adOf (q.sw x))) = own) (hG : genOf (q.sw x) = G) (h4 : q.sw x % 8 ≠ 4) (hv : verOf' (q.sw x) < 4194303) (hc : ∀ j,j < Z -> frozenIn (q.dw (adOf (q.sw x) + 1 + j)) (verOf' (q.sw x) + 1) = false) (hlv : room (classOf Z).toNat <= q.lv i) (hxF : x ∉ q.F) (hh : hd q.F <= n) (hl : (G : Int) < cg) : DTells t n k m cg own x G (2 * Z + 8) q .see (q.gone cg x (q.sw x) Z i) (.over 0) :=
 see_tells O hz ho hG h4 (mark_tells O hdw hv hc rfl (count_tells (q:={ q with sw:=upd q.sw x (behindW cg (q.sw x)),dw:=frz q.dw (adOf (q.sw x)) (verOf' (q.sw x) + 1) Z }) O.z1 O.z2 O.ik hlv hxF hh hl))
end
end Go.Proofs.YtlolfmoolgenpaaGreat

namespace Go.Proofs.YtlolfmoolgenpaaGreat
open Go.RowKit
inductive DwRuns (t n k m : Nat) (cg : Int) : Nat -> Nat -> Q -> Dw -> Nat -> Q -> Dw -> Prop where
 | one {σ : Nat} {q : Q} {δ : Dw} {q' : Q} {δ' : Dw} (hn : δ.need t n k m cg q) (ht : dwTurn t n k m cg σ q δ = (q',δ')) (h : δ'.over? = true) : DwRuns t n k m cg 1 σ q δ (σ + δ.cost) q' δ'
 | more {N σ : Nat} {q : Q} {δ : Dw} {q1 : Q} {δ1 : Dw} {σ' : Nat} {q' : Q} {δ' : Dw} (hn : δ.need t n k m cg q) (ht : dwTurn t n k m cg σ q δ = (q1,δ1)) (h : δ1.over? = false) (g : DwRuns t n k m cg N (σ + δ.cost) q1 δ1 σ' q' δ') : DwRuns t n k m cg (N + 1) σ q δ σ' q' δ'
section
variable {t n k m : Nat} {cg : Int} {who N σ σ' : Nat} {q q' : Q} {δ δ' : Dw} {pn : Nat -> Int}
theorem turn3 {q1 : Q} {δ1 : Dw} (ht : dwTurn t n k m cg σ q δ = (q1,δ1)) : asTurn t n k m cg who ⟨σ,q,pn,3,δ⟩ = ⟨σ + δ.cost,q1,pn,if δ1.over? then 4 else 3,δ1⟩:=by
 show As.mk _ _ _ _ _ = _
 rw [ht]
theorem DwRuns.as (g : DwRuns t n k m cg N σ q δ σ' q' δ') : AsRuns t n k m cg who (N + 1) ⟨σ,q,pn,3,δ⟩ ⟨σ' + 1,q',upd pn who 0,5,δ'⟩:=by
 induction g with
 | one hn ht h =>
  refine .more (by show 3 ≠ 5;omega) (fun _=>hn) (turn3 ht) (by rw [h];show 4 ≠ 5;omega) ?_
  rw [h,if_pos rfl]
  exact .one (by show 4 ≠ 5;omega) (fun e=>absurd e (by show ¬ 4 = 3;omega)) rfl rfl
 | more hn ht h g ih =>
  refine .more (by show 3 ≠ 5;omega) (fun _=>hn) (turn3 ht) (by rw [h];show 3 ≠ 5;omega) ?_
  rw [h,if_neg (by decide)]
  exact ih
theorem DwRuns.all (g : DwRuns t n k m cg N (σ + 3) q δ σ' q' δ') : AsRuns t n k m cg who (N + 4) ⟨σ,q,pn,0,δ⟩ ⟨σ' + 1,q',upd pn who 0,5,δ'⟩:=by
 have r:=g.as (who:=who) (pn:=upd pn who 1)
 rw [upd_upd] at r
 exact .more (by show 0 ≠ 5;omega) (fun e=>absurd e (by show ¬ 0 = 3;omega)) rfl (by show 1 ≠ 5;omega) (.more (by show 1 ≠ 5;omega) (fun e=>absurd e (by show ¬ 1 = 3;omega)) rfl (by show 2 ≠ 5;omega) (.more (by show 2 ≠ 5;omega) (fun e=>absurd e (by show ¬ 2 = 3;omega)) rfl (by show 3 ≠ 5;omega) r))
theorem runs_al {κ : Nat} {z : Int} {own : Bool} {α α' : Al} (g : Runs t n k m κ z own N σ q α q' α') : DwRuns t n k m cg N σ q (.al z own κ α) (σ + N) q' (.al z own κ α'):=by
 induction g with
 | one ho ht h=>exact .one trivial (by simp only [dwTurn,ht]) h
 | more ho ht h g ih =>
  rename_i N σ q α q1 α1 q' α'
  rw [show σ + (N + 1) = σ + 1 + N by omega]
  exact .more (q1:=q1) (δ1:=.al z own κ α1) trivial (by simp only [dwTurn,ht]) h ih
theorem runs_dp {nu : Int} {own : Bool} {x G : Nat} {α α' : Dp} (g : DTells t n k m cg own x G N q α q' α') : ∀ σ,DwRuns t n k m cg N σ q (.dp nu own x G α) (σ + N) q' (.dp nu own x G α'):=by
 induction g with
 | one ho hg ht h=>exact fun σ=>.one ⟨hg,fun Z i η _ e=>by rw [ht] at e;simp only at e;rw [e] at h;cases h⟩ (by simp only [dwTurn,ht]) h
 | more ho hg ht h hw g ih =>
  rename_i N q α q1 α1 q' α'
  intro σ
  rw [show σ + (N + 1) = σ + 1 + N by omega]
  exact .more (q1:=q1) (δ1:=.dp nu own x G α1) ⟨hg,fun Z i η e1 e2=>by rw [ht] at e2 ⊢;exact hw Z i η e1 e2⟩ (by simp only [dwTurn,ht]) h (ih (σ + 1))
theorem reads_dp {nu : Int} {own : Bool} {x G : Nat} {α α' : Dp} (g : DReads t n k m cg own x G N q α q' α') : ∀ σ,DwRuns t n k m cg N σ q (.dp nu own x G α) (σ + N) q' (.dp nu own x G α'):=by
 induction g with
 | one ho hr hg ht h=>exact fun σ=>.one ⟨hg,fun Z i η e _=>by rw [e] at hr;cases hr⟩ (by simp only [dwTurn,ht]) h
 | more ho hr hg ht h g ih =>
  rename_i N q α q1 α1 q' α'
  intro σ
  rw [show σ + (N + 1) = σ + 1 + N by omega]
  exact .more (q1:=q1) (δ1:=.dp nu own x G α1) ⟨hg,fun Z i η e _=>by rw [e] at hr;cases hr⟩ (by simp only [dwTurn,ht]) h (ih (σ + 1))
theorem runs_ac {W : Wt} {own : Bool} {x G : Nat} {b : Bool} {α α' : Ac} (g : ARuns t n k m W own x G b N σ q α q' α') : DwRuns t n k m cg N σ q (.ac W own x G α) (σ + N) q' (.ac W own x G α'):=by
 induction g with
 | one hb ho hg ht h=>exact .one hg (by simp only [dwTurn,ht]) h
 | more hb ho hg ht h g ih =>
  rename_i N σ q α q1 α1 q' α'
  rw [show σ + (N + 1) = σ + 1 + N by omega]
  exact .more (q1:=q1) (δ1:=.ac W own x G α1) hg (by simp only [dwTurn,ht]) h ih
theorem runs_bad (c : Nat) (E : Int) : DwRuns t n k m cg 1 σ q (.bad c E) σ q (.fin c E σ):=.one trivial rfl rfl
end
end Go.Proofs.YtlolfmoolgenpaaGreat

namespace Go.Proofs.YtlolfmoolgenpaaGreat
open Go.RowKit
def Covers (n : Nat) (q : Q) (ls : List Ox) : Prop:=∀ x,x < n -> x ∈ q.F \/ ∃ o ∈ ls,o.x = x
section
variable {t n k m nx : Nat} {q : Q} {gen : Nat -> Nat} {ls : List Ox} {cg : Int}
theorem Ox.words {o o' : Ox} (K : o.ok t n k m) (K' : o'.ok t n k m) (h : o.apart o') {j j' : Nat} (hj : j <= o.Z) (hj' : j' <= o'.Z) : o.a + j ≠ o'.a + j':=by
 have r1:=size_room K.z1 K.kz
 have r2:=size_room K'.z1 K'.kz
 have u1:=K.uk
 have u2:=K'.uk
 intro e
 rcases h.2 with h | h | h
 · refine Ox.word_apart K (j:=j) (i:=o'.i) (u:=o'.u + j') hj (by omega) (Or.inl h) ?_
   have:=K'.ae;omega
 · refine Ox.word_apart K (j:=j) (i:=o'.i) (u:=o'.u + j') hj (by omega) (Or.inr (by omega)) ?_
   have:=K'.ae;omega
 · refine Ox.word_apart K' (j:=j') (i:=o.i) (u:=o.u + j) hj' (by omega) (Or.inr (by omega)) ?_
   have:=K.ae;omega
theorem Tame.deadB (C : Tame t n k m q nx gen ls) (hG : Good t n k m cg 600 3) (hn : n <= 65535) (cov : Covers n q ls) {x G : Nat} (hx : x < n) (h : ∀ o ∈ ls,¬ (o.x = x /\ o.g = G)) : (lifeB (q.sw x % 8) && decide (genOf (q.sw x) = G)) = false:=by
 rcases cov x hx with hF | ⟨o,ho,rfl⟩
 · have e:=C.sw x hF
   have b:=(C.gb x hx).2
   have d:=packS_dec (st:=0) (A:=0) (G:=gen x) (V:=0) (by decide) (by decide) b (by decide)
   rw [e,show packS 0 0 (gen x : Int) 0 = packS ((0 : Nat) : Int) ((0 : Nat) : Int) (gen x) ((0 : Nat) : Int) from rfl,d.1]
   rfl
 · have I:=C.is hG hn ho
   have : ¬ genOf (q.sw o.x) = G:=fun e=>h o ho ⟨rfl,by rw [<- I.gn];exact e⟩
   rw [decide_eq_false this,Bool.and_false]
theorem Tame.uniq (C : Tame t n k m q nx gen ls) {o o' : Ox} (ho : o ∈ ls) (ho' : o' ∈ ls) (e : o'.x = o.x) : o' = o:=by
 obtain ⟨l1,l2,rfl⟩:=List.append_of_mem ho
 have hap : ∀ o',o' ∈ l1 ++ l2 -> o.apart o':=(List.pairwise_cons.1 ((List.pairwise_middle Ox.apart_symm).1 C.pw)).1
 rcases List.mem_append.1 ho' with h | h
 · exact absurd e.symm (hap o' (by simp [h])).1
 · rcases List.mem_cons.1 h with h | h
   · exact h
   · exact absurd e.symm (hap o' (by simp [h])).1
theorem Tame.laid {l1 l2 : List Ox} {o : Ox} (C : Tame t n k m q nx gen (l1 ++ o :: l2)) {j : Nat} (hj : j < o.Z) {v : Int} (h0 : 0 <= v) (h1 : v <= 1099511627775) : Tame t n k m { q with dw:=upd q.dw (o.a + 1 + j) v } nx gen (l1 ++ o :: l2):=by
 have ho : o ∈ l1 ++ o :: l2:=by simp
 have K:=C.ok o ho
 have hrm:=size_room K.z1 K.kz
 have hap : ∀ o',o' ∈ l1 ++ l2 -> o.apart o':=(List.pairwise_cons.1 ((List.pairwise_middle Ox.apart_symm).1 C.pw)).1
 have hw : ∀ o',o' ∈ l1 ++ o :: l2 -> ∀ j',j' <= o'.Z -> o'.a + j' ≠ o.a + 1 + j \/ (o' = o /\ j' = 1 + j):=by
  intro o' h' j' hj'
  have : o' = o \/ o' ∈ l1 ++ l2:=by
   rcases List.mem_append.1 h' with h | h
   · exact Or.inr (by simp [h])
   · rcases List.mem_cons.1 h with h | h
     · exact Or.inl h
     · exact Or.inr (by simp [h])
  rcases this with rfl | hm
  · by_cases e : j' = 1 + j
    · exact Or.inr ⟨rfl,e⟩
    · exact Or.inl (by omega)
  · refine Or.inl fun e=>?_
    exact Ox.words K (C.ok o' h') (hap o' hm) (j:=1 + j) (by omega) hj' (by omega)
 refine ⟨C.al,C.us,fun i hi u h2 h3=>?_,C.sw,C.gb,C.gn,C.ok,fun o' h'=>?_,C.pw,C.lv,fun b=>?_⟩
 · show upd q.dw _ _ _ = 0
   have hus:=(C.li o ho).us
   rw [upd_other _ _ _ _ ?_]
   · exact C.dw i hi u h2 h3
   · intro e
     refine Ox.word_apart K (j:=1 + j) (i:=i) (u:=u) (by omega) h3 ?_ (by omega)
     by_cases e : o.i = i
     · right;rw [e] at hus;exact Nat.le_trans hus h2
     · exact Or.inl e
 · have A:=C.li o' h'
   refine ⟨A.nf,A.sw,?_,fun j' h2 h3=>?_,A.us⟩
   · show upd q.dw _ _ _ = _
     rw [upd_other _ _ _ _ ?_]
     · exact A.hw
     · rcases hw o' h' 0 (Nat.zero_le _) with e | ⟨_,e⟩
       · exact e
       · omega
   · show 0 <= upd q.dw _ _ _ /\ upd q.dw _ _ _ <= _
     rcases hw o' h' j' h3 with e | ⟨rfl,rfl⟩
     · rw [upd_other _ _ _ _ e];exact A.nt j' h2 h3
     · rw [<- Nat.add_assoc,upd_same];exact ⟨h0,h1⟩
 · show Wd (upd q.dw _ _ b)
   unfold upd
   split
   · exact ⟨h0,Int.le_trans h1 (by decide)⟩
   · exact C.wb b
end
theorem HandIs.pack {nu : Int} {x G : Nat} (h : HandIs nu x G) (hx : x <= 65535) (hG : G <= 65535) : nu = packH x G:=by
 rw [packH_is x G hx hG]
 have:=h.x
 have:=h.g
 omega
theorem hand_or {n : Nat} {nu : Int} (h : Wd nu) : NoHand n nu \/ ∃ x G : Nat,HandIs nu x G /\ x < n /\ G <= 65535:=by
 by_cases h1 : nu < 65536 \/ 4294967296 <= nu
 · exact Or.inl ⟨h,Or.inl h1⟩
 · obtain ⟨x,hx⟩ : ∃ x : Nat,nu % 65536 = x:=⟨(nu % 65536).toNat,by omega⟩
   obtain ⟨G,hG⟩ : ∃ G : Nat,nu / 65536 = G:=⟨(nu / 65536).toNat,by omega⟩
   have H : HandIs nu x G:=⟨by omega,by omega,hx,hG⟩
   by_cases e : x < n
   · exact Or.inr ⟨x,G,H,e,by omega⟩
   · exact Or.inl ⟨h,Or.inr ⟨x,G,H,by omega⟩⟩
def Keeps (q q' : Q) (ls : List Ox) : Prop:=∀ o ∈ ls,∀ j,1 <= j -> j <= o.Z -> q'.dw (o.a + j) = q.dw (o.a + j)
inductive Out (k : Nat) (X : Xa) (q : Q) (nx : Nat) (gen : Nat -> Nat) (ls : List Ox) : Int -> Int -> Int -> Q -> Nat -> (Nat -> Nat) -> List Ox -> Prop where
 | size (h : X.kd = 1) (hz : classOf X.sz < 0) : Out k X q nx gen ls 5 0 0 q nx gen ls
 | empty (h : X.kd = 1) (hz : 0 <= classOf X.sz) (hF : q.F = []) : Out k X q nx gen ls 7 0 0 q nx gen ls
 | full (h : X.kd = 1) (hz : 0 <= classOf X.sz) (x : Nat) (F : List Nat) (hF : q.F = x :: F) (hk : nx = k) : Out k X q nx gen ls 6 0 0 (q.back x F q.y) nx gen ls
 | made (h : X.kd = 1) (hz : 0 <= classOf X.sz) (o : Ox) (q' : Q) (nx' : Nat) (hZ : X.sz = o.Z) (ho : o.own = X.own) (hF : q.F = o.x :: q'.F) (hg : o.g = gen o.x) (h0 : ∀ j,1 <= j -> j <= o.Z -> q'.dw (o.a + j) = 0) (hk : Keeps q q' ls) (hn : nx' <= nx + 1) : Out k X q nx gen ls 0 (packH o.x o.g) 0 q' nx' gen (o :: ls)
 | dead (h : X.kd ≠ 1) (hd : ∀ o ∈ ls,X.nu = packH o.x o.g -> o.own ≠ X.own) : Out k X q nx gen ls 3 0 0 q nx gen ls
 | gone (h : X.kd = 2) (l1 : List Ox) (o : Ox) (l2 : List Ox) (e : ls = l1 ++ o :: l2) (hh : X.nu = packH o.x o.g) (ho : o.own = X.own) (q' : Q) (hF : q'.F = o.x :: q.F) (hk : Keeps q q' (l1 ++ l2)) : Out k X q nx gen ls 0 0 0 q' nx (upd gen o.x (o.g + 1)) (l1 ++ l2)
 | index (h : 3 <= X.kd) (o : Ox) (hm : o ∈ ls) (hh : X.nu = packH o.x o.g) (ho : o.own = X.own) (hi : ¬ (0 <= X.ix /\ X.ix < o.Z)) : Out k X q nx gen ls 4 0 0 q nx gen ls
 | read (h : 3 <= X.kd) (o : Ox) (hm : o ∈ ls) (hh : X.nu = packH o.x o.g) (ho : o.own = X.own) (j : Nat) (hj : X.ix = j) (hi : j < o.Z) (hr : X.kd = 3) : Out k X q nx gen ls 0 0 (q.dw (o.a + 1 + j)) q nx gen ls
 | other (h : 3 <= X.kd) (o : Ox) (hm : o ∈ ls) (hh : X.nu = packH o.x o.g) (ho : o.own = X.own) (j : Nat) (hj : X.ix = j) (hi : j < o.Z) (hr : X.kd = 5) (hv : q.dw (o.a + 1 + j) ≠ X.ol) : Out k X q nx gen ls 8 0 (q.dw (o.a + 1 + j)) q nx gen ls
 | laid (h : 3 <= X.kd) (o : Ox) (hm : o ∈ ls) (hh : X.nu = packH o.x o.g) (ho : o.own = X.own) (j : Nat) (hj : X.ix = j) (hi : j < o.Z) (hr : X.kd ≠ 3) (hv : X.kd = 5 -> q.dw (o.a + 1 + j) = X.ol) : Out k X q nx gen ls 0 0 (q.dw (o.a + 1 + j)) { q with dw:=upd q.dw (o.a + 1 + j) X.vl } nx gen ls
def Tells (σ σ' : Nat) (δ' : Dw) (E H V : Int) : Prop:=∀ (σ0 τ : Nat) (E' H' V' St : Int),σ0 < σ -> σ' <= τ -> δ'.told σ0 τ E' H' V' St -> E' = E /\ H' = H /\ V' = V /\ (σ0 : Int) <= St /\ St <= (τ : Int) /\ (E = 0 -> (σ0 : Int) < St)
structure Fates (t n k m : Nat) (X : Xa) (σ : Nat) (q : Q) (nx : Nat) (gen : Nat -> Nat) (ls : List Ox) (E H V : Int) (q' : Q) (nx' : Nat) (gen' : Nat -> Nat) (ls' : List Ox) : Prop where
 out : Out k X q nx gen ls E H V q' nx' gen' ls'
 ex : ∃ δ N σ' δ',Starts n X δ /\ N <= k + 40 /\ σ' <= σ + 400 /\ DwRuns t n k m 100 N σ q δ σ' q' δ' /\ Tells σ σ' δ' E H V
 tm : Tame t n k m q' nx' gen' ls'
 cv : Covers n q' ls'
theorem fate {t n k m nx : Nat} {q : Q} {gen : Nat -> Nat} {ls : List Ox} {s : Mm} {σ : Nat} (X : Xa) (hG : Good t n k m 100 600 3) (hT : Pile t n s σ q.c q.lk q.F) (C : Tame t n k m q nx gen ls) (cov : Covers n q ls) (hg : ∀ o ∈ ls,o.g < 100) (h1 : 1 <= X.kd) (h5 : X.kd <= 5) (hv : 0 <= X.vl /\ X.vl <= 1099511627775) (hz : Fit X.sz) (hu : Wd X.nu) (σ : Nat) :
 ∃ E H V q' nx' gen' ls',Fates t n k m X σ q nx gen ls E H V q' nx' gen' ls':=by
 have hn:=hT.big
 by_cases k1 : X.kd = 1
 · by_cases hc : classOf X.sz < 0
   · exact ⟨5,0,0,q,nx,gen,ls,.size k1 hc,⟨_,1,σ,_,.badA k1 hc,by omega,by omega,runs_bad 0 5,fun σ0 τ E' H' V' St h0 h1 ht=>by obtain ⟨rfl,rfl,rfl,rfl⟩:=ht;exact ⟨rfl,rfl,rfl,by omega,by omega,fun h=>by cases h⟩⟩,C,cov⟩
   · obtain ⟨Z,κ,hZ,z1,z2,kz,hκ⟩ : ∃ Z κ : Nat,X.sz = Z /\ 1 <= Z /\ Z <= 16 /\ classOf Z = κ /\ κ < 4:=by
      unfold classOf at hc
      have z0 : 1 <= X.sz /\ X.sz <= 16:=by
       split at hc
       · exact absurd (by decide) hc
       · split at hc
         · omega
         · split at hc
           · omega
           · split at hc
             · omega
             · split at hc
               · omega
               · exact absurd (by decide) hc
      refine ⟨X.sz.toNat,(classOf X.sz).toNat,by omega,by omega,by omega,?_,?_⟩
      · rw [show ((X.sz.toNat : Nat) : Int) = X.sz by omega]
        have : 0 <= classOf X.sz:=by unfold classOf;omega
        omega
      · have : classOf X.sz < 4:=by unfold classOf;omega
        omega
     have hκz : classOf X.sz = κ:=by rw [hZ];exact kz
     have st : Starts n X (.al X.sz X.own κ (.take .idle)):=.al κ k1 hz hκz hκ
     have c0 : 0 <= classOf X.sz:=by omega
     cases hF : q.F with
     | nil =>
      exact ⟨7,0,0,q,nx,gen,ls,.empty k1 c0 hF,⟨_,1,σ + 1,_,st,by omega,by omega,runs_al (runs_none hF),fun σ0 τ E' H' V' St h0 h1 ht=>by obtain ⟨rfl,rfl,rfl,rfl⟩:=ht;exact ⟨rfl,rfl,rfl,by omega,by omega,fun h=>by cases h⟩⟩,C,cov⟩
     | cons x F =>
      have hx : x < n:=hT.lt x (by rw [hF];simp)
      obtain ⟨N,y',nx',τ',hN,go,g⟩:=alone_goes (bs:=base t n k m) C.al hκ hG.n0 hG.k0 hG.k1
      have hk:=hG.k1
      rcases pl_fate τ' with hf | ⟨A,i,rfl⟩ | rfl
      · cases g <;> cases hf
      · have r:=runs_made (z:=X.sz) (own:=X.own) (σ:=σ) hF go
        have hgn:=C.gen_is (by rw [hF];simp) hx
        rw [hgn] at r
        have C':=C.made (own:=X.own) hκ hG.n0 z1 z2 kz hF hT.nd hx g
        obtain ⟨hik,ha,hu',⟨sp,hck⟩,hoth⟩:=g.won_is C.al hκ (by have:=room_bd κ;have:=hG.n0;omega)
        have hrm:=size_room z1 kz
        have K:=C'.ok (q.ox gen x A i Z κ X.own) (by simp)
        have hap:=(List.pairwise_cons.1 C'.pw).1
        rw [<- hZ] at C'
        have tl : Tells σ (σ + (N + 4 + 4)) (.al X.sz X.own κ (.over 0 (packH x (gen x)) (σ + 4 + N + 2 + 1))) 0 (packH x (gen x)) 0:=fun σ0 τ E' H' V' St h0 h1 ht=>by
         obtain ⟨e1,e2,e3,e4⟩:=ht
         exact ⟨e1,e2,e3,by omega,by omega,fun _=>by omega⟩
        have ex : ∃ δ N' σ' δ',Starts n X δ /\ N' <= k + 40 /\ σ' <= σ + 400 /\ DwRuns t n k m 100 N' σ q δ σ' (q.made x F y' A i κ X.sz X.own) δ' /\ Tells σ σ' δ' 0 (packH x (gen x)) 0:=⟨_,N + 4 + 4,σ + (N + 4 + 4),_,st,by omega,by omega,runs_al r,tl⟩
        refine ⟨0,packH x (gen x),0,q.made x F y' A i κ X.sz X.own,nx',gen,q.ox gen x A i Z κ X.own :: ls,Out.made k1 c0 (q.ox gen x A i Z κ X.own) (q.made x F y' A i κ X.sz X.own) nx' hZ rfl hF rfl (fun j h1 h2=>?_) (fun o' ho' j h1 h2=>?_) (by cases g <;> omega),ex,C',fun v hv'=>?_⟩
        · have h2' : j <= Z:=h2
          show upd (upd q.dw A _) A _ (A + j) = 0
          rw [upd_other _ _ _ _ (by omega),upd_other _ _ _ _ (by omega),ha,Nat.add_assoc]
          exact C.dw i hik _ (by omega) (by omega)
        · show upd (upd q.dw A _) A _ (o'.a + j) = _
          have:=Ox.words K (C.ok o' ho') (hap o' ho') (j:=0) (j':=j) (Nat.zero_le _) h2
          have hne : o'.a + j ≠ A:=fun e=>this (by show A + 0 = _;omega)
          rw [upd_other _ _ _ _ hne,upd_other _ _ _ _ hne]
        · rcases cov v hv' with h | ⟨o',ho',e⟩
          · rw [hF] at h
            rcases List.mem_cons.1 h with rfl | h
            · exact Or.inr ⟨_,List.mem_cons_self,rfl⟩
            · exact Or.inl h
          · exact Or.inr ⟨o',List.mem_cons_of_mem _ ho',e⟩
      · obtain ⟨hyy,hnk⟩ : y' = q.y /\ nx = k:=by
         cases g with
         | none hno h=>exact ⟨rfl,h⟩
        subst hyy
        refine ⟨6,0,0,q.back x F q.y,nx,gen,ls,.full k1 c0 x F hF hnk,⟨_,_,_,_,st,by omega,by omega,runs_al (runs_back hF go),fun σ0 τ E' H' V' St h0 h1 ht=>by obtain ⟨rfl,rfl,rfl,rfl⟩:=ht;exact ⟨rfl,rfl,rfl,by omega,by omega,fun h=>by cases h⟩⟩,C.back hF,fun v hv'=>?_⟩
        have:=cov v hv'
        rw [hF] at this
        exact this
 · have he : ∀ {x G : Nat},HandIs X.nu x G -> x < n -> G <= 65535 -> (∃ o ∈ ls,o.x = x /\ o.g = G) \/ ((lifeB (q.sw x % 8) && decide (genOf (q.sw x) = G)) = false /\ ∀ o ∈ ls,X.nu = packH o.x o.g -> o.own ≠ X.own):=by
    intro x G hh hx hG'
    by_cases hl : ∃ o ∈ ls,o.x = x /\ o.g = G
    · exact Or.inl hl
    · have hno : ∀ o ∈ ls,¬ (o.x = x /\ o.g = G):=fun o ho e=>hl ⟨o,ho,e⟩
      refine Or.inr ⟨C.deadB hG hn cov hx hno,fun o ho e=>absurd ?_ (hno o ho)⟩
      have K:=C.ok o ho
      have x1:=K.x1
      have g2:=K.g2
      have h1:=hh.x
      have h2:=hh.g
      rw [e,packH_is o.x o.g (by omega) g2] at h1 h2
      omega
   have ho2 : ∀ {o : Ox},o ∈ ls -> X.nu = packH o.x o.g -> o.own ≠ X.own -> ∀ o' ∈ ls,X.nu = packH o'.x o'.g -> o'.own ≠ X.own:=by
    intro o ho ep hw o' ho' e
    have K:=C.ok o ho
    have K':=C.ok o' ho'
    have x1:=K.x1
    have x2:=K'.x1
    rw [ep,packH_is o.x o.g (by omega) K.g2,packH_is o'.x o'.g (by omega) K'.g2] at e
    rw [C.uniq ho ho' (by omega)]
    exact hw
   have hne : NoHand n X.nu -> ∀ o ∈ ls,X.nu = packH o.x o.g -> o.own ≠ X.own:=by
    intro hno o ho e
    exfalso
    have K:=C.ok o ho
    have x1:=K.x1
    have g1:=K.g1
    have g2:=K.g2
    rw [packH_is o.x o.g (by omega) g2] at e
    rcases hno.2 with h | ⟨x,G,hh,hx⟩
    · omega
    · have:=hh.x;omega
   by_cases k2 : X.kd = 2
   · rcases hand_or (n:=n) hu with hno | ⟨x,G,hh,hx,hG'⟩
     · exact ⟨3,0,0,q,nx,gen,ls,.dead k1 (hne hno),⟨_,1,σ,_,.badD k2 hno,by omega,by omega,runs_bad 1 3,fun σ0 τ E' H' V' St h0 h1 ht=>by obtain ⟨rfl,rfl,rfl,rfl⟩:=ht;exact ⟨rfl,rfl,rfl,by omega,by omega,fun h=>by cases h⟩⟩,C,cov⟩
     · have tl : ∀ (N : Nat) (E : Int),Tells σ (σ + N) (.dp X.nu X.own x G (.over E)) E 0 0:=fun N E σ0 τ E' H' V' St h0 h1 ht=>by
        obtain ⟨rfl,rfl,rfl,h2,h3,h4⟩:=ht;exact ⟨rfl,rfl,rfl,h2,h3,h4⟩
       rcases he hh hx hG' with ⟨o,ho,rfl,rfl⟩ | ⟨hd,hd'⟩
       · have I:=C.is hG hn ho
         have hp:=hh.pack (by omega) hG'
         by_cases hw : o.own = X.own
         · obtain ⟨l1,l2,rfl⟩:=List.append_of_mem ho
           have K:=C.ok o ho
           have z2:=K.z2
           have r:=tells_gone (cg:=100) (own:=X.own) I.obj C.wb I.sz (by rw [I.ow];exact hw) I.gn (by rw [I.st];decide) (by rw [I.vr];decide) I.cl (by rw [I.rm];exact C.room_le) (C.li o ho).nf hT.hdle (by have:=hg o ho;omega)
           have hap : ∀ o',o' ∈ l1 ++ l2 -> o.apart o':=(List.pairwise_cons.1 ((List.pairwise_middle Ox.apart_symm).1 C.pw)).1
           refine ⟨0,0,0,_,nx,_,_,.gone k2 l1 o l2 rfl hp hw (q.gone 100 o.x (q.sw o.x) o.Z o.i) rfl (fun o' ho' j h1 h2=>?_),⟨_,2 * o.Z + 8,_,_,.dp k2 hh hx,by omega,by omega,runs_dp r σ,tl _ 0⟩,C.gone hG hn (by have:=hg o ho;omega),fun v hv'=>?_⟩
           · have hm : o' ∈ l1 ++ o :: l2:=by
              rcases List.mem_append.1 ho' with h | h <;> simp [h]
             show frz q.dw _ _ _ (o'.a + j) = _
             rw [I.ad,frz_out]
             rintro ⟨h3,h4⟩
             exact Ox.words K (C.ok o' hm) (hap o' ho') (j:=o'.a + j - o.a) (j':=j) (by omega) h2 (by omega)
           · show v ∈ o.x :: q.F \/ _
             rcases cov v hv' with h | ⟨o',ho',e⟩
             · exact Or.inl (List.mem_cons_of_mem _ h)
             · rcases List.mem_append.1 ho' with h3 | h3
               · exact Or.inr ⟨o',List.mem_append_left _ h3,e⟩
               · rcases List.mem_cons.1 h3 with rfl | h3
                 · exact Or.inl (by rw [e];simp)
                 · exact Or.inr ⟨o',List.mem_append_right _ h3,e⟩
         · refine ⟨3,0,0,q,nx,gen,ls,.dead k1 (fun o' ho' e=>?_),⟨_,2,_,_,.dp k2 hh hx,by omega,by omega,reads_dp (reads_other I.obj I.sz I.gn (by rw [I.ow];exact hw)) σ,tl _ 3⟩,C,cov⟩
           exact ho2 ho hp hw o' ho' e
       · exact ⟨3,0,0,q,nx,gen,ls,.dead k1 hd',⟨_,1,_,_,.dp k2 hh hx,by omega,by omega,reads_dp (reads_dead hd) σ,tl _ 3⟩,C,cov⟩
   · have k3 : 3 <= X.kd:=by omega
     have fv : Fit X.vl:=⟨by omega,by omega⟩
     rcases hand_or (n:=n) hu with hno | ⟨x,G,hh,hx,hG'⟩
     · exact ⟨3,0,0,q,nx,gen,ls,.dead k1 (hne hno),⟨_,1,σ,_,.badC k3 h5 hno,by omega,by omega,runs_bad 2 3,fun σ0 τ E' H' V' St h0 h1 ht=>by obtain ⟨rfl,rfl,rfl,rfl⟩:=ht;exact ⟨rfl,rfl,rfl,by omega,by omega,fun h=>by cases h⟩⟩,C,cov⟩
     · have st:=Starts.ac (n:=n) k3 h5 fv hh hx
       have tl : ∀ (N st : Nat) (E V : Int),σ < st -> st <= σ + N -> Tells σ (σ + N) (.ac ⟨X.kd - 2,X.nu,X.ix,X.vl,X.ol⟩ X.own x G (.over E V st)) E 0 V:=fun N st E V hs1 hs2 σ0 τ E' H' V' St h0 h1 ht=>by
        obtain ⟨e1,e2,e3,e4⟩:=ht
        exact ⟨e1,e2,e3,by omega,by omega,fun _=>by omega⟩
       rcases he hh hx hG' with ⟨o,ho,rfl,rfl⟩ | ⟨hd,hd'⟩
       · have I:=C.is hG hn ho
         have hp:=hh.pack (by omega) hG'
         have S:=C.scn hG hn ho
         by_cases hw : o.own = X.own
         · by_cases hi : 0 <= X.ix /\ X.ix < o.Z
           · obtain ⟨j,hj⟩ : ∃ j : Nat,X.ix = j:=⟨X.ix.toNat,by omega⟩
             have hjZ : j < o.Z:=by omega
             have hat : Wt.at ⟨X.kd - 2,X.nu,X.ix,X.vl,X.ol⟩ (q.sw o.x) = o.a + 1 + j:=by
              show adOf (q.sw o.x) + 1 + X.ix.toNat = _
              rw [I.ad,hj];rfl
             have vb:=(C.li o ho).nt (1 + j) (by omega) (by omega)
             rw [<- Nat.add_assoc] at vb
             obtain ⟨c,hc⟩ : ∃ c,q.dw (o.a + 1 + j) = c:=⟨_,rfl⟩
             rw [hc] at vb
             have hcW : q.dw (Wt.at ⟨X.kd - 2,X.nu,X.ix,X.vl,X.ol⟩ (q.sw o.x)) = c:=by rw [hat];exact hc
             have hvc:=vOf_val vb.1 vb.2
             rw [hw] at S
             by_cases hr3 : X.kd = 3
             · have r:=S.reads (W:=⟨X.kd - 2,X.nu,X.ix,X.vl,X.ol⟩) (σ:=σ) hi.1 hi.2 hcW (by
                show (decide (X.kd - 2 = 1) || _) = true
                rw [decide_eq_true (by omega),Bool.true_or])
               have ho' : Wt.other ⟨X.kd - 2,X.nu,X.ix,X.vl,X.ol⟩ c = false:=by
                show (decide (X.kd - 2 = 3) && _) = false
                rw [decide_eq_false (by omega),Bool.false_and]
               rw [ho',hvc,if_neg (by decide)] at r
               have O:=Out.read (k:=k) (nx:=nx) (gen:=gen) k3 o ho hp hw j hj hjZ hr3 (q:=q)
               rw [hc] at O
               exact ⟨0,0,c,q,nx,gen,ls,O,⟨_,4,_,_,st,by omega,by omega,runs_ac r,tl 4 _ 0 c (by omega) (by omega)⟩,C,cov⟩
             · by_cases hr5 : X.kd = 5 /\ c ≠ X.ol
               · have ho' : Wt.other ⟨X.kd - 2,X.nu,X.ix,X.vl,X.ol⟩ c = true:=by
                  show (decide (X.kd - 2 = 3) && decide (vOf c ≠ X.ol)) = true
                  rw [hvc,decide_eq_true (by omega),decide_eq_true hr5.2];rfl
                 have r:=S.reads (W:=⟨X.kd - 2,X.nu,X.ix,X.vl,X.ol⟩) (σ:=σ) hi.1 hi.2 hcW (by
                  show (_ || Wt.other ⟨X.kd - 2,X.nu,X.ix,X.vl,X.ol⟩ c) = true
                  rw [ho',Bool.or_true])
                 rw [ho',hvc,if_pos rfl] at r
                 have O:=Out.other (k:=k) (nx:=nx) (gen:=gen) k3 o ho hp hw j hj hjZ hr5.1 (q:=q) (by rw [hc];exact hr5.2)
                 rw [hc] at O
                 exact ⟨8,0,c,q,nx,gen,ls,O,⟨_,4,_,_,st,by omega,by omega,runs_ac r,tl 4 _ 8 c (by omega) (by omega)⟩,C,cov⟩
               · have ho' : Wt.other ⟨X.kd - 2,X.nu,X.ix,X.vl,X.ol⟩ c = false:=by
                  show (decide (X.kd - 2 = 3) && decide (vOf c ≠ X.ol)) = false
                  rw [hvc]
                  by_cases e5 : X.kd = 5
                  · rw [decide_eq_false (fun e=>hr5 ⟨e5,e⟩),Bool.and_false]
                  · rw [decide_eq_false (by omega),Bool.false_and]
                 have r:=S.lays (W:=⟨X.kd - 2,X.nu,X.ix,X.vl,X.ol⟩) (σ:=σ) hi.1 hi.2 hcW (by
                  show (decide (X.kd - 2 = 1) || Wt.other ⟨X.kd - 2,X.nu,X.ix,X.vl,X.ol⟩ c) = false
                  rw [ho',decide_eq_false (by omega)];rfl) (by rw [frB_val vb.2,Bool.false_and])
                 have hw' : Wt.w ⟨X.kd - 2,X.nu,X.ix,X.vl,X.ol⟩ = X.vl:=packX_val hv.1 hv.2
                 rw [hat,hw',hvc] at r
                 have O:=Out.laid (k:=k) (nx:=nx) (gen:=gen) k3 o ho hp hw j hj hjZ hr3 (q:=q) (fun e=>by rw [hc];exact Classical.byContradiction fun h=>hr5 ⟨e,h⟩)
                 rw [hc] at O
                 refine ⟨0,0,c,{ q with dw:=upd q.dw (o.a + 1 + j) X.vl },nx,gen,ls,O,⟨_,4,_,_,st,by omega,by omega,runs_ac r,tl 4 _ 0 c (by omega) (by omega)⟩,?_,cov⟩
                 obtain ⟨l1,l2,rfl⟩:=List.append_of_mem ho
                 exact C.laid hjZ hv.1 hv.2
           · rw [hw] at S
             have r:=S.index (W:=⟨X.kd - 2,X.nu,X.ix,X.vl,X.ol⟩) (σ:=σ) hi
             exact ⟨4,0,0,q,nx,gen,ls,.index k3 o ho hp hw hi,⟨_,2,_,_,st,by omega,by omega,runs_ac r,tl 2 _ 4 0 (by omega) (by omega)⟩,C,cov⟩
         · have r:=S.not_own (W:=⟨X.kd - 2,X.nu,X.ix,X.vl,X.ol⟩) (σ:=σ) hw
           exact ⟨3,0,0,q,nx,gen,ls,.dead k1 (ho2 ho hp hw),⟨_,2,_,_,st,by omega,by omega,runs_ac r,tl 2 _ 3 0 (by omega) (by omega)⟩,C,cov⟩
       · have r:=aruns_dead (t:=t) (n:=n) (k:=k) (m:=m) (W:=⟨X.kd - 2,X.nu,X.ix,X.vl,X.ol⟩) (own:=X.own) (σ:=σ) hd
         exact ⟨3,0,0,q,nx,gen,ls,.dead k1 hd',⟨_,1,_,_,st,by omega,by omega,runs_ac r,tl 1 _ 3 0 (by omega) (by omega)⟩,C,cov⟩
end Go.Proofs.YtlolfmoolgenpaaGreat

namespace Go.Proofs.YtlolfmoolgenpaaGreat
open Go.RowKit
structure Hut (w0 w : World) (L : Loc) (bE t n k m : Nat) (s : Mm) (σ : Nat) (q : Q) (nx : Nat) (gen : Nat -> Nat) (ls : List Ox) : Prop where
 mm : MemAt w L s
 vl : Vil t n k m s σ q (fun _=>0)
 tm : Tame t n k m q nx gen ls
 cv : Covers n q ls
 v : BoxV w bE t n k m 100 600 3 L.p 0
 b : Below w0.heap.size w0 w
theorem covers0 (n : Nat) : Covers n (Q.new n) []:=fun x hx=>Or.inl (by
 have : ∀ k x,x < n -> n <= x + k -> k <= n -> x ∈ upFrom n k:=by
  intro k
  induction k with
  | zero=>intro x h1 h2;omega
  | succ k ih =>
   intro x h1 h2 h3
   show x ∈ (n - (k + 1)) :: upFrom n k
   by_cases e : x = n - (k + 1)
   · rw [e];simp
   · exact List.mem_cons_of_mem _ (ih x h1 (by omega) (by omega))
 exact this n x hx (by omega) (Nat.le_refl _))
section
variable {w0 w w' : World} {L : Loc} {bE t n k m σ nx : Nat} {s : Mm} {q : Q} {gen : Nat -> Nat} {ls : List Ox}
theorem Hut.grown (f : Hut w0 w L bE t n k m s σ q nx gen ls) (g : Below w.heap.size w w') : Hut w0 w' L bE t n k m s σ q nx gen ls:=⟨f.mm.below g,f.vl,f.tm,f.cv,f.v.grown g,grow f.b g⟩
theorem Hut.ltL (f : Hut w0 w L bE t n k m s σ q nx gen ls) : ¬ L.has w.heap.size:=fun hh=>by have:=f.mm.lt _ hh;omega
theorem Hut.first {w1 : World} (hG : Good t n k m 100 600 3) (hn : n <= 65535) (mm : MemAt w1 L (Mm.laid t n (arenaLen t n k m) n)) (b : Below w0.heap.size w0 w1) (f : ∀ k,L.has k -> w0.heap.size <= k) :
 Hut w0 (w1.alloc (.cells #[.int .i64 t,.int .i64 n,.int .i64 k,.int .i64 m,.int .i64 100,.int .i64 600,.int .i64 3,.pointer (some ⟨L.p,0,none⟩),.int .i64 0] 27)) L w1.heap.size t n k m (Mm.laid t n (arenaLen t n k m) n) (1 + 2 * n) (Q.new n) 0 (fun _=>1) [] /\ FarmApart w0 L w1.heap.size t n k m 100 :=
 ⟨⟨mm.alloc _,⟨town0 hG hn,laid_else _ _ _ _ _ (by omega) (Or.inl (by omega)),fun i hi=>laid_else _ _ _ _ _ (by omega) (Or.inl (by omega))⟩,tame0 t n k m,covers0 n,BoxV.new,grow_alloc b _⟩,⟨f,fun hh=>by have:=mm.lt _ hh;omega,b.size,hG⟩⟩
theorem Hut.do (f : Hut w0 w L bE t n k m s σ q nx gen ls) (a : FarmApart w0 L bE t n k m 100) (X : Xa) (hm : X.may = true) (hz : Fit X.sz) (hu : Wd X.nu) (hg : ∀ o ∈ ls,o.g < 100) (hσ : σ + 500 < 1000000) :
 ∃ E H V q' nx' gen' ls',Out k X q nx gen ls E H V q' nx' gen' ls' /\ ∀ w1 : World,Hut w0 w1 L bE t n k m s σ q nx gen ls ->
  Calls Tryz.prog 12 #[.agg #[.int .i64 t,.int .i64 n,.int .i64 k,.int .i64 m,.int .i64 100,.int .i64 600,.int .i64 3,.pointer (some ⟨L.p,0,none⟩),.int .i64 0],X.v] w1 fun e w'=>∃ (St : Int) (s' : Mm) (σ' : Nat),e = .returned (.agg #[.int .i64 E,.int .u64 H,.int .i64 V,.int .i64 St]) /\ σ' <= σ + 500 /\ (σ : Int) <= St /\ St <= (σ' : Int) /\ (E = 0 -> (σ : Int) < St) /\ Hut w0 w' L bE t n k m s' σ' q' nx' gen' ls' /\ Only L.has w1 w':=by
 have hm':=hm
 unfold Xa.may at hm'
 simp only [Bool.and_eq_true,decide_eq_true_eq,fitsV] at hm'
 obtain ⟨⟨⟨h1,h5⟩,hv⟩,-⟩:=hm'
 obtain ⟨E,H,V,q',nx',gen',ls',F⟩:=fate X a.g f.vl.tw.pile f.tm f.cv hg h1 h5 hv hz hu (σ + 3)
 refine ⟨E,H,V,q',nx',gen',ls',F.out,fun w1 f1=>?_⟩
 obtain ⟨δ,N,σ',δ',st,hN,hs,r,tl⟩:=F.ex
 have ht0:=a.g.t0
 have hk1:=a.g.k1
 refine (act_do f1.mm f1.vl a.g f1.tm.wb hσ X hm δ st 0 (by omega) (N:=N + 4) (by omega) r.all).mono ?_
 rintro e w' ⟨E',H',V',St,s',rfl,td,m',v',o'⟩
 obtain ⟨rfl,rfl,rfl,t1,t2,t3⟩:=tl σ (σ' + 1) E' H' V' St (by omega) (by omega) td
 have v2 : Vil t n k m s' (σ' + 1) q' (fun _=>0):=by
  have e : upd (fun _=>(0 : Int)) 0 0 = fun _=>0:=by
   funext i;unfold upd;split <;> rfl
  rw [<- e];exact v'
 exact ⟨St,s',σ' + 1,rfl,by omega,t1,t2,t3,⟨m',v2,F.tm,F.cv,f1.v.only o' a.e,mgrow f1.b o' a.l0⟩,o'⟩
end
end Go.Proofs.YtlolfmoolgenpaaGreat

namespace Go.Proofs.YtlolfmoolgenpaaGreat
open Go.RowKit
set_option maxRecDepth 20000
section
variable {w0 w : World} {L : Loc} {bE σ nx : Nat} {s : Mm} {q : Q} {gen : Nat -> Nat}
theorem aw_make {k : Nat} {X : Xa} {E H V : Int} {q' : Q} {nx' : Nat} {gen' : Nat -> Nat} {ls' : List Ox} {x : Nat} {F : List Nat} {ls : List Ox} (O : Out k X q nx gen ls E H V q' nx' gen' ls') (h : X.kd = 1) (hz : 0 <= classOf X.sz) (hF : q.F = x :: F) (hk : nx ≠ k) : ∃ o : Ox,E = 0 /\ H = packH x (gen x) /\ V = 0 /\ ls' = o :: ls /\ gen' = gen /\ o.x = x /\ o.g = gen x /\ X.sz = o.Z /\ o.own = X.own /\ q'.F = F /\ nx' <= nx + 1 /\ (∀ j,1 <= j -> j <= o.Z -> q'.dw (o.a + j) = 0) /\ Keeps q q' ls:=by
 cases O with
 | size h' hz'=>omega
 | empty h' hz' hF'=>rw [hF] at hF';cases hF'
 | full h' hz' x' F' hF' hk'=>exact absurd hk' hk
 | made h' hz' o _ _ hZ ho hF' hg h0 hkp hn =>
  rw [hF] at hF'
  obtain ⟨rfl,rfl⟩:=List.cons.inj hF'
  exact ⟨o,rfl,by rw [hg],rfl,rfl,rfl,rfl,hg,hZ,ho,rfl,hn,h0,hkp⟩
 | dead h'=>exact absurd h h'
 | gone h'=>omega
 | index h'=>omega
 | read h'=>omega
 | other h'=>omega
 | laid h'=>omega
theorem aw_reach {k : Nat} {X : Xa} {E H V : Int} {q' : Q} {nx' : Nat} {gen' : Nat -> Nat} {ls ls' : List Ox} {o : Ox} (O : Out k X q nx gen ls E H V q' nx' gen' ls') (hu : ∀ o' ∈ ls,X.nu = packH o'.x o'.g -> o' = o) (h : 3 <= X.kd) (ho : o ∈ ls) (hh : X.nu = packH o.x o.g) (hw : o.own = X.own) {j : Nat} (hj : X.ix = j) (hz : j < o.Z) :
 H = 0 /\ V = q.dw (o.a + 1 + j) /\ nx' = nx /\ gen' = gen /\ ls' = ls /\ ((X.kd = 3 /\ E = 0 /\ q' = q) \/ (X.kd = 5 /\ V ≠ X.ol /\ E = 8 /\ q' = q) \/ (X.kd ≠ 3 /\ (X.kd = 5 -> V = X.ol) /\ E = 0 /\ q' = { q with dw:=upd q.dw (o.a + 1 + j) X.vl })):=by
 cases O with
 | size h'=>omega
 | empty h'=>omega
 | full h'=>omega
 | made h'=>omega
 | dead h' hd=>exact absurd hw (hd o ho hh)
 | gone h'=>omega
 | index h' o' hm hh' ho' hi=>obtain rfl:=hu o' hm hh';exact absurd ⟨by omega,by omega⟩ hi
 | read h' o' hm hh' ho' j' hj' hi hr =>
  obtain rfl:=hu o' hm hh';obtain rfl : j' = j:=by omega
  exact ⟨rfl,rfl,rfl,rfl,rfl,Or.inl ⟨hr,rfl,rfl⟩⟩
 | other h' o' hm hh' ho' j' hj' hi hr hv =>
  obtain rfl:=hu o' hm hh';obtain rfl : j' = j:=by omega
  exact ⟨rfl,rfl,rfl,rfl,rfl,Or.inr (Or.inl ⟨hr,hv,rfl,rfl⟩)⟩
 | laid h' o' hm hh' ho' j' hj' hi hr hv =>
  obtain rfl:=hu o' hm hh';obtain rfl : j' = j:=by omega
  exact ⟨rfl,rfl,rfl,rfl,rfl,Or.inr (Or.inr ⟨hr,hv,rfl,rfl⟩)⟩
end
theorem packH_01 : packH ((0 : Nat) : Int) ((1 : Nat) : Int) = 65536:=packH_is 0 1 (by decide) (by decide)
def xwA : Xa:=⟨1,2,0,0,0,0,false⟩
def xwB : Xa:=⟨4,0,65536,0,7,0,false⟩
def xwC : Xa:=⟨3,0,65536,0,0,0,false⟩
theorem good15 : Good 1 4 2 20 100 600 3:=⟨by decide,by decide,by decide,by decide,by decide,by decide,by decide,by decide,by decide,by decide,by decide,by decide,by decide,by decide⟩
section
variable {w0 w : World} {L : Loc} {bE σ nx : Nat} {s : Mm} {q : Q} {o : Ox}
theorem aw1 (f : Hut w0 w L bE 1 4 2 20 s σ (Q.new 4) 0 (fun _=>1) []) (a : FarmApart w0 L bE 1 4 2 20 100) (hσ : σ <= 1000) :
 Calls Tryz.prog 12 #[.agg #[.int .i64 1,.int .i64 4,.int .i64 2,.int .i64 20,.int .i64 100,.int .i64 600,.int .i64 3,.pointer (some ⟨L.p,0,none⟩),.int .i64 0],.agg #[.int .i64 1,.int .i64 2,.int .u64 0,.int .i64 0,.int .i64 0,.int .i64 0,.bool false]] w fun e w'=>∃ (St : Int) (s' : Mm) (σ' : Nat) (o : Ox) (q' : Q) (nx' : Nat),e = .returned (.agg #[.int .i64 0,.int .u64 65536,.int .i64 0,.int .i64 St]) /\ σ' <= 1500 /\ o.x = 0 /\ o.g = 1 /\ o.Z = 2 /\ o.own = false /\ Hut w0 w' L bE 1 4 2 20 s' σ' q' nx' (fun _=>1) [o] /\ Only L.has w w':=by
 obtain ⟨E,H,V,q',nx',gen',ls',O,c⟩:=f.do a xwA (by decide) ⟨by decide,by decide⟩ ⟨by decide,by decide⟩ (fun _ h=>by cases h) (by omega)
 obtain ⟨o,rfl,rfl,rfl,rfl,rfl,hx,hg,hZ,ho,-⟩:=aw_make (x:=0) (F:=[1,2,3]) O rfl (by decide) rfl (by decide)
 refine (c w f).mono ?_
 rintro e w' ⟨St,s',σ',rfl,h1,h2,h3,h4,h',o'⟩
 rw [show packH ((0 : Nat) : Int) (((fun _=>1) 0 : Nat) : Int) = 65536 from packH_01]
 exact ⟨St,s',σ',o,q',nx',rfl,by omega,hx,hg,by have : (2 : Int) = o.Z:=hZ;omega,ho,h',o'⟩
theorem aw_g (hg : o.g = 1) : ∀ o' ∈ [o],o'.g < 100:=fun o' h=>by rw [List.mem_singleton.1 h,hg];decide
theorem aw_uniq {nu : Int} (o : Ox) : ∀ o' ∈ [o],nu = packH o'.x o'.g -> o' = o:=fun o' h _=>by simpa using h
theorem aw2 (f : Hut w0 w L bE 1 4 2 20 s σ q nx (fun _=>1) [o]) (a : FarmApart w0 L bE 1 4 2 20 100) (hσ : σ <= 1500) (hx : o.x = 0) (hg : o.g = 1) (hZ : o.Z = 2) (ho : o.own = false) :
 Calls Tryz.prog 12 #[.agg #[.int .i64 1,.int .i64 4,.int .i64 2,.int .i64 20,.int .i64 100,.int .i64 600,.int .i64 3,.pointer (some ⟨L.p,0,none⟩),.int .i64 0],.agg #[.int .i64 4,.int .i64 0,.int .u64 65536,.int .i64 0,.int .i64 7,.int .i64 0,.bool false]] w fun e w'=>∃ (V St : Int) (s' : Mm) (σ' : Nat) (q' : Q),e = .returned (.agg #[.int .i64 0,.int .u64 0,.int .i64 V,.int .i64 St]) /\ σ' <= 2000 /\ q'.dw (o.a + 1) = 7 /\ Hut w0 w' L bE 1 4 2 20 s' σ' q' nx (fun _=>1) [o] /\ Only L.has w w':=by
 obtain ⟨E,H,V,q',nx',gen',ls',O,c⟩:=f.do a xwB (by decide) ⟨by decide,by decide⟩ ⟨by decide,by decide⟩ (aw_g hg) (by omega)
 obtain ⟨rfl,rfl,rfl,rfl,rfl,hc⟩:=aw_reach (o:=o) (j:=0) O (aw_uniq o) (by decide) (by simp) (by rw [hx,hg];exact packH_01.symm) ho rfl (by omega)
 rcases hc with ⟨e,-⟩ | ⟨e,-⟩ | ⟨-,-,rfl,rfl⟩
 · exact absurd e (by decide)
 · exact absurd e (by decide)
 · refine (c w f).mono ?_
   rintro e w' ⟨St,s',σ',rfl,h1,h2,h3,h4,h',o'⟩
   exact ⟨_,St,s',σ',_,rfl,by omega,upd_same _ _ _,h',o'⟩
theorem aw3 (f : Hut w0 w L bE 1 4 2 20 s σ q nx (fun _=>1) [o]) (a : FarmApart w0 L bE 1 4 2 20 100) (hσ : σ <= 2000) (hx : o.x = 0) (hg : o.g = 1) (hZ : o.Z = 2) (ho : o.own = false) (hv : q.dw (o.a + 1) = 7) :
 Calls Tryz.prog 12 #[.agg #[.int .i64 1,.int .i64 4,.int .i64 2,.int .i64 20,.int .i64 100,.int .i64 600,.int .i64 3,.pointer (some ⟨L.p,0,none⟩),.int .i64 0],.agg #[.int .i64 3,.int .i64 0,.int .u64 65536,.int .i64 0,.int .i64 0,.int .i64 0,.bool false]] w fun e w'=>∃ (St : Int) (s' : Mm) (σ' : Nat),e = .returned (.agg #[.int .i64 0,.int .u64 0,.int .i64 7,.int .i64 St]) /\ Hut w0 w' L bE 1 4 2 20 s' σ' q nx (fun _=>1) [o] /\ Only L.has w w':=by
 obtain ⟨E,H,V,q',nx',gen',ls',O,c⟩:=f.do a xwC (by decide) ⟨by decide,by decide⟩ ⟨by decide,by decide⟩ (aw_g hg) (by omega)
 obtain ⟨rfl,rfl,rfl,rfl,rfl,hc⟩:=aw_reach (o:=o) (j:=0) O (aw_uniq o) (by decide) (by simp) (by rw [hx,hg];exact packH_01.symm) ho rfl (by omega)
 rcases hc with ⟨-,rfl,rfl⟩ | ⟨e,-⟩ | ⟨e,-⟩
 · refine (c w f).mono ?_
   rintro e w' ⟨St,s',σ',rfl,h1,h2,h3,h4,h',o'⟩
   rw [show q'.dw (o.a + 1 + 0) = 7 from hv]
   exact ⟨St,s',σ',rfl,h',o'⟩
 · exact absurd e (by decide)
 · exact absurd rfl e
end
set_option maxRecDepth 20000 in
set_option maxHeartbeats 1000000 in
theorem awake15_any (w : World) :
 Calls Tryz.prog 10 #[] w fun e w'=>e = .returned (.bool true) /\ Below w.heap.size w w':=by
 have ar:=fun w=>arena04_any good15 w
 have f1 : ∀ (a1 a2 a3 a4 : Value) (w : World),(Instr.field 40 (.agg #[a1,a2,a3,a4]) 1).run Tryz.prog w = .ok a2 w:=fun a1 a2 a3 a4 w=>by kernel_rfl
 go_enter Tryz.func10,Tryz.ntmps10
 go_wp2_with (first
  | (go_at_call 9;refine (ar _).mono ?_;rintro e w1 ⟨L,rfl,m1,b1,l1⟩;clear ar;obtain ⟨p1,pa⟩:=Hut.first good15 (by decide) m1 b1 l1;obtain ⟨y0,y1,y2,y3,y4,y5,y6,y7,y8⟩:=p1.v)
  | (go_at_call 12;refine (aw1 p1 pa (by omega)).mono ?_;rintro e w2 ⟨St2,s2,σ2,o,q2,nx2,rfl,hσ2,hx,hg,hZ,ho,p2,o2⟩;clear y0 y1 y2 y3 y4 y5 y6 y7 y8 p1;obtain ⟨z0,z1,z2,z3,z4,z5,z6,z7,z8⟩:=p2.v)
  | (go_at_call 12;refine (aw2 p2 pa hσ2 hx hg hZ ho).mono ?_;rintro e w3 ⟨V3,St3,s3,σ3,q3,rfl,hσ3,hq3,p3,o3⟩;clear z0 z1 z2 z3 z4 z5 z6 z7 z8 p2;have g3:=grow1 w3 (.cells #[.int .i64 0,.int .u64 0,.int .i64 V3,.int .i64 St3] 40);have p4:=p3.grown g3;obtain ⟨v0,v1,v2,v3,v4,v5,v6,v7,v8⟩:=p4.v;have d3:=At.new w3 40 [.int .i64 0,.int .u64 0,.int .i64 V3,.int .i64 St3])
  | (go_at_call 12;refine (aw3 p4 pa hσ3 hx hg hZ ho hq3).mono ?_;rintro e w5 ⟨St5,s5,σ5,rfl,p5,o5⟩;have hl : ¬ L.has w3.heap.size:=p3.ltL;have g5:=grow1 w5 (.cells #[.int .i64 0,.int .u64 0,.int .i64 7,.int .i64 St5] 40);have d5:=(d3.only o5 hl).grown g5;have p6:=p5.grown g5;have e5:=At.new w5 40 [.int .i64 0,.int .u64 0,.int .i64 7,.int .i64 St5]))
 generalize hW : w5.alloc (.cells #[.int .i64 0,.int .u64 0,.int .i64 7,.int .i64 St5] 40) = W at *
 have k0:=fun N : Later W=>(d5.grown N.below).at0 0 rfl
 have k1:=fun N : Later W=>(e5.grown N.below).at0 0 rfl
 have k2:=fun N : Later W=>(e5.grown N.below).at0 2 rfl
 have k3:=fun N : Later W=>(p6.v.grown N.below).c7
 have hm:=fun N : Later W=>p6.mm.below N.below
 have hp : s5.wd 6 = 0:=p6.vl.pn 0 (by omega)
 have hn : 6 < s5.n:=by have:=p6.vl.tw.len;omega
 have lp : ∀ w,Calls Tryz.prog 16 #[.int .i64 0] w fun e w'=>e = .returned (.int .i64 6) /\ w' = w:=fun w=>lpin_any 0 w (by omega) (by omega)
 haveI:=Later.exists W
 refine wp_region_later (by kernel_rfl) (by kernel_rfl) ?_
 repeat (go_big_quiet_step ((first
  | (go_at_call 16;exact Calls.later_same (lp _))
  | (go_at_call 15;exact Calls.later_same (peek_is (hm _) 6 hn 0 hp)))))
 refine wpQuiet_nil ?_
 rintro _ ⟨nq,rfl⟩
 go_wp2
 go_ret
 exact ⟨rfl,grow p6.b nq.below⟩
end Go.Proofs.YtlolfmoolgenpaaGreat
