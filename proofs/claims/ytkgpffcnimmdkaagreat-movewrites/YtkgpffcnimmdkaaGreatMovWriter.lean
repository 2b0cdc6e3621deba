import Derived.Test.YtkgpffcnimmdkaaGreatMovReader
import Derived.Test.YtkgpffcnimmdkaaGreatMovEnd
namespace Go.Proofs.YtkgpffcnimmdkaaGreat
open Go.RowKit
def rowL (Z : Nat) (val : Nat -> Int) : List Value:=(List.range Z).map (fun j=>Value.int .i64 (val j))
theorem rowL_len (Z : Nat) (val : Nat -> Int) : (rowL Z val).length = Z:=by unfold rowL;simp
theorem rowL_get {Z j : Nat} {val : Nat -> Int} (h : j < Z) : (rowL Z val)[j]? = some (.int .i64 (val j)):=by
 unfold rowL
 rw [List.getElem?_map,List.getElem?_range h]
 rfl
theorem rowL_set {Z ix : Nat} {val : Nat -> Int} (h : ix < Z) (x : Int) : (rowL Z val).set ix (.int .i64 x) = rowL Z (upd val ix x):=by
 apply List.ext_getElem?
 intro j
 by_cases hj : j < Z
 · rw [rowL_get hj]
   by_cases e : j = ix
   · subst e
     rw [List.getElem?_set_self (by rw [rowL_len];exact hj),upd_same]
   · rw [List.getElem?_set_ne (fun h=>e h.symm),rowL_get hj,upd_other _ _ _ _ e]
 · rw [List.getElem?_eq_none (by rw [List.length_set,rowL_len];omega),List.getElem?_eq_none (by rw [rowL_len];omega)]
def RowA (W : World) (R Z : Nat) (val : Nat -> Int) : Prop:=∃ c,At W R 0 3 c (rowL Z val)
theorem row_made (Z : Nat) (w : World) : RowA (w.alloc (.cells (madeCells #[.int .i64 0] Z) 3)) w.heap.size Z (vals 0 (fun _=>0) Z):=by
 obtain ⟨c,hc,hs,hi⟩:=World.rowIs_made w (.int .i64 0) Z 3
 refine ⟨c,hc,fun i v hv=>?_⟩
 have hl : i < Z:=by
  have h : i < (rowL Z (vals 0 (fun _=>0) Z)).length:=(List.getElem?_eq_some_iff.1 hv).1
  rw [rowL_len] at h
  exact h
 rw [rowL_get hl,show vals 0 (fun _=>0) Z i = 0 from by unfold vals;rw [if_neg (fun h=>absurd h.2 (Nat.not_lt_zero _))]] at hv
 rw [Nat.zero_add,hi i hl]
 exact hv
section
variable {W W' : World} {R Z : Nat} {val : Nat -> Int}
theorem RowA.grown (h : RowA W R Z val) (g : Below W.heap.size W W') : RowA W' R Z val:=h.imp fun _ k=>k.grown g
theorem RowA.only {S : Nat -> Prop} (h : RowA W R Z val) (g : Only S W W') (hs : ¬ S R) : RowA W' R Z val:=h.imp fun _ k=>k.only g hs
theorem RowA.cell (h : RowA W R Z val) {j : Nat} (hj : j < Z) : W.cell? ⟨R,j,none⟩ = some (.int .i64 (val j)):=by obtain ⟨_,k⟩:=h;exact k.at0 j (rowL_get hj)
theorem RowA.fz (h : RowA W R Z val) (i : Nat) : W.frozen? ⟨R,i,none⟩ = false:=by obtain ⟨_,k⟩:=h;exact k.fz i
theorem RowA.lt (h : RowA W R Z val) : R < W.heap.size:=by obtain ⟨_,k⟩:=h;exact k.lt
theorem RowA.set (h : RowA W R Z val) {ix : Nat} (hi : ix < Z) (x : Int) : RowA (W.setCell ⟨R,ix,none⟩ (.int .i64 x)) R Z (upd val ix x):=by
 obtain ⟨_,k⟩:=h
 have k':=k.set ix (.int .i64 x)
 rw [rowL_set hi,Nat.zero_add] at k'
 exact ⟨_,k'⟩
end
def WrI (R : Nat) (w0 W : World) (L : Loc) (E H M Z V : Nat) (NV : Nat) (z : Nat -> Int) (q : Q) (at_ : Nat) (v : Value) : Prop :=
 v = .pointer none \/ ∃ X α,v = .pointer (some ⟨X,0,none⟩) /\ ScRA w0 L E H M X /\ AcO W X (wtL ((at_ % Z : Nat) : Int) (bits .and .i64 (z at_) 65535)) α /\ α.over? = false /\ WI Z 0 V q α /\ at_ < NV /\ at_ < 60 /\ R ≠ X
section
variable {R : Nat} {w0 W W' : World} {L : Loc} {E H M Z V NV : Nat} {z : Nat -> Int} {q q' : Q} {at_ : Nat} {v : Value}
theorem WrI.val (_h : WrI R w0 W L E H M Z V NV z q at_ v) : ∃ x,x = v:=⟨_,rfl⟩
theorem WrI.mv {yE : Y} {r : Nat} {val : Nat -> Int} {μ μ' : Mv} (h : WrI R w0 W L E H M Z V NV z q at_ v) (o : Only (L.and M) W W') (mi : MI true Z 0 V val yE r q μ) (ht : mvTurn (mw Z 0) 4 20 (base 4 8 4 20) q μ = (q',μ')) : WrI R w0 W' L E H M Z V NV z q' at_ v:=by
 rcases h with e | ⟨X,α,e,AX,ac,ho3,I,hn⟩
 · exact Or.inl e
 · exact Or.inr ⟨X,α,e,AX,ac.only o (fun h=>h.elim AX.l (fun e=>AX.m e.symm)),ho3,wi_mv mi ht I,hn⟩
end
theorem low16 (z : Int) : 0 <= bits .and .i64 z 65535 /\ bits .and .i64 z 65535 <= 65535:=by
 obtain ⟨y,h1,h2⟩:=low0 z 65535 16 (by decide) (by decide)
 rw [h1];omega
theorem wtL_ok (i : Int) (z : Int) : (wtL i (bits .and .i64 z 65535)).ok:=by
 have h:=low16 z
 exact ⟨Or.inr (Or.inl rfl),show (-9223372036854775808 : Int) <= bits .and .i64 z 65535 by omega,show bits .and .i64 z 65535 <= (9223372036854775807 : Int) by omega⟩
theorem newL (i : Nat) (x : Int) (W : World) :
 Calls Tryz.prog 24 #[.agg #[.int .i64 2,.int .u64 65536,.int .i64 i,.int .i64 x,.int .i64 0],.bool false] W fun e w'=>∃ X,e = .returned (.pointer (some ⟨X,0,none⟩)) /\ W.heap.size <= X /\ AcO w' X (wtL i x) .see /\ Below W.heap.size W w':=newAcO (wtL i x) rfl rfl W
theorem mpot_le {Z r : Nat} {q : Q} {μ : Mv} (z2 : Z <= 16) (hr : r <= 9) : mpot true Z 0 r q μ <= 200:=by
 have hR : ∀ f,rst true Z f <= 112:=fun f=>by
  unfold rst
  rw [if_pos rfl]
  exact Nat.le_trans (Nat.mul_le_mul (Nat.sub_le 2 f) (show 3 * Z + 8 <= 56 by omega)) (by decide)
 cases μ with
 | see τ f=>have:=hR f;simp only [mpot];split <;> omega
 | place v τ f=>have:=hR f;simp only [mpot];omega
 | head v a i f=>have:=hR f;simp only [mpot];omega
 | mark v a i f=>have:=hR f;simp only [mpot];omega
 | load v a i j f=>have:=hR f;simp only [mpot];omega
 | freeze v u a i j f=>have:=hR f;simp only [mpot];split <;> omega
 | copy v u a i j f=>have:=hR f;simp only [mpot];omega
 | shw v a i f=>have:=hR f;simp only [mpot];omega
 | ready=>simp only [mpot];omega
 | grow=>simp only [mpot];omega
 | fall=>simp only [mpot];omega
 | bury=>simp only [mpot];omega
 | over=>simp only [mpot];omega
end Go.Proofs.YtkgpffcnimmdkaaGreat
