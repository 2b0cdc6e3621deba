import Derived.Test.YtmnnhjhhhfabiaaGreatCompSame
import Derived.Test.YtmnnhjhhhfabiaaGreatCompAwakeA
namespace Go.Proofs.YtmnnhjhhhfabiaaGreat
open Go.RowKit
structure Full (k : Nat) (q : Q) : Prop where
 lv : ∀ i,i < k -> q.lv i = (q.y.ck i).us
 db : ∀ i,i < k -> q.db i = 0
theorem full0 (n k : Nat) : Full k (Q.new n):=⟨fun _ _=>rfl,fun _ _=>rfl⟩
theorem Mk.full_is {t n k m κ Z : Nat} {own : Bool} {q q' : Q} {nx nx' : Nat} {gen : Nat -> Nat} {ls ls' : List Ox} {E H : Int} (M : Mk t n k m κ Z own q nx gen ls q' nx' ls' E H) (al : Alone k q.y nx) (hκ : κ < 4) (hm : 17 <= m) (F : Full k q) : Full k q' /\ ls'.length <= ls.length + 1:=by
 cases M with
 | empty hF=>exact ⟨F,Nat.le_succ _⟩
 | full x F' hF g=>exact ⟨⟨F.lv,F.db⟩,Nat.le_succ _⟩
 | ok x F' y' nx' A i hF hx g =>
  have hr:=room_bd κ
  obtain ⟨hik,ha,hu,⟨sp,hck⟩,hoth⟩:=g.won_is al hκ (by omega)
  refine ⟨⟨fun j hj=>?_,F.db⟩,Nat.le_refl _⟩
  show upd q.lv i (q.lv i + room κ) j = (y'.ck j).us
  by_cases e : j = i
  · subst e;rw [upd_same,hck,F.lv j hj]
  · rw [upd_other _ _ _ _ e,hoth j e,F.lv j hj]
section
variable {t n k m : Nat} {tr : Int} {s : Mm} {σ : Nat} {z : Zt} {nx : Nat} {gen : Nat -> Nat} {ls : List Ox}
theorem still_go (R : Ranch t n k m s σ z nx gen ls) (F : Full k z.q) (hlen : ls.length <= 1000) (hk0 : 0 < k) (hk : k <= 8) (ht : t <= 8) (hm : m <= 256) {c : Nat} (hc : c <= 100) (hσ : σ + c * 4000 + 4000 <= 990000) (hep : Wd z.ep) :
 ∃ N ep cp',N <= 3000 * c /\ CRuns t n k m 0 tr (0 + c) N σ z cp0 { z with ep:=ep } cp' /\ cp'.wk = ⟨0,0,0,0,0 + c⟩:=by
 have al:=R.tm.al
 have hst : ∀ i,i < k -> (z.q.y.ck i).st ≠ 3:=fun i hi=>by
  by_cases h : i < nx
  · rw [al.opd i h];decide
  · rw [(al.fre i (by omega) hi).1];decide
 have hmay : ∀ i,i < k -> z.may 0 i = false:=fun i hi=>decide_eq_false (fun h=>by
  obtain ⟨_,_,h3,h4⟩:=h
  have:=F.lv i hi
  rcases h4 with h4 | h4
  · omega
  · rw [Int.zero_mul] at h4;omega)
 obtain ⟨N,ep,cp',hN,-,C,hw⟩:=still_runs (t:=t) (n:=n) (k:=k) (m:=m) (sp:=0) (tr:=tr) hk0 hk ht hm c σ z ⟨0,0,0,0,0⟩ ⟨0,0,0,0,0⟩ 0 hc ⟨by decide,by decide,by decide,by decide,by decide⟩ (by show 0 + c <= _;omega) (by omega) (R.calm hlen F.db) hσ hep (fun i hi=>R.ld.siw i hi) (fun i hi=>⟨hmay i hi,hst i hi⟩)
 exact ⟨N,ep,cp',by rw [Nat.mul_comm];exact hN,C,hw⟩
end
end Go.Proofs.YtmnnhjhhhfabiaaGreat
