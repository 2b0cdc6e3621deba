import Derived.Test.YtkgpffcnimmdkaaGreatMovFree
import Derived.Test.YtkgpffcnimmdkaaGreatMovWrite
namespace Go.Proofs.YtkgpffcnimmdkaaGreat
open Go.RowKit
theorem frozen_not {u : Int} {V : Nat} (h : frB u = true -> crOf u <= V) : frozenIn u (V + 1) = false:=by
 unfold frozenIn
 by_cases hf : 9223372036854775808 <= u
 · have h1 : frB u = true:=decide_eq_true hf
   have h2:=h h1
   unfold crOf at h2
   rw [if_pos hf] at h2
   rw [decide_eq_true hf,Bool.true_and]
   exact decide_eq_false (by omega)
 · rw [decide_eq_false hf,Bool.false_and]
theorem gone_gn {Z i : Nat} {q : Q} (z1 : 1 <= Z) (z2 : Z <= 16) (wd : ∀ a,Wd (q.dw a)) (hg : genOf (q.sw 0) = 1) : Gn Z (q.gone 100 0 (q.sw 0) Z i):=by
 have d2:=packS_dec (st:=0) (A:=0) (G:=2) (V:=0) (by decide) (by decide) (by decide) (by decide)
 have b : behindW 100 (q.sw 0) = packS ((0 : Nat) : Int) ((0 : Nat) : Int) ((2 : Nat) : Int) ((0 : Nat) : Int):=by
  unfold behindW
  rw [hg,if_neg (by decide)]
  rfl
 have e : (q.gone 100 0 (q.sw 0) Z i).sw 0 = behindW 100 (q.sw 0):=upd_same q.sw 0 (behindW 100 (q.sw 0))
 refine ⟨z1,z2,fun a=>?_,?_,?_⟩
 · show Wd (frz q.dw _ _ _ a)
   unfold frz
   split
   · exact froze_wd _ _
   · exact wd a
 · rw [e,b];exact d2.1
 · rw [e,b];exact d2.2.2.1
section
variable {Z r : Nat} {val : Nat -> Int} {q : Q} {yE : Y} {μ : Mv}
theorem AtA.drop {st V : Nat} (h : AtA Z 0 V st val q) (hs : st = 1 \/ st = 2) (hV : V <= 4194301) (hh : hd q.F <= 8) : DRuns 4 8 4 20 100 false 0 1 (2 * Z + 8) q .see (q.gone 100 0 (q.sw 0) Z 0) (.over 0):=by
 have S:=h.scn (by rcases hs with rfl | rfl <;> rfl) (by omega)
 refine runs_gone S.o h.cm.wd S.sz S.ow S.gn (by rw [h.sw.s];omega) (by rw [h.sw.r];omega) (fun j hj=>?_) ?_ h.cm.nf hh (by decide)
 · rw [h.sw.r,h.sw.a]
   exact frozen_not (fun hf=>((h.cl j hj).2 hf).1)
 · rw [(h.lv 0 (by decide)).1,if_pos rfl];exact Nat.le_refl _
theorem AtB.drop {V h l d : Nat} (B : AtB Z 0 V h l d val q) (hk : h <= 3) (hV : V <= 4194301) (hh : hd q.F <= 8) : DRuns 4 8 4 20 100 false 0 1 (2 * Z + 8) q .see (q.gone 100 0 (q.sw 0) Z 1) (.over 0):=by
 have S:=B.scn hk
 refine runs_gone S.o B.cm.wd S.sz S.ow S.gn (by rw [B.sw.s];decide) (by rw [B.sw.r];omega) (fun j hj=>?_) ?_ B.cm.nf hh (by decide)
 · rw [B.sw.r,B.sw.a,B.cl j hj]
   exact frozen_not (fun hf=>by rw [(val_cell (B.cm.vb j hj)).2.2] at hf;cases hf)
 · rw [(B.lv 1 (by decide)).1,if_pos rfl];exact Nat.le_refl _
theorem AtA.lvis {st V : Nat} (h : AtA Z 0 V st val q) : LvIs (q.gone 100 0 (q.sw 0) Z 0) 0 0 0:=fun i hi=>by
 refine ⟨?_,?_⟩
 · show upd q.lv 0 (q.lv 0 - room (classOf Z).toNat) i = _
   by_cases e : i = 0
   · subst e;rw [upd_same,(h.lv 0 hi).1,if_pos rfl,if_pos rfl];exact Nat.sub_self _
   · rw [upd_other _ _ _ _ e,(h.lv i hi).1,if_neg e,if_neg e];split <;> rfl
 · show q.db i = _
   rw [(h.lv i hi).2];split <;> rfl
theorem AtB.lvis {V l d : Nat} {h : Int} (B : AtB Z 0 V h l d val q) : LvIs (q.gone 100 0 (q.sw 0) Z 1) l 0 d:=fun i hi=>by
 refine ⟨?_,?_⟩
 · show upd q.lv 1 (q.lv 1 - room (classOf Z).toNat) i = _
   by_cases e : i = 1
   · subst e;rw [upd_same,(B.lv 1 hi).1,if_pos rfl,if_neg (by decide),if_pos rfl];exact Nat.sub_self _
   · rw [upd_other _ _ _ _ e,(B.lv i hi).1,if_neg e]
     by_cases e0 : i = 0
     · rw [if_pos e0,if_pos e0]
     · rw [if_neg e0,if_neg e0,if_neg e]
 · show q.db i = _
   rw [(B.lv i hi).2]
theorem AtB.head_gone {V l d : Nat} {h : Int} (B : AtB Z 0 V h l d val q) : (q.gone 100 0 (q.sw 0) Z 1).dw (base 4 8 4 20 1) = (mw Z 0).hw h:=by
 show frz q.dw _ _ _ _ = _
 rw [B.sw.a,frz_out _ _ _ _ _ (fun hh=>absurd hh.1 (Nat.lt_irrefl _))]
 exact B.hB
theorem mi_drop (h : MI false Z 0 0 val yE r q μ) (hh : hd q.F <= 8) : ∃ q2 : Q,DRuns 4 8 4 20 100 false 0 1 (2 * Z + 8) q .see q2 (.over 0) /\ Gn Z q2 /\ GI Z yE r q2 μ:=by
 have cm:=h.com
 have ph:=h.ph
 have S:=ph.seen
 have gn0:=gone_gn (i:=0) cm.z1 cm.z2 cm.wd S.g
 have gn1:=gone_gn (i:=1) cm.z1 cm.z2 cm.wd S.g
 have rn : ∀ {f : Nat} {v : Int} {jf jc : Nat},Rn false Z 0 0 f val q v jf jc -> f = 0 /\ Wd v /\ v % 8 = 2 /\ AtA Z 0 0 2 val q:=fun hR=>by
  rcases hR with ⟨hA,rfl,hL,-,-⟩ | ⟨e,-⟩
  · exact ⟨hL.a rfl,hA.sw.wd,hA.sw.s,hA⟩
  · cases e
 have z0 : (0 : Nat) <= 4194301:=by decide
 cases μ with
 | see τ f =>
  obtain ⟨hA,hL,hτ⟩:=h
  exact ⟨_,hA.drop (Or.inl rfl) z0 hh,gn0,hA.lvis,by have:=hL.a rfl;omega,by rcases hτ with ⟨e,-⟩ | ⟨e,-⟩;exact Or.inl e;exact Or.inr e⟩
 | place v τ f =>
  obtain ⟨hA,rfl,hL,hgo⟩:=h
  exact ⟨_,hA.drop (Or.inl rfl) z0 hh,gn0,hA.lvis,hL.a rfl,hA.sw.wd,hA.sw.s,hgo⟩
 | head v a i f =>
  obtain ⟨hA,rfl,hL,rfl,rfl,hy⟩:=h
  exact ⟨_,hA.drop (Or.inl rfl) z0 hh,gn0,hA.lvis,hL.a rfl,hA.sw.wd,hA.sw.s,rfl,rfl⟩
 | mark v a i f =>
  obtain ⟨hA,rfl,hL,C⟩:=h
  exact ⟨_,hA.drop (Or.inl rfl) z0 hh,gn0,hA.lvis,hL.a rfl,hA.sw.wd,hA.sw.s,C.a,C.i⟩
 | load v a i j f =>
  obtain ⟨hR,C,hj⟩:=h
  obtain ⟨e,wv,hs,hA⟩:=rn hR
  exact ⟨_,hA.drop (Or.inr rfl) z0 hh,gn0,hA.lvis,e,wv,hs,C.a,C.i,hj⟩
 | freeze v u a i j f =>
  obtain ⟨hR,C,hj,wu⟩:=h
  obtain ⟨e,wv,hs,hA⟩:=rn hR
  exact ⟨_,hA.drop (Or.inr rfl) z0 hh,gn0,hA.lvis,e,wv,hs,C.a,C.i,hj,wu⟩
 | copy v u a i j f =>
  obtain ⟨hR,C,hj,wu,-⟩:=h
  obtain ⟨e,wv,hs,hA⟩:=rn hR
  exact ⟨_,hA.drop (Or.inr rfl) z0 hh,gn0,hA.lvis,e,wv,hs,C.a,C.i,hj,wu⟩
 | shw v a i f =>
  obtain ⟨hR,C⟩:=h
  obtain ⟨e,wv,hs,hA⟩:=rn hR
  exact ⟨_,hA.drop (Or.inr rfl) z0 hh,gn0,hA.lvis,e,wv,hs,C.a,C.i⟩
 | ready a i =>
  obtain ⟨hB,e1,e2,hy⟩:=h
  exact ⟨_,AtB.drop (h:=1) hB (by decide) z0 hh,gn1,hB.lvis,e1,e2⟩
 | grow a i =>
  obtain ⟨hB,e1,e2,hy⟩:=h
  exact ⟨_,AtB.drop (h:=2) hB (by decide) z0 hh,gn1,hB.lvis,e1,e2,hB.head_gone⟩
 | fall a i =>
  obtain ⟨hB,e1,e2,hy⟩:=h
  exact ⟨_,AtB.drop (h:=2) hB (by decide) z0 hh,gn1,hB.lvis,e1,e2,hB.head_gone⟩
 | bury o a i=>cases h.1
 | over o τ =>
  rcases h with ⟨rfl,hB,rfl,hy⟩ | ⟨e,-⟩
  · exact ⟨_,AtB.drop (h:=2) hB (by decide) z0 hh,gn1,hB.lvis,Or.inr ⟨rfl,rfl,hB.head_gone⟩⟩
  · cases e
end
end Go.Proofs.YtkgpffcnimmdkaaGreat
