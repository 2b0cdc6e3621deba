import Derived.Test.YtlolfmoolgenpaaGreatDropRun
namespace Go.Proofs.YtlolfmoolgenpaaGreat
open Go.RowKit
theorem packS_all (st A G V : Nat) (h1 : st <= 7) (h2 : A <= 1048575) (h3 : G <= 65535) (h4 : V <= 4194303) : packS st A G V = st + A * 8 + G * 8388608 + V * 549755813888:=by
 unfold packS
 rw [cut_id st 3 (by omega) (by simp;omega),cut_id A 20 (by omega) (by simp;omega),cut_id G 16 (by omega) (by simp;omega),cut_id V 22 (by omega) (by simp;omega)]
theorem packS_dec {st A G V : Nat} (h1 : st <= 7) (h2 : A <= 1048575) (h3 : G <= 65535) (h4 : V <= 4194303) : packS st A G V % 8 = st /\ adOf (packS st A G V) = A /\ genOf (packS st A G V) = G /\ verOf' (packS st A G V) = V:=by
 rw [packS_all st A G V h1 h2 h3 h4]
 unfold adOf genOf verOf'
 refine ⟨?_,?_,?_,?_⟩ <;> omega
theorem mark_dec {v : Int} (hv : verOf' v < 4194303) : markW v % 8 = 4 /\ adOf (markW v) = adOf v /\ genOf (markW v) = genOf v /\ verOf' (markW v) = verOf' v + 1:=by
 have e : markW v = packS ((4 : Nat) : Int) (adOf v) (genOf v) ((verOf' v + 1 : Nat) : Int):=by unfold markW;simp
 rw [e]
 exact packS_dec (by decide) (adOf_le v) (genOf_le v) (by omega)
def frz (dw : Nat -> Int) (a V j : Nat) : Nat -> Int:=fun b=>if a < b /\ b <= a + j then froze (dw b) V else dw b
theorem frz0 (dw : Nat -> Int) (a V : Nat) : frz dw a V 0 = dw:=by
 funext b
 unfold frz
 rw [if_neg (by omega)]
theorem frz_next (dw : Nat -> Int) (a V j : Nat) : upd (frz dw a V j) (a + 1 + j) (froze (dw (a + 1 + j)) V) = frz dw a V (j + 1):=by
 funext b
 by_cases e : b = a + 1 + j
 · subst e
   rw [upd_same]
   unfold frz
   rw [if_pos (by omega)]
 · rw [upd_other _ _ _ _ e]
   unfold frz
   by_cases h : a < b /\ b <= a + j
   · rw [if_pos h,if_pos (by omega)]
   · rw [if_neg h,if_neg (by omega)]
theorem frz_at (dw : Nat -> Int) (a V j : Nat) : frz dw a V j (a + 1 + j) = dw (a + 1 + j):=by
 unfold frz
 rw [if_neg (by omega)]
theorem frz_out (dw : Nat -> Int) (a V j b : Nat) (h : ¬ (a < b /\ b <= a + j)) : frz dw a V j b = dw b:=by
 unfold frz
 rw [if_neg h]
def Q.fz (q : Q) (a V j : Nat) : Q:={ q with dw:=frz q.dw a V j }
def Q.end (q : Q) (cg : Int) (x : Nat) (v : Int) (Z i : Nat) : Q :=
 { q with lv:=upd q.lv i (q.lv i - room (classOf Z).toNat),sw:=upd q.sw x (behindW cg v),dw:=frz q.dw (adOf v) (verOf' v + 1) Z }
def Q.gone (q : Q) (cg : Int) (x : Nat) (v : Int) (Z i : Nat) : Q:={ q.end cg x v Z i with c:=q.c + 1,lk:=upd q.lk x (hd q.F),F:=x :: q.F }
section
variable {t n k m : Nat} {cg : Int} {own : Bool} {x G : Nat}
theorem Obj9.mark {v : Int} {Z i : Nat} (O : Obj9 t n k m v Z i) (hv : verOf' v < 4194303) : Obj9 t n k m (markW v) Z i:=by
 obtain ⟨d1,d2,_,_⟩:=mark_dec hv
 exact ⟨packS_wd _ _ _ _,by rw [d1];rfl,O.z1,O.z2,O.ik,by rw [d2];exact O.ad⟩
theorem behind_mark {v : Int} (hv : verOf' v < 4194303) : behindW cg (markW v) = behindW cg v:=by
 unfold behindW
 rw [(mark_dec hv).2.2.1]
theorem reads_dead {q : Q} (h : (lifeB (q.sw x % 8) && decide (genOf (q.sw x) = G)) = false) : DReads t n k m cg own x G 1 q .see q (.over 3):=by
 refine .one rfl rfl (fun h1 h2=>?_) ?_ rfl
 · rw [h1,h2] at h
   simp at h
 · simp only [dpTurn,h]
   rfl
theorem reads_other {q : Q} {Z i : Nat} (O : Obj9 t n k m (q.sw x) Z i) (hz : szOf (q.dw (adOf (q.sw x))) = Z) (hG : genOf (q.sw x) = G) (ho : ownOf (q.dw (adOf (q.sw x))) ≠ own) : DReads t n k m cg own x G 2 q .see q (.over 3):=by
 refine .more (q1:=q) (α1:=.ask (q.sw x)) rfl rfl (fun _ _=>⟨i,by rw [hz];exact O⟩) ?_ rfl (.one rfl rfl ⟨i,by rw [hz];exact O⟩ ?_ rfl)
 · simp only [dpTurn,O.life,hG,decide_true,Bool.and_self,if_true]
 · have : (ownOf (q.dw (adOf (q.sw x))) == own) = false:=by simpa using ho
   simp only [dpTurn,dpAsk,this]
   rfl
end
end Go.Proofs.YtlolfmoolgenpaaGreat
