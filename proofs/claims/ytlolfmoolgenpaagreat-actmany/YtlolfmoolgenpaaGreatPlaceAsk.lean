import Derived.Test.YtlolfmoolgenpaaGreatLay
import Derived.Test.YtlolfmoolgenpaaGreatPhase
import Derived.Test.YtlolfmoolgenpaaGreatLayRef
namespace Go.Proofs.YtlolfmoolgenpaaGreat
open Go.RowKit
theorem i64_low (n m : Int) (b : Nat) (hb : b < 63) (hm : m = 2 ^ b - 1) : bits .and .i64 n m = n % (m + 1):=by
 subst hm
 have hp:=pow_lt b (by omega)
 have hp2 : (2 : Int) ^ b <= 4611686018427387904:=by simpa using pow_le b 62 (by omega)
 have hd : (2 : Int) ^ b ∣ 18446744073709551616:=by
  have : (2 : Int) ^ 64 = 2 ^ b * 2 ^ (64 - b):=by rw [<- Int.pow_add];congr 1;omega
  exact ⟨2 ^ (64 - b),by rw [<- this];decide⟩
 have e1 : (BitVec.ofInt 64 ((2 : Int) ^ b - 1)).toNat = 2 ^ b - 1:=by
  rw [BitVec.toNat_ofInt]
  have : ((2 ^ b : Nat) : Int) = (2 : Int) ^ b:=by simp
  rw [Int.emod_eq_of_lt (by omega) (by simp;omega)]
  omega
 have e2 : (((BitVec.ofInt 64 n).toNat : Nat) : Int) = n % 18446744073709551616:=by
  rw [BitVec.toNat_ofInt]
  simp only [Nat.reducePow]
  omega
 show IntKind.i64.wrap (((BitVec.ofInt 64 n &&& BitVec.ofInt 64 (2 ^ b - 1)).toNat : Nat) : Int) = _
 rw [BitVec.toNat_and,e1,Nat.and_two_pow_sub_one_eq_mod]
 have e3 : (((BitVec.ofInt 64 n).toNat % 2 ^ b : Nat) : Int) = n % 2 ^ b:=by
  push_cast
  rw [e2,Int.emod_emod_of_dvd _ hd]
 rw [e3,show (2 : Int) ^ b - 1 + 1 = 2 ^ b from by omega,IntKind.wrap_i64]
 have h1:=Int.emod_nonneg n (b:=2 ^ b) (by omega)
 have h2:=Int.emod_lt_of_pos n (b:=2 ^ b) (by omega)
 omega
end Go.Proofs.YtlolfmoolgenpaaGreat

namespace Go.Proofs.YtlolfmoolgenpaaGreat
open Go.RowKit
theorem laid_top (t s len j : Nat) : (Mm.laid t s len j).wd 1 = 1:=by
 induction j with
 | zero=>rfl
 | succ j ih =>
  show upd (upd (Mm.laid t s len j).wd _ _) _ _ 1 = 1
  unfold upd
  rw [if_neg (by omega),if_neg (by omega)]
  exact ih
theorem laid_slot (t s len j i : Nat) (h : i < j) : (Mm.laid t s len j).wd (6 + t + i * 2) = 8388608:=by
 induction j with
 | zero=>omega
 | succ j ih =>
  show upd (upd (Mm.laid t s len j).wd _ _) _ _ (6 + t + i * 2) = _
  unfold upd
  rw [if_neg (by omega)]
  by_cases hij : i = j
  · rw [if_pos (by omega)]
  · rw [if_neg (by omega)];exact ih (by omega)
theorem laid_link (t s len j i : Nat) (h : i < j) : (Mm.laid t s len j).wd (6 + t + i * 2 + 1) = linkOf s i:=by
 induction j with
 | zero=>omega
 | succ j ih =>
  show upd (upd (Mm.laid t s len j).wd _ _) _ _ (6 + t + i * 2 + 1) = _
  unfold upd
  by_cases hij : i = j
  · rw [if_pos (by omega),hij]
  · rw [if_neg (by omega),if_neg (by omega)];exact ih (by omega)
theorem laid_else (t s len j a : Nat) (h1 : a ≠ 1) (h : a < 6 + t \/ 6 + t + j * 2 <= a) : (Mm.laid t s len j).wd a = 0:=by
 induction j with
 | zero =>
  show upd (fun _=>(0 : Int)) 1 1 a = 0
  unfold upd
  rw [if_neg h1]
 | succ j ih =>
  show upd (upd (Mm.laid t s len j).wd _ _) _ _ a = 0
  unfold upd
  rw [if_neg (by omega),if_neg (by omega)]
  exact ih (by omega)
theorem peek_is {w : World} {L : Loc} {s : Mm} (h : MemAt w L s) (a : Nat) (ha : a < s.n) (x : Int) (hx : s.wd a = x) :
 Calls Tryz.prog 15 #[.pointer (some ⟨L.p,0,none⟩),.int .i64 a] w fun e w'=>e = .returned (.int .u64 x) /\ w' = w:=by
 subst hx;exact peek_in h a ha
theorem lowN (x m : Int) (b c : Nat) (hb : b < 63) (hm : m = 2 ^ b - 1) : ∃ y : Nat,(c : Int) + bits .and .i64 x m = (y : Int) /\ c <= y /\ (y : Int) <= c + m:=by
 have h:=i64_low x m b hb hm
 have hp:=pow_pos b
 have h1:=Int.emod_nonneg x (b:=m + 1) (by omega)
 have h2:=Int.emod_lt_of_pos x (b:=m + 1) (by omega)
 exact ⟨c + (x % (m + 1)).toNat,by rw [h];omega,by omega,by omega⟩
end Go.Proofs.YtlolfmoolgenpaaGreat

namespace Go.Proofs.YtlolfmoolgenpaaGreat
open Go.RowKit
structure Ck where
 st : Nat
 cl : Nat
 us : Nat
 sp : Nat
 deriving DecidableEq
def Ck.w (c : Ck) : Int:=(c.st : Int) + (c.cl : Int) * 4 + (c.us : Int) * 256 + (c.sp : Int) * 268435456
structure Ck.ok (c : Ck) (σ : Nat) : Prop where
 st : c.st <= 3
 cl : c.cl <= 3
 us : c.us <= 1000
 sp : c.sp <= σ
theorem Ck.ok.up {c : Ck} {σ σ' : Nat} (h : c.ok σ) (hs : σ <= σ') : c.ok σ':=⟨h.st,h.cl,h.us,Nat.le_trans h.sp hs⟩
theorem Ck.inj {c d : Ck} {σ σ' : Nat} (h : c.ok σ) (h' : d.ok σ') (e : c.w = d.w) : c = d:=by
 obtain ⟨a1,a2,a3,a4⟩:=c
 obtain ⟨b1,b2,b3,b4⟩:=d
 obtain ⟨h1,h2,h3,h4⟩:=h
 obtain ⟨g1,g2,g3,g4⟩:=h'
 simp only [Ck.w] at e h1 h2 h3 h4 g1 g2 g3 g4
 have : a1 = b1 /\ a2 = b2 /\ a3 = b3 /\ a4 = b4:=by omega
 obtain ⟨rfl,rfl,rfl,rfl⟩:=this
 rfl
theorem chunk_w (c : Ck) (σ : Nat) (h : c.ok σ) (hσ : σ <= 2000000) (w : World) :
 Calls Tryz.prog 111 #[.int .u64 c.w] w fun e w'=>e = .returned (.agg #[.int .i64 c.st,.int .i64 c.cl,.int .i64 c.us,.int .i64 c.sp]) /\ Below w.heap.size w w':=by
 obtain ⟨h1,h2,h3,h4⟩:=h
 have k:=chunk_any c.w w (by unfold Ck.w;omega) (by unfold Ck.w;omega)
 have e1 : c.w % 4 = (c.st : Int):=by unfold Ck.w;omega
 have e2 : c.w / 4 % 64 = (c.cl : Int):=by unfold Ck.w;omega
 have e3 : c.w / 256 % 1048576 = (c.us : Int):=by unfold Ck.w;omega
 have e4 : c.w / 268435456 % 68719476736 = (c.sp : Int):=by unfold Ck.w;omega
 rwa [e1,e2,e3,e4] at k
theorem putChunk_w (c : Ck) (σ : Nat) (h : c.ok σ) (hσ : σ <= 2000000) (x1 x2 x3 x4 : Int) (e1 : x1 = c.st) (e2 : x2 = c.cl) (e3 : x3 = c.us) (e4 : x4 = c.sp) (w : World) :
 Calls Tryz.prog 112 #[.agg #[.int .i64 x1,.int .i64 x2,.int .i64 x3,.int .i64 x4]] w fun e w'=>e = .returned (.int .u64 c.w) /\ Below w.heap.size w w':=by
 obtain ⟨h1,h2,h3,h4⟩:=h
 subst e1 e2 e3 e4
 have k:=putChunk_any (c.st : Int) c.cl c.us c.sp w ⟨by omega,by omega⟩ ⟨by omega,by omega⟩ ⟨by omega,by omega⟩ ⟨by omega,by omega⟩
 have e : packC (c.st : Int) c.cl c.us c.sp = c.w:=by
  unfold packC Ck.w
  rw [cut_id _ 2 (by omega) (by simp;omega),cut_id _ 6 (by omega) (by simp;omega),cut_id _ 20 (by omega) (by simp;omega),cut_id _ 36 (by omega) (by simp;omega)]
 rwa [e] at k
def room : Nat -> Nat
 | 0=>3
 | 1=>5
 | 2=>9
 | _=>17
theorem room_bd (κ : Nat) : 3 <= room κ /\ room κ <= 17:=by
 match κ with
 | 0=>simp [room]
 | 1=>simp [room]
 | 2=>simp [room]
 | _ + 3=>simp [room]
theorem lroom_w (κ : Nat) (h : κ < 4) (w : World) : Calls Tryz.prog 88 #[.int .i64 κ] w fun e w'=>e = .returned (.int .i64 (room κ)) /\ w' = w:=by
 have k:=lroom_any (κ : Int) w (by omega) (by omega)
 have e : 2 * 2 ^ ((κ : Int)).toNat + 1 = ((room κ : Nat) : Int):=by
  match κ,h with
  | 0,_=>rfl
  | 1,_=>rfl
  | 2,_=>rfl
  | 3,_=>rfl
 rwa [e] at k
structure Y where
 ck : Nat -> Ck
 op : Nat -> Nat
structure Yard (t n k m : Nat) (s : Mm) (σ : Nat) (y : Y) : Prop where
 len : s.n = 6 + t + n * 2 + k * 3 + k * m
 st : s.steps = σ
 ckv : ∀ i,i < k -> s.wd (6 + t + n * 2 + i * 3) = (y.ck i).w
 opv : ∀ c,c < 4 -> s.wd (2 + c) = (y.op c : Int)
 ok : ∀ i,i < k -> (y.ck i).ok σ
 opk : ∀ c,c < 4 -> y.op c <= k
def Kept (t n k : Nat) (s s' : Mm) : Prop:=s'.n = s.n /\ ∀ a,¬ (2 <= a /\ a < 6) -> (∀ i,i < k -> a ≠ 6 + t + n * 2 + i * 3) -> s'.wd a = s.wd a
namespace Yard
variable {t n k m : Nat} {s : Mm} {σ : Nat} {y : Y}
theorem wrapS (_ : Yard t n k m s σ y) (hσ : σ < 1000000) : wrap64 ((σ : Int) + 1) = ((σ + 1 : Nat) : Int):=by
 unfold wrap64;omega
theorem same (h : Yard t n k m s σ y) (hσ : σ < 1000000) (who : Int) (a : Nat) : Yard t n k m ((s.by who).step a (s.wd a)) (σ + 1) y:=by
 have e : ((s.by who).step a (s.wd a)).wd = s.wd:=upd_id _ _
 refine ⟨h.len,?_,fun i hi=>by rw [e];exact h.ckv i hi,fun c hc=>by rw [e];exact h.opv c hc,fun i hi=>(h.ok i hi).up (by omega),h.opk⟩
 show wrap64 (s.steps + 1) = _
 rw [h.st,h.wrapS hσ]
theorem lay (h : Yard t n k m s σ y) (hσ : σ < 1000000) (who : Int) {i : Nat} (hi : i < k) (c : Ck) (hc : c.ok (σ + 1)) : Yard t n k m ((s.by who).step (6 + t + n * 2 + i * 3) c.w) (σ + 1) ⟨upd y.ck i c,y.op⟩:=by
 refine ⟨h.len,?_,fun j hj=>?_,fun κ hκ=>?_,fun j hj=>?_,h.opk⟩
 · show wrap64 (s.steps + 1) = _
   rw [h.st,h.wrapS hσ]
 · show upd s.wd _ _ _ = (upd y.ck i c j).w
   by_cases e : j = i
   · subst e;rw [upd_same,upd_same]
   · rw [upd_other _ _ _ _ (by omega),upd_other _ _ _ _ e];exact h.ckv j hj
 · show upd s.wd _ _ _ = _
   rw [upd_other _ _ _ _ (by omega)];exact h.opv κ hκ
 · show (upd y.ck i c j).ok (σ + 1)
   by_cases e : j = i
   · subst e;rw [upd_same];exact hc
   · rw [upd_other _ _ _ _ e];exact (h.ok j hj).up (by omega)
theorem opens (h : Yard t n k m s σ y) (hσ : σ < 1000000) (who : Int) {κ : Nat} (hκ : κ < 4) (x : Nat) (hx : x <= k) : Yard t n k m ((s.by who).step (2 + κ) (x : Int)) (σ + 1) ⟨y.ck,upd y.op κ x⟩:=by
 refine ⟨h.len,?_,fun j hj=>?_,fun c hc=>?_,fun j hj=>(h.ok j hj).up (by omega),fun c hc=>?_⟩
 · show wrap64 (s.steps + 1) = _
   rw [h.st,h.wrapS hσ]
 · show upd s.wd _ _ _ = _
   rw [upd_other _ _ _ _ (by omega)];exact h.ckv j hj
 · show upd s.wd _ _ _ = ((upd y.op κ x c : Nat) : Int)
   by_cases e : c = κ
   · subst e;rw [upd_same,upd_same]
   · rw [upd_other _ _ _ _ (by omega),upd_other _ _ _ _ e];exact h.opv c hc
 · show upd y.op κ x c <= k
   by_cases e : c = κ
   · subst e;rw [upd_same];exact hx
   · rw [upd_other _ _ _ _ e];exact h.opk c hc
end Yard
theorem kept_same (t n k : Nat) (s : Mm) (who : Int) (a : Nat) : Kept t n k s ((s.by who).step a (s.wd a)) :=
 ⟨rfl,fun x _ _=>congrFun (upd_id s.wd a) x⟩
theorem kept_lay (t n k : Nat) (s : Mm) (who : Int) {i : Nat} (hi : i < k) (v : Int) : Kept t n k s ((s.by who).step (6 + t + n * 2 + i * 3) v) :=
 ⟨rfl,fun x _ h=>upd_other s.wd _ x v (h i hi)⟩
theorem kept_opens (t n k : Nat) (s : Mm) (who : Int) {κ : Nat} (hκ : κ < 4) (v : Int) : Kept t n k s ((s.by who).step (2 + κ) v) :=
 ⟨rfl,fun x h _=>upd_other s.wd _ x v (by omega)⟩
def Y.new : Y:=⟨fun _=>⟨0,0,0,0⟩,fun _=>0⟩
theorem laidSteps (t s len j : Nat) (hj : j <= 65536) : (Mm.laid t s len j).steps = ((1 + 2 * j : Nat) : Int):=by
 induction j with
 | zero=>show wrap64 (0 + 1) = _;unfold wrap64;omega
 | succ j ih =>
  show wrap64 (wrap64 ((Mm.laid t s len j).steps + 1) + 1) = _
  rw [ih (by omega)]
  unfold wrap64;omega
theorem yard0 (t n k m : Nat) (hn : n <= 65536) : Yard t n k m (Mm.laid t n (arenaLen t n k m) n) (1 + 2 * n) Y.new:=by
 refine ⟨by rw [Mm.laid_n];rfl,laidSteps _ _ _ _ hn,fun i hi=>?_,fun c hc=>?_,fun i _=>?_,fun c _=>Nat.zero_le _⟩
 · rw [laid_else _ _ _ _ _ (by omega) (Or.inr (by omega))];simp [Y.new,Ck.w]
 · rw [laid_else _ _ _ _ _ (by omega) (Or.inl (by omega))];simp [Y.new]
 · exact ⟨Nat.zero_le _,Nat.zero_le _,Nat.zero_le _,Nat.zero_le _⟩
inductive Pl where
 | see
 | ask (i : Nat)
 | grow (i : Nat) (c : Ck)
 | look (sn i : Nat)
 | take (sn i : Nat) (c : Ck)
 | opn (sn i : Nat) (c : Ck)
 | fre (sn i : Nat) (c : Ck)
 | won (a i : Nat)
 | none
def Pl.over : Pl -> Bool
 | .won _ _=>true
 | .none=>true
 | _=>false
def adv (k sn i : Nat) : Pl:=if i < k then .look sn i else .none
def turn (k m κ : Nat) (bs : Nat -> Nat) (y : Y) : Pl -> Y × Pl
 | .see=>(y,match y.op κ with | 0=>adv k 0 0 | i + 1=>.ask i)
 | .ask i=>(y,if (y.ck i).st = 1 /\ (y.ck i).cl = κ /\ (y.ck i).us + room κ <= m then .grow i (y.ck i) else adv k (i + 1) 0)
 | .grow i c=>if y.ck i = c then (⟨upd y.ck i ⟨c.st,c.cl,c.us + room κ,c.sp⟩,y.op⟩,.won (bs i + c.us) i) else (y,.see)
 | .look sn i=>(y,if (y.ck i).st = 0 then .take sn i (y.ck i) else adv k sn (i + 1))
 | .take sn i c=>if y.ck i = c then (⟨upd y.ck i ⟨1,κ,0,c.sp + 1⟩,y.op⟩,.opn sn i ⟨1,κ,0,c.sp + 1⟩) else (y,adv k sn (i + 1))
 | .opn sn i c=>if y.op κ = sn then (⟨y.ck,upd y.op κ (i + 1)⟩,.see) else (y,.fre sn i c)
 | .fre _ i c=>if y.ck i = c then (⟨upd y.ck i ⟨0,0,0,c.sp + 1⟩,y.op⟩,.see) else (y,.see)
 | τ=>(y,τ)
def Pl.good (k m κ σ : Nat) : Pl -> Prop
 | .see=>True
 | .ask i=>i < k
 | .grow i c=>i < k /\ c.ok σ /\ c.st = 1 /\ c.cl = κ /\ c.us + room κ <= m
 | .look sn i=>i < k /\ sn <= k
 | .take sn i c=>i < k /\ sn <= k /\ c.ok σ /\ c.st = 0
 | .opn sn i c=>i < k /\ sn <= k /\ c.ok σ /\ c.st = 1 /\ c.cl = κ /\ c.us = 0
 | .fre sn i c=>i < k /\ sn <= k /\ c.ok σ /\ c.st = 1 /\ c.cl = κ /\ c.us = 0
 | .won _ _=>True
 | .none=>True
theorem adv_good {k m κ σ sn i : Nat} (hs : sn <= k) : (adv k sn i).good k m κ σ:=by
 unfold adv
 split
 · exact ⟨by assumption,hs⟩
 · trivial
def Pl.at (t n κ : Nat) : Pl -> Nat
 | .ask i=>6 + t + n * 2 + i * 3
 | .grow i _=>6 + t + n * 2 + i * 3
 | .look _ i=>6 + t + n * 2 + i * 3
 | .take _ i _=>6 + t + n * 2 + i * 3
 | .fre _ i _=>6 + t + n * 2 + i * 3
 | _=>2 + κ
theorem Pl.good.up {k m κ σ σ' : Nat} (hs : σ <= σ') {τ : Pl} (h : τ.good k m κ σ) : τ.good k m κ σ':=by
 cases τ with
 | see=>trivial
 | ask i=>exact h
 | grow i c=>exact ⟨h.1,h.2.1.up hs,h.2.2⟩
 | look sn i=>exact h
 | take sn i c=>exact ⟨h.1,h.2.1,h.2.2.1.up hs,h.2.2.2⟩
 | opn sn i c=>exact ⟨h.1,h.2.1,h.2.2.1.up hs,h.2.2.2⟩
 | fre sn i c=>exact ⟨h.1,h.2.1,h.2.2.1.up hs,h.2.2.2⟩
 | won a i=>trivial
 | none=>trivial
theorem turn_good {k m κ σ : Nat} {bs : Nat -> Nat} {y : Y} {τ : Pl} (hκ : κ < 4) (hok : ∀ i,i < k -> (y.ck i).ok σ) (hop : ∀ c,c < 4 -> y.op c <= k) (h : τ.good k m κ σ) : (turn k m κ bs y τ).2.good k m κ (σ + 1):=by
 cases τ with
 | see =>
  have h1:=hop κ hκ
  simp only [turn]
  split
  · exact adv_good (Nat.zero_le _)
  · rename_i i e
    show i < k
    omega
 | ask i =>
  have hi : i < k:=h
  simp only [turn]
  split
  · rename_i e
    exact ⟨hi,(hok i hi).up (by omega),e⟩
  · exact adv_good hi
 | grow i c =>
  simp only [turn]
  split <;> trivial
 | look sn i =>
  simp only [turn]
  split
  · rename_i e
    exact ⟨h.1,h.2,(hok i h.1).up (by omega),e⟩
  · exact adv_good h.2
 | take sn i c =>
  have hs:=h.2.2.1.sp
  simp only [turn]
  split
  · exact ⟨h.1,h.2.1,⟨by simp,by simp only;omega,by simp,by simp only;omega⟩,rfl,rfl,rfl⟩
  · exact adv_good h.2.1
 | opn sn i c =>
  simp only [turn]
  split
  · trivial
  · exact Pl.good.up (by omega) h
 | fre sn i c =>
  simp only [turn]
  split <;> trivial
 | won a i=>trivial
 | none=>trivial
end Go.Proofs.YtlolfmoolgenpaaGreat

namespace Go.Proofs.YtlolfmoolgenpaaGreat
open Go.RowKit
set_option maxRecDepth 20000
def PlV (nx ka sn ch ws sa sb : Int) : List Value:=[.int .i64 nx,.int .i64 ka,.int .u64 sn,.int .i64 ch,.int .u64 ws,.int .i64 sa,.int .i64 sb]
theorem pat_any {w : World} {L : Loc} {b o : Nat} {ch : Nat} (hi : w.cell? ⟨b,o + 3,none⟩ = some (.int .i64 ch)) (c0 c1 c2 c3 c4 c5 c6 who : Int) (A : Nat) (ar : Arena c0 c1 c2 c3) (hch : ch <= 1000000) (hA : 6 + c0 + c1 * 2 + (ch : Int) * 3 = A) :
 Calls Tryz.prog 110 #[.pointer (some ⟨b,o,none⟩),.agg #[.int .i64 c0,.int .i64 c1,.int .i64 c2,.int .i64 c3,.int .i64 c4,.int .i64 c5,.int .i64 c6,.pointer (some ⟨L.p,0,none⟩),.int .i64 who]] w fun e w'=>e = .returned (.int .i64 A) /\ Below w.heap.size w w':=by
 have HA : Hid (6 + c0 + c1 * 2 + (ch : Int) * 3 = A):=hA
 clear hA
 go_enter Tryz.func110,Tryz.ntmps110
 go_wp2
 refine wp_over (fun W=>W.cell? ⟨b,o + 3,none⟩ = some (.int .i64 ch) /\ BoxV W w.heap.size c0 c1 c2 c3 c4 c5 c6 L.p who /\ Below w.heap.size w W) ⟨keep' (grow_alloc (Below.refl _ _) _) hi,BoxV.new,grow_alloc (Below.refl _ _) _⟩ ?_
 rintro W ⟨i1,v1,o1⟩
 have f3:=fun N : Later W=>keep' N.below i1
 have e0:=fun N : Later W=>(v1.grown N.below).c0
 have e1:=fun N : Later W=>(v1.grown N.below).c1
 have e2:=fun N : Later W=>(v1.grown N.below).c2
 have e3:=fun N : Later W=>(v1.grown N.below).c3
 have e4:=fun N : Later W=>(v1.grown N.below).c4
 have e5:=fun N : Later W=>(v1.grown N.below).c5
 have e6:=fun N : Later W=>(v1.grown N.below).c6
 have e7:=fun N : Later W=>(v1.grown N.below).c7
 have e8:=fun N : Later W=>(v1.grown N.below).c8
 haveI:=Later.exists W
 refine wp_region_later (by kernel_rfl) (by kernel_rfl) ?_
 repeat (go_big_quiet_step ((go_at_call 43;exact Calls.later (lchunk_any _ _ _ _ _ _ _ _ _ ar (by omega) (by omega)))))
 refine wpQuiet_nil ?_
 rintro _ ⟨nq,rfl⟩
 clear e0 e1 e2 e3 e4 e5 e6 e7 e8 f3
 go_wp2
 go_ret
 exact ⟨ret_int HA.out,grow o1 nq.below⟩
theorem plook_any {w : World} {L : Loc} {s : Mm} {b o : Nat} {T : TypeId} {cs : Array Value} {nx ka sn ch ws sa sb : Int} (h : MemAt w L s) (hb : ¬ L.has b) (hi : At w b o T cs (PlV nx ka sn ch ws sa sb)) (c0 c1 c2 c3 c4 c5 c6 who : Int) (i nx' : Int) (hnx : (if c2 <= i then 8 else 3) = nx') :
 Calls Tryz.prog 109 #[.pointer (some ⟨b,o,none⟩),.agg #[.int .i64 c0,.int .i64 c1,.int .i64 c2,.int .i64 c3,.int .i64 c4,.int .i64 c5,.int .i64 c6,.pointer (some ⟨L.p,0,none⟩),.int .i64 who],.int .i64 i] w fun e w'=>e = .returned (.tuple #[]) /\ MemAt w' L s /\ Only (L.and b) w w' /\ ∃ cs',At w' b o T cs' (PlV nx' ka sn i ws sa sb) /\ Same o 7 cs cs':=by
 have hbv : ¬ L.has w.heap.size:=fun hh=>by have:=h.lt _ hh;omega
 have hbb : ¬ w.heap.size = b:=fun hh=>by have:=hi.lt;omega
 subst hnx
 have i1:=hi.grown (grow_alloc (Below.refl _ _) (.cells #[.int .i64 c0,.int .i64 c1,.int .i64 c2,.int .i64 c3,.int .i64 c4,.int .i64 c5,.int .i64 c6,.pointer (some ⟨L.p,0,none⟩),.int .i64 who] 27))
 have k0:=i1.cell0 rfl
 have k3:=i1.cell 3 rfl
 have kf:=i1.fz
 have v1 : BoxV (w.alloc (.cells #[.int .i64 c0,.int .i64 c1,.int .i64 c2,.int .i64 c3,.int .i64 c4,.int .i64 c5,.int .i64 c6,.pointer (some ⟨L.p,0,none⟩),.int .i64 who] 27)) w.heap.size c0 c1 c2 c3 c4 c5 c6 L.p who:=BoxV.new
 have v2:=((v1.setIn hbb (o + 3) (.int .i64 i)).setIn hbb o (.int .i64 3)).c2
 have i2:=(i1.set 3 (.int .i64 i)).set0 (.int .i64 3)
 have j0:=i2.cell0 rfl
 have jf:=i2.fz
 by_cases hc : c2 <= i
 · rw [if_pos hc]
   have i3:=i2.set0 (.int .i64 8)
   go_enter Tryz.func109,Tryz.ntmps109
   go_wp2
   go_end0
   exact ⟨rfl,(((h.alloc _).setIn hb _ _).setIn hb _ _).setIn hb _ _,((((Only.refl _ _).alloc _).set _ _).set _ _).set _ _,_,i3,((Same.refl.set (by omega) _).set (by omega) _).set (by omega) _⟩
 · rw [if_neg hc]
   go_enter Tryz.func109,Tryz.ntmps109
   go_wp2
   go_end0
   exact ⟨rfl,((h.alloc _).setIn hb _ _).setIn hb _ _,(((Only.refl _ _).alloc _).set _ _).set _ _,_,i2,(Same.refl.set (by omega) _).set (by omega) _⟩
theorem pturn_any {w : World} {L : Loc} {s : Mm} {b o : Nat} {T : TypeId} {cs : Array Value} {nx ka sn sa sb : Int} {ch : Nat} (h : MemAt w L s) (hb : ¬ L.has b) (C : Ck) (hi : At w b o T cs (PlV nx ka sn ch C.w sa sb)) (c0 c1 c2 c3 c4 c5 c6 who : Int) (A : Nat) (ar : Arena c0 c1 c2 c3) (hch : ch <= 1000000) (hA : 6 + c0 + c1 * 2 + (ch : Int) * 3 = A) (hn : A < s.n) (x1 x2 σ : Nat) (hC : C.ok σ) (hx : x1 <= 3 /\ x2 <= 3) (hσ : σ <= 1000000) (d : Bool) (hd : decide (s.wd A = C.w) = d) :
 Calls Tryz.prog 113 #[.pointer (some ⟨b,o,none⟩),.agg #[.int .i64 c0,.int .i64 c1,.int .i64 c2,.int .i64 c3,.int .i64 c4,.int .i64 c5,.int .i64 c6,.pointer (some ⟨L.p,0,none⟩),.int .i64 who],.agg #[.int .i64 x1,.int .i64 x2,.int .i64 0,.int .i64 0]] w fun e w'=>e = .returned (.bool d) /\ MemAt w' L ((s.by who).cas A C.w (⟨x1,x2,0,C.sp + 1⟩ : Ck).w) /\ Only (L.and b) w w' /\ ∃ cs',At w' b o T cs' (PlV nx ka sn ch (⟨x1,x2,0,C.sp + 1⟩ : Ck).w sa sb) /\ Same o 7 cs cs':=by
 have hbv : ¬ L.has w.heap.size:=fun hh=>by have:=h.lt _ hh;omega
 have hbb : ¬ w.heap.size = b:=fun hh=>by have:=hi.lt;omega
 have HA : Hid (6 + c0 + c1 * 2 + (ch : Int) * 3 = A):=hA
 have HD : Hid (decide (s.wd A = C.w) = d):=hd
 have HC : Hid (C.ok σ):=hC
 have hC4:=hC.sp
 have hN : (⟨x1,x2,0,C.sp + 1⟩ : Ck).ok (σ + 1):=⟨hx.1,hx.2,by simp,by simp only;omega⟩
 have HN : Hid ((⟨x1,x2,0,C.sp + 1⟩ : Ck).ok (σ + 1)):=hN
 have hwr : wrap64 ((C.sp : Int) + 1) = ((C.sp + 1 : Nat) : Int):=by unfold wrap64;omega
 have cw:=fun w=>chunk_w C σ hC (by omega) w
 have pw:=fun w=>putChunk_w (⟨x1,x2,0,C.sp + 1⟩ : Ck) (σ + 1) hN (by omega) x1 x2 0 ((C.sp + 1 : Nat) : Int) rfl rfl rfl rfl w
 have fl : ∀ (a1 a2 a3 a4 : Value) (w : World),(Instr.field 166 (.agg #[a1,a2,a3,a4]) 3).run Tryz.prog w = .ok a4 w:=fun a1 a2 a3 a4 w=>by kernel_rfl
 clear hA hd hN hC
 obtain ⟨X,hX⟩ : ∃ X,(⟨x1,x2,0,C.sp + 1⟩ : Ck).w = X:=⟨_,rfl⟩
 rw [hX] at pw ⊢
 obtain ⟨Z,hZ⟩ : ∃ Z,C.w = Z:=⟨_,rfl⟩
 rw [hZ] at cw hi ⊢
 have hbc : ¬ L.has (w.heap.size + 1):=fun hh=>by have:=h.lt _ hh;omega
 have hbd : ¬ w.heap.size + 1 = b:=fun hh=>by have:=hi.lt;omega
 have i0:=hi.grown (grow_alloc (grow_alloc (Below.refl _ _) (.cells #[.int .i64 c0,.int .i64 c1,.int .i64 c2,.int .i64 c3,.int .i64 c4,.int .i64 c5,.int .i64 c6,.pointer (some ⟨L.p,0,none⟩),.int .i64 who] 27)) (.cells #[.int .i64 x1,.int .i64 x2,.int .i64 0,.int .i64 0] 166))
 have k4:=i0.cell 4 rfl
 go_enter Tryz.func113,Tryz.ntmps113
 go_wp2_with (first
  | (go_at_call 111;refine (cw _).mono ?_;rintro e w1 ⟨rfl,b1⟩;have j1:=(At.new (w.alloc (.cells #[.int .i64 c0,.int .i64 c1,.int .i64 c2,.int .i64 c3,.int .i64 c4,.int .i64 c5,.int .i64 c6,.pointer (some ⟨L.p,0,none⟩),.int .i64 who] 27)) 166 [.int .i64 x1,.int .i64 x2,.int .i64 0,.int .i64 0]).grown b1;rw [Go.Deep.nblk_alloc] at j1;have q0:=j1.at0 0 rfl;have q1:=j1.at0 1 rfl;have q2:=j1.at0 2 rfl;have q3:=j1.at0 3 rfl;have qf:=j1.fz;have j2:=j1.put0 3 (.int .i64 ((C.sp + 1 : Nat) : Int));have r0:=j2.at0 0 rfl;have r1:=j2.at0 1 rfl;have r2:=j2.at0 2 rfl;have r3:=j2.at0 3 rfl)
  | (go_at_call 112;refine (pw _).mono ?_;rintro e w2 ⟨rfl,b2⟩))
 refine wp_over (fun W=>MemAt W L s /\ At W b o T cs (PlV nx ka sn ch Z sa sb) /\ BoxV W w.heap.size c0 c1 c2 c3 c4 c5 c6 L.p who /\ Only (L.and b) w W) ⟨((((h.alloc _).alloc _).below b1).setIn hbc _ _).below b2,((i0.grown b1).other (fun e=>hbd e.symm) _ _).grown b2,(((BoxV.newB _).grown b1).setIn (by omega) _ _).grown b2,(((((Only.refl _ _).alloc _).alloc _).trans (Only.ofGrown b1)).setCell (fun hlt=>by simp only at hlt;omega) _).trans (Only.ofGrown b2)⟩ ?_
 clear b1 b2 j1 j2 q0 q1 q2 q3 qf r0 r1 r2 r3 k4 i0
 rintro W ⟨m1,i1,v1,o1⟩
 rw [hZ] at HD
 refine wp_region_phase (Only L.has) Grown (fun p W'=>match p with | 0=>MemAt W' L s | _=>MemAt W' L ((s.by who).cas A Z X)) [9] [.val (.agg #[.int .i64 c0,.int .i64 c1,.int .i64 c2,.int .i64 c3,.int .i64 c4,.int .i64 c5,.int .i64 c6,.pointer (some ⟨L.p,0,none⟩),.int .i64 who]),.val (.pointer (some ⟨b,o,none⟩)),.val (.agg #[.int .i64 c0,.int .i64 c1,.int .i64 c2,.int .i64 c3,.int .i64 c4,.int .i64 c5,.int .i64 c6,.pointer (some ⟨L.p,0,none⟩),.int .i64 who]),.val (.int .i64 A),.val (.pointer (some ⟨b,o,none⟩)),.val (.pointer (some ⟨b,o,none⟩)),.val (.pointer (some ⟨b,o + 4,none⟩)),.val (.int .u64 Z),.val (.int .u64 X),.val (.bool d),.val (.bool d)]
  (by kernel_rfl) (Only.refl _) (fun _ _ _ h k=>h.trans k) (fun x y h=>Only.ofGrown h) (fun x y p h k=>by match p,k with | 0,k=>exact k.below h | p + 1,k=>exact k.below h) m1.drew (by kernel_rfl) (by kernel_rfl) (by kernel_rfl) (by kernel_rfl) (by kernel_rfl) ?_
 simp only [phaseAll,Act.put,List.setIfInBounds_toArray,List.set_cons_zero,List.set_cons_succ]
 refine ⟨?_,?_,?_,?_,?_,?_,?_,?_,?_,?_,?_,?_⟩
 · intro w' hR _
   apply ol
   obtain ⟨y0,y1,y2,y3,y4,y5,y6,y7,y8⟩:=(v1.grown ((Below.refl _ _).drew)).only hR hbv
   go_simp
   exact gl
 · intros;apply ol;go_simp;exact gl
 · intro w' hR _
   apply ol
   obtain ⟨y0,y1,y2,y3,y4,y5,y6,y7,y8⟩:=(v1.grown ((Below.refl _ _).drew)).only hR hbv
   go_simp
   exact gl
 · intro w' hR _
   apply ol
   go_simp
   refine (pat_any ((i1.drew.only hR hb).cell 3 rfl) _ _ _ _ _ _ _ _ A ar hch HA.out).mono ?_
   rintro e w'' ⟨rfl,b9⟩
   exact ⟨_,rfl,b9,rfl⟩
 · intros;apply ol;go_simp;exact gl
 · intros;apply ol;go_simp;exact gl
 · intros;apply ol;go_simp;exact gl
 · intro w' hR _
   apply ol
   have z:=(i1.drew.only hR hb).cell 4 rfl
   go_simp
   exact gl
 · intros;apply ol;go_simp;exact gl
 · intro w' hR _ hP
   apply ol
   go_simp
   refine (ecas_in (s:=s) hP _ _ _ _ _ _ _ _ A hn _ _).mono ?_
   rintro e w'' ⟨rfl,m2,o2⟩
   exact ⟨_,rfl,⟨o2,m2⟩,congrArg Value.bool HD.out⟩
 · intros;apply ol;go_simp;exact gl
 intro w2 hR m2 _
 have m2' : MemAt w2 L ((s.by who).cas A Z X):=m2
 have i2:=i1.drew.only hR hb
 have o2 : Only (L.and b) w w2:=o1.drew.trans hR.andL
 clear m1 i1 v1 o1 hR m2 HA HD HC HN cw pw
 have k4:=i2.cell 4 rfl
 have kf:=i2.fz
 go_wp2
 go_ret
 exact ⟨rfl,m2'.setIn hb _ _,o2.set _ _,_,i2.set 4 _,Same.refl.set (by omega) _⟩
end Go.Proofs.YtlolfmoolgenpaaGreat

namespace Go.Proofs.YtlolfmoolgenpaaGreat
open Go.RowKit
set_option maxRecDepth 20000
theorem psee_some {w : World} {L : Loc} {s : Mm} {b o : Nat} {T : TypeId} {cs : Array Value} {sn ch ws sa sb : Int} {κ : Nat} (h : MemAt w L s) (hb : ¬ L.has b) (hi : At w b o T cs (PlV 0 κ sn ch ws sa sb)) (c0 c1 c2 c3 c4 c5 c6 who : Int) (hκ : κ < 4) (hn : 2 + κ < s.n) (i : Nat) (hc : (i : Int) < c2) (hc2 : c2 <= 64) (hw : s.wd (2 + κ) = ((i : Int) + 1)) :
 Calls Tryz.prog 97 #[.pointer (some ⟨b,o,none⟩),.agg #[.int .i64 c0,.int .i64 c1,.int .i64 c2,.int .i64 c3,.int .i64 c4,.int .i64 c5,.int .i64 c6,.pointer (some ⟨L.p,0,none⟩),.int .i64 who]] w fun e w'=>e = .returned (.tuple #[]) /\ MemAt w' L ((s.by who).step (2 + κ) (s.wd (2 + κ))) /\ Only (L.and b) w w' /\ ∃ cs',At w' b o T cs' (PlV 1 κ ((i : Int) + 1) i ws sa sb) /\ Same o 7 cs cs':=by
 have hbv : ¬ L.has w.heap.size:=fun hh=>by have:=h.lt _ hh;omega
 have hbb : ¬ w.heap.size = b:=fun hh=>by have:=hi.lt;omega
 have HX : Hid (s.wd (2 + κ) = ((i : Int) + 1)):=hw
 rw [hw]
 clear hw
 have hq : ((i : Int) + 1 == 0) = false:=by simp;omega
 have hcv : IntKind.u64.wrap c2 = c2:=wrap_small c2 (by omega) (by omega)
 go_enter Tryz.func97,Tryz.ntmps97
 go_wp2
 refine wp_over (fun W=>MemAt W L s /\ At W b o T cs (PlV 0 κ sn ch ws sa sb) /\ BoxV W w.heap.size c0 c1 c2 c3 c4 c5 c6 L.p who /\ Only (L.and b) w W) ⟨h.alloc _,hi.grown (grow_alloc (Below.refl _ _) _),BoxV.new,(Only.refl _ _).alloc _⟩ ?_
 rintro W ⟨m1,i1,v1,o1⟩
 refine wp_region_phase (OnlyBut L b (o + 2)) Grown (phAt L b o T cs (cs.setIfInBounds (o + 2) (.int .u64 ((i : Int) + 1))) s ((s.by who).step (2 + κ) ((i : Int) + 1)) (PlV 0 κ sn ch ws sa sb) (PlV 0 κ ((i : Int) + 1) ch ws sa sb)) [7,10] [.val (.pointer (some ⟨b,o,none⟩)),.val (.agg #[.int .i64 c0,.int .i64 c1,.int .i64 c2,.int .i64 c3,.int .i64 c4,.int .i64 c5,.int .i64 c6,.pointer (some ⟨L.p,0,none⟩),.int .i64 who]),.val (.pointer (some ⟨b,o,none⟩)),.val (.pointer (some ⟨b,o,none⟩)),.val (.pointer (some ⟨b,o + 1,none⟩)),.val (.int .i64 κ),.val (.int .i64 ((2 + κ : Nat) : Int)),.val (.int .u64 ((i : Int) + 1)),.val (.pointer (some ⟨b,o,none⟩)),.val (.pointer (some ⟨b,o + 2,none⟩)),.that (fun _ _=>True) (fun _ _ _ _ _=>trivial)]
  (by kernel_rfl) OnlyBut.refl OnlyBut.trans OnlyBut.ofGrown phAt_grown ⟨m1.drew,i1.drew⟩ (by kernel_rfl) (by kernel_rfl) (by kernel_rfl) (by kernel_rfl) (by kernel_rfl) ?_
 simp only [phaseAll,Act.put,List.setIfInBounds_toArray,List.set_cons_zero,List.set_cons_succ]
 refine ⟨?_,?_,?_,?_,?_,?_,?_,?_,?_,?_,?_,?_⟩
 · intros;apply ol;go_simp;exact gl
 · intro w' hR _
   apply ol
   obtain ⟨y0,y1,y2,y3,y4,y5,y6,y7,y8⟩:=(v1.grown ((Below.refl _ _).drew)).only hR.only (fun hh=>hh.elim hbv hbb)
   go_simp
   exact gl
 · intros;apply ol;go_simp;exact gl
 · intros;apply ol;go_simp;exact gl
 · intros;apply ol;go_simp;exact gl
 · intro w' hR _
   apply ol
   have z:=hR.keep (j:=o + 1) (by omega) (i1.drew.cell 1 rfl)
   go_simp
   exact gl
 · intro w' hR _
   apply ol
   go_simp
   refine (lopen_any (κ : Int) _ (by omega) (by omega)).mono ?_
   rintro e w'' ⟨rfl,rfl⟩
   exact ⟨_,rfl,Grown.refl _,congrArg (Value.int .i64) (by omega)⟩
 · intro w' hR _ hP
   apply ol
   go_simp
   refine (eload_in (s:=s) hP.1 _ _ _ _ _ _ _ _ (2 + κ) hn).mono ?_
   rintro e w'' ⟨rfl,m2,o2⟩
   rw [HX.out] at m2
   exact ⟨_,rfl,⟨OnlyBut.ofOnly o2 hb,m2,hP.2.only o2 hb⟩,by simp [Want.pred,HX.out]⟩
 · intros;apply ol;go_simp;exact gl
 · intros;apply ol;go_simp;exact gl
 · intro w' hR _ hP
   apply ol
   have z0:=hP.2.cell 2 rfl
   have z1:=hP.2.fz
   go_simp
   exact ⟨⟨OnlyBut.set _ _,hP.1.setIn hb _ _,hP.2.set 2 _⟩,trivial⟩
 intro v w2 hR hP _
 obtain ⟨m2,i2⟩ : MemAt w2 L ((s.by who).step (2 + κ) ((i : Int) + 1)) /\ At w2 b o T (cs.setIfInBounds (o + 2) (.int .u64 ((i : Int) + 1))) (PlV 0 κ ((i : Int) + 1) ch ws sa sb):=hP
 have o2 : Only (L.and b) w w2:=o1.drew.trans hR.only
 have v2:=(v1.grown ((Below.refl _ _).drew)).only hR.only (fun hh=>hh.elim hbv hbb)
 have s2 : Same o 7 cs (cs.setIfInBounds (o + 2) (.int .u64 ((i : Int) + 1))):=Same.refl.set (by omega) _
 clear hR o1 v1 m1 i1
 go_wp2
 have e0:=fun N : Later w2=>(v2.grown N.below).c0
 have e1:=fun N : Later w2=>(v2.grown N.below).c1
 have e2:=fun N : Later w2=>(v2.grown N.below).c2
 have e3:=fun N : Later w2=>(v2.grown N.below).c3
 have e4:=fun N : Later w2=>(v2.grown N.below).c4
 have e5:=fun N : Later w2=>(v2.grown N.below).c5
 have e6:=fun N : Later w2=>(v2.grown N.below).c6
 have e7:=fun N : Later w2=>(v2.grown N.below).c7
 have e8:=fun N : Later w2=>(v2.grown N.below).c8
 have f2:=fun N : Later w2=>(i2.grown N.below).cell 2 rfl
 haveI:=Later.exists w2
 refine wp_region_later (by kernel_rfl) (by kernel_rfl) ?_
 repeat (go_big_quiet_step (fail))
 refine wpQuiet_nil ?_
 rintro _ ⟨nq,rfl⟩
 clear e0 e1 e2 e3 e4 e5 e6 e7 e8 f2
 have i4:=i2.grown nq.below
 have m4:=m2.below nq.below
 have v4:=v2.grown nq.below
 have o4 : Only (L.and b) w nq.now:=o2.trans (Only.ofGrown nq.below)
 clear i2 m2 o2 v2
 have k0:=i4.cell0 rfl
 have k2:=i4.cell 2 rfl
 have k3:=i4.cell 3 rfl
 have kf:=i4.fz
 have i5:=(i4.set 3 (.int .i64 (i : Int))).set0 (.int .i64 1)
 go_wp2
 go_end0
 exact ⟨rfl,(m4.setIn hb _ _).setIn hb _ _,(o4.set _ _).set _ _,_,i5,(s2.set (by omega) _).set (by omega) _⟩
theorem psee_none {w : World} {L : Loc} {s : Mm} {b o : Nat} {T : TypeId} {cs : Array Value} {sn ch ws sa sb : Int} {κ : Nat} (h : MemAt w L s) (hb : ¬ L.has b) (hi : At w b o T cs (PlV 0 κ sn ch ws sa sb)) (c0 c1 c2 c3 c4 c5 c6 who : Int) (hκ : κ < 4) (hn : 2 + κ < s.n) (nx' : Int) (hnx : (if c2 <= 0 then 8 else 3) = nx') (hw : s.wd (2 + κ) = 0) :
 Calls Tryz.prog 97 #[.pointer (some ⟨b,o,none⟩),.agg #[.int .i64 c0,.int .i64 c1,.int .i64 c2,.int .i64 c3,.int .i64 c4,.int .i64 c5,.int .i64 c6,.pointer (some ⟨L.p,0,none⟩),.int .i64 who]] w fun e w'=>e = .returned (.tuple #[]) /\ MemAt w' L ((s.by who).step (2 + κ) (s.wd (2 + κ))) /\ Only (L.and b) w w' /\ ∃ cs',At w' b o T cs' (PlV nx' κ 0 0 ws sa sb) /\ Same o 7 cs cs':=by
 have hbv : ¬ L.has w.heap.size:=fun hh=>by have:=h.lt _ hh;omega
 have hbb : ¬ w.heap.size = b:=fun hh=>by have:=hi.lt;omega
 have HX : Hid (s.wd (2 + κ) = 0):=hw
 rw [hw]
 clear hw
 go_enter Tryz.func97,Tryz.ntmps97
 go_wp2
 refine wp_over (fun W=>MemAt W L s /\ At W b o T cs (PlV 0 κ sn ch ws sa sb) /\ BoxV W w.heap.size c0 c1 c2 c3 c4 c5 c6 L.p who /\ Only (L.and b) w W) ⟨h.alloc _,hi.grown (grow_alloc (Below.refl _ _) _),BoxV.new,(Only.refl _ _).alloc _⟩ ?_
 rintro W ⟨m1,i1,v1,o1⟩
 refine wp_region_phase (OnlyBut L b (o + 2)) Grown (phAt L b o T cs (cs.setIfInBounds (o + 2) (.int .u64 0)) s ((s.by who).step (2 + κ) 0) (PlV 0 κ sn ch ws sa sb) (PlV 0 κ 0 ch ws sa sb)) [7,10] [.val (.pointer (some ⟨b,o,none⟩)),.val (.agg #[.int .i64 c0,.int .i64 c1,.int .i64 c2,.int .i64 c3,.int .i64 c4,.int .i64 c5,.int .i64 c6,.pointer (some ⟨L.p,0,none⟩),.int .i64 who]),.val (.pointer (some ⟨b,o,none⟩)),.val (.pointer (some ⟨b,o,none⟩)),.val (.pointer (some ⟨b,o + 1,none⟩)),.val (.int .i64 κ),.val (.int .i64 ((2 + κ : Nat) : Int)),.val (.int .u64 0),.val (.pointer (some ⟨b,o,none⟩)),.val (.pointer (some ⟨b,o + 2,none⟩)),.that (fun _ _=>True) (fun _ _ _ _ _=>trivial)]
  (by kernel_rfl) OnlyBut.refl OnlyBut.trans OnlyBut.ofGrown phAt_grown ⟨m1.drew,i1.drew⟩ (by kernel_rfl) (by kernel_rfl) (by kernel_rfl) (by kernel_rfl) (by kernel_rfl) ?_
 simp only [phaseAll,Act.put,List.setIfInBounds_toArray,List.set_cons_zero,List.set_cons_succ]
 refine ⟨?_,?_,?_,?_,?_,?_,?_,?_,?_,?_,?_,?_⟩
 · intros;apply ol;go_simp;exact gl
 · intro w' hR _
   apply ol
   obtain ⟨y0,y1,y2,y3,y4,y5,y6,y7,y8⟩:=(v1.grown ((Below.refl _ _).drew)).only hR.only (fun hh=>hh.elim hbv hbb)
   go_simp
   exact gl
 · intros;apply ol;go_simp;exact gl
 · intros;apply ol;go_simp;exact gl
 · intros;apply ol;go_simp;exact gl
 · intro w' hR _
   apply ol
   have z:=hR.keep (j:=o + 1) (by omega) (i1.drew.cell 1 rfl)
   go_simp
   exact gl
 · intro w' hR _
   apply ol
   go_simp
   refine (lopen_any (κ : Int) _ (by omega) (by omega)).mono ?_
   rintro e w'' ⟨rfl,rfl⟩
   exact ⟨_,rfl,Grown.refl _,congrArg (Value.int .i64) (by omega)⟩
 · intro w' hR _ hP
   apply ol
   go_simp
   refine (eload_in (s:=s) hP.1 _ _ _ _ _ _ _ _ (2 + κ) hn).mono ?_
   rintro e w'' ⟨rfl,m2,o2⟩
   rw [HX.out] at m2
   exact ⟨_,rfl,⟨OnlyBut.ofOnly o2 hb,m2,hP.2.only o2 hb⟩,by simp [Want.pred,HX.out]⟩
 · intros;apply ol;go_simp;exact gl
 · intros;apply ol;go_simp;exact gl
 · intro w' hR _ hP
   apply ol
   have z0:=hP.2.cell 2 rfl
   have z1:=hP.2.fz
   go_simp
   exact ⟨⟨OnlyBut.set _ _,hP.1.setIn hb _ _,hP.2.set 2 _⟩,trivial⟩
 intro v w2 hR hP _
 obtain ⟨m2,i2⟩ : MemAt w2 L ((s.by who).step (2 + κ) 0) /\ At w2 b o T (cs.setIfInBounds (o + 2) (.int .u64 0)) (PlV 0 κ 0 ch ws sa sb):=hP
 have o2 : Only (L.and b) w w2:=o1.drew.trans hR.only
 have v2:=(v1.grown ((Below.refl _ _).drew)).only hR.only (fun hh=>hh.elim hbv hbb)
 have s2 : Same o 7 cs (cs.setIfInBounds (o + 2) (.int .u64 0)):=Same.refl.set (by omega) _
 clear hR o1 v1 m1 i1
 go_wp2
 have e0:=fun N : Later w2=>(v2.grown N.below).c0
 have e1:=fun N : Later w2=>(v2.grown N.below).c1
 have e2:=fun N : Later w2=>(v2.grown N.below).c2
 have e3:=fun N : Later w2=>(v2.grown N.below).c3
 have e4:=fun N : Later w2=>(v2.grown N.below).c4
 have e5:=fun N : Later w2=>(v2.grown N.below).c5
 have e6:=fun N : Later w2=>(v2.grown N.below).c6
 have e7:=fun N : Later w2=>(v2.grown N.below).c7
 have e8:=fun N : Later w2=>(v2.grown N.below).c8
 have f2:=fun N : Later w2=>(i2.grown N.below).cell 2 rfl
 haveI:=Later.exists w2
 refine wp_region_later (by kernel_rfl) (by kernel_rfl) ?_
 repeat (go_big_quiet_step (fail))
 refine wpQuiet_nil ?_
 rintro _ ⟨nq,rfl⟩
 clear e0 e1 e2 e3 e4 e5 e6 e7 e8 f2
 have i4:=i2.grown nq.below
 have m4:=m2.below nq.below
 have v4:=v2.grown nq.below
 have o4 : Only (L.and b) w nq.now:=o2.trans (Only.ofGrown nq.below)
 clear i2 m2 o2 v2
 have k0:=i4.cell0 rfl
 have k2:=i4.cell 2 rfl
 have k3:=i4.cell 3 rfl
 have kf:=i4.fz
 obtain ⟨y0,y1,y2,y3,y4,y5,y6,y7,y8⟩:=id v4
 go_wp2_with (go_at_call 109;refine (plook_any m4 hb i4 _ _ _ _ _ _ _ _ 0 nx' hnx).mono ?_;rintro e w5 ⟨rfl,m5,o5,cs5,i5,s5⟩)
 refine bodyPost_ret (results_none rfl _ _ _) rfl ?_
 exact ⟨rfl,m5,o4.trans o5,cs5,i5,s2.trans s5⟩
end Go.Proofs.YtlolfmoolgenpaaGreat

namespace Go.Proofs.YtlolfmoolgenpaaGreat
open Go.RowKit
set_option maxRecDepth 20000
theorem plookup_yes {w : World} {L : Loc} {s : Mm} {b o : Nat} {T : TypeId} {cs : Array Value} {sn ws sa sb : Int} {ch κ : Nat} (h : MemAt w L s) (hb : ¬ L.has b) (hi : At w b o T cs (PlV 3 κ sn ch ws sa sb)) (c0 c1 c2 c3 c4 c5 c6 who : Int) (A : Nat) (ar : Arena c0 c1 c2 c3) (hch : ch <= 1000000) (hA : 6 + c0 + c1 * 2 + (ch : Int) * 3 = A) (hn : A < s.n) (C : Ck) (σ : Nat) (hC : C.ok σ) (hσ : σ <= 1000000) (hw : s.wd A = C.w) (hst : C.st = 0) :
 Calls Tryz.prog 100 #[.pointer (some ⟨b,o,none⟩),.agg #[.int .i64 c0,.int .i64 c1,.int .i64 c2,.int .i64 c3,.int .i64 c4,.int .i64 c5,.int .i64 c6,.pointer (some ⟨L.p,0,none⟩),.int .i64 who]] w fun e w'=>e = .returned (.tuple #[]) /\ MemAt w' L ((s.by who).step A (s.wd A)) /\ Only (L.and b) w w' /\ ∃ cs',At w' b o T cs' (PlV 4 κ sn ch C.w sa sb) /\ Same o 7 cs cs':=by
 have hbv : ¬ L.has w.heap.size:=fun hh=>by have:=h.lt _ hh;omega
 have hbb : ¬ w.heap.size = b:=fun hh=>by have:=hi.lt;omega
 have HA : Hid (6 + c0 + c1 * 2 + (ch : Int) * 3 = A):=hA
 have cw:=fun w=>chunk_w C σ hC (by omega) w
 rw [hw]
 obtain ⟨Z,hZ⟩ : ∃ Z,C.w = Z:=⟨_,rfl⟩
 rw [hZ] at cw hw ⊢
 have HX : Hid (s.wd A = Z):=hw
 clear hw hA
 have fl : ∀ (a1 a2 a3 a4 : Value) (w : World),(Instr.field 166 (.agg #[a1,a2,a3,a4]) 0).run Tryz.prog w = .ok a1 w:=fun a1 a2 a3 a4 w=>by kernel_rfl
 rw [hst] at cw
 go_enter Tryz.func100,Tryz.ntmps100
 go_wp2
 refine wp_over (fun W=>MemAt W L s /\ At W b o T cs (PlV 3 κ sn ch ws sa sb) /\ BoxV W w.heap.size c0 c1 c2 c3 c4 c5 c6 L.p who /\ Only (L.and b) w W) ⟨h.alloc _,hi.grown (grow_alloc (Below.refl _ _) _),BoxV.new,(Only.refl _ _).alloc _⟩ ?_
 rintro W ⟨m1,i1,v1,o1⟩
 refine wp_region_phase (OnlyBut L b (o + 4)) Grown (phAt L b o T cs (cs.setIfInBounds (o + 4) (.int .u64 Z)) s ((s.by who).step A Z) (PlV 3 κ sn ch ws sa sb) (PlV 3 κ sn ch Z sa sb)) [5,8] [.val (.pointer (some ⟨b,o,none⟩)),.val (.agg #[.int .i64 c0,.int .i64 c1,.int .i64 c2,.int .i64 c3,.int .i64 c4,.int .i64 c5,.int .i64 c6,.pointer (some ⟨L.p,0,none⟩),.int .i64 who]),.val (.pointer (some ⟨b,o,none⟩)),.val (.agg #[.int .i64 c0,.int .i64 c1,.int .i64 c2,.int .i64 c3,.int .i64 c4,.int .i64 c5,.int .i64 c6,.pointer (some ⟨L.p,0,none⟩),.int .i64 who]),.val (.int .i64 A),.val (.int .u64 Z),.val (.pointer (some ⟨b,o,none⟩)),.val (.pointer (some ⟨b,o + 4,none⟩)),.that (fun _ _=>True) (fun _ _ _ _ _=>trivial)]
  (by kernel_rfl) OnlyBut.refl OnlyBut.trans OnlyBut.ofGrown phAt_grown ⟨m1.drew,i1.drew⟩ (by kernel_rfl) (by kernel_rfl) (by kernel_rfl) (by kernel_rfl) (by kernel_rfl) ?_
 simp only [phaseAll,Act.put,List.setIfInBounds_toArray,List.set_cons_zero,List.set_cons_succ]
 refine ⟨?_,?_,?_,?_,?_,?_,?_,?_,?_,?_⟩
 · intros;apply ol;go_simp;exact gl
 · intro w' hR _
   apply ol
   obtain ⟨y0,y1,y2,y3,y4,y5,y6,y7,y8⟩:=(v1.grown ((Below.refl _ _).drew)).only hR.only (fun hh=>hh.elim hbv hbb)
   go_simp
   exact gl
 · intros;apply ol;go_simp;exact gl
 · intro w' hR _
   apply ol
   obtain ⟨y0,y1,y2,y3,y4,y5,y6,y7,y8⟩:=(v1.grown ((Below.refl _ _).drew)).only hR.only (fun hh=>hh.elim hbv hbb)
   go_simp
   exact gl
 · intro w' hR _
   apply ol
   go_simp
   refine (pat_any (hR.keep (j:=o + 3) (by omega) (i1.drew.cell 3 rfl)) _ _ _ _ _ _ _ _ A ar hch HA.out).mono ?_
   rintro e w'' ⟨rfl,b9⟩
   exact ⟨_,rfl,b9,rfl⟩
 · intro w' hR _ hP
   apply ol
   go_simp
   refine (eload_in (s:=s) hP.1 _ _ _ _ _ _ _ _ A hn).mono ?_
   rintro e w'' ⟨rfl,m2,o2⟩
   rw [HX.out] at m2
   exact ⟨_,rfl,⟨OnlyBut.ofOnly o2 hb,m2,hP.2.only o2 hb⟩,by simp [Want.pred,HX.out]⟩
 · intros;apply ol;go_simp;exact gl
 · intros;apply ol;go_simp;exact gl
 · intro w' hR _ hP
   apply ol
   have z0:=hP.2.cell 4 rfl
   have z1:=hP.2.fz
   go_simp
   exact ⟨⟨OnlyBut.set _ _,hP.1.setIn hb _ _,hP.2.set 4 _⟩,trivial⟩
 intro v w2 hR hP _
 obtain ⟨m2,i2⟩ : MemAt w2 L ((s.by who).step A Z) /\ At w2 b o T (cs.setIfInBounds (o + 4) (.int .u64 Z)) (PlV 3 κ sn ch Z sa sb):=hP
 have o2 : Only (L.and b) w w2:=o1.drew.trans hR.only
 have v2:=(v1.grown ((Below.refl _ _).drew)).only hR.only (fun hh=>hh.elim hbv hbb)
 have s2 : Same o 7 cs (cs.setIfInBounds (o + 4) (.int .u64 Z)):=Same.refl.set (by omega) _
 clear hR o1 v1 m1 i1
 have k4:=i2.cell 4 rfl
 go_wp2_with (go_at_call 111;refine (cw _).mono ?_;rintro e w3 ⟨rfl,b3⟩;have i4:=i2.grown b3;have m4:=m2.below b3;have v4:=v2.grown b3;have o4:=o2.trans (Only.ofGrown b3);have k0:=i4.cell0 rfl;have kf:=i4.fz)
 go_end0
 exact ⟨rfl,m4.setIn hb _ _,o4.set _ _,_,i4.set0 _,s2.set (j:=o) (by omega) _⟩
theorem plookup_no {w : World} {L : Loc} {s : Mm} {b o : Nat} {T : TypeId} {cs : Array Value} {sn ws sa sb : Int} {ch κ : Nat} (h : MemAt w L s) (hb : ¬ L.has b) (hi : At w b o T cs (PlV 3 κ sn ch ws sa sb)) (c0 c1 c2 c3 c4 c5 c6 who : Int) (A : Nat) (ar : Arena c0 c1 c2 c3) (hch : ch <= 1000000) (hA : 6 + c0 + c1 * 2 + (ch : Int) * 3 = A) (hn : A < s.n) (C : Ck) (σ : Nat) (hC : C.ok σ) (hσ : σ <= 1000000) (hw : s.wd A = C.w) (hst : ¬ C.st = 0) (nx' : Int) (hnx : (if c2 <= (ch : Int) + 1 then 8 else 3) = nx') :
 Calls Tryz.prog 100 #[.pointer (some ⟨b,o,none⟩),.agg #[.int .i64 c0,.int .i64 c1,.int .i64 c2,.int .i64 c3,.int .i64 c4,.int .i64 c5,.int .i64 c6,.pointer (some ⟨L.p,0,none⟩),.int .i64 who]] w fun e w'=>e = .returned (.tuple #[]) /\ MemAt w' L ((s.by who).step A (s.wd A)) /\ Only (L.and b) w w' /\ ∃ cs',At w' b o T cs' (PlV nx' κ sn ((ch : Int) + 1) C.w sa sb) /\ Same o 7 cs cs':=by
 have hbv : ¬ L.has w.heap.size:=fun hh=>by have:=h.lt _ hh;omega
 have hbb : ¬ w.heap.size = b:=fun hh=>by have:=hi.lt;omega
 have HA : Hid (6 + c0 + c1 * 2 + (ch : Int) * 3 = A):=hA
 have cw:=fun w=>chunk_w C σ hC (by omega) w
 rw [hw]
 obtain ⟨Z,hZ⟩ : ∃ Z,C.w = Z:=⟨_,rfl⟩
 rw [hZ] at cw hw ⊢
 have HX : Hid (s.wd A = Z):=hw
 clear hw hA
 have fl : ∀ (a1 a2 a3 a4 : Value) (w : World),(Instr.field 166 (.agg #[a1,a2,a3,a4]) 0).run Tryz.prog w = .ok a1 w:=fun a1 a2 a3 a4 w=>by kernel_rfl
 have hst' : ¬ (C.st : Int) = 0:=by omega
 have hst2 : ((C.st : Int) != 0) = true:=by simp;omega
 clear hst
 go_enter Tryz.func100,Tryz.ntmps100
 go_wp2
 refine wp_over (fun W=>MemAt W L s /\ At W b o T cs (PlV 3 κ sn ch ws sa sb) /\ BoxV W w.heap.size c0 c1 c2 c3 c4 c5 c6 L.p who /\ Only (L.and b) w W) ⟨h.alloc _,hi.grown (grow_alloc (Below.refl _ _) _),BoxV.new,(Only.refl _ _).alloc _⟩ ?_
 rintro W ⟨m1,i1,v1,o1⟩
 refine wp_region_phase (OnlyBut L b (o + 4)) Grown (phAt L b o T cs (cs.setIfInBounds (o + 4) (.int .u64 Z)) s ((s.by who).step A Z) (PlV 3 κ sn ch ws sa sb) (PlV 3 κ sn ch Z sa sb)) [5,8] [.val (.pointer (some ⟨b,o,none⟩)),.val (.agg #[.int .i64 c0,.int .i64 c1,.int .i64 c2,.int .i64 c3,.int .i64 c4,.int .i64 c5,.int .i64 c6,.pointer (some ⟨L.p,0,none⟩),.int .i64 who]),.val (.pointer (some ⟨b,o,none⟩)),.val (.agg #[.int .i64 c0,.int .i64 c1,.int .i64 c2,.int .i64 c3,.int .i64 c4,.int .i64 c5,.int .i64 c6,.pointer (some ⟨L.p,0,none⟩),.int .i64 who]),.val (.int .i64 A),.val (.int .u64 Z),.val (.pointer (some ⟨b,o,none⟩)),.val (.pointer (some ⟨b,o + 4,none⟩)),.that (fun _ _=>True) (fun _ _ _ _ _=>trivial)]
  (by kernel_rfl) OnlyBut.refl OnlyBut.trans OnlyBut.ofGrown phAt_grown ⟨m1.drew,i1.drew⟩ (by kernel_rfl) (by kernel_rfl) (by kernel_rfl) (by kernel_rfl) (by kernel_rfl) ?_
 simp only [phaseAll,Act.put,List.setIfInBounds_toArray,List.set_cons_zero,List.set_cons_succ]
 refine ⟨?_,?_,?_,?_,?_,?_,?_,?_,?_,?_⟩
 · intros;apply ol;go_simp;exact gl
 · intro w' hR _
   apply ol
   obtain ⟨y0,y1,y2,y3,y4,y5,y6,y7,y8⟩:=(v1.grown ((Below.refl _ _).drew)).only hR.only (fun hh=>hh.elim hbv hbb)
   go_simp
   exact gl
 · intros;apply ol;go_simp;exact gl
 · intro w' hR _
   apply ol
   obtain ⟨y0,y1,y2,y3,y4,y5,y6,y7,y8⟩:=(v1.grown ((Below.refl _ _).drew)).only hR.only (fun hh=>hh.elim hbv hbb)
   go_simp
   exact gl
 · intro w' hR _
   apply ol
   go_simp
   refine (pat_any (hR.keep (j:=o + 3) (by omega) (i1.drew.cell 3 rfl)) _ _ _ _ _ _ _ _ A ar hch HA.out).mono ?_
   rintro e w'' ⟨rfl,b9⟩
   exact ⟨_,rfl,b9,rfl⟩
 · intro w' hR _ hP
   apply ol
   go_simp
   refine (eload_in (s:=s) hP.1 _ _ _ _ _ _ _ _ A hn).mono ?_
   rintro e w'' ⟨rfl,m2,o2⟩
   rw [HX.out] at m2
   exact ⟨_,rfl,⟨OnlyBut.ofOnly o2 hb,m2,hP.2.only o2 hb⟩,by simp [Want.pred,HX.out]⟩
 · intros;apply ol;go_simp;exact gl
 · intros;apply ol;go_simp;exact gl
 · intro w' hR _ hP
   apply ol
   have z0:=hP.2.cell 4 rfl
   have z1:=hP.2.fz
   go_simp
   exact ⟨⟨OnlyBut.set _ _,hP.1.setIn hb _ _,hP.2.set 4 _⟩,trivial⟩
 intro v w2 hR hP _
 obtain ⟨m2,i2⟩ : MemAt w2 L ((s.by who).step A Z) /\ At w2 b o T (cs.setIfInBounds (o + 4) (.int .u64 Z)) (PlV 3 κ sn ch Z sa sb):=hP
 have o2 : Only (L.and b) w w2:=o1.drew.trans hR.only
 have v2:=(v1.grown ((Below.refl _ _).drew)).only hR.only (fun hh=>hh.elim hbv hbb)
 have s2 : Same o 7 cs (cs.setIfInBounds (o + 4) (.int .u64 Z)):=Same.refl.set (by omega) _
 clear hR o1 v1 m1 i1
 have k4:=i2.cell 4 rfl
 go_wp2_with (go_at_call 111;refine (cw _).mono ?_;rintro e w3 ⟨rfl,b3⟩;have i4:=i2.grown b3;have m4:=m2.below b3;have v4:=v2.grown b3;have o4:=o2.trans (Only.ofGrown b3);have k0:=i4.cell0 rfl;have kf:=i4.fz)
 refine wp_over (fun W=>MemAt W L ((s.by who).step A Z) /\ At W b o T (cs.setIfInBounds (o + 4) (.int .u64 Z)) (PlV 3 κ sn ch Z sa sb) /\ BoxV W w.heap.size c0 c1 c2 c3 c4 c5 c6 L.p who /\ Only (L.and b) w W) ⟨m4,i4,v4,o4⟩ ?_
 clear m2 i2 v2 o2 k4 b3 i4 m4 v4 o4 k0 kf
 rintro W ⟨m1,i1,v1,o1⟩
 refine wp_region_rely_tail Grown 7 [.val (.pointer (some ⟨b,o,none⟩)),.val (.agg #[.int .i64 c0,.int .i64 c1,.int .i64 c2,.int .i64 c3,.int .i64 c4,.int .i64 c5,.int .i64 c6,.pointer (some ⟨L.p,0,none⟩),.int .i64 who]),.val (.pointer (some ⟨b,o,none⟩)),.val (.pointer (some ⟨b,o,none⟩)),.val (.pointer (some ⟨b,o + 3,none⟩)),.val (.int .i64 ch),.val (.int .i64 ((ch : Int) + 1))] (by kernel_rfl) Grown.refl Grown.trans (by decide) (by kernel_rfl) (by kernel_rfl) (by kernel_rfl) (by kernel_rfl) (by kernel_rfl) (by kernel_rfl) ?_
 simp only [List.take_succ_cons,List.take_zero,relyAll,Act.put,List.setIfInBounds_toArray,List.set_cons_zero,List.set_cons_succ]
 refine ⟨?_,?_,?_,?_,?_,?_,?_,?_⟩
 · intros;apply ol;go_simp;exact gl
 · intro w' hg _
   apply ol
   obtain ⟨y0,y1,y2,y3,y4,y5,y6,y7,y8⟩:=(v1.grown ((Below.refl _ _).drew)).grown hg
   go_simp
   exact gl
 · intros;apply ol;go_simp;exact gl
 · intros;apply ol;go_simp;exact gl
 · intros;apply ol;go_simp;exact gl
 · intro w' hg _
   apply ol
   have z:=(i1.drew.grown hg).cell 3 rfl
   go_simp
   exact gl
 · intro w' hg _
   apply ol
   go_simp
   exact ⟨Grown.refl _,by simp only [Want.pred];rw [IntKind.wrap_i64];exact congrArg (Value.int .i64) (by omega)⟩
 intro w5 hg _
 have m5:=m1.drew.below hg
 have i5:=i1.drew.grown hg
 have v5:=(v1.grown ((Below.refl _ _).drew)).grown hg
 have o5 : Only (L.and b) w w5:=o1.drew.trans (Only.ofGrown hg)
 clear hg m1 i1 v1 o1
 go_wp2_with (go_at_call 109;refine (plook_any m5 hb i5 _ _ _ _ _ _ _ _ _ nx' hnx).mono ?_;rintro e w6 ⟨rfl,m6,o6,cs6,i6,s6⟩)
 refine bodyPost_ret (results_none rfl _ _ _) rfl ?_
 exact ⟨rfl,m6,o5.trans o6,cs6,i6,s2.trans s6⟩
end Go.Proofs.YtlolfmoolgenpaaGreat

namespace Go.Proofs.YtlolfmoolgenpaaGreat
open Go.RowKit
set_option maxRecDepth 20000
theorem pask_yes {w : World} {L : Loc} {s : Mm} {b o : Nat} {T : TypeId} {cs : Array Value} {sn ws sa sb : Int} {ch κ : Nat} (h : MemAt w L s) (hb : ¬ L.has b) (hi : At w b o T cs (PlV 1 κ sn ch ws sa sb)) (c0 c1 c2 c3 c4 c5 c6 who : Int) (A : Nat) (ar : Arena c0 c1 c2 c3) (hch : ch <= 1000000) (hA : 6 + c0 + c1 * 2 + (ch : Int) * 3 = A) (hn : A < s.n) (C : Ck) (σ : Nat) (hC : C.ok σ) (hσ : σ <= 1000000) (hw : s.wd A = C.w) (hκ : κ < 4) (h1 : C.st = 1) (h2 : C.cl = κ) (h3 : (C.us : Int) + (room κ : Int) <= c3)  :
 Calls Tryz.prog 98 #[.pointer (some ⟨b,o,none⟩),.agg #[.int .i64 c0,.int .i64 c1,.int .i64 c2,.int .i64 c3,.int .i64 c4,.int .i64 c5,.int .i64 c6,.pointer (some ⟨L.p,0,none⟩),.int .i64 who]] w fun e w'=>e = .returned (.tuple #[]) /\ MemAt w' L ((s.by who).step A (s.wd A)) /\ Only (L.and b) w w' /\ ∃ cs',At w' b o T cs' (PlV 2 κ sn ch C.w sa sb) /\ Same o 7 cs cs':=by
 have hbv : ¬ L.has w.heap.size:=fun hh=>by have:=h.lt _ hh;omega
 have hbb : ¬ w.heap.size = b:=fun hh=>by have:=hi.lt;omega
 have HA : Hid (6 + c0 + c1 * 2 + (ch : Int) * 3 = A):=hA
 have cw:=fun w=>chunk_w C σ hC (by omega) w
 rw [hw]
 obtain ⟨Z,hZ⟩ : ∃ Z,C.w = Z:=⟨_,rfl⟩
 rw [hZ] at cw hw ⊢
 have HX : Hid (s.wd A = Z):=hw
 clear hw hA
 rw [h1] at cw
 rw [h2] at cw
 have hr:=room_bd κ
 have hu:=hC.us
 clear hC
 go_enter Tryz.func98,Tryz.ntmps98
 go_wp2
 refine wp_over (fun W=>MemAt W L s /\ At W b o T cs (PlV 1 κ sn ch ws sa sb) /\ BoxV W w.heap.size c0 c1 c2 c3 c4 c5 c6 L.p who /\ Only (L.and b) w W) ⟨h.alloc _,hi.grown (grow_alloc (Below.refl _ _) _),BoxV.new,(Only.refl _ _).alloc _⟩ ?_
 rintro W ⟨m1,i1,v1,o1⟩
 refine wp_region_phase (OnlyBut L b (o + 4)) Grown (phAt L b o T cs (cs.setIfInBounds (o + 4) (.int .u64 Z)) s ((s.by who).step A Z) (PlV 1 κ sn ch ws sa sb) (PlV 1 κ sn ch Z sa sb)) [5,8] [.val (.pointer (some ⟨b,o,none⟩)),.val (.agg #[.int .i64 c0,.int .i64 c1,.int .i64 c2,.int .i64 c3,.int .i64 c4,.int .i64 c5,.int .i64 c6,.pointer (some ⟨L.p,0,none⟩),.int .i64 who]),.val (.pointer (some ⟨b,o,none⟩)),.val (.agg #[.int .i64 c0,.int .i64 c1,.int .i64 c2,.int .i64 c3,.int .i64 c4,.int .i64 c5,.int .i64 c6,.pointer (some ⟨L.p,0,none⟩),.int .i64 who]),.val (.int .i64 A),.val (.int .u64 Z),.val (.pointer (some ⟨b,o,none⟩)),.val (.pointer (some ⟨b,o + 4,none⟩)),.that (fun _ _=>True) (fun _ _ _ _ _=>trivial)]
  (by kernel_rfl) OnlyBut.refl OnlyBut.trans OnlyBut.ofGrown phAt_grown ⟨m1.drew,i1.drew⟩ (by kernel_rfl) (by kernel_rfl) (by kernel_rfl) (by kernel_rfl) (by kernel_rfl) ?_
 simp only [phaseAll,Act.put,List.setIfInBounds_toArray,List.set_cons_zero,List.set_cons_succ]
 refine ⟨?_,?_,?_,?_,?_,?_,?_,?_,?_,?_⟩
 · intros;apply ol;go_simp;exact gl
 · intro w' hR _
   apply ol
   obtain ⟨y0,y1,y2,y3,y4,y5,y6,y7,y8⟩:=(v1.grown ((Below.refl _ _).drew)).only hR.only (fun hh=>hh.elim hbv hbb)
   go_simp
   exact gl
 · intros;apply ol;go_simp;exact gl
 · intro w' hR _
   apply ol
   obtain ⟨y0,y1,y2,y3,y4,y5,y6,y7,y8⟩:=(v1.grown ((Below.refl _ _).drew)).only hR.only (fun hh=>hh.elim hbv hbb)
   go_simp
   exact gl
 · intro w' hR _
   apply ol
   go_simp
   refine (pat_any (hR.keep (j:=o + 3) (by omega) (i1.drew.cell 3 rfl)) _ _ _ _ _ _ _ _ A ar hch HA.out).mono ?_
   rintro e w'' ⟨rfl,b9⟩
   exact ⟨_,rfl,b9,rfl⟩
 · intro w' hR _ hP
   apply ol
   go_simp
   refine (eload_in (s:=s) hP.1 _ _ _ _ _ _ _ _ A hn).mono ?_
   rintro e w'' ⟨rfl,m2,o2⟩
   rw [HX.out] at m2
   exact ⟨_,rfl,⟨OnlyBut.ofOnly o2 hb,m2,hP.2.only o2 hb⟩,by simp [Want.pred,HX.out]⟩
 · intros;apply ol;go_simp;exact gl
 · intros;apply ol;go_simp;exact gl
 · intro w' hR _ hP
   apply ol
   have z0:=hP.2.cell 4 rfl
   have z1:=hP.2.fz
   go_simp
   exact ⟨⟨OnlyBut.set _ _,hP.1.setIn hb _ _,hP.2.set 4 _⟩,trivial⟩
 intro v w2 hR hP _
 obtain ⟨m2,i2⟩ : MemAt w2 L ((s.by who).step A Z) /\ At w2 b o T (cs.setIfInBounds (o + 4) (.int .u64 Z)) (PlV 1 κ sn ch Z sa sb):=hP
 have o2 : Only (L.and b) w w2:=o1.drew.trans hR.only
 have v2:=(v1.grown ((Below.refl _ _).drew)).only hR.only (fun hh=>hh.elim hbv hbb)
 have s2 : Same o 7 cs (cs.setIfInBounds (o + 4) (.int .u64 Z)):=Same.refl.set (by omega) _
 clear hR o1 v1 m1 i1
 have k4:=i2.cell 4 rfl
 go_wp2_with (go_at_call 111;refine (cw _).mono ?_;rintro e w3 ⟨rfl,b3⟩;have i4:=i2.grown b3;have m4:=m2.below b3;have v4:=v2.grown b3;have o4:=o2.trans (Only.ofGrown b3))
 obtain ⟨B,hB⟩ : ∃ B,w3.heap.size = B:=⟨_,rfl⟩
 have j4:=At.new w3 166 [.int .i64 1,.int .i64 κ,.int .i64 C.us,.int .i64 C.sp]
 rw [hB] at j4
 refine wp_over (fun W=>MemAt W L ((s.by who).step A Z) /\ At W b o T (cs.setIfInBounds (o + 4) (.int .u64 Z)) (PlV 1 κ sn ch Z sa sb) /\ BoxV W w.heap.size c0 c1 c2 c3 c4 c5 c6 L.p who /\ Only (L.and b) w W /\ At W B 0 166 _ [.int .i64 1,.int .i64 κ,.int .i64 C.us,.int .i64 C.sp]) ⟨m4.alloc _,i4.grown (grow_alloc (Below.refl _ _) _),v4.grown (grow_alloc (Below.refl _ _) _),o4.alloc _,j4⟩ ?_
 clear m2 i2 v2 o2 k4 b3 i4 m4 v4 o4 j4 HX HA
 rintro W ⟨m1,i1,v1,o1,j1⟩
 have g0:=fun N : Later W=>(j1.grown N.below).at0 0 rfl
 have g3:=fun N : Later W=>(j1.grown N.below).at0 1 rfl
 have g4:=fun N : Later W=>(j1.grown N.below).at0 2 rfl
 have e0:=fun N : Later W=>(v1.grown N.below).c0
 have e1:=fun N : Later W=>(v1.grown N.below).c1
 have e2:=fun N : Later W=>(v1.grown N.below).c2
 have e3:=fun N : Later W=>(v1.grown N.below).c3
 have e4:=fun N : Later W=>(v1.grown N.below).c4
 have e5:=fun N : Later W=>(v1.grown N.below).c5
 have e6:=fun N : Later W=>(v1.grown N.below).c6
 have e7:=fun N : Later W=>(v1.grown N.below).c7
 have e8:=fun N : Later W=>(v1.grown N.below).c8
 have f1:=fun N : Later W=>(i1.grown N.below).cell 1 rfl
 haveI:=Later.exists W
 refine wp_region_later (by kernel_rfl) (by kernel_rfl) ?_
 repeat (go_big_quiet_step ((go_at_call 88;exact Calls.later_same (lroom_w κ hκ _))))
 refine wpQuiet_nil ?_
 rintro _ ⟨nq,rfl⟩
 clear e0 e1 e2 e3 e4 e5 e6 e7 e8 f1
 have i4:=i1.grown nq.below
 have m4:=m1.below nq.below
 have v4:=v1.grown nq.below
 have o4 : Only (L.and b) w nq.now:=o1.trans (Only.ofGrown nq.below)
 clear i1 m1 o1 v1 j1 g0 g3 g4
 have k0:=i4.cell0 rfl
 have kf:=i4.fz
 go_wp2
 go_end0
 exact ⟨rfl,m4.setIn hb _ _,o4.set _ _,_,i4.set0 _,s2.set (j:=o) (by omega) _⟩
theorem pask_no1 {w : World} {L : Loc} {s : Mm} {b o : Nat} {T : TypeId} {cs : Array Value} {sn ws sa sb : Int} {ch κ : Nat} (h : MemAt w L s) (hb : ¬ L.has b) (hi : At w b o T cs (PlV 1 κ sn ch ws sa sb)) (c0 c1 c2 c3 c4 c5 c6 who : Int) (A : Nat) (ar : Arena c0 c1 c2 c3) (hch : ch <= 1000000) (hA : 6 + c0 + c1 * 2 + (ch : Int) * 3 = A) (hn : A < s.n) (C : Ck) (σ : Nat) (hC : C.ok σ) (hσ : σ <= 1000000) (hw : s.wd A = C.w) (h1 : ¬ C.st = 1) (nx' : Int) (hnx : (if c2 <= 0 then 8 else 3) = nx') :
 Calls Tryz.prog 98 #[.pointer (some ⟨b,o,none⟩),.agg #[.int .i64 c0,.int .i64 c1,.int .i64 c2,.int .i64 c3,.int .i64 c4,.int .i64 c5,.int .i64 c6,.pointer (some ⟨L.p,0,none⟩),.int .i64 who]] w fun e w'=>e = .returned (.tuple #[]) /\ MemAt w' L ((s.by who).step A (s.wd A)) /\ Only (L.and b) w w' /\ ∃ cs',At w' b o T cs' (PlV nx' κ sn 0 C.w sa sb) /\ Same o 7 cs cs':=by
 have hbv : ¬ L.has w.heap.size:=fun hh=>by have:=h.lt _ hh;omega
 have hbb : ¬ w.heap.size = b:=fun hh=>by have:=hi.lt;omega
 have HA : Hid (6 + c0 + c1 * 2 + (ch : Int) * 3 = A):=hA
 have cw:=fun w=>chunk_w C σ hC (by omega) w
 rw [hw]
 obtain ⟨Z,hZ⟩ : ∃ Z,C.w = Z:=⟨_,rfl⟩
 rw [hZ] at cw hw ⊢
 have HX : Hid (s.wd A = Z):=hw
 clear hw hA
 have g1 : ((C.st : Int) != 1) = true:=by simp;omega
 have hr:=room_bd κ
 have hu:=hC.us
 clear hC
 go_enter Tryz.func98,Tryz.ntmps98
 go_wp2
 refine wp_over (fun W=>MemAt W L s /\ At W b o T cs (PlV 1 κ sn ch ws sa sb) /\ BoxV W w.heap.size c0 c1 c2 c3 c4 c5 c6 L.p who /\ Only (L.and b) w W) ⟨h.alloc _,hi.grown (grow_alloc (Below.refl _ _) _),BoxV.new,(Only.refl _ _).alloc _⟩ ?_
 rintro W ⟨m1,i1,v1,o1⟩
 refine wp_region_phase (OnlyBut L b (o + 4)) Grown (phAt L b o T cs (cs.setIfInBounds (o + 4) (.int .u64 Z)) s ((s.by who).step A Z) (PlV 1 κ sn ch ws sa sb) (PlV 1 κ sn ch Z sa sb)) [5,8] [.val (.pointer (some ⟨b,o,none⟩)),.val (.agg #[.int .i64 c0,.int .i64 c1,.int .i64 c2,.int .i64 c3,.int .i64 c4,.int .i64 c5,.int .i64 c6,.pointer (some ⟨L.p,0,none⟩),.int .i64 who]),.val (.pointer (some ⟨b,o,none⟩)),.val (.agg #[.int .i64 c0,.int .i64 c1,.int .i64 c2,.int .i64 c3,.int .i64 c4,.int .i64 c5,.int .i64 c6,.pointer (some ⟨L.p,0,none⟩),.int .i64 who]),.val (.int .i64 A),.val (.int .u64 Z),.val (.pointer (some ⟨b,o,none⟩)),.val (.pointer (some ⟨b,o + 4,none⟩)),.that (fun _ _=>True) (fun _ _ _ _ _=>trivial)]
  (by kernel_rfl) OnlyBut.refl OnlyBut.trans OnlyBut.ofGrown phAt_grown ⟨m1.drew,i1.drew⟩ (by kernel_rfl) (by kernel_rfl) (by kernel_rfl) (by kernel_rfl) (by kernel_rfl) ?_
 simp only [phaseAll,Act.put,List.setIfInBounds_toArray,List.set_cons_zero,List.set_cons_succ]
 refine ⟨?_,?_,?_,?_,?_,?_,?_,?_,?_,?_⟩
 · intros;apply ol;go_simp;exact gl
 · intro w' hR _
   apply ol
   obtain ⟨y0,y1,y2,y3,y4,y5,y6,y7,y8⟩:=(v1.grown ((Below.refl _ _).drew)).only hR.only (fun hh=>hh.elim hbv hbb)
   go_simp
   exact gl
 · intros;apply ol;go_simp;exact gl
 · intro w' hR _
   apply ol
   obtain ⟨y0,y1,y2,y3,y4,y5,y6,y7,y8⟩:=(v1.grown ((Below.refl _ _).drew)).only hR.only (fun hh=>hh.elim hbv hbb)
   go_simp
   exact gl
 · intro w' hR _
   apply ol
   go_simp
   refine (pat_any (hR.keep (j:=o + 3) (by omega) (i1.drew.cell 3 rfl)) _ _ _ _ _ _ _ _ A ar hch HA.out).mono ?_
   rintro e w'' ⟨rfl,b9⟩
   exact ⟨_,rfl,b9,rfl⟩
 · intro w' hR _ hP
   apply ol
   go_simp
   refine (eload_in (s:=s) hP.1 _ _ _ _ _ _ _ _ A hn).mono ?_
   rintro e w'' ⟨rfl,m2,o2⟩
   rw [HX.out] at m2
   exact ⟨_,rfl,⟨OnlyBut.ofOnly o2 hb,m2,hP.2.only o2 hb⟩,by simp [Want.pred,HX.out]⟩
 · intros;apply ol;go_simp;exact gl
 · intros;apply ol;go_simp;exact gl
 · intro w' hR _ hP
   apply ol
   have z0:=hP.2.cell 4 rfl
   have z1:=hP.2.fz
   go_simp
   exact ⟨⟨OnlyBut.set _ _,hP.1.setIn hb _ _,hP.2.set 4 _⟩,trivial⟩
 intro v w2 hR hP _
 obtain ⟨m2,i2⟩ : MemAt w2 L ((s.by who).step A Z) /\ At w2 b o T (cs.setIfInBounds (o + 4) (.int .u64 Z)) (PlV 1 κ sn ch Z sa sb):=hP
 have o2 : Only (L.and b) w w2:=o1.drew.trans hR.only
 have v2:=(v1.grown ((Below.refl _ _).drew)).only hR.only (fun hh=>hh.elim hbv hbb)
 have s2 : Same o 7 cs (cs.setIfInBounds (o + 4) (.int .u64 Z)):=Same.refl.set (by omega) _
 clear hR o1 v1 m1 i1
 have k4:=i2.cell 4 rfl
 go_wp2_with (go_at_call 111;refine (cw _).mono ?_;rintro e w3 ⟨rfl,b3⟩;have i4:=i2.grown b3;have m4:=m2.below b3;have v4:=v2.grown b3;have o4:=o2.trans (Only.ofGrown b3))
 obtain ⟨B,hB⟩ : ∃ B,w3.heap.size = B:=⟨_,rfl⟩
 have j4:=At.new w3 166 [.int .i64 C.st,.int .i64 C.cl,.int .i64 C.us,.int .i64 C.sp]
 rw [hB] at j4
 refine wp_over (fun W=>MemAt W L ((s.by who).step A Z) /\ At W b o T (cs.setIfInBounds (o + 4) (.int .u64 Z)) (PlV 1 κ sn ch Z sa sb) /\ BoxV W w.heap.size c0 c1 c2 c3 c4 c5 c6 L.p who /\ Only (L.and b) w W /\ At W B 0 166 _ [.int .i64 C.st,.int .i64 C.cl,.int .i64 C.us,.int .i64 C.sp]) ⟨m4.alloc _,i4.grown (grow_alloc (Below.refl _ _) _),v4.grown (grow_alloc (Below.refl _ _) _),o4.alloc _,j4⟩ ?_
 clear m2 i2 v2 o2 k4 b3 i4 m4 v4 o4 j4 HX HA
 rintro W ⟨m1,i1,v1,o1,j1⟩
 have g0:=fun N : Later W=>(j1.grown N.below).at0 0 rfl
 have g3:=fun N : Later W=>(j1.grown N.below).at0 1 rfl
 have g4:=fun N : Later W=>(j1.grown N.below).at0 2 rfl
 have e0:=fun N : Later W=>(v1.grown N.below).c0
 have e1:=fun N : Later W=>(v1.grown N.below).c1
 have e2:=fun N : Later W=>(v1.grown N.below).c2
 have e3:=fun N : Later W=>(v1.grown N.below).c3
 have e4:=fun N : Later W=>(v1.grown N.below).c4
 have e5:=fun N : Later W=>(v1.grown N.below).c5
 have e6:=fun N : Later W=>(v1.grown N.below).c6
 have e7:=fun N : Later W=>(v1.grown N.below).c7
 have e8:=fun N : Later W=>(v1.grown N.below).c8
 have f1:=fun N : Later W=>(i1.grown N.below).cell 1 rfl
 haveI:=Later.exists W
 refine wp_region_later (by kernel_rfl) (by kernel_rfl) ?_
 repeat (go_big_quiet_step ((go_at_call 88;exact Calls.later_same (lroom_w κ hκ _))))
 refine wpQuiet_nil ?_
 rintro _ ⟨nq,rfl⟩
 clear e0 e1 e2 e3 e4 e5 e6 e7 e8 f1
 have i4:=i1.grown nq.below
 have m4:=m1.below nq.below
 have v4:=v1.grown nq.below
 have o4 : Only (L.and b) w nq.now:=o1.trans (Only.ofGrown nq.below)
 clear i1 m1 o1 v1 j1 g0 g3 g4
 have k0:=i4.cell0 rfl
 have kf:=i4.fz
 obtain ⟨y0,y1,y2,y3,y4,y5,y6,y7,y8⟩:=id v4
 go_wp2_with (go_at_call 109;refine (plook_any m4 hb i4 _ _ _ _ _ _ _ _ 0 nx' hnx).mono ?_;rintro e w5 ⟨rfl,m5,o5,cs5,i5,s5⟩)
 refine bodyPost_ret (results_none rfl _ _ _) rfl ?_
 exact ⟨rfl,m5,o4.trans o5,cs5,i5,s2.trans s5⟩
theorem pask_no2 {w : World} {L : Loc} {s : Mm} {b o : Nat} {T : TypeId} {cs : Array Value} {sn ws sa sb : Int} {ch κ : Nat} (h : MemAt w L s) (hb : ¬ L.has b) (hi : At w b o T cs (PlV 1 κ sn ch ws sa sb)) (c0 c1 c2 c3 c4 c5 c6 who : Int) (A : Nat) (ar : Arena c0 c1 c2 c3) (hch : ch <= 1000000) (hA : 6 + c0 + c1 * 2 + (ch : Int) * 3 = A) (hn : A < s.n) (C : Ck) (σ : Nat) (hC : C.ok σ) (hσ : σ <= 1000000) (hw : s.wd A = C.w) (h1 : C.st = 1) (h2 : ¬ C.cl = κ) (nx' : Int) (hnx : (if c2 <= 0 then 8 else 3) = nx') :
 Calls Tryz.prog 98 #[.pointer (some ⟨b,o,none⟩),.agg #[.int .i64 c0,.int .i64 c1,.int .i64 c2,.int .i64 c3,.int .i64 c4,.int .i64 c5,.int .i64 c6,.pointer (some ⟨L.p,0,none⟩),.int .i64 who]] w fun e w'=>e = .returned (.tuple #[]) /\ MemAt w' L ((s.by who).step A (s.wd A)) /\ Only (L.and b) w w' /\ ∃ cs',At w' b o T cs' (PlV nx' κ sn 0 C.w sa sb) /\ Same o 7 cs cs':=by
 have hbv : ¬ L.has w.heap.size:=fun hh=>by have:=h.lt _ hh;omega
 have hbb : ¬ w.heap.size = b:=fun hh=>by have:=hi.lt;omega
 have HA : Hid (6 + c0 + c1 * 2 + (ch : Int) * 3 = A):=hA
 have cw:=fun w=>chunk_w C σ hC (by omega) w
 rw [hw]
 obtain ⟨Z,hZ⟩ : ∃ Z,C.w = Z:=⟨_,rfl⟩
 rw [hZ] at cw hw ⊢
 have HX : Hid (s.wd A = Z):=hw
 clear hw hA
 rw [h1] at cw
 have g2 : ((C.cl : Int) != (κ : Int)) = true:=by simp;omega
 have hr:=room_bd κ
 have hu:=hC.us
 clear hC
 go_enter Tryz.func98,Tryz.ntmps98
 go_wp2
 refine wp_over (fun W=>MemAt W L s /\ At W b o T cs (PlV 1 κ sn ch ws sa sb) /\ BoxV W w.heap.size c0 c1 c2 c3 c4 c5 c6 L.p who /\ Only (L.and b) w W) ⟨h.alloc _,hi.grown (grow_alloc (Below.refl _ _) _),BoxV.new,(Only.refl _ _).alloc _⟩ ?_
 rintro W ⟨m1,i1,v1,o1⟩
 refine wp_region_phase (OnlyBut L b (o + 4)) Grown (phAt L b o T cs (cs.setIfInBounds (o + 4) (.int .u64 Z)) s ((s.by who).step A Z) (PlV 1 κ sn ch ws sa sb) (PlV 1 κ sn ch Z sa sb)) [5,8] [.val (.pointer (some ⟨b,o,none⟩)),.val (.agg #[.int .i64 c0,.int .i64 c1,.int .i64 c2,.int .i64 c3,.int .i64 c4,.int .i64 c5,.int .i64 c6,.pointer (some ⟨L.p,0,none⟩),.int .i64 who]),.val (.pointer (some ⟨b,o,none⟩)),.val (.agg #[.int .i64 c0,.int .i64 c1,.int .i64 c2,.int .i64 c3,.int .i64 c4,.int .i64 c5,.int .i64 c6,.pointer (some ⟨L.p,0,none⟩),.int .i64 who]),.val (.int .i64 A),.val (.int .u64 Z),.val (.pointer (some ⟨b,o,none⟩)),.val (.pointer (some ⟨b,o + 4,none⟩)),.that (fun _ _=>True) (fun _ _ _ _ _=>trivial)]
  (by kernel_rfl) OnlyBut.refl OnlyBut.trans OnlyBut.ofGrown phAt_grown ⟨m1.drew,i1.drew⟩ (by kernel_rfl) (by kernel_rfl) (by kernel_rfl) (by kernel_rfl) (by kernel_rfl) ?_
 simp only [phaseAll,Act.put,List.setIfInBounds_toArray,List.set_cons_zero,List.set_cons_succ]
 refine ⟨?_,?_,?_,?_,?_,?_,?_,?_,?_,?_⟩
 · intros;apply ol;go_simp;exact gl
 · intro w' hR _
   apply ol
   obtain ⟨y0,y1,y2,y3,y4,y5,y6,y7,y8⟩:=(v1.grown ((Below.refl _ _).drew)).only hR.only (fun hh=>hh.elim hbv hbb)
   go_simp
   exact gl
 · intros;apply ol;go_simp;exact gl
 · intro w' hR _
   apply ol
   obtain ⟨y0,y1,y2,y3,y4,y5,y6,y7,y8⟩:=(v1.grown ((Below.refl _ _).drew)).only hR.only (fun hh=>hh.elim hbv hbb)
   go_simp
   exact gl
 · intro w' hR _
   apply ol
   go_simp
   refine (pat_any (hR.keep (j:=o + 3) (by omega) (i1.drew.cell 3 rfl)) _ _ _ _ _ _ _ _ A ar hch HA.out).mono ?_
   rintro e w'' ⟨rfl,b9⟩
   exact ⟨_,rfl,b9,rfl⟩
 · intro w' hR _ hP
   apply ol
   go_simp
   refine (eload_in (s:=s) hP.1 _ _ _ _ _ _ _ _ A hn).mono ?_
   rintro e w'' ⟨rfl,m2,o2⟩
   rw [HX.out] at m2
   exact ⟨_,rfl,⟨OnlyBut.ofOnly o2 hb,m2,hP.2.only o2 hb⟩,by simp [Want.pred,HX.out]⟩
 · intros;apply ol;go_simp;exact gl
 · intros;apply ol;go_simp;exact gl
 · intro w' hR _ hP
   apply ol
   have z0:=hP.2.cell 4 rfl
   have z1:=hP.2.fz
   go_simp
   exact ⟨⟨OnlyBut.set _ _,hP.1.setIn hb _ _,hP.2.set 4 _⟩,trivial⟩
 intro v w2 hR hP _
 obtain ⟨m2,i2⟩ : MemAt w2 L ((s.by who).step A Z) /\ At w2 b o T (cs.setIfInBounds (o + 4) (.int .u64 Z)) (PlV 1 κ sn ch Z sa sb):=hP
 have o2 : Only (L.and b) w w2:=o1.drew.trans hR.only
 have v2:=(v1.grown ((Below.refl _ _).drew)).only hR.only (fun hh=>hh.elim hbv hbb)
 have s2 : Same o 7 cs (cs.setIfInBounds (o + 4) (.int .u64 Z)):=Same.refl.set (by omega) _
 clear hR o1 v1 m1 i1
 have k4:=i2.cell 4 rfl
 go_wp2_with (go_at_call 111;refine (cw _).mono ?_;rintro e w3 ⟨rfl,b3⟩;have i4:=i2.grown b3;have m4:=m2.below b3;have v4:=v2.grown b3;have o4:=o2.trans (Only.ofGrown b3))
 obtain ⟨B,hB⟩ : ∃ B,w3.heap.size = B:=⟨_,rfl⟩
 have j4:=At.new w3 166 [.int .i64 1,.int .i64 C.cl,.int .i64 C.us,.int .i64 C.sp]
 rw [hB] at j4
 refine wp_over (fun W=>MemAt W L ((s.by who).step A Z) /\ At W b o T (cs.setIfInBounds (o + 4) (.int .u64 Z)) (PlV 1 κ sn ch Z sa sb) /\ BoxV W w.heap.size c0 c1 c2 c3 c4 c5 c6 L.p who /\ Only (L.and b) w W /\ At W B 0 166 _ [.int .i64 1,.int .i64 C.cl,.int .i64 C.us,.int .i64 C.sp]) ⟨m4.alloc _,i4.grown (grow_alloc (Below.refl _ _) _),v4.grown (grow_alloc (Below.refl _ _) _),o4.alloc _,j4⟩ ?_
 clear m2 i2 v2 o2 k4 b3 i4 m4 v4 o4 j4 HX HA
 rintro W ⟨m1,i1,v1,o1,j1⟩
 have g0:=fun N : Later W=>(j1.grown N.below).at0 0 rfl
 have g3:=fun N : Later W=>(j1.grown N.below).at0 1 rfl
 have g4:=fun N : Later W=>(j1.grown N.below).at0 2 rfl
 have e0:=fun N : Later W=>(v1.grown N.below).c0
 have e1:=fun N : Later W=>(v1.grown N.below).c1
 have e2:=fun N : Later W=>(v1.grown N.below).c2
 have e3:=fun N : Later W=>(v1.grown N.below).c3
 have e4:=fun N : Later W=>(v1.grown N.below).c4
 have e5:=fun N : Later W=>(v1.grown N.below).c5
 have e6:=fun N : Later W=>(v1.grown N.below).c6
 have e7:=fun N : Later W=>(v1.grown N.below).c7
 have e8:=fun N : Later W=>(v1.grown N.below).c8
 have f1:=fun N : Later W=>(i1.grown N.below).cell 1 rfl
 haveI:=Later.exists W
 refine wp_region_later (by kernel_rfl) (by kernel_rfl) ?_
 repeat (go_big_quiet_step ((go_at_call 88;exact Calls.later_same (lroom_w κ hκ _))))
 refine wpQuiet_nil ?_
 rintro _ ⟨nq,rfl⟩
 clear e0 e1 e2 e3 e4 e5 e6 e7 e8 f1
 have i4:=i1.grown nq.below
 have m4:=m1.below nq.below
 have v4:=v1.grown nq.below
 have o4 : Only (L.and b) w nq.now:=o1.trans (Only.ofGrown nq.below)
 clear i1 m1 o1 v1 j1 g0 g3 g4
 have k0:=i4.cell0 rfl
 have kf:=i4.fz
 obtain ⟨y0,y1,y2,y3,y4,y5,y6,y7,y8⟩:=id v4
 go_wp2_with (go_at_call 109;refine (plook_any m4 hb i4 _ _ _ _ _ _ _ _ 0 nx' hnx).mono ?_;rintro e w5 ⟨rfl,m5,o5,cs5,i5,s5⟩)
 refine bodyPost_ret (results_none rfl _ _ _) rfl ?_
 exact ⟨rfl,m5,o4.trans o5,cs5,i5,s2.trans s5⟩
theorem pask_no3 {w : World} {L : Loc} {s : Mm} {b o : Nat} {T : TypeId} {cs : Array Value} {sn ws sa sb : Int} {ch κ : Nat} (h : MemAt w L s) (hb : ¬ L.has b) (hi : At w b o T cs (PlV 1 κ sn ch ws sa sb)) (c0 c1 c2 c3 c4 c5 c6 who : Int) (A : Nat) (ar : Arena c0 c1 c2 c3) (hch : ch <= 1000000) (hA : 6 + c0 + c1 * 2 + (ch : Int) * 3 = A) (hn : A < s.n) (C : Ck) (σ : Nat) (hC : C.ok σ) (hσ : σ <= 1000000) (hw : s.wd A = C.w) (hκ : κ < 4) (h1 : C.st = 1) (h2 : C.cl = κ) (h3 : ¬ (C.us : Int) + (room κ : Int) <= c3) (nx' : Int) (hnx : (if c2 <= 0 then 8 else 3) = nx') :
 Calls Tryz.prog 98 #[.pointer (some ⟨b,o,none⟩),.agg #[.int .i64 c0,.int .i64 c1,.int .i64 c2,.int .i64 c3,.int .i64 c4,.int .i64 c5,.int .i64 c6,.pointer (some ⟨L.p,0,none⟩),.int .i64 who]] w fun e w'=>e = .returned (.tuple #[]) /\ MemAt w' L ((s.by who).step A (s.wd A)) /\ Only (L.and b) w w' /\ ∃ cs',At w' b o T cs' (PlV nx' κ sn 0 C.w sa sb) /\ Same o 7 cs cs':=by
 have hbv : ¬ L.has w.heap.size:=fun hh=>by have:=h.lt _ hh;omega
 have hbb : ¬ w.heap.size = b:=fun hh=>by have:=hi.lt;omega
 have HA : Hid (6 + c0 + c1 * 2 + (ch : Int) * 3 = A):=hA
 have cw:=fun w=>chunk_w C σ hC (by omega) w
 rw [hw]
 obtain ⟨Z,hZ⟩ : ∃ Z,C.w = Z:=⟨_,rfl⟩
 rw [hZ] at cw hw ⊢
 have HX : Hid (s.wd A = Z):=hw
 clear hw hA
 rw [h1] at cw
 rw [h2] at cw
 have hr:=room_bd κ
 have hu:=hC.us
 clear hC
 go_enter Tryz.func98,Tryz.ntmps98
 go_wp2
 refine wp_over (fun W=>MemAt W L s /\ At W b o T cs (PlV 1 κ sn ch ws sa sb) /\ BoxV W w.heap.size c0 c1 c2 c3 c4 c5 c6 L.p who /\ Only (L.and b) w W) ⟨h.alloc _,hi.grown (grow_alloc (Below.refl _ _) _),BoxV.new,(Only.refl _ _).alloc _⟩ ?_
 rintro W ⟨m1,i1,v1,o1⟩
 refine wp_region_phase (OnlyBut L b (o + 4)) Grown (phAt L b o T cs (cs.setIfInBounds (o + 4) (.int .u64 Z)) s ((s.by who).step A Z) (PlV 1 κ sn ch ws sa sb) (PlV 1 κ sn ch Z sa sb)) [5,8] [.val (.pointer (some ⟨b,o,none⟩)),.val (.agg #[.int .i64 c0,.int .i64 c1,.int .i64 c2,.int .i64 c3,.int .i64 c4,.int .i64 c5,.int .i64 c6,.pointer (some ⟨L.p,0,none⟩),.int .i64 who]),.val (.pointer (some ⟨b,o,none⟩)),.val (.agg #[.int .i64 c0,.int .i64 c1,.int .i64 c2,.int .i64 c3,.int .i64 c4,.int .i64 c5,.int .i64 c6,.pointer (some ⟨L.p,0,none⟩),.int .i64 who]),.val (.int .i64 A),.val (.int .u64 Z),.val (.pointer (some ⟨b,o,none⟩)),.val (.pointer (some ⟨b,o + 4,none⟩)),.that (fun _ _=>True) (fun _ _ _ _ _=>trivial)]
  (by kernel_rfl) OnlyBut.refl OnlyBut.trans OnlyBut.ofGrown phAt_grown ⟨m1.drew,i1.drew⟩ (by kernel_rfl) (by kernel_rfl) (by kernel_rfl) (by kernel_rfl) (by kernel_rfl) ?_
 simp only [phaseAll,Act.put,List.setIfInBounds_toArray,List.set_cons_zero,List.set_cons_succ]
 refine ⟨?_,?_,?_,?_,?_,?_,?_,?_,?_,?_⟩
 · intros;apply ol;go_simp;exact gl
 · intro w' hR _
   apply ol
   obtain ⟨y0,y1,y2,y3,y4,y5,y6,y7,y8⟩:=(v1.grown ((Below.refl _ _).drew)).only hR.only (fun hh=>hh.elim hbv hbb)
   go_simp
   exact gl
 · intros;apply ol;go_simp;exact gl
 · intro w' hR _
   apply ol
   obtain ⟨y0,y1,y2,y3,y4,y5,y6,y7,y8⟩:=(v1.grown ((Below.refl _ _).drew)).only hR.only (fun hh=>hh.elim hbv hbb)
   go_simp
   exact gl
 · intro w' hR _
   apply ol
   go_simp
   refine (pat_any (hR.keep (j:=o + 3) (by omega) (i1.drew.cell 3 rfl)) _ _ _ _ _ _ _ _ A ar hch HA.out).mono ?_
   rintro e w'' ⟨rfl,b9⟩
   exact ⟨_,rfl,b9,rfl⟩
 · intro w' hR _ hP
   apply ol
   go_simp
   refine (eload_in (s:=s) hP.1 _ _ _ _ _ _ _ _ A hn).mono ?_
   rintro e w'' ⟨rfl,m2,o2⟩
   rw [HX.out] at m2
   exact ⟨_,rfl,⟨OnlyBut.ofOnly o2 hb,m2,hP.2.only o2 hb⟩,by simp [Want.pred,HX.out]⟩
 · intros;apply ol;go_simp;exact gl
 · intros;apply ol;go_simp;exact gl
 · intro w' hR _ hP
   apply ol
   have z0:=hP.2.cell 4 rfl
   have z1:=hP.2.fz
   go_simp
   exact ⟨⟨OnlyBut.set _ _,hP.1.setIn hb _ _,hP.2.set 4 _⟩,trivial⟩
 intro v w2 hR hP _
 obtain ⟨m2,i2⟩ : MemAt w2 L ((s.by who).step A Z) /\ At w2 b o T (cs.setIfInBounds (o + 4) (.int .u64 Z)) (PlV 1 κ sn ch Z sa sb):=hP
 have o2 : Only (L.and b) w w2:=o1.drew.trans hR.only
 have v2:=(v1.grown ((Below.refl _ _).drew)).only hR.only (fun hh=>hh.elim hbv hbb)
 have s2 : Same o 7 cs (cs.setIfInBounds (o + 4) (.int .u64 Z)):=Same.refl.set (by omega) _
 clear hR o1 v1 m1 i1
 have k4:=i2.cell 4 rfl
 go_wp2_with (go_at_call 111;refine (cw _).mono ?_;rintro e w3 ⟨rfl,b3⟩;have i4:=i2.grown b3;have m4:=m2.below b3;have v4:=v2.grown b3;have o4:=o2.trans (Only.ofGrown b3))
 obtain ⟨B,hB⟩ : ∃ B,w3.heap.size = B:=⟨_,rfl⟩
 have j4:=At.new w3 166 [.int .i64 1,.int .i64 κ,.int .i64 C.us,.int .i64 C.sp]
 rw [hB] at j4
 refine wp_over (fun W=>MemAt W L ((s.by who).step A Z) /\ At W b o T (cs.setIfInBounds (o + 4) (.int .u64 Z)) (PlV 1 κ sn ch Z sa sb) /\ BoxV W w.heap.size c0 c1 c2 c3 c4 c5 c6 L.p who /\ Only (L.and b) w W /\ At W B 0 166 _ [.int .i64 1,.int .i64 κ,.int .i64 C.us,.int .i64 C.sp]) ⟨m4.alloc _,i4.grown (grow_alloc (Below.refl _ _) _),v4.grown (grow_alloc (Below.refl _ _) _),o4.alloc _,j4⟩ ?_
 clear m2 i2 v2 o2 k4 b3 i4 m4 v4 o4 j4 HX HA
 rintro W ⟨m1,i1,v1,o1,j1⟩
 have g0:=fun N : Later W=>(j1.grown N.below).at0 0 rfl
 have g3:=fun N : Later W=>(j1.grown N.below).at0 1 rfl
 have g4:=fun N : Later W=>(j1.grown N.below).at0 2 rfl
 have e0:=fun N : Later W=>(v1.grown N.below).c0
 have e1:=fun N : Later W=>(v1.grown N.below).c1
 have e2:=fun N : Later W=>(v1.grown N.below).c2
 have e3:=fun N : Later W=>(v1.grown N.below).c3
 have e4:=fun N : Later W=>(v1.grown N.below).c4
 have e5:=fun N : Later W=>(v1.grown N.below).c5
 have e6:=fun N : Later W=>(v1.grown N.below).c6
 have e7:=fun N : Later W=>(v1.grown N.below).c7
 have e8:=fun N : Later W=>(v1.grown N.below).c8
 have f1:=fun N : Later W=>(i1.grown N.below).cell 1 rfl
 haveI:=Later.exists W
 refine wp_region_later (by kernel_rfl) (by kernel_rfl) ?_
 repeat (go_big_quiet_step ((go_at_call 88;exact Calls.later_same (lroom_w κ hκ _))))
 refine wpQuiet_nil ?_
 rintro _ ⟨nq,rfl⟩
 clear e0 e1 e2 e3 e4 e5 e6 e7 e8 f1
 have i4:=i1.grown nq.below
 have m4:=m1.below nq.below
 have v4:=v1.grown nq.below
 have o4 : Only (L.and b) w nq.now:=o1.trans (Only.ofGrown nq.below)
 clear i1 m1 o1 v1 j1 g0 g3 g4
 have k0:=i4.cell0 rfl
 have kf:=i4.fz
 obtain ⟨y0,y1,y2,y3,y4,y5,y6,y7,y8⟩:=id v4
 go_wp2_with (go_at_call 109;refine (plook_any m4 hb i4 _ _ _ _ _ _ _ _ 0 nx' hnx).mono ?_;rintro e w5 ⟨rfl,m5,o5,cs5,i5,s5⟩)
 refine bodyPost_ret (results_none rfl _ _ _) rfl ?_
 exact ⟨rfl,m5,o4.trans o5,cs5,i5,s2.trans s5⟩
end Go.Proofs.YtlolfmoolgenpaaGreat
