import Derived.WalkKit
import Derived.WalkSpells
import Derived.WalkLawsBesides
import Derived.Deep.OwnRows
import Derived.Deep.QuietTactic
import Derived.Deep.RegionWith
import Derived.BigQuiet
import Derived.RegionTactic
import Derived.BigRegion
import Derived.ChangeAlike
import Derived.Test.YtlolfmoolgenpaaGreatRows
namespace Go.Proofs.YtlolfmoolgenpaaGreat
open Go.RowKit
theorem ret_int {k : IntKind} {a b : Int} (h : a = b) : Ending.returned (.int k a) = .returned (.int k b):=by rw [h]
theorem pow_pos (n : Nat) : 1 <= (2 : Int) ^ n:=by
 have : (0 : Int) < 2 ^ n:=Int.pow_pos (by decide)
 omega
theorem pow_le (n m : Nat) (h : n <= m) : (2 : Int) ^ n <= 2 ^ m:=by
 obtain ⟨k,rfl⟩:=Nat.exists_eq_add_of_le h
 rw [Int.pow_add]
 have h1:=pow_pos n
 have h2:=pow_pos k
 have:=Int.mul_le_mul_of_nonneg_left h2 (show (0 : Int) <= 2 ^ n by omega)
 simpa using this
theorem pow_lt (n : Nat) (h : n < 64) : (2 : Int) ^ n <= 9223372036854775808 /\ 1 <= (2 : Int) ^ n :=
 ⟨by simpa using pow_le n 63 (by omega),pow_pos n⟩
theorem most_eq (n : Nat) (h : n < 64) : IntKind.u64.wrap (IntKind.u64.wrap (2 ^ n) - 1) = 2 ^ n - 1:=by
 have:=pow_lt n h
 rw [IntKind.wrap_u64,IntKind.wrap_u64]
 omega
def cut (n : Int) (b : Nat) : Int:=if n < 0 then 0 else if n < 2 ^ b - 1 then n else 2 ^ b - 1
theorem cut_lo (n : Int) (b : Nat) : 0 <= cut n b:=by
 have:=pow_pos b
 unfold cut;split
 · omega
 · split <;> omega
theorem cut_hi (n : Int) (b : Nat) : cut n b <= 2 ^ b - 1:=by
 have:=pow_pos b
 unfold cut;split
 · omega
 · split <;> omega
theorem cut_id (n : Int) (b : Nat) (h0 : 0 <= n) (h1 : n < 2 ^ b) : cut n b = n:=by
 unfold cut;split
 · omega
 · split <;> omega
theorem cut_neg (n : Int) (b : Nat) (h : n < 0) : cut n b = 0:=by
 unfold cut;rw [if_pos h]
theorem cut_great (n : Int) (b : Nat) (h0 : 0 <= n) (h : 2 ^ b - 1 <= n) : cut n b = 2 ^ b - 1:=by
 unfold cut;rw [if_neg (by omega),if_neg (by omega)]
theorem cut_mul (n : Int) (a b : Nat) : 0 <= cut n b * 2 ^ a /\ cut n b * 2 ^ a <= 2 ^ (a + b) - 2 ^ a:=by
 have h1:=cut_lo n b
 have h2:=cut_hi n b
 have h3:=pow_pos a
 refine ⟨Int.mul_nonneg h1 (by omega),?_⟩
 have h4:=Int.mul_le_mul_of_nonneg_right h2 (show (0 : Int) <= 2 ^ a by omega)
 have h5 : ((2 : Int) ^ b - 1) * 2 ^ a = 2 ^ (a + b) - 2 ^ a:=by
  rw [Int.sub_mul,<- Int.pow_add,Nat.add_comm b a];simp
 omega
theorem wrap_small (x : Int) (h0 : 0 <= x) (h1 : x < 18446744073709551616) : IntKind.u64.wrap x = x:=by
 rw [IntKind.wrap_u64];omega
theorem pow64 : (2 : Int) ^ 64 = 18446744073709551616:=by decide
theorem put_eq (n : Int) (a b : Nat) (h : a + b <= 64) : IntKind.u64.wrap (cut n b * 2 ^ a) = cut n b * 2 ^ a:=by
 have h1:=cut_mul n a b
 have h2:=pow_le (a + b) 64 h
 have h3:=pow_pos a
 rw [pow64] at h2
 exact wrap_small _ h1.1 (by omega)
theorem and_most (x : Int) (b : Nat) (x0 : 0 <= x) (x1 : x < 18446744073709551616) (hb : b < 64) : bits .and .u64 x (2 ^ b - 1) = x % 2 ^ b:=by
 have h:=pow_lt b hb
 rw [u64_and _ _ x0 x1 (by omega) (by omega)]
 have e : ((2 : Int) ^ b - 1).toNat = 2 ^ b - 1:=by
  have : ((2 ^ b : Nat) : Int) = (2 : Int) ^ b:=by simp
  omega
 rw [e,Nat.and_two_pow_sub_one_eq_mod]
 obtain ⟨m,rfl⟩:=Int.eq_ofNat_of_zero_le x0
 simp
theorem get_eq (x : Int) (a b : Nat) (x0 : 0 <= x) (x1 : x < 18446744073709551616) (hb : b < 64) :
 wrap64 (bits .and .u64 (x / 2 ^ a) (2 ^ b - 1)) = x / 2 ^ a % 2 ^ b:=by
 have h:=pow_lt b hb
 have ha:=pow_pos a
 have h0 : 0 <= x / 2 ^ a:=Int.ediv_nonneg x0 (by omega)
 have h1 : x / 2 ^ a <= x:=Int.ediv_le_self _ x0
 rw [and_most _ _ h0 (by omega) hb]
 have h2:=Int.emod_nonneg (x / 2 ^ a) (b:=2 ^ b) (by omega)
 have h3:=Int.emod_lt_of_pos (x / 2 ^ a) (b:=2 ^ b) (by omega)
 unfold wrap64
 omega
theorem or_add (x c : Int) (k : Nat) (x0 : 0 <= x) (x1 : x < 2 ^ k) (c0 : 0 <= c) (h : c * 2 ^ k + 2 ^ k <= 18446744073709551616) :
 bits .or .u64 x (c * 2 ^ k) = x + c * 2 ^ k:=by
 have hk:=pow_pos k
 have hm : 0 <= c * 2 ^ k:=Int.mul_nonneg c0 (by omega)
 rw [u64_or _ _ x0 (by omega) hm (by omega)]
 obtain ⟨m,rfl⟩:=Int.eq_ofNat_of_zero_le x0
 obtain ⟨d,rfl⟩:=Int.eq_ofNat_of_zero_le c0
 have e : ((d : Int) * 2 ^ k).toNat = 2 ^ k * d:=by
  have : (((2 ^ k * d : Nat)) : Int) = (d : Int) * 2 ^ k:=by push_cast;rw [Int.mul_comm]
  omega
 have hlt : m < 2 ^ k:=by
  have : ((2 ^ k : Nat) : Int) = (2 : Int) ^ k:=by simp
  omega
 rw [e]
 simp only [Int.toNat_natCast]
 rw [Nat.or_comm,<- Nat.two_pow_add_eq_or_of_lt hlt]
 push_cast
 rw [Int.mul_comm,Int.add_comm]
theorem or_at (x c m : Int) (k : Nat) (hm : m = 2 ^ k) (x0 : 0 <= x) (x1 : x < m) (c0 : 0 <= c) (h : c * m + m <= 18446744073709551616) :
 bits .or .u64 x (c * m) = x + c * m:=by
 subst hm;exact or_add x c k x0 x1 c0 h
theorem or_comm (x y : Int) (x0 : 0 <= x) (x1 : x < 18446744073709551616) (y0 : 0 <= y) (y1 : y < 18446744073709551616) : bits .or .u64 x y = bits .or .u64 y x:=by
 rw [u64_or _ _ x0 x1 y0 y1,u64_or _ _ y0 y1 x0 x1,Nat.or_comm]
theorem cut_bd (n : Int) (b : Nat) (m : Int) (hm : (2 : Int) ^ b = m) : 0 <= cut n b /\ cut n b <= m - 1:=by
 subst hm;exact ⟨cut_lo n b,cut_hi n b⟩
theorem bit_at (x m : Int) (k : Nat) (hm : m = 2 ^ k) (hk : k < 64) (x0 : 0 <= x) (x1 : x <= 18446744073709551615) :
 (bits .and .u64 x m != 0) = decide (x / m % 2 = 1):=by
 show (!(bits .and .u64 x m == 0)) = _
 subst hm
 have hp:=pow_lt k hk
 rw [u64_and _ _ x0 (by omega) (by omega) (by omega)]
 have h:=u64_bit_test_var x k x0 (by omega)
 rw [show min ((k : Int).toNat) 64 = k from by omega,show ((2 : Int) ^ k % 18446744073709551616) = 2 ^ k from by omega,Int.toNat_natCast] at h
 by_cases h2 : x / 2 ^ k % 2 = 1
 · have h3 : ¬ ((x.toNat &&& ((2 : Int) ^ k).toNat : Nat) : Int) = 0:=fun h4=>h.1 h4 ⟨by omega,h2⟩
   simp [h2];simpa using h3
 · have h3:=h.2 fun h4=>h2 h4.2
   rw [h3];simp [h2]
def packH (s g : Int) : Int:=cut s 16 + cut g 16 * 65536
def packS (a b c d : Int) : Int:=cut a 3 + cut b 20 * 8 + cut c 16 * 8388608 + cut d 22 * 549755813888
def packC (a b c d : Int) : Int:=cut a 2 + cut b 6 * 4 + cut c 20 * 256 + cut d 36 * 268435456
def packO (a b c d : Int) : Int:=cut a 2 + cut b 16 * 4 + cut c 16 * 262144 + cut d 16 * 17179869184
def packOw (a b c d : Int) (o : Bool) : Int:=if o then packO a b c d + 1125899906842624 else packO a b c d
def packX (v : Int) (f : Bool) (d : Int) : Int:=if f then cut v 40 + cut d 22 * 1099511627776 + 9223372036854775808 else cut v 40
def packT (s c : Int) : Int:=cut s 17 + cut c 36 * 131072
theorem packS_bd (a b c d : Int) : 0 <= packS a b c d /\ packS a b c d <= 2305843009213693951:=by
 have h1:=cut_bd a 3 _ rfl
 have h2:=cut_bd b 20 _ rfl
 have h3:=cut_bd c 16 _ rfl
 have h4:=cut_bd d 22 _ rfl
 unfold packS;omega
theorem packO_bd (a b c d : Int) : 0 <= packO a b c d /\ packO a b c d <= 1125899906842623:=by
 have h1:=cut_bd a 2 _ rfl
 have h2:=cut_bd b 16 _ rfl
 have h3:=cut_bd c 16 _ rfl
 have h4:=cut_bd d 16 _ rfl
 unfold packO;omega
theorem packOw_bd (a b c d : Int) (o : Bool) : 0 <= packOw a b c d o /\ packOw a b c d o <= 2251799813685247:=by
 have h:=packO_bd a b c d
 unfold packOw;split <;> omega
theorem packX_bd (v : Int) (f : Bool) (d : Int) : 0 <= packX v f d /\ packX v f d <= 18446744073709551615:=by
 have h1:=cut_bd v 40 _ rfl
 have h2:=cut_bd d 22 _ rfl
 unfold packX;split <;> omega
theorem orH (s g : Int) : bits .or .u64 (cut s 16) (cut g 16 * 65536) = packH s g:=by
 have h1:=cut_bd s 16 _ rfl
 have h2:=cut_bd g 16 _ rfl
 rw [or_at _ _ 65536 16 (by decide) (by omega) (by omega) (by omega) (by omega)];rfl
theorem orS (a b c d : Int) : bits .or .u64 (bits .or .u64 (bits .or .u64 (cut a 3) (cut b 20 * 8)) (cut c 16 * 8388608)) (cut d 22 * 549755813888) = packS a b c d:=by
 have h1:=cut_bd a 3 _ rfl
 have h2:=cut_bd b 20 _ rfl
 have h3:=cut_bd c 16 _ rfl
 have h4:=cut_bd d 22 _ rfl
 rw [or_at _ _ 8 3 (by decide) (by omega) (by omega) (by omega) (by omega),or_at _ _ 8388608 23 (by decide) (by omega) (by omega) (by omega) (by omega),or_at _ _ 549755813888 39 (by decide) (by omega) (by omega) (by omega) (by omega)];rfl
theorem orC (a b c d : Int) : bits .or .u64 (bits .or .u64 (bits .or .u64 (cut a 2) (cut b 6 * 4)) (cut c 20 * 256)) (cut d 36 * 268435456) = packC a b c d:=by
 have h1:=cut_bd a 2 _ rfl
 have h2:=cut_bd b 6 _ rfl
 have h3:=cut_bd c 20 _ rfl
 have h4:=cut_bd d 36 _ rfl
 rw [or_at _ _ 4 2 (by decide) (by omega) (by omega) (by omega) (by omega),or_at _ _ 256 8 (by decide) (by omega) (by omega) (by omega) (by omega),or_at _ _ 268435456 28 (by decide) (by omega) (by omega) (by omega) (by omega)];rfl
theorem orO (a b c d : Int) : bits .or .u64 (bits .or .u64 (bits .or .u64 (cut a 2) (cut b 16 * 4)) (cut c 16 * 262144)) (cut d 16 * 17179869184) = packO a b c d:=by
 have h1:=cut_bd a 2 _ rfl
 have h2:=cut_bd b 16 _ rfl
 have h3:=cut_bd c 16 _ rfl
 have h4:=cut_bd d 16 _ rfl
 rw [or_at _ _ 4 2 (by decide) (by omega) (by omega) (by omega) (by omega),or_at _ _ 262144 18 (by decide) (by omega) (by omega) (by omega) (by omega),or_at _ _ 17179869184 34 (by decide) (by omega) (by omega) (by omega) (by omega)];rfl
theorem orOw (a b c d : Int) : bits .or .u64 (packO a b c d) 1125899906842624 = packOw a b c d true:=by
 have h:=packO_bd a b c d
 have e:=or_at (packO a b c d) 1 1125899906842624 50 (by decide) (by omega) (by omega) (by omega) (by omega)
 simpa [packOw] using e
theorem orX (v d : Int) : bits .or .u64 (cut v 40) (bits .or .u64 9223372036854775808 (cut d 22 * 1099511627776)) = packX v true d:=by
 have h1:=cut_bd v 40 _ rfl
 have h2:=cut_bd d 22 _ rfl
 rw [or_comm 9223372036854775808 _ (by omega) (by omega) (by omega) (by omega)]
 have e:=or_at (cut d 22 * 1099511627776) 1 9223372036854775808 63 (by decide) (by omega) (by omega) (by omega) (by omega)
 simp only [Int.one_mul] at e
 rw [e,show cut d 22 * 1099511627776 + 9223372036854775808 = (cut d 22 + 8388608) * 1099511627776 from by omega,or_at _ _ 1099511627776 40 (by decide) (by omega) (by omega) (by omega) (by omega)]
 simp only [packX,if_true]
 omega
theorem orT (s c : Int) : bits .or .u64 (cut s 17) (cut c 36 * 131072) = packT s c:=by
 have h1:=cut_bd s 17 _ rfl
 have h2:=cut_bd c 36 _ rfl
 rw [or_at _ _ 131072 17 (by decide) (by omega) (by omega) (by omega) (by omega)];rfl
end Go.Proofs.YtlolfmoolgenpaaGreat

namespace Go.Proofs.YtlolfmoolgenpaaGreat
open Go.RowKit
structure Only (S : Nat -> Prop) (w w' : World) : Prop where
 os : w'.os = w.os
 tape : w'.tape = w.tape
 output : w'.output = w.output
 size : w.heap.size <= w'.heap.size
 block : ∀ k,k < w.heap.size -> ¬ S k -> w'.heap[k]? = w.heap[k]?
namespace Only
variable {S : Nat -> Prop} {w w' w'' : World}
theorem refl (S : Nat -> Prop) (w : World) : Only S w w:=⟨rfl,rfl,rfl,Nat.le_refl _,fun _ _ _=>rfl⟩
theorem trans (h : Only S w w') (k : Only S w' w'') : Only S w w'' :=
 ⟨k.os.trans h.os,k.tape.trans h.tape,k.output.trans h.output,Nat.le_trans h.size k.size,fun i hi hs=>(k.block i (Nat.lt_of_lt_of_le hi h.size) hs).trans (h.block i hi hs)⟩
theorem mono {T : Nat -> Prop} (h : Only S w w') (hT : ∀ i,i < w.heap.size -> S i -> T i) : Only T w w' :=
 ⟨h.os,h.tape,h.output,h.size,fun i hi hs=>h.block i hi (fun t=>hs (hT i hi t))⟩
theorem drew (h : Only S w w') : Only S w w'.drew:=⟨h.os,h.tape,h.output,h.size,h.block⟩
theorem alloc (h : Only S w w') (o : Obj) : Only S w (w'.alloc o) :=
 h.trans ⟨rfl,rfl,rfl,by rw [Go.Deep.nblk_alloc];omega,fun k hk _=>Go.Deep.blk_alloc_lt _ _ _ hk⟩
theorem setCell (h : Only S w w') {a : Addr} (ha : a.block < w.heap.size -> S a.block) (v : Value) : Only S w (w'.setCell a v) :=
 ⟨h.os,h.tape,h.output,by rw [Go.Deep.nblk_setCell];exact h.size,fun k hk hs=>by
  rw [Go.Deep.blk_setCell_other _ _ _ _ (fun e=>hs (by rw [e] at hk ⊢;exact ha hk))];exact h.block k hk hs⟩
theorem below {B : Nat} (h : Only S w w') (hB : B <= w.heap.size) (hS : ∀ k,k < B -> ¬ S k) : Below B w w' :=
 ⟨h.os,h.tape,h.output,h.size,fun k hk=>h.block k (by omega) (hS k hk)⟩
theorem ofBelow {B : Nat} (h : Below B w w') : Only (fun k=>B <= k) w w' :=
 ⟨h.os,h.tape,h.output,h.size,fun k _ hs=>h.block k (by omega)⟩
theorem cell (h : Only S w w') {p : Addr} (hp : p.block < w.heap.size) (hs : ¬ S p.block) : w'.cell? p = w.cell? p:=World.cell?_of_block (w:=w) (h.block _ hp hs)
theorem keep (h : Only S w w') {b o : Nat} {v : Value} (hs : ¬ S b) (hc : w.cell? ⟨b,o,none⟩ = some v) : w'.cell? ⟨b,o,none⟩ = some v :=
 (h.cell (p:=⟨b,o,none⟩) (World.block_lt_of_cell? w _ hc) hs).trans hc
end Only
def Fit (n : Int) : Prop:=-9223372036854775808 <= n /\ n <= 9223372036854775807
theorem below_drewN {B : Nat} {w w' : World} (h : Below B w w') (n : Nat) : Below B w (w'.drewN n):=⟨h.os,h.tape,h.output,h.size,h.block⟩
theorem grow {w a b : World} (h : Below w.heap.size w a) (k : Below a.heap.size a b) : Below w.heap.size w b:=h.trans (k.mono h.size)
theorem grow_alloc {w a : World} (h : Below w.heap.size w a) (o : Obj) : Below w.heap.size w (a.alloc o):=h.alloc h.size o
theorem keep' {w w' : World} {b o : Nat} {v : Value} (k : Below w.heap.size w w') (h : w.cell? ⟨b,o,none⟩ = some v) : w'.cell? ⟨b,o,none⟩ = some v :=
 (k.cell (p:=⟨b,o,none⟩) (World.block_lt_of_cell? w _ h)).trans h
theorem blk_setCell (w : World) (b o : Nat) (v : Value) (c : Array Value) (t : TypeId) (h : w.heap[b]? = some (.cells c t (0,0))) :
 (w.setCell ⟨b,o,none⟩ v).heap[b]? = some (.cells (c.setIfInBounds o v) t (0,0)):=by
 simp [World.setCell,Array.getElem?_modify,h]
theorem blk_cell {w : World} {b o : Nat} {v : Value} {c : Array Value} {t : TypeId} (h : w.heap[b]? = some (.cells c t (0,0))) (hv : c[o]? = some v) : w.cell? ⟨b,o,none⟩ = some v:=by
 simp [World.cell?,h,hv]
theorem blk_frozen {w : World} {b : Nat} {c : Array Value} {t : TypeId} (h : w.heap[b]? = some (.cells c t (0,0))) (o : Nat) : w.frozen? ⟨b,o,none⟩ = false:=by
 simp [World.frozen?,h]
theorem blk_lt {w : World} {b : Nat} {x : Obj} (h : w.heap[b]? = some x) : b < w.heap.size:=(Array.getElem?_eq_some_iff.1 h).1
def upd {α : Type} (f : Nat -> α) (a : Nat) (v : α) : Nat -> α:=fun i=>if i = a then v else f i
theorem upd_same {α : Type} (f : Nat -> α) (a : Nat) (v : α) : upd f a v a = v:=by simp [upd]
theorem upd_other {α : Type} (f : Nat -> α) (a i : Nat) (v : α) (h : i ≠ a) : upd f a v i = f i:=by simp [upd,h]
theorem upd_id {α : Type} (f : Nat -> α) (a : Nat) : upd f a (f a) = f:=by
 funext i;unfold upd;split <;> simp_all
end Go.Proofs.YtlolfmoolgenpaaGreat

namespace Go.Proofs.YtlolfmoolgenpaaGreat
open Go.RowKit
structure Later (w : World) where
 now : World
 below : Below w.heap.size w now
theorem Later.exists (w : World) : Nonempty (Later w):=⟨⟨w,Below.refl _ _⟩⟩
theorem wp_region_later {P : Program} {id : Nat} {Q : Exit -> Act -> World -> Prop} {a : Act} {w : World} {l : List Oper} (hm : P.follows .mixedOrders = true) (hB : Region.lexB .any l.toArray = true)
 (h : wpQuiet P l.toArray (fun w'=>∃ n : Later w,w' = n.now) (fun a'=>∀ w',(∃ n : Later w,w' = n.now) -> Q .normal a' w') l a) : (Code.region id l.toArray true).wp P Q a w :=
 wp_region_quiet (C:=fun w'=>∃ n : Later w,w' = n.now) hm hB ⟨⟨_,(Below.refl _ _).drew⟩,rfl⟩ (by simpa using h)
theorem Calls.later {P : Program} {f : FuncId} {args : Array Value} {w : World} {n : Later w} {v : Value}
 (h : Calls P f args n.now fun e w'=>e = .returned v /\ Below n.now.heap.size n.now w') : Calls P f args n.now fun e w'=>e = .returned v /\ ∃ m : Later w,w' = m.now :=
 h.mono fun _ w' ⟨he,hw⟩=>⟨he,⟨w',grow n.below hw⟩,rfl⟩
theorem Calls.later_same {P : Program} {f : FuncId} {args : Array Value} {w : World} {n : Later w} {v : Value}
 (h : Calls P f args n.now fun e w'=>e = .returned v /\ w' = n.now) : Calls P f args n.now fun e w'=>e = .returned v /\ ∃ m : Later w,w' = m.now :=
 h.mono fun _ _ ⟨he,hw⟩=>⟨he,n,hw⟩
theorem alloc_cell {w : World} {b o : Nat} {v : Value} (h : w.cell? ⟨b,o,none⟩ = some v) (O : Obj) : (w.alloc O).cell? ⟨b,o,none⟩ = some v :=
 (World.cell?_alloc_past O b o (World.block_lt_of_cell? w _ h)).trans h
theorem wp_over {P : Program} {c : Code} {Q : Exit -> Act -> World -> Prop} {a : Act} {w : World} (R : World -> Prop) (hw : R w) (h : ∀ W,R W -> c.wp P Q a W) : c.wp P Q a w:=h w hw
end Go.Proofs.YtlolfmoolgenpaaGreat

namespace Go.Proofs.YtlolfmoolgenpaaGreat
open Go.RowKit
structure Arena (t s k n : Int) : Prop where
 t0 : 0 <= t
 t1 : t <= 8
 s0 : 0 <= s
 s1 : s <= 65536
 k0 : 0 <= k
 k1 : k <= 64
 n0 : 0 <= n
 n1 : n <= 256
theorem within_any (n a b : Int) (w : World) :
 Calls Tryz.prog 38 #[.int .i64 n,.int .i64 a,.int .i64 b] w fun e w'=>e = .returned (.bool (decide (a <= n /\ n <= b))) /\ w' = w:=by
 by_cases h1 : a <= n
 · by_cases h2 : n <= b
   · go_enter Tryz.func38,Tryz.ntmps38
     go_wp2
     go_ret
     exact ⟨by simp [h1,h2],rfl⟩
   · go_enter Tryz.func38,Tryz.ntmps38
     go_wp2
     go_ret
     exact ⟨by simp [h2],rfl⟩
 · go_enter Tryz.func38,Tryz.ntmps38
   go_wp2
   go_ret
   exact ⟨by simp;omega,rfl⟩
theorem lepoch_any (w : World) : Calls Tryz.prog 65 #[] w fun e w'=>e = .returned (.int .i64 0) /\ w' = w:=by
 go_enter Tryz.func65,Tryz.ntmps65
 go_wp2
 go_ret
 exact ⟨rfl,rfl⟩
theorem ltop_any (w : World) : Calls Tryz.prog 30 #[] w fun e w'=>e = .returned (.int .i64 1) /\ w' = w:=by
 go_enter Tryz.func30,Tryz.ntmps30
 go_wp2
 go_ret
 exact ⟨rfl,rfl⟩
theorem lopen_any (i : Int) (w : World) (h0 : 0 <= i) (h1 : i <= 1000000) : Calls Tryz.prog 108 #[.int .i64 i] w fun e w'=>e = .returned (.int .i64 (2 + i)) /\ w' = w:=by
 go_enter Tryz.func108,Tryz.ntmps108
 go_wp2
 go_ret
 exact ⟨rfl,rfl⟩
theorem lpin_any (i : Int) (w : World) (h0 : 0 <= i) (h1 : i <= 1000000) : Calls Tryz.prog 16 #[.int .i64 i] w fun e w'=>e = .returned (.int .i64 (6 + i)) /\ w' = w:=by
 go_enter Tryz.func16,Tryz.ntmps16
 go_wp2
 go_ret
 exact ⟨rfl,rfl⟩
theorem lslot_any (t s k n g p r i : Int) (w : World) (h : Arena t s k n) (h0 : 0 <= i) (h1 : i <= 1000000) :
 Calls Tryz.prog 32 #[.agg #[.int .i64 t,.int .i64 s,.int .i64 k,.int .i64 n,.int .i64 g,.int .i64 p,.int .i64 r],.int .i64 i] w fun e w'=>e = .returned (.int .i64 (6 + t + i * 2)) /\ Below w.heap.size w w':=by
 obtain ⟨t0,t1,s0,s1,k0,k1,n0,n1⟩:=h
 go_enter Tryz.func32,Tryz.ntmps32
 go_wp2_with (go_at_call 16;refine (lpin_any _ _ (by omega) (by omega)).mono ?_;rintro e w' ⟨rfl,rfl⟩)
 go_ret
 exact ⟨rfl,grow_alloc (Below.refl _ _) _⟩
theorem lchunk_any (t s k n g p r i : Int) (w : World) (h : Arena t s k n) (h0 : 0 <= i) (h1 : i <= 1000000) :
 Calls Tryz.prog 43 #[.agg #[.int .i64 t,.int .i64 s,.int .i64 k,.int .i64 n,.int .i64 g,.int .i64 p,.int .i64 r],.int .i64 i] w fun e w'=>e = .returned (.int .i64 (6 + t + s * 2 + i * 3)) /\ Below w.heap.size w w':=by
 have hA:=h
 obtain ⟨t0,t1,s0,s1,k0,k1,n0,n1⟩:=h
 go_enter Tryz.func43,Tryz.ntmps43
 go_wp2_with (go_at_call 32;refine (lslot_any _ _ _ _ _ _ _ _ _ hA (by omega) (by omega)).mono ?_;rintro e w' ⟨rfl,b1⟩)
 go_ret
 exact ⟨rfl,grow (grow_alloc (Below.refl _ _) _) b1⟩
structure CfgAt (w : World) (b : Nat) (t s k n g p r : Int) : Prop where
 c0 : w.cell? ⟨b,0,none⟩ = some (.int .i64 t)
 c1 : w.cell? ⟨b,1,none⟩ = some (.int .i64 s)
 c2 : w.cell? ⟨b,2,none⟩ = some (.int .i64 k)
 c3 : w.cell? ⟨b,3,none⟩ = some (.int .i64 n)
 c4 : w.cell? ⟨b,4,none⟩ = some (.int .i64 g)
 c5 : w.cell? ⟨b,5,none⟩ = some (.int .i64 p)
 c6 : w.cell? ⟨b,6,none⟩ = some (.int .i64 r)
theorem CfgAt.new {w : World} {t s k n g p r : Int} {T : TypeId} : CfgAt (w.alloc (.cells #[.int .i64 t,.int .i64 s,.int .i64 k,.int .i64 n,.int .i64 g,.int .i64 p,.int .i64 r] T)) w.heap.size t s k n g p r:=by
 constructor <;> simp
theorem CfgAt.grown {w w' : World} {b : Nat} {t s k n g p r : Int} (h : CfgAt w b t s k n g p r) (h' : Below w.heap.size w w') : CfgAt w' b t s k n g p r :=
 ⟨keep' h' h.c0,keep' h' h.c1,keep' h' h.c2,keep' h' h.c3,keep' h' h.c4,keep' h' h.c5,keep' h' h.c6⟩
theorem lbase_any (t s k n g p r i m : Int) (w : World) (h : Arena t s k n) (hm : i * n = m) (m0 : 0 <= m) (m1 : m <= 1000000) :
 Calls Tryz.prog 39 #[.agg #[.int .i64 t,.int .i64 s,.int .i64 k,.int .i64 n,.int .i64 g,.int .i64 p,.int .i64 r],.int .i64 i] w fun e w'=>e = .returned (.int .i64 (6 + t + s * 2 + k * 3 + m)) /\ Below w.heap.size w w':=by
 have hA:=h
 obtain ⟨t0,t1,s0,s1,k0,k1,n0,n1⟩:=h
 go_enter Tryz.func39,Tryz.ntmps39
 go_wp2
 refine wp_over (fun W=>CfgAt W w.heap.size t s k n g p r /\ Below w.heap.size w W) ⟨CfgAt.new,grow_alloc (Below.refl _ _) _⟩ ?_
 rintro W ⟨hc,hb⟩
 have e0:=fun N : Later W=>(hc.grown N.below).c0
 have e1:=fun N : Later W=>(hc.grown N.below).c1
 have e2:=fun N : Later W=>(hc.grown N.below).c2
 have e3:=fun N : Later W=>(hc.grown N.below).c3
 have e4:=fun N : Later W=>(hc.grown N.below).c4
 have e5:=fun N : Later W=>(hc.grown N.below).c5
 have e6:=fun N : Later W=>(hc.grown N.below).c6
 haveI:=Later.exists W
 refine wp_region_later (by kernel_rfl) (by kernel_rfl) ?_
 repeat (go_big_quiet_step ((go_at_call 43;exact Calls.later (lchunk_any _ _ _ _ _ _ _ _ _ hA (by omega) (by omega)))))
 refine wpQuiet_nil ?_
 rintro _ ⟨nq,rfl⟩
 go_wp2
 go_ret
 exact ⟨rfl,grow hb nq.below⟩
theorem llen_any (t s k n g p r m : Int) (w : World) (h : Arena t s k n) (hm : k * n = m) (m0 : 0 <= m) (m1 : m <= 1000000) :
 Calls Tryz.prog 28 #[.agg #[.int .i64 t,.int .i64 s,.int .i64 k,.int .i64 n,.int .i64 g,.int .i64 p,.int .i64 r]] w fun e w'=>e = .returned (.int .i64 (6 + t + s * 2 + k * 3 + m)) /\ Below w.heap.size w w':=by
 go_enter Tryz.func28,Tryz.ntmps28
 go_wp2_with (go_at_call 39;refine (lbase_any _ _ _ _ _ _ _ _ _ _ h hm m0 m1).mono ?_;rintro e w' ⟨rfl,b1⟩)
 go_ret
 exact ⟨rfl,grow (grow_alloc (Below.refl _ _) _) b1⟩
theorem lnext_in (t s k n g p r i : Int) (w : World) (h0 : 0 <= i) (h1 : i <= 1000000) (h : i + 1 < s) :
 Calls Tryz.prog 34 #[.agg #[.int .i64 t,.int .i64 s,.int .i64 k,.int .i64 n,.int .i64 g,.int .i64 p,.int .i64 r],.int .i64 i] w fun e w'=>e = .returned (.int .i64 (i + 1)) /\ Below w.heap.size w w':=by
 go_enter Tryz.func34,Tryz.ntmps34
 go_wp2
 go_ret
 exact ⟨rfl,grow_alloc (Below.refl _ _) _⟩
theorem lnext_out (t s k n g p r i : Int) (w : World) (h0 : 0 <= i) (h1 : i <= 1000000) (h : ¬ i + 1 < s) :
 Calls Tryz.prog 34 #[.agg #[.int .i64 t,.int .i64 s,.int .i64 k,.int .i64 n,.int .i64 g,.int .i64 p,.int .i64 r],.int .i64 i] w fun e w'=>e = .returned (.int .i64 (-1)) /\ Below w.heap.size w w':=by
 go_enter Tryz.func34,Tryz.ntmps34
 go_wp2
 go_ret
 exact ⟨rfl,grow_alloc (Below.refl _ _) _⟩
def classOf (z : Int) : Int:=if z < 1 then -1 else if z <= 2 then 0 else if z <= 4 then 1 else if z <= 8 then 2 else if z <= 16 then 3 else -1
theorem lclass_any (z : Int) (w : World) :
 Calls Tryz.prog 13 #[.int .i64 z] w fun e w'=>e = .returned (.int .i64 (classOf z)) /\ w' = w:=by
 by_cases h : z < 1
 · go_enter Tryz.func13,Tryz.ntmps13
   go_wp2
   go_ret
   exact ⟨ret_int (by simp [classOf,h]),rfl⟩
 · go_enter Tryz.func13,Tryz.ntmps13
   go_wp2
   go_loop [3,6] (fun _ i=>i = .int .i64 0 \/ (i = .int .i64 1 /\ 2 < z) \/ (i = .int .i64 2 /\ 4 < z) \/ (i = .int .i64 3 /\ 8 < z) \/ (i = .int .i64 4 /\ 16 < z)) (fun _ i=>4 - (intOf i).toNat)
   case atStart=>exact Or.inl rfl
   case round =>
    rcases hrel with rfl | ⟨rfl,hz⟩ | ⟨rfl,hz⟩ | ⟨rfl,hz⟩ | ⟨rfl,hz⟩
    · by_cases h2 : z <= 2
      · go_wp2
        go_ret
        exact ⟨ret_int (by simp [classOf,h,h2]),rfl⟩
      · go_wp2
        go_round
        case rel=>exact Or.inr (Or.inl ⟨rfl,by omega⟩)
        case measure=>simp [intOf]
    · by_cases h2 : z <= 4
      · go_wp2
        go_ret
        exact ⟨ret_int (by unfold classOf;simp [h2];omega),rfl⟩
      · go_wp2
        go_round
        case rel=>exact Or.inr (Or.inr (Or.inl ⟨rfl,by omega⟩))
        case measure=>simp [intOf]
    · by_cases h2 : z <= 8
      · go_wp2
        go_ret
        exact ⟨ret_int (by unfold classOf;simp [h2];omega),rfl⟩
      · go_wp2
        go_round
        case rel=>exact Or.inr (Or.inr (Or.inr (Or.inl ⟨rfl,by omega⟩)))
        case measure=>simp [intOf]
    · by_cases h2 : z <= 16
      · go_wp2
        go_ret
        exact ⟨ret_int (by unfold classOf;simp [h2];omega),rfl⟩
      · go_wp2
        go_round
        case rel=>exact Or.inr (Or.inr (Or.inr (Or.inr ⟨rfl,by omega⟩)))
        case measure=>simp [intOf]
    · go_wp2
      go_ret
      exact ⟨ret_int (by unfold classOf;simp;omega),rfl⟩
theorem lroom_any (c : Int) (w : World) (h0 : 0 <= c) (h1 : c <= 3) :
 Calls Tryz.prog 88 #[.int .i64 c] w fun e w'=>e = .returned (.int .i64 (2 * 2 ^ c.toNat + 1)) /\ w' = w:=by
 have hcs : c = 0 \/ c = 1 \/ c = 2 \/ c = 3:=by omega
 rcases hcs with rfl | rfl | rfl | rfl
 all_goals
  go_enter Tryz.func88,Tryz.ntmps88
  go_wp2_with (go_at_call 38;refine (within_any _ _ _ _).mono ?_;rintro e w' ⟨rfl,rfl⟩;rw [decide_eq_true (by omega)])
  go_ret
  exact ⟨rfl,rfl⟩
def win (n a b : Int) : Bool:=decide (a <= n /\ n <= b)
def may (t s k n g p r : Int) : Bool:=win t 1 8 && win s 1 65536 && win k 1 64 && win n 17 256 && win g 1 65535 && win p 0 1000 && win r 1 16
theorem seven : ∀ a b c d e f g : Bool,a = false \/ (a = true /\ b = false) \/ (a = true /\ b = true /\ c = false) \/ (a = true /\ b = true /\ c = true /\ d = false) \/ (a = true /\ b = true /\ c = true /\ d = true /\ e = false) \/
 (a = true /\ b = true /\ c = true /\ d = true /\ e = true /\ f = false) \/ (a = true /\ b = true /\ c = true /\ d = true /\ e = true /\ f = true /\ g = false) \/ (a = true /\ b = true /\ c = true /\ d = true /\ e = true /\ f = true /\ g = true):=by
 intro a b c d e f g
 cases a <;> cases b <;> cases c <;> cases d <;> cases e <;> cases f <;> cases g <;> simp
theorem may_cases (t s k n g p r : Int) :
 win t 1 8 = false \/ (win t 1 8 = true /\ win s 1 65536 = false) \/ (win t 1 8 = true /\ win s 1 65536 = true /\ win k 1 64 = false) \/
 (win t 1 8 = true /\ win s 1 65536 = true /\ win k 1 64 = true /\ win n 17 256 = false) \/
 (win t 1 8 = true /\ win s 1 65536 = true /\ win k 1 64 = true /\ win n 17 256 = true /\ win g 1 65535 = false) \/
 (win t 1 8 = true /\ win s 1 65536 = true /\ win k 1 64 = true /\ win n 17 256 = true /\ win g 1 65535 = true /\ win p 0 1000 = false) \/
 (win t 1 8 = true /\ win s 1 65536 = true /\ win k 1 64 = true /\ win n 17 256 = true /\ win g 1 65535 = true /\ win p 0 1000 = true /\ win r 1 16 = false) \/
 (win t 1 8 = true /\ win s 1 65536 = true /\ win k 1 64 = true /\ win n 17 256 = true /\ win g 1 65535 = true /\ win p 0 1000 = true /\ win r 1 16 = true):=by
 exact seven _ _ _ _ _ _ _
theorem within_win (n a b : Int) (x : Bool) (hx : win n a b = x) (w : World) :
 Calls Tryz.prog 38 #[.int .i64 n,.int .i64 a,.int .i64 b] w fun e w'=>e = .returned (.bool x) /\ w' = w:=by
 subst hx;exact within_any n a b w
set_option maxHeartbeats 2000000 in
theorem lcheck_any (t s k n g p r : Int) (w : World) :
 Calls Tryz.prog 26 #[.agg #[.int .i64 t,.int .i64 s,.int .i64 k,.int .i64 n,.int .i64 g,.int .i64 p,.int .i64 r]] w fun e w'=>e = .returned (.bool (may t s k n g p r)) /\ Below w.heap.size w w':=by
 rcases may_cases t s k n g p r with h1 | ⟨h1,h2⟩ | ⟨h1,h2,h3⟩ | ⟨h1,h2,h3,h4⟩ | ⟨h1,h2,h3,h4,h5⟩ | ⟨h1,h2,h3,h4,h5,h6⟩ | ⟨h1,h2,h3,h4,h5,h6,h7⟩ | ⟨h1,h2,h3,h4,h5,h6,h7⟩
 all_goals
  go_enter Tryz.func26,Tryz.ntmps26
  go_wp2_with (first
   | (go_at_call_of 38 (Value.int .i64 t);refine (within_win _ _ _ _ h1 _).mono ?_;rintro e w' ⟨rfl,rfl⟩)
   | (go_at_call_of 38 (Value.int .i64 s);refine (within_win _ _ _ _ h2 _).mono ?_;rintro e w' ⟨rfl,rfl⟩)
   | (go_at_call_of 38 (Value.int .i64 k);refine (within_win _ _ _ _ h3 _).mono ?_;rintro e w' ⟨rfl,rfl⟩)
   | (go_at_call_of 38 (Value.int .i64 n);refine (within_win _ _ _ _ h4 _).mono ?_;rintro e w' ⟨rfl,rfl⟩)
   | (go_at_call_of 38 (Value.int .i64 g);refine (within_win _ _ _ _ h5 _).mono ?_;rintro e w' ⟨rfl,rfl⟩)
   | (go_at_call_of 38 (Value.int .i64 p);refine (within_win _ _ _ _ h6 _).mono ?_;rintro e w' ⟨rfl,rfl⟩)
   | (go_at_call_of 38 (Value.int .i64 r);refine (within_win _ _ _ _ h7 _).mono ?_;rintro e w' ⟨rfl,rfl⟩))
  go_ret
  refine ⟨?_,grow_alloc (Below.refl _ _) _⟩
  unfold may
  first
   | rw [h1,h2,h3,h4,h5,h6,h7];rfl
   | rw [h1,h2,h3,h4,h5,h6];rfl
   | rw [h1,h2,h3,h4,h5];rfl
   | rw [h1,h2,h3,h4];rfl
   | rw [h1,h2,h3];rfl
   | rw [h1,h2];rfl
   | rw [h1];rfl
end Go.Proofs.YtlolfmoolgenpaaGreat
