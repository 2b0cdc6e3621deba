import Derived.Test.YtlolfmoolgenpaaGreatWord
import Derived.Test.YtlolfmoolgenpaaGreatPhase
import Derived.Test.YtlolfmoolgenpaaGreatLay
namespace Go.Proofs.YtlolfmoolgenpaaGreat
open Go.RowKit
set_option maxHeartbeats 400000 in
theorem slot_any (x : Int) (w : World) (x0 : 0 <= x) (x1 : x <= 18446744073709551615) :
 Calls Tryz.prog 82 #[.int .u64 x] w fun e w'=>e = .returned (.agg #[.int .i64 (x % 8),.int .i64 (x / 8 % 1048576),.int .i64 (x / 8388608 % 65536),.int .i64 (x / 549755813888 % 4194304)]) /\ Below w.heap.size w w':=by
 go_enter Tryz.func82,Tryz.ntmps82
 go_wp2_with (go_at_call 96;refine (get_any _ _ _ _ x0 x1 (by decide) (by decide) (by decide) (by decide)).mono ?_;rintro e w' ⟨rfl,rfl⟩)
 exact bodyPost_ret (v:=.agg #[.int .i64 (x % 8),.int .i64 (x / 8 % 1048576),.int .i64 (x / 8388608 % 65536),.int .i64 (x / 549755813888 % 4194304)]) (by simp [results,Tryz.results82,go_sem]) rfl ⟨rfl,(Below.refl _ _).alloc (Nat.le_refl _) _⟩
set_option maxHeartbeats 400000 in
theorem chunk_any (x : Int) (w : World) (x0 : 0 <= x) (x1 : x <= 18446744073709551615) :
 Calls Tryz.prog 111 #[.int .u64 x] w fun e w'=>e = .returned (.agg #[.int .i64 (x % 4),.int .i64 (x / 4 % 64),.int .i64 (x / 256 % 1048576),.int .i64 (x / 268435456 % 68719476736)]) /\ Below w.heap.size w w':=by
 go_enter Tryz.func111,Tryz.ntmps111
 go_wp2_with (go_at_call 96;refine (get_any _ _ _ _ x0 x1 (by decide) (by decide) (by decide) (by decide)).mono ?_;rintro e w' ⟨rfl,rfl⟩)
 exact bodyPost_ret (v:=.agg #[.int .i64 (x % 4),.int .i64 (x / 4 % 64),.int .i64 (x / 256 % 1048576),.int .i64 (x / 268435456 % 68719476736)]) (by simp [results,Tryz.results111,go_sem]) rfl ⟨rfl,(Below.refl _ _).alloc (Nat.le_refl _) _⟩
set_option maxHeartbeats 400000 in
theorem head_any (x : Int) (w : World) (x0 : 0 <= x) (x1 : x <= 18446744073709551615) :
 Calls Tryz.prog 128 #[.int .u64 x] w fun e w'=>e = .returned (.agg #[.int .i64 (x % 4),.int .i64 (x / 4 % 65536),.int .i64 (x / 262144 % 65536),.int .i64 (x / 17179869184 % 65536),.bool (decide (x / 1125899906842624 % 2 = 1))]) /\ Below w.heap.size w w':=by
 rw [<- bit_at x 1125899906842624 50 (by decide) (by decide) x0 x1]
 go_enter Tryz.func128,Tryz.ntmps128
 go_wp2_with (go_at_call 96;refine (get_any _ _ _ _ x0 x1 (by decide) (by decide) (by decide) (by decide)).mono ?_;rintro e w' ⟨rfl,rfl⟩)
 exact bodyPost_ret (v:=.agg #[.int .i64 (x % 4),.int .i64 (x / 4 % 65536),.int .i64 (x / 262144 % 65536),.int .i64 (x / 17179869184 % 65536),.bool (bits .and .u64 x 1125899906842624 != 0)]) (by simp [results,Tryz.results128,go_sem]) rfl ⟨rfl,(Below.refl _ _).alloc (Nat.le_refl _) _⟩
set_option maxHeartbeats 400000 in
theorem cell_any (x : Int) (w : World) (x0 : 0 <= x) (x1 : x <= 18446744073709551615) :
 Calls Tryz.prog 138 #[.int .u64 x] w fun e w'=>e = .returned (.agg #[.int .i64 (x % 1099511627776),.bool (decide (9223372036854775808 <= x)),.int .i64 (if 9223372036854775808 <= x then x / 1099511627776 % 4194304 else 0)]) /\ Below w.heap.size w w':=by
 have hb:=bit_at x 9223372036854775808 63 (by decide) (by decide) x0 x1
 have H : Hid ((bits .and .u64 x 9223372036854775808 != 0) = decide (9223372036854775808 <= x)):=by
  rw [hb];unfold Hid;congr 1;simp only [eq_iff_iff];omega
 clear hb
 by_cases h : 9223372036854775808 <= x
 · have h1 : (bits .and .u64 x 9223372036854775808 != 0) = true:=by rw [H.out];simp [h]
   clear H
   rw [decide_eq_true h,if_pos h]
   clear h
   go_enter Tryz.func138,Tryz.ntmps138
   go_wp2_with (go_at_call 96;refine (get_any _ _ _ _ x0 x1 (by decide) (by decide) (by decide) (by decide)).mono ?_;rintro e w' ⟨rfl,rfl⟩)
   exact bodyPost_ret (v:=.agg #[.int .i64 (x % 1099511627776),.bool true,.int .i64 (x / 1099511627776 % 4194304)]) (by simp [results,Tryz.results138,go_sem]) rfl ⟨rfl,((Below.refl _ _).alloc (Nat.le_refl _) _).alloc (by simp) _⟩
 · have h1 : (bits .and .u64 x 9223372036854775808 != 0) = false:=by rw [H.out];simpa using h
   clear H
   rw [decide_eq_false h,if_neg h]
   clear h
   go_enter Tryz.func138,Tryz.ntmps138
   go_wp2_with (go_at_call 96;refine (get_any _ _ _ _ x0 x1 (by decide) (by decide) (by decide) (by decide)).mono ?_;rintro e w' ⟨rfl,rfl⟩)
   exact bodyPost_ret (v:=.agg #[.int .i64 (x % 1099511627776),.bool false,.int .i64 0]) (by simp [results,Tryz.results138,go_sem]) rfl ⟨rfl,((Below.refl _ _).alloc (Nat.le_refl _) _).alloc (by simp) _⟩
set_option maxHeartbeats 400000 in
theorem top_any (x : Int) (w : World) (x0 : 0 <= x) (x1 : x <= 18446744073709551615) :
 Calls Tryz.prog 93 #[.int .u64 x] w fun e w'=>e = .returned (.tuple #[.int .i64 (x % 131072 - 1),.int .i64 (x / 131072 % 68719476736)]) /\ w' = w:=by
 go_enter Tryz.func93,Tryz.ntmps93
 go_wp2_with (go_at_call 96;refine (get_any _ _ _ _ x0 x1 (by decide) (by decide) (by decide) (by decide)).mono ?_;rintro e w' ⟨rfl,rfl⟩)
 go_ret2
 exact ⟨rfl,rfl⟩
set_option maxHeartbeats 400000 in
theorem handle_yes (x : Int) (w : World) (x0 : 65536 <= x) (x1 : x <= 4294967295) :
 Calls Tryz.prog 117 #[.int .u64 x] w fun e w'=>e = .returned (.tuple #[.agg #[.int .i64 (x % 65536),.int .i64 (x / 65536)],.bool true]) /\ Below w.heap.size w w':=by
 have h1 : (x / 65536 % 65536 == 0) = false:=by simp;omega
 have h2 : (x / 4294967296 != 0) = false:=by simp;omega
 have h3 : x / 65536 = x / 65536 % 65536:=by omega
 rw [h3]
 clear h3
 go_enter Tryz.func117,Tryz.ntmps117
 go_wp2_with (go_at_call 96;refine (get_any _ _ _ _ (by omega) (by omega) (by decide) (by decide) (by decide) (by decide)).mono ?_;rintro e w' ⟨rfl,rfl⟩)
 exact bodyPost_ret (v:=.tuple #[.agg #[.int .i64 (x % 65536),.int .i64 (x / 65536 % 65536)],.bool true]) (by simp [results,Tryz.results117,go_sem]) rfl ⟨rfl,(Below.refl _ _).alloc (Nat.le_refl _) _⟩
set_option maxHeartbeats 400000 in
theorem handle_no (x : Int) (w : World) (x0 : 0 <= x) (x1 : x <= 18446744073709551615) (h : x < 65536 \/ 4294967296 <= x) :
 Calls Tryz.prog 117 #[.int .u64 x] w fun e w'=>e = .returned (.tuple #[.agg #[.int .i64 0,.int .i64 0],.bool false]) /\ Below w.heap.size w w':=by
 by_cases hg : x / 65536 % 65536 = 0
 · have h1 : (x / 65536 % 65536 == 0) = true:=by simp [hg]
   clear hg h
   go_enter Tryz.func117,Tryz.ntmps117
   go_wp2_with (go_at_call 96;refine (get_any _ _ _ _ (by omega) (by omega) (by decide) (by decide) (by decide) (by decide)).mono ?_;rintro e w' ⟨rfl,rfl⟩)
   exact bodyPost_ret (v:=.tuple #[.agg #[.int .i64 0,.int .i64 0],.bool false]) (by simp [results,Tryz.results117,go_sem]) rfl ⟨rfl,(Below.refl _ _).alloc (Nat.le_refl _) _⟩
 · have h1 : (x / 65536 % 65536 == 0) = false:=by simpa using hg
   have h2 : (x / 4294967296 != 0) = true:=by simp;omega
   clear hg h
   go_enter Tryz.func117,Tryz.ntmps117
   go_wp2_with (go_at_call 96;refine (get_any _ _ _ _ (by omega) (by omega) (by decide) (by decide) (by decide) (by decide)).mono ?_;rintro e w' ⟨rfl,rfl⟩)
   exact bodyPost_ret (v:=.tuple #[.agg #[.int .i64 0,.int .i64 0],.bool false]) (by simp [results,Tryz.results117,go_sem]) rfl ⟨rfl,(Below.refl _ _).alloc (Nat.le_refl _) _⟩
end Go.Proofs.YtlolfmoolgenpaaGreat

namespace Go.Proofs.YtlolfmoolgenpaaGreat
open Go.RowKit
structure At (w : World) (b o : Nat) (T : TypeId) (c : Array Value) (l : List Value) : Prop where
 obj : w.heap[b]? = some (.cells c T (0,0))
 is : ∀ i v,l[i]? = some v -> c[o + i]? = some v
def Same (o k : Nat) (c c' : Array Value) : Prop:=c'.size = c.size /\ ∀ i,¬ (o <= i /\ i < o + k) -> c'[i]? = c[i]?
theorem Same.refl {o k : Nat} {c : Array Value} : Same o k c c:=⟨rfl,fun _ _=>rfl⟩
theorem Same.set {o k : Nat} {c c' : Array Value} (h : Same o k c c') {j : Nat} (hj : o <= j /\ j < o + k) (v : Value) : Same o k c (c'.setIfInBounds j v) :=
 ⟨by rw [Array.size_setIfInBounds];exact h.1,fun i hi=>by rw [Array.getElem?_setIfInBounds_ne (fun e=>hi (by rw [<- e];exact hj))];exact h.2 i hi⟩
theorem Same.trans {o k : Nat} {c c' c'' : Array Value} (h : Same o k c c') (g : Same o k c' c'') : Same o k c c'':=⟨g.1.trans h.1,fun i hi=>(g.2 i hi).trans (h.2 i hi)⟩
namespace At
variable {w w' : World} {b o : Nat} {T : TypeId} {c : Array Value} {l : List Value}
theorem cell (h : At w b o T c l) (i : Nat) {v : Value} (hv : l[i]? = some v) : w.cell? ⟨b,o + i,none⟩ = some v:=blk_cell h.obj (h.is i v hv)
theorem cell0 (h : At w b o T c l) {v : Value} (hv : l[0]? = some v) : w.cell? ⟨b,o,none⟩ = some v:=h.cell 0 hv
theorem at0 (h : At w b 0 T c l) (i : Nat) {v : Value} (hv : l[i]? = some v) : w.cell? ⟨b,i,none⟩ = some v:=by
 have:=h.cell i hv
 rwa [Nat.zero_add] at this
theorem fz (h : At w b o T c l) (i : Nat) : w.frozen? ⟨b,i,none⟩ = false:=blk_frozen h.obj i
theorem lt (h : At w b o T c l) : b < w.heap.size:=blk_lt h.obj
theorem of_block (h : At w b o T c l) (e : w'.heap[b]? = w.heap[b]?) : At w' b o T c l:=⟨e.trans h.obj,h.is⟩
theorem grown (h : At w b o T c l) (g : Below w.heap.size w w') : At w' b o T c l:=h.of_block (g.block _ h.lt)
theorem drew (h : At w b o T c l) : At w.drew b o T c l:=h.of_block rfl
theorem only {S : Nat -> Prop} (h : At w b o T c l) (g : Only S w w') (hs : ¬ S b) : At w' b o T c l:=h.of_block (g.block _ h.lt hs)
theorem other (h : At w b o T c l) {k : Nat} (hk : b ≠ k) (i : Nat) (v : Value) : At (w.setCell ⟨k,i,none⟩ v) b o T c l:=h.of_block (Go.Deep.blk_setCell_other _ _ _ _ (by simpa using hk))
theorem ltc (h : At w b o T c l) {i : Nat} (hi : i < l.length) : o + i < c.size:=by
 have:=h.is i _ (List.getElem?_eq_getElem hi)
 exact (Array.getElem?_eq_some_iff.1 this).1
theorem set (h : At w b o T c l) (i : Nat) (v : Value) : At (w.setCell ⟨b,o + i,none⟩ v) b o T (c.setIfInBounds (o + i) v) (l.set i v) :=
 ⟨blk_setCell _ _ _ _ _ _ h.obj,fun j u hj=>by
  rw [List.getElem?_set] at hj
  by_cases hij : i = j
  · subst hij
    rw [if_pos rfl] at hj
    by_cases hl : i < l.length
    · rw [if_pos hl] at hj
      rw [Array.getElem?_setIfInBounds_self_of_lt (h.ltc hl)];exact hj
    · rw [if_neg hl] at hj;cases hj
  · rw [if_neg hij] at hj
    rw [Array.getElem?_setIfInBounds_ne (by omega)];exact h.is j u hj⟩
theorem put0 (h : At w b 0 T c l) (i : Nat) (v : Value) : At (w.setCell ⟨b,i,none⟩ v) b 0 T (c.setIfInBounds i v) (l.set i v):=by
 have:=h.set i v
 rwa [Nat.zero_add] at this
theorem set0 (h : At w b o T c l) (v : Value) : At (w.setCell ⟨b,o,none⟩ v) b o T (c.setIfInBounds o v) (l.set 0 v):=h.set 0 v
theorem new (w : World) (T : TypeId) (l : List Value) : At (w.alloc (.cells l.toArray T)) w.heap.size 0 T l.toArray l :=
 ⟨Go.Deep.blk_alloc_new _ _,fun i v hv=>by simpa using hv⟩
end At
theorem Only.andL {L : Loc} {b : Nat} {w w' : World} (h : Only L.has w w') : Only (L.and b) w w':=h.mono fun _ _ k=>Or.inl k
theorem Only.set {L : Loc} {b : Nat} {w w' : World} (h : Only (L.and b) w w') (i : Nat) (v : Value) : Only (L.and b) w (w'.setCell ⟨b,i,none⟩ v):=h.setCell (fun _=>Or.inr rfl) v
theorem Only.ofGrown {S : Nat -> Prop} {w w' : World} (h : Below w.heap.size w w') : Only S w w':=(Only.ofBelow h).mono fun i hi k=>absurd k (by omega)
theorem MemAt.setIn {L : Loc} {s : Mm} {b : Nat} {w : World} (h : MemAt w L s) (hb : ¬ L.has b) (i : Nat) (v : Value) : MemAt (w.setCell ⟨b,i,none⟩ v) L s:=h.other hb v
theorem below_setIn {w w' : World} {b : Nat} (h : Below w.heap.size w w') (hb : w.heap.size <= b) (i : Nat) (v : Value) : Below w.heap.size w (w'.setCell ⟨b,i,none⟩ v) :=
 ⟨h.os,h.tape,h.output,by rw [Go.Deep.nblk_setCell];exact h.size,fun k hk=>by
  rw [Go.Deep.blk_setCell_other _ _ _ _ (fun e=>by simp only at e;omega)];exact h.block k hk⟩
theorem BoxV.setIn {w : World} {B P : Nat} {c0 c1 c2 c3 c4 c5 c6 who : Int} (h : BoxV w B c0 c1 c2 c3 c4 c5 c6 P who) {b : Nat} (hb : ¬ B = b) (i : Nat) (v : Value) : BoxV (w.setCell ⟨b,i,none⟩ v) B c0 c1 c2 c3 c4 c5 c6 P who :=
 h.only (S:=fun k=>k = b) (Only.setCell (a:=⟨b,i,none⟩) (Only.refl (fun k=>k = b) _) (fun _=>rfl) _) hb
theorem BoxV.newB {w : World} {P : Nat} {c0 c1 c2 c3 c4 c5 c6 who : Int} {T : TypeId} (O : Obj) : BoxV ((w.alloc (.cells #[.int .i64 c0,.int .i64 c1,.int .i64 c2,.int .i64 c3,.int .i64 c4,.int .i64 c5,.int .i64 c6,.pointer (some ⟨P,0,none⟩),.int .i64 who] T)).alloc O) w.heap.size c0 c1 c2 c3 c4 c5 c6 P who:=BoxV.new.grown (grow_alloc (Below.refl _ _) _)
def phAt (L : Loc) (b o : Nat) (T : TypeId) (c c' : Array Value) (s s' : Mm) (l l' : List Value) : Nat -> World -> Prop
 | 0,w=>MemAt w L s /\ At w b o T c l
 | 1,w=>MemAt w L s' /\ At w b o T c l
 | _,w=>MemAt w L s' /\ At w b o T c' l'
theorem phAt_grown {L : Loc} {b o : Nat} {T : TypeId} {c c' : Array Value} {s s' : Mm} {l l' : List Value} (x y : World) (p : Nat) (g : Grown x y) (k : phAt L b o T c c' s s' l l' p x) : phAt L b o T c c' s s' l l' p y:=by
 match p,k with
 | 0,k=>exact ⟨k.1.below g,k.2.grown g⟩
 | 1,k=>exact ⟨k.1.below g,k.2.grown g⟩
 | p + 2,k=>exact ⟨k.1.below g,k.2.grown g⟩
structure OnlyBut (L : Loc) (b f : Nat) (x y : World) : Prop where
 only : Only (L.and b) x y
 cell : ∀ j,j ≠ f -> b < x.heap.size -> y.cell? ⟨b,j,none⟩ = x.cell? ⟨b,j,none⟩
namespace OnlyBut
variable {L : Loc} {b f : Nat} {x y z : World}
theorem refl (x : World) : OnlyBut L b f x x:=⟨Only.refl _ _,fun _ _ _=>rfl⟩
theorem trans (x y z : World) (h : OnlyBut L b f x y) (k : OnlyBut L b f y z) : OnlyBut L b f x z :=
 ⟨h.only.trans k.only,fun j hj hb=>(k.cell j hj (Nat.lt_of_lt_of_le hb h.only.size)).trans (h.cell j hj hb)⟩
theorem ofGrown (x y : World) (h : Grown x y) : OnlyBut L b f x y:=⟨Only.ofGrown h,fun j _ hb=>h.cell (p:=⟨b,j,none⟩) hb⟩
theorem ofOnly (h : Only L.has x y) (hb : ¬ L.has b) : OnlyBut L b f x y:=⟨h.andL,fun j _ hl=>h.cell (p:=⟨b,j,none⟩) hl hb⟩
theorem set (x : World) (v : Value) : OnlyBut L b f x (x.setCell ⟨b,f,none⟩ v):=⟨(Only.refl _ _).set _ _,fun j hj _=>World.cell?_setCell_other _ _ _ _ (fun e=>hj (by cases e;rfl))⟩
theorem keep (h : OnlyBut L b f x y) {j : Nat} {v : Value} (hj : j ≠ f) (hc : x.cell? ⟨b,j,none⟩ = some v) : y.cell? ⟨b,j,none⟩ = some v :=
 (h.cell j hj (World.block_lt_of_cell? x _ hc)).trans hc
end OnlyBut
end Go.Proofs.YtlolfmoolgenpaaGreat

namespace Go.Proofs.YtlolfmoolgenpaaGreat
open Go.RowKit
theorem lof_in (t s k n g p r a q : Int) (w : World) (h : Arena t s k n) (hn : 1 <= n) (ha : 6 + t + s * 2 + k * 3 <= a) (ha2 : a <= 9223372036854775807) (hq : (a - (6 + t + s * 2 + k * 3)) / n = q) (hk : q < k) :
 Calls Tryz.prog 126 #[.agg #[.int .i64 t,.int .i64 s,.int .i64 k,.int .i64 n,.int .i64 g,.int .i64 p,.int .i64 r],.int .i64 a] w fun e w'=>e = .returned (.int .i64 q) /\ Below w.heap.size w w':=by
 have hA:=h
 obtain ⟨t0,t1,s0,s1,k0,k1,n0,n1⟩:=h
 have q0 : 0 <= q:=by rw [<- hq];exact Int.ediv_nonneg (by omega) (by omega)
 go_enter Tryz.func126,Tryz.ntmps126
 go_wp2_with (go_at_call 39;refine (lbase_any _ _ _ _ _ _ _ 0 0 _ hA (by simp) (by omega) (by omega)).mono ?_;rintro e w1 ⟨rfl,b1⟩;have hc:=CfgAt.new.grown b1;have e2:=hc.c2;have e3:=hc.c3)
 go_ret
 exact ⟨rfl,grow (grow_alloc (Below.refl _ _) _) b1⟩
theorem lof_low (t s k n g p r a : Int) (w : World) (h : Arena t s k n) (ha : a < 6 + t + s * 2 + k * 3) :
 Calls Tryz.prog 126 #[.agg #[.int .i64 t,.int .i64 s,.int .i64 k,.int .i64 n,.int .i64 g,.int .i64 p,.int .i64 r],.int .i64 a] w fun e w'=>e = .returned (.int .i64 (-1)) /\ Below w.heap.size w w':=by
 have hA:=h
 obtain ⟨t0,t1,s0,s1,k0,k1,n0,n1⟩:=h
 go_enter Tryz.func126,Tryz.ntmps126
 go_wp2_with (go_at_call 39;refine (lbase_any _ _ _ _ _ _ _ 0 0 _ hA (by simp) (by omega) (by omega)).mono ?_;rintro e w1 ⟨rfl,b1⟩;have hc:=CfgAt.new.grown b1;have e2:=hc.c2;have e3:=hc.c3)
 go_ret
 exact ⟨rfl,grow (grow_alloc (Below.refl _ _) _) b1⟩
theorem lof_high (t s k n g p r a q : Int) (w : World) (h : Arena t s k n) (hn : 1 <= n) (ha : 6 + t + s * 2 + k * 3 <= a) (ha2 : a <= 9223372036854775807) (hq : (a - (6 + t + s * 2 + k * 3)) / n = q) (hk : k <= q) :
 Calls Tryz.prog 126 #[.agg #[.int .i64 t,.int .i64 s,.int .i64 k,.int .i64 n,.int .i64 g,.int .i64 p,.int .i64 r],.int .i64 a] w fun e w'=>e = .returned (.int .i64 (-1)) /\ Below w.heap.size w w':=by
 have hA:=h
 obtain ⟨t0,t1,s0,s1,k0,k1,n0,n1⟩:=h
 go_enter Tryz.func126,Tryz.ntmps126
 go_wp2_with (go_at_call 39;refine (lbase_any _ _ _ _ _ _ _ 0 0 _ hA (by simp) (by omega) (by omega)).mono ?_;rintro e w1 ⟨rfl,b1⟩;have hc:=CfgAt.new.grown b1;have e2:=hc.c2;have e3:=hc.c3)
 go_ret
 exact ⟨rfl,grow (grow_alloc (Below.refl _ _) _) b1⟩
theorem ret_bool {a b : Bool} (h : a = b) : Ending.returned (.bool a) = .returned (.bool b):=by rw [h]
end Go.Proofs.YtlolfmoolgenpaaGreat
