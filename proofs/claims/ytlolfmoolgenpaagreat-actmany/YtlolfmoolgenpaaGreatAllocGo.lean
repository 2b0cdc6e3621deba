import Derived.Test.YtlolfmoolgenpaaGreatPlaceAsk
import Derived.Test.YtlolfmoolgenpaaGreatLayRef
import Derived.Test.YtlolfmoolgenpaaGreatPlaceTurn
import Derived.Test.YtlolfmoolgenpaaGreatSlotTurnS
namespace Go.Proofs.YtlolfmoolgenpaaGreat
open Go.RowKit
set_option maxHeartbeats 1000000 in
theorem arena04_any {t n k m : Nat} (hg : Good t n k m 100 600 3) (w : World) :
 Calls Tryz.prog 9 #[.int .i64 t,.int .i64 n,.int .i64 k,.int .i64 m] w fun e w'=>∃ L : Loc,e = .returned (.tuple #[.agg #[.int .i64 t,.int .i64 n,.int .i64 k,.int .i64 m,.int .i64 100,.int .i64 600,.int .i64 3,.pointer (some ⟨L.p,0,none⟩),.int .i64 0],.bool true]) /\ MemAt w' L (Mm.laid t n (arenaLen t n k m) n) /\ Below w.heap.size w w' /\ ∀ k,L.has k -> w.heap.size <= k:=by
 have HG : Hid (Good t n k m 100 600 3):=hg
 clear hg
 go_enter Tryz.func9,Tryz.ntmps9
 go_wp2_with (go_at_call 21;refine (fresh_good HG.out _).mono ?_;rintro e w2 ⟨L,rfl,m2,b2,f2⟩;have cc:=CfgAt.new.grown b2;rw [Go.Deep.nblk_alloc] at cc;have x0:=cc.c0;have x1:=cc.c1;have x2:=cc.c2;have x3:=cc.c3;have x4:=cc.c4;have x5:=cc.c5;have x6:=cc.c6;have hk : w2.heap[w.heap.size]? = some (.cells #[.int .i64 0,.int .i64 0,.int .i64 0,.int .i64 0,.int .i64 0,.int .i64 0,.int .i64 0,.pointer none,.int .i64 0] 27 (0,0)):=(b2.block _ (by rw [Go.Deep.nblk_alloc,Go.Deep.nblk_alloc];omega)).trans ((Go.Deep.blk_alloc_lt _ _ _ (by rw [Go.Deep.nblk_alloc];omega)).trans (Go.Deep.blk_alloc_new _ _));have q0:=blk_cell (o:=0) hk rfl;have q1:=blk_cell (o:=1) hk rfl;have q2:=blk_cell (o:=2) hk rfl;have q3:=blk_cell (o:=3) hk rfl;have q4:=blk_cell (o:=4) hk rfl;have q5:=blk_cell (o:=5) hk rfl;have q6:=blk_cell (o:=6) hk rfl;have q7:=blk_cell (o:=7) hk rfl;have q8:=blk_cell (o:=8) hk rfl;have kf:=blk_frozen hk)
 have hb : ¬ L.has w.heap.size:=fun hh=>by have:=f2 _ hh;rw [Go.Deep.nblk_alloc,Go.Deep.nblk_alloc] at this;omega
 have B2 : Below w.heap.size w w2:=grow (grow_alloc (grow_alloc (Below.refl _ _) _) _) b2
 refine bodyPost_ret (v:=.tuple #[.agg #[.int .i64 t,.int .i64 n,.int .i64 k,.int .i64 m,.int .i64 100,.int .i64 600,.int .i64 3,.pointer (some ⟨L.p,0,none⟩),.int .i64 0],.bool true]) (by simp [results,Tryz.results9,go_sem,q0,q1,q2,q3,q4,q5,q6,q7,q8]) rfl ⟨L,rfl,(((((((((m2.setIn hb _ _).setIn hb _ _).setIn hb _ _).setIn hb _ _).setIn hb _ _).setIn hb _ _).setIn hb _ _).setIn hb _ _).setIn hb _ _),?_,fun k hk=>?_⟩
 · exact (below_setIn (below_setIn (below_setIn (below_setIn (below_setIn (below_setIn (below_setIn (below_setIn (below_setIn B2 (Nat.le_refl _) _ _) (Nat.le_refl _) _ _) (Nat.le_refl _) _ _) (Nat.le_refl _) _ _) (Nat.le_refl _) _ _) (Nat.le_refl _) _ _) (Nat.le_refl _) _ _) (Nat.le_refl _) _ _) (Nat.le_refl _) _ _)
 · have:=f2 _ hk;rw [Go.Deep.nblk_alloc,Go.Deep.nblk_alloc] at this;omega
theorem now_any {w : World} {L : Loc} {s : Mm} (h : MemAt w L s) (c0 c1 c2 c3 c4 c5 c6 who : Int) (x : Nat) (hx : s.steps = x) :
 Calls Tryz.prog 17 #[.agg #[.int .i64 c0,.int .i64 c1,.int .i64 c2,.int .i64 c3,.int .i64 c4,.int .i64 c5,.int .i64 c6,.pointer (some ⟨L.p,0,none⟩),.int .i64 who]] w fun e w'=>e = .returned (.int .i64 x) /\ Below w.heap.size w w':=by
 have k:=enow_any h c0 c1 c2 c3 c4 c5 c6 who
 rwa [hx] at k
theorem low0 (x m : Int) (b : Nat) (hb : b < 63) (hm : m = 2 ^ b - 1) : ∃ y : Nat,bits .and .i64 x m = (y : Int) /\ (y : Int) <= m:=by
 obtain ⟨y,h1,_,h2⟩:=lowN x m b 0 hb hm
 exact ⟨y,by simpa using h1,by simpa using h2⟩
end Go.Proofs.YtlolfmoolgenpaaGreat

namespace Go.Proofs.YtlolfmoolgenpaaGreat
open Go.RowKit
section
variable {w0 w w' : World} {L : Loc} {bE t n k m σ : Nat} {s : Mm} {y : Y}
def Pl.told : Pl -> Nat × Nat × Bool
 | .won a i=>(a,i,true)
 | _=>(0,0,false)
theorem spot_any {b o : Nat} {T : TypeId} {cs : Array Value} {κ : Nat} {τ : Pl} (hi : PlAt w b o T cs κ τ) (a i : Nat) (d : Bool) (ht : τ.told = (a,i,d)) :
 Calls Tryz.prog 85 #[.pointer (some ⟨b,o,none⟩)] w fun e w'=>e = .returned (.tuple #[.agg #[.int .i64 a,.int .i64 i],.bool d]) /\ Below w.heap.size w w':=by
 obtain ⟨l,ha,hl⟩:=hi
 by_cases hw : ∃ x j,τ = .won x j
 · obtain ⟨x,j,rfl⟩:=hw
   obtain ⟨rfl,rfl,rfl⟩ : x = a /\ j = i /\ true = d:=by simpa [Pl.told] using ht
   obtain ⟨sn,ch,ws,rfl⟩:=hl
   have i1:=ha.grown (grow_alloc (Below.refl _ _) (.cells #[.int .i64 0,.int .i64 0] 102))
   have k0:=i1.cell0 rfl
   have k5:=i1.cell 5 rfl
   have k6:=i1.cell 6 rfl
   go_enter Tryz.func85,Tryz.ntmps85
   go_wp2
   refine bodyPost_ret (v:=.tuple #[.agg #[.int .i64 x,.int .i64 j],.bool true]) (by simp [results,Tryz.results85,go_sem]) rfl ?_
   exact ⟨rfl,grow_alloc (Below.refl _ _) _⟩
 · have hn : ∃ nx : Int,(nx != 7) = true /\ ∃ sn ch ws sa sb,l = PlV nx κ sn ch ws sa sb:=by
    cases τ with
    | see=>obtain ⟨sn,ch,ws,sa,sb,rfl⟩:=hl;exact ⟨0,rfl,sn,ch,ws,sa,sb,rfl⟩
    | ask i=>obtain ⟨ws,sa,sb,rfl⟩:=hl;exact ⟨1,rfl,_,_,_,_,_,rfl⟩
    | grow i c=>obtain ⟨sn,sa,sb,rfl⟩:=hl;exact ⟨2,rfl,_,_,_,_,_,rfl⟩
    | look sn i=>obtain ⟨ws,sa,sb,rfl⟩:=hl;exact ⟨3,rfl,_,_,_,_,_,rfl⟩
    | take sn i c=>obtain ⟨sa,sb,rfl⟩:=hl;exact ⟨4,rfl,_,_,_,_,_,rfl⟩
    | opn sn i c=>obtain ⟨sa,sb,rfl⟩:=hl;exact ⟨5,rfl,_,_,_,_,_,rfl⟩
    | fre sn i c=>obtain ⟨sa,sb,rfl⟩:=hl;exact ⟨6,rfl,_,_,_,_,_,rfl⟩
    | won x j=>exact absurd ⟨x,j,rfl⟩ hw
    | none=>obtain ⟨sn,ch,ws,sa,sb,rfl⟩:=hl;exact ⟨8,rfl,_,_,_,_,_,rfl⟩
   have ht' : τ.told = (0,0,false):=by
    cases τ with
    | won x j=>exact absurd ⟨x,j,rfl⟩ hw
    | _=>rfl
   rw [ht'] at ht
   obtain ⟨rfl,rfl,rfl⟩ : 0 = a /\ 0 = i /\ false = d:=by simpa using ht
   obtain ⟨nx,hnx,sn,ch,ws,sa,sb,rfl⟩:=hn
   clear ht ht' hw hl
   have i1:=ha.grown (grow_alloc (Below.refl _ _) (.cells #[.int .i64 0,.int .i64 0] 102))
   have k0:=i1.cell0 rfl
   go_enter Tryz.func85,Tryz.ntmps85
   go_wp2
   refine bodyPost_ret (v:=.tuple #[.agg #[.int .i64 0,.int .i64 0],.bool false]) (by simp [results,Tryz.results85,go_sem]) rfl ?_
   exact ⟨rfl,grow_alloc (Below.refl _ _) _⟩
def place0 (κ : Nat) : Obj:=.cells #[.int .i64 0,.int .i64 κ,.int .u64 0,.int .i64 0,.int .u64 0,.int .i64 0,.int .i64 0] 104
theorem newPlace_any (κ : Nat) (w : World) :
 Calls Tryz.prog 83 #[.int .i64 κ] w fun e w'=>e = .returned (.pointer (some ⟨w.heap.size,0,none⟩)) /\ w' = w.alloc (place0 κ):=by
 unfold place0
 go_enter Tryz.func83,Tryz.ntmps83
 go_wp2
 go_ret
 exact ⟨rfl,rfl⟩
end
inductive Goes (k m κ : Nat) (bs : Nat -> Nat) : Nat -> Y -> Pl -> Y -> Pl -> Prop where
 | one {y : Y} {τ : Pl} {y' : Y} {τ' : Pl} (ho : τ.over = false) (ht : turn k m κ bs y τ = (y',τ')) (h : τ'.over = true) : Goes k m κ bs 1 y τ y' τ'
 | more {N : Nat} {y : Y} {τ : Pl} {y1 : Y} {τ1 : Pl} {y' : Y} {τ' : Pl} (ho : τ.over = false) (ht : turn k m κ bs y τ = (y1,τ1)) (h : τ1.over = false) (g : Goes k m κ bs N y1 τ1 y' τ') : Goes k m κ bs (N + 1) y τ y' τ'
end Go.Proofs.YtlolfmoolgenpaaGreat

namespace Go.Proofs.YtlolfmoolgenpaaGreat
open Go.RowKit
structure AV where
 nx : Int
 tk : List Value
 pl : List Value
 gv : List Value
 kd : Int
 sz : Int
 sl : Int
 gn : Int
 own : Bool
 sa : Int
 sc : Int
 E : Int
 H : Int
 V : Int
 St : Int
structure AlAt (w : World) (b o : Nat) (T : TypeId) (c : Array Value) (a : AV) : Prop where
 obj : w.heap[b]? = some (.cells c T (0,0))
 ltk : a.tk.length = 4
 lpl : a.pl.length = 7
 lgv : a.gv.length = 3
 nx : c[o]? = some (.int .i64 a.nx)
 tk : ∀ i v,a.tk[i]? = some v -> c[o + 1 + i]? = some v
 pl : ∀ i v,a.pl[i]? = some v -> c[o + 5 + i]? = some v
 gv : ∀ i v,a.gv[i]? = some v -> c[o + 12 + i]? = some v
 kd : c[o + 15]? = some (.int .i64 a.kd)
 sz : c[o + 16]? = some (.int .i64 a.sz)
 sl : c[o + 17]? = some (.int .i64 a.sl)
 gn : c[o + 18]? = some (.int .i64 a.gn)
 own : c[o + 19]? = some (.bool a.own)
 sa : c[o + 20]? = some (.int .i64 a.sa)
 sc : c[o + 21]? = some (.int .i64 a.sc)
 E : c[o + 22]? = some (.int .i64 a.E)
 H : c[o + 23]? = some (.int .u64 a.H)
 V : c[o + 24]? = some (.int .i64 a.V)
 St : c[o + 25]? = some (.int .i64 a.St)
theorem keepc {c : Array Value} {i j : Nat} {v x : Value} (h : c[i]? = some x) (hn : j ≠ i) : (c.setIfInBounds j v)[i]? = some x:=by
 rw [Array.getElem?_setIfInBounds_ne hn];exact h
theorem putc {c : Array Value} {i : Nat} {x : Value} (v : Value) (h : c[i]? = some x) : (c.setIfInBounds i v)[i]? = some v :=
 Array.getElem?_setIfInBounds_self_of_lt (Array.getElem?_eq_some_iff.1 h).1
theorem lt_of_some {α : Type} {l : List α} {i : Nat} {v : α} (h : l[i]? = some v) : i < l.length:=(List.getElem?_eq_some_iff.1 h).1
theorem rowset {c : Array Value} {l : List Value} {p : Nat} (h : ∀ i v,l[i]? = some v -> c[p + i]? = some v) (i : Nat) (v : Value) : ∀ j u,(l.set i v)[j]? = some u -> (c.setIfInBounds (p + i) v)[p + j]? = some u:=by
 intro j u hj
 by_cases e : i = j
 · subst e
   have hl : i < l.length:=by have:=lt_of_some hj;rwa [List.length_set] at this
   rw [List.getElem?_set_self hl] at hj
   have h1:=h i _ (List.getElem?_eq_getElem hl)
   rw [<- hj]
   exact putc v h1
 · rw [List.getElem?_set_ne e] at hj
   exact keepc (h j u hj) (by omega)
theorem rowskip {c : Array Value} {l : List Value} {p q : Nat} (h : ∀ i v,l[i]? = some v -> c[p + i]? = some v) (v : Value) (hq : q < p \/ p + l.length <= q) : ∀ j u,l[j]? = some u -> (c.setIfInBounds q v)[p + j]? = some u :=
 fun j u hj=>keepc (h j u hj) (by have:=lt_of_some hj;omega)
namespace AlAt
variable {w w' : World} {b o : Nat} {T : TypeId} {c c' : Array Value} {a : AV}
theorem lt (h : AlAt w b o T c a) : b < w.heap.size:=blk_lt h.obj
theorem fz (h : AlAt w b o T c a) (i : Nat) : w.frozen? ⟨b,i,none⟩ = false:=blk_frozen h.obj i
theorem of_block (h : AlAt w b o T c a) (e : w'.heap[b]? = w.heap[b]?) : AlAt w' b o T c a :=
 { h with obj:=e.trans h.obj }
theorem grown (h : AlAt w b o T c a) (g : Below w.heap.size w w') : AlAt w' b o T c a:=h.of_block (g.block _ h.lt)
theorem drew (h : AlAt w b o T c a) : AlAt w.drew b o T c a:=h.of_block rfl
theorem only {S : Nat -> Prop} (h : AlAt w b o T c a) (g : Only S w w') (hs : ¬ S b) : AlAt w' b o T c a:=h.of_block (g.block _ h.lt hs)
theorem tkAt (h : AlAt w b o T c a) : At w b (o + 1) T c a.tk:=⟨h.obj,h.tk⟩
theorem plAt (h : AlAt w b o T c a) : At w b (o + 5) T c a.pl:=⟨h.obj,h.pl⟩
theorem gvAt (h : AlAt w b o T c a) : At w b (o + 12) T c a.gv:=⟨h.obj,h.gv⟩
theorem c_nx (h : AlAt w b o T c a) : w.cell? ⟨b,o,none⟩ = some (.int .i64 a.nx):=blk_cell h.obj h.nx
theorem c_kd (h : AlAt w b o T c a) : w.cell? ⟨b,o + 15,none⟩ = some (.int .i64 a.kd):=blk_cell h.obj h.kd
theorem c_sz (h : AlAt w b o T c a) : w.cell? ⟨b,o + 16,none⟩ = some (.int .i64 a.sz):=blk_cell h.obj h.sz
theorem c_sl (h : AlAt w b o T c a) : w.cell? ⟨b,o + 17,none⟩ = some (.int .i64 a.sl):=blk_cell h.obj h.sl
theorem c_gn (h : AlAt w b o T c a) : w.cell? ⟨b,o + 18,none⟩ = some (.int .i64 a.gn):=blk_cell h.obj h.gn
theorem c_own (h : AlAt w b o T c a) : w.cell? ⟨b,o + 19,none⟩ = some (.bool a.own):=blk_cell h.obj h.own
theorem c_sa (h : AlAt w b o T c a) : w.cell? ⟨b,o + 20,none⟩ = some (.int .i64 a.sa):=blk_cell h.obj h.sa
theorem c_sc (h : AlAt w b o T c a) : w.cell? ⟨b,o + 21,none⟩ = some (.int .i64 a.sc):=blk_cell h.obj h.sc
theorem c_E (h : AlAt w b o T c a) : w.cell? ⟨b,o + 22,none⟩ = some (.int .i64 a.E):=blk_cell h.obj h.E
theorem c_H (h : AlAt w b o T c a) : w.cell? ⟨b,o + 23,none⟩ = some (.int .u64 a.H):=blk_cell h.obj h.H
theorem c_V (h : AlAt w b o T c a) : w.cell? ⟨b,o + 24,none⟩ = some (.int .i64 a.V):=blk_cell h.obj h.V
theorem c_St (h : AlAt w b o T c a) : w.cell? ⟨b,o + 25,none⟩ = some (.int .i64 a.St):=blk_cell h.obj h.St
theorem c_pl0 (h : AlAt w b o T c a) : ∃ v,w.cell? ⟨b,o + 5,none⟩ = some v:=⟨_,blk_cell (o:=o + 5 + 0) h.obj (h.pl 0 _ (List.getElem?_eq_getElem (by rw [h.lpl];decide)))⟩
theorem c_pl1 (h : AlAt w b o T c a) : ∃ v,w.cell? ⟨b,o + 6,none⟩ = some v:=⟨_,blk_cell (o:=o + 5 + 1) h.obj (h.pl 1 _ (List.getElem?_eq_getElem (by rw [h.lpl];decide)))⟩
theorem c_pl2 (h : AlAt w b o T c a) : ∃ v,w.cell? ⟨b,o + 7,none⟩ = some v:=⟨_,blk_cell (o:=o + 5 + 2) h.obj (h.pl 2 _ (List.getElem?_eq_getElem (by rw [h.lpl];decide)))⟩
theorem c_pl3 (h : AlAt w b o T c a) : ∃ v,w.cell? ⟨b,o + 8,none⟩ = some v:=⟨_,blk_cell (o:=o + 5 + 3) h.obj (h.pl 3 _ (List.getElem?_eq_getElem (by rw [h.lpl];decide)))⟩
theorem c_pl4 (h : AlAt w b o T c a) : ∃ v,w.cell? ⟨b,o + 9,none⟩ = some v:=⟨_,blk_cell (o:=o + 5 + 4) h.obj (h.pl 4 _ (List.getElem?_eq_getElem (by rw [h.lpl];decide)))⟩
theorem c_pl5 (h : AlAt w b o T c a) : ∃ v,w.cell? ⟨b,o + 10,none⟩ = some v:=⟨_,blk_cell (o:=o + 5 + 5) h.obj (h.pl 5 _ (List.getElem?_eq_getElem (by rw [h.lpl];decide)))⟩
theorem c_pl6 (h : AlAt w b o T c a) : ∃ v,w.cell? ⟨b,o + 11,none⟩ = some v:=⟨_,blk_cell (o:=o + 5 + 6) h.obj (h.pl 6 _ (List.getElem?_eq_getElem (by rw [h.lpl];decide)))⟩
theorem c_gv0 (h : AlAt w b o T c a) : ∃ v,w.cell? ⟨b,o + 12,none⟩ = some v:=⟨_,blk_cell (o:=o + 12 + 0) h.obj (h.gv 0 _ (List.getElem?_eq_getElem (by rw [h.lgv];decide)))⟩
theorem c_gv1 (h : AlAt w b o T c a) : ∃ v,w.cell? ⟨b,o + 13,none⟩ = some v:=⟨_,blk_cell (o:=o + 12 + 1) h.obj (h.gv 1 _ (List.getElem?_eq_getElem (by rw [h.lgv];decide)))⟩
theorem c_gv2 (h : AlAt w b o T c a) : ∃ v,w.cell? ⟨b,o + 14,none⟩ = some v:=⟨_,blk_cell (o:=o + 12 + 2) h.obj (h.gv 2 _ (List.getElem?_eq_getElem (by rw [h.lgv];decide)))⟩
theorem set_nx (h : AlAt w b o T c a) (x : Int) : AlAt (w.setCell ⟨b,o,none⟩ (.int .i64 x)) b o T (c.setIfInBounds (o) (.int .i64 x)) { a with nx:=x } :=
 ⟨blk_setCell _ _ _ _ _ _ h.obj,h.ltk,h.lpl,h.lgv,putc _ h.nx,rowskip h.tk _ (by have:=h.ltk;omega),rowskip h.pl _ (by have:=h.lpl;omega),rowskip h.gv _ (by have:=h.lgv;omega),keepc h.kd (by omega),keepc h.sz (by omega),keepc h.sl (by omega),keepc h.gn (by omega),keepc h.own (by omega),keepc h.sa (by omega),keepc h.sc (by omega),keepc h.E (by omega),keepc h.H (by omega),keepc h.V (by omega),keepc h.St (by omega)⟩
theorem set_kd (h : AlAt w b o T c a) (x : Int) : AlAt (w.setCell ⟨b,o + 15,none⟩ (.int .i64 x)) b o T (c.setIfInBounds (o + 15) (.int .i64 x)) { a with kd:=x } :=
 ⟨blk_setCell _ _ _ _ _ _ h.obj,h.ltk,h.lpl,h.lgv,keepc h.nx (by omega),rowskip h.tk _ (by have:=h.ltk;omega),rowskip h.pl _ (by have:=h.lpl;omega),rowskip h.gv _ (by have:=h.lgv;omega),putc _ h.kd,keepc h.sz (by omega),keepc h.sl (by omega),keepc h.gn (by omega),keepc h.own (by omega),keepc h.sa (by omega),keepc h.sc (by omega),keepc h.E (by omega),keepc h.H (by omega),keepc h.V (by omega),keepc h.St (by omega)⟩
theorem set_sl (h : AlAt w b o T c a) (x : Int) : AlAt (w.setCell ⟨b,o + 17,none⟩ (.int .i64 x)) b o T (c.setIfInBounds (o + 17) (.int .i64 x)) { a with sl:=x } :=
 ⟨blk_setCell _ _ _ _ _ _ h.obj,h.ltk,h.lpl,h.lgv,keepc h.nx (by omega),rowskip h.tk _ (by have:=h.ltk;omega),rowskip h.pl _ (by have:=h.lpl;omega),rowskip h.gv _ (by have:=h.lgv;omega),keepc h.kd (by omega),keepc h.sz (by omega),putc _ h.sl,keepc h.gn (by omega),keepc h.own (by omega),keepc h.sa (by omega),keepc h.sc (by omega),keepc h.E (by omega),keepc h.H (by omega),keepc h.V (by omega),keepc h.St (by omega)⟩
theorem set_gn (h : AlAt w b o T c a) (x : Int) : AlAt (w.setCell ⟨b,o + 18,none⟩ (.int .i64 x)) b o T (c.setIfInBounds (o + 18) (.int .i64 x)) { a with gn:=x } :=
 ⟨blk_setCell _ _ _ _ _ _ h.obj,h.ltk,h.lpl,h.lgv,keepc h.nx (by omega),rowskip h.tk _ (by have:=h.ltk;omega),rowskip h.pl _ (by have:=h.lpl;omega),rowskip h.gv _ (by have:=h.lgv;omega),keepc h.kd (by omega),keepc h.sz (by omega),keepc h.sl (by omega),putc _ h.gn,keepc h.own (by omega),keepc h.sa (by omega),keepc h.sc (by omega),keepc h.E (by omega),keepc h.H (by omega),keepc h.V (by omega),keepc h.St (by omega)⟩
theorem set_sa (h : AlAt w b o T c a) (x : Int) : AlAt (w.setCell ⟨b,o + 20,none⟩ (.int .i64 x)) b o T (c.setIfInBounds (o + 20) (.int .i64 x)) { a with sa:=x } :=
 ⟨blk_setCell _ _ _ _ _ _ h.obj,h.ltk,h.lpl,h.lgv,keepc h.nx (by omega),rowskip h.tk _ (by have:=h.ltk;omega),rowskip h.pl _ (by have:=h.lpl;omega),rowskip h.gv _ (by have:=h.lgv;omega),keepc h.kd (by omega),keepc h.sz (by omega),keepc h.sl (by omega),keepc h.gn (by omega),keepc h.own (by omega),putc _ h.sa,keepc h.sc (by omega),keepc h.E (by omega),keepc h.H (by omega),keepc h.V (by omega),keepc h.St (by omega)⟩
theorem set_sc (h : AlAt w b o T c a) (x : Int) : AlAt (w.setCell ⟨b,o + 21,none⟩ (.int .i64 x)) b o T (c.setIfInBounds (o + 21) (.int .i64 x)) { a with sc:=x } :=
 ⟨blk_setCell _ _ _ _ _ _ h.obj,h.ltk,h.lpl,h.lgv,keepc h.nx (by omega),rowskip h.tk _ (by have:=h.ltk;omega),rowskip h.pl _ (by have:=h.lpl;omega),rowskip h.gv _ (by have:=h.lgv;omega),keepc h.kd (by omega),keepc h.sz (by omega),keepc h.sl (by omega),keepc h.gn (by omega),keepc h.own (by omega),keepc h.sa (by omega),putc _ h.sc,keepc h.E (by omega),keepc h.H (by omega),keepc h.V (by omega),keepc h.St (by omega)⟩
theorem set_E (h : AlAt w b o T c a) (x : Int) : AlAt (w.setCell ⟨b,o + 22,none⟩ (.int .i64 x)) b o T (c.setIfInBounds (o + 22) (.int .i64 x)) { a with E:=x } :=
 ⟨blk_setCell _ _ _ _ _ _ h.obj,h.ltk,h.lpl,h.lgv,keepc h.nx (by omega),rowskip h.tk _ (by have:=h.ltk;omega),rowskip h.pl _ (by have:=h.lpl;omega),rowskip h.gv _ (by have:=h.lgv;omega),keepc h.kd (by omega),keepc h.sz (by omega),keepc h.sl (by omega),keepc h.gn (by omega),keepc h.own (by omega),keepc h.sa (by omega),keepc h.sc (by omega),putc _ h.E,keepc h.H (by omega),keepc h.V (by omega),keepc h.St (by omega)⟩
theorem set_H (h : AlAt w b o T c a) (x : Int) : AlAt (w.setCell ⟨b,o + 23,none⟩ (.int .u64 x)) b o T (c.setIfInBounds (o + 23) (.int .u64 x)) { a with H:=x } :=
 ⟨blk_setCell _ _ _ _ _ _ h.obj,h.ltk,h.lpl,h.lgv,keepc h.nx (by omega),rowskip h.tk _ (by have:=h.ltk;omega),rowskip h.pl _ (by have:=h.lpl;omega),rowskip h.gv _ (by have:=h.lgv;omega),keepc h.kd (by omega),keepc h.sz (by omega),keepc h.sl (by omega),keepc h.gn (by omega),keepc h.own (by omega),keepc h.sa (by omega),keepc h.sc (by omega),keepc h.E (by omega),putc _ h.H,keepc h.V (by omega),keepc h.St (by omega)⟩
theorem set_V (h : AlAt w b o T c a) (x : Int) : AlAt (w.setCell ⟨b,o + 24,none⟩ (.int .i64 x)) b o T (c.setIfInBounds (o + 24) (.int .i64 x)) { a with V:=x } :=
 ⟨blk_setCell _ _ _ _ _ _ h.obj,h.ltk,h.lpl,h.lgv,keepc h.nx (by omega),rowskip h.tk _ (by have:=h.ltk;omega),rowskip h.pl _ (by have:=h.lpl;omega),rowskip h.gv _ (by have:=h.lgv;omega),keepc h.kd (by omega),keepc h.sz (by omega),keepc h.sl (by omega),keepc h.gn (by omega),keepc h.own (by omega),keepc h.sa (by omega),keepc h.sc (by omega),keepc h.E (by omega),keepc h.H (by omega),putc _ h.V,keepc h.St (by omega)⟩
theorem set_St (h : AlAt w b o T c a) (x : Int) : AlAt (w.setCell ⟨b,o + 25,none⟩ (.int .i64 x)) b o T (c.setIfInBounds (o + 25) (.int .i64 x)) { a with St:=x } :=
 ⟨blk_setCell _ _ _ _ _ _ h.obj,h.ltk,h.lpl,h.lgv,keepc h.nx (by omega),rowskip h.tk _ (by have:=h.ltk;omega),rowskip h.pl _ (by have:=h.lpl;omega),rowskip h.gv _ (by have:=h.lgv;omega),keepc h.kd (by omega),keepc h.sz (by omega),keepc h.sl (by omega),keepc h.gn (by omega),keepc h.own (by omega),keepc h.sa (by omega),keepc h.sc (by omega),keepc h.E (by omega),keepc h.H (by omega),keepc h.V (by omega),putc _ h.St⟩
theorem set_pl0 (h : AlAt w b o T c a) (x : Value) : AlAt (w.setCell ⟨b,o + 5,none⟩ x) b o T (c.setIfInBounds (o + 5) x) { a with pl:=a.pl.set 0 x } :=
 ⟨blk_setCell _ _ _ _ _ _ h.obj,h.ltk,(by rw [List.length_set];exact h.lpl),h.lgv,keepc h.nx (by omega),rowskip h.tk _ (by have:=h.ltk;omega),rowset h.pl 0 x,rowskip h.gv _ (by have:=h.lgv;omega),keepc h.kd (by omega),keepc h.sz (by omega),keepc h.sl (by omega),keepc h.gn (by omega),keepc h.own (by omega),keepc h.sa (by omega),keepc h.sc (by omega),keepc h.E (by omega),keepc h.H (by omega),keepc h.V (by omega),keepc h.St (by omega)⟩
theorem set_pl1 (h : AlAt w b o T c a) (x : Value) : AlAt (w.setCell ⟨b,o + 6,none⟩ x) b o T (c.setIfInBounds (o + 6) x) { a with pl:=a.pl.set 1 x } :=
 ⟨blk_setCell _ _ _ _ _ _ h.obj,h.ltk,(by rw [List.length_set];exact h.lpl),h.lgv,keepc h.nx (by omega),rowskip h.tk _ (by have:=h.ltk;omega),rowset h.pl 1 x,rowskip h.gv _ (by have:=h.lgv;omega),keepc h.kd (by omega),keepc h.sz (by omega),keepc h.sl (by omega),keepc h.gn (by omega),keepc h.own (by omega),keepc h.sa (by omega),keepc h.sc (by omega),keepc h.E (by omega),keepc h.H (by omega),keepc h.V (by omega),keepc h.St (by omega)⟩
theorem set_pl2 (h : AlAt w b o T c a) (x : Value) : AlAt (w.setCell ⟨b,o + 7,none⟩ x) b o T (c.setIfInBounds (o + 7) x) { a with pl:=a.pl.set 2 x } :=
 ⟨blk_setCell _ _ _ _ _ _ h.obj,h.ltk,(by rw [List.length_set];exact h.lpl),h.lgv,keepc h.nx (by omega),rowskip h.tk _ (by have:=h.ltk;omega),rowset h.pl 2 x,rowskip h.gv _ (by have:=h.lgv;omega),keepc h.kd (by omega),keepc h.sz (by omega),keepc h.sl (by omega),keepc h.gn (by omega),keepc h.own (by omega),keepc h.sa (by omega),keepc h.sc (by omega),keepc h.E (by omega),keepc h.H (by omega),keepc h.V (by omega),keepc h.St (by omega)⟩
theorem set_pl3 (h : AlAt w b o T c a) (x : Value) : AlAt (w.setCell ⟨b,o + 8,none⟩ x) b o T (c.setIfInBounds (o + 8) x) { a with pl:=a.pl.set 3 x } :=
 ⟨blk_setCell _ _ _ _ _ _ h.obj,h.ltk,(by rw [List.length_set];exact h.lpl),h.lgv,keepc h.nx (by omega),rowskip h.tk _ (by have:=h.ltk;omega),rowset h.pl 3 x,rowskip h.gv _ (by have:=h.lgv;omega),keepc h.kd (by omega),keepc h.sz (by omega),keepc h.sl (by omega),keepc h.gn (by omega),keepc h.own (by omega),keepc h.sa (by omega),keepc h.sc (by omega),keepc h.E (by omega),keepc h.H (by omega),keepc h.V (by omega),keepc h.St (by omega)⟩
theorem set_pl4 (h : AlAt w b o T c a) (x : Value) : AlAt (w.setCell ⟨b,o + 9,none⟩ x) b o T (c.setIfInBounds (o + 9) x) { a with pl:=a.pl.set 4 x } :=
 ⟨blk_setCell _ _ _ _ _ _ h.obj,h.ltk,(by rw [List.length_set];exact h.lpl),h.lgv,keepc h.nx (by omega),rowskip h.tk _ (by have:=h.ltk;omega),rowset h.pl 4 x,rowskip h.gv _ (by have:=h.lgv;omega),keepc h.kd (by omega),keepc h.sz (by omega),keepc h.sl (by omega),keepc h.gn (by omega),keepc h.own (by omega),keepc h.sa (by omega),keepc h.sc (by omega),keepc h.E (by omega),keepc h.H (by omega),keepc h.V (by omega),keepc h.St (by omega)⟩
theorem set_pl5 (h : AlAt w b o T c a) (x : Value) : AlAt (w.setCell ⟨b,o + 10,none⟩ x) b o T (c.setIfInBounds (o + 10) x) { a with pl:=a.pl.set 5 x } :=
 ⟨blk_setCell _ _ _ _ _ _ h.obj,h.ltk,(by rw [List.length_set];exact h.lpl),h.lgv,keepc h.nx (by omega),rowskip h.tk _ (by have:=h.ltk;omega),rowset h.pl 5 x,rowskip h.gv _ (by have:=h.lgv;omega),keepc h.kd (by omega),keepc h.sz (by omega),keepc h.sl (by omega),keepc h.gn (by omega),keepc h.own (by omega),keepc h.sa (by omega),keepc h.sc (by omega),keepc h.E (by omega),keepc h.H (by omega),keepc h.V (by omega),keepc h.St (by omega)⟩
theorem set_pl6 (h : AlAt w b o T c a) (x : Value) : AlAt (w.setCell ⟨b,o + 11,none⟩ x) b o T (c.setIfInBounds (o + 11) x) { a with pl:=a.pl.set 6 x } :=
 ⟨blk_setCell _ _ _ _ _ _ h.obj,h.ltk,(by rw [List.length_set];exact h.lpl),h.lgv,keepc h.nx (by omega),rowskip h.tk _ (by have:=h.ltk;omega),rowset h.pl 6 x,rowskip h.gv _ (by have:=h.lgv;omega),keepc h.kd (by omega),keepc h.sz (by omega),keepc h.sl (by omega),keepc h.gn (by omega),keepc h.own (by omega),keepc h.sa (by omega),keepc h.sc (by omega),keepc h.E (by omega),keepc h.H (by omega),keepc h.V (by omega),keepc h.St (by omega)⟩
theorem set_gv0 (h : AlAt w b o T c a) (x : Value) : AlAt (w.setCell ⟨b,o + 12,none⟩ x) b o T (c.setIfInBounds (o + 12) x) { a with gv:=a.gv.set 0 x } :=
 ⟨blk_setCell _ _ _ _ _ _ h.obj,h.ltk,h.lpl,(by rw [List.length_set];exact h.lgv),keepc h.nx (by omega),rowskip h.tk _ (by have:=h.ltk;omega),rowskip h.pl _ (by have:=h.lpl;omega),rowset h.gv 0 x,keepc h.kd (by omega),keepc h.sz (by omega),keepc h.sl (by omega),keepc h.gn (by omega),keepc h.own (by omega),keepc h.sa (by omega),keepc h.sc (by omega),keepc h.E (by omega),keepc h.H (by omega),keepc h.V (by omega),keepc h.St (by omega)⟩
theorem set_gv1 (h : AlAt w b o T c a) (x : Value) : AlAt (w.setCell ⟨b,o + 13,none⟩ x) b o T (c.setIfInBounds (o + 13) x) { a with gv:=a.gv.set 1 x } :=
 ⟨blk_setCell _ _ _ _ _ _ h.obj,h.ltk,h.lpl,(by rw [List.length_set];exact h.lgv),keepc h.nx (by omega),rowskip h.tk _ (by have:=h.ltk;omega),rowskip h.pl _ (by have:=h.lpl;omega),rowset h.gv 1 x,keepc h.kd (by omega),keepc h.sz (by omega),keepc h.sl (by omega),keepc h.gn (by omega),keepc h.own (by omega),keepc h.sa (by omega),keepc h.sc (by omega),keepc h.E (by omega),keepc h.H (by omega),keepc h.V (by omega),keepc h.St (by omega)⟩
theorem set_gv2 (h : AlAt w b o T c a) (x : Value) : AlAt (w.setCell ⟨b,o + 14,none⟩ x) b o T (c.setIfInBounds (o + 14) x) { a with gv:=a.gv.set 2 x } :=
 ⟨blk_setCell _ _ _ _ _ _ h.obj,h.ltk,h.lpl,(by rw [List.length_set];exact h.lgv),keepc h.nx (by omega),rowskip h.tk _ (by have:=h.ltk;omega),rowskip h.pl _ (by have:=h.lpl;omega),rowset h.gv 2 x,keepc h.kd (by omega),keepc h.sz (by omega),keepc h.sl (by omega),keepc h.gn (by omega),keepc h.own (by omega),keepc h.sa (by omega),keepc h.sc (by omega),keepc h.E (by omega),keepc h.H (by omega),keepc h.V (by omega),keepc h.St (by omega)⟩
theorem step_tk (h : AlAt w b o T c a) {l : List Value} (hA : At w' b (o + 1) T c' l) (hl : l.length = 4) (sm : Same (o + 1) 4 c c') : AlAt w' b o T c' { a with tk:=l } :=
 ⟨hA.obj,hl,h.lpl,h.lgv,(sm.2 _ (by omega)).trans h.nx,hA.is,fun i v hv=>(sm.2 _ (by have:=lt_of_some (l:=a.pl) hv;have:=h.lpl;omega)).trans (h.pl i v hv),fun i v hv=>(sm.2 _ (by have:=lt_of_some (l:=a.gv) hv;have:=h.lgv;omega)).trans (h.gv i v hv),(sm.2 _ (by omega)).trans h.kd,(sm.2 _ (by omega)).trans h.sz,(sm.2 _ (by omega)).trans h.sl,(sm.2 _ (by omega)).trans h.gn,(sm.2 _ (by omega)).trans h.own,(sm.2 _ (by omega)).trans h.sa,(sm.2 _ (by omega)).trans h.sc,(sm.2 _ (by omega)).trans h.E,(sm.2 _ (by omega)).trans h.H,(sm.2 _ (by omega)).trans h.V,(sm.2 _ (by omega)).trans h.St⟩
theorem step_pl (h : AlAt w b o T c a) {l : List Value} (hA : At w' b (o + 5) T c' l) (hl : l.length = 7) (sm : Same (o + 5) 7 c c') : AlAt w' b o T c' { a with pl:=l } :=
 ⟨hA.obj,h.ltk,hl,h.lgv,(sm.2 _ (by omega)).trans h.nx,fun i v hv=>(sm.2 _ (by have:=lt_of_some (l:=a.tk) hv;have:=h.ltk;omega)).trans (h.tk i v hv),hA.is,fun i v hv=>(sm.2 _ (by have:=lt_of_some (l:=a.gv) hv;have:=h.lgv;omega)).trans (h.gv i v hv),(sm.2 _ (by omega)).trans h.kd,(sm.2 _ (by omega)).trans h.sz,(sm.2 _ (by omega)).trans h.sl,(sm.2 _ (by omega)).trans h.gn,(sm.2 _ (by omega)).trans h.own,(sm.2 _ (by omega)).trans h.sa,(sm.2 _ (by omega)).trans h.sc,(sm.2 _ (by omega)).trans h.E,(sm.2 _ (by omega)).trans h.H,(sm.2 _ (by omega)).trans h.V,(sm.2 _ (by omega)).trans h.St⟩
theorem step_gv (h : AlAt w b o T c a) {l : List Value} (hA : At w' b (o + 12) T c' l) (hl : l.length = 3) (sm : Same (o + 12) 3 c c') : AlAt w' b o T c' { a with gv:=l } :=
 ⟨hA.obj,h.ltk,h.lpl,hl,(sm.2 _ (by omega)).trans h.nx,fun i v hv=>(sm.2 _ (by have:=lt_of_some (l:=a.tk) hv;have:=h.ltk;omega)).trans (h.tk i v hv),fun i v hv=>(sm.2 _ (by have:=lt_of_some (l:=a.pl) hv;have:=h.lpl;omega)).trans (h.pl i v hv),hA.is,(sm.2 _ (by omega)).trans h.kd,(sm.2 _ (by omega)).trans h.sz,(sm.2 _ (by omega)).trans h.sl,(sm.2 _ (by omega)).trans h.gn,(sm.2 _ (by omega)).trans h.own,(sm.2 _ (by omega)).trans h.sa,(sm.2 _ (by omega)).trans h.sc,(sm.2 _ (by omega)).trans h.E,(sm.2 _ (by omega)).trans h.H,(sm.2 _ (by omega)).trans h.V,(sm.2 _ (by omega)).trans h.St⟩
end AlAt
theorem Same.wide {o o' k k' : Nat} {c c' : Array Value} (h : Same o' k' c c') (h1 : o <= o') (h2 : o' + k' <= o + k) : Same o k c c':=⟨h.1,fun i hi=>h.2 i (by omega)⟩
theorem len7 {l : List Value} (h : l.length = 7) : ∃ a b c d e f g,l = [a,b,c,d,e,f,g]:=by
 match l,h with
 | [a,b,c,d,e,f,g],_=>exact ⟨a,b,c,d,e,f,g,rfl⟩
theorem len3 {l : List Value} (h : l.length = 3) : ∃ a b c,l = [a,b,c]:=by
 match l,h with
 | [a,b,c],_=>exact ⟨a,b,c,rfl⟩
theorem Tk.cells_len {τ : Tk} {l : List Value} (h : τ.cells l) : l.length = 4:=by
 cases τ with
 | idle=>obtain ⟨_,_,_,rfl⟩:=h;rfl
 | saw=>obtain ⟨_,rfl⟩:=h;rfl
 | lnk=>have h' : l = _:=h;subst h';rfl
 | won=>obtain ⟨_,_,rfl⟩:=h;rfl
 | none=>obtain ⟨_,_,_,rfl⟩:=h;rfl
theorem Gv.cells_len {x : Nat} {γ : Gv} {l : List Value} (h : γ.cells x l) : l.length = 3:=by
 cases γ with
 | idle=>obtain ⟨_,rfl⟩:=h;rfl
 | saw=>have h' : l = _:=h;subst h';rfl
 | lnk=>have h' : l = _:=h;subst h';rfl
 | over=>obtain ⟨_,rfl⟩:=h;rfl
theorem Pl.cells_len {κ : Nat} {τ : Pl} {l : List Value} (h : τ.cells κ l) : l.length = 7:=by
 cases τ with
 | see=>obtain ⟨_,_,_,_,_,rfl⟩:=h;rfl
 | ask=>obtain ⟨_,_,_,rfl⟩:=h;rfl
 | grow=>obtain ⟨_,_,_,rfl⟩:=h;rfl
 | look=>obtain ⟨_,_,_,rfl⟩:=h;rfl
 | take=>obtain ⟨_,_,rfl⟩:=h;rfl
 | opn=>obtain ⟨_,_,rfl⟩:=h;rfl
 | fre=>obtain ⟨_,_,rfl⟩:=h;rfl
 | won=>obtain ⟨_,_,_,rfl⟩:=h;rfl
 | none=>obtain ⟨_,_,_,_,_,rfl⟩:=h;rfl
end Go.Proofs.YtlolfmoolgenpaaGreat

namespace Go.Proofs.YtlolfmoolgenpaaGreat
open Go.RowKit
set_option maxRecDepth 20000
def Acts (L : Loc) (b o : Nat) (T : TypeId) (cs : Array Value) (w w' : World) (X : Mm -> AV -> Prop) : Prop :=
 ∃ s' cs' a',MemAt w' L s' /\ Only (L.and b) w w' /\ AlAt w' b o T cs' a' /\ Same o 26 cs cs' /\ X s' a'
def tkTurn (c : Nat) (lk : Nat -> Nat) (F : List Nat) : Tk -> Nat × List Nat × Tk
 | .idle=>match F with | []=>(c,[],.none) | x :: F=>(c,x :: F,.saw x c)
 | .saw h c'=>(c,F,.lnk h c' (lk h))
 | .lnk h c' _=>if c' = c then (c + 1,F.tail,.won h) else (c,F,.idle)
 | τ=>(c,F,τ)
theorem tkTurn_of {n c : Nat} {lk : Nat -> Nat} {F : List Nat} {τ : Tk} {c' : Nat} {F' : List Nat} {τ' : Tk} (h : TkStep n c lk F τ c' F' τ') : tkTurn c lk F τ = (c',F',τ'):=by
 cases h with
 | none=>rfl
 | saw=>rfl
 | link=>rfl
 | took=>simp [tkTurn]
 | vain _ _ _ _ hc=>simp [tkTurn,Nat.ne_of_lt hc]
def gvTurn (c : Nat) (lk : Nat -> Nat) (F : List Nat) (x : Nat) : Gv -> Nat × (Nat -> Nat) × List Nat × Gv
 | .idle=>(c,lk,F,.saw (hd F) c)
 | .saw h c'=>(c,upd lk x h,F,.lnk h c')
 | .lnk _ c'=>if c' = c then (c + 1,lk,x :: F,.over) else (c,lk,F,.idle)
 | .over=>(c,lk,F,.over)
theorem gvTurn_of {n c x : Nat} {lk : Nat -> Nat} {F : List Nat} {γ : Gv} {c' : Nat} {lk' : Nat -> Nat} {F' : List Nat} {γ' : Gv} (h : GvStep n c x lk F γ c' lk' F' γ') : gvTurn c lk F x γ = (c',lk',F',γ'):=by
 cases h with
 | load=>rfl
 | lay=>rfl
 | gave=>simp [gvTurn]
 | vain _ _ hc=>simp [gvTurn,Nat.ne_of_lt hc]
section
variable {w : World} {L : Loc} {s : Mm} {b o : Nat} {T : TypeId} {cs : Array Value} {t n σ c : Nat} {lk : Nat -> Nat} {F : List Nat}
theorem take_turn (h : MemAt w L s) (hb : ¬ L.has b) (hp : Pile t n s σ c lk F) (hσ : σ < 1000000) (ht8 : t <= 8) (τ : Tk) (hi : TkAt w b o T cs τ) (hg : τ.good n c lk F) (ho : τ.over = false) (c2 c3 c4 c5 c6 who : Int) (c' : Nat) (F' : List Nat) (τ' : Tk) (ht : tkTurn c lk F τ = (c',F',τ')) (d : Bool) (hd : τ'.over = d) :
 Calls Tryz.prog 80 #[.pointer (some ⟨b,o,none⟩),.agg #[.int .i64 t,.int .i64 n,.int .i64 c2,.int .i64 c3,.int .i64 c4,.int .i64 c5,.int .i64 c6,.pointer (some ⟨L.p,0,none⟩),.int .i64 who]] w fun e w'=>e = .returned (.bool d) /\ ∃ s' cs',Took w L s b o T cs t n σ c lk F who τ w' s' cs' c' F' τ':=by
 refine (take_step h hb hp hσ ht8 τ hi hg ho c2 c3 c4 c5 c6 who).mono ?_
 rintro e w' ⟨s',cs',c1,F1,τ1,rfl,P⟩
 have e1:=tkTurn_of P.turn
 rw [ht] at e1
 simp only [Prod.mk.injEq] at e1
 obtain ⟨rfl,rfl,rfl⟩:=e1
 exact ⟨by rw [hd],s',cs',P⟩
theorem give_turn (h : MemAt w L s) (hb : ¬ L.has b) (hp : Pile t n s σ c lk F) (hσ : σ < 1000000) (ht8 : t <= 8) {x : Nat} (hx : x < n) (hF : x ∉ F) (γ : Gv) (hi : GvAt w b o T cs x γ) (hg : γ.good n c lk F x) (ho : γ.done = false) (c2 c3 c4 c5 c6 who : Int) (c' : Nat) (lk' : Nat -> Nat) (F' : List Nat) (γ' : Gv) (ht : gvTurn c lk F x γ = (c',lk',F',γ')) (d : Bool) (hd : γ'.done = d) :
 Calls Tryz.prog 91 #[.pointer (some ⟨b,o,none⟩),.agg #[.int .i64 t,.int .i64 n,.int .i64 c2,.int .i64 c3,.int .i64 c4,.int .i64 c5,.int .i64 c6,.pointer (some ⟨L.p,0,none⟩),.int .i64 who]] w fun e w'=>e = .returned (.bool d) /\ ∃ s' cs',Gave w L s b o T cs t n σ c lk F x who γ w' s' cs' c' lk' F' γ':=by
 refine (give_step h hb hp hσ ht8 hx hF γ hi hg ho c2 c3 c4 c5 c6 who).mono ?_
 rintro e w' ⟨s',cs',c1,lk1,F1,γ1,rfl,P⟩
 have e1:=gvTurn_of P.turn
 rw [ht] at e1
 simp only [Prod.mk.injEq] at e1
 obtain ⟨rfl,rfl,rfl,rfl⟩:=e1
 exact ⟨by rw [hd],s',cs',P⟩
end
theorem aclass_any {w : World} {b o : Nat} (z K : Int) (hK : classOf z = K) (hz : w.cell? ⟨b,o + 16,none⟩ = some (.int .i64 z)) :
 Calls Tryz.prog 71 #[.pointer (some ⟨b,o,none⟩)] w fun e w'=>e = .returned (.int .i64 K) /\ w' = w:=by
 subst hK
 go_enter Tryz.func71,Tryz.ntmps71
 go_wp2_with (go_at_call 13;refine (lclass_any _ _).mono ?_;rintro e w' ⟨rfl,rfl⟩)
 go_ret
 exact ⟨rfl,rfl⟩
theorem arefuse {w : World} {L : Loc} {s : Mm} {b o : Nat} {T : TypeId} {cs : Array Value} {a : AV} {t n k m : Nat} {g p r : Int} (h : MemAt w L s) (hb : ¬ L.has b) (hi : AlAt w b o T cs a) (who : Int) (why : Int) (x : Nat) (hx : s.steps = x) :
 Calls Tryz.prog 79 #[.pointer (some ⟨b,o,none⟩),.agg #[.int .i64 t,.int .i64 n,.int .i64 k,.int .i64 m,.int .i64 g,.int .i64 p,.int .i64 r,.pointer (some ⟨L.p,0,none⟩),.int .i64 who],.int .i64 why] w fun e w'=>e = .returned (.tuple #[]) /\ Acts L b o T cs w w' (fun s' a'=>s' = s /\ a' = { a with nx:=8,E:=why,H:=0,V:=0,St:=x }):=by
 have HS : Hid (s.steps = x):=hx
 clear hx
 go_enter Tryz.func79,Tryz.ntmps79
 go_wp2_with (go_at_call 17;refine (now_any (h.alloc _) _ _ _ _ _ _ _ _ x HS.out).mono ?_;rintro e w1 ⟨rfl,b1⟩;have i1:=(hi.grown (grow_alloc (Below.refl _ _) (.cells #[.int .i64 t,.int .i64 n,.int .i64 k,.int .i64 m,.int .i64 g,.int .i64 p,.int .i64 r,.pointer (some ⟨L.p,0,none⟩),.int .i64 who] 27))).grown b1;have m1:=(h.alloc (.cells #[.int .i64 t,.int .i64 n,.int .i64 k,.int .i64 m,.int .i64 g,.int .i64 p,.int .i64 r,.pointer (some ⟨L.p,0,none⟩),.int .i64 who] 27)).below b1;have k1:=i1.c_E;have k2:=i1.c_H;have k3:=i1.c_V;have k4:=i1.c_St;have k5:=i1.c_nx;have kf:=i1.fz)
 go_end0
 exact ⟨rfl,s,_,_,((((m1.setIn hb _ _).setIn hb _ _).setIn hb _ _).setIn hb _ _).setIn hb _ _,(((((((Only.refl _ _).alloc _).trans (Only.ofGrown b1)).set _ _).set _ _).set _ _).set _ _).set _ _,((((i1.set_E why).set_H 0).set_V 0).set_St x).set_nx 8,((((Same.refl.set (by omega) _).set (by omega) _).set (by omega) _).set (by omega) _).set (by omega) _,rfl,rfl⟩
theorem atake_bad {w : World} {L : Loc} {s : Mm} {b o : Nat} {T : TypeId} {cs : Array Value} {a : AV} {t n k m : Nat} {g p r : Int} (h : MemAt w L s) (hb : ¬ L.has b) (hi : AlAt w b o T cs a) (who : Int) (hK : classOf a.sz < 0) (x : Nat) (hx : s.steps = x) :
 Calls Tryz.prog 72 #[.pointer (some ⟨b,o,none⟩),.agg #[.int .i64 t,.int .i64 n,.int .i64 k,.int .i64 m,.int .i64 g,.int .i64 p,.int .i64 r,.pointer (some ⟨L.p,0,none⟩),.int .i64 who]] w fun e w'=>e = .returned (.tuple #[]) /\ Acts L b o T cs w w' (fun s' a'=>s' = s /\ a' = { a with nx:=8,E:=5,H:=0,V:=0,St:=x }):=by
 obtain ⟨K,hK'⟩ : ∃ K,classOf a.sz = K:=⟨_,rfl⟩
 rw [hK'] at hK
 have HK : Hid (classOf a.sz = K):=hK'
 clear hK'
 have i1:=hi.grown (grow_alloc (Below.refl _ _) (.cells #[.int .i64 t,.int .i64 n,.int .i64 k,.int .i64 m,.int .i64 g,.int .i64 p,.int .i64 r,.pointer (some ⟨L.p,0,none⟩),.int .i64 who] 27))
 go_enter Tryz.func72,Tryz.ntmps72
 go_wp2_with (first
  | (go_at_call 71;refine (aclass_any _ _ HK.out i1.c_sz).mono ?_;rintro e w1 ⟨rfl,rfl⟩)
  | (go_at_call 79;refine (arefuse (h.alloc _) hb i1 _ _ x hx).mono ?_;rintro e w1 ⟨rfl,s2,cs2,a2,m2,o2,i2,q2,rfl,rfl⟩))
 refine bodyPost_ret (results_none rfl _ _ _) rfl ?_
 exact ⟨rfl,_,cs2,_,m2,((Only.refl _ _).alloc _).trans o2,i2,q2,rfl,rfl⟩
theorem atake_on {w : World} {L : Loc} {s : Mm} {b o : Nat} {T : TypeId} {cs : Array Value} {a : AV} {t n k m : Nat} {g p r : Int} (h : MemAt w L s) (hb : ¬ L.has b) (hi : AlAt w b o T cs a) (who : Int) {σ c : Nat} {lk : Nat -> Nat} {F : List Nat} (hp : Pile t n s σ c lk F) (hσ : σ < 1000000) (ht8 : t <= 8) (K : Nat) (hK : classOf a.sz = K) (τ : Tk) (htk : τ.cells a.tk) (hg : τ.good n c lk F) (ho : τ.over = false) (c' : Nat) (F' : List Nat) (τ' : Tk) (ht : tkTurn c lk F τ = (c',F',τ')) (hd : τ'.over = false) :
 Calls Tryz.prog 72 #[.pointer (some ⟨b,o,none⟩),.agg #[.int .i64 t,.int .i64 n,.int .i64 k,.int .i64 m,.int .i64 g,.int .i64 p,.int .i64 r,.pointer (some ⟨L.p,0,none⟩),.int .i64 who]] w fun e w'=>e = .returned (.tuple #[]) /\ Acts L b o T cs w w' (fun s' a'=>Pile t n s' (σ + 1) c' lk F' /\ (∃ v,s' = (s.by who).step (τ.at t) v) /\ τ'.good n c' lk F' /\ ∃ l,τ'.cells l /\ a' = { a with tk:=l }):=by
 have hbv : ¬ L.has w.heap.size:=fun hh=>by have:=h.lt _ hh;omega
 have hbb : ¬ w.heap.size = b:=fun hh=>by have:=hi.lt;omega
 have HK : Hid (classOf a.sz = K):=hK
 have HT : Hid (tkTurn c lk F τ = (c',F',τ')):=ht
 have HO : Hid (τ.over = false):=ho
 clear hK ht ho
 have j1:=hi.grown (grow_alloc (Below.refl _ _) (.cells #[.int .i64 t,.int .i64 n,.int .i64 k,.int .i64 m,.int .i64 g,.int .i64 p,.int .i64 r,.pointer (some ⟨L.p,0,none⟩),.int .i64 who] 27))
 go_enter Tryz.func72,Tryz.ntmps72
 go_wp2_with (go_at_call 71;refine (aclass_any _ _ HK.out j1.c_sz).mono ?_;rintro e w1 ⟨rfl,rfl⟩)
 clear j1
 refine wp_over (fun W=>MemAt W L s /\ AlAt W b o T (cs) a /\ BoxV W w.heap.size t n k m g p r L.p who /\ Only (L.and b) w W) ⟨h.alloc _,hi.grown (grow_alloc (Below.refl _ _) _),BoxV.new,(Only.refl _ _).alloc _⟩ ?_
 rintro W ⟨m1,i1,v1,o1⟩
 refine wp_region_rely_tail Grown 4 [.val (.pointer (some ⟨b,o,none⟩)),.val (.pointer (some ⟨b,o,none⟩)),.val (.pointer (some ⟨b,o + 1,none⟩)),.val (.agg #[.int .i64 t,.int .i64 n,.int .i64 k,.int .i64 m,.int .i64 g,.int .i64 p,.int .i64 r,.pointer (some ⟨L.p,0,none⟩),.int .i64 who])] (by kernel_rfl) Grown.refl Grown.trans (by decide) (by kernel_rfl) (by kernel_rfl) (by kernel_rfl) (by kernel_rfl) (by kernel_rfl) (by kernel_rfl) ?_
 simp only [List.take_succ_cons,List.take_zero,relyAll,Act.put,List.setIfInBounds_toArray,List.set_cons_zero,List.set_cons_succ]
 refine ⟨?_,?_,?_,?_,?_⟩
 · intros;apply ol;go_simp;exact gl
 · intros;apply ol;go_simp;exact gl
 · intros;apply ol;go_simp;exact gl
 · intro w' hg _
   apply ol
   obtain ⟨y0,y1,y2,y3,y4,y5,y6,y7,y8⟩:=(v1.grown ((Below.refl _ _).drew)).grown hg
   go_simp
   exact gl
 intro w5 hg _
 have m5:=m1.drew.below hg
 have i5:=i1.drew.grown hg
 have v5:=(v1.grown ((Below.refl _ _).drew)).grown hg
 have o5 : Only (L.and b) w w5:=o1.drew.trans (Only.ofGrown hg)
 clear hg m1 i1 v1 o1
 go_wp2_with (first
  | (go_at_call 80;refine (take_turn m5 hb hp hσ ht8 τ ⟨_,i5.tkAt,htk⟩ hg HO.out _ _ _ _ _ _ c' F' τ' HT.out false hd).mono ?_;rintro e w6 ⟨rfl,s6,cs6,P⟩;obtain ⟨l6,a6,q6⟩:=P.a;have i6:=i5.step_tk a6 (Tk.cells_len q6) P.same;have v6:=v5.only P.only (fun hh=>hh.elim hbv hbb);have o6:=o5.trans P.only;have s6' : Same o 26 cs cs6:=P.same.wide (by omega) (by omega);obtain ⟨z0,z1,z2,z3,z4,z5,z6,z7,z8⟩:=id v6;have k0:=i6.c_nx;have k1:=i6.c_sl;have kf:=i6.fz))
 refine bodyPost_ret (results_none rfl _ _ _) rfl ?_
 exact ⟨rfl,s6,cs6,_,P.m,o6,i6,s6',P.p,P.st,P.good,l6,q6,rfl⟩
theorem atake_won {w : World} {L : Loc} {s : Mm} {b o : Nat} {T : TypeId} {cs : Array Value} {a : AV} {t n k m : Nat} {g p r : Int} (h : MemAt w L s) (hb : ¬ L.has b) (hi : AlAt w b o T cs a) (who : Int) {σ c : Nat} {lk : Nat -> Nat} {F : List Nat} (hp : Pile t n s σ c lk F) (hσ : σ < 1000000) (ht8 : t <= 8) (K : Nat) (hK : classOf a.sz = K) (τ : Tk) (htk : τ.cells a.tk) (hg : τ.good n c lk F) (ho : τ.over = false) (c' : Nat) (F' : List Nat) (τ' : Tk) (ht : tkTurn c lk F τ = (c',F',τ')) (x : Nat) (hd : τ' = .won x) :
 Calls Tryz.prog 72 #[.pointer (some ⟨b,o,none⟩),.agg #[.int .i64 t,.int .i64 n,.int .i64 k,.int .i64 m,.int .i64 g,.int .i64 p,.int .i64 r,.pointer (some ⟨L.p,0,none⟩),.int .i64 who]] w fun e w'=>e = .returned (.tuple #[]) /\ Acts L b o T cs w w' (fun s' a'=>Pile t n s' (σ + 1) c' lk F' /\ (∃ v,s' = (s.by who).step (τ.at t) v) /\ x < n /\ ∃ l,l.length = 4 /\ a' = { a with tk:=l,sl:=x,nx:=1 }):=by
 have hbv : ¬ L.has w.heap.size:=fun hh=>by have:=h.lt _ hh;omega
 have hbb : ¬ w.heap.size = b:=fun hh=>by have:=hi.lt;omega
 have HK : Hid (classOf a.sz = K):=hK
 have HT : Hid (tkTurn c lk F τ = (c',F',τ')):=ht
 have HO : Hid (τ.over = false):=ho
 clear hK ht ho
 have j1:=hi.grown (grow_alloc (Below.refl _ _) (.cells #[.int .i64 t,.int .i64 n,.int .i64 k,.int .i64 m,.int .i64 g,.int .i64 p,.int .i64 r,.pointer (some ⟨L.p,0,none⟩),.int .i64 who] 27))
 go_enter Tryz.func72,Tryz.ntmps72
 go_wp2_with (go_at_call 71;refine (aclass_any _ _ HK.out j1.c_sz).mono ?_;rintro e w1 ⟨rfl,rfl⟩)
 clear j1
 refine wp_over (fun W=>MemAt W L s /\ AlAt W b o T (cs) a /\ BoxV W w.heap.size t n k m g p r L.p who /\ Only (L.and b) w W) ⟨h.alloc _,hi.grown (grow_alloc (Below.refl _ _) _),BoxV.new,(Only.refl _ _).alloc _⟩ ?_
 rintro W ⟨m1,i1,v1,o1⟩
 refine wp_region_rely_tail Grown 4 [.val (.pointer (some ⟨b,o,none⟩)),.val (.pointer (some ⟨b,o,none⟩)),.val (.pointer (some ⟨b,o + 1,none⟩)),.val (.agg #[.int .i64 t,.int .i64 n,.int .i64 k,.int .i64 m,.int .i64 g,.int .i64 p,.int .i64 r,.pointer (some ⟨L.p,0,none⟩),.int .i64 who])] (by kernel_rfl) Grown.refl Grown.trans (by decide) (by kernel_rfl) (by kernel_rfl) (by kernel_rfl) (by kernel_rfl) (by kernel_rfl) (by kernel_rfl) ?_
 simp only [List.take_succ_cons,List.take_zero,relyAll,Act.put,List.setIfInBounds_toArray,List.set_cons_zero,List.set_cons_succ]
 refine ⟨?_,?_,?_,?_,?_⟩
 · intros;apply ol;go_simp;exact gl
 · intros;apply ol;go_simp;exact gl
 · intros;apply ol;go_simp;exact gl
 · intro w' hg _
   apply ol
   obtain ⟨y0,y1,y2,y3,y4,y5,y6,y7,y8⟩:=(v1.grown ((Below.refl _ _).drew)).grown hg
   go_simp
   exact gl
 intro w5 hg _
 have m5:=m1.drew.below hg
 have i5:=i1.drew.grown hg
 have v5:=(v1.grown ((Below.refl _ _).drew)).grown hg
 have o5 : Only (L.and b) w w5:=o1.drew.trans (Only.ofGrown hg)
 clear hg m1 i1 v1 o1
 go_wp2_with (first
  | (go_at_call 80;refine (take_turn m5 hb hp hσ ht8 τ ⟨_,i5.tkAt,htk⟩ hg HO.out _ _ _ _ _ _ c' F' τ' HT.out true (by rw [hd];rfl)).mono ?_;rintro e w6 ⟨rfl,s6,cs6,P⟩;obtain ⟨l6,a6,q6⟩:=P.a;have i6:=i5.step_tk a6 (Tk.cells_len q6) P.same;have v6:=v5.only P.only (fun hh=>hh.elim hbv hbb);have o6:=o5.trans P.only;have s6' : Same o 26 cs cs6:=P.same.wide (by omega) (by omega);obtain ⟨z0,z1,z2,z3,z4,z5,z6,z7,z8⟩:=id v6;have k0:=i6.c_nx;have k1:=i6.c_sl;have kf:=i6.fz)
  | (go_at_call 81;refine (slot_won P.a x hd).mono ?_;rintro e w7 ⟨rfl,rfl⟩))
 go_end0
 exact ⟨rfl,s6,_,_,(P.m.setIn hb _ _).setIn hb _ _,(o6.set _ _).set _ _,(i6.set_sl x).set_nx 1,(s6'.set (by omega) _).set (by omega) _,P.p,P.st,(by have:=P.good;rw [hd] at this;exact this),l6,Tk.cells_len q6,rfl⟩
theorem atake_none {w : World} {L : Loc} {s : Mm} {b o : Nat} {T : TypeId} {cs : Array Value} {a : AV} {t n k m : Nat} {g p r : Int} (h : MemAt w L s) (hb : ¬ L.has b) (hi : AlAt w b o T cs a) (who : Int) {σ c : Nat} {lk : Nat -> Nat} {F : List Nat} (hp : Pile t n s σ c lk F) (hσ : σ < 1000000) (ht8 : t <= 8) (K : Nat) (hK : classOf a.sz = K) (τ : Tk) (htk : τ.cells a.tk) (hg : τ.good n c lk F) (ho : τ.over = false) (c' : Nat) (F' : List Nat) (τ' : Tk) (ht : tkTurn c lk F τ = (c',F',τ')) (hd : τ' = .none) :
 Calls Tryz.prog 72 #[.pointer (some ⟨b,o,none⟩),.agg #[.int .i64 t,.int .i64 n,.int .i64 k,.int .i64 m,.int .i64 g,.int .i64 p,.int .i64 r,.pointer (some ⟨L.p,0,none⟩),.int .i64 who]] w fun e w'=>e = .returned (.tuple #[]) /\ Acts L b o T cs w w' (fun s' a'=>Pile t n s' (σ + 1) c' lk F' /\ (∃ v,s' = (s.by who).step (τ.at t) v) /\ ∃ l,l.length = 4 /\ a' = { a with tk:=l,nx:=8,E:=7,H:=0,V:=0,St:=((σ + 1 : Nat) : Int) }):=by
 have hbv : ¬ L.has w.heap.size:=fun hh=>by have:=h.lt _ hh;omega
 have hbb : ¬ w.heap.size = b:=fun hh=>by have:=hi.lt;omega
 have HK : Hid (classOf a.sz = K):=hK
 have HT : Hid (tkTurn c lk F τ = (c',F',τ')):=ht
 have HO : Hid (τ.over = false):=ho
 clear hK ht ho
 have j1:=hi.grown (grow_alloc (Below.refl _ _) (.cells #[.int .i64 t,.int .i64 n,.int .i64 k,.int .i64 m,.int .i64 g,.int .i64 p,.int .i64 r,.pointer (some ⟨L.p,0,none⟩),.int .i64 who] 27))
 go_enter Tryz.func72,Tryz.ntmps72
 go_wp2_with (go_at_call 71;refine (aclass_any _ _ HK.out j1.c_sz).mono ?_;rintro e w1 ⟨rfl,rfl⟩)
 clear j1
 refine wp_over (fun W=>MemAt W L s /\ AlAt W b o T (cs) a /\ BoxV W w.heap.size t n k m g p r L.p who /\ Only (L.and b) w W) ⟨h.alloc _,hi.grown (grow_alloc (Below.refl _ _) _),BoxV.new,(Only.refl _ _).alloc _⟩ ?_
 rintro W ⟨m1,i1,v1,o1⟩
 refine wp_region_rely_tail Grown 4 [.val (.pointer (some ⟨b,o,none⟩)),.val (.pointer (some ⟨b,o,none⟩)),.val (.pointer (some ⟨b,o + 1,none⟩)),.val (.agg #[.int .i64 t,.int .i64 n,.int .i64 k,.int .i64 m,.int .i64 g,.int .i64 p,.int .i64 r,.pointer (some ⟨L.p,0,none⟩),.int .i64 who])] (by kernel_rfl) Grown.refl Grown.trans (by decide) (by kernel_rfl) (by kernel_rfl) (by kernel_rfl) (by kernel_rfl) (by kernel_rfl) (by kernel_rfl) ?_
 simp only [List.take_succ_cons,List.take_zero,relyAll,Act.put,List.setIfInBounds_toArray,List.set_cons_zero,List.set_cons_succ]
 refine ⟨?_,?_,?_,?_,?_⟩
 · intros;apply ol;go_simp;exact gl
 · intros;apply ol;go_simp;exact gl
 · intros;apply ol;go_simp;exact gl
 · intro w' hg _
   apply ol
   obtain ⟨y0,y1,y2,y3,y4,y5,y6,y7,y8⟩:=(v1.grown ((Below.refl _ _).drew)).grown hg
   go_simp
   exact gl
 intro w5 hg _
 have m5:=m1.drew.below hg
 have i5:=i1.drew.grown hg
 have v5:=(v1.grown ((Below.refl _ _).drew)).grown hg
 have o5 : Only (L.and b) w w5:=o1.drew.trans (Only.ofGrown hg)
 clear hg m1 i1 v1 o1
 go_wp2_with (first
  | (go_at_call 80;refine (take_turn m5 hb hp hσ ht8 τ ⟨_,i5.tkAt,htk⟩ hg HO.out _ _ _ _ _ _ c' F' τ' HT.out true (by rw [hd];rfl)).mono ?_;rintro e w6 ⟨rfl,s6,cs6,P⟩;obtain ⟨l6,a6,q6⟩:=P.a;have i6:=i5.step_tk a6 (Tk.cells_len q6) P.same;have v6:=v5.only P.only (fun hh=>hh.elim hbv hbb);have o6:=o5.trans P.only;have s6' : Same o 26 cs cs6:=P.same.wide (by omega) (by omega);obtain ⟨z0,z1,z2,z3,z4,z5,z6,z7,z8⟩:=id v6;have k0:=i6.c_nx;have k1:=i6.c_sl;have kf:=i6.fz)
  | (go_at_call 81;refine (slot_none P.a hd).mono ?_;rintro e w7 ⟨rfl,rfl⟩)
  | (go_at_call 79;refine (arefuse P.m hb i6 _ _ (σ + 1) P.p.st).mono ?_;rintro e w8 ⟨rfl,s8,cs8,a8,m8,o8,i8,q8,rfl,rfl⟩))
 refine bodyPost_ret (results_none rfl _ _ _) rfl ?_
 exact ⟨rfl,_,cs8,_,m8,o6.trans o8,i8,s6'.trans q8,P.p,P.st,l6,Tk.cells_len q6,rfl⟩
end Go.Proofs.YtlolfmoolgenpaaGreat

namespace Go.Proofs.YtlolfmoolgenpaaGreat
open Go.RowKit
set_option maxRecDepth 20000
def phAl (L : Loc) (b o : Nat) (T : TypeId) (c c' : Array Value) (s s' : Mm) (a a' : AV) : Nat -> World -> Prop
 | 0,w=>MemAt w L s /\ AlAt w b o T c a
 | 1,w=>MemAt w L s' /\ AlAt w b o T c a
 | _,w=>MemAt w L s' /\ AlAt w b o T c' a'
theorem phAl_grown {L : Loc} {b o : Nat} {T : TypeId} {c c' : Array Value} {s s' : Mm} {a a' : AV} (x y : World) (p : Nat) (g : Grown x y) (k : phAl L b o T c c' s s' a a' p x) : phAl L b o T c c' s s' a a' p y:=by
 match p,k with
 | 0,k=>exact ⟨k.1.below g,k.2.grown g⟩
 | 1,k=>exact ⟨k.1.below g,k.2.grown g⟩
 | p + 2,k=>exact ⟨k.1.below g,k.2.grown g⟩
set_option maxHeartbeats 400000 in
theorem aask {w : World} {L : Loc} {s : Mm} {b o : Nat} {T : TypeId} {cs : Array Value} {a : AV} {t n k m : Nat} {g p r : Int} (h : MemAt w L s) (hb : ¬ L.has b) (hi : AlAt w b o T cs a) (who : Int) (ar : Arena t n k m) (x : Nat) (hx : a.sl = x) (hxn : x <= 1000000) (hn : 6 + t + x * 2 < s.n) (v : Int) (hv : s.wd (6 + t + x * 2) = v) (v0 : 0 <= v) (v1 : v <= 18446744073709551615) (G : Nat) (hG : v / 8388608 % 65536 = G) (K : Nat) (hK : classOf a.sz = K) :
 Calls Tryz.prog 73 #[.pointer (some ⟨b,o,none⟩),.agg #[.int .i64 t,.int .i64 n,.int .i64 k,.int .i64 m,.int .i64 g,.int .i64 p,.int .i64 r,.pointer (some ⟨L.p,0,none⟩),.int .i64 who]] w fun e w'=>e = .returned (.tuple #[]) /\ Acts L b o T cs w w' (fun s' a'=>s' = (s.by who).step (6 + t + x * 2) (s.wd (6 + t + x * 2)) /\ a' = { a with gn:=G,pl:=PlV 0 K 0 0 0 0 0,nx:=2 }):=by
 have hbv : ¬ L.has w.heap.size:=fun hh=>by have:=h.lt _ hh;omega
 have hbb : ¬ w.heap.size = b:=fun hh=>by have:=hi.lt;omega
 have sw:=fun w=>slot_any v w v0 v1
 rw [hG] at sw
 have HV : Hid (s.wd (6 + t + x * 2) = v):=hv
 have HK : Hid (classOf a.sz = K):=hK
 have HX : Hid (a.sl = x):=hx
 have fl : ∀ (a1 a2 a3 a4 : Value) (w : World),(Instr.field 87 (.agg #[a1,a2,a3,a4]) 2).run Tryz.prog w = .ok a3 w:=fun a1 a2 a3 a4 w=>by kernel_rfl
 have np:=fun w=>newPlace_any K w
 unfold place0 at np
 clear hv hK hG v0 v1 hx
 go_enter Tryz.func73,Tryz.ntmps73
 go_wp2
 refine wp_over (fun W=>MemAt W L s /\ AlAt W b o T (cs) a /\ BoxV W w.heap.size t n k m g p r L.p who /\ Only (L.and b) w W) ⟨h.alloc _,hi.grown (grow_alloc (Below.refl _ _) _),BoxV.new,(Only.refl _ _).alloc _⟩ ?_
 rintro W ⟨m1,i1,v1,o1⟩
 refine wp_region_phase (OnlyBut L b (o + 18)) Grown (phAl L b o T cs (cs.setIfInBounds (o + 18) (.int .i64 G)) s ((s.by who).step (6 + t + x * 2) (s.wd (6 + t + x * 2))) a { a with gn:=G }) [10,16] [.val (.pointer (some ⟨b,o,none⟩)),.val (.agg #[.int .i64 t,.int .i64 n,.int .i64 k,.int .i64 m,.int .i64 g,.int .i64 p,.int .i64 r,.pointer (some ⟨L.p,0,none⟩),.int .i64 who]),.val (.pointer (some ⟨w.heap.size,0,none⟩)),.val (.agg #[.int .i64 t,.int .i64 n,.int .i64 k,.int .i64 m,.int .i64 g,.int .i64 p,.int .i64 r]),.val (.pointer (some ⟨b,o,none⟩)),.val (.pointer (some ⟨b,o,none⟩)),.val (.pointer (some ⟨b,o + 15,none⟩)),.val (.pointer (some ⟨b,o + 17,none⟩)),.val (.int .i64 x),.val (.int .i64 ((6 + t + x * 2 : Nat) : Int)),.val (.int .u64 v),.val (.agg #[.int .i64 (v % 8),.int .i64 (v / 8 % 1048576),.int .i64 G,.int .i64 (v / 549755813888 % 4194304)]),.val (.int .i64 G),.val (.pointer (some ⟨b,o,none⟩)),.val (.pointer (some ⟨b,o + 15,none⟩)),.val (.pointer (some ⟨b,o + 18,none⟩)),.that (fun _ _=>True) (fun _ _ _ _ _=>trivial)]
  (by kernel_rfl) OnlyBut.refl OnlyBut.trans OnlyBut.ofGrown phAl_grown ⟨m1.drew,i1.drew⟩ (by kernel_rfl) (by kernel_rfl) (by kernel_rfl) (by kernel_rfl) (by kernel_rfl) ?_
 simp only [phaseAll,Act.put,List.setIfInBounds_toArray,List.set_cons_zero,List.set_cons_succ]
 refine ⟨?_,?_,?_,?_,?_,?_,?_,?_,?_,?_,?_,?_,?_,?_,?_,?_,?_,?_⟩
 · intros;apply ol;go_simp;exact gl
 · intro w' hR _
   apply ol
   obtain ⟨y0,y1,y2,y3,y4,y5,y6,y7,y8⟩:=(v1.grown ((Below.refl _ _).drew)).only hR.only (fun hh=>hh.elim hbv hbb)
   go_simp
   exact gl
 · intros;apply ol;go_simp;exact gl
 · intro w' hR _
   apply ol
   obtain ⟨y0,y1,y2,y3,y4,y5,y6,y7,y8⟩:=(v1.grown ((Below.refl _ _).drew)).only hR.only (fun hh=>hh.elim hbv hbb)
   go_simp
   exact gl
 · intros;apply ol;go_simp;exact gl
 · intros;apply ol;go_simp;exact gl
 · intros;apply ol;go_simp;exact gl
 · intros;apply ol;go_simp;exact gl
 · intro w' hR _
   apply ol
   have z:=hR.keep (j:=o + 17) (by omega) i1.drew.c_sl
   rw [HX.out] at z
   go_simp
   exact gl
 · intro w' hR _
   apply ol
   go_simp
   refine (lslot_any _ _ _ _ _ _ _ (x : Int) _ ar (by omega) (by omega)).mono ?_
   rintro e w'' ⟨rfl,b9⟩
   exact ⟨_,rfl,b9,congrArg (Value.int .i64) (by omega)⟩
 · intro w' hR _ hP
   apply ol
   go_simp
   refine (eload_in (s:=s) hP.1 _ _ _ _ _ _ _ _ (6 + t + x * 2) hn).mono ?_
   rintro e w'' ⟨rfl,m2,o2⟩
   exact ⟨_,rfl,⟨OnlyBut.ofOnly o2 hb,m2,hP.2.only o2 hb⟩,by simp [Want.pred,HV.out]⟩
 · intro w' hR _
   apply ol
   go_simp
   refine (sw _).mono ?_
   rintro e w'' ⟨rfl,b9⟩
   exact ⟨_,rfl,b9,rfl⟩
 · intros;apply ol;go_simp;exact gl
 · intros;apply ol;go_simp;exact gl
 · intros;apply ol;go_simp;exact gl
 · intros;apply ol;go_simp;exact gl
 · intro w' hR _ hP
   apply ol
   have z0:=hP.2.c_gn
   have z1:=hP.2.fz
   go_simp
   exact ⟨⟨OnlyBut.set _ _,hP.1.setIn hb _ _,hP.2.set_gn _⟩,trivial⟩
 intro vv w2 hR hP _
 obtain ⟨m2,i2⟩ : MemAt w2 L ((s.by who).step (6 + t + x * 2) (s.wd (6 + t + x * 2))) /\ AlAt w2 b o T (cs.setIfInBounds (o + 18) (.int .i64 G)) { a with gn:=G }:=hP
 have o2 : Only (L.and b) w w2:=o1.drew.trans hR.only
 have s2 : Same o 26 cs (cs.setIfInBounds (o + 18) (.int .i64 G)):=Same.refl.set (by omega) _
 clear hR o1 v1 m1 i1 sw fl
 go_wp2_with (first
  | (go_at_call 71;refine (aclass_any _ _ HK.out i2.c_sz).mono ?_;rintro e w1 ⟨rfl,rfl⟩)
  | (go_at_call 83;refine (np _).mono ?_;rintro e w1 ⟨rfl,rfl⟩;have i3:=i2.grown (grow_alloc (Below.refl _ _) (.cells #[.int .i64 0,.int .i64 K,.int .u64 0,.int .i64 0,.int .u64 0,.int .i64 0,.int .i64 0] 104));obtain ⟨x0,q0⟩:=i3.c_pl0;obtain ⟨x1,q1⟩:=i3.c_pl1;obtain ⟨x2,q2⟩:=i3.c_pl2;obtain ⟨x3,q3⟩:=i3.c_pl3;obtain ⟨x4,q4⟩:=i3.c_pl4;obtain ⟨x5,q5⟩:=i3.c_pl5;obtain ⟨x6,q6⟩:=i3.c_pl6;have q7:=i3.c_nx;have qf:=i3.fz))
 go_end0
 obtain ⟨y0,y1,y2,y3,y4,y5,y6,hl⟩:=len7 hi.lpl
 exact ⟨rfl,_,_,_,(((((((((m2.alloc _).setIn hb _ _).setIn hb _ _).setIn hb _ _).setIn hb _ _).setIn hb _ _).setIn hb _ _).setIn hb _ _).setIn hb _ _),(((((((((o2.alloc _).set _ _).set _ _).set _ _).set _ _).set _ _).set _ _).set _ _).set _ _),(((((((i3.set_pl0 (.int .i64 0)).set_pl1 (.int .i64 K)).set_pl2 (.int .u64 0)).set_pl3 (.int .i64 0)).set_pl4 (.int .u64 0)).set_pl5 (.int .i64 0)).set_pl6 (.int .i64 0)).set_nx 2,((((((((s2.set (by omega) _).set (by omega) _).set (by omega) _).set (by omega) _).set (by omega) _).set (by omega) _).set (by omega) _).set (by omega) _),rfl,by simp [hl,PlV]⟩
set_option maxHeartbeats 400000 in
theorem awords_on {w : World} {L : Loc} {s : Mm} {b o : Nat} {T : TypeId} {cs : Array Value} {a : AV} {t n k m : Nat} {g p r : Int} (h : MemAt w L s) (hb : ¬ L.has b) (hi : AlAt w b o T cs a) (who : Int) {σ K : Nat} {y : Y} (hy : Yard t n k m s σ y) (hG : Good t n k m g p r) (hσ : σ < 1000000) (hκ : K < 4) (τ : Pl) (hpl : τ.cells K a.pl) (hg : τ.good k m K σ) (ho : τ.over = false) (y' : Y) (τ' : Pl) (ht : turn k m K (base t n k m) y τ = (y',τ')) (hd : τ'.over = false) :
 Calls Tryz.prog 74 #[.pointer (some ⟨b,o,none⟩),.agg #[.int .i64 t,.int .i64 n,.int .i64 k,.int .i64 m,.int .i64 g,.int .i64 p,.int .i64 r,.pointer (some ⟨L.p,0,none⟩),.int .i64 who]] w fun e w'=>e = .returned (.tuple #[]) /\ Acts L b o T cs w w' (fun s' a'=>Yard t n k m s' (σ + 1) y' /\ (∃ v,s' = (s.by who).step (τ.at t n K) v) /\ τ'.good k m K (σ + 1) /\ ∃ l,τ'.cells K l /\ a' = { a with pl:=l }):=by
 have hbv : ¬ L.has w.heap.size:=fun hh=>by have:=h.lt _ hh;omega
 have hbb : ¬ w.heap.size = b:=fun hh=>by have:=hi.lt;omega
 have HT : Hid (turn k m K (base t n k m) y τ = (y',τ')):=ht
 have HO : Hid (τ.over = false):=ho
 have HG : Hid (Good t n k m g p r):=hG
 clear ht ho hG
 go_enter Tryz.func74,Tryz.ntmps74
 go_wp2
 refine wp_over (fun W=>MemAt W L s /\ AlAt W b o T (cs) a /\ BoxV W w.heap.size t n k m g p r L.p who /\ Only (L.and b) w W) ⟨h.alloc _,hi.grown (grow_alloc (Below.refl _ _) _),BoxV.new,(Only.refl _ _).alloc _⟩ ?_
 rintro W ⟨m1,i1,v1,o1⟩
 refine wp_region_rely_tail Grown 4 [.val (.pointer (some ⟨b,o,none⟩)),.val (.pointer (some ⟨b,o,none⟩)),.val (.pointer (some ⟨b,o + 5,none⟩)),.val (.agg #[.int .i64 t,.int .i64 n,.int .i64 k,.int .i64 m,.int .i64 g,.int .i64 p,.int .i64 r,.pointer (some ⟨L.p,0,none⟩),.int .i64 who])] (by kernel_rfl) Grown.refl Grown.trans (by decide) (by kernel_rfl) (by kernel_rfl) (by kernel_rfl) (by kernel_rfl) (by kernel_rfl) (by kernel_rfl) ?_
 simp only [List.take_succ_cons,List.take_zero,relyAll,Act.put,List.setIfInBounds_toArray,List.set_cons_zero,List.set_cons_succ]
 refine ⟨?_,?_,?_,?_,?_⟩
 · intros;apply ol;go_simp;exact gl
 · intros;apply ol;go_simp;exact gl
 · intros;apply ol;go_simp;exact gl
 · intro w' hg _
   apply ol
   obtain ⟨y0,y1,y2,y3,y4,y5,y6,y7,y8⟩:=(v1.grown ((Below.refl _ _).drew)).grown hg
   go_simp
   exact gl
 intro w5 hg _
 have m5:=m1.drew.below hg
 have i5:=i1.drew.grown hg
 have v5:=(v1.grown ((Below.refl _ _).drew)).grown hg
 have o5 : Only (L.and b) w w5:=o1.drew.trans (Only.ofGrown hg)
 clear hg m1 i1 v1 o1
 go_wp2_with (first
  | (go_at_call 84;refine (place_turn m5 hb hy HG.out hσ hκ τ ⟨_,i5.plAt,hpl⟩ hg HO.out who y' τ' HT.out false hd).mono ?_;rintro e w6 ⟨rfl,s6,cs6,P⟩;obtain ⟨l6,a6,q6⟩:=P.a;have i6:=i5.step_pl a6 (Pl.cells_len q6) P.same;have v6:=v5.only P.only (fun hh=>hh.elim hbv hbb);have o6:=o5.trans P.only;have s6' : Same o 26 cs cs6:=P.same.wide (by omega) (by omega)))
 refine bodyPost_ret (results_none rfl _ _ _) rfl ?_
 exact ⟨rfl,s6,cs6,_,P.mm,o6,i6,s6',P.yd,P.st,P.good,l6,q6,rfl⟩
set_option maxHeartbeats 400000 in
theorem awords_won {w : World} {L : Loc} {s : Mm} {b o : Nat} {T : TypeId} {cs : Array Value} {a : AV} {t n k m : Nat} {g p r : Int} (h : MemAt w L s) (hb : ¬ L.has b) (hi : AlAt w b o T cs a) (who : Int) {σ K : Nat} {y : Y} (hy : Yard t n k m s σ y) (hG : Good t n k m g p r) (hσ : σ < 1000000) (hκ : K < 4) (τ : Pl) (hpl : τ.cells K a.pl) (hg : τ.good k m K σ) (ho : τ.over = false) (y' : Y) (τ' : Pl) (ht : turn k m K (base t n k m) y τ = (y',τ')) (A i : Nat) (hd : τ' = .won A i) :
 Calls Tryz.prog 74 #[.pointer (some ⟨b,o,none⟩),.agg #[.int .i64 t,.int .i64 n,.int .i64 k,.int .i64 m,.int .i64 g,.int .i64 p,.int .i64 r,.pointer (some ⟨L.p,0,none⟩),.int .i64 who]] w fun e w'=>e = .returned (.tuple #[]) /\ Acts L b o T cs w w' (fun s' a'=>Yard t n k m s' (σ + 1) y' /\ (∃ v,s' = (s.by who).step (τ.at t n K) v) /\ ∃ l,l.length = 7 /\ a' = { a with pl:=l,sa:=A,sc:=i,nx:=3 }):=by
 have hbv : ¬ L.has w.heap.size:=fun hh=>by have:=h.lt _ hh;omega
 have hbb : ¬ w.heap.size = b:=fun hh=>by have:=hi.lt;omega
 have HT : Hid (turn k m K (base t n k m) y τ = (y',τ')):=ht
 have HO : Hid (τ.over = false):=ho
 have HG : Hid (Good t n k m g p r):=hG
 clear ht ho hG
 go_enter Tryz.func74,Tryz.ntmps74
 go_wp2
 refine wp_over (fun W=>MemAt W L s /\ AlAt W b o T (cs) a /\ BoxV W w.heap.size t n k m g p r L.p who /\ Only (L.and b) w W) ⟨h.alloc _,hi.grown (grow_alloc (Below.refl _ _) _),BoxV.new,(Only.refl _ _).alloc _⟩ ?_
 rintro W ⟨m1,i1,v1,o1⟩
 refine wp_region_rely_tail Grown 4 [.val (.pointer (some ⟨b,o,none⟩)),.val (.pointer (some ⟨b,o,none⟩)),.val (.pointer (some ⟨b,o + 5,none⟩)),.val (.agg #[.int .i64 t,.int .i64 n,.int .i64 k,.int .i64 m,.int .i64 g,.int .i64 p,.int .i64 r,.pointer (some ⟨L.p,0,none⟩),.int .i64 who])] (by kernel_rfl) Grown.refl Grown.trans (by decide) (by kernel_rfl) (by kernel_rfl) (by kernel_rfl) (by kernel_rfl) (by kernel_rfl) (by kernel_rfl) ?_
 simp only [List.take_succ_cons,List.take_zero,relyAll,Act.put,List.setIfInBounds_toArray,List.set_cons_zero,List.set_cons_succ]
 refine ⟨?_,?_,?_,?_,?_⟩
 · intros;apply ol;go_simp;exact gl
 · intros;apply ol;go_simp;exact gl
 · intros;apply ol;go_simp;exact gl
 · intro w' hg _
   apply ol
   obtain ⟨y0,y1,y2,y3,y4,y5,y6,y7,y8⟩:=(v1.grown ((Below.refl _ _).drew)).grown hg
   go_simp
   exact gl
 intro w5 hg _
 have m5:=m1.drew.below hg
 have i5:=i1.drew.grown hg
 have v5:=(v1.grown ((Below.refl _ _).drew)).grown hg
 have o5 : Only (L.and b) w w5:=o1.drew.trans (Only.ofGrown hg)
 clear hg m1 i1 v1 o1
 go_wp2_with (first
  | (go_at_call 84;refine (place_turn m5 hb hy HG.out hσ hκ τ ⟨_,i5.plAt,hpl⟩ hg HO.out who y' τ' HT.out true (by rw [hd];rfl)).mono ?_;rintro e w6 ⟨rfl,s6,cs6,P⟩;obtain ⟨l6,a6,q6⟩:=P.a;have i6:=i5.step_pl a6 (Pl.cells_len q6) P.same;have v6:=v5.only P.only (fun hh=>hh.elim hbv hbb);have o6:=o5.trans P.only;have s6' : Same o 26 cs cs6:=P.same.wide (by omega) (by omega))
  | (go_at_call 85;refine (spot_any P.a A i true (by rw [hd];rfl)).mono ?_;rintro e w7 ⟨rfl,b7⟩;have i7:=i6.grown b7;have i9:=i7.grown (grow_alloc (Below.refl _ _) (.cells #[.int .i64 A,.int .i64 i] 102));have k0:=i9.c_nx;have k1:=i9.c_sa;have k2:=i9.c_sc;have kf:=i9.fz))
 go_end0
 have o7 : Only (L.and b) w w7:=o6.trans (Only.ofGrown b7)
 exact ⟨rfl,s6,_,_,((((P.mm.below b7).alloc _).setIn hb _ _).setIn hb _ _).setIn hb _ _,(((o7.alloc _).set _ _).set _ _).set _ _,((i9.set_sa A).set_sc i).set_nx 3,((s6'.set (by omega) _).set (by omega) _).set (by omega) _,P.yd,P.st,l6,Pl.cells_len q6,rfl⟩
set_option maxHeartbeats 400000 in
theorem awords_none {w : World} {L : Loc} {s : Mm} {b o : Nat} {T : TypeId} {cs : Array Value} {a : AV} {t n k m : Nat} {g p r : Int} (h : MemAt w L s) (hb : ¬ L.has b) (hi : AlAt w b o T cs a) (who : Int) {σ K : Nat} {y : Y} (hy : Yard t n k m s σ y) (hG : Good t n k m g p r) (hσ : σ < 1000000) (hκ : K < 4) (τ : Pl) (hpl : τ.cells K a.pl) (hg : τ.good k m K σ) (ho : τ.over = false) (y' : Y) (τ' : Pl) (ht : turn k m K (base t n k m) y τ = (y',τ')) (x : Nat) (hx : a.sl = x) (hd : τ' = .none) :
 Calls Tryz.prog 74 #[.pointer (some ⟨b,o,none⟩),.agg #[.int .i64 t,.int .i64 n,.int .i64 k,.int .i64 m,.int .i64 g,.int .i64 p,.int .i64 r,.pointer (some ⟨L.p,0,none⟩),.int .i64 who]] w fun e w'=>e = .returned (.tuple #[]) /\ Acts L b o T cs w w' (fun s' a'=>Yard t n k m s' (σ + 1) y' /\ (∃ v,s' = (s.by who).step (τ.at t n K) v) /\ ∃ l,l.length = 7 /\ a' = { a with pl:=l,gv:=GvV 0 x 0,nx:=7 }):=by
 have hbv : ¬ L.has w.heap.size:=fun hh=>by have:=h.lt _ hh;omega
 have hbb : ¬ w.heap.size = b:=fun hh=>by have:=hi.lt;omega
 have HT : Hid (turn k m K (base t n k m) y τ = (y',τ')):=ht
 have HO : Hid (τ.over = false):=ho
 have HG : Hid (Good t n k m g p r):=hG
 clear ht ho hG
 have HX : Hid (a.sl = x):=hx
 clear hx
 go_enter Tryz.func74,Tryz.ntmps74
 go_wp2
 refine wp_over (fun W=>MemAt W L s /\ AlAt W b o T (cs) a /\ BoxV W w.heap.size t n k m g p r L.p who /\ Only (L.and b) w W) ⟨h.alloc _,hi.grown (grow_alloc (Below.refl _ _) _),BoxV.new,(Only.refl _ _).alloc _⟩ ?_
 rintro W ⟨m1,i1,v1,o1⟩
 refine wp_region_rely_tail Grown 4 [.val (.pointer (some ⟨b,o,none⟩)),.val (.pointer (some ⟨b,o,none⟩)),.val (.pointer (some ⟨b,o + 5,none⟩)),.val (.agg #[.int .i64 t,.int .i64 n,.int .i64 k,.int .i64 m,.int .i64 g,.int .i64 p,.int .i64 r,.pointer (some ⟨L.p,0,none⟩),.int .i64 who])] (by kernel_rfl) Grown.refl Grown.trans (by decide) (by kernel_rfl) (by kernel_rfl) (by kernel_rfl) (by kernel_rfl) (by kernel_rfl) (by kernel_rfl) ?_
 simp only [List.take_succ_cons,List.take_zero,relyAll,Act.put,List.setIfInBounds_toArray,List.set_cons_zero,List.set_cons_succ]
 refine ⟨?_,?_,?_,?_,?_⟩
 · intros;apply ol;go_simp;exact gl
 · intros;apply ol;go_simp;exact gl
 · intros;apply ol;go_simp;exact gl
 · intro w' hg _
   apply ol
   obtain ⟨y0,y1,y2,y3,y4,y5,y6,y7,y8⟩:=(v1.grown ((Below.refl _ _).drew)).grown hg
   go_simp
   exact gl
 intro w5 hg _
 have m5:=m1.drew.below hg
 have i5:=i1.drew.grown hg
 have v5:=(v1.grown ((Below.refl _ _).drew)).grown hg
 have o5 : Only (L.and b) w w5:=o1.drew.trans (Only.ofGrown hg)
 clear hg m1 i1 v1 o1
 go_wp2_with (first
  | (go_at_call 84;refine (place_turn m5 hb hy HG.out hσ hκ τ ⟨_,i5.plAt,hpl⟩ hg HO.out who y' τ' HT.out true (by rw [hd];rfl)).mono ?_;rintro e w6 ⟨rfl,s6,cs6,P⟩;obtain ⟨l6,a6,q6⟩:=P.a;have i6:=i5.step_pl a6 (Pl.cells_len q6) P.same;have v6:=v5.only P.only (fun hh=>hh.elim hbv hbb);have o6:=o5.trans P.only;have s6' : Same o 26 cs cs6:=P.same.wide (by omega) (by omega))
  | (go_at_call 85;refine (spot_any P.a 0 0 false (by rw [hd];rfl)).mono ?_;rintro e w7 ⟨rfl,b7⟩;have i7:=i6.grown b7;have i9:=i7.grown (grow_alloc (Below.refl _ _) (.cells #[.int .i64 0,.int .i64 0] 102));have k3:=i9.c_sl;rw [show ({ a with pl:=l6 } : AV).sl = x from HX.out] at k3)
  | (go_at_call 86;refine (newGive_any x _).mono ?_;rintro e w8 ⟨rfl,rfl⟩;have i10:=i9.grown (grow_alloc (Below.refl _ _) (.cells #[.int .i64 0,.int .i64 x,.int .u64 0] 106));have k0:=i10.c_nx;obtain ⟨x0,k1⟩:=i10.c_gv0;obtain ⟨x1,k2⟩:=i10.c_gv1;obtain ⟨x2,k4⟩:=i10.c_gv2;have kf:=i10.fz))
 refine bodyPost_ret (results_none rfl _ _ _) rfl ?_
 have o7 : Only (L.and b) w w7:=o6.trans (Only.ofGrown b7)
 obtain ⟨z0,z1,z2,hl⟩:=len3 hi.lgv
 exact ⟨rfl,s6,_,_,((((((P.mm.below b7).alloc _).alloc _).setIn hb _ _).setIn hb _ _).setIn hb _ _).setIn hb _ _,(((((o7.alloc _).alloc _).set _ _).set _ _).set _ _).set _ _,(((i10.set_gv0 _).set_gv1 _).set_gv2 _).set_nx 7,(((s6'.set (by omega) _).set (by omega) _).set (by omega) _).set (by omega) _,P.yd,P.st,l6,Pl.cells_len q6,by simp [hl,GvV]⟩
end Go.Proofs.YtlolfmoolgenpaaGreat

namespace Go.Proofs.YtlolfmoolgenpaaGreat
open Go.RowKit
set_option maxRecDepth 20000
set_option maxHeartbeats 400000 in
theorem acount {w : World} {L : Loc} {s : Mm} {b o : Nat} {T : TypeId} {cs : Array Value} {a : AV} {t n k m : Nat} {g p r : Int} (h : MemAt w L s) (hb : ¬ L.has b) (hi : AlAt w b o T cs a) (who : Int) (ar : Arena t n k m) (hn1 : n <= 65536) (ht1 : t <= 8) (i : Nat) (hx : a.sc = i) (hin : i <= 64) (hn : 6 + t + n * 2 + i * 3 + 1 < s.n) (K : Nat) (hκ : K < 4) (hK : classOf a.sz = K) :
 Calls Tryz.prog 75 #[.pointer (some ⟨b,o,none⟩),.agg #[.int .i64 t,.int .i64 n,.int .i64 k,.int .i64 m,.int .i64 g,.int .i64 p,.int .i64 r,.pointer (some ⟨L.p,0,none⟩),.int .i64 who]] w fun e w'=>e = .returned (.tuple #[]) /\ Acts L b o T cs w w' (fun s' a'=>s' = (s.by who).step (6 + t + n * 2 + i * 3 + 1) (sum64 (s.wd (6 + t + n * 2 + i * 3 + 1)) (word64 (room K))) /\ a' = { a with nx:=4 }):=by
 have HK : Hid (classOf a.sz = K):=hK
 have HI : Hid (a.sc = i):=hx
 clear hK hx
 have hbv : ¬ L.has w.heap.size:=fun hh=>by have:=h.lt _ hh;omega
 have hbb : ¬ w.heap.size = b:=fun hh=>by have:=hi.lt;omega
 go_enter Tryz.func75,Tryz.ntmps75
 go_wp2
 refine wp_over (fun W=>MemAt W L s /\ AlAt W b o T (cs) a /\ BoxV W w.heap.size t n k m g p r L.p who /\ Only (L.and b) w W) ⟨h.alloc _,hi.grown (grow_alloc (Below.refl _ _) _),BoxV.new,(Only.refl _ _).alloc _⟩ ?_
 rintro W ⟨m1,i1,v1,o1⟩
 refine wp_region_rely_tail Grown 13 [.val (.agg #[.int .i64 t,.int .i64 n,.int .i64 k,.int .i64 m,.int .i64 g,.int .i64 p,.int .i64 r,.pointer (some ⟨L.p,0,none⟩),.int .i64 who]),.val (.pointer (some ⟨w.heap.size,0,none⟩)),.val (.agg #[.int .i64 t,.int .i64 n,.int .i64 k,.int .i64 m,.int .i64 g,.int .i64 p,.int .i64 r]),.val (.pointer (some ⟨b,o,none⟩)),.val (.pointer (some ⟨b,o,none⟩)),.val (.pointer (some ⟨b,o + 20,none⟩)),.val (.pointer (some ⟨b,o + 21,none⟩)),.val (.int .i64 i),.val (.int .i64 ((6 + t + n * 2 + i * 3 : Nat) : Int)),.val (.int .i64 ((6 + t + n * 2 + i * 3 + 1 : Nat) : Int)),.val (.pointer (some ⟨b,o,none⟩)),.val (.int .i64 K),.val (.int .i64 (room K))] (by kernel_rfl) Grown.refl Grown.trans (by decide) (by kernel_rfl) (by kernel_rfl) (by kernel_rfl) (by kernel_rfl) (by kernel_rfl) (by kernel_rfl) ?_
 simp only [List.take_succ_cons,List.take_zero,relyAll,Act.put,List.setIfInBounds_toArray,List.set_cons_zero,List.set_cons_succ]
 refine ⟨?_,?_,?_,?_,?_,?_,?_,?_,?_,?_,?_,?_,?_,?_⟩
 · intro w' hg _
   apply ol
   obtain ⟨y0,y1,y2,y3,y4,y5,y6,y7,y8⟩:=(v1.grown ((Below.refl _ _).drew)).grown hg
   go_simp
   exact gl
 · intros;apply ol;go_simp;exact gl
 · intro w' hg _
   apply ol
   obtain ⟨y0,y1,y2,y3,y4,y5,y6,y7,y8⟩:=(v1.grown ((Below.refl _ _).drew)).grown hg
   go_simp
   exact gl
 · intros;apply ol;go_simp;exact gl
 · intros;apply ol;go_simp;exact gl
 · intros;apply ol;go_simp;exact gl
 · intros;apply ol;go_simp;exact gl
 · intro w' hg _
   apply ol
   have z:=(i1.drew.grown hg).c_sc
   rw [HI.out] at z
   go_simp
   exact gl
 · intro w' hg _
   apply ol
   go_simp
   refine (lchunk_any _ _ _ _ _ _ _ (i : Int) _ ar (by omega) (by omega)).mono ?_
   rintro e w'' ⟨rfl,b9⟩
   exact ⟨_,rfl,b9,congrArg (Value.int .i64) (by omega)⟩
 · intro w' hg _
   apply ol
   go_simp
   exact ⟨Grown.refl _,congrArg (Value.int .i64) (by rw [IntKind.wrap_i64];omega)⟩
 · intros;apply ol;go_simp;exact gl
 · intro w' hg _
   apply ol
   go_simp
   refine (aclass_any _ _ HK.out (i1.drew.grown hg).c_sz).mono ?_
   rintro e w'' ⟨rfl,rfl⟩
   exact ⟨_,rfl,Grown.refl _,rfl⟩
 · intro w' hg _
   apply ol
   go_simp
   refine (lroom_w K hκ _).mono ?_
   rintro e w'' ⟨rfl,rfl⟩
   exact ⟨_,rfl,Grown.refl _,rfl⟩
 intro w5 hg _
 have m5:=m1.drew.below hg
 have i5:=i1.drew.grown hg
 have v5:=(v1.grown ((Below.refl _ _).drew)).grown hg
 have o5 : Only (L.and b) w w5:=o1.drew.trans (Only.ofGrown hg)
 clear hg m1 i1 v1 o1
 go_wp2_with (go_at_call 87;refine (eadd_in m5 _ _ _ _ _ _ _ _ (6 + t + n * 2 + i * 3 + 1) hn _).mono ?_;rintro e w6 ⟨rfl,m6,o6⟩;have i6:=i5.only o6 hb;have k0:=i6.c_nx;have kf:=i6.fz)
 go_end0
 exact ⟨rfl,_,_,_,m6.setIn hb _ _,(o5.trans o6.andL).set _ _,i6.set_nx 4,Same.refl.set (by omega) _,rfl,rfl⟩
set_option maxHeartbeats 400000 in
theorem ahead {w : World} {L : Loc} {s : Mm} {b o : Nat} {T : TypeId} {cs : Array Value} {a : AV} {t n k m : Nat} {g p r : Int} (h : MemAt w L s) (hb : ¬ L.has b) (hi : AlAt w b o T cs a) (who : Int) (kd : Int) (fk : Fit kd) (z : Int) (fz : Fit z) (hz : a.sz = z) (x G A : Nat) (hx : a.sl = x) (hG : a.gn = G) (hA : a.sa = A) (ow : Bool) (hw : a.own = ow) (xb : x <= 1000000) (gb : G <= 1000000) (hn : A < s.n) :
 Calls Tryz.prog 76 #[.pointer (some ⟨b,o,none⟩),.agg #[.int .i64 t,.int .i64 n,.int .i64 k,.int .i64 m,.int .i64 g,.int .i64 p,.int .i64 r,.pointer (some ⟨L.p,0,none⟩),.int .i64 who],.int .i64 kd] w fun e w'=>e = .returned (.tuple #[]) /\ Acts L b o T cs w w' (fun s' a'=>s' = (s.by who).step A (packOw kd z x G ow) /\ a' = { a with kd:=kd }):=by
 have HX : Hid (a.sl = x):=hx
 have HG : Hid (a.gn = G):=hG
 have HA : Hid (a.sa = A):=hA
 have HW : Hid (a.own = ow):=hw
 have HZ : Hid (a.sz = z):=hz
 clear hx hG hA hw hz
 have hbv : ¬ L.has w.heap.size:=fun hh=>by have:=h.lt _ hh;omega
 have hbb : ¬ w.heap.size = b:=fun hh=>by have:=hi.lt;omega
 have j1:=hi.grown (grow_alloc (Below.refl _ _) (.cells #[.int .i64 t,.int .i64 n,.int .i64 k,.int .i64 m,.int .i64 g,.int .i64 p,.int .i64 r,.pointer (some ⟨L.p,0,none⟩),.int .i64 who] 27))
 have k0:=j1.c_kd
 have kf:=j1.fz
 have j2:=j1.set_kd kd
 go_enter Tryz.func76,Tryz.ntmps76
 go_wp2
 refine wp_over (fun W=>MemAt W L s /\ AlAt W b o T (cs.setIfInBounds (o + 15) (.int .i64 kd)) { a with kd:=kd } /\ BoxV W w.heap.size t n k m g p r L.p who /\ Only (L.and b) w W) ⟨(h.alloc _).setIn hb _ _,j2,BoxV.new.setIn hbb _ _,((Only.refl _ _).alloc _).set _ _⟩ ?_
 clear j1 j2 k0 kf
 rintro W ⟨m1,i1,v1,o1⟩
 refine wp_region_rely_tail Grown 11 [.val (.agg #[.int .i64 t,.int .i64 n,.int .i64 k,.int .i64 m,.int .i64 g,.int .i64 p,.int .i64 r,.pointer (some ⟨L.p,0,none⟩),.int .i64 who]),.val (.pointer (some ⟨b,o,none⟩)),.val (.pointer (some ⟨b,o,none⟩)),.val (.pointer (some ⟨b,o + 20,none⟩)),.val (.pointer (some ⟨b,o + 20,none⟩)),.val (.int .i64 A),.val (.pointer (some ⟨b,o,none⟩)),.val (.pointer (some ⟨b,o,none⟩)),.val (.pointer (some ⟨b,o + 15,none⟩)),.val (.agg #[.int .i64 kd,.int .i64 z,.int .i64 x,.int .i64 G,.bool ow]),.val (.int .u64 (packOw kd z x G ow))] (by kernel_rfl) Grown.refl Grown.trans (by decide) (by kernel_rfl) (by kernel_rfl) (by kernel_rfl) (by kernel_rfl) (by kernel_rfl) (by kernel_rfl) ?_
 simp only [List.take_succ_cons,List.take_zero,relyAll,Act.put,List.setIfInBounds_toArray,List.set_cons_zero,List.set_cons_succ]
 refine ⟨?_,?_,?_,?_,?_,?_,?_,?_,?_,?_,?_,?_⟩
 · intro w' hg _
   apply ol
   obtain ⟨y0,y1,y2,y3,y4,y5,y6,y7,y8⟩:=(v1.grown ((Below.refl _ _).drew)).grown hg
   go_simp
   exact gl
 · intros;apply ol;go_simp;exact gl
 · intros;apply ol;go_simp;exact gl
 · intros;apply ol;go_simp;exact gl
 · intros;apply ol;go_simp;exact gl
 · intro w' hg _
   apply ol
   have z:=(i1.drew.grown hg).c_sa
   rw [show ({ a with kd:=kd } : AV).sa = A from HA.out] at z
   go_simp
   exact gl
 · intros;apply ol;go_simp;exact gl
 · intros;apply ol;go_simp;exact gl
 · intros;apply ol;go_simp;exact gl
 · intro w' hg _
   apply ol
   have z0:=(i1.drew.grown hg).c_kd
   have z1:=(i1.drew.grown hg).c_sz
   have z2:=(i1.drew.grown hg).c_sl
   have z3:=(i1.drew.grown hg).c_gn
   have z4:=(i1.drew.grown hg).c_own
   rw [show ({ a with kd:=kd } : AV).sz = z from HZ.out] at z1
   rw [show ({ a with kd:=kd } : AV).sl = x from HX.out] at z2
   rw [show ({ a with kd:=kd } : AV).gn = G from HG.out] at z3
   rw [show ({ a with kd:=kd } : AV).own = ow from HW.out] at z4
   go_simp
   exact gl
 · intro w' hg _
   apply ol
   go_simp
   refine (putHead_any kd z x G ow _ fk fz ⟨by omega,by omega⟩ ⟨by omega,by omega⟩).mono ?_
   rintro e w'' ⟨rfl,b9⟩
   exact ⟨_,rfl,b9,rfl⟩
 intro w5 hg _
 have m5:=m1.drew.below hg
 have i5:=i1.drew.grown hg
 have v5:=(v1.grown ((Below.refl _ _).drew)).grown hg
 have o5 : Only (L.and b) w w5:=o1.drew.trans (Only.ofGrown hg)
 clear hg m1 i1 v1 o1
 go_wp2_with (go_at_call 66;refine (estore_in m5 _ _ _ _ _ _ _ _ A hn _).mono ?_;rintro e w6 ⟨rfl,m6,o6⟩)
 go_end0
 exact ⟨rfl,_,_,_,m6,o5.trans o6.andL,i5.only o6 hb,Same.refl.set (by omega) _,rfl,rfl⟩
set_option maxHeartbeats 1000000 in
theorem ashow {w : World} {L : Loc} {s : Mm} {b o : Nat} {T : TypeId} {cs : Array Value} {a : AV} {t n k m : Nat} {g p r : Int} (h : MemAt w L s) (hb : ¬ L.has b) (hi : AlAt w b o T cs a) (who : Int) (ar : Arena t n k m) (x G A : Nat) (hx : a.sl = x) (hG : a.gn = G) (hA : a.sa = A) (xb : x <= 1000000) (gb : G <= 1000000) (ab : A <= 1000000) (hn : 6 + t + x * 2 < s.n) (st : Nat) (hst : wrap64 (s.steps + 1) = st) :
 Calls Tryz.prog 77 #[.pointer (some ⟨b,o,none⟩),.agg #[.int .i64 t,.int .i64 n,.int .i64 k,.int .i64 m,.int .i64 g,.int .i64 p,.int .i64 r,.pointer (some ⟨L.p,0,none⟩),.int .i64 who]] w fun e w'=>e = .returned (.tuple #[]) /\ Acts L b o T cs w w' (fun s' a'=>s' = (s.by who).step (6 + t + x * 2) (packS 1 A G 0) /\ a' = { a with H:=packH x G,St:=st,nx:=6 }):=by
 have HX : Hid (a.sl = x):=hx
 have HG : Hid (a.gn = G):=hG
 have HA : Hid (a.sa = A):=hA
 have HS : Hid (wrap64 (s.steps + 1) = st):=hst
 clear hx hG hA hst
 have hbv : ¬ L.has w.heap.size:=fun hh=>by have:=h.lt _ hh;omega
 have hbb : ¬ w.heap.size = b:=fun hh=>by have:=hi.lt;omega
 go_enter Tryz.func77,Tryz.ntmps77
 go_wp2
 refine wp_over (fun W=>MemAt W L s /\ AlAt W b o T (cs) a /\ BoxV W w.heap.size t n k m g p r L.p who /\ Only (L.and b) w W) ⟨h.alloc _,hi.grown (grow_alloc (Below.refl _ _) _),BoxV.new,(Only.refl _ _).alloc _⟩ ?_
 rintro W ⟨m1,i1,v1,o1⟩
 refine wp_region_rely_tail Grown 21 [.val (.agg #[.int .i64 t,.int .i64 n,.int .i64 k,.int .i64 m,.int .i64 g,.int .i64 p,.int .i64 r,.pointer (some ⟨L.p,0,none⟩),.int .i64 who]),.val (.pointer (some ⟨w.heap.size,0,none⟩)),.val (.agg #[.int .i64 t,.int .i64 n,.int .i64 k,.int .i64 m,.int .i64 g,.int .i64 p,.int .i64 r]),.val (.pointer (some ⟨b,o,none⟩)),.val (.pointer (some ⟨b,o,none⟩)),.val (.pointer (some ⟨b,o + 15,none⟩)),.val (.pointer (some ⟨b,o + 17,none⟩)),.val (.int .i64 x),.val (.int .i64 ((6 + t + x * 2 : Nat) : Int)),.val (.pointer (some ⟨b,o,none⟩)),.val (.pointer (some ⟨b,o,none⟩)),.val (.pointer (some ⟨b,o + 20,none⟩)),.val (.pointer (some ⟨b,o + 20,none⟩)),.val (.int .i64 A),.val (.pointer (some ⟨b,o,none⟩)),.val (.pointer (some ⟨b,o,none⟩)),.val (.pointer (some ⟨b,o + 15,none⟩)),.val (.pointer (some ⟨b,o + 18,none⟩)),.val (.int .i64 G),.val (.agg #[.int .i64 1,.int .i64 A,.int .i64 G,.int .i64 0]),.val (.int .u64 (packS 1 A G 0))] (by kernel_rfl) Grown.refl Grown.trans (by decide) (by kernel_rfl) (by kernel_rfl) (by kernel_rfl) (by kernel_rfl) (by kernel_rfl) (by kernel_rfl) ?_
 simp only [List.take_succ_cons,List.take_zero,relyAll,Act.put,List.setIfInBounds_toArray,List.set_cons_zero,List.set_cons_succ]
 refine ⟨?_,?_,?_,?_,?_,?_,?_,?_,?_,?_,?_,?_,?_,?_,?_,?_,?_,?_,?_,?_,?_,?_⟩
 · intro w' hg _
   apply ol
   obtain ⟨y0,y1,y2,y3,y4,y5,y6,y7,y8⟩:=(v1.grown ((Below.refl _ _).drew)).grown hg
   go_simp
   exact gl
 · intros;apply ol;go_simp;exact gl
 · intro w' hg _
   apply ol
   obtain ⟨y0,y1,y2,y3,y4,y5,y6,y7,y8⟩:=(v1.grown ((Below.refl _ _).drew)).grown hg
   go_simp
   exact gl
 · intros;apply ol;go_simp;exact gl
 · intros;apply ol;go_simp;exact gl
 · intros;apply ol;go_simp;exact gl
 · intros;apply ol;go_simp;exact gl
 · intro w' hg _
   apply ol
   have z:=(i1.drew.grown hg).c_sl
   rw [HX.out] at z
   go_simp
   exact gl
 · intro w' hg _
   apply ol
   go_simp
   refine (lslot_any _ _ _ _ _ _ _ (x : Int) _ ar (by omega) (by omega)).mono ?_
   rintro e w'' ⟨rfl,b9⟩
   exact ⟨_,rfl,b9,congrArg (Value.int .i64) (by omega)⟩
 · intros;apply ol;go_simp;exact gl
 · intros;apply ol;go_simp;exact gl
 · intros;apply ol;go_simp;exact gl
 · intros;apply ol;go_simp;exact gl
 · intro w' hg _
   apply ol
   have z:=(i1.drew.grown hg).c_sa
   rw [HA.out] at z
   go_simp
   exact gl
 · intros;apply ol;go_simp;exact gl
 · intros;apply ol;go_simp;exact gl
 · intros;apply ol;go_simp;exact gl
 · intros;apply ol;go_simp;exact gl
 · intro w' hg _
   apply ol
   have z:=(i1.drew.grown hg).c_gn
   rw [HG.out] at z
   go_simp
   exact gl
 · intros;apply ol;go_simp;exact gl
 · intro w' hg _
   apply ol
   go_simp
   refine (putSlot_any 1 A G 0 _ ⟨by omega,by omega⟩ ⟨by omega,by omega⟩ ⟨by omega,by omega⟩ ⟨by omega,by omega⟩).mono ?_
   rintro e w'' ⟨rfl,b9⟩
   exact ⟨_,rfl,b9,rfl⟩
 intro w5 hg _
 have m5:=m1.drew.below hg
 have i5:=i1.drew.grown hg
 have v5:=(v1.grown ((Below.refl _ _).drew)).grown hg
 have o5 : Only (L.and b) w w5:=o1.drew.trans (Only.ofGrown hg)
 clear hg m1 i1 v1 o1
 go_wp2_with (go_at_call 66;refine (estore_in m5 _ _ _ _ _ _ _ _ (6 + t + x * 2) hn _).mono ?_;rintro e w6 ⟨rfl,m6,o6⟩)
 have m1:=m6
 have i1:=i5.only o6 hb
 have v1:=v5.only o6 hbv
 have o1:=o5.trans (o6.andL (b:=b))
 clear m6 m5 i5 v5 o5 o6
 refine wp_region_rely_tail Grown 16 [.val (.pointer (some ⟨b,o,none⟩)),.val (.pointer (some ⟨b,o,none⟩)),.val (.pointer (some ⟨b,o,none⟩)),.val (.pointer (some ⟨b,o + 15,none⟩)),.val (.pointer (some ⟨b,o + 17,none⟩)),.val (.int .i64 x),.val (.pointer (some ⟨b,o,none⟩)),.val (.pointer (some ⟨b,o,none⟩)),.val (.pointer (some ⟨b,o + 15,none⟩)),.val (.pointer (some ⟨b,o + 18,none⟩)),.val (.int .i64 G),.val (.agg #[.int .i64 x,.int .i64 G]),.val (.int .u64 (packH x G)),.val (.pointer (some ⟨b,o,none⟩)),.val (.pointer (some ⟨b,o + 22,none⟩)),.val (.pointer (some ⟨b,o + 23,none⟩))] (by kernel_rfl) Grown.refl Grown.trans (by decide) (by kernel_rfl) (by kernel_rfl) (by kernel_rfl) (by kernel_rfl) (by kernel_rfl) (by kernel_rfl) ?_
 simp only [List.take_succ_cons,List.take_zero,relyAll,Act.put,List.setIfInBounds_toArray,List.set_cons_zero,List.set_cons_succ]
 refine ⟨?_,?_,?_,?_,?_,?_,?_,?_,?_,?_,?_,?_,?_,?_,?_,?_,?_⟩
 · intros;apply ol;go_simp;exact gl
 · intros;apply ol;go_simp;exact gl
 · intros;apply ol;go_simp;exact gl
 · intros;apply ol;go_simp;exact gl
 · intros;apply ol;go_simp;exact gl
 · intro w' hg _
   apply ol
   have z:=(i1.drew.grown hg).c_sl
   rw [HX.out] at z
   go_simp
   exact gl
 · intros;apply ol;go_simp;exact gl
 · intros;apply ol;go_simp;exact gl
 · intros;apply ol;go_simp;exact gl
 · intros;apply ol;go_simp;exact gl
 · intro w' hg _
   apply ol
   have z:=(i1.drew.grown hg).c_gn
   rw [HG.out] at z
   go_simp
   exact gl
 · intros;apply ol;go_simp;exact gl
 · intro w' hg _
   apply ol
   go_simp
   refine (putHandle_any x G _ ⟨by omega,by omega⟩ ⟨by omega,by omega⟩).mono ?_
   rintro e w'' ⟨rfl,b9⟩
   exact ⟨_,rfl,b9,rfl⟩
 · intros;apply ol;go_simp;exact gl
 · intros;apply ol;go_simp;exact gl
 · intros;apply ol;go_simp;exact gl
 intro w7 hg _
 have m5:=m1.drew.below hg
 have i5:=i1.drew.grown hg
 have v5:=(v1.grown ((Below.refl _ _).drew)).grown hg
 have o5 : Only (L.and b) w w7:=o1.drew.trans (Only.ofGrown hg)
 clear hg m1 i1 v1 o1
 have k0:=i5.c_H
 have kf:=i5.fz
 have i8:=i5.set_H (packH x G)
 have m8:=m5.setIn hb (o + 23) (.int .u64 (packH x G))
 have v8:=v5.setIn hbb (o + 23) (.int .u64 (packH x G))
 have o8:=o5.set (o + 23) (.int .u64 (packH x G))
 obtain ⟨z0,z1,z2,z3,z4,z5,z6,z7,z8⟩:=id v8
 go_wp2_with (go_at_call 17;refine (now_any m8 _ _ _ _ _ _ _ _ st HS.out).mono ?_;rintro e w9 ⟨rfl,b9⟩;have i9:=i8.grown b9;have k1:=i9.c_St;have k2:=i9.c_nx;have kg:=i9.fz)
 go_end0
 exact ⟨rfl,_,_,_,((m8.below b9).setIn hb _ _).setIn hb _ _,((o8.trans (Only.ofGrown b9)).set _ _).set _ _,(i9.set_St st).set_nx 6,((Same.refl.set (by omega) _).set (by omega) _).set (by omega) _,rfl,rfl⟩
theorem agive_on {w : World} {L : Loc} {s : Mm} {b o : Nat} {T : TypeId} {cs : Array Value} {a : AV} {t n k m : Nat} {g p r : Int} (h : MemAt w L s) (hb : ¬ L.has b) (hi : AlAt w b o T cs a) (who : Int) {σ c : Nat} {lk : Nat -> Nat} {F : List Nat} (hp : Pile t n s σ c lk F) (hσ : σ < 1000000) (ht8 : t <= 8) {x : Nat} (hx : x < n) (hF : x ∉ F) (γ : Gv) (hgv : γ.cells x a.gv) (hg : γ.good n c lk F x) (ho : γ.done = false) (c' : Nat) (lk' : Nat -> Nat) (F' : List Nat) (γ' : Gv) (ht : gvTurn c lk F x γ = (c',lk',F',γ')) (hd : γ'.done = false) :
 Calls Tryz.prog 78 #[.pointer (some ⟨b,o,none⟩),.agg #[.int .i64 t,.int .i64 n,.int .i64 k,.int .i64 m,.int .i64 g,.int .i64 p,.int .i64 r,.pointer (some ⟨L.p,0,none⟩),.int .i64 who]] w fun e w'=>e = .returned (.tuple #[]) /\ Acts L b o T cs w w' (fun s' a'=>Pile t n s' (σ + 1) c' lk' F' /\ (∃ v,s' = (s.by who).step (γ.at t x) v) /\ γ'.good n c' lk' F' x /\ ∃ l,γ'.cells x l /\ a' = { a with gv:=l }):=by
 have hbv : ¬ L.has w.heap.size:=fun hh=>by have:=h.lt _ hh;omega
 have hbb : ¬ w.heap.size = b:=fun hh=>by have:=hi.lt;omega
 have HT : Hid (gvTurn c lk F x γ = (c',lk',F',γ')):=ht
 have HO : Hid (γ.done = false):=ho
 clear ht ho
 go_enter Tryz.func78,Tryz.ntmps78
 go_wp2
 refine wp_over (fun W=>MemAt W L s /\ AlAt W b o T (cs) a /\ BoxV W w.heap.size t n k m g p r L.p who /\ Only (L.and b) w W) ⟨h.alloc _,hi.grown (grow_alloc (Below.refl _ _) _),BoxV.new,(Only.refl _ _).alloc _⟩ ?_
 rintro W ⟨m1,i1,v1,o1⟩
 refine wp_region_rely_tail Grown 4 [.val (.pointer (some ⟨b,o,none⟩)),.val (.pointer (some ⟨b,o,none⟩)),.val (.pointer (some ⟨b,o + 12,none⟩)),.val (.agg #[.int .i64 t,.int .i64 n,.int .i64 k,.int .i64 m,.int .i64 g,.int .i64 p,.int .i64 r,.pointer (some ⟨L.p,0,none⟩),.int .i64 who])] (by kernel_rfl) Grown.refl Grown.trans (by decide) (by kernel_rfl) (by kernel_rfl) (by kernel_rfl) (by kernel_rfl) (by kernel_rfl) (by kernel_rfl) ?_
 simp only [List.take_succ_cons,List.take_zero,relyAll,Act.put,List.setIfInBounds_toArray,List.set_cons_zero,List.set_cons_succ]
 refine ⟨?_,?_,?_,?_,?_⟩
 · intros;apply ol;go_simp;exact gl
 · intros;apply ol;go_simp;exact gl
 · intros;apply ol;go_simp;exact gl
 · intro w' hg _
   apply ol
   obtain ⟨y0,y1,y2,y3,y4,y5,y6,y7,y8⟩:=(v1.grown ((Below.refl _ _).drew)).grown hg
   go_simp
   exact gl
 intro w5 hg _
 have m5:=m1.drew.below hg
 have i5:=i1.drew.grown hg
 have v5:=(v1.grown ((Below.refl _ _).drew)).grown hg
 have o5 : Only (L.and b) w w5:=o1.drew.trans (Only.ofGrown hg)
 clear hg m1 i1 v1 o1
 go_wp2_with (first
  | (go_at_call 91;refine (give_turn m5 hb hp hσ ht8 hx hF γ ⟨_,i5.gvAt,hgv⟩ hg HO.out _ _ _ _ _ _ c' lk' F' γ' HT.out false hd).mono ?_;rintro e w6 ⟨rfl,s6,cs6,P⟩;obtain ⟨l6,a6,q6⟩:=P.a;have i6:=i5.step_gv a6 (Gv.cells_len q6) P.same;have v6:=v5.only P.only (fun hh=>hh.elim hbv hbb);have o6:=o5.trans P.only;have s6' : Same o 26 cs cs6:=P.same.wide (by omega) (by omega);obtain ⟨z0,z1,z2,z3,z4,z5,z6,z7,z8⟩:=id v6))
 go_end0
 exact ⟨rfl,s6,cs6,_,P.m,o6,i6,s6',P.p,P.st,P.good,l6,q6,rfl⟩
theorem agive_over {w : World} {L : Loc} {s : Mm} {b o : Nat} {T : TypeId} {cs : Array Value} {a : AV} {t n k m : Nat} {g p r : Int} (h : MemAt w L s) (hb : ¬ L.has b) (hi : AlAt w b o T cs a) (who : Int) {σ c : Nat} {lk : Nat -> Nat} {F : List Nat} (hp : Pile t n s σ c lk F) (hσ : σ < 1000000) (ht8 : t <= 8) {x : Nat} (hx : x < n) (hF : x ∉ F) (γ : Gv) (hgv : γ.cells x a.gv) (hg : γ.good n c lk F x) (ho : γ.done = false) (c' : Nat) (lk' : Nat -> Nat) (F' : List Nat) (γ' : Gv) (ht : gvTurn c lk F x γ = (c',lk',F',γ')) (hd : γ'.done = true) :
 Calls Tryz.prog 78 #[.pointer (some ⟨b,o,none⟩),.agg #[.int .i64 t,.int .i64 n,.int .i64 k,.int .i64 m,.int .i64 g,.int .i64 p,.int .i64 r,.pointer (some ⟨L.p,0,none⟩),.int .i64 who]] w fun e w'=>e = .returned (.tuple #[]) /\ Acts L b o T cs w w' (fun s' a'=>Pile t n s' (σ + 1) c' lk' F' /\ (∃ v,s' = (s.by who).step (γ.at t x) v) /\ ∃ l,l.length = 3 /\ a' = { a with gv:=l,nx:=8,E:=6,H:=0,V:=0,St:=((σ + 1 : Nat) : Int) }):=by
 have hbv : ¬ L.has w.heap.size:=fun hh=>by have:=h.lt _ hh;omega
 have hbb : ¬ w.heap.size = b:=fun hh=>by have:=hi.lt;omega
 have HT : Hid (gvTurn c lk F x γ = (c',lk',F',γ')):=ht
 have HO : Hid (γ.done = false):=ho
 clear ht ho
 go_enter Tryz.func78,Tryz.ntmps78
 go_wp2
 refine wp_over (fun W=>MemAt W L s /\ AlAt W b o T (cs) a /\ BoxV W w.heap.size t n k m g p r L.p who /\ Only (L.and b) w W) ⟨h.alloc _,hi.grown (grow_alloc (Below.refl _ _) _),BoxV.new,(Only.refl _ _).alloc _⟩ ?_
 rintro W ⟨m1,i1,v1,o1⟩
 refine wp_region_rely_tail Grown 4 [.val (.pointer (some ⟨b,o,none⟩)),.val (.pointer (some ⟨b,o,none⟩)),.val (.pointer (some ⟨b,o + 12,none⟩)),.val (.agg #[.int .i64 t,.int .i64 n,.int .i64 k,.int .i64 m,.int .i64 g,.int .i64 p,.int .i64 r,.pointer (some ⟨L.p,0,none⟩),.int .i64 who])] (by kernel_rfl) Grown.refl Grown.trans (by decide) (by kernel_rfl) (by kernel_rfl) (by kernel_rfl) (by kernel_rfl) (by kernel_rfl) (by kernel_rfl) ?_
 simp only [List.take_succ_cons,List.take_zero,relyAll,Act.put,List.setIfInBounds_toArray,List.set_cons_zero,List.set_cons_succ]
 refine ⟨?_,?_,?_,?_,?_⟩
 · intros;apply ol;go_simp;exact gl
 · intros;apply ol;go_simp;exact gl
 · intros;apply ol;go_simp;exact gl
 · intro w' hg _
   apply ol
   obtain ⟨y0,y1,y2,y3,y4,y5,y6,y7,y8⟩:=(v1.grown ((Below.refl _ _).drew)).grown hg
   go_simp
   exact gl
 intro w5 hg _
 have m5:=m1.drew.below hg
 have i5:=i1.drew.grown hg
 have v5:=(v1.grown ((Below.refl _ _).drew)).grown hg
 have o5 : Only (L.and b) w w5:=o1.drew.trans (Only.ofGrown hg)
 clear hg m1 i1 v1 o1
 go_wp2_with (first
  | (go_at_call 91;refine (give_turn m5 hb hp hσ ht8 hx hF γ ⟨_,i5.gvAt,hgv⟩ hg HO.out _ _ _ _ _ _ c' lk' F' γ' HT.out true hd).mono ?_;rintro e w6 ⟨rfl,s6,cs6,P⟩;obtain ⟨l6,a6,q6⟩:=P.a;have i6:=i5.step_gv a6 (Gv.cells_len q6) P.same;have v6:=v5.only P.only (fun hh=>hh.elim hbv hbb);have o6:=o5.trans P.only;have s6' : Same o 26 cs cs6:=P.same.wide (by omega) (by omega);obtain ⟨z0,z1,z2,z3,z4,z5,z6,z7,z8⟩:=id v6)
  | (go_at_call 79;refine (arefuse P.m hb i6 _ _ (σ + 1) P.p.st).mono ?_;rintro e w8 ⟨rfl,s8,cs8,a8,m8,o8,i8,q8,rfl,rfl⟩))
 go_end0
 exact ⟨rfl,_,cs8,_,m8,o6.trans o8,i8,s6'.trans q8,P.p,P.st,l6,Gv.cells_len q6,rfl⟩
end Go.Proofs.YtlolfmoolgenpaaGreat

namespace Go.Proofs.YtlolfmoolgenpaaGreat
open Go.RowKit
theorem astep_take {w : World} {L : Loc} {s : Mm} {b o : Nat} {T : TypeId} {cs : Array Value} {a : AV} {t n k m : Nat} {g p r : Int} (h : MemAt w L s) (hi : AlAt w b o T cs a) (who : Int) (hnx : a.nx = 0) (X : Mm -> AV -> Prop) (d : Bool) (hX : ∀ s' a',X s' a' -> (a'.nx == 8) = d)
 (hc : ∀ w1 : World,MemAt w1 L s -> AlAt w1 b o T cs a -> Calls Tryz.prog 72 #[.pointer (some ⟨b,o,none⟩),.agg #[.int .i64 t,.int .i64 n,.int .i64 k,.int .i64 m,.int .i64 g,.int .i64 p,.int .i64 r,.pointer (some ⟨L.p,0,none⟩),.int .i64 who]] w1 fun e w'=>e = .returned (.tuple #[]) /\ Acts L b o T cs w1 w' X) :
 Calls Tryz.prog 70 #[.pointer (some ⟨b,o,none⟩),.agg #[.int .i64 t,.int .i64 n,.int .i64 k,.int .i64 m,.int .i64 g,.int .i64 p,.int .i64 r,.pointer (some ⟨L.p,0,none⟩),.int .i64 who]] w fun e w'=>e = .returned (.bool d) /\ Acts L b o T cs w w' X:=by
 have i1:=hi.grown (grow_alloc (Below.refl _ _) (.cells #[.int .i64 t,.int .i64 n,.int .i64 k,.int .i64 m,.int .i64 g,.int .i64 p,.int .i64 r,.pointer (some ⟨L.p,0,none⟩),.int .i64 who] 27))
 have m1:=h.alloc (.cells #[.int .i64 t,.int .i64 n,.int .i64 k,.int .i64 m,.int .i64 g,.int .i64 p,.int .i64 r,.pointer (some ⟨L.p,0,none⟩),.int .i64 who] 27)
 have k0:=i1.c_nx
 rw [hnx] at k0
 go_enter Tryz.func70,Tryz.ntmps70
 go_wp2_with (go_at_call 72;refine (hc _ m1 i1).mono ?_;rintro e w2 ⟨rfl,s2,cs2,a2,m2,o2,i2,q2,x2⟩;have k2:=i2.c_nx)
 go_ret
 exact ⟨ret_bool (hX _ _ x2),s2,cs2,a2,m2,((Only.refl _ _).alloc _).trans o2,i2,q2,x2⟩
theorem astep_ask {w : World} {L : Loc} {s : Mm} {b o : Nat} {T : TypeId} {cs : Array Value} {a : AV} {t n k m : Nat} {g p r : Int} (h : MemAt w L s) (hi : AlAt w b o T cs a) (who : Int) (hnx : a.nx = 1) (X : Mm -> AV -> Prop) (d : Bool) (hX : ∀ s' a',X s' a' -> (a'.nx == 8) = d)
 (hc : ∀ w1 : World,MemAt w1 L s -> AlAt w1 b o T cs a -> Calls Tryz.prog 73 #[.pointer (some ⟨b,o,none⟩),.agg #[.int .i64 t,.int .i64 n,.int .i64 k,.int .i64 m,.int .i64 g,.int .i64 p,.int .i64 r,.pointer (some ⟨L.p,0,none⟩),.int .i64 who]] w1 fun e w'=>e = .returned (.tuple #[]) /\ Acts L b o T cs w1 w' X) :
 Calls Tryz.prog 70 #[.pointer (some ⟨b,o,none⟩),.agg #[.int .i64 t,.int .i64 n,.int .i64 k,.int .i64 m,.int .i64 g,.int .i64 p,.int .i64 r,.pointer (some ⟨L.p,0,none⟩),.int .i64 who]] w fun e w'=>e = .returned (.bool d) /\ Acts L b o T cs w w' X:=by
 have i1:=hi.grown (grow_alloc (Below.refl _ _) (.cells #[.int .i64 t,.int .i64 n,.int .i64 k,.int .i64 m,.int .i64 g,.int .i64 p,.int .i64 r,.pointer (some ⟨L.p,0,none⟩),.int .i64 who] 27))
 have m1:=h.alloc (.cells #[.int .i64 t,.int .i64 n,.int .i64 k,.int .i64 m,.int .i64 g,.int .i64 p,.int .i64 r,.pointer (some ⟨L.p,0,none⟩),.int .i64 who] 27)
 have k0:=i1.c_nx
 rw [hnx] at k0
 go_enter Tryz.func70,Tryz.ntmps70
 go_wp2_with (go_at_call 73;refine (hc _ m1 i1).mono ?_;rintro e w2 ⟨rfl,s2,cs2,a2,m2,o2,i2,q2,x2⟩;have k2:=i2.c_nx)
 go_ret
 exact ⟨ret_bool (hX _ _ x2),s2,cs2,a2,m2,((Only.refl _ _).alloc _).trans o2,i2,q2,x2⟩
theorem astep_words {w : World} {L : Loc} {s : Mm} {b o : Nat} {T : TypeId} {cs : Array Value} {a : AV} {t n k m : Nat} {g p r : Int} (h : MemAt w L s) (hi : AlAt w b o T cs a) (who : Int) (hnx : a.nx = 2) (X : Mm -> AV -> Prop) (d : Bool) (hX : ∀ s' a',X s' a' -> (a'.nx == 8) = d)
 (hc : ∀ w1 : World,MemAt w1 L s -> AlAt w1 b o T cs a -> Calls Tryz.prog 74 #[.pointer (some ⟨b,o,none⟩),.agg #[.int .i64 t,.int .i64 n,.int .i64 k,.int .i64 m,.int .i64 g,.int .i64 p,.int .i64 r,.pointer (some ⟨L.p,0,none⟩),.int .i64 who]] w1 fun e w'=>e = .returned (.tuple #[]) /\ Acts L b o T cs w1 w' X) :
 Calls Tryz.prog 70 #[.pointer (some ⟨b,o,none⟩),.agg #[.int .i64 t,.int .i64 n,.int .i64 k,.int .i64 m,.int .i64 g,.int .i64 p,.int .i64 r,.pointer (some ⟨L.p,0,none⟩),.int .i64 who]] w fun e w'=>e = .returned (.bool d) /\ Acts L b o T cs w w' X:=by
 have i1:=hi.grown (grow_alloc (Below.refl _ _) (.cells #[.int .i64 t,.int .i64 n,.int .i64 k,.int .i64 m,.int .i64 g,.int .i64 p,.int .i64 r,.pointer (some ⟨L.p,0,none⟩),.int .i64 who] 27))
 have m1:=h.alloc (.cells #[.int .i64 t,.int .i64 n,.int .i64 k,.int .i64 m,.int .i64 g,.int .i64 p,.int .i64 r,.pointer (some ⟨L.p,0,none⟩),.int .i64 who] 27)
 have k0:=i1.c_nx
 rw [hnx] at k0
 go_enter Tryz.func70,Tryz.ntmps70
 go_wp2_with (go_at_call 74;refine (hc _ m1 i1).mono ?_;rintro e w2 ⟨rfl,s2,cs2,a2,m2,o2,i2,q2,x2⟩;have k2:=i2.c_nx)
 go_ret
 exact ⟨ret_bool (hX _ _ x2),s2,cs2,a2,m2,((Only.refl _ _).alloc _).trans o2,i2,q2,x2⟩
theorem astep_count {w : World} {L : Loc} {s : Mm} {b o : Nat} {T : TypeId} {cs : Array Value} {a : AV} {t n k m : Nat} {g p r : Int} (h : MemAt w L s) (hi : AlAt w b o T cs a) (who : Int) (hnx : a.nx = 3) (X : Mm -> AV -> Prop) (d : Bool) (hX : ∀ s' a',X s' a' -> (a'.nx == 8) = d)
 (hc : ∀ w1 : World,MemAt w1 L s -> AlAt w1 b o T cs a -> Calls Tryz.prog 75 #[.pointer (some ⟨b,o,none⟩),.agg #[.int .i64 t,.int .i64 n,.int .i64 k,.int .i64 m,.int .i64 g,.int .i64 p,.int .i64 r,.pointer (some ⟨L.p,0,none⟩),.int .i64 who]] w1 fun e w'=>e = .returned (.tuple #[]) /\ Acts L b o T cs w1 w' X) :
 Calls Tryz.prog 70 #[.pointer (some ⟨b,o,none⟩),.agg #[.int .i64 t,.int .i64 n,.int .i64 k,.int .i64 m,.int .i64 g,.int .i64 p,.int .i64 r,.pointer (some ⟨L.p,0,none⟩),.int .i64 who]] w fun e w'=>e = .returned (.bool d) /\ Acts L b o T cs w w' X:=by
 have i1:=hi.grown (grow_alloc (Below.refl _ _) (.cells #[.int .i64 t,.int .i64 n,.int .i64 k,.int .i64 m,.int .i64 g,.int .i64 p,.int .i64 r,.pointer (some ⟨L.p,0,none⟩),.int .i64 who] 27))
 have m1:=h.alloc (.cells #[.int .i64 t,.int .i64 n,.int .i64 k,.int .i64 m,.int .i64 g,.int .i64 p,.int .i64 r,.pointer (some ⟨L.p,0,none⟩),.int .i64 who] 27)
 have k0:=i1.c_nx
 rw [hnx] at k0
 go_enter Tryz.func70,Tryz.ntmps70
 go_wp2_with (go_at_call 75;refine (hc _ m1 i1).mono ?_;rintro e w2 ⟨rfl,s2,cs2,a2,m2,o2,i2,q2,x2⟩;have k2:=i2.c_nx)
 go_ret
 exact ⟨ret_bool (hX _ _ x2),s2,cs2,a2,m2,((Only.refl _ _).alloc _).trans o2,i2,q2,x2⟩
theorem astep_show {w : World} {L : Loc} {s : Mm} {b o : Nat} {T : TypeId} {cs : Array Value} {a : AV} {t n k m : Nat} {g p r : Int} (h : MemAt w L s) (hi : AlAt w b o T cs a) (who : Int) (hnx : a.nx = 5) (X : Mm -> AV -> Prop) (d : Bool) (hX : ∀ s' a',X s' a' -> (a'.nx == 8) = d)
 (hc : ∀ w1 : World,MemAt w1 L s -> AlAt w1 b o T cs a -> Calls Tryz.prog 77 #[.pointer (some ⟨b,o,none⟩),.agg #[.int .i64 t,.int .i64 n,.int .i64 k,.int .i64 m,.int .i64 g,.int .i64 p,.int .i64 r,.pointer (some ⟨L.p,0,none⟩),.int .i64 who]] w1 fun e w'=>e = .returned (.tuple #[]) /\ Acts L b o T cs w1 w' X) :
 Calls Tryz.prog 70 #[.pointer (some ⟨b,o,none⟩),.agg #[.int .i64 t,.int .i64 n,.int .i64 k,.int .i64 m,.int .i64 g,.int .i64 p,.int .i64 r,.pointer (some ⟨L.p,0,none⟩),.int .i64 who]] w fun e w'=>e = .returned (.bool d) /\ Acts L b o T cs w w' X:=by
 have i1:=hi.grown (grow_alloc (Below.refl _ _) (.cells #[.int .i64 t,.int .i64 n,.int .i64 k,.int .i64 m,.int .i64 g,.int .i64 p,.int .i64 r,.pointer (some ⟨L.p,0,none⟩),.int .i64 who] 27))
 have m1:=h.alloc (.cells #[.int .i64 t,.int .i64 n,.int .i64 k,.int .i64 m,.int .i64 g,.int .i64 p,.int .i64 r,.pointer (some ⟨L.p,0,none⟩),.int .i64 who] 27)
 have k0:=i1.c_nx
 rw [hnx] at k0
 go_enter Tryz.func70,Tryz.ntmps70
 go_wp2_with (go_at_call 77;refine (hc _ m1 i1).mono ?_;rintro e w2 ⟨rfl,s2,cs2,a2,m2,o2,i2,q2,x2⟩;have k2:=i2.c_nx)
 go_ret
 exact ⟨ret_bool (hX _ _ x2),s2,cs2,a2,m2,((Only.refl _ _).alloc _).trans o2,i2,q2,x2⟩
theorem astep_give {w : World} {L : Loc} {s : Mm} {b o : Nat} {T : TypeId} {cs : Array Value} {a : AV} {t n k m : Nat} {g p r : Int} (h : MemAt w L s) (hi : AlAt w b o T cs a) (who : Int) (hnx : a.nx = 7) (X : Mm -> AV -> Prop) (d : Bool) (hX : ∀ s' a',X s' a' -> (a'.nx == 8) = d)
 (hc : ∀ w1 : World,MemAt w1 L s -> AlAt w1 b o T cs a -> Calls Tryz.prog 78 #[.pointer (some ⟨b,o,none⟩),.agg #[.int .i64 t,.int .i64 n,.int .i64 k,.int .i64 m,.int .i64 g,.int .i64 p,.int .i64 r,.pointer (some ⟨L.p,0,none⟩),.int .i64 who]] w1 fun e w'=>e = .returned (.tuple #[]) /\ Acts L b o T cs w1 w' X) :
 Calls Tryz.prog 70 #[.pointer (some ⟨b,o,none⟩),.agg #[.int .i64 t,.int .i64 n,.int .i64 k,.int .i64 m,.int .i64 g,.int .i64 p,.int .i64 r,.pointer (some ⟨L.p,0,none⟩),.int .i64 who]] w fun e w'=>e = .returned (.bool d) /\ Acts L b o T cs w w' X:=by
 have i1:=hi.grown (grow_alloc (Below.refl _ _) (.cells #[.int .i64 t,.int .i64 n,.int .i64 k,.int .i64 m,.int .i64 g,.int .i64 p,.int .i64 r,.pointer (some ⟨L.p,0,none⟩),.int .i64 who] 27))
 have m1:=h.alloc (.cells #[.int .i64 t,.int .i64 n,.int .i64 k,.int .i64 m,.int .i64 g,.int .i64 p,.int .i64 r,.pointer (some ⟨L.p,0,none⟩),.int .i64 who] 27)
 have k0:=i1.c_nx
 rw [hnx] at k0
 go_enter Tryz.func70,Tryz.ntmps70
 go_wp2_with (go_at_call 78;refine (hc _ m1 i1).mono ?_;rintro e w2 ⟨rfl,s2,cs2,a2,m2,o2,i2,q2,x2⟩;have k2:=i2.c_nx)
 go_ret
 exact ⟨ret_bool (hX _ _ x2),s2,cs2,a2,m2,((Only.refl _ _).alloc _).trans o2,i2,q2,x2⟩
theorem astep_head {w : World} {L : Loc} {s : Mm} {b o : Nat} {T : TypeId} {cs : Array Value} {a : AV} {t n k m : Nat} {g p r : Int} (h : MemAt w L s) (hb : ¬ L.has b) (hi : AlAt w b o T cs a) (who : Int) (hnx : a.nx = 4) (z : Int) (fz : Fit z) (hz : a.sz = z) (x G A : Nat) (hx : a.sl = x) (hG : a.gn = G) (hA : a.sa = A) (ow : Bool) (hw : a.own = ow) (xb : x <= 1000000) (gb : G <= 1000000) (hn : A < s.n) :
 Calls Tryz.prog 70 #[.pointer (some ⟨b,o,none⟩),.agg #[.int .i64 t,.int .i64 n,.int .i64 k,.int .i64 m,.int .i64 g,.int .i64 p,.int .i64 r,.pointer (some ⟨L.p,0,none⟩),.int .i64 who]] w fun e w'=>e = .returned (.bool false) /\ Acts L b o T cs w w' (fun s' a'=>s' = (s.by who).step A (packOw 1 z x G ow) /\ a' = { a with kd:=1,nx:=5 }):=by
 have i1:=hi.grown (grow_alloc (Below.refl _ _) (.cells #[.int .i64 t,.int .i64 n,.int .i64 k,.int .i64 m,.int .i64 g,.int .i64 p,.int .i64 r,.pointer (some ⟨L.p,0,none⟩),.int .i64 who] 27))
 have m1:=h.alloc (.cells #[.int .i64 t,.int .i64 n,.int .i64 k,.int .i64 m,.int .i64 g,.int .i64 p,.int .i64 r,.pointer (some ⟨L.p,0,none⟩),.int .i64 who] 27)
 have k0:=i1.c_nx
 rw [hnx] at k0
 have hc:=fun (w1 : World) (mm : MemAt w1 L s) (i : AlAt w1 b o T cs a)=>ahead (g:=g) (p:=p) (r:=r) (t:=t) (n:=n) (k:=k) (m:=m) mm hb i who 1 ⟨by decide,by decide⟩ z fz hz x G A hx hG hA ow hw xb gb hn
 go_enter Tryz.func70,Tryz.ntmps70
 go_wp2_with (go_at_call 76;refine (hc _ m1 i1).mono ?_;rintro e w2 ⟨rfl,s2,cs2,a2,m2,o2,i2,q2,rfl,rfl⟩;have k2:=i2.c_nx;have kf:=i2.fz)
 go_ret
 exact ⟨rfl,_,_,_,m2.setIn hb _ _,(((Only.refl _ _).alloc _).trans o2).set _ _,i2.set_nx 5,q2.set (by omega) _,rfl,rfl⟩
theorem astep_ready {w : World} {L : Loc} {s : Mm} {b o : Nat} {T : TypeId} {cs : Array Value} {a : AV} {t n k m : Nat} {g p r : Int} (h : MemAt w L s) (hb : ¬ L.has b) (hi : AlAt w b o T cs a) (who : Int) (hnx : a.nx = 6) (z : Int) (fz : Fit z) (hz : a.sz = z) (x G A : Nat) (hx : a.sl = x) (hG : a.gn = G) (hA : a.sa = A) (ow : Bool) (hw : a.own = ow) (xb : x <= 1000000) (gb : G <= 1000000) (hn : A < s.n) :
 Calls Tryz.prog 70 #[.pointer (some ⟨b,o,none⟩),.agg #[.int .i64 t,.int .i64 n,.int .i64 k,.int .i64 m,.int .i64 g,.int .i64 p,.int .i64 r,.pointer (some ⟨L.p,0,none⟩),.int .i64 who]] w fun e w'=>e = .returned (.bool true) /\ Acts L b o T cs w w' (fun s' a'=>s' = (s.by who).step A (packOw 2 z x G ow) /\ a' = { a with kd:=2,nx:=8 }):=by
 have i1:=hi.grown (grow_alloc (Below.refl _ _) (.cells #[.int .i64 t,.int .i64 n,.int .i64 k,.int .i64 m,.int .i64 g,.int .i64 p,.int .i64 r,.pointer (some ⟨L.p,0,none⟩),.int .i64 who] 27))
 have m1:=h.alloc (.cells #[.int .i64 t,.int .i64 n,.int .i64 k,.int .i64 m,.int .i64 g,.int .i64 p,.int .i64 r,.pointer (some ⟨L.p,0,none⟩),.int .i64 who] 27)
 have k0:=i1.c_nx
 rw [hnx] at k0
 have hc:=fun (w1 : World) (mm : MemAt w1 L s) (i : AlAt w1 b o T cs a)=>ahead (g:=g) (p:=p) (r:=r) (t:=t) (n:=n) (k:=k) (m:=m) mm hb i who 2 ⟨by decide,by decide⟩ z fz hz x G A hx hG hA ow hw xb gb hn
 go_enter Tryz.func70,Tryz.ntmps70
 go_wp2_with (go_at_call 76;refine (hc _ m1 i1).mono ?_;rintro e w2 ⟨rfl,s2,cs2,a2,m2,o2,i2,q2,rfl,rfl⟩;have k2:=i2.c_nx;have kf:=i2.fz)
 go_ret
 exact ⟨rfl,_,_,_,m2.setIn hb _ _,(((Only.refl _ _).alloc _).trans o2).set _ _,i2.set_nx 8,q2.set (by omega) _,rfl,rfl⟩
def av0 (z : Int) (own : Bool) : AV:=⟨0,TkV 0 0 0 0,PlV 0 0 0 0 0 0 0,GvV 0 0 0,0,z,0,0,own,0,0,0,0,0,0⟩
def alloc0 (z : Int) (own : Bool) : Obj:=.cells #[.int .i64 0,.int .i64 0,.int .u64 0,.int .i64 0,.int .i64 0,.int .i64 0,.int .i64 0,.int .u64 0,.int .i64 0,.int .u64 0,.int .i64 0,.int .i64 0,.int .i64 0,.int .i64 0,.int .u64 0,.int .i64 0,.int .i64 z,.int .i64 0,.int .i64 0,.bool own,.int .i64 0,.int .i64 0,.int .i64 0,.int .u64 0,.int .i64 0,.int .i64 0] 108
theorem newAlloc_any (z : Int) (own : Bool) (w : World) :
 Calls Tryz.prog 35 #[.int .i64 z,.bool own] w fun e w'=>e = .returned (.pointer (some ⟨w.heap.size,0,none⟩)) /\ w' = w.alloc (alloc0 z own):=by
 unfold alloc0
 go_enter Tryz.func35,Tryz.ntmps35
 go_wp2
 go_ret
 exact ⟨rfl,rfl⟩
theorem alloc0_at (z : Int) (own : Bool) (w : World) : ∃ cs,AlAt (w.alloc (alloc0 z own)) w.heap.size 0 108 cs (av0 z own):=by
 refine ⟨_,Go.Deep.blk_alloc_new _ _,rfl,rfl,rfl,rfl,fun i v hv=>?_,fun i v hv=>?_,fun i v hv=>?_,rfl,rfl,rfl,rfl,rfl,rfl,rfl,rfl,rfl,rfl,rfl⟩
 · have hl : i < 4:=lt_of_some hv
   match i,hl with
   | 0,_=>exact hv
   | 1,_=>exact hv
   | 2,_=>exact hv
   | 3,_=>exact hv
 · have hl : i < 7:=lt_of_some hv
   match i,hl with
   | 0,_=>exact hv
   | 1,_=>exact hv
   | 2,_=>exact hv
   | 3,_=>exact hv
   | 4,_=>exact hv
   | 5,_=>exact hv
   | 6,_=>exact hv
 · have hl : i < 3:=lt_of_some hv
   match i,hl with
   | 0,_=>exact hv
   | 1,_=>exact hv
   | 2,_=>exact hv
theorem adone_over {w : World} {b o : Nat} {T : TypeId} {cs : Array Value} {a : AV} (hi : AlAt w b o T cs a) (hnx : a.nx = 8) :
 Calls Tryz.prog 69 #[.pointer (some ⟨b,o,none⟩)] w fun e w'=>e = .returned (.agg #[.int .i64 a.E,.int .u64 a.H,.int .i64 a.V,.int .i64 a.St]) /\ Below w.heap.size w w':=by
 have i1:=hi.grown (grow_alloc (Below.refl _ _) (.cells #[.int .i64 0,.int .u64 0,.int .i64 0,.int .i64 0] 40))
 have k0:=i1.c_nx
 rw [hnx] at k0
 have k1:=i1.c_E
 have k2:=i1.c_H
 have k3:=i1.c_V
 have k4:=i1.c_St
 go_enter Tryz.func69,Tryz.ntmps69
 go_wp2
 refine bodyPost_ret (v:=.agg #[.int .i64 a.E,.int .u64 a.H,.int .i64 a.V,.int .i64 a.St]) (by simp [results,Tryz.results69,go_sem]) rfl ?_
 refine ⟨rfl,?_⟩
 first
  | exact grow_alloc (Below.refl _ _) _
  | exact below_setIn (below_setIn (below_setIn (below_setIn (grow_alloc (Below.refl _ _) _) (Nat.le_refl _) _ _) (Nat.le_refl _) _ _) (Nat.le_refl _) _ _) (Nat.le_refl _) _ _
end Go.Proofs.YtlolfmoolgenpaaGreat
