import Derived.Test.YtlolfmoolgenpaaGreatDropAwake
namespace Go.Proofs.YtlolfmoolgenpaaGreat
open Go.RowKit
structure CV where
 nx : Int
 kd : Int
 nu : Int
 ix : Int
 vl : Int
 ol : Int
 own : Bool
 se : Int
 at_ : Int
 sz : Int
 ce : Int
 ld : Int
 hl : List Value
 E : Int
 H : Int
 V : Int
 St : Int
structure AcAt (w : World) (b o : Nat) (T : TypeId) (c : Array Value) (a : CV) : Prop where
 obj : w.heap[b]? = some (.cells c T (0,0))
 lhl : a.hl.length = 8
 hl : ∀ i v,a.hl[i]? = some v -> c[o + 12 + i]? = some v
 nx : c[o]? = some (.int .i64 a.nx)
 kd : c[o + 1]? = some (.int .i64 a.kd)
 nu : c[o + 2]? = some (.int .u64 a.nu)
 ix : c[o + 3]? = some (.int .i64 a.ix)
 vl : c[o + 4]? = some (.int .i64 a.vl)
 ol : c[o + 5]? = some (.int .i64 a.ol)
 own : c[o + 6]? = some (.bool a.own)
 se : c[o + 7]? = some (.int .u64 a.se)
 at_ : c[o + 8]? = some (.int .i64 a.at_)
 sz : c[o + 9]? = some (.int .i64 a.sz)
 ce : c[o + 10]? = some (.int .u64 a.ce)
 ld : c[o + 11]? = some (.int .i64 a.ld)
 E : c[o + 20]? = some (.int .i64 a.E)
 H : c[o + 21]? = some (.int .u64 a.H)
 V : c[o + 22]? = some (.int .i64 a.V)
 St : c[o + 23]? = some (.int .i64 a.St)
namespace AcAt
variable {w w' : World} {b o : Nat} {T : TypeId} {c c' : Array Value} {a : CV}
theorem lt (h : AcAt w b o T c a) : b < w.heap.size:=blk_lt h.obj
theorem fz (h : AcAt w b o T c a) (i : Nat) : w.frozen? ⟨b,i,none⟩ = false:=blk_frozen h.obj i
theorem of_block (h : AcAt w b o T c a) (e : w'.heap[b]? = w.heap[b]?) : AcAt w' b o T c a:={ h with obj:=e.trans h.obj }
theorem grown (h : AcAt w b o T c a) (g : Below w.heap.size w w') : AcAt w' b o T c a:=h.of_block (g.block _ h.lt)
theorem drew (h : AcAt w b o T c a) : AcAt w.drew b o T c a:=h.of_block rfl
theorem only {S : Nat -> Prop} (h : AcAt w b o T c a) (g : Only S w w') (hs : ¬ S b) : AcAt w' b o T c a:=h.of_block (g.block _ h.lt hs)
theorem other (h : AcAt w b o T c a) {k : Nat} (hk : b ≠ k) (i : Nat) (v : Value) : AcAt (w.setCell ⟨k,i,none⟩ v) b o T c a:=h.of_block (Go.Deep.blk_setCell_other _ _ _ _ (by simpa using hk))
theorem c_nx (h : AcAt w b o T c a) : w.cell? ⟨b,o,none⟩ = some (.int .i64 a.nx):=blk_cell h.obj h.nx
theorem c_kd (h : AcAt w b o T c a) : w.cell? ⟨b,o + 1,none⟩ = some (.int .i64 a.kd):=blk_cell h.obj h.kd
theorem c_nu (h : AcAt w b o T c a) : w.cell? ⟨b,o + 2,none⟩ = some (.int .u64 a.nu):=blk_cell h.obj h.nu
theorem c_ix (h : AcAt w b o T c a) : w.cell? ⟨b,o + 3,none⟩ = some (.int .i64 a.ix):=blk_cell h.obj h.ix
theorem c_vl (h : AcAt w b o T c a) : w.cell? ⟨b,o + 4,none⟩ = some (.int .i64 a.vl):=blk_cell h.obj h.vl
theorem c_ol (h : AcAt w b o T c a) : w.cell? ⟨b,o + 5,none⟩ = some (.int .i64 a.ol):=blk_cell h.obj h.ol
theorem c_own (h : AcAt w b o T c a) : w.cell? ⟨b,o + 6,none⟩ = some (.bool a.own):=blk_cell h.obj h.own
theorem c_se (h : AcAt w b o T c a) : w.cell? ⟨b,o + 7,none⟩ = some (.int .u64 a.se):=blk_cell h.obj h.se
theorem c_at_ (h : AcAt w b o T c a) : w.cell? ⟨b,o + 8,none⟩ = some (.int .i64 a.at_):=blk_cell h.obj h.at_
theorem c_sz (h : AcAt w b o T c a) : w.cell? ⟨b,o + 9,none⟩ = some (.int .i64 a.sz):=blk_cell h.obj h.sz
theorem c_ce (h : AcAt w b o T c a) : w.cell? ⟨b,o + 10,none⟩ = some (.int .u64 a.ce):=blk_cell h.obj h.ce
theorem c_ld (h : AcAt w b o T c a) : w.cell? ⟨b,o + 11,none⟩ = some (.int .i64 a.ld):=blk_cell h.obj h.ld
theorem c_E (h : AcAt w b o T c a) : w.cell? ⟨b,o + 20,none⟩ = some (.int .i64 a.E):=blk_cell h.obj h.E
theorem c_H (h : AcAt w b o T c a) : w.cell? ⟨b,o + 21,none⟩ = some (.int .u64 a.H):=blk_cell h.obj h.H
theorem c_V (h : AcAt w b o T c a) : w.cell? ⟨b,o + 22,none⟩ = some (.int .i64 a.V):=blk_cell h.obj h.V
theorem c_St (h : AcAt w b o T c a) : w.cell? ⟨b,o + 23,none⟩ = some (.int .i64 a.St):=blk_cell h.obj h.St
theorem set_nx (h : AcAt w b o T c a) (x : Int) : AcAt (w.setCell ⟨b,o,none⟩ (.int .i64 x)) b o T (c.setIfInBounds (o) (.int .i64 x)) { a with nx:=x } :=
 ⟨blk_setCell _ _ _ _ _ _ h.obj,h.lhl,rowskip h.hl _ (by have:=h.lhl;omega),putc _ h.nx,keepc h.kd (by omega),keepc h.nu (by omega),keepc h.ix (by omega),keepc h.vl (by omega),keepc h.ol (by omega),keepc h.own (by omega),keepc h.se (by omega),keepc h.at_ (by omega),keepc h.sz (by omega),keepc h.ce (by omega),keepc h.ld (by omega),keepc h.E (by omega),keepc h.H (by omega),keepc h.V (by omega),keepc h.St (by omega)⟩
theorem set_se (h : AcAt w b o T c a) (x : Int) : AcAt (w.setCell ⟨b,o + 7,none⟩ (.int .u64 x)) b o T (c.setIfInBounds (o + 7) (.int .u64 x)) { a with se:=x } :=
 ⟨blk_setCell _ _ _ _ _ _ h.obj,h.lhl,rowskip h.hl _ (by have:=h.lhl;omega),keepc h.nx (by omega),keepc h.kd (by omega),keepc h.nu (by omega),keepc h.ix (by omega),keepc h.vl (by omega),keepc h.ol (by omega),keepc h.own (by omega),putc _ h.se,keepc h.at_ (by omega),keepc h.sz (by omega),keepc h.ce (by omega),keepc h.ld (by omega),keepc h.E (by omega),keepc h.H (by omega),keepc h.V (by omega),keepc h.St (by omega)⟩
theorem set_at_ (h : AcAt w b o T c a) (x : Int) : AcAt (w.setCell ⟨b,o + 8,none⟩ (.int .i64 x)) b o T (c.setIfInBounds (o + 8) (.int .i64 x)) { a with at_:=x } :=
 ⟨blk_setCell _ _ _ _ _ _ h.obj,h.lhl,rowskip h.hl _ (by have:=h.lhl;omega),keepc h.nx (by omega),keepc h.kd (by omega),keepc h.nu (by omega),keepc h.ix (by omega),keepc h.vl (by omega),keepc h.ol (by omega),keepc h.own (by omega),keepc h.se (by omega),putc _ h.at_,keepc h.sz (by omega),keepc h.ce (by omega),keepc h.ld (by omega),keepc h.E (by omega),keepc h.H (by omega),keepc h.V (by omega),keepc h.St (by omega)⟩
theorem set_sz (h : AcAt w b o T c a) (x : Int) : AcAt (w.setCell ⟨b,o + 9,none⟩ (.int .i64 x)) b o T (c.setIfInBounds (o + 9) (.int .i64 x)) { a with sz:=x } :=
 ⟨blk_setCell _ _ _ _ _ _ h.obj,h.lhl,rowskip h.hl _ (by have:=h.lhl;omega),keepc h.nx (by omega),keepc h.kd (by omega),keepc h.nu (by omega),keepc h.ix (by omega),keepc h.vl (by omega),keepc h.ol (by omega),keepc h.own (by omega),keepc h.se (by omega),keepc h.at_ (by omega),putc _ h.sz,keepc h.ce (by omega),keepc h.ld (by omega),keepc h.E (by omega),keepc h.H (by omega),keepc h.V (by omega),keepc h.St (by omega)⟩
theorem set_ce (h : AcAt w b o T c a) (x : Int) : AcAt (w.setCell ⟨b,o + 10,none⟩ (.int .u64 x)) b o T (c.setIfInBounds (o + 10) (.int .u64 x)) { a with ce:=x } :=
 ⟨blk_setCell _ _ _ _ _ _ h.obj,h.lhl,rowskip h.hl _ (by have:=h.lhl;omega),keepc h.nx (by omega),keepc h.kd (by omega),keepc h.nu (by omega),keepc h.ix (by omega),keepc h.vl (by omega),keepc h.ol (by omega),keepc h.own (by omega),keepc h.se (by omega),keepc h.at_ (by omega),keepc h.sz (by omega),putc _ h.ce,keepc h.ld (by omega),keepc h.E (by omega),keepc h.H (by omega),keepc h.V (by omega),keepc h.St (by omega)⟩
theorem set_ld (h : AcAt w b o T c a) (x : Int) : AcAt (w.setCell ⟨b,o + 11,none⟩ (.int .i64 x)) b o T (c.setIfInBounds (o + 11) (.int .i64 x)) { a with ld:=x } :=
 ⟨blk_setCell _ _ _ _ _ _ h.obj,h.lhl,rowskip h.hl _ (by have:=h.lhl;omega),keepc h.nx (by omega),keepc h.kd (by omega),keepc h.nu (by omega),keepc h.ix (by omega),keepc h.vl (by omega),keepc h.ol (by omega),keepc h.own (by omega),keepc h.se (by omega),keepc h.at_ (by omega),keepc h.sz (by omega),keepc h.ce (by omega),putc _ h.ld,keepc h.E (by omega),keepc h.H (by omega),keepc h.V (by omega),keepc h.St (by omega)⟩
theorem set_E (h : AcAt w b o T c a) (x : Int) : AcAt (w.setCell ⟨b,o + 20,none⟩ (.int .i64 x)) b o T (c.setIfInBounds (o + 20) (.int .i64 x)) { a with E:=x } :=
 ⟨blk_setCell _ _ _ _ _ _ h.obj,h.lhl,rowskip h.hl _ (by have:=h.lhl;omega),keepc h.nx (by omega),keepc h.kd (by omega),keepc h.nu (by omega),keepc h.ix (by omega),keepc h.vl (by omega),keepc h.ol (by omega),keepc h.own (by omega),keepc h.se (by omega),keepc h.at_ (by omega),keepc h.sz (by omega),keepc h.ce (by omega),keepc h.ld (by omega),putc _ h.E,keepc h.H (by omega),keepc h.V (by omega),keepc h.St (by omega)⟩
theorem set_H (h : AcAt w b o T c a) (x : Int) : AcAt (w.setCell ⟨b,o + 21,none⟩ (.int .u64 x)) b o T (c.setIfInBounds (o + 21) (.int .u64 x)) { a with H:=x } :=
 ⟨blk_setCell _ _ _ _ _ _ h.obj,h.lhl,rowskip h.hl _ (by have:=h.lhl;omega),keepc h.nx (by omega),keepc h.kd (by omega),keepc h.nu (by omega),keepc h.ix (by omega),keepc h.vl (by omega),keepc h.ol (by omega),keepc h.own (by omega),keepc h.se (by omega),keepc h.at_ (by omega),keepc h.sz (by omega),keepc h.ce (by omega),keepc h.ld (by omega),keepc h.E (by omega),putc _ h.H,keepc h.V (by omega),keepc h.St (by omega)⟩
theorem set_V (h : AcAt w b o T c a) (x : Int) : AcAt (w.setCell ⟨b,o + 22,none⟩ (.int .i64 x)) b o T (c.setIfInBounds (o + 22) (.int .i64 x)) { a with V:=x } :=
 ⟨blk_setCell _ _ _ _ _ _ h.obj,h.lhl,rowskip h.hl _ (by have:=h.lhl;omega),keepc h.nx (by omega),keepc h.kd (by omega),keepc h.nu (by omega),keepc h.ix (by omega),keepc h.vl (by omega),keepc h.ol (by omega),keepc h.own (by omega),keepc h.se (by omega),keepc h.at_ (by omega),keepc h.sz (by omega),keepc h.ce (by omega),keepc h.ld (by omega),keepc h.E (by omega),keepc h.H (by omega),putc _ h.V,keepc h.St (by omega)⟩
theorem set_St (h : AcAt w b o T c a) (x : Int) : AcAt (w.setCell ⟨b,o + 23,none⟩ (.int .i64 x)) b o T (c.setIfInBounds (o + 23) (.int .i64 x)) { a with St:=x } :=
 ⟨blk_setCell _ _ _ _ _ _ h.obj,h.lhl,rowskip h.hl _ (by have:=h.lhl;omega),keepc h.nx (by omega),keepc h.kd (by omega),keepc h.nu (by omega),keepc h.ix (by omega),keepc h.vl (by omega),keepc h.ol (by omega),keepc h.own (by omega),keepc h.se (by omega),keepc h.at_ (by omega),keepc h.sz (by omega),keepc h.ce (by omega),keepc h.ld (by omega),keepc h.E (by omega),keepc h.H (by omega),keepc h.V (by omega),putc _ h.St⟩
end AcAt
def Cact (L : Loc) (b o : Nat) (T : TypeId) (cs : Array Value) (w w' : World) (X : Mm -> CV -> Prop) : Prop :=
 ∃ s' cs' a',MemAt w' L s' /\ Only (L.and b) w w' /\ AcAt w' b o T cs' a' /\ Same o 24 cs cs' /\ X s' a'
def phAc (L : Loc) (b o : Nat) (T : TypeId) (c c' : Array Value) (s s' : Mm) (a a' : CV) : Nat -> World -> Prop
 | 0,w=>MemAt w L s /\ AcAt w b o T c a
 | 1,w=>MemAt w L s' /\ AcAt w b o T c a
 | _,w=>MemAt w L s' /\ AcAt w b o T c' a'
theorem phAc_grown {L : Loc} {b o : Nat} {T : TypeId} {c c' : Array Value} {s s' : Mm} {a a' : CV} (x y : World) (p : Nat) (g : Grown x y) (k : phAc L b o T c c' s s' a a' p x) : phAc L b o T c c' s s' a a' p y:=by
 match p,k with
 | 0,k=>exact ⟨k.1.below g,k.2.grown g⟩
 | 1,k=>exact ⟨k.1.below g,k.2.grown g⟩
 | p + 2,k=>exact ⟨k.1.below g,k.2.grown g⟩
def cv0 (kd nu ix vl ol : Int) (own : Bool) : CV:=⟨0,kd,nu,ix,vl,ol,own,0,0,0,0,0,HpV 0 0 0 0 0 false false false,0,0,0,0⟩
def acc0 (kd nu ix vl ol : Int) (own : Bool) : Obj:=.cells #[.int .i64 0,.int .i64 kd,.int .u64 nu,.int .i64 ix,.int .i64 vl,.int .i64 ol,.bool own,.int .u64 0,.int .i64 0,.int .i64 0,.int .u64 0,.int .i64 0,.int .i64 0,.int .u64 0,.int .i64 0,.int .i64 0,.int .u64 0,.bool false,.bool false,.bool false,.int .i64 0,.int .u64 0,.int .i64 0,.int .i64 0] 119
theorem newAcc_any (kd nu ix vl ol : Int) (own : Bool) (w : World) :
 Calls Tryz.prog 42 #[.agg #[.int .i64 kd,.int .u64 nu,.int .i64 ix,.int .i64 vl,.int .i64 ol],.bool own] w fun e w'=>∃ W,e = .returned (.pointer (some ⟨W.heap.size,0,none⟩)) /\ w' = W.alloc (acc0 kd nu ix vl ol own) /\ Below w.heap.size w W:=by
 unfold acc0
 go_enter Tryz.func42,Tryz.ntmps42
 go_wp2
 go_ret
 exact ⟨w.alloc _,by rw [Go.Deep.nblk_alloc];rfl,rfl,grow1 _ _⟩
theorem acc0_at (kd nu ix vl ol : Int) (own : Bool) (w : World) : ∃ cs,AcAt (w.alloc (acc0 kd nu ix vl ol own)) w.heap.size 0 119 cs (cv0 kd nu ix vl ol own):=by
 refine ⟨_,Go.Deep.blk_alloc_new _ _,rfl,fun i v hv=>?_,rfl,rfl,rfl,rfl,rfl,rfl,rfl,rfl,rfl,rfl,rfl,rfl,rfl,rfl,rfl,rfl⟩
 have hl : i < 8:=lt_of_some hv
 match i,hl with
 | 0,_=>exact hv
 | 1,_=>exact hv
 | 2,_=>exact hv
 | 3,_=>exact hv
 | 4,_=>exact hv
 | 5,_=>exact hv
 | 6,_=>exact hv
 | 7,_=>exact hv
theorem adone_any {w : World} {b o : Nat} {T : TypeId} {cs : Array Value} {a : CV} (hi : AcAt w b o T cs a) :
 Calls Tryz.prog 141 #[.pointer (some ⟨b,o,none⟩)] w fun e w'=>e = .returned (.agg #[.int .i64 a.E,.int .u64 a.H,.int .i64 a.V,.int .i64 a.St]) /\ Below w.heap.size w w':=by
 have i1:=hi.grown (grow1 _ (.cells #[.int .i64 0,.int .u64 0,.int .i64 0,.int .i64 0] 40))
 have k1:=i1.c_E
 have k2:=i1.c_H
 have k3:=i1.c_V
 have k4:=i1.c_St
 have j1:=hi.c_E
 have j2:=hi.c_H
 have j3:=hi.c_V
 have j4:=hi.c_St
 go_enter Tryz.func141,Tryz.ntmps141
 go_wp2
 exact bodyPost_ret (v:=.agg #[.int .i64 a.E,.int .u64 a.H,.int .i64 a.V,.int .i64 a.St]) (by simp [results,Tryz.results141,go_sem]) rfl ⟨rfl,by first | exact Below.refl _ _ | exact grow1 _ _⟩
end Go.Proofs.YtlolfmoolgenpaaGreat
