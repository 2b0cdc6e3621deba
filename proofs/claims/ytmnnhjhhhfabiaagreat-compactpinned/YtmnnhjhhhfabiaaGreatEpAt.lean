import Derived.Test.YtmnnhjhhhfabiaaGreatStruct
namespace Go.Proofs.YtmnnhjhhhfabiaaGreat
open Go.RowKit
theorem kpc {c : Array Value} {i j : Nat} {u v : Value} (h : c[i]? = some u) (hj : j ≠ i) : (c.setIfInBounds j v)[i]? = some u:=by rw [Array.getElem?_setIfInBounds_ne hj];exact h
theorem ptc {c : Array Value} {i : Nat} {u : Value} (v : Value) (h : c[i]? = some u) : (c.setIfInBounds i v)[i]? = some v:=by rw [Array.getElem?_setIfInBounds_self_of_lt (Array.getElem?_eq_some_iff.1 h).1]
theorem gro1 (w : World) (O : Obj) : Below w.heap.size w (w.alloc O):=grow_alloc (Below.refl _ _) _
structure EV where
 ld : Bool
 ep : Int
 qn : Int
 ov : Bool
 wt : Bool
structure EvAt (w : World) (b o : Nat) (T : TypeId) (c : Array Value) (a : EV) : Prop where
 obj : w.heap[b]? = some (.cells c T (0,0))
 ld : c[o]? = some (.bool a.ld)
 ep : c[o + 1]? = some (.int .u64 a.ep)
 qn : c[o + 2]? = some (iV a.qn)
 ov : c[o + 3]? = some (.bool a.ov)
 wt : c[o + 4]? = some (.bool a.wt)
namespace EvAt
variable {w w' : World} {b o : Nat} {T : TypeId} {c c' : Array Value} {a : EV}
theorem lt (h : EvAt w b o T c a) : b < w.heap.size:=blk_lt h.obj
theorem fz (h : EvAt w b o T c a) (i : Nat) : w.frozen? ⟨b,i,none⟩ = false:=blk_frozen h.obj i
theorem of_block (h : EvAt w b o T c a) (e : w'.heap[b]? = w.heap[b]?) : EvAt w' b o T c a:={ h with obj:=e.trans h.obj }
theorem grown (h : EvAt w b o T c a) (g : Below w.heap.size w w') : EvAt w' b o T c a:=h.of_block (g.block _ h.lt)
theorem drew (h : EvAt w b o T c a) : EvAt w.drew b o T c a:=h.of_block rfl
theorem only {S : Nat -> Prop} (h : EvAt w b o T c a) (g : Only S w w') (hs : ¬ S b) : EvAt w' b o T c a:=h.of_block (g.block _ h.lt hs)
theorem c_ld (h : EvAt w b o T c a) : w.cell? ⟨b,o,none⟩ = some (.bool a.ld):=blk_cell h.obj h.ld
theorem c_ep (h : EvAt w b o T c a) : w.cell? ⟨b,o + 1,none⟩ = some (.int .u64 a.ep):=blk_cell h.obj h.ep
theorem c_qn (h : EvAt w b o T c a) : w.cell? ⟨b,o + 2,none⟩ = some (iV a.qn):=blk_cell h.obj h.qn
theorem c_ov (h : EvAt w b o T c a) : w.cell? ⟨b,o + 3,none⟩ = some (.bool a.ov):=blk_cell h.obj h.ov
theorem c_wt (h : EvAt w b o T c a) : w.cell? ⟨b,o + 4,none⟩ = some (.bool a.wt):=blk_cell h.obj h.wt
theorem set_ld (h : EvAt w b o T c a) (x : Bool) : EvAt (w.setCell ⟨b,o,none⟩ (.bool x)) b o T (c.setIfInBounds (o) (.bool x)) { a with ld:=x } :=
 ⟨blk_setCell _ _ _ _ _ _ h.obj,ptc _ h.ld,kpc h.ep (by omega),kpc h.qn (by omega),kpc h.ov (by omega),kpc h.wt (by omega)⟩
theorem set_ep (h : EvAt w b o T c a) (x : Int) : EvAt (w.setCell ⟨b,o + 1,none⟩ (.int .u64 x)) b o T (c.setIfInBounds (o + 1) (.int .u64 x)) { a with ep:=x } :=
 ⟨blk_setCell _ _ _ _ _ _ h.obj,kpc h.ld (by omega),ptc _ h.ep,kpc h.qn (by omega),kpc h.ov (by omega),kpc h.wt (by omega)⟩
theorem set_qn (h : EvAt w b o T c a) (x : Int) : EvAt (w.setCell ⟨b,o + 2,none⟩ (iV x)) b o T (c.setIfInBounds (o + 2) (iV x)) { a with qn:=x } :=
 ⟨blk_setCell _ _ _ _ _ _ h.obj,kpc h.ld (by omega),kpc h.ep (by omega),ptc _ h.qn,kpc h.ov (by omega),kpc h.wt (by omega)⟩
theorem set_ov (h : EvAt w b o T c a) (x : Bool) : EvAt (w.setCell ⟨b,o + 3,none⟩ (.bool x)) b o T (c.setIfInBounds (o + 3) (.bool x)) { a with ov:=x } :=
 ⟨blk_setCell _ _ _ _ _ _ h.obj,kpc h.ld (by omega),kpc h.ep (by omega),kpc h.qn (by omega),ptc _ h.ov,kpc h.wt (by omega)⟩
theorem set_wt (h : EvAt w b o T c a) (x : Bool) : EvAt (w.setCell ⟨b,o + 4,none⟩ (.bool x)) b o T (c.setIfInBounds (o + 4) (.bool x)) { a with wt:=x } :=
 ⟨blk_setCell _ _ _ _ _ _ h.obj,kpc h.ld (by omega),kpc h.ep (by omega),kpc h.qn (by omega),kpc h.ov (by omega),ptc _ h.wt⟩
end EvAt
def Eact (L : Loc) (b o : Nat) (T : TypeId) (cs : Array Value) (w w' : World) (X : Mm -> EV -> Prop) : Prop :=
 ∃ s' cs' a',MemAt w' L s' /\ Only (L.and b) w w' /\ EvAt w' b o T cs' a' /\ Same o 5 cs cs' /\ X s' a'
def phEv (L : Loc) (b o : Nat) (T : TypeId) (c c' : Array Value) (s s' : Mm) (a a' : EV) : Nat -> World -> Prop
 | 0,w=>MemAt w L s /\ EvAt w b o T c a
 | 1,w=>MemAt w L s' /\ EvAt w b o T c a
 | _,w=>MemAt w L s' /\ EvAt w b o T c' a'
theorem phEv_grown {L : Loc} {b o : Nat} {T : TypeId} {c c' : Array Value} {s s' : Mm} {a a' : EV} (x y : World) (p : Nat) (g : Grown x y) (k : phEv L b o T c c' s s' a a' p x) : phEv L b o T c c' s s' a a' p y:=by
 match p,k with
 | 0,k=>exact ⟨k.1.below g,k.2.grown g⟩
 | 1,k=>exact ⟨k.1.below g,k.2.grown g⟩
 | p + 2,k=>exact ⟨k.1.below g,k.2.grown g⟩
structure SV where
 nx : Int
 ch : Int
 st : Int
 cl : Int
 us : Int
 sp : Int
 si : Int
 cr : Int
 fr : Bool
structure SeAt (w : World) (b o : Nat) (T : TypeId) (c : Array Value) (a : SV) : Prop where
 obj : w.heap[b]? = some (.cells c T (0,0))
 nx : c[o]? = some (iV a.nx)
 ch : c[o + 1]? = some (iV a.ch)
 st : c[o + 2]? = some (iV a.st)
 cl : c[o + 3]? = some (iV a.cl)
 us : c[o + 4]? = some (iV a.us)
 sp : c[o + 5]? = some (iV a.sp)
 si : c[o + 6]? = some (.int .u64 a.si)
 cr : c[o + 7]? = some (iV a.cr)
 fr : c[o + 8]? = some (.bool a.fr)
namespace SeAt
variable {w w' : World} {b o : Nat} {T : TypeId} {c c' : Array Value} {a : SV}
theorem lt (h : SeAt w b o T c a) : b < w.heap.size:=blk_lt h.obj
theorem fz (h : SeAt w b o T c a) (i : Nat) : w.frozen? ⟨b,i,none⟩ = false:=blk_frozen h.obj i
theorem of_block (h : SeAt w b o T c a) (e : w'.heap[b]? = w.heap[b]?) : SeAt w' b o T c a:={ h with obj:=e.trans h.obj }
theorem grown (h : SeAt w b o T c a) (g : Below w.heap.size w w') : SeAt w' b o T c a:=h.of_block (g.block _ h.lt)
theorem drew (h : SeAt w b o T c a) : SeAt w.drew b o T c a:=h.of_block rfl
theorem only {S : Nat -> Prop} (h : SeAt w b o T c a) (g : Only S w w') (hs : ¬ S b) : SeAt w' b o T c a:=h.of_block (g.block _ h.lt hs)
theorem c_nx (h : SeAt w b o T c a) : w.cell? ⟨b,o,none⟩ = some (iV a.nx):=blk_cell h.obj h.nx
theorem c_ch (h : SeAt w b o T c a) : w.cell? ⟨b,o + 1,none⟩ = some (iV a.ch):=blk_cell h.obj h.ch
theorem c_st (h : SeAt w b o T c a) : w.cell? ⟨b,o + 2,none⟩ = some (iV a.st):=blk_cell h.obj h.st
theorem c_cl (h : SeAt w b o T c a) : w.cell? ⟨b,o + 3,none⟩ = some (iV a.cl):=blk_cell h.obj h.cl
theorem c_us (h : SeAt w b o T c a) : w.cell? ⟨b,o + 4,none⟩ = some (iV a.us):=blk_cell h.obj h.us
theorem c_sp (h : SeAt w b o T c a) : w.cell? ⟨b,o + 5,none⟩ = some (iV a.sp):=blk_cell h.obj h.sp
theorem c_si (h : SeAt w b o T c a) : w.cell? ⟨b,o + 6,none⟩ = some (.int .u64 a.si):=blk_cell h.obj h.si
theorem c_cr (h : SeAt w b o T c a) : w.cell? ⟨b,o + 7,none⟩ = some (iV a.cr):=blk_cell h.obj h.cr
theorem c_fr (h : SeAt w b o T c a) : w.cell? ⟨b,o + 8,none⟩ = some (.bool a.fr):=blk_cell h.obj h.fr
theorem set_nx (h : SeAt w b o T c a) (x : Int) : SeAt (w.setCell ⟨b,o,none⟩ (iV x)) b o T (c.setIfInBounds (o) (iV x)) { a with nx:=x } :=
 ⟨blk_setCell _ _ _ _ _ _ h.obj,ptc _ h.nx,kpc h.ch (by omega),kpc h.st (by omega),kpc h.cl (by omega),kpc h.us (by omega),kpc h.sp (by omega),kpc h.si (by omega),kpc h.cr (by omega),kpc h.fr (by omega)⟩
theorem set_st (h : SeAt w b o T c a) (x : Int) : SeAt (w.setCell ⟨b,o + 2,none⟩ (iV x)) b o T (c.setIfInBounds (o + 2) (iV x)) { a with st:=x } :=
 ⟨blk_setCell _ _ _ _ _ _ h.obj,kpc h.nx (by omega),kpc h.ch (by omega),ptc _ h.st,kpc h.cl (by omega),kpc h.us (by omega),kpc h.sp (by omega),kpc h.si (by omega),kpc h.cr (by omega),kpc h.fr (by omega)⟩
theorem set_cl (h : SeAt w b o T c a) (x : Int) : SeAt (w.setCell ⟨b,o + 3,none⟩ (iV x)) b o T (c.setIfInBounds (o + 3) (iV x)) { a with cl:=x } :=
 ⟨blk_setCell _ _ _ _ _ _ h.obj,kpc h.nx (by omega),kpc h.ch (by omega),kpc h.st (by omega),ptc _ h.cl,kpc h.us (by omega),kpc h.sp (by omega),kpc h.si (by omega),kpc h.cr (by omega),kpc h.fr (by omega)⟩
theorem set_us (h : SeAt w b o T c a) (x : Int) : SeAt (w.setCell ⟨b,o + 4,none⟩ (iV x)) b o T (c.setIfInBounds (o + 4) (iV x)) { a with us:=x } :=
 ⟨blk_setCell _ _ _ _ _ _ h.obj,kpc h.nx (by omega),kpc h.ch (by omega),kpc h.st (by omega),kpc h.cl (by omega),ptc _ h.us,kpc h.sp (by omega),kpc h.si (by omega),kpc h.cr (by omega),kpc h.fr (by omega)⟩
theorem set_sp (h : SeAt w b o T c a) (x : Int) : SeAt (w.setCell ⟨b,o + 5,none⟩ (iV x)) b o T (c.setIfInBounds (o + 5) (iV x)) { a with sp:=x } :=
 ⟨blk_setCell _ _ _ _ _ _ h.obj,kpc h.nx (by omega),kpc h.ch (by omega),kpc h.st (by omega),kpc h.cl (by omega),kpc h.us (by omega),ptc _ h.sp,kpc h.si (by omega),kpc h.cr (by omega),kpc h.fr (by omega)⟩
theorem set_si (h : SeAt w b o T c a) (x : Int) : SeAt (w.setCell ⟨b,o + 6,none⟩ (.int .u64 x)) b o T (c.setIfInBounds (o + 6) (.int .u64 x)) { a with si:=x } :=
 ⟨blk_setCell _ _ _ _ _ _ h.obj,kpc h.nx (by omega),kpc h.ch (by omega),kpc h.st (by omega),kpc h.cl (by omega),kpc h.us (by omega),kpc h.sp (by omega),ptc _ h.si,kpc h.cr (by omega),kpc h.fr (by omega)⟩
theorem set_cr (h : SeAt w b o T c a) (x : Int) : SeAt (w.setCell ⟨b,o + 7,none⟩ (iV x)) b o T (c.setIfInBounds (o + 7) (iV x)) { a with cr:=x } :=
 ⟨blk_setCell _ _ _ _ _ _ h.obj,kpc h.nx (by omega),kpc h.ch (by omega),kpc h.st (by omega),kpc h.cl (by omega),kpc h.us (by omega),kpc h.sp (by omega),kpc h.si (by omega),ptc _ h.cr,kpc h.fr (by omega)⟩
theorem set_fr (h : SeAt w b o T c a) (x : Bool) : SeAt (w.setCell ⟨b,o + 8,none⟩ (.bool x)) b o T (c.setIfInBounds (o + 8) (.bool x)) { a with fr:=x } :=
 ⟨blk_setCell _ _ _ _ _ _ h.obj,kpc h.nx (by omega),kpc h.ch (by omega),kpc h.st (by omega),kpc h.cl (by omega),kpc h.us (by omega),kpc h.sp (by omega),kpc h.si (by omega),kpc h.cr (by omega),ptc _ h.fr⟩
end SeAt
def Sact (L : Loc) (b o : Nat) (T : TypeId) (cs : Array Value) (w w' : World) (X : Mm -> SV -> Prop) : Prop :=
 ∃ s' cs' a',MemAt w' L s' /\ Only (L.and b) w w' /\ SeAt w' b o T cs' a' /\ Same o 9 cs cs' /\ X s' a'
def phSe (L : Loc) (b o : Nat) (T : TypeId) (c c' : Array Value) (s s' : Mm) (a a' : SV) : Nat -> World -> Prop
 | 0,w=>MemAt w L s /\ SeAt w b o T c a
 | 1,w=>MemAt w L s' /\ SeAt w b o T c a
 | _,w=>MemAt w L s' /\ SeAt w b o T c' a'
theorem phSe_grown {L : Loc} {b o : Nat} {T : TypeId} {c c' : Array Value} {s s' : Mm} {a a' : SV} (x y : World) (p : Nat) (g : Grown x y) (k : phSe L b o T c c' s s' a a' p x) : phSe L b o T c c' s s' a a' p y:=by
 match p,k with
 | 0,k=>exact ⟨k.1.below g,k.2.grown g⟩
 | 1,k=>exact ⟨k.1.below g,k.2.grown g⟩
 | p + 2,k=>exact ⟨k.1.below g,k.2.grown g⟩
end Go.Proofs.YtmnnhjhhhfabiaaGreat
