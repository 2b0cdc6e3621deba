import Derived.Test.YtmnnhjhhhfabiaaGreatStruct
namespace Go.Proofs.YtmnnhjhhhfabiaaGreat
open Go.RowKit
theorem Yt {c : Array Value} {i j : Nat} {u v : Value} (h : c[i]? = some u) (hj : j ≠ i) : (c.setIfInBounds j v)[i]? = some u:=by rw [Array.getElem?_setIfInBounds_ne hj];exact h
theorem F9 {c : Array Value} {i : Nat} {u : Value} (v : Value) (h : c[i]? = some u) : (c.setIfInBounds i v)[i]? = some v:=by rw [Array.getElem?_setIfInBounds_self_of_lt (Array.getElem?_eq_some_iff.1 h).1]
theorem Zh (w : World) (O : Obj) : Below w.heap.size w (w.alloc O):=Z5 (Below.refl _ _) _
structure EV where
 ld : Bool
 ep : Int
 qn : Int
 ov : Bool
 wt : Bool
structure YE (w : World) (b o : Nat) (T : TypeId) (c : Array Value) (a : EV) : Prop where
 obj : w.heap[b]? = some (.cells c T (0,0))
 ld : c[o]? = some (.bool a.ld)
 ep : c[o + 1]? = some (.int .u64 a.ep)
 qn : c[o + 2]? = some (iV a.qn)
 ov : c[o + 3]? = some (.bool a.ov)
 wt : c[o + 4]? = some (.bool a.wt)
namespace YE
variable {w w' : World} {b o : Nat} {T : TypeId} {c c' : Array Value} {a : EV}
theorem lt (h : YE w b o T c a) : b < w.heap.size:=WO h.obj
theorem fz (h : YE w b o T c a) (i : Nat) : w.frozen? ⟨b,i,none⟩ = false:=Zc h.obj i
theorem of_block (h : YE w b o T c a) (e : w'.heap[b]? = w.heap[b]?) : YE w' b o T c a:={ h with obj:=e.trans h.obj }
theorem grown (h : YE w b o T c a) (g : Below w.heap.size w w') : YE w' b o T c a:=h.of_block (g.block _ h.lt)
theorem drew (h : YE w b o T c a) : YE w.drew b o T c a:=h.of_block rfl
theorem only {S : Nat -> Prop} (h : YE w b o T c a) (g : Only S w w') (hs : ¬ S b) : YE w' b o T c a:=h.of_block (g.block _ h.lt hs)
theorem yN (h : YE w b o T c a) : w.cell? ⟨b,o,none⟩ = some (.bool a.ld):=ZW h.obj h.ld
theorem MQ (h : YE w b o T c a) : w.cell? ⟨b,o + 1,none⟩ = some (.int .u64 a.ep):=ZW h.obj h.ep
theorem Gg (h : YE w b o T c a) : w.cell? ⟨b,o + 2,none⟩ = some (iV a.qn):=ZW h.obj h.qn
theorem RG (h : YE w b o T c a) : w.cell? ⟨b,o + 3,none⟩ = some (.bool a.ov):=ZW h.obj h.ov
theorem pW (h : YE w b o T c a) : w.cell? ⟨b,o + 4,none⟩ = some (.bool a.wt):=ZW h.obj h.wt
theorem BV (h : YE w b o T c a) (x : Bool) : YE (w.setCell ⟨b,o,none⟩ (.bool x)) b o T (c.setIfInBounds (o) (.bool x)) { a with ld:=x } :=
 ⟨ZU _ _ _ _ _ _ h.obj,F9 _ h.ld,Yt h.ep (by omega),Yt h.qn (by omega),Yt h.ov (by omega),Yt h.wt (by omega)⟩
theorem vS (h : YE w b o T c a) (x : Int) : YE (w.setCell ⟨b,o + 1,none⟩ (.int .u64 x)) b o T (c.setIfInBounds (o + 1) (.int .u64 x)) { a with ep:=x } :=
 ⟨ZU _ _ _ _ _ _ h.obj,Yt h.ld (by omega),F9 _ h.ep,Yt h.qn (by omega),Yt h.ov (by omega),Yt h.wt (by omega)⟩
theorem Ve (h : YE w b o T c a) (x : Int) : YE (w.setCell ⟨b,o + 2,none⟩ (iV x)) b o T (c.setIfInBounds (o + 2) (iV x)) { a with qn:=x } :=
 ⟨ZU _ _ _ _ _ _ h.obj,Yt h.ld (by omega),Yt h.ep (by omega),F9 _ h.qn,Yt h.ov (by omega),Yt h.wt (by omega)⟩
theorem JZ (h : YE w b o T c a) (x : Bool) : YE (w.setCell ⟨b,o + 3,none⟩ (.bool x)) b o T (c.setIfInBounds (o + 3) (.bool x)) { a with ov:=x } :=
 ⟨ZU _ _ _ _ _ _ h.obj,Yt h.ld (by omega),Yt h.ep (by omega),Yt h.qn (by omega),F9 _ h.ov,Yt h.wt (by omega)⟩
theorem vT (h : YE w b o T c a) (x : Bool) : YE (w.setCell ⟨b,o + 4,none⟩ (.bool x)) b o T (c.setIfInBounds (o + 4) (.bool x)) { a with wt:=x } :=
 ⟨ZU _ _ _ _ _ _ h.obj,Yt h.ld (by omega),Yt h.ep (by omega),Yt h.qn (by omega),Yt h.ov (by omega),F9 _ h.wt⟩
end YE
def BX (L : Loc) (b o : Nat) (T : TypeId) (cs : Array Value) (w w' : World) (X : Mm -> EV -> Prop) : Prop :=
 ∃ s' cs' a',Z9 w' L s' /\ Only (L.and b) w w' /\ YE w' b o T cs' a' /\ Same o 5 cs cs' /\ X s' a'
def yO (L : Loc) (b o : Nat) (T : TypeId) (c c' : Array Value) (s s' : Mm) (a a' : EV) : Nat -> World -> Prop
 | 0,w=>Z9 w L s /\ YE w b o T c a
 | 1,w=>Z9 w L s' /\ YE w b o T c a
 | _,w=>Z9 w L s' /\ YE w b o T c' a'
theorem QE {L : Loc} {b o : Nat} {T : TypeId} {c c' : Array Value} {s s' : Mm} {a a' : EV} (x y : World) (p : Nat) (g : Grown x y) (k : yO L b o T c c' s s' a a' p x) : yO L b o T c c' s s' a a' p y:=by
 match p,k with
 | 0,k=>exact ⟨k.1.below g,k.2.grown g⟩
 | 1,k=>exact ⟨k.1.below g,k.2.grown g⟩
 | p + 2,k=>exact ⟨k.1.below g,k.2.grown g⟩
structure SV where
 nx : Int
 ch : Int
 st : Int
 cl : Int
 us : Int
 sp : Int
 si : Int
 cr : Int
 fr : Bool
structure Zi (w : World) (b o : Nat) (T : TypeId) (c : Array Value) (a : SV) : Prop where
 obj : w.heap[b]? = some (.cells c T (0,0))
 nx : c[o]? = some (iV a.nx)
 ch : c[o + 1]? = some (iV a.ch)
 st : c[o + 2]? = some (iV a.st)
 cl : c[o + 3]? = some (iV a.cl)
 us : c[o + 4]? = some (iV a.us)
 sp : c[o + 5]? = some (iV a.sp)
 si : c[o + 6]? = some (.int .u64 a.si)
 cr : c[o + 7]? = some (iV a.cr)
 fr : c[o + 8]? = some (.bool a.fr)
namespace Zi
variable {w w' : World} {b o : Nat} {T : TypeId} {c c' : Array Value} {a : SV}
theorem lt (h : Zi w b o T c a) : b < w.heap.size:=WO h.obj
theorem fz (h : Zi w b o T c a) (i : Nat) : w.frozen? ⟨b,i,none⟩ = false:=Zc h.obj i
theorem of_block (h : Zi w b o T c a) (e : w'.heap[b]? = w.heap[b]?) : Zi w' b o T c a:={ h with obj:=e.trans h.obj }
theorem grown (h : Zi w b o T c a) (g : Below w.heap.size w w') : Zi w' b o T c a:=h.of_block (g.block _ h.lt)
theorem drew (h : Zi w b o T c a) : Zi w.drew b o T c a:=h.of_block rfl
theorem only {S : Nat -> Prop} (h : Zi w b o T c a) (g : Only S w w') (hs : ¬ S b) : Zi w' b o T c a:=h.of_block (g.block _ h.lt hs)
theorem ZO (h : Zi w b o T c a) : w.cell? ⟨b,o,none⟩ = some (iV a.nx):=ZW h.obj h.nx
theorem XC (h : Zi w b o T c a) : w.cell? ⟨b,o + 1,none⟩ = some (iV a.ch):=ZW h.obj h.ch
theorem yM (h : Zi w b o T c a) : w.cell? ⟨b,o + 2,none⟩ = some (iV a.st):=ZW h.obj h.st
theorem sG (h : Zi w b o T c a) : w.cell? ⟨b,o + 3,none⟩ = some (iV a.cl):=ZW h.obj h.cl
theorem yL (h : Zi w b o T c a) : w.cell? ⟨b,o + 4,none⟩ = some (iV a.us):=ZW h.obj h.us
theorem Oe (h : Zi w b o T c a) : w.cell? ⟨b,o + 5,none⟩ = some (iV a.sp):=ZW h.obj h.sp
theorem yK (h : Zi w b o T c a) : w.cell? ⟨b,o + 6,none⟩ = some (.int .u64 a.si):=ZW h.obj h.si
theorem yJ (h : Zi w b o T c a) : w.cell? ⟨b,o + 7,none⟩ = some (iV a.cr):=ZW h.obj h.cr
theorem sF (h : Zi w b o T c a) : w.cell? ⟨b,o + 8,none⟩ = some (.bool a.fr):=ZW h.obj h.fr
theorem ZJ (h : Zi w b o T c a) (x : Int) : Zi (w.setCell ⟨b,o,none⟩ (iV x)) b o T (c.setIfInBounds (o) (iV x)) { a with nx:=x } :=
 ⟨ZU _ _ _ _ _ _ h.obj,F9 _ h.nx,Yt h.ch (by omega),Yt h.st (by omega),Yt h.cl (by omega),Yt h.us (by omega),Yt h.sp (by omega),Yt h.si (by omega),Yt h.cr (by omega),Yt h.fr (by omega)⟩
theorem BR (h : Zi w b o T c a) (x : Int) : Zi (w.setCell ⟨b,o + 2,none⟩ (iV x)) b o T (c.setIfInBounds (o + 2) (iV x)) { a with st:=x } :=
 ⟨ZU _ _ _ _ _ _ h.obj,Yt h.nx (by omega),Yt h.ch (by omega),F9 _ h.st,Yt h.cl (by omega),Yt h.us (by omega),Yt h.sp (by omega),Yt h.si (by omega),Yt h.cr (by omega),Yt h.fr (by omega)⟩
theorem BQ (h : Zi w b o T c a) (x : Int) : Zi (w.setCell ⟨b,o + 3,none⟩ (iV x)) b o T (c.setIfInBounds (o + 3) (iV x)) { a with cl:=x } :=
 ⟨ZU _ _ _ _ _ _ h.obj,Yt h.nx (by omega),Yt h.ch (by omega),Yt h.st (by omega),F9 _ h.cl,Yt h.us (by omega),Yt h.sp (by omega),Yt h.si (by omega),Yt h.cr (by omega),Yt h.fr (by omega)⟩
theorem BP (h : Zi w b o T c a) (x : Int) : Zi (w.setCell ⟨b,o + 4,none⟩ (iV x)) b o T (c.setIfInBounds (o + 4) (iV x)) { a with us:=x } :=
 ⟨ZU _ _ _ _ _ _ h.obj,Yt h.nx (by omega),Yt h.ch (by omega),Yt h.st (by omega),Yt h.cl (by omega),F9 _ h.us,Yt h.sp (by omega),Yt h.si (by omega),Yt h.cr (by omega),Yt h.fr (by omega)⟩
theorem QD (h : Zi w b o T c a) (x : Int) : Zi (w.setCell ⟨b,o + 5,none⟩ (iV x)) b o T (c.setIfInBounds (o + 5) (iV x)) { a with sp:=x } :=
 ⟨ZU _ _ _ _ _ _ h.obj,Yt h.nx (by omega),Yt h.ch (by omega),Yt h.st (by omega),Yt h.cl (by omega),Yt h.us (by omega),F9 _ h.sp,Yt h.si (by omega),Yt h.cr (by omega),Yt h.fr (by omega)⟩
theorem vP (h : Zi w b o T c a) (x : Int) : Zi (w.setCell ⟨b,o + 6,none⟩ (.int .u64 x)) b o T (c.setIfInBounds (o + 6) (.int .u64 x)) { a with si:=x } :=
 ⟨ZU _ _ _ _ _ _ h.obj,Yt h.nx (by omega),Yt h.ch (by omega),Yt h.st (by omega),Yt h.cl (by omega),Yt h.us (by omega),Yt h.sp (by omega),F9 _ h.si,Yt h.cr (by omega),Yt h.fr (by omega)⟩
theorem BO (h : Zi w b o T c a) (x : Int) : Zi (w.setCell ⟨b,o + 7,none⟩ (iV x)) b o T (c.setIfInBounds (o + 7) (iV x)) { a with cr:=x } :=
 ⟨ZU _ _ _ _ _ _ h.obj,Yt h.nx (by omega),Yt h.ch (by omega),Yt h.st (by omega),Yt h.cl (by omega),Yt h.us (by omega),Yt h.sp (by omega),Yt h.si (by omega),F9 _ h.cr,Yt h.fr (by omega)⟩
theorem JX (h : Zi w b o T c a) (x : Bool) : Zi (w.setCell ⟨b,o + 8,none⟩ (.bool x)) b o T (c.setIfInBounds (o + 8) (.bool x)) { a with fr:=x } :=
 ⟨ZU _ _ _ _ _ _ h.obj,Yt h.nx (by omega),Yt h.ch (by omega),Yt h.st (by omega),Yt h.cl (by omega),Yt h.us (by omega),Yt h.sp (by omega),Yt h.si (by omega),Yt h.cr (by omega),F9 _ h.fr⟩
end Zi
def SC (L : Loc) (b o : Nat) (T : TypeId) (cs : Array Value) (w w' : World) (X : Mm -> SV -> Prop) : Prop :=
 ∃ s' cs' a',Z9 w' L s' /\ Only (L.and b) w w' /\ Zi w' b o T cs' a' /\ Same o 9 cs cs' /\ X s' a'
def BN (L : Loc) (b o : Nat) (T : TypeId) (c c' : Array Value) (s s' : Mm) (a a' : SV) : Nat -> World -> Prop
 | 0,w=>Z9 w L s /\ Zi w b o T c a
 | 1,w=>Z9 w L s' /\ Zi w b o T c a
 | _,w=>Z9 w L s' /\ Zi w b o T c' a'
theorem Uo {L : Loc} {b o : Nat} {T : TypeId} {c c' : Array Value} {s s' : Mm} {a a' : SV} (x y : World) (p : Nat) (g : Grown x y) (k : BN L b o T c c' s s' a a' p x) : BN L b o T c c' s s' a a' p y:=by
 match p,k with
 | 0,k=>exact ⟨k.1.below g,k.2.grown g⟩
 | 1,k=>exact ⟨k.1.below g,k.2.grown g⟩
 | p + 2,k=>exact ⟨k.1.below g,k.2.grown g⟩
end Go.Proofs.YtmnnhjhhhfabiaaGreat
