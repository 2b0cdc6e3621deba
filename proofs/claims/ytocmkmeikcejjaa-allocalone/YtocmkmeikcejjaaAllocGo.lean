/- What a step of one who makes an object comes to (package alloc): Step itself; New and Done. -/
import Derived.Test.YtocmkmeikcejjaaAllocLay
import Derived.Test.YtocmkmeikcejjaaLayRef
namespace Go.Proofs.Ytocmkmeikcejjaa
open Go.RowKit

theorem astep_take {w : World} {L : Loc} {s : Mm} {b o : Nat} {T : TypeId} {cs : Array Value} {a : AV} {t n k m : Nat} {g p r : Int} (h : MemAt w L s) (hi : AlAt w b o T cs a) (who : Int) (hnx : a.nx = 0) (X : Mm → AV → Prop) (d : Bool) (hX : ∀ s' a', X s' a' → (a'.nx == 8) = d)
    (hc : ∀ w1 : World, MemAt w1 L s → AlAt w1 b o T cs a → Calls Try.prog 31 #[.pointer (some ⟨b, o, none⟩), .agg #[.int .i64 t, .int .i64 n, .int .i64 k, .int .i64 m, .int .i64 g, .int .i64 p, .int .i64 r, .pointer (some ⟨L.p, 0, none⟩), .int .i64 who]] w1 fun e w' => e = .returned (.tuple #[]) ∧ Acts L b o T cs w1 w' X) :
    Calls Try.prog 14 #[.pointer (some ⟨b, o, none⟩), .agg #[.int .i64 t, .int .i64 n, .int .i64 k, .int .i64 m, .int .i64 g, .int .i64 p, .int .i64 r, .pointer (some ⟨L.p, 0, none⟩), .int .i64 who]] w fun e w' => e = .returned (.bool d) ∧ Acts L b o T cs w w' X := by
  have i1 := hi.grown (grow_alloc (Below.refl _ _) (.cells #[.int .i64 t, .int .i64 n, .int .i64 k, .int .i64 m, .int .i64 g, .int .i64 p, .int .i64 r, .pointer (some ⟨L.p, 0, none⟩), .int .i64 who] 27))
  have m1 := h.alloc (.cells #[.int .i64 t, .int .i64 n, .int .i64 k, .int .i64 m, .int .i64 g, .int .i64 p, .int .i64 r, .pointer (some ⟨L.p, 0, none⟩), .int .i64 who] 27)
  have k0 := i1.c_nx
  rw [hnx] at k0
  go_enter Try.func14, Try.ntmps14
  go_wp2_with (go_at_call 31; refine (hc _ m1 i1).mono ?_; rintro e w2 ⟨rfl, s2, cs2, a2, m2, o2, i2, q2, x2⟩; have k2 := i2.c_nx)
  go_ret
  exact ⟨ret_bool (hX _ _ x2), s2, cs2, a2, m2, ((Only.refl _ _).alloc _).trans o2, i2, q2, x2⟩

theorem astep_ask {w : World} {L : Loc} {s : Mm} {b o : Nat} {T : TypeId} {cs : Array Value} {a : AV} {t n k m : Nat} {g p r : Int} (h : MemAt w L s) (hi : AlAt w b o T cs a) (who : Int) (hnx : a.nx = 1) (X : Mm → AV → Prop) (d : Bool) (hX : ∀ s' a', X s' a' → (a'.nx == 8) = d)
    (hc : ∀ w1 : World, MemAt w1 L s → AlAt w1 b o T cs a → Calls Try.prog 32 #[.pointer (some ⟨b, o, none⟩), .agg #[.int .i64 t, .int .i64 n, .int .i64 k, .int .i64 m, .int .i64 g, .int .i64 p, .int .i64 r, .pointer (some ⟨L.p, 0, none⟩), .int .i64 who]] w1 fun e w' => e = .returned (.tuple #[]) ∧ Acts L b o T cs w1 w' X) :
    Calls Try.prog 14 #[.pointer (some ⟨b, o, none⟩), .agg #[.int .i64 t, .int .i64 n, .int .i64 k, .int .i64 m, .int .i64 g, .int .i64 p, .int .i64 r, .pointer (some ⟨L.p, 0, none⟩), .int .i64 who]] w fun e w' => e = .returned (.bool d) ∧ Acts L b o T cs w w' X := by
  have i1 := hi.grown (grow_alloc (Below.refl _ _) (.cells #[.int .i64 t, .int .i64 n, .int .i64 k, .int .i64 m, .int .i64 g, .int .i64 p, .int .i64 r, .pointer (some ⟨L.p, 0, none⟩), .int .i64 who] 27))
  have m1 := h.alloc (.cells #[.int .i64 t, .int .i64 n, .int .i64 k, .int .i64 m, .int .i64 g, .int .i64 p, .int .i64 r, .pointer (some ⟨L.p, 0, none⟩), .int .i64 who] 27)
  have k0 := i1.c_nx
  rw [hnx] at k0
  go_enter Try.func14, Try.ntmps14
  go_wp2_with (go_at_call 32; refine (hc _ m1 i1).mono ?_; rintro e w2 ⟨rfl, s2, cs2, a2, m2, o2, i2, q2, x2⟩; have k2 := i2.c_nx)
  go_ret
  exact ⟨ret_bool (hX _ _ x2), s2, cs2, a2, m2, ((Only.refl _ _).alloc _).trans o2, i2, q2, x2⟩

theorem astep_words {w : World} {L : Loc} {s : Mm} {b o : Nat} {T : TypeId} {cs : Array Value} {a : AV} {t n k m : Nat} {g p r : Int} (h : MemAt w L s) (hi : AlAt w b o T cs a) (who : Int) (hnx : a.nx = 2) (X : Mm → AV → Prop) (d : Bool) (hX : ∀ s' a', X s' a' → (a'.nx == 8) = d)
    (hc : ∀ w1 : World, MemAt w1 L s → AlAt w1 b o T cs a → Calls Try.prog 33 #[.pointer (some ⟨b, o, none⟩), .agg #[.int .i64 t, .int .i64 n, .int .i64 k, .int .i64 m, .int .i64 g, .int .i64 p, .int .i64 r, .pointer (some ⟨L.p, 0, none⟩), .int .i64 who]] w1 fun e w' => e = .returned (.tuple #[]) ∧ Acts L b o T cs w1 w' X) :
    Calls Try.prog 14 #[.pointer (some ⟨b, o, none⟩), .agg #[.int .i64 t, .int .i64 n, .int .i64 k, .int .i64 m, .int .i64 g, .int .i64 p, .int .i64 r, .pointer (some ⟨L.p, 0, none⟩), .int .i64 who]] w fun e w' => e = .returned (.bool d) ∧ Acts L b o T cs w w' X := by
  have i1 := hi.grown (grow_alloc (Below.refl _ _) (.cells #[.int .i64 t, .int .i64 n, .int .i64 k, .int .i64 m, .int .i64 g, .int .i64 p, .int .i64 r, .pointer (some ⟨L.p, 0, none⟩), .int .i64 who] 27))
  have m1 := h.alloc (.cells #[.int .i64 t, .int .i64 n, .int .i64 k, .int .i64 m, .int .i64 g, .int .i64 p, .int .i64 r, .pointer (some ⟨L.p, 0, none⟩), .int .i64 who] 27)
  have k0 := i1.c_nx
  rw [hnx] at k0
  go_enter Try.func14, Try.ntmps14
  go_wp2_with (go_at_call 33; refine (hc _ m1 i1).mono ?_; rintro e w2 ⟨rfl, s2, cs2, a2, m2, o2, i2, q2, x2⟩; have k2 := i2.c_nx)
  go_ret
  exact ⟨ret_bool (hX _ _ x2), s2, cs2, a2, m2, ((Only.refl _ _).alloc _).trans o2, i2, q2, x2⟩

theorem astep_count {w : World} {L : Loc} {s : Mm} {b o : Nat} {T : TypeId} {cs : Array Value} {a : AV} {t n k m : Nat} {g p r : Int} (h : MemAt w L s) (hi : AlAt w b o T cs a) (who : Int) (hnx : a.nx = 3) (X : Mm → AV → Prop) (d : Bool) (hX : ∀ s' a', X s' a' → (a'.nx == 8) = d)
    (hc : ∀ w1 : World, MemAt w1 L s → AlAt w1 b o T cs a → Calls Try.prog 34 #[.pointer (some ⟨b, o, none⟩), .agg #[.int .i64 t, .int .i64 n, .int .i64 k, .int .i64 m, .int .i64 g, .int .i64 p, .int .i64 r, .pointer (some ⟨L.p, 0, none⟩), .int .i64 who]] w1 fun e w' => e = .returned (.tuple #[]) ∧ Acts L b o T cs w1 w' X) :
    Calls Try.prog 14 #[.pointer (some ⟨b, o, none⟩), .agg #[.int .i64 t, .int .i64 n, .int .i64 k, .int .i64 m, .int .i64 g, .int .i64 p, .int .i64 r, .pointer (some ⟨L.p, 0, none⟩), .int .i64 who]] w fun e w' => e = .returned (.bool d) ∧ Acts L b o T cs w w' X := by
  have i1 := hi.grown (grow_alloc (Below.refl _ _) (.cells #[.int .i64 t, .int .i64 n, .int .i64 k, .int .i64 m, .int .i64 g, .int .i64 p, .int .i64 r, .pointer (some ⟨L.p, 0, none⟩), .int .i64 who] 27))
  have m1 := h.alloc (.cells #[.int .i64 t, .int .i64 n, .int .i64 k, .int .i64 m, .int .i64 g, .int .i64 p, .int .i64 r, .pointer (some ⟨L.p, 0, none⟩), .int .i64 who] 27)
  have k0 := i1.c_nx
  rw [hnx] at k0
  go_enter Try.func14, Try.ntmps14
  go_wp2_with (go_at_call 34; refine (hc _ m1 i1).mono ?_; rintro e w2 ⟨rfl, s2, cs2, a2, m2, o2, i2, q2, x2⟩; have k2 := i2.c_nx)
  go_ret
  exact ⟨ret_bool (hX _ _ x2), s2, cs2, a2, m2, ((Only.refl _ _).alloc _).trans o2, i2, q2, x2⟩

theorem astep_show {w : World} {L : Loc} {s : Mm} {b o : Nat} {T : TypeId} {cs : Array Value} {a : AV} {t n k m : Nat} {g p r : Int} (h : MemAt w L s) (hi : AlAt w b o T cs a) (who : Int) (hnx : a.nx = 5) (X : Mm → AV → Prop) (d : Bool) (hX : ∀ s' a', X s' a' → (a'.nx == 8) = d)
    (hc : ∀ w1 : World, MemAt w1 L s → AlAt w1 b o T cs a → Calls Try.prog 36 #[.pointer (some ⟨b, o, none⟩), .agg #[.int .i64 t, .int .i64 n, .int .i64 k, .int .i64 m, .int .i64 g, .int .i64 p, .int .i64 r, .pointer (some ⟨L.p, 0, none⟩), .int .i64 who]] w1 fun e w' => e = .returned (.tuple #[]) ∧ Acts L b o T cs w1 w' X) :
    Calls Try.prog 14 #[.pointer (some ⟨b, o, none⟩), .agg #[.int .i64 t, .int .i64 n, .int .i64 k, .int .i64 m, .int .i64 g, .int .i64 p, .int .i64 r, .pointer (some ⟨L.p, 0, none⟩), .int .i64 who]] w fun e w' => e = .returned (.bool d) ∧ Acts L b o T cs w w' X := by
  have i1 := hi.grown (grow_alloc (Below.refl _ _) (.cells #[.int .i64 t, .int .i64 n, .int .i64 k, .int .i64 m, .int .i64 g, .int .i64 p, .int .i64 r, .pointer (some ⟨L.p, 0, none⟩), .int .i64 who] 27))
  have m1 := h.alloc (.cells #[.int .i64 t, .int .i64 n, .int .i64 k, .int .i64 m, .int .i64 g, .int .i64 p, .int .i64 r, .pointer (some ⟨L.p, 0, none⟩), .int .i64 who] 27)
  have k0 := i1.c_nx
  rw [hnx] at k0
  go_enter Try.func14, Try.ntmps14
  go_wp2_with (go_at_call 36; refine (hc _ m1 i1).mono ?_; rintro e w2 ⟨rfl, s2, cs2, a2, m2, o2, i2, q2, x2⟩; have k2 := i2.c_nx)
  go_ret
  exact ⟨ret_bool (hX _ _ x2), s2, cs2, a2, m2, ((Only.refl _ _).alloc _).trans o2, i2, q2, x2⟩

theorem astep_give {w : World} {L : Loc} {s : Mm} {b o : Nat} {T : TypeId} {cs : Array Value} {a : AV} {t n k m : Nat} {g p r : Int} (h : MemAt w L s) (hi : AlAt w b o T cs a) (who : Int) (hnx : a.nx = 7) (X : Mm → AV → Prop) (d : Bool) (hX : ∀ s' a', X s' a' → (a'.nx == 8) = d)
    (hc : ∀ w1 : World, MemAt w1 L s → AlAt w1 b o T cs a → Calls Try.prog 37 #[.pointer (some ⟨b, o, none⟩), .agg #[.int .i64 t, .int .i64 n, .int .i64 k, .int .i64 m, .int .i64 g, .int .i64 p, .int .i64 r, .pointer (some ⟨L.p, 0, none⟩), .int .i64 who]] w1 fun e w' => e = .returned (.tuple #[]) ∧ Acts L b o T cs w1 w' X) :
    Calls Try.prog 14 #[.pointer (some ⟨b, o, none⟩), .agg #[.int .i64 t, .int .i64 n, .int .i64 k, .int .i64 m, .int .i64 g, .int .i64 p, .int .i64 r, .pointer (some ⟨L.p, 0, none⟩), .int .i64 who]] w fun e w' => e = .returned (.bool d) ∧ Acts L b o T cs w w' X := by
  have i1 := hi.grown (grow_alloc (Below.refl _ _) (.cells #[.int .i64 t, .int .i64 n, .int .i64 k, .int .i64 m, .int .i64 g, .int .i64 p, .int .i64 r, .pointer (some ⟨L.p, 0, none⟩), .int .i64 who] 27))
  have m1 := h.alloc (.cells #[.int .i64 t, .int .i64 n, .int .i64 k, .int .i64 m, .int .i64 g, .int .i64 p, .int .i64 r, .pointer (some ⟨L.p, 0, none⟩), .int .i64 who] 27)
  have k0 := i1.c_nx
  rw [hnx] at k0
  go_enter Try.func14, Try.ntmps14
  go_wp2_with (go_at_call 37; refine (hc _ m1 i1).mono ?_; rintro e w2 ⟨rfl, s2, cs2, a2, m2, o2, i2, q2, x2⟩; have k2 := i2.c_nx)
  go_ret
  exact ⟨ret_bool (hX _ _ x2), s2, cs2, a2, m2, ((Only.refl _ _).alloc _).trans o2, i2, q2, x2⟩

theorem astep_head {w : World} {L : Loc} {s : Mm} {b o : Nat} {T : TypeId} {cs : Array Value} {a : AV} {t n k m : Nat} {g p r : Int} (h : MemAt w L s) (hb : ¬ L.has b) (hi : AlAt w b o T cs a) (who : Int) (hnx : a.nx = 4) (z : Int) (fz : Fit z) (hz : a.sz = z) (x G A : Nat) (hx : a.sl = x) (hG : a.gn = G) (hA : a.sa = A) (ow : Bool) (hw : a.own = ow) (xb : x ≤ 1000000) (gb : G ≤ 1000000) (hn : A < s.n) :
    Calls Try.prog 14 #[.pointer (some ⟨b, o, none⟩), .agg #[.int .i64 t, .int .i64 n, .int .i64 k, .int .i64 m, .int .i64 g, .int .i64 p, .int .i64 r, .pointer (some ⟨L.p, 0, none⟩), .int .i64 who]] w fun e w' => e = .returned (.bool false) ∧ Acts L b o T cs w w' (fun s' a' => s' = (s.by who).step A (packOw 1 z x G ow) ∧ a' = { a with kd := 1, nx := 5 }) := by
  have i1 := hi.grown (grow_alloc (Below.refl _ _) (.cells #[.int .i64 t, .int .i64 n, .int .i64 k, .int .i64 m, .int .i64 g, .int .i64 p, .int .i64 r, .pointer (some ⟨L.p, 0, none⟩), .int .i64 who] 27))
  have m1 := h.alloc (.cells #[.int .i64 t, .int .i64 n, .int .i64 k, .int .i64 m, .int .i64 g, .int .i64 p, .int .i64 r, .pointer (some ⟨L.p, 0, none⟩), .int .i64 who] 27)
  have k0 := i1.c_nx
  rw [hnx] at k0
  have hc := fun (w1 : World) (mm : MemAt w1 L s) (i : AlAt w1 b o T cs a) => ahead (g := g) (p := p) (r := r) (t := t) (n := n) (k := k) (m := m) mm hb i who 1 ⟨by decide, by decide⟩ z fz hz x G A hx hG hA ow hw xb gb hn
  go_enter Try.func14, Try.ntmps14
  go_wp2_with (go_at_call 35; refine (hc _ m1 i1).mono ?_; rintro e w2 ⟨rfl, s2, cs2, a2, m2, o2, i2, q2, rfl, rfl⟩; have k2 := i2.c_nx; have kf := i2.fz)
  go_ret
  exact ⟨rfl, _, _, _, m2.setIn hb _ _, (((Only.refl _ _).alloc _).trans o2).set _ _, i2.set_nx 5, q2.set (by omega) _, rfl, rfl⟩

theorem astep_ready {w : World} {L : Loc} {s : Mm} {b o : Nat} {T : TypeId} {cs : Array Value} {a : AV} {t n k m : Nat} {g p r : Int} (h : MemAt w L s) (hb : ¬ L.has b) (hi : AlAt w b o T cs a) (who : Int) (hnx : a.nx = 6) (z : Int) (fz : Fit z) (hz : a.sz = z) (x G A : Nat) (hx : a.sl = x) (hG : a.gn = G) (hA : a.sa = A) (ow : Bool) (hw : a.own = ow) (xb : x ≤ 1000000) (gb : G ≤ 1000000) (hn : A < s.n) :
    Calls Try.prog 14 #[.pointer (some ⟨b, o, none⟩), .agg #[.int .i64 t, .int .i64 n, .int .i64 k, .int .i64 m, .int .i64 g, .int .i64 p, .int .i64 r, .pointer (some ⟨L.p, 0, none⟩), .int .i64 who]] w fun e w' => e = .returned (.bool true) ∧ Acts L b o T cs w w' (fun s' a' => s' = (s.by who).step A (packOw 2 z x G ow) ∧ a' = { a with kd := 2, nx := 8 }) := by
  have i1 := hi.grown (grow_alloc (Below.refl _ _) (.cells #[.int .i64 t, .int .i64 n, .int .i64 k, .int .i64 m, .int .i64 g, .int .i64 p, .int .i64 r, .pointer (some ⟨L.p, 0, none⟩), .int .i64 who] 27))
  have m1 := h.alloc (.cells #[.int .i64 t, .int .i64 n, .int .i64 k, .int .i64 m, .int .i64 g, .int .i64 p, .int .i64 r, .pointer (some ⟨L.p, 0, none⟩), .int .i64 who] 27)
  have k0 := i1.c_nx
  rw [hnx] at k0
  have hc := fun (w1 : World) (mm : MemAt w1 L s) (i : AlAt w1 b o T cs a) => ahead (g := g) (p := p) (r := r) (t := t) (n := n) (k := k) (m := m) mm hb i who 2 ⟨by decide, by decide⟩ z fz hz x G A hx hG hA ow hw xb gb hn
  go_enter Try.func14, Try.ntmps14
  go_wp2_with (go_at_call 35; refine (hc _ m1 i1).mono ?_; rintro e w2 ⟨rfl, s2, cs2, a2, m2, o2, i2, q2, rfl, rfl⟩; have k2 := i2.c_nx; have kf := i2.fz)
  go_ret
  exact ⟨rfl, _, _, _, m2.setIn hb _ _, (((Only.refl _ _).alloc _).trans o2).set _ _, i2.set_nx 8, q2.set (by omega) _, rfl, rfl⟩

/-- one who begins: its cells -/
def av0 (z : Int) (own : Bool) : AV := ⟨0, TkV 0 0 0 0, PlV 0 0 0 0 0 0 0, GvV 0 0 0, 0, z, 0, 0, own, 0, 0, 0, 0, 0, 0⟩

/-- one who begins, as a block -/
def alloc0 (z : Int) (own : Bool) : Obj := .cells #[.int .i64 0, .int .i64 0, .int .u64 0, .int .i64 0, .int .i64 0, .int .i64 0, .int .i64 0, .int .u64 0, .int .i64 0, .int .u64 0, .int .i64 0, .int .i64 0, .int .i64 0, .int .i64 0, .int .u64 0, .int .i64 0, .int .i64 z, .int .i64 0, .int .i64 0, .bool own, .int .i64 0, .int .i64 0, .int .i64 0, .int .u64 0, .int .i64 0, .int .i64 0] 83

theorem newAlloc_any (z : Int) (own : Bool) (w : World) :
    Calls Try.prog 13 #[.int .i64 z, .bool own] w fun e w' => e = .returned (.pointer (some ⟨w.heap.size, 0, none⟩)) ∧ w' = w.alloc (alloc0 z own) := by
  unfold alloc0
  go_enter Try.func13, Try.ntmps13
  go_wp2
  go_ret
  exact ⟨rfl, rfl⟩

theorem alloc0_at (z : Int) (own : Bool) (w : World) : ∃ cs, AlAt (w.alloc (alloc0 z own)) w.heap.size 0 83 cs (av0 z own) := by
  refine ⟨_, Go.Deep.blk_alloc_new _ _, rfl, rfl, rfl, rfl, fun i v hv => ?_, fun i v hv => ?_, fun i v hv => ?_, rfl, rfl, rfl, rfl, rfl, rfl, rfl, rfl, rfl, rfl, rfl⟩
  · have hl : i < 4 := lt_of_some hv
    match i, hl with
    | 0, _ => exact hv
    | 1, _ => exact hv
    | 2, _ => exact hv
    | 3, _ => exact hv
  · have hl : i < 7 := lt_of_some hv
    match i, hl with
    | 0, _ => exact hv
    | 1, _ => exact hv
    | 2, _ => exact hv
    | 3, _ => exact hv
    | 4, _ => exact hv
    | 5, _ => exact hv
    | 6, _ => exact hv
  · have hl : i < 3 := lt_of_some hv
    match i, hl with
    | 0, _ => exact hv
    | 1, _ => exact hv
    | 2, _ => exact hv

theorem adone_over {w : World} {b o : Nat} {T : TypeId} {cs : Array Value} {a : AV} (hi : AlAt w b o T cs a) (hnx : a.nx = 8) :
    Calls Try.prog 15 #[.pointer (some ⟨b, o, none⟩)] w fun e w' => e = .returned (.agg #[.int .i64 a.E, .int .u64 a.H, .int .i64 a.V, .int .i64 a.St]) ∧ Below w.heap.size w w' := by
  have i1 := hi.grown (grow_alloc (Below.refl _ _) (.cells #[.int .i64 0, .int .u64 0, .int .i64 0, .int .i64 0] 36))
  have k0 := i1.c_nx
  rw [hnx] at k0
  have k1 := i1.c_E
  have k2 := i1.c_H
  have k3 := i1.c_V
  have k4 := i1.c_St
  go_enter Try.func15, Try.ntmps15
  go_wp2
  refine bodyPost_ret (v := .agg #[.int .i64 a.E, .int .u64 a.H, .int .i64 a.V, .int .i64 a.St]) (by simp [results, Try.results15, go_sem]) rfl ?_
  refine ⟨rfl, ?_⟩
  first
    | exact grow_alloc (Below.refl _ _) _
    | exact below_setIn (below_setIn (below_setIn (below_setIn (grow_alloc (Below.refl _ _) _) (Nat.le_refl _) _ _) (Nat.le_refl _) _ _) (Nat.le_refl _) _ _) (Nat.le_refl _) _ _

theorem adone_not {w : World} {b o : Nat} {T : TypeId} {cs : Array Value} {a : AV} (hi : AlAt w b o T cs a) (hnx : (a.nx != 8) = true) :
    Calls Try.prog 15 #[.pointer (some ⟨b, o, none⟩)] w fun e w' => e = .returned (.agg #[.int .i64 0, .int .u64 0, .int .i64 0, .int .i64 0]) ∧ Below w.heap.size w w' := by
  have i1 := hi.grown (grow_alloc (Below.refl _ _) (.cells #[.int .i64 0, .int .u64 0, .int .i64 0, .int .i64 0] 36))
  have k0 := i1.c_nx
  go_enter Try.func15, Try.ntmps15
  go_wp2
  refine bodyPost_ret (v := .agg #[.int .i64 0, .int .u64 0, .int .i64 0, .int .i64 0]) (by simp [results, Try.results15, go_sem]) rfl ?_
  refine ⟨rfl, ?_⟩
  first
    | exact grow_alloc (Below.refl _ _) _
    | exact below_setIn (below_setIn (below_setIn (below_setIn (grow_alloc (Below.refl _ _) _) (Nat.le_refl _) _ _) (Nat.le_refl _) _ _) (Nat.le_refl _) _ _) (Nat.le_refl _) _ _

theorem adone_nobody (w : World) :
    Calls Try.prog 15 #[.pointer none] w fun e w' => e = .returned (.agg #[.int .i64 1, .int .u64 0, .int .i64 0, .int .i64 0]) ∧ Below w.heap.size w w' := by
  go_enter Try.func15, Try.ntmps15
  go_wp2
  refine bodyPost_ret (v := .agg #[.int .i64 1, .int .u64 0, .int .i64 0, .int .i64 0]) (by simp [results, Try.results15, go_sem]) rfl ?_
  refine ⟨rfl, ?_⟩
  first
    | exact grow_alloc (Below.refl _ _) _
    | exact below_setIn (below_setIn (below_setIn (below_setIn (grow_alloc (Below.refl _ _) _) (Nat.le_refl _) _ _) (Nat.le_refl _) _ _) (Nat.le_refl _) _ _) (Nat.le_refl _) _ _

end Go.Proofs.Ytocmkmeikcejjaa
