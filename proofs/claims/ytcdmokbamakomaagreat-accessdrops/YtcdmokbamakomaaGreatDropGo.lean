/- What a step of one who lets an object go comes to (package drop): Step itself. -/
import Derived.Test.YtcdmokbamakomaaGreatDropMark
namespace Go.Proofs.YtcdmokbamakomaaGreat
open Go.RowKit

/-- a number is a handle -/
structure HandIs (nu : Int) (x : Nat) (G : Int) : Prop where
  lo : 65536 ≤ nu
  hi : nu ≤ 4294967295
  x : nu % 65536 = x
  g : nu / 65536 = G

theorem HandIs.call {nu : Int} {x : Nat} {G : Int} (h : HandIs nu x G) (w : World) :
    Calls Tryz.prog 32 #[.int .u64 nu] w fun e w' => e = .returned (.tuple #[.agg #[.int .i64 x, .int .i64 G], .bool true]) ∧ Below w.heap.size w w' := by
  have e := handle_yes nu w h.lo h.hi
  rwa [h.x, h.g] at e

set_option maxHeartbeats 400000 in
theorem dstep_see {w : World} {L : Loc} {s : Mm} {b o : Nat} {T : TypeId} {cs : Array Value} {t n k m : Nat} {g p r : Int} {a : DV} (h : MemAt w L s) (hi : DpAt w b o T cs a) (who : Int) (hG : Good t n k m g p r) (hlen : arenaLen t n k m ≤ s.n) {x : Nat} {G : Int} (hh : HandIs a.nu x G) (hx : x < n) (hnx : a.nx = 0) (X : Mm → DV → Prop) (d : Bool) (hX : ∀ s' a', X s' a' → (a'.nx == 7) = d)
    (hc : ∀ w1 : World, MemAt w1 L s → DpAt w1 b o T cs a → Calls Tryz.prog 67 #[.pointer (some ⟨b, o, none⟩), .agg #[.int .i64 t, .int .i64 n, .int .i64 k, .int .i64 m, .int .i64 g, .int .i64 p, .int .i64 r, .pointer (some ⟨L.p, 0, none⟩), .int .i64 who], .agg #[.int .i64 x, .int .i64 G]] w1 fun e w' => e = .returned (.tuple #[]) ∧ Dact L b o T cs w1 w' X) :
    Calls Tryz.prog 38 #[.pointer (some ⟨b, o, none⟩), .agg #[.int .i64 t, .int .i64 n, .int .i64 k, .int .i64 m, .int .i64 g, .int .i64 p, .int .i64 r, .pointer (some ⟨L.p, 0, none⟩), .int .i64 who]] w fun e w' => e = .returned (.bool d) ∧ Dact L b o T cs w w' X := by
  have hw := hh.call
  have ds := fun (w' : World) (m' : MemAt w' L s) => dstands_any (x := x) m' hG hlen who
  rw [decide_eq_true (by omega)] at ds
  have i0 := hi.grown (grow1 _ (.cells #[.int .i64 t, .int .i64 n, .int .i64 k, .int .i64 m, .int .i64 g, .int .i64 p, .int .i64 r, .pointer (some ⟨L.p, 0, none⟩), .int .i64 who] 28))
  have k0 := i0.c_nx
  have k1 := i0.c_nu
  rw [hnx] at k0
  clear hh
  go_enter Tryz.func38, Tryz.ntmps38
  go_wp2_with (first
    | (go_at_call 32; refine (hw _).mono ?_; rintro e w1 ⟨rfl, b1⟩; have i1 := (i0.grown b1).grown (grow1 _ (.cells #[.int .i64 x, .int .i64 G] 77)); have v1 := (BoxV.new.grown b1).grown (grow1 _ (.cells #[.int .i64 x, .int .i64 G] 77)); have m1 := ((h.alloc _).below b1).alloc (.cells #[.int .i64 x, .int .i64 G] 77); have o1 : Only (L.and b) w (w1.alloc (.cells #[.int .i64 x, .int .i64 G] 77)) := (((Only.refl _ _).alloc _).trans (Only.ofGrown b1)).alloc (.cells #[.int .i64 x, .int .i64 G] 77); have x1 := At.new w1 77 [.int .i64 (x : Nat), .int .i64 G]; have u0 := x1.at0 0 rfl; have y0 := v1.c0; have y1 := v1.c1; have y2 := v1.c2; have y3 := v1.c3; have y4 := v1.c4; have y5 := v1.c5; have y6 := v1.c6; have y7 := v1.c7; have y8 := v1.c8)
    | (go_at_call 65; refine (ds _ m1).mono ?_; rintro e w2 ⟨rfl, b2⟩; have i2 := i1.grown b2; have v2 := v1.grown b2; have m2 := m1.below b2; have x2 := x1.grown b2; have o2 := o1.trans (Only.ofGrown b2); have q0 := x2.at0 0 rfl; have q1 := x2.at0 1 rfl; have k2 := i2.c_nx; rw [hnx] at k2; have z0 := v2.c0; have z1 := v2.c1; have z2 := v2.c2; have z3 := v2.c3; have z4 := v2.c4; have z5 := v2.c5; have z6 := v2.c6; have z7 := v2.c7; have z8 := v2.c8; have kf := i2.fz)
    | (go_at_call 67; refine (hc _ m2 i2).mono ?_; rintro e w3 ⟨rfl, s3, cs3, a3, m3, o3, i3, q3, p3⟩; have k3 := i3.c_nx))
  go_ret
  exact ⟨ret_bool (hX _ _ p3), s3, cs3, a3, m3, o2.trans o3, i3, q3, p3⟩

set_option maxHeartbeats 400000 in
theorem dstep_ask {w : World} {L : Loc} {s : Mm} {b o : Nat} {T : TypeId} {cs : Array Value} {t n k m : Nat} {g p r : Int} {a : DV} (h : MemAt w L s) (hi : DpAt w b o T cs a) (who : Int) (hG : Good t n k m g p r) (hlen : arenaLen t n k m ≤ s.n) {x : Nat} {G : Int} (hh : HandIs a.nu x G) (hx : x < n) (hnx : a.nx = 1) (X : Mm → DV → Prop) (d : Bool) (hX : ∀ s' a', X s' a' → (a'.nx == 7) = d)
    (hc : ∀ w1 : World, MemAt w1 L s → DpAt w1 b o T cs a → Calls Tryz.prog 68 #[.pointer (some ⟨b, o, none⟩), .agg #[.int .i64 t, .int .i64 n, .int .i64 k, .int .i64 m, .int .i64 g, .int .i64 p, .int .i64 r, .pointer (some ⟨L.p, 0, none⟩), .int .i64 who], .agg #[.int .i64 x, .int .i64 G]] w1 fun e w' => e = .returned (.tuple #[]) ∧ Dact L b o T cs w1 w' X) :
    Calls Tryz.prog 38 #[.pointer (some ⟨b, o, none⟩), .agg #[.int .i64 t, .int .i64 n, .int .i64 k, .int .i64 m, .int .i64 g, .int .i64 p, .int .i64 r, .pointer (some ⟨L.p, 0, none⟩), .int .i64 who]] w fun e w' => e = .returned (.bool d) ∧ Dact L b o T cs w w' X := by
  have hw := hh.call
  have ds := fun (w' : World) (m' : MemAt w' L s) => dstands_any (x := x) m' hG hlen who
  rw [decide_eq_true (by omega)] at ds
  have i0 := hi.grown (grow1 _ (.cells #[.int .i64 t, .int .i64 n, .int .i64 k, .int .i64 m, .int .i64 g, .int .i64 p, .int .i64 r, .pointer (some ⟨L.p, 0, none⟩), .int .i64 who] 28))
  have k0 := i0.c_nx
  have k1 := i0.c_nu
  rw [hnx] at k0
  clear hh
  go_enter Tryz.func38, Tryz.ntmps38
  go_wp2_with (first
    | (go_at_call 32; refine (hw _).mono ?_; rintro e w1 ⟨rfl, b1⟩; have i1 := (i0.grown b1).grown (grow1 _ (.cells #[.int .i64 x, .int .i64 G] 77)); have v1 := (BoxV.new.grown b1).grown (grow1 _ (.cells #[.int .i64 x, .int .i64 G] 77)); have m1 := ((h.alloc _).below b1).alloc (.cells #[.int .i64 x, .int .i64 G] 77); have o1 : Only (L.and b) w (w1.alloc (.cells #[.int .i64 x, .int .i64 G] 77)) := (((Only.refl _ _).alloc _).trans (Only.ofGrown b1)).alloc (.cells #[.int .i64 x, .int .i64 G] 77); have x1 := At.new w1 77 [.int .i64 (x : Nat), .int .i64 G]; have u0 := x1.at0 0 rfl; have y0 := v1.c0; have y1 := v1.c1; have y2 := v1.c2; have y3 := v1.c3; have y4 := v1.c4; have y5 := v1.c5; have y6 := v1.c6; have y7 := v1.c7; have y8 := v1.c8)
    | (go_at_call 65; refine (ds _ m1).mono ?_; rintro e w2 ⟨rfl, b2⟩; have i2 := i1.grown b2; have v2 := v1.grown b2; have m2 := m1.below b2; have x2 := x1.grown b2; have o2 := o1.trans (Only.ofGrown b2); have q0 := x2.at0 0 rfl; have q1 := x2.at0 1 rfl; have k2 := i2.c_nx; rw [hnx] at k2; have z0 := v2.c0; have z1 := v2.c1; have z2 := v2.c2; have z3 := v2.c3; have z4 := v2.c4; have z5 := v2.c5; have z6 := v2.c6; have z7 := v2.c7; have z8 := v2.c8; have kf := i2.fz)
    | (go_at_call 68; refine (hc _ m2 i2).mono ?_; rintro e w3 ⟨rfl, s3, cs3, a3, m3, o3, i3, q3, p3⟩; have k3 := i3.c_nx))
  go_ret
  exact ⟨ret_bool (hX _ _ p3), s3, cs3, a3, m3, o2.trans o3, i3, q3, p3⟩

set_option maxHeartbeats 400000 in
theorem dstep_mark {w : World} {L : Loc} {s : Mm} {b o : Nat} {T : TypeId} {cs : Array Value} {t n k m : Nat} {g p r : Int} {a : DV} (h : MemAt w L s) (hi : DpAt w b o T cs a) (who : Int) (hG : Good t n k m g p r) (hlen : arenaLen t n k m ≤ s.n) {x : Nat} {G : Int} (hh : HandIs a.nu x G) (hx : x < n) (hnx : a.nx = 2) (X : Mm → DV → Prop) (d : Bool) (hX : ∀ s' a', X s' a' → (a'.nx == 7) = d)
    (hc : ∀ w1 : World, MemAt w1 L s → DpAt w1 b o T cs a → Calls Tryz.prog 69 #[.pointer (some ⟨b, o, none⟩), .agg #[.int .i64 t, .int .i64 n, .int .i64 k, .int .i64 m, .int .i64 g, .int .i64 p, .int .i64 r, .pointer (some ⟨L.p, 0, none⟩), .int .i64 who], .agg #[.int .i64 x, .int .i64 G]] w1 fun e w' => e = .returned (.tuple #[]) ∧ Dact L b o T cs w1 w' X) :
    Calls Tryz.prog 38 #[.pointer (some ⟨b, o, none⟩), .agg #[.int .i64 t, .int .i64 n, .int .i64 k, .int .i64 m, .int .i64 g, .int .i64 p, .int .i64 r, .pointer (some ⟨L.p, 0, none⟩), .int .i64 who]] w fun e w' => e = .returned (.bool d) ∧ Dact L b o T cs w w' X := by
  have hw := hh.call
  have ds := fun (w' : World) (m' : MemAt w' L s) => dstands_any (x := x) m' hG hlen who
  rw [decide_eq_true (by omega)] at ds
  have i0 := hi.grown (grow1 _ (.cells #[.int .i64 t, .int .i64 n, .int .i64 k, .int .i64 m, .int .i64 g, .int .i64 p, .int .i64 r, .pointer (some ⟨L.p, 0, none⟩), .int .i64 who] 28))
  have k0 := i0.c_nx
  have k1 := i0.c_nu
  rw [hnx] at k0
  clear hh
  go_enter Tryz.func38, Tryz.ntmps38
  go_wp2_with (first
    | (go_at_call 32; refine (hw _).mono ?_; rintro e w1 ⟨rfl, b1⟩; have i1 := (i0.grown b1).grown (grow1 _ (.cells #[.int .i64 x, .int .i64 G] 77)); have v1 := (BoxV.new.grown b1).grown (grow1 _ (.cells #[.int .i64 x, .int .i64 G] 77)); have m1 := ((h.alloc _).below b1).alloc (.cells #[.int .i64 x, .int .i64 G] 77); have o1 : Only (L.and b) w (w1.alloc (.cells #[.int .i64 x, .int .i64 G] 77)) := (((Only.refl _ _).alloc _).trans (Only.ofGrown b1)).alloc (.cells #[.int .i64 x, .int .i64 G] 77); have x1 := At.new w1 77 [.int .i64 (x : Nat), .int .i64 G]; have u0 := x1.at0 0 rfl; have y0 := v1.c0; have y1 := v1.c1; have y2 := v1.c2; have y3 := v1.c3; have y4 := v1.c4; have y5 := v1.c5; have y6 := v1.c6; have y7 := v1.c7; have y8 := v1.c8)
    | (go_at_call 65; refine (ds _ m1).mono ?_; rintro e w2 ⟨rfl, b2⟩; have i2 := i1.grown b2; have v2 := v1.grown b2; have m2 := m1.below b2; have x2 := x1.grown b2; have o2 := o1.trans (Only.ofGrown b2); have q0 := x2.at0 0 rfl; have q1 := x2.at0 1 rfl; have k2 := i2.c_nx; rw [hnx] at k2; have z0 := v2.c0; have z1 := v2.c1; have z2 := v2.c2; have z3 := v2.c3; have z4 := v2.c4; have z5 := v2.c5; have z6 := v2.c6; have z7 := v2.c7; have z8 := v2.c8; have kf := i2.fz)
    | (go_at_call 69; refine (hc _ m2 i2).mono ?_; rintro e w3 ⟨rfl, s3, cs3, a3, m3, o3, i3, q3, p3⟩; have k3 := i3.c_nx))
  go_ret
  exact ⟨ret_bool (hX _ _ p3), s3, cs3, a3, m3, o2.trans o3, i3, q3, p3⟩

set_option maxHeartbeats 400000 in
theorem dstep_end {w : World} {L : Loc} {s : Mm} {b o : Nat} {T : TypeId} {cs : Array Value} {t n k m : Nat} {g p r : Int} {a : DV} (h : MemAt w L s) (hi : DpAt w b o T cs a) (who : Int) (hG : Good t n k m g p r) (hlen : arenaLen t n k m ≤ s.n) {x : Nat} {G : Int} (hh : HandIs a.nu x G) (hx : x < n) (hnx : a.nx = 4) (X : Mm → DV → Prop) (d : Bool) (hX : ∀ s' a', X s' a' → (a'.nx == 7) = d)
    (hc : ∀ w1 : World, MemAt w1 L s → DpAt w1 b o T cs a → Calls Tryz.prog 70 #[.pointer (some ⟨b, o, none⟩), .agg #[.int .i64 t, .int .i64 n, .int .i64 k, .int .i64 m, .int .i64 g, .int .i64 p, .int .i64 r, .pointer (some ⟨L.p, 0, none⟩), .int .i64 who], .agg #[.int .i64 x, .int .i64 G]] w1 fun e w' => e = .returned (.tuple #[]) ∧ Dact L b o T cs w1 w' X) :
    Calls Tryz.prog 38 #[.pointer (some ⟨b, o, none⟩), .agg #[.int .i64 t, .int .i64 n, .int .i64 k, .int .i64 m, .int .i64 g, .int .i64 p, .int .i64 r, .pointer (some ⟨L.p, 0, none⟩), .int .i64 who]] w fun e w' => e = .returned (.bool d) ∧ Dact L b o T cs w w' X := by
  have hw := hh.call
  have ds := fun (w' : World) (m' : MemAt w' L s) => dstands_any (x := x) m' hG hlen who
  rw [decide_eq_true (by omega)] at ds
  have i0 := hi.grown (grow1 _ (.cells #[.int .i64 t, .int .i64 n, .int .i64 k, .int .i64 m, .int .i64 g, .int .i64 p, .int .i64 r, .pointer (some ⟨L.p, 0, none⟩), .int .i64 who] 28))
  have k0 := i0.c_nx
  have k1 := i0.c_nu
  rw [hnx] at k0
  clear hh
  go_enter Tryz.func38, Tryz.ntmps38
  go_wp2_with (first
    | (go_at_call 32; refine (hw _).mono ?_; rintro e w1 ⟨rfl, b1⟩; have i1 := (i0.grown b1).grown (grow1 _ (.cells #[.int .i64 x, .int .i64 G] 77)); have v1 := (BoxV.new.grown b1).grown (grow1 _ (.cells #[.int .i64 x, .int .i64 G] 77)); have m1 := ((h.alloc _).below b1).alloc (.cells #[.int .i64 x, .int .i64 G] 77); have o1 : Only (L.and b) w (w1.alloc (.cells #[.int .i64 x, .int .i64 G] 77)) := (((Only.refl _ _).alloc _).trans (Only.ofGrown b1)).alloc (.cells #[.int .i64 x, .int .i64 G] 77); have x1 := At.new w1 77 [.int .i64 (x : Nat), .int .i64 G]; have u0 := x1.at0 0 rfl; have y0 := v1.c0; have y1 := v1.c1; have y2 := v1.c2; have y3 := v1.c3; have y4 := v1.c4; have y5 := v1.c5; have y6 := v1.c6; have y7 := v1.c7; have y8 := v1.c8)
    | (go_at_call 65; refine (ds _ m1).mono ?_; rintro e w2 ⟨rfl, b2⟩; have i2 := i1.grown b2; have v2 := v1.grown b2; have m2 := m1.below b2; have x2 := x1.grown b2; have o2 := o1.trans (Only.ofGrown b2); have q0 := x2.at0 0 rfl; have q1 := x2.at0 1 rfl; have k2 := i2.c_nx; rw [hnx] at k2; have z0 := v2.c0; have z1 := v2.c1; have z2 := v2.c2; have z3 := v2.c3; have z4 := v2.c4; have z5 := v2.c5; have z6 := v2.c6; have z7 := v2.c7; have z8 := v2.c8; have kf := i2.fz)
    | (go_at_call 70; refine (hc _ m2 i2).mono ?_; rintro e w3 ⟨rfl, s3, cs3, a3, m3, o3, i3, q3, p3⟩; have k3 := i3.c_nx))
  go_ret
  exact ⟨ret_bool (hX _ _ p3), s3, cs3, a3, m3, o2.trans o3, i3, q3, p3⟩

set_option maxHeartbeats 400000 in
theorem dstep_count {w : World} {L : Loc} {s : Mm} {b o : Nat} {T : TypeId} {cs : Array Value} {t n k m : Nat} {g p r : Int} {a : DV} (h : MemAt w L s) (hi : DpAt w b o T cs a) (who : Int) (hG : Good t n k m g p r) (hlen : arenaLen t n k m ≤ s.n) {x : Nat} {G : Int} (hh : HandIs a.nu x G) (hx : x < n) (hnx : a.nx = 5) (X : Mm → DV → Prop) (d : Bool) (hX : ∀ s' a', X s' a' → (a'.nx == 7) = d)
    (hc : ∀ w1 : World, MemAt w1 L s → DpAt w1 b o T cs a → Calls Tryz.prog 71 #[.pointer (some ⟨b, o, none⟩), .agg #[.int .i64 t, .int .i64 n, .int .i64 k, .int .i64 m, .int .i64 g, .int .i64 p, .int .i64 r, .pointer (some ⟨L.p, 0, none⟩), .int .i64 who], .agg #[.int .i64 x, .int .i64 G]] w1 fun e w' => e = .returned (.tuple #[]) ∧ Dact L b o T cs w1 w' X) :
    Calls Tryz.prog 38 #[.pointer (some ⟨b, o, none⟩), .agg #[.int .i64 t, .int .i64 n, .int .i64 k, .int .i64 m, .int .i64 g, .int .i64 p, .int .i64 r, .pointer (some ⟨L.p, 0, none⟩), .int .i64 who]] w fun e w' => e = .returned (.bool d) ∧ Dact L b o T cs w w' X := by
  have hw := hh.call
  have ds := fun (w' : World) (m' : MemAt w' L s) => dstands_any (x := x) m' hG hlen who
  rw [decide_eq_true (by omega)] at ds
  have i0 := hi.grown (grow1 _ (.cells #[.int .i64 t, .int .i64 n, .int .i64 k, .int .i64 m, .int .i64 g, .int .i64 p, .int .i64 r, .pointer (some ⟨L.p, 0, none⟩), .int .i64 who] 28))
  have k0 := i0.c_nx
  have k1 := i0.c_nu
  rw [hnx] at k0
  clear hh
  go_enter Tryz.func38, Tryz.ntmps38
  go_wp2_with (first
    | (go_at_call 32; refine (hw _).mono ?_; rintro e w1 ⟨rfl, b1⟩; have i1 := (i0.grown b1).grown (grow1 _ (.cells #[.int .i64 x, .int .i64 G] 77)); have v1 := (BoxV.new.grown b1).grown (grow1 _ (.cells #[.int .i64 x, .int .i64 G] 77)); have m1 := ((h.alloc _).below b1).alloc (.cells #[.int .i64 x, .int .i64 G] 77); have o1 : Only (L.and b) w (w1.alloc (.cells #[.int .i64 x, .int .i64 G] 77)) := (((Only.refl _ _).alloc _).trans (Only.ofGrown b1)).alloc (.cells #[.int .i64 x, .int .i64 G] 77); have x1 := At.new w1 77 [.int .i64 (x : Nat), .int .i64 G]; have u0 := x1.at0 0 rfl; have y0 := v1.c0; have y1 := v1.c1; have y2 := v1.c2; have y3 := v1.c3; have y4 := v1.c4; have y5 := v1.c5; have y6 := v1.c6; have y7 := v1.c7; have y8 := v1.c8)
    | (go_at_call 65; refine (ds _ m1).mono ?_; rintro e w2 ⟨rfl, b2⟩; have i2 := i1.grown b2; have v2 := v1.grown b2; have m2 := m1.below b2; have x2 := x1.grown b2; have o2 := o1.trans (Only.ofGrown b2); have q0 := x2.at0 0 rfl; have q1 := x2.at0 1 rfl; have k2 := i2.c_nx; rw [hnx] at k2; have z0 := v2.c0; have z1 := v2.c1; have z2 := v2.c2; have z3 := v2.c3; have z4 := v2.c4; have z5 := v2.c5; have z6 := v2.c6; have z7 := v2.c7; have z8 := v2.c8; have kf := i2.fz)
    | (go_at_call 71; refine (hc _ m2 i2).mono ?_; rintro e w3 ⟨rfl, s3, cs3, a3, m3, o3, i3, q3, p3⟩; have k3 := i3.c_nx))
  go_ret
  exact ⟨ret_bool (hX _ _ p3), s3, cs3, a3, m3, o2.trans o3, i3, q3, p3⟩

set_option maxHeartbeats 400000 in
theorem dstep_help_on {w : World} {L : Loc} {s : Mm} {b o : Nat} {T : TypeId} {cs : Array Value} {t n k m : Nat} {g p r : Int} {a : DV} (h : MemAt w L s) (hi : DpAt w b o T cs a) (who : Int) (hG : Good t n k m g p r) (hlen : arenaLen t n k m ≤ s.n) {x : Nat} {G : Int} (hh : HandIs a.nu x G) (hx : x < n) (hnx : a.nx = 3) (X : Mm → List Value → Prop) (hX : ∀ s' l', X s' l' → l'.length = 8)
    (hc : ∀ w1 : World, MemAt w1 L s → At w1 b (o + 6) T cs a.hl → Calls Tryz.prog 62 #[.pointer (some ⟨b, o + 6, none⟩), .agg #[.int .i64 t, .int .i64 n, .int .i64 k, .int .i64 m, .int .i64 g, .int .i64 p, .int .i64 r, .pointer (some ⟨L.p, 0, none⟩), .int .i64 who]] w1 fun e w' => e = .returned (.bool false) ∧ Hact L b (o + 6) T cs w1 w' X) :
    Calls Tryz.prog 38 #[.pointer (some ⟨b, o, none⟩), .agg #[.int .i64 t, .int .i64 n, .int .i64 k, .int .i64 m, .int .i64 g, .int .i64 p, .int .i64 r, .pointer (some ⟨L.p, 0, none⟩), .int .i64 who]] w fun e w' => e = .returned (.bool false) ∧ Dact L b o T cs w w' (fun s' a' => ∃ l', X s' l' ∧ a' = { a with hl := l' }) := by
  have hw := hh.call
  have ds := fun (w' : World) (m' : MemAt w' L s) => dstands_any (x := x) m' hG hlen who
  rw [decide_eq_true (by omega)] at ds
  have i0 := hi.grown (grow1 _ (.cells #[.int .i64 t, .int .i64 n, .int .i64 k, .int .i64 m, .int .i64 g, .int .i64 p, .int .i64 r, .pointer (some ⟨L.p, 0, none⟩), .int .i64 who] 28))
  have k0 := i0.c_nx
  have k1 := i0.c_nu
  rw [hnx] at k0
  clear hh
  have hbv : ¬ L.has w.heap.size := fun hh => by have := h.lt _ hh; omega
  have hbb : ¬ w.heap.size = b := fun hh => by have := hi.lt; omega
  have hbv1 : ¬ L.has (w.heap.size + 1) := fun hh => by have := h.lt _ hh; omega
  have hbb1 : ¬ w.heap.size + 1 = b := fun hh => by have := hi.lt; omega
  go_enter Tryz.func38, Tryz.ntmps38
  go_wp2_with (first
    | (go_at_call 32; refine (hw _).mono ?_; rintro e w1 ⟨rfl, b1⟩; have i1 := (i0.grown b1).grown (grow1 _ (.cells #[.int .i64 x, .int .i64 G] 77)); have v1 := (BoxV.new.grown b1).grown (grow1 _ (.cells #[.int .i64 x, .int .i64 G] 77)); have m1 := ((h.alloc _).below b1).alloc (.cells #[.int .i64 x, .int .i64 G] 77); have o1 : Only (L.and b) w (w1.alloc (.cells #[.int .i64 x, .int .i64 G] 77)) := (((Only.refl _ _).alloc _).trans (Only.ofGrown b1)).alloc (.cells #[.int .i64 x, .int .i64 G] 77); have x1 := At.new w1 77 [.int .i64 (x : Nat), .int .i64 G]; have u0 := x1.at0 0 rfl; have y0 := v1.c0; have y1 := v1.c1; have y2 := v1.c2; have y3 := v1.c3; have y4 := v1.c4; have y5 := v1.c5; have y6 := v1.c6; have y7 := v1.c7; have y8 := v1.c8)
    | (go_at_call 65; refine (ds _ m1).mono ?_; rintro e w2 ⟨rfl, b2⟩; have i2 := i1.grown b2; have v2 := v1.grown b2; have m2 := m1.below b2; have x2 := x1.grown b2; have o2 := o1.trans (Only.ofGrown b2); have q0 := x2.at0 0 rfl; have q1 := x2.at0 1 rfl; have k2 := i2.c_nx; rw [hnx] at k2; have z0 := v2.c0; have z1 := v2.c1; have z2 := v2.c2; have z3 := v2.c3; have z4 := v2.c4; have z5 := v2.c5; have z6 := v2.c6; have z7 := v2.c7; have z8 := v2.c8; have kf := i2.fz))
  refine wp_over (fun W => MemAt W L s ∧ DpAt W b o T cs a ∧ BoxV W w.heap.size t n k m g p r L.p who ∧ Only (L.and b) w W) ⟨m2, i2, v2, o2⟩ ?_
  clear b1 b2 i0 i1 i2 v1 v2 m1 m2 x1 x2 o1 o2 u0 q0 q1 k0 k1 k2 kf y0 z0 y1 z1 y2 z2 y3 z3 y4 z4 y5 z5 y6 z6 y7 z7 y8 z8
  rintro W ⟨m1, i1, v1, o1⟩
  refine wp_region_rely_tail Grown 4 [.val (.pointer (some ⟨b, o, none⟩)), .val (.pointer (some ⟨b, o, none⟩)), .val (.pointer (some ⟨b, o + 6, none⟩)), .val (.agg #[.int .i64 t, .int .i64 n, .int .i64 k, .int .i64 m, .int .i64 g, .int .i64 p, .int .i64 r, .pointer (some ⟨L.p, 0, none⟩), .int .i64 who])] (by kernel_rfl) Grown.refl Grown.trans (by decide) (by kernel_rfl) (by kernel_rfl) (by kernel_rfl) (by kernel_rfl) (by kernel_rfl) (by kernel_rfl) ?_
  simp only [List.take_succ_cons, List.take_zero, relyAll, Act.put, List.setIfInBounds_toArray, List.set_cons_zero, List.set_cons_succ]
  refine ⟨?_, ?_, ?_, ?_, ?_⟩
  · intro w' hg _
    refine Or.inl ⟨rfl, ?_⟩
    go_simp
    exact ⟨Grown.refl _, rfl⟩
  · intro w' hg _
    refine Or.inl ⟨rfl, ?_⟩
    go_simp
    exact ⟨Grown.refl _, rfl⟩
  · intro w' hg _
    refine Or.inl ⟨rfl, ?_⟩
    go_simp
    exact ⟨Grown.refl _, rfl⟩
  · intro w' hg _
    refine Or.inl ⟨rfl, ?_⟩
    have vv := (v1.grown ((Below.refl _ _).drew)).grown hg
    have y0 := vv.c0
    have y1 := vv.c1
    have y2 := vv.c2
    have y3 := vv.c3
    have y4 := vv.c4
    have y5 := vv.c5
    have y6 := vv.c6
    have y7 := vv.c7
    have y8 := vv.c8
    go_simp
    exact ⟨Grown.refl _, rfl⟩
  intro w5 hg _
  have m5 := m1.drew.below hg
  have i5 := i1.drew.grown hg
  have o5 : Only (L.and b) w w5 := o1.drew.trans (Only.ofGrown hg)
  clear hg m1 i1 v1 o1
  go_wp2_with (go_at_call 62; refine (hc _ m5 i5.hlAt).mono ?_; rintro e w6 ⟨rfl, s6, cs6, l6, m6, o6, i6, q6, p6⟩; have i7 := i5.step_hl i6 (hX _ _ p6) q6; have o7 := o5.trans o6; have q7 : Same o 21 cs cs6 := q6.wide (by omega) (by omega); have k0 := i7.c_nx; rw [show ({ a with hl := l6 } : DV).nx = 3 from hnx] at k0; have kf := i7.fz)
  go_ret
  exact ⟨rfl, s6, cs6, _, m6, o7, i7, q7, l6, p6, rfl⟩

set_option maxHeartbeats 400000 in
theorem dstep_help_done {w : World} {L : Loc} {s : Mm} {b o : Nat} {T : TypeId} {cs : Array Value} {t n k m : Nat} {g p r : Int} {a : DV} (h : MemAt w L s) (hi : DpAt w b o T cs a) (who : Int) (hG : Good t n k m g p r) (hlen : arenaLen t n k m ≤ s.n) {x : Nat} {G : Int} (hh : HandIs a.nu x G) (hb : ¬ L.has b) (hx : x < n) (hnx : a.nx = 3) (X : Mm → List Value → Prop) (hX : ∀ s' l', X s' l' → l'.length = 8)
    (hc : ∀ w1 : World, MemAt w1 L s → At w1 b (o + 6) T cs a.hl → Calls Tryz.prog 62 #[.pointer (some ⟨b, o + 6, none⟩), .agg #[.int .i64 t, .int .i64 n, .int .i64 k, .int .i64 m, .int .i64 g, .int .i64 p, .int .i64 r, .pointer (some ⟨L.p, 0, none⟩), .int .i64 who]] w1 fun e w' => e = .returned (.bool true) ∧ Hact L b (o + 6) T cs w1 w' X) :
    Calls Tryz.prog 38 #[.pointer (some ⟨b, o, none⟩), .agg #[.int .i64 t, .int .i64 n, .int .i64 k, .int .i64 m, .int .i64 g, .int .i64 p, .int .i64 r, .pointer (some ⟨L.p, 0, none⟩), .int .i64 who]] w fun e w' => e = .returned (.bool false) ∧ Dact L b o T cs w w' (fun s' a' => ∃ l', X s' l' ∧ a' = { a with hl := l', nx := 0 }) := by
  have hw := hh.call
  have ds := fun (w' : World) (m' : MemAt w' L s) => dstands_any (x := x) m' hG hlen who
  rw [decide_eq_true (by omega)] at ds
  have i0 := hi.grown (grow1 _ (.cells #[.int .i64 t, .int .i64 n, .int .i64 k, .int .i64 m, .int .i64 g, .int .i64 p, .int .i64 r, .pointer (some ⟨L.p, 0, none⟩), .int .i64 who] 28))
  have k0 := i0.c_nx
  have k1 := i0.c_nu
  rw [hnx] at k0
  clear hh
  have hbv : ¬ L.has w.heap.size := fun hh => by have := h.lt _ hh; omega
  have hbb : ¬ w.heap.size = b := fun hh => by have := hi.lt; omega
  have hbv1 : ¬ L.has (w.heap.size + 1) := fun hh => by have := h.lt _ hh; omega
  have hbb1 : ¬ w.heap.size + 1 = b := fun hh => by have := hi.lt; omega
  go_enter Tryz.func38, Tryz.ntmps38
  go_wp2_with (first
    | (go_at_call 32; refine (hw _).mono ?_; rintro e w1 ⟨rfl, b1⟩; have i1 := (i0.grown b1).grown (grow1 _ (.cells #[.int .i64 x, .int .i64 G] 77)); have v1 := (BoxV.new.grown b1).grown (grow1 _ (.cells #[.int .i64 x, .int .i64 G] 77)); have m1 := ((h.alloc _).below b1).alloc (.cells #[.int .i64 x, .int .i64 G] 77); have o1 : Only (L.and b) w (w1.alloc (.cells #[.int .i64 x, .int .i64 G] 77)) := (((Only.refl _ _).alloc _).trans (Only.ofGrown b1)).alloc (.cells #[.int .i64 x, .int .i64 G] 77); have x1 := At.new w1 77 [.int .i64 (x : Nat), .int .i64 G]; have u0 := x1.at0 0 rfl; have y0 := v1.c0; have y1 := v1.c1; have y2 := v1.c2; have y3 := v1.c3; have y4 := v1.c4; have y5 := v1.c5; have y6 := v1.c6; have y7 := v1.c7; have y8 := v1.c8)
    | (go_at_call 65; refine (ds _ m1).mono ?_; rintro e w2 ⟨rfl, b2⟩; have i2 := i1.grown b2; have v2 := v1.grown b2; have m2 := m1.below b2; have x2 := x1.grown b2; have o2 := o1.trans (Only.ofGrown b2); have q0 := x2.at0 0 rfl; have q1 := x2.at0 1 rfl; have k2 := i2.c_nx; rw [hnx] at k2; have z0 := v2.c0; have z1 := v2.c1; have z2 := v2.c2; have z3 := v2.c3; have z4 := v2.c4; have z5 := v2.c5; have z6 := v2.c6; have z7 := v2.c7; have z8 := v2.c8; have kf := i2.fz))
  refine wp_over (fun W => MemAt W L s ∧ DpAt W b o T cs a ∧ BoxV W w.heap.size t n k m g p r L.p who ∧ Only (L.and b) w W) ⟨m2, i2, v2, o2⟩ ?_
  clear b1 b2 i0 i1 i2 v1 v2 m1 m2 x1 x2 o1 o2 u0 q0 q1 k0 k1 k2 kf y0 z0 y1 z1 y2 z2 y3 z3 y4 z4 y5 z5 y6 z6 y7 z7 y8 z8
  rintro W ⟨m1, i1, v1, o1⟩
  refine wp_region_rely_tail Grown 4 [.val (.pointer (some ⟨b, o, none⟩)), .val (.pointer (some ⟨b, o, none⟩)), .val (.pointer (some ⟨b, o + 6, none⟩)), .val (.agg #[.int .i64 t, .int .i64 n, .int .i64 k, .int .i64 m, .int .i64 g, .int .i64 p, .int .i64 r, .pointer (some ⟨L.p, 0, none⟩), .int .i64 who])] (by kernel_rfl) Grown.refl Grown.trans (by decide) (by kernel_rfl) (by kernel_rfl) (by kernel_rfl) (by kernel_rfl) (by kernel_rfl) (by kernel_rfl) ?_
  simp only [List.take_succ_cons, List.take_zero, relyAll, Act.put, List.setIfInBounds_toArray, List.set_cons_zero, List.set_cons_succ]
  refine ⟨?_, ?_, ?_, ?_, ?_⟩
  · intro w' hg _
    refine Or.inl ⟨rfl, ?_⟩
    go_simp
    exact ⟨Grown.refl _, rfl⟩
  · intro w' hg _
    refine Or.inl ⟨rfl, ?_⟩
    go_simp
    exact ⟨Grown.refl _, rfl⟩
  · intro w' hg _
    refine Or.inl ⟨rfl, ?_⟩
    go_simp
    exact ⟨Grown.refl _, rfl⟩
  · intro w' hg _
    refine Or.inl ⟨rfl, ?_⟩
    have vv := (v1.grown ((Below.refl _ _).drew)).grown hg
    have y0 := vv.c0
    have y1 := vv.c1
    have y2 := vv.c2
    have y3 := vv.c3
    have y4 := vv.c4
    have y5 := vv.c5
    have y6 := vv.c6
    have y7 := vv.c7
    have y8 := vv.c8
    go_simp
    exact ⟨Grown.refl _, rfl⟩
  intro w5 hg _
  have m5 := m1.drew.below hg
  have i5 := i1.drew.grown hg
  have o5 : Only (L.and b) w w5 := o1.drew.trans (Only.ofGrown hg)
  clear hg m1 i1 v1 o1
  go_wp2_with (go_at_call 62; refine (hc _ m5 i5.hlAt).mono ?_; rintro e w6 ⟨rfl, s6, cs6, l6, m6, o6, i6, q6, p6⟩; have i7 := i5.step_hl i6 (hX _ _ p6) q6; have o7 := o5.trans o6; have q7 : Same o 21 cs cs6 := q6.wide (by omega) (by omega); have k0 := i7.c_nx; rw [show ({ a with hl := l6 } : DV).nx = 3 from hnx] at k0; have kf := i7.fz)
  go_ret
  exact ⟨rfl, s6, _, _, m6.setIn hb _ _, o7.set _ _, i7.set_nx 0, q7.set (by omega) _, l6, p6, rfl⟩

set_option maxHeartbeats 400000 in
theorem dstep_give_on {w : World} {L : Loc} {s : Mm} {b o : Nat} {T : TypeId} {cs : Array Value} {t n k m : Nat} {g p r : Int} {a : DV} (h : MemAt w L s) (hi : DpAt w b o T cs a) (who : Int) (hG : Good t n k m g p r) (hlen : arenaLen t n k m ≤ s.n) {x : Nat} {G : Int} (hh : HandIs a.nu x G) (hx : x < n) (hnx : a.nx = 6) {σ c c' : Nat} {lk lk' : Nat → Nat} {F F' : List Nat} {γ γ' : Gv}
    (hc : ∀ w1 : World, MemAt w1 L s → At w1 b (o + 14) T cs a.gl → Calls Tryz.prog 72 #[.pointer (some ⟨b, o + 14, none⟩), .agg #[.int .i64 t, .int .i64 n, .int .i64 k, .int .i64 m, .int .i64 g, .int .i64 p, .int .i64 r, .pointer (some ⟨L.p, 0, none⟩), .int .i64 who]] w1 fun e w' => e = .returned (.bool false) ∧ ∃ s' cs', Gave w1 L s b (o + 14) T cs t n σ c lk F x who γ w' s' cs' c' lk' F' γ') :
    Calls Tryz.prog 38 #[.pointer (some ⟨b, o, none⟩), .agg #[.int .i64 t, .int .i64 n, .int .i64 k, .int .i64 m, .int .i64 g, .int .i64 p, .int .i64 r, .pointer (some ⟨L.p, 0, none⟩), .int .i64 who]] w fun e w' => e = .returned (.bool false) ∧ Dact L b o T cs w w' (fun s' a' => Pile t n s' (σ + 1) c' lk' F' ∧ (∃ v, s' = (s.by who).step (γ.at t x) v) ∧ γ'.good n c' lk' F' x ∧ ∃ l', γ'.cells x l' ∧ a' = { a with gl := l' }) := by
  have hw := hh.call
  have ds := fun (w' : World) (m' : MemAt w' L s) => dstands_any (x := x) m' hG hlen who
  rw [decide_eq_true (by omega)] at ds
  have i0 := hi.grown (grow1 _ (.cells #[.int .i64 t, .int .i64 n, .int .i64 k, .int .i64 m, .int .i64 g, .int .i64 p, .int .i64 r, .pointer (some ⟨L.p, 0, none⟩), .int .i64 who] 28))
  have k0 := i0.c_nx
  have k1 := i0.c_nu
  rw [hnx] at k0
  clear hh
  have hbv : ¬ L.has w.heap.size := fun hh => by have := h.lt _ hh; omega
  have hbb : ¬ w.heap.size = b := fun hh => by have := hi.lt; omega
  have hbv1 : ¬ L.has (w.heap.size + 1) := fun hh => by have := h.lt _ hh; omega
  have hbb1 : ¬ w.heap.size + 1 = b := fun hh => by have := hi.lt; omega
  go_enter Tryz.func38, Tryz.ntmps38
  go_wp2_with (first
    | (go_at_call 32; refine (hw _).mono ?_; rintro e w1 ⟨rfl, b1⟩; have i1 := (i0.grown b1).grown (grow1 _ (.cells #[.int .i64 x, .int .i64 G] 77)); have v1 := (BoxV.new.grown b1).grown (grow1 _ (.cells #[.int .i64 x, .int .i64 G] 77)); have m1 := ((h.alloc _).below b1).alloc (.cells #[.int .i64 x, .int .i64 G] 77); have o1 : Only (L.and b) w (w1.alloc (.cells #[.int .i64 x, .int .i64 G] 77)) := (((Only.refl _ _).alloc _).trans (Only.ofGrown b1)).alloc (.cells #[.int .i64 x, .int .i64 G] 77); have x1 := At.new w1 77 [.int .i64 (x : Nat), .int .i64 G]; have u0 := x1.at0 0 rfl; have y0 := v1.c0; have y1 := v1.c1; have y2 := v1.c2; have y3 := v1.c3; have y4 := v1.c4; have y5 := v1.c5; have y6 := v1.c6; have y7 := v1.c7; have y8 := v1.c8)
    | (go_at_call 65; refine (ds _ m1).mono ?_; rintro e w2 ⟨rfl, b2⟩; have i2 := i1.grown b2; have v2 := v1.grown b2; have m2 := m1.below b2; have x2 := x1.grown b2; have o2 := o1.trans (Only.ofGrown b2); have q0 := x2.at0 0 rfl; have q1 := x2.at0 1 rfl; have k2 := i2.c_nx; rw [hnx] at k2; have z0 := v2.c0; have z1 := v2.c1; have z2 := v2.c2; have z3 := v2.c3; have z4 := v2.c4; have z5 := v2.c5; have z6 := v2.c6; have z7 := v2.c7; have z8 := v2.c8; have kf := i2.fz))
  refine wp_over (fun W => MemAt W L s ∧ DpAt W b o T cs a ∧ BoxV W w.heap.size t n k m g p r L.p who ∧ Only (L.and b) w W) ⟨m2, i2, v2, o2⟩ ?_
  clear b1 b2 i0 i1 i2 v1 v2 m1 m2 x1 x2 o1 o2 u0 q0 q1 k0 k1 k2 kf y0 z0 y1 z1 y2 z2 y3 z3 y4 z4 y5 z5 y6 z6 y7 z7 y8 z8
  rintro W ⟨m1, i1, v1, o1⟩
  refine wp_region_rely_tail Grown 4 [.val (.pointer (some ⟨b, o, none⟩)), .val (.pointer (some ⟨b, o, none⟩)), .val (.pointer (some ⟨b, o + 14, none⟩)), .val (.agg #[.int .i64 t, .int .i64 n, .int .i64 k, .int .i64 m, .int .i64 g, .int .i64 p, .int .i64 r, .pointer (some ⟨L.p, 0, none⟩), .int .i64 who])] (by kernel_rfl) Grown.refl Grown.trans (by decide) (by kernel_rfl) (by kernel_rfl) (by kernel_rfl) (by kernel_rfl) (by kernel_rfl) (by kernel_rfl) ?_
  simp only [List.take_succ_cons, List.take_zero, relyAll, Act.put, List.setIfInBounds_toArray, List.set_cons_zero, List.set_cons_succ]
  refine ⟨?_, ?_, ?_, ?_, ?_⟩
  · intro w' hg _
    refine Or.inl ⟨rfl, ?_⟩
    go_simp
    exact ⟨Grown.refl _, rfl⟩
  · intro w' hg _
    refine Or.inl ⟨rfl, ?_⟩
    go_simp
    exact ⟨Grown.refl _, rfl⟩
  · intro w' hg _
    refine Or.inl ⟨rfl, ?_⟩
    go_simp
    exact ⟨Grown.refl _, rfl⟩
  · intro w' hg _
    refine Or.inl ⟨rfl, ?_⟩
    have vv := (v1.grown ((Below.refl _ _).drew)).grown hg
    have y0 := vv.c0
    have y1 := vv.c1
    have y2 := vv.c2
    have y3 := vv.c3
    have y4 := vv.c4
    have y5 := vv.c5
    have y6 := vv.c6
    have y7 := vv.c7
    have y8 := vv.c8
    go_simp
    exact ⟨Grown.refl _, rfl⟩
  intro w5 hg _
  have m5 := m1.drew.below hg
  have i5 := i1.drew.grown hg
  have o5 : Only (L.and b) w w5 := o1.drew.trans (Only.ofGrown hg)
  clear hg m1 i1 v1 o1
  go_wp2_with (go_at_call 72; refine (hc _ m5 i5.glAt).mono ?_; rintro e w6 ⟨rfl, s6, cs6, P⟩; obtain ⟨l6, i6, q6⟩ := P.a; have i7 := i5.step_gl i6 (Gv.cells_len q6) P.same; have o7 := o5.trans P.only; have q7 : Same o 21 cs cs6 := P.same.wide (by omega) (by omega); have k0 := i7.c_nx; rw [show ({ a with gl := l6 } : DV).nx = 6 from hnx] at k0; have kf := i7.fz)
  go_ret
  exact ⟨rfl, s6, cs6, _, P.m, o7, i7, q7, P.p, P.st, P.good, l6, q6, rfl⟩

set_option maxHeartbeats 400000 in
theorem dstep_give_over {w : World} {L : Loc} {s : Mm} {b o : Nat} {T : TypeId} {cs : Array Value} {t n k m : Nat} {g p r : Int} {a : DV} (h : MemAt w L s) (hi : DpAt w b o T cs a) (who : Int) (hG : Good t n k m g p r) (hlen : arenaLen t n k m ≤ s.n) {x : Nat} {G : Int} (hh : HandIs a.nu x G) (hb : ¬ L.has b) (hx : x < n) (hnx : a.nx = 6) {σ c c' : Nat} {lk lk' : Nat → Nat} {F F' : List Nat} {γ γ' : Gv}
    (hc : ∀ w1 : World, MemAt w1 L s → At w1 b (o + 14) T cs a.gl → Calls Tryz.prog 72 #[.pointer (some ⟨b, o + 14, none⟩), .agg #[.int .i64 t, .int .i64 n, .int .i64 k, .int .i64 m, .int .i64 g, .int .i64 p, .int .i64 r, .pointer (some ⟨L.p, 0, none⟩), .int .i64 who]] w1 fun e w' => e = .returned (.bool true) ∧ ∃ s' cs', Gave w1 L s b (o + 14) T cs t n σ c lk F x who γ w' s' cs' c' lk' F' γ') :
    Calls Tryz.prog 38 #[.pointer (some ⟨b, o, none⟩), .agg #[.int .i64 t, .int .i64 n, .int .i64 k, .int .i64 m, .int .i64 g, .int .i64 p, .int .i64 r, .pointer (some ⟨L.p, 0, none⟩), .int .i64 who]] w fun e w' => e = .returned (.bool true) ∧ Dact L b o T cs w w' (fun s' a' => Pile t n s' (σ + 1) c' lk' F' ∧ (∃ v, s' = (s.by who).step (γ.at t x) v) ∧ γ'.good n c' lk' F' x ∧ ∃ l', γ'.cells x l' ∧ a' = { a with gl := l', nx := 7 }) := by
  have hw := hh.call
  have ds := fun (w' : World) (m' : MemAt w' L s) => dstands_any (x := x) m' hG hlen who
  rw [decide_eq_true (by omega)] at ds
  have i0 := hi.grown (grow1 _ (.cells #[.int .i64 t, .int .i64 n, .int .i64 k, .int .i64 m, .int .i64 g, .int .i64 p, .int .i64 r, .pointer (some ⟨L.p, 0, none⟩), .int .i64 who] 28))
  have k0 := i0.c_nx
  have k1 := i0.c_nu
  rw [hnx] at k0
  clear hh
  have hbv : ¬ L.has w.heap.size := fun hh => by have := h.lt _ hh; omega
  have hbb : ¬ w.heap.size = b := fun hh => by have := hi.lt; omega
  have hbv1 : ¬ L.has (w.heap.size + 1) := fun hh => by have := h.lt _ hh; omega
  have hbb1 : ¬ w.heap.size + 1 = b := fun hh => by have := hi.lt; omega
  go_enter Tryz.func38, Tryz.ntmps38
  go_wp2_with (first
    | (go_at_call 32; refine (hw _).mono ?_; rintro e w1 ⟨rfl, b1⟩; have i1 := (i0.grown b1).grown (grow1 _ (.cells #[.int .i64 x, .int .i64 G] 77)); have v1 := (BoxV.new.grown b1).grown (grow1 _ (.cells #[.int .i64 x, .int .i64 G] 77)); have m1 := ((h.alloc _).below b1).alloc (.cells #[.int .i64 x, .int .i64 G] 77); have o1 : Only (L.and b) w (w1.alloc (.cells #[.int .i64 x, .int .i64 G] 77)) := (((Only.refl _ _).alloc _).trans (Only.ofGrown b1)).alloc (.cells #[.int .i64 x, .int .i64 G] 77); have x1 := At.new w1 77 [.int .i64 (x : Nat), .int .i64 G]; have u0 := x1.at0 0 rfl; have y0 := v1.c0; have y1 := v1.c1; have y2 := v1.c2; have y3 := v1.c3; have y4 := v1.c4; have y5 := v1.c5; have y6 := v1.c6; have y7 := v1.c7; have y8 := v1.c8)
    | (go_at_call 65; refine (ds _ m1).mono ?_; rintro e w2 ⟨rfl, b2⟩; have i2 := i1.grown b2; have v2 := v1.grown b2; have m2 := m1.below b2; have x2 := x1.grown b2; have o2 := o1.trans (Only.ofGrown b2); have q0 := x2.at0 0 rfl; have q1 := x2.at0 1 rfl; have k2 := i2.c_nx; rw [hnx] at k2; have z0 := v2.c0; have z1 := v2.c1; have z2 := v2.c2; have z3 := v2.c3; have z4 := v2.c4; have z5 := v2.c5; have z6 := v2.c6; have z7 := v2.c7; have z8 := v2.c8; have kf := i2.fz))
  refine wp_over (fun W => MemAt W L s ∧ DpAt W b o T cs a ∧ BoxV W w.heap.size t n k m g p r L.p who ∧ Only (L.and b) w W) ⟨m2, i2, v2, o2⟩ ?_
  clear b1 b2 i0 i1 i2 v1 v2 m1 m2 x1 x2 o1 o2 u0 q0 q1 k0 k1 k2 kf y0 z0 y1 z1 y2 z2 y3 z3 y4 z4 y5 z5 y6 z6 y7 z7 y8 z8
  rintro W ⟨m1, i1, v1, o1⟩
  refine wp_region_rely_tail Grown 4 [.val (.pointer (some ⟨b, o, none⟩)), .val (.pointer (some ⟨b, o, none⟩)), .val (.pointer (some ⟨b, o + 14, none⟩)), .val (.agg #[.int .i64 t, .int .i64 n, .int .i64 k, .int .i64 m, .int .i64 g, .int .i64 p, .int .i64 r, .pointer (some ⟨L.p, 0, none⟩), .int .i64 who])] (by kernel_rfl) Grown.refl Grown.trans (by decide) (by kernel_rfl) (by kernel_rfl) (by kernel_rfl) (by kernel_rfl) (by kernel_rfl) (by kernel_rfl) ?_
  simp only [List.take_succ_cons, List.take_zero, relyAll, Act.put, List.setIfInBounds_toArray, List.set_cons_zero, List.set_cons_succ]
  refine ⟨?_, ?_, ?_, ?_, ?_⟩
  · intro w' hg _
    refine Or.inl ⟨rfl, ?_⟩
    go_simp
    exact ⟨Grown.refl _, rfl⟩
  · intro w' hg _
    refine Or.inl ⟨rfl, ?_⟩
    go_simp
    exact ⟨Grown.refl _, rfl⟩
  · intro w' hg _
    refine Or.inl ⟨rfl, ?_⟩
    go_simp
    exact ⟨Grown.refl _, rfl⟩
  · intro w' hg _
    refine Or.inl ⟨rfl, ?_⟩
    have vv := (v1.grown ((Below.refl _ _).drew)).grown hg
    have y0 := vv.c0
    have y1 := vv.c1
    have y2 := vv.c2
    have y3 := vv.c3
    have y4 := vv.c4
    have y5 := vv.c5
    have y6 := vv.c6
    have y7 := vv.c7
    have y8 := vv.c8
    go_simp
    exact ⟨Grown.refl _, rfl⟩
  intro w5 hg _
  have m5 := m1.drew.below hg
  have i5 := i1.drew.grown hg
  have o5 : Only (L.and b) w w5 := o1.drew.trans (Only.ofGrown hg)
  clear hg m1 i1 v1 o1
  go_wp2_with (go_at_call 72; refine (hc _ m5 i5.glAt).mono ?_; rintro e w6 ⟨rfl, s6, cs6, P⟩; obtain ⟨l6, i6, q6⟩ := P.a; have i7 := i5.step_gl i6 (Gv.cells_len q6) P.same; have o7 := o5.trans P.only; have q7 : Same o 21 cs cs6 := P.same.wide (by omega) (by omega); have k0 := i7.c_nx; rw [show ({ a with gl := l6 } : DV).nx = 6 from hnx] at k0; have kf := i7.fz)
  go_ret
  exact ⟨rfl, s6, _, _, P.m.setIn hb _ _, o7.set _ _, i7.set_nx 7, q7.set (by omega) _, P.p, P.st, P.good, l6, q6, rfl⟩

end Go.Proofs.YtcdmokbamakomaaGreat
