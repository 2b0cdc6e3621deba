/- What the statements' own helpers come to: a fresh arena, to take a slot alone, to give one back alone. -/
import Derived.Test.YtfedcddnjollmaaSlotTurn
import Derived.Test.YtfedcddnjollmaaRely
namespace Go.Proofs.Ytfedcddnjollmaa
open Go.RowKit

section
variable {w : World} {L : Loc} {s : Mm} {b o : Nat} {T : TypeId} {cs : Array Value} {t n σ c x : Nat} {lk : Nat → Nat} {F : List Nat}

/-- how far one who takes x alone is, behind so many steps -/
def alone (x c q : Nat) : Nat → Tk
  | 0 => .idle
  | 1 => .saw x c
  | 2 => .lnk x c q
  | _ => .won x

theorem take_along (h : MemAt w L s) (hb : ¬ L.has b) (hp : Pile t n s σ c lk (x :: F)) (hσ : σ < 1000000) (ht8 : t ≤ 8) (k : Nat) (hk : k < 3) (hi : TkAt w b o T cs (alone x c (lk x) k)) (c2 c3 c4 c5 c6 who : Int) (d : Bool) (hd : decide (k = 2) = d) :
    Calls Try.prog 13 #[.pointer (some ⟨b, o, none⟩), .agg #[.int .i64 t, .int .i64 n, .int .i64 c2, .int .i64 c3, .int .i64 c4, .int .i64 c5, .int .i64 c6, .pointer (some ⟨L.p, 0, none⟩), .int .i64 who]] w fun e w' => e = .returned (.bool d) ∧ ∃ s' cs', MemAt w' L s' ∧ Pile t n s' (σ + 1) (if k = 2 then c + 1 else c) lk (if k = 2 then F else x :: F) ∧ TkAt w' b o T cs' (alone x c (lk x) (k + 1)) ∧ Only (L.and b) w w' ∧ s'.n = s.n ∧ s'.la = (((alone x c (lk x) k).at t : Nat) : Int) := by
  subst hd
  have hx := hp.lt x (by simp)
  match k, hk, hi with
  | 0, _, hi =>
    refine (take_step h hb hp hσ ht8 .idle hi trivial rfl c2 c3 c4 c5 c6 who).mono ?_
    rintro e w' ⟨s', cs', c', F', τ', rfl, T⟩
    obtain ⟨tn, m, p, a, sm, on, gd, at1, st, ln⟩ := T
    cases tn
    exact ⟨rfl, s', cs', m, p, a, on, ln, at1⟩
  | 1, _, hi =>
    refine (take_step h hb hp hσ ht8 (.saw x c) hi ⟨hx, Nat.le_refl _, fun _ => rfl⟩ rfl c2 c3 c4 c5 c6 who).mono ?_
    rintro e w' ⟨s', cs', c', F', τ', rfl, T⟩
    obtain ⟨tn, m, p, a, sm, on, gd, at1, st, ln⟩ := T
    cases tn
    exact ⟨rfl, s', cs', m, p, a, on, ln, at1⟩
  | 2, _, hi =>
    refine (take_step h hb hp hσ ht8 (.lnk x c (lk x)) hi ⟨hx, hp.lkle x hx, Nat.le_refl _, fun _ => ⟨rfl, rfl⟩⟩ rfl c2 c3 c4 c5 c6 who).mono ?_
    rintro e w' ⟨s', cs', c', F', τ', rfl, T⟩
    obtain ⟨tn, m, p, a, sm, on, gd, at1, st, ln⟩ := T
    cases tn with
    | took => exact ⟨rfl, s', cs', m, p, a, on, ln, at1⟩
    | vain _ _ _ _ hc => omega

theorem take_not (h : MemAt w L s) (hb : ¬ L.has b) (hp : Pile t n s σ c lk []) (hσ : σ < 1000000) (ht8 : t ≤ 8) (hi : TkAt w b o T cs .idle) (c2 c3 c4 c5 c6 who : Int) :
    Calls Try.prog 13 #[.pointer (some ⟨b, o, none⟩), .agg #[.int .i64 t, .int .i64 n, .int .i64 c2, .int .i64 c3, .int .i64 c4, .int .i64 c5, .int .i64 c6, .pointer (some ⟨L.p, 0, none⟩), .int .i64 who]] w fun e w' => e = .returned (.bool true) ∧ ∃ s' cs', MemAt w' L s' ∧ Pile t n s' (σ + 1) c lk [] ∧ TkAt w' b o T cs' .none ∧ Only (L.and b) w w' ∧ s'.wd = s.wd ∧ s'.n = s.n ∧ s'.la = 1 := by
  refine (take_step h hb hp hσ ht8 .idle hi trivial rfl c2 c3 c4 c5 c6 who).mono ?_
  rintro e w' ⟨s', cs', c', F', τ', rfl, T⟩
  have hst := T.still rfl rfl
  obtain ⟨tn, m, p, a, sm, on, gd, at1, st, ln⟩ := T
  cases tn
  exact ⟨rfl, s', cs', m, p, a, on, hst, ln, at1⟩

/-- how far one who gives alone is, behind so many steps -/
def aloneG (h c : Nat) : Nat → Gv
  | 0 => .idle
  | 1 => .saw h c
  | 2 => .lnk h c
  | _ => .over

theorem give_along (h : MemAt w L s) (hb : ¬ L.has b) (k : Nat) (hk : k < 3) (hp : Pile t n s σ c (if k = 2 then upd lk x (hd F) else lk) F) (hσ : σ < 1000000) (ht8 : t ≤ 8) (hx : x < n) (hF : x ∉ F) (hi : GvAt w b o T cs x (aloneG (hd F) c k)) (c2 c3 c4 c5 c6 who : Int) (d : Bool) (hd' : decide (k = 2) = d) :
    Calls Try.prog 12 #[.pointer (some ⟨b, o, none⟩), .agg #[.int .i64 t, .int .i64 n, .int .i64 c2, .int .i64 c3, .int .i64 c4, .int .i64 c5, .int .i64 c6, .pointer (some ⟨L.p, 0, none⟩), .int .i64 who]] w fun e w' => e = .returned (.bool d) ∧ ∃ s' cs', MemAt w' L s' ∧ Pile t n s' (σ + 1) (if k = 2 then c + 1 else c) (if k = 0 then lk else upd lk x (hd F)) (if k = 2 then x :: F else F) ∧ GvAt w' b o T cs' x (aloneG (hd F) c (k + 1)) ∧ Only (L.and b) w w' ∧ s'.n = s.n := by
  subst hd'
  match k, hk, hi, hp with
  | 0, _, hi, hp =>
    refine (give_step h hb hp hσ ht8 hx hF .idle hi trivial rfl c2 c3 c4 c5 c6 who).mono ?_
    rintro e w' ⟨s', cs', c', lk', F', γ', rfl, T⟩
    obtain ⟨tn, m, p, a, sm, on, gd, ln⟩ := T
    cases tn
    exact ⟨rfl, s', cs', m, p, a, on, ln⟩
  | 1, _, hi, hp =>
    refine (give_step h hb hp hσ ht8 hx hF (.saw (hd F) c) hi ⟨hp.hdle, Nat.le_refl _, fun _ => rfl⟩ rfl c2 c3 c4 c5 c6 who).mono ?_
    rintro e w' ⟨s', cs', c', lk', F', γ', rfl, T⟩
    obtain ⟨tn, m, p, a, sm, on, gd, ln⟩ := T
    cases tn
    exact ⟨rfl, s', cs', m, p, a, on, ln⟩
  | 2, _, hi, hp =>
    refine (give_step h hb hp hσ ht8 hx hF (.lnk (hd F) c) hi ⟨hp.hdle, upd_same _ _ _, Nat.le_refl _, fun _ => rfl⟩ rfl c2 c3 c4 c5 c6 who).mono ?_
    rintro e w' ⟨s', cs', c', lk', F', γ', rfl, T⟩
    obtain ⟨tn, m, p, a, sm, on, gd, ln⟩ := T
    cases tn with
    | gave => exact ⟨rfl, s', cs', m, p, a, on, ln⟩
    | vain => omega

theorem BoxV.newB {w : World} {P : Nat} {c0 c1 c2 c3 c4 c5 c6 who : Int} {T : TypeId} (O : Obj) : BoxV ((w.alloc (.cells #[.int .i64 c0, .int .i64 c1, .int .i64 c2, .int .i64 c3, .int .i64 c4, .int .i64 c5, .int .i64 c6, .pointer (some ⟨P, 0, none⟩), .int .i64 who] T)).alloc O) w.heap.size c0 c1 c2 c3 c4 c5 c6 P who := BoxV.new.grown (grow_alloc (Below.refl _ _) _)

theorem now_any {w : World} {L : Loc} {s : Mm} (h : MemAt w L s) (c0 c1 c2 c3 c4 c5 c6 who : Int) (x : Nat) (hx : s.steps = x) :
    Calls Try.prog 17 #[.agg #[.int .i64 c0, .int .i64 c1, .int .i64 c2, .int .i64 c3, .int .i64 c4, .int .i64 c5, .int .i64 c6, .pointer (some ⟨L.p, 0, none⟩), .int .i64 who]] w fun e w' => e = .returned (.int .i64 x) ∧ Below w.heap.size w w' := by
  have k := enow_any h c0 c1 c2 c3 c4 c5 c6 who
  rwa [hx] at k

set_option maxHeartbeats 1000000 in
theorem take_some (h : MemAt w L s) (hp : Pile t n s σ c lk (x :: F)) (hσ : σ + 3 < 1000000) (ht8 : t ≤ 8) (c2 c3 c4 c5 c6 who : Int) :
    Calls Try.prog 10 #[.agg #[.int .i64 t, .int .i64 n, .int .i64 c2, .int .i64 c3, .int .i64 c4, .int .i64 c5, .int .i64 c6, .pointer (some ⟨L.p, 0, none⟩), .int .i64 who]] w fun e w' => e = .returned (.tuple #[.int .i64 x, .bool true, .int .i64 3]) ∧ ∃ s', MemAt w' L s' ∧ Pile t n s' (σ + 3) (c + 1) lk F ∧ Only L.has w w' ∧ s'.n = s.n := by
  have hB : Hid (¬ L.has w.heap.size) := fun hh => by have := h.lt _ hh; omega
  have hB1 : Hid (¬ L.has (w.heap.size + 1)) := fun hh => by have := h.lt _ hh; omega
  have HP : Hid (Pile t n s σ c lk (x :: F)) := hp
  have HM : Hid (MemAt w L s) := h
  have hd3 : wrap64 (((σ + 3 : Nat) : Int) - (σ : Int)) = 3 := by unfold wrap64; omega
  clear h hp
  go_enter Try.func10, Try.ntmps10
  go_wp2_with (go_at_call 17; refine (now_any ((HM.out.alloc _).alloc _) _ _ _ _ _ _ _ _ σ HP.out.st).mono ?_; rintro e w1 ⟨rfl, b1⟩)
  have m1 := ((HM.out.alloc (.cells #[.int .i64 t, .int .i64 n, .int .i64 c2, .int .i64 c3, .int .i64 c4, .int .i64 c5, .int .i64 c6, .pointer (some ⟨L.p, 0, none⟩), .int .i64 who] 27)).alloc (.cells #[.int .i64 0, .int .u64 0, .int .i64 0, .int .i64 0] 43)).below b1
  have v1 : BoxV w1 w.heap.size t n c2 c3 c4 c5 c6 L.p who := (BoxV.newB _).grown b1
  have i1 : TkAt w1 (w.heap.size + 1) 0 43 #[.int .i64 0, .int .u64 0, .int .i64 0, .int .i64 0] (alone x c (lk x) 0) := by
    have q := take0 (w.alloc (.cells #[.int .i64 t, .int .i64 n, .int .i64 c2, .int .i64 c3, .int .i64 c4, .int .i64 c5, .int .i64 c6, .pointer (some ⟨L.p, 0, none⟩), .int .i64 who] 27))
    rw [Go.Deep.nblk_alloc] at q
    exact q.of_block (b1.block _ q.lt)
  have o1 : Only (L.and (w.heap.size + 1)) w w1 := (((Only.refl _ _).alloc _).alloc _).trans (Only.ofGrown b1)
  have A1 : Hid (∃ s' cs', MemAt w1 L s' ∧ Pile t n s' (σ + 0) c lk (x :: F) ∧ TkAt w1 (w.heap.size + 1) 0 43 cs' (alone x c (lk x) 0) ∧ BoxV w1 w.heap.size t n c2 c3 c4 c5 c6 L.p who ∧ Only (L.and (w.heap.size + 1)) w w1 ∧ s'.n = s.n) := ⟨_, _, m1, HP.out, i1, v1, o1, rfl⟩
  clear m1 v1 i1 o1 b1 HM HP
  go_loopw [7] (fun i wr => ∃ (k : Nat) (s' : Mm) (cs' : Array Value), i = .int .i64 k ∧ k < 3 ∧ MemAt wr L s' ∧ Pile t n s' (σ + k) c lk (x :: F) ∧ TkAt wr (w.heap.size + 1) 0 43 cs' (alone x c (lk x) k) ∧ BoxV wr w.heap.size t n c2 c3 c4 c5 c6 L.p who ∧ Only (L.and (w.heap.size + 1)) w wr ∧ s'.n = s.n) (fun i _ => 3 - (intOf i).toNat)
  case atStart =>
    obtain ⟨s', cs', hm⟩ := A1.out
    exact ⟨0, s', cs', rfl, by omega, hm⟩
  case round =>
    clear A1
    obtain ⟨k, s', cs', rfl, hk3, m, p, i, v, on, ln⟩ := hrel
    have hk10 : (k : Int) < 10 := by omega
    have y0 := v.c0
    have y1 := v.c1
    have y2 := v.c2
    have y3 := v.c3
    have y4 := v.c4
    have y5 := v.c5
    have y6 := v.c6
    have y7 := v.c7
    have y8 := v.c8
    by_cases hk : k = 2
    · subst hk
      go_wp2_with (first
        | (go_at_call 13; refine (take_along m hB1.out p (by omega) ht8 2 (by omega) i _ _ _ _ _ _ true rfl).mono ?_; rintro e w2 ⟨rfl, s2, cs2, m2, p2, i2, o2, ln2, -⟩; have v2 := v.only o2 (fun hh => hh.elim hB.out (by omega)); have z0 := v2.c0; have z1 := v2.c1; have z2 := v2.c2; have z3 := v2.c3; have z4 := v2.c4; have z5 := v2.c5; have z6 := v2.c6; have z7 := v2.c7; have z8 := v2.c8)
        | (go_at_call 14; refine (slot_won i2 x rfl).mono ?_; rintro e w3 ⟨rfl, rfl⟩)
        | (go_at_call 17; refine (now_any m2 _ _ _ _ _ _ _ _ (σ + 3) p2.st).mono ?_; rintro e w4 ⟨rfl, b4⟩))
      refine bodyPost_ret (v := .tuple #[.int .i64 x, .bool true, .int .i64 3]) (by simp [results, Try.results10, go_sem]; omega) rfl ?_
      exact ⟨rfl, s2, m2.below b4, p2, ((on.trans o2).trans (Only.ofGrown b4)).mono (fun j hj hh => hh.elim id (fun e => absurd e (by omega))), ln2.trans ln⟩
    · have hk2 : k < 2 := by omega
      have hkd : decide (k = 2) = false := by simp; omega
      have hif : (if k = 2 then c + 1 else c) = c := if_neg hk
      have hif' : (if k = 2 then F else x :: F) = x :: F := if_neg hk
      have HK : Hid (¬ k = 2) := hk
      clear hk
      go_wp2_with (go_at_call 13; refine (take_along m hB1.out p (by omega) ht8 k hk3 i _ _ _ _ _ _ false hkd).mono ?_; rintro e w2 ⟨rfl, s2, cs2, m2, p2, i2, o2, ln2, -⟩; have v2 := v.only o2 (fun hh => hh.elim hB.out (by omega)))
      go_roundw
      case rel =>
        rw [hif, hif'] at p2
        exact ⟨k + 1, s2, cs2, by go_num, by omega, m2, p2, i2, v2, on.trans o2, ln2.trans ln⟩
      case measure => simp [intOf]; omega

set_option maxHeartbeats 1000000 in
theorem take_none (h : MemAt w L s) (hp : Pile t n s σ c lk []) (hσ : σ + 3 < 1000000) (ht8 : t ≤ 8) (c2 c3 c4 c5 c6 who : Int) :
    Calls Try.prog 10 #[.agg #[.int .i64 t, .int .i64 n, .int .i64 c2, .int .i64 c3, .int .i64 c4, .int .i64 c5, .int .i64 c6, .pointer (some ⟨L.p, 0, none⟩), .int .i64 who]] w fun e w' => e = .returned (.tuple #[.int .i64 0, .bool false, .int .i64 1]) ∧ ∃ s', MemAt w' L s' ∧ Pile t n s' (σ + 1) c lk [] ∧ Only L.has w w' ∧ s'.wd = s.wd ∧ s'.n = s.n := by
  have hB : Hid (¬ L.has w.heap.size) := fun hh => by have := h.lt _ hh; omega
  have hB1 : Hid (¬ L.has (w.heap.size + 1)) := fun hh => by have := h.lt _ hh; omega
  have HP : Hid (Pile t n s σ c lk []) := hp
  have HM : Hid (MemAt w L s) := h
  clear h hp
  go_enter Try.func10, Try.ntmps10
  go_wp2_with (go_at_call 17; refine (now_any ((HM.out.alloc _).alloc _) _ _ _ _ _ _ _ _ σ HP.out.st).mono ?_; rintro e w1 ⟨rfl, b1⟩)
  have m1 := ((HM.out.alloc (.cells #[.int .i64 t, .int .i64 n, .int .i64 c2, .int .i64 c3, .int .i64 c4, .int .i64 c5, .int .i64 c6, .pointer (some ⟨L.p, 0, none⟩), .int .i64 who] 27)).alloc (.cells #[.int .i64 0, .int .u64 0, .int .i64 0, .int .i64 0] 43)).below b1
  have v1 : BoxV w1 w.heap.size t n c2 c3 c4 c5 c6 L.p who := (BoxV.newB _).grown b1
  have i1 : TkAt w1 (w.heap.size + 1) 0 43 #[.int .i64 0, .int .u64 0, .int .i64 0, .int .i64 0] .idle := by
    have q := take0 (w.alloc (.cells #[.int .i64 t, .int .i64 n, .int .i64 c2, .int .i64 c3, .int .i64 c4, .int .i64 c5, .int .i64 c6, .pointer (some ⟨L.p, 0, none⟩), .int .i64 who] 27))
    rw [Go.Deep.nblk_alloc] at q
    exact q.of_block (b1.block _ q.lt)
  have o1 : Only (L.and (w.heap.size + 1)) w w1 := (((Only.refl _ _).alloc _).alloc _).trans (Only.ofGrown b1)
  have A1 : Hid (MemAt w1 L s ∧ TkAt w1 (w.heap.size + 1) 0 43 #[.int .i64 0, .int .u64 0, .int .i64 0, .int .i64 0] .idle ∧ BoxV w1 w.heap.size t n c2 c3 c4 c5 c6 L.p who ∧ Only (L.and (w.heap.size + 1)) w w1) := ⟨m1, i1, v1, o1⟩
  clear m1 v1 i1 o1 b1 HM
  go_loopw [7] (fun i wr => i = .int .i64 0 ∧ MemAt wr L s ∧ TkAt wr (w.heap.size + 1) 0 43 #[.int .i64 0, .int .u64 0, .int .i64 0, .int .i64 0] .idle ∧ BoxV wr w.heap.size t n c2 c3 c4 c5 c6 L.p who ∧ Only (L.and (w.heap.size + 1)) w wr) (fun i _ => 3 - (intOf i).toNat)
  case atStart => exact ⟨rfl, A1.out⟩
  case round =>
    clear A1
    obtain ⟨rfl, m, i, v, on⟩ := hrel
    have y0 := v.c0
    have y1 := v.c1
    have y2 := v.c2
    have y3 := v.c3
    have y4 := v.c4
    have y5 := v.c5
    have y6 := v.c6
    have y7 := v.c7
    have y8 := v.c8
    go_wp2_with (first
      | (go_at_call 13; refine (take_not m hB1.out HP.out (by omega) ht8 i _ _ _ _ _ _).mono ?_; rintro e w2 ⟨rfl, s2, cs2, m2, p2, i2, o2, hs2, ln2, -⟩; have v2 := v.only o2 (fun hh => hh.elim hB.out (by omega)); have z0 := v2.c0; have z1 := v2.c1; have z2 := v2.c2; have z3 := v2.c3; have z4 := v2.c4; have z5 := v2.c5; have z6 := v2.c6; have z7 := v2.c7; have z8 := v2.c8)
      | (go_at_call 14; refine (slot_none i2 rfl).mono ?_; rintro e w3 ⟨rfl, rfl⟩)
      | (go_at_call 17; refine (now_any m2 _ _ _ _ _ _ _ _ (σ + 1) p2.st).mono ?_; rintro e w4 ⟨rfl, b4⟩))
    refine bodyPost_ret (v := .tuple #[.int .i64 0, .bool false, .int .i64 1]) (by simp [results, Try.results10, go_sem]; omega) rfl ?_
    exact ⟨rfl, s2, m2.below b4, p2, ((on.trans o2).trans (Only.ofGrown b4)).mono (fun j hj hh => hh.elim id (fun e => absurd e (by omega))), hs2, ln2⟩

set_option maxHeartbeats 1000000 in
theorem give_any (h : MemAt w L s) (hp : Pile t n s σ c lk F) (hσ : σ + 3 < 1000000) (ht8 : t ≤ 8) (hx : x < n) (hF : x ∉ F) (c2 c3 c4 c5 c6 who : Int) :
    Calls Try.prog 11 #[.agg #[.int .i64 t, .int .i64 n, .int .i64 c2, .int .i64 c3, .int .i64 c4, .int .i64 c5, .int .i64 c6, .pointer (some ⟨L.p, 0, none⟩), .int .i64 who], .int .i64 x] w fun e w' => e = .returned (.int .i64 3) ∧ ∃ s', MemAt w' L s' ∧ Pile t n s' (σ + 3) (c + 1) (upd lk x (hd F)) (x :: F) ∧ Only L.has w w' ∧ s'.n = s.n := by
  have hB : Hid (¬ L.has w.heap.size) := fun hh => by have := h.lt _ hh; omega
  have HP : Hid (Pile t n s σ c lk F) := hp
  have HM : Hid (MemAt w L s) := h
  have HF : Hid (x ∉ F) := hF
  have HX : Hid (x < n) := hx
  clear h hp hF hx
  go_enter Try.func11, Try.ntmps11
  go_wp2
  refine wp_over (fun W => MemAt W L s ∧ BoxV W w.heap.size t n c2 c3 c4 c5 c6 L.p who ∧ Only L.has w W ∧ W.heap.size = w.heap.size + 1) ⟨HM.out.alloc _, BoxV.new, (Only.refl _ _).alloc _, Go.Deep.nblk_alloc _ _⟩ ?_
  rintro W ⟨m1, v1, o1, z1⟩
  refine wp_region_rely_tail Grown 4 [.val (.int .i64 x), .that (fun w' v => ∃ B, v = .pointer (some ⟨B, 0, none⟩) ∧ w.heap.size < B ∧ GvAt w' B 0 65 #[.int .i64 0, .int .i64 x, .int .u64 0] x .idle) ?_, .val (.agg #[.int .i64 t, .int .i64 n, .int .i64 c2, .int .i64 c3, .int .i64 c4, .int .i64 c5, .int .i64 c6, .pointer (some ⟨L.p, 0, none⟩), .int .i64 who]), .val (.int .i64 σ)] (by kernel_rfl) Grown.refl Grown.trans (by decide) (by kernel_rfl) (by kernel_rfl) (by kernel_rfl) (by kernel_rfl) (by kernel_rfl) (by kernel_rfl) ?_
  · rintro x1 y1 v hg ⟨B, hv, hb, hg1⟩
    exact ⟨B, hv, hb, hg1.of_block (hg.block _ hg1.lt)⟩
  simp only [List.take_succ_cons, List.take_zero, relyAll, Act.put, List.setIfInBounds_toArray, List.set_cons_zero, List.set_cons_succ]
  refine ⟨?_, ?_, ?_⟩
  · intro w' hg _
    refine Or.inl ⟨rfl, ?_⟩
    go_simp
    exact ⟨Grown.refl _, rfl⟩
  · intro w' hg _
    refine Or.inl ⟨rfl, ?_⟩
    go_simp
    refine (newGive_any x _).mono ?_
    rintro e w'' ⟨rfl, rfl⟩
    exact ⟨_, rfl, grow_alloc (Below.refl _ _) _, _, rfl, by have := hg.size; have : W.drew.heap.size = W.heap.size := rfl; omega, give0 _ _⟩
  · intro v
    refine ⟨?_, ?_, ?_⟩
    · intro w' hg _
      refine Or.inl ⟨rfl, ?_⟩
      have vv := (v1.grown ((Below.refl _ _).drew)).grown hg
      have y0 := vv.c0
      have y1 := vv.c1
      have y2 := vv.c2
      have y3 := vv.c3
      have y4 := vv.c4
      have y5 := vv.c5
      have y6 := vv.c6
      have y7 := vv.c7
      have y8 := vv.c8
      go_simp
      exact ⟨Grown.refl _, rfl⟩
    · intro w' hg _
      refine Or.inl ⟨rfl, ?_⟩
      go_simp
      refine (now_any (m1.drew.below hg) _ _ _ _ _ _ _ _ σ HP.out.st).mono ?_
      rintro e w'' ⟨rfl, b9⟩
      exact ⟨_, rfl, b9, rfl⟩
    intro w2 hg hf
    obtain ⟨⟨B, rfl, hB1, i2⟩, -⟩ : (∃ B, v = .pointer (some ⟨B, 0, none⟩) ∧ w.heap.size < B ∧ GvAt w2 B 0 65 #[.int .i64 0, .int .i64 x, .int .u64 0] x .idle) ∧ True := ⟨hf.1, trivial⟩
    have m2 := m1.drew.below hg
    have v2 := (v1.grown ((Below.refl _ _).drew)).grown hg
    have o2 : Only (L.and B) w w2 := (o1.drew.trans (Only.ofGrown hg)).andL
    have hLB : Hid (¬ L.has B) := fun hh => by have := HM.out.lt _ hh; omega
    have HB1 : Hid (w.heap.size < B) := hB1
    clear hf hg m1 v1 o1 z1 hB1
    have A1 : Hid (MemAt w2 L s ∧ GvAt w2 B 0 65 #[.int .i64 0, .int .i64 x, .int .u64 0] x .idle ∧ BoxV w2 w.heap.size t n c2 c3 c4 c5 c6 L.p who ∧ Only (L.and B) w w2) := ⟨m2, i2, v2, o2⟩
    clear m2 i2 v2 o2 HM
    go_wp2
    go_loopw [7] (fun i wr => ∃ (k : Nat) (s' : Mm) (cs' : Array Value), i = .int .i64 k ∧ k < 3 ∧ MemAt wr L s' ∧ Pile t n s' (σ + k) c (if k = 2 then upd lk x (hd F) else lk) F ∧ GvAt wr B 0 65 cs' x (aloneG (hd F) c k) ∧ BoxV wr w.heap.size t n c2 c3 c4 c5 c6 L.p who ∧ Only (L.and B) w wr ∧ s'.n = s.n) (fun i _ => 3 - (intOf i).toNat)
    case atStart =>
      obtain ⟨hm, hi, hv, ho⟩ := A1.out
      exact ⟨0, s, _, rfl, by omega, hm, HP.out, hi, hv, ho, rfl⟩
    case round =>
      clear A1 HP
      obtain ⟨k, s', cs', rfl, hk3, m, p, i, v, on, ln⟩ := hrel
      have hk10 : (k : Int) < 10 := by omega
      have y0 := v.c0
      have y1 := v.c1
      have y2 := v.c2
      have y3 := v.c3
      have y4 := v.c4
      have y5 := v.c5
      have y6 := v.c6
      have y7 := v.c7
      have y8 := v.c8
      by_cases hk : k = 2
      · subst hk
        go_wp2_with (first
          | (go_at_call 12; refine (give_along m hLB.out 2 (by omega) p (by omega) ht8 HX.out HF.out i _ _ _ _ _ _ true rfl).mono ?_; rintro e w2 ⟨rfl, s2, cs2, m2, p2, i2, o2, ln2⟩; have v2 := v.only o2 (fun hh => hh.elim hB.out (by have := HB1.out; omega)); have z0 := v2.c0; have z1 := v2.c1; have z2 := v2.c2; have z3 := v2.c3; have z4 := v2.c4; have z5 := v2.c5; have z6 := v2.c6; have z7 := v2.c7; have z8 := v2.c8)
          | (go_at_call 17; refine (now_any m2 _ _ _ _ _ _ _ _ (σ + 3) p2.st).mono ?_; rintro e w4 ⟨rfl, b4⟩))
        refine bodyPost_ret (v := .int .i64 3) (by simp [results, Try.results11, go_sem]; omega) rfl ?_
        exact ⟨rfl, s2, m2.below b4, p2, ((on.trans o2).trans (Only.ofGrown b4)).mono (fun j hj hh => hh.elim id (fun e => absurd e (by have := HB1.out; omega))), ln2.trans ln⟩
      · have hk2 : k < 2 := by omega
        have hkd : decide (k = 2) = false := by simp; omega
        have hif : (if k = 2 then c + 1 else c) = c := if_neg hk
        have hif' : (if k = 2 then x :: F else F) = F := if_neg hk
        have hif2 : (if k = 0 then lk else upd lk x (hd F)) = (if k + 1 = 2 then upd lk x (hd F) else lk) := by
          by_cases h0 : k = 0
          · rw [if_pos h0, if_neg (by omega)]
          · rw [if_neg h0, if_pos (by omega)]
        have HK : Hid (¬ k = 2) := hk
        clear hk
        go_wp2_with (go_at_call 12; refine (give_along m hLB.out k hk3 p (by omega) ht8 HX.out HF.out i _ _ _ _ _ _ false hkd).mono ?_; rintro e w2 ⟨rfl, s2, cs2, m2, p2, i2, o2, ln2⟩; have v2 := v.only o2 (fun hh => hh.elim hB.out (by have := HB1.out; omega)))
        go_roundw
        case rel =>
          rw [hif, hif', hif2] at p2
          exact ⟨k + 1, s2, cs2, by go_num, by omega, m2, p2, i2, v2, on.trans o2, ln2.trans ln⟩
        case measure => simp [intOf]; omega

end

end Go.Proofs.Ytfedcddnjollmaa
