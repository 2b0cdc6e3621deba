/- AllocSteps answers true for every slice of numbers, and leaves what was in memory. -/
import Derived.Test.YtemembcefplgcaaAllocSite
import Derived.Test.YtemembcefplgcaaArgs
namespace Go.Proofs.Ytemembcefplgcaa
open Go.RowKit

theorem done_e' (a b c d : Value) (w : World) : (Instr.field 36 (.agg #[a, b, c, d]) 0).run Try.prog w = .ok a w := by kernel_rfl

/-- a step at a head -/
def Al.isHead : Al → Bool
  | .head _ _ _ _ => true
  | .ready _ _ _ _ _ => true
  | _ => false

/-- the word of a step: its kind; a chunk's word just where a head is laid -/
theorem al_kind {t n k m κ σ : Nat} {q : Q} {α : Al} (hκ : κ < 4) (hm : 1 ≤ m) (h : α.good t n k m κ σ q) (ho : α.over? = false) : ∃ K I X, KindIs t n k m ((α.at t n κ : Nat) : Int) K I X ∧ (K == 9) = α.isHead ∧ α.at t n κ ≤ 6 + t + n * 2 + k * 3 + k * m := by
  have top : ∃ K I X, KindIs t n k m ((1 : Nat) : Int) K I X ∧ (K == 9) = false := ⟨1, 0, 0, .top rfl, rfl⟩
  have link : ∀ x, x < n → ∃ K I X, KindIs t n k m ((6 + t + x * 2 + 1 : Nat) : Int) K I X ∧ (K == 9) = false := fun x hx => ⟨5, x, 0, .link (x : Int) (by omega) (by omega) (by omega), rfl⟩
  have word : ∀ a, 6 + t + n * 2 + k * 3 ≤ a → a < 6 + t + n * 2 + k * 3 + k * m → ∃ K I X, KindIs t n k m (a : Int) K I X ∧ (K == 9) = true := fun a h0 h1 => by
    obtain ⟨d, rfl⟩ : ∃ d, a = 6 + t + n * 2 + k * 3 + d := ⟨a - (6 + t + n * 2 + k * 3), by omega⟩
    have hd : d < k * m := by omega
    have e := Nat.div_add_mod d m
    have hlt := Nat.mod_lt d (show 0 < m by omega)
    have hdk : d / m < k := (Nat.div_lt_iff_lt_mul (by omega)).2 hd
    obtain ⟨i, hi⟩ : ∃ i, d / m = i := ⟨_, rfl⟩
    obtain ⟨x, hx⟩ : ∃ x, d % m = x := ⟨_, rfl⟩
    rw [hi] at e hdk
    rw [hx] at e hlt
    have e2 : (i : Int) * (m : Int) = ((m * i : Nat) : Int) := by rw [Int.natCast_mul, Int.mul_comm]
    exact ⟨9, i, x, .word (i : Int) (x : Int) (by omega) (by omega) (by omega) (by omega) (by omega), rfl⟩
  cases α with
  | over E H st => cases ho
  | take τ =>
    rcases Tk.at_in (t := t) h.1 with e | ⟨x, hx, e⟩
    · obtain ⟨K, I, X, h1, h2⟩ := top
      exact ⟨K, I, X, by show KindIs _ _ _ _ ((τ.at t : Nat) : Int) _ _ _; rw [e]; exact h1, h2, by show τ.at t ≤ _; omega⟩
    · obtain ⟨K, I, X, h1, h2⟩ := link x hx
      exact ⟨K, I, X, by show KindIs _ _ _ _ ((τ.at t : Nat) : Int) _ _ _; rw [e]; exact h1, h2, by show τ.at t ≤ _; omega⟩
  | ask x => exact ⟨4, x, 0, .slot (x : Int) (by omega) (by have := h.1; omega) (by simp only [Al.at]; omega), rfl, by have := h.1; simp only [Al.at]; omega⟩
  | place x g τ =>
    rcases Pl.at_in (t := t) (n := n) h.2.2.2.1 with e | ⟨i, hi, e⟩
    · exact ⟨2, κ, 0, .opens (κ : Int) (by omega) (by omega) (by simp only [Al.at]; omega), rfl, by simp only [Al.at]; omega⟩
    · exact ⟨6, i, 0, .chunk (i : Int) (by omega) (by omega) (by simp only [Al.at]; omega), rfl, by simp only [Al.at]; omega⟩
  | count x g a i => have hi := h.2.2.2.1; exact ⟨7, i, 0, .live (i : Int) (by omega) (by omega) (by simp only [Al.at]; omega), rfl, by simp only [Al.at]; omega⟩
  | head x g a i =>
    obtain ⟨K, I, X, h1, h2⟩ := word a h.2.2.2.2.1 h.2.2.2.2.2
    exact ⟨K, I, X, h1, h2, by have := h.2.2.2.2.2; simp only [Al.at]; omega⟩
  | shw x g a i => have hx := h.1; exact ⟨4, x, 0, .slot (x : Int) (by omega) (by omega) (by simp only [Al.at]; omega), rfl, by simp only [Al.at]; omega⟩
  | ready x g a i st =>
    obtain ⟨K, I, X, h1, h2⟩ := word a h.2.2.2.2.1 h.2.2.2.2.2
    exact ⟨K, I, X, h1, h2, by have := h.2.2.2.2.2; simp only [Al.at]; omega⟩
  | give x g γ =>
    rcases Gv.at_in (t := t) h.1 γ with e | ⟨y, hy, e⟩
    · obtain ⟨K, I, X, h1, h2⟩ := top
      exact ⟨K, I, X, by show KindIs _ _ _ _ ((γ.at t x : Nat) : Int) _ _ _; rw [e]; exact h1, h2, by show γ.at t x ≤ _; omega⟩
    · obtain ⟨K, I, X, h1, h2⟩ := link y hy
      exact ⟨K, I, X, by show KindIs _ _ _ _ ((γ.at t x : Nat) : Int) _ _ _; rw [e]; exact h1, h2, by show γ.at t x ≤ _; omega⟩

/-- what is known of the word that was changed last: none yet, or the own head -/
def Al.noted (z : Int) (q : Q) : Al → Int → Prop
  | .shw x g a _, v => (v = -1 ∨ v = a) ∧ q.dw a = packOw 1 z x g false
  | .ready x g a _ _, v => (v = -1 ∨ v = a) ∧ q.dw a = packOw 1 z x g false
  | .over E _ _, v => E ≠ 0 ∧ v = -1
  | _, v => v = -1

section
variable {t n k m κ : Nat} {z : Int} {own : Bool} {σ : Nat} {q q' : Q} {α α' : Al}

/-- a step that lays no head notes nothing -/
theorem noted_on {v : Int} (hh : α.isHead = false) (ho : α.over? = false) (hv : α.noted z q v) (ht : alTurn t n k m κ z false σ q α = (q', α')) : α'.noted z q' v := by
  cases α with
  | take τ =>
    obtain ⟨c', F', τ', e⟩ : ∃ c' F' τ', tkTurn q.c q.lk q.F τ = (c', F', τ') := ⟨_, _, _, rfl⟩
    simp only [alTurn, e] at ht
    cases τ' <;> (simp only [alTake, Prod.mk.injEq] at ht; obtain ⟨rfl, rfl⟩ := ht; first | exact hv | exact ⟨by decide, hv⟩)
  | ask x =>
    simp only [alTurn, Prod.mk.injEq] at ht
    obtain ⟨rfl, rfl⟩ := ht
    exact hv
  | place x g τ =>
    obtain ⟨y', τ', e⟩ : ∃ y' τ', turn k m κ (base t n k m) q.y τ = (y', τ') := ⟨_, _, rfl⟩
    simp only [alTurn, e] at ht
    cases τ' <;> (simp only [alPlace, Prod.mk.injEq] at ht; obtain ⟨rfl, rfl⟩ := ht; exact hv)
  | count x g a i =>
    simp only [alTurn, Prod.mk.injEq] at ht
    obtain ⟨rfl, rfl⟩ := ht
    exact hv
  | head x g a i => cases hh
  | shw x g a i =>
    simp only [alTurn, Prod.mk.injEq] at ht
    obtain ⟨rfl, rfl⟩ := ht
    exact hv
  | ready x g a i st => cases hh
  | give x g γ =>
    obtain ⟨c', lk', F', γ', e⟩ : ∃ c' lk' F' γ', gvTurn q.c q.lk q.F x γ = (c', lk', F', γ') := ⟨_, _, _, _, rfl⟩
    simp only [alTurn, e] at ht
    cases γ' <;> (simp only [alGive, Prod.mk.injEq] at ht; obtain ⟨rfl, rfl⟩ := ht; first | exact hv | exact ⟨by decide, hv⟩)
  | over => cases ho

end

/-- alone: it ends -/
theorem Calm.fate {t n k m κ nx : Nat} {q : Q} {z : Int} {own : Bool} (C : Calm t n k m q nx) (hκ : κ < 4) (hm : 17 ≤ m) (hk0 : 1 ≤ k) (hk : k ≤ 64) (hnd : q.F.Nodup) (σ : Nat) : ∃ N q' nx' E H st, N ≤ k + 16 ∧ Runs t n k m κ z own N σ q (.take .idle) q' (.over E H st) ∧ Calm t n k m q' nx' := by
  obtain ⟨N, y1, nx1, τ1, hN, go, g1⟩ := alone_goes (bs := base t n k m) C.al hκ hm hk0 hk
  cases hF : q.F with
  | nil => exact ⟨1, q, nx, _, _, _, by omega, runs_none hF, C⟩
  | cons x F =>
    rcases pl_fate τ1 with hf | ⟨a, i, rfl⟩ | rfl
    · exfalso; cases g1 <;> cases hf
    · exact ⟨_, _, _, _, _, _, by omega, runs_made hF go, C.made hκ hm hF hnd g1⟩
    · have hyy : y1 = q.y := by cases g1; rfl
      subst hyy
      exact ⟨_, _, _, _, _, _, by omega, runs_back hF go, C.back hF⟩

theorem laid_la (t s len j : Nat) (hj : 1 ≤ j) : (Mm.laid t s len j).la = ((6 + t + (j - 1) * 2 + 1 : Nat) : Int) := by
  cases j with
  | zero => omega
  | succ j => rfl

theorem arena08' {t n k m : Nat} (hG : Good t n k m 100 600 3) (hn : n ≤ 65535) (w : World) :
    Calls Try.prog 8 #[.int .i64 t, .int .i64 n, .int .i64 k, .int .i64 m] w fun e w' => ∃ (L : Loc) (s : Mm), e = .returned (.tuple #[.agg #[.int .i64 t, .int .i64 n, .int .i64 k, .int .i64 m, .int .i64 100, .int .i64 600, .int .i64 3, .pointer (some ⟨L.p, 0, none⟩), .int .i64 0], .bool true]) ∧ MemAt w' L s ∧ Town t n k m s (1 + 2 * n) (Q.new n) ∧ s.la ≤ 1000000 ∧ Below w.heap.size w w' ∧ ∀ k, L.has k → w.heap.size ≤ k := by
  refine (arena04_any hG w).mono ?_
  rintro e w' ⟨L, rfl, m', b, f⟩
  refine ⟨L, _, rfl, m', town0 hG hn, ?_, b, f⟩
  rw [laid_la _ _ _ _ hG.s0]
  have := hG.t1
  omega

theorem last_is {w : World} {L : Loc} {s : Mm} (h : MemAt w L s) (a lw : Int) (c : Bool) (ha : s.la = a) (hl : s.lw = lw) (hc : s.lc = c) :
    Calls Try.prog 22 #[.pointer (some ⟨L.p, 0, none⟩)] w fun e w' => e = .returned (.agg #[.int .i64 a, .int .i64 lw, .bool c]) ∧ Below w.heap.size w w' := by
  subst ha hl hc; exact last_any h

theorem rem20 (x : Int) : -20 < x.tmod 20 ∧ x.tmod 20 < 20 := ⟨Int.lt_tmod_of_pos x (by decide), Int.tmod_lt_of_pos x (by decide)⟩

theorem class_cases (z : Int) : classOf z < 0 ∨ ∃ κ : Nat, classOf z = κ ∧ κ < 4 := by
  unfold classOf
  repeat' split
  all_goals first
    | exact .inl (by decide)
    | exact .inr ⟨0, rfl, by decide⟩
    | exact .inr ⟨1, rfl, by decide⟩
    | exact .inr ⟨2, rfl, by decide⟩
    | exact .inr ⟨3, rfl, by decide⟩

set_option maxRecDepth 20000 in
set_option maxHeartbeats 4000000 in
theorem allocSteps_any (ao : Option Addr) (N cap : Nat) (z : Nat → Int) (w : World) (hr : IntsAt .i64 w ao N z) :
    Calls Try.prog 7 #[.slice ao N cap] w fun e w' => e = .returned (.bool true) ∧ Below w.heap.size w w' := by
  have HR : Hid (IntsAt .i64 w ao N z) := hr
  clear hr
  have hG : Good 1 8 6 20 100 600 3 := goodp (by omega) (by omega) (by omega) (by omega)
  have AR := fun w => arena08' (t := 1) (n := 8) (k := 6) (m := 20) hG (by omega) w
  have dfe := done_e'
  go_enter Try.func7, Try.ntmps7
  go_wp2_with (first
    | (go_at_call 8; refine (AR _).mono ?_; rintro e w1 ⟨L, s, rfl, m1, t1, la1, b1, f1⟩; obtain ⟨c1, pa⟩ := Camp.first hG m1 t1 (calm0 1 8 6 20) b1 f1)
    | (go_at_call 9; refine (awake08_any _).mono ?_; rintro e w2 ⟨rfl, b2⟩; have c2 := c1.grown b2))
  have PA : Hid (PlotApart w L w1.heap.size 1 8 6 20) := pa
  obtain ⟨E, hE⟩ : ∃ E, w1.heap.size = E := ⟨_, rfl⟩
  rw [hE] at PA c2 ⊢
  have A2 : Hid (Camp w w2 L E 1 8 6 20 s 17 (Q.new 8) 0 ∧ s.la ≤ 1000000) := ⟨c2, la1⟩
  have HAr : Hid (Arena 1 8 6 20) := hG.arena
  clear c2 c1 pa m1 t1 b1 f1 b2 AR hE la1 hG
  go_loopw [5] (fun i wr => ∃ (r : Nat) (s2 : Mm) (σ : Nat) (q : Q) (nx : Nat), r ≤ 12 ∧ i = .int .i64 r ∧ σ ≤ 17 + 80 * r ∧ Camp w wr L E 1 8 6 20 s2 σ q nx ∧ s2.la ≤ 1000000) (fun i _ => 12 - (intOf i).toNat)
  case atStart => exact ⟨0, s, 17, _, 0, by omega, rfl, by omega, A2.out⟩
  case round =>
    clear A2
    obtain ⟨r, s2, σ, q, nx, hr12, rfl, hσ, c, hla⟩ := hrel
    by_cases hr' : r < N ∧ r < 12
    · obtain ⟨hrN, hr3⟩ := hr'
      have hr3' : (r : Int) < 12 := by omega
      have hrN' : (r : Int) < (N : Int) := by omega
      obtain ⟨zb, zo, rfl, hz0⟩ := HR.out r hrN
      have hz := keep' c.b hz0
      obtain ⟨Z, hZ⟩ : ∃ Z, (z r).tmod 20 = Z := ⟨_, rfl⟩
      have fz : Fit Z := by have := rem20 (z r); rw [hZ] at this; exact ⟨by omega, by omega⟩
      have hZw : IntKind.i64.wrap ((z r).tmod 20) = Z := by rw [IntKind.wrap_i64, hZ]; have := rem20 (z r); omega
      have hLW : Hid (¬ L.has wr.heap.size) := c.ltL
      have hEW : Hid (E ≠ wr.heap.size) := by unfold Hid; have := c.ltE; omega
      have hWW : Hid (w.heap.size ≤ wr.heap.size) := c.b.size
      have hnd := c.tw.pile.nd
      have cm := c.cm
      have A3 : Hid (Site w (wr.alloc (alloc0 Z false)) L E 1 8 6 20 s2 (σ + 0) q ∧ ∀ κ, Maker (wr.alloc (alloc0 Z false)) wr.heap.size Z false κ (.take .idle)) := ⟨(c.alloc _).site, fun κ => maker0 Z false κ wr⟩
      clear hz0 c
      go_wp2_with (go_at_call 16; refine (newAlloc_any Z false _).mono ?_; rintro e w5 ⟨rfl, rfl⟩)
      clear hz hZw
      obtain ⟨B, hB⟩ : ∃ B, wr.heap.size = B := ⟨_, rfl⟩
      rw [hB] at A3 hLW hEW hWW ⊢
      clear hB
      rcases class_cases Z with hbad | ⟨κ, hκz, hκ⟩
      · have A4 : Hid (Site w (wr.alloc (alloc0 Z false)) L E 1 8 6 20 s2 σ q ∧ Maker (wr.alloc (alloc0 Z false)) B Z false 0 (.take .idle)) := ⟨A3.out.1, A3.out.2 0⟩
        have CM : Hid (Calm 1 8 6 20 q nx) := cm
        obtain ⟨K, I, X, hkd⟩ := KindIs.some HAr.out (by omega) s2.la
        obtain ⟨A, hA⟩ : ∃ A, s2.la = A := ⟨_, rfl⟩
        rw [hA] at hkd hla
        have ck := fun w => rkind_is (m := 120) 100 600 3 w HAr.out (by omega) rfl (by omega) (by omega) (by omega) hkd
        have CK : Hid (∀ w, Calls Try.prog 23 #[.agg #[.int .i64 1, .int .i64 8, .int .i64 6, .int .i64 20, .int .i64 100, .int .i64 600, .int .i64 3], .int .i64 A] w fun e w' => e = .returned (.tuple #[.int .i64 K, .int .i64 I, .int .i64 X]) ∧ Below w.heap.size w w') := ck
        obtain ⟨lc, hlc⟩ : ∃ lc, s2.lc = lc := ⟨_, rfl⟩
        have HB : Hid (classOf Z < 0) := hbad
        clear A3 cm hkd ck hbad hnd
        go_loopw [7, 8] (fun av i wq => av = .int .i64 (-1) ∧ i = .int .i64 0 ∧ Site w wq L E 1 8 6 20 s2 σ q ∧ Maker wq B Z false 0 (.take .idle)) (fun _ i _ => 80 - (intOf i).toNat)
        case atStart => exact ⟨rfl, rfl, A4.out⟩
        case round =>
          clear A4
          obtain ⟨rfl, rfl, f, i3⟩ := hrel
          have z0 := f.v.c0
          have z1 := f.v.c1
          have z2 := f.v.c2
          have z3 := f.v.c3
          have z4 := f.v.c4
          have z5 := f.v.c5
          have z6 := f.v.c6
          have z7 := f.v.c7
          have z8 := f.v.c8
          go_wp2_with (go_at_call 21; refine (f.now σ rfl).mono ?_; rintro e w5 ⟨rfl, b5⟩; have f5 := f.grown b5; have z0 := f5.v.c0; have z1 := f5.v.c1; have z2 := f5.v.c2; have z3 := f5.v.c3; have z4 := f5.v.c4; have z5 := f5.v.c5; have z6 := f5.v.c6; have z7 := f5.v.c7; have z8 := f5.v.c8)
          go_wp2_with (go_at_call 17; refine (f5.stepBad PA.out hLW.out hEW.out hWW.out HB.out (i3.grown b5)).mono ?_; rintro e w6 ⟨rfl, f6, i6, o6⟩; have z0 := f6.v.c0; have z1 := f6.v.c1; have z2 := f6.v.c2; have z3 := f6.v.c3; have z4 := f6.v.c4; have z5 := f6.v.c5; have z6 := f6.v.c6; have z7 := f6.v.c7; have z8 := f6.v.c8)
          clear f i3 f5 b5 o6
          obtain ⟨lw, hlw⟩ : ∃ lw, s2.lw = lw := ⟨_, rfl⟩
          go_wp2_with (go_at_call 22; refine (last_is f6.mm A lw lc hA hlw hlc).mono ?_; rintro e w7 ⟨rfl, b7⟩; have f8 := (f6.grown b7).alloc (.cells #[.int .i64 A, .int .i64 lw, .bool lc] 59); have t8 := At.new w7 59 [.int .i64 A, .int .i64 lw, .bool lc]; have z0 := f8.v.c0; have z1 := f8.v.c1; have z2 := f8.v.c2; have z3 := f8.v.c3; have z4 := f8.v.c4; have z5 := f8.v.c5; have z6 := f8.v.c6; have z7 := f8.v.c7; have z8 := f8.v.c8)
          go_wp2_with (go_at_call 21; refine (f8.now (σ) rfl).mono ?_; rintro e w9 ⟨rfl, b9⟩; have f9 := f8.grown b9; have t9 := t8.grown b9; have k0 := t9.at0 0 rfl; have z0 := f9.v.c0; have z1 := f9.v.c1; have z2 := f9.v.c2; have z3 := f9.v.c3; have z4 := f9.v.c4; have z5 := f9.v.c5; have z6 := f9.v.c6; have z7 := f9.v.c7; have z8 := f9.v.c8)
          go_wp2_with (go_at_call 23; refine (CK.out _).mono ?_; rintro e w10 ⟨rfl, b10⟩; have f10 := f9.grown b10; have t10 := t9.grown b10; have z0 := f10.v.c0; have z1 := f10.v.c1; have z2 := f10.v.c2; have z3 := f10.v.c3; have z4 := f10.v.c4; have z5 := f10.v.c5; have z6 := f10.v.c6; have z7 := f10.v.c7; have z8 := f10.v.c8)
          go_wp2_with (go_at_call 21; refine (f10.now (σ) rfl).mono ?_; rintro e w11 ⟨rfl, b11⟩; have f11 := f10.grown b11; have t11 := t10.grown b11; have k0 := t11.at0 0 rfl; have k2 := t11.at0 2 rfl; have gB : Below w6.heap.size w6 w11 := grow (grow (grow (grow_alloc b7 _) b9) b10) b11)
          have f12 := f6.grown gB
          have i12 := i6.grown gB
          clear f8 f9 f10 f11 t8 t9 t10 t11 b7 b9 b10 b11 gB f6 i6
          have dn : Calls Try.prog 18 #[.pointer (some ⟨B, 0, none⟩)] w11 fun e w' => e = .returned (.agg #[.int .i64 5, .int .u64 0, .int .i64 0, .int .i64 σ]) ∧ Below w11.heap.size w11 w' := i12.done
          go_wp2_with (go_at_call 18; refine dn.mono ?_; rintro e w13 ⟨rfl, b13⟩)
          go_roundw
          case rel => exact ⟨r + 1, s2, σ, q, nx, by omega, by go_num, by omega, ⟨f12.mm.below b13, f12.tw, CM.out, f12.v.grown b13, grow f12.b b13⟩, by omega⟩
          case measure => simp [intOf]; omega
      · have HK : Hid (classOf Z = κ) := hκz
        obtain ⟨N0, q', nx', E0, H0, st0, hN0, RR, cm'⟩ := cm.fate (z := Z) (own := false) hκ (by omega) (by omega) (by omega) hnd σ
        have CM : Hid (Calm 1 8 6 20 q' nx') := cm'
        have A4 : Hid (Runs 1 8 6 20 κ Z false N0 σ q (.take .idle) q' (.over E0 H0 st0)) := RR
        clear hκz cm cm' hnd RR
        go_loopw [7, 8] (fun av i wq => ∃ (j N1 : Nat) (v : Int) (s1 : Mm) (q1 : Q) (α1 : Al), av = .int .i64 v ∧ i = .int .i64 j ∧ j + N1 = N0 ∧ Runs 1 8 6 20 κ Z false N1 (σ + j) q1 α1 q' (.over E0 H0 st0) ∧ Site w wq L E 1 8 6 20 s1 (σ + j) q1 ∧ Maker wq B Z false κ α1 ∧ α1.good 1 8 6 20 κ (σ + j) q1 ∧ α1.noted Z q1 v) (fun _ i _ => 80 - (intOf i).toNat)
        case atStart => exact ⟨0, N0, -1, s2, q, _, rfl, rfl, by omega, A4.out, A3.out.1, A3.out.2 κ, ⟨trivial, rfl⟩, rfl⟩
        case round =>
          clear A3 A4
          obtain ⟨j, N1, av, s1, q1, α1, rfl, rfl, hj, gg, f, i3, gd, hnt⟩ := hrel
          have hN1 := gg.pos
          have hj3 : (j : Int) < 80 := by omega
          obtain ⟨⟨q2, α2⟩, ht⟩ : ∃ p, alTurn 1 8 6 20 κ Z false (σ + j) q1 α1 = p := ⟨_, rfl⟩
          have ho : α1.over? = false := by cases gg <;> assumption
          obtain ⟨K, I, X, hkd, hK9, hkb⟩ := al_kind hκ (by omega) gd ho
          obtain ⟨A, hA⟩ : ∃ A : Nat, α1.at 1 8 κ = A := ⟨_, rfl⟩
          rw [hA] at hkd hkb
          have ck := fun w => rkind_is (m := 120) 100 600 3 w HAr.out (by omega) rfl (by omega) (by omega) (by omega) hkd
          have CK : Hid (∀ w, Calls Try.prog 23 #[.agg #[.int .i64 1, .int .i64 8, .int .i64 6, .int .i64 20, .int .i64 100, .int .i64 600, .int .i64 3], .int .i64 A] w fun e w' => e = .returned (.tuple #[.int .i64 K, .int .i64 I, .int .i64 X]) ∧ Below w.heap.size w w') := ck
          have HT : Hid (alTurn 1 8 6 20 κ Z false (σ + j) q1 α1 = (q2, α2)) := ht
          have HO : Hid (α1.over? = false) := ho
          have HGd : Hid (α1.good 1 8 6 20 κ (σ + j) q1) := gd
          clear ck hkd
          have z0 := f.v.c0
          have z1 := f.v.c1
          have z2 := f.v.c2
          have z3 := f.v.c3
          have z4 := f.v.c4
          have z5 := f.v.c5
          have z6 := f.v.c6
          have z7 := f.v.c7
          have z8 := f.v.c8
          cases hh : α1.isHead with
          | false =>
            rw [hh] at hK9
            have hnt2 := noted_on hh ho hnt ht
            have HN2 : Hid (α2.noted Z q2 av) := hnt2
            clear hnt2 hnt gd hh
            cases gg with
            | one ho' ht' h1 =>
              rw [ht] at ht'
              cases ht'
              clear ht ho ho'
              go_wp2_with (go_at_call 21; refine (f.now (σ + j) rfl).mono ?_; rintro e w5 ⟨rfl, b5⟩; have f5 := f.grown b5; have z0 := f5.v.c0; have z1 := f5.v.c1; have z2 := f5.v.c2; have z3 := f5.v.c3; have z4 := f5.v.c4; have z5 := f5.v.c5; have z6 := f5.v.c6; have z7 := f5.v.c7; have z8 := f5.v.c8)
              go_wp2_with (go_at_call 17; refine (f5.step PA.out hLW.out hEW.out hWW.out (by omega) fz HK.out hκ (i3.grown b5) HGd.out HO.out _ _ HT.out true rfl).mono ?_; rintro e w6 ⟨rfl, s6, f6, i6, gd6, o6, v, hs6⟩; have z0 := f6.v.c0; have z1 := f6.v.c1; have z2 := f6.v.c2; have z3 := f6.v.c3; have z4 := f6.v.c4; have z5 := f6.v.c5; have z6 := f6.v.c6; have z7 := f6.v.c7; have z8 := f6.v.c8)
              have hla6 : s6.la = ((A : Nat) : Int) := by rw [hs6]; exact congrArg (fun x : Nat => (x : Int)) hA
              have hlc6 : s6.lc = !decide (s1.wd A = v) := by rw [hs6, ← hA]; rfl
              have hE0 : (E0 == 0) = false := by have := HN2.out.1; simpa using this
              obtain ⟨lc, hlc⟩ : ∃ lc, s6.lc = lc := ⟨_, rfl⟩
              clear f i3 f5 b5 o6 HGd HO HT
              obtain ⟨lw, hlw⟩ : ∃ lw, s6.lw = lw := ⟨_, rfl⟩
              go_wp2_with (go_at_call 22; refine (last_is f6.mm (A : Int) lw lc hla6 hlw hlc).mono ?_; rintro e w7 ⟨rfl, b7⟩; have f8 := (f6.grown b7).alloc (.cells #[.int .i64 (A : Int), .int .i64 lw, .bool lc] 59); have t8 := At.new w7 59 [.int .i64 (A : Int), .int .i64 lw, .bool lc]; have z0 := f8.v.c0; have z1 := f8.v.c1; have z2 := f8.v.c2; have z3 := f8.v.c3; have z4 := f8.v.c4; have z5 := f8.v.c5; have z6 := f8.v.c6; have z7 := f8.v.c7; have z8 := f8.v.c8)
              go_wp2_with (go_at_call 21; refine (f8.now (σ + j + 1) rfl).mono ?_; rintro e w9 ⟨rfl, b9⟩; have f9 := f8.grown b9; have t9 := t8.grown b9; have k0 := t9.at0 0 rfl; have z0 := f9.v.c0; have z1 := f9.v.c1; have z2 := f9.v.c2; have z3 := f9.v.c3; have z4 := f9.v.c4; have z5 := f9.v.c5; have z6 := f9.v.c6; have z7 := f9.v.c7; have z8 := f9.v.c8)
              go_wp2_with (go_at_call 23; refine (CK.out _).mono ?_; rintro e w10 ⟨rfl, b10⟩; have f10 := f9.grown b10; have t10 := t9.grown b10; have z0 := f10.v.c0; have z1 := f10.v.c1; have z2 := f10.v.c2; have z3 := f10.v.c3; have z4 := f10.v.c4; have z5 := f10.v.c5; have z6 := f10.v.c6; have z7 := f10.v.c7; have z8 := f10.v.c8)
              go_wp2_with (go_at_call 21; refine (f10.now (σ + j + 1) rfl).mono ?_; rintro e w11 ⟨rfl, b11⟩; have f11 := f10.grown b11; have t11 := t10.grown b11; have k0 := t11.at0 0 rfl; have k2 := t11.at0 2 rfl; have gB : Below w6.heap.size w6 w11 := grow (grow (grow (grow_alloc b7 _) b9) b10) b11)
              have f12 := f6.grown gB
              have i12 := i6.grown gB
              clear f8 f9 f10 f11 t8 t9 t10 t11 b7 b9 b10 b11 gB f6 i6
              have dn : Calls Try.prog 18 #[.pointer (some ⟨B, 0, none⟩)] w11 fun e w' => e = .returned (.agg #[.int .i64 E0, .int .u64 H0, .int .i64 0, .int .i64 st0]) ∧ Below w11.heap.size w11 w' := i12.done
              go_wp2_with (go_at_call 18; refine dn.mono ?_; rintro e w13 ⟨rfl, b13⟩)
              go_roundw
              case rel => exact ⟨r + 1, s6, σ + j + 1, q', nx', by omega, by go_num, by omega, ⟨f12.mm.below b13, f12.tw, CM.out, f12.v.grown b13, grow f12.b b13⟩, by rw [hla6]; omega⟩
              case measure => simp [intOf]; omega
            | more ho' ht' h1 g1 =>
              rw [ht] at ht'
              cases ht'
              clear ht ho ho'
              go_wp2_with (go_at_call 21; refine (f.now (σ + j) rfl).mono ?_; rintro e w5 ⟨rfl, b5⟩; have f5 := f.grown b5; have z0 := f5.v.c0; have z1 := f5.v.c1; have z2 := f5.v.c2; have z3 := f5.v.c3; have z4 := f5.v.c4; have z5 := f5.v.c5; have z6 := f5.v.c6; have z7 := f5.v.c7; have z8 := f5.v.c8)
              go_wp2_with (go_at_call 17; refine (f5.step PA.out hLW.out hEW.out hWW.out (by omega) fz HK.out hκ (i3.grown b5) HGd.out HO.out _ _ HT.out false h1).mono ?_; rintro e w6 ⟨rfl, s6, f6, i6, gd6, o6, v, hs6⟩; have z0 := f6.v.c0; have z1 := f6.v.c1; have z2 := f6.v.c2; have z3 := f6.v.c3; have z4 := f6.v.c4; have z5 := f6.v.c5; have z6 := f6.v.c6; have z7 := f6.v.c7; have z8 := f6.v.c8)
              have hla6 : s6.la = ((A : Nat) : Int) := by rw [hs6]; exact congrArg (fun x : Nat => (x : Int)) hA
              have hlc6 : s6.lc = !decide (s1.wd A = v) := by rw [hs6, ← hA]; rfl
              obtain ⟨lc, hlc⟩ : ∃ lc, s6.lc = lc := ⟨_, rfl⟩
              clear f i3 f5 b5 o6 HGd HO HT
              obtain ⟨lw, hlw⟩ : ∃ lw, s6.lw = lw := ⟨_, rfl⟩
              go_wp2_with (go_at_call 22; refine (last_is f6.mm (A : Int) lw lc hla6 hlw hlc).mono ?_; rintro e w7 ⟨rfl, b7⟩; have f8 := (f6.grown b7).alloc (.cells #[.int .i64 (A : Int), .int .i64 lw, .bool lc] 59); have t8 := At.new w7 59 [.int .i64 (A : Int), .int .i64 lw, .bool lc]; have z0 := f8.v.c0; have z1 := f8.v.c1; have z2 := f8.v.c2; have z3 := f8.v.c3; have z4 := f8.v.c4; have z5 := f8.v.c5; have z6 := f8.v.c6; have z7 := f8.v.c7; have z8 := f8.v.c8)
              go_wp2_with (go_at_call 21; refine (f8.now (σ + j + 1) rfl).mono ?_; rintro e w9 ⟨rfl, b9⟩; have f9 := f8.grown b9; have t9 := t8.grown b9; have k0 := t9.at0 0 rfl; have z0 := f9.v.c0; have z1 := f9.v.c1; have z2 := f9.v.c2; have z3 := f9.v.c3; have z4 := f9.v.c4; have z5 := f9.v.c5; have z6 := f9.v.c6; have z7 := f9.v.c7; have z8 := f9.v.c8)
              go_wp2_with (go_at_call 23; refine (CK.out _).mono ?_; rintro e w10 ⟨rfl, b10⟩; have f10 := f9.grown b10; have t10 := t9.grown b10; have z0 := f10.v.c0; have z1 := f10.v.c1; have z2 := f10.v.c2; have z3 := f10.v.c3; have z4 := f10.v.c4; have z5 := f10.v.c5; have z6 := f10.v.c6; have z7 := f10.v.c7; have z8 := f10.v.c8)
              go_wp2_with (go_at_call 21; refine (f10.now (σ + j + 1) rfl).mono ?_; rintro e w11 ⟨rfl, b11⟩; have f11 := f10.grown b11; have t11 := t10.grown b11; have k0 := t11.at0 0 rfl; have k2 := t11.at0 2 rfl; have gB : Below w6.heap.size w6 w11 := grow (grow (grow (grow_alloc b7 _) b9) b10) b11)
              go_roundw
              case rel => exact ⟨j + 1, _, av, s6, q2, α2, rfl, by go_num, by omega, g1, f6.grown gB, i6.grown gB, gd6, HN2.out⟩
              case measure => simp [intOf]; omega
          | true =>
            rw [hh] at hK9
            cases α1 with
            | head x G a i =>
              have hq2 : ({ q1 with dw := upd q1.dw a (packOw 1 Z x G false) }, Al.shw x G a i) = (q2, α2) := ht
              obtain ⟨rfl, rfl⟩ := Prod.mk.inj hq2
              have hav : av = -1 := hnt
              have haA : a = A := hA
              subst haA hav
              have hN2 : ∀ v : Int, (v = -1 ∨ v = a) → (Al.shw x G a i).noted Z { q1 with dw := upd q1.dw a (packOw 1 Z x G false) } v := fun v hv => ⟨hv, upd_same _ _ _⟩
              have HN2 : Hid (∀ v : Int, (v = -1 ∨ v = a) → (Al.shw x G a i).noted Z { q1 with dw := upd q1.dw a (packOw 1 Z x G false) } v) := hN2
              clear hnt gd hh hN2
              cases gg with
              | one ho' ht' h1 => cases ht'
              | more ho' ht' h1 g1 =>
                cases ht'
                clear ht ho ho'
                go_wp2_with (go_at_call 21; refine (f.now (σ + j) rfl).mono ?_; rintro e w5 ⟨rfl, b5⟩; have f5 := f.grown b5; have z0 := f5.v.c0; have z1 := f5.v.c1; have z2 := f5.v.c2; have z3 := f5.v.c3; have z4 := f5.v.c4; have z5 := f5.v.c5; have z6 := f5.v.c6; have z7 := f5.v.c7; have z8 := f5.v.c8)
                go_wp2_with (go_at_call 17; refine (f5.step PA.out hLW.out hEW.out hWW.out (by omega) fz HK.out hκ (i3.grown b5) HGd.out HO.out _ _ HT.out false rfl).mono ?_; rintro e w6 ⟨rfl, s6, f6, i6, gd6, o6, v, hs6⟩; have z0 := f6.v.c0; have z1 := f6.v.c1; have z2 := f6.v.c2; have z3 := f6.v.c3; have z4 := f6.v.c4; have z5 := f6.v.c5; have z6 := f6.v.c6; have z7 := f6.v.c7; have z8 := f6.v.c8)
                have hla6 : s6.la = ((a : Nat) : Int) := by rw [hs6]; exact congrArg (fun x : Nat => (x : Int)) hA
                have hlc6 : s6.lc = !decide (s1.wd a = v) := by rw [hs6, ← hA]; rfl
                obtain ⟨lc, hlc⟩ : ∃ lc, s6.lc = lc := ⟨_, rfl⟩
                clear hlc6
                clear f i3 f5 b5 o6 HGd HO HT
                cases lc with
                | false =>
                  obtain ⟨lw, hlw⟩ : ∃ lw, s6.lw = lw := ⟨_, rfl⟩
                  go_wp2_with (go_at_call 22; refine (last_is f6.mm (a : Int) lw false hla6 hlw hlc).mono ?_; rintro e w7 ⟨rfl, b7⟩; have f8 := (f6.grown b7).alloc (.cells #[.int .i64 (a : Int), .int .i64 lw, .bool false] 59); have t8 := At.new w7 59 [.int .i64 (a : Int), .int .i64 lw, .bool false]; have z0 := f8.v.c0; have z1 := f8.v.c1; have z2 := f8.v.c2; have z3 := f8.v.c3; have z4 := f8.v.c4; have z5 := f8.v.c5; have z6 := f8.v.c6; have z7 := f8.v.c7; have z8 := f8.v.c8)
                  go_wp2_with (go_at_call 21; refine (f8.now (σ + j + 1) rfl).mono ?_; rintro e w9 ⟨rfl, b9⟩; have f9 := f8.grown b9; have t9 := t8.grown b9; have k0 := t9.at0 0 rfl; have z0 := f9.v.c0; have z1 := f9.v.c1; have z2 := f9.v.c2; have z3 := f9.v.c3; have z4 := f9.v.c4; have z5 := f9.v.c5; have z6 := f9.v.c6; have z7 := f9.v.c7; have z8 := f9.v.c8)
                  go_wp2_with (go_at_call 23; refine (CK.out _).mono ?_; rintro e w10 ⟨rfl, b10⟩; have f10 := f9.grown b10; have t10 := t9.grown b10; have z0 := f10.v.c0; have z1 := f10.v.c1; have z2 := f10.v.c2; have z3 := f10.v.c3; have z4 := f10.v.c4; have z5 := f10.v.c5; have z6 := f10.v.c6; have z7 := f10.v.c7; have z8 := f10.v.c8)
                  go_wp2_with (go_at_call 21; refine (f10.now (σ + j + 1) rfl).mono ?_; rintro e w11 ⟨rfl, b11⟩; have f11 := f10.grown b11; have t11 := t10.grown b11; have k0 := t11.at0 0 rfl; have k2 := t11.at0 2 rfl; have gB : Below w6.heap.size w6 w11 := grow (grow (grow (grow_alloc b7 _) b9) b10) b11)
                  go_roundw
                  case rel => exact ⟨j + 1, _, -1, s6, _, _, rfl, by go_num, by omega, g1, f6.grown gB, i6.grown gB, gd6, HN2.out _ (.inl rfl)⟩
                  case measure => simp [intOf]; omega
                | true =>
                  obtain ⟨lw, hlw⟩ : ∃ lw, s6.lw = lw := ⟨_, rfl⟩
                  go_wp2_with (go_at_call 22; refine (last_is f6.mm (a : Int) lw true hla6 hlw hlc).mono ?_; rintro e w7 ⟨rfl, b7⟩; have f8 := (f6.grown b7).alloc (.cells #[.int .i64 (a : Int), .int .i64 lw, .bool true] 59); have t8 := At.new w7 59 [.int .i64 (a : Int), .int .i64 lw, .bool true]; have z0 := f8.v.c0; have z1 := f8.v.c1; have z2 := f8.v.c2; have z3 := f8.v.c3; have z4 := f8.v.c4; have z5 := f8.v.c5; have z6 := f8.v.c6; have z7 := f8.v.c7; have z8 := f8.v.c8)
                  go_wp2_with (go_at_call 21; refine (f8.now (σ + j + 1) rfl).mono ?_; rintro e w9 ⟨rfl, b9⟩; have f9 := f8.grown b9; have t9 := t8.grown b9; have k0 := t9.at0 0 rfl; have z0 := f9.v.c0; have z1 := f9.v.c1; have z2 := f9.v.c2; have z3 := f9.v.c3; have z4 := f9.v.c4; have z5 := f9.v.c5; have z6 := f9.v.c6; have z7 := f9.v.c7; have z8 := f9.v.c8)
                  go_wp2_with (go_at_call 23; refine (CK.out _).mono ?_; rintro e w10 ⟨rfl, b10⟩; have f10 := f9.grown b10; have t10 := t9.grown b10; have z0 := f10.v.c0; have z1 := f10.v.c1; have z2 := f10.v.c2; have z3 := f10.v.c3; have z4 := f10.v.c4; have z5 := f10.v.c5; have z6 := f10.v.c6; have z7 := f10.v.c7; have z8 := f10.v.c8)
                  go_wp2_with (go_at_call 21; refine (f10.now (σ + j + 1) rfl).mono ?_; rintro e w11 ⟨rfl, b11⟩; have f11 := f10.grown b11; have t11 := t10.grown b11; have k0 := t11.at0 0 rfl; have k2 := t11.at0 2 rfl; have gB : Below w6.heap.size w6 w11 := grow (grow (grow (grow_alloc b7 _) b9) b10) b11)
                  go_roundw
                  case rel => exact ⟨j + 1, _, a, s6, _, _, rfl, by go_num, by omega, g1, f6.grown gB, i6.grown gB, gd6, HN2.out _ (.inr rfl)⟩
                  case measure => simp [intOf]; omega
            | ready x G a i st =>
              have hq2 : ({ q1 with dw := upd q1.dw a (packOw 2 Z x G false) }, Al.over 0 (packH x G) st) = (q2, α2) := ht
              obtain ⟨rfl, rfl⟩ := Prod.mk.inj hq2
              obtain ⟨hav, hdw⟩ := hnt
              have haA : a = A := hA
              subst haA
              obtain ⟨gx, gF, gG, gi, ga0, ga1⟩ := gd
              cases gg with
              | more ho' ht' h1 g1 => cases ht'; cases h1
              | one ho' ht' h1 =>
                have hwd : s1.wd a = packOw 1 Z x G false := by rw [f.tw.dwv a ga0]; exact hdw
                have hne : packOw 1 Z x G false ≠ packOw 2 Z x G false := by
                  unfold packOw packO
                  rw [cut_id 1 2 (by decide) (by decide), cut_id 2 2 (by decide) (by decide)]
                  simp
                cases ht'
                clear ht ho ho'
                go_wp2_with (go_at_call 21; refine (f.now (σ + j) rfl).mono ?_; rintro e w5 ⟨rfl, b5⟩; have f5 := f.grown b5; have z0 := f5.v.c0; have z1 := f5.v.c1; have z2 := f5.v.c2; have z3 := f5.v.c3; have z4 := f5.v.c4; have z5 := f5.v.c5; have z6 := f5.v.c6; have z7 := f5.v.c7; have z8 := f5.v.c8)
                go_wp2_with (go_at_call 17; refine (f5.step PA.out hLW.out hEW.out hWW.out (by omega) fz HK.out hκ (i3.grown b5) HGd.out HO.out _ _ HT.out true rfl).mono ?_; rintro e w6 ⟨rfl, s6, f6, i6, gd6, o6, v, hs6⟩; have z0 := f6.v.c0; have z1 := f6.v.c1; have z2 := f6.v.c2; have z3 := f6.v.c3; have z4 := f6.v.c4; have z5 := f6.v.c5; have z6 := f6.v.c6; have z7 := f6.v.c7; have z8 := f6.v.c8)
                have hla6 : s6.la = ((a : Nat) : Int) := by rw [hs6]; exact congrArg (fun x : Nat => (x : Int)) hA
                have hlc6 : s6.lc = !decide (s1.wd a = v) := by rw [hs6, ← hA]; rfl
                have hwd6 : s6.wd a = packOw 2 Z x G false := by rw [f6.tw.dwv a ga0]; exact upd_same _ _ _
                have hvv : v = packOw 2 Z x G false := by
                  have h9 : s6.wd a = v := by rw [hs6, ← hA]; exact upd_same _ _ _
                  rw [← h9]; exact hwd6
                have hlc : s6.lc = true := by rw [hlc6, hwd, hvv]; simp [hne]
                clear hlc6 hwd6 hvv hwd hne hs6
                clear f i3 f5 b5 o6 HGd HO HT
                obtain ⟨qi, hqi⟩ : ∃ qi : Nat, (a - 41) / 20 = qi := ⟨_, rfl⟩
                have hof := fun w => lof_in 1 8 6 20 100 600 3 a qi w HAr.out (by omega) (by omega) (by omega) (by omega) (by omega)
                have HOF : Hid (∀ w, Calls Try.prog 24 #[.agg #[.int .i64 1, .int .i64 8, .int .i64 6, .int .i64 20, .int .i64 100, .int .i64 600, .int .i64 3], .int .i64 a] w fun e w' => e = .returned (.int .i64 qi) ∧ Below w.heap.size w w') := hof
                clear hof hqi hdw
                rcases hav with rfl | rfl
                · have hq0 : ¬ ((a : Int) < 0) := by omega
                  obtain ⟨lw, hlw⟩ : ∃ lw, s6.lw = lw := ⟨_, rfl⟩
                  go_wp2_with (go_at_call 22; refine (last_is f6.mm (a : Int) lw true hla6 hlw hlc).mono ?_; rintro e w7 ⟨rfl, b7⟩; have f8 := (f6.grown b7).alloc (.cells #[.int .i64 (a : Int), .int .i64 lw, .bool true] 59); have t8 := At.new w7 59 [.int .i64 (a : Int), .int .i64 lw, .bool true]; have z0 := f8.v.c0; have z1 := f8.v.c1; have z2 := f8.v.c2; have z3 := f8.v.c3; have z4 := f8.v.c4; have z5 := f8.v.c5; have z6 := f8.v.c6; have z7 := f8.v.c7; have z8 := f8.v.c8)
                  go_wp2_with (go_at_call 21; refine (f8.now (σ + j + 1) rfl).mono ?_; rintro e w9 ⟨rfl, b9⟩; have f9 := f8.grown b9; have t9 := t8.grown b9; have k0 := t9.at0 0 rfl; have z0 := f9.v.c0; have z1 := f9.v.c1; have z2 := f9.v.c2; have z3 := f9.v.c3; have z4 := f9.v.c4; have z5 := f9.v.c5; have z6 := f9.v.c6; have z7 := f9.v.c7; have z8 := f9.v.c8)
                  go_wp2_with (go_at_call 23; refine (CK.out _).mono ?_; rintro e w10 ⟨rfl, b10⟩; have f10 := f9.grown b10; have t10 := t9.grown b10; have z0 := f10.v.c0; have z1 := f10.v.c1; have z2 := f10.v.c2; have z3 := f10.v.c3; have z4 := f10.v.c4; have z5 := f10.v.c5; have z6 := f10.v.c6; have z7 := f10.v.c7; have z8 := f10.v.c8)
                  go_wp2_with (go_at_call 21; refine (f10.now (σ + j + 1) rfl).mono ?_; rintro e w11 ⟨rfl, b11⟩; have f11 := f10.grown b11; have t11 := t10.grown b11; have k0 := t11.at0 0 rfl; have k2 := t11.at0 2 rfl; have gB : Below w6.heap.size w6 w11 := grow (grow (grow (grow_alloc b7 _) b9) b10) b11)
                  have f12 := f6.grown gB
                  have i12 := i6.grown gB
                  clear f8 f9 f10 f11 t8 t9 t10 t11 b7 b9 b10 b11 f6 i6
                  have dn := i12.done
                  go_wp2_with (go_at_call 18; refine dn.mono ?_; rintro e w13 ⟨rfl, b13⟩; have f13 := f12.grown b13; have z0 := f13.v.c0; have z1 := f13.v.c1; have z2 := f13.v.c2; have z3 := f13.v.c3; have z4 := f13.v.c4; have z5 := f13.v.c5; have z6 := f13.v.c6; have z7 := f13.v.c7; have z8 := f13.v.c8)
                  go_wp2_with (go_at_call 24; refine (HOF.out _).mono ?_; rintro e w14 ⟨rfl, b14⟩; have f14 := f13.grown b14)
                  go_roundw
                  case rel => exact ⟨r + 1, s6, σ + j + 1, _, nx', by omega, by go_num, by omega, ⟨f14.mm, f14.tw, CM.out, f14.v, f14.b⟩, by rw [hla6]; omega⟩
                  case measure => simp [intOf]; omega
                · have hq0 : ¬ ((a : Int) < 0) := by omega
                  obtain ⟨lw, hlw⟩ : ∃ lw, s6.lw = lw := ⟨_, rfl⟩
                  go_wp2_with (go_at_call 22; refine (last_is f6.mm (a : Int) lw true hla6 hlw hlc).mono ?_; rintro e w7 ⟨rfl, b7⟩; have f8 := (f6.grown b7).alloc (.cells #[.int .i64 (a : Int), .int .i64 lw, .bool true] 59); have t8 := At.new w7 59 [.int .i64 (a : Int), .int .i64 lw, .bool true]; have z0 := f8.v.c0; have z1 := f8.v.c1; have z2 := f8.v.c2; have z3 := f8.v.c3; have z4 := f8.v.c4; have z5 := f8.v.c5; have z6 := f8.v.c6; have z7 := f8.v.c7; have z8 := f8.v.c8)
                  go_wp2_with (go_at_call 21; refine (f8.now (σ + j + 1) rfl).mono ?_; rintro e w9 ⟨rfl, b9⟩; have f9 := f8.grown b9; have t9 := t8.grown b9; have k0 := t9.at0 0 rfl; have z0 := f9.v.c0; have z1 := f9.v.c1; have z2 := f9.v.c2; have z3 := f9.v.c3; have z4 := f9.v.c4; have z5 := f9.v.c5; have z6 := f9.v.c6; have z7 := f9.v.c7; have z8 := f9.v.c8)
                  go_wp2_with (go_at_call 23; refine (CK.out _).mono ?_; rintro e w10 ⟨rfl, b10⟩; have f10 := f9.grown b10; have t10 := t9.grown b10; have z0 := f10.v.c0; have z1 := f10.v.c1; have z2 := f10.v.c2; have z3 := f10.v.c3; have z4 := f10.v.c4; have z5 := f10.v.c5; have z6 := f10.v.c6; have z7 := f10.v.c7; have z8 := f10.v.c8)
                  go_wp2_with (go_at_call 21; refine (f10.now (σ + j + 1) rfl).mono ?_; rintro e w11 ⟨rfl, b11⟩; have f11 := f10.grown b11; have t11 := t10.grown b11; have k0 := t11.at0 0 rfl; have k2 := t11.at0 2 rfl; have gB : Below w6.heap.size w6 w11 := grow (grow (grow (grow_alloc b7 _) b9) b10) b11)
                  have f12 := f6.grown gB
                  have i12 := i6.grown gB
                  clear f8 f9 f10 f11 t8 t9 t10 t11 b7 b9 b10 b11 f6 i6
                  have dn := i12.done
                  go_wp2_with (go_at_call 18; refine dn.mono ?_; rintro e w13 ⟨rfl, b13⟩; have f13 := f12.grown b13; have z0 := f13.v.c0; have z1 := f13.v.c1; have z2 := f13.v.c2; have z3 := f13.v.c3; have z4 := f13.v.c4; have z5 := f13.v.c5; have z6 := f13.v.c6; have z7 := f13.v.c7; have z8 := f13.v.c8)
                  go_wp2_with (go_at_call 24; refine (HOF.out _).mono ?_; rintro e w14 ⟨rfl, b14⟩; have f14 := f13.grown b14)
                  go_roundw
                  case rel => exact ⟨r + 1, s6, σ + j + 1, _, nx', by omega, by go_num, by omega, ⟨f14.mm, f14.tw, CM.out, f14.v, f14.b⟩, by rw [hla6]; omega⟩
                  case measure => simp [intOf]; omega
            | _ => cases hh
    · have F9 := c.b
      clear c
      by_cases hrN : r < N
      · have hrN' : (r : Int) < (N : Int) := by omega
        have hr3' : ¬ (r : Int) < 12 := by omega
        go_wp2
        go_ret
        exact ⟨rfl, F9⟩
      · have hrN' : ¬ (r : Int) < (N : Int) := by omega
        go_wp2
        go_ret
        exact ⟨rfl, F9⟩

end Go.Proofs.Ytemembcefplgcaa
