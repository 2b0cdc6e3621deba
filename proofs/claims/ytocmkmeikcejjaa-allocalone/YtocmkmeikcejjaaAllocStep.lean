/- What a step of one who makes an object comes to (package alloc), method by method. -/
import Derived.Test.YtocmkmeikcejjaaAllocAt
namespace Go.Proofs.Ytocmkmeikcejjaa
open Go.RowKit

/-- the memory and the cells behind a step of one who makes an object -/
def Acts (L : Loc) (b o : Nat) (T : TypeId) (cs : Array Value) (w w' : World) (X : Mm → AV → Prop) : Prop :=
  ∃ s' cs' a', MemAt w' L s' ∧ Only (L.and b) w w' ∧ AlAt w' b o T cs' a' ∧ Same o 26 cs cs' ∧ X s' a'

/-- what a step of one who takes comes to -/
def tkTurn (c : Nat) (lk : Nat → Nat) (F : List Nat) : Tk → Nat × List Nat × Tk
  | .idle => match F with | [] => (c, [], .none) | x :: F => (c, x :: F, .saw x c)
  | .saw h c' => (c, F, .lnk h c' (lk h))
  | .lnk h c' _ => if c' = c then (c + 1, F.tail, .won h) else (c, F, .idle)
  | τ => (c, F, τ)

theorem tkTurn_of {n c : Nat} {lk : Nat → Nat} {F : List Nat} {τ : Tk} {c' : Nat} {F' : List Nat} {τ' : Tk} (h : TkStep n c lk F τ c' F' τ') : tkTurn c lk F τ = (c', F', τ') := by
  cases h with
  | none => rfl
  | saw => rfl
  | link => rfl
  | took => simp [tkTurn]
  | vain _ _ _ _ hc => simp [tkTurn, Nat.ne_of_lt hc]

/-- what a step of one who gives x comes to -/
def gvTurn (c : Nat) (lk : Nat → Nat) (F : List Nat) (x : Nat) : Gv → Nat × (Nat → Nat) × List Nat × Gv
  | .idle => (c, lk, F, .saw (hd F) c)
  | .saw h c' => (c, upd lk x h, F, .lnk h c')
  | .lnk _ c' => if c' = c then (c + 1, lk, x :: F, .over) else (c, lk, F, .idle)
  | .over => (c, lk, F, .over)

theorem gvTurn_of {n c x : Nat} {lk : Nat → Nat} {F : List Nat} {γ : Gv} {c' : Nat} {lk' : Nat → Nat} {F' : List Nat} {γ' : Gv} (h : GvStep n c x lk F γ c' lk' F' γ') : gvTurn c lk F x γ = (c', lk', F', γ') := by
  cases h with
  | load => rfl
  | lay => rfl
  | gave => simp [gvTurn]
  | vain _ _ hc => simp [gvTurn, Nat.ne_of_lt hc]

section
variable {w : World} {L : Loc} {s : Mm} {b o : Nat} {T : TypeId} {cs : Array Value} {t n σ c : Nat} {lk : Nat → Nat} {F : List Nat}

theorem take_turn (h : MemAt w L s) (hb : ¬ L.has b) (hp : Pile t n s σ c lk F) (hσ : σ < 1000000) (ht8 : t ≤ 8) (τ : Tk) (hi : TkAt w b o T cs τ) (hg : τ.good n c lk F) (ho : τ.over = false) (c2 c3 c4 c5 c6 who : Int) (c' : Nat) (F' : List Nat) (τ' : Tk) (ht : tkTurn c lk F τ = (c', F', τ')) (d : Bool) (hd : τ'.over = d) :
    Calls Try.prog 46 #[.pointer (some ⟨b, o, none⟩), .agg #[.int .i64 t, .int .i64 n, .int .i64 c2, .int .i64 c3, .int .i64 c4, .int .i64 c5, .int .i64 c6, .pointer (some ⟨L.p, 0, none⟩), .int .i64 who]] w fun e w' => e = .returned (.bool d) ∧ ∃ s' cs', Took w L s b o T cs t n σ c lk F who τ w' s' cs' c' F' τ' := by
  refine (take_step h hb hp hσ ht8 τ hi hg ho c2 c3 c4 c5 c6 who).mono ?_
  rintro e w' ⟨s', cs', c1, F1, τ1, rfl, P⟩
  have e1 := tkTurn_of P.turn
  rw [ht] at e1
  simp only [Prod.mk.injEq] at e1
  obtain ⟨rfl, rfl, rfl⟩ := e1
  exact ⟨by rw [hd], s', cs', P⟩

theorem give_turn (h : MemAt w L s) (hb : ¬ L.has b) (hp : Pile t n s σ c lk F) (hσ : σ < 1000000) (ht8 : t ≤ 8) {x : Nat} (hx : x < n) (hF : x ∉ F) (γ : Gv) (hi : GvAt w b o T cs x γ) (hg : γ.good n c lk F x) (ho : γ.done = false) (c2 c3 c4 c5 c6 who : Int) (c' : Nat) (lk' : Nat → Nat) (F' : List Nat) (γ' : Gv) (ht : gvTurn c lk F x γ = (c', lk', F', γ')) (d : Bool) (hd : γ'.done = d) :
    Calls Try.prog 59 #[.pointer (some ⟨b, o, none⟩), .agg #[.int .i64 t, .int .i64 n, .int .i64 c2, .int .i64 c3, .int .i64 c4, .int .i64 c5, .int .i64 c6, .pointer (some ⟨L.p, 0, none⟩), .int .i64 who]] w fun e w' => e = .returned (.bool d) ∧ ∃ s' cs', Gave w L s b o T cs t n σ c lk F x who γ w' s' cs' c' lk' F' γ' := by
  refine (give_step h hb hp hσ ht8 hx hF γ hi hg ho c2 c3 c4 c5 c6 who).mono ?_
  rintro e w' ⟨s', cs', c1, lk1, F1, γ1, rfl, P⟩
  have e1 := gvTurn_of P.turn
  rw [ht] at e1
  simp only [Prod.mk.injEq] at e1
  obtain ⟨rfl, rfl, rfl, rfl⟩ := e1
  exact ⟨by rw [hd], s', cs', P⟩

end

theorem aclass_any {w : World} {b o : Nat} (z K : Int) (hK : classOf z = K) (hz : w.cell? ⟨b, o + 16, none⟩ = some (.int .i64 z)) :
    Calls Try.prog 44 #[.pointer (some ⟨b, o, none⟩)] w fun e w' => e = .returned (.int .i64 K) ∧ w' = w := by
  subst hK
  go_enter Try.func44, Try.ntmps44
  go_wp2_with (go_at_call 61; refine (lclass_any _ _).mono ?_; rintro e w' ⟨rfl, rfl⟩)
  go_ret
  exact ⟨rfl, rfl⟩

theorem arefuse {w : World} {L : Loc} {s : Mm} {b o : Nat} {T : TypeId} {cs : Array Value} {a : AV} {t n k m : Nat} {g p r : Int} (h : MemAt w L s) (hb : ¬ L.has b) (hi : AlAt w b o T cs a) (who : Int) (why : Int) (x : Nat) (hx : s.steps = x) :
    Calls Try.prog 45 #[.pointer (some ⟨b, o, none⟩), .agg #[.int .i64 t, .int .i64 n, .int .i64 k, .int .i64 m, .int .i64 g, .int .i64 p, .int .i64 r, .pointer (some ⟨L.p, 0, none⟩), .int .i64 who], .int .i64 why] w fun e w' => e = .returned (.tuple #[]) ∧ Acts L b o T cs w w' (fun s' a' => s' = s ∧ a' = { a with nx := 8, E := why, H := 0, V := 0, St := x }) := by
  have HS : Hid (s.steps = x) := hx
  clear hx
  go_enter Try.func45, Try.ntmps45
  go_wp2_with (go_at_call 58; refine (now_any (h.alloc _) _ _ _ _ _ _ _ _ x HS.out).mono ?_; rintro e w1 ⟨rfl, b1⟩; have i1 := (hi.grown (grow_alloc (Below.refl _ _) (.cells #[.int .i64 t, .int .i64 n, .int .i64 k, .int .i64 m, .int .i64 g, .int .i64 p, .int .i64 r, .pointer (some ⟨L.p, 0, none⟩), .int .i64 who] 27))).grown b1; have m1 := (h.alloc (.cells #[.int .i64 t, .int .i64 n, .int .i64 k, .int .i64 m, .int .i64 g, .int .i64 p, .int .i64 r, .pointer (some ⟨L.p, 0, none⟩), .int .i64 who] 27)).below b1; have k1 := i1.c_E; have k2 := i1.c_H; have k3 := i1.c_V; have k4 := i1.c_St; have k5 := i1.c_nx; have kf := i1.fz)
  go_end0
  exact ⟨rfl, s, _, _, ((((m1.setIn hb _ _).setIn hb _ _).setIn hb _ _).setIn hb _ _).setIn hb _ _, (((((((Only.refl _ _).alloc _).trans (Only.ofGrown b1)).set _ _).set _ _).set _ _).set _ _).set _ _, ((((i1.set_E why).set_H 0).set_V 0).set_St x).set_nx 8, ((((Same.refl.set (by omega) _).set (by omega) _).set (by omega) _).set (by omega) _).set (by omega) _, rfl, rfl⟩

theorem atake_bad {w : World} {L : Loc} {s : Mm} {b o : Nat} {T : TypeId} {cs : Array Value} {a : AV} {t n k m : Nat} {g p r : Int} (h : MemAt w L s) (hb : ¬ L.has b) (hi : AlAt w b o T cs a) (who : Int) (hK : classOf a.sz < 0) (x : Nat) (hx : s.steps = x) :
    Calls Try.prog 31 #[.pointer (some ⟨b, o, none⟩), .agg #[.int .i64 t, .int .i64 n, .int .i64 k, .int .i64 m, .int .i64 g, .int .i64 p, .int .i64 r, .pointer (some ⟨L.p, 0, none⟩), .int .i64 who]] w fun e w' => e = .returned (.tuple #[]) ∧ Acts L b o T cs w w' (fun s' a' => s' = s ∧ a' = { a with nx := 8, E := 5, H := 0, V := 0, St := x }) := by
  obtain ⟨K, hK'⟩ : ∃ K, classOf a.sz = K := ⟨_, rfl⟩
  rw [hK'] at hK
  have HK : Hid (classOf a.sz = K) := hK'
  clear hK'
  have i1 := hi.grown (grow_alloc (Below.refl _ _) (.cells #[.int .i64 t, .int .i64 n, .int .i64 k, .int .i64 m, .int .i64 g, .int .i64 p, .int .i64 r, .pointer (some ⟨L.p, 0, none⟩), .int .i64 who] 27))
  go_enter Try.func31, Try.ntmps31
  go_wp2_with (first
    | (go_at_call 44; refine (aclass_any _ _ HK.out i1.c_sz).mono ?_; rintro e w1 ⟨rfl, rfl⟩)
    | (go_at_call 45; refine (arefuse (h.alloc _) hb i1 _ _ x hx).mono ?_; rintro e w1 ⟨rfl, s2, cs2, a2, m2, o2, i2, q2, rfl, rfl⟩))
  refine bodyPost_ret (results_none rfl _ _ _) rfl ?_
  exact ⟨rfl, _, cs2, _, m2, ((Only.refl _ _).alloc _).trans o2, i2, q2, rfl, rfl⟩

theorem atake_on {w : World} {L : Loc} {s : Mm} {b o : Nat} {T : TypeId} {cs : Array Value} {a : AV} {t n k m : Nat} {g p r : Int} (h : MemAt w L s) (hb : ¬ L.has b) (hi : AlAt w b o T cs a) (who : Int) {σ c : Nat} {lk : Nat → Nat} {F : List Nat} (hp : Pile t n s σ c lk F) (hσ : σ < 1000000) (ht8 : t ≤ 8) (K : Nat) (hK : classOf a.sz = K) (τ : Tk) (htk : τ.cells a.tk) (hg : τ.good n c lk F) (ho : τ.over = false) (c' : Nat) (F' : List Nat) (τ' : Tk) (ht : tkTurn c lk F τ = (c', F', τ')) (hd : τ'.over = false) :
    Calls Try.prog 31 #[.pointer (some ⟨b, o, none⟩), .agg #[.int .i64 t, .int .i64 n, .int .i64 k, .int .i64 m, .int .i64 g, .int .i64 p, .int .i64 r, .pointer (some ⟨L.p, 0, none⟩), .int .i64 who]] w fun e w' => e = .returned (.tuple #[]) ∧ Acts L b o T cs w w' (fun s' a' => Pile t n s' (σ + 1) c' lk F' ∧ (∃ v, s' = (s.by who).step (τ.at t) v) ∧ τ'.good n c' lk F' ∧ ∃ l, τ'.cells l ∧ a' = { a with tk := l }) := by
  have hbv : ¬ L.has w.heap.size := fun hh => by have := h.lt _ hh; omega
  have hbb : ¬ w.heap.size = b := fun hh => by have := hi.lt; omega
  have HK : Hid (classOf a.sz = K) := hK
  have HT : Hid (tkTurn c lk F τ = (c', F', τ')) := ht
  have HO : Hid (τ.over = false) := ho
  clear hK ht ho
  have j1 := hi.grown (grow_alloc (Below.refl _ _) (.cells #[.int .i64 t, .int .i64 n, .int .i64 k, .int .i64 m, .int .i64 g, .int .i64 p, .int .i64 r, .pointer (some ⟨L.p, 0, none⟩), .int .i64 who] 27))
  go_enter Try.func31, Try.ntmps31
  go_wp2_with (go_at_call 44; refine (aclass_any _ _ HK.out j1.c_sz).mono ?_; rintro e w1 ⟨rfl, rfl⟩)
  clear j1
  refine wp_over (fun W => MemAt W L s ∧ AlAt W b o T (cs) a ∧ BoxV W w.heap.size t n k m g p r L.p who ∧ Only (L.and b) w W) ⟨h.alloc _, hi.grown (grow_alloc (Below.refl _ _) _), BoxV.new, (Only.refl _ _).alloc _⟩ ?_
  rintro W ⟨m1, i1, v1, o1⟩
  refine wp_region_rely_tail Grown 4 [.val (.pointer (some ⟨b, o, none⟩)), .val (.pointer (some ⟨b, o, none⟩)), .val (.pointer (some ⟨b, o + 1, none⟩)), .val (.agg #[.int .i64 t, .int .i64 n, .int .i64 k, .int .i64 m, .int .i64 g, .int .i64 p, .int .i64 r, .pointer (some ⟨L.p, 0, none⟩), .int .i64 who])] (by kernel_rfl) Grown.refl Grown.trans (by decide) (by kernel_rfl) (by kernel_rfl) (by kernel_rfl) (by kernel_rfl) (by kernel_rfl) (by kernel_rfl) ?_
  simp only [List.take_succ_cons, List.take_zero, relyAll, Act.put, List.setIfInBounds_toArray, List.set_cons_zero, List.set_cons_succ]
  refine ⟨?_, ?_, ?_, ?_, ?_⟩
  · intro w' hg _
    refine Or.inl ⟨rfl, ?_⟩
    go_simp
    exact ⟨Grown.refl _, rfl⟩
  · intro w' hg _
    refine Or.inl ⟨rfl, ?_⟩
    go_simp
    exact ⟨Grown.refl _, rfl⟩
  · intro w' hg _
    refine Or.inl ⟨rfl, ?_⟩
    go_simp
    exact ⟨Grown.refl _, rfl⟩
  · intro w' hg _
    refine Or.inl ⟨rfl, ?_⟩
    have vv := (v1.grown ((Below.refl _ _).drew)).grown hg
    have y0 := vv.c0
    have y1 := vv.c1
    have y2 := vv.c2
    have y3 := vv.c3
    have y4 := vv.c4
    have y5 := vv.c5
    have y6 := vv.c6
    have y7 := vv.c7
    have y8 := vv.c8
    go_simp
    exact ⟨Grown.refl _, rfl⟩
  intro w5 hg _
  have m5 := m1.drew.below hg
  have i5 := i1.drew.grown hg
  have v5 := (v1.grown ((Below.refl _ _).drew)).grown hg
  have o5 : Only (L.and b) w w5 := o1.drew.trans (Only.ofGrown hg)
  clear hg m1 i1 v1 o1
  go_wp2_with (first
    | (go_at_call 46; refine (take_turn m5 hb hp hσ ht8 τ ⟨_, i5.tkAt, htk⟩ hg HO.out _ _ _ _ _ _ c' F' τ' HT.out false hd).mono ?_; rintro e w6 ⟨rfl, s6, cs6, P⟩; obtain ⟨l6, a6, q6⟩ := P.a; have i6 := i5.step_tk a6 (Tk.cells_len q6) P.same; have v6 := v5.only P.only (fun hh => hh.elim hbv hbb); have o6 := o5.trans P.only; have s6' : Same o 26 cs cs6 := P.same.wide (by omega) (by omega); have z0 := v6.c0; have z1 := v6.c1; have z2 := v6.c2; have z3 := v6.c3; have z4 := v6.c4; have z5 := v6.c5; have z6 := v6.c6; have z7 := v6.c7; have z8 := v6.c8; have k0 := i6.c_nx; have k1 := i6.c_sl; have kf := i6.fz))
  refine bodyPost_ret (results_none rfl _ _ _) rfl ?_
  exact ⟨rfl, s6, cs6, _, P.m, o6, i6, s6', P.p, P.st, P.good, l6, q6, rfl⟩

theorem atake_won {w : World} {L : Loc} {s : Mm} {b o : Nat} {T : TypeId} {cs : Array Value} {a : AV} {t n k m : Nat} {g p r : Int} (h : MemAt w L s) (hb : ¬ L.has b) (hi : AlAt w b o T cs a) (who : Int) {σ c : Nat} {lk : Nat → Nat} {F : List Nat} (hp : Pile t n s σ c lk F) (hσ : σ < 1000000) (ht8 : t ≤ 8) (K : Nat) (hK : classOf a.sz = K) (τ : Tk) (htk : τ.cells a.tk) (hg : τ.good n c lk F) (ho : τ.over = false) (c' : Nat) (F' : List Nat) (τ' : Tk) (ht : tkTurn c lk F τ = (c', F', τ')) (x : Nat) (hd : τ' = .won x) :
    Calls Try.prog 31 #[.pointer (some ⟨b, o, none⟩), .agg #[.int .i64 t, .int .i64 n, .int .i64 k, .int .i64 m, .int .i64 g, .int .i64 p, .int .i64 r, .pointer (some ⟨L.p, 0, none⟩), .int .i64 who]] w fun e w' => e = .returned (.tuple #[]) ∧ Acts L b o T cs w w' (fun s' a' => Pile t n s' (σ + 1) c' lk F' ∧ (∃ v, s' = (s.by who).step (τ.at t) v) ∧ x < n ∧ ∃ l, l.length = 4 ∧ a' = { a with tk := l, sl := x, nx := 1 }) := by
  have hbv : ¬ L.has w.heap.size := fun hh => by have := h.lt _ hh; omega
  have hbb : ¬ w.heap.size = b := fun hh => by have := hi.lt; omega
  have HK : Hid (classOf a.sz = K) := hK
  have HT : Hid (tkTurn c lk F τ = (c', F', τ')) := ht
  have HO : Hid (τ.over = false) := ho
  clear hK ht ho
  have j1 := hi.grown (grow_alloc (Below.refl _ _) (.cells #[.int .i64 t, .int .i64 n, .int .i64 k, .int .i64 m, .int .i64 g, .int .i64 p, .int .i64 r, .pointer (some ⟨L.p, 0, none⟩), .int .i64 who] 27))
  go_enter Try.func31, Try.ntmps31
  go_wp2_with (go_at_call 44; refine (aclass_any _ _ HK.out j1.c_sz).mono ?_; rintro e w1 ⟨rfl, rfl⟩)
  clear j1
  refine wp_over (fun W => MemAt W L s ∧ AlAt W b o T (cs) a ∧ BoxV W w.heap.size t n k m g p r L.p who ∧ Only (L.and b) w W) ⟨h.alloc _, hi.grown (grow_alloc (Below.refl _ _) _), BoxV.new, (Only.refl _ _).alloc _⟩ ?_
  rintro W ⟨m1, i1, v1, o1⟩
  refine wp_region_rely_tail Grown 4 [.val (.pointer (some ⟨b, o, none⟩)), .val (.pointer (some ⟨b, o, none⟩)), .val (.pointer (some ⟨b, o + 1, none⟩)), .val (.agg #[.int .i64 t, .int .i64 n, .int .i64 k, .int .i64 m, .int .i64 g, .int .i64 p, .int .i64 r, .pointer (some ⟨L.p, 0, none⟩), .int .i64 who])] (by kernel_rfl) Grown.refl Grown.trans (by decide) (by kernel_rfl) (by kernel_rfl) (by kernel_rfl) (by kernel_rfl) (by kernel_rfl) (by kernel_rfl) ?_
  simp only [List.take_succ_cons, List.take_zero, relyAll, Act.put, List.setIfInBounds_toArray, List.set_cons_zero, List.set_cons_succ]
  refine ⟨?_, ?_, ?_, ?_, ?_⟩
  · intro w' hg _
    refine Or.inl ⟨rfl, ?_⟩
    go_simp
    exact ⟨Grown.refl _, rfl⟩
  · intro w' hg _
    refine Or.inl ⟨rfl, ?_⟩
    go_simp
    exact ⟨Grown.refl _, rfl⟩
  · intro w' hg _
    refine Or.inl ⟨rfl, ?_⟩
    go_simp
    exact ⟨Grown.refl _, rfl⟩
  · intro w' hg _
    refine Or.inl ⟨rfl, ?_⟩
    have vv := (v1.grown ((Below.refl _ _).drew)).grown hg
    have y0 := vv.c0
    have y1 := vv.c1
    have y2 := vv.c2
    have y3 := vv.c3
    have y4 := vv.c4
    have y5 := vv.c5
    have y6 := vv.c6
    have y7 := vv.c7
    have y8 := vv.c8
    go_simp
    exact ⟨Grown.refl _, rfl⟩
  intro w5 hg _
  have m5 := m1.drew.below hg
  have i5 := i1.drew.grown hg
  have v5 := (v1.grown ((Below.refl _ _).drew)).grown hg
  have o5 : Only (L.and b) w w5 := o1.drew.trans (Only.ofGrown hg)
  clear hg m1 i1 v1 o1
  go_wp2_with (first
    | (go_at_call 46; refine (take_turn m5 hb hp hσ ht8 τ ⟨_, i5.tkAt, htk⟩ hg HO.out _ _ _ _ _ _ c' F' τ' HT.out true (by rw [hd]; rfl)).mono ?_; rintro e w6 ⟨rfl, s6, cs6, P⟩; obtain ⟨l6, a6, q6⟩ := P.a; have i6 := i5.step_tk a6 (Tk.cells_len q6) P.same; have v6 := v5.only P.only (fun hh => hh.elim hbv hbb); have o6 := o5.trans P.only; have s6' : Same o 26 cs cs6 := P.same.wide (by omega) (by omega); have z0 := v6.c0; have z1 := v6.c1; have z2 := v6.c2; have z3 := v6.c3; have z4 := v6.c4; have z5 := v6.c5; have z6 := v6.c6; have z7 := v6.c7; have z8 := v6.c8; have k0 := i6.c_nx; have k1 := i6.c_sl; have kf := i6.fz)
    | (go_at_call 47; refine (slot_won P.a x hd).mono ?_; rintro e w7 ⟨rfl, rfl⟩))
  go_end0
  exact ⟨rfl, s6, _, _, (P.m.setIn hb _ _).setIn hb _ _, (o6.set _ _).set _ _, (i6.set_sl x).set_nx 1, (s6'.set (by omega) _).set (by omega) _, P.p, P.st, (by have := P.good; rw [hd] at this; exact this), l6, Tk.cells_len q6, rfl⟩

theorem atake_none {w : World} {L : Loc} {s : Mm} {b o : Nat} {T : TypeId} {cs : Array Value} {a : AV} {t n k m : Nat} {g p r : Int} (h : MemAt w L s) (hb : ¬ L.has b) (hi : AlAt w b o T cs a) (who : Int) {σ c : Nat} {lk : Nat → Nat} {F : List Nat} (hp : Pile t n s σ c lk F) (hσ : σ < 1000000) (ht8 : t ≤ 8) (K : Nat) (hK : classOf a.sz = K) (τ : Tk) (htk : τ.cells a.tk) (hg : τ.good n c lk F) (ho : τ.over = false) (c' : Nat) (F' : List Nat) (τ' : Tk) (ht : tkTurn c lk F τ = (c', F', τ')) (hd : τ' = .none) :
    Calls Try.prog 31 #[.pointer (some ⟨b, o, none⟩), .agg #[.int .i64 t, .int .i64 n, .int .i64 k, .int .i64 m, .int .i64 g, .int .i64 p, .int .i64 r, .pointer (some ⟨L.p, 0, none⟩), .int .i64 who]] w fun e w' => e = .returned (.tuple #[]) ∧ Acts L b o T cs w w' (fun s' a' => Pile t n s' (σ + 1) c' lk F' ∧ (∃ v, s' = (s.by who).step (τ.at t) v) ∧ ∃ l, l.length = 4 ∧ a' = { a with tk := l, nx := 8, E := 7, H := 0, V := 0, St := ((σ + 1 : Nat) : Int) }) := by
  have hbv : ¬ L.has w.heap.size := fun hh => by have := h.lt _ hh; omega
  have hbb : ¬ w.heap.size = b := fun hh => by have := hi.lt; omega
  have HK : Hid (classOf a.sz = K) := hK
  have HT : Hid (tkTurn c lk F τ = (c', F', τ')) := ht
  have HO : Hid (τ.over = false) := ho
  clear hK ht ho
  have j1 := hi.grown (grow_alloc (Below.refl _ _) (.cells #[.int .i64 t, .int .i64 n, .int .i64 k, .int .i64 m, .int .i64 g, .int .i64 p, .int .i64 r, .pointer (some ⟨L.p, 0, none⟩), .int .i64 who] 27))
  go_enter Try.func31, Try.ntmps31
  go_wp2_with (go_at_call 44; refine (aclass_any _ _ HK.out j1.c_sz).mono ?_; rintro e w1 ⟨rfl, rfl⟩)
  clear j1
  refine wp_over (fun W => MemAt W L s ∧ AlAt W b o T (cs) a ∧ BoxV W w.heap.size t n k m g p r L.p who ∧ Only (L.and b) w W) ⟨h.alloc _, hi.grown (grow_alloc (Below.refl _ _) _), BoxV.new, (Only.refl _ _).alloc _⟩ ?_
  rintro W ⟨m1, i1, v1, o1⟩
  refine wp_region_rely_tail Grown 4 [.val (.pointer (some ⟨b, o, none⟩)), .val (.pointer (some ⟨b, o, none⟩)), .val (.pointer (some ⟨b, o + 1, none⟩)), .val (.agg #[.int .i64 t, .int .i64 n, .int .i64 k, .int .i64 m, .int .i64 g, .int .i64 p, .int .i64 r, .pointer (some ⟨L.p, 0, none⟩), .int .i64 who])] (by kernel_rfl) Grown.refl Grown.trans (by decide) (by kernel_rfl) (by kernel_rfl) (by kernel_rfl) (by kernel_rfl) (by kernel_rfl) (by kernel_rfl) ?_
  simp only [List.take_succ_cons, List.take_zero, relyAll, Act.put, List.setIfInBounds_toArray, List.set_cons_zero, List.set_cons_succ]
  refine ⟨?_, ?_, ?_, ?_, ?_⟩
  · intro w' hg _
    refine Or.inl ⟨rfl, ?_⟩
    go_simp
    exact ⟨Grown.refl _, rfl⟩
  · intro w' hg _
    refine Or.inl ⟨rfl, ?_⟩
    go_simp
    exact ⟨Grown.refl _, rfl⟩
  · intro w' hg _
    refine Or.inl ⟨rfl, ?_⟩
    go_simp
    exact ⟨Grown.refl _, rfl⟩
  · intro w' hg _
    refine Or.inl ⟨rfl, ?_⟩
    have vv := (v1.grown ((Below.refl _ _).drew)).grown hg
    have y0 := vv.c0
    have y1 := vv.c1
    have y2 := vv.c2
    have y3 := vv.c3
    have y4 := vv.c4
    have y5 := vv.c5
    have y6 := vv.c6
    have y7 := vv.c7
    have y8 := vv.c8
    go_simp
    exact ⟨Grown.refl _, rfl⟩
  intro w5 hg _
  have m5 := m1.drew.below hg
  have i5 := i1.drew.grown hg
  have v5 := (v1.grown ((Below.refl _ _).drew)).grown hg
  have o5 : Only (L.and b) w w5 := o1.drew.trans (Only.ofGrown hg)
  clear hg m1 i1 v1 o1
  go_wp2_with (first
    | (go_at_call 46; refine (take_turn m5 hb hp hσ ht8 τ ⟨_, i5.tkAt, htk⟩ hg HO.out _ _ _ _ _ _ c' F' τ' HT.out true (by rw [hd]; rfl)).mono ?_; rintro e w6 ⟨rfl, s6, cs6, P⟩; obtain ⟨l6, a6, q6⟩ := P.a; have i6 := i5.step_tk a6 (Tk.cells_len q6) P.same; have v6 := v5.only P.only (fun hh => hh.elim hbv hbb); have o6 := o5.trans P.only; have s6' : Same o 26 cs cs6 := P.same.wide (by omega) (by omega); have z0 := v6.c0; have z1 := v6.c1; have z2 := v6.c2; have z3 := v6.c3; have z4 := v6.c4; have z5 := v6.c5; have z6 := v6.c6; have z7 := v6.c7; have z8 := v6.c8; have k0 := i6.c_nx; have k1 := i6.c_sl; have kf := i6.fz)
    | (go_at_call 47; refine (slot_none P.a hd).mono ?_; rintro e w7 ⟨rfl, rfl⟩)
    | (go_at_call 45; refine (arefuse P.m hb i6 _ _ (σ + 1) P.p.st).mono ?_; rintro e w8 ⟨rfl, s8, cs8, a8, m8, o8, i8, q8, rfl, rfl⟩))
  refine bodyPost_ret (results_none rfl _ _ _) rfl ?_
  exact ⟨rfl, _, cs8, _, m8, o6.trans o8, i8, s6'.trans q8, P.p, P.st, l6, Tk.cells_len q6, rfl⟩

end Go.Proofs.Ytocmkmeikcejjaa
