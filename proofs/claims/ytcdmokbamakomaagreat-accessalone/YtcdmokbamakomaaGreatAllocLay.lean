/- What a step of one who makes an object comes to (package alloc), method by method. -/
import Derived.Test.YtcdmokbamakomaaGreatAllocAt
namespace Go.Proofs.YtcdmokbamakomaaGreat
open Go.RowKit

/-- the memory and the cells behind a step of one who makes an object -/
def Acts (L : Loc) (b o : Nat) (T : TypeId) (cs : Array Value) (w w' : World) (X : Mm → AV → Prop) : Prop :=
  ∃ s' cs' a', MemAt w' L s' ∧ Only (L.and b) w w' ∧ AlAt w' b o T cs' a' ∧ Same o 26 cs cs' ∧ X s' a'

/-- what a step of one who takes comes to -/
def tkTurn (c : Nat) (lk : Nat → Nat) (F : List Nat) : Tk → Nat × List Nat × Tk
  | .idle => match F with | [] => (c, [], .none) | x :: F => (c, x :: F, .saw x c)
  | .saw h c' => (c, F, .lnk h c' (lk h))
  | .lnk h c' _ => if c' = c then (c + 1, F.tail, .won h) else (c, F, .idle)
  | τ => (c, F, τ)

theorem tkTurn_of {n c : Nat} {lk : Nat → Nat} {F : List Nat} {τ : Tk} {c' : Nat} {F' : List Nat} {τ' : Tk} (h : TkStep n c lk F τ c' F' τ') : tkTurn c lk F τ = (c', F', τ') := by
  cases h with
  | none => rfl
  | saw => rfl
  | link => rfl
  | took => simp [tkTurn]
  | vain _ _ _ _ hc => simp [tkTurn, Nat.ne_of_lt hc]

/-- what a step of one who gives x comes to -/
def gvTurn (c : Nat) (lk : Nat → Nat) (F : List Nat) (x : Nat) : Gv → Nat × (Nat → Nat) × List Nat × Gv
  | .idle => (c, lk, F, .saw (hd F) c)
  | .saw h c' => (c, upd lk x h, F, .lnk h c')
  | .lnk _ c' => if c' = c then (c + 1, lk, x :: F, .over) else (c, lk, F, .idle)
  | .over => (c, lk, F, .over)

theorem gvTurn_of {n c x : Nat} {lk : Nat → Nat} {F : List Nat} {γ : Gv} {c' : Nat} {lk' : Nat → Nat} {F' : List Nat} {γ' : Gv} (h : GvStep n c x lk F γ c' lk' F' γ') : gvTurn c lk F x γ = (c', lk', F', γ') := by
  cases h with
  | load => rfl
  | lay => rfl
  | gave => simp [gvTurn]
  | vain _ _ hc => simp [gvTurn, Nat.ne_of_lt hc]

section
variable {w : World} {L : Loc} {s : Mm} {b o : Nat} {T : TypeId} {cs : Array Value} {t n σ c : Nat} {lk : Nat → Nat} {F : List Nat}

theorem take_turn (h : MemAt w L s) (hb : ¬ L.has b) (hp : Pile t n s σ c lk F) (hσ : σ < 1000000) (ht8 : t ≤ 8) (τ : Tk) (hi : TkAt w b o T cs τ) (hg : τ.good n c lk F) (ho : τ.over = false) (c2 c3 c4 c5 c6 who : Int) (c' : Nat) (F' : List Nat) (τ' : Tk) (ht : tkTurn c lk F τ = (c', F', τ')) (d : Bool) (hd : τ'.over = d) :
    Calls Tryz.prog 78 #[.pointer (some ⟨b, o, none⟩), .agg #[.int .i64 t, .int .i64 n, .int .i64 c2, .int .i64 c3, .int .i64 c4, .int .i64 c5, .int .i64 c6, .pointer (some ⟨L.p, 0, none⟩), .int .i64 who]] w fun e w' => e = .returned (.bool d) ∧ ∃ s' cs', Took w L s b o T cs t n σ c lk F who τ w' s' cs' c' F' τ' := by
  refine (take_step h hb hp hσ ht8 τ hi hg ho c2 c3 c4 c5 c6 who).mono ?_
  rintro e w' ⟨s', cs', c1, F1, τ1, rfl, P⟩
  have e1 := tkTurn_of P.turn
  rw [ht] at e1
  simp only [Prod.mk.injEq] at e1
  obtain ⟨rfl, rfl, rfl⟩ := e1
  exact ⟨by rw [hd], s', cs', P⟩

theorem give_turn (h : MemAt w L s) (hb : ¬ L.has b) (hp : Pile t n s σ c lk F) (hσ : σ < 1000000) (ht8 : t ≤ 8) {x : Nat} (hx : x < n) (hF : x ∉ F) (γ : Gv) (hi : GvAt w b o T cs x γ) (hg : γ.good n c lk F x) (ho : γ.done = false) (c2 c3 c4 c5 c6 who : Int) (c' : Nat) (lk' : Nat → Nat) (F' : List Nat) (γ' : Gv) (ht : gvTurn c lk F x γ = (c', lk', F', γ')) (d : Bool) (hd : γ'.done = d) :
    Calls Tryz.prog 72 #[.pointer (some ⟨b, o, none⟩), .agg #[.int .i64 t, .int .i64 n, .int .i64 c2, .int .i64 c3, .int .i64 c4, .int .i64 c5, .int .i64 c6, .pointer (some ⟨L.p, 0, none⟩), .int .i64 who]] w fun e w' => e = .returned (.bool d) ∧ ∃ s' cs', Gave w L s b o T cs t n σ c lk F x who γ w' s' cs' c' lk' F' γ' := by
  refine (give_step h hb hp hσ ht8 hx hF γ hi hg ho c2 c3 c4 c5 c6 who).mono ?_
  rintro e w' ⟨s', cs', c1, lk1, F1, γ1, rfl, P⟩
  have e1 := gvTurn_of P.turn
  rw [ht] at e1
  simp only [Prod.mk.injEq] at e1
  obtain ⟨rfl, rfl, rfl, rfl⟩ := e1
  exact ⟨by rw [hd], s', cs', P⟩
end

theorem aclass_any {w : World} {b o : Nat} (z K : Int) (hK : classOf z = K) (hz : w.cell? ⟨b, o + 16, none⟩ = some (.int .i64 z)) :
    Calls Tryz.prog 76 #[.pointer (some ⟨b, o, none⟩)] w fun e w' => e = .returned (.int .i64 K) ∧ w' = w := by
  subst hK
  go_enter Tryz.func76, Tryz.ntmps76
  go_wp2_with (go_at_call 106; refine (lclass_any _ _).mono ?_; rintro e w' ⟨rfl, rfl⟩)
  go_ret
  exact ⟨rfl, rfl⟩

theorem arefuse {w : World} {L : Loc} {s : Mm} {b o : Nat} {T : TypeId} {cs : Array Value} {a : AV} {t n k m : Nat} {g p r : Int} (h : MemAt w L s) (hb : ¬ L.has b) (hi : AlAt w b o T cs a) (who : Int) (why : Int) (x : Nat) (hx : s.steps = x) :
    Calls Tryz.prog 77 #[.pointer (some ⟨b, o, none⟩), .agg #[.int .i64 t, .int .i64 n, .int .i64 k, .int .i64 m, .int .i64 g, .int .i64 p, .int .i64 r, .pointer (some ⟨L.p, 0, none⟩), .int .i64 who], .int .i64 why] w fun e w' => e = .returned (.tuple #[]) ∧ Acts L b o T cs w w' (fun s' a' => s' = s ∧ a' = { a with nx := 8, E := why, H := 0, V := 0, St := x }) := by
  have HS : Hid (s.steps = x) := hx
  clear hx
  go_enter Tryz.func77, Tryz.ntmps77
  go_wp2_with (go_at_call 14; refine (now_any (h.alloc _) _ _ _ _ _ _ _ _ x HS.out).mono ?_; rintro e w1 ⟨rfl, b1⟩; have i1 := (hi.grown (grow_alloc (Below.refl _ _) (.cells #[.int .i64 t, .int .i64 n, .int .i64 k, .int .i64 m, .int .i64 g, .int .i64 p, .int .i64 r, .pointer (some ⟨L.p, 0, none⟩), .int .i64 who] 28))).grown b1; have m1 := (h.alloc (.cells #[.int .i64 t, .int .i64 n, .int .i64 k, .int .i64 m, .int .i64 g, .int .i64 p, .int .i64 r, .pointer (some ⟨L.p, 0, none⟩), .int .i64 who] 28)).below b1; have k1 := i1.c_E; have k2 := i1.c_H; have k3 := i1.c_V; have k4 := i1.c_St; have k5 := i1.c_nx; have kf := i1.fz)
  go_end0
  exact ⟨rfl, s, _, _, ((((m1.setIn hb _ _).setIn hb _ _).setIn hb _ _).setIn hb _ _).setIn hb _ _, (((((((Only.refl _ _).alloc _).trans (Only.ofGrown b1)).set _ _).set _ _).set _ _).set _ _).set _ _, ((((i1.set_E why).set_H 0).set_V 0).set_St x).set_nx 8, ((((Same.refl.set (by omega) _).set (by omega) _).set (by omega) _).set (by omega) _).set (by omega) _, rfl, rfl⟩

theorem atake_on {w : World} {L : Loc} {s : Mm} {b o : Nat} {T : TypeId} {cs : Array Value} {a : AV} {t n k m : Nat} {g p r : Int} (h : MemAt w L s) (hb : ¬ L.has b) (hi : AlAt w b o T cs a) (who : Int) {σ c : Nat} {lk : Nat → Nat} {F : List Nat} (hp : Pile t n s σ c lk F) (hσ : σ < 1000000) (ht8 : t ≤ 8) (K : Nat) (hK : classOf a.sz = K) (τ : Tk) (htk : τ.cells a.tk) (hg : τ.good n c lk F) (ho : τ.over = false) (c' : Nat) (F' : List Nat) (τ' : Tk) (ht : tkTurn c lk F τ = (c', F', τ')) (hd : τ'.over = false) :
    Calls Tryz.prog 51 #[.pointer (some ⟨b, o, none⟩), .agg #[.int .i64 t, .int .i64 n, .int .i64 k, .int .i64 m, .int .i64 g, .int .i64 p, .int .i64 r, .pointer (some ⟨L.p, 0, none⟩), .int .i64 who]] w fun e w' => e = .returned (.tuple #[]) ∧ Acts L b o T cs w w' (fun s' a' => Pile t n s' (σ + 1) c' lk F' ∧ (∃ v, s' = (s.by who).step (τ.at t) v) ∧ τ'.good n c' lk F' ∧ ∃ l, τ'.cells l ∧ a' = { a with tk := l }) := by
  have hbv : ¬ L.has w.heap.size := fun hh => by have := h.lt _ hh; omega
  have hbb : ¬ w.heap.size = b := fun hh => by have := hi.lt; omega
  have HK : Hid (classOf a.sz = K) := hK
  have HT : Hid (tkTurn c lk F τ = (c', F', τ')) := ht
  have HO : Hid (τ.over = false) := ho
  clear hK ht ho
  have j1 := hi.grown (grow_alloc (Below.refl _ _) (.cells #[.int .i64 t, .int .i64 n, .int .i64 k, .int .i64 m, .int .i64 g, .int .i64 p, .int .i64 r, .pointer (some ⟨L.p, 0, none⟩), .int .i64 who] 28))
  go_enter Tryz.func51, Tryz.ntmps51
  go_wp2_with (go_at_call 76; refine (aclass_any _ _ HK.out j1.c_sz).mono ?_; rintro e w1 ⟨rfl, rfl⟩)
  clear j1
  refine wp_over (fun W => MemAt W L s ∧ AlAt W b o T (cs) a ∧ BoxV W w.heap.size t n k m g p r L.p who ∧ Only (L.and b) w W) ⟨h.alloc _, hi.grown (grow_alloc (Below.refl _ _) _), BoxV.new, (Only.refl _ _).alloc _⟩ ?_
  rintro W ⟨m1, i1, v1, o1⟩
  refine wp_region_rely_tail Grown 4 [.val (.pointer (some ⟨b, o, none⟩)), .val (.pointer (some ⟨b, o, none⟩)), .val (.pointer (some ⟨b, o + 1, none⟩)), .val (.agg #[.int .i64 t, .int .i64 n, .int .i64 k, .int .i64 m, .int .i64 g, .int .i64 p, .int .i64 r, .pointer (some ⟨L.p, 0, none⟩), .int .i64 who])] (by kernel_rfl) Grown.refl Grown.trans (by decide) (by kernel_rfl) (by kernel_rfl) (by kernel_rfl) (by kernel_rfl) (by kernel_rfl) (by kernel_rfl) ?_
  simp only [List.take_succ_cons, List.take_zero, relyAll, Act.put, List.setIfInBounds_toArray, List.set_cons_zero, List.set_cons_succ]
  refine ⟨?_, ?_, ?_, ?_, ?_⟩
  · intro w' hg _
    refine Or.inl ⟨rfl, ?_⟩
    go_simp
    exact ⟨Grown.refl _, rfl⟩
  · intro w' hg _
    refine Or.inl ⟨rfl, ?_⟩
    go_simp
    exact ⟨Grown.refl _, rfl⟩
  · intro w' hg _
    refine Or.inl ⟨rfl, ?_⟩
    go_simp
    exact ⟨Grown.refl _, rfl⟩
  · intro w' hg _
    refine Or.inl ⟨rfl, ?_⟩
    have vv := (v1.grown ((Below.refl _ _).drew)).grown hg
    have y0 := vv.c0
    have y1 := vv.c1
    have y2 := vv.c2
    have y3 := vv.c3
    have y4 := vv.c4
    have y5 := vv.c5
    have y6 := vv.c6
    have y7 := vv.c7
    have y8 := vv.c8
    go_simp
    exact ⟨Grown.refl _, rfl⟩
  intro w5 hg _
  have m5 := m1.drew.below hg
  have i5 := i1.drew.grown hg
  have v5 := (v1.grown ((Below.refl _ _).drew)).grown hg
  have o5 : Only (L.and b) w w5 := o1.drew.trans (Only.ofGrown hg)
  clear hg m1 i1 v1 o1
  go_wp2_with (first
    | (go_at_call 78; refine (take_turn m5 hb hp hσ ht8 τ ⟨_, i5.tkAt, htk⟩ hg HO.out _ _ _ _ _ _ c' F' τ' HT.out false hd).mono ?_; rintro e w6 ⟨rfl, s6, cs6, P⟩; obtain ⟨l6, a6, q6⟩ := P.a; have i6 := i5.step_tk a6 (Tk.cells_len q6) P.same; have v6 := v5.only P.only (fun hh => hh.elim hbv hbb); have o6 := o5.trans P.only; have s6' : Same o 26 cs cs6 := P.same.wide (by omega) (by omega); have z0 := v6.c0; have z1 := v6.c1; have z2 := v6.c2; have z3 := v6.c3; have z4 := v6.c4; have z5 := v6.c5; have z6 := v6.c6; have z7 := v6.c7; have z8 := v6.c8; have k0 := i6.c_nx; have k1 := i6.c_sl; have kf := i6.fz))
  refine bodyPost_ret (results_none rfl _ _ _) rfl ?_
  exact ⟨rfl, s6, cs6, _, P.m, o6, i6, s6', P.p, P.st, P.good, l6, q6, rfl⟩

theorem atake_won {w : World} {L : Loc} {s : Mm} {b o : Nat} {T : TypeId} {cs : Array Value} {a : AV} {t n k m : Nat} {g p r : Int} (h : MemAt w L s) (hb : ¬ L.has b) (hi : AlAt w b o T cs a) (who : Int) {σ c : Nat} {lk : Nat → Nat} {F : List Nat} (hp : Pile t n s σ c lk F) (hσ : σ < 1000000) (ht8 : t ≤ 8) (K : Nat) (hK : classOf a.sz = K) (τ : Tk) (htk : τ.cells a.tk) (hg : τ.good n c lk F) (ho : τ.over = false) (c' : Nat) (F' : List Nat) (τ' : Tk) (ht : tkTurn c lk F τ = (c', F', τ')) (x : Nat) (hd : τ' = .won x) :
    Calls Tryz.prog 51 #[.pointer (some ⟨b, o, none⟩), .agg #[.int .i64 t, .int .i64 n, .int .i64 k, .int .i64 m, .int .i64 g, .int .i64 p, .int .i64 r, .pointer (some ⟨L.p, 0, none⟩), .int .i64 who]] w fun e w' => e = .returned (.tuple #[]) ∧ Acts L b o T cs w w' (fun s' a' => Pile t n s' (σ + 1) c' lk F' ∧ (∃ v, s' = (s.by who).step (τ.at t) v) ∧ x < n ∧ ∃ l, l.length = 4 ∧ a' = { a with tk := l, sl := x, nx := 1 }) := by
  have hbv : ¬ L.has w.heap.size := fun hh => by have := h.lt _ hh; omega
  have hbb : ¬ w.heap.size = b := fun hh => by have := hi.lt; omega
  have HK : Hid (classOf a.sz = K) := hK
  have HT : Hid (tkTurn c lk F τ = (c', F', τ')) := ht
  have HO : Hid (τ.over = false) := ho
  clear hK ht ho
  have j1 := hi.grown (grow_alloc (Below.refl _ _) (.cells #[.int .i64 t, .int .i64 n, .int .i64 k, .int .i64 m, .int .i64 g, .int .i64 p, .int .i64 r, .pointer (some ⟨L.p, 0, none⟩), .int .i64 who] 28))
  go_enter Tryz.func51, Tryz.ntmps51
  go_wp2_with (go_at_call 76; refine (aclass_any _ _ HK.out j1.c_sz).mono ?_; rintro e w1 ⟨rfl, rfl⟩)
  clear j1
  refine wp_over (fun W => MemAt W L s ∧ AlAt W b o T (cs) a ∧ BoxV W w.heap.size t n k m g p r L.p who ∧ Only (L.and b) w W) ⟨h.alloc _, hi.grown (grow_alloc (Below.refl _ _) _), BoxV.new, (Only.refl _ _).alloc _⟩ ?_
  rintro W ⟨m1, i1, v1, o1⟩
  refine wp_region_rely_tail Grown 4 [.val (.pointer (some ⟨b, o, none⟩)), .val (.pointer (some ⟨b, o, none⟩)), .val (.pointer (some ⟨b, o + 1, none⟩)), .val (.agg #[.int .i64 t, .int .i64 n, .int .i64 k, .int .i64 m, .int .i64 g, .int .i64 p, .int .i64 r, .pointer (some ⟨L.p, 0, none⟩), .int .i64 who])] (by kernel_rfl) Grown.refl Grown.trans (by decide) (by kernel_rfl) (by kernel_rfl) (by kernel_rfl) (by kernel_rfl) (by kernel_rfl) (by kernel_rfl) ?_
  simp only [List.take_succ_cons, List.take_zero, relyAll, Act.put, List.setIfInBounds_toArray, List.set_cons_zero, List.set_cons_succ]
  refine ⟨?_, ?_, ?_, ?_, ?_⟩
  · intro w' hg _
    refine Or.inl ⟨rfl, ?_⟩
    go_simp
    exact ⟨Grown.refl _, rfl⟩
  · intro w' hg _
    refine Or.inl ⟨rfl, ?_⟩
    go_simp
    exact ⟨Grown.refl _, rfl⟩
  · intro w' hg _
    refine Or.inl ⟨rfl, ?_⟩
    go_simp
    exact ⟨Grown.refl _, rfl⟩
  · intro w' hg _
    refine Or.inl ⟨rfl, ?_⟩
    have vv := (v1.grown ((Below.refl _ _).drew)).grown hg
    have y0 := vv.c0
    have y1 := vv.c1
    have y2 := vv.c2
    have y3 := vv.c3
    have y4 := vv.c4
    have y5 := vv.c5
    have y6 := vv.c6
    have y7 := vv.c7
    have y8 := vv.c8
    go_simp
    exact ⟨Grown.refl _, rfl⟩
  intro w5 hg _
  have m5 := m1.drew.below hg
  have i5 := i1.drew.grown hg
  have v5 := (v1.grown ((Below.refl _ _).drew)).grown hg
  have o5 : Only (L.and b) w w5 := o1.drew.trans (Only.ofGrown hg)
  clear hg m1 i1 v1 o1
  go_wp2_with (first
    | (go_at_call 78; refine (take_turn m5 hb hp hσ ht8 τ ⟨_, i5.tkAt, htk⟩ hg HO.out _ _ _ _ _ _ c' F' τ' HT.out true (by rw [hd]; rfl)).mono ?_; rintro e w6 ⟨rfl, s6, cs6, P⟩; obtain ⟨l6, a6, q6⟩ := P.a; have i6 := i5.step_tk a6 (Tk.cells_len q6) P.same; have v6 := v5.only P.only (fun hh => hh.elim hbv hbb); have o6 := o5.trans P.only; have s6' : Same o 26 cs cs6 := P.same.wide (by omega) (by omega); have z0 := v6.c0; have z1 := v6.c1; have z2 := v6.c2; have z3 := v6.c3; have z4 := v6.c4; have z5 := v6.c5; have z6 := v6.c6; have z7 := v6.c7; have z8 := v6.c8; have k0 := i6.c_nx; have k1 := i6.c_sl; have kf := i6.fz)
    | (go_at_call 79; refine (slot_won P.a x hd).mono ?_; rintro e w7 ⟨rfl, rfl⟩))
  go_end0
  exact ⟨rfl, s6, _, _, (P.m.setIn hb _ _).setIn hb _ _, (o6.set _ _).set _ _, (i6.set_sl x).set_nx 1, (s6'.set (by omega) _).set (by omega) _, P.p, P.st, (by have := P.good; rw [hd] at this; exact this), l6, Tk.cells_len q6, rfl⟩

theorem atake_none {w : World} {L : Loc} {s : Mm} {b o : Nat} {T : TypeId} {cs : Array Value} {a : AV} {t n k m : Nat} {g p r : Int} (h : MemAt w L s) (hb : ¬ L.has b) (hi : AlAt w b o T cs a) (who : Int) {σ c : Nat} {lk : Nat → Nat} {F : List Nat} (hp : Pile t n s σ c lk F) (hσ : σ < 1000000) (ht8 : t ≤ 8) (K : Nat) (hK : classOf a.sz = K) (τ : Tk) (htk : τ.cells a.tk) (hg : τ.good n c lk F) (ho : τ.over = false) (c' : Nat) (F' : List Nat) (τ' : Tk) (ht : tkTurn c lk F τ = (c', F', τ')) (hd : τ' = .none) :
    Calls Tryz.prog 51 #[.pointer (some ⟨b, o, none⟩), .agg #[.int .i64 t, .int .i64 n, .int .i64 k, .int .i64 m, .int .i64 g, .int .i64 p, .int .i64 r, .pointer (some ⟨L.p, 0, none⟩), .int .i64 who]] w fun e w' => e = .returned (.tuple #[]) ∧ Acts L b o T cs w w' (fun s' a' => Pile t n s' (σ + 1) c' lk F' ∧ (∃ v, s' = (s.by who).step (τ.at t) v) ∧ ∃ l, l.length = 4 ∧ a' = { a with tk := l, nx := 8, E := 7, H := 0, V := 0, St := ((σ + 1 : Nat) : Int) }) := by
  have hbv : ¬ L.has w.heap.size := fun hh => by have := h.lt _ hh; omega
  have hbb : ¬ w.heap.size = b := fun hh => by have := hi.lt; omega
  have HK : Hid (classOf a.sz = K) := hK
  have HT : Hid (tkTurn c lk F τ = (c', F', τ')) := ht
  have HO : Hid (τ.over = false) := ho
  clear hK ht ho
  have j1 := hi.grown (grow_alloc (Below.refl _ _) (.cells #[.int .i64 t, .int .i64 n, .int .i64 k, .int .i64 m, .int .i64 g, .int .i64 p, .int .i64 r, .pointer (some ⟨L.p, 0, none⟩), .int .i64 who] 28))
  go_enter Tryz.func51, Tryz.ntmps51
  go_wp2_with (go_at_call 76; refine (aclass_any _ _ HK.out j1.c_sz).mono ?_; rintro e w1 ⟨rfl, rfl⟩)
  clear j1
  refine wp_over (fun W => MemAt W L s ∧ AlAt W b o T (cs) a ∧ BoxV W w.heap.size t n k m g p r L.p who ∧ Only (L.and b) w W) ⟨h.alloc _, hi.grown (grow_alloc (Below.refl _ _) _), BoxV.new, (Only.refl _ _).alloc _⟩ ?_
  rintro W ⟨m1, i1, v1, o1⟩
  refine wp_region_rely_tail Grown 4 [.val (.pointer (some ⟨b, o, none⟩)), .val (.pointer (some ⟨b, o, none⟩)), .val (.pointer (some ⟨b, o + 1, none⟩)), .val (.agg #[.int .i64 t, .int .i64 n, .int .i64 k, .int .i64 m, .int .i64 g, .int .i64 p, .int .i64 r, .pointer (some ⟨L.p, 0, none⟩), .int .i64 who])] (by kernel_rfl) Grown.refl Grown.trans (by decide) (by kernel_rfl) (by kernel_rfl) (by kernel_rfl) (by kernel_rfl) (by kernel_rfl) (by kernel_rfl) ?_
  simp only [List.take_succ_cons, List.take_zero, relyAll, Act.put, List.setIfInBounds_toArray, List.set_cons_zero, List.set_cons_succ]
  refine ⟨?_, ?_, ?_, ?_, ?_⟩
  · intro w' hg _
    refine Or.inl ⟨rfl, ?_⟩
    go_simp
    exact ⟨Grown.refl _, rfl⟩
  · intro w' hg _
    refine Or.inl ⟨rfl, ?_⟩
    go_simp
    exact ⟨Grown.refl _, rfl⟩
  · intro w' hg _
    refine Or.inl ⟨rfl, ?_⟩
    go_simp
    exact ⟨Grown.refl _, rfl⟩
  · intro w' hg _
    refine Or.inl ⟨rfl, ?_⟩
    have vv := (v1.grown ((Below.refl _ _).drew)).grown hg
    have y0 := vv.c0
    have y1 := vv.c1
    have y2 := vv.c2
    have y3 := vv.c3
    have y4 := vv.c4
    have y5 := vv.c5
    have y6 := vv.c6
    have y7 := vv.c7
    have y8 := vv.c8
    go_simp
    exact ⟨Grown.refl _, rfl⟩
  intro w5 hg _
  have m5 := m1.drew.below hg
  have i5 := i1.drew.grown hg
  have v5 := (v1.grown ((Below.refl _ _).drew)).grown hg
  have o5 : Only (L.and b) w w5 := o1.drew.trans (Only.ofGrown hg)
  clear hg m1 i1 v1 o1
  go_wp2_with (first
    | (go_at_call 78; refine (take_turn m5 hb hp hσ ht8 τ ⟨_, i5.tkAt, htk⟩ hg HO.out _ _ _ _ _ _ c' F' τ' HT.out true (by rw [hd]; rfl)).mono ?_; rintro e w6 ⟨rfl, s6, cs6, P⟩; obtain ⟨l6, a6, q6⟩ := P.a; have i6 := i5.step_tk a6 (Tk.cells_len q6) P.same; have v6 := v5.only P.only (fun hh => hh.elim hbv hbb); have o6 := o5.trans P.only; have s6' : Same o 26 cs cs6 := P.same.wide (by omega) (by omega); have z0 := v6.c0; have z1 := v6.c1; have z2 := v6.c2; have z3 := v6.c3; have z4 := v6.c4; have z5 := v6.c5; have z6 := v6.c6; have z7 := v6.c7; have z8 := v6.c8; have k0 := i6.c_nx; have k1 := i6.c_sl; have kf := i6.fz)
    | (go_at_call 79; refine (slot_none P.a hd).mono ?_; rintro e w7 ⟨rfl, rfl⟩)
    | (go_at_call 77; refine (arefuse P.m hb i6 _ _ (σ + 1) P.p.st).mono ?_; rintro e w8 ⟨rfl, s8, cs8, a8, m8, o8, i8, q8, rfl, rfl⟩))
  refine bodyPost_ret (results_none rfl _ _ _) rfl ?_
  exact ⟨rfl, _, cs8, _, m8, o6.trans o8, i8, s6'.trans q8, P.p, P.st, l6, Tk.cells_len q6, rfl⟩

end Go.Proofs.YtcdmokbamakomaaGreat

/- What a step of one who makes an object comes to (package alloc): to ask for a life, to get words, to count them, to lay heads and the handle's word, to give the slot back. -/
namespace Go.Proofs.YtcdmokbamakomaaGreat
open Go.RowKit

/-- the memory and one who makes an object, while a step is done and what it told is noted -/
def phAl (L : Loc) (b o : Nat) (T : TypeId) (c c' : Array Value) (s s' : Mm) (a a' : AV) : Nat → World → Prop
  | 0, w => MemAt w L s ∧ AlAt w b o T c a
  | 1, w => MemAt w L s' ∧ AlAt w b o T c a
  | _, w => MemAt w L s' ∧ AlAt w b o T c' a'

theorem phAl_grown {L : Loc} {b o : Nat} {T : TypeId} {c c' : Array Value} {s s' : Mm} {a a' : AV} (x y : World) (p : Nat) (g : Grown x y) (k : phAl L b o T c c' s s' a a' p x) : phAl L b o T c c' s s' a a' p y := by
  match p, k with
  | 0, k => exact ⟨k.1.below g, k.2.grown g⟩
  | 1, k => exact ⟨k.1.below g, k.2.grown g⟩
  | p + 2, k => exact ⟨k.1.below g, k.2.grown g⟩

set_option maxHeartbeats 400000 in
theorem aask {w : World} {L : Loc} {s : Mm} {b o : Nat} {T : TypeId} {cs : Array Value} {a : AV} {t n k m : Nat} {g p r : Int} (h : MemAt w L s) (hb : ¬ L.has b) (hi : AlAt w b o T cs a) (who : Int) (ar : Arena t n k m) (x : Nat) (hx : a.sl = x) (hxn : x ≤ 1000000) (hn : 6 + t + x * 2 < s.n) (v : Int) (hv : s.wd (6 + t + x * 2) = v) (v0 : 0 ≤ v) (v1 : v ≤ 18446744073709551615) (G : Nat) (hG : v / 8388608 % 65536 = G) (K : Nat) (hK : classOf a.sz = K) :
    Calls Tryz.prog 52 #[.pointer (some ⟨b, o, none⟩), .agg #[.int .i64 t, .int .i64 n, .int .i64 k, .int .i64 m, .int .i64 g, .int .i64 p, .int .i64 r, .pointer (some ⟨L.p, 0, none⟩), .int .i64 who]] w fun e w' => e = .returned (.tuple #[]) ∧ Acts L b o T cs w w' (fun s' a' => s' = (s.by who).step (6 + t + x * 2) (s.wd (6 + t + x * 2)) ∧ a' = { a with gn := G, pl := PlV 0 K 0 0 0 0 0, nx := 2 }) := by
  have hbv : ¬ L.has w.heap.size := fun hh => by have := h.lt _ hh; omega
  have hbb : ¬ w.heap.size = b := fun hh => by have := hi.lt; omega
  have sw := fun w => slot_any v w v0 v1
  rw [hG] at sw
  have HV : Hid (s.wd (6 + t + x * 2) = v) := hv
  have HK : Hid (classOf a.sz = K) := hK
  have HX : Hid (a.sl = x) := hx
  have fl : ∀ (a1 a2 a3 a4 : Value) (w : World), (Instr.field 58 (.agg #[a1, a2, a3, a4]) 2).run Tryz.prog w = .ok a3 w := fun a1 a2 a3 a4 w => by kernel_rfl
  have np := fun w => newPlace_any K w
  unfold place0 at np
  clear hv hK hG v0 v1 hx
  go_enter Tryz.func52, Tryz.ntmps52
  go_wp2
  refine wp_over (fun W => MemAt W L s ∧ AlAt W b o T (cs) a ∧ BoxV W w.heap.size t n k m g p r L.p who ∧ Only (L.and b) w W) ⟨h.alloc _, hi.grown (grow_alloc (Below.refl _ _) _), BoxV.new, (Only.refl _ _).alloc _⟩ ?_
  rintro W ⟨m1, i1, v1, o1⟩
  refine wp_region_phase (OnlyBut L b (o + 18)) Grown (phAl L b o T cs (cs.setIfInBounds (o + 18) (.int .i64 G)) s ((s.by who).step (6 + t + x * 2) (s.wd (6 + t + x * 2))) a { a with gn := G }) [10, 16] [.val (.pointer (some ⟨b, o, none⟩)), .val (.agg #[.int .i64 t, .int .i64 n, .int .i64 k, .int .i64 m, .int .i64 g, .int .i64 p, .int .i64 r, .pointer (some ⟨L.p, 0, none⟩), .int .i64 who]), .val (.pointer (some ⟨w.heap.size, 0, none⟩)), .val (.agg #[.int .i64 t, .int .i64 n, .int .i64 k, .int .i64 m, .int .i64 g, .int .i64 p, .int .i64 r]), .val (.pointer (some ⟨b, o, none⟩)), .val (.pointer (some ⟨b, o, none⟩)), .val (.pointer (some ⟨b, o + 15, none⟩)), .val (.pointer (some ⟨b, o + 17, none⟩)), .val (.int .i64 x), .val (.int .i64 ((6 + t + x * 2 : Nat) : Int)), .val (.int .u64 v), .val (.agg #[.int .i64 (v % 8), .int .i64 (v / 8 % 1048576), .int .i64 G, .int .i64 (v / 549755813888 % 4194304)]), .val (.int .i64 G), .val (.pointer (some ⟨b, o, none⟩)), .val (.pointer (some ⟨b, o + 15, none⟩)), .val (.pointer (some ⟨b, o + 18, none⟩)), .that (fun _ _ => True) (fun _ _ _ _ _ => trivial)]
    (by kernel_rfl) OnlyBut.refl OnlyBut.trans OnlyBut.ofGrown phAl_grown ⟨m1.drew, i1.drew⟩ (by kernel_rfl) (by kernel_rfl) (by kernel_rfl) (by kernel_rfl) (by kernel_rfl) ?_
  simp only [phaseAll, Act.put, List.setIfInBounds_toArray, List.set_cons_zero, List.set_cons_succ]
  refine ⟨?_, ?_, ?_, ?_, ?_, ?_, ?_, ?_, ?_, ?_, ?_, ?_, ?_, ?_, ?_, ?_, ?_, ?_⟩
  · intro w' hR _
    refine Or.inl ⟨rfl, ?_⟩
    go_simp
    exact ⟨Grown.refl _, rfl⟩
  · intro w' hR _
    refine Or.inl ⟨rfl, ?_⟩
    have vv := (v1.grown ((Below.refl _ _).drew)).only hR.only (fun hh => hh.elim hbv hbb)
    have y0 := vv.c0
    have y1 := vv.c1
    have y2 := vv.c2
    have y3 := vv.c3
    have y4 := vv.c4
    have y5 := vv.c5
    have y6 := vv.c6
    have y7 := vv.c7
    have y8 := vv.c8
    go_simp
    exact ⟨Grown.refl _, rfl⟩
  · intro w' hR _
    refine Or.inl ⟨rfl, ?_⟩
    go_simp
    exact ⟨Grown.refl _, rfl⟩
  · intro w' hR _
    refine Or.inl ⟨rfl, ?_⟩
    have vv := (v1.grown ((Below.refl _ _).drew)).only hR.only (fun hh => hh.elim hbv hbb)
    have y0 := vv.c0
    have y1 := vv.c1
    have y2 := vv.c2
    have y3 := vv.c3
    have y4 := vv.c4
    have y5 := vv.c5
    have y6 := vv.c6
    have y7 := vv.c7
    have y8 := vv.c8
    go_simp
    exact ⟨Grown.refl _, rfl⟩
  · intro w' hR _
    refine Or.inl ⟨rfl, ?_⟩
    go_simp
    exact ⟨Grown.refl _, rfl⟩
  · intro w' hR _
    refine Or.inl ⟨rfl, ?_⟩
    go_simp
    exact ⟨Grown.refl _, rfl⟩
  · intro w' hR _
    refine Or.inl ⟨rfl, ?_⟩
    go_simp
    exact ⟨Grown.refl _, rfl⟩
  · intro w' hR _
    refine Or.inl ⟨rfl, ?_⟩
    go_simp
    exact ⟨Grown.refl _, rfl⟩
  · intro w' hR _
    refine Or.inl ⟨rfl, ?_⟩
    have z := hR.keep (j := o + 17) (by omega) i1.drew.c_sl
    rw [HX.out] at z
    go_simp
    exact ⟨Grown.refl _, rfl⟩
  · intro w' hR _
    refine Or.inl ⟨rfl, ?_⟩
    go_simp
    refine (lslot_any _ _ _ _ _ _ _ (x : Int) _ ar (by omega) (by omega)).mono ?_
    rintro e w'' ⟨rfl, b9⟩
    exact ⟨_, rfl, b9, congrArg (Value.int .i64) (by omega)⟩
  · intro w' hR _ hP
    refine Or.inl ⟨rfl, ?_⟩
    go_simp
    refine (eload_in (s := s) hP.1 _ _ _ _ _ _ _ _ (6 + t + x * 2) hn).mono ?_
    rintro e w'' ⟨rfl, m2, o2⟩
    exact ⟨_, rfl, ⟨OnlyBut.ofOnly o2 hb, m2, hP.2.only o2 hb⟩, by simp [Want.pred, HV.out]⟩
  · intro w' hR _
    refine Or.inl ⟨rfl, ?_⟩
    go_simp
    refine (sw _).mono ?_
    rintro e w'' ⟨rfl, b9⟩
    exact ⟨_, rfl, b9, rfl⟩
  · intro w' hR _
    refine Or.inl ⟨rfl, ?_⟩
    go_simp
    exact ⟨Grown.refl _, rfl⟩
  · intro w' hR _
    refine Or.inl ⟨rfl, ?_⟩
    go_simp
    exact ⟨Grown.refl _, rfl⟩
  · intro w' hR _
    refine Or.inl ⟨rfl, ?_⟩
    go_simp
    exact ⟨Grown.refl _, rfl⟩
  · intro w' hR _
    refine Or.inl ⟨rfl, ?_⟩
    go_simp
    exact ⟨Grown.refl _, rfl⟩
  · intro w' hR _ hP
    refine Or.inl ⟨rfl, ?_⟩
    have z0 := hP.2.c_gn
    have z1 := hP.2.fz
    go_simp
    exact ⟨⟨OnlyBut.set _ _, hP.1.setIn hb _ _, hP.2.set_gn _⟩, trivial⟩
  intro vv w2 hR hP _
  obtain ⟨m2, i2⟩ : MemAt w2 L ((s.by who).step (6 + t + x * 2) (s.wd (6 + t + x * 2))) ∧ AlAt w2 b o T (cs.setIfInBounds (o + 18) (.int .i64 G)) { a with gn := G } := hP
  have o2 : Only (L.and b) w w2 := o1.drew.trans hR.only
  have s2 : Same o 26 cs (cs.setIfInBounds (o + 18) (.int .i64 G)) := Same.refl.set (by omega) _
  clear hR o1 v1 m1 i1 sw fl
  go_wp2_with (first
    | (go_at_call 76; refine (aclass_any _ _ HK.out i2.c_sz).mono ?_; rintro e w1 ⟨rfl, rfl⟩)
    | (go_at_call 81; refine (np _).mono ?_; rintro e w1 ⟨rfl, rfl⟩; have i3 := i2.grown (grow_alloc (Below.refl _ _) (.cells #[.int .i64 0, .int .i64 K, .int .u64 0, .int .i64 0, .int .u64 0, .int .i64 0, .int .i64 0] 105)); obtain ⟨x0, q0⟩ := i3.c_pl0; obtain ⟨x1, q1⟩ := i3.c_pl1; obtain ⟨x2, q2⟩ := i3.c_pl2; obtain ⟨x3, q3⟩ := i3.c_pl3; obtain ⟨x4, q4⟩ := i3.c_pl4; obtain ⟨x5, q5⟩ := i3.c_pl5; obtain ⟨x6, q6⟩ := i3.c_pl6; have q7 := i3.c_nx; have qf := i3.fz))
  go_end0
  obtain ⟨y0, y1, y2, y3, y4, y5, y6, hl⟩ := len7 hi.lpl
  exact ⟨rfl, _, _, _, (((((((((m2.alloc _).setIn hb _ _).setIn hb _ _).setIn hb _ _).setIn hb _ _).setIn hb _ _).setIn hb _ _).setIn hb _ _).setIn hb _ _), (((((((((o2.alloc _).set _ _).set _ _).set _ _).set _ _).set _ _).set _ _).set _ _).set _ _), (((((((i3.set_pl0 (.int .i64 0)).set_pl1 (.int .i64 K)).set_pl2 (.int .u64 0)).set_pl3 (.int .i64 0)).set_pl4 (.int .u64 0)).set_pl5 (.int .i64 0)).set_pl6 (.int .i64 0)).set_nx 2, ((((((((s2.set (by omega) _).set (by omega) _).set (by omega) _).set (by omega) _).set (by omega) _).set (by omega) _).set (by omega) _).set (by omega) _), rfl, by simp [hl, PlV]⟩

set_option maxHeartbeats 400000 in
theorem awords_on {w : World} {L : Loc} {s : Mm} {b o : Nat} {T : TypeId} {cs : Array Value} {a : AV} {t n k m : Nat} {g p r : Int} (h : MemAt w L s) (hb : ¬ L.has b) (hi : AlAt w b o T cs a) (who : Int) {σ K : Nat} {y : Y} (hy : Yard t n k m s σ y) (hG : Good t n k m g p r) (hσ : σ < 1000000) (hκ : K < 4) (τ : Pl) (hpl : τ.cells K a.pl) (hg : τ.good k m K σ) (ho : τ.over = false) (y' : Y) (τ' : Pl) (ht : turn k m K (base t n k m) y τ = (y', τ')) (hd : τ'.over = false) :
    Calls Tryz.prog 53 #[.pointer (some ⟨b, o, none⟩), .agg #[.int .i64 t, .int .i64 n, .int .i64 k, .int .i64 m, .int .i64 g, .int .i64 p, .int .i64 r, .pointer (some ⟨L.p, 0, none⟩), .int .i64 who]] w fun e w' => e = .returned (.tuple #[]) ∧ Acts L b o T cs w w' (fun s' a' => Yard t n k m s' (σ + 1) y' ∧ (∃ v, s' = (s.by who).step (τ.at t n K) v) ∧ τ'.good k m K (σ + 1) ∧ ∃ l, τ'.cells K l ∧ a' = { a with pl := l }) := by
  have hbv : ¬ L.has w.heap.size := fun hh => by have := h.lt _ hh; omega
  have hbb : ¬ w.heap.size = b := fun hh => by have := hi.lt; omega
  have HT : Hid (turn k m K (base t n k m) y τ = (y', τ')) := ht
  have HO : Hid (τ.over = false) := ho
  have HG : Hid (Good t n k m g p r) := hG
  clear ht ho hG
  go_enter Tryz.func53, Tryz.ntmps53
  go_wp2
  refine wp_over (fun W => MemAt W L s ∧ AlAt W b o T (cs) a ∧ BoxV W w.heap.size t n k m g p r L.p who ∧ Only (L.and b) w W) ⟨h.alloc _, hi.grown (grow_alloc (Below.refl _ _) _), BoxV.new, (Only.refl _ _).alloc _⟩ ?_
  rintro W ⟨m1, i1, v1, o1⟩
  refine wp_region_rely_tail Grown 4 [.val (.pointer (some ⟨b, o, none⟩)), .val (.pointer (some ⟨b, o, none⟩)), .val (.pointer (some ⟨b, o + 5, none⟩)), .val (.agg #[.int .i64 t, .int .i64 n, .int .i64 k, .int .i64 m, .int .i64 g, .int .i64 p, .int .i64 r, .pointer (some ⟨L.p, 0, none⟩), .int .i64 who])] (by kernel_rfl) Grown.refl Grown.trans (by decide) (by kernel_rfl) (by kernel_rfl) (by kernel_rfl) (by kernel_rfl) (by kernel_rfl) (by kernel_rfl) ?_
  simp only [List.take_succ_cons, List.take_zero, relyAll, Act.put, List.setIfInBounds_toArray, List.set_cons_zero, List.set_cons_succ]
  refine ⟨?_, ?_, ?_, ?_, ?_⟩
  · intro w' hg _
    refine Or.inl ⟨rfl, ?_⟩
    go_simp
    exact ⟨Grown.refl _, rfl⟩
  · intro w' hg _
    refine Or.inl ⟨rfl, ?_⟩
    go_simp
    exact ⟨Grown.refl _, rfl⟩
  · intro w' hg _
    refine Or.inl ⟨rfl, ?_⟩
    go_simp
    exact ⟨Grown.refl _, rfl⟩
  · intro w' hg _
    refine Or.inl ⟨rfl, ?_⟩
    have vv := (v1.grown ((Below.refl _ _).drew)).grown hg
    have y0 := vv.c0
    have y1 := vv.c1
    have y2 := vv.c2
    have y3 := vv.c3
    have y4 := vv.c4
    have y5 := vv.c5
    have y6 := vv.c6
    have y7 := vv.c7
    have y8 := vv.c8
    go_simp
    exact ⟨Grown.refl _, rfl⟩
  intro w5 hg _
  have m5 := m1.drew.below hg
  have i5 := i1.drew.grown hg
  have v5 := (v1.grown ((Below.refl _ _).drew)).grown hg
  have o5 : Only (L.and b) w w5 := o1.drew.trans (Only.ofGrown hg)
  clear hg m1 i1 v1 o1
  go_wp2_with (first
    | (go_at_call 82; refine (place_turn m5 hb hy HG.out hσ hκ τ ⟨_, i5.plAt, hpl⟩ hg HO.out who y' τ' HT.out false hd).mono ?_; rintro e w6 ⟨rfl, s6, cs6, P⟩; obtain ⟨l6, a6, q6⟩ := P.a; have i6 := i5.step_pl a6 (Pl.cells_len q6) P.same; have v6 := v5.only P.only (fun hh => hh.elim hbv hbb); have o6 := o5.trans P.only; have s6' : Same o 26 cs cs6 := P.same.wide (by omega) (by omega)))
  refine bodyPost_ret (results_none rfl _ _ _) rfl ?_
  exact ⟨rfl, s6, cs6, _, P.mm, o6, i6, s6', P.yd, P.st, P.good, l6, q6, rfl⟩

set_option maxHeartbeats 400000 in
theorem awords_won {w : World} {L : Loc} {s : Mm} {b o : Nat} {T : TypeId} {cs : Array Value} {a : AV} {t n k m : Nat} {g p r : Int} (h : MemAt w L s) (hb : ¬ L.has b) (hi : AlAt w b o T cs a) (who : Int) {σ K : Nat} {y : Y} (hy : Yard t n k m s σ y) (hG : Good t n k m g p r) (hσ : σ < 1000000) (hκ : K < 4) (τ : Pl) (hpl : τ.cells K a.pl) (hg : τ.good k m K σ) (ho : τ.over = false) (y' : Y) (τ' : Pl) (ht : turn k m K (base t n k m) y τ = (y', τ')) (A i : Nat) (hd : τ' = .won A i) :
    Calls Tryz.prog 53 #[.pointer (some ⟨b, o, none⟩), .agg #[.int .i64 t, .int .i64 n, .int .i64 k, .int .i64 m, .int .i64 g, .int .i64 p, .int .i64 r, .pointer (some ⟨L.p, 0, none⟩), .int .i64 who]] w fun e w' => e = .returned (.tuple #[]) ∧ Acts L b o T cs w w' (fun s' a' => Yard t n k m s' (σ + 1) y' ∧ (∃ v, s' = (s.by who).step (τ.at t n K) v) ∧ ∃ l, l.length = 7 ∧ a' = { a with pl := l, sa := A, sc := i, nx := 3 }) := by
  have hbv : ¬ L.has w.heap.size := fun hh => by have := h.lt _ hh; omega
  have hbb : ¬ w.heap.size = b := fun hh => by have := hi.lt; omega
  have HT : Hid (turn k m K (base t n k m) y τ = (y', τ')) := ht
  have HO : Hid (τ.over = false) := ho
  have HG : Hid (Good t n k m g p r) := hG
  clear ht ho hG
  go_enter Tryz.func53, Tryz.ntmps53
  go_wp2
  refine wp_over (fun W => MemAt W L s ∧ AlAt W b o T (cs) a ∧ BoxV W w.heap.size t n k m g p r L.p who ∧ Only (L.and b) w W) ⟨h.alloc _, hi.grown (grow_alloc (Below.refl _ _) _), BoxV.new, (Only.refl _ _).alloc _⟩ ?_
  rintro W ⟨m1, i1, v1, o1⟩
  refine wp_region_rely_tail Grown 4 [.val (.pointer (some ⟨b, o, none⟩)), .val (.pointer (some ⟨b, o, none⟩)), .val (.pointer (some ⟨b, o + 5, none⟩)), .val (.agg #[.int .i64 t, .int .i64 n, .int .i64 k, .int .i64 m, .int .i64 g, .int .i64 p, .int .i64 r, .pointer (some ⟨L.p, 0, none⟩), .int .i64 who])] (by kernel_rfl) Grown.refl Grown.trans (by decide) (by kernel_rfl) (by kernel_rfl) (by kernel_rfl) (by kernel_rfl) (by kernel_rfl) (by kernel_rfl) ?_
  simp only [List.take_succ_cons, List.take_zero, relyAll, Act.put, List.setIfInBounds_toArray, List.set_cons_zero, List.set_cons_succ]
  refine ⟨?_, ?_, ?_, ?_, ?_⟩
  · intro w' hg _
    refine Or.inl ⟨rfl, ?_⟩
    go_simp
    exact ⟨Grown.refl _, rfl⟩
  · intro w' hg _
    refine Or.inl ⟨rfl, ?_⟩
    go_simp
    exact ⟨Grown.refl _, rfl⟩
  · intro w' hg _
    refine Or.inl ⟨rfl, ?_⟩
    go_simp
    exact ⟨Grown.refl _, rfl⟩
  · intro w' hg _
    refine Or.inl ⟨rfl, ?_⟩
    have vv := (v1.grown ((Below.refl _ _).drew)).grown hg
    have y0 := vv.c0
    have y1 := vv.c1
    have y2 := vv.c2
    have y3 := vv.c3
    have y4 := vv.c4
    have y5 := vv.c5
    have y6 := vv.c6
    have y7 := vv.c7
    have y8 := vv.c8
    go_simp
    exact ⟨Grown.refl _, rfl⟩
  intro w5 hg _
  have m5 := m1.drew.below hg
  have i5 := i1.drew.grown hg
  have v5 := (v1.grown ((Below.refl _ _).drew)).grown hg
  have o5 : Only (L.and b) w w5 := o1.drew.trans (Only.ofGrown hg)
  clear hg m1 i1 v1 o1
  go_wp2_with (first
    | (go_at_call 82; refine (place_turn m5 hb hy HG.out hσ hκ τ ⟨_, i5.plAt, hpl⟩ hg HO.out who y' τ' HT.out true (by rw [hd]; rfl)).mono ?_; rintro e w6 ⟨rfl, s6, cs6, P⟩; obtain ⟨l6, a6, q6⟩ := P.a; have i6 := i5.step_pl a6 (Pl.cells_len q6) P.same; have v6 := v5.only P.only (fun hh => hh.elim hbv hbb); have o6 := o5.trans P.only; have s6' : Same o 26 cs cs6 := P.same.wide (by omega) (by omega))
    | (go_at_call 83; refine (spot_any P.a A i true (by rw [hd]; rfl)).mono ?_; rintro e w7 ⟨rfl, b7⟩; have i7 := i6.grown b7; have i9 := i7.grown (grow_alloc (Below.refl _ _) (.cells #[.int .i64 A, .int .i64 i] 103)); have k0 := i9.c_nx; have k1 := i9.c_sa; have k2 := i9.c_sc; have kf := i9.fz))
  go_end0
  have o7 : Only (L.and b) w w7 := o6.trans (Only.ofGrown b7)
  exact ⟨rfl, s6, _, _, ((((P.mm.below b7).alloc _).setIn hb _ _).setIn hb _ _).setIn hb _ _, (((o7.alloc _).set _ _).set _ _).set _ _, ((i9.set_sa A).set_sc i).set_nx 3, ((s6'.set (by omega) _).set (by omega) _).set (by omega) _, P.yd, P.st, l6, Pl.cells_len q6, rfl⟩

set_option maxHeartbeats 400000 in
theorem awords_none {w : World} {L : Loc} {s : Mm} {b o : Nat} {T : TypeId} {cs : Array Value} {a : AV} {t n k m : Nat} {g p r : Int} (h : MemAt w L s) (hb : ¬ L.has b) (hi : AlAt w b o T cs a) (who : Int) {σ K : Nat} {y : Y} (hy : Yard t n k m s σ y) (hG : Good t n k m g p r) (hσ : σ < 1000000) (hκ : K < 4) (τ : Pl) (hpl : τ.cells K a.pl) (hg : τ.good k m K σ) (ho : τ.over = false) (y' : Y) (τ' : Pl) (ht : turn k m K (base t n k m) y τ = (y', τ')) (x : Nat) (hx : a.sl = x) (hd : τ' = .none) :
    Calls Tryz.prog 53 #[.pointer (some ⟨b, o, none⟩), .agg #[.int .i64 t, .int .i64 n, .int .i64 k, .int .i64 m, .int .i64 g, .int .i64 p, .int .i64 r, .pointer (some ⟨L.p, 0, none⟩), .int .i64 who]] w fun e w' => e = .returned (.tuple #[]) ∧ Acts L b o T cs w w' (fun s' a' => Yard t n k m s' (σ + 1) y' ∧ (∃ v, s' = (s.by who).step (τ.at t n K) v) ∧ ∃ l, l.length = 7 ∧ a' = { a with pl := l, gv := GvV 0 x 0, nx := 7 }) := by
  have hbv : ¬ L.has w.heap.size := fun hh => by have := h.lt _ hh; omega
  have hbb : ¬ w.heap.size = b := fun hh => by have := hi.lt; omega
  have HT : Hid (turn k m K (base t n k m) y τ = (y', τ')) := ht
  have HO : Hid (τ.over = false) := ho
  have HG : Hid (Good t n k m g p r) := hG
  clear ht ho hG
  have HX : Hid (a.sl = x) := hx
  clear hx
  go_enter Tryz.func53, Tryz.ntmps53
  go_wp2
  refine wp_over (fun W => MemAt W L s ∧ AlAt W b o T (cs) a ∧ BoxV W w.heap.size t n k m g p r L.p who ∧ Only (L.and b) w W) ⟨h.alloc _, hi.grown (grow_alloc (Below.refl _ _) _), BoxV.new, (Only.refl _ _).alloc _⟩ ?_
  rintro W ⟨m1, i1, v1, o1⟩
  refine wp_region_rely_tail Grown 4 [.val (.pointer (some ⟨b, o, none⟩)), .val (.pointer (some ⟨b, o, none⟩)), .val (.pointer (some ⟨b, o + 5, none⟩)), .val (.agg #[.int .i64 t, .int .i64 n, .int .i64 k, .int .i64 m, .int .i64 g, .int .i64 p, .int .i64 r, .pointer (some ⟨L.p, 0, none⟩), .int .i64 who])] (by kernel_rfl) Grown.refl Grown.trans (by decide) (by kernel_rfl) (by kernel_rfl) (by kernel_rfl) (by kernel_rfl) (by kernel_rfl) (by kernel_rfl) ?_
  simp only [List.take_succ_cons, List.take_zero, relyAll, Act.put, List.setIfInBounds_toArray, List.set_cons_zero, List.set_cons_succ]
  refine ⟨?_, ?_, ?_, ?_, ?_⟩
  · intro w' hg _
    refine Or.inl ⟨rfl, ?_⟩
    go_simp
    exact ⟨Grown.refl _, rfl⟩
  · intro w' hg _
    refine Or.inl ⟨rfl, ?_⟩
    go_simp
    exact ⟨Grown.refl _, rfl⟩
  · intro w' hg _
    refine Or.inl ⟨rfl, ?_⟩
    go_simp
    exact ⟨Grown.refl _, rfl⟩
  · intro w' hg _
    refine Or.inl ⟨rfl, ?_⟩
    have vv := (v1.grown ((Below.refl _ _).drew)).grown hg
    have y0 := vv.c0
    have y1 := vv.c1
    have y2 := vv.c2
    have y3 := vv.c3
    have y4 := vv.c4
    have y5 := vv.c5
    have y6 := vv.c6
    have y7 := vv.c7
    have y8 := vv.c8
    go_simp
    exact ⟨Grown.refl _, rfl⟩
  intro w5 hg _
  have m5 := m1.drew.below hg
  have i5 := i1.drew.grown hg
  have v5 := (v1.grown ((Below.refl _ _).drew)).grown hg
  have o5 : Only (L.and b) w w5 := o1.drew.trans (Only.ofGrown hg)
  clear hg m1 i1 v1 o1
  go_wp2_with (first
    | (go_at_call 82; refine (place_turn m5 hb hy HG.out hσ hκ τ ⟨_, i5.plAt, hpl⟩ hg HO.out who y' τ' HT.out true (by rw [hd]; rfl)).mono ?_; rintro e w6 ⟨rfl, s6, cs6, P⟩; obtain ⟨l6, a6, q6⟩ := P.a; have i6 := i5.step_pl a6 (Pl.cells_len q6) P.same; have v6 := v5.only P.only (fun hh => hh.elim hbv hbb); have o6 := o5.trans P.only; have s6' : Same o 26 cs cs6 := P.same.wide (by omega) (by omega))
    | (go_at_call 83; refine (spot_any P.a 0 0 false (by rw [hd]; rfl)).mono ?_; rintro e w7 ⟨rfl, b7⟩; have i7 := i6.grown b7; have i9 := i7.grown (grow_alloc (Below.refl _ _) (.cells #[.int .i64 0, .int .i64 0] 103)); have k3 := i9.c_sl; rw [show ({ a with pl := l6 } : AV).sl = x from HX.out] at k3)
    | (go_at_call 84; refine (newGive_any x _).mono ?_; rintro e w8 ⟨rfl, rfl⟩; have i10 := i9.grown (grow_alloc (Below.refl _ _) (.cells #[.int .i64 0, .int .i64 x, .int .u64 0] 107)); have k0 := i10.c_nx; obtain ⟨x0, k1⟩ := i10.c_gv0; obtain ⟨x1, k2⟩ := i10.c_gv1; obtain ⟨x2, k4⟩ := i10.c_gv2; have kf := i10.fz))
  refine bodyPost_ret (results_none rfl _ _ _) rfl ?_
  have o7 : Only (L.and b) w w7 := o6.trans (Only.ofGrown b7)
  obtain ⟨z0, z1, z2, hl⟩ := len3 hi.lgv
  exact ⟨rfl, s6, _, _, ((((((P.mm.below b7).alloc _).alloc _).setIn hb _ _).setIn hb _ _).setIn hb _ _).setIn hb _ _, (((((o7.alloc _).alloc _).set _ _).set _ _).set _ _).set _ _, (((i10.set_gv0 _).set_gv1 _).set_gv2 _).set_nx 7, (((s6'.set (by omega) _).set (by omega) _).set (by omega) _).set (by omega) _, P.yd, P.st, l6, Pl.cells_len q6, by simp [hl, GvV]⟩

end Go.Proofs.YtcdmokbamakomaaGreat

/- What a step of one who makes an object comes to (package alloc): live words are counted, the head and the handle's word are laid, the slot is given back. -/
namespace Go.Proofs.YtcdmokbamakomaaGreat
open Go.RowKit

set_option maxHeartbeats 400000 in
theorem acount {w : World} {L : Loc} {s : Mm} {b o : Nat} {T : TypeId} {cs : Array Value} {a : AV} {t n k m : Nat} {g p r : Int} (h : MemAt w L s) (hb : ¬ L.has b) (hi : AlAt w b o T cs a) (who : Int) (ar : Arena t n k m) (hn1 : n ≤ 65536) (ht1 : t ≤ 8) (i : Nat) (hx : a.sc = i) (hin : i ≤ 64) (hn : 6 + t + n * 2 + i * 3 + 1 < s.n) (K : Nat) (hκ : K < 4) (hK : classOf a.sz = K) :
    Calls Tryz.prog 54 #[.pointer (some ⟨b, o, none⟩), .agg #[.int .i64 t, .int .i64 n, .int .i64 k, .int .i64 m, .int .i64 g, .int .i64 p, .int .i64 r, .pointer (some ⟨L.p, 0, none⟩), .int .i64 who]] w fun e w' => e = .returned (.tuple #[]) ∧ Acts L b o T cs w w' (fun s' a' => s' = (s.by who).step (6 + t + n * 2 + i * 3 + 1) (sum64 (s.wd (6 + t + n * 2 + i * 3 + 1)) (word64 (room K))) ∧ a' = { a with nx := 4 }) := by
  have HK : Hid (classOf a.sz = K) := hK
  have HI : Hid (a.sc = i) := hx
  clear hK hx
  have hbv : ¬ L.has w.heap.size := fun hh => by have := h.lt _ hh; omega
  have hbb : ¬ w.heap.size = b := fun hh => by have := hi.lt; omega
  go_enter Tryz.func54, Tryz.ntmps54
  go_wp2
  refine wp_over (fun W => MemAt W L s ∧ AlAt W b o T (cs) a ∧ BoxV W w.heap.size t n k m g p r L.p who ∧ Only (L.and b) w W) ⟨h.alloc _, hi.grown (grow_alloc (Below.refl _ _) _), BoxV.new, (Only.refl _ _).alloc _⟩ ?_
  rintro W ⟨m1, i1, v1, o1⟩
  refine wp_region_rely_tail Grown 13 [.val (.agg #[.int .i64 t, .int .i64 n, .int .i64 k, .int .i64 m, .int .i64 g, .int .i64 p, .int .i64 r, .pointer (some ⟨L.p, 0, none⟩), .int .i64 who]), .val (.pointer (some ⟨w.heap.size, 0, none⟩)), .val (.agg #[.int .i64 t, .int .i64 n, .int .i64 k, .int .i64 m, .int .i64 g, .int .i64 p, .int .i64 r]), .val (.pointer (some ⟨b, o, none⟩)), .val (.pointer (some ⟨b, o, none⟩)), .val (.pointer (some ⟨b, o + 20, none⟩)), .val (.pointer (some ⟨b, o + 21, none⟩)), .val (.int .i64 i), .val (.int .i64 ((6 + t + n * 2 + i * 3 : Nat) : Int)), .val (.int .i64 ((6 + t + n * 2 + i * 3 + 1 : Nat) : Int)), .val (.pointer (some ⟨b, o, none⟩)), .val (.int .i64 K), .val (.int .i64 (room K))] (by kernel_rfl) Grown.refl Grown.trans (by decide) (by kernel_rfl) (by kernel_rfl) (by kernel_rfl) (by kernel_rfl) (by kernel_rfl) (by kernel_rfl) ?_
  simp only [List.take_succ_cons, List.take_zero, relyAll, Act.put, List.setIfInBounds_toArray, List.set_cons_zero, List.set_cons_succ]
  refine ⟨?_, ?_, ?_, ?_, ?_, ?_, ?_, ?_, ?_, ?_, ?_, ?_, ?_, ?_⟩
  · intro w' hg _
    refine Or.inl ⟨rfl, ?_⟩
    have vv := (v1.grown ((Below.refl _ _).drew)).grown hg
    have y0 := vv.c0
    have y1 := vv.c1
    have y2 := vv.c2
    have y3 := vv.c3
    have y4 := vv.c4
    have y5 := vv.c5
    have y6 := vv.c6
    have y7 := vv.c7
    have y8 := vv.c8
    go_simp
    exact ⟨Grown.refl _, rfl⟩
  · intro w' hg _
    refine Or.inl ⟨rfl, ?_⟩
    go_simp
    exact ⟨Grown.refl _, rfl⟩
  · intro w' hg _
    refine Or.inl ⟨rfl, ?_⟩
    have vv := (v1.grown ((Below.refl _ _).drew)).grown hg
    have y0 := vv.c0
    have y1 := vv.c1
    have y2 := vv.c2
    have y3 := vv.c3
    have y4 := vv.c4
    have y5 := vv.c5
    have y6 := vv.c6
    have y7 := vv.c7
    have y8 := vv.c8
    go_simp
    exact ⟨Grown.refl _, rfl⟩
  · intro w' hg _
    refine Or.inl ⟨rfl, ?_⟩
    go_simp
    exact ⟨Grown.refl _, rfl⟩
  · intro w' hg _
    refine Or.inl ⟨rfl, ?_⟩
    go_simp
    exact ⟨Grown.refl _, rfl⟩
  · intro w' hg _
    refine Or.inl ⟨rfl, ?_⟩
    go_simp
    exact ⟨Grown.refl _, rfl⟩
  · intro w' hg _
    refine Or.inl ⟨rfl, ?_⟩
    go_simp
    exact ⟨Grown.refl _, rfl⟩
  · intro w' hg _
    refine Or.inl ⟨rfl, ?_⟩
    have z := (i1.drew.grown hg).c_sc
    rw [HI.out] at z
    go_simp
    exact ⟨Grown.refl _, rfl⟩
  · intro w' hg _
    refine Or.inl ⟨rfl, ?_⟩
    go_simp
    refine (lchunk_any _ _ _ _ _ _ _ (i : Int) _ ar (by omega) (by omega)).mono ?_
    rintro e w'' ⟨rfl, b9⟩
    exact ⟨_, rfl, b9, congrArg (Value.int .i64) (by omega)⟩
  · intro w' hg _
    refine Or.inl ⟨rfl, ?_⟩
    go_simp
    exact ⟨Grown.refl _, congrArg (Value.int .i64) (by rw [IntKind.wrap_i64]; omega)⟩
  · intro w' hg _
    refine Or.inl ⟨rfl, ?_⟩
    go_simp
    exact ⟨Grown.refl _, rfl⟩
  · intro w' hg _
    refine Or.inl ⟨rfl, ?_⟩
    go_simp
    refine (aclass_any _ _ HK.out (i1.drew.grown hg).c_sz).mono ?_
    rintro e w'' ⟨rfl, rfl⟩
    exact ⟨_, rfl, Grown.refl _, rfl⟩
  · intro w' hg _
    refine Or.inl ⟨rfl, ?_⟩
    go_simp
    refine (lroom_w K hκ _).mono ?_
    rintro e w'' ⟨rfl, rfl⟩
    exact ⟨_, rfl, Grown.refl _, rfl⟩
  intro w5 hg _
  have m5 := m1.drew.below hg
  have i5 := i1.drew.grown hg
  have v5 := (v1.grown ((Below.refl _ _).drew)).grown hg
  have o5 : Only (L.and b) w w5 := o1.drew.trans (Only.ofGrown hg)
  clear hg m1 i1 v1 o1
  go_wp2_with (go_at_call 85; refine (eadd_in m5 _ _ _ _ _ _ _ _ (6 + t + n * 2 + i * 3 + 1) hn _).mono ?_; rintro e w6 ⟨rfl, m6, o6⟩; have i6 := i5.only o6 hb; have k0 := i6.c_nx; have kf := i6.fz)
  go_end0
  exact ⟨rfl, _, _, _, m6.setIn hb _ _, (o5.trans o6.andL).set _ _, i6.set_nx 4, Same.refl.set (by omega) _, rfl, rfl⟩

set_option maxHeartbeats 400000 in
theorem ahead {w : World} {L : Loc} {s : Mm} {b o : Nat} {T : TypeId} {cs : Array Value} {a : AV} {t n k m : Nat} {g p r : Int} (h : MemAt w L s) (hb : ¬ L.has b) (hi : AlAt w b o T cs a) (who : Int) (kd : Int) (fk : Fit kd) (z : Int) (fz : Fit z) (hz : a.sz = z) (x G A : Nat) (hx : a.sl = x) (hG : a.gn = G) (hA : a.sa = A) (ow : Bool) (hw : a.own = ow) (xb : x ≤ 1000000) (gb : G ≤ 1000000) (hn : A < s.n) :
    Calls Tryz.prog 55 #[.pointer (some ⟨b, o, none⟩), .agg #[.int .i64 t, .int .i64 n, .int .i64 k, .int .i64 m, .int .i64 g, .int .i64 p, .int .i64 r, .pointer (some ⟨L.p, 0, none⟩), .int .i64 who], .int .i64 kd] w fun e w' => e = .returned (.tuple #[]) ∧ Acts L b o T cs w w' (fun s' a' => s' = (s.by who).step A (packOw kd z x G ow) ∧ a' = { a with kd := kd }) := by
  have HX : Hid (a.sl = x) := hx
  have HG : Hid (a.gn = G) := hG
  have HA : Hid (a.sa = A) := hA
  have HW : Hid (a.own = ow) := hw
  have HZ : Hid (a.sz = z) := hz
  clear hx hG hA hw hz
  have hbv : ¬ L.has w.heap.size := fun hh => by have := h.lt _ hh; omega
  have hbb : ¬ w.heap.size = b := fun hh => by have := hi.lt; omega
  have j1 := hi.grown (grow_alloc (Below.refl _ _) (.cells #[.int .i64 t, .int .i64 n, .int .i64 k, .int .i64 m, .int .i64 g, .int .i64 p, .int .i64 r, .pointer (some ⟨L.p, 0, none⟩), .int .i64 who] 28))
  have k0 := j1.c_kd
  have kf := j1.fz
  have j2 := j1.set_kd kd
  go_enter Tryz.func55, Tryz.ntmps55
  go_wp2
  refine wp_over (fun W => MemAt W L s ∧ AlAt W b o T (cs.setIfInBounds (o + 15) (.int .i64 kd)) { a with kd := kd } ∧ BoxV W w.heap.size t n k m g p r L.p who ∧ Only (L.and b) w W) ⟨(h.alloc _).setIn hb _ _, j2, BoxV.new.setIn hbb _ _, ((Only.refl _ _).alloc _).set _ _⟩ ?_
  clear j1 j2 k0 kf
  rintro W ⟨m1, i1, v1, o1⟩
  refine wp_region_rely_tail Grown 11 [.val (.agg #[.int .i64 t, .int .i64 n, .int .i64 k, .int .i64 m, .int .i64 g, .int .i64 p, .int .i64 r, .pointer (some ⟨L.p, 0, none⟩), .int .i64 who]), .val (.pointer (some ⟨b, o, none⟩)), .val (.pointer (some ⟨b, o, none⟩)), .val (.pointer (some ⟨b, o + 20, none⟩)), .val (.pointer (some ⟨b, o + 20, none⟩)), .val (.int .i64 A), .val (.pointer (some ⟨b, o, none⟩)), .val (.pointer (some ⟨b, o, none⟩)), .val (.pointer (some ⟨b, o + 15, none⟩)), .val (.agg #[.int .i64 kd, .int .i64 z, .int .i64 x, .int .i64 G, .bool ow]), .val (.int .u64 (packOw kd z x G ow))] (by kernel_rfl) Grown.refl Grown.trans (by decide) (by kernel_rfl) (by kernel_rfl) (by kernel_rfl) (by kernel_rfl) (by kernel_rfl) (by kernel_rfl) ?_
  simp only [List.take_succ_cons, List.take_zero, relyAll, Act.put, List.setIfInBounds_toArray, List.set_cons_zero, List.set_cons_succ]
  refine ⟨?_, ?_, ?_, ?_, ?_, ?_, ?_, ?_, ?_, ?_, ?_, ?_⟩
  · intro w' hg _
    refine Or.inl ⟨rfl, ?_⟩
    have vv := (v1.grown ((Below.refl _ _).drew)).grown hg
    have y0 := vv.c0
    have y1 := vv.c1
    have y2 := vv.c2
    have y3 := vv.c3
    have y4 := vv.c4
    have y5 := vv.c5
    have y6 := vv.c6
    have y7 := vv.c7
    have y8 := vv.c8
    go_simp
    exact ⟨Grown.refl _, rfl⟩
  · intro w' hg _
    refine Or.inl ⟨rfl, ?_⟩
    go_simp
    exact ⟨Grown.refl _, rfl⟩
  · intro w' hg _
    refine Or.inl ⟨rfl, ?_⟩
    go_simp
    exact ⟨Grown.refl _, rfl⟩
  · intro w' hg _
    refine Or.inl ⟨rfl, ?_⟩
    go_simp
    exact ⟨Grown.refl _, rfl⟩
  · intro w' hg _
    refine Or.inl ⟨rfl, ?_⟩
    go_simp
    exact ⟨Grown.refl _, rfl⟩
  · intro w' hg _
    refine Or.inl ⟨rfl, ?_⟩
    have z := (i1.drew.grown hg).c_sa
    rw [show ({ a with kd := kd } : AV).sa = A from HA.out] at z
    go_simp
    exact ⟨Grown.refl _, rfl⟩
  · intro w' hg _
    refine Or.inl ⟨rfl, ?_⟩
    go_simp
    exact ⟨Grown.refl _, rfl⟩
  · intro w' hg _
    refine Or.inl ⟨rfl, ?_⟩
    go_simp
    exact ⟨Grown.refl _, rfl⟩
  · intro w' hg _
    refine Or.inl ⟨rfl, ?_⟩
    go_simp
    exact ⟨Grown.refl _, rfl⟩
  · intro w' hg _
    refine Or.inl ⟨rfl, ?_⟩
    have z0 := (i1.drew.grown hg).c_kd
    have z1 := (i1.drew.grown hg).c_sz
    have z2 := (i1.drew.grown hg).c_sl
    have z3 := (i1.drew.grown hg).c_gn
    have z4 := (i1.drew.grown hg).c_own
    rw [show ({ a with kd := kd } : AV).sz = z from HZ.out] at z1
    rw [show ({ a with kd := kd } : AV).sl = x from HX.out] at z2
    rw [show ({ a with kd := kd } : AV).gn = G from HG.out] at z3
    rw [show ({ a with kd := kd } : AV).own = ow from HW.out] at z4
    go_simp
    exact ⟨Grown.refl _, rfl⟩
  · intro w' hg _
    refine Or.inl ⟨rfl, ?_⟩
    go_simp
    refine (putHead_any kd z x G ow _ fk fz ⟨by omega, by omega⟩ ⟨by omega, by omega⟩).mono ?_
    rintro e w'' ⟨rfl, b9⟩
    exact ⟨_, rfl, b9, rfl⟩
  intro w5 hg _
  have m5 := m1.drew.below hg
  have i5 := i1.drew.grown hg
  have v5 := (v1.grown ((Below.refl _ _).drew)).grown hg
  have o5 : Only (L.and b) w w5 := o1.drew.trans (Only.ofGrown hg)
  clear hg m1 i1 v1 o1
  go_wp2_with (go_at_call 88; refine (estore_in m5 _ _ _ _ _ _ _ _ A hn _).mono ?_; rintro e w6 ⟨rfl, m6, o6⟩)
  go_end0
  exact ⟨rfl, _, _, _, m6, o5.trans o6.andL, i5.only o6 hb, Same.refl.set (by omega) _, rfl, rfl⟩

set_option maxHeartbeats 1000000 in
theorem ashow {w : World} {L : Loc} {s : Mm} {b o : Nat} {T : TypeId} {cs : Array Value} {a : AV} {t n k m : Nat} {g p r : Int} (h : MemAt w L s) (hb : ¬ L.has b) (hi : AlAt w b o T cs a) (who : Int) (ar : Arena t n k m) (x G A : Nat) (hx : a.sl = x) (hG : a.gn = G) (hA : a.sa = A) (xb : x ≤ 1000000) (gb : G ≤ 1000000) (ab : A ≤ 1000000) (hn : 6 + t + x * 2 < s.n) (st : Nat) (hst : wrap64 (s.steps + 1) = st) :
    Calls Tryz.prog 56 #[.pointer (some ⟨b, o, none⟩), .agg #[.int .i64 t, .int .i64 n, .int .i64 k, .int .i64 m, .int .i64 g, .int .i64 p, .int .i64 r, .pointer (some ⟨L.p, 0, none⟩), .int .i64 who]] w fun e w' => e = .returned (.tuple #[]) ∧ Acts L b o T cs w w' (fun s' a' => s' = (s.by who).step (6 + t + x * 2) (packS 1 A G 0) ∧ a' = { a with H := packH x G, St := st, nx := 6 }) := by
  have HX : Hid (a.sl = x) := hx
  have HG : Hid (a.gn = G) := hG
  have HA : Hid (a.sa = A) := hA
  have HS : Hid (wrap64 (s.steps + 1) = st) := hst
  clear hx hG hA hst
  have hbv : ¬ L.has w.heap.size := fun hh => by have := h.lt _ hh; omega
  have hbb : ¬ w.heap.size = b := fun hh => by have := hi.lt; omega
  go_enter Tryz.func56, Tryz.ntmps56
  go_wp2
  refine wp_over (fun W => MemAt W L s ∧ AlAt W b o T (cs) a ∧ BoxV W w.heap.size t n k m g p r L.p who ∧ Only (L.and b) w W) ⟨h.alloc _, hi.grown (grow_alloc (Below.refl _ _) _), BoxV.new, (Only.refl _ _).alloc _⟩ ?_
  rintro W ⟨m1, i1, v1, o1⟩
  refine wp_region_rely_tail Grown 21 [.val (.agg #[.int .i64 t, .int .i64 n, .int .i64 k, .int .i64 m, .int .i64 g, .int .i64 p, .int .i64 r, .pointer (some ⟨L.p, 0, none⟩), .int .i64 who]), .val (.pointer (some ⟨w.heap.size, 0, none⟩)), .val (.agg #[.int .i64 t, .int .i64 n, .int .i64 k, .int .i64 m, .int .i64 g, .int .i64 p, .int .i64 r]), .val (.pointer (some ⟨b, o, none⟩)), .val (.pointer (some ⟨b, o, none⟩)), .val (.pointer (some ⟨b, o + 15, none⟩)), .val (.pointer (some ⟨b, o + 17, none⟩)), .val (.int .i64 x), .val (.int .i64 ((6 + t + x * 2 : Nat) : Int)), .val (.pointer (some ⟨b, o, none⟩)), .val (.pointer (some ⟨b, o, none⟩)), .val (.pointer (some ⟨b, o + 20, none⟩)), .val (.pointer (some ⟨b, o + 20, none⟩)), .val (.int .i64 A), .val (.pointer (some ⟨b, o, none⟩)), .val (.pointer (some ⟨b, o, none⟩)), .val (.pointer (some ⟨b, o + 15, none⟩)), .val (.pointer (some ⟨b, o + 18, none⟩)), .val (.int .i64 G), .val (.agg #[.int .i64 1, .int .i64 A, .int .i64 G, .int .i64 0]), .val (.int .u64 (packS 1 A G 0))] (by kernel_rfl) Grown.refl Grown.trans (by decide) (by kernel_rfl) (by kernel_rfl) (by kernel_rfl) (by kernel_rfl) (by kernel_rfl) (by kernel_rfl) ?_
  simp only [List.take_succ_cons, List.take_zero, relyAll, Act.put, List.setIfInBounds_toArray, List.set_cons_zero, List.set_cons_succ]
  refine ⟨?_, ?_, ?_, ?_, ?_, ?_, ?_, ?_, ?_, ?_, ?_, ?_, ?_, ?_, ?_, ?_, ?_, ?_, ?_, ?_, ?_, ?_⟩
  · intro w' hg _
    refine Or.inl ⟨rfl, ?_⟩
    have vv := (v1.grown ((Below.refl _ _).drew)).grown hg
    have y0 := vv.c0
    have y1 := vv.c1
    have y2 := vv.c2
    have y3 := vv.c3
    have y4 := vv.c4
    have y5 := vv.c5
    have y6 := vv.c6
    have y7 := vv.c7
    have y8 := vv.c8
    go_simp
    exact ⟨Grown.refl _, rfl⟩
  · intro w' hg _
    refine Or.inl ⟨rfl, ?_⟩
    go_simp
    exact ⟨Grown.refl _, rfl⟩
  · intro w' hg _
    refine Or.inl ⟨rfl, ?_⟩
    have vv := (v1.grown ((Below.refl _ _).drew)).grown hg
    have y0 := vv.c0
    have y1 := vv.c1
    have y2 := vv.c2
    have y3 := vv.c3
    have y4 := vv.c4
    have y5 := vv.c5
    have y6 := vv.c6
    have y7 := vv.c7
    have y8 := vv.c8
    go_simp
    exact ⟨Grown.refl _, rfl⟩
  · intro w' hg _
    refine Or.inl ⟨rfl, ?_⟩
    go_simp
    exact ⟨Grown.refl _, rfl⟩
  · intro w' hg _
    refine Or.inl ⟨rfl, ?_⟩
    go_simp
    exact ⟨Grown.refl _, rfl⟩
  · intro w' hg _
    refine Or.inl ⟨rfl, ?_⟩
    go_simp
    exact ⟨Grown.refl _, rfl⟩
  · intro w' hg _
    refine Or.inl ⟨rfl, ?_⟩
    go_simp
    exact ⟨Grown.refl _, rfl⟩
  · intro w' hg _
    refine Or.inl ⟨rfl, ?_⟩
    have z := (i1.drew.grown hg).c_sl
    rw [HX.out] at z
    go_simp
    exact ⟨Grown.refl _, rfl⟩
  · intro w' hg _
    refine Or.inl ⟨rfl, ?_⟩
    go_simp
    refine (lslot_any _ _ _ _ _ _ _ (x : Int) _ ar (by omega) (by omega)).mono ?_
    rintro e w'' ⟨rfl, b9⟩
    exact ⟨_, rfl, b9, congrArg (Value.int .i64) (by omega)⟩
  · intro w' hg _
    refine Or.inl ⟨rfl, ?_⟩
    go_simp
    exact ⟨Grown.refl _, rfl⟩
  · intro w' hg _
    refine Or.inl ⟨rfl, ?_⟩
    go_simp
    exact ⟨Grown.refl _, rfl⟩
  · intro w' hg _
    refine Or.inl ⟨rfl, ?_⟩
    go_simp
    exact ⟨Grown.refl _, rfl⟩
  · intro w' hg _
    refine Or.inl ⟨rfl, ?_⟩
    go_simp
    exact ⟨Grown.refl _, rfl⟩
  · intro w' hg _
    refine Or.inl ⟨rfl, ?_⟩
    have z := (i1.drew.grown hg).c_sa
    rw [HA.out] at z
    go_simp
    exact ⟨Grown.refl _, rfl⟩
  · intro w' hg _
    refine Or.inl ⟨rfl, ?_⟩
    go_simp
    exact ⟨Grown.refl _, rfl⟩
  · intro w' hg _
    refine Or.inl ⟨rfl, ?_⟩
    go_simp
    exact ⟨Grown.refl _, rfl⟩
  · intro w' hg _
    refine Or.inl ⟨rfl, ?_⟩
    go_simp
    exact ⟨Grown.refl _, rfl⟩
  · intro w' hg _
    refine Or.inl ⟨rfl, ?_⟩
    go_simp
    exact ⟨Grown.refl _, rfl⟩
  · intro w' hg _
    refine Or.inl ⟨rfl, ?_⟩
    have z := (i1.drew.grown hg).c_gn
    rw [HG.out] at z
    go_simp
    exact ⟨Grown.refl _, rfl⟩
  · intro w' hg _
    refine Or.inl ⟨rfl, ?_⟩
    go_simp
    exact ⟨Grown.refl _, rfl⟩
  · intro w' hg _
    refine Or.inl ⟨rfl, ?_⟩
    go_simp
    refine (putSlot_any 1 A G 0 _ ⟨by omega, by omega⟩ ⟨by omega, by omega⟩ ⟨by omega, by omega⟩ ⟨by omega, by omega⟩).mono ?_
    rintro e w'' ⟨rfl, b9⟩
    exact ⟨_, rfl, b9, rfl⟩
  intro w5 hg _
  have m5 := m1.drew.below hg
  have i5 := i1.drew.grown hg
  have v5 := (v1.grown ((Below.refl _ _).drew)).grown hg
  have o5 : Only (L.and b) w w5 := o1.drew.trans (Only.ofGrown hg)
  clear hg m1 i1 v1 o1
  go_wp2_with (go_at_call 88; refine (estore_in m5 _ _ _ _ _ _ _ _ (6 + t + x * 2) hn _).mono ?_; rintro e w6 ⟨rfl, m6, o6⟩)
  have m1 := m6
  have i1 := i5.only o6 hb
  have v1 := v5.only o6 hbv
  have o1 := o5.trans (o6.andL (b := b))
  clear m6 m5 i5 v5 o5 o6
  refine wp_region_rely_tail Grown 16 [.val (.pointer (some ⟨b, o, none⟩)), .val (.pointer (some ⟨b, o, none⟩)), .val (.pointer (some ⟨b, o, none⟩)), .val (.pointer (some ⟨b, o + 15, none⟩)), .val (.pointer (some ⟨b, o + 17, none⟩)), .val (.int .i64 x), .val (.pointer (some ⟨b, o, none⟩)), .val (.pointer (some ⟨b, o, none⟩)), .val (.pointer (some ⟨b, o + 15, none⟩)), .val (.pointer (some ⟨b, o + 18, none⟩)), .val (.int .i64 G), .val (.agg #[.int .i64 x, .int .i64 G]), .val (.int .u64 (packH x G)), .val (.pointer (some ⟨b, o, none⟩)), .val (.pointer (some ⟨b, o + 22, none⟩)), .val (.pointer (some ⟨b, o + 23, none⟩))] (by kernel_rfl) Grown.refl Grown.trans (by decide) (by kernel_rfl) (by kernel_rfl) (by kernel_rfl) (by kernel_rfl) (by kernel_rfl) (by kernel_rfl) ?_
  simp only [List.take_succ_cons, List.take_zero, relyAll, Act.put, List.setIfInBounds_toArray, List.set_cons_zero, List.set_cons_succ]
  refine ⟨?_, ?_, ?_, ?_, ?_, ?_, ?_, ?_, ?_, ?_, ?_, ?_, ?_, ?_, ?_, ?_, ?_⟩
  · intro w' hg _
    refine Or.inl ⟨rfl, ?_⟩
    go_simp
    exact ⟨Grown.refl _, rfl⟩
  · intro w' hg _
    refine Or.inl ⟨rfl, ?_⟩
    go_simp
    exact ⟨Grown.refl _, rfl⟩
  · intro w' hg _
    refine Or.inl ⟨rfl, ?_⟩
    go_simp
    exact ⟨Grown.refl _, rfl⟩
  · intro w' hg _
    refine Or.inl ⟨rfl, ?_⟩
    go_simp
    exact ⟨Grown.refl _, rfl⟩
  · intro w' hg _
    refine Or.inl ⟨rfl, ?_⟩
    go_simp
    exact ⟨Grown.refl _, rfl⟩
  · intro w' hg _
    refine Or.inl ⟨rfl, ?_⟩
    have z := (i1.drew.grown hg).c_sl
    rw [HX.out] at z
    go_simp
    exact ⟨Grown.refl _, rfl⟩
  · intro w' hg _
    refine Or.inl ⟨rfl, ?_⟩
    go_simp
    exact ⟨Grown.refl _, rfl⟩
  · intro w' hg _
    refine Or.inl ⟨rfl, ?_⟩
    go_simp
    exact ⟨Grown.refl _, rfl⟩
  · intro w' hg _
    refine Or.inl ⟨rfl, ?_⟩
    go_simp
    exact ⟨Grown.refl _, rfl⟩
  · intro w' hg _
    refine Or.inl ⟨rfl, ?_⟩
    go_simp
    exact ⟨Grown.refl _, rfl⟩
  · intro w' hg _
    refine Or.inl ⟨rfl, ?_⟩
    have z := (i1.drew.grown hg).c_gn
    rw [HG.out] at z
    go_simp
    exact ⟨Grown.refl _, rfl⟩
  · intro w' hg _
    refine Or.inl ⟨rfl, ?_⟩
    go_simp
    exact ⟨Grown.refl _, rfl⟩
  · intro w' hg _
    refine Or.inl ⟨rfl, ?_⟩
    go_simp
    refine (putHandle_any x G _ ⟨by omega, by omega⟩ ⟨by omega, by omega⟩).mono ?_
    rintro e w'' ⟨rfl, b9⟩
    exact ⟨_, rfl, b9, rfl⟩
  · intro w' hg _
    refine Or.inl ⟨rfl, ?_⟩
    go_simp
    exact ⟨Grown.refl _, rfl⟩
  · intro w' hg _
    refine Or.inl ⟨rfl, ?_⟩
    go_simp
    exact ⟨Grown.refl _, rfl⟩
  · intro w' hg _
    refine Or.inl ⟨rfl, ?_⟩
    go_simp
    exact ⟨Grown.refl _, rfl⟩
  intro w7 hg _
  have m5 := m1.drew.below hg
  have i5 := i1.drew.grown hg
  have v5 := (v1.grown ((Below.refl _ _).drew)).grown hg
  have o5 : Only (L.and b) w w7 := o1.drew.trans (Only.ofGrown hg)
  clear hg m1 i1 v1 o1
  have k0 := i5.c_H
  have kf := i5.fz
  have i8 := i5.set_H (packH x G)
  have m8 := m5.setIn hb (o + 23) (.int .u64 (packH x G))
  have v8 := v5.setIn hbb (o + 23) (.int .u64 (packH x G))
  have o8 := o5.set (o + 23) (.int .u64 (packH x G))
  have z0 := v8.c0
  have z1 := v8.c1
  have z2 := v8.c2
  have z3 := v8.c3
  have z4 := v8.c4
  have z5 := v8.c5
  have z6 := v8.c6
  have z7 := v8.c7
  have z8 := v8.c8
  go_wp2_with (go_at_call 14; refine (now_any m8 _ _ _ _ _ _ _ _ st HS.out).mono ?_; rintro e w9 ⟨rfl, b9⟩; have i9 := i8.grown b9; have k1 := i9.c_St; have k2 := i9.c_nx; have kg := i9.fz)
  go_end0
  exact ⟨rfl, _, _, _, ((m8.below b9).setIn hb _ _).setIn hb _ _, ((o8.trans (Only.ofGrown b9)).set _ _).set _ _, (i9.set_St st).set_nx 6, ((Same.refl.set (by omega) _).set (by omega) _).set (by omega) _, rfl, rfl⟩

theorem agive_on {w : World} {L : Loc} {s : Mm} {b o : Nat} {T : TypeId} {cs : Array Value} {a : AV} {t n k m : Nat} {g p r : Int} (h : MemAt w L s) (hb : ¬ L.has b) (hi : AlAt w b o T cs a) (who : Int) {σ c : Nat} {lk : Nat → Nat} {F : List Nat} (hp : Pile t n s σ c lk F) (hσ : σ < 1000000) (ht8 : t ≤ 8) {x : Nat} (hx : x < n) (hF : x ∉ F) (γ : Gv) (hgv : γ.cells x a.gv) (hg : γ.good n c lk F x) (ho : γ.done = false) (c' : Nat) (lk' : Nat → Nat) (F' : List Nat) (γ' : Gv) (ht : gvTurn c lk F x γ = (c', lk', F', γ')) (hd : γ'.done = false) :
    Calls Tryz.prog 57 #[.pointer (some ⟨b, o, none⟩), .agg #[.int .i64 t, .int .i64 n, .int .i64 k, .int .i64 m, .int .i64 g, .int .i64 p, .int .i64 r, .pointer (some ⟨L.p, 0, none⟩), .int .i64 who]] w fun e w' => e = .returned (.tuple #[]) ∧ Acts L b o T cs w w' (fun s' a' => Pile t n s' (σ + 1) c' lk' F' ∧ (∃ v, s' = (s.by who).step (γ.at t x) v) ∧ γ'.good n c' lk' F' x ∧ ∃ l, γ'.cells x l ∧ a' = { a with gv := l }) := by
  have hbv : ¬ L.has w.heap.size := fun hh => by have := h.lt _ hh; omega
  have hbb : ¬ w.heap.size = b := fun hh => by have := hi.lt; omega
  have HT : Hid (gvTurn c lk F x γ = (c', lk', F', γ')) := ht
  have HO : Hid (γ.done = false) := ho
  clear ht ho
  go_enter Tryz.func57, Tryz.ntmps57
  go_wp2
  refine wp_over (fun W => MemAt W L s ∧ AlAt W b o T (cs) a ∧ BoxV W w.heap.size t n k m g p r L.p who ∧ Only (L.and b) w W) ⟨h.alloc _, hi.grown (grow_alloc (Below.refl _ _) _), BoxV.new, (Only.refl _ _).alloc _⟩ ?_
  rintro W ⟨m1, i1, v1, o1⟩
  refine wp_region_rely_tail Grown 4 [.val (.pointer (some ⟨b, o, none⟩)), .val (.pointer (some ⟨b, o, none⟩)), .val (.pointer (some ⟨b, o + 12, none⟩)), .val (.agg #[.int .i64 t, .int .i64 n, .int .i64 k, .int .i64 m, .int .i64 g, .int .i64 p, .int .i64 r, .pointer (some ⟨L.p, 0, none⟩), .int .i64 who])] (by kernel_rfl) Grown.refl Grown.trans (by decide) (by kernel_rfl) (by kernel_rfl) (by kernel_rfl) (by kernel_rfl) (by kernel_rfl) (by kernel_rfl) ?_
  simp only [List.take_succ_cons, List.take_zero, relyAll, Act.put, List.setIfInBounds_toArray, List.set_cons_zero, List.set_cons_succ]
  refine ⟨?_, ?_, ?_, ?_, ?_⟩
  · intro w' hg _
    refine Or.inl ⟨rfl, ?_⟩
    go_simp
    exact ⟨Grown.refl _, rfl⟩
  · intro w' hg _
    refine Or.inl ⟨rfl, ?_⟩
    go_simp
    exact ⟨Grown.refl _, rfl⟩
  · intro w' hg _
    refine Or.inl ⟨rfl, ?_⟩
    go_simp
    exact ⟨Grown.refl _, rfl⟩
  · intro w' hg _
    refine Or.inl ⟨rfl, ?_⟩
    have vv := (v1.grown ((Below.refl _ _).drew)).grown hg
    have y0 := vv.c0
    have y1 := vv.c1
    have y2 := vv.c2
    have y3 := vv.c3
    have y4 := vv.c4
    have y5 := vv.c5
    have y6 := vv.c6
    have y7 := vv.c7
    have y8 := vv.c8
    go_simp
    exact ⟨Grown.refl _, rfl⟩
  intro w5 hg _
  have m5 := m1.drew.below hg
  have i5 := i1.drew.grown hg
  have v5 := (v1.grown ((Below.refl _ _).drew)).grown hg
  have o5 : Only (L.and b) w w5 := o1.drew.trans (Only.ofGrown hg)
  clear hg m1 i1 v1 o1
  go_wp2_with (first
    | (go_at_call 72; refine (give_turn m5 hb hp hσ ht8 hx hF γ ⟨_, i5.gvAt, hgv⟩ hg HO.out _ _ _ _ _ _ c' lk' F' γ' HT.out false hd).mono ?_; rintro e w6 ⟨rfl, s6, cs6, P⟩; obtain ⟨l6, a6, q6⟩ := P.a; have i6 := i5.step_gv a6 (Gv.cells_len q6) P.same; have v6 := v5.only P.only (fun hh => hh.elim hbv hbb); have o6 := o5.trans P.only; have s6' : Same o 26 cs cs6 := P.same.wide (by omega) (by omega); have z0 := v6.c0; have z1 := v6.c1; have z2 := v6.c2; have z3 := v6.c3; have z4 := v6.c4; have z5 := v6.c5; have z6 := v6.c6; have z7 := v6.c7; have z8 := v6.c8))
  go_end0
  exact ⟨rfl, s6, cs6, _, P.m, o6, i6, s6', P.p, P.st, P.good, l6, q6, rfl⟩

theorem agive_over {w : World} {L : Loc} {s : Mm} {b o : Nat} {T : TypeId} {cs : Array Value} {a : AV} {t n k m : Nat} {g p r : Int} (h : MemAt w L s) (hb : ¬ L.has b) (hi : AlAt w b o T cs a) (who : Int) {σ c : Nat} {lk : Nat → Nat} {F : List Nat} (hp : Pile t n s σ c lk F) (hσ : σ < 1000000) (ht8 : t ≤ 8) {x : Nat} (hx : x < n) (hF : x ∉ F) (γ : Gv) (hgv : γ.cells x a.gv) (hg : γ.good n c lk F x) (ho : γ.done = false) (c' : Nat) (lk' : Nat → Nat) (F' : List Nat) (γ' : Gv) (ht : gvTurn c lk F x γ = (c', lk', F', γ')) (hd : γ'.done = true) :
    Calls Tryz.prog 57 #[.pointer (some ⟨b, o, none⟩), .agg #[.int .i64 t, .int .i64 n, .int .i64 k, .int .i64 m, .int .i64 g, .int .i64 p, .int .i64 r, .pointer (some ⟨L.p, 0, none⟩), .int .i64 who]] w fun e w' => e = .returned (.tuple #[]) ∧ Acts L b o T cs w w' (fun s' a' => Pile t n s' (σ + 1) c' lk' F' ∧ (∃ v, s' = (s.by who).step (γ.at t x) v) ∧ ∃ l, l.length = 3 ∧ a' = { a with gv := l, nx := 8, E := 6, H := 0, V := 0, St := ((σ + 1 : Nat) : Int) }) := by
  have hbv : ¬ L.has w.heap.size := fun hh => by have := h.lt _ hh; omega
  have hbb : ¬ w.heap.size = b := fun hh => by have := hi.lt; omega
  have HT : Hid (gvTurn c lk F x γ = (c', lk', F', γ')) := ht
  have HO : Hid (γ.done = false) := ho
  clear ht ho
  go_enter Tryz.func57, Tryz.ntmps57
  go_wp2
  refine wp_over (fun W => MemAt W L s ∧ AlAt W b o T (cs) a ∧ BoxV W w.heap.size t n k m g p r L.p who ∧ Only (L.and b) w W) ⟨h.alloc _, hi.grown (grow_alloc (Below.refl _ _) _), BoxV.new, (Only.refl _ _).alloc _⟩ ?_
  rintro W ⟨m1, i1, v1, o1⟩
  refine wp_region_rely_tail Grown 4 [.val (.pointer (some ⟨b, o, none⟩)), .val (.pointer (some ⟨b, o, none⟩)), .val (.pointer (some ⟨b, o + 12, none⟩)), .val (.agg #[.int .i64 t, .int .i64 n, .int .i64 k, .int .i64 m, .int .i64 g, .int .i64 p, .int .i64 r, .pointer (some ⟨L.p, 0, none⟩), .int .i64 who])] (by kernel_rfl) Grown.refl Grown.trans (by decide) (by kernel_rfl) (by kernel_rfl) (by kernel_rfl) (by kernel_rfl) (by kernel_rfl) (by kernel_rfl) ?_
  simp only [List.take_succ_cons, List.take_zero, relyAll, Act.put, List.setIfInBounds_toArray, List.set_cons_zero, List.set_cons_succ]
  refine ⟨?_, ?_, ?_, ?_, ?_⟩
  · intro w' hg _
    refine Or.inl ⟨rfl, ?_⟩
    go_simp
    exact ⟨Grown.refl _, rfl⟩
  · intro w' hg _
    refine Or.inl ⟨rfl, ?_⟩
    go_simp
    exact ⟨Grown.refl _, rfl⟩
  · intro w' hg _
    refine Or.inl ⟨rfl, ?_⟩
    go_simp
    exact ⟨Grown.refl _, rfl⟩
  · intro w' hg _
    refine Or.inl ⟨rfl, ?_⟩
    have vv := (v1.grown ((Below.refl _ _).drew)).grown hg
    have y0 := vv.c0
    have y1 := vv.c1
    have y2 := vv.c2
    have y3 := vv.c3
    have y4 := vv.c4
    have y5 := vv.c5
    have y6 := vv.c6
    have y7 := vv.c7
    have y8 := vv.c8
    go_simp
    exact ⟨Grown.refl _, rfl⟩
  intro w5 hg _
  have m5 := m1.drew.below hg
  have i5 := i1.drew.grown hg
  have v5 := (v1.grown ((Below.refl _ _).drew)).grown hg
  have o5 : Only (L.and b) w w5 := o1.drew.trans (Only.ofGrown hg)
  clear hg m1 i1 v1 o1
  go_wp2_with (first
    | (go_at_call 72; refine (give_turn m5 hb hp hσ ht8 hx hF γ ⟨_, i5.gvAt, hgv⟩ hg HO.out _ _ _ _ _ _ c' lk' F' γ' HT.out true hd).mono ?_; rintro e w6 ⟨rfl, s6, cs6, P⟩; obtain ⟨l6, a6, q6⟩ := P.a; have i6 := i5.step_gv a6 (Gv.cells_len q6) P.same; have v6 := v5.only P.only (fun hh => hh.elim hbv hbb); have o6 := o5.trans P.only; have s6' : Same o 26 cs cs6 := P.same.wide (by omega) (by omega); have z0 := v6.c0; have z1 := v6.c1; have z2 := v6.c2; have z3 := v6.c3; have z4 := v6.c4; have z5 := v6.c5; have z6 := v6.c6; have z7 := v6.c7; have z8 := v6.c8)
    | (go_at_call 77; refine (arefuse P.m hb i6 _ _ (σ + 1) P.p.st).mono ?_; rintro e w8 ⟨rfl, s8, cs8, a8, m8, o8, i8, q8, rfl, rfl⟩))
  go_end0
  exact ⟨rfl, _, cs8, _, m8, o6.trans o8, i8, s6'.trans q8, P.p, P.st, l6, Gv.cells_len q6, rfl⟩

end Go.Proofs.YtcdmokbamakomaaGreat
