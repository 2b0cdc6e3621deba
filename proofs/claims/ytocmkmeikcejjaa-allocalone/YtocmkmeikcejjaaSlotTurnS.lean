/- One who takes, and one who gives, a slot, beside others: what each knows of the free slots, and what a step comes to. -/
import Derived.Test.YtocmkmeikcejjaaSlotStepS
namespace Go.Proofs.Ytocmkmeikcejjaa
open Go.RowKit

/-- one who takes: what was loaded -/
inductive Tk where
  | idle
  | saw (h c : Nat)
  | lnk (h c q : Nat)
  | won (h : Nat)
  | none

/-- one who takes is done -/
def Tk.over : Tk → Bool
  | .won _ => true
  | .none => true
  | _ => false

/-- the cells of one who takes -/
def Tk.cells : Tk → List Value → Prop
  | .idle, l => ∃ tp sl bh, l = TkV 0 tp sl bh
  | .saw h c, l => ∃ bh, l = TkV 1 (topw (h + 1) c) h bh
  | .lnk h c q, l => l = TkV 2 (topw (h + 1) c) h ((q : Int) - 1)
  | .won h, l => ∃ tp bh, l = TkV 3 tp h bh
  | .none, l => ∃ tp sl bh, l = TkV 4 tp sl bh

/-- what one who takes knows of the free slots -/
def Tk.good (n c : Nat) (lk : Nat → Nat) (F : List Nat) : Tk → Prop
  | .idle => True
  | .saw h c' => h < n ∧ c' ≤ c ∧ (c' = c → hd F = h + 1)
  | .lnk h c' q => h < n ∧ q ≤ n ∧ c' ≤ c ∧ (c' = c → hd F = h + 1 ∧ q = lk h)
  | .won h => h < n
  | .none => True

/-- what a step of one who takes comes to -/
inductive TkStep (n c : Nat) (lk : Nat → Nat) : List Nat → Tk → Nat → List Nat → Tk → Prop where
  | none : TkStep n c lk [] .idle c [] .none
  | saw (x : Nat) (F : List Nat) (hx : x < n) : TkStep n c lk (x :: F) .idle c (x :: F) (.saw x c)
  | link (F : List Nat) (h c' : Nat) : TkStep n c lk F (.saw h c') c F (.lnk h c' (lk h))
  | took (x : Nat) (F : List Nat) (hx : x < n) : TkStep n c lk (x :: F) (.lnk x c (lk x)) (c + 1) F (.won x)
  | vain (F : List Nat) (h c' q : Nat) (hc : c' < c) : TkStep n c lk F (.lnk h c' q) c F .idle

/-- where one who takes lies -/
def TkAt (w : World) (b o : Nat) (T : TypeId) (c : Array Value) (τ : Tk) : Prop := ∃ l, At w b o T c l ∧ τ.cells l

/-- one who gives: what was loaded -/
inductive Gv where
  | idle
  | saw (h c : Nat)
  | lnk (h c : Nat)
  | over

def Gv.cells (x : Nat) : Gv → List Value → Prop
  | .idle, l => ∃ tp, l = GvV 0 x tp
  | .saw h c, l => l = GvV 1 x (topw h c)
  | .lnk h c, l => l = GvV 2 x (topw h c)
  | .over, l => ∃ tp, l = GvV 3 x tp

/-- what one who gives x knows of the free slots -/
def Gv.good (n c : Nat) (lk : Nat → Nat) (F : List Nat) (x : Nat) : Gv → Prop
  | .idle => True
  | .saw h c' => h ≤ n ∧ c' ≤ c ∧ (c' = c → hd F = h)
  | .lnk h c' => h ≤ n ∧ lk x = h ∧ c' ≤ c ∧ (c' = c → hd F = h)
  | .over => True

/-- what a step of one who gives x comes to -/
inductive GvStep (n c : Nat) (x : Nat) : (Nat → Nat) → List Nat → Gv → Nat → (Nat → Nat) → List Nat → Gv → Prop where
  | load (lk : Nat → Nat) (F : List Nat) : GvStep n c x lk F .idle c lk F (.saw (hd F) c)
  | lay (lk : Nat → Nat) (F : List Nat) (h c' : Nat) : GvStep n c x lk F (.saw h c') c (upd lk x h) F (.lnk h c')
  | gave (lk : Nat → Nat) (F : List Nat) : GvStep n c x lk F (.lnk (hd F) c) (c + 1) lk (x :: F) .over
  | vain (lk : Nat → Nat) (F : List Nat) (h c' : Nat) (hc : c' < c) : GvStep n c x lk F (.lnk h c') c lk F .idle

def Gv.done : Gv → Bool
  | .over => true
  | _ => false

def GvAt (w : World) (b o : Nat) (T : TypeId) (c : Array Value) (x : Nat) (γ : Gv) : Prop := ∃ l, At w b o T c l ∧ γ.cells x l

theorem TkAt.of_block {w w' : World} {b o : Nat} {T : TypeId} {c : Array Value} {τ : Tk} (h : TkAt w b o T c τ) (e : w'.heap[b]? = w.heap[b]?) : TkAt w' b o T c τ := h.imp fun _ k => ⟨k.1.of_block e, k.2⟩
theorem GvAt.of_block {w w' : World} {b o : Nat} {T : TypeId} {c : Array Value} {x : Nat} {γ : Gv} (h : GvAt w b o T c x γ) (e : w'.heap[b]? = w.heap[b]?) : GvAt w' b o T c x γ := h.imp fun _ k => ⟨k.1.of_block e, k.2⟩
theorem TkAt.lt {w : World} {b o : Nat} {T : TypeId} {c : Array Value} {τ : Tk} (h : TkAt w b o T c τ) : b < w.heap.size := by obtain ⟨_, k, _⟩ := h; exact k.lt
theorem GvAt.lt {w : World} {b o : Nat} {T : TypeId} {c : Array Value} {x : Nat} {γ : Gv} (h : GvAt w b o T c x γ) : b < w.heap.size := by obtain ⟨_, k, _⟩ := h; exact k.lt

/-- the word that the next step of one who takes touches: the first free slot's, or a link -/
def Tk.at (t : Nat) : Tk → Nat
  | .saw h _ => 6 + t + h * 2 + 1
  | _ => 1

/-- the word that the next step of one who gives x touches -/
def Gv.at (t x : Nat) : Gv → Nat
  | .saw _ _ => 6 + t + x * 2 + 1
  | _ => 1

section
variable {w : World} {L : Loc} {s : Mm} {b o : Nat} {T : TypeId} {cs : Array Value} {t n σ c : Nat} {lk : Nat → Nat} {F : List Nat}

/-- what a step of one who takes leaves -/
structure Took (w : World) (L : Loc) (s : Mm) (b o : Nat) (T : TypeId) (cs : Array Value) (t n σ c : Nat) (lk : Nat → Nat) (F : List Nat) (who : Int) (τ : Tk) (w' : World) (s' : Mm) (cs' : Array Value) (c' : Nat) (F' : List Nat) (τ' : Tk) : Prop where
  turn : TkStep n c lk F τ c' F' τ'
  m : MemAt w' L s'
  p : Pile t n s' (σ + 1) c' lk F'
  a : TkAt w' b o T cs' τ'
  same : Same o 4 cs cs'
  only : Only (L.and b) w w'
  good : τ'.good n c' lk F'
  at1 : s'.la = ((τ.at t : Nat) : Int)
  still : F = [] → τ = .idle → s'.wd = s.wd
  len : s'.n = s.n
  st : ∃ v, s' = (s.by who).step (τ.at t) v

theorem take_step (h : MemAt w L s) (hb : ¬ L.has b) (hp : Pile t n s σ c lk F) (hσ : σ < 1000000) (ht8 : t ≤ 8) (τ : Tk) (hi : TkAt w b o T cs τ) (hg : τ.good n c lk F) (ho : τ.over = false) (c2 c3 c4 c5 c6 who : Int) :
    Calls Try.prog 46 #[.pointer (some ⟨b, o, none⟩), .agg #[.int .i64 t, .int .i64 n, .int .i64 c2, .int .i64 c3, .int .i64 c4, .int .i64 c5, .int .i64 c6, .pointer (some ⟨L.p, 0, none⟩), .int .i64 who]] w fun e w' => ∃ s' cs' c' F' τ', e = .returned (.bool τ'.over) ∧ Took w L s b o T cs t n σ c lk F who τ w' s' cs' c' F' τ' := by
  have hn : 1 < s.n := by have := hp.len; omega
  have hC : c ≤ 1000000 := by have := hp.cs; omega
  have hbig := hp.big
  obtain ⟨l, ha, hl⟩ := hi
  cases τ with
  | won _ => cases ho
  | none => cases ho
  | idle =>
    obtain ⟨tp, sl, bh, rfl⟩ := hl
    cases F with
    | nil =>
      refine (tstep_none h hb ha _ _ _ _ _ _ _ _ c hn hp.top hC).mono ?_
      rintro e w' ⟨rfl, cs', m, a, sm, on⟩
      exact ⟨_, cs', c, [], .none, rfl, .none, m, hp.same hσ who 1, ⟨_, a, _, _, _, rfl⟩, sm, on, trivial, rfl, fun _ _ => upd_id _ _, rfl, _, rfl⟩
    | cons x F =>
      have hx := hp.lt x (by simp)
      refine (tstep_some h hb ha _ _ _ _ _ _ _ _ x c hn hp.top hC (by omega) (by omega)).mono ?_
      rintro e w' ⟨rfl, cs', m, a, sm, on⟩
      exact ⟨_, cs', c, x :: F, .saw x c, rfl, .saw x F hx, m, hp.same hσ who 1, ⟨_, a, _, rfl⟩, sm, on, ⟨hx, Nat.le_refl _, fun _ => rfl⟩, rfl, (fun h => by cases h), rfl, _, rfl⟩
  | saw x c0 =>
    obtain ⟨bh, rfl⟩ := hl
    obtain ⟨hx, hc0, hh⟩ := hg
    have hlk := hp.lkle x hx
    refine (tstep_link h hb ha _ _ _ _ _ _ _ _ (lk x) (6 + t + x * 2 + 1) (by omega) (by omega) (by omega) (by omega) (by have := hp.len; omega) (hp.lkv x hx) (by omega)).mono ?_
    rintro e w' ⟨rfl, cs', m, a, sm, on⟩
    exact ⟨_, cs', c, F, .lnk x c0 (lk x), rfl, .link F x c0, m, hp.same hσ who _, ⟨_, a, rfl⟩, sm, on, ⟨hx, hlk, hc0, fun e => ⟨hh e, rfl⟩⟩, rfl, (fun _ h => by cases h), rfl, _, rfl⟩
  | lnk x c0 q =>
    have hl' : l = TkV 2 (topw (x + 1) c0) x ((q : Int) - 1) := hl
    subst hl'
    obtain ⟨hx, hq, hc0, hh⟩ := hg
    have hd1 := hp.hdle
    by_cases hc : c0 = c
    · subst hc
      obtain ⟨hd2, rfl⟩ := hh rfl
      cases F with
      | nil => simp [hd] at hd2
      | cons y F =>
        obtain rfl : y = x := by simpa [hd] using hd2
        refine (tstep_swap h hb (y + 1) c0 (lk y) ha _ _ _ _ _ _ _ _ hn (by omega) hC (by omega) (Or.inl ⟨hp.top, rfl, rfl, rfl⟩)).mono ?_
        rintro e w' ⟨rfl, cs', m, a, sm, on⟩
        exact ⟨_, cs', c0 + 1, F, .won y, rfl, .took y F hx, m, hp.pop hσ who, ⟨_, a, _, _, rfl⟩, sm, on, hx, rfl, (fun h => by cases h), rfl, _, rfl⟩
    · have hlt : c0 < c := by omega
      have hne : ¬ s.wd 1 = topw (x + 1) c0 := fun e => by
        rw [hp.top] at e
        have := (topw_inj (by omega) (by omega) e).2
        omega
      refine (tstep_swap h hb (x + 1) c0 q ha _ _ _ _ _ _ _ _ hn (by omega) (by omega) (by omega) (Or.inr ⟨hne, rfl, rfl, rfl⟩)).mono ?_
      rintro e w' ⟨rfl, cs', m, a, sm, on⟩
      exact ⟨_, cs', c, F, .idle, rfl, .vain F x c0 q hlt, m, hp.same hσ who 1, ⟨_, a, _, _, _, rfl⟩, sm, on, trivial, rfl, (fun _ h => by cases h), rfl, _, rfl⟩

/-- what a step of one who gives leaves -/
structure Gave (w : World) (L : Loc) (s : Mm) (b o : Nat) (T : TypeId) (cs : Array Value) (t n σ c : Nat) (lk : Nat → Nat) (F : List Nat) (x : Nat) (who : Int) (γ : Gv) (w' : World) (s' : Mm) (cs' : Array Value) (c' : Nat) (lk' : Nat → Nat) (F' : List Nat) (γ' : Gv) : Prop where
  turn : GvStep n c x lk F γ c' lk' F' γ'
  m : MemAt w' L s'
  p : Pile t n s' (σ + 1) c' lk' F'
  a : GvAt w' b o T cs' x γ'
  same : Same o 3 cs cs'
  only : Only (L.and b) w w'
  good : γ'.good n c' lk' F' x
  len : s'.n = s.n
  st : ∃ v, s' = (s.by who).step (γ.at t x) v

theorem give_step (h : MemAt w L s) (hb : ¬ L.has b) (hp : Pile t n s σ c lk F) (hσ : σ < 1000000) (ht8 : t ≤ 8) {x : Nat} (hx : x < n) (hF : x ∉ F) (γ : Gv) (hi : GvAt w b o T cs x γ) (hg : γ.good n c lk F x) (ho : γ.done = false) (c2 c3 c4 c5 c6 who : Int) :
    Calls Try.prog 59 #[.pointer (some ⟨b, o, none⟩), .agg #[.int .i64 t, .int .i64 n, .int .i64 c2, .int .i64 c3, .int .i64 c4, .int .i64 c5, .int .i64 c6, .pointer (some ⟨L.p, 0, none⟩), .int .i64 who]] w fun e w' => ∃ s' cs' c' lk' F' γ', e = .returned (.bool γ'.done) ∧ Gave w L s b o T cs t n σ c lk F x who γ w' s' cs' c' lk' F' γ' := by
  have hn : 1 < s.n := by have := hp.len; omega
  have hC : c ≤ 1000000 := by have := hp.cs; omega
  have hbig := hp.big
  have hd1 := hp.hdle
  obtain ⟨l, ha, hl⟩ := hi
  cases γ with
  | over => cases ho
  | idle =>
    obtain ⟨tp, rfl⟩ := hl
    refine (gstep_load h hb ha _ _ _ _ _ _ _ _ (hd F) c hn (by omega) hp.top).mono ?_
    rintro e w' ⟨rfl, cs', m, a, sm, on⟩
    exact ⟨_, cs', c, lk, F, .saw (hd F) c, rfl, .load lk F, m, hp.same hσ who 1, ⟨_, a, rfl⟩, sm, on, ⟨hd1, Nat.le_refl _, fun _ => rfl⟩, rfl, _, rfl⟩
  | saw q c0 =>
    have hl' : l = GvV 1 x (topw q c0) := hl
    subst hl'
    obtain ⟨hq, hc0, hh⟩ := hg
    refine (gstep_lay h hb q c0 (6 + t + x * 2 + 1) ha _ _ _ _ _ _ _ _ (by omega) (by omega) (by omega) (by omega) (by have := hp.len; omega) (by omega) (by omega) (by omega)).mono ?_
    rintro e w' ⟨rfl, cs', m, a, sm, on⟩
    exact ⟨_, cs', c, upd lk x q, F, .lnk q c0, rfl, .lay lk F q c0, m, hp.lay hσ who hx hF q hq, ⟨_, a, rfl⟩, sm, on, ⟨hq, upd_same _ _ _, hc0, hh⟩, rfl, _, rfl⟩
  | lnk q c0 =>
    have hl' : l = GvV 2 x (topw q c0) := hl
    subst hl'
    obtain ⟨hq, hlk, hc0, hh⟩ := hg
    by_cases hc : c0 = c
    · subst hc
      have hd2 := hh rfl
      subst hd2
      refine (gstep_swap h hb (hd F) c0 ha _ _ _ _ _ _ _ _ hn (by omega) (by omega) (by omega) hC (Or.inl ⟨hp.top, rfl, rfl, rfl⟩)).mono ?_
      rintro e w' ⟨rfl, cs', m, a, sm, on⟩
      exact ⟨_, cs', c0 + 1, lk, x :: F, .over, rfl, .gave lk F, m, hp.push hσ who hx hF hlk, ⟨_, a, _, rfl⟩, sm, on, trivial, rfl, _, rfl⟩
    · have hlt : c0 < c := by omega
      have hne : ¬ s.wd 1 = topw q c0 := fun e => by
        rw [hp.top] at e
        have := (topw_inj (by omega) (by omega) e).2
        omega
      refine (gstep_swap h hb q c0 ha _ _ _ _ _ _ _ _ hn (by omega) (by omega) (by omega) (by omega) (Or.inr ⟨hne, rfl, rfl, rfl⟩)).mono ?_
      rintro e w' ⟨rfl, cs', m, a, sm, on⟩
      exact ⟨_, cs', c, lk, F, .idle, rfl, .vain lk F q c0 hlt, m, hp.same hσ who 1, ⟨_, a, _, rfl⟩, sm, on, trivial, rfl, _, rfl⟩

theorem slot_won {τ : Tk} (hi : TkAt w b o T cs τ) (x : Nat) (hx : τ = .won x) :
    Calls Try.prog 47 #[.pointer (some ⟨b, o, none⟩)] w fun e w' => e = .returned (.tuple #[.int .i64 x, .bool true]) ∧ w' = w := by
  subst hx
  obtain ⟨l, ha, tp, bh, rfl⟩ := hi
  have k0 := ha.cell0 rfl
  have k2 := ha.cell 2 rfl
  go_enter Try.func47, Try.ntmps47
  go_wp2
  go_ret2
  exact ⟨rfl, rfl⟩

theorem slot_none {τ : Tk} (hi : TkAt w b o T cs τ) (hx : τ = .none) :
    Calls Try.prog 47 #[.pointer (some ⟨b, o, none⟩)] w fun e w' => e = .returned (.tuple #[.int .i64 0, .bool false]) ∧ w' = w := by
  subst hx
  obtain ⟨l, ha, tp, sl, bh, rfl⟩ := hi
  have k0 := ha.cell0 rfl
  go_enter Try.func47, Try.ntmps47
  go_wp2
  go_ret2
  exact ⟨rfl, rfl⟩

theorem slot_nobody (w : World) :
    Calls Try.prog 47 #[.pointer none] w fun e w' => e = .returned (.tuple #[.int .i64 0, .bool false]) ∧ w' = w := by
  go_enter Try.func47, Try.ntmps47
  go_wp2
  go_ret2
  exact ⟨rfl, rfl⟩

theorem newGive_any (x : Nat) (w : World) :
    Calls Try.prog 52 #[.int .i64 x] w fun e w' => e = .returned (.pointer (some ⟨w.heap.size, 0, none⟩)) ∧ w' = w.alloc (.cells #[.int .i64 0, .int .i64 x, .int .u64 0] 81) := by
  go_enter Try.func52, Try.ntmps52
  go_wp2
  go_ret
  exact ⟨rfl, rfl⟩

theorem take0 (w : World) : TkAt (w.alloc (.cells #[.int .i64 0, .int .u64 0, .int .i64 0, .int .i64 0] 75)) w.heap.size 0 75 #[.int .i64 0, .int .u64 0, .int .i64 0, .int .i64 0] .idle :=
  ⟨TkV 0 0 0 0, At.new w _ (TkV 0 0 0 0), 0, 0, 0, rfl⟩

theorem give0 (w : World) (x : Nat) : GvAt (w.alloc (.cells #[.int .i64 0, .int .i64 x, .int .u64 0] 81)) w.heap.size 0 81 #[.int .i64 0, .int .i64 x, .int .u64 0] x .idle :=
  ⟨GvV 0 x 0, At.new w _ (GvV 0 x 0), 0, rfl⟩

end

end Go.Proofs.Ytocmkmeikcejjaa
