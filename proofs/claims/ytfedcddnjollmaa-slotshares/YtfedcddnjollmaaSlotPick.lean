/- A step of the picked one of three who take and give slots: whether it is done, and what is true behind it. -/
import Derived.Test.YtfedcddnjollmaaSlotCrew
namespace Go.Proofs.Ytfedcddnjollmaa
open Go.RowKit

/-- will the next step of one who takes be the last? -/
def Tk.ends (c : Nat) (F : List Nat) : Tk → Bool
  | .idle => decide (F = [])
  | .lnk _ c0 _ => decide (c0 = c)
  | _ => false

/-- will the next step of one who gives be the last? -/
def Gv.ends (c : Nat) : Gv → Bool
  | .lnk _ c0 => decide (c0 = c)
  | _ => false

theorem TkStep.ends {n c : Nat} {lk : Nat → Nat} {F : List Nat} {τ : Tk} {c' : Nat} {F' : List Nat} {τ' : Tk} (h : TkStep n c lk F τ c' F' τ') : τ'.over = τ.ends c F := by
  cases h with
  | none => simp [Tk.over, Tk.ends]
  | saw => simp [Tk.over, Tk.ends]
  | link => simp [Tk.over, Tk.ends]
  | took => simp [Tk.over, Tk.ends]
  | vain => simp [Tk.over, Tk.ends]; omega

theorem GvStep.ends {n c x : Nat} {lk lk' : Nat → Nat} {F : List Nat} {γ : Gv} {c' : Nat} {F' : List Nat} {γ' : Gv} (h : GvStep n c x lk F γ c' lk' F' γ') : γ'.done = γ.ends c := by
  cases h with
  | load => simp [Gv.done, Gv.ends]
  | lay => simp [Gv.done, Gv.ends]
  | gave => simp [Gv.done, Gv.ends]
  | vain => simp [Gv.done, Gv.ends]; omega

section
variable {w0 w : World} {L : Loc} {bE bA n σ c b : Nat} {s : Mm} {lk : Nat → Nat} {F : List Nat} {θ : Nat → Th} {K : Nat} {τ : Tk}

theorem CrewAt.stepTake (h : CrewAt w0 w L bE bA n s σ c lk F θ) (p : CrewApart w0 L bE bA) (hc : Crew n c lk F θ) (hK : K < 3) (hθ : θ K = .take b τ) (hσ : σ < 1000000) :
    Calls Try.prog 13 #[.pointer (some ⟨b, 0, none⟩), .agg #[.int .i64 4, .int .i64 n, .int .i64 1, .int .i64 20, .int .i64 100, .int .i64 600, .int .i64 3, .pointer (some ⟨L.p, 0, none⟩), .int .i64 0]] w fun e w' => ∃ s' c' F' τ', e = .returned (.bool (τ.ends c F)) ∧ TkStep n c lk F τ c' F' τ' ∧ τ'.good n c' lk F' ∧ CrewAt w0 w' L bE bA n s' (σ + 1) c' lk F' (upd θ K (.take b τ')) ∧ Only (L.and b) w w' := by
  have hk := hc.ok K hK
  have ha := h.th K hK
  have hl := h.al K hK
  rw [hθ] at hk ha hl
  obtain ⟨cs, ha⟩ := ha
  refine (take_step h.f.m hl h.f.p hσ (by omega) τ ha hk.1 hk.2 1 20 100 600 3 0).mono ?_
  rintro e w' ⟨s', cs', c', F', τ', rfl, T⟩
  have on : Only (L.and (θ K).b) w w' := by rw [hθ]; exact T.only
  exact ⟨s', c', F', τ', by rw [T.turn.ends], T.turn, T.good, h.step p hK (.take b τ') (by rw [hθ]; rfl) (by rw [hθ]; rfl) (by rw [hθ]; rfl) (by rw [hθ]; rfl) on T.m T.p ⟨cs', T.a⟩, T.only⟩

theorem CrewAt.takeOn (h : CrewAt w0 w L bE bA n s σ c lk F θ) (p : CrewApart w0 L bE bA) (hc : Crew n c lk F θ) (hK : K < 3) (hθ : θ K = .take b τ) (hσ : σ < 1000000) (he : τ.ends c F = false) :
    Calls Try.prog 13 #[.pointer (some ⟨b, 0, none⟩), .agg #[.int .i64 4, .int .i64 n, .int .i64 1, .int .i64 20, .int .i64 100, .int .i64 600, .int .i64 3, .pointer (some ⟨L.p, 0, none⟩), .int .i64 0]] w fun e w' => e = .returned (.bool false) ∧ ∃ s' c' F' τ', Crew n c' lk F' (upd θ K (.take b τ')) ∧ CrewAt w0 w' L bE bA n s' (σ + 1) c' lk F' (upd θ K (.take b τ')) ∧ Only (L.and b) w w' := by
  refine (h.stepTake p hc hK hθ hσ).mono ?_
  rintro e w' ⟨s', c', F', τ', rfl, t, g, a, o⟩
  exact ⟨by rw [he], s', c', F', τ', hc.take hK hθ t g (by rw [t.ends, he]), a, o⟩

theorem CrewAt.takeNone (h : CrewAt w0 w L bE bA n s σ c lk F θ) (p : CrewApart w0 L bE bA) (hc : Crew n c lk F θ) (hK : K < 3) (hθ : θ K = .take b .idle) (hσ : σ < 1000000) (he : F = []) :
    Calls Try.prog 13 #[.pointer (some ⟨b, 0, none⟩), .agg #[.int .i64 4, .int .i64 n, .int .i64 1, .int .i64 20, .int .i64 100, .int .i64 600, .int .i64 3, .pointer (some ⟨L.p, 0, none⟩), .int .i64 0]] w fun e w' => e = .returned (.bool true) ∧ ∃ s', (∀ b2, Crew n c lk F (upd θ K (.take b2 .idle))) ∧ CrewAt w0 w' L bE bA n s' (σ + 1) c lk F (upd θ K (.take b .none)) ∧ Only (L.and b) w w' := by
  refine (h.stepTake p hc hK hθ hσ).mono ?_
  rintro e w' ⟨s', c', F', τ', rfl, t, g, a, o⟩
  subst he
  cases t with
  | none => exact ⟨rfl, s', fun b2 => hc.takeNone hK hθ .none, a, o⟩

theorem CrewAt.takeWon {x q : Nat} (h : CrewAt w0 w L bE bA n s σ c lk F θ) (p : CrewApart w0 L bE bA) (hc : Crew n c lk F θ) (hK : K < 3) (hθ : θ K = .take b (.lnk x c q)) (hσ : σ < 1000000) :
    Calls Try.prog 13 #[.pointer (some ⟨b, 0, none⟩), .agg #[.int .i64 4, .int .i64 n, .int .i64 1, .int .i64 20, .int .i64 100, .int .i64 600, .int .i64 3, .pointer (some ⟨L.p, 0, none⟩), .int .i64 0]] w fun e w' => e = .returned (.bool true) ∧ ∃ s' c' F', (∀ b2, Crew n c' lk F' (upd θ K (.give b2 x .idle))) ∧ (∀ j, j < 3 → ¬ (θ j).has x) ∧ CrewAt w0 w' L bE bA n s' (σ + 1) c' lk F' (upd θ K (.take b (.won x))) ∧ Only (L.and b) w w' := by
  have hk := hc.ok K hK
  rw [hθ] at hk
  refine (h.stepTake p hc hK hθ hσ).mono ?_
  rintro e w' ⟨s', c', F', τ', rfl, t, g, a, o⟩
  have ho := t.ends
  cases t with
  | took _ _ hx =>
    have t' : TkStep n c lk (x :: F') (.lnk x c (lk x)) (c + 1) F' (.won x) := .took x F' hx
    exact ⟨by simp [Tk.ends], s', c + 1, F', fun b2 => hc.took h.f.p.nd hK hθ hx t', (hc.won hθ t').1, a, o⟩
  | vain => omega

variable {x : Nat} {γ : Gv}

theorem CrewAt.stepGive (h : CrewAt w0 w L bE bA n s σ c lk F θ) (p : CrewApart w0 L bE bA) (hc : Crew n c lk F θ) (hK : K < 3) (hθ : θ K = .give b x γ) (hσ : σ < 1000000) :
    Calls Try.prog 12 #[.pointer (some ⟨b, 0, none⟩), .agg #[.int .i64 4, .int .i64 n, .int .i64 1, .int .i64 20, .int .i64 100, .int .i64 600, .int .i64 3, .pointer (some ⟨L.p, 0, none⟩), .int .i64 0]] w fun e w' => ∃ s' c' lk' F' γ', e = .returned (.bool (γ.ends c)) ∧ GvStep n c x lk F γ c' lk' F' γ' ∧ γ'.good n c' lk' F' x ∧ CrewAt w0 w' L bE bA n s' (σ + 1) c' lk' F' (upd θ K (.give b x γ')) ∧ Only (L.and b) w w' := by
  have hk := hc.ok K hK
  have ha := h.th K hK
  have hl := h.al K hK
  rw [hθ] at hk ha hl
  obtain ⟨cs, ha⟩ := ha
  refine (give_step h.f.m hl h.f.p hσ (by omega) hk.1 hk.2.1 γ ha hk.2.2.1 hk.2.2.2 1 20 100 600 3 0).mono ?_
  rintro e w' ⟨s', cs', c', lk', F', γ', rfl, T⟩
  have on : Only (L.and (θ K).b) w w' := by rw [hθ]; exact T.only
  exact ⟨s', c', lk', F', γ', by rw [T.turn.ends], T.turn, T.good, h.step p hK (.give b x γ') (by rw [hθ]; rfl) (by rw [hθ]; rfl) (by rw [hθ]; rfl) (by rw [hθ]; rfl) on T.m T.p ⟨cs', T.a⟩, T.only⟩

theorem CrewAt.giveOn (h : CrewAt w0 w L bE bA n s σ c lk F θ) (p : CrewApart w0 L bE bA) (hc : Crew n c lk F θ) (hK : K < 3) (hθ : θ K = .give b x γ) (hσ : σ < 1000000) (he : γ.ends c = false) :
    Calls Try.prog 12 #[.pointer (some ⟨b, 0, none⟩), .agg #[.int .i64 4, .int .i64 n, .int .i64 1, .int .i64 20, .int .i64 100, .int .i64 600, .int .i64 3, .pointer (some ⟨L.p, 0, none⟩), .int .i64 0]] w fun e w' => e = .returned (.bool false) ∧ ∃ s' c' lk' F' γ', GvStep n c x lk F γ c' lk' F' γ' ∧ Crew n c' lk' F' (upd θ K (.give b x γ')) ∧ CrewAt w0 w' L bE bA n s' (σ + 1) c' lk' F' (upd θ K (.give b x γ')) ∧ Only (L.and b) w w' := by
  refine (h.stepGive p hc hK hθ hσ).mono ?_
  rintro e w' ⟨s', c', lk', F', γ', rfl, t, g, a, o⟩
  exact ⟨by rw [he], s', c', lk', F', γ', t, hc.give hK hθ t g (by rw [t.ends, he]), a, o⟩

theorem CrewAt.giveDone (h : CrewAt w0 w L bE bA n s σ c lk F θ) (p : CrewApart w0 L bE bA) (hc : Crew n c lk F θ) (hK : K < 3) (hθ : θ K = .give b x γ) (hσ : σ < 1000000) (he : γ.ends c = true) :
    Calls Try.prog 12 #[.pointer (some ⟨b, 0, none⟩), .agg #[.int .i64 4, .int .i64 n, .int .i64 1, .int .i64 20, .int .i64 100, .int .i64 600, .int .i64 3, .pointer (some ⟨L.p, 0, none⟩), .int .i64 0]] w fun e w' => e = .returned (.bool true) ∧ ∃ s' c' lk' F' γ', (∀ t : Th, t.ok n c' lk' F' → t.g = 0 → (∀ y, ¬ t.has y) → Crew n c' lk' F' (upd θ K t)) ∧ CrewAt w0 w' L bE bA n s' (σ + 1) c' lk' F' (upd θ K (.give b x γ')) ∧ Only (L.and b) w w' := by
  refine (h.stepGive p hc hK hθ hσ).mono ?_
  rintro e w' ⟨s', c', lk', F', γ', rfl, t, g, a, o⟩
  exact ⟨by rw [he], s', c', lk', F', γ', fun q h1 h2 h3 => hc.gave hK hθ t (by rw [t.ends, he]) q h1 h2 h3, a, o⟩

end

theorem upd_upd {α : Type} (f : Nat → α) (K : Nat) (a b : α) : upd (upd f K a) K b = upd f K b := by
  funext i; unfold upd; split <;> rfl

end Go.Proofs.Ytfedcddnjollmaa
