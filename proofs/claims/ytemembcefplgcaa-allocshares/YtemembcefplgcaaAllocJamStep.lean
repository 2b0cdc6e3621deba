/- Three who make objects: what a step of the picked one leaves true (no program in it). -/
import Derived.Test.YtemembcefplgcaaAllocJam
namespace Go.Proofs.Ytemembcefplgcaa
open Go.RowKit

theorem Al.has_out {n κ σ x : Nat} {q : Q} {α : Al} (h : α.good 4 n 6 20 κ σ q) (hx : α.has x) : x < n ∧ x ∉ q.F := by
  cases α with
  | take τ => exact hx.elim
  | over E H st => exact hx.elim
  | ask y => obtain rfl : y = x := hx; exact h
  | place y g τ => obtain rfl : y = x := hx; exact ⟨h.1, h.2.1⟩
  | count y g a i => obtain rfl : y = x := hx; exact ⟨h.1, h.2.1⟩
  | head y g a i => obtain rfl : y = x := hx; exact ⟨h.1, h.2.1⟩
  | shw y g a i => obtain rfl : y = x := hx; exact ⟨h.1, h.2.1⟩
  | ready y g a i st => obtain rfl : y = x := hx; exact ⟨h.1, h.2.1⟩
  | give y g γ => obtain rfl : y = x := hx; exact ⟨h.1, h.2.1⟩

theorem Wh.has_out {n σ x : Nat} {q : Q} {ow : Nat → Nat} {t : Wh} (h : t.ok n q σ ow) (hx : t.has x) : x < n ∧ x ∉ q.F := by
  cases t with
  | nil => exact hx.elim
  | «at» b Z κ α => exact Al.has_out h.1 hx

theorem us_turn {κ σ : Nat} {bs : Nat → Nat} {y : Y} {τ : Pl} (hg : τ.good 6 20 κ σ) (hu : ∀ i, i < 6 → (y.ck i).us ≤ 20) : ∀ i, i < 6 → ((turn 6 20 κ bs y τ).1.ck i).us ≤ 20 := by
  intro i hi
  have upd_case : ∀ (j : Nat) (c : Ck), c.us ≤ 20 → (upd y.ck j c i).us ≤ 20 := fun j c hc => by
    by_cases e : i = j
    · subst e; rw [upd_same]; exact hc
    · rw [upd_other _ _ _ _ e]; exact hu i hi
  cases τ with
  | see => exact hu i hi
  | ask j => exact hu i hi
  | grow j c =>
    simp only [turn]
    split
    · exact upd_case _ _ hg.2.2.2.2
    · exact hu i hi
  | look sn j => exact hu i hi
  | take sn j c =>
    simp only [turn]
    split
    · exact upd_case _ _ (Nat.zero_le _)
    · exact hu i hi
  | opn sn j c =>
    simp only [turn]
    split <;> exact hu i hi
  | fre sn j c =>
    simp only [turn]
    split
    · exact upd_case _ _ (Nat.zero_le _)
    · exact hu i hi
  | won a j => exact hu i hi
  | none => exact hu i hi

section
variable {n σ : Nat} {q q' : Q} {ow : Nat → Nat} {θ : Nat → Wh} {ms : List Ob} {K b Z κ : Nat} {α α' : Al}

theorem ins_keep (hi : ∀ d, ow d ≠ 0 → ∃ c, c < 6 ∧ (q.y.ck c).st = 1 ∧ base 4 n 6 20 c ≤ d ∧ d < base 4 n 6 20 c + (q.y.ck c).us) (hk : Keeps6 q q') : ∀ d, ow d ≠ 0 → ∃ c, c < 6 ∧ (q'.y.ck c).st = 1 ∧ base 4 n 6 20 c ≤ d ∧ d < base 4 n 6 20 c + (q'.y.ck c).us := fun d hd => by
  obtain ⟨c, h1, h2, h3, h4⟩ := hi d hd
  obtain ⟨k1, -, k3⟩ := hk c h1 h2 (by omega)
  exact ⟨c, h1, k1, h3, by omega⟩

/-- a step by which nothing changes but what the picked one knows -/
theorem Jam.look (J : Jam n q σ ow θ ms) (hK : K < 3) (hθ : θ K = .at b Z κ α) (x : Nat) (hx : ∀ j, j < 3 → j ≠ K → ¬ (θ j).has x) (hmx : ∀ o, o ∈ ms → o.x ≠ x) (hp : ∀ y, α'.has y → y = x) (hgg : α'.g = α.g) (hat : ∀ d, α.at? d → α'.at? d)
    (h1 : q'.c = q.c) (h2 : q'.lk = q.lk) (h3 : q'.F = q.F) (h4 : q'.y = q.y) (h5 : q'.sw = q.sw) (h6 : q'.dw = q.dw) (hg' : α'.good 4 n 6 20 κ (σ + 1) q') (ho' : α'.over? = false) (hs' : α'.snd n q' ow κ) : Jam n q' (σ + 1) ow (upd θ K (.at b Z κ α')) ms := by
  have hok := J.ok K hK
  rw [hθ] at hok
  refine J.put hK _ x (Shift.same n x h1 h2 h3) hx hmx (Keeps6.same h4) (fun _ _ => rfl) (fun y _ => by rw [h5]) ⟨hg', ho', hok.2.2.1, hok.2.2.2.1, hok.2.2.2.2.1, hok.2.2.2.2.2.1, hs'⟩ hp ?_ (fun d hd => ?_) (fun o _ => by rw [h6]) (fun i hi => by rw [h4]; exact J.us i hi) (ins_keep J.ins (Keeps6.same h4)) (fun y hy => by rw [h3] at hy; rw [h5]; exact J.fr y hy)
  · rw [h3, hθ]; show _ + α'.g = _ + α.g; omega
  · rw [h6] at hd
    by_cases e : (θ K).at? d
    · rw [hθ] at e; exact .inr (hat d e)
    · exact .inl ⟨hd, e⟩

/-- nobody has slot n -/
theorem Jam.no_n (J : Jam n q σ ow θ ms) : (∀ j, j < 3 → ¬ (θ j).has n) ∧ ∀ o, o ∈ ms → o.x ≠ n :=
  ⟨fun j hj h => by have := (Wh.has_out (J.ok j hj) h).1; omega, fun o ho h => by have := (J.fine o ho).lt; omega⟩

/-- of others: they have no slot of the picked one -/
theorem Jam.mine (J : Jam n q σ ow θ ms) (hK : K < 3) (hθ : θ K = .at b Z κ α) {x : Nat} (hx : α.has x) : (∀ j, j < 3 → j ≠ K → ¬ (θ j).has x) ∧ ∀ o, o ∈ ms → o.x ≠ x := by
  have h : (θ K).has x := by rw [hθ]; exact hx
  exact ⟨fun j hj hne => J.sep K j x hK hj (Ne.symm hne) h, fun o ho e => J.mt o ho K hK (by rw [e]; exact h)⟩

/-- a head of the picked one is none of an object that was made -/
theorem Jam.heads (J : Jam n q σ ow θ ms) {x a i : Nat} (hl : Lot n q ow κ x a i) (hmx : ∀ o, o ∈ ms → o.x ≠ x) : ∀ o, o ∈ ms → o.a ≠ a := fun o ho e => by
  have h1 := (J.fine o ho).lot.ow o.a (Nat.le_refl _) (by have := room_bd o.κ; omega)
  have h2 := hl.ow a (Nat.le_refl _) (by have := room_bd κ; omega)
  rw [e, h2] at h1
  exact hmx o ho (by omega)

theorem Jam.step (J : Jam n q σ ow θ ms) (hK : K < 3) (hθ : θ K = .at b Z κ α) (ht : alTurn 4 n 6 20 κ Z false σ q α = (q', α')) (hg' : α'.good 4 n 6 20 κ (σ + 1) q') :
    (α'.over? = false → ∃ ow', Jam n q' (σ + 1) ow' (upd θ K (.at b Z κ α')) ms) ∧ (∀ E H st, α' = .over E H st → E ≠ 0 → (E = 6 ∨ E = 7) ∧ Jam n q' (σ + 1) ow (upd θ K .nil) ms) ∧ (∀ H st, α' = .over 0 H st → ∃ o : Ob, H = packH o.x 1 ∧ o.Z = Z ∧ Jam n q' (σ + 1) ow (upd θ K .nil) (ms ++ [o])) := by
  have hok := J.ok K hK
  rw [hθ] at hok
  obtain ⟨hg, ho, hκ, hkz, hz1, hz2, hs⟩ := hok
  have on : α'.over? = false → (∃ ow', Jam n q' (σ + 1) ow' (upd θ K (.at b Z κ α')) ms) → (α'.over? = false → ∃ ow', Jam n q' (σ + 1) ow' (upd θ K (.at b Z κ α')) ms) ∧ (∀ E H st, α' = .over E H st → E ≠ 0 → (E = 6 ∨ E = 7) ∧ Jam n q' (σ + 1) ow (upd θ K .nil) ms) ∧ (∀ H st, α' = .over 0 H st → ∃ o : Ob, H = packH o.x 1 ∧ o.Z = Z ∧ Jam n q' (σ + 1) ow (upd θ K .nil) (ms ++ [o])) := fun h p => ⟨fun _ => p, (fun E H st e => by rw [e] at h; cases h), (fun H st e => by rw [e] at h; cases h)⟩
  cases α with
  | over E H st => cases ho
  | take τ =>
    obtain ⟨nn, nm⟩ := J.no_n
    cases τ with
    | won x => cases hg.2
    | none => cases hg.2
    | idle =>
      cases hF : q.F with
      | nil =>
        simp only [alTurn, tkTurn, hF, alTake, Prod.mk.injEq] at ht
        obtain ⟨rfl, rfl⟩ := ht
        refine ⟨(fun h => by cases h), fun E H st e _ => ?_, (fun H st e => by cases e)⟩
        cases e
        refine ⟨.inr rfl, J.put hK _ n (Shift.same n n rfl rfl hF.symm) (fun j hj _ => nn j hj) nm (Keeps6.same rfl) (fun _ _ => rfl) (fun _ _ => rfl) trivial (fun y h => h.elim) ?_ (fun d hd => .inl ⟨hd, fun h => by rw [hθ] at h; exact h⟩) (fun _ _ => rfl) J.us J.ins (fun y hy => by cases hy)⟩
        rw [hθ, hF]; rfl
      | cons x F =>
        simp only [alTurn, tkTurn, hF, alTake, Prod.mk.injEq] at ht
        obtain ⟨rfl, rfl⟩ := ht
        exact on rfl ⟨ow, J.look hK hθ n (fun j hj _ => nn j hj) nm (fun y h => h.elim) rfl (fun d h => h.elim) rfl rfl hF.symm rfl rfl rfl hg' rfl trivial⟩
    | saw h c0 =>
      simp only [alTurn, tkTurn, alTake, Prod.mk.injEq] at ht
      obtain ⟨rfl, rfl⟩ := ht
      exact on rfl ⟨ow, J.look hK hθ n (fun j hj _ => nn j hj) nm (fun y h => h.elim) rfl (fun d h => h.elim) rfl rfl rfl rfl rfl rfl hg' rfl trivial⟩
    | lnk h c0 q0 =>
      simp only [alTurn, tkTurn] at ht
      split at ht
      · rename_i e
        simp only [alTake, Prod.mk.injEq] at ht
        obtain ⟨rfl, rfl⟩ := ht
        have hh := (hg.1.2.2.2 e).1
        obtain ⟨F2, hF⟩ : ∃ F2, q.F = h :: F2 := by
          cases hF : q.F with
          | nil => rw [hF] at hh; simp [hd] at hh
          | cons u F2 => rw [hF] at hh; simp [hd] at hh; subst hh; exact ⟨F2, rfl⟩
        have hmem : h ∈ q.F := by rw [hF]; simp
        refine on rfl ⟨ow, J.put hK _ h ⟨fun τ g => Tk.good_more g (Nat.lt_succ_self _), fun y γ _ g => Gv.good_more g (Nat.lt_succ_self _), fun y _ hy hm => hy (List.mem_of_mem_tail hm)⟩ (fun j hj _ hj' => (Wh.has_out (J.ok j hj) hj').2 hmem) (fun o ho' e' => (J.fine o ho').nf (by rw [e']; exact hmem)) (Keeps6.same rfl) (fun _ _ => rfl) (fun _ _ => rfl) ⟨hg', rfl, hκ, hkz, hz1, hz2, J.fr h hmem⟩ (fun y h => h.symm) ?_ (fun d hd => .inl ⟨hd, fun h => by rw [hθ] at h; exact h⟩) (fun _ _ => rfl) J.us J.ins (fun y hy => J.fr y (List.mem_of_mem_tail hy))⟩
        rw [hθ, hF]; rfl
      · simp only [alTake, Prod.mk.injEq] at ht
        obtain ⟨rfl, rfl⟩ := ht
        exact on rfl ⟨ow, J.look hK hθ n (fun j hj _ => nn j hj) nm (fun y h => h.elim) rfl (fun d h => h.elim) rfl rfl rfl rfl rfl rfl hg' rfl trivial⟩
  | ask x =>
    obtain ⟨mx, mm⟩ := J.mine hK hθ (x := x) rfl
    simp only [alTurn, Prod.mk.injEq] at ht
    obtain ⟨rfl, rfl⟩ := ht
    have hsx : q.sw x = 8388608 := hs
    exact on rfl ⟨ow, J.look hK hθ x mx mm (fun y h => h.symm) rfl (fun d h => h.elim) rfl rfl rfl rfl rfl rfl hg' rfl ⟨hsx, by rw [hsx]; exact gen1⟩⟩
  | place x G τ =>
    obtain ⟨mx, mm⟩ := J.mine hK hθ (x := x) rfl
    obtain ⟨y', τ', e⟩ : ∃ y' τ', turn 6 20 κ (base 4 n 6 20) q.y τ = (y', τ') := ⟨_, _, rfl⟩
    have gt := hg.2.2.2.1
    have go := hg.2.2.2.2
    have hkp : Keeps6 q { q with y := y' } := by have := keeps_turn (q := q) (bs := base 4 n 6 20) gt; rw [e] at this; exact this
    have hus : ∀ i, i < 6 → (y'.ck i).us ≤ 20 := by have := us_turn (y := q.y) (bs := base 4 n 6 20) gt J.us; rw [e] at this; exact this
    simp only [alTurn, e] at ht
    rcases pl_fate τ' with hf | ⟨a, i, rfl⟩ | rfl
    · rw [alPlace_on hf] at ht
      obtain ⟨rfl, rfl⟩ := Prod.mk.inj ht
      refine on rfl ⟨ow, J.put hK _ x (Shift.same n x rfl rfl rfl) mx mm hkp (fun _ _ => rfl) (fun _ _ => rfl) ⟨hg', rfl, hκ, hkz, hz1, hz2, hs⟩ (fun y h => h.symm) ?_ (fun d hd => .inl ⟨hd, fun h => by rw [hθ] at h; exact h⟩) (fun _ _ => rfl) hus (ins_keep J.ins hkp) J.fr⟩
      rw [hθ]; rfl
    · have ht' : ({ q with y := y' }, Al.count x G a i) = (q', α') := ht
      obtain ⟨rfl, rfl⟩ := Prod.mk.inj ht'
      obtain ⟨c, -, hik, hck, ha, hu, hc1, hc2, hy⟩ := turn_won gt go e
      have hcy : y'.ck i = ⟨c.st, c.cl, c.us + room κ, c.sp⟩ := by rw [hy]; exact upd_same _ _ _
      have hfresh : ∀ d, ow d ≠ 0 → ¬ (a ≤ d ∧ d < a + room κ) := fun d hd hh => by
        obtain ⟨c', k1, k2, k3, k4⟩ := J.ins d hd
        have hu' := J.us c' k1
        by_cases ec : c' = i
        · subst ec; rw [hck] at k4; omega
        · refine base_apart (t := 4) (n := n) (k := 6) (m := 20) (i := c') (j := i) (u := d - base 4 n 6 20 c') (v := d - base 4 n 6 20 i) (by omega) (by omega) (Ne.symm ec) (by omega)
      refine on rfl ⟨fun d => if a ≤ d ∧ d < a + room κ then x + 1 else ow d, J.put hK _ x (Shift.same n x rfl rfl rfl) mx mm hkp (fun d hd => if_neg (hfresh d hd)) (fun _ _ => rfl) ⟨hg', rfl, hκ, hkz, hz1, hz2, hs.1, hs.2, ⟨hik, ⟨c.us, ha, by show c.us + room κ ≤ (y'.ck i).us; rw [hcy]; exact Nat.le_refl _⟩, by show (y'.ck i).st = 1; rw [hcy]; exact hc1, by show (y'.ck i).cl = κ; rw [hcy]; exact hc2, fun d h1 h2 => if_pos ⟨h1, h2⟩⟩⟩ (fun y h => h.symm) ?_ (fun d hd => .inl ⟨hd, fun h => by rw [hθ] at h; exact h⟩) (fun _ _ => rfl) hus (fun d hd => ?_) J.fr⟩
      · rw [hθ]; rfl
      · by_cases hh : a ≤ d ∧ d < a + room κ
        · exact ⟨i, hik, by show (y'.ck i).st = 1; rw [hcy]; exact hc1, by omega, by show d < _ + (y'.ck i).us; rw [hcy]; show d < _ + (c.us + room κ); omega⟩
        · simp only [if_neg hh] at hd
          exact ins_keep J.ins hkp d hd
    · have ht' : ({ q with y := y' }, Al.give x G .idle) = (q', α') := ht
      obtain ⟨rfl, rfl⟩ := Prod.mk.inj ht'
      refine on rfl ⟨ow, J.put hK _ x (Shift.same n x rfl rfl rfl) mx mm hkp (fun _ _ => rfl) (fun _ _ => rfl) ⟨hg', rfl, hκ, hkz, hz1, hz2, hs.1⟩ (fun y h => h.symm) ?_ (fun d hd => .inl ⟨hd, fun h => by rw [hθ] at h; exact h⟩) (fun _ _ => rfl) hus (ins_keep J.ins hkp) J.fr⟩
      rw [hθ]; rfl
  | count x G a i =>
    obtain ⟨mx, mm⟩ := J.mine hK hθ (x := x) rfl
    simp only [alTurn, Prod.mk.injEq] at ht
    obtain ⟨rfl, rfl⟩ := ht
    exact on rfl ⟨ow, J.look hK hθ x mx mm (fun y h => h.symm) rfl (fun d h => h) rfl rfl rfl rfl rfl rfl hg' rfl ⟨hs.1, hs.2.1, hs.2.2.keep (Keeps6.same rfl) (fun _ _ => rfl)⟩⟩
  | head x G a i =>
    obtain ⟨mx, mm⟩ := J.mine hK hθ (x := x) rfl
    simp only [alTurn, Prod.mk.injEq] at ht
    obtain ⟨rfl, rfl⟩ := ht
    have hne := J.heads hs.2.2 mm
    refine on rfl ⟨ow, J.put hK _ x (Shift.same n x rfl rfl rfl) mx mm (Keeps6.same rfl) (fun _ _ => rfl) (fun _ _ => rfl) ⟨hg', rfl, hκ, hkz, hz1, hz2, hs.1, hs.2.1, hs.2.2.keep (Keeps6.same rfl) (fun _ _ => rfl)⟩ (fun y h => h.symm) ?_ (fun d hd => ?_) (fun o ho' => upd_other _ _ _ _ (hne o ho')) J.us J.ins J.fr⟩
    · rw [hθ]; rfl
    · by_cases e : a = d
      · exact .inr e
      · refine .inl ⟨fun h0 => hd ((upd_other _ _ _ _ (Ne.symm e)).trans h0), fun h => by rw [hθ] at h; exact e h⟩
  | shw x G a i =>
    obtain ⟨mx, mm⟩ := J.mine hK hθ (x := x) rfl
    simp only [alTurn, Prod.mk.injEq] at ht
    obtain ⟨rfl, rfl⟩ := ht
    have hG1 : G = 1 := hs.2.1
    subst hG1
    refine on rfl ⟨ow, J.put hK _ x (Shift.same n x rfl rfl rfl) mx mm (Keeps6.same rfl) (fun _ _ => rfl) (fun y hy => upd_other _ _ _ _ hy) ⟨hg', rfl, hκ, hkz, hz1, hz2, upd_same _ _ _, rfl, hs.2.2.keep (Keeps6.same rfl) (fun _ _ => rfl)⟩ (fun y h => h.symm) ?_ (fun d hd => ?_) (fun _ _ => rfl) J.us J.ins (fun y hy => ?_)⟩
    · rw [hθ]; rfl
    · by_cases e : (θ K).at? d
      · rw [hθ] at e; exact .inr e
      · exact .inl ⟨hd, e⟩
    · have hyx : y ≠ x := fun e => hg.2.1 (e ▸ hy)
      exact (upd_other _ _ _ _ hyx).trans (J.fr y hy)
  | ready x G a i st =>
    obtain ⟨mx, mm⟩ := J.mine hK hθ (x := x) rfl
    simp only [alTurn, Prod.mk.injEq] at ht
    obtain ⟨rfl, rfl⟩ := ht
    have hG1 : G = 1 := hs.2.1
    subst hG1
    refine ⟨(fun h => by cases h), (fun E H st e hE => by injection e with e0 _ _; exact absurd e0.symm hE), fun H st' e => ?_⟩
    obtain ⟨rfl, rfl⟩ : packH x ((1 : Nat) : Int) = H ∧ st = st' := ⟨(Al.over.inj e).2.1, (Al.over.inj e).2.2⟩
    have hne := J.heads hs.2.2 mm
    have hput : Jam n { q with dw := upd q.dw a (packOw 2 Z x 1 false) } (σ + 1) ow (upd θ K (.at b Z κ (.ready x 1 a i st))) ms := by
      refine J.put hK _ x (Shift.same n x rfl rfl rfl) mx mm (Keeps6.same rfl) (fun _ _ => rfl) (fun _ _ => rfl) ⟨⟨hg.1, hg.2.1, hg.2.2⟩, rfl, hκ, hkz, hz1, hz2, hs.1, rfl, hs.2.2.keep (Keeps6.same rfl) (fun _ _ => rfl)⟩ (fun y h => h.symm) ?_ (fun d hd => ?_) (fun o ho' => upd_other _ _ _ _ (hne o ho')) J.us J.ins J.fr
      · rw [hθ]
      · by_cases e : a = d
        · exact .inr e
        · refine .inl ⟨fun h0 => hd ((upd_other _ _ _ _ (Ne.symm e)).trans h0), fun h => by rw [hθ] at h; exact e h⟩
    refine ⟨⟨x, a, i, Z, κ⟩, rfl, rfl, fun j hj => ?_, fun i1 j1 y h1 h2 h3 h4 => ?_, fun o ho' => ?_, fun o ho' j hj hh => ?_, fun o o' h1 h2 h3 => ?_, ?_, ?_, fun d hd => ?_, hput.us, hput.ins, hput.fr⟩
    · by_cases e : j = K
      · subst e; rw [upd_same]; trivial
      · have := hput.ok j hj
        rw [upd_other _ _ _ _ e] at this ⊢; exact this
    · by_cases e : i1 = K
      · subst e; rw [upd_same] at h4; exact h4.elim
      · rw [upd_other _ _ _ _ e] at h4
        by_cases e' : j1 = K
        · subst e'; rw [upd_same]; exact fun h => h.elim
        · rw [upd_other _ _ _ _ e']; exact J.sep i1 j1 y h1 h2 h3 h4
    · rcases List.mem_append.1 ho' with h | h
      · exact hput.fine o h
      · obtain rfl : o = ⟨x, a, i, Z, κ⟩ := by simpa using h
        exact ⟨hg.1, hg.2.1, hs.2.2.keep (Keeps6.same rfl) (fun _ _ => rfl), hs.1, upd_same _ _ _, hz1, hz2, hκ, hkz⟩
    · by_cases e : j = K
      · subst e; rw [upd_same] at hh; exact hh
      · rw [upd_other _ _ _ _ e] at hh
        rcases List.mem_append.1 ho' with h | h
        · exact J.mt o h j hj hh
        · obtain rfl : o = ⟨x, a, i, Z, κ⟩ := by simpa using h
          exact mx j hj e hh
    · rcases List.mem_append.1 h1 with h | h <;> rcases List.mem_append.1 h2 with h' | h'
      · exact J.mn o o' h h' h3
      · obtain rfl : o' = ⟨x, a, i, Z, κ⟩ := by simpa using h'
        exact absurd h3 (mm o h)
      · obtain rfl : o = ⟨x, a, i, Z, κ⟩ := by simpa using h
        exact absurd h3.symm (mm o' h')
      · obtain rfl : o = ⟨x, a, i, Z, κ⟩ := by simpa using h
        obtain rfl : o' = ⟨x, a, i, Z, κ⟩ := by simpa using h'
        rfl
    · refine List.pairwise_append.2 ⟨J.pw, List.pairwise_singleton _ _, fun o h1 o' h2 => ?_⟩
      obtain rfl : o' = ⟨x, a, i, Z, κ⟩ := by simpa using h2
      exact mm o h1
    · have h1 := upd_g hK (θ := θ) .nil
      have h2 := J.sum
      rw [hθ] at h1
      have e1 : (Wh.at b Z κ (.ready x 1 a i st)).g = 1 := rfl
      have e2 : Wh.nil.g = 0 := rfl
      rw [e1, e2] at h1
      rw [List.length_append]
      show q.F.length + _ + (ms.length + 1) = n
      omega
    · rcases hput.dw d hd with ⟨o, h1, h2⟩ | ⟨j, hj, h1⟩
      · exact .inl ⟨o, List.mem_append.2 (.inl h1), h2⟩
      · by_cases e : j = K
        · subst e
          rw [upd_same] at h1
          exact .inl ⟨⟨x, a, i, Z, κ⟩, List.mem_append.2 (.inr (by simp)), h1⟩
        · rw [upd_other _ _ _ _ e] at h1
          exact .inr ⟨j, hj, by rw [upd_other _ _ _ _ e]; exact h1⟩
  | give x G γ =>
    obtain ⟨mx, mm⟩ := J.mine hK hθ (x := x) rfl
    have hxF := hg.2.1
    have hsx : q.sw x = 8388608 := hs
    cases γ with
    | over => cases hg.2.2.2
    | idle =>
      simp only [alTurn, gvTurn, alGive, Prod.mk.injEq] at ht
      obtain ⟨rfl, rfl⟩ := ht
      exact on rfl ⟨ow, J.look hK hθ x mx mm (fun y h => h.symm) rfl (fun d h => h.elim) rfl rfl rfl rfl rfl rfl hg' rfl hsx⟩
    | saw h c0 =>
      simp only [alTurn, gvTurn, alGive, Prod.mk.injEq] at ht
      obtain ⟨rfl, rfl⟩ := ht
      refine on rfl ⟨ow, J.put hK _ x ⟨fun τ g => Tk.good_lay g hxF _, fun y γ hy g => Gv.good_lay g hy _, fun y _ hy => hy⟩ mx mm (Keeps6.same rfl) (fun _ _ => rfl) (fun _ _ => rfl) ⟨hg', rfl, hκ, hkz, hz1, hz2, hsx⟩ (fun y h => h.symm) ?_ (fun d hd => .inl ⟨hd, fun h => by rw [hθ] at h; exact h⟩) (fun _ _ => rfl) J.us J.ins J.fr⟩
      rw [hθ]; rfl
    | lnk h c0 =>
      simp only [alTurn, gvTurn] at ht
      split at ht
      · simp only [alGive, Prod.mk.injEq] at ht
        obtain ⟨rfl, rfl⟩ := ht
        refine ⟨(fun h => by cases h), fun E H st e _ => ?_, (fun H st e => by cases e)⟩
        cases e
        refine ⟨.inl rfl, J.put hK _ x ⟨fun τ g => Tk.good_more g (Nat.lt_succ_self _), fun y γ _ g => Gv.good_more g (Nat.lt_succ_self _), fun y hy hy' hm => ?_⟩ mx mm (Keeps6.same rfl) (fun _ _ => rfl) (fun _ _ => rfl) trivial (fun y h => h.elim) ?_ (fun d hd => .inl ⟨hd, fun h => by rw [hθ] at h; exact h⟩) (fun _ _ => rfl) J.us J.ins (fun y hy => ?_)⟩
        · rcases List.mem_cons.1 hm with h1 | h1
          · exact hy h1
          · exact hy' h1
        · rw [hθ]; show (x :: q.F).length + 0 = q.F.length + 1; simp
        · rcases List.mem_cons.1 hy with h1 | h1
          · rw [h1]; exact hsx
          · exact J.fr y h1
      · simp only [alGive, Prod.mk.injEq] at ht
        obtain ⟨rfl, rfl⟩ := ht
        exact on rfl ⟨ow, J.look hK hθ x mx mm (fun y h => h.symm) rfl (fun d h => h.elim) rfl rfl rfl rfl rfl rfl hg' rfl hsx⟩

end

/-- the first round -/
theorem jam0 (n σ : Nat) (hn : (Q.new n).F.length = n) : Jam n (Q.new n) σ (fun _ => 0) (fun _ => .nil) [] :=
  ⟨fun _ _ => trivial, fun _ _ _ _ _ _ h => h.elim, (fun o h => by cases h), (fun o h => by cases h), (fun o _ h => by cases h), List.Pairwise.nil, (by rw [hn]; rfl), fun d h => absurd rfl h, fun _ _ => Nat.zero_le _, fun d h => absurd rfl h, fun _ _ => rfl⟩

/-- one begins -/
theorem Jam.begin {n σ : Nat} {q : Q} {ow : Nat → Nat} {θ : Nat → Wh} {ms : List Ob} {K b Z κ : Nat} (J : Jam n q σ ow θ ms) (hK : K < 3) (hθ : θ K = .nil) (hκ : κ < 4) (hkz : classOf Z = κ) (z1 : 1 ≤ Z) (z2 : Z ≤ 16) : Jam n q σ ow (upd θ K (.at b Z κ (.take .idle))) ms := by
  refine ⟨fun j hj => ?_, fun i j x h1 h2 h3 h4 => ?_, J.fine, fun o ho j hj hh => ?_, J.mn, J.pw, ?_, fun d hd => ?_, J.us, J.ins, J.fr⟩
  · by_cases e : j = K
    · subst e; rw [upd_same]; exact ⟨⟨trivial, rfl⟩, rfl, hκ, hkz, z1, z2, trivial⟩
    · rw [upd_other _ _ _ _ e]; exact J.ok j hj
  · by_cases e : i = K
    · subst e; rw [upd_same] at h4; exact h4.elim
    · rw [upd_other _ _ _ _ e] at h4
      by_cases e' : j = K
      · subst e'; rw [upd_same]; exact fun h => h.elim
      · rw [upd_other _ _ _ _ e']; exact J.sep i j x h1 h2 h3 h4
  · by_cases e : j = K
    · subst e; rw [upd_same] at hh; exact hh
    · rw [upd_other _ _ _ _ e] at hh; exact J.mt o ho j hj hh
  · have h1 := upd_g hK (θ := θ) (.at b Z κ (.take .idle))
    have h2 := J.sum
    rw [hθ] at h1
    have e1 : (Wh.at b Z κ (.take .idle)).g = 0 := rfl
    have e2 : Wh.nil.g = 0 := rfl
    rw [e1, e2] at h1
    omega
  · rcases J.dw d hd with h | ⟨j, hj, h⟩
    · exact .inl h
    · refine .inr ⟨j, hj, ?_⟩
      by_cases e : j = K
      · subst e; rw [hθ] at h; exact h.elim
      · rw [upd_other _ _ _ _ e]; exact h

/-- an object that was made is sound -/
theorem Jam.lives {n σ : Nat} {q : Q} {ow : Nat → Nat} {θ : Nat → Wh} {ms : List Ob} {s : Mm} (J : Jam n q σ ow θ ms) (T : Town 4 n 6 20 s σ q) {o : Ob} (ho : o ∈ ms) : ∃ u, Lives 4 n 6 20 s σ o.x 1 o.a o.i u false o.Z o.κ (q.y.ck o.i) := by
  have F := J.fine o ho
  obtain ⟨u, ha, hu⟩ := F.lot.ex
  have hus := J.us o.i F.lot.ik
  have hin := base_in (t := 4) (n := n) (k := 6) (m := 20) (u := u) (r := room o.κ) F.lot.ik (by omega)
  rw [← ha] at hin
  have hsr := size_room F.z1 F.kz
  refine ⟨u, F.z1, F.z2, F.kz, F.k4, F.lt, Nat.le_refl _, by decide, (T.swv o.x F.lt).trans F.sw, (T.dwv o.a hin.1).trans F.hw, fun j h1 h2 => ?_, ha, F.lot.ik, by omega, T.yard.ok o.i F.lot.ik, T.yard.ckv o.i F.lot.ik, F.lot.st, F.lot.cl⟩
  rw [T.dwv (o.a + j) (by omega)]
  have hown := F.lot.ow (o.a + j) (by omega) (by omega)
  by_cases h0 : q.dw (o.a + j) = 0
  · exact h0
  · exfalso
    rcases J.dw _ h0 with ⟨o', ho', e⟩ | ⟨i, hi, h⟩
    · have h1 := (J.fine o' ho').lot.ow o'.a (Nat.le_refl _) (by have := room_bd o'.κ; omega)
      rw [e, hown] at h1
      have := J.mn o o' ho ho' (by omega)
      subst this
      omega
    · have hok := J.ok i hi
      have hmt := J.mt o ho i hi
      cases hθ : θ i with
      | nil => rw [hθ] at h; exact h
      | «at» b Z κ α =>
        rw [hθ] at h hok hmt
        have key : ∀ x a' i', Lot n q ow κ x a' i' → a' = o.a + j → α.has x → False := fun x a' i' hl e hx => by
          have h1 := hl.ow a' (Nat.le_refl _) (by have := room_bd κ; omega)
          rw [e, hown] at h1
          obtain rfl : o.x = x := by omega
          exact hmt hx
        cases α with
        | take => exact h
        | ask => exact h
        | place => exact h
        | give => exact h
        | over => exact h
        | count x g a' i' => exact key x a' i' hok.2.2.2.2.2.2.2.2 h rfl
        | head x g a' i' => exact key x a' i' hok.2.2.2.2.2.2.2.2 h rfl
        | shw x g a' i' => exact key x a' i' hok.2.2.2.2.2.2.2.2 h rfl
        | ready x g a' i' st => exact key x a' i' hok.2.2.2.2.2.2.2.2 h rfl

end Go.Proofs.Ytemembcefplgcaa
