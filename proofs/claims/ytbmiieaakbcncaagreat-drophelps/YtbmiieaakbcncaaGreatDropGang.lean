/- Many who let one object go, told without a program: one of them does. -/
import Derived.Test.YtbmiieaakbcncaaGreatDropScene
namespace Go.Proofs.YtbmiieaakbcncaaGreat
open Go.RowKit

theorem DpTh.win_ph {vL : Int} {Z i : Nat} {b : Prop} {ph : Ph} {α : Dp} (h : DpTh vL Z i b ph α) (w : α.win = true) : ph ≠ .live := by
  cases α with
  | fin Z' i' η =>
    obtain ⟨_, _, h⟩ := h
    cases η with
    | over => cases h
    | go => exact h.2.2.1
  | count => obtain ⟨_, _, rfl⟩ := h; decide
  | give => obtain ⟨rfl, _⟩ := h; decide
  | over E =>
    rcases h with ⟨_, rfl⟩ | ⟨rfl, _⟩
    · decide
    · cases w
  | see => cases w
  | ask => cases w
  | mark => cases w
  | help => cases w

/-- so many who let one object go -/
structure Gang (t n k m : Nat) (cg : Int) (x G A Z i : Nat) (vL : Int) (own : Bool) (q : Q) (ph : Ph) (N : Nat) (ps : Nat → Dp) : Prop where
  sc : Scene t n k m cg x G A Z i vL own q ph
  th : ∀ a, a < N → DpTh vL Z i (own = own) ph (ps a)
  rs : ∀ a, a < N → (ps a).win = true → (ps a).res x Z i q
  lv : ph = .live → room (classOf Z).toNat ≤ q.lv i ∧ x ∉ q.F
  one : ∀ a b, a < N → b < N → (ps a).win = true → (ps b).win = true → a = b
  no : ph = .live → ∀ a, a < N → (ps a).win = false
  ex : ph ≠ .live → ∃ a, a < N ∧ (ps a).win = true

section
variable {t n k m x G A Z i : Nat} {vL cg : Int} {own : Bool} {q q' : Q} {ph : Ph} {N : Nat} {ps : Nat → Dp}

theorem Gang.step (g : Gang t n k m cg x G A Z i vL own q ph N ps) {K : Nat} (hK : K < N) (hh : hd q.F ≤ n) (hl : (G : Int) < cg) (ho : (ps K).over? = false) {α' : Dp} (ht : dpTurn t n k m cg own x G q (ps K) = (q', α')) :
    ∃ ph', Gang t n k m cg x G A Z i vL own q' ph' N (upd ps K α') ∧ dmu q' A (verOf' vL + 1) Z vL ph' α' < dmu q A (verOf' vL + 1) Z vL ph (ps K) ∧ (∀ β, dmu q' A (verOf' vL + 1) Z vL ph' β ≤ dmu q A (verOf' vL + 1) Z vL ph β) := by
  obtain ⟨ph', W⟩ := scene_step g.sc (g.th K hK) (g.rs K hK) g.lv hh hl ho ht
  have hlv : ph' = .live → ph = .live := fun h => by
    by_cases e : ph = .live
    · exact e
    · exact absurd h (W.up.1 e)
  refine ⟨ph', ⟨W.sc, fun a ha => ?_, fun a ha hw => ?_, fun h => ?_, fun a b ha hb h1 h2 => ?_, fun h a ha => ?_, fun h => ?_⟩, W.mu, fun β => dmu_le W.fz W.up⟩
  · by_cases e : a = K
    · subst e; rw [upd_same]; exact W.th
    · rw [upd_other _ _ _ _ e]; exact (g.th a ha).up W.up
  · by_cases e : a = K
    · subst e; rw [upd_same] at hw ⊢; exact W.res hw
    · rw [upd_other _ _ _ _ e] at hw ⊢
      refine Dp.res_kin (g.rs a ha hw) (W.kin ?_)
      cases hwK : (ps K).win with
      | false => rfl
      | true => exact absurd (g.one a K ha hK hw hwK) e
  · have e := hlv h
    obtain ⟨k1, k2, _, _⟩ := W.kin (g.no e K hK)
    rw [k1, k2]; exact g.lv e
  · by_cases ea : a = K
    · by_cases eb : b = K
      · rw [ea, eb]
      · subst ea
        rw [upd_same] at h1
        rw [upd_other _ _ _ _ eb] at h2
        rcases W.won h1 with hw | hw
        · exact g.one _ _ ha hb hw h2
        · rw [g.no hw b hb] at h2; cases h2
    · by_cases eb : b = K
      · subst eb
        rw [upd_same] at h2
        rw [upd_other _ _ _ _ ea] at h1
        rcases W.won h2 with hw | hw
        · exact g.one _ _ ha hb h1 hw
        · rw [g.no hw a ha] at h1; cases h1
      · rw [upd_other _ _ _ _ ea] at h1
        rw [upd_other _ _ _ _ eb] at h2
        exact g.one a b ha hb h1 h2
  · by_cases e : a = K
    · subst e; rw [upd_same]
      cases hw : α'.win with
      | false => rfl
      | true => exact absurd h (W.th.win_ph hw)
    · rw [upd_other _ _ _ _ e]; exact g.no (hlv h) a ha
  · by_cases e : ph = .live
    · exact ⟨K, hK, by rw [upd_same]; exact W.live e h⟩
    · obtain ⟨a, ha, hw⟩ := g.ex e
      by_cases ea : a = K
      · subst ea; exact ⟨a, ha, by rw [upd_same]; exact W.keep hw⟩
      · exact ⟨a, ha, by rw [upd_other _ _ _ _ ea]; exact hw⟩

theorem Gang.good (g : Gang t n k m cg x G A Z i vL own q ph N ps) {K : Nat} (hK : K < N) (hh : hd q.F ≤ n) (hl : (G : Int) < cg) (ho : (ps K).over? = false) : (ps K).good t n k m x G q := by
  obtain ⟨ph', W⟩ := scene_step g.sc (g.th K hK) (g.rs K hK) g.lv hh hl ho (q' := (dpTurn t n k m cg own x G q (ps K)).1) (α' := (dpTurn t n k m cg own x G q (ps K)).2) rfl
  exact W.good

/-- so far, how many won -/
def Tell (N : Nat) (ps : Nat → Dp) (W : Nat) : Prop := (W = 0 ∧ ∀ a, a < N → ps a ≠ .over 0) ∨ (W = 1 ∧ ∃ a, a < N ∧ ps a = .over 0)

theorem Tell.on {W : Nat} {K : Nat} {α' : Dp} (h : Tell N ps W) (h0 : ∀ E, ps K ≠ .over E) (h1 : ∀ E, α' ≠ .over E) : Tell N (upd ps K α') W := by
  rcases h with ⟨e, h⟩ | ⟨e, a, ha, h⟩
  · refine Or.inl ⟨e, fun a ha => ?_⟩
    by_cases ea : a = K
    · subst ea; rw [upd_same]; exact h1 0
    · rw [upd_other _ _ _ _ ea]; exact h a ha
  · refine Or.inr ⟨e, a, ha, ?_⟩
    have : a ≠ K := fun ea => h0 0 (by rw [← ea]; exact h)
    rw [upd_other _ _ _ _ this]; exact h
theorem Tell.lost {W : Nat} {K : Nat} (h : Tell N ps W) (h0 : ∀ E, ps K ≠ .over E) : Tell N (upd ps K (.over 3)) W := by
  rcases h with ⟨e, h⟩ | ⟨e, a, ha, h⟩
  · refine Or.inl ⟨e, fun a ha => ?_⟩
    by_cases ea : a = K
    · subst ea; rw [upd_same]; intro e; cases e
    · rw [upd_other _ _ _ _ ea]; exact h a ha
  · refine Or.inr ⟨e, a, ha, ?_⟩
    have : a ≠ K := fun ea => h0 0 (by rw [← ea]; exact h)
    rw [upd_other _ _ _ _ this]; exact h
/-- the one who wins is the first -/
theorem Tell.won {W : Nat} {K : Nat} (h : Tell N ps W) (hK : K < N) (h0 : ∀ E, ps K ≠ .over E) (g : Gang t n k m cg x G A Z i vL own q ph N (upd ps K (.over 0))) : W = 0 ∧ Tell N (upd ps K (.over 0)) 1 := by
  refine ⟨?_, Or.inr ⟨rfl, K, hK, upd_same _ _ _⟩⟩
  rcases h with ⟨e, -⟩ | ⟨-, a, ha, h⟩
  · exact e
  · exfalso
    have ea : a ≠ K := fun ea => h0 0 (by rw [← ea]; exact h)
    refine ea (g.one a K ha hK ?_ (by rw [upd_same]; rfl))
    rw [upd_other _ _ _ _ ea, h]; rfl

theorem Gang.told {W : Nat} (g : Gang t n k m cg x G A Z i vL own q ph N ps) (hN : 1 ≤ N) (h : Tell N ps W) (ha : ∀ a, a < N → (ps a).over? = true) : W = 1 := by
  have hov : ∀ a, a < N → ∃ E, ps a = .over E := fun a h' => by
    have := ha a h'
    cases e : ps a with
    | over E => exact ⟨E, rfl⟩
    | _ => rw [e] at this; cases this
  rcases h with ⟨-, h⟩ | ⟨e, -⟩
  · exfalso
    have hph : ph ≠ .live := by
      obtain ⟨E, hE⟩ := hov 0 (by omega)
      have T := g.th 0 (by omega)
      rw [hE] at T
      rcases T with ⟨_, e⟩ | ⟨_, e⟩
      · rw [e]; decide
      · rw [e rfl]; decide
    obtain ⟨a, h1, h2⟩ := g.ex hph
    obtain ⟨E, hE⟩ := hov a h1
    rw [hE] at h2
    have : E = 0 := of_decide_eq_true h2
    exact h a h1 (by rw [hE, this])
  · exact e

/-- an object that lives, and so many who begin -/
theorem Tame.gang {nx : Nat} {gen : Nat → Nat} {l1 l2 : List Ox} {o : Ox} (C : Tame t n k m q nx gen (l1 ++ o :: l2)) (hG : Good t n k m cg 600 3) (hn : n ≤ 65535) : Gang t n k m cg o.x o.g o.a o.Z o.i (q.sw o.x) o.own q .live N (fun _ => .see) := by
  have ho : o ∈ l1 ++ o :: l2 := by simp
  have I := C.is hG hn ho
  refine ⟨⟨⟨I.obj, by rw [I.st]; decide, I.gn, I.ad, by rw [I.vr]; decide, (C.ok o ho).x1⟩, rfl, by rw [← I.ad]; exact I.sz, by rw [← I.ad]; exact I.ow, C.wb, fun j hj => Or.inr ?_⟩, fun _ _ => trivial, fun _ _ h => (by cases h), fun _ => ⟨by rw [I.rm]; exact C.room_le, (C.li o ho).nf⟩, fun _ _ _ _ h => (by cases h), fun _ _ _ => rfl, fun h => absurd rfl h⟩
  rw [Nat.add_assoc]
  exact (C.li o ho).nt (1 + j) (by omega) (by omega)
end

/-- how often one of N is picked from 150 on -/
def cnt (N a : Nat) : Nat → Nat
  | 0 => 0
  | i + 1 => cnt N a i + (if 150 ≤ i ∧ i % N = a then 1 else 0)

theorem cnt_all : ∀ N, N < 5 → ∀ a, a < N → 15 ≤ cnt N a 300 := by decide +kernel

end Go.Proofs.YtbmiieaakbcncaaGreat
