/- What was made, in its order: which of it lives; the words that are counted. No program in it. -/
import Derived.Test.YtbmiieaakbcncaaGreatDropActs
namespace Go.Proofs.YtbmiieaakbcncaaGreat
open Go.RowKit

/-- one that was made -/
structure Rec where
  x : Nat
  g : Nat
  Z : Nat
  own : Bool
  live : Bool

def tot : List Ox → Nat
  | [] => 0
  | o :: l => room o.κ + tot l

theorem tot_mid (l1 : List Ox) (o : Ox) (l2 : List Ox) : tot (l1 ++ o :: l2) = room o.κ + tot (l1 ++ l2) := by
  induction l1 with
  | nil => rfl
  | cons a l ih =>
    show room a.κ + tot (l ++ o :: l2) = _ + (room a.κ + tot (l ++ l2))
    rw [ih]; omega

def sumTo (f : Nat → Nat) : Nat → Nat
  | 0 => 0
  | k + 1 => sumTo f k + f k

theorem sumTo_add (f g : Nat → Nat) : ∀ k, sumTo (fun i => f i + g i) k = sumTo f k + sumTo g k
  | 0 => rfl
  | k + 1 => by
    show sumTo (fun i => f i + g i) k + (f k + g k) = sumTo f k + f k + (sumTo g k + g k)
    rw [sumTo_add f g k]; omega

theorem sumTo_one (i c : Nat) : ∀ k, sumTo (fun j => if i = j then c else 0) k = if i < k then c else 0
  | 0 => rfl
  | k + 1 => by
    show sumTo (fun j => if i = j then c else 0) k + (if i = k then c else 0) = _
    rw [sumTo_one i c k]
    by_cases h1 : i < k
    · rw [if_pos h1, if_neg (by omega), if_pos (by omega), Nat.add_zero]
    · by_cases h2 : i = k
      · rw [if_neg h1, if_pos h2, if_pos (by omega)]; omega
      · rw [if_neg h1, if_neg h2, if_neg (by omega)]

theorem sum_live (k : Nat) : ∀ (ls : List Ox), (∀ o ∈ ls, o.i < k) → sumTo (fun i => liveIn i ls) k = tot ls
  | [], _ => by
    have : ∀ k, sumTo (fun i => liveIn i []) k = 0 := by
      intro k
      induction k with
      | zero => rfl
      | succ k ih => show sumTo (fun i => liveIn i []) k + 0 = 0; rw [ih]
    exact this k
  | o :: l, h => by
    have e : (fun i => liveIn i (o :: l)) = fun i => (if o.i = i then room o.κ else 0) + liveIn i l := rfl
    rw [e, sumTo_add, sumTo_one, if_pos (h o (by simp)), sum_live k l (fun o' h' => h o' (by simp [h']))]
    rfl

theorem sumTo_le {f g : Nat → Nat} : ∀ k, (∀ i, i < k → f i = g i) → sumTo f k = sumTo g k
  | 0, _ => rfl
  | k + 1, h => by
    show sumTo f k + f k = sumTo g k + g k
    rw [sumTo_le k (fun i hi => h i (by omega)), h k (by omega)]

/-- what was made, and what lives of it, behind c acts -/
structure Book (n c : Nat) (q : Q) (gen : Nat → Nat) (ls : List Ox) (rs : List Rec) : Prop where
  len : rs.length ≤ c
  rg : ∀ (j : Nat) (r : Rec), rs[j]? = some r → r.x < n ∧ 1 ≤ r.g ∧ r.g ≤ 65535 ∧ 1 ≤ r.Z ∧ r.Z ≤ 16
  live : ∀ (j : Nat) (r : Rec), rs[j]? = some r → r.live = true → ∃ o ∈ ls, o.x = r.x ∧ o.g = r.g ∧ o.Z = r.Z ∧ o.own = r.own
  dead : ∀ (j : Nat) (r : Rec), rs[j]? = some r → r.live = false → r.g < gen r.x
  two : ∀ (i j : Nat) (r r' : Rec), i ≠ j → rs[i]? = some r → rs[j]? = some r' → r.live = true → r'.live = true → r.x ≠ r'.x
  cov : Cover n q ls
  gb : ∀ x, gen x ≤ c + 1

theorem book0 (n : Nat) : Book n 0 (Q.new n) (fun _ => 1) [] [] :=
  ⟨Nat.le_refl _, fun _ _ h => by simp at h, fun _ _ h => by simp at h, fun _ _ h => by simp at h, fun _ _ _ _ _ h => by simp at h, cover0 n, fun _ => Nat.le_refl _⟩

section
variable {t n k m nx nx' c : Nat} {cg : Int} {q q' : Q} {gen : Nat → Nat} {ls ls' : List Ox} {rs : List Rec} {own : Bool} {Z : Nat}

theorem Book.on (B : Book n c q gen ls rs) : Book n (c + 1) q gen ls rs := ⟨by have := B.len; omega, B.rg, B.live, B.dead, B.two, B.cov, fun x => by have := B.gb x; omega⟩

theorem Book.no (B : Book n c q gen ls rs) (hF : q'.F = q.F) : Book n (c + 1) q' gen ls rs := ⟨by have := B.len; omega, B.rg, B.live, B.dead, B.two, fun x hx => by rw [hF]; exact B.cov x hx, fun x => by have := B.gb x; omega⟩

theorem Book.made (B : Book n c q gen ls rs) (C : Tame t n k m q nx gen ls) {o : Ox} (C' : Tame t n k m q' nx' gen (o :: ls)) (hF : q.F = o.x :: q'.F) (L : Cover n q' (o :: ls)) : Book n (c + 1) q' gen (o :: ls) (rs ++ [⟨o.x, o.g, o.Z, o.own, true⟩]) := by
  have ok := C'.ok o (by simp)
  have cases_ : ∀ (j : Nat) (r : Rec), (rs ++ [⟨o.x, o.g, o.Z, o.own, true⟩])[j]? = some r → rs[j]? = some r ∨ (j = rs.length ∧ r = ⟨o.x, o.g, o.Z, o.own, true⟩) := by
    intro j r h
    by_cases hj : j < rs.length
    · rw [List.getElem?_append_left hj] at h; exact Or.inl h
    · have h2 : j < (rs ++ [(⟨o.x, o.g, o.Z, o.own, true⟩ : Rec)]).length := (List.getElem?_eq_some_iff.1 h).1
      simp at h2
      obtain rfl : j = rs.length := by omega
      simp at h
      exact Or.inr ⟨rfl, h.symm⟩
  have fresh : ∀ (j : Nat) (r : Rec), rs[j]? = some r → r.live = true → r.x ≠ o.x := by
    intro j r h hl e
    obtain ⟨o', ho', hx, _⟩ := B.live j r h hl
    have := (C.li o' ho').nf
    rw [hF, hx, e] at this
    exact this (by simp)
  refine ⟨by have := B.len; simp; omega, fun j r h => ?_, fun j r h hl => ?_, fun j r h hl => ?_, fun i j r r' hij h h' hl hl' => ?_, L, fun x => by have := B.gb x; omega⟩
  · rcases cases_ j r h with h | ⟨_, rfl⟩
    · exact B.rg j r h
    · exact ⟨ok.x1, ok.g1, ok.g2, ok.z1, ok.z2⟩
  · rcases cases_ j r h with h | ⟨_, rfl⟩
    · obtain ⟨o', ho', hh⟩ := B.live j r h hl
      exact ⟨o', by simp [ho'], hh⟩
    · exact ⟨o, by simp, rfl, rfl, rfl, rfl⟩
  · rcases cases_ j r h with h | ⟨_, rfl⟩
    · exact B.dead j r h hl
    · cases hl
  · rcases cases_ i r h with h | ⟨hi, rfl⟩ <;> rcases cases_ j r' h' with h' | ⟨hj, rfl⟩
    · exact B.two i j r r' hij h h' hl hl'
    · exact fresh i r h hl
    · exact fun e => fresh j r' h' hl' e.symm
    · omega

/-- the one that is let go -/
theorem Book.find (B : Book n c q gen ls rs) {j : Nat} {r : Rec} (h : rs[j]? = some r) (hl : r.live = true) : ∃ l1 o l2, ls = l1 ++ o :: l2 ∧ o.x = r.x ∧ o.g = r.g ∧ o.Z = r.Z ∧ o.own = r.own := by
  obtain ⟨o, ho, hh⟩ := B.live j r h hl
  obtain ⟨l1, l2, e⟩ := List.append_of_mem ho
  exact ⟨l1, o, l2, e, hh⟩

theorem Book.gone {l1 l2 : List Ox} {o : Ox} (B : Book n c q gen (l1 ++ o :: l2) rs) (C : Tame t n k m q nx gen (l1 ++ o :: l2)) {j : Nat} {r : Rec} (h : rs[j]? = some r) (hl : r.live = true) (hx : o.x = r.x) (hg : o.g = r.g) (hF : q'.F = o.x :: q.F) : Book n (c + 1) q' (upd gen o.x (o.g + 1)) (l1 ++ l2) (rs.set j { r with live := false }) := by
  have hjl : j < rs.length := (List.getElem?_eq_some_iff.1 h).1
  have hgn : gen o.x = o.g := C.gn o (by simp)
  have cases_ : ∀ (i : Nat) (r' : Rec), (rs.set j { r with live := false })[i]? = some r' → (i ≠ j ∧ rs[i]? = some r') ∨ (i = j ∧ r' = { r with live := false }) := by
    intro i r' h'
    by_cases e : j = i
    · subst e
      rw [List.getElem?_set_self hjl] at h'
      exact Or.inr ⟨rfl, (Option.some.inj h').symm⟩
    · rw [List.getElem?_set_ne e] at h'
      exact Or.inl ⟨fun e' => e e'.symm, h'⟩
  refine ⟨by have := B.len; simp; omega, fun i r' h' => ?_, fun i r' h' hl' => ?_, fun i r' h' hl' => ?_, fun i i' r1 r2 hii h1 h2 hl1 hl2 => ?_, fun x hx' => ?_, fun x => ?_⟩
  · rcases cases_ i r' h' with ⟨_, h'⟩ | ⟨_, rfl⟩
    · exact B.rg i r' h'
    · exact B.rg j r h
  · rcases cases_ i r' h' with ⟨hij, h'⟩ | ⟨_, rfl⟩
    · obtain ⟨o', ho', hh⟩ := B.live i r' h' hl'
      have hne : r'.x ≠ r.x := B.two i j r' r hij h' h hl' hl
      refine ⟨o', ?_, hh⟩
      rcases List.mem_append.1 ho' with h3 | h3
      · exact List.mem_append_left _ h3
      · rcases List.mem_cons.1 h3 with rfl | h3
        · exact absurd (hh.1.symm.trans hx) hne
        · exact List.mem_append_right _ h3
    · cases hl'
  · rcases cases_ i r' h' with ⟨hij, h'⟩ | ⟨_, rfl⟩
    · have hd := B.dead i r' h' hl'
      by_cases e : r'.x = o.x
      · rw [e, upd_same]; rw [e, hgn] at hd; omega
      · rw [upd_other _ _ _ _ e]; exact hd
    · show r.g < upd gen o.x (o.g + 1) r.x
      rw [← hx, upd_same]; omega
  · rcases cases_ i r1 h1 with ⟨_, h1⟩ | ⟨_, rfl⟩
    · rcases cases_ i' r2 h2 with ⟨_, h2⟩ | ⟨_, rfl⟩
      · exact B.two i i' r1 r2 hii h1 h2 hl1 hl2
      · cases hl2
    · cases hl1
  · rw [hF]
    rcases B.cov x hx' with h3 | ⟨o', ho', e⟩
    · exact Or.inl (List.mem_cons_of_mem _ h3)
    · rcases List.mem_append.1 ho' with h3 | h3
      · exact Or.inr ⟨o', List.mem_append_left _ h3, e⟩
      · rcases List.mem_cons.1 h3 with rfl | h3
        · exact Or.inl (by rw [e]; simp)
        · exact Or.inr ⟨o', List.mem_append_right _ h3, e⟩
  · by_cases e : x = o.x
    · subst e
      have := B.gb o.x
      rw [upd_same]; omega
    · rw [upd_other _ _ _ _ e]
      have := B.gb x; omega

/-- one that was let go is none that lives -/
theorem Book.old (B : Book n c q gen ls rs) (C : Tame t n k m q nx gen ls) {j : Nat} {r : Rec} (h : rs[j]? = some r) (hl : r.live = false) : ∀ o ∈ ls, ¬ (o.x = r.x ∧ o.g = r.g) := by
  intro o ho ⟨hx, hg⟩
  have hd := B.dead j r h hl
  have := C.gn o ho
  rw [hx] at this
  omega
end

/-- the numbers, as what they are kept -/
def Rec.h (r : Rec) : Value := .int .u64 (packH r.x r.g)
def Rec.l (r : Rec) : Value := .bool r.live
def Rec.o (r : Rec) : Value := .bool r.own
def Rec.z (r : Rec) : Value := .int .i64 r.Z

end Go.Proofs.YtbmiieaakbcncaaGreat
