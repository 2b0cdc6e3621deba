/- By a handle that nobody made nothing is done to words. -/
import Derived.Test.YtcdmokbamakomaaGreatAccArgs
import Derived.Test.YtcdmokbamakomaaGreatDropActs
namespace Go.Proofs.YtcdmokbamakomaaGreat
open Go.RowKit

/-- no object lives by a handle that is of no object in that life -/
theorem Tame.dead {t n k m nx : Nat} {q : Q} {gen : Nat → Nat} {ls : List Ox} {cg : Int} (C : Tame t n k m q nx gen ls) (hG : Good t n k m cg 600 3) (hn : n ≤ 65535) (cov : Cover n q ls) {x G : Nat} (hx : x < n) (h : ∀ o ∈ ls, ¬ (o.x = x ∧ o.g = G)) : (lifeB (q.sw x % 8) && decide (genOf (q.sw x) = G)) = false := by
  rcases cov x hx with hF | ⟨o, ho, rfl⟩
  · have e := C.sw x hF
    have b := (C.gb x hx).2
    have d := packS_dec (st := 0) (A := 0) (G := gen x) (V := 0) (by decide) (by decide) b (by decide)
    rw [e, show packS 0 0 (gen x : Int) 0 = packS ((0 : Nat) : Int) ((0 : Nat) : Int) (gen x) ((0 : Nat) : Int) from rfl, d.1]
    rfl
  · have I := C.is hG hn ho
    have : ¬ genOf (q.sw o.x) = G := fun e => h o ho ⟨rfl, by rw [← I.gn]; exact e⟩
    rw [decide_eq_false this, Bool.and_false]

/-- a number is a handle, of a slot and a life, or none -/
theorem hand_cases (nu : Int) : (nu < 65536 ∨ 4294967296 ≤ nu) ∨ ∃ x G : Nat, HandIs nu x G ∧ x ≤ 65535 ∧ 1 ≤ G ∧ G ≤ 65535 ∧ nu = packH x G := by
  by_cases h1 : nu < 65536 ∨ 4294967296 ≤ nu
  · exact Or.inl h1
  · refine Or.inr ⟨(nu % 65536).toNat, (nu / 65536).toNat, ⟨by omega, by omega, by omega, by omega⟩, by omega, by omega, by omega, ?_⟩
    rw [packH_is _ _ (by omega) (by omega)]
    omega

section
variable {w0 w : World} {L : Loc} {bE t n k m σ nx : Nat} {s : Mm} {q : Q} {ls : List Ox} {W : Wt} {own : Bool}

/-- by a handle that nobody made nothing is read or laid, and no word is changed -/
theorem forged10 (hnu : Wd W.nu) (hW : W.ok) (a : FarmApart w0 L bE t n k m 100) (hσ : σ + 200 < 1000000) (cov : Cover n q ls) (non : ∀ o ∈ ls, ¬ (packH o.x o.g = W.nu ∧ o.own = own)) (f : Farm w0 w L bE t n k m 100 s σ q nx (fun _ => 1) ls) :
    Calls Tryz.prog 13 #[.agg #[.int .i64 t, .int .i64 n, .int .i64 k, .int .i64 m, .int .i64 100, .int .i64 600, .int .i64 3, .pointer (some ⟨L.p, 0, none⟩), .int .i64 0], .agg #[.int .i64 W.kd, .int .u64 W.nu, .int .i64 W.ix, .int .i64 W.vl, .int .i64 W.ol], .bool own] w fun e w' => ∃ (st : Nat) (s' : Mm), e = .returned (.agg #[.int .i64 3, .int .u64 0, .int .i64 0, .int .i64 st]) ∧ MemAt w' L s' ∧ s'.n = s.n ∧ s'.wd = s.wd ∧ BoxV w' bE t n k m 100 600 3 L.p 0 ∧ Below w0.heap.size w0 w' ∧ Only L.has w w' := by
  have hn := f.tw.pile.big
  have hlen := f.tw.len
  rcases hand_cases W.nu with h | ⟨x, G, hh, hx, g1, g2, hnuE⟩
  · refine (do_none (own := own) (t := t) (n := n) (k := k) (m := m) (σ := σ) f.mm hW.k hnu h f.tw.pile.st).mono ?_
    rintro e w' ⟨rfl, m', o'⟩
    exact ⟨_, s, rfl, m', rfl, rfl, f.v.only o' a.e, mgrow f.b o' a.l0, o'⟩
  · by_cases hxn : x < n
    · by_cases hl : ∃ o ∈ ls, o.x = x ∧ o.g = G
      · obtain ⟨o, ho, rfl, rfl⟩ := hl
        have hw : o.own ≠ own := fun e => non o ho ⟨hnuE.symm, e⟩
        refine (do_goes f.mm f.tw a.g f.tm.wb hh hxn hW hσ (by decide) ((f.tm.scn a.g hn ho).not_own hw)).mono ?_
        rintro e w' ⟨rfl, s', m', t', o', e'⟩
        exact ⟨_, s', rfl, m', by rw [t'.len, hlen], e' rfl, f.v.only o' a.e, mgrow f.b o' a.l0, o'⟩
      · refine (do_goes f.mm f.tw a.g f.tm.wb hh hxn hW hσ (by decide) (aruns_dead (f.tm.dead a.g hn cov hxn fun o ho e => hl ⟨o, ho, e⟩))).mono ?_
        rintro e w' ⟨rfl, s', m', t', o', e'⟩
        exact ⟨_, s', rfl, m', by rw [t'.len, hlen], e' rfl, f.v.only o' a.e, mgrow f.b o' a.l0, o'⟩
    · refine (do_out (own := own) (σ := σ) f.mm hW.k a.g (by rw [hlen]; exact Nat.le_refl _) hh (by omega) f.tw.pile.st).mono ?_
      rintro e w' ⟨rfl, m', o'⟩
      exact ⟨_, s, rfl, m', rfl, rfl, f.v.only o' a.e, mgrow f.b o' a.l0, o'⟩

end

end Go.Proofs.YtcdmokbamakomaaGreat
