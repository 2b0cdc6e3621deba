/- A region that draws its order and in which something is done to a memory by which no word is another one: one walk in the order of the text serves every order. -/
import Derived.Test.YtmndmialhhbogaaMemnil
namespace Go.Proofs.Ytmndmialhhbogaa
open Go.RowKit

/-- a world that came out of w by steps at the memory L that left its words -/
structure Stay (w : World) (L : Loc) (s : Mm) where
  now : World
  mem : ∃ t : Mm, MemAt now L t ∧ t.n = s.n ∧ t.wd = s.wd
  only : Only L.has w now

theorem wp_region_stay {P : Program} {id : Nat} {Q : Exit → Act → World → Prop} {a : Act} {w : World} {L : Loc} {s : Mm} {l : List Oper} (hs : MemAt w L s) (hm : P.follows .mixedOrders = true) (hB : Region.lexB .any l.toArray = true)
    (h : wpQuiet P l.toArray (fun w' => ∃ n : Stay w L s, w' = n.now) (fun a' => ∀ w', (∃ n : Stay w L s, w' = n.now) → Q .normal a' w') l a) : (Code.region id l.toArray true).wp P Q a w :=
  wp_region_quiet (C := fun w' => ∃ n : Stay w L s, w' = n.now) hm hB ⟨⟨_, ⟨s, hs.drew, rfl, rfl⟩, (Only.refl _ _).drew⟩, rfl⟩ (by simpa using h)

theorem Stay.exists {w : World} {L : Loc} {s : Mm} (hs : MemAt w L s) : Nonempty (Stay w L s) := ⟨⟨w, ⟨s, hs, rfl, rfl⟩, Only.refl _ _⟩⟩

theorem Stay.cell {w : World} {L : Loc} {s : Mm} (n : Stay w L s) {b o : Nat} {v : Value} (hb : ¬ L.has b) (h : w.cell? ⟨b, o, none⟩ = some v) : n.now.cell? ⟨b, o, none⟩ = some v := n.only.keep hb h

/-- to exchange what is not there leaves all words -/
theorem stay_cas {w : World} {L : Loc} {s : Mm} (n : Stay w L s) (a : Nat) (ha : a < s.n) (old v : Int) (hne : ¬ s.wd a = old) :
    Calls Try.prog 12 #[.pointer (some ⟨L.p, 0, none⟩), .int .i64 a, .int .u64 old, .int .u64 v] n.now fun e w' => e = .returned (.tuple #[.bool false, .int .i64 0]) ∧ ∃ m : Stay w L s, w' = m.now := by
  obtain ⟨t, ht, hn, hw⟩ := n.mem
  have hne' : ¬ t.wd a = old := by rw [hw]; exact hne
  refine (cas_in ht a (by omega) old v).mono ?_
  rintro e w' ⟨rfl, h1, h2, _⟩
  rw [Mm.cas, if_neg hne'] at h1
  rw [decide_eq_false hne']
  exact ⟨rfl, ⟨w', ⟨_, h1, hn, by show upd t.wd a (t.wd a) = s.wd; rw [upd_id, hw]⟩, n.only.trans h2⟩, rfl⟩

end Go.Proofs.Ytmndmialhhbogaa
