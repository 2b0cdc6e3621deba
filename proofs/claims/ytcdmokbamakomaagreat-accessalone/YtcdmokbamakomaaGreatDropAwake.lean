/- The statements' own first look at package drop: an object goes once. -/
import Derived.Test.YtcdmokbamakomaaGreatDropFarm
namespace Go.Proofs.YtcdmokbamakomaaGreat
open Go.RowKit

/-- the first object of the first arena -/
def ox1 : Ox := ⟨0, 1, base 1 4 2 20 0, 0, 0, 2, 0, false⟩
def qa : Q := (Q.new 4).made 0 [1, 2, 3] y1 (base 1 4 2 20 0) 0 0 2 false
theorem good1 : Good 1 4 2 20 100 600 3 := goodp (by omega) (by omega) (by omega) (by omega)

section
variable {w0 w : World} {L : Loc} {bE σ : Nat} {s : Mm}

theorem aw_make (f : Farm w0 w L bE 1 4 2 20 100 s σ (Q.new 4) 0 (fun _ => 1) []) (a : FarmApart w0 L bE 1 4 2 20 100) (hσ : σ + 400 < 1000000) :
    Calls Tryz.prog 11 #[.agg #[.int .i64 1, .int .i64 4, .int .i64 2, .int .i64 20, .int .i64 100, .int .i64 600, .int .i64 3, .pointer (some ⟨L.p, 0, none⟩), .int .i64 0], .int .i64 2, .bool false] w fun e w' => ∃ (st : Nat) (s' : Mm) (σ' : Nat), e = .returned (.agg #[.int .i64 0, .int .u64 65536, .int .i64 0, .int .i64 st]) ∧ σ' ≤ σ + 100 ∧ Farm w0 w' L bE 1 4 2 20 100 s' σ' qa 1 (fun _ => 1) ([] ++ ox1 :: []) ∧ Only L.has w w' := by
  have g : Got 2 20 0 (base 1 4 2 20) (Q.new 4).y 0 y1 (0 + 1) (.won (base 1 4 2 20 0) 0) := .new (fun i h => by simp [Q.new, Y.new] at h) (by decide)
  have k := f.ok (own := false) a (Z := 2) (κ := 0) (by decide) (by decide) rfl (by decide) (x := 0) (F := [1, 2, 3]) rfl g hσ
  rw [show packH ((0 : Nat) : Int) (((fun _ => 1) 0 : Nat) : Int) = 65536 from packH01] at k
  refine k.mono ?_
  rintro e w' ⟨st, s', σ', rfl, -, -, h3, f', o'⟩
  exact ⟨st, s', σ', rfl, h3, f', o'⟩

end

end Go.Proofs.YtcdmokbamakomaaGreat
