/- The statements' own first look at package drop: an object goes once. -/
import Derived.Test.YtcdmokbamakomaaGreatDropFarm
namespace Go.Proofs.YtcdmokbamakomaaGreat
open Go.RowKit

/-- the first object of the first arena -/
def ox1 : Ox := ⟨0, 1, base 1 4 2 20 0, 0, 0, 2, 0, false⟩
def qa : Q := (Q.new 4).made 0 [1, 2, 3] y1 (base 1 4 2 20 0) 0 0 2 false
def qb : Q := qa.gone 100 ox1.x (qa.sw ox1.x) ox1.Z ox1.i

theorem good1 : Good 1 4 2 20 100 600 3 := goodp (by omega) (by omega) (by omega) (by omega)

theorem qb_dead : (lifeB (qb.sw 0 % 8) && decide (genOf (qb.sw 0) = 1)) = false := by
  have e : qb.sw 0 = behindW 100 (qa.sw 0) := by
    unfold qb Q.gone Q.end
    exact upd_same qa.sw 0 (behindW 100 (qa.sw 0))
  have e2 : qa.sw 0 = packS 1 (base 1 4 2 20 0) (genOf ((Q.new 4).sw 0)) 0 := by
    unfold qa Q.made
    exact upd_same (Q.new 4).sw 0 (packS 1 (base 1 4 2 20 0) (genOf ((Q.new 4).sw 0)) 0)
  rw [show genOf ((Q.new 4).sw 0) = 1 from gen1] at e2
  have d := packS_dec (st := 1) (A := base 1 4 2 20 0) (G := 1) (V := 0) (by decide) (by decide) (by decide) (by decide)
  have g : genOf (qa.sw 0) = 1 := by rw [e2]; exact d.2.2.1
  have b : behindW 100 (qa.sw 0) = packS ((0 : Nat) : Int) ((0 : Nat) : Int) ((2 : Nat) : Int) ((0 : Nat) : Int) := by
    unfold behindW
    rw [g, if_neg (by decide)]
    rfl
  have d2 := packS_dec (st := 0) (A := 0) (G := 2) (V := 0) (by decide) (by decide) (by decide) (by decide)
  rw [e, b, d2.1]
  rfl

section
variable {w0 w : World} {L : Loc} {bE σ : Nat} {s : Mm}

theorem aw_make (f : Farm w0 w L bE 1 4 2 20 100 s σ (Q.new 4) 0 (fun _ => 1) []) (a : FarmApart w0 L bE 1 4 2 20 100) (hσ : σ + 400 < 1000000) :
    Calls Tryz.prog 11 #[.agg #[.int .i64 1, .int .i64 4, .int .i64 2, .int .i64 20, .int .i64 100, .int .i64 600, .int .i64 3, .pointer (some ⟨L.p, 0, none⟩), .int .i64 0], .int .i64 2, .bool false] w fun e w' => ∃ (st : Nat) (s' : Mm) (σ' : Nat), e = .returned (.agg #[.int .i64 0, .int .u64 65536, .int .i64 0, .int .i64 st]) ∧ σ' ≤ σ + 100 ∧ Farm w0 w' L bE 1 4 2 20 100 s' σ' qa 1 (fun _ => 1) ([] ++ ox1 :: []) ∧ Only L.has w w' := by
  have g : Got 2 20 0 (base 1 4 2 20) (Q.new 4).y 0 y1 (0 + 1) (.won (base 1 4 2 20 0) 0) := .new (fun i h => by simp [Q.new, Y.new] at h) (by decide)
  have k := f.ok (own := false) a (Z := 2) (κ := 0) (by decide) (by decide) rfl (by decide) (x := 0) (F := [1, 2, 3]) rfl g hσ
  rw [show packH ((0 : Nat) : Int) (((fun _ => 1) 0 : Nat) : Int) = 65536 from packH01] at k
  refine k.mono ?_
  rintro e w' ⟨st, s', σ', rfl, -, -, h3, f', o'⟩
  exact ⟨st, s', σ', rfl, h3, f', o'⟩

theorem aw_gone (f : Farm w0 w L bE 1 4 2 20 100 s σ qa 1 (fun _ => 1) ([] ++ ox1 :: [])) (a : FarmApart w0 L bE 1 4 2 20 100) (hσ : σ + 200 < 1000000) :
    Calls Tryz.prog 18 #[.agg #[.int .i64 1, .int .i64 4, .int .i64 2, .int .i64 20, .int .i64 100, .int .i64 600, .int .i64 3, .pointer (some ⟨L.p, 0, none⟩), .int .i64 0], .int .u64 65536, .bool false] w fun e w' => ∃ (st : Int) (s' : Mm) (σ' : Nat), e = .returned (.agg #[.int .i64 0, .int .u64 0, .int .i64 0, .int .i64 st]) ∧ σ' ≤ σ + 40 ∧ Farm w0 w' L bE 1 4 2 20 100 s' σ' qb 1 (upd (fun _ => 1) 0 2) ([] ++ []) ∧ Only L.has w w' := by
  have k := f.gone a (show ((1 : Nat) : Int) < 100 by decide) hσ
  rw [show packH (ox1.x : Int) (ox1.g : Int) = 65536 from packH01] at k
  exact k

theorem aw_dead (f : Farm w0 w L bE 1 4 2 20 100 s σ qb 1 (upd (fun _ => 1) 0 2) ([] ++ [])) (a : FarmApart w0 L bE 1 4 2 20 100) (hσ : σ + 200 < 1000000) :
    Calls Tryz.prog 18 #[.agg #[.int .i64 1, .int .i64 4, .int .i64 2, .int .i64 20, .int .i64 100, .int .i64 600, .int .i64 3, .pointer (some ⟨L.p, 0, none⟩), .int .i64 0], .int .u64 65536, .bool false] w fun e w' => ∃ (st : Int) (s' : Mm), e = .returned (.agg #[.int .i64 3, .int .u64 0, .int .i64 0, .int .i64 st]) ∧ Farm w0 w' L bE 1 4 2 20 100 s' (σ + 1) qb 1 (upd (fun _ => 1) 0 2) ([] ++ []) ∧ Only L.has w w' ∧ s'.wd = s.wd := by
  have hh := handIs (x := 0) (G := 1) (by decide) (by decide) (by decide)
  rw [packH01] at hh
  exact f.dead (own := false) a hh (by decide) qb_dead hσ
end

end Go.Proofs.YtcdmokbamakomaaGreat
