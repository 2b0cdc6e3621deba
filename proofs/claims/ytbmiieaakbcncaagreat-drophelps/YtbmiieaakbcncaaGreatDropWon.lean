/- Won of package drop. -/
import Derived.Test.YtbmiieaakbcncaaGreatDropHelp
namespace Go.Proofs.YtbmiieaakbcncaaGreat
open Go.RowKit

theorem hwon_any {w : World} {b o : Nat} {T : TypeId} {cs : Array Value} {x was Z j se : Int} {ld ov wn : Bool} (hi : At w b o T cs (HpV x was Z j se ld ov wn)) :
    Calls Tryz.prog 28 #[.pointer (some ⟨b, o, none⟩)] w fun e w' => e = .returned (.bool wn) ∧ w' = w := by
  have k7 := hi.cell 7 rfl
  go_enter Tryz.func28, Tryz.ntmps28
  go_wp2
  go_ret
  exact ⟨rfl, rfl⟩

theorem hwon_nil (w : World) : Calls Tryz.prog 28 #[.pointer none] w fun e w' => e = .returned (.bool false) ∧ w' = w := by
  go_enter Tryz.func28, Tryz.ntmps28
  go_wp2
  go_ret
  exact ⟨rfl, rfl⟩

end Go.Proofs.YtbmiieaakbcncaaGreat
