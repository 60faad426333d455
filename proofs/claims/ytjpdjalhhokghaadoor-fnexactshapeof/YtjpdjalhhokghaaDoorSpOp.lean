/- The model's check of an operation's number: the contract. -/
import Derived.Test.YtjpdjalhhokghaaDoorSpIn
namespace Go.Proofs.YtjpdjalhhokghaaDoor
open Go.RowKit
set_option linter.unusedVariables false

theorem spOp1 (c : Int) (w : World) (b : Bool) (h : (b = true ∧ 1 ≤ c ∧ c ≤ 64) ∨ (b = false ∧ (c < 1 ∨ 64 < c))) :
    Calls Tryd.prog 62 #[.int .i64 c] w fun e w' => e = .returned (.bool b) ∧ w' = w := by
  go_enter Tryd.func62, Tryd.ntmps62
  go_wp2_with fail
  refine (spIn _ _ _ _ b h).mono ?_
  rintro e w1 ⟨rfl, rfl⟩
  clear h
  go_wp2
  go_ret
  exact ⟨rfl, rfl⟩

end Go.Proofs.YtjpdjalhhokghaaDoor
