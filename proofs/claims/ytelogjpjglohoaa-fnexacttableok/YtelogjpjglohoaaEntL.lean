/- A list of entries that comes in. -/
import Derived.Test.YtelogjpjglohoaaRecEnt
namespace Go.Proofs.Ytelogjpjglohoaa
open Go Go.RowKit
set_option linter.unusedVariables false
/-- What the walk is told of it. -/
def IsEnts (w : World) (p : Option Addr) (n c : Nat) (S : Nat → EntD) : Prop := EntsAt w p n S ∧ (∀ i, i < n → (S i).wf) ∧ n ≤ c ∧ c ≤ maxLen
end Go.Proofs.Ytelogjpjglohoaa
