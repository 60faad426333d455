/- A list of shadow variables that comes in. -/
import Derived.Test.YtmbkkcdcccopiaaRecShw
namespace Go.Proofs.Ytmbkkcdcccopiaa
open Go Go.RowKit
set_option linter.unusedVariables false
/-- What the walk is told of it. -/
def IsShws (w : World) (p : Option Addr) (n c : Nat) (S : Nat → ShwD) : Prop := ShwsAt w p n S ∧ (∀ i, i < n → (S i).wf) ∧ n ≤ c ∧ c ≤ maxLen
end Go.Proofs.Ytmbkkcdcccopiaa
