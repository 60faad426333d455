/- InstrOK, told fields '12i'. -/
import Derived.Test.YthihlbfmpkjhpaaGreatDoorGXLintImage16
namespace Go.Proofs.YthihlbfmpkjhpaaGreatDoor
open Go.RowKit
set_option linter.unusedVariables false

end Go.Proofs.YthihlbfmpkjhpaaGreatDoor
