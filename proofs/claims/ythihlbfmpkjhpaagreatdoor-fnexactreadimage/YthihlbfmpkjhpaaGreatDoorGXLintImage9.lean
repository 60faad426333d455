/- How a form's number is laid into a word: contracts. -/
import Derived.Test.YthihlbfmpkjhpaaGreatDoorGXLintImage6
namespace Go.Proofs.YthihlbfmpkjhpaaGreatDoor
open Go.RowKit
set_option linter.unusedVariables false
end Go.Proofs.YthihlbfmpkjhpaaGreatDoor
