/- InstrOK, told fields 'd12'. InstrOK, told fields ''. InstrOK of the program: the contract. Encode of the program: the contract. -/
import Derived.Test.YthihlbfmpkjhpaaGreatDoorGXLintImage16
import Derived.Test.YthihlbfmpkjhpaaGreatDoorGXLintImage23
import Derived.Test.YthihlbfmpkjhpaaGreatDoorGXLintImage24
import Derived.Test.YthihlbfmpkjhpaaGreatDoorGXLintImage25
import Derived.Test.YthihlbfmpkjhpaaGreatDoorGXLintImage26
import Derived.Test.YthihlbfmpkjhpaaGreatDoorGXLintImage17
import Derived.Test.YthihlbfmpkjhpaaGreatDoorGXLintImage19
import Derived.Deep.RegionHeld3
namespace Go.Proofs.YthihlbfmpkjhpaaGreatDoor
open Go.RowKit
set_option linter.unusedVariables false

end Go.Proofs.YthihlbfmpkjhpaaGreatDoor

namespace Go.Proofs.YthihlbfmpkjhpaaGreatDoor
open Go.RowKit
set_option linter.unusedVariables false

end Go.Proofs.YthihlbfmpkjhpaaGreatDoor

namespace Go.Proofs.YthihlbfmpkjhpaaGreatDoor
open Go.RowKit
set_option linter.unusedVariables false

end Go.Proofs.YthihlbfmpkjhpaaGreatDoor

namespace Go.Proofs.YthihlbfmpkjhpaaGreatDoor
open Go.RowKit
set_option linter.unusedVariables false

theorem right_parts {f rd r1 r2 im : Int} (h0 : 1 ≤ f) (h1 : f ≤ 9) (h : rightF f rd r1 r2 im = true) :
    (regB rd = true ∧ regB r1 = true ∧ regB r2 = true) ∧ (f = 4 ∨ f = 5 ∨ f = 9 → rd = 0) ∧ (f = 1 ∨ f = 2 ∨ f = 9 → r1 = 0) ∧ (¬ (f = 4 ∨ f = 5 ∨ f = 8) → r2 = 0) := by
  have hz : ∀ r : Int, (r == 0) = true → regB r = true ∧ r = 0 := fun r e => by
    have := eq_of_beq e
    subst this
    exact ⟨rfl, rfl⟩
  rcases (show f = 1 ∨ f = 2 ∨ f = 3 ∨ f = 4 ∨ f = 5 ∨ f = 6 ∨ f = 7 ∨ f = 8 ∨ f = 9 by omega) with rfl | rfl | rfl | rfl | rfl | rfl | rfl | rfl | rfl
  all_goals
    simp [rightF] at h
    simp
    try omega
  all_goals simp_all [regB]

theorem shapeCs (op f c g h : Int) (w : World) (hs : shT op = (f, c, g, h)) :
    Calls Tryz.prog 133 #[.int .i64 op] w fun e w' => e = .returned (.agg #[.int .i64 f, .int .i64 c, .int .i64 g, .int .i64 h]) ∧ Below w.heap.size w w' := by
  have := shapeC op w
  rw [hs] at this
  exact this

end Go.Proofs.YthihlbfmpkjhpaaGreatDoor
