/- The program's test of a function's place. -/
import Derived.Test.YtelogjpjglohoaaRows
import Derived.WalkKit
import Derived.WalkSpells
import Derived.ProofKit
import Derived.Below
namespace Go.Proofs.Ytelogjpjglohoaa
open Go Go.RowKit
set_option linter.unusedVariables false

def plB (a : Int) : Bool := decide (0 ≤ a ∧ a ≤ 1048575 ∧ a % 4 = 0)
theorem placeC (a : Int) (w : World) (hw : (Lit.int .i64 a).wf = true) :
    Calls Try.prog 53 #[.int .i64 a] w fun e w' => e = .returned (.bool (plB a)) ∧ w' = w := by
  by_cases h0 : 0 ≤ a
  · by_cases h1 : a ≤ 1048575
    · by_cases h2 : a % 4 = 0
      · have e : plB a = true := by simp [plB, h0, h1, h2]
        rw [e]
        go_enter Try.func53, Try.ntmps53
        go_wp2
        go_ret
        exact ⟨rfl, rfl⟩
      · have e : plB a = false := by simp [plB, h0, h1, h2]
        rw [e]
        go_enter Try.func53, Try.ntmps53
        go_wp2
        go_ret
        exact ⟨congrArg (fun x => Ending.returned (.bool x)) (by simp [h2]), rfl⟩
    · have e : plB a = false := by simp [plB, h0, h1]
      rw [e]
      go_enter Try.func53, Try.ntmps53
      go_wp2
      go_ret
      exact ⟨rfl, rfl⟩
  · have e : plB a = false := by simp [plB, h0]
    rw [e]
    go_enter Try.func53, Try.ntmps53
    go_wp2
    go_ret
    exact ⟨rfl, rfl⟩

end Go.Proofs.Ytelogjpjglohoaa
