/- flowShape: contract. -/
import Derived.Test.YtelogjpjglohoaaGreatDoorGXTabBase3
namespace Go.Proofs.YtelogjpjglohoaaGreatDoor
open Go.RowKit
set_option linter.unusedVariables false

set_option maxRecDepth 100000 in
set_option maxHeartbeats 40000000 in
theorem flowC (op : Int) (w : World) (hr : Hid (op ≤ 10 ∨ 63 ≤ op)) :
    Calls Tryz.prog 135 #[.int .i64 op] w fun e w' => e = .returned (shV (shT op)) ∧ Below w.heap.size w w' := by
  go_enter Tryz.func135, Tryz.ntmps135
  go_wp2
  all_goals first
    | (obtain rfl := eq_of_beq (‹(op == _) = true›)
       skip
       exact bodyPost_ret (v := shV (shT _)) (by simp [results, Tryz.results135, go_sem]; rfl) rfl ⟨rfl, (Below.refl _ _).alloc (Nat.le_refl _) _⟩)
    | (have ho : shT op = (0, 0, 0, 0) := by
         apply shT_out
         have h2 : op ≤ 10 ∨ 63 ≤ op := hr.out
         simp only [beq_eq_false_iff_ne] at *
         omega
       rw [ho]
       exact bodyPost_ret (v := shV (0, 0, 0, 0)) (by simp [results, Tryz.results135, go_sem]; rfl) rfl ⟨rfl, (Below.refl _ _).alloc (Nat.le_refl _) _⟩)

end Go.Proofs.YtelogjpjglohoaaGreatDoor
