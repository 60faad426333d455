/- numberShape: contract. -/
import Derived.Test.YtelogjpjglohoaaGreatDoorGXTabBase3
namespace Go.Proofs.YtelogjpjglohoaaGreatDoor
open Go.RowKit
set_option linter.unusedVariables false

set_option maxRecDepth 100000 in
set_option maxHeartbeats 40000000 in
theorem numberC (op : Int) (w : World) (hc : Hid (op = 22 ∨ op = 23 ∨ op = 24 ∨ op = 25 ∨ op = 26 ∨ op = 27 ∨ op = 28 ∨ op = 29 ∨ op = 30 ∨ op = 41 ∨ op = 42 ∨ op = 43 ∨ op = 44)) :
    Calls Tryz.prog 137 #[.int .i64 op] w fun e w' => e = .returned (shV (shT op)) ∧ Below w.heap.size w w' := by
  go_enter Tryz.func137, Tryz.ntmps137
  go_wp2
  all_goals first
    | (obtain rfl := eq_of_beq (‹(op == _) = true›)
       clear hc
       exact bodyPost_ret (v := shV (shT _)) (by simp [results, Tryz.results137, go_sem]; rfl) rfl ⟨rfl, (Below.refl _ _).alloc (Nat.le_refl _) _⟩)
    | (exfalso
       have h2 : op = 22 ∨ op = 23 ∨ op = 24 ∨ op = 25 ∨ op = 26 ∨ op = 27 ∨ op = 28 ∨ op = 29 ∨ op = 30 ∨ op = 41 ∨ op = 42 ∨ op = 43 ∨ op = 44 := hc.out
       rcases h2 with rfl | rfl | rfl | rfl | rfl | rfl | rfl | rfl | rfl | rfl | rfl | rfl | rfl <;> first | contradiction | simp_all)

end Go.Proofs.YtelogjpjglohoaaGreatDoor
