/- l02Shape: contract. The model's check of an operation's number: the contract. -/
import Derived.Test.YtdbngfeelfgbeaaGreatDoorGLTexts5
import Derived.Test.YtdbngfeelfgbeaaGreatDoorGLTexts4
namespace Go.Proofs.YtdbngfeelfgbeaaGreatDoor
open Go.RowKit
set_option linter.unusedVariables false

set_option maxRecDepth 100000 in
set_option maxHeartbeats 40000000 in
theorem specShC (op : Int) (w : World)  :
    Calls Tryz.prog 28 #[.int .i64 op] w fun e w' => e = .returned (shV (shT op)) ∧ Below w.heap.size w w' := by
  go_enter Tryz.func28, Tryz.ntmps28
  go_wp2
  all_goals first
    | (obtain rfl := eq_of_beq (‹(op == _) = true›)
       skip
       exact bodyPost_ret (v := shV (shT _)) (by simp [results, Tryz.results28, go_sem]; rfl) rfl ⟨rfl, (Below.refl _ _).alloc (Nat.le_refl _) _⟩)
    | (have ho : shT op = (0, 0, 0, 0) := by
         apply shT_out
         simp only [beq_eq_false_iff_ne] at *
         omega
       rw [ho]
       exact bodyPost_ret (v := shV (0, 0, 0, 0)) (by simp [results, Tryz.results28, go_sem]; rfl) rfl ⟨rfl, (Below.refl _ _).alloc (Nat.le_refl _) _⟩)

end Go.Proofs.YtdbngfeelfgbeaaGreatDoor

namespace Go.Proofs.YtdbngfeelfgbeaaGreatDoor
open Go.RowKit
set_option linter.unusedVariables false

theorem spOp1 (c : Int) (w : World) (b : Bool) (h : (b = true ∧ 1 ≤ c ∧ c ≤ 64) ∨ (b = false ∧ (c < 1 ∨ 64 < c))) :
    Calls Tryz.prog 27 #[.int .i64 c] w fun e w' => e = .returned (.bool b) ∧ w' = w := by
  go_enter Tryz.func27, Tryz.ntmps27
  go_wp2_with fail
  refine (spIn _ _ _ _ b h).mono ?_
  rintro e w1 ⟨rfl, rfl⟩
  clear h
  go_wp2
  go_ret
  exact ⟨rfl, rfl⟩

end Go.Proofs.YtdbngfeelfgbeaaGreatDoor
