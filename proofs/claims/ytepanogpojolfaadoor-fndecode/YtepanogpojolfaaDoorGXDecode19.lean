/- l02Shape: contract. -/
import Derived.Test.YtepanogpojolfaaDoorGXDecode1
namespace Go.Proofs.YtepanogpojolfaaDoor
open Go.RowKit
set_option linter.unusedVariables false

set_option maxRecDepth 100000 in
set_option maxHeartbeats 40000000 in
theorem specShC (op : Int) (w : World)  :
    Calls Tryd.prog 70 #[.int .i64 op] w fun e w' => e = .returned (shV (shT op)) ∧ Below w.heap.size w w' := by
  go_enter Tryd.func70, Tryd.ntmps70
  go_wp2
  all_goals first
    | (obtain rfl := eq_of_beq (‹(op == _) = true›)
       skip
       exact bodyPost_ret (v := shV (shT _)) (by simp [results, Tryd.results70, go_sem]; rfl) rfl ⟨rfl, (Below.refl _ _).alloc (Nat.le_refl _) _⟩)
    | (have ho : shT op = (0, 0, 0, 0) := by
         apply shT_out
         simp only [beq_eq_false_iff_ne] at *
         omega
       rw [ho]
       exact bodyPost_ret (v := shV (0, 0, 0, 0)) (by simp [results, Tryd.results70, go_sem]; rfl) rfl ⟨rfl, (Below.refl _ _).alloc (Nat.le_refl _) _⟩)

end Go.Proofs.YtepanogpojolfaaDoor
