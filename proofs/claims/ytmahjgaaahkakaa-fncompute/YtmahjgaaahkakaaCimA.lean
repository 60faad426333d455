/- The program's tables of operations, and its parts: contracts. -/
import Derived.Test.YtmahjgaaahkakaaCmpP
import Derived.Test.YtmahjgaaahkakaaTknB
import Derived.Test.YtmahjgaaahkakaaDivB
namespace Go.Proofs.Ytmahjgaaahkakaa
open Go.RowKit
set_option linter.unusedVariables false

def halfA : Array Value := #[.nilFunc, .nilFunc, .nilFunc, .nilFunc, .nilFunc, .nilFunc, .nilFunc, .nilFunc, .nilFunc, .nilFunc, .nilFunc, .nilFunc, .nilFunc, .nilFunc, .nilFunc, .nilFunc, .nilFunc, .nilFunc, .nilFunc, .nilFunc, .nilFunc, .nilFunc, .nilFunc, .nilFunc, .nilFunc, .nilFunc, .nilFunc, .nilFunc, .nilFunc, .nilFunc, .nilFunc, .nilFunc, .nilFunc, .nilFunc, .nilFunc, .nilFunc, .nilFunc, .nilFunc, .nilFunc, .nilFunc, .nilFunc, .nilFunc, .nilFunc, .nilFunc, .nilFunc, fnV 55, fnV 56, fnV 57, fnV 59, fnV 60, .nilFunc, .nilFunc, .nilFunc, .nilFunc, .nilFunc, .nilFunc, .nilFunc, .nilFunc, fnV 61, fnV 62, fnV 64, fnV 66, fnV 68]
def half0 : Array Value := #[.nilFunc, .nilFunc, .nilFunc, .nilFunc, .nilFunc, .nilFunc, .nilFunc, .nilFunc, .nilFunc, .nilFunc, .nilFunc, .nilFunc, .nilFunc, .nilFunc, .nilFunc, .nilFunc, .nilFunc, .nilFunc, .nilFunc, .nilFunc, .nilFunc, .nilFunc, .nilFunc, .nilFunc, .nilFunc, .nilFunc, .nilFunc, .nilFunc, .nilFunc, .nilFunc, .nilFunc, .nilFunc, .nilFunc, .nilFunc, .nilFunc, .nilFunc, .nilFunc, .nilFunc, .nilFunc, .nilFunc, .nilFunc, .nilFunc, .nilFunc, .nilFunc, .nilFunc, .nilFunc, .nilFunc, .nilFunc, .nilFunc, .nilFunc, .nilFunc, .nilFunc, .nilFunc, .nilFunc, .nilFunc, .nilFunc, .nilFunc, .nilFunc, .nilFunc, .nilFunc, .nilFunc, .nilFunc, .nilFunc]
def wholeA : Array Value := #[.nilFunc, .nilFunc, .nilFunc, .nilFunc, .nilFunc, .nilFunc, .nilFunc, .nilFunc, .nilFunc, .nilFunc, .nilFunc, .nilFunc, .nilFunc, .nilFunc, .nilFunc, .nilFunc, .nilFunc, .nilFunc, .nilFunc, .nilFunc, .nilFunc, .nilFunc, .nilFunc, .nilFunc, .nilFunc, .nilFunc, .nilFunc, .nilFunc, .nilFunc, .nilFunc, .nilFunc, fnV 70, fnV 71, fnV 72, fnV 73, fnV 75, fnV 76, fnV 77, fnV 78, fnV 79, fnV 80, .nilFunc, .nilFunc, .nilFunc, .nilFunc, .nilFunc, .nilFunc, .nilFunc, .nilFunc, .nilFunc, fnV 81, fnV 82, fnV 83, fnV 84, fnV 85, fnV 87, fnV 88, fnV 90]
def whole0 : Array Value := #[.nilFunc, .nilFunc, .nilFunc, .nilFunc, .nilFunc, .nilFunc, .nilFunc, .nilFunc, .nilFunc, .nilFunc, .nilFunc, .nilFunc, .nilFunc, .nilFunc, .nilFunc, .nilFunc, .nilFunc, .nilFunc, .nilFunc, .nilFunc, .nilFunc, .nilFunc, .nilFunc, .nilFunc, .nilFunc, .nilFunc, .nilFunc, .nilFunc, .nilFunc, .nilFunc, .nilFunc, .nilFunc, .nilFunc, .nilFunc, .nilFunc, .nilFunc, .nilFunc, .nilFunc, .nilFunc, .nilFunc, .nilFunc, .nilFunc, .nilFunc, .nilFunc, .nilFunc, .nilFunc, .nilFunc, .nilFunc, .nilFunc, .nilFunc, .nilFunc, .nilFunc, .nilFunc, .nilFunc, .nilFunc, .nilFunc, .nilFunc, .nilFunc]
set_option maxRecDepth 100000 in
theorem halfC (w : World) :
    Calls Try.prog 38 #[] w fun e w' => e = .returned (.agg halfA) ∧ Below w.heap.size w w' := by
  have hld := run_loadVar_new (P := Try.prog) w 48 halfA 63 47 (by kernel_rfl) (by kernel_rfl)
  go_enter Try.func38, Try.ntmps38
  go_wp2_with (first
    | (refine wpList_buildTo rfl 48 _ rfl (some 1) rfl halfA (by kernel_rfl) ?_)
    | (refine wpList_store_row rfl 48 _ _ rfl w.heap.size halfA rfl rfl 48 half0 (heap_alloc_last w _) (by kernel_rfl) rfl (by kernel_rfl) ?_
       rw [World.setRow_alloc_new]))
  refine bodyPost_ret (v := .agg halfA) ?_ rfl ⟨rfl, (Below.refl _ _).alloc (Nat.le_refl _) _⟩
  exact results_cell_of (a := ⟨w.heap.size, 0, none⟩) rfl _ _ _ rfl hld

set_option maxRecDepth 100000 in
theorem wholeC (w : World) :
    Calls Try.prog 39 #[] w fun e w' => e = .returned (.agg wholeA) ∧ Below w.heap.size w w' := by
  have hld := run_loadVar_new (P := Try.prog) w 50 wholeA 58 47 (by kernel_rfl) (by kernel_rfl)
  go_enter Try.func39, Try.ntmps39
  go_wp2_with (first
    | (refine wpList_buildTo rfl 50 _ rfl (some 1) rfl wholeA (by kernel_rfl) ?_)
    | (refine wpList_store_row rfl 50 _ _ rfl w.heap.size wholeA rfl rfl 50 whole0 (heap_alloc_last w _) (by kernel_rfl) rfl (by kernel_rfl) ?_
       rw [World.setRow_alloc_new]))
  refine bodyPost_ret (v := .agg wholeA) ?_ rfl ⟨rfl, (Below.refl _ _).alloc (Nat.le_refl _) _⟩
  exact results_cell_of (a := ⟨w.heap.size, 0, none⟩) rfl _ _ _ rfl hld

end Go.Proofs.Ytmahjgaaahkakaa
