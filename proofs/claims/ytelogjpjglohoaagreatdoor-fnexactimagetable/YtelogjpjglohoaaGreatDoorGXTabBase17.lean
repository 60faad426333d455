/- How a form's number is taken out of a word: contracts. How a form's number is taken out of a word: contracts. -/
import Derived.Test.YtelogjpjglohoaaGreatDoorGXTabBase14
namespace Go.Proofs.YtelogjpjglohoaaGreatDoor
open Go.RowKit
set_option linter.unusedVariables false
set_option maxRecDepth 100000 in
set_option maxHeartbeats 4000000 in
theorem take5 (v : Int) (w : World) :
    Calls Tryz.prog 147 #[rule5, .int .i64 v] w fun e w' => e = .returned (.int .i64 (takeF 5 v)) ∧ Below w.heap.size w w' := by
  have ix0 := fun w : World => idx0 0 5 7 5 7 25 0 0 0 0 0 0 w
  have ix1 := fun w : World => idx1 0 5 7 5 7 25 0 0 0 0 0 0 w
  have ix2 := fun w : World => idx2 0 5 7 5 7 25 0 0 0 0 0 0 w
  have ix3 := fun w : World => idx3 0 5 7 5 7 25 0 0 0 0 0 0 w
  unfold rule5
  go_enter Tryz.func147, Tryz.ntmps147
  go_wp2
  refine wp_loop_rounds 5 ?_
  rw [rounds_succ]
  go_wp2_with fail
  go_quiet ((go_at_call 144; first | exact Calls.quiet_of_same (low0 _) | exact Calls.quiet_of_same (low1 _) | exact Calls.quiet_of_same (low4 _) | exact Calls.quiet_of_same (low5 _) | exact Calls.quiet_of_same (low6 _) | exact Calls.quiet_of_same (low7 _) | exact Calls.quiet_of_same (low8 _) | exact Calls.quiet_of_same (low10 _) | exact Calls.quiet_of_same (low12 _) | exact Calls.quiet_of_same (low20 _)))
  go_wp2
  rw [rounds_succ]
  go_wp2_with fail
  go_quiet ((go_at_call 144; first | exact Calls.quiet_of_same (low0 _) | exact Calls.quiet_of_same (low1 _) | exact Calls.quiet_of_same (low4 _) | exact Calls.quiet_of_same (low5 _) | exact Calls.quiet_of_same (low6 _) | exact Calls.quiet_of_same (low7 _) | exact Calls.quiet_of_same (low8 _) | exact Calls.quiet_of_same (low10 _) | exact Calls.quiet_of_same (low12 _) | exact Calls.quiet_of_same (low20 _)))
  go_wp2
  rw [rounds_succ]
  go_wp2_with fail
  go_quiet ((go_at_call 144; first | exact Calls.quiet_of_same (low0 _) | exact Calls.quiet_of_same (low1 _) | exact Calls.quiet_of_same (low4 _) | exact Calls.quiet_of_same (low5 _) | exact Calls.quiet_of_same (low6 _) | exact Calls.quiet_of_same (low7 _) | exact Calls.quiet_of_same (low8 _) | exact Calls.quiet_of_same (low10 _) | exact Calls.quiet_of_same (low12 _) | exact Calls.quiet_of_same (low20 _)))
  go_wp2
  rw [rounds_succ]
  go_wp2_with fail
  go_quiet ((go_at_call 144; first | exact Calls.quiet_of_same (low0 _) | exact Calls.quiet_of_same (low1 _) | exact Calls.quiet_of_same (low4 _) | exact Calls.quiet_of_same (low5 _) | exact Calls.quiet_of_same (low6 _) | exact Calls.quiet_of_same (low7 _) | exact Calls.quiet_of_same (low8 _) | exact Calls.quiet_of_same (low10 _) | exact Calls.quiet_of_same (low12 _) | exact Calls.quiet_of_same (low20 _)))
  go_wp2
  rw [rounds_succ]
  clear ix0 ix1 ix2 ix3
  go_wp2_with fail
  refine (sign_ok_impl _ 12 _ (by decide) (by decide)).mono ?_
  rintro e w1 ⟨rfl, rfl⟩
  go_wp2
  go_ret
  refine ⟨congrArg (fun x => Ending.returned (.int .i64 x)) (congrArg (fun x => sgn x 12) (takE5 v)), ?_⟩
  exact bdN ((bdN ((bdN ((bdN (((Below.refl _ _).alloc (Nat.le_refl _) _).alloc (by simp; try omega) _) _).alloc (by simp; try omega) _) _).alloc (by simp; try omega) _) _).alloc (by simp; try omega) _) _
set_option maxRecDepth 100000 in
set_option maxHeartbeats 4000000 in
theorem take6 (v : Int) (w : World) :
    Calls Tryz.prog 147 #[rule6, .int .i64 v] w fun e w' => e = .returned (.int .i64 (takeF 6 v)) ∧ Below w.heap.size w w' := by
  have ix0 := fun w : World => idx0 0 6 20 0 0 0 0 0 0 0 0 0 w
  have ix1 := fun w : World => idx1 0 6 20 0 0 0 0 0 0 0 0 0 w
  have ix2 := fun w : World => idx2 0 6 20 0 0 0 0 0 0 0 0 0 w
  have ix3 := fun w : World => idx3 0 6 20 0 0 0 0 0 0 0 0 0 w
  unfold rule6
  go_enter Tryz.func147, Tryz.ntmps147
  go_wp2
  refine wp_loop_rounds 5 ?_
  rw [rounds_succ]
  go_wp2_with fail
  go_quiet ((go_at_call 144; first | exact Calls.quiet_of_same (low0 _) | exact Calls.quiet_of_same (low1 _) | exact Calls.quiet_of_same (low4 _) | exact Calls.quiet_of_same (low5 _) | exact Calls.quiet_of_same (low6 _) | exact Calls.quiet_of_same (low7 _) | exact Calls.quiet_of_same (low8 _) | exact Calls.quiet_of_same (low10 _) | exact Calls.quiet_of_same (low12 _) | exact Calls.quiet_of_same (low20 _)))
  go_wp2
  rw [rounds_succ]
  go_wp2_with fail
  go_quiet ((go_at_call 144; first | exact Calls.quiet_of_same (low0 _) | exact Calls.quiet_of_same (low1 _) | exact Calls.quiet_of_same (low4 _) | exact Calls.quiet_of_same (low5 _) | exact Calls.quiet_of_same (low6 _) | exact Calls.quiet_of_same (low7 _) | exact Calls.quiet_of_same (low8 _) | exact Calls.quiet_of_same (low10 _) | exact Calls.quiet_of_same (low12 _) | exact Calls.quiet_of_same (low20 _)))
  go_wp2
  rw [rounds_succ]
  go_wp2_with fail
  go_quiet ((go_at_call 144; first | exact Calls.quiet_of_same (low0 _) | exact Calls.quiet_of_same (low1 _) | exact Calls.quiet_of_same (low4 _) | exact Calls.quiet_of_same (low5 _) | exact Calls.quiet_of_same (low6 _) | exact Calls.quiet_of_same (low7 _) | exact Calls.quiet_of_same (low8 _) | exact Calls.quiet_of_same (low10 _) | exact Calls.quiet_of_same (low12 _) | exact Calls.quiet_of_same (low20 _)))
  go_wp2
  rw [rounds_succ]
  go_wp2_with fail
  go_quiet ((go_at_call 144; first | exact Calls.quiet_of_same (low0 _) | exact Calls.quiet_of_same (low1 _) | exact Calls.quiet_of_same (low4 _) | exact Calls.quiet_of_same (low5 _) | exact Calls.quiet_of_same (low6 _) | exact Calls.quiet_of_same (low7 _) | exact Calls.quiet_of_same (low8 _) | exact Calls.quiet_of_same (low10 _) | exact Calls.quiet_of_same (low12 _) | exact Calls.quiet_of_same (low20 _)))
  go_wp2
  rw [rounds_succ]
  clear ix0 ix1 ix2 ix3
  go_wp2
  go_ret
  refine ⟨congrArg (fun x => Ending.returned (.int .i64 x)) (takE6 v), ?_⟩
  exact bdN ((bdN ((bdN ((bdN (((Below.refl _ _).alloc (Nat.le_refl _) _).alloc (by simp; try omega) _) _).alloc (by simp; try omega) _) _).alloc (by simp; try omega) _) _).alloc (by simp; try omega) _) _
end Go.Proofs.YtelogjpjglohoaaGreatDoor

namespace Go.Proofs.YtelogjpjglohoaaGreatDoor
open Go.RowKit
set_option linter.unusedVariables false
set_option maxRecDepth 100000 in
set_option maxHeartbeats 4000000 in
theorem take7 (v : Int) (w : World) :
    Calls Tryz.prog 147 #[rule7, .int .i64 v] w fun e w' => e = .returned (.int .i64 (takeF 7 v)) ∧ Below w.heap.size w w' := by
  have ix0 := fun w : World => idx0 0 5 20 0 0 0 0 0 0 0 0 0 w
  have ix1 := fun w : World => idx1 0 5 20 0 0 0 0 0 0 0 0 0 w
  have ix2 := fun w : World => idx2 0 5 20 0 0 0 0 0 0 0 0 0 w
  have ix3 := fun w : World => idx3 0 5 20 0 0 0 0 0 0 0 0 0 w
  unfold rule7
  go_enter Tryz.func147, Tryz.ntmps147
  go_wp2
  refine wp_loop_rounds 5 ?_
  rw [rounds_succ]
  go_wp2_with fail
  go_quiet ((go_at_call 144; first | exact Calls.quiet_of_same (low0 _) | exact Calls.quiet_of_same (low1 _) | exact Calls.quiet_of_same (low4 _) | exact Calls.quiet_of_same (low5 _) | exact Calls.quiet_of_same (low6 _) | exact Calls.quiet_of_same (low7 _) | exact Calls.quiet_of_same (low8 _) | exact Calls.quiet_of_same (low10 _) | exact Calls.quiet_of_same (low12 _) | exact Calls.quiet_of_same (low20 _)))
  go_wp2
  rw [rounds_succ]
  go_wp2_with fail
  go_quiet ((go_at_call 144; first | exact Calls.quiet_of_same (low0 _) | exact Calls.quiet_of_same (low1 _) | exact Calls.quiet_of_same (low4 _) | exact Calls.quiet_of_same (low5 _) | exact Calls.quiet_of_same (low6 _) | exact Calls.quiet_of_same (low7 _) | exact Calls.quiet_of_same (low8 _) | exact Calls.quiet_of_same (low10 _) | exact Calls.quiet_of_same (low12 _) | exact Calls.quiet_of_same (low20 _)))
  go_wp2
  rw [rounds_succ]
  go_wp2_with fail
  go_quiet ((go_at_call 144; first | exact Calls.quiet_of_same (low0 _) | exact Calls.quiet_of_same (low1 _) | exact Calls.quiet_of_same (low4 _) | exact Calls.quiet_of_same (low5 _) | exact Calls.quiet_of_same (low6 _) | exact Calls.quiet_of_same (low7 _) | exact Calls.quiet_of_same (low8 _) | exact Calls.quiet_of_same (low10 _) | exact Calls.quiet_of_same (low12 _) | exact Calls.quiet_of_same (low20 _)))
  go_wp2
  rw [rounds_succ]
  go_wp2_with fail
  go_quiet ((go_at_call 144; first | exact Calls.quiet_of_same (low0 _) | exact Calls.quiet_of_same (low1 _) | exact Calls.quiet_of_same (low4 _) | exact Calls.quiet_of_same (low5 _) | exact Calls.quiet_of_same (low6 _) | exact Calls.quiet_of_same (low7 _) | exact Calls.quiet_of_same (low8 _) | exact Calls.quiet_of_same (low10 _) | exact Calls.quiet_of_same (low12 _) | exact Calls.quiet_of_same (low20 _)))
  go_wp2
  rw [rounds_succ]
  clear ix0 ix1 ix2 ix3
  go_wp2
  go_ret
  refine ⟨congrArg (fun x => Ending.returned (.int .i64 x)) (takE7 v), ?_⟩
  exact bdN ((bdN ((bdN ((bdN (((Below.refl _ _).alloc (Nat.le_refl _) _).alloc (by simp; try omega) _) _).alloc (by simp; try omega) _) _).alloc (by simp; try omega) _) _).alloc (by simp; try omega) _) _
set_option maxRecDepth 100000 in
set_option maxHeartbeats 4000000 in
theorem take8 (v : Int) (w : World) :
    Calls Tryz.prog 147 #[rule8, .int .i64 v] w fun e w' => e = .returned (.int .i64 (takeF 8 v)) ∧ Below w.heap.size w w' := by
  have ix0 := fun w : World => idx0 0 0 0 0 0 0 0 0 0 0 0 0 w
  have ix1 := fun w : World => idx1 0 0 0 0 0 0 0 0 0 0 0 0 w
  have ix2 := fun w : World => idx2 0 0 0 0 0 0 0 0 0 0 0 0 w
  have ix3 := fun w : World => idx3 0 0 0 0 0 0 0 0 0 0 0 0 w
  unfold rule8
  go_enter Tryz.func147, Tryz.ntmps147
  go_wp2
  refine wp_loop_rounds 5 ?_
  rw [rounds_succ]
  go_wp2_with fail
  go_quiet ((go_at_call 144; first | exact Calls.quiet_of_same (low0 _) | exact Calls.quiet_of_same (low1 _) | exact Calls.quiet_of_same (low4 _) | exact Calls.quiet_of_same (low5 _) | exact Calls.quiet_of_same (low6 _) | exact Calls.quiet_of_same (low7 _) | exact Calls.quiet_of_same (low8 _) | exact Calls.quiet_of_same (low10 _) | exact Calls.quiet_of_same (low12 _) | exact Calls.quiet_of_same (low20 _)))
  go_wp2
  rw [rounds_succ]
  go_wp2_with fail
  go_quiet ((go_at_call 144; first | exact Calls.quiet_of_same (low0 _) | exact Calls.quiet_of_same (low1 _) | exact Calls.quiet_of_same (low4 _) | exact Calls.quiet_of_same (low5 _) | exact Calls.quiet_of_same (low6 _) | exact Calls.quiet_of_same (low7 _) | exact Calls.quiet_of_same (low8 _) | exact Calls.quiet_of_same (low10 _) | exact Calls.quiet_of_same (low12 _) | exact Calls.quiet_of_same (low20 _)))
  go_wp2
  rw [rounds_succ]
  go_wp2_with fail
  go_quiet ((go_at_call 144; first | exact Calls.quiet_of_same (low0 _) | exact Calls.quiet_of_same (low1 _) | exact Calls.quiet_of_same (low4 _) | exact Calls.quiet_of_same (low5 _) | exact Calls.quiet_of_same (low6 _) | exact Calls.quiet_of_same (low7 _) | exact Calls.quiet_of_same (low8 _) | exact Calls.quiet_of_same (low10 _) | exact Calls.quiet_of_same (low12 _) | exact Calls.quiet_of_same (low20 _)))
  go_wp2
  rw [rounds_succ]
  go_wp2_with fail
  go_quiet ((go_at_call 144; first | exact Calls.quiet_of_same (low0 _) | exact Calls.quiet_of_same (low1 _) | exact Calls.quiet_of_same (low4 _) | exact Calls.quiet_of_same (low5 _) | exact Calls.quiet_of_same (low6 _) | exact Calls.quiet_of_same (low7 _) | exact Calls.quiet_of_same (low8 _) | exact Calls.quiet_of_same (low10 _) | exact Calls.quiet_of_same (low12 _) | exact Calls.quiet_of_same (low20 _)))
  go_wp2
  rw [rounds_succ]
  clear ix0 ix1 ix2 ix3
  go_wp2
  go_ret
  refine ⟨congrArg (fun x => Ending.returned (.int .i64 x)) (takE8 v), ?_⟩
  exact bdN ((bdN ((bdN ((bdN (((Below.refl _ _).alloc (Nat.le_refl _) _).alloc (by simp; try omega) _) _).alloc (by simp; try omega) _) _).alloc (by simp; try omega) _) _).alloc (by simp; try omega) _) _
end Go.Proofs.YtelogjpjglohoaaGreatDoor
