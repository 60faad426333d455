/- How a form's number is taken out of a word: contracts. How a form's number is taken out of a word: contracts. How a form's number is taken out of a word: contracts. May a field be a number? Contracts. -/
import Derived.Test.YtiandbhcjecphaaGreatDoorGLShape4
import Derived.Test.YtiandbhcjecphaaGreatDoorGLShape6
import Derived.Test.YtiandbhcjecphaaGreatDoorGLShape5
import Derived.BigRegion
import Derived.Deep.RegionWith
namespace Go.Proofs.YtiandbhcjecphaaGreatDoor
open Go.RowKit
set_option linter.unusedVariables false
set_option maxRecDepth 100000 in
set_option maxHeartbeats 4000000 in
theorem take3 (v : Int) (w : World) :
    Calls Tryz.prog 121 #[rule3, .int .i64 v] w fun e w' => e = .returned (.int .i64 (takeF 3 v)) ∧ Below w.heap.size w w' := by
  have ix0 := fun w : World => idx0 0 12 20 0 0 0 0 0 0 0 0 0 w
  have ix1 := fun w : World => idx1 0 12 20 0 0 0 0 0 0 0 0 0 w
  have ix2 := fun w : World => idx2 0 12 20 0 0 0 0 0 0 0 0 0 w
  have ix3 := fun w : World => idx3 0 12 20 0 0 0 0 0 0 0 0 0 w
  unfold rule3
  go_enter Tryz.func121, Tryz.ntmps121
  go_wp2
  refine wp_loop_rounds 5 ?_
  rw [rounds_succ]
  go_wp2_with fail
  go_quiet ((go_at_call 71; first | exact Calls.quiet_of_same (low0 _) | exact Calls.quiet_of_same (low1 _) | exact Calls.quiet_of_same (low4 _) | exact Calls.quiet_of_same (low5 _) | exact Calls.quiet_of_same (low6 _) | exact Calls.quiet_of_same (low7 _) | exact Calls.quiet_of_same (low8 _) | exact Calls.quiet_of_same (low10 _) | exact Calls.quiet_of_same (low12 _) | exact Calls.quiet_of_same (low20 _)))
  go_wp2
  rw [rounds_succ]
  go_wp2_with fail
  go_quiet ((go_at_call 71; first | exact Calls.quiet_of_same (low0 _) | exact Calls.quiet_of_same (low1 _) | exact Calls.quiet_of_same (low4 _) | exact Calls.quiet_of_same (low5 _) | exact Calls.quiet_of_same (low6 _) | exact Calls.quiet_of_same (low7 _) | exact Calls.quiet_of_same (low8 _) | exact Calls.quiet_of_same (low10 _) | exact Calls.quiet_of_same (low12 _) | exact Calls.quiet_of_same (low20 _)))
  go_wp2
  rw [rounds_succ]
  go_wp2_with fail
  go_quiet ((go_at_call 71; first | exact Calls.quiet_of_same (low0 _) | exact Calls.quiet_of_same (low1 _) | exact Calls.quiet_of_same (low4 _) | exact Calls.quiet_of_same (low5 _) | exact Calls.quiet_of_same (low6 _) | exact Calls.quiet_of_same (low7 _) | exact Calls.quiet_of_same (low8 _) | exact Calls.quiet_of_same (low10 _) | exact Calls.quiet_of_same (low12 _) | exact Calls.quiet_of_same (low20 _)))
  go_wp2
  rw [rounds_succ]
  go_wp2_with fail
  go_quiet ((go_at_call 71; first | exact Calls.quiet_of_same (low0 _) | exact Calls.quiet_of_same (low1 _) | exact Calls.quiet_of_same (low4 _) | exact Calls.quiet_of_same (low5 _) | exact Calls.quiet_of_same (low6 _) | exact Calls.quiet_of_same (low7 _) | exact Calls.quiet_of_same (low8 _) | exact Calls.quiet_of_same (low10 _) | exact Calls.quiet_of_same (low12 _) | exact Calls.quiet_of_same (low20 _)))
  go_wp2
  rw [rounds_succ]
  clear ix0 ix1 ix2 ix3
  go_wp2_with fail
  refine (sign_ok_impl _ 12 _ (by decide) (by decide)).mono ?_
  rintro e w1 ⟨rfl, rfl⟩
  go_wp2
  go_ret
  refine ⟨congrArg (fun x => Ending.returned (.int .i64 x)) (congrArg (fun x => sgn x 12) (takE3 v)), ?_⟩
  exact bdN ((bdN ((bdN ((bdN (((Below.refl _ _).alloc (Nat.le_refl _) _).alloc (by simp; try omega) _) _).alloc (by simp; try omega) _) _).alloc (by simp; try omega) _) _).alloc (by simp; try omega) _) _
set_option maxRecDepth 100000 in
set_option maxHeartbeats 4000000 in
theorem take4 (v : Int) (w : World) :
    Calls Tryz.prog 121 #[rule4, .int .i64 v] w fun e w' => e = .returned (.int .i64 (takeF 4 v)) ∧ Below w.heap.size w w' := by
  have ix0 := fun w : World => idx0 11 1 7 1 4 8 5 6 25 12 1 31 w
  have ix1 := fun w : World => idx1 11 1 7 1 4 8 5 6 25 12 1 31 w
  have ix2 := fun w : World => idx2 11 1 7 1 4 8 5 6 25 12 1 31 w
  have ix3 := fun w : World => idx3 11 1 7 1 4 8 5 6 25 12 1 31 w
  unfold rule4
  go_enter Tryz.func121, Tryz.ntmps121
  go_wp2
  refine wp_loop_rounds 5 ?_
  rw [rounds_succ]
  go_wp2_with fail
  go_quiet ((go_at_call 71; first | exact Calls.quiet_of_same (low0 _) | exact Calls.quiet_of_same (low1 _) | exact Calls.quiet_of_same (low4 _) | exact Calls.quiet_of_same (low5 _) | exact Calls.quiet_of_same (low6 _) | exact Calls.quiet_of_same (low7 _) | exact Calls.quiet_of_same (low8 _) | exact Calls.quiet_of_same (low10 _) | exact Calls.quiet_of_same (low12 _) | exact Calls.quiet_of_same (low20 _)))
  go_wp2
  rw [rounds_succ]
  go_wp2_with fail
  go_quiet ((go_at_call 71; first | exact Calls.quiet_of_same (low0 _) | exact Calls.quiet_of_same (low1 _) | exact Calls.quiet_of_same (low4 _) | exact Calls.quiet_of_same (low5 _) | exact Calls.quiet_of_same (low6 _) | exact Calls.quiet_of_same (low7 _) | exact Calls.quiet_of_same (low8 _) | exact Calls.quiet_of_same (low10 _) | exact Calls.quiet_of_same (low12 _) | exact Calls.quiet_of_same (low20 _)))
  go_wp2
  rw [rounds_succ]
  go_wp2_with fail
  go_quiet ((go_at_call 71; first | exact Calls.quiet_of_same (low0 _) | exact Calls.quiet_of_same (low1 _) | exact Calls.quiet_of_same (low4 _) | exact Calls.quiet_of_same (low5 _) | exact Calls.quiet_of_same (low6 _) | exact Calls.quiet_of_same (low7 _) | exact Calls.quiet_of_same (low8 _) | exact Calls.quiet_of_same (low10 _) | exact Calls.quiet_of_same (low12 _) | exact Calls.quiet_of_same (low20 _)))
  go_wp2
  rw [rounds_succ]
  go_wp2_with fail
  go_quiet ((go_at_call 71; first | exact Calls.quiet_of_same (low0 _) | exact Calls.quiet_of_same (low1 _) | exact Calls.quiet_of_same (low4 _) | exact Calls.quiet_of_same (low5 _) | exact Calls.quiet_of_same (low6 _) | exact Calls.quiet_of_same (low7 _) | exact Calls.quiet_of_same (low8 _) | exact Calls.quiet_of_same (low10 _) | exact Calls.quiet_of_same (low12 _) | exact Calls.quiet_of_same (low20 _)))
  go_wp2
  rw [rounds_succ]
  clear ix0 ix1 ix2 ix3
  go_wp2_with fail
  refine (sign_ok_impl _ 13 _ (by decide) (by decide)).mono ?_
  rintro e w1 ⟨rfl, rfl⟩
  go_wp2
  go_ret
  refine ⟨congrArg (fun x => Ending.returned (.int .i64 x)) (congrArg (fun x => sgn x 13) (takE4 v)), ?_⟩
  exact bdN ((bdN ((bdN ((bdN (((Below.refl _ _).alloc (Nat.le_refl _) _).alloc (by simp; try omega) _) _).alloc (by simp; try omega) _) _).alloc (by simp; try omega) _) _).alloc (by simp; try omega) _) _
end Go.Proofs.YtiandbhcjecphaaGreatDoor

namespace Go.Proofs.YtiandbhcjecphaaGreatDoor
open Go.RowKit
set_option linter.unusedVariables false
set_option maxRecDepth 100000 in
set_option maxHeartbeats 4000000 in
theorem take5 (v : Int) (w : World) :
    Calls Tryz.prog 121 #[rule5, .int .i64 v] w fun e w' => e = .returned (.int .i64 (takeF 5 v)) ∧ Below w.heap.size w w' := by
  have ix0 := fun w : World => idx0 0 5 7 5 7 25 0 0 0 0 0 0 w
  have ix1 := fun w : World => idx1 0 5 7 5 7 25 0 0 0 0 0 0 w
  have ix2 := fun w : World => idx2 0 5 7 5 7 25 0 0 0 0 0 0 w
  have ix3 := fun w : World => idx3 0 5 7 5 7 25 0 0 0 0 0 0 w
  unfold rule5
  go_enter Tryz.func121, Tryz.ntmps121
  go_wp2
  refine wp_loop_rounds 5 ?_
  rw [rounds_succ]
  go_wp2_with fail
  go_quiet ((go_at_call 71; first | exact Calls.quiet_of_same (low0 _) | exact Calls.quiet_of_same (low1 _) | exact Calls.quiet_of_same (low4 _) | exact Calls.quiet_of_same (low5 _) | exact Calls.quiet_of_same (low6 _) | exact Calls.quiet_of_same (low7 _) | exact Calls.quiet_of_same (low8 _) | exact Calls.quiet_of_same (low10 _) | exact Calls.quiet_of_same (low12 _) | exact Calls.quiet_of_same (low20 _)))
  go_wp2
  rw [rounds_succ]
  go_wp2_with fail
  go_quiet ((go_at_call 71; first | exact Calls.quiet_of_same (low0 _) | exact Calls.quiet_of_same (low1 _) | exact Calls.quiet_of_same (low4 _) | exact Calls.quiet_of_same (low5 _) | exact Calls.quiet_of_same (low6 _) | exact Calls.quiet_of_same (low7 _) | exact Calls.quiet_of_same (low8 _) | exact Calls.quiet_of_same (low10 _) | exact Calls.quiet_of_same (low12 _) | exact Calls.quiet_of_same (low20 _)))
  go_wp2
  rw [rounds_succ]
  go_wp2_with fail
  go_quiet ((go_at_call 71; first | exact Calls.quiet_of_same (low0 _) | exact Calls.quiet_of_same (low1 _) | exact Calls.quiet_of_same (low4 _) | exact Calls.quiet_of_same (low5 _) | exact Calls.quiet_of_same (low6 _) | exact Calls.quiet_of_same (low7 _) | exact Calls.quiet_of_same (low8 _) | exact Calls.quiet_of_same (low10 _) | exact Calls.quiet_of_same (low12 _) | exact Calls.quiet_of_same (low20 _)))
  go_wp2
  rw [rounds_succ]
  go_wp2_with fail
  go_quiet ((go_at_call 71; first | exact Calls.quiet_of_same (low0 _) | exact Calls.quiet_of_same (low1 _) | exact Calls.quiet_of_same (low4 _) | exact Calls.quiet_of_same (low5 _) | exact Calls.quiet_of_same (low6 _) | exact Calls.quiet_of_same (low7 _) | exact Calls.quiet_of_same (low8 _) | exact Calls.quiet_of_same (low10 _) | exact Calls.quiet_of_same (low12 _) | exact Calls.quiet_of_same (low20 _)))
  go_wp2
  rw [rounds_succ]
  clear ix0 ix1 ix2 ix3
  go_wp2_with fail
  refine (sign_ok_impl _ 12 _ (by decide) (by decide)).mono ?_
  rintro e w1 ⟨rfl, rfl⟩
  go_wp2
  go_ret
  refine ⟨congrArg (fun x => Ending.returned (.int .i64 x)) (congrArg (fun x => sgn x 12) (takE5 v)), ?_⟩
  exact bdN ((bdN ((bdN ((bdN (((Below.refl _ _).alloc (Nat.le_refl _) _).alloc (by simp; try omega) _) _).alloc (by simp; try omega) _) _).alloc (by simp; try omega) _) _).alloc (by simp; try omega) _) _
set_option maxRecDepth 100000 in
set_option maxHeartbeats 4000000 in
theorem take6 (v : Int) (w : World) :
    Calls Tryz.prog 121 #[rule6, .int .i64 v] w fun e w' => e = .returned (.int .i64 (takeF 6 v)) ∧ Below w.heap.size w w' := by
  have ix0 := fun w : World => idx0 0 6 20 0 0 0 0 0 0 0 0 0 w
  have ix1 := fun w : World => idx1 0 6 20 0 0 0 0 0 0 0 0 0 w
  have ix2 := fun w : World => idx2 0 6 20 0 0 0 0 0 0 0 0 0 w
  have ix3 := fun w : World => idx3 0 6 20 0 0 0 0 0 0 0 0 0 w
  unfold rule6
  go_enter Tryz.func121, Tryz.ntmps121
  go_wp2
  refine wp_loop_rounds 5 ?_
  rw [rounds_succ]
  go_wp2_with fail
  go_quiet ((go_at_call 71; first | exact Calls.quiet_of_same (low0 _) | exact Calls.quiet_of_same (low1 _) | exact Calls.quiet_of_same (low4 _) | exact Calls.quiet_of_same (low5 _) | exact Calls.quiet_of_same (low6 _) | exact Calls.quiet_of_same (low7 _) | exact Calls.quiet_of_same (low8 _) | exact Calls.quiet_of_same (low10 _) | exact Calls.quiet_of_same (low12 _) | exact Calls.quiet_of_same (low20 _)))
  go_wp2
  rw [rounds_succ]
  go_wp2_with fail
  go_quiet ((go_at_call 71; first | exact Calls.quiet_of_same (low0 _) | exact Calls.quiet_of_same (low1 _) | exact Calls.quiet_of_same (low4 _) | exact Calls.quiet_of_same (low5 _) | exact Calls.quiet_of_same (low6 _) | exact Calls.quiet_of_same (low7 _) | exact Calls.quiet_of_same (low8 _) | exact Calls.quiet_of_same (low10 _) | exact Calls.quiet_of_same (low12 _) | exact Calls.quiet_of_same (low20 _)))
  go_wp2
  rw [rounds_succ]
  go_wp2_with fail
  go_quiet ((go_at_call 71; first | exact Calls.quiet_of_same (low0 _) | exact Calls.quiet_of_same (low1 _) | exact Calls.quiet_of_same (low4 _) | exact Calls.quiet_of_same (low5 _) | exact Calls.quiet_of_same (low6 _) | exact Calls.quiet_of_same (low7 _) | exact Calls.quiet_of_same (low8 _) | exact Calls.quiet_of_same (low10 _) | exact Calls.quiet_of_same (low12 _) | exact Calls.quiet_of_same (low20 _)))
  go_wp2
  rw [rounds_succ]
  go_wp2_with fail
  go_quiet ((go_at_call 71; first | exact Calls.quiet_of_same (low0 _) | exact Calls.quiet_of_same (low1 _) | exact Calls.quiet_of_same (low4 _) | exact Calls.quiet_of_same (low5 _) | exact Calls.quiet_of_same (low6 _) | exact Calls.quiet_of_same (low7 _) | exact Calls.quiet_of_same (low8 _) | exact Calls.quiet_of_same (low10 _) | exact Calls.quiet_of_same (low12 _) | exact Calls.quiet_of_same (low20 _)))
  go_wp2
  rw [rounds_succ]
  clear ix0 ix1 ix2 ix3
  go_wp2
  go_ret
  refine ⟨congrArg (fun x => Ending.returned (.int .i64 x)) (takE6 v), ?_⟩
  exact bdN ((bdN ((bdN ((bdN (((Below.refl _ _).alloc (Nat.le_refl _) _).alloc (by simp; try omega) _) _).alloc (by simp; try omega) _) _).alloc (by simp; try omega) _) _).alloc (by simp; try omega) _) _
end Go.Proofs.YtiandbhcjecphaaGreatDoor

namespace Go.Proofs.YtiandbhcjecphaaGreatDoor
open Go.RowKit
set_option linter.unusedVariables false
set_option maxRecDepth 100000 in
set_option maxHeartbeats 4000000 in
theorem take7 (v : Int) (w : World) :
    Calls Tryz.prog 121 #[rule7, .int .i64 v] w fun e w' => e = .returned (.int .i64 (takeF 7 v)) ∧ Below w.heap.size w w' := by
  have ix0 := fun w : World => idx0 0 5 20 0 0 0 0 0 0 0 0 0 w
  have ix1 := fun w : World => idx1 0 5 20 0 0 0 0 0 0 0 0 0 w
  have ix2 := fun w : World => idx2 0 5 20 0 0 0 0 0 0 0 0 0 w
  have ix3 := fun w : World => idx3 0 5 20 0 0 0 0 0 0 0 0 0 w
  unfold rule7
  go_enter Tryz.func121, Tryz.ntmps121
  go_wp2
  refine wp_loop_rounds 5 ?_
  rw [rounds_succ]
  go_wp2_with fail
  go_quiet ((go_at_call 71; first | exact Calls.quiet_of_same (low0 _) | exact Calls.quiet_of_same (low1 _) | exact Calls.quiet_of_same (low4 _) | exact Calls.quiet_of_same (low5 _) | exact Calls.quiet_of_same (low6 _) | exact Calls.quiet_of_same (low7 _) | exact Calls.quiet_of_same (low8 _) | exact Calls.quiet_of_same (low10 _) | exact Calls.quiet_of_same (low12 _) | exact Calls.quiet_of_same (low20 _)))
  go_wp2
  rw [rounds_succ]
  go_wp2_with fail
  go_quiet ((go_at_call 71; first | exact Calls.quiet_of_same (low0 _) | exact Calls.quiet_of_same (low1 _) | exact Calls.quiet_of_same (low4 _) | exact Calls.quiet_of_same (low5 _) | exact Calls.quiet_of_same (low6 _) | exact Calls.quiet_of_same (low7 _) | exact Calls.quiet_of_same (low8 _) | exact Calls.quiet_of_same (low10 _) | exact Calls.quiet_of_same (low12 _) | exact Calls.quiet_of_same (low20 _)))
  go_wp2
  rw [rounds_succ]
  go_wp2_with fail
  go_quiet ((go_at_call 71; first | exact Calls.quiet_of_same (low0 _) | exact Calls.quiet_of_same (low1 _) | exact Calls.quiet_of_same (low4 _) | exact Calls.quiet_of_same (low5 _) | exact Calls.quiet_of_same (low6 _) | exact Calls.quiet_of_same (low7 _) | exact Calls.quiet_of_same (low8 _) | exact Calls.quiet_of_same (low10 _) | exact Calls.quiet_of_same (low12 _) | exact Calls.quiet_of_same (low20 _)))
  go_wp2
  rw [rounds_succ]
  go_wp2_with fail
  go_quiet ((go_at_call 71; first | exact Calls.quiet_of_same (low0 _) | exact Calls.quiet_of_same (low1 _) | exact Calls.quiet_of_same (low4 _) | exact Calls.quiet_of_same (low5 _) | exact Calls.quiet_of_same (low6 _) | exact Calls.quiet_of_same (low7 _) | exact Calls.quiet_of_same (low8 _) | exact Calls.quiet_of_same (low10 _) | exact Calls.quiet_of_same (low12 _) | exact Calls.quiet_of_same (low20 _)))
  go_wp2
  rw [rounds_succ]
  clear ix0 ix1 ix2 ix3
  go_wp2
  go_ret
  refine ⟨congrArg (fun x => Ending.returned (.int .i64 x)) (takE7 v), ?_⟩
  exact bdN ((bdN ((bdN ((bdN (((Below.refl _ _).alloc (Nat.le_refl _) _).alloc (by simp; try omega) _) _).alloc (by simp; try omega) _) _).alloc (by simp; try omega) _) _).alloc (by simp; try omega) _) _
set_option maxRecDepth 100000 in
set_option maxHeartbeats 4000000 in
theorem take8 (v : Int) (w : World) :
    Calls Tryz.prog 121 #[rule8, .int .i64 v] w fun e w' => e = .returned (.int .i64 (takeF 8 v)) ∧ Below w.heap.size w w' := by
  have ix0 := fun w : World => idx0 0 0 0 0 0 0 0 0 0 0 0 0 w
  have ix1 := fun w : World => idx1 0 0 0 0 0 0 0 0 0 0 0 0 w
  have ix2 := fun w : World => idx2 0 0 0 0 0 0 0 0 0 0 0 0 w
  have ix3 := fun w : World => idx3 0 0 0 0 0 0 0 0 0 0 0 0 w
  unfold rule8
  go_enter Tryz.func121, Tryz.ntmps121
  go_wp2
  refine wp_loop_rounds 5 ?_
  rw [rounds_succ]
  go_wp2_with fail
  go_quiet ((go_at_call 71; first | exact Calls.quiet_of_same (low0 _) | exact Calls.quiet_of_same (low1 _) | exact Calls.quiet_of_same (low4 _) | exact Calls.quiet_of_same (low5 _) | exact Calls.quiet_of_same (low6 _) | exact Calls.quiet_of_same (low7 _) | exact Calls.quiet_of_same (low8 _) | exact Calls.quiet_of_same (low10 _) | exact Calls.quiet_of_same (low12 _) | exact Calls.quiet_of_same (low20 _)))
  go_wp2
  rw [rounds_succ]
  go_wp2_with fail
  go_quiet ((go_at_call 71; first | exact Calls.quiet_of_same (low0 _) | exact Calls.quiet_of_same (low1 _) | exact Calls.quiet_of_same (low4 _) | exact Calls.quiet_of_same (low5 _) | exact Calls.quiet_of_same (low6 _) | exact Calls.quiet_of_same (low7 _) | exact Calls.quiet_of_same (low8 _) | exact Calls.quiet_of_same (low10 _) | exact Calls.quiet_of_same (low12 _) | exact Calls.quiet_of_same (low20 _)))
  go_wp2
  rw [rounds_succ]
  go_wp2_with fail
  go_quiet ((go_at_call 71; first | exact Calls.quiet_of_same (low0 _) | exact Calls.quiet_of_same (low1 _) | exact Calls.quiet_of_same (low4 _) | exact Calls.quiet_of_same (low5 _) | exact Calls.quiet_of_same (low6 _) | exact Calls.quiet_of_same (low7 _) | exact Calls.quiet_of_same (low8 _) | exact Calls.quiet_of_same (low10 _) | exact Calls.quiet_of_same (low12 _) | exact Calls.quiet_of_same (low20 _)))
  go_wp2
  rw [rounds_succ]
  go_wp2_with fail
  go_quiet ((go_at_call 71; first | exact Calls.quiet_of_same (low0 _) | exact Calls.quiet_of_same (low1 _) | exact Calls.quiet_of_same (low4 _) | exact Calls.quiet_of_same (low5 _) | exact Calls.quiet_of_same (low6 _) | exact Calls.quiet_of_same (low7 _) | exact Calls.quiet_of_same (low8 _) | exact Calls.quiet_of_same (low10 _) | exact Calls.quiet_of_same (low12 _) | exact Calls.quiet_of_same (low20 _)))
  go_wp2
  rw [rounds_succ]
  clear ix0 ix1 ix2 ix3
  go_wp2
  go_ret
  refine ⟨congrArg (fun x => Ending.returned (.int .i64 x)) (takE8 v), ?_⟩
  exact bdN ((bdN ((bdN ((bdN (((Below.refl _ _).alloc (Nat.le_refl _) _).alloc (by simp; try omega) _) _).alloc (by simp; try omega) _) _).alloc (by simp; try omega) _) _).alloc (by simp; try omega) _) _
end Go.Proofs.YtiandbhcjecphaaGreatDoor

namespace Go.Proofs.YtiandbhcjecphaaGreatDoor
open Go.RowKit
set_option linter.unusedVariables false

/-- May a form's number be v? -/
def okB (f v : Int) : Bool := takeF f (layF f v) == v
theorem okB_iff (f v : Int) (h1 : 0 ≤ f) (h9 : f ≤ 9) : okB f v = true ↔ okI f v := by
  unfold okB
  rw [beq_iff_eq]
  exact take_lay f v h1 h9
/-- May a register be v? -/
def regB (v : Int) : Bool := decide (0 ≤ v ∧ v ≤ 31)

set_option maxHeartbeats 1000000 in
theorem allowsG (a b c d e1 f g h i j k l m v L R : Int) (hl : Hid (∀ w, Calls Tryz.prog 47 #[.agg #[.int .i64 a, .int .i64 b, .int .i64 c, .int .i64 d, .int .i64 e1, .int .i64 f, .int .i64 g, .int .i64 h, .int .i64 i, .int .i64 j, .int .i64 k, .int .i64 l, .int .i64 m], .int .i64 v] w fun e w' => e = .returned (.int .i64 L) ∧ Below w.heap.size w w'))
    (ht : Hid (∀ w, Calls Tryz.prog 121 #[.agg #[.int .i64 a, .int .i64 b, .int .i64 c, .int .i64 d, .int .i64 e1, .int .i64 f, .int .i64 g, .int .i64 h, .int .i64 i, .int .i64 j, .int .i64 k, .int .i64 l, .int .i64 m], .int .i64 L] w fun e w' => e = .returned (.int .i64 R) ∧ Below w.heap.size w w')) (w : World) :
    Calls Tryz.prog 101 #[.agg #[.int .i64 a, .int .i64 b, .int .i64 c, .int .i64 d, .int .i64 e1, .int .i64 f, .int .i64 g, .int .i64 h, .int .i64 i, .int .i64 j, .int .i64 k, .int .i64 l, .int .i64 m], .int .i64 v] w fun e w' => e = .returned (.bool (R == v)) ∧ Below w.heap.size w w' := by
  go_enter Tryz.func101, Tryz.ntmps101
  go_wp2_with fail
  go_region_with (first | (go_at_call 47; refine (hl.out _).mono ?_; rintro e w1 ⟨rfl, hb1⟩; obtain ⟨hc1, hf1⟩ := bcell hb1; have hz1 : w.heap.size < w1.heap.size := by (have := hb1.size; simp at this; omega)) | (go_at_call 121; refine (ht.out _).mono ?_; rintro e w2 ⟨rfl, hb2⟩))
  all_goals
    clear hl ht
    have HB : Hid (Below w.heap.size w w2) := (((Below.refl _ _).alloc (Nat.le_refl _) _).drew.trans (hb1.mono (by simp))).trans (hb2.mono (by omega))
    clear hc1 hf1 hb1 hb2
    go_wp2
    go_ret
    exact ⟨rfl, HB.out⟩
theorem allows1 (v : Int) (w : World) :
    Calls Tryz.prog 101 #[rule1, .int .i64 v] w fun e w' => e = .returned (.bool (okB 1 v)) ∧ Below w.heap.size w w' :=
  allowsG _ _ _ _ _ _ _ _ _ _ _ _ _ v (layF 1 v) (takeF 1 (layF 1 v)) (fun w => lay1 v w) (fun w => take1 (layF 1 v) w) w
theorem allows2 (v : Int) (w : World) :
    Calls Tryz.prog 101 #[rule2, .int .i64 v] w fun e w' => e = .returned (.bool (okB 2 v)) ∧ Below w.heap.size w w' :=
  allowsG _ _ _ _ _ _ _ _ _ _ _ _ _ v (layF 2 v) (takeF 2 (layF 2 v)) (fun w => lay2 v w) (fun w => take2 (layF 2 v) w) w
theorem allows3 (v : Int) (w : World) :
    Calls Tryz.prog 101 #[rule3, .int .i64 v] w fun e w' => e = .returned (.bool (okB 3 v)) ∧ Below w.heap.size w w' :=
  allowsG _ _ _ _ _ _ _ _ _ _ _ _ _ v (layF 3 v) (takeF 3 (layF 3 v)) (fun w => lay3 v w) (fun w => take3 (layF 3 v) w) w
theorem allows4 (v : Int) (w : World) :
    Calls Tryz.prog 101 #[rule4, .int .i64 v] w fun e w' => e = .returned (.bool (okB 4 v)) ∧ Below w.heap.size w w' :=
  allowsG _ _ _ _ _ _ _ _ _ _ _ _ _ v (layF 4 v) (takeF 4 (layF 4 v)) (fun w => lay4 v w) (fun w => take4 (layF 4 v) w) w
theorem allows5 (v : Int) (w : World) :
    Calls Tryz.prog 101 #[rule5, .int .i64 v] w fun e w' => e = .returned (.bool (okB 5 v)) ∧ Below w.heap.size w w' :=
  allowsG _ _ _ _ _ _ _ _ _ _ _ _ _ v (layF 5 v) (takeF 5 (layF 5 v)) (fun w => lay5 v w) (fun w => take5 (layF 5 v) w) w
theorem allows6 (v : Int) (w : World) :
    Calls Tryz.prog 101 #[rule6, .int .i64 v] w fun e w' => e = .returned (.bool (okB 6 v)) ∧ Below w.heap.size w w' :=
  allowsG _ _ _ _ _ _ _ _ _ _ _ _ _ v (layF 6 v) (takeF 6 (layF 6 v)) (fun w => lay6 v w) (fun w => take6 (layF 6 v) w) w
theorem allows7 (v : Int) (w : World) :
    Calls Tryz.prog 101 #[rule7, .int .i64 v] w fun e w' => e = .returned (.bool (okB 7 v)) ∧ Below w.heap.size w w' :=
  allowsG _ _ _ _ _ _ _ _ _ _ _ _ _ v (layF 7 v) (takeF 7 (layF 7 v)) (fun w => lay7 v w) (fun w => take7 (layF 7 v) w) w
theorem allows8 (v : Int) (w : World) :
    Calls Tryz.prog 101 #[rule8, .int .i64 v] w fun e w' => e = .returned (.bool (okB 8 v)) ∧ Below w.heap.size w w' :=
  allowsG _ _ _ _ _ _ _ _ _ _ _ _ _ v (layF 8 v) (takeF 8 (layF 8 v)) (fun w => lay8 v w) (fun w => take8 (layF 8 v) w) w
theorem fieldI1 (v : Int) (w : World) :
    Calls Tryz.prog 65 #[.int .i64 1, .int .u8 105, .int .i64 v] w fun e w' => e = .returned (.bool (okB 1 v)) ∧ Below w.heap.size w w' := by
  go_enter Tryz.func65, Tryz.ntmps65
  go_wp2_with fail
  refine (rule_1 _).mono ?_
  rintro e w1 ⟨rfl, hb1⟩
  go_wp2_with fail
  refine (allows1 v _).mono ?_
  rintro e w2 ⟨rfl, hb2⟩
  have HB : Hid (Below w.heap.size w w2) := hb1.trans (hb2.mono hb1.size)
  clear hb1 hb2
  go_wp2
  go_ret
  exact ⟨rfl, HB.out⟩
theorem fieldI2 (v : Int) (w : World) :
    Calls Tryz.prog 65 #[.int .i64 2, .int .u8 105, .int .i64 v] w fun e w' => e = .returned (.bool (okB 2 v)) ∧ Below w.heap.size w w' := by
  go_enter Tryz.func65, Tryz.ntmps65
  go_wp2_with fail
  refine (rule_2 _).mono ?_
  rintro e w1 ⟨rfl, hb1⟩
  go_wp2_with fail
  refine (allows2 v _).mono ?_
  rintro e w2 ⟨rfl, hb2⟩
  have HB : Hid (Below w.heap.size w w2) := hb1.trans (hb2.mono hb1.size)
  clear hb1 hb2
  go_wp2
  go_ret
  exact ⟨rfl, HB.out⟩
theorem fieldI3 (v : Int) (w : World) :
    Calls Tryz.prog 65 #[.int .i64 3, .int .u8 105, .int .i64 v] w fun e w' => e = .returned (.bool (okB 3 v)) ∧ Below w.heap.size w w' := by
  go_enter Tryz.func65, Tryz.ntmps65
  go_wp2_with fail
  refine (rule_3 _).mono ?_
  rintro e w1 ⟨rfl, hb1⟩
  go_wp2_with fail
  refine (allows3 v _).mono ?_
  rintro e w2 ⟨rfl, hb2⟩
  have HB : Hid (Below w.heap.size w w2) := hb1.trans (hb2.mono hb1.size)
  clear hb1 hb2
  go_wp2
  go_ret
  exact ⟨rfl, HB.out⟩
theorem fieldI4 (v : Int) (w : World) :
    Calls Tryz.prog 65 #[.int .i64 4, .int .u8 105, .int .i64 v] w fun e w' => e = .returned (.bool (okB 4 v)) ∧ Below w.heap.size w w' := by
  go_enter Tryz.func65, Tryz.ntmps65
  go_wp2_with fail
  refine (rule_4 _).mono ?_
  rintro e w1 ⟨rfl, hb1⟩
  go_wp2_with fail
  refine (allows4 v _).mono ?_
  rintro e w2 ⟨rfl, hb2⟩
  have HB : Hid (Below w.heap.size w w2) := hb1.trans (hb2.mono hb1.size)
  clear hb1 hb2
  go_wp2
  go_ret
  exact ⟨rfl, HB.out⟩
theorem fieldI5 (v : Int) (w : World) :
    Calls Tryz.prog 65 #[.int .i64 5, .int .u8 105, .int .i64 v] w fun e w' => e = .returned (.bool (okB 5 v)) ∧ Below w.heap.size w w' := by
  go_enter Tryz.func65, Tryz.ntmps65
  go_wp2_with fail
  refine (rule_5 _).mono ?_
  rintro e w1 ⟨rfl, hb1⟩
  go_wp2_with fail
  refine (allows5 v _).mono ?_
  rintro e w2 ⟨rfl, hb2⟩
  have HB : Hid (Below w.heap.size w w2) := hb1.trans (hb2.mono hb1.size)
  clear hb1 hb2
  go_wp2
  go_ret
  exact ⟨rfl, HB.out⟩
theorem fieldI6 (v : Int) (w : World) :
    Calls Tryz.prog 65 #[.int .i64 6, .int .u8 105, .int .i64 v] w fun e w' => e = .returned (.bool (okB 6 v)) ∧ Below w.heap.size w w' := by
  go_enter Tryz.func65, Tryz.ntmps65
  go_wp2_with fail
  refine (rule_6 _).mono ?_
  rintro e w1 ⟨rfl, hb1⟩
  go_wp2_with fail
  refine (allows6 v _).mono ?_
  rintro e w2 ⟨rfl, hb2⟩
  have HB : Hid (Below w.heap.size w w2) := hb1.trans (hb2.mono hb1.size)
  clear hb1 hb2
  go_wp2
  go_ret
  exact ⟨rfl, HB.out⟩
theorem fieldI7 (v : Int) (w : World) :
    Calls Tryz.prog 65 #[.int .i64 7, .int .u8 105, .int .i64 v] w fun e w' => e = .returned (.bool (okB 7 v)) ∧ Below w.heap.size w w' := by
  go_enter Tryz.func65, Tryz.ntmps65
  go_wp2_with fail
  refine (rule_7 _).mono ?_
  rintro e w1 ⟨rfl, hb1⟩
  go_wp2_with fail
  refine (allows7 v _).mono ?_
  rintro e w2 ⟨rfl, hb2⟩
  have HB : Hid (Below w.heap.size w w2) := hb1.trans (hb2.mono hb1.size)
  clear hb1 hb2
  go_wp2
  go_ret
  exact ⟨rfl, HB.out⟩
theorem fieldR (f l v : Int) (hl : l ≠ 105) (w : World) :
    Calls Tryz.prog 65 #[.int .i64 f, .int .u8 l, .int .i64 v] w fun e w' => e = .returned (.bool (regB v)) ∧ w' = w := by
  by_cases h0 : 0 ≤ v
  · go_enter Tryz.func65, Tryz.ntmps65
    go_wp2_with (go_at_call 71; refine (low5 _).mono ?_; rintro e w1 ⟨rfl, rfl⟩)
    go_ret
    refine ⟨congrArg (fun x => Ending.returned (.bool x)) ?_, rfl⟩
    show decide (v ≤ 31) = regB v
    unfold regB
    simp [h0]
  · go_enter Tryz.func65, Tryz.ntmps65
    go_wp2
    go_ret
    refine ⟨congrArg (fun x => Ending.returned (.bool x)) ?_, rfl⟩
    show false = regB v
    unfold regB
    simp
    omega
end Go.Proofs.YtiandbhcjecphaaGreatDoor
