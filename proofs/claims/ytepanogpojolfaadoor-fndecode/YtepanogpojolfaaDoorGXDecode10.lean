/- An element of the pieces of a rule. How a form's number is laid into a word: contracts. -/
import Derived.Test.YtepanogpojolfaaDoorGXDecode9
import Derived.Test.YtepanogpojolfaaDoorGXDecode0
namespace Go.Proofs.YtepanogpojolfaaDoor
open Go.RowKit
set_option linter.unusedVariables false
theorem idx0 (a b c d e f g h i j k l : Int) (w : World) : (Instr.index 62 (.agg #[.int .i64 a, .int .i64 b, .int .i64 c, .int .i64 d, .int .i64 e, .int .i64 f, .int .i64 g, .int .i64 h, .int .i64 i, .int .i64 j, .int .i64 k, .int .i64 l]) (.int .i64 0)).run Tryd.prog w = .ok (.agg #[.int .i64 a, .int .i64 b, .int .i64 c]) w := by
  kernel_rfl
theorem idx1 (a b c d e f g h i j k l : Int) (w : World) : (Instr.index 62 (.agg #[.int .i64 a, .int .i64 b, .int .i64 c, .int .i64 d, .int .i64 e, .int .i64 f, .int .i64 g, .int .i64 h, .int .i64 i, .int .i64 j, .int .i64 k, .int .i64 l]) (.int .i64 1)).run Tryd.prog w = .ok (.agg #[.int .i64 d, .int .i64 e, .int .i64 f]) w := by
  kernel_rfl
theorem idx2 (a b c d e f g h i j k l : Int) (w : World) : (Instr.index 62 (.agg #[.int .i64 a, .int .i64 b, .int .i64 c, .int .i64 d, .int .i64 e, .int .i64 f, .int .i64 g, .int .i64 h, .int .i64 i, .int .i64 j, .int .i64 k, .int .i64 l]) (.int .i64 2)).run Tryd.prog w = .ok (.agg #[.int .i64 g, .int .i64 h, .int .i64 i]) w := by
  kernel_rfl
theorem idx3 (a b c d e f g h i j k l : Int) (w : World) : (Instr.index 62 (.agg #[.int .i64 a, .int .i64 b, .int .i64 c, .int .i64 d, .int .i64 e, .int .i64 f, .int .i64 g, .int .i64 h, .int .i64 i, .int .i64 j, .int .i64 k, .int .i64 l]) (.int .i64 3)).run Tryd.prog w = .ok (.agg #[.int .i64 j, .int .i64 k, .int .i64 l]) w := by
  kernel_rfl
theorem bdN {B : Nat} {a w : World} (h : Below B a w) (n : Nat) : Below B a (w.drewN n) := h.trans ⟨rfl, rfl, rfl, Nat.le_refl _, fun _ _ => rfl⟩
end Go.Proofs.YtepanogpojolfaaDoor

namespace Go.Proofs.YtepanogpojolfaaDoor
open Go.RowKit
set_option linter.unusedVariables false
set_option maxRecDepth 100000 in
set_option maxHeartbeats 4000000 in
theorem lay1 (v : Int) (w : World) :
    Calls Tryd.prog 38 #[rule1, .int .i64 v] w fun e w' => e = .returned (.int .i64 (layF 1 v)) ∧ Below w.heap.size w w' := by
  have ix0 := fun w : World => idx0 12 20 12 0 0 0 0 0 0 0 0 0 w
  have ix1 := fun w : World => idx1 12 20 12 0 0 0 0 0 0 0 0 0 w
  have ix2 := fun w : World => idx2 12 20 12 0 0 0 0 0 0 0 0 0 w
  have ix3 := fun w : World => idx3 12 20 12 0 0 0 0 0 0 0 0 0 w
  unfold rule1
  go_enter Tryd.func38, Tryd.ntmps38
  go_wp2
  refine wp_loop_rounds 5 ?_
  rw [rounds_succ]
  go_wp2_with fail
  go_quiet ((go_at_call 77; first | exact Calls.quiet_of_same (low0 _) | exact Calls.quiet_of_same (low1 _) | exact Calls.quiet_of_same (low4 _) | exact Calls.quiet_of_same (low5 _) | exact Calls.quiet_of_same (low6 _) | exact Calls.quiet_of_same (low7 _) | exact Calls.quiet_of_same (low8 _) | exact Calls.quiet_of_same (low10 _) | exact Calls.quiet_of_same (low12 _) | exact Calls.quiet_of_same (low20 _)))
  go_wp2
  rw [rounds_succ]
  go_wp2_with fail
  go_quiet ((go_at_call 77; first | exact Calls.quiet_of_same (low0 _) | exact Calls.quiet_of_same (low1 _) | exact Calls.quiet_of_same (low4 _) | exact Calls.quiet_of_same (low5 _) | exact Calls.quiet_of_same (low6 _) | exact Calls.quiet_of_same (low7 _) | exact Calls.quiet_of_same (low8 _) | exact Calls.quiet_of_same (low10 _) | exact Calls.quiet_of_same (low12 _) | exact Calls.quiet_of_same (low20 _)))
  go_wp2
  rw [rounds_succ]
  go_wp2_with fail
  go_quiet ((go_at_call 77; first | exact Calls.quiet_of_same (low0 _) | exact Calls.quiet_of_same (low1 _) | exact Calls.quiet_of_same (low4 _) | exact Calls.quiet_of_same (low5 _) | exact Calls.quiet_of_same (low6 _) | exact Calls.quiet_of_same (low7 _) | exact Calls.quiet_of_same (low8 _) | exact Calls.quiet_of_same (low10 _) | exact Calls.quiet_of_same (low12 _) | exact Calls.quiet_of_same (low20 _)))
  go_wp2
  rw [rounds_succ]
  go_wp2_with fail
  go_quiet ((go_at_call 77; first | exact Calls.quiet_of_same (low0 _) | exact Calls.quiet_of_same (low1 _) | exact Calls.quiet_of_same (low4 _) | exact Calls.quiet_of_same (low5 _) | exact Calls.quiet_of_same (low6 _) | exact Calls.quiet_of_same (low7 _) | exact Calls.quiet_of_same (low8 _) | exact Calls.quiet_of_same (low10 _) | exact Calls.quiet_of_same (low12 _) | exact Calls.quiet_of_same (low20 _)))
  go_wp2
  rw [rounds_succ]
  clear ix0 ix1 ix2 ix3
  go_wp2
  go_ret
  refine ⟨congrArg (fun x => Ending.returned (.int .i64 x)) (layE1 v), ?_⟩
  exact bdN ((bdN ((bdN ((bdN (((Below.refl _ _).alloc (Nat.le_refl _) _).alloc (by simp; try omega) _) _).alloc (by simp; try omega) _) _).alloc (by simp; try omega) _) _).alloc (by simp; try omega) _) _
set_option maxRecDepth 100000 in
set_option maxHeartbeats 4000000 in
theorem lay2 (v : Int) (w : World) :
    Calls Tryd.prog 38 #[rule2, .int .i64 v] w fun e w' => e = .returned (.int .i64 (layF 2 v)) ∧ Below w.heap.size w w' := by
  have ix0 := fun w : World => idx0 12 8 12 11 1 20 1 10 21 20 1 31 w
  have ix1 := fun w : World => idx1 12 8 12 11 1 20 1 10 21 20 1 31 w
  have ix2 := fun w : World => idx2 12 8 12 11 1 20 1 10 21 20 1 31 w
  have ix3 := fun w : World => idx3 12 8 12 11 1 20 1 10 21 20 1 31 w
  unfold rule2
  go_enter Tryd.func38, Tryd.ntmps38
  go_wp2
  refine wp_loop_rounds 5 ?_
  rw [rounds_succ]
  go_wp2_with fail
  go_quiet ((go_at_call 77; first | exact Calls.quiet_of_same (low0 _) | exact Calls.quiet_of_same (low1 _) | exact Calls.quiet_of_same (low4 _) | exact Calls.quiet_of_same (low5 _) | exact Calls.quiet_of_same (low6 _) | exact Calls.quiet_of_same (low7 _) | exact Calls.quiet_of_same (low8 _) | exact Calls.quiet_of_same (low10 _) | exact Calls.quiet_of_same (low12 _) | exact Calls.quiet_of_same (low20 _)))
  go_wp2
  rw [rounds_succ]
  go_wp2_with fail
  go_quiet ((go_at_call 77; first | exact Calls.quiet_of_same (low0 _) | exact Calls.quiet_of_same (low1 _) | exact Calls.quiet_of_same (low4 _) | exact Calls.quiet_of_same (low5 _) | exact Calls.quiet_of_same (low6 _) | exact Calls.quiet_of_same (low7 _) | exact Calls.quiet_of_same (low8 _) | exact Calls.quiet_of_same (low10 _) | exact Calls.quiet_of_same (low12 _) | exact Calls.quiet_of_same (low20 _)))
  go_wp2
  rw [rounds_succ]
  go_wp2_with fail
  go_quiet ((go_at_call 77; first | exact Calls.quiet_of_same (low0 _) | exact Calls.quiet_of_same (low1 _) | exact Calls.quiet_of_same (low4 _) | exact Calls.quiet_of_same (low5 _) | exact Calls.quiet_of_same (low6 _) | exact Calls.quiet_of_same (low7 _) | exact Calls.quiet_of_same (low8 _) | exact Calls.quiet_of_same (low10 _) | exact Calls.quiet_of_same (low12 _) | exact Calls.quiet_of_same (low20 _)))
  go_wp2
  rw [rounds_succ]
  go_wp2_with fail
  go_quiet ((go_at_call 77; first | exact Calls.quiet_of_same (low0 _) | exact Calls.quiet_of_same (low1 _) | exact Calls.quiet_of_same (low4 _) | exact Calls.quiet_of_same (low5 _) | exact Calls.quiet_of_same (low6 _) | exact Calls.quiet_of_same (low7 _) | exact Calls.quiet_of_same (low8 _) | exact Calls.quiet_of_same (low10 _) | exact Calls.quiet_of_same (low12 _) | exact Calls.quiet_of_same (low20 _)))
  go_wp2
  rw [rounds_succ]
  clear ix0 ix1 ix2 ix3
  go_wp2
  go_ret
  refine ⟨congrArg (fun x => Ending.returned (.int .i64 x)) (layE2 v), ?_⟩
  exact bdN ((bdN ((bdN ((bdN (((Below.refl _ _).alloc (Nat.le_refl _) _).alloc (by simp; try omega) _) _).alloc (by simp; try omega) _) _).alloc (by simp; try omega) _) _).alloc (by simp; try omega) _) _
end Go.Proofs.YtepanogpojolfaaDoor
