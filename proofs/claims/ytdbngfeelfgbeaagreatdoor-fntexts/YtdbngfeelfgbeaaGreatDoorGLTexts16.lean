/- Contracts of SignOf. How a form's number is taken out of a word: contracts. -/
import Derived.Test.YtdbngfeelfgbeaaGreatDoorGLTexts8
import Derived.Test.YtdbngfeelfgbeaaGreatDoorGLTexts15
import Derived.Test.YtdbngfeelfgbeaaGreatDoorGLTexts12
namespace Go.Proofs.YtdbngfeelfgbeaaGreatDoor
open Go.RowKit
set_option linter.unusedVariables false

theorem sign_bad_impl (v c : Int) (w : World) (hL : Laid w) (h : c < 1 ∨ 64 < c) :
    Calls Tryz.prog 74 #[.int .i64 v, .int .i64 c] w fun e w' => e = .returned (.tuple #[.int .i64 0, .int .i64 4]) ∧ Below w.heap.size w w' := by
  obtain ⟨a0, a1, hL⟩ := hL
  go_enter Tryz.func74, Tryz.ntmps74
  go_wp2_with fail
  refine (inside_no _ c 1 64 w a0 a1 hL h).mono ?_
  rintro e w1 ⟨rfl, rfl⟩
  go_wp2_with fail
  refine (code_range _ _ a0 a1 hL).mono ?_
  rintro e w2 ⟨rfl, hb⟩
  clear hL h
  go_wp2
  go_ret2
  exact ⟨rfl, hb⟩

theorem sign_ok_impl (v : Int) (c : Nat) (w : World) (h0 : 1 ≤ c) (h1 : c ≤ 64) :
    Calls Tryz.prog 74 #[.int .i64 v, .int .i64 c] w fun e w' => e = .returned (.tuple #[.int .i64 (sgn v c), .int .i64 0]) ∧ w' = w := by
  obtain ⟨d, hd⟩ : ∃ d, d = 64 - c := ⟨_, rfl⟩
  have hd1 : (64 : Int) - (c : Int) = (d : Int) := by omega
  have hd2 : (d : Int) ≤ 64 := by omega
  have HS : Hid (((v * 2 ^ d + 9223372036854775808) % 18446744073709551616 - 9223372036854775808) / 2 ^ d = sgn v c) := sgn_shifts v c d (by omega) h0
  clear hd
  go_enter Tryz.func74, Tryz.ntmps74
  go_wp2_with fail
  refine (inside_ok _ (c : Int) 1 64 w (by omega) (by omega)).mono ?_
  rintro e w1 ⟨rfl, rfl⟩
  go_wp2
  go_ret2
  refine ⟨ret_ints ?_ rfl, rfl⟩
  show wrap64 (v * 2 ^ d) / 2 ^ d = sgn v c
  unfold wrap64
  exact HS.out

end Go.Proofs.YtdbngfeelfgbeaaGreatDoor

namespace Go.Proofs.YtdbngfeelfgbeaaGreatDoor
open Go.RowKit
set_option linter.unusedVariables false
set_option maxRecDepth 100000 in
set_option maxHeartbeats 4000000 in
theorem take1 (v : Int) (w : World) :
    Calls Tryz.prog 66 #[rule1, .int .i64 v] w fun e w' => e = .returned (.int .i64 (takeF 1 v)) ∧ Below w.heap.size w w' := by
  have ix0 := fun w : World => idx0 12 20 12 0 0 0 0 0 0 0 0 0 w
  have ix1 := fun w : World => idx1 12 20 12 0 0 0 0 0 0 0 0 0 w
  have ix2 := fun w : World => idx2 12 20 12 0 0 0 0 0 0 0 0 0 w
  have ix3 := fun w : World => idx3 12 20 12 0 0 0 0 0 0 0 0 0 w
  unfold rule1
  go_enter Tryz.func66, Tryz.ntmps66
  go_wp2
  refine wp_loop_rounds 5 ?_
  rw [rounds_succ]
  go_wp2_with fail
  go_quiet ((go_at_call 55; first | exact Calls.quiet_of_same (low0 _) | exact Calls.quiet_of_same (low1 _) | exact Calls.quiet_of_same (low4 _) | exact Calls.quiet_of_same (low5 _) | exact Calls.quiet_of_same (low6 _) | exact Calls.quiet_of_same (low7 _) | exact Calls.quiet_of_same (low8 _) | exact Calls.quiet_of_same (low10 _) | exact Calls.quiet_of_same (low12 _) | exact Calls.quiet_of_same (low20 _)))
  go_wp2
  rw [rounds_succ]
  go_wp2_with fail
  go_quiet ((go_at_call 55; first | exact Calls.quiet_of_same (low0 _) | exact Calls.quiet_of_same (low1 _) | exact Calls.quiet_of_same (low4 _) | exact Calls.quiet_of_same (low5 _) | exact Calls.quiet_of_same (low6 _) | exact Calls.quiet_of_same (low7 _) | exact Calls.quiet_of_same (low8 _) | exact Calls.quiet_of_same (low10 _) | exact Calls.quiet_of_same (low12 _) | exact Calls.quiet_of_same (low20 _)))
  go_wp2
  rw [rounds_succ]
  go_wp2_with fail
  go_quiet ((go_at_call 55; first | exact Calls.quiet_of_same (low0 _) | exact Calls.quiet_of_same (low1 _) | exact Calls.quiet_of_same (low4 _) | exact Calls.quiet_of_same (low5 _) | exact Calls.quiet_of_same (low6 _) | exact Calls.quiet_of_same (low7 _) | exact Calls.quiet_of_same (low8 _) | exact Calls.quiet_of_same (low10 _) | exact Calls.quiet_of_same (low12 _) | exact Calls.quiet_of_same (low20 _)))
  go_wp2
  rw [rounds_succ]
  go_wp2_with fail
  go_quiet ((go_at_call 55; first | exact Calls.quiet_of_same (low0 _) | exact Calls.quiet_of_same (low1 _) | exact Calls.quiet_of_same (low4 _) | exact Calls.quiet_of_same (low5 _) | exact Calls.quiet_of_same (low6 _) | exact Calls.quiet_of_same (low7 _) | exact Calls.quiet_of_same (low8 _) | exact Calls.quiet_of_same (low10 _) | exact Calls.quiet_of_same (low12 _) | exact Calls.quiet_of_same (low20 _)))
  go_wp2
  rw [rounds_succ]
  clear ix0 ix1 ix2 ix3
  go_wp2_with fail
  refine (sign_ok_impl _ 32 _ (by decide) (by decide)).mono ?_
  rintro e w1 ⟨rfl, rfl⟩
  go_wp2
  go_ret
  refine ⟨congrArg (fun x => Ending.returned (.int .i64 x)) (congrArg (fun x => sgn x 32) (takE1 v)), ?_⟩
  exact bdN ((bdN ((bdN ((bdN (((Below.refl _ _).alloc (Nat.le_refl _) _).alloc (by simp; try omega) _) _).alloc (by simp; try omega) _) _).alloc (by simp; try omega) _) _).alloc (by simp; try omega) _) _
set_option maxRecDepth 100000 in
set_option maxHeartbeats 4000000 in
theorem take2 (v : Int) (w : World) :
    Calls Tryz.prog 66 #[rule2, .int .i64 v] w fun e w' => e = .returned (.int .i64 (takeF 2 v)) ∧ Below w.heap.size w w' := by
  have ix0 := fun w : World => idx0 12 8 12 11 1 20 1 10 21 20 1 31 w
  have ix1 := fun w : World => idx1 12 8 12 11 1 20 1 10 21 20 1 31 w
  have ix2 := fun w : World => idx2 12 8 12 11 1 20 1 10 21 20 1 31 w
  have ix3 := fun w : World => idx3 12 8 12 11 1 20 1 10 21 20 1 31 w
  unfold rule2
  go_enter Tryz.func66, Tryz.ntmps66
  go_wp2
  refine wp_loop_rounds 5 ?_
  rw [rounds_succ]
  go_wp2_with fail
  go_quiet ((go_at_call 55; first | exact Calls.quiet_of_same (low0 _) | exact Calls.quiet_of_same (low1 _) | exact Calls.quiet_of_same (low4 _) | exact Calls.quiet_of_same (low5 _) | exact Calls.quiet_of_same (low6 _) | exact Calls.quiet_of_same (low7 _) | exact Calls.quiet_of_same (low8 _) | exact Calls.quiet_of_same (low10 _) | exact Calls.quiet_of_same (low12 _) | exact Calls.quiet_of_same (low20 _)))
  go_wp2
  rw [rounds_succ]
  go_wp2_with fail
  go_quiet ((go_at_call 55; first | exact Calls.quiet_of_same (low0 _) | exact Calls.quiet_of_same (low1 _) | exact Calls.quiet_of_same (low4 _) | exact Calls.quiet_of_same (low5 _) | exact Calls.quiet_of_same (low6 _) | exact Calls.quiet_of_same (low7 _) | exact Calls.quiet_of_same (low8 _) | exact Calls.quiet_of_same (low10 _) | exact Calls.quiet_of_same (low12 _) | exact Calls.quiet_of_same (low20 _)))
  go_wp2
  rw [rounds_succ]
  go_wp2_with fail
  go_quiet ((go_at_call 55; first | exact Calls.quiet_of_same (low0 _) | exact Calls.quiet_of_same (low1 _) | exact Calls.quiet_of_same (low4 _) | exact Calls.quiet_of_same (low5 _) | exact Calls.quiet_of_same (low6 _) | exact Calls.quiet_of_same (low7 _) | exact Calls.quiet_of_same (low8 _) | exact Calls.quiet_of_same (low10 _) | exact Calls.quiet_of_same (low12 _) | exact Calls.quiet_of_same (low20 _)))
  go_wp2
  rw [rounds_succ]
  go_wp2_with fail
  go_quiet ((go_at_call 55; first | exact Calls.quiet_of_same (low0 _) | exact Calls.quiet_of_same (low1 _) | exact Calls.quiet_of_same (low4 _) | exact Calls.quiet_of_same (low5 _) | exact Calls.quiet_of_same (low6 _) | exact Calls.quiet_of_same (low7 _) | exact Calls.quiet_of_same (low8 _) | exact Calls.quiet_of_same (low10 _) | exact Calls.quiet_of_same (low12 _) | exact Calls.quiet_of_same (low20 _)))
  go_wp2
  rw [rounds_succ]
  clear ix0 ix1 ix2 ix3
  go_wp2_with fail
  refine (sign_ok_impl _ 21 _ (by decide) (by decide)).mono ?_
  rintro e w1 ⟨rfl, rfl⟩
  go_wp2
  go_ret
  refine ⟨congrArg (fun x => Ending.returned (.int .i64 x)) (congrArg (fun x => sgn x 21) (takE2 v)), ?_⟩
  exact bdN ((bdN ((bdN ((bdN (((Below.refl _ _).alloc (Nat.le_refl _) _).alloc (by simp; try omega) _) _).alloc (by simp; try omega) _) _).alloc (by simp; try omega) _) _).alloc (by simp; try omega) _) _
end Go.Proofs.YtdbngfeelfgbeaaGreatDoor
