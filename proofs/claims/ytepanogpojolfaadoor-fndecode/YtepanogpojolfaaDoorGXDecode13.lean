/- How a form's number is laid into a word: contracts. How a form's number is taken out of a word: plain. Two numbers that are answered. Contracts of SignOf. -/
import Derived.Test.YtepanogpojolfaaDoorGXDecode10
import Derived.Test.YtepanogpojolfaaDoorGXDecode0
import Derived.Test.YtepanogpojolfaaDoorGXDecode7
namespace Go.Proofs.YtepanogpojolfaaDoor
open Go.RowKit
set_option linter.unusedVariables false
set_option maxRecDepth 100000 in
set_option maxHeartbeats 4000000 in
theorem lay7 (v : Int) (w : World) :
    Calls Tryd.prog 38 #[rule7, .int .i64 v] w fun e w' => e = .returned (.int .i64 (layF 7 v)) ∧ Below w.heap.size w w' := by
  have ix0 := fun w : World => idx0 0 5 20 0 0 0 0 0 0 0 0 0 w
  have ix1 := fun w : World => idx1 0 5 20 0 0 0 0 0 0 0 0 0 w
  have ix2 := fun w : World => idx2 0 5 20 0 0 0 0 0 0 0 0 0 w
  have ix3 := fun w : World => idx3 0 5 20 0 0 0 0 0 0 0 0 0 w
  unfold rule7
  go_enter Tryd.func38, Tryd.ntmps38
  go_wp2
  refine wp_loop_rounds 5 ?_
  rw [rounds_succ]
  go_wp2_with fail
  go_quiet ((go_at_call 77; first | exact Calls.quiet_of_same (low0 _) | exact Calls.quiet_of_same (low1 _) | exact Calls.quiet_of_same (low4 _) | exact Calls.quiet_of_same (low5 _) | exact Calls.quiet_of_same (low6 _) | exact Calls.quiet_of_same (low7 _) | exact Calls.quiet_of_same (low8 _) | exact Calls.quiet_of_same (low10 _) | exact Calls.quiet_of_same (low12 _) | exact Calls.quiet_of_same (low20 _)))
  go_wp2
  rw [rounds_succ]
  go_wp2_with fail
  go_quiet ((go_at_call 77; first | exact Calls.quiet_of_same (low0 _) | exact Calls.quiet_of_same (low1 _) | exact Calls.quiet_of_same (low4 _) | exact Calls.quiet_of_same (low5 _) | exact Calls.quiet_of_same (low6 _) | exact Calls.quiet_of_same (low7 _) | exact Calls.quiet_of_same (low8 _) | exact Calls.quiet_of_same (low10 _) | exact Calls.quiet_of_same (low12 _) | exact Calls.quiet_of_same (low20 _)))
  go_wp2
  rw [rounds_succ]
  go_wp2_with fail
  go_quiet ((go_at_call 77; first | exact Calls.quiet_of_same (low0 _) | exact Calls.quiet_of_same (low1 _) | exact Calls.quiet_of_same (low4 _) | exact Calls.quiet_of_same (low5 _) | exact Calls.quiet_of_same (low6 _) | exact Calls.quiet_of_same (low7 _) | exact Calls.quiet_of_same (low8 _) | exact Calls.quiet_of_same (low10 _) | exact Calls.quiet_of_same (low12 _) | exact Calls.quiet_of_same (low20 _)))
  go_wp2
  rw [rounds_succ]
  go_wp2_with fail
  go_quiet ((go_at_call 77; first | exact Calls.quiet_of_same (low0 _) | exact Calls.quiet_of_same (low1 _) | exact Calls.quiet_of_same (low4 _) | exact Calls.quiet_of_same (low5 _) | exact Calls.quiet_of_same (low6 _) | exact Calls.quiet_of_same (low7 _) | exact Calls.quiet_of_same (low8 _) | exact Calls.quiet_of_same (low10 _) | exact Calls.quiet_of_same (low12 _) | exact Calls.quiet_of_same (low20 _)))
  go_wp2
  rw [rounds_succ]
  clear ix0 ix1 ix2 ix3
  go_wp2
  go_ret
  refine ⟨congrArg (fun x => Ending.returned (.int .i64 x)) (layE7 v), ?_⟩
  exact bdN ((bdN ((bdN ((bdN (((Below.refl _ _).alloc (Nat.le_refl _) _).alloc (by simp; try omega) _) _).alloc (by simp; try omega) _) _).alloc (by simp; try omega) _) _).alloc (by simp; try omega) _) _
set_option maxRecDepth 100000 in
set_option maxHeartbeats 4000000 in
theorem lay8 (v : Int) (w : World) :
    Calls Tryd.prog 38 #[rule8, .int .i64 v] w fun e w' => e = .returned (.int .i64 (layF 8 v)) ∧ Below w.heap.size w w' := by
  have ix0 := fun w : World => idx0 0 0 0 0 0 0 0 0 0 0 0 0 w
  have ix1 := fun w : World => idx1 0 0 0 0 0 0 0 0 0 0 0 0 w
  have ix2 := fun w : World => idx2 0 0 0 0 0 0 0 0 0 0 0 0 w
  have ix3 := fun w : World => idx3 0 0 0 0 0 0 0 0 0 0 0 0 w
  unfold rule8
  go_enter Tryd.func38, Tryd.ntmps38
  go_wp2
  refine wp_loop_rounds 5 ?_
  rw [rounds_succ]
  go_wp2_with fail
  go_quiet ((go_at_call 77; first | exact Calls.quiet_of_same (low0 _) | exact Calls.quiet_of_same (low1 _) | exact Calls.quiet_of_same (low4 _) | exact Calls.quiet_of_same (low5 _) | exact Calls.quiet_of_same (low6 _) | exact Calls.quiet_of_same (low7 _) | exact Calls.quiet_of_same (low8 _) | exact Calls.quiet_of_same (low10 _) | exact Calls.quiet_of_same (low12 _) | exact Calls.quiet_of_same (low20 _)))
  go_wp2
  rw [rounds_succ]
  go_wp2_with fail
  go_quiet ((go_at_call 77; first | exact Calls.quiet_of_same (low0 _) | exact Calls.quiet_of_same (low1 _) | exact Calls.quiet_of_same (low4 _) | exact Calls.quiet_of_same (low5 _) | exact Calls.quiet_of_same (low6 _) | exact Calls.quiet_of_same (low7 _) | exact Calls.quiet_of_same (low8 _) | exact Calls.quiet_of_same (low10 _) | exact Calls.quiet_of_same (low12 _) | exact Calls.quiet_of_same (low20 _)))
  go_wp2
  rw [rounds_succ]
  go_wp2_with fail
  go_quiet ((go_at_call 77; first | exact Calls.quiet_of_same (low0 _) | exact Calls.quiet_of_same (low1 _) | exact Calls.quiet_of_same (low4 _) | exact Calls.quiet_of_same (low5 _) | exact Calls.quiet_of_same (low6 _) | exact Calls.quiet_of_same (low7 _) | exact Calls.quiet_of_same (low8 _) | exact Calls.quiet_of_same (low10 _) | exact Calls.quiet_of_same (low12 _) | exact Calls.quiet_of_same (low20 _)))
  go_wp2
  rw [rounds_succ]
  go_wp2_with fail
  go_quiet ((go_at_call 77; first | exact Calls.quiet_of_same (low0 _) | exact Calls.quiet_of_same (low1 _) | exact Calls.quiet_of_same (low4 _) | exact Calls.quiet_of_same (low5 _) | exact Calls.quiet_of_same (low6 _) | exact Calls.quiet_of_same (low7 _) | exact Calls.quiet_of_same (low8 _) | exact Calls.quiet_of_same (low10 _) | exact Calls.quiet_of_same (low12 _) | exact Calls.quiet_of_same (low20 _)))
  go_wp2
  rw [rounds_succ]
  clear ix0 ix1 ix2 ix3
  go_wp2
  go_ret
  refine ⟨congrArg (fun x => Ending.returned (.int .i64 x)) (layE8 v), ?_⟩
  exact bdN ((bdN ((bdN ((bdN (((Below.refl _ _).alloc (Nat.le_refl _) _).alloc (by simp; try omega) _) _).alloc (by simp; try omega) _) _).alloc (by simp; try omega) _) _).alloc (by simp; try omega) _) _
end Go.Proofs.YtepanogpojolfaaDoor

namespace Go.Proofs.YtepanogpojolfaaDoor
open Go.RowKit

theorem takE1 (w : Int) : (bits .or .i64 (bits .or .i64 (bits .or .i64 (bits .or .i64 0 (wrap64 (bits .and .i64 (w / 4096) 1048575 * 4096))) (wrap64 (bits .and .i64 w 0))) (wrap64 (bits .and .i64 w 0))) (wrap64 (bits .and .i64 w 0))) = w / 4096 % 1048576 * 4096 := by
  simp only [and_20, and_0]
  have p : 0 ≤ w / 4096 % 1048576 ∧ w / 4096 % 1048576 < 1048576 := by omega
  generalize w / 4096 % 1048576 = x0 at *
  rw [wrap_in (x0 * 4096) (by omega) (by omega)]
  rw [wrap_in 0 (by omega) (by omega)]
  rw [z_or (x0 * 4096) (by omega) (by omega)]
  rw [or_z (x0 * 4096) (by omega) (by omega)]
  rw [or_z (x0 * 4096) (by omega) (by omega)]
  rw [or_z (x0 * 4096) (by omega) (by omega)]
theorem takE2 (w : Int) : (bits .or .i64 (bits .or .i64 (bits .or .i64 (bits .or .i64 0 (wrap64 (bits .and .i64 (w / 4096) 255 * 4096))) (wrap64 (bits .and .i64 (w / 1048576) 1 * 2048))) (wrap64 (bits .and .i64 (w / 2097152) 1023 * 2))) (wrap64 (bits .and .i64 (w / 2147483648) 1 * 1048576))) = w / 4096 % 256 * 4096 + w / 1048576 % 2 * 2048 + w / 2097152 % 1024 * 2 + w / 2147483648 % 2 * 1048576 := by
  simp only [and_1, and_8, and_10]
  have p : 0 ≤ w / 4096 % 256 ∧ w / 4096 % 256 < 256 := by omega
  have q : 0 ≤ w / 1048576 % 2 ∧ w / 1048576 % 2 < 2 := by omega
  have r : 0 ≤ w / 2097152 % 1024 ∧ w / 2097152 % 1024 < 1024 := by omega
  have s : 0 ≤ w / 2147483648 % 2 ∧ w / 2147483648 % 2 < 2 := by omega
  generalize w / 4096 % 256 = x0 at *
  generalize w / 1048576 % 2 = x1 at *
  generalize w / 2097152 % 1024 = x2 at *
  generalize w / 2147483648 % 2 = x3 at *
  rw [wrap_in (x0 * 4096) (by omega) (by omega)]
  rw [wrap_in (x1 * 2048) (by omega) (by omega)]
  rw [wrap_in (x2 * 2) (by omega) (by omega)]
  rw [wrap_in (x3 * 1048576) (by omega) (by omega)]
  rw [z_or (x0 * 4096) (by omega) (by omega)]
  rw [i64_or_gap 11 1 2048 4096 (by decide) (by decide) (x0 * 4096) (x1 * 2048) (by omega) (by omega) (by omega) (by omega) (by omega) (by omega) (by decide)]
  rw [i64_or_gap 1 10 2 2048 (by decide) (by decide) (x0 * 4096 + x1 * 2048) (x2 * 2) (by omega) (by omega) (by omega) (by omega) (by omega) (by omega) (by decide)]
  rw [i64_or_gap 20 1 1048576 2097152 (by decide) (by decide) (x0 * 4096 + x1 * 2048 + x2 * 2) (x3 * 1048576) (by omega) (by omega) (by omega) (by omega) (by omega) (by omega) (by decide)]
theorem takE3 (w : Int) : (bits .or .i64 (bits .or .i64 (bits .or .i64 (bits .or .i64 0 (wrap64 (bits .and .i64 (w / 1048576) 4095))) (wrap64 (bits .and .i64 w 0))) (wrap64 (bits .and .i64 w 0))) (wrap64 (bits .and .i64 w 0))) = w / 1048576 % 4096 := by
  simp only [and_12, and_0]
  have p : 0 ≤ w / 1048576 % 4096 ∧ w / 1048576 % 4096 < 4096 := by omega
  generalize w / 1048576 % 4096 = x0 at *
  rw [wrap_in (x0) (by omega) (by omega)]
  rw [wrap_in 0 (by omega) (by omega)]
  rw [z_or (x0) (by omega) (by omega)]
  rw [or_z (x0) (by omega) (by omega)]
  rw [or_z (x0) (by omega) (by omega)]
  rw [or_z (x0) (by omega) (by omega)]
theorem takE4 (w : Int) : (bits .or .i64 (bits .or .i64 (bits .or .i64 (bits .or .i64 0 (wrap64 (bits .and .i64 (w / 128) 1 * 2048))) (wrap64 (bits .and .i64 (w / 256) 15 * 2))) (wrap64 (bits .and .i64 (w / 33554432) 63 * 32))) (wrap64 (bits .and .i64 (w / 2147483648) 1 * 4096))) = w / 128 % 2 * 2048 + w / 256 % 16 * 2 + w / 33554432 % 64 * 32 + w / 2147483648 % 2 * 4096 := by
  simp only [and_1, and_4, and_6]
  have p : 0 ≤ w / 128 % 2 ∧ w / 128 % 2 < 2 := by omega
  have q : 0 ≤ w / 256 % 16 ∧ w / 256 % 16 < 16 := by omega
  have r : 0 ≤ w / 33554432 % 64 ∧ w / 33554432 % 64 < 64 := by omega
  have s : 0 ≤ w / 2147483648 % 2 ∧ w / 2147483648 % 2 < 2 := by omega
  generalize w / 128 % 2 = x0 at *
  generalize w / 256 % 16 = x1 at *
  generalize w / 33554432 % 64 = x2 at *
  generalize w / 2147483648 % 2 = x3 at *
  rw [wrap_in (x0 * 2048) (by omega) (by omega)]
  rw [wrap_in (x1 * 2) (by omega) (by omega)]
  rw [wrap_in (x2 * 32) (by omega) (by omega)]
  rw [wrap_in (x3 * 4096) (by omega) (by omega)]
  rw [z_or (x0 * 2048) (by omega) (by omega)]
  rw [i64_or_gap 1 4 2 32 (by decide) (by decide) (x0 * 2048) (x1 * 2) (by omega) (by omega) (by omega) (by omega) (by omega) (by omega) (by decide)]
  rw [i64_or_gap 5 6 32 2048 (by decide) (by decide) (x0 * 2048 + x1 * 2) (x2 * 32) (by omega) (by omega) (by omega) (by omega) (by omega) (by omega) (by decide)]
  rw [i64_or_gap 12 1 4096 8192 (by decide) (by decide) (x0 * 2048 + x1 * 2 + x2 * 32) (x3 * 4096) (by omega) (by omega) (by omega) (by omega) (by omega) (by omega) (by decide)]
theorem takE5 (w : Int) : (bits .or .i64 (bits .or .i64 (bits .or .i64 (bits .or .i64 0 (wrap64 (bits .and .i64 (w / 128) 31))) (wrap64 (bits .and .i64 (w / 33554432) 127 * 32))) (wrap64 (bits .and .i64 w 0))) (wrap64 (bits .and .i64 w 0))) = w / 128 % 32 + w / 33554432 % 128 * 32 := by
  simp only [and_5, and_7, and_0]
  have p : 0 ≤ w / 128 % 32 ∧ w / 128 % 32 < 32 := by omega
  have q : 0 ≤ w / 33554432 % 128 ∧ w / 33554432 % 128 < 128 := by omega
  generalize w / 128 % 32 = x0 at *
  generalize w / 33554432 % 128 = x1 at *
  rw [wrap_in (x0) (by omega) (by omega)]
  rw [wrap_in (x1 * 32) (by omega) (by omega)]
  rw [wrap_in 0 (by omega) (by omega)]
  rw [z_or (x0) (by omega) (by omega)]
  rw [i64_or_gap 5 7 32 4096 (by decide) (by decide) (x0) (x1 * 32) (by omega) (by omega) (by omega) (by omega) (by omega) (by omega) (by decide)]
  rw [or_z (x0 + x1 * 32) (by omega) (by omega)]
  rw [or_z (x0 + x1 * 32) (by omega) (by omega)]
theorem takE6 (w : Int) : (bits .or .i64 (bits .or .i64 (bits .or .i64 (bits .or .i64 0 (wrap64 (bits .and .i64 (w / 1048576) 63))) (wrap64 (bits .and .i64 w 0))) (wrap64 (bits .and .i64 w 0))) (wrap64 (bits .and .i64 w 0))) = w / 1048576 % 64 := by
  simp only [and_6, and_0]
  have p : 0 ≤ w / 1048576 % 64 ∧ w / 1048576 % 64 < 64 := by omega
  generalize w / 1048576 % 64 = x0 at *
  rw [wrap_in (x0) (by omega) (by omega)]
  rw [wrap_in 0 (by omega) (by omega)]
  rw [z_or (x0) (by omega) (by omega)]
  rw [or_z (x0) (by omega) (by omega)]
  rw [or_z (x0) (by omega) (by omega)]
  rw [or_z (x0) (by omega) (by omega)]
theorem takE7 (w : Int) : (bits .or .i64 (bits .or .i64 (bits .or .i64 (bits .or .i64 0 (wrap64 (bits .and .i64 (w / 1048576) 31))) (wrap64 (bits .and .i64 w 0))) (wrap64 (bits .and .i64 w 0))) (wrap64 (bits .and .i64 w 0))) = w / 1048576 % 32 := by
  simp only [and_5, and_0]
  have p : 0 ≤ w / 1048576 % 32 ∧ w / 1048576 % 32 < 32 := by omega
  generalize w / 1048576 % 32 = x0 at *
  rw [wrap_in (x0) (by omega) (by omega)]
  rw [wrap_in 0 (by omega) (by omega)]
  rw [z_or (x0) (by omega) (by omega)]
  rw [or_z (x0) (by omega) (by omega)]
  rw [or_z (x0) (by omega) (by omega)]
  rw [or_z (x0) (by omega) (by omega)]
theorem takE8 (w : Int) : (bits .or .i64 (bits .or .i64 (bits .or .i64 (bits .or .i64 0 (wrap64 (bits .and .i64 w 0))) (wrap64 (bits .and .i64 w 0))) (wrap64 (bits .and .i64 w 0))) (wrap64 (bits .and .i64 w 0))) = 0 := by
  simp only [and_0]
  rw [wrap_in 0 (by omega) (by omega), or_z 0 (by omega) (by omega), or_z 0 (by omega) (by omega), or_z 0 (by omega) (by omega), or_z 0 (by omega) (by omega)]
end Go.Proofs.YtepanogpojolfaaDoor

namespace Go.Proofs.YtepanogpojolfaaDoor
theorem ret_ints {a b x y : Int} (h : a = b) (k : x = y) : Ending.returned (.tuple #[.int .i64 a, .int .i64 x]) = .returned (.tuple #[.int .i64 b, .int .i64 y]) := by rw [h, k]

end Go.Proofs.YtepanogpojolfaaDoor

namespace Go.Proofs.YtepanogpojolfaaDoor
open Go.RowKit
set_option linter.unusedVariables false

theorem sign_bad_impl (v c : Int) (w : World) (hL : Laid w) (h : c < 1 ∨ 64 < c) :
    Calls Tryd.prog 105 #[.int .i64 v, .int .i64 c] w fun e w' => e = .returned (.tuple #[.int .i64 0, .int .i64 4]) ∧ Below w.heap.size w w' := by
  obtain ⟨a0, a1, hL⟩ := hL
  go_enter Tryd.func105, Tryd.ntmps105
  go_wp2_with fail
  refine (inside_no _ c 1 64 w a0 a1 hL h).mono ?_
  rintro e w1 ⟨rfl, rfl⟩
  go_wp2_with fail
  refine (code_range _ _ a0 a1 hL).mono ?_
  rintro e w2 ⟨rfl, hb⟩
  clear hL h
  go_wp2
  go_ret2
  exact ⟨rfl, hb⟩

theorem sign_ok_impl (v : Int) (c : Nat) (w : World) (h0 : 1 ≤ c) (h1 : c ≤ 64) :
    Calls Tryd.prog 105 #[.int .i64 v, .int .i64 c] w fun e w' => e = .returned (.tuple #[.int .i64 (sgn v c), .int .i64 0]) ∧ w' = w := by
  obtain ⟨d, hd⟩ : ∃ d, d = 64 - c := ⟨_, rfl⟩
  have hd1 : (64 : Int) - (c : Int) = (d : Int) := by omega
  have hd2 : (d : Int) ≤ 64 := by omega
  have HS : Hid (((v * 2 ^ d + 9223372036854775808) % 18446744073709551616 - 9223372036854775808) / 2 ^ d = sgn v c) := sgn_shifts v c d (by omega) h0
  clear hd
  go_enter Tryd.func105, Tryd.ntmps105
  go_wp2_with fail
  refine (inside_ok _ (c : Int) 1 64 w (by omega) (by omega)).mono ?_
  rintro e w1 ⟨rfl, rfl⟩
  go_wp2
  go_ret2
  refine ⟨ret_ints ?_ rfl, rfl⟩
  show wrap64 (v * 2 ^ d) / 2 ^ d = sgn v c
  unfold wrap64
  exact HS.out

end Go.Proofs.YtepanogpojolfaaDoor
