/- An element of the pieces of a rule. How a form's number is laid into a word: plain. How a form's number is laid into a word: contracts. How a form's number is laid into a word: contracts. How a form's number is laid into a word: contracts. How a form's number is laid into a word: contracts. How a form's number is taken out of a word: plain. Two numbers that are answered. Contracts of SignOf. -/
import Derived.Test.YtelogjpjglohoaaGreatDoorGXTabBase13
import Derived.Test.YtelogjpjglohoaaGreatDoorGXTabBase12
import Derived.Test.YtelogjpjglohoaaGreatDoorGXTabBase9
namespace Go.Proofs.YtelogjpjglohoaaGreatDoor
open Go.RowKit
set_option linter.unusedVariables false
theorem idx0 (a b c d e f g h i j k l : Int) (w : World) : (Instr.index 177 (.agg #[.int .i64 a, .int .i64 b, .int .i64 c, .int .i64 d, .int .i64 e, .int .i64 f, .int .i64 g, .int .i64 h, .int .i64 i, .int .i64 j, .int .i64 k, .int .i64 l]) (.int .i64 0)).run Tryz.prog w = .ok (.agg #[.int .i64 a, .int .i64 b, .int .i64 c]) w := by
  kernel_rfl
theorem idx1 (a b c d e f g h i j k l : Int) (w : World) : (Instr.index 177 (.agg #[.int .i64 a, .int .i64 b, .int .i64 c, .int .i64 d, .int .i64 e, .int .i64 f, .int .i64 g, .int .i64 h, .int .i64 i, .int .i64 j, .int .i64 k, .int .i64 l]) (.int .i64 1)).run Tryz.prog w = .ok (.agg #[.int .i64 d, .int .i64 e, .int .i64 f]) w := by
  kernel_rfl
theorem idx2 (a b c d e f g h i j k l : Int) (w : World) : (Instr.index 177 (.agg #[.int .i64 a, .int .i64 b, .int .i64 c, .int .i64 d, .int .i64 e, .int .i64 f, .int .i64 g, .int .i64 h, .int .i64 i, .int .i64 j, .int .i64 k, .int .i64 l]) (.int .i64 2)).run Tryz.prog w = .ok (.agg #[.int .i64 g, .int .i64 h, .int .i64 i]) w := by
  kernel_rfl
theorem idx3 (a b c d e f g h i j k l : Int) (w : World) : (Instr.index 177 (.agg #[.int .i64 a, .int .i64 b, .int .i64 c, .int .i64 d, .int .i64 e, .int .i64 f, .int .i64 g, .int .i64 h, .int .i64 i, .int .i64 j, .int .i64 k, .int .i64 l]) (.int .i64 3)).run Tryz.prog w = .ok (.agg #[.int .i64 j, .int .i64 k, .int .i64 l]) w := by
  kernel_rfl
theorem bdN {B : Nat} {a w : World} (h : Below B a w) (n : Nat) : Below B a (w.drewN n) := h.trans ⟨rfl, rfl, rfl, Nat.le_refl _, fun _ _ => rfl⟩
end Go.Proofs.YtelogjpjglohoaaGreatDoor

namespace Go.Proofs.YtelogjpjglohoaaGreatDoor
open Go.RowKit

theorem and_1 (x : Int) : bits .and .i64 x 1 = x % 2 := i64_and_mask x 1 (by decide)
theorem and_4 (x : Int) : bits .and .i64 x 15 = x % 16 := i64_and_mask x 4 (by decide)
theorem and_5 (x : Int) : bits .and .i64 x 31 = x % 32 := i64_and_mask x 5 (by decide)
theorem and_6 (x : Int) : bits .and .i64 x 63 = x % 64 := i64_and_mask x 6 (by decide)
theorem and_7 (x : Int) : bits .and .i64 x 127 = x % 128 := i64_and_mask x 7 (by decide)
theorem and_8 (x : Int) : bits .and .i64 x 255 = x % 256 := i64_and_mask x 8 (by decide)
theorem and_10 (x : Int) : bits .and .i64 x 1023 = x % 1024 := i64_and_mask x 10 (by decide)
theorem and_12 (x : Int) : bits .and .i64 x 4095 = x % 4096 := i64_and_mask x 12 (by decide)
theorem and_20 (x : Int) : bits .and .i64 x 1048575 = x % 1048576 := i64_and_mask x 20 (by decide)
theorem and_0 (x : Int) : bits .and .i64 x 0 = 0 := by
  have := i64_and_mask x 0 (by decide)
  have e : (2 : Int) ^ 0 - 1 = 0 := by decide
  rw [e] at this
  rw [this]
  omega
theorem wrap_in (x : Int) (h0 : -9223372036854775808 ≤ x) (h1 : x ≤ 9223372036854775807) : wrap64 x = x := by
  unfold wrap64
  omega
theorem or_z (x : Int) (h0 : 0 ≤ x) (h1 : x < 9223372036854775808) : bits .or .i64 x 0 = x := by
  rw [i64_or_gap 0 0 1 1 (by decide) (by decide) x 0 h0 h1 (by omega) (by omega) (by omega) (by omega) (by omega)]
  omega
theorem z_or (x : Int) (h0 : 0 ≤ x) (h1 : x < 4611686018427387904) : bits .or .i64 0 x = x := by
  rw [i64_or_gap 0 62 1 4611686018427387904 (by decide) (by decide) 0 x (by omega) (by omega) (by omega) h0 (by omega) (by omega) (by omega)]
  omega
theorem layE1 (v : Int) : (bits .or .i64 (bits .or .i64 (bits .or .i64 (bits .or .i64 0 (wrap64 (bits .and .i64 (v / 4096) 1048575 * 4096))) (wrap64 (bits .and .i64 v 0))) (wrap64 (bits .and .i64 v 0))) (wrap64 (bits .and .i64 v 0))) = layF 1 v := by
  simp only [and_20, and_0]
  have p : 0 ≤ v / 4096 % 1048576 ∧ v / 4096 % 1048576 < 1048576 := by omega
  show _ = v / 4096 % 1048576 * 4096
  generalize v / 4096 % 1048576 = x0 at *
  rw [wrap_in (x0 * 4096) (by omega) (by omega)]
  rw [wrap_in 0 (by omega) (by omega)]
  rw [z_or (x0 * 4096) (by omega) (by omega)]
  rw [or_z (x0 * 4096) (by omega) (by omega)]
  rw [or_z (x0 * 4096) (by omega) (by omega)]
  rw [or_z (x0 * 4096) (by omega) (by omega)]
theorem layE2 (v : Int) : (bits .or .i64 (bits .or .i64 (bits .or .i64 (bits .or .i64 0 (wrap64 (bits .and .i64 (v / 4096) 255 * 4096))) (wrap64 (bits .and .i64 (v / 2048) 1 * 1048576))) (wrap64 (bits .and .i64 (v / 2) 1023 * 2097152))) (wrap64 (bits .and .i64 (v / 1048576) 1 * 2147483648))) = layF 2 v := by
  simp only [and_1, and_8, and_10]
  have p : 0 ≤ v / 4096 % 256 ∧ v / 4096 % 256 < 256 := by omega
  have q : 0 ≤ v / 2048 % 2 ∧ v / 2048 % 2 < 2 := by omega
  have r : 0 ≤ v / 2 % 1024 ∧ v / 2 % 1024 < 1024 := by omega
  have s : 0 ≤ v / 1048576 % 2 ∧ v / 1048576 % 2 < 2 := by omega
  show _ = v / 4096 % 256 * 4096 + v / 2048 % 2 * 1048576 + v / 2 % 1024 * 2097152 + v / 1048576 % 2 * 2147483648
  generalize v / 4096 % 256 = x0 at *
  generalize v / 2048 % 2 = x1 at *
  generalize v / 2 % 1024 = x2 at *
  generalize v / 1048576 % 2 = x3 at *
  rw [wrap_in (x0 * 4096) (by omega) (by omega)]
  rw [wrap_in (x1 * 1048576) (by omega) (by omega)]
  rw [wrap_in (x2 * 2097152) (by omega) (by omega)]
  rw [wrap_in (x3 * 2147483648) (by omega) (by omega)]
  rw [z_or (x0 * 4096) (by omega) (by omega)]
  rw [i64_or_gap 20 1 1048576 2097152 (by decide) (by decide) (x0 * 4096) (x1 * 1048576) (by omega) (by omega) (by omega) (by omega) (by omega) (by omega) (by decide)]
  rw [i64_or_gap 21 10 2097152 2147483648 (by decide) (by decide) (x0 * 4096 + x1 * 1048576) (x2 * 2097152) (by omega) (by omega) (by omega) (by omega) (by omega) (by omega) (by decide)]
  rw [i64_or_gap 31 1 2147483648 4294967296 (by decide) (by decide) (x0 * 4096 + x1 * 1048576 + x2 * 2097152) (x3 * 2147483648) (by omega) (by omega) (by omega) (by omega) (by omega) (by omega) (by decide)]
theorem layE3 (v : Int) : (bits .or .i64 (bits .or .i64 (bits .or .i64 (bits .or .i64 0 (wrap64 (bits .and .i64 v 4095 * 1048576))) (wrap64 (bits .and .i64 v 0))) (wrap64 (bits .and .i64 v 0))) (wrap64 (bits .and .i64 v 0))) = layF 3 v := by
  simp only [and_12, and_0]
  have p : 0 ≤ v % 4096 ∧ v % 4096 < 4096 := by omega
  show _ = v % 4096 * 1048576
  generalize v % 4096 = x0 at *
  rw [wrap_in (x0 * 1048576) (by omega) (by omega)]
  rw [wrap_in 0 (by omega) (by omega)]
  rw [z_or (x0 * 1048576) (by omega) (by omega)]
  rw [or_z (x0 * 1048576) (by omega) (by omega)]
  rw [or_z (x0 * 1048576) (by omega) (by omega)]
  rw [or_z (x0 * 1048576) (by omega) (by omega)]
theorem layE4 (v : Int) : (bits .or .i64 (bits .or .i64 (bits .or .i64 (bits .or .i64 0 (wrap64 (bits .and .i64 (v / 2048) 1 * 128))) (wrap64 (bits .and .i64 (v / 2) 15 * 256))) (wrap64 (bits .and .i64 (v / 32) 63 * 33554432))) (wrap64 (bits .and .i64 (v / 4096) 1 * 2147483648))) = layF 4 v := by
  simp only [and_1, and_4, and_6]
  have p : 0 ≤ v / 2048 % 2 ∧ v / 2048 % 2 < 2 := by omega
  have q : 0 ≤ v / 2 % 16 ∧ v / 2 % 16 < 16 := by omega
  have r : 0 ≤ v / 32 % 64 ∧ v / 32 % 64 < 64 := by omega
  have s : 0 ≤ v / 4096 % 2 ∧ v / 4096 % 2 < 2 := by omega
  show _ = v / 2048 % 2 * 128 + v / 2 % 16 * 256 + v / 32 % 64 * 33554432 + v / 4096 % 2 * 2147483648
  generalize v / 2048 % 2 = x0 at *
  generalize v / 2 % 16 = x1 at *
  generalize v / 32 % 64 = x2 at *
  generalize v / 4096 % 2 = x3 at *
  rw [wrap_in (x0 * 128) (by omega) (by omega)]
  rw [wrap_in (x1 * 256) (by omega) (by omega)]
  rw [wrap_in (x2 * 33554432) (by omega) (by omega)]
  rw [wrap_in (x3 * 2147483648) (by omega) (by omega)]
  rw [z_or (x0 * 128) (by omega) (by omega)]
  rw [i64_or_gap 8 4 256 4096 (by decide) (by decide) (x0 * 128) (x1 * 256) (by omega) (by omega) (by omega) (by omega) (by omega) (by omega) (by decide)]
  rw [i64_or_gap 25 6 33554432 2147483648 (by decide) (by decide) (x0 * 128 + x1 * 256) (x2 * 33554432) (by omega) (by omega) (by omega) (by omega) (by omega) (by omega) (by decide)]
  rw [i64_or_gap 31 1 2147483648 4294967296 (by decide) (by decide) (x0 * 128 + x1 * 256 + x2 * 33554432) (x3 * 2147483648) (by omega) (by omega) (by omega) (by omega) (by omega) (by omega) (by decide)]
theorem layE5 (v : Int) : (bits .or .i64 (bits .or .i64 (bits .or .i64 (bits .or .i64 0 (wrap64 (bits .and .i64 v 31 * 128))) (wrap64 (bits .and .i64 (v / 32) 127 * 33554432))) (wrap64 (bits .and .i64 v 0))) (wrap64 (bits .and .i64 v 0))) = layF 5 v := by
  simp only [and_5, and_7, and_0]
  have p : 0 ≤ v % 32 ∧ v % 32 < 32 := by omega
  have q : 0 ≤ v / 32 % 128 ∧ v / 32 % 128 < 128 := by omega
  show _ = v % 32 * 128 + v / 32 % 128 * 33554432
  generalize v % 32 = x0 at *
  generalize v / 32 % 128 = x1 at *
  rw [wrap_in (x0 * 128) (by omega) (by omega)]
  rw [wrap_in (x1 * 33554432) (by omega) (by omega)]
  rw [wrap_in 0 (by omega) (by omega)]
  rw [z_or (x0 * 128) (by omega) (by omega)]
  rw [i64_or_gap 25 7 33554432 4294967296 (by decide) (by decide) (x0 * 128) (x1 * 33554432) (by omega) (by omega) (by omega) (by omega) (by omega) (by omega) (by decide)]
  rw [or_z (x0 * 128 + x1 * 33554432) (by omega) (by omega)]
  rw [or_z (x0 * 128 + x1 * 33554432) (by omega) (by omega)]
theorem layE6 (v : Int) : (bits .or .i64 (bits .or .i64 (bits .or .i64 (bits .or .i64 0 (wrap64 (bits .and .i64 v 63 * 1048576))) (wrap64 (bits .and .i64 v 0))) (wrap64 (bits .and .i64 v 0))) (wrap64 (bits .and .i64 v 0))) = layF 6 v := by
  simp only [and_6, and_0]
  have p : 0 ≤ v % 64 ∧ v % 64 < 64 := by omega
  show _ = v % 64 * 1048576
  generalize v % 64 = x0 at *
  rw [wrap_in (x0 * 1048576) (by omega) (by omega)]
  rw [wrap_in 0 (by omega) (by omega)]
  rw [z_or (x0 * 1048576) (by omega) (by omega)]
  rw [or_z (x0 * 1048576) (by omega) (by omega)]
  rw [or_z (x0 * 1048576) (by omega) (by omega)]
  rw [or_z (x0 * 1048576) (by omega) (by omega)]
theorem layE7 (v : Int) : (bits .or .i64 (bits .or .i64 (bits .or .i64 (bits .or .i64 0 (wrap64 (bits .and .i64 v 31 * 1048576))) (wrap64 (bits .and .i64 v 0))) (wrap64 (bits .and .i64 v 0))) (wrap64 (bits .and .i64 v 0))) = layF 7 v := by
  simp only [and_5, and_0]
  have p : 0 ≤ v % 32 ∧ v % 32 < 32 := by omega
  show _ = v % 32 * 1048576
  generalize v % 32 = x0 at *
  rw [wrap_in (x0 * 1048576) (by omega) (by omega)]
  rw [wrap_in 0 (by omega) (by omega)]
  rw [z_or (x0 * 1048576) (by omega) (by omega)]
  rw [or_z (x0 * 1048576) (by omega) (by omega)]
  rw [or_z (x0 * 1048576) (by omega) (by omega)]
  rw [or_z (x0 * 1048576) (by omega) (by omega)]
theorem layE8 (v : Int) : (bits .or .i64 (bits .or .i64 (bits .or .i64 (bits .or .i64 0 (wrap64 (bits .and .i64 v 0))) (wrap64 (bits .and .i64 v 0))) (wrap64 (bits .and .i64 v 0))) (wrap64 (bits .and .i64 v 0))) = layF 8 v := by
  rw [and_0]
  show _ = 0
  rw [wrap_in 0 (by omega) (by omega), or_z 0 (by omega) (by omega), or_z 0 (by omega) (by omega), or_z 0 (by omega) (by omega), or_z 0 (by omega) (by omega)]
end Go.Proofs.YtelogjpjglohoaaGreatDoor

namespace Go.Proofs.YtelogjpjglohoaaGreatDoor
open Go.RowKit
set_option linter.unusedVariables false
end Go.Proofs.YtelogjpjglohoaaGreatDoor

namespace Go.Proofs.YtelogjpjglohoaaGreatDoor
open Go.RowKit
set_option linter.unusedVariables false
end Go.Proofs.YtelogjpjglohoaaGreatDoor

namespace Go.Proofs.YtelogjpjglohoaaGreatDoor
open Go.RowKit
set_option linter.unusedVariables false
end Go.Proofs.YtelogjpjglohoaaGreatDoor

namespace Go.Proofs.YtelogjpjglohoaaGreatDoor
open Go.RowKit
set_option linter.unusedVariables false
end Go.Proofs.YtelogjpjglohoaaGreatDoor

namespace Go.Proofs.YtelogjpjglohoaaGreatDoor
open Go.RowKit

theorem takE1 (w : Int) : (bits .or .i64 (bits .or .i64 (bits .or .i64 (bits .or .i64 0 (wrap64 (bits .and .i64 (w / 4096) 1048575 * 4096))) (wrap64 (bits .and .i64 w 0))) (wrap64 (bits .and .i64 w 0))) (wrap64 (bits .and .i64 w 0))) = w / 4096 % 1048576 * 4096 := by
  simp only [and_20, and_0]
  have p : 0 ≤ w / 4096 % 1048576 ∧ w / 4096 % 1048576 < 1048576 := by omega
  generalize w / 4096 % 1048576 = x0 at *
  rw [wrap_in (x0 * 4096) (by omega) (by omega)]
  rw [wrap_in 0 (by omega) (by omega)]
  rw [z_or (x0 * 4096) (by omega) (by omega)]
  rw [or_z (x0 * 4096) (by omega) (by omega)]
  rw [or_z (x0 * 4096) (by omega) (by omega)]
  rw [or_z (x0 * 4096) (by omega) (by omega)]
theorem takE2 (w : Int) : (bits .or .i64 (bits .or .i64 (bits .or .i64 (bits .or .i64 0 (wrap64 (bits .and .i64 (w / 4096) 255 * 4096))) (wrap64 (bits .and .i64 (w / 1048576) 1 * 2048))) (wrap64 (bits .and .i64 (w / 2097152) 1023 * 2))) (wrap64 (bits .and .i64 (w / 2147483648) 1 * 1048576))) = w / 4096 % 256 * 4096 + w / 1048576 % 2 * 2048 + w / 2097152 % 1024 * 2 + w / 2147483648 % 2 * 1048576 := by
  simp only [and_1, and_8, and_10]
  have p : 0 ≤ w / 4096 % 256 ∧ w / 4096 % 256 < 256 := by omega
  have q : 0 ≤ w / 1048576 % 2 ∧ w / 1048576 % 2 < 2 := by omega
  have r : 0 ≤ w / 2097152 % 1024 ∧ w / 2097152 % 1024 < 1024 := by omega
  have s : 0 ≤ w / 2147483648 % 2 ∧ w / 2147483648 % 2 < 2 := by omega
  generalize w / 4096 % 256 = x0 at *
  generalize w / 1048576 % 2 = x1 at *
  generalize w / 2097152 % 1024 = x2 at *
  generalize w / 2147483648 % 2 = x3 at *
  rw [wrap_in (x0 * 4096) (by omega) (by omega)]
  rw [wrap_in (x1 * 2048) (by omega) (by omega)]
  rw [wrap_in (x2 * 2) (by omega) (by omega)]
  rw [wrap_in (x3 * 1048576) (by omega) (by omega)]
  rw [z_or (x0 * 4096) (by omega) (by omega)]
  rw [i64_or_gap 11 1 2048 4096 (by decide) (by decide) (x0 * 4096) (x1 * 2048) (by omega) (by omega) (by omega) (by omega) (by omega) (by omega) (by decide)]
  rw [i64_or_gap 1 10 2 2048 (by decide) (by decide) (x0 * 4096 + x1 * 2048) (x2 * 2) (by omega) (by omega) (by omega) (by omega) (by omega) (by omega) (by decide)]
  rw [i64_or_gap 20 1 1048576 2097152 (by decide) (by decide) (x0 * 4096 + x1 * 2048 + x2 * 2) (x3 * 1048576) (by omega) (by omega) (by omega) (by omega) (by omega) (by omega) (by decide)]
theorem takE3 (w : Int) : (bits .or .i64 (bits .or .i64 (bits .or .i64 (bits .or .i64 0 (wrap64 (bits .and .i64 (w / 1048576) 4095))) (wrap64 (bits .and .i64 w 0))) (wrap64 (bits .and .i64 w 0))) (wrap64 (bits .and .i64 w 0))) = w / 1048576 % 4096 := by
  simp only [and_12, and_0]
  have p : 0 ≤ w / 1048576 % 4096 ∧ w / 1048576 % 4096 < 4096 := by omega
  generalize w / 1048576 % 4096 = x0 at *
  rw [wrap_in (x0) (by omega) (by omega)]
  rw [wrap_in 0 (by omega) (by omega)]
  rw [z_or (x0) (by omega) (by omega)]
  rw [or_z (x0) (by omega) (by omega)]
  rw [or_z (x0) (by omega) (by omega)]
  rw [or_z (x0) (by omega) (by omega)]
theorem takE4 (w : Int) : (bits .or .i64 (bits .or .i64 (bits .or .i64 (bits .or .i64 0 (wrap64 (bits .and .i64 (w / 128) 1 * 2048))) (wrap64 (bits .and .i64 (w / 256) 15 * 2))) (wrap64 (bits .and .i64 (w / 33554432) 63 * 32))) (wrap64 (bits .and .i64 (w / 2147483648) 1 * 4096))) = w / 128 % 2 * 2048 + w / 256 % 16 * 2 + w / 33554432 % 64 * 32 + w / 2147483648 % 2 * 4096 := by
  simp only [and_1, and_4, and_6]
  have p : 0 ≤ w / 128 % 2 ∧ w / 128 % 2 < 2 := by omega
  have q : 0 ≤ w / 256 % 16 ∧ w / 256 % 16 < 16 := by omega
  have r : 0 ≤ w / 33554432 % 64 ∧ w / 33554432 % 64 < 64 := by omega
  have s : 0 ≤ w / 2147483648 % 2 ∧ w / 2147483648 % 2 < 2 := by omega
  generalize w / 128 % 2 = x0 at *
  generalize w / 256 % 16 = x1 at *
  generalize w / 33554432 % 64 = x2 at *
  generalize w / 2147483648 % 2 = x3 at *
  rw [wrap_in (x0 * 2048) (by omega) (by omega)]
  rw [wrap_in (x1 * 2) (by omega) (by omega)]
  rw [wrap_in (x2 * 32) (by omega) (by omega)]
  rw [wrap_in (x3 * 4096) (by omega) (by omega)]
  rw [z_or (x0 * 2048) (by omega) (by omega)]
  rw [i64_or_gap 1 4 2 32 (by decide) (by decide) (x0 * 2048) (x1 * 2) (by omega) (by omega) (by omega) (by omega) (by omega) (by omega) (by decide)]
  rw [i64_or_gap 5 6 32 2048 (by decide) (by decide) (x0 * 2048 + x1 * 2) (x2 * 32) (by omega) (by omega) (by omega) (by omega) (by omega) (by omega) (by decide)]
  rw [i64_or_gap 12 1 4096 8192 (by decide) (by decide) (x0 * 2048 + x1 * 2 + x2 * 32) (x3 * 4096) (by omega) (by omega) (by omega) (by omega) (by omega) (by omega) (by decide)]
theorem takE5 (w : Int) : (bits .or .i64 (bits .or .i64 (bits .or .i64 (bits .or .i64 0 (wrap64 (bits .and .i64 (w / 128) 31))) (wrap64 (bits .and .i64 (w / 33554432) 127 * 32))) (wrap64 (bits .and .i64 w 0))) (wrap64 (bits .and .i64 w 0))) = w / 128 % 32 + w / 33554432 % 128 * 32 := by
  simp only [and_5, and_7, and_0]
  have p : 0 ≤ w / 128 % 32 ∧ w / 128 % 32 < 32 := by omega
  have q : 0 ≤ w / 33554432 % 128 ∧ w / 33554432 % 128 < 128 := by omega
  generalize w / 128 % 32 = x0 at *
  generalize w / 33554432 % 128 = x1 at *
  rw [wrap_in (x0) (by omega) (by omega)]
  rw [wrap_in (x1 * 32) (by omega) (by omega)]
  rw [wrap_in 0 (by omega) (by omega)]
  rw [z_or (x0) (by omega) (by omega)]
  rw [i64_or_gap 5 7 32 4096 (by decide) (by decide) (x0) (x1 * 32) (by omega) (by omega) (by omega) (by omega) (by omega) (by omega) (by decide)]
  rw [or_z (x0 + x1 * 32) (by omega) (by omega)]
  rw [or_z (x0 + x1 * 32) (by omega) (by omega)]
theorem takE6 (w : Int) : (bits .or .i64 (bits .or .i64 (bits .or .i64 (bits .or .i64 0 (wrap64 (bits .and .i64 (w / 1048576) 63))) (wrap64 (bits .and .i64 w 0))) (wrap64 (bits .and .i64 w 0))) (wrap64 (bits .and .i64 w 0))) = w / 1048576 % 64 := by
  simp only [and_6, and_0]
  have p : 0 ≤ w / 1048576 % 64 ∧ w / 1048576 % 64 < 64 := by omega
  generalize w / 1048576 % 64 = x0 at *
  rw [wrap_in (x0) (by omega) (by omega)]
  rw [wrap_in 0 (by omega) (by omega)]
  rw [z_or (x0) (by omega) (by omega)]
  rw [or_z (x0) (by omega) (by omega)]
  rw [or_z (x0) (by omega) (by omega)]
  rw [or_z (x0) (by omega) (by omega)]
theorem takE7 (w : Int) : (bits .or .i64 (bits .or .i64 (bits .or .i64 (bits .or .i64 0 (wrap64 (bits .and .i64 (w / 1048576) 31))) (wrap64 (bits .and .i64 w 0))) (wrap64 (bits .and .i64 w 0))) (wrap64 (bits .and .i64 w 0))) = w / 1048576 % 32 := by
  simp only [and_5, and_0]
  have p : 0 ≤ w / 1048576 % 32 ∧ w / 1048576 % 32 < 32 := by omega
  generalize w / 1048576 % 32 = x0 at *
  rw [wrap_in (x0) (by omega) (by omega)]
  rw [wrap_in 0 (by omega) (by omega)]
  rw [z_or (x0) (by omega) (by omega)]
  rw [or_z (x0) (by omega) (by omega)]
  rw [or_z (x0) (by omega) (by omega)]
  rw [or_z (x0) (by omega) (by omega)]
theorem takE8 (w : Int) : (bits .or .i64 (bits .or .i64 (bits .or .i64 (bits .or .i64 0 (wrap64 (bits .and .i64 w 0))) (wrap64 (bits .and .i64 w 0))) (wrap64 (bits .and .i64 w 0))) (wrap64 (bits .and .i64 w 0))) = 0 := by
  simp only [and_0]
  rw [wrap_in 0 (by omega) (by omega), or_z 0 (by omega) (by omega), or_z 0 (by omega) (by omega), or_z 0 (by omega) (by omega), or_z 0 (by omega) (by omega)]
end Go.Proofs.YtelogjpjglohoaaGreatDoor

namespace Go.Proofs.YtelogjpjglohoaaGreatDoor
theorem ret_ints {a b x y : Int} (h : a = b) (k : x = y) : Ending.returned (.tuple #[.int .i64 a, .int .i64 x]) = .returned (.tuple #[.int .i64 b, .int .i64 y]) := by rw [h, k]

end Go.Proofs.YtelogjpjglohoaaGreatDoor

namespace Go.Proofs.YtelogjpjglohoaaGreatDoor
open Go.RowKit
set_option linter.unusedVariables false

theorem sign_bad_impl (v c : Int) (w : World) (hL : Laid w) (h : c < 1 ∨ 64 < c) :
    Calls Tryz.prog 154 #[.int .i64 v, .int .i64 c] w fun e w' => e = .returned (.tuple #[.int .i64 0, .int .i64 4]) ∧ Below w.heap.size w w' := by
  obtain ⟨a0, a1, hL⟩ := hL
  go_enter Tryz.func154, Tryz.ntmps154
  go_wp2_with fail
  refine (inside_no _ c 1 64 w a0 a1 hL h).mono ?_
  rintro e w1 ⟨rfl, rfl⟩
  go_wp2_with fail
  refine (code_range _ _ a0 a1 hL).mono ?_
  rintro e w2 ⟨rfl, hb⟩
  clear hL h
  go_wp2
  go_ret2
  exact ⟨rfl, hb⟩

theorem sign_ok_impl (v : Int) (c : Nat) (w : World) (h0 : 1 ≤ c) (h1 : c ≤ 64) :
    Calls Tryz.prog 154 #[.int .i64 v, .int .i64 c] w fun e w' => e = .returned (.tuple #[.int .i64 (sgn v c), .int .i64 0]) ∧ w' = w := by
  obtain ⟨d, hd⟩ : ∃ d, d = 64 - c := ⟨_, rfl⟩
  have hd1 : (64 : Int) - (c : Int) = (d : Int) := by omega
  have hd2 : (d : Int) ≤ 64 := by omega
  have HS : Hid (((v * 2 ^ d + 9223372036854775808) % 18446744073709551616 - 9223372036854775808) / 2 ^ d = sgn v c) := sgn_shifts v c d (by omega) h0
  clear hd
  go_enter Tryz.func154, Tryz.ntmps154
  go_wp2_with fail
  refine (inside_ok _ (c : Int) 1 64 w (by omega) (by omega)).mono ?_
  rintro e w1 ⟨rfl, rfl⟩
  go_wp2
  go_ret2
  refine ⟨ret_ints ?_ rfl, rfl⟩
  show wrap64 (v * 2 ^ d) / 2 ^ d = sgn v c
  unfold wrap64
  exact HS.out

end Go.Proofs.YtelogjpjglohoaaGreatDoor
