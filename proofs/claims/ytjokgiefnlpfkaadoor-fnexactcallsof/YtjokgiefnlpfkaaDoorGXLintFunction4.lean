/- lowBits at the counts that are used, and the forms' rules. An element of the pieces of a rule. How a form's number is laid into a word: plain. How a form's number is laid into a word: contracts. How a form's number is laid into a word: contracts. How a form's number is laid into a word: contracts. -/
import Derived.Test.YtjokgiefnlpfkaaDoorGXLintFunction2
import Derived.Test.YtjokgiefnlpfkaaDoorGXLintFunction3
import Derived.Deep.QuietTactic
import Derived.BigQuiet
namespace Go.Proofs.YtjokgiefnlpfkaaDoor
open Go.RowKit
set_option linter.unusedVariables false

theorem low0 (w : World) : Calls Tryd.prog 85 #[.int .i64 0] w fun e w' => e = .returned (.int .i64 0) ∧ w' = w := by
  go_enter Tryd.func85, Tryd.ntmps85
  go_wp2
  go_ret
  exact ⟨rfl, rfl⟩
theorem low1 (w : World) : Calls Tryd.prog 85 #[.int .i64 1] w fun e w' => e = .returned (.int .i64 1) ∧ w' = w := by
  go_enter Tryd.func85, Tryd.ntmps85
  go_wp2
  go_ret
  exact ⟨rfl, rfl⟩
theorem low4 (w : World) : Calls Tryd.prog 85 #[.int .i64 4] w fun e w' => e = .returned (.int .i64 15) ∧ w' = w := by
  go_enter Tryd.func85, Tryd.ntmps85
  go_wp2
  go_ret
  exact ⟨rfl, rfl⟩
theorem low5 (w : World) : Calls Tryd.prog 85 #[.int .i64 5] w fun e w' => e = .returned (.int .i64 31) ∧ w' = w := by
  go_enter Tryd.func85, Tryd.ntmps85
  go_wp2
  go_ret
  exact ⟨rfl, rfl⟩
theorem low6 (w : World) : Calls Tryd.prog 85 #[.int .i64 6] w fun e w' => e = .returned (.int .i64 63) ∧ w' = w := by
  go_enter Tryd.func85, Tryd.ntmps85
  go_wp2
  go_ret
  exact ⟨rfl, rfl⟩
theorem low7 (w : World) : Calls Tryd.prog 85 #[.int .i64 7] w fun e w' => e = .returned (.int .i64 127) ∧ w' = w := by
  go_enter Tryd.func85, Tryd.ntmps85
  go_wp2
  go_ret
  exact ⟨rfl, rfl⟩
theorem low8 (w : World) : Calls Tryd.prog 85 #[.int .i64 8] w fun e w' => e = .returned (.int .i64 255) ∧ w' = w := by
  go_enter Tryd.func85, Tryd.ntmps85
  go_wp2
  go_ret
  exact ⟨rfl, rfl⟩
theorem low10 (w : World) : Calls Tryd.prog 85 #[.int .i64 10] w fun e w' => e = .returned (.int .i64 1023) ∧ w' = w := by
  go_enter Tryd.func85, Tryd.ntmps85
  go_wp2
  go_ret
  exact ⟨rfl, rfl⟩
theorem low12 (w : World) : Calls Tryd.prog 85 #[.int .i64 12] w fun e w' => e = .returned (.int .i64 4095) ∧ w' = w := by
  go_enter Tryd.func85, Tryd.ntmps85
  go_wp2
  go_ret
  exact ⟨rfl, rfl⟩
theorem low20 (w : World) : Calls Tryd.prog 85 #[.int .i64 20] w fun e w' => e = .returned (.int .i64 1048575) ∧ w' = w := by
  go_enter Tryd.func85, Tryd.ntmps85
  go_wp2
  go_ret
  exact ⟨rfl, rfl⟩
def rule1 : Value := .agg #[.int .i64 32, .int .i64 12, .int .i64 20, .int .i64 12, .int .i64 0, .int .i64 0, .int .i64 0, .int .i64 0, .int .i64 0, .int .i64 0, .int .i64 0, .int .i64 0, .int .i64 0]
def rule2 : Value := .agg #[.int .i64 21, .int .i64 12, .int .i64 8, .int .i64 12, .int .i64 11, .int .i64 1, .int .i64 20, .int .i64 1, .int .i64 10, .int .i64 21, .int .i64 20, .int .i64 1, .int .i64 31]
def rule3 : Value := .agg #[.int .i64 12, .int .i64 0, .int .i64 12, .int .i64 20, .int .i64 0, .int .i64 0, .int .i64 0, .int .i64 0, .int .i64 0, .int .i64 0, .int .i64 0, .int .i64 0, .int .i64 0]
def rule4 : Value := .agg #[.int .i64 13, .int .i64 11, .int .i64 1, .int .i64 7, .int .i64 1, .int .i64 4, .int .i64 8, .int .i64 5, .int .i64 6, .int .i64 25, .int .i64 12, .int .i64 1, .int .i64 31]
def rule5 : Value := .agg #[.int .i64 12, .int .i64 0, .int .i64 5, .int .i64 7, .int .i64 5, .int .i64 7, .int .i64 25, .int .i64 0, .int .i64 0, .int .i64 0, .int .i64 0, .int .i64 0, .int .i64 0]
def rule6 : Value := .agg #[.int .i64 0, .int .i64 0, .int .i64 6, .int .i64 20, .int .i64 0, .int .i64 0, .int .i64 0, .int .i64 0, .int .i64 0, .int .i64 0, .int .i64 0, .int .i64 0, .int .i64 0]
def rule7 : Value := .agg #[.int .i64 0, .int .i64 0, .int .i64 5, .int .i64 20, .int .i64 0, .int .i64 0, .int .i64 0, .int .i64 0, .int .i64 0, .int .i64 0, .int .i64 0, .int .i64 0, .int .i64 0]
def rule8 : Value := .agg #[.int .i64 0, .int .i64 0, .int .i64 0, .int .i64 0, .int .i64 0, .int .i64 0, .int .i64 0, .int .i64 0, .int .i64 0, .int .i64 0, .int .i64 0, .int .i64 0, .int .i64 0]

theorem rule_none (f : Int) (hf : f = 8 ∨ f = 9 ∨ f = 0) (w : World) : Calls Tryd.prog 58 #[.int .i64 f] w fun e w' => e = .returned rule8 ∧ Below w.heap.size w w' := by
  rcases hf with rfl | rfl | rfl
  all_goals
    go_enter Tryd.func58, Tryd.ntmps58
    go_wp2
    exact bodyPost_ret (v := rule8) (by simp [results, Tryd.results58, go_sem]; rfl) rfl ⟨rfl, (Below.refl _ _).alloc (Nat.le_refl _) _⟩
set_option maxHeartbeats 4000000 in
theorem rule_1 (w : World) : Calls Tryd.prog 58 #[.int .i64 1] w fun e w' => e = .returned rule1 ∧ Below w.heap.size w w' := by
  go_enter Tryd.func58, Tryd.ntmps58
  go_wp2
  exact bodyPost_ret (v := rule1) (by simp [results, Tryd.results58, go_sem]; rfl) rfl ⟨rfl, (Below.refl _ _).alloc (Nat.le_refl _) _⟩
set_option maxHeartbeats 4000000 in
theorem rule_2 (w : World) : Calls Tryd.prog 58 #[.int .i64 2] w fun e w' => e = .returned rule2 ∧ Below w.heap.size w w' := by
  go_enter Tryd.func58, Tryd.ntmps58
  go_wp2
  exact bodyPost_ret (v := rule2) (by simp [results, Tryd.results58, go_sem]; rfl) rfl ⟨rfl, (Below.refl _ _).alloc (Nat.le_refl _) _⟩
set_option maxHeartbeats 4000000 in
theorem rule_3 (w : World) : Calls Tryd.prog 58 #[.int .i64 3] w fun e w' => e = .returned rule3 ∧ Below w.heap.size w w' := by
  go_enter Tryd.func58, Tryd.ntmps58
  go_wp2
  exact bodyPost_ret (v := rule3) (by simp [results, Tryd.results58, go_sem]; rfl) rfl ⟨rfl, (Below.refl _ _).alloc (Nat.le_refl _) _⟩
set_option maxHeartbeats 4000000 in
theorem rule_4 (w : World) : Calls Tryd.prog 58 #[.int .i64 4] w fun e w' => e = .returned rule4 ∧ Below w.heap.size w w' := by
  go_enter Tryd.func58, Tryd.ntmps58
  go_wp2
  exact bodyPost_ret (v := rule4) (by simp [results, Tryd.results58, go_sem]; rfl) rfl ⟨rfl, (Below.refl _ _).alloc (Nat.le_refl _) _⟩
set_option maxHeartbeats 4000000 in
theorem rule_5 (w : World) : Calls Tryd.prog 58 #[.int .i64 5] w fun e w' => e = .returned rule5 ∧ Below w.heap.size w w' := by
  go_enter Tryd.func58, Tryd.ntmps58
  go_wp2
  exact bodyPost_ret (v := rule5) (by simp [results, Tryd.results58, go_sem]; rfl) rfl ⟨rfl, (Below.refl _ _).alloc (Nat.le_refl _) _⟩
set_option maxHeartbeats 4000000 in
theorem rule_6 (w : World) : Calls Tryd.prog 58 #[.int .i64 6] w fun e w' => e = .returned rule6 ∧ Below w.heap.size w w' := by
  go_enter Tryd.func58, Tryd.ntmps58
  go_wp2
  exact bodyPost_ret (v := rule6) (by simp [results, Tryd.results58, go_sem]; rfl) rfl ⟨rfl, (Below.refl _ _).alloc (Nat.le_refl _) _⟩
set_option maxHeartbeats 4000000 in
theorem rule_7 (w : World) : Calls Tryd.prog 58 #[.int .i64 7] w fun e w' => e = .returned rule7 ∧ Below w.heap.size w w' := by
  go_enter Tryd.func58, Tryd.ntmps58
  go_wp2
  exact bodyPost_ret (v := rule7) (by simp [results, Tryd.results58, go_sem]; rfl) rfl ⟨rfl, (Below.refl _ _).alloc (Nat.le_refl _) _⟩
end Go.Proofs.YtjokgiefnlpfkaaDoor

namespace Go.Proofs.YtjokgiefnlpfkaaDoor
open Go.RowKit
set_option linter.unusedVariables false
theorem idx0 (a b c d e f g h i j k l : Int) (w : World) : (Instr.index 80 (.agg #[.int .i64 a, .int .i64 b, .int .i64 c, .int .i64 d, .int .i64 e, .int .i64 f, .int .i64 g, .int .i64 h, .int .i64 i, .int .i64 j, .int .i64 k, .int .i64 l]) (.int .i64 0)).run Tryd.prog w = .ok (.agg #[.int .i64 a, .int .i64 b, .int .i64 c]) w := by
  kernel_rfl
theorem idx1 (a b c d e f g h i j k l : Int) (w : World) : (Instr.index 80 (.agg #[.int .i64 a, .int .i64 b, .int .i64 c, .int .i64 d, .int .i64 e, .int .i64 f, .int .i64 g, .int .i64 h, .int .i64 i, .int .i64 j, .int .i64 k, .int .i64 l]) (.int .i64 1)).run Tryd.prog w = .ok (.agg #[.int .i64 d, .int .i64 e, .int .i64 f]) w := by
  kernel_rfl
theorem idx2 (a b c d e f g h i j k l : Int) (w : World) : (Instr.index 80 (.agg #[.int .i64 a, .int .i64 b, .int .i64 c, .int .i64 d, .int .i64 e, .int .i64 f, .int .i64 g, .int .i64 h, .int .i64 i, .int .i64 j, .int .i64 k, .int .i64 l]) (.int .i64 2)).run Tryd.prog w = .ok (.agg #[.int .i64 g, .int .i64 h, .int .i64 i]) w := by
  kernel_rfl
theorem idx3 (a b c d e f g h i j k l : Int) (w : World) : (Instr.index 80 (.agg #[.int .i64 a, .int .i64 b, .int .i64 c, .int .i64 d, .int .i64 e, .int .i64 f, .int .i64 g, .int .i64 h, .int .i64 i, .int .i64 j, .int .i64 k, .int .i64 l]) (.int .i64 3)).run Tryd.prog w = .ok (.agg #[.int .i64 j, .int .i64 k, .int .i64 l]) w := by
  kernel_rfl
theorem bdN {B : Nat} {a w : World} (h : Below B a w) (n : Nat) : Below B a (w.drewN n) := h.trans ⟨rfl, rfl, rfl, Nat.le_refl _, fun _ _ => rfl⟩
end Go.Proofs.YtjokgiefnlpfkaaDoor

namespace Go.Proofs.YtjokgiefnlpfkaaDoor
open Go.RowKit

theorem and_1 (x : Int) : bits .and .i64 x 1 = x % 2 := i64_and_mask x 1 (by decide)
theorem and_4 (x : Int) : bits .and .i64 x 15 = x % 16 := i64_and_mask x 4 (by decide)
theorem and_5 (x : Int) : bits .and .i64 x 31 = x % 32 := i64_and_mask x 5 (by decide)
theorem and_6 (x : Int) : bits .and .i64 x 63 = x % 64 := i64_and_mask x 6 (by decide)
theorem and_7 (x : Int) : bits .and .i64 x 127 = x % 128 := i64_and_mask x 7 (by decide)
theorem and_8 (x : Int) : bits .and .i64 x 255 = x % 256 := i64_and_mask x 8 (by decide)
theorem and_10 (x : Int) : bits .and .i64 x 1023 = x % 1024 := i64_and_mask x 10 (by decide)
theorem and_12 (x : Int) : bits .and .i64 x 4095 = x % 4096 := i64_and_mask x 12 (by decide)
theorem and_20 (x : Int) : bits .and .i64 x 1048575 = x % 1048576 := i64_and_mask x 20 (by decide)
theorem and_0 (x : Int) : bits .and .i64 x 0 = 0 := by
  have := i64_and_mask x 0 (by decide)
  have e : (2 : Int) ^ 0 - 1 = 0 := by decide
  rw [e] at this
  rw [this]
  omega
theorem wrap_in (x : Int) (h0 : -9223372036854775808 ≤ x) (h1 : x ≤ 9223372036854775807) : wrap64 x = x := by
  unfold wrap64
  omega
theorem or_z (x : Int) (h0 : 0 ≤ x) (h1 : x < 9223372036854775808) : bits .or .i64 x 0 = x := by
  rw [i64_or_gap 0 0 1 1 (by decide) (by decide) x 0 h0 h1 (by omega) (by omega) (by omega) (by omega) (by omega)]
  omega
theorem z_or (x : Int) (h0 : 0 ≤ x) (h1 : x < 4611686018427387904) : bits .or .i64 0 x = x := by
  rw [i64_or_gap 0 62 1 4611686018427387904 (by decide) (by decide) 0 x (by omega) (by omega) (by omega) h0 (by omega) (by omega) (by omega)]
  omega
theorem layE1 (v : Int) : (bits .or .i64 (bits .or .i64 (bits .or .i64 (bits .or .i64 0 (wrap64 (bits .and .i64 (v / 4096) 1048575 * 4096))) (wrap64 (bits .and .i64 v 0))) (wrap64 (bits .and .i64 v 0))) (wrap64 (bits .and .i64 v 0))) = layF 1 v := by
  simp only [and_20, and_0]
  have p : 0 ≤ v / 4096 % 1048576 ∧ v / 4096 % 1048576 < 1048576 := by omega
  show _ = v / 4096 % 1048576 * 4096
  generalize v / 4096 % 1048576 = x0 at *
  rw [wrap_in (x0 * 4096) (by omega) (by omega)]
  rw [wrap_in 0 (by omega) (by omega)]
  rw [z_or (x0 * 4096) (by omega) (by omega)]
  rw [or_z (x0 * 4096) (by omega) (by omega)]
  rw [or_z (x0 * 4096) (by omega) (by omega)]
  rw [or_z (x0 * 4096) (by omega) (by omega)]
theorem layE2 (v : Int) : (bits .or .i64 (bits .or .i64 (bits .or .i64 (bits .or .i64 0 (wrap64 (bits .and .i64 (v / 4096) 255 * 4096))) (wrap64 (bits .and .i64 (v / 2048) 1 * 1048576))) (wrap64 (bits .and .i64 (v / 2) 1023 * 2097152))) (wrap64 (bits .and .i64 (v / 1048576) 1 * 2147483648))) = layF 2 v := by
  simp only [and_1, and_8, and_10]
  have p : 0 ≤ v / 4096 % 256 ∧ v / 4096 % 256 < 256 := by omega
  have q : 0 ≤ v / 2048 % 2 ∧ v / 2048 % 2 < 2 := by omega
  have r : 0 ≤ v / 2 % 1024 ∧ v / 2 % 1024 < 1024 := by omega
  have s : 0 ≤ v / 1048576 % 2 ∧ v / 1048576 % 2 < 2 := by omega
  show _ = v / 4096 % 256 * 4096 + v / 2048 % 2 * 1048576 + v / 2 % 1024 * 2097152 + v / 1048576 % 2 * 2147483648
  generalize v / 4096 % 256 = x0 at *
  generalize v / 2048 % 2 = x1 at *
  generalize v / 2 % 1024 = x2 at *
  generalize v / 1048576 % 2 = x3 at *
  rw [wrap_in (x0 * 4096) (by omega) (by omega)]
  rw [wrap_in (x1 * 1048576) (by omega) (by omega)]
  rw [wrap_in (x2 * 2097152) (by omega) (by omega)]
  rw [wrap_in (x3 * 2147483648) (by omega) (by omega)]
  rw [z_or (x0 * 4096) (by omega) (by omega)]
  rw [i64_or_gap 20 1 1048576 2097152 (by decide) (by decide) (x0 * 4096) (x1 * 1048576) (by omega) (by omega) (by omega) (by omega) (by omega) (by omega) (by decide)]
  rw [i64_or_gap 21 10 2097152 2147483648 (by decide) (by decide) (x0 * 4096 + x1 * 1048576) (x2 * 2097152) (by omega) (by omega) (by omega) (by omega) (by omega) (by omega) (by decide)]
  rw [i64_or_gap 31 1 2147483648 4294967296 (by decide) (by decide) (x0 * 4096 + x1 * 1048576 + x2 * 2097152) (x3 * 2147483648) (by omega) (by omega) (by omega) (by omega) (by omega) (by omega) (by decide)]
theorem layE3 (v : Int) : (bits .or .i64 (bits .or .i64 (bits .or .i64 (bits .or .i64 0 (wrap64 (bits .and .i64 v 4095 * 1048576))) (wrap64 (bits .and .i64 v 0))) (wrap64 (bits .and .i64 v 0))) (wrap64 (bits .and .i64 v 0))) = layF 3 v := by
  simp only [and_12, and_0]
  have p : 0 ≤ v % 4096 ∧ v % 4096 < 4096 := by omega
  show _ = v % 4096 * 1048576
  generalize v % 4096 = x0 at *
  rw [wrap_in (x0 * 1048576) (by omega) (by omega)]
  rw [wrap_in 0 (by omega) (by omega)]
  rw [z_or (x0 * 1048576) (by omega) (by omega)]
  rw [or_z (x0 * 1048576) (by omega) (by omega)]
  rw [or_z (x0 * 1048576) (by omega) (by omega)]
  rw [or_z (x0 * 1048576) (by omega) (by omega)]
theorem layE4 (v : Int) : (bits .or .i64 (bits .or .i64 (bits .or .i64 (bits .or .i64 0 (wrap64 (bits .and .i64 (v / 2048) 1 * 128))) (wrap64 (bits .and .i64 (v / 2) 15 * 256))) (wrap64 (bits .and .i64 (v / 32) 63 * 33554432))) (wrap64 (bits .and .i64 (v / 4096) 1 * 2147483648))) = layF 4 v := by
  simp only [and_1, and_4, and_6]
  have p : 0 ≤ v / 2048 % 2 ∧ v / 2048 % 2 < 2 := by omega
  have q : 0 ≤ v / 2 % 16 ∧ v / 2 % 16 < 16 := by omega
  have r : 0 ≤ v / 32 % 64 ∧ v / 32 % 64 < 64 := by omega
  have s : 0 ≤ v / 4096 % 2 ∧ v / 4096 % 2 < 2 := by omega
  show _ = v / 2048 % 2 * 128 + v / 2 % 16 * 256 + v / 32 % 64 * 33554432 + v / 4096 % 2 * 2147483648
  generalize v / 2048 % 2 = x0 at *
  generalize v / 2 % 16 = x1 at *
  generalize v / 32 % 64 = x2 at *
  generalize v / 4096 % 2 = x3 at *
  rw [wrap_in (x0 * 128) (by omega) (by omega)]
  rw [wrap_in (x1 * 256) (by omega) (by omega)]
  rw [wrap_in (x2 * 33554432) (by omega) (by omega)]
  rw [wrap_in (x3 * 2147483648) (by omega) (by omega)]
  rw [z_or (x0 * 128) (by omega) (by omega)]
  rw [i64_or_gap 8 4 256 4096 (by decide) (by decide) (x0 * 128) (x1 * 256) (by omega) (by omega) (by omega) (by omega) (by omega) (by omega) (by decide)]
  rw [i64_or_gap 25 6 33554432 2147483648 (by decide) (by decide) (x0 * 128 + x1 * 256) (x2 * 33554432) (by omega) (by omega) (by omega) (by omega) (by omega) (by omega) (by decide)]
  rw [i64_or_gap 31 1 2147483648 4294967296 (by decide) (by decide) (x0 * 128 + x1 * 256 + x2 * 33554432) (x3 * 2147483648) (by omega) (by omega) (by omega) (by omega) (by omega) (by omega) (by decide)]
theorem layE5 (v : Int) : (bits .or .i64 (bits .or .i64 (bits .or .i64 (bits .or .i64 0 (wrap64 (bits .and .i64 v 31 * 128))) (wrap64 (bits .and .i64 (v / 32) 127 * 33554432))) (wrap64 (bits .and .i64 v 0))) (wrap64 (bits .and .i64 v 0))) = layF 5 v := by
  simp only [and_5, and_7, and_0]
  have p : 0 ≤ v % 32 ∧ v % 32 < 32 := by omega
  have q : 0 ≤ v / 32 % 128 ∧ v / 32 % 128 < 128 := by omega
  show _ = v % 32 * 128 + v / 32 % 128 * 33554432
  generalize v % 32 = x0 at *
  generalize v / 32 % 128 = x1 at *
  rw [wrap_in (x0 * 128) (by omega) (by omega)]
  rw [wrap_in (x1 * 33554432) (by omega) (by omega)]
  rw [wrap_in 0 (by omega) (by omega)]
  rw [z_or (x0 * 128) (by omega) (by omega)]
  rw [i64_or_gap 25 7 33554432 4294967296 (by decide) (by decide) (x0 * 128) (x1 * 33554432) (by omega) (by omega) (by omega) (by omega) (by omega) (by omega) (by decide)]
  rw [or_z (x0 * 128 + x1 * 33554432) (by omega) (by omega)]
  rw [or_z (x0 * 128 + x1 * 33554432) (by omega) (by omega)]
theorem layE6 (v : Int) : (bits .or .i64 (bits .or .i64 (bits .or .i64 (bits .or .i64 0 (wrap64 (bits .and .i64 v 63 * 1048576))) (wrap64 (bits .and .i64 v 0))) (wrap64 (bits .and .i64 v 0))) (wrap64 (bits .and .i64 v 0))) = layF 6 v := by
  simp only [and_6, and_0]
  have p : 0 ≤ v % 64 ∧ v % 64 < 64 := by omega
  show _ = v % 64 * 1048576
  generalize v % 64 = x0 at *
  rw [wrap_in (x0 * 1048576) (by omega) (by omega)]
  rw [wrap_in 0 (by omega) (by omega)]
  rw [z_or (x0 * 1048576) (by omega) (by omega)]
  rw [or_z (x0 * 1048576) (by omega) (by omega)]
  rw [or_z (x0 * 1048576) (by omega) (by omega)]
  rw [or_z (x0 * 1048576) (by omega) (by omega)]
theorem layE7 (v : Int) : (bits .or .i64 (bits .or .i64 (bits .or .i64 (bits .or .i64 0 (wrap64 (bits .and .i64 v 31 * 1048576))) (wrap64 (bits .and .i64 v 0))) (wrap64 (bits .and .i64 v 0))) (wrap64 (bits .and .i64 v 0))) = layF 7 v := by
  simp only [and_5, and_0]
  have p : 0 ≤ v % 32 ∧ v % 32 < 32 := by omega
  show _ = v % 32 * 1048576
  generalize v % 32 = x0 at *
  rw [wrap_in (x0 * 1048576) (by omega) (by omega)]
  rw [wrap_in 0 (by omega) (by omega)]
  rw [z_or (x0 * 1048576) (by omega) (by omega)]
  rw [or_z (x0 * 1048576) (by omega) (by omega)]
  rw [or_z (x0 * 1048576) (by omega) (by omega)]
  rw [or_z (x0 * 1048576) (by omega) (by omega)]
theorem layE8 (v : Int) : (bits .or .i64 (bits .or .i64 (bits .or .i64 (bits .or .i64 0 (wrap64 (bits .and .i64 v 0))) (wrap64 (bits .and .i64 v 0))) (wrap64 (bits .and .i64 v 0))) (wrap64 (bits .and .i64 v 0))) = layF 8 v := by
  rw [and_0]
  show _ = 0
  rw [wrap_in 0 (by omega) (by omega), or_z 0 (by omega) (by omega), or_z 0 (by omega) (by omega), or_z 0 (by omega) (by omega), or_z 0 (by omega) (by omega)]
end Go.Proofs.YtjokgiefnlpfkaaDoor

namespace Go.Proofs.YtjokgiefnlpfkaaDoor
open Go.RowKit
set_option linter.unusedVariables false
set_option maxRecDepth 100000 in
set_option maxHeartbeats 4000000 in
theorem lay1 (v : Int) (w : World) :
    Calls Tryd.prog 59 #[rule1, .int .i64 v] w fun e w' => e = .returned (.int .i64 (layF 1 v)) ∧ Below w.heap.size w w' := by
  have ix0 := fun w : World => idx0 12 20 12 0 0 0 0 0 0 0 0 0 w
  have ix1 := fun w : World => idx1 12 20 12 0 0 0 0 0 0 0 0 0 w
  have ix2 := fun w : World => idx2 12 20 12 0 0 0 0 0 0 0 0 0 w
  have ix3 := fun w : World => idx3 12 20 12 0 0 0 0 0 0 0 0 0 w
  unfold rule1
  go_enter Tryd.func59, Tryd.ntmps59
  go_wp2
  refine wp_loop_rounds 5 ?_
  rw [rounds_succ]
  go_wp2_with fail
  go_quiet ((go_at_call 85; first | exact Calls.quiet_of_same (low0 _) | exact Calls.quiet_of_same (low1 _) | exact Calls.quiet_of_same (low4 _) | exact Calls.quiet_of_same (low5 _) | exact Calls.quiet_of_same (low6 _) | exact Calls.quiet_of_same (low7 _) | exact Calls.quiet_of_same (low8 _) | exact Calls.quiet_of_same (low10 _) | exact Calls.quiet_of_same (low12 _) | exact Calls.quiet_of_same (low20 _)))
  go_wp2
  rw [rounds_succ]
  go_wp2_with fail
  go_quiet ((go_at_call 85; first | exact Calls.quiet_of_same (low0 _) | exact Calls.quiet_of_same (low1 _) | exact Calls.quiet_of_same (low4 _) | exact Calls.quiet_of_same (low5 _) | exact Calls.quiet_of_same (low6 _) | exact Calls.quiet_of_same (low7 _) | exact Calls.quiet_of_same (low8 _) | exact Calls.quiet_of_same (low10 _) | exact Calls.quiet_of_same (low12 _) | exact Calls.quiet_of_same (low20 _)))
  go_wp2
  rw [rounds_succ]
  go_wp2_with fail
  go_quiet ((go_at_call 85; first | exact Calls.quiet_of_same (low0 _) | exact Calls.quiet_of_same (low1 _) | exact Calls.quiet_of_same (low4 _) | exact Calls.quiet_of_same (low5 _) | exact Calls.quiet_of_same (low6 _) | exact Calls.quiet_of_same (low7 _) | exact Calls.quiet_of_same (low8 _) | exact Calls.quiet_of_same (low10 _) | exact Calls.quiet_of_same (low12 _) | exact Calls.quiet_of_same (low20 _)))
  go_wp2
  rw [rounds_succ]
  go_wp2_with fail
  go_quiet ((go_at_call 85; first | exact Calls.quiet_of_same (low0 _) | exact Calls.quiet_of_same (low1 _) | exact Calls.quiet_of_same (low4 _) | exact Calls.quiet_of_same (low5 _) | exact Calls.quiet_of_same (low6 _) | exact Calls.quiet_of_same (low7 _) | exact Calls.quiet_of_same (low8 _) | exact Calls.quiet_of_same (low10 _) | exact Calls.quiet_of_same (low12 _) | exact Calls.quiet_of_same (low20 _)))
  go_wp2
  rw [rounds_succ]
  clear ix0 ix1 ix2 ix3
  go_wp2
  go_ret
  refine ⟨congrArg (fun x => Ending.returned (.int .i64 x)) (layE1 v), ?_⟩
  exact bdN ((bdN ((bdN ((bdN (((Below.refl _ _).alloc (Nat.le_refl _) _).alloc (by simp; try omega) _) _).alloc (by simp; try omega) _) _).alloc (by simp; try omega) _) _).alloc (by simp; try omega) _) _
set_option maxRecDepth 100000 in
set_option maxHeartbeats 4000000 in
theorem lay2 (v : Int) (w : World) :
    Calls Tryd.prog 59 #[rule2, .int .i64 v] w fun e w' => e = .returned (.int .i64 (layF 2 v)) ∧ Below w.heap.size w w' := by
  have ix0 := fun w : World => idx0 12 8 12 11 1 20 1 10 21 20 1 31 w
  have ix1 := fun w : World => idx1 12 8 12 11 1 20 1 10 21 20 1 31 w
  have ix2 := fun w : World => idx2 12 8 12 11 1 20 1 10 21 20 1 31 w
  have ix3 := fun w : World => idx3 12 8 12 11 1 20 1 10 21 20 1 31 w
  unfold rule2
  go_enter Tryd.func59, Tryd.ntmps59
  go_wp2
  refine wp_loop_rounds 5 ?_
  rw [rounds_succ]
  go_wp2_with fail
  go_quiet ((go_at_call 85; first | exact Calls.quiet_of_same (low0 _) | exact Calls.quiet_of_same (low1 _) | exact Calls.quiet_of_same (low4 _) | exact Calls.quiet_of_same (low5 _) | exact Calls.quiet_of_same (low6 _) | exact Calls.quiet_of_same (low7 _) | exact Calls.quiet_of_same (low8 _) | exact Calls.quiet_of_same (low10 _) | exact Calls.quiet_of_same (low12 _) | exact Calls.quiet_of_same (low20 _)))
  go_wp2
  rw [rounds_succ]
  go_wp2_with fail
  go_quiet ((go_at_call 85; first | exact Calls.quiet_of_same (low0 _) | exact Calls.quiet_of_same (low1 _) | exact Calls.quiet_of_same (low4 _) | exact Calls.quiet_of_same (low5 _) | exact Calls.quiet_of_same (low6 _) | exact Calls.quiet_of_same (low7 _) | exact Calls.quiet_of_same (low8 _) | exact Calls.quiet_of_same (low10 _) | exact Calls.quiet_of_same (low12 _) | exact Calls.quiet_of_same (low20 _)))
  go_wp2
  rw [rounds_succ]
  go_wp2_with fail
  go_quiet ((go_at_call 85; first | exact Calls.quiet_of_same (low0 _) | exact Calls.quiet_of_same (low1 _) | exact Calls.quiet_of_same (low4 _) | exact Calls.quiet_of_same (low5 _) | exact Calls.quiet_of_same (low6 _) | exact Calls.quiet_of_same (low7 _) | exact Calls.quiet_of_same (low8 _) | exact Calls.quiet_of_same (low10 _) | exact Calls.quiet_of_same (low12 _) | exact Calls.quiet_of_same (low20 _)))
  go_wp2
  rw [rounds_succ]
  go_wp2_with fail
  go_quiet ((go_at_call 85; first | exact Calls.quiet_of_same (low0 _) | exact Calls.quiet_of_same (low1 _) | exact Calls.quiet_of_same (low4 _) | exact Calls.quiet_of_same (low5 _) | exact Calls.quiet_of_same (low6 _) | exact Calls.quiet_of_same (low7 _) | exact Calls.quiet_of_same (low8 _) | exact Calls.quiet_of_same (low10 _) | exact Calls.quiet_of_same (low12 _) | exact Calls.quiet_of_same (low20 _)))
  go_wp2
  rw [rounds_succ]
  clear ix0 ix1 ix2 ix3
  go_wp2
  go_ret
  refine ⟨congrArg (fun x => Ending.returned (.int .i64 x)) (layE2 v), ?_⟩
  exact bdN ((bdN ((bdN ((bdN (((Below.refl _ _).alloc (Nat.le_refl _) _).alloc (by simp; try omega) _) _).alloc (by simp; try omega) _) _).alloc (by simp; try omega) _) _).alloc (by simp; try omega) _) _
end Go.Proofs.YtjokgiefnlpfkaaDoor

namespace Go.Proofs.YtjokgiefnlpfkaaDoor
open Go.RowKit
set_option linter.unusedVariables false
set_option maxRecDepth 100000 in
set_option maxHeartbeats 4000000 in
theorem lay3 (v : Int) (w : World) :
    Calls Tryd.prog 59 #[rule3, .int .i64 v] w fun e w' => e = .returned (.int .i64 (layF 3 v)) ∧ Below w.heap.size w w' := by
  have ix0 := fun w : World => idx0 0 12 20 0 0 0 0 0 0 0 0 0 w
  have ix1 := fun w : World => idx1 0 12 20 0 0 0 0 0 0 0 0 0 w
  have ix2 := fun w : World => idx2 0 12 20 0 0 0 0 0 0 0 0 0 w
  have ix3 := fun w : World => idx3 0 12 20 0 0 0 0 0 0 0 0 0 w
  unfold rule3
  go_enter Tryd.func59, Tryd.ntmps59
  go_wp2
  refine wp_loop_rounds 5 ?_
  rw [rounds_succ]
  go_wp2_with fail
  go_quiet ((go_at_call 85; first | exact Calls.quiet_of_same (low0 _) | exact Calls.quiet_of_same (low1 _) | exact Calls.quiet_of_same (low4 _) | exact Calls.quiet_of_same (low5 _) | exact Calls.quiet_of_same (low6 _) | exact Calls.quiet_of_same (low7 _) | exact Calls.quiet_of_same (low8 _) | exact Calls.quiet_of_same (low10 _) | exact Calls.quiet_of_same (low12 _) | exact Calls.quiet_of_same (low20 _)))
  go_wp2
  rw [rounds_succ]
  go_wp2_with fail
  go_quiet ((go_at_call 85; first | exact Calls.quiet_of_same (low0 _) | exact Calls.quiet_of_same (low1 _) | exact Calls.quiet_of_same (low4 _) | exact Calls.quiet_of_same (low5 _) | exact Calls.quiet_of_same (low6 _) | exact Calls.quiet_of_same (low7 _) | exact Calls.quiet_of_same (low8 _) | exact Calls.quiet_of_same (low10 _) | exact Calls.quiet_of_same (low12 _) | exact Calls.quiet_of_same (low20 _)))
  go_wp2
  rw [rounds_succ]
  go_wp2_with fail
  go_quiet ((go_at_call 85; first | exact Calls.quiet_of_same (low0 _) | exact Calls.quiet_of_same (low1 _) | exact Calls.quiet_of_same (low4 _) | exact Calls.quiet_of_same (low5 _) | exact Calls.quiet_of_same (low6 _) | exact Calls.quiet_of_same (low7 _) | exact Calls.quiet_of_same (low8 _) | exact Calls.quiet_of_same (low10 _) | exact Calls.quiet_of_same (low12 _) | exact Calls.quiet_of_same (low20 _)))
  go_wp2
  rw [rounds_succ]
  go_wp2_with fail
  go_quiet ((go_at_call 85; first | exact Calls.quiet_of_same (low0 _) | exact Calls.quiet_of_same (low1 _) | exact Calls.quiet_of_same (low4 _) | exact Calls.quiet_of_same (low5 _) | exact Calls.quiet_of_same (low6 _) | exact Calls.quiet_of_same (low7 _) | exact Calls.quiet_of_same (low8 _) | exact Calls.quiet_of_same (low10 _) | exact Calls.quiet_of_same (low12 _) | exact Calls.quiet_of_same (low20 _)))
  go_wp2
  rw [rounds_succ]
  clear ix0 ix1 ix2 ix3
  go_wp2
  go_ret
  refine ⟨congrArg (fun x => Ending.returned (.int .i64 x)) (layE3 v), ?_⟩
  exact bdN ((bdN ((bdN ((bdN (((Below.refl _ _).alloc (Nat.le_refl _) _).alloc (by simp; try omega) _) _).alloc (by simp; try omega) _) _).alloc (by simp; try omega) _) _).alloc (by simp; try omega) _) _
set_option maxRecDepth 100000 in
set_option maxHeartbeats 4000000 in
theorem lay4 (v : Int) (w : World) :
    Calls Tryd.prog 59 #[rule4, .int .i64 v] w fun e w' => e = .returned (.int .i64 (layF 4 v)) ∧ Below w.heap.size w w' := by
  have ix0 := fun w : World => idx0 11 1 7 1 4 8 5 6 25 12 1 31 w
  have ix1 := fun w : World => idx1 11 1 7 1 4 8 5 6 25 12 1 31 w
  have ix2 := fun w : World => idx2 11 1 7 1 4 8 5 6 25 12 1 31 w
  have ix3 := fun w : World => idx3 11 1 7 1 4 8 5 6 25 12 1 31 w
  unfold rule4
  go_enter Tryd.func59, Tryd.ntmps59
  go_wp2
  refine wp_loop_rounds 5 ?_
  rw [rounds_succ]
  go_wp2_with fail
  go_quiet ((go_at_call 85; first | exact Calls.quiet_of_same (low0 _) | exact Calls.quiet_of_same (low1 _) | exact Calls.quiet_of_same (low4 _) | exact Calls.quiet_of_same (low5 _) | exact Calls.quiet_of_same (low6 _) | exact Calls.quiet_of_same (low7 _) | exact Calls.quiet_of_same (low8 _) | exact Calls.quiet_of_same (low10 _) | exact Calls.quiet_of_same (low12 _) | exact Calls.quiet_of_same (low20 _)))
  go_wp2
  rw [rounds_succ]
  go_wp2_with fail
  go_quiet ((go_at_call 85; first | exact Calls.quiet_of_same (low0 _) | exact Calls.quiet_of_same (low1 _) | exact Calls.quiet_of_same (low4 _) | exact Calls.quiet_of_same (low5 _) | exact Calls.quiet_of_same (low6 _) | exact Calls.quiet_of_same (low7 _) | exact Calls.quiet_of_same (low8 _) | exact Calls.quiet_of_same (low10 _) | exact Calls.quiet_of_same (low12 _) | exact Calls.quiet_of_same (low20 _)))
  go_wp2
  rw [rounds_succ]
  go_wp2_with fail
  go_quiet ((go_at_call 85; first | exact Calls.quiet_of_same (low0 _) | exact Calls.quiet_of_same (low1 _) | exact Calls.quiet_of_same (low4 _) | exact Calls.quiet_of_same (low5 _) | exact Calls.quiet_of_same (low6 _) | exact Calls.quiet_of_same (low7 _) | exact Calls.quiet_of_same (low8 _) | exact Calls.quiet_of_same (low10 _) | exact Calls.quiet_of_same (low12 _) | exact Calls.quiet_of_same (low20 _)))
  go_wp2
  rw [rounds_succ]
  go_wp2_with fail
  go_quiet ((go_at_call 85; first | exact Calls.quiet_of_same (low0 _) | exact Calls.quiet_of_same (low1 _) | exact Calls.quiet_of_same (low4 _) | exact Calls.quiet_of_same (low5 _) | exact Calls.quiet_of_same (low6 _) | exact Calls.quiet_of_same (low7 _) | exact Calls.quiet_of_same (low8 _) | exact Calls.quiet_of_same (low10 _) | exact Calls.quiet_of_same (low12 _) | exact Calls.quiet_of_same (low20 _)))
  go_wp2
  rw [rounds_succ]
  clear ix0 ix1 ix2 ix3
  go_wp2
  go_ret
  refine ⟨congrArg (fun x => Ending.returned (.int .i64 x)) (layE4 v), ?_⟩
  exact bdN ((bdN ((bdN ((bdN (((Below.refl _ _).alloc (Nat.le_refl _) _).alloc (by simp; try omega) _) _).alloc (by simp; try omega) _) _).alloc (by simp; try omega) _) _).alloc (by simp; try omega) _) _
end Go.Proofs.YtjokgiefnlpfkaaDoor

namespace Go.Proofs.YtjokgiefnlpfkaaDoor
open Go.RowKit
set_option linter.unusedVariables false
set_option maxRecDepth 100000 in
set_option maxHeartbeats 4000000 in
theorem lay5 (v : Int) (w : World) :
    Calls Tryd.prog 59 #[rule5, .int .i64 v] w fun e w' => e = .returned (.int .i64 (layF 5 v)) ∧ Below w.heap.size w w' := by
  have ix0 := fun w : World => idx0 0 5 7 5 7 25 0 0 0 0 0 0 w
  have ix1 := fun w : World => idx1 0 5 7 5 7 25 0 0 0 0 0 0 w
  have ix2 := fun w : World => idx2 0 5 7 5 7 25 0 0 0 0 0 0 w
  have ix3 := fun w : World => idx3 0 5 7 5 7 25 0 0 0 0 0 0 w
  unfold rule5
  go_enter Tryd.func59, Tryd.ntmps59
  go_wp2
  refine wp_loop_rounds 5 ?_
  rw [rounds_succ]
  go_wp2_with fail
  go_quiet ((go_at_call 85; first | exact Calls.quiet_of_same (low0 _) | exact Calls.quiet_of_same (low1 _) | exact Calls.quiet_of_same (low4 _) | exact Calls.quiet_of_same (low5 _) | exact Calls.quiet_of_same (low6 _) | exact Calls.quiet_of_same (low7 _) | exact Calls.quiet_of_same (low8 _) | exact Calls.quiet_of_same (low10 _) | exact Calls.quiet_of_same (low12 _) | exact Calls.quiet_of_same (low20 _)))
  go_wp2
  rw [rounds_succ]
  go_wp2_with fail
  go_quiet ((go_at_call 85; first | exact Calls.quiet_of_same (low0 _) | exact Calls.quiet_of_same (low1 _) | exact Calls.quiet_of_same (low4 _) | exact Calls.quiet_of_same (low5 _) | exact Calls.quiet_of_same (low6 _) | exact Calls.quiet_of_same (low7 _) | exact Calls.quiet_of_same (low8 _) | exact Calls.quiet_of_same (low10 _) | exact Calls.quiet_of_same (low12 _) | exact Calls.quiet_of_same (low20 _)))
  go_wp2
  rw [rounds_succ]
  go_wp2_with fail
  go_quiet ((go_at_call 85; first | exact Calls.quiet_of_same (low0 _) | exact Calls.quiet_of_same (low1 _) | exact Calls.quiet_of_same (low4 _) | exact Calls.quiet_of_same (low5 _) | exact Calls.quiet_of_same (low6 _) | exact Calls.quiet_of_same (low7 _) | exact Calls.quiet_of_same (low8 _) | exact Calls.quiet_of_same (low10 _) | exact Calls.quiet_of_same (low12 _) | exact Calls.quiet_of_same (low20 _)))
  go_wp2
  rw [rounds_succ]
  go_wp2_with fail
  go_quiet ((go_at_call 85; first | exact Calls.quiet_of_same (low0 _) | exact Calls.quiet_of_same (low1 _) | exact Calls.quiet_of_same (low4 _) | exact Calls.quiet_of_same (low5 _) | exact Calls.quiet_of_same (low6 _) | exact Calls.quiet_of_same (low7 _) | exact Calls.quiet_of_same (low8 _) | exact Calls.quiet_of_same (low10 _) | exact Calls.quiet_of_same (low12 _) | exact Calls.quiet_of_same (low20 _)))
  go_wp2
  rw [rounds_succ]
  clear ix0 ix1 ix2 ix3
  go_wp2
  go_ret
  refine ⟨congrArg (fun x => Ending.returned (.int .i64 x)) (layE5 v), ?_⟩
  exact bdN ((bdN ((bdN ((bdN (((Below.refl _ _).alloc (Nat.le_refl _) _).alloc (by simp; try omega) _) _).alloc (by simp; try omega) _) _).alloc (by simp; try omega) _) _).alloc (by simp; try omega) _) _
set_option maxRecDepth 100000 in
set_option maxHeartbeats 4000000 in
theorem lay6 (v : Int) (w : World) :
    Calls Tryd.prog 59 #[rule6, .int .i64 v] w fun e w' => e = .returned (.int .i64 (layF 6 v)) ∧ Below w.heap.size w w' := by
  have ix0 := fun w : World => idx0 0 6 20 0 0 0 0 0 0 0 0 0 w
  have ix1 := fun w : World => idx1 0 6 20 0 0 0 0 0 0 0 0 0 w
  have ix2 := fun w : World => idx2 0 6 20 0 0 0 0 0 0 0 0 0 w
  have ix3 := fun w : World => idx3 0 6 20 0 0 0 0 0 0 0 0 0 w
  unfold rule6
  go_enter Tryd.func59, Tryd.ntmps59
  go_wp2
  refine wp_loop_rounds 5 ?_
  rw [rounds_succ]
  go_wp2_with fail
  go_quiet ((go_at_call 85; first | exact Calls.quiet_of_same (low0 _) | exact Calls.quiet_of_same (low1 _) | exact Calls.quiet_of_same (low4 _) | exact Calls.quiet_of_same (low5 _) | exact Calls.quiet_of_same (low6 _) | exact Calls.quiet_of_same (low7 _) | exact Calls.quiet_of_same (low8 _) | exact Calls.quiet_of_same (low10 _) | exact Calls.quiet_of_same (low12 _) | exact Calls.quiet_of_same (low20 _)))
  go_wp2
  rw [rounds_succ]
  go_wp2_with fail
  go_quiet ((go_at_call 85; first | exact Calls.quiet_of_same (low0 _) | exact Calls.quiet_of_same (low1 _) | exact Calls.quiet_of_same (low4 _) | exact Calls.quiet_of_same (low5 _) | exact Calls.quiet_of_same (low6 _) | exact Calls.quiet_of_same (low7 _) | exact Calls.quiet_of_same (low8 _) | exact Calls.quiet_of_same (low10 _) | exact Calls.quiet_of_same (low12 _) | exact Calls.quiet_of_same (low20 _)))
  go_wp2
  rw [rounds_succ]
  go_wp2_with fail
  go_quiet ((go_at_call 85; first | exact Calls.quiet_of_same (low0 _) | exact Calls.quiet_of_same (low1 _) | exact Calls.quiet_of_same (low4 _) | exact Calls.quiet_of_same (low5 _) | exact Calls.quiet_of_same (low6 _) | exact Calls.quiet_of_same (low7 _) | exact Calls.quiet_of_same (low8 _) | exact Calls.quiet_of_same (low10 _) | exact Calls.quiet_of_same (low12 _) | exact Calls.quiet_of_same (low20 _)))
  go_wp2
  rw [rounds_succ]
  go_wp2_with fail
  go_quiet ((go_at_call 85; first | exact Calls.quiet_of_same (low0 _) | exact Calls.quiet_of_same (low1 _) | exact Calls.quiet_of_same (low4 _) | exact Calls.quiet_of_same (low5 _) | exact Calls.quiet_of_same (low6 _) | exact Calls.quiet_of_same (low7 _) | exact Calls.quiet_of_same (low8 _) | exact Calls.quiet_of_same (low10 _) | exact Calls.quiet_of_same (low12 _) | exact Calls.quiet_of_same (low20 _)))
  go_wp2
  rw [rounds_succ]
  clear ix0 ix1 ix2 ix3
  go_wp2
  go_ret
  refine ⟨congrArg (fun x => Ending.returned (.int .i64 x)) (layE6 v), ?_⟩
  exact bdN ((bdN ((bdN ((bdN (((Below.refl _ _).alloc (Nat.le_refl _) _).alloc (by simp; try omega) _) _).alloc (by simp; try omega) _) _).alloc (by simp; try omega) _) _).alloc (by simp; try omega) _) _
end Go.Proofs.YtjokgiefnlpfkaaDoor
