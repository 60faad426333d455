/- lowBits at the counts that are used, and the forms' rules. -/
import Derived.Test.YtelogjpjglohoaaGreatDoorGXTabBase9
import Derived.Test.YtelogjpjglohoaaGreatDoorGXTabBase12
import Derived.Deep.QuietTactic
import Derived.BigQuiet
namespace Go.Proofs.YtelogjpjglohoaaGreatDoor
open Go.RowKit
set_option linter.unusedVariables false

theorem low0 (w : World) : Calls Tryz.prog 144 #[.int .i64 0] w fun e w' => e = .returned (.int .i64 0) ∧ w' = w := by
  go_enter Tryz.func144, Tryz.ntmps144
  go_wp2
  go_ret
  exact ⟨rfl, rfl⟩
theorem low1 (w : World) : Calls Tryz.prog 144 #[.int .i64 1] w fun e w' => e = .returned (.int .i64 1) ∧ w' = w := by
  go_enter Tryz.func144, Tryz.ntmps144
  go_wp2
  go_ret
  exact ⟨rfl, rfl⟩
theorem low4 (w : World) : Calls Tryz.prog 144 #[.int .i64 4] w fun e w' => e = .returned (.int .i64 15) ∧ w' = w := by
  go_enter Tryz.func144, Tryz.ntmps144
  go_wp2
  go_ret
  exact ⟨rfl, rfl⟩
theorem low5 (w : World) : Calls Tryz.prog 144 #[.int .i64 5] w fun e w' => e = .returned (.int .i64 31) ∧ w' = w := by
  go_enter Tryz.func144, Tryz.ntmps144
  go_wp2
  go_ret
  exact ⟨rfl, rfl⟩
theorem low6 (w : World) : Calls Tryz.prog 144 #[.int .i64 6] w fun e w' => e = .returned (.int .i64 63) ∧ w' = w := by
  go_enter Tryz.func144, Tryz.ntmps144
  go_wp2
  go_ret
  exact ⟨rfl, rfl⟩
theorem low7 (w : World) : Calls Tryz.prog 144 #[.int .i64 7] w fun e w' => e = .returned (.int .i64 127) ∧ w' = w := by
  go_enter Tryz.func144, Tryz.ntmps144
  go_wp2
  go_ret
  exact ⟨rfl, rfl⟩
theorem low8 (w : World) : Calls Tryz.prog 144 #[.int .i64 8] w fun e w' => e = .returned (.int .i64 255) ∧ w' = w := by
  go_enter Tryz.func144, Tryz.ntmps144
  go_wp2
  go_ret
  exact ⟨rfl, rfl⟩
theorem low10 (w : World) : Calls Tryz.prog 144 #[.int .i64 10] w fun e w' => e = .returned (.int .i64 1023) ∧ w' = w := by
  go_enter Tryz.func144, Tryz.ntmps144
  go_wp2
  go_ret
  exact ⟨rfl, rfl⟩
theorem low12 (w : World) : Calls Tryz.prog 144 #[.int .i64 12] w fun e w' => e = .returned (.int .i64 4095) ∧ w' = w := by
  go_enter Tryz.func144, Tryz.ntmps144
  go_wp2
  go_ret
  exact ⟨rfl, rfl⟩
theorem low20 (w : World) : Calls Tryz.prog 144 #[.int .i64 20] w fun e w' => e = .returned (.int .i64 1048575) ∧ w' = w := by
  go_enter Tryz.func144, Tryz.ntmps144
  go_wp2
  go_ret
  exact ⟨rfl, rfl⟩
def rule1 : Value := .agg #[.int .i64 32, .int .i64 12, .int .i64 20, .int .i64 12, .int .i64 0, .int .i64 0, .int .i64 0, .int .i64 0, .int .i64 0, .int .i64 0, .int .i64 0, .int .i64 0, .int .i64 0]
def rule2 : Value := .agg #[.int .i64 21, .int .i64 12, .int .i64 8, .int .i64 12, .int .i64 11, .int .i64 1, .int .i64 20, .int .i64 1, .int .i64 10, .int .i64 21, .int .i64 20, .int .i64 1, .int .i64 31]
def rule3 : Value := .agg #[.int .i64 12, .int .i64 0, .int .i64 12, .int .i64 20, .int .i64 0, .int .i64 0, .int .i64 0, .int .i64 0, .int .i64 0, .int .i64 0, .int .i64 0, .int .i64 0, .int .i64 0]
def rule4 : Value := .agg #[.int .i64 13, .int .i64 11, .int .i64 1, .int .i64 7, .int .i64 1, .int .i64 4, .int .i64 8, .int .i64 5, .int .i64 6, .int .i64 25, .int .i64 12, .int .i64 1, .int .i64 31]
def rule5 : Value := .agg #[.int .i64 12, .int .i64 0, .int .i64 5, .int .i64 7, .int .i64 5, .int .i64 7, .int .i64 25, .int .i64 0, .int .i64 0, .int .i64 0, .int .i64 0, .int .i64 0, .int .i64 0]
def rule6 : Value := .agg #[.int .i64 0, .int .i64 0, .int .i64 6, .int .i64 20, .int .i64 0, .int .i64 0, .int .i64 0, .int .i64 0, .int .i64 0, .int .i64 0, .int .i64 0, .int .i64 0, .int .i64 0]
def rule7 : Value := .agg #[.int .i64 0, .int .i64 0, .int .i64 5, .int .i64 20, .int .i64 0, .int .i64 0, .int .i64 0, .int .i64 0, .int .i64 0, .int .i64 0, .int .i64 0, .int .i64 0, .int .i64 0]
def rule8 : Value := .agg #[.int .i64 0, .int .i64 0, .int .i64 0, .int .i64 0, .int .i64 0, .int .i64 0, .int .i64 0, .int .i64 0, .int .i64 0, .int .i64 0, .int .i64 0, .int .i64 0, .int .i64 0]

theorem rule_none (f : Int) (hf : f = 8 ∨ f = 9 ∨ f = 0) (w : World) : Calls Tryz.prog 146 #[.int .i64 f] w fun e w' => e = .returned rule8 ∧ Below w.heap.size w w' := by
  rcases hf with rfl | rfl | rfl
  all_goals
    go_enter Tryz.func146, Tryz.ntmps146
    go_wp2
    exact bodyPost_ret (v := rule8) (by simp [results, Tryz.results146, go_sem]; rfl) rfl ⟨rfl, (Below.refl _ _).alloc (Nat.le_refl _) _⟩
set_option maxHeartbeats 4000000 in
theorem rule_1 (w : World) : Calls Tryz.prog 146 #[.int .i64 1] w fun e w' => e = .returned rule1 ∧ Below w.heap.size w w' := by
  go_enter Tryz.func146, Tryz.ntmps146
  go_wp2
  exact bodyPost_ret (v := rule1) (by simp [results, Tryz.results146, go_sem]; rfl) rfl ⟨rfl, (Below.refl _ _).alloc (Nat.le_refl _) _⟩
set_option maxHeartbeats 4000000 in
theorem rule_2 (w : World) : Calls Tryz.prog 146 #[.int .i64 2] w fun e w' => e = .returned rule2 ∧ Below w.heap.size w w' := by
  go_enter Tryz.func146, Tryz.ntmps146
  go_wp2
  exact bodyPost_ret (v := rule2) (by simp [results, Tryz.results146, go_sem]; rfl) rfl ⟨rfl, (Below.refl _ _).alloc (Nat.le_refl _) _⟩
set_option maxHeartbeats 4000000 in
theorem rule_3 (w : World) : Calls Tryz.prog 146 #[.int .i64 3] w fun e w' => e = .returned rule3 ∧ Below w.heap.size w w' := by
  go_enter Tryz.func146, Tryz.ntmps146
  go_wp2
  exact bodyPost_ret (v := rule3) (by simp [results, Tryz.results146, go_sem]; rfl) rfl ⟨rfl, (Below.refl _ _).alloc (Nat.le_refl _) _⟩
set_option maxHeartbeats 4000000 in
theorem rule_4 (w : World) : Calls Tryz.prog 146 #[.int .i64 4] w fun e w' => e = .returned rule4 ∧ Below w.heap.size w w' := by
  go_enter Tryz.func146, Tryz.ntmps146
  go_wp2
  exact bodyPost_ret (v := rule4) (by simp [results, Tryz.results146, go_sem]; rfl) rfl ⟨rfl, (Below.refl _ _).alloc (Nat.le_refl _) _⟩
set_option maxHeartbeats 4000000 in
theorem rule_5 (w : World) : Calls Tryz.prog 146 #[.int .i64 5] w fun e w' => e = .returned rule5 ∧ Below w.heap.size w w' := by
  go_enter Tryz.func146, Tryz.ntmps146
  go_wp2
  exact bodyPost_ret (v := rule5) (by simp [results, Tryz.results146, go_sem]; rfl) rfl ⟨rfl, (Below.refl _ _).alloc (Nat.le_refl _) _⟩
set_option maxHeartbeats 4000000 in
theorem rule_6 (w : World) : Calls Tryz.prog 146 #[.int .i64 6] w fun e w' => e = .returned rule6 ∧ Below w.heap.size w w' := by
  go_enter Tryz.func146, Tryz.ntmps146
  go_wp2
  exact bodyPost_ret (v := rule6) (by simp [results, Tryz.results146, go_sem]; rfl) rfl ⟨rfl, (Below.refl _ _).alloc (Nat.le_refl _) _⟩
set_option maxHeartbeats 4000000 in
theorem rule_7 (w : World) : Calls Tryz.prog 146 #[.int .i64 7] w fun e w' => e = .returned rule7 ∧ Below w.heap.size w w' := by
  go_enter Tryz.func146, Tryz.ntmps146
  go_wp2
  exact bodyPost_ret (v := rule7) (by simp [results, Tryz.results146, go_sem]; rfl) rfl ⟨rfl, (Below.refl _ _).alloc (Nat.le_refl _) _⟩
end Go.Proofs.YtelogjpjglohoaaGreatDoor
