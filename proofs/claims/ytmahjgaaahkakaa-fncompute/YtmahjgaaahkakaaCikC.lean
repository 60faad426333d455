/- The program's Compute, operation by operation: contracts (CikC). -/
import Derived.Test.YtmahjgaaahkakaaCimR
namespace Go.Proofs.Ytmahjgaaahkakaa
open Go.RowKit
set_option linter.unusedVariables false

theorem imC42 (a b : Int) (w : World) (ha : In64 a) (hb : In64 b) :
    Calls Try.prog 17 #[.int .i64 42, .int .i64 a, .int .i64 b] w fun e w' => e = .returned (.tuple #[.int .i64 (cm47 a b), .int .i64 0]) ∧ Below w.heap.size w w' := by
  have hi1 : ∀ w', (Instr.index 48 (.agg halfA) (.int .i64 47)).run Try.prog w' = .ok (.func (.func 57) #[] #[]) w' := fun w' => by kernel_rfl
  have hne : ∀ w', (binOp .neq 47 (.func (.func 57) #[] #[]) .nilFunc).run Try.prog w' = .ok (.bool true) w' := fun w' => by kernel_rfl
  go_enter Try.func17, Try.ntmps17
  go_wp2_with fail
  refine (kindOk 42 22 62 w (by decide) (by decide) (by decide) (by decide)).mono ?_
  rintro e w1 ⟨rfl, rfl⟩
  go_wp2_with fail
  refine (ofR42 _).mono ?_
  rintro e w1 ⟨rfl, rfl⟩
  go_wp2_with fail
  refine (halfC _).mono ?_
  rintro e w2 ⟨rfl, hb2⟩
  go_wp2_with fail
  refine (clC47 a b _ ha hb).mono ?_
  rintro e w4 ⟨rfl, rfl⟩
  go_wp2
  go_ret2
  exact ⟨rfl, hb2⟩
theorem imC43 (a b : Int) (w : World) (ha : In64 a) (hb : In64 b) :
    Calls Try.prog 17 #[.int .i64 43, .int .i64 a, .int .i64 b] w fun e w' => e = .returned (.tuple #[.int .i64 (cm48 a b), .int .i64 0]) ∧ Below w.heap.size w w' := by
  have hi1 : ∀ w', (Instr.index 48 (.agg halfA) (.int .i64 48)).run Try.prog w' = .ok (.func (.func 59) #[] #[]) w' := fun w' => by kernel_rfl
  have hne : ∀ w', (binOp .neq 47 (.func (.func 59) #[] #[]) .nilFunc).run Try.prog w' = .ok (.bool true) w' := fun w' => by kernel_rfl
  go_enter Try.func17, Try.ntmps17
  go_wp2_with fail
  refine (kindOk 43 22 62 w (by decide) (by decide) (by decide) (by decide)).mono ?_
  rintro e w1 ⟨rfl, rfl⟩
  go_wp2_with fail
  refine (ofR43 _).mono ?_
  rintro e w1 ⟨rfl, rfl⟩
  go_wp2_with fail
  refine (halfC _).mono ?_
  rintro e w2 ⟨rfl, hb2⟩
  go_wp2_with fail
  refine (clC48 a b _ ha hb).mono ?_
  rintro e w4 ⟨rfl, rfl⟩
  go_wp2
  go_ret2
  exact ⟨rfl, hb2⟩
theorem imC44 (a b : Int) (w : World) (ha : In64 a) (hb : In64 b) :
    Calls Try.prog 17 #[.int .i64 44, .int .i64 a, .int .i64 b] w fun e w' => e = .returned (.tuple #[.int .i64 (cm49 a b), .int .i64 0]) ∧ Below w.heap.size w w' := by
  have hi1 : ∀ w', (Instr.index 48 (.agg halfA) (.int .i64 49)).run Try.prog w' = .ok (.func (.func 60) #[] #[]) w' := fun w' => by kernel_rfl
  have hne : ∀ w', (binOp .neq 47 (.func (.func 60) #[] #[]) .nilFunc).run Try.prog w' = .ok (.bool true) w' := fun w' => by kernel_rfl
  go_enter Try.func17, Try.ntmps17
  go_wp2_with fail
  refine (kindOk 44 22 62 w (by decide) (by decide) (by decide) (by decide)).mono ?_
  rintro e w1 ⟨rfl, rfl⟩
  go_wp2_with fail
  refine (ofR44 _).mono ?_
  rintro e w1 ⟨rfl, rfl⟩
  go_wp2_with fail
  refine (halfC _).mono ?_
  rintro e w2 ⟨rfl, hb2⟩
  go_wp2_with fail
  refine (clC49 a b _ ha hb).mono ?_
  rintro e w4 ⟨rfl, rfl⟩
  go_wp2
  go_ret2
  exact ⟨rfl, hb2⟩
theorem imC45 (a b : Int) (w : World) (ha : In64 a) (hb : In64 b) :
    Calls Try.prog 17 #[.int .i64 45, .int .i64 a, .int .i64 b] w fun e w' => e = .returned (.tuple #[.int .i64 (cm45 a b), .int .i64 0]) ∧ Below w.heap.size w w' := by
  have hi1 : ∀ w', (Instr.index 48 (.agg halfA) (.int .i64 45)).run Try.prog w' = .ok (.func (.func 55) #[] #[]) w' := fun w' => by kernel_rfl
  have hne : ∀ w', (binOp .neq 47 (.func (.func 55) #[] #[]) .nilFunc).run Try.prog w' = .ok (.bool true) w' := fun w' => by kernel_rfl
  go_enter Try.func17, Try.ntmps17
  go_wp2_with fail
  refine (kindOk 45 22 62 w (by decide) (by decide) (by decide) (by decide)).mono ?_
  rintro e w1 ⟨rfl, rfl⟩
  go_wp2_with fail
  refine (ofR45 _).mono ?_
  rintro e w1 ⟨rfl, rfl⟩
  go_wp2_with fail
  refine (halfC _).mono ?_
  rintro e w2 ⟨rfl, hb2⟩
  go_wp2_with fail
  refine (clC45 a b _ ha hb).mono ?_
  rintro e w4 ⟨rfl, rfl⟩
  go_wp2
  go_ret2
  exact ⟨rfl, hb2⟩
theorem imC46 (a b : Int) (w : World) (ha : In64 a) (hb : In64 b) :
    Calls Try.prog 17 #[.int .i64 46, .int .i64 a, .int .i64 b] w fun e w' => e = .returned (.tuple #[.int .i64 (cm46 a b), .int .i64 0]) ∧ Below w.heap.size w w' := by
  have hi1 : ∀ w', (Instr.index 48 (.agg halfA) (.int .i64 46)).run Try.prog w' = .ok (.func (.func 56) #[] #[]) w' := fun w' => by kernel_rfl
  have hne : ∀ w', (binOp .neq 47 (.func (.func 56) #[] #[]) .nilFunc).run Try.prog w' = .ok (.bool true) w' := fun w' => by kernel_rfl
  go_enter Try.func17, Try.ntmps17
  go_wp2_with fail
  refine (kindOk 46 22 62 w (by decide) (by decide) (by decide) (by decide)).mono ?_
  rintro e w1 ⟨rfl, rfl⟩
  go_wp2_with fail
  refine (ofR46 _).mono ?_
  rintro e w1 ⟨rfl, rfl⟩
  go_wp2_with fail
  refine (halfC _).mono ?_
  rintro e w2 ⟨rfl, hb2⟩
  go_wp2_with fail
  refine (clC46 a b _ ha hb).mono ?_
  rintro e w4 ⟨rfl, rfl⟩
  go_wp2
  go_ret2
  exact ⟨rfl, hb2⟩
theorem imC47 (a b : Int) (w : World) (ha : In64 a) (hb : In64 b) :
    Calls Try.prog 17 #[.int .i64 47, .int .i64 a, .int .i64 b] w fun e w' => e = .returned (.tuple #[.int .i64 (cm47 a b), .int .i64 0]) ∧ Below w.heap.size w w' := by
  have hi1 : ∀ w', (Instr.index 48 (.agg halfA) (.int .i64 47)).run Try.prog w' = .ok (.func (.func 57) #[] #[]) w' := fun w' => by kernel_rfl
  have hne : ∀ w', (binOp .neq 47 (.func (.func 57) #[] #[]) .nilFunc).run Try.prog w' = .ok (.bool true) w' := fun w' => by kernel_rfl
  go_enter Try.func17, Try.ntmps17
  go_wp2_with fail
  refine (kindOk 47 22 62 w (by decide) (by decide) (by decide) (by decide)).mono ?_
  rintro e w1 ⟨rfl, rfl⟩
  go_wp2_with fail
  refine (ofR47 _).mono ?_
  rintro e w1 ⟨rfl, rfl⟩
  go_wp2_with fail
  refine (halfC _).mono ?_
  rintro e w2 ⟨rfl, hb2⟩
  go_wp2_with fail
  refine (clC47 a b _ ha hb).mono ?_
  rintro e w4 ⟨rfl, rfl⟩
  go_wp2
  go_ret2
  exact ⟨rfl, hb2⟩
theorem imC48 (a b : Int) (w : World) (ha : In64 a) (hb : In64 b) :
    Calls Try.prog 17 #[.int .i64 48, .int .i64 a, .int .i64 b] w fun e w' => e = .returned (.tuple #[.int .i64 (cm48 a b), .int .i64 0]) ∧ Below w.heap.size w w' := by
  have hi1 : ∀ w', (Instr.index 48 (.agg halfA) (.int .i64 48)).run Try.prog w' = .ok (.func (.func 59) #[] #[]) w' := fun w' => by kernel_rfl
  have hne : ∀ w', (binOp .neq 47 (.func (.func 59) #[] #[]) .nilFunc).run Try.prog w' = .ok (.bool true) w' := fun w' => by kernel_rfl
  go_enter Try.func17, Try.ntmps17
  go_wp2_with fail
  refine (kindOk 48 22 62 w (by decide) (by decide) (by decide) (by decide)).mono ?_
  rintro e w1 ⟨rfl, rfl⟩
  go_wp2_with fail
  refine (ofR48 _).mono ?_
  rintro e w1 ⟨rfl, rfl⟩
  go_wp2_with fail
  refine (halfC _).mono ?_
  rintro e w2 ⟨rfl, hb2⟩
  go_wp2_with fail
  refine (clC48 a b _ ha hb).mono ?_
  rintro e w4 ⟨rfl, rfl⟩
  go_wp2
  go_ret2
  exact ⟨rfl, hb2⟩
theorem imC49 (a b : Int) (w : World) (ha : In64 a) (hb : In64 b) :
    Calls Try.prog 17 #[.int .i64 49, .int .i64 a, .int .i64 b] w fun e w' => e = .returned (.tuple #[.int .i64 (cm49 a b), .int .i64 0]) ∧ Below w.heap.size w w' := by
  have hi1 : ∀ w', (Instr.index 48 (.agg halfA) (.int .i64 49)).run Try.prog w' = .ok (.func (.func 60) #[] #[]) w' := fun w' => by kernel_rfl
  have hne : ∀ w', (binOp .neq 47 (.func (.func 60) #[] #[]) .nilFunc).run Try.prog w' = .ok (.bool true) w' := fun w' => by kernel_rfl
  go_enter Try.func17, Try.ntmps17
  go_wp2_with fail
  refine (kindOk 49 22 62 w (by decide) (by decide) (by decide) (by decide)).mono ?_
  rintro e w1 ⟨rfl, rfl⟩
  go_wp2_with fail
  refine (ofR49 _).mono ?_
  rintro e w1 ⟨rfl, rfl⟩
  go_wp2_with fail
  refine (halfC _).mono ?_
  rintro e w2 ⟨rfl, hb2⟩
  go_wp2_with fail
  refine (clC49 a b _ ha hb).mono ?_
  rintro e w4 ⟨rfl, rfl⟩
  go_wp2
  go_ret2
  exact ⟨rfl, hb2⟩
theorem imC50 (a b : Int) (w : World) (ha : In64 a) (hb : In64 b) :
    Calls Try.prog 17 #[.int .i64 50, .int .i64 a, .int .i64 b] w fun e w' => e = .returned (.tuple #[.int .i64 (cm50 a b), .int .i64 0]) ∧ Below w.heap.size w w' := by
  have hi1 : ∀ w', (Instr.index 48 (.agg halfA) (.int .i64 50)).run Try.prog w' = .ok .nilFunc w' := fun w' => by kernel_rfl
  have hi2 : ∀ w', (Instr.index 50 (.agg wholeA) (.int .i64 50)).run Try.prog w' = .ok (.func (.func 81) #[] #[]) w' := fun w' => by kernel_rfl
  have hne : ∀ w', (binOp .neq 47 .nilFunc .nilFunc).run Try.prog w' = .ok (.bool false) w' := fun w' => by kernel_rfl
  go_enter Try.func17, Try.ntmps17
  go_wp2_with fail
  refine (kindOk 50 22 62 w (by decide) (by decide) (by decide) (by decide)).mono ?_
  rintro e w1 ⟨rfl, rfl⟩
  go_wp2_with fail
  refine (ofR50 _).mono ?_
  rintro e w1 ⟨rfl, rfl⟩
  go_wp2_with fail
  refine (halfC _).mono ?_
  rintro e w2 ⟨rfl, hb2⟩
  go_wp2_with fail
  refine (wholeC _).mono ?_
  rintro e w3 ⟨rfl, hb3⟩
  go_wp2_with fail
  refine (clC50 a b _ ha hb).mono ?_
  rintro e w4 ⟨rfl, rfl⟩
  go_wp2
  go_ret2
  exact ⟨rfl, hb2.trans (hb3.mono hb2.size)⟩
theorem imC51 (a b : Int) (w : World) (ha : In64 a) (hb : In64 b) :
    Calls Try.prog 17 #[.int .i64 51, .int .i64 a, .int .i64 b] w fun e w' => e = .returned (.tuple #[.int .i64 (cm51 a b), .int .i64 0]) ∧ Below w.heap.size w w' := by
  have hi1 : ∀ w', (Instr.index 48 (.agg halfA) (.int .i64 51)).run Try.prog w' = .ok .nilFunc w' := fun w' => by kernel_rfl
  have hi2 : ∀ w', (Instr.index 50 (.agg wholeA) (.int .i64 51)).run Try.prog w' = .ok (.func (.func 82) #[] #[]) w' := fun w' => by kernel_rfl
  have hne : ∀ w', (binOp .neq 47 .nilFunc .nilFunc).run Try.prog w' = .ok (.bool false) w' := fun w' => by kernel_rfl
  go_enter Try.func17, Try.ntmps17
  go_wp2_with fail
  refine (kindOk 51 22 62 w (by decide) (by decide) (by decide) (by decide)).mono ?_
  rintro e w1 ⟨rfl, rfl⟩
  go_wp2_with fail
  refine (ofR51 _).mono ?_
  rintro e w1 ⟨rfl, rfl⟩
  go_wp2_with fail
  refine (halfC _).mono ?_
  rintro e w2 ⟨rfl, hb2⟩
  go_wp2_with fail
  refine (wholeC _).mono ?_
  rintro e w3 ⟨rfl, hb3⟩
  go_wp2_with fail
  refine (clC51 a b _ ha hb).mono ?_
  rintro e w4 ⟨rfl, rfl⟩
  go_wp2
  go_ret2
  exact ⟨rfl, hb2.trans (hb3.mono hb2.size)⟩
end Go.Proofs.Ytmahjgaaahkakaa
