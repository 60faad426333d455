/- The program's Compute, operation by operation: contracts (CikD). -/
import Derived.Test.YtmahjgaaahkakaaCimR
namespace Go.Proofs.Ytmahjgaaahkakaa
open Go.RowKit
set_option linter.unusedVariables false

theorem imC52 (a b : Int) (w : World) (ha : In64 a) (hb : In64 b) :
    Calls Try.prog 17 #[.int .i64 52, .int .i64 a, .int .i64 b] w fun e w' => e = .returned (.tuple #[.int .i64 (cm52 a b), .int .i64 0]) ∧ Below w.heap.size w w' := by
  have hi1 : ∀ w', (Instr.index 48 (.agg halfA) (.int .i64 52)).run Try.prog w' = .ok .nilFunc w' := fun w' => by kernel_rfl
  have hi2 : ∀ w', (Instr.index 50 (.agg wholeA) (.int .i64 52)).run Try.prog w' = .ok (.func (.func 83) #[] #[]) w' := fun w' => by kernel_rfl
  have hne : ∀ w', (binOp .neq 47 .nilFunc .nilFunc).run Try.prog w' = .ok (.bool false) w' := fun w' => by kernel_rfl
  go_enter Try.func17, Try.ntmps17
  go_wp2_with fail
  refine (kindOk 52 22 62 w (by decide) (by decide) (by decide) (by decide)).mono ?_
  rintro e w1 ⟨rfl, rfl⟩
  go_wp2_with fail
  refine (ofR52 _).mono ?_
  rintro e w1 ⟨rfl, rfl⟩
  go_wp2_with fail
  refine (halfC _).mono ?_
  rintro e w2 ⟨rfl, hb2⟩
  go_wp2_with fail
  refine (wholeC _).mono ?_
  rintro e w3 ⟨rfl, hb3⟩
  go_wp2_with fail
  refine (clC52 a b _ ha hb).mono ?_
  rintro e w4 ⟨rfl, rfl⟩
  go_wp2
  go_ret2
  exact ⟨rfl, hb2.trans (hb3.mono hb2.size)⟩
theorem imC53 (a b : Int) (w : World) (ha : In64 a) (hb : In64 b) :
    Calls Try.prog 17 #[.int .i64 53, .int .i64 a, .int .i64 b] w fun e w' => e = .returned (.tuple #[.int .i64 (cm53 a b), .int .i64 0]) ∧ Below w.heap.size w w' := by
  have hi1 : ∀ w', (Instr.index 48 (.agg halfA) (.int .i64 53)).run Try.prog w' = .ok .nilFunc w' := fun w' => by kernel_rfl
  have hi2 : ∀ w', (Instr.index 50 (.agg wholeA) (.int .i64 53)).run Try.prog w' = .ok (.func (.func 84) #[] #[]) w' := fun w' => by kernel_rfl
  have hne : ∀ w', (binOp .neq 47 .nilFunc .nilFunc).run Try.prog w' = .ok (.bool false) w' := fun w' => by kernel_rfl
  go_enter Try.func17, Try.ntmps17
  go_wp2_with fail
  refine (kindOk 53 22 62 w (by decide) (by decide) (by decide) (by decide)).mono ?_
  rintro e w1 ⟨rfl, rfl⟩
  go_wp2_with fail
  refine (ofR53 _).mono ?_
  rintro e w1 ⟨rfl, rfl⟩
  go_wp2_with fail
  refine (halfC _).mono ?_
  rintro e w2 ⟨rfl, hb2⟩
  go_wp2_with fail
  refine (wholeC _).mono ?_
  rintro e w3 ⟨rfl, hb3⟩
  go_wp2_with fail
  refine (clC53 a b _ ha hb).mono ?_
  rintro e w4 ⟨rfl, rfl⟩
  go_wp2
  go_ret2
  exact ⟨rfl, hb2.trans (hb3.mono hb2.size)⟩
theorem imC54 (a b : Int) (w : World) (ha : In64 a) (hb : In64 b) :
    Calls Try.prog 17 #[.int .i64 54, .int .i64 a, .int .i64 b] w fun e w' => e = .returned (.tuple #[.int .i64 (cm54 a b), .int .i64 0]) ∧ Below w.heap.size w w' := by
  have hi1 : ∀ w', (Instr.index 48 (.agg halfA) (.int .i64 54)).run Try.prog w' = .ok .nilFunc w' := fun w' => by kernel_rfl
  have hi2 : ∀ w', (Instr.index 50 (.agg wholeA) (.int .i64 54)).run Try.prog w' = .ok (.func (.func 85) #[] #[]) w' := fun w' => by kernel_rfl
  have hne : ∀ w', (binOp .neq 47 .nilFunc .nilFunc).run Try.prog w' = .ok (.bool false) w' := fun w' => by kernel_rfl
  go_enter Try.func17, Try.ntmps17
  go_wp2_with fail
  refine (kindOk 54 22 62 w (by decide) (by decide) (by decide) (by decide)).mono ?_
  rintro e w1 ⟨rfl, rfl⟩
  go_wp2_with fail
  refine (ofR54 _).mono ?_
  rintro e w1 ⟨rfl, rfl⟩
  go_wp2_with fail
  refine (halfC _).mono ?_
  rintro e w2 ⟨rfl, hb2⟩
  go_wp2_with fail
  refine (wholeC _).mono ?_
  rintro e w3 ⟨rfl, hb3⟩
  go_wp2_with fail
  refine (clC54 a b _ ha hb).mono ?_
  rintro e w4 ⟨rfl, rfl⟩
  go_wp2
  go_ret2
  exact ⟨rfl, hb2.trans (hb3.mono hb2.size)⟩
theorem imC55 (a b : Int) (w : World) (ha : In64 a) (hb : In64 b) :
    Calls Try.prog 17 #[.int .i64 55, .int .i64 a, .int .i64 b] w fun e w' => e = .returned (.tuple #[.int .i64 (cm55 a b), .int .i64 0]) ∧ Below w.heap.size w w' := by
  have hi1 : ∀ w', (Instr.index 48 (.agg halfA) (.int .i64 55)).run Try.prog w' = .ok .nilFunc w' := fun w' => by kernel_rfl
  have hi2 : ∀ w', (Instr.index 50 (.agg wholeA) (.int .i64 55)).run Try.prog w' = .ok (.func (.func 87) #[] #[]) w' := fun w' => by kernel_rfl
  have hne : ∀ w', (binOp .neq 47 .nilFunc .nilFunc).run Try.prog w' = .ok (.bool false) w' := fun w' => by kernel_rfl
  go_enter Try.func17, Try.ntmps17
  go_wp2_with fail
  refine (kindOk 55 22 62 w (by decide) (by decide) (by decide) (by decide)).mono ?_
  rintro e w1 ⟨rfl, rfl⟩
  go_wp2_with fail
  refine (ofR55 _).mono ?_
  rintro e w1 ⟨rfl, rfl⟩
  go_wp2_with fail
  refine (halfC _).mono ?_
  rintro e w2 ⟨rfl, hb2⟩
  go_wp2_with fail
  refine (wholeC _).mono ?_
  rintro e w3 ⟨rfl, hb3⟩
  go_wp2_with fail
  refine (clC55 a b _ ha hb).mono ?_
  rintro e w4 ⟨rfl, rfl⟩
  go_wp2
  go_ret2
  exact ⟨rfl, hb2.trans (hb3.mono hb2.size)⟩
theorem imC56 (a b : Int) (w : World) (ha : In64 a) (hb : In64 b) :
    Calls Try.prog 17 #[.int .i64 56, .int .i64 a, .int .i64 b] w fun e w' => e = .returned (.tuple #[.int .i64 (cm56 a b), .int .i64 0]) ∧ Below w.heap.size w w' := by
  have hi1 : ∀ w', (Instr.index 48 (.agg halfA) (.int .i64 56)).run Try.prog w' = .ok .nilFunc w' := fun w' => by kernel_rfl
  have hi2 : ∀ w', (Instr.index 50 (.agg wholeA) (.int .i64 56)).run Try.prog w' = .ok (.func (.func 88) #[] #[]) w' := fun w' => by kernel_rfl
  have hne : ∀ w', (binOp .neq 47 .nilFunc .nilFunc).run Try.prog w' = .ok (.bool false) w' := fun w' => by kernel_rfl
  go_enter Try.func17, Try.ntmps17
  go_wp2_with fail
  refine (kindOk 56 22 62 w (by decide) (by decide) (by decide) (by decide)).mono ?_
  rintro e w1 ⟨rfl, rfl⟩
  go_wp2_with fail
  refine (ofR56 _).mono ?_
  rintro e w1 ⟨rfl, rfl⟩
  go_wp2_with fail
  refine (halfC _).mono ?_
  rintro e w2 ⟨rfl, hb2⟩
  go_wp2_with fail
  refine (wholeC _).mono ?_
  rintro e w3 ⟨rfl, hb3⟩
  go_wp2_with fail
  refine (clC56 a b _ ha hb).mono ?_
  rintro e w4 ⟨rfl, rfl⟩
  go_wp2
  go_ret2
  exact ⟨rfl, hb2.trans (hb3.mono hb2.size)⟩
theorem imC57 (a b : Int) (w : World) (ha : In64 a) (hb : In64 b) :
    Calls Try.prog 17 #[.int .i64 57, .int .i64 a, .int .i64 b] w fun e w' => e = .returned (.tuple #[.int .i64 (cm57 a b), .int .i64 0]) ∧ Below w.heap.size w w' := by
  have hi1 : ∀ w', (Instr.index 48 (.agg halfA) (.int .i64 57)).run Try.prog w' = .ok .nilFunc w' := fun w' => by kernel_rfl
  have hi2 : ∀ w', (Instr.index 50 (.agg wholeA) (.int .i64 57)).run Try.prog w' = .ok (.func (.func 90) #[] #[]) w' := fun w' => by kernel_rfl
  have hne : ∀ w', (binOp .neq 47 .nilFunc .nilFunc).run Try.prog w' = .ok (.bool false) w' := fun w' => by kernel_rfl
  go_enter Try.func17, Try.ntmps17
  go_wp2_with fail
  refine (kindOk 57 22 62 w (by decide) (by decide) (by decide) (by decide)).mono ?_
  rintro e w1 ⟨rfl, rfl⟩
  go_wp2_with fail
  refine (ofR57 _).mono ?_
  rintro e w1 ⟨rfl, rfl⟩
  go_wp2_with fail
  refine (halfC _).mono ?_
  rintro e w2 ⟨rfl, hb2⟩
  go_wp2_with fail
  refine (wholeC _).mono ?_
  rintro e w3 ⟨rfl, hb3⟩
  go_wp2_with fail
  refine (clC57 a b _ ha hb).mono ?_
  rintro e w4 ⟨rfl, rfl⟩
  go_wp2
  go_ret2
  exact ⟨rfl, hb2.trans (hb3.mono hb2.size)⟩
theorem imC58 (a b : Int) (w : World) (ha : In64 a) (hb : In64 b) :
    Calls Try.prog 17 #[.int .i64 58, .int .i64 a, .int .i64 b] w fun e w' => e = .returned (.tuple #[.int .i64 (cm58 a b), .int .i64 0]) ∧ Below w.heap.size w w' := by
  have hi1 : ∀ w', (Instr.index 48 (.agg halfA) (.int .i64 58)).run Try.prog w' = .ok (.func (.func 61) #[] #[]) w' := fun w' => by kernel_rfl
  have hne : ∀ w', (binOp .neq 47 (.func (.func 61) #[] #[]) .nilFunc).run Try.prog w' = .ok (.bool true) w' := fun w' => by kernel_rfl
  go_enter Try.func17, Try.ntmps17
  go_wp2_with fail
  refine (kindOk 58 22 62 w (by decide) (by decide) (by decide) (by decide)).mono ?_
  rintro e w1 ⟨rfl, rfl⟩
  go_wp2_with fail
  refine (ofR58 _).mono ?_
  rintro e w1 ⟨rfl, rfl⟩
  go_wp2_with fail
  refine (halfC _).mono ?_
  rintro e w2 ⟨rfl, hb2⟩
  go_wp2_with fail
  refine (clC58 a b _ ha hb).mono ?_
  rintro e w4 ⟨rfl, rfl⟩
  go_wp2
  go_ret2
  exact ⟨rfl, hb2⟩
theorem imC59 (a b : Int) (w : World) (ha : In64 a) (hb : In64 b) :
    Calls Try.prog 17 #[.int .i64 59, .int .i64 a, .int .i64 b] w fun e w' => e = .returned (.tuple #[.int .i64 (cm59 a b), .int .i64 0]) ∧ Below w.heap.size w w' := by
  have hi1 : ∀ w', (Instr.index 48 (.agg halfA) (.int .i64 59)).run Try.prog w' = .ok (.func (.func 62) #[] #[]) w' := fun w' => by kernel_rfl
  have hne : ∀ w', (binOp .neq 47 (.func (.func 62) #[] #[]) .nilFunc).run Try.prog w' = .ok (.bool true) w' := fun w' => by kernel_rfl
  go_enter Try.func17, Try.ntmps17
  go_wp2_with fail
  refine (kindOk 59 22 62 w (by decide) (by decide) (by decide) (by decide)).mono ?_
  rintro e w1 ⟨rfl, rfl⟩
  go_wp2_with fail
  refine (ofR59 _).mono ?_
  rintro e w1 ⟨rfl, rfl⟩
  go_wp2_with fail
  refine (halfC _).mono ?_
  rintro e w2 ⟨rfl, hb2⟩
  go_wp2_with fail
  refine (clC59 a b _ ha hb).mono ?_
  rintro e w4 ⟨rfl, rfl⟩
  go_wp2
  go_ret2
  exact ⟨rfl, hb2⟩
theorem imC60 (a b : Int) (w : World) (ha : In64 a) (hb : In64 b) :
    Calls Try.prog 17 #[.int .i64 60, .int .i64 a, .int .i64 b] w fun e w' => e = .returned (.tuple #[.int .i64 (cm60 a b), .int .i64 0]) ∧ Below w.heap.size w w' := by
  have hi1 : ∀ w', (Instr.index 48 (.agg halfA) (.int .i64 60)).run Try.prog w' = .ok (.func (.func 64) #[] #[]) w' := fun w' => by kernel_rfl
  have hne : ∀ w', (binOp .neq 47 (.func (.func 64) #[] #[]) .nilFunc).run Try.prog w' = .ok (.bool true) w' := fun w' => by kernel_rfl
  go_enter Try.func17, Try.ntmps17
  go_wp2_with fail
  refine (kindOk 60 22 62 w (by decide) (by decide) (by decide) (by decide)).mono ?_
  rintro e w1 ⟨rfl, rfl⟩
  go_wp2_with fail
  refine (ofR60 _).mono ?_
  rintro e w1 ⟨rfl, rfl⟩
  go_wp2_with fail
  refine (halfC _).mono ?_
  rintro e w2 ⟨rfl, hb2⟩
  go_wp2_with fail
  refine (clC60 a b _ ha hb).mono ?_
  rintro e w4 ⟨rfl, rfl⟩
  go_wp2
  go_ret2
  exact ⟨rfl, hb2⟩
theorem imC61 (a b : Int) (w : World) (ha : In64 a) (hb : In64 b) :
    Calls Try.prog 17 #[.int .i64 61, .int .i64 a, .int .i64 b] w fun e w' => e = .returned (.tuple #[.int .i64 (cm61 a b), .int .i64 0]) ∧ Below w.heap.size w w' := by
  have hi1 : ∀ w', (Instr.index 48 (.agg halfA) (.int .i64 61)).run Try.prog w' = .ok (.func (.func 66) #[] #[]) w' := fun w' => by kernel_rfl
  have hne : ∀ w', (binOp .neq 47 (.func (.func 66) #[] #[]) .nilFunc).run Try.prog w' = .ok (.bool true) w' := fun w' => by kernel_rfl
  go_enter Try.func17, Try.ntmps17
  go_wp2_with fail
  refine (kindOk 61 22 62 w (by decide) (by decide) (by decide) (by decide)).mono ?_
  rintro e w1 ⟨rfl, rfl⟩
  go_wp2_with fail
  refine (ofR61 _).mono ?_
  rintro e w1 ⟨rfl, rfl⟩
  go_wp2_with fail
  refine (halfC _).mono ?_
  rintro e w2 ⟨rfl, hb2⟩
  go_wp2_with fail
  refine (clC61 a b _ ha hb).mono ?_
  rintro e w4 ⟨rfl, rfl⟩
  go_wp2
  go_ret2
  exact ⟨rfl, hb2⟩
theorem imC62 (a b : Int) (w : World) (ha : In64 a) (hb : In64 b) :
    Calls Try.prog 17 #[.int .i64 62, .int .i64 a, .int .i64 b] w fun e w' => e = .returned (.tuple #[.int .i64 (cm62 a b), .int .i64 0]) ∧ Below w.heap.size w w' := by
  have hi1 : ∀ w', (Instr.index 48 (.agg halfA) (.int .i64 62)).run Try.prog w' = .ok (.func (.func 68) #[] #[]) w' := fun w' => by kernel_rfl
  have hne : ∀ w', (binOp .neq 47 (.func (.func 68) #[] #[]) .nilFunc).run Try.prog w' = .ok (.bool true) w' := fun w' => by kernel_rfl
  go_enter Try.func17, Try.ntmps17
  go_wp2_with fail
  refine (kindOk 62 22 62 w (by decide) (by decide) (by decide) (by decide)).mono ?_
  rintro e w1 ⟨rfl, rfl⟩
  go_wp2_with fail
  refine (ofR62 _).mono ?_
  rintro e w1 ⟨rfl, rfl⟩
  go_wp2_with fail
  refine (halfC _).mono ?_
  rintro e w2 ⟨rfl, hb2⟩
  go_wp2_with fail
  refine (clC62 a b _ ha hb).mono ?_
  rintro e w4 ⟨rfl, rfl⟩
  go_wp2
  go_ret2
  exact ⟨rfl, hb2⟩
end Go.Proofs.Ytmahjgaaahkakaa
