/- The program's Compute, operation by operation: contracts (CikB). -/
import Derived.Test.YtmahjgaaahkakaaCimR
namespace Go.Proofs.Ytmahjgaaahkakaa
open Go.RowKit
set_option linter.unusedVariables false

theorem imC32 (a b : Int) (w : World) (ha : In64 a) (hb : In64 b) :
    Calls Try.prog 17 #[.int .i64 32, .int .i64 a, .int .i64 b] w fun e w' => e = .returned (.tuple #[.int .i64 (cm32 a b), .int .i64 0]) ∧ Below w.heap.size w w' := by
  have hi1 : ∀ w', (Instr.index 48 (.agg halfA) (.int .i64 32)).run Try.prog w' = .ok .nilFunc w' := fun w' => by kernel_rfl
  have hi2 : ∀ w', (Instr.index 50 (.agg wholeA) (.int .i64 32)).run Try.prog w' = .ok (.func (.func 71) #[] #[]) w' := fun w' => by kernel_rfl
  have hne : ∀ w', (binOp .neq 47 .nilFunc .nilFunc).run Try.prog w' = .ok (.bool false) w' := fun w' => by kernel_rfl
  go_enter Try.func17, Try.ntmps17
  go_wp2_with fail
  refine (kindOk 32 22 62 w (by decide) (by decide) (by decide) (by decide)).mono ?_
  rintro e w1 ⟨rfl, rfl⟩
  go_wp2_with fail
  refine (ofR32 _).mono ?_
  rintro e w1 ⟨rfl, rfl⟩
  go_wp2_with fail
  refine (halfC _).mono ?_
  rintro e w2 ⟨rfl, hb2⟩
  go_wp2_with fail
  refine (wholeC _).mono ?_
  rintro e w3 ⟨rfl, hb3⟩
  go_wp2_with fail
  refine (clC32 a b _ ha hb).mono ?_
  rintro e w4 ⟨rfl, rfl⟩
  go_wp2
  go_ret2
  exact ⟨rfl, hb2.trans (hb3.mono hb2.size)⟩
theorem imC33 (a b : Int) (w : World) (ha : In64 a) (hb : In64 b) :
    Calls Try.prog 17 #[.int .i64 33, .int .i64 a, .int .i64 b] w fun e w' => e = .returned (.tuple #[.int .i64 (cm33 a b), .int .i64 0]) ∧ Below w.heap.size w w' := by
  have hi1 : ∀ w', (Instr.index 48 (.agg halfA) (.int .i64 33)).run Try.prog w' = .ok .nilFunc w' := fun w' => by kernel_rfl
  have hi2 : ∀ w', (Instr.index 50 (.agg wholeA) (.int .i64 33)).run Try.prog w' = .ok (.func (.func 72) #[] #[]) w' := fun w' => by kernel_rfl
  have hne : ∀ w', (binOp .neq 47 .nilFunc .nilFunc).run Try.prog w' = .ok (.bool false) w' := fun w' => by kernel_rfl
  go_enter Try.func17, Try.ntmps17
  go_wp2_with fail
  refine (kindOk 33 22 62 w (by decide) (by decide) (by decide) (by decide)).mono ?_
  rintro e w1 ⟨rfl, rfl⟩
  go_wp2_with fail
  refine (ofR33 _).mono ?_
  rintro e w1 ⟨rfl, rfl⟩
  go_wp2_with fail
  refine (halfC _).mono ?_
  rintro e w2 ⟨rfl, hb2⟩
  go_wp2_with fail
  refine (wholeC _).mono ?_
  rintro e w3 ⟨rfl, hb3⟩
  go_wp2_with fail
  refine (clC33 a b _ ha hb).mono ?_
  rintro e w4 ⟨rfl, rfl⟩
  go_wp2
  go_ret2
  exact ⟨rfl, hb2.trans (hb3.mono hb2.size)⟩
theorem imC34 (a b : Int) (w : World) (ha : In64 a) (hb : In64 b) :
    Calls Try.prog 17 #[.int .i64 34, .int .i64 a, .int .i64 b] w fun e w' => e = .returned (.tuple #[.int .i64 (cm34 a b), .int .i64 0]) ∧ Below w.heap.size w w' := by
  have hi1 : ∀ w', (Instr.index 48 (.agg halfA) (.int .i64 34)).run Try.prog w' = .ok .nilFunc w' := fun w' => by kernel_rfl
  have hi2 : ∀ w', (Instr.index 50 (.agg wholeA) (.int .i64 34)).run Try.prog w' = .ok (.func (.func 73) #[] #[]) w' := fun w' => by kernel_rfl
  have hne : ∀ w', (binOp .neq 47 .nilFunc .nilFunc).run Try.prog w' = .ok (.bool false) w' := fun w' => by kernel_rfl
  go_enter Try.func17, Try.ntmps17
  go_wp2_with fail
  refine (kindOk 34 22 62 w (by decide) (by decide) (by decide) (by decide)).mono ?_
  rintro e w1 ⟨rfl, rfl⟩
  go_wp2_with fail
  refine (ofR34 _).mono ?_
  rintro e w1 ⟨rfl, rfl⟩
  go_wp2_with fail
  refine (halfC _).mono ?_
  rintro e w2 ⟨rfl, hb2⟩
  go_wp2_with fail
  refine (wholeC _).mono ?_
  rintro e w3 ⟨rfl, hb3⟩
  go_wp2_with fail
  refine (clC34 a b _ ha hb).mono ?_
  rintro e w4 ⟨rfl, rfl⟩
  go_wp2
  go_ret2
  exact ⟨rfl, hb2.trans (hb3.mono hb2.size)⟩
theorem imC35 (a b : Int) (w : World) (ha : In64 a) (hb : In64 b) :
    Calls Try.prog 17 #[.int .i64 35, .int .i64 a, .int .i64 b] w fun e w' => e = .returned (.tuple #[.int .i64 (cm35 a b), .int .i64 0]) ∧ Below w.heap.size w w' := by
  have hi1 : ∀ w', (Instr.index 48 (.agg halfA) (.int .i64 35)).run Try.prog w' = .ok .nilFunc w' := fun w' => by kernel_rfl
  have hi2 : ∀ w', (Instr.index 50 (.agg wholeA) (.int .i64 35)).run Try.prog w' = .ok (.func (.func 75) #[] #[]) w' := fun w' => by kernel_rfl
  have hne : ∀ w', (binOp .neq 47 .nilFunc .nilFunc).run Try.prog w' = .ok (.bool false) w' := fun w' => by kernel_rfl
  go_enter Try.func17, Try.ntmps17
  go_wp2_with fail
  refine (kindOk 35 22 62 w (by decide) (by decide) (by decide) (by decide)).mono ?_
  rintro e w1 ⟨rfl, rfl⟩
  go_wp2_with fail
  refine (ofR35 _).mono ?_
  rintro e w1 ⟨rfl, rfl⟩
  go_wp2_with fail
  refine (halfC _).mono ?_
  rintro e w2 ⟨rfl, hb2⟩
  go_wp2_with fail
  refine (wholeC _).mono ?_
  rintro e w3 ⟨rfl, hb3⟩
  go_wp2_with fail
  refine (clC35 a b _ ha hb).mono ?_
  rintro e w4 ⟨rfl, rfl⟩
  go_wp2
  go_ret2
  exact ⟨rfl, hb2.trans (hb3.mono hb2.size)⟩
theorem imC36 (a b : Int) (w : World) (ha : In64 a) (hb : In64 b) :
    Calls Try.prog 17 #[.int .i64 36, .int .i64 a, .int .i64 b] w fun e w' => e = .returned (.tuple #[.int .i64 (cm36 a b), .int .i64 0]) ∧ Below w.heap.size w w' := by
  have hi1 : ∀ w', (Instr.index 48 (.agg halfA) (.int .i64 36)).run Try.prog w' = .ok .nilFunc w' := fun w' => by kernel_rfl
  have hi2 : ∀ w', (Instr.index 50 (.agg wholeA) (.int .i64 36)).run Try.prog w' = .ok (.func (.func 76) #[] #[]) w' := fun w' => by kernel_rfl
  have hne : ∀ w', (binOp .neq 47 .nilFunc .nilFunc).run Try.prog w' = .ok (.bool false) w' := fun w' => by kernel_rfl
  go_enter Try.func17, Try.ntmps17
  go_wp2_with fail
  refine (kindOk 36 22 62 w (by decide) (by decide) (by decide) (by decide)).mono ?_
  rintro e w1 ⟨rfl, rfl⟩
  go_wp2_with fail
  refine (ofR36 _).mono ?_
  rintro e w1 ⟨rfl, rfl⟩
  go_wp2_with fail
  refine (halfC _).mono ?_
  rintro e w2 ⟨rfl, hb2⟩
  go_wp2_with fail
  refine (wholeC _).mono ?_
  rintro e w3 ⟨rfl, hb3⟩
  go_wp2_with fail
  refine (clC36 a b _ ha hb).mono ?_
  rintro e w4 ⟨rfl, rfl⟩
  go_wp2
  go_ret2
  exact ⟨rfl, hb2.trans (hb3.mono hb2.size)⟩
theorem imC37 (a b : Int) (w : World) (ha : In64 a) (hb : In64 b) :
    Calls Try.prog 17 #[.int .i64 37, .int .i64 a, .int .i64 b] w fun e w' => e = .returned (.tuple #[.int .i64 (cm37 a b), .int .i64 0]) ∧ Below w.heap.size w w' := by
  have hi1 : ∀ w', (Instr.index 48 (.agg halfA) (.int .i64 37)).run Try.prog w' = .ok .nilFunc w' := fun w' => by kernel_rfl
  have hi2 : ∀ w', (Instr.index 50 (.agg wholeA) (.int .i64 37)).run Try.prog w' = .ok (.func (.func 77) #[] #[]) w' := fun w' => by kernel_rfl
  have hne : ∀ w', (binOp .neq 47 .nilFunc .nilFunc).run Try.prog w' = .ok (.bool false) w' := fun w' => by kernel_rfl
  go_enter Try.func17, Try.ntmps17
  go_wp2_with fail
  refine (kindOk 37 22 62 w (by decide) (by decide) (by decide) (by decide)).mono ?_
  rintro e w1 ⟨rfl, rfl⟩
  go_wp2_with fail
  refine (ofR37 _).mono ?_
  rintro e w1 ⟨rfl, rfl⟩
  go_wp2_with fail
  refine (halfC _).mono ?_
  rintro e w2 ⟨rfl, hb2⟩
  go_wp2_with fail
  refine (wholeC _).mono ?_
  rintro e w3 ⟨rfl, hb3⟩
  go_wp2_with fail
  refine (clC37 a b _ ha hb).mono ?_
  rintro e w4 ⟨rfl, rfl⟩
  go_wp2
  go_ret2
  exact ⟨rfl, hb2.trans (hb3.mono hb2.size)⟩
theorem imC38 (a b : Int) (w : World) (ha : In64 a) (hb : In64 b) :
    Calls Try.prog 17 #[.int .i64 38, .int .i64 a, .int .i64 b] w fun e w' => e = .returned (.tuple #[.int .i64 (cm38 a b), .int .i64 0]) ∧ Below w.heap.size w w' := by
  have hi1 : ∀ w', (Instr.index 48 (.agg halfA) (.int .i64 38)).run Try.prog w' = .ok .nilFunc w' := fun w' => by kernel_rfl
  have hi2 : ∀ w', (Instr.index 50 (.agg wholeA) (.int .i64 38)).run Try.prog w' = .ok (.func (.func 78) #[] #[]) w' := fun w' => by kernel_rfl
  have hne : ∀ w', (binOp .neq 47 .nilFunc .nilFunc).run Try.prog w' = .ok (.bool false) w' := fun w' => by kernel_rfl
  go_enter Try.func17, Try.ntmps17
  go_wp2_with fail
  refine (kindOk 38 22 62 w (by decide) (by decide) (by decide) (by decide)).mono ?_
  rintro e w1 ⟨rfl, rfl⟩
  go_wp2_with fail
  refine (ofR38 _).mono ?_
  rintro e w1 ⟨rfl, rfl⟩
  go_wp2_with fail
  refine (halfC _).mono ?_
  rintro e w2 ⟨rfl, hb2⟩
  go_wp2_with fail
  refine (wholeC _).mono ?_
  rintro e w3 ⟨rfl, hb3⟩
  go_wp2_with fail
  refine (clC38 a b _ ha hb).mono ?_
  rintro e w4 ⟨rfl, rfl⟩
  go_wp2
  go_ret2
  exact ⟨rfl, hb2.trans (hb3.mono hb2.size)⟩
theorem imC39 (a b : Int) (w : World) (ha : In64 a) (hb : In64 b) :
    Calls Try.prog 17 #[.int .i64 39, .int .i64 a, .int .i64 b] w fun e w' => e = .returned (.tuple #[.int .i64 (cm39 a b), .int .i64 0]) ∧ Below w.heap.size w w' := by
  have hi1 : ∀ w', (Instr.index 48 (.agg halfA) (.int .i64 39)).run Try.prog w' = .ok .nilFunc w' := fun w' => by kernel_rfl
  have hi2 : ∀ w', (Instr.index 50 (.agg wholeA) (.int .i64 39)).run Try.prog w' = .ok (.func (.func 79) #[] #[]) w' := fun w' => by kernel_rfl
  have hne : ∀ w', (binOp .neq 47 .nilFunc .nilFunc).run Try.prog w' = .ok (.bool false) w' := fun w' => by kernel_rfl
  go_enter Try.func17, Try.ntmps17
  go_wp2_with fail
  refine (kindOk 39 22 62 w (by decide) (by decide) (by decide) (by decide)).mono ?_
  rintro e w1 ⟨rfl, rfl⟩
  go_wp2_with fail
  refine (ofR39 _).mono ?_
  rintro e w1 ⟨rfl, rfl⟩
  go_wp2_with fail
  refine (halfC _).mono ?_
  rintro e w2 ⟨rfl, hb2⟩
  go_wp2_with fail
  refine (wholeC _).mono ?_
  rintro e w3 ⟨rfl, hb3⟩
  go_wp2_with fail
  refine (clC39 a b _ ha hb).mono ?_
  rintro e w4 ⟨rfl, rfl⟩
  go_wp2
  go_ret2
  exact ⟨rfl, hb2.trans (hb3.mono hb2.size)⟩
theorem imC40 (a b : Int) (w : World) (ha : In64 a) (hb : In64 b) :
    Calls Try.prog 17 #[.int .i64 40, .int .i64 a, .int .i64 b] w fun e w' => e = .returned (.tuple #[.int .i64 (cm40 a b), .int .i64 0]) ∧ Below w.heap.size w w' := by
  have hi1 : ∀ w', (Instr.index 48 (.agg halfA) (.int .i64 40)).run Try.prog w' = .ok .nilFunc w' := fun w' => by kernel_rfl
  have hi2 : ∀ w', (Instr.index 50 (.agg wholeA) (.int .i64 40)).run Try.prog w' = .ok (.func (.func 80) #[] #[]) w' := fun w' => by kernel_rfl
  have hne : ∀ w', (binOp .neq 47 .nilFunc .nilFunc).run Try.prog w' = .ok (.bool false) w' := fun w' => by kernel_rfl
  go_enter Try.func17, Try.ntmps17
  go_wp2_with fail
  refine (kindOk 40 22 62 w (by decide) (by decide) (by decide) (by decide)).mono ?_
  rintro e w1 ⟨rfl, rfl⟩
  go_wp2_with fail
  refine (ofR40 _).mono ?_
  rintro e w1 ⟨rfl, rfl⟩
  go_wp2_with fail
  refine (halfC _).mono ?_
  rintro e w2 ⟨rfl, hb2⟩
  go_wp2_with fail
  refine (wholeC _).mono ?_
  rintro e w3 ⟨rfl, hb3⟩
  go_wp2_with fail
  refine (clC40 a b _ ha hb).mono ?_
  rintro e w4 ⟨rfl, rfl⟩
  go_wp2
  go_ret2
  exact ⟨rfl, hb2.trans (hb3.mono hb2.size)⟩
theorem imC41 (a b : Int) (w : World) (ha : In64 a) (hb : In64 b) :
    Calls Try.prog 17 #[.int .i64 41, .int .i64 a, .int .i64 b] w fun e w' => e = .returned (.tuple #[.int .i64 (cm45 a b), .int .i64 0]) ∧ Below w.heap.size w w' := by
  have hi1 : ∀ w', (Instr.index 48 (.agg halfA) (.int .i64 45)).run Try.prog w' = .ok (.func (.func 55) #[] #[]) w' := fun w' => by kernel_rfl
  have hne : ∀ w', (binOp .neq 47 (.func (.func 55) #[] #[]) .nilFunc).run Try.prog w' = .ok (.bool true) w' := fun w' => by kernel_rfl
  go_enter Try.func17, Try.ntmps17
  go_wp2_with fail
  refine (kindOk 41 22 62 w (by decide) (by decide) (by decide) (by decide)).mono ?_
  rintro e w1 ⟨rfl, rfl⟩
  go_wp2_with fail
  refine (ofR41 _).mono ?_
  rintro e w1 ⟨rfl, rfl⟩
  go_wp2_with fail
  refine (halfC _).mono ?_
  rintro e w2 ⟨rfl, hb2⟩
  go_wp2_with fail
  refine (clC45 a b _ ha hb).mono ?_
  rintro e w4 ⟨rfl, rfl⟩
  go_wp2
  go_ret2
  exact ⟨rfl, hb2⟩
end Go.Proofs.Ytmahjgaaahkakaa
