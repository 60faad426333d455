/- The program's Compute, operation by operation: contracts (CikA). -/
import Derived.Test.YtmahjgaaahkakaaCimR
namespace Go.Proofs.Ytmahjgaaahkakaa
open Go.RowKit
set_option linter.unusedVariables false

theorem imC22 (a b : Int) (w : World) (ha : In64 a) (hb : In64 b) :
    Calls Try.prog 17 #[.int .i64 22, .int .i64 a, .int .i64 b] w fun e w' => e = .returned (.tuple #[.int .i64 (cm31 a b), .int .i64 0]) ∧ Below w.heap.size w w' := by
  have hi1 : ∀ w', (Instr.index 48 (.agg halfA) (.int .i64 31)).run Try.prog w' = .ok .nilFunc w' := fun w' => by kernel_rfl
  have hi2 : ∀ w', (Instr.index 50 (.agg wholeA) (.int .i64 31)).run Try.prog w' = .ok (.func (.func 70) #[] #[]) w' := fun w' => by kernel_rfl
  have hne : ∀ w', (binOp .neq 47 .nilFunc .nilFunc).run Try.prog w' = .ok (.bool false) w' := fun w' => by kernel_rfl
  go_enter Try.func17, Try.ntmps17
  go_wp2_with fail
  refine (kindOk 22 22 62 w (by decide) (by decide) (by decide) (by decide)).mono ?_
  rintro e w1 ⟨rfl, rfl⟩
  go_wp2_with fail
  refine (ofR22 _).mono ?_
  rintro e w1 ⟨rfl, rfl⟩
  go_wp2_with fail
  refine (halfC _).mono ?_
  rintro e w2 ⟨rfl, hb2⟩
  go_wp2_with fail
  refine (wholeC _).mono ?_
  rintro e w3 ⟨rfl, hb3⟩
  go_wp2_with fail
  refine (clC31 a b _ ha hb).mono ?_
  rintro e w4 ⟨rfl, rfl⟩
  go_wp2
  go_ret2
  exact ⟨rfl, hb2.trans (hb3.mono hb2.size)⟩
theorem imC23 (a b : Int) (w : World) (ha : In64 a) (hb : In64 b) :
    Calls Try.prog 17 #[.int .i64 23, .int .i64 a, .int .i64 b] w fun e w' => e = .returned (.tuple #[.int .i64 (cm34 a b), .int .i64 0]) ∧ Below w.heap.size w w' := by
  have hi1 : ∀ w', (Instr.index 48 (.agg halfA) (.int .i64 34)).run Try.prog w' = .ok .nilFunc w' := fun w' => by kernel_rfl
  have hi2 : ∀ w', (Instr.index 50 (.agg wholeA) (.int .i64 34)).run Try.prog w' = .ok (.func (.func 73) #[] #[]) w' := fun w' => by kernel_rfl
  have hne : ∀ w', (binOp .neq 47 .nilFunc .nilFunc).run Try.prog w' = .ok (.bool false) w' := fun w' => by kernel_rfl
  go_enter Try.func17, Try.ntmps17
  go_wp2_with fail
  refine (kindOk 23 22 62 w (by decide) (by decide) (by decide) (by decide)).mono ?_
  rintro e w1 ⟨rfl, rfl⟩
  go_wp2_with fail
  refine (ofR23 _).mono ?_
  rintro e w1 ⟨rfl, rfl⟩
  go_wp2_with fail
  refine (halfC _).mono ?_
  rintro e w2 ⟨rfl, hb2⟩
  go_wp2_with fail
  refine (wholeC _).mono ?_
  rintro e w3 ⟨rfl, hb3⟩
  go_wp2_with fail
  refine (clC34 a b _ ha hb).mono ?_
  rintro e w4 ⟨rfl, rfl⟩
  go_wp2
  go_ret2
  exact ⟨rfl, hb2.trans (hb3.mono hb2.size)⟩
theorem imC24 (a b : Int) (w : World) (ha : In64 a) (hb : In64 b) :
    Calls Try.prog 17 #[.int .i64 24, .int .i64 a, .int .i64 b] w fun e w' => e = .returned (.tuple #[.int .i64 (cm35 a b), .int .i64 0]) ∧ Below w.heap.size w w' := by
  have hi1 : ∀ w', (Instr.index 48 (.agg halfA) (.int .i64 35)).run Try.prog w' = .ok .nilFunc w' := fun w' => by kernel_rfl
  have hi2 : ∀ w', (Instr.index 50 (.agg wholeA) (.int .i64 35)).run Try.prog w' = .ok (.func (.func 75) #[] #[]) w' := fun w' => by kernel_rfl
  have hne : ∀ w', (binOp .neq 47 .nilFunc .nilFunc).run Try.prog w' = .ok (.bool false) w' := fun w' => by kernel_rfl
  go_enter Try.func17, Try.ntmps17
  go_wp2_with fail
  refine (kindOk 24 22 62 w (by decide) (by decide) (by decide) (by decide)).mono ?_
  rintro e w1 ⟨rfl, rfl⟩
  go_wp2_with fail
  refine (ofR24 _).mono ?_
  rintro e w1 ⟨rfl, rfl⟩
  go_wp2_with fail
  refine (halfC _).mono ?_
  rintro e w2 ⟨rfl, hb2⟩
  go_wp2_with fail
  refine (wholeC _).mono ?_
  rintro e w3 ⟨rfl, hb3⟩
  go_wp2_with fail
  refine (clC35 a b _ ha hb).mono ?_
  rintro e w4 ⟨rfl, rfl⟩
  go_wp2
  go_ret2
  exact ⟨rfl, hb2.trans (hb3.mono hb2.size)⟩
theorem imC25 (a b : Int) (w : World) (ha : In64 a) (hb : In64 b) :
    Calls Try.prog 17 #[.int .i64 25, .int .i64 a, .int .i64 b] w fun e w' => e = .returned (.tuple #[.int .i64 (cm36 a b), .int .i64 0]) ∧ Below w.heap.size w w' := by
  have hi1 : ∀ w', (Instr.index 48 (.agg halfA) (.int .i64 36)).run Try.prog w' = .ok .nilFunc w' := fun w' => by kernel_rfl
  have hi2 : ∀ w', (Instr.index 50 (.agg wholeA) (.int .i64 36)).run Try.prog w' = .ok (.func (.func 76) #[] #[]) w' := fun w' => by kernel_rfl
  have hne : ∀ w', (binOp .neq 47 .nilFunc .nilFunc).run Try.prog w' = .ok (.bool false) w' := fun w' => by kernel_rfl
  go_enter Try.func17, Try.ntmps17
  go_wp2_with fail
  refine (kindOk 25 22 62 w (by decide) (by decide) (by decide) (by decide)).mono ?_
  rintro e w1 ⟨rfl, rfl⟩
  go_wp2_with fail
  refine (ofR25 _).mono ?_
  rintro e w1 ⟨rfl, rfl⟩
  go_wp2_with fail
  refine (halfC _).mono ?_
  rintro e w2 ⟨rfl, hb2⟩
  go_wp2_with fail
  refine (wholeC _).mono ?_
  rintro e w3 ⟨rfl, hb3⟩
  go_wp2_with fail
  refine (clC36 a b _ ha hb).mono ?_
  rintro e w4 ⟨rfl, rfl⟩
  go_wp2
  go_ret2
  exact ⟨rfl, hb2.trans (hb3.mono hb2.size)⟩
theorem imC26 (a b : Int) (w : World) (ha : In64 a) (hb : In64 b) :
    Calls Try.prog 17 #[.int .i64 26, .int .i64 a, .int .i64 b] w fun e w' => e = .returned (.tuple #[.int .i64 (cm39 a b), .int .i64 0]) ∧ Below w.heap.size w w' := by
  have hi1 : ∀ w', (Instr.index 48 (.agg halfA) (.int .i64 39)).run Try.prog w' = .ok .nilFunc w' := fun w' => by kernel_rfl
  have hi2 : ∀ w', (Instr.index 50 (.agg wholeA) (.int .i64 39)).run Try.prog w' = .ok (.func (.func 79) #[] #[]) w' := fun w' => by kernel_rfl
  have hne : ∀ w', (binOp .neq 47 .nilFunc .nilFunc).run Try.prog w' = .ok (.bool false) w' := fun w' => by kernel_rfl
  go_enter Try.func17, Try.ntmps17
  go_wp2_with fail
  refine (kindOk 26 22 62 w (by decide) (by decide) (by decide) (by decide)).mono ?_
  rintro e w1 ⟨rfl, rfl⟩
  go_wp2_with fail
  refine (ofR26 _).mono ?_
  rintro e w1 ⟨rfl, rfl⟩
  go_wp2_with fail
  refine (halfC _).mono ?_
  rintro e w2 ⟨rfl, hb2⟩
  go_wp2_with fail
  refine (wholeC _).mono ?_
  rintro e w3 ⟨rfl, hb3⟩
  go_wp2_with fail
  refine (clC39 a b _ ha hb).mono ?_
  rintro e w4 ⟨rfl, rfl⟩
  go_wp2
  go_ret2
  exact ⟨rfl, hb2.trans (hb3.mono hb2.size)⟩
theorem imC27 (a b : Int) (w : World) (ha : In64 a) (hb : In64 b) :
    Calls Try.prog 17 #[.int .i64 27, .int .i64 a, .int .i64 b] w fun e w' => e = .returned (.tuple #[.int .i64 (cm40 a b), .int .i64 0]) ∧ Below w.heap.size w w' := by
  have hi1 : ∀ w', (Instr.index 48 (.agg halfA) (.int .i64 40)).run Try.prog w' = .ok .nilFunc w' := fun w' => by kernel_rfl
  have hi2 : ∀ w', (Instr.index 50 (.agg wholeA) (.int .i64 40)).run Try.prog w' = .ok (.func (.func 80) #[] #[]) w' := fun w' => by kernel_rfl
  have hne : ∀ w', (binOp .neq 47 .nilFunc .nilFunc).run Try.prog w' = .ok (.bool false) w' := fun w' => by kernel_rfl
  go_enter Try.func17, Try.ntmps17
  go_wp2_with fail
  refine (kindOk 27 22 62 w (by decide) (by decide) (by decide) (by decide)).mono ?_
  rintro e w1 ⟨rfl, rfl⟩
  go_wp2_with fail
  refine (ofR27 _).mono ?_
  rintro e w1 ⟨rfl, rfl⟩
  go_wp2_with fail
  refine (halfC _).mono ?_
  rintro e w2 ⟨rfl, hb2⟩
  go_wp2_with fail
  refine (wholeC _).mono ?_
  rintro e w3 ⟨rfl, hb3⟩
  go_wp2_with fail
  refine (clC40 a b _ ha hb).mono ?_
  rintro e w4 ⟨rfl, rfl⟩
  go_wp2
  go_ret2
  exact ⟨rfl, hb2.trans (hb3.mono hb2.size)⟩
theorem imC28 (a b : Int) (w : World) (ha : In64 a) (hb : In64 b) :
    Calls Try.prog 17 #[.int .i64 28, .int .i64 a, .int .i64 b] w fun e w' => e = .returned (.tuple #[.int .i64 (cm33 a b), .int .i64 0]) ∧ Below w.heap.size w w' := by
  have hi1 : ∀ w', (Instr.index 48 (.agg halfA) (.int .i64 33)).run Try.prog w' = .ok .nilFunc w' := fun w' => by kernel_rfl
  have hi2 : ∀ w', (Instr.index 50 (.agg wholeA) (.int .i64 33)).run Try.prog w' = .ok (.func (.func 72) #[] #[]) w' := fun w' => by kernel_rfl
  have hne : ∀ w', (binOp .neq 47 .nilFunc .nilFunc).run Try.prog w' = .ok (.bool false) w' := fun w' => by kernel_rfl
  go_enter Try.func17, Try.ntmps17
  go_wp2_with fail
  refine (kindOk 28 22 62 w (by decide) (by decide) (by decide) (by decide)).mono ?_
  rintro e w1 ⟨rfl, rfl⟩
  go_wp2_with fail
  refine (ofR28 _).mono ?_
  rintro e w1 ⟨rfl, rfl⟩
  go_wp2_with fail
  refine (halfC _).mono ?_
  rintro e w2 ⟨rfl, hb2⟩
  go_wp2_with fail
  refine (wholeC _).mono ?_
  rintro e w3 ⟨rfl, hb3⟩
  go_wp2_with fail
  refine (clC33 a b _ ha hb).mono ?_
  rintro e w4 ⟨rfl, rfl⟩
  go_wp2
  go_ret2
  exact ⟨rfl, hb2.trans (hb3.mono hb2.size)⟩
theorem imC29 (a b : Int) (w : World) (ha : In64 a) (hb : In64 b) :
    Calls Try.prog 17 #[.int .i64 29, .int .i64 a, .int .i64 b] w fun e w' => e = .returned (.tuple #[.int .i64 (cm37 a b), .int .i64 0]) ∧ Below w.heap.size w w' := by
  have hi1 : ∀ w', (Instr.index 48 (.agg halfA) (.int .i64 37)).run Try.prog w' = .ok .nilFunc w' := fun w' => by kernel_rfl
  have hi2 : ∀ w', (Instr.index 50 (.agg wholeA) (.int .i64 37)).run Try.prog w' = .ok (.func (.func 77) #[] #[]) w' := fun w' => by kernel_rfl
  have hne : ∀ w', (binOp .neq 47 .nilFunc .nilFunc).run Try.prog w' = .ok (.bool false) w' := fun w' => by kernel_rfl
  go_enter Try.func17, Try.ntmps17
  go_wp2_with fail
  refine (kindOk 29 22 62 w (by decide) (by decide) (by decide) (by decide)).mono ?_
  rintro e w1 ⟨rfl, rfl⟩
  go_wp2_with fail
  refine (ofR29 _).mono ?_
  rintro e w1 ⟨rfl, rfl⟩
  go_wp2_with fail
  refine (halfC _).mono ?_
  rintro e w2 ⟨rfl, hb2⟩
  go_wp2_with fail
  refine (wholeC _).mono ?_
  rintro e w3 ⟨rfl, hb3⟩
  go_wp2_with fail
  refine (clC37 a b _ ha hb).mono ?_
  rintro e w4 ⟨rfl, rfl⟩
  go_wp2
  go_ret2
  exact ⟨rfl, hb2.trans (hb3.mono hb2.size)⟩
theorem imC30 (a b : Int) (w : World) (ha : In64 a) (hb : In64 b) :
    Calls Try.prog 17 #[.int .i64 30, .int .i64 a, .int .i64 b] w fun e w' => e = .returned (.tuple #[.int .i64 (cm38 a b), .int .i64 0]) ∧ Below w.heap.size w w' := by
  have hi1 : ∀ w', (Instr.index 48 (.agg halfA) (.int .i64 38)).run Try.prog w' = .ok .nilFunc w' := fun w' => by kernel_rfl
  have hi2 : ∀ w', (Instr.index 50 (.agg wholeA) (.int .i64 38)).run Try.prog w' = .ok (.func (.func 78) #[] #[]) w' := fun w' => by kernel_rfl
  have hne : ∀ w', (binOp .neq 47 .nilFunc .nilFunc).run Try.prog w' = .ok (.bool false) w' := fun w' => by kernel_rfl
  go_enter Try.func17, Try.ntmps17
  go_wp2_with fail
  refine (kindOk 30 22 62 w (by decide) (by decide) (by decide) (by decide)).mono ?_
  rintro e w1 ⟨rfl, rfl⟩
  go_wp2_with fail
  refine (ofR30 _).mono ?_
  rintro e w1 ⟨rfl, rfl⟩
  go_wp2_with fail
  refine (halfC _).mono ?_
  rintro e w2 ⟨rfl, hb2⟩
  go_wp2_with fail
  refine (wholeC _).mono ?_
  rintro e w3 ⟨rfl, hb3⟩
  go_wp2_with fail
  refine (clC38 a b _ ha hb).mono ?_
  rintro e w4 ⟨rfl, rfl⟩
  go_wp2
  go_ret2
  exact ⟨rfl, hb2.trans (hb3.mono hb2.size)⟩
theorem imC31 (a b : Int) (w : World) (ha : In64 a) (hb : In64 b) :
    Calls Try.prog 17 #[.int .i64 31, .int .i64 a, .int .i64 b] w fun e w' => e = .returned (.tuple #[.int .i64 (cm31 a b), .int .i64 0]) ∧ Below w.heap.size w w' := by
  have hi1 : ∀ w', (Instr.index 48 (.agg halfA) (.int .i64 31)).run Try.prog w' = .ok .nilFunc w' := fun w' => by kernel_rfl
  have hi2 : ∀ w', (Instr.index 50 (.agg wholeA) (.int .i64 31)).run Try.prog w' = .ok (.func (.func 70) #[] #[]) w' := fun w' => by kernel_rfl
  have hne : ∀ w', (binOp .neq 47 .nilFunc .nilFunc).run Try.prog w' = .ok (.bool false) w' := fun w' => by kernel_rfl
  go_enter Try.func17, Try.ntmps17
  go_wp2_with fail
  refine (kindOk 31 22 62 w (by decide) (by decide) (by decide) (by decide)).mono ?_
  rintro e w1 ⟨rfl, rfl⟩
  go_wp2_with fail
  refine (ofR31 _).mono ?_
  rintro e w1 ⟨rfl, rfl⟩
  go_wp2_with fail
  refine (halfC _).mono ?_
  rintro e w2 ⟨rfl, hb2⟩
  go_wp2_with fail
  refine (wholeC _).mono ?_
  rintro e w3 ⟨rfl, hb3⟩
  go_wp2_with fail
  refine (clC31 a b _ ha hb).mono ?_
  rintro e w4 ⟨rfl, rfl⟩
  go_wp2
  go_ret2
  exact ⟨rfl, hb2.trans (hb3.mono hb2.size)⟩
end Go.Proofs.Ytmahjgaaahkakaa
