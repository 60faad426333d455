/- Which operation of registers an operation with a number is: contracts. -/
import Derived.Test.YtmahjgaaahkakaaCimA
import Derived.Test.YtmahjgaaahkakaaCimB
namespace Go.Proofs.Ytmahjgaaahkakaa
open Go.RowKit
set_option linter.unusedVariables false

theorem ofR22 (w : World) :
    Calls Try.prog 37 #[.int .i64 22] w fun e w' => e = .returned (.int .i64 31) ∧ w' = w := by
  go_enter Try.func37, Try.ntmps37
  go_wp2
  go_ret
  exact ⟨rfl, rfl⟩
theorem ofR23 (w : World) :
    Calls Try.prog 37 #[.int .i64 23] w fun e w' => e = .returned (.int .i64 34) ∧ w' = w := by
  go_enter Try.func37, Try.ntmps37
  go_wp2
  go_ret
  exact ⟨rfl, rfl⟩
theorem ofR24 (w : World) :
    Calls Try.prog 37 #[.int .i64 24] w fun e w' => e = .returned (.int .i64 35) ∧ w' = w := by
  go_enter Try.func37, Try.ntmps37
  go_wp2
  go_ret
  exact ⟨rfl, rfl⟩
theorem ofR25 (w : World) :
    Calls Try.prog 37 #[.int .i64 25] w fun e w' => e = .returned (.int .i64 36) ∧ w' = w := by
  go_enter Try.func37, Try.ntmps37
  go_wp2
  go_ret
  exact ⟨rfl, rfl⟩
theorem ofR26 (w : World) :
    Calls Try.prog 37 #[.int .i64 26] w fun e w' => e = .returned (.int .i64 39) ∧ w' = w := by
  go_enter Try.func37, Try.ntmps37
  go_wp2
  go_ret
  exact ⟨rfl, rfl⟩
theorem ofR27 (w : World) :
    Calls Try.prog 37 #[.int .i64 27] w fun e w' => e = .returned (.int .i64 40) ∧ w' = w := by
  go_enter Try.func37, Try.ntmps37
  go_wp2
  go_ret
  exact ⟨rfl, rfl⟩
theorem ofR28 (w : World) :
    Calls Try.prog 37 #[.int .i64 28] w fun e w' => e = .returned (.int .i64 33) ∧ w' = w := by
  go_enter Try.func37, Try.ntmps37
  go_wp2
  go_ret
  exact ⟨rfl, rfl⟩
theorem ofR29 (w : World) :
    Calls Try.prog 37 #[.int .i64 29] w fun e w' => e = .returned (.int .i64 37) ∧ w' = w := by
  go_enter Try.func37, Try.ntmps37
  go_wp2
  go_ret
  exact ⟨rfl, rfl⟩
theorem ofR30 (w : World) :
    Calls Try.prog 37 #[.int .i64 30] w fun e w' => e = .returned (.int .i64 38) ∧ w' = w := by
  go_enter Try.func37, Try.ntmps37
  go_wp2
  go_ret
  exact ⟨rfl, rfl⟩
theorem ofR31 (w : World) :
    Calls Try.prog 37 #[.int .i64 31] w fun e w' => e = .returned (.int .i64 31) ∧ w' = w := by
  go_enter Try.func37, Try.ntmps37
  go_wp2
  go_ret
  exact ⟨rfl, rfl⟩
theorem ofR32 (w : World) :
    Calls Try.prog 37 #[.int .i64 32] w fun e w' => e = .returned (.int .i64 32) ∧ w' = w := by
  go_enter Try.func37, Try.ntmps37
  go_wp2
  go_ret
  exact ⟨rfl, rfl⟩
theorem ofR33 (w : World) :
    Calls Try.prog 37 #[.int .i64 33] w fun e w' => e = .returned (.int .i64 33) ∧ w' = w := by
  go_enter Try.func37, Try.ntmps37
  go_wp2
  go_ret
  exact ⟨rfl, rfl⟩
theorem ofR34 (w : World) :
    Calls Try.prog 37 #[.int .i64 34] w fun e w' => e = .returned (.int .i64 34) ∧ w' = w := by
  go_enter Try.func37, Try.ntmps37
  go_wp2
  go_ret
  exact ⟨rfl, rfl⟩
theorem ofR35 (w : World) :
    Calls Try.prog 37 #[.int .i64 35] w fun e w' => e = .returned (.int .i64 35) ∧ w' = w := by
  go_enter Try.func37, Try.ntmps37
  go_wp2
  go_ret
  exact ⟨rfl, rfl⟩
theorem ofR36 (w : World) :
    Calls Try.prog 37 #[.int .i64 36] w fun e w' => e = .returned (.int .i64 36) ∧ w' = w := by
  go_enter Try.func37, Try.ntmps37
  go_wp2
  go_ret
  exact ⟨rfl, rfl⟩
theorem ofR37 (w : World) :
    Calls Try.prog 37 #[.int .i64 37] w fun e w' => e = .returned (.int .i64 37) ∧ w' = w := by
  go_enter Try.func37, Try.ntmps37
  go_wp2
  go_ret
  exact ⟨rfl, rfl⟩
theorem ofR38 (w : World) :
    Calls Try.prog 37 #[.int .i64 38] w fun e w' => e = .returned (.int .i64 38) ∧ w' = w := by
  go_enter Try.func37, Try.ntmps37
  go_wp2
  go_ret
  exact ⟨rfl, rfl⟩
theorem ofR39 (w : World) :
    Calls Try.prog 37 #[.int .i64 39] w fun e w' => e = .returned (.int .i64 39) ∧ w' = w := by
  go_enter Try.func37, Try.ntmps37
  go_wp2
  go_ret
  exact ⟨rfl, rfl⟩
theorem ofR40 (w : World) :
    Calls Try.prog 37 #[.int .i64 40] w fun e w' => e = .returned (.int .i64 40) ∧ w' = w := by
  go_enter Try.func37, Try.ntmps37
  go_wp2
  go_ret
  exact ⟨rfl, rfl⟩
theorem ofR41 (w : World) :
    Calls Try.prog 37 #[.int .i64 41] w fun e w' => e = .returned (.int .i64 45) ∧ w' = w := by
  go_enter Try.func37, Try.ntmps37
  go_wp2
  go_ret
  exact ⟨rfl, rfl⟩
theorem ofR42 (w : World) :
    Calls Try.prog 37 #[.int .i64 42] w fun e w' => e = .returned (.int .i64 47) ∧ w' = w := by
  go_enter Try.func37, Try.ntmps37
  go_wp2
  go_ret
  exact ⟨rfl, rfl⟩
theorem ofR43 (w : World) :
    Calls Try.prog 37 #[.int .i64 43] w fun e w' => e = .returned (.int .i64 48) ∧ w' = w := by
  go_enter Try.func37, Try.ntmps37
  go_wp2
  go_ret
  exact ⟨rfl, rfl⟩
theorem ofR44 (w : World) :
    Calls Try.prog 37 #[.int .i64 44] w fun e w' => e = .returned (.int .i64 49) ∧ w' = w := by
  go_enter Try.func37, Try.ntmps37
  go_wp2
  go_ret
  exact ⟨rfl, rfl⟩
theorem ofR45 (w : World) :
    Calls Try.prog 37 #[.int .i64 45] w fun e w' => e = .returned (.int .i64 45) ∧ w' = w := by
  go_enter Try.func37, Try.ntmps37
  go_wp2
  go_ret
  exact ⟨rfl, rfl⟩
theorem ofR46 (w : World) :
    Calls Try.prog 37 #[.int .i64 46] w fun e w' => e = .returned (.int .i64 46) ∧ w' = w := by
  go_enter Try.func37, Try.ntmps37
  go_wp2
  go_ret
  exact ⟨rfl, rfl⟩
theorem ofR47 (w : World) :
    Calls Try.prog 37 #[.int .i64 47] w fun e w' => e = .returned (.int .i64 47) ∧ w' = w := by
  go_enter Try.func37, Try.ntmps37
  go_wp2
  go_ret
  exact ⟨rfl, rfl⟩
theorem ofR48 (w : World) :
    Calls Try.prog 37 #[.int .i64 48] w fun e w' => e = .returned (.int .i64 48) ∧ w' = w := by
  go_enter Try.func37, Try.ntmps37
  go_wp2
  go_ret
  exact ⟨rfl, rfl⟩
theorem ofR49 (w : World) :
    Calls Try.prog 37 #[.int .i64 49] w fun e w' => e = .returned (.int .i64 49) ∧ w' = w := by
  go_enter Try.func37, Try.ntmps37
  go_wp2
  go_ret
  exact ⟨rfl, rfl⟩
theorem ofR50 (w : World) :
    Calls Try.prog 37 #[.int .i64 50] w fun e w' => e = .returned (.int .i64 50) ∧ w' = w := by
  go_enter Try.func37, Try.ntmps37
  go_wp2
  go_ret
  exact ⟨rfl, rfl⟩
theorem ofR51 (w : World) :
    Calls Try.prog 37 #[.int .i64 51] w fun e w' => e = .returned (.int .i64 51) ∧ w' = w := by
  go_enter Try.func37, Try.ntmps37
  go_wp2
  go_ret
  exact ⟨rfl, rfl⟩
theorem ofR52 (w : World) :
    Calls Try.prog 37 #[.int .i64 52] w fun e w' => e = .returned (.int .i64 52) ∧ w' = w := by
  go_enter Try.func37, Try.ntmps37
  go_wp2
  go_ret
  exact ⟨rfl, rfl⟩
theorem ofR53 (w : World) :
    Calls Try.prog 37 #[.int .i64 53] w fun e w' => e = .returned (.int .i64 53) ∧ w' = w := by
  go_enter Try.func37, Try.ntmps37
  go_wp2
  go_ret
  exact ⟨rfl, rfl⟩
theorem ofR54 (w : World) :
    Calls Try.prog 37 #[.int .i64 54] w fun e w' => e = .returned (.int .i64 54) ∧ w' = w := by
  go_enter Try.func37, Try.ntmps37
  go_wp2
  go_ret
  exact ⟨rfl, rfl⟩
theorem ofR55 (w : World) :
    Calls Try.prog 37 #[.int .i64 55] w fun e w' => e = .returned (.int .i64 55) ∧ w' = w := by
  go_enter Try.func37, Try.ntmps37
  go_wp2
  go_ret
  exact ⟨rfl, rfl⟩
theorem ofR56 (w : World) :
    Calls Try.prog 37 #[.int .i64 56] w fun e w' => e = .returned (.int .i64 56) ∧ w' = w := by
  go_enter Try.func37, Try.ntmps37
  go_wp2
  go_ret
  exact ⟨rfl, rfl⟩
theorem ofR57 (w : World) :
    Calls Try.prog 37 #[.int .i64 57] w fun e w' => e = .returned (.int .i64 57) ∧ w' = w := by
  go_enter Try.func37, Try.ntmps37
  go_wp2
  go_ret
  exact ⟨rfl, rfl⟩
theorem ofR58 (w : World) :
    Calls Try.prog 37 #[.int .i64 58] w fun e w' => e = .returned (.int .i64 58) ∧ w' = w := by
  go_enter Try.func37, Try.ntmps37
  go_wp2
  go_ret
  exact ⟨rfl, rfl⟩
theorem ofR59 (w : World) :
    Calls Try.prog 37 #[.int .i64 59] w fun e w' => e = .returned (.int .i64 59) ∧ w' = w := by
  go_enter Try.func37, Try.ntmps37
  go_wp2
  go_ret
  exact ⟨rfl, rfl⟩
theorem ofR60 (w : World) :
    Calls Try.prog 37 #[.int .i64 60] w fun e w' => e = .returned (.int .i64 60) ∧ w' = w := by
  go_enter Try.func37, Try.ntmps37
  go_wp2
  go_ret
  exact ⟨rfl, rfl⟩
theorem ofR61 (w : World) :
    Calls Try.prog 37 #[.int .i64 61] w fun e w' => e = .returned (.int .i64 61) ∧ w' = w := by
  go_enter Try.func37, Try.ntmps37
  go_wp2
  go_ret
  exact ⟨rfl, rfl⟩
theorem ofR62 (w : World) :
    Calls Try.prog 37 #[.int .i64 62] w fun e w' => e = .returned (.int .i64 62) ∧ w' = w := by
  go_enter Try.func37, Try.ntmps37
  go_wp2
  go_ret
  exact ⟨rfl, rfl⟩
end Go.Proofs.Ytmahjgaaahkakaa
