/- The fields of an instruction: contracts. -/
import Derived.Test.YtigdhbhjknpojaaDoorAlwC
import Derived.Laws.StructEq
namespace Go.Proofs.YtigdhbhjknpojaaDoor
open Go.RowKit
set_option linter.unusedVariables false

theorem told1 (w : World) :
    Calls Tryd.prog 40 #[.int .i64 1] w fun e w' => e = .returned (.string { data := #[100, 105] }) ∧ w' = w := by
  go_enter Tryd.func40, Tryd.ntmps40
  go_wp2
  go_ret
  exact ⟨rfl, rfl⟩
theorem told2 (w : World) :
    Calls Tryd.prog 40 #[.int .i64 2] w fun e w' => e = .returned (.string { data := #[100, 105] }) ∧ w' = w := by
  go_enter Tryd.func40, Tryd.ntmps40
  go_wp2
  go_ret
  exact ⟨rfl, rfl⟩
theorem told3 (w : World) :
    Calls Tryd.prog 40 #[.int .i64 3] w fun e w' => e = .returned (.string { data := #[100, 49, 105] }) ∧ w' = w := by
  go_enter Tryd.func40, Tryd.ntmps40
  go_wp2
  go_ret
  exact ⟨rfl, rfl⟩
theorem told4 (w : World) :
    Calls Tryd.prog 40 #[.int .i64 4] w fun e w' => e = .returned (.string { data := #[49, 50, 105] }) ∧ w' = w := by
  go_enter Tryd.func40, Tryd.ntmps40
  go_wp2
  go_ret
  exact ⟨rfl, rfl⟩
theorem told5 (w : World) :
    Calls Tryd.prog 40 #[.int .i64 5] w fun e w' => e = .returned (.string { data := #[50, 49, 105] }) ∧ w' = w := by
  go_enter Tryd.func40, Tryd.ntmps40
  go_wp2
  go_ret
  exact ⟨rfl, rfl⟩
theorem told6 (w : World) :
    Calls Tryd.prog 40 #[.int .i64 6] w fun e w' => e = .returned (.string { data := #[100, 49, 105] }) ∧ w' = w := by
  go_enter Tryd.func40, Tryd.ntmps40
  go_wp2
  go_ret
  exact ⟨rfl, rfl⟩
theorem told7 (w : World) :
    Calls Tryd.prog 40 #[.int .i64 7] w fun e w' => e = .returned (.string { data := #[100, 49, 105] }) ∧ w' = w := by
  go_enter Tryd.func40, Tryd.ntmps40
  go_wp2
  go_ret
  exact ⟨rfl, rfl⟩
theorem told8 (w : World) :
    Calls Tryd.prog 40 #[.int .i64 8] w fun e w' => e = .returned (.string { data := #[100, 49, 50] }) ∧ w' = w := by
  go_enter Tryd.func40, Tryd.ntmps40
  go_wp2
  go_ret
  exact ⟨rfl, rfl⟩
theorem told9 (w : World) :
    Calls Tryd.prog 40 #[.int .i64 9] w fun e w' => e = .returned (.string { data := #[] }) ∧ w' = w := by
  go_enter Tryd.func40, Tryd.ntmps40
  go_wp2
  go_ret
  exact ⟨rfl, rfl⟩
theorem fld100 (b : Nat) (w : World) :
    Calls Tryd.prog 41 #[.pointer (some ⟨b, 0, none⟩), .int .u8 100] w fun e w' => e = .returned (.pointer (some ⟨b, 1, none⟩)) ∧ w' = w := by
  go_enter Tryd.func41, Tryd.ntmps41
  go_wp2
  go_ret
  exact ⟨rfl, rfl⟩
theorem fld49 (b : Nat) (w : World) :
    Calls Tryd.prog 41 #[.pointer (some ⟨b, 0, none⟩), .int .u8 49] w fun e w' => e = .returned (.pointer (some ⟨b, 2, none⟩)) ∧ w' = w := by
  go_enter Tryd.func41, Tryd.ntmps41
  go_wp2
  go_ret
  exact ⟨rfl, rfl⟩
theorem fld50 (b : Nat) (w : World) :
    Calls Tryd.prog 41 #[.pointer (some ⟨b, 0, none⟩), .int .u8 50] w fun e w' => e = .returned (.pointer (some ⟨b, 3, none⟩)) ∧ w' = w := by
  go_enter Tryd.func41, Tryd.ntmps41
  go_wp2
  go_ret
  exact ⟨rfl, rfl⟩
theorem fld105 (b : Nat) (w : World) :
    Calls Tryd.prog 41 #[.pointer (some ⟨b, 0, none⟩), .int .u8 105] w fun e w' => e = .returned (.pointer (some ⟨b, 4, none⟩)) ∧ w' = w := by
  go_enter Tryd.func41, Tryd.ntmps41
  go_wp2
  go_ret
  exact ⟨rfl, rfl⟩
end Go.Proofs.YtigdhbhjknpojaaDoor
