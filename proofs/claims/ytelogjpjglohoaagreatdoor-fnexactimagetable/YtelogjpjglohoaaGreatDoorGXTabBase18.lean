/- May a field be a number? Contracts. The fields of an instruction: contracts. May an instruction stand so? The words. -/
import Derived.Test.YtelogjpjglohoaaGreatDoorGXTabBase14
import Derived.Test.YtelogjpjglohoaaGreatDoorGXTabBase15
import Derived.Test.YtelogjpjglohoaaGreatDoorGXTabBase16
import Derived.Test.YtelogjpjglohoaaGreatDoorGXTabBase17
import Derived.BigRegion
import Derived.Deep.RegionWith
import Derived.Laws.StructEq
namespace Go.Proofs.YtelogjpjglohoaaGreatDoor
open Go.RowKit
set_option linter.unusedVariables false

/-- May a form's number be v? -/
def okB (f v : Int) : Bool := takeF f (layF f v) == v
theorem okB_iff (f v : Int) (h1 : 0 ≤ f) (h9 : f ≤ 9) : okB f v = true ↔ okI f v := by
  unfold okB
  rw [beq_iff_eq]
  exact take_lay f v h1 h9
/-- May a register be v? -/
def regB (v : Int) : Bool := decide (0 ≤ v ∧ v ≤ 31)

end Go.Proofs.YtelogjpjglohoaaGreatDoor

namespace Go.Proofs.YtelogjpjglohoaaGreatDoor
open Go.RowKit
set_option linter.unusedVariables false

theorem told1 (w : World) :
    Calls Tryz.prog 145 #[.int .i64 1] w fun e w' => e = .returned (.string { data := #[100, 105] }) ∧ w' = w := by
  go_enter Tryz.func145, Tryz.ntmps145
  go_wp2
  go_ret
  exact ⟨rfl, rfl⟩
theorem told2 (w : World) :
    Calls Tryz.prog 145 #[.int .i64 2] w fun e w' => e = .returned (.string { data := #[100, 105] }) ∧ w' = w := by
  go_enter Tryz.func145, Tryz.ntmps145
  go_wp2
  go_ret
  exact ⟨rfl, rfl⟩
theorem told3 (w : World) :
    Calls Tryz.prog 145 #[.int .i64 3] w fun e w' => e = .returned (.string { data := #[100, 49, 105] }) ∧ w' = w := by
  go_enter Tryz.func145, Tryz.ntmps145
  go_wp2
  go_ret
  exact ⟨rfl, rfl⟩
theorem told4 (w : World) :
    Calls Tryz.prog 145 #[.int .i64 4] w fun e w' => e = .returned (.string { data := #[49, 50, 105] }) ∧ w' = w := by
  go_enter Tryz.func145, Tryz.ntmps145
  go_wp2
  go_ret
  exact ⟨rfl, rfl⟩
theorem told5 (w : World) :
    Calls Tryz.prog 145 #[.int .i64 5] w fun e w' => e = .returned (.string { data := #[50, 49, 105] }) ∧ w' = w := by
  go_enter Tryz.func145, Tryz.ntmps145
  go_wp2
  go_ret
  exact ⟨rfl, rfl⟩
theorem told6 (w : World) :
    Calls Tryz.prog 145 #[.int .i64 6] w fun e w' => e = .returned (.string { data := #[100, 49, 105] }) ∧ w' = w := by
  go_enter Tryz.func145, Tryz.ntmps145
  go_wp2
  go_ret
  exact ⟨rfl, rfl⟩
theorem told7 (w : World) :
    Calls Tryz.prog 145 #[.int .i64 7] w fun e w' => e = .returned (.string { data := #[100, 49, 105] }) ∧ w' = w := by
  go_enter Tryz.func145, Tryz.ntmps145
  go_wp2
  go_ret
  exact ⟨rfl, rfl⟩
theorem told8 (w : World) :
    Calls Tryz.prog 145 #[.int .i64 8] w fun e w' => e = .returned (.string { data := #[100, 49, 50] }) ∧ w' = w := by
  go_enter Tryz.func145, Tryz.ntmps145
  go_wp2
  go_ret
  exact ⟨rfl, rfl⟩
theorem told9 (w : World) :
    Calls Tryz.prog 145 #[.int .i64 9] w fun e w' => e = .returned (.string { data := #[] }) ∧ w' = w := by
  go_enter Tryz.func145, Tryz.ntmps145
  go_wp2
  go_ret
  exact ⟨rfl, rfl⟩
theorem fld100 (b : Nat) (w : World) :
    Calls Tryz.prog 149 #[.pointer (some ⟨b, 0, none⟩), .int .u8 100] w fun e w' => e = .returned (.pointer (some ⟨b, 1, none⟩)) ∧ w' = w := by
  go_enter Tryz.func149, Tryz.ntmps149
  go_wp2
  go_ret
  exact ⟨rfl, rfl⟩
theorem fld49 (b : Nat) (w : World) :
    Calls Tryz.prog 149 #[.pointer (some ⟨b, 0, none⟩), .int .u8 49] w fun e w' => e = .returned (.pointer (some ⟨b, 2, none⟩)) ∧ w' = w := by
  go_enter Tryz.func149, Tryz.ntmps149
  go_wp2
  go_ret
  exact ⟨rfl, rfl⟩
theorem fld50 (b : Nat) (w : World) :
    Calls Tryz.prog 149 #[.pointer (some ⟨b, 0, none⟩), .int .u8 50] w fun e w' => e = .returned (.pointer (some ⟨b, 3, none⟩)) ∧ w' = w := by
  go_enter Tryz.func149, Tryz.ntmps149
  go_wp2
  go_ret
  exact ⟨rfl, rfl⟩
theorem fld105 (b : Nat) (w : World) :
    Calls Tryz.prog 149 #[.pointer (some ⟨b, 0, none⟩), .int .u8 105] w fun e w' => e = .returned (.pointer (some ⟨b, 4, none⟩)) ∧ w' = w := by
  go_enter Tryz.func149, Tryz.ntmps149
  go_wp2
  go_ret
  exact ⟨rfl, rfl⟩
end Go.Proofs.YtelogjpjglohoaaGreatDoor

namespace Go.Proofs.YtelogjpjglohoaaGreatDoor
open Go.RowKit
set_option linter.unusedVariables false

/-- Is it an instruction of that form? -/
def rightF (f rd r1 r2 im : Int) : Bool :=
  if f = 1 ∨ f = 2 then regB rd && r1 == 0 && r2 == 0 && okB f im
  else if f = 3 ∨ f = 6 ∨ f = 7 then regB rd && regB r1 && r2 == 0 && okB f im
  else if f = 4 ∨ f = 5 then rd == 0 && regB r1 && regB r2 && okB f im
  else if f = 8 then regB rd && regB r1 && regB r2 && im == 0
  else rd == 0 && r1 == 0 && r2 == 0 && im == 0

/-- What toldFields answers, what fieldAllows answers of the number. -/
def ToldIs (f : Int) (t : ByteArray) : Prop := ∀ w, Calls Tryz.prog 145 #[.int .i64 f] w fun e w' => e = .returned (.string t) ∧ w' = w
end Go.Proofs.YtelogjpjglohoaaGreatDoor
