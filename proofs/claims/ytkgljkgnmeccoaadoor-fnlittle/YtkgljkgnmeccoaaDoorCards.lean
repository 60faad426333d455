/-
  DERIVED. GIVEN WITH THE SEED: THE CARDS: each row of YtkgljkgnmeccoaaDoorRows.lean that lists a variable, with what it lists TIED to the program's text (the seventh form; the later family's looks); each row that meets fmt, with fmt's text TOLD by the authors' own Lean function (tested against real Go, not proved from fmt's source: count such statements apart). THE CARD IS WHAT COUNTS. Prove the row's statement (the work); the ties are given (YtkgljkgnmeccoaaDoorTie.lean); close each card by the builder's one call (the guide's Derived/Test/ToyasCard.lean, 'card_holds'). Laid BY PROGRAM, IN A SANDBOX (cutbox-door.mjs). By AI agents, Wed Nov 11 2026. No macro, syntax, notation, axiom, sorry.
-/
import Derived.Test.YtkgljkgnmeccoaaDoorRows
import GoSem.ClaimSeven
namespace Go.Proofs.YtkgljkgnmeccoaaDoor
namespace Rows

/-- THE TIED CARD OF 'laws.FnFields'. -/
def fnFieldsCard : Claim7 := { stood := { row := fnFieldsRow, standIns := [], harness := (true, "fa8cb2f4c75b56ece06c1cfc18121f59e6c36bfa22c017b7683813bfbc213f08"), looks := true }, kinds := [], alts := [], laidByText := true, laidKinds := [.sentinel, .sentinel], laidTests := true, laidLooks := .later }
def FnFieldsCardSaid : Prop := Claim7.holds Tryd.pinned (.plain (OpenSpec.ofChange fnFieldsSpec)) fnFieldsCard

/-- THE TIED CARD OF 'laws.FnLittle'. -/
def fnLittleCard : Claim7 := { stood := { row := fnLittleRow, standIns := [], harness := (true, "fa8cb2f4c75b56ece06c1cfc18121f59e6c36bfa22c017b7683813bfbc213f08"), looks := true }, kinds := [], alts := [], laidByText := true, laidKinds := [.sentinel, .sentinel], laidTests := true, laidLooks := .later }
def FnLittleCardSaid : Prop := Claim7.holds Tryd.pinned (.plain (OpenSpec.ofChange fnLittleSpec)) fnLittleCard

/-- THE TIED CARD OF 'laws.FnExactFieldOf'. -/
def fnExactFieldOfCard : Claim7 := { stood := { row := fnExactFieldOfRow, standIns := [], harness := (true, "fa8cb2f4c75b56ece06c1cfc18121f59e6c36bfa22c017b7683813bfbc213f08"), looks := true }, kinds := [], alts := [], laidByText := true, laidKinds := [.sentinel, .sentinel], laidTests := true, laidLooks := .later }
def FnExactFieldOfCardSaid : Prop := Claim7.holds Tryd.pinned (.plain (OpenSpec.ofChange fnExactFieldOfSpec)) fnExactFieldOfCard

/-- THE TIED CARD OF 'laws.FnExactPutField'. -/
def fnExactPutFieldCard : Claim7 := { stood := { row := fnExactPutFieldRow, standIns := [], harness := (true, "fa8cb2f4c75b56ece06c1cfc18121f59e6c36bfa22c017b7683813bfbc213f08"), looks := true }, kinds := [], alts := [], laidByText := true, laidKinds := [.sentinel, .sentinel], laidTests := true, laidLooks := .later }
def FnExactPutFieldCardSaid : Prop := Claim7.holds Tryd.pinned (.plain (OpenSpec.ofChange fnExactPutFieldSpec)) fnExactPutFieldCard

/-- THE TIED CARD OF 'laws.FnExactSignOf'. -/
def fnExactSignOfCard : Claim7 := { stood := { row := fnExactSignOfRow, standIns := [], harness := (true, "fa8cb2f4c75b56ece06c1cfc18121f59e6c36bfa22c017b7683813bfbc213f08"), looks := true }, kinds := [], alts := [], laidByText := true, laidKinds := [.sentinel, .sentinel], laidTests := true, laidLooks := .later }
def FnExactSignOfCardSaid : Prop := Claim7.holds Tryd.pinned (.plain (OpenSpec.ofChange fnExactSignOfSpec)) fnExactSignOfCard

/-- THE TIED CARD OF 'laws.FnExactPutLittle'. -/
def fnExactPutLittleCard : Claim7 := { stood := { row := fnExactPutLittleRow, standIns := [], harness := (true, "fa8cb2f4c75b56ece06c1cfc18121f59e6c36bfa22c017b7683813bfbc213f08"), looks := true }, kinds := [], alts := [], laidByText := true, laidKinds := [.sentinel, .sentinel], laidTests := true, laidLooks := .later }
def FnExactPutLittleCardSaid : Prop := Claim7.holds Tryd.pinned (.plain (OpenSpec.ofChange fnExactPutLittleSpec)) fnExactPutLittleCard

/-- THE TIED CARD OF 'laws.FnExactTakeLittle'. -/
def fnExactTakeLittleCard : Claim7 := { stood := { row := fnExactTakeLittleRow, standIns := [], harness := (true, "fa8cb2f4c75b56ece06c1cfc18121f59e6c36bfa22c017b7683813bfbc213f08"), looks := true }, kinds := [], alts := [], laidByText := true, laidKinds := [.sentinel, .sentinel], laidTests := true, laidLooks := .later }
def FnExactTakeLittleCardSaid : Prop := Claim7.holds Tryd.pinned (.plain (OpenSpec.ofChange fnExactTakeLittleSpec)) fnExactTakeLittleCard

/-- THE SECOND FORM's CARD OF 'laws.FnFields'. -/
def fnFieldsUptoCard : Claim7 := { stood := { row := fnFieldsUptoRow, standIns := [], harness := (true, "fa8cb2f4c75b56ece06c1cfc18121f59e6c36bfa22c017b7683813bfbc213f08"), looks := true }, kinds := [], alts := [], laidByText := true, laidKinds := [.sentinel, .sentinel], laidTests := true, laidLooks := .later }
def FnFieldsUptoCardSaid : Prop := Claim7.holds Tryd.pinned (.plain (OpenSpec.upto fnFieldsSpec)) fnFieldsUptoCard

/-- THE SECOND FORM's CARD OF 'laws.FnLittle'. -/
def fnLittleUptoCard : Claim7 := { stood := { row := fnLittleUptoRow, standIns := [], harness := (true, "fa8cb2f4c75b56ece06c1cfc18121f59e6c36bfa22c017b7683813bfbc213f08"), looks := true }, kinds := [], alts := [], laidByText := true, laidKinds := [.sentinel, .sentinel], laidTests := true, laidLooks := .later }
def FnLittleUptoCardSaid : Prop := Claim7.holds Tryd.pinned (.plain (OpenSpec.upto fnLittleSpec)) fnLittleUptoCard

/-- THE SECOND FORM's CARD OF 'laws.FnExactFieldOf'. -/
def fnExactFieldOfUptoCard : Claim7 := { stood := { row := fnExactFieldOfUptoRow, standIns := [], harness := (true, "fa8cb2f4c75b56ece06c1cfc18121f59e6c36bfa22c017b7683813bfbc213f08"), looks := true }, kinds := [], alts := [], laidByText := true, laidKinds := [.sentinel, .sentinel], laidTests := true, laidLooks := .later }
def FnExactFieldOfUptoCardSaid : Prop := Claim7.holds Tryd.pinned (.plain (OpenSpec.upto fnExactFieldOfSpec)) fnExactFieldOfUptoCard

/-- THE SECOND FORM's CARD OF 'laws.FnExactPutField'. -/
def fnExactPutFieldUptoCard : Claim7 := { stood := { row := fnExactPutFieldUptoRow, standIns := [], harness := (true, "fa8cb2f4c75b56ece06c1cfc18121f59e6c36bfa22c017b7683813bfbc213f08"), looks := true }, kinds := [], alts := [], laidByText := true, laidKinds := [.sentinel, .sentinel], laidTests := true, laidLooks := .later }
def FnExactPutFieldUptoCardSaid : Prop := Claim7.holds Tryd.pinned (.plain (OpenSpec.upto fnExactPutFieldSpec)) fnExactPutFieldUptoCard

/-- THE SECOND FORM's CARD OF 'laws.FnExactSignOf'. -/
def fnExactSignOfUptoCard : Claim7 := { stood := { row := fnExactSignOfUptoRow, standIns := [], harness := (true, "fa8cb2f4c75b56ece06c1cfc18121f59e6c36bfa22c017b7683813bfbc213f08"), looks := true }, kinds := [], alts := [], laidByText := true, laidKinds := [.sentinel, .sentinel], laidTests := true, laidLooks := .later }
def FnExactSignOfUptoCardSaid : Prop := Claim7.holds Tryd.pinned (.plain (OpenSpec.upto fnExactSignOfSpec)) fnExactSignOfUptoCard

/-- THE SECOND FORM's CARD OF 'laws.FnExactPutLittle'. -/
def fnExactPutLittleUptoCard : Claim7 := { stood := { row := fnExactPutLittleUptoRow, standIns := [], harness := (true, "fa8cb2f4c75b56ece06c1cfc18121f59e6c36bfa22c017b7683813bfbc213f08"), looks := true }, kinds := [], alts := [], laidByText := true, laidKinds := [.sentinel, .sentinel], laidTests := true, laidLooks := .later }
def FnExactPutLittleUptoCardSaid : Prop := Claim7.holds Tryd.pinned (.plain (OpenSpec.upto fnExactPutLittleSpec)) fnExactPutLittleUptoCard

/-- THE SECOND FORM's CARD OF 'laws.FnExactTakeLittle'. -/
def fnExactTakeLittleUptoCard : Claim7 := { stood := { row := fnExactTakeLittleUptoRow, standIns := [], harness := (true, "fa8cb2f4c75b56ece06c1cfc18121f59e6c36bfa22c017b7683813bfbc213f08"), looks := true }, kinds := [], alts := [], laidByText := true, laidKinds := [.sentinel, .sentinel], laidTests := true, laidLooks := .later }
def FnExactTakeLittleUptoCardSaid : Prop := Claim7.holds Tryd.pinned (.plain (OpenSpec.upto fnExactTakeLittleSpec)) fnExactTakeLittleUptoCard
end Rows
end Go.Proofs.YtkgljkgnmeccoaaDoor
