/-
  DERIVED. GIVEN WITH THE SEED: THE CARDS: each row of YtelogjpjglohoaaGreatDoorRows.lean that lists a variable, with what it lists TIED to the program's text (the seventh form; the later family's looks); each row that meets fmt, with fmt's text TOLD by the authors' own Lean function (tested against real Go, not proved from fmt's source: count such statements apart). THE CARD IS WHAT COUNTS. Prove the row's statement (the work); the ties are given (YtelogjpjglohoaaGreatDoorTie.lean); close each card by the builder's one call (the guide's Derived/Test/ToyasCard.lean, 'card_holds'). Laid BY PROGRAM, IN A SANDBOX (cutbox-door.mjs). By AI agents, Wed Nov 11 2026. No macro, syntax, notation, axiom, sorry.
-/
import Derived.Test.YtelogjpjglohoaaGreatDoorRows
import GoSem.ClaimSeven
namespace Go.Proofs.YtelogjpjglohoaaGreatDoor
namespace Rows

/-- THE TIED CARD OF 'laws.FnExactImageTable'. -/
def fnExactImageTableCard : Claim7 := { stood := { row := fnExactImageTableRow, standIns := [], harness := (true, "fee8d34d3d4e8750decc3c82c6e3c74c2caf2380561b688621540f5d702d93e6"), looks := true }, kinds := [], alts := [], laidByText := true, laidKinds := [.sentinel, .sentinel, .sentinel, .sentinel, .sentinel], laidTests := true, laidLooks := .later }
def FnExactImageTableCardSaid : Prop := Claim7.holds Tryz.pinned (.plain (OpenSpec.ofChange fnExactImageTableSpec)) fnExactImageTableCard

/-- THE TIED CARD OF 'laws.FnTable'. -/
def fnTableCard : Claim7 := { stood := { row := fnTableRow, standIns := [], harness := (true, "fee8d34d3d4e8750decc3c82c6e3c74c2caf2380561b688621540f5d702d93e6"), looks := true }, kinds := [], alts := [], laidByText := true, laidKinds := [.sentinel, .sentinel, .sentinel, .sentinel, .sentinel], laidTests := true, laidLooks := .later }
def FnTableCardSaid : Prop := Claim7.holds Tryz.pinned (.plain (OpenSpec.ofChange fnTableSpec)) fnTableCard

/-- THE SECOND FORM's CARD OF 'laws.FnExactImageTable'. -/
def fnExactImageTableUptoCard : Claim7 := { stood := { row := fnExactImageTableUptoRow, standIns := [], harness := (true, "fee8d34d3d4e8750decc3c82c6e3c74c2caf2380561b688621540f5d702d93e6"), looks := true }, kinds := [], alts := [], laidByText := true, laidKinds := [.sentinel, .sentinel, .sentinel, .sentinel, .sentinel], laidTests := true, laidLooks := .later }
def FnExactImageTableUptoCardSaid : Prop := Claim7.holds Tryz.pinned (.plain (OpenSpec.upto fnExactImageTableSpec)) fnExactImageTableUptoCard

/-- THE SECOND FORM's CARD OF 'laws.FnTable'. -/
def fnTableUptoCard : Claim7 := { stood := { row := fnTableUptoRow, standIns := [], harness := (true, "fee8d34d3d4e8750decc3c82c6e3c74c2caf2380561b688621540f5d702d93e6"), looks := true }, kinds := [], alts := [], laidByText := true, laidKinds := [.sentinel, .sentinel, .sentinel, .sentinel, .sentinel], laidTests := true, laidLooks := .later }
def FnTableUptoCardSaid : Prop := Claim7.holds Tryz.pinned (.plain (OpenSpec.upto fnTableSpec)) fnTableUptoCard
end Rows
end Go.Proofs.YtelogjpjglohoaaGreatDoor
