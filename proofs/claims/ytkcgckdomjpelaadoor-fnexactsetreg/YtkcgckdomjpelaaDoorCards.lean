/-
  DERIVED. GIVEN WITH THE SEED: THE CARDS: each row of YtkcgckdomjpelaaDoorRows.lean that lists a variable, with what it lists TIED to the program's text (the seventh form; the later family's looks); each row that meets fmt, with fmt's text TOLD by the authors' own Lean function (tested against real Go, not proved from fmt's source: count such statements apart). THE CARD IS WHAT COUNTS. Prove the row's statement (the work); the ties are given (YtkcgckdomjpelaaDoorTie.lean); close each card by the builder's one call (the guide's Derived/Test/ToyasCard.lean, 'card_holds'). Laid BY PROGRAM, IN A SANDBOX (cutbox-door.mjs). By AI agents, Wed Nov 11 2026. No macro, syntax, notation, axiom, sorry.
-/
import Derived.Test.YtkcgckdomjpelaaDoorRows
import GoSem.ClaimSeven
namespace Go.Proofs.YtkcgckdomjpelaaDoor
namespace Rows

/-- THE TIED CARD OF 'laws.FnExactSetReg'. -/
def fnExactSetRegCard : Claim7 := { stood := { row := fnExactSetRegRow, standIns := [], harness := (true, "5e8fdc70b6a1e6ca36c401ccd9d76a253248f0bf3dd9b8273717809ac547a98d"), looks := true }, kinds := [], alts := [], laidByText := true, laidKinds := [.sentinel, .sentinel], laidTests := true, laidLooks := .later }
def FnExactSetRegCardSaid : Prop := Claim7.holds Tryd.pinned (.plain (OpenSpec.ofChange fnExactSetRegSpec)) fnExactSetRegCard

/-- THE SECOND FORM's CARD OF 'laws.FnExactSetReg'. -/
def fnExactSetRegUptoCard : Claim7 := { stood := { row := fnExactSetRegUptoRow, standIns := [], harness := (true, "5e8fdc70b6a1e6ca36c401ccd9d76a253248f0bf3dd9b8273717809ac547a98d"), looks := true }, kinds := [], alts := [], laidByText := true, laidKinds := [.sentinel, .sentinel], laidTests := true, laidLooks := .later }
def FnExactSetRegUptoCardSaid : Prop := Claim7.holds Tryd.pinned (.plain (OpenSpec.upto fnExactSetRegSpec)) fnExactSetRegUptoCard
end Rows
end Go.Proofs.YtkcgckdomjpelaaDoor
