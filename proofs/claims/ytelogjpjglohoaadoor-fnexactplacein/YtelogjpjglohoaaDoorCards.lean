/-
  DERIVED. GIVEN WITH THE SEED: THE CARDS: each row of YtelogjpjglohoaaDoorRows.lean that lists a variable, with what it lists TIED to the program's text (the seventh form; the later family's looks); each row that meets fmt, with fmt's text TOLD by the authors' own Lean function (tested against real Go, not proved from fmt's source: count such statements apart). THE CARD IS WHAT COUNTS. Prove the row's statement (the work); the ties are given (YtelogjpjglohoaaDoorTie.lean); close each card by the builder's one call (the guide's Derived/Test/ToyasCard.lean, 'card_holds'). Laid BY PROGRAM, IN A SANDBOX (cutbox-door.mjs). By AI agents, Wed Nov 11 2026. No macro, syntax, notation, axiom, sorry.
-/
import Derived.Test.YtelogjpjglohoaaDoorRows
import GoSem.ClaimSeven
namespace Go.Proofs.YtelogjpjglohoaaDoor
namespace Rows

/-- THE TIED CARD OF 'laws.FnExactPlaceIn'. -/
def fnExactPlaceInCard : Claim7 := { stood := { row := fnExactPlaceInRow, standIns := [], harness := (true, "f5a5d39f88ec0679edb89a94d42a1ee7a94070b2310dc95e73f1162344007306"), looks := true }, kinds := [], alts := [], laidByText := true, laidKinds := [.sentinel, .sentinel, .sentinel, .sentinel, .sentinel], laidTests := true, laidLooks := .later }
def FnExactPlaceInCardSaid : Prop := Claim7.holds Tryd.pinned (.plain (OpenSpec.ofChange fnExactPlaceInSpec)) fnExactPlaceInCard

/-- THE SECOND FORM's CARD OF 'laws.FnExactPlaceIn'. -/
def fnExactPlaceInUptoCard : Claim7 := { stood := { row := fnExactPlaceInUptoRow, standIns := [], harness := (true, "f5a5d39f88ec0679edb89a94d42a1ee7a94070b2310dc95e73f1162344007306"), looks := true }, kinds := [], alts := [], laidByText := true, laidKinds := [.sentinel, .sentinel, .sentinel, .sentinel, .sentinel], laidTests := true, laidLooks := .later }
def FnExactPlaceInUptoCardSaid : Prop := Claim7.holds Tryd.pinned (.plain (OpenSpec.upto fnExactPlaceInSpec)) fnExactPlaceInUptoCard
end Rows
end Go.Proofs.YtelogjpjglohoaaDoor
