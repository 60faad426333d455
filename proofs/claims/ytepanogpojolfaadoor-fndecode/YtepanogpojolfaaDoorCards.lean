/-
  DERIVED. GIVEN WITH THE SEED: THE CARDS: each row of YtepanogpojolfaaDoorRows.lean that lists a variable, with what it lists TIED to the program's text (the seventh form; the later family's looks); each row that meets fmt, with fmt's text TOLD by the authors' own Lean function (tested against real Go, not proved from fmt's source: count such statements apart). THE CARD IS WHAT COUNTS. Prove the row's statement (the work); the ties are given (YtepanogpojolfaaDoorTie.lean); close each card by the builder's one call (the guide's Derived/Test/ToyasCard.lean, 'card_holds'). Laid BY PROGRAM, IN A SANDBOX (cutbox-door.mjs). By AI agents, Wed Nov 11 2026. No macro, syntax, notation, axiom, sorry.
-/
import Derived.Test.YtepanogpojolfaaDoorRows
import GoSem.ClaimSeven
namespace Go.Proofs.YtepanogpojolfaaDoor
namespace Rows

/-- THE TIED CARD OF 'laws.FnDecode'. -/
def fnDecodeCard : Claim7 := { stood := { row := fnDecodeRow, standIns := [], harness := (true, "8b25f4e39eb426441a56a46119343794e2ac06c04851ee600435471b6c17eeb1"), looks := true }, kinds := [], alts := [], laidByText := true, laidKinds := [.sentinel, .sentinel, .sentinel, .sentinel, .sentinel], laidTests := true, laidLooks := .later }
def FnDecodeCardSaid : Prop := Claim7.holds Tryd.pinned (.plain (OpenSpec.ofChange fnDecodeSpec)) fnDecodeCard

/-- THE TIED CARD OF 'laws.FnExactDecode'. -/
def fnExactDecodeCard : Claim7 := { stood := { row := fnExactDecodeRow, standIns := [], harness := (true, "8b25f4e39eb426441a56a46119343794e2ac06c04851ee600435471b6c17eeb1"), looks := true }, kinds := [], alts := [], laidByText := true, laidKinds := [.sentinel, .sentinel, .sentinel, .sentinel, .sentinel], laidTests := true, laidLooks := .later }
def FnExactDecodeCardSaid : Prop := Claim7.holds Tryd.pinned (.plain (OpenSpec.ofChange fnExactDecodeSpec)) fnExactDecodeCard

/-- THE TIED CARD OF 'laws.FnExactInstrsOf'. -/
def fnExactInstrsOfCard : Claim7 := { stood := { row := fnExactInstrsOfRow, standIns := [], harness := (true, "8b25f4e39eb426441a56a46119343794e2ac06c04851ee600435471b6c17eeb1"), looks := true }, kinds := [], alts := [], laidByText := true, laidKinds := [.sentinel, .sentinel, .sentinel, .sentinel, .sentinel], laidTests := true, laidLooks := .later }
def FnExactInstrsOfCardSaid : Prop := Claim7.holds Tryd.pinned (.plain (OpenSpec.ofChange fnExactInstrsOfSpec)) fnExactInstrsOfCard

/-- THE TIED CARD OF 'laws.FnExactLintFunction'. -/
def fnExactLintFunctionCard : Claim7 := { stood := { row := fnExactLintFunctionRow, standIns := [], harness := (true, "8b25f4e39eb426441a56a46119343794e2ac06c04851ee600435471b6c17eeb1"), looks := true }, kinds := [], alts := [], laidByText := true, laidKinds := [.sentinel, .sentinel, .sentinel, .sentinel, .sentinel], laidTests := true, laidLooks := .later }
def FnExactLintFunctionCardSaid : Prop := Claim7.holds Tryd.pinned (.plain (OpenSpec.ofChange fnExactLintFunctionSpec)) fnExactLintFunctionCard

/-- THE TIED CARD OF 'laws.FnExactCallsOf'. -/
def fnExactCallsOfCard : Claim7 := { stood := { row := fnExactCallsOfRow, standIns := [], harness := (true, "8b25f4e39eb426441a56a46119343794e2ac06c04851ee600435471b6c17eeb1"), looks := true }, kinds := [], alts := [], laidByText := true, laidKinds := [.sentinel, .sentinel, .sentinel, .sentinel, .sentinel], laidTests := true, laidLooks := .later }
def FnExactCallsOfCardSaid : Prop := Claim7.holds Tryd.pinned (.plain (OpenSpec.ofChange fnExactCallsOfSpec)) fnExactCallsOfCard

/-- THE TIED CARD OF 'laws.FnExactPhaseOf'. -/
def fnExactPhaseOfCard : Claim7 := { stood := { row := fnExactPhaseOfRow, standIns := [], harness := (true, "8b25f4e39eb426441a56a46119343794e2ac06c04851ee600435471b6c17eeb1"), looks := true }, kinds := [], alts := [], laidByText := true, laidKinds := [.sentinel, .sentinel, .sentinel, .sentinel, .sentinel], laidTests := true, laidLooks := .later }
def FnExactPhaseOfCardSaid : Prop := Claim7.holds Tryd.pinned (.plain (OpenSpec.ofChange fnExactPhaseOfSpec)) fnExactPhaseOfCard

/-- THE SECOND FORM's CARD OF 'laws.FnDecode'. -/
def fnDecodeUptoCard : Claim7 := { stood := { row := fnDecodeUptoRow, standIns := [], harness := (true, "8b25f4e39eb426441a56a46119343794e2ac06c04851ee600435471b6c17eeb1"), looks := true }, kinds := [], alts := [], laidByText := true, laidKinds := [.sentinel, .sentinel, .sentinel, .sentinel, .sentinel], laidTests := true, laidLooks := .later }
def FnDecodeUptoCardSaid : Prop := Claim7.holds Tryd.pinned (.plain (OpenSpec.upto fnDecodeSpec)) fnDecodeUptoCard

/-- THE SECOND FORM's CARD OF 'laws.FnExactDecode'. -/
def fnExactDecodeUptoCard : Claim7 := { stood := { row := fnExactDecodeUptoRow, standIns := [], harness := (true, "8b25f4e39eb426441a56a46119343794e2ac06c04851ee600435471b6c17eeb1"), looks := true }, kinds := [], alts := [], laidByText := true, laidKinds := [.sentinel, .sentinel, .sentinel, .sentinel, .sentinel], laidTests := true, laidLooks := .later }
def FnExactDecodeUptoCardSaid : Prop := Claim7.holds Tryd.pinned (.plain (OpenSpec.upto fnExactDecodeSpec)) fnExactDecodeUptoCard

/-- THE SECOND FORM's CARD OF 'laws.FnExactInstrsOf'. -/
def fnExactInstrsOfUptoCard : Claim7 := { stood := { row := fnExactInstrsOfUptoRow, standIns := [], harness := (true, "8b25f4e39eb426441a56a46119343794e2ac06c04851ee600435471b6c17eeb1"), looks := true }, kinds := [], alts := [], laidByText := true, laidKinds := [.sentinel, .sentinel, .sentinel, .sentinel, .sentinel], laidTests := true, laidLooks := .later }
def FnExactInstrsOfUptoCardSaid : Prop := Claim7.holds Tryd.pinned (.plain (OpenSpec.upto fnExactInstrsOfSpec)) fnExactInstrsOfUptoCard

/-- THE SECOND FORM's CARD OF 'laws.FnExactLintFunction'. -/
def fnExactLintFunctionUptoCard : Claim7 := { stood := { row := fnExactLintFunctionUptoRow, standIns := [], harness := (true, "8b25f4e39eb426441a56a46119343794e2ac06c04851ee600435471b6c17eeb1"), looks := true }, kinds := [], alts := [], laidByText := true, laidKinds := [.sentinel, .sentinel, .sentinel, .sentinel, .sentinel], laidTests := true, laidLooks := .later }
def FnExactLintFunctionUptoCardSaid : Prop := Claim7.holds Tryd.pinned (.plain (OpenSpec.upto fnExactLintFunctionSpec)) fnExactLintFunctionUptoCard

/-- THE SECOND FORM's CARD OF 'laws.FnExactCallsOf'. -/
def fnExactCallsOfUptoCard : Claim7 := { stood := { row := fnExactCallsOfUptoRow, standIns := [], harness := (true, "8b25f4e39eb426441a56a46119343794e2ac06c04851ee600435471b6c17eeb1"), looks := true }, kinds := [], alts := [], laidByText := true, laidKinds := [.sentinel, .sentinel, .sentinel, .sentinel, .sentinel], laidTests := true, laidLooks := .later }
def FnExactCallsOfUptoCardSaid : Prop := Claim7.holds Tryd.pinned (.plain (OpenSpec.upto fnExactCallsOfSpec)) fnExactCallsOfUptoCard

/-- THE SECOND FORM's CARD OF 'laws.FnExactPhaseOf'. -/
def fnExactPhaseOfUptoCard : Claim7 := { stood := { row := fnExactPhaseOfUptoRow, standIns := [], harness := (true, "8b25f4e39eb426441a56a46119343794e2ac06c04851ee600435471b6c17eeb1"), looks := true }, kinds := [], alts := [], laidByText := true, laidKinds := [.sentinel, .sentinel, .sentinel, .sentinel, .sentinel], laidTests := true, laidLooks := .later }
def FnExactPhaseOfUptoCardSaid : Prop := Claim7.holds Tryd.pinned (.plain (OpenSpec.upto fnExactPhaseOfSpec)) fnExactPhaseOfUptoCard
end Rows
end Go.Proofs.YtepanogpojolfaaDoor
