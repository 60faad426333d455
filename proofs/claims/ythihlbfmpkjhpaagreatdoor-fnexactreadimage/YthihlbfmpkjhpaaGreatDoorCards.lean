/-
  DERIVED. GIVEN WITH THE SEED: THE CARDS: each row of YthihlbfmpkjhpaaGreatDoorRows.lean that lists a variable, with what it lists TIED to the program's text (the seventh form; the later family's looks); each row that meets fmt, with fmt's text TOLD by the authors' own Lean function (tested against real Go, not proved from fmt's source: count such statements apart). THE CARD IS WHAT COUNTS. Prove the row's statement (the work); the ties are given (YthihlbfmpkjhpaaGreatDoorTie.lean); close each card by the builder's one call (the guide's Derived/Test/ToyasCard.lean, 'card_holds'). Laid BY PROGRAM, IN A SANDBOX (cutbox-door.mjs). By AI agents, Wed Nov 11 2026. No macro, syntax, notation, axiom, sorry.
-/
import Derived.Test.YthihlbfmpkjhpaaGreatDoorRows
import GoSem.ClaimSeven
namespace Go.Proofs.YthihlbfmpkjhpaaGreatDoor
namespace Rows

/-- THE TIED CARD OF 'laws.FnExactLintImage'. -/
def fnExactLintImageCard : Claim7 := { stood := { row := fnExactLintImageRow, standIns := [], harness := (true, "834035d0bb92a1ce31721f874eb0610846b47e95aad5cc74aa18f44ee25a1820"), looks := true }, kinds := [], alts := [], laidByText := true, laidKinds := [.sentinel, .sentinel, .sentinel, .sentinel, .sentinel], laidTests := true, laidLooks := .later }
def FnExactLintImageCardSaid : Prop := Claim7.holds Tryz.pinned (.plain (OpenSpec.ofChange fnExactLintImageSpec)) fnExactLintImageCard

/-- THE TIED CARD OF 'laws.FnExactImageOK'. -/
def fnExactImageOKCard : Claim7 := { stood := { row := fnExactImageOKRow, standIns := [], harness := (true, "834035d0bb92a1ce31721f874eb0610846b47e95aad5cc74aa18f44ee25a1820"), looks := true }, kinds := [], alts := [], laidByText := true, laidKinds := [.sentinel, .sentinel, .sentinel, .sentinel, .sentinel], laidTests := true, laidLooks := .later }
def FnExactImageOKCardSaid : Prop := Claim7.holds Tryz.pinned (.plain (OpenSpec.ofChange fnExactImageOKSpec)) fnExactImageOKCard

/-- THE TIED CARD OF 'laws.FnExactImageText'. -/
def fnExactImageTextCard : Claim7 := { stood := { row := fnExactImageTextRow, standIns := [], harness := (true, "834035d0bb92a1ce31721f874eb0610846b47e95aad5cc74aa18f44ee25a1820"), looks := true }, kinds := [], alts := [], laidByText := true, laidKinds := [.sentinel, .sentinel, .sentinel, .sentinel, .sentinel], laidTests := true, laidLooks := .later }
def FnExactImageTextCardSaid : Prop := Claim7.holds Tryz.pinned (.plain (OpenSpec.ofChange fnExactImageTextSpec)) fnExactImageTextCard

/-- THE TIED CARD OF 'laws.FnExactReadImage'. -/
def fnExactReadImageCard : Claim7 := { stood := { row := fnExactReadImageRow, standIns := [], harness := (true, "834035d0bb92a1ce31721f874eb0610846b47e95aad5cc74aa18f44ee25a1820"), looks := true }, kinds := [], alts := [], laidByText := true, laidKinds := [.sentinel, .sentinel, .sentinel, .sentinel, .sentinel], laidTests := true, laidLooks := .later }
def FnExactReadImageCardSaid : Prop := Claim7.holds Tryz.pinned (.plain (OpenSpec.ofChange fnExactReadImageSpec)) fnExactReadImageCard

/-- THE TIED CARD OF 'laws.FnExactAddressOf'. -/
def fnExactAddressOfCard : Claim7 := { stood := { row := fnExactAddressOfRow, standIns := [], harness := (true, "834035d0bb92a1ce31721f874eb0610846b47e95aad5cc74aa18f44ee25a1820"), looks := true }, kinds := [], alts := [], laidByText := true, laidKinds := [.sentinel, .sentinel, .sentinel, .sentinel, .sentinel], laidTests := true, laidLooks := .later }
def FnExactAddressOfCardSaid : Prop := Claim7.holds Tryz.pinned (.plain (OpenSpec.ofChange fnExactAddressOfSpec)) fnExactAddressOfCard

/-- THE TIED CARD OF 'laws.FnExactSymbolNamed'. -/
def fnExactSymbolNamedCard : Claim7 := { stood := { row := fnExactSymbolNamedRow, standIns := [], harness := (true, "834035d0bb92a1ce31721f874eb0610846b47e95aad5cc74aa18f44ee25a1820"), looks := true }, kinds := [], alts := [], laidByText := true, laidKinds := [.sentinel, .sentinel, .sentinel, .sentinel, .sentinel], laidTests := true, laidLooks := .later }
def FnExactSymbolNamedCardSaid : Prop := Claim7.holds Tryz.pinned (.plain (OpenSpec.ofChange fnExactSymbolNamedSpec)) fnExactSymbolNamedCard

/-- THE TIED CARD OF 'laws.FnExactSymbolAt'. -/
def fnExactSymbolAtCard : Claim7 := { stood := { row := fnExactSymbolAtRow, standIns := [], harness := (true, "834035d0bb92a1ce31721f874eb0610846b47e95aad5cc74aa18f44ee25a1820"), looks := true }, kinds := [], alts := [], laidByText := true, laidKinds := [.sentinel, .sentinel, .sentinel, .sentinel, .sentinel], laidTests := true, laidLooks := .later }
def FnExactSymbolAtCardSaid : Prop := Claim7.holds Tryz.pinned (.plain (OpenSpec.ofChange fnExactSymbolAtSpec)) fnExactSymbolAtCard

/-- THE SECOND FORM's CARD OF 'laws.FnExactLintImage'. -/
def fnExactLintImageUptoCard : Claim7 := { stood := { row := fnExactLintImageUptoRow, standIns := [], harness := (true, "834035d0bb92a1ce31721f874eb0610846b47e95aad5cc74aa18f44ee25a1820"), looks := true }, kinds := [], alts := [], laidByText := true, laidKinds := [.sentinel, .sentinel, .sentinel, .sentinel, .sentinel], laidTests := true, laidLooks := .later }
def FnExactLintImageUptoCardSaid : Prop := Claim7.holds Tryz.pinned (.plain (OpenSpec.upto fnExactLintImageSpec)) fnExactLintImageUptoCard

/-- THE SECOND FORM's CARD OF 'laws.FnExactImageOK'. -/
def fnExactImageOKUptoCard : Claim7 := { stood := { row := fnExactImageOKUptoRow, standIns := [], harness := (true, "834035d0bb92a1ce31721f874eb0610846b47e95aad5cc74aa18f44ee25a1820"), looks := true }, kinds := [], alts := [], laidByText := true, laidKinds := [.sentinel, .sentinel, .sentinel, .sentinel, .sentinel], laidTests := true, laidLooks := .later }
def FnExactImageOKUptoCardSaid : Prop := Claim7.holds Tryz.pinned (.plain (OpenSpec.upto fnExactImageOKSpec)) fnExactImageOKUptoCard

/-- THE SECOND FORM's CARD OF 'laws.FnExactImageText'. -/
def fnExactImageTextUptoCard : Claim7 := { stood := { row := fnExactImageTextUptoRow, standIns := [], harness := (true, "834035d0bb92a1ce31721f874eb0610846b47e95aad5cc74aa18f44ee25a1820"), looks := true }, kinds := [], alts := [], laidByText := true, laidKinds := [.sentinel, .sentinel, .sentinel, .sentinel, .sentinel], laidTests := true, laidLooks := .later }
def FnExactImageTextUptoCardSaid : Prop := Claim7.holds Tryz.pinned (.plain (OpenSpec.upto fnExactImageTextSpec)) fnExactImageTextUptoCard

/-- THE SECOND FORM's CARD OF 'laws.FnExactReadImage'. -/
def fnExactReadImageUptoCard : Claim7 := { stood := { row := fnExactReadImageUptoRow, standIns := [], harness := (true, "834035d0bb92a1ce31721f874eb0610846b47e95aad5cc74aa18f44ee25a1820"), looks := true }, kinds := [], alts := [], laidByText := true, laidKinds := [.sentinel, .sentinel, .sentinel, .sentinel, .sentinel], laidTests := true, laidLooks := .later }
def FnExactReadImageUptoCardSaid : Prop := Claim7.holds Tryz.pinned (.plain (OpenSpec.upto fnExactReadImageSpec)) fnExactReadImageUptoCard

/-- THE SECOND FORM's CARD OF 'laws.FnExactAddressOf'. -/
def fnExactAddressOfUptoCard : Claim7 := { stood := { row := fnExactAddressOfUptoRow, standIns := [], harness := (true, "834035d0bb92a1ce31721f874eb0610846b47e95aad5cc74aa18f44ee25a1820"), looks := true }, kinds := [], alts := [], laidByText := true, laidKinds := [.sentinel, .sentinel, .sentinel, .sentinel, .sentinel], laidTests := true, laidLooks := .later }
def FnExactAddressOfUptoCardSaid : Prop := Claim7.holds Tryz.pinned (.plain (OpenSpec.upto fnExactAddressOfSpec)) fnExactAddressOfUptoCard

/-- THE SECOND FORM's CARD OF 'laws.FnExactSymbolNamed'. -/
def fnExactSymbolNamedUptoCard : Claim7 := { stood := { row := fnExactSymbolNamedUptoRow, standIns := [], harness := (true, "834035d0bb92a1ce31721f874eb0610846b47e95aad5cc74aa18f44ee25a1820"), looks := true }, kinds := [], alts := [], laidByText := true, laidKinds := [.sentinel, .sentinel, .sentinel, .sentinel, .sentinel], laidTests := true, laidLooks := .later }
def FnExactSymbolNamedUptoCardSaid : Prop := Claim7.holds Tryz.pinned (.plain (OpenSpec.upto fnExactSymbolNamedSpec)) fnExactSymbolNamedUptoCard

/-- THE SECOND FORM's CARD OF 'laws.FnExactSymbolAt'. -/
def fnExactSymbolAtUptoCard : Claim7 := { stood := { row := fnExactSymbolAtUptoRow, standIns := [], harness := (true, "834035d0bb92a1ce31721f874eb0610846b47e95aad5cc74aa18f44ee25a1820"), looks := true }, kinds := [], alts := [], laidByText := true, laidKinds := [.sentinel, .sentinel, .sentinel, .sentinel, .sentinel], laidTests := true, laidLooks := .later }
def FnExactSymbolAtUptoCardSaid : Prop := Claim7.holds Tryz.pinned (.plain (OpenSpec.upto fnExactSymbolAtSpec)) fnExactSymbolAtUptoCard
end Rows
end Go.Proofs.YthihlbfmpkjhpaaGreatDoor
