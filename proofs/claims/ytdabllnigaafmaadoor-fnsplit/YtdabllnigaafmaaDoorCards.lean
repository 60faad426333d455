/-
  DERIVED. GIVEN WITH THE SEED: THE CARDS: each row of YtdabllnigaafmaaDoorRows.lean that lists a variable, with what it lists TIED to the program's text (the seventh form; the later family's looks); each row that meets fmt, with fmt's text TOLD by the authors' own Lean function (tested against real Go, not proved from fmt's source: count such statements apart). THE CARD IS WHAT COUNTS. Prove the row's statement (the work); the ties are given (YtdabllnigaafmaaDoorTie.lean); close each card by the builder's one call (the guide's Derived/Test/ToyasCard.lean, 'card_holds'). Laid BY PROGRAM, IN A SANDBOX (cutbox-door.mjs). By AI agents, Wed Nov 11 2026. No macro, syntax, notation, axiom, sorry.
-/
import Derived.Test.YtdabllnigaafmaaDoorRows
import GoSem.ClaimSeven
namespace Go.Proofs.YtdabllnigaafmaaDoor
namespace Rows

/-- THE TIED CARD OF 'laws.FnSplit'. -/
def fnSplitCard : Claim7 := { stood := { row := fnSplitRow, standIns := [], harness := (true, "5e471ed3eb4d8b770ecbdcdbbdf2e0fd1d0992fe21ba40b15d43ba1f22f92f67"), looks := true }, kinds := [], alts := [], laidByText := true, laidKinds := [.sentinel, .sentinel, .sentinel, .sentinel, .sentinel, .data], laidTests := true, laidLooks := .later }
def FnSplitCardSaid : Prop := Claim7.holds Tryd.pinned (.plain (OpenSpec.ofChange fnSplitSpec)) fnSplitCard

/-- THE TIED CARD OF 'laws.FnExactSplitAddress'. -/
def fnExactSplitAddressCard : Claim7 := { stood := { row := fnExactSplitAddressRow, standIns := [], harness := (true, "5e471ed3eb4d8b770ecbdcdbbdf2e0fd1d0992fe21ba40b15d43ba1f22f92f67"), looks := true }, kinds := [], alts := [], laidByText := true, laidKinds := [.sentinel, .sentinel, .sentinel, .sentinel, .sentinel], laidTests := true, laidLooks := .later }
def FnExactSplitAddressCardSaid : Prop := Claim7.holds Tryd.pinned (.plain (OpenSpec.ofChange fnExactSplitAddressSpec)) fnExactSplitAddressCard

/-- THE TIED CARD OF 'laws.FnExactRelocName'. -/
def fnExactRelocNameCard : Claim7 := { stood := { row := fnExactRelocNameRow, standIns := [], harness := (true, "5e471ed3eb4d8b770ecbdcdbbdf2e0fd1d0992fe21ba40b15d43ba1f22f92f67"), looks := true }, kinds := [], alts := [], laidByText := true, laidKinds := [.data], laidTests := true, laidLooks := .later }
def FnExactRelocNameCardSaid : Prop := Claim7.holds Tryd.pinned (.plain (OpenSpec.ofChange fnExactRelocNameSpec)) fnExactRelocNameCard

/-- THE TIED CARD OF 'laws.FnExactRelocOf'. -/
def fnExactRelocOfCard : Claim7 := { stood := { row := fnExactRelocOfRow, standIns := [], harness := (true, "5e471ed3eb4d8b770ecbdcdbbdf2e0fd1d0992fe21ba40b15d43ba1f22f92f67"), looks := true }, kinds := [], alts := [], laidByText := true, laidKinds := [.data], laidTests := true, laidLooks := .later }
def FnExactRelocOfCardSaid : Prop := Claim7.holds Tryd.pinned (.plain (OpenSpec.ofChange fnExactRelocOfSpec)) fnExactRelocOfCard

/-- THE SECOND FORM's CARD OF 'laws.FnSplit'. -/
def fnSplitUptoCard : Claim7 := { stood := { row := fnSplitUptoRow, standIns := [], harness := (true, "5e471ed3eb4d8b770ecbdcdbbdf2e0fd1d0992fe21ba40b15d43ba1f22f92f67"), looks := true }, kinds := [], alts := [], laidByText := true, laidKinds := [.sentinel, .sentinel, .sentinel, .sentinel, .sentinel, .data], laidTests := true, laidLooks := .later }
def FnSplitUptoCardSaid : Prop := Claim7.holds Tryd.pinned (.plain (OpenSpec.upto fnSplitSpec)) fnSplitUptoCard

/-- THE SECOND FORM's CARD OF 'laws.FnExactSplitAddress'. -/
def fnExactSplitAddressUptoCard : Claim7 := { stood := { row := fnExactSplitAddressUptoRow, standIns := [], harness := (true, "5e471ed3eb4d8b770ecbdcdbbdf2e0fd1d0992fe21ba40b15d43ba1f22f92f67"), looks := true }, kinds := [], alts := [], laidByText := true, laidKinds := [.sentinel, .sentinel, .sentinel, .sentinel, .sentinel], laidTests := true, laidLooks := .later }
def FnExactSplitAddressUptoCardSaid : Prop := Claim7.holds Tryd.pinned (.plain (OpenSpec.upto fnExactSplitAddressSpec)) fnExactSplitAddressUptoCard

/-- THE SECOND FORM's CARD OF 'laws.FnExactRelocName'. -/
def fnExactRelocNameUptoCard : Claim7 := { stood := { row := fnExactRelocNameUptoRow, standIns := [], harness := (true, "5e471ed3eb4d8b770ecbdcdbbdf2e0fd1d0992fe21ba40b15d43ba1f22f92f67"), looks := true }, kinds := [], alts := [], laidByText := true, laidKinds := [.data], laidTests := true, laidLooks := .later }
def FnExactRelocNameUptoCardSaid : Prop := Claim7.holds Tryd.pinned (.plain (OpenSpec.upto fnExactRelocNameSpec)) fnExactRelocNameUptoCard

/-- THE SECOND FORM's CARD OF 'laws.FnExactRelocOf'. -/
def fnExactRelocOfUptoCard : Claim7 := { stood := { row := fnExactRelocOfUptoRow, standIns := [], harness := (true, "5e471ed3eb4d8b770ecbdcdbbdf2e0fd1d0992fe21ba40b15d43ba1f22f92f67"), looks := true }, kinds := [], alts := [], laidByText := true, laidKinds := [.data], laidTests := true, laidLooks := .later }
def FnExactRelocOfUptoCardSaid : Prop := Claim7.holds Tryd.pinned (.plain (OpenSpec.upto fnExactRelocOfSpec)) fnExactRelocOfUptoCard
end Rows
end Go.Proofs.YtdabllnigaafmaaDoor
