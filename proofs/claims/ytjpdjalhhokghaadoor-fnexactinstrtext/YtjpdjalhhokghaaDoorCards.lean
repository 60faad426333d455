/-
  DERIVED. GIVEN WITH THE SEED: THE CARDS: each row of YtjpdjalhhokghaaDoorRows.lean that lists a variable, with what it lists TIED to the program's text (the seventh form; the later family's looks); each row that meets fmt, with fmt's text TOLD by the authors' own Lean function (tested against real Go, not proved from fmt's source: count such statements apart). THE CARD IS WHAT COUNTS. Prove the row's statement (the work); the ties are given (YtjpdjalhhokghaaDoorTie.lean); close each card by the builder's one call (the guide's Derived/Test/ToyasCard.lean, 'card_holds'). Laid BY PROGRAM, IN A SANDBOX (cutbox-door.mjs). By AI agents, Wed Nov 11 2026. No macro, syntax, notation, axiom, sorry.
-/
import Derived.Test.YtjpdjalhhokghaaDoorRows
import GoSem.ClaimSeven
namespace Go.Proofs.YtjpdjalhhokghaaDoor
namespace Rows

/-- THE TIED CARD OF 'laws.FnLittle'. -/
def fnLittleCard : Claim7 := { stood := { row := fnLittleRow, standIns := [], harness := (true, "fee67cdd7f7238f63ba03e4d91c732c9840c69028a015c55e2093edbe5652dc4"), looks := true }, kinds := [], alts := [], laidByText := true, laidKinds := [.sentinel, .sentinel, .sentinel, .sentinel, .sentinel], laidTests := true, laidLooks := .later }
def FnLittleCardSaid : Prop := Claim7.holds Tryd.pinned (.plain (OpenSpec.ofChange fnLittleSpec)) fnLittleCard

/-- THE TIED CARD OF 'laws.FnExactSignOf'. -/
def fnExactSignOfCard : Claim7 := { stood := { row := fnExactSignOfRow, standIns := [], harness := (true, "fee67cdd7f7238f63ba03e4d91c732c9840c69028a015c55e2093edbe5652dc4"), looks := true }, kinds := [], alts := [], laidByText := true, laidKinds := [.sentinel, .sentinel, .sentinel, .sentinel, .sentinel], laidTests := true, laidLooks := .later }
def FnExactSignOfCardSaid : Prop := Claim7.holds Tryd.pinned (.plain (OpenSpec.ofChange fnExactSignOfSpec)) fnExactSignOfCard

/-- THE TIED CARD OF 'laws.FnExactPutLittle'. -/
def fnExactPutLittleCard : Claim7 := { stood := { row := fnExactPutLittleRow, standIns := [], harness := (true, "fee67cdd7f7238f63ba03e4d91c732c9840c69028a015c55e2093edbe5652dc4"), looks := true }, kinds := [], alts := [], laidByText := true, laidKinds := [.sentinel, .sentinel, .sentinel, .sentinel, .sentinel], laidTests := true, laidLooks := .later }
def FnExactPutLittleCardSaid : Prop := Claim7.holds Tryd.pinned (.plain (OpenSpec.ofChange fnExactPutLittleSpec)) fnExactPutLittleCard

/-- THE TIED CARD OF 'laws.FnExactTakeLittle'. -/
def fnExactTakeLittleCard : Claim7 := { stood := { row := fnExactTakeLittleRow, standIns := [], harness := (true, "fee67cdd7f7238f63ba03e4d91c732c9840c69028a015c55e2093edbe5652dc4"), looks := true }, kinds := [], alts := [], laidByText := true, laidKinds := [.sentinel, .sentinel, .sentinel, .sentinel, .sentinel], laidTests := true, laidLooks := .later }
def FnExactTakeLittleCardSaid : Prop := Claim7.holds Tryd.pinned (.plain (OpenSpec.ofChange fnExactTakeLittleSpec)) fnExactTakeLittleCard

/-- THE TIED CARD OF 'laws.FnExactShapeOf'. -/
def fnExactShapeOfCard : Claim7 := { stood := { row := fnExactShapeOfRow, standIns := [], harness := (true, "fee67cdd7f7238f63ba03e4d91c732c9840c69028a015c55e2093edbe5652dc4"), looks := true }, kinds := [], alts := [], laidByText := true, laidKinds := [.sentinel, .sentinel, .sentinel, .sentinel, .sentinel], laidTests := true, laidLooks := .later }
def FnExactShapeOfCardSaid : Prop := Claim7.holds Tryd.pinned (.plain (OpenSpec.ofChange fnExactShapeOfSpec)) fnExactShapeOfCard

/-- THE TIED CARD OF 'laws.FnExactInstrOK'. -/
def fnExactInstrOKCard : Claim7 := { stood := { row := fnExactInstrOKRow, standIns := [], harness := (true, "fee67cdd7f7238f63ba03e4d91c732c9840c69028a015c55e2093edbe5652dc4"), looks := true }, kinds := [], alts := [], laidByText := true, laidKinds := [.sentinel, .sentinel, .sentinel, .sentinel, .sentinel], laidTests := true, laidLooks := .later }
def FnExactInstrOKCardSaid : Prop := Claim7.holds Tryd.pinned (.plain (OpenSpec.ofChange fnExactInstrOKSpec)) fnExactInstrOKCard

/-- THE TIED CARD OF 'laws.FnExactEncode'. -/
def fnExactEncodeCard : Claim7 := { stood := { row := fnExactEncodeRow, standIns := [], harness := (true, "fee67cdd7f7238f63ba03e4d91c732c9840c69028a015c55e2093edbe5652dc4"), looks := true }, kinds := [], alts := [], laidByText := true, laidKinds := [.sentinel, .sentinel, .sentinel, .sentinel, .sentinel], laidTests := true, laidLooks := .later }
def FnExactEncodeCardSaid : Prop := Claim7.holds Tryd.pinned (.plain (OpenSpec.ofChange fnExactEncodeSpec)) fnExactEncodeCard

/-- THE TIED CARD OF 'laws.FnExactDecode'. -/
def fnExactDecodeCard : Claim7 := { stood := { row := fnExactDecodeRow, standIns := [], harness := (true, "fee67cdd7f7238f63ba03e4d91c732c9840c69028a015c55e2093edbe5652dc4"), looks := true }, kinds := [], alts := [], laidByText := true, laidKinds := [.sentinel, .sentinel, .sentinel, .sentinel, .sentinel], laidTests := true, laidLooks := .later }
def FnExactDecodeCardSaid : Prop := Claim7.holds Tryd.pinned (.plain (OpenSpec.ofChange fnExactDecodeSpec)) fnExactDecodeCard

/-- THE TIED CARD OF 'laws.FnExactInstrText'. -/
def fnExactInstrTextCard : Claim7 := { stood := { row := fnExactInstrTextRow, standIns := [], harness := (true, "fee67cdd7f7238f63ba03e4d91c732c9840c69028a015c55e2093edbe5652dc4"), looks := true }, kinds := [], alts := [], laidByText := true, laidKinds := [.data, .data, .data, .sentinel, .sentinel, .sentinel, .sentinel, .sentinel, .data], laidTests := true, laidLooks := .later }
def FnExactInstrTextCardSaid : Prop := Claim7.holds Tryd.pinned (.plain (OpenSpec.ofChange fnExactInstrTextSpec)) fnExactInstrTextCard

/-- THE TIED CARD OF 'laws.FnExactReadInstr'. -/
def fnExactReadInstrCard : Claim7 := { stood := { row := fnExactReadInstrRow, standIns := [], harness := (true, "fee67cdd7f7238f63ba03e4d91c732c9840c69028a015c55e2093edbe5652dc4"), looks := true }, kinds := [], alts := [], laidByText := true, laidKinds := [.data, .data, .data, .sentinel, .sentinel, .sentinel, .sentinel, .sentinel, .sentinel, .sentinel, .data], laidTests := true, laidLooks := .later }
def FnExactReadInstrCardSaid : Prop := Claim7.holds Tryd.pinned (.plain (OpenSpec.ofChange fnExactReadInstrSpec)) fnExactReadInstrCard

/-- THE TIED CARD OF 'laws.FnExactSetReg'. -/
def fnExactSetRegCard : Claim7 := { stood := { row := fnExactSetRegRow, standIns := [], harness := (true, "fee67cdd7f7238f63ba03e4d91c732c9840c69028a015c55e2093edbe5652dc4"), looks := true }, kinds := [], alts := [], laidByText := true, laidKinds := [.sentinel, .sentinel, .sentinel, .sentinel, .sentinel], laidTests := true, laidLooks := .later }
def FnExactSetRegCardSaid : Prop := Claim7.holds Tryd.pinned (.plain (OpenSpec.ofChange fnExactSetRegSpec)) fnExactSetRegCard

/-- THE SECOND FORM's CARD OF 'laws.FnLittle'. -/
def fnLittleUptoCard : Claim7 := { stood := { row := fnLittleUptoRow, standIns := [], harness := (true, "fee67cdd7f7238f63ba03e4d91c732c9840c69028a015c55e2093edbe5652dc4"), looks := true }, kinds := [], alts := [], laidByText := true, laidKinds := [.sentinel, .sentinel, .sentinel, .sentinel, .sentinel], laidTests := true, laidLooks := .later }
def FnLittleUptoCardSaid : Prop := Claim7.holds Tryd.pinned (.plain (OpenSpec.upto fnLittleSpec)) fnLittleUptoCard

/-- THE SECOND FORM's CARD OF 'laws.FnExactSignOf'. -/
def fnExactSignOfUptoCard : Claim7 := { stood := { row := fnExactSignOfUptoRow, standIns := [], harness := (true, "fee67cdd7f7238f63ba03e4d91c732c9840c69028a015c55e2093edbe5652dc4"), looks := true }, kinds := [], alts := [], laidByText := true, laidKinds := [.sentinel, .sentinel, .sentinel, .sentinel, .sentinel], laidTests := true, laidLooks := .later }
def FnExactSignOfUptoCardSaid : Prop := Claim7.holds Tryd.pinned (.plain (OpenSpec.upto fnExactSignOfSpec)) fnExactSignOfUptoCard

/-- THE SECOND FORM's CARD OF 'laws.FnExactPutLittle'. -/
def fnExactPutLittleUptoCard : Claim7 := { stood := { row := fnExactPutLittleUptoRow, standIns := [], harness := (true, "fee67cdd7f7238f63ba03e4d91c732c9840c69028a015c55e2093edbe5652dc4"), looks := true }, kinds := [], alts := [], laidByText := true, laidKinds := [.sentinel, .sentinel, .sentinel, .sentinel, .sentinel], laidTests := true, laidLooks := .later }
def FnExactPutLittleUptoCardSaid : Prop := Claim7.holds Tryd.pinned (.plain (OpenSpec.upto fnExactPutLittleSpec)) fnExactPutLittleUptoCard

/-- THE SECOND FORM's CARD OF 'laws.FnExactTakeLittle'. -/
def fnExactTakeLittleUptoCard : Claim7 := { stood := { row := fnExactTakeLittleUptoRow, standIns := [], harness := (true, "fee67cdd7f7238f63ba03e4d91c732c9840c69028a015c55e2093edbe5652dc4"), looks := true }, kinds := [], alts := [], laidByText := true, laidKinds := [.sentinel, .sentinel, .sentinel, .sentinel, .sentinel], laidTests := true, laidLooks := .later }
def FnExactTakeLittleUptoCardSaid : Prop := Claim7.holds Tryd.pinned (.plain (OpenSpec.upto fnExactTakeLittleSpec)) fnExactTakeLittleUptoCard

/-- THE SECOND FORM's CARD OF 'laws.FnExactShapeOf'. -/
def fnExactShapeOfUptoCard : Claim7 := { stood := { row := fnExactShapeOfUptoRow, standIns := [], harness := (true, "fee67cdd7f7238f63ba03e4d91c732c9840c69028a015c55e2093edbe5652dc4"), looks := true }, kinds := [], alts := [], laidByText := true, laidKinds := [.sentinel, .sentinel, .sentinel, .sentinel, .sentinel], laidTests := true, laidLooks := .later }
def FnExactShapeOfUptoCardSaid : Prop := Claim7.holds Tryd.pinned (.plain (OpenSpec.upto fnExactShapeOfSpec)) fnExactShapeOfUptoCard

/-- THE SECOND FORM's CARD OF 'laws.FnExactInstrOK'. -/
def fnExactInstrOKUptoCard : Claim7 := { stood := { row := fnExactInstrOKUptoRow, standIns := [], harness := (true, "fee67cdd7f7238f63ba03e4d91c732c9840c69028a015c55e2093edbe5652dc4"), looks := true }, kinds := [], alts := [], laidByText := true, laidKinds := [.sentinel, .sentinel, .sentinel, .sentinel, .sentinel], laidTests := true, laidLooks := .later }
def FnExactInstrOKUptoCardSaid : Prop := Claim7.holds Tryd.pinned (.plain (OpenSpec.upto fnExactInstrOKSpec)) fnExactInstrOKUptoCard

/-- THE SECOND FORM's CARD OF 'laws.FnExactEncode'. -/
def fnExactEncodeUptoCard : Claim7 := { stood := { row := fnExactEncodeUptoRow, standIns := [], harness := (true, "fee67cdd7f7238f63ba03e4d91c732c9840c69028a015c55e2093edbe5652dc4"), looks := true }, kinds := [], alts := [], laidByText := true, laidKinds := [.sentinel, .sentinel, .sentinel, .sentinel, .sentinel], laidTests := true, laidLooks := .later }
def FnExactEncodeUptoCardSaid : Prop := Claim7.holds Tryd.pinned (.plain (OpenSpec.upto fnExactEncodeSpec)) fnExactEncodeUptoCard

/-- THE SECOND FORM's CARD OF 'laws.FnExactDecode'. -/
def fnExactDecodeUptoCard : Claim7 := { stood := { row := fnExactDecodeUptoRow, standIns := [], harness := (true, "fee67cdd7f7238f63ba03e4d91c732c9840c69028a015c55e2093edbe5652dc4"), looks := true }, kinds := [], alts := [], laidByText := true, laidKinds := [.sentinel, .sentinel, .sentinel, .sentinel, .sentinel], laidTests := true, laidLooks := .later }
def FnExactDecodeUptoCardSaid : Prop := Claim7.holds Tryd.pinned (.plain (OpenSpec.upto fnExactDecodeSpec)) fnExactDecodeUptoCard

/-- THE SECOND FORM's CARD OF 'laws.FnExactInstrText'. -/
def fnExactInstrTextUptoCard : Claim7 := { stood := { row := fnExactInstrTextUptoRow, standIns := [], harness := (true, "fee67cdd7f7238f63ba03e4d91c732c9840c69028a015c55e2093edbe5652dc4"), looks := true }, kinds := [], alts := [], laidByText := true, laidKinds := [.data, .data, .data, .sentinel, .sentinel, .sentinel, .sentinel, .sentinel, .data], laidTests := true, laidLooks := .later }
def FnExactInstrTextUptoCardSaid : Prop := Claim7.holds Tryd.pinned (.plain (OpenSpec.upto fnExactInstrTextSpec)) fnExactInstrTextUptoCard

/-- THE SECOND FORM's CARD OF 'laws.FnExactReadInstr'. -/
def fnExactReadInstrUptoCard : Claim7 := { stood := { row := fnExactReadInstrUptoRow, standIns := [], harness := (true, "fee67cdd7f7238f63ba03e4d91c732c9840c69028a015c55e2093edbe5652dc4"), looks := true }, kinds := [], alts := [], laidByText := true, laidKinds := [.data, .data, .data, .sentinel, .sentinel, .sentinel, .sentinel, .sentinel, .sentinel, .sentinel, .data], laidTests := true, laidLooks := .later }
def FnExactReadInstrUptoCardSaid : Prop := Claim7.holds Tryd.pinned (.plain (OpenSpec.upto fnExactReadInstrSpec)) fnExactReadInstrUptoCard

/-- THE SECOND FORM's CARD OF 'laws.FnExactSetReg'. -/
def fnExactSetRegUptoCard : Claim7 := { stood := { row := fnExactSetRegUptoRow, standIns := [], harness := (true, "fee67cdd7f7238f63ba03e4d91c732c9840c69028a015c55e2093edbe5652dc4"), looks := true }, kinds := [], alts := [], laidByText := true, laidKinds := [.sentinel, .sentinel, .sentinel, .sentinel, .sentinel], laidTests := true, laidLooks := .later }
def FnExactSetRegUptoCardSaid : Prop := Claim7.holds Tryd.pinned (.plain (OpenSpec.upto fnExactSetRegSpec)) fnExactSetRegUptoCard
end Rows
end Go.Proofs.YtjpdjalhhokghaaDoor
