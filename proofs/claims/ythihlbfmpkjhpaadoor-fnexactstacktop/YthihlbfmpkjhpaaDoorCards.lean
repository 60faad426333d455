/-
  DERIVED. GIVEN WITH THE SEED: THE CARDS: each row of YthihlbfmpkjhpaaDoorRows.lean that lists a variable, with what it lists TIED to the program's text (the seventh form; the later family's looks); each row that meets fmt, with fmt's text TOLD by the authors' own Lean function (tested against real Go, not proved from fmt's source: count such statements apart). THE CARD IS WHAT COUNTS. Prove the row's statement (the work); the ties are given (YthihlbfmpkjhpaaDoorTie.lean); close each card by the builder's one call (the guide's Derived/Test/ToyasCard.lean, 'card_holds'). Laid BY PROGRAM, IN A SANDBOX (cutbox-door.mjs). By AI agents, Wed Nov 11 2026. No macro, syntax, notation, axiom, sorry.
-/
import Derived.Test.YthihlbfmpkjhpaaDoorRows
import GoSem.ClaimSeven
namespace Go.Proofs.YthihlbfmpkjhpaaDoor
namespace Rows

/-- THE TIED CARD OF 'laws.FnExactStackTop'. -/
def fnExactStackTopCard : Claim7 := { stood := { row := fnExactStackTopRow, standIns := [], harness := (true, "35c5579364598ac4c2415e3712472a6ac2f15371a4b54fa41b456b3fb022eed8"), looks := true }, kinds := [], alts := [], laidByText := true, laidKinds := [.sentinel, .sentinel, .sentinel, .sentinel, .sentinel], laidTests := true, laidLooks := .later }
def FnExactStackTopCardSaid : Prop := Claim7.holds Tryd.pinned (.plain (OpenSpec.ofChange fnExactStackTopSpec)) fnExactStackTopCard

/-- THE SECOND FORM's CARD OF 'laws.FnExactStackTop'. -/
def fnExactStackTopUptoCard : Claim7 := { stood := { row := fnExactStackTopUptoRow, standIns := [], harness := (true, "35c5579364598ac4c2415e3712472a6ac2f15371a4b54fa41b456b3fb022eed8"), looks := true }, kinds := [], alts := [], laidByText := true, laidKinds := [.sentinel, .sentinel, .sentinel, .sentinel, .sentinel], laidTests := true, laidLooks := .later }
def FnExactStackTopUptoCardSaid : Prop := Claim7.holds Tryd.pinned (.plain (OpenSpec.upto fnExactStackTopSpec)) fnExactStackTopUptoCard
end Rows
end Go.Proofs.YthihlbfmpkjhpaaDoor
