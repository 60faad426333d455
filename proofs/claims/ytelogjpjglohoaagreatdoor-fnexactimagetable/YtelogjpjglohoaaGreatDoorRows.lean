/-
  NARROWER THAN 'FOR EVERY INPUT', by the rows' own cells (each row's printed sentence says how): FnExactImageTable: ifaces, laid · FnTable: ifaces, laid.
  DERIVED. THE GIVEN ROWS OF THIS SEAT. 2 by the template 'for every input the law returns true; each argument reads behind the call as it read before'; 0 by the template 'total and deterministic' (their statements: YtelogjpjglohoaaGreatDoorTotals.lean).
  GIVEN WITH THE SEED: the statements are not yours to turn. If you find one false, say at which input.
  Laid BY PROGRAM, IN A SANDBOX (cutbox-rows.mjs): the forced cells as the released guide's own fill.sh prints them over the translation ae1eeef56b6e5839… (all of the seat's roots in one cut). By AI agents, Wed Nov 11 2026. No macro, syntax, notation, axiom, sorry.
-/
import Derived.Test.YtelogjpjglohoaaGreatDoorChecked
import GoSem.Claim
import GoSem.ClaimJoined
import GoSem.ClaimMapViews
import Derived.JoinedTies
import Derived.KernelRfl
namespace Go.Proofs.YtelogjpjglohoaaGreatDoor
/- THE CELL 'sum', in the pinned program and in every row, IS THE sha256 OF THE DUMP (.gsa) THAT YtelogjpjglohoaaGreatDoorProg.lean LOADS. Nothing in Lean hashes anything: it is a label: what it is worth is what the hold of that sum in a sandbox is worth. -/
noncomputable def Tryz.pinned : Pinned := { name := "ytelogjpjglohoaagreatdoor", sum := "ae1eeef56b6e5839503f48e91c52e4df88d39c34cc5acd1b147dc07dbc4126b7", checked := Tryz.checked }
namespace Rows
def none {H : Type} : Left H := { results := [], args := [] }

/- WHAT THE LISTED PACKAGE-LEVEL VARIABLES READ AS WHEN THE CALL BEGINS. Each datum BY PROGRAM (the guide's laid-datum.mjs) off the statement by which the dump's own 'gosem.cut.vars' lays the variable. In a bare row this is a premise. The card (YtelogjpjglohoaaGreatDoorCards.lean) ties it to the program's text. -/
def laid_loop_example_g00654_impl_errRange {H : Type} : DataW H := .iface "*errors.errorString" (.ptr (.agg [.lit (.string [111, 117, 116, 32, 111, 102, 32, 105, 116, 115, 32, 98, 111, 117, 110, 100, 115])]))
def laid_loop_example_g00654_impl_errSize {H : Type} : DataW H := .iface "*errors.errorString" (.ptr (.agg [.lit (.string [111, 102, 32, 97, 110, 111, 116, 104, 101, 114, 32, 108, 101, 110, 103, 116, 104])]))
def laid_loop_example_g00654_impl_errForm {H : Type} : DataW H := .iface "*errors.errorString" (.ptr (.agg [.lit (.string [111, 102, 32, 110, 111, 32, 115, 117, 99, 104, 32, 102, 111, 114, 109])]))
def laid_loop_example_g00654_impl_errSum {H : Type} : DataW H := .iface "*errors.errorString" (.ptr (.agg [.lit (.string [110, 111, 116, 32, 116, 104, 101, 32, 115, 117, 109, 32, 111, 102, 32, 119, 104, 97, 116, 32, 105, 115, 32, 97, 104, 101, 97, 100])]))
def laid_loop_example_g00654_impl_errEnd {H : Type} : DataW H := .iface "*errors.errorString" (.ptr (.agg [.lit (.string [99, 117, 116, 32, 111, 102, 102])]))

/-- 'laws.FnExactImageTable': WHATEVER THE INPUT: true; the input reads as it did. -/
def fnExactImageTableSpec : ChangeSpec := { name := "fnExactImageTable", vars := ["loop.example/g00654/impl.errRange", "loop.example/g00654/impl.errSize", "loop.example/g00654/impl.errForm", "loop.example/g00654/impl.errSum", "loop.example/g00654/impl.errEnd"], fn := fun _ => fun
  | [d, g1, g2, g3, g4, g5] => { results := [.lit (.bool true)], args := [d], vars := [g1, g2, g3, g4, g5] }
  | _ => none }
def fnExactImageTableRow : OpenClaim := { program := "ytelogjpjglohoaagreatdoor", sum := "ae1eeef56b6e5839503f48e91c52e4df88d39c34cc5acd1b147dc07dbc4126b7", func := "loop.example/g00654/laws.FnExactImageTable", spec := "fnExactImageTable", inPlace := ["internal/reflectlite.TypeOf"], unfollowed := true, recurses := true, named := ["loop.example/g00654/impl.errRange", "loop.example/g00654/impl.errSize", "loop.example/g00654/impl.errForm", "loop.example/g00654/impl.errSum", "loop.example/g00654/impl.errEnd"], ifaces := true, plainKeys := false, apart := false, laid := [("loop.example/g00654/impl.errRange", laid_loop_example_g00654_impl_errRange), ("loop.example/g00654/impl.errSize", laid_loop_example_g00654_impl_errSize), ("loop.example/g00654/impl.errForm", laid_loop_example_g00654_impl_errForm), ("loop.example/g00654/impl.errSum", laid_loop_example_g00654_impl_errSum), ("loop.example/g00654/impl.errEnd", laid_loop_example_g00654_impl_errEnd)] }
def FnExactImageTableSaid : Prop := fnExactImageTableRow.holds Tryz.pinned (OpenSpec.ofChange fnExactImageTableSpec)

/-- ITS FALSE NEIGHBOUR: 'it returns false'. Refute it at one input. -/
def fnExactImageTableWrong : ChangeSpec := { name := "fnExactImageTable", vars := ["loop.example/g00654/impl.errRange", "loop.example/g00654/impl.errSize", "loop.example/g00654/impl.errForm", "loop.example/g00654/impl.errSum", "loop.example/g00654/impl.errEnd"], fn := fun _ => fun
  | [d, g1, g2, g3, g4, g5] => { results := [.lit (.bool false)], args := [d], vars := [g1, g2, g3, g4, g5] }
  | _ => none }
def FnExactImageTableWrongFalsely : Prop := fnExactImageTableRow.holds Tryz.pinned (OpenSpec.ofChange fnExactImageTableWrong)

/-- 'laws.FnTable': WHATEVER THE INPUT: true; the input reads as it did. -/
def fnTableSpec : ChangeSpec := { name := "fnTable", vars := ["loop.example/g00654/impl.errRange", "loop.example/g00654/impl.errSize", "loop.example/g00654/impl.errForm", "loop.example/g00654/impl.errSum", "loop.example/g00654/impl.errEnd"], fn := fun _ => fun
  | [d1, d2, g1, g2, g3, g4, g5] => { results := [.lit (.bool true)], args := [d1, d2], vars := [g1, g2, g3, g4, g5] }
  | _ => none }
def fnTableRow : OpenClaim := { program := "ytelogjpjglohoaagreatdoor", sum := "ae1eeef56b6e5839503f48e91c52e4df88d39c34cc5acd1b147dc07dbc4126b7", func := "loop.example/g00654/laws.FnTable", spec := "fnTable", inPlace := ["internal/reflectlite.TypeOf"], unfollowed := true, recurses := true, named := ["loop.example/g00654/impl.errRange", "loop.example/g00654/impl.errSize", "loop.example/g00654/impl.errForm", "loop.example/g00654/impl.errSum", "loop.example/g00654/impl.errEnd"], ifaces := true, plainKeys := false, apart := false, laid := [("loop.example/g00654/impl.errRange", laid_loop_example_g00654_impl_errRange), ("loop.example/g00654/impl.errSize", laid_loop_example_g00654_impl_errSize), ("loop.example/g00654/impl.errForm", laid_loop_example_g00654_impl_errForm), ("loop.example/g00654/impl.errSum", laid_loop_example_g00654_impl_errSum), ("loop.example/g00654/impl.errEnd", laid_loop_example_g00654_impl_errEnd)] }
def FnTableSaid : Prop := fnTableRow.holds Tryz.pinned (OpenSpec.ofChange fnTableSpec)

/-- ITS FALSE NEIGHBOUR: 'it returns false'. Refute it at one input. -/
def fnTableWrong : ChangeSpec := { name := "fnTable", vars := ["loop.example/g00654/impl.errRange", "loop.example/g00654/impl.errSize", "loop.example/g00654/impl.errForm", "loop.example/g00654/impl.errSum", "loop.example/g00654/impl.errEnd"], fn := fun _ => fun
  | [d1, d2, g1, g2, g3, g4, g5] => { results := [.lit (.bool false)], args := [d1, d2], vars := [g1, g2, g3, g4, g5] }
  | _ => none }
def FnTableWrongFalsely : Prop := fnTableRow.holds Tryz.pinned (OpenSpec.ofChange fnTableWrong)

/- THE SECOND FORM. 'bulk': how many values and letters a reading holds, each counted each time it is reached (what is shared counts as often as it is met; a slice's spare places count too). A statement '..UptoSaid' is the law's where the arguments, and the package variables that the reading takes, are together of bulk at most 1048576: NARROWER than '..Said'. Prove '..Said' where nothing that the law and all that it calls make is longer than what came in: it says more and counts as full. Else prove '..UptoSaid'. A law counts once. -/
mutual
def uptoBulk {H : Type} : DataW H → Nat
  | .lit (.string bytes) => bytes.length + 1
  | .lit _ => 1
  | .nil => 1
  | .ptr d => uptoBulk d + 1
  | .slice elems spare => uptoBulkAll elems + uptoBulkAll spare + 1
  | .agg parts => uptoBulkAll parts + 1
  | .iface _ d => uptoBulk d + 1
  | .map entries => uptoBulkEntries entries + 1
  | .held _ => 1
def uptoBulkAll {H : Type} : List (DataW H) → Nat
  | [] => 0
  | d :: r => uptoBulk d + uptoBulkAll r
def uptoBulkEntries {H : Type} : List (Lit × DataW H) → Nat
  | [] => 0
  | x :: r => uptoBulkEntry x + uptoBulkEntries r
def uptoBulkEntry {H : Type} : Lit × DataW H → Nat
  | (.string bytes, d) => bytes.length + uptoBulk d + 1
  | (_, d) => uptoBulk d + 1
 end
def uptoSmall : (H : Type) → List (DataW H) → Bool := fun _ ds => decide (uptoBulkAll ds ≤ 1048576)
def OpenSpec.upto (s : _root_.Go.ChangeSpec) : _root_.Go.OpenSpec := { _root_.Go.OpenSpec.ofChange s with cond := some uptoSmall }

/-- 'laws.FnExactImageTable', WHERE WHAT IT READS IS OF BULK AT MOST 1048576: true; the input reads as it did. -/
def fnExactImageTableUptoRow : OpenClaim := { program := "ytelogjpjglohoaagreatdoor", sum := "ae1eeef56b6e5839503f48e91c52e4df88d39c34cc5acd1b147dc07dbc4126b7", func := "loop.example/g00654/laws.FnExactImageTable", spec := "fnExactImageTable", inPlace := ["internal/reflectlite.TypeOf"], unfollowed := true, recurses := true, named := ["loop.example/g00654/impl.errRange", "loop.example/g00654/impl.errSize", "loop.example/g00654/impl.errForm", "loop.example/g00654/impl.errSum", "loop.example/g00654/impl.errEnd"], ifaces := true, plainKeys := false, apart := false, laid := [("loop.example/g00654/impl.errRange", laid_loop_example_g00654_impl_errRange), ("loop.example/g00654/impl.errSize", laid_loop_example_g00654_impl_errSize), ("loop.example/g00654/impl.errForm", laid_loop_example_g00654_impl_errForm), ("loop.example/g00654/impl.errSum", laid_loop_example_g00654_impl_errSum), ("loop.example/g00654/impl.errEnd", laid_loop_example_g00654_impl_errEnd)], narrowed := true }
def FnExactImageTableUptoSaid : Prop := fnExactImageTableUptoRow.holds Tryz.pinned (OpenSpec.upto fnExactImageTableSpec)

/-- 'laws.FnTable', WHERE WHAT IT READS IS OF BULK AT MOST 1048576: true; the input reads as it did. -/
def fnTableUptoRow : OpenClaim := { program := "ytelogjpjglohoaagreatdoor", sum := "ae1eeef56b6e5839503f48e91c52e4df88d39c34cc5acd1b147dc07dbc4126b7", func := "loop.example/g00654/laws.FnTable", spec := "fnTable", inPlace := ["internal/reflectlite.TypeOf"], unfollowed := true, recurses := true, named := ["loop.example/g00654/impl.errRange", "loop.example/g00654/impl.errSize", "loop.example/g00654/impl.errForm", "loop.example/g00654/impl.errSum", "loop.example/g00654/impl.errEnd"], ifaces := true, plainKeys := false, apart := false, laid := [("loop.example/g00654/impl.errRange", laid_loop_example_g00654_impl_errRange), ("loop.example/g00654/impl.errSize", laid_loop_example_g00654_impl_errSize), ("loop.example/g00654/impl.errForm", laid_loop_example_g00654_impl_errForm), ("loop.example/g00654/impl.errSum", laid_loop_example_g00654_impl_errSum), ("loop.example/g00654/impl.errEnd", laid_loop_example_g00654_impl_errEnd)], narrowed := true }
def FnTableUptoSaid : Prop := fnTableUptoRow.holds Tryz.pinned (OpenSpec.upto fnTableSpec)

end Rows
end Go.Proofs.YtelogjpjglohoaaGreatDoor
