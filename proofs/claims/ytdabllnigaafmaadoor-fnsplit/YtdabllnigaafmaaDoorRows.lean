/-
  NARROWER THAN 'FOR EVERY INPUT', by the rows' own cells (each row's printed sentence says how): FnSplit: ifaces, laid · FnExactSplitAddress: ifaces, laid · FnExactRelocName: laid · FnExactRelocOf: laid.
  DERIVED. THE GIVEN ROWS OF THIS SEAT. 4 by the template 'for every input the law returns true; each argument reads behind the call as it read before'; 0 by the template 'total and deterministic' (their statements: YtdabllnigaafmaaDoorTotals.lean).
  GIVEN WITH THE SEED: the statements are not yours to turn. If you find one false, say at which input.
  Laid BY PROGRAM, IN A SANDBOX (cutbox-rows.mjs): the forced cells as the released guide's own fill.sh prints them over the translation 54f5bfebae91fc43… (all of the seat's roots in one cut). By AI agents, Wed Nov 11 2026. No macro, syntax, notation, axiom, sorry.
-/
import Derived.Test.YtdabllnigaafmaaDoorChecked
import GoSem.Claim
import GoSem.ClaimJoined
import GoSem.ClaimMapViews
import Derived.JoinedTies
import Derived.KernelRfl
namespace Go.Proofs.YtdabllnigaafmaaDoor
/- THE CELL 'sum', in the pinned program and in every row, IS THE sha256 OF THE DUMP (.gsa) THAT YtdabllnigaafmaaDoorProg.lean LOADS. Nothing in Lean hashes anything: it is a label: what it is worth is what the hold of that sum in a sandbox is worth. -/
noncomputable def Tryd.pinned : Pinned := { name := "ytdabllnigaafmaadoor", sum := "54f5bfebae91fc43854b3b12c1821ce2ad18eefa7aaf93498b45ef2b64e2d4d3", checked := Tryd.checked }
namespace Rows
def none {H : Type} : Left H := { results := [], args := [] }

/- WHAT THE LISTED PACKAGE-LEVEL VARIABLES READ AS WHEN THE CALL BEGINS. Each datum BY PROGRAM (the guide's laid-datum.mjs) off the statement by which the dump's own 'gosem.cut.vars' lays the variable. In a bare row this is a premise. The card (YtdabllnigaafmaaDoorCards.lean) ties it to the program's text. -/
def laid_loop_example_g00654_impl_errRange {H : Type} : DataW H := .iface "*errors.errorString" (.ptr (.agg [.lit (.string [111, 117, 116, 32, 111, 102, 32, 105, 116, 115, 32, 98, 111, 117, 110, 100, 115])]))
def laid_loop_example_g00654_impl_errSize {H : Type} : DataW H := .iface "*errors.errorString" (.ptr (.agg [.lit (.string [111, 102, 32, 97, 110, 111, 116, 104, 101, 114, 32, 108, 101, 110, 103, 116, 104])]))
def laid_loop_example_g00654_impl_errForm {H : Type} : DataW H := .iface "*errors.errorString" (.ptr (.agg [.lit (.string [111, 102, 32, 110, 111, 32, 115, 117, 99, 104, 32, 102, 111, 114, 109])]))
def laid_loop_example_g00654_impl_errSum {H : Type} : DataW H := .iface "*errors.errorString" (.ptr (.agg [.lit (.string [110, 111, 116, 32, 116, 104, 101, 32, 115, 117, 109, 32, 111, 102, 32, 119, 104, 97, 116, 32, 105, 115, 32, 97, 104, 101, 97, 100])]))
def laid_loop_example_g00654_impl_errEnd {H : Type} : DataW H := .iface "*errors.errorString" (.ptr (.agg [.lit (.string [99, 117, 116, 32, 111, 102, 102])]))
def laid_loop_example_g00654_impl_relocNames {H : Type} : DataW H := .agg [.lit (.string []), .lit (.string [104, 105, 50, 48]), .lit (.string [108, 111, 49, 50, 105]), .lit (.string [108, 111, 49, 50, 115]), .lit (.string [112, 99, 104, 105, 50, 48]), .lit (.string [112, 99, 108, 111, 49, 50, 105]), .lit (.string [112, 99, 108, 111, 49, 50, 115]), .lit (.string [106, 97, 108]), .lit (.string [98, 114, 97, 110, 99, 104]), .lit (.string [119, 111, 114, 100, 54, 52])]

/-- 'laws.FnSplit': WHATEVER THE INPUT: true; the input reads as it did. -/
def fnSplitSpec : ChangeSpec := { name := "fnSplit", vars := ["loop.example/g00654/impl.errRange", "loop.example/g00654/impl.errSize", "loop.example/g00654/impl.errForm", "loop.example/g00654/impl.errSum", "loop.example/g00654/impl.errEnd", "loop.example/g00654/impl.relocNames"], fn := fun _ => fun
  | [d1, d2, g1, g2, g3, g4, g5, g6] => { results := [.lit (.bool true)], args := [d1, d2], vars := [g1, g2, g3, g4, g5, g6] }
  | _ => none }
def fnSplitRow : OpenClaim := { program := "ytdabllnigaafmaadoor", sum := "54f5bfebae91fc43854b3b12c1821ce2ad18eefa7aaf93498b45ef2b64e2d4d3", func := "loop.example/g00654/laws.FnSplit", spec := "fnSplit", inPlace := ["internal/reflectlite.TypeOf"], unfollowed := true, recurses := true, named := ["loop.example/g00654/impl.errRange", "loop.example/g00654/impl.errSize", "loop.example/g00654/impl.errForm", "loop.example/g00654/impl.errSum", "loop.example/g00654/impl.errEnd", "loop.example/g00654/impl.relocNames"], ifaces := true, apart := false, laid := [("loop.example/g00654/impl.errRange", laid_loop_example_g00654_impl_errRange), ("loop.example/g00654/impl.errSize", laid_loop_example_g00654_impl_errSize), ("loop.example/g00654/impl.errForm", laid_loop_example_g00654_impl_errForm), ("loop.example/g00654/impl.errSum", laid_loop_example_g00654_impl_errSum), ("loop.example/g00654/impl.errEnd", laid_loop_example_g00654_impl_errEnd), ("loop.example/g00654/impl.relocNames", laid_loop_example_g00654_impl_relocNames)] }
def FnSplitSaid : Prop := fnSplitRow.holds Tryd.pinned (OpenSpec.ofChange fnSplitSpec)

/-- ITS FALSE NEIGHBOUR: 'it returns false'. Refute it at one input. -/
def fnSplitWrong : ChangeSpec := { name := "fnSplit", vars := ["loop.example/g00654/impl.errRange", "loop.example/g00654/impl.errSize", "loop.example/g00654/impl.errForm", "loop.example/g00654/impl.errSum", "loop.example/g00654/impl.errEnd", "loop.example/g00654/impl.relocNames"], fn := fun _ => fun
  | [d1, d2, g1, g2, g3, g4, g5, g6] => { results := [.lit (.bool false)], args := [d1, d2], vars := [g1, g2, g3, g4, g5, g6] }
  | _ => none }
def FnSplitWrongFalsely : Prop := fnSplitRow.holds Tryd.pinned (OpenSpec.ofChange fnSplitWrong)

/-- 'laws.FnExactSplitAddress': WHATEVER THE INPUT: true; the input reads as it did. -/
def fnExactSplitAddressSpec : ChangeSpec := { name := "fnExactSplitAddress", vars := ["loop.example/g00654/impl.errRange", "loop.example/g00654/impl.errSize", "loop.example/g00654/impl.errForm", "loop.example/g00654/impl.errSum", "loop.example/g00654/impl.errEnd"], fn := fun _ => fun
  | [d, g1, g2, g3, g4, g5] => { results := [.lit (.bool true)], args := [d], vars := [g1, g2, g3, g4, g5] }
  | _ => none }
def fnExactSplitAddressRow : OpenClaim := { program := "ytdabllnigaafmaadoor", sum := "54f5bfebae91fc43854b3b12c1821ce2ad18eefa7aaf93498b45ef2b64e2d4d3", func := "loop.example/g00654/laws.FnExactSplitAddress", spec := "fnExactSplitAddress", inPlace := ["internal/reflectlite.TypeOf"], unfollowed := true, recurses := true, named := ["loop.example/g00654/impl.errRange", "loop.example/g00654/impl.errSize", "loop.example/g00654/impl.errForm", "loop.example/g00654/impl.errSum", "loop.example/g00654/impl.errEnd"], ifaces := true, apart := false, laid := [("loop.example/g00654/impl.errRange", laid_loop_example_g00654_impl_errRange), ("loop.example/g00654/impl.errSize", laid_loop_example_g00654_impl_errSize), ("loop.example/g00654/impl.errForm", laid_loop_example_g00654_impl_errForm), ("loop.example/g00654/impl.errSum", laid_loop_example_g00654_impl_errSum), ("loop.example/g00654/impl.errEnd", laid_loop_example_g00654_impl_errEnd)] }
def FnExactSplitAddressSaid : Prop := fnExactSplitAddressRow.holds Tryd.pinned (OpenSpec.ofChange fnExactSplitAddressSpec)

/-- ITS FALSE NEIGHBOUR: 'it returns false'. Refute it at one input. -/
def fnExactSplitAddressWrong : ChangeSpec := { name := "fnExactSplitAddress", vars := ["loop.example/g00654/impl.errRange", "loop.example/g00654/impl.errSize", "loop.example/g00654/impl.errForm", "loop.example/g00654/impl.errSum", "loop.example/g00654/impl.errEnd"], fn := fun _ => fun
  | [d, g1, g2, g3, g4, g5] => { results := [.lit (.bool false)], args := [d], vars := [g1, g2, g3, g4, g5] }
  | _ => none }
def FnExactSplitAddressWrongFalsely : Prop := fnExactSplitAddressRow.holds Tryd.pinned (OpenSpec.ofChange fnExactSplitAddressWrong)

/-- 'laws.FnExactRelocName': WHATEVER THE INPUT: true; the input reads as it did. -/
def fnExactRelocNameSpec : ChangeSpec := { name := "fnExactRelocName", vars := ["loop.example/g00654/impl.relocNames"], fn := fun _ => fun
  | [d, g1] => { results := [.lit (.bool true)], args := [d], vars := [g1] }
  | _ => none }
def fnExactRelocNameRow : OpenClaim := { program := "ytdabllnigaafmaadoor", sum := "54f5bfebae91fc43854b3b12c1821ce2ad18eefa7aaf93498b45ef2b64e2d4d3", func := "loop.example/g00654/laws.FnExactRelocName", spec := "fnExactRelocName", named := ["loop.example/g00654/impl.relocNames"], apart := false, laid := [("loop.example/g00654/impl.relocNames", laid_loop_example_g00654_impl_relocNames)] }
def FnExactRelocNameSaid : Prop := fnExactRelocNameRow.holds Tryd.pinned (OpenSpec.ofChange fnExactRelocNameSpec)

/-- ITS FALSE NEIGHBOUR: 'it returns false'. Refute it at one input. -/
def fnExactRelocNameWrong : ChangeSpec := { name := "fnExactRelocName", vars := ["loop.example/g00654/impl.relocNames"], fn := fun _ => fun
  | [d, g1] => { results := [.lit (.bool false)], args := [d], vars := [g1] }
  | _ => none }
def FnExactRelocNameWrongFalsely : Prop := fnExactRelocNameRow.holds Tryd.pinned (OpenSpec.ofChange fnExactRelocNameWrong)

/-- 'laws.FnExactRelocOf': WHATEVER THE INPUT: true; the input reads as it did. -/
def fnExactRelocOfSpec : ChangeSpec := { name := "fnExactRelocOf", vars := ["loop.example/g00654/impl.relocNames"], fn := fun _ => fun
  | [d, g1] => { results := [.lit (.bool true)], args := [d], vars := [g1] }
  | _ => none }
def fnExactRelocOfRow : OpenClaim := { program := "ytdabllnigaafmaadoor", sum := "54f5bfebae91fc43854b3b12c1821ce2ad18eefa7aaf93498b45ef2b64e2d4d3", func := "loop.example/g00654/laws.FnExactRelocOf", spec := "fnExactRelocOf", named := ["loop.example/g00654/impl.relocNames"], apart := false, laid := [("loop.example/g00654/impl.relocNames", laid_loop_example_g00654_impl_relocNames)] }
def FnExactRelocOfSaid : Prop := fnExactRelocOfRow.holds Tryd.pinned (OpenSpec.ofChange fnExactRelocOfSpec)

/-- ITS FALSE NEIGHBOUR: 'it returns false'. Refute it at one input. -/
def fnExactRelocOfWrong : ChangeSpec := { name := "fnExactRelocOf", vars := ["loop.example/g00654/impl.relocNames"], fn := fun _ => fun
  | [d, g1] => { results := [.lit (.bool false)], args := [d], vars := [g1] }
  | _ => none }
def FnExactRelocOfWrongFalsely : Prop := fnExactRelocOfRow.holds Tryd.pinned (OpenSpec.ofChange fnExactRelocOfWrong)

/- THE SECOND FORM. 'bulk': how many values and letters a reading holds, each counted each time it is reached (what is shared counts as often as it is met; a slice's spare places count too). A statement '..UptoSaid' is the law's where the arguments, and the package variables that the reading takes, are together of bulk at most 1048576: NARROWER than '..Said'. Prove '..Said' where nothing that the law and all that it calls make is longer than what came in: it says more and counts as full. Else prove '..UptoSaid'. A law counts once. -/
mutual
def uptoBulk {H : Type} : DataW H → Nat
  | .lit (.string bytes) => bytes.length + 1
  | .lit _ => 1
  | .nil => 1
  | .ptr d => uptoBulk d + 1
  | .slice elems spare => uptoBulkAll elems + uptoBulkAll spare + 1
  | .agg parts => uptoBulkAll parts + 1
  | .iface _ d => uptoBulk d + 1
  | .map entries => uptoBulkEntries entries + 1
  | .held _ => 1
def uptoBulkAll {H : Type} : List (DataW H) → Nat
  | [] => 0
  | d :: r => uptoBulk d + uptoBulkAll r
def uptoBulkEntries {H : Type} : List (Lit × DataW H) → Nat
  | [] => 0
  | x :: r => uptoBulkEntry x + uptoBulkEntries r
def uptoBulkEntry {H : Type} : Lit × DataW H → Nat
  | (.string bytes, d) => bytes.length + uptoBulk d + 1
  | (_, d) => uptoBulk d + 1
 end
def uptoSmall : (H : Type) → List (DataW H) → Bool := fun _ ds => decide (uptoBulkAll ds ≤ 1048576)
def OpenSpec.upto (s : _root_.Go.ChangeSpec) : _root_.Go.OpenSpec := { _root_.Go.OpenSpec.ofChange s with cond := some uptoSmall }

/-- 'laws.FnSplit', WHERE WHAT IT READS IS OF BULK AT MOST 1048576: true; the input reads as it did. -/
def fnSplitUptoRow : OpenClaim := { program := "ytdabllnigaafmaadoor", sum := "54f5bfebae91fc43854b3b12c1821ce2ad18eefa7aaf93498b45ef2b64e2d4d3", func := "loop.example/g00654/laws.FnSplit", spec := "fnSplit", inPlace := ["internal/reflectlite.TypeOf"], unfollowed := true, recurses := true, named := ["loop.example/g00654/impl.errRange", "loop.example/g00654/impl.errSize", "loop.example/g00654/impl.errForm", "loop.example/g00654/impl.errSum", "loop.example/g00654/impl.errEnd", "loop.example/g00654/impl.relocNames"], ifaces := true, apart := false, laid := [("loop.example/g00654/impl.errRange", laid_loop_example_g00654_impl_errRange), ("loop.example/g00654/impl.errSize", laid_loop_example_g00654_impl_errSize), ("loop.example/g00654/impl.errForm", laid_loop_example_g00654_impl_errForm), ("loop.example/g00654/impl.errSum", laid_loop_example_g00654_impl_errSum), ("loop.example/g00654/impl.errEnd", laid_loop_example_g00654_impl_errEnd), ("loop.example/g00654/impl.relocNames", laid_loop_example_g00654_impl_relocNames)], narrowed := true }
def FnSplitUptoSaid : Prop := fnSplitUptoRow.holds Tryd.pinned (OpenSpec.upto fnSplitSpec)

/-- 'laws.FnExactSplitAddress', WHERE WHAT IT READS IS OF BULK AT MOST 1048576: true; the input reads as it did. -/
def fnExactSplitAddressUptoRow : OpenClaim := { program := "ytdabllnigaafmaadoor", sum := "54f5bfebae91fc43854b3b12c1821ce2ad18eefa7aaf93498b45ef2b64e2d4d3", func := "loop.example/g00654/laws.FnExactSplitAddress", spec := "fnExactSplitAddress", inPlace := ["internal/reflectlite.TypeOf"], unfollowed := true, recurses := true, named := ["loop.example/g00654/impl.errRange", "loop.example/g00654/impl.errSize", "loop.example/g00654/impl.errForm", "loop.example/g00654/impl.errSum", "loop.example/g00654/impl.errEnd"], ifaces := true, apart := false, laid := [("loop.example/g00654/impl.errRange", laid_loop_example_g00654_impl_errRange), ("loop.example/g00654/impl.errSize", laid_loop_example_g00654_impl_errSize), ("loop.example/g00654/impl.errForm", laid_loop_example_g00654_impl_errForm), ("loop.example/g00654/impl.errSum", laid_loop_example_g00654_impl_errSum), ("loop.example/g00654/impl.errEnd", laid_loop_example_g00654_impl_errEnd)], narrowed := true }
def FnExactSplitAddressUptoSaid : Prop := fnExactSplitAddressUptoRow.holds Tryd.pinned (OpenSpec.upto fnExactSplitAddressSpec)

/-- 'laws.FnExactRelocName', WHERE WHAT IT READS IS OF BULK AT MOST 1048576: true; the input reads as it did. -/
def fnExactRelocNameUptoRow : OpenClaim := { program := "ytdabllnigaafmaadoor", sum := "54f5bfebae91fc43854b3b12c1821ce2ad18eefa7aaf93498b45ef2b64e2d4d3", func := "loop.example/g00654/laws.FnExactRelocName", spec := "fnExactRelocName", named := ["loop.example/g00654/impl.relocNames"], apart := false, laid := [("loop.example/g00654/impl.relocNames", laid_loop_example_g00654_impl_relocNames)], narrowed := true }
def FnExactRelocNameUptoSaid : Prop := fnExactRelocNameUptoRow.holds Tryd.pinned (OpenSpec.upto fnExactRelocNameSpec)

/-- 'laws.FnExactRelocOf', WHERE WHAT IT READS IS OF BULK AT MOST 1048576: true; the input reads as it did. -/
def fnExactRelocOfUptoRow : OpenClaim := { program := "ytdabllnigaafmaadoor", sum := "54f5bfebae91fc43854b3b12c1821ce2ad18eefa7aaf93498b45ef2b64e2d4d3", func := "loop.example/g00654/laws.FnExactRelocOf", spec := "fnExactRelocOf", named := ["loop.example/g00654/impl.relocNames"], apart := false, laid := [("loop.example/g00654/impl.relocNames", laid_loop_example_g00654_impl_relocNames)], narrowed := true }
def FnExactRelocOfUptoSaid : Prop := fnExactRelocOfUptoRow.holds Tryd.pinned (OpenSpec.upto fnExactRelocOfSpec)

end Rows
end Go.Proofs.YtdabllnigaafmaaDoor
