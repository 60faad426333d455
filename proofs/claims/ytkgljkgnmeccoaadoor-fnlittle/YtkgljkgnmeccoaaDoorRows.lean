/-
  NARROWER THAN 'FOR EVERY INPUT', by the rows' own cells (each row's printed sentence says how): FnFields: ifaces, laid · FnLittle: ifaces, laid · FnExactFieldOf: ifaces, laid · FnExactPutField: ifaces, laid · FnExactSignOf: ifaces, laid · FnExactPutLittle: ifaces, laid · FnExactTakeLittle: ifaces, laid.
  DERIVED. THE GIVEN ROWS OF THIS SEAT. 7 by the template 'for every input the law returns true; each argument reads behind the call as it read before'; 0 by the template 'total and deterministic' (their statements: YtkgljkgnmeccoaaDoorTotals.lean).
  GIVEN WITH THE SEED: the statements are not yours to turn. If you find one false, say at which input.
  Laid BY PROGRAM, IN A SANDBOX (cutbox-rows.mjs): the forced cells as the released guide's own fill.sh prints them over the translation d2e26a2225a4aab3… (all of the seat's roots in one cut). By AI agents, Wed Nov 11 2026. No macro, syntax, notation, axiom, sorry.
-/
import Derived.Test.YtkgljkgnmeccoaaDoorChecked
import GoSem.Claim
import GoSem.ClaimJoined
import GoSem.ClaimMapViews
import Derived.JoinedTies
import Derived.KernelRfl
namespace Go.Proofs.YtkgljkgnmeccoaaDoor
/- THE CELL 'sum', in the pinned program and in every row, IS THE sha256 OF THE DUMP (.gsa) THAT YtkgljkgnmeccoaaDoorProg.lean LOADS. Nothing in Lean hashes anything: it is a label: what it is worth is what the hold of that sum in a sandbox is worth. -/
noncomputable def Tryd.pinned : Pinned := { name := "ytkgljkgnmeccoaadoor", sum := "d2e26a2225a4aab3db55babecc54aa0e673bd31173c81434ac9998f586202e95", checked := Tryd.checked }
namespace Rows
def none {H : Type} : Left H := { results := [], args := [] }

/- WHAT THE LISTED PACKAGE-LEVEL VARIABLES READ AS WHEN THE CALL BEGINS. Each datum BY PROGRAM (the guide's laid-datum.mjs) off the statement by which the dump's own 'gosem.cut.vars' lays the variable. In a bare row this is a premise. The card (YtkgljkgnmeccoaaDoorCards.lean) ties it to the program's text. -/
def laid_loop_example_g00654_impl_errRange {H : Type} : DataW H := .iface "*errors.errorString" (.ptr (.agg [.lit (.string [111, 117, 116, 32, 111, 102, 32, 105, 116, 115, 32, 98, 111, 117, 110, 100, 115])]))
def laid_loop_example_g00654_impl_errSize {H : Type} : DataW H := .iface "*errors.errorString" (.ptr (.agg [.lit (.string [111, 102, 32, 97, 110, 111, 116, 104, 101, 114, 32, 108, 101, 110, 103, 116, 104])]))

/-- 'laws.FnFields': WHATEVER THE INPUT: true; the input reads as it did. -/
def fnFieldsSpec : ChangeSpec := { name := "fnFields", vars := ["loop.example/g00654/impl.errRange", "loop.example/g00654/impl.errSize"], fn := fun _ => fun
  | [d1, d2, g1, g2] => { results := [.lit (.bool true)], args := [d1, d2], vars := [g1, g2] }
  | _ => none }
def fnFieldsRow : OpenClaim := { program := "ytkgljkgnmeccoaadoor", sum := "d2e26a2225a4aab3db55babecc54aa0e673bd31173c81434ac9998f586202e95", func := "loop.example/g00654/laws.FnFields", spec := "fnFields", inPlace := ["internal/reflectlite.TypeOf"], unfollowed := true, recurses := true, named := ["loop.example/g00654/impl.errRange", "loop.example/g00654/impl.errSize"], ifaces := true, apart := false, laid := [("loop.example/g00654/impl.errRange", laid_loop_example_g00654_impl_errRange), ("loop.example/g00654/impl.errSize", laid_loop_example_g00654_impl_errSize)] }
def FnFieldsSaid : Prop := fnFieldsRow.holds Tryd.pinned (OpenSpec.ofChange fnFieldsSpec)

/-- ITS FALSE NEIGHBOUR: 'it returns false'. Refute it at one input. -/
def fnFieldsWrong : ChangeSpec := { name := "fnFields", vars := ["loop.example/g00654/impl.errRange", "loop.example/g00654/impl.errSize"], fn := fun _ => fun
  | [d1, d2, g1, g2] => { results := [.lit (.bool false)], args := [d1, d2], vars := [g1, g2] }
  | _ => none }
def FnFieldsWrongFalsely : Prop := fnFieldsRow.holds Tryd.pinned (OpenSpec.ofChange fnFieldsWrong)

/-- 'laws.FnLittle': WHATEVER THE INPUT: true; the input reads as it did. -/
def fnLittleSpec : ChangeSpec := { name := "fnLittle", vars := ["loop.example/g00654/impl.errRange", "loop.example/g00654/impl.errSize"], fn := fun _ => fun
  | [d1, d2, g1, g2] => { results := [.lit (.bool true)], args := [d1, d2], vars := [g1, g2] }
  | _ => none }
def fnLittleRow : OpenClaim := { program := "ytkgljkgnmeccoaadoor", sum := "d2e26a2225a4aab3db55babecc54aa0e673bd31173c81434ac9998f586202e95", func := "loop.example/g00654/laws.FnLittle", spec := "fnLittle", inPlace := ["internal/reflectlite.TypeOf"], unfollowed := true, recurses := true, named := ["loop.example/g00654/impl.errRange", "loop.example/g00654/impl.errSize"], ifaces := true, apart := false, laid := [("loop.example/g00654/impl.errRange", laid_loop_example_g00654_impl_errRange), ("loop.example/g00654/impl.errSize", laid_loop_example_g00654_impl_errSize)] }
def FnLittleSaid : Prop := fnLittleRow.holds Tryd.pinned (OpenSpec.ofChange fnLittleSpec)

/-- ITS FALSE NEIGHBOUR: 'it returns false'. Refute it at one input. -/
def fnLittleWrong : ChangeSpec := { name := "fnLittle", vars := ["loop.example/g00654/impl.errRange", "loop.example/g00654/impl.errSize"], fn := fun _ => fun
  | [d1, d2, g1, g2] => { results := [.lit (.bool false)], args := [d1, d2], vars := [g1, g2] }
  | _ => none }
def FnLittleWrongFalsely : Prop := fnLittleRow.holds Tryd.pinned (OpenSpec.ofChange fnLittleWrong)

/-- 'laws.FnExactFieldOf': WHATEVER THE INPUT: true; the input reads as it did. -/
def fnExactFieldOfSpec : ChangeSpec := { name := "fnExactFieldOf", vars := ["loop.example/g00654/impl.errRange", "loop.example/g00654/impl.errSize"], fn := fun _ => fun
  | [d1, d2, d3, g1, g2] => { results := [.lit (.bool true)], args := [d1, d2, d3], vars := [g1, g2] }
  | _ => none }
def fnExactFieldOfRow : OpenClaim := { program := "ytkgljkgnmeccoaadoor", sum := "d2e26a2225a4aab3db55babecc54aa0e673bd31173c81434ac9998f586202e95", func := "loop.example/g00654/laws.FnExactFieldOf", spec := "fnExactFieldOf", inPlace := ["internal/reflectlite.TypeOf"], unfollowed := true, recurses := true, named := ["loop.example/g00654/impl.errRange", "loop.example/g00654/impl.errSize"], ifaces := true, apart := false, laid := [("loop.example/g00654/impl.errRange", laid_loop_example_g00654_impl_errRange), ("loop.example/g00654/impl.errSize", laid_loop_example_g00654_impl_errSize)] }
def FnExactFieldOfSaid : Prop := fnExactFieldOfRow.holds Tryd.pinned (OpenSpec.ofChange fnExactFieldOfSpec)

/-- ITS FALSE NEIGHBOUR: 'it returns false'. Refute it at one input. -/
def fnExactFieldOfWrong : ChangeSpec := { name := "fnExactFieldOf", vars := ["loop.example/g00654/impl.errRange", "loop.example/g00654/impl.errSize"], fn := fun _ => fun
  | [d1, d2, d3, g1, g2] => { results := [.lit (.bool false)], args := [d1, d2, d3], vars := [g1, g2] }
  | _ => none }
def FnExactFieldOfWrongFalsely : Prop := fnExactFieldOfRow.holds Tryd.pinned (OpenSpec.ofChange fnExactFieldOfWrong)

/-- 'laws.FnExactPutField': WHATEVER THE INPUT: true; the input reads as it did. -/
def fnExactPutFieldSpec : ChangeSpec := { name := "fnExactPutField", vars := ["loop.example/g00654/impl.errRange", "loop.example/g00654/impl.errSize"], fn := fun _ => fun
  | [d1, d2, d3, d4, g1, g2] => { results := [.lit (.bool true)], args := [d1, d2, d3, d4], vars := [g1, g2] }
  | _ => none }
def fnExactPutFieldRow : OpenClaim := { program := "ytkgljkgnmeccoaadoor", sum := "d2e26a2225a4aab3db55babecc54aa0e673bd31173c81434ac9998f586202e95", func := "loop.example/g00654/laws.FnExactPutField", spec := "fnExactPutField", inPlace := ["internal/reflectlite.TypeOf"], unfollowed := true, recurses := true, named := ["loop.example/g00654/impl.errRange", "loop.example/g00654/impl.errSize"], ifaces := true, apart := false, laid := [("loop.example/g00654/impl.errRange", laid_loop_example_g00654_impl_errRange), ("loop.example/g00654/impl.errSize", laid_loop_example_g00654_impl_errSize)] }
def FnExactPutFieldSaid : Prop := fnExactPutFieldRow.holds Tryd.pinned (OpenSpec.ofChange fnExactPutFieldSpec)

/-- ITS FALSE NEIGHBOUR: 'it returns false'. Refute it at one input. -/
def fnExactPutFieldWrong : ChangeSpec := { name := "fnExactPutField", vars := ["loop.example/g00654/impl.errRange", "loop.example/g00654/impl.errSize"], fn := fun _ => fun
  | [d1, d2, d3, d4, g1, g2] => { results := [.lit (.bool false)], args := [d1, d2, d3, d4], vars := [g1, g2] }
  | _ => none }
def FnExactPutFieldWrongFalsely : Prop := fnExactPutFieldRow.holds Tryd.pinned (OpenSpec.ofChange fnExactPutFieldWrong)

/-- 'laws.FnExactSignOf': WHATEVER THE INPUT: true; the input reads as it did. -/
def fnExactSignOfSpec : ChangeSpec := { name := "fnExactSignOf", vars := ["loop.example/g00654/impl.errRange", "loop.example/g00654/impl.errSize"], fn := fun _ => fun
  | [d1, d2, g1, g2] => { results := [.lit (.bool true)], args := [d1, d2], vars := [g1, g2] }
  | _ => none }
def fnExactSignOfRow : OpenClaim := { program := "ytkgljkgnmeccoaadoor", sum := "d2e26a2225a4aab3db55babecc54aa0e673bd31173c81434ac9998f586202e95", func := "loop.example/g00654/laws.FnExactSignOf", spec := "fnExactSignOf", inPlace := ["internal/reflectlite.TypeOf"], unfollowed := true, recurses := true, named := ["loop.example/g00654/impl.errRange", "loop.example/g00654/impl.errSize"], ifaces := true, apart := false, laid := [("loop.example/g00654/impl.errRange", laid_loop_example_g00654_impl_errRange), ("loop.example/g00654/impl.errSize", laid_loop_example_g00654_impl_errSize)] }
def FnExactSignOfSaid : Prop := fnExactSignOfRow.holds Tryd.pinned (OpenSpec.ofChange fnExactSignOfSpec)

/-- ITS FALSE NEIGHBOUR: 'it returns false'. Refute it at one input. -/
def fnExactSignOfWrong : ChangeSpec := { name := "fnExactSignOf", vars := ["loop.example/g00654/impl.errRange", "loop.example/g00654/impl.errSize"], fn := fun _ => fun
  | [d1, d2, g1, g2] => { results := [.lit (.bool false)], args := [d1, d2], vars := [g1, g2] }
  | _ => none }
def FnExactSignOfWrongFalsely : Prop := fnExactSignOfRow.holds Tryd.pinned (OpenSpec.ofChange fnExactSignOfWrong)

/-- 'laws.FnExactPutLittle': WHATEVER THE INPUT: true; the input reads as it did. -/
def fnExactPutLittleSpec : ChangeSpec := { name := "fnExactPutLittle", vars := ["loop.example/g00654/impl.errRange", "loop.example/g00654/impl.errSize"], fn := fun _ => fun
  | [d1, d2, g1, g2] => { results := [.lit (.bool true)], args := [d1, d2], vars := [g1, g2] }
  | _ => none }
def fnExactPutLittleRow : OpenClaim := { program := "ytkgljkgnmeccoaadoor", sum := "d2e26a2225a4aab3db55babecc54aa0e673bd31173c81434ac9998f586202e95", func := "loop.example/g00654/laws.FnExactPutLittle", spec := "fnExactPutLittle", inPlace := ["internal/reflectlite.TypeOf"], unfollowed := true, recurses := true, named := ["loop.example/g00654/impl.errRange", "loop.example/g00654/impl.errSize"], ifaces := true, apart := false, laid := [("loop.example/g00654/impl.errRange", laid_loop_example_g00654_impl_errRange), ("loop.example/g00654/impl.errSize", laid_loop_example_g00654_impl_errSize)] }
def FnExactPutLittleSaid : Prop := fnExactPutLittleRow.holds Tryd.pinned (OpenSpec.ofChange fnExactPutLittleSpec)

/-- ITS FALSE NEIGHBOUR: 'it returns false'. Refute it at one input. -/
def fnExactPutLittleWrong : ChangeSpec := { name := "fnExactPutLittle", vars := ["loop.example/g00654/impl.errRange", "loop.example/g00654/impl.errSize"], fn := fun _ => fun
  | [d1, d2, g1, g2] => { results := [.lit (.bool false)], args := [d1, d2], vars := [g1, g2] }
  | _ => none }
def FnExactPutLittleWrongFalsely : Prop := fnExactPutLittleRow.holds Tryd.pinned (OpenSpec.ofChange fnExactPutLittleWrong)

/-- 'laws.FnExactTakeLittle': WHATEVER THE INPUT: true; the input reads as it did. -/
def fnExactTakeLittleSpec : ChangeSpec := { name := "fnExactTakeLittle", vars := ["loop.example/g00654/impl.errSize", "loop.example/g00654/impl.errRange"], fn := fun _ => fun
  | [d1, d2, d3, g1, g2] => { results := [.lit (.bool true)], args := [d1, d2, d3], vars := [g1, g2] }
  | _ => none }
def fnExactTakeLittleRow : OpenClaim := { program := "ytkgljkgnmeccoaadoor", sum := "d2e26a2225a4aab3db55babecc54aa0e673bd31173c81434ac9998f586202e95", func := "loop.example/g00654/laws.FnExactTakeLittle", spec := "fnExactTakeLittle", inPlace := ["internal/reflectlite.TypeOf"], unfollowed := true, recurses := true, named := ["loop.example/g00654/impl.errSize", "loop.example/g00654/impl.errRange"], ifaces := true, apart := false, laid := [("loop.example/g00654/impl.errRange", laid_loop_example_g00654_impl_errRange), ("loop.example/g00654/impl.errSize", laid_loop_example_g00654_impl_errSize)] }
def FnExactTakeLittleSaid : Prop := fnExactTakeLittleRow.holds Tryd.pinned (OpenSpec.ofChange fnExactTakeLittleSpec)

/-- ITS FALSE NEIGHBOUR: 'it returns false'. Refute it at one input. -/
def fnExactTakeLittleWrong : ChangeSpec := { name := "fnExactTakeLittle", vars := ["loop.example/g00654/impl.errSize", "loop.example/g00654/impl.errRange"], fn := fun _ => fun
  | [d1, d2, d3, g1, g2] => { results := [.lit (.bool false)], args := [d1, d2, d3], vars := [g1, g2] }
  | _ => none }
def FnExactTakeLittleWrongFalsely : Prop := fnExactTakeLittleRow.holds Tryd.pinned (OpenSpec.ofChange fnExactTakeLittleWrong)

/- THE SECOND FORM. 'bulk': how many values and letters a reading holds, each counted each time it is reached (what is shared counts as often as it is met; a slice's spare places count too). A statement '..UptoSaid' is the law's where the arguments, and the package variables that the reading takes, are together of bulk at most 1048576: NARROWER than '..Said'. Prove '..Said' where nothing that the law and all that it calls make is longer than what came in: it says more and counts as full. Else prove '..UptoSaid'. A law counts once. -/
mutual
def uptoBulk {H : Type} : DataW H → Nat
  | .lit (.string bytes) => bytes.length + 1
  | .lit _ => 1
  | .nil => 1
  | .ptr d => uptoBulk d + 1
  | .slice elems spare => uptoBulkAll elems + uptoBulkAll spare + 1
  | .agg parts => uptoBulkAll parts + 1
  | .iface _ d => uptoBulk d + 1
  | .map entries => uptoBulkEntries entries + 1
  | .held _ => 1
def uptoBulkAll {H : Type} : List (DataW H) → Nat
  | [] => 0
  | d :: r => uptoBulk d + uptoBulkAll r
def uptoBulkEntries {H : Type} : List (Lit × DataW H) → Nat
  | [] => 0
  | x :: r => uptoBulkEntry x + uptoBulkEntries r
def uptoBulkEntry {H : Type} : Lit × DataW H → Nat
  | (.string bytes, d) => bytes.length + uptoBulk d + 1
  | (_, d) => uptoBulk d + 1
 end
def uptoSmall : (H : Type) → List (DataW H) → Bool := fun _ ds => decide (uptoBulkAll ds ≤ 1048576)
def OpenSpec.upto (s : _root_.Go.ChangeSpec) : _root_.Go.OpenSpec := { _root_.Go.OpenSpec.ofChange s with cond := some uptoSmall }

/-- 'laws.FnFields', WHERE WHAT IT READS IS OF BULK AT MOST 1048576: true; the input reads as it did. -/
def fnFieldsUptoRow : OpenClaim := { program := "ytkgljkgnmeccoaadoor", sum := "d2e26a2225a4aab3db55babecc54aa0e673bd31173c81434ac9998f586202e95", func := "loop.example/g00654/laws.FnFields", spec := "fnFields", inPlace := ["internal/reflectlite.TypeOf"], unfollowed := true, recurses := true, named := ["loop.example/g00654/impl.errRange", "loop.example/g00654/impl.errSize"], ifaces := true, apart := false, laid := [("loop.example/g00654/impl.errRange", laid_loop_example_g00654_impl_errRange), ("loop.example/g00654/impl.errSize", laid_loop_example_g00654_impl_errSize)], narrowed := true }
def FnFieldsUptoSaid : Prop := fnFieldsUptoRow.holds Tryd.pinned (OpenSpec.upto fnFieldsSpec)

/-- 'laws.FnLittle', WHERE WHAT IT READS IS OF BULK AT MOST 1048576: true; the input reads as it did. -/
def fnLittleUptoRow : OpenClaim := { program := "ytkgljkgnmeccoaadoor", sum := "d2e26a2225a4aab3db55babecc54aa0e673bd31173c81434ac9998f586202e95", func := "loop.example/g00654/laws.FnLittle", spec := "fnLittle", inPlace := ["internal/reflectlite.TypeOf"], unfollowed := true, recurses := true, named := ["loop.example/g00654/impl.errRange", "loop.example/g00654/impl.errSize"], ifaces := true, apart := false, laid := [("loop.example/g00654/impl.errRange", laid_loop_example_g00654_impl_errRange), ("loop.example/g00654/impl.errSize", laid_loop_example_g00654_impl_errSize)], narrowed := true }
def FnLittleUptoSaid : Prop := fnLittleUptoRow.holds Tryd.pinned (OpenSpec.upto fnLittleSpec)

/-- 'laws.FnExactFieldOf', WHERE WHAT IT READS IS OF BULK AT MOST 1048576: true; the input reads as it did. -/
def fnExactFieldOfUptoRow : OpenClaim := { program := "ytkgljkgnmeccoaadoor", sum := "d2e26a2225a4aab3db55babecc54aa0e673bd31173c81434ac9998f586202e95", func := "loop.example/g00654/laws.FnExactFieldOf", spec := "fnExactFieldOf", inPlace := ["internal/reflectlite.TypeOf"], unfollowed := true, recurses := true, named := ["loop.example/g00654/impl.errRange", "loop.example/g00654/impl.errSize"], ifaces := true, apart := false, laid := [("loop.example/g00654/impl.errRange", laid_loop_example_g00654_impl_errRange), ("loop.example/g00654/impl.errSize", laid_loop_example_g00654_impl_errSize)], narrowed := true }
def FnExactFieldOfUptoSaid : Prop := fnExactFieldOfUptoRow.holds Tryd.pinned (OpenSpec.upto fnExactFieldOfSpec)

/-- 'laws.FnExactPutField', WHERE WHAT IT READS IS OF BULK AT MOST 1048576: true; the input reads as it did. -/
def fnExactPutFieldUptoRow : OpenClaim := { program := "ytkgljkgnmeccoaadoor", sum := "d2e26a2225a4aab3db55babecc54aa0e673bd31173c81434ac9998f586202e95", func := "loop.example/g00654/laws.FnExactPutField", spec := "fnExactPutField", inPlace := ["internal/reflectlite.TypeOf"], unfollowed := true, recurses := true, named := ["loop.example/g00654/impl.errRange", "loop.example/g00654/impl.errSize"], ifaces := true, apart := false, laid := [("loop.example/g00654/impl.errRange", laid_loop_example_g00654_impl_errRange), ("loop.example/g00654/impl.errSize", laid_loop_example_g00654_impl_errSize)], narrowed := true }
def FnExactPutFieldUptoSaid : Prop := fnExactPutFieldUptoRow.holds Tryd.pinned (OpenSpec.upto fnExactPutFieldSpec)

/-- 'laws.FnExactSignOf', WHERE WHAT IT READS IS OF BULK AT MOST 1048576: true; the input reads as it did. -/
def fnExactSignOfUptoRow : OpenClaim := { program := "ytkgljkgnmeccoaadoor", sum := "d2e26a2225a4aab3db55babecc54aa0e673bd31173c81434ac9998f586202e95", func := "loop.example/g00654/laws.FnExactSignOf", spec := "fnExactSignOf", inPlace := ["internal/reflectlite.TypeOf"], unfollowed := true, recurses := true, named := ["loop.example/g00654/impl.errRange", "loop.example/g00654/impl.errSize"], ifaces := true, apart := false, laid := [("loop.example/g00654/impl.errRange", laid_loop_example_g00654_impl_errRange), ("loop.example/g00654/impl.errSize", laid_loop_example_g00654_impl_errSize)], narrowed := true }
def FnExactSignOfUptoSaid : Prop := fnExactSignOfUptoRow.holds Tryd.pinned (OpenSpec.upto fnExactSignOfSpec)

/-- 'laws.FnExactPutLittle', WHERE WHAT IT READS IS OF BULK AT MOST 1048576: true; the input reads as it did. -/
def fnExactPutLittleUptoRow : OpenClaim := { program := "ytkgljkgnmeccoaadoor", sum := "d2e26a2225a4aab3db55babecc54aa0e673bd31173c81434ac9998f586202e95", func := "loop.example/g00654/laws.FnExactPutLittle", spec := "fnExactPutLittle", inPlace := ["internal/reflectlite.TypeOf"], unfollowed := true, recurses := true, named := ["loop.example/g00654/impl.errRange", "loop.example/g00654/impl.errSize"], ifaces := true, apart := false, laid := [("loop.example/g00654/impl.errRange", laid_loop_example_g00654_impl_errRange), ("loop.example/g00654/impl.errSize", laid_loop_example_g00654_impl_errSize)], narrowed := true }
def FnExactPutLittleUptoSaid : Prop := fnExactPutLittleUptoRow.holds Tryd.pinned (OpenSpec.upto fnExactPutLittleSpec)

/-- 'laws.FnExactTakeLittle', WHERE WHAT IT READS IS OF BULK AT MOST 1048576: true; the input reads as it did. -/
def fnExactTakeLittleUptoRow : OpenClaim := { program := "ytkgljkgnmeccoaadoor", sum := "d2e26a2225a4aab3db55babecc54aa0e673bd31173c81434ac9998f586202e95", func := "loop.example/g00654/laws.FnExactTakeLittle", spec := "fnExactTakeLittle", inPlace := ["internal/reflectlite.TypeOf"], unfollowed := true, recurses := true, named := ["loop.example/g00654/impl.errSize", "loop.example/g00654/impl.errRange"], ifaces := true, apart := false, laid := [("loop.example/g00654/impl.errRange", laid_loop_example_g00654_impl_errRange), ("loop.example/g00654/impl.errSize", laid_loop_example_g00654_impl_errSize)], narrowed := true }
def FnExactTakeLittleUptoSaid : Prop := fnExactTakeLittleUptoRow.holds Tryd.pinned (OpenSpec.upto fnExactTakeLittleSpec)

end Rows
end Go.Proofs.YtkgljkgnmeccoaaDoor
