/-
  NARROWER THAN 'FOR EVERY INPUT', by the rows' own cells (each row's printed sentence says how): FnDecode: ifaces, laid · FnExactShapeOf: ifaces, laid · FnExactOpName: laid · FnExactOpOf: laid · FnExactInstrOK: ifaces, laid · FnExactEncode: ifaces, laid · FnExactDecode: ifaces, laid.
  DERIVED. THE GIVEN ROWS OF THIS SEAT. 7 by the template 'for every input the law returns true; each argument reads behind the call as it read before'; 0 by the template 'total and deterministic' (their statements: YtdkiamcjicbmnaaDoorTotals.lean).
  GIVEN WITH THE SEED: the statements are not yours to turn. If you find one false, say at which input.
  Laid BY PROGRAM, IN A SANDBOX (cutbox-rows.mjs): the forced cells as the released guide's own fill.sh prints them over the translation 4cda0a71989bcd06… (all of the seat's roots in one cut). By AI agents, Wed Nov 11 2026. No macro, syntax, notation, axiom, sorry.
-/
import Derived.Test.YtdkiamcjicbmnaaDoorChecked
import GoSem.Claim
import GoSem.ClaimJoined
import GoSem.ClaimMapViews
import Derived.JoinedTies
import Derived.KernelRfl
namespace Go.Proofs.YtdkiamcjicbmnaaDoor
/- THE CELL 'sum', in the pinned program and in every row, IS THE sha256 OF THE DUMP (.gsa) THAT YtdkiamcjicbmnaaDoorProg.lean LOADS. Nothing in Lean hashes anything: it is a label: what it is worth is what the hold of that sum in a sandbox is worth. -/
noncomputable def Tryd.pinned : Pinned := { name := "ytdkiamcjicbmnaadoor", sum := "4cda0a71989bcd06e81f1e3a7eb2c86a295ce31a11d649e7c076dfd82847b4ab", checked := Tryd.checked }
namespace Rows
def none {H : Type} : Left H := { results := [], args := [] }

/- WHAT THE LISTED PACKAGE-LEVEL VARIABLES READ AS WHEN THE CALL BEGINS. Each datum BY PROGRAM (the guide's laid-datum.mjs) off the statement by which the dump's own 'gosem.cut.vars' lays the variable. In a bare row this is a premise. The card (YtdkiamcjicbmnaaDoorCards.lean) ties it to the program's text. -/
def laid_loop_example_g00654_impl_errRange {H : Type} : DataW H := .iface "*errors.errorString" (.ptr (.agg [.lit (.string [111, 117, 116, 32, 111, 102, 32, 105, 116, 115, 32, 98, 111, 117, 110, 100, 115])]))
def laid_loop_example_g00654_impl_errSize {H : Type} : DataW H := .iface "*errors.errorString" (.ptr (.agg [.lit (.string [111, 102, 32, 97, 110, 111, 116, 104, 101, 114, 32, 108, 101, 110, 103, 116, 104])]))
def laid_loop_example_g00654_impl_opNames {H : Type} : DataW H := .agg [.lit (.string []), .lit (.string [108, 117, 105]), .lit (.string [97, 117, 105, 112, 99]), .lit (.string [106, 97, 108]), .lit (.string [106, 97, 108, 114]), .lit (.string [98, 101, 113]), .lit (.string [98, 110, 101]), .lit (.string [98, 108, 116]), .lit (.string [98, 103, 101]), .lit (.string [98, 108, 116, 117]), .lit (.string [98, 103, 101, 117]), .lit (.string [108, 98]), .lit (.string [108, 104]), .lit (.string [108, 119]), .lit (.string [108, 100]), .lit (.string [108, 98, 117]), .lit (.string [108, 104, 117]), .lit (.string [108, 119, 117]), .lit (.string [115, 98]), .lit (.string [115, 104]), .lit (.string [115, 119]), .lit (.string [115, 100]), .lit (.string [97, 100, 100, 105]), .lit (.string [115, 108, 116, 105]), .lit (.string [115, 108, 116, 105, 117]), .lit (.string [120, 111, 114, 105]), .lit (.string [111, 114, 105]), .lit (.string [97, 110, 100, 105]), .lit (.string [115, 108, 108, 105]), .lit (.string [115, 114, 108, 105]), .lit (.string [115, 114, 97, 105]), .lit (.string [97, 100, 100]), .lit (.string [115, 117, 98]), .lit (.string [115, 108, 108]), .lit (.string [115, 108, 116]), .lit (.string [115, 108, 116, 117]), .lit (.string [120, 111, 114]), .lit (.string [115, 114, 108]), .lit (.string [115, 114, 97]), .lit (.string [111, 114]), .lit (.string [97, 110, 100]), .lit (.string [97, 100, 100, 105, 119]), .lit (.string [115, 108, 108, 105, 119]), .lit (.string [115, 114, 108, 105, 119]), .lit (.string [115, 114, 97, 105, 119]), .lit (.string [97, 100, 100, 119]), .lit (.string [115, 117, 98, 119]), .lit (.string [115, 108, 108, 119]), .lit (.string [115, 114, 108, 119]), .lit (.string [115, 114, 97, 119]), .lit (.string [109, 117, 108]), .lit (.string [109, 117, 108, 104]), .lit (.string [109, 117, 108, 104, 115, 117]), .lit (.string [109, 117, 108, 104, 117]), .lit (.string [100, 105, 118]), .lit (.string [100, 105, 118, 117]), .lit (.string [114, 101, 109]), .lit (.string [114, 101, 109, 117]), .lit (.string [109, 117, 108, 119]), .lit (.string [100, 105, 118, 119]), .lit (.string [100, 105, 118, 117, 119]), .lit (.string [114, 101, 109, 119]), .lit (.string [114, 101, 109, 117, 119]), .lit (.string [101, 99, 97, 108, 108]), .lit (.string [101, 98, 114, 101, 97, 107])]

/-- 'laws.FnDecode': WHATEVER THE INPUT: true; the input reads as it did. -/
def fnDecodeSpec : ChangeSpec := { name := "fnDecode", vars := ["loop.example/g00654/impl.errRange", "loop.example/g00654/impl.errSize"], fn := fun _ => fun
  | [d1, d2, g1, g2] => { results := [.lit (.bool true)], args := [d1, d2], vars := [g1, g2] }
  | _ => none }
def fnDecodeRow : OpenClaim := { program := "ytdkiamcjicbmnaadoor", sum := "4cda0a71989bcd06e81f1e3a7eb2c86a295ce31a11d649e7c076dfd82847b4ab", func := "loop.example/g00654/laws.FnDecode", spec := "fnDecode", inPlace := ["internal/reflectlite.TypeOf"], unfollowed := true, recurses := true, named := ["loop.example/g00654/impl.errRange", "loop.example/g00654/impl.errSize"], ifaces := true, apart := false, laid := [("loop.example/g00654/impl.errRange", laid_loop_example_g00654_impl_errRange), ("loop.example/g00654/impl.errSize", laid_loop_example_g00654_impl_errSize)] }
def FnDecodeSaid : Prop := fnDecodeRow.holds Tryd.pinned (OpenSpec.ofChange fnDecodeSpec)

/-- ITS FALSE NEIGHBOUR: 'it returns false'. Refute it at one input. -/
def fnDecodeWrong : ChangeSpec := { name := "fnDecode", vars := ["loop.example/g00654/impl.errRange", "loop.example/g00654/impl.errSize"], fn := fun _ => fun
  | [d1, d2, g1, g2] => { results := [.lit (.bool false)], args := [d1, d2], vars := [g1, g2] }
  | _ => none }
def FnDecodeWrongFalsely : Prop := fnDecodeRow.holds Tryd.pinned (OpenSpec.ofChange fnDecodeWrong)

/-- 'laws.FnExactShapeOf': WHATEVER THE INPUT: true; the input reads as it did. -/
def fnExactShapeOfSpec : ChangeSpec := { name := "fnExactShapeOf", vars := ["loop.example/g00654/impl.errRange", "loop.example/g00654/impl.errSize"], fn := fun _ => fun
  | [d, g1, g2] => { results := [.lit (.bool true)], args := [d], vars := [g1, g2] }
  | _ => none }
def fnExactShapeOfRow : OpenClaim := { program := "ytdkiamcjicbmnaadoor", sum := "4cda0a71989bcd06e81f1e3a7eb2c86a295ce31a11d649e7c076dfd82847b4ab", func := "loop.example/g00654/laws.FnExactShapeOf", spec := "fnExactShapeOf", inPlace := ["internal/reflectlite.TypeOf"], unfollowed := true, recurses := true, named := ["loop.example/g00654/impl.errRange", "loop.example/g00654/impl.errSize"], ifaces := true, apart := false, laid := [("loop.example/g00654/impl.errRange", laid_loop_example_g00654_impl_errRange), ("loop.example/g00654/impl.errSize", laid_loop_example_g00654_impl_errSize)] }
def FnExactShapeOfSaid : Prop := fnExactShapeOfRow.holds Tryd.pinned (OpenSpec.ofChange fnExactShapeOfSpec)

/-- ITS FALSE NEIGHBOUR: 'it returns false'. Refute it at one input. -/
def fnExactShapeOfWrong : ChangeSpec := { name := "fnExactShapeOf", vars := ["loop.example/g00654/impl.errRange", "loop.example/g00654/impl.errSize"], fn := fun _ => fun
  | [d, g1, g2] => { results := [.lit (.bool false)], args := [d], vars := [g1, g2] }
  | _ => none }
def FnExactShapeOfWrongFalsely : Prop := fnExactShapeOfRow.holds Tryd.pinned (OpenSpec.ofChange fnExactShapeOfWrong)

/-- 'laws.FnExactOpName': WHATEVER THE INPUT: true; the input reads as it did. -/
def fnExactOpNameSpec : ChangeSpec := { name := "fnExactOpName", vars := ["loop.example/g00654/impl.opNames"], fn := fun _ => fun
  | [d, g1] => { results := [.lit (.bool true)], args := [d], vars := [g1] }
  | _ => none }
def fnExactOpNameRow : OpenClaim := { program := "ytdkiamcjicbmnaadoor", sum := "4cda0a71989bcd06e81f1e3a7eb2c86a295ce31a11d649e7c076dfd82847b4ab", func := "loop.example/g00654/laws.FnExactOpName", spec := "fnExactOpName", named := ["loop.example/g00654/impl.opNames"], apart := false, laid := [("loop.example/g00654/impl.opNames", laid_loop_example_g00654_impl_opNames)] }
def FnExactOpNameSaid : Prop := fnExactOpNameRow.holds Tryd.pinned (OpenSpec.ofChange fnExactOpNameSpec)

/-- ITS FALSE NEIGHBOUR: 'it returns false'. Refute it at one input. -/
def fnExactOpNameWrong : ChangeSpec := { name := "fnExactOpName", vars := ["loop.example/g00654/impl.opNames"], fn := fun _ => fun
  | [d, g1] => { results := [.lit (.bool false)], args := [d], vars := [g1] }
  | _ => none }
def FnExactOpNameWrongFalsely : Prop := fnExactOpNameRow.holds Tryd.pinned (OpenSpec.ofChange fnExactOpNameWrong)

/-- 'laws.FnExactOpOf': WHATEVER THE INPUT: true; the input reads as it did. -/
def fnExactOpOfSpec : ChangeSpec := { name := "fnExactOpOf", vars := ["loop.example/g00654/impl.opNames"], fn := fun _ => fun
  | [d, g1] => { results := [.lit (.bool true)], args := [d], vars := [g1] }
  | _ => none }
def fnExactOpOfRow : OpenClaim := { program := "ytdkiamcjicbmnaadoor", sum := "4cda0a71989bcd06e81f1e3a7eb2c86a295ce31a11d649e7c076dfd82847b4ab", func := "loop.example/g00654/laws.FnExactOpOf", spec := "fnExactOpOf", named := ["loop.example/g00654/impl.opNames"], apart := false, laid := [("loop.example/g00654/impl.opNames", laid_loop_example_g00654_impl_opNames)] }
def FnExactOpOfSaid : Prop := fnExactOpOfRow.holds Tryd.pinned (OpenSpec.ofChange fnExactOpOfSpec)

/-- ITS FALSE NEIGHBOUR: 'it returns false'. Refute it at one input. -/
def fnExactOpOfWrong : ChangeSpec := { name := "fnExactOpOf", vars := ["loop.example/g00654/impl.opNames"], fn := fun _ => fun
  | [d, g1] => { results := [.lit (.bool false)], args := [d], vars := [g1] }
  | _ => none }
def FnExactOpOfWrongFalsely : Prop := fnExactOpOfRow.holds Tryd.pinned (OpenSpec.ofChange fnExactOpOfWrong)

/-- 'laws.FnExactInstrOK': WHATEVER THE INPUT: true; the input reads as it did. -/
def fnExactInstrOKSpec : ChangeSpec := { name := "fnExactInstrOK", vars := ["loop.example/g00654/impl.errRange", "loop.example/g00654/impl.errSize"], fn := fun _ => fun
  | [d, g1, g2] => { results := [.lit (.bool true)], args := [d], vars := [g1, g2] }
  | _ => none }
def fnExactInstrOKRow : OpenClaim := { program := "ytdkiamcjicbmnaadoor", sum := "4cda0a71989bcd06e81f1e3a7eb2c86a295ce31a11d649e7c076dfd82847b4ab", func := "loop.example/g00654/laws.FnExactInstrOK", spec := "fnExactInstrOK", inPlace := ["internal/reflectlite.TypeOf"], unfollowed := true, recurses := true, named := ["loop.example/g00654/impl.errRange", "loop.example/g00654/impl.errSize"], ifaces := true, apart := false, laid := [("loop.example/g00654/impl.errRange", laid_loop_example_g00654_impl_errRange), ("loop.example/g00654/impl.errSize", laid_loop_example_g00654_impl_errSize)] }
def FnExactInstrOKSaid : Prop := fnExactInstrOKRow.holds Tryd.pinned (OpenSpec.ofChange fnExactInstrOKSpec)

/-- ITS FALSE NEIGHBOUR: 'it returns false'. Refute it at one input. -/
def fnExactInstrOKWrong : ChangeSpec := { name := "fnExactInstrOK", vars := ["loop.example/g00654/impl.errRange", "loop.example/g00654/impl.errSize"], fn := fun _ => fun
  | [d, g1, g2] => { results := [.lit (.bool false)], args := [d], vars := [g1, g2] }
  | _ => none }
def FnExactInstrOKWrongFalsely : Prop := fnExactInstrOKRow.holds Tryd.pinned (OpenSpec.ofChange fnExactInstrOKWrong)

/-- 'laws.FnExactEncode': WHATEVER THE INPUT: true; the input reads as it did. -/
def fnExactEncodeSpec : ChangeSpec := { name := "fnExactEncode", vars := ["loop.example/g00654/impl.errRange", "loop.example/g00654/impl.errSize"], fn := fun _ => fun
  | [d, g1, g2] => { results := [.lit (.bool true)], args := [d], vars := [g1, g2] }
  | _ => none }
def fnExactEncodeRow : OpenClaim := { program := "ytdkiamcjicbmnaadoor", sum := "4cda0a71989bcd06e81f1e3a7eb2c86a295ce31a11d649e7c076dfd82847b4ab", func := "loop.example/g00654/laws.FnExactEncode", spec := "fnExactEncode", inPlace := ["internal/reflectlite.TypeOf"], unfollowed := true, recurses := true, named := ["loop.example/g00654/impl.errRange", "loop.example/g00654/impl.errSize"], ifaces := true, apart := false, laid := [("loop.example/g00654/impl.errRange", laid_loop_example_g00654_impl_errRange), ("loop.example/g00654/impl.errSize", laid_loop_example_g00654_impl_errSize)] }
def FnExactEncodeSaid : Prop := fnExactEncodeRow.holds Tryd.pinned (OpenSpec.ofChange fnExactEncodeSpec)

/-- ITS FALSE NEIGHBOUR: 'it returns false'. Refute it at one input. -/
def fnExactEncodeWrong : ChangeSpec := { name := "fnExactEncode", vars := ["loop.example/g00654/impl.errRange", "loop.example/g00654/impl.errSize"], fn := fun _ => fun
  | [d, g1, g2] => { results := [.lit (.bool false)], args := [d], vars := [g1, g2] }
  | _ => none }
def FnExactEncodeWrongFalsely : Prop := fnExactEncodeRow.holds Tryd.pinned (OpenSpec.ofChange fnExactEncodeWrong)

/-- 'laws.FnExactDecode': WHATEVER THE INPUT: true; the input reads as it did. -/
def fnExactDecodeSpec : ChangeSpec := { name := "fnExactDecode", vars := ["loop.example/g00654/impl.errRange", "loop.example/g00654/impl.errSize"], fn := fun _ => fun
  | [d, g1, g2] => { results := [.lit (.bool true)], args := [d], vars := [g1, g2] }
  | _ => none }
def fnExactDecodeRow : OpenClaim := { program := "ytdkiamcjicbmnaadoor", sum := "4cda0a71989bcd06e81f1e3a7eb2c86a295ce31a11d649e7c076dfd82847b4ab", func := "loop.example/g00654/laws.FnExactDecode", spec := "fnExactDecode", inPlace := ["internal/reflectlite.TypeOf"], unfollowed := true, recurses := true, named := ["loop.example/g00654/impl.errRange", "loop.example/g00654/impl.errSize"], ifaces := true, apart := false, laid := [("loop.example/g00654/impl.errRange", laid_loop_example_g00654_impl_errRange), ("loop.example/g00654/impl.errSize", laid_loop_example_g00654_impl_errSize)] }
def FnExactDecodeSaid : Prop := fnExactDecodeRow.holds Tryd.pinned (OpenSpec.ofChange fnExactDecodeSpec)

/-- ITS FALSE NEIGHBOUR: 'it returns false'. Refute it at one input. -/
def fnExactDecodeWrong : ChangeSpec := { name := "fnExactDecode", vars := ["loop.example/g00654/impl.errRange", "loop.example/g00654/impl.errSize"], fn := fun _ => fun
  | [d, g1, g2] => { results := [.lit (.bool false)], args := [d], vars := [g1, g2] }
  | _ => none }
def FnExactDecodeWrongFalsely : Prop := fnExactDecodeRow.holds Tryd.pinned (OpenSpec.ofChange fnExactDecodeWrong)

/- THE SECOND FORM. 'bulk': how many values and letters a reading holds, each counted each time it is reached (what is shared counts as often as it is met; a slice's spare places count too). A statement '..UptoSaid' is the law's where the arguments, and the package variables that the reading takes, are together of bulk at most 1048576: NARROWER than '..Said'. Prove '..Said' where nothing that the law and all that it calls make is longer than what came in: it says more and counts as full. Else prove '..UptoSaid'. A law counts once. -/
mutual
def uptoBulk {H : Type} : DataW H → Nat
  | .lit (.string bytes) => bytes.length + 1
  | .lit _ => 1
  | .nil => 1
  | .ptr d => uptoBulk d + 1
  | .slice elems spare => uptoBulkAll elems + uptoBulkAll spare + 1
  | .agg parts => uptoBulkAll parts + 1
  | .iface _ d => uptoBulk d + 1
  | .map entries => uptoBulkEntries entries + 1
  | .held _ => 1
def uptoBulkAll {H : Type} : List (DataW H) → Nat
  | [] => 0
  | d :: r => uptoBulk d + uptoBulkAll r
def uptoBulkEntries {H : Type} : List (Lit × DataW H) → Nat
  | [] => 0
  | x :: r => uptoBulkEntry x + uptoBulkEntries r
def uptoBulkEntry {H : Type} : Lit × DataW H → Nat
  | (.string bytes, d) => bytes.length + uptoBulk d + 1
  | (_, d) => uptoBulk d + 1
 end
def uptoSmall : (H : Type) → List (DataW H) → Bool := fun _ ds => decide (uptoBulkAll ds ≤ 1048576)
def OpenSpec.upto (s : _root_.Go.ChangeSpec) : _root_.Go.OpenSpec := { _root_.Go.OpenSpec.ofChange s with cond := some uptoSmall }

/-- 'laws.FnDecode', WHERE WHAT IT READS IS OF BULK AT MOST 1048576: true; the input reads as it did. -/
def fnDecodeUptoRow : OpenClaim := { program := "ytdkiamcjicbmnaadoor", sum := "4cda0a71989bcd06e81f1e3a7eb2c86a295ce31a11d649e7c076dfd82847b4ab", func := "loop.example/g00654/laws.FnDecode", spec := "fnDecode", inPlace := ["internal/reflectlite.TypeOf"], unfollowed := true, recurses := true, named := ["loop.example/g00654/impl.errRange", "loop.example/g00654/impl.errSize"], ifaces := true, apart := false, laid := [("loop.example/g00654/impl.errRange", laid_loop_example_g00654_impl_errRange), ("loop.example/g00654/impl.errSize", laid_loop_example_g00654_impl_errSize)], narrowed := true }
def FnDecodeUptoSaid : Prop := fnDecodeUptoRow.holds Tryd.pinned (OpenSpec.upto fnDecodeSpec)

/-- 'laws.FnExactShapeOf', WHERE WHAT IT READS IS OF BULK AT MOST 1048576: true; the input reads as it did. -/
def fnExactShapeOfUptoRow : OpenClaim := { program := "ytdkiamcjicbmnaadoor", sum := "4cda0a71989bcd06e81f1e3a7eb2c86a295ce31a11d649e7c076dfd82847b4ab", func := "loop.example/g00654/laws.FnExactShapeOf", spec := "fnExactShapeOf", inPlace := ["internal/reflectlite.TypeOf"], unfollowed := true, recurses := true, named := ["loop.example/g00654/impl.errRange", "loop.example/g00654/impl.errSize"], ifaces := true, apart := false, laid := [("loop.example/g00654/impl.errRange", laid_loop_example_g00654_impl_errRange), ("loop.example/g00654/impl.errSize", laid_loop_example_g00654_impl_errSize)], narrowed := true }
def FnExactShapeOfUptoSaid : Prop := fnExactShapeOfUptoRow.holds Tryd.pinned (OpenSpec.upto fnExactShapeOfSpec)

/-- 'laws.FnExactOpName', WHERE WHAT IT READS IS OF BULK AT MOST 1048576: true; the input reads as it did. -/
def fnExactOpNameUptoRow : OpenClaim := { program := "ytdkiamcjicbmnaadoor", sum := "4cda0a71989bcd06e81f1e3a7eb2c86a295ce31a11d649e7c076dfd82847b4ab", func := "loop.example/g00654/laws.FnExactOpName", spec := "fnExactOpName", named := ["loop.example/g00654/impl.opNames"], apart := false, laid := [("loop.example/g00654/impl.opNames", laid_loop_example_g00654_impl_opNames)], narrowed := true }
def FnExactOpNameUptoSaid : Prop := fnExactOpNameUptoRow.holds Tryd.pinned (OpenSpec.upto fnExactOpNameSpec)

/-- 'laws.FnExactOpOf', WHERE WHAT IT READS IS OF BULK AT MOST 1048576: true; the input reads as it did. -/
def fnExactOpOfUptoRow : OpenClaim := { program := "ytdkiamcjicbmnaadoor", sum := "4cda0a71989bcd06e81f1e3a7eb2c86a295ce31a11d649e7c076dfd82847b4ab", func := "loop.example/g00654/laws.FnExactOpOf", spec := "fnExactOpOf", named := ["loop.example/g00654/impl.opNames"], apart := false, laid := [("loop.example/g00654/impl.opNames", laid_loop_example_g00654_impl_opNames)], narrowed := true }
def FnExactOpOfUptoSaid : Prop := fnExactOpOfUptoRow.holds Tryd.pinned (OpenSpec.upto fnExactOpOfSpec)

/-- 'laws.FnExactInstrOK', WHERE WHAT IT READS IS OF BULK AT MOST 1048576: true; the input reads as it did. -/
def fnExactInstrOKUptoRow : OpenClaim := { program := "ytdkiamcjicbmnaadoor", sum := "4cda0a71989bcd06e81f1e3a7eb2c86a295ce31a11d649e7c076dfd82847b4ab", func := "loop.example/g00654/laws.FnExactInstrOK", spec := "fnExactInstrOK", inPlace := ["internal/reflectlite.TypeOf"], unfollowed := true, recurses := true, named := ["loop.example/g00654/impl.errRange", "loop.example/g00654/impl.errSize"], ifaces := true, apart := false, laid := [("loop.example/g00654/impl.errRange", laid_loop_example_g00654_impl_errRange), ("loop.example/g00654/impl.errSize", laid_loop_example_g00654_impl_errSize)], narrowed := true }
def FnExactInstrOKUptoSaid : Prop := fnExactInstrOKUptoRow.holds Tryd.pinned (OpenSpec.upto fnExactInstrOKSpec)

/-- 'laws.FnExactEncode', WHERE WHAT IT READS IS OF BULK AT MOST 1048576: true; the input reads as it did. -/
def fnExactEncodeUptoRow : OpenClaim := { program := "ytdkiamcjicbmnaadoor", sum := "4cda0a71989bcd06e81f1e3a7eb2c86a295ce31a11d649e7c076dfd82847b4ab", func := "loop.example/g00654/laws.FnExactEncode", spec := "fnExactEncode", inPlace := ["internal/reflectlite.TypeOf"], unfollowed := true, recurses := true, named := ["loop.example/g00654/impl.errRange", "loop.example/g00654/impl.errSize"], ifaces := true, apart := false, laid := [("loop.example/g00654/impl.errRange", laid_loop_example_g00654_impl_errRange), ("loop.example/g00654/impl.errSize", laid_loop_example_g00654_impl_errSize)], narrowed := true }
def FnExactEncodeUptoSaid : Prop := fnExactEncodeUptoRow.holds Tryd.pinned (OpenSpec.upto fnExactEncodeSpec)

/-- 'laws.FnExactDecode', WHERE WHAT IT READS IS OF BULK AT MOST 1048576: true; the input reads as it did. -/
def fnExactDecodeUptoRow : OpenClaim := { program := "ytdkiamcjicbmnaadoor", sum := "4cda0a71989bcd06e81f1e3a7eb2c86a295ce31a11d649e7c076dfd82847b4ab", func := "loop.example/g00654/laws.FnExactDecode", spec := "fnExactDecode", inPlace := ["internal/reflectlite.TypeOf"], unfollowed := true, recurses := true, named := ["loop.example/g00654/impl.errRange", "loop.example/g00654/impl.errSize"], ifaces := true, apart := false, laid := [("loop.example/g00654/impl.errRange", laid_loop_example_g00654_impl_errRange), ("loop.example/g00654/impl.errSize", laid_loop_example_g00654_impl_errSize)], narrowed := true }
def FnExactDecodeUptoSaid : Prop := fnExactDecodeUptoRow.holds Tryd.pinned (OpenSpec.upto fnExactDecodeSpec)

end Rows
end Go.Proofs.YtdkiamcjicbmnaaDoor
