/-
  NARROWER THAN 'FOR EVERY INPUT', by the rows' own cells (each row's printed sentence says how): FnLittle: ifaces, laid · FnExactSignOf: ifaces, laid · FnExactPutLittle: ifaces, laid · FnExactTakeLittle: ifaces, laid · FnExactShapeOf: ifaces, laid · FnExactInstrOK: ifaces, laid · FnExactEncode: ifaces, laid · FnExactDecode: ifaces, laid · FnExactInstrText: ifaces, laid · FnExactReadInstr: ifaces, laid · FnExactSetReg: ifaces, laid.
  DERIVED. THE GIVEN ROWS OF THIS SEAT. 11 by the template 'for every input the law returns true; each argument reads behind the call as it read before'; 0 by the template 'total and deterministic' (their statements: YtjpdjalhhokghaaDoorTotals.lean).
  GIVEN WITH THE SEED: the statements are not yours to turn. If you find one false, say at which input.
  Laid BY PROGRAM, IN A SANDBOX (cutbox-rows.mjs): the forced cells as the released guide's own fill.sh prints them over the translation 11d2795af4db7dae… (all of the seat's roots in one cut). By AI agents, Wed Nov 11 2026. No macro, syntax, notation, axiom, sorry.
-/
import Derived.Test.YtjpdjalhhokghaaDoorChecked
import GoSem.Claim
import GoSem.ClaimJoined
import GoSem.ClaimMapViews
import Derived.JoinedTies
import Derived.KernelRfl
namespace Go.Proofs.YtjpdjalhhokghaaDoor
/- THE CELL 'sum', in the pinned program and in every row, IS THE sha256 OF THE DUMP (.gsa) THAT YtjpdjalhhokghaaDoorProg.lean LOADS. Nothing in Lean hashes anything: it is a label: what it is worth is what the hold of that sum in a sandbox is worth. -/
noncomputable def Tryd.pinned : Pinned := { name := "ytjpdjalhhokghaadoor", sum := "11d2795af4db7daeab76809dc6ef50e33ef226896c91872ffdc1f295939ea419", checked := Tryd.checked }
namespace Rows
def none {H : Type} : Left H := { results := [], args := [] }

/- WHAT THE LISTED PACKAGE-LEVEL VARIABLES READ AS WHEN THE CALL BEGINS. Each datum BY PROGRAM (the guide's laid-datum.mjs) off the statement by which the dump's own 'gosem.cut.vars' lays the variable. In a bare row this is a premise. The card (YtjpdjalhhokghaaDoorCards.lean) ties it to the program's text. -/
def laid_loop_example_g00654_impl_errRange {H : Type} : DataW H := .iface "*errors.errorString" (.ptr (.agg [.lit (.string [111, 117, 116, 32, 111, 102, 32, 105, 116, 115, 32, 98, 111, 117, 110, 100, 115])]))
def laid_loop_example_g00654_impl_errSize {H : Type} : DataW H := .iface "*errors.errorString" (.ptr (.agg [.lit (.string [111, 102, 32, 97, 110, 111, 116, 104, 101, 114, 32, 108, 101, 110, 103, 116, 104])]))
def laid_loop_example_g00654_impl_errForm {H : Type} : DataW H := .iface "*errors.errorString" (.ptr (.agg [.lit (.string [111, 102, 32, 110, 111, 32, 115, 117, 99, 104, 32, 102, 111, 114, 109])]))
def laid_loop_example_g00654_impl_errSum {H : Type} : DataW H := .iface "*errors.errorString" (.ptr (.agg [.lit (.string [110, 111, 116, 32, 116, 104, 101, 32, 115, 117, 109, 32, 111, 102, 32, 119, 104, 97, 116, 32, 105, 115, 32, 97, 104, 101, 97, 100])]))
def laid_loop_example_g00654_impl_errEnd {H : Type} : DataW H := .iface "*errors.errorString" (.ptr (.agg [.lit (.string [99, 117, 116, 32, 111, 102, 102])]))
def laid_math_bits_deBruijn32tab {H : Type} : DataW H := .agg [.lit (.int .u8 0), .lit (.int .u8 1), .lit (.int .u8 28), .lit (.int .u8 2), .lit (.int .u8 29), .lit (.int .u8 14), .lit (.int .u8 24), .lit (.int .u8 3), .lit (.int .u8 30), .lit (.int .u8 22), .lit (.int .u8 20), .lit (.int .u8 15), .lit (.int .u8 25), .lit (.int .u8 17), .lit (.int .u8 4), .lit (.int .u8 8), .lit (.int .u8 31), .lit (.int .u8 27), .lit (.int .u8 13), .lit (.int .u8 23), .lit (.int .u8 21), .lit (.int .u8 19), .lit (.int .u8 16), .lit (.int .u8 7), .lit (.int .u8 26), .lit (.int .u8 12), .lit (.int .u8 18), .lit (.int .u8 6), .lit (.int .u8 11), .lit (.int .u8 5), .lit (.int .u8 10), .lit (.int .u8 9)]
def laid_math_bits_deBruijn64tab {H : Type} : DataW H := .agg [.lit (.int .u8 0), .lit (.int .u8 1), .lit (.int .u8 56), .lit (.int .u8 2), .lit (.int .u8 57), .lit (.int .u8 49), .lit (.int .u8 28), .lit (.int .u8 3), .lit (.int .u8 61), .lit (.int .u8 58), .lit (.int .u8 42), .lit (.int .u8 50), .lit (.int .u8 38), .lit (.int .u8 29), .lit (.int .u8 17), .lit (.int .u8 4), .lit (.int .u8 62), .lit (.int .u8 47), .lit (.int .u8 59), .lit (.int .u8 36), .lit (.int .u8 45), .lit (.int .u8 43), .lit (.int .u8 51), .lit (.int .u8 22), .lit (.int .u8 53), .lit (.int .u8 39), .lit (.int .u8 33), .lit (.int .u8 30), .lit (.int .u8 24), .lit (.int .u8 18), .lit (.int .u8 12), .lit (.int .u8 5), .lit (.int .u8 63), .lit (.int .u8 55), .lit (.int .u8 48), .lit (.int .u8 27), .lit (.int .u8 60), .lit (.int .u8 41), .lit (.int .u8 37), .lit (.int .u8 16), .lit (.int .u8 46), .lit (.int .u8 35), .lit (.int .u8 44), .lit (.int .u8 21), .lit (.int .u8 52), .lit (.int .u8 32), .lit (.int .u8 23), .lit (.int .u8 11), .lit (.int .u8 54), .lit (.int .u8 26), .lit (.int .u8 40), .lit (.int .u8 15), .lit (.int .u8 34), .lit (.int .u8 20), .lit (.int .u8 31), .lit (.int .u8 10), .lit (.int .u8 25), .lit (.int .u8 14), .lit (.int .u8 19), .lit (.int .u8 9), .lit (.int .u8 13), .lit (.int .u8 8), .lit (.int .u8 7), .lit (.int .u8 6)]
def laid_internal_strconv_uint64pow10 {H : Type} : DataW H := .agg [.lit (.int .u64 1), .lit (.int .u64 10), .lit (.int .u64 100), .lit (.int .u64 1000), .lit (.int .u64 10000), .lit (.int .u64 100000), .lit (.int .u64 1000000), .lit (.int .u64 10000000), .lit (.int .u64 100000000), .lit (.int .u64 1000000000), .lit (.int .u64 10000000000), .lit (.int .u64 100000000000), .lit (.int .u64 1000000000000), .lit (.int .u64 10000000000000), .lit (.int .u64 100000000000000), .lit (.int .u64 1000000000000000), .lit (.int .u64 10000000000000000), .lit (.int .u64 100000000000000000), .lit (.int .u64 1000000000000000000), .lit (.int .u64 10000000000000000000)]
def laid_loop_example_g00654_impl_opNames {H : Type} : DataW H := .agg [.lit (.string []), .lit (.string [108, 117, 105]), .lit (.string [97, 117, 105, 112, 99]), .lit (.string [106, 97, 108]), .lit (.string [106, 97, 108, 114]), .lit (.string [98, 101, 113]), .lit (.string [98, 110, 101]), .lit (.string [98, 108, 116]), .lit (.string [98, 103, 101]), .lit (.string [98, 108, 116, 117]), .lit (.string [98, 103, 101, 117]), .lit (.string [108, 98]), .lit (.string [108, 104]), .lit (.string [108, 119]), .lit (.string [108, 100]), .lit (.string [108, 98, 117]), .lit (.string [108, 104, 117]), .lit (.string [108, 119, 117]), .lit (.string [115, 98]), .lit (.string [115, 104]), .lit (.string [115, 119]), .lit (.string [115, 100]), .lit (.string [97, 100, 100, 105]), .lit (.string [115, 108, 116, 105]), .lit (.string [115, 108, 116, 105, 117]), .lit (.string [120, 111, 114, 105]), .lit (.string [111, 114, 105]), .lit (.string [97, 110, 100, 105]), .lit (.string [115, 108, 108, 105]), .lit (.string [115, 114, 108, 105]), .lit (.string [115, 114, 97, 105]), .lit (.string [97, 100, 100]), .lit (.string [115, 117, 98]), .lit (.string [115, 108, 108]), .lit (.string [115, 108, 116]), .lit (.string [115, 108, 116, 117]), .lit (.string [120, 111, 114]), .lit (.string [115, 114, 108]), .lit (.string [115, 114, 97]), .lit (.string [111, 114]), .lit (.string [97, 110, 100]), .lit (.string [97, 100, 100, 105, 119]), .lit (.string [115, 108, 108, 105, 119]), .lit (.string [115, 114, 108, 105, 119]), .lit (.string [115, 114, 97, 105, 119]), .lit (.string [97, 100, 100, 119]), .lit (.string [115, 117, 98, 119]), .lit (.string [115, 108, 108, 119]), .lit (.string [115, 114, 108, 119]), .lit (.string [115, 114, 97, 119]), .lit (.string [109, 117, 108]), .lit (.string [109, 117, 108, 104]), .lit (.string [109, 117, 108, 104, 115, 117]), .lit (.string [109, 117, 108, 104, 117]), .lit (.string [100, 105, 118]), .lit (.string [100, 105, 118, 117]), .lit (.string [114, 101, 109]), .lit (.string [114, 101, 109, 117]), .lit (.string [109, 117, 108, 119]), .lit (.string [100, 105, 118, 119]), .lit (.string [100, 105, 118, 117, 119]), .lit (.string [114, 101, 109, 119]), .lit (.string [114, 101, 109, 117, 119]), .lit (.string [101, 99, 97, 108, 108]), .lit (.string [101, 98, 114, 101, 97, 107])]
def laid_strconv_ErrRange {H : Type} : DataW H := .iface "*errors.errorString" (.ptr (.agg [.lit (.string [118, 97, 108, 117, 101, 32, 111, 117, 116, 32, 111, 102, 32, 114, 97, 110, 103, 101])]))
def laid_strconv_ErrSyntax {H : Type} : DataW H := .iface "*errors.errorString" (.ptr (.agg [.lit (.string [105, 110, 118, 97, 108, 105, 100, 32, 115, 121, 110, 116, 97, 120])]))

/-- 'laws.FnLittle': WHATEVER THE INPUT: true; the input reads as it did. -/
def fnLittleSpec : ChangeSpec := { name := "fnLittle", vars := ["loop.example/g00654/impl.errRange", "loop.example/g00654/impl.errSize", "loop.example/g00654/impl.errForm", "loop.example/g00654/impl.errSum", "loop.example/g00654/impl.errEnd"], fn := fun _ => fun
  | [d1, d2, g1, g2, g3, g4, g5] => { results := [.lit (.bool true)], args := [d1, d2], vars := [g1, g2, g3, g4, g5] }
  | _ => none }
def fnLittleRow : OpenClaim := { program := "ytjpdjalhhokghaadoor", sum := "11d2795af4db7daeab76809dc6ef50e33ef226896c91872ffdc1f295939ea419", func := "loop.example/g00654/laws.FnLittle", spec := "fnLittle", inPlace := ["internal/reflectlite.TypeOf"], unfollowed := true, recurses := true, named := ["loop.example/g00654/impl.errRange", "loop.example/g00654/impl.errSize", "loop.example/g00654/impl.errForm", "loop.example/g00654/impl.errSum", "loop.example/g00654/impl.errEnd"], ifaces := true, apart := false, laid := [("loop.example/g00654/impl.errRange", laid_loop_example_g00654_impl_errRange), ("loop.example/g00654/impl.errSize", laid_loop_example_g00654_impl_errSize), ("loop.example/g00654/impl.errForm", laid_loop_example_g00654_impl_errForm), ("loop.example/g00654/impl.errSum", laid_loop_example_g00654_impl_errSum), ("loop.example/g00654/impl.errEnd", laid_loop_example_g00654_impl_errEnd)] }
def FnLittleSaid : Prop := fnLittleRow.holds Tryd.pinned (OpenSpec.ofChange fnLittleSpec)

/-- ITS FALSE NEIGHBOUR: 'it returns false'. Refute it at one input. -/
def fnLittleWrong : ChangeSpec := { name := "fnLittle", vars := ["loop.example/g00654/impl.errRange", "loop.example/g00654/impl.errSize", "loop.example/g00654/impl.errForm", "loop.example/g00654/impl.errSum", "loop.example/g00654/impl.errEnd"], fn := fun _ => fun
  | [d1, d2, g1, g2, g3, g4, g5] => { results := [.lit (.bool false)], args := [d1, d2], vars := [g1, g2, g3, g4, g5] }
  | _ => none }
def FnLittleWrongFalsely : Prop := fnLittleRow.holds Tryd.pinned (OpenSpec.ofChange fnLittleWrong)

/-- 'laws.FnExactSignOf': WHATEVER THE INPUT: true; the input reads as it did. -/
def fnExactSignOfSpec : ChangeSpec := { name := "fnExactSignOf", vars := ["loop.example/g00654/impl.errRange", "loop.example/g00654/impl.errSize", "loop.example/g00654/impl.errForm", "loop.example/g00654/impl.errSum", "loop.example/g00654/impl.errEnd"], fn := fun _ => fun
  | [d1, d2, g1, g2, g3, g4, g5] => { results := [.lit (.bool true)], args := [d1, d2], vars := [g1, g2, g3, g4, g5] }
  | _ => none }
def fnExactSignOfRow : OpenClaim := { program := "ytjpdjalhhokghaadoor", sum := "11d2795af4db7daeab76809dc6ef50e33ef226896c91872ffdc1f295939ea419", func := "loop.example/g00654/laws.FnExactSignOf", spec := "fnExactSignOf", inPlace := ["internal/reflectlite.TypeOf"], unfollowed := true, recurses := true, named := ["loop.example/g00654/impl.errRange", "loop.example/g00654/impl.errSize", "loop.example/g00654/impl.errForm", "loop.example/g00654/impl.errSum", "loop.example/g00654/impl.errEnd"], ifaces := true, apart := false, laid := [("loop.example/g00654/impl.errRange", laid_loop_example_g00654_impl_errRange), ("loop.example/g00654/impl.errSize", laid_loop_example_g00654_impl_errSize), ("loop.example/g00654/impl.errForm", laid_loop_example_g00654_impl_errForm), ("loop.example/g00654/impl.errSum", laid_loop_example_g00654_impl_errSum), ("loop.example/g00654/impl.errEnd", laid_loop_example_g00654_impl_errEnd)] }
def FnExactSignOfSaid : Prop := fnExactSignOfRow.holds Tryd.pinned (OpenSpec.ofChange fnExactSignOfSpec)

/-- ITS FALSE NEIGHBOUR: 'it returns false'. Refute it at one input. -/
def fnExactSignOfWrong : ChangeSpec := { name := "fnExactSignOf", vars := ["loop.example/g00654/impl.errRange", "loop.example/g00654/impl.errSize", "loop.example/g00654/impl.errForm", "loop.example/g00654/impl.errSum", "loop.example/g00654/impl.errEnd"], fn := fun _ => fun
  | [d1, d2, g1, g2, g3, g4, g5] => { results := [.lit (.bool false)], args := [d1, d2], vars := [g1, g2, g3, g4, g5] }
  | _ => none }
def FnExactSignOfWrongFalsely : Prop := fnExactSignOfRow.holds Tryd.pinned (OpenSpec.ofChange fnExactSignOfWrong)

/-- 'laws.FnExactPutLittle': WHATEVER THE INPUT: true; the input reads as it did. -/
def fnExactPutLittleSpec : ChangeSpec := { name := "fnExactPutLittle", vars := ["loop.example/g00654/impl.errRange", "loop.example/g00654/impl.errSize", "loop.example/g00654/impl.errForm", "loop.example/g00654/impl.errSum", "loop.example/g00654/impl.errEnd"], fn := fun _ => fun
  | [d1, d2, g1, g2, g3, g4, g5] => { results := [.lit (.bool true)], args := [d1, d2], vars := [g1, g2, g3, g4, g5] }
  | _ => none }
def fnExactPutLittleRow : OpenClaim := { program := "ytjpdjalhhokghaadoor", sum := "11d2795af4db7daeab76809dc6ef50e33ef226896c91872ffdc1f295939ea419", func := "loop.example/g00654/laws.FnExactPutLittle", spec := "fnExactPutLittle", inPlace := ["internal/reflectlite.TypeOf"], unfollowed := true, recurses := true, named := ["loop.example/g00654/impl.errRange", "loop.example/g00654/impl.errSize", "loop.example/g00654/impl.errForm", "loop.example/g00654/impl.errSum", "loop.example/g00654/impl.errEnd"], ifaces := true, apart := false, laid := [("loop.example/g00654/impl.errRange", laid_loop_example_g00654_impl_errRange), ("loop.example/g00654/impl.errSize", laid_loop_example_g00654_impl_errSize), ("loop.example/g00654/impl.errForm", laid_loop_example_g00654_impl_errForm), ("loop.example/g00654/impl.errSum", laid_loop_example_g00654_impl_errSum), ("loop.example/g00654/impl.errEnd", laid_loop_example_g00654_impl_errEnd)] }
def FnExactPutLittleSaid : Prop := fnExactPutLittleRow.holds Tryd.pinned (OpenSpec.ofChange fnExactPutLittleSpec)

/-- ITS FALSE NEIGHBOUR: 'it returns false'. Refute it at one input. -/
def fnExactPutLittleWrong : ChangeSpec := { name := "fnExactPutLittle", vars := ["loop.example/g00654/impl.errRange", "loop.example/g00654/impl.errSize", "loop.example/g00654/impl.errForm", "loop.example/g00654/impl.errSum", "loop.example/g00654/impl.errEnd"], fn := fun _ => fun
  | [d1, d2, g1, g2, g3, g4, g5] => { results := [.lit (.bool false)], args := [d1, d2], vars := [g1, g2, g3, g4, g5] }
  | _ => none }
def FnExactPutLittleWrongFalsely : Prop := fnExactPutLittleRow.holds Tryd.pinned (OpenSpec.ofChange fnExactPutLittleWrong)

/-- 'laws.FnExactTakeLittle': WHATEVER THE INPUT: true; the input reads as it did. -/
def fnExactTakeLittleSpec : ChangeSpec := { name := "fnExactTakeLittle", vars := ["loop.example/g00654/impl.errSize", "loop.example/g00654/impl.errRange", "loop.example/g00654/impl.errForm", "loop.example/g00654/impl.errSum", "loop.example/g00654/impl.errEnd"], fn := fun _ => fun
  | [d1, d2, d3, g1, g2, g3, g4, g5] => { results := [.lit (.bool true)], args := [d1, d2, d3], vars := [g1, g2, g3, g4, g5] }
  | _ => none }
def fnExactTakeLittleRow : OpenClaim := { program := "ytjpdjalhhokghaadoor", sum := "11d2795af4db7daeab76809dc6ef50e33ef226896c91872ffdc1f295939ea419", func := "loop.example/g00654/laws.FnExactTakeLittle", spec := "fnExactTakeLittle", inPlace := ["internal/reflectlite.TypeOf"], unfollowed := true, recurses := true, named := ["loop.example/g00654/impl.errSize", "loop.example/g00654/impl.errRange", "loop.example/g00654/impl.errForm", "loop.example/g00654/impl.errSum", "loop.example/g00654/impl.errEnd"], ifaces := true, apart := false, laid := [("loop.example/g00654/impl.errRange", laid_loop_example_g00654_impl_errRange), ("loop.example/g00654/impl.errSize", laid_loop_example_g00654_impl_errSize), ("loop.example/g00654/impl.errForm", laid_loop_example_g00654_impl_errForm), ("loop.example/g00654/impl.errSum", laid_loop_example_g00654_impl_errSum), ("loop.example/g00654/impl.errEnd", laid_loop_example_g00654_impl_errEnd)] }
def FnExactTakeLittleSaid : Prop := fnExactTakeLittleRow.holds Tryd.pinned (OpenSpec.ofChange fnExactTakeLittleSpec)

/-- ITS FALSE NEIGHBOUR: 'it returns false'. Refute it at one input. -/
def fnExactTakeLittleWrong : ChangeSpec := { name := "fnExactTakeLittle", vars := ["loop.example/g00654/impl.errSize", "loop.example/g00654/impl.errRange", "loop.example/g00654/impl.errForm", "loop.example/g00654/impl.errSum", "loop.example/g00654/impl.errEnd"], fn := fun _ => fun
  | [d1, d2, d3, g1, g2, g3, g4, g5] => { results := [.lit (.bool false)], args := [d1, d2, d3], vars := [g1, g2, g3, g4, g5] }
  | _ => none }
def FnExactTakeLittleWrongFalsely : Prop := fnExactTakeLittleRow.holds Tryd.pinned (OpenSpec.ofChange fnExactTakeLittleWrong)

/-- 'laws.FnExactShapeOf': WHATEVER THE INPUT: true; the input reads as it did. -/
def fnExactShapeOfSpec : ChangeSpec := { name := "fnExactShapeOf", vars := ["loop.example/g00654/impl.errRange", "loop.example/g00654/impl.errSize", "loop.example/g00654/impl.errForm", "loop.example/g00654/impl.errSum", "loop.example/g00654/impl.errEnd"], fn := fun _ => fun
  | [d, g1, g2, g3, g4, g5] => { results := [.lit (.bool true)], args := [d], vars := [g1, g2, g3, g4, g5] }
  | _ => none }
def fnExactShapeOfRow : OpenClaim := { program := "ytjpdjalhhokghaadoor", sum := "11d2795af4db7daeab76809dc6ef50e33ef226896c91872ffdc1f295939ea419", func := "loop.example/g00654/laws.FnExactShapeOf", spec := "fnExactShapeOf", inPlace := ["internal/reflectlite.TypeOf"], unfollowed := true, recurses := true, named := ["loop.example/g00654/impl.errRange", "loop.example/g00654/impl.errSize", "loop.example/g00654/impl.errForm", "loop.example/g00654/impl.errSum", "loop.example/g00654/impl.errEnd"], ifaces := true, apart := false, laid := [("loop.example/g00654/impl.errRange", laid_loop_example_g00654_impl_errRange), ("loop.example/g00654/impl.errSize", laid_loop_example_g00654_impl_errSize), ("loop.example/g00654/impl.errForm", laid_loop_example_g00654_impl_errForm), ("loop.example/g00654/impl.errSum", laid_loop_example_g00654_impl_errSum), ("loop.example/g00654/impl.errEnd", laid_loop_example_g00654_impl_errEnd)] }
def FnExactShapeOfSaid : Prop := fnExactShapeOfRow.holds Tryd.pinned (OpenSpec.ofChange fnExactShapeOfSpec)

/-- ITS FALSE NEIGHBOUR: 'it returns false'. Refute it at one input. -/
def fnExactShapeOfWrong : ChangeSpec := { name := "fnExactShapeOf", vars := ["loop.example/g00654/impl.errRange", "loop.example/g00654/impl.errSize", "loop.example/g00654/impl.errForm", "loop.example/g00654/impl.errSum", "loop.example/g00654/impl.errEnd"], fn := fun _ => fun
  | [d, g1, g2, g3, g4, g5] => { results := [.lit (.bool false)], args := [d], vars := [g1, g2, g3, g4, g5] }
  | _ => none }
def FnExactShapeOfWrongFalsely : Prop := fnExactShapeOfRow.holds Tryd.pinned (OpenSpec.ofChange fnExactShapeOfWrong)

/-- 'laws.FnExactInstrOK': WHATEVER THE INPUT: true; the input reads as it did. -/
def fnExactInstrOKSpec : ChangeSpec := { name := "fnExactInstrOK", vars := ["loop.example/g00654/impl.errRange", "loop.example/g00654/impl.errSize", "loop.example/g00654/impl.errForm", "loop.example/g00654/impl.errSum", "loop.example/g00654/impl.errEnd"], fn := fun _ => fun
  | [d, g1, g2, g3, g4, g5] => { results := [.lit (.bool true)], args := [d], vars := [g1, g2, g3, g4, g5] }
  | _ => none }
def fnExactInstrOKRow : OpenClaim := { program := "ytjpdjalhhokghaadoor", sum := "11d2795af4db7daeab76809dc6ef50e33ef226896c91872ffdc1f295939ea419", func := "loop.example/g00654/laws.FnExactInstrOK", spec := "fnExactInstrOK", inPlace := ["internal/reflectlite.TypeOf"], unfollowed := true, recurses := true, named := ["loop.example/g00654/impl.errRange", "loop.example/g00654/impl.errSize", "loop.example/g00654/impl.errForm", "loop.example/g00654/impl.errSum", "loop.example/g00654/impl.errEnd"], ifaces := true, apart := false, laid := [("loop.example/g00654/impl.errRange", laid_loop_example_g00654_impl_errRange), ("loop.example/g00654/impl.errSize", laid_loop_example_g00654_impl_errSize), ("loop.example/g00654/impl.errForm", laid_loop_example_g00654_impl_errForm), ("loop.example/g00654/impl.errSum", laid_loop_example_g00654_impl_errSum), ("loop.example/g00654/impl.errEnd", laid_loop_example_g00654_impl_errEnd)] }
def FnExactInstrOKSaid : Prop := fnExactInstrOKRow.holds Tryd.pinned (OpenSpec.ofChange fnExactInstrOKSpec)

/-- ITS FALSE NEIGHBOUR: 'it returns false'. Refute it at one input. -/
def fnExactInstrOKWrong : ChangeSpec := { name := "fnExactInstrOK", vars := ["loop.example/g00654/impl.errRange", "loop.example/g00654/impl.errSize", "loop.example/g00654/impl.errForm", "loop.example/g00654/impl.errSum", "loop.example/g00654/impl.errEnd"], fn := fun _ => fun
  | [d, g1, g2, g3, g4, g5] => { results := [.lit (.bool false)], args := [d], vars := [g1, g2, g3, g4, g5] }
  | _ => none }
def FnExactInstrOKWrongFalsely : Prop := fnExactInstrOKRow.holds Tryd.pinned (OpenSpec.ofChange fnExactInstrOKWrong)

/-- 'laws.FnExactEncode': WHATEVER THE INPUT: true; the input reads as it did. -/
def fnExactEncodeSpec : ChangeSpec := { name := "fnExactEncode", vars := ["loop.example/g00654/impl.errRange", "loop.example/g00654/impl.errSize", "loop.example/g00654/impl.errForm", "loop.example/g00654/impl.errSum", "loop.example/g00654/impl.errEnd"], fn := fun _ => fun
  | [d, g1, g2, g3, g4, g5] => { results := [.lit (.bool true)], args := [d], vars := [g1, g2, g3, g4, g5] }
  | _ => none }
def fnExactEncodeRow : OpenClaim := { program := "ytjpdjalhhokghaadoor", sum := "11d2795af4db7daeab76809dc6ef50e33ef226896c91872ffdc1f295939ea419", func := "loop.example/g00654/laws.FnExactEncode", spec := "fnExactEncode", inPlace := ["internal/reflectlite.TypeOf"], unfollowed := true, recurses := true, named := ["loop.example/g00654/impl.errRange", "loop.example/g00654/impl.errSize", "loop.example/g00654/impl.errForm", "loop.example/g00654/impl.errSum", "loop.example/g00654/impl.errEnd"], ifaces := true, apart := false, laid := [("loop.example/g00654/impl.errRange", laid_loop_example_g00654_impl_errRange), ("loop.example/g00654/impl.errSize", laid_loop_example_g00654_impl_errSize), ("loop.example/g00654/impl.errForm", laid_loop_example_g00654_impl_errForm), ("loop.example/g00654/impl.errSum", laid_loop_example_g00654_impl_errSum), ("loop.example/g00654/impl.errEnd", laid_loop_example_g00654_impl_errEnd)] }
def FnExactEncodeSaid : Prop := fnExactEncodeRow.holds Tryd.pinned (OpenSpec.ofChange fnExactEncodeSpec)

/-- ITS FALSE NEIGHBOUR: 'it returns false'. Refute it at one input. -/
def fnExactEncodeWrong : ChangeSpec := { name := "fnExactEncode", vars := ["loop.example/g00654/impl.errRange", "loop.example/g00654/impl.errSize", "loop.example/g00654/impl.errForm", "loop.example/g00654/impl.errSum", "loop.example/g00654/impl.errEnd"], fn := fun _ => fun
  | [d, g1, g2, g3, g4, g5] => { results := [.lit (.bool false)], args := [d], vars := [g1, g2, g3, g4, g5] }
  | _ => none }
def FnExactEncodeWrongFalsely : Prop := fnExactEncodeRow.holds Tryd.pinned (OpenSpec.ofChange fnExactEncodeWrong)

/-- 'laws.FnExactDecode': WHATEVER THE INPUT: true; the input reads as it did. -/
def fnExactDecodeSpec : ChangeSpec := { name := "fnExactDecode", vars := ["loop.example/g00654/impl.errRange", "loop.example/g00654/impl.errSize", "loop.example/g00654/impl.errForm", "loop.example/g00654/impl.errSum", "loop.example/g00654/impl.errEnd"], fn := fun _ => fun
  | [d, g1, g2, g3, g4, g5] => { results := [.lit (.bool true)], args := [d], vars := [g1, g2, g3, g4, g5] }
  | _ => none }
def fnExactDecodeRow : OpenClaim := { program := "ytjpdjalhhokghaadoor", sum := "11d2795af4db7daeab76809dc6ef50e33ef226896c91872ffdc1f295939ea419", func := "loop.example/g00654/laws.FnExactDecode", spec := "fnExactDecode", inPlace := ["internal/reflectlite.TypeOf"], unfollowed := true, recurses := true, named := ["loop.example/g00654/impl.errRange", "loop.example/g00654/impl.errSize", "loop.example/g00654/impl.errForm", "loop.example/g00654/impl.errSum", "loop.example/g00654/impl.errEnd"], ifaces := true, apart := false, laid := [("loop.example/g00654/impl.errRange", laid_loop_example_g00654_impl_errRange), ("loop.example/g00654/impl.errSize", laid_loop_example_g00654_impl_errSize), ("loop.example/g00654/impl.errForm", laid_loop_example_g00654_impl_errForm), ("loop.example/g00654/impl.errSum", laid_loop_example_g00654_impl_errSum), ("loop.example/g00654/impl.errEnd", laid_loop_example_g00654_impl_errEnd)] }
def FnExactDecodeSaid : Prop := fnExactDecodeRow.holds Tryd.pinned (OpenSpec.ofChange fnExactDecodeSpec)

/-- ITS FALSE NEIGHBOUR: 'it returns false'. Refute it at one input. -/
def fnExactDecodeWrong : ChangeSpec := { name := "fnExactDecode", vars := ["loop.example/g00654/impl.errRange", "loop.example/g00654/impl.errSize", "loop.example/g00654/impl.errForm", "loop.example/g00654/impl.errSum", "loop.example/g00654/impl.errEnd"], fn := fun _ => fun
  | [d, g1, g2, g3, g4, g5] => { results := [.lit (.bool false)], args := [d], vars := [g1, g2, g3, g4, g5] }
  | _ => none }
def FnExactDecodeWrongFalsely : Prop := fnExactDecodeRow.holds Tryd.pinned (OpenSpec.ofChange fnExactDecodeWrong)

/-- 'laws.FnExactInstrText': WHATEVER THE INPUT: true; the input reads as it did. -/
def fnExactInstrTextSpec : ChangeSpec := { name := "fnExactInstrText", vars := ["loop.example/g00654/impl.opNames", "loop.example/g00654/impl.errRange", "loop.example/g00654/impl.errSize", "loop.example/g00654/impl.errForm", "loop.example/g00654/impl.errSum", "loop.example/g00654/impl.errEnd"], fn := fun _ => fun
  | [d, g1, g2, g3, g4, g5, g6] => { results := [.lit (.bool true)], args := [d], vars := [g1, g2, g3, g4, g5, g6] }
  | _ => none }
def fnExactInstrTextRow : OpenClaim := { program := "ytjpdjalhhokghaadoor", sum := "11d2795af4db7daeab76809dc6ef50e33ef226896c91872ffdc1f295939ea419", func := "loop.example/g00654/laws.FnExactInstrText", spec := "fnExactInstrText", inPlace := ["internal/reflectlite.TypeOf", "internal/abi.NoEscape", "internal/bytealg.MakeNoZero"], unfollowed := true, recurses := true, named := ["loop.example/g00654/impl.opNames", "loop.example/g00654/impl.errRange", "loop.example/g00654/impl.errSize", "loop.example/g00654/impl.errForm", "loop.example/g00654/impl.errSum", "loop.example/g00654/impl.errEnd", "internal/strconv.uint64pow10", "math/bits.deBruijn32tab", "math/bits.deBruijn64tab"], ifaces := true, apart := false, laid := [("math/bits.deBruijn32tab", laid_math_bits_deBruijn32tab), ("math/bits.deBruijn64tab", laid_math_bits_deBruijn64tab), ("internal/strconv.uint64pow10", laid_internal_strconv_uint64pow10), ("loop.example/g00654/impl.errRange", laid_loop_example_g00654_impl_errRange), ("loop.example/g00654/impl.errSize", laid_loop_example_g00654_impl_errSize), ("loop.example/g00654/impl.errForm", laid_loop_example_g00654_impl_errForm), ("loop.example/g00654/impl.errSum", laid_loop_example_g00654_impl_errSum), ("loop.example/g00654/impl.errEnd", laid_loop_example_g00654_impl_errEnd), ("loop.example/g00654/impl.opNames", laid_loop_example_g00654_impl_opNames)] }
def FnExactInstrTextSaid : Prop := fnExactInstrTextRow.holds Tryd.pinned (OpenSpec.ofChange fnExactInstrTextSpec)

/-- ITS FALSE NEIGHBOUR: 'it returns false'. Refute it at one input. -/
def fnExactInstrTextWrong : ChangeSpec := { name := "fnExactInstrText", vars := ["loop.example/g00654/impl.opNames", "loop.example/g00654/impl.errRange", "loop.example/g00654/impl.errSize", "loop.example/g00654/impl.errForm", "loop.example/g00654/impl.errSum", "loop.example/g00654/impl.errEnd"], fn := fun _ => fun
  | [d, g1, g2, g3, g4, g5, g6] => { results := [.lit (.bool false)], args := [d], vars := [g1, g2, g3, g4, g5, g6] }
  | _ => none }
def FnExactInstrTextWrongFalsely : Prop := fnExactInstrTextRow.holds Tryd.pinned (OpenSpec.ofChange fnExactInstrTextWrong)

/-- 'laws.FnExactReadInstr': WHATEVER THE INPUT: true; the input reads as it did. -/
def fnExactReadInstrSpec : ChangeSpec := { name := "fnExactReadInstr", vars := ["loop.example/g00654/impl.opNames", "loop.example/g00654/impl.errRange", "loop.example/g00654/impl.errSize", "loop.example/g00654/impl.errForm", "loop.example/g00654/impl.errSum", "loop.example/g00654/impl.errEnd"], fn := fun _ => fun
  | [d, g1, g2, g3, g4, g5, g6] => { results := [.lit (.bool true)], args := [d], vars := [g1, g2, g3, g4, g5, g6] }
  | _ => none }
def fnExactReadInstrRow : OpenClaim := { program := "ytjpdjalhhokghaadoor", sum := "11d2795af4db7daeab76809dc6ef50e33ef226896c91872ffdc1f295939ea419", func := "loop.example/g00654/laws.FnExactReadInstr", spec := "fnExactReadInstr", inPlace := ["internal/reflectlite.TypeOf"], unfollowed := true, recurses := true, named := ["loop.example/g00654/impl.opNames", "strconv.ErrSyntax", "strconv.ErrRange", "internal/strconv.uint64pow10", "math/bits.deBruijn32tab", "math/bits.deBruijn64tab", "loop.example/g00654/impl.errRange", "loop.example/g00654/impl.errSize", "loop.example/g00654/impl.errForm", "loop.example/g00654/impl.errSum", "loop.example/g00654/impl.errEnd"], ifaces := true, apart := false, laid := [("math/bits.deBruijn32tab", laid_math_bits_deBruijn32tab), ("math/bits.deBruijn64tab", laid_math_bits_deBruijn64tab), ("internal/strconv.uint64pow10", laid_internal_strconv_uint64pow10), ("strconv.ErrRange", laid_strconv_ErrRange), ("strconv.ErrSyntax", laid_strconv_ErrSyntax), ("loop.example/g00654/impl.errRange", laid_loop_example_g00654_impl_errRange), ("loop.example/g00654/impl.errSize", laid_loop_example_g00654_impl_errSize), ("loop.example/g00654/impl.errForm", laid_loop_example_g00654_impl_errForm), ("loop.example/g00654/impl.errSum", laid_loop_example_g00654_impl_errSum), ("loop.example/g00654/impl.errEnd", laid_loop_example_g00654_impl_errEnd), ("loop.example/g00654/impl.opNames", laid_loop_example_g00654_impl_opNames)] }
def FnExactReadInstrSaid : Prop := fnExactReadInstrRow.holds Tryd.pinned (OpenSpec.ofChange fnExactReadInstrSpec)

/-- ITS FALSE NEIGHBOUR: 'it returns false'. Refute it at one input. -/
def fnExactReadInstrWrong : ChangeSpec := { name := "fnExactReadInstr", vars := ["loop.example/g00654/impl.opNames", "loop.example/g00654/impl.errRange", "loop.example/g00654/impl.errSize", "loop.example/g00654/impl.errForm", "loop.example/g00654/impl.errSum", "loop.example/g00654/impl.errEnd"], fn := fun _ => fun
  | [d, g1, g2, g3, g4, g5, g6] => { results := [.lit (.bool false)], args := [d], vars := [g1, g2, g3, g4, g5, g6] }
  | _ => none }
def FnExactReadInstrWrongFalsely : Prop := fnExactReadInstrRow.holds Tryd.pinned (OpenSpec.ofChange fnExactReadInstrWrong)

/-- 'laws.FnExactSetReg': WHATEVER THE INPUT: true; the input reads as it did. -/
def fnExactSetRegSpec : ChangeSpec := { name := "fnExactSetReg", vars := ["loop.example/g00654/impl.errRange", "loop.example/g00654/impl.errSize", "loop.example/g00654/impl.errForm", "loop.example/g00654/impl.errSum", "loop.example/g00654/impl.errEnd"], fn := fun _ => fun
  | [d1, d2, d3, g1, g2, g3, g4, g5] => { results := [.lit (.bool true)], args := [d1, d2, d3], vars := [g1, g2, g3, g4, g5] }
  | _ => none }
def fnExactSetRegRow : OpenClaim := { program := "ytjpdjalhhokghaadoor", sum := "11d2795af4db7daeab76809dc6ef50e33ef226896c91872ffdc1f295939ea419", func := "loop.example/g00654/laws.FnExactSetReg", spec := "fnExactSetReg", inPlace := ["internal/reflectlite.TypeOf"], unfollowed := true, recurses := true, named := ["loop.example/g00654/impl.errRange", "loop.example/g00654/impl.errSize", "loop.example/g00654/impl.errForm", "loop.example/g00654/impl.errSum", "loop.example/g00654/impl.errEnd"], ifaces := true, apart := false, laid := [("loop.example/g00654/impl.errRange", laid_loop_example_g00654_impl_errRange), ("loop.example/g00654/impl.errSize", laid_loop_example_g00654_impl_errSize), ("loop.example/g00654/impl.errForm", laid_loop_example_g00654_impl_errForm), ("loop.example/g00654/impl.errSum", laid_loop_example_g00654_impl_errSum), ("loop.example/g00654/impl.errEnd", laid_loop_example_g00654_impl_errEnd)] }
def FnExactSetRegSaid : Prop := fnExactSetRegRow.holds Tryd.pinned (OpenSpec.ofChange fnExactSetRegSpec)

/-- ITS FALSE NEIGHBOUR: 'it returns false'. Refute it at one input. -/
def fnExactSetRegWrong : ChangeSpec := { name := "fnExactSetReg", vars := ["loop.example/g00654/impl.errRange", "loop.example/g00654/impl.errSize", "loop.example/g00654/impl.errForm", "loop.example/g00654/impl.errSum", "loop.example/g00654/impl.errEnd"], fn := fun _ => fun
  | [d1, d2, d3, g1, g2, g3, g4, g5] => { results := [.lit (.bool false)], args := [d1, d2, d3], vars := [g1, g2, g3, g4, g5] }
  | _ => none }
def FnExactSetRegWrongFalsely : Prop := fnExactSetRegRow.holds Tryd.pinned (OpenSpec.ofChange fnExactSetRegWrong)

/- THE SECOND FORM. 'bulk': how many values and letters a reading holds, each counted each time it is reached (what is shared counts as often as it is met; a slice's spare places count too). A statement '..UptoSaid' is the law's where the arguments, and the package variables that the reading takes, are together of bulk at most 1048576: NARROWER than '..Said'. Prove '..Said' where nothing that the law and all that it calls make is longer than what came in: it says more and counts as full. Else prove '..UptoSaid'. A law counts once. -/
mutual
def uptoBulk {H : Type} : DataW H → Nat
  | .lit (.string bytes) => bytes.length + 1
  | .lit _ => 1
  | .nil => 1
  | .ptr d => uptoBulk d + 1
  | .slice elems spare => uptoBulkAll elems + uptoBulkAll spare + 1
  | .agg parts => uptoBulkAll parts + 1
  | .iface _ d => uptoBulk d + 1
  | .map entries => uptoBulkEntries entries + 1
  | .held _ => 1
def uptoBulkAll {H : Type} : List (DataW H) → Nat
  | [] => 0
  | d :: r => uptoBulk d + uptoBulkAll r
def uptoBulkEntries {H : Type} : List (Lit × DataW H) → Nat
  | [] => 0
  | x :: r => uptoBulkEntry x + uptoBulkEntries r
def uptoBulkEntry {H : Type} : Lit × DataW H → Nat
  | (.string bytes, d) => bytes.length + uptoBulk d + 1
  | (_, d) => uptoBulk d + 1
 end
def uptoSmall : (H : Type) → List (DataW H) → Bool := fun _ ds => decide (uptoBulkAll ds ≤ 1048576)
def OpenSpec.upto (s : _root_.Go.ChangeSpec) : _root_.Go.OpenSpec := { _root_.Go.OpenSpec.ofChange s with cond := some uptoSmall }

/-- 'laws.FnLittle', WHERE WHAT IT READS IS OF BULK AT MOST 1048576: true; the input reads as it did. -/
def fnLittleUptoRow : OpenClaim := { program := "ytjpdjalhhokghaadoor", sum := "11d2795af4db7daeab76809dc6ef50e33ef226896c91872ffdc1f295939ea419", func := "loop.example/g00654/laws.FnLittle", spec := "fnLittle", inPlace := ["internal/reflectlite.TypeOf"], unfollowed := true, recurses := true, named := ["loop.example/g00654/impl.errRange", "loop.example/g00654/impl.errSize", "loop.example/g00654/impl.errForm", "loop.example/g00654/impl.errSum", "loop.example/g00654/impl.errEnd"], ifaces := true, apart := false, laid := [("loop.example/g00654/impl.errRange", laid_loop_example_g00654_impl_errRange), ("loop.example/g00654/impl.errSize", laid_loop_example_g00654_impl_errSize), ("loop.example/g00654/impl.errForm", laid_loop_example_g00654_impl_errForm), ("loop.example/g00654/impl.errSum", laid_loop_example_g00654_impl_errSum), ("loop.example/g00654/impl.errEnd", laid_loop_example_g00654_impl_errEnd)], narrowed := true }
def FnLittleUptoSaid : Prop := fnLittleUptoRow.holds Tryd.pinned (OpenSpec.upto fnLittleSpec)

/-- 'laws.FnExactSignOf', WHERE WHAT IT READS IS OF BULK AT MOST 1048576: true; the input reads as it did. -/
def fnExactSignOfUptoRow : OpenClaim := { program := "ytjpdjalhhokghaadoor", sum := "11d2795af4db7daeab76809dc6ef50e33ef226896c91872ffdc1f295939ea419", func := "loop.example/g00654/laws.FnExactSignOf", spec := "fnExactSignOf", inPlace := ["internal/reflectlite.TypeOf"], unfollowed := true, recurses := true, named := ["loop.example/g00654/impl.errRange", "loop.example/g00654/impl.errSize", "loop.example/g00654/impl.errForm", "loop.example/g00654/impl.errSum", "loop.example/g00654/impl.errEnd"], ifaces := true, apart := false, laid := [("loop.example/g00654/impl.errRange", laid_loop_example_g00654_impl_errRange), ("loop.example/g00654/impl.errSize", laid_loop_example_g00654_impl_errSize), ("loop.example/g00654/impl.errForm", laid_loop_example_g00654_impl_errForm), ("loop.example/g00654/impl.errSum", laid_loop_example_g00654_impl_errSum), ("loop.example/g00654/impl.errEnd", laid_loop_example_g00654_impl_errEnd)], narrowed := true }
def FnExactSignOfUptoSaid : Prop := fnExactSignOfUptoRow.holds Tryd.pinned (OpenSpec.upto fnExactSignOfSpec)

/-- 'laws.FnExactPutLittle', WHERE WHAT IT READS IS OF BULK AT MOST 1048576: true; the input reads as it did. -/
def fnExactPutLittleUptoRow : OpenClaim := { program := "ytjpdjalhhokghaadoor", sum := "11d2795af4db7daeab76809dc6ef50e33ef226896c91872ffdc1f295939ea419", func := "loop.example/g00654/laws.FnExactPutLittle", spec := "fnExactPutLittle", inPlace := ["internal/reflectlite.TypeOf"], unfollowed := true, recurses := true, named := ["loop.example/g00654/impl.errRange", "loop.example/g00654/impl.errSize", "loop.example/g00654/impl.errForm", "loop.example/g00654/impl.errSum", "loop.example/g00654/impl.errEnd"], ifaces := true, apart := false, laid := [("loop.example/g00654/impl.errRange", laid_loop_example_g00654_impl_errRange), ("loop.example/g00654/impl.errSize", laid_loop_example_g00654_impl_errSize), ("loop.example/g00654/impl.errForm", laid_loop_example_g00654_impl_errForm), ("loop.example/g00654/impl.errSum", laid_loop_example_g00654_impl_errSum), ("loop.example/g00654/impl.errEnd", laid_loop_example_g00654_impl_errEnd)], narrowed := true }
def FnExactPutLittleUptoSaid : Prop := fnExactPutLittleUptoRow.holds Tryd.pinned (OpenSpec.upto fnExactPutLittleSpec)

/-- 'laws.FnExactTakeLittle', WHERE WHAT IT READS IS OF BULK AT MOST 1048576: true; the input reads as it did. -/
def fnExactTakeLittleUptoRow : OpenClaim := { program := "ytjpdjalhhokghaadoor", sum := "11d2795af4db7daeab76809dc6ef50e33ef226896c91872ffdc1f295939ea419", func := "loop.example/g00654/laws.FnExactTakeLittle", spec := "fnExactTakeLittle", inPlace := ["internal/reflectlite.TypeOf"], unfollowed := true, recurses := true, named := ["loop.example/g00654/impl.errSize", "loop.example/g00654/impl.errRange", "loop.example/g00654/impl.errForm", "loop.example/g00654/impl.errSum", "loop.example/g00654/impl.errEnd"], ifaces := true, apart := false, laid := [("loop.example/g00654/impl.errRange", laid_loop_example_g00654_impl_errRange), ("loop.example/g00654/impl.errSize", laid_loop_example_g00654_impl_errSize), ("loop.example/g00654/impl.errForm", laid_loop_example_g00654_impl_errForm), ("loop.example/g00654/impl.errSum", laid_loop_example_g00654_impl_errSum), ("loop.example/g00654/impl.errEnd", laid_loop_example_g00654_impl_errEnd)], narrowed := true }
def FnExactTakeLittleUptoSaid : Prop := fnExactTakeLittleUptoRow.holds Tryd.pinned (OpenSpec.upto fnExactTakeLittleSpec)

/-- 'laws.FnExactShapeOf', WHERE WHAT IT READS IS OF BULK AT MOST 1048576: true; the input reads as it did. -/
def fnExactShapeOfUptoRow : OpenClaim := { program := "ytjpdjalhhokghaadoor", sum := "11d2795af4db7daeab76809dc6ef50e33ef226896c91872ffdc1f295939ea419", func := "loop.example/g00654/laws.FnExactShapeOf", spec := "fnExactShapeOf", inPlace := ["internal/reflectlite.TypeOf"], unfollowed := true, recurses := true, named := ["loop.example/g00654/impl.errRange", "loop.example/g00654/impl.errSize", "loop.example/g00654/impl.errForm", "loop.example/g00654/impl.errSum", "loop.example/g00654/impl.errEnd"], ifaces := true, apart := false, laid := [("loop.example/g00654/impl.errRange", laid_loop_example_g00654_impl_errRange), ("loop.example/g00654/impl.errSize", laid_loop_example_g00654_impl_errSize), ("loop.example/g00654/impl.errForm", laid_loop_example_g00654_impl_errForm), ("loop.example/g00654/impl.errSum", laid_loop_example_g00654_impl_errSum), ("loop.example/g00654/impl.errEnd", laid_loop_example_g00654_impl_errEnd)], narrowed := true }
def FnExactShapeOfUptoSaid : Prop := fnExactShapeOfUptoRow.holds Tryd.pinned (OpenSpec.upto fnExactShapeOfSpec)

/-- 'laws.FnExactInstrOK', WHERE WHAT IT READS IS OF BULK AT MOST 1048576: true; the input reads as it did. -/
def fnExactInstrOKUptoRow : OpenClaim := { program := "ytjpdjalhhokghaadoor", sum := "11d2795af4db7daeab76809dc6ef50e33ef226896c91872ffdc1f295939ea419", func := "loop.example/g00654/laws.FnExactInstrOK", spec := "fnExactInstrOK", inPlace := ["internal/reflectlite.TypeOf"], unfollowed := true, recurses := true, named := ["loop.example/g00654/impl.errRange", "loop.example/g00654/impl.errSize", "loop.example/g00654/impl.errForm", "loop.example/g00654/impl.errSum", "loop.example/g00654/impl.errEnd"], ifaces := true, apart := false, laid := [("loop.example/g00654/impl.errRange", laid_loop_example_g00654_impl_errRange), ("loop.example/g00654/impl.errSize", laid_loop_example_g00654_impl_errSize), ("loop.example/g00654/impl.errForm", laid_loop_example_g00654_impl_errForm), ("loop.example/g00654/impl.errSum", laid_loop_example_g00654_impl_errSum), ("loop.example/g00654/impl.errEnd", laid_loop_example_g00654_impl_errEnd)], narrowed := true }
def FnExactInstrOKUptoSaid : Prop := fnExactInstrOKUptoRow.holds Tryd.pinned (OpenSpec.upto fnExactInstrOKSpec)

/-- 'laws.FnExactEncode', WHERE WHAT IT READS IS OF BULK AT MOST 1048576: true; the input reads as it did. -/
def fnExactEncodeUptoRow : OpenClaim := { program := "ytjpdjalhhokghaadoor", sum := "11d2795af4db7daeab76809dc6ef50e33ef226896c91872ffdc1f295939ea419", func := "loop.example/g00654/laws.FnExactEncode", spec := "fnExactEncode", inPlace := ["internal/reflectlite.TypeOf"], unfollowed := true, recurses := true, named := ["loop.example/g00654/impl.errRange", "loop.example/g00654/impl.errSize", "loop.example/g00654/impl.errForm", "loop.example/g00654/impl.errSum", "loop.example/g00654/impl.errEnd"], ifaces := true, apart := false, laid := [("loop.example/g00654/impl.errRange", laid_loop_example_g00654_impl_errRange), ("loop.example/g00654/impl.errSize", laid_loop_example_g00654_impl_errSize), ("loop.example/g00654/impl.errForm", laid_loop_example_g00654_impl_errForm), ("loop.example/g00654/impl.errSum", laid_loop_example_g00654_impl_errSum), ("loop.example/g00654/impl.errEnd", laid_loop_example_g00654_impl_errEnd)], narrowed := true }
def FnExactEncodeUptoSaid : Prop := fnExactEncodeUptoRow.holds Tryd.pinned (OpenSpec.upto fnExactEncodeSpec)

/-- 'laws.FnExactDecode', WHERE WHAT IT READS IS OF BULK AT MOST 1048576: true; the input reads as it did. -/
def fnExactDecodeUptoRow : OpenClaim := { program := "ytjpdjalhhokghaadoor", sum := "11d2795af4db7daeab76809dc6ef50e33ef226896c91872ffdc1f295939ea419", func := "loop.example/g00654/laws.FnExactDecode", spec := "fnExactDecode", inPlace := ["internal/reflectlite.TypeOf"], unfollowed := true, recurses := true, named := ["loop.example/g00654/impl.errRange", "loop.example/g00654/impl.errSize", "loop.example/g00654/impl.errForm", "loop.example/g00654/impl.errSum", "loop.example/g00654/impl.errEnd"], ifaces := true, apart := false, laid := [("loop.example/g00654/impl.errRange", laid_loop_example_g00654_impl_errRange), ("loop.example/g00654/impl.errSize", laid_loop_example_g00654_impl_errSize), ("loop.example/g00654/impl.errForm", laid_loop_example_g00654_impl_errForm), ("loop.example/g00654/impl.errSum", laid_loop_example_g00654_impl_errSum), ("loop.example/g00654/impl.errEnd", laid_loop_example_g00654_impl_errEnd)], narrowed := true }
def FnExactDecodeUptoSaid : Prop := fnExactDecodeUptoRow.holds Tryd.pinned (OpenSpec.upto fnExactDecodeSpec)

/-- 'laws.FnExactInstrText', WHERE WHAT IT READS IS OF BULK AT MOST 1048576: true; the input reads as it did. -/
def fnExactInstrTextUptoRow : OpenClaim := { program := "ytjpdjalhhokghaadoor", sum := "11d2795af4db7daeab76809dc6ef50e33ef226896c91872ffdc1f295939ea419", func := "loop.example/g00654/laws.FnExactInstrText", spec := "fnExactInstrText", inPlace := ["internal/reflectlite.TypeOf", "internal/abi.NoEscape", "internal/bytealg.MakeNoZero"], unfollowed := true, recurses := true, named := ["loop.example/g00654/impl.opNames", "loop.example/g00654/impl.errRange", "loop.example/g00654/impl.errSize", "loop.example/g00654/impl.errForm", "loop.example/g00654/impl.errSum", "loop.example/g00654/impl.errEnd", "internal/strconv.uint64pow10", "math/bits.deBruijn32tab", "math/bits.deBruijn64tab"], ifaces := true, apart := false, laid := [("math/bits.deBruijn32tab", laid_math_bits_deBruijn32tab), ("math/bits.deBruijn64tab", laid_math_bits_deBruijn64tab), ("internal/strconv.uint64pow10", laid_internal_strconv_uint64pow10), ("loop.example/g00654/impl.errRange", laid_loop_example_g00654_impl_errRange), ("loop.example/g00654/impl.errSize", laid_loop_example_g00654_impl_errSize), ("loop.example/g00654/impl.errForm", laid_loop_example_g00654_impl_errForm), ("loop.example/g00654/impl.errSum", laid_loop_example_g00654_impl_errSum), ("loop.example/g00654/impl.errEnd", laid_loop_example_g00654_impl_errEnd), ("loop.example/g00654/impl.opNames", laid_loop_example_g00654_impl_opNames)], narrowed := true }
def FnExactInstrTextUptoSaid : Prop := fnExactInstrTextUptoRow.holds Tryd.pinned (OpenSpec.upto fnExactInstrTextSpec)

/-- 'laws.FnExactReadInstr', WHERE WHAT IT READS IS OF BULK AT MOST 1048576: true; the input reads as it did. -/
def fnExactReadInstrUptoRow : OpenClaim := { program := "ytjpdjalhhokghaadoor", sum := "11d2795af4db7daeab76809dc6ef50e33ef226896c91872ffdc1f295939ea419", func := "loop.example/g00654/laws.FnExactReadInstr", spec := "fnExactReadInstr", inPlace := ["internal/reflectlite.TypeOf"], unfollowed := true, recurses := true, named := ["loop.example/g00654/impl.opNames", "strconv.ErrSyntax", "strconv.ErrRange", "internal/strconv.uint64pow10", "math/bits.deBruijn32tab", "math/bits.deBruijn64tab", "loop.example/g00654/impl.errRange", "loop.example/g00654/impl.errSize", "loop.example/g00654/impl.errForm", "loop.example/g00654/impl.errSum", "loop.example/g00654/impl.errEnd"], ifaces := true, apart := false, laid := [("math/bits.deBruijn32tab", laid_math_bits_deBruijn32tab), ("math/bits.deBruijn64tab", laid_math_bits_deBruijn64tab), ("internal/strconv.uint64pow10", laid_internal_strconv_uint64pow10), ("strconv.ErrRange", laid_strconv_ErrRange), ("strconv.ErrSyntax", laid_strconv_ErrSyntax), ("loop.example/g00654/impl.errRange", laid_loop_example_g00654_impl_errRange), ("loop.example/g00654/impl.errSize", laid_loop_example_g00654_impl_errSize), ("loop.example/g00654/impl.errForm", laid_loop_example_g00654_impl_errForm), ("loop.example/g00654/impl.errSum", laid_loop_example_g00654_impl_errSum), ("loop.example/g00654/impl.errEnd", laid_loop_example_g00654_impl_errEnd), ("loop.example/g00654/impl.opNames", laid_loop_example_g00654_impl_opNames)], narrowed := true }
def FnExactReadInstrUptoSaid : Prop := fnExactReadInstrUptoRow.holds Tryd.pinned (OpenSpec.upto fnExactReadInstrSpec)

/-- 'laws.FnExactSetReg', WHERE WHAT IT READS IS OF BULK AT MOST 1048576: true; the input reads as it did. -/
def fnExactSetRegUptoRow : OpenClaim := { program := "ytjpdjalhhokghaadoor", sum := "11d2795af4db7daeab76809dc6ef50e33ef226896c91872ffdc1f295939ea419", func := "loop.example/g00654/laws.FnExactSetReg", spec := "fnExactSetReg", inPlace := ["internal/reflectlite.TypeOf"], unfollowed := true, recurses := true, named := ["loop.example/g00654/impl.errRange", "loop.example/g00654/impl.errSize", "loop.example/g00654/impl.errForm", "loop.example/g00654/impl.errSum", "loop.example/g00654/impl.errEnd"], ifaces := true, apart := false, laid := [("loop.example/g00654/impl.errRange", laid_loop_example_g00654_impl_errRange), ("loop.example/g00654/impl.errSize", laid_loop_example_g00654_impl_errSize), ("loop.example/g00654/impl.errForm", laid_loop_example_g00654_impl_errForm), ("loop.example/g00654/impl.errSum", laid_loop_example_g00654_impl_errSum), ("loop.example/g00654/impl.errEnd", laid_loop_example_g00654_impl_errEnd)], narrowed := true }
def FnExactSetRegUptoSaid : Prop := fnExactSetRegUptoRow.holds Tryd.pinned (OpenSpec.upto fnExactSetRegSpec)

end Rows
end Go.Proofs.YtjpdjalhhokghaaDoor
