/-
  No cell of these rows narrows 'for every input' (looked for: loops, veiled, ifaces, maps, wideKeys, modest, calm, conditions, laid).
  DERIVED. THE GIVEN ROWS OF THIS SEAT. 7 by the template 'for every input the law returns true; each argument reads behind the call as it read before'; 0 by the template 'total and deterministic' (their statements: YtdcjddiigipdmaaTotals.lean).
  GIVEN WITH THE SEED: the statements are not yours to turn. If you find one false, say at which input.
  Laid BY PROGRAM, IN A SANDBOX (cutbox-rows.mjs): the forced cells as the released guide's own fill.sh prints them over the translation 590995d41fcb72b9… (all of the seat's roots in one cut). By AI agents, Wed Nov 11 2026. No macro, syntax, notation, axiom, sorry.
-/
import Derived.Test.YtdcjddiigipdmaaChecked
import GoSem.Claim
import GoSem.ClaimJoined
import GoSem.ClaimMapViews
import Derived.JoinedTies
import Derived.KernelRfl
namespace Go.Proofs.Ytdcjddiigipdmaa
/- THE CELL 'sum', in the pinned program and in every row, IS THE sha256 OF THE DUMP (.gsa) THAT YtdcjddiigipdmaaProg.lean LOADS. Nothing in Lean hashes anything: it is a label: what it is worth is what the hold of that sum in a sandbox is worth. -/
noncomputable def Try.pinned : Pinned := { name := "ytdcjddiigipdmaa", sum := "590995d41fcb72b94629bfd9f6d6172bddf53131a0985287d0f7d9f5027aecaf", checked := Try.checked }
namespace Rows
def none {H : Type} : Left H := { results := [], args := [] }

/-- 'laws.FnExactLintObject': WHATEVER THE INPUT: true; the input reads as it did. -/
def fnExactLintObjectSpec : ChangeSpec := { name := "fnExactLintObject", fn := fun _ => fun
  | [d] => { results := [.lit (.bool true)], args := [d] }
  | _ => none }
def fnExactLintObjectRow : OpenClaim := { program := "ytdcjddiigipdmaa", sum := "590995d41fcb72b94629bfd9f6d6172bddf53131a0985287d0f7d9f5027aecaf", func := "loop.example/g00654/laws.FnExactLintObject", spec := "fnExactLintObject", unfollowed := true, recurses := true, apart := false }
def FnExactLintObjectSaid : Prop := fnExactLintObjectRow.holds Try.pinned (OpenSpec.ofChange fnExactLintObjectSpec)

/-- ITS FALSE NEIGHBOUR: 'it returns false'. Refute it at one input. -/
def fnExactLintObjectWrong : ChangeSpec := { name := "fnExactLintObject", fn := fun _ => fun
  | [d] => { results := [.lit (.bool false)], args := [d] }
  | _ => none }
def FnExactLintObjectWrongFalsely : Prop := fnExactLintObjectRow.holds Try.pinned (OpenSpec.ofChange fnExactLintObjectWrong)

/-- 'laws.FnExactObjectOK': WHATEVER THE INPUT: true; the input reads as it did. -/
def fnExactObjectOKSpec : ChangeSpec := { name := "fnExactObjectOK", fn := fun _ => fun
  | [d] => { results := [.lit (.bool true)], args := [d] }
  | _ => none }
def fnExactObjectOKRow : OpenClaim := { program := "ytdcjddiigipdmaa", sum := "590995d41fcb72b94629bfd9f6d6172bddf53131a0985287d0f7d9f5027aecaf", func := "loop.example/g00654/laws.FnExactObjectOK", spec := "fnExactObjectOK", unfollowed := true, recurses := true, apart := false }
def FnExactObjectOKSaid : Prop := fnExactObjectOKRow.holds Try.pinned (OpenSpec.ofChange fnExactObjectOKSpec)

/-- ITS FALSE NEIGHBOUR: 'it returns false'. Refute it at one input. -/
def fnExactObjectOKWrong : ChangeSpec := { name := "fnExactObjectOK", fn := fun _ => fun
  | [d] => { results := [.lit (.bool false)], args := [d] }
  | _ => none }
def FnExactObjectOKWrongFalsely : Prop := fnExactObjectOKRow.holds Try.pinned (OpenSpec.ofChange fnExactObjectOKWrong)

/-- 'laws.FnExactObjectText': WHATEVER THE INPUT: true; the input reads as it did. -/
def fnExactObjectTextSpec : ChangeSpec := { name := "fnExactObjectText", fn := fun _ => fun
  | [d] => { results := [.lit (.bool true)], args := [d] }
  | _ => none }
def fnExactObjectTextRow : OpenClaim := { program := "ytdcjddiigipdmaa", sum := "590995d41fcb72b94629bfd9f6d6172bddf53131a0985287d0f7d9f5027aecaf", func := "loop.example/g00654/laws.FnExactObjectText", spec := "fnExactObjectText", inPlace := ["internal/abi.NoEscape"], unfollowed := true, recurses := true, apart := false }
def FnExactObjectTextSaid : Prop := fnExactObjectTextRow.holds Try.pinned (OpenSpec.ofChange fnExactObjectTextSpec)

/-- ITS FALSE NEIGHBOUR: 'it returns false'. Refute it at one input. -/
def fnExactObjectTextWrong : ChangeSpec := { name := "fnExactObjectText", fn := fun _ => fun
  | [d] => { results := [.lit (.bool false)], args := [d] }
  | _ => none }
def FnExactObjectTextWrongFalsely : Prop := fnExactObjectTextRow.holds Try.pinned (OpenSpec.ofChange fnExactObjectTextWrong)

/-- 'laws.FnExactUnitSize': WHATEVER THE INPUT: true; the input reads as it did. -/
def fnExactUnitSizeSpec : ChangeSpec := { name := "fnExactUnitSize", fn := fun _ => fun
  | [d1, d2] => { results := [.lit (.bool true)], args := [d1, d2] }
  | _ => none }
def fnExactUnitSizeRow : OpenClaim := { program := "ytdcjddiigipdmaa", sum := "590995d41fcb72b94629bfd9f6d6172bddf53131a0985287d0f7d9f5027aecaf", func := "loop.example/g00654/laws.FnExactUnitSize", spec := "fnExactUnitSize", unfollowed := true, recurses := true, apart := false }
def FnExactUnitSizeSaid : Prop := fnExactUnitSizeRow.holds Try.pinned (OpenSpec.ofChange fnExactUnitSizeSpec)

/-- ITS FALSE NEIGHBOUR: 'it returns false'. Refute it at one input. -/
def fnExactUnitSizeWrong : ChangeSpec := { name := "fnExactUnitSize", fn := fun _ => fun
  | [d1, d2] => { results := [.lit (.bool false)], args := [d1, d2] }
  | _ => none }
def FnExactUnitSizeWrongFalsely : Prop := fnExactUnitSizeRow.holds Try.pinned (OpenSpec.ofChange fnExactUnitSizeWrong)

/-- 'laws.FnExactAddedNames': WHATEVER THE INPUT: true; the input reads as it did. -/
def fnExactAddedNamesSpec : ChangeSpec := { name := "fnExactAddedNames", fn := fun _ => fun
  | [d] => { results := [.lit (.bool true)], args := [d] }
  | _ => none }
def fnExactAddedNamesRow : OpenClaim := { program := "ytdcjddiigipdmaa", sum := "590995d41fcb72b94629bfd9f6d6172bddf53131a0985287d0f7d9f5027aecaf", func := "loop.example/g00654/laws.FnExactAddedNames", spec := "fnExactAddedNames", unfollowed := true, recurses := true, apart := false }
def FnExactAddedNamesSaid : Prop := fnExactAddedNamesRow.holds Try.pinned (OpenSpec.ofChange fnExactAddedNamesSpec)

/-- ITS FALSE NEIGHBOUR: 'it returns false'. Refute it at one input. -/
def fnExactAddedNamesWrong : ChangeSpec := { name := "fnExactAddedNames", fn := fun _ => fun
  | [d] => { results := [.lit (.bool false)], args := [d] }
  | _ => none }
def FnExactAddedNamesWrongFalsely : Prop := fnExactAddedNamesRow.holds Try.pinned (OpenSpec.ofChange fnExactAddedNamesWrong)

/-- 'laws.FnExactReplacedNames': WHATEVER THE INPUT: true; the input reads as it did. -/
def fnExactReplacedNamesSpec : ChangeSpec := { name := "fnExactReplacedNames", fn := fun _ => fun
  | [d] => { results := [.lit (.bool true)], args := [d] }
  | _ => none }
def fnExactReplacedNamesRow : OpenClaim := { program := "ytdcjddiigipdmaa", sum := "590995d41fcb72b94629bfd9f6d6172bddf53131a0985287d0f7d9f5027aecaf", func := "loop.example/g00654/laws.FnExactReplacedNames", spec := "fnExactReplacedNames", unfollowed := true, recurses := true, apart := false }
def FnExactReplacedNamesSaid : Prop := fnExactReplacedNamesRow.holds Try.pinned (OpenSpec.ofChange fnExactReplacedNamesSpec)

/-- ITS FALSE NEIGHBOUR: 'it returns false'. Refute it at one input. -/
def fnExactReplacedNamesWrong : ChangeSpec := { name := "fnExactReplacedNames", fn := fun _ => fun
  | [d] => { results := [.lit (.bool false)], args := [d] }
  | _ => none }
def FnExactReplacedNamesWrongFalsely : Prop := fnExactReplacedNamesRow.holds Try.pinned (OpenSpec.ofChange fnExactReplacedNamesWrong)

/-- 'laws.FnExactSameObject': WHATEVER THE INPUT: true; the input reads as it did. -/
def fnExactSameObjectSpec : ChangeSpec := { name := "fnExactSameObject", fn := fun _ => fun
  | [d1, d2] => { results := [.lit (.bool true)], args := [d1, d2] }
  | _ => none }
def fnExactSameObjectRow : OpenClaim := { program := "ytdcjddiigipdmaa", sum := "590995d41fcb72b94629bfd9f6d6172bddf53131a0985287d0f7d9f5027aecaf", func := "loop.example/g00654/laws.FnExactSameObject", spec := "fnExactSameObject", unfollowed := true, recurses := true, apart := false }
def FnExactSameObjectSaid : Prop := fnExactSameObjectRow.holds Try.pinned (OpenSpec.ofChange fnExactSameObjectSpec)

/-- ITS FALSE NEIGHBOUR: 'it returns false'. Refute it at one input. -/
def fnExactSameObjectWrong : ChangeSpec := { name := "fnExactSameObject", fn := fun _ => fun
  | [d1, d2] => { results := [.lit (.bool false)], args := [d1, d2] }
  | _ => none }
def FnExactSameObjectWrongFalsely : Prop := fnExactSameObjectRow.holds Try.pinned (OpenSpec.ofChange fnExactSameObjectWrong)

/- THE SECOND FORM. 'bulk': how many values and letters a reading holds, each counted each time it is reached (what is shared counts as often as it is met; a slice's spare places count too). A statement '..UptoSaid' is the law's where the arguments, and the package variables that the reading takes, are together of bulk at most 1048576: NARROWER than '..Said'. Prove '..Said' where nothing that the law and all that it calls make is longer than what came in: it says more and counts as full. Else prove '..UptoSaid'. A law counts once. -/
mutual
def uptoBulk {H : Type} : DataW H → Nat
  | .lit (.string bytes) => bytes.length + 1
  | .lit _ => 1
  | .nil => 1
  | .ptr d => uptoBulk d + 1
  | .slice elems spare => uptoBulkAll elems + uptoBulkAll spare + 1
  | .agg parts => uptoBulkAll parts + 1
  | .iface _ d => uptoBulk d + 1
  | .map entries => uptoBulkEntries entries + 1
  | .held _ => 1
def uptoBulkAll {H : Type} : List (DataW H) → Nat
  | [] => 0
  | d :: r => uptoBulk d + uptoBulkAll r
def uptoBulkEntries {H : Type} : List (Lit × DataW H) → Nat
  | [] => 0
  | x :: r => uptoBulkEntry x + uptoBulkEntries r
def uptoBulkEntry {H : Type} : Lit × DataW H → Nat
  | (.string bytes, d) => bytes.length + uptoBulk d + 1
  | (_, d) => uptoBulk d + 1
 end
def uptoSmall : (H : Type) → List (DataW H) → Bool := fun _ ds => decide (uptoBulkAll ds ≤ 1048576)
def OpenSpec.upto (s : _root_.Go.ChangeSpec) : _root_.Go.OpenSpec := { _root_.Go.OpenSpec.ofChange s with cond := some uptoSmall }

/-- 'laws.FnExactLintObject', WHERE WHAT IT READS IS OF BULK AT MOST 1048576: true; the input reads as it did. -/
def fnExactLintObjectUptoRow : OpenClaim := { program := "ytdcjddiigipdmaa", sum := "590995d41fcb72b94629bfd9f6d6172bddf53131a0985287d0f7d9f5027aecaf", func := "loop.example/g00654/laws.FnExactLintObject", spec := "fnExactLintObject", unfollowed := true, recurses := true, apart := false, narrowed := true }
def FnExactLintObjectUptoSaid : Prop := fnExactLintObjectUptoRow.holds Try.pinned (OpenSpec.upto fnExactLintObjectSpec)

/-- 'laws.FnExactObjectOK', WHERE WHAT IT READS IS OF BULK AT MOST 1048576: true; the input reads as it did. -/
def fnExactObjectOKUptoRow : OpenClaim := { program := "ytdcjddiigipdmaa", sum := "590995d41fcb72b94629bfd9f6d6172bddf53131a0985287d0f7d9f5027aecaf", func := "loop.example/g00654/laws.FnExactObjectOK", spec := "fnExactObjectOK", unfollowed := true, recurses := true, apart := false, narrowed := true }
def FnExactObjectOKUptoSaid : Prop := fnExactObjectOKUptoRow.holds Try.pinned (OpenSpec.upto fnExactObjectOKSpec)

/-- 'laws.FnExactObjectText', WHERE WHAT IT READS IS OF BULK AT MOST 1048576: true; the input reads as it did. -/
def fnExactObjectTextUptoRow : OpenClaim := { program := "ytdcjddiigipdmaa", sum := "590995d41fcb72b94629bfd9f6d6172bddf53131a0985287d0f7d9f5027aecaf", func := "loop.example/g00654/laws.FnExactObjectText", spec := "fnExactObjectText", inPlace := ["internal/abi.NoEscape"], unfollowed := true, recurses := true, apart := false, narrowed := true }
def FnExactObjectTextUptoSaid : Prop := fnExactObjectTextUptoRow.holds Try.pinned (OpenSpec.upto fnExactObjectTextSpec)

/-- 'laws.FnExactUnitSize', WHERE WHAT IT READS IS OF BULK AT MOST 1048576: true; the input reads as it did. -/
def fnExactUnitSizeUptoRow : OpenClaim := { program := "ytdcjddiigipdmaa", sum := "590995d41fcb72b94629bfd9f6d6172bddf53131a0985287d0f7d9f5027aecaf", func := "loop.example/g00654/laws.FnExactUnitSize", spec := "fnExactUnitSize", unfollowed := true, recurses := true, apart := false, narrowed := true }
def FnExactUnitSizeUptoSaid : Prop := fnExactUnitSizeUptoRow.holds Try.pinned (OpenSpec.upto fnExactUnitSizeSpec)

/-- 'laws.FnExactAddedNames', WHERE WHAT IT READS IS OF BULK AT MOST 1048576: true; the input reads as it did. -/
def fnExactAddedNamesUptoRow : OpenClaim := { program := "ytdcjddiigipdmaa", sum := "590995d41fcb72b94629bfd9f6d6172bddf53131a0985287d0f7d9f5027aecaf", func := "loop.example/g00654/laws.FnExactAddedNames", spec := "fnExactAddedNames", unfollowed := true, recurses := true, apart := false, narrowed := true }
def FnExactAddedNamesUptoSaid : Prop := fnExactAddedNamesUptoRow.holds Try.pinned (OpenSpec.upto fnExactAddedNamesSpec)

/-- 'laws.FnExactReplacedNames', WHERE WHAT IT READS IS OF BULK AT MOST 1048576: true; the input reads as it did. -/
def fnExactReplacedNamesUptoRow : OpenClaim := { program := "ytdcjddiigipdmaa", sum := "590995d41fcb72b94629bfd9f6d6172bddf53131a0985287d0f7d9f5027aecaf", func := "loop.example/g00654/laws.FnExactReplacedNames", spec := "fnExactReplacedNames", unfollowed := true, recurses := true, apart := false, narrowed := true }
def FnExactReplacedNamesUptoSaid : Prop := fnExactReplacedNamesUptoRow.holds Try.pinned (OpenSpec.upto fnExactReplacedNamesSpec)

/-- 'laws.FnExactSameObject', WHERE WHAT IT READS IS OF BULK AT MOST 1048576: true; the input reads as it did. -/
def fnExactSameObjectUptoRow : OpenClaim := { program := "ytdcjddiigipdmaa", sum := "590995d41fcb72b94629bfd9f6d6172bddf53131a0985287d0f7d9f5027aecaf", func := "loop.example/g00654/laws.FnExactSameObject", spec := "fnExactSameObject", unfollowed := true, recurses := true, apart := false, narrowed := true }
def FnExactSameObjectUptoSaid : Prop := fnExactSameObjectUptoRow.holds Try.pinned (OpenSpec.upto fnExactSameObjectSpec)

end Rows
end Go.Proofs.Ytdcjddiigipdmaa
