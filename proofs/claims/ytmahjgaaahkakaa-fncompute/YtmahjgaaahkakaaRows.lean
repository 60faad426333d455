/-
  No cell of these rows narrows 'for every input' (looked for: loops, veiled, ifaces, maps, wideKeys, modest, calm, conditions, laid).
  DERIVED. THE GIVEN ROWS OF THIS SEAT. 11 by the template 'for every input the law returns true; each argument reads behind the call as it read before'; 0 by the template 'total and deterministic' (their statements: YtmahjgaaahkakaaTotals.lean).
  GIVEN WITH THE SEED: the statements are not yours to turn. If you find one false, say at which input.
  Laid BY PROGRAM, IN A SANDBOX (cutbox-rows.mjs): the forced cells as the released guide's own fill.sh prints them over the translation 935a2961b6c9bce5… (all of the seat's roots in one cut). By AI agents, Wed Nov 11 2026. No macro, syntax, notation, axiom, sorry.
-/
import Derived.Test.YtmahjgaaahkakaaChecked
import GoSem.Claim
import GoSem.ClaimJoined
import GoSem.ClaimMapViews
import Derived.JoinedTies
import Derived.KernelRfl
namespace Go.Proofs.Ytmahjgaaahkakaa
/- THE CELL 'sum', in the pinned program and in every row, IS THE sha256 OF THE DUMP (.gsa) THAT YtmahjgaaahkakaaProg.lean LOADS. Nothing in Lean hashes anything: it is a label: what it is worth is what the hold of that sum in a sandbox is worth. -/
noncomputable def Try.pinned : Pinned := { name := "ytmahjgaaahkakaa", sum := "935a2961b6c9bce552388747d75eaa6807a55010659a0e326a3c0f18f4e821e2", checked := Try.checked }
namespace Rows
def none {H : Type} : Left H := { results := [], args := [] }

/-- 'laws.FnWide': WHATEVER THE INPUT: true; the input reads as it did. -/
def fnWideSpec : ChangeSpec := { name := "fnWide", fn := fun _ => fun
  | [d1, d2] => { results := [.lit (.bool true)], args := [d1, d2] }
  | _ => none }
def fnWideRow : OpenClaim := { program := "ytmahjgaaahkakaa", sum := "935a2961b6c9bce552388747d75eaa6807a55010659a0e326a3c0f18f4e821e2", func := "loop.example/g00654/laws.FnWide", spec := "fnWide", unfollowed := true, recurses := true, apart := false }
def FnWideSaid : Prop := fnWideRow.holds Try.pinned (OpenSpec.ofChange fnWideSpec)

/-- ITS FALSE NEIGHBOUR: 'it returns false'. Refute it at one input. -/
def fnWideWrong : ChangeSpec := { name := "fnWide", fn := fun _ => fun
  | [d1, d2] => { results := [.lit (.bool false)], args := [d1, d2] }
  | _ => none }
def FnWideWrongFalsely : Prop := fnWideRow.holds Try.pinned (OpenSpec.ofChange fnWideWrong)

/-- 'laws.FnDivide': WHATEVER THE INPUT: true; the input reads as it did. -/
def fnDivideSpec : ChangeSpec := { name := "fnDivide", fn := fun _ => fun
  | [d1, d2] => { results := [.lit (.bool true)], args := [d1, d2] }
  | _ => none }
def fnDivideRow : OpenClaim := { program := "ytmahjgaaahkakaa", sum := "935a2961b6c9bce552388747d75eaa6807a55010659a0e326a3c0f18f4e821e2", func := "loop.example/g00654/laws.FnDivide", spec := "fnDivide", unfollowed := true, recurses := true, apart := false }
def FnDivideSaid : Prop := fnDivideRow.holds Try.pinned (OpenSpec.ofChange fnDivideSpec)

/-- ITS FALSE NEIGHBOUR: 'it returns false'. Refute it at one input. -/
def fnDivideWrong : ChangeSpec := { name := "fnDivide", fn := fun _ => fun
  | [d1, d2] => { results := [.lit (.bool false)], args := [d1, d2] }
  | _ => none }
def FnDivideWrongFalsely : Prop := fnDivideRow.holds Try.pinned (OpenSpec.ofChange fnDivideWrong)

/-- 'laws.FnCompute': WHATEVER THE INPUT: true; the input reads as it did. -/
def fnComputeSpec : ChangeSpec := { name := "fnCompute", fn := fun _ => fun
  | [d1, d2] => { results := [.lit (.bool true)], args := [d1, d2] }
  | _ => none }
def fnComputeRow : OpenClaim := { program := "ytmahjgaaahkakaa", sum := "935a2961b6c9bce552388747d75eaa6807a55010659a0e326a3c0f18f4e821e2", func := "loop.example/g00654/laws.FnCompute", spec := "fnCompute", unfollowed := true, recurses := true, apart := false }
def FnComputeSaid : Prop := fnComputeRow.holds Try.pinned (OpenSpec.ofChange fnComputeSpec)

/-- ITS FALSE NEIGHBOUR: 'it returns false'. Refute it at one input. -/
def fnComputeWrong : ChangeSpec := { name := "fnCompute", fn := fun _ => fun
  | [d1, d2] => { results := [.lit (.bool false)], args := [d1, d2] }
  | _ => none }
def FnComputeWrongFalsely : Prop := fnComputeRow.holds Try.pinned (OpenSpec.ofChange fnComputeWrong)

/-- 'laws.FnBranches': WHATEVER THE INPUT: true; the input reads as it did. -/
def fnBranchesSpec : ChangeSpec := { name := "fnBranches", fn := fun _ => fun
  | [d1, d2] => { results := [.lit (.bool true)], args := [d1, d2] }
  | _ => none }
def fnBranchesRow : OpenClaim := { program := "ytmahjgaaahkakaa", sum := "935a2961b6c9bce552388747d75eaa6807a55010659a0e326a3c0f18f4e821e2", func := "loop.example/g00654/laws.FnBranches", spec := "fnBranches", unfollowed := true, recurses := true, apart := false }
def FnBranchesSaid : Prop := fnBranchesRow.holds Try.pinned (OpenSpec.ofChange fnBranchesSpec)

/-- ITS FALSE NEIGHBOUR: 'it returns false'. Refute it at one input. -/
def fnBranchesWrong : ChangeSpec := { name := "fnBranches", fn := fun _ => fun
  | [d1, d2] => { results := [.lit (.bool false)], args := [d1, d2] }
  | _ => none }
def FnBranchesWrongFalsely : Prop := fnBranchesRow.holds Try.pinned (OpenSpec.ofChange fnBranchesWrong)

/-- 'laws.FnExactWordOf': WHATEVER THE INPUT: true; the input reads as it did. -/
def fnExactWordOfSpec : ChangeSpec := { name := "fnExactWordOf", fn := fun _ => fun
  | [d] => { results := [.lit (.bool true)], args := [d] }
  | _ => none }
def fnExactWordOfRow : OpenClaim := { program := "ytmahjgaaahkakaa", sum := "935a2961b6c9bce552388747d75eaa6807a55010659a0e326a3c0f18f4e821e2", func := "loop.example/g00654/laws.FnExactWordOf", spec := "fnExactWordOf", apart := false }
def FnExactWordOfSaid : Prop := fnExactWordOfRow.holds Try.pinned (OpenSpec.ofChange fnExactWordOfSpec)

/-- ITS FALSE NEIGHBOUR: 'it returns false'. Refute it at one input. -/
def fnExactWordOfWrong : ChangeSpec := { name := "fnExactWordOf", fn := fun _ => fun
  | [d] => { results := [.lit (.bool false)], args := [d] }
  | _ => none }
def FnExactWordOfWrongFalsely : Prop := fnExactWordOfRow.holds Try.pinned (OpenSpec.ofChange fnExactWordOfWrong)

/-- 'laws.FnExactBelowU': WHATEVER THE INPUT: true; the input reads as it did. -/
def fnExactBelowUSpec : ChangeSpec := { name := "fnExactBelowU", fn := fun _ => fun
  | [d1, d2] => { results := [.lit (.bool true)], args := [d1, d2] }
  | _ => none }
def fnExactBelowURow : OpenClaim := { program := "ytmahjgaaahkakaa", sum := "935a2961b6c9bce552388747d75eaa6807a55010659a0e326a3c0f18f4e821e2", func := "loop.example/g00654/laws.FnExactBelowU", spec := "fnExactBelowU", apart := false }
def FnExactBelowUSaid : Prop := fnExactBelowURow.holds Try.pinned (OpenSpec.ofChange fnExactBelowUSpec)

/-- ITS FALSE NEIGHBOUR: 'it returns false'. Refute it at one input. -/
def fnExactBelowUWrong : ChangeSpec := { name := "fnExactBelowU", fn := fun _ => fun
  | [d1, d2] => { results := [.lit (.bool false)], args := [d1, d2] }
  | _ => none }
def FnExactBelowUWrongFalsely : Prop := fnExactBelowURow.holds Try.pinned (OpenSpec.ofChange fnExactBelowUWrong)

/-- 'laws.FnExactMulWide': WHATEVER THE INPUT: true; the input reads as it did. -/
def fnExactMulWideSpec : ChangeSpec := { name := "fnExactMulWide", fn := fun _ => fun
  | [d1, d2] => { results := [.lit (.bool true)], args := [d1, d2] }
  | _ => none }
def fnExactMulWideRow : OpenClaim := { program := "ytmahjgaaahkakaa", sum := "935a2961b6c9bce552388747d75eaa6807a55010659a0e326a3c0f18f4e821e2", func := "loop.example/g00654/laws.FnExactMulWide", spec := "fnExactMulWide", apart := false }
def FnExactMulWideSaid : Prop := fnExactMulWideRow.holds Try.pinned (OpenSpec.ofChange fnExactMulWideSpec)

/-- ITS FALSE NEIGHBOUR: 'it returns false'. Refute it at one input. -/
def fnExactMulWideWrong : ChangeSpec := { name := "fnExactMulWide", fn := fun _ => fun
  | [d1, d2] => { results := [.lit (.bool false)], args := [d1, d2] }
  | _ => none }
def FnExactMulWideWrongFalsely : Prop := fnExactMulWideRow.holds Try.pinned (OpenSpec.ofChange fnExactMulWideWrong)

/-- 'laws.FnExactDivideU': WHATEVER THE INPUT: true; the input reads as it did. -/
def fnExactDivideUSpec : ChangeSpec := { name := "fnExactDivideU", fn := fun _ => fun
  | [d1, d2] => { results := [.lit (.bool true)], args := [d1, d2] }
  | _ => none }
def fnExactDivideURow : OpenClaim := { program := "ytmahjgaaahkakaa", sum := "935a2961b6c9bce552388747d75eaa6807a55010659a0e326a3c0f18f4e821e2", func := "loop.example/g00654/laws.FnExactDivideU", spec := "fnExactDivideU", apart := false }
def FnExactDivideUSaid : Prop := fnExactDivideURow.holds Try.pinned (OpenSpec.ofChange fnExactDivideUSpec)

/-- ITS FALSE NEIGHBOUR: 'it returns false'. Refute it at one input. -/
def fnExactDivideUWrong : ChangeSpec := { name := "fnExactDivideU", fn := fun _ => fun
  | [d1, d2] => { results := [.lit (.bool false)], args := [d1, d2] }
  | _ => none }
def FnExactDivideUWrongFalsely : Prop := fnExactDivideURow.holds Try.pinned (OpenSpec.ofChange fnExactDivideUWrong)

/-- 'laws.FnExactCompute': WHATEVER THE INPUT: true; the input reads as it did. -/
def fnExactComputeSpec : ChangeSpec := { name := "fnExactCompute", fn := fun _ => fun
  | [d1, d2, d3] => { results := [.lit (.bool true)], args := [d1, d2, d3] }
  | _ => none }
def fnExactComputeRow : OpenClaim := { program := "ytmahjgaaahkakaa", sum := "935a2961b6c9bce552388747d75eaa6807a55010659a0e326a3c0f18f4e821e2", func := "loop.example/g00654/laws.FnExactCompute", spec := "fnExactCompute", unfollowed := true, recurses := true, apart := false }
def FnExactComputeSaid : Prop := fnExactComputeRow.holds Try.pinned (OpenSpec.ofChange fnExactComputeSpec)

/-- ITS FALSE NEIGHBOUR: 'it returns false'. Refute it at one input. -/
def fnExactComputeWrong : ChangeSpec := { name := "fnExactCompute", fn := fun _ => fun
  | [d1, d2, d3] => { results := [.lit (.bool false)], args := [d1, d2, d3] }
  | _ => none }
def FnExactComputeWrongFalsely : Prop := fnExactComputeRow.holds Try.pinned (OpenSpec.ofChange fnExactComputeWrong)

/-- 'laws.FnExactTaken': WHATEVER THE INPUT: true; the input reads as it did. -/
def fnExactTakenSpec : ChangeSpec := { name := "fnExactTaken", fn := fun _ => fun
  | [d1, d2, d3] => { results := [.lit (.bool true)], args := [d1, d2, d3] }
  | _ => none }
def fnExactTakenRow : OpenClaim := { program := "ytmahjgaaahkakaa", sum := "935a2961b6c9bce552388747d75eaa6807a55010659a0e326a3c0f18f4e821e2", func := "loop.example/g00654/laws.FnExactTaken", spec := "fnExactTaken", unfollowed := true, recurses := true, apart := false }
def FnExactTakenSaid : Prop := fnExactTakenRow.holds Try.pinned (OpenSpec.ofChange fnExactTakenSpec)

/-- ITS FALSE NEIGHBOUR: 'it returns false'. Refute it at one input. -/
def fnExactTakenWrong : ChangeSpec := { name := "fnExactTaken", fn := fun _ => fun
  | [d1, d2, d3] => { results := [.lit (.bool false)], args := [d1, d2, d3] }
  | _ => none }
def FnExactTakenWrongFalsely : Prop := fnExactTakenRow.holds Try.pinned (OpenSpec.ofChange fnExactTakenWrong)

/-- 'laws.FnExactWidthOf': WHATEVER THE INPUT: true; the input reads as it did. -/
def fnExactWidthOfSpec : ChangeSpec := { name := "fnExactWidthOf", fn := fun _ => fun
  | [d] => { results := [.lit (.bool true)], args := [d] }
  | _ => none }
def fnExactWidthOfRow : OpenClaim := { program := "ytmahjgaaahkakaa", sum := "935a2961b6c9bce552388747d75eaa6807a55010659a0e326a3c0f18f4e821e2", func := "loop.example/g00654/laws.FnExactWidthOf", spec := "fnExactWidthOf", apart := false }
def FnExactWidthOfSaid : Prop := fnExactWidthOfRow.holds Try.pinned (OpenSpec.ofChange fnExactWidthOfSpec)

/-- ITS FALSE NEIGHBOUR: 'it returns false'. Refute it at one input. -/
def fnExactWidthOfWrong : ChangeSpec := { name := "fnExactWidthOf", fn := fun _ => fun
  | [d] => { results := [.lit (.bool false)], args := [d] }
  | _ => none }
def FnExactWidthOfWrongFalsely : Prop := fnExactWidthOfRow.holds Try.pinned (OpenSpec.ofChange fnExactWidthOfWrong)

/- THE SECOND FORM. 'bulk': how many values and letters a reading holds, each counted each time it is reached (what is shared counts as often as it is met; a slice's spare places count too). A statement '..UptoSaid' is the law's where the arguments, and the package variables that the reading takes, are together of bulk at most 1048576: NARROWER than '..Said'. Prove '..Said' where nothing that the law and all that it calls make is longer than what came in: it says more and counts as full. Else prove '..UptoSaid'. A law counts once. -/
mutual
def uptoBulk {H : Type} : DataW H → Nat
  | .lit (.string bytes) => bytes.length + 1
  | .lit _ => 1
  | .nil => 1
  | .ptr d => uptoBulk d + 1
  | .slice elems spare => uptoBulkAll elems + uptoBulkAll spare + 1
  | .agg parts => uptoBulkAll parts + 1
  | .iface _ d => uptoBulk d + 1
  | .map entries => uptoBulkEntries entries + 1
  | .held _ => 1
def uptoBulkAll {H : Type} : List (DataW H) → Nat
  | [] => 0
  | d :: r => uptoBulk d + uptoBulkAll r
def uptoBulkEntries {H : Type} : List (Lit × DataW H) → Nat
  | [] => 0
  | x :: r => uptoBulkEntry x + uptoBulkEntries r
def uptoBulkEntry {H : Type} : Lit × DataW H → Nat
  | (.string bytes, d) => bytes.length + uptoBulk d + 1
  | (_, d) => uptoBulk d + 1
 end
def uptoSmall : (H : Type) → List (DataW H) → Bool := fun _ ds => decide (uptoBulkAll ds ≤ 1048576)
def OpenSpec.upto (s : _root_.Go.ChangeSpec) : _root_.Go.OpenSpec := { _root_.Go.OpenSpec.ofChange s with cond := some uptoSmall }

/-- 'laws.FnWide', WHERE WHAT IT READS IS OF BULK AT MOST 1048576: true; the input reads as it did. -/
def fnWideUptoRow : OpenClaim := { program := "ytmahjgaaahkakaa", sum := "935a2961b6c9bce552388747d75eaa6807a55010659a0e326a3c0f18f4e821e2", func := "loop.example/g00654/laws.FnWide", spec := "fnWide", unfollowed := true, recurses := true, apart := false, narrowed := true }
def FnWideUptoSaid : Prop := fnWideUptoRow.holds Try.pinned (OpenSpec.upto fnWideSpec)

/-- 'laws.FnDivide', WHERE WHAT IT READS IS OF BULK AT MOST 1048576: true; the input reads as it did. -/
def fnDivideUptoRow : OpenClaim := { program := "ytmahjgaaahkakaa", sum := "935a2961b6c9bce552388747d75eaa6807a55010659a0e326a3c0f18f4e821e2", func := "loop.example/g00654/laws.FnDivide", spec := "fnDivide", unfollowed := true, recurses := true, apart := false, narrowed := true }
def FnDivideUptoSaid : Prop := fnDivideUptoRow.holds Try.pinned (OpenSpec.upto fnDivideSpec)

/-- 'laws.FnCompute', WHERE WHAT IT READS IS OF BULK AT MOST 1048576: true; the input reads as it did. -/
def fnComputeUptoRow : OpenClaim := { program := "ytmahjgaaahkakaa", sum := "935a2961b6c9bce552388747d75eaa6807a55010659a0e326a3c0f18f4e821e2", func := "loop.example/g00654/laws.FnCompute", spec := "fnCompute", unfollowed := true, recurses := true, apart := false, narrowed := true }
def FnComputeUptoSaid : Prop := fnComputeUptoRow.holds Try.pinned (OpenSpec.upto fnComputeSpec)

/-- 'laws.FnBranches', WHERE WHAT IT READS IS OF BULK AT MOST 1048576: true; the input reads as it did. -/
def fnBranchesUptoRow : OpenClaim := { program := "ytmahjgaaahkakaa", sum := "935a2961b6c9bce552388747d75eaa6807a55010659a0e326a3c0f18f4e821e2", func := "loop.example/g00654/laws.FnBranches", spec := "fnBranches", unfollowed := true, recurses := true, apart := false, narrowed := true }
def FnBranchesUptoSaid : Prop := fnBranchesUptoRow.holds Try.pinned (OpenSpec.upto fnBranchesSpec)

/-- 'laws.FnExactWordOf', WHERE WHAT IT READS IS OF BULK AT MOST 1048576: true; the input reads as it did. -/
def fnExactWordOfUptoRow : OpenClaim := { program := "ytmahjgaaahkakaa", sum := "935a2961b6c9bce552388747d75eaa6807a55010659a0e326a3c0f18f4e821e2", func := "loop.example/g00654/laws.FnExactWordOf", spec := "fnExactWordOf", apart := false, narrowed := true }
def FnExactWordOfUptoSaid : Prop := fnExactWordOfUptoRow.holds Try.pinned (OpenSpec.upto fnExactWordOfSpec)

/-- 'laws.FnExactBelowU', WHERE WHAT IT READS IS OF BULK AT MOST 1048576: true; the input reads as it did. -/
def fnExactBelowUUptoRow : OpenClaim := { program := "ytmahjgaaahkakaa", sum := "935a2961b6c9bce552388747d75eaa6807a55010659a0e326a3c0f18f4e821e2", func := "loop.example/g00654/laws.FnExactBelowU", spec := "fnExactBelowU", apart := false, narrowed := true }
def FnExactBelowUUptoSaid : Prop := fnExactBelowUUptoRow.holds Try.pinned (OpenSpec.upto fnExactBelowUSpec)

/-- 'laws.FnExactMulWide', WHERE WHAT IT READS IS OF BULK AT MOST 1048576: true; the input reads as it did. -/
def fnExactMulWideUptoRow : OpenClaim := { program := "ytmahjgaaahkakaa", sum := "935a2961b6c9bce552388747d75eaa6807a55010659a0e326a3c0f18f4e821e2", func := "loop.example/g00654/laws.FnExactMulWide", spec := "fnExactMulWide", apart := false, narrowed := true }
def FnExactMulWideUptoSaid : Prop := fnExactMulWideUptoRow.holds Try.pinned (OpenSpec.upto fnExactMulWideSpec)

/-- 'laws.FnExactDivideU', WHERE WHAT IT READS IS OF BULK AT MOST 1048576: true; the input reads as it did. -/
def fnExactDivideUUptoRow : OpenClaim := { program := "ytmahjgaaahkakaa", sum := "935a2961b6c9bce552388747d75eaa6807a55010659a0e326a3c0f18f4e821e2", func := "loop.example/g00654/laws.FnExactDivideU", spec := "fnExactDivideU", apart := false, narrowed := true }
def FnExactDivideUUptoSaid : Prop := fnExactDivideUUptoRow.holds Try.pinned (OpenSpec.upto fnExactDivideUSpec)

/-- 'laws.FnExactCompute', WHERE WHAT IT READS IS OF BULK AT MOST 1048576: true; the input reads as it did. -/
def fnExactComputeUptoRow : OpenClaim := { program := "ytmahjgaaahkakaa", sum := "935a2961b6c9bce552388747d75eaa6807a55010659a0e326a3c0f18f4e821e2", func := "loop.example/g00654/laws.FnExactCompute", spec := "fnExactCompute", unfollowed := true, recurses := true, apart := false, narrowed := true }
def FnExactComputeUptoSaid : Prop := fnExactComputeUptoRow.holds Try.pinned (OpenSpec.upto fnExactComputeSpec)

/-- 'laws.FnExactTaken', WHERE WHAT IT READS IS OF BULK AT MOST 1048576: true; the input reads as it did. -/
def fnExactTakenUptoRow : OpenClaim := { program := "ytmahjgaaahkakaa", sum := "935a2961b6c9bce552388747d75eaa6807a55010659a0e326a3c0f18f4e821e2", func := "loop.example/g00654/laws.FnExactTaken", spec := "fnExactTaken", unfollowed := true, recurses := true, apart := false, narrowed := true }
def FnExactTakenUptoSaid : Prop := fnExactTakenUptoRow.holds Try.pinned (OpenSpec.upto fnExactTakenSpec)

/-- 'laws.FnExactWidthOf', WHERE WHAT IT READS IS OF BULK AT MOST 1048576: true; the input reads as it did. -/
def fnExactWidthOfUptoRow : OpenClaim := { program := "ytmahjgaaahkakaa", sum := "935a2961b6c9bce552388747d75eaa6807a55010659a0e326a3c0f18f4e821e2", func := "loop.example/g00654/laws.FnExactWidthOf", spec := "fnExactWidthOf", apart := false, narrowed := true }
def FnExactWidthOfUptoSaid : Prop := fnExactWidthOfUptoRow.holds Try.pinned (OpenSpec.upto fnExactWidthOfSpec)

end Rows
end Go.Proofs.Ytmahjgaaahkakaa
