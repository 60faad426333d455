/-
  No cell of these rows narrows 'for every input' (looked for: loops, veiled, ifaces, maps, wideKeys, modest, calm, conditions, laid).
  DERIVED. THE GIVEN ROWS OF THIS SEAT. 3 by the template 'for every input the law returns true; each argument reads behind the call as it read before'; 0 by the template 'total and deterministic' (their statements: YtbfoopfmjiilcaaTotals.lean).
  GIVEN WITH THE SEED: the statements are not yours to turn. If you find one false, say at which input.
  Laid BY PROGRAM, IN A SANDBOX (cutbox-rows.mjs): the forced cells as the released guide's own fill.sh prints them over the translation 85ab8367315afce7… (all of the seat's roots in one cut). By AI agents, Wed Nov 11 2026. No macro, syntax, notation, axiom, sorry.
-/
import Derived.Test.YtbfoopfmjiilcaaChecked
import GoSem.Claim
import GoSem.ClaimJoined
import GoSem.ClaimMapViews
import Derived.JoinedTies
import Derived.KernelRfl
namespace Go.Proofs.Ytbfoopfmjiilcaa
/- THE CELL 'sum', in the pinned program and in every row, IS THE sha256 OF THE DUMP (.gsa) THAT YtbfoopfmjiilcaaProg.lean LOADS. Nothing in Lean hashes anything: it is a label: what it is worth is what the hold of that sum in a sandbox is worth. -/
noncomputable def Try.pinned : Pinned := { name := "ytbfoopfmjiilcaa", sum := "85ab8367315afce74c08946b3c9a72a0a010213f501a6565f62641f803bd3b4d", checked := Try.checked }
namespace Rows
def none {H : Type} : Left H := { results := [], args := [] }

/-- 'laws.FnExactFrameOK': WHATEVER THE INPUT: true; the input reads as it did. -/
def fnExactFrameOKSpec : ChangeSpec := { name := "fnExactFrameOK", fn := fun _ => fun
  | [d] => { results := [.lit (.bool true)], args := [d] }
  | _ => none }
def fnExactFrameOKRow : OpenClaim := { program := "ytbfoopfmjiilcaa", sum := "85ab8367315afce74c08946b3c9a72a0a010213f501a6565f62641f803bd3b4d", func := "loop.example/g00654/laws.FnExactFrameOK", spec := "fnExactFrameOK", apart := false }
def FnExactFrameOKSaid : Prop := fnExactFrameOKRow.holds Try.pinned (OpenSpec.ofChange fnExactFrameOKSpec)

/-- ITS FALSE NEIGHBOUR: 'it returns false'. Refute it at one input. -/
def fnExactFrameOKWrong : ChangeSpec := { name := "fnExactFrameOK", fn := fun _ => fun
  | [d] => { results := [.lit (.bool false)], args := [d] }
  | _ => none }
def FnExactFrameOKWrongFalsely : Prop := fnExactFrameOKRow.holds Try.pinned (OpenSpec.ofChange fnExactFrameOKWrong)

/-- 'laws.FnExactPrologue': WHATEVER THE INPUT: true; the input reads as it did. -/
def fnExactPrologueSpec : ChangeSpec := { name := "fnExactPrologue", fn := fun _ => fun
  | [d] => { results := [.lit (.bool true)], args := [d] }
  | _ => none }
def fnExactPrologueRow : OpenClaim := { program := "ytbfoopfmjiilcaa", sum := "85ab8367315afce74c08946b3c9a72a0a010213f501a6565f62641f803bd3b4d", func := "loop.example/g00654/laws.FnExactPrologue", spec := "fnExactPrologue", apart := false }
def FnExactPrologueSaid : Prop := fnExactPrologueRow.holds Try.pinned (OpenSpec.ofChange fnExactPrologueSpec)

/-- ITS FALSE NEIGHBOUR: 'it returns false'. Refute it at one input. -/
def fnExactPrologueWrong : ChangeSpec := { name := "fnExactPrologue", fn := fun _ => fun
  | [d] => { results := [.lit (.bool false)], args := [d] }
  | _ => none }
def FnExactPrologueWrongFalsely : Prop := fnExactPrologueRow.holds Try.pinned (OpenSpec.ofChange fnExactPrologueWrong)

/-- 'laws.FnExactEpilogue': WHATEVER THE INPUT: true; the input reads as it did. -/
def fnExactEpilogueSpec : ChangeSpec := { name := "fnExactEpilogue", fn := fun _ => fun
  | [d] => { results := [.lit (.bool true)], args := [d] }
  | _ => none }
def fnExactEpilogueRow : OpenClaim := { program := "ytbfoopfmjiilcaa", sum := "85ab8367315afce74c08946b3c9a72a0a010213f501a6565f62641f803bd3b4d", func := "loop.example/g00654/laws.FnExactEpilogue", spec := "fnExactEpilogue", apart := false }
def FnExactEpilogueSaid : Prop := fnExactEpilogueRow.holds Try.pinned (OpenSpec.ofChange fnExactEpilogueSpec)

/-- ITS FALSE NEIGHBOUR: 'it returns false'. Refute it at one input. -/
def fnExactEpilogueWrong : ChangeSpec := { name := "fnExactEpilogue", fn := fun _ => fun
  | [d] => { results := [.lit (.bool false)], args := [d] }
  | _ => none }
def FnExactEpilogueWrongFalsely : Prop := fnExactEpilogueRow.holds Try.pinned (OpenSpec.ofChange fnExactEpilogueWrong)

/- THE SECOND FORM. 'bulk': how many values and letters a reading holds, each counted each time it is reached (what is shared counts as often as it is met; a slice's spare places count too). A statement '..UptoSaid' is the law's where the arguments, and the package variables that the reading takes, are together of bulk at most 1048576: NARROWER than '..Said'. Prove '..Said' where nothing that the law and all that it calls make is longer than what came in: it says more and counts as full. Else prove '..UptoSaid'. A law counts once. -/
mutual
def uptoBulk {H : Type} : DataW H → Nat
  | .lit (.string bytes) => bytes.length + 1
  | .lit _ => 1
  | .nil => 1
  | .ptr d => uptoBulk d + 1
  | .slice elems spare => uptoBulkAll elems + uptoBulkAll spare + 1
  | .agg parts => uptoBulkAll parts + 1
  | .iface _ d => uptoBulk d + 1
  | .map entries => uptoBulkEntries entries + 1
  | .held _ => 1
def uptoBulkAll {H : Type} : List (DataW H) → Nat
  | [] => 0
  | d :: r => uptoBulk d + uptoBulkAll r
def uptoBulkEntries {H : Type} : List (Lit × DataW H) → Nat
  | [] => 0
  | x :: r => uptoBulkEntry x + uptoBulkEntries r
def uptoBulkEntry {H : Type} : Lit × DataW H → Nat
  | (.string bytes, d) => bytes.length + uptoBulk d + 1
  | (_, d) => uptoBulk d + 1
 end
def uptoSmall : (H : Type) → List (DataW H) → Bool := fun _ ds => decide (uptoBulkAll ds ≤ 1048576)
def OpenSpec.upto (s : _root_.Go.ChangeSpec) : _root_.Go.OpenSpec := { _root_.Go.OpenSpec.ofChange s with cond := some uptoSmall }

/-- 'laws.FnExactFrameOK', WHERE WHAT IT READS IS OF BULK AT MOST 1048576: true; the input reads as it did. -/
def fnExactFrameOKUptoRow : OpenClaim := { program := "ytbfoopfmjiilcaa", sum := "85ab8367315afce74c08946b3c9a72a0a010213f501a6565f62641f803bd3b4d", func := "loop.example/g00654/laws.FnExactFrameOK", spec := "fnExactFrameOK", apart := false, narrowed := true }
def FnExactFrameOKUptoSaid : Prop := fnExactFrameOKUptoRow.holds Try.pinned (OpenSpec.upto fnExactFrameOKSpec)

/-- 'laws.FnExactPrologue', WHERE WHAT IT READS IS OF BULK AT MOST 1048576: true; the input reads as it did. -/
def fnExactPrologueUptoRow : OpenClaim := { program := "ytbfoopfmjiilcaa", sum := "85ab8367315afce74c08946b3c9a72a0a010213f501a6565f62641f803bd3b4d", func := "loop.example/g00654/laws.FnExactPrologue", spec := "fnExactPrologue", apart := false, narrowed := true }
def FnExactPrologueUptoSaid : Prop := fnExactPrologueUptoRow.holds Try.pinned (OpenSpec.upto fnExactPrologueSpec)

/-- 'laws.FnExactEpilogue', WHERE WHAT IT READS IS OF BULK AT MOST 1048576: true; the input reads as it did. -/
def fnExactEpilogueUptoRow : OpenClaim := { program := "ytbfoopfmjiilcaa", sum := "85ab8367315afce74c08946b3c9a72a0a010213f501a6565f62641f803bd3b4d", func := "loop.example/g00654/laws.FnExactEpilogue", spec := "fnExactEpilogue", apart := false, narrowed := true }
def FnExactEpilogueUptoSaid : Prop := fnExactEpilogueUptoRow.holds Try.pinned (OpenSpec.upto fnExactEpilogueSpec)

end Rows
end Go.Proofs.Ytbfoopfmjiilcaa
