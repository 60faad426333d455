/-
  No cell of these rows narrows 'for every input' (looked for: loops, veiled, ifaces, maps, wideKeys, modest, calm, conditions, laid).
  DERIVED. THE GIVEN ROWS OF THIS SEAT. 5 by the template 'for every input the law returns true; each argument reads behind the call as it read before'; 0 by the template 'total and deterministic' (their statements: YtelogjpjglohoaaTotals.lean).
  GIVEN WITH THE SEED: the statements are not yours to turn. If you find one false, say at which input.
  Laid BY PROGRAM, IN A SANDBOX (cutbox-rows.mjs): the forced cells as the released guide's own fill.sh prints them over the translation 04ca066db7625431… (all of the seat's roots in one cut). By AI agents, Wed Nov 11 2026. No macro, syntax, notation, axiom, sorry.
-/
import Derived.Test.YtelogjpjglohoaaChecked
import GoSem.Claim
import GoSem.ClaimJoined
import GoSem.ClaimMapViews
import Derived.JoinedTies
import Derived.KernelRfl
namespace Go.Proofs.Ytelogjpjglohoaa
/- THE CELL 'sum', in the pinned program and in every row, IS THE sha256 OF THE DUMP (.gsa) THAT YtelogjpjglohoaaProg.lean LOADS. Nothing in Lean hashes anything: it is a label: what it is worth is what the hold of that sum in a sandbox is worth. -/
noncomputable def Try.pinned : Pinned := { name := "ytelogjpjglohoaa", sum := "04ca066db76254312c373933bcebb3d6d8cadd057bf9a6868bd142ec9522b989", checked := Try.checked }
namespace Rows
def none {H : Type} : Left H := { results := [], args := [] }

/-- 'laws.FnExactAreaOK': WHATEVER THE INPUT: true; the input reads as it did. -/
def fnExactAreaOKSpec : ChangeSpec := { name := "fnExactAreaOK", fn := fun _ => fun
  | [d] => { results := [.lit (.bool true)], args := [d] }
  | _ => none }
def fnExactAreaOKRow : OpenClaim := { program := "ytelogjpjglohoaa", sum := "04ca066db76254312c373933bcebb3d6d8cadd057bf9a6868bd142ec9522b989", func := "loop.example/g00654/laws.FnExactAreaOK", spec := "fnExactAreaOK", plainKeys := false, apart := false }
def FnExactAreaOKSaid : Prop := fnExactAreaOKRow.holds Try.pinned (OpenSpec.ofChange fnExactAreaOKSpec)

/-- ITS FALSE NEIGHBOUR: 'it returns false'. Refute it at one input. -/
def fnExactAreaOKWrong : ChangeSpec := { name := "fnExactAreaOK", fn := fun _ => fun
  | [d] => { results := [.lit (.bool false)], args := [d] }
  | _ => none }
def FnExactAreaOKWrongFalsely : Prop := fnExactAreaOKRow.holds Try.pinned (OpenSpec.ofChange fnExactAreaOKWrong)

/-- 'laws.FnExactTableOK': WHATEVER THE INPUT: true; the input reads as it did. -/
def fnExactTableOKSpec : ChangeSpec := { name := "fnExactTableOK", fn := fun _ => fun
  | [d] => { results := [.lit (.bool true)], args := [d] }
  | _ => none }
def fnExactTableOKRow : OpenClaim := { program := "ytelogjpjglohoaa", sum := "04ca066db76254312c373933bcebb3d6d8cadd057bf9a6868bd142ec9522b989", func := "loop.example/g00654/laws.FnExactTableOK", spec := "fnExactTableOK", unfollowed := true, recurses := true, plainKeys := false, apart := false }
def FnExactTableOKSaid : Prop := fnExactTableOKRow.holds Try.pinned (OpenSpec.ofChange fnExactTableOKSpec)

/-- ITS FALSE NEIGHBOUR: 'it returns false'. Refute it at one input. -/
def fnExactTableOKWrong : ChangeSpec := { name := "fnExactTableOK", fn := fun _ => fun
  | [d] => { results := [.lit (.bool false)], args := [d] }
  | _ => none }
def FnExactTableOKWrongFalsely : Prop := fnExactTableOKRow.holds Try.pinned (OpenSpec.ofChange fnExactTableOKWrong)

/-- 'laws.FnExactFindEntry': WHATEVER THE INPUT: true; the input reads as it did. -/
def fnExactFindEntrySpec : ChangeSpec := { name := "fnExactFindEntry", fn := fun _ => fun
  | [d1, d2] => { results := [.lit (.bool true)], args := [d1, d2] }
  | _ => none }
def fnExactFindEntryRow : OpenClaim := { program := "ytelogjpjglohoaa", sum := "04ca066db76254312c373933bcebb3d6d8cadd057bf9a6868bd142ec9522b989", func := "loop.example/g00654/laws.FnExactFindEntry", spec := "fnExactFindEntry", unfollowed := true, recurses := true, plainKeys := false, apart := false }
def FnExactFindEntrySaid : Prop := fnExactFindEntryRow.holds Try.pinned (OpenSpec.ofChange fnExactFindEntrySpec)

/-- ITS FALSE NEIGHBOUR: 'it returns false'. Refute it at one input. -/
def fnExactFindEntryWrong : ChangeSpec := { name := "fnExactFindEntry", fn := fun _ => fun
  | [d1, d2] => { results := [.lit (.bool false)], args := [d1, d2] }
  | _ => none }
def FnExactFindEntryWrongFalsely : Prop := fnExactFindEntryRow.holds Try.pinned (OpenSpec.ofChange fnExactFindEntryWrong)

/-- 'laws.FnExactEntryAt': WHATEVER THE INPUT: true; the input reads as it did. -/
def fnExactEntryAtSpec : ChangeSpec := { name := "fnExactEntryAt", fn := fun _ => fun
  | [d1, d2] => { results := [.lit (.bool true)], args := [d1, d2] }
  | _ => none }
def fnExactEntryAtRow : OpenClaim := { program := "ytelogjpjglohoaa", sum := "04ca066db76254312c373933bcebb3d6d8cadd057bf9a6868bd142ec9522b989", func := "loop.example/g00654/laws.FnExactEntryAt", spec := "fnExactEntryAt", unfollowed := true, recurses := true, plainKeys := false, apart := false }
def FnExactEntryAtSaid : Prop := fnExactEntryAtRow.holds Try.pinned (OpenSpec.ofChange fnExactEntryAtSpec)

/-- ITS FALSE NEIGHBOUR: 'it returns false'. Refute it at one input. -/
def fnExactEntryAtWrong : ChangeSpec := { name := "fnExactEntryAt", fn := fun _ => fun
  | [d1, d2] => { results := [.lit (.bool false)], args := [d1, d2] }
  | _ => none }
def FnExactEntryAtWrongFalsely : Prop := fnExactEntryAtRow.holds Try.pinned (OpenSpec.ofChange fnExactEntryAtWrong)

/-- 'laws.FnExactSameLinked': WHATEVER THE INPUT: true; the input reads as it did. -/
def fnExactSameLinkedSpec : ChangeSpec := { name := "fnExactSameLinked", fn := fun _ => fun
  | [d1, d2] => { results := [.lit (.bool true)], args := [d1, d2] }
  | _ => none }
def fnExactSameLinkedRow : OpenClaim := { program := "ytelogjpjglohoaa", sum := "04ca066db76254312c373933bcebb3d6d8cadd057bf9a6868bd142ec9522b989", func := "loop.example/g00654/laws.FnExactSameLinked", spec := "fnExactSameLinked", plainKeys := false, apart := false }
def FnExactSameLinkedSaid : Prop := fnExactSameLinkedRow.holds Try.pinned (OpenSpec.ofChange fnExactSameLinkedSpec)

/-- ITS FALSE NEIGHBOUR: 'it returns false'. Refute it at one input. -/
def fnExactSameLinkedWrong : ChangeSpec := { name := "fnExactSameLinked", fn := fun _ => fun
  | [d1, d2] => { results := [.lit (.bool false)], args := [d1, d2] }
  | _ => none }
def FnExactSameLinkedWrongFalsely : Prop := fnExactSameLinkedRow.holds Try.pinned (OpenSpec.ofChange fnExactSameLinkedWrong)

/- THE SECOND FORM. 'bulk': how many values and letters a reading holds, each counted each time it is reached (what is shared counts as often as it is met; a slice's spare places count too). A statement '..UptoSaid' is the law's where the arguments, and the package variables that the reading takes, are together of bulk at most 1048576: NARROWER than '..Said'. Prove '..Said' where nothing that the law and all that it calls make is longer than what came in: it says more and counts as full. Else prove '..UptoSaid'. A law counts once. -/
mutual
def uptoBulk {H : Type} : DataW H → Nat
  | .lit (.string bytes) => bytes.length + 1
  | .lit _ => 1
  | .nil => 1
  | .ptr d => uptoBulk d + 1
  | .slice elems spare => uptoBulkAll elems + uptoBulkAll spare + 1
  | .agg parts => uptoBulkAll parts + 1
  | .iface _ d => uptoBulk d + 1
  | .map entries => uptoBulkEntries entries + 1
  | .held _ => 1
def uptoBulkAll {H : Type} : List (DataW H) → Nat
  | [] => 0
  | d :: r => uptoBulk d + uptoBulkAll r
def uptoBulkEntries {H : Type} : List (Lit × DataW H) → Nat
  | [] => 0
  | x :: r => uptoBulkEntry x + uptoBulkEntries r
def uptoBulkEntry {H : Type} : Lit × DataW H → Nat
  | (.string bytes, d) => bytes.length + uptoBulk d + 1
  | (_, d) => uptoBulk d + 1
 end
def uptoSmall : (H : Type) → List (DataW H) → Bool := fun _ ds => decide (uptoBulkAll ds ≤ 1048576)
def OpenSpec.upto (s : _root_.Go.ChangeSpec) : _root_.Go.OpenSpec := { _root_.Go.OpenSpec.ofChange s with cond := some uptoSmall }

/-- 'laws.FnExactAreaOK', WHERE WHAT IT READS IS OF BULK AT MOST 1048576: true; the input reads as it did. -/
def fnExactAreaOKUptoRow : OpenClaim := { program := "ytelogjpjglohoaa", sum := "04ca066db76254312c373933bcebb3d6d8cadd057bf9a6868bd142ec9522b989", func := "loop.example/g00654/laws.FnExactAreaOK", spec := "fnExactAreaOK", plainKeys := false, apart := false, narrowed := true }
def FnExactAreaOKUptoSaid : Prop := fnExactAreaOKUptoRow.holds Try.pinned (OpenSpec.upto fnExactAreaOKSpec)

/-- 'laws.FnExactTableOK', WHERE WHAT IT READS IS OF BULK AT MOST 1048576: true; the input reads as it did. -/
def fnExactTableOKUptoRow : OpenClaim := { program := "ytelogjpjglohoaa", sum := "04ca066db76254312c373933bcebb3d6d8cadd057bf9a6868bd142ec9522b989", func := "loop.example/g00654/laws.FnExactTableOK", spec := "fnExactTableOK", unfollowed := true, recurses := true, plainKeys := false, apart := false, narrowed := true }
def FnExactTableOKUptoSaid : Prop := fnExactTableOKUptoRow.holds Try.pinned (OpenSpec.upto fnExactTableOKSpec)

/-- 'laws.FnExactFindEntry', WHERE WHAT IT READS IS OF BULK AT MOST 1048576: true; the input reads as it did. -/
def fnExactFindEntryUptoRow : OpenClaim := { program := "ytelogjpjglohoaa", sum := "04ca066db76254312c373933bcebb3d6d8cadd057bf9a6868bd142ec9522b989", func := "loop.example/g00654/laws.FnExactFindEntry", spec := "fnExactFindEntry", unfollowed := true, recurses := true, plainKeys := false, apart := false, narrowed := true }
def FnExactFindEntryUptoSaid : Prop := fnExactFindEntryUptoRow.holds Try.pinned (OpenSpec.upto fnExactFindEntrySpec)

/-- 'laws.FnExactEntryAt', WHERE WHAT IT READS IS OF BULK AT MOST 1048576: true; the input reads as it did. -/
def fnExactEntryAtUptoRow : OpenClaim := { program := "ytelogjpjglohoaa", sum := "04ca066db76254312c373933bcebb3d6d8cadd057bf9a6868bd142ec9522b989", func := "loop.example/g00654/laws.FnExactEntryAt", spec := "fnExactEntryAt", unfollowed := true, recurses := true, plainKeys := false, apart := false, narrowed := true }
def FnExactEntryAtUptoSaid : Prop := fnExactEntryAtUptoRow.holds Try.pinned (OpenSpec.upto fnExactEntryAtSpec)

/-- 'laws.FnExactSameLinked', WHERE WHAT IT READS IS OF BULK AT MOST 1048576: true; the input reads as it did. -/
def fnExactSameLinkedUptoRow : OpenClaim := { program := "ytelogjpjglohoaa", sum := "04ca066db76254312c373933bcebb3d6d8cadd057bf9a6868bd142ec9522b989", func := "loop.example/g00654/laws.FnExactSameLinked", spec := "fnExactSameLinked", plainKeys := false, apart := false, narrowed := true }
def FnExactSameLinkedUptoSaid : Prop := fnExactSameLinkedUptoRow.holds Try.pinned (OpenSpec.upto fnExactSameLinkedSpec)

end Rows
end Go.Proofs.Ytelogjpjglohoaa
