/-
  No cell of these rows narrows 'for every input' (looked for: loops, veiled, ifaces, maps, wideKeys, modest, calm, conditions, laid).
  DERIVED. THE GIVEN ROWS OF THIS SEAT. 8 by the template 'for every input the law returns true; each argument reads behind the call as it read before'; 0 by the template 'total and deterministic' (their statements: YtmbkkcdcccopiaaTotals.lean).
  GIVEN WITH THE SEED: the statements are not yours to turn. If you find one false, say at which input.
  Laid BY PROGRAM, IN A SANDBOX (cutbox-rows.mjs): the forced cells as the released guide's own fill.sh prints them over the translation fc8c88350165a08a… (all of the seat's roots in one cut). By AI agents, Wed Nov 11 2026. No macro, syntax, notation, axiom, sorry.
-/
import Derived.Test.YtmbkkcdcccopiaaChecked
import GoSem.Claim
import GoSem.ClaimJoined
import GoSem.ClaimMapViews
import Derived.JoinedTies
import Derived.KernelRfl
namespace Go.Proofs.Ytmbkkcdcccopiaa
/- THE CELL 'sum', in the pinned program and in every row, IS THE sha256 OF THE DUMP (.gsa) THAT YtmbkkcdcccopiaaProg.lean LOADS. Nothing in Lean hashes anything: it is a label: what it is worth is what the hold of that sum in a sandbox is worth. -/
noncomputable def Try.pinned : Pinned := { name := "ytmbkkcdcccopiaa", sum := "fc8c88350165a08a8a0b27974182c2216071fc96f2e55388e8b4968db682daca", checked := Try.checked }
namespace Rows
def none {H : Type} : Left H := { results := [], args := [] }

/-- 'laws.FnExactShadowsOK': WHATEVER THE INPUT: true; the input reads as it did. -/
def fnExactShadowsOKSpec : ChangeSpec := { name := "fnExactShadowsOK", fn := fun _ => fun
  | [d] => { results := [.lit (.bool true)], args := [d] }
  | _ => none }
def fnExactShadowsOKRow : OpenClaim := { program := "ytmbkkcdcccopiaa", sum := "fc8c88350165a08a8a0b27974182c2216071fc96f2e55388e8b4968db682daca", func := "loop.example/g00654/laws.FnExactShadowsOK", spec := "fnExactShadowsOK", plainKeys := false, apart := false }
def FnExactShadowsOKSaid : Prop := fnExactShadowsOKRow.holds Try.pinned (OpenSpec.ofChange fnExactShadowsOKSpec)

/-- ITS FALSE NEIGHBOUR: 'it returns false'. Refute it at one input. -/
def fnExactShadowsOKWrong : ChangeSpec := { name := "fnExactShadowsOK", fn := fun _ => fun
  | [d] => { results := [.lit (.bool false)], args := [d] }
  | _ => none }
def FnExactShadowsOKWrongFalsely : Prop := fnExactShadowsOKRow.holds Try.pinned (OpenSpec.ofChange fnExactShadowsOKWrong)

/-- 'laws.FnExactGetShadow': WHATEVER THE INPUT: true; the input reads as it did. -/
def fnExactGetShadowSpec : ChangeSpec := { name := "fnExactGetShadow", fn := fun _ => fun
  | [d1, d2, d3] => { results := [.lit (.bool true)], args := [d1, d2, d3] }
  | _ => none }
def fnExactGetShadowRow : OpenClaim := { program := "ytmbkkcdcccopiaa", sum := "fc8c88350165a08a8a0b27974182c2216071fc96f2e55388e8b4968db682daca", func := "loop.example/g00654/laws.FnExactGetShadow", spec := "fnExactGetShadow", plainKeys := false, apart := false }
def FnExactGetShadowSaid : Prop := fnExactGetShadowRow.holds Try.pinned (OpenSpec.ofChange fnExactGetShadowSpec)

/-- ITS FALSE NEIGHBOUR: 'it returns false'. Refute it at one input. -/
def fnExactGetShadowWrong : ChangeSpec := { name := "fnExactGetShadow", fn := fun _ => fun
  | [d1, d2, d3] => { results := [.lit (.bool false)], args := [d1, d2, d3] }
  | _ => none }
def FnExactGetShadowWrongFalsely : Prop := fnExactGetShadowRow.holds Try.pinned (OpenSpec.ofChange fnExactGetShadowWrong)

/-- 'laws.FnExactAllocShadow': WHATEVER THE INPUT: true; the input reads as it did. -/
def fnExactAllocShadowSpec : ChangeSpec := { name := "fnExactAllocShadow", fn := fun _ => fun
  | [d1, d2, d3, d4] => { results := [.lit (.bool true)], args := [d1, d2, d3, d4] }
  | _ => none }
def fnExactAllocShadowRow : OpenClaim := { program := "ytmbkkcdcccopiaa", sum := "fc8c88350165a08a8a0b27974182c2216071fc96f2e55388e8b4968db682daca", func := "loop.example/g00654/laws.FnExactAllocShadow", spec := "fnExactAllocShadow", unfollowed := true, recurses := true, plainKeys := false, apart := false }
def FnExactAllocShadowSaid : Prop := fnExactAllocShadowRow.holds Try.pinned (OpenSpec.ofChange fnExactAllocShadowSpec)

/-- ITS FALSE NEIGHBOUR: 'it returns false'. Refute it at one input. -/
def fnExactAllocShadowWrong : ChangeSpec := { name := "fnExactAllocShadow", fn := fun _ => fun
  | [d1, d2, d3, d4] => { results := [.lit (.bool false)], args := [d1, d2, d3, d4] }
  | _ => none }
def FnExactAllocShadowWrongFalsely : Prop := fnExactAllocShadowRow.holds Try.pinned (OpenSpec.ofChange fnExactAllocShadowWrong)

/-- 'laws.FnExactGetOrAlloc': WHATEVER THE INPUT: true; the input reads as it did. -/
def fnExactGetOrAllocSpec : ChangeSpec := { name := "fnExactGetOrAlloc", fn := fun _ => fun
  | [d1, d2, d3, d4] => { results := [.lit (.bool true)], args := [d1, d2, d3, d4] }
  | _ => none }
def fnExactGetOrAllocRow : OpenClaim := { program := "ytmbkkcdcccopiaa", sum := "fc8c88350165a08a8a0b27974182c2216071fc96f2e55388e8b4968db682daca", func := "loop.example/g00654/laws.FnExactGetOrAlloc", spec := "fnExactGetOrAlloc", unfollowed := true, recurses := true, plainKeys := false, apart := false }
def FnExactGetOrAllocSaid : Prop := fnExactGetOrAllocRow.holds Try.pinned (OpenSpec.ofChange fnExactGetOrAllocSpec)

/-- ITS FALSE NEIGHBOUR: 'it returns false'. Refute it at one input. -/
def fnExactGetOrAllocWrong : ChangeSpec := { name := "fnExactGetOrAlloc", fn := fun _ => fun
  | [d1, d2, d3, d4] => { results := [.lit (.bool false)], args := [d1, d2, d3, d4] }
  | _ => none }
def FnExactGetOrAllocWrongFalsely : Prop := fnExactGetOrAllocRow.holds Try.pinned (OpenSpec.ofChange fnExactGetOrAllocWrong)

/-- 'laws.FnExactPutShadow': WHATEVER THE INPUT: true; the input reads as it did. -/
def fnExactPutShadowSpec : ChangeSpec := { name := "fnExactPutShadow", fn := fun _ => fun
  | [d1, d2, d3, d4] => { results := [.lit (.bool true)], args := [d1, d2, d3, d4] }
  | _ => none }
def fnExactPutShadowRow : OpenClaim := { program := "ytmbkkcdcccopiaa", sum := "fc8c88350165a08a8a0b27974182c2216071fc96f2e55388e8b4968db682daca", func := "loop.example/g00654/laws.FnExactPutShadow", spec := "fnExactPutShadow", unfollowed := true, recurses := true, plainKeys := false, apart := false }
def FnExactPutShadowSaid : Prop := fnExactPutShadowRow.holds Try.pinned (OpenSpec.ofChange fnExactPutShadowSpec)

/-- ITS FALSE NEIGHBOUR: 'it returns false'. Refute it at one input. -/
def fnExactPutShadowWrong : ChangeSpec := { name := "fnExactPutShadow", fn := fun _ => fun
  | [d1, d2, d3, d4] => { results := [.lit (.bool false)], args := [d1, d2, d3, d4] }
  | _ => none }
def FnExactPutShadowWrongFalsely : Prop := fnExactPutShadowRow.holds Try.pinned (OpenSpec.ofChange fnExactPutShadowWrong)

/-- 'laws.FnExactFreeShadow': WHATEVER THE INPUT: true; the input reads as it did. -/
def fnExactFreeShadowSpec : ChangeSpec := { name := "fnExactFreeShadow", fn := fun _ => fun
  | [d1, d2, d3] => { results := [.lit (.bool true)], args := [d1, d2, d3] }
  | _ => none }
def fnExactFreeShadowRow : OpenClaim := { program := "ytmbkkcdcccopiaa", sum := "fc8c88350165a08a8a0b27974182c2216071fc96f2e55388e8b4968db682daca", func := "loop.example/g00654/laws.FnExactFreeShadow", spec := "fnExactFreeShadow", unfollowed := true, recurses := true, plainKeys := false, apart := false }
def FnExactFreeShadowSaid : Prop := fnExactFreeShadowRow.holds Try.pinned (OpenSpec.ofChange fnExactFreeShadowSpec)

/-- ITS FALSE NEIGHBOUR: 'it returns false'. Refute it at one input. -/
def fnExactFreeShadowWrong : ChangeSpec := { name := "fnExactFreeShadow", fn := fun _ => fun
  | [d1, d2, d3] => { results := [.lit (.bool false)], args := [d1, d2, d3] }
  | _ => none }
def FnExactFreeShadowWrongFalsely : Prop := fnExactFreeShadowRow.holds Try.pinned (OpenSpec.ofChange fnExactFreeShadowWrong)

/-- 'laws.FnExactFreeId': WHATEVER THE INPUT: true; the input reads as it did. -/
def fnExactFreeIdSpec : ChangeSpec := { name := "fnExactFreeId", fn := fun _ => fun
  | [d1, d2] => { results := [.lit (.bool true)], args := [d1, d2] }
  | _ => none }
def fnExactFreeIdRow : OpenClaim := { program := "ytmbkkcdcccopiaa", sum := "fc8c88350165a08a8a0b27974182c2216071fc96f2e55388e8b4968db682daca", func := "loop.example/g00654/laws.FnExactFreeId", spec := "fnExactFreeId", unfollowed := true, recurses := true, plainKeys := false, apart := false }
def FnExactFreeIdSaid : Prop := fnExactFreeIdRow.holds Try.pinned (OpenSpec.ofChange fnExactFreeIdSpec)

/-- ITS FALSE NEIGHBOUR: 'it returns false'. Refute it at one input. -/
def fnExactFreeIdWrong : ChangeSpec := { name := "fnExactFreeId", fn := fun _ => fun
  | [d1, d2] => { results := [.lit (.bool false)], args := [d1, d2] }
  | _ => none }
def FnExactFreeIdWrongFalsely : Prop := fnExactFreeIdRow.holds Try.pinned (OpenSpec.ofChange fnExactFreeIdWrong)

/-- 'laws.FnExactSameShadows': WHATEVER THE INPUT: true; the input reads as it did. -/
def fnExactSameShadowsSpec : ChangeSpec := { name := "fnExactSameShadows", fn := fun _ => fun
  | [d1, d2] => { results := [.lit (.bool true)], args := [d1, d2] }
  | _ => none }
def fnExactSameShadowsRow : OpenClaim := { program := "ytmbkkcdcccopiaa", sum := "fc8c88350165a08a8a0b27974182c2216071fc96f2e55388e8b4968db682daca", func := "loop.example/g00654/laws.FnExactSameShadows", spec := "fnExactSameShadows", plainKeys := false, apart := false }
def FnExactSameShadowsSaid : Prop := fnExactSameShadowsRow.holds Try.pinned (OpenSpec.ofChange fnExactSameShadowsSpec)

/-- ITS FALSE NEIGHBOUR: 'it returns false'. Refute it at one input. -/
def fnExactSameShadowsWrong : ChangeSpec := { name := "fnExactSameShadows", fn := fun _ => fun
  | [d1, d2] => { results := [.lit (.bool false)], args := [d1, d2] }
  | _ => none }
def FnExactSameShadowsWrongFalsely : Prop := fnExactSameShadowsRow.holds Try.pinned (OpenSpec.ofChange fnExactSameShadowsWrong)

/- THE SECOND FORM. 'bulk': how many values and letters a reading holds, each counted each time it is reached (what is shared counts as often as it is met; a slice's spare places count too). A statement '..UptoSaid' is the law's where the arguments, and the package variables that the reading takes, are together of bulk at most 1048576: NARROWER than '..Said'. Prove '..Said' where nothing that the law and all that it calls make is longer than what came in: it says more and counts as full. Else prove '..UptoSaid'. A law counts once. -/
mutual
def uptoBulk {H : Type} : DataW H → Nat
  | .lit (.string bytes) => bytes.length + 1
  | .lit _ => 1
  | .nil => 1
  | .ptr d => uptoBulk d + 1
  | .slice elems spare => uptoBulkAll elems + uptoBulkAll spare + 1
  | .agg parts => uptoBulkAll parts + 1
  | .iface _ d => uptoBulk d + 1
  | .map entries => uptoBulkEntries entries + 1
  | .held _ => 1
def uptoBulkAll {H : Type} : List (DataW H) → Nat
  | [] => 0
  | d :: r => uptoBulk d + uptoBulkAll r
def uptoBulkEntries {H : Type} : List (Lit × DataW H) → Nat
  | [] => 0
  | x :: r => uptoBulkEntry x + uptoBulkEntries r
def uptoBulkEntry {H : Type} : Lit × DataW H → Nat
  | (.string bytes, d) => bytes.length + uptoBulk d + 1
  | (_, d) => uptoBulk d + 1
 end
def uptoSmall : (H : Type) → List (DataW H) → Bool := fun _ ds => decide (uptoBulkAll ds ≤ 1048576)
def OpenSpec.upto (s : _root_.Go.ChangeSpec) : _root_.Go.OpenSpec := { _root_.Go.OpenSpec.ofChange s with cond := some uptoSmall }

/-- 'laws.FnExactShadowsOK', WHERE WHAT IT READS IS OF BULK AT MOST 1048576: true; the input reads as it did. -/
def fnExactShadowsOKUptoRow : OpenClaim := { program := "ytmbkkcdcccopiaa", sum := "fc8c88350165a08a8a0b27974182c2216071fc96f2e55388e8b4968db682daca", func := "loop.example/g00654/laws.FnExactShadowsOK", spec := "fnExactShadowsOK", plainKeys := false, apart := false, narrowed := true }
def FnExactShadowsOKUptoSaid : Prop := fnExactShadowsOKUptoRow.holds Try.pinned (OpenSpec.upto fnExactShadowsOKSpec)

/-- 'laws.FnExactGetShadow', WHERE WHAT IT READS IS OF BULK AT MOST 1048576: true; the input reads as it did. -/
def fnExactGetShadowUptoRow : OpenClaim := { program := "ytmbkkcdcccopiaa", sum := "fc8c88350165a08a8a0b27974182c2216071fc96f2e55388e8b4968db682daca", func := "loop.example/g00654/laws.FnExactGetShadow", spec := "fnExactGetShadow", plainKeys := false, apart := false, narrowed := true }
def FnExactGetShadowUptoSaid : Prop := fnExactGetShadowUptoRow.holds Try.pinned (OpenSpec.upto fnExactGetShadowSpec)

/-- 'laws.FnExactAllocShadow', WHERE WHAT IT READS IS OF BULK AT MOST 1048576: true; the input reads as it did. -/
def fnExactAllocShadowUptoRow : OpenClaim := { program := "ytmbkkcdcccopiaa", sum := "fc8c88350165a08a8a0b27974182c2216071fc96f2e55388e8b4968db682daca", func := "loop.example/g00654/laws.FnExactAllocShadow", spec := "fnExactAllocShadow", unfollowed := true, recurses := true, plainKeys := false, apart := false, narrowed := true }
def FnExactAllocShadowUptoSaid : Prop := fnExactAllocShadowUptoRow.holds Try.pinned (OpenSpec.upto fnExactAllocShadowSpec)

/-- 'laws.FnExactGetOrAlloc', WHERE WHAT IT READS IS OF BULK AT MOST 1048576: true; the input reads as it did. -/
def fnExactGetOrAllocUptoRow : OpenClaim := { program := "ytmbkkcdcccopiaa", sum := "fc8c88350165a08a8a0b27974182c2216071fc96f2e55388e8b4968db682daca", func := "loop.example/g00654/laws.FnExactGetOrAlloc", spec := "fnExactGetOrAlloc", unfollowed := true, recurses := true, plainKeys := false, apart := false, narrowed := true }
def FnExactGetOrAllocUptoSaid : Prop := fnExactGetOrAllocUptoRow.holds Try.pinned (OpenSpec.upto fnExactGetOrAllocSpec)

/-- 'laws.FnExactPutShadow', WHERE WHAT IT READS IS OF BULK AT MOST 1048576: true; the input reads as it did. -/
def fnExactPutShadowUptoRow : OpenClaim := { program := "ytmbkkcdcccopiaa", sum := "fc8c88350165a08a8a0b27974182c2216071fc96f2e55388e8b4968db682daca", func := "loop.example/g00654/laws.FnExactPutShadow", spec := "fnExactPutShadow", unfollowed := true, recurses := true, plainKeys := false, apart := false, narrowed := true }
def FnExactPutShadowUptoSaid : Prop := fnExactPutShadowUptoRow.holds Try.pinned (OpenSpec.upto fnExactPutShadowSpec)

/-- 'laws.FnExactFreeShadow', WHERE WHAT IT READS IS OF BULK AT MOST 1048576: true; the input reads as it did. -/
def fnExactFreeShadowUptoRow : OpenClaim := { program := "ytmbkkcdcccopiaa", sum := "fc8c88350165a08a8a0b27974182c2216071fc96f2e55388e8b4968db682daca", func := "loop.example/g00654/laws.FnExactFreeShadow", spec := "fnExactFreeShadow", unfollowed := true, recurses := true, plainKeys := false, apart := false, narrowed := true }
def FnExactFreeShadowUptoSaid : Prop := fnExactFreeShadowUptoRow.holds Try.pinned (OpenSpec.upto fnExactFreeShadowSpec)

/-- 'laws.FnExactFreeId', WHERE WHAT IT READS IS OF BULK AT MOST 1048576: true; the input reads as it did. -/
def fnExactFreeIdUptoRow : OpenClaim := { program := "ytmbkkcdcccopiaa", sum := "fc8c88350165a08a8a0b27974182c2216071fc96f2e55388e8b4968db682daca", func := "loop.example/g00654/laws.FnExactFreeId", spec := "fnExactFreeId", unfollowed := true, recurses := true, plainKeys := false, apart := false, narrowed := true }
def FnExactFreeIdUptoSaid : Prop := fnExactFreeIdUptoRow.holds Try.pinned (OpenSpec.upto fnExactFreeIdSpec)

/-- 'laws.FnExactSameShadows', WHERE WHAT IT READS IS OF BULK AT MOST 1048576: true; the input reads as it did. -/
def fnExactSameShadowsUptoRow : OpenClaim := { program := "ytmbkkcdcccopiaa", sum := "fc8c88350165a08a8a0b27974182c2216071fc96f2e55388e8b4968db682daca", func := "loop.example/g00654/laws.FnExactSameShadows", spec := "fnExactSameShadows", plainKeys := false, apart := false, narrowed := true }
def FnExactSameShadowsUptoSaid : Prop := fnExactSameShadowsUptoRow.holds Try.pinned (OpenSpec.upto fnExactSameShadowsSpec)

end Rows
end Go.Proofs.Ytmbkkcdcccopiaa
