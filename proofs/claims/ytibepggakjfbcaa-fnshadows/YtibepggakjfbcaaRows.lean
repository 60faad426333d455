/-
  No cell of these rows narrows 'for every input' (looked for: loops, veiled, ifaces, maps, wideKeys, modest, calm, conditions, laid).
  DERIVED. THE GIVEN ROWS OF THIS SEAT. 3 by the template 'for every input the law returns true; each argument reads behind the call as it read before'; 0 by the template 'total and deterministic' (their statements: YtibepggakjfbcaaTotals.lean).
  GIVEN WITH THE SEED: the statements are not yours to turn. If you find one false, say at which input.
  Laid BY PROGRAM, IN A SANDBOX (cutbox-rows.mjs): the forced cells as the released guide's own fill.sh prints them over the translation af37e8d0a069f166… (all of the seat's roots in one cut). By AI agents, Wed Nov 11 2026. No macro, syntax, notation, axiom, sorry.
-/
import Derived.Test.YtibepggakjfbcaaChecked
import GoSem.Claim
import GoSem.ClaimJoined
import GoSem.ClaimMapViews
import Derived.JoinedTies
import Derived.KernelRfl
namespace Go.Proofs.Ytibepggakjfbcaa
/- THE CELL 'sum', in the pinned program and in every row, IS THE sha256 OF THE DUMP (.gsa) THAT YtibepggakjfbcaaProg.lean LOADS. Nothing in Lean hashes anything: it is a label: what it is worth is what the hold of that sum in a sandbox is worth. -/
noncomputable def Try.pinned : Pinned := { name := "ytibepggakjfbcaa", sum := "af37e8d0a069f166a8445840463aa8a34b48d991d865be2c5fc15c7a78034261", checked := Try.checked }
namespace Rows
def none {H : Type} : Left H := { results := [], args := [] }

/-- 'laws.FnShadows': WHATEVER THE INPUT: true; the input reads as it did. -/
def fnShadowsSpec : ChangeSpec := { name := "fnShadows", fn := fun _ => fun
  | [d1, d2] => { results := [.lit (.bool true)], args := [d1, d2] }
  | _ => none }
def fnShadowsRow : OpenClaim := { program := "ytibepggakjfbcaa", sum := "af37e8d0a069f166a8445840463aa8a34b48d991d865be2c5fc15c7a78034261", func := "loop.example/g00654/laws.FnShadows", spec := "fnShadows", unfollowed := true, recurses := true, plainKeys := false, apart := false }
def FnShadowsSaid : Prop := fnShadowsRow.holds Try.pinned (OpenSpec.ofChange fnShadowsSpec)

/-- ITS FALSE NEIGHBOUR: 'it returns false'. Refute it at one input. -/
def fnShadowsWrong : ChangeSpec := { name := "fnShadows", fn := fun _ => fun
  | [d1, d2] => { results := [.lit (.bool false)], args := [d1, d2] }
  | _ => none }
def FnShadowsWrongFalsely : Prop := fnShadowsRow.holds Try.pinned (OpenSpec.ofChange fnShadowsWrong)

/-- 'laws.FnGetOr': WHATEVER THE INPUT: true; the input reads as it did. -/
def fnGetOrSpec : ChangeSpec := { name := "fnGetOr", fn := fun _ => fun
  | [d1, d2] => { results := [.lit (.bool true)], args := [d1, d2] }
  | _ => none }
def fnGetOrRow : OpenClaim := { program := "ytibepggakjfbcaa", sum := "af37e8d0a069f166a8445840463aa8a34b48d991d865be2c5fc15c7a78034261", func := "loop.example/g00654/laws.FnGetOr", spec := "fnGetOr", unfollowed := true, recurses := true, plainKeys := false, apart := false }
def FnGetOrSaid : Prop := fnGetOrRow.holds Try.pinned (OpenSpec.ofChange fnGetOrSpec)

/-- ITS FALSE NEIGHBOUR: 'it returns false'. Refute it at one input. -/
def fnGetOrWrong : ChangeSpec := { name := "fnGetOr", fn := fun _ => fun
  | [d1, d2] => { results := [.lit (.bool false)], args := [d1, d2] }
  | _ => none }
def FnGetOrWrongFalsely : Prop := fnGetOrRow.holds Try.pinned (OpenSpec.ofChange fnGetOrWrong)

/-- 'laws.FnFreeId': WHATEVER THE INPUT: true; the input reads as it did. -/
def fnFreeIdSpec : ChangeSpec := { name := "fnFreeId", fn := fun _ => fun
  | [d1, d2] => { results := [.lit (.bool true)], args := [d1, d2] }
  | _ => none }
def fnFreeIdRow : OpenClaim := { program := "ytibepggakjfbcaa", sum := "af37e8d0a069f166a8445840463aa8a34b48d991d865be2c5fc15c7a78034261", func := "loop.example/g00654/laws.FnFreeId", spec := "fnFreeId", unfollowed := true, recurses := true, plainKeys := false, apart := false }
def FnFreeIdSaid : Prop := fnFreeIdRow.holds Try.pinned (OpenSpec.ofChange fnFreeIdSpec)

/-- ITS FALSE NEIGHBOUR: 'it returns false'. Refute it at one input. -/
def fnFreeIdWrong : ChangeSpec := { name := "fnFreeId", fn := fun _ => fun
  | [d1, d2] => { results := [.lit (.bool false)], args := [d1, d2] }
  | _ => none }
def FnFreeIdWrongFalsely : Prop := fnFreeIdRow.holds Try.pinned (OpenSpec.ofChange fnFreeIdWrong)

/- THE SECOND FORM. 'bulk': how many values and letters a reading holds, each counted each time it is reached (what is shared counts as often as it is met; a slice's spare places count too). A statement '..UptoSaid' is the law's where the arguments, and the package variables that the reading takes, are together of bulk at most 1048576: NARROWER than '..Said'. Prove '..Said' where nothing that the law and all that it calls make is longer than what came in: it says more and counts as full. Else prove '..UptoSaid'. A law counts once. -/
mutual
def uptoBulk {H : Type} : DataW H → Nat
  | .lit (.string bytes) => bytes.length + 1
  | .lit _ => 1
  | .nil => 1
  | .ptr d => uptoBulk d + 1
  | .slice elems spare => uptoBulkAll elems + uptoBulkAll spare + 1
  | .agg parts => uptoBulkAll parts + 1
  | .iface _ d => uptoBulk d + 1
  | .map entries => uptoBulkEntries entries + 1
  | .held _ => 1
def uptoBulkAll {H : Type} : List (DataW H) → Nat
  | [] => 0
  | d :: r => uptoBulk d + uptoBulkAll r
def uptoBulkEntries {H : Type} : List (Lit × DataW H) → Nat
  | [] => 0
  | x :: r => uptoBulkEntry x + uptoBulkEntries r
def uptoBulkEntry {H : Type} : Lit × DataW H → Nat
  | (.string bytes, d) => bytes.length + uptoBulk d + 1
  | (_, d) => uptoBulk d + 1
 end
def uptoSmall : (H : Type) → List (DataW H) → Bool := fun _ ds => decide (uptoBulkAll ds ≤ 1048576)
def OpenSpec.upto (s : _root_.Go.ChangeSpec) : _root_.Go.OpenSpec := { _root_.Go.OpenSpec.ofChange s with cond := some uptoSmall }

/-- 'laws.FnShadows', WHERE WHAT IT READS IS OF BULK AT MOST 1048576: true; the input reads as it did. -/
def fnShadowsUptoRow : OpenClaim := { program := "ytibepggakjfbcaa", sum := "af37e8d0a069f166a8445840463aa8a34b48d991d865be2c5fc15c7a78034261", func := "loop.example/g00654/laws.FnShadows", spec := "fnShadows", unfollowed := true, recurses := true, plainKeys := false, apart := false, narrowed := true }
def FnShadowsUptoSaid : Prop := fnShadowsUptoRow.holds Try.pinned (OpenSpec.upto fnShadowsSpec)

/-- 'laws.FnGetOr', WHERE WHAT IT READS IS OF BULK AT MOST 1048576: true; the input reads as it did. -/
def fnGetOrUptoRow : OpenClaim := { program := "ytibepggakjfbcaa", sum := "af37e8d0a069f166a8445840463aa8a34b48d991d865be2c5fc15c7a78034261", func := "loop.example/g00654/laws.FnGetOr", spec := "fnGetOr", unfollowed := true, recurses := true, plainKeys := false, apart := false, narrowed := true }
def FnGetOrUptoSaid : Prop := fnGetOrUptoRow.holds Try.pinned (OpenSpec.upto fnGetOrSpec)

/-- 'laws.FnFreeId', WHERE WHAT IT READS IS OF BULK AT MOST 1048576: true; the input reads as it did. -/
def fnFreeIdUptoRow : OpenClaim := { program := "ytibepggakjfbcaa", sum := "af37e8d0a069f166a8445840463aa8a34b48d991d865be2c5fc15c7a78034261", func := "loop.example/g00654/laws.FnFreeId", spec := "fnFreeId", unfollowed := true, recurses := true, plainKeys := false, apart := false, narrowed := true }
def FnFreeIdUptoSaid : Prop := fnFreeIdUptoRow.holds Try.pinned (OpenSpec.upto fnFreeIdSpec)

end Rows
end Go.Proofs.Ytibepggakjfbcaa
