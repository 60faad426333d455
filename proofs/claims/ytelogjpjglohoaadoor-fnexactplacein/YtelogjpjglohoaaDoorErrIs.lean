/- errors.Is of an argumentError: one Unwrap, then the kinds are held against each other. -/
import Derived.Test.YtelogjpjglohoaaDoorRows
import Derived.WalkKit
import Derived.WalkSpells
import Derived.Below
import Derived.LaidEql
import Derived.Stop.Asserts
import Derived.RowKitTokens
namespace Go.Proofs.YtelogjpjglohoaaDoor
open Go.RowKit Go.Extern.Stop Go.Stop Go.Extern
set_option linter.unusedVariables false

theorem isTypeOf (v : Value) (w : World) : (Extern.ReflectliteType.typeOf #[.iface 58 v]).run Tryd.prog w = .ok (.iface 48 (.agg #[.pointer (some ⟨5, 58, none⟩)])) w := by kernel_rfl
/-- The model's entry of '(reflectlite.rtype).Comparable'. -/
def cmpEntry : Array Value → Sem Value := Extern.ReflectliteType.method fun t => do Extern.Rtype.noPackHeld "Comparable" t; pure (.bool (← typeInfo t).comparable)
theorem isComparable (w : World) : (cmpEntry #[.agg #[.pointer (some ⟨5, 58, none⟩)]]).run Tryd.prog w = .ok (.bool true) w := by kernel_rfl
theorem isMethodComparable (v : Value) (w : World) : (Go.method 195 48 v "Comparable").run Tryd.prog w = .ok (38, v) w := by kernel_rfl
theorem isComp : (Tryd.prog.info? 58).map (·.comparable) = some true := by kernel_rfl
theorem isSize : (Tryd.prog.info? 83).map (·.size) = some 1 := by kernel_rfl
theorem noIsE (v : Value) (xT : TypeId) (w : World) : (Instr.typeAssert (.iface 58 v) xT 50 true).run Tryd.prog w = .ok (.tuple #[.nilIface, .bool false]) w := run_typeAssert_lacksB Tryd.underlying50 (by kernel_rfl) (by kernel_rfl) v xT w
theorem noUnwrapE (v : Value) (xT : TypeId) (w : World) : (Instr.typeAssert (.iface 58 v) xT 53 true).run Tryd.prog w = .ok (.tuple #[.nilIface, .bool false]) w := run_typeAssert_lacksB Tryd.underlying53 (by kernel_rfl) (by kernel_rfl) v xT w
theorem noUnwrapsE (v : Value) (xT : TypeId) (w : World) : (Instr.typeAssert (.iface 58 v) xT 55 true).run Tryd.prog w = .ok (.tuple #[.nilIface, .bool false]) w := run_typeAssert_lacksB Tryd.underlying55 (by kernel_rfl) (by kernel_rfl) v xT w
theorem noIsW (v : Value) (xT : TypeId) (w : World) : (Instr.typeAssert (.iface 40 v) xT 50 true).run Tryd.prog w = .ok (.tuple #[.nilIface, .bool false]) w := run_typeAssert_lacksB Tryd.underlying50 (by kernel_rfl) (by kernel_rfl) v xT w
theorem hasUnwrapW (v : Value) (xT : TypeId) (w : World) : (Instr.typeAssert (.iface 40 v) xT 53 true).run Tryd.prog w = .ok (.tuple #[.iface 40 v, .bool true]) w := run_typeAssert_hasB Tryd.underlying53 (by kernel_rfl) v xT w
theorem methodUnwrap (c0 c1 : Value) (w : World) : (Go.method 195 40 (.agg #[c0, c1]) "Unwrap").run Tryd.prog w = .ok (34, .agg #[c0, c1]) w := by kernel_rfl

/-- An argumentError as a value of error. -/
abbrev argErr (n : ByteArray) (a : Addr) : Value := .iface 40 (.agg #[.string n, .iface 58 (.pointer (some a))])

theorem unwrap_any (n : ByteArray) (a : Addr) (w : World) :
    Calls Tryd.prog 34 #[.agg #[.string n, .iface 58 (.pointer (some a))]] w fun e w' => e = .returned (.iface 58 (.pointer (some a))) ∧ Below w.heap.size w w' := by
  go_enter Tryd.func34, Tryd.ntmps34
  go_wp2
  go_ret
  exact ⟨rfl, (Below.refl _ _).alloc (Nat.le_refl _) _⟩

set_option maxRecDepth 100000 in
set_option maxHeartbeats 1000000 in
theorem is_arg_same (n : ByteArray) (b : Addr) (w : World) :
    Calls Tryd.prog 15 #[argErr n b, .iface 58 (.pointer (some b))] w fun e w' => e = .returned (.bool true) ∧ Below w.heap.size w w' := by
  obtain ⟨i, hi, hcmp⟩ := Option.map_eq_some_iff.1 isComp
  obtain ⟨j, hj, hjs⟩ := Option.map_eq_some_iff.1 isSize
  have h8 := @run_callFunc_extern Tryd.prog 16 _ Extern.ReflectliteType.typeOf Tryd.func16 (by kernel_rfl) (by kernel_rfl) (by kernel_rfl) (by kernel_rfl)
  have h32 := @run_callFunc_extern Tryd.prog 38 _ cmpEntry Tryd.func38 (by kernel_rfl) (by kernel_rfl) (by kernel_rfl) (by kernel_rfl)
  have tT := isTypeOf
  have cT := isComparable
  have mR := isMethodComparable
  have nE := noIsE
  have uE := noUnwrapE
  have vE := noUnwrapsE
  have nW := noIsW
  have uW := hasUnwrapW
  have mU := methodUnwrap
  have heq := fun w => run_eql_iface_ptr_same (P := Tryd.prog) w b Tryd.underlying35 Tryd.underlying58 hi hcmp hj
  have hty := fun w => run_eql_iface_types (P := Tryd.prog) 40 58 (.agg #[.string n, .iface 58 (.pointer (some b))]) (.pointer (some b)) Tryd.underlying35 (by decide) w
  go_enter Tryd.func15, Tryd.ntmps15
  go_wp2
  refine wp_loop_rounds 2 ?_
  rw [rounds_succ]
  go_wp2_with (go_at_call 34; refine (unwrap_any _ _ _).mono ?_; rintro e w1 ⟨rfl, hb1⟩)
  rw [rounds_succ]
  go_wp2
  go_ret
  exact ⟨rfl, hb1⟩
set_option maxRecDepth 100000 in
set_option maxHeartbeats 1000000 in
theorem is_arg_other (n : ByteArray) (a b : Addr) (ca cb : Array Value) (ta tb : TypeId) (w : World) (hne : a ≠ b) (ha : w.heap[a.block]? = some (.cells ca ta (0, 0))) (hb : w.heap[b.block]? = some (.cells cb tb (0, 0))) :
    Calls Tryd.prog 15 #[argErr n a, .iface 58 (.pointer (some b))] w fun e w' => e = .returned (.bool false) ∧ Below w.heap.size w w' := by
  obtain ⟨i, hi, hcmp⟩ := Option.map_eq_some_iff.1 isComp
  obtain ⟨j, hj, hjs⟩ := Option.map_eq_some_iff.1 isSize
  have h8 := @run_callFunc_extern Tryd.prog 16 _ Extern.ReflectliteType.typeOf Tryd.func16 (by kernel_rfl) (by kernel_rfl) (by kernel_rfl) (by kernel_rfl)
  have h32 := @run_callFunc_extern Tryd.prog 38 _ cmpEntry Tryd.func38 (by kernel_rfl) (by kernel_rfl) (by kernel_rfl) (by kernel_rfl)
  have tT := isTypeOf
  have cT := isComparable
  have mR := isMethodComparable
  have nE := noIsE
  have uE := noUnwrapE
  have vE := noUnwrapsE
  have nW := noIsW
  have uW := hasUnwrapW
  have mU := methodUnwrap
  have hty := fun w => run_eql_iface_types (P := Tryd.prog) 40 58 (.agg #[.string n, .iface 58 (.pointer (some a))]) (.pointer (some b)) Tryd.underlying35 (by decide) w
  go_enter Tryd.func15, Tryd.ntmps15
  go_wp2
  refine wp_loop_rounds 2 ?_
  rw [rounds_succ]
  go_wp2_with (go_at_call 34; refine (unwrap_any _ _ _).mono ?_; rintro e w1 ⟨rfl, hb1⟩)
  have ha1 : w1.heap[a.block]? = some (.cells ca ta (0, 0)) := (hb1.block _ (Array.getElem?_eq_some_iff.1 ha).1).trans ha
  have hbb1 : w1.heap[b.block]? = some (.cells cb tb (0, 0)) := (hb1.block _ (Array.getElem?_eq_some_iff.1 hb).1).trans hb
  have heq := run_eql_iface_ptr_other (P := Tryd.prog) w1 Tryd.underlying35 Tryd.underlying58 hi hcmp hj (by rw [hjs]; decide) hne ha1 hbb1
  clear ha1 hbb1
  rw [rounds_succ]
  go_wp2
  go_ret
  exact ⟨rfl, hb1⟩
end Go.Proofs.YtelogjpjglohoaaDoor
