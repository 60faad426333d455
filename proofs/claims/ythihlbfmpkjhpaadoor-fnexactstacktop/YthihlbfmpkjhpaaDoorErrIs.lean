/- errors.Is of an argumentError: one Unwrap, then the kinds are held against each other. -/
import Derived.Test.YthihlbfmpkjhpaaDoorRows
import Derived.WalkKit
import Derived.WalkSpells
import Derived.Below
import Derived.LaidEql
import Derived.Stop.Asserts
import Derived.RowKitTokens
namespace Go.Proofs.YthihlbfmpkjhpaaDoor
open Go.RowKit Go.Extern.Stop Go.Stop Go.Extern
set_option linter.unusedVariables false

theorem isTypeOf (v : Value) (w : World) : (Extern.ReflectliteType.typeOf #[.iface 50 v]).run Tryd.prog w = .ok (.iface 40 (.agg #[.pointer (some ⟨5, 50, none⟩)])) w := by kernel_rfl
/-- The model's entry of '(reflectlite.rtype).Comparable'. -/
def cmpEntry : Array Value → Sem Value := Extern.ReflectliteType.method fun t => do Extern.Rtype.noPackHeld "Comparable" t; pure (.bool (← typeInfo t).comparable)
theorem isComparable (w : World) : (cmpEntry #[.agg #[.pointer (some ⟨5, 50, none⟩)]]).run Tryd.prog w = .ok (.bool true) w := by kernel_rfl
theorem isMethodComparable (v : Value) (w : World) : (Go.method 188 40 v "Comparable").run Tryd.prog w = .ok (34, v) w := by kernel_rfl
theorem isComp : (Tryd.prog.info? 50).map (·.comparable) = some true := by kernel_rfl
theorem isSize : (Tryd.prog.info? 76).map (·.size) = some 1 := by kernel_rfl
theorem noIsE (v : Value) (xT : TypeId) (w : World) : (Instr.typeAssert (.iface 50 v) xT 42 true).run Tryd.prog w = .ok (.tuple #[.nilIface, .bool false]) w := run_typeAssert_lacksB Tryd.underlying42 (by kernel_rfl) (by kernel_rfl) v xT w
theorem noUnwrapE (v : Value) (xT : TypeId) (w : World) : (Instr.typeAssert (.iface 50 v) xT 45 true).run Tryd.prog w = .ok (.tuple #[.nilIface, .bool false]) w := run_typeAssert_lacksB Tryd.underlying45 (by kernel_rfl) (by kernel_rfl) v xT w
theorem noUnwrapsE (v : Value) (xT : TypeId) (w : World) : (Instr.typeAssert (.iface 50 v) xT 47 true).run Tryd.prog w = .ok (.tuple #[.nilIface, .bool false]) w := run_typeAssert_lacksB Tryd.underlying47 (by kernel_rfl) (by kernel_rfl) v xT w
theorem noIsW (v : Value) (xT : TypeId) (w : World) : (Instr.typeAssert (.iface 32 v) xT 42 true).run Tryd.prog w = .ok (.tuple #[.nilIface, .bool false]) w := run_typeAssert_lacksB Tryd.underlying42 (by kernel_rfl) (by kernel_rfl) v xT w
theorem hasUnwrapW (v : Value) (xT : TypeId) (w : World) : (Instr.typeAssert (.iface 32 v) xT 45 true).run Tryd.prog w = .ok (.tuple #[.iface 32 v, .bool true]) w := run_typeAssert_hasB Tryd.underlying45 (by kernel_rfl) v xT w
theorem methodUnwrap (c0 c1 : Value) (w : World) : (Go.method 188 32 (.agg #[c0, c1]) "Unwrap").run Tryd.prog w = .ok (30, .agg #[c0, c1]) w := by kernel_rfl

/-- An argumentError as a value of error. -/
abbrev argErr (n : ByteArray) (a : Addr) : Value := .iface 32 (.agg #[.string n, .iface 50 (.pointer (some a))])

theorem unwrap_any (n : ByteArray) (a : Addr) (w : World) :
    Calls Tryd.prog 30 #[.agg #[.string n, .iface 50 (.pointer (some a))]] w fun e w' => e = .returned (.iface 50 (.pointer (some a))) ∧ Below w.heap.size w w' := by
  go_enter Tryd.func30, Tryd.ntmps30
  go_wp2
  go_ret
  exact ⟨rfl, (Below.refl _ _).alloc (Nat.le_refl _) _⟩

set_option maxRecDepth 100000 in
set_option maxHeartbeats 1000000 in
theorem is_arg_same (n : ByteArray) (b : Addr) (w : World) :
    Calls Tryd.prog 11 #[argErr n b, .iface 50 (.pointer (some b))] w fun e w' => e = .returned (.bool true) ∧ Below w.heap.size w w' := by
  obtain ⟨i, hi, hcmp⟩ := Option.map_eq_some_iff.1 isComp
  obtain ⟨j, hj, hjs⟩ := Option.map_eq_some_iff.1 isSize
  have h8 := @run_callFunc_extern Tryd.prog 12 _ Extern.ReflectliteType.typeOf Tryd.func12 (by kernel_rfl) (by kernel_rfl) (by kernel_rfl) (by kernel_rfl)
  have h32 := @run_callFunc_extern Tryd.prog 34 _ cmpEntry Tryd.func34 (by kernel_rfl) (by kernel_rfl) (by kernel_rfl) (by kernel_rfl)
  have tT := isTypeOf
  have cT := isComparable
  have mR := isMethodComparable
  have nE := noIsE
  have uE := noUnwrapE
  have vE := noUnwrapsE
  have nW := noIsW
  have uW := hasUnwrapW
  have mU := methodUnwrap
  have heq := fun w => run_eql_iface_ptr_same (P := Tryd.prog) w b Tryd.underlying28 Tryd.underlying50 hi hcmp hj
  have hty := fun w => run_eql_iface_types (P := Tryd.prog) 32 50 (.agg #[.string n, .iface 50 (.pointer (some b))]) (.pointer (some b)) Tryd.underlying28 (by decide) w
  go_enter Tryd.func11, Tryd.ntmps11
  go_wp2
  refine wp_loop_rounds 2 ?_
  rw [rounds_succ]
  go_wp2_with (go_at_call 30; refine (unwrap_any _ _ _).mono ?_; rintro e w1 ⟨rfl, hb1⟩)
  rw [rounds_succ]
  go_wp2
  go_ret
  exact ⟨rfl, hb1⟩
set_option maxRecDepth 100000 in
set_option maxHeartbeats 1000000 in
theorem is_arg_other (n : ByteArray) (a b : Addr) (ca cb : Array Value) (ta tb : TypeId) (w : World) (hne : a ≠ b) (ha : w.heap[a.block]? = some (.cells ca ta (0, 0))) (hb : w.heap[b.block]? = some (.cells cb tb (0, 0))) :
    Calls Tryd.prog 11 #[argErr n a, .iface 50 (.pointer (some b))] w fun e w' => e = .returned (.bool false) ∧ Below w.heap.size w w' := by
  obtain ⟨i, hi, hcmp⟩ := Option.map_eq_some_iff.1 isComp
  obtain ⟨j, hj, hjs⟩ := Option.map_eq_some_iff.1 isSize
  have h8 := @run_callFunc_extern Tryd.prog 12 _ Extern.ReflectliteType.typeOf Tryd.func12 (by kernel_rfl) (by kernel_rfl) (by kernel_rfl) (by kernel_rfl)
  have h32 := @run_callFunc_extern Tryd.prog 34 _ cmpEntry Tryd.func34 (by kernel_rfl) (by kernel_rfl) (by kernel_rfl) (by kernel_rfl)
  have tT := isTypeOf
  have cT := isComparable
  have mR := isMethodComparable
  have nE := noIsE
  have uE := noUnwrapE
  have vE := noUnwrapsE
  have nW := noIsW
  have uW := hasUnwrapW
  have mU := methodUnwrap
  have hty := fun w => run_eql_iface_types (P := Tryd.prog) 32 50 (.agg #[.string n, .iface 50 (.pointer (some a))]) (.pointer (some b)) Tryd.underlying28 (by decide) w
  go_enter Tryd.func11, Tryd.ntmps11
  go_wp2
  refine wp_loop_rounds 2 ?_
  rw [rounds_succ]
  go_wp2_with (go_at_call 30; refine (unwrap_any _ _ _).mono ?_; rintro e w1 ⟨rfl, hb1⟩)
  have ha1 : w1.heap[a.block]? = some (.cells ca ta (0, 0)) := (hb1.block _ (Array.getElem?_eq_some_iff.1 ha).1).trans ha
  have hbb1 : w1.heap[b.block]? = some (.cells cb tb (0, 0)) := (hb1.block _ (Array.getElem?_eq_some_iff.1 hb).1).trans hb
  have heq := run_eql_iface_ptr_other (P := Tryd.prog) w1 Tryd.underlying28 Tryd.underlying50 hi hcmp hj (by rw [hjs]; decide) hne ha1 hbb1
  clear ha1 hbb1
  rw [rounds_succ]
  go_wp2
  go_ret
  exact ⟨rfl, hb1⟩
end Go.Proofs.YthihlbfmpkjhpaaDoor
