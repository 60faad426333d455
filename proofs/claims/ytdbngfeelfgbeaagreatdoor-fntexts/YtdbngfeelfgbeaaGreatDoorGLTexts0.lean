/- errors.Is of an argumentError: one Unwrap, then the kinds are held against each other. The two errors at package level, as they are laid. -/
import Derived.Test.YtdbngfeelfgbeaaGreatDoorRows
import Derived.WalkKit
import Derived.WalkSpells
import Derived.Below
import Derived.LaidEql
import Derived.Stop.Asserts
import Derived.RowKitTokens
import Derived.ProofKit
import Derived.OpenShut
import Derived.LaidMore
import Derived.Stop.LaidTwo
import Derived.Stop.Joined
namespace Go.Proofs.YtdbngfeelfgbeaaGreatDoor
open Go.RowKit Go.Extern.Stop Go.Stop Go.Extern
set_option linter.unusedVariables false

theorem isTypeOf (v : Value) (w : World) : (Extern.ReflectliteType.typeOf #[.iface 147 v]).run Tryz.prog w = .ok (.iface 110 (.agg #[.pointer (some ⟨9, 147, none⟩)])) w := by kernel_rfl
/-- The model's entry of '(reflectlite.rtype).Comparable'. -/
def cmpEntry : Array Value → Sem Value := Extern.ReflectliteType.method fun t => do Extern.Rtype.noPackHeld "Comparable" t; pure (.bool (← typeInfo t).comparable)
theorem isComparable (w : World) : (cmpEntry #[.agg #[.pointer (some ⟨9, 147, none⟩)]]).run Tryz.prog w = .ok (.bool true) w := by kernel_rfl
theorem isMethodComparable (v : Value) (w : World) : (Go.method 281 110 v "Comparable").run Tryz.prog w = .ok (118, v) w := by kernel_rfl
theorem isComp : (Tryz.prog.info? 147).map (·.comparable) = some true := by kernel_rfl
theorem isSize : (Tryz.prog.info? 149).map (·.size) = some 1 := by kernel_rfl
theorem noIsE (v : Value) (xT : TypeId) (w : World) : (Instr.typeAssert (.iface 147 v) xT 112 true).run Tryz.prog w = .ok (.tuple #[.nilIface, .bool false]) w := run_typeAssert_lacksB Tryz.underlying112 (by kernel_rfl) (by kernel_rfl) v xT w
theorem noUnwrapE (v : Value) (xT : TypeId) (w : World) : (Instr.typeAssert (.iface 147 v) xT 115 true).run Tryz.prog w = .ok (.tuple #[.nilIface, .bool false]) w := run_typeAssert_lacksB Tryz.underlying115 (by kernel_rfl) (by kernel_rfl) v xT w
theorem noUnwrapsE (v : Value) (xT : TypeId) (w : World) : (Instr.typeAssert (.iface 147 v) xT 117 true).run Tryz.prog w = .ok (.tuple #[.nilIface, .bool false]) w := run_typeAssert_lacksB Tryz.underlying117 (by kernel_rfl) (by kernel_rfl) v xT w
theorem noIsW (v : Value) (xT : TypeId) (w : World) : (Instr.typeAssert (.iface 89 v) xT 112 true).run Tryz.prog w = .ok (.tuple #[.nilIface, .bool false]) w := run_typeAssert_lacksB Tryz.underlying112 (by kernel_rfl) (by kernel_rfl) v xT w
theorem hasUnwrapW (v : Value) (xT : TypeId) (w : World) : (Instr.typeAssert (.iface 89 v) xT 115 true).run Tryz.prog w = .ok (.tuple #[.iface 89 v, .bool true]) w := run_typeAssert_hasB Tryz.underlying115 (by kernel_rfl) v xT w
theorem methodUnwrap (c0 c1 : Value) (w : World) : (Go.method 281 89 (.agg #[c0, c1]) "Unwrap").run Tryz.prog w = .ok (114, .agg #[c0, c1]) w := by kernel_rfl

/-- An argumentError as a value of error. -/
abbrev argErr (n : ByteArray) (a : Addr) : Value := .iface 89 (.agg #[.string n, .iface 147 (.pointer (some a))])

theorem unwrap_any (n : ByteArray) (a : Addr) (w : World) :
    Calls Tryz.prog 114 #[.agg #[.string n, .iface 147 (.pointer (some a))]] w fun e w' => e = .returned (.iface 147 (.pointer (some a))) ∧ Below w.heap.size w w' := by
  go_enter Tryz.func114, Tryz.ntmps114
  go_wp2
  go_ret
  exact ⟨rfl, (Below.refl _ _).alloc (Nat.le_refl _) _⟩

set_option maxRecDepth 100000 in
set_option maxHeartbeats 1000000 in
theorem is_arg_same (n : ByteArray) (b : Addr) (w : World) :
    Calls Tryz.prog 54 #[argErr n b, .iface 147 (.pointer (some b))] w fun e w' => e = .returned (.bool true) ∧ Below w.heap.size w w' := by
  obtain ⟨i, hi, hcmp⟩ := Option.map_eq_some_iff.1 isComp
  obtain ⟨j, hj, hjs⟩ := Option.map_eq_some_iff.1 isSize
  have h8 := @run_callFunc_extern Tryz.prog 64 _ Extern.ReflectliteType.typeOf Tryz.func64 (by kernel_rfl) (by kernel_rfl) (by kernel_rfl) (by kernel_rfl)
  have h32 := @run_callFunc_extern Tryz.prog 118 _ cmpEntry Tryz.func118 (by kernel_rfl) (by kernel_rfl) (by kernel_rfl) (by kernel_rfl)
  have tT := isTypeOf
  have cT := isComparable
  have mR := isMethodComparable
  have nE := noIsE
  have uE := noUnwrapE
  have vE := noUnwrapsE
  have nW := noIsW
  have uW := hasUnwrapW
  have mU := methodUnwrap
  have heq := fun w => run_eql_iface_ptr_same (P := Tryz.prog) w b Tryz.underlying55 Tryz.underlying147 hi hcmp hj
  have hty := fun w => run_eql_iface_types (P := Tryz.prog) 89 147 (.agg #[.string n, .iface 147 (.pointer (some b))]) (.pointer (some b)) Tryz.underlying55 (by decide) w
  go_enter Tryz.func54, Tryz.ntmps54
  go_wp2
  refine wp_loop_rounds 2 ?_
  rw [rounds_succ]
  go_wp2_with (go_at_call 114; refine (unwrap_any _ _ _).mono ?_; rintro e w1 ⟨rfl, hb1⟩)
  rw [rounds_succ]
  go_wp2
  go_ret
  exact ⟨rfl, hb1⟩
set_option maxRecDepth 100000 in
set_option maxHeartbeats 1000000 in
theorem is_arg_other (n : ByteArray) (a b : Addr) (ca cb : Array Value) (ta tb : TypeId) (w : World) (hne : a ≠ b) (ha : w.heap[a.block]? = some (.cells ca ta (0, 0))) (hb : w.heap[b.block]? = some (.cells cb tb (0, 0))) :
    Calls Tryz.prog 54 #[argErr n a, .iface 147 (.pointer (some b))] w fun e w' => e = .returned (.bool false) ∧ Below w.heap.size w w' := by
  obtain ⟨i, hi, hcmp⟩ := Option.map_eq_some_iff.1 isComp
  obtain ⟨j, hj, hjs⟩ := Option.map_eq_some_iff.1 isSize
  have h8 := @run_callFunc_extern Tryz.prog 64 _ Extern.ReflectliteType.typeOf Tryz.func64 (by kernel_rfl) (by kernel_rfl) (by kernel_rfl) (by kernel_rfl)
  have h32 := @run_callFunc_extern Tryz.prog 118 _ cmpEntry Tryz.func118 (by kernel_rfl) (by kernel_rfl) (by kernel_rfl) (by kernel_rfl)
  have tT := isTypeOf
  have cT := isComparable
  have mR := isMethodComparable
  have nE := noIsE
  have uE := noUnwrapE
  have vE := noUnwrapsE
  have nW := noIsW
  have uW := hasUnwrapW
  have mU := methodUnwrap
  have hty := fun w => run_eql_iface_types (P := Tryz.prog) 89 147 (.agg #[.string n, .iface 147 (.pointer (some a))]) (.pointer (some b)) Tryz.underlying55 (by decide) w
  go_enter Tryz.func54, Tryz.ntmps54
  go_wp2
  refine wp_loop_rounds 2 ?_
  rw [rounds_succ]
  go_wp2_with (go_at_call 114; refine (unwrap_any _ _ _).mono ?_; rintro e w1 ⟨rfl, hb1⟩)
  have ha1 : w1.heap[a.block]? = some (.cells ca ta (0, 0)) := (hb1.block _ (Array.getElem?_eq_some_iff.1 ha).1).trans ha
  have hbb1 : w1.heap[b.block]? = some (.cells cb tb (0, 0)) := (hb1.block _ (Array.getElem?_eq_some_iff.1 hb).1).trans hb
  have heq := run_eql_iface_ptr_other (P := Tryz.prog) w1 Tryz.underlying55 Tryz.underlying147 hi hcmp hj (by rw [hjs]; decide) hne ha1 hbb1
  clear ha1 hbb1
  rw [rounds_succ]
  go_wp2
  go_ret
  exact ⟨rfl, hb1⟩
end Go.Proofs.YtdbngfeelfgbeaaGreatDoor

namespace Go.Proofs.YtdbngfeelfgbeaaGreatDoor
open Go.RowKit Go.ChangeShapes Go.WideShapes Go.ChangeAt
set_option linter.unusedVariables false

/-- errRange is a pointer, errSize another one. -/
structure LaidAt (w : World) (a0 a1 : Addr) : Prop where
  r : w.cell? ⟨1, 0, none⟩ = some (.iface 147 (.pointer (some a0)))
  s : w.cell? ⟨2, 0, none⟩ = some (.iface 147 (.pointer (some a1)))
  ne : a0 ≠ a1
  hr : ∃ c t, w.heap[a0.block]? = some (.cells c t (0, 0))
  hs : ∃ c t, w.heap[a1.block]? = some (.cells c t (0, 0))
def Laid (w : World) : Prop := ∃ a0 a1, LaidAt w a0 a1

theorem LaidAt.below {w w' : World} {a0 a1 : Addr} (h : LaidAt w a0 a1) (hb : Below w.heap.size w w') : LaidAt w' a0 a1 := by
  obtain ⟨r, s, ne, ⟨c0, t0, h0⟩, ⟨c1, t1, h1⟩⟩ := h
  exact ⟨(hb.cell (p := ⟨1, 0, none⟩) (World.block_lt_of_cell? w _ r)).trans r, (hb.cell (p := ⟨2, 0, none⟩) (World.block_lt_of_cell? w _ s)).trans s, ne,
    ⟨c0, t0, (hb.block _ (Array.getElem?_eq_some_iff.1 h0).1).trans h0⟩, ⟨c1, t1, (hb.block _ (Array.getElem?_eq_some_iff.1 h1).1).trans h1⟩⟩
theorem laid_below {w w' : World} (h : Laid w) (hb : Below w.heap.size w w') : Laid w' := by
  obtain ⟨a0, a1, h⟩ := h
  exact ⟨a0, a1, h.below hb⟩

def laidList : List (String × DataW Unit) := [("loop.example/g00654/impl.errRange", Rows.laid_loop_example_g00654_impl_errRange), ("loop.example/g00654/impl.errSize", Rows.laid_loop_example_g00654_impl_errSize)]
theorem gR : Tryz.prog.globalNamed "loop.example/g00654/impl.errRange" = some 1 := by kernel_rfl
theorem gS : Tryz.prog.globalNamed "loop.example/g00654/impl.errSize" = some 2 := by kernel_rfl
theorem tR : (Tryz.prog.globals[1]?).map (·.type) = some 55 := by kernel_rfl
theorem tS : (Tryz.prog.globals[2]?).map (·.type) = some 55 := by kernel_rfl
theorem cE : Tryz.prog.cellsOf 149 = 1 := by kernel_rfl
theorem cS : Tryz.prog.cellsOf 9 = 1 := by kernel_rfl
theorem starE : "*" ++ "errors.errorString" = "*errors.errorString" := by decide
theorem rowE (u : TypeId) (h : Tryz.prog.typeName? 3 u = some "*errors.errorString") : u = 147 :=
  typeName_ptr_named (nm := "errors.errorString") (by rw [starE]; kernel_rfl) (by kernel_rfl) (by decide) u (by rw [starE]; exact h)

theorem door_met (os : Os) (args : Array Value) : laidMetH Tryz.prog laidList ((World.doorLaid Tryz.prog 400 os).forCall (fun _ _ => 0) ⟨#[], args, []⟩).memory :=
  laidMetH_of_parts3 (fuel := 8) (laidMet_of_run' 8 (by kernel_rfl) (by kernel_rfl)) (by kernel_rfl) (by kernel_rfl)

theorem of_laid {W : World} (h : laidMetH Tryz.prog laidList W) : Laid W := by
  rw [MakeChecks.laidMetH_plain _ _ _ (by kernel_rfl)] at h
  obtain ⟨a0, a1, s0, s1, c0, c1, t0, t1, hv0, hv1, hc0, hs0, hz0, hc1, hs1, hz1, hne, hb0, hb1⟩ := laid_sentinels2 h gR tR gS tS Tryz.underlying55 rowE Tryz.underlying147 Tryz.underlying149 rfl rfl Tryz.underlying9 cE cS
  exact ⟨a0, a1, by simpa using World.var?_cell gR hv0 0, by simpa using World.var?_cell gS hv1 0, hne, ⟨c0, t0, hb0⟩, ⟨c1, t1, hb1⟩⟩

theorem vars_len2 {H : Type} {enc : TypeId × Value → H} {P : Program} {w : World} {sp : Nat → Bool} {m n : String} {gs : List (DataW H)} {ps : List MemPlace} (h : DataW.TrodVars enc P w sp [m, n] gs ps) : ∃ g k, gs = [g, k] := by
  obtain ⟨g0, t0, cs0, f0, d0, p0, g1, t1, cs1, f1, d1, p1, rfl, _⟩ := trodVars_two h
  exact ⟨d0, d1, rfl⟩
end Go.Proofs.YtdbngfeelfgbeaaGreatDoor
