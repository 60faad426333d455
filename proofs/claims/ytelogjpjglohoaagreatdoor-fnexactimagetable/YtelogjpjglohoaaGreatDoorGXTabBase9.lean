/- errors.Is of an argumentError: one Unwrap, then the kinds are held against each other. The five errors at package level, as they are laid. The program's checks of ranges and the codes of their errors: contracts. The shapes of the operations: contracts. What is no operation, and what is one of another kind: contracts. -/
import Derived.Test.YtelogjpjglohoaaGreatDoorRows
import Derived.WalkKit
import Derived.WalkSpells
import Derived.Below
import Derived.LaidEql
import Derived.Stop.Asserts
import Derived.RowKitTokens
import Derived.ProofKit
import Derived.OpenShut
import Derived.LaidMore
import Derived.LaidSub
import Derived.Stop.LaidTwo
import Derived.Stop.Joined
import Derived.Test.YtelogjpjglohoaaGreatDoorGXTabBase4
import Derived.Test.YtelogjpjglohoaaGreatDoorGXTabBase5
import Derived.Test.YtelogjpjglohoaaGreatDoorGXTabBase6
import Derived.Test.YtelogjpjglohoaaGreatDoorGXTabBase7
import Derived.Test.YtelogjpjglohoaaGreatDoorGXTabBase8
import Derived.Test.YtelogjpjglohoaaGreatDoorGXTabBase3
namespace Go.Proofs.YtelogjpjglohoaaGreatDoor
open Go.RowKit Go.Extern.Stop Go.Stop Go.Extern
set_option linter.unusedVariables false

theorem isTypeOf (v : Value) (w : World) : (Extern.ReflectliteType.typeOf #[.iface 204 v]).run Tryz.prog w = .ok (.iface 194 (.agg #[.pointer (some ⟨5, 204, none⟩)])) w := by kernel_rfl
/-- The model's entry of '(reflectlite.rtype).Comparable'. -/
def cmpEntry : Array Value → Sem Value := Extern.ReflectliteType.method fun t => do Extern.Rtype.noPackHeld "Comparable" t; pure (.bool (← typeInfo t).comparable)
theorem isComparable (w : World) : (cmpEntry #[.agg #[.pointer (some ⟨5, 204, none⟩)]]).run Tryz.prog w = .ok (.bool true) w := by kernel_rfl
theorem isMethodComparable (v : Value) (w : World) : (Go.method 338 194 v "Comparable").run Tryz.prog w = .ok (177, v) w := by kernel_rfl
theorem isComp : (Tryz.prog.info? 204).map (·.comparable) = some true := by kernel_rfl
theorem isSize : (Tryz.prog.info? 226).map (·.size) = some 1 := by kernel_rfl
theorem noIsE (v : Value) (xT : TypeId) (w : World) : (Instr.typeAssert (.iface 204 v) xT 196 true).run Tryz.prog w = .ok (.tuple #[.nilIface, .bool false]) w := run_typeAssert_lacksB Tryz.underlying196 (by kernel_rfl) (by kernel_rfl) v xT w
theorem noUnwrapE (v : Value) (xT : TypeId) (w : World) : (Instr.typeAssert (.iface 204 v) xT 199 true).run Tryz.prog w = .ok (.tuple #[.nilIface, .bool false]) w := run_typeAssert_lacksB Tryz.underlying199 (by kernel_rfl) (by kernel_rfl) v xT w
theorem noUnwrapsE (v : Value) (xT : TypeId) (w : World) : (Instr.typeAssert (.iface 204 v) xT 201 true).run Tryz.prog w = .ok (.tuple #[.nilIface, .bool false]) w := run_typeAssert_lacksB Tryz.underlying201 (by kernel_rfl) (by kernel_rfl) v xT w
theorem noIsW (v : Value) (xT : TypeId) (w : World) : (Instr.typeAssert (.iface 186 v) xT 196 true).run Tryz.prog w = .ok (.tuple #[.nilIface, .bool false]) w := run_typeAssert_lacksB Tryz.underlying196 (by kernel_rfl) (by kernel_rfl) v xT w
theorem hasUnwrapW (v : Value) (xT : TypeId) (w : World) : (Instr.typeAssert (.iface 186 v) xT 199 true).run Tryz.prog w = .ok (.tuple #[.iface 186 v, .bool true]) w := run_typeAssert_hasB Tryz.underlying199 (by kernel_rfl) v xT w
theorem methodUnwrap (c0 c1 : Value) (w : World) : (Go.method 338 186 (.agg #[c0, c1]) "Unwrap").run Tryz.prog w = .ok (173, .agg #[c0, c1]) w := by kernel_rfl

/-- An argumentError as a value of error. -/
abbrev argErr (n : ByteArray) (a : Addr) : Value := .iface 186 (.agg #[.string n, .iface 204 (.pointer (some a))])

theorem unwrap_any (n : ByteArray) (a : Addr) (w : World) :
    Calls Tryz.prog 173 #[.agg #[.string n, .iface 204 (.pointer (some a))]] w fun e w' => e = .returned (.iface 204 (.pointer (some a))) ∧ Below w.heap.size w w' := by
  go_enter Tryz.func173, Tryz.ntmps173
  go_wp2
  go_ret
  exact ⟨rfl, (Below.refl _ _).alloc (Nat.le_refl _) _⟩

set_option maxRecDepth 100000 in
set_option maxHeartbeats 1000000 in
theorem is_arg_same (n : ByteArray) (b : Addr) (w : World) :
    Calls Tryz.prog 143 #[argErr n b, .iface 204 (.pointer (some b))] w fun e w' => e = .returned (.bool true) ∧ Below w.heap.size w w' := by
  obtain ⟨i, hi, hcmp⟩ := Option.map_eq_some_iff.1 isComp
  obtain ⟨j, hj, hjs⟩ := Option.map_eq_some_iff.1 isSize
  have h8 := @run_callFunc_extern Tryz.prog 152 _ Extern.ReflectliteType.typeOf Tryz.func152 (by kernel_rfl) (by kernel_rfl) (by kernel_rfl) (by kernel_rfl)
  have h32 := @run_callFunc_extern Tryz.prog 177 _ cmpEntry Tryz.func177 (by kernel_rfl) (by kernel_rfl) (by kernel_rfl) (by kernel_rfl)
  have tT := isTypeOf
  have cT := isComparable
  have mR := isMethodComparable
  have nE := noIsE
  have uE := noUnwrapE
  have vE := noUnwrapsE
  have nW := noIsW
  have uW := hasUnwrapW
  have mU := methodUnwrap
  have heq := fun w => run_eql_iface_ptr_same (P := Tryz.prog) w b Tryz.underlying165 Tryz.underlying204 hi hcmp hj
  have hty := fun w => run_eql_iface_types (P := Tryz.prog) 186 204 (.agg #[.string n, .iface 204 (.pointer (some b))]) (.pointer (some b)) Tryz.underlying165 (by decide) w
  go_enter Tryz.func143, Tryz.ntmps143
  go_wp2
  refine wp_loop_rounds 2 ?_
  rw [rounds_succ]
  go_wp2_with (go_at_call 173; refine (unwrap_any _ _ _).mono ?_; rintro e w1 ⟨rfl, hb1⟩)
  rw [rounds_succ]
  go_wp2
  go_ret
  exact ⟨rfl, hb1⟩
set_option maxRecDepth 100000 in
set_option maxHeartbeats 1000000 in
theorem is_arg_other (n : ByteArray) (a b : Addr) (ca cb : Array Value) (ta tb : TypeId) (w : World) (hne : a ≠ b) (ha : w.heap[a.block]? = some (.cells ca ta (0, 0))) (hb : w.heap[b.block]? = some (.cells cb tb (0, 0))) :
    Calls Tryz.prog 143 #[argErr n a, .iface 204 (.pointer (some b))] w fun e w' => e = .returned (.bool false) ∧ Below w.heap.size w w' := by
  obtain ⟨i, hi, hcmp⟩ := Option.map_eq_some_iff.1 isComp
  obtain ⟨j, hj, hjs⟩ := Option.map_eq_some_iff.1 isSize
  have h8 := @run_callFunc_extern Tryz.prog 152 _ Extern.ReflectliteType.typeOf Tryz.func152 (by kernel_rfl) (by kernel_rfl) (by kernel_rfl) (by kernel_rfl)
  have h32 := @run_callFunc_extern Tryz.prog 177 _ cmpEntry Tryz.func177 (by kernel_rfl) (by kernel_rfl) (by kernel_rfl) (by kernel_rfl)
  have tT := isTypeOf
  have cT := isComparable
  have mR := isMethodComparable
  have nE := noIsE
  have uE := noUnwrapE
  have vE := noUnwrapsE
  have nW := noIsW
  have uW := hasUnwrapW
  have mU := methodUnwrap
  have hty := fun w => run_eql_iface_types (P := Tryz.prog) 186 204 (.agg #[.string n, .iface 204 (.pointer (some a))]) (.pointer (some b)) Tryz.underlying165 (by decide) w
  go_enter Tryz.func143, Tryz.ntmps143
  go_wp2
  refine wp_loop_rounds 2 ?_
  rw [rounds_succ]
  go_wp2_with (go_at_call 173; refine (unwrap_any _ _ _).mono ?_; rintro e w1 ⟨rfl, hb1⟩)
  have ha1 : w1.heap[a.block]? = some (.cells ca ta (0, 0)) := (hb1.block _ (Array.getElem?_eq_some_iff.1 ha).1).trans ha
  have hbb1 : w1.heap[b.block]? = some (.cells cb tb (0, 0)) := (hb1.block _ (Array.getElem?_eq_some_iff.1 hb).1).trans hb
  have heq := run_eql_iface_ptr_other (P := Tryz.prog) w1 Tryz.underlying165 Tryz.underlying204 hi hcmp hj (by rw [hjs]; decide) hne ha1 hbb1
  clear ha1 hbb1
  rw [rounds_succ]
  go_wp2
  go_ret
  exact ⟨rfl, hb1⟩
end Go.Proofs.YtelogjpjglohoaaGreatDoor

namespace Go.Proofs.YtelogjpjglohoaaGreatDoor
open Go.RowKit Go.ChangeShapes Go.WideShapes Go.ChangeAt
set_option linter.unusedVariables false

/-- A block that holds an error's text. -/
def ErrBlock (w : World) (a : Addr) : Prop := ∃ c t, w.heap[a.block]? = some (.cells c t (0, 0))
theorem ErrBlock.below {w w' : World} {a : Addr} (h : ErrBlock w a) (hb : Below w.heap.size w w') : ErrBlock w' a := by
  obtain ⟨c, t, h⟩ := h
  exact ⟨c, t, (hb.block _ (Array.getElem?_eq_some_iff.1 h).1).trans h⟩
/-- The variable of number g is the error at a. -/
def ErrVar (w : World) (g : Nat) (a : Addr) : Prop := w.cell? ⟨g, 0, none⟩ = some (.iface 204 (.pointer (some a)))
theorem ErrVar.below {w w' : World} {g : Nat} {a : Addr} (h : ErrVar w g a) (hb : Below w.heap.size w w') : ErrVar w' g a :=
  (hb.cell (p := ⟨g, 0, none⟩) (World.block_lt_of_cell? w _ h)).trans h

/-- errForm, errSum and errEnd: other pointers than errRange (a0) and errSize (a1), and than each other. -/
structure MoreAt (w : World) (a0 a1 a2 a3 a4 : Addr) : Prop where
  f : ErrVar w 2 a2
  u : ErrVar w 3 a3
  e : ErrVar w 4 a4
  n02 : a0 ≠ a2
  n12 : a1 ≠ a2
  n03 : a0 ≠ a3
  n13 : a1 ≠ a3
  n23 : a2 ≠ a3
  n04 : a0 ≠ a4
  n14 : a1 ≠ a4
  n24 : a2 ≠ a4
  n34 : a3 ≠ a4
  h2 : ErrBlock w a2
  h3 : ErrBlock w a3
  h4 : ErrBlock w a4
theorem MoreAt.below {w w' : World} {a0 a1 a2 a3 a4 : Addr} (h : MoreAt w a0 a1 a2 a3 a4) (hb : Below w.heap.size w w') : MoreAt w' a0 a1 a2 a3 a4 :=
  ⟨h.f.below hb, h.u.below hb, h.e.below hb, h.n02, h.n12, h.n03, h.n13, h.n23, h.n04, h.n14, h.n24, h.n34, h.h2.below hb, h.h3.below hb, h.h4.below hb⟩
/-- errRange is a pointer, errSize another one, and there are three more. -/
structure LaidAt (w : World) (a0 a1 : Addr) : Prop where
  r : w.cell? ⟨0, 0, none⟩ = some (.iface 204 (.pointer (some a0)))
  s : w.cell? ⟨1, 0, none⟩ = some (.iface 204 (.pointer (some a1)))
  ne : a0 ≠ a1
  hr : ∃ c t, w.heap[a0.block]? = some (.cells c t (0, 0))
  hs : ∃ c t, w.heap[a1.block]? = some (.cells c t (0, 0))
  more : ∃ a2 a3 a4, MoreAt w a0 a1 a2 a3 a4
def Laid (w : World) : Prop := ∃ a0 a1, LaidAt w a0 a1

theorem LaidAt.below {w w' : World} {a0 a1 : Addr} (h : LaidAt w a0 a1) (hb : Below w.heap.size w w') : LaidAt w' a0 a1 := by
  obtain ⟨r, s, ne, ⟨c0, t0, h0⟩, ⟨c1, t1, h1⟩, a2, a3, a4, m⟩ := h
  exact ⟨(hb.cell (p := ⟨0, 0, none⟩) (World.block_lt_of_cell? w _ r)).trans r, (hb.cell (p := ⟨1, 0, none⟩) (World.block_lt_of_cell? w _ s)).trans s, ne,
    ⟨c0, t0, (hb.block _ (Array.getElem?_eq_some_iff.1 h0).1).trans h0⟩, ⟨c1, t1, (hb.block _ (Array.getElem?_eq_some_iff.1 h1).1).trans h1⟩, a2, a3, a4, m.below hb⟩
theorem laid_below {w w' : World} (h : Laid w) (hb : Below w.heap.size w w') : Laid w' := by
  obtain ⟨a0, a1, h⟩ := h
  exact ⟨a0, a1, h.below hb⟩

def laidList : List (String × DataW Unit) := [("loop.example/g00654/impl.errRange", Rows.laid_loop_example_g00654_impl_errRange), ("loop.example/g00654/impl.errSize", Rows.laid_loop_example_g00654_impl_errSize), ("loop.example/g00654/impl.errForm", Rows.laid_loop_example_g00654_impl_errForm), ("loop.example/g00654/impl.errSum", Rows.laid_loop_example_g00654_impl_errSum), ("loop.example/g00654/impl.errEnd", Rows.laid_loop_example_g00654_impl_errEnd)]
theorem gR : Tryz.prog.globalNamed "loop.example/g00654/impl.errRange" = some 0 := by kernel_rfl
theorem tR : (Tryz.prog.globals[0]?).map (·.type) = some 165 := by kernel_rfl
theorem gS : Tryz.prog.globalNamed "loop.example/g00654/impl.errSize" = some 1 := by kernel_rfl
theorem tS : (Tryz.prog.globals[1]?).map (·.type) = some 165 := by kernel_rfl
theorem gF : Tryz.prog.globalNamed "loop.example/g00654/impl.errForm" = some 2 := by kernel_rfl
theorem tF : (Tryz.prog.globals[2]?).map (·.type) = some 165 := by kernel_rfl
theorem gU : Tryz.prog.globalNamed "loop.example/g00654/impl.errSum" = some 3 := by kernel_rfl
theorem tU : (Tryz.prog.globals[3]?).map (·.type) = some 165 := by kernel_rfl
theorem gE : Tryz.prog.globalNamed "loop.example/g00654/impl.errEnd" = some 4 := by kernel_rfl
theorem tE : (Tryz.prog.globals[4]?).map (·.type) = some 165 := by kernel_rfl
theorem cE : Tryz.prog.cellsOf 226 = 1 := by kernel_rfl
theorem cS : Tryz.prog.cellsOf 9 = 1 := by kernel_rfl
theorem starE : "*" ++ "errors.errorString" = "*errors.errorString" := by decide
theorem rowE (u : TypeId) (h : Tryz.prog.typeName? 3 u = some "*errors.errorString") : u = 204 :=
  typeName_ptr_named (nm := "errors.errorString") (by rw [starE]; kernel_rfl) (by kernel_rfl) (by decide) u (by rw [starE]; exact h)

theorem door_met (os : Os) (args : Array Value) : laidMetH Tryz.prog laidList ((World.doorLaid Tryz.prog 400 os).forCall (fun _ _ => 0) ⟨#[], args, []⟩).memory :=
  laidMetH_of_parts3 (fuel := 8) (laidMet_of_run' 8 (by kernel_rfl) (by kernel_rfl)) (by kernel_rfl) (by kernel_rfl)

/-- Two of the list: two pointers. -/
def TwoErrs (W : World) (g0 g1 : Nat) : Prop := ∃ a0 a1, ErrVar W g0 a0 ∧ ErrVar W g1 a1 ∧ a0 ≠ a1 ∧ ErrBlock W a0 ∧ ErrBlock W a1
theorem two_of {W : World} {n0 n1 : String} {text0 text1 : List UInt8} {r : List (String × DataW Unit)} {g0 g1 : Nat}
    (h : laidMet Tryz.prog ((n0, .iface "*errors.errorString" (.ptr (.agg [.lit (.string text0)]))) :: (n1, .iface "*errors.errorString" (.ptr (.agg [.lit (.string text1)]))) :: r) W)
    (hg0 : Tryz.prog.globalNamed n0 = some g0) (ht0 : (Tryz.prog.globals[g0]?).map (·.type) = some 165) (hg1 : Tryz.prog.globalNamed n1 = some g1) (ht1 : (Tryz.prog.globals[g1]?).map (·.type) = some 165) : TwoErrs W g0 g1 := by
  obtain ⟨a0, a1, s0, s1, c0, c1, t0, t1, hv0, hv1, hc0, hs0, hz0, hc1, hs1, hz1, hne, hb0, hb1⟩ := laid_sentinels2 h hg0 ht0 hg1 ht1 Tryz.underlying165 rowE Tryz.underlying204 Tryz.underlying226 rfl rfl Tryz.underlying9 cE cS
  exact ⟨a0, a1, by unfold ErrVar; simpa using World.var?_cell hg0 hv0 0, by unfold ErrVar; simpa using World.var?_cell hg1 hv1 0, hne, ⟨c0, t0, hb0⟩, ⟨c1, t1, hb1⟩⟩
theorem ErrVar.same {w : World} {g : Nat} {a b : Addr} (h : ErrVar w g a) (k : ErrVar w g b) : a = b := by
  have := h.symm.trans k
  simpa using this
theorem TwoErrs.ne {w : World} {g k : Nat} {a b : Addr} (h : TwoErrs w g k) (ha : ErrVar w g a) (hb : ErrVar w k b) : a ≠ b := by
  obtain ⟨x, y, hx, hy, hne, _⟩ := h
  rw [ha.same hx, hb.same hy]
  exact hne
theorem laid01 {W : World} (h : laidMet Tryz.prog laidList W) : TwoErrs W 0 1 := by
  have h1 := h.filter (fun x => x.1 == "loop.example/g00654/impl.errRange" || x.1 == "loop.example/g00654/impl.errSize")
  have e : laidList.filter (fun x => x.1 == "loop.example/g00654/impl.errRange" || x.1 == "loop.example/g00654/impl.errSize") = [("loop.example/g00654/impl.errRange", Rows.laid_loop_example_g00654_impl_errRange), ("loop.example/g00654/impl.errSize", Rows.laid_loop_example_g00654_impl_errSize)] := by simp [laidList]
  rw [e] at h1
  exact two_of h1 gR tR gS tS
theorem laid02 {W : World} (h : laidMet Tryz.prog laidList W) : TwoErrs W 0 2 := by
  have h1 := h.filter (fun x => x.1 == "loop.example/g00654/impl.errRange" || x.1 == "loop.example/g00654/impl.errForm")
  have e : laidList.filter (fun x => x.1 == "loop.example/g00654/impl.errRange" || x.1 == "loop.example/g00654/impl.errForm") = [("loop.example/g00654/impl.errRange", Rows.laid_loop_example_g00654_impl_errRange), ("loop.example/g00654/impl.errForm", Rows.laid_loop_example_g00654_impl_errForm)] := by simp [laidList]
  rw [e] at h1
  exact two_of h1 gR tR gF tF
theorem laid03 {W : World} (h : laidMet Tryz.prog laidList W) : TwoErrs W 0 3 := by
  have h1 := h.filter (fun x => x.1 == "loop.example/g00654/impl.errRange" || x.1 == "loop.example/g00654/impl.errSum")
  have e : laidList.filter (fun x => x.1 == "loop.example/g00654/impl.errRange" || x.1 == "loop.example/g00654/impl.errSum") = [("loop.example/g00654/impl.errRange", Rows.laid_loop_example_g00654_impl_errRange), ("loop.example/g00654/impl.errSum", Rows.laid_loop_example_g00654_impl_errSum)] := by simp [laidList]
  rw [e] at h1
  exact two_of h1 gR tR gU tU
theorem laid04 {W : World} (h : laidMet Tryz.prog laidList W) : TwoErrs W 0 4 := by
  have h1 := h.filter (fun x => x.1 == "loop.example/g00654/impl.errRange" || x.1 == "loop.example/g00654/impl.errEnd")
  have e : laidList.filter (fun x => x.1 == "loop.example/g00654/impl.errRange" || x.1 == "loop.example/g00654/impl.errEnd") = [("loop.example/g00654/impl.errRange", Rows.laid_loop_example_g00654_impl_errRange), ("loop.example/g00654/impl.errEnd", Rows.laid_loop_example_g00654_impl_errEnd)] := by simp [laidList]
  rw [e] at h1
  exact two_of h1 gR tR gE tE
theorem laid12 {W : World} (h : laidMet Tryz.prog laidList W) : TwoErrs W 1 2 := by
  have h1 := h.filter (fun x => x.1 == "loop.example/g00654/impl.errSize" || x.1 == "loop.example/g00654/impl.errForm")
  have e : laidList.filter (fun x => x.1 == "loop.example/g00654/impl.errSize" || x.1 == "loop.example/g00654/impl.errForm") = [("loop.example/g00654/impl.errSize", Rows.laid_loop_example_g00654_impl_errSize), ("loop.example/g00654/impl.errForm", Rows.laid_loop_example_g00654_impl_errForm)] := by simp [laidList]
  rw [e] at h1
  exact two_of h1 gS tS gF tF
theorem laid13 {W : World} (h : laidMet Tryz.prog laidList W) : TwoErrs W 1 3 := by
  have h1 := h.filter (fun x => x.1 == "loop.example/g00654/impl.errSize" || x.1 == "loop.example/g00654/impl.errSum")
  have e : laidList.filter (fun x => x.1 == "loop.example/g00654/impl.errSize" || x.1 == "loop.example/g00654/impl.errSum") = [("loop.example/g00654/impl.errSize", Rows.laid_loop_example_g00654_impl_errSize), ("loop.example/g00654/impl.errSum", Rows.laid_loop_example_g00654_impl_errSum)] := by simp [laidList]
  rw [e] at h1
  exact two_of h1 gS tS gU tU
theorem laid14 {W : World} (h : laidMet Tryz.prog laidList W) : TwoErrs W 1 4 := by
  have h1 := h.filter (fun x => x.1 == "loop.example/g00654/impl.errSize" || x.1 == "loop.example/g00654/impl.errEnd")
  have e : laidList.filter (fun x => x.1 == "loop.example/g00654/impl.errSize" || x.1 == "loop.example/g00654/impl.errEnd") = [("loop.example/g00654/impl.errSize", Rows.laid_loop_example_g00654_impl_errSize), ("loop.example/g00654/impl.errEnd", Rows.laid_loop_example_g00654_impl_errEnd)] := by simp [laidList]
  rw [e] at h1
  exact two_of h1 gS tS gE tE
theorem laid23 {W : World} (h : laidMet Tryz.prog laidList W) : TwoErrs W 2 3 := by
  have h1 := h.filter (fun x => x.1 == "loop.example/g00654/impl.errForm" || x.1 == "loop.example/g00654/impl.errSum")
  have e : laidList.filter (fun x => x.1 == "loop.example/g00654/impl.errForm" || x.1 == "loop.example/g00654/impl.errSum") = [("loop.example/g00654/impl.errForm", Rows.laid_loop_example_g00654_impl_errForm), ("loop.example/g00654/impl.errSum", Rows.laid_loop_example_g00654_impl_errSum)] := by simp [laidList]
  rw [e] at h1
  exact two_of h1 gF tF gU tU
theorem laid24 {W : World} (h : laidMet Tryz.prog laidList W) : TwoErrs W 2 4 := by
  have h1 := h.filter (fun x => x.1 == "loop.example/g00654/impl.errForm" || x.1 == "loop.example/g00654/impl.errEnd")
  have e : laidList.filter (fun x => x.1 == "loop.example/g00654/impl.errForm" || x.1 == "loop.example/g00654/impl.errEnd") = [("loop.example/g00654/impl.errForm", Rows.laid_loop_example_g00654_impl_errForm), ("loop.example/g00654/impl.errEnd", Rows.laid_loop_example_g00654_impl_errEnd)] := by simp [laidList]
  rw [e] at h1
  exact two_of h1 gF tF gE tE
theorem laid34 {W : World} (h : laidMet Tryz.prog laidList W) : TwoErrs W 3 4 := by
  have h1 := h.filter (fun x => x.1 == "loop.example/g00654/impl.errSum" || x.1 == "loop.example/g00654/impl.errEnd")
  have e : laidList.filter (fun x => x.1 == "loop.example/g00654/impl.errSum" || x.1 == "loop.example/g00654/impl.errEnd") = [("loop.example/g00654/impl.errSum", Rows.laid_loop_example_g00654_impl_errSum), ("loop.example/g00654/impl.errEnd", Rows.laid_loop_example_g00654_impl_errEnd)] := by simp [laidList]
  rw [e] at h1
  exact two_of h1 gU tU gE tE
theorem laid_of_met {W : World} (h : laidMet Tryz.prog laidList W) : Laid W := by
  obtain ⟨a0, a1, r, s, ne, hr, hs⟩ := laid01 h
  obtain ⟨a2, a3, f, u, n23, h2, h3⟩ := laid23 h
  obtain ⟨_, a4, _, e, _, _, h4⟩ := laid34 h
  exact ⟨a0, a1, r, s, ne, hr, hs, a2, a3, a4, f, u, e, (laid02 h).ne r f, (laid12 h).ne s f, (laid03 h).ne r u, (laid13 h).ne s u, n23, (laid04 h).ne r e, (laid14 h).ne s e, (laid24 h).ne f e, (laid34 h).ne u e, h2, h3, h4⟩
theorem of_laid {W : World} (h : laidMetH Tryz.prog laidList W) : Laid W := by
  rw [MakeChecks.laidMetH_plain _ _ _ (by kernel_rfl)] at h
  exact laid_of_met h

theorem vars_cons {H : Type} {enc : TypeId × Value → H} {P : Program} {w : World} {sp : Nat → Bool} {m : String} {r : List String} {gs : List (DataW H)} {ps : List MemPlace} (h : DataW.TrodVars enc P w sp (m :: r) gs ps) : ∃ g k q, gs = g :: k ∧ DataW.TrodVars enc P w sp r k q := by
  cases gs with
  | nil => simp [DataW.TrodVars] at h
  | cons d ds =>
    obtain ⟨_, _, _, _, _, _, _, _, _, _, hs, _⟩ := h
    exact ⟨d, ds, _, rfl, hs⟩
theorem vars_len5 {H : Type} {enc : TypeId × Value → H} {P : Program} {w : World} {sp : Nat → Bool} {m n o p q : String} {gs : List (DataW H)} {ps : List MemPlace} (h : DataW.TrodVars enc P w sp [m, n, o, p, q] gs ps) : ∃ g k l a b, gs = [g, k, l, a, b] := by
  obtain ⟨d0, r0, _, e0, h0⟩ := vars_cons h
  obtain ⟨d1, r1, _, e1, h1⟩ := vars_cons h0
  obtain ⟨d2, r2, _, e2, h2⟩ := vars_cons h1
  obtain ⟨_, _, _, _, d3, _, _, _, _, _, d4, _, e3, _⟩ := trodVars_two h2
  exact ⟨d0, d1, d2, d3, d4, by rw [e0, e1, e2, e3]⟩
end Go.Proofs.YtelogjpjglohoaaGreatDoor

namespace Go.Proofs.YtelogjpjglohoaaGreatDoor
open Go.RowKit
set_option linter.unusedVariables false

/-- inside: nil, or the error of the range. -/
theorem inside_ok (n : ByteArray) (v low high : Int) (w : World) (h0 : low ≤ v) (h1 : v ≤ high) :
    Calls Tryz.prog 142 #[.string n, .int .i64 v, .int .i64 low, .int .i64 high] w fun e w' => e = .returned .nilIface ∧ w' = w := by
  go_enter Tryz.func142, Tryz.ntmps142
  go_wp2
  go_ret
  exact ⟨rfl, rfl⟩

theorem inside_no (n : ByteArray) (v low high : Int) (w : World) (a0 a1 : Addr) (hL : LaidAt w a0 a1) (h : v < low ∨ high < v) :
    Calls Tryz.prog 142 #[.string n, .int .i64 v, .int .i64 low, .int .i64 high] w fun e w' => e = .returned (argErr n a0) ∧ w' = w := by
  have hr := hL.r
  clear hL
  by_cases h0 : v < low
  · go_enter Tryz.func142, Tryz.ntmps142
    go_wp2
    go_ret
    exact ⟨rfl, rfl⟩
  · have h1 : high < v := by omega
    go_enter Tryz.func142, Tryz.ntmps142
    go_wp2
    go_ret
    exact ⟨rfl, rfl⟩

/-- codeFrom: 0, 4, 8, 3, 9 or 22. -/
theorem code_nil (w : World) :
    Calls Tryz.prog 129 #[.nilIface] w fun e w' => e = .returned (.int .i64 0) ∧ w' = w := by
  go_enter Tryz.func129, Tryz.ntmps129
  go_wp2
  go_ret
  exact ⟨rfl, rfl⟩

set_option maxHeartbeats 1000000 in
theorem code_range (n : ByteArray) (w : World) (a0 a1 : Addr) (hL : LaidAt w a0 a1) :
    Calls Tryz.prog 129 #[argErr n a0] w fun e w' => e = .returned (.int .i64 4) ∧ Below w.heap.size w w' := by
  have hr := hL.r
  clear hL
  go_enter Tryz.func129, Tryz.ntmps129
  go_wp2_with fail
  refine (is_arg_same n a0 w).mono ?_
  rintro e w1 ⟨rfl, hb⟩
  go_wp2
  go_ret
  exact ⟨rfl, hb⟩

set_option maxHeartbeats 1000000 in
theorem code_size (n : ByteArray) (w : World) (a0 a1 : Addr) (hL : LaidAt w a0 a1) :
    Calls Tryz.prog 129 #[argErr n a1] w fun e w' => e = .returned (.int .i64 8) ∧ Below w.heap.size w w' := by
  have hL0 := hL
  obtain ⟨c0, t0, h0⟩ := hL.hr
  obtain ⟨c1, t1, h1⟩ := hL.hs
  have hne := hL.ne
  have hr := hL.r
  clear hL
  go_enter Tryz.func129, Tryz.ntmps129
  go_wp2_with fail
  refine (is_arg_other n a1 a0 c1 c0 t1 t0 w (Ne.symm hne) h1 h0).mono ?_
  rintro e w1 ⟨rfl, hb⟩
  have hs := (hL0.below hb).s
  clear hL0 h0 h1 hr
  go_wp2_with fail
  refine (is_arg_same n a1 w1).mono ?_
  rintro e w2 ⟨rfl, hb2⟩
  go_wp2
  go_ret
  exact ⟨rfl, hb.trans (hb2.mono hb.size)⟩

set_option maxHeartbeats 2000000 in
theorem code_form (n : ByteArray) (w : World) (a0 a1 a2 a3 a4 : Addr) (hL : LaidAt w a0 a1) (hM : MoreAt w a0 a1 a2 a3 a4) :
    Calls Tryz.prog 129 #[argErr n a2] w fun e w' => e = .returned (.int .i64 3) ∧ Below w.heap.size w w' := by
  have HL : Hid (LaidAt w a0 a1) := hL
  have HM : Hid (MoreAt w a0 a1 a2 a3 a4) := hM
  have hr := hL.r
  clear hL hM
  go_enter Tryz.func129, Tryz.ntmps129
  have HB : Hid (Below w.heap.size w w) := Below.refl _ _
  go_wp2_with fail
  obtain ⟨c, t, hb0⟩ := HM.out.h2
  obtain ⟨d, u, hb1⟩ := HL.out.hr
  refine (is_arg_other n a2 a0 c d t u _ (Ne.symm HM.out.n02) hb0 hb1).mono ?_
  rintro e v1 ⟨rfl, hb⟩
  replace HL : Hid (LaidAt v1 a0 a1) := HL.out.below hb
  replace HM : Hid (MoreAt v1 a0 a1 a2 a3 a4) := HM.out.below hb
  replace HB : Hid (Below w.heap.size w v1) := HB.out.trans (hb.mono HB.out.size)
  clear hb hb0 hb1 hr c d t u
  have hq1 := HL.out.s
  go_wp2_with fail
  obtain ⟨c, t, hb0⟩ := HM.out.h2
  obtain ⟨d, u, hb1⟩ := HL.out.hs
  refine (is_arg_other n a2 a1 c d t u _ (Ne.symm HM.out.n12) hb0 hb1).mono ?_
  rintro e v2 ⟨rfl, hb⟩
  replace HL : Hid (LaidAt v2 a0 a1) := HL.out.below hb
  replace HM : Hid (MoreAt v2 a0 a1 a2 a3 a4) := HM.out.below hb
  replace HB : Hid (Below w.heap.size w v2) := HB.out.trans (hb.mono HB.out.size)
  clear hb hb0 hb1 hq1 c d t u
  have hq2 := HM.out.f
  unfold ErrVar at hq2
  go_wp2_with fail
  refine (is_arg_same n a2 _).mono ?_
  rintro e v9 ⟨rfl, hb⟩
  have bel := HB.out.trans (hb.mono HB.out.size)
  clear hb hq2 HL HM HB
  go_wp2
  go_ret
  exact ⟨rfl, bel⟩

set_option maxHeartbeats 2000000 in
theorem code_sum (n : ByteArray) (w : World) (a0 a1 a2 a3 a4 : Addr) (hL : LaidAt w a0 a1) (hM : MoreAt w a0 a1 a2 a3 a4) :
    Calls Tryz.prog 129 #[argErr n a3] w fun e w' => e = .returned (.int .i64 9) ∧ Below w.heap.size w w' := by
  have HL : Hid (LaidAt w a0 a1) := hL
  have HM : Hid (MoreAt w a0 a1 a2 a3 a4) := hM
  have hr := hL.r
  clear hL hM
  go_enter Tryz.func129, Tryz.ntmps129
  have HB : Hid (Below w.heap.size w w) := Below.refl _ _
  go_wp2_with fail
  obtain ⟨c, t, hb0⟩ := HM.out.h3
  obtain ⟨d, u, hb1⟩ := HL.out.hr
  refine (is_arg_other n a3 a0 c d t u _ (Ne.symm HM.out.n03) hb0 hb1).mono ?_
  rintro e v1 ⟨rfl, hb⟩
  replace HL : Hid (LaidAt v1 a0 a1) := HL.out.below hb
  replace HM : Hid (MoreAt v1 a0 a1 a2 a3 a4) := HM.out.below hb
  replace HB : Hid (Below w.heap.size w v1) := HB.out.trans (hb.mono HB.out.size)
  clear hb hb0 hb1 hr c d t u
  have hq1 := HL.out.s
  go_wp2_with fail
  obtain ⟨c, t, hb0⟩ := HM.out.h3
  obtain ⟨d, u, hb1⟩ := HL.out.hs
  refine (is_arg_other n a3 a1 c d t u _ (Ne.symm HM.out.n13) hb0 hb1).mono ?_
  rintro e v2 ⟨rfl, hb⟩
  replace HL : Hid (LaidAt v2 a0 a1) := HL.out.below hb
  replace HM : Hid (MoreAt v2 a0 a1 a2 a3 a4) := HM.out.below hb
  replace HB : Hid (Below w.heap.size w v2) := HB.out.trans (hb.mono HB.out.size)
  clear hb hb0 hb1 hq1 c d t u
  have hq2 := HM.out.f
  unfold ErrVar at hq2
  go_wp2_with fail
  obtain ⟨c, t, hb0⟩ := HM.out.h3
  obtain ⟨d, u, hb1⟩ := HM.out.h2
  refine (is_arg_other n a3 a2 c d t u _ (Ne.symm HM.out.n23) hb0 hb1).mono ?_
  rintro e v3 ⟨rfl, hb⟩
  replace HL : Hid (LaidAt v3 a0 a1) := HL.out.below hb
  replace HM : Hid (MoreAt v3 a0 a1 a2 a3 a4) := HM.out.below hb
  replace HB : Hid (Below w.heap.size w v3) := HB.out.trans (hb.mono HB.out.size)
  clear hb hb0 hb1 hq2 c d t u
  have hq3 := HM.out.u
  unfold ErrVar at hq3
  go_wp2_with fail
  refine (is_arg_same n a3 _).mono ?_
  rintro e v9 ⟨rfl, hb⟩
  have bel := HB.out.trans (hb.mono HB.out.size)
  clear hb hq3 HL HM HB
  go_wp2
  go_ret
  exact ⟨rfl, bel⟩

set_option maxHeartbeats 2000000 in
theorem code_end (n : ByteArray) (w : World) (a0 a1 a2 a3 a4 : Addr) (hL : LaidAt w a0 a1) (hM : MoreAt w a0 a1 a2 a3 a4) :
    Calls Tryz.prog 129 #[argErr n a4] w fun e w' => e = .returned (.int .i64 22) ∧ Below w.heap.size w w' := by
  have HL : Hid (LaidAt w a0 a1) := hL
  have HM : Hid (MoreAt w a0 a1 a2 a3 a4) := hM
  have hr := hL.r
  clear hL hM
  go_enter Tryz.func129, Tryz.ntmps129
  have HB : Hid (Below w.heap.size w w) := Below.refl _ _
  go_wp2_with fail
  obtain ⟨c, t, hb0⟩ := HM.out.h4
  obtain ⟨d, u, hb1⟩ := HL.out.hr
  refine (is_arg_other n a4 a0 c d t u _ (Ne.symm HM.out.n04) hb0 hb1).mono ?_
  rintro e v1 ⟨rfl, hb⟩
  replace HL : Hid (LaidAt v1 a0 a1) := HL.out.below hb
  replace HM : Hid (MoreAt v1 a0 a1 a2 a3 a4) := HM.out.below hb
  replace HB : Hid (Below w.heap.size w v1) := HB.out.trans (hb.mono HB.out.size)
  clear hb hb0 hb1 hr c d t u
  have hq1 := HL.out.s
  go_wp2_with fail
  obtain ⟨c, t, hb0⟩ := HM.out.h4
  obtain ⟨d, u, hb1⟩ := HL.out.hs
  refine (is_arg_other n a4 a1 c d t u _ (Ne.symm HM.out.n14) hb0 hb1).mono ?_
  rintro e v2 ⟨rfl, hb⟩
  replace HL : Hid (LaidAt v2 a0 a1) := HL.out.below hb
  replace HM : Hid (MoreAt v2 a0 a1 a2 a3 a4) := HM.out.below hb
  replace HB : Hid (Below w.heap.size w v2) := HB.out.trans (hb.mono HB.out.size)
  clear hb hb0 hb1 hq1 c d t u
  have hq2 := HM.out.f
  unfold ErrVar at hq2
  go_wp2_with fail
  obtain ⟨c, t, hb0⟩ := HM.out.h4
  obtain ⟨d, u, hb1⟩ := HM.out.h2
  refine (is_arg_other n a4 a2 c d t u _ (Ne.symm HM.out.n24) hb0 hb1).mono ?_
  rintro e v3 ⟨rfl, hb⟩
  replace HL : Hid (LaidAt v3 a0 a1) := HL.out.below hb
  replace HM : Hid (MoreAt v3 a0 a1 a2 a3 a4) := HM.out.below hb
  replace HB : Hid (Below w.heap.size w v3) := HB.out.trans (hb.mono HB.out.size)
  clear hb hb0 hb1 hq2 c d t u
  have hq3 := HM.out.u
  unfold ErrVar at hq3
  go_wp2_with fail
  obtain ⟨c, t, hb0⟩ := HM.out.h4
  obtain ⟨d, u, hb1⟩ := HM.out.h3
  refine (is_arg_other n a4 a3 c d t u _ (Ne.symm HM.out.n34) hb0 hb1).mono ?_
  rintro e v4 ⟨rfl, hb⟩
  replace HL : Hid (LaidAt v4 a0 a1) := HL.out.below hb
  replace HM : Hid (MoreAt v4 a0 a1 a2 a3 a4) := HM.out.below hb
  replace HB : Hid (Below w.heap.size w v4) := HB.out.trans (hb.mono HB.out.size)
  clear hb hb0 hb1 hq3 c d t u
  have hq4 := HM.out.e
  unfold ErrVar at hq4
  go_wp2_with fail
  refine (is_arg_same n a4 _).mono ?_
  rintro e v9 ⟨rfl, hb⟩
  have bel := HB.out.trans (hb.mono HB.out.size)
  clear hb hq4 HL HM HB
  go_wp2
  go_ret
  exact ⟨rfl, bel⟩
end Go.Proofs.YtelogjpjglohoaaGreatDoor

namespace Go.Proofs.YtelogjpjglohoaaGreatDoor
open Go.RowKit
set_option linter.unusedVariables false

theorem bcell {W w1 : World} (hb : Below W.heap.size W w1) : (∀ b o, b < W.heap.size → w1.cell? ⟨b, o, none⟩ = W.cell? ⟨b, o, none⟩) ∧ (∀ b o, b < W.heap.size → w1.frozen? ⟨b, o, none⟩ = W.frozen? ⟨b, o, none⟩) :=
  ⟨fun b o h => hb.cell (p := ⟨b, o, none⟩) h, fun b o h => hb.frozen (p := ⟨b, o, none⟩) h⟩

set_option maxRecDepth 100000 in
set_option maxHeartbeats 4000000 in
theorem shapeC (op : Int) (w : World) :
    Calls Tryz.prog 126 #[.int .i64 op] w fun e w' => e = .returned (shV (shT op)) ∧ Below w.heap.size w w' := by
  by_cases h1 : op ≤ 10
  · go_enter Tryz.func126, Tryz.ntmps126
    go_wp2_with fail
    refine (flowC _ _ (.inl h1)).mono ?_
    rintro e w1 ⟨rfl, hb⟩
    obtain ⟨hc, hf⟩ := bcell hb
    have hz : w.heap.size < w1.heap.size := by have := hb.size; simp at this; omega
    unfold shV at *
    go_wp2
    refine bodyPost_ret (v := shV (shT op)) (by simp [results, Tryz.results126, go_sem, hc]; rfl) rfl ⟨rfl, ?_⟩
    exact ((((((Below.refl _ _).alloc (Nat.le_refl _) _).trans (hb.mono (by simp))).setCell (Nat.le_refl _) _).setCell (Nat.le_refl _) _).setCell (Nat.le_refl _) _).setCell (Nat.le_refl _) _
  by_cases h2 : 63 ≤ op
  · go_enter Tryz.func126, Tryz.ntmps126
    go_wp2_with fail
    refine (flowC _ _ (.inr h2)).mono ?_
    rintro e w1 ⟨rfl, hb⟩
    obtain ⟨hc, hf⟩ := bcell hb
    have hz : w.heap.size < w1.heap.size := by have := hb.size; simp at this; omega
    unfold shV at *
    go_wp2
    refine bodyPost_ret (v := shV (shT op)) (by simp [results, Tryz.results126, go_sem, hc]; rfl) rfl ⟨rfl, ?_⟩
    exact ((((((Below.refl _ _).alloc (Nat.le_refl _) _).trans (hb.mono (by simp))).setCell (Nat.le_refl _) _).setCell (Nat.le_refl _) _).setCell (Nat.le_refl _) _).setCell (Nat.le_refl _) _
  by_cases h3 : op ≤ 21
  · have hk : Hid (op = 11 ∨ op = 12 ∨ op = 13 ∨ op = 14 ∨ op = 15 ∨ op = 16 ∨ op = 17 ∨ op = 18 ∨ op = 19 ∨ op = 20 ∨ op = 21) := (show (op = 11 ∨ op = 12 ∨ op = 13 ∨ op = 14 ∨ op = 15 ∨ op = 16 ∨ op = 17 ∨ op = 18 ∨ op = 19 ∨ op = 20 ∨ op = 21) by omega)
    go_enter Tryz.func126, Tryz.ntmps126
    go_wp2_with fail
    refine (moveC _ _ hk).mono ?_
    rintro e w1 ⟨rfl, hb⟩
    obtain ⟨hc, hf⟩ := bcell hb
    have hz : w.heap.size < w1.heap.size := by have := hb.size; simp at this; omega
    unfold shV at *
    go_wp2
    refine bodyPost_ret (v := shV (shT op)) (by simp [results, Tryz.results126, go_sem, hc]; rfl) rfl ⟨rfl, ?_⟩
    exact ((((((Below.refl _ _).alloc (Nat.le_refl _) _).trans (hb.mono (by simp))).setCell (Nat.le_refl _) _).setCell (Nat.le_refl _) _).setCell (Nat.le_refl _) _).setCell (Nat.le_refl _) _
  by_cases h4 : op ≤ 30
  · have hk : Hid (op = 22 ∨ op = 23 ∨ op = 24 ∨ op = 25 ∨ op = 26 ∨ op = 27 ∨ op = 28 ∨ op = 29 ∨ op = 30 ∨ op = 41 ∨ op = 42 ∨ op = 43 ∨ op = 44) := (show (op = 22 ∨ op = 23 ∨ op = 24 ∨ op = 25 ∨ op = 26 ∨ op = 27 ∨ op = 28 ∨ op = 29 ∨ op = 30 ∨ op = 41 ∨ op = 42 ∨ op = 43 ∨ op = 44) by omega)
    go_enter Tryz.func126, Tryz.ntmps126
    go_wp2_with fail
    refine (numberC _ _ hk).mono ?_
    rintro e w1 ⟨rfl, hb⟩
    obtain ⟨hc, hf⟩ := bcell hb
    have hz : w.heap.size < w1.heap.size := by have := hb.size; simp at this; omega
    unfold shV at *
    go_wp2
    refine bodyPost_ret (v := shV (shT op)) (by simp [results, Tryz.results126, go_sem, hc]; rfl) rfl ⟨rfl, ?_⟩
    exact ((((((Below.refl _ _).alloc (Nat.le_refl _) _).trans (hb.mono (by simp))).setCell (Nat.le_refl _) _).setCell (Nat.le_refl _) _).setCell (Nat.le_refl _) _).setCell (Nat.le_refl _) _
  by_cases h5 : 41 ≤ op ∧ op ≤ 44
  · have hk : Hid (op = 22 ∨ op = 23 ∨ op = 24 ∨ op = 25 ∨ op = 26 ∨ op = 27 ∨ op = 28 ∨ op = 29 ∨ op = 30 ∨ op = 41 ∨ op = 42 ∨ op = 43 ∨ op = 44) := (show (op = 22 ∨ op = 23 ∨ op = 24 ∨ op = 25 ∨ op = 26 ∨ op = 27 ∨ op = 28 ∨ op = 29 ∨ op = 30 ∨ op = 41 ∨ op = 42 ∨ op = 43 ∨ op = 44) by omega)
    obtain ⟨h5a, h5b⟩ := h5
    go_enter Tryz.func126, Tryz.ntmps126
    go_wp2_with fail
    refine (numberC _ _ hk).mono ?_
    rintro e w1 ⟨rfl, hb⟩
    obtain ⟨hc, hf⟩ := bcell hb
    have hz : w.heap.size < w1.heap.size := by have := hb.size; simp at this; omega
    unfold shV at *
    go_wp2
    refine bodyPost_ret (v := shV (shT op)) (by simp [results, Tryz.results126, go_sem, hc]; rfl) rfl ⟨rfl, ?_⟩
    exact ((((((Below.refl _ _).alloc (Nat.le_refl _) _).trans (hb.mono (by simp))).setCell (Nat.le_refl _) _).setCell (Nat.le_refl _) _).setCell (Nat.le_refl _) _).setCell (Nat.le_refl _) _
  by_cases h6 : op ≤ 40
  · have hk : Hid (op = 31 ∨ op = 32 ∨ op = 33 ∨ op = 34 ∨ op = 35 ∨ op = 36 ∨ op = 37 ∨ op = 38 ∨ op = 39 ∨ op = 40 ∨ op = 50 ∨ op = 51 ∨ op = 52 ∨ op = 53 ∨ op = 54 ∨ op = 55 ∨ op = 56 ∨ op = 57) := (show (op = 31 ∨ op = 32 ∨ op = 33 ∨ op = 34 ∨ op = 35 ∨ op = 36 ∨ op = 37 ∨ op = 38 ∨ op = 39 ∨ op = 40 ∨ op = 50 ∨ op = 51 ∨ op = 52 ∨ op = 53 ∨ op = 54 ∨ op = 55 ∨ op = 56 ∨ op = 57) by omega)
    clear h5
    go_enter Tryz.func126, Tryz.ntmps126
    go_wp2_with fail
    refine (wholeC _ _ hk).mono ?_
    rintro e w1 ⟨rfl, hb⟩
    obtain ⟨hc, hf⟩ := bcell hb
    have hz : w.heap.size < w1.heap.size := by have := hb.size; simp at this; omega
    unfold shV at *
    go_wp2
    refine bodyPost_ret (v := shV (shT op)) (by simp [results, Tryz.results126, go_sem, hc]; rfl) rfl ⟨rfl, ?_⟩
    exact ((((((Below.refl _ _).alloc (Nat.le_refl _) _).trans (hb.mono (by simp))).setCell (Nat.le_refl _) _).setCell (Nat.le_refl _) _).setCell (Nat.le_refl _) _).setCell (Nat.le_refl _) _
  by_cases h7 : 50 ≤ op ∧ op ≤ 57
  · have hk : Hid (op = 31 ∨ op = 32 ∨ op = 33 ∨ op = 34 ∨ op = 35 ∨ op = 36 ∨ op = 37 ∨ op = 38 ∨ op = 39 ∨ op = 40 ∨ op = 50 ∨ op = 51 ∨ op = 52 ∨ op = 53 ∨ op = 54 ∨ op = 55 ∨ op = 56 ∨ op = 57) := (show (op = 31 ∨ op = 32 ∨ op = 33 ∨ op = 34 ∨ op = 35 ∨ op = 36 ∨ op = 37 ∨ op = 38 ∨ op = 39 ∨ op = 40 ∨ op = 50 ∨ op = 51 ∨ op = 52 ∨ op = 53 ∨ op = 54 ∨ op = 55 ∨ op = 56 ∨ op = 57) by omega)
    obtain ⟨h7a, h7b⟩ := h7
    have h5c : 44 < op := by omega
    clear h5
    go_enter Tryz.func126, Tryz.ntmps126
    go_wp2_with fail
    refine (wholeC _ _ hk).mono ?_
    rintro e w1 ⟨rfl, hb⟩
    obtain ⟨hc, hf⟩ := bcell hb
    have hz : w.heap.size < w1.heap.size := by have := hb.size; simp at this; omega
    unfold shV at *
    go_wp2
    refine bodyPost_ret (v := shV (shT op)) (by simp [results, Tryz.results126, go_sem, hc]; rfl) rfl ⟨rfl, ?_⟩
    exact ((((((Below.refl _ _).alloc (Nat.le_refl _) _).trans (hb.mono (by simp))).setCell (Nat.le_refl _) _).setCell (Nat.le_refl _) _).setCell (Nat.le_refl _) _).setCell (Nat.le_refl _) _
  have hk : Hid (op = 45 ∨ op = 46 ∨ op = 47 ∨ op = 48 ∨ op = 49 ∨ op = 58 ∨ op = 59 ∨ op = 60 ∨ op = 61 ∨ op = 62) := (show (op = 45 ∨ op = 46 ∨ op = 47 ∨ op = 48 ∨ op = 49 ∨ op = 58 ∨ op = 59 ∨ op = 60 ∨ op = 61 ∨ op = 62) by omega)
  have h5c : 44 < op := by omega
  clear h5
  by_cases h8 : 50 ≤ op
  · have h8b : 57 < op := by omega
    clear h7
    go_enter Tryz.func126, Tryz.ntmps126
    go_wp2_with fail
    refine (halfC _ _ hk).mono ?_
    rintro e w1 ⟨rfl, hb⟩
    obtain ⟨hc, hf⟩ := bcell hb
    have hz : w.heap.size < w1.heap.size := by have := hb.size; simp at this; omega
    unfold shV at *
    go_wp2
    refine bodyPost_ret (v := shV (shT op)) (by simp [results, Tryz.results126, go_sem, hc]; rfl) rfl ⟨rfl, ?_⟩
    exact ((((((Below.refl _ _).alloc (Nat.le_refl _) _).trans (hb.mono (by simp))).setCell (Nat.le_refl _) _).setCell (Nat.le_refl _) _).setCell (Nat.le_refl _) _).setCell (Nat.le_refl _) _
  · clear h7
    go_enter Tryz.func126, Tryz.ntmps126
    go_wp2_with fail
    refine (halfC _ _ hk).mono ?_
    rintro e w1 ⟨rfl, hb⟩
    obtain ⟨hc, hf⟩ := bcell hb
    have hz : w.heap.size < w1.heap.size := by have := hb.size; simp at this; omega
    unfold shV at *
    go_wp2
    refine bodyPost_ret (v := shV (shT op)) (by simp [results, Tryz.results126, go_sem, hc]; rfl) rfl ⟨rfl, ?_⟩
    exact ((((((Below.refl _ _).alloc (Nat.le_refl _) _).trans (hb.mono (by simp))).setCell (Nat.le_refl _) _).setCell (Nat.le_refl _) _).setCell (Nat.le_refl _) _).setCell (Nat.le_refl _) _

end Go.Proofs.YtelogjpjglohoaaGreatDoor

namespace Go.Proofs.YtelogjpjglohoaaGreatDoor
open Go.RowKit
set_option linter.unusedVariables false

theorem kindOk (op a b : Int) (w : World) (h0 : 1 ≤ a) (h1 : b ≤ 64) (h2 : a ≤ op) (h3 : op ≤ b) :
    Calls Tryz.prog 151 #[.int .i64 op, .int .i64 a, .int .i64 b] w fun e w' => e = .returned (.int .i64 0) ∧ w' = w := by
  have h4 : 1 ≤ op := by omega
  have h5 : op ≤ 64 := by omega
  go_enter Tryz.func151, Tryz.ntmps151
  go_wp2
  go_ret
  exact ⟨rfl, rfl⟩
theorem kindRange (op a b : Int) (w : World) (h : op < 1 ∨ 64 < op) :
    Calls Tryz.prog 151 #[.int .i64 op, .int .i64 a, .int .i64 b] w fun e w' => e = .returned (.int .i64 4) ∧ w' = w := by
  by_cases h0 : op < 1
  · clear h
    go_enter Tryz.func151, Tryz.ntmps151
    go_wp2
    go_ret
    exact ⟨rfl, rfl⟩
  · have h1 : 64 < op := by omega
    clear h
    go_enter Tryz.func151, Tryz.ntmps151
    go_wp2
    go_ret
    exact ⟨rfl, rfl⟩
theorem kindKind (op a b : Int) (w : World) (h0 : 1 ≤ op) (h1 : op ≤ 64) (h : op < a ∨ b < op) :
    Calls Tryz.prog 151 #[.int .i64 op, .int .i64 a, .int .i64 b] w fun e w' => e = .returned (.int .i64 26) ∧ w' = w := by
  by_cases h2 : op < a
  · clear h
    go_enter Tryz.func151, Tryz.ntmps151
    go_wp2
    go_ret
    exact ⟨rfl, rfl⟩
  · have h3 : b < op := by omega
    clear h
    go_enter Tryz.func151, Tryz.ntmps151
    go_wp2
    go_ret
    exact ⟨rfl, rfl⟩

theorem opYes (op : Int) (w : World) (h0 : 1 ≤ op) (h1 : op ≤ 64) :
    Calls Tryz.prog 117 #[.int .i64 op] w fun e w' => e = .returned (.bool true) ∧ w' = w := by
  go_enter Tryz.func117, Tryz.ntmps117
  go_wp2_with fail
  refine (spIn op 1 64 w true (.inl ⟨rfl, by omega, by omega⟩)).mono ?_
  rintro e w1 ⟨rfl, rfl⟩
  go_wp2
  go_ret
  exact ⟨rfl, rfl⟩
theorem opNo (op : Int) (w : World) (h : op < 1 ∨ 64 < op) :
    Calls Tryz.prog 117 #[.int .i64 op] w fun e w' => e = .returned (.bool false) ∧ w' = w := by
  go_enter Tryz.func117, Tryz.ntmps117
  go_wp2_with fail
  refine (spIn op 1 64 w false (.inr ⟨rfl, h⟩)).mono ?_
  rintro e w1 ⟨rfl, rfl⟩
  clear h
  go_wp2
  go_ret
  exact ⟨rfl, rfl⟩
end Go.Proofs.YtelogjpjglohoaaGreatDoor
