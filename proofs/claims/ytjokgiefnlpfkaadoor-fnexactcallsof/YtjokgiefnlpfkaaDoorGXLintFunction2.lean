/- errors.Is of an argumentError: one Unwrap, then the kinds are held against each other. The two errors at package level, as they are laid. The program's checks of ranges and the codes of their errors: contracts. The shapes of the operations: contracts. What is no operation, and what is one of another kind: contracts. How wide loads and stores are: contracts. -/
import Derived.Test.YtjokgiefnlpfkaaDoorRows
import Derived.WalkKit
import Derived.WalkSpells
import Derived.Below
import Derived.LaidEql
import Derived.Stop.Asserts
import Derived.RowKitTokens
import Derived.ProofKit
import Derived.OpenShut
import Derived.LaidMore
import Derived.Stop.LaidTwo
import Derived.Stop.Joined
import Derived.Test.YtjokgiefnlpfkaaDoorGXLintFunction1
import Derived.Test.YtjokgiefnlpfkaaDoorGXLintFunction0
namespace Go.Proofs.YtjokgiefnlpfkaaDoor
open Go.RowKit Go.Extern.Stop Go.Stop Go.Extern
set_option linter.unusedVariables false

theorem isTypeOf (v : Value) (w : World) : (Extern.ReflectliteType.typeOf #[.iface 163 v]).run Tryd.prog w = .ok (.iface 153 (.agg #[.pointer (some ⟨2, 163, none⟩)])) w := by kernel_rfl
/-- The model's entry of '(reflectlite.rtype).Comparable'. -/
def cmpEntry : Array Value → Sem Value := Extern.ReflectliteType.method fun t => do Extern.Rtype.noPackHeld "Comparable" t; pure (.bool (← typeInfo t).comparable)
theorem isComparable (w : World) : (cmpEntry #[.agg #[.pointer (some ⟨2, 163, none⟩)]]).run Tryd.prog w = .ok (.bool true) w := by kernel_rfl
theorem isMethodComparable (v : Value) (w : World) : (Go.method 300 153 v "Comparable").run Tryd.prog w = .ok (154, v) w := by kernel_rfl
theorem isComp : (Tryd.prog.info? 163).map (·.comparable) = some true := by kernel_rfl
theorem isSize : (Tryd.prog.info? 188).map (·.size) = some 1 := by kernel_rfl
theorem noIsE (v : Value) (xT : TypeId) (w : World) : (Instr.typeAssert (.iface 163 v) xT 155 true).run Tryd.prog w = .ok (.tuple #[.nilIface, .bool false]) w := run_typeAssert_lacksB Tryd.underlying155 (by kernel_rfl) (by kernel_rfl) v xT w
theorem noUnwrapE (v : Value) (xT : TypeId) (w : World) : (Instr.typeAssert (.iface 163 v) xT 158 true).run Tryd.prog w = .ok (.tuple #[.nilIface, .bool false]) w := run_typeAssert_lacksB Tryd.underlying158 (by kernel_rfl) (by kernel_rfl) v xT w
theorem noUnwrapsE (v : Value) (xT : TypeId) (w : World) : (Instr.typeAssert (.iface 163 v) xT 160 true).run Tryd.prog w = .ok (.tuple #[.nilIface, .bool false]) w := run_typeAssert_lacksB Tryd.underlying160 (by kernel_rfl) (by kernel_rfl) v xT w
theorem noIsW (v : Value) (xT : TypeId) (w : World) : (Instr.typeAssert (.iface 141 v) xT 155 true).run Tryd.prog w = .ok (.tuple #[.nilIface, .bool false]) w := run_typeAssert_lacksB Tryd.underlying155 (by kernel_rfl) (by kernel_rfl) v xT w
theorem hasUnwrapW (v : Value) (xT : TypeId) (w : World) : (Instr.typeAssert (.iface 141 v) xT 158 true).run Tryd.prog w = .ok (.tuple #[.iface 141 v, .bool true]) w := run_typeAssert_hasB Tryd.underlying158 (by kernel_rfl) v xT w
theorem methodUnwrap (c0 c1 : Value) (w : World) : (Go.method 300 141 (.agg #[c0, c1]) "Unwrap").run Tryd.prog w = .ok (150, .agg #[c0, c1]) w := by kernel_rfl

/-- An argumentError as a value of error. -/
abbrev argErr (n : ByteArray) (a : Addr) : Value := .iface 141 (.agg #[.string n, .iface 163 (.pointer (some a))])

theorem unwrap_any (n : ByteArray) (a : Addr) (w : World) :
    Calls Tryd.prog 150 #[.agg #[.string n, .iface 163 (.pointer (some a))]] w fun e w' => e = .returned (.iface 163 (.pointer (some a))) ∧ Below w.heap.size w w' := by
  go_enter Tryd.func150, Tryd.ntmps150
  go_wp2
  go_ret
  exact ⟨rfl, (Below.refl _ _).alloc (Nat.le_refl _) _⟩

set_option maxRecDepth 100000 in
set_option maxHeartbeats 1000000 in
theorem is_arg_same (n : ByteArray) (b : Addr) (w : World) :
    Calls Tryd.prog 125 #[argErr n b, .iface 163 (.pointer (some b))] w fun e w' => e = .returned (.bool true) ∧ Below w.heap.size w w' := by
  obtain ⟨i, hi, hcmp⟩ := Option.map_eq_some_iff.1 isComp
  obtain ⟨j, hj, hjs⟩ := Option.map_eq_some_iff.1 isSize
  have h8 := @run_callFunc_extern Tryd.prog 131 _ Extern.ReflectliteType.typeOf Tryd.func131 (by kernel_rfl) (by kernel_rfl) (by kernel_rfl) (by kernel_rfl)
  have h32 := @run_callFunc_extern Tryd.prog 154 _ cmpEntry Tryd.func154 (by kernel_rfl) (by kernel_rfl) (by kernel_rfl) (by kernel_rfl)
  have tT := isTypeOf
  have cT := isComparable
  have mR := isMethodComparable
  have nE := noIsE
  have uE := noUnwrapE
  have vE := noUnwrapsE
  have nW := noIsW
  have uW := hasUnwrapW
  have mU := methodUnwrap
  have heq := fun w => run_eql_iface_ptr_same (P := Tryd.prog) w b Tryd.underlying127 Tryd.underlying163 hi hcmp hj
  have hty := fun w => run_eql_iface_types (P := Tryd.prog) 141 163 (.agg #[.string n, .iface 163 (.pointer (some b))]) (.pointer (some b)) Tryd.underlying127 (by decide) w
  go_enter Tryd.func125, Tryd.ntmps125
  go_wp2
  refine wp_loop_rounds 2 ?_
  rw [rounds_succ]
  go_wp2_with (go_at_call 150; refine (unwrap_any _ _ _).mono ?_; rintro e w1 ⟨rfl, hb1⟩)
  rw [rounds_succ]
  go_wp2
  go_ret
  exact ⟨rfl, hb1⟩
set_option maxRecDepth 100000 in
set_option maxHeartbeats 1000000 in
theorem is_arg_other (n : ByteArray) (a b : Addr) (ca cb : Array Value) (ta tb : TypeId) (w : World) (hne : a ≠ b) (ha : w.heap[a.block]? = some (.cells ca ta (0, 0))) (hb : w.heap[b.block]? = some (.cells cb tb (0, 0))) :
    Calls Tryd.prog 125 #[argErr n a, .iface 163 (.pointer (some b))] w fun e w' => e = .returned (.bool false) ∧ Below w.heap.size w w' := by
  obtain ⟨i, hi, hcmp⟩ := Option.map_eq_some_iff.1 isComp
  obtain ⟨j, hj, hjs⟩ := Option.map_eq_some_iff.1 isSize
  have h8 := @run_callFunc_extern Tryd.prog 131 _ Extern.ReflectliteType.typeOf Tryd.func131 (by kernel_rfl) (by kernel_rfl) (by kernel_rfl) (by kernel_rfl)
  have h32 := @run_callFunc_extern Tryd.prog 154 _ cmpEntry Tryd.func154 (by kernel_rfl) (by kernel_rfl) (by kernel_rfl) (by kernel_rfl)
  have tT := isTypeOf
  have cT := isComparable
  have mR := isMethodComparable
  have nE := noIsE
  have uE := noUnwrapE
  have vE := noUnwrapsE
  have nW := noIsW
  have uW := hasUnwrapW
  have mU := methodUnwrap
  have hty := fun w => run_eql_iface_types (P := Tryd.prog) 141 163 (.agg #[.string n, .iface 163 (.pointer (some a))]) (.pointer (some b)) Tryd.underlying127 (by decide) w
  go_enter Tryd.func125, Tryd.ntmps125
  go_wp2
  refine wp_loop_rounds 2 ?_
  rw [rounds_succ]
  go_wp2_with (go_at_call 150; refine (unwrap_any _ _ _).mono ?_; rintro e w1 ⟨rfl, hb1⟩)
  have ha1 : w1.heap[a.block]? = some (.cells ca ta (0, 0)) := (hb1.block _ (Array.getElem?_eq_some_iff.1 ha).1).trans ha
  have hbb1 : w1.heap[b.block]? = some (.cells cb tb (0, 0)) := (hb1.block _ (Array.getElem?_eq_some_iff.1 hb).1).trans hb
  have heq := run_eql_iface_ptr_other (P := Tryd.prog) w1 Tryd.underlying127 Tryd.underlying163 hi hcmp hj (by rw [hjs]; decide) hne ha1 hbb1
  clear ha1 hbb1
  rw [rounds_succ]
  go_wp2
  go_ret
  exact ⟨rfl, hb1⟩
end Go.Proofs.YtjokgiefnlpfkaaDoor

namespace Go.Proofs.YtjokgiefnlpfkaaDoor
open Go.RowKit Go.ChangeShapes Go.WideShapes Go.ChangeAt
set_option linter.unusedVariables false

/-- errRange is a pointer, errSize another one. -/
structure LaidAt (w : World) (a0 a1 : Addr) : Prop where
  r : w.cell? ⟨0, 0, none⟩ = some (.iface 163 (.pointer (some a0)))
  s : w.cell? ⟨1, 0, none⟩ = some (.iface 163 (.pointer (some a1)))
  ne : a0 ≠ a1
  hr : ∃ c t, w.heap[a0.block]? = some (.cells c t (0, 0))
  hs : ∃ c t, w.heap[a1.block]? = some (.cells c t (0, 0))
def Laid (w : World) : Prop := ∃ a0 a1, LaidAt w a0 a1

theorem LaidAt.below {w w' : World} {a0 a1 : Addr} (h : LaidAt w a0 a1) (hb : Below w.heap.size w w') : LaidAt w' a0 a1 := by
  obtain ⟨r, s, ne, ⟨c0, t0, h0⟩, ⟨c1, t1, h1⟩⟩ := h
  exact ⟨(hb.cell (p := ⟨0, 0, none⟩) (World.block_lt_of_cell? w _ r)).trans r, (hb.cell (p := ⟨1, 0, none⟩) (World.block_lt_of_cell? w _ s)).trans s, ne,
    ⟨c0, t0, (hb.block _ (Array.getElem?_eq_some_iff.1 h0).1).trans h0⟩, ⟨c1, t1, (hb.block _ (Array.getElem?_eq_some_iff.1 h1).1).trans h1⟩⟩
theorem laid_below {w w' : World} (h : Laid w) (hb : Below w.heap.size w w') : Laid w' := by
  obtain ⟨a0, a1, h⟩ := h
  exact ⟨a0, a1, h.below hb⟩

def laidList : List (String × DataW Unit) := [("loop.example/g00654/impl.errRange", Rows.laid_loop_example_g00654_impl_errRange), ("loop.example/g00654/impl.errSize", Rows.laid_loop_example_g00654_impl_errSize)]
theorem gR : Tryd.prog.globalNamed "loop.example/g00654/impl.errRange" = some 0 := by kernel_rfl
theorem gS : Tryd.prog.globalNamed "loop.example/g00654/impl.errSize" = some 1 := by kernel_rfl
theorem tR : (Tryd.prog.globals[0]?).map (·.type) = some 127 := by kernel_rfl
theorem tS : (Tryd.prog.globals[1]?).map (·.type) = some 127 := by kernel_rfl
theorem cE : Tryd.prog.cellsOf 188 = 1 := by kernel_rfl
theorem cS : Tryd.prog.cellsOf 9 = 1 := by kernel_rfl
theorem starE : "*" ++ "errors.errorString" = "*errors.errorString" := by decide
theorem rowE (u : TypeId) (h : Tryd.prog.typeName? 3 u = some "*errors.errorString") : u = 163 :=
  typeName_ptr_named (nm := "errors.errorString") (by rw [starE]; kernel_rfl) (by kernel_rfl) (by decide) u (by rw [starE]; exact h)

theorem door_met (os : Os) (args : Array Value) : laidMetH Tryd.prog laidList ((World.doorLaid Tryd.prog 400 os).forCall (fun _ _ => 0) ⟨#[], args, []⟩).memory :=
  laidMetH_of_parts3 (fuel := 8) (laidMet_of_run' 8 (by kernel_rfl) (by kernel_rfl)) (by kernel_rfl) (by kernel_rfl)

theorem of_laid {W : World} (h : laidMetH Tryd.prog laidList W) : Laid W := by
  rw [MakeChecks.laidMetH_plain _ _ _ (by kernel_rfl)] at h
  obtain ⟨a0, a1, s0, s1, c0, c1, t0, t1, hv0, hv1, hc0, hs0, hz0, hc1, hs1, hz1, hne, hb0, hb1⟩ := laid_sentinels2 h gR tR gS tS Tryd.underlying127 rowE Tryd.underlying163 Tryd.underlying188 rfl rfl Tryd.underlying9 cE cS
  exact ⟨a0, a1, by simpa using World.var?_cell gR hv0 0, by simpa using World.var?_cell gS hv1 0, hne, ⟨c0, t0, hb0⟩, ⟨c1, t1, hb1⟩⟩

theorem vars_len2 {H : Type} {enc : TypeId × Value → H} {P : Program} {w : World} {sp : Nat → Bool} {m n : String} {gs : List (DataW H)} {ps : List MemPlace} (h : DataW.TrodVars enc P w sp [m, n] gs ps) : ∃ g k, gs = [g, k] := by
  obtain ⟨g0, t0, cs0, f0, d0, p0, g1, t1, cs1, f1, d1, p1, rfl, _⟩ := trodVars_two h
  exact ⟨d0, d1, rfl⟩
end Go.Proofs.YtjokgiefnlpfkaaDoor

namespace Go.Proofs.YtjokgiefnlpfkaaDoor
open Go.RowKit
set_option linter.unusedVariables false

/-- inside: nil, or the error of the range. -/
theorem inside_ok (n : ByteArray) (v low high : Int) (w : World) (h0 : low ≤ v) (h1 : v ≤ high) :
    Calls Tryd.prog 108 #[.string n, .int .i64 v, .int .i64 low, .int .i64 high] w fun e w' => e = .returned .nilIface ∧ w' = w := by
  go_enter Tryd.func108, Tryd.ntmps108
  go_wp2
  go_ret
  exact ⟨rfl, rfl⟩

theorem inside_no (n : ByteArray) (v low high : Int) (w : World) (a0 a1 : Addr) (hL : LaidAt w a0 a1) (h : v < low ∨ high < v) :
    Calls Tryd.prog 108 #[.string n, .int .i64 v, .int .i64 low, .int .i64 high] w fun e w' => e = .returned (argErr n a0) ∧ w' = w := by
  have hr := hL.r
  clear hL
  by_cases h0 : v < low
  · go_enter Tryd.func108, Tryd.ntmps108
    go_wp2
    go_ret
    exact ⟨rfl, rfl⟩
  · have h1 : high < v := by omega
    go_enter Tryd.func108, Tryd.ntmps108
    go_wp2
    go_ret
    exact ⟨rfl, rfl⟩

/-- codeFrom: 0, 4 or 8. -/
theorem code_nil (w : World) :
    Calls Tryd.prog 109 #[.nilIface] w fun e w' => e = .returned (.int .i64 0) ∧ w' = w := by
  go_enter Tryd.func109, Tryd.ntmps109
  go_wp2
  go_ret
  exact ⟨rfl, rfl⟩

set_option maxHeartbeats 1000000 in
theorem code_range (n : ByteArray) (w : World) (a0 a1 : Addr) (hL : LaidAt w a0 a1) :
    Calls Tryd.prog 109 #[argErr n a0] w fun e w' => e = .returned (.int .i64 4) ∧ Below w.heap.size w w' := by
  have hr := hL.r
  clear hL
  go_enter Tryd.func109, Tryd.ntmps109
  go_wp2_with fail
  refine (is_arg_same n a0 w).mono ?_
  rintro e w1 ⟨rfl, hb⟩
  go_wp2
  go_ret
  exact ⟨rfl, hb⟩

set_option maxHeartbeats 1000000 in
theorem code_size (n : ByteArray) (w : World) (a0 a1 : Addr) (hL : LaidAt w a0 a1) :
    Calls Tryd.prog 109 #[argErr n a1] w fun e w' => e = .returned (.int .i64 8) ∧ Below w.heap.size w w' := by
  have hL0 := hL
  obtain ⟨c0, t0, h0⟩ := hL.hr
  obtain ⟨c1, t1, h1⟩ := hL.hs
  have hne := hL.ne
  have hr := hL.r
  clear hL
  go_enter Tryd.func109, Tryd.ntmps109
  go_wp2_with fail
  refine (is_arg_other n a1 a0 c1 c0 t1 t0 w (Ne.symm hne) h1 h0).mono ?_
  rintro e w1 ⟨rfl, hb⟩
  have hs := (hL0.below hb).s
  clear hL0 h0 h1 hr
  go_wp2_with fail
  refine (is_arg_same n a1 w1).mono ?_
  rintro e w2 ⟨rfl, hb2⟩
  go_wp2
  go_ret
  exact ⟨rfl, hb.trans (hb2.mono hb.size)⟩
end Go.Proofs.YtjokgiefnlpfkaaDoor

namespace Go.Proofs.YtjokgiefnlpfkaaDoor
open Go.RowKit
set_option linter.unusedVariables false

theorem bcell {W w1 : World} (hb : Below W.heap.size W w1) : (∀ b o, b < W.heap.size → w1.cell? ⟨b, o, none⟩ = W.cell? ⟨b, o, none⟩) ∧ (∀ b o, b < W.heap.size → w1.frozen? ⟨b, o, none⟩ = W.frozen? ⟨b, o, none⟩) :=
  ⟨fun b o h => hb.cell (p := ⟨b, o, none⟩) h, fun b o h => hb.frozen (p := ⟨b, o, none⟩) h⟩

set_option maxRecDepth 100000 in
set_option maxHeartbeats 4000000 in
theorem shapeC (op : Int) (w : World) :
    Calls Tryd.prog 56 #[.int .i64 op] w fun e w' => e = .returned (shV (shT op)) ∧ Below w.heap.size w w' := by
  by_cases h1 : op ≤ 10
  · go_enter Tryd.func56, Tryd.ntmps56
    go_wp2_with fail
    refine (flowC _ _ (.inl h1)).mono ?_
    rintro e w1 ⟨rfl, hb⟩
    obtain ⟨hc, hf⟩ := bcell hb
    have hz : w.heap.size < w1.heap.size := by have := hb.size; simp at this; omega
    unfold shV at *
    go_wp2
    refine bodyPost_ret (v := shV (shT op)) (by simp [results, Tryd.results56, go_sem, hc]; rfl) rfl ⟨rfl, ?_⟩
    exact ((((((Below.refl _ _).alloc (Nat.le_refl _) _).trans (hb.mono (by simp))).setCell (Nat.le_refl _) _).setCell (Nat.le_refl _) _).setCell (Nat.le_refl _) _).setCell (Nat.le_refl _) _
  by_cases h2 : 63 ≤ op
  · go_enter Tryd.func56, Tryd.ntmps56
    go_wp2_with fail
    refine (flowC _ _ (.inr h2)).mono ?_
    rintro e w1 ⟨rfl, hb⟩
    obtain ⟨hc, hf⟩ := bcell hb
    have hz : w.heap.size < w1.heap.size := by have := hb.size; simp at this; omega
    unfold shV at *
    go_wp2
    refine bodyPost_ret (v := shV (shT op)) (by simp [results, Tryd.results56, go_sem, hc]; rfl) rfl ⟨rfl, ?_⟩
    exact ((((((Below.refl _ _).alloc (Nat.le_refl _) _).trans (hb.mono (by simp))).setCell (Nat.le_refl _) _).setCell (Nat.le_refl _) _).setCell (Nat.le_refl _) _).setCell (Nat.le_refl _) _
  by_cases h3 : op ≤ 21
  · have hk : Hid (op = 11 ∨ op = 12 ∨ op = 13 ∨ op = 14 ∨ op = 15 ∨ op = 16 ∨ op = 17 ∨ op = 18 ∨ op = 19 ∨ op = 20 ∨ op = 21) := (show (op = 11 ∨ op = 12 ∨ op = 13 ∨ op = 14 ∨ op = 15 ∨ op = 16 ∨ op = 17 ∨ op = 18 ∨ op = 19 ∨ op = 20 ∨ op = 21) by omega)
    go_enter Tryd.func56, Tryd.ntmps56
    go_wp2_with fail
    refine (moveC _ _ hk).mono ?_
    rintro e w1 ⟨rfl, hb⟩
    obtain ⟨hc, hf⟩ := bcell hb
    have hz : w.heap.size < w1.heap.size := by have := hb.size; simp at this; omega
    unfold shV at *
    go_wp2
    refine bodyPost_ret (v := shV (shT op)) (by simp [results, Tryd.results56, go_sem, hc]; rfl) rfl ⟨rfl, ?_⟩
    exact ((((((Below.refl _ _).alloc (Nat.le_refl _) _).trans (hb.mono (by simp))).setCell (Nat.le_refl _) _).setCell (Nat.le_refl _) _).setCell (Nat.le_refl _) _).setCell (Nat.le_refl _) _
  by_cases h4 : op ≤ 30
  · have hk : Hid (op = 22 ∨ op = 23 ∨ op = 24 ∨ op = 25 ∨ op = 26 ∨ op = 27 ∨ op = 28 ∨ op = 29 ∨ op = 30 ∨ op = 41 ∨ op = 42 ∨ op = 43 ∨ op = 44) := (show (op = 22 ∨ op = 23 ∨ op = 24 ∨ op = 25 ∨ op = 26 ∨ op = 27 ∨ op = 28 ∨ op = 29 ∨ op = 30 ∨ op = 41 ∨ op = 42 ∨ op = 43 ∨ op = 44) by omega)
    go_enter Tryd.func56, Tryd.ntmps56
    go_wp2_with fail
    refine (numberC _ _ hk).mono ?_
    rintro e w1 ⟨rfl, hb⟩
    obtain ⟨hc, hf⟩ := bcell hb
    have hz : w.heap.size < w1.heap.size := by have := hb.size; simp at this; omega
    unfold shV at *
    go_wp2
    refine bodyPost_ret (v := shV (shT op)) (by simp [results, Tryd.results56, go_sem, hc]; rfl) rfl ⟨rfl, ?_⟩
    exact ((((((Below.refl _ _).alloc (Nat.le_refl _) _).trans (hb.mono (by simp))).setCell (Nat.le_refl _) _).setCell (Nat.le_refl _) _).setCell (Nat.le_refl _) _).setCell (Nat.le_refl _) _
  by_cases h5 : 41 ≤ op ∧ op ≤ 44
  · have hk : Hid (op = 22 ∨ op = 23 ∨ op = 24 ∨ op = 25 ∨ op = 26 ∨ op = 27 ∨ op = 28 ∨ op = 29 ∨ op = 30 ∨ op = 41 ∨ op = 42 ∨ op = 43 ∨ op = 44) := (show (op = 22 ∨ op = 23 ∨ op = 24 ∨ op = 25 ∨ op = 26 ∨ op = 27 ∨ op = 28 ∨ op = 29 ∨ op = 30 ∨ op = 41 ∨ op = 42 ∨ op = 43 ∨ op = 44) by omega)
    obtain ⟨h5a, h5b⟩ := h5
    go_enter Tryd.func56, Tryd.ntmps56
    go_wp2_with fail
    refine (numberC _ _ hk).mono ?_
    rintro e w1 ⟨rfl, hb⟩
    obtain ⟨hc, hf⟩ := bcell hb
    have hz : w.heap.size < w1.heap.size := by have := hb.size; simp at this; omega
    unfold shV at *
    go_wp2
    refine bodyPost_ret (v := shV (shT op)) (by simp [results, Tryd.results56, go_sem, hc]; rfl) rfl ⟨rfl, ?_⟩
    exact ((((((Below.refl _ _).alloc (Nat.le_refl _) _).trans (hb.mono (by simp))).setCell (Nat.le_refl _) _).setCell (Nat.le_refl _) _).setCell (Nat.le_refl _) _).setCell (Nat.le_refl _) _
  by_cases h6 : op ≤ 40
  · have hk : Hid (op = 31 ∨ op = 32 ∨ op = 33 ∨ op = 34 ∨ op = 35 ∨ op = 36 ∨ op = 37 ∨ op = 38 ∨ op = 39 ∨ op = 40 ∨ op = 50 ∨ op = 51 ∨ op = 52 ∨ op = 53 ∨ op = 54 ∨ op = 55 ∨ op = 56 ∨ op = 57) := (show (op = 31 ∨ op = 32 ∨ op = 33 ∨ op = 34 ∨ op = 35 ∨ op = 36 ∨ op = 37 ∨ op = 38 ∨ op = 39 ∨ op = 40 ∨ op = 50 ∨ op = 51 ∨ op = 52 ∨ op = 53 ∨ op = 54 ∨ op = 55 ∨ op = 56 ∨ op = 57) by omega)
    clear h5
    go_enter Tryd.func56, Tryd.ntmps56
    go_wp2_with fail
    refine (wholeC _ _ hk).mono ?_
    rintro e w1 ⟨rfl, hb⟩
    obtain ⟨hc, hf⟩ := bcell hb
    have hz : w.heap.size < w1.heap.size := by have := hb.size; simp at this; omega
    unfold shV at *
    go_wp2
    refine bodyPost_ret (v := shV (shT op)) (by simp [results, Tryd.results56, go_sem, hc]; rfl) rfl ⟨rfl, ?_⟩
    exact ((((((Below.refl _ _).alloc (Nat.le_refl _) _).trans (hb.mono (by simp))).setCell (Nat.le_refl _) _).setCell (Nat.le_refl _) _).setCell (Nat.le_refl _) _).setCell (Nat.le_refl _) _
  by_cases h7 : 50 ≤ op ∧ op ≤ 57
  · have hk : Hid (op = 31 ∨ op = 32 ∨ op = 33 ∨ op = 34 ∨ op = 35 ∨ op = 36 ∨ op = 37 ∨ op = 38 ∨ op = 39 ∨ op = 40 ∨ op = 50 ∨ op = 51 ∨ op = 52 ∨ op = 53 ∨ op = 54 ∨ op = 55 ∨ op = 56 ∨ op = 57) := (show (op = 31 ∨ op = 32 ∨ op = 33 ∨ op = 34 ∨ op = 35 ∨ op = 36 ∨ op = 37 ∨ op = 38 ∨ op = 39 ∨ op = 40 ∨ op = 50 ∨ op = 51 ∨ op = 52 ∨ op = 53 ∨ op = 54 ∨ op = 55 ∨ op = 56 ∨ op = 57) by omega)
    obtain ⟨h7a, h7b⟩ := h7
    have h5c : 44 < op := by omega
    clear h5
    go_enter Tryd.func56, Tryd.ntmps56
    go_wp2_with fail
    refine (wholeC _ _ hk).mono ?_
    rintro e w1 ⟨rfl, hb⟩
    obtain ⟨hc, hf⟩ := bcell hb
    have hz : w.heap.size < w1.heap.size := by have := hb.size; simp at this; omega
    unfold shV at *
    go_wp2
    refine bodyPost_ret (v := shV (shT op)) (by simp [results, Tryd.results56, go_sem, hc]; rfl) rfl ⟨rfl, ?_⟩
    exact ((((((Below.refl _ _).alloc (Nat.le_refl _) _).trans (hb.mono (by simp))).setCell (Nat.le_refl _) _).setCell (Nat.le_refl _) _).setCell (Nat.le_refl _) _).setCell (Nat.le_refl _) _
  have hk : Hid (op = 45 ∨ op = 46 ∨ op = 47 ∨ op = 48 ∨ op = 49 ∨ op = 58 ∨ op = 59 ∨ op = 60 ∨ op = 61 ∨ op = 62) := (show (op = 45 ∨ op = 46 ∨ op = 47 ∨ op = 48 ∨ op = 49 ∨ op = 58 ∨ op = 59 ∨ op = 60 ∨ op = 61 ∨ op = 62) by omega)
  have h5c : 44 < op := by omega
  clear h5
  by_cases h8 : 50 ≤ op
  · have h8b : 57 < op := by omega
    clear h7
    go_enter Tryd.func56, Tryd.ntmps56
    go_wp2_with fail
    refine (halfC _ _ hk).mono ?_
    rintro e w1 ⟨rfl, hb⟩
    obtain ⟨hc, hf⟩ := bcell hb
    have hz : w.heap.size < w1.heap.size := by have := hb.size; simp at this; omega
    unfold shV at *
    go_wp2
    refine bodyPost_ret (v := shV (shT op)) (by simp [results, Tryd.results56, go_sem, hc]; rfl) rfl ⟨rfl, ?_⟩
    exact ((((((Below.refl _ _).alloc (Nat.le_refl _) _).trans (hb.mono (by simp))).setCell (Nat.le_refl _) _).setCell (Nat.le_refl _) _).setCell (Nat.le_refl _) _).setCell (Nat.le_refl _) _
  · clear h7
    go_enter Tryd.func56, Tryd.ntmps56
    go_wp2_with fail
    refine (halfC _ _ hk).mono ?_
    rintro e w1 ⟨rfl, hb⟩
    obtain ⟨hc, hf⟩ := bcell hb
    have hz : w.heap.size < w1.heap.size := by have := hb.size; simp at this; omega
    unfold shV at *
    go_wp2
    refine bodyPost_ret (v := shV (shT op)) (by simp [results, Tryd.results56, go_sem, hc]; rfl) rfl ⟨rfl, ?_⟩
    exact ((((((Below.refl _ _).alloc (Nat.le_refl _) _).trans (hb.mono (by simp))).setCell (Nat.le_refl _) _).setCell (Nat.le_refl _) _).setCell (Nat.le_refl _) _).setCell (Nat.le_refl _) _

set_option maxHeartbeats 1000000 in
theorem shapeOK (op : Int) (w : World) (h0 : 1 ≤ op) (h1 : op ≤ 64) :
    Calls Tryd.prog 76 #[.int .i64 op] w fun e w' => e = .returned (.tuple #[shV (shT op), .int .i64 0]) ∧ Below w.heap.size w w' := by
  go_enter Tryd.func76, Tryd.ntmps76
  go_wp2_with fail
  refine (inside_ok _ op 1 64 _ h0 h1).mono ?_
  rintro e w1 ⟨rfl, rfl⟩
  go_wp2_with fail
  refine (shapeC op _).mono ?_
  rintro e w1 ⟨rfl, hb⟩
  obtain ⟨hc, hf⟩ := bcell hb
  have hz : w.heap.size < w1.heap.size := by have := hb.size; simp at this; omega
  unfold shV at *
  go_wp2
  refine bodyPost_ret (v := .tuple #[shV (shT op), .int .i64 0]) (by simp [results, Tryd.results76, go_sem, hc]; rfl) rfl ⟨rfl, ?_⟩
  exact ((((((Below.refl _ _).alloc (Nat.le_refl _) _).trans (hb.mono (by simp))).setCell (Nat.le_refl _) _).setCell (Nat.le_refl _) _).setCell (Nat.le_refl _) _).setCell (Nat.le_refl _) _

set_option maxHeartbeats 1000000 in
theorem shapeNo (op : Int) (w : World) (hL : Laid w) (h : op < 1 ∨ 64 < op) :
    Calls Tryd.prog 76 #[.int .i64 op] w fun e w' => e = .returned (.tuple #[shV (0, 0, 0, 0), .int .i64 4]) ∧ Below w.heap.size w w' := by
  obtain ⟨a0, a1, hL⟩ := hL
  go_enter Tryd.func76, Tryd.ntmps76
  go_wp2_with fail
  refine (inside_no _ op 1 64 _ a0 a1 (hL.below ((Below.refl _ _).alloc (Nat.le_refl _) _)) h).mono ?_
  rintro e w1 ⟨rfl, rfl⟩
  go_wp2_with fail
  refine (code_range _ _ a0 a1 (hL.below ((Below.refl _ _).alloc (Nat.le_refl _) _))).mono ?_
  rintro e w1 ⟨rfl, hb⟩
  clear hL h
  obtain ⟨hc, hf⟩ := bcell hb
  have hz : w.heap.size < w1.heap.size := by have := hb.size; simp at this; omega
  go_wp2
  refine bodyPost_ret (v := .tuple #[shV (0, 0, 0, 0), .int .i64 4]) (by simp [results, Tryd.results76, go_sem, hc]; rfl) rfl ⟨rfl, ?_⟩
  exact ((((((Below.refl _ _).alloc (Nat.le_refl _) _).trans (hb.mono (by simp))).setCell (Nat.le_refl _) _).setCell (Nat.le_refl _) _).setCell (Nat.le_refl _) _).setCell (Nat.le_refl _) _
end Go.Proofs.YtjokgiefnlpfkaaDoor

namespace Go.Proofs.YtjokgiefnlpfkaaDoor
open Go.RowKit
set_option linter.unusedVariables false

theorem kindOk (op a b : Int) (w : World) (h0 : 1 ≤ a) (h1 : b ≤ 64) (h2 : a ≤ op) (h3 : op ≤ b) :
    Calls Tryd.prog 129 #[.int .i64 op, .int .i64 a, .int .i64 b] w fun e w' => e = .returned (.int .i64 0) ∧ w' = w := by
  have h4 : 1 ≤ op := by omega
  have h5 : op ≤ 64 := by omega
  go_enter Tryd.func129, Tryd.ntmps129
  go_wp2
  go_ret
  exact ⟨rfl, rfl⟩
theorem kindRange (op a b : Int) (w : World) (h : op < 1 ∨ 64 < op) :
    Calls Tryd.prog 129 #[.int .i64 op, .int .i64 a, .int .i64 b] w fun e w' => e = .returned (.int .i64 4) ∧ w' = w := by
  by_cases h0 : op < 1
  · clear h
    go_enter Tryd.func129, Tryd.ntmps129
    go_wp2
    go_ret
    exact ⟨rfl, rfl⟩
  · have h1 : 64 < op := by omega
    clear h
    go_enter Tryd.func129, Tryd.ntmps129
    go_wp2
    go_ret
    exact ⟨rfl, rfl⟩
theorem kindKind (op a b : Int) (w : World) (h0 : 1 ≤ op) (h1 : op ≤ 64) (h : op < a ∨ b < op) :
    Calls Tryd.prog 129 #[.int .i64 op, .int .i64 a, .int .i64 b] w fun e w' => e = .returned (.int .i64 26) ∧ w' = w := by
  by_cases h2 : op < a
  · clear h
    go_enter Tryd.func129, Tryd.ntmps129
    go_wp2
    go_ret
    exact ⟨rfl, rfl⟩
  · have h3 : b < op := by omega
    clear h
    go_enter Tryd.func129, Tryd.ntmps129
    go_wp2
    go_ret
    exact ⟨rfl, rfl⟩

theorem opYes (op : Int) (w : World) (h0 : 1 ≤ op) (h1 : op ≤ 64) :
    Calls Tryd.prog 50 #[.int .i64 op] w fun e w' => e = .returned (.bool true) ∧ w' = w := by
  go_enter Tryd.func50, Tryd.ntmps50
  go_wp2_with fail
  refine (spIn op 1 64 w true (.inl ⟨rfl, by omega, by omega⟩)).mono ?_
  rintro e w1 ⟨rfl, rfl⟩
  go_wp2
  go_ret
  exact ⟨rfl, rfl⟩
theorem opNo (op : Int) (w : World) (h : op < 1 ∨ 64 < op) :
    Calls Tryd.prog 50 #[.int .i64 op] w fun e w' => e = .returned (.bool false) ∧ w' = w := by
  go_enter Tryd.func50, Tryd.ntmps50
  go_wp2_with fail
  refine (spIn op 1 64 w false (.inr ⟨rfl, h⟩)).mono ?_
  rintro e w1 ⟨rfl, rfl⟩
  clear h
  go_wp2
  go_ret
  exact ⟨rfl, rfl⟩
end Go.Proofs.YtjokgiefnlpfkaaDoor

namespace Go.Proofs.YtjokgiefnlpfkaaDoor
open Go.RowKit
set_option linter.unusedVariables false

def wdN (op : Int) : Int := if op = 11 then 1 else if op = 12 then 2 else if op = 13 then 4 else if op = 14 then 8 else if op = 15 then 1 else if op = 16 then 2 else if op = 17 then 4 else if op = 18 then 1 else if op = 19 then 2 else if op = 20 then 4 else if op = 21 then 8 else 0
def wdS (op : Int) : Bool := decide (11 ≤ op ∧ op ≤ 14)
theorem ret_wid {a b : Int} {x y : Bool} {c d : Int} (h : a = b) (k : x = y) (l : c = d) : Ending.returned (.tuple #[.int .i64 a, .bool x, .int .i64 c]) = .returned (.tuple #[.int .i64 b, .bool y, .int .i64 d]) := by rw [h, k, l]
theorem ret_wid2 {a b : Int} {x y : Bool} (h : a = b) (k : x = y) : Ending.returned (.tuple #[.int .i64 a, .bool x]) = .returned (.tuple #[.int .i64 b, .bool y]) := by rw [h, k]

set_option maxHeartbeats 2000000 in
theorem implWid (op : Int) (w : World) (h0 : 11 ≤ op) (h1 : op ≤ 21) :
    Calls Tryd.prog 117 #[.int .i64 op] w fun e w' => e = .returned (.tuple #[.int .i64 (wdN op), .bool (wdS op), .int .i64 0]) ∧ w' = w := by
  rcases (show op = 11 ∨ op = 12 ∨ op = 13 ∨ op = 14 ∨ op = 15 ∨ op = 16 ∨ op = 17 ∨ op = 18 ∨ op = 19 ∨ op = 20 ∨ op = 21 by omega) with rfl | rfl | rfl | rfl | rfl | rfl | rfl | rfl | rfl | rfl | rfl
  all_goals
    clear h0 h1
    go_enter Tryd.func117, Tryd.ntmps117
    go_wp2
    go_ret3
    exact ⟨ret_wid (by decide) (by decide) rfl, rfl⟩
set_option maxHeartbeats 2000000 in
theorem specWidIn (op : Int) (w : World) (h0 : 11 ≤ op) (h1 : op ≤ 21) :
    Calls Tryd.prog 90 #[.int .i64 op] w fun e w' => e = .returned (.tuple #[.int .i64 (wdN op), .bool (wdS op)]) ∧ w' = w := by
  rcases (show op = 11 ∨ op = 12 ∨ op = 13 ∨ op = 14 ∨ op = 15 ∨ op = 16 ∨ op = 17 ∨ op = 18 ∨ op = 19 ∨ op = 20 ∨ op = 21 by omega) with rfl | rfl | rfl | rfl | rfl | rfl | rfl | rfl | rfl | rfl | rfl
  all_goals
    clear h0 h1
    go_enter Tryd.func90, Tryd.ntmps90
    go_wp2
    go_ret2
    exact ⟨ret_wid2 (by decide) (by decide), rfl⟩
set_option maxHeartbeats 2000000 in
theorem specWidOut (op : Int) (w : World) (h : op < 11 ∨ 21 < op) :
    Calls Tryd.prog 90 #[.int .i64 op] w fun e w' => e = .returned (.tuple #[.int .i64 0, .bool false]) ∧ w' = w := by
  have b11 : (op == 11) = false := beq_eq_false_iff_ne.2 (by omega)
  have b12 : (op == 12) = false := beq_eq_false_iff_ne.2 (by omega)
  have b13 : (op == 13) = false := beq_eq_false_iff_ne.2 (by omega)
  have b14 : (op == 14) = false := beq_eq_false_iff_ne.2 (by omega)
  have b15 : (op == 15) = false := beq_eq_false_iff_ne.2 (by omega)
  have b16 : (op == 16) = false := beq_eq_false_iff_ne.2 (by omega)
  have b17 : (op == 17) = false := beq_eq_false_iff_ne.2 (by omega)
  have b18 : (op == 18) = false := beq_eq_false_iff_ne.2 (by omega)
  have b19 : (op == 19) = false := beq_eq_false_iff_ne.2 (by omega)
  have b20 : (op == 20) = false := beq_eq_false_iff_ne.2 (by omega)
  have b21 : (op == 21) = false := beq_eq_false_iff_ne.2 (by omega)
  clear h
  go_enter Tryd.func90, Tryd.ntmps90
  go_wp2
  go_ret2
  exact ⟨rfl, rfl⟩
theorem wdN_bd (op : Int) (h0 : 11 ≤ op) (h1 : op ≤ 21) : 1 ≤ wdN op ∧ wdN op ≤ 8 := by
  rcases (show op = 11 ∨ op = 12 ∨ op = 13 ∨ op = 14 ∨ op = 15 ∨ op = 16 ∨ op = 17 ∨ op = 18 ∨ op = 19 ∨ op = 20 ∨ op = 21 by omega) with rfl | rfl | rfl | rfl | rfl | rfl | rfl | rfl | rfl | rfl | rfl <;> decide

/-- What both answer: number, sign, code. -/
def wdR (op : Int) : Int × Bool × Int := if op < 1 ∨ 64 < op then (0, false, 4) else if op < 11 ∨ 21 < op then (0, false, 26) else (wdN op, wdS op, 0)

theorem implWidth (op : Int) (w : World) :
    Calls Tryd.prog 117 #[.int .i64 op] w fun e w' => e = .returned (.tuple #[.int .i64 (wdR op).1, .bool (wdR op).2.1, .int .i64 (wdR op).2.2]) ∧ w' = w := by
  unfold wdR
  by_cases h : op < 1 ∨ 64 < op
  · rw [if_pos h]
    go_enter Tryd.func117, Tryd.ntmps117
    go_wp2_with fail
    refine (kindRange op 11 21 w h).mono ?_
    rintro e w2 ⟨rfl, rfl⟩
    clear h
    go_wp2
    go_ret3
    exact ⟨rfl, rfl⟩
  · rw [if_neg h]
    by_cases h2 : op < 11 ∨ 21 < op
    · rw [if_pos h2]
      go_enter Tryd.func117, Tryd.ntmps117
      go_wp2_with fail
      refine (kindKind op 11 21 w (by omega) (by omega) h2).mono ?_
      rintro e w2 ⟨rfl, rfl⟩
      clear h h2
      go_wp2
      go_ret3
      exact ⟨rfl, rfl⟩
    · rw [if_neg h2]
      exact implWid op w (by omega) (by omega)
end Go.Proofs.YtjokgiefnlpfkaaDoor
