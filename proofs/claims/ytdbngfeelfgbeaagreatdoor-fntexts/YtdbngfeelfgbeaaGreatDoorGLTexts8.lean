/- wholeShape: contract. The program's checks of ranges and the codes of their errors: contracts. -/
import Derived.Test.YtdbngfeelfgbeaaGreatDoorGLTexts5
import Derived.Test.YtdbngfeelfgbeaaGreatDoorGLTexts0
namespace Go.Proofs.YtdbngfeelfgbeaaGreatDoor
open Go.RowKit
set_option linter.unusedVariables false

set_option maxRecDepth 100000 in
set_option maxHeartbeats 40000000 in
theorem wholeC (op : Int) (w : World) (hc : Hid (op = 31 ∨ op = 32 ∨ op = 33 ∨ op = 34 ∨ op = 35 ∨ op = 36 ∨ op = 37 ∨ op = 38 ∨ op = 39 ∨ op = 40 ∨ op = 50 ∨ op = 51 ∨ op = 52 ∨ op = 53 ∨ op = 54 ∨ op = 55 ∨ op = 56 ∨ op = 57)) :
    Calls Tryz.prog 39 #[.int .i64 op] w fun e w' => e = .returned (shV (shT op)) ∧ Below w.heap.size w w' := by
  go_enter Tryz.func39, Tryz.ntmps39
  go_wp2
  all_goals first
    | (obtain rfl := eq_of_beq (‹(op == _) = true›)
       clear hc
       exact bodyPost_ret (v := shV (shT _)) (by simp [results, Tryz.results39, go_sem]; rfl) rfl ⟨rfl, (Below.refl _ _).alloc (Nat.le_refl _) _⟩)
    | (exfalso
       have h2 : op = 31 ∨ op = 32 ∨ op = 33 ∨ op = 34 ∨ op = 35 ∨ op = 36 ∨ op = 37 ∨ op = 38 ∨ op = 39 ∨ op = 40 ∨ op = 50 ∨ op = 51 ∨ op = 52 ∨ op = 53 ∨ op = 54 ∨ op = 55 ∨ op = 56 ∨ op = 57 := hc.out
       rcases h2 with rfl | rfl | rfl | rfl | rfl | rfl | rfl | rfl | rfl | rfl | rfl | rfl | rfl | rfl | rfl | rfl | rfl | rfl <;> first | contradiction | simp_all)

end Go.Proofs.YtdbngfeelfgbeaaGreatDoor

namespace Go.Proofs.YtdbngfeelfgbeaaGreatDoor
open Go.RowKit
set_option linter.unusedVariables false

/-- inside: nil, or the error of the range. -/
theorem inside_ok (n : ByteArray) (v low high : Int) (w : World) (h0 : low ≤ v) (h1 : v ≤ high) :
    Calls Tryz.prog 25 #[.string n, .int .i64 v, .int .i64 low, .int .i64 high] w fun e w' => e = .returned .nilIface ∧ w' = w := by
  go_enter Tryz.func25, Tryz.ntmps25
  go_wp2
  go_ret
  exact ⟨rfl, rfl⟩

theorem inside_no (n : ByteArray) (v low high : Int) (w : World) (a0 a1 : Addr) (hL : LaidAt w a0 a1) (h : v < low ∨ high < v) :
    Calls Tryz.prog 25 #[.string n, .int .i64 v, .int .i64 low, .int .i64 high] w fun e w' => e = .returned (argErr n a0) ∧ w' = w := by
  have hr := hL.r
  clear hL
  by_cases h0 : v < low
  · go_enter Tryz.func25, Tryz.ntmps25
    go_wp2
    go_ret
    exact ⟨rfl, rfl⟩
  · have h1 : high < v := by omega
    go_enter Tryz.func25, Tryz.ntmps25
    go_wp2
    go_ret
    exact ⟨rfl, rfl⟩

/-- codeFrom: 0, 4 or 8. -/
theorem code_nil (w : World) :
    Calls Tryz.prog 26 #[.nilIface] w fun e w' => e = .returned (.int .i64 0) ∧ w' = w := by
  go_enter Tryz.func26, Tryz.ntmps26
  go_wp2
  go_ret
  exact ⟨rfl, rfl⟩

set_option maxHeartbeats 1000000 in
theorem code_range (n : ByteArray) (w : World) (a0 a1 : Addr) (hL : LaidAt w a0 a1) :
    Calls Tryz.prog 26 #[argErr n a0] w fun e w' => e = .returned (.int .i64 4) ∧ Below w.heap.size w w' := by
  have hr := hL.r
  clear hL
  go_enter Tryz.func26, Tryz.ntmps26
  go_wp2_with fail
  refine (is_arg_same n a0 w).mono ?_
  rintro e w1 ⟨rfl, hb⟩
  go_wp2
  go_ret
  exact ⟨rfl, hb⟩

set_option maxHeartbeats 1000000 in
theorem code_size (n : ByteArray) (w : World) (a0 a1 : Addr) (hL : LaidAt w a0 a1) :
    Calls Tryz.prog 26 #[argErr n a1] w fun e w' => e = .returned (.int .i64 8) ∧ Below w.heap.size w w' := by
  have hL0 := hL
  obtain ⟨c0, t0, h0⟩ := hL.hr
  obtain ⟨c1, t1, h1⟩ := hL.hs
  have hne := hL.ne
  have hr := hL.r
  clear hL
  go_enter Tryz.func26, Tryz.ntmps26
  go_wp2_with fail
  refine (is_arg_other n a1 a0 c1 c0 t1 t0 w (Ne.symm hne) h1 h0).mono ?_
  rintro e w1 ⟨rfl, hb⟩
  have hs := (hL0.below hb).s
  clear hL0 h0 h1 hr
  go_wp2_with fail
  refine (is_arg_same n a1 w1).mono ?_
  rintro e w2 ⟨rfl, hb2⟩
  go_wp2
  go_ret
  exact ⟨rfl, hb.trans (hb2.mono hb.size)⟩
end Go.Proofs.YtdbngfeelfgbeaaGreatDoor
