/- The program's checks of ranges and the codes of their errors: contracts. -/
import Derived.Test.YtkcgckdomjpelaaDoorErrL
namespace Go.Proofs.YtkcgckdomjpelaaDoor
open Go.RowKit
set_option linter.unusedVariables false

/-- inside: nil, or the error of the range. -/
theorem inside_ok (n : ByteArray) (v low high : Int) (w : World) (h0 : low ≤ v) (h1 : v ≤ high) :
    Calls Tryd.prog 13 #[.string n, .int .i64 v, .int .i64 low, .int .i64 high] w fun e w' => e = .returned .nilIface ∧ w' = w := by
  go_enter Tryd.func13, Tryd.ntmps13
  go_wp2
  go_ret
  exact ⟨rfl, rfl⟩

theorem inside_no (n : ByteArray) (v low high : Int) (w : World) (a0 a1 : Addr) (hL : LaidAt w a0 a1) (h : v < low ∨ high < v) :
    Calls Tryd.prog 13 #[.string n, .int .i64 v, .int .i64 low, .int .i64 high] w fun e w' => e = .returned (argErr n a0) ∧ w' = w := by
  have hr := hL.r
  clear hL
  by_cases h0 : v < low
  · go_enter Tryd.func13, Tryd.ntmps13
    go_wp2
    go_ret
    exact ⟨rfl, rfl⟩
  · have h1 : high < v := by omega
    go_enter Tryd.func13, Tryd.ntmps13
    go_wp2
    go_ret
    exact ⟨rfl, rfl⟩

/-- codeFrom: 0, 4 or 8. -/
theorem code_nil (w : World) :
    Calls Tryd.prog 14 #[.nilIface] w fun e w' => e = .returned (.int .i64 0) ∧ w' = w := by
  go_enter Tryd.func14, Tryd.ntmps14
  go_wp2
  go_ret
  exact ⟨rfl, rfl⟩

set_option maxHeartbeats 1000000 in
theorem code_range (n : ByteArray) (w : World) (a0 a1 : Addr) (hL : LaidAt w a0 a1) :
    Calls Tryd.prog 14 #[argErr n a0] w fun e w' => e = .returned (.int .i64 4) ∧ Below w.heap.size w w' := by
  have hr := hL.r
  clear hL
  go_enter Tryd.func14, Tryd.ntmps14
  go_wp2_with fail
  refine (is_arg_same n a0 w).mono ?_
  rintro e w1 ⟨rfl, hb⟩
  go_wp2
  go_ret
  exact ⟨rfl, hb⟩

set_option maxHeartbeats 1000000 in
theorem code_size (n : ByteArray) (w : World) (a0 a1 : Addr) (hL : LaidAt w a0 a1) :
    Calls Tryd.prog 14 #[argErr n a1] w fun e w' => e = .returned (.int .i64 8) ∧ Below w.heap.size w w' := by
  have hL0 := hL
  obtain ⟨c0, t0, h0⟩ := hL.hr
  obtain ⟨c1, t1, h1⟩ := hL.hs
  have hne := hL.ne
  have hr := hL.r
  clear hL
  go_enter Tryd.func14, Tryd.ntmps14
  go_wp2_with fail
  refine (is_arg_other n a1 a0 c1 c0 t1 t0 w (Ne.symm hne) h1 h0).mono ?_
  rintro e w1 ⟨rfl, hb⟩
  have hs := (hL0.below hb).s
  clear hL0 h0 h1 hr
  go_wp2_with fail
  refine (is_arg_same n a1 w1).mono ?_
  rintro e w2 ⟨rfl, hb2⟩
  go_wp2
  go_ret
  exact ⟨rfl, hb.trans (hb2.mono hb.size)⟩
end Go.Proofs.YtkcgckdomjpelaaDoor
