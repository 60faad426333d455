/- StackTop: contracts of program and model. -/
import Derived.Test.YthihlbfmpkjhpaaDoorErrC
import Derived.Test.YthihlbfmpkjhpaaDoorSpIn
namespace Go.Proofs.YthihlbfmpkjhpaaDoor
open Go.RowKit
set_option linter.unusedVariables false

theorem stackAtC (t : Int) (w : World) (h0 : 0 ≤ t) (h1 : t ≤ 3) :
    Calls Tryd.prog 10 #[.int .i64 t] w fun e w' => e = .returned (.int .i64 (32768 + 1024 * t)) ∧ w' = w := by
  go_enter Tryd.func10, Tryd.ntmps10
  go_wp2
  go_ret
  exact ⟨rfl, rfl⟩
theorem topC (t : Int) (w : World) (h0 : 0 ≤ t) (h1 : t ≤ 3) :
    Calls Tryd.prog 7 #[.int .i64 t] w fun e w' => e = .returned (.int .i64 (32768 + 1024 * t + 512)) ∧ w' = w := by
  go_enter Tryd.func7, Tryd.ntmps7
  go_wp2
  go_ret
  exact ⟨rfl, rfl⟩

theorem top_bad_impl (t : Int) (w : World) (hL : Laid w) (h : t < 0 ∨ 3 < t) :
    Calls Tryd.prog 5 #[.int .i64 t] w fun e w' => e = .returned (.tuple #[.int .i64 0, .int .i64 4]) ∧ Below w.heap.size w w' := by
  obtain ⟨a0, a1, hL⟩ := hL
  go_enter Tryd.func5, Tryd.ntmps5
  go_wp2_with fail
  refine (inside_no _ t 0 3 w a0 a1 hL h).mono ?_
  rintro e w1 ⟨rfl, rfl⟩
  go_wp2_with fail
  refine (code_range _ _ a0 a1 hL).mono ?_
  rintro e w2 ⟨rfl, hb⟩
  clear hL h
  go_wp2
  go_ret2
  exact ⟨rfl, hb⟩
theorem top_ok_impl (t : Int) (w : World) (h0 : 0 ≤ t) (h1 : t ≤ 3) :
    Calls Tryd.prog 5 #[.int .i64 t] w fun e w' => e = .returned (.tuple #[.int .i64 (32768 + 1024 * t + 512), .int .i64 0]) ∧ w' = w := by
  go_enter Tryd.func5, Tryd.ntmps5
  go_wp2_with fail
  refine (inside_ok _ t 0 3 w h0 h1).mono ?_
  rintro e w1 ⟨rfl, rfl⟩
  go_wp2_with fail
  refine (stackAtC t _ h0 h1).mono ?_
  rintro e w2 ⟨rfl, rfl⟩
  go_wp2
  go_ret2
  exact ⟨rfl, rfl⟩
theorem top_ok_spec (t : Int) (w : World) (h0 : 0 ≤ t) (h1 : t ≤ 3) :
    Calls Tryd.prog 4 #[.int .i64 t] w fun e w' => e = .returned (.tuple #[.int .i64 (32768 + 1024 * t + 512), .int .i64 0]) ∧ w' = w := by
  go_enter Tryd.func4, Tryd.ntmps4
  go_wp2_with fail
  refine (spIn t 0 3 w true (.inl ⟨rfl, h0, h1⟩)).mono ?_
  rintro e w1 ⟨rfl, rfl⟩
  go_wp2_with fail
  refine (topC t _ h0 h1).mono ?_
  rintro e w2 ⟨rfl, rfl⟩
  go_wp2
  go_ret2
  exact ⟨rfl, rfl⟩
theorem top_bad_spec (t : Int) (w : World) (h : t < 0 ∨ 3 < t) :
    Calls Tryd.prog 4 #[.int .i64 t] w fun e w' => e = .returned (.tuple #[.int .i64 0, .int .i64 4]) ∧ w' = w := by
  go_enter Tryd.func4, Tryd.ntmps4
  go_wp2_with fail
  refine (spIn t 0 3 w false (.inr ⟨rfl, h⟩)).mono ?_
  rintro e w1 ⟨rfl, rfl⟩
  go_wp2
  go_ret2
  exact ⟨rfl, rfl⟩
end Go.Proofs.YthihlbfmpkjhpaaDoor
