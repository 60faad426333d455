/- WordOf and BelowU: contracts. -/
import Derived.Test.YtmahjgaaahkakaaSgnB
namespace Go.Proofs.Ytmahjgaaahkakaa
open Go.RowKit
set_option linter.unusedVariables false

theorem wrap32_sgn (a : Int) : wrap32 a = sgn a 32 := by
  unfold wrap32 sgn
  have e : (2 : Int) ^ (32 - 1) = 2147483648 := by decide
  have e2 : (2 : Int) ^ 32 = 4294967296 := by decide
  rw [e, e2]
theorem sgn32_bd (a : Int) : -2147483648 ≤ sgn a 32 ∧ sgn a 32 ≤ 2147483647 := by
  rw [← wrap32_sgn]; unfold wrap32; omega

theorem implWord (a : Int) (w : World) :
    Calls Try.prog 24 #[.int .i64 a] w fun e w' => e = .returned (.int .i64 (sgn a 32)) ∧ w' = w := by
  rw [← wrap32_sgn]
  have ew : wrap64 (wrap32 a) = wrap32 a := by unfold wrap64 wrap32; omega
  go_enter Try.func24, Try.ntmps24
  go_wp2
  go_ret
  exact ⟨congrArg (fun x => Ending.returned (.int .i64 x)) ew, rfl⟩
theorem specWordOf (a : Int) (w : World) :
    Calls Try.prog 25 #[.int .i64 a] w fun e w' => e = .returned (.int .i64 (sgn a 32)) ∧ w' = w := by
  go_enter Try.func25, Try.ntmps25
  go_wp2_with fail
  refine (specSign0 a 32 _ (by decide) (by decide)).mono ?_
  rintro e w1 ⟨rfl, rfl⟩
  go_wp2
  go_ret
  exact ⟨rfl, rfl⟩

/-- Whether a is below b as numbers without a sign. -/
def belB (a b : Int) : Bool := decide (u64 a < u64 b)
theorem belC (a b : Int) : decide ((u64 a : Int) < (u64 b : Int)) = belB a b := by
  unfold belB; simp
theorem implBelow (a b : Int) (w : World) :
    Calls Try.prog 21 #[.int .i64 a, .int .i64 b] w fun e w' => e = .returned (.bool (belB a b)) ∧ w' = w := by
  have ea := wrap_u64 a
  have eb := wrap_u64 b
  have H : Hid (decide ((u64 a : Int) < (u64 b : Int)) = belB a b) := belC a b
  generalize belB a b = r at *
  generalize u64 a = x at *
  generalize u64 b = y at *
  go_enter Try.func21, Try.ntmps21
  go_wp2
  go_ret
  exact ⟨by rw [← H.out]; simp, rfl⟩
theorem specBelow (a b : Int) (w : World) :
    Calls Try.prog 28 #[.int .i64 a, .int .i64 b] w fun e w' => e = .returned (.bool (belB a b)) ∧ w' = w := by
  have ea := wrap_u64 a
  have eb := wrap_u64 b
  have H : Hid (decide ((u64 a : Int) < (u64 b : Int)) = belB a b) := belC a b
  generalize belB a b = r at *
  generalize u64 a = x at *
  generalize u64 b = y at *
  go_enter Try.func28, Try.ntmps28
  go_wp2
  go_ret
  exact ⟨by rw [← H.out]; simp, rfl⟩
end Go.Proofs.Ytmahjgaaahkakaa
