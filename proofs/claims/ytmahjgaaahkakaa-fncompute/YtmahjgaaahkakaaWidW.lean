/- The upper halves with signs, made of that without: plain; plus: contract. -/
import Derived.Test.YtmahjgaaahkakaaCikZ
namespace Go.Proofs.Ytmahjgaaahkakaa
open Go.RowKit
set_option linter.unusedVariables false

theorem plusC (x y : Int) (w : World) :
    Calls Try.prog 18 #[.int .i64 x, .int .i64 y] w fun e w' => e = .returned (.int .i64 (wrap64 (x + y))) ∧ w' = w := by
  go_enter Try.func18, Try.ntmps18
  go_wp2
  go_ret
  exact ⟨ret_int' (by simp only [IntKind.wrap_u64, wrap64]; omega), rfl⟩
theorem hlf1 (a b : Int) (ha : In64 a) (h : a < 0) : wrap64 (upU a b + wrap64 (-b)) = upSU a b := by
  rw [← e52 a b ha]
  unfold ifN
  rw [if_pos h]
  unfold wrap64; omega
theorem hlf0 (a b : Int) (ha : In64 a) (h : ¬ a < 0) : upSU a b = upU a b := by
  rw [← e52 a b ha]
  unfold ifN
  rw [if_neg h, Int.sub_zero]
  exact up_in a b
theorem ful1 (a b : Int) (ha : In64 a) (hb : In64 b) (h : b < 0) : wrap64 (upSU a b + wrap64 (-a)) = upS a b := by
  rw [← e51 a b ha hb]
  unfold ifN
  rw [if_pos h]
  unfold wrap64; omega
theorem ful0 (a b : Int) (ha : In64 a) (hb : In64 b) (h : ¬ b < 0) : upS a b = upSU a b := by
  rw [← e51 a b ha hb]
  unfold ifN
  rw [if_neg h, Int.sub_zero]
  unfold upSU wrap64; omega
theorem lo_mul (a b : Int) : wrap64 (IntKind.u64.wrap ((u64 a : Int) * (u64 b : Int))) = loU a b := by
  unfold loU
  rw [IntKind.wrap_u64, ← Int.natCast_mul]
  rw [show ((18446744073709551616 : Int)) = ((18446744073709551616 : Nat) : Int) from rfl, ← Int.natCast_emod]
theorem lo_in (a b : Int) : wrap64 (loU a b) = loU a b := by unfold loU wrap64; omega
end Go.Proofs.Ytmahjgaaahkakaa
