/- Branches that are one another's contrary, and the highest bit turned: plain. -/
import Derived.Test.YtmahjgaaahkakaaTknB
import Derived.Test.YtmahjgaaahkakaaAluP
import Derived.Test.YtmahjgaaahkakaaIn64
namespace Go.Proofs.Ytmahjgaaahkakaa
open Go.RowKit
set_option linter.unusedVariables false

theorem xtop (x : Nat) (h : x < 18446744073709551616) : x ^^^ 9223372036854775808 = if x < 9223372036854775808 then x + 9223372036854775808 else x - 9223372036854775808 := by
  have h1 := @Nat.xor_div_two_pow x 9223372036854775808 63
  have h2 := @Nat.xor_mod_two_pow x 9223372036854775808 63
  have e : (2 : Nat) ^ 63 = 9223372036854775808 := rfl
  rw [e] at h1 h2
  rw [show 9223372036854775808 / 9223372036854775808 = 1 from rfl] at h1
  rw [show 9223372036854775808 % 9223372036854775808 = 0 from rfl, Nat.xor_zero] at h2
  by_cases hx : x < 9223372036854775808
  · rw [if_pos hx]
    rw [show x / 9223372036854775808 = 0 from by omega, show (0 ^^^ 1 : Nat) = 1 from rfl] at h1
    omega
  · rw [if_neg hx]
    rw [show x / 9223372036854775808 = 1 from by omega, show (1 ^^^ 1 : Nat) = 0 from rfl] at h1
    omega
def flipT (a : Int) : Int := if a < 0 then a + 9223372036854775808 else a - 9223372036854775808
theorem flip_eq (a : Int) (h : In64 a) : bits .xor .i64 a (-9223372036854775808) = flipT a := by
  have hu : u64 (-9223372036854775808) = 9223372036854775808 := by unfold u64; omega
  rw [i64_xor, hu, xtop _ (u64_lt a)]
  unfold In64 at h
  unfold flipT
  by_cases hn : a < 0
  · have h1 : ¬ u64 a < 9223372036854775808 := by unfold u64; omega
    rw [if_pos hn, if_neg h1]
    unfold u64 wrap64; omega
  · have h1 : u64 a < 9223372036854775808 := by unfold u64; omega
    rw [if_neg hn, if_pos h1]
    unfold u64 wrap64; omega
theorem bel_flip (a b : Int) (ha : In64 a) (hb : In64 b) : takB 7 (flipT a) (flipT b) = belB a b := by
  unfold In64 at ha hb
  have e : takB 7 (flipT a) (flipT b) = decide (flipT a < flipT b) := by simp [takB]
  rw [e]
  unfold belB flipT
  rw [Bool.eq_iff_iff, decide_eq_true_iff, decide_eq_true_iff]
  unfold u64
  split <;> split <;> omega
theorem con5 (a b : Int) : takB 6 a b = !takB 5 a b := by simp [takB]; rfl
theorem con7 (a b : Int) : takB 8 a b = !takB 7 a b := by
  simp only [takB]
  rw [Bool.eq_iff_iff]
  simp <;> omega
theorem con9 (a b : Int) : takB 10 a b = !takB 9 a b := by simp [takB]
theorem in64_flip (a : Int) (h : In64 a) : In64 (flipT a) := by unfold In64 at *; unfold flipT; split <;> omega
end Go.Proofs.Ytmahjgaaahkakaa
