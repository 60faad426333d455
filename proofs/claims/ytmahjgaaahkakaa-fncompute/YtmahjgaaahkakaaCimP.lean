/- What the program's operations make is what the model's make: plain. -/
import Derived.Test.YtmahjgaaahkakaaCmpP
namespace Go.Proofs.Ytmahjgaaahkakaa
open Go.RowKit
set_option linter.unusedVariables false

theorem msk6 (b : Int) : bits .and .i64 b 63 = (sh6 b : Int) := by
  have h := i64_and_mask b 6 (by decide)
  rw [show ((2 : Int) ^ 6 - 1) = 63 from rfl] at h
  rw [h]
  unfold sh6
  rw [show (2 : Int) ^ 6 = 64 from rfl]; omega
theorem msk5 (b : Int) : bits .and .i64 b 31 = (sh5 b : Int) := by
  have h := i64_and_mask b 5 (by decide)
  rw [show ((2 : Int) ^ 5 - 1) = 31 from rfl] at h
  rw [h]
  unfold sh5
  rw [show (2 : Int) ^ 5 = 32 from rfl]; omega
theorem u64_mod (a : Int) : (u64 a : Int) = a % 2 ^ 64 := by
  unfold u64
  rw [show (2 : Int) ^ 64 = 18446744073709551616 from rfl]; omega
theorem e33 (a : Int) (n : Nat) : wrap64 (a * 2 ^ n) = sgn (shX 0 a n 64) 64 := by rw [sgn64]; rfl
theorem e37 (a : Int) (n : Nat) : wrap64 ((u64 a : Int) / 2 ^ n) = sgn (shX 1 a n 64) 64 := by rw [sgn64, u64_mod]; rfl
theorem div_le (a : Int) (n k : Nat) (h0 : -2 ^ k ≤ a) (h1 : a < 2 ^ k) : -2 ^ k ≤ a / 2 ^ n ∧ a / 2 ^ n < 2 ^ k := by
  have hp := pow_pos n
  have hk := pow_pos k
  constructor
  · rw [Int.le_ediv_iff_mul_le hp]
    have h2 : 2 ^ k * (1 : Int) ≤ 2 ^ k * 2 ^ n := Int.mul_le_mul_of_nonneg_left (by omega) (Int.le_of_lt hk)
    rw [Int.neg_mul]; omega
  · rw [Int.ediv_lt_iff_lt_mul hp]
    have h2 : 2 ^ k * (1 : Int) ≤ 2 ^ k * 2 ^ n := Int.mul_le_mul_of_nonneg_left (by omega) (Int.le_of_lt hk)
    omega
theorem e38 (a : Int) (n : Nat) (h : In64 a) : a / 2 ^ n = sgn (shX 2 a n 64) 64 := by
  unfold In64 at h
  have h63 : (2 : Int) ^ (64 - 1) = 9223372036854775808 := rfl
  have hs : sgn a 64 = a := sgn_in a 64 (by rw [h63]; omega) (by rw [h63]; omega) (by decide)
  have hd := div_le a n 63 (by rw [show (2 : Int) ^ 63 = 9223372036854775808 from rfl]; omega) (by rw [show (2 : Int) ^ 63 = 9223372036854775808 from rfl]; omega)
  unfold shX
  rw [if_neg (by decide), if_neg (by decide), hs, sgn_in _ 64 hd.1 hd.2 (by decide)]
theorem e47 (a : Int) (n : Nat) : wrap32 (wrap32 a * 2 ^ n) = sgn (shX 0 a n 32) 32 := by
  rw [wrap32_sgn, wrap32_sgn]
  obtain ⟨k, hk⟩ := sgn_far a 32
  rw [hk, Int.add_mul, Int.mul_assoc, Int.mul_comm (2 ^ 32), ← Int.mul_assoc, sgn_far2]
  rfl
theorem e48 (a : Int) (n : Nat) : wrap32 (a % 4294967296 / 2 ^ n) = sgn (shX 1 a n 32) 32 := by
  rw [wrap32_sgn]; rfl
theorem e49 (a : Int) (n : Nat) : wrap32 a / 2 ^ n = sgn (shX 2 a n 32) 32 := by
  rw [wrap32_sgn]
  have hb := sgn_bd a 32 (by decide)
  have hd := div_le (sgn a 32) n 31 hb.1 hb.2
  unfold shX
  rw [if_neg (by decide), if_neg (by decide), sgn_in _ 32 hd.1 hd.2 (by decide)]
theorem u64_far (a : Int) : ∃ k : Int, (u64 a : Int) = a + 18446744073709551616 * k := ⟨-(a / 18446744073709551616), by unfold u64; omega⟩
theorem wrap_add (x k : Int) : wrap64 (x + 18446744073709551616 * k) = wrap64 x := by unfold wrap64; omega
theorem wrap_mod (x : Int) : wrap64 (x % 18446744073709551616) = wrap64 x := by unfold wrap64; omega
theorem e50 (a b : Int) : wrap64 (a * b) = loU a b := by
  unfold loU
  rw [Int.natCast_emod, Int.natCast_mul]
  obtain ⟨k, hk⟩ := u64_far a
  obtain ⟨l, hl⟩ := u64_far b
  have e : (u64 a : Int) * (u64 b : Int) = a * b + 18446744073709551616 * (k * b + a * l + 18446744073709551616 * (k * l)) := by
    rw [hk, hl]
    have := upper_far a b k l
    simp only [Int.add_mul, Int.mul_add]
    have h1 : a * (18446744073709551616 * l) = 18446744073709551616 * (a * l) := Int.mul_left_comm _ _ _
    have h2 : 18446744073709551616 * k * b = 18446744073709551616 * (k * b) := Int.mul_assoc _ _ _
    have h3 : 18446744073709551616 * k * (18446744073709551616 * l) = 18446744073709551616 * (18446744073709551616 * (k * l)) := by
      rw [Int.mul_assoc, Int.mul_left_comm k]
    omega
  rw [show ((18446744073709551616 : Nat) : Int) = 18446744073709551616 from rfl, wrap_mod, e, wrap_add]
/-- v where a is below 0, else 0. -/
def ifN (a v : Int) : Int := if a < 0 then v else 0
def ifO (a : Int) : Int := if a < 0 then 1 else 0
theorem ifN_eq (a v : Int) : ifN a v = ifO a * v := by unfold ifN ifO; split <;> simp
theorem u64_o (a : Int) (h : In64 a) : (u64 a : Int) = a + 18446744073709551616 * ifO a := by
  unfold In64 at h
  unfold u64 ifO
  split <;> omega
theorem e52 (a b : Int) (ha : In64 a) : wrap64 (upU a b - ifN a b) = upSU a b := by
  unfold upU upSU
  rw [Int.natCast_ediv, Int.natCast_mul, show ((18446744073709551616 : Nat) : Int) = 18446744073709551616 from rfl]
  have e := upper_far a (u64 b : Int) (ifO a) 0
  rw [Int.mul_zero, Int.add_zero, ← u64_o a ha] at e
  obtain ⟨l, hl⟩ := u64_far b
  have e2 : ifO a * (u64 b : Int) = ifN a b + 18446744073709551616 * (ifO a * l) := by
    rw [hl, Int.mul_add, ifN_eq, Int.mul_left_comm]
  rw [e, e2]
  generalize a * (u64 b : Int) / 18446744073709551616 = X
  generalize ifN a b = Y
  generalize ifO a * l = Z
  simp only [Int.zero_mul, Int.mul_zero]
  unfold wrap64; omega
theorem e51 (a b : Int) (ha : In64 a) (hb : In64 b) : wrap64 (upSU a b - ifN b a) = upS a b := by
  unfold upSU upS
  have e := upper_far a b 0 (ifO b)
  rw [Int.mul_zero, Int.add_zero, ← u64_o b hb] at e
  rw [e, ifN_eq]
  generalize a * b / 18446744073709551616 = X
  generalize ifO b * a = Y
  simp only [Int.zero_mul, Int.mul_zero]
  unfold wrap64; omega
end Go.Proofs.Ytmahjgaaahkakaa
