/- Quotient times divisor and the rest are what was divided: plain. -/
import Derived.Test.YtmahjgaaahkakaaWidW
namespace Go.Proofs.Ytmahjgaaahkakaa
open Go.RowKit
set_option linter.unusedVariables false

theorem u64_wrap (n : Nat) (h : n < 18446744073709551616) : u64 (wrap64 (n : Int)) = n := by unfold u64 wrap64; omega
theorem wrap_u (a : Int) (h : In64 a) : wrap64 (u64 a : Int) = a := by unfold In64 at h; unfold u64 wrap64; omega
theorem u64_pos (b : Int) (h : In64 b) (h0 : b ≠ 0) : 0 < u64 b := by unfold In64 at h; unfold u64; omega
theorem qu_of (a b : Int) (h : 0 < u64 b) : quU a b = wrap64 ((u64 a / u64 b : Nat) : Int) := by unfold quU; rw [if_neg (by omega)]
theorem re_of (a b : Int) (h : 0 < u64 b) : reU a b = wrap64 ((u64 a % u64 b : Nat) : Int) := by unfold reU; rw [if_neg (by omega)]
theorem qu_u (a b : Int) (h : 0 < u64 b) : u64 (quU a b) = u64 a / u64 b := by
  rw [qu_of a b h]
  exact u64_wrap _ (Nat.lt_of_le_of_lt (Nat.div_le_self _ _) (u64_lt a))
theorem re_u (a b : Int) (h : 0 < u64 b) : u64 (reU a b) = u64 a % u64 b := by
  rw [re_of a b h]
  exact u64_wrap _ (Nat.lt_of_le_of_lt (Nat.mod_le _ _) (u64_lt a))
theorem qu_hi (a b : Int) (h : 0 < u64 b) : upU (quU a b) b = 0 := by
  unfold upU
  rw [qu_u a b h]
  have h1 := Nat.div_mul_le_self (u64 a) (u64 b)
  have h2 := u64_lt a
  rw [Nat.div_eq_of_lt (by omega)]
  unfold wrap64; omega
theorem qu_lo (a b : Int) (ha : In64 a) (h : 0 < u64 b) : wrap64 (loU (quU a b) b + reU a b) = a := by
  unfold loU
  rw [qu_u a b h, re_of a b h]
  have h1 := Nat.div_mul_le_self (u64 a) (u64 b)
  have h2 := u64_lt a
  have h3 := Nat.div_add_mod (u64 a) (u64 b)
  rw [Nat.mul_comm] at h3
  rw [Nat.mod_eq_of_lt (by omega)]
  have h4 := wrap_u a ha
  generalize u64 a / u64 b * u64 b = P at *
  generalize u64 a % u64 b = R at *
  rw [← h3] at h4
  rw [← h4]
  unfold wrap64; omega
theorem re_bel (a b : Int) (h : 0 < u64 b) : belB (reU a b) b = true := by
  unfold belB
  rw [re_u a b h]
  exact decide_eq_true (Nat.mod_lt _ h)
theorem wrap_mul (x b : Int) : wrap64 (wrap64 x * b) = wrap64 (x * b) := by
  obtain ⟨k, hk⟩ := wrap_far x
  rw [hk, Int.add_mul, Int.mul_assoc, Int.mul_comm 18446744073709551616 b, ← Int.mul_assoc, Int.mul_comm (k * b), wrap_add]
theorem wrap_plus (x y : Int) : wrap64 (wrap64 x + y) = wrap64 (x + y) := by unfold wrap64; omega
theorem in_wrap (a : Int) (h : In64 a) : wrap64 a = a := by unfold In64 at h; unfold wrap64; omega
theorem qs_lo (a b : Int) (ha : In64 a) (h : b ≠ 0) : wrap64 (wrap64 (IntKind.u64.wrap ((u64 (quS a b) : Int) * (u64 b : Int))) + reS a b) = a := by
  rw [lo_mul, ← e50]
  unfold quS reS
  rw [if_neg h, if_neg h, wrap_mul, wrap_plus]
  have := Int.tdiv_mul_add_tmod a b
  rw [this]
  exact in_wrap a ha
theorem rs_sign (a b : Int) (h : b ≠ 0) : reS a b = 0 ∨ (reS a b < 0 ∧ a < 0) ∨ (0 ≤ reS a b ∧ 0 ≤ a) := by
  unfold reS
  rw [if_neg h, tmod_abs]
  split <;> omega
theorem qu_0 (a : Int) : quU a 0 = -1 := by unfold quU; rw [if_pos (by unfold u64; omega)]
theorem re_0 (a : Int) (h : In64 a) : reU a 0 = a := by unfold reU; rw [if_pos (by unfold u64; omega)]; exact wrap_u a h
theorem qs_0 (a : Int) : quS a 0 = -1 := by unfold quS; rw [if_pos rfl]
theorem rs_0 (a : Int) : reS a 0 = a := by unfold reS; rw [if_pos rfl]
end Go.Proofs.Ytmahjgaaahkakaa
