/- Products and quotients bit by bit: plain. -/
import Derived.WalkKit
namespace Go.Proofs.Ytmahjgaaahkakaa
set_option linter.unusedVariables false

/-- A power of 2 and one more bit. -/
theorem halve (s k : Nat) : s / 2 ^ k = 2 * (s / 2 ^ (k + 1)) + s / 2 ^ k % 2 := by
  rw [Nat.pow_succ, ← Nat.div_div_eq_div_mul]
  omega

theorem top64 (b : Nat) (hb : b < 18446744073709551616) : b / 2 ^ 64 = 0 := Nat.div_eq_of_lt hb

/-- The product of a with the bits of b from k on. -/
def wideP (a b k : Nat) : Nat := a * (b / 2 ^ k)
theorem wide_top (a b : Nat) (hb : b < 18446744073709551616) : wideP a b 64 = 0 := by
  unfold wideP; rw [top64 b hb, Nat.mul_zero]
theorem wide_end (a b : Nat) : wideP a b 0 = a * b := by
  unfold wideP; rw [Nat.pow_zero, Nat.div_one]
theorem wide_step (a b k : Nat) : wideP a b k = 2 * wideP a b (k + 1) + a * (b / 2 ^ k % 2) := by
  unfold wideP
  rw [halve b k, Nat.mul_add, Nat.mul_left_comm]
  congr 2
  omega
theorem mul_bd (a b : Nat) (ha : a < 18446744073709551616) (hb : b < 18446744073709551616) : a * b ≤ 340282366920938463426481119284349108225 := by
  have := Nat.mul_le_mul (show a ≤ 18446744073709551615 by omega) (show b ≤ 18446744073709551615 by omega)
  simpa using this
theorem wide_bd (a b k : Nat) (ha : a < 18446744073709551616) (hb : b < 18446744073709551616) : wideP a b k ≤ 340282366920938463426481119284349108225 :=
  mul_bd a _ ha (Nat.lt_of_le_of_lt (Nat.div_le_self _ _) hb)

/-- A round at a bit that is 0, and at one that is 1. -/
theorem wide_round0 (P Q a x : Nat) (h : Q = 2 * P + a * x) (hx : x = 0) (hQ : Q ≤ 340282366920938463426481119284349108225) :
    2 * (P / 18446744073709551616) + P % 18446744073709551616 / 9223372036854775808 = Q / 18446744073709551616 ∧
    2 * (P % 18446744073709551616) % 18446744073709551616 = Q % 18446744073709551616 ∧ Q / 18446744073709551616 ≤ 18446744073709551615 := by
  subst hx; omega
theorem wide_round1 (P Q a x : Nat) (h : Q = 2 * P + a * x) (hx : x = 1) (ha : a < 18446744073709551616) (hQ : Q ≤ 340282366920938463426481119284349108225) :
    2 * (P / 18446744073709551616) + P % 18446744073709551616 / 9223372036854775808 + (if (2 * (P % 18446744073709551616) % 18446744073709551616 + a) % 18446744073709551616 < 2 * (P % 18446744073709551616) % 18446744073709551616 then 1 else 0) = Q / 18446744073709551616 ∧
    (2 * (P % 18446744073709551616) % 18446744073709551616 + a) % 18446744073709551616 = Q % 18446744073709551616 ∧ Q / 18446744073709551616 ≤ 18446744073709551615 := by
  subst hx; split <;> omega

/-- A round of a division. -/
theorem div_take (A b x : Nat) (hb : 0 < b) (hx : x ≤ 1) (h : b ≤ 2 * (A % b) + x) :
    (2 * A + x) / b = 2 * (A / b) + 1 ∧ (2 * A + x) % b = 2 * (A % b) + x - b := by
  have e := Nat.div_add_mod A b
  have hl := Nat.mod_lt A hb
  have := (Nat.div_mod_unique hb (a := 2 * A + x) (c := 2 * (A % b) + x - b) (d := 2 * (A / b) + 1)).2 ⟨by
    rw [Nat.mul_add, Nat.mul_left_comm]; omega, by omega⟩
  exact this
theorem div_leave (A b x : Nat) (hb : 0 < b) (h : 2 * (A % b) + x < b) :
    (2 * A + x) / b = 2 * (A / b) ∧ (2 * A + x) % b = 2 * (A % b) + x := by
  have e := Nat.div_add_mod A b
  have := (Nat.div_mod_unique hb (a := 2 * A + x) (c := 2 * (A % b) + x) (d := 2 * (A / b))).2 ⟨by
    rw [Nat.mul_left_comm]; omega, h⟩
  exact this
theorem div_first (b : Nat) (hb : 0 < b) : 0 / b = 0 ∧ 0 % b = 0 := ⟨Nat.zero_div b, Nat.zero_mod b⟩

/-- Division with signs, out of the sizes. -/
theorem tdiv_pp (x y : Nat) : (x : Int).tdiv (y : Int) = ((x / y : Nat) : Int) := (Int.ofNat_tdiv x y).symm
theorem tmod_pp (x y : Nat) : (x : Int).tmod (y : Int) = ((x % y : Nat) : Int) := (Int.ofNat_tmod x y).symm
theorem tdiv_np (x y : Nat) : (-(x : Int)).tdiv (y : Int) = -((x / y : Nat) : Int) := by rw [Int.neg_tdiv, tdiv_pp]
theorem tdiv_pn (x y : Nat) : (x : Int).tdiv (-(y : Int)) = -((x / y : Nat) : Int) := by rw [Int.tdiv_neg, tdiv_pp]
theorem tdiv_nn (x y : Nat) : (-(x : Int)).tdiv (-(y : Int)) = ((x / y : Nat) : Int) := by rw [Int.neg_tdiv, tdiv_pn, Int.neg_neg]
theorem tmod_np (x y : Nat) : (-(x : Int)).tmod (y : Int) = -((x % y : Nat) : Int) := by rw [Int.neg_tmod, tmod_pp]
theorem tmod_pn (x y : Nat) : (x : Int).tmod (-(y : Int)) = ((x % y : Nat) : Int) := by rw [Int.tmod_neg, tmod_pp]
theorem tmod_nn (x y : Nat) : (-(x : Int)).tmod (-(y : Int)) = -((x % y : Nat) : Int) := by rw [Int.tmod_neg, tmod_np]

/-- The upper half of a product with signs, out of that of other factors that are the same but for a multiple of 2 to the 64. -/
theorem upper_far (x y s t : Int) : ((x + 18446744073709551616 * s) * (y + 18446744073709551616 * t)) / 18446744073709551616 = x * y / 18446744073709551616 + (s * y + t * x + 18446744073709551616 * (s * t)) := by
  have e : (x + 18446744073709551616 * s) * (y + 18446744073709551616 * t) = x * y + (s * y + t * x + 18446744073709551616 * (s * t)) * 18446744073709551616 := by
    rw [Int.add_mul, Int.mul_add, Int.mul_add, Int.mul_assoc 18446744073709551616 s y, Int.mul_assoc 18446744073709551616 s, Int.mul_left_comm s 18446744073709551616 t, Int.mul_left_comm x 18446744073709551616 t, Int.mul_comm x t]
    omega
  rw [e, Int.add_mul_ediv_right _ _ (by decide)]
end Go.Proofs.Ytmahjgaaahkakaa
