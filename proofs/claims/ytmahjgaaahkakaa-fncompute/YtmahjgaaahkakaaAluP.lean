/- Shifts and bits of registers: plain. -/
import Derived.Test.YtmahjgaaahkakaaPutP
import Derived.Test.YtmahjgaaahkakaaBitP
import Derived.Test.YtmahjgaaahkakaaWidP
namespace Go.Proofs.Ytmahjgaaahkakaa
open Go.RowKit
set_option linter.unusedVariables false

theorem bit_down (v : Int) (l k : Nat) : bitT (v / 2 ^ l) k = bitT v (l + k) := by
  unfold bitT
  rw [dd _ _ (Int.le_of_lt (pow_pos l)), ← Int.pow_add]
/-- The lowest bits, one more. -/
theorem low_step (v : Int) (i : Nat) : v % 2 ^ (i + 1) = v % 2 ^ i + bitT v i * 2 ^ i := by
  have h1 := Int.emod_add_mul_ediv v (2 ^ i)
  have h2 := Int.emod_add_mul_ediv (v / 2 ^ i) 2
  have h3 : (2 : Int) ^ (i + 1) = 2 ^ i * 2 := Int.pow_succ 2 i
  have hb : 0 ≤ v % 2 ^ i + bitT v i * 2 ^ i ∧ v % 2 ^ i + bitT v i * 2 ^ i < 2 ^ (i + 1) := by
    have a0 := Int.emod_nonneg v (Int.ne_of_gt (pow_pos i))
    have a1 := Int.emod_lt_of_pos v (pow_pos i)
    rcases bitT_bd v i with h | h <;> rw [h, h3] <;> omega
  have e : v = (v % 2 ^ i + bitT v i * 2 ^ i) + (v / 2 ^ i / 2) * 2 ^ (i + 1) := by
    have : bitT v i = v / 2 ^ i % 2 := rfl
    rw [this, h3]
    have h4 : 2 ^ i * (v / 2 ^ i) = (v / 2 ^ i % 2) * 2 ^ i + (v / 2 ^ i / 2) * (2 ^ i * 2) := by
      have : v / 2 ^ i / 2 * (2 ^ i * 2) = 2 * (v / 2 ^ i / 2) * 2 ^ i := by
        rw [← Int.mul_assoc, Int.mul_comm _ 2, Int.mul_assoc]
      rw [this, ← Int.add_mul, h2, Int.mul_comm]
    omega
  have := congrArg (· % (2 : Int) ^ (i + 1)) e
  simp only [Int.add_mul_emod_self_right] at this
  rw [this, Int.emod_eq_of_lt hb.1 hb.2]

theorem sgn_far2 (v k : Int) (c : Nat) : sgn (v + k * 2 ^ c) c = sgn v c := by
  unfold sgn
  rw [show v + k * 2 ^ c + 2 ^ (c - 1) = v + 2 ^ (c - 1) + k * 2 ^ c from by omega, Int.add_mul_emod_self_right]
theorem sgn_mod (v : Int) (c : Nat) : sgn (v % 2 ^ c) c = sgn v c := by
  have h := Int.emod_add_mul_ediv v (2 ^ c)
  rw [← sgn_far2 (v % 2 ^ c) (v / 2 ^ c) c, Int.mul_comm, h]
theorem wrap_far (v : Int) : ∃ k : Int, wrap64 v = v + k * 18446744073709551616 :=
  ⟨-((v + 9223372036854775808) / 18446744073709551616), by unfold wrap64; omega⟩
theorem sgn_wrap (v : Int) (c : Nat) (hc : c ≤ 64) : sgn (wrap64 v) c = sgn v c := by
  obtain ⟨k, hk⟩ := wrap_far v
  obtain ⟨d, hd⟩ : ∃ d, 64 = c + d := ⟨64 - c, by omega⟩
  have e : (18446744073709551616 : Int) = 2 ^ d * 2 ^ c := by rw [← Int.pow_add, show d + c = 64 from by omega]; rfl
  rw [hk, e, ← Int.mul_assoc, sgn_far2]
theorem sgn64 (v : Int) : sgn v 64 = wrap64 v := by
  unfold sgn wrap64
  have e1 : (2 : Int) ^ (64 - 1) = 9223372036854775808 := rfl
  have e2 : (2 : Int) ^ 64 = 18446744073709551616 := rfl
  rw [e1, e2]
theorem sgn_in (v : Int) (c : Nat) (h0 : -2 ^ (c - 1) ≤ v) (h1 : v < 2 ^ (c - 1)) (hc : 1 ≤ c) : sgn v c = v := by
  unfold sgn
  obtain ⟨d, rfl⟩ : ∃ d, c = d + 1 := ⟨c - 1, by omega⟩
  simp only [Nat.add_sub_cancel] at *
  rw [Int.pow_succ, Int.emod_eq_of_lt (by omega) (by omega)]
  omega
theorem sgn_sgn (v : Int) (c : Nat) (hc : 1 ≤ c) : sgn (sgn v c) c = sgn v c := by
  have := sgn_bd v c hc
  exact sgn_in _ c this.1 this.2 hc

/-- What is shifted by n among c bits: to the left, to the right without a sign, with it. -/
def shX (kind : Nat) (a : Int) (n c : Nat) : Int := if kind = 0 then a * 2 ^ n else if kind = 1 then a % 2 ^ c / 2 ^ n else sgn a c / 2 ^ n
theorem sh0_bit (a : Int) (n c i : Nat) : bitT (shX 0 a n c) i = if n ≤ i then bitT a (i - n) else 0 := by
  unfold shX
  rw [if_pos rfl]
  split
  · rename_i h
    obtain ⟨j, rfl⟩ : ∃ j, i = n + j := ⟨i - n, by omega⟩
    have := bit_up a 0 n j (Int.le_refl 0) (pow_pos n)
    rw [Int.add_zero] at this
    rw [this, Nat.add_sub_cancel_left]
  · have := bit_far 0 a n i (by omega)
    rw [Int.zero_add] at this
    rw [this]
    unfold bitT
    simp
theorem sh1_bit (a : Int) (n c i : Nat) : bitT (shX 1 a n c) i = if i + n < c then bitT a (i + n) else 0 := by
  unfold shX
  rw [if_neg (by decide), if_pos rfl, bit_down, Nat.add_comm n i]
  split
  · rename_i h
    exact bit_mod a c (i + n) h
  · rename_i h
    have h0 := Int.emod_nonneg a (Int.ne_of_gt (pow_pos c))
    have h1 := Int.emod_lt_of_pos a (pow_pos c)
    have h2 : (2 : Int) ^ c ≤ 2 ^ (i + n) := pow_le (by omega)
    unfold bitT
    rw [Int.ediv_eq_zero_of_lt h0 (by omega)]
    rfl
theorem sh2_bit (a : Int) (n c i : Nat) (hc : 1 ≤ c) : bitT (shX 2 a n c) i = bitT a (min (i + n) (c - 1)) := by
  unfold shX
  rw [if_neg (by decide), if_neg (by decide), bit_down, Nat.add_comm n i, bit_sgn a c (i + n) hc]

/-- Bits of two numbers at once. -/
theorem and_bit (x y i : Nat) : (x &&& y) / 2 ^ i % 2 = (x / 2 ^ i % 2) * (y / 2 ^ i % 2) := by
  have h := Nat.testBit_and x y i
  simp only [Nat.testBit_eq_decide_div_mod_eq] at h
  rcases Nat.mod_two_eq_zero_or_one (x / 2 ^ i) with h1 | h1 <;> rcases Nat.mod_two_eq_zero_or_one (y / 2 ^ i) with h2 | h2 <;> rcases Nat.mod_two_eq_zero_or_one ((x &&& y) / 2 ^ i) with h3 | h3 <;> simp_all
theorem or_bit (x y i : Nat) : (x ||| y) / 2 ^ i % 2 = (x / 2 ^ i % 2) + (y / 2 ^ i % 2) - (x / 2 ^ i % 2) * (y / 2 ^ i % 2) := by
  have h := Nat.testBit_or x y i
  simp only [Nat.testBit_eq_decide_div_mod_eq] at h
  rcases Nat.mod_two_eq_zero_or_one (x / 2 ^ i) with h1 | h1 <;> rcases Nat.mod_two_eq_zero_or_one (y / 2 ^ i) with h2 | h2 <;> rcases Nat.mod_two_eq_zero_or_one ((x ||| y) / 2 ^ i) with h3 | h3 <;> simp_all
theorem xor_bit (x y i : Nat) : (x ^^^ y) / 2 ^ i % 2 = ((x / 2 ^ i % 2) + (y / 2 ^ i % 2)) % 2 := by
  have h := Nat.testBit_xor x y i
  simp only [Nat.testBit_eq_decide_div_mod_eq] at h
  rcases Nat.mod_two_eq_zero_or_one (x / 2 ^ i) with h1 | h1 <;> rcases Nat.mod_two_eq_zero_or_one (y / 2 ^ i) with h2 | h2 <;> rcases Nat.mod_two_eq_zero_or_one ((x ^^^ y) / 2 ^ i) with h3 | h3 <;> simp_all

theorem bit_nat (v : Int) (i : Nat) (h : i < 64) : bitT v i = ((u64 v / 2 ^ i % 2 : Nat) : Int) := by
  rw [← bit_u64 v i h]
  unfold bitT
  simp

theorem ofInt_u (v : Int) : (BitVec.ofInt 64 v).toNat = u64 v := by
  rw [BitVec.toNat_ofInt]
  unfold u64
  rfl
theorem i64_and (a b : Int) : bits .and .i64 a b = wrap64 ((u64 a &&& u64 b : Nat) : Int) := by
  show IntKind.i64.wrap ((BitVec.ofInt 64 a &&& BitVec.ofInt 64 b).toNat : Int) = _
  rw [BitVec.toNat_and, ofInt_u, ofInt_u, IntKind.wrap_i64, wrap64]
theorem i64_or (a b : Int) : bits .or .i64 a b = wrap64 ((u64 a ||| u64 b : Nat) : Int) := by
  show IntKind.i64.wrap ((BitVec.ofInt 64 a ||| BitVec.ofInt 64 b).toNat : Int) = _
  rw [BitVec.toNat_or, ofInt_u, ofInt_u, IntKind.wrap_i64, wrap64]
theorem i64_xor (a b : Int) : bits .xor .i64 a b = wrap64 ((u64 a ^^^ u64 b : Nat) : Int) := by
  show IntKind.i64.wrap ((BitVec.ofInt 64 a ^^^ BitVec.ofInt 64 b).toNat : Int) = _
  rw [BitVec.toNat_xor, ofInt_u, ofInt_u, IntKind.wrap_i64, wrap64]

/-- The three operations bit by bit: 40 and, 39 or, 36 xor. -/
def wiN (op : Nat) (x y : Nat) : Nat := if op = 40 then x &&& y else if op = 39 then x ||| y else x ^^^ y
theorem wiN_lt (op x y : Nat) (hx : x < 18446744073709551616) (hy : y < 18446744073709551616) : wiN op x y < 18446744073709551616 := by
  have h1 : x &&& y < 2 ^ 64 := Nat.and_lt_two_pow _ (by omega)
  have h2 : x ||| y < 2 ^ 64 := Nat.or_lt_two_pow (by omega) (by omega)
  have h3 : x ^^^ y < 2 ^ 64 := Nat.xor_lt_two_pow (by omega) (by omega)
  unfold wiN
  split
  · omega
  · split <;> omega
end Go.Proofs.Ytmahjgaaahkakaa
