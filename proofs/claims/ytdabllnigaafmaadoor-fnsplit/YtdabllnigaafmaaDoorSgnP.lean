/- The lowest bits of a number as a number with a sign: plain. -/
import Derived.Test.YtdabllnigaafmaaDoorLitP
namespace Go.Proofs.YtdabllnigaafmaaDoor

theorem pow_pos (n : Nat) : (0 : Int) < 2 ^ n := Int.pow_pos (by decide)

/-- A bit of a number. -/
def bitT (v : Int) (i : Nat) : Int := (v / 2 ^ i) % 2
theorem bitT_bd (v : Int) (i : Nat) : bitT v i = 0 ∨ bitT v i = 1 := by
  unfold bitT; omega

/-- What is a multiple of a higher power leaves a bit as it is. -/
theorem bit_far (a k : Int) (n i : Nat) (h : i < n) : bitT (a + k * 2 ^ n) i = bitT a i := by
  unfold bitT
  obtain ⟨r, rfl⟩ : ∃ r, n = i + (r + 1) := ⟨n - i - 1, by omega⟩
  have e : k * 2 ^ (i + (r + 1)) = (2 * (k * 2 ^ r)) * 2 ^ i := by
    rw [Int.pow_add, Int.pow_succ]
    simp only [Int.mul_comm, Int.mul_left_comm]
  rw [e, Int.add_mul_ediv_right _ _ (Int.ne_of_gt (pow_pos i))]
  omega

theorem bit_u64 (v : Int) (i : Nat) (h : i < 64) : bitT (u64 v : Int) i = bitT v i := by
  have e : (u64 v : Int) = v + (-(v / 18446744073709551616)) * 2 ^ 64 := by
    unfold u64
    omega
  rw [e]
  exact bit_far v _ 64 i h

/-- The lowest c bits of v, with a sign. -/
def sgn (v : Int) (c : Nat) : Int := (v + 2 ^ (c - 1)) % 2 ^ c - 2 ^ (c - 1)

theorem sgn_bd (v : Int) (c : Nat) (h : 1 ≤ c) : -2 ^ (c - 1) ≤ sgn v c ∧ sgn v c < 2 ^ (c - 1) := by
  unfold sgn
  obtain ⟨d, rfl⟩ : ∃ d, c = d + 1 := ⟨c - 1, by omega⟩
  simp only [Nat.add_sub_cancel]
  have h1 := Int.emod_nonneg (v + 2 ^ d) (Int.ne_of_gt (pow_pos (d + 1)))
  have h2 := Int.emod_lt_of_pos (v + 2 ^ d) (pow_pos (d + 1))
  rw [Int.pow_succ] at h1 h2 ⊢
  omega

theorem sgn_far (v : Int) (c : Nat) : ∃ k : Int, sgn v c = v + k * 2 ^ c := by
  refine ⟨-((v + 2 ^ (c - 1)) / 2 ^ c), ?_⟩
  unfold sgn
  have := Int.emod_def (v + 2 ^ (c - 1)) (2 ^ c)
  rw [this, Int.neg_mul, Int.mul_comm (2 ^ c)]
  omega

theorem emod_up (x y : Int) (d : Nat) : (x * 2 ^ d) % (y * 2 ^ d) = (x % y) * 2 ^ d := by
  rw [Int.mul_comm x, Int.mul_comm y, Int.mul_emod_mul_of_pos _ _ (pow_pos d), Int.mul_comm]

/-- By its shifts: up, then down. -/
theorem sgn_shifts (v : Int) (c d : Nat) (h : c + d = 64) (hc : 1 ≤ c) : ((v * 2 ^ d + 9223372036854775808) % 18446744073709551616 - 9223372036854775808) / 2 ^ d = sgn v c := by
  have e1 : (9223372036854775808 : Int) = 2 ^ (c - 1) * 2 ^ d := by
    rw [← Int.pow_add, show c - 1 + d = 63 from by omega]; rfl
  have e2 : (18446744073709551616 : Int) = 2 ^ c * 2 ^ d := by
    rw [← Int.pow_add, h]; rfl
  rw [e1, e2, ← Int.add_mul, emod_up, ← Int.sub_mul, Int.mul_ediv_cancel _ (Int.ne_of_gt (pow_pos d))]
  rfl

theorem div_small (s : Int) (n : Nat) (h0 : -2 ^ n ≤ s) (h1 : s < 2 ^ n) : s / 2 ^ n = if s < 0 then -1 else 0 := by
  split
  · rename_i h
    have := Int.add_mul_ediv_right s 1 (Int.ne_of_gt (pow_pos n))
    have hz : (s + 1 * 2 ^ n) / 2 ^ n = 0 := Int.ediv_eq_zero_of_lt (by omega) (by omega)
    omega
  · exact Int.ediv_eq_zero_of_lt (by omega) h1

theorem pow_le {m n : Nat} (h : m ≤ n) : (2 : Int) ^ m ≤ 2 ^ n := by
  have := Nat.pow_le_pow_right (show 0 < 2 by decide) h
  exact_mod_cast this

theorem bit_sgn (v : Int) (c i : Nat) (hc : 1 ≤ c) : bitT (sgn v c) i = bitT v (min i (c - 1)) := by
  obtain ⟨k, hk⟩ := sgn_far v c
  by_cases hi : i < c
  · rw [hk, bit_far v k c i hi, Nat.min_eq_left (by omega)]
  · have hb := sgn_bd v c hc
    have hp := pow_le (show c - 1 ≤ i by omega)
    have h1 := div_small (sgn v c) i (by omega) (by omega)
    have h2 := div_small (sgn v c) (c - 1) hb.1 hb.2
    rw [Nat.min_eq_right (by omega), ← bit_far v k c (c - 1) (by omega), ← hk]
    unfold bitT
    rw [h1, h2]

/-- The model's sum, from the highest bit down. -/
theorem half_step (s k : Nat) : s / 2 ^ k = 2 * (s / 2 ^ (k + 1)) + (s / 2 ^ k) % 2 := by
  rw [Nat.pow_succ, ← Nat.div_div_eq_div_mul]
  omega

/-- Bits of the 64 of the signed number. -/
def sbits (v : Int) (c : Nat) : Nat := u64 (sgn v c)
theorem sbits_step (v : Int) (c k : Nat) (hc : 1 ≤ c) (hk : k < 64) : ((sbits v c / 2 ^ k : Nat) : Int) = 2 * ((sbits v c / 2 ^ (k + 1) : Nat) : Int) + bitT v (min k (c - 1)) := by
  rw [← bit_sgn v c k hc, ← bit_u64 (sgn v c) k hk]
  have := half_step (sbits v c) k
  unfold bitT
  unfold sbits at *
  rw [show ((u64 (sgn v c) : Int) / 2 ^ k) = ((u64 (sgn v c) / 2 ^ k : Nat) : Int) from by simp]
  omega
theorem sbits_top (v : Int) (c : Nat) : sbits v c / 2 ^ 64 = 0 := by
  have := u64_lt (sgn v c)
  unfold sbits
  exact Nat.div_eq_of_lt this
theorem sbits_half (v : Int) (c k : Nat) : sbits v c / 2 ^ (k + 1) ≤ 9223372036854775807 := by
  have := u64_lt (sgn v c)
  unfold sbits
  have h1 : u64 (sgn v c) / 2 ^ (k + 1) ≤ u64 (sgn v c) / 2 := by
    rw [Nat.pow_succ, Nat.mul_comm, ← Nat.div_div_eq_div_mul]
    exact Nat.div_le_self _ _
  omega
theorem sbits_back (v : Int) (c : Nat) (hc : 1 ≤ c) (hc2 : c ≤ 64) : IntKind.i64.wrap (sbits v c : Int) = sgn v c := by
  have hb := sgn_bd v c hc
  have hp := pow_le (show c - 1 ≤ 63 by omega)
  have hp' : (2 : Int) ^ 63 = 9223372036854775808 := rfl
  rw [IntKind.wrap_i64]
  unfold sbits u64
  omega
end Go.Proofs.YtdabllnigaafmaaDoor
