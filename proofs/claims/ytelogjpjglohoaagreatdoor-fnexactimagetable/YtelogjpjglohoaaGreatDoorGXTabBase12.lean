/- Bits of numbers with a sign: plain. Numbers as bytes: plain. The lowest bits of a number as a number with a sign: plain. The numbers of the forms: plain. -/
import Derived.WalkKit
import Derived.Laws.BitsAllLaws
import Derived.IntWalk
namespace Go.Proofs.YtelogjpjglohoaaGreatDoor

theorem i64_and_mask (a : Int) (n : Nat) (hn : n ≤ 62) : bits .and .i64 a (2 ^ n - 1) = a % 2 ^ n := by
  have hp : (2 : Nat) ^ n ≤ 2 ^ 62 := Nat.pow_le_pow_right (by decide) hn
  have hp1 : 0 < (2 : Nat) ^ n := Nat.pow_pos (by decide)
  have h62 : (2 : Nat) ^ 62 = 4611686018427387904 := by decide
  have e0 : ((2 : Int) ^ n - 1) = ((2 ^ n - 1 : Nat) : Int) := by
    rw [Int.natCast_sub hp1]
    simp
  have hm : (BitVec.ofInt 64 ((2 : Int) ^ n - 1)).toNat = 2 ^ n - 1 := by
    rw [e0, ofInt_u64 _ (by omega)]
  have key : (BitVec.ofInt 64 a &&& BitVec.ofInt 64 ((2 : Int) ^ n - 1)).toNat = (a % ((2 ^ 64 : Nat) : Int)).toNat % 2 ^ n := by
    rw [BitVec.toNat_and, BitVec.toNat_ofInt, hm, Nat.and_two_pow_sub_one_eq_mod]
  show IntKind.i64.wrap ((BitVec.ofInt 64 a &&& BitVec.ofInt 64 ((2 : Int) ^ n - 1)).toNat : Nat) = _
  have h0 : 0 ≤ a % ((2 ^ 64 : Nat) : Int) := Int.emod_nonneg _ (by decide)
  have hd : ((2 : Int) ^ n) ∣ ((2 ^ 64 : Nat) : Int) := by
    have : (2 : Nat) ^ n ∣ 2 ^ 64 := Nat.pow_dvd_pow 2 (by omega)
    have := Int.natCast_dvd_natCast.2 this
    simpa using this
  have hb := Nat.mod_lt (a % ((2 ^ 64 : Nat) : Int)).toNat hp1
  rw [key, IntWalk.i64_in _ (by omega), Int.natCast_emod, Int.toNat_of_nonneg h0]
  have e2 : ((2 ^ n : Nat) : Int) = 2 ^ n := by simp
  rw [e2, Int.emod_emod_of_dvd _ hd]

theorem or_gap (k n x y : Nat) (hx : x % 2 ^ (k + n) < 2 ^ k) (hy : y < 2 ^ (k + n)) (hz : y % 2 ^ k = 0) : x ||| y = x + y := by
  have hq := nat_join k y (x % 2 ^ (k + n)) hz hx
  have hc : y = 2 ^ k * (y / 2 ^ k) := by have := Nat.div_add_mod y (2 ^ k); omega
  have hlt : y / 2 ^ k < 2 ^ n := by
    rw [Nat.div_lt_iff_lt_mul (Nat.pow_pos (by decide)), ← Nat.pow_add, Nat.add_comm n k]
    exact hy
  have hle : 2 ^ k * (y / 2 ^ k + 1) ≤ 2 ^ k * 2 ^ n := Nat.mul_le_mul_left _ hlt
  rw [← Nat.pow_add, Nat.mul_add, ← hc, Nat.mul_one] at hle
  have hsum : y + x % 2 ^ (k + n) < 2 ^ (k + n) := by omega
  have hxx : 2 ^ (k + n) * (x / 2 ^ (k + n)) + x % 2 ^ (k + n) = x := Nat.div_add_mod _ _
  have j1 := nat_join (k + n) (2 ^ (k + n) * (x / 2 ^ (k + n))) (x % 2 ^ (k + n)) (Nat.mul_mod_right _ _) (Nat.mod_lt _ (Nat.pow_pos (by decide)))
  have j2 := nat_join (k + n) (2 ^ (k + n) * (x / 2 ^ (k + n))) (y + x % 2 ^ (k + n)) (Nat.mul_mod_right _ _) hsum
  have e : x ||| y = 2 ^ (k + n) * (x / 2 ^ (k + n)) ||| (y ||| x % 2 ^ (k + n)) := by
    rw [Nat.or_comm y, ← Nat.or_assoc, j1, hxx]
  rw [e, hq, j2]
  omega

theorem i64_or_nat (a b : Nat) (ha : a < 9223372036854775808) (hb : b < 9223372036854775808) : bits .or .i64 (a : Int) (b : Int) = ((a ||| b : Nat) : Int) := by
  have hx : a ||| b < 2 ^ 63 := Nat.or_lt_two_pow (by omega) (by omega)
  show IntKind.i64.wrap ((BitVec.ofInt 64 (a : Int) ||| BitVec.ofInt 64 (b : Int)).toNat : Int) = _
  rw [BitVec.toNat_or, ofInt_u64 a (by omega), ofInt_u64 b (by omega), IntWalk.i64_in _ (by omega)]

/-- Two numbers without a common bit: y lies in the bits k to k + n - 1, and x has none of these. -/
theorem i64_or_gap (k n : Nat) (A B : Int) (hA : A = 2 ^ k) (hB : B = 2 ^ (k + n)) (x y : Int) (x0 : 0 ≤ x) (x1 : x < 9223372036854775808) (hx : x % B < A) (y0 : 0 ≤ y) (y1 : y < B) (hz : y % A = 0) (hkn : k + n ≤ 63) : bits .or .i64 x y = x + y := by
  obtain ⟨x, rfl⟩ := Int.eq_ofNat_of_zero_le x0
  obtain ⟨y, rfl⟩ := Int.eq_ofNat_of_zero_le y0
  have eA : A = ((2 ^ k : Nat) : Int) := by rw [hA]; simp
  have eB : B = ((2 ^ (k + n) : Nat) : Int) := by rw [hB]; simp
  have hp : (2 : Nat) ^ (k + n) ≤ 2 ^ 63 := Nat.pow_le_pow_right (by decide) hkn
  have h63 : (2 : Nat) ^ 63 = 9223372036854775808 := by decide
  rw [eA, eB] at hx
  rw [eB] at y1
  rw [eA] at hz
  have hx' : x % 2 ^ (k + n) < 2 ^ k := by exact_mod_cast hx
  have hz' : y % 2 ^ k = 0 := by exact_mod_cast hz
  rw [i64_or_nat x y (by omega) (by omega), or_gap k n x y hx' (by omega) hz']
  simp
end Go.Proofs.YtelogjpjglohoaaGreatDoor

namespace Go.Proofs.YtelogjpjglohoaaGreatDoor

/-- The byte at a place of a number. -/
def leAt (u : Nat) (i : Nat) : UInt8 := UInt8.ofNat (u / 2 ^ (8 * i))
def leL (u n : Nat) : List UInt8 := (List.range n).map (leAt u)
theorem leL_len (u n : Nat) : (leL u n).length = n := by simp [leL]
theorem leL_succ (u n : Nat) : leL u (n + 1) = leL u n ++ [leAt u n] := by simp [leL, List.range_succ]
/-- The 64 bits of a number. -/
def u64 (v : Int) : Nat := (v % 18446744073709551616).toNat
theorem u64_lt (v : Int) : u64 v < 18446744073709551616 := by
  unfold u64
  omega

theorem leAt_nat (u i : Nat) : ((leAt u i).toNat : Int) = (u : Int) / 2 ^ (8 * i) % 256 := by
  unfold leAt
  rw [UInt8.toNat_ofNat']
  simp

theorem wrap_u64 (v : Int) : IntKind.u64.wrap v = (u64 v : Int) := by
  show v % 18446744073709551616 = _
  unfold u64
  omega
theorem wrap_u8 (v : Int) : IntKind.u8.wrap v = ((u64 v % 256 : Nat) : Int) := by
  show v % 256 = _
  unfold u64
  omega
theorem wrap_u16 (v : Int) : IntKind.u16.wrap v = ((u64 v % 65536 : Nat) : Int) := by
  show v % 65536 = _
  unfold u64
  omega
theorem wrap_u32 (v : Int) : IntKind.u32.wrap v = ((u64 v % 4294967296 : Nat) : Int) := by
  show v % 4294967296 = _
  unfold u64
  omega

theorem leAt_mod (u m i : Nat) (h : u / 2 ^ (8 * i) % 256 = m / 2 ^ (8 * i) % 256) : leAt u i = leAt m i := by
  unfold leAt
  rw [← UInt8.toNat_inj, UInt8.toNat_ofNat', UInt8.toNat_ofNat']
  exact h
theorem leL_1 (u : Nat) : leL (u % 256) 1 = leL u 1 := by
  simp only [leL, List.range_succ, List.range_zero, List.nil_append, List.map_cons, List.map_nil]
  rw [leAt_mod (u % 256) u 0 (by simp)]
theorem leL_2 (u : Nat) : leL (u % 65536) 2 = leL u 2 := by
  simp only [leL, List.range_succ, List.range_zero, List.nil_append, List.cons_append, List.map_cons, List.map_nil]
  rw [leAt_mod (u % 65536) u 0 (by simp), leAt_mod (u % 65536) u 1 (by simp; omega)]
theorem leL_4 (u : Nat) : leL (u % 4294967296) 4 = leL u 4 := by
  simp only [leL, List.range_succ, List.range_zero, List.nil_append, List.cons_append, List.map_cons, List.map_nil]
  rw [leAt_mod (u % 4294967296) u 0 (by simp), leAt_mod (u % 4294967296) u 1 (by simp; omega), leAt_mod (u % 4294967296) u 2 (by simp; omega), leAt_mod (u % 4294967296) u 3 (by simp; omega)]
end Go.Proofs.YtelogjpjglohoaaGreatDoor

namespace Go.Proofs.YtelogjpjglohoaaGreatDoor

theorem pow_pos (n : Nat) : (0 : Int) < 2 ^ n := Int.pow_pos (by decide)

/-- A bit of a number. -/
def bitT (v : Int) (i : Nat) : Int := (v / 2 ^ i) % 2
theorem bitT_bd (v : Int) (i : Nat) : bitT v i = 0 ∨ bitT v i = 1 := by
  unfold bitT; omega

/-- What is a multiple of a higher power leaves a bit as it is. -/
theorem bit_far (a k : Int) (n i : Nat) (h : i < n) : bitT (a + k * 2 ^ n) i = bitT a i := by
  unfold bitT
  obtain ⟨r, rfl⟩ : ∃ r, n = i + (r + 1) := ⟨n - i - 1, by omega⟩
  have e : k * 2 ^ (i + (r + 1)) = (2 * (k * 2 ^ r)) * 2 ^ i := by
    rw [Int.pow_add, Int.pow_succ]
    simp only [Int.mul_comm, Int.mul_left_comm]
  rw [e, Int.add_mul_ediv_right _ _ (Int.ne_of_gt (pow_pos i))]
  omega

theorem bit_u64 (v : Int) (i : Nat) (h : i < 64) : bitT (u64 v : Int) i = bitT v i := by
  have e : (u64 v : Int) = v + (-(v / 18446744073709551616)) * 2 ^ 64 := by
    unfold u64
    omega
  rw [e]
  exact bit_far v _ 64 i h

/-- The lowest c bits of v, with a sign. -/
def sgn (v : Int) (c : Nat) : Int := (v + 2 ^ (c - 1)) % 2 ^ c - 2 ^ (c - 1)

theorem sgn_bd (v : Int) (c : Nat) (h : 1 ≤ c) : -2 ^ (c - 1) ≤ sgn v c ∧ sgn v c < 2 ^ (c - 1) := by
  unfold sgn
  obtain ⟨d, rfl⟩ : ∃ d, c = d + 1 := ⟨c - 1, by omega⟩
  simp only [Nat.add_sub_cancel]
  have h1 := Int.emod_nonneg (v + 2 ^ d) (Int.ne_of_gt (pow_pos (d + 1)))
  have h2 := Int.emod_lt_of_pos (v + 2 ^ d) (pow_pos (d + 1))
  rw [Int.pow_succ] at h1 h2 ⊢
  omega

theorem sgn_far (v : Int) (c : Nat) : ∃ k : Int, sgn v c = v + k * 2 ^ c := by
  refine ⟨-((v + 2 ^ (c - 1)) / 2 ^ c), ?_⟩
  unfold sgn
  have := Int.emod_def (v + 2 ^ (c - 1)) (2 ^ c)
  rw [this, Int.neg_mul, Int.mul_comm (2 ^ c)]
  omega

theorem emod_up (x y : Int) (d : Nat) : (x * 2 ^ d) % (y * 2 ^ d) = (x % y) * 2 ^ d := by
  rw [Int.mul_comm x, Int.mul_comm y, Int.mul_emod_mul_of_pos _ _ (pow_pos d), Int.mul_comm]

/-- By its shifts: up, then down. -/
theorem sgn_shifts (v : Int) (c d : Nat) (h : c + d = 64) (hc : 1 ≤ c) : ((v * 2 ^ d + 9223372036854775808) % 18446744073709551616 - 9223372036854775808) / 2 ^ d = sgn v c := by
  have e1 : (9223372036854775808 : Int) = 2 ^ (c - 1) * 2 ^ d := by
    rw [← Int.pow_add, show c - 1 + d = 63 from by omega]; rfl
  have e2 : (18446744073709551616 : Int) = 2 ^ c * 2 ^ d := by
    rw [← Int.pow_add, h]; rfl
  rw [e1, e2, ← Int.add_mul, emod_up, ← Int.sub_mul, Int.mul_ediv_cancel _ (Int.ne_of_gt (pow_pos d))]
  rfl

theorem div_small (s : Int) (n : Nat) (h0 : -2 ^ n ≤ s) (h1 : s < 2 ^ n) : s / 2 ^ n = if s < 0 then -1 else 0 := by
  split
  · rename_i h
    have := Int.add_mul_ediv_right s 1 (Int.ne_of_gt (pow_pos n))
    have hz : (s + 1 * 2 ^ n) / 2 ^ n = 0 := Int.ediv_eq_zero_of_lt (by omega) (by omega)
    omega
  · exact Int.ediv_eq_zero_of_lt (by omega) h1

theorem pow_le {m n : Nat} (h : m ≤ n) : (2 : Int) ^ m ≤ 2 ^ n := by
  have := Nat.pow_le_pow_right (show 0 < 2 by decide) h
  exact_mod_cast this

theorem bit_sgn (v : Int) (c i : Nat) (hc : 1 ≤ c) : bitT (sgn v c) i = bitT v (min i (c - 1)) := by
  obtain ⟨k, hk⟩ := sgn_far v c
  by_cases hi : i < c
  · rw [hk, bit_far v k c i hi, Nat.min_eq_left (by omega)]
  · have hb := sgn_bd v c hc
    have hp := pow_le (show c - 1 ≤ i by omega)
    have h1 := div_small (sgn v c) i (by omega) (by omega)
    have h2 := div_small (sgn v c) (c - 1) hb.1 hb.2
    rw [Nat.min_eq_right (by omega), ← bit_far v k c (c - 1) (by omega), ← hk]
    unfold bitT
    rw [h1, h2]

/-- The model's sum, from the highest bit down. -/
theorem half_step (s k : Nat) : s / 2 ^ k = 2 * (s / 2 ^ (k + 1)) + (s / 2 ^ k) % 2 := by
  rw [Nat.pow_succ, ← Nat.div_div_eq_div_mul]
  omega

/-- Bits of the 64 of the signed number. -/
def sbits (v : Int) (c : Nat) : Nat := u64 (sgn v c)
theorem sbits_step (v : Int) (c k : Nat) (hc : 1 ≤ c) (hk : k < 64) : ((sbits v c / 2 ^ k : Nat) : Int) = 2 * ((sbits v c / 2 ^ (k + 1) : Nat) : Int) + bitT v (min k (c - 1)) := by
  rw [← bit_sgn v c k hc, ← bit_u64 (sgn v c) k hk]
  have := half_step (sbits v c) k
  unfold bitT
  unfold sbits at *
  rw [show ((u64 (sgn v c) : Int) / 2 ^ k) = ((u64 (sgn v c) / 2 ^ k : Nat) : Int) from by simp]
  omega
theorem sbits_top (v : Int) (c : Nat) : sbits v c / 2 ^ 64 = 0 := by
  have := u64_lt (sgn v c)
  unfold sbits
  exact Nat.div_eq_of_lt this
theorem sbits_half (v : Int) (c k : Nat) : sbits v c / 2 ^ (k + 1) ≤ 9223372036854775807 := by
  have := u64_lt (sgn v c)
  unfold sbits
  have h1 : u64 (sgn v c) / 2 ^ (k + 1) ≤ u64 (sgn v c) / 2 := by
    rw [Nat.pow_succ, Nat.mul_comm, ← Nat.div_div_eq_div_mul]
    exact Nat.div_le_self _ _
  omega
theorem sbits_back (v : Int) (c : Nat) (hc : 1 ≤ c) (hc2 : c ≤ 64) : IntKind.i64.wrap (sbits v c : Int) = sgn v c := by
  have hb := sgn_bd v c hc
  have hp := pow_le (show c - 1 ≤ 63 by omega)
  have hp' : (2 : Int) ^ 63 = 9223372036854775808 := rfl
  rw [IntKind.wrap_i64]
  unfold sbits u64
  omega
end Go.Proofs.YtelogjpjglohoaaGreatDoor

namespace Go.Proofs.YtelogjpjglohoaaGreatDoor

/-- The bits of a word that a form's number makes. -/
def layF (f v : Int) : Int :=
  if f = 1 then v / 4096 % 1048576 * 4096
  else if f = 2 then v / 4096 % 256 * 4096 + v / 2048 % 2 * 1048576 + v / 2 % 1024 * 2097152 + v / 1048576 % 2 * 2147483648
  else if f = 3 then v % 4096 * 1048576
  else if f = 4 then v / 2048 % 2 * 128 + v / 2 % 16 * 256 + v / 32 % 64 * 33554432 + v / 4096 % 2 * 2147483648
  else if f = 5 then v % 32 * 128 + v / 32 % 128 * 33554432
  else if f = 6 then v % 64 * 1048576
  else if f = 7 then v % 32 * 1048576
  else 0

/-- The number that lies in a word of a form. -/
def takeF (f w : Int) : Int :=
  if f = 1 then sgn (w / 4096 % 1048576 * 4096) 32
  else if f = 2 then sgn (w / 4096 % 256 * 4096 + w / 1048576 % 2 * 2048 + w / 2097152 % 1024 * 2 + w / 2147483648 % 2 * 1048576) 21
  else if f = 3 then sgn (w / 1048576 % 4096) 12
  else if f = 4 then sgn (w / 128 % 2 * 2048 + w / 256 % 16 * 2 + w / 33554432 % 64 * 32 + w / 2147483648 % 2 * 4096) 13
  else if f = 5 then sgn (w / 128 % 32 + w / 33554432 % 128 * 32) 12
  else if f = 6 then w / 1048576 % 64
  else if f = 7 then w / 1048576 % 32
  else 0

/-- May a form's number be v? -/
def okI (f v : Int) : Prop :=
  if f = 1 then -2147483648 ≤ v ∧ v ≤ 2147479552 ∧ v % 4096 = 0
  else if f = 2 then -1048576 ≤ v ∧ v ≤ 1048574 ∧ v % 2 = 0
  else if f = 3 then -2048 ≤ v ∧ v ≤ 2047
  else if f = 4 then -4096 ≤ v ∧ v ≤ 4094 ∧ v % 2 = 0
  else if f = 5 then -2048 ≤ v ∧ v ≤ 2047
  else if f = 6 then 0 ≤ v ∧ v ≤ 63
  else if f = 7 then 0 ≤ v ∧ v ≤ 31
  else v = 0

theorem sgn_num (v : Int) (c : Nat) (A B : Int) (hA : A = 2 ^ (c - 1)) (hB : B = 2 ^ c) : sgn v c = (v + A) % B - A := by
  rw [hA, hB]; rfl

theorem parts2 (a b c d : Int) (ha : 0 ≤ a ∧ a < 256) (hb : 0 ≤ b ∧ b < 2) (hc : 0 ≤ c ∧ c < 1024) (hd : 0 ≤ d ∧ d < 2) :
    (a * 4096 + b * 1048576 + c * 2097152 + d * 2147483648) / 4096 % 256 = a ∧ (a * 4096 + b * 1048576 + c * 2097152 + d * 2147483648) / 1048576 % 2 = b ∧
    (a * 4096 + b * 1048576 + c * 2097152 + d * 2147483648) / 2097152 % 1024 = c ∧ (a * 4096 + b * 1048576 + c * 2097152 + d * 2147483648) / 2147483648 % 2 = d := by
  have e1 : (a * 4096 + b * 1048576 + c * 2097152 + d * 2147483648) / 4096 = a + 256 * (b + c * 2 + d * 2048) := by omega
  have e2 : (a * 4096 + b * 1048576 + c * 2097152 + d * 2147483648) / 1048576 = b + 2 * (c + d * 1024) := by omega
  have e3 : (a * 4096 + b * 1048576 + c * 2097152 + d * 2147483648) / 2097152 = c + 1024 * d := by omega
  have e4 : (a * 4096 + b * 1048576 + c * 2097152 + d * 2147483648) / 2147483648 = d := by omega
  rw [e1, e2, e3, e4]
  clear e1 e2 e3 e4
  exact ⟨by omega, by omega, by omega, by omega⟩
theorem parts4 (a b c d : Int) (ha : 0 ≤ a ∧ a < 2) (hb : 0 ≤ b ∧ b < 16) (hc : 0 ≤ c ∧ c < 64) (hd : 0 ≤ d ∧ d < 2) :
    (a * 128 + b * 256 + c * 33554432 + d * 2147483648) / 128 % 2 = a ∧ (a * 128 + b * 256 + c * 33554432 + d * 2147483648) / 256 % 16 = b ∧
    (a * 128 + b * 256 + c * 33554432 + d * 2147483648) / 33554432 % 64 = c ∧ (a * 128 + b * 256 + c * 33554432 + d * 2147483648) / 2147483648 % 2 = d := by
  have e1 : (a * 128 + b * 256 + c * 33554432 + d * 2147483648) / 128 = a + 2 * (b + c * 131072 + d * 8388608) := by omega
  have e2 : (a * 128 + b * 256 + c * 33554432 + d * 2147483648) / 256 = b + 16 * (c * 8192 + d * 524288) := by omega
  have e3 : (a * 128 + b * 256 + c * 33554432 + d * 2147483648) / 33554432 = c + 64 * d := by omega
  have e4 : (a * 128 + b * 256 + c * 33554432 + d * 2147483648) / 2147483648 = d := by omega
  rw [e1, e2, e3, e4]
  clear e1 e2 e3 e4
  exact ⟨by omega, by omega, by omega, by omega⟩
theorem fin2 (v a b c d r q : Int) (ha : 0 ≤ a ∧ a < 256) (hb : 0 ≤ b ∧ b < 2) (hc : 0 ≤ c ∧ c < 1024) (hd : 0 ≤ d ∧ d < 2) (hr : 0 ≤ r ∧ r < 2)
    (hv : v = 2097152 * q + 1048576 * d + 4096 * a + 2048 * b + 2 * c + r) :
    (a * 4096 + b * 2048 + c * 2 + d * 1048576 + 1048576) % 2097152 - 1048576 = v ↔ (-1048576 ≤ v ∧ v ≤ 1048574 ∧ v % 2 = 0) := by
  obtain ⟨x, hx⟩ : ∃ x, x = 4096 * a + 2048 * b + 2 * c := ⟨_, rfl⟩
  have h1 : 0 ≤ x ∧ x < 1048576 := by omega
  have h2 : x % 2 = 0 := by omega
  have e : a * 4096 + b * 2048 + c * 2 + d * 1048576 + 1048576 = x + d * 1048576 + 1048576 := by omega
  have hv2 : v = 2097152 * q + 1048576 * d + x + r := by omega
  rw [e]
  clear e hv hx ha hb hc
  rcases (show d = 0 ∨ d = 1 by omega) with rfl | rfl
  · omega
  · omega
theorem fin4 (v a b c d r q : Int) (ha : 0 ≤ a ∧ a < 2) (hb : 0 ≤ b ∧ b < 16) (hc : 0 ≤ c ∧ c < 64) (hd : 0 ≤ d ∧ d < 2) (hr : 0 ≤ r ∧ r < 2)
    (hv : v = 8192 * q + 4096 * d + 2048 * a + 32 * c + 2 * b + r) :
    (a * 2048 + b * 2 + c * 32 + d * 4096 + 4096) % 8192 - 4096 = v ↔ (-4096 ≤ v ∧ v ≤ 4094 ∧ v % 2 = 0) := by
  obtain ⟨x, hx⟩ : ∃ x, x = 2048 * a + 32 * c + 2 * b := ⟨_, rfl⟩
  have h1 : 0 ≤ x ∧ x < 4096 := by omega
  have h2 : x % 2 = 0 := by omega
  have e : a * 2048 + b * 2 + c * 32 + d * 4096 + 4096 = x + d * 4096 + 4096 := by omega
  have hv2 : v = 8192 * q + 4096 * d + x + r := by omega
  rw [e]
  clear e hv hx ha hb hc
  rcases (show d = 0 ∨ d = 1 by omega) with rfl | rfl
  · omega
  · omega

set_option maxHeartbeats 1000000 in
theorem take_lay (f v : Int) (h1 : 0 ≤ f) (h9 : f ≤ 9) : takeF f (layF f v) = v ↔ okI f v := by
  have hf : f = 0 ∨ f = 1 ∨ f = 2 ∨ f = 3 ∨ f = 4 ∨ f = 5 ∨ f = 6 ∨ f = 7 ∨ f = 8 ∨ f = 9 := by omega
  rcases hf with rfl | rfl | rfl | rfl | rfl | rfl | rfl | rfl | rfl | rfl
  · show (0 : Int) = v ↔ v = 0
    omega
  · show sgn ((v / 4096 % 1048576 * 4096) / 4096 % 1048576 * 4096) 32 = v ↔ (-2147483648 ≤ v ∧ v ≤ 2147479552 ∧ v % 4096 = 0)
    rw [sgn_num _ 32 2147483648 4294967296 (by decide) (by decide)]
    omega
  · show sgn ((v / 4096 % 256 * 4096 + v / 2048 % 2 * 1048576 + v / 2 % 1024 * 2097152 + v / 1048576 % 2 * 2147483648) / 4096 % 256 * 4096 + (v / 4096 % 256 * 4096 + v / 2048 % 2 * 1048576 + v / 2 % 1024 * 2097152 + v / 1048576 % 2 * 2147483648) / 1048576 % 2 * 2048 + (v / 4096 % 256 * 4096 + v / 2048 % 2 * 1048576 + v / 2 % 1024 * 2097152 + v / 1048576 % 2 * 2147483648) / 2097152 % 1024 * 2 + (v / 4096 % 256 * 4096 + v / 2048 % 2 * 1048576 + v / 2 % 1024 * 2097152 + v / 1048576 % 2 * 2147483648) / 2147483648 % 2 * 1048576) 21 = v ↔ (-1048576 ≤ v ∧ v ≤ 1048574 ∧ v % 2 = 0)
    rw [sgn_num _ 21 1048576 2097152 (by decide) (by decide)]
    obtain ⟨c, q1, r, hr, hc, hv1⟩ : ∃ c q1 r : Int, (0 ≤ r ∧ r < 2) ∧ (0 ≤ c ∧ c < 1024) ∧ v = 2048 * q1 + 2 * c + r := ⟨v / 2 % 1024, v / 2048, v % 2, by omega, by omega, by omega⟩
    obtain ⟨b, q2, hb, hv2⟩ : ∃ b q2 : Int, (0 ≤ b ∧ b < 2) ∧ q1 = 2 * q2 + b := ⟨q1 % 2, q1 / 2, by omega, by omega⟩
    obtain ⟨a, q3, ha, hv3⟩ : ∃ a q3 : Int, (0 ≤ a ∧ a < 256) ∧ q2 = 256 * q3 + a := ⟨q2 % 256, q2 / 256, by omega, by omega⟩
    obtain ⟨d, q4, hd, hv4⟩ : ∃ d q4 : Int, (0 ≤ d ∧ d < 2) ∧ q3 = 2 * q4 + d := ⟨q3 % 2, q3 / 2, by omega, by omega⟩
    have f1 : v / 4096 % 256 = a := by
      have : v / 4096 = q2 := by omega
      omega
    have f2 : v / 2048 % 2 = b := by
      have : v / 2048 = q1 := by omega
      omega
    have f3 : v / 2 % 1024 = c := by
      have : v / 2 = 1024 * q1 + c := by omega
      omega
    have f4 : v / 1048576 % 2 = d := by
      have : v / 1048576 = q3 := by omega
      omega
    rw [f1, f2, f3, f4]
    obtain ⟨e1, e2, e3, e4⟩ := parts2 a b c d ha hb hc hd
    rw [e1, e2, e3, e4]
    exact fin2 v a b c d r q4 ha hb hc hd hr (by rw [hv1, hv2, hv3, hv4]; omega)
  · show sgn ((v % 4096 * 1048576) / 1048576 % 4096) 12 = v ↔ (-2048 ≤ v ∧ v ≤ 2047)
    rw [sgn_num _ 12 2048 4096 (by decide) (by decide)]
    omega
  · show sgn ((v / 2048 % 2 * 128 + v / 2 % 16 * 256 + v / 32 % 64 * 33554432 + v / 4096 % 2 * 2147483648) / 128 % 2 * 2048 + (v / 2048 % 2 * 128 + v / 2 % 16 * 256 + v / 32 % 64 * 33554432 + v / 4096 % 2 * 2147483648) / 256 % 16 * 2 + (v / 2048 % 2 * 128 + v / 2 % 16 * 256 + v / 32 % 64 * 33554432 + v / 4096 % 2 * 2147483648) / 33554432 % 64 * 32 + (v / 2048 % 2 * 128 + v / 2 % 16 * 256 + v / 32 % 64 * 33554432 + v / 4096 % 2 * 2147483648) / 2147483648 % 2 * 4096) 13 = v ↔ (-4096 ≤ v ∧ v ≤ 4094 ∧ v % 2 = 0)
    rw [sgn_num _ 13 4096 8192 (by decide) (by decide)]
    obtain ⟨b, q1, r, hr, hb, hv1⟩ : ∃ b q1 r : Int, (0 ≤ r ∧ r < 2) ∧ (0 ≤ b ∧ b < 16) ∧ v = 32 * q1 + 2 * b + r := ⟨v / 2 % 16, v / 32, v % 2, by omega, by omega, by omega⟩
    obtain ⟨c, q2, hc, hv2⟩ : ∃ c q2 : Int, (0 ≤ c ∧ c < 64) ∧ q1 = 64 * q2 + c := ⟨q1 % 64, q1 / 64, by omega, by omega⟩
    obtain ⟨a, q3, ha, hv3⟩ : ∃ a q3 : Int, (0 ≤ a ∧ a < 2) ∧ q2 = 2 * q3 + a := ⟨q2 % 2, q2 / 2, by omega, by omega⟩
    obtain ⟨d, q4, hd, hv4⟩ : ∃ d q4 : Int, (0 ≤ d ∧ d < 2) ∧ q3 = 2 * q4 + d := ⟨q3 % 2, q3 / 2, by omega, by omega⟩
    have f1 : v / 2048 % 2 = a := by
      have : v / 2048 = q2 := by omega
      omega
    have f2 : v / 2 % 16 = b := by
      have : v / 2 = 16 * q1 + b := by omega
      omega
    have f3 : v / 32 % 64 = c := by
      have : v / 32 = q1 := by omega
      omega
    have f4 : v / 4096 % 2 = d := by
      have : v / 4096 = q3 := by omega
      omega
    rw [f1, f2, f3, f4]
    obtain ⟨e1, e2, e3, e4⟩ := parts4 a b c d ha hb hc hd
    rw [e1, e2, e3, e4]
    exact fin4 v a b c d r q4 ha hb hc hd hr (by rw [hv1, hv2, hv3, hv4]; omega)
  · show sgn ((v % 32 * 128 + v / 32 % 128 * 33554432) / 128 % 32 + (v % 32 * 128 + v / 32 % 128 * 33554432) / 33554432 % 128 * 32) 12 = v ↔ (-2048 ≤ v ∧ v ≤ 2047)
    rw [sgn_num _ 12 2048 4096 (by decide) (by decide)]
    omega
  · show (v % 64 * 1048576) / 1048576 % 64 = v ↔ (0 ≤ v ∧ v ≤ 63)
    omega
  · show (v % 32 * 1048576) / 1048576 % 32 = v ↔ (0 ≤ v ∧ v ≤ 31)
    omega
  · show (0 : Int) = v ↔ v = 0
    omega
  · show (0 : Int) = v ↔ v = 0
    omega
end Go.Proofs.YtelogjpjglohoaaGreatDoor
