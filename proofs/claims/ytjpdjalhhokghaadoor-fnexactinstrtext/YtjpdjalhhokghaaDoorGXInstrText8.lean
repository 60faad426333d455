/- Bits of numbers with a sign: plain. Numbers as bytes: plain. -/
import Derived.WalkKit
import Derived.Laws.BitsAllLaws
import Derived.IntWalk
namespace Go.Proofs.YtjpdjalhhokghaaDoor

theorem i64_and_mask (a : Int) (n : Nat) (hn : n ≤ 62) : bits .and .i64 a (2 ^ n - 1) = a % 2 ^ n := by
  have hp : (2 : Nat) ^ n ≤ 2 ^ 62 := Nat.pow_le_pow_right (by decide) hn
  have hp1 : 0 < (2 : Nat) ^ n := Nat.pow_pos (by decide)
  have h62 : (2 : Nat) ^ 62 = 4611686018427387904 := by decide
  have e0 : ((2 : Int) ^ n - 1) = ((2 ^ n - 1 : Nat) : Int) := by
    rw [Int.natCast_sub hp1]
    simp
  have hm : (BitVec.ofInt 64 ((2 : Int) ^ n - 1)).toNat = 2 ^ n - 1 := by
    rw [e0, ofInt_u64 _ (by omega)]
  have key : (BitVec.ofInt 64 a &&& BitVec.ofInt 64 ((2 : Int) ^ n - 1)).toNat = (a % ((2 ^ 64 : Nat) : Int)).toNat % 2 ^ n := by
    rw [BitVec.toNat_and, BitVec.toNat_ofInt, hm, Nat.and_two_pow_sub_one_eq_mod]
  show IntKind.i64.wrap ((BitVec.ofInt 64 a &&& BitVec.ofInt 64 ((2 : Int) ^ n - 1)).toNat : Nat) = _
  have h0 : 0 ≤ a % ((2 ^ 64 : Nat) : Int) := Int.emod_nonneg _ (by decide)
  have hd : ((2 : Int) ^ n) ∣ ((2 ^ 64 : Nat) : Int) := by
    have : (2 : Nat) ^ n ∣ 2 ^ 64 := Nat.pow_dvd_pow 2 (by omega)
    have := Int.natCast_dvd_natCast.2 this
    simpa using this
  have hb := Nat.mod_lt (a % ((2 ^ 64 : Nat) : Int)).toNat hp1
  rw [key, IntWalk.i64_in _ (by omega), Int.natCast_emod, Int.toNat_of_nonneg h0]
  have e2 : ((2 ^ n : Nat) : Int) = 2 ^ n := by simp
  rw [e2, Int.emod_emod_of_dvd _ hd]

theorem or_gap (k n x y : Nat) (hx : x % 2 ^ (k + n) < 2 ^ k) (hy : y < 2 ^ (k + n)) (hz : y % 2 ^ k = 0) : x ||| y = x + y := by
  have hq := nat_join k y (x % 2 ^ (k + n)) hz hx
  have hc : y = 2 ^ k * (y / 2 ^ k) := by have := Nat.div_add_mod y (2 ^ k); omega
  have hlt : y / 2 ^ k < 2 ^ n := by
    rw [Nat.div_lt_iff_lt_mul (Nat.pow_pos (by decide)), ← Nat.pow_add, Nat.add_comm n k]
    exact hy
  have hle : 2 ^ k * (y / 2 ^ k + 1) ≤ 2 ^ k * 2 ^ n := Nat.mul_le_mul_left _ hlt
  rw [← Nat.pow_add, Nat.mul_add, ← hc, Nat.mul_one] at hle
  have hsum : y + x % 2 ^ (k + n) < 2 ^ (k + n) := by omega
  have hxx : 2 ^ (k + n) * (x / 2 ^ (k + n)) + x % 2 ^ (k + n) = x := Nat.div_add_mod _ _
  have j1 := nat_join (k + n) (2 ^ (k + n) * (x / 2 ^ (k + n))) (x % 2 ^ (k + n)) (Nat.mul_mod_right _ _) (Nat.mod_lt _ (Nat.pow_pos (by decide)))
  have j2 := nat_join (k + n) (2 ^ (k + n) * (x / 2 ^ (k + n))) (y + x % 2 ^ (k + n)) (Nat.mul_mod_right _ _) hsum
  have e : x ||| y = 2 ^ (k + n) * (x / 2 ^ (k + n)) ||| (y ||| x % 2 ^ (k + n)) := by
    rw [Nat.or_comm y, ← Nat.or_assoc, j1, hxx]
  rw [e, hq, j2]
  omega

theorem i64_or_nat (a b : Nat) (ha : a < 9223372036854775808) (hb : b < 9223372036854775808) : bits .or .i64 (a : Int) (b : Int) = ((a ||| b : Nat) : Int) := by
  have hx : a ||| b < 2 ^ 63 := Nat.or_lt_two_pow (by omega) (by omega)
  show IntKind.i64.wrap ((BitVec.ofInt 64 (a : Int) ||| BitVec.ofInt 64 (b : Int)).toNat : Int) = _
  rw [BitVec.toNat_or, ofInt_u64 a (by omega), ofInt_u64 b (by omega), IntWalk.i64_in _ (by omega)]

/-- Two numbers without a common bit: y lies in the bits k to k + n - 1, and x has none of these. -/
theorem i64_or_gap (k n : Nat) (A B : Int) (hA : A = 2 ^ k) (hB : B = 2 ^ (k + n)) (x y : Int) (x0 : 0 ≤ x) (x1 : x < 9223372036854775808) (hx : x % B < A) (y0 : 0 ≤ y) (y1 : y < B) (hz : y % A = 0) (hkn : k + n ≤ 63) : bits .or .i64 x y = x + y := by
  obtain ⟨x, rfl⟩ := Int.eq_ofNat_of_zero_le x0
  obtain ⟨y, rfl⟩ := Int.eq_ofNat_of_zero_le y0
  have eA : A = ((2 ^ k : Nat) : Int) := by rw [hA]; simp
  have eB : B = ((2 ^ (k + n) : Nat) : Int) := by rw [hB]; simp
  have hp : (2 : Nat) ^ (k + n) ≤ 2 ^ 63 := Nat.pow_le_pow_right (by decide) hkn
  have h63 : (2 : Nat) ^ 63 = 9223372036854775808 := by decide
  rw [eA, eB] at hx
  rw [eB] at y1
  rw [eA] at hz
  have hx' : x % 2 ^ (k + n) < 2 ^ k := by exact_mod_cast hx
  have hz' : y % 2 ^ k = 0 := by exact_mod_cast hz
  rw [i64_or_nat x y (by omega) (by omega), or_gap k n x y hx' (by omega) hz']
  simp
end Go.Proofs.YtjpdjalhhokghaaDoor

namespace Go.Proofs.YtjpdjalhhokghaaDoor

/-- The byte at a place of a number. -/
def leAt (u : Nat) (i : Nat) : UInt8 := UInt8.ofNat (u / 2 ^ (8 * i))
def leL (u n : Nat) : List UInt8 := (List.range n).map (leAt u)
theorem leL_len (u n : Nat) : (leL u n).length = n := by simp [leL]
theorem leL_succ (u n : Nat) : leL u (n + 1) = leL u n ++ [leAt u n] := by simp [leL, List.range_succ]
/-- The 64 bits of a number. -/
def u64 (v : Int) : Nat := (v % 18446744073709551616).toNat
theorem u64_lt (v : Int) : u64 v < 18446744073709551616 := by
  unfold u64
  omega

theorem leAt_nat (u i : Nat) : ((leAt u i).toNat : Int) = (u : Int) / 2 ^ (8 * i) % 256 := by
  unfold leAt
  rw [UInt8.toNat_ofNat']
  simp

theorem wrap_u64 (v : Int) : IntKind.u64.wrap v = (u64 v : Int) := by
  show v % 18446744073709551616 = _
  unfold u64
  omega
theorem wrap_u8 (v : Int) : IntKind.u8.wrap v = ((u64 v % 256 : Nat) : Int) := by
  show v % 256 = _
  unfold u64
  omega
theorem wrap_u16 (v : Int) : IntKind.u16.wrap v = ((u64 v % 65536 : Nat) : Int) := by
  show v % 65536 = _
  unfold u64
  omega
theorem wrap_u32 (v : Int) : IntKind.u32.wrap v = ((u64 v % 4294967296 : Nat) : Int) := by
  show v % 4294967296 = _
  unfold u64
  omega

theorem leAt_mod (u m i : Nat) (h : u / 2 ^ (8 * i) % 256 = m / 2 ^ (8 * i) % 256) : leAt u i = leAt m i := by
  unfold leAt
  rw [← UInt8.toNat_inj, UInt8.toNat_ofNat', UInt8.toNat_ofNat']
  exact h
theorem leL_1 (u : Nat) : leL (u % 256) 1 = leL u 1 := by
  simp only [leL, List.range_succ, List.range_zero, List.nil_append, List.map_cons, List.map_nil]
  rw [leAt_mod (u % 256) u 0 (by simp)]
theorem leL_2 (u : Nat) : leL (u % 65536) 2 = leL u 2 := by
  simp only [leL, List.range_succ, List.range_zero, List.nil_append, List.cons_append, List.map_cons, List.map_nil]
  rw [leAt_mod (u % 65536) u 0 (by simp), leAt_mod (u % 65536) u 1 (by simp; omega)]
theorem leL_4 (u : Nat) : leL (u % 4294967296) 4 = leL u 4 := by
  simp only [leL, List.range_succ, List.range_zero, List.nil_append, List.cons_append, List.map_cons, List.map_nil]
  rw [leAt_mod (u % 4294967296) u 0 (by simp), leAt_mod (u % 4294967296) u 1 (by simp; omega), leAt_mod (u % 4294967296) u 2 (by simp; omega), leAt_mod (u % 4294967296) u 3 (by simp; omega)]
end Go.Proofs.YtjpdjalhhokghaaDoor
