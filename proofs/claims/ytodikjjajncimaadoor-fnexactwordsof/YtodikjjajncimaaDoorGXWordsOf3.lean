/- An instruction's word: plain. Bits laid into a word whose place is free: plain. -/
import Derived.Test.YtodikjjajncimaaDoorGXWordsOf1
import Derived.Test.YtodikjjajncimaaDoorGXWordsOf2
import Derived.Test.YtodikjjajncimaaDoorGXWordsOf0
namespace Go.Proofs.YtodikjjajncimaaDoor

/-- The fixed bits of a shape. -/
def fixW (f c g h : Int) : Int := if f = 6 then c + g * 4096 + h / 2 * 67108864 else if f = 9 then c + g * 4096 + h * 1048576 else c + g * 4096 + h * 33554432
/-- An instruction's word. -/
def encW (f c g h rd r1 r2 im : Int) : Int := fixW f c g h + rd * 128 + r1 * 32768 + r2 * 1048576 + layF f im

theorem regs_or (rd r1 r2 : Int) (a0 : 0 ≤ rd) (a1 : rd ≤ 31) (b0 : 0 ≤ r1) (b1 : r1 ≤ 31) (c0 : 0 ≤ r2) (c1 : r2 ≤ 31) :
    bits .or .i64 (bits .or .i64 (rd * 128) (r1 * 32768)) (r2 * 1048576) = rd * 128 + r1 * 32768 + r2 * 1048576 := by
  rw [i64_or_gap 15 5 32768 1048576 (by decide) (by decide) (rd * 128) (r1 * 32768) (by omega) (by omega) (by omega) (by omega) (by omega) (by omega) (by decide)]
  rw [i64_or_gap 20 5 1048576 33554432 (by decide) (by decide) (rd * 128 + r1 * 32768) (r2 * 1048576) (by omega) (by omega) (by omega) (by omega) (by omega) (by omega) (by decide)]

theorem or_assoc_i (x y z : Int) (x0 : 0 ≤ x) (x1 : x < 4294967296) (y0 : 0 ≤ y) (y1 : y < 4294967296) (z0 : 0 ≤ z) (z1 : z < 4294967296) :
    bits .or .i64 x (bits .or .i64 y z) = bits .or .i64 (bits .or .i64 x y) z := by
  obtain ⟨x, rfl⟩ := Int.eq_ofNat_of_zero_le x0
  obtain ⟨y, rfl⟩ := Int.eq_ofNat_of_zero_le y0
  obtain ⟨z, rfl⟩ := Int.eq_ofNat_of_zero_le z0
  have h1 : x ||| y < 2 ^ 32 := Nat.or_lt_two_pow (by omega) (by omega)
  have h2 : y ||| z < 2 ^ 32 := Nat.or_lt_two_pow (by omega) (by omega)
  rw [i64_or_nat y z (by omega) (by omega), i64_or_nat x y (by omega) (by omega), i64_or_nat x (y ||| z) (by omega) (by omega), i64_or_nat (x ||| y) z (by omega) (by omega), Nat.or_assoc]

/-- Fixed bits (none of 7 to 11, 15 to 24) and the registers. -/
theorem fix_regs (c g H rd r1 r2 : Int) (k0 : 0 ≤ c) (k1 : c < 128) (g0 : 0 ≤ g) (g1 : g < 8) (h0 : 0 ≤ H) (h1 : H < 128) (a0 : 0 ≤ rd) (a1 : rd ≤ 31) (b0 : 0 ≤ r1) (b1 : r1 ≤ 31) (c0 : 0 ≤ r2) (c1 : r2 ≤ 31) :
    bits .or .i64 (c + g * 4096 + H * 33554432) (rd * 128 + r1 * 32768 + r2 * 1048576) = c + g * 4096 + H * 33554432 + rd * 128 + r1 * 32768 + r2 * 1048576 := by
  rw [← i64_or_gap 20 5 1048576 33554432 (by decide) (by decide) (rd * 128 + r1 * 32768) (r2 * 1048576) (by omega) (by omega) (by omega) (by omega) (by omega) (by omega) (by decide)]
  rw [or_assoc_i _ _ _ (by omega) (by omega) (by omega) (by omega) (by omega) (by omega)]
  rw [← i64_or_gap 15 5 32768 1048576 (by decide) (by decide) (rd * 128) (r1 * 32768) (by omega) (by omega) (by omega) (by omega) (by omega) (by omega) (by decide)]
  rw [or_assoc_i _ _ _ (by omega) (by omega) (by omega) (by omega) (by omega) (by omega)]
  rw [i64_or_gap 7 5 128 4096 (by decide) (by decide) (c + g * 4096 + H * 33554432) (rd * 128) (by omega) (by omega) (by omega) (by omega) (by omega) (by omega) (by decide)]
  rw [i64_or_gap 15 5 32768 1048576 (by decide) (by decide) (c + g * 4096 + H * 33554432 + rd * 128) (r1 * 32768) (by omega) (by omega) (by omega) (by omega) (by omega) (by omega) (by decide)]
  rw [i64_or_gap 20 5 1048576 33554432 (by decide) (by decide) (c + g * 4096 + H * 33554432 + rd * 128 + r1 * 32768) (r2 * 1048576) (by omega) (by omega) (by omega) (by omega) (by omega) (by omega) (by decide)]

/-- What a shape's numbers keep to. -/
def shOK (f c g h : Int) : Bool := decide (1 ≤ f) && decide (f ≤ 9) && decide (0 ≤ c) && decide (c < 128) && decide (0 ≤ g) && decide (g < 8) && decide (0 ≤ h) && decide (h < 64) &&
  (decide (f ≠ 1) || (decide (g = 0) && decide (h = 0))) && (decide (f ≠ 2) || (decide (g = 0) && decide (h = 0))) && (decide (f ≠ 3) || decide (h = 0)) && (decide (f ≠ 4) || decide (h = 0)) && (decide (f ≠ 5) || decide (h = 0)) && (decide (f ≠ 9) || decide (g = 0))

theorem lay_or (f c g h rd r1 r2 im : Int) (hs : shOK f c g h = true) (a0 : 0 ≤ rd) (a1 : rd ≤ 31) (b0 : 0 ≤ r1) (b1 : r1 ≤ 31) (c0 : 0 ≤ r2) (c1 : r2 ≤ 31)
    (hrd : f = 4 ∨ f = 5 ∨ f = 9 → rd = 0) (hr1 : f = 1 ∨ f = 2 ∨ f = 9 → r1 = 0) (hr2 : ¬ (f = 4 ∨ f = 5 ∨ f = 8) → r2 = 0) :
    bits .or .i64 (bits .or .i64 (fixW f c g h) (rd * 128 + r1 * 32768 + r2 * 1048576)) (layF f im) = encW f c g h rd r1 r2 im := by
  simp only [shOK, Bool.and_eq_true, Bool.or_eq_true, decide_eq_true_eq] at hs
  obtain ⟨⟨⟨⟨⟨⟨⟨⟨⟨⟨⟨⟨⟨f0, f1⟩, k0⟩, k1⟩, g0⟩, g1⟩, h0⟩, h1⟩, s1⟩, s2⟩, s3⟩, s4⟩, s5⟩, s9⟩ := hs
  unfold encW
  rcases (show f = 1 ∨ f = 2 ∨ f = 3 ∨ f = 4 ∨ f = 5 ∨ f = 6 ∨ f = 7 ∨ f = 8 ∨ f = 9 by omega) with rfl | rfl | rfl | rfl | rfl | rfl | rfl | rfl | rfl
  · have e : fixW 1 c g h = c + g * 4096 + h * 33554432 := rfl
    have l : layF 1 im = im / 4096 % 1048576 * 4096 := rfl
    rw [e, l, fix_regs c g h rd r1 r2 k0 k1 g0 g1 h0 (by omega) a0 a1 b0 b1 c0 c1]
    have p : 0 ≤ im / 4096 % 1048576 ∧ im / 4096 % 1048576 < 1048576 := by omega
    generalize im / 4096 % 1048576 = x at *
    exact i64_or_gap 12 20 4096 4294967296 (by decide) (by decide) _ _ (by omega) (by omega) (by omega) (by omega) (by omega) (by omega) (by decide)
  · have e : fixW 2 c g h = c + g * 4096 + h * 33554432 := rfl
    have l : layF 2 im = im / 4096 % 256 * 4096 + im / 2048 % 2 * 1048576 + im / 2 % 1024 * 2097152 + im / 1048576 % 2 * 2147483648 := rfl
    rw [e, l, fix_regs c g h rd r1 r2 k0 k1 g0 g1 h0 (by omega) a0 a1 b0 b1 c0 c1]
    have p : 0 ≤ im / 4096 % 256 ∧ im / 4096 % 256 < 256 := by omega
    have q : 0 ≤ im / 2048 % 2 ∧ im / 2048 % 2 < 2 := by omega
    have r : 0 ≤ im / 2 % 1024 ∧ im / 2 % 1024 < 1024 := by omega
    have s : 0 ≤ im / 1048576 % 2 ∧ im / 1048576 % 2 < 2 := by omega
    generalize im / 4096 % 256 = x at *
    generalize im / 2048 % 2 = y at *
    generalize im / 2 % 1024 = z at *
    generalize im / 1048576 % 2 = u at *
    exact i64_or_gap 12 20 4096 4294967296 (by decide) (by decide) _ _ (by omega) (by omega) (by omega) (by omega) (by omega) (by omega) (by decide)
  · have e : fixW 3 c g h = c + g * 4096 + h * 33554432 := rfl
    have l : layF 3 im = im % 4096 * 1048576 := rfl
    rw [e, l, fix_regs c g h rd r1 r2 k0 k1 g0 g1 h0 (by omega) a0 a1 b0 b1 c0 c1]
    have p : 0 ≤ im % 4096 ∧ im % 4096 < 4096 := by omega
    generalize im % 4096 = x at *
    exact i64_or_gap 20 12 1048576 4294967296 (by decide) (by decide) _ _ (by omega) (by omega) (by omega) (by omega) (by omega) (by omega) (by decide)
  · have e : fixW 4 c g h = c + g * 4096 + h * 33554432 := rfl
    have l : layF 4 im = (im / 2048 % 2 * 128 + im / 2 % 16 * 256) + (im / 32 % 64 * 33554432 + im / 4096 % 2 * 2147483648) := by
      show im / 2048 % 2 * 128 + im / 2 % 16 * 256 + im / 32 % 64 * 33554432 + im / 4096 % 2 * 2147483648 = _
      omega
    rw [e, l, fix_regs c g h rd r1 r2 k0 k1 g0 g1 h0 (by omega) a0 a1 b0 b1 c0 c1]
    have p : 0 ≤ im / 2048 % 2 * 128 + im / 2 % 16 * 256 ∧ im / 2048 % 2 * 128 + im / 2 % 16 * 256 < 4096 ∧ (im / 2048 % 2 * 128 + im / 2 % 16 * 256) % 128 = 0 := by omega
    have q : 0 ≤ im / 32 % 64 * 33554432 + im / 4096 % 2 * 2147483648 ∧ im / 32 % 64 * 33554432 + im / 4096 % 2 * 2147483648 < 4294967296 ∧ (im / 32 % 64 * 33554432 + im / 4096 % 2 * 2147483648) % 33554432 = 0 := by omega
    generalize im / 2048 % 2 * 128 + im / 2 % 16 * 256 = x at *
    generalize im / 32 % 64 * 33554432 + im / 4096 % 2 * 2147483648 = y at *
    obtain ⟨p0, p1, p2⟩ := p
    obtain ⟨q0, q1, q2⟩ := q
    have hrd0 := hrd (by omega)
    have hh := s4.resolve_left (by omega)
    rw [← i64_or_gap 25 7 33554432 4294967296 (by decide) (by decide) x y (by omega) (by omega) (by omega) (by omega) (by omega) (by omega) (by decide)]
    rw [or_assoc_i _ _ _ (by omega) (by omega) (by omega) (by omega) (by omega) (by omega)]
    rw [i64_or_gap 7 5 128 4096 (by decide) (by decide) _ x (by omega) (by omega) (by omega) (by omega) (by omega) (by omega) (by decide)]
    rw [i64_or_gap 25 7 33554432 4294967296 (by decide) (by decide) _ y (by omega) (by omega) (by omega) (by omega) (by omega) (by omega) (by decide)]
    rw [i64_or_gap 25 7 33554432 4294967296 (by decide) (by decide) x y (by omega) (by omega) (by omega) (by omega) (by omega) (by omega) (by decide)]
    omega
  · have e : fixW 5 c g h = c + g * 4096 + h * 33554432 := rfl
    have l : layF 5 im = im % 32 * 128 + im / 32 % 128 * 33554432 := rfl
    rw [e, l, fix_regs c g h rd r1 r2 k0 k1 g0 g1 h0 (by omega) a0 a1 b0 b1 c0 c1]
    have p : 0 ≤ im % 32 ∧ im % 32 < 32 := by omega
    have q : 0 ≤ im / 32 % 128 ∧ im / 32 % 128 < 128 := by omega
    generalize im % 32 = x at *
    generalize im / 32 % 128 = y at *
    have hrd0 := hrd (by omega)
    have hh := s5.resolve_left (by omega)
    rw [← i64_or_gap 25 7 33554432 4294967296 (by decide) (by decide) (x * 128) (y * 33554432) (by omega) (by omega) (by omega) (by omega) (by omega) (by omega) (by decide)]
    rw [or_assoc_i _ _ _ (by omega) (by omega) (by omega) (by omega) (by omega) (by omega)]
    rw [i64_or_gap 7 5 128 4096 (by decide) (by decide) _ (x * 128) (by omega) (by omega) (by omega) (by omega) (by omega) (by omega) (by decide)]
    rw [i64_or_gap 25 7 33554432 4294967296 (by decide) (by decide) _ (y * 33554432) (by omega) (by omega) (by omega) (by omega) (by omega) (by omega) (by decide)]
    rw [i64_or_gap 25 7 33554432 4294967296 (by decide) (by decide) (x * 128) (y * 33554432) (by omega) (by omega) (by omega) (by omega) (by omega) (by omega) (by decide)]
    omega
  · have e : fixW 6 c g h = c + g * 4096 + (h / 2 * 2) * 33554432 := by
      show c + g * 4096 + h / 2 * 67108864 = _
      omega
    have l : layF 6 im = im % 64 * 1048576 := rfl
    rw [e, l, fix_regs c g (h / 2 * 2) rd r1 r2 k0 k1 g0 g1 (by omega) (by omega) a0 a1 b0 b1 c0 c1]
    have p : 0 ≤ im % 64 ∧ im % 64 < 64 := by omega
    generalize im % 64 = x at *
    have q : 0 ≤ h / 2 ∧ h / 2 < 32 := by omega
    generalize h / 2 = y at *
    exact i64_or_gap 20 6 1048576 67108864 (by decide) (by decide) _ _ (by omega) (by omega) (by omega) (by omega) (by omega) (by omega) (by decide)
  · have e : fixW 7 c g h = c + g * 4096 + h * 33554432 := rfl
    have l : layF 7 im = im % 32 * 1048576 := rfl
    rw [e, l, fix_regs c g h rd r1 r2 k0 k1 g0 g1 h0 (by omega) a0 a1 b0 b1 c0 c1]
    have p : 0 ≤ im % 32 ∧ im % 32 < 32 := by omega
    generalize im % 32 = x at *
    exact i64_or_gap 20 5 1048576 33554432 (by decide) (by decide) _ _ (by omega) (by omega) (by omega) (by omega) (by omega) (by omega) (by decide)
  · have e : fixW 8 c g h = c + g * 4096 + h * 33554432 := rfl
    have l : layF 8 im = 0 := rfl
    rw [e, l, fix_regs c g h rd r1 r2 k0 k1 g0 g1 h0 (by omega) a0 a1 b0 b1 c0 c1, or_z _ (by omega) (by omega)]
    omega
  · have e : fixW 9 c g h = c + g * 4096 + h * 1048576 := rfl
    have l : layF 9 im = 0 := rfl
    have z0 := hrd (by omega)
    have z1 := hr1 (by omega)
    have z2 := hr2 (by omega)
    subst z0 z1 z2
    rw [e, l, show (0 : Int) * 128 + 0 * 32768 + 0 * 1048576 = 0 by decide, or_z (c + g * 4096 + h * 1048576) (by omega) (by omega), or_z (c + g * 4096 + h * 1048576) (by omega) (by omega)]
    omega
end Go.Proofs.YtodikjjajncimaaDoor

namespace Go.Proofs.YtodikjjajncimaaDoor

theorem dd (a : Int) {b : Int} (c : Int) (hb : 0 ≤ b) : a / b / c = a / (b * c) := by
  rw [Int.ediv_ediv, if_neg (fun h => absurd h.1 (by omega)), Int.sub_zero]
theorem div_up (a lo : Int) (k j : Nat) (h0 : 0 ≤ lo) (h1 : lo < 2 ^ k) : (a * 2 ^ k + lo) / 2 ^ (k + j) = a / 2 ^ j := by
  rw [Int.pow_add, ← dd _ _ (Int.le_of_lt (pow_pos k)), Int.add_comm, Int.add_mul_ediv_right _ _ (Int.ne_of_gt (pow_pos k)), Int.ediv_eq_zero_of_lt h0 h1, Int.zero_add]
theorem bit_up (a lo : Int) (k j : Nat) (h0 : 0 ≤ lo) (h1 : lo < 2 ^ k) : bitT (a * 2 ^ k + lo) (k + j) = bitT a j := by
  unfold bitT
  rw [div_up a lo k j h0 h1]
theorem bit_mod (v : Int) (n i : Nat) (h : i < n) : bitT (v % 2 ^ n) i = bitT v i := by
  have e : v = v % 2 ^ n + (v / 2 ^ n) * 2 ^ n := by have := Int.emod_add_mul_ediv v (2 ^ n); rw [Int.mul_comm]; exact this.symm
  have := bit_far (v % 2 ^ n) (v / 2 ^ n) n i h
  rw [← e] at this
  exact this.symm

/-- The word with the number laid at a free place. -/
def putT (word v : Int) (low count : Nat) : Int := word + v % 2 ^ count * 2 ^ low

theorem put_bit (word v : Int) (low count i : Nat) (_hw : 0 ≤ word) (hz : word / 2 ^ low % 2 ^ count = 0) :
    bitT (putT word v low count) i = if low ≤ i ∧ i < low + count then bitT v (i - low) else bitT word i := by
  obtain ⟨hi, lo, hlo0, hlo1, e⟩ : ∃ hi lo : Int, 0 ≤ lo ∧ lo < 2 ^ low ∧ word = hi * 2 ^ (low + count) + lo := by
    refine ⟨word / 2 ^ (low + count), word % 2 ^ low, Int.emod_nonneg _ (Int.ne_of_gt (pow_pos low)), Int.emod_lt_of_pos _ (pow_pos low), ?_⟩
    have h1 := Int.emod_add_mul_ediv word (2 ^ low)
    have h2 := Int.emod_add_mul_ediv (word / 2 ^ low) (2 ^ count)
    rw [hz, dd _ _ (Int.le_of_lt (pow_pos low)), ← Int.pow_add] at h2
    have h3 : word / 2 ^ (low + count) * 2 ^ (low + count) = 2 ^ low * (word / 2 ^ low) := by
      rw [← h2, Int.pow_add]
      rw [Int.zero_add, Int.mul_comm, Int.mul_assoc]
    omega
  have e2 : putT word v low count = (hi * 2 ^ count + v % 2 ^ count) * 2 ^ low + lo := by
    unfold putT
    rw [e, Int.add_mul, Int.pow_add]
    have : hi * (2 ^ low * 2 ^ count) = hi * 2 ^ count * 2 ^ low := by simp only [Int.mul_comm, Int.mul_left_comm]
    omega
  have hp := pow_pos count
  by_cases h1 : i < low
  · rw [if_neg (by omega), e2, e]
    have a1 := bit_far lo (hi * 2 ^ count + v % 2 ^ count) low i h1
    have a2 := bit_far lo hi (low + count) i (by omega)
    rw [Int.add_comm] at a1 a2
    rw [a1, a2]
  obtain ⟨j, rfl⟩ : ∃ j, i = low + j := ⟨i - low, by omega⟩
  rw [e2, bit_up _ lo low j hlo0 hlo1]
  by_cases h2 : j < count
  · rw [if_pos (by omega), Nat.add_sub_cancel_left]
    have a1 := bit_far (v % 2 ^ count) hi count j h2
    rw [Int.add_comm] at a1
    rw [a1, bit_mod v count j h2]
  · rw [if_neg (by omega), e]
    obtain ⟨m, rfl⟩ : ∃ m, j = count + m := ⟨j - count, by omega⟩
    rw [bit_up hi (v % 2 ^ count) count m (Int.emod_nonneg _ (Int.ne_of_gt hp)) (Int.emod_lt_of_pos _ hp)]
    have hl2 : lo < 2 ^ (low + count) := by
      have : (2 : Int) ^ low ≤ 2 ^ (low + count) := pow_le (by omega)
      omega
    rw [show low + (count + m) = (low + count) + m by omega, bit_up hi lo (low + count) m hlo0 hl2]

theorem int_half (s : Int) (k : Nat) : s / 2 ^ k = 2 * (s / 2 ^ (k + 1)) + bitT s k := by
  unfold bitT
  rw [Int.pow_succ, ← dd _ _ (Int.le_of_lt (pow_pos k))]
  omega

theorem put_bd (word v : Int) (low count : Nat) (hw : 0 ≤ word) (hw2 : word < 2 ^ 32) (h : low + count ≤ 32) (hz : word / 2 ^ low % 2 ^ count = 0) : 0 ≤ putT word v low count ∧ putT word v low count < 2 ^ 32 := by
  have h0 : 0 ≤ v % 2 ^ count := Int.emod_nonneg _ (Int.ne_of_gt (pow_pos count))
  have h00 : 0 ≤ v % 2 ^ count * 2 ^ low := Int.mul_nonneg h0 (Int.le_of_lt (pow_pos low))
  refine ⟨by unfold putT; omega, ?_⟩
  -- all bits from 32 on are 0
  have hd : putT word v low count / 2 ^ 32 = 0 := by
    have hb : ∀ m, bitT (putT word v low count) (32 + m) = bitT word (32 + m) := fun m => by
      rw [put_bit word v low count (32 + m) hw hz, if_neg (by omega)]
    have h1 : v % 2 ^ count < 2 ^ count := Int.emod_lt_of_pos _ (pow_pos count)
    obtain ⟨d, hd⟩ : ∃ d, 32 = low + count + d := ⟨32 - low - count, by omega⟩
    obtain ⟨hi, lo, hlo0, hlo1, e⟩ : ∃ hi lo : Int, 0 ≤ lo ∧ lo < 2 ^ low ∧ word = hi * 2 ^ (low + count) + lo := by
      refine ⟨word / 2 ^ (low + count), word % 2 ^ low, Int.emod_nonneg _ (Int.ne_of_gt (pow_pos low)), Int.emod_lt_of_pos _ (pow_pos low), ?_⟩
      have h1 := Int.emod_add_mul_ediv word (2 ^ low)
      have h2 := Int.emod_add_mul_ediv (word / 2 ^ low) (2 ^ count)
      rw [hz, dd _ _ (Int.le_of_lt (pow_pos low)), ← Int.pow_add] at h2
      have h3 : word / 2 ^ (low + count) * 2 ^ (low + count) = 2 ^ low * (word / 2 ^ low) := by
        rw [← h2, Int.pow_add]
        rw [Int.zero_add, Int.mul_comm, Int.mul_assoc]
      omega
    have e2 : putT word v low count = (hi * 2 ^ count + v % 2 ^ count) * 2 ^ low + lo := by
      unfold putT
      rw [e, Int.add_mul, Int.pow_add]
      have : hi * (2 ^ low * 2 ^ count) = hi * 2 ^ count * 2 ^ low := by simp only [Int.mul_comm, Int.mul_left_comm]
      omega
    have hl2 : lo < 2 ^ (low + count) := by
      have : (2 : Int) ^ low ≤ 2 ^ (low + count) := pow_le (by omega)
      omega
    have w0 : word / 2 ^ 32 = 0 := Int.ediv_eq_zero_of_lt hw hw2
    rw [hd] at w0 ⊢
    rw [e, div_up hi lo (low + count) d hlo0 hl2] at w0
    rw [e2, show low + count + d = low + (count + d) by omega, div_up _ lo low (count + d) hlo0 hlo1, div_up hi _ count d h0 h1]
    exact w0
  have hm := Int.emod_add_mul_ediv (putT word v low count) (2 ^ 32)
  rw [hd] at hm
  have hl := Int.emod_lt_of_pos (putT word v low count) (pow_pos 32)
  omega
end Go.Proofs.YtodikjjajncimaaDoor
