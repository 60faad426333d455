/- An instruction's word: plain. -/
import Derived.Test.YtjpdjalhhokghaaDoorGXInstrOK7
import Derived.Test.YtjpdjalhhokghaaDoorGXInstrOK8
namespace Go.Proofs.YtjpdjalhhokghaaDoor

/-- The fixed bits of a shape. -/
def fixW (f c g h : Int) : Int := if f = 6 then c + g * 4096 + h / 2 * 67108864 else if f = 9 then c + g * 4096 + h * 1048576 else c + g * 4096 + h * 33554432
/-- An instruction's word. -/
def encW (f c g h rd r1 r2 im : Int) : Int := fixW f c g h + rd * 128 + r1 * 32768 + r2 * 1048576 + layF f im

theorem regs_or (rd r1 r2 : Int) (a0 : 0 ≤ rd) (a1 : rd ≤ 31) (b0 : 0 ≤ r1) (b1 : r1 ≤ 31) (c0 : 0 ≤ r2) (c1 : r2 ≤ 31) :
    bits .or .i64 (bits .or .i64 (rd * 128) (r1 * 32768)) (r2 * 1048576) = rd * 128 + r1 * 32768 + r2 * 1048576 := by
  rw [i64_or_gap 15 5 32768 1048576 (by decide) (by decide) (rd * 128) (r1 * 32768) (by omega) (by omega) (by omega) (by omega) (by omega) (by omega) (by decide)]
  rw [i64_or_gap 20 5 1048576 33554432 (by decide) (by decide) (rd * 128 + r1 * 32768) (r2 * 1048576) (by omega) (by omega) (by omega) (by omega) (by omega) (by omega) (by decide)]

theorem or_assoc_i (x y z : Int) (x0 : 0 ≤ x) (x1 : x < 4294967296) (y0 : 0 ≤ y) (y1 : y < 4294967296) (z0 : 0 ≤ z) (z1 : z < 4294967296) :
    bits .or .i64 x (bits .or .i64 y z) = bits .or .i64 (bits .or .i64 x y) z := by
  obtain ⟨x, rfl⟩ := Int.eq_ofNat_of_zero_le x0
  obtain ⟨y, rfl⟩ := Int.eq_ofNat_of_zero_le y0
  obtain ⟨z, rfl⟩ := Int.eq_ofNat_of_zero_le z0
  have h1 : x ||| y < 2 ^ 32 := Nat.or_lt_two_pow (by omega) (by omega)
  have h2 : y ||| z < 2 ^ 32 := Nat.or_lt_two_pow (by omega) (by omega)
  rw [i64_or_nat y z (by omega) (by omega), i64_or_nat x y (by omega) (by omega), i64_or_nat x (y ||| z) (by omega) (by omega), i64_or_nat (x ||| y) z (by omega) (by omega), Nat.or_assoc]

/-- Fixed bits (none of 7 to 11, 15 to 24) and the registers. -/
theorem fix_regs (c g H rd r1 r2 : Int) (k0 : 0 ≤ c) (k1 : c < 128) (g0 : 0 ≤ g) (g1 : g < 8) (h0 : 0 ≤ H) (h1 : H < 128) (a0 : 0 ≤ rd) (a1 : rd ≤ 31) (b0 : 0 ≤ r1) (b1 : r1 ≤ 31) (c0 : 0 ≤ r2) (c1 : r2 ≤ 31) :
    bits .or .i64 (c + g * 4096 + H * 33554432) (rd * 128 + r1 * 32768 + r2 * 1048576) = c + g * 4096 + H * 33554432 + rd * 128 + r1 * 32768 + r2 * 1048576 := by
  rw [← i64_or_gap 20 5 1048576 33554432 (by decide) (by decide) (rd * 128 + r1 * 32768) (r2 * 1048576) (by omega) (by omega) (by omega) (by omega) (by omega) (by omega) (by decide)]
  rw [or_assoc_i _ _ _ (by omega) (by omega) (by omega) (by omega) (by omega) (by omega)]
  rw [← i64_or_gap 15 5 32768 1048576 (by decide) (by decide) (rd * 128) (r1 * 32768) (by omega) (by omega) (by omega) (by omega) (by omega) (by omega) (by decide)]
  rw [or_assoc_i _ _ _ (by omega) (by omega) (by omega) (by omega) (by omega) (by omega)]
  rw [i64_or_gap 7 5 128 4096 (by decide) (by decide) (c + g * 4096 + H * 33554432) (rd * 128) (by omega) (by omega) (by omega) (by omega) (by omega) (by omega) (by decide)]
  rw [i64_or_gap 15 5 32768 1048576 (by decide) (by decide) (c + g * 4096 + H * 33554432 + rd * 128) (r1 * 32768) (by omega) (by omega) (by omega) (by omega) (by omega) (by omega) (by decide)]
  rw [i64_or_gap 20 5 1048576 33554432 (by decide) (by decide) (c + g * 4096 + H * 33554432 + rd * 128 + r1 * 32768) (r2 * 1048576) (by omega) (by omega) (by omega) (by omega) (by omega) (by omega) (by decide)]

/-- What a shape's numbers keep to. -/
def shOK (f c g h : Int) : Bool := decide (1 ≤ f) && decide (f ≤ 9) && decide (0 ≤ c) && decide (c < 128) && decide (0 ≤ g) && decide (g < 8) && decide (0 ≤ h) && decide (h < 64) &&
  (decide (f ≠ 1) || (decide (g = 0) && decide (h = 0))) && (decide (f ≠ 2) || (decide (g = 0) && decide (h = 0))) && (decide (f ≠ 3) || decide (h = 0)) && (decide (f ≠ 4) || decide (h = 0)) && (decide (f ≠ 5) || decide (h = 0)) && (decide (f ≠ 9) || decide (g = 0))

theorem lay_or (f c g h rd r1 r2 im : Int) (hs : shOK f c g h = true) (a0 : 0 ≤ rd) (a1 : rd ≤ 31) (b0 : 0 ≤ r1) (b1 : r1 ≤ 31) (c0 : 0 ≤ r2) (c1 : r2 ≤ 31)
    (hrd : f = 4 ∨ f = 5 ∨ f = 9 → rd = 0) (hr1 : f = 1 ∨ f = 2 ∨ f = 9 → r1 = 0) (hr2 : ¬ (f = 4 ∨ f = 5 ∨ f = 8) → r2 = 0) :
    bits .or .i64 (bits .or .i64 (fixW f c g h) (rd * 128 + r1 * 32768 + r2 * 1048576)) (layF f im) = encW f c g h rd r1 r2 im := by
  simp only [shOK, Bool.and_eq_true, Bool.or_eq_true, decide_eq_true_eq] at hs
  obtain ⟨⟨⟨⟨⟨⟨⟨⟨⟨⟨⟨⟨⟨f0, f1⟩, k0⟩, k1⟩, g0⟩, g1⟩, h0⟩, h1⟩, s1⟩, s2⟩, s3⟩, s4⟩, s5⟩, s9⟩ := hs
  unfold encW
  rcases (show f = 1 ∨ f = 2 ∨ f = 3 ∨ f = 4 ∨ f = 5 ∨ f = 6 ∨ f = 7 ∨ f = 8 ∨ f = 9 by omega) with rfl | rfl | rfl | rfl | rfl | rfl | rfl | rfl | rfl
  · have e : fixW 1 c g h = c + g * 4096 + h * 33554432 := rfl
    have l : layF 1 im = im / 4096 % 1048576 * 4096 := rfl
    rw [e, l, fix_regs c g h rd r1 r2 k0 k1 g0 g1 h0 (by omega) a0 a1 b0 b1 c0 c1]
    have p : 0 ≤ im / 4096 % 1048576 ∧ im / 4096 % 1048576 < 1048576 := by omega
    generalize im / 4096 % 1048576 = x at *
    exact i64_or_gap 12 20 4096 4294967296 (by decide) (by decide) _ _ (by omega) (by omega) (by omega) (by omega) (by omega) (by omega) (by decide)
  · have e : fixW 2 c g h = c + g * 4096 + h * 33554432 := rfl
    have l : layF 2 im = im / 4096 % 256 * 4096 + im / 2048 % 2 * 1048576 + im / 2 % 1024 * 2097152 + im / 1048576 % 2 * 2147483648 := rfl
    rw [e, l, fix_regs c g h rd r1 r2 k0 k1 g0 g1 h0 (by omega) a0 a1 b0 b1 c0 c1]
    have p : 0 ≤ im / 4096 % 256 ∧ im / 4096 % 256 < 256 := by omega
    have q : 0 ≤ im / 2048 % 2 ∧ im / 2048 % 2 < 2 := by omega
    have r : 0 ≤ im / 2 % 1024 ∧ im / 2 % 1024 < 1024 := by omega
    have s : 0 ≤ im / 1048576 % 2 ∧ im / 1048576 % 2 < 2 := by omega
    generalize im / 4096 % 256 = x at *
    generalize im / 2048 % 2 = y at *
    generalize im / 2 % 1024 = z at *
    generalize im / 1048576 % 2 = u at *
    exact i64_or_gap 12 20 4096 4294967296 (by decide) (by decide) _ _ (by omega) (by omega) (by omega) (by omega) (by omega) (by omega) (by decide)
  · have e : fixW 3 c g h = c + g * 4096 + h * 33554432 := rfl
    have l : layF 3 im = im % 4096 * 1048576 := rfl
    rw [e, l, fix_regs c g h rd r1 r2 k0 k1 g0 g1 h0 (by omega) a0 a1 b0 b1 c0 c1]
    have p : 0 ≤ im % 4096 ∧ im % 4096 < 4096 := by omega
    generalize im % 4096 = x at *
    exact i64_or_gap 20 12 1048576 4294967296 (by decide) (by decide) _ _ (by omega) (by omega) (by omega) (by omega) (by omega) (by omega) (by decide)
  · have e : fixW 4 c g h = c + g * 4096 + h * 33554432 := rfl
    have l : layF 4 im = (im / 2048 % 2 * 128 + im / 2 % 16 * 256) + (im / 32 % 64 * 33554432 + im / 4096 % 2 * 2147483648) := by
      show im / 2048 % 2 * 128 + im / 2 % 16 * 256 + im / 32 % 64 * 33554432 + im / 4096 % 2 * 2147483648 = _
      omega
    rw [e, l, fix_regs c g h rd r1 r2 k0 k1 g0 g1 h0 (by omega) a0 a1 b0 b1 c0 c1]
    have p : 0 ≤ im / 2048 % 2 * 128 + im / 2 % 16 * 256 ∧ im / 2048 % 2 * 128 + im / 2 % 16 * 256 < 4096 ∧ (im / 2048 % 2 * 128 + im / 2 % 16 * 256) % 128 = 0 := by omega
    have q : 0 ≤ im / 32 % 64 * 33554432 + im / 4096 % 2 * 2147483648 ∧ im / 32 % 64 * 33554432 + im / 4096 % 2 * 2147483648 < 4294967296 ∧ (im / 32 % 64 * 33554432 + im / 4096 % 2 * 2147483648) % 33554432 = 0 := by omega
    generalize im / 2048 % 2 * 128 + im / 2 % 16 * 256 = x at *
    generalize im / 32 % 64 * 33554432 + im / 4096 % 2 * 2147483648 = y at *
    obtain ⟨p0, p1, p2⟩ := p
    obtain ⟨q0, q1, q2⟩ := q
    have hrd0 := hrd (by omega)
    have hh := s4.resolve_left (by omega)
    rw [← i64_or_gap 25 7 33554432 4294967296 (by decide) (by decide) x y (by omega) (by omega) (by omega) (by omega) (by omega) (by omega) (by decide)]
    rw [or_assoc_i _ _ _ (by omega) (by omega) (by omega) (by omega) (by omega) (by omega)]
    rw [i64_or_gap 7 5 128 4096 (by decide) (by decide) _ x (by omega) (by omega) (by omega) (by omega) (by omega) (by omega) (by decide)]
    rw [i64_or_gap 25 7 33554432 4294967296 (by decide) (by decide) _ y (by omega) (by omega) (by omega) (by omega) (by omega) (by omega) (by decide)]
    rw [i64_or_gap 25 7 33554432 4294967296 (by decide) (by decide) x y (by omega) (by omega) (by omega) (by omega) (by omega) (by omega) (by decide)]
    omega
  · have e : fixW 5 c g h = c + g * 4096 + h * 33554432 := rfl
    have l : layF 5 im = im % 32 * 128 + im / 32 % 128 * 33554432 := rfl
    rw [e, l, fix_regs c g h rd r1 r2 k0 k1 g0 g1 h0 (by omega) a0 a1 b0 b1 c0 c1]
    have p : 0 ≤ im % 32 ∧ im % 32 < 32 := by omega
    have q : 0 ≤ im / 32 % 128 ∧ im / 32 % 128 < 128 := by omega
    generalize im % 32 = x at *
    generalize im / 32 % 128 = y at *
    have hrd0 := hrd (by omega)
    have hh := s5.resolve_left (by omega)
    rw [← i64_or_gap 25 7 33554432 4294967296 (by decide) (by decide) (x * 128) (y * 33554432) (by omega) (by omega) (by omega) (by omega) (by omega) (by omega) (by decide)]
    rw [or_assoc_i _ _ _ (by omega) (by omega) (by omega) (by omega) (by omega) (by omega)]
    rw [i64_or_gap 7 5 128 4096 (by decide) (by decide) _ (x * 128) (by omega) (by omega) (by omega) (by omega) (by omega) (by omega) (by decide)]
    rw [i64_or_gap 25 7 33554432 4294967296 (by decide) (by decide) _ (y * 33554432) (by omega) (by omega) (by omega) (by omega) (by omega) (by omega) (by decide)]
    rw [i64_or_gap 25 7 33554432 4294967296 (by decide) (by decide) (x * 128) (y * 33554432) (by omega) (by omega) (by omega) (by omega) (by omega) (by omega) (by decide)]
    omega
  · have e : fixW 6 c g h = c + g * 4096 + (h / 2 * 2) * 33554432 := by
      show c + g * 4096 + h / 2 * 67108864 = _
      omega
    have l : layF 6 im = im % 64 * 1048576 := rfl
    rw [e, l, fix_regs c g (h / 2 * 2) rd r1 r2 k0 k1 g0 g1 (by omega) (by omega) a0 a1 b0 b1 c0 c1]
    have p : 0 ≤ im % 64 ∧ im % 64 < 64 := by omega
    generalize im % 64 = x at *
    have q : 0 ≤ h / 2 ∧ h / 2 < 32 := by omega
    generalize h / 2 = y at *
    exact i64_or_gap 20 6 1048576 67108864 (by decide) (by decide) _ _ (by omega) (by omega) (by omega) (by omega) (by omega) (by omega) (by decide)
  · have e : fixW 7 c g h = c + g * 4096 + h * 33554432 := rfl
    have l : layF 7 im = im % 32 * 1048576 := rfl
    rw [e, l, fix_regs c g h rd r1 r2 k0 k1 g0 g1 h0 (by omega) a0 a1 b0 b1 c0 c1]
    have p : 0 ≤ im % 32 ∧ im % 32 < 32 := by omega
    generalize im % 32 = x at *
    exact i64_or_gap 20 5 1048576 33554432 (by decide) (by decide) _ _ (by omega) (by omega) (by omega) (by omega) (by omega) (by omega) (by decide)
  · have e : fixW 8 c g h = c + g * 4096 + h * 33554432 := rfl
    have l : layF 8 im = 0 := rfl
    rw [e, l, fix_regs c g h rd r1 r2 k0 k1 g0 g1 h0 (by omega) a0 a1 b0 b1 c0 c1, or_z _ (by omega) (by omega)]
    omega
  · have e : fixW 9 c g h = c + g * 4096 + h * 1048576 := rfl
    have l : layF 9 im = 0 := rfl
    have z0 := hrd (by omega)
    have z1 := hr1 (by omega)
    have z2 := hr2 (by omega)
    subst z0 z1 z2
    rw [e, l, show (0 : Int) * 128 + 0 * 32768 + 0 * 1048576 = 0 by decide, or_z (c + g * 4096 + h * 1048576) (by omega) (by omega), or_z (c + g * 4096 + h * 1048576) (by omega) (by omega)]
    omega
end Go.Proofs.YtjpdjalhhokghaaDoor
