/- How a form's number is laid into a word: plain. An instruction's word: plain. Which word is an instruction of which shape: plain. Contract of the model's test of bounds. -/
import Derived.Test.YtiandbhcjecphaaGreatDoorGLShape0
import Derived.Test.YtiandbhcjecphaaGreatDoorRows
import Derived.WalkKit
import Derived.WalkSpells
import Derived.ProofKit
namespace Go.Proofs.YtiandbhcjecphaaGreatDoor
open Go.RowKit

theorem and_1 (x : Int) : bits .and .i64 x 1 = x % 2 := i64_and_mask x 1 (by decide)
theorem and_4 (x : Int) : bits .and .i64 x 15 = x % 16 := i64_and_mask x 4 (by decide)
theorem and_5 (x : Int) : bits .and .i64 x 31 = x % 32 := i64_and_mask x 5 (by decide)
theorem and_6 (x : Int) : bits .and .i64 x 63 = x % 64 := i64_and_mask x 6 (by decide)
theorem and_7 (x : Int) : bits .and .i64 x 127 = x % 128 := i64_and_mask x 7 (by decide)
theorem and_8 (x : Int) : bits .and .i64 x 255 = x % 256 := i64_and_mask x 8 (by decide)
theorem and_10 (x : Int) : bits .and .i64 x 1023 = x % 1024 := i64_and_mask x 10 (by decide)
theorem and_12 (x : Int) : bits .and .i64 x 4095 = x % 4096 := i64_and_mask x 12 (by decide)
theorem and_20 (x : Int) : bits .and .i64 x 1048575 = x % 1048576 := i64_and_mask x 20 (by decide)
theorem and_0 (x : Int) : bits .and .i64 x 0 = 0 := by
  have := i64_and_mask x 0 (by decide)
  have e : (2 : Int) ^ 0 - 1 = 0 := by decide
  rw [e] at this
  rw [this]
  omega
theorem wrap_in (x : Int) (h0 : -9223372036854775808 ≤ x) (h1 : x ≤ 9223372036854775807) : wrap64 x = x := by
  unfold wrap64
  omega
theorem or_z (x : Int) (h0 : 0 ≤ x) (h1 : x < 9223372036854775808) : bits .or .i64 x 0 = x := by
  rw [i64_or_gap 0 0 1 1 (by decide) (by decide) x 0 h0 h1 (by omega) (by omega) (by omega) (by omega) (by omega)]
  omega
theorem z_or (x : Int) (h0 : 0 ≤ x) (h1 : x < 4611686018427387904) : bits .or .i64 0 x = x := by
  rw [i64_or_gap 0 62 1 4611686018427387904 (by decide) (by decide) 0 x (by omega) (by omega) (by omega) h0 (by omega) (by omega) (by omega)]
  omega
theorem layE1 (v : Int) : (bits .or .i64 (bits .or .i64 (bits .or .i64 (bits .or .i64 0 (wrap64 (bits .and .i64 (v / 4096) 1048575 * 4096))) (wrap64 (bits .and .i64 v 0))) (wrap64 (bits .and .i64 v 0))) (wrap64 (bits .and .i64 v 0))) = layF 1 v := by
  simp only [and_20, and_0]
  have p : 0 ≤ v / 4096 % 1048576 ∧ v / 4096 % 1048576 < 1048576 := by omega
  show _ = v / 4096 % 1048576 * 4096
  generalize v / 4096 % 1048576 = x0 at *
  rw [wrap_in (x0 * 4096) (by omega) (by omega)]
  rw [wrap_in 0 (by omega) (by omega)]
  rw [z_or (x0 * 4096) (by omega) (by omega)]
  rw [or_z (x0 * 4096) (by omega) (by omega)]
  rw [or_z (x0 * 4096) (by omega) (by omega)]
  rw [or_z (x0 * 4096) (by omega) (by omega)]
theorem layE2 (v : Int) : (bits .or .i64 (bits .or .i64 (bits .or .i64 (bits .or .i64 0 (wrap64 (bits .and .i64 (v / 4096) 255 * 4096))) (wrap64 (bits .and .i64 (v / 2048) 1 * 1048576))) (wrap64 (bits .and .i64 (v / 2) 1023 * 2097152))) (wrap64 (bits .and .i64 (v / 1048576) 1 * 2147483648))) = layF 2 v := by
  simp only [and_1, and_8, and_10]
  have p : 0 ≤ v / 4096 % 256 ∧ v / 4096 % 256 < 256 := by omega
  have q : 0 ≤ v / 2048 % 2 ∧ v / 2048 % 2 < 2 := by omega
  have r : 0 ≤ v / 2 % 1024 ∧ v / 2 % 1024 < 1024 := by omega
  have s : 0 ≤ v / 1048576 % 2 ∧ v / 1048576 % 2 < 2 := by omega
  show _ = v / 4096 % 256 * 4096 + v / 2048 % 2 * 1048576 + v / 2 % 1024 * 2097152 + v / 1048576 % 2 * 2147483648
  generalize v / 4096 % 256 = x0 at *
  generalize v / 2048 % 2 = x1 at *
  generalize v / 2 % 1024 = x2 at *
  generalize v / 1048576 % 2 = x3 at *
  rw [wrap_in (x0 * 4096) (by omega) (by omega)]
  rw [wrap_in (x1 * 1048576) (by omega) (by omega)]
  rw [wrap_in (x2 * 2097152) (by omega) (by omega)]
  rw [wrap_in (x3 * 2147483648) (by omega) (by omega)]
  rw [z_or (x0 * 4096) (by omega) (by omega)]
  rw [i64_or_gap 20 1 1048576 2097152 (by decide) (by decide) (x0 * 4096) (x1 * 1048576) (by omega) (by omega) (by omega) (by omega) (by omega) (by omega) (by decide)]
  rw [i64_or_gap 21 10 2097152 2147483648 (by decide) (by decide) (x0 * 4096 + x1 * 1048576) (x2 * 2097152) (by omega) (by omega) (by omega) (by omega) (by omega) (by omega) (by decide)]
  rw [i64_or_gap 31 1 2147483648 4294967296 (by decide) (by decide) (x0 * 4096 + x1 * 1048576 + x2 * 2097152) (x3 * 2147483648) (by omega) (by omega) (by omega) (by omega) (by omega) (by omega) (by decide)]
theorem layE3 (v : Int) : (bits .or .i64 (bits .or .i64 (bits .or .i64 (bits .or .i64 0 (wrap64 (bits .and .i64 v 4095 * 1048576))) (wrap64 (bits .and .i64 v 0))) (wrap64 (bits .and .i64 v 0))) (wrap64 (bits .and .i64 v 0))) = layF 3 v := by
  simp only [and_12, and_0]
  have p : 0 ≤ v % 4096 ∧ v % 4096 < 4096 := by omega
  show _ = v % 4096 * 1048576
  generalize v % 4096 = x0 at *
  rw [wrap_in (x0 * 1048576) (by omega) (by omega)]
  rw [wrap_in 0 (by omega) (by omega)]
  rw [z_or (x0 * 1048576) (by omega) (by omega)]
  rw [or_z (x0 * 1048576) (by omega) (by omega)]
  rw [or_z (x0 * 1048576) (by omega) (by omega)]
  rw [or_z (x0 * 1048576) (by omega) (by omega)]
theorem layE4 (v : Int) : (bits .or .i64 (bits .or .i64 (bits .or .i64 (bits .or .i64 0 (wrap64 (bits .and .i64 (v / 2048) 1 * 128))) (wrap64 (bits .and .i64 (v / 2) 15 * 256))) (wrap64 (bits .and .i64 (v / 32) 63 * 33554432))) (wrap64 (bits .and .i64 (v / 4096) 1 * 2147483648))) = layF 4 v := by
  simp only [and_1, and_4, and_6]
  have p : 0 ≤ v / 2048 % 2 ∧ v / 2048 % 2 < 2 := by omega
  have q : 0 ≤ v / 2 % 16 ∧ v / 2 % 16 < 16 := by omega
  have r : 0 ≤ v / 32 % 64 ∧ v / 32 % 64 < 64 := by omega
  have s : 0 ≤ v / 4096 % 2 ∧ v / 4096 % 2 < 2 := by omega
  show _ = v / 2048 % 2 * 128 + v / 2 % 16 * 256 + v / 32 % 64 * 33554432 + v / 4096 % 2 * 2147483648
  generalize v / 2048 % 2 = x0 at *
  generalize v / 2 % 16 = x1 at *
  generalize v / 32 % 64 = x2 at *
  generalize v / 4096 % 2 = x3 at *
  rw [wrap_in (x0 * 128) (by omega) (by omega)]
  rw [wrap_in (x1 * 256) (by omega) (by omega)]
  rw [wrap_in (x2 * 33554432) (by omega) (by omega)]
  rw [wrap_in (x3 * 2147483648) (by omega) (by omega)]
  rw [z_or (x0 * 128) (by omega) (by omega)]
  rw [i64_or_gap 8 4 256 4096 (by decide) (by decide) (x0 * 128) (x1 * 256) (by omega) (by omega) (by omega) (by omega) (by omega) (by omega) (by decide)]
  rw [i64_or_gap 25 6 33554432 2147483648 (by decide) (by decide) (x0 * 128 + x1 * 256) (x2 * 33554432) (by omega) (by omega) (by omega) (by omega) (by omega) (by omega) (by decide)]
  rw [i64_or_gap 31 1 2147483648 4294967296 (by decide) (by decide) (x0 * 128 + x1 * 256 + x2 * 33554432) (x3 * 2147483648) (by omega) (by omega) (by omega) (by omega) (by omega) (by omega) (by decide)]
theorem layE5 (v : Int) : (bits .or .i64 (bits .or .i64 (bits .or .i64 (bits .or .i64 0 (wrap64 (bits .and .i64 v 31 * 128))) (wrap64 (bits .and .i64 (v / 32) 127 * 33554432))) (wrap64 (bits .and .i64 v 0))) (wrap64 (bits .and .i64 v 0))) = layF 5 v := by
  simp only [and_5, and_7, and_0]
  have p : 0 ≤ v % 32 ∧ v % 32 < 32 := by omega
  have q : 0 ≤ v / 32 % 128 ∧ v / 32 % 128 < 128 := by omega
  show _ = v % 32 * 128 + v / 32 % 128 * 33554432
  generalize v % 32 = x0 at *
  generalize v / 32 % 128 = x1 at *
  rw [wrap_in (x0 * 128) (by omega) (by omega)]
  rw [wrap_in (x1 * 33554432) (by omega) (by omega)]
  rw [wrap_in 0 (by omega) (by omega)]
  rw [z_or (x0 * 128) (by omega) (by omega)]
  rw [i64_or_gap 25 7 33554432 4294967296 (by decide) (by decide) (x0 * 128) (x1 * 33554432) (by omega) (by omega) (by omega) (by omega) (by omega) (by omega) (by decide)]
  rw [or_z (x0 * 128 + x1 * 33554432) (by omega) (by omega)]
  rw [or_z (x0 * 128 + x1 * 33554432) (by omega) (by omega)]
theorem layE6 (v : Int) : (bits .or .i64 (bits .or .i64 (bits .or .i64 (bits .or .i64 0 (wrap64 (bits .and .i64 v 63 * 1048576))) (wrap64 (bits .and .i64 v 0))) (wrap64 (bits .and .i64 v 0))) (wrap64 (bits .and .i64 v 0))) = layF 6 v := by
  simp only [and_6, and_0]
  have p : 0 ≤ v % 64 ∧ v % 64 < 64 := by omega
  show _ = v % 64 * 1048576
  generalize v % 64 = x0 at *
  rw [wrap_in (x0 * 1048576) (by omega) (by omega)]
  rw [wrap_in 0 (by omega) (by omega)]
  rw [z_or (x0 * 1048576) (by omega) (by omega)]
  rw [or_z (x0 * 1048576) (by omega) (by omega)]
  rw [or_z (x0 * 1048576) (by omega) (by omega)]
  rw [or_z (x0 * 1048576) (by omega) (by omega)]
theorem layE7 (v : Int) : (bits .or .i64 (bits .or .i64 (bits .or .i64 (bits .or .i64 0 (wrap64 (bits .and .i64 v 31 * 1048576))) (wrap64 (bits .and .i64 v 0))) (wrap64 (bits .and .i64 v 0))) (wrap64 (bits .and .i64 v 0))) = layF 7 v := by
  simp only [and_5, and_0]
  have p : 0 ≤ v % 32 ∧ v % 32 < 32 := by omega
  show _ = v % 32 * 1048576
  generalize v % 32 = x0 at *
  rw [wrap_in (x0 * 1048576) (by omega) (by omega)]
  rw [wrap_in 0 (by omega) (by omega)]
  rw [z_or (x0 * 1048576) (by omega) (by omega)]
  rw [or_z (x0 * 1048576) (by omega) (by omega)]
  rw [or_z (x0 * 1048576) (by omega) (by omega)]
  rw [or_z (x0 * 1048576) (by omega) (by omega)]
theorem layE8 (v : Int) : (bits .or .i64 (bits .or .i64 (bits .or .i64 (bits .or .i64 0 (wrap64 (bits .and .i64 v 0))) (wrap64 (bits .and .i64 v 0))) (wrap64 (bits .and .i64 v 0))) (wrap64 (bits .and .i64 v 0))) = layF 8 v := by
  rw [and_0]
  show _ = 0
  rw [wrap_in 0 (by omega) (by omega), or_z 0 (by omega) (by omega), or_z 0 (by omega) (by omega), or_z 0 (by omega) (by omega), or_z 0 (by omega) (by omega)]
end Go.Proofs.YtiandbhcjecphaaGreatDoor

namespace Go.Proofs.YtiandbhcjecphaaGreatDoor

/-- The fixed bits of a shape. -/
def fixW (f c g h : Int) : Int := if f = 6 then c + g * 4096 + h / 2 * 67108864 else if f = 9 then c + g * 4096 + h * 1048576 else c + g * 4096 + h * 33554432
/-- An instruction's word. -/
def encW (f c g h rd r1 r2 im : Int) : Int := fixW f c g h + rd * 128 + r1 * 32768 + r2 * 1048576 + layF f im

theorem regs_or (rd r1 r2 : Int) (a0 : 0 ≤ rd) (a1 : rd ≤ 31) (b0 : 0 ≤ r1) (b1 : r1 ≤ 31) (c0 : 0 ≤ r2) (c1 : r2 ≤ 31) :
    bits .or .i64 (bits .or .i64 (rd * 128) (r1 * 32768)) (r2 * 1048576) = rd * 128 + r1 * 32768 + r2 * 1048576 := by
  rw [i64_or_gap 15 5 32768 1048576 (by decide) (by decide) (rd * 128) (r1 * 32768) (by omega) (by omega) (by omega) (by omega) (by omega) (by omega) (by decide)]
  rw [i64_or_gap 20 5 1048576 33554432 (by decide) (by decide) (rd * 128 + r1 * 32768) (r2 * 1048576) (by omega) (by omega) (by omega) (by omega) (by omega) (by omega) (by decide)]

theorem or_assoc_i (x y z : Int) (x0 : 0 ≤ x) (x1 : x < 4294967296) (y0 : 0 ≤ y) (y1 : y < 4294967296) (z0 : 0 ≤ z) (z1 : z < 4294967296) :
    bits .or .i64 x (bits .or .i64 y z) = bits .or .i64 (bits .or .i64 x y) z := by
  obtain ⟨x, rfl⟩ := Int.eq_ofNat_of_zero_le x0
  obtain ⟨y, rfl⟩ := Int.eq_ofNat_of_zero_le y0
  obtain ⟨z, rfl⟩ := Int.eq_ofNat_of_zero_le z0
  have h1 : x ||| y < 2 ^ 32 := Nat.or_lt_two_pow (by omega) (by omega)
  have h2 : y ||| z < 2 ^ 32 := Nat.or_lt_two_pow (by omega) (by omega)
  rw [i64_or_nat y z (by omega) (by omega), i64_or_nat x y (by omega) (by omega), i64_or_nat x (y ||| z) (by omega) (by omega), i64_or_nat (x ||| y) z (by omega) (by omega), Nat.or_assoc]

/-- Fixed bits (none of 7 to 11, 15 to 24) and the registers. -/
theorem fix_regs (c g H rd r1 r2 : Int) (k0 : 0 ≤ c) (k1 : c < 128) (g0 : 0 ≤ g) (g1 : g < 8) (h0 : 0 ≤ H) (h1 : H < 128) (a0 : 0 ≤ rd) (a1 : rd ≤ 31) (b0 : 0 ≤ r1) (b1 : r1 ≤ 31) (c0 : 0 ≤ r2) (c1 : r2 ≤ 31) :
    bits .or .i64 (c + g * 4096 + H * 33554432) (rd * 128 + r1 * 32768 + r2 * 1048576) = c + g * 4096 + H * 33554432 + rd * 128 + r1 * 32768 + r2 * 1048576 := by
  rw [← i64_or_gap 20 5 1048576 33554432 (by decide) (by decide) (rd * 128 + r1 * 32768) (r2 * 1048576) (by omega) (by omega) (by omega) (by omega) (by omega) (by omega) (by decide)]
  rw [or_assoc_i _ _ _ (by omega) (by omega) (by omega) (by omega) (by omega) (by omega)]
  rw [← i64_or_gap 15 5 32768 1048576 (by decide) (by decide) (rd * 128) (r1 * 32768) (by omega) (by omega) (by omega) (by omega) (by omega) (by omega) (by decide)]
  rw [or_assoc_i _ _ _ (by omega) (by omega) (by omega) (by omega) (by omega) (by omega)]
  rw [i64_or_gap 7 5 128 4096 (by decide) (by decide) (c + g * 4096 + H * 33554432) (rd * 128) (by omega) (by omega) (by omega) (by omega) (by omega) (by omega) (by decide)]
  rw [i64_or_gap 15 5 32768 1048576 (by decide) (by decide) (c + g * 4096 + H * 33554432 + rd * 128) (r1 * 32768) (by omega) (by omega) (by omega) (by omega) (by omega) (by omega) (by decide)]
  rw [i64_or_gap 20 5 1048576 33554432 (by decide) (by decide) (c + g * 4096 + H * 33554432 + rd * 128 + r1 * 32768) (r2 * 1048576) (by omega) (by omega) (by omega) (by omega) (by omega) (by omega) (by decide)]

/-- What a shape's numbers keep to. -/
def shOK (f c g h : Int) : Bool := decide (1 ≤ f) && decide (f ≤ 9) && decide (0 ≤ c) && decide (c < 128) && decide (0 ≤ g) && decide (g < 8) && decide (0 ≤ h) && decide (h < 64) &&
  (decide (f ≠ 1) || (decide (g = 0) && decide (h = 0))) && (decide (f ≠ 2) || (decide (g = 0) && decide (h = 0))) && (decide (f ≠ 3) || decide (h = 0)) && (decide (f ≠ 4) || decide (h = 0)) && (decide (f ≠ 5) || decide (h = 0)) && (decide (f ≠ 9) || decide (g = 0))

theorem lay_or (f c g h rd r1 r2 im : Int) (hs : shOK f c g h = true) (a0 : 0 ≤ rd) (a1 : rd ≤ 31) (b0 : 0 ≤ r1) (b1 : r1 ≤ 31) (c0 : 0 ≤ r2) (c1 : r2 ≤ 31)
    (hrd : f = 4 ∨ f = 5 ∨ f = 9 → rd = 0) (hr1 : f = 1 ∨ f = 2 ∨ f = 9 → r1 = 0) (hr2 : ¬ (f = 4 ∨ f = 5 ∨ f = 8) → r2 = 0) :
    bits .or .i64 (bits .or .i64 (fixW f c g h) (rd * 128 + r1 * 32768 + r2 * 1048576)) (layF f im) = encW f c g h rd r1 r2 im := by
  simp only [shOK, Bool.and_eq_true, Bool.or_eq_true, decide_eq_true_eq] at hs
  obtain ⟨⟨⟨⟨⟨⟨⟨⟨⟨⟨⟨⟨⟨f0, f1⟩, k0⟩, k1⟩, g0⟩, g1⟩, h0⟩, h1⟩, s1⟩, s2⟩, s3⟩, s4⟩, s5⟩, s9⟩ := hs
  unfold encW
  rcases (show f = 1 ∨ f = 2 ∨ f = 3 ∨ f = 4 ∨ f = 5 ∨ f = 6 ∨ f = 7 ∨ f = 8 ∨ f = 9 by omega) with rfl | rfl | rfl | rfl | rfl | rfl | rfl | rfl | rfl
  · have e : fixW 1 c g h = c + g * 4096 + h * 33554432 := rfl
    have l : layF 1 im = im / 4096 % 1048576 * 4096 := rfl
    rw [e, l, fix_regs c g h rd r1 r2 k0 k1 g0 g1 h0 (by omega) a0 a1 b0 b1 c0 c1]
    have p : 0 ≤ im / 4096 % 1048576 ∧ im / 4096 % 1048576 < 1048576 := by omega
    generalize im / 4096 % 1048576 = x at *
    exact i64_or_gap 12 20 4096 4294967296 (by decide) (by decide) _ _ (by omega) (by omega) (by omega) (by omega) (by omega) (by omega) (by decide)
  · have e : fixW 2 c g h = c + g * 4096 + h * 33554432 := rfl
    have l : layF 2 im = im / 4096 % 256 * 4096 + im / 2048 % 2 * 1048576 + im / 2 % 1024 * 2097152 + im / 1048576 % 2 * 2147483648 := rfl
    rw [e, l, fix_regs c g h rd r1 r2 k0 k1 g0 g1 h0 (by omega) a0 a1 b0 b1 c0 c1]
    have p : 0 ≤ im / 4096 % 256 ∧ im / 4096 % 256 < 256 := by omega
    have q : 0 ≤ im / 2048 % 2 ∧ im / 2048 % 2 < 2 := by omega
    have r : 0 ≤ im / 2 % 1024 ∧ im / 2 % 1024 < 1024 := by omega
    have s : 0 ≤ im / 1048576 % 2 ∧ im / 1048576 % 2 < 2 := by omega
    generalize im / 4096 % 256 = x at *
    generalize im / 2048 % 2 = y at *
    generalize im / 2 % 1024 = z at *
    generalize im / 1048576 % 2 = u at *
    exact i64_or_gap 12 20 4096 4294967296 (by decide) (by decide) _ _ (by omega) (by omega) (by omega) (by omega) (by omega) (by omega) (by decide)
  · have e : fixW 3 c g h = c + g * 4096 + h * 33554432 := rfl
    have l : layF 3 im = im % 4096 * 1048576 := rfl
    rw [e, l, fix_regs c g h rd r1 r2 k0 k1 g0 g1 h0 (by omega) a0 a1 b0 b1 c0 c1]
    have p : 0 ≤ im % 4096 ∧ im % 4096 < 4096 := by omega
    generalize im % 4096 = x at *
    exact i64_or_gap 20 12 1048576 4294967296 (by decide) (by decide) _ _ (by omega) (by omega) (by omega) (by omega) (by omega) (by omega) (by decide)
  · have e : fixW 4 c g h = c + g * 4096 + h * 33554432 := rfl
    have l : layF 4 im = (im / 2048 % 2 * 128 + im / 2 % 16 * 256) + (im / 32 % 64 * 33554432 + im / 4096 % 2 * 2147483648) := by
      show im / 2048 % 2 * 128 + im / 2 % 16 * 256 + im / 32 % 64 * 33554432 + im / 4096 % 2 * 2147483648 = _
      omega
    rw [e, l, fix_regs c g h rd r1 r2 k0 k1 g0 g1 h0 (by omega) a0 a1 b0 b1 c0 c1]
    have p : 0 ≤ im / 2048 % 2 * 128 + im / 2 % 16 * 256 ∧ im / 2048 % 2 * 128 + im / 2 % 16 * 256 < 4096 ∧ (im / 2048 % 2 * 128 + im / 2 % 16 * 256) % 128 = 0 := by omega
    have q : 0 ≤ im / 32 % 64 * 33554432 + im / 4096 % 2 * 2147483648 ∧ im / 32 % 64 * 33554432 + im / 4096 % 2 * 2147483648 < 4294967296 ∧ (im / 32 % 64 * 33554432 + im / 4096 % 2 * 2147483648) % 33554432 = 0 := by omega
    generalize im / 2048 % 2 * 128 + im / 2 % 16 * 256 = x at *
    generalize im / 32 % 64 * 33554432 + im / 4096 % 2 * 2147483648 = y at *
    obtain ⟨p0, p1, p2⟩ := p
    obtain ⟨q0, q1, q2⟩ := q
    have hrd0 := hrd (by omega)
    have hh := s4.resolve_left (by omega)
    rw [← i64_or_gap 25 7 33554432 4294967296 (by decide) (by decide) x y (by omega) (by omega) (by omega) (by omega) (by omega) (by omega) (by decide)]
    rw [or_assoc_i _ _ _ (by omega) (by omega) (by omega) (by omega) (by omega) (by omega)]
    rw [i64_or_gap 7 5 128 4096 (by decide) (by decide) _ x (by omega) (by omega) (by omega) (by omega) (by omega) (by omega) (by decide)]
    rw [i64_or_gap 25 7 33554432 4294967296 (by decide) (by decide) _ y (by omega) (by omega) (by omega) (by omega) (by omega) (by omega) (by decide)]
    rw [i64_or_gap 25 7 33554432 4294967296 (by decide) (by decide) x y (by omega) (by omega) (by omega) (by omega) (by omega) (by omega) (by decide)]
    omega
  · have e : fixW 5 c g h = c + g * 4096 + h * 33554432 := rfl
    have l : layF 5 im = im % 32 * 128 + im / 32 % 128 * 33554432 := rfl
    rw [e, l, fix_regs c g h rd r1 r2 k0 k1 g0 g1 h0 (by omega) a0 a1 b0 b1 c0 c1]
    have p : 0 ≤ im % 32 ∧ im % 32 < 32 := by omega
    have q : 0 ≤ im / 32 % 128 ∧ im / 32 % 128 < 128 := by omega
    generalize im % 32 = x at *
    generalize im / 32 % 128 = y at *
    have hrd0 := hrd (by omega)
    have hh := s5.resolve_left (by omega)
    rw [← i64_or_gap 25 7 33554432 4294967296 (by decide) (by decide) (x * 128) (y * 33554432) (by omega) (by omega) (by omega) (by omega) (by omega) (by omega) (by decide)]
    rw [or_assoc_i _ _ _ (by omega) (by omega) (by omega) (by omega) (by omega) (by omega)]
    rw [i64_or_gap 7 5 128 4096 (by decide) (by decide) _ (x * 128) (by omega) (by omega) (by omega) (by omega) (by omega) (by omega) (by decide)]
    rw [i64_or_gap 25 7 33554432 4294967296 (by decide) (by decide) _ (y * 33554432) (by omega) (by omega) (by omega) (by omega) (by omega) (by omega) (by decide)]
    rw [i64_or_gap 25 7 33554432 4294967296 (by decide) (by decide) (x * 128) (y * 33554432) (by omega) (by omega) (by omega) (by omega) (by omega) (by omega) (by decide)]
    omega
  · have e : fixW 6 c g h = c + g * 4096 + (h / 2 * 2) * 33554432 := by
      show c + g * 4096 + h / 2 * 67108864 = _
      omega
    have l : layF 6 im = im % 64 * 1048576 := rfl
    rw [e, l, fix_regs c g (h / 2 * 2) rd r1 r2 k0 k1 g0 g1 (by omega) (by omega) a0 a1 b0 b1 c0 c1]
    have p : 0 ≤ im % 64 ∧ im % 64 < 64 := by omega
    generalize im % 64 = x at *
    have q : 0 ≤ h / 2 ∧ h / 2 < 32 := by omega
    generalize h / 2 = y at *
    exact i64_or_gap 20 6 1048576 67108864 (by decide) (by decide) _ _ (by omega) (by omega) (by omega) (by omega) (by omega) (by omega) (by decide)
  · have e : fixW 7 c g h = c + g * 4096 + h * 33554432 := rfl
    have l : layF 7 im = im % 32 * 1048576 := rfl
    rw [e, l, fix_regs c g h rd r1 r2 k0 k1 g0 g1 h0 (by omega) a0 a1 b0 b1 c0 c1]
    have p : 0 ≤ im % 32 ∧ im % 32 < 32 := by omega
    generalize im % 32 = x at *
    exact i64_or_gap 20 5 1048576 33554432 (by decide) (by decide) _ _ (by omega) (by omega) (by omega) (by omega) (by omega) (by omega) (by decide)
  · have e : fixW 8 c g h = c + g * 4096 + h * 33554432 := rfl
    have l : layF 8 im = 0 := rfl
    rw [e, l, fix_regs c g h rd r1 r2 k0 k1 g0 g1 h0 (by omega) a0 a1 b0 b1 c0 c1, or_z _ (by omega) (by omega)]
    omega
  · have e : fixW 9 c g h = c + g * 4096 + h * 1048576 := rfl
    have l : layF 9 im = 0 := rfl
    have z0 := hrd (by omega)
    have z1 := hr1 (by omega)
    have z2 := hr2 (by omega)
    subst z0 z1 z2
    rw [e, l, show (0 : Int) * 128 + 0 * 32768 + 0 * 1048576 = 0 by decide, or_z (c + g * 4096 + h * 1048576) (by omega) (by omega), or_z (c + g * 4096 + h * 1048576) (by omega) (by omega)]
    omega
end Go.Proofs.YtiandbhcjecphaaGreatDoor

namespace Go.Proofs.YtiandbhcjecphaaGreatDoor

theorem and_at (w n k : Nat) : w &&& ((2 ^ n - 1) * 2 ^ k) = w / 2 ^ k % 2 ^ n * 2 ^ k := by
  apply Nat.eq_of_testBit_eq
  intro i
  rw [Nat.testBit_and, ← Nat.shiftLeft_eq, ← Nat.shiftLeft_eq, Nat.testBit_shiftLeft, Nat.testBit_shiftLeft, Nat.testBit_two_pow_sub_one, Nat.testBit_mod_two_pow, ← Nat.shiftRight_eq_div_pow, Nat.testBit_shiftRight]
  by_cases h : k ≤ i
  · have e : k + (i - k) = i := by omega
    rw [e]
    simp [h, Bool.and_comm]
  · simp [h]
theorem and_split (w a b : Nat) (h : a ||| b = a + b) : w &&& (a + b) = (w &&& a) ||| (w &&& b) := by
  rw [← h, Nat.and_or_distrib_left]
theorem i64_and_nat (a b : Nat) (ha : a < 4294967296) (hb : b < 4294967296) : bits .and .i64 (a : Int) (b : Int) = ((a &&& b : Nat) : Int) := by
  have hx : a &&& b < 2 ^ 32 := Nat.and_lt_two_pow _ (by omega)
  show IntKind.i64.wrap ((BitVec.ofInt 64 (a : Int) &&& BitVec.ofInt 64 (b : Int)).toNat : Int) = _
  rw [BitVec.toNat_and, ofInt_u64 a (by omega), ofInt_u64 b (by omega), IntWalk.i64_in _ (by omega)]

/-- The word's bits that are fixed in a form. -/
theorem and_127 (w : Nat) (_h : w < 4294967296) : bits .and .i64 (w : Int) 127 = ((w % 128 : Nat) : Int) := by
  have := i64_and_mask (w : Int) 7 (by decide)
  have e : bits .and .i64 (w : Int) 127 = (w : Int) % 128 := this
  rw [e]
  omega
theorem and_28799 (w : Nat) (h : w < 4294967296) : bits .and .i64 (w : Int) 28799 = ((w % 128 + w / 4096 % 8 * 4096 : Nat) : Int) := by
  have e := i64_and_nat w 28799 h (by decide)
  have e2 : w &&& 28799 = w % 128 + w / 4096 % 8 * 4096 := by
    rw [show 28799 = 127 + 7 * 4096 by decide, and_split w 127 (7 * 4096) (by decide)]
    have a1 : w &&& 127 = w % 128 := Nat.and_two_pow_sub_one_eq_mod w 7
    have a2 : w &&& (7 * 4096) = w / 4096 % 8 * 4096 := and_at w 3 12
    rw [a1, a2, or_gap 12 3 (w % 128) (w / 4096 % 8 * 4096) (by omega) (by omega) (by omega)]
  rw [e2] at e
  exact e
theorem and_4227887231 (w : Nat) (h : w < 4294967296) : bits .and .i64 (w : Int) 4227887231 = ((w % 128 + w / 4096 % 8 * 4096 + w / 67108864 * 67108864 : Nat) : Int) := by
  have e := i64_and_nat w 4227887231 h (by decide)
  have e2 : w &&& 4227887231 = w % 128 + w / 4096 % 8 * 4096 + w / 67108864 * 67108864 := by
    rw [show 4227887231 = 127 + 7 * 4096 + 63 * 67108864 by decide, and_split w (127 + 7 * 4096) (63 * 67108864) (by decide), and_split w 127 (7 * 4096) (by decide)]
    have a1 : w &&& 127 = w % 128 := Nat.and_two_pow_sub_one_eq_mod w 7
    have a2 : w &&& (7 * 4096) = w / 4096 % 8 * 4096 := and_at w 3 12
    have a3 : w &&& (63 * 67108864) = w / 67108864 % 64 * 67108864 := and_at w 6 26
    have a4 : w / 67108864 % 64 = w / 67108864 := by omega
    rw [a1, a2, a3, a4, or_gap 12 3 (w % 128) (w / 4096 % 8 * 4096) (by omega) (by omega) (by omega)]
    have p : w % 128 + w / 4096 % 8 * 4096 < 67108864 := by omega
    have q : w / 67108864 < 64 := by omega
    generalize w % 128 + w / 4096 % 8 * 4096 = x at *
    generalize w / 67108864 = y at *
    rw [or_gap 26 6 x (y * 67108864) (by omega) (by omega) (by omega)]
  rw [e2] at e
  exact e
theorem and_4261441663 (w : Nat) (h : w < 4294967296) : bits .and .i64 (w : Int) 4261441663 = ((w % 128 + w / 4096 % 8 * 4096 + w / 33554432 * 33554432 : Nat) : Int) := by
  have e := i64_and_nat w 4261441663 h (by decide)
  have e2 : w &&& 4261441663 = w % 128 + w / 4096 % 8 * 4096 + w / 33554432 * 33554432 := by
    rw [show 4261441663 = 127 + 7 * 4096 + 127 * 33554432 by decide, and_split w (127 + 7 * 4096) (127 * 33554432) (by decide), and_split w 127 (7 * 4096) (by decide)]
    have a1 : w &&& 127 = w % 128 := Nat.and_two_pow_sub_one_eq_mod w 7
    have a2 : w &&& (7 * 4096) = w / 4096 % 8 * 4096 := and_at w 3 12
    have a3 : w &&& (127 * 33554432) = w / 33554432 % 128 * 33554432 := and_at w 7 25
    have a4 : w / 33554432 % 128 = w / 33554432 := by omega
    rw [a1, a2, a3, a4, or_gap 12 3 (w % 128) (w / 4096 % 8 * 4096) (by omega) (by omega) (by omega)]
    have p : w % 128 + w / 4096 % 8 * 4096 < 33554432 := by omega
    have q : w / 33554432 < 128 := by omega
    generalize w % 128 + w / 4096 % 8 * 4096 = x at *
    generalize w / 33554432 = y at *
    rw [or_gap 25 7 x (y * 33554432) (by omega) (by omega) (by omega)]
  rw [e2] at e
  exact e
theorem and_all (w : Nat) (h : w < 4294967296) : bits .and .i64 (w : Int) 4294967295 = (w : Int) := by
  have := i64_and_mask (w : Int) 32 (by decide)
  have e : bits .and .i64 (w : Int) 4294967295 = (w : Int) % 4294967296 := this
  rw [e]
  omega

/-- Is a word of a shape? -/
def hitI (f c g h w : Int) : Prop :=
  if f = 1 ∨ f = 2 then w % 128 = c
  else if f = 3 ∨ f = 4 ∨ f = 5 then w % 128 = c ∧ w / 4096 % 8 = g
  else if f = 6 then w % 128 = c ∧ w / 4096 % 8 = g ∧ w / 67108864 = h / 2
  else if f = 7 ∨ f = 8 then w % 128 = c ∧ w / 4096 % 8 = g ∧ w / 33554432 = h
  else w = c + g * 4096 + h * 1048576
end Go.Proofs.YtiandbhcjecphaaGreatDoor

namespace Go.Proofs.YtiandbhcjecphaaGreatDoor
open Go.RowKit
set_option linter.unusedVariables false

theorem spIn (x low high : Int) (w : World) (b : Bool) (h : (b = true ∧ low ≤ x ∧ x ≤ high) ∨ (b = false ∧ (x < low ∨ high < x))) :
    Calls Tryz.prog 58 #[.int .i64 x, .int .i64 low, .int .i64 high] w fun e w' => e = .returned (.bool b) ∧ w' = w := by
  rcases h with ⟨rfl, h0, h1⟩ | ⟨rfl, h⟩
  · go_enter Tryz.func58, Tryz.ntmps58
    go_wp2
    go_ret
    refine ⟨congrArg (fun x => Ending.returned (.bool x)) ?_, rfl⟩
    first | rfl | (simp; done) | (simp; omega)
  · by_cases h0 : x < low
    · go_enter Tryz.func58, Tryz.ntmps58
      go_wp2
      go_ret
      refine ⟨congrArg (fun x => Ending.returned (.bool x)) ?_, rfl⟩
      first | rfl | (simp; done) | (simp; omega)
    · have h1 : high < x := by omega
      clear h
      go_enter Tryz.func58, Tryz.ntmps58
      go_wp2
      go_ret
      refine ⟨congrArg (fun x => Ending.returned (.bool x)) ?_, rfl⟩
      first | rfl | (simp; done) | (simp; omega)

end Go.Proofs.YtiandbhcjecphaaGreatDoor
