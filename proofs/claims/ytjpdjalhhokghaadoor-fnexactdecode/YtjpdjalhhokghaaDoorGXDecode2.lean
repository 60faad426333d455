/- Which word is an instruction of which shape: plain (4). An instruction taken apart: words. -/
import Derived.Test.YtjpdjalhhokghaaDoorGXDecode1
import Derived.Test.YtjpdjalhhokghaaDoorGXInstrOK20
import Derived.Deep.RegionHeld3
namespace Go.Proofs.YtjpdjalhhokghaaDoor
set_option linter.unusedVariables false

theorem chain (w : Int) (a b : Nat) (A B C : Int) (hA : A = 2 ^ a) (hB : B = 2 ^ b) (hC : C = 2 ^ (a + b)) : w / A = w / A % B + B * (w / C) := by
  have h := Int.emod_add_mul_ediv (w / A) B
  have e : w / A / B = w / C := by
    rw [hA, hB, hC, dd _ _ (Int.le_of_lt (pow_pos a)), ← Int.pow_add]
  rw [e] at h
  exact h.symm

theorem hit1 (c w : Int) (w0 : 0 ≤ w) (w1 : w < 4294967296) : (w % 128 = c ∧ encW 1 c 0 0 (w / 128 % 32) (0) (0) (takeF 1 w) = w) ↔ (w % 128 = c) := by
  have l : layF 1 (takeF 1 w) = w / 4096 % 1048576 * 4096 := by
    show sgn (w / 4096 % 1048576 * 4096) 32 / 4096 % 1048576 * 4096 = _
    rw [sgn_num _ 32 2147483648 4294967296 (by decide) (by decide)]
    omega
  have e : encW 1 c 0 0 (w / 128 % 32) (0) (0) (takeF 1 w) = c + 0 * 4096 + 0 * 33554432 + w / 128 % 32 * 128 + 0 * 32768 + 0 * 1048576 + (w / 4096 % 1048576 * 4096) := by
    rw [← l]
    rfl
  rw [e]
  clear e l
  have d0 : w = w % 128 + 128 * (w / 128) := by omega
  have p0 : 0 ≤ w % 128 ∧ w % 128 < 128 := by omega
  have d7 : w / 128 = w / 128 % 32 + 32 * (w / 4096) := chain w 7 5 128 32 4096 (by decide) (by decide) (by decide)
  have p7 : 0 ≤ w / 128 % 32 ∧ w / 128 % 32 < 32 := by omega
  have d12 : w / 4096 = w / 4096 % 1048576 := by omega
  have p12 : 0 ≤ w / 4096 % 1048576 ∧ w / 4096 % 1048576 < 1048576 := by omega
  generalize w % 128 = x0 at *
  generalize w / 128 % 32 = x7 at *
  generalize w / 4096 % 1048576 = x12 at *
  generalize w / 128 = q7 at *
  generalize w / 4096 = q12 at *
  omega
theorem hit2 (c w : Int) (w0 : 0 ≤ w) (w1 : w < 4294967296) : (w % 128 = c ∧ encW 2 c 0 0 (w / 128 % 32) (0) (0) (takeF 2 w) = w) ↔ (w % 128 = c) := by
  have l : layF 2 (takeF 2 w) = w / 4096 % 256 * 4096 + w / 1048576 % 2 * 1048576 + w / 2097152 % 1024 * 2097152 + w / 2147483648 % 2 * 2147483648 :=
    lay_take2 (w / 4096 % 256) (w / 1048576 % 2) (w / 2097152 % 1024) (w / 2147483648 % 2) (by omega) (by omega) (by omega) (by omega)
  have e : encW 2 c 0 0 (w / 128 % 32) (0) (0) (takeF 2 w) = c + 0 * 4096 + 0 * 33554432 + w / 128 % 32 * 128 + 0 * 32768 + 0 * 1048576 + (w / 4096 % 256 * 4096 + w / 1048576 % 2 * 1048576 + w / 2097152 % 1024 * 2097152 + w / 2147483648 % 2 * 2147483648) := by
    rw [← l]
    rfl
  rw [e]
  clear e l
  have d0 : w = w % 128 + 128 * (w / 128) := by omega
  have p0 : 0 ≤ w % 128 ∧ w % 128 < 128 := by omega
  have d7 : w / 128 = w / 128 % 32 + 32 * (w / 4096) := chain w 7 5 128 32 4096 (by decide) (by decide) (by decide)
  have p7 : 0 ≤ w / 128 % 32 ∧ w / 128 % 32 < 32 := by omega
  have d12 : w / 4096 = w / 4096 % 256 + 256 * (w / 1048576) := chain w 12 8 4096 256 1048576 (by decide) (by decide) (by decide)
  have p12 : 0 ≤ w / 4096 % 256 ∧ w / 4096 % 256 < 256 := by omega
  have d20 : w / 1048576 = w / 1048576 % 2 + 2 * (w / 2097152) := chain w 20 1 1048576 2 2097152 (by decide) (by decide) (by decide)
  have p20 : 0 ≤ w / 1048576 % 2 ∧ w / 1048576 % 2 < 2 := by omega
  have d21 : w / 2097152 = w / 2097152 % 1024 + 1024 * (w / 2147483648) := chain w 21 10 2097152 1024 2147483648 (by decide) (by decide) (by decide)
  have p21 : 0 ≤ w / 2097152 % 1024 ∧ w / 2097152 % 1024 < 1024 := by omega
  have d31 : w / 2147483648 = w / 2147483648 % 2 := by omega
  have p31 : 0 ≤ w / 2147483648 % 2 ∧ w / 2147483648 % 2 < 2 := by omega
  generalize w % 128 = x0 at *
  generalize w / 128 % 32 = x7 at *
  generalize w / 4096 % 256 = x12 at *
  generalize w / 1048576 % 2 = x20 at *
  generalize w / 2097152 % 1024 = x21 at *
  generalize w / 2147483648 % 2 = x31 at *
  generalize w / 128 = q7 at *
  generalize w / 4096 = q12 at *
  generalize w / 1048576 = q20 at *
  generalize w / 2097152 = q21 at *
  generalize w / 2147483648 = q31 at *
  omega
theorem hit3 (c g w : Int) (w0 : 0 ≤ w) (w1 : w < 4294967296) : (w % 128 = c ∧ w / 4096 % 8 = g ∧ encW 3 c g 0 (w / 128 % 32) (w / 32768 % 32) (0) (takeF 3 w) = w) ↔ (w % 128 = c ∧ w / 4096 % 8 = g) := by
  have l : layF 3 (takeF 3 w) = w / 1048576 % 4096 * 1048576 := by
    show sgn (w / 1048576 % 4096) 12 % 4096 * 1048576 = _
    rw [sgn_num _ 12 2048 4096 (by decide) (by decide)]
    omega
  have e : encW 3 c g 0 (w / 128 % 32) (w / 32768 % 32) (0) (takeF 3 w) = c + g * 4096 + 0 * 33554432 + w / 128 % 32 * 128 + w / 32768 % 32 * 32768 + 0 * 1048576 + (w / 1048576 % 4096 * 1048576) := by
    rw [← l]
    rfl
  rw [e]
  clear e l
  have d0 : w = w % 128 + 128 * (w / 128) := by omega
  have p0 : 0 ≤ w % 128 ∧ w % 128 < 128 := by omega
  have d7 : w / 128 = w / 128 % 32 + 32 * (w / 4096) := chain w 7 5 128 32 4096 (by decide) (by decide) (by decide)
  have p7 : 0 ≤ w / 128 % 32 ∧ w / 128 % 32 < 32 := by omega
  have d12 : w / 4096 = w / 4096 % 8 + 8 * (w / 32768) := chain w 12 3 4096 8 32768 (by decide) (by decide) (by decide)
  have p12 : 0 ≤ w / 4096 % 8 ∧ w / 4096 % 8 < 8 := by omega
  have d15 : w / 32768 = w / 32768 % 32 + 32 * (w / 1048576) := chain w 15 5 32768 32 1048576 (by decide) (by decide) (by decide)
  have p15 : 0 ≤ w / 32768 % 32 ∧ w / 32768 % 32 < 32 := by omega
  have d20 : w / 1048576 = w / 1048576 % 4096 := by omega
  have p20 : 0 ≤ w / 1048576 % 4096 ∧ w / 1048576 % 4096 < 4096 := by omega
  generalize w % 128 = x0 at *
  generalize w / 128 % 32 = x7 at *
  generalize w / 4096 % 8 = x12 at *
  generalize w / 32768 % 32 = x15 at *
  generalize w / 1048576 % 4096 = x20 at *
  generalize w / 128 = q7 at *
  generalize w / 4096 = q12 at *
  generalize w / 32768 = q15 at *
  generalize w / 1048576 = q20 at *
  omega
theorem hit4 (c g w : Int) (w0 : 0 ≤ w) (w1 : w < 4294967296) : (w % 128 = c ∧ w / 4096 % 8 = g ∧ encW 4 c g 0 (0) (w / 32768 % 32) (w / 1048576 % 32) (takeF 4 w) = w) ↔ (w % 128 = c ∧ w / 4096 % 8 = g) := by
  have l : layF 4 (takeF 4 w) = w / 128 % 2 * 128 + w / 256 % 16 * 256 + w / 33554432 % 64 * 33554432 + w / 2147483648 % 2 * 2147483648 :=
    lay_take4 (w / 128 % 2) (w / 256 % 16) (w / 33554432 % 64) (w / 2147483648 % 2) (by omega) (by omega) (by omega) (by omega)
  have e : encW 4 c g 0 (0) (w / 32768 % 32) (w / 1048576 % 32) (takeF 4 w) = c + g * 4096 + 0 * 33554432 + 0 * 128 + w / 32768 % 32 * 32768 + w / 1048576 % 32 * 1048576 + (w / 128 % 2 * 128 + w / 256 % 16 * 256 + w / 33554432 % 64 * 33554432 + w / 2147483648 % 2 * 2147483648) := by
    rw [← l]
    rfl
  rw [e]
  clear e l
  have d0 : w = w % 128 + 128 * (w / 128) := by omega
  have p0 : 0 ≤ w % 128 ∧ w % 128 < 128 := by omega
  have d7 : w / 128 = w / 128 % 2 + 2 * (w / 256) := chain w 7 1 128 2 256 (by decide) (by decide) (by decide)
  have p7 : 0 ≤ w / 128 % 2 ∧ w / 128 % 2 < 2 := by omega
  have d8 : w / 256 = w / 256 % 16 + 16 * (w / 4096) := chain w 8 4 256 16 4096 (by decide) (by decide) (by decide)
  have p8 : 0 ≤ w / 256 % 16 ∧ w / 256 % 16 < 16 := by omega
  have d12 : w / 4096 = w / 4096 % 8 + 8 * (w / 32768) := chain w 12 3 4096 8 32768 (by decide) (by decide) (by decide)
  have p12 : 0 ≤ w / 4096 % 8 ∧ w / 4096 % 8 < 8 := by omega
  have d15 : w / 32768 = w / 32768 % 32 + 32 * (w / 1048576) := chain w 15 5 32768 32 1048576 (by decide) (by decide) (by decide)
  have p15 : 0 ≤ w / 32768 % 32 ∧ w / 32768 % 32 < 32 := by omega
  have d20 : w / 1048576 = w / 1048576 % 32 + 32 * (w / 33554432) := chain w 20 5 1048576 32 33554432 (by decide) (by decide) (by decide)
  have p20 : 0 ≤ w / 1048576 % 32 ∧ w / 1048576 % 32 < 32 := by omega
  have d25 : w / 33554432 = w / 33554432 % 64 + 64 * (w / 2147483648) := chain w 25 6 33554432 64 2147483648 (by decide) (by decide) (by decide)
  have p25 : 0 ≤ w / 33554432 % 64 ∧ w / 33554432 % 64 < 64 := by omega
  have d31 : w / 2147483648 = w / 2147483648 % 2 := by omega
  have p31 : 0 ≤ w / 2147483648 % 2 ∧ w / 2147483648 % 2 < 2 := by omega
  generalize w % 128 = x0 at *
  generalize w / 128 % 2 = x7 at *
  generalize w / 256 % 16 = x8 at *
  generalize w / 4096 % 8 = x12 at *
  generalize w / 32768 % 32 = x15 at *
  generalize w / 1048576 % 32 = x20 at *
  generalize w / 33554432 % 64 = x25 at *
  generalize w / 2147483648 % 2 = x31 at *
  generalize w / 128 = q7 at *
  generalize w / 256 = q8 at *
  generalize w / 4096 = q12 at *
  generalize w / 32768 = q15 at *
  generalize w / 1048576 = q20 at *
  generalize w / 33554432 = q25 at *
  generalize w / 2147483648 = q31 at *
  omega
theorem hit5 (c g w : Int) (w0 : 0 ≤ w) (w1 : w < 4294967296) : (w % 128 = c ∧ w / 4096 % 8 = g ∧ encW 5 c g 0 (0) (w / 32768 % 32) (w / 1048576 % 32) (takeF 5 w) = w) ↔ (w % 128 = c ∧ w / 4096 % 8 = g) := by
  have l : layF 5 (takeF 5 w) = w / 128 % 32 * 128 + w / 33554432 % 128 * 33554432 := lay_take5 (w / 128 % 32) (w / 33554432 % 128) (by omega) (by omega)
  have e : encW 5 c g 0 (0) (w / 32768 % 32) (w / 1048576 % 32) (takeF 5 w) = c + g * 4096 + 0 * 33554432 + 0 * 128 + w / 32768 % 32 * 32768 + w / 1048576 % 32 * 1048576 + (w / 128 % 32 * 128 + w / 33554432 % 128 * 33554432) := by
    rw [← l]
    rfl
  rw [e]
  clear e l
  have d0 : w = w % 128 + 128 * (w / 128) := by omega
  have p0 : 0 ≤ w % 128 ∧ w % 128 < 128 := by omega
  have d7 : w / 128 = w / 128 % 32 + 32 * (w / 4096) := chain w 7 5 128 32 4096 (by decide) (by decide) (by decide)
  have p7 : 0 ≤ w / 128 % 32 ∧ w / 128 % 32 < 32 := by omega
  have d12 : w / 4096 = w / 4096 % 8 + 8 * (w / 32768) := chain w 12 3 4096 8 32768 (by decide) (by decide) (by decide)
  have p12 : 0 ≤ w / 4096 % 8 ∧ w / 4096 % 8 < 8 := by omega
  have d15 : w / 32768 = w / 32768 % 32 + 32 * (w / 1048576) := chain w 15 5 32768 32 1048576 (by decide) (by decide) (by decide)
  have p15 : 0 ≤ w / 32768 % 32 ∧ w / 32768 % 32 < 32 := by omega
  have d20 : w / 1048576 = w / 1048576 % 32 + 32 * (w / 33554432) := chain w 20 5 1048576 32 33554432 (by decide) (by decide) (by decide)
  have p20 : 0 ≤ w / 1048576 % 32 ∧ w / 1048576 % 32 < 32 := by omega
  have d25 : w / 33554432 = w / 33554432 % 128 := by omega
  have p25 : 0 ≤ w / 33554432 % 128 ∧ w / 33554432 % 128 < 128 := by omega
  generalize w % 128 = x0 at *
  generalize w / 128 % 32 = x7 at *
  generalize w / 4096 % 8 = x12 at *
  generalize w / 32768 % 32 = x15 at *
  generalize w / 1048576 % 32 = x20 at *
  generalize w / 33554432 % 128 = x25 at *
  generalize w / 128 = q7 at *
  generalize w / 4096 = q12 at *
  generalize w / 32768 = q15 at *
  generalize w / 1048576 = q20 at *
  generalize w / 33554432 = q25 at *
  omega
theorem hit6 (c g h w : Int) (w0 : 0 ≤ w) (w1 : w < 4294967296) (h0 : 0 ≤ h) (h1 : h < 64) : (w % 128 = c ∧ w / 4096 % 8 = g ∧ encW 6 c g h (w / 128 % 32) (w / 32768 % 32) (0) (takeF 6 w) = w) ↔ (w % 128 = c ∧ w / 4096 % 8 = g ∧ w / 67108864 = h / 2) := by
  have l : layF 6 (takeF 6 w) = w / 1048576 % 64 * 1048576 := by
    show w / 1048576 % 64 % 64 * 1048576 = _
    omega
  have e : encW 6 c g h (w / 128 % 32) (w / 32768 % 32) (0) (takeF 6 w) = c + g * 4096 + h / 2 * 67108864 + w / 128 % 32 * 128 + w / 32768 % 32 * 32768 + 0 * 1048576 + (w / 1048576 % 64 * 1048576) := by
    rw [← l]
    rfl
  rw [e]
  clear e l
  have ph : 0 ≤ h / 2 ∧ h / 2 < 32 := by omega
  generalize h / 2 = y at *
  have d0 : w = w % 128 + 128 * (w / 128) := by omega
  have p0 : 0 ≤ w % 128 ∧ w % 128 < 128 := by omega
  have d7 : w / 128 = w / 128 % 32 + 32 * (w / 4096) := chain w 7 5 128 32 4096 (by decide) (by decide) (by decide)
  have p7 : 0 ≤ w / 128 % 32 ∧ w / 128 % 32 < 32 := by omega
  have d12 : w / 4096 = w / 4096 % 8 + 8 * (w / 32768) := chain w 12 3 4096 8 32768 (by decide) (by decide) (by decide)
  have p12 : 0 ≤ w / 4096 % 8 ∧ w / 4096 % 8 < 8 := by omega
  have d15 : w / 32768 = w / 32768 % 32 + 32 * (w / 1048576) := chain w 15 5 32768 32 1048576 (by decide) (by decide) (by decide)
  have p15 : 0 ≤ w / 32768 % 32 ∧ w / 32768 % 32 < 32 := by omega
  have d20 : w / 1048576 = w / 1048576 % 64 + 64 * (w / 67108864) := chain w 20 6 1048576 64 67108864 (by decide) (by decide) (by decide)
  have p20 : 0 ≤ w / 1048576 % 64 ∧ w / 1048576 % 64 < 64 := by omega
  have d26 : w / 67108864 = w / 67108864 % 64 := by omega
  have p26 : 0 ≤ w / 67108864 % 64 ∧ w / 67108864 % 64 < 64 := by omega
  generalize w % 128 = x0 at *
  generalize w / 128 % 32 = x7 at *
  generalize w / 4096 % 8 = x12 at *
  generalize w / 32768 % 32 = x15 at *
  generalize w / 1048576 % 64 = x20 at *
  generalize w / 67108864 % 64 = x26 at *
  generalize w / 128 = q7 at *
  generalize w / 4096 = q12 at *
  generalize w / 32768 = q15 at *
  generalize w / 1048576 = q20 at *
  generalize w / 67108864 = q26 at *
  omega
theorem hit7 (c g h w : Int) (w0 : 0 ≤ w) (w1 : w < 4294967296) (h0 : 0 ≤ h) (h1 : h < 64) : (w % 128 = c ∧ w / 4096 % 8 = g ∧ encW 7 c g h (w / 128 % 32) (w / 32768 % 32) (0) (takeF 7 w) = w) ↔ (w % 128 = c ∧ w / 4096 % 8 = g ∧ w / 33554432 = h) := by
  have l : layF 7 (takeF 7 w) = w / 1048576 % 32 * 1048576 := by
    show w / 1048576 % 32 % 32 * 1048576 = _
    omega
  have e : encW 7 c g h (w / 128 % 32) (w / 32768 % 32) (0) (takeF 7 w) = c + g * 4096 + h * 33554432 + w / 128 % 32 * 128 + w / 32768 % 32 * 32768 + 0 * 1048576 + (w / 1048576 % 32 * 1048576) := by
    rw [← l]
    rfl
  rw [e]
  clear e l
  have d0 : w = w % 128 + 128 * (w / 128) := by omega
  have p0 : 0 ≤ w % 128 ∧ w % 128 < 128 := by omega
  have d7 : w / 128 = w / 128 % 32 + 32 * (w / 4096) := chain w 7 5 128 32 4096 (by decide) (by decide) (by decide)
  have p7 : 0 ≤ w / 128 % 32 ∧ w / 128 % 32 < 32 := by omega
  have d12 : w / 4096 = w / 4096 % 8 + 8 * (w / 32768) := chain w 12 3 4096 8 32768 (by decide) (by decide) (by decide)
  have p12 : 0 ≤ w / 4096 % 8 ∧ w / 4096 % 8 < 8 := by omega
  have d15 : w / 32768 = w / 32768 % 32 + 32 * (w / 1048576) := chain w 15 5 32768 32 1048576 (by decide) (by decide) (by decide)
  have p15 : 0 ≤ w / 32768 % 32 ∧ w / 32768 % 32 < 32 := by omega
  have d20 : w / 1048576 = w / 1048576 % 32 + 32 * (w / 33554432) := chain w 20 5 1048576 32 33554432 (by decide) (by decide) (by decide)
  have p20 : 0 ≤ w / 1048576 % 32 ∧ w / 1048576 % 32 < 32 := by omega
  have d25 : w / 33554432 = w / 33554432 % 128 := by omega
  have p25 : 0 ≤ w / 33554432 % 128 ∧ w / 33554432 % 128 < 128 := by omega
  generalize w % 128 = x0 at *
  generalize w / 128 % 32 = x7 at *
  generalize w / 4096 % 8 = x12 at *
  generalize w / 32768 % 32 = x15 at *
  generalize w / 1048576 % 32 = x20 at *
  generalize w / 33554432 % 128 = x25 at *
  generalize w / 128 = q7 at *
  generalize w / 4096 = q12 at *
  generalize w / 32768 = q15 at *
  generalize w / 1048576 = q20 at *
  generalize w / 33554432 = q25 at *
  omega
theorem hit8 (c g h w : Int) (w0 : 0 ≤ w) (w1 : w < 4294967296) (h0 : 0 ≤ h) (h1 : h < 64) : (w % 128 = c ∧ w / 4096 % 8 = g ∧ encW 8 c g h (w / 128 % 32) (w / 32768 % 32) (w / 1048576 % 32) (takeF 8 w) = w) ↔ (w % 128 = c ∧ w / 4096 % 8 = g ∧ w / 33554432 = h) := by
  have l : layF 8 (takeF 8 w) = 0 := rfl
  have e : encW 8 c g h (w / 128 % 32) (w / 32768 % 32) (w / 1048576 % 32) (takeF 8 w) = c + g * 4096 + h * 33554432 + w / 128 % 32 * 128 + w / 32768 % 32 * 32768 + w / 1048576 % 32 * 1048576 + (0) := by
    rw [← l]
    rfl
  rw [e]
  clear e l
  have d0 : w = w % 128 + 128 * (w / 128) := by omega
  have p0 : 0 ≤ w % 128 ∧ w % 128 < 128 := by omega
  have d7 : w / 128 = w / 128 % 32 + 32 * (w / 4096) := chain w 7 5 128 32 4096 (by decide) (by decide) (by decide)
  have p7 : 0 ≤ w / 128 % 32 ∧ w / 128 % 32 < 32 := by omega
  have d12 : w / 4096 = w / 4096 % 8 + 8 * (w / 32768) := chain w 12 3 4096 8 32768 (by decide) (by decide) (by decide)
  have p12 : 0 ≤ w / 4096 % 8 ∧ w / 4096 % 8 < 8 := by omega
  have d15 : w / 32768 = w / 32768 % 32 + 32 * (w / 1048576) := chain w 15 5 32768 32 1048576 (by decide) (by decide) (by decide)
  have p15 : 0 ≤ w / 32768 % 32 ∧ w / 32768 % 32 < 32 := by omega
  have d20 : w / 1048576 = w / 1048576 % 32 + 32 * (w / 33554432) := chain w 20 5 1048576 32 33554432 (by decide) (by decide) (by decide)
  have p20 : 0 ≤ w / 1048576 % 32 ∧ w / 1048576 % 32 < 32 := by omega
  have d25 : w / 33554432 = w / 33554432 % 128 := by omega
  have p25 : 0 ≤ w / 33554432 % 128 ∧ w / 33554432 % 128 < 128 := by omega
  generalize w % 128 = x0 at *
  generalize w / 128 % 32 = x7 at *
  generalize w / 4096 % 8 = x12 at *
  generalize w / 32768 % 32 = x15 at *
  generalize w / 1048576 % 32 = x20 at *
  generalize w / 33554432 % 128 = x25 at *
  generalize w / 128 = q7 at *
  generalize w / 4096 = q12 at *
  generalize w / 32768 = q15 at *
  generalize w / 1048576 = q20 at *
  generalize w / 33554432 = q25 at *
  omega
end Go.Proofs.YtjpdjalhhokghaaDoor

namespace Go.Proofs.YtjpdjalhhokghaaDoor
open Go.RowKit
set_option linter.unusedVariables false

def ToldIt (f : Int) (t : ByteArray) : Prop := ∀ w, Calls Tryd.prog 66 #[.int .i64 f] w fun e w' => e = .returned (.string t) ∧ w' = w
/-- What ruleOf and take answer of a form and a word. -/
def RuleIt (f : Int) (R : Value) : Prop := ∀ w, Calls Tryd.prog 71 #[.int .i64 f] w fun e w' => e = .returned R ∧ Below w.heap.size w w'
def TakeIt (R : Value) (v N : Int) : Prop := ∀ w, Calls Tryd.prog 106 #[R, .int .i64 v] w fun e w' => e = .returned (.int .i64 N) ∧ Below w.heap.size w w'
theorem ra100 (w : World) : Calls Tryd.prog 107 #[.int .u8 100] w fun e w' => e = .returned (.int .i64 7) ∧ w' = w := by
  go_enter Tryd.func107, Tryd.ntmps107
  go_wp2
  go_ret
  exact ⟨rfl, rfl⟩
theorem ra49 (w : World) : Calls Tryd.prog 107 #[.int .u8 49] w fun e w' => e = .returned (.int .i64 15) ∧ w' = w := by
  go_enter Tryd.func107, Tryd.ntmps107
  go_wp2
  go_ret
  exact ⟨rfl, rfl⟩
theorem ra50 (w : World) : Calls Tryd.prog 107 #[.int .u8 50] w fun e w' => e = .returned (.int .i64 20) ∧ w' = w := by
  go_enter Tryd.func107, Tryd.ntmps107
  go_wp2
  go_ret
  exact ⟨rfl, rfl⟩
end Go.Proofs.YtjpdjalhhokghaaDoor
