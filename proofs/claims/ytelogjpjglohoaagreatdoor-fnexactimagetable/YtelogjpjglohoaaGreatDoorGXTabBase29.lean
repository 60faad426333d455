/- Which word is an instruction of which shape: plain (4). An instruction taken apart: words. A struct of five numbers in memory. What the taking apart leans on. An instruction taken apart, told fields 'di': the contract. -/
import Derived.Test.YtelogjpjglohoaaGreatDoorGXTabBase28
import Derived.Test.YtelogjpjglohoaaGreatDoorGXTabBase18
import Derived.Deep.RegionHeld3
import Derived.WalkKit
import Derived.LoopTactic
namespace Go.Proofs.YtelogjpjglohoaaGreatDoor
set_option linter.unusedVariables false

theorem chain (w : Int) (a b : Nat) (A B C : Int) (hA : A = 2 ^ a) (hB : B = 2 ^ b) (hC : C = 2 ^ (a + b)) : w / A = w / A % B + B * (w / C) := by
  have h := Int.emod_add_mul_ediv (w / A) B
  have e : w / A / B = w / C := by
    rw [hA, hB, hC, dd _ _ (Int.le_of_lt (pow_pos a)), ← Int.pow_add]
  rw [e] at h
  exact h.symm

theorem hit1 (c w : Int) (w0 : 0 ≤ w) (w1 : w < 4294967296) : (w % 128 = c ∧ encW 1 c 0 0 (w / 128 % 32) (0) (0) (takeF 1 w) = w) ↔ (w % 128 = c) := by
  have l : layF 1 (takeF 1 w) = w / 4096 % 1048576 * 4096 := by
    show sgn (w / 4096 % 1048576 * 4096) 32 / 4096 % 1048576 * 4096 = _
    rw [sgn_num _ 32 2147483648 4294967296 (by decide) (by decide)]
    omega
  have e : encW 1 c 0 0 (w / 128 % 32) (0) (0) (takeF 1 w) = c + 0 * 4096 + 0 * 33554432 + w / 128 % 32 * 128 + 0 * 32768 + 0 * 1048576 + (w / 4096 % 1048576 * 4096) := by
    rw [← l]
    rfl
  rw [e]
  clear e l
  have d0 : w = w % 128 + 128 * (w / 128) := by omega
  have p0 : 0 ≤ w % 128 ∧ w % 128 < 128 := by omega
  have d7 : w / 128 = w / 128 % 32 + 32 * (w / 4096) := chain w 7 5 128 32 4096 (by decide) (by decide) (by decide)
  have p7 : 0 ≤ w / 128 % 32 ∧ w / 128 % 32 < 32 := by omega
  have d12 : w / 4096 = w / 4096 % 1048576 := by omega
  have p12 : 0 ≤ w / 4096 % 1048576 ∧ w / 4096 % 1048576 < 1048576 := by omega
  generalize w % 128 = x0 at *
  generalize w / 128 % 32 = x7 at *
  generalize w / 4096 % 1048576 = x12 at *
  generalize w / 128 = q7 at *
  generalize w / 4096 = q12 at *
  omega
theorem hit2 (c w : Int) (w0 : 0 ≤ w) (w1 : w < 4294967296) : (w % 128 = c ∧ encW 2 c 0 0 (w / 128 % 32) (0) (0) (takeF 2 w) = w) ↔ (w % 128 = c) := by
  have l : layF 2 (takeF 2 w) = w / 4096 % 256 * 4096 + w / 1048576 % 2 * 1048576 + w / 2097152 % 1024 * 2097152 + w / 2147483648 % 2 * 2147483648 :=
    lay_take2 (w / 4096 % 256) (w / 1048576 % 2) (w / 2097152 % 1024) (w / 2147483648 % 2) (by omega) (by omega) (by omega) (by omega)
  have e : encW 2 c 0 0 (w / 128 % 32) (0) (0) (takeF 2 w) = c + 0 * 4096 + 0 * 33554432 + w / 128 % 32 * 128 + 0 * 32768 + 0 * 1048576 + (w / 4096 % 256 * 4096 + w / 1048576 % 2 * 1048576 + w / 2097152 % 1024 * 2097152 + w / 2147483648 % 2 * 2147483648) := by
    rw [← l]
    rfl
  rw [e]
  clear e l
  have d0 : w = w % 128 + 128 * (w / 128) := by omega
  have p0 : 0 ≤ w % 128 ∧ w % 128 < 128 := by omega
  have d7 : w / 128 = w / 128 % 32 + 32 * (w / 4096) := chain w 7 5 128 32 4096 (by decide) (by decide) (by decide)
  have p7 : 0 ≤ w / 128 % 32 ∧ w / 128 % 32 < 32 := by omega
  have d12 : w / 4096 = w / 4096 % 256 + 256 * (w / 1048576) := chain w 12 8 4096 256 1048576 (by decide) (by decide) (by decide)
  have p12 : 0 ≤ w / 4096 % 256 ∧ w / 4096 % 256 < 256 := by omega
  have d20 : w / 1048576 = w / 1048576 % 2 + 2 * (w / 2097152) := chain w 20 1 1048576 2 2097152 (by decide) (by decide) (by decide)
  have p20 : 0 ≤ w / 1048576 % 2 ∧ w / 1048576 % 2 < 2 := by omega
  have d21 : w / 2097152 = w / 2097152 % 1024 + 1024 * (w / 2147483648) := chain w 21 10 2097152 1024 2147483648 (by decide) (by decide) (by decide)
  have p21 : 0 ≤ w / 2097152 % 1024 ∧ w / 2097152 % 1024 < 1024 := by omega
  have d31 : w / 2147483648 = w / 2147483648 % 2 := by omega
  have p31 : 0 ≤ w / 2147483648 % 2 ∧ w / 2147483648 % 2 < 2 := by omega
  generalize w % 128 = x0 at *
  generalize w / 128 % 32 = x7 at *
  generalize w / 4096 % 256 = x12 at *
  generalize w / 1048576 % 2 = x20 at *
  generalize w / 2097152 % 1024 = x21 at *
  generalize w / 2147483648 % 2 = x31 at *
  generalize w / 128 = q7 at *
  generalize w / 4096 = q12 at *
  generalize w / 1048576 = q20 at *
  generalize w / 2097152 = q21 at *
  generalize w / 2147483648 = q31 at *
  omega
theorem hit3 (c g w : Int) (w0 : 0 ≤ w) (w1 : w < 4294967296) : (w % 128 = c ∧ w / 4096 % 8 = g ∧ encW 3 c g 0 (w / 128 % 32) (w / 32768 % 32) (0) (takeF 3 w) = w) ↔ (w % 128 = c ∧ w / 4096 % 8 = g) := by
  have l : layF 3 (takeF 3 w) = w / 1048576 % 4096 * 1048576 := by
    show sgn (w / 1048576 % 4096) 12 % 4096 * 1048576 = _
    rw [sgn_num _ 12 2048 4096 (by decide) (by decide)]
    omega
  have e : encW 3 c g 0 (w / 128 % 32) (w / 32768 % 32) (0) (takeF 3 w) = c + g * 4096 + 0 * 33554432 + w / 128 % 32 * 128 + w / 32768 % 32 * 32768 + 0 * 1048576 + (w / 1048576 % 4096 * 1048576) := by
    rw [← l]
    rfl
  rw [e]
  clear e l
  have d0 : w = w % 128 + 128 * (w / 128) := by omega
  have p0 : 0 ≤ w % 128 ∧ w % 128 < 128 := by omega
  have d7 : w / 128 = w / 128 % 32 + 32 * (w / 4096) := chain w 7 5 128 32 4096 (by decide) (by decide) (by decide)
  have p7 : 0 ≤ w / 128 % 32 ∧ w / 128 % 32 < 32 := by omega
  have d12 : w / 4096 = w / 4096 % 8 + 8 * (w / 32768) := chain w 12 3 4096 8 32768 (by decide) (by decide) (by decide)
  have p12 : 0 ≤ w / 4096 % 8 ∧ w / 4096 % 8 < 8 := by omega
  have d15 : w / 32768 = w / 32768 % 32 + 32 * (w / 1048576) := chain w 15 5 32768 32 1048576 (by decide) (by decide) (by decide)
  have p15 : 0 ≤ w / 32768 % 32 ∧ w / 32768 % 32 < 32 := by omega
  have d20 : w / 1048576 = w / 1048576 % 4096 := by omega
  have p20 : 0 ≤ w / 1048576 % 4096 ∧ w / 1048576 % 4096 < 4096 := by omega
  generalize w % 128 = x0 at *
  generalize w / 128 % 32 = x7 at *
  generalize w / 4096 % 8 = x12 at *
  generalize w / 32768 % 32 = x15 at *
  generalize w / 1048576 % 4096 = x20 at *
  generalize w / 128 = q7 at *
  generalize w / 4096 = q12 at *
  generalize w / 32768 = q15 at *
  generalize w / 1048576 = q20 at *
  omega
theorem hit4 (c g w : Int) (w0 : 0 ≤ w) (w1 : w < 4294967296) : (w % 128 = c ∧ w / 4096 % 8 = g ∧ encW 4 c g 0 (0) (w / 32768 % 32) (w / 1048576 % 32) (takeF 4 w) = w) ↔ (w % 128 = c ∧ w / 4096 % 8 = g) := by
  have l : layF 4 (takeF 4 w) = w / 128 % 2 * 128 + w / 256 % 16 * 256 + w / 33554432 % 64 * 33554432 + w / 2147483648 % 2 * 2147483648 :=
    lay_take4 (w / 128 % 2) (w / 256 % 16) (w / 33554432 % 64) (w / 2147483648 % 2) (by omega) (by omega) (by omega) (by omega)
  have e : encW 4 c g 0 (0) (w / 32768 % 32) (w / 1048576 % 32) (takeF 4 w) = c + g * 4096 + 0 * 33554432 + 0 * 128 + w / 32768 % 32 * 32768 + w / 1048576 % 32 * 1048576 + (w / 128 % 2 * 128 + w / 256 % 16 * 256 + w / 33554432 % 64 * 33554432 + w / 2147483648 % 2 * 2147483648) := by
    rw [← l]
    rfl
  rw [e]
  clear e l
  have d0 : w = w % 128 + 128 * (w / 128) := by omega
  have p0 : 0 ≤ w % 128 ∧ w % 128 < 128 := by omega
  have d7 : w / 128 = w / 128 % 2 + 2 * (w / 256) := chain w 7 1 128 2 256 (by decide) (by decide) (by decide)
  have p7 : 0 ≤ w / 128 % 2 ∧ w / 128 % 2 < 2 := by omega
  have d8 : w / 256 = w / 256 % 16 + 16 * (w / 4096) := chain w 8 4 256 16 4096 (by decide) (by decide) (by decide)
  have p8 : 0 ≤ w / 256 % 16 ∧ w / 256 % 16 < 16 := by omega
  have d12 : w / 4096 = w / 4096 % 8 + 8 * (w / 32768) := chain w 12 3 4096 8 32768 (by decide) (by decide) (by decide)
  have p12 : 0 ≤ w / 4096 % 8 ∧ w / 4096 % 8 < 8 := by omega
  have d15 : w / 32768 = w / 32768 % 32 + 32 * (w / 1048576) := chain w 15 5 32768 32 1048576 (by decide) (by decide) (by decide)
  have p15 : 0 ≤ w / 32768 % 32 ∧ w / 32768 % 32 < 32 := by omega
  have d20 : w / 1048576 = w / 1048576 % 32 + 32 * (w / 33554432) := chain w 20 5 1048576 32 33554432 (by decide) (by decide) (by decide)
  have p20 : 0 ≤ w / 1048576 % 32 ∧ w / 1048576 % 32 < 32 := by omega
  have d25 : w / 33554432 = w / 33554432 % 64 + 64 * (w / 2147483648) := chain w 25 6 33554432 64 2147483648 (by decide) (by decide) (by decide)
  have p25 : 0 ≤ w / 33554432 % 64 ∧ w / 33554432 % 64 < 64 := by omega
  have d31 : w / 2147483648 = w / 2147483648 % 2 := by omega
  have p31 : 0 ≤ w / 2147483648 % 2 ∧ w / 2147483648 % 2 < 2 := by omega
  generalize w % 128 = x0 at *
  generalize w / 128 % 2 = x7 at *
  generalize w / 256 % 16 = x8 at *
  generalize w / 4096 % 8 = x12 at *
  generalize w / 32768 % 32 = x15 at *
  generalize w / 1048576 % 32 = x20 at *
  generalize w / 33554432 % 64 = x25 at *
  generalize w / 2147483648 % 2 = x31 at *
  generalize w / 128 = q7 at *
  generalize w / 256 = q8 at *
  generalize w / 4096 = q12 at *
  generalize w / 32768 = q15 at *
  generalize w / 1048576 = q20 at *
  generalize w / 33554432 = q25 at *
  generalize w / 2147483648 = q31 at *
  omega
theorem hit5 (c g w : Int) (w0 : 0 ≤ w) (w1 : w < 4294967296) : (w % 128 = c ∧ w / 4096 % 8 = g ∧ encW 5 c g 0 (0) (w / 32768 % 32) (w / 1048576 % 32) (takeF 5 w) = w) ↔ (w % 128 = c ∧ w / 4096 % 8 = g) := by
  have l : layF 5 (takeF 5 w) = w / 128 % 32 * 128 + w / 33554432 % 128 * 33554432 := lay_take5 (w / 128 % 32) (w / 33554432 % 128) (by omega) (by omega)
  have e : encW 5 c g 0 (0) (w / 32768 % 32) (w / 1048576 % 32) (takeF 5 w) = c + g * 4096 + 0 * 33554432 + 0 * 128 + w / 32768 % 32 * 32768 + w / 1048576 % 32 * 1048576 + (w / 128 % 32 * 128 + w / 33554432 % 128 * 33554432) := by
    rw [← l]
    rfl
  rw [e]
  clear e l
  have d0 : w = w % 128 + 128 * (w / 128) := by omega
  have p0 : 0 ≤ w % 128 ∧ w % 128 < 128 := by omega
  have d7 : w / 128 = w / 128 % 32 + 32 * (w / 4096) := chain w 7 5 128 32 4096 (by decide) (by decide) (by decide)
  have p7 : 0 ≤ w / 128 % 32 ∧ w / 128 % 32 < 32 := by omega
  have d12 : w / 4096 = w / 4096 % 8 + 8 * (w / 32768) := chain w 12 3 4096 8 32768 (by decide) (by decide) (by decide)
  have p12 : 0 ≤ w / 4096 % 8 ∧ w / 4096 % 8 < 8 := by omega
  have d15 : w / 32768 = w / 32768 % 32 + 32 * (w / 1048576) := chain w 15 5 32768 32 1048576 (by decide) (by decide) (by decide)
  have p15 : 0 ≤ w / 32768 % 32 ∧ w / 32768 % 32 < 32 := by omega
  have d20 : w / 1048576 = w / 1048576 % 32 + 32 * (w / 33554432) := chain w 20 5 1048576 32 33554432 (by decide) (by decide) (by decide)
  have p20 : 0 ≤ w / 1048576 % 32 ∧ w / 1048576 % 32 < 32 := by omega
  have d25 : w / 33554432 = w / 33554432 % 128 := by omega
  have p25 : 0 ≤ w / 33554432 % 128 ∧ w / 33554432 % 128 < 128 := by omega
  generalize w % 128 = x0 at *
  generalize w / 128 % 32 = x7 at *
  generalize w / 4096 % 8 = x12 at *
  generalize w / 32768 % 32 = x15 at *
  generalize w / 1048576 % 32 = x20 at *
  generalize w / 33554432 % 128 = x25 at *
  generalize w / 128 = q7 at *
  generalize w / 4096 = q12 at *
  generalize w / 32768 = q15 at *
  generalize w / 1048576 = q20 at *
  generalize w / 33554432 = q25 at *
  omega
theorem hit6 (c g h w : Int) (w0 : 0 ≤ w) (w1 : w < 4294967296) (h0 : 0 ≤ h) (h1 : h < 64) : (w % 128 = c ∧ w / 4096 % 8 = g ∧ encW 6 c g h (w / 128 % 32) (w / 32768 % 32) (0) (takeF 6 w) = w) ↔ (w % 128 = c ∧ w / 4096 % 8 = g ∧ w / 67108864 = h / 2) := by
  have l : layF 6 (takeF 6 w) = w / 1048576 % 64 * 1048576 := by
    show w / 1048576 % 64 % 64 * 1048576 = _
    omega
  have e : encW 6 c g h (w / 128 % 32) (w / 32768 % 32) (0) (takeF 6 w) = c + g * 4096 + h / 2 * 67108864 + w / 128 % 32 * 128 + w / 32768 % 32 * 32768 + 0 * 1048576 + (w / 1048576 % 64 * 1048576) := by
    rw [← l]
    rfl
  rw [e]
  clear e l
  have ph : 0 ≤ h / 2 ∧ h / 2 < 32 := by omega
  generalize h / 2 = y at *
  have d0 : w = w % 128 + 128 * (w / 128) := by omega
  have p0 : 0 ≤ w % 128 ∧ w % 128 < 128 := by omega
  have d7 : w / 128 = w / 128 % 32 + 32 * (w / 4096) := chain w 7 5 128 32 4096 (by decide) (by decide) (by decide)
  have p7 : 0 ≤ w / 128 % 32 ∧ w / 128 % 32 < 32 := by omega
  have d12 : w / 4096 = w / 4096 % 8 + 8 * (w / 32768) := chain w 12 3 4096 8 32768 (by decide) (by decide) (by decide)
  have p12 : 0 ≤ w / 4096 % 8 ∧ w / 4096 % 8 < 8 := by omega
  have d15 : w / 32768 = w / 32768 % 32 + 32 * (w / 1048576) := chain w 15 5 32768 32 1048576 (by decide) (by decide) (by decide)
  have p15 : 0 ≤ w / 32768 % 32 ∧ w / 32768 % 32 < 32 := by omega
  have d20 : w / 1048576 = w / 1048576 % 64 + 64 * (w / 67108864) := chain w 20 6 1048576 64 67108864 (by decide) (by decide) (by decide)
  have p20 : 0 ≤ w / 1048576 % 64 ∧ w / 1048576 % 64 < 64 := by omega
  have d26 : w / 67108864 = w / 67108864 % 64 := by omega
  have p26 : 0 ≤ w / 67108864 % 64 ∧ w / 67108864 % 64 < 64 := by omega
  generalize w % 128 = x0 at *
  generalize w / 128 % 32 = x7 at *
  generalize w / 4096 % 8 = x12 at *
  generalize w / 32768 % 32 = x15 at *
  generalize w / 1048576 % 64 = x20 at *
  generalize w / 67108864 % 64 = x26 at *
  generalize w / 128 = q7 at *
  generalize w / 4096 = q12 at *
  generalize w / 32768 = q15 at *
  generalize w / 1048576 = q20 at *
  generalize w / 67108864 = q26 at *
  omega
theorem hit7 (c g h w : Int) (w0 : 0 ≤ w) (w1 : w < 4294967296) (h0 : 0 ≤ h) (h1 : h < 64) : (w % 128 = c ∧ w / 4096 % 8 = g ∧ encW 7 c g h (w / 128 % 32) (w / 32768 % 32) (0) (takeF 7 w) = w) ↔ (w % 128 = c ∧ w / 4096 % 8 = g ∧ w / 33554432 = h) := by
  have l : layF 7 (takeF 7 w) = w / 1048576 % 32 * 1048576 := by
    show w / 1048576 % 32 % 32 * 1048576 = _
    omega
  have e : encW 7 c g h (w / 128 % 32) (w / 32768 % 32) (0) (takeF 7 w) = c + g * 4096 + h * 33554432 + w / 128 % 32 * 128 + w / 32768 % 32 * 32768 + 0 * 1048576 + (w / 1048576 % 32 * 1048576) := by
    rw [← l]
    rfl
  rw [e]
  clear e l
  have d0 : w = w % 128 + 128 * (w / 128) := by omega
  have p0 : 0 ≤ w % 128 ∧ w % 128 < 128 := by omega
  have d7 : w / 128 = w / 128 % 32 + 32 * (w / 4096) := chain w 7 5 128 32 4096 (by decide) (by decide) (by decide)
  have p7 : 0 ≤ w / 128 % 32 ∧ w / 128 % 32 < 32 := by omega
  have d12 : w / 4096 = w / 4096 % 8 + 8 * (w / 32768) := chain w 12 3 4096 8 32768 (by decide) (by decide) (by decide)
  have p12 : 0 ≤ w / 4096 % 8 ∧ w / 4096 % 8 < 8 := by omega
  have d15 : w / 32768 = w / 32768 % 32 + 32 * (w / 1048576) := chain w 15 5 32768 32 1048576 (by decide) (by decide) (by decide)
  have p15 : 0 ≤ w / 32768 % 32 ∧ w / 32768 % 32 < 32 := by omega
  have d20 : w / 1048576 = w / 1048576 % 32 + 32 * (w / 33554432) := chain w 20 5 1048576 32 33554432 (by decide) (by decide) (by decide)
  have p20 : 0 ≤ w / 1048576 % 32 ∧ w / 1048576 % 32 < 32 := by omega
  have d25 : w / 33554432 = w / 33554432 % 128 := by omega
  have p25 : 0 ≤ w / 33554432 % 128 ∧ w / 33554432 % 128 < 128 := by omega
  generalize w % 128 = x0 at *
  generalize w / 128 % 32 = x7 at *
  generalize w / 4096 % 8 = x12 at *
  generalize w / 32768 % 32 = x15 at *
  generalize w / 1048576 % 32 = x20 at *
  generalize w / 33554432 % 128 = x25 at *
  generalize w / 128 = q7 at *
  generalize w / 4096 = q12 at *
  generalize w / 32768 = q15 at *
  generalize w / 1048576 = q20 at *
  generalize w / 33554432 = q25 at *
  omega
theorem hit8 (c g h w : Int) (w0 : 0 ≤ w) (w1 : w < 4294967296) (h0 : 0 ≤ h) (h1 : h < 64) : (w % 128 = c ∧ w / 4096 % 8 = g ∧ encW 8 c g h (w / 128 % 32) (w / 32768 % 32) (w / 1048576 % 32) (takeF 8 w) = w) ↔ (w % 128 = c ∧ w / 4096 % 8 = g ∧ w / 33554432 = h) := by
  have l : layF 8 (takeF 8 w) = 0 := rfl
  have e : encW 8 c g h (w / 128 % 32) (w / 32768 % 32) (w / 1048576 % 32) (takeF 8 w) = c + g * 4096 + h * 33554432 + w / 128 % 32 * 128 + w / 32768 % 32 * 32768 + w / 1048576 % 32 * 1048576 + (0) := by
    rw [← l]
    rfl
  rw [e]
  clear e l
  have d0 : w = w % 128 + 128 * (w / 128) := by omega
  have p0 : 0 ≤ w % 128 ∧ w % 128 < 128 := by omega
  have d7 : w / 128 = w / 128 % 32 + 32 * (w / 4096) := chain w 7 5 128 32 4096 (by decide) (by decide) (by decide)
  have p7 : 0 ≤ w / 128 % 32 ∧ w / 128 % 32 < 32 := by omega
  have d12 : w / 4096 = w / 4096 % 8 + 8 * (w / 32768) := chain w 12 3 4096 8 32768 (by decide) (by decide) (by decide)
  have p12 : 0 ≤ w / 4096 % 8 ∧ w / 4096 % 8 < 8 := by omega
  have d15 : w / 32768 = w / 32768 % 32 + 32 * (w / 1048576) := chain w 15 5 32768 32 1048576 (by decide) (by decide) (by decide)
  have p15 : 0 ≤ w / 32768 % 32 ∧ w / 32768 % 32 < 32 := by omega
  have d20 : w / 1048576 = w / 1048576 % 32 + 32 * (w / 33554432) := chain w 20 5 1048576 32 33554432 (by decide) (by decide) (by decide)
  have p20 : 0 ≤ w / 1048576 % 32 ∧ w / 1048576 % 32 < 32 := by omega
  have d25 : w / 33554432 = w / 33554432 % 128 := by omega
  have p25 : 0 ≤ w / 33554432 % 128 ∧ w / 33554432 % 128 < 128 := by omega
  generalize w % 128 = x0 at *
  generalize w / 128 % 32 = x7 at *
  generalize w / 4096 % 8 = x12 at *
  generalize w / 32768 % 32 = x15 at *
  generalize w / 1048576 % 32 = x20 at *
  generalize w / 33554432 % 128 = x25 at *
  generalize w / 128 = q7 at *
  generalize w / 4096 = q12 at *
  generalize w / 32768 = q15 at *
  generalize w / 1048576 = q20 at *
  generalize w / 33554432 = q25 at *
  omega
end Go.Proofs.YtelogjpjglohoaaGreatDoor

namespace Go.Proofs.YtelogjpjglohoaaGreatDoor
open Go.RowKit
set_option linter.unusedVariables false

def ToldIt (f : Int) (t : ByteArray) : Prop := ∀ w, Calls Tryz.prog 145 #[.int .i64 f] w fun e w' => e = .returned (.string t) ∧ w' = w
/-- What ruleOf and take answer of a form and a word. -/
def RuleIt (f : Int) (R : Value) : Prop := ∀ w, Calls Tryz.prog 146 #[.int .i64 f] w fun e w' => e = .returned R ∧ Below w.heap.size w w'
def TakeIt (R : Value) (v N : Int) : Prop := ∀ w, Calls Tryz.prog 147 #[R, .int .i64 v] w fun e w' => e = .returned (.int .i64 N) ∧ Below w.heap.size w w'
theorem ra100 (w : World) : Calls Tryz.prog 148 #[.int .u8 100] w fun e w' => e = .returned (.int .i64 7) ∧ w' = w := by
  go_enter Tryz.func148, Tryz.ntmps148
  go_wp2
  go_ret
  exact ⟨rfl, rfl⟩
theorem ra49 (w : World) : Calls Tryz.prog 148 #[.int .u8 49] w fun e w' => e = .returned (.int .i64 15) ∧ w' = w := by
  go_enter Tryz.func148, Tryz.ntmps148
  go_wp2
  go_ret
  exact ⟨rfl, rfl⟩
theorem ra50 (w : World) : Calls Tryz.prog 148 #[.int .u8 50] w fun e w' => e = .returned (.int .i64 20) ∧ w' = w := by
  go_enter Tryz.func148, Tryz.ntmps148
  go_wp2
  go_ret
  exact ⟨rfl, rfl⟩
end Go.Proofs.YtelogjpjglohoaaGreatDoor

namespace Go.Proofs.YtelogjpjglohoaaGreatDoor
open Go.RowKit
set_option linter.unusedVariables false

/-- Five numbers at block b, to be written. -/
structure Five (w : World) (b : Nat) (v0 v1 v2 v3 v4 : Int) : Prop where
  c0 : w.cell? ⟨b, 0, none⟩ = some (.int .i64 v0)
  c1 : w.cell? ⟨b, 1, none⟩ = some (.int .i64 v1)
  c2 : w.cell? ⟨b, 2, none⟩ = some (.int .i64 v2)
  c3 : w.cell? ⟨b, 3, none⟩ = some (.int .i64 v3)
  c4 : w.cell? ⟨b, 4, none⟩ = some (.int .i64 v4)
  f0 : w.frozen? ⟨b, 0, none⟩ = false
  f1 : w.frozen? ⟨b, 1, none⟩ = false
  f2 : w.frozen? ⟨b, 2, none⟩ = false
  f3 : w.frozen? ⟨b, 3, none⟩ = false
  f4 : w.frozen? ⟨b, 4, none⟩ = false
theorem Five.set0 {w : World} {b : Nat} {v0 v1 v2 v3 v4 : Int} (h : Five w b v0 v1 v2 v3 v4) (x : Int) : Five (w.setCell ⟨b, 0, none⟩ (.int .i64 x)) b x v1 v2 v3 v4 :=
  ⟨World.cell?_setCell_same _ _ _ h.c0, (World.cell?_setCell_other _ _ _ _ (by simp)).trans h.c1, (World.cell?_setCell_other _ _ _ _ (by simp)).trans h.c2, (World.cell?_setCell_other _ _ _ _ (by simp)).trans h.c3, (World.cell?_setCell_other _ _ _ _ (by simp)).trans h.c4,
   (World.frozen?_setCell _ _ _ _).trans h.f0, (World.frozen?_setCell _ _ _ _).trans h.f1, (World.frozen?_setCell _ _ _ _).trans h.f2, (World.frozen?_setCell _ _ _ _).trans h.f3, (World.frozen?_setCell _ _ _ _).trans h.f4⟩
theorem Five.oth0 {w : World} {b d : Nat} {v0 v1 v2 v3 v4 : Int} (h : Five w b v0 v1 v2 v3 v4) (hd : b ≠ d) (u : Value) : Five (w.setCell ⟨d, 0, none⟩ u) b v0 v1 v2 v3 v4 :=
  ⟨(World.cell?_setCell_other _ _ _ _ (by simp <;> omega)).trans h.c0, (World.cell?_setCell_other _ _ _ _ (by simp <;> omega)).trans h.c1, (World.cell?_setCell_other _ _ _ _ (by simp <;> omega)).trans h.c2, (World.cell?_setCell_other _ _ _ _ (by simp <;> omega)).trans h.c3, (World.cell?_setCell_other _ _ _ _ (by simp <;> omega)).trans h.c4,
   (World.frozen?_setCell _ _ _ _).trans h.f0, (World.frozen?_setCell _ _ _ _).trans h.f1, (World.frozen?_setCell _ _ _ _).trans h.f2, (World.frozen?_setCell _ _ _ _).trans h.f3, (World.frozen?_setCell _ _ _ _).trans h.f4⟩
theorem Five.set1 {w : World} {b : Nat} {v0 v1 v2 v3 v4 : Int} (h : Five w b v0 v1 v2 v3 v4) (x : Int) : Five (w.setCell ⟨b, 1, none⟩ (.int .i64 x)) b v0 x v2 v3 v4 :=
  ⟨(World.cell?_setCell_other _ _ _ _ (by simp)).trans h.c0, World.cell?_setCell_same _ _ _ h.c1, (World.cell?_setCell_other _ _ _ _ (by simp)).trans h.c2, (World.cell?_setCell_other _ _ _ _ (by simp)).trans h.c3, (World.cell?_setCell_other _ _ _ _ (by simp)).trans h.c4,
   (World.frozen?_setCell _ _ _ _).trans h.f0, (World.frozen?_setCell _ _ _ _).trans h.f1, (World.frozen?_setCell _ _ _ _).trans h.f2, (World.frozen?_setCell _ _ _ _).trans h.f3, (World.frozen?_setCell _ _ _ _).trans h.f4⟩
theorem Five.oth1 {w : World} {b d : Nat} {v0 v1 v2 v3 v4 : Int} (h : Five w b v0 v1 v2 v3 v4) (hd : b ≠ d) (u : Value) : Five (w.setCell ⟨d, 1, none⟩ u) b v0 v1 v2 v3 v4 :=
  ⟨(World.cell?_setCell_other _ _ _ _ (by simp <;> omega)).trans h.c0, (World.cell?_setCell_other _ _ _ _ (by simp <;> omega)).trans h.c1, (World.cell?_setCell_other _ _ _ _ (by simp <;> omega)).trans h.c2, (World.cell?_setCell_other _ _ _ _ (by simp <;> omega)).trans h.c3, (World.cell?_setCell_other _ _ _ _ (by simp <;> omega)).trans h.c4,
   (World.frozen?_setCell _ _ _ _).trans h.f0, (World.frozen?_setCell _ _ _ _).trans h.f1, (World.frozen?_setCell _ _ _ _).trans h.f2, (World.frozen?_setCell _ _ _ _).trans h.f3, (World.frozen?_setCell _ _ _ _).trans h.f4⟩
theorem Five.set2 {w : World} {b : Nat} {v0 v1 v2 v3 v4 : Int} (h : Five w b v0 v1 v2 v3 v4) (x : Int) : Five (w.setCell ⟨b, 2, none⟩ (.int .i64 x)) b v0 v1 x v3 v4 :=
  ⟨(World.cell?_setCell_other _ _ _ _ (by simp)).trans h.c0, (World.cell?_setCell_other _ _ _ _ (by simp)).trans h.c1, World.cell?_setCell_same _ _ _ h.c2, (World.cell?_setCell_other _ _ _ _ (by simp)).trans h.c3, (World.cell?_setCell_other _ _ _ _ (by simp)).trans h.c4,
   (World.frozen?_setCell _ _ _ _).trans h.f0, (World.frozen?_setCell _ _ _ _).trans h.f1, (World.frozen?_setCell _ _ _ _).trans h.f2, (World.frozen?_setCell _ _ _ _).trans h.f3, (World.frozen?_setCell _ _ _ _).trans h.f4⟩
theorem Five.oth2 {w : World} {b d : Nat} {v0 v1 v2 v3 v4 : Int} (h : Five w b v0 v1 v2 v3 v4) (hd : b ≠ d) (u : Value) : Five (w.setCell ⟨d, 2, none⟩ u) b v0 v1 v2 v3 v4 :=
  ⟨(World.cell?_setCell_other _ _ _ _ (by simp <;> omega)).trans h.c0, (World.cell?_setCell_other _ _ _ _ (by simp <;> omega)).trans h.c1, (World.cell?_setCell_other _ _ _ _ (by simp <;> omega)).trans h.c2, (World.cell?_setCell_other _ _ _ _ (by simp <;> omega)).trans h.c3, (World.cell?_setCell_other _ _ _ _ (by simp <;> omega)).trans h.c4,
   (World.frozen?_setCell _ _ _ _).trans h.f0, (World.frozen?_setCell _ _ _ _).trans h.f1, (World.frozen?_setCell _ _ _ _).trans h.f2, (World.frozen?_setCell _ _ _ _).trans h.f3, (World.frozen?_setCell _ _ _ _).trans h.f4⟩
theorem Five.set3 {w : World} {b : Nat} {v0 v1 v2 v3 v4 : Int} (h : Five w b v0 v1 v2 v3 v4) (x : Int) : Five (w.setCell ⟨b, 3, none⟩ (.int .i64 x)) b v0 v1 v2 x v4 :=
  ⟨(World.cell?_setCell_other _ _ _ _ (by simp)).trans h.c0, (World.cell?_setCell_other _ _ _ _ (by simp)).trans h.c1, (World.cell?_setCell_other _ _ _ _ (by simp)).trans h.c2, World.cell?_setCell_same _ _ _ h.c3, (World.cell?_setCell_other _ _ _ _ (by simp)).trans h.c4,
   (World.frozen?_setCell _ _ _ _).trans h.f0, (World.frozen?_setCell _ _ _ _).trans h.f1, (World.frozen?_setCell _ _ _ _).trans h.f2, (World.frozen?_setCell _ _ _ _).trans h.f3, (World.frozen?_setCell _ _ _ _).trans h.f4⟩
theorem Five.oth3 {w : World} {b d : Nat} {v0 v1 v2 v3 v4 : Int} (h : Five w b v0 v1 v2 v3 v4) (hd : b ≠ d) (u : Value) : Five (w.setCell ⟨d, 3, none⟩ u) b v0 v1 v2 v3 v4 :=
  ⟨(World.cell?_setCell_other _ _ _ _ (by simp <;> omega)).trans h.c0, (World.cell?_setCell_other _ _ _ _ (by simp <;> omega)).trans h.c1, (World.cell?_setCell_other _ _ _ _ (by simp <;> omega)).trans h.c2, (World.cell?_setCell_other _ _ _ _ (by simp <;> omega)).trans h.c3, (World.cell?_setCell_other _ _ _ _ (by simp <;> omega)).trans h.c4,
   (World.frozen?_setCell _ _ _ _).trans h.f0, (World.frozen?_setCell _ _ _ _).trans h.f1, (World.frozen?_setCell _ _ _ _).trans h.f2, (World.frozen?_setCell _ _ _ _).trans h.f3, (World.frozen?_setCell _ _ _ _).trans h.f4⟩
theorem Five.set4 {w : World} {b : Nat} {v0 v1 v2 v3 v4 : Int} (h : Five w b v0 v1 v2 v3 v4) (x : Int) : Five (w.setCell ⟨b, 4, none⟩ (.int .i64 x)) b v0 v1 v2 v3 x :=
  ⟨(World.cell?_setCell_other _ _ _ _ (by simp)).trans h.c0, (World.cell?_setCell_other _ _ _ _ (by simp)).trans h.c1, (World.cell?_setCell_other _ _ _ _ (by simp)).trans h.c2, (World.cell?_setCell_other _ _ _ _ (by simp)).trans h.c3, World.cell?_setCell_same _ _ _ h.c4,
   (World.frozen?_setCell _ _ _ _).trans h.f0, (World.frozen?_setCell _ _ _ _).trans h.f1, (World.frozen?_setCell _ _ _ _).trans h.f2, (World.frozen?_setCell _ _ _ _).trans h.f3, (World.frozen?_setCell _ _ _ _).trans h.f4⟩
theorem Five.oth4 {w : World} {b d : Nat} {v0 v1 v2 v3 v4 : Int} (h : Five w b v0 v1 v2 v3 v4) (hd : b ≠ d) (u : Value) : Five (w.setCell ⟨d, 4, none⟩ u) b v0 v1 v2 v3 v4 :=
  ⟨(World.cell?_setCell_other _ _ _ _ (by simp <;> omega)).trans h.c0, (World.cell?_setCell_other _ _ _ _ (by simp <;> omega)).trans h.c1, (World.cell?_setCell_other _ _ _ _ (by simp <;> omega)).trans h.c2, (World.cell?_setCell_other _ _ _ _ (by simp <;> omega)).trans h.c3, (World.cell?_setCell_other _ _ _ _ (by simp <;> omega)).trans h.c4,
   (World.frozen?_setCell _ _ _ _).trans h.f0, (World.frozen?_setCell _ _ _ _).trans h.f1, (World.frozen?_setCell _ _ _ _).trans h.f2, (World.frozen?_setCell _ _ _ _).trans h.f3, (World.frozen?_setCell _ _ _ _).trans h.f4⟩
theorem Five.below {w w' : World} {b B : Nat} {v0 v1 v2 v3 v4 : Int} (h : Five w b v0 v1 v2 v3 v4) (hb : Below B w w') (hB : b < B) : Five w' b v0 v1 v2 v3 v4 :=
  ⟨(hb.cell (p := ⟨b, 0, none⟩) hB).trans h.c0, (hb.cell (p := ⟨b, 1, none⟩) hB).trans h.c1, (hb.cell (p := ⟨b, 2, none⟩) hB).trans h.c2, (hb.cell (p := ⟨b, 3, none⟩) hB).trans h.c3, (hb.cell (p := ⟨b, 4, none⟩) hB).trans h.c4,
   (hb.frozen (p := ⟨b, 0, none⟩) hB).trans h.f0, (hb.frozen (p := ⟨b, 1, none⟩) hB).trans h.f1, (hb.frozen (p := ⟨b, 2, none⟩) hB).trans h.f2, (hb.frozen (p := ⟨b, 3, none⟩) hB).trans h.f3, (hb.frozen (p := ⟨b, 4, none⟩) hB).trans h.f4⟩
theorem Five.drew {w : World} {b : Nat} {v0 v1 v2 v3 v4 : Int} (h : Five w b v0 v1 v2 v3 v4) : Five w.drew b v0 v1 v2 v3 v4 := ⟨h.c0, h.c1, h.c2, h.c3, h.c4, h.f0, h.f1, h.f2, h.f3, h.f4⟩
end Go.Proofs.YtelogjpjglohoaaGreatDoor

namespace Go.Proofs.YtelogjpjglohoaaGreatDoor
end Go.Proofs.YtelogjpjglohoaaGreatDoor

namespace Go.Proofs.YtelogjpjglohoaaGreatDoor
open Go.RowKit
set_option linter.unusedVariables false

set_option maxRecDepth 100000 in
set_option maxHeartbeats 8000000 in
theorem tapA (op f v : Int) (R : Value) (N : Int) (v0 : 0 ≤ v) (v1 : v < 4294967296) (ht : Hid (ToldIt f { data := #[100, 105] })) (hr : Hid (RuleIt f R)) (hn : Hid (TakeIt R v N)) (w : World) :
    Calls Tryz.prog 132 #[.int .i64 op, .int .i64 f, .int .i64 v] w fun e w' => e = .returned (.agg #[.int .i64 op, .int .i64 (v / 128 % 32), .int .i64 0, .int .i64 0, .int .i64 N]) ∧ Below w.heap.size w w' := by
  have hA100 : bits .and .i64 (v / 128) 31 = v / 128 % 32 := and_5 _
  go_enter Tryz.func132, Tryz.ntmps132
  go_wp2_with fail
  refine (ht.out _).mono ?_
  rintro e w2 ⟨rfl, rfl⟩
  clear ht
  go_wp2
  go_loopw [16] (fun t wr => ∃ k : Nat, t = .int .i64 k ∧ Below w.heap.size w wr ∧ w.heap.size + 2 ≤ wr.heap.size ∧ Five wr w.heap.size 0 0 0 0 0 ∧ Hid ((k = 0 ∧ Five wr (w.heap.size + 1) op 0 0 0 0) ∨ (k = 1 ∧ Five wr (w.heap.size + 1) op (v / 128 % 32) 0 0 0) ∨ (k = 2 ∧ Five wr (w.heap.size + 1) op (v / 128 % 32) 0 0 N))) (fun t _ => 2 - (intOf t).toNat)
  case atStart =>
    refine ⟨0, rfl, ?_, by simp, ?_, .inl ⟨rfl, ?_⟩⟩
    · repeat (first | exact Below.refl _ _ | refine Below.setCell ?_ (by first | omega | (simp; done) | (simp; omega)) _ | refine bdN ?_ _ | refine Below.drew ?_ | refine Below.alloc ?_ (by first | omega | (simp; done) | (simp; omega)) _)
    · constructor <;> simp
    · constructor <;> simp
  case round =>
    obtain ⟨k, rfl, hbel, hsz, hR, hX⟩ := hrel
    have hX' := hX.out
    clear hX
    rcases hX' with ⟨rfl, hX⟩ | ⟨rfl, hX⟩ | ⟨rfl, hX⟩
    · obtain ⟨c0, c1, c2, c3, c4, f0, f1, f2, f3, f4⟩ := hX
      have hX : Hid (Five wr (w.heap.size + 1) op 0 0 0 0) := ⟨c0, c1, c2, c3, c4, f0, f1, f2, f3, f4⟩
      clear hr hn 
      go_wp2_with fail
      go_region_held3 (fun _ => True) (trivial) (first | (go_at_call 149; refine (fld100 _ _).mono ?_; rintro e wa ⟨rfl, rfl⟩) | (go_at_call 148; refine (ra100 _).mono ?_; rintro e wa ⟨rfl, rfl⟩) | (go_at_call 144; refine (low5 _).mono ?_; rintro e wa ⟨rfl, rfl⟩))
      all_goals
        go_wp2
        go_roundw
        case rel =>
          exact ⟨1, rfl, by repeat (first | exact hbel | refine Below.setCell ?_ (by first | omega | (simp; done) | (simp; omega)) _ | refine bdN ?_ _ | refine Below.drew ?_), by first | omega | (simp; omega), by repeat (first | exact hR | refine Five.oth1 ?_ (by omega) _ | refine Five.drew ?_), .inr (.inl ⟨rfl, by first | exact hX.out.set1 _ | exact hX.out.drew.set1 _ | (exact (hX.out.set1 _).drew) | (refine Five.drew ?_; exact hX.out.drew.set1 _)⟩)⟩
        case measure => simp [intOf]
    · obtain ⟨c0, c1, c2, c3, c4, f0, f1, f2, f3, f4⟩ := hX
      have hX : Hid (Five wr (w.heap.size + 1) op (v / 128 % 32) 0 0 0) := ⟨c0, c1, c2, c3, c4, f0, f1, f2, f3, f4⟩
      go_wp2_with fail
      refine (hr.out _).mono ?_
      rintro e w3 ⟨rfl, hb3⟩
      have X3 := hX.out.below hb3 (by omega)
      have R3 := hR.below hb3 (by omega)
      have B3 := hbel.trans (hb3.mono (by omega))
      have z3 : w.heap.size + 2 ≤ w3.heap.size := Nat.le_trans hsz hb3.size
      clear hb3 hX hR hbel hsz c0 c1 c2 c3 c4 f0 f1 f2 f3 f4 hr
      go_wp2_with fail
      refine (hn.out _).mono ?_
      rintro e w4 ⟨rfl, hb4⟩
      have X4 := X3.below hb4 (by omega)
      have R4 := R3.below hb4 (by omega)
      have B4 := B3.trans (hb4.mono (by omega))
      have z4 : w.heap.size + 2 ≤ w4.heap.size := Nat.le_trans z3 hb4.size
      clear hb4 X3 R3 B3 z3 hn
      obtain ⟨c0, c1, c2, c3, c4, f0, f1, f2, f3, f4⟩ := X4
      have hX : Hid (Five w4 (w.heap.size + 1) op (v / 128 % 32) 0 0 0) := ⟨c0, c1, c2, c3, c4, f0, f1, f2, f3, f4⟩
      go_wp2
      go_roundw
      case rel =>
        exact ⟨2, rfl, by exact B4.setCell (by show w.heap.size ≤ w.heap.size + 1; omega) _, by first | omega | (simp; omega), by exact R4.oth4 (by omega) _, .inr (.inr (⟨rfl, by exact hX.out.set4 _⟩))⟩
      case measure => simp [intOf]
    · obtain ⟨c0, c1, c2, c3, c4, f0, f1, f2, f3, f4⟩ := hX
      obtain ⟨d0, d1, d2, d3, d4, g0, g1, g2, g3, g4⟩ := hR
      clear hr hn
      go_wp2
      refine bodyPost_ret (v := .agg #[.int .i64 op, .int .i64 (v / 128 % 32), .int .i64 0, .int .i64 0, .int .i64 N]) (by simp [results, Tryz.results132, go_sem, d0, d1, d2, d3, d4]) rfl ⟨rfl, ?_⟩
      repeat (first | exact hbel | refine Below.setCell ?_ (by first | omega | (simp; done) | (simp; omega)) _ | refine bdN ?_ _ | refine Below.drew ?_)
end Go.Proofs.YtelogjpjglohoaaGreatDoor
